/- The document's own source: texts. -/
import Derived.Test.YtnamdlljdgllmaaGreatKRefA
import Derived.Test.YtnamdlljdgllmaaGreatKMath
import Derived.Test.YtnamdlljdgllmaaGreatKValO
import Derived.Lib.OthersKept
import Derived.Laws.AppendOwnNone
import Derived.Outline
import Derived.Deep.OwnRows
namespace Go.Proofs.YtnamdlljdgllmaaGreat
set_option linter.unusedVariables false
set_option linter.unusedSimpArgs false
open Go.RowKit

set_option maxRecDepth 100000 in
theorem Rd.conv {w : World} {B n cap : Nat} {A : Option Addr} {l : List UInt8} (h : Rd w B (.slice A l.length cap) l) (hn : n ≤ l.length) (c : Nat) :
    (convert 46 9 (.slice A n c)).run Tryz.prog w = .ok (.string ⟨(l.take n).toArray⟩) w := by
  obtain ⟨A', cap', hv, _, _, h1⟩ := h
  injection hv with hA _ _
  subst hA
  rcases Nat.eq_zero_or_pos n with rfl | hp
  · rcases A with _ | a
    · rw [run_convert_bytes_nil w 46 5 Tryz.underlying46 Tryz.underlying5 0 c 9 Tryz.underlying9]
      rfl
    · exact run_convert_bytes_back w 46 9 5 a c [] Tryz.underlying46 Tryz.underlying5 Tryz.underlying9 (fun j hj => absurd hj (by simp))
  · obtain ⟨b, off, rfl, _, hcell⟩ := h1 (by omega)
    rw [run_convert_bytes_arg w 46 5 Tryz.underlying46 Tryz.underlying5 b off n c ((l.take n).map fun b => (b.toNat : Int)) (by simp; omega) ?_ 9 Tryz.underlying9, strOfNums_bytes]
    intro i hi
    rw [hcell i (by omega)]
    have hi2 : i < l.length := by omega
    simp [List.getElem?_map, List.getElem?_eq_getElem hi2, List.getD, List.getElem?_take, hi]

theorem Rd.cutAny {w : World} {B cap k : Nat} {A : Option Addr} {l : List UInt8} (h : Rd w B (.slice A l.length cap) l) (hk : k ≤ l.length) :
    Rd w B (.slice (if cap = k then A else A.map (·.add k)) (l.length - k) (cap - k)) (l.drop k) := by
  obtain ⟨A', cap', hv, hc, hm, h1⟩ := h
  injection hv with hA _ hcap
  subst hA; subst hcap
  refine ⟨_, _, by rw [List.length_drop], by rw [List.length_drop]; omega, ⟨by omega, fun h => ?_⟩, fun hl => ?_⟩
  · split at h
    · omega
    · rcases A with _ | a
      · have := hm.2 rfl; omega
      · cases h
  · rw [List.length_drop] at hl
    obtain ⟨b, off, rfl, hB, hcell⟩ := h1 (by omega)
    rw [if_neg (by omega)]
    refine ⟨b, off + k, by simp only [Option.map_some, Addr.add]; split <;> simp_all, hB, fun i hi => ?_⟩
    rw [List.length_drop] at hi
    have := hcell (k + i) (by omega)
    rw [List.getElem_drop, Nat.add_assoc]
    exact this

set_option maxHeartbeats 1000000 in
set_option maxRecDepth 1000000 in
theorem rstext_any (g B : Nat) (n : Int) (st : Option (List UInt8)) (w : World) (h : RS w g B st) (hg : B ≤ g) (hn : n ≤ 9223372036854775807) :
    Calls Tryz.prog 73 #[.pointer (some ⟨g, 0, none⟩), .int .i64 n] w fun e w' => e = .returned (.string ⟨(rdText n st).1.toArray⟩) ∧ RS w' g B (rdText n st).2 ∧ Only w w' g := by
  have H := Lib.hid h
  obtain ⟨A0, n0, c0, b0, hv⟩ : ∃ A n c b, w.heap[g]? = some (.cells #[.slice A n c, .bool b] 56 (0, 0)) := by
    rcases st with _ | l
    · obtain ⟨A, n, c, hu⟩ := h; exact ⟨_, _, _, _, hu⟩
    · obtain ⟨v, hv, A, c, rfl, _⟩ := h; exact ⟨_, _, _, _, hv⟩
  obtain ⟨k0, k1, e0, e1⟩ := rcells hv
  obtain ⟨m, st', hr⟩ : ∃ m st', rdCount n st = (m, st') := ⟨_, _, rfl⟩
  have HN := Lib.hid hn
  have HR := Lib.hid hr
  have hm0 : st' = none → m = 0 := fun h0 => by
    have h1 : (rdCount n st).2 = none := by rw [hr]; exact h0
    have h2 : (rdCount n st).1 = 0 := by
      unfold rdCount at h1 ⊢
      split at h1
      · next hc => rw [if_pos hc]
      · next hc => rw [if_neg hc]; exact rdN_none _ _ h1
    rw [hr] at h2; exact h2
  clear hv h hn
  rcases st' with _ | r
  · have hm := hm0 rfl
    subst hm
    have HT : Hid (rdText n st = ([], none)) := by show rdText n st = ([], none); unfold rdText; rw [hr, if_pos rfl]
    clear hr hm0
    go_enter Tryz.func73, Tryz.ntmps73
    go_wp2_with fail
    refine (rscount_any g B n st _ H.out hg HN.out).mono ?_
    rw [HR.out]
    rintro e w1 ⟨rfl, ⟨Au, nu, cu, hu⟩, ho⟩
    obtain ⟨d0, d1, f0, f1⟩ := rcells hu
    have HU := Lib.hid hu
    clear hu k0 k1 e0 e1
    go_wp2_with fail
    go_ret
    rw [HT.out]
    exact ⟨rfl, ⟨_, _, _, set_rs1 (set_rs0 HU.out)⟩, (ho.set _ _).set _ _⟩
  · by_cases hl : r.length < m
    · have HT : Hid (rdText n st = ([], none)) := by
        show rdText n st = ([], none)
        unfold rdText; rw [hr, if_neg (by omega)]
        show (if r.length < m then _ else _) = _
        rw [if_pos hl]
      clear hr hm0
      go_enter Tryz.func73, Tryz.ntmps73
      go_wp2_with fail
      refine (rscount_any g B n st _ H.out hg HN.out).mono ?_
      rw [HR.out]
      rintro e w1 ⟨rfl, ⟨v, hu, A, cap, rfl, _⟩, ho⟩
      obtain ⟨d0, d1, f0, f1⟩ := rcells hu
      have HU := Lib.hid hu
      clear hu k0 k1 e0 e1
      go_wp2_with fail
      go_ret
      rw [HT.out]
      exact ⟨rfl, ⟨_, _, _, set_rs1 (set_rs0 HU.out)⟩, (ho.set _ _).set _ _⟩
    · have HT : Hid (rdText n st = (r.take m, some (r.drop m))) := by
        show rdText n st = (r.take m, some (r.drop m))
        unfold rdText; rw [hr]
        by_cases h0 : m = 0
        · subst h0; rw [if_pos rfl]; simp
        · rw [if_neg h0]
          show (if r.length < m then _ else _) = _
          rw [if_neg hl]
      have hml : m ≤ r.length := by omega
      clear hr hm0
      go_enter Tryz.func73, Tryz.ntmps73
      go_wp2_with fail
      refine (rscount_any g B n st _ H.out hg HN.out).mono ?_
      rw [HR.out]
      rintro e w1 ⟨rfl, ⟨v, hu, hrd⟩, ho⟩
      obtain ⟨d0, d1, f0, f1⟩ := rcells hu
      have HRD := Lib.hid hrd
      have HU := Lib.hid hu
      obtain ⟨A, cap, rfl, hcap, hmax, _⟩ := hrd
      have hmax1 := hmax.1
      have hcv := HRD.out.conv hml
      have HCut := Lib.hid (HRD.out.cutAny hml)
      clear hu k0 k1 e0 e1 hmax
      by_cases hck : cap = m
      · subst hck
        have HLL : Hid (r.length - cap = 0) := by show r.length - cap = 0; omega
        go_wp2_with fail
        go_ret
        rw [HT.out]
        exact ⟨rfl, ⟨_, set_rs0 HU.out, (by have h1 := HLL.out; simpa [h1] using HCut.out : Rd w1 B _ (r.drop cap)).keep ((Below.refl _ _).setCell hg _)⟩, ho.set _ _⟩
      · go_wp2_with fail
        go_ret
        rw [HT.out]
        exact ⟨rfl, ⟨_, set_rs0 HU.out, (by simpa [hck] using HCut.out : Rd w1 B _ (r.drop m)).keep ((Below.refl _ _).setCell hg _)⟩, ho.set _ _⟩
end Go.Proofs.YtnamdlljdgllmaaGreat

/- Bytes put behind bytes of the call's own: nothing but rows of bytes may turn. -/
namespace Go.Proofs.YtnamdlljdgllmaaGreat
set_option linter.unusedVariables false
set_option linter.unusedSimpArgs false
set_option maxRecDepth 100000
open Go.RowKit

theorem add_atK (b off i : Nat) : ((⟨b, off, none⟩ : Addr).add i) = ⟨b, off + i, none⟩ := by
  unfold Addr.add
  split
  · next h => simp [h]
  · rfl
abbrev K8 (w w' : World) : Prop := Lib.OthersKept 5 Option.none w w'
theorem OwnB.kind {w : World} {B : Nat} {v : Value} {l : List UInt8} (h : OwnB w B v l) : ∀ g, v.ownBlock = some g → ∃ c fz, w.heap[g]? = some (.cells c 5 fz) := by
  intro g hg
  rcases h.2 with ⟨rfl, -⟩ | ⟨g', cap, cur, rfl, -, hh, -⟩
  · cases hg
  · obtain rfl : g' = g := by simpa [Value.ownBlock] using hg
    exact ⟨cur, _, hh⟩
theorem OwnB.rd {w : World} {B : Nat} {v : Value} {l : List UInt8} (h : OwnB w B v l) : Rd w w.heap.size v l := by
  have hc := fun g hg => World.ownsRow.cells (g := g) h hg
  have hlt := World.ownsRow.lt h
  rcases h.2 with ⟨rfl, h0⟩ | ⟨g, cap, cur, rfl, hB, hh, hcap, hm, -⟩
  · have hl : l = [] := List.eq_nil_of_length_eq_zero h0
    subst hl
    exact ⟨none, 0, rfl, Nat.le_refl _, ⟨by omega, fun _ => rfl⟩, fun h => absurd h (by simp)⟩
  · refine ⟨some ⟨g, 0, none⟩, cap, rfl, hcap, ⟨by unfold maxLen at hm; omega, fun h => by cases h⟩, fun hp => ⟨g, 0, rfl, (hlt g rfl).2, fun i hi => ?_⟩⟩
    have h1 := hc g rfl i (.int .u8 (l[i].toNat : Int)) (by simp [bcells, hi])
    rw [add_atK] at h1
    exact h1
theorem Rd.one {w : World} (b : UInt8) {x : Int} (hx : x = (b.toNat : Int)) : Rd (w.alloc (.cells #[.int .u8 x] 5)) (w.heap.size + 1) (.slice (some ⟨w.heap.size, 0, none⟩) 1 1) [b] := by
  subst hx
  refine ⟨some ⟨w.heap.size, 0, none⟩, 1, rfl, Nat.le_refl _, ⟨by omega, fun h => by cases h⟩, fun _ => ⟨w.heap.size, 0, rfl, by omega, fun i hi => ?_⟩⟩
  obtain rfl : i = 0 := by simpa using hi
  exact Go.Joins.cell_of_block (heap_alloc_new w _) 0
theorem Rd.one' {w : World} {g : Nat} (hg : g = w.heap.size) (b : UInt8) {x : Int} (hx : x = (b.toNat : Int)) : Rd (w.alloc (.cells #[.int .u8 x] 5)) (w.heap.size + 1) (.slice (some ⟨g, 0, none⟩) 1 1) [b] := by
  subst hg; exact Rd.one b hx
theorem wpList_append_bytes {w : World} {ops : Array Oper} {rest : List Oper} {o : Oper} {a : Act} {Q : Exit → Act → World → Prop} (hgd : o.guard = none) (s x : Operand)
    (ho : o.op = .call { callee := .builtin .append, args := #[s, x], argTypes := #[46, 46] }) (B : Nat) (v : Value) (l : List UInt8) (hs : a.eval s = v) (hown : OwnB w B v l)
    (D : Nat) (vx : Value) (m : List UInt8) (hx : a.eval x = vx) (hrd : Rd w D vx m) (hB : B ≤ w.heap.size) (hl : l.length + m.length ≤ 140737488355328)
    (K : ∀ v' w', OwnB w' B v' (l ++ m) → w.grownBy w' v.ownBlock → wpList Tryz.prog ops Q rest (a.put o.dst v') w') : wpList Tryz.prog ops Q (o :: rest) a w := by
  obtain ⟨i0, hi, hz0, hz1, hz2⟩ := info_parts Tryz.infoU8
  obtain ⟨A, cap, rfl, hcap, ⟨hc2, hA⟩, hc⟩ := hrd
  cases A with
  | none =>
    have hm : m = [] := by
      match m, hc with
      | [], _ => rfl
      | b :: r, hc => obtain ⟨_, _, h, _⟩ := hc (by simp); cases h
    subst hm
    obtain rfl := hA rfl
    refine wpList_append_own_none hgd s x 46 ho B 5 i0 1 Tryz.underlying46 hi v l.length (bcells l) hs hown hx ?_
    exact K v w (by rw [List.append_nil]; exact hown) ⟨rfl, rfl, rfl, Nat.le_refl _, fun _ _ _ => rfl⟩
  | some ad =>
    refine wpList_append_own _ hgd s x 46 ho B 5 i0 (.int .u8 0) 1 1 Tryz.underlying46 hi hz0 hz1 hz2 rfl (by decide) v l.length (bcells l) hs hown ad m.length cap (bcells m) hx (by simp [bcells]) ?_ (bcells_oneCell m) (by unfold maxLen; omega) (by omega) hB ?_
    · intro j u hj
      have hjl : j < m.length := by have := (List.getElem?_eq_some_iff.1 hj).1; simpa [bcells] using this
      obtain ⟨b, off, hAd, -, hcell⟩ := hc (by omega)
      injection hAd with hAd
      subst hAd
      rw [add_atK, hcell j hjl]
      simpa [bcells, List.getElem?_map, List.getElem?_eq_getElem hjl] using hj
    · intro v' w' h1 h2 _
      exact K v' w' (by unfold OwnB; rw [List.length_append, bcells_append]; exact h1) h2

def PutsR (B : Nat) (l : List UInt8) (w : World) (e : Ending) (w' : World) : Prop := ∃ v', e = .returned v' ∧ OwnB w' B v' l ∧ Below B w w' ∧ K8 w w'
theorem k8_below {w w' : World} (h : Below w.heap.size w w') : K8 w w' := fun k o hk _ _ => (h.block k (Array.getElem?_eq_some_iff.1 hk).1).trans hk
theorem k8_grown {w w' : World} {B : Nat} {v : Value} {l : List UInt8} (h : OwnB w B v l) (hg : w.grownBy w' v.ownBlock) : K8 w w' := (Lib.OthersKept.refl _ _ _).grown hg h.kind
theorem below_own {a w w' : World} {B : Nat} {v : Value} {l : List UInt8} (hb : Below B a w) (h : OwnB w B v l) (hB : B ≤ w.heap.size) (hg : w.grownBy w' v.ownBlock) : Below B a w' := hb.grown hg hB (fun k hk => (World.ownsRow.lt h k hk).1)
end Go.Proofs.YtnamdlljdgllmaaGreat

/- Codes put behind bytes of the call's own. -/
namespace Go.Proofs.YtnamdlljdgllmaaGreat
set_option linter.unusedVariables false
set_option linter.unusedSimpArgs false
set_option maxRecDepth 100000
open Go.RowKit

theorem Box.k8 {w w' : World} {g : Nat} {a b c d e : Value} (h : Box w g a b c d e) (hk : K8 w w') : Box w' g a b c d e := hk g _ h (fun h => by cases h) (fun c fz h => by injection h with _ h; exact absurd h (by decide))

def PutOK (t : VT) : Prop := ∀ (S : Nat → Prop) (v bv : Value) (B : Nat) (l : List UInt8) (w : World), (∀ x, S x → x < B) → B ≤ w.heap.size → LV w S t v → OwnB w B bv l → l.length + (encT t).length ≤ 140737488355328 →
  Calls Tryz.prog 138 #[bv, v] w (PutsR B (l ++ encT t) w)

theorem item_atB {w u : World} {B : Nat} {S : Nat → Prop} {A : Option Addr} {l : List VT} (hS : ∀ b, S b → b < B) (h : LVA w S A l) (hb : Below B w u) (j : Nat) (hj : j < l.length) :
    ∃ p o A2 e2 A3 e3, A = some ⟨p, o, none⟩ ∧ u.cell? ⟨p, o + j * 5, none⟩ = some (.int .i64 l[j].kind) ∧ u.cell? ⟨p, o + j * 5 + 1, none⟩ = some (.int .i64 l[j].num) ∧ u.cell? ⟨p, o + j * 5 + 2, none⟩ = some (.string l[j].text) ∧
      u.cell? ⟨p, o + j * 5 + 3, none⟩ = some (.slice A2 l[j].items.length e2) ∧ u.cell? ⟨p, o + j * 5 + 4, none⟩ = some (.slice A3 l[j].names.length e3) ∧
      LV u S l[j] (.agg #[.int .i64 l[j].kind, .int .i64 l[j].num, .string l[j].text, .slice A2 l[j].items.length e2, .slice A3 l[j].names.length e3]) := by
  obtain ⟨p, o, hA, hp, hv⟩ := h (by omega)
  obtain ⟨c0, c1, c2, c3, c4, h0, h1, h2, h3, h4, hx⟩ := hv.at j hj
  obtain ⟨A2, e2, A3, e3, hag, -⟩ := hx.shape
  injection hag with hag; injection hag with hag
  injection hag with y0 hag; injection hag with y1 hag; injection hag with y2 hag; injection hag with y3 hag; injection hag with y4 hag
  subst y0 y1 y2 y3 y4
  have hk : ∀ o, u.cell? ⟨p, o, none⟩ = w.cell? ⟨p, o, none⟩ := fun o => hb.cell (p := ⟨p, o, none⟩) (hS p hp)
  exact ⟨p, o, A2, e2, A3, e3, hA, (hk _).trans h0, (hk _).trans h1, (hk _).trans h2, (hk _).trans h3, (hk _).trans h4, hx.keep fun b hb' => hb.block b (hS b hb')⟩
theorem text_atB {w u : World} {B : Nat} {S : Nat → Prop} {A : Option Addr} {ns : List ByteArray} (hS : ∀ b, S b → b < B) (h : StrsAt w S A ns) (hb : Below B w u) (j : Nat) (hj : j < ns.length) :
    ∃ p o, A = some ⟨p, o, none⟩ ∧ p < B ∧ u.cell? ⟨p, o + j, none⟩ = some (.string ns[j]) ∧ ns[j].size ≤ 140737488351232 := by
  obtain ⟨p, o, hA, hp, hc⟩ := h (by omega)
  exact ⟨p, o, hA, hS p hp, (hb.cell (p := ⟨p, o + j, none⟩) (hS p hp)).trans (hc j hj).1, (hc j hj).2⟩

set_option maxHeartbeats 4000000 in
set_option maxRecDepth 100000 in
theorem putItems6 (num : Int) (txs : ByteArray) (its : List VT) (nms : List ByteArray) (ih : ∀ x ∈ its, PutOK x) (S : Nat → Prop) (v bv : Value) (B : Nat) (l : List UInt8) (w : World) (hS : ∀ x, S x → x < B) (hB : B ≤ w.heap.size) (h : LV w S (.mk 6 num txs its nms) v) (hown : OwnB w B bv l)
    (hlen : l.length + (grp its.length ++ encL false nms its).length ≤ 140737488355328) :
    Calls Tryz.prog 161 #[bv, v] w (PutsR B (l ++ (grp its.length ++ encL false nms its)) w) := by
  obtain ⟨A, c, A', c', rfl, -, -, -, hl1, -, hN, hA⟩ := h.shape
  simp only [VT.kind, VT.num, VT.text, VT.items, VT.names] at *
  have HX := Lib.hid (Box.new (w := w) (.int .i64 6) (.int .i64 num) (.string txs) (.slice A its.length c) (.slice A' nms.length c'))
  have HB0 := Lib.hid (below_box (w := w) (.cells #[.int .i64 6, .int .i64 num, .string txs, .slice A its.length c, .slice A' nms.length c'] 29))
  have HO := Lib.hid (OwnB.below hown HB0.out)
  have HA := Lib.hid hA
  have HLEN := Lib.hid hlen
  obtain ⟨full, hfull⟩ : ∃ full, full = grp its.length ++ encL false nms its := ⟨_, rfl⟩
  have HF := Lib.hid hfull
  rw [← hfull] at HLEN ⊢
  clear h hA hown hlen hfull
  go_enter Tryz.func161, Tryz.ntmps161
  have k3 := HX.out.c3
  go_wp2_with fail
  refine (count_any its.length _ (by omega)).mono ?_
  rintro e w1 (⟨_, _, x, rfl, hx, hb⟩ | ⟨h, _⟩)
  rotate_left
  · omega
  rw [Int.toNat_natCast] at hx
  have HR := Lib.hid hx.rd
  have hb1 := toStart HB0.out hb
  have HB1 := Lib.hid (hb1.mono hB)
  have HK1 := Lib.hid (k8_below hb1)
  have HO1 := Lib.hid (HO.out.below hb)
  have HX1 := Lib.hid (HX.out.call hb)
  have hz1 := Nat.le_trans hB hb1.size
  have hg := grp_length its.length
  have hgl : l.length + (grp its.length).length ≤ 140737488355328 := by have h1 := HLEN.out; rw [HF.out, List.length_append] at h1; omega
  clear hb hb1 hx k3 HB0 HO HX
  go_wp2_with (at_builtin; go_must (refine wpList_append_bytes rfl _ _ rfl B _ l rfl HO1.out w1.heap.size x (grp its.length) rfl HR.out hz1 hgl ?_))
  intro v2 w2 hv2 hg2
  have HB2 := Lib.hid (below_own HB1.out HO1.out hz1 hg2)
  have HK2 := Lib.hid (HK1.out.trans (k8_grown HO1.out hg2))
  have HX2 := Lib.hid (HX1.out.k8 (k8_grown HO1.out hg2))
  have HO2 := Lib.hid hv2
  have k3 := HX2.out.c3
  clear hg2 hv2 HB1 HK1 HX1 HO1 HR
  go_wp2_with fail
  go_loopw [0, 22] (fun b i wr => ∃ (j : Nat) (X : List UInt8), i = .int .i64 j ∧ j ≤ its.length ∧ Hid (OwnB wr B b (l ++ X)) ∧ Hid (X ++ encL false (nms.drop j) (its.drop j) = full) ∧ Hid (Below B w wr) ∧ Hid (K8 w wr) ∧ Hid (Box wr w.heap.size (.int .i64 6) (.int .i64 num) (.string txs) (.slice A its.length c) (.slice A' nms.length c'))) (fun _ i _ => its.length - (intOf i).toNat)
  case atStart => exact ⟨0, grp its.length, rfl, Nat.zero_le _, HO2, HF.out.symm, HB2, HK2, HX2⟩
  case round =>
    obtain ⟨j, X, rfl, hj, HO, HE, HB, HK, HX⟩ := hrel
    clear HX2 HK2 HB2 HO2 k3
    by_cases hlt : j < its.length
    · obtain ⟨p, o, A2, e2, A3, e3, rfl, h0, h1, h2, h3, h4, hx⟩ := item_atB hS HA.out HB.out j hlt
      have k0 : wr.cell? ⟨w.heap.size, 0, none⟩ = some (.int .i64 6) := HX.out.c0
      have hwl : w.heap.size < wr.heap.size := HX.out.lt
      have HV := Lib.hid hx
      clear hx
      go_wp2_with fail
      have hbx := below_box (w := wr) (.cells #[.int .i64 its[j].kind, .int .i64 its[j].num, .string its[j].text, .slice A2 its[j].items.length e2, .slice A3 its[j].names.length e3] 29)
      have hBz : B ≤ wr.heap.size := Nat.le_trans hB HB.out.size
      have HE2 : Hid (X ++ encT its[j] ++ encL false (nms.drop (j + 1)) (its.drop (j + 1)) = full) := Lib.hid (by
        have h1 := HE.out
        rw [encL_step false hlt (fun h => by cases h)] at h1
        simpa using h1)
      have HLE : Hid ((l ++ X).length + (encT its[j]).length ≤ 140737488355328) := Lib.hid (by
        have h1 := HLEN.out
        rw [← HE2.out] at h1
        simp only [List.length_append] at h1 ⊢; omega)
      have HC := Lib.hid (ih its[j] (List.getElem_mem hlt) S _ _ B (l ++ X) _ hS (Nat.le_trans hBz hbx.size) (HV.out.keep fun b hb => (hbx.mono hBz).block b (hS b hb)) (OwnB.below HO.out hbx) HLE.out)
      have HBx := Lib.hid (HB.out.trans (hbx.mono hBz))
      have HKx := Lib.hid (HK.out.trans (k8_below hbx))
      have HXx := Lib.hid (HX.out.call hbx)
      clear hbx h0 h1 h2 h3 h4 k0
      refine HC.out.mono ?_
      rintro e w3 ⟨v3, rfl, hv3, hb3, hk3⟩
      have HO3 : Hid (OwnB w3 B v3 (l ++ (X ++ encT its[j]))) := Lib.hid (by rw [← List.append_assoc]; exact hv3)
      have HB3 := Lib.hid (HBx.out.trans hb3)
      have HK3 := Lib.hid (HKx.out.trans hk3)
      have HX3 := Lib.hid (HXx.out.k8 hk3)
      clear hv3 hb3 hk3 HC HE HO HB HK HX
      go_wp2_with fail
      go_roundw
      case rel => exact ⟨j + 1, X ++ encT its[j], by go_num, by omega, HO3, HE2, HB3, HK3, HX3⟩
      case measure => simp [intOf]; omega
    · obtain rfl : j = its.length := by omega
      go_wp2_with fail
      go_ret
      exact ⟨_, rfl, by have h1 := HE.out; rw [List.drop_of_length_le (Nat.le_refl _), encL_nil, List.append_nil] at h1; rw [← h1]; exact HO.out, HB.out, HK.out⟩
end Go.Proofs.YtnamdlljdgllmaaGreat

/- Statements whose order Go leaves open, where two operations that do more than yield may come in either order: a walk along a tree of orders, with a relation of one's choice for what must stay while something that only yields is waited for. -/
namespace Go.Proofs.YtnamdlljdgllmaaGreat
set_option linter.unusedVariables false
set_option linter.unusedSimpArgs false
open Go.RowKit Go.Sort

structure LaterR (R : World → World → Prop) (w : World) where
  u : World
  h : R w u
abbrev CRR (R : World → World → Prop) (w : World) : World → Prop := fun u => ∃ p : LaterR R w, u = p.u

inductive OT where
  | tail (l : List Nat) : OT
  | pure (l : List Nat) (t : OT) : OT
  | free (l : List Nat) (t : OT) : OT
  | step (i : Nat) (t : OT) : OT
  | fork (i : Nat) (a : OT) (j : Nat) (b : OT) : OT

section
variable {P : Program} {ops : Array Oper} {Q : Exit → Act → World → Prop} {md : Region.Mode} {R : World → World → Prop} {T : List Nat}

def anyR (R : World → World → Prop) (T : List Nat) (P : Program) (md : Region.Mode) (ops : Array Oper) (Q : Exit → Act → World → Prop) : Nat → Array Bool → Act → World → Prop
  | 0, listed, a, w => Region.ready md ops listed = [] ∧ Q .normal a w
  | f + 1, listed, a, w => (Region.ready md ops listed = [] → Q .normal a w) ∧
      ∀ i ∈ Region.ready md ops listed, wpOp P ops Q i (fun a' w' => (i ∈ T ∨ R w w') ∧ anyR R T P md ops Q f (listed.setIfInBounds i true) a' w') a w
theorem any_of_anyR : ∀ (f : Nat) (listed : Array Bool) (a : Act) (w : World), anyR R T P md ops Q f listed a w → wpAny P md ops Q f listed a w
  | 0, _, _, _, h => h
  | f + 1, _, _, _, h => ⟨h.1, fun i hi => wpOp_mono (fun a' w' h' => any_of_anyR f _ a' w' h'.2) (h.2 i hi)⟩

def lastWait (md : Region.Mode) (ops : Array Oper) (T : List Nat) (i : Nat) : Bool := T.all fun j => match ops[j]? with
  | none => true
  | some o => o.after.toList.any fun e => Region.binds md e && Nat.beq e.on i

theorem anyR_first (hrr : ∀ w, R w w) (R2 : World → World → Prop) (hrr2 : ∀ w, R2 w w) (htr : ∀ a b c, R2 a b → R2 b c → R2 a c) {i : Nat} {oi : Oper} {v : Value} (hi : ops[i]? = some oi) (hT0 : (lastWait md ops T i = true ∧ ∀ a b, R a b → R2 a b) ∨ ∀ a b, R2 a b) (hsel : Region.noSelect ops = true) (hQ : ∀ c d v a w, Q (.panic c) (Act.put a d v) w → Q (.panic c) a w) :
    ∀ (f : Nat) (listed : Array Bool) (a : Act) (w : World),
      (∀ j oj, ops[j]? = some oj → j ≠ i → listed.getD j true = false → (∀ e ∈ oj.after, Region.binds md e = true → e.on ≠ i) → oi.apart ops oj = true) →
      i ∈ Region.ready md ops listed → YieldsIf P ops (fun u => R2 w u) oi v a →
      anyR R T P md ops Q f (listed.setIfInBounds i true) (a.put oi.dst v) w → anyR R T P md ops Q (f + 1) listed a w := by
  intro f
  induction f with
  | zero =>
    intro listed a w _ hr hy H
    refine ⟨fun h => absurd hr (by rw [h]; exact List.not_mem_nil), fun j hj => ?_⟩
    by_cases hji : j = i
    · subst hji; exact hy.wpOp hi (hrr2 _) ⟨.inr (hrr _), H⟩
    · exact absurd (ready_mono hj hji) (by rw [H.1]; exact List.not_mem_nil)
  | succ f ih =>
    intro listed a w hfree hr hy H
    refine ⟨fun h => absurd hr (by rw [h]; exact List.not_mem_nil), fun j hj => ?_⟩
    by_cases hji : j = i
    · subst hji; exact hy.wpOp hi (hrr2 _) ⟨.inr (hrr _), H⟩
    · obtain ⟨hjun, oj, hoj, hall⟩ := mem_ready.1 hj
      have hnot : ∀ e ∈ oj.after, Region.binds md e = true → e.on ≠ i := by
        intro e he hb heq
        have h1 := hall e he hb
        have h0 := (mem_ready.1 hr).1
        rw [heq] at h1
        rcases Nat.lt_or_ge i listed.size with h' | h'
        · simp [h'] at h0 h1; rw [h0] at h1; cases h1
        · simp [Array.getElem?_eq_none h'] at h1
      have hjT : lastWait md ops T i = true → j ∉ T := by
        intro hT hm
        have h1 := List.all_eq_true.1 hT j hm
        rw [hoj] at h1
        obtain ⟨e, he, hb⟩ := List.any_eq_true.1 h1
        simp only [Bool.and_eq_true] at hb
        exact hnot e (by simpa using he) hb.1 (Nat.eq_of_beq_eq_true hb.2)
      have h2 := wpOp_putIf (S := fun u => R2 w u) hoj (hfree j oj hoj hji hjun hnot) (fun cs b => Region.noSelect_spec hsel i oi cs b hi) (fun cs b => Region.noSelect_spec hsel j oj cs b hoj)
        (fun c a w => hQ c oi.dst v a w) hy (H.2 j (ready_mono hj hji))
      refine wpOp_mono (fun a' w' h3 => ?_) h2
      have hR : R2 w w' := by
        rcases hT0 with ⟨hT, himp⟩ | hall
        · exact himp _ _ (h3.2.1.resolve_left (hjT hT))
        · exact hall _ _
      refine ⟨h3.2.1, ih (listed.setIfInBounds j true) a' w' ?_ (ready_mono hr (Ne.symm hji)) (h3.1.imp (fun ⟨h1, h2⟩ => ⟨h1, fun u hu => h2 u (htr _ _ _ hR hu)⟩) id) ?_⟩
      · intro k ok hk hki hun hno
        refine hfree k ok hk hki ?_ hno
        by_cases hjk : j = k
        · subst hjk; exact hjun
        · rw [getD_set_ne true hjk] at hun; exact hun
      · rw [Array.setIfInBounds_comm _ _ hji]
        exact h3.2.2

/-! ### the tree, checked -/
def okTail (md : Region.Mode) (ops : Array Oper) (T : List Nat) : Nat → List Nat → Array Bool → Bool
  | 0, [], listed => (Region.ready md ops listed).isEmpty
  | f + 1, i :: r, listed => (ops[i]?).isSome && Region.ready md ops listed == [i] && T.contains i && okTail md ops T f r (listed.setIfInBounds i true)
  | _, _, _ => false
def okPure (all : Bool) (md : Region.Mode) (ops : Array Oper) (T : List Nat) : List Nat → Array Bool → Bool
  | [], _ => true
  | i :: r, listed => match ops[i]? with
    | none => false
    | some o => isPure o && (Region.ready md ops listed).contains i && Region.free md ops listed i && (all || lastWait md ops T i) && okPure all md ops T r (listed.setIfInBounds i true)
def setAll (l : List Nat) (listed : Array Bool) : Array Bool := l.foldl (fun x i => x.setIfInBounds i true) listed
def okOT (md : Region.Mode) (ops : Array Oper) (T : List Nat) : Nat → OT → Array Bool → Bool
  | f, .tail l, listed => okTail md ops T f l listed
  | f, .pure l t, listed => l.length ≤ f && okPure false md ops T l listed && okOT md ops T (f - l.length) t (setAll l listed)
  | f, .free l t, listed => l.length ≤ f && okPure true md ops T l listed && okOT md ops T (f - l.length) t (setAll l listed)
  | f, .step i t, listed => 1 ≤ f && (ops[i]?).isSome && Region.ready md ops listed == [i] && okOT md ops T (f - 1) t (listed.setIfInBounds i true)
  | f, .fork i a j b, listed => 1 ≤ f && (ops[i]?).isSome && (ops[j]?).isSome && Region.ready md ops listed == [i, j] && okOT md ops T (f - 1) a (listed.setIfInBounds i true) && okOT md ops T (f - 1) b (listed.setIfInBounds j true)

/-! ### the walk -/
def wpStepR (P : Program) (ops : Array Oper) (Q : Exit → Act → World → Prop) (o : Oper) (K : Act → World → Prop) (a : Act) (w : World) : Prop :=
  if Region.wanted o (yielded ops a.tmps) then o.wp P a w K Q else K (a.put o.dst undef) w
def wpTail (P : Program) (ops : Array Oper) (Q : Exit → Act → World → Prop) : List Oper → Act → World → Prop
  | [], a, w => Q .normal a w
  | o :: r, a, w => wpStepR P ops Q o (wpTail P ops Q r) a w
abbrev Always : World → World → Prop := fun _ _ => True
instance (w : World) : Inhabited (LaterR Always w) := ⟨⟨w, trivial⟩⟩
def wpOT (R : World → World → Prop) (T : List Nat) (P : Program) (ops : Array Oper) (Q : Exit → Act → World → Prop) : OT → Act → World → Prop
  | .tail l, a, w => wpTail P ops Q (atNats ops l) a w
  | .pure l t, a, w => wpQuiet P ops (CRR R w) (fun a' => wpOT R T P ops Q t a' w) (atNats ops l) a
  | .free l t, a, w => wpQuiet P ops (CRR Always w) (fun a' => wpOT R T P ops Q t a' w) (atNats ops l) a
  | .step i t, a, w => ∀ o, ops[i]? = some o → wpStepR P ops Q o (fun a' w' => (i ∈ T ∨ R w w') ∧ wpOT R T P ops Q t a' w') a w
  | .fork i x j y, a, w => (∀ o, ops[i]? = some o → wpStepR P ops Q o (fun a' w' => (i ∈ T ∨ R w w') ∧ wpOT R T P ops Q x a' w') a w) ∧ (∀ o, ops[j]? = some o → wpStepR P ops Q o (fun a' w' => (j ∈ T ∨ R w w') ∧ wpOT R T P ops Q y a' w') a w)

theorem wpOp_of_step {i : Nat} {o : Oper} {K : Act → World → Prop} {a : Act} {w : World} (ho : ops[i]? = some o) (h : wpStepR P ops Q o K a w) : wpOp P ops Q i K a w := by
  unfold wpOp wpStepR at *
  simp only [ho]
  split
  · next hw => rw [if_pos hw] at h; exact .inl h
  · next hw => rw [if_neg hw] at h; exact h
theorem step_mono {o : Oper} {K K' : Act → World → Prop} {a : Act} {w : World} (hk : ∀ a w, K a w → K' a w) (h : wpStepR P ops Q o K a w) : wpStepR P ops Q o K' a w := by
  unfold wpStepR at *
  split
  · next hw => rw [if_pos hw] at h; exact Oper.wp_mono hk h
  · next hw => rw [if_neg hw] at h; exact hk _ _ h
theorem atNats_cons {i : Nat} {r : List Nat} {o : Oper} (h : ops[i]? = some o) : atNats ops (i :: r) = o :: atNats ops r := by simp [atNats, h]
theorem anyR_only {i : Nat} {o : Oper} {f : Nat} {listed : Array Bool} {a : Act} {w : World} (ho : ops[i]? = some o) (hr : Region.ready md ops listed = [i])
    (h : wpStepR P ops Q o (fun a' w' => (i ∈ T ∨ R w w') ∧ anyR R T P md ops Q f (listed.setIfInBounds i true) a' w') a w) : anyR R T P md ops Q (f + 1) listed a w :=
  ⟨(fun h0 => by rw [hr] at h0; cases h0), fun j hj => by
    rw [hr] at hj
    obtain rfl : j = i := by simpa using hj
    exact wpOp_of_step ho h⟩
theorem anyR_tail : ∀ (f : Nat) (l : List Nat) (listed : Array Bool) (a : Act) (w : World), okTail md ops T f l listed = true → wpTail P ops Q (atNats ops l) a w → anyR R T P md ops Q f listed a w
  | 0, [], listed, a, w, hB, h => ⟨by unfold okTail at hB; simpa using hB, h⟩
  | 0, i :: r, listed, a, w, hB, h => by unfold okTail at hB; cases hB
  | f + 1, [], listed, a, w, hB, h => by unfold okTail at hB; cases hB
  | f + 1, i :: r, listed, a, w, hB, h => by
    unfold okTail at hB
    simp only [Bool.and_eq_true, beq_iff_eq] at hB
    obtain ⟨⟨⟨h1, h2⟩, h3⟩, h4⟩ := hB
    obtain ⟨o, ho⟩ := Option.isSome_iff_exists.1 h1
    rw [atNats_cons ho] at h
    exact anyR_only ho h2 (step_mono (fun a' w' h' => ⟨.inl (by simpa using h3), anyR_tail f r _ a' w' h4 h'⟩) h)
theorem yieldsR {o : Oper} {v : Value} {a : Act} {w : World} (hp : isPure o = true) (hw : Region.wanted o (yielded ops a.tmps) = true) (h : ∀ u, CRR R w u → o.quietAt P a (CRR R w) u v) :
    YieldsIf P ops (fun u => R w u) o v a := by
  refine .inl ⟨hw, fun u hu => ?_⟩
  have h1 := h u ⟨⟨u, hu⟩, rfl⟩
  unfold Oper.quietAt at h1
  cases hr : (execOp a.eval o).run P u with
  | halt x u' => rw [hr] at h1; exact absurd h1 (by simp [Oper.quietUpon])
  | ok n u' =>
    obtain ⟨x, rfl⟩ := pure_value hp hr
    rw [hr] at h1
    obtain ⟨rfl, rfl⟩ := h1
    rfl
theorem anyR_pure (hrr : ∀ w, R w w) (R2 : World → World → Prop) (all : Bool) (hrr2 : ∀ w, R2 w w) (htr : ∀ a b c, R2 a b → R2 b c → R2 a c) (h2 : if all then ∀ a b, R2 a b else ∀ a b, R a b → R2 a b) (hsel : Region.noSelect ops = true) (hQ : ∀ c d v a w, Q (.panic c) (Act.put a d v) w → Q (.panic c) a w) (f : Nat) {w : World} {K : Act → Prop} :
    ∀ (l : List Nat) (listed : Array Bool) (a : Act), okPure all md ops T l listed = true → (∀ a', K a' → anyR R T P md ops Q f (setAll l listed) a' w) → wpQuiet P ops (CRR R2 w) K (atNats ops l) a → anyR R T P md ops Q (l.length + f) listed a w
  | [], listed, a, _, hK, h => by
    have h1 := hK a h
    simpa [setAll] using h1
  | i :: r, listed, a, hB, hK, h => by
    unfold okPure at hB
    cases ho : ops[i]? with
    | none => rw [ho] at hB; cases hB
    | some o =>
      rw [ho] at hB
      simp only [Bool.and_eq_true] at hB
      obtain ⟨⟨⟨⟨hp, hr⟩, hk⟩, hT⟩, hB'⟩ := hB
      rw [atNats_cons ho] at h
      have hT' : (lastWait md ops T i = true ∧ ∀ a b, R a b → R2 a b) ∨ ∀ a b, R2 a b := by
        cases all with
        | true => exact .inr (by simpa using h2)
        | false => exact .inl ⟨by simpa using hT, by simpa using h2⟩
      have e : (i :: r).length + f = (r.length + f) + 1 := by simp; omega
      rw [e]
      unfold wpQuiet at h
      have hK' : ∀ a', K a' → anyR R T P md ops Q f (setAll r (listed.setIfInBounds i true)) a' w := fun a' h' => hK a' h'
      by_cases hw : Region.wanted o (yielded ops a.tmps) = true
      · rw [if_pos hw] at h
        obtain ⟨v, h1, h3⟩ := h
        exact anyR_first hrr R2 hrr2 htr ho hT' hsel hQ _ listed a w (Region.free_spec ho hk) (by simpa using hr) (yieldsR hp hw h1) (anyR_pure hrr R2 all hrr2 htr h2 hsel hQ f r _ _ hB' hK' h3)
      · rw [if_neg hw] at h
        exact anyR_first hrr R2 hrr2 htr ho hT' hsel hQ _ listed a w (Region.free_spec ho hk) (by simpa using hr) (.inr ⟨by simpa using hw, rfl⟩) (anyR_pure hrr R2 all hrr2 htr h2 hsel hQ f r _ _ hB' hK' h)
theorem anyR_of_OT (hrr : ∀ w, R w w) (htr : ∀ a b c, R a b → R b c → R a c) (hsel : Region.noSelect ops = true) (hQ : ∀ c d v a w, Q (.panic c) (Act.put a d v) w → Q (.panic c) a w) :
    ∀ (t : OT) (f : Nat) (listed : Array Bool) (a : Act) (w : World), okOT md ops T f t listed = true → wpOT R T P ops Q t a w → anyR R T P md ops Q f listed a w
  | .tail l, f, listed, a, w, hB, h => anyR_tail f l listed a w hB h
  | .pure l t, f, listed, a, w, hB, h => by
    unfold okOT at hB
    simp only [Bool.and_eq_true, decide_eq_true_eq] at hB
    obtain ⟨⟨h1, h2⟩, h3⟩ := hB
    have e : f = l.length + (f - l.length) := by omega
    rw [e]
    exact anyR_pure hrr R false hrr htr (by simp) hsel hQ _ l listed a h2 (fun a' h' => anyR_of_OT hrr htr hsel hQ t _ _ a' w h3 h') h
  | .free l t, f, listed, a, w, hB, h => by
    unfold okOT at hB
    simp only [Bool.and_eq_true, decide_eq_true_eq] at hB
    obtain ⟨⟨h1, h2⟩, h3⟩ := hB
    have e : f = l.length + (f - l.length) := by omega
    rw [e]
    exact anyR_pure hrr Always true (fun _ => trivial) (fun _ _ _ _ _ => trivial) (by simp [Always]) hsel hQ _ l listed a h2 (fun a' h' => anyR_of_OT hrr htr hsel hQ t _ _ a' w h3 h') h
  | .step i t, f, listed, a, w, hB, h => by
    unfold okOT at hB
    simp only [Bool.and_eq_true, decide_eq_true_eq, beq_iff_eq] at hB
    obtain ⟨⟨⟨h1, h2⟩, h3⟩, h4⟩ := hB
    obtain ⟨o, ho⟩ := Option.isSome_iff_exists.1 h2
    have e : f = (f - 1) + 1 := by omega
    rw [e]
    exact anyR_only ho h3 (step_mono (fun a' w' h' => ⟨h'.1, anyR_of_OT hrr htr hsel hQ t _ _ a' w' h4 h'.2⟩) (h o ho))
  | .fork i x j y, f, listed, a, w, hB, h => by
    unfold okOT at hB
    simp only [Bool.and_eq_true, decide_eq_true_eq, beq_iff_eq] at hB
    obtain ⟨⟨⟨⟨⟨h1, h2⟩, h3⟩, h4⟩, h5⟩, h6⟩ := hB
    obtain ⟨o, ho⟩ := Option.isSome_iff_exists.1 h2
    obtain ⟨o', ho'⟩ := Option.isSome_iff_exists.1 h3
    have e : f = (f - 1) + 1 := by omega
    rw [e]
    refine ⟨(fun h0 => by rw [h4] at h0; cases h0), fun k hk => ?_⟩
    rw [h4] at hk
    rcases List.mem_cons.1 hk with rfl | hk
    · exact wpOp_of_step ho (step_mono (fun a' w' h' => ⟨h'.1, anyR_of_OT hrr htr hsel hQ x _ _ a' w' h5 h'.2⟩) (h.1 o ho))
    · obtain rfl : k = j := by simpa using hk
      exact wpOp_of_step ho' (step_mono (fun a' w' h' => ⟨h'.1, anyR_of_OT hrr htr hsel hQ y _ _ a' w' h6 h'.2⟩) (h.2 o' ho'))
def okAll (ops : Array Oper) (T : List Nat) (t : OT) : Bool := Region.noSelect ops && okOT .any ops T ops.size t (Array.replicate ops.size false)
theorem wp_region_OT (R : World → World → Prop) (hrr : ∀ w, R w w) (htr : ∀ a b c, R a b → R b c → R a c) (T : List Nat) (t : OT) {id : Nat} {a : Act} {w : World} (hm : P.follows .mixedOrders = true) (hB : okAll ops T t = true)
    (hQ : ∀ c d v a w, Q (.panic c) (Act.put a d v) w → Q (.panic c) a w) (h : wpOT R T P ops Q t a w.drew) : (Code.region id ops true).wp P Q a w := by
  unfold okAll at hB
  simp only [Bool.and_eq_true] at hB
  exact wp_region_any hm (any_of_anyR (R := R) (T := T) _ _ _ _ (anyR_of_OT hrr htr hB.1 hQ t _ _ a w.drew hB.2 h))

/-! ### nodes, one at a time -/
theorem ot_pure {l : List Nat} {t : OT} {a : Act} {w : World} (h : wpQuiet P ops (CRR R w) (fun a' => wpOT R T P ops Q t a' w) (atNats ops l) a) : wpOT R T P ops Q (.pure l t) a w := h
theorem ot_free {l : List Nat} {t : OT} {a : Act} {w : World} (h : wpQuiet P ops (CRR Always w) (fun a' => wpOT R T P ops Q t a' w) (atNats ops l) a) : wpOT R T P ops Q (.free l t) a w := h
theorem ot_one {i : Nat} {o : Oper} {t : OT} {a : Act} {w : World}
    (h : ∀ K : Act → World → Prop, (∀ a' w', (i ∈ T ∨ R w w') → wpOT R T P ops Q t a' w' → K a' w') → if Region.wanted o (yielded ops a.tmps) = true then o.wp P a w K Q else K (a.put o.dst undef) w) :
    wpStepR P ops Q o (fun a' w' => (i ∈ T ∨ R w w') ∧ wpOT R T P ops Q t a' w') a w := h _ fun _ _ h1 h2 => ⟨h1, h2⟩
theorem ot_step {i : Nat} {o : Oper} {t : OT} {a : Act} {w : World} (ho : ops[i]? = some o)
    (h : ∀ K : Act → World → Prop, (∀ a' w', (i ∈ T ∨ R w w') → wpOT R T P ops Q t a' w' → K a' w') → if Region.wanted o (yielded ops a.tmps) = true then o.wp P a w K Q else K (a.put o.dst undef) w) :
    wpOT R T P ops Q (.step i t) a w := fun o' ho' => by
  rw [ho] at ho'
  injection ho' with e
  subst e
  exact ot_one h
theorem ot_fork {i j : Nat} {o o' : Oper} {x y : OT} {a : Act} {w : World} (ho : ops[i]? = some o) (ho' : ops[j]? = some o')
    (h : ∀ K : Act → World → Prop, (∀ a' w', (i ∈ T ∨ R w w') → wpOT R T P ops Q x a' w' → K a' w') → if Region.wanted o (yielded ops a.tmps) = true then o.wp P a w K Q else K (a.put o.dst undef) w)
    (h' : ∀ K : Act → World → Prop, (∀ a' w', (j ∈ T ∨ R w w') → wpOT R T P ops Q y a' w' → K a' w') → if Region.wanted o' (yielded ops a.tmps) = true then o'.wp P a w K Q else K (a.put o'.dst undef) w) :
    wpOT R T P ops Q (.fork i x j y) a w := ⟨ot_step (t := x) ho h, ot_step (t := y) ho' h'⟩
theorem wanted_none {o : Oper} {f : Nat → Option Bool} (hg : o.guard = none) : Region.wanted o f = true := by unfold Region.wanted; rw [hg]
theorem ot_act {i : Nat} {o : Oper} {t : OT} {a : Act} {w : World} (ho : ops[i]? = some o) (hg : o.guard = none)
    (h : ∀ K : Act → World → Prop, (∀ a' w', (i ∈ T ∨ R w w') → wpOT R T P ops Q t a' w' → K a' w') → o.wp P a w K Q) :
    wpOT R T P ops Q (.step i t) a w := ot_step ho fun K hK => by rw [if_pos (wanted_none hg)]; exact h K hK
theorem ot_last {i : Nat} {o : Oper} {l : List Nat} {a : Act} {w : World} (ho : ops[i]? = some o)
    (h : ∀ K : Act → World → Prop, (∀ a' w', wpOT R T P ops Q (.tail l) a' w' → K a' w') → if Region.wanted o (yielded ops a.tmps) = true then o.wp P a w K Q else K (a.put o.dst undef) w) :
    wpOT R T P ops Q (.tail (i :: l)) a w := by
  show wpTail P ops Q (atNats ops (i :: l)) a w
  rw [atNats_cons ho]
  exact h _ fun _ _ h1 => h1
theorem ot_end {a : Act} {w : World} (h : Q .normal a w) : wpOT R T P ops Q (.tail []) a w := h
end
end Go.Proofs.YtnamdlljdgllmaaGreat

/- Values made, and copied. -/
namespace Go.Proofs.YtnamdlljdgllmaaGreat
set_option linter.unusedVariables false
set_option linter.unusedSimpArgs false
open Go.RowKit

theorem Tryz.infoStr : (Tryz.prog.info? 9).map (fun i => (i.zero, i.size, i.bytes)) = some (some (.string ⟨#[]⟩), 1, 16) := by kernel_rfl
theorem Tryz.infoVal : (Tryz.prog.info? 29).map (fun i => (i.zero, i.size, i.bytes)) = some (some (.agg #[.int .i64 0, .int .i64 0, .string ⟨#[]⟩, .slice none 0 0, .slice none 0 0]), 5, 80) := by kernel_rfl

theorem strs_nil (w : World) (S : Nat → Prop) (A : Option Addr) : StrsAt w S A [] := fun h => absurd h (by simp)
theorem lva_nil (w : World) (S : Nat → Prop) (A : Option Addr) : LVA w S A [] := fun h => absurd h (by simp)
theorem leaf_lv (w : World) (S : Nat → Prop) (k i : Int) (s : ByteArray) (hk : Rng k) (hi : Rng i) (hs : s.size ≤ 140737488351232) :
    LV w S (.mk k i s [] []) (.agg #[.int .i64 k, .int .i64 i, .string s, .slice none 0 0, .slice none 0 0]) := LV.mk hk hi hs (by simp) (by simp) (strs_nil _ _ _) (lva_nil _ _ _)

section
set_option maxHeartbeats 400000
variable (w : World)
end

/-! ### names copied -/
def New (B : Nat) (w : World) : Nat → Prop := fun b => B ≤ b ∧ b < w.heap.size
theorem run_append_nothing (A : Option Addr) (c : Nat) (w : World) (ty : TypeId) : (Builtin.append_ #[23, 23] ty #[.slice none 0 0, .slice A 0 c]).run Tryz.prog w = .ok (.slice none 0 0) w := by
  obtain ⟨i0, hi, -, -, -⟩ := info_parts Tryz.infoStr
  cases A <;> simp [Builtin.append_, run_underlying Tryz.underlying23, sizeOf, typeInfo, hi, Builtin.lenOf, Builtin.firstCells, loadCells, loadCellsFrom]
theorem addr_at (b off i : Nat) : ((⟨b, off, none⟩ : Addr).add i) = ⟨b, off + i, none⟩ := by
  unfold Addr.add
  split
  · next h => simp [h]
  · rfl
theorem wpList_append_nothing {w : World} {ops : Array Oper} {rest : List Oper} {o : Oper} {a : Act} {Q : Exit → Act → World → Prop} (hgd : o.guard = none) (s x : Operand)
    (ho : o.op = .call { callee := .builtin .append, args := #[s, x], argTypes := #[23, 23] }) (hs : a.eval s = .slice none 0 0) (A : Option Addr) (c : Nat) (hx : a.eval x = .slice A 0 c)
    (h : wpList Tryz.prog ops Q rest (a.put o.dst (.slice none 0 0)) w) : wpList Tryz.prog ops Q (o :: rest) a w := by
  refine wpList_plain hgd fun K hK => ?_
  have hrun := run_append_nothing A c w o.type
  unfold Oper.wp
  simp [execOp, ho, resolve, invoke, builtin, hs, hx, hrun, Result.andThen]
  exact hK _ _ h
theorem strs_of_row {w : World} {B : Nat} {v : Value} {ns : List ByteArray} (h : w.ownsRow B 9 1 v ns.length (ns.map Value.string)) (hs : ∀ s ∈ ns, s.size ≤ 140737488351232) : ∃ A c, v = .slice A ns.length c ∧ StrsAt w (New B w) A ns := by
  rcases h.2 with ⟨rfl, h2⟩ | ⟨g, cap, cur, rfl, hg, hh, r⟩
  · exact ⟨none, 0, by rw [h2], fun hp => absurd hp (by omega)⟩
  · refine ⟨_, _, rfl, fun hp => ⟨g, 0, rfl, ⟨hg, (Array.getElem?_eq_some_iff.1 hh).1⟩, fun i hi => ⟨?_, hs _ (List.getElem_mem hi)⟩⟩⟩
    have h' : w.ownsRow B 9 1 (.slice (some ⟨g, 0, none⟩) ns.length cap) ns.length (ns.map Value.string) := h
    have := h'.cells (g := g) rfl i (.string ns[i]) (by simp [List.getElem?_map, List.getElem?_eq_getElem hi])
    rw [addr_at] at this
    exact this

set_option maxHeartbeats 400000 in
theorem copyNames_any (S : Nat → Prop) (A : Option Addr) (c : Nat) (ns : List ByteArray) (w : World) (h : StrsAt w S A ns) (hl : ns.length ≤ 8796093021952) :
    Calls Tryz.prog 88 #[.slice A ns.length c] w fun e w' => ∃ A' c', e = .returned (.slice A' ns.length c') ∧ StrsAt w' (New w.heap.size w') A' ns ∧ Below w.heap.size w w' := by
  rcases ns with _ | ⟨n0, r⟩
  · go_enter Tryz.func88, Tryz.ntmps88
    go_wp2_with (at_builtin; go_must (refine wpList_append_nothing rfl _ _ rfl rfl A c rfl ?_))
    go_ret
    exact ⟨none, 0, rfl, strs_nil _ _ _, Below.refl _ _⟩
  · obtain ⟨b, off, rfl, hb, hc⟩ := h (by simp)
    generalize hns : n0 :: r = ns at *
    obtain ⟨i0, hi, hz0, hz1, hz2⟩ := info_parts Tryz.infoStr
    have HL := Lib.hid hl
    have HC := Lib.hid hc
    clear hl hc h
    have hnw : ∀ j u, (ns.map Value.string)[j]? = some u → w.cell? ((⟨b, off, none⟩ : Addr).add j) = some u := by
      intro j u hj
      have hjl : j < ns.length := by have := (List.getElem?_eq_some_iff.1 hj).1; simpa using this
      rw [addr_at, (HC.out j hjl).1]
      simpa [List.getElem?_map, List.getElem?_eq_getElem hjl] using hj
    have HNW := Lib.hid hnw
    clear hnw
    go_enter Tryz.func88, Tryz.ntmps88
    go_wp2_with (at_builtin; go_must (refine wpList_append_own _ rfl _ _ 23 rfl w.heap.size 9 i0 (.string ⟨#[]⟩) 1 16 Tryz.underlying23 hi hz0 hz1 hz2 rfl (by decide) _ 0 [] rfl (World.ownsRow_nil _ _ _ _) ⟨b, off, none⟩ ns.length c (ns.map Value.string) rfl ?d0 HNW.out ?d1 ?d2 ?d3 ?d4 ?_))
    case d0 => simp
    case d1 => intro u hu; obtain ⟨_, _, rfl⟩ := List.mem_map.1 hu; rfl
    case d2 => have := HL.out; unfold maxLen; omega
    case d3 => have := HL.out; omega
    case d4 => exact Nat.le_refl _
    intro v' w' hown hg _
    obtain ⟨A', c', rfl, hst⟩ := strs_of_row hown (fun s hs => by obtain ⟨i, hi, rfl⟩ := List.mem_iff_getElem.1 hs; exact (HC.out i hi).2)
    have HST := Lib.hid hst
    have HB := Lib.hid (below_of_grown (B := w.heap.size) hg (Nat.le_refl _) (fun k hk => by cases hk))
    clear hown hg hst
    go_wp2_with fail
    go_ret
    exact ⟨_, _, rfl, HST.out, HB.out⟩
end Go.Proofs.YtnamdlljdgllmaaGreat
