/- Values made, and copied. -/
import Derived.Test.YtdggeokpnaopiaaKOrd
import Derived.Deep.OwnRows
import Derived.Laws.AppendOwnNone
namespace Go.Proofs.Ytdggeokpnaopiaa
set_option linter.unusedVariables false
set_option linter.unusedSimpArgs false
open Go.RowKit

theorem Try.infoStr : (Try.prog.info? 9).map (fun i => (i.zero, i.size, i.bytes)) = some (some (.string ⟨#[]⟩), 1, 16) := by kernel_rfl
theorem Try.infoVal : (Try.prog.info? 36).map (fun i => (i.zero, i.size, i.bytes)) = some (some (.agg #[.int .i64 0, .int .i64 0, .string ⟨#[]⟩, .slice none 0 0, .slice none 0 0]), 5, 80) := by kernel_rfl

theorem rng0 : Rng 0 := by unfold Rng; omega
theorem rngK {k : Int} (h1 : 0 ≤ k) (h2 : k ≤ 7) : Rng k := by unfold Rng; omega
theorem strs_nil (w : World) (S : Nat → Prop) (A : Option Addr) : StrsAt w S A [] := fun h => absurd h (by simp)
theorem lva_nil (w : World) (S : Nat → Prop) (A : Option Addr) : LVA w S A [] := fun h => absurd h (by simp)
/-- A value that holds no others. -/
theorem leaf_lv (w : World) (S : Nat → Prop) (k i : Int) (s : ByteArray) (hk : Rng k) (hi : Rng i) (hs : s.size ≤ 140737488351232) :
    LV w S (.mk k i s [] []) (.agg #[.int .i64 k, .int .i64 i, .string s, .slice none 0 0, .slice none 0 0]) := LV.mk hk hi hs (by simp) (by simp) (strs_nil _ _ _) (lva_nil _ _ _)

section
set_option maxHeartbeats 400000
variable (w : World)
end

/-! ### names copied -/
/-- New blocks. -/
def New (B : Nat) (w : World) : Nat → Prop := fun b => B ≤ b ∧ b < w.heap.size
theorem run_append_nothing (A : Option Addr) (c : Nat) (w : World) (ty : TypeId) : (Builtin.append_ #[34, 34] ty #[.slice none 0 0, .slice A 0 c]).run Try.prog w = .ok (.slice none 0 0) w := by
  obtain ⟨i0, hi, -, -, -⟩ := info_parts Try.infoStr
  cases A <;> simp [Builtin.append_, run_underlying Try.underlying34, sizeOf, typeInfo, hi, Builtin.lenOf, Builtin.firstCells, loadCells, loadCellsFrom]
theorem addr_at (b off i : Nat) : ((⟨b, off, none⟩ : Addr).add i) = ⟨b, off + i, none⟩ := by
  unfold Addr.add
  split
  · next h => simp [h]
  · rfl
theorem wpList_append_nothing {w : World} {ops : Array Oper} {rest : List Oper} {o : Oper} {a : Act} {Q : Exit → Act → World → Prop} (hgd : o.guard = none) (s x : Operand)
    (ho : o.op = .call { callee := .builtin .append, args := #[s, x], argTypes := #[34, 34] }) (hs : a.eval s = .slice none 0 0) (A : Option Addr) (c : Nat) (hx : a.eval x = .slice A 0 c)
    (h : wpList Try.prog ops Q rest (a.put o.dst (.slice none 0 0)) w) : wpList Try.prog ops Q (o :: rest) a w := by
  refine wpList_plain hgd fun K hK => ?_
  have hrun := run_append_nothing A c w o.type
  unfold Oper.wp
  simp [execOp, ho, resolve, invoke, builtin, hs, hx, hrun, Result.andThen]
  exact hK _ _ h
theorem strs_of_row {w : World} {B : Nat} {v : Value} {ns : List ByteArray} (h : w.ownsRow B 9 1 v ns.length (ns.map Value.string)) (hs : ∀ s ∈ ns, s.size ≤ 140737488351232) : ∃ A c, v = .slice A ns.length c ∧ StrsAt w (New B w) A ns := by
  rcases h.2 with ⟨rfl, h2⟩ | ⟨g, cap, cur, rfl, hg, hh, r⟩
  · exact ⟨none, 0, by rw [h2], fun hp => absurd hp (by omega)⟩
  · refine ⟨_, _, rfl, fun hp => ⟨g, 0, rfl, ⟨hg, (Array.getElem?_eq_some_iff.1 hh).1⟩, fun i hi => ⟨?_, hs _ (List.getElem_mem hi)⟩⟩⟩
    have h' : w.ownsRow B 9 1 (.slice (some ⟨g, 0, none⟩) ns.length cap) ns.length (ns.map Value.string) := h
    have := h'.cells (g := g) rfl i (.string ns[i]) (by simp [List.getElem?_map, List.getElem?_eq_getElem hi])
    rw [addr_at] at this
    exact this

set_option maxHeartbeats 400000 in
theorem copyNames_any (S : Nat → Prop) (A : Option Addr) (c : Nat) (ns : List ByteArray) (w : World) (h : StrsAt w S A ns) (hl : ns.length ≤ 8796093021952) :
    Calls Try.prog 67 #[.slice A ns.length c] w fun e w' => ∃ A' c', e = .returned (.slice A' ns.length c') ∧ StrsAt w' (New w.heap.size w') A' ns ∧ Below w.heap.size w w' := by
  rcases ns with _ | ⟨n0, r⟩
  · go_enter Try.func67, Try.ntmps67
    go_wp2_with (at_builtin; go_must (refine wpList_append_nothing rfl _ _ rfl rfl A c rfl ?_))
    go_ret
    exact ⟨none, 0, rfl, strs_nil _ _ _, Below.refl _ _⟩
  · obtain ⟨b, off, rfl, hb, hc⟩ := h (by simp)
    generalize hns : n0 :: r = ns at *
    obtain ⟨i0, hi, hz0, hz1, hz2⟩ := info_parts Try.infoStr
    have HL := Lib.hid hl
    have HC := Lib.hid hc
    clear hl hc h
    have hnw : ∀ j u, (ns.map Value.string)[j]? = some u → w.cell? ((⟨b, off, none⟩ : Addr).add j) = some u := by
      intro j u hj
      have hjl : j < ns.length := by have := (List.getElem?_eq_some_iff.1 hj).1; simpa using this
      rw [addr_at, (HC.out j hjl).1]
      simpa [List.getElem?_map, List.getElem?_eq_getElem hjl] using hj
    have HNW := Lib.hid hnw
    clear hnw
    go_enter Try.func67, Try.ntmps67
    go_wp2_with (at_builtin; go_must (refine wpList_append_own _ rfl _ _ 34 rfl w.heap.size 9 i0 (.string ⟨#[]⟩) 1 16 Try.underlying34 hi hz0 hz1 hz2 rfl (by decide) _ 0 [] rfl (World.ownsRow_nil _ _ _ _) ⟨b, off, none⟩ ns.length c (ns.map Value.string) rfl ?d0 HNW.out ?d1 ?d2 ?d3 ?d4 ?_))
    case d0 => simp
    case d1 => intro u hu; obtain ⟨_, _, rfl⟩ := List.mem_map.1 hu; rfl
    case d2 => have := HL.out; unfold maxLen; omega
    case d3 => have := HL.out; omega
    case d4 => exact Nat.le_refl _
    intro v' w' hown hg _
    obtain ⟨A', c', rfl, hst⟩ := strs_of_row hown (fun s hs => by obtain ⟨i, hi, rfl⟩ := List.mem_iff_getElem.1 hs; exact (HC.out i hi).2)
    have HST := Lib.hid hst
    have HB := Lib.hid (below_of_grown (B := w.heap.size) hg (Nat.le_refl _) (fun k hk => by cases hk))
    clear hown hg hst
    go_wp2_with fail
    go_ret
    exact ⟨_, _, rfl, HST.out, HB.out⟩
end Go.Proofs.Ytdggeokpnaopiaa

/- Values copied. -/
namespace Go.Proofs.Ytdggeokpnaopiaa
set_option linter.unusedVariables false
set_option linter.unusedSimpArgs false
open Go.RowKit

/-- Items that lie in a row. -/
theorem LVs_of_row {w : World} {S : Nat → Prop} {G n : Nat} {f : Nat → Value} (hr : w.rowIs G 36 n f) : ∀ (l : List VT) (off : Nat), off + l.length * 5 ≤ n →
    (∀ i (h : i < l.length), LV w S l[i] (.agg #[f (off + i * 5), f (off + i * 5 + 1), f (off + i * 5 + 2), f (off + i * 5 + 3), f (off + i * 5 + 4)])) → LVs w S G off l
  | [], _, _, _ => by unfold LVs; trivial
  | t :: r, off, hn, h => by
    simp only [List.length_cons] at hn
    unfold LVs
    refine ⟨⟨_, _, _, _, _, hr.cell (by omega), hr.cell (by omega), hr.cell (by omega), hr.cell (by omega), hr.cell (by omega), by have := h 0 (by simp); simpa only [Nat.zero_mul, Nat.add_zero, List.getElem_cons_zero] using this⟩, LVs_of_row hr r (off + 5) (by omega) fun i hi => ?_⟩
    have := h (i + 1) (by simpa using hi)
    have e : off + 5 + i * 5 = off + (i + 1) * 5 := by omega
    rw [e]
    simpa using this
theorem row_of_made {w : World} {G n : Nat} {v : Value} {xs : List Value} {B : Nat} (h : w.ownsRow B 36 5 (.slice (some ⟨G, 0, none⟩) n n) n xs) : ∃ f, w.rowIs G 36 (n * 5) f := by
  rcases h.2 with ⟨h1, _⟩ | ⟨g, cap, cur, hv, hg, hh, h1, h2, h3, _⟩
  · cases h1
  · injection hv with e1 e2 e3
    injection e1 with e1
    injection e1 with e1
    subst e1; subst e3
    exact ⟨fun i => cur[i]?.getD undef, cur, hh, h3, fun i hi => by show cur[i]? = some (cur[i]?.getD undef); rw [Array.getElem?_eq_getElem (by omega)]; rfl⟩

def put5 (f : Nat → Value) (p : Nat) (v0 v1 v2 v3 v4 : Value) : Nat → Value := fun i => if i = p + 4 then v4 else if i = p + 3 then v3 else if i = p + 2 then v2 else if i = p + 1 then v1 else if i = p then v0 else f i
def set5 (w : World) (G p : Nat) (v0 v1 v2 v3 v4 : Value) : World := ((((w.setCell ⟨G, p, none⟩ v0).setCell ⟨G, p + 1, none⟩ v1).setCell ⟨G, p + 2, none⟩ v2).setCell ⟨G, p + 3, none⟩ v3).setCell ⟨G, p + 4, none⟩ v4
theorem row_set5 {w : World} {G n p : Nat} {f : Nat → Value} (hr : w.rowIs G 36 n f) (v0 v1 v2 v3 v4 : Value) : (set5 w G p v0 v1 v2 v3 v4).rowIs G 36 n (put5 f p v0 v1 v2 v3 v4) :=
  ((((hr.set p v0).set (p + 1) v1).set (p + 2) v2).set (p + 3) v3).set (p + 4) v4
theorem set5_size (w : World) (G p : Nat) (v0 v1 v2 v3 v4 : Value) : (set5 w G p v0 v1 v2 v3 v4).heap.size = w.heap.size := by simp [set5, World.setCell]
theorem set5_block {w : World} {G p b : Nat} (v0 v1 v2 v3 v4 : Value) (h : b ≠ G) : (set5 w G p v0 v1 v2 v3 v4).heap[b]? = w.heap[b]? := by
  unfold set5
  rw [Below.heap_setCell _ _ _ _ h, Below.heap_setCell _ _ _ _ h, Below.heap_setCell _ _ _ _ h, Below.heap_setCell _ _ _ _ h, Below.heap_setCell _ _ _ _ h]
theorem set5_below {B : Nat} {a w : World} {G p : Nat} (v0 v1 v2 v3 v4 : Value) (h : Below B a w) (hG : B ≤ G) : Below B a (set5 w G p v0 v1 v2 v3 v4) := by
  unfold set5
  exact ((((h.setCell hG _).setCell hG _).setCell hG _).setCell hG _).setCell hG _
theorem put5_old {f : Nat → Value} {p i : Nat} {v0 v1 v2 v3 v4 : Value} (h : i < p) : put5 f p v0 v1 v2 v3 v4 i = f i := by
  unfold put5
  rw [if_neg (by omega), if_neg (by omega), if_neg (by omega), if_neg (by omega), if_neg (by omega)]
theorem put5_new (f : Nat → Value) (p : Nat) (v0 v1 v2 v3 v4 : Value) : put5 f p v0 v1 v2 v3 v4 p = v0 ∧ put5 f p v0 v1 v2 v3 v4 (p + 1) = v1 ∧ put5 f p v0 v1 v2 v3 v4 (p + 2) = v2 ∧ put5 f p v0 v1 v2 v3 v4 (p + 3) = v3 ∧ put5 f p v0 v1 v2 v3 v4 (p + 4) = v4 := by
  unfold put5
  refine ⟨?_, ?_, ?_, ?_, ?_⟩
  · rw [if_neg (by omega), if_neg (by omega), if_neg (by omega), if_neg (by omega), if_pos rfl]
  · rw [if_neg (by omega), if_neg (by omega), if_neg (by omega), if_pos rfl]
  · rw [if_neg (by omega), if_neg (by omega), if_pos rfl]
  · rw [if_neg (by omega), if_pos rfl]
  · rw [if_pos rfl]
/-- What the copy holds up to the j-th item. -/
def Part (w : World) (G : Nat) (l : List VT) (f : Nat → Value) (j : Nat) : Prop := ∀ i (h : i < l.length), i < j → LV w (fun b => G < b ∧ b < w.heap.size) l[i] (.agg #[f (i * 5), f (i * 5 + 1), f (i * 5 + 2), f (i * 5 + 3), f (i * 5 + 4)])
theorem Part.next {w w3 : World} {G j : Nat} {l : List VT} {f : Nat → Value} {v0 v1 v2 v3 v4 : Value} (h : Part w G l f j) (hj : j < l.length) (hs : w.heap.size ≤ w3.heap.size) (hG : G < w.heap.size) (hb : ∀ b, b < w.heap.size → b ≠ G → w3.heap[b]? = w.heap[b]?)
    (hx : LV w3 (fun b => w.heap.size ≤ b ∧ b < w3.heap.size) l[j] (.agg #[v0, v1, v2, v3, v4])) : Part (set5 w3 G (j * 5) v0 v1 v2 v3 v4) G l (put5 f (j * 5) v0 v1 v2 v3 v4) (j + 1) := by
  intro i hi hij
  have hkeep : ∀ {S : Nat → Prop} {t : VT} {v : Value}, (∀ b, S b → b ≠ G) → LV w3 S t v → LV (set5 w3 G (j * 5) v0 v1 v2 v3 v4) S t v := fun hS hv => hv.keep fun b hb => set5_block v0 v1 v2 v3 v4 (hS b hb)
  by_cases e : i = j
  · subst e
    obtain ⟨e0, e1, e2, e3, e4⟩ := put5_new f (i * 5) v0 v1 v2 v3 v4
    rw [e0, e1, e2, e3, e4]
    refine (hkeep (fun b hb => by have := hb.1; omega) hx).imp fun b hb => ⟨by have := hb.1; omega, by rw [set5_size]; exact hb.2⟩
  · rw [put5_old (by omega), put5_old (by omega), put5_old (by omega), put5_old (by omega), put5_old (by omega)]
    have h1 := h i hi (by omega)
    have h2 := h1.keep (w' := w3) fun b hb' => hb b hb'.2 (by have := hb'.1; omega)
    exact (hkeep (fun b hb => by have := hb.1; omega) h2).imp fun b hb => ⟨hb.1, by rw [set5_size]; omega⟩

def CloneOK (n : Nat) : Prop := ∀ (S : Nat → Prop) (t : VT) (v : Value) (w : World), depthT t ≤ n → (∀ b, S b → b < w.heap.size) → LV w S t v →
  Calls Try.prog 50 #[v] w fun e w' => ∃ v', e = .returned v' ∧ LV w' (New w.heap.size w') t v' ∧ Below w.heap.size w w'

set_option maxHeartbeats 2000000 in
set_option maxRecDepth 100000 in
theorem all_of_clone {n : Nat} (hcl : CloneOK n) (S : Nat → Prop) (A : Option Addr) (c : Nat) (l : List VT) (w : World) (hd : depthL l ≤ n) (hS : ∀ b, S b → b < w.heap.size) (h : LVA w S A l) (hl : l.length ≤ 1759218604390) :
    Calls Try.prog 66 #[.slice A l.length c] w fun e w' => ∃ A' c', e = .returned (.slice A' l.length c') ∧ LVA w' (New w.heap.size w') A' l ∧ Below w.heap.size w w' := by
  by_cases hl0 : l.length = 0
  · have hnil := List.eq_nil_of_length_eq_zero hl0
    subst hnil
    go_enter Try.func66, Try.ntmps66
    go_wp2_with fail
    go_ret
    exact ⟨none, 0, rfl, lva_nil _ _ _, Below.refl _ _⟩
  · obtain ⟨b, off, rfl, hb, hls⟩ := h (by omega)
    obtain ⟨i0, hi, hz0, hz1, hz2⟩ := info_parts Try.infoVal
    have HL := Lib.hid hl
    have HLS := Lib.hid hls
    have hne : ((l.length : Int) == 0) = false := by simp; intro h; simp [h] at hl0
    have hlb : l.length ≤ 4611686018427387904 := by omega
    clear h hls hl
    go_enter Try.func66, Try.ntmps66
    go_wp2_with (at_make; go_must (refine wpList_make_full _ rfl _ _ 33 rfl w.heap.size 36 i0 _ 5 Try.underlying33 hi hz0 hz1 .i64 .i64 _ _ l.length rfl rfl rfl rfl ?b0 ?b1 ?b2 ?_))
    case b0 => have := HL.out; rw [hz2]; omega
    case b1 => have := HL.out; unfold maxLen; omega
    case b2 => exact Nat.le_refl _
    intro w1 hown hg
    obtain ⟨f0, hrow⟩ := row_of_made hown (v := .slice none 0 0)
    have hb1 : Below w.heap.size w w1 := below_of_grown hg (Nat.le_refl _) (fun k hk => by cases hk)
    have HROW := Lib.hid hrow
    have HB1 := Lib.hid hb1
    clear hown hg hrow hb1
    obtain ⟨G, hG⟩ : ∃ G, G = w.heap.size := ⟨_, rfl⟩
    rw [← hG] at HROW ⊢
    have HG := Lib.hid hG
    clear hG
    go_wp2_with fail
    have hGlt := HROW.out.lt
    go_loopw [14] (fun i wr => ∃ (j : Nat) (f : Nat → Value), i = .int .i64 j ∧ j ≤ l.length ∧ Hid (wr.rowIs G 36 (l.length * 5) f ∧ Part wr G l f j ∧ Below w.heap.size w wr)) (fun i _ => l.length - (intOf i).toNat)
    case atStart => exact ⟨0, f0, rfl, Nat.zero_le _, HROW.out, fun i _ h => absurd h (by omega), HB1.out⟩
    case round =>
      obtain ⟨j, f, rfl, hj, HI⟩ := hrel
      by_cases hlt : j < l.length
      · obtain ⟨c0, c1, c2, c3, c4, h0, h1, h2, h3, h4, hx⟩ := HLS.out.at j hlt
        obtain ⟨A2, e2, A3, e3, hag, -⟩ := hx.shape
        injection hag with hag; injection hag with hag
        injection hag with y0 hag; injection hag with y1 hag; injection hag with y2 hag; injection hag with y3 hag; injection hag with y4 hag
        subst y0 y1 y2 y3 y4
        have hw : ∀ o, wr.cell? ⟨b, o, none⟩ = w.cell? ⟨b, o, none⟩ := fun o => HI.out.2.2.cell (p := ⟨b, o, none⟩) (hS b hb)
        rw [← hw] at h0 h1 h2 h3 h4
        have hS1 := sub_below hS HI.out.2.2
        have hS2 : ∀ b, S b → b < (wr.alloc (.cells #[.int .i64 l[j].kind, .int .i64 l[j].num, .string l[j].text, .slice A2 l[j].items.length e2, .slice A3 l[j].names.length e3] 36)).heap.size := sub_alloc hS1 _
        have IH := Lib.hid (hcl S l[j] _ _ (Nat.le_trans (depthL_le (List.getElem_mem hlt)) hd) hS2 ((hx.below hS HI.out.2.2).alloc hS1 _))
        have hGr := HI.out.1.lt
        clear hx hw hS1 hS2
        go_wp2_with fail
        refine IH.out.mono ?_
        rintro e w3 ⟨v', rfl, hv, hb3⟩
        obtain ⟨A4, e4, A5, e5, rfl, -⟩ := hv.shape
        have hb3' : Below wr.heap.size wr w3 := toStart (below_box _) hb3
        have hrow3 : w3.rowIs G 36 (l.length * 5) f := HI.out.1.of_block (hb3'.block G hGr)
        have hpart := HI.out.2.1.next hlt hb3'.size hGr (fun b hb _ => hb3'.block b hb) (hv.imp fun b hb => ⟨Nat.le_trans (by simp) hb.1, hb.2⟩)
        have HF : Hid ((set5 w3 G (j * 5) (.int .i64 l[j].kind) (.int .i64 l[j].num) (.string l[j].text) (.slice A4 l[j].items.length e4) (.slice A5 l[j].names.length e5)).rowIs G 36 (l.length * 5) _ ∧ Part _ G l _ (j + 1) ∧ Below w.heap.size w (set5 w3 G (j * 5) (.int .i64 l[j].kind) (.int .i64 l[j].num) (.string l[j].text) (.slice A4 l[j].items.length e4) (.slice A5 l[j].names.length e5))) :=
          Lib.hid ⟨row_set5 hrow3 _ _ _ _ _, hpart, set5_below _ _ _ _ _ (HI.out.2.2.trans (hb3'.mono HI.out.2.2.size)) (by have := HG.out; omega)⟩
        have m0 := hrow3.cell (i := j * 5) (by omega)
        have m1 := hrow3.cell (i := j * 5 + 1) (by omega)
        have m2 := hrow3.cell (i := j * 5 + 2) (by omega)
        have m3 := hrow3.cell (i := j * 5 + 3) (by omega)
        have m4 := hrow3.cell (i := j * 5 + 4) (by omega)
        have n0 := hrow3.frozen (j * 5)
        have n1 := hrow3.frozen (j * 5 + 1)
        have n2 := hrow3.frozen (j * 5 + 2)
        have n3 := hrow3.frozen (j * 5 + 3)
        have n4 := hrow3.frozen (j * 5 + 4)
        have hlb2 := HL.out
        clear hv hb3 hb3' hrow3 hpart IH h0 h1 h2 h3 h4
        go_wp2_with fail
        go_roundw
        case rel => exact ⟨j + 1, _, by go_num, by omega, HF.out⟩
        case measure => simp [intOf]; omega
      · go_wp2_with fail
        go_ret
        refine ⟨some ⟨G, 0, none⟩, l.length, rfl, fun _ => ⟨G, 0, rfl, ⟨by have := HG.out; omega, HI.out.1.lt⟩, LVs_of_row HI.out.1 l 0 (by omega) fun i hi => ?_⟩, HI.out.2.2⟩
        rw [Nat.zero_add]
        exact (HI.out.2.1 i hi (by omega)).imp fun b hb => ⟨by have := hb.1; have := HG.out; omega, hb.2⟩

theorem Box.set0 {w : World} {g : Nat} {a b c d e : Value} (h : Box w g a b c d e) (u : Value) : Box (w.setCell ⟨g, 0, none⟩ u) g u b c d e := Go.Joins.block_setCell (i := 0) h u
theorem Box.set1 {w : World} {g : Nat} {a b c d e : Value} (h : Box w g a b c d e) (u : Value) : Box (w.setCell ⟨g, 1, none⟩ u) g a u c d e := Go.Joins.block_setCell (i := 1) h u
theorem Box.set2 {w : World} {g : Nat} {a b c d e : Value} (h : Box w g a b c d e) (u : Value) : Box (w.setCell ⟨g, 2, none⟩ u) g a b u d e := Go.Joins.block_setCell (i := 2) h u
theorem Box.set3 {w : World} {g : Nat} {a b c d e : Value} (h : Box w g a b c d e) (u : Value) : Box (w.setCell ⟨g, 3, none⟩ u) g a b c u e := Go.Joins.block_setCell (i := 3) h u
theorem Box.set4 {w : World} {g : Nat} {a b c d e : Value} (h : Box w g a b c d e) (u : Value) : Box (w.setCell ⟨g, 4, none⟩ u) g a b c d u := Go.Joins.block_setCell (i := 4) h u
theorem Box.far {w : World} {g : Nat} {a b c d e : Value} (h : Box w g a b c d e) {p : Addr} (hne : g ≠ p.block) (u : Value) : Box (w.setCell p u) g a b c d e := (Below.heap_setCell w p u g hne).trans h
theorem New.mono {B B' : Nat} {w w' : World} (hB : B' ≤ B) (hs : w.heap.size ≤ w'.heap.size) : ∀ b, New B w b → New B' w' b := fun b hb => ⟨Nat.le_trans hB hb.1, Nat.lt_of_lt_of_le hb.2 hs⟩

set_option maxHeartbeats 1000000 in
set_option maxRecDepth 100000 in
theorem clone_of_all {n : Nat} (hcl : CloneOK n) : CloneOK (n + 1) := by
  intro S t v w hd hS h
  have HLEN := Lib.hid h.lens
  obtain ⟨A, c, A', c', rfl, k1, k2, k3, k4, k5, k6, k7⟩ := h.shape
  clear h
  cases t with
  | mk k i s l ns =>
  simp only [VT.kind, VT.num, VT.text, VT.items, VT.names] at *
  have HK := Lib.hid (And.intro k1 (And.intro k2 k3))
  have hdl : depthL l ≤ n := by rw [depthT_mk] at hd; omega
  have hb0 : Below w.heap.size w ((w.alloc (.cells #[.int .i64 k, .int .i64 i, .string s, .slice A l.length c, .slice A' ns.length c'] 36)).alloc (.cells #[.int .i64 0, .int .i64 0, .string ⟨#[]⟩, .slice none 0 0, .slice none 0 0] 36)) := (below_box _).alloc (by simp) _
  have hX : Box ((w.alloc (.cells #[.int .i64 k, .int .i64 i, .string s, .slice A l.length c, .slice A' ns.length c'] 36)).alloc (.cells #[.int .i64 0, .int .i64 0, .string ⟨#[]⟩, .slice none 0 0, .slice none 0 0] 36)) w.heap.size (.int .i64 k) (.int .i64 i) (.string s) (.slice A l.length c) (.slice A' ns.length c') := (Box.new _ _ _ _ _).alloc _
  have hY : Box ((w.alloc (.cells #[.int .i64 k, .int .i64 i, .string s, .slice A l.length c, .slice A' ns.length c'] 36)).alloc (.cells #[.int .i64 0, .int .i64 0, .string ⟨#[]⟩, .slice none 0 0, .slice none 0 0] 36)) (w.heap.size + 1) (.int .i64 0) (.int .i64 0) (.string ⟨#[]⟩) (.slice none 0 0) (.slice none 0 0) := by
    have := Box.new (w := (w.alloc (.cells #[.int .i64 k, .int .i64 i, .string s, .slice A l.length c, .slice A' ns.length c'] 36))) (.int .i64 0) (.int .i64 0) (.string ⟨#[]⟩) (.slice none 0 0) (.slice none 0 0)
    simpa using this
  have HA := Lib.hid (all_of_clone hcl S A c l _ hdl (sub_below hS hb0) (k7.keep fun b hb => hb0.block b (hS b hb)) HLEN.out.1)
  have K6 := Lib.hid k6
  have HB0 := Lib.hid hb0
  have HX := Lib.hid hX
  have HY := Lib.hid hY
  clear k1 k2 k3 k4 k5 k6 k7 hb0 hX hY
  go_enter Try.func50, Try.ntmps50
  go_wp2_with fail
  refine HA.out.mono ?_
  rintro e w1 ⟨A2, c2, rfl, hla, hb1⟩
  have hx := HX.out.call hb1
  have HX1 := Lib.hid hx
  have HY1 := Lib.hid (HY.out.call hb1)
  have HB1 := Lib.hid (toStart HB0.out hb1)
  have HLA := Lib.hid hla
  have x3 := hx.c3
  have x4 := hx.c4
  have xf := hx.free 3
  clear hx hla hb1 HA HX HY
  go_wp2_with fail
  obtain ⟨h, hh⟩ : ∃ h, h = w.heap.size := ⟨_, rfl⟩
  rw [← hh] at HX1 HY1 x3 x4 xf ⊢
  have HH := Lib.hid hh
  clear hh
  obtain ⟨W1, hW1⟩ : ∃ W1 : World, W1 = w1.setCell ⟨h, 3, none⟩ (.slice A2 l.length c2) := ⟨_, rfl⟩
  rw [← hW1]
  have sz1 : W1.heap.size = w1.heap.size := by rw [hW1]; simp [World.setCell]
  have bk1 : ∀ b, b ≠ h → W1.heap[b]? = w1.heap[b]? := fun b hb => by rw [hW1]; exact Below.heap_setCell _ _ _ _ hb
  have BX1 := HX1.out.set3 (.slice A2 l.length c2)
  rw [← hW1] at BX1
  have BY1 := HY1.out.far (p := ⟨h, 3, none⟩) (by simp) (.slice A2 l.length c2)
  rw [← hW1] at BY1
  have bw1 : Below w.heap.size w W1 := by rw [hW1]; exact HB1.out.setCell (by have := HH.out; simp; omega) _
  have hw1s : h + 1 < w1.heap.size := HY1.out.lt
  have hla1 : LVA W1 (New (h + 2) W1) A2 l := by
    have e := HH.out
    refine (LVA.keep (w' := W1) HLA.out (fun b hb => bk1 b (by have := hb.1; simp at this; omega))).imp fun b hb => ⟨by have := hb.1; simp at this; omega, by rw [sz1]; exact hb.2⟩
  have HN := Lib.hid (copyNames_any S A' c' ns W1 (K6.out.keep fun b hb => bw1.block b (hS b hb)) HLEN.out.2)
  have BX1 := Lib.hid BX1
  have BY1 := Lib.hid BY1
  have HBW1 := Lib.hid bw1
  have HLA1 := Lib.hid hla1
  clear hW1 sz1 bk1 bw1 hla1 HX1 HY1 HB1 HLA x3 x4 xf K6 HB0 hw1s
  refine HN.out.mono ?_
  rintro e w2 ⟨A3, c3, rfl, hst, hb2⟩
  have BX2 := Lib.hid (BX1.out.call hb2)
  have BY2 := Lib.hid (BY1.out.call hb2)
  have HBW2 := Lib.hid (toStart HBW1.out hb2)
  have hla2 : LVA w2 (New (h + 2) w2) A2 l := (LVA.keep (w' := w2) HLA1.out (fun b hb => hb2.block b hb.2)).imp (New.mono (Nat.le_refl _) hb2.size)
  have hst2 : StrsAt w2 (New (h + 2) w2) A3 ns := hst.imp (New.mono (by have := BY1.out.lt; omega) (Nat.le_refl _))
  have HLA2 := Lib.hid hla2
  have HST2 := Lib.hid hst2
  have y0 := BX2.out.c0
  have y1 := BX2.out.c1
  have y2 := BX2.out.c2
  have y3 := BX2.out.c3
  have y4 := BX2.out.c4
  have yf := BX2.out.free 4
  have z0 := BY2.out.c0
  have z1 := BY2.out.c1
  have z2 := BY2.out.c2
  have z3 := BY2.out.c3
  have z4 := BY2.out.c4
  have zf0 := BY2.out.free 0
  have zf1 := BY2.out.free 1
  have zf2 := BY2.out.free 2
  have zf3 := BY2.out.free 3
  have zf4 := BY2.out.free 4
  obtain ⟨W2, hW2⟩ : ∃ W2 : World, W2 = w2.setCell ⟨h, 4, none⟩ (.slice A3 ns.length c3) := ⟨_, rfl⟩
  have BX3 := BX2.out.set4 (.slice A3 ns.length c3)
  rw [← hW2] at BX3
  have BY3 := BY2.out.far (p := ⟨h, 4, none⟩) (by simp) (.slice A3 ns.length c3)
  rw [← hW2] at BY3
  have HBW3 : Hid (Below w.heap.size w W2) := Lib.hid (by rw [hW2]; exact HBW2.out.setCell (by have := HH.out; simp; omega) _)
  have sz2 : W2.heap.size = w2.heap.size := by rw [hW2]; simp [World.setCell]
  have bk2 : ∀ b, b ≠ h → W2.heap[b]? = w2.heap[b]? := fun b hb => by rw [hW2]; exact Below.heap_setCell _ _ _ _ hb
  have HLA3 : Hid (LVA W2 (New (h + 2) W2) A2 l) := Lib.hid ((LVA.keep (w' := W2) HLA2.out (fun b hb => bk2 b (by have := hb.1; omega))).imp fun b hb => ⟨hb.1, by rw [sz2]; exact hb.2⟩)
  have HST3 : Hid (StrsAt W2 (New (h + 2) W2) A3 ns) := Lib.hid ((StrsAt.keep (w' := W2) HST2.out (fun b hb => bk2 b (by have := hb.1; omega))).imp fun b hb => ⟨hb.1, by rw [sz2]; exact hb.2⟩)
  have BX3 := Lib.hid BX3
  have BY3 := Lib.hid BY3
  have EW := Lib.hid hW2
  clear hst hb2 hla2 hst2 BX1 BY1 HBW1 HLA1 BX2 BY2 HBW2 HLA2 HST2 hW2 sz2 bk2 HN
  clear hcl hd hdl
  go_wp2_with fail
  rw [← EW.out]
  (try simp only [Exit.inBlock, Exit.then])
  have FIN := ((((BY3.out.set0 (.int .i64 k)).set1 (.int .i64 i)).set2 (.string s)).set3 (.slice A2 l.length c2)).set4 (.slice A3 ns.length c3)
  have hk : ∀ b, New (h + 2) W2 b → (set5 W2 (h + 1) 0 (.int .i64 k) (.int .i64 i) (.string s) (.slice A2 l.length c2) (.slice A3 ns.length c3)).heap[b]? = W2.heap[b]? := fun b hb => set5_block _ _ _ _ _ (by have := hb.1; omega)
  have hn : ∀ b, New (h + 2) W2 b → New w.heap.size (set5 W2 (h + 1) 0 (.int .i64 k) (.int .i64 i) (.string s) (.slice A2 l.length c2) (.slice A3 ns.length c3)) b := fun b hb => ⟨by have := hb.1; have := HH.out; omega, by rw [set5_size]; exact hb.2⟩
  have hla := (LVA.keep HLA3.out hk).imp hn
  have hst := (StrsAt.keep HST3.out hk).imp hn
  have hbw := set5_below (p := 0) (.int .i64 k) (.int .i64 i) (.string s) (.slice A2 l.length c2) (.slice A3 ns.length c3) HBW3.out (G := h + 1) (by have := HH.out; omega)
  refine bodyPost_ret (results_cell_row rfl _ _ (h + 1) 36 _ (0, 0) _ rfl FIN Try.underlying36 rfl (by kernel_rfl)) rfl ?_
  exact ⟨_, rfl, LV.mk HK.out.1 HK.out.2.1 HK.out.2.2 HLEN.out.1 HLEN.out.2 hst hla, hbw⟩

theorem clone_ok : ∀ n, CloneOK n
  | 0 => fun S t v w hd _ _ => by cases t; rw [depthT_mk] at hd; omega
  | n + 1 => clone_of_all (clone_ok n)
theorem clone_any (S : Nat → Prop) (t : VT) (v : Value) (w : World) (hS : ∀ b, S b → b < w.heap.size) (h : LV w S t v) :
    Calls Try.prog 50 #[v] w fun e w' => ∃ v', e = .returned v' ∧ LV w' (New w.heap.size w') t v' ∧ Below w.heap.size w w' := clone_ok (depthT t) S t v w (Nat.le_refl _) hS h
theorem cloneAll_any (S : Nat → Prop) (A : Option Addr) (c : Nat) (l : List VT) (w : World) (hS : ∀ b, S b → b < w.heap.size) (h : LVA w S A l) (hl : l.length ≤ 1759218604390) :
    Calls Try.prog 66 #[.slice A l.length c] w fun e w' => ∃ A' c', e = .returned (.slice A' l.length c') ∧ LVA w' (New w.heap.size w') A' l ∧ Below w.heap.size w w' := all_of_clone (clone_ok (depthL l)) S A c l w (Nat.le_refl _) hS h hl
end Go.Proofs.Ytdggeokpnaopiaa
