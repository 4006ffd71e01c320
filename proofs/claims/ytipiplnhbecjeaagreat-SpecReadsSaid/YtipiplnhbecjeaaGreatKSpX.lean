/- The document's code of a path. -/
import Derived.Test.YtipiplnhbecjeaaGreatKSpU
import Derived.Test.YtipiplnhbecjeaaGreatKCodX
import Derived.Test.YtipiplnhbecjeaaGreatKSpA
import Derived.Test.YtipiplnhbecjeaaGreatKOpen
import Derived.Test.YtipiplnhbecjeaaGreatKOpenB
import Derived.Test.YtipiplnhbecjeaaGreatKSpM
namespace Go.Proofs.YtipiplnhbecjeaaGreat
set_option linter.unusedVariables false
set_option linter.unusedSimpArgs false
open Go.RowKit
set_option maxRecDepth 100000
set_option maxHeartbeats 8000000 in
theorem rsteps_any (S : Nat → Prop) (A : Option Addr) (c : Nat) (p : List ByteArray) (w : World) (hS : ∀ b, S b → b < w.heap.size) (hp : StrsAt w S A p) (hok : NamesOK p) :
    Calls Tryz.prog 47 #[.slice A p.length c] w (Gives (pathC p) w) := by
  have HP := Lib.hid hp
  have HS := Lib.hid hS
  have HOK := Lib.hid hok
  have hpn := hok.1
  have HC := Lib.hid (rcount_any p.length w (by omega))
  clear hp hS hok
  go_enter Tryz.func47, Tryz.ntmps47
  go_wp2_with fail
  refine HC.out.mono ?_
  rintro e w1 ⟨v1, rfl, hv1, hb1⟩
  have h0 : Hid (OwnB w1 w.heap.size v1 (grp p.length ++ ((p.take 0).map txt).flatten) ∧ Below w.heap.size w w1) := Lib.hid ⟨by simpa using hv1, hb1⟩
  clear hv1 hb1 HC
  go_wp2_with fail
  go_loopw [3, 4] (fun v0 i wr => ∃ k : Nat, i = .int .i64 k ∧ k ≤ p.length ∧ Hid (OwnB wr w.heap.size v0 (grp p.length ++ ((p.take k).map txt).flatten) ∧ Below w.heap.size w wr)) (fun _ i _ => p.length - (intOf i).toNat)
  case atStart => exact ⟨0, rfl, by omega, h0⟩
  case round =>
    obtain ⟨k, rfl, hk, HH⟩ := hrel
    by_cases hlt : k < p.length
    · have d1 : decide ((k : Int) < (p.length : Int)) = true := decide_eq_true (by omega)
      obtain ⟨b, off, rfl, hb, hc⟩ := HP.out (by omega)
      have hck := (World.cell?_of_block (a := ⟨b, off + k, none⟩) (HH.out.2.block b (HS.out b hb))).trans (hc k hlt).1
      have hsz := HOK.out.2 _ (List.getElem_mem hlt)
      have HT := Lib.hid (rtext_any p[k] wr (by omega))
      obtain ⟨s, hs⟩ : ∃ s, s = p[k] := ⟨_, rfl⟩
      rw [← hs] at hck HT hsz
      have HSX := Lib.hid hs
      have HTL := Lib.hid (txt_small hsz)
      have hfl := flat_small (p := p.take k) fun s hs => HOK.out.2 s (List.mem_of_mem_take hs)
      rw [List.length_take] at hfl
      have hcl : (grp p.length ++ ((p.take k).map txt).flatten).length ≤ 140737482000000 := by
        have h1 := (grp_length p.length).1
        have h3 := HOK.out.1
        simp only [List.length_append]
        omega
      have HCL := Lib.hid hcl
      have HSZ := Lib.hid HH.out.2.size
      clear hc hsz hs hb hfl hcl
      go_wp2_with fail
      refine HT.out.mono ?_
      rintro e w5 ⟨v5, rfl, hv5, hb5⟩
      have HV5 := Lib.hid hv5
      have HO5 := Lib.hid (HH.out.1.below hb5)
      have HB5 := Lib.hid hb5
      clear hv5 hb5 HT hck
      go_wp2_with (at_builtin; go_must (refine wpList_append_bytes rfl _ _ rfl w.heap.size _ (grp p.length ++ ((p.take k).map txt).flatten) rfl HO5.out w5.heap.size _ (txt s) rfl HV5.out.rd (Nat.le_trans HSZ.out HB5.out.size) (by have := HCL.out; have := HTL.out; omega) ?_))
      intro v6 w6 hv6 hg6
      have HX : Hid (OwnB w6 w.heap.size v6 (grp p.length ++ ((p.take (k + 1)).map txt).flatten) ∧ Below w.heap.size w w6) := Lib.hid ⟨by
        have h1 : ((p.take (k + 1)).map txt).flatten = ((p.take k).map txt).flatten ++ txt s := by
          rw [List.take_add_one, List.getElem?_eq_getElem hlt, List.map_append, List.flatten_append, ← HSX.out]
          exact congrArg _ (List.append_nil _)
        rw [h1, ← List.append_assoc]
        have h2 := hv6
        rw [← List.map_take, ← List.append_assoc] at h2
        exact h2, below_own (HH.out.2.trans (HB5.out.mono HSZ.out)) HO5.out (Nat.le_trans HSZ.out HB5.out.size) hg6⟩
      clear hv6 hg6
      go_wp2_with fail
      go_roundw
      case rel => exact ⟨k + 1, by go_num, by omega, HX⟩
      case measure => simp [intOf]; omega
    · obtain rfl : k = p.length := by omega
      go_wp2_with fail
      go_ret
      obtain ⟨h1, h2⟩ := HH.out
      refine ⟨_, rfl, ?_, h2⟩
      rw [List.take_length] at h1
      exact h1
end Go.Proofs.YtipiplnhbecjeaaGreat

/- The document's code of an update. -/
namespace Go.Proofs.YtipiplnhbecjeaaGreat
set_option linter.unusedVariables false
set_option linter.unusedSimpArgs false
open Go.RowKit
set_option maxRecDepth 100000
theorem bcells_app (a b : List UInt8) : bcells (a ++ b) = bcells a ++ bcells b := by unfold bcells; rw [List.map_append]
/-- An append of bytes as one step of a region. -/
theorem wp_append_bytesR {w : World} {o : Oper} {a : Act} {K : Act → World → Prop} {Q : Exit → Act → World → Prop} (s x : Operand)
    (ho : o.op = .call { callee := .builtin .append, args := #[s, x], argTypes := #[39, 39] }) (B : Nat) (v : Value) (l : List UInt8) (hs : a.eval s = v) (hown : OwnB w B v l)
    (D : Nat) (vx : Value) (m : List UInt8) (hx : a.eval x = vx) (hrd : Rd w D vx m) (hp : 0 < m.length) (hB : B ≤ w.heap.size) (hl : l.length + m.length ≤ 140737488355328)
    (K' : ∀ v' w', OwnB w' B v' (l ++ m) → w.grownBy w' v.ownBlock → K (a.put o.dst v') w') : o.wp Tryz.prog a w K Q := by
  obtain ⟨i0, hi, hz0, hz1, hz2⟩ := info_parts Tryz.infoU8
  obtain ⟨A, cap, rfl, hcap, -, hc⟩ := hrd
  obtain ⟨b, off, rfl, -, hcell⟩ := hc hp
  refine wp_append_moved _ s x 39 ho B 5 i0 (.int .u8 0) 1 1 Tryz.underlying39 hi hz0 hz1 hz2 rfl (by decide) v l.length (bcells l) hs hown ⟨b, off, none⟩ m.length cap (bcells m) hx (by simp [bcells]) (fun j u hj => ?_) (fun u hu => ?_) (by unfold maxLen; omega) (by omega) hB fun v' w' h1 h2 _ => K' v' w' (by unfold OwnB; rw [List.length_append, bcells_app]; exact h1) h2
  · have hj' := (List.getElem?_eq_some_iff.1 hj)
    obtain ⟨hlt, he⟩ := hj'
    have hlm : j < m.length := by simpa [bcells] using hlt
    have := hcell j hlm
    simp only [bcells, List.getElem_map] at he
    rw [← he]
    rw [show (Addr.add ⟨b, off, none⟩ j : Addr) = ⟨b, off + j, none⟩ from by cases j <;> simp [Addr.add]]
    exact this
  · obtain ⟨y, -, rfl⟩ := List.mem_map.1 hu
    rfl
theorem pathC_pos (p : List ByteArray) : 0 < (pathC p).length := by
  have := (grp_length p.length).2
  unfold pathC
  rw [List.length_append]
  omega
theorem renc_any (S : Nat → Prop) (t : VT) (v : Value) (w : World) (hS : ∀ b, S b → b < w.heap.size) (h : LV w S t v) (hz : sizeT t ≤ 9223372036854775807) (hc : checkT t = 0) : Calls Tryz.prog 45 #[v] w (Gives (encO t) w) := by
  obtain ⟨h1, h2, h3⟩ := (check_zero hz).1 hc
  have he : encO t = encT t := by unfold encO; rw [if_pos hc]
  rw [he]
  exact enc_ok _ t (Nat.le_refl _) h1 S v w hS h (by rw [enc_len t h1]; omega)
theorem check_zero_rep {s : SpecT} (h : checkS s = 0) (hr : s.rep = true) : checkT s.doc = 0 := by
  unfold checkS at h
  by_cases hf : formedS s = true
  · unfold formedS at hf
    rw [hr] at hf
    simp only [if_true, Bool.and_eq_true, decide_eq_true_eq] at hf
    exact hf.2
  · rw [if_neg hf] at h
    cases h
theorem mayO_val {o : OpT} (h : mayO o = true) (h2 : o.kind ≠ 2) (h6 : o.kind ≠ 6) : checkT o.val = 0 := by
  unfold mayO at h
  rw [Bool.and_eq_true] at h
  have h3 := h.2
  split at h3
  · simp only [Bool.and_eq_true, decide_eq_true_eq] at h3; exact h3.1.2
  split at h3
  · simp only [Bool.and_eq_true, decide_eq_true_eq] at h3; exact h3.1
  · simp [h2, h6] at h3
theorem mayO_kind {o : OpT} (h : mayO o = true) : 1 ≤ o.kind ∧ o.kind ≤ 8 := by
  unfold mayO at h
  rw [Bool.and_eq_true] at h
  have h2 := h.2
  split at h2
  · omega
  split at h2
  · omega
  split at h2
  · omega
  split at h2
  · omega
  · cases h2
set_option maxHeartbeats 16000000 in
theorem rcode_any (S : Nat → Prop) (s : SpecT) (cs : Array Value) (w : World) (hS : ∀ b, S b → b < w.heap.size) (h : SpecL w S s cs) (hz : SmallZ s) (hc : checkS s = 0) :
    Calls Tryz.prog 16 #[.agg cs] w (Gives (codeS s) w) := by
  obtain ⟨DA, dc, DA', dc', OA, oc, rfl, hv, ho, hoc, hol⟩ := h
  obtain ⟨w1, hw1⟩ : ∃ W, W = w.alloc (.cells #[.bool s.rep, .int .i64 s.doc.kind, .int .i64 s.doc.num, .string s.doc.text, .slice DA s.doc.items.length dc, .slice DA' s.doc.names.length dc', .slice OA s.ops.length oc] 28) := ⟨_, rfl⟩
  have hbk : SBox w1 w.heap.size s DA dc DA' dc' OA oc := by rw [hw1]; exact heap_alloc_new w _
  have hb1 : Below w.heap.size w w1 := by rw [hw1]; exact (Below.refl _ _).alloc (Nat.le_refl _) _
  have hz1 : w1.heap.size = w.heap.size + 1 := by rw [hw1]; simp
  have HB1 := Lib.hid hb1
  have HBK := Lib.hid hbk
  have HZZ := Lib.hid hz1
  have HV := Lib.hid hv
  have HO := Lib.hid ho
  have HS := Lib.hid hS
  have HD := Lib.hid hz
  have HOL := Lib.hid hol
  have HCZ := Lib.hid hc
  obtain ⟨rp, hrp⟩ : ∃ rp, rp = s.rep := ⟨_, rfl⟩
  have y0 : w1.cell? ⟨w.heap.size, 0, none⟩ = some (.bool rp) := by rw [hrp]; exact Go.Joins.cell_of_block hbk 0
  have y1 := Go.Joins.cell_of_block hbk 1
  have y2 := Go.Joins.cell_of_block hbk 2
  have y3 := Go.Joins.cell_of_block hbk 3
  have y4 := Go.Joins.cell_of_block hbk 4
  have y5 := Go.Joins.cell_of_block hbk 5
  have y6 := Go.Joins.cell_of_block hbk 6
  have HRP := Lib.hid hrp
  rw [← hrp] at hw1 ⊢
  have HW1 := Lib.hid hw1
  have hba : ∀ b : UInt8, ∀ i : Int, i = (b.toNat : Int) → OwnB (w1.alloc (.cells #[.int .u8 i] 5)) w.heap.size (.slice (some ⟨w.heap.size + 1, 0, none⟩) 1 1) [b] := fun b i hi => by
    subst hi
    have h := own_one (w := w1) (b := b) (k := (b.toNat : Int)) rfl (B := w.heap.size) (by omega)
    rw [hz1] at h
    exact h
  have HBA := Lib.hid hba
  have HBX : Hid (∀ X : Obj, Below w.heap.size w (w1.alloc X) ∧ SBox (w1.alloc X) w.heap.size s DA dc DA' dc' OA oc) := Lib.hid fun X => ⟨hb1.alloc hb1.size X, hbk.below ((Below.refl _ _).alloc (Nat.le_refl _) _)⟩
  clear hrp hbk hb1 hz1 hv ho hS hz hol hoc hc hba
  go_enter Tryz.func16, Tryz.ntmps16
  cases rp
  · go_wp2_with fail
    rw [← hw1]
    clear hw1 y0 y1 y2 y3 y4 y5 y6
    refine (rcount_any s.ops.length _ (by have := HOL.out; omega)).mono ?_
    rintro e w2 ⟨x, rfl, hx, hb⟩
    have HX2 : Hid (OwnB w2 w.heap.size (.slice (some ⟨w.heap.size + 1, 0, none⟩) 1 1) [0] ∧ Below w.heap.size w w2 ∧ SBox w2 w.heap.size s DA dc DA' dc' OA oc ∧ Rd w2 w2.heap.size x (grp s.ops.length)) := Lib.hid ⟨(HBA.out 0 0 rfl).below hb, (HBX.out _).1.trans (hb.mono (HBX.out _).1.size), (HBX.out _).2.below hb, hx.rd⟩
    clear hx hb
    go_wp2_with (at_builtin; go_must (refine wpList_append_bytes rfl _ _ rfl w.heap.size _ [0] rfl HX2.out.1 w2.heap.size x (grp s.ops.length) rfl HX2.out.2.2.2 HX2.out.2.1.size (by have := (grp_length s.ops.length).1; simp; omega) ?_))
    intro v3 w3 hv3 hg3
    have h0 : Hid (OwnB w3 w.heap.size v3 ([0] ++ grp s.ops.length ++ ((s.ops.take 0).map codeO).flatten) ∧ Below w.heap.size w w3 ∧ SBox w3 w.heap.size s DA dc DA' dc' OA oc) := Lib.hid ⟨by simpa using hv3, below_own HX2.out.2.1 HX2.out.1 HX2.out.2.1.size hg3, boxs_k8 HX2.out.2.2.1 (k8_grown HX2.out.1 hg3)⟩
    clear hv3 hg3
    have HZO := Lib.hid (check_zero_ops HCZ.out HRP.out.symm)
    have HSM : Hid (∀ k, (((s.ops.take k).map codeO).flatten).length ≤ 33600000) := Lib.hid fun k => by
      have h1 := codes_small (l := s.ops.take k) fun o ho => ⟨HZO.out.2 o (List.mem_of_mem_take ho), HD.out.2 o (List.mem_of_mem_take ho)⟩
      have h2 := HZO.out.1
      rw [List.length_take] at h1
      omega
    have hfin : codeS s = [0] ++ grp s.ops.length ++ (s.ops.map codeO).flatten := by unfold codeS; rw [if_pos HCZ.out, if_neg (by rw [← HRP.out]; simp)]
    have HF := Lib.hid hfin
    clear hfin
    go_wp2_with fail
    go_loopw [3, 4] (fun v0 i wr => ∃ k : Nat, i = .int .i64 k ∧ k ≤ s.ops.length ∧ Hid (OwnB wr w.heap.size v0 ([0] ++ grp s.ops.length ++ ((s.ops.take k).map codeO).flatten) ∧ Below w.heap.size w wr ∧ SBox wr w.heap.size s DA dc DA' dc' OA oc)) (fun _ i _ => s.ops.length - (intOf i).toNat)
    case atStart => exact ⟨0, rfl, by omega, h0⟩
    case round =>
      obtain ⟨k, rfl, hk, HH⟩ := hrel
      have y6 : wr.cell? ⟨w.heap.size, 6, none⟩ = some (.slice OA s.ops.length oc) := Go.Joins.cell_of_block HH.out.2.2 6
      by_cases hlt : k < s.ops.length
      · have d1 : decide ((k : Int) < (s.ops.length : Int)) = true := decide_eq_true (by omega)
        obtain ⟨p, off, rfl, hpS, c0, c1, c2', c3, c4, c5, c6, c7, ho, x0, x1, x2, x3, x4, x5, x6, x7⟩ := HO.out.cells k hlt
        have hp := HH.out.2.1.block p (HS.out p hpS)
        have z0 := (World.cell?_of_block (a := ⟨p, off + k * 8, none⟩) hp).trans x0
        have z1 := (World.cell?_of_block (a := ⟨p, off + k * 8 + 1, none⟩) hp).trans x1
        have z2 := (World.cell?_of_block (a := ⟨p, off + k * 8 + 2, none⟩) hp).trans x2
        have z3 := (World.cell?_of_block (a := ⟨p, off + k * 8 + 3, none⟩) hp).trans x3
        have z4 := (World.cell?_of_block (a := ⟨p, off + k * 8 + 4, none⟩) hp).trans x4
        have z5 := (World.cell?_of_block (a := ⟨p, off + k * 8 + 5, none⟩) hp).trans x5
        have z6 := (World.cell?_of_block (a := ⟨p, off + k * 8 + 6, none⟩) hp).trans x6
        have z7 := (World.cell?_of_block (a := ⟨p, off + k * 8 + 7, none⟩) hp).trans x7
        have HOK := Lib.hid ho
        obtain ⟨PA, pc, a, b, c, d, e, TA, tc, he, hv, -, -, -, -, -, -, -⟩ := ho
        obtain ⟨VA, vc, VA', vc', hvs, -⟩ := hv.shape
        simp only [Value.agg.injEq, Array.mk.injEq, List.cons.injEq, and_true] at he hvs
        obtain ⟨rfl, rfl, rfl, rfl, rfl, rfl, rfl, rfl⟩ := he
        obtain ⟨rfl, rfl, rfl, rfl, rfl⟩ := hvs
        have hmay := HZO.out.2 _ (List.getElem_mem hlt)
        have HMAY := Lib.hid hmay
        obtain ⟨kd, hkd⟩ : ∃ kd, kd = s.ops[k].kind := ⟨_, rfl⟩
        have hkr : 1 ≤ kd ∧ kd ≤ 8 := by rw [hkd]; exact mayO_kind hmay
        rw [← hkd] at z0
        obtain ⟨acc, hacc⟩ : ∃ acc, acc = [0] ++ grp s.ops.length ++ ((s.ops.take k).map codeO).flatten := ⟨_, rfl⟩
        rw [← hacc] at HH
        have hal : acc.length ≤ 34000000 := by
          have h1 := HSM.out k
          have h2 := (grp_length s.ops.length).1
          rw [hacc]
          simp only [List.length_append, List.length_cons, List.length_nil]
          omega
        have HAL := Lib.hid hal
        obtain ⟨ob, hob⟩ : ∃ ob : Obj, ob = .cells #[.int .i64 kd, .slice PA s.ops[k].path.length pc, .int .i64 s.ops[k].val.kind, .int .i64 s.ops[k].val.num, .string s.ops[k].val.text, .slice VA s.ops[k].val.items.length vc, .slice VA' s.ops[k].val.names.length vc', .slice TA s.ops[k].to.length tc] 33 := ⟨_, rfl⟩
        have HOB := Lib.hid hob
        obtain ⟨w4, hw4⟩ : ∃ W, W = (wr.alloc ob).drew := ⟨_, rfl⟩
        have HW4 := Lib.hid hw4
        have HX4 : Hid (OwnB w4 w.heap.size u3 acc ∧ Below w.heap.size w w4 ∧ SBox w4 w.heap.size s DA dc DA' dc' (some ⟨p, off, none⟩) oc ∧ w4.heap[wr.heap.size]? = some ob) := Lib.hid (by
          rw [hw4]
          exact ⟨(show OwnB (wr.alloc ob) _ _ _ from HH.out.1.below ((Below.refl _ _).alloc (Nat.le_refl _) _)), (HH.out.2.1.alloc HH.out.2.1.size _).drew, (show SBox (wr.alloc ob) _ _ _ _ _ _ _ _ from HH.out.2.2.below ((Below.refl _ _).alloc (Nat.le_refl _) _)), heap_alloc_new wr ob⟩)
        have HOP : Hid (∀ W, Below w.heap.size w W → StrsAt W S PA s.ops[k].path ∧ StrsAt W S TA s.ops[k].to ∧ LV W S s.ops[k].val (.agg #[.int .i64 s.ops[k].val.kind, .int .i64 s.ops[k].val.num, .string s.ops[k].val.text, .slice VA s.ops[k].val.items.length vc, .slice VA' s.ops[k].val.names.length vc'])) := Lib.hid fun W hW => by
          obtain ⟨PA2, pc2, a, b, c, d, e, TA2, tc2, he2, hv2, hp2, ht2, -⟩ := HOK.out
          simp only [Array.mk.injEq, List.cons.injEq, and_true, Value.slice.injEq, true_and] at he2
          obtain ⟨⟨rfl, rfl⟩, rfl, rfl, rfl, rfl, rfl, rfl, rfl⟩ := he2
          exact ⟨hp2.keep fun b hb => hW.block b (HS.out b hb), ht2.keep fun b hb => hW.block b (HS.out b hb), hv2.keep fun b hb => hW.block b (HS.out b hb)⟩
        have HKD := Lib.hid (And.intro hkd hkr)
        have HACC := Lib.hid hacc
        rw [hob] at HX4
        clear hv x0 x1 x2 x3 x4 x5 x6 x7 hp hmay hacc hal hkd hkr hob HOK
        go_wp2_with fail
        try simp only [← HOB.out]
        have q0 := cell_k8 (w := w4) (i := 0) HX4.out.2.2.2 (by decide) rfl
        have q1 := cell_k8 (w := w4) (i := 1) HX4.out.2.2.2 (by decide) rfl
        refine wp_region_OT K8 (fun w => Lib.OthersKept.refl _ _ _) (fun a b c h k => h.trans k) [] (.pure [0, 1, 2, 3, 6, 7] (.step 4 (.step 5 (.step 8 (.step 9 (.free [10] (.tail []))))))) (by kernel_rfl) (by kernel_rfl) (fun _ d _ _ _ h => by cases d <;> exact h) ?_
        rw [← HW4.out]
        clear hw4
        refine ot_pure ?_
        simp only [atNats, List.filterMap_cons, List.filterMap_nil, List.getElem?_toArray, List.getElem?_cons_succ, List.getElem?_cons_zero]
        show wpQuiet _ _ _ _ [_, _, _, _, _, _] _
        try simp only [List.getElem_toArray, List.getElem_cons_succ, List.getElem_cons_zero, Act.put, List.setIfInBounds_toArray, List.set_cons_succ, List.set_cons_zero] at *
        repeat (go_big_quiet_step (fail))
        refine wpQuiet_nil ?_
        clear q0 q1
        refine ot_step rfl (fun K hK => ?_)
        go_simp
        refine hK _ _ (.inr ((Lib.OthersKept.refl _ _ _).alloc _)) ?_
        clear hK K
        obtain ⟨kb, hkb⟩ : ∃ kb, kb = UInt8.ofNat kd.toNat := ⟨_, rfl⟩
        have hkx : kd % 256 = (kb.toNat : Int) := by
          have h1 := HKD.out.2
          rw [hkb, ofNat_toNat _ (by omega)]
          omega
        have HKB := Lib.hid hkb
        have HKX := Lib.hid hkx
        have hB4 : wr.heap.size < w4.heap.size := (Array.getElem?_eq_some_iff.1 HX4.out.2.2.2).1
        have hoA : OwnB (w4.alloc (.cells #[.int .u8 (kd % 256)] 5)) w.heap.size u3 acc := HX4.out.1.below ((Below.refl _ _).alloc (Nat.le_refl _) _)
        have hbA : Below w.heap.size w (w4.alloc (.cells #[.int .u8 (kd % 256)] 5)) := HX4.out.2.1.alloc HX4.out.2.1.size _
        have hkA : K8 w4 (w4.alloc (.cells #[.int .u8 (kd % 256)] 5)) := (Lib.OthersKept.refl _ _ _).alloc _
        clear hkb hkx hB4
        refine ot_act rfl rfl (fun K hK => ?_)
        refine wp_append_bytesR _ _ rfl w.heap.size u3 acc rfl hoA (w4.heap.size + 1) _ [kb] rfl (Rd.one' rfl kb HKX.out) (by simp) hbA.size (by have := HAL.out; simp; omega) (fun v5 w5 hv5 hg5 => ?_)
        refine hK _ _ (.inr (k8_grown hoA hg5)) ?_
        clear hK K
        have HX5 : Hid (OwnB w5 w.heap.size v5 (acc ++ [kb]) ∧ Below w.heap.size w w5 ∧ K8 w4 w5) := Lib.hid ⟨hv5, below_own hbA hoA hbA.size hg5, hkA.trans (k8_grown hoA hg5)⟩
        clear hv5 hg5 hoA hbA hkA
        simp only [List.getElem_toArray, List.getElem_cons_succ, List.getElem_cons_zero, Act.put, List.setIfInBounds_toArray, List.set_cons_succ, List.set_cons_zero]
        have HC := Lib.hid (rsteps_any S PA pc s.ops[k].path w5 (fun b hb => Nat.lt_of_lt_of_le (HS.out b hb) HX5.out.2.1.size) (HOP.out w5 HX5.out.2.1).1 (mayO_ok HMAY.out).1)
        refine ot_step rfl (fun K hK => ?_)
        go_simp
        refine HC.out.mono ?_
        rintro e w6 ⟨v6, rfl, hv6, hb6⟩
        go_simp
        refine hK _ _ (.inr (k8_below hb6)) ?_
        clear hK K HC
        have hoB : OwnB w6 w.heap.size v5 (acc ++ [kb]) := HX5.out.1.below hb6
        have hbB : Below w.heap.size w w6 := HX5.out.2.1.trans (hb6.mono HX5.out.2.1.size)
        refine ot_act rfl rfl (fun K hK => ?_)
        refine wp_append_bytesR _ _ rfl w.heap.size v5 (acc ++ [kb]) rfl hoB w6.heap.size _ (pathC s.ops[k].path) rfl hv6.rd (pathC_pos _) hbB.size (by have := HAL.out; have := pathC_small (mayO_ok HMAY.out).1; simp; omega) (fun v7 w7 hv7 hg7 => ?_)
        refine hK _ _ (.inr (k8_grown hoB hg7)) ?_
        clear hK K
        have hk7 : K8 w4 w7 := (HX5.out.2.2.trans (k8_below hb6)).trans (k8_grown hoB hg7)
        have HX7 : Hid (OwnB w7 w.heap.size v7 (acc ++ [kb] ++ pathC s.ops[k].path) ∧ Below w.heap.size w w7 ∧ SBox w7 w.heap.size s DA dc DA' dc' (some ⟨p, off, none⟩) oc ∧ w7.heap[wr.heap.size]? = some (.cells #[.int .i64 kd, .slice PA s.ops[k].path.length pc, .int .i64 s.ops[k].val.kind, .int .i64 s.ops[k].val.num, .string s.ops[k].val.text, .slice VA s.ops[k].val.items.length vc, .slice VA' s.ops[k].val.names.length vc', .slice TA s.ops[k].to.length tc] 33 (0, 0))) := Lib.hid ⟨hv7, below_own hbB hoB hbB.size hg7, boxs_k8 HX4.out.2.2.1 hk7, box_k8 HX4.out.2.2.2 hk7⟩
        clear hv7 hg7 hoB hbB hk7 hv6 hb6 HX5 HX4
        simp only [List.getElem_toArray, List.getElem_cons_succ, List.getElem_cons_zero, Act.put, List.setIfInBounds_toArray, List.set_cons_succ, List.set_cons_zero]
        refine ot_free ?_
        simp only [atNats, List.filterMap_cons, List.filterMap_nil, List.getElem?_toArray, List.getElem?_cons_succ, List.getElem?_cons_zero]
        show wpQuiet _ _ _ _ [_] _
        try simp only [List.getElem_toArray, List.getElem_cons_succ, List.getElem_cons_zero, Act.put, List.setIfInBounds_toArray, List.set_cons_succ, List.set_cons_zero] at *
        repeat (go_big_quiet_step (fail))
        refine wpQuiet_nil ?_
        refine ot_end ?_
        have HN : Hid ([0] ++ grp s.ops.length ++ ((s.ops.take (k + 1)).map codeO).flatten = acc ++ [kb] ++ pathC s.ops[k].path ++ (if kd = 2 then [] else if kd = 6 then pathC s.ops[k].to else encO s.ops[k].val)) := Lib.hid (by
          have h1 : ((s.ops.take (k + 1)).map codeO).flatten = ((s.ops.take k).map codeO).flatten ++ codeO s.ops[k] := by
            rw [List.take_add_one, List.getElem?_eq_getElem hlt, List.map_append, List.flatten_append]
            exact congrArg _ (List.append_nil _)
          rw [h1, HACC.out, HKB.out, HKD.out.1]
          unfold codeO
          simp only [List.append_assoc])
        have HL7 : Hid ((acc ++ [kb] ++ pathC s.ops[k].path).length ≤ 40000000) := Lib.hid (by have := HAL.out; have := pathC_small (mayO_ok HMAY.out).1; simp; omega)
        have r0 : w7.cell? ⟨wr.heap.size, 0, none⟩ = some (.int .i64 kd) := Go.Joins.cell_of_block HX7.out.2.2.2 0
        have r1 := Go.Joins.cell_of_block HX7.out.2.2.2 1
        have r2 := Go.Joins.cell_of_block HX7.out.2.2.2 2
        have r3 := Go.Joins.cell_of_block HX7.out.2.2.2 3
        have r4 := Go.Joins.cell_of_block HX7.out.2.2.2 4
        have r5 := Go.Joins.cell_of_block HX7.out.2.2.2 5
        have r6 := Go.Joins.cell_of_block HX7.out.2.2.2 6
        have r7 := Go.Joins.cell_of_block HX7.out.2.2.2 7
        clear z0 z1 z2 z3 z4 z5 z6 z7 y6
        by_cases h2k : kd = 2
        · have d2 : (kd == 2) = true := by rw [h2k]; rfl
          have HX9 : Hid (OwnB w7 w.heap.size v7 ([0] ++ grp s.ops.length ++ ((s.ops.take (k + 1)).map codeO).flatten) ∧ Below w.heap.size w w7 ∧ SBox w7 w.heap.size s DA dc DA' dc' (some ⟨p, off, none⟩) oc) := Lib.hid ⟨by rw [HN.out, if_pos h2k, List.append_nil]; exact HX7.out.1, HX7.out.2.1, HX7.out.2.2.1⟩
          clear h2k
          have h16 := HZO.out.1
          go_wp2_with fail
          go_roundw
          case rel => exact ⟨k + 1, by go_num, by omega, HX9⟩
          case measure => simp [intOf]; omega
        have d2 : (kd == 2) = false := by simpa using h2k
        have HK2 := Lib.hid h2k
        clear h2k
        by_cases h0k : kd = 6
        · have d6 : (kd == 6) = true := by rw [h0k]; rfl
          have HK6 := Lib.hid h0k
          have HC := Lib.hid (rsteps_any S TA tc s.ops[k].to w7 (fun b hb => Nat.lt_of_lt_of_le (HS.out b hb) HX7.out.2.1.size) (HOP.out w7 HX7.out.2.1).2.1 (mayO_ok HMAY.out).2)
          clear h0k
          go_wp2_with fail
          refine HC.out.mono ?_
          rintro e w8 ⟨v8, rfl, hv8, hb8⟩
          have HX8 : Hid (OwnB w8 w.heap.size v7 (acc ++ [kb] ++ pathC s.ops[k].path) ∧ Below w.heap.size w w8 ∧ Rd w8 w8.heap.size v8 (pathC s.ops[k].to) ∧ SBox w8 w.heap.size s DA dc DA' dc' (some ⟨p, off, none⟩) oc) := Lib.hid ⟨HX7.out.1.below hb8, HX7.out.2.1.trans (hb8.mono HX7.out.2.1.size), hv8.rd, boxs_k8 HX7.out.2.2.1 (k8_below hb8)⟩
          clear hv8 hb8 HC r0 r1 r2 r3 r4 r5 r6 r7
          go_wp2_with (at_builtin; go_must (refine wpList_append_bytes rfl _ _ rfl w.heap.size _ (acc ++ [kb] ++ pathC s.ops[k].path) rfl HX8.out.1 w8.heap.size v8 (pathC s.ops[k].to) rfl HX8.out.2.2.1 HX8.out.2.1.size (by have := HL7.out; have := pathC_small (mayO_ok HMAY.out).2; omega) ?_))
          intro v9 w9 hv9 hg9
          have HX9 : Hid (OwnB w9 w.heap.size v9 ([0] ++ grp s.ops.length ++ ((s.ops.take (k + 1)).map codeO).flatten) ∧ Below w.heap.size w w9 ∧ SBox w9 w.heap.size s DA dc DA' dc' (some ⟨p, off, none⟩) oc) := Lib.hid ⟨by rw [HN.out, if_neg HK2.out, if_pos HK6.out]; simpa [List.append_assoc] using hv9, below_own HX8.out.2.1 HX8.out.1 HX8.out.2.1.size hg9, boxs_k8 HX8.out.2.2.2 (k8_grown HX8.out.1 hg9)⟩
          clear hv9 hg9
          have h16 := HZO.out.1
          go_wp2_with fail
          go_roundw
          case rel => exact ⟨k + 1, by go_num, by omega, HX9⟩
          case measure => simp [intOf]; omega
        · have d6 : (kd == 6) = false := by simpa using h0k
          have HK6 := Lib.hid h0k
          have HC := Lib.hid (renc_any S s.ops[k].val _ w7 (fun b hb => Nat.lt_of_lt_of_le (HS.out b hb) HX7.out.2.1.size) (HOP.out w7 HX7.out.2.1).2.2 (HD.out.2 _ (List.getElem_mem hlt)) (mayO_val HMAY.out (HKD.out.1 ▸ HK2.out) (HKD.out.1 ▸ HK6.out)))
          clear h0k
          go_wp2_with fail
          refine HC.out.mono ?_
          rintro e w8 ⟨v8, rfl, hv8, hb8⟩
          have HX8 : Hid (OwnB w8 w.heap.size v7 (acc ++ [kb] ++ pathC s.ops[k].path) ∧ Below w.heap.size w w8 ∧ Rd w8 w8.heap.size v8 (encO s.ops[k].val) ∧ SBox w8 w.heap.size s DA dc DA' dc' (some ⟨p, off, none⟩) oc) := Lib.hid ⟨HX7.out.1.below hb8, HX7.out.2.1.trans (hb8.mono HX7.out.2.1.size), hv8.rd, boxs_k8 HX7.out.2.2.1 (k8_below hb8)⟩
          clear hv8 hb8 HC r0 r1 r2 r3 r4 r5 r6 r7
          go_wp2_with (at_builtin; go_must (refine wpList_append_bytes rfl _ _ rfl w.heap.size _ (acc ++ [kb] ++ pathC s.ops[k].path) rfl HX8.out.1 w8.heap.size v8 (encO s.ops[k].val) rfl HX8.out.2.2.1 HX8.out.2.1.size (by have := HL7.out; have := encO_length (t := s.ops[k].val) (HD.out.2 _ (List.getElem_mem hlt)); omega) ?_))
          intro v9 w9 hv9 hg9
          have HX9 : Hid (OwnB w9 w.heap.size v9 ([0] ++ grp s.ops.length ++ ((s.ops.take (k + 1)).map codeO).flatten) ∧ Below w.heap.size w w9 ∧ SBox w9 w.heap.size s DA dc DA' dc' (some ⟨p, off, none⟩) oc) := Lib.hid ⟨by rw [HN.out, if_neg HK2.out, if_neg HK6.out]; simpa [List.append_assoc] using hv9, below_own HX8.out.2.1 HX8.out.1 HX8.out.2.1.size hg9, boxs_k8 HX8.out.2.2.2 (k8_grown HX8.out.1 hg9)⟩
          clear hv9 hg9
          have h16 := HZO.out.1
          go_wp2_with fail
          go_roundw
          case rel => exact ⟨k + 1, by go_num, by omega, HX9⟩
          case measure => simp [intOf]; omega
      · have hke : k = s.ops.length := by omega
        have d1 : decide ((k : Int) < (s.ops.length : Int)) = false := decide_eq_false (by omega)
        have HE : Hid (OwnB wr w.heap.size u3 (codeS s)) := Lib.hid (by
          have h9 := HH.out.1
          rw [hke, List.take_length] at h9
          rw [HF.out]
          exact h9)
        clear hke
        go_wp2_with fail
        go_ret
        exact ⟨_, rfl, HE.out, HH.out.2.1⟩
  · go_wp2_with fail
    rw [← hw1]
    clear hw1 y0 y1 y2 y3 y4 y5 y6
    have hfin : codeS s = [1] ++ encO s.doc := by unfold codeS; rw [if_pos HCZ.out, if_pos HRP.out.symm]
    have HF := Lib.hid hfin
    refine (renc_any S s.doc _ _ (fun b hb => Nat.lt_of_lt_of_le (HS.out b hb) (HBX.out _).1.size) (HV.out.keep fun b hb => (HBX.out _).1.block b (HS.out b hb)) HD.out.1 (check_zero_rep HCZ.out HRP.out.symm)).mono ?_
    rintro e w2 ⟨x, rfl, hx, hb⟩
    have HX2 : Hid (OwnB w2 w.heap.size (.slice (some ⟨w.heap.size + 1, 0, none⟩) 1 1) [1] ∧ Below w.heap.size w w2 ∧ Rd w2 w2.heap.size x (encO s.doc)) := Lib.hid ⟨(HBA.out 1 1 rfl).below hb, (HBX.out _).1.trans (hb.mono (HBX.out _).1.size), hx.rd⟩
    clear hx hb hfin
    go_wp2_with (at_builtin; go_must (refine wpList_append_bytes rfl _ _ rfl w.heap.size _ [1] rfl HX2.out.1 w2.heap.size x (encO s.doc) rfl HX2.out.2.2 HX2.out.2.1.size (by have := encO_length (t := s.doc) HD.out.1; simp; omega) ?_))
    intro v3 w3 hv3 hg3
    have HE : Hid (OwnB w3 w.heap.size v3 (codeS s) ∧ Below w.heap.size w w3) := Lib.hid ⟨by rw [HF.out]; exact hv3, below_own HX2.out.2.1 HX2.out.1 HX2.out.2.1.size hg3⟩
    clear hv3 hg3
    go_wp2_with fail
    go_ret
    exact ⟨_, rfl, HE.out⟩
end Go.Proofs.YtipiplnhbecjeaaGreat

/- Updates that came in. -/
namespace Go.Proofs.YtipiplnhbecjeaaGreat
set_option linter.unusedVariables false
set_option linter.unusedSimpArgs false
open Go.ChangeShapes Go.WideShapes Go.RowKit Go.Joins Go.Deep
set_option linter.unusedVariables false
set_option maxRecDepth 100000
theorem cellsAOp : Tryz.prog.cellsOf 33 = 8 := by kernel_rfl
theorem cellsAOps : Tryz.prog.cellsOf 26 = 1 := by kernel_rfl
theorem cellsSpec : Tryz.prog.cellsOf 28 = 7 := by kernel_rfl
theorem cellsBool7 : Tryz.prog.cellsOf 4 = 1 := by kernel_rfl
theorem bytesAOp : Tryz.prog.bytesOf 33 = 136 := by kernel_rfl
theorem addr_add7 (b o j : Nat) : (Addr.add ⟨b, o, none⟩ j : Addr) = ⟨b, o + j, none⟩ := by cases j <;> simp [Addr.add]
theorem fieldsAOp : ∃ f0 f1 f2 f3 : Field, Tryz.prog.underlying 33 = some (.struct #[f0, f1, f2, f3]) ∧ f0.type = 3 ∧ f1.type = 23 ∧ f2.type = 25 ∧ f3.type = 23 ∧ f0.offset = 0 ∧ f1.offset = 1 ∧ f2.offset = 2 ∧ f3.offset = 7 :=
  ⟨_, _, _, _, Tryz.underlying33, rfl, rfl, rfl, rfl, rfl, rfl, rfl, rfl⟩
theorem fieldsSpec : ∃ f0 f1 f2 : Field, Tryz.prog.underlying 28 = some (.struct #[f0, f1, f2]) ∧ f0.type = 4 ∧ f1.type = 25 ∧ f2.type = 26 ∧ f0.offset = 0 ∧ f1.offset = 1 ∧ f2.offset = 6 :=
  ⟨_, _, _, Tryz.underlying28, rfl, rfl, rfl, rfl, rfl, rfl⟩
section
variable {H : Type} {enc : TypeId × Value → H} {W : World} {sp : Nat → Bool}
theorem open_aop {fuel : Nat} {cs : List Value} {x : DataW H × List MemPlace} (h : DataW.trod enc Tryz.prog W 0 sp true fuel 33 cs = some x) (hw : ∀ n ∈ x.1.weights Tryz.prog 33, n ≤ reachBytes) :
    ∃ o : OpT, OpL W (fun b => b < W.heap.size) o cs.toArray := by
  obtain ⟨f0, f1, f2, f3, hu, t0, t1, t2, t3, o0, o1, o2, o3⟩ := fieldsAOp
  obtain ⟨xs, n, hfu, hx, hlen, hxl, hg⟩ := DataW.trod_struct hu h
  rw [cellsAOp] at hlen
  match cs, hlen with
  | [c0, c1, c2, c3, c4, c5, c6, c7], _ =>
    match xs, hxl with
    | [y0, y1, y2, y3], _ =>
      have g0 := hg 0 f0 rfl
      have g1 := hg 1 f1 rfl
      have g2 := hg 2 f2 rfl
      have g3 := hg 3 f3 rfl
      rw [t0, o0, cellsI] at g0
      rw [t1, o1, cellsStrs] at g1
      rw [t2, o2, cellsVal] at g2
      rw [t3, o3, cellsStrs] at g3
      have hws := hw
      rw [hx] at hws
      simp only [DataW.weights, hu, List.map_cons, List.map_nil, t0, t1, t2, t3] at hws
      obtain ⟨k, e0, -, w0⟩ := DataW.trod_int Tryz.underlying3 g0
      simp at e0
      subst e0
      have hw1 : ∀ n ∈ y1.1.weights Tryz.prog 23, n ≤ reachBytes := fun n hn => hws n (by rw [DataW.weightsEach, DataW.weightsEach]; exact List.mem_append_right _ (List.mem_append_left _ hn))
      have hw2 : ∀ n ∈ y2.1.weights Tryz.prog 25, n ≤ reachBytes := fun n hn => hws n (by rw [DataW.weightsEach, DataW.weightsEach, DataW.weightsEach]; exact List.mem_append_right _ (List.mem_append_right _ (List.mem_append_left _ hn)))
      have hw3 : ∀ n ∈ y3.1.weights Tryz.prog 23, n ≤ reachBytes := fun n hn => hws n (by rw [DataW.weightsEach, DataW.weightsEach, DataW.weightsEach, DataW.weightsEach]; exact List.mem_append_right _ (List.mem_append_right _ (List.mem_append_right _ (List.mem_append_left _ hn))))
      obtain ⟨PA, pc, ps, e1, hpc, -, hpn, hps⟩ := open_names2 g1 hw1
      obtain ⟨TA, tc, ts, e3, htc, -, htn, hts⟩ := open_names2 g3 hw3
      obtain ⟨t, ht⟩ := open_val _ _ _ g2 hw2
      simp at e1 e3
      subst e1 e3
      exact ⟨⟨k, ps, t, ts⟩, PA, pc, c2, c3, c4, c5, c6, TA, tc, rfl, ht, hps, hts, hpc, htc, in64_of_wf w0, hpn, htn⟩
theorem open_aops {fuel : Nat} {cs : List Value} {x : DataW H × List MemPlace} (h : DataW.trod enc Tryz.prog W 0 sp true fuel 26 cs = some x) (hw : ∀ n ∈ x.1.weights Tryz.prog 26, n ≤ reachBytes) :
    ∃ A c, ∃ os : List OpT, cs = [.slice A os.length c] ∧ os.length ≤ c ∧ os.length ≤ 1099511627776 ∧ OpsL W (fun b => b < W.heap.size) A os := by
  rcases DataW.trod_slice Tryz.underlying26 h with ⟨e3, -⟩ | ⟨a, len, cap, elems, rest, m, hm, e3, x3, -, hlc, -, hel, hat, -, -⟩
  · exact ⟨none, 0, [], e3, by simp, by simp, fun h => absurd h (by simp)⟩
  · have hws := hw
    rw [x3] at hws
    simp only [DataW.weights, Tryz.underlying26] at hws
    have hl : len ≤ 1099511627776 := by
      have h1 := hws _ (List.mem_cons_self ..)
      rw [bytesAOp] at h1
      simp only [List.length_map, hel, reachBytes] at h1
      omega
    have hT : ∀ j, ∃ o : OpT, j < len → ∃ cs : Array Value, (∀ i v, cs[i]? = some v → W.cell? ((a.add (j * 8)).add i) = some v) ∧ OpL W (fun b => b < W.heap.size) o cs := by
      intro j
      by_cases hj : j < len
      · have h1 := hat j hj
        rw [cellsAOp, List.getElem?_eq_getElem (by omega)] at h1
        obtain ⟨cs', hc, ht⟩ := Option.bind_eq_some_iff.1 h1
        obtain ⟨-, hcl, hcat⟩ := World.cells?_some hc
        obtain ⟨o, ho⟩ := open_aop ht (fun n hn => hws n (List.mem_cons_of_mem _ (List.mem_append_left _ (mem_weightsAll (List.mem_map.2 ⟨_, List.getElem_mem (by omega), rfl⟩) n hn))))
        refine ⟨o, fun _ => ⟨cs'.toArray, fun i v hv => ?_, ho⟩⟩
        have hi := (Array.getElem?_eq_some_iff.1 hv).1
        have hi' : i < cs'.length := by simpa using hi
        rw [hcat i (by omega)]
        simpa using hv
      · exact ⟨⟨0, [], .mk 0 0 ⟨#[]⟩ [] [], []⟩, fun h => absurd h hj⟩
    obtain ⟨T, hT⟩ := Classical.skolem.1 hT
    have hlm : ((List.range len).map T).length = len := by simp
    refine ⟨some a, cap, (List.range len).map T, by rw [hlm]; exact e3, by omega, by omega, fun hp => ?_⟩
    rw [hlm] at hp
    obtain ⟨b, off, spot⟩ := a
    obtain ⟨cs0, h0, hok0⟩ := hT 0 hp
    obtain ⟨PA0, pc0, a0, b0, c0, d0, e0, TA0, tc0, hcs0, -⟩ := hok0
    have h00 := h0 0 (.int .i64 (T 0).kind) (by rw [hcs0]; rfl)
    obtain rfl : spot = none := by simpa [Addr.add] using World.cell?_spot h00
    refine ⟨b, off, rfl, ?_, fun j hj => ?_⟩
    · rw [addr_add7, addr_add7] at h00; exact World.block_lt_of_cell? W _ h00
    · rw [hlm] at hj
      obtain ⟨cs, h0, h1⟩ := hT j hj
      refine ⟨cs, fun i v hv => ?_, by simpa using h1⟩
      have := h0 i v hv
      rw [addr_add7, addr_add7] at this
      exact this
theorem open_spec {fuel : Nat} {cs : List Value} {x : DataW H × List MemPlace} (h : DataW.trod enc Tryz.prog W 0 sp true fuel 28 cs = some x) (hw : ∀ n ∈ x.1.weights Tryz.prog 28, n ≤ reachBytes) :
    ∃ s : SpecT, SpecL W (fun b => b < W.heap.size) s cs.toArray := by
  obtain ⟨f0, f1, f2, hu, t0, t1, t2, o0, o1, o2⟩ := fieldsSpec
  obtain ⟨xs, n, hfu, hx, hlen, hxl, hg⟩ := DataW.trod_struct hu h
  rw [cellsSpec] at hlen
  match cs, hlen with
  | [c0, c1, c2, c3, c4, c5, c6], _ =>
    match xs, hxl with
    | [y0, y1, y2], _ =>
      have g0 := hg 0 f0 rfl
      have g1 := hg 1 f1 rfl
      have g2 := hg 2 f2 rfl
      rw [t0, o0, cellsBool7] at g0
      rw [t1, o1, cellsVal] at g1
      rw [t2, o2, cellsAOps] at g2
      have hws := hw
      rw [hx] at hws
      simp only [DataW.weights, hu, List.map_cons, List.map_nil, t0, t1, t2] at hws
      have hw1 : ∀ n ∈ y1.1.weights Tryz.prog 25, n ≤ reachBytes := fun n hn => hws n (by rw [DataW.weightsEach, DataW.weightsEach]; exact List.mem_append_right _ (List.mem_append_left _ hn))
      have hw2 : ∀ n ∈ y2.1.weights Tryz.prog 26, n ≤ reachBytes := fun n hn => hws n (by rw [DataW.weightsEach, DataW.weightsEach, DataW.weightsEach]; exact List.mem_append_right _ (List.mem_append_right _ (List.mem_append_left _ hn)))
      obtain ⟨OA, oc, os, e2, hoc, hol, hos⟩ := open_aops g2 hw2
      obtain ⟨t, ht⟩ := open_val _ _ _ g1 hw1
      obtain ⟨r, e0, -⟩ := DataW.trod_bool Tryz.underlying4 g0
      simp at e0 e2
      subst e0 e2
      obtain ⟨DA, dc, DA', dc', hts, -⟩ := ht.shape
      simp at hts
      obtain ⟨rfl, rfl, rfl, rfl, rfl⟩ := hts
      exact ⟨⟨r, t, os⟩, DA, dc, DA', dc', OA, oc, rfl, ht, hos, hoc, hol⟩
end
end Go.Proofs.YtipiplnhbecjeaaGreat

/- An update that is not large is small enough for all walks. -/
namespace Go.Proofs.YtipiplnhbecjeaaGreat
set_option linter.unusedVariables false
set_option linter.unusedSimpArgs false
open Go.RowKit
theorem small_all {w : World} {S : Nat → Prop} {s : SpecT} {cs : Array Value} (h : SpecL w S s cs) (hl : largeS s = false) : SmallS s ∧ SmallZ s := by
  obtain ⟨h1, h2, h3⟩ := largeS_small hl
  obtain ⟨DA, dc, DA', dc', OA, oc, -, hv, ho, -, -⟩ := h
  have hd : largeT s.doc = false := by
    unfold largeS at hl
    simp only [Bool.or_eq_false_iff] at hl
    exact hl.2
  refine ⟨⟨by omega, fun o ho => by have := (h3 o ho).1; omega⟩, size_small hv hd, fun o hmem => ?_⟩
  obtain ⟨i, hi, rfl⟩ := List.getElem_of_mem hmem
  obtain ⟨b, off, -, -, hc⟩ := ho (by omega)
  obtain ⟨cs', -, hop⟩ := hc i hi
  obtain ⟨PA, pc, a, b2, c, d, e, TA, tc, -, hlv, -⟩ := hop
  refine size_small hlv ?_
  unfold largeS at hl
  simp only [Bool.or_eq_false_iff, List.any_eq_false] at hl
  have h4 := hl.1.1 s.ops[i] (by rw [List.take_of_length_le (by omega)]; exact List.getElem_mem hi)
  unfold bigO at h4
  simp at h4
  simp [h4]
end Go.Proofs.YtipiplnhbecjeaaGreat

/- The law's own update. -/
namespace Go.Proofs.YtipiplnhbecjeaaGreat
set_option linter.unusedVariables false
set_option linter.unusedSimpArgs false
open Go.RowKit
set_option maxRecDepth 100000
def twoS : SpecT := ⟨false, .mk 0 0 ⟨#[]⟩ [] [], [⟨1, [⟨#[97]⟩], .mk 3 1 ⟨#[]⟩ [] [], []⟩, ⟨6, [⟨#[98]⟩], .mk 0 0 ⟨#[]⟩ [] [], [⟨#[99]⟩, ⟨#[100]⟩]⟩]⟩
theorem results_cell_s {fn : Func} {p : Tmp} (h : fn.results = #[.cell p 28]) (tmps : Array Value) (w : World) (g : Nat) (t : TypeId) (cs : Array Value) (fr : Nat × Nat)
    (hp : tmps.getD p undef = .pointer (some ⟨g, 0, none⟩)) (hg : w.heap[g]? = some (.cells cs t fr)) (hi : (Tryz.prog.info? 28).map (·.size) = some cs.size) :
    (results fn tmps).run Tryz.prog w = .ok (.agg cs) w := by
  have hp' : tmps[p]?.getD undef = .pointer (some ⟨g, 0, none⟩) := by simpa using hp
  have e := run_loadVar_row w g t 28 cs fr _ hg Tryz.underlying28 rfl hi
  simp [results, h, hp', asAddr, Sem.run_bind, Result.andThen, e]
theorem strs_new1 {w : World} {S : Nat → Prop} {g : Nat} {t : TypeId} {fr : Nat × Nat} {s : ByteArray} (hg : w.heap[g]? = some (.cells #[.string s] t fr)) (hS : S g) (hs : s.size ≤ 140737488351232) : StrsAt w S (some ⟨g, 0, none⟩) [s] := fun _ =>
  ⟨g, 0, rfl, hS, fun i hi => by
    obtain rfl : i = 0 := by simpa using hi
    exact ⟨Go.Joins.cell_of_block hg 0, hs⟩⟩
theorem strs_new2 {w : World} {S : Nat → Prop} {g : Nat} {t : TypeId} {fr : Nat × Nat} {s s' : ByteArray} (hg : w.heap[g]? = some (.cells #[.string s, .string s'] t fr)) (hS : S g) (hs : s.size ≤ 140737488351232) (hs' : s'.size ≤ 140737488351232) : StrsAt w S (some ⟨g, 0, none⟩) [s, s'] := fun _ =>
  ⟨g, 0, rfl, hS, fun i hi => by
    match i, hi with
    | 0, _ => exact ⟨Go.Joins.cell_of_block hg 0, hs⟩
    | 1, _ => exact ⟨Go.Joins.cell_of_block hg 1, hs'⟩⟩
set_option maxHeartbeats 4000000 in
theorem two7_any (w : World) : Calls Tryz.prog 26 #[] w fun e w' => ∃ cs, e = .returned (.agg cs) ∧ SpecL w' (fun b => w.heap.size ≤ b ∧ b < w'.heap.size) twoS cs ∧ Below w.heap.size w w' := by
  go_enter Tryz.func26, Tryz.ntmps26
  go_wp2_with fail
  obtain ⟨x0, hx0⟩ : ∃ x : Obj, x = .cells #[.bool false, .int .i64 0, .int .i64 0, .string ⟨#[]⟩, .slice none 0 0, .slice none 0 0, .slice (some ⟨w.heap.size + 1 + 1 + 1 + 1, 0, none⟩) 2 2] 28 := ⟨_, rfl⟩
  obtain ⟨x4, hx4⟩ : ∃ x : Obj, x = .cells #[.int .i64 1, .slice (some ⟨w.heap.size + 1, 0, none⟩) 1 1, .int .i64 3, .int .i64 1, .string ⟨#[]⟩, .slice none 0 0, .slice none 0 0, .slice none 0 0, .int .i64 6, .slice (some ⟨w.heap.size + 1 + 1, 0, none⟩) 1 1, .int .i64 0, .int .i64 0, .string ⟨#[]⟩, .slice none 0 0, .slice none 0 0, .slice (some ⟨w.heap.size + 1 + 1 + 1, 0, none⟩) 2 2] 33 := ⟨_, rfl⟩
  rw [← hx0, ← hx4]
  obtain ⟨s1, hs1⟩ : ∃ x : Obj, x = .cells #[.string ⟨#[97]⟩] 9 := ⟨_, rfl⟩
  obtain ⟨s2, hs2⟩ : ∃ x : Obj, x = .cells #[.string ⟨#[98]⟩] 9 := ⟨_, rfl⟩
  obtain ⟨s3, hs3⟩ : ∃ x : Obj, x = .cells #[.string ⟨#[99]⟩, .string ⟨#[100]⟩] 9 := ⟨_, rfl⟩
  rw [← hs1, ← hs2, ← hs3]
  obtain ⟨v1, hv1⟩ : ∃ v, v = w.alloc x0 := ⟨_, rfl⟩
  rw [← hv1]
  obtain ⟨v2, hv2⟩ : ∃ v, v = v1.alloc s1 := ⟨_, rfl⟩
  rw [← hv2]
  obtain ⟨v3, hv3⟩ : ∃ v, v = v2.alloc s2 := ⟨_, rfl⟩
  rw [← hv3]
  obtain ⟨v4, hv4⟩ : ∃ v, v = v3.alloc s3 := ⟨_, rfl⟩
  rw [← hv4]
  obtain ⟨w5, hv5⟩ : ∃ v, v = v4.alloc x4 := ⟨_, rfl⟩
  rw [← hv5]
  have z1 : v1.heap.size = w.heap.size + 1 := by rw [hv1]; simp
  have z2 : v2.heap.size = w.heap.size + 2 := by rw [hv2]; simp; omega
  have z3 : v3.heap.size = w.heap.size + 3 := by rw [hv3]; simp; omega
  have z4 : v4.heap.size = w.heap.size + 4 := by rw [hv4]; simp; omega
  have hz : w5.heap.size = w.heap.size + 5 := by rw [hv5]; simp; omega
  have p2 : ∀ b, b < v1.heap.size → v2.heap[b]? = v1.heap[b]? := fun b hb => by rw [hv2]; exact Below.heap_alloc v1 _ b hb
  have p3 : ∀ b, b < v2.heap.size → v3.heap[b]? = v2.heap[b]? := fun b hb => by rw [hv3]; exact Below.heap_alloc v2 _ b hb
  have p4 : ∀ b, b < v3.heap.size → v4.heap[b]? = v3.heap[b]? := fun b hb => by rw [hv4]; exact Below.heap_alloc v3 _ b hb
  have p5 : ∀ b, b < v4.heap.size → w5.heap[b]? = v4.heap[b]? := fun b hb => by rw [hv5]; exact Below.heap_alloc v4 _ b hb
  have hb : Below w.heap.size w w5 := by
    rw [hv5, hv4, hv3, hv2, hv1]
    exact (((((Below.refl _ _).alloc (Nat.le_refl _) _).alloc (by simp) _).alloc (by simp; omega) _).alloc (by simp; omega) _).alloc (by simp; omega) _
  have n0 : v1.heap[w.heap.size]? = some x0 := by rw [hv1]; exact heap_alloc_new w x0
  have n1 : v2.heap[w.heap.size + 1]? = some s1 := by rw [hv2, ← z1]; exact heap_alloc_new v1 s1
  have n2 : v3.heap[w.heap.size + 1 + 1]? = some s2 := by rw [hv3, show w.heap.size + 1 + 1 = v2.heap.size from z2.symm]; exact heap_alloc_new v2 s2
  have n3 : v4.heap[w.heap.size + 1 + 1 + 1]? = some s3 := by rw [hv4, show w.heap.size + 1 + 1 + 1 = v3.heap.size from z3.symm]; exact heap_alloc_new v3 s3
  have g4 : w5.heap[w.heap.size + 1 + 1 + 1 + 1]? = some x4 := by rw [hv5, show w.heap.size + 1 + 1 + 1 + 1 = v4.heap.size from z4.symm]; exact heap_alloc_new v4 x4
  have g0 : w5.heap[w.heap.size]? = some x0 := (p5 _ (by omega)).trans ((p4 _ (by omega)).trans ((p3 _ (by omega)).trans ((p2 _ (by omega)).trans n0)))
  have g1 : w5.heap[w.heap.size + 1]? = some s1 := (p5 _ (by omega)).trans ((p4 _ (by omega)).trans ((p3 _ (by omega)).trans n1))
  have g2 : w5.heap[w.heap.size + 1 + 1]? = some s2 := (p5 _ (by omega)).trans ((p4 _ (by omega)).trans n2)
  have g3 : w5.heap[w.heap.size + 1 + 1 + 1]? = some s3 := (p5 _ (by omega)).trans n3
  rw [hx0] at g0
  rw [hs1] at g1
  rw [hs2] at g2
  rw [hs3] at g3
  rw [hx4] at g4
  clear n0 n1 n2 n3 p2 p3 p4 p5 hv1 hv2 hv3 hv4 hv5 hx0 hx4 hs1 hs2 hs3
  refine bodyPost_ret (results_cell_s rfl _ _ _ _ _ _ rfl g0 (by kernel_rfl)) rfl ⟨_, rfl, ?_, hb⟩
  have hS : ∀ i, i < 5 → w.heap.size ≤ w.heap.size + i ∧ w.heap.size + i < w5.heap.size := fun i hi => by omega
  refine ⟨none, 0, none, 0, some ⟨w.heap.size + 1 + 1 + 1 + 1, 0, none⟩, 2, rfl, leaf_lv _ _ _ _ _ (by unfold Rng; omega) (by unfold Rng; omega) (by decide), fun _ => ⟨w.heap.size + 1 + 1 + 1 + 1, 0, rfl, hS 4 (by omega), fun i hi => ?_⟩, by simp [twoS], by simp [twoS]⟩
  have hi2 : i < 2 := hi
  match i, hi2 with
  | 0, _ =>
    exact ⟨#[.int .i64 1, .slice (some ⟨w.heap.size + 1, 0, none⟩) 1 1, .int .i64 3, .int .i64 1, .string ⟨#[]⟩, .slice none 0 0, .slice none 0 0, .slice none 0 0], fun j v hj => by
      have hj' : j < 8 := (Array.getElem?_eq_some_iff.1 hj).1
      rw [Go.Joins.cell_of_block g4 (0 + 0 * 8 + j)]
      match j, hj' with
      | 0, _ | 1, _ | 2, _ | 3, _ | 4, _ | 5, _ | 6, _ | 7, _ => exact hj,
      ⟨_, _, _, _, _, _, _, none, 0, rfl, leaf_lv _ _ _ _ _ (by unfold Rng; omega) (by unfold Rng; omega) (by decide), strs_new1 g1 (hS 1 (by omega)) (by decide), strs_nil _ _ _, by simp [twoS], by simp [twoS], by unfold Rng; simp [twoS], by simp [twoS], by simp [twoS]⟩⟩
  | 1, _ =>
    exact ⟨#[.int .i64 6, .slice (some ⟨w.heap.size + 1 + 1, 0, none⟩) 1 1, .int .i64 0, .int .i64 0, .string ⟨#[]⟩, .slice none 0 0, .slice none 0 0, .slice (some ⟨w.heap.size + 1 + 1 + 1, 0, none⟩) 2 2], fun j v hj => by
      have hj' : j < 8 := (Array.getElem?_eq_some_iff.1 hj).1
      rw [Go.Joins.cell_of_block g4 (0 + 1 * 8 + j)]
      match j, hj' with
      | 0, _ | 1, _ | 2, _ | 3, _ | 4, _ | 5, _ | 6, _ | 7, _ => exact hj,
      ⟨_, _, _, _, _, _, _, _, _, rfl, leaf_lv _ _ _ _ _ (by unfold Rng; omega) (by unfold Rng; omega) (by decide), strs_new1 g2 (hS 2 (by omega)) (by decide), strs_new2 g3 (hS 3 (by omega)) (by decide) (by decide), by simp [twoS], by simp [twoS], by unfold Rng; simp [twoS], by simp [twoS], by simp [twoS]⟩⟩
end Go.Proofs.YtipiplnhbecjeaaGreat
