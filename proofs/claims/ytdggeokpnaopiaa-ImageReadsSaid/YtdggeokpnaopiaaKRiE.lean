/- The document's own images: their code. -/
import Derived.Test.YtdggeokpnaopiaaKRiF
import Derived.Test.YtdggeokpnaopiaaKCodA
namespace Go.Proofs.Ytdggeokpnaopiaa
set_option linter.unusedVariables false
set_option linter.unusedSimpArgs false
open Go.RowKit
set_option maxRecDepth 100000
theorem bcells_appE (a b : List UInt8) : bcells (a ++ b) = bcells a ++ bcells b := by unfold bcells; rw [List.map_append]
/-- An append of bytes as one step of a region. -/
theorem wp_append_bytesE {w : World} {o : Oper} {a : Act} {K : Act → World → Prop} {Q : Exit → Act → World → Prop} (s x : Operand)
    (ho : o.op = .call { callee := .builtin .append, args := #[s, x], argTypes := #[45, 45] }) (B : Nat) (v : Value) (l : List UInt8) (hs : a.eval s = v) (hown : OwnB w B v l)
    (D : Nat) (vx : Value) (m : List UInt8) (hx : a.eval x = vx) (hrd : Rd w D vx m) (hp : 0 < m.length) (hB : B ≤ w.heap.size) (hl : l.length + m.length ≤ 140737488355328)
    (K' : ∀ v' w', OwnB w' B v' (l ++ m) → w.grownBy w' v.ownBlock → K (a.put o.dst v') w') : o.wp Try.prog a w K Q := by
  obtain ⟨i0, hi, hz0, hz1, hz2⟩ := info_parts Try.infoU8
  obtain ⟨A, cap, rfl, hcap, -, hc⟩ := hrd
  obtain ⟨b, off, rfl, -, hcell⟩ := hc hp
  refine wp_append_moved _ s x 45 ho B 5 i0 (.int .u8 0) 1 1 Try.underlying45 hi hz0 hz1 hz2 rfl (by decide) v l.length (bcells l) hs hown ⟨b, off, none⟩ m.length cap (bcells m) hx (by simp [bcells]) (fun j u hj => ?_) (fun u hu => ?_) (by unfold maxLen; omega) (by omega) hB fun v' w' h1 h2 _ => K' v' w' (by unfold OwnB; rw [List.length_append, bcells_appE]; exact h1) h2
  · have hj' := (List.getElem?_eq_some_iff.1 hj)
    obtain ⟨hlt, he⟩ := hj'
    have hlm : j < m.length := by simpa [bcells] using hlt
    have := hcell j hlm
    simp only [bcells, List.getElem_map] at he
    rw [← he]
    rw [show (Addr.add ⟨b, off, none⟩ j : Addr) = ⟨b, off + j, none⟩ from by cases j <;> simp [Addr.add]]
    exact this
  · obtain ⟨y, -, rfl⟩ := List.mem_map.1 hu
    rfl
theorem renc16_any (S : Nat → Prop) (t : VT) (v : Value) (w : World) (hS : ∀ b, S b → b < w.heap.size) (h : LV w S t v) (hz : sizeT t ≤ 9223372036854775807) (hc : checkT t = 0) : Calls Try.prog 43 #[v] w (Gives (encO t) w) := by
  obtain ⟨h1, h2, h3⟩ := (check_zero hz).1 hc
  have he : encO t = encT t := by unfold encO; rw [if_pos hc]
  rw [he]
  exact enc_ok _ t (Nat.le_refl _) h1 S v w hS h (by rw [enc_len t h1]; omega)
/-- What the document puts for the k-th that was noted. -/
def RefI.mark (r : RefI) (k : Nat) : List UInt8 := if r.known (r.base + 1 + k) = true then (match r.l[k]? with
  | some o => markK o
  | none => []) else []
def RefI.marks (r : RefI) (n : Nat) : List UInt8 := ((List.range n).map r.mark).flatten
theorem rmarks_succ (r : RefI) (n : Nat) : r.marks (n + 1) = r.marks n ++ r.mark n := by
  unfold RefI.marks
  rw [List.range_succ]
  simp
def RefI.code (r : RefI) : List UInt8 := grp r.keep.toNat ++ grp r.base.toNat ++ grp r.top.toNat ++ r.marks r.l.length
def RefI.Good (r : RefI) : Prop := ∀ (k : Nat) (t : VT), r.l[k]? = some (some t) → checkT t = 0 ∧ sizeT t ≤ 9223372036854775807
theorem rmark_small {r : RefI} (h : r.Good) (k : Nat) : (r.mark k).length ≤ 4097 := by
  unfold RefI.mark
  split
  · cases ho : r.l[k]? with
    | none => simp
    | some o =>
      cases o with
      | none => simp [markK]
      | some t =>
        have := encO_length (t := t) (h _ _ ho).2
        simp [markK]; omega
  · simp
theorem rmarks_small {r : RefI} (h : r.Good) : ∀ n, (r.marks n).length ≤ 4097 * n
  | 0 => by simp [RefI.marks]
  | n + 1 => by
    have h1 := rmarks_small h n
    have h2 := rmark_small h n
    rw [rmarks_succ, List.length_append]
    omega
theorem below_da' (w : World) (o : Obj) : Below w.drew.heap.size w.drew (w.alloc o).drew := ⟨rfl, rfl, rfl, by show w.heap.size ≤ (w.alloc o).heap.size; simp, fun b hb => Below.heap_alloc w o b hb⟩
theorem encO_pos {t : VT} (h : checkT t = 0 ∧ sizeT t ≤ 9223372036854775807) : 0 < (encO t).length := by
  have h1 := ((check_zero h.2).1 h.1)
  unfold encO
  rw [if_pos h.1, enc_len t h1.1]
  exact sizeT_pos t
theorem cell_k8b {w : World} {g i : Nat} {v : Value} {cs : Array Value} {t : TypeId} {fr : Nat × Nat} (hg : w.heap[g]? = some (.cells cs t fr)) (ht : t ≠ 5) (hc : w.cell? ⟨g, i, none⟩ = some v) : ∀ p : LaterR K8 w, p.u.cell? ⟨g, i, none⟩ = some v := fun p => by
  have h1 := p.h g _ hg (fun h => by cases h) (fun c fz h => by injection h with _ h; exact ht h)
  rw [World.cell?_of_block (a := ⟨g, i, none⟩) (h1.trans hg.symm)]
  exact hc
theorem RIAt.item8 {w : World} {S : Nat → Prop} {B x : Nat} {r : RefI} (h : RIAt w S B x r) (k : Nat) (hk : k < r.l.length) :
    ∃ g c cs cur, w.cell? ⟨x, 2, none⟩ = some (.slice (some ⟨g, 0, none⟩) r.l.length c) ∧ OneL w S r.l[k] cs ∧ (∀ j v, cs[j]? = some v → w.cell? ⟨g, k * 6 + j, none⟩ = some v) ∧ w.heap[g]? = some (.cells cur 71 (0, 0)) := by
  obtain ⟨A, c, xs, h1, h2, h3⟩ := h
  obtain ⟨cs, h4, h5⟩ := h3.at k hk
  rcases h2.2 with ⟨-, h0⟩ | ⟨g, cap, cur, hs, hB, hh, hr⟩
  · omega
  · injection hs with e1 e2 e3
    subst e1 e3
    refine ⟨g, c, cs, cur, Go.Joins.cell_of_block h1 2, h4, fun j v hv => ?_, hh⟩
    have hj : j < 6 := by have := (List.getElem?_eq_some_iff.1 hv).1; have := h4.len; omega
    have h6 := h2.cells (g := g) rfl (k * 6 + j) v (by rw [h5 j hj]; exact hv)
    rw [add_at, Nat.zero_add] at h6
    exact h6
theorem RIAt.form {w : World} {S : Nat → Prop} {B x : Nat} {r : RefI} (h : RIAt w S B x r) : ∃ cs, w.heap[x]? = some (.cells cs 32 (0, 0)) := by
  obtain ⟨A, c, xs, h1, -⟩ := h
  exact ⟨_, h1⟩
section
variable {w : World} {S : Nat → Prop} {B x : Nat} {r : RefI}
set_option maxHeartbeats 16000000 in
theorem rcode16_any (h : RIAt w S B x r) (hf : r.Fine) (hgd : r.Good) (hS : ∀ b, S b → b < w.heap.size) : Calls Try.prog 21 #[.pointer (some ⟨x, 0, none⟩)] w (Gives r.code w) := by
  obtain ⟨k, hk⟩ : ∃ n : Nat, r.keep = (n : Int) := ⟨r.keep.toNat, by have := hf.k0; omega⟩
  obtain ⟨b, hb⟩ : ∃ n : Nat, r.base = (n : Int) := ⟨r.base.toNat, by have := hf.b0; omega⟩
  obtain ⟨t, ht⟩ : ∃ n : Nat, r.top = (n : Int) := ⟨r.top.toNat, by have := hf.b0; unfold RefI.top; omega⟩
  have hk1 : k ≤ 64 := by have := hf.k1; omega
  have hb1 : b ≤ 2199023255552 := by have := hf.b1; omega
  have ht1 : t ≤ 2199024255552 := by have := hf.b1; have := hf.n; unfold RefI.top at ht; omega
  have HCODE : Hid (r.code = grp k ++ grp b ++ grp t ++ r.marks r.l.length) := Lib.hid (by unfold RefI.code; rw [hk, hb, ht]; rfl)
  obtain ⟨cx, hcx⟩ := h.form
  have z0 := cell_k8b (w := w.drew) (i := 0) hcx (by decide) (show w.drew.cell? ⟨x, 0, none⟩ = some (.int .i64 (k : Int)) from by rw [← hk]; exact h.c0)
  have z1 := cell_k8b (w := w.drew) (i := 1) hcx (by decide) (show w.drew.cell? ⟨x, 1, none⟩ = some (.int .i64 (b : Int)) from by rw [← hb]; exact h.c1)
  have HTOP : Hid (∀ W, Below w.heap.size w W → Calls Try.prog 12 #[.pointer (some ⟨x, 0, none⟩)] W fun e w' => e = .returned (.int .i64 (t : Int)) ∧ Below W.heap.size W w') := Lib.hid fun W hW => by rw [← ht]; exact rtop16_any (h.below hS hW) hf
  have HH := Lib.hid h
  have HF := Lib.hid hf
  have HG := Lib.hid hgd
  have HS := Lib.hid hS
  have HB := Lib.hid hb
  have HK1 := Lib.hid (And.intro hk1 (And.intro hb1 ht1))
  clear h hf hgd hS hk hb ht hcx
  go_enter Try.func21, Try.ntmps21
  go_wp2_with fail
  refine wp_region_OT K8 (fun w => Lib.OthersKept.refl _ _ _) (fun _ _ _ h k => h.trans k) [] (.pure [0, 1, 2, 3, 5, 6, 7, 8, 11] (.step 4 (.step 9 (.step 10 (.step 12 (.step 13 (.step 14 (.free [15] (.tail []))))))))) (by kernel_rfl) (by kernel_rfl) (fun _ d _ _ _ h => by cases d <;> exact h) ?_
  refine ot_pure ?_
  simp only [atNats, List.filterMap_cons, List.filterMap_nil, List.getElem?_toArray, List.getElem?_cons_succ, List.getElem?_cons_zero]
  show wpQuiet _ _ _ _ [_, _, _, _, _, _, _, _, _] _
  repeat (go_big_quiet_step (fail))
  refine wpQuiet_nil ?_
  clear z0 z1
  have hz : w.drew.heap.size = w.heap.size := rfl
  refine ot_step rfl (fun K hK => ?_)
  go_simp
  refine (rcount_any k w.drew (by omega)).mono ?_
  rintro e w1 ⟨v1, rfl, hv1, hb1'⟩
  go_simp
  refine hK _ _ (.inr (k8_below hb1')) ?_
  clear hK K
  have HO1 : Hid (OwnB w1 w.heap.size v1 (grp k)) := Lib.hid hv1
  have HB1 : Hid (Below w.heap.size w w1) := Lib.hid ((Below.refl _ _).drew.trans hb1')
  clear hv1 hb1'
  refine ot_step rfl (fun K hK => ?_)
  go_simp
  refine (rcount_any b w1 (by omega)).mono ?_
  rintro e w2 ⟨v2, rfl, hv2, hb2'⟩
  go_simp
  refine hK _ _ (.inr (k8_below hb2')) ?_
  clear hK K
  have HO2 := Lib.hid (HO1.out.below hb2')
  have HV2 := Lib.hid hv2
  have HB2 := Lib.hid (HB1.out.trans (hb2'.mono HB1.out.size))
  clear hv2 hb2' HO1 HB1
  refine ot_act rfl rfl (fun K hK => ?_)
  refine wp_append_bytesE _ _ rfl w.heap.size v1 (grp k) rfl HO2.out w2.heap.size v2 (grp b) rfl HV2.out.rd (grp_length b).2 HB2.out.size (by have h1 := (grp_length k).1; have h2 := (grp_length b).1; omega) (fun v3 w3 hv3 hg3 => ?_)
  refine hK _ _ (.inr (k8_grown HO2.out hg3)) ?_
  clear hK K
  simp only [List.getElem_toArray, List.getElem_cons_succ, List.getElem_cons_zero, Act.put, List.setIfInBounds_toArray, List.set_cons_succ, List.set_cons_zero]
  have HO3 := Lib.hid hv3
  have HB3 := Lib.hid (below_own HB2.out HO2.out HB2.out.size hg3)
  clear hv3 hg3 HO2 HV2 HB2
  refine ot_step rfl (fun K hK => ?_)
  go_simp
  refine (HTOP.out w3 HB3.out).mono ?_
  rintro e w4 ⟨rfl, hb4'⟩
  go_simp
  refine hK _ _ (.inr (k8_below hb4')) ?_
  clear hK K
  have HO4 := Lib.hid (HO3.out.below hb4')
  have HB4 := Lib.hid (HB3.out.trans (hb4'.mono HB3.out.size))
  clear hb4' HO3 HB3
  refine ot_step rfl (fun K hK => ?_)
  go_simp
  refine (rcount_any t w4 (by have := HK1.out.2.2; omega)).mono ?_
  rintro e w5 ⟨v5, rfl, hv5, hb5'⟩
  go_simp
  refine hK _ _ (.inr (k8_below hb5')) ?_
  clear hK K
  have HO5 := Lib.hid (HO4.out.below hb5')
  have HV5 := Lib.hid hv5
  have HB5 := Lib.hid (HB4.out.trans (hb5'.mono HB4.out.size))
  clear hv5 hb5' HO4 HB4
  refine ot_act rfl rfl (fun K hK => ?_)
  refine wp_append_bytesE _ _ rfl w.heap.size v3 (grp k ++ grp b) rfl HO5.out w5.heap.size v5 (grp t) rfl HV5.out.rd (grp_length t).2 HB5.out.size (by have h1 := (grp_length k).1; have h2 := (grp_length b).1; have h3 := (grp_length t).1; rw [List.length_append]; omega) (fun v6 w6 hv6 hg6 => ?_)
  refine hK _ _ (.inr (k8_grown HO5.out hg6)) ?_
  clear hK K
  simp only [List.getElem_toArray, List.getElem_cons_succ, List.getElem_cons_zero, Act.put, List.setIfInBounds_toArray, List.set_cons_succ, List.set_cons_zero]
  have HX6 : Hid (OwnB w6 w.heap.size v6 (grp k ++ grp b ++ grp t ++ r.marks 0) ∧ Below w.heap.size w w6) := Lib.hid ⟨by
    have e : grp k ++ grp b ++ grp t ++ r.marks 0 = grp k ++ grp b ++ grp t := by simp [RefI.marks]
    rw [e]; exact hv6, below_own HB5.out HO5.out HB5.out.size hg6⟩
  clear hv6 hg6 HO5 HV5 HB5
  refine ot_free ?_
  simp only [atNats, List.filterMap_cons, List.filterMap_nil, List.getElem?_toArray, List.getElem?_cons_succ, List.getElem?_cons_zero]
  show wpQuiet _ _ _ _ [_] _
  repeat (go_big_quiet_step (fail))
  refine wpQuiet_nil ?_
  refine ot_end ?_
  go_wp2_with fail
  go_loopw [3, 4] (fun v kk wr => ∃ j : Nat, kk = .int .i64 j ∧ j ≤ r.l.length ∧ Hid (OwnB wr w.heap.size v (grp k ++ grp b ++ grp t ++ r.marks j) ∧ Below w.heap.size w wr)) (fun _ kk _ => r.l.length - (intOf kk).toNat)
  case atStart => exact ⟨0, rfl, by omega, HX6⟩
  case round =>
    clear HX6
    obtain ⟨j, rfl, hj, HX⟩ := hrel
    have hr := HH.out.below HS.out HX.out.2
    obtain ⟨n, hn⟩ : ∃ n, n = r.l.length := ⟨_, rfl⟩
    have HN := Lib.hid hn
    have hn6 : n ≤ 1000000 := by have := HF.out.n; omega
    by_cases hlt : j < r.l.length
    · obtain ⟨g, c, cs, cur, y2, hone, hat, hgg⟩ := hr.item8 j hlt
      have y1 := hr.c1
      rw [HB.out] at y1
      have hsm := rmarks_small HG.out j
      have hcl : (grp k ++ grp b ++ grp t ++ r.marks j).length ≤ 140737480000000 := by
        have h1 := (grp_length k).1; have h2 := (grp_length b).1; have h3 := (grp_length t).1
        simp only [List.length_append]; omega
      have HCL := Lib.hid hcl
      rw [← hn] at y2 hlt hj
      have hknown := rknown_any hr HF.out (fun b hb => Nat.lt_of_lt_of_le (HS.out b hb) HX.out.2.size) ((b : Int) + 1 + (j : Int)) (by omega)
      obtain ⟨KB, hKB⟩ : ∃ KB, KB = r.known ((b : Int) + 1 + (j : Int)) := ⟨_, rfl⟩
      rw [← hKB] at hknown
      have HKN := Lib.hid hknown
      have HKB := Lib.hid hKB
      have HON := Lib.hid hone
      have HAT := Lib.hid hat
      have HGG := Lib.hid hgg
      have HRR := Lib.hid hr
      clear hone hat hgg hr hsm hcl hknown hKB hn
      go_wp2_with fail
      refine HKN.out.mono ?_
      rintro e w7 ⟨rfl, hb7⟩
      have HB7 := Lib.hid (HX.out.2.trans (hb7.mono HX.out.2.size))
      have HO7 := Lib.hid (HX.out.1.below hb7)
      have hgl := (Array.getElem?_eq_some_iff.1 HGG.out).1
      have hgg7 := (hb7.block g hgl).trans HGG.out
      have hat7 : ∀ i v, cs[i]? = some v → w7.cell? ⟨g, j * 6 + i, none⟩ = some v := fun i v hv => (World.cell?_of_block (a := ⟨g, j * 6 + i, none⟩) (hb7.block g hgl)).trans (HAT.out i v hv)
      have y27 : w7.cell? ⟨x, 2, none⟩ = some (.slice (some ⟨g, 0, none⟩) n c) := (World.cell?_of_block (a := ⟨x, 2, none⟩) (hb7.block x HRR.out.lt)).trans y2
      obtain ⟨cx, hcx⟩ := (HRR.out.below (fun b hb => Nat.lt_of_lt_of_le (HS.out b hb) HX.out.2.size) hb7).form
      have hone7 := HON.out.keep (w' := w7) fun b hb => hb7.block b (Nat.lt_of_lt_of_le (HS.out b hb) HX.out.2.size)
      clear hb7 HKN y1 y2 HAT HGG HRR HX HON hgl
      cases hKK : KB with
      | false =>
        subst hKK
        have HX8 : Hid (OwnB w7 w.heap.size _ (grp k ++ grp b ++ grp t ++ r.marks (j + 1)) ∧ Below w.heap.size w w7) := Lib.hid ⟨by
          have e : r.mark j = [] := by unfold RefI.mark; rw [HB.out, ← HKB.out, if_neg (by decide)]
          rw [rmarks_succ, e, List.append_nil]; exact HO7.out, HB7.out⟩
        clear hat7 hgg7 y27 hcx hone7 HO7
        go_wp2_with fail
        go_roundw
        case rel => exact ⟨j + 1, by go_num, by omega, HX8⟩
        case measure => simp [intOf]; omega
      | true =>
        subst hKK
        obtain ⟨o, ho⟩ : ∃ o, o = r.l[j]'(by rw [HN.out] at hlt; exact hlt) := ⟨_, rfl⟩
        rw [← ho] at hone7
        have hlj : r.l[j]? = some o := by rw [ho, List.getElem?_eq_getElem]
        have HMK : Hid (r.mark j = markK o) := Lib.hid (by unfold RefI.mark; rw [HB.out, ← HKB.out, if_pos rfl, hlj])
        have HLJ := Lib.hid hlj
        clear ho hlj
        cases o with
        | none =>
          have hcs : cs = [.bool false, .int .i64 0, .int .i64 0, .string eS, .slice none 0 0, .slice none 0 0] := hone7
          have e0 : w7.cell? ⟨g, j * 6, none⟩ = some (.bool false) := hat7 0 _ (by rw [hcs]; rfl)
          clear hat7 hgg7 hcx hone7 hcs
          have hb8 := below_box (w := w7) (.cells #[.int .u8 0] 5)
          have HO8 := Lib.hid (HO7.out.below hb8)
          have HB8 := Lib.hid (HB7.out.trans (hb8.mono HB7.out.size))
          clear hb8
          go_wp2_with (at_builtin; go_must (refine wpList_append_bytes rfl _ _ rfl w.heap.size _ (grp k ++ grp b ++ grp t ++ r.marks j) rfl HO8.out _ (.slice (some ⟨w7.heap.size, 0, none⟩) 1 1) [0] rfl (Rd.one' (by simp) 0 rfl) HB8.out.size (by have := HCL.out; simp only [List.length_cons, List.length_nil]; omega) ?_))
          intro v9 w9 hv9 hg9
          have HX9 : Hid (OwnB w9 w.heap.size v9 (grp k ++ grp b ++ grp t ++ r.marks (j + 1)) ∧ Below w.heap.size w w9) := Lib.hid ⟨by
            have e : grp k ++ grp b ++ grp t ++ r.marks (j + 1) = grp k ++ (grp b ++ (grp t ++ (r.marks j ++ [0]))) := by rw [rmarks_succ, HMK.out]; simp [markK]
            rw [e]; exact hv9, below_own HB8.out HO8.out HB8.out.size hg9⟩
          clear hv9 hg9
          go_wp2_with fail
          go_roundw
          case rel => exact ⟨j + 1, by go_num, by omega, HX9⟩
          case measure => simp [intOf]; omega
        | some tt =>
          obtain ⟨v0, u1, u2, u3, u4, hcs, hlv⟩ : ∃ a b c d e, cs = [.bool true, a, b, c, d, e] ∧ LV w7 S tt (.agg #[a, b, c, d, e]) := hone7
          obtain ⟨A1, c1, A1', c1', hsh, -⟩ := hlv.shape
          simp only [Value.agg.injEq, Array.mk.injEq, List.cons.injEq, and_true] at hsh
          obtain ⟨rfl, rfl, rfl, rfl, rfl⟩ := hsh
          have e0 : w7.cell? ⟨g, j * 6, none⟩ = some (.bool true) := hat7 0 _ (by rw [hcs]; rfl)
          have q1 := cell_k8b (w := w7.drew) hgg7 (by decide) (show w7.drew.cell? ⟨g, j * 6 + 1, none⟩ = _ from hat7 1 _ (by rw [hcs]; rfl))
          have q2 := cell_k8b (w := w7.drew) hgg7 (by decide) (show w7.drew.cell? ⟨g, j * 6 + 2, none⟩ = _ from hat7 2 _ (by rw [hcs]; rfl))
          have q3 := cell_k8b (w := w7.drew) hgg7 (by decide) (show w7.drew.cell? ⟨g, j * 6 + 3, none⟩ = _ from hat7 3 _ (by rw [hcs]; rfl))
          have q4 := cell_k8b (w := w7.drew) hgg7 (by decide) (show w7.drew.cell? ⟨g, j * 6 + 4, none⟩ = _ from hat7 4 _ (by rw [hcs]; rfl))
          have q5 := cell_k8b (w := w7.drew) hgg7 (by decide) (show w7.drew.cell? ⟨g, j * 6 + 5, none⟩ = _ from hat7 5 _ (by rw [hcs]; rfl))
          have qx := cell_k8b (w := w7.drew) hcx (by decide) (show w7.drew.cell? ⟨x, 2, none⟩ = _ from y27)
          have HLV : Hid (LV w7 S tt _) := Lib.hid hlv
          clear hat7 hgg7 hcx hcs hlv
          go_wp2_with fail
          clear e0 y27
          refine wp_region_OT K8 (fun w => Lib.OthersKept.refl _ _ _) (fun _ _ _ h k => h.trans k) [] (.pure [0, 3, 4, 5, 6, 7, 8, 9, 10] (.step 1 (.step 2 (.step 11 (.step 12 (.free [13] (.tail []))))))) (by kernel_rfl) (by kernel_rfl) (fun _ d _ _ _ h => by cases d <;> exact h) ?_
          refine ot_pure ?_
          simp only [atNats, List.filterMap_cons, List.filterMap_nil, List.getElem?_toArray, List.getElem?_cons_succ, List.getElem?_cons_zero]
          show wpQuiet _ _ _ _ [_, _, _, _, _, _, _, _, _] _
          repeat (go_big_quiet_step (fail))
          refine wpQuiet_nil ?_
          clear q1 q2 q3 q4 q5 qx
          have hb8 : Below w7.heap.size w7 (w7.alloc (.cells #[.int .u8 1] 5)).drew := ((Below.refl _ _).alloc (Nat.le_refl _) _).drew
          have HO8 : Hid (OwnB (w7.alloc (.cells #[.int .u8 1] 5)).drew w.heap.size _ (grp k ++ grp b ++ grp t ++ r.marks j)) := Lib.hid (HO7.out.below hb8)
          have HB8 : Hid (Below w.heap.size w (w7.alloc (.cells #[.int .u8 1] 5)).drew) := Lib.hid (HB7.out.trans (hb8.mono HB7.out.size))
          have HK8 : Hid (K8 w7.drew (w7.alloc (.cells #[.int .u8 1] 5)).drew) := Lib.hid (k8_below (below_da' w7 _))
          have HLV8 : Hid (LV (w7.alloc (.cells #[.int .u8 1] 5)).drew S tt _) := Lib.hid (HLV.out.keep fun b hb => hb8.block b (Nat.lt_of_lt_of_le (HS.out b hb) HB7.out.size))
          have HR8 : Hid (Rd (w7.alloc (.cells #[.int .u8 1] 5)).drew (w7.heap.size + 1) (.slice (some ⟨w7.heap.size, 0, none⟩) 1 1) [1]) := Lib.hid (Rd.one (w := w7.drew) 1 rfl)
          clear hb8
          refine ot_step rfl (fun K hK => ?_)
          go_simp
          refine hK _ _ (.inr HK8.out) ?_
          clear hK K HK8
          generalize (w7.alloc (.cells #[.int .u8 1] 5)).drew = w8 at *
          refine ot_act rfl rfl (fun K hK => ?_)
          refine wp_append_bytesE _ _ rfl w.heap.size _ (grp k ++ grp b ++ grp t ++ r.marks j) rfl HO8.out (w7.heap.size + 1) (.slice (some ⟨w7.heap.size, 0, none⟩) 1 1) [1] rfl HR8.out (by simp) HB8.out.size (by have := HCL.out; simp only [List.length_cons, List.length_nil]; omega) (fun v9 w9 hv9 hg9 => ?_)
          refine hK _ _ (.inr (k8_grown HO8.out hg9)) ?_
          clear hK K
          simp only [List.getElem_toArray, List.getElem_cons_succ, List.getElem_cons_zero, Act.put, List.setIfInBounds_toArray, List.set_cons_succ, List.set_cons_zero]
          have HO9 : Hid (OwnB w9 w.heap.size v9 (grp k ++ grp b ++ grp t ++ r.marks j ++ [1])) := Lib.hid hv9
          have HB9 := Lib.hid (below_own HB8.out HO8.out HB8.out.size hg9)
          have hk9 := k8_grown HO8.out hg9
          have hlv9 : LV w9 S tt _ := HLV8.out.keep fun b hb => by
            have h1 := HS.out b hb
            exact (HB9.out.block b h1).trans (HB8.out.block b h1).symm
          have HLV9 := Lib.hid hlv9
          have HEN := Lib.hid (renc16_any S tt _ w9 (fun b hb => Nat.lt_of_lt_of_le (HS.out b hb) HB9.out.size) hlv9 (HG.out j tt HLJ.out).2 (HG.out j tt HLJ.out).1)
          have HEL := Lib.hid (encO_length (t := tt) (HG.out j tt HLJ.out).2)
          have HEP : Hid (0 < (encO tt).length) := Lib.hid (encO_pos (HG.out j tt HLJ.out))
          clear hv9 hg9 hk9 hlv9 HO8 HB8 HLV8 HR8 HLV
          refine ot_step rfl (fun K hK => ?_)
          go_simp
          refine HEN.out.mono ?_
          rintro e w10 ⟨v10, rfl, hv10, hb10⟩
          go_simp
          refine hK _ _ (.inr (k8_below hb10)) ?_
          clear hK K
          have HO10 := Lib.hid (HO9.out.below hb10)
          have HV10 := Lib.hid hv10
          have HB10 := Lib.hid (HB9.out.trans (hb10.mono HB9.out.size))
          clear hv10 hb10 HO9 HB9 HLV9 HEN
          refine ot_act rfl rfl (fun K hK => ?_)
          refine wp_append_bytesE _ _ rfl w.heap.size v9 (grp k ++ grp b ++ grp t ++ r.marks j ++ [1]) rfl HO10.out w10.heap.size v10 (encO tt) rfl HV10.out.rd HEP.out HB10.out.size (by have := HCL.out; have := HEL.out; simp only [List.length_append, List.length_cons, List.length_nil] at *; omega) (fun v11 w11 hv11 hg11 => ?_)
          refine hK _ _ (.inr (k8_grown HO10.out hg11)) ?_
          clear hK K
          simp only [List.getElem_toArray, List.getElem_cons_succ, List.getElem_cons_zero, Act.put, List.setIfInBounds_toArray, List.set_cons_succ, List.set_cons_zero]
          have HX11 : Hid (OwnB w11 w.heap.size v11 (grp k ++ grp b ++ grp t ++ r.marks (j + 1)) ∧ Below w.heap.size w w11) := Lib.hid ⟨by
            have e : grp k ++ grp b ++ grp t ++ r.marks (j + 1) = grp k ++ grp b ++ grp t ++ r.marks j ++ [1] ++ encO tt := by rw [rmarks_succ, HMK.out]; simp [markK]
            rw [e]; exact hv11, below_own HB10.out HO10.out HB10.out.size hg11⟩
          clear hv11 hg11 HO10 HV10 HB10
          refine ot_free ?_
          simp only [atNats, List.filterMap_cons, List.filterMap_nil, List.getElem?_toArray, List.getElem?_cons_succ, List.getElem?_cons_zero]
          show wpQuiet _ _ _ _ [_] _
          repeat (go_big_quiet_step (fail))
          refine wpQuiet_nil ?_
          refine ot_end ?_
          go_wp2_with fail
          go_roundw
          case rel => exact ⟨j + 1, by go_num, by omega, HX11⟩
          case measure => simp [intOf]; omega
    · obtain ⟨A, c, y2⟩ := hr.c2
      rw [← hn] at y2 hlt hj
      have hjn : j = n := by omega
      subst hjn
      have HX12 : Hid (OwnB wr w.heap.size _ r.code ∧ Below w.heap.size w wr) := Lib.hid ⟨by rw [HCODE.out, ← HN.out]; exact HX.out.1, HX.out.2⟩
      clear hr HX hn
      go_wp2_with fail
      go_ret
      exact ⟨_, rfl, HX12.out⟩
end
end Go.Proofs.Ytdggeokpnaopiaa
