/- Votes where no file is yet. -/
import Derived.Test.YtflkaladkbkbgaaGreatKVoF
namespace Go.Proofs.YtflkaladkbkbgaaGreat
set_option linter.unusedVariables false
set_option linter.unusedSimpArgs false
open Go.RowKit Go.Maps
set_option maxRecDepth 100000
def voteN : List UInt8 := [118, 111, 116, 101]
def voteB : ByteArray := ⟨#[118, 111, 116, 101]⟩
theorem voteB_list : voteB.data.toList = voteN := rfl
section
variable {w : World} {Ft : Nat → Prop} {d : Nat} {M : DiskM}
theorem frames_none (h : DAt w Ft d M) (s : ByteArray) (hs : s.size ≤ 140737488351232) (hr : M.read s.data.toList = ([], 4)) :
    Calls Tryz.prog 61 #[.pointer (some ⟨d, 0, none⟩), .string s] w fun e w' => e = .returned (.tuple #[.slice none 0 0, .int .i64 4]) ∧ Below w.heap.size w w' := by
  have HC := Lib.hid (read_any h s hs)
  rw [hr] at HC
  clear h hr
  go_enter Tryz.func61, Tryz.ntmps61
  go_wp2_with fail
  refine HC.out.mono ?_
  rintro e w1 ⟨hb1, v1, rfl, hv1⟩
  have HB1 := Lib.hid hb1
  clear hb1 hv1 HC
  go_wp2_with fail
  go_ret2
  exact ⟨rfl, HB1.out⟩
theorem trim_none (h : DAt w Ft d M) (s : ByteArray) (hs : s.size ≤ 140737488351232) (hr : M.read s.data.toList = ([], 4)) :
    Calls Tryz.prog 37 #[.agg #[.pointer (some ⟨d, 0, none⟩), .string s]] w fun e w' => e = .returned (.tuple #[.slice none 0 0, .int .i64 0]) ∧ Below w.heap.size w w' := by
  obtain ⟨w1, hw1⟩ : ∃ W, W = w.alloc (.cells #[.pointer (some ⟨d, 0, none⟩), .string s] 57) := ⟨_, rfl⟩
  have hb1 : Below w.heap.size w w1 := by rw [hw1]; exact two_below w _
  have HC := Lib.hid (frames_none (h.below hb1) s hs hr)
  have HB := Lib.hid hb1
  have HW := Lib.hid hw1
  clear h hr hb1 hw1
  go_enter Tryz.func37, Tryz.ntmps37
  go_wp2_with fail
  rw [← HW.out]
  refine HC.out.mono ?_
  rintro e w2 ⟨rfl, hb2⟩
  have HB2 := Lib.hid (HB.out.trans (hb2.mono HB.out.size))
  clear hb2 HC
  go_wp2_with fail
  go_ret2
  exact ⟨rfl, HB2.out⟩
set_option maxHeartbeats 2000000 in
theorem load_none' (h : DAt w Ft d M) (hr : M.read voteN = ([], 4)) {v : Nat} {t n : Int} (hv : VAt w v d t n) :
    Calls Tryz.prog 21 #[.pointer (some ⟨v, 0, none⟩)] w fun e w' => e = .returned (.int .i64 0) ∧ VAt w' v d 0 (-1) ∧ w.grownBy w' (some v) := by
  have y0 := hv.c0
  have HV := Lib.hid hv
  have H := Lib.hid h
  have HR := Lib.hid hr
  clear h hv hr
  go_enter Tryz.func21, Tryz.ntmps21
  go_wp2_with fail
  refine (votesOn_any d w).mono ?_
  rintro e w1 ⟨rfl, hb1⟩
  have HT := Lib.hid (trim_none (H.out.below hb1) voteB (by decide) HR.out)
  unfold voteB at HT
  have HB1 := Lib.hid hb1
  unfold fv
  clear hb1 y0
  go_wp2_with fail
  refine HT.out.mono ?_
  rintro e w2 ⟨rfl, hb2⟩
  have HB2 := Lib.hid (HB1.out.trans (hb2.mono HB1.out.size))
  clear hb2 HT
  go_wp2_with fail
  refine (lastOf_nil w2).mono ?_
  rintro e w3 ⟨rfl, hb3⟩
  have hb03 := HB2.out.trans (hb3.mono HB2.out.size)
  have hv3 : VAt w3 v d t n := (hb03.block v (Array.getElem?_eq_some_iff.1 HV.out).1).trans HV.out
  have y1 := hv3.c1
  have y2 := hv3.c2
  have yf := fun i => Go.Joins.unfrozen_of_block hv3 i
  have hlt : v < w3.heap.size := (Array.getElem?_eq_some_iff.1 hv3).1
  have HV3 := Lib.hid hv3
  have HB3 := Lib.hid hb03
  unfold bv
  clear hb3 hb03 hv3
  go_wp2_with fail
  obtain ⟨hbox, hg5, hz5⟩ := two_set (i := 1) (j := 2) HV3.out (.int .i64 0) (.int .i64 (-1))
  obtain ⟨W5, hW5⟩ : ∃ W5, W5 = (w3.setCell ⟨v, 1, none⟩ (.int .i64 0)).setCell ⟨v, 2, none⟩ (.int .i64 (-1)) := ⟨_, rfl⟩
  rw [← hW5] at hbox hg5 hz5
  go_ret
  refine ⟨rfl, ?_, ?_⟩
  · rw [hW5] at hbox; exact hbox
  · rw [hW5] at hg5
    exact ⟨hg5.os.trans HB3.out.os, hg5.tape.trans HB3.out.tape, hg5.output.trans HB3.out.output, Nat.le_trans HB3.out.size hg5.size, fun k hk hne => (hg5.block k (by have := HB3.out.size; omega) hne).trans (HB3.out.block k hk)⟩
end
end Go.Proofs.YtflkaladkbkbgaaGreat

/- Votes opened where no file is yet. -/
namespace Go.Proofs.YtflkaladkbkbgaaGreat
set_option linter.unusedVariables false
set_option linter.unusedSimpArgs false
open Go.RowKit Go.Maps
set_option maxRecDepth 100000
theorem enters_voload : EntersF 21 := fun _ _ => by simp [callFunc, go_sem, Tryz.func21, Tryz.f21]
def nvoteB : ByteArray := ⟨#[118, 111, 116, 101, 46, 110, 101, 119]⟩
theorem nvoteB_eq : (⟨#[118, 111, 116, 101]⟩ : ByteArray) ++ ⟨#[46, 110, 101, 119]⟩ = nvoteB := by first | rfl | decide | (ext1; simp [nvoteB])
theorem nvoteB_list : nvoteB.data.toList = newNm voteN := rfl
section
variable {w : World} {Ft : Nat → Prop} {d : Nat} {M M1 : DiskM}
/-- Between Open's two steps. -/
def OpenP (w : World) (Ft : Nat → Prop) (d v b : Nat) (M M1 : DiskM) (row : Obj) (i : Nat) (W : World) : Prop :=
  ∃ Ft' t n, Gr Ft w Ft' W ∧ DAt W Ft' d (if i = 0 then M else M1) ∧ ¬ Ft' v ∧ ¬ Ft' b ∧ VAt W v d t n ∧ (i = 2 → t = 0 ∧ n = -1) ∧ W.heap[b]? = some row
set_option maxHeartbeats 4000000 in
theorem open_none (h : DAt w Ft d M) (h1 : remZ (newNm voteN) M = (0, M1)) (h2 : M1.read voteN = ([], 4)) :
    Calls Tryz.prog 7 #[.pointer (some ⟨d, 0, none⟩)] w fun e w' => ∃ v Ft', e = .returned (.tuple #[.pointer (some ⟨v, 0, none⟩), .int .i64 0]) ∧ VAt w' v d 0 (-1) ∧ w.heap.size ≤ v ∧ ¬ Ft' v ∧ Gr Ft w Ft' w' ∧ DAt w' Ft' d M1 := by
  have hmf : ∀ (fn : Fn) (first cap : Array Value) (w : World), (Instr.makeFunc fn first cap).run Tryz.prog w = .ok (.func fn first cap) w := fun _ _ _ _ => rfl
  obtain ⟨w1, hw1⟩ : ∃ W, W = w.alloc (.cells #[.pointer (some ⟨d, 0, none⟩), .int .i64 0, .int .i64 0] 53) := ⟨_, rfl⟩
  have hb1 : Below w.heap.size w w1 := by rw [hw1]; exact two_below w _
  have hv1 : VAt w1 w.heap.size d 0 0 := by rw [hw1]; exact heap_alloc_new w _
  have HB1 := Lib.hid hb1
  have HV1 := Lib.hid hv1
  have HW1 := Lib.hid hw1
  have H := Lib.hid h
  have HA := Lib.hid h1
  have HR := Lib.hid h2
  clear h h1 h2 hb1 hv1 hw1
  go_enter Tryz.func7, Tryz.ntmps7
  go_wp2_with fail
  rw [← HW1.out]
  refine (votesOn_any d w1).mono ?_
  rintro e w2 ⟨rfl, hb2⟩
  have HB2 := Lib.hid (HB1.out.trans (hb2.mono HB1.out.size))
  have HV2 : Hid (VAt w2 w.heap.size d 0 0) := Lib.hid ((hb2.block _ (Array.getElem?_eq_some_iff.1 HV1.out).1).trans HV1.out)
  unfold fv
  clear hb2
  go_wp2_with fail
  refine (draft_any d ⟨#[118, 111, 116, 101]⟩ w2 (by decide)).mono ?_
  rintro e w3 ⟨rfl, hb3⟩
  have HB3 := Lib.hid (HB2.out.trans (hb3.mono HB2.out.size))
  have HV3 : Hid (VAt w3 w.heap.size d 0 0) := Lib.hid ((hb3.block _ (Array.getElem?_eq_some_iff.1 HV2.out).1).trans HV2.out)
  rw [nvoteB_eq]
  unfold fv
  obtain ⟨nw, hnw⟩ : ∃ nw, nw = nvoteB := ⟨_, rfl⟩
  rw [← hnw]
  have HNW := Lib.hid hnw
  clear hb3 hnw
  go_wp2_with fail
  obtain ⟨vs, hvs⟩ : ∃ vs : List Stp, vs = [⟨20, #[.agg #[.pointer (some ⟨d, 0, none⟩), .string nw]], #[]⟩, ⟨21, #[.pointer (some ⟨w.heap.size, 0, none⟩)], #[]⟩] := ⟨_, rfl⟩
  obtain ⟨X, hX⟩ : ∃ X, X = Obj.cells (vs.map Stp.val).toArray 55 := ⟨_, rfl⟩
  rw [show (Obj.cells #[_, _] 55) = X by rw [hX, hvs]; rfl]
  have hv2 : vs.length = 2 := by rw [hvs]; rfl
  have hent : ∀ j (h : j < vs.length), EntersF vs[j].f := by
    subst hvs
    intro j h
    match j, h with
    | 0, _ => exact enters_fiRemove
    | 1, _ => exact enters_voload
  have hsz : w.heap.size < w3.heap.size := (Array.getElem?_eq_some_iff.1 HV3.out).1
  have hnx : ∀ k, w.heap.size ≤ k → ¬ Ft k := fun k hk hf => by have := H.out.1 k hf; omega
  have hb4 : Below w.heap.size w (w3.alloc X) := HB3.out.trans ((two_below w3 X).mono (by omega))
  have hDo : Calls Tryz.prog 17 #[.slice (some ⟨w3.heap.size, 0, none⟩) vs.length 2] (w3.alloc X) fun e w' => e = .returned (.int .i64 0) ∧ OpenP w Ft d w.heap.size w3.heap.size M M1 X 2 w' := by
    refine (do_any vs (by omega) w3.heap.size 2 (w3.alloc X) (OpenP w Ft d w.heap.size w3.heap.size M M1 X) (fun _ _ => False) ?_ ?_ hent ?_).mono ?_
    · exact ⟨Ft, 0, 0, Gr.of_below hb4, H.out.below hb4, hnx _ (Nat.le_refl _), hnx _ (by omega), ((two_below w3 X).block _ hsz).trans HV3.out, by omega, heap_alloc_new w3 X⟩
    · rintro i W ⟨Ft', t, n, hg, hd, k1, k2, k3, k4, k5⟩ j hj
      have h1 := Go.Joins.cell_of_block (w := W) (g := w3.heap.size) (by rw [k5, hX]) j
      rw [h1]
      simp [hj]
    · subst hvs
      rintro i hi W ⟨Ft', t, n, hg, hd, k1, k2, k3, k4, k5⟩
      match i, hi with
      | 0, _ =>
        refine (fiRemove_any (h := hd) nw (by rw [HNW.out]; decide)).mono ?_
        rintro e W2 ⟨rfl, Ft2, hg2, hd2⟩
        have e1 : remZ (newNm voteN) M = (if (M.rem nw.data.toList).1 = 4 then 0 else (M.rem nw.data.toList).1, (M.rem nw.data.toList).2) := by rw [HNW.out, nvoteB_list]; rfl
        rw [if_pos rfl] at hd2
        rw [if_pos rfl, ← e1, HA.out]
        rw [← e1, HA.out] at hd2
        have hvl : w.heap.size < W.heap.size := (Array.getElem?_eq_some_iff.1 k3).1
        have hbl : w3.heap.size < W.heap.size := (Array.getElem?_eq_some_iff.1 k5).1
        refine ⟨0, rfl, .inl ⟨rfl, Ft2, t, n, hg.trans hg2, by rw [if_neg (by omega)]; exact hd2, fun hf => ?_, fun hf => ?_, (hg2.block _ hvl k1).trans k3, by omega, (hg2.block _ hbl k2).trans k5⟩⟩
        · rcases hg2.ft _ hf with h | h
          · exact k1 h
          · omega
        · rcases hg2.ft _ hf with h | h
          · exact k2 h
          · omega
      | 1, _ =>
        rw [if_neg (by omega)] at hd
        refine (load_none' (h := hd) HR.out k3).mono ?_
        rintro e W2 ⟨rfl, hv2, hgr⟩
        refine ⟨0, rfl, .inl ⟨rfl, Ft', 0, -1, ?_, ?_, k1, k2, hv2, fun _ => ⟨rfl, rfl⟩, ?_⟩⟩
        · have hsw := hg.size
          exact ⟨hgr.os.trans hg.os, hgr.tape.trans hg.tape, hgr.output.trans hg.output, Nat.le_trans hg.size hgr.size, fun k hk hn => (hgr.block k (by omega) (fun e => by injection e; omega)).trans (hg.block k hk hn), fun k hk => hg.ft k hk⟩
        · rw [if_neg (by omega)]
          exact hd.keep hgr.size fun k hk => hgr.block k (hd.1 k hk) (fun e => by injection e with e; exact k1 (e ▸ hk))
        · exact (hgr.block _ (Array.getElem?_eq_some_iff.1 k5).1 (fun e => by injection e; omega)).trans k5
    · rintro e W ⟨r, rfl, hr⟩
      rcases hr with ⟨rfl, hP⟩ | ⟨-, hF⟩
      · rw [hv2] at hP
        exact ⟨rfl, hP⟩
      · exact hF.elim
  rw [hv2] at hDo
  have HD := Lib.hid hDo
  clear hDo hb4 hnx hsz hent hv2 hX hvs
  go_wp2_with fail
  refine HD.out.mono ?_
  rintro e w5 ⟨rfl, Ft', t, n, hg, hd, k1, k2, k3, k4, k5⟩
  obtain ⟨rfl, rfl⟩ := k4 rfl
  have HX := Lib.hid (And.intro hg (And.intro hd (And.intro k1 k3)))
  clear hg hd k1 k2 k3 k4 k5 HD
  go_wp2_with fail
  go_ret2
  obtain ⟨hg, hd, k1, k3⟩ := HX.out
  exact ⟨_, Ft', rfl, k3, Nat.le_refl _, k1, hg, hd⟩
end
end Go.Proofs.YtflkaladkbkbgaaGreat
