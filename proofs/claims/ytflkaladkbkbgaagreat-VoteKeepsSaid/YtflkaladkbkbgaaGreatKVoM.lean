/- The frames of a file, and the cut behind them. -/
import Derived.Test.YtflkaladkbkbgaaGreatKVoJ
import Derived.Test.YtflkaladkbkbgaaGreatKFlY
import Derived.Laws.ResultCell
namespace Go.Proofs.YtflkaladkbkbgaaGreat
set_option linter.unusedVariables false
set_option linter.unusedSimpArgs false
open Go.RowKit Go.Maps
set_option maxRecDepth 100000
theorem Bods.keepB {w w' : World} {B : Nat} {v : Value} {ls : List (List UInt8)} (h : Bods w B v ls) (hz : w.heap.size ≤ w'.heap.size) (hk : ∀ b, B ≤ b → b < w.heap.size → w'.heap[b]? = w.heap[b]?) : Bods w' B v ls := by
  obtain ⟨vs, h1, h2, h3⟩ := h
  refine ⟨vs, h1, ?_, fun i h h' => ((h3 i h h').keep fun b hb => hk b hb.1 hb.2.1).imp fun b hb => ⟨hb.1, by omega, hb.2.2⟩⟩
  obtain ⟨h4, h2⟩ := h2
  refine ⟨h4, ?_⟩
  rcases h2 with h2 | ⟨g, cap, cur, hv, hg, hh, r⟩
  · exact Or.inl h2
  · exact Or.inr ⟨g, cap, cur, hv, hg, (hk g hg (Array.getElem?_eq_some_iff.1 hh).1).trans hh, r⟩
/-- What is behind the frames is cut off. -/
def trimM (nm : List UInt8) (len m : Nat) (M : DiskM) : Int × DiskM := if m < len then M.cut nm m else (0, M)
theorem read_some {M : DiskM} {nm b : List UInt8} (h : M.read nm = (b, 0)) : ∀ f, M.fs nm = some f → f.b = b := by
  intro f hf
  unfold DiskM.read at h
  split at h
  · injection h with _ h2; exact absurd h2 (by decide)
  split at h
  · injection h with _ h2; exact absurd h2 (by decide)
  rw [hf] at h
  injection h with h1 _
section
variable {w : World} {Ft : Nat → Prop} {d : Nat} {M : DiskM}
def FramesR (w : World) (Ft : Nat → Prop) (d : Nat) (bs : List (List UInt8)) (r : Int × DiskM) (e : Ending) (w' : World) : Prop :=
  ∃ v Ft', e = .returned (.tuple #[v, .int .i64 r.1]) ∧ (if r.1 = 0 then Bods w' w.heap.size v bs else v = .slice none 0 0) ∧ Gr Ft w Ft' w' ∧ DAt w' Ft' d r.2
set_option maxHeartbeats 4000000 in
theorem frames_any (h : DAt w Ft d M) (s : ByteArray) (hs : s.size ≤ 140737488351232) (b : List UInt8) (bs : List (List UInt8)) (m : Nat) (hr : M.read s.data.toList = (b, 0)) (hsc : ScanR b bs m) (hm : m ≤ b.length) (hbl : b.length ≤ 140737488000) :
    Calls Tryz.prog 61 #[.pointer (some ⟨d, 0, none⟩), .string s] w (FramesR w Ft d bs (trimM s.data.toList b.length m M)) := by
  have HC := Lib.hid (read_any h s hs)
  rw [hr] at HC
  have HRS := Lib.hid (read_some hr)
  have H := Lib.hid h
  have HSC := Lib.hid hsc
  have HM := Lib.hid hm
  have HBL := Lib.hid hbl
  obtain ⟨n, hn⟩ : ∃ n, n = b.length := ⟨_, rfl⟩
  have HN := Lib.hid hn
  rw [← hn] at hm ⊢
  obtain ⟨R, hR⟩ : ∃ R, R = trimM s.data.toList n m M := ⟨_, rfl⟩
  have HR := Lib.hid hR
  rw [← hR]
  clear h hr hsc hbl hn hR
  go_enter Tryz.func61, Tryz.ntmps61
  go_wp2_with fail
  refine HC.out.mono ?_
  rintro e w1 ⟨hb1, v1, rfl, hv1⟩
  have HSN := Lib.hid (fscan_any _ _ _ _ w1 hv1.rdY HBL.out HSC.out)
  obtain ⟨A1, c1, rfl⟩ := hv1.rdY.shapeY
  rw [← HN.out] at HSN ⊢
  have HB1 := Lib.hid hb1
  clear hb1 hv1 HC
  go_wp2_with fail
  refine HSN.out.mono ?_
  rintro e w2 ⟨v2, rfl, hv2, hb2⟩
  have HB2 := Lib.hid (HB1.out.trans (hb2.mono HB1.out.size))
  have HV2 := Lib.hid (hv2.base HB1.out.size)
  have HD2 := Lib.hid (H.out.below HB2.out)
  obtain ⟨A2, c2, rfl, -, -⟩ := hv2.shape
  obtain ⟨k, hk⟩ : ∃ k, k = bs.length := ⟨_, rfl⟩
  rw [← hk] at HV2 ⊢
  clear hb2 hv2 HSN hk
  by_cases hlt : m < n
  · have d1 : (m < n) = True := eq_true hlt
    have HCT := Lib.hid (cut_any HD2.out s hs m (fun f hf => by rw [HRS.out f hf]; exact HM.out))
    have hRR : R = M.cut s.data.toList m := by rw [HR.out]; unfold trimM; rw [if_pos hlt]
    have HRR := Lib.hid hRR
    rw [← hRR] at HCT
    clear hRR hlt
    go_wp2_with fail
    refine HCT.out.mono ?_
    rintro e w3 ⟨rfl, Ft3, hg3, hd3⟩
    have hv3 := HV2.out.keepB hg3.size (fun b h1 h2 => hg3.block b h2 (fun hf => by have := H.out.1 b hf; omega))
    have HX := Lib.hid (And.intro hv3 (And.intro ((Gr.of_below HB2.out).trans hg3) hd3))
    obtain ⟨r, M'⟩ := R
    clear hg3 hd3 hv3 HCT HR HRR
    by_cases h0 : r = 0
    · subst h0
      go_wp2_with fail
      go_ret2
      exact ⟨_, Ft3, rfl, by rw [if_pos rfl]; exact HX.out.1, HX.out.2.1, HX.out.2.2⟩
    · have d2 : (r == 0) = false := by simpa using h0
      have H0 := Lib.hid h0
      clear h0
      go_wp2_with fail
      go_ret2
      exact ⟨_, Ft3, rfl, by rw [if_neg H0.out]; rfl, HX.out.2.1, HX.out.2.2⟩
  · have d1 : (m < n) = False := eq_false hlt
    have hRR : R = (0, M) := by rw [HR.out]; unfold trimM; rw [if_neg hlt]
    subst hRR
    clear hlt
    go_wp2_with fail
    go_ret2
    exact ⟨_, Ft, rfl, by rw [if_pos rfl]; exact HV2.out, Gr.of_below HB2.out, HD2.out⟩
theorem read_ok {M : DiskM} {nm b : List UInt8} (h : M.read nm = (b, 0)) : M.gone = false ∧ badNm nm = false ∧ ∃ f, M.fs nm = some f ∧ f.b = b := by
  unfold DiskM.read at h
  cases hg : M.gone
  · rw [hg, if_neg (by simp)] at h
    cases hb : badNm nm
    · rw [hb, if_neg (by simp)] at h
      cases hf : M.fs nm with
      | none => rw [hf] at h; injection h with _ h2; exact absurd h2 (by decide)
      | some f => rw [hf] at h; injection h with h1 _; exact ⟨rfl, rfl, f, rfl, h1⟩
    · rw [hb, if_pos rfl] at h; injection h with _ h2; exact absurd h2 (by decide)
  · rw [hg, if_pos rfl] at h; injection h with _ h2; exact absurd h2 (by decide)
theorem trim_not4 {M : DiskM} {nm b : List UInt8} (h : M.read nm = (b, 0)) (n m : Nat) : (trimM nm n m M).1 ≠ 4 := by
  obtain ⟨hg, hb, f, hf, -⟩ := read_ok h
  unfold trimM
  split
  · unfold DiskM.cut
    rw [hg, if_neg (by simp), hb, if_neg (by simp), hf]
    show (if M.left = 0 then _ else _ : Int × DiskM).1 ≠ 4
    split
    · show (90 : Int) ≠ 4; decide
    · show (0 : Int) ≠ 4; decide
  · show (0 : Int) ≠ 4; decide
set_option maxHeartbeats 4000000 in
theorem trim_any (h : DAt w Ft d M) (s : ByteArray) (hs : s.size ≤ 140737488351232) (b : List UInt8) (bs : List (List UInt8)) (m : Nat) (hr : M.read s.data.toList = (b, 0)) (hsc : ScanR b bs m) (hm : m ≤ b.length) (hbl : b.length ≤ 140737488000) :
    Calls Tryz.prog 37 #[.agg #[.pointer (some ⟨d, 0, none⟩), .string s]] w (FramesR w Ft d bs (trimM s.data.toList b.length m M)) := by
  obtain ⟨w1, hw1⟩ : ∃ W, W = w.alloc (.cells #[.pointer (some ⟨d, 0, none⟩), .string s] 57) := ⟨_, rfl⟩
  have hb1 : Below w.heap.size w w1 := by rw [hw1]; exact two_below w _
  have HC := Lib.hid (frames_any (h.below hb1) s hs b bs m hr hsc hm hbl)
  have h4 := trim_not4 hr b.length m
  obtain ⟨R, hR⟩ : ∃ R, R = trimM s.data.toList b.length m M := ⟨_, rfl⟩
  rw [← hR] at HC h4 ⊢
  obtain ⟨r, M'⟩ := R
  have HB := Lib.hid hb1
  have HW := Lib.hid hw1
  have d4 : (r == 4) = false := by simpa using h4
  clear h hr hsc hm hbl hb1 hw1 hR h4
  go_enter Tryz.func37, Tryz.ntmps37
  go_wp2_with fail
  rw [← HW.out]
  refine HC.out.mono ?_
  rintro e w2 ⟨v, Ft2, rfl, hv, hg2, hd2⟩
  have hX : FramesR w Ft d bs (r, M') (.returned (.tuple #[v, .int .i64 r])) w2 := ⟨v, Ft2, rfl, by
    by_cases h0 : r = 0
    · rw [if_pos (show (r, M').1 = 0 from h0)] at hv ⊢
      exact hv.base HB.out.size
    · rw [if_neg (show ¬ (r, M').1 = 0 from h0)] at hv ⊢
      exact hv, (Gr.of_below HB.out).trans hg2, hd2⟩
  have HX := Lib.hid hX
  obtain ⟨A, n, c, rfl⟩ : ∃ A n c, v = .slice A n c := by
    by_cases h0 : r = 0
    · rw [if_pos (show (r, M').1 = 0 from h0)] at hv
      obtain ⟨A, c, h, -⟩ := hv.shape
      exact ⟨A, _, c, h⟩
    · rw [if_neg (show ¬ (r, M').1 = 0 from h0)] at hv
      exact ⟨_, _, _, hv⟩
  clear hX hv hg2 hd2 HC
  go_wp2_with fail
  go_ret2
  exact HX.out
end
end Go.Proofs.YtflkaladkbkbgaaGreat

/- The ballot that a frame's body is. -/
namespace Go.Proofs.YtflkaladkbkbgaaGreat
set_option linter.unusedVariables false
set_option linter.unusedSimpArgs false
open Go.RowKit Go.Maps
set_option maxRecDepth 100000
/-- What a body reads as: term, node, and whether it is a ballot. -/
def readBt (l : List UInt8) : Int := (rdCount 1099511627776 (some l)).1
def readBn (l : List UInt8) : Int := (rdInt (rdCount 1099511627776 (some l)).2).1
def restB (l : List UInt8) : Option (List UInt8) := (rdInt (rdCount 1099511627776 (some l)).2).2
def doneB : Option (List UInt8) → Int
  | some [] => 0
  | _ => 10
def readOk (l : List UInt8) : Bool := (doneB (restB l) == 0) && mayB (readBt l) (readBn l)
theorem doneB_any (g : Nat) (st : Option (List UInt8)) (w : World) (h : SrcL w g st) : Calls Tryz.prog 87 #[.pointer (some ⟨g, 0, none⟩)] w fun e w' => e = .returned (.int .i64 (doneB st)) ∧ w = w' := by
  cases st with
  | none =>
    refine (done_any g _ _ w h).mono ?_
    rintro e w' ⟨rfl, rfl⟩
    exact ⟨rfl, rfl⟩
  | some l =>
    refine (done_any g _ _ w h.1).mono ?_
    rintro e w' ⟨rfl, rfl⟩
    refine ⟨?_, rfl⟩
    cases l with
    | nil => simp [doneB, ByteArray.toList_eq]
    | cons a r => simp [doneB, ByteArray.toList_eq]
theorem results_cell_bal {fn : Func} {p u : Tmp} (h : fn.results = #[.cell p 51, .tmp u]) (tmps : Array Value) (w : World) (g : Nat) (t : TypeId) (cs : Array Value) (fr : Nat × Nat)
    (hp : tmps.getD p undef = .pointer (some ⟨g, 0, none⟩)) (hg : w.heap[g]? = some (.cells cs t fr)) (hi : (Tryz.prog.info? 51).map (·.size) = some cs.size) :
    (results fn tmps).run Tryz.prog w = .ok (.tuple #[.agg cs, tmps.getD u undef]) w := by
  rw [results_cell_tmp h, hp]
  have e : (asAddr (.pointer (some ⟨g, 0, none⟩))).run Tryz.prog w = .ok ⟨g, 0, none⟩ w := by simp [asAddr]
  rw [e]
  simp only [Result.andThen]
  rw [run_loadVar_row w g t 51 cs fr _ hg Tryz.underlying51 rfl hi]
set_option maxHeartbeats 4000000 in
theorem read_bal (vb : Value) (l : List UInt8) (w : World) (hrd : Rd w w.heap.size vb l) (hl : l.length ≤ 140737488000) :
    Calls Tryz.prog 63 #[vb] w fun e w' => e = .returned (.tuple #[bv (readBt l) (readBn l), .bool (readOk l)]) ∧ Below w.heap.size w w' := by
  obtain ⟨w1, hw1⟩ : ∃ W, W = w.alloc (.cells #[.int .i64 0, .int .i64 0] 51) := ⟨_, rfl⟩
  have hb1 : Below w.heap.size w w1 := by rw [hw1]; exact two_below w _
  have hk1 : w1.heap[w.heap.size]? = some (.cells #[.int .i64 0, .int .i64 0] 51 (0, 0)) := by rw [hw1]; exact heap_alloc_new w _
  have HC := Lib.hid (from_any vb ⟨l.toArray⟩ w1 (Rd.strY (hrd.keep hb1)))
  obtain ⟨A, c, rfl⟩ := hrd.shapeY
  obtain ⟨n, hn⟩ : ∃ n, n = l.length := ⟨_, rfl⟩
  rw [← hn] at HC ⊢
  have HL := Lib.hid hl
  have HB1 := Lib.hid hb1
  have HK1 := Lib.hid hk1
  have HW1 := Lib.hid hw1
  clear hrd hl hb1 hk1 hw1 hn
  go_enter Tryz.func63, Tryz.ntmps63
  go_wp2_with fail
  rw [← HW1.out]
  refine HC.out.mono ?_
  rintro e w2 ⟨rfl, hs2, hb2⟩
  obtain ⟨g, hg⟩ : ∃ g, g = w1.heap.size := ⟨_, rfl⟩
  rw [← hg] at hs2 ⊢
  have HS2 := Lib.hid (SrcL.mk hs2 (by have := HL.out; omega))
  have HB2 := Lib.hid (HB1.out.trans (hb2.mono HB1.out.size))
  have hwg : w.heap.size < g := by rw [hg]; exact (Array.getElem?_eq_some_iff.1 HK1.out).1
  have HK2 := Lib.hid ((hb2.block w.heap.size (by omega)).trans HK1.out)
  have HWG := Lib.hid hwg
  clear hs2 hb2 hg hwg HC
  go_wp2_with fail
  refine (scount_any g _ 1099511627776 w2 HS2.out (by omega)).mono ?_
  rintro e w3 ⟨rfl, hs3, ho3⟩
  obtain ⟨t, ht⟩ : ∃ t, t = readBt l := ⟨_, rfl⟩
  have HT := Lib.hid ht
  rw [show (rdCount 1099511627776 (some l)).1 = t from ht.symm]
  have HS3 := Lib.hid hs3
  have HB3 := Lib.hid (HB2.out.trans (ho3.below HB2.out.size (by have := HWG.out; omega)))
  have HK3 := Lib.hid ((ho3.block w.heap.size (Array.getElem?_eq_some_iff.1 HK2.out).1 (fun e => by injection e with e; have := HWG.out; omega)).trans HK2.out)
  clear hs3 ho3 ht
  go_wp2_with fail
  refine (sint_any g _ w3 HS3.out).mono ?_
  rintro e w4 ⟨rfl, hs4, ho4⟩
  obtain ⟨u, hu⟩ : ∃ u, u = readBn l := ⟨_, rfl⟩
  have HUU := Lib.hid hu
  rw [show (rdInt (rdCount 1099511627776 (some l)).2).1 = u from hu.symm]
  have HS4 : Hid (SrcL w4 g (restB l)) := Lib.hid hs4
  have HB4 := Lib.hid (HB3.out.trans (ho4.below HB3.out.size (by have := HWG.out; omega)))
  have HK4 := Lib.hid ((ho4.block w.heap.size (Array.getElem?_eq_some_iff.1 HK3.out).1 (fun e => by injection e with e; have := HWG.out; omega)).trans HK3.out)
  clear hs4 ho4 hu
  go_wp2_with fail
  obtain ⟨w5, hw5⟩ : ∃ W, W = w4.alloc (.cells #[.int .i64 t, .int .i64 u] 51) := ⟨_, rfl⟩
  have hb5 : Below w4.heap.size w4 w5 := by rw [hw5]; exact two_below w4 _
  have hk5 : w5.heap[w4.heap.size]? = some (.cells #[.int .i64 t, .int .i64 u] 51 (0, 0)) := by rw [hw5]; exact heap_alloc_new w4 _
  rw [← hw5]
  have hwz : w.heap.size < w4.heap.size := (Array.getElem?_eq_some_iff.1 HK4.out).1
  have hk0 := (hb5.block w.heap.size hwz).trans HK4.out
  have HS5 : Hid (SrcL w5.drew g (restB l)) := Lib.hid (HS4.out.of (show w5.drew.heap[g]? = w4.heap[g]? from hb5.block g HS4.out.lt))
  have HB5 : Hid (Below w.heap.size w w5.drew) := Lib.hid (HB4.out.trans (hb5.mono HB4.out.size)).drew
  obtain ⟨p, hp⟩ : ∃ p, p = w4.heap.size := ⟨_, rfl⟩
  obtain ⟨q, hq⟩ : ∃ q, q = w.heap.size := ⟨_, rfl⟩
  rw [← hp] at hk5 hwz ⊢
  rw [← hq] at hk0 hwz ⊢
  have HQ := Lib.hid hq
  have HPQ := Lib.hid hwz
  have HK0 : Hid (w5.drew.heap[q]? = some (.cells #[.int .i64 0, .int .i64 0] 51 (0, 0))) := Lib.hid hk0
  have HK5 : Hid (w5.drew.heap[p]? = some (.cells #[.int .i64 t, .int .i64 u] 51 (0, 0))) := Lib.hid hk5
  have q1 := cell_r4 (w := w5.drew) (a := p) (b := p) (c := p) (d := p) (Go.Joins.cell_of_block HK5.out 0) (.inl rfl)
  have q2 := cell_r4 (w := w5.drew) (a := p) (b := p) (c := p) (d := p) (Go.Joins.cell_of_block HK5.out 1) (.inl rfl)
  have HOK : Hid (readOk l = ((doneB (restB l) == 0) && mayB t u)) := Lib.hid (by rw [HT.out, HUU.out]; rfl)
  obtain ⟨x, hx⟩ : ∃ x, x = doneB (restB l) := ⟨_, rfl⟩
  have HX := Lib.hid hx
  rw [← hx] at HOK
  clear hx hk0 hk5 hp hq hwz hw5 hb5 HS4 HB4 HK4 HS3 HB3 HK3 HS2 HB2 HK2
  go_wp2_with fail
  refine wp_region_OT (R4 p p p p) (R4.refl _ _ _ _) (R4.trans _ _ _ _) [] (.pure [0, 1] (.step 2 (.pure [3, 4, 5] (.step 6 (.pure [7] (.step 8 (.free [9] (.tail []))))))) ) (by kernel_rfl) (by kernel_rfl) (fun _ d _ _ _ h => by cases d <;> exact h) ?_
  generalize w5.drew = w6 at *
  refine ot_pure ?_
  simp only [atNats, List.filterMap_cons, List.filterMap_nil, List.getElem?_toArray, List.getElem?_cons_succ, List.getElem?_cons_zero]
  show wpQuiet _ _ _ _ [_, _] _
  try simp only [List.getElem_toArray, List.getElem_cons_succ, List.getElem_cons_zero, Act.put, List.setIfInBounds_toArray, List.set_cons_succ, List.set_cons_zero] at *
  repeat (go_big_quiet_step (fail))
  refine wpQuiet_nil ?_
  refine ot_step rfl (fun K hK => ?_)
  go_simp
  refine (doneB_any g _ w6 HS5.out).mono ?_
  rintro e w7 ⟨rfl, rfl⟩
  rw [← HX.out]
  refine hK _ _ (.inr (R4.refl _ _ _ _ _)) ?_
  clear hK K
  obtain ⟨z, hz⟩ : ∃ z, z = (x == 0) := ⟨_, rfl⟩
  have HZ0 := Lib.hid hz
  cases z
  · have hxz : (x == 0) = false := hz.symm
    have HXZ := Lib.hid hxz
    clear hz
    refine ot_pure ?_
    simp only [atNats, List.filterMap_cons, List.filterMap_nil, List.getElem?_toArray, List.getElem?_cons_succ, List.getElem?_cons_zero]
    show wpQuiet _ _ _ _ [_, _, _] _
    try simp only [List.getElem_toArray, List.getElem_cons_succ, List.getElem_cons_zero, Act.put, List.setIfInBounds_toArray, List.set_cons_succ, List.set_cons_zero]
    repeat (go_big_quiet_step (fail))
    refine wpQuiet_nil ?_
    refine ot_step rfl (fun K hK => ?_)
    go_simp
    refine hK _ _ (.inr (R4.refl _ _ _ _ _)) ?_
    clear hK K
    obtain ⟨W9, hW9⟩ : ∃ W, W = w6 := ⟨_, rfl⟩
    subst hW9
    have HK9 := HK0
    have HB9 := HB5
    have HP9 : Hid (p < W9.heap.size) := Lib.hid (Array.getElem?_eq_some_iff.1 HK5.out).1
    refine ot_pure ?_
    simp only [atNats, List.filterMap_cons, List.filterMap_nil, List.getElem?_toArray, List.getElem?_cons_succ, List.getElem?_cons_zero]
    show wpQuiet _ _ _ _ [_] _
    try simp only [List.getElem_toArray, List.getElem_cons_succ, List.getElem_cons_zero, Act.put, List.setIfInBounds_toArray, List.set_cons_succ, List.set_cons_zero]
    repeat (go_big_quiet_step (fail))
    refine wpQuiet_nil ?_
    clear q1 q2
    have y0 := Go.Joins.cell_of_block HK9.out 0
    have y1 := Go.Joins.cell_of_block HK9.out 1
    have yf := fun i => Go.Joins.unfrozen_of_block HK9.out i
    refine ot_step rfl (fun K hK => ?_)
    go_simp
    obtain ⟨hbox, hgr, hzr⟩ := two_set (i := 0) (j := 1) HK9.out (.int .i64 t) (.int .i64 u)
    refine hK _ _ (.inr fun k hk => hgr.block k (by have := HP9.out; omega) (fun e => by injection e with e; have := HPQ.out; omega)) ?_
    clear hK K y0 y1 yf
    have HBX := Lib.hid hbox
    have HBL : Hid (Below w.heap.size w ((W9.setCell ⟨q, 0, none⟩ (.int .i64 t)).setCell ⟨q, 1, none⟩ (.int .i64 u))) := Lib.hid ⟨hgr.os.trans HB9.out.os, hgr.tape.trans HB9.out.tape, hgr.output.trans HB9.out.output, Nat.le_trans HB9.out.size hgr.size, fun k hk => (hgr.block k (by have := HB9.out.size; omega) (fun e => by injection e with e; have := HQ.out; omega)).trans (HB9.out.block k hk)⟩
    clear hbox hgr hzr
    refine ot_free ?_
    simp only [atNats, List.filterMap_cons, List.filterMap_nil, List.getElem?_toArray, List.getElem?_cons_succ, List.getElem?_cons_zero]
    show wpQuiet _ _ _ _ [_] _
    try simp only [List.getElem_toArray, List.getElem_cons_succ, List.getElem_cons_zero, Act.put, List.setIfInBounds_toArray, List.set_cons_succ, List.set_cons_zero]
    repeat (go_big_quiet_step (fail))
    refine wpQuiet_nil ?_
    refine ot_end ?_
    go_wp2_with fail
    refine bodyPost_ret (results_cell_bal rfl _ _ q 51 _ (0, 0) rfl HBX.out (by kernel_rfl)) rfl ?_
    exact ⟨by rw [HOK.out, HXZ.out, HT.out, HUU.out]; rfl, HBL.out⟩
  · have hxz : (x == 0) = true := hz.symm
    have HXZ := Lib.hid hxz
    clear hz
    refine ot_pure ?_
    simp only [atNats, List.filterMap_cons, List.filterMap_nil, List.getElem?_toArray, List.getElem?_cons_succ, List.getElem?_cons_zero]
    show wpQuiet _ _ _ _ [_, _, _] _
    try simp only [List.getElem_toArray, List.getElem_cons_succ, List.getElem_cons_zero, Act.put, List.setIfInBounds_toArray, List.set_cons_succ, List.set_cons_zero]
    repeat (go_big_quiet_step (fail))
    refine wpQuiet_nil ?_
    refine ot_step rfl (fun K hK => ?_)
    go_simp
    refine (may_any t u _).mono ?_
    rintro e w8 ⟨rfl, hb8⟩
    have HK9 := Lib.hid ((hb8.block q (Array.getElem?_eq_some_iff.1 HK0.out).1).trans HK0.out)
    have HB9 := Lib.hid (HB5.out.trans (hb8.mono HB5.out.size))
    have hp6 : p < w6.heap.size := (Array.getElem?_eq_some_iff.1 HK5.out).1
    have HP9 : Hid (p < w8.heap.size) := Lib.hid (by have := hb8.size; omega)
    refine hK _ _ (.inr fun k hk => hb8.block k (by omega)) ?_
    clear hK K hb8 hp6
    obtain ⟨W9, hW9⟩ : ∃ W, W = w8 := ⟨_, rfl⟩
    subst hW9
    refine ot_pure ?_
    simp only [atNats, List.filterMap_cons, List.filterMap_nil, List.getElem?_toArray, List.getElem?_cons_succ, List.getElem?_cons_zero]
    show wpQuiet _ _ _ _ [_] _
    try simp only [List.getElem_toArray, List.getElem_cons_succ, List.getElem_cons_zero, Act.put, List.setIfInBounds_toArray, List.set_cons_succ, List.set_cons_zero]
    repeat (go_big_quiet_step (fail))
    refine wpQuiet_nil ?_
    clear q1 q2
    have y0 := Go.Joins.cell_of_block HK9.out 0
    have y1 := Go.Joins.cell_of_block HK9.out 1
    have yf := fun i => Go.Joins.unfrozen_of_block HK9.out i
    refine ot_step rfl (fun K hK => ?_)
    go_simp
    obtain ⟨hbox, hgr, hzr⟩ := two_set (i := 0) (j := 1) HK9.out (.int .i64 t) (.int .i64 u)
    refine hK _ _ (.inr fun k hk => hgr.block k (by have := HP9.out; omega) (fun e => by injection e with e; have := HPQ.out; omega)) ?_
    clear hK K y0 y1 yf
    have HBX := Lib.hid hbox
    have HBL : Hid (Below w.heap.size w ((W9.setCell ⟨q, 0, none⟩ (.int .i64 t)).setCell ⟨q, 1, none⟩ (.int .i64 u))) := Lib.hid ⟨hgr.os.trans HB9.out.os, hgr.tape.trans HB9.out.tape, hgr.output.trans HB9.out.output, Nat.le_trans HB9.out.size hgr.size, fun k hk => (hgr.block k (by have := HB9.out.size; omega) (fun e => by injection e with e; have := HQ.out; omega)).trans (HB9.out.block k hk)⟩
    clear hbox hgr hzr
    refine ot_free ?_
    simp only [atNats, List.filterMap_cons, List.filterMap_nil, List.getElem?_toArray, List.getElem?_cons_succ, List.getElem?_cons_zero]
    show wpQuiet _ _ _ _ [_] _
    try simp only [List.getElem_toArray, List.getElem_cons_succ, List.getElem_cons_zero, Act.put, List.setIfInBounds_toArray, List.set_cons_succ, List.set_cons_zero]
    repeat (go_big_quiet_step (fail))
    refine wpQuiet_nil ?_
    refine ot_end ?_
    go_wp2_with fail
    refine bodyPost_ret (results_cell_bal rfl _ _ q 51 _ (0, 0) rfl HBX.out (by kernel_rfl)) rfl ?_
    exact ⟨by rw [HOK.out, HXZ.out, HT.out, HUU.out]; rfl, HBL.out⟩
end Go.Proofs.YtflkaladkbkbgaaGreat
