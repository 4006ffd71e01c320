/- Lengths behind a Set: plain; and what the law asks of one. -/
import Derived.Test.YtnamdlljdgllmaaGreatKTuA
import Derived.Test.YtnamdlljdgllmaaGreatKDlQ
import Derived.Test.YtnamdlljdgllmaaGreatKDlI
import Derived.Test.YtnamdlljdgllmaaGreatKTsD
import Derived.Test.YtnamdlljdgllmaaGreatKTrV
import Derived.Test.YtnamdlljdgllmaaGreatKDlT
import Derived.Test.YtnamdlljdgllmaaGreatKSpRa
import Derived.Test.YtnamdlljdgllmaaGreatKRegR
namespace Go.Proofs.YtnamdlljdgllmaaGreat
set_option linter.unusedVariables false
set_option linter.unusedSimpArgs false
open Go.RowKit
theorem lens_set {K : Nat} {t y : VT} {j : Nat} (h : lensT K t = true) (hy : lensT K y = true) : lensT K (setT t j y) = true := by
  obtain ⟨h1, h2, h3⟩ := (lensT_iff t).1 h
  cases t with
  | mk k i s l ns =>
    refine (lensT_iff _).2 ⟨by show (l.set j y).length ≤ K; rw [List.length_set]; exact h1, h2, fun x hx => ?_⟩
    rcases List.mem_or_eq_of_mem_set (show x ∈ l.set j y from hx) with hx | rfl
    · exact h3 x hx
    · exact hy
theorem lens_addI {K : Nat} {t y : VT} (h : lensT K t = true) (hy : lensT (K + 1) y = true) : lensT (K + 1) (addI t y) = true := by
  obtain ⟨h1, h2, h3⟩ := (lensT_iff t).1 h
  cases t with
  | mk k i s l ns =>
    simp only [VT.items, VT.names] at h1 h2 h3
    refine (lensT_iff _).2 ⟨by show (l ++ [y]).length ≤ K + 1; simp; omega, by show ns.length ≤ K + 1; omega, fun x hx => ?_⟩
    rcases List.mem_append.1 (show x ∈ l ++ [y] from hx) with hx | hx
    · exact lens_mono (by omega) x (h3 x hx)
    · rw [List.mem_singleton.1 hx]; exact hy
theorem lens_addIN {K : Nat} {t y : VT} {s : ByteArray} (h : lensT K t = true) (hy : lensT (K + 1) y = true) : lensT (K + 1) (addI (addN t s) y) = true := by
  obtain ⟨h1, h2, h3⟩ := (lensT_iff t).1 h
  cases t with
  | mk k i x l ns =>
    simp only [VT.items, VT.names] at h1 h2 h3
    refine (lensT_iff _).2 ⟨by show (l ++ [y]).length ≤ K + 1; simp; omega, by show (ns ++ [s]).length ≤ K + 1; simp; omega, fun x hx => ?_⟩
    rcases List.mem_append.1 (show x ∈ l ++ [y] from hx) with hx | hx
    · exact lens_mono (by omega) x (h3 x hx)
    · rw [List.mem_singleton.1 hx]; exact hy
theorem lens_nest {K : Nat} {x : VT} (hK : 1 ≤ K) (hx : lensT K x = true) : ∀ r : List ByteArray, lensT K (nestT r x) = true
  | [] => hx
  | s :: r => by
    show lensT K (oneT s (nestT r x)) = true
    refine (lensT_iff _).2 ⟨hK, hK, fun y hy => ?_⟩
    rw [List.mem_singleton.1 (show y ∈ [nestT r x] from hy)]
    exact lens_nest hK hx r
theorem lens_goT {K : Nat} {x : VT} (hx : lensT K x = true) : ∀ (p : List ByteArray) (t : VT), mayT t = true → lensT K t = true → lensT (K + 1) (goT (setFin x) t p).2 = true
  | [], t, _, h => by unfold goT; exact lens_mono (by omega) t h
  | s :: r, t, hm, h => by
    have hx1 := lens_mono (Nat.le_succ K) x hx
    have ht1 := lens_mono (Nat.le_succ K) t h
    by_cases he : placeT t s < 0 ∨ r = []
    · rw [goT_end he, setFin_cons]
      by_cases h0 : 0 ≤ placeT t s
      · rw [if_pos h0]
        exact lens_set ht1 hx1
      · rw [if_neg h0]
        by_cases h7 : t.kind = 7
        · rw [if_pos h7]
          exact lens_addIN h (lens_nest (by omega) hx1 r)
        · rw [if_neg h7]
          by_cases h6 : t.kind = 6 ∧ nextT t s r = true
          · rw [if_pos h6]
            exact lens_addI h hx1
          · rw [if_neg h6]
            exact ht1
    · have h0 : 0 ≤ placeT t s := Int.not_lt.1 fun k => he (.inl k)
      have hr : r ≠ [] := fun k => he (.inr k)
      have hj := placeT_lt (may_nl hm) h0
      rw [goT_on h0 hr hj]
      exact lens_set ht1 (lens_goT hx r _ (may_item hm hj) (((lensT_iff t).1 h).2.2 _ (List.getElem_mem hj)))
end Go.Proofs.YtnamdlljdgllmaaGreat

/- Changes done one behind the other: plain. -/
namespace Go.Proofs.YtnamdlljdgllmaaGreat
set_option linter.unusedVariables false
set_option linter.unusedSimpArgs false
set_option maxRecDepth 100000
def doD (d : DelT) (t : VT) : Int × VT := if d.kind = 1 then (if mayT d.val = true then changeT (setFin d.val) t d.path else (20, nilT)) else if d.kind = 2 then changeT dropFin t d.path else changeT (cutFin d.num) t d.path
def doL : List DelT → VT → Int × VT
  | [], t => (0, t)
  | d :: r, t => if (doD d t).1 = 0 then doL r (doD d t).2 else ((doD d t).1, nilT)
def applyD (l : List DelT) (t : VT) : Int × VT := if checkD l ≠ 0 then (checkD l, nilT) else if docB t = true then doL l t else (20, nilT)
theorem doL_snoc : ∀ (l : List DelT) (d : DelT) (t : VT), doL (l ++ [d]) t = if (doL l t).1 = 0 then (if (doD d (doL l t).2).1 = 0 then doD d (doL l t).2 else ((doD d (doL l t).2).1, nilT)) else doL l t
  | [], d, t => by
    show (if _ then doL [] _ else _) = _
    unfold doL
    by_cases h : (doD d t).1 = 0
    · rw [if_pos h, if_pos rfl, if_pos h, ← h]
    · rw [if_neg h, if_pos rfl, if_neg h]
  | a :: l, d, t => by
    show (if _ then doL (l ++ [d]) _ else _) = if (if _ then doL l _ else _).1 = 0 then _ else (if _ then doL l _ else _)
    by_cases h : (doD a t).1 = 0
    · simp only [doL]
      simp only [if_pos h]
      exact doL_snoc l d _
    · simp only [doL]
      simp only [if_neg h]
theorem doL_bad {l r : List DelT} {t : VT} (h : (doL l t).1 ≠ 0) : doL (l ++ r) t = ((doL l t).1, nilT) := by
  induction l generalizing t with
  | nil => exact absurd rfl h
  | cons a l ih =>
    simp only [List.cons_append, doL] at h ⊢
    by_cases h0 : (doD a t).1 = 0
    · rw [if_pos h0] at h ⊢
      rw [if_pos h0]
      exact ih h
    · rw [if_neg h0, if_neg h0]
theorem docB_iff {t : VT} : docB t = true ↔ mayT t = true ∧ t.kind = 7 := by
  unfold docB
  rw [Bool.and_eq_true, decide_eq_true_eq]
  exact And.comm
theorem wrong_ok {t : VT} {p : List ByteArray} (ht : docB t = true) (hp : mayP p = true) : wrongT t p = 0 := by
  unfold wrongT
  rw [ht, hp]
  rfl
theorem mayD_val {d : DelT} (h : mayD d = true) (hz : sizeT d.val ≤ 9223372036854775807) (hk : d.kind = 1) : mayT d.val = true ∧ depthT d.val ≤ 8 ∧ sizeT d.val ≤ 4096 := by
  unfold mayD at h
  rw [Bool.and_eq_true, if_pos hk, Bool.and_eq_true, decide_eq_true_eq] at h
  exact (check_zero hz).1 h.2.1
theorem mayD_kind {d : DelT} (h : mayD d = true) : d.kind = 1 ∨ d.kind = 2 ∨ (d.kind = 3 ∧ 0 ≤ d.num ∧ d.num ≤ 999) := by
  unfold mayD at h
  rw [Bool.and_eq_true] at h
  have h2 := h.2
  split at h2
  · omega
  split at h2
  · omega
  split at h2
  · simp only [Bool.and_eq_true, decide_eq_true_eq] at h2
    exact .inr (.inr ⟨by omega, h2.2.1, h2.2.2⟩)
  · cases h2
theorem doD_1 {d : DelT} {t : VT} (hk : d.kind = 1) (hm : mayT d.val = true) : doD d t = changeT (setFin d.val) t d.path := by unfold doD; rw [if_pos hk, if_pos hm]
theorem doD_2 {d : DelT} {t : VT} (hk : d.kind = 2) : doD d t = changeT dropFin t d.path := by unfold doD; rw [if_neg (by omega), if_pos hk]
theorem doD_3 {d : DelT} {t : VT} (hk : d.kind = 3) : doD d t = changeT (cutFin d.num) t d.path := by unfold doD; rw [if_neg (by omega), if_neg (by omega)]
theorem lens_rem {K : Nat} {t : VT} {j : Nat} (h : lensT K t = true) : lensT K (remT t j) = true := by
  obtain ⟨h1, h2, h3⟩ := (lensT_iff t).1 h
  cases t with
  | mk k i s l ns =>
    simp only [VT.items, VT.names] at h1 h2 h3
    refine (lensT_iff _).2 ⟨?_, ?_, fun x hx => h3 x (List.mem_of_mem_eraseIdx (show x ∈ l.eraseIdx j from hx))⟩
    · show (l.eraseIdx j).length ≤ K
      have := List.length_eraseIdx_le l j
      omega
    · show (ns.eraseIdx j).length ≤ K
      have := List.length_eraseIdx_le ns j
      omega
theorem lens_front {K n : Nat} {t : VT} (h : lensT K t = true) : lensT K (frontT t n) = true := by
  obtain ⟨h1, h2, h3⟩ := (lensT_iff t).1 h
  cases t with
  | mk k i s l ns =>
    simp only [VT.items, VT.names] at h1 h2 h3
    refine (lensT_iff _).2 ⟨?_, h2, fun x hx => h3 x (List.mem_of_mem_take (show x ∈ l.take n from hx))⟩
    show (l.take n).length ≤ K
    rw [List.length_take]
    omega
theorem lens_cutV {K : Nat} {x : VT} {n : Int} (h : lensT K x = true) : lensT K (cutV x n) = true := by
  unfold cutV
  split
  · exact lens_front h
  · exact h
theorem lens_go {K : Nat} {fin : VT → List ByteArray → Int × VT} (hfin : ∀ t s r, lensT K t = true → lensT K (fin t (s :: r)).2 = true) : ∀ (p : List ByteArray) (t : VT), mayT t = true → lensT K t = true → lensT K (goT fin t p).2 = true
  | [], t, _, h => by unfold goT; exact h
  | s :: r, t, hm, h => by
    by_cases he : placeT t s < 0 ∨ r = []
    · rw [goT_end he]; exact hfin _ _ _ h
    · have h0 : 0 ≤ placeT t s := Int.not_lt.1 fun k => he (.inl k)
      have hr : r ≠ [] := fun k => he (.inr k)
      have hj := placeT_lt (may_nl hm) h0
      rw [goT_on h0 hr hj]
      exact lens_set h (lens_go hfin r _ (may_item hm hj) (((lensT_iff t).1 h).2.2 _ (List.getElem_mem hj)))
theorem lens_null (K : Nat) : lensT K nullT = true := (lensT_iff _).2 ⟨Nat.zero_le _, Nat.zero_le _, fun _ h => absurd h (List.not_mem_nil)⟩
theorem lens_drop {K : Nat} (t : VT) (s : ByteArray) (r : List ByteArray) (h : lensT K t = true) : lensT K (dropFin t (s :: r)).2 = true := by
  rw [dropFin_cons]
  show lensT K (if _ then _ else _) = true
  split
  · exact h
  split
  · exact lens_rem h
  · exact lens_set h (lens_null K)
theorem lens_cut {K : Nat} (n : Int) (t : VT) (s : ByteArray) (r : List ByteArray) (h : lensT K t = true) : lensT K (cutFin n t (s :: r)).2 = true := by
  rw [cutFin_cons]
  split
  · exact h
  show lensT K (if _ then _ else _) = true
  split
  · exact h
  · split
    · exact h
    · rename_i x hx
      exact lens_set h (lens_cutV (((lensT_iff t).1 h).2.2 _ (List.mem_of_getElem? hx)))
structure DocK (K D : Nat) (t : VT) : Prop where
  doc : docB t = true
  lens : lensT K t = true
  deep : depthT t ≤ D
theorem DocK.mono {K D K' D' : Nat} {t : VT} (h : DocK K D t) (h1 : K ≤ K') (h2 : D ≤ D') : DocK K' D' t := ⟨h.doc, lens_mono h1 t h.lens, Nat.le_trans h.deep h2⟩
theorem doD_step {d : DelT} {t : VT} {K D : Nat} (hd : mayD d = true) (hz : sizeT d.val ≤ 9223372036854775807) (hlx : lensT K d.val = true) (h : DocK K D t) :
    (∃ R, doD d t = (0, R) ∧ DocK (K + 1) (D + 16) R ∧ (d.kind = 1 → R = (goT (setFin d.val) t d.path).2 ∧ (goT (setFin d.val) t d.path).1 = 0) ∧ (d.kind = 2 → R = (goT dropFin t d.path).2) ∧ (d.kind = 3 → R = (goT (cutFin d.num) t d.path).2)) ∨ (doD d t = (40, nilT) ∧ d.kind = 1 ∧ (goT (setFin d.val) t d.path).1 ≠ 0) := by
  obtain ⟨hm, hk⟩ := docB_iff.1 h.doc
  have hp := mayD_path hd
  have hw := wrong_ok h.doc hp
  have hp8 := mayP_len hp
  rcases mayD_kind hd with e | e | ⟨e, hn, -⟩
  · obtain ⟨hx, hx8, -⟩ := mayD_val hd hz e
    rw [doD_1 e hx]
    obtain ⟨m1, m2⟩ := goT_may (set_may d.val hx) d.path t hm (mayP_names hp)
    have hdp := goT_depth (L := 8) (fun t s r hr => set_depth d.val 8 t s r hr) d.path t (by omega)
    have hdd := h.deep
    rcases goT_code (c := fun x => x = 0 ∨ x = 40) (.inl rfl) (set_code d.val) d.path t with hc | hc
    · exact .inl ⟨_, goT_zero hw hc, ⟨docB_iff.2 ⟨m1, m2.trans hk⟩, lens_goT hlx d.path t hm h.lens, by omega⟩, fun _ => ⟨rfl, hc⟩, fun e' => by omega, fun e' => by omega⟩
    · refine .inr ⟨?_, e, by rw [hc]; decide⟩
      unfold changeT
      rw [if_pos hw, if_neg (by rw [hc]; decide), hc]
  · rw [doD_2 e]
    obtain ⟨m1, m2⟩ := goT_may drop_may d.path t hm (mayP_names hp)
    have hdp := goT_depth (L := 8) (fun t s r _ => drop_depth t s r) d.path t (by omega)
    have hdd := h.deep
    exact .inl ⟨_, goT_zero hw (goT_code (c := fun x => x = 0) rfl drop_code d.path t), ⟨docB_iff.2 ⟨m1, m2.trans hk⟩, lens_mono (Nat.le_succ K) _ (lens_go lens_drop d.path t hm h.lens), by omega⟩, fun e' => by omega, fun _ => rfl, fun e' => by omega⟩
  · rw [doD_3 e]
    obtain ⟨m1, m2⟩ := goT_may (cut_may d.num) d.path t hm (mayP_names hp)
    have hdp := goT_depth (L := 8) (fun t s r _ => cut_depth d.num t s r) d.path t (by omega)
    have hdd := h.deep
    exact .inl ⟨_, goT_zero hw (goT_code (c := fun x => x = 0) rfl (cut_code hn) d.path t), ⟨docB_iff.2 ⟨m1, m2.trans hk⟩, lens_mono (Nat.le_succ K) _ (lens_go (lens_cut d.num) d.path t hm h.lens), by omega⟩, fun e' => by omega, fun e' => by omega, fun _ => rfl⟩
theorem doL_doc : ∀ (l : List DelT) (t : VT) (K D : Nat), (∀ d ∈ l, mayD d = true ∧ sizeT d.val ≤ 9223372036854775807 ∧ lensT K d.val = true) → DocK K D t → (∃ R, doL l t = (0, R) ∧ DocK (K + l.length) (D + 16 * l.length) R) ∨ doL l t = (40, nilT)
  | [], t, K, D, _, h => .inl ⟨t, rfl, h⟩
  | d :: r, t, K, D, hl, h => by
    obtain ⟨h1, h2, h3⟩ := hl d (by simp)
    rcases doD_step h1 h2 h3 h with ⟨R, e, hR, -⟩ | ⟨e, -⟩
    · have ih := doL_doc r R (K + 1) (D + 16) (fun x hx => ⟨(hl x (by simp [hx])).1, (hl x (by simp [hx])).2.1, lens_mono (Nat.le_succ K) _ (hl x (by simp [hx])).2.2⟩) hR
      have e2 : doL (d :: r) t = doL r R := by simp only [doL]; rw [e]; rfl
      rw [e2]
      rcases ih with ⟨R2, a, b⟩ | a
      · exact .inl ⟨R2, a, b.mono (by simp only [List.length_cons]; omega) (by simp only [List.length_cons]; omega)⟩
      · exact .inr a
    · refine .inr ?_
      simp only [doL]
      rw [e]
      rfl
end Go.Proofs.YtnamdlljdgllmaaGreat

/- A copy of a list of changes, by the program. -/
namespace Go.Proofs.YtnamdlljdgllmaaGreat
open Lib (hid)
set_option linter.unusedVariables false
set_option linter.unusedSimpArgs false
open Go.RowKit
set_option maxRecDepth 100000
theorem DBox.call {w w' : World} {p : Nat} {c0 c1 c2 c3 c4 c5 c6 c7 : Value} (h : DBox w p c0 c1 c2 c3 c4 c5 c6 c7) (hb : Below w.heap.size w w') : DBox w' p c0 c1 c2 c3 c4 c5 c6 c7 := (hb.block p h.lt).trans h
theorem below_set {B p i : Nat} {w w' : World} {u : Value} (h : Below B w w') (hp : B ≤ p) : Below B w (w'.setCell ⟨p, i, none⟩ u) := ⟨h.os, h.tape, h.output, by simp; exact h.size, fun b hb => (heap_setCell_other _ ⟨p, i, none⟩ b _ (by show b ≠ p; omega)).trans (h.block b hb)⟩
theorem below_five {B p o : Nat} {w w' : World} {c0 c1 c2 c3 c4 : Value} (h : Below B w w') (hp : B ≤ p) : Below B w (five w' p o c0 c1 c2 c3 c4) :=
  ⟨(five_rest _ _ _ _ _ _ _ _).1.trans h.os, (five_rest _ _ _ _ _ _ _ _).2.1.trans h.tape, (five_rest _ _ _ _ _ _ _ _).2.2.trans h.output, by rw [five_size]; exact h.size, fun b hb => (five_other _ _ _ _ _ _ _ _ b (by omega)).trans (h.block b hb)⟩
set_option maxHeartbeats 16000000 in
theorem dlclone_any (S : Nat → Prop) (A : Option Addr) (c : Nat) (l : List DelT) (w : World) (hS : ∀ b, S b → b < w.heap.size) (h : DelsL w S A l) (hA : A = none → c = 0 ∧ l = []) (hl : l.length ≤ 1099511627776) :
    Calls Tryz.prog 19 #[.slice A l.length c] w fun e w' => ∃ A' c', e = .returned (.slice A' l.length c') ∧ (A' = none → c' = 0) ∧ l.length ≤ c' ∧ DelsL w' (fun b => b < w'.heap.size) A' l ∧ Below w.heap.size w w' := by
  have HC := hid (slCloneD_any S A c l w hS h hA hl)
  have HS := hid hS
  have HA := hid h
  obtain ⟨n, hn⟩ : ∃ n, n = l.length := ⟨_, rfl⟩
  have HN := hid hn
  rw [← hn] at HC hl ⊢
  clear hS h hA hn
  go_enter Tryz.func19, Tryz.ntmps19
  go_wp2_with fail
  refine HC.out.mono ?_
  rintro e w1 ⟨v, rfl, ⟨xs, hv, hx⟩, hb⟩
  obtain ⟨A', c', rfl, hA', hc'⟩ := own_slice hv
  have HB := hid hb
  have HV := hid hv
  have HX := hid hx
  have HAC := hid (And.intro hA' hc')
  clear hb hv hx hA' hc' HC
  go_wp2_with fail
  by_cases hp : 0 < n
  · obtain ⟨g, cap, e⟩ := row_pos HV.out hp
    injection e with e1 e2 e3
    subst e1 e3
    have hg : w.heap.size ≤ g := (World.ownsRow.lt HV.out g rfl).1
    have HG := hid hg
    have HR1 : Hid (RowD w1 g l) := hid (RowD.of HV.out HN.out HX.out (fun b hb => by
      have := HS.out b hb
      exact ⟨Nat.lt_of_lt_of_le this HB.out.size, by omega⟩))
    clear HV HX e2 hg
    go_loopw [10] (fun i wr => ∃ k : Nat, i = .int .i64 k ∧ k ≤ n ∧ Hid (Below w.heap.size w wr) ∧ Hid (RowD wr g l)) (fun i _ => n - (intOf i).toNat)
    case atStart => exact ⟨0, rfl, by omega, HB, HR1⟩
    case round =>
      clear HB HR1
      obtain ⟨k, rfl, hk, HB, HR⟩ := hrel
      by_cases hlt : k < n
      · have d1 : decide ((k : Int) < (n : Int)) = true := decide_eq_true (by omega)
        have hkl : k < l.length := by have := HN.out; omega
        obtain ⟨bp, off, PA, pc, VA, vc, VA', vc', rfl, hbp, hd, x0, x1, x2, x3, x4, x5, x6, x7⟩ := (HA.out.below HS.out HB.out).cells k hkl
        have hbp2 : bp < wr.heap.size := Nat.lt_of_lt_of_le (HS.out bp hbp) HB.out.size
        obtain ⟨w4, hw4⟩ : ∃ W, W = wr.alloc (.cells #[.int .i64 l[k].kind, .slice PA l[k].path.length pc, .int .i64 l[k].val.kind, .int .i64 l[k].val.num, .string l[k].val.text, .slice VA l[k].val.items.length vc, .slice VA' l[k].val.names.length vc', .int .i64 l[k].num] 31) := ⟨_, rfl⟩
        have hb4 : Below wr.heap.size wr w4 := by rw [hw4]; exact below_box _
        have hq4 := DBox.new wr (.int .i64 l[k].kind) (.slice PA l[k].path.length pc) (.int .i64 l[k].val.kind) (.int .i64 l[k].val.num) (.string l[k].val.text) (.slice VA l[k].val.items.length vc) (.slice VA' l[k].val.names.length vc') (.int .i64 l[k].num)
        rw [← hw4] at hq4
        have hz4 : w4.heap.size = wr.heap.size + 1 := by rw [hw4]; simp
        have HD4 := hid (hd.below (fun b hb => Nat.lt_of_lt_of_le (HS.out b hb) HB.out.size) hb4)
        have HR4 := hid (HR.out.call hb4)
        have HB4 := hid (HB.out.trans (hb4.mono HB.out.size))
        have HQ4 := hid hq4
        have HW4 := hid hw4
        have hgr := HR.out.lt
        have HGR := hid hgr
        have HC5 := hid (by
          obtain ⟨PB, pd, VB, vd, VB', vd', e, -, q1, q2, q3, -, -, q4⟩ := HD4.out
          simp only [Array.mk.injEq, List.cons.injEq, Value.slice.injEq, and_true, true_and] at e
          obtain ⟨⟨rfl, rfl⟩, ⟨rfl, rfl⟩, rfl, rfl⟩ := e
          exact cloneS_all S PA pc l[k].path w4 q1 (fun b hb => Nat.lt_of_lt_of_le (HS.out b hb) HB4.out.size) q3 q4)
        clear hd hb4 hq4 hz4 hbp hgr
        go_wp2_with fail
        rw [← hw4]
        refine HC5.out.mono ?_
        rintro e w5 ⟨v5, rfl, hv5, hb5⟩
        obtain ⟨PB, pd, e5, hP0, hP1⟩ := own_slice hv5
        subst e5
        have HR5 := hid (HR4.out.call hb5)
        have HQ5 := hid (HQ4.out.call hb5)
        have HB5 := hid (HB4.out.trans (hb5.mono HB4.out.size))
        have HD5 := hid (HD4.out.below (fun b hb => Nat.lt_of_lt_of_le (HS.out b hb) HB4.out.size) hb5)
        have hpl5 : l[k].path.length ≤ 8796093021952 := by
          obtain ⟨PB, pd, VB, vd, VB', vd', e, -, q1, q2, q3, -, -, q4⟩ := HD4.out
          exact q4
        have HV5 : Hid (SlP w5 (fun b => b < w5.heap.size ∧ b ≠ g) (.slice PB l[k].path.length pd) l[k].path) := hid (by
          obtain ⟨PC, pe, e, h1, h2⟩ := hv5.opens (fun s hs => by
            obtain ⟨PB, pd, VB, vd, VB', vd', e, -, q1, -⟩ := HD4.out
            obtain ⟨i, hi, rfl⟩ := List.mem_iff_getElem.1 hs
            obtain ⟨_, _, _, _, hc⟩ := q1 (by omega)
            exact (hc i hi).2)
          injection e with e1 e2 e3
          subst e1 e3
          exact ⟨_, _, rfl, h2.imp fun b hb => ⟨hb.2, by have := HR4.out.lt; have := hb.1; omega⟩, h1, by omega⟩)
        have HP0 := hid hP0
        obtain ⟨u1, z1⟩ := HR5.out.cell k hkl 1 (by omega)
        have zf := fun i => HR5.out.free i
        have hne : wr.heap.size ≠ g := by have := HGR.out; omega
        have hQ6 := HQ5.out.other g (k * 8 + 1) (.slice PB l[k].path.length pd) hne
        have y2 := hQ6.g2
        have y3 := hQ6.g3
        have y4 := hQ6.g4
        have y5 := hQ6.g5
        have y6 := hQ6.g6
        have hR6 := HR5.out.path hkl HV5.out (fun A n c e e' => by injection e with e1 e2 e3; subst e1; rw [← e3]; exact hP0 e')
        have hb6 : Below w.heap.size w (w5.setCell ⟨g, k * 8 + 1, none⟩ (.slice PB l[k].path.length pd)) := below_set HB5.out HG.out
        obtain ⟨w6, hw6⟩ : ∃ W, W = w5.setCell ⟨g, k * 8 + 1, none⟩ (.slice PB l[k].path.length pd) := ⟨_, rfl⟩
        have HW6 := hid hw6
        have HR6 : Hid (RowD w6 g l) := hid (by rw [hw6]; exact hR6)
        have HB6 : Hid (Below w.heap.size w w6) := hid (by rw [hw6]; exact hb6)
        have hlv6 : LV w6 S l[k].val (.agg #[.int .i64 l[k].val.kind, .int .i64 l[k].val.num, .string l[k].val.text, .slice VA l[k].val.items.length vc, .slice VA' l[k].val.names.length vc']) := by
          obtain ⟨PB', pd', VB, vd, VB', vd', e, q0, -⟩ := HD5.out
          simp only [Array.mk.injEq, List.cons.injEq, Value.slice.injEq, and_true, true_and] at e
          obtain ⟨⟨rfl, rfl⟩, ⟨rfl, rfl⟩, rfl, rfl⟩ := e
          refine q0.keep fun b hb => ?_
          rw [hw6]
          exact heap_setCell_other _ ⟨g, k * 8 + 1, none⟩ b _ (by have := HS.out b hb; have := HG.out; show b ≠ g; omega)
        have HC7 := hid (clone_own S l[k].val _ w6 (fun b hb => Nat.lt_of_lt_of_le (HS.out b hb) HB6.out.size) hlv6)
        clear hv5 hb5 hP0 hP1 hQ6 hR6 hb6 hlv6 hw6 x0 x1 x2 x3 x4 x5 x6 x7 hw4 hpl5 HC5 HW4 HB HR HR4 HB4
        go_wp2_with fail
        rw [← HW6.out]
        refine HC7.out.mono ?_
        rintro e w7 ⟨v7, rfl, hv7, hb7⟩
        obtain ⟨VB, vd, VB', vd', -, e7, -⟩ := hv7.shape
        subst e7
        have HR7 := hid (HR6.out.call hb7)
        have HB7 := hid (HB6.out.trans (hb7.mono HB6.out.size))
        have HR8 := hid (HR7.out.val hkl (hv7.lv.imp fun b hb => ⟨hb.2, by have := HR6.out.lt; have := hb.1; omega⟩))
        have HB8 := hid (below_five (o := k * 8 + 2) (c0 := .int .i64 l[k].val.kind) (c1 := .int .i64 l[k].val.num) (c2 := .string l[k].val.text) (c3 := .slice VB l[k].val.items.length vd) (c4 := .slice VB' l[k].val.names.length vd') HB7.out HG.out)
        clear z1 zf y2 y3 y4 y5 y6 hv7 hb7 HC7 HW6
        obtain ⟨u2, z2⟩ := HR7.out.cell k hkl 2 (by omega)
        obtain ⟨u3, z3⟩ := HR7.out.cell k hkl 3 (by omega)
        obtain ⟨u4, z4⟩ := HR7.out.cell k hkl 4 (by omega)
        obtain ⟨u5, z5⟩ := HR7.out.cell k hkl 5 (by omega)
        obtain ⟨u6, z6⟩ := HR7.out.cell k hkl 6 (by omega)
        have zf := fun i => HR7.out.free i
        go_wp2_with fail
        go_roundw
        case rel => exact ⟨k + 1, by go_num, by omega, HB8, HR8⟩
        case measure => simp [intOf]; omega
      · have d1 : decide ((k : Int) < (n : Int)) = false := decide_eq_false (by omega)
        have HRR := hid HR.out.rows
        go_wp2_with fail
        go_ret
        exact ⟨_, _, rfl, HAC.out.1, HAC.out.2, HRR.out, HB.out⟩
  · have d0 : n = 0 := by omega
    have hl0 : l = [] := List.eq_nil_of_length_eq_zero (by have := HN.out; omega)
    have HL0 := hid hl0
    subst d0
    clear hl0
    go_loopw [10] (fun i wr => i = .int .i64 0 ∧ wr = w1) (fun i _ => 0)
    case atStart => exact ⟨rfl, rfl⟩
    case round =>
      obtain ⟨rfl, rfl⟩ := hrel
      go_wp2_with fail
      go_ret
      exact ⟨_, _, rfl, HAC.out.1, HAC.out.2, fun h => absurd h (by rw [HL0.out]; simp), HB.out⟩
set_option maxHeartbeats 8000000 in
theorem dldo_any (S : Nat → Prop) (t : VT) (v : Value) (d : DelT) (PA : Option Addr) (pc : Nat) (VA : Option Addr) (vc : Nat) (VA' : Option Addr) (vc' : Nat) (w : World) (hS : ∀ b, S b → b < w.heap.size) (h : LV w S t v) (hd : depthT t ≤ 4611686018427387903) (hsm : smallT t)
    (ho : DelL w S d #[.int .i64 d.kind, .slice PA d.path.length pc, .int .i64 d.val.kind, .int .i64 d.val.num, .string d.val.text, .slice VA d.val.items.length vc, .slice VA' d.val.names.length vc', .int .i64 d.num]) (hm : mayD d = true) (h63 : pc ≤ 9223372036854775807) (hdd : depthT d.val ≤ 4611686018427387903) :
    Calls Tryz.prog 58 #[v, .agg #[.int .i64 d.kind, .slice PA d.path.length pc, .int .i64 d.val.kind, .int .i64 d.val.num, .string d.val.text, .slice VA d.val.items.length vc, .slice VA' d.val.names.length vc', .int .i64 d.num]] w (ChangeR (doD d t) w) := by
  obtain ⟨A0, c0, A0', c0', rfl, -, -, -, v1, hb0⟩ := one_var hS h
  have hV := h
  obtain ⟨PA1, pc1, VA1, vc1, VA2, vc2, he, hx, hps, hpc, hpn, hrk, hrn, hpl⟩ := ho
  simp only [Array.mk.injEq, List.cons.injEq, Value.slice.injEq, true_and, and_true] at he
  obtain ⟨⟨rfl, rfl⟩, ⟨rfl, rfl⟩, ⟨rfl, rfl⟩⟩ := he
  have hkk := mayD_kind hm
  have hz1 : (w.alloc (.cells #[.int .i64 t.kind, .int .i64 t.num, .string t.text, .slice A0 t.items.length c0, .slice A0' t.names.length c0'] 29)).heap.size = w.heap.size + 1 := by simp
  have hz2 : ((w.alloc (.cells #[.int .i64 t.kind, .int .i64 t.num, .string t.text, .slice A0 t.items.length c0, .slice A0' t.names.length c0'] 29)).alloc (.cells #[.int .i64 d.kind, .slice PA d.path.length pc, .int .i64 d.val.kind, .int .i64 d.val.num, .string d.val.text, .slice VA d.val.items.length vc, .slice VA' d.val.names.length vc', .int .i64 d.num] 31)).heap.size = w.heap.size + 2 := by simp
  have hz3 : (((w.alloc (.cells #[.int .i64 t.kind, .int .i64 t.num, .string t.text, .slice A0 t.items.length c0, .slice A0' t.names.length c0'] 29)).alloc (.cells #[.int .i64 d.kind, .slice PA d.path.length pc, .int .i64 d.val.kind, .int .i64 d.val.num, .string d.val.text, .slice VA d.val.items.length vc, .slice VA' d.val.names.length vc', .int .i64 d.num] 31)).alloc (.cells #[.int .i64 0, .int .i64 0, .string ⟨#[]⟩, .slice none 0 0, .slice none 0 0] 29)).heap.size = w.heap.size + 3 := by simp
  have hB : Below w.heap.size w (((w.alloc (.cells #[.int .i64 t.kind, .int .i64 t.num, .string t.text, .slice A0 t.items.length c0, .slice A0' t.names.length c0'] 29)).alloc (.cells #[.int .i64 d.kind, .slice PA d.path.length pc, .int .i64 d.val.kind, .int .i64 d.val.num, .string d.val.text, .slice VA d.val.items.length vc, .slice VA' d.val.names.length vc', .int .i64 d.num] 31)).alloc (.cells #[.int .i64 0, .int .i64 0, .string ⟨#[]⟩, .slice none 0 0, .slice none 0 0] 29)) := (hb0.alloc (by omega) _).alloc (by omega) _
  have hX := ((v1.x.alloc (.cells #[.int .i64 d.kind, .slice PA d.path.length pc, .int .i64 d.val.kind, .int .i64 d.val.num, .string d.val.text, .slice VA d.val.items.length vc, .slice VA' d.val.names.length vc', .int .i64 d.num] 31)).alloc (.cells #[.int .i64 0, .int .i64 0, .string ⟨#[]⟩, .slice none 0 0, .slice none 0 0] 29))
  have hD : DBox (((w.alloc (.cells #[.int .i64 t.kind, .int .i64 t.num, .string t.text, .slice A0 t.items.length c0, .slice A0' t.names.length c0'] 29)).alloc (.cells #[.int .i64 d.kind, .slice PA d.path.length pc, .int .i64 d.val.kind, .int .i64 d.val.num, .string d.val.text, .slice VA d.val.items.length vc, .slice VA' d.val.names.length vc', .int .i64 d.num] 31)).alloc (.cells #[.int .i64 0, .int .i64 0, .string ⟨#[]⟩, .slice none 0 0, .slice none 0 0] 29)) (w.heap.size + 1) (.int .i64 d.kind) (.slice PA d.path.length pc) (.int .i64 d.val.kind) (.int .i64 d.val.num) (.string d.val.text) (.slice VA d.val.items.length vc) (.slice VA' d.val.names.length vc') (.int .i64 d.num) := by
    have h := DBox.new (w.alloc (.cells #[.int .i64 t.kind, .int .i64 t.num, .string t.text, .slice A0 t.items.length c0, .slice A0' t.names.length c0'] 29)) (.int .i64 d.kind) (.slice PA d.path.length pc) (.int .i64 d.val.kind) (.int .i64 d.val.num) (.string d.val.text) (.slice VA d.val.items.length vc) (.slice VA' d.val.names.length vc') (.int .i64 d.num)
    rw [hz1] at h
    exact h.alloc _
  have hR : Box (((w.alloc (.cells #[.int .i64 t.kind, .int .i64 t.num, .string t.text, .slice A0 t.items.length c0, .slice A0' t.names.length c0'] 29)).alloc (.cells #[.int .i64 d.kind, .slice PA d.path.length pc, .int .i64 d.val.kind, .int .i64 d.val.num, .string d.val.text, .slice VA d.val.items.length vc, .slice VA' d.val.names.length vc', .int .i64 d.num] 31)).alloc (.cells #[.int .i64 0, .int .i64 0, .string ⟨#[]⟩, .slice none 0 0, .slice none 0 0] 29)) (w.heap.size + 2) (.int .i64 0) (.int .i64 0) (.string ⟨#[]⟩) (.slice none 0 0) (.slice none 0 0) := by
    have h := Box.new (w := (w.alloc (.cells #[.int .i64 t.kind, .int .i64 t.num, .string t.text, .slice A0 t.items.length c0, .slice A0' t.names.length c0'] 29)).alloc (.cells #[.int .i64 d.kind, .slice PA d.path.length pc, .int .i64 d.val.kind, .int .i64 d.val.num, .string d.val.text, .slice VA d.val.items.length vc, .slice VA' d.val.names.length vc', .int .i64 d.num] 31)) (.int .i64 0) (.int .i64 0) (.string ⟨#[]⟩) (.slice none 0 0) (.slice none 0 0)
    rw [hz2] at h
    exact h
  go_enter Tryz.func58, Tryz.ntmps58
  obtain ⟨W, hW⟩ : ∃ W, W = ((w.alloc (.cells #[.int .i64 t.kind, .int .i64 t.num, .string t.text, .slice A0 t.items.length c0, .slice A0' t.names.length c0'] 29)).alloc (.cells #[.int .i64 d.kind, .slice PA d.path.length pc, .int .i64 d.val.kind, .int .i64 d.val.num, .string d.val.text, .slice VA d.val.items.length vc, .slice VA' d.val.names.length vc', .int .i64 d.num] 31)).alloc (.cells #[.int .i64 0, .int .i64 0, .string ⟨#[]⟩, .slice none 0 0, .slice none 0 0] 29) := ⟨_, rfl⟩
  rw [← hW] at hB hX hD hR hz3
  have HCS : Hid (∀ p : mayT d.val = true, True) := hid fun _ => trivial
  have h1 := hV.keep (w' := W) fun b hb => hB.block b (hS b hb)
  have h2 := hx.keep (w' := W) fun b hb => hB.block b (hS b hb)
  have h3 := hps.keep (w' := W) fun b hb => hB.block b (hS b hb)
  have hSW : ∀ b, S b → b < W.heap.size := fun b hb => by have := hS b hb; omega
  have HC1 := hid (tset_any S t _ PA pc d.path d.val _ W hSW h1 hd hsm h3 (by omega) hpc h63 h2 hdd)
  have HC2 := hid (tdropT_any S t _ PA pc d.path W hSW h1 hd h3 (by omega) hpc h63)
  have HC3 := hid (tcutT_any d.num ⟨by have := hrn; unfold Rng at this; omega, by have := hrn; unfold Rng at this; omega⟩ S t _ PA pc d.path W hSW h1 hd h3 (by omega) hpc h63)
  have HB := hid hB
  have HR := hid hR
  have HK1 : Hid (d.kind = 1 → doD d t = (if mayT d.val = true then changeT (setFin d.val) t d.path else (20, nilT))) := hid fun e => by unfold doD; rw [if_pos e]
  have HK2 : Hid (d.kind = 2 → doD d t = changeT dropFin t d.path) := hid fun e => doD_2 e
  have HK3 : Hid (d.kind = 3 → doD d t = changeT (cutFin d.num) t d.path) := hid fun e => doD_3 e
  have q0 := hX.c0
  have q1 := hX.c1
  have q2 := hX.c2
  have q3 := hX.c3
  have q4 := hX.c4
  have z0 := hD.g0
  have z1 := hD.g1
  have z2 := hD.g2
  have z3 := hD.g3
  have z4 := hD.g4
  have z5 := hD.g5
  have z6 := hD.g6
  have z7 := hD.g7
  obtain ⟨res, hres⟩ : ∃ r, r = doD d t := ⟨_, rfl⟩
  rw [← hres] at HK1 HK2 HK3 ⊢
  clear h hV hx hps hpc hpn hrk hrn h1 h2 h3 hd hsm hm hdd v1 hb0 hz1 hz2 hB hX hD hR HCS hSW hS h63 hpl hres
  rcases hkk with hkk | hkk | ⟨hkk, -, -⟩
  · have HE := hid (HK1.out hkk)
    rw [hkk] at hW z0 ⊢
    clear hkk HK1 HK2 HK3 HC2 HC3
    go_wp2_with fail
    rw [← hW]
    clear hW
    go_wp2_with fail
    refine HC1.out.mono ?_
    rintro e w5 ⟨v', rfl, hv, hb5⟩
    obtain ⟨B, k, B', k', rfl, -⟩ := hv.shape
    have HB5 := hid (HB.out.trans (hb5.mono (show w.heap.size ≤ W.heap.size by omega)))
    have HR5 := hid (HR.out.call hb5)
    have HV5 := hid (hv.imp (S' := Iv (w.heap.size + 2 + 1) w5.heap.size) fun b hb => ⟨by have := hb.1; omega, hb.2⟩)
    have rf := fun i => HR5.out.free i
    have r0 := HR5.out.c0
    have r1 := HR5.out.c1
    have r2 := HR5.out.c2
    have r3 := HR5.out.c3
    have r4 := HR5.out.c4
    have hEE := HE.out
    clear hv hb5 HC1 HB HE HR
    rw [← hEE] at HV5 ⊢
    obtain ⟨x, u⟩ := res
    simp only at *
    have HEND := hid (change_endq (res := (x, u)) 2 HB5.out HV5.out rfl)
    have HBOX := hid (five_box (c0 := .int .i64 u.kind) (c1 := .int .i64 u.num) (c2 := .string u.text) (c3 := .slice B u.items.length k) (c4 := .slice B' u.names.length k') HR5.out)
    clear HV5 HB5 hEE q0 q1 q2 q3 q4 z0 z1 z2 z3 z4 z5 z6 z7 hz3
    go_wp2_with fail
    refine bodyPost_ret (results_cell_two rfl _ _ (w.heap.size + 2) 29 _ (0, 0) rfl HBOX.out (by kernel_rfl)) rfl ?_
    exact HEND.out
  · have HE := hid (HK2.out hkk)
    rw [hkk] at hW z0 ⊢
    clear hkk HK1 HK2 HK3 HC1 HC3
    go_wp2_with fail
    rw [← hW]
    clear hW
    go_wp2_with fail
    refine HC2.out.mono ?_
    rintro e w5 ⟨v', rfl, hv, hb5⟩
    obtain ⟨B, k, B', k', rfl, -⟩ := hv.shape
    have HB5 := hid (HB.out.trans (hb5.mono (show w.heap.size ≤ W.heap.size by omega)))
    have HR5 := hid (HR.out.call hb5)
    have HV5 := hid (hv.imp (S' := Iv (w.heap.size + 2 + 1) w5.heap.size) fun b hb => ⟨by have := hb.1; omega, hb.2⟩)
    have rf := fun i => HR5.out.free i
    have r0 := HR5.out.c0
    have r1 := HR5.out.c1
    have r2 := HR5.out.c2
    have r3 := HR5.out.c3
    have r4 := HR5.out.c4
    have hEE := HE.out
    clear hv hb5 HC2 HB HE HR
    rw [← hEE] at HV5 ⊢
    obtain ⟨x, u⟩ := res
    simp only at *
    have HEND := hid (change_endq (res := (x, u)) 2 HB5.out HV5.out rfl)
    have HBOX := hid (five_box (c0 := .int .i64 u.kind) (c1 := .int .i64 u.num) (c2 := .string u.text) (c3 := .slice B u.items.length k) (c4 := .slice B' u.names.length k') HR5.out)
    clear HV5 HB5 hEE q0 q1 q2 q3 q4 z0 z1 z2 z3 z4 z5 z6 z7 hz3
    go_wp2_with fail
    refine bodyPost_ret (results_cell_two rfl _ _ (w.heap.size + 2) 29 _ (0, 0) rfl HBOX.out (by kernel_rfl)) rfl ?_
    exact HEND.out
  · have HE := hid (HK3.out hkk)
    rw [hkk] at hW z0 ⊢
    clear hkk HK1 HK2 HK3 HC1 HC2
    go_wp2_with fail
    rw [← hW]
    clear hW
    go_wp2_with fail
    refine HC3.out.mono ?_
    rintro e w5 ⟨v', rfl, hv, hb5⟩
    obtain ⟨B, k, B', k', rfl, -⟩ := hv.shape
    have HB5 := hid (HB.out.trans (hb5.mono (show w.heap.size ≤ W.heap.size by omega)))
    have HR5 := hid (HR.out.call hb5)
    have HV5 := hid (hv.imp (S' := Iv (w.heap.size + 2 + 1) w5.heap.size) fun b hb => ⟨by have := hb.1; omega, hb.2⟩)
    have rf := fun i => HR5.out.free i
    have r0 := HR5.out.c0
    have r1 := HR5.out.c1
    have r2 := HR5.out.c2
    have r3 := HR5.out.c3
    have r4 := HR5.out.c4
    have hEE := HE.out
    clear hv hb5 HC3 HB HE HR
    rw [← hEE] at HV5 ⊢
    obtain ⟨x, u⟩ := res
    simp only at *
    have HEND := hid (change_endq (res := (x, u)) 2 HB5.out HV5.out rfl)
    have HBOX := hid (five_box (c0 := .int .i64 u.kind) (c1 := .int .i64 u.num) (c2 := .string u.text) (c3 := .slice B u.items.length k) (c4 := .slice B' u.names.length k') HR5.out)
    clear HV5 HB5 hEE q0 q1 q2 q3 q4 z0 z1 z2 z3 z4 z5 z6 z7 hz3
    go_wp2_with fail
    refine bodyPost_ret (results_cell_two rfl _ _ (w.heap.size + 2) 29 _ (0, 0) rfl HBOX.out (by kernel_rfl)) rfl ?_
    exact HEND.out
set_option maxHeartbeats 4000000 in
theorem dlcheck_w (S : Nat → Prop) (A : Option Addr) (c : Nat) (l : List DelT) (w : World) (hS : ∀ b, S b → b < w.heap.size) (h : DelsL w S A l) (hn : l.length ≤ 140737488351232) (hd : l.length ≤ 64 → SmallD l) :
    Calls Tryz.prog 13 #[.slice A l.length c] w fun e w' => e = .returned (.int .i64 (checkD l)) ∧ Below w.heap.size w w' := by
  by_cases h64 : 64 < l.length
  · have hr : checkD l = 3 := by unfold checkD; rw [if_pos h64]
    rw [hr]
    have d1 : decide ((l.length : Int) > 64) = true := decide_eq_true (by omega)
    clear h hS hd hr
    go_enter Tryz.func13, Tryz.ntmps13
    go_wp2_with fail
    go_ret
    exact ⟨rfl, Below.refl _ _⟩
  · exact dlcheck_any S A c l w hS h hn (hd (by omega))
set_option maxHeartbeats 16000000 in
theorem dlput_any (S : Nat → Prop) (A : Option Addr) (c : Nat) (ds : List DelT) (bv : Value) (l : List UInt8) (w : World) (hS : ∀ b, S b → b < w.heap.size) (h : DelsL w S A ds) (hn : ds.length ≤ 140737488351232) (hd : ds.length ≤ 64 → SmallD ds ∧ SmallZD ds) (hb : Rd w w.heap.size bv l) (hl : l.length ≤ 140737300000000) :
    Calls Tryz.prog 27 #[bv, .slice A ds.length c] w fun e w' => ∃ v', e = .returned v' ∧ OwnB w' w.heap.size v' (l ++ codeDs ds) ∧ Below w.heap.size w w' := by
  have HL := hid h
  have HRD := hid hb
  have HS := hid hS
  have HDD := hid hd
  have HLL := hid hl
  have HO0 : Hid (OwnB w w.heap.size (.slice none 0 0) []) := hid (World.ownsRow_nil _ _ _ _)
  obtain ⟨m, hm⟩ : ∃ m, m = l.length := ⟨_, rfl⟩
  obtain ⟨Ab, cb, hbv⟩ : ∃ A c, bv = .slice A l.length c := by obtain ⟨A, c, h, -⟩ := hb; exact ⟨A, c, h⟩
  subst hbv
  rw [← hm] at HRD ⊢
  have HM := hid hm
  have hz0 : w.heap.size ≤ w.heap.size := Nat.le_refl _
  have HZ0 := hid hz0
  clear h hd hS hb hl hm hz0
  go_enter Tryz.func27, Tryz.ntmps27
  go_wp2_with (at_builtin; go_must (refine wpList_append_bytes rfl _ _ rfl w.heap.size _ [] rfl HO0.out w.heap.size _ l rfl HRD.out HZ0.out (by have := HLL.out; simp; omega) ?_))
  intro v2 w2 hv2 hg2
  have HX2 : Hid (OwnB w2 w.heap.size v2 l ∧ Below w.heap.size w w2) := hid ⟨by simpa using hv2, below_own (Below.refl _ _) HO0.out HZ0.out hg2⟩
  have HC := hid (dlcheck_w S A c ds w2 (fun b hb => Nat.lt_of_lt_of_le (HS.out b hb) HX2.out.2.size) (HL.out.below HS.out HX2.out.2) hn (fun h => (HDD.out h).1))
  clear hv2 hg2 HRD HO0
  obtain ⟨A2, c2, hv2e⟩ := HX2.out.1.slice
  rw [← HM.out] at hv2e
  subst hv2e
  go_wp2_with fail
  refine HC.out.mono ?_
  rintro e w3 ⟨rfl, hb3⟩
  have HX3 : Hid (OwnB w3 w.heap.size (.slice A2 m c2) l ∧ Below w.heap.size w w3) := hid ⟨HX2.out.1.below hb3, HX2.out.2.trans (hb3.mono HX2.out.2.size)⟩
  obtain ⟨x, hx⟩ : ∃ x, x = checkD ds := ⟨_, rfl⟩
  rw [← hx]
  have HXC := hid hx
  clear hb3 hx HC HX2
  by_cases hx0 : x = 0
  · subst hx0
    have HZO := hid (checkD_zero HXC.out.symm)
    have h64 := HZO.out.1
    have HD := hid (HDD.out h64)
    have HP := hid (pputone_any w.heap.size ds.length (.slice A2 m c2) l w3 HX3.out.1 HX3.out.2.size (by omega) (by have := HLL.out; omega))
    go_wp2_with fail
    refine HP.out.mono ?_
    rintro e w4 ⟨v4, rfl, hv4, hb4, -⟩
    have h0 : Hid (OwnB w4 w.heap.size v4 (l ++ grp ds.length ++ ((ds.take 0).map codeD1).flatten) ∧ Below w.heap.size w w4) := hid ⟨by simpa using hv4, HX3.out.2.trans hb4⟩
    have HSM : Hid (∀ k, (((ds.take k).map codeD1).flatten).length ≤ 134400000) := hid fun k => by
      have h1 := codeDs_small (l := ds.take k) fun o ho => ⟨HZO.out.2 o (List.mem_of_mem_take ho), HD.out.2 o (List.mem_of_mem_take ho)⟩
      have h2 := HZO.out.1
      rw [List.length_take] at h1
      omega
    have hfin : codeDs ds = grp ds.length ++ (ds.map codeD1).flatten := by unfold codeDs; rw [if_pos HXC.out.symm]
    have HF := hid hfin
    clear hv4 hb4 hfin HP HX3
    go_wp2_with fail
    go_loopw [5, 21] (fun v0 i wr => ∃ k : Nat, i = .int .i64 k ∧ k ≤ ds.length ∧ Hid (OwnB wr w.heap.size v0 (l ++ grp ds.length ++ ((ds.take k).map codeD1).flatten) ∧ Below w.heap.size w wr)) (fun _ i _ => ds.length - (intOf i).toNat)
    case atStart => exact ⟨0, rfl, by omega, h0⟩
    case round =>
      obtain ⟨k, rfl, hk, HH⟩ := hrel
      by_cases hlt : k < ds.length
      · have d1 : decide ((k : Int) < (ds.length : Int)) = true := decide_eq_true (by omega)
        obtain ⟨p, off, PA, pc, VA, vc, VA', vc', rfl, hpS, ho, x0, x1, x2, x3, x4, x5, x6, x7⟩ := HL.out.cells k hlt
        have hp := HH.out.2.block p (HS.out p hpS)
        have z0 := (World.cell?_of_block (a := ⟨p, off + k * 8, none⟩) hp).trans x0
        have z1 := (World.cell?_of_block (a := ⟨p, off + k * 8 + 1, none⟩) hp).trans x1
        have z2 := (World.cell?_of_block (a := ⟨p, off + k * 8 + 2, none⟩) hp).trans x2
        have z3 := (World.cell?_of_block (a := ⟨p, off + k * 8 + 3, none⟩) hp).trans x3
        have z4 := (World.cell?_of_block (a := ⟨p, off + k * 8 + 4, none⟩) hp).trans x4
        have z5 := (World.cell?_of_block (a := ⟨p, off + k * 8 + 5, none⟩) hp).trans x5
        have z6 := (World.cell?_of_block (a := ⟨p, off + k * 8 + 6, none⟩) hp).trans x6
        have z7 := (World.cell?_of_block (a := ⟨p, off + k * 8 + 7, none⟩) hp).trans x7
        have HOK := hid ho
        have hmay := HZO.out.2 _ (List.getElem_mem hlt)
        obtain ⟨acc, hacc⟩ : ∃ acc, acc = l ++ grp ds.length ++ ((ds.take k).map codeD1).flatten := ⟨_, rfl⟩
        rw [← hacc] at HH
        have hal : acc.length ≤ 140737450000000 := by
          have h1 := HSM.out k
          have h2 := (grp_length ds.length).1
          have h3 := HLL.out
          rw [hacc]
          simp only [List.length_append]
          omega
        have HPO : Hid (∀ X : Obj, Calls Tryz.prog 64 #[u5, .agg #[.int .i64 ds[k].kind, .slice PA ds[k].path.length pc, .int .i64 ds[k].val.kind, .int .i64 ds[k].val.num, .string ds[k].val.text, .slice VA ds[k].val.items.length vc, .slice VA' ds[k].val.names.length vc', .int .i64 ds[k].num]] (wr.alloc X) (PutsR w.heap.size (acc ++ codeD1 ds[k]) (wr.alloc X))) := hid fun X =>
          dlputo_any S ds[k] _ w.heap.size u5 acc (wr.alloc X) HS.out (HOK.out.keep fun b hb => (HH.out.2.alloc HH.out.2.size X).block b (HS.out b hb)) hmay (HD.out.1 _ (List.getElem_mem hlt)) (HD.out.2 _ (List.getElem_mem hlt)) (mayD_names hmay) (HH.out.1.below ((Below.refl _ _).alloc (Nat.le_refl _) _)) (Nat.le_trans HH.out.2.size (by simp)) (by omega)
        have HBA : Hid (∀ X : Obj, Below w.heap.size w (wr.alloc X)) := hid fun X => HH.out.2.alloc HH.out.2.size X
        have HACC : Hid (acc ++ codeD1 ds[k] = l ++ grp ds.length ++ ((ds.take (k + 1)).map codeD1).flatten) := hid (by
          have h1 : ((ds.take (k + 1)).map codeD1).flatten = ((ds.take k).map codeD1).flatten ++ codeD1 ds[k] := by
            rw [List.take_add_one, List.getElem?_eq_getElem hlt, List.map_append, List.flatten_append]
            exact congrArg _ (List.append_nil _)
          rw [hacc, h1]
          simp only [List.append_assoc])
        clear x0 x1 x2 x3 x4 x5 x6 x7 hp hmay hacc hal ho
        go_wp2_with fail
        refine (HPO.out _).mono ?_
        rintro e w7 ⟨v7, rfl, hv7, hb7, hk7⟩
        rw [HACC.out] at hv7
        have HX7 : Hid (OwnB w7 w.heap.size v7 (l ++ grp ds.length ++ ((ds.take (k + 1)).map codeD1).flatten) ∧ Below w.heap.size w w7) := hid ⟨hv7, (HBA.out _).trans hb7⟩
        clear hv7 hb7 hk7 z0 z1 z2 z3 z4 z5 z6 z7 HPO HBA
        go_wp2_with fail
        go_roundw
        case rel => exact ⟨k + 1, by go_num, by omega, HX7⟩
        case measure => simp [intOf]; omega
      · have hke : k = ds.length := by omega
        have d1 : decide ((k : Int) < (ds.length : Int)) = false := decide_eq_false (by omega)
        have HE : Hid (OwnB wr w.heap.size u5 (l ++ codeDs ds)) := hid (by
          have h9 := HH.out.1
          rw [hke, List.take_length] at h9
          rw [HF.out]
          simpa [List.append_assoc] using h9)
        clear hke
        go_wp2_with fail
        go_ret
        exact ⟨_, rfl, HE.out, HH.out.2⟩
  · have d1 : (x != 0) = true := by simpa using hx0
    have HE : Hid (codeDs ds = []) := hid (by unfold codeDs; rw [if_neg (fun h => hx0 (HXC.out.trans h))])
    clear hx0
    go_wp2_with fail
    go_ret
    exact ⟨_, rfl, by rw [HE.out, List.append_nil]; exact HX3.out.1, HX3.out.2⟩
end Go.Proofs.YtnamdlljdgllmaaGreat

/- Changes that came in. -/
namespace Go.Proofs.YtnamdlljdgllmaaGreat
set_option linter.unusedVariables false
set_option linter.unusedSimpArgs false
open Go.ChangeShapes Go.WideShapes Go.RowKit Go.Joins Go.Deep
set_option linter.unusedVariables false
set_option maxRecDepth 100000
theorem cellsDlt : Tryz.prog.cellsOf 31 = 8 := by kernel_rfl
theorem bytesDlt : Tryz.prog.bytesOf 31 = 120 := by kernel_rfl
theorem addr_add6 (b o j : Nat) : (Addr.add ⟨b, o, none⟩ j : Addr) = ⟨b, o + j, none⟩ := by cases j <;> simp [Addr.add]
theorem fieldsDlt : ∃ f0 f1 f2 f3 : Field, Tryz.prog.underlying 31 = some (.struct #[f0, f1, f2, f3]) ∧ f0.type = 3 ∧ f1.type = 23 ∧ f2.type = 29 ∧ f3.type = 3 ∧ f0.offset = 0 ∧ f1.offset = 1 ∧ f2.offset = 2 ∧ f3.offset = 7 :=
  ⟨_, _, _, _, Tryz.underlying31, rfl, rfl, rfl, rfl, rfl, rfl, rfl, rfl⟩
def CapsD (w : World) (A : Option Addr) (l : List DelT) : Prop := ∀ k, k < l.length → ∀ b off, A = some ⟨b, off, none⟩ → ∀ PA n pc, w.cell? ⟨b, off + k * 8 + 1, none⟩ = some (.slice PA n pc) → pc ≤ 9223372036854775807
theorem CapsD.keep {w w' : World} {A : Option Addr} {l : List DelT} {S : Nat → Prop} (h : CapsD w A l) (hl : DelsL w S A l) (hk : ∀ b, S b → w'.heap[b]? = w.heap[b]?) : CapsD w' A l := fun k hkl b off hA PA n pc hc => by
  obtain ⟨b', off', hA', hb, -⟩ := hl (by omega)
  rw [hA] at hA'
  injection hA' with hA'
  injection hA' with e1 e2
  subst e1 e2
  exact h k hkl b off hA PA n pc ((World.cell?_of_block (a := ⟨b, off + k * 8 + 1, none⟩) (hk b hb)).symm.trans hc)
theorem CapsD.below {w w' : World} {A : Option Addr} {l : List DelT} {S : Nat → Prop} {B : Nat} (h : CapsD w A l) (hl : DelsL w S A l) (hS : ∀ b, S b → b < B) (hb : Below B w w') : CapsD w' A l := h.keep hl fun b hb' => hb.block b (hS b hb')
section
variable {H : Type} {enc : TypeId × Value → H} {W : World} {sp : Nat → Bool}
theorem open_names6 {fuel : Nat} {cs : List Value} {x : DataW H × List MemPlace} (h : DataW.trod enc Tryz.prog W 0 sp true fuel 23 cs = some x) (hw : ∀ n ∈ x.1.weights Tryz.prog 23, n ≤ reachBytes) :
    ∃ A c, ∃ ns : List ByteArray, cs = [.slice A ns.length c] ∧ ns.length ≤ c ∧ (A = none → c = 0) ∧ c ≤ 9223372036854775807 ∧ ns.length ≤ 8796093021952 ∧ StrsAt W (fun b => b < W.heap.size) A ns := by
  obtain ⟨A, c, ns, hcs, h1, h2, h3, h4⟩ := open_names2 h hw
  refine ⟨A, c, ns, hcs, h1, h2, ?_, h3, h4⟩
  rcases open_strings Tryz.underlying23 Tryz.underlying9 cellsStr h with ⟨h0, _⟩ | ⟨a, len, cap, ss, h0, -, hl, hm, -⟩
  · rw [hcs] at h0
    injection h0 with h0
    injection h0 with e1 e2 e3
    omega
  · rw [hcs] at h0
    injection h0 with h0
    injection h0 with e1 e2 e3
    unfold maxLen at hm
    omega
theorem open_del {fuel : Nat} {cs : List Value} {x : DataW H × List MemPlace} (h : DataW.trod enc Tryz.prog W 0 sp true fuel 31 cs = some x) (hw : ∀ n ∈ x.1.weights Tryz.prog 31, n ≤ reachBytes) :
    ∃ d : DelT, DelL W (fun b => b < W.heap.size) d cs.toArray ∧ ∀ PA n pc, cs.toArray[1]? = some (.slice PA n pc) → pc ≤ 9223372036854775807 := by
  obtain ⟨f0, f1, f2, f3, hu, t0, t1, t2, t3, o0, o1, o2, o3⟩ := fieldsDlt
  obtain ⟨xs, n, hfu, hx, hlen, hxl, hg⟩ := DataW.trod_struct hu h
  rw [cellsDlt] at hlen
  match cs, hlen with
  | [c0, c1, c2, c3, c4, c5, c6, c7], _ =>
    match xs, hxl with
    | [y0, y1, y2, y3], _ =>
      have g0 := hg 0 f0 rfl
      have g1 := hg 1 f1 rfl
      have g2 := hg 2 f2 rfl
      have g3 := hg 3 f3 rfl
      rw [t0, o0, cellsI] at g0
      rw [t1, o1, cellsStrs] at g1
      rw [t2, o2, cellsVal] at g2
      rw [t3, o3, cellsI] at g3
      have hws := hw
      rw [hx] at hws
      simp only [DataW.weights, hu, List.map_cons, List.map_nil, t0, t1, t2, t3] at hws
      obtain ⟨k, e0, -, w0⟩ := DataW.trod_int Tryz.underlying3 g0
      obtain ⟨m, e3, -, w3⟩ := DataW.trod_int Tryz.underlying3 g3
      simp at e0 e3
      subst e0 e3
      have hw1 : ∀ n ∈ y1.1.weights Tryz.prog 23, n ≤ reachBytes := fun n hn => hws n (by rw [DataW.weightsEach, DataW.weightsEach]; exact List.mem_append_right _ (List.mem_append_left _ hn))
      have hw2 : ∀ n ∈ y2.1.weights Tryz.prog 29, n ≤ reachBytes := fun n hn => hws n (by rw [DataW.weightsEach, DataW.weightsEach, DataW.weightsEach]; exact List.mem_append_right _ (List.mem_append_right _ (List.mem_append_left _ hn)))
      obtain ⟨PA, pc, ps, e1, hpc, hpo, h63, hpn, hps⟩ := open_names6 g1 hw1
      obtain ⟨t, ht⟩ := open_val _ _ _ g2 hw2
      simp at e1
      subst e1
      obtain ⟨VA, vc, VA', vc', hvs, -⟩ := ht.shape
      simp at hvs
      obtain ⟨rfl, rfl, rfl, rfl, rfl⟩ := hvs
      refine ⟨⟨k, ps, t, m⟩, ⟨PA, pc, VA, vc, VA', vc', rfl, ht, hps, hpc, hpo, in64_of_wf w0, in64_of_wf w3, hpn⟩, fun PA' n' pc' e => ?_⟩
      injection e with e
      injection e with _ _ e
      omega
theorem open_dels {fuel : Nat} {cs : List Value} {x : DataW H × List MemPlace} (h : DataW.trod enc Tryz.prog W 0 sp true fuel 22 cs = some x) (hw : ∀ n ∈ x.1.weights Tryz.prog 22, n ≤ reachBytes) :
    ∃ A c, ∃ os : List DelT, cs = [.slice A os.length c] ∧ (A = none → c = 0 ∧ os = []) ∧ os.length ≤ c ∧ os.length ≤ 1172812402961 ∧ DelsL W (fun b => b < W.heap.size) A os ∧ CapsD W A os := by
  rcases DataW.trod_slice Tryz.underlying22 h with ⟨e3, -⟩ | ⟨a, len, cap, elems, rest, m, hm, e3, x3, -, hlc, -, hel, hat, -, -⟩
  · exact ⟨none, 0, [], e3, fun _ => ⟨rfl, rfl⟩, by simp, by simp, fun h => absurd h (by simp), fun k h => absurd h (by simp)⟩
  · have hws := hw
    rw [x3] at hws
    simp only [DataW.weights, Tryz.underlying22] at hws
    have hl : len ≤ 1172812402961 := by
      have h1 := hws _ (List.mem_cons_self ..)
      rw [bytesDlt] at h1
      simp only [List.length_map, hel, reachBytes] at h1
      omega
    have hT : ∀ j, ∃ o : DelT, j < len → ∃ cs : Array Value, (∀ i v, cs[i]? = some v → W.cell? ((a.add (j * 8)).add i) = some v) ∧ DelL W (fun b => b < W.heap.size) o cs ∧ (∀ PA n pc, cs[1]? = some (.slice PA n pc) → pc ≤ 9223372036854775807) := by
      intro j
      by_cases hj : j < len
      · have h1 := hat j hj
        rw [cellsDlt, List.getElem?_eq_getElem (by omega)] at h1
        obtain ⟨cs', hc, ht⟩ := Option.bind_eq_some_iff.1 h1
        obtain ⟨-, hcl, hcat⟩ := World.cells?_some hc
        obtain ⟨o, ho, hoc⟩ := open_del ht (fun n hn => hws n (List.mem_cons_of_mem _ (List.mem_append_left _ (mem_weightsAll (List.mem_map.2 ⟨_, List.getElem_mem (by omega), rfl⟩) n hn))))
        refine ⟨o, fun _ => ⟨cs'.toArray, fun i v hv => ?_, ho, hoc⟩⟩
        have hi := (Array.getElem?_eq_some_iff.1 hv).1
        have hi' : i < cs'.length := by simpa using hi
        rw [hcat i (by omega)]
        simpa using hv
      · exact ⟨⟨0, [], .mk 0 0 ⟨#[]⟩ [] [], 0⟩, fun h => absurd h hj⟩
    obtain ⟨T, hT⟩ := Classical.skolem.1 hT
    have hlm : ((List.range len).map T).length = len := by simp
    by_cases hp0 : 0 < len
    · obtain ⟨b, off, spot⟩ := a
      obtain ⟨cs0, h0, hok0, -⟩ := hT 0 hp0
      obtain ⟨PA0, pc0, VA0, vc0, VA1, vc1, hcs0, -⟩ := hok0
      have h00 := h0 0 (.int .i64 (T 0).kind) (by rw [hcs0]; rfl)
      obtain rfl : spot = none := by simpa [Addr.add] using World.cell?_spot h00
      refine ⟨some ⟨b, off, none⟩, cap, (List.range len).map T, by rw [hlm]; exact e3, (fun h => by cases h), by omega, by omega, fun hp => ?_, fun k hk b2 off2 hA PA n pc hc => ?_⟩
      · refine ⟨b, off, rfl, ?_, fun j hj => ?_⟩
        · rw [addr_add6, addr_add6] at h00; exact World.block_lt_of_cell? W _ h00
        · rw [hlm] at hj
          obtain ⟨cs, h0, h1, -⟩ := hT j hj
          refine ⟨cs, fun i v hv => ?_, by simpa using h1⟩
          have := h0 i v hv
          rw [addr_add6, addr_add6] at this
          exact this
      · rw [hlm] at hk
        injection hA with hA
        injection hA with e1 e2
        subst e1 e2
        obtain ⟨cs, h0, h1, h2⟩ := hT k hk
        obtain ⟨PA1, pc1, VA2, vc2, VA3, vc3, hcs1, -⟩ := h1
        have h3 := h0 1 (.slice PA1 (T k).path.length pc1) (by rw [hcs1]; rfl)
        rw [addr_add6, addr_add6] at h3
        rw [h3] at hc
        injection hc with hc
        injection hc with _ _ hc
        have := h2 PA1 (T k).path.length pc1 (by rw [hcs1]; rfl)
        omega
    · have hl0 : len = 0 := by omega
      subst hl0
      exact ⟨some a, cap, [], by simpa using e3, (fun h => by cases h), by simp, by simp, fun h => absurd h (by simp), fun k h => absurd h (by simp)⟩
end
end Go.Proofs.YtnamdlljdgllmaaGreat
