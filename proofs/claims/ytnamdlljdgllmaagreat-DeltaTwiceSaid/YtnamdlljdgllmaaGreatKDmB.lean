/- A free list, done a second time, changes nothing: plain. -/
import Derived.Test.YtnamdlljdgllmaaGreatKDmA
import Derived.Test.YtnamdlljdgllmaaGreatKDlR
import Derived.Test.YtnamdlljdgllmaaGreatKTtC
import Derived.Test.YtnamdlljdgllmaaGreatKDmD
import Derived.Test.YtnamdlljdgllmaaGreatKDlT
namespace Go.Proofs.YtnamdlljdgllmaaGreat
set_option linter.unusedVariables false
set_option linter.unusedSimpArgs false
set_option maxRecDepth 100000
theorem setT_fix {t u : VT} {k : Nat} (hk : k < t.items.length) (h : setT t k u = t) : t.items[k] = u := by
  have e := setT_items t k u
  rw [h] at e
  have e2 : t.items[k]? = (t.items.set k u)[k]? := by rw [← e]
  rw [List.getElem?_set_self hk, List.getElem?_eq_getElem hk] at e2
  injection e2
theorem getT_on {t : VT} {s : ByteArray} {r : List ByteArray} (h0 : 0 ≤ placeT t s) (hj : (placeT t s).toNat < t.items.length) : getT t (s :: r) = getT t.items[(placeT t s).toNat] r := by
  rw [getT_item, item_some h0 hj]
  rfl
theorem getT_off {t : VT} {s : ByteArray} {r : List ByteArray} (h0 : placeT t s < 0) : getT t (s :: r) = none := by
  rw [getT_item, item_neg h0]
  rfl
theorem getT_nil (t : VT) : getT t [] = some t := by unfold getT; rfl
theorem place_kind {t : VT} {s : ByteArray} (h : 0 ≤ placeT t s) (h7 : t.kind ≠ 7) : t.kind = 6 := by
  by_cases h6 : t.kind = 6
  · exact h6
  · exfalso
    have := placeT_else (s := s) h7 h6
    omega
/-- Nothing is there to be dropped, or an array's item is null. -/
def EstD (t : VT) (p : List ByteArray) : Prop := getT t p = none ∨ (getT t p = some nullT ∧ ∃ u, getT t p.dropLast = some u ∧ u.kind = 6)
theorem drop_fix : ∀ (p : List ByteArray) (t : VT), mayT t = true → p ≠ [] → ((goT dropFin t p).2 = t ↔ EstD t p)
  | [], _, _, h => absurd rfl h
  | s :: r, t, hm, _ => by
    by_cases he : placeT t s < 0 ∨ r = []
    · rw [goT_end he, dropFin_cons]
      show (if _ then _ else _) = t ↔ _
      by_cases hn : placeT t s < 0
      · rw [if_pos hn]
        exact ⟨fun _ => .inl (getT_off hn), fun _ => rfl⟩
      · have h0 : 0 ≤ placeT t s := Int.not_lt.1 hn
        obtain rfl := he.resolve_left hn
        have hj := placeT_lt (may_nl hm) h0
        rw [if_neg hn]
        by_cases h7 : t.kind = 7
        · rw [if_pos h7]
          constructor
          · intro h
            have := placeT_rem hm h7 h0
            rw [h] at this
            omega
          · rintro (h | ⟨-, u, hu, h6⟩)
            · rw [getT_on h0 hj, getT_nil] at h
              cases h
            · rw [show [s].dropLast = [] from rfl, getT_nil] at hu
              injection hu with hu
              rw [← hu] at h6
              omega
        · rw [if_neg h7]
          constructor
          · intro h
            refine .inr ⟨?_, t, getT_nil t, place_kind h0 h7⟩
            rw [getT_on h0 hj, setT_fix hj h, getT_nil]
          · rintro (h | ⟨h, -⟩)
            · rw [getT_on h0 hj, getT_nil] at h
              cases h
            · rw [getT_on h0 hj, getT_nil] at h
              injection h with h
              exact setT_self (by rw [List.getElem?_eq_getElem hj, h])
    · have h0 : 0 ≤ placeT t s := Int.not_lt.1 fun k => he (.inl k)
      have hr : r ≠ [] := fun k => he (.inr k)
      have hj := placeT_lt (may_nl hm) h0
      have ih := drop_fix r _ (may_item hm hj) hr
      rw [goT_on h0 hr hj]
      show setT _ _ _ = t ↔ _
      have e1 : EstD t (s :: r) ↔ EstD t.items[(placeT t s).toNat] r := by
        unfold EstD
        rw [getT_on h0 hj, List.dropLast_cons_of_ne_nil hr, getT_on h0 hj]
      rw [e1, ← ih]
      exact ⟨fun h => (setT_fix hj h).symm, fun h => setT_self (by rw [List.getElem?_eq_getElem hj, h])⟩
/-- What lies there, cut, is as it was. -/
def EstC (n : Int) (t : VT) (p : List ByteArray) : Prop := ∀ x, getT t p = some x → cutV x n = x
theorem cut_fix {n : Int} (hn0 : 0 ≤ n) : ∀ (p : List ByteArray) (t : VT), mayT t = true → p ≠ [] → ((goT (cutFin n) t p).2 = t ↔ EstC n t p)
  | [], _, _, h => absurd rfl h
  | s :: r, t, hm, _ => by
    by_cases he : placeT t s < 0 ∨ r = []
    · rw [goT_end he, cutFin_cons, if_neg (by omega)]
      show (if _ then _ else _) = t ↔ _
      by_cases hn : placeT t s < 0
      · rw [if_pos hn]
        exact ⟨fun _ x h => (by rw [getT_off hn] at h; cases h), fun _ => rfl⟩
      · have h0 : 0 ≤ placeT t s := Int.not_lt.1 hn
        obtain rfl := he.resolve_left hn
        have hj := placeT_lt (may_nl hm) h0
        rw [if_neg hn, List.getElem?_eq_getElem hj]
        show setT _ _ _ = t ↔ _
        constructor
        · intro h x hx
          rw [getT_on h0 hj, getT_nil] at hx
          injection hx with hx
          rw [← hx]
          exact (setT_fix hj h).symm
        · intro h
          have := h _ (by rw [getT_on h0 hj, getT_nil])
          exact setT_self (by rw [List.getElem?_eq_getElem hj, this])
    · have h0 : 0 ≤ placeT t s := Int.not_lt.1 fun k => he (.inl k)
      have hr : r ≠ [] := fun k => he (.inr k)
      have hj := placeT_lt (may_nl hm) h0
      have ih := cut_fix hn0 r _ (may_item hm hj) hr
      rw [goT_on h0 hr hj]
      show setT _ _ _ = t ↔ _
      have e1 : EstC n t (s :: r) ↔ EstC n t.items[(placeT t s).toNat] r := by
        unfold EstC
        rw [getT_on h0 hj]
      rw [e1, ← ih]
      exact ⟨fun h => (setT_fix hj h).symm, fun h => setT_self (by rw [List.getElem?_eq_getElem hj, h])⟩
/-- On the way, or elsewhere, kinds stay. -/
theorem kind_keeps {fin : VT → List ByteArray → Int × VT} (hfin : ∀ t s r s' r', mayT t = true → (placeT t s < 0 ∨ r = []) → FarP (s :: r) (s' :: r') → getT (fin t (s :: r)).2 (s' :: r') = getT t (s' :: r'))
    (hmay : ∀ t s r, mayT t = true → (placeT t s < 0 ∨ r = []) → NamesOk (s :: r) → mayT (fin t (s :: r)).2 = true ∧ (fin t (s :: r)).2.kind = t.kind) :
    ∀ (a q : List ByteArray) (t u : VT), mayT t = true → NamesOk q → ¬ q <+: a → getT t a = some u → ∃ u', getT (goT fin t q).2 a = some u' ∧ u'.kind = u.kind
  | [], q, t, u, hm, hq, _, h => by
    rw [getT_nil] at h
    injection h with h
    subst h
    exact ⟨_, getT_nil _, (goT_may hmay q t hm hq).2⟩
  | _ :: _, [], _, _, _, _, hn, _ => absurd List.nil_prefix hn
  | s :: r, s' :: r', t, u, hm, hq, hn, h => by
    by_cases e : s = s'
    · subst e
      by_cases hneg : placeT t s < 0
      · rw [getT_off hneg] at h; cases h
      have h0 : 0 ≤ placeT t s := Int.not_lt.1 hneg
      have hr : r' ≠ [] := fun k => hn (by rw [k]; exact List.cons_prefix_cons.2 ⟨rfl, List.nil_prefix⟩)
      have hj := placeT_lt (may_nl hm) h0
      rw [getT_on h0 hj] at h
      rw [goT_on h0 hr hj]
      show ∃ u', getT (setT _ _ _) (s :: r) = _ ∧ _
      rw [getT_item, item_set_at _ h0 hj]
      exact kind_keeps hfin hmay r r' _ u (may_item hm hj) (fun z hz => hq z (by simp [hz])) (fun k => hn (List.cons_prefix_cons.2 ⟨rfl, k⟩)) h
    · have hf : FarP (s' :: r') (s :: r) := ⟨hn, fun k => e (List.cons_prefix_cons.1 k).1⟩
      exact ⟨u, (goT_keeps hfin _ t _ hm hf).trans h, rfl⟩
theorem far_init {p q : List ByteArray} (h : FarP q p) : ¬ q <+: p.dropLast := fun k => h.1 (k.trans (List.dropLast_prefix p))
/-- What a change wants is so. -/
def Est (d : DelT) (t : VT) : Prop := (d.kind = 1 → getT t d.path = some d.val) ∧ (d.kind = 2 → EstD t d.path) ∧ (d.kind = 3 → EstC d.num t d.path)
theorem est_keeps {fin : VT → List ByteArray → Int × VT} (hfin : ∀ t s r s' r', mayT t = true → (placeT t s < 0 ∨ r = []) → FarP (s :: r) (s' :: r') → getT (fin t (s :: r)).2 (s' :: r') = getT t (s' :: r'))
    (hmay : ∀ t s r, mayT t = true → (placeT t s < 0 ∨ r = []) → NamesOk (s :: r) → mayT (fin t (s :: r)).2 = true ∧ (fin t (s :: r)).2.kind = t.kind) {d : DelT} {t : VT} {q : List ByteArray} (hm : mayT t = true) (hq : NamesOk q) (hf : FarP q d.path) (h : Est d t) : Est d (goT fin t q).2 := by
  have hg := goT_keeps hfin q t d.path hm hf
  refine ⟨fun e => hg.trans (h.1 e), fun e => ?_, fun e => ?_⟩
  · rcases h.2.1 e with h | ⟨h, u, hu, hk⟩
    · exact .inl (hg.trans h)
    · obtain ⟨u', h1, h2⟩ := kind_keeps hfin hmay _ q t u hm hq (far_init hf) hu
      exact .inr ⟨hg.trans h, u', h1, h2.trans hk⟩
  · intro x hx
    exact h.2.2 e x (hg.symm.trans hx)
theorem mayP_ne' {p : List ByteArray} (h : mayP p = true) : p ≠ [] := fun e => by rw [e] at h; exact absurd h (by decide)
/-- Behind a change it is so. -/
theorem est_done {d : DelT} {t R : VT} (hd : mayD d = true) (hz : sizeT d.val ≤ 9223372036854775807) (ht : mayT t = true) (h1 : d.kind = 1 → R = (goT (setFin d.val) t d.path).2 ∧ (goT (setFin d.val) t d.path).1 = 0) (h2 : d.kind = 2 → R = (goT dropFin t d.path).2) (h3 : d.kind = 3 → R = (goT (cutFin d.num) t d.path).2) : Est d R := by
  have hp := mayD_path hd
  have hne := mayP_ne' hp
  refine ⟨fun e => ?_, fun e => ?_, fun e => ?_⟩
  · obtain ⟨rfl, hc⟩ := h1 e
    exact set_get d.val d.path t hne ht hc
  · obtain rfl := h2 e
    exact (drop_fix d.path _ (goT_may drop_may d.path t ht (mayP_names hp)).1 hne).1 (drop_twice d.path t ht)
  · obtain rfl := h3 e
    have hn : 0 ≤ d.num := by rcases mayD_kind hd with k | k | ⟨-, k, -⟩ <;> omega
    exact (cut_fix hn d.path _ (goT_may (cut_may d.num) d.path t ht (mayP_names hp)).1 hne).1 (cut_twice d.num d.path t ht)
/-- Where it is so, the change changes nothing. -/
theorem est_same {d : DelT} {t : VT} (hd : mayD d = true) (hz : sizeT d.val ≤ 9223372036854775807) (ht : docB t = true) (h : Est d t) : doD d t = (0, t) := by
  have hp := mayD_path hd
  have hne := mayP_ne' hp
  have hw := wrong_ok ht hp
  have hm := (docB_iff.1 ht).1
  rcases mayD_kind hd with e | e | ⟨e, hn, -⟩
  · rw [doD_1 e (mayD_val hd hz e).1]
    have e2 := goT_same d.path t (h.1 e)
    rw [goT_zero hw (by rw [e2]), e2]
  · rw [doD_2 e, goT_zero hw (goT_code (c := fun x => x = 0) rfl drop_code d.path t), (drop_fix d.path t hm hne).2 (h.2.1 e)]
  · rw [doD_3 e, goT_zero hw (goT_code (c := fun x => x = 0) rfl (cut_code hn) d.path t), (cut_fix hn d.path t hm hne).2 (h.2.2 e)]
theorem est_step {d x : DelT} {t R : VT} {K D : Nat} (hd : mayD d = true) (hz : sizeT d.val ≤ 9223372036854775807) (hlx : lensT K d.val = true) (h : DocK K D t) (e : doD d t = (0, R)) (hf : FarP d.path x.path) (hx : Est x t) : Est x R := by
  have hm := (docB_iff.1 h.doc).1
  have hq := mayP_names (mayD_path hd)
  rcases doD_step hd hz hlx h with ⟨R', e', -, h1, h2, h3⟩ | ⟨e', -⟩
  · rw [e] at e'
    injection e' with _ e'
    subst e'
    rcases mayD_kind hd with k | k | ⟨k, -⟩
    · rw [(h1 k).1]; exact est_keeps (set_keeps d.val) (set_may d.val (mayD_val hd hz k).1) hm hq hf hx
    · rw [h2 k]; exact est_keeps drop_keeps drop_may hm hq hf hx
    · rw [h3 k]; exact est_keeps (cut_keeps d.num) (cut_may d.num) hm hq hf hx
  · rw [e] at e'
    injection e' with e' _
    cases e'
theorem est_list (x : DelT) : ∀ (l : List DelT) (t R : VT) (K D : Nat), (∀ d ∈ l, mayD d = true ∧ sizeT d.val ≤ 9223372036854775807 ∧ lensT K d.val = true) → DocK K D t → doL l t = (0, R) → (∀ d ∈ l, FarP d.path x.path) → Est x t → Est x R
  | [], t, R, _, _, _, _, e, _, hx => by injection e with _ e; subst e; exact hx
  | d :: r, t, R, K, D, hl, h, e, hf, hx => by
    obtain ⟨h1, h2, h3⟩ := hl d (by simp)
    rcases doD_step h1 h2 h3 h with ⟨R1, e1, hR, -⟩ | ⟨e1, -⟩
    · simp only [doL] at e
      rw [e1] at e
      exact est_list x r R1 R (K + 1) (D + 16) (fun y hy => ⟨(hl y (by simp [hy])).1, (hl y (by simp [hy])).2.1, lens_mono (Nat.le_succ K) _ (hl y (by simp [hy])).2.2⟩) hR e (fun y hy => hf y (by simp [hy])) (est_step h1 h2 h3 h e1 (hf d (by simp)) hx)
    · simp only [doL] at e
      rw [e1] at e
      injection e with e _
      cases e
theorem est_all : ∀ (l : List DelT) (t R : VT) (K D : Nat), (∀ d ∈ l, mayD d = true ∧ sizeT d.val ≤ 9223372036854775807 ∧ lensT K d.val = true) → l.Pairwise (fun a b => FarP b.path a.path) → DocK K D t → doL l t = (0, R) → ∀ d ∈ l, Est d R
  | [], _, _, _, _, _, _, _, _, _, h => absurd h (List.not_mem_nil)
  | d :: r, t, R, K, D, hl, hp, h, e, x, hx => by
    obtain ⟨h1, h2, h3⟩ := hl d (by simp)
    have hl' : ∀ y ∈ r, mayD y = true ∧ sizeT y.val ≤ 9223372036854775807 ∧ lensT (K + 1) y.val = true := fun y hy => ⟨(hl y (by simp [hy])).1, (hl y (by simp [hy])).2.1, lens_mono (Nat.le_succ K) _ (hl y (by simp [hy])).2.2⟩
    rcases doD_step h1 h2 h3 h with ⟨R1, e1, hR, k1, k2, k3⟩ | ⟨e1, -⟩
    · simp only [doL] at e
      rw [e1] at e
      rcases List.mem_cons.1 hx with rfl | hx
      · exact est_list x r R1 R (K + 1) (D + 16) hl' hR e (fun y hy => (List.pairwise_cons.1 hp).1 y hy) (est_done h1 h2 (docB_iff.1 h.doc).1 k1 k2 k3)
      · exact est_all r R1 R (K + 1) (D + 16) hl' (List.pairwise_cons.1 hp).2 hR e x hx
    · simp only [doL] at e
      rw [e1] at e
      injection e with e _
      cases e
theorem same_all : ∀ (l : List DelT) (R : VT), (∀ d ∈ l, mayD d = true ∧ sizeT d.val ≤ 9223372036854775807) → docB R = true → (∀ d ∈ l, Est d R) → doL l R = (0, R)
  | [], _, _, _, _ => rfl
  | d :: r, R, hl, hR, h => by
    simp only [doL]
    rw [est_same (hl d (by simp)).1 (hl d (by simp)).2 hR (h d (by simp))]
    exact same_all r R (fun y hy => hl y (by simp [hy])) hR fun y hy => h y (by simp [hy])
/-- Done a second time, a free list changes nothing. -/
theorem doL_twice {l : List DelT} {t R : VT} {K D : Nat} (hl : ∀ d ∈ l, mayD d = true ∧ sizeT d.val ≤ 9223372036854775807 ∧ lensT K d.val = true) (hf : freeD l = true) (h : DocK K D t) (e : doL l t = (0, R)) : doL l R = (0, R) := by
  have hp : l.Pairwise (fun a b => FarP b.path a.path) := by
    have h1 : confL [] (pathsD l) = false := by unfold freeD at hf; simpa using hf
    have h2 := (free_pair (pathsD l)).1 h1
    unfold pathsD at h2
    rw [List.pairwise_map] at h2
    refine h2.imp fun {a b} hab => ?_
    unfold meetP at hab
    rw [Bool.or_eq_false_iff] at hab
    exact ⟨fun k => by rw [begP_iff.2 k] at hab; exact absurd hab.1 (by simp), fun k => by rw [begP_iff.2 k] at hab; exact absurd hab.2 (by simp)⟩
  have hR : docB R = true := by
    rcases doL_doc l t K D hl h with ⟨R', e', hR, -⟩ | e'
    · rw [e] at e'; injection e' with _ e'; subst e'; exact hR
    · rw [e] at e'; injection e' with e' _; cases e'
  exact same_all l R (fun d hd => ⟨(hl d hd).1, (hl d hd).2.1⟩) hR (est_all l t R K D hl hp h e)
end Go.Proofs.YtnamdlljdgllmaaGreat

/- Lists that are not large; what Apply answers, and what it answers a second time: plain. -/
namespace Go.Proofs.YtnamdlljdgllmaaGreat
set_option linter.unusedVariables false
set_option linter.unusedSimpArgs false
set_option maxRecDepth 100000
theorem dels_small {w : Go.World} {S : Nat → Prop} {A : Option Go.Addr} {l : List DelT} (h : DelsL w S A l) (hl : largeD l = false) : l.length ≤ 64 → SmallD l ∧ SmallZD l ∧ LensD 3000 l := fun h64 => by
  have h1 : ∀ d ∈ l, depthT d.val ≤ 41 ∧ d.path.length ≤ 50 ∧ largeT d.val = false := fun d hd => (largeD_small hl).2 d (by rw [List.take_of_length_le (by omega)]; exact hd)
  refine ⟨fun d hd => by have := (h1 d hd).1; omega, fun d hd => ?_, fun d hd => lens_of (h1 d hd).2.2⟩
  obtain ⟨i, hi, rfl⟩ := List.getElem_of_mem hd
  obtain ⟨b, off, -, -, hc⟩ := h (by omega)
  obtain ⟨cs', -, hop⟩ := hc i hi
  obtain ⟨PA, pc, VA, vc, VA', vc', -, hlv, -⟩ := hop
  exact size_small hlv (h1 _ hd).2.2
theorem apply_cases {l : List DelT} {t : VT} {K D : Nat} (hsm : l.length ≤ 64 → SmallD l ∧ SmallZD l ∧ LensD K l) (hlt : lensT K t = true) (hd : depthT t ≤ D) :
    (∃ R, applyD l t = (0, R) ∧ checkD l = 0 ∧ docB t = true ∧ doL l t = (0, R) ∧ DocK (K + 64) (D + 1024) R) ∨ ((applyD l t).1 ≠ 0 ∧ (applyD l t).2 = nilT) := by
  by_cases hc : checkD l = 0
  · obtain ⟨h64, hm⟩ := checkD_zero hc
    obtain ⟨-, h2, h3⟩ := hsm h64
    by_cases hb : docB t = true
    · have e : applyD l t = doL l t := by unfold applyD; rw [if_neg (by rw [hc]; simp), if_pos hb]
      rw [e]
      rcases doL_doc l t K D (fun d hd' => ⟨hm d hd', h2 d hd', h3 d hd'⟩) ⟨hb, hlt, hd⟩ with ⟨R, e1, hR⟩ | e1
      · exact .inl ⟨R, e1, hc, hb, e1, hR.mono (by omega) (by omega)⟩
      · rw [e1]; exact .inr ⟨by decide, rfl⟩
    · have e : applyD l t = (20, nilT) := by unfold applyD; rw [if_neg (by rw [hc]; simp), if_neg hb]
      rw [e]; exact .inr ⟨by decide, rfl⟩
  · have e : applyD l t = (checkD l, nilT) := by unfold applyD; rw [if_pos hc]
    rw [e]; exact .inr ⟨hc, rfl⟩
theorem apply_twice {l : List DelT} {t R : VT} {K D : Nat} (hsm : l.length ≤ 64 → SmallD l ∧ SmallZD l ∧ LensD K l) (hlt : lensT K t = true) (hd : depthT t ≤ D) (hf : freeD l = true) (hc : checkD l = 0) (hb : docB t = true) (e : doL l t = (0, R)) (hR : docB R = true) : applyD l R = (0, R) := by
  obtain ⟨h64, hm⟩ := checkD_zero hc
  obtain ⟨-, h2, h3⟩ := hsm h64
  unfold applyD
  rw [if_neg (by rw [hc]; simp), if_pos hR]
  exact doL_twice (fun d hd' => ⟨hm d hd', h2 d hd', h3 d hd'⟩) hf ⟨hb, hlt, hd⟩ e
end Go.Proofs.YtnamdlljdgllmaaGreat
