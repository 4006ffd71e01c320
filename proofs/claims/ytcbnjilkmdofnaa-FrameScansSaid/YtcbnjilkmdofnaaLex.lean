/- Statements whose order Go leaves open, walked as they stand in the text: the same rule with a check that is soon done for long ones. -/
import Derived.Test.YtcbnjilkmdofnaaReg
namespace Go.Proofs.Ytcbnjilkmdofnaa
set_option linter.unusedVariables false
set_option linter.unusedSimpArgs false
open Go.RowKit Go.Sort

/-- An operation that waits for one at i or behind it. -/
def late (md : Region.Mode) (i : Nat) (p : Oper) : Bool := p.after.toList.any fun e => Region.binds md e && Nat.ble i e.on
def lexFrom (md : Region.Mode) (ops : Array Oper) : Nat → List Oper → Bool
  | _, [] => true
  | i, o :: r => (o.after.toList.all fun e => !Region.binds md e || Nat.blt e.on i) && (r.all (late md i) || (isPure o && r.all fun p => (p.after.toList.any fun e => Region.binds md e && Nat.beq e.on i) || o.apart ops p)) && lexFrom md ops (i + 1) r

structure FirstN (listed : Array Bool) (n i : Nat) : Prop where
  sz : listed.size = n
  at_ : ∀ k, k < n → listed[k]? = some (decide (k < i))
theorem FirstN.step {listed : Array Bool} {n i : Nat} (h : FirstN listed n i) (hi : i < n) : FirstN (listed.setIfInBounds i true) n (i + 1) := by
  refine ⟨by simp [h.sz], fun k hk => ?_⟩
  by_cases hki : i = k
  · subst hki; simp [h.sz, hi]
  · rw [Array.getElem?_setIfInBounds_ne hki, h.at_ k hk]
    congr 1
    simp only [decide_eq_decide]; omega
theorem FirstN.getD {listed : Array Bool} {n i : Nat} (h : FirstN listed n i) (k : Nat) (x : Bool) : listed.getD k x = if k < n then decide (k < i) else x := by
  rw [Array.getD_eq_getD_getElem?]
  by_cases hk : k < n
  · rw [h.at_ k hk, if_pos hk]; rfl
  · rw [if_neg hk, Array.getElem?_eq_none (by rw [h.sz]; omega)]; rfl

section
variable {P : Program} {ops : Array Oper} {Q : Exit → Act → World → Prop} {md : Region.Mode} {β : World → Nat}
theorem anyG_one {i : Nat} {oi : Oper} {v : Value} (hi : ops[i]? = some oi) (f : Nat) (listed : Array Bool) (a : Act) (w : World) (hr : i ∈ Region.ready md ops listed) (ho : ∀ j ∈ Region.ready md ops listed, j = i)
    (hy : YieldsIf P ops (fun u => Below (β w) w u) oi v a) (H : anyG β P md ops Q f (listed.setIfInBounds i true) (a.put oi.dst v) w) : anyG β P md ops Q (f + 1) listed a w :=
  ⟨fun h => absurd hr (by rw [h]; exact List.not_mem_nil), fun j hj => by
    obtain rfl := ho j hj
    exact hy.wpOp hi (Below.refl _ _) ⟨Below.refl _ _, H⟩⟩

theorem anyG_of_lex (hβ : Rises β) (hsel : Region.noSelect ops = true) (hQ : ∀ c d v a w, Q (.panic c) (Act.put a d v) w → Q (.panic c) a w) :
    ∀ (r : List Oper) (i : Nat) (listed : Array Bool) (a : Act) (w : World), r = ops.toList.drop i → i ≤ ops.size → FirstN listed ops.size i → lexFrom md ops i r = true → wpMix β P ops Q r a w → anyG β P md ops Q r.length listed a w
  | [], i, listed, a, w, hr, hi, hf, hB, h => by
    have hlen : ops.size ≤ i := by
      have := congrArg List.length hr
      simp at this; omega
    refine ⟨?_, h⟩
    refine List.eq_nil_iff_forall_not_mem.2 fun j hj => ?_
    obtain ⟨h1, o, h2, -⟩ := mem_ready.1 hj
    have hjn := (Array.getElem?_eq_some_iff.1 h2).1
    rw [hf.getD, if_pos hjn] at h1
    simp at h1; omega
  | o :: r, i, listed, a, w, hr, hi, hf, hB, h => by
    have hin : i < ops.size := by
      have := congrArg List.length hr
      simp at this; omega
    have hoi : ops[i]? = some o := by
      have := congrArg (fun l => l[0]?) hr
      simp at this; exact this.symm
    have hr' : r = ops.toList.drop (i + 1) := by
      have := congrArg List.tail hr
      simpa using this
    have hat : ∀ j oj, ops[j]? = some oj → i < j → oj ∈ r := fun j oj hj hij => by
      rw [hr']
      refine List.mem_iff_getElem?.2 ⟨j - (i + 1), ?_⟩
      rw [List.getElem?_drop]
      have : i + 1 + (j - (i + 1)) = j := by omega
      rw [this]; simpa using hj
    unfold lexFrom at hB
    simp only [Bool.and_eq_true] at hB
    obtain ⟨⟨hE, hk⟩, hB'⟩ := hB
    have hrd : i ∈ Region.ready md ops listed := by
      refine mem_ready.2 ⟨by rw [hf.getD, if_pos hin]; simp, o, hoi, fun e he hb => ?_⟩
      have := List.all_eq_true.1 hE e (by simpa using he)
      rw [hb] at this
      simp at this
      have h3 : e.on < i := by simpa [Nat.blt_eq] using this
      rw [hf.getD, if_pos (by omega)]; simpa using h3
    have hun : ∀ j oj, ops[j]? = some oj → j ≠ i → listed.getD j true = false → i < j := fun j oj hj hne hu => by
      rw [hf.getD, if_pos (Array.getElem?_eq_some_iff.1 hj).1] at hu
      simp at hu; omega
    have hF := hf.step hin
    unfold wpMix at h
    simp only [Bool.or_eq_true] at hk
    rcases hk with hk | hk
    · have hone : ∀ j ∈ Region.ready md ops listed, j = i := fun j hj => by
        obtain ⟨h1, oj, h2, h3⟩ := mem_ready.1 hj
        refine Classical.byContradiction fun hne => ?_
        have hm := hat j oj h2 (hun j oj h2 hne h1)
        have hl := List.all_eq_true.1 hk oj hm
        unfold late at hl
        obtain ⟨e, he, hb⟩ := List.any_eq_true.1 hl
        simp only [Bool.and_eq_true, Nat.ble_eq] at hb
        have := h3 e (by simpa using he) hb.1
        rw [hf.getD] at this
        split at this
        · simp at this; omega
        · cases this
      by_cases hw : Region.wanted o (yielded ops a.tmps) = true
      · by_cases hp : isPure o = true
        · rw [if_pos hw, if_pos hp] at h
          obtain ⟨v, h1, h2⟩ := h
          exact anyG_one hoi _ listed a w hrd hone (yields_of_quiet hp hw h1) (anyG_of_lex hβ hsel hQ r (i + 1) _ _ w hr' (by omega) hF hB' h2)
        · rw [if_pos hw, if_neg hp] at h
          refine ⟨fun h0 => absurd hrd (by rw [h0]; exact List.not_mem_nil), fun j hj => ?_⟩
          obtain rfl := hone j hj
          unfold wpOp
          simp only [hoi]
          rw [if_pos hw]
          exact .inl (Oper.wp_mono (fun a' w' h' => ⟨h'.1, anyG_of_lex hβ hsel hQ r (j + 1) _ a' w' hr' (by omega) hF hB' h'.2⟩) h)
      · rw [if_neg hw] at h
        exact anyG_one hoi _ listed a w hrd hone (.inr ⟨by simpa using hw, rfl⟩) (anyG_of_lex hβ hsel hQ r (i + 1) _ _ w hr' (by omega) hF hB' h)
    · simp only [Bool.and_eq_true] at hk
      obtain ⟨hp, hk⟩ := hk
      have hfree : ∀ j oj, ops[j]? = some oj → j ≠ i → listed.getD j true = false → (∀ e ∈ oj.after, Region.binds md e = true → e.on ≠ i) → o.apart ops oj = true := fun j oj hj hne hu hno => by
        have hl := List.all_eq_true.1 hk oj (hat j oj hj (hun j oj hj hne hu))
        simp only [Bool.or_eq_true] at hl
        rcases hl with hl | hl
        · obtain ⟨e, he, hb⟩ := List.any_eq_true.1 hl
          simp only [Bool.and_eq_true] at hb
          exact absurd (Nat.eq_of_beq_eq_true hb.2) (hno e (by simpa using he) hb.1)
        · exact hl
      by_cases hw : Region.wanted o (yielded ops a.tmps) = true
      · rw [if_pos hw, if_pos hp] at h
        obtain ⟨v, h1, h2⟩ := h
        exact anyG_first hβ hoi hsel hQ _ listed a w hfree hrd (yields_of_quiet hp hw h1) (anyG_of_lex hβ hsel hQ r (i + 1) _ _ w hr' (by omega) hF hB' h2)
      · rw [if_neg hw] at h
        exact anyG_first hβ hoi hsel hQ _ listed a w hfree hrd (.inr ⟨by simpa using hw, rfl⟩) (anyG_of_lex hβ hsel hQ r (i + 1) _ _ w hr' (by omega) hF hB' h)

def okLex (ops : List Oper) : Bool := Region.noSelect ops.toArray && lexFrom .any ops.toArray 0 ops
theorem region_lex (hβ : Rises β) {l : List Oper} {id : Nat} {a : Act} {w : World} (hm : P.follows .mixedOrders = true) (hB : okLex l = true) (hQ : ∀ c d v a w, Q (.panic c) (Act.put a d v) w → Q (.panic c) a w)
    (h : wpMix β P l.toArray Q l a w.drew) : (Code.region id l.toArray true).wp P Q a w := by
  unfold okLex at hB
  simp only [Bool.and_eq_true] at hB
  refine wp_region_any hm (any_of_anyG (β := β) _ _ _ _ ?_)
  have := anyG_of_lex (md := .any) (ops := l.toArray) hβ hB.1 hQ l 0 (Array.replicate l.toArray.size false) a w.drew (by simp) (Nat.zero_le _) ⟨by simp, fun k hk => by simp at hk; simp [hk]⟩ hB.2 h
  simpa using this
/-- One walk, as the text stands, serves every order: nothing that is there may turn. -/
theorem wp_region_lex {l : List Oper} {id : Nat} {a : Act} {w : World} (hm : P.follows .mixedOrders = true) (hB : okLex l = true) (hQ : ∀ c d v a w, Q (.panic c) (Act.put a d v) w → Q (.panic c) a w)
    (h : wpMix (fun w => w.heap.size) P l.toArray Q l a w.drew) : (Code.region id l.toArray true).wp P Q a w := region_lex rises_size hm hB hQ h
/-- The same: nothing below block B may turn. -/
theorem wp_region_lexB (B : Nat) {l : List Oper} {id : Nat} {a : Act} {w : World} (hm : P.follows .mixedOrders = true) (hB : okLex l = true) (hQ : ∀ c d v a w, Q (.panic c) (Act.put a d v) w → Q (.panic c) a w)
    (h : wpMix (fun _ => B) P l.toArray Q l a w.drew) : (Code.region id l.toArray true).wp P Q a w := region_lex (rises_const B) hm hB hQ h
end
end Go.Proofs.Ytcbnjilkmdofnaa
