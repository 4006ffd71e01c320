/- Statements whose order Go leaves open, walked operation by operation, by what stands between two of them: for regions where calls and new memory may come in any order. -/
import Derived.Test.YtlddhpjokiphfaaKReg
namespace Go.Proofs.Ytlddhpjokiphfaa
set_option linter.unusedVariables false
set_option linter.unusedSimpArgs false
open Go.RowKit Go.Sort
section
variable {P : Program} {ops : Array Oper} {Q : Exit → Act → World → Prop}
/-- Each operation waits for earlier ones alone. -/
def okTop (ops : Array Oper) : Bool := (List.range ops.size).all fun i => match ops[i]? with
  | none => true
  | some o => o.after.toList.all fun e => !(Region.binds .any e) || Nat.blt e.on i
theorem okTop_lt (h : okTop ops = true) {i : Nat} {o : Oper} (ho : ops[i]? = some o) : ∀ e ∈ o.after, Region.binds .any e = true → e.on < i := by
  intro e he hb
  have hi := (Array.getElem?_eq_some_iff.1 ho).1
  have := List.all_eq_true.1 h i (List.mem_range.2 hi)
  rw [ho] at this
  have h2 := List.all_eq_true.1 this e (by simpa using he)
  simpa [Nat.blt_eq, hb] using h2
def markL (L : Nat → Bool) (i : Nat) : Nat → Bool := fun j => Nat.beq j i || L j
def lOf (listed : Array Bool) : Nat → Bool := fun j => listed.getD j false
theorem lOf_set (listed : Array Bool) (i : Nat) (hi : i < listed.size) : lOf (listed.setIfInBounds i true) = markL (lOf listed) i := by
  funext j
  unfold lOf markL
  by_cases h : j = i
  · subst h
    simp [hi]
  · have h' : Nat.beq j i = false := by
      cases hb : Nat.beq j i with
      | false => rfl
      | true => exact absurd (Nat.eq_of_beq_eq_true hb) h
    rw [h', Bool.false_or]
    simp only [Array.getD_eq_getD_getElem?, Array.getElem?_setIfInBounds]
    rw [if_neg (fun e => h e.symm)]
theorem wpAny_inv (I : (Nat → Bool) → Act → World → Prop) (hB : okTop ops = true)
    (hstep : ∀ (L : Nat → Bool) (a : Act) (w : World) (i : Nat) (o : Oper), ops[i]? = some o → L i = false → (∀ e ∈ o.after, Region.binds .any e = true → L e.on = true) → I L a w → wpOp P ops Q i (fun a' w' => I (markL L i) a' w') a w)
    (hdone : ∀ (L : Nat → Bool) (a : Act) (w : World), (∀ i, i < ops.size → L i = true) → I L a w → Q .normal a w) :
    ∀ (f : Nat) (listed : Array Bool) (a : Act) (w : World), listed.size = ops.size → (ops.size ≤ f + (listed.toList.filter id).length) → I (lOf listed) a w → wpAny P .any ops Q f listed a w := by
  have hall : ∀ (listed : Array Bool), listed.size = ops.size → Region.ready .any ops listed = [] → ∀ i, i < ops.size → lOf listed i = true := by
    intro listed hs hr i
    induction i using Nat.strongRecOn with
    | ind i ih =>
      intro hi
      cases hL : lOf listed i with
      | true => rfl
      | false =>
        have hmem : i ∈ Region.ready .any ops listed := by
          refine mem_ready.2 ⟨?_, ops[i], Array.getElem?_eq_getElem hi, fun e he hb => ?_⟩
          · unfold lOf at hL
            simp only [Array.getD_eq_getD_getElem?, Array.getElem?_eq_getElem (show i < listed.size by omega)] at hL ⊢
            exact hL
          · have hlt := okTop_lt hB (Array.getElem?_eq_getElem hi) e he hb
            exact ih e.on hlt (by omega)
        rw [hr] at hmem
        cases hmem
  intro f
  induction f with
  | zero =>
    intro listed a w hs hf hI
    have hfull : ∀ i, i < listed.size → lOf listed i = true := by
      intro i hi
      have h1 : (listed.toList.filter id).length ≤ listed.toList.length := List.length_filter_le ..
      have h2 : listed.toList.length = ops.size := by rw [Array.length_toList, hs]
      have h3 : (listed.toList.filter id).length = listed.toList.length := by omega
      have h4 := (List.length_filter_eq_length_iff.1 h3) (listed[i]) (by simp)
      unfold lOf
      simp only [Array.getD_eq_getD_getElem?, Array.getElem?_eq_getElem hi]
      simpa using h4
    refine ⟨?_, hdone _ a w (fun i hi => hfull i (by omega)) hI⟩
    cases hr : Region.ready .any ops listed with
    | nil => rfl
    | cons i r =>
      obtain ⟨h1, o, ho, -⟩ := mem_ready.1 (show i ∈ Region.ready .any ops listed by rw [hr]; exact List.mem_cons_self ..)
      have hi := (Array.getElem?_eq_some_iff.1 ho).1
      have := hfull i (by omega)
      unfold lOf at this
      simp only [Array.getD_eq_getD_getElem?, Array.getElem?_eq_getElem (show i < listed.size by omega), Option.getD_some] at h1 this
      rw [h1] at this
      cases this
  | succ f ih =>
    intro listed a w hs hf hI
    refine ⟨fun hr => hdone _ a w (hall listed hs hr) hI, fun i hi => ?_⟩
    obtain ⟨h1, o, ho, hd⟩ := mem_ready.1 hi
    have hio := (Array.getElem?_eq_some_iff.1 ho).1
    have hL : lOf listed i = false := by
      unfold lOf
      simp only [Array.getD_eq_getD_getElem?, Array.getElem?_eq_getElem (show i < listed.size by omega)] at h1 ⊢
      exact h1
    refine wpOp_mono (fun a' w' h => ?_) (hstep (lOf listed) a w i o ho hL (fun e he hb => hd e he hb) hI)
    refine ih _ a' w' (by simpa using hs) ?_ (by rw [lOf_set listed i (by omega)]; exact h)
    have hcount : ((listed.setIfInBounds i true).toList.filter id).length = (listed.toList.filter id).length + 1 := by
      have hil : i < listed.toList.length := by rw [Array.length_toList]; omega
      have hget : listed.toList[i] = false := by
        unfold lOf at hL
        simp only [Array.getD_eq_getD_getElem?, Array.getElem?_eq_getElem (show i < listed.size by omega)] at hL
        simpa using hL
      rw [Array.toList_setIfInBounds]
      have key : ∀ (l : List Bool) (i : Nat) (h : i < l.length), l[i] = false → ((l.set i true).filter id).length = (l.filter id).length + 1 := by
        intro l
        induction l with
        | nil => intro i h; cases h
        | cons b l ihl =>
          intro i h hb
          cases i with
          | zero =>
            simp only [List.getElem_cons_zero] at hb
            subst hb
            simp
          | succ i =>
            simp only [List.getElem_cons_succ] at hb
            have := ihl i (by simpa using h) hb
            cases b <;> simp [List.set, this]
      exact key _ _ hil hget
    omega
/-- The walk by what stands between two operations serves every order. -/
theorem wp_region_inv (I : Act → (Nat → Bool) → Act → World → Prop) {id : Nat} {a : Act} {w : World} (hm : P.follows .mixedOrders = true) (hB : okTop ops = true) (h0 : I a (fun _ => false) a w.drew)
    (hstep : ∀ (L : Nat → Bool) (a1 : Act) (w1 : World) (i : Nat) (o : Oper), ops[i]? = some o → L i = false → (∀ e ∈ o.after, Region.binds .any e = true → L e.on = true) → I a L a1 w1 → wpOp P ops Q i (fun a' w' => I a (markL L i) a' w') a1 w1)
    (hdone : ∀ (L : Nat → Bool) (a1 : Act) (w1 : World), (∀ i, i < ops.size → L i = true) → I a L a1 w1 → Q .normal a1 w1) : (Code.region id ops true).wp P Q a w := by
  refine wp_region_any hm (wpAny_inv (I a) hB hstep hdone _ _ a w.drew (by simp) (by omega) ?_)
  have : lOf (Array.replicate ops.size false) = fun _ => false := by
    funext j
    unfold lOf
    simp only [Array.getD_eq_getD_getElem?, Array.getElem?_replicate]
    split <;> rfl
  rw [this]
  exact h0
theorem inv_step {i : Nat} {o : Oper} {K' : Act → World → Prop} {a : Act} {w : World} (ho : ops[i]? = some o)
    (h : ∀ K : Act → World → Prop, (∀ a' w', K' a' w' → K a' w') → if Region.wanted o (yielded ops a.tmps) = true then o.wp P a w K Q else K (a.put o.dst undef) w) :
    wpOp P ops Q i K' a w := by
  have h := h K' fun _ _ h => h
  unfold wpOp
  simp only [ho]
  split
  · next hw => rw [if_pos hw] at h; exact .inl h
  · next hw => rw [if_neg hw] at h; exact h
end
end Go.Proofs.Ytlddhpjokiphfaa
