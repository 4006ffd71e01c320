/- An update's code is read back: plain. -/
import Derived.Test.YtipiplnhbecjeaaGreatKSpRe
import Derived.Test.YtipiplnhbecjeaaGreatKSpX
import Derived.Test.YtipiplnhbecjeaaGreatKCodM
namespace Go.Proofs.YtipiplnhbecjeaaGreat
set_option linter.unusedVariables false
set_option linter.unusedSimpArgs false
set_option maxRecDepth 100000
theorem txt_read {s : ByteArray} (r : List UInt8) (h : s.size ≤ 32) : rdText 32 (some (txt s ++ r)) = (s.data.toList, some r) := rdText_code (m := 32) r h (by omega)
theorem rdK_txts : ∀ (p : List ByteArray) (r : List UInt8), (∀ s ∈ p, s.size ≤ 32) → ∀ k, k ≤ p.length → rdK (some ((p.map txt).flatten ++ r)) k = (p.take k, some (((p.drop k).map txt).flatten ++ r))
  | p, r, h, 0, _ => by simp [rdK]
  | p, r, h, k + 1, hk => by
    have ih := rdK_txts p r h k (by omega)
    unfold rdK
    rw [ih]
    have e : p.drop k = p[k]'(by omega) :: p.drop (k + 1) := List.drop_eq_getElem_cons (by omega)
    have hx : rdText 32 (some (((p.drop k).map txt).flatten ++ r)) = ((p[k]'(by omega)).data.toList, some (((p.drop (k + 1)).map txt).flatten ++ r)) := by
      rw [e, List.map_cons, List.flatten_cons, List.append_assoc]
      exact txt_read _ (h _ (List.getElem_mem (by omega)))
    simp only [hx]
    rw [List.take_succ_eq_append_getElem (by omega)]
theorem rdPath_code {p : List ByteArray} (h : mayP p = true) (r : List UInt8) : rdPathO (some (pathC p ++ r)) = (p, some r) := by
  obtain ⟨-, h8, hn⟩ := (mayP_iff p).1 h
  have h32 : ∀ s ∈ p, s.size ≤ 32 := fun s hs => ((nameB_iff s).1 (hn s hs)).2.1
  unfold rdPathO pathC
  rw [List.append_assoc, show rdCount 8 (some (grp p.length ++ ((p.map txt).flatten ++ r))) = (p.length, some ((p.map txt).flatten ++ r)) from rdCount_code (m := 8) _ h8 (by omega)]
  have := rdK_txts p r h32 p.length (Nat.le_refl _)
  simp only [this]
  simp
theorem readO_code {t : VT} (hc : checkT t = 0) (hz : sizeT t ≤ 9223372036854775807) (hr : rngT t) (r : List UInt8) : readO (some (encO t ++ r)) = (t, some r) := by
  have h1 := (check_zero hz).1 hc
  have he : encO t = encT t := by unfold encO; rw [if_pos hc]
  rw [he, readO_some, readS_code ⟨h1.1, h1.2.1, h1.2.2⟩ hr r]
theorem rdOp_code {o : OpT} (h : mayO o = true) (hz : sizeT o.val ≤ 9223372036854775807) (hr : rngT o.val) (r : List UInt8) : rdOp (some (codeO o ++ r)) = (o, some r) := by
  obtain ⟨k, p, v, t⟩ := o
  unfold mayO at h
  rw [Bool.and_eq_true] at h
  obtain ⟨hp, h2⟩ := h
  have hk : 1 ≤ k ∧ k ≤ 8 := by
    simp only at h2
    split at h2
    · omega
    split at h2
    · omega
    split at h2
    · omega
    split at h2
    · omega
    · cases h2
  obtain ⟨n, rfl⟩ : ∃ n : Nat, k = (n : Int) := ⟨k.toNat, by omega⟩
  have hn : n ≤ 8 := by omega
  have hb : ∀ x, rdByte (some ([UInt8.ofNat (n : Int).toNat] ++ x)) = (n, some x) := fun x => by
    show ((UInt8.ofNat (n : Int).toNat).toNat, some x) = _
    rw [Int.toNat_natCast, UInt8.toNat_ofNat', Nat.mod_eq_of_lt (by omega)]
  unfold rdOp codeO
  simp only at *
  have e : ∀ y, [UInt8.ofNat (n : Int).toNat] ++ pathC p ++ y ++ r = [UInt8.ofNat (n : Int).toNat] ++ (pathC p ++ (y ++ r)) := fun y => by simp
  rw [e, hb]
  simp only
  by_cases k2 : n = 2
  · subst k2
    rw [if_neg (by omega), if_neg (by omega), if_pos (by omega)] at h2
    simp only [Bool.and_eq_true, decide_eq_true_eq] at h2
    have hv := (noneT_iff v).1 h2.1
    have ht : t = [] := List.eq_nil_of_length_eq_zero h2.2
    rw [if_pos rfl, if_pos (by omega), List.nil_append, rdPath_code hp]
    rw [hv, ht]
    rfl
  by_cases k6 : n = 6
  · subst k6
    rw [if_neg (by omega), if_neg (by omega), if_neg (by omega), if_pos (by omega), Bool.and_eq_true] at h2
    have hv := (noneT_iff v).1 h2.1
    rw [if_neg (by omega), if_pos rfl, if_neg (by omega), if_pos (by omega), rdPath_code hp]
    simp only
    rw [rdPath_code h2.2]
    rw [hv]
    rfl
  · have hc : checkT v = 0 ∧ t.length = 0 := by
      by_cases k3 : n = 3
      · rw [if_pos (by omega)] at h2
        simp only [Bool.and_eq_true, decide_eq_true_eq] at h2
        exact ⟨h2.1.2, h2.2⟩
      · rw [if_neg (by omega), if_pos (by omega)] at h2
        simp only [Bool.and_eq_true, decide_eq_true_eq] at h2
        exact h2
    have ht : t = [] := List.eq_nil_of_length_eq_zero hc.2
    rw [if_neg k2, if_neg k6, if_neg (by omega), if_neg (by omega), rdPath_code hp]
    simp only
    rw [readO_code hc.1 hz hr]
    rw [ht]
theorem rdOps_codes : ∀ (l : List OpT) (r : List UInt8), (∀ o ∈ l, mayO o = true ∧ sizeT o.val ≤ 9223372036854775807 ∧ rngT o.val) → ∀ k, k ≤ l.length → rdOpsK (some ((l.map codeO).flatten ++ r)) k = (l.take k, some (((l.drop k).map codeO).flatten ++ r))
  | l, r, h, 0, _ => by simp [rdOpsK]
  | l, r, h, k + 1, hk => by
    have ih := rdOps_codes l r h k (by omega)
    unfold rdOpsK
    rw [ih]
    have e : l.drop k = l[k]'(by omega) :: l.drop (k + 1) := List.drop_eq_getElem_cons (by omega)
    obtain ⟨h1, h2, h3⟩ := h _ (List.getElem_mem (show k < l.length by omega))
    have hx : rdOp (some (((l.drop k).map codeO).flatten ++ r)) = (l[k]'(by omega), some (((l.drop (k + 1)).map codeO).flatten ++ r)) := by
      rw [e, List.map_cons, List.flatten_cons, List.append_assoc]
      exact rdOp_code h1 h2 h3 _
    simp only [hx]
    rw [List.take_succ_eq_append_getElem (by omega)]
/-- Values of an update are such as lie in memory. -/
def RngS (s : SpecT) : Prop := rngT s.doc ∧ ∀ o ∈ s.ops, rngT o.val
theorem rdS_code {s : SpecT} (h : checkS s = 0) (hz : SmallZ s) (hr : RngS s) (r : List UInt8) : rdS (some (codeS s ++ r)) = (s, some r) := by
  have hf : formedS s = true := by
    unfold checkS at h
    by_cases hf : formedS s = true
    · exact hf
    · rw [if_neg hf] at h; omega
  have hU : rdU (some (codeS s ++ r)) = (s, some r) := by
    obtain ⟨rep, doc, ops⟩ := s
    unfold codeS
    rw [if_pos h]
    unfold formedS at hf
    cases rep with
    | true =>
      simp only [if_true, Bool.and_eq_true, decide_eq_true_eq] at hf ⊢
      have hb : rdByte (some ([1] ++ encO doc ++ r)) = (1, some (encO doc ++ r)) := rfl
      unfold rdU
      rw [hb]
      simp only
      rw [if_neg (by omega), if_pos trivial, readO_code hf.2 hz.1 hr.1]
      have ho : ops = [] := List.eq_nil_of_length_eq_zero hf.1.1
      rw [ho]
    | false =>
      simp only [Bool.false_eq_true, if_false, Bool.and_eq_true, decide_eq_true_eq, List.all_eq_true] at hf ⊢
      have hb : rdByte (some ([0] ++ grp ops.length ++ (ops.map codeO).flatten ++ r)) = (0, some (grp ops.length ++ ((ops.map codeO).flatten ++ r))) := by
        show (0, some _) = _
        simp
      unfold rdU
      rw [hb]
      simp only
      rw [if_pos trivial]
      have hc : rdOpsO (some (grp ops.length ++ ((ops.map codeO).flatten ++ r))) = (ops, some r) := by
        unfold rdOpsO
        rw [show rdCount 16 (some (grp ops.length ++ ((ops.map codeO).flatten ++ r))) = (ops.length, some ((ops.map codeO).flatten ++ r)) from rdCount_code (m := 16) _ hf.1.2 (by omega)]
        have := rdOps_codes ops r (fun o ho => ⟨hf.2 o ho, hz.2 o ho, hr.2 o ho⟩) ops.length (Nat.le_refl _)
        simp only [this]
        simp
      rw [hc]
      have hd := (noneT_iff doc).1 hf.1.1.1
      rw [hd]
      rfl
  rw [rdS_some (by rw [hU]), hU]
  simp only
  rw [if_pos h]
theorem SpecL.rng {w : Go.World} {S : Nat → Prop} {s : SpecT} {cs : Array Go.Value} (h : SpecL w S s cs) : RngS s := by
  obtain ⟨DA, dc, DA', dc', OA, oc, -, hv, ho, -, -⟩ := h
  refine ⟨rng_lv _ _ _ (Nat.le_refl _) hv, fun o hmem => ?_⟩
  obtain ⟨i, hi, rfl⟩ := List.getElem_of_mem hmem
  obtain ⟨b, off, -, -, hc⟩ := ho (by omega)
  obtain ⟨cs', -, hop⟩ := hc i hi
  obtain ⟨PA, pc, a, b2, c, d, e, TA, tc, -, hlv, -⟩ := hop
  exact rng_lv _ _ _ (Nat.le_refl _) hlv
end Go.Proofs.YtipiplnhbecjeaaGreat
