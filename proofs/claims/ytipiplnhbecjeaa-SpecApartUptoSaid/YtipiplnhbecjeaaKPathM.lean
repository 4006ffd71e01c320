/- Texts cut at points, and put together with points between. No conditions on the program. -/
import Derived.Test.YtipiplnhbecjeaaKPathA
import Derived.Lib.Join
namespace Go.Proofs.Ytipiplnhbecjeaa
set_option linter.unusedVariables false
set_option linter.unusedSimpArgs false
open Go.RowKit

/-- What stands between points: acc is done, cur has begun. -/
def splitG (acc : List (List UInt8)) (cur : List UInt8) : List UInt8 → List (List UInt8)
  | [] => acc ++ [cur]
  | c :: r => if c.toNat = 46 then splitG (acc ++ [cur]) [] r else splitG acc (cur ++ [c]) r
def splitL (l : List UInt8) : List (List UInt8) := splitG [] [] l
def splitS (l : List UInt8) : List ByteArray := (splitL l).map bsOf
/-- Steps with points between. -/
def joinL (ns : List ByteArray) : List UInt8 := Lib.join (ns.map (·.data.toList)) [46]

theorem splitG_run : ∀ (seg r : List UInt8) (acc : List (List UInt8)) (cur : List UInt8), (∀ b ∈ seg, b.toNat ≠ 46) → splitG acc cur (seg ++ r) = splitG acc (cur ++ seg) r
  | [], r, acc, cur, _ => by simp
  | b :: seg, r, acc, cur, h => by
    rw [List.cons_append]; conv => lhs; unfold splitG
    rw [if_neg (h b (List.mem_cons_self ..)), splitG_run seg r acc _ (fun c hc => h c (List.mem_cons_of_mem _ hc))]
    simp
theorem splitG_dot (r : List UInt8) (acc : List (List UInt8)) (cur : List UInt8) (b : UInt8) (h : b.toNat = 46) : splitG acc cur (b :: r) = splitG (acc ++ [cur]) [] r := by
  conv => lhs; unfold splitG
  rw [if_pos h]
theorem join_snoc (acc : List (List UInt8)) (x y : List UInt8) : Lib.join (acc ++ [x ++ y]) [46] = Lib.join (acc ++ [x]) [46] ++ y := by
  cases acc with
  | nil => simp [Lib.join_one]
  | cons a r => rw [List.cons_append, List.cons_append, Lib.join_cons, Lib.join_cons]; simp [Lib.joinTail, List.append_assoc]
theorem join_dot (acc : List (List UInt8)) (x : List UInt8) : Lib.join (acc ++ [x] ++ [[]]) [46] = Lib.join (acc ++ [x]) [46] ++ [46] := by
  cases acc with
  | nil => rw [List.nil_append, Lib.join_one, List.singleton_append, Lib.join_cons]; simp [Lib.joinTail]
  | cons a r => rw [List.cons_append, List.cons_append, Lib.join_cons, Lib.join_cons]; simp [Lib.joinTail, List.append_assoc]
theorem join_splitG : ∀ (l : List UInt8) (acc : List (List UInt8)) (cur : List UInt8), Lib.join (splitG acc cur l) [46] = Lib.join (acc ++ [cur]) [46] ++ l
  | [], acc, cur => by simp [splitG]
  | c :: r, acc, cur => by
    unfold splitG
    split
    · next h =>
      rw [join_splitG r, join_dot, List.append_assoc]
      obtain rfl : c = 46 := UInt8.toNat_inj.1 h
      rfl
    · rw [join_splitG r, join_snoc, List.append_assoc]; rfl
theorem map_data (l : List (List UInt8)) : (l.map bsOf).map (·.data.toList) = l := by
  rw [List.map_map]; exact List.map_id' l
theorem join_split (l : List UInt8) : joinL (splitS l) = l := by
  unfold joinL splitS
  rw [map_data]; unfold splitL
  rw [join_splitG]; rw [List.nil_append, Lib.join_one]; rfl
theorem splitG_join : ∀ (r : List (List UInt8)) (acc : List (List UInt8)) (cur x : List UInt8), (∀ b ∈ x, b.toNat ≠ 46) → (∀ y ∈ r, ∀ b ∈ y, b.toNat ≠ 46) → splitG acc cur (x ++ Lib.joinTail [46] r) = acc ++ [cur ++ x] ++ r
  | [], acc, cur, x, hx, _ => by rw [splitG_run x _ acc cur hx]; simp [Lib.joinTail, splitG]
  | y :: r, acc, cur, x, hx, hr => by
    have e : Lib.joinTail [46] (y :: r) = 46 :: (y ++ Lib.joinTail [46] r) := by simp [Lib.joinTail]
    rw [splitG_run x _ acc cur hx, e, splitG_dot _ _ _ 46 rfl, splitG_join r _ [] y (hr y (List.mem_cons_self ..)) (fun z hz => hr z (List.mem_cons_of_mem _ hz))]
    simp
theorem name_nodot {s : ByteArray} (h : nameB s.data.toList = true) : ∀ b ∈ s.data.toList, b.toNat ≠ 46 := by
  intro b hb
  obtain ⟨j, hj, rfl⟩ := List.mem_iff_getElem.1 hb
  exact ((nameB_iff s).1 h).2.2.2 j hj
theorem mayP_iff (ns : List ByteArray) : mayP ns = true ↔ 1 ≤ ns.length ∧ ns.length ≤ 8 ∧ ∀ s ∈ ns, nameB s.data.toList = true := by
  unfold mayP
  simp only [Bool.and_eq_true, decide_eq_true_eq, List.all_eq_true]
  exact ⟨fun h => ⟨h.1.1, h.1.2, h.2⟩, fun h => ⟨⟨h.1, h.2.1⟩, h.2.2⟩⟩
theorem split_join {ns : List ByteArray} (h : mayP ns = true) : splitS (joinL ns) = ns := by
  obtain ⟨h1, -, h3⟩ := (mayP_iff ns).1 h
  unfold splitS joinL splitL
  match ns, h1 with
  | s :: r, _ =>
    rw [List.map_cons, Lib.join_cons, splitG_join _ [] [] _ (name_nodot (h3 s (List.mem_cons_self ..))) (fun y hy => by
      obtain ⟨t, ht, rfl⟩ := List.mem_map.1 hy
      exact name_nodot (h3 t (List.mem_cons_of_mem _ ht)))]
    simp only [List.nil_append, List.singleton_append, List.map_cons, List.map_map]
    congr 1
    exact List.map_id' r
theorem lens_le : ∀ (ns : List ByteArray), (∀ s ∈ ns, nameB s.data.toList = true) → Lib.lens (ns.map (·.data.toList)) ≤ 32 * ns.length
  | [], _ => by simp [Lib.lens]
  | s :: r, h => by
    have h1 := lens_le r (fun t ht => h t (List.mem_cons_of_mem _ ht))
    have h2 := ((nameB_iff s).1 (h s (List.mem_cons_self ..))).2.1
    have h3 : s.data.toList.length = s.size := rfl
    have e : Lib.lens ((s :: r).map (·.data.toList)) = s.data.toList.length + Lib.lens (r.map (·.data.toList)) := by simp [Lib.lens]
    rw [e, List.length_cons]; omega
theorem join_le {ns : List ByteArray} (h : mayP ns = true) : (joinL ns).length ≤ 263 := by
  obtain ⟨h1, h2, h3⟩ := (mayP_iff ns).1 h
  have h4 := lens_le ns h3
  unfold joinL
  match ns, h1 with
  | s :: r, _ =>
    rw [List.map_cons, Lib.join_length]
    rw [List.map_cons] at h4
    simp only [List.length_cons, List.length_map, List.length_nil] at *
    omega
theorem splitG_length : ∀ (l : List UInt8) (acc : List (List UInt8)) (cur : List UInt8), (splitG acc cur l).length ≤ acc.length + 1 + l.length ∧ 1 ≤ (splitG acc cur l).length
  | [], acc, cur => by simp [splitG]
  | c :: r, acc, cur => by
    unfold splitG
    split
    · have := splitG_length r (acc ++ [cur]) []
      simp at this ⊢; omega
    · have := splitG_length r acc (cur ++ [c])
      simp at this ⊢; omega
theorem splitS_length (l : List UInt8) : (splitS l).length ≤ 1 + l.length := by
  have := (splitG_length l [] []).1
  unfold splitS splitL; simp at this ⊢; omega
theorem splitG_mem : ∀ (l : List UInt8) (acc : List (List UInt8)) (cur : List UInt8) (M : Nat), (∀ x ∈ acc, x.length ≤ M) → cur.length + l.length ≤ M → ∀ x ∈ splitG acc cur l, x.length ≤ M
  | [], acc, cur, M, ha, hc, x, hx => by
    unfold splitG at hx
    rcases List.mem_append.1 hx with h | h
    · exact ha x h
    · simp at h; subst h; simp at hc; omega
  | c :: r, acc, cur, M, ha, hc, x, hx => by
    unfold splitG at hx
    simp at hc
    split at hx
    · refine splitG_mem r _ _ M (fun y hy => ?_) (by simp; omega) x hx
      rcases List.mem_append.1 hy with h | h
      · exact ha y h
      · simp at h; subst h; omega
    · exact splitG_mem r _ _ M ha (by simp; omega) x hx
theorem splitS_mem (l : List UInt8) : ∀ s ∈ splitS l, s.size ≤ l.length := by
  intro s hs
  obtain ⟨x, hx, rfl⟩ := List.mem_map.1 hs
  exact splitG_mem l [] [] l.length (by simp) (by simp) x hx
end Go.Proofs.Ytipiplnhbecjeaa
