/- Texts cut at points, by the program and by the document. -/
import Derived.Test.YtipiplnhbecjeaaKPathM
import Derived.Outline
import Derived.StillTailTactics
import Derived.Lib.DecodeN
namespace Go.Proofs.Ytipiplnhbecjeaa
set_option linter.unusedVariables false
set_option linter.unusedSimpArgs false
set_option maxRecDepth 100000
open Go.RowKit

theorem Try.infoStrP : (Try.prog.info? 9).map (fun i => (i.zero, i.size, i.bytes)) = some (some (.string ByteArray.empty), 1, 16) := by kernel_rfl
/-- A slice of texts that the call owns, from block B on. -/
def OwnS (w : World) (B : Nat) (v : Value) (ns : List ByteArray) : Prop := w.ownsRow B 9 1 v ns.length (ns.map Value.string)
theorem OwnS.nil (w : World) (B : Nat) : OwnS w B (.slice none 0 0) [] := World.ownsRow_nil _ _ _ _
theorem OwnS.app {w : World} {B : Nat} {v : Value} {ns : List ByteArray} {s : ByteArray} (h : w.ownsRow B 9 1 v (ns.length + 1) (ns.map Value.string ++ [.string s])) : OwnS w B v (ns ++ [s]) := by
  unfold OwnS
  rw [List.length_append, List.map_append]
  exact h
theorem OwnS.opens {w : World} {B : Nat} {v : Value} {ns : List ByteArray} (h : OwnS w B v ns) (hs : ∀ s ∈ ns, s.size ≤ 140737488351232) :
    ∃ A c, v = .slice A ns.length c ∧ ns.length ≤ c ∧ StrsAt w (fun b => B ≤ b ∧ b < w.heap.size) A ns := by
  have hlt := World.ownsRow.lt h
  have hcl := fun g hg => World.ownsRow.cells (g := g) h hg
  rcases h.2 with ⟨rfl, h0⟩ | ⟨g, cap, cur, rfl, hB, hh, hc, -, -, -⟩
  · obtain rfl := List.eq_nil_of_length_eq_zero h0
    exact ⟨none, 0, rfl, Nat.le_refl _, StrsAt.nil⟩
  · refine ⟨some ⟨g, 0, none⟩, cap, rfl, hc, fun hp => ⟨g, 0, rfl, hlt g rfl, fun i hi => ⟨?_, hs _ (List.getElem_mem hi)⟩⟩⟩
    have h1 := hcl g rfl i (.string ns[i]) (by simp [hi])
    rw [add_at] at h1
    exact h1
/-- It answers a slice of its own, with the texts ns. -/
def GivesS (ns : List ByteArray) (w : World) (e : Ending) (w' : World) : Prop := ∃ v, e = .returned v ∧ OwnS w' w.heap.size v ns ∧ Below w.heap.size w w'

theorem OwnS.keep {w w' : World} {B : Nat} {v : Value} {ns : List ByteArray} (h : OwnS w B v ns) (hk : ∀ b, B ≤ b → w'.heap[b]? = w.heap[b]?) : OwnS w' B v ns := by
  refine ⟨h.1, ?_⟩
  rcases h.2 with h0 | ⟨g, cap, cur, h1, h2, h3, h4⟩
  · exact .inl h0
  · exact .inr ⟨g, cap, cur, h1, h2, (hk g h2).trans h3, h4⟩
theorem OwnS.base {w : World} {B B' : Nat} {v : Value} {ns : List ByteArray} (h : OwnS w B v ns) (hB : B' ≤ B) : OwnS w B' v ns := by
  refine ⟨h.1, ?_⟩
  rcases h.2 with h0 | ⟨g, cap, cur, h1, h2, h3, h4⟩
  · exact .inl h0
  · exact .inr ⟨g, cap, cur, h1, by omega, h3, h4⟩

theorem decode_run (s : ByteArray) (i : Nat) (hi : i < s.size) (h : 128 ≤ s[i].toNat) : i + (Utf8.decode s i).2 ≤ s.size ∧ ∀ j (hj : j < s.size), i ≤ j → j < i + (Utf8.decode s i).2 → s[j].toNat ≠ 46 := by
  have hg : ∀ k (hk : k < s.size), s.get! k = s[k] := fun k hk => by
    have := get_at s k hk
    simpa using this
  have h0 : (s.get! i).toNat = s[i].toNat := by rw [hg i hi]
  rw [Lib.decode_at]
  unfold Lib.decodeN
  rw [h0]
  have key : ∀ j (hj : j < s.size), (s.get! j).toNat = s[j].toNat := fun j hj => by rw [hg j hj]
  have k1 : ∀ (hj : i + 1 < s.size), (s.get! (i + 1)).toNat = s[i + 1].toNat := fun hj => key _ hj
  have k2 : ∀ (hj : i + 2 < s.size), (s.get! (i + 2)).toNat = s[i + 2].toNat := fun hj => key _ hj
  have k3 : ∀ (hj : i + 3 < s.size), (s.get! (i + 3)).toNat = s[i + 3].toNat := fun hj => key _ hj
  have hj0 : ∀ j (hj : j < s.size), j = i → s[j].toNat ≠ 46 := fun j hj e => by subst e; omega
  rw [if_neg (by omega)]
  split
  · next hc =>
    split
    · refine ⟨by omega, fun j hj h1 h2 => ?_⟩
      rcases (by omega : j = i ∨ j = i + 1) with rfl | rfl
      · omega
      · rw [← key _ hj]; omega
    · exact ⟨by omega, fun j hj h1 h2 => hj0 j hj (by omega)⟩
  · split
    · next hc =>
      split
      · refine ⟨by omega, fun j hj h1 h2 => ?_⟩
        rcases (by omega : j = i ∨ j = i + 1 ∨ j = i + 2) with rfl | rfl | rfl
        · omega
        · rw [← key _ hj]; omega
        · rw [← key _ hj]; omega
      · exact ⟨by omega, fun j hj h1 h2 => hj0 j hj (by omega)⟩
    · split
      · next hc =>
        split
        · refine ⟨by omega, fun j hj h1 h2 => ?_⟩
          rcases (by omega : j = i ∨ j = i + 1 ∨ j = i + 2 ∨ j = i + 3) with rfl | rfl | rfl | rfl
          · omega
          · rw [← key _ hj]; omega
          · rw [← key _ hj]; omega
          · rw [← key _ hj]; omega
        · exact ⟨by omega, fun j hj h1 h2 => hj0 j hj (by omega)⟩
      · exact ⟨by omega, fun j hj h1 h2 => hj0 j hj (by omega)⟩

/-- The iterator's block behind an append to a row that lies behind it. -/
theorem iter_app {w w1 : World} {k : Nat} {s : ByteArray} {p : Nat} {o : Obj} {row : Option Nat} (h : w.heap[k]? = some (.stringIter s p)) (hg : (w.alloc o).grownBy w1 row) (hr : ∀ g, row = some g → k + 1 ≤ g) : w1.heap[k]? = some (.stringIter s p) := by
  have hk : k < w.heap.size := (Array.getElem?_eq_some_iff.1 h).1
  have h1 := hg.block k (by simp; omega) (fun e => by have := hr k e.symm; omega)
  rw [h1]
  exact (((Below.refl w.heap.size w).alloc (Nat.le_refl _) o).block k hk).trans h
theorem take_drop_run (l : List UInt8) (b k m : Nat) (hb : b ≤ k) (hk : k ≤ m) : (l.take m).drop b = (l.take k).drop b ++ (l.drop k).take (m - k) := by
  have e : l.take m = l.take k ++ (l.drop k).take (m - k) := by
    rw [← List.take_add]; congr 1; omega
  rw [e]
  by_cases hl : k ≤ l.length
  · rw [List.drop_append_of_le_length (by simp; omega)]
  · rw [List.drop_of_length_le (by omega : l.length ≤ k)]; simp
structure SplitR (s : ByteArray) (acc : List (List UInt8)) (b k : Nat) : Prop where
  bk : b ≤ k
  len : acc.length ≤ k
  eq : splitG acc ((s.data.toList.take k).drop b) (s.data.toList.drop k) = splitL s.data.toList
theorem SplitR.dot {s : ByteArray} {acc : List (List UInt8)} {b k : Nat} (h : SplitR s acc b k) (hk : k < s.size) (hd : s[k].toNat = 46) : SplitR s (acc ++ [(s.data.toList.take k).drop b]) (k + 1) (k + 1) := by
  refine ⟨Nat.le_refl _, by have := h.len; simp; omega, ?_⟩
  rw [← h.eq, drop_cons s k hk, splitG_dot _ _ _ _ hd, List.drop_take]
  simp
theorem SplitR.run {s : ByteArray} {acc : List (List UInt8)} {b k m : Nat} (h : SplitR s acc b k) (hk : k ≤ m) (hm : m ≤ s.size) (hd : ∀ j (hj : j < s.size), k ≤ j → j < m → s[j].toNat ≠ 46) : SplitR s acc b m := by
  refine ⟨Nat.le_trans h.bk hk, Nat.le_trans h.len hk, ?_⟩
  have e : s.data.toList.drop k = (s.data.toList.drop k).take (m - k) ++ s.data.toList.drop m := by
    have h1 := (List.take_append_drop (m - k) (s.data.toList.drop k)).symm
    rw [List.drop_drop, show k + (m - k) = m by omega] at h1
    exact h1
  rw [← h.eq, e, splitG_run, ← take_drop_run _ _ _ _ h.bk hk]
  intro x hx
  obtain ⟨j, hj, rfl⟩ := List.mem_iff_getElem.1 hx
  rw [List.getElem_take, List.getElem_drop]
  have hl : s.data.toList.length = s.size := rfl
  simp at hj
  exact hd (k + j) (by omega) (by omega) (by omega)
theorem SplitR.end {s : ByteArray} {acc : List (List UInt8)} {b : Nat} (h : SplitR s acc b s.size) : splitL s.data.toList = acc ++ [s.data.toList.drop b] := by
  rw [← h.eq, List.drop_of_length_le (show s.data.toList.length ≤ s.size from Nat.le_refl _), List.take_of_length_le (show s.data.toList.length ≤ s.size from Nat.le_refl _)]
  rfl
theorem extract_of (s : ByteArray) (b k : Nat) : s.extract b k = bsOf ((s.data.toList.take k).drop b) := by
  rw [← bsOf_of (s.extract b k), Lib.extract_data, List.drop_take]
theorem below_appS {B : Nat} {w wr w1 : World} {v : Value} {l : List ByteArray} {o : Obj} (hb : Below B w wr) (hB : B ≤ w.heap.size) (hown : OwnS wr (B + 1) v l) (hg : (wr.alloc o).grownBy w1 v.ownBlock) : Below B w w1 :=
  (hb.alloc (Nat.le_trans hB hb.size) o).grown hg (by have := hb.size; simp; omega) (fun k hk => by have := (World.ownsRow.lt hown k hk).1; omega)


theorem OwnS.one (w : World) (s : ByteArray) : OwnS (w.alloc (.cells #[.string s] 9)) w.heap.size (.slice (some ⟨w.heap.size, 0, none⟩) 1 1) [s] :=
  ⟨rfl, .inr ⟨w.heap.size, 1, #[.string s], rfl, Nat.le_refl _, heap_alloc_new w _, Nat.le_refl _, by unfold maxLen; omega, rfl, rfl⟩⟩
theorem OwnS.row {w : World} {B : Nat} {v : Value} {ns : List ByteArray} (h : OwnS w B v ns) (hp : 0 < ns.length) : ∃ g cap, v = .slice (some ⟨g, 0, none⟩) ns.length cap ∧ B ≤ g := by
  rcases h.2 with ⟨-, h0⟩ | ⟨g, cap, cur, h1, h2, h3, h4⟩
  · omega
  · exact ⟨g, cap, h1, h2⟩
theorem map_set_last (acc : List (List UInt8)) (cur : List UInt8) (t : ByteArray) : (((acc ++ [cur]).map bsOf).map Value.string).set acc.length (.string t) = ((acc.map bsOf) ++ [t]).map Value.string := by
  simp only [List.map_append, List.map_cons, List.map_nil]
  rw [List.set_append_right _ _ (by simp)]
  simp
theorem append_bs (l : List UInt8) (s : ByteArray) (k : Nat) (h : k < s.size) : bsOf l ++ s.extract k (k + 1) = bsOf (l ++ [s[k]]) := by
  rw [← bsOf_of (bsOf l ++ s.extract k (k + 1))]
  congr 1
  rw [show (bsOf l ++ s.extract k (k + 1)).data.toList = (bsOf l).data.toList ++ (s.extract k (k + 1)).data.toList from by simp [ByteArray.data_append], Lib.extract_data, drop_cons s k h, bsOf_data, show k + 1 - k = 1 by omega]
  rfl

end Go.Proofs.Ytipiplnhbecjeaa
