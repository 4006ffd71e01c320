/- Values cleared in a row. -/
import Derived.Test.YtlddhpjokiphfaaKTrM
import Derived.Test.YtlddhpjokiphfaaKReg
import Derived.Lib.SliceRun
import Derived.Deep.RegionLaw
namespace Go.Proofs.Ytlddhpjokiphfaa
set_option linter.unusedVariables false
set_option linter.unusedSimpArgs false
open Go.RowKit
/-- 'clear' on a slice of elements of any size. -/
theorem run_clear_cells {P : Program} (w : World) (t e ty : TypeId) (z : Value) (ht : P.underlying t = some (.slice e)) (hv : ∀ w, (zeroValue e).run P w = .ok z w) (b o n c : Nat) (hn : 0 < n) (h1 : ∀ v ∈ (Builtin.zeroCells z.cells n).toList, v.oneCell' = true)
    (hc : ∀ j, j < (Builtin.zeroCells z.cells n).toList.length → (w.cell? ⟨b, o + j, none⟩).isSome = true) (hf : ∀ j, j < (Builtin.zeroCells z.cells n).toList.length → w.frozen? ⟨b, o + j, none⟩ = false) :
    (Builtin.clear_ #[t] ty #[.slice (some ⟨b, o, none⟩) n c]).run P w = .ok (.tuple #[]) (w.setCells b o (Builtin.zeroCells z.cells n).toList) := by
  have hst := run_storeCells_cells (P := P) b o (Builtin.zeroCells z.cells n).toList 0 w (by simpa only [Nat.add_zero] using hc) (by simpa only [Nat.add_zero] using hf) h1
  simp only [Nat.add_zero] at hst
  obtain ⟨m, rfl⟩ : ∃ m, n = m + 1 := ⟨n - 1, by omega⟩
  simp [Builtin.clear_, run_underlying ht, hv, hst]
/-- The zeros of n values. -/
def zeros5 (n : Nat) : List Value := (Builtin.zeroCells #[.int .i64 0, .int .i64 0, .string ⟨#[]⟩, .slice none 0 0, .slice none 0 0] n).toList
theorem zeros5_length (n : Nat) : (zeros5 n).length = n * 5 := by simp [zeros5, Builtin.zeroCells]
theorem zeros5_one (n : Nat) : ∀ v ∈ zeros5 n, v.oneCell' = true := by
  intro v hv
  simp only [zeros5, Builtin.zeroCells, Array.toList_map, List.mem_map] at hv
  obtain ⟨i, -, rfl⟩ := hv
  have h : i % 5 < 5 := Nat.mod_lt _ (by omega)
  show Value.oneCell' (#[Value.int .i64 0, .int .i64 0, .string ⟨#[]⟩, .slice none 0 0, .slice none 0 0][i % 5]!) = true
  generalize i % 5 = m at h
  match m, h with
  | 0, _ => rfl
  | 1, _ => rfl
  | 2, _ => rfl
  | 3, _ => rfl
  | 4, _ => rfl
theorem run_clear_vals (w : World) (ty : TypeId) (b o n c : Nat) (hn : 0 < n) (hc : ∀ j, j < n * 5 → (w.cell? ⟨b, o + j, none⟩).isSome = true) (hf : ∀ j, j < n * 5 → w.frozen? ⟨b, o + j, none⟩ = false) :
    (Builtin.clear_ #[22] ty #[.slice (some ⟨b, o, none⟩) n c]).run Try.prog w = .ok (.tuple #[]) (w.setCells b o (zeros5 n)) := by
  obtain ⟨i0, hi, hz, -, -⟩ := info_parts Try.infoVal
  have hv : ∀ w, (zeroValue 25).run Try.prog w = .ok (.agg #[.int .i64 0, .int .i64 0, .string ⟨#[]⟩, .slice none 0 0, .slice none 0 0]) w := fun w => by simp [zeroValue, typeInfo, hi, hz]
  have hl := zeros5_length n
  exact run_clear_cells w 22 25 ty _ Try.underlying22 hv b o n c hn (zeros5_one n) (fun j hj => hc j (by rw [← hl]; exact hj)) (fun j hj => hf j (by rw [← hl]; exact hj))
end Go.Proofs.Ytlddhpjokiphfaa

/- Items taken out of a row. -/
namespace Go.Proofs.Ytlddhpjokiphfaa
set_option linter.unusedVariables false
set_option linter.unusedSimpArgs false
open Go.RowKit
/-- Cells stored behind one another, in one block. -/
theorem setCells_block {w : World} {b : Nat} {ty : TypeId} {fz : Nat × Nat} : ∀ (vs : List Value) (o : Nat) (C : Array Value), w.heap[b]? = some (.cells C ty fz) → o + vs.length ≤ C.size →
    ∃ C', (w.setCells b o vs).heap[b]? = some (.cells C' ty fz) ∧ C'.size = C.size ∧ ∀ m, C'[m]? = if o ≤ m ∧ m < o + vs.length then vs[m - o]? else C[m]? := by
  intro vs
  induction vs generalizing w with
  | nil => exact fun o C h _ => ⟨C, h, rfl, fun m => by rw [if_neg (by simp only [List.length_nil]; omega)]⟩
  | cons v r ih =>
    intro o C h hl
    simp only [List.length_cons] at hl
    obtain ⟨C', h1, h2, h3⟩ := ih (w := w.setCell ⟨b, o, none⟩ v) (o + 1) (C.setIfInBounds o v) (Go.Joins.block_setCell (i := o) h v) (by simp; omega)
    refine ⟨C', h1, by rw [h2]; simp, fun m => ?_⟩
    rw [h3 m]
    simp only [List.length_cons]
    by_cases hm : o + 1 ≤ m ∧ m < o + 1 + r.length
    · rw [if_pos hm, if_pos (by omega)]
      obtain ⟨q, rfl⟩ : ∃ q, m = o + 1 + q := ⟨m - (o + 1), by omega⟩
      rw [show o + 1 + q - (o + 1) = q by omega, show o + 1 + q - o = q + 1 by omega]
      rfl
    · rw [if_neg hm, Array.getElem?_setIfInBounds]
      by_cases e : o = m
      · subst e
        rw [if_pos rfl, if_pos (by omega), if_pos (by omega), Nat.sub_self]
        rfl
      · rw [if_neg e, if_neg (by omega)]
set_option maxHeartbeats 4000000 in
set_option maxRecDepth 100000 in
theorem sldelV_any (b n cap i j : Nat) (C : Array Value) (w : World) (hG : w.heap[b]? = some (.cells C 25 (0, 0))) (hsz : C.size = cap * 5) (hn : n ≤ cap) (hm : cap ≤ 9223372036854775807) (hn2 : n ≤ 1759218604390) (hij : i < j) (hj : j ≤ n) (h1 : ∀ v ∈ (C.toList.drop (j * 5)).take ((n - j) * 5), v.oneCell' = true) :
    Calls Try.prog 56 #[.slice (some ⟨b, 0, none⟩) n cap, .int .i64 i, .int .i64 j] w fun e w' => e = .returned (.slice (some ⟨b, 0, none⟩) (i + (n - j)) cap) ∧ w' = (w.drew.setCells b (i * 5) ((C.toList.drop (j * 5)).take ((n - j) * 5))).setCells b ((i + (n - j)) * 5) (zeros5 (n - (i + (n - j)))) := by
  obtain ⟨i0, hi, hi0, hi1, hi2⟩ := info_parts Try.infoVal
  obtain ⟨news, hnews⟩ : ∃ news, news = (C.toList.drop (j * 5)).take ((n - j) * 5) := ⟨_, rfl⟩
  rw [← hnews]
  have hlen : news.length = (n - j) * 5 := by
    rw [hnews, List.length_take, List.length_drop, Array.length_toList, hsz]
    omega
  have HN := Lib.hid hnews
  have hne : ((i : Int) == (j : Int)) = false := beq_false_of_ne (by omega)
  clear hnews
  go_enter Try.func56, Try.ntmps56
  go_wp2_with fail
  have hic : i ≤ cap := by omega
  have hjc : j ≤ cap := by omega
  refine wp_region_OT Always (fun _ => trivial) (fun _ _ _ _ _ => trivial) [] (.free [0, 1, 2, 3, 4, 5] (.step 6 (.step 7 (.tail [])))) (by kernel_rfl) (by kernel_rfl) (fun _ d _ _ _ h => by cases d <;> exact h) ?_
  refine ot_free ?_
  simp only [atNats, List.filterMap_cons, List.filterMap_nil, List.getElem?_toArray, List.getElem?_cons_succ, List.getElem?_cons_zero]
  show wpQuiet _ _ _ _ [_, _, _, _, _, _] _
  try simp only [List.getElem_toArray, List.getElem_cons_succ, List.getElem_cons_zero, Act.put, List.setIfInBounds_toArray, List.set_cons_succ, List.set_cons_zero]
  repeat (go_big_quiet_step (fail))
  refine wpQuiet_nil ?_
  have hcell : ∀ m, m < C.size → w.drew.cell? ⟨b, m, none⟩ = C[m]? := fun m _ => Go.Joins.cell_of_block (w := w) hG m
  have hfr : ∀ m, w.drew.frozen? ⟨b, m, none⟩ = false := fun m => Go.Joins.unfrozen_of_block (w := w) hG m
  have hnew : ∀ m v, news[m]? = some v → C[j * 5 + m]? = some v ∧ m < (n - j) * 5 := by
    intro m v hv
    have hm' : m < (n - j) * 5 := by rw [← hlen]; exact (List.getElem?_eq_some_iff.1 hv).1
    rw [HN.out, List.getElem?_take_of_lt hm', List.getElem?_drop, Array.getElem?_toList] at hv
    exact ⟨hv, hm'⟩
  obtain ⟨ad, hA, hsrc⟩ : ∃ ad : Addr, (if cap = j then (some ⟨b, 0, none⟩ : Option Addr) else some ⟨b, j * 5, none⟩) = some ad ∧ ∀ m v, news[m]? = some v → w.drew.cell? (ad.add m) = some v := by
    by_cases hcj : cap = j
    · refine ⟨_, if_pos hcj, fun m v hv => ?_⟩
      have := (hnew m v hv).2
      omega
    · refine ⟨_, if_neg hcj, fun m v hv => ?_⟩
      have h2 := hnew m v hv
      rw [add_at]
      exact (hcell _ (Array.getElem?_eq_some_iff.1 h2.1).1).trans h2.1
  rw [hA]
  have hone : ∀ u ∈ news, u.oneCell' = true := fun u hu => h1 u (by rw [HN.out] at hu; exact hu)
  refine ot_step rfl (fun K hK => ?_)
  refine step_append_room rfl (.tmp 22) (.tmp 25) 22 rfl 25 i0 5 Try.underlying22 hi hi1 b 0 i cap rfl ad (n - j) (cap - j) news rfl hlen hsrc hone (by omega) (fun m hm' => ?_) ?_
  · rw [hlen] at hm'
    rw [Nat.zero_add, hcell _ (by omega), Array.getElem?_eq_getElem (by omega)]
    exact ⟨rfl, hfr _⟩
  refine hK _ _ (.inr trivial) ?_
  clear hK K
  simp only [List.getElem_toArray, List.getElem_cons_succ, List.getElem_cons_zero, Act.put, List.setIfInBounds_toArray, List.set_cons_succ, List.set_cons_zero]
  rw [Nat.zero_add]
  refine ot_step rfl (fun K hK => ?_)
  go_simp
  refine hK _ _ (.inr trivial) ?_
  clear hK K
  refine ot_end ?_
  have hcl : ∀ ty, 0 < n - (i + (n - j)) → (Builtin.clear_ #[22] ty #[.slice (some ⟨b, (i + (n - j)) * 5, none⟩) (n - (i + (n - j))) (cap - (i + (n - j)))]).run Try.prog (w.drew.setCells b (i * 5) news) = .ok (.tuple #[]) ((w.drew.setCells b (i * 5) news).setCells b ((i + (n - j)) * 5) (zeros5 (n - (i + (n - j))))) := by
    intro ty hp
    obtain ⟨C', hC', hs', -⟩ := setCells_block (w := w.drew) news (i * 5) C hG (by rw [hlen]; omega)
    refine run_clear_vals _ ty b _ _ _ hp (fun m hm' => ?_) (fun m _ => Go.Joins.unfrozen_of_block hC' _)
    rw [Go.Joins.cell_of_block hC', Array.getElem?_eq_getElem (by omega)]
    rfl
  have hcl0 := fun ty => hcl ty (by omega)
  clear hcl hcell hfr hnew hsrc hone
  obtain ⟨w1, hw1⟩ : ∃ w1, w1 = w.drew.setCells b (i * 5) news := ⟨_, rfl⟩
  rw [← hw1] at hcl0 ⊢
  have HW1 := Lib.hid hw1
  clear hw1
  go_wp2_with fail
  go_ret
  exact ⟨rfl, by rw [HW1.out]⟩
end Go.Proofs.Ytlddhpjokiphfaa

/- Names taken out of a row. -/
namespace Go.Proofs.Ytlddhpjokiphfaa
set_option linter.unusedVariables false
set_option linter.unusedSimpArgs false
open Go.RowKit
/-- The zeros of n texts. -/
def zeros1 (n : Nat) : List Value := (Builtin.zeroCells #[.string ⟨#[]⟩] n).toList
theorem zeros1_length (n : Nat) : (zeros1 n).length = n := by simp [zeros1, Builtin.zeroCells]
theorem zeros1_one (n : Nat) : ∀ v ∈ zeros1 n, v.oneCell' = true := by
  intro v hv
  simp only [zeros1, Builtin.zeroCells, Array.toList_map, List.mem_map] at hv
  obtain ⟨i, -, rfl⟩ := hv
  have h : i % 1 = 0 := Nat.mod_one i
  show Value.oneCell' (#[Value.string ⟨#[]⟩][i % 1]!) = true
  rw [h]
  rfl
theorem run_clear_strs (w : World) (ty : TypeId) (b o n c : Nat) (hn : 0 < n) (hc : ∀ j, j < n → (w.cell? ⟨b, o + j, none⟩).isSome = true) (hf : ∀ j, j < n → w.frozen? ⟨b, o + j, none⟩ = false) :
    (Builtin.clear_ #[23] ty #[.slice (some ⟨b, o, none⟩) n c]).run Try.prog w = .ok (.tuple #[]) (w.setCells b o (zeros1 n)) := by
  obtain ⟨i0, hi, hz, -, -⟩ := info_parts Try.infoStr
  have hv : ∀ w, (zeroValue 9).run Try.prog w = .ok (.string ⟨#[]⟩) w := fun w => by simp [zeroValue, typeInfo, hi, hz]
  have hl := zeros1_length n
  exact run_clear_cells w 23 9 ty _ Try.underlying23 hv b o n c hn (zeros1_one n) (fun j hj => hc j (by rw [← hl]; exact hj)) (fun j hj => hf j (by rw [← hl]; exact hj))
set_option maxHeartbeats 4000000 in
set_option maxRecDepth 100000 in
theorem sldelS_any (b n cap i j : Nat) (C : Array Value) (w : World) (hG : w.heap[b]? = some (.cells C 9 (0, 0))) (hsz : C.size = cap) (hn : n ≤ cap) (hm : cap ≤ 9223372036854775807) (hn2 : n ≤ 8796093021952) (hij : i < j) (hj : j ≤ n) (h1 : ∀ v ∈ (C.toList.drop j).take (n - j), v.oneCell' = true) :
    Calls Try.prog 55 #[.slice (some ⟨b, 0, none⟩) n cap, .int .i64 i, .int .i64 j] w fun e w' => e = .returned (.slice (some ⟨b, 0, none⟩) (i + (n - j)) cap) ∧ w' = (w.drew.setCells b i ((C.toList.drop j).take (n - j))).setCells b (i + (n - j)) (zeros1 (n - (i + (n - j)))) := by
  obtain ⟨i0, hi, hi0, hi1, hi2⟩ := info_parts Try.infoStr
  obtain ⟨news, hnews⟩ : ∃ news, news = (C.toList.drop j).take (n - j) := ⟨_, rfl⟩
  rw [← hnews]
  have hlen : news.length = n - j := by
    rw [hnews, List.length_take, List.length_drop, Array.length_toList, hsz]
    omega
  have HN := Lib.hid hnews
  have hne : ((i : Int) == (j : Int)) = false := beq_false_of_ne (by omega)
  clear hnews
  go_enter Try.func55, Try.ntmps55
  go_wp2_with fail
  have hic : i ≤ cap := by omega
  have hjc : j ≤ cap := by omega
  refine wp_region_OT Always (fun _ => trivial) (fun _ _ _ _ _ => trivial) [] (.free [0, 1, 2, 3, 4, 5] (.step 6 (.step 7 (.tail [])))) (by kernel_rfl) (by kernel_rfl) (fun _ d _ _ _ h => by cases d <;> exact h) ?_
  refine ot_free ?_
  simp only [atNats, List.filterMap_cons, List.filterMap_nil, List.getElem?_toArray, List.getElem?_cons_succ, List.getElem?_cons_zero]
  show wpQuiet _ _ _ _ [_, _, _, _, _, _] _
  try simp only [List.getElem_toArray, List.getElem_cons_succ, List.getElem_cons_zero, Act.put, List.setIfInBounds_toArray, List.set_cons_succ, List.set_cons_zero]
  repeat (go_big_quiet_step (fail))
  refine wpQuiet_nil ?_
  have hcell : ∀ m, m < C.size → w.drew.cell? ⟨b, m, none⟩ = C[m]? := fun m _ => Go.Joins.cell_of_block (w := w) hG m
  have hfr : ∀ m, w.drew.frozen? ⟨b, m, none⟩ = false := fun m => Go.Joins.unfrozen_of_block (w := w) hG m
  have hnew : ∀ m v, news[m]? = some v → C[j + m]? = some v ∧ m < n - j := by
    intro m v hv
    have hm' : m < n - j := by rw [← hlen]; exact (List.getElem?_eq_some_iff.1 hv).1
    rw [HN.out, List.getElem?_take_of_lt hm', List.getElem?_drop, Array.getElem?_toList] at hv
    exact ⟨hv, hm'⟩
  obtain ⟨ad, hA, hsrc⟩ : ∃ ad : Addr, (if cap = j then (some ⟨b, 0, none⟩ : Option Addr) else some ⟨b, j, none⟩) = some ad ∧ ∀ m v, news[m]? = some v → w.drew.cell? (ad.add m) = some v := by
    by_cases hcj : cap = j
    · refine ⟨_, if_pos hcj, fun m v hv => ?_⟩
      have := (hnew m v hv).2
      omega
    · refine ⟨_, if_neg hcj, fun m v hv => ?_⟩
      have h2 := hnew m v hv
      rw [add_at]
      exact (hcell _ (Array.getElem?_eq_some_iff.1 h2.1).1).trans h2.1
  rw [hA]
  have hone : ∀ u ∈ news, u.oneCell' = true := fun u hu => h1 u (by rw [HN.out] at hu; exact hu)
  refine ot_step rfl (fun K hK => ?_)
  refine step_append_room rfl (.tmp 22) (.tmp 25) 23 rfl 9 i0 1 Try.underlying23 hi hi1 b 0 i cap rfl ad (n - j) (cap - j) news rfl (by rw [hlen]; omega) hsrc hone (by omega) (fun m hm' => ?_) ?_
  · rw [hlen] at hm'
    rw [Nat.zero_add, hcell _ (by omega), Array.getElem?_eq_getElem (by omega)]
    exact ⟨rfl, hfr _⟩
  refine hK _ _ (.inr trivial) ?_
  clear hK K
  simp only [List.getElem_toArray, List.getElem_cons_succ, List.getElem_cons_zero, Act.put, List.setIfInBounds_toArray, List.set_cons_succ, List.set_cons_zero]
  rw [Nat.zero_add, Nat.mul_one]
  refine ot_step rfl (fun K hK => ?_)
  go_simp
  refine hK _ _ (.inr trivial) ?_
  clear hK K
  refine ot_end ?_
  have hcl : ∀ ty, 0 < n - (i + (n - j)) → (Builtin.clear_ #[23] ty #[.slice (some ⟨b, i + (n - j), none⟩) (n - (i + (n - j))) (cap - (i + (n - j)))]).run Try.prog (w.drew.setCells b i news) = .ok (.tuple #[]) ((w.drew.setCells b i news).setCells b (i + (n - j)) (zeros1 (n - (i + (n - j))))) := by
    intro ty hp
    obtain ⟨C', hC', hs', -⟩ := setCells_block (w := w.drew) news i C hG (by rw [hlen]; omega)
    refine run_clear_strs _ ty b _ _ _ hp (fun m hm' => ?_) (fun m _ => Go.Joins.unfrozen_of_block hC' _)
    rw [Go.Joins.cell_of_block hC', Array.getElem?_eq_getElem (by omega)]
    rfl
  have hcl0 := fun ty => hcl ty (by omega)
  clear hcl hcell hfr hnew hsrc hone
  obtain ⟨w1, hw1⟩ : ∃ w1, w1 = w.drew.setCells b i news := ⟨_, rfl⟩
  rw [← hw1] at hcl0 ⊢
  have HW1 := Lib.hid hw1
  clear hw1
  go_wp2_with fail
  go_ret
  exact ⟨rfl, by rw [HW1.out]⟩
end Go.Proofs.Ytlddhpjokiphfaa

/- Rows behind a Delete: plain. -/
namespace Go.Proofs.Ytlddhpjokiphfaa
set_option linter.unusedVariables false
set_option linter.unusedSimpArgs false
open Go.RowKit
theorem setCells_rest {b : Nat} : ∀ (vs : List Value) (o : Nat) (w : World), (∀ x, x ≠ b → (w.setCells b o vs).heap[x]? = w.heap[x]?) ∧ (w.setCells b o vs).heap.size = w.heap.size ∧ (w.setCells b o vs).os = w.os ∧ (w.setCells b o vs).tape = w.tape ∧ (w.setCells b o vs).output = w.output
  | [], o, w => ⟨fun _ _ => rfl, rfl, rfl, rfl, rfl⟩
  | v :: r, o, w => by
    obtain ⟨h1, h2, h3, h4, h5⟩ := setCells_rest r (o + 1) (w.setCell ⟨b, o, none⟩ v)
    refine ⟨fun x hx => (h1 x hx).trans (heap_setCell_other _ ⟨b, o, none⟩ x _ hx), h2.trans (by simp), h3, h4, h5⟩
/-- A row whose block alone has been changed, so that it begins with xs. -/
def DelR (ty : TypeId) (w w' : World) (G : Nat) (sz : Nat) (xs : List Value) : Prop := ∃ C' : Array Value, w'.heap[G]? = some (.cells C' ty (0, 0)) ∧ C'.size = sz ∧ C'.toList.take xs.length = xs ∧ (∀ b, b ≠ G → w'.heap[b]? = w.heap[b]?) ∧ w'.heap.size = w.heap.size ∧ w'.os = w.os ∧ w'.tape = w.tape ∧ w'.output = w.output
theorem row_del {w : World} {G : Nat} {ty : TypeId} {C : Array Value} (h : w.heap[G]? = some (.cells C ty (0, 0))) (a z : Nat) (news zs : List Value) (hz : z = a + news.length) (hl : a + news.length + zs.length ≤ C.size) :
    DelR ty w ((w.drew.setCells G a news).setCells G z zs) G C.size (C.toList.take a ++ news) := by
  subst hz
  obtain ⟨C1, h1, s1, k1⟩ := setCells_block (w := w.drew) news a C h (by omega)
  obtain ⟨C2, h2, s2, k2⟩ := setCells_block zs (a + news.length) C1 h1 (by omega)
  obtain ⟨p1, p2, p3, p4, p5⟩ := setCells_rest (b := G) news a w.drew
  obtain ⟨q1, q2, q3, q4, q5⟩ := setCells_rest (b := G) zs (a + news.length) (w.drew.setCells G a news)
  refine ⟨C2, h2, s2.trans s1, ?_, fun b hb => (q1 b hb).trans (p1 b hb), q2.trans p2, q3.trans p3, q4.trans p4, q5.trans p5⟩
  have hta : (C.toList.take a).length = a := by rw [List.length_take, Array.length_toList]; omega
  apply List.ext_getElem?
  intro m
  rw [List.length_append, hta]
  by_cases hm : m < a + news.length
  · rw [List.getElem?_take_of_lt hm, Array.getElem?_toList, k2 m, if_neg (by omega), k1 m]
    by_cases hma : m < a
    · rw [if_neg (by omega), List.getElem?_append_left (by omega), List.getElem?_take_of_lt hma, Array.getElem?_toList]
    · rw [if_pos (by omega), List.getElem?_append_right (by omega), hta]
  · rw [List.getElem?_eq_none (by rw [List.length_take]; omega), List.getElem?_eq_none (by rw [List.length_append]; omega)]
theorem OV.one {w : World} {F : Nat → Prop} {t : VT} {c0 c1 c2 c3 c4 : Value} (h : OV w F t (.agg #[c0, c1, c2, c3, c4])) : c0.oneCell' = true ∧ c1.oneCell' = true ∧ c2.oneCell' = true ∧ c3.oneCell' = true ∧ c4.oneCell' = true := by
  obtain ⟨A, c, A', c', xs, hag, -⟩ := h.shape
  injection hag with hag; injection hag with hag
  injection hag with z0 hag; injection hag with z1 hag; injection hag with z2 hag; injection hag with z3 hag; injection hag with z4 hag
  subst z0 z1 z2 z3 z4
  exact ⟨rfl, rfl, rfl, rfl, rfl⟩
theorem OVs.one {w : World} : ∀ {l : List VT} {F : Nat → Prop} {xs : List Value}, OVs w F l xs → ∀ v ∈ xs, v.oneCell' = true
  | [], F, xs, h, v, hv => by unfold OVs at h; subst h; cases hv
  | t :: r, F, xs, h, v, hv => by
    unfold OVs at h
    obtain ⟨c0, c1, c2, c3, c4, ys, F1, F2, rfl, h1, h2, -⟩ := h
    obtain ⟨e0, e1, e2, e3, e4⟩ := h1.one
    simp only [List.mem_cons] at hv
    rcases hv with rfl | rfl | rfl | rfl | rfl | hv
    · exact e0
    · exact e1
    · exact e2
    · exact e3
    · exact e4
    · exact OVs.one h2 v hv
theorem OVs.len {w : World} : ∀ {l : List VT} {F : Nat → Prop} {xs : List Value}, OVs w F l xs → xs.length = l.length * 5
  | [], F, xs, h => by unfold OVs at h; subst h; rfl
  | t :: r, F, xs, h => by
    unfold OVs at h
    obtain ⟨c0, c1, c2, c3, c4, ys, F1, F2, rfl, h1, h2, -⟩ := h
    have := OVs.len h2
    simp only [List.length_cons]
    omega
theorem OVs.erase {w : World} : ∀ {l : List VT} {F : Nat → Prop} {xs : List Value} (j : Nat), OVs w F l xs → j < l.length → OVs w F (l.eraseIdx j) (xs.take (j * 5) ++ (xs.drop ((j + 1) * 5)))
  | [], F, xs, j, h, hj => absurd hj (by simp)
  | t :: r, F, xs, 0, h, hj => by
    unfold OVs at h
    obtain ⟨c0, c1, c2, c3, c4, ys, F1, F2, rfl, h1, h2, h3, h4, h5⟩ := h
    simp only [Nat.zero_mul, List.take_zero, List.nil_append, List.eraseIdx_zero, List.tail_cons, Nat.zero_add, Nat.one_mul, List.drop_succ_cons, List.drop_zero]
    exact h2.imp h4
  | t :: r, F, xs, j + 1, h, hj => by
    unfold OVs at h
    obtain ⟨c0, c1, c2, c3, c4, ys, F1, F2, rfl, h1, h2, h3, h4, h5⟩ := h
    have := OVs.erase j h2 (by simpa using hj)
    rw [show (j + 1) * 5 = j * 5 + 5 by omega] at this
    rw [show (j + 1) * 5 = j * 5 + 5 by omega, show (j + 1 + 1) * 5 = j * 5 + 5 + 5 by omega]
    simp only [List.eraseIdx_cons_succ, List.take_succ_cons, List.drop_succ_cons, List.cons_append]
    unfold OVs
    exact ⟨c0, c1, c2, c3, c4, _, F1, F2, rfl, h1, this, h3, h4, h5⟩
theorem OVs.front {w : World} : ∀ {l : List VT} {F : Nat → Prop} {xs : List Value} (n : Nat), OVs w F l xs → n ≤ l.length → OVs w F (l.take n) (xs.take (n * 5))
  | l, F, xs, 0, h, hn => by simp only [Nat.zero_mul, List.take_zero]; exact ovs_nil _ _
  | [], F, xs, n + 1, h, hj => absurd hj (by simp)
  | t :: r, F, xs, n + 1, h, hj => by
    unfold OVs at h
    obtain ⟨c0, c1, c2, c3, c4, ys, F1, F2, rfl, h1, h2, h3, h4, h5⟩ := h
    have := OVs.front n h2 (by simpa using hj)
    rw [show (n + 1) * 5 = n * 5 + 5 by omega]
    simp only [List.take_succ_cons]
    unfold OVs
    exact ⟨c0, c1, c2, c3, c4, _, F1, F2, rfl, h1, this, h3, h4, h5⟩
theorem map_erase (ns : List ByteArray) (j : Nat) : (ns.eraseIdx j).map Value.string = (ns.map Value.string).take j ++ (ns.map Value.string).drop (j + 1) := by
  rw [List.eraseIdx_eq_take_drop_succ, List.map_append, List.map_take, List.map_drop]
/-- An item taken out, and its name. -/
def remT : VT → Nat → VT
  | .mk k i s l ns, j => .mk k i s (l.eraseIdx j) (ns.eraseIdx j)
/-- The first n items. -/
def frontT : VT → Nat → VT
  | .mk k i s l ns, n => .mk k i s (l.take n) ns
end Go.Proofs.Ytlddhpjokiphfaa
