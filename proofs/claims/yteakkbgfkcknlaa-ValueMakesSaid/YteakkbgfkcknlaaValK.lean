/- Values made, and copied. -/
import Derived.Test.YteakkbgfkcknlaaValP
import Derived.Deep.OwnRows
import Derived.Laws.AppendOwnNone
namespace Go.Proofs.Yteakkbgfkcknlaa
open Go.RowKit

theorem Try.infoStr : (Try.prog.info? 9).map (fun i => (i.zero, i.size, i.bytes)) = some (some (.string ⟨#[]⟩), 1, 16) := by kernel_rfl
theorem Try.infoVal : (Try.prog.info? 49).map (fun i => (i.zero, i.size, i.bytes)) = some (some (.agg #[.int .i64 0, .int .i64 0, .string ⟨#[]⟩, .slice none 0 0, .slice none 0 0]), 5, 80) := by kernel_rfl

theorem rng0 : Rng 0 := by unfold Rng; omega
theorem rngK {k : Int} (h1 : 0 ≤ k) (h2 : k ≤ 7) : Rng k := by unfold Rng; omega
theorem strs_nil (w : World) (S : Nat → Prop) (A : Option Addr) : StrsAt w S A [] := fun h => absurd h (by simp)
theorem lva_nil (w : World) (S : Nat → Prop) (A : Option Addr) : LVA w S A [] := fun h => absurd h (by simp)
/-- A value that holds no others. -/
theorem leaf_lv (w : World) (S : Nat → Prop) (k i : Int) (s : ByteArray) (hk : Rng k) (hi : Rng i) (hs : s.size ≤ 140737488351232) :
    LV w S (.mk k i s [] []) (.agg #[.int .i64 k, .int .i64 i, .string s, .slice none 0 0, .slice none 0 0]) := LV.mk hk hi hs (by simp) (by simp) (strs_nil _ _ _) (lva_nil _ _ _)

section
set_option maxHeartbeats 400000
variable (w : World)
theorem null_any : Calls Try.prog 54 #[] w fun e w' => e = .returned (.agg #[.int .i64 1, .int .i64 0, .string ⟨#[]⟩, .slice none 0 0, .slice none 0 0]) ∧ Below w.heap.size w w' := by
  go_enter Try.func54, Try.ntmps54
  go_wp2_with fail
  (try simp only [Exit.inBlock, Exit.then])
  refine bodyPost_ret (results_cell_row rfl _ _ w.heap.size 49 _ (0, 0) _ rfl (heap_alloc_new w _) Try.underlying49 rfl (by kernel_rfl)) rfl ?_
  exact ⟨rfl, below_box _⟩
theorem bool_any (b : Bool) : Calls Try.prog 55 #[.bool b] w fun e w' => e = .returned (.agg #[.int .i64 2, .int .i64 (if b then 1 else 0), .string ⟨#[]⟩, .slice none 0 0, .slice none 0 0]) ∧ Below w.heap.size w w' := by
  cases b
  all_goals
    go_enter Try.func55, Try.ntmps55
    go_wp2_with fail
    (try simp only [Exit.inBlock, Exit.then])
    refine bodyPost_ret (results_cell_row rfl _ _ w.heap.size 49 _ (0, 0) _ rfl (heap_alloc_new w _) Try.underlying49 rfl (by kernel_rfl)) rfl ?_
    exact ⟨rfl, below_box _⟩
theorem vint_any (x : Int) : Calls Try.prog 56 #[.int .i64 x] w fun e w' => e = .returned (.agg #[.int .i64 3, .int .i64 x, .string ⟨#[]⟩, .slice none 0 0, .slice none 0 0]) ∧ Below w.heap.size w w' := by
  go_enter Try.func56, Try.ntmps56
  go_wp2_with fail
  (try simp only [Exit.inBlock, Exit.then])
  refine bodyPost_ret (results_cell_row rfl _ _ w.heap.size 49 _ (0, 0) _ rfl (heap_alloc_new w _) Try.underlying49 rfl (by kernel_rfl)) rfl ?_
  exact ⟨rfl, below_box _⟩
theorem vtext_any (s : ByteArray) : Calls Try.prog 57 #[.string s] w fun e w' => e = .returned (.agg #[.int .i64 4, .int .i64 0, .string s, .slice none 0 0, .slice none 0 0]) ∧ Below w.heap.size w w' := by
  go_enter Try.func57, Try.ntmps57
  go_wp2_with fail
  (try simp only [Exit.inBlock, Exit.then])
  refine bodyPost_ret (results_cell_row rfl _ _ w.heap.size 49 _ (0, 0) _ rfl (heap_alloc_new w _) Try.underlying49 rfl (by kernel_rfl)) rfl ?_
  exact ⟨rfl, below_box _⟩
theorem vbytes_any (v : Value) (s : ByteArray) (hc : ∀ u, Below w.heap.size w u → (convert 22 9 v).run Try.prog u = .ok (.string s) u) : Calls Try.prog 58 #[v] w fun e w' => e = .returned (.agg #[.int .i64 5, .int .i64 0, .string s, .slice none 0 0, .slice none 0 0]) ∧ Below w.heap.size w w' := by
  have hc1 := hc _ (below_box (.cells #[.int .i64 0, .int .i64 0, .string ⟨#[]⟩, .slice none 0 0, .slice none 0 0] 49))
  clear hc
  go_enter Try.func58, Try.ntmps58
  go_wp2_with fail
  (try simp only [Exit.inBlock, Exit.then])
  refine bodyPost_ret (results_cell_row rfl _ _ w.heap.size 49 _ (0, 0) _ rfl (heap_alloc_new w _) Try.underlying49 rfl (by kernel_rfl)) rfl ?_
  exact ⟨rfl, below_box _⟩
end

/-! ### names copied -/
/-- New blocks. -/
def New (B : Nat) (w : World) : Nat → Prop := fun b => B ≤ b ∧ b < w.heap.size
theorem run_append_nothing (A : Option Addr) (c : Nat) (w : World) (ty : TypeId) : (Builtin.append_ #[47, 47] ty #[.slice none 0 0, .slice A 0 c]).run Try.prog w = .ok (.slice none 0 0) w := by
  obtain ⟨i0, hi, -, -, -⟩ := info_parts Try.infoStr
  cases A <;> simp [Builtin.append_, run_underlying Try.underlying47, sizeOf, typeInfo, hi, Builtin.lenOf, Builtin.firstCells, loadCells, loadCellsFrom]
theorem addr_at (b off i : Nat) : ((⟨b, off, none⟩ : Addr).add i) = ⟨b, off + i, none⟩ := by
  unfold Addr.add
  split
  · next h => simp [h]
  · rfl
theorem wpList_append_nothing {w : World} {ops : Array Oper} {rest : List Oper} {o : Oper} {a : Act} {Q : Exit → Act → World → Prop} (hgd : o.guard = none) (s x : Operand)
    (ho : o.op = .call { callee := .builtin .append, args := #[s, x], argTypes := #[47, 47] }) (hs : a.eval s = .slice none 0 0) (A : Option Addr) (c : Nat) (hx : a.eval x = .slice A 0 c)
    (h : wpList Try.prog ops Q rest (a.put o.dst (.slice none 0 0)) w) : wpList Try.prog ops Q (o :: rest) a w := by
  refine wpList_plain hgd fun K hK => ?_
  have hrun := run_append_nothing A c w o.type
  unfold Oper.wp
  simp [execOp, ho, resolve, invoke, builtin, hs, hx, hrun, Result.andThen]
  exact hK _ _ h
theorem strs_of_row {w : World} {B : Nat} {v : Value} {ns : List ByteArray} (h : w.ownsRow B 9 1 v ns.length (ns.map Value.string)) (hs : ∀ s ∈ ns, s.size ≤ 140737488351232) : ∃ A c, v = .slice A ns.length c ∧ StrsAt w (New B w) A ns := by
  rcases h.2 with ⟨rfl, h2⟩ | ⟨g, cap, cur, rfl, hg, hh, r⟩
  · exact ⟨none, 0, by rw [h2], fun hp => absurd hp (by omega)⟩
  · refine ⟨_, _, rfl, fun hp => ⟨g, 0, rfl, ⟨hg, (Array.getElem?_eq_some_iff.1 hh).1⟩, fun i hi => ⟨?_, hs _ (List.getElem_mem hi)⟩⟩⟩
    have h' : w.ownsRow B 9 1 (.slice (some ⟨g, 0, none⟩) ns.length cap) ns.length (ns.map Value.string) := h
    have := h'.cells (g := g) rfl i (.string ns[i]) (by simp [List.getElem?_map, List.getElem?_eq_getElem hi])
    rw [addr_at] at this
    exact this

set_option maxHeartbeats 400000 in
theorem copyNames_any (S : Nat → Prop) (A : Option Addr) (c : Nat) (ns : List ByteArray) (w : World) (h : StrsAt w S A ns) (hl : ns.length ≤ 8796093021952) :
    Calls Try.prog 77 #[.slice A ns.length c] w fun e w' => ∃ A' c', e = .returned (.slice A' ns.length c') ∧ StrsAt w' (New w.heap.size w') A' ns ∧ Below w.heap.size w w' := by
  rcases ns with _ | ⟨n0, r⟩
  · go_enter Try.func77, Try.ntmps77
    go_wp2_with (at_builtin; go_must (refine wpList_append_nothing rfl _ _ rfl rfl A c rfl ?_))
    go_ret
    exact ⟨none, 0, rfl, strs_nil _ _ _, Below.refl _ _⟩
  · obtain ⟨b, off, rfl, hb, hc⟩ := h (by simp)
    generalize hns : n0 :: r = ns at *
    obtain ⟨i0, hi, hz0, hz1, hz2⟩ := info_parts Try.infoStr
    have HL := Lib.hid hl
    have HC := Lib.hid hc
    clear hl hc h
    have hnw : ∀ j u, (ns.map Value.string)[j]? = some u → w.cell? ((⟨b, off, none⟩ : Addr).add j) = some u := by
      intro j u hj
      have hjl : j < ns.length := by have := (List.getElem?_eq_some_iff.1 hj).1; simpa using this
      rw [addr_at, (HC.out j hjl).1]
      simpa [List.getElem?_map, List.getElem?_eq_getElem hjl] using hj
    have HNW := Lib.hid hnw
    clear hnw
    go_enter Try.func77, Try.ntmps77
    go_wp2_with (at_builtin; go_must (refine wpList_append_own _ rfl _ _ 47 rfl w.heap.size 9 i0 (.string ⟨#[]⟩) 1 16 Try.underlying47 hi hz0 hz1 hz2 rfl (by decide) _ 0 [] rfl (World.ownsRow_nil _ _ _ _) ⟨b, off, none⟩ ns.length c (ns.map Value.string) rfl ?d0 HNW.out ?d1 ?d2 ?d3 ?d4 ?_))
    case d0 => simp
    case d1 => intro u hu; obtain ⟨_, _, rfl⟩ := List.mem_map.1 hu; rfl
    case d2 => have := HL.out; unfold maxLen; omega
    case d3 => have := HL.out; omega
    case d4 => exact Nat.le_refl _
    intro v' w' hown hg _
    obtain ⟨A', c', rfl, hst⟩ := strs_of_row hown (fun s hs => by obtain ⟨i, hi, rfl⟩ := List.mem_iff_getElem.1 hs; exact (HC.out i hi).2)
    have HST := Lib.hid hst
    have HB := Lib.hid (below_of_grown (B := w.heap.size) hg (Nat.le_refl _) (fun k hk => by cases hk))
    clear hown hg hst
    go_wp2_with fail
    go_ret
    exact ⟨_, _, rfl, HST.out, HB.out⟩
end Go.Proofs.Yteakkbgfkcknlaa
