/- Whether a name is there twice, as the document's answer has it. -/
import Derived.Test.YteakkbgfkcknlaaRefN
import Derived.Test.YteakkbgfkcknlaaRefQ
namespace Go.Proofs.Yteakkbgfkcknlaa
open Go.RowKit

theorem nodup_of_ne {ns : List ByteArray} (h : ∀ x y (_ : x < ns.length) (_ : y < ns.length), x < y → ns[x] ≠ ns[y]) : ns.Nodup := List.pairwise_iff_getElem.2 fun x y hx hy hxy => h x y hx hy hxy
theorem not_nodup {ns : List ByteArray} {x y : Nat} (hx : x < ns.length) (hy : y < ns.length) (hxy : x < y) (h : ns[x] = ns[y]) : ¬ ns.Nodup := fun hn => List.pairwise_iff_getElem.1 hn x y hx hy hxy h

set_option maxHeartbeats 1000000 in
set_option maxRecDepth 100000 in
theorem twice_any (S : Nat → Prop) (A : Option Addr) (c : Nat) (ns : List ByteArray) (w : World) (hS : ∀ b, S b → b < w.heap.size) (h : StrsAt w S A ns) (hl : ns.length ≤ 140737488351232) :
    Calls Try.prog 70 #[.slice A ns.length c] w fun e w' => (∃ r : Bool, e = .returned (.bool r) ∧ (r = true ↔ ¬ ns.Nodup)) ∧ Below w.heap.size w w' := by
  have HH := Lib.hid h
  clear h
  go_enter Try.func70, Try.ntmps70
  go_wp2_with fail
  go_loopw [3, 4] (fun i k wr => ∃ j : Nat, i = .int .i64 j ∧ j ≤ ns.length ∧ Hid (∀ x y (_ : x < ns.length) (_ : y < ns.length), x < y → y < j → ns[x] ≠ ns[y]) ∧ Hid (Below w.heap.size w wr)) (fun i _ _ => ns.length - (intOf i).toNat)
  case atStart => exact ⟨0, rfl, Nat.zero_le _, Lib.hid (fun _ _ _ _ _ h => absurd h (Nat.not_lt_zero _)), Lib.hid (Below.refl _ _)⟩
  case round =>
    obtain ⟨j, rfl, hj, HD, HB⟩ := hrel
    by_cases hlt : j < ns.length
    · obtain ⟨p, o, rfl, hp, hc⟩ := HH.out (by omega)
      have HC := Lib.hid hc
      have HP := Lib.hid (hS p hp)
      clear hc hp
      go_wp2_with fail
      go_loopw [4] (fun k wr => ∃ m : Nat, k = .int .i64 m ∧ m ≤ j ∧ Hid (∀ x (_ : x < ns.length), x < m → ns[x] ≠ ns[j]) ∧ Hid (Below w.heap.size w wr)) (fun k _ => j - (intOf k).toNat)
      case atStart => exact ⟨0, rfl, Nat.zero_le _, Lib.hid (fun _ _ h => absurd h (Nat.not_lt_zero _)), HB⟩
      case round =>
        rename_i wr
        obtain ⟨m, rfl, hm, HE, HB⟩ := hrel
        by_cases hmj : m < j
        · have hml : m < ns.length := by omega
          have t1 : wr.cell? ⟨p, o + j, none⟩ = some (.string ns[j]) := (HB.out.cell (p := ⟨p, o + j, none⟩) HP.out).trans (HC.out j hlt).1
          have t2 : wr.cell? ⟨p, o + m, none⟩ = some (.string ns[m]) := (HB.out.cell (p := ⟨p, o + m, none⟩) HP.out).trans (HC.out m hml).1
          have hp2 : p < wr.heap.size := Nat.lt_of_lt_of_le HP.out HB.out.size
          obtain ⟨sa, hsa⟩ : ∃ sa, sa = ns[j] := ⟨_, rfl⟩
          obtain ⟨sb, hsb⟩ : ∃ sb, sb = ns[m] := ⟨_, rfl⟩
          rw [← hsa] at t1
          rw [← hsb] at t2
          have HSA := Lib.hid hsa
          have HSB := Lib.hid hsb
          clear hsa hsb
          by_cases hs : sa.toList = sb.toList
          · have es : (sa.toList == sb.toList) = true := by simpa using hs
            have HF : Hid (¬ ns.Nodup) := Lib.hid (not_nodup hml hlt hmj (by rw [← HSA.out, ← HSB.out]; exact (toList_inj hs).symm))
            clear hs
            go_wp2_with fail
            try simp only [List.append_eq, List.cons_append, List.nil_append]
            refine wp_region_lex (by kernel_rfl) (by kernel_rfl) (fun _ d _ _ _ h => by cases d <;> exact h) ?_
            have u1 := cell_later (B := wr.heap.size) (w := wr.drew) t1 hp2
            have u2 := cell_later (B := wr.heap.size) (w := wr.drew) t2 hp2
            first | refine mix_pure ?_ | refine mix_pureB ?_
            simp only [List.takeWhile, List.dropWhile, isPure]
            repeat (go_big_quiet_step (fail))
            refine wpQuiet_nil ?_
            unfold wpMix
            clear u1 u2 t1 t2
            go_wp2_with fail
            go_ret
            exact ⟨⟨_, rfl, ⟨fun _ => HF.out, fun _ => rfl⟩⟩, HB.out.drew⟩
          · have es : (sa.toList == sb.toList) = false := by simpa using hs
            have HNE : Hid (ns[m] ≠ ns[j]) := Lib.hid (fun h => hs (by rw [HSA.out, HSB.out, h]))
            clear hs
            go_wp2_with fail
            try simp only [List.append_eq, List.cons_append, List.nil_append]
            refine wp_region_lex (by kernel_rfl) (by kernel_rfl) (fun _ d _ _ _ h => by cases d <;> exact h) ?_
            have u1 := cell_later (B := wr.heap.size) (w := wr.drew) t1 hp2
            have u2 := cell_later (B := wr.heap.size) (w := wr.drew) t2 hp2
            first | refine mix_pure ?_ | refine mix_pureB ?_
            simp only [List.takeWhile, List.dropWhile, isPure]
            repeat (go_big_quiet_step (fail))
            refine wpQuiet_nil ?_
            unfold wpMix
            clear u1 u2 t1 t2
            go_wp2_with fail
            go_roundw
            case rel => exact ⟨m + 1, by go_num, by omega, Lib.hid (fun x hx hxm => by
              by_cases e : x = m
              · subst e; exact HNE.out
              · exact HE.out x hx (by omega)), Lib.hid HB.out.drew⟩
            case measure => simp [intOf]; omega
        · go_wp2_with fail
          go_roundw
          case rel => exact ⟨j + 1, by go_num, by omega, Lib.hid (fun x y hx hy hxy hyj => by
            by_cases e : y = j
            · subst e; exact HE.out x hx (by omega)
            · exact HD.out x y hx hy hxy (by omega)), HB⟩
          case measure => simp [intOf]; omega
    · have HF : Hid (ns.Nodup) := Lib.hid (nodup_of_ne fun x y hx hy hxy => HD.out x y hx hy hxy (by omega))
      go_wp2_with fail
      go_ret
      exact ⟨⟨_, rfl, ⟨fun h => (by cases h), fun h => absurd HF.out h⟩⟩, HB.out⟩
end Go.Proofs.Yteakkbgfkcknlaa
