/- A source begun, and moved on by a function that tells how far. -/
import Derived.Test.YtcbnjilkmdofnaaVarD
namespace Go.Proofs.Ytcbnjilkmdofnaa
set_option linter.unusedVariables false
set_option linter.unusedSimpArgs false
open Go.RowKit

set_option maxHeartbeats 400000 in
theorem from_any (v : Value) (s : ByteArray) (w : World) (hc : (convert 22 9 v).run Try.prog w = .ok (.string s) w) :
    Calls Try.prog 60 #[v] w fun e w' => e = .returned (.pointer (some ⟨w.heap.size, 0, none⟩)) ∧ Src w' w.heap.size s false ∧ Below w.heap.size w w' := by
  go_enter Try.func60, Try.ntmps60
  go_wp2_with fail
  go_ret
  exact ⟨rfl, heap_alloc_new w _, (Below.refl _ _).alloc (Nat.le_refl _) _⟩

set_option maxHeartbeats 400000 in
theorem take_nil (fv : Value) (w : World) : Calls Try.prog 76 #[.pointer none, fv] w fun e w' => e = .returned (.tuple #[]) ∧ w = w' := by
  go_enter Try.func76, Try.ntmps76
  go_wp2_with (go_at_call 64; refine (bad_nil _).mono ?_; rintro e w' ⟨rfl, rfl⟩)
  refine bodyPost_ret (results_none rfl _ _ _) rfl ?_
  exact ⟨rfl, rfl⟩
set_option maxHeartbeats 400000 in
theorem take_bad (fv : Value) (g : Nat) (s : ByteArray) (w : World) (h : Src w g s true) : Calls Try.prog 76 #[.pointer (some ⟨g, 0, none⟩), fv] w fun e w' => e = .returned (.tuple #[]) ∧ w = w' := by
  have H := Lib.hid h
  clear h
  go_enter Try.func76, Try.ntmps76
  go_wp2_with (go_at_call 64; refine (bad_any _ _ _ _ H.out).mono ?_; rintro e w' ⟨rfl, rfl⟩)
  refine bodyPost_ret (results_none rfl _ _ _) rfl ?_
  exact ⟨rfl, rfl⟩

/-- A call of function k through a value enters it. -/
def Enters (k : Nat) : Prop := ∀ (args : Array Value) (W : World), (callFunc k args).run Try.prog W = .ok (.enter k args) W
theorem enters_byte : Enters 86 := fun _ _ => by simp [callFunc, go_sem, Try.func86, Try.f86]
theorem enters_text : Enters 77 := fun _ _ => by simp [callFunc, go_sem, Try.func77, Try.f77]
theorem enters_groups : Enters 99 := fun _ _ => by simp [callFunc, go_sem, Try.func99, Try.f99]

/-- What becomes of a source that is moved on by n bytes. -/
def Moved (w1 w' : World) (g : Nat) (s : ByteArray) (n : Nat) : Prop := Only w1 w' g ∧ (n = 0 → Src w' g ByteArray.empty true) ∧ (0 < n → Src w' g (s.extract n s.size) false)

set_option maxHeartbeats 400000 in
theorem take_good (k : Nat) (caps : Array Value) (g : Nat) (s : ByteArray) (n : Nat) (w : World) (R : World → Prop) (h : Src w g s false) (hn : n ≤ s.size) (hs : (s.size : Int) ≤ 9223372036854775807) (hcf0 : Enters k)
    (hk : Calls Try.prog k (#[.string s] ++ caps) w fun e w' => e = .returned (.int .i64 n) ∧ Src w' g s false ∧ R w') :
    Calls Try.prog 76 #[.pointer (some ⟨g, 0, none⟩), .func (.func k) #[] caps] w fun e w' => e = .returned (.tuple #[]) ∧ ∃ w1, R w1 ∧ Moved w1 w' g s n := by
  have h0 := h.rest
  have H := Lib.hid h
  have HK := Lib.hid hk
  have hcf : ∀ (args : Array Value) (W : World), (callFunc k args).run Try.prog W = .ok (.enter k args) W := hcf0
  clear h hk hcf0
  go_enter Try.func76, Try.ntmps76
  go_wp2_with (go_at_call 64; refine (bad_any g s _ _ H.out).mono ?_; rintro e w' ⟨rfl, rfl⟩)
  refine HK.out.mono ?_
  rintro e w1 ⟨rfl, hsrc, hR⟩
  have h1 := hsrc.rest
  have f1 := hsrc.free 0
  have HS := Lib.hid hsrc
  clear hsrc H HK hcf h0
  by_cases hz : n = 0
  · subst hz
    go_wp2_with (go_at_call 84; refine (spoil_any g s _ _ HS.out).mono ?_; rintro e w2 ⟨rfl, hs2, ho2⟩)
    refine bodyPost_ret (results_none rfl _ _ _) rfl ?_
    exact ⟨rfl, _, hR, ho2, fun _ => hs2, fun h => absurd h (by omega)⟩
  · have hz2 : ((n : Int) == 0) = false := by simp; omega
    go_wp2
    go_end0
    exact ⟨rfl, _, hR, (Only.refl _ g).set _ _, fun h => absurd h hz, fun _ => HS.out.set0⟩
end Go.Proofs.Ytcbnjilkmdofnaa
