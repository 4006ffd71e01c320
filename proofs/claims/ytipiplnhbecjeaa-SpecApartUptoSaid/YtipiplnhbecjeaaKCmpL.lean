/- The order of any two values, as the document's answer has it. -/
import Derived.Test.YtipiplnhbecjeaaKRefT
import Derived.Test.YtipiplnhbecjeaaKRefQ
namespace Go.Proofs.Ytipiplnhbecjeaa
set_option linter.unusedVariables false
set_option linter.unusedSimpArgs false
open Go.RowKit

section
variable {u : World} {S : Nat → Prop} {g g' : Nat} {t t' : VT} {A B : Option Addr} {c d : Nat} {A' B' : Option Addr} {c' d' : Nat}
theorem Vr.rmay (h : Vr u S g t A c A' c') {x : Bool} (hx : x = mayT t) : Calls Try.prog 23 #[.agg #[.int .i64 t.kind, .int .i64 t.num, .string t.text, .slice A t.items.length c, .slice A' t.names.length c']] u fun e u' => e = .returned (.bool x) ∧ Below u.heap.size u u' :=
  (rmay_any S (depthT t) t _ u (Nat.le_refl _) h.s h.v).mono fun _ _ h' => ⟨by rw [h'.1, hx], h'.2⟩
theorem Vr.rsame (h : Vr u S g t A c A' c') (k : Vr u S g' t' B d B' d') :
    Calls Try.prog 22 #[.agg #[.int .i64 t.kind, .int .i64 t.num, .string t.text, .slice A t.items.length c, .slice A' t.names.length c'], .agg #[.int .i64 t'.kind, .int .i64 t'.num, .string t'.text, .slice B t'.items.length d, .slice B' t'.names.length d']] u fun e u' => (∃ r : Bool, e = .returned (.bool r) ∧ (r = true ↔ t = t')) ∧ Below u.heap.size u u' :=
  rsame_any S (depthT t) t t' _ _ u (Nat.le_refl _) h.s h.v k.v
end

section
variable {u : World} {S : Nat → Prop} {g g' : Nat} {t t' : VT} {A B : Option Addr} {c d : Nat} {A' B' : Option Addr} {c' d' : Nat}
end
end Go.Proofs.Ytipiplnhbecjeaa
