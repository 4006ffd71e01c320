/- Append, whole. -/
import Derived.Test.YtclgekmpldeedaaGreatKFlI
namespace Go.Proofs.YtclgekmpldeedaaGreat
set_option linter.unusedVariables false
set_option linter.unusedSimpArgs false
open Go.RowKit Go.Maps
set_option maxRecDepth 100000
theorem enters_app1 : EntersF 92 := fun _ _ => by simp [callFunc, go_sem, Tryz.func92, Tryz.f92]
theorem enters_app2 : EntersF 93 := fun _ _ => by simp [callFunc, go_sem, Tryz.func93, Tryz.f93]
theorem enters_app3 : EntersF 94 := fun _ _ => by simp [callFunc, go_sem, Tryz.func94, Tryz.f94]
def Retd (R : World → Prop) (e : Ending) (w' : World) : Prop := (∃ x, e = .returned x) ∧ R w'
set_option maxHeartbeats 2000000 in
theorem app2_any (w : World) (pp pb p1 p2 p3 p4 : Nat) (A : Option Addr) (n c : Nat) (R : World → Prop) (hpp : w.heap[pp]? = some (.cells #[.func (.func 92) #[] #[.pointer (some ⟨p1, 0, none⟩), .pointer (some ⟨p2, 0, none⟩), .pointer (some ⟨p3, 0, none⟩), .pointer (some ⟨p4, 0, none⟩)]] 70 (0, 0)))
    (hpb : w.heap[pb]? = some (.cells #[.slice A n c] 33 (0, 0)))
    (hcall : Calls Tryz.prog 92 #[.int .i64 (n : Int), .pointer (some ⟨p1, 0, none⟩), .pointer (some ⟨p2, 0, none⟩), .pointer (some ⟨p3, 0, none⟩), .pointer (some ⟨p4, 0, none⟩)] w (Retd R)) :
    Calls Tryz.prog 93 #[.pointer (some ⟨pp, 0, none⟩), .pointer (some ⟨pb, 0, none⟩)] w (Retd R) := by
  have hcf : ∀ (args : Array Value) (W : World), (callFunc 92 args).run Tryz.prog W = .ok (.enter 92 args) W := enters_app1
  have x1 := Go.Joins.cell_of_block hpp 0
  have x2 := Go.Joins.cell_of_block hpb 0
  have HC := Lib.hid hcall
  clear hpp hpb hcall
  go_enter Tryz.func93, Tryz.ntmps93
  go_wp2_with fail
  refine HC.out.mono ?_
  rintro e w1 ⟨⟨x, rfl⟩, h⟩
  have H := Lib.hid h
  clear h
  go_wp2_with fail
  go_end0
  exact ⟨⟨_, rfl⟩, H.out⟩
/-- Four blocks stay. -/
def R4 (a b c d : Nat) (w w' : World) : Prop := ∀ k, k = a ∨ k = b ∨ k = c ∨ k = d → w'.heap[k]? = w.heap[k]?
theorem R4.refl (a b c d : Nat) (w : World) : R4 a b c d w w := fun _ _ => rfl
theorem R4.trans (a b c d : Nat) (x y z : World) (h : R4 a b c d x y) (k : R4 a b c d y z) : R4 a b c d x z := fun i hi => (k i hi).trans (h i hi)
instance (a b c d : Nat) (w : World) : Inhabited (LaterR (R4 a b c d) w) := ⟨⟨w, R4.refl _ _ _ _ w⟩⟩
theorem cell_r4 {a b c d : Nat} {w : World} {k o : Nat} {v : Value} (x : w.cell? ⟨k, o, none⟩ = some v) (hk : k = a ∨ k = b ∨ k = c ∨ k = d) : ∀ p : LaterR (R4 a b c d) w, p.u.cell? ⟨k, o, none⟩ = some v := fun p => (World.cell?_of_block (a := ⟨k, o, none⟩) (p.h k hk)).trans x
set_option maxHeartbeats 2000000 in
theorem app3_any (w : World) (pp pb pd d p1 p2 p3 p4 : Nat) (A : Option Addr) (n c : Nat) (torn : Int) (ht : 0 ≤ torn) (R : World → Prop) (hpp : w.heap[pp]? = some (.cells #[.func (.func 92) #[] #[.pointer (some ⟨p1, 0, none⟩), .pointer (some ⟨p2, 0, none⟩), .pointer (some ⟨p3, 0, none⟩), .pointer (some ⟨p4, 0, none⟩)]] 70 (0, 0)))
    (hpb : w.heap[pb]? = some (.cells #[.slice A n c] 33 (0, 0))) (hpd : w.heap[pd]? = some (.cells #[.pointer (some ⟨d, 0, none⟩)] 24 (0, 0))) (hd : w.cell? ⟨d, 2, none⟩ = some (.int .i64 torn))
    (hR : ∀ w', R w' → R4 pp pb pd d w w')
    (hcall : Calls Tryz.prog 92 #[.int .i64 ((min n torn.toNat : Nat) : Int), .pointer (some ⟨p1, 0, none⟩), .pointer (some ⟨p2, 0, none⟩), .pointer (some ⟨p3, 0, none⟩), .pointer (some ⟨p4, 0, none⟩)] w.drew (Retd R)) :
    Calls Tryz.prog 94 #[.pointer (some ⟨pp, 0, none⟩), .pointer (some ⟨pb, 0, none⟩), .pointer (some ⟨pd, 0, none⟩)] w (Retd R) := by
  have hcf : ∀ (args : Array Value) (W : World), (callFunc 92 args).run Tryz.prog W = .ok (.enter 92 args) W := enters_app1
  have q1 := cell_r4 (a := pp) (b := pb) (c := pd) (d := d) (w := w.drew) (Go.Joins.cell_of_block (w := w.drew) hpp 0) (.inl rfl)
  have q2 := cell_r4 (a := pp) (b := pb) (c := pd) (d := d) (w := w.drew) (Go.Joins.cell_of_block (w := w.drew) hpb 0) (.inr (.inl rfl))
  have q3 := cell_r4 (a := pp) (b := pb) (c := pd) (d := d) (w := w.drew) (Go.Joins.cell_of_block (w := w.drew) hpd 0) (.inr (.inr (.inl rfl)))
  have q4 := cell_r4 (a := pp) (b := pb) (c := pd) (d := d) (w := w.drew) (k := d) (o := 2) hd (.inr (.inr (.inr rfl)))
  have hR0 : ∀ w', R w' → R4 pp pb pd d w.drew w' := hR
  have HR0 := Lib.hid hR0
  have hmin : ((min n torn.toNat : Nat) : Int) = if torn < (n : Int) then torn else (n : Int) := by split <;> omega
  rw [hmin] at hcall
  have HC := Lib.hid hcall
  clear hpp hpb hpd hd hcall hmin hR hR0
  go_enter Tryz.func94, Tryz.ntmps94
  go_wp2_with fail
  refine wp_region_OT (R4 pp pb pd d) (R4.refl _ _ _ _) (R4.trans _ _ _ _) [] (.pure [0, 1, 2, 3, 4, 5, 6, 7, 8] (.step 9 (.tail []))) (by kernel_rfl) (by kernel_rfl) (fun _ d _ _ _ h => by cases d <;> exact h) ?_
  generalize w.drew = w0 at *
  refine ot_pure ?_
  simp only [atNats, List.filterMap_cons, List.filterMap_nil, List.getElem?_toArray, List.getElem?_cons_succ, List.getElem?_cons_zero]
  show wpQuiet _ _ _ _ [_, _, _, _, _, _, _, _, _] _
  try simp only [List.getElem_toArray, List.getElem_cons_succ, List.getElem_cons_zero, Act.put, List.setIfInBounds_toArray, List.set_cons_succ, List.set_cons_zero] at *
  repeat (go_big_quiet_step (fail))
  refine wpQuiet_nil ?_
  clear q1 q2 q3 q4
  refine ot_step rfl (fun K hK => ?_)
  go_simp
  refine HC.out.mono ?_
  rintro e w1 ⟨⟨x, rfl⟩, h⟩
  have H := Lib.hid h
  clear h
  refine hK _ _ (.inr (HR0.out _ H.out)) ?_
  clear hK K
  refine ot_end ?_
  go_wp2_with fail
  all_goals
    go_end0
    exact ⟨⟨_, rfl⟩, H.out⟩
end Go.Proofs.YtclgekmpldeedaaGreat
