/- Which values may be: a value's own fields. -/
import Derived.Test.YtipiplnhbecjeaaKVal
import Derived.Test.YtipiplnhbecjeaaKVarD
namespace Go.Proofs.Ytipiplnhbecjeaa
set_option linter.unusedVariables false
set_option linter.unusedSimpArgs false
open Go.RowKit

theorem LV.alloc {w : World} {S : Nat → Prop} {t : VT} {v : Value} (h : LV w S t v) (hS : ∀ b, S b → b < w.heap.size) (o : Obj) : LV (w.alloc o) S t v := h.keep fun b hb => Below.heap_alloc w o b (hS b hb)
theorem LV.below {w w' : World} {S : Nat → Prop} {t : VT} {v : Value} (h : LV w S t v) (hS : ∀ b, S b → b < w.heap.size) (hb : Below w.heap.size w w') : LV w' S t v := h.keep fun b h => hb.block b (hS b h)
theorem StrsAt.below {w w' : World} {S : Nat → Prop} {A : Option Addr} {ns : List ByteArray} (h : StrsAt w S A ns) (hS : ∀ b, S b → b < w.heap.size) (hb : Below w.heap.size w w') : StrsAt w' S A ns := h.keep fun b h => hb.block b (hS b h)
theorem sub_alloc {w : World} {S : Nat → Prop} (hS : ∀ b, S b → b < w.heap.size) (o : Obj) : ∀ b, S b → b < (w.alloc o).heap.size := fun b hb => by have := hS b hb; simp; omega
theorem sub_below {w w' : World} {S : Nat → Prop} (hS : ∀ b, S b → b < w.heap.size) (hb : Below w.heap.size w w') : ∀ b, S b → b < w'.heap.size := fun b h => Nat.lt_of_lt_of_le (hS b h) hb.size
theorem toStart {w w1 w2 : World} (h : Below w.heap.size w w1) (h2 : Below w1.heap.size w1 w2) : Below w.heap.size w w2 := h.trans (h2.mono h.size)

theorem ret_b {a b : Bool} (h : a = b) : Ending.returned (.bool a) = .returned (.bool b) := by rw [h]
set_option maxHeartbeats 1000000 in
set_option maxRecDepth 100000 in
theorem fits1 (i : Int) (s : ByteArray) (A A' : Option Addr) (n c c' : Nat) (ns : List ByteArray) (w : World) :
    Calls Try.prog 80 #[.agg #[.int .i64 1, .int .i64 i, .string s, .slice A n c, .slice A' ns.length c']] w fun e w' => e = .returned (.bool (fitsP 1 i s n ns)) ∧ Below w.heap.size w w' := by
  have e0 : fitsP 1 i s n ns = fitsP 1 i s n ns := rfl
  conv at e0 => rhs; unfold fitsP
  simp only [Int.reduceEq, if_true, if_false, or_true, true_or, or_false, false_or] at e0
  rw [e0]
  clear e0
  go_enter Try.func80, Try.ntmps80
  go_wp2_with (go_at_call 95; refine (single_any _ _ _ _ _ _ _ _ _ _).mono ?_; rintro e w' ⟨rfl, hb⟩)
  all_goals
    go_ret
    first
      | exact ⟨rfl, toStart (below_box _) hb⟩
      | exact ⟨rfl, below_box _⟩
      | exact ⟨ret_b (by simp_all [nat_beq0, nat_beq] <;> (intros; omega)), toStart (below_box _) hb⟩
      | exact ⟨ret_b (by simp_all [nat_beq0, nat_beq] <;> (intros; omega)), below_box _⟩
set_option maxHeartbeats 1000000 in
set_option maxRecDepth 100000 in
theorem fits2 (i : Int) (s : ByteArray) (A A' : Option Addr) (n c c' : Nat) (ns : List ByteArray) (w : World) :
    Calls Try.prog 80 #[.agg #[.int .i64 2, .int .i64 i, .string s, .slice A n c, .slice A' ns.length c']] w fun e w' => e = .returned (.bool (fitsP 2 i s n ns)) ∧ Below w.heap.size w w' := by
  have e0 : fitsP 2 i s n ns = fitsP 2 i s n ns := rfl
  conv at e0 => rhs; unfold fitsP
  simp only [Int.reduceEq, if_true, if_false, or_true, true_or, or_false, false_or] at e0
  rw [e0]
  clear e0
  go_enter Try.func80, Try.ntmps80
  go_wp2_with (go_at_call 95; refine (single_any _ _ _ _ _ _ _ _ _ _).mono ?_; rintro e w' ⟨rfl, hb⟩)
  all_goals
    go_ret
    first
      | exact ⟨rfl, toStart (below_box _) hb⟩
      | exact ⟨rfl, below_box _⟩
      | exact ⟨ret_b (by simp_all [nat_beq0, nat_beq] <;> (intros; omega)), toStart (below_box _) hb⟩
      | exact ⟨ret_b (by simp_all [nat_beq0, nat_beq] <;> (intros; omega)), below_box _⟩
set_option maxHeartbeats 1000000 in
set_option maxRecDepth 100000 in
theorem fits3 (i : Int) (s : ByteArray) (A A' : Option Addr) (n c c' : Nat) (ns : List ByteArray) (w : World) :
    Calls Try.prog 80 #[.agg #[.int .i64 3, .int .i64 i, .string s, .slice A n c, .slice A' ns.length c']] w fun e w' => e = .returned (.bool (fitsP 3 i s n ns)) ∧ Below w.heap.size w w' := by
  have e0 : fitsP 3 i s n ns = fitsP 3 i s n ns := rfl
  conv at e0 => rhs; unfold fitsP
  simp only [Int.reduceEq, if_true, if_false, or_true, true_or, or_false, false_or] at e0
  rw [e0]
  clear e0
  go_enter Try.func80, Try.ntmps80
  go_wp2_with (go_at_call 95; refine (single_any _ _ _ _ _ _ _ _ _ _).mono ?_; rintro e w' ⟨rfl, hb⟩)
  all_goals
    go_ret
    first
      | exact ⟨rfl, toStart (below_box _) hb⟩
      | exact ⟨rfl, below_box _⟩
      | exact ⟨ret_b (by simp_all [nat_beq0, nat_beq] <;> (intros; omega)), toStart (below_box _) hb⟩
      | exact ⟨ret_b (by simp_all [nat_beq0, nat_beq] <;> (intros; omega)), below_box _⟩
set_option maxHeartbeats 1000000 in
set_option maxRecDepth 100000 in
theorem fits4 (i : Int) (s : ByteArray) (A A' : Option Addr) (n c c' : Nat) (ns : List ByteArray) (w : World) :
    Calls Try.prog 80 #[.agg #[.int .i64 4, .int .i64 i, .string s, .slice A n c, .slice A' ns.length c']] w fun e w' => e = .returned (.bool (fitsP 4 i s n ns)) ∧ Below w.heap.size w w' := by
  have e0 : fitsP 4 i s n ns = fitsP 4 i s n ns := rfl
  conv at e0 => rhs; unfold fitsP
  simp only [Int.reduceEq, if_true, if_false, or_true, true_or, or_false, false_or] at e0
  rw [e0]
  clear e0
  go_enter Try.func80, Try.ntmps80
  go_wp2_with (go_at_call 95; refine (single_any _ _ _ _ _ _ _ _ _ _).mono ?_; rintro e w' ⟨rfl, hb⟩)
  all_goals
    go_ret
    first
      | exact ⟨rfl, toStart (below_box _) hb⟩
      | exact ⟨rfl, below_box _⟩
      | exact ⟨ret_b (by simp_all [nat_beq0, nat_beq] <;> (intros; omega)), toStart (below_box _) hb⟩
      | exact ⟨ret_b (by simp_all [nat_beq0, nat_beq] <;> (intros; omega)), below_box _⟩
set_option maxHeartbeats 1000000 in
set_option maxRecDepth 100000 in
theorem fits5 (i : Int) (s : ByteArray) (A A' : Option Addr) (n c c' : Nat) (ns : List ByteArray) (w : World) :
    Calls Try.prog 80 #[.agg #[.int .i64 5, .int .i64 i, .string s, .slice A n c, .slice A' ns.length c']] w fun e w' => e = .returned (.bool (fitsP 5 i s n ns)) ∧ Below w.heap.size w w' := by
  have e0 : fitsP 5 i s n ns = fitsP 5 i s n ns := rfl
  conv at e0 => rhs; unfold fitsP
  simp only [Int.reduceEq, if_true, if_false, or_true, true_or, or_false, false_or] at e0
  rw [e0]
  clear e0
  go_enter Try.func80, Try.ntmps80
  go_wp2_with (go_at_call 95; refine (single_any _ _ _ _ _ _ _ _ _ _).mono ?_; rintro e w' ⟨rfl, hb⟩)
  all_goals
    go_ret
    first
      | exact ⟨rfl, toStart (below_box _) hb⟩
      | exact ⟨rfl, below_box _⟩
      | exact ⟨ret_b (by simp_all [nat_beq0, nat_beq] <;> (intros; omega)), toStart (below_box _) hb⟩
      | exact ⟨ret_b (by simp_all [nat_beq0, nat_beq] <;> (intros; omega)), below_box _⟩
set_option maxHeartbeats 1000000 in
set_option maxRecDepth 100000 in
theorem fits6 (i : Int) (s : ByteArray) (A A' : Option Addr) (n c c' : Nat) (ns : List ByteArray) (w : World) :
    Calls Try.prog 80 #[.agg #[.int .i64 6, .int .i64 i, .string s, .slice A n c, .slice A' ns.length c']] w fun e w' => e = .returned (.bool (fitsP 6 i s n ns)) ∧ Below w.heap.size w w' := by
  have e0 : fitsP 6 i s n ns = fitsP 6 i s n ns := rfl
  conv at e0 => rhs; unfold fitsP
  simp only [Int.reduceEq, if_true, if_false, or_true, true_or, or_false, false_or] at e0
  rw [e0]
  clear e0
  go_enter Try.func80, Try.ntmps80
  go_wp2_with (go_at_call 95; refine (single_any _ _ _ _ _ _ _ _ _ _).mono ?_; rintro e w' ⟨rfl, hb⟩)
  all_goals
    go_ret
    first
      | exact ⟨rfl, toStart (below_box _) hb⟩
      | exact ⟨rfl, below_box _⟩
      | exact ⟨ret_b (by simp_all [nat_beq0, nat_beq] <;> (intros; omega)), toStart (below_box _) hb⟩
      | exact ⟨ret_b (by simp_all [nat_beq0, nat_beq] <;> (intros; omega)), below_box _⟩
set_option maxHeartbeats 1000000 in
set_option maxRecDepth 100000 in
theorem fits7 (i : Int) (s : ByteArray) (A A' : Option Addr) (n c c' : Nat) (ns : List ByteArray) (w : World) (S : Nat → Prop) (hS : ∀ b, S b → b < w.heap.size) (hN : StrsAt w S A' ns) (hl : ns.length ≤ 140737488351232) :
    Calls Try.prog 80 #[.agg #[.int .i64 7, .int .i64 i, .string s, .slice A n c, .slice A' ns.length c']] w fun e w' => e = .returned (.bool (fitsP 7 i s n ns)) ∧ Below w.heap.size w w' := by
  have e0 : fitsP 7 i s n ns = fitsP 7 i s n ns := rfl
  conv at e0 => rhs; unfold fitsP
  simp only [Int.reduceEq, if_true, if_false, or_true, true_or, or_false, false_or] at e0
  rw [e0]
  clear e0
  have HN := Lib.hid (hN.below hS (below_box (.cells #[.int .i64 7, .int .i64 i, .string s, .slice A n c, .slice A' ns.length c'] 25)))
  clear hN
  go_enter Try.func80, Try.ntmps80
  go_wp2_with (go_at_call 96; refine (distinct_any S _ _ _ _ (sub_alloc hS _) (by simp_all; exact HN.out) hl).mono ?_; rintro e w' ⟨rfl, hb⟩)
  all_goals
    go_ret
    first
      | exact ⟨rfl, toStart (below_box _) hb⟩
      | exact ⟨rfl, below_box _⟩
      | exact ⟨ret_b (by simp_all [nat_beq0, nat_beq] <;> (intros; omega)), toStart (below_box _) hb⟩
      | exact ⟨ret_b (by simp_all [nat_beq0, nat_beq] <;> (intros; omega)), below_box _⟩
set_option maxHeartbeats 1000000 in
set_option maxRecDepth 100000 in
theorem fits0 (k i : Int) (s : ByteArray) (A A' : Option Addr) (n c c' : Nat) (ns : List ByteArray) (w : World) (hk : ¬ (1 ≤ k ∧ k ≤ 7)) :
    Calls Try.prog 80 #[.agg #[.int .i64 k, .int .i64 i, .string s, .slice A n c, .slice A' ns.length c']] w fun e w' => e = .returned (.bool (fitsP k i s n ns)) ∧ Below w.heap.size w w' := by
  have e0 : fitsP k i s n ns = false := by
    unfold fitsP
    rw [if_neg (by omega), if_neg (by omega), if_neg (by omega), if_neg (by omega), if_neg (by omega), if_neg (by omega)]
  rw [e0]
  have b1 : (k == 1) = false := by simp; omega
  have b2 : (k == 2) = false := by simp; omega
  have b3 : (k == 3) = false := by simp; omega
  have b4 : (k == 4) = false := by simp; omega
  have b5 : (k == 5) = false := by simp; omega
  have b6 : (k == 6) = false := by simp; omega
  have b7 : (k == 7) = false := by simp; omega
  clear e0 hk
  go_enter Try.func80, Try.ntmps80
  go_wp2_with fail
  go_ret
  exact ⟨rfl, below_box _⟩
theorem fits_any (S : Nat → Prop) (t : VT) (v : Value) (w : World) (hS : ∀ b, S b → b < w.heap.size) (h : LV w S t v) : Calls Try.prog 80 #[v] w fun e w' => e = .returned (.bool (fitsT t)) ∧ Below w.heap.size w w' := by
  obtain ⟨A, c, A', c', rfl, -, -, -, -, h5, h6, -⟩ := h.shape
  cases t with
  | mk k i s l ns =>
  show Calls Try.prog 80 #[.agg #[.int .i64 k, .int .i64 i, .string s, .slice A l.length c, .slice A' ns.length c']] w fun e w' => e = .returned (.bool (fitsP k i s l.length ns)) ∧ Below w.heap.size w w'
  by_cases hk : 1 ≤ k ∧ k ≤ 7
  · obtain rfl | rfl | rfl | rfl | rfl | rfl | rfl : k = 1 ∨ k = 2 ∨ k = 3 ∨ k = 4 ∨ k = 5 ∨ k = 6 ∨ k = 7 := by omega
    · exact fits1 _ _ _ _ _ _ _ _ _
    · exact fits2 _ _ _ _ _ _ _ _ _
    · exact fits3 _ _ _ _ _ _ _ _ _
    · exact fits4 _ _ _ _ _ _ _ _ _
    · exact fits5 _ _ _ _ _ _ _ _ _
    · exact fits6 _ _ _ _ _ _ _ _ _
    · exact fits7 _ _ _ _ _ _ _ _ _ S hS h6 h5
  · exact fits0 _ _ _ _ _ _ _ _ _ _ hk
end Go.Proofs.Ytipiplnhbecjeaa

/- A walk through a value, from above, that shows each to a function. -/
namespace Go.Proofs.Ytipiplnhbecjeaa
set_option linter.unusedVariables false
set_option linter.unusedSimpArgs false
open Go.RowKit

theorem depthL_le {x : VT} : ∀ {l : List VT}, x ∈ l → depthT x ≤ depthL l
  | [], h => by cases h
  | t :: r, h => by
    unfold depthL
    rcases List.mem_cons.1 h with rfl | h
    · omega
    · have := depthL_le h; omega
theorem depthT_mk (k i : Int) (s : ByteArray) (l : List VT) (ns : List ByteArray) : depthT (.mk k i s l ns) = depthL l + 1 := by unfold depthT; rfl
theorem walkT_stop {σ : Type} {f : VT → Nat → σ → σ × Bool} {t : VT} {d : Nat} {st : σ} (h : (f t d st).2 = false) : walkT f t d st = ((f t d st).1, false) := by
  cases t; unfold walkT; rw [if_neg (by rw [h]; exact Bool.false_ne_true)]
theorem walkT_go {σ : Type} {f : VT → Nat → σ → σ × Bool} {t : VT} {d : Nat} {st : σ} (h : (f t d st).2 = true) : walkT f t d st = walkL f t.items (d + 1) (f t d st).1 := by
  cases t; unfold walkT; rw [if_pos h]; rfl
theorem walkL_stop {σ : Type} {f : VT → Nat → σ → σ × Bool} {t : VT} {r : List VT} {d : Nat} {st : σ} (h : (walkT f t d st).2 = false) : walkL f (t :: r) d st = ((walkT f t d st).1, false) := by
  unfold walkL; rw [if_neg (by rw [h]; exact Bool.false_ne_true)]
theorem walkL_go {σ : Type} {f : VT → Nat → σ → σ × Bool} {t : VT} {r : List VT} {d : Nat} {st : σ} (h : (walkT f t d st).2 = true) : walkL f (t :: r) d st = walkL f r d (walkT f t d st).1 := by
  conv => lhs; unfold walkL
  rw [if_pos h]
theorem walkL_nil {σ : Type} {f : VT → Nat → σ → σ × Bool} {d : Nat} {st : σ} : walkL f [] d st = (st, true) := by unfold walkL; rfl

/-- What the function that is shown each does: with a state that lies in block g alone. -/
def Shows {σ : Type} (k : Nat) (caps : Array Value) (S : Nat → Prop) (g : Nat) (Inv : World → σ → Prop) (f : VT → Nat → σ → σ × Bool) (top : Nat) : Prop :=
  ∀ (x : VT) (v : Value) (W : World) (lvl : Nat) (st : σ), g < W.heap.size → LV W S x v → lvl ≤ top → Inv W st →
    Calls Try.prog k (#[v, .int .i64 lvl] ++ caps) W fun e w' => e = .returned (.bool (f x lvl st).2) ∧ Inv w' (f x lvl st).1 ∧ Only W w' g

theorem Only.blk {w w' : World} {g b : Nat} (h : Only w w' g) (hb : b < w.heap.size) (hne : b ≠ g) : w'.heap[b]? = w.heap[b]? := h.block b hb (by rintro ⟨⟩; exact hne rfl)

set_option maxHeartbeats 2000000 in
set_option maxRecDepth 100000 in
theorem walk_any {σ : Type} (k : Nat) (caps : Array Value) (S : Nat → Prop) (g : Nat) (Inv : World → σ → Prop) (f : VT → Nat → σ → σ × Bool) (top : Nat) (hcf0 : Enters k) (hSg : ∀ b, S b → b < g) (htop : top ≤ 4611686018427387904)
    (hInv : ∀ W W' st, W'.heap[g]? = W.heap[g]? → Inv W st → Inv W' st) (hsee : Shows k caps S g Inv f top) :
    ∀ (n : Nat) (t : VT) (v : Value) (w : World) (lvl : Nat) (st : σ), depthT t ≤ n → LV w S t v → g < w.heap.size → lvl + depthT t ≤ top → Inv w st →
      Calls Try.prog 78 #[v, .int .i64 lvl, .func (.func k) #[] caps] w fun e w' => e = .returned (.bool (walkT f t lvl st).2) ∧ Inv w' (walkT f t lvl st).1 ∧ Only w w' g := by
  intro n
  induction n with
  | zero => intro t v w lvl st hd; cases t; rw [depthT_mk] at hd; omega
  | succ n ih =>
    intro t v w lvl st hd hv hg hlv hst
    have hcf : ∀ (args : Array Value) (W : World), (callFunc k args).run Try.prog W = .ok (.enter k args) W := hcf0
    have HV := Lib.hid hv
    obtain ⟨A, c, A', c', rfl, -, -, -, hll, -, -, hit⟩ := hv.shape
    have HIT := Lib.hid hit
    have HLL := Lib.hid hll
    have hlv2 : lvl ≤ 4611686018427387904 := by omega
    obtain ⟨o, ho⟩ : ∃ o : Obj, o = .cells #[.int .i64 t.kind, .int .i64 t.num, .string t.text, .slice A t.items.length c, .slice A' t.names.length c'] 25 := ⟨_, rfl⟩
    have hI1 : Inv (w.alloc o) st := hInv _ _ _ (Below.heap_alloc w o g hg) hst
    have hV1 : LV (w.alloc o) S t _ := HV.out.alloc (fun b h => Nat.lt_trans (hSg b h) hg) o
    have SEE := Lib.hid (hsee t _ (w.alloc o) lvl st (by simp; omega) hV1 (by omega) hI1)
    have HO := Lib.hid ho
    clear hv hit hll hst hI1 hV1 hsee hcf0
    subst ho
    generalize hR : walkT f t lvl st = R
    have HR := Lib.hid hR
    clear hR
    go_enter Try.func78, Try.ntmps78
    go_wp2_with fail
    refine SEE.out.mono ?_
    rintro e w1 ⟨rfl, hinv1, honly1⟩
    have honly : Only w w1 g := ((Only.refl w g).alloc _).trans honly1
    by_cases hf : (f t lvl st).2 = true
    · have hbx : w1.cell? ⟨w.heap.size, 3, none⟩ = some (.slice A t.items.length c) := by
        rw [World.cell?_of_block (a := ⟨w.heap.size, 3, none⟩) (honly1.blk (b := w.heap.size) (by simp) (by omega))]
        simp
      have HIN := Lib.hid hinv1
      have HON := Lib.hid honly
      have hsz := honly.size
      have HR1 : Hid (walkL f t.items (lvl + 1) (f t lvl st).1 = R) := by rw [← walkT_go hf]; exact HR
      clear HR
      clear hinv1 honly1 honly SEE HO HV hlv2
      go_wp2_with fail
      clear hf
      generalize (f t lvl st).1 = st1 at *
      go_loopw [17] (fun i wr => ∃ (j : Nat) (sj : σ), i = .int .i64 j ∧ j ≤ t.items.length ∧ Hid (walkL f (t.items.drop j) (lvl + 1) sj = R ∧ Inv wr sj ∧ Only w wr g)) (fun i _ => t.items.length - (intOf i).toNat)
      case atStart => exact ⟨0, st1, rfl, Nat.zero_le _, HR1.out, HIN.out, HON.out⟩
      case round =>
        obtain ⟨j, sj, rfl, hj, HI⟩ := hrel
        have hlb := HLL.out
        by_cases hlt : j < t.items.length
        · obtain ⟨b, off, rfl, hb, hl⟩ := HIT.out (by omega)
          obtain ⟨c0, c1, c2, c3, c4, h0, h1, h2, h3, h4, hx⟩ := hl.at j hlt
          obtain ⟨A2, e2, A3, e3, hag, -⟩ := hx.shape
          injection hag with hag
          injection hag with hag
          injection hag with g0 hag; injection hag with g1 hag; injection hag with g2 hag; injection hag with g3 hag; injection hag with g4 hag
          subst g0 g1 g2 g3 g4
          have hbg := hSg b hb
          have hk := HI.out.2.2.blk (b := b) (by omega) (by omega)
          have hw : ∀ o, wr.cell? ⟨b, o, none⟩ = w.cell? ⟨b, o, none⟩ := fun o => World.cell?_of_block (a := ⟨b, o, none⟩) hk
          rw [← hw] at h0 h1 h2 h3 h4
          have hx1 : LV wr S t.items[j] (.agg #[.int .i64 t.items[j].kind, .int .i64 t.items[j].num, .string t.items[j].text, .slice A2 t.items[j].items.length e2, .slice A3 t.items[j].names.length e3]) := hx.keep fun b' hb' => HI.out.2.2.blk (by have := hSg b' hb'; omega) (by have := hSg b' hb'; omega)
          have hgr := Nat.lt_of_lt_of_le hg HI.out.2.2.size
          have hx2 : LV (wr.alloc (.cells #[.int .i64 t.items[j].kind, .int .i64 t.items[j].num, .string t.items[j].text, .slice A2 t.items[j].items.length e2, .slice A3 t.items[j].names.length e3] 25)) S t.items[j] (.agg #[.int .i64 t.items[j].kind, .int .i64 t.items[j].num, .string t.items[j].text, .slice A2 t.items[j].items.length e2, .slice A3 t.items[j].names.length e3]) := hx1.alloc (fun b' hb' => Nat.lt_trans (hSg b' hb') hgr) _
          have hdp := depthL_le (List.getElem_mem hlt)
          have hdt : depthT t = depthL t.items + 1 := by cases t; exact depthT_mk _ _ _ _ _
          have IH := Lib.hid (ih t.items[j] _ _ (lvl + 1) sj (by omega) hx2 (by simp; omega) (by omega) (hInv _ _ _ (Below.heap_alloc wr _ g hgr) HI.out.2.1))
          have hdr : t.items.drop j = t.items[j] :: t.items.drop (j + 1) := List.drop_eq_getElem_cons hlt
          have HDR := Lib.hid hdr
          have hcl : ((lvl + 1 : Nat) : Int) = (lvl : Int) + 1 := by omega
          rw [hcl] at IH
          clear hl hx hx1 hx2 hdr hdp hdt hcl hw hk
          go_wp2_with fail
          refine IH.out.mono ?_
          rintro e w2 ⟨rfl, hinv2, honly2⟩
          have hon2 : Only w w2 g := (HI.out.2.2.alloc _).trans honly2
          by_cases hf2 : (walkT f t.items[j] (lvl + 1) sj).2 = true
          · have HI2 : Hid (walkL f (t.items.drop (j + 1)) (lvl + 1) (walkT f t.items[j] (lvl + 1) sj).1 = R ∧ Inv w2 (walkT f t.items[j] (lvl + 1) sj).1 ∧ Only w w2 g) := by
              refine ⟨?_, hinv2, hon2⟩
              rw [← HI.out.1, HDR.out, walkL_go hf2]
            clear hinv2 honly2 hon2 IH HI HDR
            go_wp2_with fail
            go_roundw
            case rel => exact ⟨j + 1, _, by go_num, by omega, HI2⟩
            case measure => simp [intOf]; omega
          · have hfin : R = ((walkT f t.items[j] (lvl + 1) sj).1, false) := by
              rw [← HI.out.1, HDR.out, walkL_stop (by simpa using hf2)]
            have HI2 := Lib.hid (And.intro hinv2 hon2)
            have HF := Lib.hid hfin
            clear hinv2 honly2 hon2 IH HI HDR hfin
            go_wp2_with fail
            go_ret
            rw [HF.out]
            exact ⟨rfl, HI2.out⟩
        · have hfin : R = (sj, true) := by
            rw [← HI.out.1, List.drop_eq_nil_of_le (by omega), walkL_nil]
          have HF := Lib.hid hfin
          clear hfin
          go_wp2_with fail
          go_ret
          rw [HF.out]
          exact ⟨rfl, HI.out.2⟩
    · have HF : Hid (R = ((f t lvl st).1, false)) := by rw [← walkT_stop (by simpa using hf)]; exact HR.out.symm
      have HI2 := Lib.hid (And.intro hinv1 honly)
      clear hinv1 honly1 honly SEE HO HV
      go_wp2_with fail
      go_ret
      rw [HF.out]
      exact ⟨rfl, HI2.out⟩
end Go.Proofs.Ytipiplnhbecjeaa

/- Whether a value may be, and how deep it is. -/
namespace Go.Proofs.Ytipiplnhbecjeaa
set_option linter.unusedVariables false
set_option linter.unusedSimpArgs false
open Go.RowKit

theorem enters_may : Enters 79 := fun _ _ => by simp [callFunc, go_sem, Try.func79, Try.f79]
theorem enters_depth : Enters 81 := fun _ _ => by simp [callFunc, go_sem, Try.func81, Try.f81]

def mayF : VT → Nat → Unit → Unit × Bool := fun x _ st => (st, fitsT x)
mutual
theorem walk_may : ∀ (t : VT) (d : Nat) (st : Unit), (walkT mayF t d st).2 = mayT t
  | .mk k i s l ns, d, st => by
    unfold mayT
    by_cases h : fitsT (.mk k i s l ns) = true
    · rw [walkT_go (f := mayF) (t := .mk k i s l ns) (d := d) (st := st) h, h, Bool.true_and]; exact walk_mayL l _ _
    · rw [walkT_stop (f := mayF) (by simpa [mayF] using h)]; simp [h]
theorem walk_mayL : ∀ (l : List VT) (d : Nat) (st : Unit), (walkL mayF l d st).2 = mayL l
  | [], d, st => by rw [walkL_nil]; unfold mayL; rfl
  | t :: r, d, st => by
    unfold mayL
    have h := walk_may t d st
    by_cases hm : mayT t = true
    · rw [walkL_go (by rw [h, hm]), hm, Bool.true_and]; exact walk_mayL r _ _
    · rw [walkL_stop (by rw [h]; simpa using hm)]; simp [hm]
end

set_option maxHeartbeats 400000 in
theorem mayC_any (S : Nat → Prop) (x : VT) (v : Value) (W : World) (lvl : Nat) (hS : ∀ b, S b → b < W.heap.size) (h : LV W S x v) : Calls Try.prog 79 #[v, .int .i64 lvl] W fun e w' => e = .returned (.bool (fitsT x)) ∧ Below W.heap.size W w' := by
  have HV := Lib.hid h
  obtain ⟨A, c, A', c', rfl, -, -, -, -, -, -, -⟩ := h.shape
  have HC := Lib.hid (fits_any S x _ _ (sub_alloc hS _) (h.alloc hS (.cells #[.int .i64 x.kind, .int .i64 x.num, .string x.text, .slice A x.items.length c, .slice A' x.names.length c'] 25)))
  clear h
  go_enter Try.func79, Try.ntmps79
  go_wp2_with fail
  refine HC.out.mono ?_
  rintro e w' ⟨rfl, hb⟩
  have HB := Lib.hid (toStart (below_box _) hb)
  clear hb HC
  go_wp2_with fail
  go_ret
  exact ⟨rfl, HB.out⟩

set_option maxHeartbeats 400000 in
theorem may_any (S : Nat → Prop) (t : VT) (v : Value) (w : World) (hS : ∀ b, S b → b < w.heap.size) (h : LV w S t v) (hd : depthT t ≤ 4611686018427387903) : Calls Try.prog 57 #[v] w fun e w' => e = .returned (.bool (mayT t)) ∧ Below w.heap.size w w' := by
  have HV := Lib.hid h
  obtain ⟨A, c, A', c', rfl, -, -, -, -, -, -, -⟩ := h.shape
  have hs : Shows 79 #[] S w.heap.size (fun _ _ => True) mayF 4611686018427387904 := fun x v W lvl st hg hv _ _ =>
    (mayC_any S x v W lvl (fun b hb => Nat.lt_trans (hS b hb) hg) hv).mono fun e w' ⟨he, hb⟩ => ⟨he, trivial, Only.ofBelow hb⟩
  have HC := Lib.hid (walk_any 79 #[] S w.heap.size (fun _ _ => True) mayF 4611686018427387904 enters_may hS (Nat.le_refl _) (fun _ _ _ _ _ => trivial) hs (depthT t) t _ (w.alloc (.cells #[.int .i64 t.kind, .int .i64 t.num, .string t.text, .slice A t.items.length c, .slice A' t.names.length c'] 25)) 1 () (Nat.le_refl _)
    (h.alloc hS _) (by simp) (by omega) trivial)
  have HR := Lib.hid (walk_may t 1 ())
  clear h hs
  go_enter Try.func57, Try.ntmps57
  go_wp2_with fail
  refine HC.out.mono ?_
  rintro e w' ⟨rfl, -, hb⟩
  have HB := Lib.hid ((below_box (w := w) _).trans (hb.below (by simp) (Nat.le_refl _)))
  rw [HR.out]
  clear hb HC
  go_wp2_with fail
  go_ret
  exact ⟨rfl, HB.out⟩

/-! ### depth -/
def depF : VT → Nat → Nat → Nat × Bool := fun _ lvl st => (max st lvl, true)
mutual
theorem walk_dep : ∀ (t : VT) (d : Nat) (st : Nat), walkT depF t d st = (max st (d + depthT t - 1), true)
  | .mk k i s l ns, d, st => by
    rw [walkT_go (f := depF) rfl, depthT_mk]
    show walkL depF l (d + 1) (max st d) = _
    rw [walk_depL l]
    by_cases h : depthL l = 0
    · rw [if_pos h, h]; congr 1
    · rw [if_neg h]; congr 1; omega
theorem walk_depL : ∀ (l : List VT) (d : Nat) (st : Nat), walkL depF l d st = (if depthL l = 0 then st else max st (d + depthL l - 1), true)
  | [], d, st => by rw [walkL_nil]; unfold depthL; rfl
  | t :: r, d, st => by
    have h := walk_dep t d st
    have ht : 1 ≤ depthT t := by cases t; rw [depthT_mk]; omega
    rw [walkL_go (by rw [h]), h, walk_depL r]
    conv => rhs; unfold depthL
    show (if depthL r = 0 then max st (d + depthT t - 1) else max (max st (d + depthT t - 1)) (d + depthL r - 1), true) = (if max (depthT t) (depthL r) = 0 then st else max st (d + max (depthT t) (depthL r) - 1), true)
    congr 1
    split <;> split <;> omega
end

def Cell1 (w : World) (g : Nat) (v : Value) : Prop := w.heap[g]? = some (.cells #[v] 3 (0, 0))
theorem Cell1.cell {w : World} {g : Nat} {v : Value} (h : Cell1 w g v) : w.cell? ⟨g, 0, none⟩ = some v := Go.Joins.cell_of_block h 0
theorem Cell1.free {w : World} {g : Nat} {v : Value} (h : Cell1 w g v) : w.frozen? ⟨g, 0, none⟩ = false := Go.Joins.unfrozen_of_block h 0
theorem Cell1.set {w : World} {g : Nat} {v : Value} (h : Cell1 w g v) (u : Value) : Cell1 (w.setCell ⟨g, 0, none⟩ u) g u := Go.Joins.block_setCell (i := 0) h u
theorem Cell1.alloc {w : World} {g : Nat} {v : Value} (h : Cell1 w g v) (hg : g < w.heap.size) (o : Obj) : Cell1 (w.alloc o) g v := (Below.heap_alloc w o g hg).trans h

set_option maxHeartbeats 400000 in
theorem depC_any (S : Nat → Prop) (g : Nat) (x : VT) (v : Value) (W : World) (lvl st : Nat) (hg : g < W.heap.size) (h : LV W S x v) (hl : lvl ≤ 4611686018427387904) (hc : Cell1 W g (.int .i64 st)) :
    Calls Try.prog 81 #[v, .int .i64 lvl, .pointer (some ⟨g, 0, none⟩)] W fun e w' => e = .returned (.bool true) ∧ Cell1 w' g (.int .i64 ((max st lvl : Nat) : Int)) ∧ Only W w' g := by
  obtain ⟨A, c, A', c', rfl, -, -, -, -, -, -, -⟩ := h.shape
  have HC := Lib.hid hc
  have c0 := hc.cell
  have f0 := hc.free
  clear h hc
  go_enter Try.func81, Try.ntmps81
  go_wp2_with fail
  all_goals
    go_ret
    refine ⟨rfl, ?_, ((Only.refl W g).set _ _).alloc _⟩
    have e := (HC.out.set (.int .i64 ((max st lvl : Nat) : Int))).alloc (by simpa [World.setCell] using hg) (.cells #[.int .i64 x.kind, .int .i64 x.num, .string x.text, .slice A x.items.length c, .slice A' x.names.length c'] 25)
  · have h : st < lvl := by assumption
    rwa [Nat.max_eq_right (by omega)] at e ⊢
  · have h : ¬ st < lvl := by assumption
    rwa [Nat.max_eq_left (by omega)] at e ⊢

set_option maxHeartbeats 400000 in
theorem depth_any (S : Nat → Prop) (t : VT) (v : Value) (w : World) (hS : ∀ b, S b → b < w.heap.size) (h : LV w S t v) (hd : depthT t ≤ 4611686018427387903) : Calls Try.prog 58 #[v] w fun e w' => e = .returned (.int .i64 (depthT t)) ∧ Below w.heap.size w w' := by
  obtain ⟨A, c, A', c', rfl, -, -, -, -, -, -, -⟩ := h.shape
  obtain ⟨o, ho⟩ : ∃ o : Obj, o = .cells #[.int .i64 t.kind, .int .i64 t.num, .string t.text, .slice A t.items.length c, .slice A' t.names.length c'] 25 := ⟨_, rfl⟩
  obtain ⟨w2, hw2⟩ : ∃ w2 : World, w2 = (w.alloc o).alloc (.cells #[.int .i64 0] 3) := ⟨_, rfl⟩
  have hsz : w2.heap.size = w.heap.size + 2 := by rw [hw2]; simp
  have hb2 : Below w.heap.size w w2 := by rw [hw2]; exact ((below_box o).alloc (by simp) _)
  have hs : Shows 81 #[.pointer (some ⟨w.heap.size + 1, 0, none⟩)] S (w.heap.size + 1) (fun W st => Cell1 W (w.heap.size + 1) (.int .i64 ((st : Nat) : Int))) depF 4611686018427387904 := fun x v W lvl st hg hv hl hc =>
    (depC_any S _ x v W lvl st hg hv hl hc).mono fun e w' ⟨he, hb, ho⟩ => ⟨he, hb, ho⟩
  have hc0 : Cell1 w2 (w.heap.size + 1) (.int .i64 ((0 : Nat) : Int)) := by
    have := heap_alloc_new (w.alloc o) (.cells #[.int .i64 0] 3)
    rw [hw2]
    unfold Cell1
    simpa using this
  have HC := Lib.hid (walk_any 81 #[.pointer (some ⟨w.heap.size + 1, 0, none⟩)] S (w.heap.size + 1) (fun W st => Cell1 W (w.heap.size + 1) (.int .i64 ((st : Nat) : Int))) depF 4611686018427387904 enters_depth (fun b hb => Nat.lt_succ_of_lt (hS b hb)) (Nat.le_refl _) (fun _ _ _ he hi => he.trans hi) hs (depthT t) t _ w2 1 0 (Nat.le_refl _)
    (h.below hS hb2) (by omega) (by omega) hc0)
  have hr := walk_dep t 1 0
  have ht : 1 ≤ depthT t := by cases t; rw [depthT_mk]; omega
  have hr1 : (walkT depF t 1 0).1 = depthT t := by rw [hr]; show max 0 (1 + depthT t - 1) = _; omega
  rw [hr1] at HC
  have HB := Lib.hid hb2
  subst ho hw2
  clear h hs hr hr1 ht hc0 hb2 hsz
  go_enter Try.func58, Try.ntmps58
  go_wp2_with fail
  refine HC.out.mono ?_
  rintro e w' ⟨rfl, hc, ho⟩
  have c0 := hc.cell
  have HB2 := Lib.hid (HB.out.trans (ho.below (B := w.heap.size) (by simp; omega) (by omega)))
  clear hc ho HC HB
  go_wp2_with fail
  go_ret
  exact ⟨rfl, HB2.out⟩

end Go.Proofs.Ytipiplnhbecjeaa
