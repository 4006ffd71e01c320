/- A path's text, and paths joined, call by call. -/
import Derived.Test.YthmgbginelbcoaaPathJ
import Derived.Test.YthmgbginelbcoaaPathB
import Derived.Test.YthmgbginelbcoaaPathI
import Derived.Test.YthmgbginelbcoaaShelf
namespace Go.Proofs.Ythmgbginelbcoaa
set_option linter.unusedVariables false
set_option linter.unusedSimpArgs false
open Go.RowKit

def GivesT (ns : List ByteArray) (w : World) (e : Ending) (w' : World) : Prop := e = .returned (.tuple #[.string (bsOf (joinL ns)), .int .i64 0]) ∧ Below w.heap.size w w'
def RefusesT (w : World) (e : Ending) (w' : World) : Prop := e = .returned (.tuple #[.string ⟨#[]⟩, .int .i64 40]) ∧ Below w.heap.size w w'
set_option maxHeartbeats 1000000 in
theorem text_no (A : Option Addr) (c : Nat) (ns : List ByteArray) (w : World) (S : Nat → Prop) (h : StrsAt w S A ns) (hn : ns.length ≤ 140737488351232) (hp : mayP ns = false) : Calls Try.prog 12 #[.slice A ns.length c] w (RefusesT w) := by
  go_enter Try.func12, Try.ntmps12
  go_wp2_with fail
  refine (may_any A c ns _ S h hn).mono ?_
  rintro e u ⟨rfl, rfl⟩
  go_wp2_with fail
  go_ret2
  exact ⟨rfl, Below.refl _ _⟩
set_option maxHeartbeats 1000000 in
theorem text_yes (A : Option Addr) (c : Nat) (ns : List ByteArray) (w : World) (S : Nat → Prop) (h : StrsAt w S A ns) (hS : ∀ b, S b → b < w.heap.size) (hc : ns.length ≤ c) (hp : mayP ns = true) : Calls Try.prog 12 #[.slice A ns.length c] w (GivesT ns w) := by
  obtain ⟨h1, h8, -⟩ := (mayP_iff ns).1 hp
  have hj := join_le hp
  obtain ⟨b, off, rfl, hb, hcl⟩ := h (by omega)
  have HS := Lib.hid h
  have HC : Hid (∀ (j : Nat) (x : ByteArray), ns[j]? = some x → w.cell? ⟨b, off + j, none⟩ = some (.string x)) := fun j x hx => by
    obtain ⟨hj, rfl⟩ := List.getElem?_eq_some_iff.1 hx
    exact (hcl j hj).1
  have HJ := Lib.hid hj
  have hbl := hS b hb
  clear h hcl hj
  go_enter Try.func12, Try.ntmps12
  go_wp2_with fail
  refine (may_any _ c ns _ S HS.out (by omega)).mono ?_
  rintro e u ⟨rfl, rfl⟩
  go_wp2_with fail
  refine (Try.strings_Join b off c ns ⟨#[46]⟩ _ HC.out hbl (by omega) hc (by have := HJ.out; exact Nat.le_trans this (by omega))).mono ?_
  rintro e w1 ⟨rfl, hb1⟩
  have HB := Lib.hid hb1
  clear hb1
  go_wp2_with fail
  go_ret2
  exact ⟨rfl, HB.out⟩

theorem mayP_take {ns : List ByteArray} (h : mayP ns = true) (k : Nat) (hk : 0 < k) : mayP (ns.take k) = true := by
  obtain ⟨h1, h8, h2⟩ := (mayP_iff ns).1 h
  exact (mayP_iff _).2 ⟨by simp; omega, by simp; omega, fun s hs => h2 s (List.mem_of_mem_take hs)⟩
theorem join_take {ns : List ByteArray} (k : Nat) (hk : 0 < k) (h : k < ns.length) : joinL (ns.take (k + 1)) = joinL (ns.take k) ++ [46] ++ ns[k].data.toList := by
  obtain ⟨j, rfl⟩ : ∃ j, k = j + 1 := ⟨k - 1, by omega⟩
  match ns, h with
  | s :: r, h =>
    unfold joinL
    simp only [List.take_succ_cons, List.map_cons, List.map_take, Lib.join_cons, List.getElem_cons_succ]
    rw [Lib.joinTail_take_succ [46] (r.map (·.data.toList)) j (r[j]'(by simpa using h)).data.toList (by simp at h; simp [h])]
    simp [List.append_assoc]
theorem join_take1 {ns : List ByteArray} (h : 0 < ns.length) : joinL (ns.take 1) = ns[0].data.toList := by
  match ns, h with
  | s :: r, h => simp [joinL, Lib.join_one]
theorem bs_app (l : List UInt8) (s : ByteArray) : bsOf l ++ s = bsOf (l ++ s.data.toList) := by
  rw [← bsOf_of (bsOf l ++ s)]
  congr 1
theorem ret_str {a b : ByteArray} (h : a = b) : Ending.returned (.string a) = .returned (.string b) := by rw [h]

set_option maxHeartbeats 2000000 in
theorem rtext_any (A : Option Addr) (c : Nat) (ns : List ByteArray) (w : World) (S : Nat → Prop) (h : StrsAt w S A ns) (hp : mayP ns = true) : Calls Try.prog 15 #[.slice A ns.length c] w fun e w' => e = .returned (.string (bsOf (joinL ns))) ∧ w = w' := by
  obtain ⟨h1, h8, -⟩ := (mayP_iff ns).1 hp
  obtain ⟨b, off, rfl, hb, hcl⟩ := h (by omega)
  have HP := Lib.hid hp
  have HC := Lib.hid hcl
  clear h hcl hp
  go_enter Try.func15, Try.ntmps15
  go_wp2_with fail
  go_loopw [3, 4] (fun t i wr => ∃ k : Nat, i = .int .i64 k ∧ k ≤ ns.length ∧ t = .string (bsOf (if k = 0 then [] else joinL (ns.take k))) ∧ wr = w) (fun _ i _ => ns.length - (intOf i).toNat)
  case atStart => exact ⟨0, rfl, by omega, rfl, rfl⟩
  case round =>
    obtain ⟨k, rfl, hk, rfl, rfl⟩ := hrel
    by_cases hlt : k < ns.length
    · have hck := (HC.out k hlt).1
      have hz : ns[k].size ≤ 32 := ((nameB_iff _).1 (((mayP_iff ns).1 HP.out).2.2 _ (List.getElem_mem hlt))).2.1
      by_cases h0 : k = 0
      · have H0 := Lib.hid h0
        have H1 : Hid (joinL (ns.take (k + 1)) = ns[k].data.toList) := by
          subst h0
          exact join_take1 hlt
        rw [if_pos h0]
        have hk0 : (k : Int) ≤ 0 := by omega
        have happ := bs_app [] ns[k]
        rw [List.nil_append] at happ
        have hz0 : (bsOf []).size = 0 := rfl
        have hov : ¬ 9223372036854775807 < (bsOf []).size + ns[k].size := by omega
        clear h0 hz hz0
        go_wp2_with fail
        go_roundw
        case rel => exact ⟨k + 1, by go_num, by omega, by rw [if_neg (by omega), H1.out], trivial⟩
        case measure => simp [intOf]; omega
      · have H1 := Lib.hid (join_take k (by omega) hlt)
        have hk0 : (0 : Int) < (k : Int) := by omega
        rw [if_neg h0]
        have hjl := join_le (mayP_take HP.out k (by omega))
        obtain ⟨t, ht⟩ : ∃ t, t = joinL (ns.take k) := ⟨_, rfl⟩
        rw [← ht] at H1 hjl ⊢
        have e1 : bsOf t ++ ⟨#[46]⟩ = bsOf (t ++ [46]) := bs_app t ⟨#[46]⟩
        have e2 : bsOf (t ++ [46]) ++ ns[k] = bsOf (t ++ [46] ++ ns[k].data.toList) := bs_app _ _
        have hz1 : (bsOf t).size ≤ 263 := hjl
        have hz2 : (bsOf (t ++ [46])).size ≤ 264 := by show (t ++ [46]).length ≤ 264; simp; omega
        have hov : ¬ 9223372036854775807 < (bsOf t).size + 1 := by omega
        have hov2 : ¬ 9223372036854775807 < (bsOf (t ++ [46])).size + ns[k].size := by omega
        clear ht hjl hz hz1 hz2 h0
        go_wp2_with fail
        go_roundw
        case rel => exact ⟨k + 1, by go_num, by omega, by rw [if_neg (by omega), H1.out, List.append_assoc]; rfl, trivial⟩
        case measure => simp [intOf]; omega
    · obtain rfl : k = ns.length := by omega
      rw [if_neg (by omega), List.take_length]
      go_wp2_with fail
      go_ret
      exact ⟨rfl, rfl⟩

/-! ### joined -/
theorem below_one (w : World) (o : Obj) : Below w.heap.size w (w.alloc o) := (Below.refl _ _).alloc (Nat.le_refl _) o
def JoinR (ns : List ByteArray) (w : World) (e : Ending) (w' : World) : Prop := (mayP ns = true → GivesP ns w e w') ∧ (mayP ns = false → RefusesP w e w')
set_option maxHeartbeats 2000000 in
theorem join_any (ns : List ByteArray) (A B : Option Addr) (c d : Nat) (a b : List ByteArray) (hns : ns = a ++ b) (w : World) (S T : Nat → Prop) (h : StrsAt w S A a) (k : StrsAt w T B b) (hS : ∀ b, S b → b < w.heap.size) (hT : ∀ b, T b → b < w.heap.size) (ha : a.length ≤ 1000) (hb : b.length ≤ 1000)
    (hA : A = none → c = 0) (hB : B = none → d = 0) (hsz : ∀ s ∈ ns, s.size ≤ 140737488351232) :
    Calls Try.prog 21 #[.slice A a.length c, .slice B b.length d] w (JoinR ns w) := by
  have HS := Lib.hid h
  have HT := Lib.hid k
  have HA := Lib.hid hA
  have HB := Lib.hid hB
  have HZ := Lib.hid hsz
  have HNS := Lib.hid hns
  clear h k hA hB hsz hns
  go_enter Try.func21, Try.ntmps21
  go_wp2_with fail
  obtain ⟨q0, q1⟩ := two_cells w (.slice A a.length c) (.slice B b.length d) 23
  have hb0 := below_one w (.cells #[.slice A a.length c, .slice B b.length d] 23)
  refine (concat_any w.heap.size A B c d a b _ S T (HS.out.keep fun x hx => hb0.block x (hS x hx)) (HT.out.keep fun x hx => hb0.block x (hT x hx)) (fun x hx => Nat.lt_of_lt_of_le (hS x hx) hb0.size) (fun x hx => Nat.lt_of_lt_of_le (hT x hx) hb0.size) ha hb HA.out HB.out (by simp) q0 q1).mono ?_
  rintro e w1 ⟨v, rfl, hv, hb1⟩
  have hl : ns.length ≤ 2000 := by rw [HNS.out]; simp; omega
  rw [← HNS.out] at hv
  obtain ⟨A', c', rfl, hc, hst⟩ := hv.opens HZ.out
  have HB1 := Lib.hid (grow_trans hb0 hb1)
  have HST : Hid (StrsAt w1 (fun b => w.heap.size ≤ b ∧ b < w1.heap.size) A' ns) := hst.imp fun x hx => ⟨Nat.le_trans hb0.size hx.1, hx.2⟩
  clear hv hst hb1 q0 q1 hb0
  go_wp2_with fail
  refine (may_any A' c' ns _ _ HST.out (by omega)).mono ?_
  rintro e u ⟨rfl, rfl⟩
  cases hp : mayP ns
  · go_wp2_with fail
    go_ret2
    exact ⟨fun h => (by rw [hp] at h; cases h), fun _ => ⟨rfl, HB1.out⟩⟩
  · go_wp2_with fail
    go_ret2
    exact ⟨fun _ => ⟨A', c', rfl, hc, HST.out, HB1.out⟩, fun h => (by rw [hp] at h; cases h)⟩
end Go.Proofs.Ythmgbginelbcoaa
