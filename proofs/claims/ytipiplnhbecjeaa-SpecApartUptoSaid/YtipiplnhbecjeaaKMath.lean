/- Plain facts, without conditions on the program: a count as groups of 7 bits, such groups read back, and the zigzag of a number of 64 bits. -/
import Derived.Test.YtipiplnhbecjeaaKReg
import Derived.Below
import Derived.Test.YtipiplnhbecjeaaRows
import Derived.WalkKit
import Derived.WalkSpells
import Derived.WalkLawsBesides
import Derived.Lib.Hide
import Derived.Lib.AppendStr
import Derived.Lib.SmallJoins
namespace Go.Proofs.Ytipiplnhbecjeaa
set_option linter.unusedVariables false
set_option linter.unusedSimpArgs false

/-- A count's groups, the lowest first; f bounds how many follow the first. -/
def grpF : Nat → Nat → List UInt8
  | 0, n => [UInt8.ofNat n]
  | f + 1, n => if n < 128 then [UInt8.ofNat n] else UInt8.ofNat (n % 128 + 128) :: grpF f (n / 128)
def grp (n : Nat) : List UInt8 := grpF 10 n

theorem grpF_more : ∀ (f n : Nat), n < 128 ^ (f + 1) → grpF (f + 1) n = grpF f n
  | 0, n, h => by
    have h' : n < 128 := by simpa using h
    simp [grpF, h']
  | f + 1, n, h => by
    have h2 : n / 128 < 128 ^ (f + 1) := by
      rw [Nat.pow_succ] at h
      exact Nat.div_lt_of_lt_mul (by omega)
    rw [grpF]
    conv => rhs; rw [grpF]
    rw [grpF_more f (n / 128) h2]

theorem grp_small (n : Nat) (h : n < 128) : grp n = [UInt8.ofNat n] := by
  unfold grp; rw [grpF, if_pos h]
theorem grp_large (n : Nat) (h : 128 ≤ n) (hn : n < 18446744073709551616) : grp n = UInt8.ofNat (n % 128 + 128) :: grp (n / 128) := by
  unfold grp
  rw [grpF, if_neg (by omega), grpF_more 9 (n / 128)]
  have : (128 : Nat) ^ 10 = 1180591620717411303424 := by decide
  omega
theorem grpF_length : ∀ f n, (grpF f n).length ≤ f + 1 ∧ 1 ≤ (grpF f n).length
  | 0, n => by simp [grpF]
  | f + 1, n => by
    rw [grpF]
    split
    · simp
    · have := grpF_length f (n / 128)
      simp only [List.length_cons]; omega
theorem grp_length (n : Nat) : (grp n).length ≤ 11 ∧ 1 ≤ (grp n).length := grpF_length 10 n

/-- Bytes as cells. -/
def bcells (l : List UInt8) : List Value := l.map fun b => Value.int .u8 b.toNat
theorem bcells_length (l : List UInt8) : (bcells l).length = l.length := by simp [bcells]
theorem bcells_append (a b : List UInt8) : bcells (a ++ b) = bcells a ++ bcells b := by simp [bcells]
theorem bcells_one (b : UInt8) : bcells [b] = [Value.int .u8 b.toNat] := rfl
theorem bcells_oneCell (l : List UInt8) : ∀ u ∈ bcells l, u.oneCell' = true := by
  intro u hu
  simp only [bcells, List.mem_map] at hu
  obtain ⟨b, _, rfl⟩ := hu
  rfl

/-- The zigzag of a number. -/
def zig (x : Int) : Nat := if x < 0 then (-2 * x - 1).toNat else (2 * x).toNat
def zag (n : Nat) : Int := if n % 2 = 1 then -((n / 2 : Nat) : Int) - 1 else ((n / 2 : Nat) : Int)
theorem zag_zig (x : Int) : zag (zig x) = x := by
  unfold zag zig; split <;> split <;> omega
theorem zig_lt (x : Int) (h1 : -9223372036854775808 ≤ x) (h2 : x ≤ 9223372036854775807) : zig x < 18446744073709551616 := by
  unfold zig; split <;> omega
theorem zig_inj {x y : Int} (h : zig x = zig y) : x = y := by rw [← zag_zig x, ← zag_zig y, h]

/-- What the groups at the beginning of l say, i groups being read already that said acc; and how many groups there are: 0, if there is no code. -/
def getG : Nat → Nat → List UInt8 → Nat × Nat
  | _, _, [] => (0, 0)
  | i, acc, b :: r =>
    if 10 ≤ i then (0, 0)
    else if i = 9 ∧ 1 < b.toNat then (0, 0)
    else if b.toNat < 128 then (if b.toNat = 0 ∧ 0 < i then (0, 0) else (acc + b.toNat * 128 ^ i, i + 1))
    else getG (i + 1) (acc + (b.toNat - 128) * 128 ^ i) r

theorem getG_size_le : ∀ (l : List UInt8) (i acc : Nat), (getG i acc l).2 ≤ i + l.length ∧ (getG i acc l).2 ≤ 10
  | [], i, acc => by simp [getG]
  | b :: r, i, acc => by
    unfold getG
    have := getG_size_le r (i + 1) (acc + (b.toNat - 128) * 128 ^ i)
    simp only [List.length_cons]
    repeat' split
    all_goals (first | omega | (simp; done) | (simp; omega))

theorem ofNat_toNat (n : Nat) (h : n < 256) : (UInt8.ofNat n).toNat = n := by
  simp [UInt8.toNat_ofNat', Nat.mod_eq_of_lt h]

/-- What grp puts is read, whatever stands behind it. -/
theorem getG_grpF : ∀ (f n i acc : Nat) (r : List UInt8), f + i = 9 → n < 2 * 128 ^ f → (0 < i → 0 < n) → getG i acc (grpF f n ++ r) = (acc + n * 128 ^ i, i + (grpF f n).length)
  | 0, n, i, acc, r, hi, hn, hz => by
    have hn' : n < 2 := by simpa using hn
    obtain rfl : i = 9 := by omega
    have hb : (UInt8.ofNat n).toNat = n := ofNat_toNat n (by omega)
    have := hz (by omega)
    simp only [grpF, List.cons_append, List.nil_append, getG, hb]
    rw [if_neg (by omega), if_neg (by omega), if_pos (by omega), if_neg (by omega)]
    rfl
  | f + 1, n, i, acc, r, hi, hn, hz => by
    rw [grpF]
    split
    · next hs =>
      have hb : (UInt8.ofNat n).toNat = n := ofNat_toNat n (by omega)
      simp only [List.cons_append, List.nil_append, getG, hb]
      rw [if_neg (by omega), if_neg (by omega), if_pos (by omega), if_neg (by omega)]
      rfl
    · next hs =>
      have hb : (UInt8.ofNat (n % 128 + 128)).toNat = n % 128 + 128 := ofNat_toNat _ (by omega)
      have hn2 : n / 128 < 2 * 128 ^ f := by
        have e : (128 : Nat) ^ (f + 1) = 128 * 128 ^ f := by rw [Nat.pow_succ]; omega
        rw [e] at hn
        exact Nat.div_lt_of_lt_mul (by rw [← Nat.mul_assoc, Nat.mul_comm 128 2, Nat.mul_assoc]; exact hn)
      simp only [List.cons_append, getG, hb]
      rw [if_neg (by omega), if_neg (by omega), if_neg (by omega), getG_grpF f (n / 128) (i + 1) _ r (by omega) hn2 (by omega)]
      have e2 : acc + (n % 128 + 128 - 128) * 128 ^ i + n / 128 * 128 ^ (i + 1) = acc + n * 128 ^ i := by
        have e3 : (128 : Nat) ^ (i + 1) = 128 * 128 ^ i := by rw [Nat.pow_succ]; omega
        rw [e3, Nat.add_sub_cancel, ← Nat.mul_assoc, Nat.add_assoc, ← Nat.add_mul]
        congr 2
        omega
      rw [e2]
      simp only [List.length_cons, Prod.mk.injEq, true_and]
      omega

theorem grp_eq9 (n : Nat) (h : n < 18446744073709551616) : grp n = grpF 9 n := by
  unfold grp
  apply grpF_more
  have : (128 : Nat) ^ 10 = 1180591620717411303424 := by decide
  omega
theorem getG_grp (n : Nat) (r : List UInt8) (h : n < 18446744073709551616) : getG 0 0 (grp n ++ r) = (n, (grp n).length) := by
  rw [grp_eq9 n h, getG_grpF 9 n 0 0 r rfl (by have : (128 : Nat) ^ 9 = 9223372036854775808 := by decide
                                               omega) (by omega)]
  simp
theorem grp_apart {m n : Nat} (hm : m < 18446744073709551616) (hn : n < 18446744073709551616) {r s : List UInt8} (h : grp m ++ r = grp n ++ s) : m = n := by
  have h1 := getG_grp m r hm
  rw [h, getG_grp n s hn] at h1
  injection h1 with h1 _
  exact h1.symm
theorem getG_lt : ∀ (l : List UInt8) (i acc : Nat), acc < 128 ^ i → i ≤ 9 → (getG i acc l).1 < 18446744073709551616
  | [], i, acc, _, _ => by simp [getG]
  | b :: r, i, acc, h, hi => by
    have hb := UInt8.toNat_lt b
    have hstep : ∀ c, c < 128 → acc + c * 128 ^ i < 128 ^ (i + 1) := by
      intro c hc
      have e3 : (128 : Nat) ^ (i + 1) = 128 * 128 ^ i := by rw [Nat.pow_succ]; omega
      have : c * 128 ^ i ≤ 127 * 128 ^ i := Nat.mul_le_mul_right _ (by omega)
      omega
    have hp : ∀ j, j ≤ 9 → (128 : Nat) ^ j ≤ 9223372036854775808 := by
      intro j hj
      have : (128 : Nat) ^ j ≤ 128 ^ 9 := Nat.pow_le_pow_right (by omega) hj
      have e9 : (128 : Nat) ^ 9 = 9223372036854775808 := by decide
      omega
    unfold getG
    split
    · simp
    · split
      · simp
      · next h9 =>
        split
        · next hs =>
          split
          · simp
          · by_cases e : i = 9
            · subst e
              have e9 : (128 : Nat) ^ 9 = 9223372036854775808 := by decide
              have : b.toNat ≤ 1 := by omega
              have : b.toNat * 128 ^ 9 ≤ 1 * 128 ^ 9 := Nat.mul_le_mul_right _ this
              simp only []; omega
            · have := hstep b.toNat (by omega)
              have := hp (i + 1) (by omega)
              simp only []; omega
        · next hs =>
          have hne : i ≠ 9 := by omega
          exact getG_lt r (i + 1) _ (hstep _ (by omega)) (by omega)

end Go.Proofs.Ytipiplnhbecjeaa

/- Lists of texts that lie in memory, and which texts may be names. -/
namespace Go.Proofs.Ytipiplnhbecjeaa
set_option linter.unusedVariables false
set_option linter.unusedSimpArgs false
open Go.RowKit

theorem add_at (b off i : Nat) : ((⟨b, off, none⟩ : Addr).add i) = ⟨b, off + i, none⟩ := by
  unfold Addr.add
  split
  · next h => simp [h]
  · rfl

theorem drop_cons (s : ByteArray) (k : Nat) (h : k < s.size) : s.data.toList.drop k = s[k] :: s.data.toList.drop (k + 1) := List.drop_eq_getElem_cons (by simpa using h)
/-- Bytes as a text. -/
def bsOf (l : List UInt8) : ByteArray := ⟨l.toArray⟩
theorem bsOf_data (l : List UInt8) : (bsOf l).data.toList = l := rfl
theorem bsOf_of (s : ByteArray) : bsOf s.data.toList = s := rfl
theorem bsOf_size (l : List UInt8) : (bsOf l).size = l.length := rfl

/-! ### names -/
def nameB (l : List UInt8) : Bool := decide (1 ≤ l.length ∧ l.length ≤ 32) && l.head? != some 36 && !(l.contains 46)

/-- A list of strings that lies in memory, in blocks of S alone. -/
def StrsAt (w : World) (S : Nat → Prop) (A : Option Addr) (ns : List ByteArray) : Prop :=
  0 < ns.length → ∃ b off, A = some ⟨b, off, none⟩ ∧ S b ∧ ∀ i (h : i < ns.length), w.cell? ⟨b, off + i, none⟩ = some (.string ns[i]) ∧ ns[i].size ≤ 140737488351232
theorem StrsAt.keep {w w' : World} {S : Nat → Prop} {A : Option Addr} {ns : List ByteArray} (h : StrsAt w S A ns) (hk : ∀ b, S b → w'.heap[b]? = w.heap[b]?) : StrsAt w' S A ns := by
  intro hp
  obtain ⟨b, off, hA, hS, hc⟩ := h hp
  exact ⟨b, off, hA, hS, fun i hi => ⟨(World.cell?_of_block (a := ⟨b, off + i, none⟩) (hk b hS)).trans (hc i hi).1, (hc i hi).2⟩⟩
theorem StrsAt.imp {w : World} {S S' : Nat → Prop} {A : Option Addr} {ns : List ByteArray} (h : StrsAt w S A ns) (hS : ∀ b, S b → S' b) : StrsAt w S' A ns := by
  intro hp
  obtain ⟨b, off, hA, hb, hc⟩ := h hp
  exact ⟨b, off, hA, hS b hb, hc⟩
/-- What lies below a bound stays where nothing below it turns. -/
theorem StrsAt.later {w w' : World} {B : Nat} {A : Option Addr} {ns : List ByteArray} (h : StrsAt w (fun b => b < B) A ns) (hb : Below B w w') : StrsAt w' (fun b => b < B) A ns := h.keep fun b hb' => hb.block b hb'
theorem StrsAt.nil {w : World} {S : Nat → Prop} {A : Option Addr} : StrsAt w S A [] := fun h => absurd h (by simp)
theorem StrsAt.take {w : World} {S : Nat → Prop} {A : Option Addr} {ns : List ByteArray} (h : StrsAt w S A ns) (k : Nat) : StrsAt w S A (ns.take k) := by
  intro hp
  obtain ⟨b, off, hA, hS, hc⟩ := h (by simp at hp; omega)
  exact ⟨b, off, hA, hS, fun i hi => by
    have := hc i (by simp at hi; omega)
    simpa using this⟩

theorem nameB_iff (s : ByteArray) : nameB s.data.toList = true ↔ 1 ≤ s.size ∧ s.size ≤ 32 ∧ (∀ h : 0 < s.size, s[0].toNat ≠ 36) ∧ ∀ i (h : i < s.size), s[i].toNat ≠ 46 := by
  have hl : s.data.toList.length = s.size := rfl
  have hg : ∀ i (h : i < s.size), s[i] = s.data.toList[i]'(by rw [hl]; exact h) := fun i h => rfl
  have hu : ∀ (b c : UInt8), b.toNat = c.toNat ↔ b = c := fun b c => ⟨fun h => UInt8.toNat_inj.1 h, fun h => by rw [h]⟩
  unfold nameB
  simp only [Bool.and_eq_true, decide_eq_true_eq, Bool.not_eq_true', bne_iff_ne, ne_eq, hl]
  have h1 : (s.data.toList.contains 46 = false) ↔ ∀ i (h : i < s.size), s[i].toNat ≠ 46 := by
    rw [← Bool.not_eq_true, List.contains_iff_mem, List.mem_iff_getElem]
    constructor
    · intro h i hi he
      exact h ⟨i, by rw [hl]; exact hi, by rw [← hg i hi]; exact (hu _ 46).1 he⟩
    · rintro h ⟨i, hi, he⟩
      exact h i (by rw [← hl]; exact hi) (by rw [hg i (by rw [← hl]; exact hi), he]; rfl)
  have h2 : (¬ s.data.toList.head? = some 36) ↔ ∀ h : 0 < s.size, s[0].toNat ≠ 36 := by
    rw [List.head?_eq_getElem?]
    constructor
    · intro h hp he
      apply h
      rw [List.getElem?_eq_getElem (by rw [hl]; exact hp), ← hg 0 hp]
      exact congrArg some ((hu _ 36).1 he)
    · intro h he
      obtain ⟨hp, he⟩ := List.getElem?_eq_some_iff.1 he
      exact h (by rw [← hl]; exact hp) (by rw [hg 0 (by rw [← hl]; exact hp), he]; rfl)
  rw [h1, h2]
  constructor
  · rintro ⟨⟨⟨a, b⟩, c⟩, d⟩; exact ⟨a, b, c, d⟩
  · rintro ⟨a, b, c, d⟩; exact ⟨⟨⟨a, b⟩, c⟩, d⟩
theorem ret_bool {a b : Bool} (h : a = b) : Ending.returned (.bool a) = .returned (.bool b) := by rw [h]
theorem name_false {s : ByteArray} (h : ¬ (1 ≤ s.size ∧ s.size ≤ 32 ∧ (∀ h : 0 < s.size, s[0].toNat ≠ 36) ∧ ∀ i (h : i < s.size), s[i].toNat ≠ 46)) : false = nameB s.data.toList := by
  rw [← nameB_iff] at h; simpa using h
theorem name_true {s : ByteArray} (h : 1 ≤ s.size ∧ s.size ≤ 32 ∧ (∀ h : 0 < s.size, s[0].toNat ≠ 36) ∧ ∀ i (h : i < s.size), s[i].toNat ≠ 46) : true = nameB s.data.toList := ((nameB_iff s).2 h).symm
theorem toList_nil {s : ByteArray} : s.toList = [] ↔ s.size = 0 := by
  rw [ByteArray.toList_eq]
  show s.data.toList = [] ↔ s.data.toList.length = 0
  exact List.length_eq_zero_iff.symm
theorem isEmpty_size {s : ByteArray} : s.toList.isEmpty = true ↔ s.size = 0 := by rw [List.isEmpty_iff, toList_nil]

set_option maxHeartbeats 1000000 in
theorem name_any (s : ByteArray) (w : World) (hs : s.size ≤ 9223372036854775807) : Calls Try.prog 56 #[.string s] w fun e w' => e = .returned (.bool (nameB s.data.toList)) ∧ w = w' := by
  have HS := Lib.hid hs
  clear hs
  go_enter Try.func56, Try.ntmps56
  go_wp2
  · have h0 := toList_nil.1 (by assumption : s.toList = [])
    go_ret
    exact ⟨ret_bool (name_false fun h => by omega), rfl⟩
  · rename_i h0 h1 h2 h3
    go_ret
    refine ⟨ret_bool (name_false fun h => ?_), rfl⟩
    rcases h3 with (h3 | h3) | h3
    · rw [isEmpty_size] at h3; omega
    · omega
    · exact h.2.2.1 h2 (by have h4 : ((s[0].toNat : Int)) = 36 := eq_of_beq h3; omega)
  · have h2 : 0 < s.size := by assumption
    have h3 : (s.toList.isEmpty = false ∧ (s.size : Int) ≤ 32) ∧ (((s[0]'h2).toNat : Int) == 36) = false := by assumption
    have H0 := Lib.hid (show 1 ≤ s.size ∧ s.size ≤ 32 ∧ (∀ h : 0 < s.size, s[0].toNat ≠ 36) from ⟨h2, by omega, fun h he => by have := h3.2; rw [he] at this; simp at this⟩)
    go_loopw [18] (fun i wr => ∃ k : Nat, i = .int .i64 k ∧ k ≤ s.size ∧ wr = w ∧ ∀ j (h : j < s.size), j < k → s[j].toNat ≠ 46) (fun i _ => s.size - (intOf i).toNat)
    case atStart => exact ⟨0, rfl, by omega, rfl, fun j _ h => absurd h (by omega)⟩
    case round =>
      obtain ⟨k, rfl, hk, rfl, hj⟩ := hrel
      have HJ := Lib.hid hj
      clear hj
      by_cases hlt : k < s.size
      · by_cases hb : s[k].toNat = 46
        · go_wp2
          go_ret
          exact ⟨ret_bool (name_false fun h => h.2.2.2 k hlt hb), rfl⟩
        · go_wp2
          go_roundw
          case rel => exact ⟨k + 1, by go_num, by omega, trivial, fun j h hjk => by
            by_cases e : j = k
            · subst e; exact hb
            · exact HJ.out j h (by omega)⟩
          case measure => simp [intOf]; omega
      · go_wp2
        go_ret
        exact ⟨ret_bool (name_true ⟨H0.out.1, H0.out.2.1, H0.out.2.2, fun i h => HJ.out i h (by omega)⟩), rfl⟩
  · have h0 := mt toList_nil.2 (by assumption : ¬ s.toList = [])
    omega
  · go_ret
    exact ⟨ret_bool (name_false fun h => by omega), rfl⟩
end Go.Proofs.Ytipiplnhbecjeaa

/- Values within values, as trees: what the order, the depth, the size and the looks of a tree are. -/
namespace Go.Proofs.Ytipiplnhbecjeaa
set_option linter.unusedVariables false
set_option linter.unusedSimpArgs false

/-- A value: kind, number, text, items, names. -/
inductive VT where
  | mk (k i : Int) (s : ByteArray) (l : List VT) (ns : List ByteArray) : VT

namespace VT
def kind : VT → Int | mk k _ _ _ _ => k
def num : VT → Int | mk _ i _ _ _ => i
def text : VT → ByteArray | mk _ _ s _ _ => s
def items : VT → List VT | mk _ _ _ l _ => l
def names : VT → List ByteArray | mk _ _ _ _ ns => ns
end VT

/-! ### how many, up to a bound -/
mutual
def nodesT : Nat → VT → Nat
  | d, .mk _ _ _ l ns => if 40 < d then 1048576 else nodesL d (1 + ns.length) l
def nodesL : Nat → Nat → List VT → Nat
  | _, n, [] => n
  | d, n, t :: r => if n < 65536 then nodesL d (n + nodesT (d + 1) t) r else n
end
def largeT (t : VT) : Bool := decide (3000 < nodesT 0 t)

/-! ### how deep -/
mutual
def depthT : VT → Nat
  | .mk _ _ _ l _ => depthL l + 1
def depthL : List VT → Nat
  | [] => 0
  | t :: r => max (depthT t) (depthL r)
end

/-! ### a walk from above: a state, and whether it goes on -/
mutual
def walkT {σ : Type} (f : VT → Nat → σ → σ × Bool) : VT → Nat → σ → σ × Bool
  | .mk k i s l ns, d, st => if (f (.mk k i s l ns) d st).2 then walkL f l (d + 1) (f (.mk k i s l ns) d st).1 else ((f (.mk k i s l ns) d st).1, false)
def walkL {σ : Type} (f : VT → Nat → σ → σ × Bool) : List VT → Nat → σ → σ × Bool
  | [], _, st => (st, true)
  | t :: r, d, st => if (walkT f t d st).2 then walkL f r d (walkT f t d st).1 else ((walkT f t d st).1, false)
end

/-! ### names -/
def distinctN : List ByteArray → Bool
  | [] => true
  | s :: r => nameB s.data.toList && !((r.map fun x => x.data.toList).contains s.data.toList) && distinctN r

/-! ### may it be -/
def fitsP (k i : Int) (s : ByteArray) (n : Nat) (ns : List ByteArray) : Bool :=
  if k = 1 then decide (i = 0) && decide (s.toList = []) && (n == 0 && ns.length == 0)
  else if k = 2 then (decide (i = 0) || decide (i = 1)) && decide (s.toList = []) && (n == 0 && ns.length == 0)
  else if k = 3 then decide (s.toList = []) && (n == 0 && ns.length == 0)
  else if k = 4 ∨ k = 5 then decide (i = 0) && (n == 0 && ns.length == 0)
  else if k = 6 then decide (i = 0) && decide (s.toList = []) && ns.length == 0
  else if k = 7 then decide (i = 0) && decide (s.toList = []) && ns.length == n && distinctN ns
  else false
def fitsT : VT → Bool
  | .mk k i s l ns => fitsP k i s l.length ns
mutual
def mayT : VT → Bool
  | .mk k i s l ns => fitsT (.mk k i s l ns) && mayL l
def mayL : List VT → Bool
  | [] => true
  | t :: r => mayT t && mayL r
end
end Go.Proofs.Ytipiplnhbecjeaa

/- Which texts may be names, as the document's answer has it. -/
namespace Go.Proofs.Ytipiplnhbecjeaa
set_option linter.unusedVariables false
set_option linter.unusedSimpArgs false
open Go.RowKit

set_option maxHeartbeats 1000000 in
theorem rname_any (s : ByteArray) (w : World) (hs : s.size ≤ 9223372036854775807) : Calls Try.prog 18 #[.string s] w fun e w' => e = .returned (.bool (nameB s.data.toList)) ∧ w = w' := by
  have HS := Lib.hid hs
  clear hs
  go_enter Try.func18, Try.ntmps18
  go_wp2
  go_loopw [3] (fun i wr => ∃ k : Nat, i = .int .i64 k ∧ k ≤ s.size ∧ wr = w ∧ ∀ j (h : j < s.size), j < k → s[j].toNat ≠ 46) (fun i _ => s.size - (intOf i).toNat)
  case atStart => exact ⟨0, rfl, by omega, rfl, fun j _ h => absurd h (by omega)⟩
  case round =>
    obtain ⟨k, rfl, hk, rfl, hj⟩ := hrel
    have HJ := Lib.hid hj
    have hs := HS.out
    clear hj
    by_cases hlt : k < s.size
    · by_cases hb : s[k].toNat = 46
      · go_wp2
        go_ret
        exact ⟨ret_bool (name_false fun h => h.2.2.2 k hlt hb), rfl⟩
      · go_wp2
        go_roundw
        case rel => exact ⟨k + 1, by go_num, by omega, trivial, fun j h hjk => by
          by_cases e : j = k
          · subst e; exact hb
          · exact HJ.out j h (by omega)⟩
        case measure => simp [intOf]; omega
    · obtain rfl : k = s.size := by omega
      clear hlt hk
      by_cases h1 : 1 ≤ s.size
      · by_cases h2 : s.size ≤ 32
        · by_cases h3 : s[0].toNat = 36
          · go_wp2
            go_ret
            exact ⟨ret_bool (name_false fun h => h.2.2.1 h1 h3), rfl⟩
          · go_wp2
            go_ret
            exact ⟨ret_bool (((bne_iff_ne).2 fun h => h3 (by omega)).trans (name_true ⟨h1, h2, fun _ => h3, fun i h => HJ.out i h h⟩)), rfl⟩
        · go_wp2
          go_ret
          exact ⟨ret_bool (name_false fun h => h2 h.2.1), rfl⟩
      · go_wp2
        go_ret
        exact ⟨ret_bool (name_false fun h => h1 h.1), rfl⟩
end Go.Proofs.Ytipiplnhbecjeaa
