/- What strings.ContainsAny tells of any bytes and two letters. -/
import Derived.Test.YtlipkmdjpligeaaGreatKMath
import Derived.Test.YtlipkmdjpligeaaGreatKOpenS
import Derived.Test.YtlipkmdjpligeaaGreatKPathA
import Derived.Test.YtlipkmdjpligeaaGreatKShelf
import Derived.Test.YtlipkmdjpligeaaGreatKOpenDl
import Derived.Test.YtlipkmdjpligeaaGreatKEnA
import Derived.Test.YtlipkmdjpligeaaGreatKTrD
import Derived.Test.YtlipkmdjpligeaaGreatKVr
import Derived.Laws.RangeAny
import Derived.WalkMore
import Derived.BigQuiet
import Derived.Deep.OwnRows
namespace Go.Proofs.YtlipkmdjpligeaaGreat
open Lib (hid)
set_option linter.unusedVariables false
set_option linter.unusedSimpArgs false
open Go.RowKit
set_option maxRecDepth 100000
theorem decode_skip (s : ByteArray) (k : Nat) (h : k < s.size) (ha : 128 ≤ (s[k]'h).toNat) : ∀ j, j < (Utf8.decode s k).2 → ∃ h' : k + j < s.size, 128 ≤ (s[k + j]'h').toNat := by
 intro j hj
 have g : ∀ i (h : i < s.size), s.get! i = s[i] := fun i h => by simp [ByteArray.get!, getElem!_pos, h]; rfl
 have c : ∀ n, (decide (k + n < s.size) && (s.get! (k + n)).toNat / 64 == 2) = true → ∃ h' : k + n < s.size, 128 ≤ (s[k + n]'h').toNat := fun n hn => by
  simp only [Bool.and_eq_true, decide_eq_true_eq, beq_iff_eq] at hn
  refine ⟨hn.1, ?_⟩
  rw [← g _ hn.1]
  omega
 rcases Nat.eq_zero_or_pos j with rfl | hp
 ·exact ⟨h, ha⟩
 have g0 := g k h
 simp only [Utf8.decode, Nat.add_zero, g0] at hj
 rw [if_neg (by omega)] at hj
 split at hj
 ·next hc =>
  rw [Bool.and_eq_true] at hc
  split at hj
  ·obtain rfl : j = 1 := by simp only at hj; omega
   exact c 1 hc.2
  ·simp only at hj; omega
 split at hj
 ·next hc =>
  rw [Bool.and_eq_true, Bool.and_eq_true] at hc
  split at hj
  ·simp only at hj
   obtain rfl | rfl : j = 1 ∨ j = 2 := by omega
   ·exact c 1 hc.1.2
   ·exact c 2 hc.2
  ·simp only at hj; omega
 split at hj
 ·next hc =>
  rw [Bool.and_eq_true, Bool.and_eq_true, Bool.and_eq_true] at hc
  split at hj
  ·simp only at hj
   obtain rfl | rfl | rfl : j = 1 ∨ j = 2 ∨ j = 3 := by omega
   ·exact c 1 hc.1.1.2
   ·exact c 2 hc.1.2
   ·exact c 3 hc.2
  ·simp only at hj; omega
 ·simp only at hj; omega
def anyB (l : List UInt8) : Bool := l.any fun b => decide (b = 36) || decide (b = 0)
theorem idx_cons (b : UInt8) (l cs : List UInt8) : Lib.indexAny (b :: l) cs = if cs.contains b = true then 0 else if (Lib.indexAny l cs == -1) = true then -1 else Lib.indexAny l cs + 1 := by
 conv => lhs; unfold Lib.indexAny
theorem any_index : ∀ l : List UInt8, decide (0 ≤ Lib.indexAny l [36, 0]) = anyB l
 | [] => rfl
 | b :: l => by
  have ih := any_index l
  have hg := Lib.indexAny_ge [36, 0] l
  have hc : ([36, 0] : List UInt8).contains b = (decide (b = 36) || decide (b = 0)) := by
   by_cases h1 : b = 36 <;> by_cases h2 : b = 0 <;> simp [List.contains_eq_mem, h1, h2]
  unfold anyB at ih ⊢
  rw [List.any_cons, ← ih, ← hc, idx_cons]
  by_cases h : ([36, 0] : List UInt8).contains b = true
  ·rw [if_pos h, h]; rfl
  ·rw [if_neg h]
   rw [Bool.not_eq_true] at h
   rw [h, Bool.false_or]
   generalize Lib.indexAny l [36, 0] = z at hg
   by_cases h2 : z = -1
   ·subst h2; rfl
   ·rw [if_neg (by simpa using h2)]
    exact decide_eq_decide.2 (by omega)
theorem encode_far {r : Int} (h1 : 128 ≤ r) : ∃ n : Nat, (Utf8.encode r).size = n ∧ 2 ≤ n ∧ n ≤ 4 ∧ ∀ (h : 1 < (Utf8.encode r).size), n = 2 → 128 ≤ ((Utf8.encode r)[1]'h).toNat := by
 obtain ⟨c, hc⟩ : ∃ c, c = (if Utf8.valid r = true then r.toNat else Utf8.runeError) := ⟨_, rfl⟩
 have hc1 : 128 ≤ c := by
  rw [hc]
  split
  ·omega
  ·decide
 have e : Utf8.encode r = if c < 0x80 then ⟨#[UInt8.ofNat c]⟩ else if c < 0x800 then ⟨#[UInt8.ofNat (0xC0 + c / 64), UInt8.ofNat (0x80 + c % 64)]⟩
   else if c < 0x10000 then ⟨#[UInt8.ofNat (0xE0 + c / 4096), UInt8.ofNat (0x80 + c / 64 % 64), UInt8.ofNat (0x80 + c % 64)]⟩
   else ⟨#[UInt8.ofNat (0xF0 + c / 262144), UInt8.ofNat (0x80 + c / 4096 % 64), UInt8.ofNat (0x80 + c / 64 % 64), UInt8.ofNat (0x80 + c % 64)]⟩ := by
  rw [hc]; rfl
 rw [if_neg (by omega)] at e
 split at e
 ·refine ⟨2, by rw [e]; rfl, by omega, by omega, fun h _ => ?_⟩
  have : (Utf8.encode r)[1]'h = UInt8.ofNat (0x80 + c % 64) := by
   have key : ∀ (x : ByteArray) (h : 1 < x.size), x = ⟨#[UInt8.ofNat (0xC0 + c / 64), UInt8.ofNat (0x80 + c % 64)]⟩ → x[1]'h = UInt8.ofNat (0x80 + c % 64) := fun x h hx => by subst hx; rfl
   exact key _ h e
  rw [this, UInt8.toNat_ofNat']
  have := Nat.mod_lt c (show 64 > 0 by decide)
  rw [Nat.mod_eq_of_lt (by omega)]
  omega
 split at e
 ·exact ⟨3, by rw [e]; rfl, by omega, by omega, fun h hn => by omega⟩
 ·exact ⟨4, by rw [e]; rfl, by omega, by omega, fun h hn => by omega⟩
set_option maxHeartbeats 4000000 in
theorem idxrune_far (r : Int) (w : World) (h : 128 ≤ r) (h2 : r ≤ 2147483647) : Calls Tryz.prog 157 #[.string ⟨#[36, 0]⟩, .int .i32 r] w fun e w' => e = .returned (.int .i64 (-1)) ∧ Below w.heap.size w w' := by
 have d1 : ¬ (r < 128) := by omega
 have d0 : (0 : Int) ≤ r := by omega
 by_cases he : r = 65533
 ·subst he
  clear h h2 d1 d0
  go_enter Tryz.func157, Tryz.ntmps157
  go_wp2_with fail
  go_loopw [5, 6] (fun _ _ wx => ∃ i : Nat, i ≤ 2 ∧ wx = w.iter ⟨#[36, 0]⟩ i) (fun _ _ wx => 2 - wx.iterPos w.heap.size)
  case atStart => exact ⟨0, by omega, rfl⟩
  case round =>
   obtain ⟨i, hi, rfl⟩ := hrel
   by_cases h2 : i = 2
   ·subst h2
    have hnx : ∀ ty, (Instr.next (.pointer (some ⟨w.heap.size, 0, none⟩)) true ty).run Tryz.prog (w.iter ⟨#[36, 0]⟩ 2) = _ := fun ty => run_next_end w ⟨#[36, 0]⟩ 2 ty (by decide)
    go_wp2_with fail
    go_ret
    exact ⟨rfl, below_iter _ _ _⟩
   ·have hb : ∃ x : UInt8, ∃ hl : i < (⟨#[36, 0]⟩ : ByteArray).size, (⟨#[36, 0]⟩ : ByteArray)[i]'hl = x ∧ x.toNat < 128 := by
     obtain rfl | rfl : i = 0 ∨ i = 1 := by omega
     ·exact ⟨36, by decide, rfl, by decide⟩
     ·exact ⟨0, by decide, rfl, by decide⟩
    obtain ⟨x, hl, hx, hx1⟩ := hb
    have hnx : ∀ ty, (Instr.next (.pointer (some ⟨w.heap.size, 0, none⟩)) true ty).run Tryz.prog (w.iter ⟨#[36, 0]⟩ i) = _ := fun ty => run_next_ascii w ⟨#[36, 0]⟩ i ty hl (by rw [hx]; exact hx1)
    rw [hx] at hnx
    have hne : ((x.toNat : Int) == 65533) = false := beq_eq_false_iff_ne.2 (by omega)
    clear hx hl
    go_wp2_with fail
    go_roundw
    case rel => exact ⟨i + 1, by omega, rfl⟩
    case measure => simp; omega
 ·have he' : (r == 65533) = false := beq_eq_false_iff_ne.2 he
  have HV := hid (fun W => Tryz.utf8_ValidRune r W)
  obtain ⟨b, hb⟩ : ∃ b, Lib.validRune r = b := ⟨_, rfl⟩
  rw [hb] at HV
  clear hb he
  obtain ⟨n, hn, n2, n4, hq⟩ := encode_far (r := r) h
  obtain ⟨rs, hrs⟩ : ∃ rs, rs = Utf8.encode r := ⟨_, rfl⟩
  rw [← hrs] at hn hq
  have hcv : ∀ W, (convert 21 9 (.int .i32 r)).run Tryz.prog W = .ok (.string rs) W := fun W => by rw [hrs]; exact run_convert_int_string W 21 9 .i32 r (by kernel_rfl) Tryz.underlying9
  clear hrs
  go_enter Tryz.func157, Tryz.ntmps157
  go_wp2_with fail
  refine (HV.out _).mono ?_
  rintro e w' ⟨rfl, rfl⟩
  cases b
  ·go_wp2_with fail
   go_ret
   exact ⟨rfl, Below.refl _ _⟩
  ·go_wp2_with fail
   go_step3
   go_wp2_with fail
   rename_i K HK
   have HKK := hid HK
   clear HK
   go_loopw [9] (fun v wr => v = .int .i64 ((n : Int) - 1) ∧ wr = w') (fun _ _ => 0)
   case atStart => exact ⟨rfl, rfl⟩
   case round =>
    obtain ⟨rfl, rfl⟩ := hrel
    by_cases hn2 : n = 2
    ·subst hn2
     have hq1 := hq (by omega) rfl
     have hix : ((((⟨#[36, 0]⟩ : ByteArray)[1]'(by decide)).toNat : Int) != ((rs[1]'(by omega)).toNat : Int)) = true := by
      have h0 : (((⟨#[36, 0]⟩ : ByteArray)[1]'(by decide)).toNat : Int) = 0 := rfl
      rw [h0]
      exact bne_iff_ne.2 (by omega)
     have hl1 : (1 : Nat) < rs.size := by omega
     go_wp2_with fail
     go_step3
     go_wp2_with fail
     go_quiet (fail)
     clear HKK
     go_wp2_with fail
     have hw2 : IntKind.i64.wrap 2 = 2 := by decide
     have hsl : ∀ W, (Instr.slice 9 (.string ⟨#[36, 0]⟩) (some (.int .i64 2)) none none).run Tryz.prog W = .ok (.string ⟨#[]⟩) W := fun W => by kernel_rfl
     have hsl' : ∀ W, (Instr.slice 9 (.string ⟨#[36, 0]⟩) (some (.int .i64 (IntKind.i64.wrap 2))) none none).run Tryz.prog W = .ok (.string ⟨#[]⟩) W := fun W => by rw [hw2]; exact hsl W
     refine wp_region_quiet_lit (by kernel_rfl) (by kernel_rfl) ?_
     repeat (go_big_quiet_step (fail))
     refine wpQuiet_step (fun K hK => ?_)
     go_simp
     refine ⟨_, fun a => (Tryz.strings_IndexByte _ _ _).mono fun e w' h => ⟨h.1, a, h.2⟩, hK _ ?_⟩
     clear hK K
     repeat (go_big_quiet_step (fail))
     refine wpQuiet_nil ?_
     intro _ hw'
     obtain ⟨nr, hw''⟩ := hw'
     subst hw''
     have hz : ∀ b, Lib.indexByte (⟨#[]⟩ : ByteArray).data.toList b = -1 := fun b => rfl
     simp only [hz]
     go_wp2_with fail
     rw [Exit.noGoto_ret]
     go_ret
     exact ⟨rfl, below_drewN (Below.refl _ _) _⟩
    ·have hd : ¬ ((n : Int) - 1 < 2) := by omega
     go_wp2_with fail
     refine HKK.out _ _ ?_
     clear HKK
     go_wp2_with fail
     rw [Exit.noGoto_ret]
     go_ret
     exact ⟨rfl, Below.refl _ _⟩
def NoB (s : ByteArray) (k : Nat) : Prop := ∀ j (h : j < s.size), j < k → s[j] ≠ 36 ∧ s[j] ≠ 0
theorem anyB_false {s : ByteArray} (h : NoB s s.size) : anyB s.data.toList = false := by
 unfold anyB
 refine List.any_eq_false.2 fun b hb => ?_
 obtain ⟨j, hj, rfl⟩ := List.getElem_of_mem hb
 have hj' : j < s.size := by simpa using hj
 have h1 := h j hj' hj'
 have e : s.data.toList[j] = s[j] := rfl
 rw [e]
 simp [h1.1, h1.2]
theorem anyB_true {s : ByteArray} {k : Nat} (hk : k < s.size) (h : s[k] = 36 ∨ s[k] = 0) : anyB s.data.toList = true := by
 unfold anyB
 refine List.any_eq_true.2 ⟨s[k], ?_, ?_⟩
 ·have e : s.data.toList[k]'(by simpa using hk) = s[k] := rfl
  rw [← e]
  exact List.getElem_mem _
 ·rcases h with h | h <;> simp [h]
theorem idx_two (x : UInt8) : decide (0 ≤ Lib.indexByte ([36, 0] : List UInt8) x) = (decide (x = 36) || decide (x = 0)) := by
 rw [← Lib.contains_iff_indexByte]
 by_cases h1 : x = 36 <;> by_cases h2 : x = 0 <;> simp [List.contains_eq_mem, h1, h2]
set_option maxHeartbeats 8000000 in
theorem idxany_short (s : ByteArray) (w : World) (hs : s.size ≤ 8) : Calls Tryz.prog 122 #[.string s, .string ⟨#[36, 0]⟩] w fun e w' => (∃ i : Int, e = .returned (.int .i64 i) ∧ decide (0 ≤ i) = anyB s.data.toList) ∧ Below w.heap.size w w' := by
 have HU := hid (fun W => Tryz.strings_shouldUseASCIISet (s.size : Int) W)
 have h8 : decide ((8 : Int) < (s.size : Int)) = false := decide_eq_false (by omega)
 rw [h8] at HU
 have HS := hid hs
 clear h8 hs
 go_enter Tryz.func122, Tryz.ntmps122
 go_wp2_with fail
 refine (HU.out _).mono ?_
 rintro e w' ⟨rfl, hw⟩
 subst hw
 clear HU
 go_wp2_with fail
 go_loopw [9, 10] (fun _ _ wr => ∃ k : Nat, k ≤ s.size ∧ wr.heap[w'.heap.size]? = some (.stringIter s k) ∧ Hid (Below w'.heap.size w' wr) ∧ Hid (NoB s k)) (fun _ _ wr => s.size - wr.iterPos w'.heap.size)
 case atStart => exact ⟨0, by omega, World.iter_heap _ _ _, (Below.refl _ _).alloc (Nat.le_refl _) _, fun j _ h => absurd h (by omega)⟩
 case round =>
  obtain ⟨k, hk, hit, HB, HN⟩ := hrel
  by_cases hp : k < s.size
  ·have hnx : ∀ ty, (Instr.next (.pointer (some ⟨w'.heap.size, 0, none⟩)) true ty).run Tryz.prog wr = _ := fun ty => Lib.run_next_any_at wr w'.heap.size s k ty hit hp
   by_cases ha : s[k].toNat < 128
   ·rw [decode_ascii s k hp ha] at hnx
    have hit2 := Lib.iterAt_heap wr w'.heap.size s k (k + 1) hit
    have HB2 := hid (Lib.below_iterAt HB.out (k := w'.heap.size) (Nat.le_refl _) s (k + 1))
    obtain ⟨W, hW⟩ : ∃ W, W = wr.iterAt w'.heap.size s (k + 1) := ⟨_, rfl⟩
    rw [← hW] at hnx hit2 HB2
    obtain ⟨x, hx⟩ : ∃ x, x = s[k] := ⟨_, rfl⟩
    rw [← hx] at hnx ha
    have HC := hid (Tryz.strings_IndexRune_ascii ⟨#[36, 0]⟩ (x.toNat : Int) W (by omega) (by omega))
    have hbk : ((x.toNat : Int)).toNat.toUInt8 = x := by simp
    rw [hbk, show (⟨#[36, 0]⟩ : ByteArray).data.toList = [36, 0] from rfl] at HC
    obtain ⟨z, hz⟩ : ∃ z, z = Lib.indexByte ([36, 0] : List UInt8) x := ⟨_, rfl⟩
    rw [← hz] at HC
    have HZ : Hid (decide (0 ≤ z) = (decide (x = 36) || decide (x = 0))) := hid (by rw [hz]; exact idx_two x)
    have HX := hid hx
    have HIT := hid hit
    have HIT2 := hid hit2
    clear hW HB hit hz hbk hx hit2
    by_cases h0 : 0 ≤ z
    ·go_wp2_with fail
     refine HC.out.mono ?_
     rintro e w2 ⟨rfl, hw⟩
     subst hw
     go_wp2_with fail
     go_ret
     refine ⟨⟨_, rfl, ?_⟩, HB2.out⟩
     rw [anyB_true hp (by have := HZ.out; rw [decide_eq_true h0] at this; rw [← HX.out]; simpa using this.symm)]
     exact decide_eq_true (by omega)
    ·go_wp2_with fail
     refine HC.out.mono ?_
     rintro e w2 ⟨rfl, hw⟩
     subst hw
     go_wp2_with fail
     go_roundw
     case rel => exact ⟨k + 1, by omega, HIT2.out, HB2, fun j hj hjk => by
      by_cases e : j = k
      ·subst e
       have := HZ.out
       rw [decide_eq_false (by omega)] at this
       rw [← HX.out]
       simpa using this.symm
      ·exact HN.out j hj (by omega)⟩
     case measure =>
      have e1 : ∀ (V : World) q, V.heap[w'.heap.size]? = some (.stringIter s q) → V.iterPos w'.heap.size = q := fun V q h => by unfold World.iterPos; rw [h]
      rw [e1 _ _ HIT2.out, e1 _ _ HIT.out]
      omega
   ·have hd := decode_high s k hp (by omega)
    have HSK := hid (decode_skip s k hp (by omega))
    have hle := decode_le s k
    obtain ⟨r, hr⟩ : ∃ r, r = (Utf8.decode s k).1 := ⟨_, rfl⟩
    obtain ⟨m, hm⟩ : ∃ m, m = (Utf8.decode s k).2 := ⟨_, rfl⟩
    rw [← hr, ← hm] at hnx hd
    rw [← hr] at hle
    rw [← hm] at HSK
    have hit2 := Lib.iterAt_heap wr w'.heap.size s k (k + m) hit
    have HB2 := hid (Lib.below_iterAt HB.out (k := w'.heap.size) (Nat.le_refl _) s (k + m))
    obtain ⟨W, hW⟩ : ∃ W, W = wr.iterAt w'.heap.size s (k + m) := ⟨_, rfl⟩
    rw [← hW] at hnx hit2 HB2
    have HC := hid (idxrune_far (r : Int) W (by omega) (by omega))
    have HD := hid hd
    have HIT := hid hit
    have HIT2 := hid hit2
    clear hW HB hit hr hm hd hle hit2
    go_wp2_with fail
    refine HC.out.mono ?_
    rintro e w2 ⟨rfl, hb⟩
    have HIT3 : Hid (w2.heap[w'.heap.size]? = some (.stringIter s (k + m))) := hid ((hb.block _ (Array.getElem?_eq_some_iff.1 HIT2.out).1).trans HIT2.out)
    have HB3 := hid (HB2.out.trans (hb.mono HB2.out.size))
    clear hb
    go_wp2_with fail
    go_roundw
    case rel => exact ⟨k + m, by
     have h1 := HD.out.2
     obtain ⟨h2, -⟩ := HSK.out (m - 1) (by omega)
     omega, HIT3.out, HB3, fun j hj hjk => by
      by_cases e : j < k
      ·exact HN.out j hj e
      ·obtain ⟨h2, h3⟩ := HSK.out (j - k) (by omega)
       have e2 : s[j] = s[k + (j - k)] := by congr 1; omega
       rw [e2]
       refine ⟨fun e => ?_, fun e => ?_⟩ <;> rw [e] at h3 <;> exact absurd h3 (by decide)⟩
    case measure =>
     have e1 : ∀ (V : World) q, V.heap[w'.heap.size]? = some (.stringIter s q) → V.iterPos w'.heap.size = q := fun V q h => by unfold World.iterPos; rw [h]
     rw [e1 _ _ HIT3.out, e1 _ _ HIT.out]
     have := HD.out.2
     omega
  ·have hnx : ∀ ty, (Instr.next (.pointer (some ⟨w'.heap.size, 0, none⟩)) true ty).run Tryz.prog wr = _ := fun ty => Lib.run_next_end_at wr w'.heap.size s k ty hit hp
   have HE : Hid (k = s.size) := hid (by omega)
   clear hp
   go_wp2_with fail
   go_ret
   exact ⟨⟨_, rfl, by rw [anyB_false (HE.out ▸ HN.out)]; rfl⟩, HB.out⟩
set_option maxHeartbeats 4000000 in
theorem contany_any (s : ByteArray) (w : World) (hs : s.size ≤ 32) : Calls Tryz.prog 73 #[.string s, .string ⟨#[36, 0]⟩] w fun e w' => e = .returned (.bool (anyB s.data.toList)) ∧ Below w.heap.size w w' := by
 have HI : Hid (Calls Tryz.prog 122 #[.string s, .string ⟨#[36, 0]⟩] w fun e w' => (∃ i : Int, e = .returned (.int .i64 i) ∧ decide (0 ≤ i) = anyB s.data.toList) ∧ Below w.heap.size w w') := hid (by
  by_cases h8 : s.size ≤ 8
  ·exact idxany_short s w h8
  ·refine (Tryz.strings_IndexAny_long (fun w => by kernel_rfl) s ⟨#[36, 0]⟩ w (by decide) (by omega) (by omega) (by decide) (fun j b hb => ?_)).mono fun e w' h => ⟨⟨_, h.1, any_index _⟩, by rw [h.2]; exact ((Below.refl _ _).alloc (Nat.le_refl _) _).alloc (by simp) _⟩
   match j, hb with
   | 0, hb => injection hb with hb; subst hb; decide
   | 1, hb => injection hb with hb; subst hb; decide
   | j + 2, hb => simp at hb)
 clear hs
 go_enter Tryz.func73, Tryz.ntmps73
 go_wp2_with fail
 refine HI.out.mono ?_
 rintro e w' ⟨⟨i, rfl, hi⟩, hb⟩
 have HJ := hid (And.intro hi hb)
 clear hi hb HI
 go_wp2_with fail
 go_ret
 exact ⟨by rw [← HJ.out.1]; rfl, HJ.out.2⟩
theorem nameC_any (s : ByteArray) : nameC s = (decide (1 ≤ s.size) && decide (s.size ≤ 32) && !anyB s.data.toList) := by
 unfold nameC anyB
 congr 1
 induction s.data.toList with
 | nil => rfl
 | cons b l ih =>
  rw [List.all_cons, List.any_cons, ih]
  by_cases h1 : b = 36 <;> by_cases h2 : b = 0 <;> simp [h1, h2]
def flagsE (k : Int) : Int := if k = 2 then 13 else if k = 3 then 21 else if k = 4 then 5 else if k = 5 ∨ k = 6 then 1 else if k = 7 then 3 else 0
def knownE (k : Int) : Bool := decide (1 ≤ k) && decide (k ≤ 7)
theorem kinds_of {k : Int} (h1 : 1 ≤ k) (h7 : k ≤ 7) : k = 1 ∨ k = 2 ∨ k = 3 ∨ k = 4 ∨ k = 5 ∨ k = 6 ∨ k = 7 := by omega
theorem flags_out {k : Int} (h : ¬ (1 ≤ k ∧ k ≤ 7)) : flagsE k = 0 := by
 unfold flagsE
 rw [if_neg (by omega), if_neg (by omega), if_neg (by omega), if_neg (by omega), if_neg (by omega)]
theorem known_out {k : Int} (h : ¬ (1 ≤ k ∧ k ≤ 7)) : knownE k = false := by
 unfold knownE
 by_cases h1 : 1 ≤ k
 ·rw [decide_eq_true h1, decide_eq_false (by omega)]; rfl
 ·rw [decide_eq_false h1]; rfl
set_option maxHeartbeats 4000000 in
theorem ename_any (s : ByteArray) (w : World) : Calls Tryz.prog 34 #[.string s] w fun e w' => e = .returned (.bool (nameC s)) ∧ Below w.heap.size w w' := by
 have HR := hid (nameC_any s)
 obtain ⟨r, hr⟩ : ∃ r, r = nameC s := ⟨_, rfl⟩
 rw [← hr] at HR ⊢
 clear hr
 by_cases h0 : s.size = 0
 ·have e0 : s.toList = [] := toList_nil.2 h0
  go_enter Tryz.func34, Tryz.ntmps34
  go_wp2_with fail
  go_ret
  exact ⟨by rw [HR.out, h0]; rfl, Below.refl _ _⟩
 ·have hne : s.toList ≠ [] := fun h => h0 (toList_nil.1 h)
  have e1 : s.toList.isEmpty = false := by rw [← Bool.not_eq_true, isEmpty_size]; exact h0
  by_cases h32 : s.size ≤ 32
  ·have d1 : decide ((s.size : Int) ≤ 32) = true := decide_eq_true (by omega)
   have HC := hid (fun W => contany_any s W h32)
   have HE : Hid (r = !anyB s.data.toList) := hid (by rw [HR.out, decide_eq_true (by omega), decide_eq_true h32]; rfl)
   have hi : (s.size : Int) ≤ 32 := by omega
   clear h0 h32 HR
   go_enter Tryz.func34, Tryz.ntmps34
   go_wp2_with fail
   refine (HC.out _).mono ?_
   rintro e w1 ⟨rfl, hb⟩
   have HB := hid hb
   clear hb HC
   go_wp2_with fail
   go_ret
   exact ⟨by rw [HE.out]; rfl, HB.out⟩
  ·have d1 : decide ((s.size : Int) ≤ 32) = false := decide_eq_false (by omega)
   have hi : (32 : Int) < (s.size : Int) := by omega
   have HE : Hid (r = false) := hid (by rw [HR.out, decide_eq_false h32, Bool.and_false, Bool.false_and])
   clear h0 h32 HR
   go_enter Tryz.func34, Tryz.ntmps34
   go_wp2_with fail
   go_ret
   exact ⟨by rw [HE.out]; rfl, Below.refl _ _⟩
set_option maxHeartbeats 4000000 in
theorem r13name_any (s : ByteArray) (w : World) (hs : s.size ≤ 140737488351232) : Calls Tryz.prog 36 #[.string s] w fun e w' => e = .returned (.bool (nameC s)) ∧ w' = w := by
 have HR := hid (nameC_any s)
 obtain ⟨r, hr⟩ : ∃ r, r = nameC s := ⟨_, rfl⟩
 rw [← hr] at HR ⊢
 have HS := hid hs
 clear hr hs
 go_enter Tryz.func36, Tryz.ntmps36
 go_wp2_with fail
 go_loopw [3] (fun v wr => ∃ k : Nat, v = .int .i64 k ∧ k ≤ s.size ∧ wr = w ∧ Hid (NoB s k)) (fun v _ => s.size - (intOf v).toNat)
 case atStart => exact ⟨0, rfl, by omega, rfl, fun j _ h => absurd h (by omega)⟩
 case round =>
  obtain ⟨k, rfl, hk, rfl, HN⟩ := hrel
  by_cases hp : k < s.size
  ·have hpz : (k : Int) < (s.size : Int) := by omega
   obtain ⟨x, hx⟩ : ∃ x, x = s[k] := ⟨_, rfl⟩
   have HX := hid hx
   by_cases h36 : x = 36
   ·have e1 : (s[k].toNat : Int) = 36 := by rw [← hx, h36]; rfl
    have HE : Hid (r = false) := hid (by rw [HR.out, anyB_true hp (.inl (by rw [← hx]; exact h36))]; simp)
    clear hx h36
    go_wp2_with fail
    go_ret
    exact ⟨by rw [HE.out]; rfl, rfl⟩
   ·have e1 : ((s[k].toNat : Int) == 36) = false := beq_eq_false_iff_ne.2 fun h => h36 (by
     rw [hx]
     apply UInt8.toNat_inj.1
     have : s[k].toNat = 36 := by omega
     rw [this]; rfl)
    by_cases h0 : x = 0
    ·have e2 : (s[k].toNat : Int) = 0 := by rw [← hx, h0]; rfl
     have HE : Hid (r = false) := hid (by rw [HR.out, anyB_true hp (.inr (by rw [← hx]; exact h0))]; simp)
     clear hx h36 h0
     go_wp2_with fail
     go_ret
     exact ⟨by rw [HE.out]; rfl, rfl⟩
    ·have e2 : ((s[k].toNat : Int) == 0) = false := beq_eq_false_iff_ne.2 fun h => h0 (by
      rw [hx]
      apply UInt8.toNat_inj.1
      have : s[k].toNat = 0 := by omega
      rw [this]; rfl)
     have HXX := hid (And.intro h36 h0)
     have hsz := HS.out
     clear hx h36 h0
     go_wp2_with fail
     go_roundw
     case rel => exact ⟨k + 1, by go_num, by omega, by first | rfl | trivial, fun j hj hjk => by
      by_cases e : j = k
      ·subst e
       rw [← HX.out]
       exact HXX.out
      ·exact HN.out j hj (by omega)⟩
     case measure => simp [intOf]; omega
  ·have hpz : ¬ ((k : Int) < (s.size : Int)) := by omega
   have HA : Hid (r = (decide (1 ≤ s.size) && decide (s.size ≤ 32))) := hid (by
    have hk2 : k = s.size := by omega
    rw [HR.out, anyB_false (hk2 ▸ HN.out)]; simp)
   have d0 : decide ((1 : Int) ≤ (s.size : Int)) = decide (1 ≤ s.size) := decide_eq_decide.2 (by omega)
   have d1 : decide ((s.size : Int) ≤ 32) = decide (s.size ≤ 32) := decide_eq_decide.2 (by omega)
   by_cases h1 : 1 ≤ s.size
   ·go_wp2_with fail
    go_ret
    exact ⟨by rw [HA.out, decide_eq_true h1]; simp, rfl⟩
   ·go_wp2_with fail
    go_ret
    exact ⟨by rw [HA.out, decide_eq_false h1]; rfl, rfl⟩
set_option maxHeartbeats 4000000 in
theorem ewithin_any (n m : Int) (w : World) : Calls Tryz.prog 124 #[.int .i64 n, .int .i64 m] w fun e w' => e = .returned (.bool (decide (0 ≤ n) && decide (n ≤ m))) ∧ w' = w := by
 by_cases h : 0 ≤ n
 ·go_enter Tryz.func124, Tryz.ntmps124
  go_wp2_with fail
  go_ret
  exact ⟨by simp [h], rfl⟩
 ·have h' : n < 0 := by omega
  go_enter Tryz.func124, Tryz.ntmps124
  go_wp2_with fail
  go_ret
  exact ⟨by rw [decide_eq_false (by omega)]; rfl, rfl⟩
theorem efields_any (k : Int) (w : World) : Calls Tryz.prog 78 #[.int .i64 k] w fun e w' => e = .returned (.tuple #[.int .i64 (flagsE k), .bool (knownE k)]) ∧ w' = w := by
 by_cases hk : 1 ≤ k ∧ k ≤ 7
 ·rcases kinds_of hk.1 hk.2 with rfl | rfl | rfl | rfl | rfl | rfl | rfl
  all_goals
   clear hk
   go_enter Tryz.func78, Tryz.ntmps78
   go_wp2_with fail
   go_ret2
   exact ⟨rfl, rfl⟩
 ·rw [flags_out hk, known_out hk]
  have n1 : (k == 1) = false := beq_eq_false_iff_ne.2 (by omega)
  have n2 : (k == 2) = false := beq_eq_false_iff_ne.2 (by omega)
  have n3 : (k == 3) = false := beq_eq_false_iff_ne.2 (by omega)
  have n4 : (k == 4) = false := beq_eq_false_iff_ne.2 (by omega)
  have n5 : (k == 5) = false := beq_eq_false_iff_ne.2 (by omega)
  have n6 : (k == 6) = false := beq_eq_false_iff_ne.2 (by omega)
  have n7 : (k == 7) = false := beq_eq_false_iff_ne.2 (by omega)
  clear hk
  go_enter Tryz.func78, Tryz.ntmps78
  go_wp2_with fail
  go_ret2
  exact ⟨rfl, rfl⟩
theorem results_tmp5 {fn : Func} {a b c d e : Tmp} (h : fn.results = #[.tmp a, .tmp b, .tmp c, .tmp d, .tmp e]) (tmps : Array Value) (P : Program) (w : World) :
  (results fn tmps).run P w = .ok (.tuple #[tmps.getD a undef, tmps.getD b undef, tmps.getD c undef, tmps.getD d undef, tmps.getD e undef]) w := by
 simp [results, h]
theorem r13has_any (k : Int) (w : World) : Calls Tryz.prog 46 #[.int .i64 k] w fun e w' => e = .returned (.tuple #[.bool (hasColl k), .bool (hasTo k), .bool (hasId k), .bool (hasDoc k), .bool (hasDels k)]) ∧ w' = w := by
 by_cases hk : 2 ≤ k ∧ k ≤ 7
 ·rcases kinds_of (by omega) hk.2 with rfl | rfl | rfl | rfl | rfl | rfl | rfl
  ·omega
  all_goals
   clear hk
   go_enter Tryz.func46, Tryz.ntmps46
   go_wp2_with fail
   refine bodyPost_ret (results_tmp5 rfl _ _ _) rfl ?_
   exact ⟨rfl, rfl⟩
 ·have h1 : hasColl k = false := by
   unfold hasColl
   by_cases h2 : 2 ≤ k
   ·rw [decide_eq_true h2, decide_eq_false (by omega)]; rfl
   ·rw [decide_eq_false h2]; rfl
  have h2 : hasTo k = false := by unfold hasTo; exact decide_eq_false (by omega)
  have h3 : hasId k = false := by
   unfold hasId
   by_cases h2 : 2 ≤ k
   ·rw [decide_eq_true h2, decide_eq_false (by omega)]; rfl
   ·rw [decide_eq_false h2]; rfl
  have h4 : hasDoc k = false := by unfold hasDoc; exact decide_eq_false (by omega)
  have h5 : hasDels k = false := by unfold hasDels; exact decide_eq_false (by omega)
  rw [h1, h2, h3, h4, h5]
  have n2 : (k == 2) = false := beq_eq_false_iff_ne.2 (by omega)
  have n3 : (k == 3) = false := beq_eq_false_iff_ne.2 (by omega)
  have n4 : (k == 4) = false := beq_eq_false_iff_ne.2 (by omega)
  have n5 : (k == 5) = false := beq_eq_false_iff_ne.2 (by omega)
  have n6 : (k == 6) = false := beq_eq_false_iff_ne.2 (by omega)
  have n7 : (k == 7) = false := beq_eq_false_iff_ne.2 (by omega)
  clear hk h1 h2 h3 h4 h5
  go_enter Tryz.func46, Tryz.ntmps46
  go_wp2_with fail
  refine bodyPost_ret (results_tmp5 rfl _ _ _) rfl ?_
  exact ⟨rfl, rfl⟩
theorem ehas_num (l f : Nat) (hl : l = 0 ∨ l = 1 ∨ l = 3 ∨ l = 5 ∨ l = 13 ∨ l = 21) (hf : f = 1 ∨ f = 2 ∨ f = 4 ∨ f = 8 ∨ f = 16) (w : World) :
  Calls Tryz.prog 125 #[.int .i64 (l : Int), .int .i64 (f : Int)] w fun e w' => e = .returned (.bool (decide (Nat.land l f ≠ 0))) ∧ w' = w := by
 have hb : bits .and .i64 (l : Int) (f : Int) = ((Nat.land l f : Nat) : Int) := by
  rcases hl with rfl | rfl | rfl | rfl | rfl | rfl <;> rcases hf with rfl | rfl | rfl | rfl | rfl <;> decide +kernel
 obtain ⟨z, hz⟩ : ∃ z, z = Nat.land l f := ⟨_, rfl⟩
 rw [← hz] at hb ⊢
 clear hl hf hz
 by_cases h : z = 0
 ·have hb0 : bits .and .i64 (l : Int) (f : Int) = 0 := by rw [hb, h]; rfl
  go_enter Tryz.func125, Tryz.ntmps125
  go_wp2_with fail
  go_ret
  exact ⟨by simp [h, hb0], rfl⟩
 ·have hb0 : ¬ (bits .and .i64 (l : Int) (f : Int) = 0) := by rw [hb]; omega
  go_enter Tryz.func125, Tryz.ntmps125
  go_wp2_with fail
  go_ret
  exact ⟨by simp [h, hb0], rfl⟩
theorem flags_num (k : Int) : ∃ l : Nat, flagsE k = l ∧ (l = 0 ∨ l = 1 ∨ l = 3 ∨ l = 5 ∨ l = 13 ∨ l = 21) ∧ hasColl k = decide (Nat.land l 1 ≠ 0) ∧ hasTo k = decide (Nat.land l 2 ≠ 0) ∧ hasId k = decide (Nat.land l 4 ≠ 0) ∧ hasDoc k = decide (Nat.land l 8 ≠ 0) ∧ hasDels k = decide (Nat.land l 16 ≠ 0) := by
 by_cases hk : 1 ≤ k ∧ k ≤ 7
 ·rcases kinds_of hk.1 hk.2 with rfl | rfl | rfl | rfl | rfl | rfl | rfl
  ·exact ⟨0, by decide⟩
  ·exact ⟨13, by decide⟩
  ·exact ⟨21, by decide⟩
  ·exact ⟨5, by decide⟩
  ·exact ⟨1, by decide⟩
  ·exact ⟨1, by decide⟩
  ·exact ⟨3, by decide⟩
 ·refine ⟨0, flags_out hk, .inl rfl, ?_, ?_, ?_, ?_, ?_⟩
  ·unfold hasColl
   by_cases h2 : 2 ≤ k
   ·rw [decide_eq_true h2, decide_eq_false (by omega)]; rfl
   ·rw [decide_eq_false h2]; rfl
  ·unfold hasTo; exact decide_eq_false (by omega)
  ·unfold hasId
   by_cases h2 : 2 ≤ k
   ·rw [decide_eq_true h2, decide_eq_false (by omega)]; rfl
   ·rw [decide_eq_false h2]; rfl
  ·unfold hasDoc; exact decide_eq_false (by omega)
  ·unfold hasDels; exact decide_eq_false (by omega)
theorem ehas_coll (k : Int) (w : World) : Calls Tryz.prog 125 #[.int .i64 (flagsE k), .int .i64 1] w fun e w' => e = .returned (.bool (hasColl k)) ∧ w' = w := by
 obtain ⟨l, e, h, h1, h2, h3, h4, h5⟩ := flags_num k
 rw [e, h1]; exact ehas_num l 1 h (by decide) w
theorem ehas_to (k : Int) (w : World) : Calls Tryz.prog 125 #[.int .i64 (flagsE k), .int .i64 2] w fun e w' => e = .returned (.bool (hasTo k)) ∧ w' = w := by
 obtain ⟨l, e, h, h1, h2, h3, h4, h5⟩ := flags_num k
 rw [e, h2]; exact ehas_num l 2 h (by decide) w
theorem ehas_id (k : Int) (w : World) : Calls Tryz.prog 125 #[.int .i64 (flagsE k), .int .i64 4] w fun e w' => e = .returned (.bool (hasId k)) ∧ w' = w := by
 obtain ⟨l, e, h, h1, h2, h3, h4, h5⟩ := flags_num k
 rw [e, h3]; exact ehas_num l 4 h (by decide) w
theorem ehas_doc (k : Int) (w : World) : Calls Tryz.prog 125 #[.int .i64 (flagsE k), .int .i64 8] w fun e w' => e = .returned (.bool (hasDoc k)) ∧ w' = w := by
 obtain ⟨l, e, h, h1, h2, h3, h4, h5⟩ := flags_num k
 rw [e, h4]; exact ehas_num l 8 h (by decide) w
theorem ehas_dels (k : Int) (w : World) : Calls Tryz.prog 125 #[.int .i64 (flagsE k), .int .i64 16] w fun e w' => e = .returned (.bool (hasDels k)) ∧ w' = w := by
 obtain ⟨l, e, h, h1, h2, h3, h4, h5⟩ := flags_num k
 rw [e, h5]; exact ehas_num l 16 h (by decide) w
structure FilAt (w : World) (S : Nat → Prop) (f : FilT) (PA : Option Addr) (pc : Nat) : Prop where
 path : StrsAt w S PA f.path
 len : f.path.length ≤ 8796093021952
 cz : f.coll.size ≤ 140737488351232
 rk : Rng f.kinds
 cap : f.path.length ≤ pc
 c63 : pc ≤ 9223372036854775807
 nil : PA = none → pc = 0
def FBox (w : World) (g : Nat) (f : FilT) (PA : Option Addr) (pc : Nat) : Prop := w.heap[g]? = some (.cells #[.string f.coll, .slice PA f.path.length pc, .int .i64 f.kinds] 24 (0, 0))
section
variable {w w' : World} {g : Nat} {f : FilT} {PA : Option Addr} {pc : Nat} {S : Nat → Prop}
theorem FBox.lt (h : FBox w g f PA pc) : g < w.heap.size := (Array.getElem?_eq_some_iff.1 h).1
theorem FBox.below (h : FBox w g f PA pc) (hb : Below w.heap.size w w') : FBox w' g f PA pc := (hb.block g h.lt).trans h
theorem FBox.g0 (h : FBox w g f PA pc) : w.cell? ⟨g, 0, none⟩ = some (.string f.coll) := Go.Joins.cell_of_block h 0
theorem FBox.g1 (h : FBox w g f PA pc) : w.cell? ⟨g, 1, none⟩ = some (.slice PA f.path.length pc) := Go.Joins.cell_of_block h 1
theorem FBox.g2 (h : FBox w g f PA pc) : w.cell? ⟨g, 2, none⟩ = some (.int .i64 f.kinds) := Go.Joins.cell_of_block h 2
theorem FilAt.keep (h : FilAt w S f PA pc) (hk : ∀ b, S b → w'.heap[b]? = w.heap[b]?) : FilAt w' S f PA pc := ⟨h.path.keep hk, h.len, h.cz, h.rk, h.cap, h.c63, h.nil⟩
end
set_option maxHeartbeats 8000000 in
theorem fmay_any (S : Nat → Prop) (f : FilT) (PA : Option Addr) (pc : Nat) (w : World) (hS : ∀ b, S b → b < w.heap.size) (h : FilAt w S f PA pc) :
  Calls Tryz.prog 13 #[.agg #[.string f.coll, .slice PA f.path.length pc, .int .i64 f.kinds]] w fun e w' => e = .returned (.bool (mayFl f)) ∧ Below w.heap.size w w' := by
 obtain ⟨w1, hw1⟩ : ∃ W, W = w.alloc (.cells #[.string f.coll, .slice PA f.path.length pc, .int .i64 f.kinds] 24) := ⟨_, rfl⟩
 have HK1 : Hid (FBox w1 w.heap.size f PA pc) := hid (by rw [hw1]; exact heap_alloc_new w _)
 have HB1 : Hid (Below w.heap.size w w1) := hid (by rw [hw1]; exact below_box _)
 have HA := hid h
 have HS := hid hS
 obtain ⟨r, hr⟩ : ∃ r, r = mayFl f := ⟨_, rfl⟩
 have HR : Hid (r = ((decide (f.coll.size = 0) || nameC f.coll) && (decide (f.path.length = 0) || mayP f.path) && kindsOk f.kinds)) := hid hr
 have hn := h.len
 rw [← hr]
 clear hr h hS
 go_enter Tryz.func13, Tryz.ntmps13
 by_cases hc : f.coll.size = 0
 ·have e1 : f.coll.toList = [] := toList_nil.2 hc
  have q0 : (w.alloc (.cells #[.string f.coll, .slice PA f.path.length pc, .int .i64 f.kinds] 24)).cell? ⟨w.heap.size, 0, none⟩ = some (.string f.coll) := by rw [← hw1]; exact HK1.out.g0
  have q1 : (w.alloc (.cells #[.string f.coll, .slice PA f.path.length pc, .int .i64 f.kinds] 24)).cell? ⟨w.heap.size, 1, none⟩ = some (.slice PA f.path.length pc) := by rw [← hw1]; exact HK1.out.g1
  have q2 : (w.alloc (.cells #[.string f.coll, .slice PA f.path.length pc, .int .i64 f.kinds] 24)).cell? ⟨w.heap.size, 2, none⟩ = some (.int .i64 f.kinds) := by rw [← hw1]; exact HK1.out.g2
  rw [hw1] at HB1 HK1
  by_cases hp : f.path.length = 0
  ·have d1 : ((f.path.length : Int) == 0) = true := by simp [hp]
   have d2 : decide ((f.path.length : Int) > 0) = false := decide_eq_false (by omega)
   have HP := hid hp
   clear hp
   have hK := and252_iff f.kinds
   have hkb : (bits .and .i64 f.kinds 252 == f.kinds) = kindsOk f.kinds := by
    rw [Bool.eq_iff_iff, beq_iff_eq]; exact hK
   go_wp2_with fail
   go_ret
   exact ⟨by rw [HR.out, decide_eq_true hc, decide_eq_true HP.out]; simp [hkb], HB1.out⟩
  ·have d1 : ((f.path.length : Int) == 0) = false := beq_false_of_ne (by omega)
   have d2 : decide ((f.path.length : Int) > 0) = true := decide_eq_true (by omega)
   go_wp2_with fail
   refine (pmay_any PA pc f.path _ S (HA.out.keep fun b hb => HB1.out.block b (HS.out b hb)).path (by have := HA.out.len; omega)).mono ?_
   rintro q u ⟨rfl, hw⟩
   subst hw
   cases hm : mayP f.path
   case false =>
    go_wp2_with fail
    go_ret
    exact ⟨by rw [HR.out, hm, decide_eq_false hp]; simp, HB1.out⟩
   case true =>
    have hK := and252_iff f.kinds
    have hkb : (bits .and .i64 f.kinds 252 == f.kinds) = kindsOk f.kinds := by
     rw [Bool.eq_iff_iff, beq_iff_eq]; exact hK
    go_wp2_with fail
    go_ret
    exact ⟨by rw [HR.out, decide_eq_true hc, hm]; simp [hkb], HB1.out⟩
 ·have e1 : f.coll.toList.isEmpty = false := by rw [← Bool.not_eq_true, isEmpty_size]; exact hc
  have e2 : ¬ f.coll.toList = [] := fun h => hc (toList_nil.1 h)
  go_wp2_with fail
  rw [← hw1]
  clear hw1
  refine (ename_any f.coll _).mono ?_
  rintro q w2 ⟨rfl, hb⟩
  have HB2 := hid (HB1.out.trans (hb.mono HB1.out.size))
  have HK2 := hid (HK1.out.below hb)
  clear hb
  clear HB1 HK1
  cases hnm : nameC f.coll
  case false =>
   go_wp2_with fail
   go_ret
   exact ⟨by rw [HR.out, hnm, decide_eq_false hc]; simp, HB2.out⟩
  case true =>
   have y0 := HK2.out.g0
   have y1 := HK2.out.g1
   have y2 := HK2.out.g2
   by_cases hp : f.path.length = 0
   ·have d1 : ((f.path.length : Int) == 0) = true := by simp [hp]
    have d2 : decide ((f.path.length : Int) > 0) = false := decide_eq_false (by omega)
    have HP := hid hp
    clear hp
    have hK := and252_iff f.kinds
    have hkb : (bits .and .i64 f.kinds 252 == f.kinds) = kindsOk f.kinds := by
     rw [Bool.eq_iff_iff, beq_iff_eq]; exact hK
    go_wp2_with fail
    go_ret
    exact ⟨by rw [HR.out, hnm, decide_eq_true HP.out]; simp [hkb], HB2.out⟩
   ·have d1 : ((f.path.length : Int) == 0) = false := beq_false_of_ne (by omega)
    have d2 : decide ((f.path.length : Int) > 0) = true := decide_eq_true (by omega)
    go_wp2_with fail
    refine (pmay_any PA pc f.path _ S (HA.out.keep fun b hb => HB2.out.block b (HS.out b hb)).path (by have := HA.out.len; omega)).mono ?_
    rintro q u ⟨rfl, hw⟩
    subst hw
    cases hm : mayP f.path
    case false =>
     go_wp2_with fail
     go_ret
     exact ⟨by rw [HR.out, hm, decide_eq_false hp]; simp, HB2.out⟩
    case true =>
     have hK := and252_iff f.kinds
     have hkb : (bits .and .i64 f.kinds 252 == f.kinds) = kindsOk f.kinds := by
      rw [Bool.eq_iff_iff, beq_iff_eq]; exact hK
     go_wp2_with fail
     go_ret
     exact ⟨by rw [HR.out, hnm, hm]; simp [hkb], HB2.out⟩
theorem free_hit {l : List DelT} {i k : Nat} (hi : i < l.length) (hk : k < i) (h : meetP l[i].path (l[k]'(by omega)).path = true) : freeD l = false := by
 unfold freeD
 rw [conf_true (ps := pathsD l) (i := i) (k := k) (by simpa [pathsD] using hi) hk (by simpa [pathsD] using h)]
 rfl
theorem free_miss {l : List DelT} (h : ∀ i (hi : i < l.length) k (hk : k < i), meetP l[i].path (l[k]'(by omega)).path = false) : freeD l = true := by
 unfold freeD
 rw [conf_false (ps := pathsD l) fun i hi k hk => by
  have := h i (by simpa [pathsD] using hi) k hk
  simpa [pathsD] using this]
 rfl
theorem DelsL.path {w : World} {S : Nat → Prop} {A : Option Addr} {l : List DelT} (h : DelsL w S A l) (k : Nat) (hk : k < l.length) : ∃ b off PA pc, A = some ⟨b, off, none⟩ ∧ S b ∧ StrsAt w S PA l[k].path ∧ l[k].path.length ≤ pc ∧ l[k].path.length ≤ 8796093021952 ∧ w.cell? ⟨b, off + k * 8 + 1, none⟩ = some (.slice PA l[k].path.length pc) := by
 obtain ⟨b, off, PA, pc, VA, vc, VA', vc', hA, hb, hd, -, x1, -⟩ := h.cells k hk
 obtain ⟨PB, pd, VB, vd, VB', vd', e, -, q1, q2, q3, -, -, q4⟩ := hd
 simp only [Array.mk.injEq, List.cons.injEq, Value.slice.injEq, and_true, true_and] at e
 obtain ⟨⟨rfl, rfl⟩, ⟨rfl, rfl⟩, rfl, rfl⟩ := e
 exact ⟨b, off, PA, pc, hA, hb, q1, q2, q4, x1⟩
set_option maxHeartbeats 16000000 in
theorem r6free_any (S : Nat → Prop) (A : Option Addr) (c : Nat) (l : List DelT) (w : World) (hS : ∀ b, S b → b < w.heap.size) (h : DelsL w S A l) (hn : l.length ≤ 140737488351232) :
  Calls Tryz.prog 91 #[.slice A l.length c] w fun e w' => e = .returned (.bool (freeD l)) ∧ Below w.heap.size w w' := by
 have H := hid h
 have HS := hid hS
 obtain ⟨r, hr⟩ : ∃ r, r = freeD l := ⟨_, rfl⟩
 have HR := hid hr
 rw [← hr]
 obtain ⟨n, hn'⟩ : ∃ n, n = l.length := ⟨_, rfl⟩
 have HN := hid hn'
 rw [← hn'] at hn ⊢
 clear h hS hr hn'
 go_enter Tryz.func91, Tryz.ntmps91
 go_wp2_with fail
 go_loopw [3, 4] (fun i i4 wr => ∃ a : Nat, i = .int .i64 a ∧ a ≤ n ∧ Hid (Below w.heap.size w wr) ∧ Hid (∀ i' (h : i' < l.length), i' < a → ∀ k' (hk : k' < i'), meetP l[i'].path (l[k']'(by omega)).path = false)) (fun i _ _ => n - (intOf i).toNat)
 case atStart => exact ⟨0, rfl, by omega, hid (Below.refl _ _), hid fun j _ h => absurd h (by omega)⟩
 case round =>
  obtain ⟨a, rfl, ha, HB, HM⟩ := hrel
  by_cases hlt : a < n
  ·have d2 : decide ((a : Int) < (n : Int)) = true := decide_eq_true (by omega)
   have hla : a < l.length := by have := HN.out; omega
   go_wp2_with fail
   go_loopw [4] (fun i wq => ∃ m : Nat, i = .int .i64 m ∧ m ≤ a ∧ Hid (Below w.heap.size w wq) ∧ Hid (∀ k' (hk : k' < a), k' < m → meetP l[a].path (l[k']'(by omega)).path = false)) (fun i _ => a - (intOf i).toNat)
   case atStart => exact ⟨0, rfl, by omega, HB, hid fun j _ h => absurd h (by omega)⟩
   case round =>
    obtain ⟨m, rfl, hm, HB, HM2⟩ := hrel
    by_cases hma : m < a
    ·have d3 : decide ((m : Int) < (a : Int)) = true := decide_eq_true (by omega)
     have hlm : m < l.length := by omega
     have hkS : ∀ b, S b → wr.drew.heap[b]? = w.heap[b]? := fun b hb => HB.out.block b (HS.out b hb)
     have hSd : ∀ b, S b → b < wr.drew.heap.size := fun b hb => Nat.lt_of_lt_of_le (HS.out b hb) HB.out.size
     obtain ⟨rb, roff, A1, c1, rfl, hrb, h1, h2, h3, hca⟩ := (H.out.below HS.out HB.out).path a hla
     obtain ⟨rb', roff', A2, c2, he, hrb', k1, k2, k3, hcm⟩ := (H.out.below HS.out HB.out).path m hlm
     injection he with he
     injection he with he1 he2
     subst he1 he2
     have h1 : StrsAt wr.drew S A1 l[a].path := h1
     have k1 : StrsAt wr.drew S A2 l[m].path := k1
     have HG1 := hid (rbegins_any A1 A2 c1 c2 l[a].path l[m].path wr.drew S S h1 k1 hSd hSd (by omega) (by omega))
     have HG2 : Hid (∀ W, Below wr.drew.heap.size wr.drew W → Calls Tryz.prog 43 #[.slice A2 l[m].path.length c2, .slice A1 l[a].path.length c1] W fun e w' => e = .returned (.bool (begP l[m].path l[a].path)) ∧ Below W.heap.size W w') := hid fun W hW =>
      rbegins_any A2 A1 c2 c1 l[m].path l[a].path W S S (k1.keep fun b hb => hW.block b (hSd b hb)) (h1.keep fun b hb => hW.block b (hSd b hb)) (fun b hb => Nat.lt_of_lt_of_le (hSd b hb) hW.size) (fun b hb => Nat.lt_of_lt_of_le (hSd b hb) hW.size) (by omega) (by omega)
     have hp2 : rb < wr.heap.size := Nat.lt_of_lt_of_le (HS.out rb hrb) HB.out.size
     obtain ⟨na, hna⟩ : ∃ n, n = l[a].path.length := ⟨_, rfl⟩
     obtain ⟨nm, hnm⟩ : ∃ n, n = l[m].path.length := ⟨_, rfl⟩
     obtain ⟨b1, hb1⟩ : ∃ b, b = begP l[a].path l[m].path := ⟨_, rfl⟩
     obtain ⟨b2, hb2⟩ : ∃ b, b = begP l[m].path l[a].path := ⟨_, rfl⟩
     have HMT : Hid (meetP l[a].path l[m].path = (b1 || b2)) := hid (by unfold meetP; rw [hb1, hb2])
     rw [← hna, ← hnm] at HG1 HG2
     rw [← hb1] at HG1
     rw [← hb2] at HG2
     rw [← hna] at hca
     rw [← hnm] at hcm
     have hmn : m < n := by omega
     have dl1 : decide ((a : Int) < (n : Int)) = true := decide_eq_true (by omega)
     have dl2 : decide ((m : Int) < (n : Int)) = true := decide_eq_true (by omega)
     clear h1 h2 h3 k1 k2 k3 hkS hSd hna hnm hb1 hb2 hrb hrb'
     go_wp2_with fail
     refine wp_region_mix [0, 1, 2, 3, 4, 5, 6, 7, 8, 9, 10, 11, 12, 13, 14, 15, 16, 17, 18, 19, 20, 21, 22, 23] (by kernel_rfl) (by kernel_rfl) (fun _ d _ _ _ h => by cases d <;> exact h) ?_
     simp only [atR]
     have u1 := cell_later (B := wr.heap.size) (w := wr.drew) hca hp2
     have u2 := cell_later (B := wr.heap.size) (w := wr.drew) hcm hp2
     first | refine mix_pure ?_ | refine mix_pureB ?_
     simp only [List.takeWhile, List.dropWhile, isPure, Nat.reduceBNe]
     repeat (go_big_quiet_step (fail))
     refine wpQuiet_nil ?_
     clear u1 u2
     first | refine mix_call rfl (fun K hK => ?_) | refine mix_callB rfl (fun K hK => ?_)
     go_simp
     refine (HG1.out).mono ?_
     rintro e w8 ⟨rfl, hb⟩
     refine hK _ _ hb ?_
     clear hK K
     try simp only [Act.put]
     have hs8 := hb.size
     have t3 := (World.cell?_of_block (a := ⟨rb, roff + a * 8 + 1, none⟩) (hb.block rb hp2)).trans hca
     have t4 := (World.cell?_of_block (a := ⟨rb, roff + m * 8 + 1, none⟩) (hb.block rb hp2)).trans hcm
     have hp3 : rb < w8.heap.size := by have : wr.drew.heap.size = wr.heap.size := rfl; omega
     have HB8 : Hid (Below w.heap.size w w8) := hid (HB.out.trans ((show Below wr.heap.size wr w8 from (Below.refl _ _).drew.trans hb).mono HB.out.size))
     have HG3 := hid (HG2.out w8 hb)
     clear hca hcm hp2 hb HG1 HG2 hs8
     cases b1
     ·have u1 := cell_later (B := w8.heap.size) (w := w8) t3 hp3
      have u2 := cell_later (B := w8.heap.size) (w := w8) t4 hp3
      first | refine mix_pure ?_ | refine mix_pureB ?_
      simp only [List.takeWhile, List.dropWhile, isPure, Nat.reduceBNe]
      repeat (go_big_quiet_step (fail))
      refine wpQuiet_nil ?_
      clear u1 u2
      first | refine mix_call rfl (fun K hK => ?_) | refine mix_callB rfl (fun K hK => ?_)
      go_simp
      refine (HG3.out).mono ?_
      rintro e w9 ⟨rfl, hb⟩
      refine hK _ _ hb ?_
      clear hK K
      try simp only [Act.put]
      have HB9 : Hid (Below w.heap.size w w9) := hid (HB8.out.trans (hb.mono HB8.out.size))
      clear hb HG3 t3 t4
      first | refine mix_pure ?_ | refine mix_pureB ?_
      simp only [List.takeWhile, List.dropWhile, isPure, Nat.reduceBNe]
      repeat (go_big_quiet_step (fail))
      refine wpQuiet_nil ?_
      unfold wpMix
      cases b2
      ·have HMF : Hid (meetP l[a].path l[m].path = false) := hid (by rw [HMT.out]; rfl)
       go_wp2_with fail
       go_roundw
       case rel => exact ⟨m + 1, by go_num, by omega, HB9, hid fun k' hk hk2 => by
        by_cases e : k' = m
        ·subst e; exact HMF.out
        ·exact HM2.out k' hk (by omega)⟩
       case measure => simp [intOf]; omega
      ·have HE : Hid (freeD l = false) := hid (free_hit hla hma (by rw [HMT.out]; rfl))
       go_wp2_with fail
       go_ret
       exact ⟨by rw [HR.out, HE.out]; rfl, HB9.out⟩
     ·have HE : Hid (freeD l = false) := hid (free_hit hla hma (by rw [HMT.out]; rfl))
      first | refine mix_pure ?_ | refine mix_pureB ?_
      simp only [List.takeWhile, List.dropWhile, isPure, Nat.reduceBNe]
      repeat (go_big_quiet_step (fail))
      refine wpQuiet_nil ?_
      first | refine mix_call rfl (fun K hK => ?_) | refine mix_callB rfl (fun K hK => ?_)
      go_simp
      refine hK _ _ (Below.refl _ _) ?_
      clear hK K
      try simp only [Act.put]
      first | refine mix_pure ?_ | refine mix_pureB ?_
      simp only [List.takeWhile, List.dropWhile, isPure, Nat.reduceBNe]
      repeat (go_big_quiet_step (fail))
      refine wpQuiet_nil ?_
      unfold wpMix
      go_wp2_with fail
      go_ret
      exact ⟨by rw [HR.out, HE.out]; rfl, HB8.out⟩
    ·have d3 : decide ((m : Int) < (a : Int)) = false := decide_eq_false (by omega)
     go_wp2_with fail
     go_roundw
     case rel => exact ⟨a + 1, by go_num, by omega, HB, hid fun i' h hi k' hk => by
      by_cases e : i' = a
      ·subst e; exact HM2.out k' hk (by omega)
      ·exact HM.out i' h (by omega) k' hk⟩
     case measure => simp [intOf]; omega
  ·have d2 : decide ((a : Int) < (n : Int)) = false := decide_eq_false (by omega)
   have HE : Hid (freeD l = true) := hid (free_miss fun i hi k hk => HM.out i hi (by have := HN.out; omega) k hk)
   go_wp2_with fail
   go_ret
   exact ⟨by rw [HR.out, HE.out]; rfl, HB.out⟩
end Go.Proofs.YtlipkmdjpligeaaGreat

/- Whether a list of changes is free, by the program: its paths, sorted. -/
namespace Go.Proofs.YtlipkmdjpligeaaGreat
set_option linter.unusedVariables false
set_option linter.unusedSimpArgs false
open Go.RowKit Go.Sort
set_option maxRecDepth 100000
structure PathV (w : World) (S : Nat → Prop) where
 A : Option Addr
 c : Nat
 p : List ByteArray
 at' : StrsAt w S A p
 cap : p.length ≤ c
 len : p.length ≤ 8796093021952
instance (w : World) (S : Nat → Prop) : Inhabited (PathV w S) := ⟨⟨none, 0, [], fun h => absurd h (by simp), by simp, by simp⟩⟩
def encP {w : World} {S : Nat → Prop} (x : PathV w S) : Value := .slice x.A x.p.length x.c
def cfP {w : World} {S : Nat → Prop} (x y : PathV w S) : Int := cmpP x.p y.p
theorem encP_one {w : World} {S : Nat → Prop} : Go.Proofs.OneCell (encP (w := w) (S := S)) := fun _ => rfl
theorem cfP_swo {w : World} {S : Nat → Prop} : SWO (Go.Proofs.ltOf (cfP (w := w) (S := S))) where
 irrefl x := by
  have : cmpP x.p x.p = 0 := (cmpP_zero _ _).2 rfl
  simp [Go.Proofs.ltOf, cfP, this]
 trans x y z h1 h2 := by
  have k1 : cmpP x.p y.p < 0 := of_decide_eq_true h1
  have k2 : cmpP y.p z.p < 0 := of_decide_eq_true h2
  have h := cmpP_tri x.p y.p z.p (by omega) (by omega)
  exact decide_eq_true (show cmpP x.p z.p < 0 from h.2.2 (.inl k1))
 ntrans x y z h1 h2 := by
  have k1 : ¬ cmpP x.p y.p < 0 := of_decide_eq_false h1
  have k2 : ¬ cmpP y.p z.p < 0 := of_decide_eq_false h2
  have e1 := cmpP_neg x.p y.p
  have e2 := cmpP_neg y.p z.p
  have e3 := cmpP_neg x.p z.p
  have h := cmpP_tri z.p y.p x.p (by omega) (by omega)
  exact decide_eq_false (show ¬ cmpP x.p z.p < 0 by omega)
theorem sort_cell {α : Type} [Inhabited α] (enc : α → Value) (W : World) (blk off n : Nat) (dk : Array α) (os : Array Obj) (a : Addr) (h1 : a.block ≠ blk) (h2 : a.block < W.heap.size) : (Go.Proofs.sortWorld enc W blk off n dk os).cell? a = W.cell? a := by
 unfold Go.Proofs.sortWorld
 rw [cell?_grow _ _ _ (by rw [size_putRow]; exact h2), cell?_putRow_other enc _ blk off dk a (.inl h1)]
 rfl
theorem sort_block {α : Type} [Inhabited α] (enc : α → Value) (W : World) (blk off n : Nat) (dk : Array α) (os : Array Obj) (b : Nat) (h1 : b ≠ blk) (h2 : b < W.heap.size) : (Go.Proofs.sortWorld enc W blk off n dk os).heap[b]? = W.heap[b]? := by
 unfold Go.Proofs.sortWorld
 rw [heap_grow_old _ _ (by rw [size_putRow]; exact h2)]
 unfold putRow mapBlock
 show (W.heap.modify blk _)[b]? = _
 rw [Array.getElem?_modify, if_neg (fun h => h1 h.symm)]
theorem strs_cells {w W : World} {S : Nat → Prop} {A : Option Addr} {p : List ByteArray} (h : StrsAt w S A p) (hk : ∀ a : Addr, S a.block → W.cell? a = w.cell? a) : StrsAt W S A p := fun hp => by
 obtain ⟨b, off, hA, hb, hc⟩ := h hp
 exact ⟨b, off, hA, hb, fun i hi => ⟨(hk ⟨b, off + i, none⟩ hb).trans (hc i hi).1, (hc i hi).2⟩⟩
theorem cmp_lays {w W : World} {S : Nat → Prop} {g n : Nat} (hS : ∀ b, S b → b < w.heap.size) (hg : w.heap.size ≤ g) (hW : Below w.heap.size w W) : Go.Proofs.CmpLays1 Tryz.prog 191 #[] (encP (w := w) (S := S)) cfP g 0 n W :=
 Go.Proofs.CmpReads.lays fun m os dk _ x y => by
  have hk : ∀ a : Addr, S a.block → (Go.Proofs.sortWorld (encP (w := w) (S := S)) W g 0 m dk os).cell? a = w.cell? a := fun a ha => by
   have h1 := hS _ ha
   have h2 := hW.size
   rw [sort_cell _ _ _ _ _ _ _ a (by omega) (by omega)]
   exact hW.cell (p := a) h1
  exact (cmpSs_any x.A y.A x.c y.c x.p y.p _ S (strs_cells x.at' hk) (strs_cells y.at' hk) (by have := x.len; omega) (by have := y.len; omega)).mono fun e w' ⟨h1, h2⟩ => ⟨h1, 0, h2.symm⟩
theorem free_of_sorted {w : World} {S : Nat → Prop} {l : List DelT} {d d' : Array (PathV w S)} (hd : d.toList.map (·.p) = pathsD l) (hp : PermIn 0 d.size d d') (hs : SortedIn (Go.Proofs.ltOf cfP) 0 d.size d') :
  d'.size = l.length ∧ (freeD l = true ↔ ∀ i (h : i + 1 < d'.size), begP (d'[i]'(by omega)).p d'[i + 1].p = false) := by
 obtain ⟨h1, -, h3⟩ := hp
 have hdl : d.size = l.length := by
  have := congrArg List.length hd
  simpa [pathsD] using this
 have e1 : d.extract 0 d.size = d := by simp
 have e2 : d'.extract 0 d.size = d' := by rw [← h1]; simp
 rw [e1, e2] at h3
 have h4 : confL [] (d'.toList.map (·.p)) = confL [] (pathsD l) := by rw [← hd]; exact free_perm (h3.map _)
 refine ⟨by omega, ?_⟩
 have h5 := free_sorted (ps := d'.toList.map (·.p)) fun i j hi hj hij => by
  simp only [List.length_map, Array.length_toList] at hi hj
  have h6 := hs i j (Nat.zero_le _) hij (by omega)
  rw [getElem!_pos d' i hi, getElem!_pos d' j hj] at h6
  have k6 : ¬ cmpP d'[j].p d'[i].p < 0 := of_decide_eq_false h6
  simp only [List.getElem_map, Array.getElem_toList]
  rw [cmpP_neg]
  omega
 rw [h4] at h5
 unfold freeD
 rw [Bool.not_eq_true', h5]
 simp only [List.length_map, Array.length_toList, List.getElem_map, Array.getElem_toList]
end Go.Proofs.YtlipkmdjpligeaaGreat
