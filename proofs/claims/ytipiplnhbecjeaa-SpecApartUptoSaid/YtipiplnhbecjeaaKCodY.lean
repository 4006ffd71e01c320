/- Encode, Put and Decode; how large the code of a value that is looked at may be. -/
import Derived.Test.YtipiplnhbecjeaaKCodX
import Derived.Test.YtipiplnhbecjeaaKCodE
namespace Go.Proofs.Ytipiplnhbecjeaa
set_option linter.unusedVariables false
set_option linter.unusedSimpArgs false
set_option maxRecDepth 100000
open Go.RowKit
theorem sizeT_nil' : sizeL [] = 0 := by unfold sizeL; rfl
theorem sumN_le : ∀ (ns : List ByteArray), (∀ s ∈ ns, s.size ≤ 140737488351232) → sumN ns ≤ ns.length * 140737488351300
  | [], _ => by simp [sumN]
  | a :: r, h => by
    have h1 := tsz_le a (h a (List.mem_cons_self ..))
    have h2 := sumN_le r fun s hs => h s (List.mem_cons_of_mem _ hs)
    have e : sumN (a :: r) = tsz a + sumN r := by unfold sumN; simp
    rw [e]; simp only [List.length_cons]; omega
theorem own_le (k i : Int) (s : ByteArray) (n : Nat) (ns : List ByteArray) (hs : s.size ≤ 140737488351232) (h : ∀ s ∈ ns, s.size ≤ 140737488351232) : ownP k i s n ns ≤ (1 + ns.length) * 281474976710656 := by
  have h1 := tsz_le s hs
  have h2 := sumN_le ns h
  have h3 := (grp_length (zig i)).1
  have h4 := (grp_length n).1
  unfold ownP
  repeat' split
  all_goals omega
theorem sizeL_le (d : Nat) : ∀ (l : List VT) (n : Nat), (∀ t ∈ l, nodesT (d + 1) t ≤ 60000 → sizeT t ≤ nodesT (d + 1) t * 281474976710656) → nodesL d n l ≤ 60000 → sizeL l + n * 281474976710656 ≤ nodesL d n l * 281474976710656
  | [], n, _, _ => by rw [nodesL_nil, sizeT_nil']; omega
  | t :: r, n, h, hn => by
    unfold nodesL at hn ⊢
    unfold sizeL
    by_cases hlt : n < 65536
    · rw [if_pos hlt] at hn ⊢
      have h1 := nodesL_ge d r (n + nodesT (d + 1) t)
      have h2 := h t (List.mem_cons_self ..) (by omega)
      have h3 := sizeL_le d r (n + nodesT (d + 1) t) (fun t ht => h t (List.mem_cons_of_mem _ ht)) hn
      omega
    · rw [if_neg hlt] at hn; omega
theorem size_le {w : World} {S : Nat → Prop} : ∀ (k d : Nat) (t : VT) (v : Value), d + k = 41 → LV w S t v → nodesT d t ≤ 60000 → sizeT t ≤ nodesT d t * 281474976710656
  | 0, d, t, v, hd, _, hn => by rw [nodesT_deep d t (by omega)] at hn; omega
  | k + 1, d, t, v, hd, h, hn => by
    obtain ⟨A, c, A', c', -, -, -, hts, -, -, hst, hla⟩ := h.shape
    rw [nodesT_mk d t (by omega)] at hn ⊢
    have h1 := sizeL_le d t.items (1 + t.names.length) (fun u hu hun => by
      obtain ⟨v, hv⟩ := lva_mem hla hu
      exact size_le k (d + 1) u v (by omega) hv hun) hn
    have h2 := own_le t.kind t.num t.text t.items.length t.names hts (fun s hs => by
      obtain ⟨i, hi, rfl⟩ := List.getElem_of_mem hs
      obtain ⟨b, off, -, -, hc⟩ := hst (by omega)
      exact (hc i hi).2)
    have e : sizeT t = ownP t.kind t.num t.text t.items.length t.names + sizeL t.items := by cases t; unfold sizeT; rfl
    omega
theorem size_small {w : World} {S : Nat → Prop} {t : VT} {v : Value} (h : LV w S t v) (hl : largeT t = false) : sizeT t ≤ 9223372036854775807 := by
  have h1 : nodesT 0 t ≤ 3000 := by unfold largeT at hl; simpa using hl
  have := size_le 41 0 t v rfl h (by omega)
  omega
theorem rng_lv {w : World} {S : Nat → Prop} : ∀ (n : Nat) (t : VT) (v : Value), depthT t ≤ n → LV w S t v → rngT t
  | 0, t, v, hd, _ => by cases t; rw [depthT_mk] at hd; omega
  | n + 1, .mk k i s l ns, v, hd, h => by
    obtain ⟨A, c, A', c', -, -, hi, -, -, -, -, hla⟩ := h.shape
    rw [depthT_mk] at hd
    unfold rngT
    exact ⟨hi, rngL_of fun t ht => by
      obtain ⟨v, hv⟩ := lva_mem hla ht
      exact rng_lv n t v (by have := depthL_le ht; omega) hv⟩
/-- The code of a value that is whole; nothing of another one. -/
def encO (t : VT) : List UInt8 := if checkT t = 0 then encT t else []
theorem encO_length {t : VT} (hz : sizeT t ≤ 9223372036854775807) : (encO t).length ≤ 4096 := by
  unfold encO
  split
  · next h =>
    obtain ⟨h1, -, h3⟩ := (check_zero hz).1 h
    rw [enc_len t h1]; exact h3
  · simp
set_option maxHeartbeats 4000000 in
set_option maxRecDepth 100000 in
theorem cencode_any (S : Nat → Prop) (t : VT) (v : Value) (w : World) (hS : ∀ b, S b → b < w.heap.size) (h : LV w S t v) (hd : depthT t ≤ 4611686018427387903) (hz : sizeT t ≤ 9223372036854775807) :
    Calls Try.prog 47 #[v] w fun e w' => ∃ v', e = .returned (.tuple #[v', .int .i64 (checkT t)]) ∧ OwnB w' w.heap.size v' (encO t) ∧ Below w.heap.size w w' := by
  obtain ⟨A, c, A', c', rfl, -⟩ := h.shape
  have HX := Lib.hid (Box.new (w := w) (.int .i64 t.kind) (.int .i64 t.num) (.string t.text) (.slice A t.items.length c) (.slice A' t.names.length c'))
  have hb0 := below_box (w := w) (.cells #[.int .i64 t.kind, .int .i64 t.num, .string t.text, .slice A t.items.length c, .slice A' t.names.length c'] 25)
  have HC := Lib.hid (check_any S t _ _ (fun b hb => Nat.lt_of_lt_of_le (hS b hb) hb0.size) (h.keep (w' := w.alloc (.cells #[.int .i64 t.kind, .int .i64 t.num, .string t.text, .slice A t.items.length c, .slice A' t.names.length c'] 25)) fun b hb => hb0.block b (hS b hb)) hd)
  have HB0 := Lib.hid hb0
  have HV := Lib.hid h
  clear h hb0
  go_enter Try.func47, Try.ntmps47
  go_wp2_with fail
  refine HC.out.mono ?_
  rintro e w1 ⟨rfl, hb⟩
  have hb1 := toStart HB0.out hb
  have hx := HX.out.call hb
  have hv := HV.out.keep (w' := w1) fun b hb => hb1.block b (hS b hb)
  have hz1 := hb1.size
  have HB1 := Lib.hid hb1
  have HX1 := Lib.hid hx
  have HV1 := Lib.hid hv
  clear hb hb1 hx hv HB0 HX HV HC
  obtain ⟨x, hx⟩ : ∃ x, x = checkT t := ⟨_, rfl⟩
  rw [← hx]
  have HE := Lib.hid hx
  clear hx
  by_cases h0 : x = 0
  · subst h0
    have hch := (check_zero hz).1 HE.out.symm
    have v0 := HX1.out.c0
    have v1 := HX1.out.c1
    have v2 := HX1.out.c2
    have v3 := HX1.out.c3
    have v4 := HX1.out.c4
    have HP := Lib.hid (put_ok (depthT t) t (Nat.le_refl _) hch.1 S _ (.slice none 0 0) w.heap.size [] w1 hS hz1 HV1.out ⟨rfl, .inl ⟨rfl, rfl⟩⟩ (by have := enc_len t hch.1; have := hch.2.2; simp; omega))
    have HCH := Lib.hid hch
    clear hch
    go_wp2_with fail
    refine HP.out.mono ?_
    rintro e w2 ⟨v', rfl, hv', hb2, -⟩
    go_wp2_with fail
    go_ret2
    refine ⟨v', (by rw [← HE.out]; rfl), ?_, HB1.out.trans hb2⟩
    unfold encO
    rw [if_pos HE.out.symm]
    exact hv'
  · have h1 : (x == 0) = false := beq_false_of_ne h0
    have h2 : (x != 0) = true := by simp [h0]
    go_wp2_with fail
    go_ret2
    refine ⟨_, (by rw [← HE.out]; rfl), ?_, HB1.out⟩
    unfold encO
    rw [if_neg (fun h => h0 (HE.out.trans h))]
    exact ⟨rfl, .inl ⟨rfl, rfl⟩⟩
end Go.Proofs.Ytipiplnhbecjeaa
