/- Rows of changes of the call's own. -/
import Derived.Test.YtpcdngpppjdgcaaGreatKCodA
import Derived.Test.YtpcdngpppjdgcaaGreatKRegR
import Derived.Test.YtpcdngpppjdgcaaGreatKTrA
import Derived.Laws.OwnMore
namespace Go.Proofs.YtpcdngpppjdgcaaGreat
set_option linter.unusedVariables false
set_option linter.unusedSimpArgs false
open Go.RowKit
set_option maxRecDepth 100000
theorem Tryz.infoDlt : (Tryz.prog.info? 95).map (fun i => (i.zero, i.size, i.bytes)) = some (some (.agg #[.int .i64 0, .slice none 0 0, .int .i64 0, .int .i64 0, .string ⟨#[]⟩, .slice none 0 0, .slice none 0 0, .int .i64 0]), 8, 120) := by kernel_rfl
def DelsC (w : World) (S : Nat → Prop) : List DelT → List Value → Prop
  | [], xs => xs = []
  | o :: l, xs => ∃ c r, xs = c ++ r ∧ DelL w S o c.toArray ∧ DelsC w S l r
section
variable {w w' : World} {S S' : Nat → Prop}
theorem DelL.lenL {o : DelT} {cs : List Value} (h : DelL w S o cs.toArray) : cs.length = 8 := by
  have := h.size
  simpa using this
theorem DelL.oneL {o : DelT} {cs : List Value} (h : DelL w S o cs.toArray) : ∀ u ∈ cs, u.oneCell' = true := by
  obtain ⟨PA, pc, VA, vc, VA', vc', h1, -⟩ := h
  simp only [Array.mk.injEq] at h1
  subst h1
  intro u hu
  simp only [List.mem_cons, List.not_mem_nil, or_false] at hu
  rcases hu with rfl | rfl | rfl | rfl | rfl | rfl | rfl | rfl <;> rfl
theorem DelsC.len : ∀ {l : List DelT} {xs : List Value}, DelsC w S l xs → xs.length = l.length * 8
  | [], xs, h => by have h : xs = [] := h; rw [h]; rfl
  | o :: l, xs, h => by
    obtain ⟨c, r, rfl, h1, h2⟩ := h
    rw [List.length_append, h1.lenL, DelsC.len h2, List.length_cons]; omega
theorem DelsC.keep (hk : ∀ b, S b → w'.heap[b]? = w.heap[b]?) : ∀ {l : List DelT} {xs : List Value}, DelsC w S l xs → DelsC w' S l xs
  | [], _, h => h
  | _ :: _, _, h => by obtain ⟨c, r, h0, h1, h2⟩ := h; exact ⟨c, r, h0, h1.keep hk, DelsC.keep hk h2⟩
theorem DelsC.imp (hS : ∀ b, S b → S' b) : ∀ {l : List DelT} {xs : List Value}, DelsC w S l xs → DelsC w S' l xs
  | [], _, h => h
  | _ :: _, _, h => by obtain ⟨c, r, h0, h1, h2⟩ := h; exact ⟨c, r, h0, h1.imp hS, DelsC.imp hS h2⟩
theorem DelsC.push {o : DelT} {cs : List Value} (ho : DelL w S o cs.toArray) : ∀ {l : List DelT} {xs : List Value}, DelsC w S l xs → DelsC w S (l ++ [o]) (xs ++ cs)
  | [], xs, h => by have h : xs = [] := h; subst h; exact ⟨cs, [], by simp, ho, rfl⟩
  | p :: l, xs, h => by
    obtain ⟨c, r, rfl, h1, h2⟩ := h
    exact ⟨c, r ++ cs, by rw [List.append_assoc], h1, DelsC.push ho h2⟩
theorem DelsC.at : ∀ {l : List DelT} {xs : List Value}, DelsC w S l xs → ∀ i (hi : i < l.length), ∃ cs : List Value, DelL w S l[i] cs.toArray ∧ ∀ j, j < 8 → xs[i * 8 + j]? = cs[j]?
  | [], _, _, i, hi => absurd hi (by simp)
  | o :: l, xs, h, i, hi => by
    obtain ⟨c, r, rfl, h1, h2⟩ := h
    cases i with
    | zero =>
      refine ⟨c, h1, fun j hj => ?_⟩
      rw [List.getElem?_append_left (by rw [h1.lenL]; omega)]
      congr 1; omega
    | succ i =>
      obtain ⟨cs, h3, h4⟩ := DelsC.at h2 i (by simpa using hi)
      refine ⟨cs, h3, fun j hj => ?_⟩
      rw [List.getElem?_append_right (by rw [h1.lenL]; omega), h1.lenL, ← h4 j hj]
      congr 1; omega
theorem DelsC.rows {B : Nat} {A : Option Addr} {c n : Nat} {l : List DelT} {xs : List Value} (h : DelsC w S l xs) (ho : w.ownsRow B 95 8 (.slice A n c) n xs) (hn : n = l.length) (hS : ∀ b, S b → S' b) (hrow : ∀ p, (Value.slice A n c).ownBlock = some p → S' p) : DelsL w S' A l := fun hp => by
  subst hn
  rcases ho.2 with ⟨-, h0⟩ | ⟨g, cap, cur, e, hB, hh, hr⟩
  · omega
  · injection e with e1 e2 e3
    subst e1 e3
    refine ⟨g, 0, rfl, hrow g rfl, fun i hi => ?_⟩
    obtain ⟨cs, h4, h5⟩ := h.at i hi
    refine ⟨cs.toArray, fun j v hv => ?_, h4.imp hS⟩
    have hv' : cs[j]? = some v := by simpa using hv
    have hj : j < 8 := by have := (List.getElem?_eq_some_iff.1 hv').1; have := h4.lenL; omega
    have h6 := ho.cells (g := g) rfl (i * 8 + j) v (by rw [h5 j hj]; exact hv')
    rw [add_at, Nat.zero_add] at h6
    rw [Nat.zero_add]
    exact h6
end
def DelsRow (w0 : World) (w : World) (A : Option Addr) (c : Nat) (l : List DelT) : Prop :=
  ∃ xs, ∃ S : Nat → Prop, w.ownsRow w0.heap.size 95 8 (.slice A l.length c) l.length xs ∧ DelsC w S l xs ∧ ∀ b, S b → w0.heap.size ≤ b ∧ b < w.heap.size ∧ ∀ p, (Value.slice A l.length c).ownBlock = some p → b ≠ p
theorem DelsRow.nil (w0 w : World) : DelsRow w0 w none 0 [] := ⟨[], fun _ => False, World.ownsRow_nil _ _ _ _, rfl, fun _ h => h.elim⟩
theorem DelsRow.only {w0 w w' : World} {A : Option Addr} {c g : Nat} {l : List DelT} (h : DelsRow w0 w A c l) (ho : Only w w' g) (hg : g < w0.heap.size) : DelsRow w0 w' A c l := by
  obtain ⟨xs, S, h1, h2, h3⟩ := h
  refine ⟨xs, S, ⟨h1.1, h1.2.imp id ?_⟩, h2.keep fun b hb => ho.block b (h3 b hb).2.1 (by rintro ⟨⟩; have := (h3 _ hb).1; omega), fun b hb => ⟨(h3 b hb).1, Nat.lt_of_lt_of_le (h3 b hb).2.1 ho.size, (h3 b hb).2.2⟩⟩
  rintro ⟨q, cap, cur, e, hB, hh, hr⟩
  exact ⟨q, cap, cur, e, hB, (ho.block q (Array.getElem?_eq_some_iff.1 hh).1 (by rintro ⟨⟩; omega)).trans hh, hr⟩
theorem DelsRow.rows {w0 w : World} {A : Option Addr} {c : Nat} {l : List DelT} (h : DelsRow w0 w A c l) : DelsL w (NewB w0.heap.size w) A l := by
  obtain ⟨xs, S, h1, h2, h3⟩ := h
  exact h2.rows h1 rfl (fun b hb => ⟨(h3 b hb).1, (h3 b hb).2.1⟩) (fun p hp => World.ownsRow.lt h1 p hp)
theorem DelsRow.cap {w0 w : World} {A : Option Addr} {c : Nat} {l : List DelT} (h : DelsRow w0 w A c l) : l.length ≤ c := by
  obtain ⟨xs, S, h1, -⟩ := h
  rcases h1.2 with ⟨e, h0⟩ | ⟨g, cap, cur, e, -, -, hc, -⟩
  · omega
  · injection e with _ _ e; omega
theorem DelsRow.push {w0 w W : World} {p cap n c : Nat} {A : Option Addr} {xs cs : List Value} {S S2 : Nat → Prop} {o : DelT} {l : List DelT} (hn : n = l.length)
    (hb : w.grownBy W (Value.slice A n c).ownBlock) (hw : WhereRow w (.slice A n c) (.slice (some ⟨p, 0, none⟩) (n + 1) cap)) (hown : W.ownsRow w0.heap.size 95 8 (.slice (some ⟨p, 0, none⟩) (n + 1) cap) (n + 1) (xs ++ cs)) (hl : DelsC w S l xs) (hone : DelL w S2 o cs.toArray)
    (hS : ∀ b, S b → w0.heap.size ≤ b ∧ b < w.heap.size ∧ ∀ p, (Value.slice A n c).ownBlock = some p → b ≠ p) (hS2 : ∀ b, S2 b → w0.heap.size ≤ b ∧ b < w.heap.size ∧ ∀ p, (Value.slice A n c).ownBlock = some p → b ≠ p) :
    DelsRow w0 W (some ⟨p, 0, none⟩) cap (l ++ [o]) := by
  subst hn
  have hlen : (l ++ [o]).length = l.length + 1 := by simp
  have hk : ∀ b, b < w.heap.size → (∀ p, (Value.slice A l.length c).ownBlock = some p → b ≠ p) → W.heap[b]? = w.heap[b]? := fun b h1 h3 => hb.block b h1 (fun e => h3 b e.symm rfl)
  refine ⟨xs ++ cs, fun b => S b ∨ S2 b, by rw [hlen]; exact hown, DelsC.push ((hone.keep fun b hb' => hk b (hS2 b hb').2.1 (hS2 b hb').2.2).imp fun b h => .inr h) ((DelsC.keep (fun b hb' => hk b (hS b hb').2.1 (hS b hb').2.2) hl).imp fun b h => .inl h), ?_⟩
  intro b hb'
  have hc : w0.heap.size ≤ b ∧ b < w.heap.size ∧ ∀ p, (Value.slice A l.length c).ownBlock = some p → b ≠ p := hb'.elim (hS b) (hS2 b)
  refine ⟨hc.1, Nat.lt_of_lt_of_le hc.2.1 hb.size, fun q hq => ?_⟩
  have hq : p = q := by simpa [Value.ownBlock] using hq
  subst hq
  rcases hw with hw | ⟨q, hq, e⟩
  · exact hc.2.2 p hw.symm
  · injection e with e
    have e : p = q := e
    omega
theorem DelsRow.alloc {w0 w : World} {A : Option Addr} {c : Nat} {l : List DelT} (h : DelsRow w0 w A c l) (o : Obj) : DelsRow w0 (w.alloc o) A c l := by
  obtain ⟨xs, S, h1, h2, h3⟩ := h
  have hk : ∀ b, b < w.heap.size → (w.alloc o).heap[b]? = w.heap[b]? := fun b hb => Below.heap_alloc w o b hb
  refine ⟨xs, S, ⟨h1.1, h1.2.imp id ?_⟩, h2.keep fun b hb => hk b (h3 b hb).2.1, fun b hb => ⟨(h3 b hb).1, by have := (h3 b hb).2.1; simp; omega, (h3 b hb).2.2⟩⟩
  rintro ⟨q, cap, cur, e, hB, hh, hr⟩
  exact ⟨q, cap, cur, e, hB, (hk q (Array.getElem?_eq_some_iff.1 hh).1).trans hh, hr⟩
theorem DelsRow.own {w0 w : World} {A : Option Addr} {c : Nat} {l : List DelT} (h : DelsRow w0 w A c l) : ∀ p, (Value.slice A l.length c).ownBlock = some p → w0.heap.size ≤ p ∧ p < w.heap.size := by
  obtain ⟨xs, S, h1, -⟩ := h
  exact fun p hp => World.ownsRow.lt h1 p hp
theorem row_pos {w : World} {B n k : Nat} {t : TypeId} {v : Value} {xs : List Value} (h : w.ownsRow B t k v n xs) (hn : 0 < n) : ∃ p cap, v = .slice (some ⟨p, 0, none⟩) n cap := by
  rcases h.2 with ⟨-, h0⟩ | ⟨g, cap, cur, h1, -⟩
  · omega
  · exact ⟨g, cap, h1⟩
theorem eight_new (w : World) (cs : List Value) (t : TypeId) : ∀ j u, cs[j]? = some u → (w.alloc (.cells cs.toArray t)).cell? ((⟨w.heap.size, 0, none⟩ : Addr).add j) = some u := fun j u h => by
  rw [add_at, Nat.zero_add]
  exact (Go.Joins.cell_of_block (heap_alloc_new w _) j).trans (by simpa using h)
theorem DelsC.of {w : World} {S : Nat → Prop} {b : Nat} : ∀ (l : List DelT) (off : Nat), (∀ i (h : i < l.length), ∃ cs : Array Value, (∀ j v, cs[j]? = some v → w.cell? ⟨b, off + i * 8 + j, none⟩ = some v) ∧ DelL w S l[i] cs) → ∃ xs, DelsC w S l xs ∧ ∀ j u, xs[j]? = some u → w.cell? ⟨b, off + j, none⟩ = some u
  | [], off, _ => ⟨[], rfl, fun j u h => by simp at h⟩
  | d :: l, off, h => by
    obtain ⟨cs, h1, h2⟩ := h 0 (by simp)
    obtain ⟨xs, h3, h4⟩ := DelsC.of l (off + 8) fun i hi => by
      obtain ⟨cs, k1, k2⟩ := h (i + 1) (by simpa using hi)
      refine ⟨cs, fun j v hv => ?_, by simpa using k2⟩
      have := k1 j v hv
      rw [show off + (i + 1) * 8 + j = off + 8 + i * 8 + j by omega] at this
      exact this
    have hc8 : cs.toList.length = 8 := by have := h2.size; simpa using this
    refine ⟨cs.toList ++ xs, ⟨cs.toList, xs, rfl, by simpa using h2, h3⟩, fun j u hu => ?_⟩
    by_cases hj : j < 8
    · rw [List.getElem?_append_left (by omega)] at hu
      have := h1 j u (by simpa using hu)
      rw [show off + 0 * 8 + j = off + j by omega] at this
      exact this
    · rw [List.getElem?_append_right (by omega), hc8] at hu
      have := h4 (j - 8) u hu
      rw [show off + 8 + (j - 8) = off + j by omega] at this
      exact this
theorem DelsC.one {w : World} {S : Nat → Prop} : ∀ {l : List DelT} {xs : List Value}, DelsC w S l xs → ∀ u ∈ xs, u.oneCell' = true
  | [], xs, h, u, hu => by have h : xs = [] := h; subst h; simp at hu
  | d :: l, xs, h, u, hu => by
    obtain ⟨c, r, rfl, h1, h2⟩ := h
    rcases List.mem_append.1 hu with hu | hu
    · exact h1.oneL u hu
    · exact DelsC.one h2 u hu
open Lib (hid)
theorem dels_ne_nil (a : Addr) (n c : Nat) (w : World) : (binOp .eql 26 (.slice (some a) n c) (.slice none 0 0)).run Tryz.prog w = .ok (.bool false) w := by kernel_rfl
theorem dels_nil (w : World) : (binOp .eql 26 (.slice none 0 0) (.slice none 0 0)).run Tryz.prog w = .ok (.bool true) w := by kernel_rfl
theorem strs_nil_eq (w : World) : (binOp .eql 23 (.slice none 0 0) (.slice none 0 0)).run Tryz.prog w = .ok (.bool true) w := by kernel_rfl
theorem own_slice {w : World} {B n k : Nat} {t : TypeId} {v : Value} {xs : List Value} (h : w.ownsRow B t k v n xs) : ∃ A c, v = .slice A n c ∧ (A = none → c = 0) ∧ n ≤ c := by
  rcases h.2 with ⟨e, h0⟩ | ⟨g, cap, cur, e, -, -, hc, -⟩
  · exact ⟨none, 0, by rw [e, h0], fun _ => rfl, by omega⟩
  · exact ⟨_, _, e, fun h => (by cases h), hc⟩
set_option maxHeartbeats 4000000 in
theorem slCloneD_any (S : Nat → Prop) (A : Option Addr) (c : Nat) (l : List DelT) (w : World) (hS : ∀ b, S b → b < w.heap.size) (h : DelsL w S A l) (hA : A = none → c = 0 ∧ l = []) (hl : l.length ≤ 1099511627776) :
    Calls Tryz.prog 94 #[.slice A l.length c] w fun e w' => ∃ v, e = .returned v ∧ (∃ xs, w'.ownsRow w.heap.size 95 8 v l.length xs ∧ DelsC w' S l xs) ∧ Below w.heap.size w w' := by
  cases A with
  | none =>
    obtain ⟨rfl, rfl⟩ := hA rfl
    clear h hS hA hl
    have he := dels_nil w
    show Calls Tryz.prog 94 #[.slice none 0 0] w _
    go_enter Tryz.func94, Tryz.ntmps94
    go_wp2_with fail
    go_ret
    exact ⟨_, rfl, ⟨[], World.ownsRow_nil _ _ _ _, rfl⟩, Below.refl _ _⟩
  | some ad =>
    obtain ⟨i0, hi, hz0, hz1, hz2⟩ := info_parts Tryz.infoDlt
    have hxs : ∃ xs, DelsC w S l xs ∧ ∀ j u, xs[j]? = some u → w.cell? (ad.add j) = some u := by
      by_cases hp : 0 < l.length
      · obtain ⟨b, off, e, hb, hc⟩ := h hp
        injection e with e
        subst e
        obtain ⟨xs, h1, h2⟩ := DelsC.of l off hc
        exact ⟨xs, h1, fun j u hu => by rw [add_at]; exact h2 j u hu⟩
      · obtain rfl : l = [] := List.eq_nil_of_length_eq_zero (by omega)
        exact ⟨[], rfl, fun j u hu => by simp at hu⟩
    obtain ⟨xs, hx1, hx2⟩ := hxs
    have hk0 : ∀ b, b < w.heap.size → (w.alloc (.cells #[] 95)).heap[b]? = w.heap[b]? := fun b hb => Below.heap_alloc w _ b hb
    have ho0 : (w.alloc (.cells #[] 95)).ownsRow w.heap.size 95 8 (.slice (some ⟨w.heap.size, 0, none⟩) 0 0) 0 [] := World.ownsRow_made w #[] 0 (Nat.le_refl _) (by decide) rfl
    have HO := hid ho0
    have hb0 : Below w.heap.size w (w.alloc (.cells #[] 95)) := below_box _
    have HB0 := hid hb0
    have HN : Hid (∀ j u, xs[j]? = some u → (w.alloc (.cells #[] 95)).cell? (ad.add j) = some u) := hid fun j u hu => by
      have h2 := hx2 j u hu
      exact (World.cell?_of_block (hk0 _ (World.block_lt_of_cell? w _ h2))).trans h2
    have HX := hid hx1
    have HL := hid hx1.len
    have H1 := hid hx1.one
    have HS := hid hS
    obtain ⟨n, hn⟩ : ∃ n, n = l.length := ⟨_, rfl⟩
    have HNN := hid hn
    rw [← hn] at hl ⊢
    have he := dels_ne_nil ad n c w
    clear hx1 hx2 hk0 ho0 h hA hS hn hb0
    go_enter Tryz.func94, Tryz.ntmps94
    go_wp2_with (at_builtin; refine wpList_append_own _ rfl _ _ 26 rfl w.heap.size 95 i0 _ 8 120 Tryz.underlying26 hi hz0 hz1 hz2 rfl (by decide) (.slice (some ⟨w.heap.size, 0, none⟩) 0 0) 0 [] rfl HO.out ad n c xs rfl (by rw [HL.out, ← HNN.out]) HN.out H1.out (by unfold maxLen; omega) (by omega) (by simp) ?_; intro v' w' hv' hg' hnil'; have HV := hid hv'; have HG := hid hg'; clear hv' hg' hnil')
    go_ret
    have hg := HG.out
    have hv := HV.out
    rw [List.nil_append, Nat.zero_add] at hv
    have hbb : Below w.heap.size w w' := HB0.out.grown hg (by simp) (fun k hk => by simp [Value.ownBlock] at hk; omega)
    exact ⟨_, rfl, ⟨xs, hv, HX.out.keep fun b hb => hbb.block b (HS.out b hb)⟩, hbb⟩
set_option maxHeartbeats 2000000 in
theorem cloneS_all (S : Nat → Prop) (A : Option Addr) (c : Nat) (p : List ByteArray) (w : World) (h : StrsAt w S A p) (hS : ∀ b, S b → b < w.heap.size) (hA : A = none → c = 0) (hl : p.length ≤ 8796093021952) :
    Calls Tryz.prog 95 #[.slice A p.length c] w fun e w' => ∃ v, e = .returned v ∧ OwnS w' w.heap.size v p ∧ Below w.heap.size w w' := by
  cases A with
  | none =>
    obtain rfl := hA rfl
    obtain rfl : p = [] := by
      match p, h with
      | [], _ => rfl
      | m :: r, h => obtain ⟨_, _, h, _⟩ := h (by simp); cases h
    clear h hS hA hl
    have he := strs_nil_eq w
    show Calls Tryz.prog 95 #[.slice none 0 0] w _
    go_enter Tryz.func95, Tryz.ntmps95
    go_wp2_with fail
    go_ret
    exact ⟨_, rfl, OwnS.nil _ _, Below.refl _ _⟩
  | some ad =>
    have ho0 : OwnS (w.alloc (.cells #[] 9)) w.heap.size (.slice (some ⟨w.heap.size, 0, none⟩) 0 0) [] := World.ownsRow_made w #[] 0 (Nat.le_refl _) (by decide) rfl
    have HO := hid ho0
    have hb0 : Below w.heap.size w (w.alloc (.cells #[] 9)) := below_box _
    have HB0 := hid hb0
    have HP := hid (h.keep (w' := w.alloc (.cells #[] 9)) fun b hb => hb0.block b (hS b hb))
    obtain ⟨n, hn⟩ : ∃ n, n = p.length := ⟨_, rfl⟩
    have HN := hid hn
    rw [← hn] at hl ⊢
    have he := strs_ne_nil ad n c w
    clear h hS hA ho0 hb0 hn
    go_enter Tryz.func95, Tryz.ntmps95
    go_wp2_with (at_builtin; refine wpList_append_strs rfl _ _ rfl w.heap.size (.slice (some ⟨w.heap.size, 0, none⟩) 0 0) [] rfl HO.out (some ad) c p S (by rw [← HN.out]; rfl) (fun h => by cases h) HP.out (by simp) (by rw [← HN.out]; simp; omega) ?_; intro v' w' hv' hg'; have HV := hid hv'; have HG := hid hg'; clear hv' hg')
    go_ret
    have hv := HV.out
    rw [List.nil_append] at hv
    exact ⟨_, rfl, hv, HB0.out.grown HG.out (by simp) (fun k hk => by simp [Value.ownBlock] at hk; omega)⟩
def Out (F : Nat → Prop) (A A' : Option Addr) : Nat → Prop := fun b => F b ∧ (∀ a, A = some a → a.block ≠ b) ∧ (∀ a, A' = some a → a.block ≠ b)
mutual
def OV (w : World) : (Nat → Prop) → VT → Value → Prop
  | F, .mk k i s l ns, v => ∃ A c A' c' xs, v = .agg #[.int .i64 k, .int .i64 i, .string s, .slice A l.length c, .slice A' ns.length c'] ∧ Rng k ∧ Rng i ∧ s.size ≤ 140737488351232 ∧
      l.length ≤ 1759218604390 ∧ ns.length ≤ 8796093021952 ∧ (∀ s ∈ ns, s.size ≤ 140737488351232) ∧
      w.ownsRow 0 9 1 (.slice A' ns.length c') ns.length (ns.map Value.string) ∧ w.ownsRow 0 25 5 (.slice A l.length c) l.length xs ∧
      (∀ a, A' = some a → F a.block) ∧ (∀ a, A = some a → F a.block) ∧ (∀ a a', A = some a → A' = some a' → a.block ≠ a'.block) ∧ OVs w (Out F A A') l xs
def OVs (w : World) : (Nat → Prop) → List VT → List Value → Prop
  | _, [], xs => xs = []
  | F, t :: r, xs => ∃ c0 c1 c2 c3 c4 ys F1 F2, xs = c0 :: c1 :: c2 :: c3 :: c4 :: ys ∧ OV w F1 t (.agg #[c0, c1, c2, c3, c4]) ∧ OVs w F2 r ys ∧ (∀ b, F1 b → F b) ∧ (∀ b, F2 b → F b) ∧ (∀ b, F1 b → F2 b → False)
end
theorem Out.imp {F F' : Nat → Prop} {A A' : Option Addr} (h : ∀ b, F b → F' b) : ∀ b, Out F A A' b → Out F' A A' b := fun b hb => ⟨h b hb.1, hb.2⟩
theorem OVs.imp {w : World} {F F' : Nat → Prop} (hF : ∀ b, F b → F' b) {l : List VT} {xs : List Value} (h : OVs w F l xs) : OVs w F' l xs := by
  cases l with
  | nil => unfold OVs at h ⊢; exact h
  | cons t r =>
    unfold OVs at h ⊢
    obtain ⟨c0, c1, c2, c3, c4, ys, F1, F2, h0, h1, h2, h3, h4, h5⟩ := h
    exact ⟨c0, c1, c2, c3, c4, ys, F1, F2, h0, h1, h2, fun b hb => hF b (h3 b hb), fun b hb => hF b (h4 b hb), h5⟩
theorem OV.imp {w : World} {F F' : Nat → Prop} (hF : ∀ b, F b → F' b) {t : VT} {v : Value} (h : OV w F t v) : OV w F' t v := by
  cases t with
  | mk k i s l ns =>
    unfold OV at h ⊢
    obtain ⟨A, c, A', c', xs, h0, h1, h2, h3, h4, h5, h6, h7, h8, h9, h10, h11, h12⟩ := h
    exact ⟨A, c, A', c', xs, h0, h1, h2, h3, h4, h5, h6, h7, h8, fun a ha => hF _ (h9 a ha), fun a ha => hF _ (h10 a ha), h11, h12.imp (Out.imp hF)⟩
theorem row_keep {w w' : World} {B : Nat} {e : TypeId} {size n c : Nat} {A : Option Addr} {xs : List Value} (h : w.ownsRow B e size (.slice A n c) n xs) (hk : ∀ a, A = some a → w'.heap[a.block]? = w.heap[a.block]?) : w'.ownsRow B e size (.slice A n c) n xs := by
  refine ⟨h.1, ?_⟩
  rcases h.2 with h2 | ⟨g, cap, cur, hv, hg, hh, hr⟩
  · exact .inl h2
  · injection hv with e1 e2 e3
    subst e1
    exact .inr ⟨g, cap, cur, by rw [e3], hg, (hk _ rfl).trans hh, hr⟩
mutual
theorem OV.keep {w w' : World} : ∀ {F : Nat → Prop} {t : VT} {v : Value}, (∀ b, F b → w'.heap[b]? = w.heap[b]?) → OV w F t v → OV w' F t v
  | F, .mk k i s l ns, v, hk, h => by
    unfold OV at h ⊢
    obtain ⟨A, c, A', c', xs, h0, h1, h2, h3, h4, h5, h6, h7, h8, h9, h10, h11, h12⟩ := h
    exact ⟨A, c, A', c', xs, h0, h1, h2, h3, h4, h5, h6, row_keep h7 fun a ha => hk _ (h9 a ha), row_keep h8 fun a ha => hk _ (h10 a ha), h9, h10, h11, OVs.keep (fun b hb => hk b hb.1) h12⟩
theorem OVs.keep {w w' : World} : ∀ {F : Nat → Prop} {l : List VT} {xs : List Value}, (∀ b, F b → w'.heap[b]? = w.heap[b]?) → OVs w F l xs → OVs w' F l xs
  | F, [], xs, hk, h => by unfold OVs at h ⊢; exact h
  | F, t :: r, xs, hk, h => by
    unfold OVs at h ⊢
    obtain ⟨c0, c1, c2, c3, c4, ys, F1, F2, h0, h1, h2, h3, h4, h5⟩ := h
    exact ⟨c0, c1, c2, c3, c4, ys, F1, F2, h0, OV.keep (fun b hb => hk b (h3 b hb)) h1, OVs.keep (fun b hb => hk b (h4 b hb)) h2, h3, h4, h5⟩
end
theorem OVs.of {w : World} : ∀ {l : List VT} {F : Nat → Prop} {xs : List Value} (Fs : Nat → Nat → Prop), xs.length = l.length * 5 → (∀ i j b, i ≠ j → Fs i b → Fs j b → False) → (∀ j b, Fs j b → F b) →
    (∀ j (hj : j < l.length), ∃ c0 c1 c2 c3 c4, xs[j * 5]? = some c0 ∧ xs[j * 5 + 1]? = some c1 ∧ xs[j * 5 + 2]? = some c2 ∧ xs[j * 5 + 3]? = some c3 ∧ xs[j * 5 + 4]? = some c4 ∧ OV w (Fs j) l[j] (.agg #[c0, c1, c2, c3, c4])) → OVs w F l xs
  | [], F, xs, Fs, hl, _, _, _ => by unfold OVs; exact List.eq_nil_of_length_eq_zero (by simpa using hl)
  | t :: r, F, xs, Fs, hl, k1, k2, k3 => by
    obtain ⟨c0, c1, c2, c3, c4, e0, e1, e2, e3, e4, e5⟩ := k3 0 (by simp)
    match xs, hl with
    | a0 :: a1 :: a2 :: a3 :: a4 :: ys, hl =>
      simp at e0 e1 e2 e3 e4
      subst e0 e1 e2 e3 e4
      unfold OVs
      refine ⟨_, _, _, _, _, ys, Fs 0, fun b => ∃ j, Fs (j + 1) b, rfl, e5, OVs.of (fun j => Fs (j + 1)) (by simp at hl; omega) (fun i j b hij => k1 _ _ b (by omega)) (fun j b hb => ⟨j, hb⟩) (fun j hj => ?_), fun b hb => k2 0 b hb, fun b ⟨j, hb⟩ => k2 _ b hb, fun b hb ⟨j, hb'⟩ => k1 0 (j + 1) b (by omega) hb hb'⟩
      obtain ⟨d0, d1, d2, d3, d4, g0, g1, g2, g3, g4, g5⟩ := k3 (j + 1) (by simpa using hj)
      have hs : (j + 1) * 5 = j * 5 + 5 := by omega
      rw [hs] at g0 g1 g2 g3 g4
      exact ⟨d0, d1, d2, d3, d4, g0, g1, g2, g3, g4, g5⟩
    | [], hl => simp at hl
    | [_], hl => simp at hl; omega
    | [_, _], hl => simp at hl; omega
    | [_, _, _], hl => simp at hl; omega
    | [_, _, _, _], hl => simp at hl; omega
mutual
theorem OV.lv {w : World} : ∀ {F : Nat → Prop} {t : VT} {v : Value}, OV w F t v → LV w F t v
  | F, .mk k i s l ns, v, h => by
    unfold OV at h
    obtain ⟨A, c, A', c', xs, h0, h1, h2, h3, h4, h5, h6, h7, h8, h9, h10, h11, h12⟩ := h
    rw [h0]
    refine LV.mk h1 h2 h3 h4 h5 (fun hp => ?_) (fun hp => ?_)
    · rcases h7.2 with ⟨-, h⟩ | ⟨g, cap, cur, hv, -⟩
      · omega
      · injection hv with e1 e2 e3
        subst e1
        refine ⟨g, 0, rfl, h9 _ rfl, fun j hj => ⟨?_, h6 _ (List.getElem_mem hj)⟩⟩
        have := h7.cells (g := g) rfl j (.string ns[j]) (by simp [List.getElem?_map, List.getElem?_eq_getElem hj])
        rw [addr_at] at this
        exact this
    · rcases h8.2 with ⟨-, h⟩ | ⟨g, cap, cur, hv, -⟩
      · omega
      · injection hv with e1 e2 e3
        subst e1
        refine ⟨g, 0, rfl, h10 _ rfl, OVs.lvs (fun b hb => hb.1) h12 fun j v hj => ?_⟩
        have := h8.cells (g := g) rfl j v hj
        rw [addr_at] at this
        exact this
theorem OVs.lvs {w : World} {S : Nat → Prop} {g : Nat} : ∀ {F : Nat → Prop} {l : List VT} {xs : List Value} {off : Nat}, (∀ b, F b → S b) → OVs w F l xs → (∀ i v, xs[i]? = some v → w.cell? ⟨g, off + i, none⟩ = some v) → LVs w S g off l
  | F, [], xs, off, hS, h, hc => by unfold LVs; trivial
  | F, t :: r, xs, off, hS, h, hc => by
    unfold OVs at h
    obtain ⟨c0, c1, c2, c3, c4, ys, F1, F2, rfl, h1, h2, h3, h4, h5⟩ := h
    unfold LVs
    refine ⟨⟨c0, c1, c2, c3, c4, hc 0 c0 rfl, hc 1 c1 rfl, hc 2 c2 rfl, hc 3 c3 rfl, hc 4 c4 rfl, (OV.lv h1).imp fun b hb => hS b (h3 b hb)⟩, OVs.lvs (fun b hb => hS b (h4 b hb)) h2 fun i v hi => ?_⟩
    have := hc (i + 5) v hi
    rw [show off + (i + 5) = off + 5 + i by omega] at this
    exact this
end
theorem OV.shape {w : World} {F : Nat → Prop} {t : VT} {v : Value} (h : OV w F t v) : ∃ A c A' c' xs, v = .agg #[.int .i64 t.kind, .int .i64 t.num, .string t.text, .slice A t.items.length c, .slice A' t.names.length c'] ∧
    w.ownsRow 0 9 1 (.slice A' t.names.length c') t.names.length (t.names.map Value.string) ∧ w.ownsRow 0 25 5 (.slice A t.items.length c) t.items.length xs ∧
    (∀ a, A' = some a → F a.block) ∧ (∀ a, A = some a → F a.block) ∧ (∀ a a', A = some a → A' = some a' → a.block ≠ a'.block) ∧ OVs w (Out F A A') t.items xs := by
  cases t with
  | mk k i s l ns =>
    unfold OV at h
    obtain ⟨A, c, A', c', xs, h0, h1, h2, h3, h4, h5, h6, h7, h8, h9, h10, h11, h12⟩ := h
    exact ⟨A, c, A', c', xs, h0, h7, h8, h9, h10, h11, h12⟩
theorem OV.mk {w : World} {F : Nat → Prop} {k i : Int} {s : ByteArray} {l : List VT} {ns : List ByteArray} {A A' : Option Addr} {c c' : Nat} {xs : List Value} (h1 : Rng k) (h2 : Rng i) (h3 : s.size ≤ 140737488351232) (h4 : l.length ≤ 1759218604390) (h5 : ns.length ≤ 8796093021952) (h6 : ∀ s ∈ ns, s.size ≤ 140737488351232)
    (h7 : w.ownsRow 0 9 1 (.slice A' ns.length c') ns.length (ns.map Value.string)) (h8 : w.ownsRow 0 25 5 (.slice A l.length c) l.length xs)
    (h9 : ∀ a, A' = some a → F a.block) (h10 : ∀ a, A = some a → F a.block) (h11 : ∀ a a', A = some a → A' = some a' → a.block ≠ a'.block) (h12 : OVs w (Out F A A') l xs) :
    OV w F (.mk k i s l ns) (.agg #[.int .i64 k, .int .i64 i, .string s, .slice A l.length c, .slice A' ns.length c']) := by
  unfold OV
  exact ⟨A, c, A', c', xs, rfl, h1, h2, h3, h4, h5, h6, h7, h8, h9, h10, h11, h12⟩
theorem ovs_nil (w : World) (F : Nat → Prop) : OVs w F [] [] := by unfold OVs; rfl
def Iv (m n : Nat) : Nat → Prop := fun b => m ≤ b ∧ b < n
def OVA (w : World) (F : Nat → Prop) (A : Option Addr) (c : Nat) (l : List VT) : Prop := ∃ xs, w.ownsRow 0 25 5 (.slice A l.length c) l.length xs ∧ (∀ a, A = some a → F a.block) ∧ OVs w (fun b => F b ∧ ∀ a, A = some a → a.block ≠ b) l xs
def ONS (w : World) (F : Nat → Prop) (A : Option Addr) (c : Nat) (ns : List ByteArray) : Prop := w.ownsRow 0 9 1 (.slice A ns.length c) ns.length (ns.map Value.string) ∧ (∀ a, A = some a → F a.block) ∧ ∀ s ∈ ns, s.size ≤ 140737488351232
theorem OVA.keep {w w' : World} {F : Nat → Prop} {A : Option Addr} {c : Nat} {l : List VT} (h : OVA w F A c l) (hk : ∀ b, F b → w'.heap[b]? = w.heap[b]?) : OVA w' F A c l := by
  obtain ⟨xs, h1, h2, h3⟩ := h
  exact ⟨xs, row_keep h1 fun a ha => hk _ (h2 a ha), h2, h3.keep fun b hb => hk b hb.1⟩
theorem OVA.imp {w : World} {F F' : Nat → Prop} {A : Option Addr} {c : Nat} {l : List VT} (h : OVA w F A c l) (hF : ∀ b, F b → F' b) : OVA w F' A c l := by
  obtain ⟨xs, h1, h2, h3⟩ := h
  exact ⟨xs, h1, fun a ha => hF _ (h2 a ha), h3.imp fun b hb => ⟨hF b hb.1, hb.2⟩⟩
theorem ONS.keep {w w' : World} {F : Nat → Prop} {A : Option Addr} {c : Nat} {l : List ByteArray} (h : ONS w F A c l) (hk : ∀ b, F b → w'.heap[b]? = w.heap[b]?) : ONS w' F A c l :=
  ⟨row_keep h.1 fun a ha => hk _ (h.2.1 a ha), h.2⟩
theorem ONS.imp {w : World} {F F' : Nat → Prop} {A : Option Addr} {c : Nat} {l : List ByteArray} (h : ONS w F A c l) (hF : ∀ b, F b → F' b) : ONS w F' A c l := ⟨h.1, fun a ha => hF _ (h.2.1 a ha), h.2.2⟩
theorem ova_nil (w : World) (F : Nat → Prop) : OVA w F none 0 [] := ⟨[], World.ownsRow_nil _ _ _ _, fun _ h => (by cases h), ovs_nil _ _⟩
theorem ons_nil (w : World) (F : Nat → Prop) : ONS w F none 0 [] := ⟨World.ownsRow_nil _ _ _ _, fun _ h => (by cases h), fun _ h => absurd h (by simp)⟩
theorem ons_of_row {w : World} {B : Nat} {v : Value} {ns : List ByteArray} (h : w.ownsRow B 9 1 v ns.length (ns.map Value.string)) (hs : ∀ s ∈ ns, s.size ≤ 140737488351232) : ∃ A c, v = .slice A ns.length c ∧ ONS w (Iv B w.heap.size) A c ns := by
  obtain ⟨h1, h2⟩ := h
  rcases h2 with ⟨rfl, h2⟩ | ⟨g, cap, cur, rfl, hg, hh, r⟩
  · exact ⟨none, 0, by rw [h2], ⟨h1, .inl ⟨by rw [h2], h2⟩⟩, fun _ h => (by cases h), hs⟩
  · exact ⟨_, _, rfl, ⟨h1, .inr ⟨g, cap, cur, rfl, Nat.zero_le _, hh, r⟩⟩, fun a ha => (by cases ha; exact ⟨hg, (Array.getElem?_eq_some_iff.1 hh).1⟩), hs⟩
set_option maxHeartbeats 400000 in
theorem copyNames_own (S : Nat → Prop) (A : Option Addr) (c : Nat) (ns : List ByteArray) (w : World) (h : StrsAt w S A ns) (hl : ns.length ≤ 8796093021952) :
    Calls Tryz.prog 93 #[.slice A ns.length c] w fun e w' => ∃ A' c', e = .returned (.slice A' ns.length c') ∧ ONS w' (Iv w.heap.size w'.heap.size) A' c' ns ∧ Below w.heap.size w w' := by
  rcases ns with _ | ⟨n0, r⟩
  · go_enter Tryz.func93, Tryz.ntmps93
    go_wp2_with (at_builtin; go_must (refine wpList_append_nothing rfl _ _ rfl rfl A c rfl ?_))
    go_ret
    exact ⟨none, 0, rfl, ons_nil _ _, Below.refl _ _⟩
  · obtain ⟨b, off, rfl, hb, hc⟩ := h (by simp)
    generalize hns : n0 :: r = ns at *
    obtain ⟨i0, hi, hz0, hz1, hz2⟩ := info_parts Tryz.infoStr
    have HL := hid hl
    have HC := hid hc
    clear hl hc h
    have hnw : ∀ j u, (ns.map Value.string)[j]? = some u → w.cell? ((⟨b, off, none⟩ : Addr).add j) = some u := by
      intro j u hj
      have hjl : j < ns.length := by have := (List.getElem?_eq_some_iff.1 hj).1; simpa using this
      rw [addr_at, (HC.out j hjl).1]
      simpa [List.getElem?_map, List.getElem?_eq_getElem hjl] using hj
    have HNW := hid hnw
    clear hnw
    go_enter Tryz.func93, Tryz.ntmps93
    go_wp2_with (at_builtin; go_must (refine wpList_append_own _ rfl _ _ 23 rfl w.heap.size 9 i0 (.string ⟨#[]⟩) 1 16 Tryz.underlying23 hi hz0 hz1 hz2 rfl (by decide) _ 0 [] rfl (World.ownsRow_nil _ _ _ _) ⟨b, off, none⟩ ns.length c (ns.map Value.string) rfl ?d0 HNW.out ?d1 ?d2 ?d3 ?d4 ?_))
    case d0 => simp
    case d1 => intro u hu; obtain ⟨_, _, rfl⟩ := List.mem_map.1 hu; rfl
    case d2 => have := HL.out; unfold maxLen; omega
    case d3 => have := HL.out; omega
    case d4 => exact Nat.le_refl _
    intro v' w' hown hg _
    obtain ⟨A', c', rfl, hst⟩ := ons_of_row hown (fun s hs => by obtain ⟨i, hi, rfl⟩ := List.mem_iff_getElem.1 hs; exact (HC.out i hi).2)
    have HST := hid hst
    have HB := hid (below_of_grown (B := w.heap.size) hg (Nat.le_refl _) (fun k hk => by cases hk))
    clear hown hg hst
    go_wp2_with fail
    go_ret
    exact ⟨_, _, rfl, HST.out, HB.out⟩
def PartO (w : World) (G : Nat) (l : List VT) (f : Nat → Value) (j : Nat) : Prop := ∃ Fs : Nat → Nat → Prop, (∀ i i' b, i ≠ i' → Fs i b → Fs i' b → False) ∧ (∀ i b, Fs i b → G < b ∧ b < w.heap.size) ∧
  ∀ i (h : i < l.length), i < j → OV w (Fs i) l[i] (.agg #[f (i * 5), f (i * 5 + 1), f (i * 5 + 2), f (i * 5 + 3), f (i * 5 + 4)])
theorem PartO.next {w w3 : World} {G j : Nat} {l : List VT} {f : Nat → Value} {v0 v1 v2 v3 v4 : Value} (h : PartO w G l f j) (hj : j < l.length) (hs : w.heap.size ≤ w3.heap.size) (hG : G < w.heap.size) (hb : ∀ b, b < w.heap.size → b ≠ G → w3.heap[b]? = w.heap[b]?)
    (hx : OV w3 (Iv w.heap.size w3.heap.size) l[j] (.agg #[v0, v1, v2, v3, v4])) : PartO (set5 w3 G (j * 5) v0 v1 v2 v3 v4) G l (put5 f (j * 5) v0 v1 v2 v3 v4) (j + 1) := by
  obtain ⟨Fs, k1, k2, k3⟩ := h
  refine ⟨fun i b => (i = j ∧ Iv w.heap.size w3.heap.size b) ∨ (i < j ∧ Fs i b), ?_, ?_, fun i hi hij => ?_⟩
  · rintro i i' b hne (⟨h1, h2⟩ | ⟨h1, h2⟩) (⟨h3, h4⟩ | ⟨h3, h4⟩)
    · omega
    · have := (k2 _ _ h4).2; have := h2.1; omega
    · have := (k2 _ _ h2).2; have := h4.1; omega
    · exact k1 i i' b hne h2 h4
  · rintro i b (⟨h1, h2⟩ | ⟨h1, h2⟩)
    · have := h2.1; have := h2.2; rw [set5_size]; omega
    · have := k2 _ _ h2; rw [set5_size]; omega
  · have hkeep : ∀ {S : Nat → Prop} {t : VT} {v : Value}, (∀ b, S b → b ≠ G) → OV w3 S t v → OV (set5 w3 G (j * 5) v0 v1 v2 v3 v4) S t v := fun hS hv => hv.keep fun b hb => set5_block v0 v1 v2 v3 v4 (hS b hb)
    by_cases e : i = j
    · subst e
      obtain ⟨e0, e1, e2, e3, e4⟩ := put5_new f (i * 5) v0 v1 v2 v3 v4
      rw [e0, e1, e2, e3, e4]
      exact (hkeep (fun b hb => by have := hb.1; omega) hx).imp fun b hb => .inl ⟨rfl, hb⟩
    · rw [put5_old (by omega), put5_old (by omega), put5_old (by omega), put5_old (by omega), put5_old (by omega)]
      have h1 := k3 i hi (by omega)
      have h2 := h1.keep (w' := w3) fun b hb' => hb b (k2 _ _ hb').2 (by have := (k2 _ _ hb').1; omega)
      exact (hkeep (fun b hb => by have := (k2 _ _ hb).1; omega) h2).imp fun b hb => .inr ⟨by omega, hb⟩
theorem ova_of_part {w : World} {G : Nat} {l : List VT} {f : Nat → Value} (hr : w.rowIs G 25 (l.length * 5) f) (hp : PartO w G l f l.length) (hl : l.length ≤ 1759218604390) : OVA w (fun b => G ≤ b ∧ b < w.heap.size) (some ⟨G, 0, none⟩) l.length l := by
  obtain ⟨cur, hh, hsz, hc⟩ := hr
  obtain ⟨Fs, k1, k2, k3⟩ := hp
  have hG := (Array.getElem?_eq_some_iff.1 hh).1
  have hlen : cur.toList.length = l.length * 5 := by simpa using hsz
  refine ⟨cur.toList, ⟨hlen, .inr ⟨G, l.length, cur, rfl, Nat.zero_le _, hh, Nat.le_refl _, by unfold maxLen; omega, hsz, by rw [← hlen, List.take_length]⟩⟩, fun a ha => (by cases ha; exact ⟨Nat.le_refl _, hG⟩), ?_⟩
  refine OVs.of Fs hlen k1 (fun j b hb => ⟨⟨by have := (k2 _ _ hb).1; omega, (k2 _ _ hb).2⟩, fun a ha => (by cases ha; have := (k2 _ _ hb).1; show G ≠ b; omega)⟩) fun j hj => ?_
  have hcc : ∀ i, i < l.length * 5 → cur.toList[i]? = some (f i) := fun i hi => by rw [Array.getElem?_toList]; exact hc i hi
  exact ⟨_, _, _, _, _, hcc _ (by omega), hcc _ (by omega), hcc _ (by omega), hcc _ (by omega), hcc _ (by omega), k3 j hj hj⟩
def CloneO (n : Nat) : Prop := ∀ (S : Nat → Prop) (t : VT) (v : Value) (w : World), depthT t ≤ n → (∀ b, S b → b < w.heap.size) → LV w S t v →
  Calls Tryz.prog 55 #[v] w fun e w' => ∃ v', e = .returned v' ∧ OV w' (Iv w.heap.size w'.heap.size) t v' ∧ Below w.heap.size w w'
set_option maxHeartbeats 2000000 in
set_option maxRecDepth 100000 in
theorem all_own {n : Nat} (hcl : CloneO n) (S : Nat → Prop) (A : Option Addr) (c : Nat) (l : List VT) (w : World) (hd : depthL l ≤ n) (hS : ∀ b, S b → b < w.heap.size) (h : LVA w S A l) (hl : l.length ≤ 1759218604390) :
    Calls Tryz.prog 92 #[.slice A l.length c] w fun e w' => ∃ A' c', e = .returned (.slice A' l.length c') ∧ OVA w' (Iv w.heap.size w'.heap.size) A' c' l ∧ Below w.heap.size w w' := by
  by_cases hl0 : l.length = 0
  · have hnil := List.eq_nil_of_length_eq_zero hl0
    subst hnil
    go_enter Tryz.func92, Tryz.ntmps92
    go_wp2_with fail
    go_ret
    exact ⟨none, 0, rfl, ova_nil _ _, Below.refl _ _⟩
  · obtain ⟨b, off, rfl, hb, hls⟩ := h (by omega)
    obtain ⟨i0, hi, hz0, hz1, hz2⟩ := info_parts Tryz.infoVal
    have HL := hid hl
    have HLS := hid hls
    have hne : ((l.length : Int) == 0) = false := by simp; intro h; simp [h] at hl0
    have hlb : l.length ≤ 4611686018427387904 := by omega
    clear h hls hl
    go_enter Tryz.func92, Tryz.ntmps92
    go_wp2_with (at_make; go_must (refine wpList_make_full _ rfl _ _ 22 rfl w.heap.size 25 i0 _ 5 Tryz.underlying22 hi hz0 hz1 .i64 .i64 _ _ l.length rfl rfl rfl rfl ?b0 ?b1 ?b2 ?_))
    case b0 => have := HL.out; rw [hz2]; omega
    case b1 => have := HL.out; unfold maxLen; omega
    case b2 => exact Nat.le_refl _
    intro w1 hown hg
    obtain ⟨f0, hrow⟩ := row_of_made hown (v := .slice none 0 0)
    have hb1 : Below w.heap.size w w1 := below_of_grown hg (Nat.le_refl _) (fun k hk => by cases hk)
    have HROW := hid hrow
    have HB1 := hid hb1
    clear hown hg hrow hb1
    obtain ⟨G, hG⟩ : ∃ G, G = w.heap.size := ⟨_, rfl⟩
    rw [← hG] at HROW ⊢
    have HG := hid hG
    clear hG
    go_wp2_with fail
    have hGlt := HROW.out.lt
    go_loopw [14] (fun i wr => ∃ (j : Nat) (f : Nat → Value), i = .int .i64 j ∧ j ≤ l.length ∧ Hid (wr.rowIs G 25 (l.length * 5) f ∧ PartO wr G l f j ∧ Below w.heap.size w wr)) (fun i _ => l.length - (intOf i).toNat)
    case atStart => exact ⟨0, f0, rfl, Nat.zero_le _, HROW.out, ⟨fun _ _ => False, fun _ _ _ _ h _ => h, fun _ _ h => h.elim, fun i _ h => absurd h (by omega)⟩, HB1.out⟩
    case round =>
      obtain ⟨j, f, rfl, hj, HI⟩ := hrel
      by_cases hlt : j < l.length
      · obtain ⟨c0, c1, c2, c3, c4, h0, h1, h2, h3, h4, hx⟩ := HLS.out.at j hlt
        obtain ⟨A2, e2, A3, e3, hag, -⟩ := hx.shape
        injection hag with hag; injection hag with hag
        injection hag with y0 hag; injection hag with y1 hag; injection hag with y2 hag; injection hag with y3 hag; injection hag with y4 hag
        subst y0 y1 y2 y3 y4
        have hw : ∀ o, wr.cell? ⟨b, o, none⟩ = w.cell? ⟨b, o, none⟩ := fun o => HI.out.2.2.cell (p := ⟨b, o, none⟩) (hS b hb)
        rw [← hw] at h0 h1 h2 h3 h4
        have hS1 := sub_below hS HI.out.2.2
        have hS2 : ∀ b, S b → b < (wr.alloc (.cells #[.int .i64 l[j].kind, .int .i64 l[j].num, .string l[j].text, .slice A2 l[j].items.length e2, .slice A3 l[j].names.length e3] 25)).heap.size := sub_alloc hS1 _
        have IH := hid (hcl S l[j] _ _ (Nat.le_trans (depthL_le (List.getElem_mem hlt)) hd) hS2 ((hx.below hS HI.out.2.2).alloc hS1 _))
        have hGr := HI.out.1.lt
        clear hx hw hS1 hS2
        go_wp2_with fail
        refine IH.out.mono ?_
        rintro e w3 ⟨v', rfl, hv, hb3⟩
        obtain ⟨A4, e4, A5, e5, xs4, rfl, -⟩ := hv.shape
        have hb3' : Below wr.heap.size wr w3 := toStart (below_box _) hb3
        have hrow3 : w3.rowIs G 25 (l.length * 5) f := HI.out.1.of_block (hb3'.block G hGr)
        have hpart := HI.out.2.1.next hlt hb3'.size hGr (fun b hb _ => hb3'.block b hb) (hv.imp fun b hb => ⟨Nat.le_trans (by simp) hb.1, hb.2⟩)
        have HF : Hid ((set5 w3 G (j * 5) (.int .i64 l[j].kind) (.int .i64 l[j].num) (.string l[j].text) (.slice A4 l[j].items.length e4) (.slice A5 l[j].names.length e5)).rowIs G 25 (l.length * 5) _ ∧ PartO _ G l _ (j + 1) ∧ Below w.heap.size w (set5 w3 G (j * 5) (.int .i64 l[j].kind) (.int .i64 l[j].num) (.string l[j].text) (.slice A4 l[j].items.length e4) (.slice A5 l[j].names.length e5))) :=
          hid ⟨row_set5 hrow3 _ _ _ _ _, hpart, set5_below _ _ _ _ _ (HI.out.2.2.trans (hb3'.mono HI.out.2.2.size)) (by have := HG.out; omega)⟩
        have m0 := hrow3.cell (i := j * 5) (by omega)
        have m1 := hrow3.cell (i := j * 5 + 1) (by omega)
        have m2 := hrow3.cell (i := j * 5 + 2) (by omega)
        have m3 := hrow3.cell (i := j * 5 + 3) (by omega)
        have m4 := hrow3.cell (i := j * 5 + 4) (by omega)
        have n0 := hrow3.frozen (j * 5)
        have n1 := hrow3.frozen (j * 5 + 1)
        have n2 := hrow3.frozen (j * 5 + 2)
        have n3 := hrow3.frozen (j * 5 + 3)
        have n4 := hrow3.frozen (j * 5 + 4)
        have hlb2 := HL.out
        clear hv hb3 hb3' hrow3 hpart IH h0 h1 h2 h3 h4
        go_wp2_with fail
        go_roundw
        case rel => exact ⟨j + 1, _, by go_num, by omega, HF.out⟩
        case measure => simp [intOf]; omega
      · go_wp2_with fail
        go_ret
        obtain rfl : j = l.length := by omega
        exact ⟨some ⟨G, 0, none⟩, l.length, rfl, (ova_of_part HI.out.1 HI.out.2.1 HL.out).imp fun b hb => ⟨by have := hb.1; have := HG.out; omega, hb.2⟩, HI.out.2.2⟩
set_option maxHeartbeats 1000000 in
set_option maxRecDepth 100000 in
theorem own_of_all {n : Nat} (hcl : CloneO n) : CloneO (n + 1) := by
  intro S t v w hd hS h
  have HLEN := hid h.lens
  obtain ⟨A, c, A', c', rfl, k1, k2, k3, k4, k5, k6, k7⟩ := h.shape
  clear h
  cases t with
  | mk k i s l ns =>
  simp only [VT.kind, VT.num, VT.text, VT.items, VT.names] at *
  have HK := hid (And.intro k1 (And.intro k2 k3))
  have hdl : depthL l ≤ n := by rw [depthT_mk] at hd; omega
  have hb0 : Below w.heap.size w ((w.alloc (.cells #[.int .i64 k, .int .i64 i, .string s, .slice A l.length c, .slice A' ns.length c'] 25)).alloc (.cells #[.int .i64 0, .int .i64 0, .string ⟨#[]⟩, .slice none 0 0, .slice none 0 0] 25)) := (below_box _).alloc (by simp) _
  have hX : Box ((w.alloc (.cells #[.int .i64 k, .int .i64 i, .string s, .slice A l.length c, .slice A' ns.length c'] 25)).alloc (.cells #[.int .i64 0, .int .i64 0, .string ⟨#[]⟩, .slice none 0 0, .slice none 0 0] 25)) w.heap.size (.int .i64 k) (.int .i64 i) (.string s) (.slice A l.length c) (.slice A' ns.length c') := (Box.new _ _ _ _ _).alloc _
  have hY : Box ((w.alloc (.cells #[.int .i64 k, .int .i64 i, .string s, .slice A l.length c, .slice A' ns.length c'] 25)).alloc (.cells #[.int .i64 0, .int .i64 0, .string ⟨#[]⟩, .slice none 0 0, .slice none 0 0] 25)) (w.heap.size + 1) (.int .i64 0) (.int .i64 0) (.string ⟨#[]⟩) (.slice none 0 0) (.slice none 0 0) := by
    have := Box.new (w := (w.alloc (.cells #[.int .i64 k, .int .i64 i, .string s, .slice A l.length c, .slice A' ns.length c'] 25))) (.int .i64 0) (.int .i64 0) (.string ⟨#[]⟩) (.slice none 0 0) (.slice none 0 0)
    simpa using this
  have HA := hid (all_own hcl S A c l _ hdl (sub_below hS hb0) (k7.keep fun b hb => hb0.block b (hS b hb)) HLEN.out.1)
  have K6 := hid k6
  have HB0 := hid hb0
  have HX := hid hX
  have HY := hid hY
  clear k1 k2 k3 k4 k5 k6 k7 hb0 hX hY
  go_enter Tryz.func55, Tryz.ntmps55
  go_wp2_with fail
  refine HA.out.mono ?_
  rintro e w1 ⟨A2, c2, rfl, hla, hb1⟩
  have hx := HX.out.call hb1
  have HX1 := hid hx
  have HY1 := hid (HY.out.call hb1)
  have HB1 := hid (toStart HB0.out hb1)
  have HLA := hid hla
  have x3 := hx.c3
  have x4 := hx.c4
  have xf := hx.free 3
  clear hx hla hb1 HA HX HY
  go_wp2_with fail
  obtain ⟨h, hh⟩ : ∃ h, h = w.heap.size := ⟨_, rfl⟩
  rw [← hh] at HX1 HY1 x3 x4 xf ⊢
  have HH := hid hh
  clear hh
  obtain ⟨W1, hW1⟩ : ∃ W1 : World, W1 = w1.setCell ⟨h, 3, none⟩ (.slice A2 l.length c2) := ⟨_, rfl⟩
  rw [← hW1]
  have sz1 : W1.heap.size = w1.heap.size := by rw [hW1]; simp [World.setCell]
  have bk1 : ∀ b, b ≠ h → W1.heap[b]? = w1.heap[b]? := fun b hb => by rw [hW1]; exact Below.heap_setCell _ _ _ _ hb
  have BX1 := HX1.out.set3 (.slice A2 l.length c2)
  rw [← hW1] at BX1
  have BY1 := HY1.out.far (p := ⟨h, 3, none⟩) (by simp) (.slice A2 l.length c2)
  rw [← hW1] at BY1
  have bw1 : Below w.heap.size w W1 := by rw [hW1]; exact HB1.out.setCell (by have := HH.out; simp; omega) _
  have hw1s : h + 1 < w1.heap.size := HY1.out.lt
  have hz1 : h + 2 ≤ W1.heap.size := by rw [sz1]; omega
  have hla1 : OVA W1 (Iv (h + 2) W1.heap.size) A2 c2 l := by
    have e := HH.out
    refine (OVA.keep (w' := W1) HLA.out (fun b hb => bk1 b (by have := hb.1; simp at this; omega))).imp fun b hb => ⟨by have := hb.1; simp at this; omega, by rw [sz1]; exact hb.2⟩
  have HN := hid (copyNames_own S A' c' ns W1 (K6.out.keep fun b hb => bw1.block b (hS b hb)) HLEN.out.2)
  have BX1 := hid BX1
  have BY1 := hid BY1
  have HBW1 := hid bw1
  have HLA1 := hid hla1
  clear hW1 sz1 bk1 bw1 hla1 HX1 HY1 HB1 HLA x3 x4 xf K6 HB0 hw1s
  refine HN.out.mono ?_
  rintro e w2 ⟨A3, c3, rfl, hst, hb2⟩
  have BX2 := hid (BX1.out.call hb2)
  have BY2 := hid (BY1.out.call hb2)
  have HBW2 := hid (toStart HBW1.out hb2)
  have hla2 : OVA w2 (Iv (h + 2) W1.heap.size) A2 c2 l := OVA.keep (w' := w2) HLA1.out (fun b hb => hb2.block b hb.2)
  have hst2 : ONS w2 (Iv W1.heap.size w2.heap.size) A3 c3 ns := hst
  have HLA2 := hid hla2
  have HST2 := hid hst2
  have y0 := BX2.out.c0
  have y1 := BX2.out.c1
  have y2 := BX2.out.c2
  have y3 := BX2.out.c3
  have y4 := BX2.out.c4
  have yf := BX2.out.free 4
  have z0 := BY2.out.c0
  have z1 := BY2.out.c1
  have z2 := BY2.out.c2
  have z3 := BY2.out.c3
  have z4 := BY2.out.c4
  have zf0 := BY2.out.free 0
  have zf1 := BY2.out.free 1
  have zf2 := BY2.out.free 2
  have zf3 := BY2.out.free 3
  have zf4 := BY2.out.free 4
  obtain ⟨W2, hW2⟩ : ∃ W2 : World, W2 = w2.setCell ⟨h, 4, none⟩ (.slice A3 ns.length c3) := ⟨_, rfl⟩
  have BX3 := BX2.out.set4 (.slice A3 ns.length c3)
  rw [← hW2] at BX3
  have BY3 := BY2.out.far (p := ⟨h, 4, none⟩) (by simp) (.slice A3 ns.length c3)
  rw [← hW2] at BY3
  have HBW3 : Hid (Below w.heap.size w W2) := hid (by rw [hW2]; exact HBW2.out.setCell (by have := HH.out; simp; omega) _)
  have sz2 : W2.heap.size = w2.heap.size := by rw [hW2]; simp [World.setCell]
  have bk2 : ∀ b, b ≠ h → W2.heap[b]? = w2.heap[b]? := fun b hb => by rw [hW2]; exact Below.heap_setCell _ _ _ _ hb
  have HLA3 : Hid (OVA W2 (Iv (h + 2) W1.heap.size) A2 c2 l) := hid (OVA.keep (w' := W2) HLA2.out (fun b hb => bk2 b (by have := hb.1; omega)))
  have HST3 : Hid (ONS W2 (Iv W1.heap.size W2.heap.size) A3 c3 ns) := hid ((ONS.keep (w' := W2) HST2.out (fun b hb => bk2 b (by have := hb.1; omega))).imp fun b hb => ⟨hb.1, by rw [sz2]; exact hb.2⟩)
  have hz2 : W1.heap.size ≤ W2.heap.size := by rw [sz2]; exact hb2.size
  have BX3 := hid BX3
  have BY3 := hid BY3
  have EW := hid hW2
  clear hst hb2 hla2 hst2 BX1 BY1 HBW1 HLA1 BX2 BY2 HBW2 HLA2 HST2 hW2 sz2 bk2 HN
  clear hcl hd hdl
  go_wp2_with fail
  rw [← EW.out]
  (try simp only [Exit.inBlock, Exit.then])
  have FIN := ((((BY3.out.set0 (.int .i64 k)).set1 (.int .i64 i)).set2 (.string s)).set3 (.slice A2 l.length c2)).set4 (.slice A3 ns.length c3)
  have hk : ∀ b, h + 2 ≤ b → (set5 W2 (h + 1) 0 (.int .i64 k) (.int .i64 i) (.string s) (.slice A2 l.length c2) (.slice A3 ns.length c3)).heap[b]? = W2.heap[b]? := fun b hb => set5_block _ _ _ _ _ (by omega)
  have hla := OVA.keep HLA3.out fun b hb => hk b hb.1
  have hst := ONS.keep HST3.out fun b hb => hk b (by have := hb.1; omega)
  have hbw := set5_below (p := 0) (.int .i64 k) (.int .i64 i) (.string s) (.slice A2 l.length c2) (.slice A3 ns.length c3) HBW3.out (G := h + 1) (by have := HH.out; omega)
  refine bodyPost_ret (results_cell_row rfl _ _ (h + 1) 25 _ (0, 0) _ rfl FIN Tryz.underlying25 rfl (by kernel_rfl)) rfl ?_
  obtain ⟨xs, y1, y2, y3⟩ := hla
  have hh := HH.out
  have hsz := Nat.le_of_eq (set5_size W2 (h + 1) 0 (.int .i64 k) (.int .i64 i) (.string s) (.slice A2 l.length c2) (.slice A3 ns.length c3)).symm
  refine ⟨_, rfl, OV.mk HK.out.1 HK.out.2.1 HK.out.2.2 HLEN.out.1 HLEN.out.2 hst.2.2 hst.1 y1 (fun a ha => ?_) (fun a ha => ?_) (fun a a' ha ha' => ?_) (y3.imp fun b hb => ?_), hbw⟩
  · have := hst.2.1 a ha
    exact ⟨by have := this.1; omega, Nat.lt_of_lt_of_le this.2 hsz⟩
  · have := y2 a ha
    exact ⟨by have := this.1; omega, Nat.lt_of_lt_of_le (Nat.lt_of_lt_of_le this.2 hz2) hsz⟩
  · have k1 := (y2 a ha).2
    have k2 := (hst.2.1 a' ha').1
    omega
  · have k1 := hb.1.1
    have k2 := hb.1.2
    exact ⟨⟨by omega, Nat.lt_of_lt_of_le (Nat.lt_of_lt_of_le k2 hz2) hsz⟩, hb.2, fun a ha => by have := (hst.2.1 a ha).1; omega⟩

theorem own_ok : ∀ n, CloneO n
  | 0 => fun S t v w hd _ _ => by cases t; rw [depthT_mk] at hd; omega
  | n + 1 => own_of_all (own_ok n)
theorem clone_own (S : Nat → Prop) (t : VT) (v : Value) (w : World) (hS : ∀ b, S b → b < w.heap.size) (h : LV w S t v) :
    Calls Tryz.prog 55 #[v] w fun e w' => ∃ v', e = .returned v' ∧ OV w' (Iv w.heap.size w'.heap.size) t v' ∧ Below w.heap.size w w' := own_ok (depthT t) S t v w (Nat.le_refl _) hS h
def RowD (T : Nat → Prop) (W : World) (g : Nat) (l : List DelT) : Prop := ∃ cur : Array Value, W.heap[g]? = some (.cells cur 95 (0, 0)) ∧ ∀ i (h : i < l.length), ∃ c : Array Value, (∀ j v, c[j]? = some v → cur[i * 8 + j]? = some v) ∧ DelL W (fun b => b < W.heap.size ∧ b ≠ g ∧ T b) l[i] c
theorem RowD.lt {T : Nat → Prop} {W : World} {g : Nat} {l : List DelT} (h : RowD T W g l) : g < W.heap.size := by
  obtain ⟨cur, h1, -⟩ := h
  exact (Array.getElem?_eq_some_iff.1 h1).1
theorem RowD.call {T : Nat → Prop} {W W' : World} {g : Nat} {l : List DelT} (h : RowD T W g l) (hb : Below W.heap.size W W') : RowD T W' g l := by
  have hg := h.lt
  obtain ⟨cur, h1, h2⟩ := h
  refine ⟨cur, (hb.block g hg).trans h1, fun i hi => ?_⟩
  obtain ⟨c, h3, h4⟩ := h2 i hi
  exact ⟨c, h3, (h4.keep fun b hb' => hb.block b hb'.1).imp fun b hb' => ⟨Nat.lt_of_lt_of_le hb'.1 hb.size, hb'.2⟩⟩
theorem RowD.free {T : Nat → Prop} {W : World} {g : Nat} {l : List DelT} (h : RowD T W g l) (i : Nat) : W.frozen? ⟨g, i, none⟩ = false := by
  obtain ⟨cur, h1, -⟩ := h
  exact Go.Joins.unfrozen_of_block h1 i
theorem RowD.cell {T : Nat → Prop} {W : World} {g : Nat} {l : List DelT} (h : RowD T W g l) (i : Nat) (hi : i < l.length) (j : Nat) (hj : j < 8) : ∃ v, W.cell? ⟨g, i * 8 + j, none⟩ = some v := by
  obtain ⟨cur, h1, h2⟩ := h
  obtain ⟨c, h3, h4⟩ := h2 i hi
  have h8 := h4.size
  have hcj : c[j]? = some c[j] := Array.getElem?_eq_getElem (by omega)
  refine ⟨c[j], ?_⟩
  rw [Go.Joins.cell_of_block h1 (i * 8 + j)]
  exact h3 j _ hcj
theorem RowD.rows {T : Nat → Prop} {W : World} {g : Nat} {l : List DelT} (h : RowD T W g l) : DelsL W (fun b => b < W.heap.size ∧ (T b ∨ b = g)) (some ⟨g, 0, none⟩) l := fun hp => by
  have hg := h.lt
  obtain ⟨cur, h1, h2⟩ := h
  refine ⟨g, 0, rfl, ⟨hg, .inr rfl⟩, fun i hi => ?_⟩
  obtain ⟨c, h3, h4⟩ := h2 i hi
  refine ⟨c, fun j v hv => ?_, h4.imp fun b hb => ⟨hb.1, .inl hb.2.2⟩⟩
  rw [Nat.zero_add, Go.Joins.cell_of_block h1 (i * 8 + j)]
  exact h3 j v hv
theorem RowD.store {T : Nat → Prop} {W W' : World} {g k : Nat} {l : List DelT} {cur' : Array Value} (h : RowD T W g l) (hk : ∀ b, b < W.heap.size → b ≠ g → W'.heap[b]? = W.heap[b]?) (hz : W'.heap.size = W.heap.size)
    (hat : ∀ cur, W.heap[g]? = some (.cells cur 95 (0, 0)) → W'.heap[g]? = some (.cells cur' 95 (0, 0)) ∧ (∀ j, (j < k * 8 ∨ k * 8 + 8 ≤ j) → cur'[j]? = cur[j]?)
      ∧ ∀ c : Array Value, (∀ j v, c[j]? = some v → cur[k * 8 + j]? = some v) → (hkl : k < l.length) → DelL W (fun b => b < W.heap.size ∧ b ≠ g ∧ T b) l[k] c → ∃ c' : Array Value, (∀ j v, c'[j]? = some v → cur'[k * 8 + j]? = some v) ∧ DelL W (fun b => b < W.heap.size ∧ b ≠ g ∧ T b) l[k] c') : RowD T W' g l := by
  obtain ⟨cur, h1, h2⟩ := h
  obtain ⟨a1, a2, a3⟩ := hat cur h1
  have kp : ∀ d c, DelL W (fun b => b < W.heap.size ∧ b ≠ g ∧ T b) d c → DelL W' (fun b => b < W'.heap.size ∧ b ≠ g ∧ T b) d c := fun d c h => (h.keep fun b hb => hk b hb.1 hb.2.1).imp fun b hb => ⟨by rw [hz]; exact hb.1, hb.2⟩
  refine ⟨cur', a1, fun i hi => ?_⟩
  obtain ⟨c, h3, h4⟩ := h2 i hi
  by_cases hik : i = k
  · subst hik
    obtain ⟨c', h5, h6⟩ := a3 c h3 hi h4
    exact ⟨c', h5, kp _ _ h6⟩
  · refine ⟨c, fun j v hv => ?_, kp _ _ h4⟩
    have hj : j < 8 := by have := (Array.getElem?_eq_some_iff.1 hv).1; have := h4.size; omega
    rw [a2 _ (by omega)]
    exact h3 j v hv
theorem getElem?_set' {α : Type} (a : Array α) (i j : Nat) (v : α) : (a.setIfInBounds i v)[j]? = if i = j then (if j < a.size then some v else none) else a[j]? := by
  rw [Array.getElem?_setIfInBounds]
  by_cases h : i = j
  · subst h; simp
  · rw [if_neg h, if_neg h]
theorem RowD.path {T : Nat → Prop} {W : World} {g k : Nat} {l : List DelT} {v : Value} (h : RowD T W g l) (hk : k < l.length) (hv : SlP W (fun b => b < W.heap.size ∧ b ≠ g ∧ T b) v l[k].path) (hv0 : ∀ A n c, v = .slice A n c → A = none → c = 0) : RowD T (W.setCell ⟨g, k * 8 + 1, none⟩ v) g l := by
  have hc := h
  obtain ⟨cur, h1, -⟩ := hc
  refine h.store (k := k) (cur' := cur.setIfInBounds (k * 8 + 1) v) (fun b hb hne => heap_setCell_other _ ⟨g, k * 8 + 1, none⟩ b _ hne) (by simp) fun cur2 h2 => ?_
  rw [h1] at h2
  injection h2 with h2; injection h2 with h2; subst h2
  refine ⟨Go.Joins.block_setCell (i := k * 8 + 1) h1 v, fun j hj => ?_, fun c hc hkl hd => ?_⟩
  · rw [getElem?_set', if_neg (by omega)]
  · obtain ⟨PA, pc, VA, vc, VA', vc', rfl, e2, e3, e4, e5, e6⟩ := hd
    obtain ⟨QA, qc, rfl, q1, q2, q3⟩ := hv
    refine ⟨_, fun j u hu => ?_, QA, qc, VA, vc, VA', vc', rfl, e2, q1, q2, fun e => hv0 _ _ _ rfl e, e6.1, e6.2.1, q3⟩
    have hj8 : j < 8 := (Array.getElem?_eq_some_iff.1 hu).1
    rw [getElem?_set']
    by_cases hj : j = 1
    · subst hj
      have hin : k * 8 + 1 < cur.size := (Array.getElem?_eq_some_iff.1 (hc 1 _ rfl)).1
      rw [if_pos rfl, if_pos hin]
      exact hu
    · rw [if_neg (by omega)]
      match j, hj8 with
      | 0, _ | 2, _ | 3, _ | 4, _ | 5, _ | 6, _ | 7, _ => exact hc _ _ hu
      | 1, _ => exact absurd rfl hj
theorem five_row {W : World} {g o : Nat} {cur : Array Value} {t : TypeId} {c0 c1 c2 c3 c4 : Value} (h : W.heap[g]? = some (.cells cur t (0, 0))) : (five W g o c0 c1 c2 c3 c4).heap[g]? = some (.cells (((((cur.setIfInBounds o c0).setIfInBounds (o + 1) c1).setIfInBounds (o + 2) c2).setIfInBounds (o + 3) c3).setIfInBounds (o + 4) c4) t (0, 0)) := by
  unfold five
  exact Go.Joins.block_setCell (i := o + 4) (Go.Joins.block_setCell (i := o + 3) (Go.Joins.block_setCell (i := o + 2) (Go.Joins.block_setCell (i := o + 1) (Go.Joins.block_setCell (i := o) h c0) c1) c2) c3) c4
theorem RowD.val {T : Nat → Prop} {W : World} {g k : Nat} {l : List DelT} {VA VA' : Option Addr} {vc vc' : Nat} (h : RowD T W g l) (hk : k < l.length) (hv : LV W (fun b => b < W.heap.size ∧ b ≠ g ∧ T b) l[k].val (.agg #[.int .i64 l[k].val.kind, .int .i64 l[k].val.num, .string l[k].val.text, .slice VA l[k].val.items.length vc, .slice VA' l[k].val.names.length vc'])) :
    RowD T (five W g (k * 8 + 2) (.int .i64 l[k].val.kind) (.int .i64 l[k].val.num) (.string l[k].val.text) (.slice VA l[k].val.items.length vc) (.slice VA' l[k].val.names.length vc')) g l := by
  have hc := h
  obtain ⟨cur, h1, -⟩ := hc
  refine h.store (k := k) (cur' := (((((cur).setIfInBounds (k * 8 + 2) (.int .i64 l[k].val.kind)).setIfInBounds (k * 8 + 2 + 1) (.int .i64 l[k].val.num)).setIfInBounds (k * 8 + 2 + 2) (.string l[k].val.text)).setIfInBounds (k * 8 + 2 + 3) (.slice VA l[k].val.items.length vc)).setIfInBounds (k * 8 + 2 + 4) (.slice VA' l[k].val.names.length vc')) (fun b hb hne => five_other _ _ _ _ _ _ _ _ b hne) (five_size _ _ _ _ _ _ _ _) fun cur2 h2 => ?_
  rw [h1] at h2
  injection h2 with h2; injection h2 with h2; subst h2
  refine ⟨five_row h1, fun j hj => ?_, fun c hc hkl hd => ?_⟩
  · rw [getElem?_set', if_neg (by omega), getElem?_set', if_neg (by omega), getElem?_set', if_neg (by omega), getElem?_set', if_neg (by omega), getElem?_set', if_neg (by omega)]
  · obtain ⟨PA, pc, VB, vd, VB', vd', rfl, e2, e3, e4, e5, e6⟩ := hd
    refine ⟨_, fun j u hu => ?_, PA, pc, VA, vc, VA', vc', rfl, hv, e3, e4, e5, e6⟩
    have hj8 : j < 8 := (Array.getElem?_eq_some_iff.1 hu).1
    have hin : k * 8 + 7 < cur.size := (Array.getElem?_eq_some_iff.1 (hc 7 _ rfl)).1
    simp only [getElem?_set', Array.size_setIfInBounds]
    match j, hj8 with
    | 0, _ => rw [if_neg (by omega), if_neg (by omega), if_neg (by omega), if_neg (by omega), if_neg (by omega)]; exact hc 0 _ hu
    | 1, _ => rw [if_neg (by omega), if_neg (by omega), if_neg (by omega), if_neg (by omega), if_neg (by omega)]; exact hc 1 _ hu
    | 2, _ => rw [if_neg (by omega), if_neg (by omega), if_neg (by omega), if_neg (by omega), if_pos rfl, if_pos (by omega)]; exact hu
    | 3, _ => rw [if_neg (by omega), if_neg (by omega), if_neg (by omega), if_pos (by omega), if_pos (by omega)]; exact hu
    | 4, _ => rw [if_neg (by omega), if_neg (by omega), if_pos (by omega), if_pos (by omega)]; exact hu
    | 5, _ => rw [if_neg (by omega), if_pos (by omega), if_pos (by omega)]; exact hu
    | 6, _ => rw [if_pos (by omega), if_pos (by omega)]; exact hu
    | 7, _ => rw [if_neg (by omega), if_neg (by omega), if_neg (by omega), if_neg (by omega), if_neg (by omega)]; exact hc 7 _ hu
theorem RowD.of {T : Nat → Prop} {W : World} {B g n c : Nat} {l : List DelT} {xs : List Value} {S : Nat → Prop} (ho : W.ownsRow B 95 8 (.slice (some ⟨g, 0, none⟩) n c) n xs) (hn : n = l.length) (hx : DelsC W S l xs) (hS : ∀ b, S b → b < W.heap.size ∧ b ≠ g ∧ T b) : RowD T W g l := by
  subst hn
  rcases ho.2 with ⟨e, -⟩ | ⟨q, cap, cur, e, hB, hh, hr⟩
  · cases e
  · injection e with e1 e2 e3
    injection e1 with e1; injection e1 with e1
    subst e1
    refine ⟨cur, hh, fun i hi => ?_⟩
    obtain ⟨cs, h4, h5⟩ := hx.at i hi
    refine ⟨cs.toArray, fun j v hv => ?_, h4.imp hS⟩
    have hv' : cs[j]? = some v := by simpa using hv
    have hj : j < 8 := by have := (List.getElem?_eq_some_iff.1 hv').1; have := h4.lenL; omega
    have h6 := ho.cells (g := g) rfl (i * 8 + j) v (by rw [h5 j hj]; exact hv')
    rw [add_at, Nat.zero_add, Go.Joins.cell_of_block hh] at h6
    exact h6
end Go.Proofs.YtpcdngpppjdgcaaGreat
