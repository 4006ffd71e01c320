/- What lies at a path: plain; and the steps of a path, one at a time. -/
import Derived.Test.YtipiplnhbecjeaaKOpen
import Derived.Test.YtipiplnhbecjeaaKPathA
import Derived.Test.YtipiplnhbecjeaaKPathI
import Derived.Test.YtipiplnhbecjeaaKValF
import Derived.Test.YtipiplnhbecjeaaKVr
import Derived.Test.YtipiplnhbecjeaaKReg
namespace Go.Proofs.Ytipiplnhbecjeaa
set_option linter.unusedVariables false
set_option linter.unusedSimpArgs false
open Go.RowKit

/-- Where a name stands. -/
def nmI (k : Nat) : List ByteArray → ByteArray → Int
  | [], _ => -1
  | a :: r, s => if a = s then k else nmI (k + 1) r s
/-- Which item a step goes to; below 0: none. -/
def placeT (t : VT) (s : ByteArray) : Int :=
  if t.kind = 7 then nmI 0 t.names s else if t.kind = 6 then (if idxI s.data.toList < t.items.length then idxI s.data.toList else -1) else -1
def getT : VT → List ByteArray → Option VT
  | t, [] => some t
  | t, s :: r => if placeT t s < 0 then none else match t.items[(placeT t s).toNat]? with
    | some u => getT u r
    | none => none
theorem nmI_hit {s : ByteArray} : ∀ {l : List ByteArray} {j k : Nat} (h : j < l.length), l[j] = s → (∀ i (hi : i < l.length), i < j → l[i] ≠ s) → nmI k l s = ((k + j : Nat) : Int)
  | a :: r, 0, k, _, h1, _ => by
    unfold nmI
    rw [if_pos (by simpa using h1)]; simp
  | a :: r, j + 1, k, h, h1, h2 => by
    unfold nmI
    rw [if_neg (by have := h2 0 (by simp) (by omega); simpa using this)]
    have h' : j < r.length := by simpa using h
    rw [nmI_hit (k := k + 1) h' (by simpa using h1) (fun i hi hij => by have := h2 (i + 1) (by simp; omega) (by omega); simpa using this)]
    congr 1; omega
theorem nmI_miss {s : ByteArray} : ∀ {l : List ByteArray} {k : Nat}, (∀ i (hi : i < l.length), l[i] ≠ s) → nmI k l s = -1
  | [], _, _ => rfl
  | a :: r, k, h => by
    unfold nmI
    rw [if_neg (by have := h 0 (by simp); simpa using this)]
    exact nmI_miss fun i hi => by have := h (i + 1) (by simp; omega); simpa using this
theorem nmI_lt {s : ByteArray} : ∀ {l : List ByteArray} {k : Nat}, -1 ≤ nmI k l s ∧ nmI k l s < ((k + l.length : Nat) : Int)
  | [], k => by unfold nmI; constructor <;> simp <;> omega
  | a :: r, k => by
    unfold nmI
    split
    · constructor <;> simp <;> omega
    · have h := nmI_lt (s := s) (l := r) (k := k + 1)
      constructor
      · exact h.1
      · simp only [List.length_cons]; have := h.2; omega
theorem idxI_ge (l : List UInt8) : -1 ≤ idxI l := by
  unfold idxI
  split <;> omega
theorem placeT_ge (t : VT) (s : ByteArray) : -1 ≤ placeT t s := by
  unfold placeT
  split
  · exact nmI_lt.1
  · split
    · split
      · exact idxI_ge _
      · omega
    · omega
theorem placeT_lt {t : VT} {s : ByteArray} (hn : t.kind = 7 → t.names.length ≤ t.items.length) (h : 0 ≤ placeT t s) : (placeT t s).toNat < t.items.length := by
  unfold placeT at h ⊢
  split at h
  · next hk =>
    rw [if_pos hk]
    have h1 := (nmI_lt (s := s) (l := t.names) (k := 0)).2
    have := hn hk
    omega
  · next hk =>
    rw [if_neg hk]
    split at h
    · next h6 =>
      rw [if_pos h6]
      split at h
      · next hl => rw [if_pos hl]; omega
      · omega
    · omega

set_option maxHeartbeats 1000000 in
set_option maxRecDepth 100000 in
/-- slices.Index. -/
theorem slindex_any (A : Option Addr) (c : Nat) (ns : List ByteArray) (s : ByteArray) (w : World) (S : Nat → Prop) (h : StrsAt w S A ns) (hn : ns.length ≤ 140737488351232) : Calls Try.prog 63 #[.slice A ns.length c, .string s] w fun e w' => e = .returned (.int .i64 (nmI 0 ns s)) ∧ w = w' := by
  have HS := Lib.hid h
  have HN := Lib.hid hn
  clear h
  go_enter Try.func63, Try.ntmps63
  go_wp2_with fail
  go_loopw [8] (fun i wr => ∃ k : Nat, i = .int .i64 k ∧ k ≤ ns.length ∧ wr = w ∧ Hid (∀ j (h : j < ns.length), j < k → ns[j] ≠ s)) (fun i _ => ns.length - (intOf i).toNat)
  case atStart => exact ⟨0, rfl, by omega, rfl, fun j _ h => absurd h (by omega)⟩
  case round =>
    obtain ⟨k, rfl, hk, rfl, HJ⟩ := hrel
    by_cases hlt : k < ns.length
    · obtain ⟨p, o, rfl, -, hc⟩ := HS.out (by omega)
      have hck := (hc k hlt).1
      clear hc
      by_cases hb : s = ns[k]
      · have hb2 : (s.toList == ns[k].toList) = true := by rw [str_beq]; exact decide_eq_true hb
        have HB := Lib.hid hb
        clear hb
        go_wp2_with fail
        go_ret
        refine ⟨?_, rfl⟩
        rw [nmI_hit (k := 0) hlt HB.out.symm (fun i hi hij => HJ.out i hi hij)]
        simp
      · have hb2 : (s.toList == ns[k].toList) = false := by rw [str_beq]; exact decide_eq_false hb
        have HB := Lib.hid hb
        clear hb
        go_wp2_with fail
        go_roundw
        case rel => exact ⟨k + 1, by go_num, by omega, trivial, fun j h hjk => by
          by_cases e : j = k
          · subst e; exact fun h => HB.out h.symm
          · exact HJ.out j h (by omega)⟩
        case measure => simp [intOf]; omega
    · go_wp2_with fail
      go_ret
      exact ⟨by rw [nmI_miss fun j h => HJ.out j h (by omega)]; rfl, rfl⟩

/-- Five cells at an address hold a value. -/
structure AtV (w : World) (S : Nat → Prop) (t : VT) (g o : Nat) (A : Option Addr) (c : Nat) (A' : Option Addr) (c' : Nat) : Prop where
  c0 : w.cell? ⟨g, o, none⟩ = some (.int .i64 t.kind)
  c1 : w.cell? ⟨g, o + 1, none⟩ = some (.int .i64 t.num)
  c2 : w.cell? ⟨g, o + 2, none⟩ = some (.string t.text)
  c3 : w.cell? ⟨g, o + 3, none⟩ = some (.slice A t.items.length c)
  c4 : w.cell? ⟨g, o + 4, none⟩ = some (.slice A' t.names.length c')
  v : LV w S t (.agg #[.int .i64 t.kind, .int .i64 t.num, .string t.text, .slice A t.items.length c, .slice A' t.names.length c'])
theorem AtV.of_box {w : World} {S : Nat → Prop} {t : VT} {g : Nat} {A : Option Addr} {c : Nat} {A' : Option Addr} {c' : Nat} (h : Box w g (.int .i64 t.kind) (.int .i64 t.num) (.string t.text) (.slice A t.items.length c) (.slice A' t.names.length c'))
    (hv : LV w S t (.agg #[.int .i64 t.kind, .int .i64 t.num, .string t.text, .slice A t.items.length c, .slice A' t.names.length c'])) : AtV w S t g 0 A c A' c' := ⟨h.c0, h.c1, h.c2, h.c3, h.c4, hv⟩
theorem AtV.keep {w w' : World} {S : Nat → Prop} {t : VT} {g o : Nat} {A : Option Addr} {c : Nat} {A' : Option Addr} {c' : Nat} (h : AtV w S t g o A c A' c') (hg : w'.heap[g]? = w.heap[g]?) (hS : ∀ b, S b → w'.heap[b]? = w.heap[b]?) : AtV w' S t g o A c A' c' :=
  ⟨(World.cell?_of_block (a := ⟨g, o, none⟩) hg).trans h.c0, (World.cell?_of_block (a := ⟨g, o + 1, none⟩) hg).trans h.c1, (World.cell?_of_block (a := ⟨g, o + 2, none⟩) hg).trans h.c2, (World.cell?_of_block (a := ⟨g, o + 3, none⟩) hg).trans h.c3, (World.cell?_of_block (a := ⟨g, o + 4, none⟩) hg).trans h.c4, h.v.keep hS⟩
/-- An item lies in a row. -/
theorem AtV.item {w : World} {S : Nat → Prop} {t : VT} {g o : Nat} {A : Option Addr} {c : Nat} {A' : Option Addr} {c' : Nat} (h : AtV w S t g o A c A' c') {j : Nat} (hj : j < t.items.length) :
    ∃ G off A2 c2 A3 c3, A = some ⟨G, off, none⟩ ∧ S G ∧ AtV w S t.items[j] G (off + j * 5) A2 c2 A3 c3 := by
  obtain ⟨A0, c0, A0', c0', hag, -, -, -, -, -, -, hla⟩ := h.v.shape
  injection hag with hag; injection hag with hag
  injection hag with y0 hag; injection hag with y1 hag; injection hag with y2 hag; injection hag with y3 hag
  injection y3 with y3
  subst y3
  obtain ⟨G, off, hA, hG, hls⟩ := hla (by omega)
  obtain ⟨x0, x1, x2, x3, x4, h0, h1, h2, h3, h4, hx⟩ := hls.at j hj
  obtain ⟨A2, e2, A3, e3, hag2, -⟩ := hx.shape
  injection hag2 with hag2; injection hag2 with hag2
  injection hag2 with z0 hag2; injection hag2 with z1 hag2; injection hag2 with z2 hag2; injection hag2 with z3 hag2; injection hag2 with z4 hag2
  subst z0 z1 z2 z3 z4
  exact ⟨G, off, A2, e2, A3, e3, hA, hG, h0, h1, h2, h3, h4, hx⟩
theorem AtV.names {w : World} {S : Nat → Prop} {t : VT} {g o : Nat} {A : Option Addr} {c : Nat} {A' : Option Addr} {c' : Nat} (h : AtV w S t g o A c A' c') : StrsAt w S A' t.names ∧ t.names.length ≤ 140737488351232 ∧ t.items.length ≤ 140737488351232 := by
  obtain ⟨A0, c0, A0', c0', hag, -, -, -, hl1, hl2, hst, -⟩ := h.v.shape
  injection hag with hag; injection hag with hag
  injection hag with y0 hag; injection hag with y1 hag; injection hag with y2 hag; injection hag with y3 hag; injection hag with y4 hag
  injection y4 with y4
  subst y4
  exact ⟨hst, hl2, hl1⟩
theorem placeT_doc {t : VT} {s : ByteArray} (h : t.kind = 7) : placeT t s = nmI 0 t.names s := by unfold placeT; rw [if_pos h]
theorem placeT_arr {t : VT} {s : ByteArray} (h : t.kind = 6) : placeT t s = if idxI s.data.toList < t.items.length then idxI s.data.toList else -1 := by unfold placeT; rw [if_neg (by omega), if_pos h]
theorem placeT_else {t : VT} {s : ByteArray} (h7 : t.kind ≠ 7) (h6 : t.kind ≠ 6) : placeT t s = -1 := by unfold placeT; rw [if_neg h7, if_neg h6]
end Go.Proofs.Ytipiplnhbecjeaa

/- Going a path: the program's along, for whatever is done at its end. -/
namespace Go.Proofs.Ytipiplnhbecjeaa
set_option linter.unusedVariables false
set_option linter.unusedSimpArgs false
open Go.RowKit
/-- A path from its second step on. -/
def tailA (A : Option Addr) (c : Nat) : Option Addr := if c = 1 then A else A.map (·.add 1)
theorem StrsAt.tail {w : World} {S : Nat → Prop} {A : Option Addr} {c : Nat} {s : ByteArray} {r : List ByteArray} (h : StrsAt w S A (s :: r)) (hc : r = [] ∨ 1 < c) : StrsAt w S (tailA A c) r := by
  intro hp
  obtain ⟨b, off, rfl, hb, hx⟩ := h (by simp)
  have hc1 : c ≠ 1 := by
    rcases hc with h | h
    · rw [h] at hp; simp at hp
    · omega
  unfold tailA
  rw [if_neg hc1]
  refine ⟨b, off + 1, by simp [add_at], hb, fun i hi => ?_⟩
  have := hx (i + 1) (by simp; omega)
  rw [show off + (i + 1) = off + 1 + i by omega] at this
  simpa using this
end Go.Proofs.Ytipiplnhbecjeaa
