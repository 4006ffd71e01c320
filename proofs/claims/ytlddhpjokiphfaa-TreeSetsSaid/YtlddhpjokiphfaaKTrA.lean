/- What lies at a path: plain; and the steps of a path, one at a time. -/
import Derived.Test.YtlddhpjokiphfaaKOpen
import Derived.Test.YtlddhpjokiphfaaKPathA
import Derived.Test.YtlddhpjokiphfaaKPathI
import Derived.Test.YtlddhpjokiphfaaKValF
import Derived.Test.YtlddhpjokiphfaaKVr
import Derived.Test.YtlddhpjokiphfaaKReg
namespace Go.Proofs.Ytlddhpjokiphfaa
set_option linter.unusedVariables false
set_option linter.unusedSimpArgs false
open Go.RowKit

/-- Where a name stands. -/
def nmI (k : Nat) : List ByteArray → ByteArray → Int
  | [], _ => -1
  | a :: r, s => if a = s then k else nmI (k + 1) r s
/-- Which item a step goes to; below 0: none. -/
def placeT (t : VT) (s : ByteArray) : Int :=
  if t.kind = 7 then nmI 0 t.names s else if t.kind = 6 then (if idxI s.data.toList < t.items.length then idxI s.data.toList else -1) else -1
def getT : VT → List ByteArray → Option VT
  | t, [] => some t
  | t, s :: r => if placeT t s < 0 then none else match t.items[(placeT t s).toNat]? with
    | some u => getT u r
    | none => none
theorem nmI_hit {s : ByteArray} : ∀ {l : List ByteArray} {j k : Nat} (h : j < l.length), l[j] = s → (∀ i (hi : i < l.length), i < j → l[i] ≠ s) → nmI k l s = ((k + j : Nat) : Int)
  | a :: r, 0, k, _, h1, _ => by
    unfold nmI
    rw [if_pos (by simpa using h1)]; simp
  | a :: r, j + 1, k, h, h1, h2 => by
    unfold nmI
    rw [if_neg (by have := h2 0 (by simp) (by omega); simpa using this)]
    have h' : j < r.length := by simpa using h
    rw [nmI_hit (k := k + 1) h' (by simpa using h1) (fun i hi hij => by have := h2 (i + 1) (by simp; omega) (by omega); simpa using this)]
    congr 1; omega
theorem nmI_miss {s : ByteArray} : ∀ {l : List ByteArray} {k : Nat}, (∀ i (hi : i < l.length), l[i] ≠ s) → nmI k l s = -1
  | [], _, _ => rfl
  | a :: r, k, h => by
    unfold nmI
    rw [if_neg (by have := h 0 (by simp); simpa using this)]
    exact nmI_miss fun i hi => by have := h (i + 1) (by simp; omega); simpa using this
theorem nmI_lt {s : ByteArray} : ∀ {l : List ByteArray} {k : Nat}, -1 ≤ nmI k l s ∧ nmI k l s < ((k + l.length : Nat) : Int)
  | [], k => by unfold nmI; constructor <;> simp <;> omega
  | a :: r, k => by
    unfold nmI
    split
    · constructor <;> simp <;> omega
    · have h := nmI_lt (s := s) (l := r) (k := k + 1)
      constructor
      · exact h.1
      · simp only [List.length_cons]; have := h.2; omega
theorem idxI_ge (l : List UInt8) : -1 ≤ idxI l := by
  unfold idxI
  split <;> omega
theorem placeT_ge (t : VT) (s : ByteArray) : -1 ≤ placeT t s := by
  unfold placeT
  split
  · exact nmI_lt.1
  · split
    · split
      · exact idxI_ge _
      · omega
    · omega
theorem placeT_lt {t : VT} {s : ByteArray} (hn : t.kind = 7 → t.names.length ≤ t.items.length) (h : 0 ≤ placeT t s) : (placeT t s).toNat < t.items.length := by
  unfold placeT at h ⊢
  split at h
  · next hk =>
    rw [if_pos hk]
    have h1 := (nmI_lt (s := s) (l := t.names) (k := 0)).2
    have := hn hk
    omega
  · next hk =>
    rw [if_neg hk]
    split at h
    · next h6 =>
      rw [if_pos h6]
      split at h
      · next hl => rw [if_pos hl]; omega
      · omega
    · omega

set_option maxHeartbeats 1000000 in
set_option maxRecDepth 100000 in
/-- slices.Index. -/
theorem slindex_any (A : Option Addr) (c : Nat) (ns : List ByteArray) (s : ByteArray) (w : World) (S : Nat → Prop) (h : StrsAt w S A ns) (hn : ns.length ≤ 140737488351232) : Calls Try.prog 60 #[.slice A ns.length c, .string s] w fun e w' => e = .returned (.int .i64 (nmI 0 ns s)) ∧ w = w' := by
  have HS := Lib.hid h
  have HN := Lib.hid hn
  clear h
  go_enter Try.func60, Try.ntmps60
  go_wp2_with fail
  go_loopw [8] (fun i wr => ∃ k : Nat, i = .int .i64 k ∧ k ≤ ns.length ∧ wr = w ∧ Hid (∀ j (h : j < ns.length), j < k → ns[j] ≠ s)) (fun i _ => ns.length - (intOf i).toNat)
  case atStart => exact ⟨0, rfl, by omega, rfl, fun j _ h => absurd h (by omega)⟩
  case round =>
    obtain ⟨k, rfl, hk, rfl, HJ⟩ := hrel
    by_cases hlt : k < ns.length
    · obtain ⟨p, o, rfl, -, hc⟩ := HS.out (by omega)
      have hck := (hc k hlt).1
      clear hc
      by_cases hb : s = ns[k]
      · have hb2 : (s.toList == ns[k].toList) = true := by rw [str_beq]; exact decide_eq_true hb
        have HB := Lib.hid hb
        clear hb
        go_wp2_with fail
        go_ret
        refine ⟨?_, rfl⟩
        rw [nmI_hit (k := 0) hlt HB.out.symm (fun i hi hij => HJ.out i hi hij)]
        simp
      · have hb2 : (s.toList == ns[k].toList) = false := by rw [str_beq]; exact decide_eq_false hb
        have HB := Lib.hid hb
        clear hb
        go_wp2_with fail
        go_roundw
        case rel => exact ⟨k + 1, by go_num, by omega, trivial, fun j h hjk => by
          by_cases e : j = k
          · subst e; exact fun h => HB.out h.symm
          · exact HJ.out j h (by omega)⟩
        case measure => simp [intOf]; omega
    · go_wp2_with fail
      go_ret
      exact ⟨by rw [nmI_miss fun j h => HJ.out j h (by omega)]; rfl, rfl⟩

/-- Five cells at an address hold a value. -/
structure AtV (w : World) (S : Nat → Prop) (t : VT) (g o : Nat) (A : Option Addr) (c : Nat) (A' : Option Addr) (c' : Nat) : Prop where
  c0 : w.cell? ⟨g, o, none⟩ = some (.int .i64 t.kind)
  c1 : w.cell? ⟨g, o + 1, none⟩ = some (.int .i64 t.num)
  c2 : w.cell? ⟨g, o + 2, none⟩ = some (.string t.text)
  c3 : w.cell? ⟨g, o + 3, none⟩ = some (.slice A t.items.length c)
  c4 : w.cell? ⟨g, o + 4, none⟩ = some (.slice A' t.names.length c')
  v : LV w S t (.agg #[.int .i64 t.kind, .int .i64 t.num, .string t.text, .slice A t.items.length c, .slice A' t.names.length c'])
theorem AtV.of_box {w : World} {S : Nat → Prop} {t : VT} {g : Nat} {A : Option Addr} {c : Nat} {A' : Option Addr} {c' : Nat} (h : Box w g (.int .i64 t.kind) (.int .i64 t.num) (.string t.text) (.slice A t.items.length c) (.slice A' t.names.length c'))
    (hv : LV w S t (.agg #[.int .i64 t.kind, .int .i64 t.num, .string t.text, .slice A t.items.length c, .slice A' t.names.length c'])) : AtV w S t g 0 A c A' c' := ⟨h.c0, h.c1, h.c2, h.c3, h.c4, hv⟩
theorem AtV.keep {w w' : World} {S : Nat → Prop} {t : VT} {g o : Nat} {A : Option Addr} {c : Nat} {A' : Option Addr} {c' : Nat} (h : AtV w S t g o A c A' c') (hg : w'.heap[g]? = w.heap[g]?) (hS : ∀ b, S b → w'.heap[b]? = w.heap[b]?) : AtV w' S t g o A c A' c' :=
  ⟨(World.cell?_of_block (a := ⟨g, o, none⟩) hg).trans h.c0, (World.cell?_of_block (a := ⟨g, o + 1, none⟩) hg).trans h.c1, (World.cell?_of_block (a := ⟨g, o + 2, none⟩) hg).trans h.c2, (World.cell?_of_block (a := ⟨g, o + 3, none⟩) hg).trans h.c3, (World.cell?_of_block (a := ⟨g, o + 4, none⟩) hg).trans h.c4, h.v.keep hS⟩
/-- An item lies in a row. -/
theorem AtV.item {w : World} {S : Nat → Prop} {t : VT} {g o : Nat} {A : Option Addr} {c : Nat} {A' : Option Addr} {c' : Nat} (h : AtV w S t g o A c A' c') {j : Nat} (hj : j < t.items.length) :
    ∃ G off A2 c2 A3 c3, A = some ⟨G, off, none⟩ ∧ S G ∧ AtV w S t.items[j] G (off + j * 5) A2 c2 A3 c3 := by
  obtain ⟨A0, c0, A0', c0', hag, -, -, -, -, -, -, hla⟩ := h.v.shape
  injection hag with hag; injection hag with hag
  injection hag with y0 hag; injection hag with y1 hag; injection hag with y2 hag; injection hag with y3 hag
  injection y3 with y3
  subst y3
  obtain ⟨G, off, hA, hG, hls⟩ := hla (by omega)
  obtain ⟨x0, x1, x2, x3, x4, h0, h1, h2, h3, h4, hx⟩ := hls.at j hj
  obtain ⟨A2, e2, A3, e3, hag2, -⟩ := hx.shape
  injection hag2 with hag2; injection hag2 with hag2
  injection hag2 with z0 hag2; injection hag2 with z1 hag2; injection hag2 with z2 hag2; injection hag2 with z3 hag2; injection hag2 with z4 hag2
  subst z0 z1 z2 z3 z4
  exact ⟨G, off, A2, e2, A3, e3, hA, hG, h0, h1, h2, h3, h4, hx⟩
theorem AtV.names {w : World} {S : Nat → Prop} {t : VT} {g o : Nat} {A : Option Addr} {c : Nat} {A' : Option Addr} {c' : Nat} (h : AtV w S t g o A c A' c') : StrsAt w S A' t.names ∧ t.names.length ≤ 140737488351232 ∧ t.items.length ≤ 140737488351232 := by
  obtain ⟨A0, c0, A0', c0', hag, -, -, -, hl1, hl2, hst, -⟩ := h.v.shape
  injection hag with hag; injection hag with hag
  injection hag with y0 hag; injection hag with y1 hag; injection hag with y2 hag; injection hag with y3 hag; injection hag with y4 hag
  injection y4 with y4
  subst y4
  exact ⟨hst, hl2, hl1⟩
theorem placeT_doc {t : VT} {s : ByteArray} (h : t.kind = 7) : placeT t s = nmI 0 t.names s := by unfold placeT; rw [if_pos h]
theorem placeT_arr {t : VT} {s : ByteArray} (h : t.kind = 6) : placeT t s = if idxI s.data.toList < t.items.length then idxI s.data.toList else -1 := by unfold placeT; rw [if_neg (by omega), if_pos h]
theorem placeT_else {t : VT} {s : ByteArray} (h7 : t.kind ≠ 7) (h6 : t.kind ≠ 6) : placeT t s = -1 := by unfold placeT; rw [if_neg h7, if_neg h6]
set_option maxHeartbeats 1000000 in
set_option maxRecDepth 100000 in
theorem find_any (S : Nat → Prop) (t : VT) (g o : Nat) (A : Option Addr) (c : Nat) (A' : Option Addr) (c' : Nat) (s : ByteArray) (w : World) (h : AtV w S t g o A c A' c') (hg : g < w.heap.size) (hs : s.size ≤ 140737488351232) :
    Calls Try.prog 47 #[.pointer (some ⟨g, o, none⟩), .string s] w fun e w' => e = .returned (.int .i64 (placeT t s)) ∧ Below w.heap.size w w' := by
  have H := Lib.hid h
  have c0 := h.c0
  have c4 := h.c4
  clear h
  obtain ⟨R, hR⟩ : ∃ R, R = placeT t s := ⟨_, rfl⟩
  rw [← hR]
  obtain ⟨k, hk⟩ : ∃ k, k = t.kind := ⟨_, rfl⟩
  rw [← hk] at c0
  have HP := Lib.hid hR
  have HK := Lib.hid hk
  clear hk hR
  go_enter Try.func47, Try.ntmps47
  by_cases h7 : k = 7
  · subst h7
    go_wp2_with fail
    refine (slindex_any A' c' t.names s w S H.out.names.1 H.out.names.2.1).mono ?_
    rintro e w1 ⟨rfl, rfl⟩
    go_wp2_with fail
    go_ret
    exact ⟨by rw [HP.out, placeT_doc HK.out.symm]; rfl, Below.refl _ _⟩
  have b7 := beq_false_of_ne h7
  by_cases h6 : k = 6
  · subst h6
    go_wp2_with fail
    refine (index_any s w hs).mono ?_
    rintro e w1 hi
    unfold IdxR at hi
    cases hix : idxP s.data.toList with
    | none =>
      rw [hix] at hi
      obtain ⟨rfl, hb⟩ := hi
      have HB := Lib.hid hb
      have hI := idxI_none hix
      go_wp2_with fail
      go_ret
      refine ⟨?_, HB.out⟩
      rw [HP.out, placeT_arr HK.out.symm, hI, if_pos (by omega)]; rfl
    | some n =>
      rw [hix] at hi
      obtain ⟨rfl, hb⟩ := hi
      have HB := Lib.hid hb
      have hI := idxI_some hix
      have c3 : w1.cell? ⟨g, o + 3, none⟩ = some (.slice A t.items.length c) := (World.cell?_of_block (a := ⟨g, o + 3, none⟩) (hb.block g hg)).trans H.out.c3
      by_cases hlt : (n : Int) < (t.items.length : Int)
      · have hlt2 : decide ((n : Int) < (t.items.length : Int)) = true := decide_eq_true hlt
        go_wp2_with fail
        go_ret
        refine ⟨?_, HB.out⟩
        rw [HP.out, placeT_arr HK.out.symm, hI, if_pos hlt]; rfl
      · have hlt2 : decide ((n : Int) < (t.items.length : Int)) = false := decide_eq_false hlt
        go_wp2_with fail
        go_ret
        refine ⟨?_, HB.out⟩
        rw [HP.out, placeT_arr HK.out.symm, hI, if_neg (by omega)]; rfl
  have b6 := beq_false_of_ne h6
  go_wp2_with fail
  go_ret
  exact ⟨by rw [HP.out, placeT_else (fun h => h7 (HK.out.trans h)) (fun h => h6 (HK.out.trans h))]; rfl, Below.refl _ _⟩
end Go.Proofs.Ytlddhpjokiphfaa

/- Going a path: the program's along, for whatever is done at its end. -/
namespace Go.Proofs.Ytlddhpjokiphfaa
set_option linter.unusedVariables false
set_option linter.unusedSimpArgs false
open Go.RowKit
/-- A path from its second step on. -/
def tailA (A : Option Addr) (c : Nat) : Option Addr := if c = 1 then A else A.map (·.add 1)
theorem StrsAt.tail {w : World} {S : Nat → Prop} {A : Option Addr} {c : Nat} {s : ByteArray} {r : List ByteArray} (h : StrsAt w S A (s :: r)) (hc : r = [] ∨ 1 < c) : StrsAt w S (tailA A c) r := by
  intro hp
  obtain ⟨b, off, rfl, hb, hx⟩ := h (by simp)
  have hc1 : c ≠ 1 := by
    rcases hc with h | h
    · rw [h] at hp; simp at hp
    · omega
  unfold tailA
  rw [if_neg hc1]
  refine ⟨b, off + 1, by simp [add_at], hb, fun i hi => ?_⟩
  have := hx (i + 1) (by simp; omega)
  rw [show off + (i + 1) = off + 1 + i by omega] at this
  simpa using this
set_option maxHeartbeats 2000000 in
set_option maxRecDepth 100000 in
/-- A path is gone: I says what stands on the road. -/
theorem along_any (f : Nat) (caps : Array Value) (R : Ending → World → Prop) (I : World → VT → Nat → Nat → Option Addr → Nat → List ByteArray → Prop) (hcf0 : Enters f)
    (hRv : ∀ e w, R e w → ∃ v, e = .returned v)
    (hat : ∀ w t g o A c p, I w t g o A c p → ∃ S B k B' k', AtV w S t g o B k B' k' ∧ g < w.heap.size ∧ (t.kind = 7 → t.names.length ≤ t.items.length))
    (hstr : ∀ w t g o A c p, I w t g o A c p → ∃ S, StrsAt w S A p ∧ p.length ≤ c ∧ c ≤ 9223372036854775807 ∧ p ≠ [] ∧ (∀ s ∈ p, s.size ≤ 140737488351232))
    (hkeep : ∀ w w' t g o A c p, I w t g o A c p → Below w.heap.size w w' → I w' t g o A c p)
    (hdown : ∀ w t g o A c s r G off B k B' k' S (hj : (placeT t s).toNat < t.items.length), I w t g o A c (s :: r) → r ≠ [] → 0 ≤ placeT t s → AtV w S t g o B k B' k' → B = some ⟨G, off, none⟩ → I w (t.items[(placeT t s).toNat]) G (off + (placeT t s).toNat * 5) (tailA A c) (c - 1) r)
    (hfin : ∀ w t g o A c s r, I w t g o A c (s :: r) → (placeT t s < 0 ∨ r = []) → Calls Try.prog f (#[.agg #[.pointer (some ⟨g, o, none⟩), .int .i64 (placeT t s), .slice A (r.length + 1) c]] ++ caps) w R) :
    ∀ (p : List ByteArray) (t : VT) (g o : Nat) (A : Option Addr) (c : Nat) (w : World), I w t g o A c p → Calls Try.prog 28 #[.pointer (some ⟨g, o, none⟩), .slice A p.length c, .func (.func f) #[] caps] w R := by
  intro p
  induction p with
  | nil => intro t g o A c w h; obtain ⟨S, -, -, -, h1, -⟩ := hstr _ _ _ _ _ _ _ h; exact absurd rfl h1
  | cons s r ih =>
    intro t g o A c w h
    have hcf : ∀ (args : Array Value) (W : World), (callFunc f args).run Try.prog W = .ok (.enter f args) W := hcf0
    obtain ⟨S, B, k, B', k', hv, hg, hkn⟩ := hat _ _ _ _ _ _ _ h
    obtain ⟨S', hst, hpc, hc63, -, hsz⟩ := hstr _ _ _ _ _ _ _ h
    obtain ⟨b, off, rfl, hb, hx⟩ := hst (by simp)
    have hs0 := (hx 0 (by simp)).1
    have hss := hsz s (List.mem_cons_self ..)
    simp only [List.getElem_cons_zero, Nat.add_zero] at hs0
    have H := Lib.hid h
    have HF := Lib.hid (find_any S t g o B k B' k' s w hv hg hss)
    have HIH := Lib.hid ih
    have HFIN := Lib.hid hfin
    have HDOWN := Lib.hid hdown
    have HKEEP := Lib.hid hkeep
    have HAT := Lib.hid hat
    have HKN := Lib.hid hkn
    have hpc' : r.length + 1 ≤ c := by simpa using hpc
    clear h hst hx hv ih hfin hdown hkeep hat hstr hcf0 hkn
    simp only [List.length_cons] at *
    go_enter Try.func28, Try.ntmps28
    go_wp2_with fail
    refine HF.out.mono ?_
    rintro e w1 ⟨rfl, hb1⟩
    have H1 := Lib.hid (HKEEP.out _ _ _ _ _ _ _ _ H.out hb1)
    obtain ⟨P, hP⟩ : ∃ P, P = placeT t s := ⟨_, rfl⟩
    have hge : -1 ≤ P := by rw [hP]; exact placeT_ge t s
    rw [← hP]
    have HP := Lib.hid hP
    clear hb1 hP HF hs0 H
    by_cases hneg : P < 0
    · have hneg2 : decide (P < 0) = true := decide_eq_true hneg
      go_wp2_with fail
      have hfin := HFIN.out _ _ _ _ _ _ _ _ H1.out (.inl (by rw [← HP.out]; exact hneg))
      rw [← HP.out] at hfin
      refine hfin.mono ?_
      rintro e w2 hr
      obtain ⟨v, rfl⟩ := hRv _ _ hr
      have HR := Lib.hid hr
      clear hr hfin
      go_wp2_with fail
      exact HR.out
    have hneg2 : decide (P < 0) = false := decide_eq_false hneg
    by_cases hr0 : r = []
    · subst hr0
      simp only [List.length_nil, Nat.zero_add] at *
      go_wp2_with fail
      have hfin := HFIN.out _ _ _ _ _ _ _ _ H1.out (.inr rfl)
      rw [← HP.out] at hfin
      refine hfin.mono ?_
      rintro e w2 hr
      obtain ⟨v, rfl⟩ := hRv _ _ hr
      have HR := Lib.hid hr
      clear hr hfin
      go_wp2_with fail
      exact HR.out
    have hrl : 0 < r.length := by cases r with | nil => exact absurd rfl hr0 | cons a b => simp
    have hr1 : (((r.length + 1 : Nat) : Int) == 1) = false := beq_false_of_ne (by omega)
    obtain ⟨S1, B1, k1, B1', k1', hv1, hg1, hkn1⟩ := HAT.out _ _ _ _ _ _ _ H1.out
    have hPn : 0 ≤ placeT t s := by rw [← HP.out]; omega
    have hPl : (placeT t s).toNat < t.items.length := placeT_lt HKN.out hPn
    obtain ⟨G, off1, A2, c2, A3, c3, hB1, hG, hitem⟩ := hv1.item hPl
    subst hB1
    have hI := HDOWN.out _ _ _ _ _ _ _ _ _ _ _ _ _ _ _ hPl H1.out hr0 hPn hv1 rfl
    rw [← HP.out] at hPl
    have hcell := hv1.c3
    have hlen := hv1.names.2.2
    have HI := Lib.hid hI
    obtain ⟨j, rfl⟩ : ∃ j : Nat, P = j := ⟨P.toNat, by omega⟩
    simp only [Int.toNat_natCast] at hPl
    clear hI hv1 hkn1 hitem
    go_wp2_with fail
    refine wp_region_OT Always (fun _ => trivial) (fun _ _ _ _ _ => trivial) [9] (.free [0, 1, 2, 4, 6, 7, 8] (.step 3 (.free [5] (.step 9 (.free [10] (.tail [])))))) (by kernel_rfl) (by kernel_rfl) (fun _ d _ _ _ h => by cases d <;> exact h) ?_
    refine ot_free ?_
    simp only [atNats, List.filterMap_cons, List.filterMap_nil, List.getElem?_toArray, List.getElem?_cons_succ, List.getElem?_cons_zero]
    show wpQuiet _ _ _ _ [_, _, _, _, _, _, _] _
    try simp only [List.getElem_toArray, List.getElem_cons_succ, List.getElem_cons_zero, Act.put, List.setIfInBounds_toArray, List.set_cons_succ, List.set_cons_zero]
    repeat (go_big_quiet_step (fail))
    refine wpQuiet_nil ?_
    have hcd : w1.drew.cell? ⟨g, o + 3, none⟩ = some (.slice (some ⟨G, off1, none⟩) t.items.length k1) := hcell
    refine ot_step rfl (fun K hK => ?_)
    go_simp
    refine hK _ _ (.inr trivial) ?_
    clear hK K hcd hcell
    refine ot_free ?_
    simp only [atNats, List.filterMap_cons, List.filterMap_nil, List.getElem?_toArray, List.getElem?_cons_succ, List.getElem?_cons_zero]
    show wpQuiet _ _ _ _ [_] _
    try simp only [List.getElem_toArray, List.getElem_cons_succ, List.getElem_cons_zero, Act.put, List.setIfInBounds_toArray, List.set_cons_succ, List.set_cons_zero]
    repeat (go_big_quiet_step (fail))
    refine wpQuiet_nil ?_
    refine ot_step rfl (fun K hK => ?_)
    go_simp
    have hj : (placeT t s).toNat = j := by rw [← HP.out]; simp
    have ht : tailA (some ⟨b, off, none⟩) c = some ⟨b, off + 1, none⟩ := by
      unfold tailA
      rw [if_neg (by omega)]
      simp [add_at]
    have hI := HI.out
    simp only [hj] at hI
    rw [ht] at hI
    refine (HIH.out _ _ _ _ _ _ (HKEEP.out _ w1.drew _ _ _ _ _ _ hI ((Below.refl _ _).drew))).mono ?_
    rintro e w2 hr
    obtain ⟨v, rfl⟩ := hRv _ _ hr
    have HR := Lib.hid hr
    refine hK _ _ (.inl (by decide)) ?_
    clear hK K hr hI
    refine ot_free ?_
    simp only [atNats, List.filterMap_cons, List.filterMap_nil, List.getElem?_toArray, List.getElem?_cons_succ, List.getElem?_cons_zero]
    show wpQuiet _ _ _ _ [_] _
    try simp only [List.getElem_toArray, List.getElem_cons_succ, List.getElem_cons_zero, Act.put, List.setIfInBounds_toArray, List.set_cons_succ, List.set_cons_zero]
    repeat (go_big_quiet_step (fail))
    refine wpQuiet_nil ?_
    refine ot_end ?_
    go_wp2_with fail
    exact HR.out
end Go.Proofs.Ytlddhpjokiphfaa
