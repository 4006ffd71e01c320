/- What lies at a path: plain; and the steps of a path, one at a time. -/
import Derived.Test.YtnamdlljdgllmaaGreatKRefM
import Derived.Test.YtnamdlljdgllmaaGreatKValL
import Derived.Test.YtnamdlljdgllmaaGreatKValM
import Derived.Test.YtnamdlljdgllmaaGreatKCodV
import Derived.Test.YtnamdlljdgllmaaGreatKValO
import Derived.Test.YtnamdlljdgllmaaGreatKRefD
import Derived.Lib.Join
import Derived.Outline
import Derived.StillTailTactics
import Derived.Lib.DecodeN
import Derived.Laws.AppendOwnNone
import Derived.Lib.AppendZerosOnto
import Derived.Lib.AppendZeros
import Derived.Lib.SliceRun
namespace Go.Proofs.YtnamdlljdgllmaaGreat
set_option linter.unusedVariables false
set_option linter.unusedSimpArgs false
open Go.RowKit

def nmI (k : Nat) : List ByteArray → ByteArray → Int
  | [], _ => -1
  | a :: r, s => if a = s then k else nmI (k + 1) r s
def placeT (t : VT) (s : ByteArray) : Int :=
  if t.kind = 7 then nmI 0 t.names s else if t.kind = 6 then (if idxI s.data.toList < t.items.length then idxI s.data.toList else -1) else -1
theorem nmI_hit {s : ByteArray} : ∀ {l : List ByteArray} {j k : Nat} (h : j < l.length), l[j] = s → (∀ i (hi : i < l.length), i < j → l[i] ≠ s) → nmI k l s = ((k + j : Nat) : Int)
  | a :: r, 0, k, _, h1, _ => by
    unfold nmI
    rw [if_pos (by simpa using h1)]; simp
  | a :: r, j + 1, k, h, h1, h2 => by
    unfold nmI
    rw [if_neg (by have := h2 0 (by simp) (by omega); simpa using this)]
    have h' : j < r.length := by simpa using h
    rw [nmI_hit (k := k + 1) h' (by simpa using h1) (fun i hi hij => by have := h2 (i + 1) (by simp; omega) (by omega); simpa using this)]
    congr 1; omega
theorem nmI_miss {s : ByteArray} : ∀ {l : List ByteArray} {k : Nat}, (∀ i (hi : i < l.length), l[i] ≠ s) → nmI k l s = -1
  | [], _, _ => rfl
  | a :: r, k, h => by
    unfold nmI
    rw [if_neg (by have := h 0 (by simp); simpa using this)]
    exact nmI_miss fun i hi => by have := h (i + 1) (by simp; omega); simpa using this
theorem nmI_lt {s : ByteArray} : ∀ {l : List ByteArray} {k : Nat}, -1 ≤ nmI k l s ∧ nmI k l s < ((k + l.length : Nat) : Int)
  | [], k => by unfold nmI; constructor <;> simp <;> omega
  | a :: r, k => by
    unfold nmI
    split
    · constructor <;> simp <;> omega
    · have h := nmI_lt (s := s) (l := r) (k := k + 1)
      constructor
      · exact h.1
      · simp only [List.length_cons]; have := h.2; omega
theorem idxI_ge (l : List UInt8) : -1 ≤ idxI l := by
  unfold idxI
  split <;> omega
theorem placeT_ge (t : VT) (s : ByteArray) : -1 ≤ placeT t s := by
  unfold placeT
  split
  · exact nmI_lt.1
  · split
    · split
      · exact idxI_ge _
      · omega
    · omega
theorem placeT_lt {t : VT} {s : ByteArray} (hn : t.kind = 7 → t.names.length ≤ t.items.length) (h : 0 ≤ placeT t s) : (placeT t s).toNat < t.items.length := by
  unfold placeT at h ⊢
  split at h
  · next hk =>
    rw [if_pos hk]
    have h1 := (nmI_lt (s := s) (l := t.names) (k := 0)).2
    have := hn hk
    omega
  · next hk =>
    rw [if_neg hk]
    split at h
    · next h6 =>
      rw [if_pos h6]
      split at h
      · next hl => rw [if_pos hl]; omega
      · omega
    · omega

set_option maxHeartbeats 1000000 in
set_option maxRecDepth 100000 in
theorem slindex_any (A : Option Addr) (c : Nat) (ns : List ByteArray) (s : ByteArray) (w : World) (S : Nat → Prop) (h : StrsAt w S A ns) (hn : ns.length ≤ 140737488351232) : Calls Tryz.prog 173 #[.slice A ns.length c, .string s] w fun e w' => e = .returned (.int .i64 (nmI 0 ns s)) ∧ w = w' := by
  have HS := Lib.hid h
  have HN := Lib.hid hn
  clear h
  go_enter Tryz.func173, Tryz.ntmps173
  go_wp2_with fail
  go_loopw [8] (fun i wr => ∃ k : Nat, i = .int .i64 k ∧ k ≤ ns.length ∧ wr = w ∧ Hid (∀ j (h : j < ns.length), j < k → ns[j] ≠ s)) (fun i _ => ns.length - (intOf i).toNat)
  case atStart => exact ⟨0, rfl, by omega, rfl, fun j _ h => absurd h (by omega)⟩
  case round =>
    obtain ⟨k, rfl, hk, rfl, HJ⟩ := hrel
    by_cases hlt : k < ns.length
    · obtain ⟨p, o, rfl, -, hc⟩ := HS.out (by omega)
      have hck := (hc k hlt).1
      clear hc
      by_cases hb : s = ns[k]
      · have hb2 : (s.toList == ns[k].toList) = true := by rw [str_beq]; exact decide_eq_true hb
        have HB := Lib.hid hb
        clear hb
        go_wp2_with fail
        go_ret
        refine ⟨?_, rfl⟩
        rw [nmI_hit (k := 0) hlt HB.out.symm (fun i hi hij => HJ.out i hi hij)]
        simp
      · have hb2 : (s.toList == ns[k].toList) = false := by rw [str_beq]; exact decide_eq_false hb
        have HB := Lib.hid hb
        clear hb
        go_wp2_with fail
        go_roundw
        case rel => exact ⟨k + 1, by go_num, by omega, trivial, fun j h hjk => by
          by_cases e : j = k
          · subst e; exact fun h => HB.out h.symm
          · exact HJ.out j h (by omega)⟩
        case measure => simp [intOf]; omega
    · go_wp2_with fail
      go_ret
      exact ⟨by rw [nmI_miss fun j h => HJ.out j h (by omega)]; rfl, rfl⟩

structure AtV (w : World) (S : Nat → Prop) (t : VT) (g o : Nat) (A : Option Addr) (c : Nat) (A' : Option Addr) (c' : Nat) : Prop where
  c0 : w.cell? ⟨g, o, none⟩ = some (.int .i64 t.kind)
  c1 : w.cell? ⟨g, o + 1, none⟩ = some (.int .i64 t.num)
  c2 : w.cell? ⟨g, o + 2, none⟩ = some (.string t.text)
  c3 : w.cell? ⟨g, o + 3, none⟩ = some (.slice A t.items.length c)
  c4 : w.cell? ⟨g, o + 4, none⟩ = some (.slice A' t.names.length c')
  v : LV w S t (.agg #[.int .i64 t.kind, .int .i64 t.num, .string t.text, .slice A t.items.length c, .slice A' t.names.length c'])
theorem AtV.keep {w w' : World} {S : Nat → Prop} {t : VT} {g o : Nat} {A : Option Addr} {c : Nat} {A' : Option Addr} {c' : Nat} (h : AtV w S t g o A c A' c') (hg : w'.heap[g]? = w.heap[g]?) (hS : ∀ b, S b → w'.heap[b]? = w.heap[b]?) : AtV w' S t g o A c A' c' :=
  ⟨(World.cell?_of_block (a := ⟨g, o, none⟩) hg).trans h.c0, (World.cell?_of_block (a := ⟨g, o + 1, none⟩) hg).trans h.c1, (World.cell?_of_block (a := ⟨g, o + 2, none⟩) hg).trans h.c2, (World.cell?_of_block (a := ⟨g, o + 3, none⟩) hg).trans h.c3, (World.cell?_of_block (a := ⟨g, o + 4, none⟩) hg).trans h.c4, h.v.keep hS⟩
theorem AtV.item {w : World} {S : Nat → Prop} {t : VT} {g o : Nat} {A : Option Addr} {c : Nat} {A' : Option Addr} {c' : Nat} (h : AtV w S t g o A c A' c') {j : Nat} (hj : j < t.items.length) :
    ∃ G off A2 c2 A3 c3, A = some ⟨G, off, none⟩ ∧ S G ∧ AtV w S t.items[j] G (off + j * 5) A2 c2 A3 c3 := by
  obtain ⟨A0, c0, A0', c0', hag, -, -, -, -, -, -, hla⟩ := h.v.shape
  injection hag with hag; injection hag with hag
  injection hag with y0 hag; injection hag with y1 hag; injection hag with y2 hag; injection hag with y3 hag
  injection y3 with y3
  subst y3
  obtain ⟨G, off, hA, hG, hls⟩ := hla (by omega)
  obtain ⟨x0, x1, x2, x3, x4, h0, h1, h2, h3, h4, hx⟩ := hls.at j hj
  obtain ⟨A2, e2, A3, e3, hag2, -⟩ := hx.shape
  injection hag2 with hag2; injection hag2 with hag2
  injection hag2 with z0 hag2; injection hag2 with z1 hag2; injection hag2 with z2 hag2; injection hag2 with z3 hag2; injection hag2 with z4 hag2
  subst z0 z1 z2 z3 z4
  exact ⟨G, off, A2, e2, A3, e3, hA, hG, h0, h1, h2, h3, h4, hx⟩
theorem AtV.names {w : World} {S : Nat → Prop} {t : VT} {g o : Nat} {A : Option Addr} {c : Nat} {A' : Option Addr} {c' : Nat} (h : AtV w S t g o A c A' c') : StrsAt w S A' t.names ∧ t.names.length ≤ 140737488351232 ∧ t.items.length ≤ 140737488351232 := by
  obtain ⟨A0, c0, A0', c0', hag, -, -, -, hl1, hl2, hst, -⟩ := h.v.shape
  injection hag with hag; injection hag with hag
  injection hag with y0 hag; injection hag with y1 hag; injection hag with y2 hag; injection hag with y3 hag; injection hag with y4 hag
  injection y4 with y4
  subst y4
  exact ⟨hst, hl2, hl1⟩
theorem placeT_doc {t : VT} {s : ByteArray} (h : t.kind = 7) : placeT t s = nmI 0 t.names s := by unfold placeT; rw [if_pos h]
theorem placeT_arr {t : VT} {s : ByteArray} (h : t.kind = 6) : placeT t s = if idxI s.data.toList < t.items.length then idxI s.data.toList else -1 := by unfold placeT; rw [if_neg (by omega), if_pos h]
theorem placeT_else {t : VT} {s : ByteArray} (h7 : t.kind ≠ 7) (h6 : t.kind ≠ 6) : placeT t s = -1 := by unfold placeT; rw [if_neg h7, if_neg h6]
set_option maxHeartbeats 1000000 in
set_option maxRecDepth 100000 in
theorem find_any (S : Nat → Prop) (t : VT) (g o : Nat) (A : Option Addr) (c : Nat) (A' : Option Addr) (c' : Nat) (s : ByteArray) (w : World) (h : AtV w S t g o A c A' c') (hg : g < w.heap.size) (hs : s.size ≤ 140737488351232) :
    Calls Tryz.prog 169 #[.pointer (some ⟨g, o, none⟩), .string s] w fun e w' => e = .returned (.int .i64 (placeT t s)) ∧ Below w.heap.size w w' := by
  have H := Lib.hid h
  have c0 := h.c0
  have c4 := h.c4
  clear h
  obtain ⟨R, hR⟩ : ∃ R, R = placeT t s := ⟨_, rfl⟩
  rw [← hR]
  obtain ⟨k, hk⟩ : ∃ k, k = t.kind := ⟨_, rfl⟩
  rw [← hk] at c0
  have HP := Lib.hid hR
  have HK := Lib.hid hk
  clear hk hR
  go_enter Tryz.func169, Tryz.ntmps169
  by_cases h7 : k = 7
  · subst h7
    go_wp2_with fail
    refine (slindex_any A' c' t.names s w S H.out.names.1 H.out.names.2.1).mono ?_
    rintro e w1 ⟨rfl, rfl⟩
    go_wp2_with fail
    go_ret
    exact ⟨by rw [HP.out, placeT_doc HK.out.symm]; rfl, Below.refl _ _⟩
  have b7 := beq_false_of_ne h7
  by_cases h6 : k = 6
  · subst h6
    go_wp2_with fail
    refine (index_any s w hs).mono ?_
    rintro e w1 hi
    unfold IdxR at hi
    cases hix : idxP s.data.toList with
    | none =>
      rw [hix] at hi
      obtain ⟨rfl, hb⟩ := hi
      have HB := Lib.hid hb
      have hI := idxI_none hix
      go_wp2_with fail
      go_ret
      refine ⟨?_, HB.out⟩
      rw [HP.out, placeT_arr HK.out.symm, hI, if_pos (by omega)]; rfl
    | some n =>
      rw [hix] at hi
      obtain ⟨rfl, hb⟩ := hi
      have HB := Lib.hid hb
      have hI := idxI_some hix
      have c3 : w1.cell? ⟨g, o + 3, none⟩ = some (.slice A t.items.length c) := (World.cell?_of_block (a := ⟨g, o + 3, none⟩) (hb.block g hg)).trans H.out.c3
      by_cases hlt : (n : Int) < (t.items.length : Int)
      · have hlt2 : decide ((n : Int) < (t.items.length : Int)) = true := decide_eq_true hlt
        go_wp2_with fail
        go_ret
        refine ⟨?_, HB.out⟩
        rw [HP.out, placeT_arr HK.out.symm, hI, if_pos hlt]; rfl
      · have hlt2 : decide ((n : Int) < (t.items.length : Int)) = false := decide_eq_false hlt
        go_wp2_with fail
        go_ret
        refine ⟨?_, HB.out⟩
        rw [HP.out, placeT_arr HK.out.symm, hI, if_neg (by omega)]; rfl
  have b6 := beq_false_of_ne h6
  go_wp2_with fail
  go_ret
  exact ⟨by rw [HP.out, placeT_else (fun h => h7 (HK.out.trans h)) (fun h => h6 (HK.out.trans h))]; rfl, Below.refl _ _⟩
end Go.Proofs.YtnamdlljdgllmaaGreat

/- Going a path: the program's along, for whatever is done at its end. -/
namespace Go.Proofs.YtnamdlljdgllmaaGreat
set_option linter.unusedVariables false
set_option linter.unusedSimpArgs false
open Go.RowKit
def tailA (A : Option Addr) (c : Nat) : Option Addr := if c = 1 then A else A.map (·.add 1)
theorem StrsAt.tail {w : World} {S : Nat → Prop} {A : Option Addr} {c : Nat} {s : ByteArray} {r : List ByteArray} (h : StrsAt w S A (s :: r)) (hc : r = [] ∨ 1 < c) : StrsAt w S (tailA A c) r := by
  intro hp
  obtain ⟨b, off, rfl, hb, hx⟩ := h (by simp)
  have hc1 : c ≠ 1 := by
    rcases hc with h | h
    · rw [h] at hp; simp at hp
    · omega
  unfold tailA
  rw [if_neg hc1]
  refine ⟨b, off + 1, by simp [add_at], hb, fun i hi => ?_⟩
  have := hx (i + 1) (by simp; omega)
  rw [show off + (i + 1) = off + 1 + i by omega] at this
  simpa using this
set_option maxHeartbeats 2000000 in
set_option maxRecDepth 100000 in
theorem along_any (f : Nat) (caps : Array Value) (R : Ending → World → Prop) (I : World → VT → Nat → Nat → Option Addr → Nat → List ByteArray → Prop) (hcf0 : Enters f)
    (hRv : ∀ e w, R e w → ∃ v, e = .returned v)
    (hat : ∀ w t g o A c p, I w t g o A c p → ∃ S B k B' k', AtV w S t g o B k B' k' ∧ g < w.heap.size ∧ (t.kind = 7 → t.names.length ≤ t.items.length))
    (hstr : ∀ w t g o A c p, I w t g o A c p → ∃ S, StrsAt w S A p ∧ p.length ≤ c ∧ c ≤ 9223372036854775807 ∧ p ≠ [] ∧ (∀ s ∈ p, s.size ≤ 140737488351232))
    (hkeep : ∀ w w' t g o A c p, I w t g o A c p → Below w.heap.size w w' → I w' t g o A c p)
    (hdown : ∀ w t g o A c s r G off B k B' k' S (hj : (placeT t s).toNat < t.items.length), I w t g o A c (s :: r) → r ≠ [] → 0 ≤ placeT t s → AtV w S t g o B k B' k' → B = some ⟨G, off, none⟩ → I w (t.items[(placeT t s).toNat]) G (off + (placeT t s).toNat * 5) (tailA A c) (c - 1) r)
    (hfin : ∀ w t g o A c s r, I w t g o A c (s :: r) → (placeT t s < 0 ∨ r = []) → Calls Tryz.prog f (#[.agg #[.pointer (some ⟨g, o, none⟩), .int .i64 (placeT t s), .slice A (r.length + 1) c]] ++ caps) w R) :
    ∀ (p : List ByteArray) (t : VT) (g o : Nat) (A : Option Addr) (c : Nat) (w : World), I w t g o A c p → Calls Tryz.prog 156 #[.pointer (some ⟨g, o, none⟩), .slice A p.length c, .func (.func f) #[] caps] w R := by
  intro p
  induction p with
  | nil => intro t g o A c w h; obtain ⟨S, -, -, -, h1, -⟩ := hstr _ _ _ _ _ _ _ h; exact absurd rfl h1
  | cons s r ih =>
    intro t g o A c w h
    have hcf : ∀ (args : Array Value) (W : World), (callFunc f args).run Tryz.prog W = .ok (.enter f args) W := hcf0
    obtain ⟨S, B, k, B', k', hv, hg, hkn⟩ := hat _ _ _ _ _ _ _ h
    obtain ⟨S', hst, hpc, hc63, -, hsz⟩ := hstr _ _ _ _ _ _ _ h
    obtain ⟨b, off, rfl, hb, hx⟩ := hst (by simp)
    have hs0 := (hx 0 (by simp)).1
    have hss := hsz s (List.mem_cons_self ..)
    simp only [List.getElem_cons_zero, Nat.add_zero] at hs0
    have H := Lib.hid h
    have HF := Lib.hid (find_any S t g o B k B' k' s w hv hg hss)
    have HIH := Lib.hid ih
    have HFIN := Lib.hid hfin
    have HDOWN := Lib.hid hdown
    have HKEEP := Lib.hid hkeep
    have HAT := Lib.hid hat
    have HKN := Lib.hid hkn
    have hpc' : r.length + 1 ≤ c := by simpa using hpc
    clear h hst hx hv ih hfin hdown hkeep hat hstr hcf0 hkn
    simp only [List.length_cons] at *
    go_enter Tryz.func156, Tryz.ntmps156
    go_wp2_with fail
    refine HF.out.mono ?_
    rintro e w1 ⟨rfl, hb1⟩
    have H1 := Lib.hid (HKEEP.out _ _ _ _ _ _ _ _ H.out hb1)
    obtain ⟨P, hP⟩ : ∃ P, P = placeT t s := ⟨_, rfl⟩
    have hge : -1 ≤ P := by rw [hP]; exact placeT_ge t s
    rw [← hP]
    have HP := Lib.hid hP
    clear hb1 hP HF hs0 H
    by_cases hneg : P < 0
    · have hneg2 : decide (P < 0) = true := decide_eq_true hneg
      go_wp2_with fail
      have hfin := HFIN.out _ _ _ _ _ _ _ _ H1.out (.inl (by rw [← HP.out]; exact hneg))
      rw [← HP.out] at hfin
      refine hfin.mono ?_
      rintro e w2 hr
      obtain ⟨v, rfl⟩ := hRv _ _ hr
      have HR := Lib.hid hr
      clear hr hfin
      go_wp2_with fail
      exact HR.out
    have hneg2 : decide (P < 0) = false := decide_eq_false hneg
    by_cases hr0 : r = []
    · subst hr0
      simp only [List.length_nil, Nat.zero_add] at *
      go_wp2_with fail
      have hfin := HFIN.out _ _ _ _ _ _ _ _ H1.out (.inr rfl)
      rw [← HP.out] at hfin
      refine hfin.mono ?_
      rintro e w2 hr
      obtain ⟨v, rfl⟩ := hRv _ _ hr
      have HR := Lib.hid hr
      clear hr hfin
      go_wp2_with fail
      exact HR.out
    have hrl : 0 < r.length := by cases r with | nil => exact absurd rfl hr0 | cons a b => simp
    have hr1 : (((r.length + 1 : Nat) : Int) == 1) = false := beq_false_of_ne (by omega)
    obtain ⟨S1, B1, k1, B1', k1', hv1, hg1, hkn1⟩ := HAT.out _ _ _ _ _ _ _ H1.out
    have hPn : 0 ≤ placeT t s := by rw [← HP.out]; omega
    have hPl : (placeT t s).toNat < t.items.length := placeT_lt HKN.out hPn
    obtain ⟨G, off1, A2, c2, A3, c3, hB1, hG, hitem⟩ := hv1.item hPl
    subst hB1
    have hI := HDOWN.out _ _ _ _ _ _ _ _ _ _ _ _ _ _ _ hPl H1.out hr0 hPn hv1 rfl
    rw [← HP.out] at hPl
    have hcell := hv1.c3
    have hlen := hv1.names.2.2
    have HI := Lib.hid hI
    obtain ⟨j, rfl⟩ : ∃ j : Nat, P = j := ⟨P.toNat, by omega⟩
    simp only [Int.toNat_natCast] at hPl
    clear hI hv1 hkn1 hitem
    go_wp2_with fail
    refine wp_region_OT Always (fun _ => trivial) (fun _ _ _ _ _ => trivial) [9] (.free [0, 1, 2, 4, 6, 7, 8] (.step 3 (.free [5] (.step 9 (.free [10] (.tail [])))))) (by kernel_rfl) (by kernel_rfl) (fun _ d _ _ _ h => by cases d <;> exact h) ?_
    refine ot_free ?_
    simp only [atNats, List.filterMap_cons, List.filterMap_nil, List.getElem?_toArray, List.getElem?_cons_succ, List.getElem?_cons_zero]
    show wpQuiet _ _ _ _ [_, _, _, _, _, _, _] _
    try simp only [List.getElem_toArray, List.getElem_cons_succ, List.getElem_cons_zero, Act.put, List.setIfInBounds_toArray, List.set_cons_succ, List.set_cons_zero]
    repeat (go_big_quiet_step (fail))
    refine wpQuiet_nil ?_
    have hcd : w1.drew.cell? ⟨g, o + 3, none⟩ = some (.slice (some ⟨G, off1, none⟩) t.items.length k1) := hcell
    refine ot_step rfl (fun K hK => ?_)
    go_simp
    refine hK _ _ (.inr trivial) ?_
    clear hK K hcd hcell
    refine ot_free ?_
    simp only [atNats, List.filterMap_cons, List.filterMap_nil, List.getElem?_toArray, List.getElem?_cons_succ, List.getElem?_cons_zero]
    show wpQuiet _ _ _ _ [_] _
    try simp only [List.getElem_toArray, List.getElem_cons_succ, List.getElem_cons_zero, Act.put, List.setIfInBounds_toArray, List.set_cons_succ, List.set_cons_zero]
    repeat (go_big_quiet_step (fail))
    refine wpQuiet_nil ?_
    refine ot_step rfl (fun K hK => ?_)
    go_simp
    have hj : (placeT t s).toNat = j := by rw [← HP.out]; simp
    have ht : tailA (some ⟨b, off, none⟩) c = some ⟨b, off + 1, none⟩ := by
      unfold tailA
      rw [if_neg (by omega)]
      simp [add_at]
    have hI := HI.out
    simp only [hj] at hI
    rw [ht] at hI
    refine (HIH.out _ _ _ _ _ _ (HKEEP.out _ w1.drew _ _ _ _ _ _ hI ((Below.refl _ _).drew))).mono ?_
    rintro e w2 hr
    obtain ⟨v, rfl⟩ := hRv _ _ hr
    have HR := Lib.hid hr
    refine hK _ _ (.inl (by decide)) ?_
    clear hK K hr hI
    refine ot_free ?_
    simp only [atNats, List.filterMap_cons, List.filterMap_nil, List.getElem?_toArray, List.getElem?_cons_succ, List.getElem?_cons_zero]
    show wpQuiet _ _ _ _ [_] _
    try simp only [List.getElem_toArray, List.getElem_cons_succ, List.getElem_cons_zero, Act.put, List.setIfInBounds_toArray, List.set_cons_succ, List.set_cons_zero]
    repeat (go_big_quiet_step (fail))
    refine wpQuiet_nil ?_
    refine ot_end ?_
    go_wp2_with fail
    exact HR.out
end Go.Proofs.YtnamdlljdgllmaaGreat

/- What is refused ahead of all else; the document's own step and get. -/
namespace Go.Proofs.YtnamdlljdgllmaaGreat
set_option linter.unusedVariables false
set_option linter.unusedSimpArgs false
open Go.RowKit
def docB (t : VT) : Bool := decide (t.kind = 7) && mayT t
def wrongT (t : VT) (p : List ByteArray) : Int := if docB t = false then 20 else if mayP p = false then 40 else 0
set_option maxHeartbeats 1000000 in
set_option maxRecDepth 100000 in
theorem tcheck_any (S : Nat → Prop) (t : VT) (v : Value) (A : Option Addr) (c : Nat) (p : List ByteArray) (w : World) (hS : ∀ b, S b → b < w.heap.size) (h : LV w S t v) (hd : depthT t ≤ 4611686018427387903) (hp : StrsAt w S A p) (hn : p.length ≤ 140737488351232) :
    Calls Tryz.prog 155 #[v, .slice A p.length c] w fun e w' => e = .returned (.int .i64 (wrongT t p)) ∧ Below w.heap.size w w' := by
  obtain ⟨A0, c0, A0', c0', rfl, -, -, -, v1, hb0⟩ := one_var hS h
  have P := Lib.hid v1
  have HB := Lib.hid hb0
  have HPS := Lib.hid hp
  have HW : Hid (wrongT t p = if docB t = false then 20 else if mayP p = false then 40 else 0) := Lib.hid rfl
  have HDB : Hid (docB t = (decide (t.kind = 7) && mayT t)) := Lib.hid rfl
  obtain ⟨W, hW⟩ : ∃ W, W = wrongT t p := ⟨_, rfl⟩
  rw [← hW] at HW ⊢
  obtain ⟨k, hk⟩ : ∃ k, k = t.kind := ⟨_, rfl⟩
  have q0 := v1.x.c0
  rw [← hk] at q0 HDB
  have HK := Lib.hid hk
  clear h v1 hb0 hp hW hk
  go_enter Tryz.func155, Tryz.ntmps155
  have hk' := HK.out
  rw [← hk']
  clear hk'
  by_cases h7 : k = 7
  rotate_left
  · have h8 : (k != 7) = true := by simp [h7]
    have hw : W = 20 := by rw [HW.out, HDB.out, decide_eq_false h7]; simp
    have HWW := Lib.hid hw
    clear hw
    have hb1 := HB.out
    rw [← HK.out] at hb1
    go_wp2_with fail
    go_ret
    exact ⟨by rw [HWW.out]; rfl, hb1⟩
  subst h7
  have hv1 := P.out.v
  have hs1 := P.out.s
  have hb1 := HB.out
  have hx1 := P.out.x
  rw [← HK.out] at hv1 hs1 hb1 hx1
  have q1 := hx1.c1
  have q2 := hx1.c2
  have q3 := hx1.c3
  have q4 := hx1.c4
  have HM := Lib.hid (may_any S t _ _ hs1 hv1 hd)
  have HB1 := Lib.hid hb1
  clear hv1 hs1 hb1 hx1
  go_wp2_with fail
  refine HM.out.mono ?_
  rintro e w2 ⟨rfl, hb2⟩
  have hB2 := toStart HB1.out hb2
  have HB2 := Lib.hid hB2
  have HPP := Lib.hid (pmay_any A c p w2 S (HPS.out.keep fun b hb => hB2.block b (hS b hb)) hn)
  clear hb2 hB2 HM q0 q1 q2 q3 q4
  cases hm : mayT t with
  | false =>
    have hw : W = 20 := by rw [HW.out, HDB.out, hm]; simp
    have HWW := Lib.hid hw
    clear hw
    go_wp2_with fail
    go_ret
    exact ⟨by rw [HWW.out]; rfl, HB2.out⟩
  | true =>
    have hdb : docB t = true := by rw [HDB.out, hm]; simp
    have HD := Lib.hid hdb
    clear hdb
    go_wp2_with fail
    refine HPP.out.mono ?_
    rintro e w3 ⟨rfl, rfl⟩
    cases hp : mayP p with
    | false =>
      have hw : W = 40 := by rw [HW.out, HD.out, hp]; simp
      have HWW := Lib.hid hw
      clear hw
      go_wp2_with fail
      go_ret
      exact ⟨by rw [HWW.out]; rfl, HB2.out⟩
    | true =>
      have hw : W = 0 := by rw [HW.out, HD.out, hp]; simp
      have HWW := Lib.hid hw
      clear hw
      go_wp2_with fail
      go_ret
      exact ⟨by rw [HWW.out]; rfl, HB2.out⟩
end Go.Proofs.YtnamdlljdgllmaaGreat

/- The document's own step and get. -/
namespace Go.Proofs.YtnamdlljdgllmaaGreat
set_option linter.unusedVariables false
set_option linter.unusedSimpArgs false
open Go.RowKit
theorem mayL_get : ∀ {l : List VT}, mayL l = true → ∀ j (hj : j < l.length), mayT l[j] = true
  | a :: r, h, 0, _ => by unfold mayL at h; rw [Bool.and_eq_true] at h; exact h.1
  | a :: r, h, j + 1, hj => by
    unfold mayL at h
    rw [Bool.and_eq_true] at h
    exact mayL_get h.2 j (by simpa using hj)
theorem may_nl {t : VT} (h : mayT t = true) (hk : t.kind = 7) : t.names.length ≤ t.items.length := by
  cases t with
  | mk k i s l ns =>
    have h1 := (may_names h).1 hk
    simp only [VT.names, VT.items]
    omega
theorem may_item {t : VT} (h : mayT t = true) {j : Nat} (hj : j < t.items.length) : mayT t.items[j] = true := by
  cases t with
  | mk k i s l ns => exact mayL_get (may_names h).2.2 j hj
end Go.Proofs.YtnamdlljdgllmaaGreat

/- Texts cut at points, and put together with points between. No conditions on the program. -/
namespace Go.Proofs.YtnamdlljdgllmaaGreat
set_option linter.unusedVariables false
set_option linter.unusedSimpArgs false
open Go.RowKit

theorem mayP_iff (ns : List ByteArray) : mayP ns = true ↔ 1 ≤ ns.length ∧ ns.length ≤ 8 ∧ ∀ s ∈ ns, nameB s.data.toList = true := by
  unfold mayP
  simp only [Bool.and_eq_true, decide_eq_true_eq, List.all_eq_true]
  exact ⟨fun h => ⟨h.1.1, h.1.2, h.2⟩, fun h => ⟨⟨h.1, h.2.1⟩, h.2.2⟩⟩
end Go.Proofs.YtnamdlljdgllmaaGreat

/- Texts cut at points, by the program and by the document. -/
namespace Go.Proofs.YtnamdlljdgllmaaGreat
set_option linter.unusedVariables false
set_option linter.unusedSimpArgs false
set_option maxRecDepth 100000
open Go.RowKit

theorem Tryz.infoStrP : (Tryz.prog.info? 9).map (fun i => (i.zero, i.size, i.bytes)) = some (some (.string ByteArray.empty), 1, 16) := by kernel_rfl
def OwnS (w : World) (B : Nat) (v : Value) (ns : List ByteArray) : Prop := w.ownsRow B 9 1 v ns.length (ns.map Value.string)
theorem OwnS.nil (w : World) (B : Nat) : OwnS w B (.slice none 0 0) [] := World.ownsRow_nil _ _ _ _
theorem OwnS.opens {w : World} {B : Nat} {v : Value} {ns : List ByteArray} (h : OwnS w B v ns) (hs : ∀ s ∈ ns, s.size ≤ 140737488351232) :
    ∃ A c, v = .slice A ns.length c ∧ ns.length ≤ c ∧ StrsAt w (fun b => B ≤ b ∧ b < w.heap.size) A ns := by
  have hlt := World.ownsRow.lt h
  have hcl := fun g hg => World.ownsRow.cells (g := g) h hg
  rcases h.2 with ⟨rfl, h0⟩ | ⟨g, cap, cur, rfl, hB, hh, hc, -, -, -⟩
  · obtain rfl := List.eq_nil_of_length_eq_zero h0
    exact ⟨none, 0, rfl, Nat.le_refl _, StrsAt.nil⟩
  · refine ⟨some ⟨g, 0, none⟩, cap, rfl, hc, fun hp => ⟨g, 0, rfl, hlt g rfl, fun i hi => ⟨?_, hs _ (List.getElem_mem hi)⟩⟩⟩
    have h1 := hcl g rfl i (.string ns[i]) (by simp [hi])
    rw [add_at] at h1
    exact h1

end Go.Proofs.YtnamdlljdgllmaaGreat

/- Lists of texts put behind one another, by the library. -/
namespace Go.Proofs.YtnamdlljdgllmaaGreat
set_option linter.unusedVariables false
set_option linter.unusedSimpArgs false
set_option maxRecDepth 100000
open Go.RowKit

theorem wpList_append_strs {w : World} {ops : Array Oper} {rest : List Oper} {o : Oper} {a : Act} {Q : Exit → Act → World → Prop} (hgd : o.guard = none) (s x : Operand)
    (ho : o.op = .call { callee := .builtin .append, args := #[s, x], argTypes := #[23, 23] }) (B : Nat) (v : Value) (ns : List ByteArray) (hs : a.eval s = v) (hown : OwnS w B v ns)
    (A : Option Addr) (c : Nat) (ms : List ByteArray) (S : Nat → Prop) (hx : a.eval x = .slice A ms.length c) (hA : A = none → c = 0) (hst : StrsAt w S A ms) (hB : B ≤ w.heap.size) (hl : ns.length + ms.length ≤ 8796093021952)
    (K : ∀ v' w', OwnS w' B v' (ns ++ ms) → w.grownBy w' v.ownBlock → wpList Tryz.prog ops Q rest (a.put o.dst v') w') : wpList Tryz.prog ops Q (o :: rest) a w := by
  obtain ⟨i0, hi, hz0, hz1, hz2⟩ := info_parts Tryz.infoStrP
  cases A with
  | none =>
    obtain rfl : ms = [] := by
      match ms, hst with
      | [], _ => rfl
      | m :: r, hst => obtain ⟨_, _, h, _⟩ := hst (by simp); cases h
    obtain rfl := hA rfl
    refine wpList_append_own_none hgd s x 23 ho B 9 i0 1 Tryz.underlying23 hi v ns.length (ns.map Value.string) hs hown hx ?_
    exact K v w (by rw [List.append_nil]; exact hown) ⟨rfl, rfl, rfl, Nat.le_refl _, fun _ _ _ => rfl⟩
  | some ad =>
    refine wpList_append_own _ hgd s x 23 ho B 9 i0 (.string ByteArray.empty) 1 16 Tryz.underlying23 hi hz0 hz1 hz2 rfl (by decide) v ns.length (ns.map Value.string) hs hown ad ms.length c (ms.map Value.string) hx (by simp) ?_ ?_ (by unfold maxLen; omega) (by omega) hB ?_
    · intro j u hj
      have hjl : j < ms.length := by have := (List.getElem?_eq_some_iff.1 hj).1; simpa using this
      obtain ⟨b, off, hAd, -, hc⟩ := hst (by omega)
      injection hAd with hAd
      subst hAd
      rw [add_at, (hc j hjl).1]
      simpa [List.getElem?_map, List.getElem?_eq_getElem hjl] using hj
    · intro u hu; obtain ⟨_, _, rfl⟩ := List.mem_map.1 hu; rfl
    · intro v' w' h1 h2 _
      exact K v' w' (by unfold OwnS; rw [List.length_append, List.map_append]; exact h1) h2

end Go.Proofs.YtnamdlljdgllmaaGreat

/- The library's Clone of steps. -/
namespace Go.Proofs.YtnamdlljdgllmaaGreat
set_option linter.unusedVariables false
set_option linter.unusedSimpArgs false
open Go.RowKit
set_option maxRecDepth 100000
theorem strs_ne_nil (a : Addr) (n c : Nat) (w : World) : (binOp .eql 23 (.slice (some a) n c) (.slice none 0 0)).run Tryz.prog w = .ok (.bool false) w := by kernel_rfl
end Go.Proofs.YtnamdlljdgllmaaGreat

/- Items put behind names. -/
namespace Go.Proofs.YtnamdlljdgllmaaGreat
set_option linter.unusedVariables false
set_option linter.unusedSimpArgs false
set_option maxRecDepth 100000
open Go.RowKit

set_option maxHeartbeats 4000000 in
set_option maxRecDepth 100000 in
theorem putItems7 (num : Int) (txs : ByteArray) (its : List VT) (nms : List ByteArray) (hnl : nms.length = its.length) (ih : ∀ x ∈ its, PutOK x) (S : Nat → Prop) (v bv : Value) (B : Nat) (l : List UInt8) (w : World) (hS : ∀ x, S x → x < B) (hB : B ≤ w.heap.size) (h : LV w S (.mk 7 num txs its nms) v) (hown : OwnB w B bv l)
    (hlen : l.length + (grp its.length ++ encL true nms its).length ≤ 140737488355328) :
    Calls Tryz.prog 161 #[bv, v] w (PutsR B (l ++ (grp its.length ++ encL true nms its)) w) := by
  obtain ⟨A, c, A', c', rfl, -, -, -, hl1, hl2, hN, hA⟩ := h.shape
  simp only [VT.kind, VT.num, VT.text, VT.items, VT.names] at *
  have HX := Lib.hid (Box.new (w := w) (.int .i64 7) (.int .i64 num) (.string txs) (.slice A its.length c) (.slice A' nms.length c'))
  have HB0 := Lib.hid (below_box (w := w) (.cells #[.int .i64 7, .int .i64 num, .string txs, .slice A its.length c, .slice A' nms.length c'] 29))
  have HO := Lib.hid (OwnB.below hown HB0.out)
  have HA := Lib.hid hA
  have HLEN := Lib.hid hlen
  have HNL := Lib.hid hnl
  have HN := Lib.hid hN
  obtain ⟨full, hfull⟩ : ∃ full, full = grp its.length ++ encL true nms its := ⟨_, rfl⟩
  have HF := Lib.hid hfull
  rw [← hfull] at HLEN ⊢
  clear h hA hown hlen hfull hnl hN
  go_enter Tryz.func161, Tryz.ntmps161
  have k3 := HX.out.c3
  go_wp2_with fail
  refine (count_any its.length _ (by omega)).mono ?_
  rintro e w1 (⟨_, _, x, rfl, hx, hb⟩ | ⟨h, _⟩)
  rotate_left
  · omega
  rw [Int.toNat_natCast] at hx
  have HR := Lib.hid hx.rd
  have hb1 := toStart HB0.out hb
  have HB1 := Lib.hid (hb1.mono hB)
  have HK1 := Lib.hid (k8_below hb1)
  have HO1 := Lib.hid (HO.out.below hb)
  have HX1 := Lib.hid (HX.out.call hb)
  have hz1 := Nat.le_trans hB hb1.size
  have hg := grp_length its.length
  have hgl : l.length + (grp its.length).length ≤ 140737488355328 := by have h1 := HLEN.out; rw [HF.out, List.length_append] at h1; omega
  clear hb hb1 hx k3 HB0 HO HX
  go_wp2_with (at_builtin; go_must (refine wpList_append_bytes rfl _ _ rfl B _ l rfl HO1.out w1.heap.size x (grp its.length) rfl HR.out hz1 hgl ?_))
  intro v2 w2 hv2 hg2
  have HB2 := Lib.hid (below_own HB1.out HO1.out hz1 hg2)
  have HK2 := Lib.hid (HK1.out.trans (k8_grown HO1.out hg2))
  have HX2 := Lib.hid (HX1.out.k8 (k8_grown HO1.out hg2))
  have HO2 := Lib.hid hv2
  have k3 := HX2.out.c3
  clear hg2 hv2 HB1 HK1 HX1 HO1 HR
  go_wp2_with fail
  go_loopw [0, 22] (fun b i wr => ∃ (j : Nat) (X : List UInt8), i = .int .i64 j ∧ j ≤ its.length ∧ Hid (OwnB wr B b (l ++ X)) ∧ Hid (X ++ encL true (nms.drop j) (its.drop j) = full) ∧ Hid (Below B w wr) ∧ Hid (K8 w wr) ∧ Hid (Box wr w.heap.size (.int .i64 7) (.int .i64 num) (.string txs) (.slice A its.length c) (.slice A' nms.length c'))) (fun _ i _ => its.length - (intOf i).toNat)
  case atStart => exact ⟨0, grp its.length, rfl, Nat.zero_le _, HO2, HF.out.symm, HB2, HK2, HX2⟩
  case round =>
    obtain ⟨j, X, rfl, hj, HO, HE, HB, HK, HX⟩ := hrel
    clear HX2 HK2 HB2 HO2 k3
    by_cases hlt : j < its.length
    · obtain ⟨p, o, A2, e2, A3, e3, rfl, h0, h1, h2, h3, h4, hx⟩ := item_atB hS HA.out HB.out j hlt
      have k0 : wr.cell? ⟨w.heap.size, 0, none⟩ = some (.int .i64 7) := HX.out.c0
      obtain ⟨p', o', rfl, hpB, t1, hts⟩ := text_atB hS HN.out HB.out j (by rw [HNL.out]; exact hlt)
      have hpl : p' < wr.heap.size := Nat.lt_of_lt_of_le (Nat.lt_of_lt_of_le hpB (Nat.le_trans hB HB.out.size)) (Nat.le_refl _)
      have k4 : wr.cell? ⟨w.heap.size, 4, none⟩ = some (.slice (some ⟨p', o', none⟩) nms.length c') := HX.out.c4
      have hjn : j < nms.length := by rw [HNL.out]; exact hlt
      obtain ⟨sn, hsn⟩ : ∃ s, s = nms[j] := ⟨_, rfl⟩
      rw [← hsn] at t1 hts
      have HSN := Lib.hid hsn
      have HTS := Lib.hid hts
      have hwl : w.heap.size < wr.heap.size := HX.out.lt
      have HV := Lib.hid hx
      clear hx hts hsn
      have hbx := below_box (w := wr) (.cells #[.int .i64 its[j].kind, .int .i64 its[j].num, .string its[j].text, .slice A2 its[j].items.length e2, .slice A3 its[j].names.length e3] 29)
      have hBz : B ≤ wr.heap.size := Nat.le_trans hB HB.out.size
      have HBX := Lib.hid (Box.new (w := wr) (.int .i64 its[j].kind) (.int .i64 its[j].num) (.string its[j].text) (.slice A2 its[j].items.length e2) (.slice A3 its[j].names.length e3))
      have HE2 : Hid (X ++ (txt sn ++ (encT its[j] ++ encL true (nms.drop (j + 1)) (its.drop (j + 1)))) = full) := Lib.hid (by
        have h1 := HE.out
        rw [encL_step true hlt (fun _ => hjn)] at h1
        have h2 : nms.getD j eS = sn := by rw [HSN.out]; simp [hjn]
        rw [h2] at h1
        simpa using h1)
      have HLE1 : Hid ((l ++ X).length + (txt sn).length ≤ 140737488355328) := Lib.hid (by
        have h1 := HLEN.out
        rw [← HE2.out] at h1
        simp only [List.length_append] at h1 ⊢; omega)
      have HLE : Hid ((l ++ (X ++ txt sn)).length + (encT its[j]).length ≤ 140737488355328) := Lib.hid (by
        have h1 := HLEN.out
        rw [← HE2.out] at h1
        simp only [List.length_append] at h1 ⊢; omega)
      have HOx := Lib.hid (OwnB.below HO.out hbx)
      have HBx := Lib.hid (HB.out.trans (hbx.mono hBz))
      have HKx := Lib.hid (HK.out.trans (k8_below hbx))
      have HXx := Lib.hid (HX.out.call hbx)
      have HVx : Hid (LV (wr.alloc (.cells #[.int .i64 its[j].kind, .int .i64 its[j].num, .string its[j].text, .slice A2 its[j].items.length e2, .slice A3 its[j].names.length e3] 29)) S its[j] _) := Lib.hid (HV.out.keep fun b hb => (hbx.mono hBz).block b (hS b hb))
      have hz3 : wr.heap.size < (wr.alloc (.cells #[.int .i64 its[j].kind, .int .i64 its[j].num, .string its[j].text, .slice A2 its[j].items.length e2, .slice A3 its[j].names.length e3] 29)).heap.size := by simp
      go_wp2_with fail
      generalize hW : wr.alloc (.cells #[.int .i64 its[j].kind, .int .i64 its[j].num, .string its[j].text, .slice A2 its[j].items.length e2, .slice A3 its[j].names.length e3] 29) = W at *
      clear hbx h0 h1 h2 h3 h4 k0 k4 t1 HO HB HK HX HV hW
      refine (text_any sn _ HTS.out).mono ?_
      rintro e w4 ⟨x4, rfl, hx4, hb4⟩
      have HR4 := Lib.hid hx4.rd
      have HO4 := Lib.hid (OwnB.below HOx.out hb4)
      have HB4 := Lib.hid (HBx.out.trans (hb4.mono (by have := HBx.out.size; omega)))
      have HK4 := Lib.hid (HKx.out.trans (k8_below hb4))
      have HX4 := Lib.hid (HXx.out.call hb4)
      have HBX4 := Lib.hid (HBX.out.call hb4)
      have HV4 : Hid (LV w4 S its[j] _) := Lib.hid (HVx.out.keep fun b hb => (hb4.mono (by have := HBx.out.size; omega : B ≤ W.heap.size)).block b (hS b hb))
      have hz4 : B ≤ w4.heap.size := Nat.le_trans hB HB4.out.size
      clear hx4 hb4 HOx HBx HKx HXx HBX HVx
      go_wp2_with (at_builtin; go_must (refine wpList_append_bytes rfl _ _ rfl B _ (l ++ X) rfl HO4.out w4.heap.size x4 (txt sn) rfl HR4.out hz4 HLE1.out ?_))
      intro v5 w5 hv5 hg5
      have HB5 := Lib.hid (below_own HB4.out HO4.out hz4 hg5)
      have hk5 := k8_grown HO4.out hg5
      have hb5 := below_own (Below.refl B w4) HO4.out hz4 hg5
      have HK5 := Lib.hid (HK4.out.trans hk5)
      have HX5 := Lib.hid (HX4.out.k8 hk5)
      have HBX5 := Lib.hid (HBX4.out.k8 hk5)
      have HO5 : Hid (OwnB w5 B v5 (l ++ (X ++ txt sn))) := Lib.hid hv5
      have HV5 : Hid (LV w5 S its[j] _) := Lib.hid (HV4.out.keep fun b hb => hb5.block b (hS b hb))
      have q0 := HBX5.out.c0
      have q1 := HBX5.out.c1
      have q2 := HBX5.out.c2
      have q3 := HBX5.out.c3
      have q4 := HBX5.out.c4
      clear hv5 hg5 hk5 hb5 HB4 HK4 HX4 HBX4 HO4 HR4 HV4
      go_wp2_with fail
      have HC := Lib.hid (ih its[j] (List.getElem_mem hlt) S _ _ B (l ++ (X ++ txt sn)) _ hS (Nat.le_trans hB HB5.out.size) HV5.out HO5.out HLE.out)
      clear q0 q1 q2 q3 q4
      refine HC.out.mono ?_
      rintro e w3 ⟨v3, rfl, hv3, hb3, hk3⟩
      have HO3 : Hid (OwnB w3 B v3 (l ++ (X ++ txt sn ++ encT its[j]))) := Lib.hid (by rw [List.append_assoc] at hv3; exact hv3)
      have HB3 := Lib.hid (HB5.out.trans hb3)
      have HK3 := Lib.hid (HK5.out.trans hk3)
      have HX3 := Lib.hid (HX5.out.k8 hk3)
      have HE3 : Hid (X ++ txt sn ++ encT its[j] ++ encL true (nms.drop (j + 1)) (its.drop (j + 1)) = full) := Lib.hid (by rw [← HE2.out]; simp)
      clear hv3 hb3 hk3 HC HE HE2
      go_wp2_with fail
      go_roundw
      case rel => exact ⟨j + 1, X ++ txt sn ++ encT its[j], by go_num, by omega, HO3, HE3, HB3, HK3, HX3⟩
      case measure => simp [intOf]; omega
    · obtain rfl : j = its.length := by omega
      go_wp2_with fail
      go_ret
      exact ⟨_, rfl, by have h1 := HE.out; rw [List.drop_of_length_le (Nat.le_refl _), encL_nil, List.append_nil] at h1; rw [← h1]; exact HO.out, HB.out, HK.out⟩
end Go.Proofs.YtnamdlljdgllmaaGreat
