/- What lies at a path: plain; and the steps of a path, one at a time. -/
import Derived.Test.YtpcdngpppjdgcaaGreatKRefT
import Derived.Test.YtpcdngpppjdgcaaGreatKRegR
import Derived.Test.YtpcdngpppjdgcaaGreatKValM
import Derived.Test.YtpcdngpppjdgcaaGreatKCodV
import Derived.Test.YtpcdngpppjdgcaaGreatKValP
import Derived.Test.YtpcdngpppjdgcaaGreatKCodM
import Derived.Lib.Join
import Derived.Outline
import Derived.StillTailTactics
import Derived.Lib.DecodeN
import Derived.Laws.AppendOwnNone
import Derived.Lib.AppendZerosOnto
import Derived.Lib.AppendZeros
import Derived.Lib.SliceRun
namespace Go.Proofs.YtpcdngpppjdgcaaGreat
open Lib (hid)
set_option linter.unusedVariables false
set_option linter.unusedSimpArgs false
open Go.RowKit

def nmI (k : Nat) : List ByteArray → ByteArray → Int
  | [], _ => -1
  | a :: r, s => if a = s then k else nmI (k + 1) r s
def placeT (t : VT) (s : ByteArray) : Int :=
  if t.kind = 7 then nmI 0 t.names s else if t.kind = 6 then (if idxI s.data.toList < t.items.length then idxI s.data.toList else -1) else -1
def getT : VT → List ByteArray → Option VT
  | t, [] => some t
  | t, s :: r => if placeT t s < 0 then none else match t.items[(placeT t s).toNat]? with
    | some u => getT u r
    | none => none
theorem nmI_hit {s : ByteArray} : ∀ {l : List ByteArray} {j k : Nat} (h : j < l.length), l[j] = s → (∀ i (hi : i < l.length), i < j → l[i] ≠ s) → nmI k l s = ((k + j : Nat) : Int)
  | a :: r, 0, k, _, h1, _ => by
    unfold nmI
    rw [if_pos (by simpa using h1)]; simp
  | a :: r, j + 1, k, h, h1, h2 => by
    unfold nmI
    rw [if_neg (by have := h2 0 (by simp) (by omega); simpa using this)]
    have h' : j < r.length := by simpa using h
    rw [nmI_hit (k := k + 1) h' (by simpa using h1) (fun i hi hij => by have := h2 (i + 1) (by simp; omega) (by omega); simpa using this)]
    congr 1; omega
theorem nmI_miss {s : ByteArray} : ∀ {l : List ByteArray} {k : Nat}, (∀ i (hi : i < l.length), l[i] ≠ s) → nmI k l s = -1
  | [], _, _ => rfl
  | a :: r, k, h => by
    unfold nmI
    rw [if_neg (by have := h 0 (by simp); simpa using this)]
    exact nmI_miss fun i hi => by have := h (i + 1) (by simp; omega); simpa using this
theorem nmI_lt {s : ByteArray} : ∀ {l : List ByteArray} {k : Nat}, -1 ≤ nmI k l s ∧ nmI k l s < ((k + l.length : Nat) : Int)
  | [], k => by unfold nmI; constructor <;> simp <;> omega
  | a :: r, k => by
    unfold nmI
    split
    · constructor <;> simp <;> omega
    · have h := nmI_lt (s := s) (l := r) (k := k + 1)
      constructor
      · exact h.1
      · simp only [List.length_cons]; have := h.2; omega
theorem placeT_lt {t : VT} {s : ByteArray} (hn : t.kind = 7 → t.names.length ≤ t.items.length) (h : 0 ≤ placeT t s) : (placeT t s).toNat < t.items.length := by
  unfold placeT at h ⊢
  split at h
  · next hk =>
    rw [if_pos hk]
    have h1 := (nmI_lt (s := s) (l := t.names) (k := 0)).2
    have := hn hk
    omega
  · next hk =>
    rw [if_neg hk]
    split at h
    · next h6 =>
      rw [if_pos h6]
      split at h
      · next hl => rw [if_pos hl]; omega
      · omega
    · omega

set_option maxHeartbeats 1000000 in
set_option maxRecDepth 100000 in
theorem slindex_any (A : Option Addr) (c : Nat) (ns : List ByteArray) (s : ByteArray) (w : World) (S : Nat → Prop) (h : StrsAt w S A ns) (hn : ns.length ≤ 140737488351232) : Calls Tryz.prog 121 #[.slice A ns.length c, .string s] w fun e w' => e = .returned (.int .i64 (nmI 0 ns s)) ∧ w = w' := by
  have HS := hid h
  have HN := hid hn
  clear h
  go_enter Tryz.func121, Tryz.ntmps121
  go_wp2_with fail
  go_loopw [8] (fun i wr => ∃ k : Nat, i = .int .i64 k ∧ k ≤ ns.length ∧ wr = w ∧ Hid (∀ j (h : j < ns.length), j < k → ns[j] ≠ s)) (fun i _ => ns.length - (intOf i).toNat)
  case atStart => exact ⟨0, rfl, by omega, rfl, fun j _ h => absurd h (by omega)⟩
  case round =>
    obtain ⟨k, rfl, hk, rfl, HJ⟩ := hrel
    by_cases hlt : k < ns.length
    · obtain ⟨p, o, rfl, -, hc⟩ := HS.out (by omega)
      have hck := (hc k hlt).1
      clear hc
      by_cases hb : s = ns[k]
      · have hb2 : (s.toList == ns[k].toList) = true := by rw [str_beq]; exact decide_eq_true hb
        have HB := hid hb
        clear hb
        go_wp2_with fail
        go_ret
        refine ⟨?_, rfl⟩
        rw [nmI_hit (k := 0) hlt HB.out.symm (fun i hi hij => HJ.out i hi hij)]
        simp
      · have hb2 : (s.toList == ns[k].toList) = false := by rw [str_beq]; exact decide_eq_false hb
        have HB := hid hb
        clear hb
        go_wp2_with fail
        go_roundw
        case rel => exact ⟨k + 1, by go_num, by omega, trivial, fun j h hjk => by
          by_cases e : j = k
          · subst e; exact fun h => HB.out h.symm
          · exact HJ.out j h (by omega)⟩
        case measure => simp [intOf]; omega
    · go_wp2_with fail
      go_ret
      exact ⟨by rw [nmI_miss fun j h => HJ.out j h (by omega)]; rfl, rfl⟩

structure AtV (w : World) (S : Nat → Prop) (t : VT) (g o : Nat) (A : Option Addr) (c : Nat) (A' : Option Addr) (c' : Nat) : Prop where
  c0 : w.cell? ⟨g, o, none⟩ = some (.int .i64 t.kind)
  c1 : w.cell? ⟨g, o + 1, none⟩ = some (.int .i64 t.num)
  c2 : w.cell? ⟨g, o + 2, none⟩ = some (.string t.text)
  c3 : w.cell? ⟨g, o + 3, none⟩ = some (.slice A t.items.length c)
  c4 : w.cell? ⟨g, o + 4, none⟩ = some (.slice A' t.names.length c')
  v : LV w S t (.agg #[.int .i64 t.kind, .int .i64 t.num, .string t.text, .slice A t.items.length c, .slice A' t.names.length c'])
theorem AtV.of_box {w : World} {S : Nat → Prop} {t : VT} {g : Nat} {A : Option Addr} {c : Nat} {A' : Option Addr} {c' : Nat} (h : Box w g (.int .i64 t.kind) (.int .i64 t.num) (.string t.text) (.slice A t.items.length c) (.slice A' t.names.length c'))
    (hv : LV w S t (.agg #[.int .i64 t.kind, .int .i64 t.num, .string t.text, .slice A t.items.length c, .slice A' t.names.length c'])) : AtV w S t g 0 A c A' c' := ⟨h.c0, h.c1, h.c2, h.c3, h.c4, hv⟩
theorem AtV.item {w : World} {S : Nat → Prop} {t : VT} {g o : Nat} {A : Option Addr} {c : Nat} {A' : Option Addr} {c' : Nat} (h : AtV w S t g o A c A' c') {j : Nat} (hj : j < t.items.length) :
    ∃ G off A2 c2 A3 c3, A = some ⟨G, off, none⟩ ∧ S G ∧ AtV w S t.items[j] G (off + j * 5) A2 c2 A3 c3 := by
  obtain ⟨A0, c0, A0', c0', hag, -, -, -, -, -, -, hla⟩ := h.v.shape
  injection hag with hag; injection hag with hag
  injection hag with y0 hag; injection hag with y1 hag; injection hag with y2 hag; injection hag with y3 hag
  injection y3 with y3
  subst y3
  obtain ⟨G, off, hA, hG, hls⟩ := hla (by omega)
  obtain ⟨x0, x1, x2, x3, x4, h0, h1, h2, h3, h4, hx⟩ := hls.at j hj
  obtain ⟨A2, e2, A3, e3, hag2, -⟩ := hx.shape
  injection hag2 with hag2; injection hag2 with hag2
  injection hag2 with z0 hag2; injection hag2 with z1 hag2; injection hag2 with z2 hag2; injection hag2 with z3 hag2; injection hag2 with z4 hag2
  subst z0 z1 z2 z3 z4
  exact ⟨G, off, A2, e2, A3, e3, hA, hG, h0, h1, h2, h3, h4, hx⟩
theorem AtV.names {w : World} {S : Nat → Prop} {t : VT} {g o : Nat} {A : Option Addr} {c : Nat} {A' : Option Addr} {c' : Nat} (h : AtV w S t g o A c A' c') : StrsAt w S A' t.names ∧ t.names.length ≤ 140737488351232 ∧ t.items.length ≤ 140737488351232 := by
  obtain ⟨A0, c0, A0', c0', hag, -, -, -, hl1, hl2, hst, -⟩ := h.v.shape
  injection hag with hag; injection hag with hag
  injection hag with y0 hag; injection hag with y1 hag; injection hag with y2 hag; injection hag with y3 hag; injection hag with y4 hag
  injection y4 with y4
  subst y4
  exact ⟨hst, hl2, hl1⟩
theorem placeT_doc {t : VT} {s : ByteArray} (h : t.kind = 7) : placeT t s = nmI 0 t.names s := by unfold placeT; rw [if_pos h]
theorem placeT_arr {t : VT} {s : ByteArray} (h : t.kind = 6) : placeT t s = if idxI s.data.toList < t.items.length then idxI s.data.toList else -1 := by unfold placeT; rw [if_neg (by omega), if_pos h]
theorem placeT_else {t : VT} {s : ByteArray} (h7 : t.kind ≠ 7) (h6 : t.kind ≠ 6) : placeT t s = -1 := by unfold placeT; rw [if_neg h7, if_neg h6]
set_option maxHeartbeats 2000000 in
set_option maxRecDepth 100000 in
theorem place_any (S : Nat → Prop) (t : VT) (v : Value) (s : ByteArray) (w : World) (hS : ∀ b, S b → b < w.heap.size) (h : LV w S t v) (hs : s.size ≤ 140737488351232) :
    Calls Tryz.prog 117 #[v, .string s] w fun e w' => e = .returned (.int .i64 (placeT t s)) ∧ Below w.heap.size w w' := by
  obtain ⟨A0, c0, A0', c0', rfl, hl, -, hst, v1, hb0⟩ := one_var hS h
  have P := hid v1
  have HB := hid hb0
  have HST := hid hst
  obtain ⟨R, hR⟩ : ∃ R, R = placeT t s := ⟨_, rfl⟩
  rw [← hR]
  obtain ⟨k, hk⟩ : ∃ k, k = t.kind := ⟨_, rfl⟩
  have q0 := v1.x.c0
  have q3 := v1.x.c3
  have q4 := v1.x.c4
  rw [← hk] at q0 q3 q4
  have HK := hid hk
  have HP := hid hR
  have hb1 := hb0
  rw [← hk] at hb1
  have HB1 := hid hb1
  have hl1 := hl.1
  have hl2 := hl.2
  clear h v1 hb0 hk hR hst hb1
  go_enter Tryz.func117, Tryz.ntmps117
  have hk' := HK.out
  rw [← hk']
  clear hk'
  by_cases h6 : k = 6
  · subst h6
    go_wp2_with fail
    refine (rindex_any s _ hs).mono ?_
    rintro e w1 ⟨rfl, rfl⟩
    by_cases hlt : idxI s.data.toList < (t.items.length : Int)
    · have hlt2 : decide (idxI s.data.toList < (t.items.length : Int)) = true := decide_eq_true hlt
      go_wp2_with fail
      go_ret
      refine ⟨?_, HB1.out⟩
      rw [HP.out, placeT_arr HK.out.symm, if_pos hlt]; rfl
    · have hlt2 : decide (idxI s.data.toList < (t.items.length : Int)) = false := decide_eq_false hlt
      go_wp2_with fail
      go_ret
      refine ⟨?_, HB1.out⟩
      rw [HP.out, placeT_arr HK.out.symm, if_neg (by omega)]; rfl
  have b6 := beq_false_of_ne h6
  by_cases h7 : k = 7
  rotate_left
  · have b7 := beq_false_of_ne h7
    go_wp2_with fail
    go_ret
    refine ⟨?_, HB1.out⟩
    rw [HP.out, placeT_else (fun h => h7 (HK.out.trans h)) (fun h => h6 (HK.out.trans h))]; rfl
  subst h7
  go_wp2_with fail
  generalize hW : w.alloc (.cells #[.int .i64 7, .int .i64 t.num, .string t.text, .slice A0 t.items.length c0, .slice A0' t.names.length c0'] 25) = w1 at *
  go_loopw [6] (fun i wr => ∃ j : Nat, i = .int .i64 j ∧ j ≤ t.names.length ∧ wr = w1 ∧ Hid (∀ i (h : i < t.names.length), i < j → t.names[i] ≠ s)) (fun i _ => t.names.length - (intOf i).toNat)
  case atStart => exact ⟨0, rfl, by omega, rfl, fun j _ h => absurd h (by omega)⟩
  case round =>
    obtain ⟨j, rfl, hj, rfl, HJ⟩ := hrel
    by_cases hlt : j < t.names.length
    · obtain ⟨p, o, rfl, hp, hc⟩ := HST.out (by omega)
      have hck : wr.cell? ⟨p, o + j, none⟩ = some (.string t.names[j]) := (HB1.out.cell (p := ⟨p, o + j, none⟩) (hS p hp)).trans (hc j hlt).1
      clear hc
      by_cases hb : t.names[j] = s
      · have hb2 : (t.names[j].toList == s.toList) = true := by rw [str_beq]; exact decide_eq_true hb
        have HE := hid hb
        clear hb
        go_wp2_with fail
        go_ret
        refine ⟨?_, HB1.out⟩
        rw [HP.out, placeT_doc HK.out.symm, nmI_hit (k := 0) hlt HE.out (fun i hi hij => HJ.out i hi hij)]
        simp
      · have hb2 : (t.names[j].toList == s.toList) = false := by rw [str_beq]; exact decide_eq_false hb
        have HE := hid hb
        clear hb
        go_wp2_with fail
        go_roundw
        case rel => exact ⟨j + 1, by go_num, by omega, trivial, fun i h hij => by
          by_cases e : i = j
          · subst e; exact HE.out
          · exact HJ.out i h (by omega)⟩
        case measure => simp [intOf]; omega
    · go_wp2_with fail
      go_ret
      refine ⟨?_, HB1.out⟩
      rw [HP.out, placeT_doc HK.out.symm, nmI_miss fun i h => HJ.out i h (by omega)]; rfl
theorem mayL_get : ∀ {l : List VT}, mayL l = true → ∀ j (hj : j < l.length), mayT l[j] = true
  | a :: r, h, 0, _ => by unfold mayL at h; rw [Bool.and_eq_true] at h; exact h.1
  | a :: r, h, j + 1, hj => by
    unfold mayL at h
    rw [Bool.and_eq_true] at h
    exact mayL_get h.2 j (by simpa using hj)
theorem may_nl {t : VT} (h : mayT t = true) (hk : t.kind = 7) : t.names.length ≤ t.items.length := by
  cases t with
  | mk k i s l ns =>
    have h1 := (may_names h).1 hk
    simp only [VT.names, VT.items]
    omega
theorem may_item {t : VT} (h : mayT t = true) {j : Nat} (hj : j < t.items.length) : mayT t.items[j] = true := by
  cases t with
  | mk k i s l ns => exact mayL_get (may_names h).2.2 j hj
def okT (t : VT) (p : List ByteArray) : Bool := (getT t p).isSome
def gotT (t : VT) (p : List ByteArray) : VT := (getT t p).getD (.mk 0 0 ⟨#[]⟩ [] [])
theorem getT_neg {t : VT} {s : ByteArray} {r : List ByteArray} (h : placeT t s < 0) : getT t (s :: r) = none := by unfold getT; rw [if_pos h]
theorem getT_pos {t : VT} {s : ByteArray} {r : List ByteArray} (h : 0 ≤ placeT t s) (hj : (placeT t s).toNat < t.items.length) : getT t (s :: r) = getT (t.items[(placeT t s).toNat]) r := by
  conv => lhs; unfold getT
  rw [if_neg (by omega), List.getElem?_eq_getElem hj]
def GetR (t : VT) (p : List ByteArray) (S : World → Nat → Prop) (w : World) (e : Ending) (w' : World) : Prop :=
  ∃ v, e = .returned (.tuple #[v, .bool (okT t p)]) ∧ LV w' (S w') (gotT t p) v ∧ Below w.heap.size w w'
theorem get_end {w w5 : World} {S : Nat → Prop} {t u : VT} {p : List ByteArray} {ok : Bool} {c0 c1 c2 c3 c4 : Value} (hS : ∀ b, S b → b < w.heap.size) (hb : Below w.heap.size w w5) (hv : LV w S u (.agg #[c0, c1, c2, c3, c4])) (hg : gotT t p = u) (hok : ok = okT t p) :
    GetR t p (fun _ => S) w (.returned (.tuple #[.agg #[c0, c1, c2, c3, c4], .bool ok])) (five w5 (w.heap.size + 1) 0 c0 c1 c2 c3 c4) := by
  have hr5 := five_rest w5 (w.heap.size + 1) 0 c0 c1 c2 c3 c4
  have hk : ∀ b, b < w.heap.size → (five w5 (w.heap.size + 1) 0 c0 c1 c2 c3 c4).heap[b]? = w.heap[b]? := fun b hb' => (five_other _ _ _ _ _ _ _ _ b (by omega)).trans (hb.block b hb')
  subst hg hok
  exact ⟨_, rfl, hv.keep fun b hb' => hk b (hS b hb'), ⟨hr5.1.trans hb.os, hr5.2.1.trans hb.tape, hr5.2.2.trans hb.output, by rw [five_size]; exact hb.size, hk⟩⟩
set_option maxHeartbeats 4000000 in
set_option maxRecDepth 100000 in
theorem rget_any (S : Nat → Prop) (t : VT) (v : Value) (A : Option Addr) (c : Nat) (p : List ByteArray) (w : World) (hS : ∀ b, S b → b < w.heap.size) (h : LV w S t v) (hm : mayT t = true) (hp : StrsAt w S A p) (hn : p.length ≤ 140737488351232) :
    Calls Tryz.prog 77 #[v, .slice A p.length c] w (GetR t p (fun _ => S) w) := by
  obtain ⟨A0, c0, A0', c0', rfl, -, -, -, v1, hb0⟩ := one_var hS h
  have HX := hid v1.x
  have HB := hid hb0
  have HP := hid hp
  have HV := hid h
  have HM := hid hm
  clear h v1 hb0 hp hm
  go_enter Tryz.func77, Tryz.ntmps77
  go_wp2_with fail
  have hz1 : (w.alloc (.cells #[.int .i64 t.kind, .int .i64 t.num, .string t.text, .slice A0 t.items.length c0, .slice A0' t.names.length c0'] 25)).heap.size = w.heap.size + 1 := by simp
  have hB0 : Below w.heap.size w ((w.alloc (.cells #[.int .i64 t.kind, .int .i64 t.num, .string t.text, .slice A0 t.items.length c0, .slice A0' t.names.length c0'] 25)).alloc (.cells #[.int .i64 0, .int .i64 0, .string ⟨#[]⟩, .slice none 0 0, .slice none 0 0] 25)) := HB.out.alloc (by omega) _
  have hX0 := HX.out.alloc (.cells #[.int .i64 0, .int .i64 0, .string ⟨#[]⟩, .slice none 0 0, .slice none 0 0] 25)
  have hR0 : Box ((w.alloc (.cells #[.int .i64 t.kind, .int .i64 t.num, .string t.text, .slice A0 t.items.length c0, .slice A0' t.names.length c0'] 25)).alloc (.cells #[.int .i64 0, .int .i64 0, .string ⟨#[]⟩, .slice none 0 0, .slice none 0 0] 25)) (w.heap.size + 1) (.int .i64 0) (.int .i64 0) (.string ⟨#[]⟩) (.slice none 0 0) (.slice none 0 0) := by
    have h := Box.new (w := w.alloc (.cells #[.int .i64 t.kind, .int .i64 t.num, .string t.text, .slice A0 t.items.length c0, .slice A0' t.names.length c0'] 25)) (.int .i64 0) (.int .i64 0) (.string ⟨#[]⟩) (.slice none 0 0) (.slice none 0 0)
    rw [hz1] at h
    exact h
  have HB0 := hid hB0
  have HX0 := hid hX0
  have HR0 := hid hR0
  clear hB0 hX0 hR0 hz1 HB HX
  go_loopw [6] (fun i wr => ∃ (j : Nat) (u : VT) (B : Option Addr) (k : Nat) (B' : Option Addr) (k' : Nat), i = .int .i64 j ∧ j ≤ p.length ∧ Hid (getT t p = getT u (p.drop j)) ∧ Hid (mayT u = true) ∧
      Hid (Box wr w.heap.size (.int .i64 u.kind) (.int .i64 u.num) (.string u.text) (.slice B u.items.length k) (.slice B' u.names.length k')) ∧
      Hid (LV w S u (.agg #[.int .i64 u.kind, .int .i64 u.num, .string u.text, .slice B u.items.length k, .slice B' u.names.length k'])) ∧
      Hid (Below w.heap.size w wr) ∧ Hid (Box wr (w.heap.size + 1) (.int .i64 0) (.int .i64 0) (.string ⟨#[]⟩) (.slice none 0 0) (.slice none 0 0))) (fun i _ => p.length - (intOf i).toNat)
  case atStart => exact ⟨0, t, A0, c0, A0', c0', rfl, by omega, hid (by simp), HM, HX0, HV, HB0, HR0⟩
  case round =>
    obtain ⟨j, u, B, k, B', k', rfl, hj, HG, HMU, HXU, HVU, HBU, HRU⟩ := hrel
    clear HB0 HX0 HR0
    by_cases hlt : j < p.length
    · obtain ⟨b, off, rfl, hSb, hc⟩ := HP.out (by omega)
      have hck : wr.cell? ⟨b, off + j, none⟩ = some (.string p[j]) := (HBU.out.cell (p := ⟨b, off + j, none⟩) (hS b hSb)).trans (hc j hlt).1
      have hps := (hc j hlt).2
      have hbl : b < wr.heap.size := Nat.lt_of_lt_of_le (hS b hSb) HBU.out.size
      clear hc
      have hlt1 : (j : Int) < (p.length : Int) := by omega
      have hlt2 : decide ((j : Int) < (p.length : Int)) = true := decide_eq_true hlt1
      obtain ⟨s, hsj⟩ : ∃ s, s = p[j] := ⟨_, rfl⟩
      rw [← hsj] at hck hps
      have HSJ := hid hsj
      clear hsj
      go_wp2_with fail
      refine wp_region_mix [0, 1, 2, 3, 4, 5, 6] (by kernel_rfl) (by kernel_rfl) (fun _ d _ _ _ h => by cases d <;> exact h) ?_
      simp only [atR]
      have hbd : Below wr.heap.size wr wr.drew := (Below.refl _ _).drew
      have HXU := hid (HXU.out.call hbd)
      have HBU := hid (toStart HBU.out hbd)
      have HRU := hid (HRU.out.call hbd)
      have hck0 : wr.drew.cell? ⟨b, off + j, none⟩ = some (.string s) := hck
      have hbl0 : b < wr.drew.heap.size := hbl
      clear hbd hck hbl
      generalize wr.drew = v0 at *
      have q0 := cell_later (B := v0.heap.size) (w := v0) HXU.out.c0 HXU.out.lt
      have q1 := cell_later (B := v0.heap.size) (w := v0) HXU.out.c1 HXU.out.lt
      have q2 := cell_later (B := v0.heap.size) (w := v0) HXU.out.c2 HXU.out.lt
      have q3 := cell_later (B := v0.heap.size) (w := v0) HXU.out.c3 HXU.out.lt
      have q4 := cell_later (B := v0.heap.size) (w := v0) HXU.out.c4 HXU.out.lt
      have q5 := cell_later (B := v0.heap.size) (w := v0) hck0 hbl0
      first | refine mix_pure ?_ | refine mix_pureB ?_
      simp only [List.takeWhile, List.dropWhile, isPure, Nat.reduceBNe]
      repeat (go_big_quiet_step (fail))
      refine wpQuiet_nil ?_
      clear q0 q1 q2 q3 q4 q5 hck0 hbl0
      first | refine mix_call rfl (fun K hK => ?_) | refine mix_callB rfl (fun K hK => ?_)
      go_simp
      refine (place_any S u _ s v0 (fun b hb => Nat.lt_of_lt_of_le (hS b hb) HBU.out.size) (HVU.out.keep fun b hb => HBU.out.block b (hS b hb)) hps).mono ?_
      rintro e w5 ⟨rfl, hb⟩
      refine hK _ _ hb ?_
      clear hK K
      try simp only [Act.put]
      have HXU := hid (HXU.out.call hb)
      have HBU := hid (toStart HBU.out hb)
      have HRU := hid (HRU.out.call hb)
      clear hb
      obtain ⟨P, hP⟩ : ∃ P, P = placeT u s := ⟨_, rfl⟩
      rw [← hP]
      have HPP := hid hP
      clear hP
      first | refine mix_pure ?_ | refine mix_pureB ?_
      simp only [List.takeWhile, List.dropWhile, isPure, Nat.reduceBNe]
      repeat (go_big_quiet_step (fail))
      refine wpQuiet_nil ?_
      unfold wpMix
      by_cases hneg : P < 0
      · have hneg2 : decide (P < 0) = true := decide_eq_true hneg
        have rf := fun i => HRU.out.free i
        have r0 := HRU.out.c0
        have r1 := HRU.out.c1
        have r2 := HRU.out.c2
        have r3 := HRU.out.c3
        have r4 := HRU.out.c4
        have hnone : getT t p = none := by
          rw [HG.out, List.drop_eq_getElem_cons hlt]
          exact getT_neg (by rw [← HSJ.out, ← HPP.out]; exact hneg)
        have HNN := hid hnone
        clear hnone
        go_wp2_with fail
        refine bodyPost_ret (results_cell_two rfl _ _ (w.heap.size + 1) 25 _ (0, 0) rfl (five_box HRU.out) (by kernel_rfl)) rfl ?_
        exact get_end hS HBU.out (leaf_lv w S 0 0 ⟨#[]⟩ (by unfold Rng; omega) (by unfold Rng; omega) (by decide)) (by unfold gotT; rw [HNN.out]; rfl) (by unfold okT; rw [HNN.out]; rfl)
      · have hneg2 : decide (P < 0) = false := decide_eq_false hneg
        obtain ⟨i, rfl⟩ : ∃ i : Nat, P = i := ⟨P.toNat, by omega⟩
        have hPi : (placeT u s).toNat = i := by rw [← HPP.out]; simp
        have hPn : 0 ≤ placeT u s := by rw [← HPP.out]; omega
        have hil : (placeT u s).toNat < u.items.length := placeT_lt (may_nl HMU.out) hPn
        have hgo : getT t p = getT (u.items[(placeT u s).toNat]) (p.drop (j + 1)) := by
          rw [HG.out, List.drop_eq_getElem_cons hlt, ← HSJ.out]
          exact getT_pos hPn hil
        simp only [hPi] at hgo hil
        have hAt : AtV w5 S u w.heap.size 0 B k B' k' := AtV.of_box HXU.out (HVU.out.keep fun b hb => HBU.out.block b (hS b hb))
        obtain ⟨G, off1, A2, c2, A3, c3, hB1, hG, hitem⟩ := hAt.item hil
        subst hB1
        have hlen := hAt.names.2.2
        have HGO := hid hgo
        have HMI := hid (may_item HMU.out hil)
        have i0 := hitem.c0
        have i1 := hitem.c1
        have i2 := hitem.c2
        have i3 := hitem.c3
        have i4 := hitem.c4
        have hGw := hS G hG
        have hnG : G ≠ w.heap.size := by omega
        have HIV := hid hitem.v
        have vf := fun i => HXU.out.free i
        have v0 := HXU.out.c0
        have v1 := HXU.out.c1
        have v2 := HXU.out.c2
        have v3 := HXU.out.c3
        have v4 := HXU.out.c4
        clear hAt hitem hgo hPn
        have hr5 := five_rest w5 w.heap.size 0 (.int .i64 u.items[i].kind) (.int .i64 u.items[i].num) (.string u.items[i].text) (.slice A2 u.items[i].items.length c2) (.slice A3 u.items[i].names.length c3)
        have hk5 := five_other w5 w.heap.size 0 (.int .i64 u.items[i].kind) (.int .i64 u.items[i].num) (.string u.items[i].text) (.slice A2 u.items[i].items.length c2) (.slice A3 u.items[i].names.length c3)
        have hz5 := five_size w5 w.heap.size 0 (.int .i64 u.items[i].kind) (.int .i64 u.items[i].num) (.string u.items[i].text) (.slice A2 u.items[i].items.length c2) (.slice A3 u.items[i].names.length c3)
        have HB6 : Hid (Below w.heap.size w (five w5 w.heap.size 0 (.int .i64 u.items[i].kind) (.int .i64 u.items[i].num) (.string u.items[i].text) (.slice A2 u.items[i].items.length c2) (.slice A3 u.items[i].names.length c3))) := hid
          ⟨hr5.1.trans HBU.out.os, hr5.2.1.trans HBU.out.tape, hr5.2.2.trans HBU.out.output, by rw [hz5]; exact HBU.out.size, fun b hb => (hk5 b (by omega)).trans (HBU.out.block b hb)⟩
        have HR6 : Hid (Box (five w5 w.heap.size 0 (.int .i64 u.items[i].kind) (.int .i64 u.items[i].num) (.string u.items[i].text) (.slice A2 u.items[i].items.length c2) (.slice A3 u.items[i].names.length c3)) (w.heap.size + 1) (.int .i64 0) (.int .i64 0) (.string ⟨#[]⟩) (.slice none 0 0) (.slice none 0 0)) := hid ((hk5 _ (by omega)).trans HRU.out)
        have HX6 := hid (five_box (c0 := .int .i64 u.items[i].kind) (c1 := .int .i64 u.items[i].num) (c2 := .string u.items[i].text) (c3 := .slice A2 u.items[i].items.length c2) (c4 := .slice A3 u.items[i].names.length c3) HXU.out)
        have HV6 := hid (HIV.out.keep (w' := w) fun b hb => (HBU.out.block b (hS b hb)).symm)
        clear hr5 hk5 hz5
        go_wp2_with fail
        go_roundw
        case rel => exact ⟨j + 1, u.items[i], A2, c2, A3, c3, by go_num, by omega, HGO, HMI, HX6, HV6, HB6, HR6⟩
        case measure => simp [intOf]; omega
    · have hlt1 : ¬ (j : Int) < (p.length : Int) := by omega
      have hlt2 : decide ((j : Int) < (p.length : Int)) = false := decide_eq_false hlt1
      have hd : p.drop j = [] := List.drop_of_length_le (by omega)
      have hgo : getT t p = some u := by rw [HG.out, hd]; rfl
      have HGO := hid hgo
      have rf := fun i => HRU.out.free i
      have r0 := HRU.out.c0
      have r1 := HRU.out.c1
      have r2 := HRU.out.c2
      have r3 := HRU.out.c3
      have r4 := HRU.out.c4
      have v0 := HXU.out.c0
      have v1 := HXU.out.c1
      have v2 := HXU.out.c2
      have v3 := HXU.out.c3
      have v4 := HXU.out.c4
      clear hd hgo
      go_wp2_with fail
      refine bodyPost_ret (results_cell_two rfl _ _ (w.heap.size + 1) 25 _ (0, 0) rfl (five_box HRU.out) (by kernel_rfl)) rfl ?_
      exact get_end hS HBU.out HVU.out (by unfold gotT; rw [HGO.out]; rfl) (by unfold okT; rw [HGO.out]; rfl)
set_option maxRecDepth 100000
theorem conf_take (ps : List (List ByteArray)) {i : Nat} (hi : i < ps.length) : confL [] (ps.take (i + 1)) = (confL [] (ps.take i) || (ps.take i).any fun q => meetP ps[i] q) := by
  rw [List.take_add_one, List.getElem?_eq_getElem hi]
  have h := confL_snoc (ps.take i) [] ps[i]
  rw [List.nil_append] at h
  exact h
theorem conf_true {ps : List (List ByteArray)} {i k : Nat} (hi : i < ps.length) (hk : k < i) (h : meetP ps[i] ps[k] = true) : confL [] ps = true := by
  have h1 : confL [] (ps.take (i + 1)) = true := by
    rw [conf_take ps hi, List.any_eq_true.2 ⟨ps[k], List.mem_take_iff_getElem.2 ⟨k, by omega, rfl⟩, h⟩, Bool.or_true]
  have h2 := confL_pre (ps.take (i + 1)) (ps.drop (i + 1)) [] h1
  rwa [List.take_append_drop] at h2
theorem conf_false {ps : List (List ByteArray)} (h : ∀ i (hi : i < ps.length) k (hk : k < i), meetP ps[i] ps[k] = false) : confL [] ps = false := by
  have hn : ∀ n, n ≤ ps.length → confL [] (ps.take n) = false := by
    intro n
    induction n with
    | zero => intro _; simp [confL]
    | succ n ih =>
      intro hn
      rw [conf_take ps (by omega), ih (by omega), Bool.false_or]
      refine List.any_eq_false.2 fun x hx => ?_
      obtain ⟨k, hk, rfl⟩ := List.mem_take_iff_getElem.1 hx
      rw [h n (by omega) k (by omega)]
      simp
  have h2 := hn ps.length (Nat.le_refl _)
  rwa [List.take_length] at h2
theorem mayP_iff (ns : List ByteArray) : mayP ns = true ↔ 1 ≤ ns.length ∧ ns.length ≤ 8 ∧ ∀ s ∈ ns, nameB s.data.toList = true := by
  unfold mayP
  simp only [Bool.and_eq_true, decide_eq_true_eq, List.all_eq_true]
  exact ⟨fun h => ⟨h.1.1, h.1.2, h.2⟩, fun h => ⟨⟨h.1, h.2.1⟩, h.2.2⟩⟩
theorem Tryz.infoStrP : (Tryz.prog.info? 9).map (fun i => (i.zero, i.size, i.bytes)) = some (some (.string ByteArray.empty), 1, 16) := by kernel_rfl
def OwnS (w : World) (B : Nat) (v : Value) (ns : List ByteArray) : Prop := w.ownsRow B 9 1 v ns.length (ns.map Value.string)
theorem OwnS.nil (w : World) (B : Nat) : OwnS w B (.slice none 0 0) [] := World.ownsRow_nil _ _ _ _
theorem OwnS.opens {w : World} {B : Nat} {v : Value} {ns : List ByteArray} (h : OwnS w B v ns) (hs : ∀ s ∈ ns, s.size ≤ 140737488351232) :
    ∃ A c, v = .slice A ns.length c ∧ ns.length ≤ c ∧ StrsAt w (fun b => B ≤ b ∧ b < w.heap.size) A ns := by
  have hlt := World.ownsRow.lt h
  have hcl := fun g hg => World.ownsRow.cells (g := g) h hg
  rcases h.2 with ⟨rfl, h0⟩ | ⟨g, cap, cur, rfl, hB, hh, hc, -, -, -⟩
  · obtain rfl := List.eq_nil_of_length_eq_zero h0
    exact ⟨none, 0, rfl, Nat.le_refl _, StrsAt.nil⟩
  · refine ⟨some ⟨g, 0, none⟩, cap, rfl, hc, fun hp => ⟨g, 0, rfl, hlt g rfl, fun i hi => ⟨?_, hs _ (List.getElem_mem hi)⟩⟩⟩
    have h1 := hcl g rfl i (.string ns[i]) (by simp [hi])
    rw [add_at] at h1
    exact h1
theorem wpList_append_strs {w : World} {ops : Array Oper} {rest : List Oper} {o : Oper} {a : Act} {Q : Exit → Act → World → Prop} (hgd : o.guard = none) (s x : Operand)
    (ho : o.op = .call { callee := .builtin .append, args := #[s, x], argTypes := #[23, 23] }) (B : Nat) (v : Value) (ns : List ByteArray) (hs : a.eval s = v) (hown : OwnS w B v ns)
    (A : Option Addr) (c : Nat) (ms : List ByteArray) (S : Nat → Prop) (hx : a.eval x = .slice A ms.length c) (hA : A = none → c = 0) (hst : StrsAt w S A ms) (hB : B ≤ w.heap.size) (hl : ns.length + ms.length ≤ 8796093021952)
    (K : ∀ v' w', OwnS w' B v' (ns ++ ms) → w.grownBy w' v.ownBlock → wpList Tryz.prog ops Q rest (a.put o.dst v') w') : wpList Tryz.prog ops Q (o :: rest) a w := by
  obtain ⟨i0, hi, hz0, hz1, hz2⟩ := info_parts Tryz.infoStrP
  cases A with
  | none =>
    obtain rfl : ms = [] := by
      match ms, hst with
      | [], _ => rfl
      | m :: r, hst => obtain ⟨_, _, h, _⟩ := hst (by simp); cases h
    obtain rfl := hA rfl
    refine wpList_append_own_none hgd s x 23 ho B 9 i0 1 Tryz.underlying23 hi v ns.length (ns.map Value.string) hs hown hx ?_
    exact K v w (by rw [List.append_nil]; exact hown) ⟨rfl, rfl, rfl, Nat.le_refl _, fun _ _ _ => rfl⟩
  | some ad =>
    refine wpList_append_own _ hgd s x 23 ho B 9 i0 (.string ByteArray.empty) 1 16 Tryz.underlying23 hi hz0 hz1 hz2 rfl (by decide) v ns.length (ns.map Value.string) hs hown ad ms.length c (ms.map Value.string) hx (by simp) ?_ ?_ (by unfold maxLen; omega) (by omega) hB ?_
    · intro j u hj
      have hjl : j < ms.length := by have := (List.getElem?_eq_some_iff.1 hj).1; simpa using this
      obtain ⟨b, off, hAd, -, hc⟩ := hst (by omega)
      injection hAd with hAd
      subst hAd
      rw [add_at, (hc j hjl).1]
      simpa [List.getElem?_map, List.getElem?_eq_getElem hjl] using hj
    · intro u hu; obtain ⟨_, _, rfl⟩ := List.mem_map.1 hu; rfl
    · intro v' w' h1 h2 _
      exact K v' w' (by unfold OwnS; rw [List.length_append, List.map_append]; exact h1) h2
theorem strs_ne_nil (a : Addr) (n c : Nat) (w : World) : (binOp .eql 23 (.slice (some a) n c) (.slice none 0 0)).run Tryz.prog w = .ok (.bool false) w := by kernel_rfl
set_option maxHeartbeats 4000000 in
set_option maxRecDepth 100000 in
theorem putItems7 (num : Int) (txs : ByteArray) (its : List VT) (nms : List ByteArray) (hnl : nms.length = its.length) (ih : ∀ x ∈ its, PutOK x) (S : Nat → Prop) (v bv : Value) (B : Nat) (l : List UInt8) (w : World) (hS : ∀ x, S x → x < B) (hB : B ≤ w.heap.size) (h : LV w S (.mk 7 num txs its nms) v) (hown : OwnB w B bv l)
    (hlen : l.length + (grp its.length ++ encL true nms its).length ≤ 140737488355328) :
    Calls Tryz.prog 167 #[bv, v] w (PutsR B (l ++ (grp its.length ++ encL true nms its)) w) := by
  obtain ⟨A, c, A', c', rfl, -, -, -, hl1, hl2, hN, hA⟩ := h.shape
  simp only [VT.kind, VT.num, VT.text, VT.items, VT.names] at *
  have HX := hid (Box.new (w := w) (.int .i64 7) (.int .i64 num) (.string txs) (.slice A its.length c) (.slice A' nms.length c'))
  have HB0 := hid (below_box (w := w) (.cells #[.int .i64 7, .int .i64 num, .string txs, .slice A its.length c, .slice A' nms.length c'] 25))
  have HO := hid (OwnB.below hown HB0.out)
  have HA := hid hA
  have HLEN := hid hlen
  have HNL := hid hnl
  have HN := hid hN
  obtain ⟨full, hfull⟩ : ∃ full, full = grp its.length ++ encL true nms its := ⟨_, rfl⟩
  have HF := hid hfull
  rw [← hfull] at HLEN ⊢
  clear h hA hown hlen hfull hnl hN
  go_enter Tryz.func167, Tryz.ntmps167
  have k3 := HX.out.c3
  go_wp2_with fail
  refine (count_any its.length _ (by omega)).mono ?_
  rintro e w1 (⟨_, _, x, rfl, hx, hb⟩ | ⟨h, _⟩)
  rotate_left
  · omega
  rw [Int.toNat_natCast] at hx
  have HR := hid hx.rd
  have hb1 := toStart HB0.out hb
  have HB1 := hid (hb1.mono hB)
  have HK1 := hid (k8_below hb1)
  have HO1 := hid (HO.out.below hb)
  have HX1 := hid (HX.out.call hb)
  have hz1 := Nat.le_trans hB hb1.size
  have hg := grp_length its.length
  have hgl : l.length + (grp its.length).length ≤ 140737488355328 := by have h1 := HLEN.out; rw [HF.out, List.length_append] at h1; omega
  clear hb hb1 hx k3 HB0 HO HX
  go_wp2_with (at_builtin; go_must (refine wpList_append_bytes rfl _ _ rfl B _ l rfl HO1.out w1.heap.size x (grp its.length) rfl HR.out hz1 hgl ?_))
  intro v2 w2 hv2 hg2
  have HB2 := hid (below_own HB1.out HO1.out hz1 hg2)
  have HK2 := hid (HK1.out.trans (k8_grown HO1.out hg2))
  have HX2 := hid (HX1.out.k8 (k8_grown HO1.out hg2))
  have HO2 := hid hv2
  have k3 := HX2.out.c3
  clear hg2 hv2 HB1 HK1 HX1 HO1 HR
  go_wp2_with fail
  go_loopw [0, 22] (fun b i wr => ∃ (j : Nat) (X : List UInt8), i = .int .i64 j ∧ j ≤ its.length ∧ Hid (OwnB wr B b (l ++ X)) ∧ Hid (X ++ encL true (nms.drop j) (its.drop j) = full) ∧ Hid (Below B w wr) ∧ Hid (K8 w wr) ∧ Hid (Box wr w.heap.size (.int .i64 7) (.int .i64 num) (.string txs) (.slice A its.length c) (.slice A' nms.length c'))) (fun _ i _ => its.length - (intOf i).toNat)
  case atStart => exact ⟨0, grp its.length, rfl, Nat.zero_le _, HO2, HF.out.symm, HB2, HK2, HX2⟩
  case round =>
    obtain ⟨j, X, rfl, hj, HO, HE, HB, HK, HX⟩ := hrel
    clear HX2 HK2 HB2 HO2 k3
    by_cases hlt : j < its.length
    · obtain ⟨p, o, A2, e2, A3, e3, rfl, h0, h1, h2, h3, h4, hx⟩ := item_atB hS HA.out HB.out j hlt
      have k0 : wr.cell? ⟨w.heap.size, 0, none⟩ = some (.int .i64 7) := HX.out.c0
      obtain ⟨p', o', rfl, hpB, t1, hts⟩ := text_atB hS HN.out HB.out j (by rw [HNL.out]; exact hlt)
      have hpl : p' < wr.heap.size := Nat.lt_of_lt_of_le (Nat.lt_of_lt_of_le hpB (Nat.le_trans hB HB.out.size)) (Nat.le_refl _)
      have k4 : wr.cell? ⟨w.heap.size, 4, none⟩ = some (.slice (some ⟨p', o', none⟩) nms.length c') := HX.out.c4
      have hjn : j < nms.length := by rw [HNL.out]; exact hlt
      obtain ⟨sn, hsn⟩ : ∃ s, s = nms[j] := ⟨_, rfl⟩
      rw [← hsn] at t1 hts
      have HSN := hid hsn
      have HTS := hid hts
      have hwl : w.heap.size < wr.heap.size := HX.out.lt
      have HV := hid hx
      clear hx hts hsn
      have hbx := below_box (w := wr) (.cells #[.int .i64 its[j].kind, .int .i64 its[j].num, .string its[j].text, .slice A2 its[j].items.length e2, .slice A3 its[j].names.length e3] 25)
      have hBz : B ≤ wr.heap.size := Nat.le_trans hB HB.out.size
      have HBX := hid (Box.new (w := wr) (.int .i64 its[j].kind) (.int .i64 its[j].num) (.string its[j].text) (.slice A2 its[j].items.length e2) (.slice A3 its[j].names.length e3))
      have HE2 : Hid (X ++ (txt sn ++ (encT its[j] ++ encL true (nms.drop (j + 1)) (its.drop (j + 1)))) = full) := hid (by
        have h1 := HE.out
        rw [encL_step true hlt (fun _ => hjn)] at h1
        have h2 : nms.getD j eS = sn := by rw [HSN.out]; simp [hjn]
        rw [h2] at h1
        simpa using h1)
      have HLE1 : Hid ((l ++ X).length + (txt sn).length ≤ 140737488355328) := hid (by
        have h1 := HLEN.out
        rw [← HE2.out] at h1
        simp only [List.length_append] at h1 ⊢; omega)
      have HLE : Hid ((l ++ (X ++ txt sn)).length + (encT its[j]).length ≤ 140737488355328) := hid (by
        have h1 := HLEN.out
        rw [← HE2.out] at h1
        simp only [List.length_append] at h1 ⊢; omega)
      have HOx := hid (OwnB.below HO.out hbx)
      have HBx := hid (HB.out.trans (hbx.mono hBz))
      have HKx := hid (HK.out.trans (k8_below hbx))
      have HXx := hid (HX.out.call hbx)
      have HVx : Hid (LV (wr.alloc (.cells #[.int .i64 its[j].kind, .int .i64 its[j].num, .string its[j].text, .slice A2 its[j].items.length e2, .slice A3 its[j].names.length e3] 25)) S its[j] _) := hid (HV.out.keep fun b hb => (hbx.mono hBz).block b (hS b hb))
      have hz3 : wr.heap.size < (wr.alloc (.cells #[.int .i64 its[j].kind, .int .i64 its[j].num, .string its[j].text, .slice A2 its[j].items.length e2, .slice A3 its[j].names.length e3] 25)).heap.size := by simp
      go_wp2_with fail
      generalize hW : wr.alloc (.cells #[.int .i64 its[j].kind, .int .i64 its[j].num, .string its[j].text, .slice A2 its[j].items.length e2, .slice A3 its[j].names.length e3] 25) = W at *
      clear hbx h0 h1 h2 h3 h4 k0 k4 t1 HO HB HK HX HV hW
      refine (text_any sn _ HTS.out).mono ?_
      rintro e w4 ⟨x4, rfl, hx4, hb4⟩
      have HR4 := hid hx4.rd
      have HO4 := hid (OwnB.below HOx.out hb4)
      have HB4 := hid (HBx.out.trans (hb4.mono (by have := HBx.out.size; omega)))
      have HK4 := hid (HKx.out.trans (k8_below hb4))
      have HX4 := hid (HXx.out.call hb4)
      have HBX4 := hid (HBX.out.call hb4)
      have HV4 : Hid (LV w4 S its[j] _) := hid (HVx.out.keep fun b hb => (hb4.mono (by have := HBx.out.size; omega : B ≤ W.heap.size)).block b (hS b hb))
      have hz4 : B ≤ w4.heap.size := Nat.le_trans hB HB4.out.size
      clear hx4 hb4 HOx HBx HKx HXx HBX HVx
      go_wp2_with (at_builtin; go_must (refine wpList_append_bytes rfl _ _ rfl B _ (l ++ X) rfl HO4.out w4.heap.size x4 (txt sn) rfl HR4.out hz4 HLE1.out ?_))
      intro v5 w5 hv5 hg5
      have HB5 := hid (below_own HB4.out HO4.out hz4 hg5)
      have hk5 := k8_grown HO4.out hg5
      have hb5 := below_own (Below.refl B w4) HO4.out hz4 hg5
      have HK5 := hid (HK4.out.trans hk5)
      have HX5 := hid (HX4.out.k8 hk5)
      have HBX5 := hid (HBX4.out.k8 hk5)
      have HO5 : Hid (OwnB w5 B v5 (l ++ (X ++ txt sn))) := hid hv5
      have HV5 : Hid (LV w5 S its[j] _) := hid (HV4.out.keep fun b hb => hb5.block b (hS b hb))
      have q0 := HBX5.out.c0
      have q1 := HBX5.out.c1
      have q2 := HBX5.out.c2
      have q3 := HBX5.out.c3
      have q4 := HBX5.out.c4
      clear hv5 hg5 hk5 hb5 HB4 HK4 HX4 HBX4 HO4 HR4 HV4
      go_wp2_with fail
      have HC := hid (ih its[j] (List.getElem_mem hlt) S _ _ B (l ++ (X ++ txt sn)) _ hS (Nat.le_trans hB HB5.out.size) HV5.out HO5.out HLE.out)
      clear q0 q1 q2 q3 q4
      refine HC.out.mono ?_
      rintro e w3 ⟨v3, rfl, hv3, hb3, hk3⟩
      have HO3 : Hid (OwnB w3 B v3 (l ++ (X ++ txt sn ++ encT its[j]))) := hid (by rw [List.append_assoc] at hv3; exact hv3)
      have HB3 := hid (HB5.out.trans hb3)
      have HK3 := hid (HK5.out.trans hk3)
      have HX3 := hid (HX5.out.k8 hk3)
      have HE3 : Hid (X ++ txt sn ++ encT its[j] ++ encL true (nms.drop (j + 1)) (its.drop (j + 1)) = full) := hid (by rw [← HE2.out]; simp)
      clear hv3 hb3 hk3 HC HE HE2
      go_wp2_with fail
      go_roundw
      case rel => exact ⟨j + 1, X ++ txt sn ++ encT its[j], by go_num, by omega, HO3, HE3, HB3, HK3, HX3⟩
      case measure => simp [intOf]; omega
    · obtain rfl : j = its.length := by omega
      go_wp2_with fail
      go_ret
      exact ⟨_, rfl, by have h1 := HE.out; rw [List.drop_of_length_le (Nat.le_refl _), encL_nil, List.append_nil] at h1; rw [← h1]; exact HO.out, HB.out, HK.out⟩
end Go.Proofs.YtpcdngpppjdgcaaGreat
