/- A value changed within: what is done at an item is done to the whole. -/
import Derived.Test.YtlddhpjokiphfaaKTrH
import Derived.Test.YtlddhpjokiphfaaKTrE
namespace Go.Proofs.Ytlddhpjokiphfaa
set_option linter.unusedVariables false
set_option linter.unusedSimpArgs false
open Go.RowKit
/-- Another item. -/
def setT : VT → Nat → VT → VT
  | .mk k i s l ns, j, u => .mk k i s (l.set j u) ns
/-- Five cells of block g from o on hold an owned value. -/
def OAt (w : World) (F : Nat → Prop) (t : VT) (g o : Nat) : Prop := ∃ C ty A c A' c', w.heap[g]? = some (.cells C ty (0, 0)) ∧ C[o]? = some (.int .i64 t.kind) ∧ C[o + 1]? = some (.int .i64 t.num) ∧ C[o + 2]? = some (.string t.text) ∧ C[o + 3]? = some (.slice A t.items.length c) ∧ C[o + 4]? = some (.slice A' t.names.length c') ∧
  OV w F t (.agg #[.int .i64 t.kind, .int .i64 t.num, .string t.text, .slice A t.items.length c, .slice A' t.names.length c']) ∧ ¬ F g ∧ ∀ b, F b → b < w.heap.size
/-- Only the value at an address has been changed, and what it owns. -/
def Mut (F : Nat → Prop) (g o : Nat) (w w' : World) : Prop := w.heap.size ≤ w'.heap.size ∧ (∀ b, b < w.heap.size → ¬ F b → b ≠ g → w'.heap[b]? = w.heap[b]?) ∧
  (∀ C ty fz, w.heap[g]? = some (.cells C ty fz) → ∃ C', w'.heap[g]? = some (.cells C' ty fz) ∧ C'.size = C.size ∧ ∀ i, (i < o ∨ o + 5 ≤ i) → C'[i]? = C[i]?) ∧ w'.os = w.os ∧ w'.tape = w.tape ∧ w'.output = w.output
/-- From what was owned, or new. -/
def Own (F : Nat → Prop) (w : World) (F' : Nat → Prop) : Prop := ∀ b, F' b → F b ∨ w.heap.size ≤ b
set_option maxHeartbeats 1000000 in
theorem OAt.item {w : World} {F : Nat → Prop} {t : VT} {g o : Nat} (h : OAt w F t g o) {j : Nat} (hj : j < t.items.length) :
    ∃ G Fj, (∃ c, w.cell? ⟨g, o + 3, none⟩ = some (.slice (some ⟨G, 0, none⟩) t.items.length c)) ∧ F G ∧ OAt w Fj t.items[j] G (j * 5) ∧ (∀ b, Fj b → F b) ∧ ∀ w' u F', Mut Fj G (j * 5) w w' → OAt w' F' u G (j * 5) → Own Fj w F' → ∃ F'', Own F w F'' ∧ OAt w' F'' (setT t j u) g o ∧ Mut F g o w w' := by
  obtain ⟨C, ty, A, c, A', c', hg, g0, g1, g2, g3, g4, hv, hFg, hlt⟩ := h
  cases t with
  | mk k i s l ns =>
  simp only [VT.kind, VT.num, VT.text, VT.items, VT.names] at *
  have hgs := (Array.getElem?_eq_some_iff.1 hg).1
  have hjl : j < l.length := hj
  unfold OV at hv
  obtain ⟨A1, c1, A1', c1', xs, hag, h1, h2, h3, h4, h5, h6, h7, h8, h9, h10, h11, h12⟩ := hv
  injection hag with hag; injection hag with hag
  injection hag with y0 hag; injection hag with y1 hag; injection hag with y2 hag; injection hag with y3 hag; injection hag with y4 hag
  injection y3 with e1 _ e3
  injection y4 with e4 _ e6
  subst e1 e3 e4 e6
  have h8' := h8
  obtain ⟨hxl, h8⟩ := h8
  rcases h8 with ⟨-, h⟩ | ⟨G, cap, cur, hv, -, hh, hn, hm, hsz, htk⟩
  · omega
  injection hv with e1 e2 e3
  subst e1 e3
  have hFG := h10 _ rfl
  have hGs := hlt _ hFG
  obtain ⟨Fs, k1, k2, k3⟩ := h12.at
  have hcur : ∀ m, m < l.length * 5 → xs[m]? = cur[m]? := fun m hm' => by rw [← htk, List.getElem?_take_of_lt hm', Array.getElem?_toList]
  obtain ⟨d0, d1, d2, d3, d4, e0, e1, e2, e3, e4, hi⟩ := k3 j hj
  obtain ⟨B, b, B', b', ys, hag2, -⟩ := hi.shape
  injection hag2 with hag2; injection hag2 with hag2
  injection hag2 with z0 hag2; injection hag2 with z1 hag2; injection hag2 with z2 hag2; injection hag2 with z3 hag2; injection hag2 with z4 hag2
  subst z0 z1 z2 z3 z4
  rw [hcur _ (by omega)] at e0 e1 e2 e3 e4
  refine ⟨G, Fs j, ⟨c, (Go.Joins.cell_of_block hg (o + 3)).trans g3⟩, hFG, ⟨cur, 25, B, b, B', b', hh, e0, e1, e2, e3, e4, hi, fun hb => (k2 _ _ hb).2.1 _ rfl rfl, fun x hx => hlt x (k2 _ _ hx).1⟩, fun x hx => (k2 _ _ hx).1, ?_⟩
  rintro w' u F' ⟨m1, m2, m3, m4, m5, m6⟩ hu hown
  obtain ⟨cur', hh', hsz', hout⟩ := m3 cur _ _ hh
  obtain ⟨C2, ty2, B2, b2, B2', b2', hg2, u0, u1, u2, u3, u4, huv, huF, hult⟩ := hu
  have hC2 : C2 = cur' := by
    have := hg2.symm.trans hh'
    injection this with this
    injection this
  subst hC2
  have hkeep : ∀ x, x < w.heap.size → ¬ Fs j x → x ≠ G → w'.heap[x]? = w.heap[x]? := m2
  have hnG : g ≠ G := fun e => hFg (e ▸ hFG)
  have hnj : ¬ Fs j g := fun e => hFg (k2 _ _ e).1
  have hgk := hkeep g hgs hnj hnG
  have hl5 : l.length * 5 ≤ C2.size := by rw [hsz', hsz]; exact Nat.mul_le_mul_right 5 hn
  have hxs' : ∀ m, m < l.length * 5 → (C2.toList.take (l.length * 5))[m]? = C2[m]? := fun m hm' => by rw [List.getElem?_take_of_lt hm', Array.getElem?_toList]
  have hxl' : (C2.toList.take (l.length * 5)).length = l.length * 5 := by
    have : C2.toList.length = C2.size := Array.length_toList
    rw [List.length_take]
    omega
  have hlen : (l.set j u).length = l.length := List.length_set ..
  have hrow : w'.ownsRow 0 25 5 (.slice (some ⟨G, 0, none⟩) l.length c) l.length (C2.toList.take (l.length * 5)) :=
    ⟨hxl', .inr ⟨G, c, C2, rfl, Nat.zero_le _, hh', hn, hm, by rw [hsz', hsz], rfl⟩⟩
  have hnames : w'.ownsRow 0 9 1 (.slice A' ns.length c') ns.length (ns.map Value.string) := row_keep h7 fun a ha => hkeep _ (hlt _ (h9 a ha)) (fun e => (k2 _ _ e).2.2 a ha rfl) (fun e => h11 _ a rfl ha e.symm)
  have hset : OV w' (fun x => F x ∨ (w.heap.size ≤ x ∧ x < w'.heap.size)) (.mk k i s (l.set j u) ns) (.agg #[.int .i64 k, .int .i64 i, .string s, .slice (some ⟨G, 0, none⟩) (l.set j u).length c, .slice A' ns.length c']) := by
    refine OV.mk h1 h2 h3 (by rw [hlen]; exact h4) h5 h6 hnames (by rw [hlen]; exact hrow) (fun a ha => .inl (h9 a ha)) (fun a ha => .inl (h10 a ha)) h11 ?_
    refine OVs.of (fun i x => (i = j ∧ F' x) ∨ (i ≠ j ∧ Fs i x)) (by rw [hlen]; exact hxl') ?_ ?_ ?_
    · rintro i i' x hne (⟨p1, p2⟩ | ⟨p1, p2⟩) (⟨p3, p4⟩ | ⟨p3, p4⟩)
      · omega
      · rcases hown x p2 with q | q
        · exact k1 _ _ x (fun e => p3 e.symm) q p4
        · have := hlt x (k2 _ _ p4).1; omega
      · rcases hown x p4 with q | q
        · exact k1 _ _ x (fun e => p1 e.symm) q p2
        · have := hlt x (k2 _ _ p2).1; omega
      · exact k1 _ _ x hne p2 p4
    · rintro i x (⟨p1, p2⟩ | ⟨p1, p2⟩)
      · rcases hown x p2 with q | q
        · exact ⟨.inl (k2 _ _ q).1, (k2 _ _ q).2⟩
        · refine ⟨.inr ⟨q, hult x p2⟩, fun a ha => ?_, fun a ha => ?_⟩
          · have := hlt _ (h10 a ha); omega
          · have := hlt _ (h9 a ha); omega
      · exact ⟨.inl (k2 _ _ p2).1, (k2 _ _ p2).2⟩
    · intro i hi'
      rw [hlen] at hi'
      by_cases e : i = j
      · subst e
        rw [hxs' _ (by omega), hxs' _ (by omega), hxs' _ (by omega), hxs' _ (by omega), hxs' _ (by omega)]
        refine ⟨_, _, _, _, _, u0, u1, u2, u3, u4, ?_⟩
        rw [List.getElem_set_self]
        exact huv.imp fun x hx => .inl ⟨rfl, hx⟩
      · obtain ⟨f0, f1, f2, f3, f4, v0, v1, v2, v3, v4, hvi⟩ := k3 i hi'
        rw [hcur _ (by omega)] at v0 v1 v2 v3 v4
        rw [hxs' _ (by omega), hxs' _ (by omega), hxs' _ (by omega), hxs' _ (by omega), hxs' _ (by omega), hout _ (by omega), hout _ (by omega), hout _ (by omega), hout _ (by omega), hout _ (by omega)]
        refine ⟨f0, f1, f2, f3, f4, v0, v1, v2, v3, v4, ?_⟩
        rw [List.getElem_set_ne (fun e' => e e'.symm)]
        refine (hvi.keep fun x hx => hkeep x (hlt x (k2 _ _ hx).1) (fun e' => k1 _ _ x e hx e') (fun e' => (k2 _ _ hx).2.1 _ rfl e'.symm)).imp fun x hx => .inr ⟨e, hx⟩
  refine ⟨_, fun x hx => hx.imp id And.left, ⟨C, ty, some ⟨G, 0, none⟩, c, A', c', hgk.trans hg, g0, g1, g2, ?_, g4, hset, ?_, ?_⟩, m1, fun x hx hF hne => hkeep x hx (fun e => hF (k2 _ _ e).1) (fun e => hF (e ▸ hFG)), ?_, m4, m5, m6⟩
  · show C[o + 3]? = some (.slice (some ⟨G, 0, none⟩) (l.set j u).length c)
    rw [hlen]; exact g3
  · rintro (e | e)
    · exact hFg e
    · omega
  · rintro x (e | e)
    · exact Nat.lt_of_lt_of_le (hlt x e) m1
    · exact e.2
  · intro C3 ty3 fz3 hC3
    exact ⟨C3, hgk.trans hC3, rfl, fun _ _ => rfl⟩
end Go.Proofs.Ytlddhpjokiphfaa

/- Something done at the end of a path. -/
namespace Go.Proofs.Ytlddhpjokiphfaa
set_option linter.unusedVariables false
set_option linter.unusedSimpArgs false
open Go.RowKit
/-- What is done at the end of a path, done to the whole: a code, and the value. -/
def goT (fin : VT → List ByteArray → Int × VT) : VT → List ByteArray → Int × VT
  | t, [] => (0, t)
  | t, s :: r => if placeT t s < 0 ∨ r = [] then fin t (s :: r) else match t.items[(placeT t s).toNat]? with
    | none => (0, t)
    | some x => ((goT fin x r).1, setT t (placeT t s).toNat (goT fin x r).2)
theorem goT_end {fin : VT → List ByteArray → Int × VT} {t : VT} {s : ByteArray} {r : List ByteArray} (h : placeT t s < 0 ∨ r = []) : goT fin t (s :: r) = fin t (s :: r) := by
  conv => lhs; unfold goT
  rw [if_pos h]
theorem goT_on {fin : VT → List ByteArray → Int × VT} {t : VT} {s : ByteArray} {r : List ByteArray} (h : 0 ≤ placeT t s) (hr : r ≠ []) (hj : (placeT t s).toNat < t.items.length) :
    goT fin t (s :: r) = ((goT fin (t.items[(placeT t s).toNat]) r).1, setT t (placeT t s).toNat (goT fin (t.items[(placeT t s).toNat]) r).2) := by
  conv => lhs; unfold goT
  rw [if_neg (fun e => e.elim (fun e => absurd e (by omega)) hr), List.getElem?_eq_getElem hj]
def DidAt (F : Nat → Prop) (g o : Nat) (w : World) (res : Int × VT) (e : Ending) (w' : World) : Prop := e = .returned (.int .i64 res.1) ∧ ∃ F', Own F w F' ∧ OAt w' F' res.2 g o ∧ Mut F g o w w'
theorem OAt.keep {w w' : World} {F : Nat → Prop} {t : VT} {g o : Nat} (h : OAt w F t g o) (hb : Below w.heap.size w w') : OAt w' F t g o := by
  obtain ⟨C, ty, A, c, A', c', hg, g0, g1, g2, g3, g4, hv, hFg, hlt⟩ := h
  exact ⟨C, ty, A, c, A', c', (hb.block g (Array.getElem?_eq_some_iff.1 hg).1).trans hg, g0, g1, g2, g3, g4, hv.keep fun b hb' => hb.block b (hlt b hb'), hFg, fun b hb' => Nat.lt_of_lt_of_le (hlt b hb') hb.size⟩
theorem OAt.lt {w : World} {F : Nat → Prop} {t : VT} {g o : Nat} (h : OAt w F t g o) : g < w.heap.size := by
  obtain ⟨C, ty, A, c, A', c', hg, -⟩ := h
  exact (Array.getElem?_eq_some_iff.1 hg).1
theorem OAt.at {w : World} {F : Nat → Prop} {t : VT} {g o : Nat} (h : OAt w F t g o) : ∃ A c A' c', AtV w F t g o A c A' c' := by
  obtain ⟨C, ty, A, c, A', c', hg, g0, g1, g2, g3, g4, hv, hFg, hlt⟩ := h
  exact ⟨A, c, A', c', (Go.Joins.cell_of_block hg o).trans g0, (Go.Joins.cell_of_block hg _).trans g1, (Go.Joins.cell_of_block hg _).trans g2, (Go.Joins.cell_of_block hg _).trans g3, (Go.Joins.cell_of_block hg _).trans g4, hv.lv⟩
theorem DidAt.from {F : Nat → Prop} {g o : Nat} {w w1 : World} {res : Int × VT} {e : Ending} {w' : World} (h : DidAt F g o w1 res e w') (hb : Below w.heap.size w w1) (hg : g < w.heap.size) : DidAt F g o w res e w' := by
  obtain ⟨h0, F', h1, h2, m1, m2, m3, m4, m5, m6⟩ := h
  refine ⟨h0, F', fun b hb' => (h1 b hb').imp id fun hx => Nat.le_trans hb.size hx, h2, Nat.le_trans hb.size m1, fun b hb1 hF hne => (m2 b (Nat.lt_of_lt_of_le hb1 hb.size) hF hne).trans (hb.block b hb1), fun C ty fz hC => m3 C ty fz ((hb.block g hg).trans hC), m4.trans hb.os, m5.trans hb.tape, m6.trans hb.output⟩
theorem alongM_any (f : Nat) (caps : Array Value) (fin : VT → List ByteArray → Int × VT) (S : Nat → Prop) (J : World → Prop) (Q : VT → Prop) (hQ : ∀ t (j : Nat) (hj : j < t.items.length), Q t → Q t.items[j]) (hcf0 : Enters f) (hJ : ∀ w w', J w → Below w.heap.size w w' → J w')
    (hleaf : ∀ w t g o A c s r F, J w → OAt w F t g o → mayT t = true → Q t → StrsAt w S A (s :: r) → r.length + 1 ≤ c → c ≤ 9223372036854775807 → (∀ b, S b → b < w.heap.size) → (∀ b, S b → ¬ F b ∧ b ≠ g) → (placeT t s < 0 ∨ r = []) →
      Calls Try.prog f (#[.agg #[.pointer (some ⟨g, o, none⟩), .int .i64 (placeT t s), .slice A (r.length + 1) c]] ++ caps) w (DidAt F g o w (fin t (s :: r))))
    (t : VT) (g o : Nat) (A : Option Addr) (c : Nat) (p : List ByteArray) (w : World) (F : Nat → Prop) (hj : J w) (h : OAt w F t g o) (hm : mayT t = true) (hq : Q t) (hp : StrsAt w S A p) (hne : p ≠ []) (hpc : p.length ≤ c) (h63 : c ≤ 9223372036854775807) (hS : ∀ b, S b → b < w.heap.size) (hSF : ∀ b, S b → ¬ F b ∧ b ≠ g) :
    Calls Try.prog 28 #[.pointer (some ⟨g, o, none⟩), .slice A p.length c, .func (.func f) #[] caps] w (DidAt F g o w (goT fin t p)) := by
  refine along_any f caps (DidAt F g o w (goT fin t p)) (fun w1 t1 g1 o1 A1 c1 p1 => J w1 ∧ (∃ F1, OAt w1 F1 t1 g1 o1 ∧ (∀ b, S b → ¬ F1 b ∧ b ≠ g1) ∧ ∀ e w2, DidAt F1 g1 o1 w1 (goT fin t1 p1) e w2 → DidAt F g o w (goT fin t p) e w2) ∧ mayT t1 = true ∧ Q t1 ∧ StrsAt w1 S A1 p1 ∧ p1 ≠ [] ∧ p1.length ≤ c1 ∧ c1 ≤ 9223372036854775807 ∧ ∀ b, S b → b < w1.heap.size)
    hcf0 (fun e w' h => ⟨_, h.1⟩) ?_ ?_ ?_ ?_ ?_ p t g o A c w ⟨hj, ⟨F, h, hSF, fun _ _ h => h⟩, hm, hq, hp, hne, hpc, h63, hS⟩
  · rintro w1 t1 g1 o1 A1 c1 p1 ⟨-, ⟨F1, ho, -, -⟩, hm1, -, -⟩
    obtain ⟨B, k, B', k', hv⟩ := ho.at
    exact ⟨F1, B, k, B', k', hv, ho.lt, may_nl hm1⟩
  · rintro w1 t1 g1 o1 A1 c1 p1 ⟨-, -, -, -, hs, hn, hc, h63, -⟩
    exact ⟨S, hs, hc, h63, hn, strs_sizes hs⟩
  · rintro w1 w2 t1 g1 o1 A1 c1 p1 ⟨hj1, ⟨F1, ho, hSF1, hR⟩, hm1, hq1, hs, hn, hc, h63, hS1⟩ hb
    exact ⟨hJ _ _ hj1 hb, ⟨F1, ho.keep hb, hSF1, fun e w3 hd => hR e w3 (hd.from hb ho.lt)⟩, hm1, hq1, hs.keep fun b hb' => hb.block b (hS1 b hb'), hn, hc, h63, fun b hb' => Nat.lt_of_lt_of_le (hS1 b hb') hb.size⟩
  · rintro w1 t1 g1 o1 A1 c1 s r G off B k B' k' S' hjl ⟨hj1, ⟨F1, ho, hSF1, hR⟩, hm1, hq1, hs, hn, hc, h63, hS1⟩ hr hpl hat rfl
    obtain ⟨G', Fj, ⟨c', hcell⟩, hFG, hoj, hsub, hup⟩ := ho.item hjl
    have h1 := hcell.symm.trans hat.c3
    injection h1 with h1
    injection h1 with h1 _ _
    injection h1 with h1
    injection h1 with h1 h2
    subst h1 h2
    have hrl : 0 < r.length := by cases r with | nil => exact absurd rfl hr | cons a b => simp
    simp only [List.length_cons] at hc
    refine ⟨hj1, ⟨Fj, by rw [Nat.zero_add]; exact hoj, fun b hb => ⟨fun e => (hSF1 b hb).1 (hsub b e), fun e => (hSF1 b hb).1 (e ▸ hFG)⟩, fun e w2 hd => hR e w2 ?_⟩, may_item hm1 hjl, hQ _ _ hjl hq1, hs.tail (.inr (by omega)), hr, by omega, by omega, hS1⟩
    rw [Nat.zero_add] at hd
    obtain ⟨h0, F', k1, k2, k3⟩ := hd
    obtain ⟨F'', j1, j2, j3⟩ := hup w2 _ F' k3 k2 k1
    rw [goT_on hpl hr hjl]
    exact ⟨h0, F'', j1, j2, j3⟩
  · rintro w1 t1 g1 o1 A1 c1 s r ⟨hj1, ⟨F1, ho, hSF1, hR⟩, hm1, hq1, hs, hn, hc, h63, hS1⟩ hend
    refine (hleaf w1 t1 g1 o1 A1 c1 s r F1 hj1 ho hm1 hq1 hs (by simpa using hc) h63 hS1 hSF1 hend).mono fun e w2 hd => hR e w2 ?_
    rw [goT_end hend]
    exact hd
end Go.Proofs.Ytlddhpjokiphfaa

/- A document changed. -/
namespace Go.Proofs.Ytlddhpjokiphfaa
set_option linter.unusedVariables false
set_option linter.unusedSimpArgs false
open Go.RowKit
def nilT : VT := .mk 0 0 ⟨#[]⟩ [] []
/-- What a change answers: a code, and the value. -/
def changeT (fin : VT → List ByteArray → Int × VT) (t : VT) (p : List ByteArray) : Int × VT := if wrongT t p = 0 then (if (goT fin t p).1 = 0 then (0, (goT fin t p).2) else ((goT fin t p).1, nilT)) else (wrongT t p, nilT)
def ChangeR (res : Int × VT) (w : World) (e : Ending) (w' : World) : Prop :=
  ∃ v, e = .returned (.tuple #[v, .int .i64 res.1]) ∧ LV w' (Iv w.heap.size w'.heap.size) res.2 v ∧ Below w.heap.size w w'
theorem change_end {w w5 : World} {res : Int × VT} {u : VT} {x : Int} {c0 c1 c2 c3 c4 : Value} (hb : Below w.heap.size w w5) (hv : LV w5 (Iv (w.heap.size + 2) w5.heap.size) u (.agg #[c0, c1, c2, c3, c4])) (hr : res = (x, u)) :
    ChangeR res w (.returned (.tuple #[.agg #[c0, c1, c2, c3, c4], .int .i64 x])) (five w5 (w.heap.size + 1) 0 c0 c1 c2 c3 c4) := by
  have hr5 := five_rest w5 (w.heap.size + 1) 0 c0 c1 c2 c3 c4
  have hk := five_other w5 (w.heap.size + 1) 0 c0 c1 c2 c3 c4
  have hz := five_size w5 (w.heap.size + 1) 0 c0 c1 c2 c3 c4
  subst hr
  exact ⟨_, rfl, (hv.keep fun b hb' => hk b (by have := hb'.1; omega)).imp fun b hb' => ⟨by have := hb'.1; omega, by rw [hz]; exact hb'.2⟩,
    ⟨hr5.1.trans hb.os, hr5.2.1.trans hb.tape, hr5.2.2.trans hb.output, by rw [hz]; exact hb.size, fun b hb' => (hk b (by omega)).trans (hb.block b hb')⟩⟩
theorem nil_lv (w : World) (S : Nat → Prop) : LV w S nilT (.agg #[.int .i64 0, .int .i64 0, .string ⟨#[]⟩, .slice none 0 0, .slice none 0 0]) := leaf_lv w S 0 0 ⟨#[]⟩ (by unfold Rng; omega) (by unfold Rng; omega) (by decide)
set_option maxHeartbeats 4000000 in
set_option maxRecDepth 100000 in
theorem tchange_any (f : Nat) (caps : Array Value) (fin : VT → List ByteArray → Int × VT) (S : Nat → Prop) (J : World → Prop) (Q : VT → Prop) (hQ : ∀ t (j : Nat) (hj : j < t.items.length), Q t → Q t.items[j]) (hcf0 : Enters f) (hJ : ∀ w w', J w → Below w.heap.size w w' → J w')
    (hleaf : ∀ w t g o A c s r F, J w → OAt w F t g o → mayT t = true → Q t → StrsAt w S A (s :: r) → r.length + 1 ≤ c → c ≤ 9223372036854775807 → (∀ b, S b → b < w.heap.size) → (∀ b, S b → ¬ F b ∧ b ≠ g) → (placeT t s < 0 ∨ r = []) →
      Calls Try.prog f (#[.agg #[.pointer (some ⟨g, o, none⟩), .int .i64 (placeT t s), .slice A (r.length + 1) c]] ++ caps) w (DidAt F g o w (fin t (s :: r))))
    (t : VT) (v : Value) (A : Option Addr) (c : Nat) (p : List ByteArray) (w : World) (hj : J w) (hq : Q t) (hS : ∀ b, S b → b < w.heap.size) (h : LV w S t v) (hd : depthT t ≤ 4611686018427387903) (hp : StrsAt w S A p) (hn : p.length ≤ 140737488351232) (hpc : p.length ≤ c) (h63 : c ≤ 9223372036854775807) :
    Calls Try.prog 35 #[v, .slice A p.length c, .func (.func f) #[] caps] w (ChangeR (changeT fin t p) w) := by
  obtain ⟨A0, c0, A0', c0', rfl, -, -, -, v1, hb0⟩ := one_var hS h
  have HALONG := Lib.hid (alongM_any f caps fin S J Q hQ hcf0 hJ hleaf)
  have HJ := Lib.hid hJ
  have HJW := Lib.hid hj
  have HQT := Lib.hid hq
  have HX := Lib.hid v1.x
  have HB := Lib.hid hb0
  have HP := Lib.hid hp
  have HV := Lib.hid h
  have HD := Lib.hid hd
  clear h v1 hb0 hp hd hleaf hJ hcf0 hj hQ
  go_enter Try.func35, Try.ntmps35
  go_wp2_with fail
  have hz1 : (w.alloc (.cells #[.int .i64 t.kind, .int .i64 t.num, .string t.text, .slice A0 t.items.length c0, .slice A0' t.names.length c0'] 25)).heap.size = w.heap.size + 1 := by simp
  have hB0 : Below w.heap.size w ((w.alloc (.cells #[.int .i64 t.kind, .int .i64 t.num, .string t.text, .slice A0 t.items.length c0, .slice A0' t.names.length c0'] 25)).alloc (.cells #[.int .i64 0, .int .i64 0, .string ⟨#[]⟩, .slice none 0 0, .slice none 0 0] 25)) := HB.out.alloc (by omega) _
  have hX0 := HX.out.alloc (.cells #[.int .i64 0, .int .i64 0, .string ⟨#[]⟩, .slice none 0 0, .slice none 0 0] 25)
  have hR0 : Box ((w.alloc (.cells #[.int .i64 t.kind, .int .i64 t.num, .string t.text, .slice A0 t.items.length c0, .slice A0' t.names.length c0'] 25)).alloc (.cells #[.int .i64 0, .int .i64 0, .string ⟨#[]⟩, .slice none 0 0, .slice none 0 0] 25)) (w.heap.size + 1) (.int .i64 0) (.int .i64 0) (.string ⟨#[]⟩) (.slice none 0 0) (.slice none 0 0) := by
    have h := Box.new (w := w.alloc (.cells #[.int .i64 t.kind, .int .i64 t.num, .string t.text, .slice A0 t.items.length c0, .slice A0' t.names.length c0'] 25)) (.int .i64 0) (.int .i64 0) (.string ⟨#[]⟩) (.slice none 0 0) (.slice none 0 0)
    rw [hz1] at h
    exact h
  have hz2 : ((w.alloc (.cells #[.int .i64 t.kind, .int .i64 t.num, .string t.text, .slice A0 t.items.length c0, .slice A0' t.names.length c0'] 25)).alloc (.cells #[.int .i64 0, .int .i64 0, .string ⟨#[]⟩, .slice none 0 0, .slice none 0 0] 25)).heap.size = w.heap.size + 2 := by simp
  have HCHK := Lib.hid (tcheck_any S t _ A c p _ (fun b hb => Nat.lt_of_lt_of_le (hS b hb) hB0.size) (HV.out.keep fun b hb => hB0.block b (hS b hb)) HD.out (HP.out.keep fun b hb => hB0.block b (hS b hb)) hn)
  have HB0 := Lib.hid hB0
  have HX0 := Lib.hid hX0
  have HR0 := Lib.hid hR0
  clear hB0 hX0 hR0 hz1 HB HX
  go_wp2_with fail
  refine HCHK.out.mono ?_
  rintro e w3 ⟨rfl, hb3⟩
  have HB3 := Lib.hid (HB0.out.trans (hb3.mono (by omega)))
  have HX3 := Lib.hid (HX0.out.call hb3)
  have HR3 := Lib.hid (HR0.out.call hb3)
  have hz3 : w.heap.size + 2 ≤ w3.heap.size := by have := hb3.size; omega
  clear hb3 HB0 HX0 HR0 HCHK hz2
  obtain ⟨W, hW⟩ : ∃ W, W = wrongT t p := ⟨_, rfl⟩
  rw [← hW]
  have HW := Lib.hid hW
  clear hW
  have rf := fun i => HR3.out.free i
  have r0 := HR3.out.c0
  have r1 := HR3.out.c1
  have r2 := HR3.out.c2
  have r3 := HR3.out.c3
  have r4 := HR3.out.c4
  by_cases h0 : W = 0
  rotate_left
  · have h1 : (W != 0) = true := by simp [h0]
    have hg : changeT fin t p = (W, nilT) := by unfold changeT; rw [if_neg (by rw [← HW.out]; exact h0), HW.out]
    have HG := Lib.hid hg
    clear hg h0
    go_wp2_with fail
    refine bodyPost_ret (results_cell_two rfl _ _ (w.heap.size + 1) 25 _ (0, 0) rfl (five_box HR3.out) (by kernel_rfl)) rfl ?_
    exact change_end HB3.out (nil_lv _ _) HG.out
  subst h0
  obtain ⟨hm, h7, hmp⟩ := wrong_zero HW.out
  have HM := Lib.hid hm
  have HMP := Lib.hid hmp
  have HGT : Hid (changeT fin t p = if (goT fin t p).1 = 0 then (0, (goT fin t p).2) else ((goT fin t p).1, nilT)) := Lib.hid (by unfold changeT; rw [if_pos HW.out.symm])
  have q0 := HX3.out.c0
  have q1 := HX3.out.c1
  have q2 := HX3.out.c2
  have q3 := HX3.out.c3
  have q4 := HX3.out.c4
  have HCL := Lib.hid (clone_own S t _ w3 (fun b hb => by have := hS b hb; omega) (HV.out.keep fun b hb => HB3.out.block b (hS b hb)))
  clear hm h7 hmp r0 r1 r2 r3 r4 rf
  go_wp2_with fail
  refine HCL.out.mono ?_
  rintro e w4 ⟨v', rfl, hov, hb4⟩
  obtain ⟨B, k, B', k', ys, rfl, -⟩ := hov.shape
  have HOV := Lib.hid hov
  have HB4 := Lib.hid (HB3.out.trans (hb4.mono (show w.heap.size ≤ w3.heap.size by omega)))
  have HR4 := Lib.hid (HR3.out.call hb4)
  have hz4 := hb4.size
  clear hov hb4 HCL q0 q1 q2 q3 q4 HX3 HR3 HB3
  go_wp2_with fail
  have hb5 : Below w4.heap.size w4 (w4.alloc (.cells #[.int .i64 t.kind, .int .i64 t.num, .string t.text, .slice B t.items.length k, .slice B' t.names.length k'] 25)) := below_box _
  have hx5 : Box (w4.alloc (.cells #[.int .i64 t.kind, .int .i64 t.num, .string t.text, .slice B t.items.length k, .slice B' t.names.length k'] 25)) w4.heap.size _ _ _ _ _ := Box.new _ _ _ _ _
  have hz5 : (w4.alloc (.cells #[.int .i64 t.kind, .int .i64 t.num, .string t.text, .slice B t.items.length k, .slice B' t.names.length k'] 25)).heap.size = w4.heap.size + 1 := by simp
  generalize w4.alloc (.cells #[.int .i64 t.kind, .int .i64 t.num, .string t.text, .slice B t.items.length k, .slice B' t.names.length k'] 25) = w5 at *
  have hO5 : OAt w5 (Iv w3.heap.size w4.heap.size) t w4.heap.size 0 := ⟨_, _, B, k, B', k', hx5, rfl, rfl, rfl, rfl, rfl, HOV.out.keep fun b hb => hb5.block b hb.2, fun hb => by have := hb.2; omega, fun b hb => by have := hb.2; omega⟩
  have hB5 := HB4.out.trans (hb5.mono (show w.heap.size ≤ w4.heap.size by omega))
  have HR5 := Lib.hid (HR4.out.call hb5)
  have HCALL := Lib.hid (HALONG.out t w4.heap.size 0 A c p w5 _ (HJ.out _ _ HJW.out hB5) hO5 HM.out HQT.out (HP.out.keep fun b hb => hB5.block b (hS b hb)) (mayP_ne HMP.out) hpc h63 (fun b hb => by have := hS b hb; omega) (fun b hb => ⟨fun e => by have := hS b hb; have := e.1; omega, by have := hS b hb; omega⟩))
  have HB5 := Lib.hid hB5
  clear hb5 hx5 hO5 hB5 HR4 HB4 HOV HALONG HJ HJW HV
  refine HCALL.out.mono ?_
  rintro e w6 ⟨rfl, F, hF, ⟨C, ty, D, d, D', d', hg, g0, g1, g2, g3, g4, hv, hFg, hlt⟩, m1, m2, m3, m4, m5, m6⟩
  have hk : ∀ b, b < w.heap.size + 2 → w6.heap[b]? = w5.heap[b]? := fun b hb => m2 b (by omega) (fun x => by have := x.1; omega) (by omega)
  have HB6 : Hid (Below w.heap.size w w6) := Lib.hid ⟨m4.trans HB5.out.os, m5.trans HB5.out.tape, m6.trans HB5.out.output, Nat.le_trans HB5.out.size m1, fun b hb => (hk b (by omega)).trans (HB5.out.block b hb)⟩
  have HR6 : Hid (Box w6 (w.heap.size + 1) _ _ _ _ _) := Lib.hid ((hk _ (by omega)).trans HR5.out)
  have HV6 := Lib.hid (hv.lv.imp (S' := Iv (w.heap.size + 2) w6.heap.size) fun b hb => ⟨(hF b hb).elim (fun x => by have := x.1; omega) (fun x => by omega), hlt b hb⟩)
  have x0 := (Go.Joins.cell_of_block hg 0).trans g0
  have x1 := (Go.Joins.cell_of_block hg 1).trans g1
  have x2 := (Go.Joins.cell_of_block hg 2).trans g2
  have x3 := (Go.Joins.cell_of_block hg 3).trans g3
  have x4 := (Go.Joins.cell_of_block hg 4).trans g4
  clear hk hF hg g0 g1 g2 g3 g4 hv hFg hlt m1 m2 m3 m4 m5 m6 HCALL HR5 HB5
  generalize hres : goT fin t p = res at *
  obtain ⟨x, u⟩ := res
  simp only at *
  have r0 := HR6.out.c0
  have r1 := HR6.out.c1
  have r2 := HR6.out.c2
  have r3 := HR6.out.c3
  have r4 := HR6.out.c4
  have rf := fun i => HR6.out.free i
  clear hres
  by_cases hx : x = 0
  · subst hx
    have hg : changeT fin t p = (0, u) := by rw [HGT.out]; rfl
    have HG := Lib.hid hg
    clear hg HGT
    go_wp2_with fail
    refine bodyPost_ret (results_cell_two rfl _ _ (w.heap.size + 1) 25 _ (0, 0) rfl (five_box HR6.out) (by kernel_rfl)) rfl ?_
    exact change_end HB6.out HV6.out HG.out
  · have h1 : (x != 0) = true := by simp [hx]
    have hg : changeT fin t p = (x, nilT) := by rw [HGT.out, if_neg hx]
    have HG := Lib.hid hg
    clear hg HGT hx
    go_wp2_with fail
    refine bodyPost_ret (results_cell_two rfl _ _ (w.heap.size + 1) 25 _ (0, 0) rfl (five_box HR6.out) (by kernel_rfl)) rfl ?_
    exact change_end HB6.out (nil_lv _ _) HG.out
end Go.Proofs.Ytlddhpjokiphfaa
