/- A name, or an item, put behind the others. -/
import Derived.Test.YtnamdlljdgllmaaGreatKTrW
import Derived.Test.YtnamdlljdgllmaaGreatKRegR
namespace Go.Proofs.YtnamdlljdgllmaaGreat
set_option linter.unusedVariables false
set_option linter.unusedSimpArgs false
open Go.RowKit
def cntT (t : VT) : Prop := ∃ d, nodesT d t ≤ 3000
theorem nodesL_geq (d : Nat) : ∀ (l : List VT) (n : Nat), n ≤ nodesL d n l
  | [], n => by unfold nodesL; exact Nat.le_refl _
  | t :: r, n => by
    unfold nodesL
    split
    · exact Nat.le_trans (Nat.le_add_right _ _) (nodesL_geq d r _)
    · exact Nat.le_refl _
theorem nodesT_one (d : Nat) (t : VT) : 1 ≤ nodesT d t := by
  cases t with
  | mk k i s l ns =>
    unfold nodesT
    split
    · omega
    · have := nodesL_geq d l (1 + ns.length); omega
theorem nodesL_lens (d : Nat) : ∀ (l : List VT) (n : Nat), nodesL d n l ≤ 3000 → n + l.length ≤ 3000 ∧ ∀ j (hj : j < l.length), nodesT (d + 1) l[j] ≤ 3000
  | [], n, h => by unfold nodesL at h; exact ⟨by simpa using h, fun j hj => absurd hj (by simp)⟩
  | t :: r, n, h => by
    unfold nodesL at h
    split at h
    · have h1 := nodesL_lens d r _ h
      have h2 := nodesT_one (d + 1) t
      refine ⟨by simp only [List.length_cons]; omega, fun j hj => ?_⟩
      cases j with
      | zero => simp only [List.getElem_cons_zero]; omega
      | succ j => exact h1.2 j (by simpa using hj)
    · omega
theorem cntT.lens {t : VT} (h : cntT t) : t.items.length ≤ 3000 ∧ t.names.length ≤ 3000 := by
  obtain ⟨d, h⟩ := h
  cases t with
  | mk k i s l ns =>
    unfold nodesT at h
    split at h
    · omega
    · have := (nodesL_lens d l _ h).1
      simp only [VT.items, VT.names]
      omega
theorem cntT.item (t : VT) (j : Nat) (hj : j < t.items.length) (h : cntT t) : cntT t.items[j] := by
  obtain ⟨d, h⟩ := h
  cases t with
  | mk k i s l ns =>
    unfold nodesT at h
    split at h
    · omega
    · exact ⟨d + 1, (nodesL_lens d l _ h).2 j hj⟩
mutual
def lensT (K : Nat) : VT → Bool
  | .mk _ _ _ l ns => decide (l.length ≤ K) && (decide (ns.length ≤ K) && lensL K l)
def lensL (K : Nat) : List VT → Bool
  | [] => true
  | t :: r => lensT K t && lensL K r
end
theorem lensL_iff {K : Nat} : ∀ {l : List VT}, lensL K l = true ↔ ∀ x ∈ l, lensT K x = true
  | [] => by simp [lensL]
  | t :: r => by rw [lensL, Bool.and_eq_true, lensL_iff]; simp
theorem lensT_iff {K : Nat} (t : VT) : lensT K t = true ↔ t.items.length ≤ K ∧ t.names.length ≤ K ∧ ∀ x ∈ t.items, lensT K x = true := by
  cases t with
  | mk k i s l ns => rw [lensT, Bool.and_eq_true, Bool.and_eq_true, lensL_iff, decide_eq_true_eq, decide_eq_true_eq]; rfl
mutual
theorem lens_mono {K K' : Nat} (h : K ≤ K') : ∀ t : VT, lensT K t = true → lensT K' t = true
  | .mk k i s l ns, h1 => by
    rw [lensT, Bool.and_eq_true, Bool.and_eq_true, decide_eq_true_eq, decide_eq_true_eq] at h1 ⊢
    exact ⟨by omega, by omega, lensL_mono h l h1.2.2⟩
theorem lensL_mono {K K' : Nat} (h : K ≤ K') : ∀ l : List VT, lensL K l = true → lensL K' l = true
  | [], _ => rfl
  | t :: r, h1 => by
    rw [lensL, Bool.and_eq_true] at h1 ⊢
    exact ⟨lens_mono h t h1.1, lensL_mono h r h1.2⟩
end
mutual
theorem lens_cnt : ∀ t : VT, cntT t → lensT 3000 t = true
  | .mk k i s l ns, h => by
    have h1 := cntT.lens h
    rw [lensT, Bool.and_eq_true, Bool.and_eq_true, decide_eq_true_eq, decide_eq_true_eq]
    refine ⟨h1.1, h1.2, lensL_cnt l fun x hx => ?_⟩
    obtain ⟨j, hj, rfl⟩ := List.mem_iff_getElem.1 hx
    exact cntT.item (.mk k i s l ns) j hj h
theorem lensL_cnt : ∀ l : List VT, (∀ x ∈ l, cntT x) → lensL 3000 l = true
  | [], _ => rfl
  | t :: r, h => by
    rw [lensL, Bool.and_eq_true]
    exact ⟨lens_cnt t (h t (by simp)), lensL_cnt r fun x hx => h x (by simp [hx])⟩
end
def smallT (t : VT) : Prop := lensT 10000 t = true
theorem smallT.lens {t : VT} (h : smallT t) : t.items.length ≤ 10000 ∧ t.names.length ≤ 10000 := ⟨((lensT_iff t).1 h).1, ((lensT_iff t).1 h).2.1⟩
theorem smallT.item (t : VT) (j : Nat) (hj : j < t.items.length) (h : smallT t) : smallT t.items[j] := ((lensT_iff t).1 h).2.2 _ (List.getElem_mem hj)
theorem lens_of {t : VT} (h : largeT t = false) : lensT 3000 t = true := lens_cnt t ⟨0, by unfold largeT at h; simpa using h⟩
def addN : VT → ByteArray → VT
  | .mk k i s l ns, x => .mk k i s l (ns ++ [x])
def addI : VT → VT → VT
  | .mk k i s l ns, x => .mk k i s (l ++ [x]) ns
theorem OVs.snoc {w : World} : ∀ {l : List VT} {F F2 : Nat → Prop} {xs : List Value} {y : VT} {c0 c1 c2 c3 c4 : Value}, OVs w F l xs → OV w F2 y (.agg #[c0, c1, c2, c3, c4]) → (∀ b, F b → F2 b → False) → OVs w (fun b => F b ∨ F2 b) (l ++ [y]) (xs ++ [c0, c1, c2, c3, c4])
  | [], F, F2, xs, y, c0, c1, c2, c3, c4, h, h2, hd => by
    unfold OVs at h
    subst h
    show OVs w _ [y] _
    unfold OVs
    exact ⟨c0, c1, c2, c3, c4, [], F2, fun _ => False, rfl, h2, ovs_nil _ _, fun b hb => .inr hb, fun _ h => h.elim, fun _ _ h => h⟩
  | t :: r, F, F2, xs, y, c0, c1, c2, c3, c4, h, h2, hd => by
    unfold OVs at h
    obtain ⟨d0, d1, d2, d3, d4, ys, F3, F4, rfl, k1, k2, k3, k4, k5⟩ := h
    have := OVs.snoc k2 h2 (fun b hb => hd b (k4 b hb))
    show OVs w _ (t :: (r ++ [y])) (d0 :: d1 :: d2 :: d3 :: d4 :: (ys ++ [c0, c1, c2, c3, c4]))
    unfold OVs
    exact ⟨d0, d1, d2, d3, d4, _, F3, _, rfl, k1, this, fun b hb => .inl (k3 b hb), fun b hb => hb.imp (k4 b) id, fun b x z => z.elim (k5 b x) (fun z => hd b (k3 b x) z)⟩
theorem row_at {w : World} {B : Nat} {e : TypeId} {size n c : Nat} {A : Option Addr} {xs : List Value} (h : w.ownsRow B e size (.slice A n c) n xs) : ∀ a, A = some a → a = ⟨a.block, 0, none⟩ := by
  intro a ha
  rcases h.2 with ⟨h2, -⟩ | ⟨g, cap, cur, hv, -⟩
  · injection h2 with e1; rw [ha] at e1; cases e1
  · injection hv with e1; rw [ha] at e1; injection e1 with e1; rw [e1]
theorem Own.trans {F F' F'' : Nat → Prop} {a b : World} (h : Own F a F') (k : Own F' b F'') (hs : a.heap.size ≤ b.heap.size) : Own F a F'' := fun x hx => (k x hx).elim (h x) fun h => .inr (by omega)
theorem Mut.trans {F F' : Nat → Prop} {g o : Nat} {a b c : World} (h : Mut F g o a b) (ho : Own F a F') (k : Mut F' g o b c) : Mut F g o a c := by
  obtain ⟨h1, h2, h3, h4, h5, h6⟩ := h
  obtain ⟨k1, k2, k3, k4, k5, k6⟩ := k
  refine ⟨Nat.le_trans h1 k1, fun x hx hF hne => (k2 x (by omega) (fun e => (ho x e).elim hF (fun e => by omega)) hne).trans (h2 x hx hF hne), fun C ty fz hC => ?_, k4.trans h4, k5.trans h5, k6.trans h6⟩
  obtain ⟨C1, e1, e2, e3⟩ := h3 C ty fz hC
  obtain ⟨C2, f1, f2, f3⟩ := k3 C1 ty fz e1
  exact ⟨C2, f1, f2.trans e2, fun i hi => (f3 i hi).trans (e3 i hi)⟩
theorem Mut.below {F : Nat → Prop} {g o : Nat} {a b : World} (h : Below a.heap.size a b) (hg : g < a.heap.size) : Mut F g o a b :=
  ⟨h.size, fun x hx _ _ => h.block x hx, fun C ty fz hC => ⟨C, (h.block g hg).trans hC, rfl, fun _ _ => rfl⟩, h.os, h.tape, h.output⟩
theorem OAt.addItem {w : World} {F : Nat → Prop} {t : VT} {g o : Nat} (h : OAt w F t g o) : ∃ (A : Option Addr) (c : Nat) (xs : List Value), w.cell? ⟨g, o + 3, none⟩ = some (.slice A t.items.length c) ∧ w.ownsRow 0 29 5 (.slice A t.items.length c) t.items.length xs ∧ (∀ a, A = some a → F a.block ∧ a.block < w.heap.size ∧ a.block ≠ g) ∧
    ∀ (m : Nat) (W : World) (p cap : Nat) (y : VT) (c0 c1 c2 c3 c4 : Value) (Fy : Nat → Prop), m ≤ w.heap.size → t.items.length < 1759218604390 →
      (∀ C ty, w.heap[g]? = some (.cells C ty (0, 0)) → W.heap[g]? = some (.cells (C.setIfInBounds (o + 3) (.slice (some ⟨p, 0, none⟩) (t.items.length + 1) cap)) ty (0, 0))) →
      W.ownsRow 0 29 5 (.slice (some ⟨p, 0, none⟩) (t.items.length + 1) cap) (t.items.length + 1) (xs ++ [c0, c1, c2, c3, c4]) →
      (A = some ⟨p, 0, none⟩ ∨ w.heap.size ≤ p) → (∀ b, b < w.heap.size → b ≠ g → (∀ a, A = some a → a.block ≠ b) → W.heap[b]? = w.heap[b]?) →
      OV W Fy y (.agg #[c0, c1, c2, c3, c4]) → (∀ b, Fy b → m ≤ b ∧ b < W.heap.size ∧ b ≠ p ∧ ¬ F b ∧ b ≠ g) → w.heap.size ≤ W.heap.size → W.os = w.os → W.tape = w.tape → W.output = w.output →
      ∃ F', (∀ b, F' b → F b ∨ m ≤ b) ∧ OAt W F' (addI t y) g o ∧ Mut F g o w W := by
  obtain ⟨C, ty, A, c, A', c', hg, g0, g1, g2, g3, g4, hv, hFg, hlt⟩ := h
  cases t with
  | mk k i s l ns =>
  simp only [VT.kind, VT.num, VT.text, VT.items, VT.names] at *
  unfold OV at hv
  obtain ⟨A1, c1, A1', c1', xs, hag, h1, h2, h3, h4, h5, h6, h7, h8, h9, h10, h11, h12⟩ := hv
  injection hag with hag; injection hag with hag
  injection hag with y0 hag; injection hag with y1 hag; injection hag with y2 hag; injection hag with y3 hag; injection hag with y4 hag
  injection y3 with e1 _ e3
  injection y4 with e4 _ e6
  subst e1 e3 e4 e6
  have hgs := (Array.getElem?_eq_some_iff.1 hg).1
  refine ⟨A, c, xs, (Go.Joins.cell_of_block hg (o + 3)).trans g3, h8, fun a ha => ⟨h10 a ha, hlt _ (h10 a ha), fun e => hFg (e ▸ h10 a ha)⟩, ?_⟩
  intro m W p cap y d0 d1 d2 d3 d4 Fy hm hl hW hrow hp hoth hy hFy hsz hos htp hou
  have hWg := hW C ty hg
  have hpW : p < W.heap.size := by
    rcases hrow.2 with ⟨h, -⟩ | ⟨q, cap, cur, hv, -, hh, -⟩
    · cases h
    · injection hv with e1; injection e1 with e1; injection e1 with e1; subst e1
      exact (Array.getElem?_eq_some_iff.1 hh).1
  have hpF : F p ∨ w.heap.size ≤ p := hp.imp (fun e => h10 _ e) id
  have hpg : p ≠ g := by
    rcases hpF with h | h
    · exact fun e => hFg (e ▸ h)
    · omega
  have hold : ∀ b, Out F A A' b → W.heap[b]? = w.heap[b]? := fun b hb => hoth b (hlt b hb.1) (fun e => hFg (e ▸ hb.1)) hb.2.1
  have hset : OV W (fun b => F b ∨ Fy b ∨ b = p) (.mk k i s (l ++ [y]) ns) (.agg #[.int .i64 k, .int .i64 i, .string s, .slice (some ⟨p, 0, none⟩) (l ++ [y]).length cap, .slice A' ns.length c']) := by
    have hln : (l ++ [y]).length = l.length + 1 := by simp
    refine OV.mk h1 h2 h3 (by rw [hln]; omega) h5 h6 (row_keep h7 fun a ha => hoth _ (hlt _ (h9 a ha)) (fun e => hFg (e ▸ h9 a ha)) (fun a' ha' => h11 a' a ha' ha)) (by rw [hln]; exact hrow) (fun a ha => .inl (h9 a ha)) (fun a ha => by cases ha; exact .inr (.inr rfl)) (fun a a' ha ha' => ?_) ?_
    · cases ha
      rcases hp with h | h
      · exact h11 _ a' h ha'
      · have := hlt _ (h9 a' ha')
        show p ≠ a'.block
        omega
    · refine (OVs.snoc (h12.keep hold) hy (fun b hb hb' => (hFy b hb').2.2.2.1 hb.1)).imp ?_
      rintro b (hb | hb)
      · refine ⟨.inl hb.1, fun a ha => ?_, hb.2.2⟩
        cases ha
        rcases hp with h | h
        · exact hb.2.1 _ h
        · have := hlt b hb.1
          show p ≠ b
          omega
      · have := hFy b hb
        refine ⟨.inr (.inl hb), fun a ha => ?_, fun a ha => ?_⟩
        · cases ha; exact fun e => this.2.2.1 e.symm
        · exact fun e => this.2.2.2.1 (e ▸ h9 a ha)
  refine ⟨_, ?_, ⟨_, ty, some ⟨p, 0, none⟩, cap, A', c', hWg, ?_, ?_, ?_, ?_, ?_, hset, ?_, ?_⟩, hsz, ?_, ?_, hos, htp, hou⟩
  · rintro b (hb | hb | rfl)
    · exact .inl hb
    · exact .inr (hFy b hb).1
    · exact hpF.imp id fun h => by omega
  · rw [Array.getElem?_setIfInBounds, if_neg (by omega)]; exact g0
  · rw [Array.getElem?_setIfInBounds, if_neg (by omega)]; exact g1
  · rw [Array.getElem?_setIfInBounds, if_neg (by omega)]; exact g2
  · rw [Array.getElem?_setIfInBounds, if_pos rfl, if_pos (Array.getElem?_eq_some_iff.1 g3).1]; show some (Value.slice _ _ _) = some (Value.slice _ (l ++ [y]).length _); simp
  · rw [Array.getElem?_setIfInBounds, if_neg (by omega)]; exact g4
  · rintro (hb | hb | hb)
    · exact hFg hb
    · exact (hFy _ hb).2.2.2.2 rfl
    · exact hpg hb.symm
  · rintro b (hb | hb | rfl)
    · exact Nat.lt_of_lt_of_le (hlt b hb) hsz
    · exact (hFy b hb).2.1
    · exact hpW
  · intro b hb hnF hne
    exact hoth b hb hne (fun a ha e => hnF (e ▸ h10 a ha))
  · intro C2 ty2 fz hC2
    have e := hg.symm.trans hC2
    injection e with e
    injection e with e1 e2 e3
    subst e1 e2 e3
    exact ⟨_, hWg, by simp, fun m hm' => by rw [Array.getElem?_setIfInBounds, if_neg (by omega)]⟩
theorem OAt.addName {w : World} {F : Nat → Prop} {t : VT} {g o : Nat} (h : OAt w F t g o) : ∃ (A : Option Addr) (c : Nat), w.cell? ⟨g, o + 4, none⟩ = some (.slice A t.names.length c) ∧ w.ownsRow 0 9 1 (.slice A t.names.length c) t.names.length (t.names.map Value.string) ∧ (∀ a, A = some a → F a.block ∧ a.block < w.heap.size ∧ a.block ≠ g) ∧
    ∀ (W : World) (p cap : Nat) (x : ByteArray), t.names.length < 8796093021952 → x.size ≤ 140737488351232 →
      (∀ C ty, w.heap[g]? = some (.cells C ty (0, 0)) → W.heap[g]? = some (.cells (C.setIfInBounds (o + 4) (.slice (some ⟨p, 0, none⟩) (t.names.length + 1) cap)) ty (0, 0))) →
      W.ownsRow 0 9 1 (.slice (some ⟨p, 0, none⟩) (t.names.length + 1) cap) (t.names.length + 1) (t.names.map Value.string ++ [.string x]) →
      (A = some ⟨p, 0, none⟩ ∨ w.heap.size ≤ p) → (∀ b, b < w.heap.size → b ≠ g → (∀ a, A = some a → a.block ≠ b) → W.heap[b]? = w.heap[b]?) →
      w.heap.size ≤ W.heap.size → W.os = w.os → W.tape = w.tape → W.output = w.output →
      ∃ F', Own F w F' ∧ OAt W F' (addN t x) g o ∧ Mut F g o w W := by
  obtain ⟨C, ty, A, c, A', c', hg, g0, g1, g2, g3, g4, hv, hFg, hlt⟩ := h
  cases t with
  | mk k i s l ns =>
  simp only [VT.kind, VT.num, VT.text, VT.items, VT.names] at *
  unfold OV at hv
  obtain ⟨A1, c1, A1', c1', xs, hag, h1, h2, h3, h4, h5, h6, h7, h8, h9, h10, h11, h12⟩ := hv
  injection hag with hag; injection hag with hag
  injection hag with y0 hag; injection hag with y1 hag; injection hag with y2 hag; injection hag with y3 hag; injection hag with y4 hag
  injection y3 with e1 _ e3
  injection y4 with e4 _ e6
  subst e1 e3 e4 e6
  have hgs := (Array.getElem?_eq_some_iff.1 hg).1
  refine ⟨A', c', (Go.Joins.cell_of_block hg (o + 4)).trans g4, h7, fun a ha => ⟨h9 a ha, hlt _ (h9 a ha), fun e => hFg (e ▸ h9 a ha)⟩, ?_⟩
  intro W p cap x hl hx hW hrow hp hoth hsz hos htp hou
  have hWg := hW C ty hg
  have hpW : p < W.heap.size := by
    rcases hrow.2 with ⟨h, -⟩ | ⟨q, cap, cur, hv, -, hh, -⟩
    · cases h
    · injection hv with e1; injection e1 with e1; injection e1 with e1; subst e1
      exact (Array.getElem?_eq_some_iff.1 hh).1
  have hpF : F p ∨ w.heap.size ≤ p := hp.imp (fun e => h9 _ e) id
  have hpg : p ≠ g := by
    rcases hpF with h | h
    · exact fun e => hFg (e ▸ h)
    · omega
  have hold : ∀ b, Out F A A' b → W.heap[b]? = w.heap[b]? := fun b hb => hoth b (hlt b hb.1) (fun e => hFg (e ▸ hb.1)) hb.2.2
  have hset : OV W (fun b => F b ∨ b = p) (.mk k i s l (ns ++ [x])) (.agg #[.int .i64 k, .int .i64 i, .string s, .slice A l.length c, .slice (some ⟨p, 0, none⟩) (ns ++ [x]).length cap]) := by
    have hln : (ns ++ [x]).length = ns.length + 1 := by simp
    refine OV.mk h1 h2 h3 h4 (by rw [hln]; omega) (fun y hy => (List.mem_append.1 hy).elim (h6 y) (fun e => by rw [List.mem_singleton.1 e]; exact hx)) (by rw [hln, List.map_append]; exact hrow) (row_keep h8 fun a ha => hoth _ (hlt _ (h10 a ha)) (fun e => hFg (e ▸ h10 a ha)) (fun a' ha' => fun e => h11 a a' ha ha' e.symm)) (fun a ha => by cases ha; exact .inr rfl) (fun a ha => .inl (h10 a ha)) (fun a a' ha ha' => ?_) ?_
    · cases ha'
      rcases hp with h | h
      · exact h11 a _ ha h
      · have := hlt _ (h10 a ha)
        show a.block ≠ p
        omega
    · refine (h12.keep hold).imp fun b hb => ⟨.inl hb.1, hb.2.1, fun a ha => ?_⟩
      cases ha
      rcases hp with h | h
      · exact hb.2.2 _ h
      · have := hlt b hb.1
        show p ≠ b
        omega
  refine ⟨_, ?_, ⟨_, ty, A, c, some ⟨p, 0, none⟩, cap, hWg, ?_, ?_, ?_, ?_, ?_, hset, ?_, ?_⟩, hsz, ?_, ?_, hos, htp, hou⟩
  · rintro b (hb | rfl)
    · exact .inl hb
    · exact hpF
  · rw [Array.getElem?_setIfInBounds, if_neg (by omega)]; exact g0
  · rw [Array.getElem?_setIfInBounds, if_neg (by omega)]; exact g1
  · rw [Array.getElem?_setIfInBounds, if_neg (by omega)]; exact g2
  · rw [Array.getElem?_setIfInBounds, if_neg (by omega)]; exact g3
  · rw [Array.getElem?_setIfInBounds, if_pos rfl, if_pos (Array.getElem?_eq_some_iff.1 g4).1]; show some (Value.slice _ _ _) = some (Value.slice _ (ns ++ [x]).length _); simp
  · rintro (hb | hb)
    · exact hFg hb
    · exact hpg hb.symm
  · rintro b (hb | rfl)
    · exact Nat.lt_of_lt_of_le (hlt b hb) hsz
    · exact hpW
  · intro b hb hnF hne
    exact hoth b hb hne (fun a ha e => hnF (e ▸ h9 a ha))
  · intro C2 ty2 fz hC2
    have e := hg.symm.trans hC2
    injection e with e
    injection e with e1 e2 e3
    subst e1 e2 e3
    exact ⟨_, hWg, by simp, fun m hm' => by rw [Array.getElem?_setIfInBounds, if_neg (by omega)]⟩
theorem set5row (xs : List Value) (z0 z1 z2 z3 z4 c0 c1 c2 c3 c4 : Value) (n : Nat) (hn : n = xs.length) :
    (((((xs ++ [z0, z1, z2, z3, z4]).set n c0).set (n + 1) c1).set (n + 2) c2).set (n + 3) c3).set (n + 4) c4 = xs ++ [c0, c1, c2, c3, c4] := by
  subst hn
  rw [List.set_append_right _ _ (by omega), List.set_append_right _ _ (by omega), List.set_append_right _ _ (by omega), List.set_append_right _ _ (by omega), List.set_append_right _ _ (by omega)]
  simp
theorem store5row {w : World} {B q cap n : Nat} {xs : List Value} {z0 z1 z2 z3 z4 : Value} (c0 c1 c2 c3 c4 : Value) (h : w.ownsRow B 29 5 (.slice (some ⟨q, 0, none⟩) (n + 1) cap) (n + 1) (xs ++ [z0, z1, z2, z3, z4])) (hx : xs.length = n * 5) :
    (five w q (n * 5) c0 c1 c2 c3 c4).ownsRow B 29 5 (.slice (some ⟨q, 0, none⟩) (n + 1) cap) (n + 1) (xs ++ [c0, c1, c2, c3, c4]) := by
  have h0 := (World.ownsRow.stored h (n * 5) c0).1
  have h1 := (World.ownsRow.stored h0 (n * 5 + 1) c1).1
  have h2 := (World.ownsRow.stored h1 (n * 5 + 2) c2).1
  have h3 := (World.ownsRow.stored h2 (n * 5 + 3) c3).1
  have h4 := (World.ownsRow.stored h3 (n * 5 + 4) c4).1
  rw [set5row _ _ _ _ _ _ _ _ _ _ _ _ hx.symm] at h4
  exact h4
end Go.Proofs.YtnamdlljdgllmaaGreat
