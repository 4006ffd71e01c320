/- Lists of bodies; which frames stand, by the document. -/
import Derived.Test.YtlhkcpfjnhbocaaKFrmD
import Derived.Test.YtlhkcpfjnhbocaaKAppW
import Derived.Test.YtlhkcpfjnhbocaaKReg
namespace Go.Proofs.Ytlhkcpfjnhbocaa
set_option linter.unusedVariables false
set_option linter.unusedSimpArgs false
open Go.RowKit

/-- A slice value that reads as l, in blocks of S. -/
def RdS (w : World) (S : Nat → Prop) (v : Value) (l : List UInt8) : Prop :=
  ∃ (A : Option Addr) (cap : Nat), v = .slice A l.length cap ∧ l.length ≤ cap ∧ (cap ≤ 9223372036854775807 ∧ (A = none → cap = 0)) ∧
    (0 < l.length → ∃ b off, A = some ⟨b, off, none⟩ ∧ S b ∧ ∀ i (h : i < l.length), w.cell? ⟨b, off + i, none⟩ = some (.int .u8 (l[i].toNat : Int)))
theorem RdS.keep {w w' : World} {S : Nat → Prop} {v : Value} {l : List UInt8} (h : RdS w S v l) (hk : ∀ b, S b → w'.heap[b]? = w.heap[b]?) : RdS w' S v l := by
  obtain ⟨A, cap, hv, hc, hm, h1⟩ := h
  refine ⟨A, cap, hv, hc, hm, fun hl => ?_⟩
  obtain ⟨b, off, hA, hS, hcell⟩ := h1 hl
  exact ⟨b, off, hA, hS, fun i hi => (World.cell?_of_block (a := ⟨b, off + i, none⟩) (hk b hS)).trans (hcell i hi)⟩
theorem RdS.imp {w : World} {S T : Nat → Prop} {v : Value} {l : List UInt8} (h : RdS w S v l) (hk : ∀ b, S b → T b) : RdS w T v l := by
  obtain ⟨A, cap, hv, hc, hm, h1⟩ := h
  refine ⟨A, cap, hv, hc, hm, fun hl => ?_⟩
  obtain ⟨b, off, hA, hS, hcell⟩ := h1 hl
  exact ⟨b, off, hA, hk b hS, hcell⟩
theorem RdS.rd {w : World} {S : Nat → Prop} {B : Nat} {v : Value} {l : List UInt8} (h : RdS w S v l) (hk : ∀ b, S b → b < B) : Rd w B v l := h.imp (T := fun b => b < B) hk
theorem OwnB.rds {w : World} {B : Nat} {v : Value} {l : List UInt8} (h : OwnB w B v l) : RdS w (fun b => B ≤ b ∧ b < w.heap.size ∧ v.ownBlock = some b) v l := by
  have hc := fun g hg => World.ownsRow.cells (g := g) h hg
  have hlt := World.ownsRow.lt h
  rcases h.2 with ⟨rfl, h0⟩ | ⟨g, cap, cur, rfl, hB, hh, hcap, hm, -⟩
  · have hl : l = [] := List.eq_nil_of_length_eq_zero h0
    subst hl
    exact ⟨none, 0, rfl, Nat.le_refl _, ⟨by omega, fun _ => rfl⟩, fun h => absurd h (by simp)⟩
  · refine ⟨some ⟨g, 0, none⟩, cap, rfl, hcap, ⟨by unfold maxLen at hm; omega, fun h => by cases h⟩, fun hp => ⟨g, 0, rfl, ⟨hB, (hlt g rfl).2, rfl⟩, fun i hi => ?_⟩⟩
    have h1 := hc g rfl i (.int .u8 (l[i].toNat : Int)) (by simp [bcells, hi])
    rw [addr_addY] at h1
    exact h1

/-- A row of bodies of the call's own, and bodies that lie apart from it. -/
def Bods (w : World) (B : Nat) (v : Value) (ls : List (List UInt8)) : Prop :=
  ∃ vs : List Value, vs.length = ls.length ∧ w.ownsRow B 22 1 v ls.length vs ∧ ∀ i (h : i < ls.length) (h' : i < vs.length), RdS w (fun b => B ≤ b ∧ b < w.heap.size ∧ v.ownBlock ≠ some b) vs[i] ls[i]
theorem Bods.nil (w : World) (B : Nat) : Bods w B (.slice none 0 0) [] := ⟨[], rfl, World.ownsRow_nil _ _ _ _, fun i h => absurd h (by simp)⟩
theorem ownsRow_below {w w' : World} {B : Nat} {t : TypeId} {k : Nat} {v : Value} {n : Nat} {xs : List Value} (h : w.ownsRow B t k v n xs) (hb : Below w.heap.size w w') : w'.ownsRow B t k v n xs := by
  obtain ⟨h1, h2⟩ := h
  refine ⟨h1, ?_⟩
  rcases h2 with h2 | ⟨g, cap, cur, hv, hg, hh, r⟩
  · exact Or.inl h2
  · refine Or.inr ⟨g, cap, cur, hv, hg, ?_, r⟩
    have hlt : g < w.heap.size := (Array.getElem?_eq_some_iff.1 hh).1
    rw [hb.block g hlt]; exact hh
theorem Bods.below {w w' : World} {B : Nat} {v : Value} {ls : List (List UInt8)} (h : Bods w B v ls) (hb : Below w.heap.size w w') : Bods w' B v ls := by
  obtain ⟨vs, h1, h2, h3⟩ := h
  refine ⟨vs, h1, ownsRow_below h2 hb, fun i hi hi' => ?_⟩
  exact ((h3 i hi hi').keep fun b hb' => hb.block b hb'.2.1).imp fun b hb' => ⟨hb'.1, Nat.lt_of_lt_of_le hb'.2.1 hb.size, hb'.2.2⟩
theorem Bods.shape {w : World} {B : Nat} {v : Value} {ls : List (List UInt8)} (h : Bods w B v ls) : ∃ A c, v = .slice A ls.length c ∧ (A = none → c = 0) ∧ ls.length ≤ c := by
  obtain ⟨vs, h1, h2, -⟩ := h
  rcases h2.2 with ⟨rfl, h0⟩ | ⟨g, cap, cur, rfl, -, -, hc, -⟩
  · exact ⟨none, 0, by rw [h0], fun _ => rfl, by omega⟩
  · exact ⟨_, cap, rfl, (fun h => by cases h), hc⟩
/-- As rows that lie below the end. -/
theorem Bods.at {w : World} {B : Nat} {v : Value} {ls : List (List UInt8)} {A : Option Addr} {n c : Nat} (h : Bods w B v ls) (hv : v = .slice A n c) : BssAt w w.heap.size A ls := by
  obtain ⟨vs, h1, h2, h3⟩ := h
  intro hp
  rcases h2.2 with ⟨rfl, h0⟩ | ⟨g, cap, cur, hv2, hB, hh, hc, -⟩
  · omega
  · have hcell := fun i u hu => World.ownsRow.cells (g := g) h2 (by rw [hv2]; rfl) i u hu
    rw [hv2] at hv
    injection hv with hA _ _
    subst hA
    refine ⟨g, 0, rfl, (Array.getElem?_eq_some_iff.1 hh).1, fun i hi => ⟨vs[i]'(by omega), ?_, (h3 i hi (by omega)).rd fun b hb => hb.2.1⟩⟩
    have := hcell i (vs[i]'(by omega)) (List.getElem?_eq_getElem (by omega))
    rw [addr_addY] at this
    exact this

theorem Try.infoBs : (Try.prog.info? 22).map (fun i => (i.zero, i.size, i.bytes)) = some (some (.slice none 0 0), 1, 24) := by kernel_rfl
set_option maxRecDepth 100000 in
/-- One more body, at the end. -/
theorem append_body {w : World} {ops : Array Oper} {rest : List Oper} {o : Oper} {a : Act} {Q : Exit → Act → World → Prop} (hgd : o.guard = none) (s x : Operand)
    (ho : o.op = .call { callee := .builtin .append, args := #[s, x], argTypes := #[31, 31] }) (B : Nat) (v : Value) (ls : List (List UInt8)) (hs : a.eval s = v) (h : Bods w B v ls)
    (g : Nat) (u : Value) (l : List UInt8) (hx : a.eval x = .slice (some ⟨g, 0, none⟩) 1 1) (hc : w.cell? ⟨g, 0, none⟩ = some u) (hu : RdS w (fun b => B ≤ b ∧ b < w.heap.size ∧ v.ownBlock ≠ some b) u l)
    (hB : B ≤ w.heap.size) (hn : (ls.length + 1) * 24 ≤ 140737488355328)
    (K : ∀ v' w', Bods w' B v' (ls ++ [l]) → w.grownBy w' v.ownBlock → wpList Try.prog ops Q rest (a.put o.dst v') w') : wpList Try.prog ops Q (o :: rest) a w := by
  obtain ⟨i0, hi, hz0, hz1, hz2⟩ := info_parts Try.infoBs
  obtain ⟨vs, h1, h2, h3⟩ := h
  have hu1 : u.oneCell' = true := by obtain ⟨A, cap, rfl, -⟩ := hu; rfl
  refine wpList_plain hgd fun _ hK => wp_append_moved w s x 31 ho B 22 i0 (.slice none 0 0) 1 24 Try.underlying31 hi hz0 hz1 hz2 rfl (by decide) v ls.length vs hs h2 ⟨g, 0, none⟩ 1 1 [u] hx rfl ?_ ?_ (by unfold maxLen; omega) hn hB fun v' w' k1 k2 k3 => hK _ _ (K v' w' ?_ k2)
  · intro j y hj
    match j, hj with
    | 0, hj => simp at hj; subst hj; exact hc
    | j + 1, hj => simp at hj
  · intro y hy; simp at hy; subst hy; exact hu1
  · have hsame : ∀ b, b < w.heap.size → v.ownBlock ≠ some b → w'.heap[b]? = w.heap[b]? := fun b hb hne => k2.block b hb fun e => hne e.symm
    have hap : ∀ b, (B ≤ b ∧ b < w.heap.size ∧ v.ownBlock ≠ some b) → (B ≤ b ∧ b < w'.heap.size ∧ v'.ownBlock ≠ some b) := fun b ⟨p1, p2, p3⟩ => by
      refine ⟨p1, Nat.lt_of_lt_of_le p2 k2.size, ?_⟩
      rcases k3 with e | ⟨q, hq, e⟩
      · rw [e]; exact p3
      · rw [e]; intro h; injection h; omega
    refine ⟨vs ++ [u], by simp [h1], by simpa using k1, fun i hi hi' => ?_⟩
    by_cases hlt : i < ls.length
    · have e1 : (vs ++ [u])[i] = vs[i]'(by omega) := List.getElem_append_left (by omega)
      have e2 : (ls ++ [l])[i] = ls[i] := List.getElem_append_left hlt
      rw [e1, e2]
      exact ((h3 i hlt (by omega)).keep fun b hb => hsame b hb.2.1 hb.2.2).imp hap
    · have hi2 : i = ls.length := by simp at hi; omega
      subst hi2
      have e1 : (vs ++ [u])[ls.length]'hi' = u := by rw [List.getElem_append_right (by omega)]; simp [h1]
      have e2 : (ls ++ [l])[ls.length] = l := by rw [List.getElem_append_right (by omega)]; simp
      rw [e1, e2]
      exact (hu.keep fun b hb => hsame b hb.2.1 hb.2.2).imp hap

/-- The frames that stand: their bodies, and how many bytes they have. -/
inductive ScanR : List UInt8 → List (List UInt8) → Nat → Prop
  | stop {l : List UInt8} : nextF l = none → ScanR l [] 0
  | step {l b : List UInt8} {k m : Nat} {bs : List (List UInt8)} : nextF l = some (b, k) → ScanR (l.drop k) bs m → ScanR l (b :: bs) (k + m)
theorem ScanR.unique {l : List UInt8} {bs : List (List UInt8)} {m : Nat} (h : ScanR l bs m) : ∀ {cs n}, ScanR l cs n → bs = cs ∧ m = n := by
  induction h with
  | stop h =>
    intro cs n k
    cases k with
    | stop _ => exact ⟨rfl, rfl⟩
    | step k _ => rw [h] at k; cases k
  | step h _ ih =>
    intro cs n k
    cases k with
    | stop k => rw [h] at k; cases k
    | step k k2 =>
      rw [h] at k
      injection k with k
      injection k with e1 e2
      subst e1 e2
      obtain ⟨rfl, rfl⟩ := ih k2
      exact ⟨rfl, rfl⟩
theorem nextF_le {l b : List UInt8} {k : Nat} (h : nextF l = some (b, k)) : 5 ≤ k ∧ k ≤ l.length ∧ b.length + 5 ≤ k ∧ b.length ≤ 65536 := by
  rcases hr : rdCount 65536 (some l) with ⟨n, _ | r⟩
  · rw [nextF_bad (by rw [hr])] at h; cases h
  · rw [nextF_some hr] at h
    obtain ⟨j, hj1, hj2, hrj⟩ := rdCount_suffix hr
    have hn := rdCount_le 65536 (some l) (by omega)
    rw [show ((65536 : Nat) : Int) = (65536 : Int) from rfl, hr] at hn
    have hrl : r.length = l.length - j := by rw [hrj, List.length_drop]
    split at h
    · cases h
    · split at h
      · injection h with h
        injection h with h1 h2
        have h3 : b.length ≤ n := by rw [← h1, List.length_take]; omega
        simp only at hn
        omega
      · cases h
end Go.Proofs.Ytlhkcpfjnhbocaa

/- Which frames stand, by the document; whether two lists of bodies are the same. -/
namespace Go.Proofs.Ytlhkcpfjnhbocaa
set_option linter.unusedVariables false
set_option linter.unusedSimpArgs false
open Go.RowKit

/-- An answer of bodies in a row of its own, and a number. -/
def ScansR (ls : List (List UInt8)) (n : Nat) (w : World) (e : Ending) (w' : World) : Prop := ∃ v, e = .returned (.tuple #[v, .int .i64 n]) ∧ Bods w' w.heap.size v ls ∧ Below w.heap.size w w'

set_option maxHeartbeats 4000000 in
set_option maxRecDepth 100000 in
theorem rscan_any (v : Value) (l : List UInt8) (bs : List (List UInt8)) (m : Nat) (w : World) (h : Rd w w.heap.size v l) (hl : l.length ≤ 140737488000) (hsc : ScanR l bs m) :
    Calls Try.prog 17 #[v] w (ScansR bs m w) := by
  obtain ⟨A, cap, rfl⟩ := h.shapeY
  have hlc : l.length ≤ cap := by
    obtain ⟨A', cap', hv, h2, _⟩ := h
    injection hv with _ _ e3
    omega
  obtain ⟨ll, hll⟩ : ∃ n, n = l.length := ⟨_, rfl⟩
  have HL := Lib.hid hll
  have H := Lib.hid h
  have HSC := Lib.hid hsc
  rw [← hll] at hl hlc ⊢
  clear h hsc hll
  go_enter Try.func17, Try.ntmps17
  go_wp2_with fail
  go_loopw [4, 5] (fun o i wr => ∃ (at_ : Nat) (ls : List (List UInt8)), i = .int .i64 at_ ∧ at_ ≤ ll ∧ Hid (ls.length ≤ at_) ∧ Hid (Bods wr w.heap.size o ls) ∧ Hid (Below w.heap.size w wr) ∧ Hid (∀ cs n, ScanR (l.drop at_) cs n → bs = ls ++ cs ∧ m = at_ + n)) (fun _ i _ => ll - (intOf i).toNat)
  case atStart => exact ⟨0, [], rfl, by omega, by show 0 ≤ 0; omega, Bods.nil _ _, Below.refl _ _, fun cs n k => by
    obtain ⟨e1, e2⟩ := HSC.out.unique k
    exact ⟨e1, by omega⟩⟩
  case round =>
    obtain ⟨at_, ls, rfl, hat, HLS, HO, HB, HI⟩ := hrel
    have hz := HB.out.size
    have hcut := ((H.out.keep HB.out).upY hz).cutAny (k := at_) (by have := HL.out; omega)
    rw [← HL.out] at hcut
    have HN := Lib.hid (rnext_any _ _ wr hcut (by rw [List.length_drop]; have := HL.out; omega))
    clear hcut
    have hat2 : ∀ c, c = cap → c = at_ → c - at_ = 0 := fun c _ h => by omega
    by_cases hca : cap = at_
    · rw [if_pos hca, hat2 cap rfl hca] at HN
      go_wp2_with fail
      refine HN.out.mono ?_
      rintro e w1 ⟨hb1, hcase⟩
      have hb2 := HB.out.trans (hb1.mono hz)
      have HB2 := Lib.hid hb2
      have hz2 := hb2.size
      rcases hcase with ⟨hno, rfl⟩ | ⟨b, k, v1, hyes, rfl, hv1⟩
      · obtain ⟨e1, e2⟩ := HI.out [] 0 (.stop hno)
        rw [List.append_nil] at e1
        subst e1
        rw [Nat.add_zero] at e2
        have HO2 := Lib.hid (HO.out.below hb1)
        have HE2 := Lib.hid e2
        clear hb1 hb2 hno e2 HN
        go_wp2_with fail
        go_ret2
        exact ⟨_, by rw [HE2.out]; rfl, HO2.out, HB2.out⟩
      · obtain ⟨k1, k2, k3, k4⟩ := nextF_le hyes
        rw [List.length_drop] at k2
        have HO2 := Lib.hid (HO.out.below hb1)
        have hI2 : ∀ cs n, ScanR (l.drop (at_ + k)) cs n → bs = (ls ++ [b]) ++ cs ∧ m = (at_ + k) + n := fun cs n hk => by
          rw [← List.drop_drop] at hk
          obtain ⟨e1, e2⟩ := HI.out _ _ (.step hyes hk)
          exact ⟨by rw [e1]; simp, by omega⟩
        have HI2 := Lib.hid hI2
        have hk2 : k ≤ ll - at_ := by have := HL.out; omega
        exfalso; omega
    · rw [if_neg hca] at HN
      go_wp2_with fail
      refine HN.out.mono ?_
      rintro e w1 ⟨hb1, hcase⟩
      have hb2 := HB.out.trans (hb1.mono hz)
      have HB2 := Lib.hid hb2
      have hz2 := hb2.size
      rcases hcase with ⟨hno, rfl⟩ | ⟨b, k, v1, hyes, rfl, hv1⟩
      · obtain ⟨e1, e2⟩ := HI.out [] 0 (.stop hno)
        rw [List.append_nil] at e1
        subst e1
        rw [Nat.add_zero] at e2
        have HO2 := Lib.hid (HO.out.below hb1)
        have HE2 := Lib.hid e2
        clear hb1 hb2 hno e2 HN
        go_wp2_with fail
        go_ret2
        exact ⟨_, by rw [HE2.out]; rfl, HO2.out, HB2.out⟩
      · obtain ⟨k1, k2, k3, k4⟩ := nextF_le hyes
        rw [List.length_drop] at k2
        have HO2 := Lib.hid (HO.out.below hb1)
        have hI2 : ∀ cs n, ScanR (l.drop (at_ + k)) cs n → bs = (ls ++ [b]) ++ cs ∧ m = (at_ + k) + n := fun cs n hk => by
          rw [← List.drop_drop] at hk
          obtain ⟨e1, e2⟩ := HI.out _ _ (.step hyes hk)
          exact ⟨by rw [e1]; simp, by omega⟩
        have HI2 := Lib.hid hI2
        have hk2 : k ≤ ll - at_ := by have := HL.out; omega
        obtain ⟨X, x, e3⟩ := hv1.rdY.shapeY
        have hvs := hv1.rds
        have hown := fun q hq => World.ownsRow.lt (HO.out).choose_spec.2.1 q hq
        have hbx : Below w1.heap.size w1 (w1.alloc (.cells #[v1] 22)) := (Below.refl _ _).alloc (Nat.le_refl _) _
        have HO3 := Lib.hid (HO2.out.below hbx)
        have hu := (hvs.keep (w' := w1.alloc (.cells #[v1] 22)) fun b hb => hbx.block b hb.2.1).imp (T := fun b => w.heap.size ≤ b ∧ b < (w1.alloc (.cells #[v1] 22)).heap.size ∧ _ ≠ some b) fun b hb => ⟨Nat.le_trans hz hb.1, by simp; omega, fun e => by have := hown b e; omega⟩
        have HU := Lib.hid hu
        have hc0 : (w1.alloc (.cells #[v1] 22)).cell? ⟨w1.heap.size, 0, none⟩ = some v1 := Go.Joins.cell_of_block (heap_alloc_new w1 _) 0
        have HC0 := Lib.hid hc0
        have HBX := Lib.hid (HB2.out.alloc hz2 (.cells #[v1] 22))
        have hls : ls.length ≤ at_ := HLS.out
        clear hb1 hb2 hyes hv1 hI2 hvs hown hbx hu hc0 HN HI
        subst e3
        go_wp2_with (at_builtin; go_must (refine append_body rfl _ _ rfl w.heap.size _ ls rfl HO3.out _ _ b rfl HC0.out HU.out HBX.out.size (by omega) ?_))
        intro v2 w2 hv2 hg2
        have HB3 := Lib.hid (HBX.out.grown hg2 HBX.out.size (fun q hq => ((World.ownsRow.lt (HO3.out).choose_spec.2.1 q hq)).1))
        have HO4 := Lib.hid hv2
        have HLS4 : Hid ((ls ++ [b]).length ≤ at_ + k) := by show _ ≤ _; simp; omega
        clear hv2 hg2
        go_wp2_with fail
        go_roundw
        case rel => exact ⟨at_ + k, ls ++ [b], by go_num, by omega, HLS4, HO4, HB3, HI2⟩
        case measure => simp [intOf]; omega

theorem take_all_eq {a b : List (List UInt8)} {k : Nat} (hl : a.length = b.length) (hk : k = a.length) (h : a.take k = b.take k) : a = b := by
  subst hk
  rw [List.take_of_length_le (Nat.le_refl _), List.take_of_length_le (by omega)] at h
  exact h
theorem take_more_eq {a b : List (List UInt8)} {k : Nat} (h1 : k < a.length) (h2 : k < b.length) (h : a.take k = b.take k) (he : a[k] = b[k]) : a.take (k + 1) = b.take (k + 1) := by
  rw [List.take_succ_eq_append_getElem h1, List.take_succ_eq_append_getElem h2, h, he]

set_option maxHeartbeats 4000000 in
set_option maxRecDepth 100000 in
theorem rsameB_any (A A' : Option Addr) (c c' : Nat) (a b : List (List UInt8)) (B : Nat) (w : World) (hB : B ≤ w.heap.size) (ha : BssAt w B A a) (hb : BssAt w B A' b) (hl : a.length ≤ 9223372036854775000) (hl' : b.length ≤ 9223372036854775000) :
    Calls Try.prog 18 #[.slice A a.length c, .slice A' b.length c'] w fun e w' => e = .returned (.bool (decide (a = b))) ∧ Below w.heap.size w w' := by
  have HA := Lib.hid ha
  have HB := Lib.hid hb
  clear ha hb
  by_cases hlen : a.length = b.length
  rotate_left
  · have hne : decide (a = b) = false := decide_eq_false fun h => hlen (by rw [h])
    rw [hne]
    obtain ⟨n, hn⟩ : ∃ n, n = a.length := ⟨_, rfl⟩
    obtain ⟨m, hm⟩ : ∃ m, m = b.length := ⟨_, rfl⟩
    rw [← hn, ← hm] at hlen ⊢
    have h2 : ((n : Int) != (m : Int)) = true := by simp; omega
    clear HA HB hn hm hne hl hl'
    go_enter Try.func18, Try.ntmps18
    go_wp2_with fail
    go_ret
    exact ⟨rfl, Below.refl _ _⟩
  obtain ⟨n, hn⟩ : ∃ n, n = a.length := ⟨_, rfl⟩
  have hnb : n = b.length := by omega
  have HN := Lib.hid hn
  have HNB := Lib.hid hnb
  rw [← hn]
  rw [← hnb]
  rw [← hn] at hl
  clear hn hnb hlen hl'
  go_enter Try.func18, Try.ntmps18
  go_wp2_with fail
  go_loopw [5] (fun i wr => ∃ k : Nat, i = .int .i64 k ∧ k ≤ n ∧ Hid (Below w.heap.size w wr) ∧ Hid (a.take k = b.take k)) (fun i _ => n - (intOf i).toNat)
  case atStart => exact ⟨0, rfl, by omega, Below.refl _ _, rfl⟩
  case round =>
    obtain ⟨k, rfl, hk, HBL, HE⟩ := hrel
    by_cases hlt : k < n
    · obtain ⟨p1, o1, rfl, hp1, hc1⟩ := HA.out (by have := HN.out; omega)
      obtain ⟨p2, o2, rfl, hp2, hc2⟩ := HB.out (by have := HNB.out; omega)
      have h1 : k < a.length := by have := HN.out; omega
      have h2 : k < b.length := by have := HNB.out; omega
      obtain ⟨v1, c1, r1⟩ := hc1 k h1
      obtain ⟨v2, c2, r2⟩ := hc2 k h2
      obtain ⟨x, hx⟩ : ∃ x, x = a[k] := ⟨_, rfl⟩
      obtain ⟨y, hy⟩ : ∃ y, y = b[k] := ⟨_, rfl⟩
      have HX := Lib.hid hx
      have HY := Lib.hid hy
      rw [← hx] at r1
      rw [← hy] at r2
      have hbl := HBL.out.mono hB
      have d1 : wr.cell? ⟨p1, o1 + k, none⟩ = some v1 := (hbl.cell (p := ⟨p1, o1 + k, none⟩) hp1).trans c1
      have d2 : wr.cell? ⟨p2, o2 + k, none⟩ = some v2 := (hbl.cell (p := ⟨p2, o2 + k, none⟩) hp2).trans c2
      have hz := HBL.out.size
      have q1 := cell_later (B := wr.heap.size) (w := wr.drew) d1 (by show p1 < _; omega)
      have q2 := cell_later (B := wr.heap.size) (w := wr.drew) d2 (by show p2 < _; omega)
      have e1 := run_convY (B := wr.heap.size) (w := wr.drew) (((r1.keep hbl).keep (Below.refl _ wr).drew).upY (by omega))
      have e2 := run_convY (B := wr.heap.size) (w := wr.drew) (((r2.keep hbl).keep (Below.refl _ wr).drew).upY (by omega))
      clear hc1 hc2 c1 c2 r1 r2 hx hy hbl d1 d2 HA HB
      go_wp2_with fail
      refine wp_region_mix [0, 1, 2, 3, 4, 5, 6, 7, 8, 9, 10] (by kernel_rfl) (by kernel_rfl) (fun _ d _ _ _ h => by cases d <;> exact h) ?_
      simp only [atNats, List.filterMap_cons, List.filterMap_nil, List.getElem?_toArray, List.getElem?_cons_succ, List.getElem?_cons_zero]
      first | refine mix_pure ?_ | refine mix_pureB ?_
      simp only [List.takeWhile, List.dropWhile, isPure, Nat.reduceBNe]
      repeat (go_big_quiet_step (fail))
      refine wpQuiet_nil ?_
      unfold wpMix
      clear q1 q2 e1 e2
      by_cases hxy : x = y
      · have ht : (!(x == y)) = false := by rw [hxy]; simp
        have hm : a.take (k + 1) = b.take (k + 1) := take_more_eq h1 h2 HE.out (by rw [← HX.out, ← HY.out]; exact hxy)
        have HM := Lib.hid hm
        first | rw [ht] | skip
        clear hm hxy
        go_wp2_with fail
        go_roundw
        case rel => exact ⟨k + 1, by go_num, by omega, HBL.out.drew, HM⟩
        case measure => simp [intOf]; omega
      · have ht : (!(x == y)) = true := by rw [beq_eq_false_iff_ne.2 hxy]; rfl
        have hne : decide (a = b) = false := decide_eq_false fun h => hxy (by rw [HX.out, HY.out]; simp only [h])
        rw [ht]
        clear hxy
        go_wp2_with fail
        go_ret
        rw [hne]
        exact ⟨rfl, HBL.out.drew⟩
    · have hkn : k = n := by omega
      have heq : decide (a = b) = true := decide_eq_true (take_all_eq (by rw [← HN.out, ← HNB.out]) (by rw [hkn, HN.out]) HE.out)
      go_wp2_with fail
      go_ret
      rw [heq]
      exact ⟨rfl, HBL.out⟩
end Go.Proofs.Ytlhkcpfjnhbocaa
