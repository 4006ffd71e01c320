/- The order of paths, and what it is for whether a list is free; the library's Compare of texts. -/
import Derived.Test.YtpcdngpppjdgcaaGreatKDlQ
import Derived.Test.YtpcdngpppjdgcaaGreatKOrd
import Derived.Test.YtpcdngpppjdgcaaGreatKCodA
import Derived.Test.YtpcdngpppjdgcaaGreatKRegR
import Derived.Test.YtpcdngpppjdgcaaGreatKDlH
import Derived.Laws.Rows
import Derived.Deep.MidRow
namespace Go.Proofs.YtpcdngpppjdgcaaGreat
open Lib (hid)
set_option linter.unusedVariables false
set_option linter.unusedSimpArgs false
open Go.RowKit
set_option maxRecDepth 100000
def cmpP : List ByteArray → List ByteArray → Int
  | [], [] => 0
  | [], _ :: _ => -1
  | _ :: _, [] => 1
  | a :: r, b :: s => ore (cmpB a.toList b.toList) (cmpP r s)
theorem cmpP_tri : ∀ a b c : List ByteArray, Tri (cmpP a b) (cmpP b c) (cmpP a c)
  | [], [], [] => tri_zero
  | [], [], _ :: _ => by unfold cmpP Tri; omega
  | [], _ :: _, [] => by unfold cmpP Tri; omega
  | [], _ :: _, _ :: _ => by simp only [cmpP]; unfold Tri; omega
  | _ :: _, [], [] => by unfold cmpP Tri; omega
  | _ :: _, [], _ :: _ => by simp only [cmpP]; unfold Tri; omega
  | _ :: _, _ :: _, [] => by simp only [cmpP]; unfold Tri; omega
  | a :: r, b :: s, c :: t => ore_tri (cmpB_tri _ _ _) fun _ _ => cmpP_tri r s t
theorem cmpP_neg : ∀ a b : List ByteArray, cmpP b a = -(cmpP a b)
  | [], [] => rfl
  | [], _ :: _ => rfl
  | _ :: _, [] => rfl
  | a :: r, b :: s => ore_neg2 (cmpB_neg _ _) fun _ => cmpP_neg r s
theorem cmpP_zero : ∀ a b : List ByteArray, cmpP a b = 0 ↔ a = b
  | [], [] => by simp [cmpP]
  | [], _ :: _ => by simp [cmpP]
  | _ :: _, [] => by simp [cmpP]
  | a :: r, b :: s => by
    rw [cmpP, ore_zero, cmpB_zero, cmpP_zero r s]
    constructor
    · rintro ⟨h1, h2⟩; rw [toList_inj h1, h2]
    · intro h; injection h with h1 h2; exact ⟨by rw [h1], h2⟩
theorem ore_le {x y : Int} (h : ore x y ≤ 0) : x ≤ 0 := by unfold ore at h; split at h <;> omega
theorem between : ∀ {p x q : List ByteArray}, cmpP p x ≤ 0 → cmpP x q ≤ 0 → p <+: q → p <+: x
  | [], x, q, _, _, _ => List.nil_prefix
  | a :: r, [], q, h, _, _ => by simp [cmpP] at h
  | a :: r, b :: x, [], _, _, h => by simp at h
  | a :: r, b :: x, c :: q, h1, h2, h3 => by
    rw [List.cons_prefix_cons] at h3
    obtain ⟨rfl, h3⟩ := h3
    rw [cmpP] at h1 h2
    have e1 := ore_le h1
    have e2 := ore_le h2
    rw [cmpB_neg] at e2
    have e3 : cmpB a.toList b.toList = 0 := by omega
    have e4 : cmpB b.toList a.toList = 0 := by rw [cmpB_neg]; omega
    have hab : a = b := toList_inj ((cmpB_zero _ _).1 e3)
    subst hab
    unfold ore at h1 h2
    rw [if_pos e3] at h1 h2
    rw [List.cons_prefix_cons]
    exact ⟨rfl, between h1 h2 h3⟩
theorem begP_iff {a b : List ByteArray} : begP a b = true ↔ a <+: b := by
  unfold begP
  simp only [Bool.and_eq_true, decide_eq_true_eq]
  constructor
  · rintro ⟨h1, h2⟩
    exact ⟨b.drop a.length, by have := List.take_append_drop a.length b; rw [h2] at this; exact this⟩
  · intro h
    exact ⟨h.length_le, (List.prefix_iff_eq_take.1 h).symm⟩
theorem pre_le : ∀ {a b : List ByteArray}, a <+: b → cmpP a b ≤ 0
  | [], [], _ => by simp [cmpP]
  | [], _ :: _, _ => by simp [cmpP]
  | a :: r, [], h => by simp at h
  | a :: r, b :: s, h => by
    rw [List.cons_prefix_cons] at h
    obtain ⟨rfl, h⟩ := h
    have h0 : cmpB a.toList a.toList = 0 := (cmpB_zero _ _).2 rfl
    rw [cmpP]
    unfold ore
    rw [if_pos h0]
    exact pre_le h
theorem meetP_comm (a b : List ByteArray) : meetP a b = meetP b a := by unfold meetP; rw [Bool.or_comm]
theorem confL_pair : ∀ (l ahead : List (List ByteArray)), confL ahead l = false ↔ (∀ p ∈ l, ∀ q ∈ ahead, meetP p q = false) ∧ l.Pairwise (fun q p => meetP p q = false)
  | [], ahead => by simp [confL]
  | p :: r, ahead => by
    rw [confL, Bool.or_eq_false_iff, confL_pair r (ahead ++ [p]), List.pairwise_cons, List.any_eq_false]
    constructor
    · rintro ⟨h1, h2, h3⟩
      refine ⟨fun x hx q hq => ?_, fun x hx => h2 x hx p (by simp), h3⟩
      rcases List.mem_cons.1 hx with rfl | hx
      · simpa using h1 q hq
      · exact h2 x hx q (List.mem_append_left _ hq)
    · rintro ⟨h1, h2, h3⟩
      refine ⟨fun q hq => by simpa using h1 p (List.mem_cons_self ..) q hq, fun x hx q hq => ?_, h3⟩
      rcases List.mem_append.1 hq with hq | hq
      · exact h1 x (List.mem_cons_of_mem _ hx) q hq
      · obtain rfl := List.mem_singleton.1 hq; exact h2 x hx
theorem free_pair (ps : List (List ByteArray)) : confL [] ps = false ↔ ps.Pairwise (fun q p => meetP p q = false) := by rw [confL_pair]; simp
theorem free_perm {ps qs : List (List ByteArray)} (h : ps.Perm qs) : confL [] ps = confL [] qs := by
  have e : confL [] ps = false ↔ confL [] qs = false := by
    rw [free_pair, free_pair]
    exact h.pairwise_iff fun {a b} h => by rw [meetP_comm]; exact h
  cases h1 : confL [] ps <;> cases h2 : confL [] qs <;> simp_all
theorem free_sorted {ps : List (List ByteArray)} (hs : ∀ i j (hi : i < ps.length) (hj : j < ps.length), i < j → cmpP ps[i] ps[j] ≤ 0) : confL [] ps = false ↔ ∀ i (h : i + 1 < ps.length), begP (ps[i]'(by omega)) ps[i + 1] = false := by
  rw [free_pair, List.pairwise_iff_getElem]
  constructor
  · intro h i hi
    have h1 := h i (i + 1) (by omega) hi (by omega)
    unfold meetP at h1
    rw [Bool.or_eq_false_iff] at h1
    exact h1.2
  · intro h i j hi hj hij
    have hne : ∀ (hp : ps[i] <+: ps[j]), False := fun hp => by
      have hb : ps[i] <+: ps[i + 1]'(by omega) := by
        by_cases e : i + 1 = j
        · subst e; exact hp
        · exact between (hs i (i + 1) hi (by omega) (by omega)) (hs (i + 1) j (by omega) hj (by omega)) hp
      have h1 := h i (by omega)
      rw [begP_iff.2 hb] at h1
      cases h1
    unfold meetP
    rw [Bool.or_eq_false_iff]
    refine ⟨?_, ?_⟩
    · cases hb : begP ps[j] ps[i]
      · rfl
      · exfalso
        have h1 := pre_le (begP_iff.1 hb)
        have h2 := hs i j hi hj hij
        rw [cmpP_neg] at h1
        have h3 : cmpP ps[i] ps[j] = 0 := by omega
        exact hne (by rw [(cmpP_zero _ _).1 h3]; exact List.prefix_refl _)
    · cases hb : begP ps[i] ps[j]
      · rfl
      · exact (hne (begP_iff.1 hb)).elim
theorem cmpP_take {a b : List ByteArray} : ∀ (k : Nat), k ≤ a.length → k ≤ b.length → (∀ j (h : j < a.length) (h' : j < b.length), j < k → a[j] = b[j]) → cmpP a b = cmpP (a.drop k) (b.drop k) := by
  induction a generalizing b with
  | nil => intro k hk _ _; obtain rfl : k = 0 := by simpa using hk
           simp
  | cons x r ih =>
    intro k hk hk' h
    cases k with
    | zero => simp
    | succ k =>
      cases b with
      | nil => simp at hk'
      | cons y s =>
        have hxy : x = y := h 0 (by simp) (by simp) (by omega)
        subst hxy
        have h0 : cmpB x.toList x.toList = 0 := (cmpB_zero _ _).2 rfl
        rw [cmpP]
        unfold ore
        rw [if_pos h0, List.drop_succ_cons, List.drop_succ_cons]
        exact ih k (by simpa using hk) (by simpa using hk') fun j h1 h2 h3 => by
          have := h (j + 1) (by simpa using h1) (by simpa using h2) (by omega)
          simpa using this
set_option maxHeartbeats 4000000 in
theorem cmpSs_any (A B : Option Addr) (c d : Nat) (a b : List ByteArray) (w : World) (S : Nat → Prop) (h : StrsAt w S A a) (k : StrsAt w S B b) (hn : a.length ≤ 140737488351232) (hm : b.length ≤ 140737488351232) :
    Calls Tryz.prog 160 #[.slice A a.length c, .slice B b.length d] w fun e w' => e = .returned (.int .i64 (cmpP a b)) ∧ w = w' := by
  have HA := hid h
  have HB := hid k
  clear h k
  obtain ⟨n, hn'⟩ : ∃ n, n = a.length := ⟨_, rfl⟩
  obtain ⟨m, hm'⟩ : ∃ m, m = b.length := ⟨_, rfl⟩
  have HN := hid hn'
  have HM := hid hm'
  rw [← hn'] at hn ⊢
  rw [← hm'] at hm ⊢
  clear hn' hm'
  go_enter Tryz.func160, Tryz.ntmps160
  go_wp2_with fail
  go_loopw [11] (fun i wr => ∃ k : Nat, i = .int .i64 k ∧ k ≤ n ∧ wr = w ∧ Hid (k ≤ m ∧ ∀ j (h : j < a.length) (h' : j < b.length), j < k → a[j] = b[j])) (fun i _ => n - (intOf i).toNat)
  case atStart => exact ⟨0, rfl, by omega, rfl, hid ⟨by omega, fun j _ _ h => absurd h (by omega)⟩⟩
  case round =>
    obtain ⟨k, rfl, hk, rfl, HE⟩ := hrel
    by_cases hlt : k < n
    · have d1 : decide ((k : Int) < (n : Int)) = true := decide_eq_true (by omega)
      obtain ⟨p, o, rfl, -, hc⟩ := HA.out (by have := HN.out; omega)
      have hka : k < a.length := by have := HN.out; omega
      have hck := (hc k hka).1
      obtain ⟨x, hx⟩ : ∃ x, x = a[k] := ⟨_, rfl⟩
      rw [← hx] at hck
      have HX := hid hx
      clear hc hx
      by_cases hlb : k < m
      · have d2 : decide ((k : Int) ≥ (m : Int)) = false := decide_eq_false (by omega)
        obtain ⟨p', o', rfl, -, hc'⟩ := HB.out (by have := HM.out; omega)
        have hkb : k < b.length := by have := HM.out; omega
        have hck' := (hc' k hkb).1
        obtain ⟨y, hy⟩ : ∃ y, y = b[k] := ⟨_, rfl⟩
        rw [← hy] at hck'
        have HY := hid hy
        clear hc' hy
        go_wp2_with fail
        refine (cmpS_any x y _).mono ?_
        rintro e u ⟨rfl, rfl⟩
        by_cases h0 : cmpB x.toList y.toList = 0
        · have d3 : (cmpB x.toList y.toList != 0) = false := by rw [h0]; rfl
          have HEQ : Hid (a[k] = b[k]) := hid (by rw [← HX.out, ← HY.out]; exact toList_inj ((cmpB_zero _ _).1 h0))
          clear h0
          go_wp2_with fail
          go_roundw
          case rel => exact ⟨k + 1, by go_num, by omega, trivial, hid ⟨by omega, fun j h h' hjk => by
            by_cases e : j = k
            · subst e; exact HEQ.out
            · exact HE.out.2 j h h' (by omega)⟩⟩
          case measure => simp [intOf]; omega
        · have d3 : (cmpB x.toList y.toList != 0) = true := bne_iff_ne.2 h0
          have HF : Hid (cmpP a b = cmpB x.toList y.toList) := hid (by
            rw [cmpP_take k (by omega) (by omega) HE.out.2, List.drop_eq_getElem_cons hka, List.drop_eq_getElem_cons hkb, cmpP, ← HX.out, ← HY.out]
            unfold ore
            rw [if_neg h0])
          clear h0
          go_wp2_with fail
          go_ret
          exact ⟨by rw [HF.out]; rfl, rfl⟩
      · have d2 : decide ((k : Int) ≥ (m : Int)) = true := decide_eq_true (by omega)
        have HF : Hid (cmpP a b = 1) := hid (by
          have hkm : k = b.length := by have := HE.out.1; have := HM.out; omega
          have e2 : b.drop k = [] := List.drop_eq_nil_of_le (by omega)
          rw [cmpP_take k (by omega) (by omega) HE.out.2, List.drop_eq_getElem_cons hka, e2]
          rfl)
        go_wp2_with fail
        go_ret
        exact ⟨by rw [HF.out]; rfl, rfl⟩
    · have hkn : k = n := by omega
      have d1 : decide ((k : Int) < (n : Int)) = false := decide_eq_false (by omega)
      by_cases hnm : n < m
      · have d2 : decide ((n : Int) < (m : Int)) = true := decide_eq_true (by omega)
        have HF : Hid (cmpP a b = -1) := hid (by
          have hkb : k < b.length := by have := HM.out; omega
          have q3 := HN.out
          have e1 : a.drop k = [] := List.drop_eq_nil_of_le (by omega)
          rw [cmpP_take k (by omega) (by omega) HE.out.2, e1, List.drop_eq_getElem_cons hkb]
          rfl)
        clear hkn
        go_wp2_with fail
        go_ret
        exact ⟨by rw [HF.out]; rfl, rfl⟩
      · have d2 : decide ((n : Int) < (m : Int)) = false := decide_eq_false (by omega)
        have HF : Hid (cmpP a b = 0) := hid (by
          have q1 := HE.out.1
          have q2 := HM.out
          have q3 := HN.out
          have e1 : a.drop k = [] := List.drop_eq_nil_of_le (by omega)
          have e2 : b.drop k = [] := List.drop_eq_nil_of_le (by omega)
          rw [cmpP_take k (by omega) (by omega) HE.out.2, e1, e2]
          rfl)
        clear hkn
        go_wp2_with fail
        go_ret
        exact ⟨by rw [HF.out]; rfl, rfl⟩
end Go.Proofs.YtpcdngpppjdgcaaGreat

/- Layer 13, plain: the program's ways to say which entries may be. -/
namespace Go.Proofs.YtpcdngpppjdgcaaGreat
set_option linter.unusedVariables false
set_option linter.unusedSimpArgs false
set_option maxRecDepth 100000
theorem fits_names0 {k i : Int} {s : ByteArray} {n : Nat} {ns : List ByteArray} (h : fitsP k i s n ns = true) (hk : k ≠ 7) : ns = [] := by
  unfold fitsP at h
  have hz : ns.length = 0 := by
    split at h
    · simp only [Bool.and_eq_true, beq_iff_eq] at h; exact h.2.2
    split at h
    · simp only [Bool.and_eq_true, beq_iff_eq] at h; exact h.2.2
    split at h
    · simp only [Bool.and_eq_true, beq_iff_eq] at h; exact h.2.2
    split at h
    · simp only [Bool.and_eq_true, beq_iff_eq] at h; exact h.2.2
    split at h
    · simp only [Bool.and_eq_true, beq_iff_eq] at h; exact h.2
    · simp [hk] at h
  exact List.eq_nil_of_length_eq_zero hz
theorem check_may {t : VT} (h : checkT t = 0) : mayT t = true := by
  unfold checkT at h
  split at h
  · next hm => exact hm
  · exact absurd h (by decide)
theorem hold_way (v id : VT) : holdE v id = (decide (0 ≤ nmI 0 v.names idN) && decide (checkT v = 0) && (match v.items[(nmI 0 v.names idN).toNat]? with
    | some x => decide (cmpT x id = 0)
    | none => false)) := by
  unfold holdE
  by_cases hc : checkT v = 0
  · by_cases hk : v.kind = 7
    · rw [item_doc hk, ← look_names, decide_eq_true hk, decide_eq_true hc]
      by_cases hn : nmI 0 v.names idN < 0
      · rw [if_pos hn, decide_eq_false (by omega)]; rfl
      · rw [if_neg hn, decide_eq_true (Int.not_lt.1 hn)]
        rfl
    · have hn : v.names = [] := by
        have := ((mayT_iff v).1 (check_may hc)).1
        exact fits_names0 this hk
      rw [hn, decide_eq_false hk]
      unfold nmI
      rfl
  · rw [decide_eq_false hc, Bool.and_false, Bool.and_false]
    rfl
theorem touch_head {l : List DelT} (h : ∀ d ∈ l, mayP d.path = true) : touchD l [idN] = l.any fun d => decide (d.path.head? = some idN) := by
  unfold touchD
  induction l with
  | nil => rfl
  | cons d l ih =>
    rw [List.any_cons, List.any_cons, ih fun x hx => h x (List.mem_cons_of_mem _ hx)]
    congr 1
    have hp := h d List.mem_cons_self
    cases hd : d.path with
    | nil => rw [hd] at hp; exact absurd hp (by decide)
    | cons s r =>
      have e : meetP (s :: r) [idN] = true ↔ s = idN := by
        unfold meetP
        rw [Bool.or_eq_true, begP_iff, begP_iff]
        constructor
        · rintro (h | h)
          · exact (List.cons_prefix_cons.1 h).1
          · exact (List.cons_prefix_cons.1 h).1.symm
        · rintro rfl
          exact .inr (List.cons_prefix_cons.2 ⟨rfl, List.nil_prefix⟩)
      by_cases hs : s = idN
      · rw [e.2 hs, hs]; simp
      · have : meetP (s :: r) [idN] = false := by
          cases hm : meetP (s :: r) [idN] with
          | false => rfl
          | true => exact absurd (e.1 hm) hs
        rw [this]
        simp [hs]
end Go.Proofs.YtpcdngpppjdgcaaGreat

/- Changes that came in. -/
namespace Go.Proofs.YtpcdngpppjdgcaaGreat
set_option linter.unusedVariables false
set_option linter.unusedSimpArgs false
open Go.ChangeShapes Go.WideShapes Go.RowKit Go.Joins Go.Deep
set_option linter.unusedVariables false
set_option maxRecDepth 100000
theorem cellsDlt : Tryz.prog.cellsOf 95 = 8 := by kernel_rfl
theorem cellsDeltas : Tryz.prog.cellsOf 26 = 1 := by kernel_rfl
theorem bytesDlt : Tryz.prog.bytesOf 95 = 120 := by kernel_rfl
theorem addr_add6 (b o j : Nat) : (Addr.add ⟨b, o, none⟩ j : Addr) = ⟨b, o + j, none⟩ := by cases j <;> simp [Addr.add]
theorem fieldsDlt : ∃ f0 f1 f2 f3 : Field, Tryz.prog.underlying 95 = some (.struct #[f0, f1, f2, f3]) ∧ f0.type = 3 ∧ f1.type = 23 ∧ f2.type = 25 ∧ f3.type = 3 ∧ f0.offset = 0 ∧ f1.offset = 1 ∧ f2.offset = 2 ∧ f3.offset = 7 :=
  ⟨_, _, _, _, Tryz.underlying95, rfl, rfl, rfl, rfl, rfl, rfl, rfl, rfl⟩
def CapsD (w : World) (A : Option Addr) (l : List DelT) : Prop := ∀ k, k < l.length → ∀ b off, A = some ⟨b, off, none⟩ → ∀ PA n pc, w.cell? ⟨b, off + k * 8 + 1, none⟩ = some (.slice PA n pc) → pc ≤ 9223372036854775807
section
variable {H : Type} {enc : TypeId × Value → H} {W : World} {sp : Nat → Bool}
theorem open_names6 {fuel : Nat} {cs : List Value} {x : DataW H × List MemPlace} (h : DataW.trod enc Tryz.prog W 0 sp true fuel 23 cs = some x) (hw : ∀ n ∈ x.1.weights Tryz.prog 23, n ≤ reachBytes) :
    ∃ A c, ∃ ns : List ByteArray, cs = [.slice A ns.length c] ∧ ns.length ≤ c ∧ (A = none → c = 0) ∧ c ≤ 9223372036854775807 ∧ ns.length ≤ 8796093021952 ∧ StrsAt W (fun b => b < W.heap.size) A ns := by
  obtain ⟨A, c, ns, hcs, h1, h2, h3, h4⟩ := open_names2 h hw
  refine ⟨A, c, ns, hcs, h1, h2, ?_, h3, h4⟩
  rcases open_strings Tryz.underlying23 Tryz.underlying9 cellsStr h with ⟨h0, _⟩ | ⟨a, len, cap, ss, h0, -, hl, hm, -⟩
  · rw [hcs] at h0
    injection h0 with h0
    injection h0 with e1 e2 e3
    omega
  · rw [hcs] at h0
    injection h0 with h0
    injection h0 with e1 e2 e3
    unfold maxLen at hm
    omega
theorem open_del {fuel : Nat} {cs : List Value} {x : DataW H × List MemPlace} (h : DataW.trod enc Tryz.prog W 0 sp true fuel 95 cs = some x) (hw : ∀ n ∈ x.1.weights Tryz.prog 95, n ≤ reachBytes) :
    ∃ d : DelT, DelL W (fun b => b < W.heap.size) d cs.toArray ∧ ∀ PA n pc, cs.toArray[1]? = some (.slice PA n pc) → pc ≤ 9223372036854775807 := by
  obtain ⟨f0, f1, f2, f3, hu, t0, t1, t2, t3, o0, o1, o2, o3⟩ := fieldsDlt
  obtain ⟨xs, n, hfu, hx, hlen, hxl, hg⟩ := DataW.trod_struct hu h
  rw [cellsDlt] at hlen
  match cs, hlen with
  | [c0, c1, c2, c3, c4, c5, c6, c7], _ =>
    match xs, hxl with
    | [y0, y1, y2, y3], _ =>
      have g0 := hg 0 f0 rfl
      have g1 := hg 1 f1 rfl
      have g2 := hg 2 f2 rfl
      have g3 := hg 3 f3 rfl
      rw [t0, o0, cellsI] at g0
      rw [t1, o1, cellsStrs] at g1
      rw [t2, o2, cellsVal] at g2
      rw [t3, o3, cellsI] at g3
      have hws := hw
      rw [hx] at hws
      simp only [DataW.weights, hu, List.map_cons, List.map_nil, t0, t1, t2, t3] at hws
      obtain ⟨k, e0, -, w0⟩ := DataW.trod_int Tryz.underlying3 g0
      obtain ⟨m, e3, -, w3⟩ := DataW.trod_int Tryz.underlying3 g3
      simp at e0 e3
      subst e0 e3
      have hw1 : ∀ n ∈ y1.1.weights Tryz.prog 23, n ≤ reachBytes := fun n hn => hws n (by rw [DataW.weightsEach, DataW.weightsEach]; exact List.mem_append_right _ (List.mem_append_left _ hn))
      have hw2 : ∀ n ∈ y2.1.weights Tryz.prog 25, n ≤ reachBytes := fun n hn => hws n (by rw [DataW.weightsEach, DataW.weightsEach, DataW.weightsEach]; exact List.mem_append_right _ (List.mem_append_right _ (List.mem_append_left _ hn)))
      obtain ⟨PA, pc, ps, e1, hpc, hpo, h63, hpn, hps⟩ := open_names6 g1 hw1
      obtain ⟨t, ht⟩ := open_val _ _ _ g2 hw2
      simp at e1
      subst e1
      obtain ⟨VA, vc, VA', vc', hvs, -⟩ := ht.shape
      simp at hvs
      obtain ⟨rfl, rfl, rfl, rfl, rfl⟩ := hvs
      refine ⟨⟨k, ps, t, m⟩, ⟨PA, pc, VA, vc, VA', vc', rfl, ht, hps, hpc, hpo, in64_of_wf w0, in64_of_wf w3, hpn⟩, fun PA' n' pc' e => ?_⟩
      injection e with e
      injection e with _ _ e
      omega
theorem open_dels {fuel : Nat} {cs : List Value} {x : DataW H × List MemPlace} (h : DataW.trod enc Tryz.prog W 0 sp true fuel 26 cs = some x) (hw : ∀ n ∈ x.1.weights Tryz.prog 26, n ≤ reachBytes) :
    ∃ A c, ∃ os : List DelT, cs = [.slice A os.length c] ∧ (A = none → c = 0 ∧ os = []) ∧ os.length ≤ c ∧ os.length ≤ 1172812402961 ∧ DelsL W (fun b => b < W.heap.size) A os ∧ CapsD W A os := by
  rcases DataW.trod_slice Tryz.underlying26 h with ⟨e3, -⟩ | ⟨a, len, cap, elems, rest, m, hm, e3, x3, -, hlc, -, hel, hat, -, -⟩
  · exact ⟨none, 0, [], e3, fun _ => ⟨rfl, rfl⟩, by simp, by simp, fun h => absurd h (by simp), fun k h => absurd h (by simp)⟩
  · have hws := hw
    rw [x3] at hws
    simp only [DataW.weights, Tryz.underlying26] at hws
    have hl : len ≤ 1172812402961 := by
      have h1 := hws _ (List.mem_cons_self ..)
      rw [bytesDlt] at h1
      simp only [List.length_map, hel, reachBytes] at h1
      omega
    have hT : ∀ j, ∃ o : DelT, j < len → ∃ cs : Array Value, (∀ i v, cs[i]? = some v → W.cell? ((a.add (j * 8)).add i) = some v) ∧ DelL W (fun b => b < W.heap.size) o cs ∧ (∀ PA n pc, cs[1]? = some (.slice PA n pc) → pc ≤ 9223372036854775807) := by
      intro j
      by_cases hj : j < len
      · have h1 := hat j hj
        rw [cellsDlt, List.getElem?_eq_getElem (by omega)] at h1
        obtain ⟨cs', hc, ht⟩ := Option.bind_eq_some_iff.1 h1
        obtain ⟨-, hcl, hcat⟩ := World.cells?_some hc
        obtain ⟨o, ho, hoc⟩ := open_del ht (fun n hn => hws n (List.mem_cons_of_mem _ (List.mem_append_left _ (mem_weightsAll (List.mem_map.2 ⟨_, List.getElem_mem (by omega), rfl⟩) n hn))))
        refine ⟨o, fun _ => ⟨cs'.toArray, fun i v hv => ?_, ho, hoc⟩⟩
        have hi := (Array.getElem?_eq_some_iff.1 hv).1
        have hi' : i < cs'.length := by simpa using hi
        rw [hcat i (by omega)]
        simpa using hv
      · exact ⟨⟨0, [], .mk 0 0 ⟨#[]⟩ [] [], 0⟩, fun h => absurd h hj⟩
    obtain ⟨T, hT⟩ := Classical.skolem.1 hT
    have hlm : ((List.range len).map T).length = len := by simp
    by_cases hp0 : 0 < len
    · obtain ⟨b, off, spot⟩ := a
      obtain ⟨cs0, h0, hok0, -⟩ := hT 0 hp0
      obtain ⟨PA0, pc0, VA0, vc0, VA1, vc1, hcs0, -⟩ := hok0
      have h00 := h0 0 (.int .i64 (T 0).kind) (by rw [hcs0]; rfl)
      obtain rfl : spot = none := by simpa [Addr.add] using World.cell?_spot h00
      refine ⟨some ⟨b, off, none⟩, cap, (List.range len).map T, by rw [hlm]; exact e3, (fun h => by cases h), by omega, by omega, fun hp => ?_, fun k hk b2 off2 hA PA n pc hc => ?_⟩
      · refine ⟨b, off, rfl, ?_, fun j hj => ?_⟩
        · rw [addr_add6, addr_add6] at h00; exact World.block_lt_of_cell? W _ h00
        · rw [hlm] at hj
          obtain ⟨cs, h0, h1, -⟩ := hT j hj
          refine ⟨cs, fun i v hv => ?_, by simpa using h1⟩
          have := h0 i v hv
          rw [addr_add6, addr_add6] at this
          exact this
      · rw [hlm] at hk
        injection hA with hA
        injection hA with e1 e2
        subst e1 e2
        obtain ⟨cs, h0, h1, h2⟩ := hT k hk
        obtain ⟨PA1, pc1, VA2, vc2, VA3, vc3, hcs1, -⟩ := h1
        have h3 := h0 1 (.slice PA1 (T k).path.length pc1) (by rw [hcs1]; rfl)
        rw [addr_add6, addr_add6] at h3
        rw [h3] at hc
        injection hc with hc
        injection hc with _ _ hc
        have := h2 PA1 (T k).path.length pc1 (by rw [hcs1]; rfl)
        omega
    · have hl0 : len = 0 := by omega
      subst hl0
      exact ⟨some a, cap, [], by simpa using e3, (fun h => by cases h), by simp, by simp, fun h => absurd h (by simp), fun k h => absurd h (by simp)⟩
end
end Go.Proofs.YtpcdngpppjdgcaaGreat

/- Entries in memory. -/
namespace Go.Proofs.YtpcdngpppjdgcaaGreat
set_option linter.unusedVariables false
set_option linter.unusedSimpArgs false
open Go.RowKit
set_option maxRecDepth 100000
def EntL (w : World) (S : Nat → Prop) (e : EntT) (cs : Array Value) : Prop :=
  ∃ (IA : Option Addr) (ic : Nat) (IA' : Option Addr) (ic' : Nat) (DA : Option Addr) (dc : Nat) (DA' : Option Addr) (dc' : Nat) (LA : Option Addr) (lc : Nat),
    cs = #[.int .i64 e.term, .int .i64 e.kind, .string e.coll, .string e.to, .int .i64 e.id.kind, .int .i64 e.id.num, .string e.id.text, .slice IA e.id.items.length ic, .slice IA' e.id.names.length ic', .int .i64 e.doc.kind, .int .i64 e.doc.num, .string e.doc.text, .slice DA e.doc.items.length dc, .slice DA' e.doc.names.length dc', .slice LA e.dels.length lc, .int .i64 e.session, .int .i64 e.number] ∧ LV w S e.id (.agg #[.int .i64 e.id.kind, .int .i64 e.id.num, .string e.id.text, .slice IA e.id.items.length ic, .slice IA' e.id.names.length ic']) ∧ LV w S e.doc (.agg #[.int .i64 e.doc.kind, .int .i64 e.doc.num, .string e.doc.text, .slice DA e.doc.items.length dc, .slice DA' e.doc.names.length dc']) ∧ DelsL w S LA e.dels ∧ e.dels.length ≤ lc ∧ (LA = none → lc = 0) ∧ e.dels.length ≤ 1172812402961 ∧
    Rng e.term ∧ Rng e.kind ∧ Rng e.session ∧ Rng e.number ∧ e.coll.size ≤ 140737488351232 ∧ e.to.size ≤ 140737488351232
theorem EntL.keep {w w' : World} {S : Nat → Prop} {e : EntT} {cs : Array Value} (h : EntL w S e cs) (hk : ∀ b, S b → w'.heap[b]? = w.heap[b]?) : EntL w' S e cs := by
  obtain ⟨IA, ic, IA', ic', DA, dc, DA', dc', LA, lc, h1, h2, h3, h4, h5⟩ := h
  exact ⟨IA, ic, IA', ic', DA, dc, DA', dc', LA, lc, h1, h2.keep hk, h3.keep hk, h4.keep hk, h5⟩
structure SmE (e : EntT) : Prop where
  idd : depthT e.id ≤ 4611686018427387903
  docd : depthT e.doc ≤ 4611686018427387903
  idz : sizeT e.id ≤ 9223372036854775807
  docz : sizeT e.doc ≤ 9223372036854775807
  dels : e.dels.length ≤ 64 → SmallD e.dels ∧ SmallZD e.dels
def EBox (w : World) (g : Nat) (e : EntT) (IA : Option Addr) (ic : Nat) (IA' : Option Addr) (ic' : Nat) (DA : Option Addr) (dc : Nat) (DA' : Option Addr) (dc' : Nat) (LA : Option Addr) (lc : Nat) : Prop :=
  w.heap[g]? = some (.cells #[.int .i64 e.term, .int .i64 e.kind, .string e.coll, .string e.to, .int .i64 e.id.kind, .int .i64 e.id.num, .string e.id.text, .slice IA e.id.items.length ic, .slice IA' e.id.names.length ic', .int .i64 e.doc.kind, .int .i64 e.doc.num, .string e.doc.text, .slice DA e.doc.items.length dc, .slice DA' e.doc.names.length dc', .slice LA e.dels.length lc, .int .i64 e.session, .int .i64 e.number] 28 (0, 0))
section
variable {w w' : World} {g : Nat} {e : EntT} {IA : Option Addr} {ic : Nat} {IA' : Option Addr} {ic' : Nat} {DA : Option Addr} {dc : Nat} {DA' : Option Addr} {dc' : Nat} {LA : Option Addr} {lc : Nat}
theorem EBox.lt (h : EBox w g e IA ic IA' ic' DA dc DA' dc' LA lc) : g < w.heap.size := (Array.getElem?_eq_some_iff.1 h).1
theorem EBox.below (h : EBox w g e IA ic IA' ic' DA dc DA' dc' LA lc) (hb : Below w.heap.size w w') : EBox w' g e IA ic IA' ic' DA dc DA' dc' LA lc := (hb.block g h.lt).trans h
theorem EBox.g0 (h : EBox w g e IA ic IA' ic' DA dc DA' dc' LA lc) : w.cell? ⟨g, 0, none⟩ = some (.int .i64 e.term) := Go.Joins.cell_of_block h 0
theorem EBox.g1 (h : EBox w g e IA ic IA' ic' DA dc DA' dc' LA lc) : w.cell? ⟨g, 1, none⟩ = some (.int .i64 e.kind) := Go.Joins.cell_of_block h 1
theorem EBox.g2 (h : EBox w g e IA ic IA' ic' DA dc DA' dc' LA lc) : w.cell? ⟨g, 2, none⟩ = some (.string e.coll) := Go.Joins.cell_of_block h 2
theorem EBox.g3 (h : EBox w g e IA ic IA' ic' DA dc DA' dc' LA lc) : w.cell? ⟨g, 3, none⟩ = some (.string e.to) := Go.Joins.cell_of_block h 3
theorem EBox.g4 (h : EBox w g e IA ic IA' ic' DA dc DA' dc' LA lc) : w.cell? ⟨g, 4, none⟩ = some (.int .i64 e.id.kind) := Go.Joins.cell_of_block h 4
theorem EBox.g5 (h : EBox w g e IA ic IA' ic' DA dc DA' dc' LA lc) : w.cell? ⟨g, 5, none⟩ = some (.int .i64 e.id.num) := Go.Joins.cell_of_block h 5
theorem EBox.g6 (h : EBox w g e IA ic IA' ic' DA dc DA' dc' LA lc) : w.cell? ⟨g, 6, none⟩ = some (.string e.id.text) := Go.Joins.cell_of_block h 6
theorem EBox.g7 (h : EBox w g e IA ic IA' ic' DA dc DA' dc' LA lc) : w.cell? ⟨g, 7, none⟩ = some (.slice IA e.id.items.length ic) := Go.Joins.cell_of_block h 7
theorem EBox.g8 (h : EBox w g e IA ic IA' ic' DA dc DA' dc' LA lc) : w.cell? ⟨g, 8, none⟩ = some (.slice IA' e.id.names.length ic') := Go.Joins.cell_of_block h 8
theorem EBox.g9 (h : EBox w g e IA ic IA' ic' DA dc DA' dc' LA lc) : w.cell? ⟨g, 9, none⟩ = some (.int .i64 e.doc.kind) := Go.Joins.cell_of_block h 9
theorem EBox.g10 (h : EBox w g e IA ic IA' ic' DA dc DA' dc' LA lc) : w.cell? ⟨g, 10, none⟩ = some (.int .i64 e.doc.num) := Go.Joins.cell_of_block h 10
theorem EBox.g11 (h : EBox w g e IA ic IA' ic' DA dc DA' dc' LA lc) : w.cell? ⟨g, 11, none⟩ = some (.string e.doc.text) := Go.Joins.cell_of_block h 11
theorem EBox.g12 (h : EBox w g e IA ic IA' ic' DA dc DA' dc' LA lc) : w.cell? ⟨g, 12, none⟩ = some (.slice DA e.doc.items.length dc) := Go.Joins.cell_of_block h 12
theorem EBox.g13 (h : EBox w g e IA ic IA' ic' DA dc DA' dc' LA lc) : w.cell? ⟨g, 13, none⟩ = some (.slice DA' e.doc.names.length dc') := Go.Joins.cell_of_block h 13
theorem EBox.g14 (h : EBox w g e IA ic IA' ic' DA dc DA' dc' LA lc) : w.cell? ⟨g, 14, none⟩ = some (.slice LA e.dels.length lc) := Go.Joins.cell_of_block h 14
theorem EBox.g15 (h : EBox w g e IA ic IA' ic' DA dc DA' dc' LA lc) : w.cell? ⟨g, 15, none⟩ = some (.int .i64 e.session) := Go.Joins.cell_of_block h 15
theorem EBox.g16 (h : EBox w g e IA ic IA' ic' DA dc DA' dc' LA lc) : w.cell? ⟨g, 16, none⟩ = some (.int .i64 e.number) := Go.Joins.cell_of_block h 16
end
structure EntAt (w : World) (S : Nat → Prop) (e : EntT) (IA : Option Addr) (ic : Nat) (IA' : Option Addr) (ic' : Nat) (DA : Option Addr) (dc : Nat) (DA' : Option Addr) (dc' : Nat) (LA : Option Addr) (lc : Nat) : Prop where
  id : LV w S e.id (.agg #[.int .i64 e.id.kind, .int .i64 e.id.num, .string e.id.text, .slice IA e.id.items.length ic, .slice IA' e.id.names.length ic'])
  doc : LV w S e.doc (.agg #[.int .i64 e.doc.kind, .int .i64 e.doc.num, .string e.doc.text, .slice DA e.doc.items.length dc, .slice DA' e.doc.names.length dc'])
  dels : DelsL w S LA e.dels
  cap : e.dels.length ≤ lc
  nil : LA = none → lc = 0
  len : e.dels.length ≤ 1172812402961
  rt : Rng e.term
  rk : Rng e.kind
  rs : Rng e.session
  rn : Rng e.number
  cz : e.coll.size ≤ 140737488351232
  tz : e.to.size ≤ 140737488351232
theorem EntAt.l {w : World} {S : Nat → Prop} {e : EntT} {IA : Option Addr} {ic : Nat} {IA' : Option Addr} {ic' : Nat} {DA : Option Addr} {dc : Nat} {DA' : Option Addr} {dc' : Nat} {LA : Option Addr} {lc : Nat} (h : EntAt w S e IA ic IA' ic' DA dc DA' dc' LA lc) : EntL w S e #[.int .i64 e.term, .int .i64 e.kind, .string e.coll, .string e.to, .int .i64 e.id.kind, .int .i64 e.id.num, .string e.id.text, .slice IA e.id.items.length ic, .slice IA' e.id.names.length ic', .int .i64 e.doc.kind, .int .i64 e.doc.num, .string e.doc.text, .slice DA e.doc.items.length dc, .slice DA' e.doc.names.length dc', .slice LA e.dels.length lc, .int .i64 e.session, .int .i64 e.number] :=
  ⟨IA, ic, IA', ic', DA, dc, DA', dc', LA, lc, rfl, h.id, h.doc, h.dels, h.cap, h.nil, h.len, h.rt, h.rk, h.rs, h.rn, h.cz, h.tz⟩
theorem EntL.at {w : World} {S : Nat → Prop} {e : EntT} {cs : Array Value} (h : EntL w S e cs) : ∃ IA ic IA' ic' DA dc DA' dc' LA lc, cs = #[.int .i64 e.term, .int .i64 e.kind, .string e.coll, .string e.to, .int .i64 e.id.kind, .int .i64 e.id.num, .string e.id.text, .slice IA e.id.items.length ic, .slice IA' e.id.names.length ic', .int .i64 e.doc.kind, .int .i64 e.doc.num, .string e.doc.text, .slice DA e.doc.items.length dc, .slice DA' e.doc.names.length dc', .slice LA e.dels.length lc, .int .i64 e.session, .int .i64 e.number] ∧ EntAt w S e IA ic IA' ic' DA dc DA' dc' LA lc := by
  obtain ⟨IA, ic, IA', ic', DA, dc, DA', dc', LA, lc, h1, h2, h3, h4, h5, h6, h7, h8, h9, h10, h11, h12, h13⟩ := h
  exact ⟨IA, ic, IA', ic', DA, dc, DA', dc', LA, lc, h1, h2, h3, h4, h5, h6, h7, h8, h9, h10, h11, h12, h13⟩
theorem EntAt.keep {w w' : World} {S : Nat → Prop} {e : EntT} {IA : Option Addr} {ic : Nat} {IA' : Option Addr} {ic' : Nat} {DA : Option Addr} {dc : Nat} {DA' : Option Addr} {dc' : Nat} {LA : Option Addr} {lc : Nat} (h : EntAt w S e IA ic IA' ic' DA dc DA' dc' LA lc) (hk : ∀ b, S b → w'.heap[b]? = w.heap[b]?) : EntAt w' S e IA ic IA' ic' DA dc DA' dc' LA lc :=
  ⟨h.id.keep hk, h.doc.keep hk, h.dels.keep hk, h.cap, h.nil, h.len, h.rt, h.rk, h.rs, h.rn, h.cz, h.tz⟩
theorem EntAt.below {w w' : World} {S : Nat → Prop} {e : EntT} {IA : Option Addr} {ic : Nat} {IA' : Option Addr} {ic' : Nat} {DA : Option Addr} {dc : Nat} {DA' : Option Addr} {dc' : Nat} {LA : Option Addr} {lc : Nat} {B : Nat} (h : EntAt w S e IA ic IA' ic' DA dc DA' dc' LA lc) (hS : ∀ b, S b → b < B) (hb : Below B w w') : EntAt w' S e IA ic IA' ic' DA dc DA' dc' LA lc := h.keep fun b hb' => hb.block b (hS b hb')
theorem EntAt.imp {w : World} {S S' : Nat → Prop} {e : EntT} {IA : Option Addr} {ic : Nat} {IA' : Option Addr} {ic' : Nat} {DA : Option Addr} {dc : Nat} {DA' : Option Addr} {dc' : Nat} {LA : Option Addr} {lc : Nat} (h : EntAt w S e IA ic IA' ic' DA dc DA' dc' LA lc) (hS : ∀ b, S b → S' b) : EntAt w S' e IA ic IA' ic' DA dc DA' dc' LA lc :=
  ⟨h.id.imp hS, h.doc.imp hS, h.dels.imp hS, h.cap, h.nil, h.len, h.rt, h.rk, h.rs, h.rn, h.cz, h.tz⟩
theorem EntAt.nil' {w : World} {S : Nat → Prop} {e : EntT} {IA : Option Addr} {ic : Nat} {IA' : Option Addr} {ic' : Nat} {DA : Option Addr} {dc : Nat} {DA' : Option Addr} {dc' : Nat} {LA : Option Addr} {lc : Nat} (h : EntAt w S e IA ic IA' ic' DA dc DA' dc' LA lc) : LA = none → lc = 0 ∧ e.dels = [] := fun hn => by
  have h1 := h.nil hn
  have h2 := h.cap
  exact ⟨h1, List.eq_nil_of_length_eq_zero (by omega)⟩
theorem wpList_load_ent {ops : Array Oper} {rest : List Oper} {o : Oper} {a : Act} {w : World} {Q : Exit → Act → World → Prop} (hw : Region.wanted o (yielded ops a.tmps) = true) (x : Operand) (ho : o.op = .load 28 x)
    (g : Nat) (hx : a.eval x = .pointer (some ⟨g, 0, none⟩)) (cs : Array Value) (fr : Nat × Nat) (hg : w.heap[g]? = some (.cells cs 28 fr)) (hn : cs.size = 17)
    (h : wpList Tryz.prog ops Q rest (a.put o.dst (.agg cs)) w) : wpList Tryz.prog ops Q (o :: rest) a w :=
  wpList_step fun K hK => by
    rw [hw, if_pos rfl]
    exact wp_load_row 28 x ho g hx 28 cs fr _ hg Tryz.underlying28 rfl (by rw [hn]; kernel_rfl) (hK _ _ h)
def setMany : Array Value → Nat → List Value → Array Value
  | C, _, [] => C
  | C, o, v :: r => setMany (C.setIfInBounds o v) (o + 1) r
theorem setMany_block {w : World} {b : Nat} {ty : TypeId} {fz : Nat × Nat} : ∀ (vs : List Value) (o : Nat) (C : Array Value), w.heap[b]? = some (.cells C ty fz) → (w.setCells b o vs).heap[b]? = some (.cells (setMany C o vs) ty fz) := by
  intro vs
  induction vs generalizing w with
  | nil => exact fun o C h => h
  | cons v r ih => exact fun o C h => ih (o + 1) _ (Go.Joins.block_setCell (i := o) h v)
theorem setMany_only (b : Nat) : ∀ (vs : List Value) (o : Nat) (w : World), (w.setCells b o vs).os = w.os ∧ (w.setCells b o vs).tape = w.tape ∧ (w.setCells b o vs).output = w.output ∧ (w.setCells b o vs).heap.size = w.heap.size ∧ ∀ k, k ≠ b → (w.setCells b o vs).heap[k]? = w.heap[k]?
  | [], o, w => ⟨rfl, rfl, rfl, rfl, fun _ _ => rfl⟩
  | v :: r, o, w => by
    obtain ⟨h1, h2, h3, h4, h5⟩ := setMany_only b r (o + 1) (w.setCell ⟨b, o, none⟩ v)
    exact ⟨h1, h2, h3, h4.trans (by simp), fun k hk => (h5 k hk).trans (heap_setCell_other _ ⟨b, o, none⟩ k _ hk)⟩
theorem run_storeVar_cells (w : World) (b o : Nat) (ty : TypeId) (v : Value) (cells : Array Value) (hc : v.cells = cells) (ht : w.there b o cells.size) (hi : (Tryz.prog.info? ty).map (·.size) = some cells.size) (h1 : cells.all (·.oneCell') = true) :
    (storeVar ty ⟨b, o, none⟩ v).run Tryz.prog w = .ok () (w.setCells b o cells.toList) := by
  have := run_storeCells_cells (P := Tryz.prog) b o cells.toList 0 w (fun j hj => by simpa using (ht j (by simpa using hj)).1) (fun j hj => by simpa using (ht j (by simpa using hj)).2)
    (fun v hv => (Array.all_eq_true_iff_forall_mem.1 h1) v (by simpa using hv))
  cases hq : Tryz.prog.info? ty with
  | none => simp [hq] at hi
  | some i =>
    have hs : cells.size = i.size := by simp [hq] at hi; omega
    simp only [Nat.add_zero] at this
    simp [storeVar, sizeOf, typeInfo, hq, hc, hs, this]
theorem wpList_store_ent {ops : Array Oper} {rest : List Oper} {o : Oper} {a : Act} {w : World} {Q : Exit → Act → World → Prop} (hw : Region.wanted o (yielded ops a.tmps) = true) (ty : TypeId) (x y : Operand) (ho : o.op = .store ty x y) (hd : o.dst = none)
    (g off : Nat) (hx : a.eval x = .pointer (some ⟨g, off, none⟩)) (v : Value) (cells : Array Value) (hy : a.eval y = v) (hc : v.cells = cells) (C C' : Array Value) (t : TypeId) (hg : w.heap[g]? = some (.cells C t (0, 0))) (hn : off + cells.size ≤ C.size)
    (hi : (Tryz.prog.info? ty).map (·.size) = some cells.size) (h1 : cells.all (·.oneCell') = true) (hC : setMany C off cells.toList = C')
    (h : ∀ w', w'.heap[g]? = some (.cells C' t (0, 0)) → Only w w' g → w'.heap.size = w.heap.size → wpList Tryz.prog ops Q rest a w') : wpList Tryz.prog ops Q (o :: rest) a w :=
  wpList_step fun K hK => by
    rw [hw, if_pos rfl]
    have ht : w.there g off cells.size := fun j hj => ⟨by
      rw [Go.Joins.cell_of_block hg (off + j), Array.getElem?_eq_getElem (by omega)]; rfl, Go.Joins.unfrozen_of_block hg _⟩
    have e := run_storeVar_cells w g off ty v cells hc ht hi h1
    have hK' : K (a.put o.dst undef) (w.setCells g off cells.toList) := by
      rw [hd]
      refine hK _ _ (h _ ?_ ?_ ?_)
      · rw [← hC]; exact setMany_block _ _ _ hg
      · obtain ⟨q1, q2, q3, q4, q5⟩ := setMany_only g cells.toList off w
        exact ⟨q1, q2, q3, by rw [q4]; exact Nat.le_refl _, fun b _ hb => q5 b (by intro e; apply hb; rw [e])⟩
      · exact (setMany_only g cells.toList off w).2.2.2.1
    unfold Oper.wp execOp
    simp only [ho, hx, hy, Instr.storeAt, Instr.sureAddr, Sem.run_bind, Sem.run_pure, Result.andThen_ok, e]
    exact hK'
theorem wpList_load_fld {ops : Array Oper} {rest : List Oper} {o : Oper} {a : Act} {w : World} {Q : Exit → Act → World → Prop} (hw : Region.wanted o (yielded ops a.tmps) = true) (x : Operand) (ho : o.op = .load 25 x)
    (g off : Nat) (hx : a.eval x = .pointer (some ⟨g, off, none⟩)) (C : Array Value) (t : TypeId) (fr : Nat × Nat) (hg : w.heap[g]? = some (.cells C t fr)) (cs : List Value) (hcs : (C.extract off (off + 5)).toList = cs) (hn : cs.length = 5)
    (h : wpList Tryz.prog ops Q rest (a.put o.dst (.agg cs.toArray)) w) : wpList Tryz.prog ops Q (o :: rest) a w :=
  wpList_step fun K hK => by
    rw [hw, if_pos rfl]
    exact wp_load_mid 25 x ho g off hx cs _ (by rw [← hcs]; exact World.rangeAt_of_block hg off 5) Tryz.underlying25 rfl (by rw [hn]; kernel_rfl) (hK _ _ h)
theorem results_cell_e {fn : Func} {p : Tmp} (h : fn.results = #[.cell p 28]) (tmps : Array Value) (w : World) (g : Nat) (t : TypeId) (cs : Array Value) (fr : Nat × Nat)
    (hp : tmps.getD p undef = .pointer (some ⟨g, 0, none⟩)) (hg : w.heap[g]? = some (.cells cs t fr)) (hn : cs.size = 17) :
    (results fn tmps).run Tryz.prog w = .ok (.agg cs) w :=
  results_cell_row h tmps w g t cs fr _ hp hg Tryz.underlying28 rfl (by rw [hn]; kernel_rfl)
open Lib (hid)
theorem only_below {B : Nat} {a w w' : World} {g : Nat} (hB : B ≤ a.heap.size) (h : Below B a w) (ho : Only w w' g) (hz : w'.heap.size = w.heap.size) (hg : B ≤ g) : Below B a w' :=
  ⟨ho.os.trans h.os, ho.tape.trans h.tape, ho.output.trans h.output, by rw [hz]; exact h.size, fun b hb => (ho.block b (Nat.lt_of_lt_of_le hb (Nat.le_trans hB h.size)) (by intro e; injection e; omega)).trans (h.block b hb)⟩
theorem only_keep {w w' : World} {g : Nat} {S : Nat → Prop} (ho : Only w w' g) (hS : ∀ b, S b → b < w.heap.size ∧ b ≠ g) : ∀ b, S b → w'.heap[b]? = w.heap[b]? := fun b hb => ho.block b (hS b hb).1 (by intro e; injection e with e; exact (hS b hb).2 e)
theorem only_at {w w' : World} {g p : Nat} {ob : Obj} (ho : Only w w' g) (h : w.heap[p]? = some ob) (hne : p ≠ g) : w'.heap[p]? = some ob := (ho.block p (Array.getElem?_eq_some_iff.1 h).1 (by intro e; injection e with e; exact hne e)).trans h
set_option maxHeartbeats 8000000 in
theorem eclone_any (S : Nat → Prop) (e : EntT) (cs : Array Value) (w : World) (hS : ∀ b, S b → b < w.heap.size) (h : EntL w S e cs) (hl : e.dels.length ≤ 1099511627776) :
    Calls Tryz.prog 17 #[.agg cs] w fun r w' => ∃ cs', r = .returned (.agg cs') ∧ EntL w' (fun b => b < w'.heap.size) e cs' ∧ Below w.heap.size w w' := by
  obtain ⟨IA, ic, IA', ic', DA, dc, DA', dc', LA, lc, rfl, hat⟩ := h.at
  obtain ⟨w2, hw2⟩ : ∃ W, W = (w.alloc (.cells #[.int .i64 e.term, .int .i64 e.kind, .string e.coll, .string e.to, .int .i64 e.id.kind, .int .i64 e.id.num, .string e.id.text, .slice IA e.id.items.length ic, .slice IA' e.id.names.length ic', .int .i64 e.doc.kind, .int .i64 e.doc.num, .string e.doc.text, .slice DA e.doc.items.length dc, .slice DA' e.doc.names.length dc', .slice LA e.dels.length lc, .int .i64 e.session, .int .i64 e.number] 28)).alloc (.cells #[.int .i64 0, .int .i64 0, .string ⟨#[]⟩, .string ⟨#[]⟩, .int .i64 0, .int .i64 0, .string ⟨#[]⟩, .slice none 0 0, .slice none 0 0, .int .i64 0, .int .i64 0, .string ⟨#[]⟩, .slice none 0 0, .slice none 0 0, .slice none 0 0, .int .i64 0, .int .i64 0] 28) := ⟨_, rfl⟩
  have hz1 : (w.alloc (.cells #[.int .i64 e.term, .int .i64 e.kind, .string e.coll, .string e.to, .int .i64 e.id.kind, .int .i64 e.id.num, .string e.id.text, .slice IA e.id.items.length ic, .slice IA' e.id.names.length ic', .int .i64 e.doc.kind, .int .i64 e.doc.num, .string e.doc.text, .slice DA e.doc.items.length dc, .slice DA' e.doc.names.length dc', .slice LA e.dels.length lc, .int .i64 e.session, .int .i64 e.number] 28)).heap.size = w.heap.size + 1 := by simp
  have hz2 : w2.heap.size = w.heap.size + 2 := by rw [hw2]; simp
  have hbb : w2.heap[w.heap.size + 1]? = some (.cells #[.int .i64 0, .int .i64 0, .string ⟨#[]⟩, .string ⟨#[]⟩, .int .i64 0, .int .i64 0, .string ⟨#[]⟩, .slice none 0 0, .slice none 0 0, .int .i64 0, .int .i64 0, .string ⟨#[]⟩, .slice none 0 0, .slice none 0 0, .slice none 0 0, .int .i64 0, .int .i64 0] 28 (0, 0)) := by rw [hw2, ← hz1]; exact heap_alloc_new _ _
  have hba : w2.heap[w.heap.size]? = some (.cells #[.int .i64 e.term, .int .i64 e.kind, .string e.coll, .string e.to, .int .i64 e.id.kind, .int .i64 e.id.num, .string e.id.text, .slice IA e.id.items.length ic, .slice IA' e.id.names.length ic', .int .i64 e.doc.kind, .int .i64 e.doc.num, .string e.doc.text, .slice DA e.doc.items.length dc, .slice DA' e.doc.names.length dc', .slice LA e.dels.length lc, .int .i64 e.session, .int .i64 e.number] 28 (0, 0)) := by rw [hw2, Below.heap_alloc _ _ _ (by omega)]; exact heap_alloc_new _ _
  have h02 : Below w.heap.size w w2 := by rw [hw2]; exact (below_box _).alloc (by omega) _
  have HB2 := hid h02
  have HK2 : Hid (EBox w2 w.heap.size e IA ic IA' ic' DA dc DA' dc' LA lc) := hid hba
  have HZ2 := hid hbb
  have HZS := hid hz2
  have HS := hid hS
  have HA := hid hat
  have HLL := hid hl
  have HC := hid (clone_own S e.id _ w2 (fun b hb => Nat.lt_of_lt_of_le (hS b hb) h02.size) (hat.below hS h02).id)
  clear h02 hba hbb hS h hat hz1 hz2 hl
  go_enter Tryz.func17, Tryz.ntmps17
  go_wp2_with fail
  rw [← hw2]
  clear hw2
  refine HC.out.mono ?_
  rintro q w3 ⟨v, rfl, hov, hb⟩
  have HB3 := hid (HB2.out.trans (hb.mono HB2.out.size))
  have HK3 := hid (HK2.out.below hb)
  have HZ3 := hid ((hb.block _ (Array.getElem?_eq_some_iff.1 HZ2.out).1).trans HZ2.out)
  have HZW3 : Hid (w.heap.size + 2 ≤ w3.heap.size) := hid (by have := hb.size; have := HZS.out; omega)
  have HI3 := hid hov.lv
  obtain ⟨NA, nc, NA', nc', rfl, -⟩ := hov.lv.shape
  clear hov hb HC
  have HCD := hid (fun W h => clone_own S e.doc (.agg #[.int .i64 e.doc.kind, .int .i64 e.doc.num, .string e.doc.text, .slice DA e.doc.items.length dc, .slice DA' e.doc.names.length dc']) W (fun b hb => Nat.lt_of_lt_of_le (HS.out b hb) (h : Below w.heap.size w W).size) (HA.out.below HS.out h).doc)
  go_wp2_with (first | (refine wpList_store_ent (by rfl) 25 _ _ rfl rfl w.heap.size 4 rfl _ #[.int .i64 e.id.kind, .int .i64 e.id.num, .string e.id.text, .slice NA e.id.items.length nc, .slice NA' e.id.names.length nc'] rfl rfl _ #[.int .i64 e.term, .int .i64 e.kind, .string e.coll, .string e.to, .int .i64 e.id.kind, .int .i64 e.id.num, .string e.id.text, .slice NA e.id.items.length nc, .slice NA' e.id.names.length nc', .int .i64 e.doc.kind, .int .i64 e.doc.num, .string e.doc.text, .slice DA e.doc.items.length dc, .slice DA' e.doc.names.length dc', .slice LA e.dels.length lc, .int .i64 e.session, .int .i64 e.number] 28 HK3.out (by simp) (by kernel_rfl) (by simp [Value.oneCell']) (by kernel_rfl) ?_; intro w4 hk ho hz; have HK4 : Hid (EBox w4 w.heap.size e NA nc NA' nc' DA dc DA' dc' LA lc) := hid hk; have HO4 := hid (And.intro ho hz); clear hk ho hz) | (refine wpList_load_fld (by rfl) _ rfl w.heap.size 9 rfl _ _ _ HK4.out [.int .i64 e.doc.kind, .int .i64 e.doc.num, .string e.doc.text, .slice DA e.doc.items.length dc, .slice DA' e.doc.names.length dc'] rfl rfl ?_; simp only [Act.put, List.setIfInBounds_toArray, List.set_cons_succ, List.set_cons_zero]))
  have HB4 := hid (only_below (Nat.le_refl _) HB3.out HO4.out.1 HO4.out.2 (Nat.le_refl _))
  refine (HCD.out _ HB4.out).mono ?_
  rintro q w5 ⟨v, rfl, hov, hb⟩
  have HB5 := hid (HB4.out.trans (hb.mono HB4.out.size))
  have HK5 := hid (HK4.out.below hb)
  have HZ5 : Hid (w5.heap[w.heap.size + 1]? = some (.cells #[.int .i64 0, .int .i64 0, .string ⟨#[]⟩, .string ⟨#[]⟩, .int .i64 0, .int .i64 0, .string ⟨#[]⟩, .slice none 0 0, .slice none 0 0, .int .i64 0, .int .i64 0, .string ⟨#[]⟩, .slice none 0 0, .slice none 0 0, .slice none 0 0, .int .i64 0, .int .i64 0] 28 (0, 0))) := hid (by
    have h1 := (only_keep (S := fun b => b = w.heap.size + 1) HO4.out.1 (fun b hb => by subst hb; exact ⟨by have := HZW3.out; omega, by omega⟩) _ rfl).trans HZ3.out
    exact (hb.block _ (Array.getElem?_eq_some_iff.1 h1).1).trans h1)
  have HI5 : Hid (LV w5 (fun b => w.heap.size + 2 ≤ b ∧ b < w5.heap.size) e.id (.agg #[.int .i64 e.id.kind, .int .i64 e.id.num, .string e.id.text, .slice NA e.id.items.length nc, .slice NA' e.id.names.length nc'])) := hid (((HI3.out.keep (only_keep HO4.out.1 fun b hb => by
    have h1 := hb.1
    have := HZS.out
    exact ⟨hb.2, by omega⟩)).keep fun b hb' => hb.block b (by rw [HO4.out.2]; exact hb'.2)).imp fun b hb' => ⟨by have h1 := hb'.1; have := HZS.out; omega, Nat.lt_of_lt_of_le hb'.2 (by rw [← HO4.out.2]; exact hb.size)⟩)
  have HJ5 : Hid (LV w5 (fun b => w.heap.size + 2 ≤ b ∧ b < w5.heap.size) e.doc v) := hid (hov.lv.imp fun b hb' => ⟨by have h1 := hb'.1; have := HZW3.out; have := HO4.out.2; omega, hb'.2⟩)
  obtain ⟨MA, mc, MA', mc', rfl, -⟩ := hov.lv.shape
  have HZW5 : Hid (w.heap.size + 2 ≤ w5.heap.size) := hid (by have := hb.size; have := HZW3.out; have := HO4.out.2; omega)
  clear hov hb HCD HI3 HZ3
  have HCL := hid (fun W h => dlclone_new S LA lc e.dels W (fun b hb => Nat.lt_of_lt_of_le (HS.out b hb) (h : Below w.heap.size w W).size) (HA.out.below HS.out h).dels HA.out.nil' HLL.out)
  go_wp2_with (first | (refine wpList_store_ent (by rfl) 25 _ _ rfl rfl w.heap.size 9 rfl _ #[.int .i64 e.doc.kind, .int .i64 e.doc.num, .string e.doc.text, .slice MA e.doc.items.length mc, .slice MA' e.doc.names.length mc'] rfl rfl _ #[.int .i64 e.term, .int .i64 e.kind, .string e.coll, .string e.to, .int .i64 e.id.kind, .int .i64 e.id.num, .string e.id.text, .slice NA e.id.items.length nc, .slice NA' e.id.names.length nc', .int .i64 e.doc.kind, .int .i64 e.doc.num, .string e.doc.text, .slice MA e.doc.items.length mc, .slice MA' e.doc.names.length mc', .slice LA e.dels.length lc, .int .i64 e.session, .int .i64 e.number] 28 HK5.out (by simp) (by kernel_rfl) (by simp [Value.oneCell']) (by kernel_rfl) ?_; intro w6 hk ho hz; have HK6 : Hid (EBox w6 w.heap.size e NA nc NA' nc' MA mc MA' mc' LA lc) := hid hk; have HO6 := hid (And.intro ho hz); clear hk ho hz; have y14 := HK6.out.g14))
  have HB6 := hid (only_below (Nat.le_refl _) HB5.out HO6.out.1 HO6.out.2 (Nat.le_refl _))
  refine (HCL.out _ HB6.out).mono ?_
  rintro q w7 ⟨QA, qc, rfl, hq0, hqc, hql, hb⟩
  clear y14
  have HB7 := hid (HB6.out.trans (hb.mono HB6.out.size))
  have HK7 := hid (HK6.out.below hb)
  have HZ7 : Hid (w7.heap[w.heap.size + 1]? = some (.cells #[.int .i64 0, .int .i64 0, .string ⟨#[]⟩, .string ⟨#[]⟩, .int .i64 0, .int .i64 0, .string ⟨#[]⟩, .slice none 0 0, .slice none 0 0, .int .i64 0, .int .i64 0, .string ⟨#[]⟩, .slice none 0 0, .slice none 0 0, .slice none 0 0, .int .i64 0, .int .i64 0] 28 (0, 0))) := hid (by
    have h1 := only_at HO6.out.1 HZ5.out (by omega)
    exact (hb.block _ (Array.getElem?_eq_some_iff.1 h1).1).trans h1)
  have hf : ∀ b, w.heap.size + 2 ≤ b ∧ b < w5.heap.size → w7.heap[b]? = w5.heap[b]? := fun b hb' => (hb.block b (by rw [HO6.out.2]; exact hb'.2)).trans (only_keep HO6.out.1 (S := fun b => w.heap.size + 2 ≤ b ∧ b < w5.heap.size) (fun b h => ⟨h.2, by have := h.1; omega⟩) b hb')
  have hsz : w5.heap.size ≤ w7.heap.size := by have := hb.size; have := HO6.out.2; omega
  have HI7 : Hid (LV w7 (fun b => b < w7.heap.size ∧ b ≠ w.heap.size ∧ b ≠ w.heap.size + 1) e.id (.agg #[.int .i64 e.id.kind, .int .i64 e.id.num, .string e.id.text, .slice NA e.id.items.length nc, .slice NA' e.id.names.length nc'])) := hid ((HI5.out.keep hf).imp fun b h => ⟨by have := h.2; omega, by have := h.1; omega, by have := h.1; omega⟩)
  have HJ7 : Hid (LV w7 (fun b => b < w7.heap.size ∧ b ≠ w.heap.size ∧ b ≠ w.heap.size + 1) e.doc (.agg #[.int .i64 e.doc.kind, .int .i64 e.doc.num, .string e.doc.text, .slice MA e.doc.items.length mc, .slice MA' e.doc.names.length mc'])) := hid ((HJ5.out.keep hf).imp fun b h => ⟨by have := h.2; omega, by have := h.1; omega, by have := h.1; omega⟩)
  have HL7 : Hid (DelsL w7 (fun b => b < w7.heap.size ∧ b ≠ w.heap.size ∧ b ≠ w.heap.size + 1) QA e.dels) := hid (hql.imp fun b h => by
    have h6 : w.heap.size + 2 ≤ w6.heap.size := by rw [HO6.out.2]; exact HZW5.out
    rcases h.2 with h2 | h2
    · have := HS.out b h2
      exact ⟨h.1, by omega, by omega⟩
    · exact ⟨h.1, by omega, by omega⟩)
  have HQ := hid (And.intro hq0 hqc)
  clear hq0 hqc hql hb hf hsz HCL HI5 HJ5 HZ5 HB6
  go_wp2_with (first | (refine wpList_store_ent (by rfl) 26 _ _ rfl rfl w.heap.size 14 rfl _ #[.slice QA e.dels.length qc] rfl rfl _ #[.int .i64 e.term, .int .i64 e.kind, .string e.coll, .string e.to, .int .i64 e.id.kind, .int .i64 e.id.num, .string e.id.text, .slice NA e.id.items.length nc, .slice NA' e.id.names.length nc', .int .i64 e.doc.kind, .int .i64 e.doc.num, .string e.doc.text, .slice MA e.doc.items.length mc, .slice MA' e.doc.names.length mc', .slice QA e.dels.length qc, .int .i64 e.session, .int .i64 e.number] 28 HK7.out (by simp) (by kernel_rfl) (by simp [Value.oneCell']) (by kernel_rfl) ?_; intro w8 hk ho hz; have HK8 : Hid (EBox w8 w.heap.size e NA nc NA' nc' MA mc MA' mc' QA qc) := hid hk; have HO8 := hid (And.intro ho hz); clear hk ho hz) | (refine wpList_load_ent (by rfl) _ rfl w.heap.size rfl _ _ HK8.out rfl ?_; simp only [Act.put, List.setIfInBounds_toArray, List.set_cons_succ, List.set_cons_zero]) | (refine wpList_store_ent (by rfl) 28 _ _ rfl rfl (w.heap.size + 1) 0 rfl _ #[.int .i64 e.term, .int .i64 e.kind, .string e.coll, .string e.to, .int .i64 e.id.kind, .int .i64 e.id.num, .string e.id.text, .slice NA e.id.items.length nc, .slice NA' e.id.names.length nc', .int .i64 e.doc.kind, .int .i64 e.doc.num, .string e.doc.text, .slice MA e.doc.items.length mc, .slice MA' e.doc.names.length mc', .slice QA e.dels.length qc, .int .i64 e.session, .int .i64 e.number] rfl rfl _ #[.int .i64 e.term, .int .i64 e.kind, .string e.coll, .string e.to, .int .i64 e.id.kind, .int .i64 e.id.num, .string e.id.text, .slice NA e.id.items.length nc, .slice NA' e.id.names.length nc', .int .i64 e.doc.kind, .int .i64 e.doc.num, .string e.doc.text, .slice MA e.doc.items.length mc, .slice MA' e.doc.names.length mc', .slice QA e.dels.length qc, .int .i64 e.session, .int .i64 e.number] 28 (only_at HO8.out.1 HZ7.out (by omega)) (by simp) (by kernel_rfl) (by simp [Value.oneCell']) (by kernel_rfl) ?_; intro w9 hk ho hz; have HK9 := hid hk; have HO9 := hid (And.intro ho hz); clear hk ho hz))
  refine bodyPost_ret (results_cell_e rfl _ _ (w.heap.size + 1) _ _ _ rfl HK9.out rfl) rfl ?_
  have hf : ∀ b, (b < w7.heap.size ∧ b ≠ w.heap.size ∧ b ≠ w.heap.size + 1) → w9.heap[b]? = w7.heap[b]? := fun b h => (HO9.out.1.block b (by rw [HO8.out.2]; exact h.1) (by intro e; injection e with e; exact h.2.2 e)).trans (HO8.out.1.block b h.1 (by intro e; injection e with e; exact h.2.1 e))
  have hsz : w9.heap.size = w7.heap.size := HO9.out.2.trans HO8.out.2
  refine ⟨_, rfl, ⟨NA, nc, NA', nc', MA, mc, MA', mc', QA, qc, rfl, (HI7.out.keep hf).imp fun b h => by rw [hsz]; exact h.1, (HJ7.out.keep hf).imp fun b h => by rw [hsz]; exact h.1, (HL7.out.keep hf).imp fun b h => by rw [hsz]; exact h.1, HQ.out.2, HQ.out.1, HA.out.len, HA.out.rt, HA.out.rk, HA.out.rs, HA.out.rn, HA.out.cz, HA.out.tz⟩, ?_⟩
  exact only_below (Nat.le_refl _) (only_below (Nat.le_refl _) HB7.out HO8.out.1 HO8.out.2 (Nat.le_refl _)) HO9.out.1 HO9.out.2 (by omega)
end Go.Proofs.YtpcdngpppjdgcaaGreat
