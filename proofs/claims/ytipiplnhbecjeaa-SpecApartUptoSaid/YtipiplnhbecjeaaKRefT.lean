/- Whether a name is there twice, as the document's answer has it. -/
import Derived.Test.YtipiplnhbecjeaaKRefD2
import Derived.Test.YtipiplnhbecjeaaKRefQ
namespace Go.Proofs.Ytipiplnhbecjeaa
set_option linter.unusedVariables false
set_option linter.unusedSimpArgs false
open Go.RowKit

theorem nodup_of_ne {ns : List ByteArray} (h : ∀ x y (_ : x < ns.length) (_ : y < ns.length), x < y → ns[x] ≠ ns[y]) : ns.Nodup := List.pairwise_iff_getElem.2 fun x y hx hy hxy => h x y hx hy hxy
theorem not_nodup {ns : List ByteArray} {x y : Nat} (hx : x < ns.length) (hy : y < ns.length) (hxy : x < y) (h : ns[x] = ns[y]) : ¬ ns.Nodup := fun hn => List.pairwise_iff_getElem.1 hn x y hx hy hxy h

set_option maxHeartbeats 1000000 in
set_option maxRecDepth 100000 in
theorem twice_any (S : Nat → Prop) (A : Option Addr) (c : Nat) (ns : List ByteArray) (w : World) (hS : ∀ b, S b → b < w.heap.size) (h : StrsAt w S A ns) (hl : ns.length ≤ 140737488351232) :
    Calls Try.prog 43 #[.slice A ns.length c] w fun e w' => (∃ r : Bool, e = .returned (.bool r) ∧ (r = true ↔ ¬ ns.Nodup)) ∧ Below w.heap.size w w' := by
  have HH := Lib.hid h
  clear h
  go_enter Try.func43, Try.ntmps43
  go_wp2_with fail
  go_loopw [3, 4] (fun i k wr => ∃ j : Nat, i = .int .i64 j ∧ j ≤ ns.length ∧ Hid (∀ x y (_ : x < ns.length) (_ : y < ns.length), x < y → y < j → ns[x] ≠ ns[y]) ∧ Hid (Below w.heap.size w wr)) (fun i _ _ => ns.length - (intOf i).toNat)
  case atStart => exact ⟨0, rfl, Nat.zero_le _, Lib.hid (fun _ _ _ _ _ h => absurd h (Nat.not_lt_zero _)), Lib.hid (Below.refl _ _)⟩
  case round =>
    obtain ⟨j, rfl, hj, HD, HB⟩ := hrel
    by_cases hlt : j < ns.length
    · obtain ⟨p, o, rfl, hp, hc⟩ := HH.out (by omega)
      have HC := Lib.hid hc
      have HP := Lib.hid (hS p hp)
      clear hc hp
      go_wp2_with fail
      go_loopw [4] (fun k wr => ∃ m : Nat, k = .int .i64 m ∧ m ≤ j ∧ Hid (∀ x (_ : x < ns.length), x < m → ns[x] ≠ ns[j]) ∧ Hid (Below w.heap.size w wr)) (fun k _ => j - (intOf k).toNat)
      case atStart => exact ⟨0, rfl, Nat.zero_le _, Lib.hid (fun _ _ h => absurd h (Nat.not_lt_zero _)), HB⟩
      case round =>
        rename_i wr
        obtain ⟨m, rfl, hm, HE, HB⟩ := hrel
        by_cases hmj : m < j
        · have hml : m < ns.length := by omega
          have t1 : wr.cell? ⟨p, o + j, none⟩ = some (.string ns[j]) := (HB.out.cell (p := ⟨p, o + j, none⟩) HP.out).trans (HC.out j hlt).1
          have t2 : wr.cell? ⟨p, o + m, none⟩ = some (.string ns[m]) := (HB.out.cell (p := ⟨p, o + m, none⟩) HP.out).trans (HC.out m hml).1
          have hp2 : p < wr.heap.size := Nat.lt_of_lt_of_le HP.out HB.out.size
          obtain ⟨sa, hsa⟩ : ∃ sa, sa = ns[j] := ⟨_, rfl⟩
          obtain ⟨sb, hsb⟩ : ∃ sb, sb = ns[m] := ⟨_, rfl⟩
          rw [← hsa] at t1
          rw [← hsb] at t2
          have HSA := Lib.hid hsa
          have HSB := Lib.hid hsb
          clear hsa hsb
          by_cases hs : sa.toList = sb.toList
          · have es : (sa.toList == sb.toList) = true := by simpa using hs
            have HF : Hid (¬ ns.Nodup) := Lib.hid (not_nodup hml hlt hmj (by rw [← HSA.out, ← HSB.out]; exact (toList_inj hs).symm))
            clear hs
            go_wp2_with fail
            try simp only [List.append_eq, List.cons_append, List.nil_append]
            refine wp_region_lex (by kernel_rfl) (by kernel_rfl) (fun _ d _ _ _ h => by cases d <;> exact h) ?_
            have u1 := cell_later (B := wr.heap.size) (w := wr.drew) t1 hp2
            have u2 := cell_later (B := wr.heap.size) (w := wr.drew) t2 hp2
            first | refine mix_pure ?_ | refine mix_pureB ?_
            simp only [List.takeWhile, List.dropWhile, isPure, Nat.reduceBNe]
            repeat (go_big_quiet_step (fail))
            refine wpQuiet_nil ?_
            unfold wpMix
            clear u1 u2 t1 t2
            go_wp2_with fail
            go_ret
            exact ⟨⟨_, rfl, ⟨fun _ => HF.out, fun _ => rfl⟩⟩, HB.out.drew⟩
          · have es : (sa.toList == sb.toList) = false := by simpa using hs
            have HNE : Hid (ns[m] ≠ ns[j]) := Lib.hid (fun h => hs (by rw [HSA.out, HSB.out, h]))
            clear hs
            go_wp2_with fail
            try simp only [List.append_eq, List.cons_append, List.nil_append]
            refine wp_region_lex (by kernel_rfl) (by kernel_rfl) (fun _ d _ _ _ h => by cases d <;> exact h) ?_
            have u1 := cell_later (B := wr.heap.size) (w := wr.drew) t1 hp2
            have u2 := cell_later (B := wr.heap.size) (w := wr.drew) t2 hp2
            first | refine mix_pure ?_ | refine mix_pureB ?_
            simp only [List.takeWhile, List.dropWhile, isPure, Nat.reduceBNe]
            repeat (go_big_quiet_step (fail))
            refine wpQuiet_nil ?_
            unfold wpMix
            clear u1 u2 t1 t2
            go_wp2_with fail
            go_roundw
            case rel => exact ⟨m + 1, by go_num, by omega, Lib.hid (fun x hx hxm => by
              by_cases e : x = m
              · subst e; exact HNE.out
              · exact HE.out x hx (by omega)), Lib.hid HB.out.drew⟩
            case measure => simp [intOf]; omega
        · go_wp2_with fail
          go_roundw
          case rel => exact ⟨j + 1, by go_num, by omega, Lib.hid (fun x y hx hy hxy hyj => by
            by_cases e : y = j
            · subst e; exact HE.out x hx (by omega)
            · exact HD.out x y hx hy hxy (by omega)), HB⟩
          case measure => simp [intOf]; omega
    · have HF : Hid (ns.Nodup) := Lib.hid (nodup_of_ne fun x y hx hy hxy => HD.out x y hx hy hxy (by omega))
      go_wp2_with fail
      go_ret
      exact ⟨⟨_, rfl, ⟨fun h => (by cases h), fun h => absurd HF.out h⟩⟩, HB.out⟩
end Go.Proofs.Ytipiplnhbecjeaa

/- Which values may be, as the document's answer has it. -/
namespace Go.Proofs.Ytipiplnhbecjeaa
set_option linter.unusedVariables false
set_option linter.unusedSimpArgs false
open Go.RowKit

theorem fits_names {k i : Int} {s : ByteArray} {n : Nat} {ns : List ByteArray} (h : fitsP k i s n ns = true) : ∀ x ∈ ns, nameB x.data.toList = true := by
  unfold fitsP at h
  by_cases h1 : k = 1
  · simp [h1] at h; rw [h.2.2]; simp
  · by_cases h2 : k = 2
    · simp [h2] at h; rw [h.2.2]; simp
    · by_cases h3 : k = 3
      · simp [h3] at h; rw [h.2.2]; simp
      · by_cases h4 : k = 4 ∨ k = 5
        · simp [h1, h2, h3, h4] at h; rw [h.2.2]; simp
        · by_cases h6 : k = 6
          · simp [h6] at h; rw [h.2]; simp
          · by_cases h7 : k = 7
            · simp [h7] at h; exact (nodup_ext.1 h.2).1
            · simp [h1, h2, h3, h4, h6, h7] at h
theorem mayT_mk2 (t : VT) : mayT t = (fitsP t.kind t.num t.text t.items.length t.names && mayL t.items) := by
  cases t; unfold mayT fitsT; rfl
theorem mayL_all : ∀ {l : List VT}, (∀ j (h : j < l.length), mayT l[j] = true) → mayL l = true
  | [], _ => by unfold mayL; rfl
  | t :: r, h => by
    unfold mayL
    rw [Bool.and_eq_true]
    exact ⟨h 0 (by simp), mayL_all fun j hj => by
      have := h (j + 1) (by simpa using hj)
      rwa [List.getElem_cons_succ] at this⟩
theorem distinct_nodup {ns : List ByteArray} (h : ∀ j (h : j < ns.length), nameB (ns[j]).data.toList = true) : distinctN ns = true ↔ ns.Nodup := by
  rw [nodup_ext]
  exact ⟨fun h => h.2, fun h2 => ⟨fun s hs => by
    obtain ⟨j, hj, rfl⟩ := List.mem_iff_getElem.1 hs
    exact h j hj, h2⟩⟩

theorem twice_dist {ns : List ByteArray} {r : Bool} (h : distinctN ns = true ↔ ns.Nodup) (hr : r = true ↔ ¬ ns.Nodup) : distinctN ns = !r := by
  cases r
  · have : ns.Nodup := Classical.byContradiction fun hn => by have := hr.2 hn; cases this
    rw [h.2 this]; rfl
  · have : ¬ ns.Nodup := hr.1 rfl
    have : distinctN ns = false := Bool.eq_false_iff.2 fun hd => this (h.1 hd)
    rw [this]; rfl

set_option maxHeartbeats 4000000 in
set_option maxRecDepth 100000 in
theorem rmay_any (S : Nat → Prop) : ∀ (n : Nat) (t : VT) (v : Value) (w : World), depthT t ≤ n → (∀ b, S b → b < w.heap.size) → LV w S t v →
    Calls Try.prog 23 #[v] w fun e w' => e = .returned (.bool (mayT t)) ∧ Below w.heap.size w w' := by
  intro n
  induction n with
  | zero => intro t v w hd; cases t; rw [depthT_mk] at hd; omega
  | succ n ih =>
    intro t v w hd hS h
    obtain ⟨A, c, A', c', rfl, lens, a7, a6, v1, hb0⟩ := one_var hS h
    have LENS := Lib.hid lens
    have A7 := Lib.hid a7
    have A6 := Lib.hid a6
    have P0 := Lib.hid v1
    have HB0 := Lib.hid hb0
    have HD : Hid (depthL t.items ≤ n) := Lib.hid (by
      have hdt : depthT t = depthL t.items + 1 := by cases t; exact depthT_mk _ _ _ _ _
      omega)
    have HR := Lib.hid (mayT_mk2 t)
    generalize mayT t = R at *
    clear h lens a7 a6 v1 hb0 hd
    go_enter Try.func23, Try.ntmps23
    go_wp2_with fail
    go_loopw [3] (fun i wr => ∃ j : Nat, i = .int .i64 j ∧ j ≤ t.items.length ∧ Hid (∀ x (_ : x < t.items.length), x < j → mayT t.items[x] = true) ∧ Hid (Below w.heap.size w wr) ∧ Hid (Vr wr S w.heap.size t A c A' c')) (fun i _ => t.items.length - (intOf i).toNat)
    case atStart => exact ⟨0, rfl, Nat.zero_le _, Lib.hid (fun _ _ h => absurd h (Nat.not_lt_zero _)), HB0, P0⟩
    case round =>
      obtain ⟨j, rfl, hj, HE, HB, P⟩ := hrel
      have k3 := P.out.x.c3
      have hl := LENS.out.1
      by_cases hlt : j < t.items.length
      · obtain ⟨p, o, A2, e2, A3, e3, rfl, hp, h0, h1, h2, h3, h4, hx⟩ := item_at hS A7.out HB.out j hlt
        have HC := Lib.hid (ih t.items[j] _ wr (Nat.le_trans (depthL_le (List.getElem_mem hlt)) HD.out) P.out.s hx)
        obtain ⟨C, hC⟩ : ∃ C, C = mayT t.items[j] := ⟨_, rfl⟩
        rw [← hC] at HC
        have HCC := Lib.hid hC
        clear hx hp hC
        go_wp2_with fail
        refine HC.out.mono ?_
        rintro e w2 ⟨rfl, hb⟩
        have P2 := Lib.hid (P.out.call hb)
        have HB2 := Lib.hid (toStart HB.out hb)
        clear hb HC k3 h0 h1 h2 h3 h4 P HB P0 HB0
        cases C
        · have HF : Hid (R = false) := Lib.hid (by
            rw [HR.out, Bool.and_eq_false_iff]
            refine .inr (Bool.eq_false_iff.2 fun h => ?_)
            have h1 := mayL_mem h (List.getElem_mem hlt)
            rw [← HCC.out] at h1; cases h1)
          go_wp2_with fail
          go_ret
          exact ⟨ret_bool HF.out.symm, HB2.out⟩
        · go_wp2_with fail
          go_roundw
          case rel => exact ⟨j + 1, by go_num, by omega, Lib.hid (fun x hx hxj => by
            by_cases e : x = j
            · subst e; exact HCC.out.symm
            · exact HE.out x hx (by omega)), HB2, P2⟩
          case measure => simp [intOf]; omega
      · have HML : Hid (mayL t.items = true) := Lib.hid (mayL_all fun x hx => HE.out x hx (by omega))
        have HR2 : Hid (R = fitsP t.kind t.num t.text t.items.length t.names) := Lib.hid (by rw [HR.out, HML.out, Bool.and_true])
        clear HR HE HML P0 HB0
        go_wp2_with fail
        clear k3 hl hlt hj
        go_loopw [4] (fun i wr => ∃ m : Nat, i = .int .i64 m ∧ m ≤ t.names.length ∧ Hid (∀ x (_ : x < t.names.length), x < m → nameB (t.names[x]).data.toList = true) ∧ Hid (Below w.heap.size w wr) ∧ Hid (Vr wr S w.heap.size t A c A' c')) (fun i _ => t.names.length - (intOf i).toNat)
        case atStart => exact ⟨0, rfl, Nat.zero_le _, Lib.hid (fun _ _ h => absurd h (Nat.not_lt_zero _)), HB, P⟩
        case round =>
          rename_i wr0 _ _ wr
          clear P HB
          obtain ⟨m, rfl, hm, HE, HB, P⟩ := hrel
          have k4 := P.out.x.c4
          have hl2 := LENS.out.2
          by_cases hlt : m < t.names.length
          · obtain ⟨p, o, rfl, hp, t1, hsz⟩ := text_at hS A6.out HB.out m hlt
            obtain ⟨s, hs⟩ : ∃ s, s = t.names[m] := ⟨_, rfl⟩
            rw [← hs] at t1 hsz
            have HS := Lib.hid hs
            have HSZ := Lib.hid hsz
            clear hp hs hsz
            go_wp2_with fail
            refine (rname_any s _ (by have := HSZ.out; omega)).mono ?_
            rintro e u ⟨rfl, rfl⟩
            clear k4 t1
            cases hC : nameB s.data.toList
            · have HF : Hid (R = false) := Lib.hid (by
                rw [HR2.out]
                refine Bool.eq_false_iff.2 fun h => ?_
                have h1 := fits_names h _ (List.getElem_mem hlt)
                rw [← HS.out, hC] at h1; cases h1)
              clear hC
              go_wp2_with fail
              go_ret
              exact ⟨ret_bool HF.out.symm, HB.out⟩
            · have HC := Lib.hid hC
              clear hC
              go_wp2_with fail
              go_roundw
              case rel => exact ⟨m + 1, by go_num, by omega, Lib.hid (fun x hx hxj => by
                by_cases e : x = m
                · subst e; rw [← HS.out]; exact HC.out
                · exact HE.out x hx (by omega)), HB, P⟩
              case measure => simp [intOf]; omega
          · have HD2 : Hid (distinctN t.names = true ↔ t.names.Nodup) := Lib.hid (distinct_nodup fun x hx => HE.out x hx (by omega))
            have TW := Lib.hid (twice_any S A' c' t.names wr.drew (P.out.drew.s) ((A6.out.below hS HB.out).keep (fun _ _ => rfl)) LENS.out.2)
            clear HE hm
            go_wp2_with fail
            try simp only [List.append_eq, List.cons_append, List.nil_append]
            refine wp_region_lex (by kernel_rfl) (by kernel_rfl) (fun _ d _ _ _ h => by cases d <;> exact h) ?_
            have q3 := cell_later (B := wr.heap.size) (w := wr.drew) P.out.x.c3 P.out.x.lt
            have q4 := cell_later (B := wr.heap.size) (w := wr.drew) P.out.x.c4 P.out.x.lt
            first | refine mix_pure ?_ | refine mix_pureB ?_
            simp only [List.takeWhile, List.dropWhile, isPure, Nat.reduceBNe]
            repeat (go_big_quiet_step (fail))
            refine wpQuiet_nil ?_
            unfold wpMix
            clear q3 q4 k4 hlt
            have HBF := Lib.hid HB.out.drew
            have P3 := Lib.hid P.out.drew
            have hl := LENS.out.1
            clear P HB
            generalize wr.drew = wq at *
            have k0 := P3.out.x.c0
            have k1 := P3.out.x.c1
            have k2 := P3.out.x.c2
            have k4 := P3.out.x.c4
            clear P3
            generalize t.kind = kd at *
            generalize t.num = i at *
            generalize t.text = s at *
            generalize t.items.length = nl at *
            by_cases h1 : kd = 1
            · subst h1
              have HF : Hid (R = (decide (i = 0) && decide (s.toList = []) && (nl == 0 && t.names.length == 0))) := Lib.hid (by rw [HR2.out]; unfold fitsP; simp)
              clear HR2
              clear TW HD2
              go_wp2_with fail
              all_goals
                go_ret
                exact ⟨ret_b (by rw [HF.out]; simp_all [nat_beq0, nat_beq] <;> (intros; omega)), HBF.out⟩
            by_cases h2 : kd = 2
            · subst h2
              have HF : Hid (R = ((decide (i = 0) || decide (i = 1)) && decide (s.toList = []) && (nl == 0 && t.names.length == 0))) := Lib.hid (by rw [HR2.out]; unfold fitsP; simp)
              clear HR2 h1
              clear TW HD2
              go_wp2_with fail
              all_goals
                go_ret
                exact ⟨ret_b (by rw [HF.out]; simp_all [nat_beq0, nat_beq] <;> (intros; omega)), HBF.out⟩
            by_cases h3 : kd = 3
            · subst h3
              have HF : Hid (R = (decide (s.toList = []) && (nl == 0 && t.names.length == 0))) := Lib.hid (by rw [HR2.out]; unfold fitsP; simp)
              clear HR2 h1 h2
              clear TW HD2
              go_wp2_with fail
              all_goals
                go_ret
                exact ⟨ret_b (by rw [HF.out]; simp_all [nat_beq0, nat_beq] <;> (intros; omega)), HBF.out⟩
            by_cases h4 : kd = 4
            · subst h4
              have HF : Hid (R = (decide (i = 0) && (nl == 0 && t.names.length == 0))) := Lib.hid (by rw [HR2.out]; unfold fitsP; simp)
              clear HR2 h1 h2 h3
              clear TW HD2
              go_wp2_with fail
              all_goals
                go_ret
                exact ⟨ret_b (by rw [HF.out]; simp_all [nat_beq0, nat_beq] <;> (intros; omega)), HBF.out⟩
            by_cases h5 : kd = 5
            · subst h5
              have HF : Hid (R = (decide (i = 0) && (nl == 0 && t.names.length == 0))) := Lib.hid (by rw [HR2.out]; unfold fitsP; simp)
              clear HR2 h1 h2 h3 h4
              clear TW HD2
              go_wp2_with fail
              all_goals
                go_ret
                exact ⟨ret_b (by rw [HF.out]; simp_all [nat_beq0, nat_beq] <;> (intros; omega)), HBF.out⟩
            by_cases h6 : kd = 6
            · subst h6
              have HF : Hid (R = (decide (i = 0) && decide (s.toList = []) && t.names.length == 0)) := Lib.hid (by rw [HR2.out]; unfold fitsP; simp)
              clear HR2 h1 h2 h3 h4 h5
              clear TW HD2
              go_wp2_with fail
              all_goals
                go_ret
                exact ⟨ret_b (by rw [HF.out]; simp_all [nat_beq0, nat_beq] <;> (intros; omega)), HBF.out⟩
            by_cases h7 : kd = 7
            · subst h7
              have HF : Hid (R = (decide (i = 0) && decide (s.toList = []) && t.names.length == nl && distinctN t.names)) := Lib.hid (by rw [HR2.out]; unfold fitsP; simp)
              clear HR2 h1 h2 h3 h4 h5 h6
              by_cases hn : t.names.length = nl
              · have en : ((t.names.length : Int) == (nl : Int)) = true := beq_iff_eq.2 (by omega)
                have HF : Hid (R = (decide (i = 0) && decide (s.toList = []) && distinctN t.names)) := Lib.hid (by rw [HF.out]; simp [hn])
                clear hn
                go_wp2_with (go_at_call 43; refine TW.out.mono ?_; rintro e w' ⟨⟨r, rfl, hr⟩, hb⟩; have hdr := Lib.hid (twice_dist HD2.out hr); have hbf := Lib.hid (toStart HBF.out hb); clear hr hb)
                all_goals
                  go_ret
                  first
                    | exact ⟨ret_b (by rw [HF.out, hdr.out]; simp_all [nat_beq0, nat_beq]), hbf.out⟩
                    | exact ⟨ret_b (by rw [HF.out]; simp_all [nat_beq0, nat_beq]), HBF.out⟩
              · have en : ((t.names.length : Int) == (nl : Int)) = false := beq_eq_false_iff_ne.2 (by omega)
                have HF : Hid (R = false) := Lib.hid (by rw [HF.out]; simp [hn])
                clear hn TW HD2
                go_wp2_with fail
                all_goals
                  go_ret
                  exact ⟨ret_b HF.out.symm, HBF.out⟩
            have HF : Hid (R = false) := Lib.hid (by rw [HR2.out]; unfold fitsP; simp [h1, h2, h3, h4, h5, h6, h7])
            have b1 : (kd == 1) = false := beq_eq_false_iff_ne.2 h1
            have b2 : (kd == 2) = false := beq_eq_false_iff_ne.2 h2
            have b3 : (kd == 3) = false := beq_eq_false_iff_ne.2 h3
            have b4 : (kd == 4) = false := beq_eq_false_iff_ne.2 h4
            have b5 : (kd == 5) = false := beq_eq_false_iff_ne.2 h5
            have b6 : (kd == 6) = false := beq_eq_false_iff_ne.2 h6
            have b7 : (kd == 7) = false := beq_eq_false_iff_ne.2 h7
            clear HR2 TW HD2 h1 h2 h3 h4 h5 h6 h7
            go_wp2_with fail
            go_ret
            exact ⟨ret_bool HF.out.symm, HBF.out⟩
end Go.Proofs.Ytipiplnhbecjeaa
