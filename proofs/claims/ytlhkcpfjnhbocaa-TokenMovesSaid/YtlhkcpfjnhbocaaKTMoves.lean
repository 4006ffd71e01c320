/- A token that is at home stays so when more is behind the log's part, and is gone when what follows it is dropped. No conditions. -/
import Derived.Test.YtlhkcpfjnhbocaaKTkG
import Derived.Test.YtlhkcpfjnhbocaaKOpenN
import Derived.Test.YtlhkcpfjnhbocaaKTkH
import Derived.Test.YtlhkcpfjnhbocaaKOpenB
import Derived.SizedLaws
import Derived.ProofKit
import Derived.OpenShut
import Derived.ShutString
import Derived.ChangeOld
import Derived.Below
namespace Go.Proofs.Ytlhkcpfjnhbocaa.TMoves
set_option linter.unusedVariables false
set_option linter.unusedSimpArgs false
open Go.ChangeShapes Go.WideShapes Go.ChangeAt Go.RowKit Go.Joins OpenB
set_option linter.unusedVariables false

theorem own : ownKnob Try.prog.godebug = none := by kernel_rfl
theorem laidOut : laidOutB Try.prog = true := by kernel_rfl

theorem home_zero {k i t base : Int} {ts : List Int} (h : homeT k i t 1 base ts = 0) : mayTok k i t = true ∧ termT i 1 base ts = (t, true) := by
  unfold homeT at h
  rw [if_neg (by omega)] at h
  cases hm : mayTok k i t with
  | false => rw [if_pos hm] at h; omega
  | true =>
    rw [if_neg (by rw [hm]; decide)] at h
    split at h
    · omega
    · split at h
      · omega
      · next h2 =>
        refine ⟨rfl, ?_⟩
        have h3 : ¬ (termT i 1 base ts).2 = false := fun e => h2 (.inl e)
        have h4 : (termT i 1 base ts).1 = t := by
          by_cases e : (termT i 1 base ts).1 = t
          · exact e
          · exact absurd (.inr e) h2
        have h5 : (termT i 1 base ts).2 = true := by
          cases e : (termT i 1 base ts).2 with
          | true => rfl
          | false => exact absurd e h3
        exact Prod.ext h4 h5
theorem may_rng {k i t : Int} (h : mayTok k i t = true) : 0 ≤ i ∧ i ≤ 1099511627776 := by
  unfold mayTok at h
  have := of_decide_eq_true h
  omega
theorem home_more {k i t base : Int} {ts : List Int} (us : List Int) (h : homeT k i t 1 base ts = 0) : homeT k i t 1 base (ts ++ us) = 0 := by
  obtain ⟨h1, h2⟩ := home_zero h
  obtain ⟨h3, -⟩ := may_rng h1
  have h4 : termT i 1 base (ts ++ us) = (t, true) := by
    unfold termT at h2 ⊢
    split
    · next hi => rw [if_pos hi] at h2; exact h2
    · next hi =>
      rw [if_neg hi] at h2
      have hlt : (i - 1).toNat < ts.length := by
        rcases Nat.lt_or_ge (i - 1).toNat ts.length with h | h
        · exact h
        · rw [List.getElem?_eq_none h] at h2; simp at h2
      rw [List.getElem?_append_left hlt]
      exact h2
  unfold homeT
  rw [if_neg (by omega), if_neg (by rw [h1]; decide), if_neg (by omega), if_neg (by rw [h4]; simp)]
theorem home_gone {k i t first base : Int} {ts : List Int} (h1 : mayTok k i t = true) (hf : first = i + 2) : homeT k i t first base ts = 181 := by
  obtain ⟨h3, -⟩ := may_rng h1
  unfold homeT
  rw [if_neg (by omega), if_neg (by rw [h1]; decide), if_pos (by omega)]
theorem drop_terms {w : World} {B b off : Nat} {ts : List Int} (n : Nat) (hb : b < B) (h : ∀ i (h : i < ts.length), w.cell? ⟨b, off + i * 17, none⟩ = some (.int .i64 ts[i])) : TermsAt w B (some ⟨b, off + n * 17, none⟩) (ts.drop n) := fun hl => by
  refine ⟨b, off + n * 17, rfl, hb, fun i hi => ?_⟩
  rw [List.length_drop] at hi
  have := h (n + i) (by omega)
  rw [List.getElem_drop]
  rw [show off + n * 17 + i * 17 = off + (n + i) * 17 by omega]
  exact this
set_option maxHeartbeats 16000000 in
set_option maxRecDepth 100000 in
theorem walk (k i t base : Int) (A A' : Option Addr) (c c' : Nat) (ts us : List Int) (ds es : List (Array Value)) (w : World) (hts : EntsAt w w.heap.size A ts ds) (hus : EntsAt w w.heap.size A' us es) (hA : A = none → c = 0) (hA' : A' = none → c' = 0) (hlt : ts.length ≤ 567493904640) (hlu : us.length ≤ 567493904640) (hir : i ≤ 9223372036854775807) :
    Calls Try.prog 9 #[tokV k i t, .int .i64 base, .slice A ts.length c, .slice A' us.length c'] w fun e w' => e = .returned (.bool true) ∧ Below w.heap.size w w' := by
  have hb0 : Below w.heap.size w (w.alloc (.cells #[.int .i64 k, .int .i64 i, .int .i64 t] 37)) := (Below.refl _ _).alloc (Nat.le_refl _) _
  have HX0 := Lib.hid (KBox.new w k i t)
  have hz0 := hb0.size
  have HHM := Lib.hid (thome_any k i t 1 base w.heap.size c A ts (w.alloc (.cells #[.int .i64 k, .int .i64 i, .int .i64 t] 37)) ((hts.keep hb0).terms) hz0 (by omega) (by omega) hir)
  have HB0 := Lib.hid hb0
  have HTS := Lib.hid hts
  have HUS := Lib.hid hus
  have HA := Lib.hid (And.intro hA hA')
  clear hts hus hA hA' hb0 hz0
  unfold tokV at HHM ⊢
  obtain ⟨n, hn⟩ : ∃ n, n = ts.length := ⟨_, rfl⟩
  obtain ⟨m, hm⟩ : ∃ m, m = us.length := ⟨_, rfl⟩
  have HN := Lib.hid hn
  have HM := Lib.hid hm
  rw [← hn] at hlt HHM ⊢
  rw [← hm] at hlu ⊢
  clear hn hm
  by_cases h1 : (200 : Int) < (n : Int)
  · clear HHM
    go_enter Try.func9, Try.ntmps9
    go_wp2_with fail
    refine (lives18_any _).mono ?_
    rintro e v9 ⟨rfl, hb⟩
    have HF := Lib.hid (HB0.out.trans (hb.mono HB0.out.size))
    clear hb
    go_wp2_with fail
    go_ret
    exact ⟨rfl, HF.out⟩
  by_cases h2 : (200 : Int) < (m : Int)
  · clear HHM
    go_enter Try.func9, Try.ntmps9
    go_wp2_with fail
    refine (lives18_any _).mono ?_
    rintro e v9 ⟨rfl, hb⟩
    have HF := Lib.hid (HB0.out.trans (hb.mono HB0.out.size))
    clear hb
    go_wp2_with fail
    go_ret
    exact ⟨rfl, HF.out⟩
  obtain ⟨x, hx⟩ : ∃ x, x = homeT k i t 1 base ts := ⟨_, rfl⟩
  have HXX := Lib.hid hx
  rw [← hx] at HHM
  clear hx
  by_cases hx0 : x = 0
  rotate_left
  · have hne : (x != 0) = true := bne_iff_ne.2 hx0
    clear hx0
    go_enter Try.func9, Try.ntmps9
    go_wp2_with fail
    refine HHM.out.mono ?_
    rintro e w1 ⟨rfl, hb⟩
    have HB1 := Lib.hid (HB0.out.trans (hb.mono HB0.out.size))
    clear hb HHM HX0 HB0
    go_wp2_with fail
    refine (lives18_any _).mono ?_
    rintro e v9 ⟨rfl, hb⟩
    have HF := Lib.hid (HB1.out.trans (hb.mono HB1.out.size))
    clear hb
    go_wp2_with fail
    go_ret
    exact ⟨rfl, HF.out⟩
  subst hx0
  have hz : homeT k i t 1 base ts = 0 := HXX.out.symm
  have HMAY := Lib.hid (home_zero hz).1
  have HHM2 := Lib.hid (home_more us hz)
  obtain ⟨hi0, hi1⟩ := may_rng (home_zero hz).1
  obtain ⟨j, rfl⟩ : ∃ j : Nat, i = (j : Int) := ⟨i.toNat, by omega⟩
  clear hz HXX hi0
  go_enter Try.func9, Try.ntmps9
  go_wp2_with fail
  refine HHM.out.mono ?_
  rintro e w1 ⟨rfl, hb⟩
  have hb1 := HB0.out.trans (hb.mono HB0.out.size)
  have hx1 := HX0.out.keep hb HX0.out.lt
  have hq1 := hx1.lt
  have hz1 := hb1.size
  obtain ⟨X, hX⟩ : ∃ X : Obj, X = .cells #[] 53 := ⟨_, rfl⟩
  have hb2 := hb1.alloc hz1 X
  have HX2 := Lib.hid (hx1.alloc X)
  have ho2 : OwnE (w1.alloc X) w1.heap.size (.slice (some ⟨w1.heap.size, 0, none⟩) 0 0) [] := by rw [hX]; exact OwnE.nil w1
  have HT2 := Lib.hid (HTS.out.keep hb2)
  have HB2 := Lib.hid hb2
  have HO2 := Lib.hid ho2
  have hz2 : w1.heap.size ≤ (w1.alloc X).heap.size := by simp
  have HZ1 := Lib.hid hz1
  rw [hX] at HX2 HT2 HB2 HO2 hz2
  have HNM := Lib.hid (show ts.length + us.length ≤ 400 by have := HN.out; have := HM.out; omega)
  clear hb hb1 hx1 hz1 hX hb2 ho2 HHM HX0 HB0
  have ht2 := HT2.out
  have e0 : ([] : List Int).length + ts.length ≤ 1000 := by have := HNM.out; simp only [List.length_nil]; omega
  have hn2 := HN.out
  go_wp2_with (at_builtin; go_must (refine append_ents rfl _ _ rfl w1.heap.size _ [] rfl HO2.out w.heap.size A c ts ds (by rw [← HN.out]; rfl) ht2 HA.out.1 hz2 e0 ?_))
  intro v3 w3 ho3 hg3
  have hb3 := below_ownE (Below.refl w1.heap.size _) HO2.out hz2 hg3
  have hz3 := Nat.le_trans hz2 hb3.size
  have HX3 := Lib.hid (HX2.out.keep hb3 hq1)
  have HB3 := Lib.hid (HB2.out.trans (hb3.mono HZ1.out))
  have HO3 := Lib.hid ho3
  have ht3 := HUS.out.keep HB3.out
  have e1 : ts.length + us.length ≤ 1000 := by have := HNM.out; omega
  clear ht2 e0 hg3 hb3 ho3 HT2 HX2 HB2 HO2 hz2
  go_wp2_with (at_builtin; go_must (refine append_ents rfl _ _ rfl w1.heap.size _ ts rfl HO3.out w.heap.size A' c' us es (by rw [← HM.out]; rfl) ht3 HA.out.2 hz3 e1 ?_))
  intro v4 w4 ho4 hg4
  have hb4 := below_ownE (Below.refl w1.heap.size _) HO3.out hz3 hg4
  have hz4 := Nat.le_trans hz3 hb4.size
  have HX4 := Lib.hid (HX3.out.keep hb4 hq1)
  have HB4 := Lib.hid (HB3.out.trans (hb4.mono HZ1.out))
  obtain ⟨B, d, hv4, hd4, hT4⟩ := ho4.terms
  obtain ⟨all, hall⟩ : ∃ all, all = ts ++ us := ⟨_, rfl⟩
  have HL := Lib.hid (show all.length ≤ 400 by rw [hall, List.length_append]; exact HNM.out)
  have HHM2' : Hid (homeT k (j : Int) t 1 base all = 0) := Lib.hid (by rw [hall]; exact HHM2.out)
  rw [← hall] at hv4 hd4 hT4
  subst hv4
  have HT4 := Lib.hid hT4
  obtain ⟨N, hN⟩ : ∃ N, N = all.length := ⟨_, rfl⟩
  have HNN := Lib.hid hN
  rw [← hN] at hd4 ⊢
  have HD4 := Lib.hid hd4
  clear ht3 e1 hg4 hb4 ho4 hT4 hall HX3 HB3 HO3 hz3 hn2 hd4 HHM2 hN
  go_wp2_with fail
  refine (lives18_any _).mono ?_
  rintro e w5 ⟨rfl, hb⟩
  have HX5 := Lib.hid (HX4.out.keep hb HX4.out.lt)
  have HB5 := Lib.hid (HB4.out.trans (hb.mono HB4.out.size))
  have HT5 := Lib.hid ((HT4.out.keep hb).up hb.size)
  have hh := thome_any k (j : Int) t 1 base w5.heap.size d B all w5 HT5.out (Nat.le_refl _) (by have := HL.out; omega) (by omega) hir
  rw [HHM2'.out, ← HNN.out] at hh
  have HH := Lib.hid hh
  have c0 := HX5.out.g0
  have c1 := HX5.out.g1
  have c2 := HX5.out.g2
  clear hb hh HX4 HB4 HT4 hz4
  unfold tokV at HH
  go_wp2_with fail
  refine HH.out.mono ?_
  rintro e w6 ⟨rfl, hb⟩
  have HX6 := Lib.hid (HX5.out.keep hb HX5.out.lt)
  have HB6 := Lib.hid (HB5.out.trans (hb.mono HB5.out.size))
  have HT6 := Lib.hid ((HT5.out.keep hb).up hb.size)
  have d1 := HX6.out.g1
  have hN4 : N ≤ 400 := by have := HL.out; have := HNN.out; omega
  clear hb c0 c1 c2 HX5 HB5 HT5 HH
  by_cases hge : (N : Int) ≤ (j : Int) + 1
  · have hge2 : decide ((j : Int) + 1 ≥ (N : Int)) = true := decide_eq_true hge
    go_wp2_with fail
    go_ret
    exact ⟨rfl, HB6.out⟩
  · have hge2 : decide ((j : Int) + 1 ≥ (N : Int)) = false := decide_eq_false hge
    have hjn : j + 1 < N := by omega
    obtain ⟨b, off, rfl, hbb, hcell⟩ := HT6.out (by have := HNN.out; omega)
    have HC := Lib.hid hcell
    have hc1 := hcell j (by have := HNN.out; omega)
    obtain ⟨x, hx⟩ : ∃ x, x = all[j]'(by have := HNN.out; omega) := ⟨_, rfl⟩
    rw [← hx] at hc1
    clear hx
    have hj2 : (j : Int) + 1 - 1 = (j : Int) := by omega
    have hdN : N ≤ d := HD4.out
    go_wp2_with fail
    refine wp_region_mix [0, 1, 2, 3, 4, 5, 6, 7, 8, 9, 10, 11, 12, 13, 14] (by kernel_rfl) (by kernel_rfl) (fun _ d _ _ _ h => by cases d <;> exact h) ?_
    simp only [atNats, List.filterMap_cons, List.filterMap_nil, List.getElem?_toArray, List.getElem?_cons_succ, List.getElem?_cons_zero]
    have HXD : Hid (KBox w6.drew w.heap.size k (j : Int) t) := Lib.hid HX6.out
    have HBD : Hid (Below w.heap.size w w6.drew) := Lib.hid HB6.out.drew
    have HTD : Hid (∀ i (h : i < all.length), w6.drew.cell? ⟨b, off + i * 17, none⟩ = some (.int .i64 all[i])) := Lib.hid hcell
    have z0 := cell_later (B := w6.heap.size) (w := w6.drew) HXD.out.g0 HXD.out.lt
    have z1 := cell_later (B := w6.heap.size) (w := w6.drew) HXD.out.g1 HXD.out.lt
    have z2 := cell_later (B := w6.heap.size) (w := w6.drew) HXD.out.g2 HXD.out.lt
    have zc := cell_later (B := w6.heap.size) (w := w6.drew) hc1 hbb
    first | refine mix_pure ?_ | refine mix_pureB ?_
    simp only [List.takeWhile, List.dropWhile, isPure, Nat.reduceBNe]
    repeat (go_big_quiet_step (fail))
    refine wpQuiet_nil ?_
    clear z0 z1 z2 zc
    have hdt := drop_terms (w := w6.drew) (B := w6.drew.heap.size) (j + 1) hbb HTD.out
    have hh := thome_any k (j : Int) t ((j : Int) + 1 + 1) x w6.drew.heap.size (d - (j + 1)) _ (all.drop (j + 1)) w6.drew hdt (Nat.le_refl _) (by rw [List.length_drop]; have := HL.out; omega) (by omega) hir
    rw [home_gone HMAY.out (by omega), List.length_drop, ← HNN.out] at hh
    have HH := Lib.hid hh
    unfold tokV at HH
    clear hdt hh
    first | refine mix_call rfl (fun K hK => ?_) | refine mix_callB rfl (fun K hK => ?_)
    go_simp
    refine (HH.out).mono ?_
    rintro e w7 ⟨rfl, hb⟩
    refine hK _ _ hb ?_
    clear hK K
    try simp only [Act.put]
    have HB7 := Lib.hid (HBD.out.trans (hb.mono HBD.out.size))
    clear hb
    first | refine mix_pure ?_ | refine mix_pureB ?_
    simp only [List.takeWhile, List.dropWhile, isPure, Nat.reduceBNe]
    repeat (go_big_quiet_step (fail))
    refine wpQuiet_nil ?_
    unfold wpMix
    go_wp2_with fail
    go_ret
    exact ⟨rfl, HB7.out⟩
set_option maxRecDepth 100000 in
theorem lifted (os : Os) (started : os.Started) (H : Type) (enc : TypeId × Value → H) :
    ReturnsInHanded {} Try.checked os 9 .any (Rows.tokenMovesSpec.pre6 enc Try.prog Try.f9 Rows.tokenMovesRow.domain false) (Rows.tokenMovesSpec.post enc Try.prog Try.f9 false true false false) := by
  refine returnsInHanded_of_change_sized (C := Try.checked) own started (by kernel_rfl) Try.func9
    (ChangeSpec.witness6 (enc := enc) (C := Try.checked) false ⟨#[], #[.agg #[.int .i64 0, .int .i64 0, .int .i64 0], .int .i64 0, .slice none 0 0, .slice none 0 0], []⟩ 8 (by kernel_rfl) (by kernel_rfl) (by kernel_rfl) (by kernel_rfl)) ?_
  intro W base args ds gs before hval0 hW hcnd hsz0 _
  have hval : ∀ (j : Nat) t v, Try.f9.params[j]? = some t → args[j]? = some v → Value.okWide Try.prog W .any base t v := hval0
  have hsz : (DataW.weightsEach Try.prog (Try.f9.params.toList ++ Rows.tokenMovesSpec.plain.varTypes Try.prog) (ds ++ gs)).all (· ≤ reachBytes) = true := hsz0
  have hW' := hW
  obtain ⟨p, q, hA0, hV, rfl, hfz, hnd⟩ := hW
  have hA : DataW.TrodAll enc Try.prog W 0 (fun _ => true) true Try.f9.params.toList args.toList ds p := hA0
  rw [Try.params9] at hA hval hsz
  obtain ⟨v0, vs0, d0, ds0, p0, q0, hargs, rfl, rfl, h0, r0⟩ := trodAll_cons hA
  obtain ⟨v1, vs1, d1, ds1, p1, q1, rfl, rfl, rfl, h1, r1⟩ := trodAll_cons r0
  obtain ⟨v2, vs2, d2, ds2, p2, q2, rfl, rfl, rfl, h2, r2⟩ := trodAll_cons r1
  obtain ⟨v3, vs3, d3, ds3, p3, q3, rfl, rfl, rfl, h3, r3⟩ := trodAll_cons r2
  obtain ⟨rfl, rfl, rfl⟩ := trodAll_nil r3
  obtain rfl : args = #[v0, v1, v2, v3] := by cases args; simp_all
  obtain ⟨rfl, rfl⟩ := trodVars_none hV
  obtain ⟨a0, rfl, -⟩ := okWide_struct Try.underlying37 (hval 0 37 v0 rfl rfl)
  have k0 := h0
  have lt0 : ∀ x ∈ p0, x.block < W.heap.size := by obtain ⟨m, hm⟩ := k0; exact DataW.trod_lt m _ _ _ hm
  have wt0 : ∀ n ∈ d0.weights Try.prog 37, n ≤ reachBytes := fun n hn => by have := List.all_eq_true.1 hsz n (DataW.weights_mem_each (j := 0) rfl rfl n hn); simpa using this
  obtain ⟨a1, rfl, rfl, rfl, wa1⟩ := open_int Try.underlying3 (hval 1 3 v1 rfl rfl) h1
  obtain ⟨A2, n2, c2, rfl⟩ := okWide_slice Try.underlying45 (hval 2 45 v2 rfl rfl)
  have k2 := h2
  have lt2 : ∀ x ∈ p2, x.block < W.heap.size := by obtain ⟨m, hm⟩ := k2; exact DataW.trod_lt m _ _ _ hm
  have wt2 : ∀ n ∈ d2.weights Try.prog 45, n ≤ reachBytes := fun n hn => by have := List.all_eq_true.1 hsz n (DataW.weights_mem_each (j := 2) rfl rfl n hn); simpa using this
  obtain ⟨A3, n3, c3, rfl⟩ := okWide_slice Try.underlying45 (hval 3 45 v3 rfl rfl)
  have k3 := h3
  have lt3 : ∀ x ∈ p3, x.block < W.heap.size := by obtain ⟨m, hm⟩ := k3; exact DataW.trod_lt m _ _ _ hm
  have wt3 : ∀ n ∈ d3.weights Try.prog 45, n ≤ reachBytes := fun n hn => by have := List.all_eq_true.1 hsz n (DataW.weights_mem_each (j := 3) rfl rfl n hn); simpa using this
  clear hA0 hval0
  obtain ⟨tk0, ti0, tt0, ha0, hk0, hi0, ht0⟩ : ∃ k i t : Int, a0 = #[.int .i64 k, .int .i64 i, .int .i64 t] ∧ (-9223372036854775808 ≤ k ∧ k ≤ 9223372036854775807) ∧ (-9223372036854775808 ≤ i ∧ i ≤ 9223372036854775807) ∧ (-9223372036854775808 ≤ t ∧ t ≤ 9223372036854775807) := by
    obtain ⟨m, hm⟩ := k0
    obtain ⟨k, i, t, e, r⟩ := open_tok hm
    refine ⟨k, i, t, ?_, r⟩
    have e2 : a0.toList = [.int .i64 k, .int .i64 i, .int .i64 t] := by simpa [Value.cells] using e
    rw [← Array.toArray_toList (xs := a0), e2]
  subst ha0
  have ha1 := in64_of_wf wa1
  obtain ⟨ts2, ds2, hn2, hc2, hl2, hes2⟩ : ∃ ts : List Int, ∃ ds : List (Array Value), n2 = ts.length ∧ (A2 = none → c2 = 0) ∧ ts.length ≤ 567493904640 ∧ EntsAt W W.heap.size A2 ts ds := by
    obtain ⟨m, hm⟩ := k2
    obtain ⟨B, e, ts, ds, he, gc, g0, g1⟩ := open_ents hm wt2
    have he' : [Value.slice A2 n2 c2] = [Value.slice B ts.length e] := he
    simp only [List.cons.injEq, Value.slice.injEq, and_true] at he'
    obtain ⟨rfl, rfl, rfl⟩ := he'
    exact ⟨ts, ds, rfl, gc, g0, g1⟩
  subst hn2
  obtain ⟨ts3, ds3, hn3, hc3, hl3, hes3⟩ : ∃ ts : List Int, ∃ ds : List (Array Value), n3 = ts.length ∧ (A3 = none → c3 = 0) ∧ ts.length ≤ 567493904640 ∧ EntsAt W W.heap.size A3 ts ds := by
    obtain ⟨m, hm⟩ := k3
    obtain ⟨B, e, ts, ds, he, gc, g0, g1⟩ := open_ents hm wt3
    have he' : [Value.slice A3 n3 c3] = [Value.slice B ts.length e] := he
    simp only [List.cons.injEq, Value.slice.injEq, and_true] at he'
    obtain ⟨rfl, rfl, rfl⟩ := he'
    exact ⟨ts, ds, rfl, gc, g0, g1⟩
  subst hn3
  refine (walk tk0 ti0 tt0 a1 A2 A3 c2 c3 ts2 ts3 ds2 ds3 W hes2 hes3 hc2 hc3 hl2 hl3 hi0.2).mono fun e W' ⟨he, bel⟩ => ?_
  subst he
  exact ⟨_, rfl, _, _, _, [], _, [], hW', trodAll_mk1 (shut_bool Try.underlying4 _), (trodAll_cons_mk (Below.trod laidOut (by kernel_rfl) (of_decide_eq_true (by kernel_rfl)) k0 bel lt0) (trodAll_cons_mk (shut_int Try.underlying3 wa1) (trodAll_cons_mk (Below.trod laidOut (by kernel_rfl) (of_decide_eq_true (by kernel_rfl)) k2 bel lt2) (trodAll_cons_mk (Below.trod laidOut (by kernel_rfl) (of_decide_eq_true (by kernel_rfl)) k3 bel lt3) trodAll_mk0)))), rfl, bel.frame _, fun h => by cases h⟩

/-- The statement. -/
theorem proved : Rows.TokenMovesSaid :=
  OpenClaim.holds_of_wide 9 Try.f9 rfl rfl rfl rfl rfl rfl rfl ⟨rfl, rfl, rfl, rfl, rfl⟩ rfl rfl rfl rfl rfl (by kernel_rfl) Try.func9 (by kernel_rfl)
    (of_decide_eq_true (by kernel_rfl)) (by unfold Func.isWrapper; first | (rw [if_pos (by decide +kernel)]; kernel_rfl) | (rw [if_neg (by decide +kernel)]; exact ⟨rfl, rfl⟩))
    (fun os started H enc _ => lifted os started H enc)

end Go.Proofs.Ytlhkcpfjnhbocaa.TMoves
