/- Documents that are noted, one behind the other; forks, codes and what is read of them between: what is got is what the document says. No conditions. -/
import Derived.Test.YtdggeokpnaopiaaKRiI
import Derived.Test.YtdggeokpnaopiaaKOpenI
import Derived.SizedLaws
import Derived.ProofKit
import Derived.OpenShut
import Derived.ShutString
import Derived.ChangeOld
import Derived.Below
namespace Go.Proofs.Ytdggeokpnaopiaa.IDoes
set_option linter.unusedVariables false
set_option linter.unusedSimpArgs false
open Go.ChangeShapes Go.WideShapes Go.ChangeAt Go.RowKit Go.Joins
set_option linter.unusedVariables false

theorem own : ownKnob Try.prog.godebug = none := by kernel_rfl
theorem laidOut : laidOutB Try.prog = true := by kernel_rfl

set_option maxHeartbeats 32000000 in
set_option maxRecDepth 100000 in
theorem walk (keep base : Int) (A : Option Addr) (os : List OpI) (c : Nat) (i : Int) (w : World) (hol : os.length ≤ 1466015503658) (hos : OpsI w (fun b => b < w.heap.size) A os) (hi : -9223372036854775808 ≤ i ∧ i ≤ 9223372036854775807) :
    Calls Try.prog 3 #[.int .i64 keep, .int .i64 base, .slice A os.length c, .int .i64 i] w fun e w' => e = .returned (.bool true) ∧ Below w.heap.size w w' := by
  have HOS := Lib.hid hos
  clear hos
  go_enter Try.func3, Try.ntmps3
  by_cases hm : mayI keep base = true
  · have HM := Lib.hid hm
    clear hm
    go_wp2_with fail
    refine (inew_any keep base w HM.out).mono ?_
    rintro e w1 h1
    have HNW := Lib.hid h1
    obtain ⟨rfl, -⟩ := h1
    go_wp2_with fail
    refine (lives16_any w1).mono ?_
    rintro e w2 ⟨rfl, hb2⟩
    have HB2 := Lib.hid hb2
    clear hb2
    go_wp2_with fail
    refine (rmay16_any keep base w2).mono ?_
    rintro e w3 ⟨rfl, rfl⟩
    rw [HM.out]
    have HT0 := Lib.hid (Two.start HM.out HNW.out HB2.out)
    have HL0 : Hid ((⟨keep, base, []⟩ : RefI).l.length ≤ 0 ∧ (⟨keep, base, []⟩ : RefI).top ≤ 1099511627776) := Lib.hid ⟨Nat.le_refl _, by
      have h := HM.out
      unfold mayI at h
      simp only [Bool.and_eq_true, decide_eq_true_eq] at h
      show base + ((0 : Nat) : Int) ≤ _
      omega⟩
    clear HNW HB2
    obtain ⟨X, hX⟩ : ∃ X, X = w3.heap.size := ⟨_, rfl⟩
    obtain ⟨G, hG⟩ : ∃ G, G = w.heap.size := ⟨_, rfl⟩
    rw [← hX] at HT0
    have HT0' : Hid (Two w (w3.alloc (.cells #[.int .i64 keep, .int .i64 base, .slice none 0 0] 32)) G X (newI keep base) ⟨keep, base, []⟩) := Lib.hid (by rw [hG]; exact HT0.out)
    have HXE := Lib.hid hX
    have HGE := Lib.hid hG
    rw [← hG]
    clear hG hX HT0
    go_wp2_with fail
    rw [← HXE.out]
    go_loopw [8, 9, 12, 13, 14, 15] (fun _ v9 kk _ _ _ wr => ∃ (k g : Nat) (m : ImT) (r : RefI), kk = .int .i64 k ∧ k ≤ os.length ∧ k ≤ 150 ∧ v9 = .pointer (some ⟨g, 0, none⟩) ∧ Hid (Two w wr g X m r) ∧ Hid (r.l.length ≤ k ∧ r.top ≤ 1099511627776)) (fun _ _ kk _ _ _ _ => os.length - (intOf kk).toNat)
    case atStart => exact ⟨0, G, _, _, rfl, by omega, by omega, rfl, HT0', HL0⟩
    case round =>
      clear HT0' HL0
      obtain ⟨k, g, m, r, rfl, hk, hk150, rfl, HT, HL⟩ := hrel
      by_cases hlt : k < os.length
      · by_cases hlt2 : k < 150
        · obtain ⟨b, off, hA, hbS, hc⟩ := HOS.out (by omega)
          obtain ⟨cs, hcs, hop⟩ := hc k hlt
          obtain ⟨a1, a2, a3, a4, a5, hcse, hv, -⟩ := hop
          obtain ⟨⟨kd, t, bb⟩, ho⟩ : ∃ o, o = os[k] := ⟨_, rfl⟩
          rw [← ho] at hcse hv
          have hcse : cs = #[.int .i64 kd, a1, a2, a3, a4, a5, .bool bb] := hcse
          have hv : LV w (fun b => b < w.heap.size) t (.agg #[a1, a2, a3, a4, a5]) := hv
          obtain ⟨A1, c1, A1', c1', hsh, -⟩ := hv.shape
          simp only [Value.agg.injEq, Array.mk.injEq, List.cons.injEq, and_true] at hsh
          obtain ⟨rfl, rfl, rfl, rfl, rfl⟩ := hsh
          have hat : ∀ j v, #[Value.int .i64 kd, .int .i64 t.kind, .int .i64 t.num, .string t.text, .slice A1 t.items.length c1, .slice A1' t.names.length c1', .bool bb][j]? = some v → wr.cell? ⟨b, off + k * 7 + j, none⟩ = some v := fun j v hj => (World.cell?_of_block (a := ⟨b, off + k * 7 + j, none⟩) (HT.out.below.block b hbS)).trans (hcs j v (by rw [hcse]; exact hj))
          have e0 : wr.cell? ⟨b, off + k * 7, none⟩ = _ := hat 0 _ rfl
          have e1 := hat 1 _ rfl
          have e2 := hat 2 _ rfl
          have e3 := hat 3 _ rfl
          have e4 := hat 4 _ rfl
          have e5 := hat 5 _ rfl
          have e6 := hat 6 _ rfl
          obtain ⟨q, hqe⟩ : ∃ q, q = wr.heap.size := ⟨_, rfl⟩
          have HQE := Lib.hid hqe
          have hq5 : (wr.alloc (.cells #[.int .i64 kd, .int .i64 t.kind, .int .i64 t.num, .string t.text, .slice A1 t.items.length c1, .slice A1' t.names.length c1', .bool bb] 38)).heap[q]? = some (.cells #[.int .i64 kd, .int .i64 t.kind, .int .i64 t.num, .string t.text, .slice A1 t.items.length c1, .slice A1' t.names.length c1', .bool bb] 38) := by rw [hqe]; exact heap_alloc_new wr _
          have HQ5 := Lib.hid hq5
          have HT5 : Hid (Two w (wr.alloc (.cells #[.int .i64 kd, .int .i64 t.kind, .int .i64 t.num, .string t.text, .slice A1 t.items.length c1, .slice A1' t.names.length c1', .bool bb] 38)) g X m r) := Lib.hid (HT.out.stay (below_box _))
          have x0 := Go.Joins.cell_of_block hq5 0
          have x1 := Go.Joins.cell_of_block hq5 1
          have x2 := Go.Joins.cell_of_block hq5 2
          have x3 := Go.Joins.cell_of_block hq5 3
          have x4 := Go.Joins.cell_of_block hq5 4
          have x5 := Go.Joins.cell_of_block hq5 5
          have x6 := Go.Joins.cell_of_block hq5 6
          subst hA
          clear hat hcs hcse hc ho hbS hq5 HT hqe
          by_cases hkd1 : kd = 1
          · subst hkd1
            have HLV : Hid (LV w (fun b => b < w.heap.size) t _) := Lib.hid hv
            clear hv
            go_wp2_with fail
            first | rw [← HQE.out] | skip
            have hlv5 : LV (wr.alloc (.cells #[.int .i64 1, .int .i64 t.kind, .int .i64 t.num, .string t.text, .slice A1 t.items.length c1, .slice A1' t.names.length c1', .bool bb] 38)) (fun b => b < w.heap.size) t _ := HLV.out.keep fun b hb => HT5.out.below.block b hb
            refine (large_any (fun b => b < w.heap.size) t _ _ HT5.out.inlt hlv5).mono ?_
            rintro e w6 ⟨rfl, hb6⟩
            have HT6 := Lib.hid (HT5.out.stay hb6)
            have hq6 := (hb6.block q (by rw [HQE.out]; simp)).trans HQ5.out
            have HQ6 := Lib.hid hq6
            clear hlv5 hb6 HT5 HQ5 x0 x1 x2 x3 x4 x5 x6 hq6
            cases hl : largeT t with
            | true =>
              go_wp2_with fail
              go_roundw
              case rel => exact ⟨k + 1, _, _, _, by go_num, by omega, by omega, rfl, HT6, Lib.hid ⟨by have := HL.out.1; omega, HL.out.2⟩⟩
              case measure => simp [intOf]; omega
            | false =>
              have HLG := Lib.hid hl
              clear hl
              obtain ⟨RT, hRT⟩ : ∃ n, n = r.top := ⟨_, rfl⟩
              have HRT := Lib.hid hRT
              have hrt := rtop16_any HT6.out.rat HT6.out.rfine
              rw [← hRT] at hrt
              have HTO := Lib.hid hrt
              clear hRT hrt
              go_wp2_with fail
              refine HTO.out.mono ?_
              rintro e w7 ⟨rfl, hb7⟩
              have HT7 := Lib.hid (HT6.out.stay hb7)
              have HQ7 := Lib.hid ((hb7.block q (Array.getElem?_eq_some_iff.1 HQ6.out).1).trans HQ6.out)
              clear hb7 HT6 HQ6 HTO
              by_cases hbig : 1099511627776 ≤ RT
              · go_wp2_with fail
                go_roundw
                case rel => exact ⟨k + 1, _, _, _, by go_num, by omega, by omega, rfl, HT7, Lib.hid ⟨by have := HL.out.1; omega, HL.out.2⟩⟩
                case measure => simp [intOf]; omega
              · have hsm : RT < 1099511627776 := by omega
                have HSM := Lib.hid hsm
                have p1 := cell_kq (w := w7.drew) (q := q) (Go.Joins.cell_of_block HQ7.out 1)
                have p2 := cell_kq (w := w7.drew) (q := q) (Go.Joins.cell_of_block HQ7.out 2)
                have p3 := cell_kq (w := w7.drew) (q := q) (Go.Joins.cell_of_block HQ7.out 3)
                have p4 := cell_kq (w := w7.drew) (q := q) (Go.Joins.cell_of_block HQ7.out 4)
                have p5 := cell_kq (w := w7.drew) (q := q) (Go.Joins.cell_of_block HQ7.out 5)
                have p6 := cell_kq (w := w7.drew) (q := q) (Go.Joins.cell_of_block HQ7.out 6)
                have HT8 : Hid (Two w w7.drew g X m r) := Lib.hid (HT7.out.stay (Below.refl _ _).drew)
                have HV8 : Hid (LV w7.drew (fun b => b < w.heap.size) t _) := Lib.hid (HLV.out.keep fun b hb => HT8.out.below.block b hb)
                have HQ8 : Hid (w7.drew.heap[q]? = _) := Lib.hid HQ7.out
                clear HT7 HQ7
                have hdk := dep_ok HLG.out
                have hd1000 : depthT t ≤ 1000 := Nat.le_trans (depth_small HLG.out) (by decide)
                have HD := Lib.hid (And.intro hdk hd1000)
                clear hdk hd1000 hsm
                by_cases href : bb = true ∧ checkT t ≠ 0
                · obtain ⟨rfl, hck⟩ := href
                  have HN := Lib.hid (inote_refused (w := w7.drew) (g := g) HT8.out.inlt HV8.out HD.out.1 hck)
                  have HCK := Lib.hid hck
                  clear hck
                  go_wp2_with fail
                  refine wp_region_OT (KeepQ q) (fun _ => rfl) (fun _ _ _ h k => Eq.trans k h) [] (.pure [0, 1, 2, 3, 4, 6, 7, 8, 9, 10] (.step 5 (.step 11 (.free [12] (.tail []))))) (by kernel_rfl) (by kernel_rfl) (fun _ d _ _ _ h => by cases d <;> exact h) ?_
                  refine ot_pure ?_
                  simp only [atNats, List.filterMap_cons, List.filterMap_nil, List.getElem?_toArray, List.getElem?_cons_succ, List.getElem?_cons_zero]
                  show wpQuiet _ _ _ _ [_, _, _, _, _, _, _, _, _, _] _
                  repeat (go_big_quiet_step (fail))
                  refine wpQuiet_nil ?_
                  clear p1 p2 p3 p4 p5 p6
                  refine ot_step rfl (fun K hK => ?_)
                  go_simp
                  refine HN.out.mono ?_
                  rintro e w9 ⟨rfl, hb9⟩
                  go_simp
                  refine hK _ _ (.inr (hb9.block q (Array.getElem?_eq_some_iff.1 HQ8.out).1)) ?_
                  clear hK K
                  have HT9 := Lib.hid (HT8.out.stay hb9)
                  have HQ9 := Lib.hid ((hb9.block q (Array.getElem?_eq_some_iff.1 HQ8.out).1).trans HQ8.out)
                  have HM := Lib.hid (rnote_refused (w := w9) (x := X) HT9.out.inlt (HV8.out.below HT8.out.inlt hb9) HD.out.2 HCK.out)
                  clear hb9 HN HT8 HQ8
                  refine ot_step rfl (fun K hK => ?_)
                  go_simp
                  refine HM.out.mono ?_
                  rintro e w10 ⟨rfl, hb10⟩
                  go_simp
                  refine hK _ _ (.inr (hb10.block q (Array.getElem?_eq_some_iff.1 HQ9.out).1)) ?_
                  clear hK K
                  have HT10 := Lib.hid (HT9.out.stay hb10)
                  clear hb10 HM HT9 HQ9
                  refine ot_free ?_
                  simp only [atNats, List.filterMap_cons, List.filterMap_nil, List.getElem?_toArray, List.getElem?_cons_succ, List.getElem?_cons_zero]
                  show wpQuiet _ _ _ _ [_] _
                  repeat (go_big_quiet_step (fail))
                  refine wpQuiet_nil ?_
                  refine ot_end ?_
                  go_wp2_with fail
                  go_roundw
                  case rel => exact ⟨k + 1, _, _, _, by go_num, by omega, by omega, rfl, HT10, Lib.hid ⟨by have := HL.out.1; omega, HL.out.2⟩⟩
                  case measure => simp [intOf]; omega
                · have hc : bb = true → checkT t = 0 := fun h => Decidable.byContradiction fun h2 => href ⟨h, h2⟩
                  have hsg : ¬ (g < w.heap.size) := by have := HT8.out.new; omega
                  have hsx : ¬ (X < w.heap.size) := by have := HT8.out.xnew; omega
                  have HN := Lib.hid (inote_any bb HT8.out.at_ HT8.out.fine NearX.lt NearX.self HT8.out.inlt hsg HV8.out HD.out.1 hc)
                  have HC := Lib.hid hc
                  have HSX := Lib.hid hsx
                  have HSG := Lib.hid hsg
                  clear hc href hsg hsx
                  go_wp2_with fail
                  refine wp_region_OT (KeepQ q) (fun _ => rfl) (fun _ _ _ h k => Eq.trans k h) [] (.pure [0, 1, 2, 3, 4, 6, 7, 8, 9, 10] (.step 5 (.step 11 (.free [12] (.tail []))))) (by kernel_rfl) (by kernel_rfl) (fun _ d _ _ _ h => by cases d <;> exact h) ?_
                  refine ot_pure ?_
                  simp only [atNats, List.filterMap_cons, List.filterMap_nil, List.getElem?_toArray, List.getElem?_cons_succ, List.getElem?_cons_zero]
                  show wpQuiet _ _ _ _ [_, _, _, _, _, _, _, _, _, _] _
                  repeat (go_big_quiet_step (fail))
                  refine wpQuiet_nil ?_
                  clear p1 p2 p3 p4 p5 p6
                  refine ot_step rfl (fun K hK => ?_)
                  go_simp
                  refine HN.out.mono ?_
                  rintro e w9 ⟨rfl, hi9, ho9⟩
                  have hqg : q ≠ g := by
                    rintro rfl
                    obtain ⟨C, hC, -⟩ := HT8.out.at_
                    have h := HQ8.out
                    rw [hC] at h; injection h with h; injection h with _ h; exact absurd h (by decide)
                  have hq9 : w9.heap[q]? = w7.drew.heap[q]? := ho9.block q (Array.getElem?_eq_some_iff.1 HQ8.out).1 (by rintro ⟨⟩; exact hqg rfl)
                  go_simp
                  refine hK _ _ (.inr hq9) ?_
                  clear hK K
                  obtain ⟨C, hC, -⟩ := HT8.out.at_
                  have hr9 := HT8.out.rat.only ho9 hC (fun b hb => ⟨HT8.out.inlt b hb, fun e => HSG.out (by rw [← e]; exact hb)⟩)
                  have hv9 : LV w9 (fun b => b < w.heap.size) t _ := HV8.out.keep fun b hb => ho9.block b (HT8.out.inlt b hb) (by rintro ⟨⟩; exact HSG.out hb)
                  have hin9 : ∀ b, b < w.heap.size → b < w9.heap.size := fun b hb => Nat.lt_of_lt_of_le (HT8.out.inlt b hb) ho9.size
                  have HM := Lib.hid (rnote_any bb hr9 hin9 HSX.out hin9 HSX.out hv9 HD.out.2 HC.out (by have := HL.out.1; omega))
                  have HN9 : Hid (NoteR w7.drew (NearX w w7.drew g X) g (m.note (if bb = true then some t else none)) (.returned (.int .i64 0)) w9) := Lib.hid ⟨rfl, hi9, ho9⟩
                  have HQ9 := Lib.hid (hq9.trans HQ8.out)
                  have HXQ : Hid (q ≠ X) := Lib.hid (by
                    rintro rfl
                    obtain ⟨_, _, _, hX, -⟩ := HT8.out.rat
                    have h := HQ8.out
                    rw [hX] at h; injection h with h; injection h with _ h; exact absurd h (by decide))
                  clear hi9 ho9 hq9 hqg hC hr9 hv9 hin9 HN HQ8
                  refine ot_step rfl (fun K hK => ?_)
                  go_simp
                  refine HM.out.mono ?_
                  rintro e w10 hn10
                  obtain ⟨rfl, hr10, ho10⟩ := hn10
                  go_simp
                  refine hK _ _ (.inr (ho10.block q (Array.getElem?_eq_some_iff.1 HQ9.out).1 (by rintro ⟨⟩; exact HXQ.out rfl))) ?_
                  clear hK K
                  have HT10 := Lib.hid (HT8.out.noted HN9.out ⟨rfl, hr10, ho10⟩ (fun b hb => hb.elim id id) (by have h1 := HT8.out.agree.top; have h2 := HRT.out; have h3 := HSM.out; omega) (fun y hy => by
                    by_cases hb : bb = true
                    · rw [if_pos hb] at hy
                      injection hy with hy
                      subst hy
                      exact ⟨HC.out hb, size_small HLV.out HLG.out⟩
                    · rw [if_neg hb] at hy; cases hy) (by have := HL.out.1; omega))
                  clear hr10 ho10 HM HN9 HT8 HQ9
                  refine ot_free ?_
                  simp only [atNats, List.filterMap_cons, List.filterMap_nil, List.getElem?_toArray, List.getElem?_cons_succ, List.getElem?_cons_zero]
                  show wpQuiet _ _ _ _ [_] _
                  repeat (go_big_quiet_step (fail))
                  refine wpQuiet_nil ?_
                  refine ot_end ?_
                  go_wp2_with fail
                  go_roundw
                  case rel => exact ⟨k + 1, _, _, _, by go_num, by omega, by omega, rfl, HT10, Lib.hid ⟨by have := HL.out.1; show (r.l ++ [_]).length ≤ k + 1; simp; omega, by rw [rnote_top, ← HRT.out]; have := HSM.out; omega⟩⟩
                  case measure => simp [intOf]; omega
          by_cases hkd2 : kd = 2
          · subst hkd2
            clear hv
            go_wp2_with fail
            first | rw [← HQE.out] | skip
            refine (ifork_any HT5.out.at_ NearX.lt).mono ?_
            rintro e w6 hf6
            obtain ⟨rfl, hi6, hb6⟩ := hf6
            have hf6 : ForkR (wr.alloc (.cells #[.int .i64 2, .int .i64 t.kind, .int .i64 t.num, .string t.text, .slice A1 t.items.length c1, .slice A1' t.names.length c1', .bool bb] 38)) (NearX w (wr.alloc (.cells #[.int .i64 2, .int .i64 t.kind, .int .i64 t.num, .string t.text, .slice A1 t.items.length c1, .slice A1' t.names.length c1', .bool bb] 38)) g X) m (.returned (.pointer (some ⟨(wr.alloc (.cells #[.int .i64 2, .int .i64 t.kind, .int .i64 t.num, .string t.text, .slice A1 t.items.length c1, .slice A1' t.names.length c1', .bool bb] 38)).heap.size, 0, none⟩))) w6 := ⟨rfl, hi6, hb6⟩
            have ht6 := HT5.out.stay hb6
            have HF6 := Lib.hid hf6
            have HT6 := Lib.hid ht6
            have HN := Lib.hid (inote_any false (v := .agg #[.int .i64 0, .int .i64 0, .string eS, .slice none 0 0, .slice none 0 0]) ht6.at_ ht6.fine NearX.lt NearX.self (S' := fun _ => False) (fun _ h => h.elim) (fun h => h) (zero_lv w6 _) (by decide) (fun h => by cases h))
            clear hi6 hb6 hf6 ht6 x0 x1 x2 x3 x4 x5 x6
            go_wp2_with fail
            refine HN.out.mono ?_
            rintro e w7 hn7
            have hsz5 : (wr.alloc (.cells #[.int .i64 2, .int .i64 t.kind, .int .i64 t.num, .string t.text, .slice A1 t.items.length c1, .slice A1' t.names.length c1', .bool bb] 38)).heap.size = wr.heap.size + 1 := by simp
            have HT7 : Hid (Two w w7 (wr.heap.size + 1) X m r) := Lib.hid (by rw [← hsz5]; exact HT5.out.forked HF6.out hn7)
            clear hsz5
            obtain ⟨rfl, -⟩ := hn7
            clear HN HT6 HF6 HT5
            go_wp2_with fail
            go_roundw
            case rel => exact ⟨k + 1, _, _, _, by go_num, by omega, by omega, rfl, HT7, Lib.hid ⟨by have := HL.out.1; omega, HL.out.2⟩⟩
            case measure => simp [intOf]; omega
          by_cases hkd3 : kd = 3
          · subst hkd3
            clear hv
            have htop : m.top ≤ 1099511627776 := by have h1 := HT5.out.agree.top; have h2 := HL.out.2; omega
            obtain ⟨m', hrd, hag⟩ := HT5.out.code htop
            have HRD := Lib.hid hrd
            have HAG := Lib.hid hag
            clear hrd hag htop x0 x1 x2 x3 x4 x5 x6
            go_wp2_with fail
            first | rw [← HQE.out] | skip
            refine (icode_any HT5.out.at_ HT5.out.fine HT5.out.good NearX.lt).mono ?_
            rintro e w6 ⟨v6, rfl, hv6, hb6⟩
            have HT6 := Lib.hid (HT5.out.stay hb6)
            have hml : m.code.length ≤ 9223372036854775807 := by
              have h1 := cntI_small m 3
              have h2 := marks_small HT5.out.good (max m.base (m.top - m.keep) + 1).toNat m.cnt
              have h3 : m.cnt ≤ 64 := by unfold ImT.cnt; have := HT5.out.fine.k1; omega
              unfold ImT.code
              rw [List.length_append]
              omega
            have HML := Lib.hid hml
            have HC := Lib.hid (from_any v6 _ w6 hv6.conv)
            obtain ⟨A6, c6, hv6s⟩ := hv6.slice
            obtain ⟨n6, hn6⟩ : ∃ n, n = m.code.length := ⟨_, rfl⟩
            rw [← hn6] at hv6s
            subst hv6s
            clear hv6 hb6 hml hn6 HT5
            go_wp2_with fail
            refine HC.out.mono ?_
            rintro e w7 ⟨rfl, hs7, hb7⟩
            have HT7 := Lib.hid (HT6.out.stay hb7)
            have HSRC : Hid (SrcL w7 w6.heap.size (some m.code)) := Lib.hid ⟨hs7, HML.out⟩
            have HB7 := Lib.hid hb7
            clear hs7 hb7 HC
            go_wp2_with fail
            refine (iread_any _ _ _ HSRC.out).mono ?_
            rintro e w8 ⟨hs8, ho8, hm8⟩
            rw [HRD.out] at hs8 hm8
            obtain ⟨rfl, hf8, hg8, hi8⟩ := hm8
            have HT8 := Lib.hid (HT6.out.read HB7.out ho8 (Nat.le_refl _) hi8 hf8 hg8 HAG.out)
            have HS8 : Hid (SrcL w8 w6.heap.size (some [])) := Lib.hid hs8
            clear hs8 ho8 hf8 hg8 hi8 HSRC HT7 HT6 HB7
            go_wp2_with fail
            refine (sdone_any _ [] _ HS8.out).mono ?_
            rintro e w9 ⟨rfl, rfl⟩
            go_wp2_with fail
            go_roundw
            case rel => exact ⟨k + 1, _, _, _, by go_num, by omega, by omega, rfl, HT8, Lib.hid ⟨by have := HL.out.1; omega, HL.out.2⟩⟩
            case measure => simp [intOf]; omega
          · clear hv
            have hb1 : (kd == 1) = false := beq_false_of_ne hkd1
            have hb2 : (kd == 2) = false := beq_false_of_ne hkd2
            have hb3 : (kd == 3) = false := beq_false_of_ne hkd3
            clear x0 x1 x2 x3 x4 x5 x6
            go_wp2_with fail
            first | rw [← HQE.out] | skip
            go_roundw
            case rel => exact ⟨k + 1, _, _, _, by go_num, by omega, by omega, rfl, HT5, Lib.hid ⟨by have := HL.out.1; omega, HL.out.2⟩⟩
            case measure => simp [intOf]; omega
        · obtain rfl : k = 150 := by omega
          go_wp2_with fail
          refine (HT.out.looks i hi).mono ?_
          rintro e we ⟨rfl, hbe⟩
          have HBE := Lib.hid (HT.out.below.trans (hbe.mono HT.out.below.size))
          clear hbe
          go_wp2_with fail
          go_ret
          exact ⟨rfl, HBE.out⟩
      · obtain rfl : k = os.length := by omega
        go_wp2_with fail
        refine (HT.out.looks i hi).mono ?_
        rintro e we ⟨rfl, hbe⟩
        have HBE := Lib.hid (HT.out.below.trans (hbe.mono HT.out.below.size))
        clear hbe
        go_wp2_with fail
        go_ret
        exact ⟨rfl, HBE.out⟩
  · have HM : Hid (mayI keep base = false) := Lib.hid (by simpa using hm)
    clear hm
    go_wp2_with fail
    refine (inew_bad keep base w HM.out).mono ?_
    rintro e w1 ⟨rfl, hb1⟩
    have HB1 := Lib.hid hb1
    clear hb1
    go_wp2_with fail
    refine (lives16_any w1).mono ?_
    rintro e w2 ⟨rfl, hb2⟩
    have HB2 := Lib.hid (HB1.out.trans (hb2.mono HB1.out.size))
    clear hb2 HB1
    go_wp2_with fail
    refine (rmay16_any keep base w2).mono ?_
    rintro e w3 ⟨rfl, rfl⟩
    rw [HM.out]
    go_wp2_with fail
    go_ret
    exact ⟨rfl, HB2.out⟩

set_option maxRecDepth 100000 in
theorem lifted (os : Os) (started : os.Started) (H : Type) (enc : TypeId × Value → H) :
    ReturnsInHanded {} Try.checked os 3 .any (Rows.imageDoesSpec.pre6 enc Try.prog Try.f3 Rows.imageDoesRow.domain false) (Rows.imageDoesSpec.post enc Try.prog Try.f3 false true false false) := by
  refine returnsInHanded_of_change_sized (C := Try.checked) own started (by kernel_rfl) Try.func3
    (ChangeSpec.witness6 (enc := enc) (C := Try.checked) false ⟨#[], #[.int .i64 0, .int .i64 0, .slice none 0 0, .int .i64 0], []⟩ 8 (by kernel_rfl) (by kernel_rfl) (by kernel_rfl) (by kernel_rfl)) ?_
  intro W base args ds gs before hval0 hW hcnd hsz0 _
  have hval : ∀ (j : Nat) t v, Try.f3.params[j]? = some t → args[j]? = some v → Value.okWide Try.prog W .any base t v := hval0
  have hsz : (DataW.weightsEach Try.prog (Try.f3.params.toList ++ Rows.imageDoesSpec.plain.varTypes Try.prog) (ds ++ gs)).all (· ≤ reachBytes) = true := hsz0
  have hW' := hW
  obtain ⟨p, q, hA0, hV, rfl, hfz, hnd⟩ := hW
  have hA : DataW.TrodAll enc Try.prog W 0 (fun _ => true) true Try.f3.params.toList args.toList ds p := hA0
  rw [Try.params3] at hA hval hsz
  obtain ⟨v0, vs0, d0, ds0, p0, q0, hargs, rfl, rfl, h0, r0⟩ := trodAll_cons hA
  obtain ⟨v1, vs1, d1, ds1, p1, q1, rfl, rfl, rfl, h1, r1⟩ := trodAll_cons r0
  obtain ⟨v2, vs2, d2, ds2, p2, q2, rfl, rfl, rfl, h2, r2⟩ := trodAll_cons r1
  obtain ⟨v3, vs3, d3, ds3, p3, q3, rfl, rfl, rfl, h3, r3⟩ := trodAll_cons r2
  obtain ⟨rfl, rfl, rfl⟩ := trodAll_nil r3
  obtain rfl : args = #[v0, v1, v2, v3] := by cases args; simp_all
  obtain ⟨rfl, rfl⟩ := trodVars_none hV
  obtain ⟨a0, rfl, rfl, rfl, wa0⟩ := open_int Try.underlying3 (hval 0 3 v0 rfl rfl) h0
  obtain ⟨a1, rfl, rfl, rfl, wa1⟩ := open_int Try.underlying3 (hval 1 3 v1 rfl rfl) h1
  obtain ⟨A2, n2, c2, rfl⟩ := okWide_slice Try.underlying22 (hval 2 22 v2 rfl rfl)
  have k2 := h2
  have lt2 : ∀ x ∈ p2, x.block < W.heap.size := by obtain ⟨m, hm⟩ := k2; exact DataW.trod_lt m _ _ _ hm
  have wt2 : ∀ n ∈ d2.weights Try.prog 22, n ≤ reachBytes := fun n hn => by have := List.all_eq_true.1 hsz n (DataW.weights_mem_each (j := 2) rfl rfl n hn); simpa using this
  obtain ⟨a3, rfl, rfl, rfl, wa3⟩ := open_int Try.underlying3 (hval 3 3 v3 rfl rfl) h3
  clear hA0 hval0
  have ha0 := in64_of_wf wa0
  have ha1 := in64_of_wf wa1
  obtain ⟨os2, hn2, hl2, hos2⟩ : ∃ os : List OpI, n2 = os.length ∧ os.length ≤ 1466015503658 ∧ OpsI W (fun b => b < W.heap.size) A2 os := by
    obtain ⟨m, hm⟩ := k2
    obtain ⟨B, e, os, he, g0, g1⟩ := open_ops16 hm wt2
    have he' : [Value.slice A2 n2 c2] = [Value.slice B os.length e] := he
    simp only [List.cons.injEq, Value.slice.injEq, and_true] at he'
    obtain ⟨rfl, rfl, rfl⟩ := he'
    exact ⟨os, rfl, g0, g1⟩
  subst hn2
  have ha3 := in64_of_wf wa3
  refine (walk a0 a1 A2 os2 c2 a3 W hl2 hos2 ha3).mono fun e W' ⟨he, bel⟩ => ?_
  subst he
  exact ⟨_, rfl, _, _, _, [], _, [], hW', trodAll_mk1 (shut_bool Try.underlying4 _), (trodAll_cons_mk (shut_int Try.underlying3 wa0) (trodAll_cons_mk (shut_int Try.underlying3 wa1) (trodAll_cons_mk (Below.trod laidOut (by kernel_rfl) (of_decide_eq_true (by kernel_rfl)) k2 bel lt2) (trodAll_cons_mk (shut_int Try.underlying3 wa3) trodAll_mk0)))), rfl, bel.frame _, fun h => by cases h⟩

/-- The statement. -/
theorem proved : Rows.ImageDoesSaid :=
  OpenClaim.holds_of_wide 3 Try.f3 rfl rfl rfl rfl rfl rfl rfl ⟨rfl, rfl, rfl, rfl, rfl⟩ rfl rfl rfl rfl rfl (by kernel_rfl) Try.func3 (by kernel_rfl)
    (of_decide_eq_true (by kernel_rfl)) (by unfold Func.isWrapper; first | (rw [if_pos (by decide +kernel)]; kernel_rfl) | (rw [if_neg (by decide +kernel)]; exact ⟨rfl, rfl⟩))
    (fun os started H enc _ => lifted os started H enc)

end Go.Proofs.Ytdggeokpnaopiaa.IDoes
