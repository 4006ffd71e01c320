/- Values of any number, text, names and list are what the document says they are, and their lists are their own. No conditions. -/
import Derived.Test.YteakkbgfkcknlaaLive2
import Derived.Test.YteakkbgfkcknlaaApp
import Derived.Test.YteakkbgfkcknlaaVarD
import Derived.SizedLaws
import Derived.ProofKit
import Derived.OpenShut
import Derived.ShutString
import Derived.ChangeOld
import Derived.Below
namespace Go.Proofs.Yteakkbgfkcknlaa
open Go.RowKit
theorem Vr.set5 {u : World} {S : Nat → Prop} {g : Nat} {t : VT} {A : Option Addr} {c : Nat} {A' : Option Addr} {c' : Nat} (h : Vr u S g t A c A' c') {G : Nat} (p : Nat) (v0 v1 v2 v3 v4 : Value) (hg : g ≠ G) (hS : ∀ b, S b → b ≠ G) :
    Vr (set5 u G p v0 v1 v2 v3 v4) S g t A c A' c' :=
  ⟨(set5_block v0 v1 v2 v3 v4 hg).trans h.x, h.v.keep fun b hb => set5_block v0 v1 v2 v3 v4 (hS b hb), fun b hb => by rw [set5_size]; exact h.s b hb⟩
theorem conv_back (s : ByteArray) (g cap : Nat) (w2 : World) (hc : ∀ j u, (bcells s.data.toList)[j]? = some u → w2.cell? ((⟨g, 0, none⟩ : Addr).add j) = some u) :
    ∀ u, Below w2.heap.size w2 u → (convert 22 9 (.slice (some ⟨g, 0, none⟩) s.size cap)).run Try.prog u = .ok (.string s) u := fun u hb => by
  have hl : s.data.toList.length = s.size := rfl
  rw [run_convert_bytes_arg u 22 5 Try.underlying22 Try.underlying5 g 0 s.size cap (s.data.toList.map fun b => (b.toNat : Int)) (by simp) ?_ 9 Try.underlying9, strOfNums_bytes]
  intro i hi
  have h1 := hc i (.int .u8 (s.data.toList[i]'(by rw [hl]; exact hi)).toNat) (by simp [bcells, List.getElem?_map, List.getElem?_eq_getElem (show i < s.data.toList.length by rw [hl]; exact hi)])
  have h2 := (hb.cell (World.block_lt_of_cell? w2 _ h1)).trans h1
  rw [addr_at] at h2
  rw [h2]
  simp [List.getD, List.getElem?_map, List.getElem?_eq_getElem (show i < s.data.toList.length by rw [hl]; exact hi)]
theorem same_lit (t : VT) (v v' : Value) (u : World) (h : LV u (All u) t v) (h' : LV u (All u) t v') : Calls Try.prog 45 #[v, v'] u fun e u' => e = .returned (.bool true) ∧ Below u.heap.size u u' :=
  (rsame_any (All u) (depthT t) t t _ _ u (Nat.le_refl _) (all_sub u) h h').mono fun _ _ ⟨⟨r, h1, h2⟩, h3⟩ => ⟨by rw [h1, h2.2 rfl], h3⟩
end Go.Proofs.Yteakkbgfkcknlaa
namespace Go.Proofs.Yteakkbgfkcknlaa.Makes
open Go.ChangeShapes Go.WideShapes Go.ChangeAt Go.RowKit Go.Joins
open Go.ChangeMaps (open_string shut_string)
set_option linter.unusedVariables false

theorem own : ownKnob Try.prog.godebug = none := by kernel_rfl
theorem laidOut : laidOutB Try.prog = true := by kernel_rfl

set_option maxHeartbeats 4000000 in
set_option maxRecDepth 100000 in
theorem walk (x : Int) (s : ByteArray) (A' : Option Addr) (c' : Nat) (ns : List ByteArray) (A : Option Addr) (c : Nat) (l : List VT) (w : World) (hx : Rng x) (hs : s.size ≤ 140737488351232) (hns : StrsAt w (All w) A' ns) (hnl : ns.length ≤ 8796093021952)
    (hla : LVA w (All w) A l) (hl : l.length ≤ 1759218604390) :
    Calls Try.prog 12 #[.int .i64 x, .string s, .slice A' ns.length c', .slice A l.length c] w fun e w' => e = .returned (.bool true) ∧ Below w.heap.size w w' := by
  have HX := Lib.hid hx
  have HS := Lib.hid hs
  have HNS := Lib.hid hns
  have HNL := Lib.hid hnl
  have HLA := Lib.hid hla
  have HL := Lib.hid hl
  -- the arguments, in a later world
  have ARGS : Hid (∀ u, Below w.heap.size w u → LVA u (All u) A l ∧ StrsAt u (All u) A' ns) := Lib.hid (fun u hb => ⟨(LVA.keep hla fun b h => hb.block b h).imp fun b h => Nat.lt_of_lt_of_le h hb.size, (hns.keep fun b h => hb.block b h).imp fun b h => Nat.lt_of_lt_of_le h hb.size⟩)
  clear hx hs hns hnl hla hl
  go_enter Try.func12, Try.ntmps12
  go_wp2_with fail
  go_loopw [9] (fun i wr => ∃ j : Nat, i = .int .i64 j ∧ j ≤ l.length ∧ j ≤ 501 ∧ Hid (Below w.heap.size w wr)) (fun i _ => l.length - (intOf i).toNat)
  case atStart => exact ⟨0, rfl, Nat.zero_le _, by omega, Lib.hid (Below.refl _ _)⟩
  case round =>
    obtain ⟨j, rfl, hj, hj5, HB⟩ := hrel
    by_cases hlt : j < l.length
    · obtain ⟨p, o, A2, e2, A3, e3, rfl, hp, h0, h1, h2, h3, h4, hx⟩ := item_at (S := All w) (fun _ h => h) HLA.out HB.out j hlt
      have HC := Lib.hid (large_any _ l[j] _ wr (sub_below (S := All w) (fun _ h => h) HB.out) hx)
      generalize largeT l[j] = lb at *
      clear hx hp
      have hl := HL.out
      go_wp2_with fail
      refine HC.out.mono ?_
      rintro e w2 ⟨rfl, hb⟩
      have HB := Lib.hid (toStart HB.out hb)
      clear hb HC h0 h1 h2 h3 h4
      cases lb
      · by_cases h5 : (j : Int) > 500
        · go_wp2_with fail
          refine (lives2_any _).mono ?_
          rintro e v9 ⟨rfl, hb⟩
          have HF := Lib.hid (toStart HB.out hb)
          clear hb
          go_wp2_with fail
          go_ret
          exact ⟨rfl, HF.out⟩
        · go_wp2_with fail
          go_roundw
          case rel => exact ⟨j + 1, by go_num, by omega, by omega, HB⟩
          case measure => simp [intOf]; omega
      · go_wp2_with fail
        refine (lives2_any _).mono ?_
        rintro e v9 ⟨rfl, hb⟩
        have HF := Lib.hid (toStart HB.out hb)
        clear hb
        go_wp2_with fail
        go_ret
        exact ⟨rfl, HF.out⟩
    · obtain rfl : j = l.length := by omega
      clear hlt hj
      have HL5 := Lib.hid hj5
      clear hj5
      have ha := ARGS.out wr HB.out
      have HG0 : Hid ((wr.alloc (.cells #[] 49)).heap[wr.heap.size]? = some (.cells #[] 49 (0, 0))) := Lib.hid (heap_alloc_new wr _)
      have HLW : Hid (LVA (wr.alloc (.cells #[] 49)) (fun b => b < w.heap.size) A l) := Lib.hid (LVA.keep HLA.out fun b h => (HB.out.alloc HB.out.size _).block b h)
      clear ha
      go_wp2_with (at_builtin; go_must (refine wpList_append_vals rfl _ _ rfl w.heap.size wr.heap.size HG0.out HB.out.size rfl A c l rfl HLW.out HL.out ?_))
      intro G cap w3 f hG hrow hcap hla3 hb3
      have HROW := Lib.hid hrow
      have HCAP := Lib.hid hcap
      have HG := Lib.hid hG
      have HB3 := Lib.hid ((HB.out.alloc HB.out.size _).trans hb3)
      have HA3 := Lib.hid (array_any _ (some ⟨G, 0, none⟩) cap l w3 (fun _ h => h) hla3 HL.out)
      have HLA3 := Lib.hid hla3
      clear hG hrow hcap hla3 hb3 HG0 HLW HB
      go_wp2_with fail
      refine HA3.out.mono ?_
      rintro e w4 ⟨v1, rfl, hv1, hb4⟩
      obtain ⟨A1, c1, B1, d1, rfl, -⟩ := hv1.shape
      simp only [VT.kind, VT.num, VT.text, VT.items, VT.names] at *
      have HV1 := Lib.hid hv1
      have HB4 := Lib.hid hb4
      have HB40 := Lib.hid (HB3.out.trans (hb4.mono HB3.out.size))
      have HD4 := Lib.hid (doc_any (fun b => b < w4.heap.size) A' c' ns (some ⟨G, 0, none⟩) cap l w4 (fun _ h => h) ((LVA.keep HLA3.out fun b h => hb4.block b h).imp fun b h => Nat.lt_of_lt_of_le h hb4.size) HL.out (ARGS.out w4 HB40.out).2 HNL.out)
      clear hv1 hb4 HA3 HLA3
      go_wp2_with fail
      refine HD4.out.mono ?_
      rintro e w5 ⟨v2, rfl, hv2, hb5⟩
      obtain ⟨A4, c4, B4, d4, rfl, -⟩ := hv2.shape
      simp only [VT.kind, VT.num, VT.text, VT.items, VT.names] at *
      have HV2 := Lib.hid hv2
      have HB5 := Lib.hid hb5
      have HB50 := Lib.hid (HB40.out.trans (hb5.mono HB40.out.size))
      clear hv2 hb5 HD4
      -- two variables, and what is stored in them
      have hG3 := HROW.out.lt
      obtain ⟨S1, hS1⟩ : ∃ S1 : Nat → Prop, S1 = fun b => G < b ∧ b < w5.heap.size := ⟨_, rfl⟩
      have hs5 : ∀ b, S1 b → b < w5.heap.size := fun b hb => by rw [hS1] at hb; exact hb.2
      have hA5 : LV w5 S1 (.mk 6 0 emp l []) (.agg #[.int .i64 6, .int .i64 0, .string emp, .slice A1 l.length c1, .slice B1 0 d1]) := by
        refine (HV1.out.keep (w' := w5) fun b hb => HB5.out.block b hb.2).imp fun b hb => ?_
        rw [hS1]; exact ⟨Nat.lt_of_lt_of_le hG3 hb.1, Nat.lt_of_lt_of_le hb.2 HB5.out.size⟩
      have hD5 : LV w5 S1 (.mk 7 0 emp l ns) (.agg #[.int .i64 7, .int .i64 0, .string emp, .slice A4 l.length c4, .slice B4 ns.length d4]) := by
        refine HV2.out.imp fun b hb => ?_
        rw [hS1]; exact ⟨Nat.lt_of_lt_of_le (Nat.lt_of_lt_of_le hG3 HB4.out.size) hb.1, hb.2⟩
      obtain ⟨oA, hoA⟩ : ∃ o : Obj, o = .cells #[.int .i64 6, .int .i64 0, .string emp, .slice A1 l.length c1, .slice B1 0 d1] 49 := ⟨_, rfl⟩
      obtain ⟨oD, hoD⟩ : ∃ o : Obj, o = .cells #[.int .i64 7, .int .i64 0, .string emp, .slice A4 l.length c4, .slice B4 ns.length d4] 49 := ⟨_, rfl⟩
      have pA : Vr (w5.alloc oA) S1 w5.heap.size (.mk 6 0 emp l []) A1 c1 B1 d1 := by rw [hoA]; exact Vr.new (t := .mk 6 0 emp l []) hs5 hA5
      have pD : Vr ((w5.alloc oA).alloc oD) S1 (w5.heap.size + 1) (.mk 7 0 emp l ns) A4 c4 B4 d4 := by
        have h := Vr.new (t := .mk 7 0 emp l ns) (A := A4) (c := c4) (A' := B4) (c' := d4) pA.s (hD5.alloc hs5 oA)
        have e : (w5.alloc oA).heap.size = w5.heap.size + 1 := by simp
        rw [e] at h
        rw [hoD]; exact h
      have PA := Lib.hid (pA.alloc oD)
      have PD := Lib.hid pD
      have hbd : Below w.heap.size w ((w5.alloc oA).alloc oD) := (HB50.out.alloc HB50.out.size oA).alloc (by have := HB50.out.size; simp; omega) oD
      have HBS := Lib.hid hbd
      have hG5 : G < w5.heap.size := Nat.lt_of_lt_of_le hG3 (Nat.le_trans HB4.out.size HB5.out.size)
      have HRS : Hid (((w5.alloc oA).alloc oD).rowIs G 49 (cap * 5) f) := Lib.hid (HROW.out.of_block (((Below.heap_alloc (w5.alloc oA) oD G (by simp; omega)).trans (Below.heap_alloc w5 oA G hG5)).trans ((HB5.out.block G (Nat.lt_of_lt_of_le hG3 HB4.out.size)).trans (HB4.out.block G hG3))))
      have HNE : Hid (w5.heap.size ≠ G ∧ w5.heap.size + 1 ≠ G ∧ ∀ b, S1 b → b ≠ G) := Lib.hid (by
        refine ⟨by omega, by omega, fun b hb => ?_⟩
        rw [hS1] at hb; have := hb.1; omega)
      subst hoA
      subst hoD
      clear hG3 hS1 hs5 hA5 hD5 pA pD hbd hG5 HV1 HV2 HB4 HB5 HB3 HB40 HROW
      have hl5 := HL5.out
      go_wp2_with fail
      clear hl5
      go_loopw [13] (fun i wr => ∃ (j : Nat) (f : Nat → Value), i = .int .i64 j ∧ j ≤ l.length ∧ Hid (wr.rowIs G 49 (cap * 5) f) ∧ Hid (Below w.heap.size w wr) ∧ Hid (Vr wr S1 w5.heap.size (.mk 6 0 emp l []) A1 c1 B1 d1) ∧ Hid (Vr wr S1 (w5.heap.size + 1) (.mk 7 0 emp l ns) A4 c4 B4 d4)) (fun i _ => l.length - (intOf i).toNat)
      case atStart => exact ⟨0, f, rfl, Nat.zero_le _, HRS, HBS, PA, PD⟩
      case round =>
        rename_i wr
        clear HRS HBS PA PD
        obtain ⟨j, f2, rfl, hj, HROW, HB, P1, P2⟩ := hrel
        have hl5 := HL5.out
        by_cases hlt : j < l.length
        · have hcap := HCAP.out
          have m0 := HROW.out.cell (i := j * 5) (by omega)
          have m1 := HROW.out.cell (i := j * 5 + 1) (by omega)
          have m2 := HROW.out.cell (i := j * 5 + 2) (by omega)
          have m3 := HROW.out.cell (i := j * 5 + 3) (by omega)
          have m4 := HROW.out.cell (i := j * 5 + 4) (by omega)
          have k0 := HROW.out.frozen (j * 5)
          have k1 := HROW.out.frozen (j * 5 + 1)
          have k2 := HROW.out.frozen (j * 5 + 2)
          have k3 := HROW.out.frozen (j * 5 + 3)
          have k4 := HROW.out.frozen (j * 5 + 4)
          have HF := Lib.hid (row_set5 (p := j * 5) HROW.out (.int .i64 0) (.int .i64 0) (.string ⟨#[]⟩) (.slice none 0 0) (.slice none 0 0))
          have HBF := Lib.hid (set5_below (p := j * 5) (.int .i64 0) (.int .i64 0) (.string ⟨#[]⟩) (.slice none 0 0) (.slice none 0 0) HB.out HG.out)
          have P1F := Lib.hid (P1.out.set5 (j * 5) (.int .i64 0) (.int .i64 0) (.string ⟨#[]⟩) (.slice none 0 0) (.slice none 0 0) HNE.out.1 HNE.out.2.2)
          have P2F := Lib.hid (P2.out.set5 (j * 5) (.int .i64 0) (.int .i64 0) (.string ⟨#[]⟩) (.slice none 0 0) (.slice none 0 0) HNE.out.2.1 HNE.out.2.2)
          clear hcap
          go_wp2_with fail
          go_roundw
          case rel => exact ⟨j + 1, _, by go_num, by omega, HF, HBF, P1F, P2F⟩
          case measure => simp [intOf]; omega
        · obtain rfl : j = l.length := by omega
          clear HROW hlt hj hl5
          by_cases hx0 : x > 0
          · go_wp2_with fail
            refine (lives2_any _).mono ?_
            rintro e n1 ⟨rfl, hb⟩
            have P1 := Lib.hid (P1.out.call hb)
            have P2 := Lib.hid (P2.out.call hb)
            have HB := Lib.hid (toStart HB.out hb)
            clear hb
            have q0 : n1.cell? ⟨w5.heap.size, 0, none⟩ = some (.int .i64 6) := P1.out.x.c0
            have q1 : n1.cell? ⟨w5.heap.size, 1, none⟩ = some (.int .i64 0) := P1.out.x.c1
            have q2 : n1.cell? ⟨w5.heap.size, 2, none⟩ = some (.string emp) := P1.out.x.c2
            have q3 : n1.cell? ⟨w5.heap.size, 3, none⟩ = some (.slice A1 l.length c1) := P1.out.x.c3
            have q4 : n1.cell? ⟨w5.heap.size, 4, none⟩ = some (.slice B1 0 d1) := P1.out.x.c4
            go_wp2_with fail
            clear q0 q1 q2 q3 q4
            refine (same_lit (.mk 6 0 emp l []) _ _ _ (P1.out.v.all P1.out.s) (LV.mk (rngK (by decide) (by decide)) rng0 (by rw [emp_size]; decide) HL.out (by simp) (strs_nil _ _ _) (ARGS.out _ HB.out).1)).mono ?_
            rintro e n2 ⟨rfl, hb⟩
            have P1 := Lib.hid (P1.out.call hb)
            have P2 := Lib.hid (P2.out.call hb)
            have HB := Lib.hid (toStart HB.out hb)
            clear hb
            have q0 : n2.cell? ⟨(w5.heap.size + 1), 0, none⟩ = some (.int .i64 7) := P2.out.x.c0
            have q1 : n2.cell? ⟨(w5.heap.size + 1), 1, none⟩ = some (.int .i64 0) := P2.out.x.c1
            have q2 : n2.cell? ⟨(w5.heap.size + 1), 2, none⟩ = some (.string emp) := P2.out.x.c2
            have q3 : n2.cell? ⟨(w5.heap.size + 1), 3, none⟩ = some (.slice A4 l.length c4) := P2.out.x.c3
            have q4 : n2.cell? ⟨(w5.heap.size + 1), 4, none⟩ = some (.slice B4 ns.length d4) := P2.out.x.c4
            go_wp2_with fail
            clear q0 q1 q2 q3 q4
            refine (same_lit (.mk 7 0 emp l ns) _ _ _ (P2.out.v.all P2.out.s) (LV.mk (rngK (by decide) (by decide)) rng0 (by rw [emp_size]; decide) HL.out HNL.out (ARGS.out _ HB.out).2 (ARGS.out _ HB.out).1)).mono ?_
            rintro e n3 ⟨rfl, hb⟩
            have HB := Lib.hid (toStart HB.out hb)
            clear hb
            clear P1 P2
            go_wp2_with fail
            refine (null_any _).mono ?_
            rintro e n4 ⟨rfl, hb⟩
            have HB := Lib.hid (toStart HB.out hb)
            clear hb
            go_wp2_with fail
            refine (same_lit (.mk 1 0 emp [] []) _ _ _ (leaf_all _ 1 0 (by unfold Rng; omega) (by unfold Rng; omega) emp (by decide)) (leaf_all _ 1 0 (by unfold Rng; omega) (by unfold Rng; omega) emp (by decide))).mono ?_
            rintro e n5 ⟨rfl, hb⟩
            have HB := Lib.hid (toStart HB.out hb)
            clear hb
            go_wp2_with fail
            refine (bool_any _ true).mono ?_
            rintro e n6 ⟨rfl, hb⟩
            have HB := Lib.hid (toStart HB.out hb)
            clear hb
            go_wp2_with fail
            refine (same_lit (.mk 2 1 emp [] []) _ _ _ (leaf_all _ 2 1 (by unfold Rng; omega) (by unfold Rng; omega) emp (by decide)) (leaf_all _ 2 1 (by unfold Rng; omega) (by unfold Rng; omega) emp (by decide))).mono ?_
            rintro e n7 ⟨rfl, hb⟩
            have HB := Lib.hid (toStart HB.out hb)
            clear hb
            go_wp2_with fail
            refine (vint_any _ x).mono ?_
            rintro e n8 ⟨rfl, hb⟩
            have HB := Lib.hid (toStart HB.out hb)
            clear hb
            go_wp2_with fail
            refine (same_lit (.mk 3 x emp [] []) _ _ _ (leaf_all _ 3 x (by unfold Rng; omega) HX.out emp (by decide)) (leaf_all _ 3 x (by unfold Rng; omega) HX.out emp (by decide))).mono ?_
            rintro e n9 ⟨rfl, hb⟩
            have HB := Lib.hid (toStart HB.out hb)
            clear hb
            go_wp2_with fail
            refine (vtext_any _ s).mono ?_
            rintro e n10 ⟨rfl, hb⟩
            have HB := Lib.hid (toStart HB.out hb)
            clear hb
            go_wp2_with fail
            refine (same_lit (.mk 4 0 s [] []) _ _ _ (leaf_all _ 4 0 (by unfold Rng; omega) (by unfold Rng; omega) s HS.out) (leaf_all _ 4 0 (by unfold Rng; omega) (by unfold Rng; omega) s HS.out)).mono ?_
            rintro e n11 ⟨rfl, hb⟩
            have HB := Lib.hid (toStart HB.out hb)
            clear hb
            obtain ⟨cp, uc, hrun, hb, hcells⟩ := bytes_of s n11
            have HCB := Lib.hid (conv_back s _ cp uc hcells)
            have HB := Lib.hid (toStart HB.out hb)
            clear hb hcells
            go_wp2_with fail
            clear hrun
            refine (vbytes_any _ _ s HCB.out).mono ?_
            rintro e n12 ⟨rfl, hb⟩
            have HB := Lib.hid (toStart HB.out hb)
            clear hb
            clear HCB
            go_wp2_with fail
            refine (same_lit (.mk 5 0 s [] []) _ _ _ (leaf_all _ 5 0 (by unfold Rng; omega) (by unfold Rng; omega) s HS.out) (leaf_all _ 5 0 (by unfold Rng; omega) (by unfold Rng; omega) s HS.out)).mono ?_
            rintro e n13 ⟨rfl, hb⟩
            have HB := Lib.hid (toStart HB.out hb)
            clear hb
            go_wp2_with fail
            go_ret
            exact ⟨rfl, HB.out⟩
          · have hd0 : decide (0 < x) = false := decide_eq_false (by omega)
            go_wp2_with fail
            refine (lives2_any _).mono ?_
            rintro e n1 ⟨rfl, hb⟩
            have P1 := Lib.hid (P1.out.call hb)
            have P2 := Lib.hid (P2.out.call hb)
            have HB := Lib.hid (toStart HB.out hb)
            clear hb
            have q0 : n1.cell? ⟨w5.heap.size, 0, none⟩ = some (.int .i64 6) := P1.out.x.c0
            have q1 : n1.cell? ⟨w5.heap.size, 1, none⟩ = some (.int .i64 0) := P1.out.x.c1
            have q2 : n1.cell? ⟨w5.heap.size, 2, none⟩ = some (.string emp) := P1.out.x.c2
            have q3 : n1.cell? ⟨w5.heap.size, 3, none⟩ = some (.slice A1 l.length c1) := P1.out.x.c3
            have q4 : n1.cell? ⟨w5.heap.size, 4, none⟩ = some (.slice B1 0 d1) := P1.out.x.c4
            go_wp2_with fail
            clear q0 q1 q2 q3 q4
            refine (same_lit (.mk 6 0 emp l []) _ _ _ (P1.out.v.all P1.out.s) (LV.mk (rngK (by decide) (by decide)) rng0 (by rw [emp_size]; decide) HL.out (by simp) (strs_nil _ _ _) (ARGS.out _ HB.out).1)).mono ?_
            rintro e n2 ⟨rfl, hb⟩
            have P1 := Lib.hid (P1.out.call hb)
            have P2 := Lib.hid (P2.out.call hb)
            have HB := Lib.hid (toStart HB.out hb)
            clear hb
            have q0 : n2.cell? ⟨(w5.heap.size + 1), 0, none⟩ = some (.int .i64 7) := P2.out.x.c0
            have q1 : n2.cell? ⟨(w5.heap.size + 1), 1, none⟩ = some (.int .i64 0) := P2.out.x.c1
            have q2 : n2.cell? ⟨(w5.heap.size + 1), 2, none⟩ = some (.string emp) := P2.out.x.c2
            have q3 : n2.cell? ⟨(w5.heap.size + 1), 3, none⟩ = some (.slice A4 l.length c4) := P2.out.x.c3
            have q4 : n2.cell? ⟨(w5.heap.size + 1), 4, none⟩ = some (.slice B4 ns.length d4) := P2.out.x.c4
            go_wp2_with fail
            clear q0 q1 q2 q3 q4
            refine (same_lit (.mk 7 0 emp l ns) _ _ _ (P2.out.v.all P2.out.s) (LV.mk (rngK (by decide) (by decide)) rng0 (by rw [emp_size]; decide) HL.out HNL.out (ARGS.out _ HB.out).2 (ARGS.out _ HB.out).1)).mono ?_
            rintro e n3 ⟨rfl, hb⟩
            have HB := Lib.hid (toStart HB.out hb)
            clear hb
            clear P1 P2
            go_wp2_with fail
            refine (null_any _).mono ?_
            rintro e n4 ⟨rfl, hb⟩
            have HB := Lib.hid (toStart HB.out hb)
            clear hb
            go_wp2_with fail
            refine (same_lit (.mk 1 0 emp [] []) _ _ _ (leaf_all _ 1 0 (by unfold Rng; omega) (by unfold Rng; omega) emp (by decide)) (leaf_all _ 1 0 (by unfold Rng; omega) (by unfold Rng; omega) emp (by decide))).mono ?_
            rintro e n5 ⟨rfl, hb⟩
            have HB := Lib.hid (toStart HB.out hb)
            clear hb
            go_wp2_with fail
            refine (bool_any _ false).mono ?_
            rintro e n6 ⟨rfl, hb⟩
            have HB := Lib.hid (toStart HB.out hb)
            clear hb
            go_wp2_with fail
            refine (same_lit (.mk 2 0 emp [] []) _ _ _ (leaf_all _ 2 0 (by unfold Rng; omega) (by unfold Rng; omega) emp (by decide)) (leaf_all _ 2 0 (by unfold Rng; omega) (by unfold Rng; omega) emp (by decide))).mono ?_
            rintro e n7 ⟨rfl, hb⟩
            have HB := Lib.hid (toStart HB.out hb)
            clear hb
            go_wp2_with fail
            refine (vint_any _ x).mono ?_
            rintro e n8 ⟨rfl, hb⟩
            have HB := Lib.hid (toStart HB.out hb)
            clear hb
            go_wp2_with fail
            refine (same_lit (.mk 3 x emp [] []) _ _ _ (leaf_all _ 3 x (by unfold Rng; omega) HX.out emp (by decide)) (leaf_all _ 3 x (by unfold Rng; omega) HX.out emp (by decide))).mono ?_
            rintro e n9 ⟨rfl, hb⟩
            have HB := Lib.hid (toStart HB.out hb)
            clear hb
            go_wp2_with fail
            refine (vtext_any _ s).mono ?_
            rintro e n10 ⟨rfl, hb⟩
            have HB := Lib.hid (toStart HB.out hb)
            clear hb
            go_wp2_with fail
            refine (same_lit (.mk 4 0 s [] []) _ _ _ (leaf_all _ 4 0 (by unfold Rng; omega) (by unfold Rng; omega) s HS.out) (leaf_all _ 4 0 (by unfold Rng; omega) (by unfold Rng; omega) s HS.out)).mono ?_
            rintro e n11 ⟨rfl, hb⟩
            have HB := Lib.hid (toStart HB.out hb)
            clear hb
            obtain ⟨cp, uc, hrun, hb, hcells⟩ := bytes_of s n11
            have HCB := Lib.hid (conv_back s _ cp uc hcells)
            have HB := Lib.hid (toStart HB.out hb)
            clear hb hcells
            go_wp2_with fail
            clear hrun
            refine (vbytes_any _ _ s HCB.out).mono ?_
            rintro e n12 ⟨rfl, hb⟩
            have HB := Lib.hid (toStart HB.out hb)
            clear hb
            clear HCB
            go_wp2_with fail
            refine (same_lit (.mk 5 0 s [] []) _ _ _ (leaf_all _ 5 0 (by unfold Rng; omega) (by unfold Rng; omega) s HS.out) (leaf_all _ 5 0 (by unfold Rng; omega) (by unfold Rng; omega) s HS.out)).mono ?_
            rintro e n13 ⟨rfl, hb⟩
            have HB := Lib.hid (toStart HB.out hb)
            clear hb
            go_wp2_with fail
            go_ret
            exact ⟨rfl, HB.out⟩

set_option maxRecDepth 100000 in
theorem lifted (os : Os) (started : os.Started) (H : Type) (enc : TypeId × Value → H) :
    ReturnsInHanded {} Try.checked os 12 .any (Rows.valueMakesSpec.pre6 enc Try.prog Try.f12 Rows.valueMakesRow.domain false) (Rows.valueMakesSpec.post enc Try.prog Try.f12 false true false false) := by
  refine returnsInHanded_of_change_sized (C := Try.checked) own started (by kernel_rfl) Try.func12
    (ChangeSpec.witness6 (enc := enc) (C := Try.checked) false ⟨#[], #[.int .i64 0, .string ByteArray.empty, .slice none 0 0, .slice none 0 0], []⟩ 8 (by kernel_rfl) (by kernel_rfl) (by kernel_rfl) (by kernel_rfl)) ?_
  intro W base args ds gs before hval0 hW hcnd hsz0 _
  have hval : ∀ (j : Nat) t v, Try.f12.params[j]? = some t → args[j]? = some v → Value.okWide Try.prog W .any base t v := hval0
  have hsz : (DataW.weightsEach Try.prog (Try.f12.params.toList ++ Rows.valueMakesSpec.plain.varTypes Try.prog) (ds ++ gs)).all (· ≤ reachBytes) = true := hsz0
  have hW' := hW
  obtain ⟨p, q, hA0, hV, rfl, hfz, hnd⟩ := hW
  have hA : DataW.TrodAll enc Try.prog W 0 (fun _ => true) true Try.f12.params.toList args.toList ds p := hA0
  rw [Try.params12] at hA hval hsz
  obtain ⟨v0, vs0, d0, ds0, p0, q0, hargs, rfl, rfl, h0, r0⟩ := trodAll_cons hA
  obtain ⟨v1, vs1, d1, ds1, p1, q1, rfl, rfl, rfl, h1, r1⟩ := trodAll_cons r0
  obtain ⟨v2, vs2, d2, ds2, p2, q2, rfl, rfl, rfl, h2, r2⟩ := trodAll_cons r1
  obtain ⟨v3, vs3, d3, ds3, p3, q3, rfl, rfl, rfl, h3, r3⟩ := trodAll_cons r2
  obtain ⟨rfl, rfl, rfl⟩ := trodAll_nil r3
  obtain rfl : args = #[v0, v1, v2, v3] := by cases args; simp_all
  obtain ⟨rfl, rfl⟩ := trodVars_none hV
  obtain ⟨a0, rfl, rfl, rfl, wa0⟩ := open_int Try.underlying3 (hval 0 3 v0 rfl rfl) h0
  obtain ⟨a1, rfl, rfl, rfl, wa1⟩ := open_string Try.underlying9 (hval 1 9 v1 rfl rfl) h1
  obtain ⟨A2, n2, c2, rfl⟩ := okWide_slice Try.underlying47 (hval 2 47 v2 rfl rfl)
  have k2 := h2
  have lt2 : ∀ x ∈ p2, x.block < W.heap.size := by obtain ⟨m, hm⟩ := k2; exact DataW.trod_lt m _ _ _ hm
  have wt2 : ∀ n ∈ d2.weights Try.prog 47, n ≤ reachBytes := fun n hn => by have := List.all_eq_true.1 hsz n (DataW.weights_mem_each (j := 2) rfl rfl n hn); simpa using this
  obtain ⟨A3, n3, c3, rfl⟩ := okWide_slice Try.underlying46 (hval 3 46 v3 rfl rfl)
  have k3 := h3
  have lt3 : ∀ x ∈ p3, x.block < W.heap.size := by obtain ⟨m, hm⟩ := k3; exact DataW.trod_lt m _ _ _ hm
  have wt3 : ∀ n ∈ d3.weights Try.prog 46, n ≤ reachBytes := fun n hn => by have := List.all_eq_true.1 hsz n (DataW.weights_mem_each (j := 3) rfl rfl n hn); simpa using this
  clear hA0 hval0
  have ha0 := in64_of_wf wa0
  have hs1 : a1.size ≤ 140737488351232 := by
    have h3 := sized_string hsz (j := 1) (t := 9) rfl rfl
    simpa [reachBytes] using h3
  obtain ⟨ys2, hn2, hy2, hz2⟩ : ∃ ys : List ByteArray, n2 = ys.length ∧ ys.length ≤ 8796093021952 ∧ StrsAt W (fun b => b < W.heap.size) A2 ys := by
    obtain ⟨m, hm⟩ := k2
    obtain ⟨B, e, ys, he, g1, g2⟩ := open_names hm wt2
    have he' : [Value.slice A2 n2 c2] = [Value.slice B ys.length e] := he
    simp only [List.cons.injEq, Value.slice.injEq, and_true] at he'
    obtain ⟨rfl, rfl, rfl⟩ := he'
    exact ⟨ys, rfl, g1, g2⟩
  subst hn2
  obtain ⟨ys3, hn3, hy3, hz3⟩ : ∃ ys : List VT, n3 = ys.length ∧ ys.length ≤ 1759218604390 ∧ LVA W (fun b => b < W.heap.size) A3 ys := by
    obtain ⟨m, hm⟩ := k3
    obtain ⟨B, e, ys, he, g1, g2⟩ := open_vals hm wt3
    have he' : [Value.slice A3 n3 c3] = [Value.slice B ys.length e] := he
    simp only [List.cons.injEq, Value.slice.injEq, and_true] at he'
    obtain ⟨rfl, rfl, rfl⟩ := he'
    exact ⟨ys, rfl, g1, g2⟩
  subst hn3
  refine (walk a0 a1 A2 c2 ys2 A3 c3 ys3 W ha0 hs1 hz2 hy2 hz3 hy3).mono fun e W' ⟨he, bel⟩ => ?_
  subst he
  exact ⟨_, rfl, _, _, _, [], _, [], hW', trodAll_mk1 (shut_bool Try.underlying4 _), (trodAll_cons_mk (shut_int Try.underlying3 wa0) (trodAll_cons_mk (shut_string Try.underlying9 wa1) (trodAll_cons_mk (Below.trod laidOut (by kernel_rfl) (of_decide_eq_true (by kernel_rfl)) k2 bel lt2) (trodAll_cons_mk (Below.trod laidOut (by kernel_rfl) (of_decide_eq_true (by kernel_rfl)) k3 bel lt3) trodAll_mk0)))), rfl, bel.frame _, fun h => by cases h⟩

/-- The statement. -/
theorem proved : Rows.ValueMakesSaid :=
  OpenClaim.holds_of_wide 12 Try.f12 rfl rfl rfl rfl rfl rfl rfl ⟨rfl, rfl, rfl, rfl, rfl⟩ rfl rfl rfl rfl rfl (by kernel_rfl) Try.func12 (by kernel_rfl)
    (of_decide_eq_true (by kernel_rfl)) (by unfold Func.isWrapper; first | (rw [if_pos (by decide +kernel)]; kernel_rfl) | (rw [if_neg (by decide +kernel)]; exact ⟨rfl, rfl⟩))
    (fun os started H enc _ => lifted os started H enc)
end Go.Proofs.Yteakkbgfkcknlaa.Makes
