/- A crash of a whole disk. -/
import Derived.Test.YtflkaladkbkbgaaGreatKFlL
namespace Go.Proofs.YtflkaladkbkbgaaGreat
set_option linter.unusedVariables false
set_option linter.unusedSimpArgs false
open Go.RowKit Go.Maps
set_option maxRecDepth 100000
/-- Keeps that lie in memory. -/
def KeepsAt (w : World) (S : Nat → Prop) (A : Option Addr) (ls : List (ByteArray × Int)) : Prop :=
  0 < ls.length → ∃ b off, A = some ⟨b, off, none⟩ ∧ S b ∧ ∀ i (h : i < ls.length), w.cell? ⟨b, off + i * 2, none⟩ = some (.string ls[i].1) ∧ w.cell? ⟨b, off + i * 2 + 1, none⟩ = some (.int .i64 ls[i].2) ∧ ls[i].1.size ≤ 140737488351232 ∧ (-9223372036854775808 ≤ ls[i].2 ∧ ls[i].2 ≤ 9223372036854775807)
theorem KeepsAt.keep {w w' : World} {S : Nat → Prop} {A : Option Addr} {ls : List (ByteArray × Int)} (h : KeepsAt w S A ls) (hk : ∀ b, S b → w'.heap[b]? = w.heap[b]?) : KeepsAt w' S A ls := by
  intro hp
  obtain ⟨b, off, hA, hS, hc⟩ := h hp
  exact ⟨b, off, hA, hS, fun i hi => ⟨(World.cell?_of_block (a := ⟨b, off + i * 2, none⟩) (hk b hS)).trans (hc i hi).1, (World.cell?_of_block (a := ⟨b, off + i * 2 + 1, none⟩) (hk b hS)).trans (hc i hi).2.1, (hc i hi).2.2⟩⟩
def ksOf (ls : List (ByteArray × Int)) : List (List UInt8 × Int) := ls.map fun k => (k.1.data.toList, k.2)
theorem keepOf_succ (ls : List (ByteArray × Int)) (k : Nat) (hk : k < ls.length) (nm : List UInt8) : keepOf (ksOf (ls.take (k + 1))) nm = if ls[k].1.data.toList = nm then ls[k].2 else keepOf (ksOf (ls.take k)) nm := by
  rw [List.take_succ_eq_append_getElem hk]
  unfold ksOf keepOf
  rw [List.map_append, List.foldl_append]
  rfl
theorem wf_i64 {n : Int} (h1 : -9223372036854775808 ≤ n) (h2 : n ≤ 9223372036854775807) : (Lit.int .i64 n).wf = true := by
  simp [Lit.wf, IntKind.min, IntKind.max, IntKind.bits, IntKind.signed]
  omega
theorem zeroIF (w : World) : (zeroValue 3).run Tryz.prog w = .ok (.int .i64 0) w := by kernel_rfl
/-- What of a disk has crashed yet. -/
def DiskM.mid (M : DiskM) (l : List (List UInt8 × Int)) (left : Lit → Bool) : DiskM := { M with fs := fun nm => (M.fs nm).map fun f => if left (.string nm) then f else crashF f (keepOf l nm) }
theorem DiskM.mid_all (M : DiskM) (l : List (List UInt8 × Int)) (left : Lit → Bool) (h : ∀ nm, (M.fs nm).isSome = true → left (.string nm) = true) : M.mid l left = M := by
  unfold DiskM.mid
  have : (fun nm => (M.fs nm).map fun f => if left (.string nm) then f else crashF f (keepOf l nm)) = M.fs := by
    funext nm
    cases hf : M.fs nm with
    | none => rfl
    | some f => simp [h nm (by rw [hf]; rfl)]
  rw [this]
theorem DiskM.mid_step (M : DiskM) (l : List (List UInt8 × Int)) (left : Lit → Bool) (nm : List UInt8) (f : FileM) (hf : M.fs nm = some f) :
    (M.mid l left).put nm (crashF f (keepOf l nm)) = M.mid l (fun z => left z && !z.sameKey (.string nm)) := by
  have h1 : ((M.mid l left).fs nm).isSome = true := by simp [DiskM.mid, hf]
  have h2 : (Lit.string nm).sameKey (.string nm) = true := WideAt.sameKey_self trivial
  have h3 : ∀ x, x ≠ nm → (Lit.string x).sameKey (.string nm) = false := fun x hx => sameKey_ne (lit_str_ne hx)
  unfold DiskM.put
  rw [h1]
  unfold DiskM.mid
  simp only [if_true]
  congr 1
  funext x
  by_cases e : x = nm
  · subst e; simp [hf, h2]
  · simp [e, h3 x e]
section
variable {w : World} {Ft : Nat → Prop} {d m : Nat} {gs : List UInt8 → Option Nat} {rv : List UInt8 → Value} {D : DataW Unit} {M : DiskM}
set_option maxHeartbeats 4000000 in
theorem crash_any (h : DAt w Ft d M) (A : Option Addr) (c : Nat) (ls : List (ByteArray × Int)) (S : Nat → Prop) (hk : KeepsAt w S A ls) (hS : ∀ b, S b → b < w.heap.size ∧ ¬ Ft b) (hn : ls.length ≤ 140737488351232) :
    Calls Tryz.prog 12 #[.pointer (some ⟨d, 0, none⟩), .slice A ls.length c] w (AppR w Ft d (M.crash (ksOf ls))) := by
  have H := Lib.hid h
  obtain ⟨hlt, m, gs, rv, D, h⟩ := h
  have HD := Lib.hid h
  have HLT := Lib.hid hlt
  have HK := Lib.hid hk
  have HS := Lib.hid hS
  have HM := Lib.hid (made_any h)
  have HN := Lib.hid hn
  obtain ⟨R, hR⟩ : ∃ R, R = M.crash (ksOf ls) := ⟨_, rfl⟩
  have HR := Lib.hid hR
  rw [← hR]
  have hm : (Instr.makeMap 68 none).run Tryz.prog w = .ok (.map (some w.heap.size)) (w.alloc (.map #[] 0)) := run_makeMap _ w
  clear h hlt hk hS hR
  go_enter Tryz.func12, Tryz.ntmps12
  go_wp2_with fail
  refine HM.out.mono ?_
  rintro e u ⟨rfl, rfl⟩
  have hmap0 : (u.alloc (.map #[] 0)).ownsMap Tryz.prog 9 (plainElem (H := Unit) Tryz.prog 3) u.heap.size 0 (.map []) := World.ownsMap_made u Tryz.prog 9 _
  have hb0 : Below u.heap.size u (u.alloc (.map #[] 0)) := (Below.refl _ _).alloc (Nat.le_refl _) _
  have HMAP0 := Lib.hid hmap0
  have HB0 := Lib.hid hb0
  have hz1 : (u.alloc (.map #[] 0)).heap.size = u.heap.size + 1 := by simp
  have HZ1 := Lib.hid hz1
  obtain ⟨km, hkm⟩ : ∃ x, x = u.heap.size := ⟨_, rfl⟩
  have HKM := Lib.hid hkm
  clear hmap0 hb0 hz1
  go_wp2_with fail
  rw [← hkm] at hm HMAP0 HZ1 ⊢
  clear hkm hm
  generalize u.alloc (.map #[] 0) = u1 at HMAP0 HB0 HZ1 ⊢
  go_loopw [16] (fun i wr => ∃ (k : Nat) (E : DataW Unit), i = .int .i64 k ∧ k ≤ ls.length ∧ Hid (Below u.heap.size u wr) ∧ Hid (km < wr.heap.size) ∧ Hid (wr.ownsMap Tryz.prog 9 (plainElem (H := Unit) Tryz.prog 3) km k E) ∧ Hid (∀ nm, E.atKey (.string nm) (.lit (.int .i64 0)) = .lit (.int .i64 (keepOf (ksOf (ls.take k)) nm))) ∧ Hid (∀ j (h : j < ls.length), j < k → badNm ls[j].1.data.toList = false)) (fun i _ => ls.length - (intOf i).toNat)
  case atStart => exact ⟨0, _, rfl, Nat.zero_le _, HB0, Lib.hid (by have := HZ1.out; omega), HMAP0, Lib.hid fun nm => rfl, Lib.hid fun j _ h => absurd h (by omega)⟩
  case round =>
    obtain ⟨k, E, rfl, hkl, HB, HKL, HE, HV, HJ⟩ := hrel
    have hzb := HB.out.size
    by_cases hlt : k < ls.length
    · obtain ⟨p, o, rfl, hpS, hc⟩ := HK.out (by omega)
      obtain ⟨hpl, hpF⟩ := HS.out p hpS
      obtain ⟨hc0, hc1, hsz, hrn⟩ := hc k hlt
      have e0 : wr.cell? ⟨p, o + k * 2, none⟩ = some (.string ls[k].1) := (World.cell?_of_block (a := ⟨p, o + k * 2, none⟩) (HB.out.block p hpl)).trans hc0
      have e1 : wr.cell? ⟨p, o + k * 2 + 1, none⟩ = some (.int .i64 ls[k].2) := (World.cell?_of_block (a := ⟨p, o + k * 2 + 1, none⟩) (HB.out.block p hpl)).trans hc1
      obtain ⟨nmk, hnmk⟩ : ∃ x, x = ls[k].1 := ⟨_, rfl⟩
      obtain ⟨nk, hnk⟩ : ∃ x, x = ls[k].2 := ⟨_, rfl⟩
      have HNM := Lib.hid hnmk
      have HNK := Lib.hid hnk
      rw [← hnmk] at e0 hsz
      rw [← hnk] at e1 hrn
      have HSZ := Lib.hid hsz
      have HRN := Lib.hid hrn
      clear hc hc0 hc1 hnmk hnk hsz hrn
      have hpl' : p < wr.heap.size := by omega
      obtain ⟨w2, hw2⟩ : ∃ W, W = wr.alloc (.cells #[.string nmk, .int .i64 nk] 64) := ⟨_, rfl⟩
      have hb2 : Below wr.heap.size wr w2 := by rw [hw2]; exact (Below.refl _ _).alloc (Nat.le_refl _) _
      have hcp : w2.heap[wr.heap.size]? = some (.cells #[.string nmk, .int .i64 nk] 64 (0, 0)) := by rw [hw2]; exact heap_alloc_new wr _
      have y0 := Go.Joins.cell_of_block hcp 0
      have y1 := Go.Joins.cell_of_block hcp 1
      have HW2 := Lib.hid hw2
      have HE2 := Lib.hid (ownsMap_keep HE.out (hb2.block km HKL.out))
      have HB2 := Lib.hid (HB.out.trans (hb2.mono (by omega)))
      have hz2 := hb2.size
      clear hw2 hb2 hcp
      go_wp2_with fail
      rw [← HW2.out]
      refine (mayName_any nmk _ (by have := HSZ.out; omega)).mono ?_
      rintro e u2 ⟨rfl, rfl⟩
      cases hb : badNm nmk.data.toList
      · have HBN := Lib.hid hb
        have h24 : nmk.size ≤ 24 := by
          have h9 := hb
          unfold badNm at h9
          simp at h9
          exact h9.2
        obtain ⟨w3, hrun, hE3, hg3⟩ := HE2.out.update fkeyed Tryz.underlying68 (by unfold maxLen; have := HN.out; omega) (fkey nmk (by unfold maxLen; omega)) (plainElem_int (H := Unit) Tryz.underlying3 (a := nk) (q := .i64) (by have := HRN.out; exact wf_i64 this.1 this.2))
        have HE3 := Lib.hid hE3
        have hmap : IsMap E := by obtain ⟨es, hD, -, -⟩ := HE.out.entries fkeyed; exact ⟨es, hD⟩
        have HV3 : Hid (∀ nm, (E.put (.string nmk.data.toList) (.lit (.int .i64 nk))).atKey (.string nm) (.lit (.int .i64 0)) = .lit (.int .i64 (keepOf (ksOf (ls.take (k + 1))) nm))) := Lib.hid fun nm => by
          rw [keepOf_succ ls k hlt nm, ← HNM.out, ← HNK.out]
          by_cases e : nmk.data.toList = nm
          · rw [if_pos e, ← e, atKey_put_same hmap (show WideAt.IsKeyLit (Lit.string nmk.data.toList) from trivial)]
          · rw [if_neg e, atKey_put_other (lit_str_ne fun e2 => e e2.symm)]
            exact HV.out nm
        have HB3 : Hid (Below u.heap.size u w3) := Lib.hid ⟨hg3.os.trans HB2.out.os, hg3.tape.trans HB2.out.tape, hg3.output.trans HB2.out.output, Nat.le_trans HB2.out.size hg3.size, fun i hi => (hg3.block i (by have := HB2.out.size; omega) (fun e => by injection e with e; have := HKM.out; omega)).trans (HB2.out.block i hi)⟩
        have HK3 : Hid (km < w3.heap.size) := Lib.hid (by have := HKL.out; have := hg3.size; omega)
        clear hE3 hg3 hmap h24 hb
        go_wp2_with fail
        go_roundw
        case rel => exact ⟨k + 1, _, by go_num, by omega, HB3, HK3, HE3, HV3, Lib.hid fun j h hjk => by
          by_cases e : j = k
          · subst e; rw [← HNM.out]; exact HBN.out
          · exact HJ.out j h (by omega)⟩
        case measure => simp [intOf]; omega
      · have hop : R = (1, M) := by
          rw [HR.out]; unfold DiskM.crash
          rw [if_pos]
          refine List.any_eq_true.2 ⟨(nmk.data.toList, nk), ?_, hb⟩
          unfold ksOf
          exact List.mem_map.2 ⟨ls[k], List.getElem_mem hlt, by rw [HNM.out, HNK.out]⟩
        have HOP := Lib.hid hop
        clear hop hb
        go_wp2_with fail
        go_ret
        rw [HOP.out]
        exact ⟨rfl, Ft, Gr.of_below HB2.out, H.out.below HB2.out⟩
    · obtain rfl : k = ls.length := by omega
      have hlen : decide ((ls.length : Int) < (ls.length : Int)) = false := decide_eq_false (by omega)
      rw [List.take_length] at HV
      have hd1 := HD.out.below HLT.out HB.out
      have hc0 := hd1.c0
      have HD1 := Lib.hid hd1
      have HLT1 : Hid (∀ b, Ft b → b < wr.heap.size) := Lib.hid fun b hb => by have := HLT.out b hb; omega
      have HOWN := Lib.hid hd1.map
      clear hd1
      obtain ⟨r, hr⟩ : ∃ r, r = wr.heap.size := ⟨_, rfl⟩
      go_wp2_with (first | (at_range; refine wpList_range_own _ rfl _ 45 rfl 9 69 fkeyed Tryz.underlying45 fileR m M.cnt D rfl HOWN.out ?_; intro w4 hrg4 hg4 hs4))
      have hrw := hr
      rw [← hr] at hrg4 ⊢
      have HRW := Lib.hid hrw
      have hd4 := HD1.out.keep (w' := w4) fun b hb => hg4.block b (HLT1.out b hb) (by simp)
      have hmid : M.mid (ksOf ls) (Maps.has D) = M := DiskM.mid_all M _ _ fun nm h => by rw [HD.out.has, HD.out.ok]; exact h
      rw [← hmid] at hd4
      have HD4 := Lib.hid hd4
      have HRG4 := Lib.hid hrg4
      have HE4 := Lib.hid (ownsMap_keep HE.out (hg4.block km HKL.out (by simp)))
      have HG4 : Hid (Gr Ft u Ft w4) := Lib.hid ⟨hg4.os.trans HB.out.os, hg4.tape.trans HB.out.tape, hg4.output.trans HB.out.output, by have := hg4.size; omega, fun i hi _ => (hg4.block i (by omega) (by simp)).trans (HB.out.block i hi), fun _ x => .inl x⟩
      have HKMF : Hid (¬ Ft km ∧ km ≠ m) := Lib.hid ⟨fun h => by have := HLT.out _ h; have := HKM.out; omega, fun e => by have := HD.out.map.lt; have := HKM.out; omega⟩
      have HRF : Hid (¬ Ft r ∧ r ≠ km) := Lib.hid ⟨fun h => by have := HLT1.out _ h; omega, fun e => by have := HKL.out; omega⟩
      have HRU : Hid (u.heap.size ≤ r) := Lib.hid (by omega)
      clear hd4 hmid hrg4 hs4 hg4 hc0 hrw hr HOWN HE
      go_frame
      go_loopw [35] (fun _ wq => ∃ (left : Lit → Bool) (cnt : Nat) (rv2 : List UInt8 → Value), Hid (wq.ranges Tryz.prog 9 fileR m r M.cnt D left cnt) ∧ Hid (DiskAt wq Ft d m gs rv2 D (M.mid (ksOf ls) left)) ∧ Hid (wq.ownsMap Tryz.prog 9 (plainElem (H := Unit) Tryz.prog 3) km ls.length E) ∧ Hid (Gr Ft u Ft wq)) (fun _ wq => wq.rangeLeft m r)
      case atStart => exact ⟨_, _, rv, HRG4, HD4, HE4, HG4⟩
      case round =>
        obtain ⟨left, cnt, rv2, HRG, HDq, HEq, HGq⟩ := hrel
        go_wp2_with (first | (at_next; refine wpList_next_ranges _ rfl _ rfl 9 fkeyed fileR Value.string Value.pointer (fun key kl hk => by obtain ⟨x, hx, _⟩ := WideMaps.string_of_keyOf Tryz.underlying9 hk; exact ⟨x, hx⟩) (fun v y hv => by rcases fileR_inv hv with ⟨h1, -⟩ | ⟨g, h1, -⟩; exact ⟨none, h1⟩; exact ⟨_, h1⟩) m r M.cnt D left cnt rfl HRG.out ?_ ?_))
        · intro hc0 hl0
          have hdf := HDq.out
          have x0 := hdf.c0
          have x1 := hdf.c1
          have x2 := hdf.c2
          have x3 := hdf.c3
          have f1 := hdf.uf 1
          have f2 := hdf.uf 2
          have f3 := hdf.uf 3
          have hb1 := setCell_one hdf.disk 1 (.int .i64 (-1))
          have hb2 := setCell_one hb1 2 (.int .i64 0)
          have hb3 := setCell_one hb2 3 (.bool false)
          have hop : R = (0, ⟨fun nm => (M.fs nm).map fun f => crashF f (keepOf (ksOf ls) nm), M.cnt, -1, 0, false⟩) := by
            rw [HR.out]; unfold DiskM.crash
            rw [if_neg]
            intro h9
            obtain ⟨q, hq, hqb⟩ := List.any_eq_true.1 h9
            unfold ksOf at hq
            obtain ⟨q2, hq2, rfl⟩ := List.mem_map.1 hq
            obtain ⟨j, hj, rfl⟩ := List.mem_iff_getElem.1 hq2
            have := HJ.out j hj hj
            rw [this] at hqb
            cases hqb
          have hmf : (M.mid (ksOf ls) left).fs = fun nm => (M.fs nm).map fun f => crashF f (keepOf (ksOf ls) nm) := by
            funext nm
            show (M.fs nm).map _ = _
            congr 1
            funext f
            rw [hl0]
            rfl
          have hfin := hdf.power (w' := ((wr.setCell ⟨d, 1, none⟩ (.int .i64 (-1))).setCell ⟨d, 2, none⟩ (.int .i64 0)).setCell ⟨d, 3, none⟩ (.bool false)) ⟨fun nm => (M.fs nm).map fun f => crashF f (keepOf (ksOf ls) nm), M.cnt, -1, 0, false⟩ hmf.symm rfl (by show (-1 : Int) ≤ -1 ∧ (-1 : Int) ≤ 9223372036854775807 ∧ (0 : Int) ≤ 0 ∧ (0 : Int) ≤ 9223372036854775807; decide) (by rw [hb3]; rfl) (fun b hb => (heap_setCell_other _ ⟨d, 3, none⟩ b _ hb).trans ((heap_setCell_other _ ⟨d, 2, none⟩ b _ hb).trans (heap_setCell_other _ ⟨d, 1, none⟩ b _ hb)))
          have hg9 : Gr Ft wr Ft (((wr.setCell ⟨d, 1, none⟩ (.int .i64 (-1))).setCell ⟨d, 2, none⟩ (.int .i64 0)).setCell ⟨d, 3, none⟩ (.bool false)) := ⟨rfl, rfl, rfl, by simp, fun b _ hn => (heap_setCell_other _ ⟨d, 3, none⟩ b _ (fun e => hn (e ▸ hdf.fd))).trans ((heap_setCell_other _ ⟨d, 2, none⟩ b _ (fun e => hn (e ▸ hdf.fd))).trans (heap_setCell_other _ ⟨d, 1, none⟩ b _ (fun e => hn (e ▸ hdf.fd)))), fun _ x => .inl x⟩
          have HFIN : Hid (AppR u Ft d R (.returned (.int .i64 0)) (((wr.setCell ⟨d, 1, none⟩ (.int .i64 (-1))).setCell ⟨d, 2, none⟩ (.int .i64 0)).setCell ⟨d, 3, none⟩ (.bool false))) := Lib.hid ⟨by rw [hop], Ft, HGq.out.trans hg9, by rw [hop]; exact ⟨fun b hb => by have h1 := HLT.out b hb; have h2 := HGq.out.size; have h3 := hg9.size; omega, _, _, _, _, hfin⟩⟩
          clear hdf hb1 hb2 hb3 hop hmf hfin hg9 hl0 hc0
          go_wp2_with fail
          go_ret
          exact HFIN.out
        · intro x cv kl yd yp w2 cnt2 hkey hlk hv hat hrg2 hlt2 hg2 hs2 hen
          obtain ⟨x', hx', rfl, hxs⟩ := WideMaps.string_of_keyOf Tryz.underlying9 hkey
          injection hx' with hx'
          subst hx'
          have hsome : (gs x.data.toList).isSome = true := by rw [← HD.out.has]; exact has_true_of_atKey hat
          obtain ⟨g, hgs⟩ := Option.isSome_iff_exists.1 hsome
          have hcv : cv = some ⟨g, 0, none⟩ := by
            have h1 := HD.out.at' x.data.toList
            rw [hat, hgs] at h1
            rcases fileR_inv hv with ⟨h2, h3⟩ | ⟨g', h2, h3⟩
            · injection h3 with h3 _; rw [h3] at h1; simp at h1
            · injection h3 with h3 _
              rw [h3] at h1
              simp at h1
              injection h2 with h2
              rw [h2]
              congr
              omega
          subst hcv
          have hd2 := HDq.out.keep (w' := w2) fun b hb => hg2.block b (by have := HLT.out b hb; have := HGq.out.size; omega) (fun e => by injection e with e; exact HRF.out.1 (e ▸ hb))
          obtain ⟨fm, hfm, hFm⟩ := hd2.ex hgs
          obtain ⟨f, hf⟩ : ∃ f, M.fs x.data.toList = some f := by
            have h1 := HD.out.ok x.data.toList
            rw [hgs] at h1
            exact Option.isSome_iff_exists.1 h1.symm
          have hff : fm = f := by
            have h1 : (M.mid (ksOf ls) left).fs x.data.toList = some f := by
              show (M.fs _).map _ = _
              rw [hf]
              simp [hlk]
            rw [h1] at hfm
            injection hfm with h2
            exact h2.symm
          subst hff
          have hE2 := ownsMap_keep HEq.out (hg2.block km HEq.out.lt (fun e => by injection e with e; exact HRF.out.2 e.symm))
          obtain ⟨cn, hlkp, hcn, hwf⟩ := hE2.lookup_int fkeyed Tryz.underlying68 Tryz.underlying3 (zeroIF w2) (fkey x (by unfold maxLen; exact hxs))
          rw [HV.out] at hcn
          have hcn2 : cn = keepOf (ksOf ls) x.data.toList := by simp at hcn; exact hcn.symm
          have hrn : -9223372036854775808 ≤ cn ∧ cn ≤ 9223372036854775807 := by
            simp [Lit.wf, IntKind.min, IntKind.max, IntKind.bits, IntKind.signed] at hwf
            omega
          have HC := Lib.hid (fcrash_any hFm cn hrn)
          have HFIN : Hid (∀ w3, FileR w2 Ft g (rv2 x.data.toList) (crashF fm cn) w3 → Hid (w3.ranges Tryz.prog 9 fileR m r M.cnt D (fun z => left z && !z.sameKey (.string x.data.toList)) cnt2) ∧ (∃ rv3, Hid (DiskAt w3 Ft d m gs rv3 D (M.mid (ksOf ls) fun z => left z && !z.sameKey (.string x.data.toList)))) ∧ Hid (w3.ownsMap Tryz.prog 9 (plainElem (H := Unit) Tryz.prog 3) km ls.length E) ∧ Hid (Gr Ft u Ft w3)) := Lib.hid (by
            rintro w3 ⟨v', hF3, hv3, hg3, hs3⟩
            have hgF : Ft g := hFm.ftg
            refine ⟨hrg2.kept hg3 (fun e => ?_) (fun e => ?_), ⟨fun z => if z = x.data.toList then v' else rv2 z, ?_⟩, ownsMap_keep hE2 (hg3.block km (by have := hE2.lt; omega) (fun e => by injection e with e; exact HKMF.out.1 (e ▸ hgF))), ?_⟩
            · injection e with e
              have h1 := hFm.tagg
              rw [← e, hd2.tagm] at h1
              cases h1
            · injection e with e
              exact HRF.out.1 (e ▸ hgF)
            · have h1 := hd2.setFile hgs hF3 hv3 (fun b hb _ => by
                by_cases hbl : b < w2.heap.size
                · exact hg3.block b hbl (fun e => hb (by injection e))
                · rw [Array.getElem?_eq_none (by omega), Array.getElem?_eq_none (by omega)])
              rw [hcn2, DiskM.mid_step M (ksOf ls) left x.data.toList fm hf] at h1
              exact h1
            · exact ⟨(hg3.os.trans hg2.os).trans HGq.out.os, (hg3.tape.trans hg2.tape).trans HGq.out.tape, (hg3.output.trans hg2.output).trans HGq.out.output, by have := HGq.out.size; omega, fun b hb hn => (hg3.block b (by have := HGq.out.size; omega) (fun e => hn (by injection e with e; exact e ▸ hgF))).trans ((hg2.block b (by have := HGq.out.size; omega) (fun e => by injection e with e; have := HRU.out; omega)).trans (HGq.out.block b hb hn)), fun _ x => .inl x⟩)
          have hrl := hrg2.left_eq
          have HRL : Hid (∀ (w3 : World) (cntx : Nat) (lf : Lit → Bool), w3.ranges Tryz.prog 9 fileR m r M.cnt D lf cntx → w3.rangeLeft m r = cntx) := Lib.hid fun w3 cntx lf h => h.left_eq
          have hro : wr.rangeLeft m r = cnt := HRG.out.left_eq
          clear hE2 hcn hcn2 hwf hf hfm hFm hd2 hat hv hsome hgs hkey hlk hrg2 hg2 hs2 hrl
          go_wp2_with fail
          refine HC.out.mono ?_
          rintro e w3 ⟨⟨xx, rfl⟩, hfr⟩
          obtain ⟨HR3, ⟨rv3, HD3⟩, HE3, HG3⟩ := HFIN.out w3 hfr
          have hr3 := HRL.out w3 _ _ HR3.out
          clear hfr
          go_wp2_with fail
          go_roundw
          case rel => exact ⟨_, cnt2, rv3, HR3, HD3, HE3, HG3⟩
          case measure => rw [hr3, hro]; exact hlt2
end
end Go.Proofs.YtflkaladkbkbgaaGreat
