/- Whether a list of changes is free, by the program. -/
import Derived.Test.YtlipkmdjpligeaaGreatKIdx
import Derived.Test.YtlipkmdjpligeaaGreatKEnA
import Derived.Test.YtlipkmdjpligeaaGreatKTrD
import Derived.Test.YtlipkmdjpligeaaGreatKVr
import Derived.Test.YtlipkmdjpligeaaGreatKValQ
namespace Go.Proofs.YtlipkmdjpligeaaGreat
open Lib (hid)
set_option linter.unusedVariables false
set_option linter.unusedSimpArgs false
open Go.RowKit Go.Sort
set_option maxRecDepth 100000
def RowP (w : World) (S : Nat → Prop) (wr : World) (n k : Nat) (l : List DelT) : Prop := ∃ cur : Array Value, wr.heap[w.heap.size]? = some (.cells cur 22 (0, 0)) ∧ cur.size = n ∧ ∀ j (h : j < l.length), j < k → ∃ x : PathV w S, x.p = l[j].path ∧ cur[j]? = some (encP x)
theorem Tryz.infoStrs' : (Tryz.prog.info? 22).map (fun i => (i.zero, i.size, i.bytes)) = some (some (.slice none 0 0), 1, 24) := by kernel_rfl
theorem RowP.call {w : World} {S : Nat → Prop} {wr W : World} {n k : Nat} {l : List DelT} (h : RowP w S wr n k l) (hb : Below wr.heap.size wr W) : RowP w S W n k l := by
 obtain ⟨cur, h1, h2⟩ := h
 exact ⟨cur, (hb.block _ (Array.getElem?_eq_some_iff.1 h1).1).trans h1, h2⟩
theorem RowP.push {w : World} {S : Nat → Prop} {wr : World} {n k : Nat} {l : List DelT} (h : RowP w S wr n k l) (hk : k < n) (x : PathV w S) (hkl : k < l.length) (hx : x.p = l[k].path) : RowP w S (wr.setCell ⟨w.heap.size, k, none⟩ (encP x)) n (k + 1) l := by
 obtain ⟨cur, h1, h2, h3⟩ := h
 refine ⟨cur.setIfInBounds k (encP x), Go.Joins.block_setCell (i := k) h1 _, by simpa using h2, fun j hj hjk => ?_⟩
 by_cases e : j = k
 ·subst e
  exact ⟨x, hx, by rw [getElem?_set', if_pos rfl, if_pos (by omega)]⟩
 ·obtain ⟨y, h4, h5⟩ := h3 j hj (by omega)
  exact ⟨y, h4, by rw [getElem?_set', if_neg (fun h => e h.symm)]; exact h5⟩
theorem RowP.all {w : World} {S : Nat → Prop} {wr : World} {n : Nat} {l : List DelT} (h : RowP w S wr n n l) (hn : n = l.length) : ∃ d : Array (PathV w S), d.size = n ∧ d.toList.map (·.p) = pathsD l ∧ Holds encP wr w.heap.size 0 d := by
 obtain ⟨cur, h1, h2, h3⟩ := h
 have hx : ∀ j : Fin n, ∃ x : PathV w S, x.p = (l[j.val]'(by omega)).path ∧ cur[j.val]? = some (encP x) := fun j => h3 j.val (by omega) j.isLt
 obtain ⟨f, hf⟩ := Classical.axiomOfChoice hx
 have hs : (Array.ofFn f).size = n := by simp
 refine ⟨Array.ofFn f, hs, ?_, fun j hj => ?_⟩
 ·refine List.ext_getElem (by simp [pathsD, hn]) fun i hi hi' => ?_
  simp only [List.length_map, Array.length_toList, Array.size_ofFn] at hi
  simp only [List.getElem_map, Array.getElem_toList, Array.getElem_ofFn, pathsD]
  exact (hf ⟨i, hi⟩).1
 ·rw [hs] at hj
  refine ⟨?_, Go.Joins.unfrozen_of_block h1 _⟩
  rw [Nat.zero_add, Go.Joins.cell_of_block h1 j, getElem!_pos _ j (by rw [hs]; exact hj), Array.getElem_ofFn]
  exact (hf ⟨j, hj⟩).2
theorem sort_below {w W : World} {α : Type} [Inhabited α] (enc : α → Value) (m : Nat) (dk : Array α) (os : Array Obj) (hW : Below w.heap.size w W) : Below w.heap.size w (Go.Proofs.sortWorld enc W w.heap.size 0 m dk os) :=
 hW.trans ⟨rfl, rfl, rfl, by unfold Go.Proofs.sortWorld grow; simp [size_putRow], fun b hb => sort_block enc W w.heap.size 0 m dk os b (by omega) (by have := hW.size; omega)⟩
set_option maxHeartbeats 16000000 in
theorem dlfree_any (S : Nat → Prop) (A : Option Addr) (c : Nat) (l : List DelT) (w : World) (hS : ∀ b, S b → b < w.heap.size) (h : DelsL w S A l) (hl : l.length ≤ 1099511627776) :
  Calls Tryz.prog 167 #[.slice A l.length c] w fun e w' => e = .returned (.bool (freeD l)) ∧ Below w.heap.size w w' := by
 obtain ⟨i0, hi, hz0, hz1, hz2⟩ := info_parts Tryz.infoStrs'
 have H := hid h
 have HS := hid hS
 obtain ⟨r, hr⟩ : ∃ r, r = freeD l := ⟨_, rfl⟩
 have HR := hid hr
 rw [← hr]
 obtain ⟨n, hn⟩ : ∃ n, n = l.length := ⟨_, rfl⟩
 have HN := hid hn
 rw [← hn] at hl ⊢
 clear h hS hr hn
 go_enter Tryz.func167, Tryz.ntmps167
 go_wp2_with (refine wpList_make_row _ rfl _ _ 183 rfl 22 i0 _ Tryz.underlying183 hi hz0 hz1 rfl .i64 .i64 n rfl rfl (by rw [hz2]; omega) (by omega) ?_)
 have hw1 : RowP w S (w.alloc (.cells (madeCells #[.slice none 0 0] n) 22)) n 0 l := ⟨_, heap_alloc_new w _, by rw [size_madeCells], fun j _ h => absurd h (by omega)⟩
 have hb1 : Below w.heap.size w (w.alloc (.cells (madeCells #[.slice none 0 0] n) 22)) := below_box _
 have HR1 := hid hw1
 have HB1 := hid hb1
 clear hw1 hb1
 go_loopw [12] (fun i wr => ∃ k : Nat, i = .int .i64 k ∧ k ≤ n ∧ Hid (Below w.heap.size w wr) ∧ Hid (RowP w S wr n k l)) (fun i _ => n - (intOf i).toNat)
 case atStart => exact ⟨0, rfl, by omega, HB1, HR1⟩
 case round =>
  clear HB1 HR1
  obtain ⟨k, rfl, hk, HB, HRW⟩ := hrel
  by_cases hlt : k < n
  ·have d1 : decide ((k : Int) < (n : Int)) = true := decide_eq_true (by omega)
   have hkl : k < l.length := by have := HN.out; omega
   obtain ⟨bp, off, PA, pc, VA, vc, VA', vc', rfl, hbp, hd, y0, y1, y2, y3, y4, y5, y6, y7⟩ := H.out.cells k hkl
   obtain ⟨q1, q2, q4⟩ : StrsAt w S PA l[k].path ∧ l[k].path.length ≤ pc ∧ l[k].path.length ≤ 8796093021952 := by
    obtain ⟨P1, p1, V1, v1, V1', v1', e, q0, q1, q2, -, -, -, q4⟩ := hd
    simp only [Array.mk.injEq, List.cons.injEq, Value.slice.injEq, and_true, true_and] at e
    obtain ⟨⟨rfl, rfl⟩, ⟨rfl, rfl⟩, rfl, rfl⟩ := e
    exact ⟨q1, q2, q4⟩
   have hbl := HS.out bp hbp
   have x0 := (HB.out.cell (p := ⟨bp, off + k * 8, none⟩) hbl).trans y0
   have x1 := (HB.out.cell (p := ⟨bp, off + k * 8 + 1, none⟩) hbl).trans y1
   have x2 := (HB.out.cell (p := ⟨bp, off + k * 8 + 2, none⟩) hbl).trans y2
   have x3 := (HB.out.cell (p := ⟨bp, off + k * 8 + 3, none⟩) hbl).trans y3
   have x4 := (HB.out.cell (p := ⟨bp, off + k * 8 + 4, none⟩) hbl).trans y4
   have x5 := (HB.out.cell (p := ⟨bp, off + k * 8 + 5, none⟩) hbl).trans y5
   have x6 := (HB.out.cell (p := ⟨bp, off + k * 8 + 6, none⟩) hbl).trans y6
   have x7 := (HB.out.cell (p := ⟨bp, off + k * 8 + 7, none⟩) hbl).trans y7
   have hbx : Below wr.heap.size wr (wr.alloc (.cells #[.int .i64 l[k].kind, .slice PA l[k].path.length pc, .int .i64 l[k].val.kind, .int .i64 l[k].val.num, .string l[k].val.text, .slice VA l[k].val.items.length vc, .slice VA' l[k].val.names.length vc', .int .i64 l[k].num] 65)) := below_box _
   have hR4 := HRW.out.call hbx
   obtain ⟨u1, z1⟩ : ∃ u, (wr.alloc (.cells #[.int .i64 l[k].kind, .slice PA l[k].path.length pc, .int .i64 l[k].val.kind, .int .i64 l[k].val.num, .string l[k].val.text, .slice VA l[k].val.items.length vc, .slice VA' l[k].val.names.length vc', .int .i64 l[k].num] 65)).cell? ⟨w.heap.size, k, none⟩ = some u := by
    obtain ⟨cur, h1, h2, -⟩ := hR4
    exact ⟨cur[k]'(by omega), by rw [Go.Joins.cell_of_block h1 k]; exact Array.getElem?_eq_getElem (by omega)⟩
   have zf : ∀ i, (wr.alloc (.cells #[.int .i64 l[k].kind, .slice PA l[k].path.length pc, .int .i64 l[k].val.kind, .int .i64 l[k].val.num, .string l[k].val.text, .slice VA l[k].val.items.length vc, .slice VA' l[k].val.names.length vc', .int .i64 l[k].num] 65)).frozen? ⟨w.heap.size, i, none⟩ = false := fun i => by
    obtain ⟨cur, h1, -⟩ := hR4
    exact Go.Joins.unfrozen_of_block h1 i
   have HR5 := hid (show RowP w S ((wr.alloc (.cells #[.int .i64 l[k].kind, .slice PA l[k].path.length pc, .int .i64 l[k].val.kind, .int .i64 l[k].val.num, .string l[k].val.text, .slice VA l[k].val.items.length vc, .slice VA' l[k].val.names.length vc', .int .i64 l[k].num] 65)).setCell ⟨w.heap.size, k, none⟩ (.slice PA l[k].path.length pc)) n (k + 1) l from hR4.push hlt ⟨PA, pc, l[k].path, q1, q2, q4⟩ hkl rfl)
   have HB5 := hid (below_set (p := w.heap.size) (i := k) (u := .slice PA l[k].path.length pc) (HB.out.trans (hbx.mono HB.out.size)) (Nat.le_refl _))
   clear hd q1 q2 q4 hbx hR4 y0 y1 y2 y3 y4 y5 y6 y7 hbp
   go_wp2_with fail
   go_roundw
   case rel => exact ⟨k + 1, by go_num, by omega, HB5, HR5⟩
   case measure => simp [intOf]; omega
  ·obtain rfl : k = n := by omega
   have d1 : decide ((k : Int) < (k : Int)) = false := decide_eq_false (by omega)
   obtain ⟨d, hd1, hd2, hd3⟩ := HRW.out.all HN.out
   have eg : ∀ args w, (callFunc 191 args).run Tryz.prog w = .ok (.enter 191 args) w := enters_of Tryz.func191 (by kernel_rfl) rfl
   have hsz : d.size < 4611686018427387904 := by omega
   have hblk : w.heap.size < wr.heap.size := by
    obtain ⟨cur, h1, -⟩ := HRW.out
    exact (Array.getElem?_eq_some_iff.1 h1).1
   have HC := hid (Tryz.slices_SortFunc (encP (w := w) (S := S)) encP_one cfP cfP_swo 191 #[] w.heap.size 0 k d wr eg (cmp_lays HS.out (Nat.le_refl _) HB.out) hd3 hblk hsz)
   rw [hd1] at HC
   have HD2 := hid hd2
   have HD3 := hid hd3
   have HD1 := hid hd1
   have HBK := hid hblk
   clear hd1 hd2 hd3 eg hsz hblk hlt HRW
   go_wp2_with fail
   refine HC.out.mono ?_
   rintro e w2 ⟨rfl, d', m, os, hp, hs, rfl⟩
   obtain ⟨hz', hfree⟩ := free_of_sorted HD2.out (by rw [HD1.out]; exact hp) (by rw [HD1.out]; exact hs)
   have hb2 := sort_below (encP (w := w) (S := S)) m d' os HB.out
   have hh2 := holds_sortWorld (encP (w := w) (S := S)) wr w.heap.size 0 m d d' os HBK.out HD3.out (by rw [hz', HD1.out, HN.out])
   have hk2 : w.heap.size < (Go.Proofs.sortWorld (encP (w := w) (S := S)) wr w.heap.size 0 m d' os).heap.size := lt_sortWorld (encP (w := w) (S := S)) wr w.heap.size 0 m d' os HBK.out
   generalize Go.Proofs.sortWorld (encP (w := w) (S := S)) wr w.heap.size 0 m d' os = w2 at *
   have HDN : Hid (d'.size = k) := hid (by rw [hz', HN.out])
   have HFR := hid hfree
   have HB2 := hid hb2
   have HH2 := hid hh2
   have HK2 := hid hk2
   clear hp hs hz' hfree hb2 hh2 hk2 HC HD2 HD3 HB HBK
   go_wp2_with fail
   go_loopw [6] (fun i wq => ∃ j : Nat, i = .int .i64 ((j : Int) + 1) ∧ j ≤ k ∧ Hid (Below w2.heap.size w2 wq) ∧ Hid (∀ i (h : i + 1 < d'.size), i < j → begP (d'[i]'(by omega)).p d'[i + 1].p = false)) (fun i _ => k - (intOf i).toNat)
   case atStart => exact ⟨0, rfl, by omega, hid (Below.refl _ _), hid fun j _ h => absurd h (by omega)⟩
   case round =>
    obtain ⟨j, rfl, hj, HBq, HJ⟩ := hrel
    by_cases hlt : j + 1 < k
    ·have d2 : decide ((j : Int) + 1 < (k : Int)) = true := decide_eq_true (by omega)
     have hj1 : j < d'.size := by have := HDN.out; omega
     have hj2 : j + 1 < d'.size := by have := HDN.out; omega
     have c1 := (HH2.out j hj1).1
     have c2 := (HH2.out (j + 1) hj2).1
     rw [Nat.zero_add, getElem!_pos d' j hj1] at c1
     rw [Nat.zero_add, getElem!_pos d' (j + 1) hj2] at c2
     have t1 := (HBq.out.cell (p := ⟨w.heap.size, j, none⟩) HK2.out).trans c1
     have t2 := (HBq.out.cell (p := ⟨w.heap.size, j + 1, none⟩) HK2.out).trans c2
     obtain ⟨x, hx⟩ : ∃ x, x = d'[j] := ⟨_, rfl⟩
     obtain ⟨y, hy⟩ : ∃ y, y = d'[j + 1] := ⟨_, rfl⟩
     rw [← hx] at t1
     rw [← hy] at t2
     unfold encP at t1 t2
     have hBw : Below w.heap.size w wr.drew := (HB2.out.trans (HBq.out.mono HB2.out.size)).drew
     have HG := hid (begins_any x.A y.A x.c y.c x.p y.p wr.drew S S (x.at'.keep fun b hb => hBw.block b (HS.out b hb)) (y.at'.keep fun b hb => hBw.block b (HS.out b hb)) (fun b hb => Nat.lt_of_lt_of_le (HS.out b hb) hBw.size) (fun b hb => Nat.lt_of_lt_of_le (HS.out b hb) hBw.size) (by have := x.len; omega) (by have := y.len; omega) y.cap)
     obtain ⟨nx, hnx⟩ : ∃ n, n = x.p.length := ⟨_, rfl⟩
     obtain ⟨ny, hny⟩ : ∃ n, n = y.p.length := ⟨_, rfl⟩
     obtain ⟨b1, hb1⟩ : ∃ b, b = begP x.p y.p := ⟨_, rfl⟩
     obtain ⟨xA, hxA⟩ : ∃ n, n = x.A := ⟨_, rfl⟩
     obtain ⟨yA, hyA⟩ : ∃ n, n = y.A := ⟨_, rfl⟩
     obtain ⟨xc, hxc⟩ : ∃ n, n = x.c := ⟨_, rfl⟩
     obtain ⟨yc, hyc⟩ : ∃ n, n = y.c := ⟨_, rfl⟩
     rw [← hnx, ← hxA, ← hxc] at HG t1
     rw [← hny, ← hyA, ← hyc] at HG t2
     rw [← hb1] at HG
     have HBG : Hid (begP (d'[j]'hj1).p d'[j + 1].p = b1) := hid (by rw [hb1, hx, hy])
     have hp2 : w.heap.size < wr.heap.size := Nat.lt_of_lt_of_le HK2.out HBq.out.size
     clear c1 c2 hx hy hBw hnx hny hb1 hxA hyA hxc hyc
     go_wp2_with fail
     refine wp_region_mix [0, 1, 2, 3, 4, 5, 6, 7, 8, 9] (by kernel_rfl) (by kernel_rfl) (fun _ d _ _ _ h => by cases d <;> exact h) ?_
     simp only [atR]
     have u1 := cell_later (B := wr.heap.size) (w := wr.drew) t1 hp2
     have u2 := cell_later (B := wr.heap.size) (w := wr.drew) t2 hp2
     first | refine mix_pure ?_ | refine mix_pureB ?_
     simp only [List.takeWhile, List.dropWhile, isPure, Nat.reduceBNe]
     repeat (go_big_quiet_step (fail))
     refine wpQuiet_nil ?_
     clear u1 u2
     first | refine mix_call rfl (fun K hK => ?_) | refine mix_callB rfl (fun K hK => ?_)
     go_simp
     refine (HG.out).mono ?_
     rintro e w8 ⟨rfl, hb⟩
     refine hK _ _ hb ?_
     clear hK K
     try simp only [Act.put]
     have HB8 : Hid (Below w2.heap.size w2 w8) := hid (HBq.out.trans ((show Below wr.heap.size wr w8 from (Below.refl _ _).drew.trans hb).mono HBq.out.size))
     clear hb HG t1 t2 hp2
     first | refine mix_pure ?_ | refine mix_pureB ?_
     simp only [List.takeWhile, List.dropWhile, isPure, Nat.reduceBNe]
     repeat (go_big_quiet_step (fail))
     refine wpQuiet_nil ?_
     unfold wpMix
     cases b1
     ·go_wp2_with fail
      go_roundw
      case rel => exact ⟨j + 1, by go_num, by omega, HB8, hid fun i h hij => by
       by_cases e : i = j
       ·subst e; exact HBG.out
       ·exact HJ.out i h (by omega)⟩
      case measure => simp [intOf]; omega
     ·have HE : Hid (freeD l = false) := hid (by
       cases hf : freeD l
       ·rfl
       ·have := HFR.out.1 hf j hj2
        rw [HBG.out] at this
        cases this)
      go_wp2_with fail
      go_ret
      exact ⟨by rw [HR.out, HE.out]; rfl, HB2.out.trans (HB8.out.mono HB2.out.size)⟩
    ·have d2 : decide ((j : Int) + 1 < (k : Int)) = false := decide_eq_false (by omega)
     have HE : Hid (freeD l = true) := hid (HFR.out.2 fun i h => HJ.out i h (by have := HDN.out; omega))
     go_wp2_with fail
     go_ret
     exact ⟨by rw [HR.out, HE.out]; rfl, HB2.out.trans (HBq.out.mono HB2.out.size)⟩
end Go.Proofs.YtlipkmdjpligeaaGreat

/- The code of a list of changes: the program's Put. -/
namespace Go.Proofs.YtlipkmdjpligeaaGreat
open Lib (hid)
set_option linter.unusedVariables false
set_option linter.unusedSimpArgs false
open Go.RowKit
set_option maxRecDepth 100000
set_option maxHeartbeats 4000000 in
theorem dlcheck_w (S : Nat → Prop) (A : Option Addr) (c : Nat) (l : List DelT) (w : World) (hS : ∀ b, S b → b < w.heap.size) (h : DelsL w S A l) (hn : l.length ≤ 140737488351232) (hd : l.length ≤ 64 → SmallD l) :
  Calls Tryz.prog 166 #[.slice A l.length c] w fun e w' => e = .returned (.int .i64 (checkD l)) ∧ Below w.heap.size w w' := by
 by_cases h64 : 64 < l.length
 ·have hr : checkD l = 3 := by unfold checkD; rw [if_pos h64]
  rw [hr]
  have d1 : decide ((l.length : Int) > 64) = true := decide_eq_true (by omega)
  clear h hS hd hr
  go_enter Tryz.func166, Tryz.ntmps166
  go_wp2_with fail
  go_ret
  exact ⟨rfl, Below.refl _ _⟩
 ·exact dlcheck_any S A c l w hS h hn (hd (by omega))
set_option maxHeartbeats 4000000 in
theorem dltouch1_any (S : Nat → Prop) (d : DelT) (cs : Array Value) (vp : Value) (p : List ByteArray) (g : Nat) (w : World) (hS : ∀ b, S b → b < w.heap.size) (h : DelL w S d cs) (hgl : g < w.heap.size) (hg : w.cell? ⟨g, 0, none⟩ = some vp) (hq : SlP w S vp p) :
  Calls Tryz.prog 134 #[.agg cs, .pointer (some ⟨g, 0, none⟩)] w fun e w' => e = .returned (.bool (meetP d.path p)) ∧ Below w.heap.size w w' := by
 obtain ⟨PA, pc, VA, vc, VA', vc', rfl, hv, hp, hpc, hpn, hk, hn, hpl⟩ := id h
 obtain ⟨w1, hw1⟩ : ∃ W, W = w.alloc (.cells #[.int .i64 d.kind, .slice PA d.path.length pc, .int .i64 d.val.kind, .int .i64 d.val.num, .string d.val.text, .slice VA d.val.items.length vc, .slice VA' d.val.names.length vc', .int .i64 d.num] 65) := ⟨_, rfl⟩
 have hbk : w1.heap[w.heap.size]? = some (.cells #[.int .i64 d.kind, .slice PA d.path.length pc, .int .i64 d.val.kind, .int .i64 d.val.num, .string d.val.text, .slice VA d.val.items.length vc, .slice VA' d.val.names.length vc', .int .i64 d.num] 65 (0, 0)) := by rw [hw1]; exact heap_alloc_new w _
 have hb1 : Below w.heap.size w w1 := by rw [hw1]; exact (Below.refl _ _).alloc (Nat.le_refl _) _
 have y0 := Go.Joins.cell_of_block hbk 0
 have y1 := Go.Joins.cell_of_block hbk 1
 have y2 := Go.Joins.cell_of_block hbk 2
 have y3 := Go.Joins.cell_of_block hbk 3
 have y4 := Go.Joins.cell_of_block hbk 4
 have y5 := Go.Joins.cell_of_block hbk 5
 have y6 := Go.Joins.cell_of_block hbk 6
 have y7 := Go.Joins.cell_of_block hbk 7
 obtain ⟨B, bc, rfl, q1, q2, q3⟩ := hq
 have gc := (hb1.cell (p := ⟨g, 0, none⟩) hgl).trans hg
 rw [hw1] at gc
 have HM := hid (meet_any PA B pc bc d.path p w1 S S (hp.keep fun b hb => hb1.block b (hS b hb)) (q1.keep fun b hb => hb1.block b (hS b hb)) (fun b hb => Nat.lt_of_lt_of_le (hS b hb) hb1.size) (fun b hb => Nat.lt_of_lt_of_le (hS b hb) hb1.size) (by omega) (by omega) hpc q2)
 have HB1 := hid hb1
 clear hbk hb1 h hv hp hpc hpn hk hn hpl hS q1 q2 q3 hgl hg
 go_enter Tryz.func134, Tryz.ntmps134
 go_wp2_with fail
 rw [← hw1]
 refine HM.out.mono ?_
 rintro e w2 ⟨rfl, hb2⟩
 have HB2 := hid (HB1.out.trans (hb2.mono HB1.out.size))
 clear hb2
 clear HM
 go_wp2_with fail
 go_ret
 exact ⟨rfl, HB2.out⟩
set_option maxHeartbeats 4000000 in
theorem idxT_any (S : Nat → Prop) (A : Option Addr) (c : Nat) (l : List DelT) (vp : Value) (p : List ByteArray) (g : Nat) (w : World) (hS : ∀ b, S b → b < w.heap.size) (h : DelsL w S A l) (hn : l.length ≤ 140737488351232) (hgl : g < w.heap.size) (hg : w.cell? ⟨g, 0, none⟩ = some vp) (hp : SlP w S vp p) :
  Calls Tryz.prog 169 #[.slice A l.length c, .func (.func 134) #[] #[.pointer (some ⟨g, 0, none⟩)]] w fun e w' => (∃ i : Int, e = .returned (.int .i64 i) ∧ decide (0 ≤ i) = (l.any fun d => meetP (d).path p)) ∧ Below w.heap.size w w' := by
 have H := hid h
 have HS := hid hS
 have HG := hid (And.intro hgl (And.intro hg hp))
 have HN := hid hn
 clear h hS hgl hg hp
 go_enter Tryz.func169, Tryz.ntmps169
 go_wp2_with fail
 go_loopw [8] (fun i wr => ∃ k : Nat, i = .int .i64 k ∧ k ≤ l.length ∧ Hid (Below w.heap.size w wr) ∧ Hid (∀ j (h : j < l.length), j < k → meetP (l[j]).path p = false)) (fun i _ => l.length - (intOf i).toNat)
 case atStart => exact ⟨0, rfl, by omega, hid (Below.refl _ _), hid fun j _ h => absurd h (by omega)⟩
 case round =>
  obtain ⟨k, rfl, hk, HB, HJ⟩ := hrel
  by_cases hlt : k < l.length
  ·have hS2 : ∀ b, S b → b < wr.heap.size := fun b hb => Nat.lt_of_lt_of_le (HS.out b hb) HB.out.size
   obtain ⟨bp, off, PA, pc, VA, vc, VA', vc', rfl, hpS, ho, x0, x1, x2, x3, x4, x5, x6, x7⟩ := (H.out.below HS.out HB.out).cells k hlt
   have HC := hid (dltouch1_any S l[k] _ vp p g wr hS2 ho (Nat.lt_of_lt_of_le HG.out.1 HB.out.size) ((HB.out.cell (p := ⟨g, 0, none⟩) HG.out.1).trans HG.out.2.1) (HG.out.2.2.keep fun b hb => HB.out.block b (HS.out b hb)))
   clear ho hS2 hpS
   go_wp2_with fail
   refine HC.out.mono ?_
   rintro e u ⟨rfl, hb⟩
   have HB2 := hid (HB.out.trans (hb.mono HB.out.size))
   clear hb HC x0 x1 x2 x3 x4 x5 x6 x7
   cases hm : meetP (l[k]).path p
   ·have HM := hid hm
    clear hm
    go_wp2_with fail
    go_roundw
    case rel => exact ⟨k + 1, by go_num, by omega, HB2, hid fun j h hjk => by
     by_cases e : j = k
     ·subst e; exact HM.out
     ·exact HJ.out j h (by omega)⟩
    case measure => simp [intOf]; omega
   ·have HM := hid hm
    clear hm
    go_wp2_with fail
    go_ret
    exact ⟨⟨k, rfl, by rw [List.any_eq_true.2 ⟨l[k], List.getElem_mem hlt, HM.out⟩]; simp⟩, HB2.out⟩
  ·go_wp2_with fail
   go_ret
   refine ⟨⟨-1, rfl, ?_⟩, HB.out⟩
   rw [show (l.any fun d => meetP (d).path p) = false from List.any_eq_false.2 fun x hx => by
    obtain ⟨j, hj, rfl⟩ := List.mem_iff_getElem.1 hx
    simp [HJ.out j hj (by omega)]]
   rfl
theorem contT_any (S : Nat → Prop) (A : Option Addr) (c : Nat) (l : List DelT) (vp : Value) (p : List ByteArray) (g : Nat) (w : World) (hS : ∀ b, S b → b < w.heap.size) (h : DelsL w S A l) (hn : l.length ≤ 140737488351232) (hgl : g < w.heap.size) (hg : w.cell? ⟨g, 0, none⟩ = some vp) (hp : SlP w S vp p) :
  Calls Tryz.prog 133 #[.slice A l.length c, .func (.func 134) #[] #[.pointer (some ⟨g, 0, none⟩)]] w fun e w' => e = .returned (.bool (l.any fun d => meetP (d).path p)) ∧ Below w.heap.size w w' := by
 have HC := hid (idxT_any S A c l vp p g w hS h hn hgl hg hp)
 clear h hS hgl hg hp
 go_enter Tryz.func133, Tryz.ntmps133
 go_wp2_with fail
 refine HC.out.mono ?_
 rintro e u ⟨⟨i, rfl, hi⟩, hb⟩
 have HI := hid hi
 have HB := hid hb
 clear hi hb HC
 go_wp2_with fail
 go_ret
 exact ⟨ret_bool HI.out, HB.out⟩
set_option maxHeartbeats 4000000 in
theorem dltouch_any (S : Nat → Prop) (A : Option Addr) (c : Nat) (l : List DelT) (B : Option Addr) (bc : Nat) (p : List ByteArray) (w : World) (hS : ∀ b, S b → b < w.heap.size) (h : DelsL w S A l) (hn : l.length ≤ 140737488351232) (hp : StrsAt w S B p) (hpc : p.length ≤ bc) (hpl : p.length ≤ 8796093021952) :
  Calls Tryz.prog 83 #[.slice A l.length c, .slice B p.length bc] w fun e w' => e = .returned (.bool (touchD l p)) ∧ Below w.heap.size w w' := by
 obtain ⟨w1, hw1⟩ : ∃ W, W = w.alloc (.cells #[.slice B p.length bc] 22) := ⟨_, rfl⟩
 have hb1 : Below w.heap.size w w1 := by rw [hw1]; exact (Below.refl _ _).alloc (Nat.le_refl _) _
 have hbk : w1.heap[w.heap.size]? = some (.cells #[.slice B p.length bc] 22 (0, 0)) := by rw [hw1]; exact heap_alloc_new w _
 have hz : w1.heap.size = w.heap.size + 1 := by rw [hw1]; simp
 have HC := hid (contT_any S A c l (.slice B p.length bc) p w.heap.size w1 (fun b hb => by have := hS b hb; omega) (h.below hS hb1) hn (by omega) (Go.Joins.cell_of_block hbk 0) ⟨B, bc, rfl, hp.keep fun b hb => hb1.block b (hS b hb), hpc, hpl⟩)
 have HB1 := hid hb1
 clear h hS hp hb1 hbk hz hpc
 go_enter Tryz.func83, Tryz.ntmps83
 go_wp2_with fail
 rw [← hw1]
 refine HC.out.mono ?_
 rintro e u ⟨rfl, hb⟩
 have HB := hid (HB1.out.trans (hb.mono HB1.out.size))
 clear hb HC
 go_wp2_with fail
 go_ret
 exact ⟨rfl, HB.out⟩
def numE (e : EntT) : Bool := (if e.kind = 1 then decide (e.session = 0) && decide (e.number = 0) else true) && ((decide (0 ≤ e.term) && decide (e.term ≤ 1099511627776)) && (decide (0 ≤ e.session) && decide (e.session ≤ 255)) && (decide (0 ≤ e.number) && decide (e.number ≤ 1099511627776)))
set_option maxHeartbeats 4000000 in
theorem enumbered_any (e : EntT) (IA : Option Addr) (ic : Nat) (IA' : Option Addr) (ic' : Nat) (DA : Option Addr) (dc : Nat) (DA' : Option Addr) (dc' : Nat) (LA : Option Addr) (lc : Nat) (w : World) :
  Calls Tryz.prog 79 #[.agg #[.int .i64 e.term, .int .i64 e.kind, .string e.coll, .string e.to, .int .i64 e.id.kind, .int .i64 e.id.num, .string e.id.text, .slice IA e.id.items.length ic, .slice IA' e.id.names.length ic', .int .i64 e.doc.kind, .int .i64 e.doc.num, .string e.doc.text, .slice DA e.doc.items.length dc, .slice DA' e.doc.names.length dc', .slice LA e.dels.length lc, .int .i64 e.session, .int .i64 e.number]] w fun r w' => r = .returned (.bool (numE e)) ∧ Below w.heap.size w w' := by
 obtain ⟨r, hr⟩ : ∃ r, r = numE e := ⟨_, rfl⟩
 have HR := hid hr
 rw [← hr]
 clear hr
 have W1 := hid (fun W => ewithin_any e.term 1099511627776 W)
 have W2 := hid (fun W => ewithin_any e.session 255 W)
 have W3 := hid (fun W => ewithin_any e.number 1099511627776 W)
 by_cases hk : e.kind = 1 ∧ ¬ (e.session = 0 ∧ e.number = 0)
 ·have HE : Hid (r = false) := hid (by
   rw [HR.out]; unfold numE
   rw [if_pos hk.1]
   have h2 := hk.2
   by_cases h3 : e.session = 0
   ·rw [decide_eq_false (fun h => h2 ⟨h3, h⟩), Bool.and_false, Bool.false_and]
   ·rw [decide_eq_false h3, Bool.false_and, Bool.false_and])
  obtain ⟨k1, k2⟩ := hk
  by_cases h3 : e.session = 0
  ·have h4 : ¬ e.number = 0 := fun h => k2 ⟨h3, h⟩
   clear k2
   go_enter Tryz.func79, Tryz.ntmps79
   go_wp2_with fail
   go_ret
   exact ⟨by rw [HE.out]; rfl, below_box _⟩
  ·clear k2
   go_enter Tryz.func79, Tryz.ntmps79
   go_wp2_with fail
   go_ret
   exact ⟨by rw [HE.out]; rfl, below_box _⟩
 ·have HE : Hid (r = ((decide (0 ≤ e.term) && decide (e.term ≤ 1099511627776)) && (decide (0 ≤ e.session) && decide (e.session ≤ 255)) && (decide (0 ≤ e.number) && decide (e.number ≤ 1099511627776)))) := hid (by
   rw [HR.out]; unfold numE
   by_cases h1 : e.kind = 1
   ·have h2 : e.session = 0 ∧ e.number = 0 := Classical.byContradiction fun h => hk ⟨h1, h⟩
    rw [if_pos h1, decide_eq_true h2.1, decide_eq_true h2.2]; rfl
   ·rw [if_neg h1]; rfl)
  obtain ⟨b1, hb1⟩ : ∃ b, b = (decide (0 ≤ e.term) && decide (e.term ≤ 1099511627776)) := ⟨_, rfl⟩
  obtain ⟨b2, hb2⟩ : ∃ b, b = (decide (0 ≤ e.session) && decide (e.session ≤ 255)) := ⟨_, rfl⟩
  obtain ⟨b3, hb3⟩ : ∃ b, b = (decide (0 ≤ e.number) && decide (e.number ≤ 1099511627776)) := ⟨_, rfl⟩
  rw [← hb1] at HE W1
  rw [← hb2] at HE W2
  rw [← hb3] at HE W3
  clear hb1 hb2 hb3
  have hcase : e.kind = 1 ∧ e.session = 0 ∧ e.number = 0 ∨ ¬ e.kind = 1 := by
   by_cases h1 : e.kind = 1
   ·exact .inl ⟨h1, Classical.byContradiction fun h => hk ⟨h1, h⟩⟩
   ·exact .inr h1
  clear hk
  rcases hcase with ⟨h1, h2, h3⟩ | h1
  ·rw [h2] at W2
   rw [h3] at W3
   go_enter Tryz.func79, Tryz.ntmps79
   go_wp2_with fail
   refine (W1.out _).mono ?_
   rintro e w1 ⟨rfl, hw⟩
   subst hw
   cases b1
   ·go_wp2_with fail
    go_ret
    exact ⟨by rw [HE.out]; rfl, below_box _⟩
   go_wp2_with fail
   refine (W2.out _).mono ?_
   rintro e w1 ⟨rfl, hw⟩
   subst hw
   cases b2
   ·go_wp2_with fail
    go_ret
    exact ⟨by rw [HE.out]; rfl, below_box _⟩
   go_wp2_with fail
   refine (W3.out _).mono ?_
   rintro e w1 ⟨rfl, hw⟩
   subst hw
   go_wp2_with fail
   go_ret
   exact ⟨by rw [HE.out]; rfl, below_box _⟩
  ·skip
   go_enter Tryz.func79, Tryz.ntmps79
   go_wp2_with fail
   refine (W1.out _).mono ?_
   rintro e w1 ⟨rfl, hw⟩
   subst hw
   cases b1
   ·go_wp2_with fail
    go_ret
    exact ⟨by rw [HE.out]; rfl, below_box _⟩
   go_wp2_with fail
   refine (W2.out _).mono ?_
   rintro e w1 ⟨rfl, hw⟩
   subst hw
   cases b2
   ·go_wp2_with fail
    go_ret
    exact ⟨by rw [HE.out]; rfl, below_box _⟩
   go_wp2_with fail
   refine (W3.out _).mono ?_
   rintro e w1 ⟨rfl, hw⟩
   subst hw
   go_wp2_with fail
   go_ret
   exact ⟨by rw [HE.out]; rfl, below_box _⟩
set_option maxHeartbeats 4000000 in
theorem emaydo_any (S : Nat → Prop) (A : Option Addr) (c : Nat) (l : List DelT) (w : World) (hS : ∀ b, S b → b < w.heap.size) (h : DelsL w S A l) (hn : l.length ≤ 1172812402961) (hd : l.length ≤ 64 → SmallD l ∧ SmallZD l) :
  Calls Tryz.prog 129 #[.slice A l.length c] w fun e w' => e = .returned (.bool (mayDo l)) ∧ Below w.heap.size w w' := by
 have HL := hid h
 have HS := hid hS
 have HN := hid hn
 have HC := hid (dlcheck_w S A c l w hS h (by omega) (fun h => (hd h).1))
 obtain ⟨r, hr⟩ : ∃ r, r = mayDo l := ⟨_, rfl⟩
 have HR : Hid (r = (decide (checkD l = 0) && freeD l && !touchD l [idN])) := hid hr
 rw [← hr]
 obtain ⟨x, hx⟩ : ∃ x, x = checkD l := ⟨_, rfl⟩
 have HX := hid hx
 rw [← hx] at HC HR
 clear hr hx h hS hn hd
 go_enter Tryz.func129, Tryz.ntmps129
 go_wp2_with fail
 refine HC.out.mono ?_
 rintro e w1 ⟨rfl, hb⟩
 have HB := hid hb
 clear hb HC
 by_cases h0 : x = 0
 ·subst h0
  have h64 : l.length ≤ 64 := (checkD_zero HX.out.symm).1
  have HF := hid (dlfree_any S A c l w1 (fun b hb => Nat.lt_of_lt_of_le (HS.out b hb) HB.out.size) (HL.out.below HS.out HB.out) (by omega))
  obtain ⟨f, hf⟩ : ∃ f, f = freeD l := ⟨_, rfl⟩
  rw [← hf] at HF HR
  clear hf
  go_wp2_with fail
  refine HF.out.mono ?_
  rintro e w2 ⟨rfl, hb⟩
  have HB2 := hid (HB.out.trans (hb.mono HB.out.size))
  clear hb HF
  cases f
  ·go_wp2_with fail
   go_ret
   exact ⟨by rw [HR.out]; rfl, HB2.out⟩
  ·obtain ⟨w3, hw3⟩ : ∃ W, W = w2.alloc (.cells #[.string idN] 9) := ⟨_, rfl⟩
   have hb3 : Below w2.heap.size w2 w3 := by rw [hw3]; exact below_box _
   have hk3 : w3.heap[w2.heap.size]? = some (.cells #[.string idN] 9 (0, 0)) := by rw [hw3]; exact heap_alloc_new _ _
   have hz3 : w3.heap.size = w2.heap.size + 1 := by rw [hw3]; simp
   have HB3 := hid (HB2.out.trans (hb3.mono HB2.out.size))
   have hst : StrsAt w3 (fun b => S b ∨ b = w2.heap.size) (some ⟨w2.heap.size, 0, none⟩) [idN] := fun _ => ⟨_, 0, rfl, .inr rfl, fun i hi => by
    obtain rfl : i = 0 := by simpa using hi
    exact ⟨Go.Joins.cell_of_block hk3 0, show idN.size ≤ 140737488351232 by decide⟩⟩
   have HT := hid (dltouch_any (fun b => S b ∨ b = w2.heap.size) A c l (some ⟨w2.heap.size, 0, none⟩) 1 [idN] w3 (fun b hb => by
    rcases hb with hb | rfl
    ·exact Nat.lt_of_lt_of_le (HS.out b hb) HB3.out.size
    ·omega) ((HL.out.below HS.out HB3.out).imp fun b hb => .inl hb) (by omega) hst (by simp) (by simp))
   clear hb3 hk3 hst h64
   go_wp2_with fail
   rw [show (⟨#[95, 105, 100]⟩ : ByteArray) = idN from rfl, ← hw3]
   refine HT.out.mono ?_
   rintro e w4 ⟨rfl, hb⟩
   have HB4 := hid (HB3.out.trans (hb.mono HB3.out.size))
   clear hb HT hw3
   go_wp2_with fail
   go_ret
   exact ⟨by rw [HR.out]; rfl, HB4.out⟩
 ·have HE : Hid (r = false) := hid (by rw [HR.out, decide_eq_false h0]; rfl)
  have h1 : (x == 0) = false := beq_false_of_ne h0
  go_wp2_with fail
  go_ret
  exact ⟨by rw [HE.out]; rfl, HB.out⟩
theorem depthL_mem : ∀ {l : List VT} {x : VT}, x ∈ l → depthT x ≤ depthL l
 | a :: r, x, h => by
  unfold depthL
  rcases List.mem_cons.1 h with rfl | h
  ·omega
  ·have := depthL_mem h; omega
theorem depth_at {t : VT} {n : Nat} (h : n < t.items.length) : depthT t.items[n] ≤ depthT t := by
 obtain ⟨k, i, s, l, ns⟩ := t
 have := depthL_mem (List.getElem_mem (l := l) h)
 rw [depthT_mk]
 exact Nat.le_succ_of_le this
theorem held_place {v : VT} {n : Nat} (hc : mayT v = true) (hn : nmI 0 v.names idN = (n : Int)) : n < v.items.length ∧ ∀ (h : n < v.items.length), mayT v.items[n] = true := by
 have h1 := (nmI_lt (s := idN) (l := v.names) (k := 0)).2
 have hlt : n < v.names.length := by omega
 have hk : v.kind = 7 := Classical.byContradiction fun h => by
  have := fits_names0 ((mayT_iff v).1 hc).1 h
  rw [this] at hlt
  exact absurd hlt (by simp)
 have h2 : n < v.items.length := Nat.lt_of_lt_of_le hlt (may_nl hc hk)
 exact ⟨h2, fun h => may_item hc h⟩
set_option maxHeartbeats 8000000 in
theorem eholds_any (S : Nat → Prop) (v id : VT) (cv ci : Value) (w : World) (hS : ∀ b, S b → b < w.heap.size) (hv : LV w S v cv) (hi : LV w S id ci) (dv : depthT v ≤ 4611686018427387903) (di : depthT id ≤ 4611686018427387903) (hid : mayT id = true) :
  Calls Tryz.prog 128 #[cv, ci] w fun e w' => e = .returned (.bool (holdE v id)) ∧ Below w.heap.size w w' := by
 obtain ⟨A, ca, A', ca', B, cb, B', cb', rfl, rfl, lens, a7, a6, b7, b6, v1, v2, hb0⟩ := two_vars hS hv hi
 obtain ⟨w2, hw2⟩ : ∃ W, W = ((w.alloc (.cells #[.int .i64 v.kind, .int .i64 v.num, .string v.text, .slice A v.items.length ca, .slice A' v.names.length ca'] 27)).alloc (.cells #[.int .i64 id.kind, .int .i64 id.num, .string id.text, .slice B id.items.length cb, .slice B' id.names.length cb'] 27)) := ⟨_, rfl⟩
 rw [← hw2] at v1 v2 hb0
 have HX := Lib.hid (slindex_any A' ca' v.names idN w2 S (a6.keep fun b hb => hb0.block b (hS b hb)) lens.2.1)
 obtain ⟨r, hr⟩ : ∃ r, r = holdE v id := ⟨_, rfl⟩
 have HR := Lib.hid (hr.trans (hold_way v id))
 rw [← hr]
 have HB0 := Lib.hid hb0
 have H1 := Lib.hid v1
 have H2 := Lib.hid v2
 have HS2 : Hid (∀ b, S b → b < w2.heap.size) := Lib.hid fun b hb => Nat.lt_of_lt_of_le (hS b hb) hb0.size
 have HDI := Lib.hid (And.intro di hid)
 have HDV := Lib.hid dv
 have HAI := Lib.hid (a7.keep fun b hb => hb0.block b (hS b hb))
 have HSI := Lib.hid hS
 obtain ⟨i, hii⟩ : ∃ i, i = nmI 0 v.names idN := ⟨_, rfl⟩
 rw [← hii] at HX HR
 have HI := Lib.hid hii
 clear hr hb0 v1 v2 di hid dv a7 a6 b7 b6 hv hi hS lens hii
 go_enter Tryz.func128, Tryz.ntmps128
 go_wp2_with fail
 rw [show (⟨#[95, 105, 100]⟩ : ByteArray) = idN from rfl, ← hw2]
 refine HX.out.mono ?_
 rintro e u ⟨rfl, hw⟩
 subst hw
 clear HX hw2
 have z0 := cell_later (B := w2.heap.size) (w := w2.drew) (a := ⟨w.heap.size, 0, none⟩) H1.out.x.c0 H1.out.x.lt
 have z1 := cell_later (B := w2.heap.size) (w := w2.drew) (a := ⟨w.heap.size, 1, none⟩) H1.out.x.c1 H1.out.x.lt
 have z2 := cell_later (B := w2.heap.size) (w := w2.drew) (a := ⟨w.heap.size, 2, none⟩) H1.out.x.c2 H1.out.x.lt
 have z3 := cell_later (B := w2.heap.size) (w := w2.drew) (a := ⟨w.heap.size, 3, none⟩) H1.out.x.c3 H1.out.x.lt
 have z4 := cell_later (B := w2.heap.size) (w := w2.drew) (a := ⟨w.heap.size, 4, none⟩) H1.out.x.c4 H1.out.x.lt
 by_cases hi0 : 0 ≤ i
 ·have d0 : decide (0 ≤ i) = true := decide_eq_true hi0
  have HCK := Lib.hid (check_any S v _ w2.drew HS2.out (H1.out.v.keep (w := w2) (w' := w2.drew) fun _ _ => rfl) HDV.out)
  go_wp2_with fail
  refine wp_region_mix [0, 1, 2, 3, 4, 5, 6, 7, 8, 9, 10, 11, 12, 13, 14, 15, 16] (by kernel_rfl) (by kernel_rfl) (fun _ d _ _ _ h => by cases d <;> exact h) ?_
  simp only [atR]
  first | refine mix_pure ?_ | refine mix_pureB ?_
  simp only [List.takeWhile, List.dropWhile, isPure, Nat.reduceBNe]
  repeat (go_big_quiet_step (fail))
  refine wpQuiet_nil ?_
  clear z0 z1 z2 z3 z4
  first | refine mix_call rfl (fun K hK => ?_) | refine mix_callB rfl (fun K hK => ?_)
  go_simp
  refine (HCK.out).mono ?_
  rintro e w3 ⟨rfl, hb⟩
  refine hK _ _ hb ?_
  clear hK K
  try simp only [Act.put]
  replace hb : Below w2.heap.size w2 w3 := (Below.refl _ _).drew.trans hb
  have HB3 := Lib.hid (HB0.out.trans (hb.mono HB0.out.size))
  have H13 := Lib.hid (And.intro (hb.block w.heap.size H1.out.x.lt |>.trans H1.out.x) (hb.block (w.heap.size + 1) H2.out.x.lt |>.trans H2.out.x))
  have HV3 := Lib.hid (H2.out.v.keep fun b h => hb.block b (HS2.out b h))
  have HA3 := Lib.hid (HAI.out.keep fun b h => hb.block b (HS2.out b h))
  have HS3 : Hid (∀ b, S b → b < w3.heap.size) := Lib.hid fun b h => Nat.lt_of_lt_of_le (HS2.out b h) hb.size
  clear HCK hb
  obtain ⟨x, hx⟩ : ∃ x, x = checkT v := ⟨_, rfl⟩
  have HX := Lib.hid hx
  rw [← hx] at HR ⊢
  clear hx
  by_cases hx0 : x = 0
  ·subst hx0
   have hmay := check_may HX.out.symm
   obtain ⟨n, rfl⟩ : ∃ n : Nat, i = n := ⟨i.toNat, by omega⟩
   obtain ⟨hn, hmi⟩ := held_place hmay HI.out.symm
   obtain ⟨q, o, rfl, hSq, hl⟩ := HA3.out (by omega)
   obtain ⟨c0, c1, c2, c3, c4, hc0, hc1, hc2, hc3, hc4, hlv⟩ := hl.at n hn
   have hq := HS3.out q hSq
   obtain ⟨VA, vc, VA', vc', hvs, -⟩ := hlv.shape
   simp only [Value.agg.injEq, Array.mk.injEq, List.cons.injEq, and_true] at hvs
   obtain ⟨rfl, rfl, rfl, rfl, rfl⟩ := hvs
   have HE : Hid (r = (cmpV v.items[n] id == 0)) := Lib.hid (by
    rw [HR.out, d0, Int.toNat_natCast, List.getElem?_eq_getElem hn]
    unfold cmpV
    rw [if_pos ⟨hmi hn, HDI.out.2⟩]
    exact show (decide (0 = (0 : Int)) && decide (cmpT v.items[n] id = 0)) = _ by rw [decide_eq_true rfl, Bool.true_and]; rfl)
   have hdp : depthT v.items[n] ≤ 4611686018427387903 := Nat.le_trans (depth_at hn) HDV.out
   have HSA := Lib.hid (same_any S v.items[n] id _ _ w3 HS3.out hlv HV3.out hdp HDI.out.1)
   have z3 := cell_later (B := w3.heap.size) (w := w3) (a := ⟨w.heap.size, 3, none⟩) (Go.Joins.cell_of_block H13.out.1 3) (Array.getElem?_eq_some_iff.1 H13.out.1).1
   have y0 := cell_later (B := w3.heap.size) (w := w3) (a := ⟨w.heap.size + 1, 0, none⟩) (Go.Joins.cell_of_block H13.out.2 0) (Array.getElem?_eq_some_iff.1 H13.out.2).1
   have y1 := cell_later (B := w3.heap.size) (w := w3) (a := ⟨w.heap.size + 1, 1, none⟩) (Go.Joins.cell_of_block H13.out.2 1) (Array.getElem?_eq_some_iff.1 H13.out.2).1
   have y2 := cell_later (B := w3.heap.size) (w := w3) (a := ⟨w.heap.size + 1, 2, none⟩) (Go.Joins.cell_of_block H13.out.2 2) (Array.getElem?_eq_some_iff.1 H13.out.2).1
   have y3 := cell_later (B := w3.heap.size) (w := w3) (a := ⟨w.heap.size + 1, 3, none⟩) (Go.Joins.cell_of_block H13.out.2 3) (Array.getElem?_eq_some_iff.1 H13.out.2).1
   have y4 := cell_later (B := w3.heap.size) (w := w3) (a := ⟨w.heap.size + 1, 4, none⟩) (Go.Joins.cell_of_block H13.out.2 4) (Array.getElem?_eq_some_iff.1 H13.out.2).1
   have x0 := cell_later (B := w3.heap.size) (w := w3) (a := ⟨q, o + n * 5, none⟩) hc0 hq
   have x1 := cell_later (B := w3.heap.size) (w := w3) (a := ⟨q, o + n * 5 + 1, none⟩) hc1 hq
   have x2 := cell_later (B := w3.heap.size) (w := w3) (a := ⟨q, o + n * 5 + 2, none⟩) hc2 hq
   have x3 := cell_later (B := w3.heap.size) (w := w3) (a := ⟨q, o + n * 5 + 3, none⟩) hc3 hq
   have x4 := cell_later (B := w3.heap.size) (w := w3) (a := ⟨q, o + n * 5 + 4, none⟩) hc4 hq
   generalize cmpV v.items[n] id = C at *
   clear hc0 hc1 hc2 hc3 hc4 hlv hmi hl hmay hq hdp
   first | refine mix_pure ?_ | refine mix_pureB ?_
   simp only [List.takeWhile, List.dropWhile, isPure, Nat.reduceBNe]
   repeat (go_big_quiet_step (fail))
   refine wpQuiet_nil ?_
   clear z3 y0 y1 y2 y3 y4 x0 x1 x2 x3 x4
   first | refine mix_call rfl (fun K hK => ?_) | refine mix_callB rfl (fun K hK => ?_)
   go_simp
   refine (HSA.out).mono ?_
   rintro e w4 ⟨rfl, hb⟩
   refine hK _ _ hb ?_
   clear hK K
   try simp only [Act.put]
   have HB4 := Lib.hid (HB3.out.trans (hb.mono HB3.out.size))
   clear hb
   first | refine mix_pure ?_ | refine mix_pureB ?_
   simp only [List.takeWhile, List.dropWhile, isPure, Nat.reduceBNe]
   repeat (go_big_quiet_step (fail))
   refine wpQuiet_nil ?_
   unfold wpMix
   go_wp2_with fail
   go_ret
   exact ⟨by rw [HE.out]; rfl, HB4.out⟩
  ·have hx1 : (x == 0) = false := beq_false_of_ne hx0
   have HE : Hid (r = false) := Lib.hid (by rw [HR.out, decide_eq_false hx0, Bool.and_false]; rfl)
   clear hx0
   first | refine mix_pure ?_ | refine mix_pureB ?_
   simp only [List.takeWhile, List.dropWhile, isPure, Nat.reduceBNe]
   repeat (go_big_quiet_step (fail))
   refine wpQuiet_nil ?_
   first | refine mix_call rfl (fun K hK => ?_) | refine mix_callB rfl (fun K hK => ?_)
   go_simp
   refine hK _ _ (Below.refl _ _) ?_
   clear hK K
   try simp only [Act.put]
   first | refine mix_pure ?_ | refine mix_pureB ?_
   simp only [List.takeWhile, List.dropWhile, isPure, Nat.reduceBNe]
   repeat (go_big_quiet_step (fail))
   refine wpQuiet_nil ?_
   unfold wpMix
   go_wp2_with fail
   go_ret
   exact ⟨by rw [HE.out]; rfl, HB3.out⟩
 ·have d0 : decide (0 ≤ i) = false := decide_eq_false hi0
  have HE : Hid (r = false) := Lib.hid (by rw [HR.out, d0]; rfl)
  go_wp2_with fail
  refine wp_region_mix [0, 1, 2, 3, 4, 5, 6, 7, 8, 9, 10, 11, 12, 13, 14, 15, 16] (by kernel_rfl) (by kernel_rfl) (fun _ d _ _ _ h => by cases d <;> exact h) ?_
  simp only [atR]
  first | refine mix_pure ?_ | refine mix_pureB ?_
  simp only [List.takeWhile, List.dropWhile, isPure, Nat.reduceBNe]
  repeat (go_big_quiet_step (fail))
  refine wpQuiet_nil ?_
  first | refine mix_call rfl (fun K hK => ?_) | refine mix_callB rfl (fun K hK => ?_)
  go_simp
  refine hK _ _ (Below.refl _ _) ?_
  clear hK K
  try simp only [Act.put]
  first | refine mix_pure ?_ | refine mix_pureB ?_
  simp only [List.takeWhile, List.dropWhile, isPure, Nat.reduceBNe]
  repeat (go_big_quiet_step (fail))
  refine wpQuiet_nil ?_
  first | refine mix_call rfl (fun K hK => ?_) | refine mix_callB rfl (fun K hK => ?_)
  go_simp
  refine hK _ _ (Below.refl _ _) ?_
  clear hK K
  try simp only [Act.put]
  first | refine mix_pure ?_ | refine mix_pureB ?_
  simp only [List.takeWhile, List.dropWhile, isPure, Nat.reduceBNe]
  repeat (go_big_quiet_step (fail))
  refine wpQuiet_nil ?_
  unfold wpMix
  go_wp2_with fail
  go_ret
  exact ⟨by rw [HE.out]; rfl, HB0.out.drew⟩
end Go.Proofs.YtlipkmdjpligeaaGreat
