/- Whether a list of changes is free, by the program: its paths, sorted. -/
import Derived.Test.YtnamdlljdgllmaaGreatKDmD
import Derived.Test.YtnamdlljdgllmaaGreatKDlT
import Derived.Test.YtnamdlljdgllmaaGreatKLook
import Derived.Test.YtnamdlljdgllmaaGreatKRefM
import Derived.Test.YtnamdlljdgllmaaGreatKValM
import Derived.Test.YtnamdlljdgllmaaGreatKCodV
import Derived.Test.YtnamdlljdgllmaaGreatKPathI
import Derived.Test.YtnamdlljdgllmaaGreatKShelf
import Derived.Test.YtnamdlljdgllmaaGreatKTuE
import Derived.Test.YtnamdlljdgllmaaGreatKSpRa
import Derived.Test.YtnamdlljdgllmaaGreatKPathJ
import Derived.Test.YtnamdlljdgllmaaGreatKTtD
import Derived.Test.YtnamdlljdgllmaaGreatKTuA
import Derived.Deep.OwnRows
namespace Go.Proofs.YtnamdlljdgllmaaGreat
set_option linter.unusedVariables false
set_option linter.unusedSimpArgs false
open Go.RowKit Go.Sort
set_option maxRecDepth 100000
structure PathV (w : World) (S : Nat → Prop) where
  A : Option Addr
  c : Nat
  p : List ByteArray
  at' : StrsAt w S A p
  cap : p.length ≤ c
  len : p.length ≤ 8796093021952
instance (w : World) (S : Nat → Prop) : Inhabited (PathV w S) := ⟨⟨none, 0, [], fun h => absurd h (by simp), by simp, by simp⟩⟩
def encP {w : World} {S : Nat → Prop} (x : PathV w S) : Value := .slice x.A x.p.length x.c
def cfP {w : World} {S : Nat → Prop} (x y : PathV w S) : Int := cmpP x.p y.p
theorem encP_one {w : World} {S : Nat → Prop} : Go.Proofs.OneCell (encP (w := w) (S := S)) := fun _ => rfl
theorem cfP_swo {w : World} {S : Nat → Prop} : SWO (Go.Proofs.ltOf (cfP (w := w) (S := S))) where
  irrefl x := by
    have : cmpP x.p x.p = 0 := (cmpP_zero _ _).2 rfl
    simp [Go.Proofs.ltOf, cfP, this]
  trans x y z h1 h2 := by
    have k1 : cmpP x.p y.p < 0 := of_decide_eq_true h1
    have k2 : cmpP y.p z.p < 0 := of_decide_eq_true h2
    have h := cmpP_tri x.p y.p z.p (by omega) (by omega)
    exact decide_eq_true (show cmpP x.p z.p < 0 from h.2.2 (.inl k1))
  ntrans x y z h1 h2 := by
    have k1 : ¬ cmpP x.p y.p < 0 := of_decide_eq_false h1
    have k2 : ¬ cmpP y.p z.p < 0 := of_decide_eq_false h2
    have e1 := cmpP_neg x.p y.p
    have e2 := cmpP_neg y.p z.p
    have e3 := cmpP_neg x.p z.p
    have h := cmpP_tri z.p y.p x.p (by omega) (by omega)
    exact decide_eq_false (show ¬ cmpP x.p z.p < 0 by omega)
theorem sort_cell {α : Type} [Inhabited α] (enc : α → Value) (W : World) (blk off n : Nat) (dk : Array α) (os : Array Obj) (a : Addr) (h1 : a.block ≠ blk) (h2 : a.block < W.heap.size) : (Go.Proofs.sortWorld enc W blk off n dk os).cell? a = W.cell? a := by
  unfold Go.Proofs.sortWorld
  rw [cell?_grow _ _ _ (by rw [size_putRow]; exact h2), cell?_putRow_other enc _ blk off dk a (.inl h1)]
  rfl
theorem sort_block {α : Type} [Inhabited α] (enc : α → Value) (W : World) (blk off n : Nat) (dk : Array α) (os : Array Obj) (b : Nat) (h1 : b ≠ blk) (h2 : b < W.heap.size) : (Go.Proofs.sortWorld enc W blk off n dk os).heap[b]? = W.heap[b]? := by
  unfold Go.Proofs.sortWorld
  rw [heap_grow_old _ _ (by rw [size_putRow]; exact h2)]
  unfold putRow mapBlock
  show (W.heap.modify blk _)[b]? = _
  rw [Array.getElem?_modify, if_neg (fun h => h1 h.symm)]
theorem strs_cells {w W : World} {S : Nat → Prop} {A : Option Addr} {p : List ByteArray} (h : StrsAt w S A p) (hk : ∀ a : Addr, S a.block → W.cell? a = w.cell? a) : StrsAt W S A p := fun hp => by
  obtain ⟨b, off, hA, hb, hc⟩ := h hp
  exact ⟨b, off, hA, hb, fun i hi => ⟨(hk ⟨b, off + i, none⟩ hb).trans (hc i hi).1, (hc i hi).2⟩⟩
theorem cmp_lays {w W : World} {S : Nat → Prop} {g n : Nat} (hS : ∀ b, S b → b < w.heap.size) (hg : w.heap.size ≤ g) (hW : Below w.heap.size w W) : Go.Proofs.CmpLays1 Tryz.prog 44 #[] (encP (w := w) (S := S)) cfP g 0 n W :=
  Go.Proofs.CmpReads.lays fun m os dk _ x y => by
    have hk : ∀ a : Addr, S a.block → (Go.Proofs.sortWorld (encP (w := w) (S := S)) W g 0 m dk os).cell? a = w.cell? a := fun a ha => by
      have h1 := hS _ ha
      have h2 := hW.size
      rw [sort_cell _ _ _ _ _ _ _ a (by omega) (by omega)]
      exact hW.cell (p := a) h1
    exact (cmpSs_any x.A y.A x.c y.c x.p y.p _ S (strs_cells x.at' hk) (strs_cells y.at' hk) (by have := x.len; omega) (by have := y.len; omega)).mono fun e w' ⟨h1, h2⟩ => ⟨h1, 0, h2.symm⟩
theorem free_of_sorted {w : World} {S : Nat → Prop} {l : List DelT} {d d' : Array (PathV w S)} (hd : d.toList.map (·.p) = pathsD l) (hp : PermIn 0 d.size d d') (hs : SortedIn (Go.Proofs.ltOf cfP) 0 d.size d') :
    d'.size = l.length ∧ (freeD l = true ↔ ∀ i (h : i + 1 < d'.size), begP (d'[i]'(by omega)).p d'[i + 1].p = false) := by
  obtain ⟨h1, -, h3⟩ := hp
  have hdl : d.size = l.length := by
    have := congrArg List.length hd
    simpa [pathsD] using this
  have e1 : d.extract 0 d.size = d := by simp
  have e2 : d'.extract 0 d.size = d' := by rw [← h1]; simp
  rw [e1, e2] at h3
  have h4 : confL [] (d'.toList.map (·.p)) = confL [] (pathsD l) := by rw [← hd]; exact free_perm (h3.map _)
  refine ⟨by omega, ?_⟩
  have h5 := free_sorted (ps := d'.toList.map (·.p)) fun i j hi hj hij => by
    simp only [List.length_map, Array.length_toList] at hi hj
    have h6 := hs i j (Nat.zero_le _) hij (by omega)
    rw [getElem!_pos d' i hi, getElem!_pos d' j hj] at h6
    have k6 : ¬ cmpP d'[j].p d'[i].p < 0 := of_decide_eq_false h6
    simp only [List.getElem_map, Array.getElem_toList]
    rw [cmpP_neg]
    omega
  rw [h4] at h5
  unfold freeD
  rw [Bool.not_eq_true', h5]
  simp only [List.length_map, Array.length_toList, List.getElem_map, Array.getElem_toList]
open Lib (hid)
def RowP (w : World) (S : Nat → Prop) (wr : World) (n k : Nat) (l : List DelT) : Prop := ∃ cur : Array Value, wr.heap[w.heap.size]? = some (.cells cur 23 (0, 0)) ∧ cur.size = n ∧ ∀ j (h : j < l.length), j < k → ∃ x : PathV w S, x.p = l[j].path ∧ cur[j]? = some (encP x)
theorem Tryz.infoStrs' : (Tryz.prog.info? 23).map (fun i => (i.zero, i.size, i.bytes)) = some (some (.slice none 0 0), 1, 24) := by kernel_rfl
theorem RowP.call {w : World} {S : Nat → Prop} {wr W : World} {n k : Nat} {l : List DelT} (h : RowP w S wr n k l) (hb : Below wr.heap.size wr W) : RowP w S W n k l := by
  obtain ⟨cur, h1, h2⟩ := h
  exact ⟨cur, (hb.block _ (Array.getElem?_eq_some_iff.1 h1).1).trans h1, h2⟩
theorem RowP.push {w : World} {S : Nat → Prop} {wr : World} {n k : Nat} {l : List DelT} (h : RowP w S wr n k l) (hk : k < n) (x : PathV w S) (hkl : k < l.length) (hx : x.p = l[k].path) : RowP w S (wr.setCell ⟨w.heap.size, k, none⟩ (encP x)) n (k + 1) l := by
  obtain ⟨cur, h1, h2, h3⟩ := h
  refine ⟨cur.setIfInBounds k (encP x), Go.Joins.block_setCell (i := k) h1 _, by simpa using h2, fun j hj hjk => ?_⟩
  by_cases e : j = k
  · subst e
    exact ⟨x, hx, by rw [getElem?_set', if_pos rfl, if_pos (by omega)]⟩
  · obtain ⟨y, h4, h5⟩ := h3 j hj (by omega)
    exact ⟨y, h4, by rw [getElem?_set', if_neg (fun h => e h.symm)]; exact h5⟩
theorem RowP.all {w : World} {S : Nat → Prop} {wr : World} {n : Nat} {l : List DelT} (h : RowP w S wr n n l) (hn : n = l.length) : ∃ d : Array (PathV w S), d.size = n ∧ d.toList.map (·.p) = pathsD l ∧ Holds encP wr w.heap.size 0 d := by
  obtain ⟨cur, h1, h2, h3⟩ := h
  have hx : ∀ j : Fin n, ∃ x : PathV w S, x.p = (l[j.val]'(by omega)).path ∧ cur[j.val]? = some (encP x) := fun j => h3 j.val (by omega) j.isLt
  obtain ⟨f, hf⟩ := Classical.axiomOfChoice hx
  have hs : (Array.ofFn f).size = n := by simp
  refine ⟨Array.ofFn f, hs, ?_, fun j hj => ?_⟩
  · refine List.ext_getElem (by simp [pathsD, hn]) fun i hi hi' => ?_
    simp only [List.length_map, Array.length_toList, Array.size_ofFn] at hi
    simp only [List.getElem_map, Array.getElem_toList, Array.getElem_ofFn, pathsD]
    exact (hf ⟨i, hi⟩).1
  · rw [hs] at hj
    refine ⟨?_, Go.Joins.unfrozen_of_block h1 _⟩
    rw [Nat.zero_add, Go.Joins.cell_of_block h1 j, getElem!_pos _ j (by rw [hs]; exact hj), Array.getElem_ofFn]
    exact (hf ⟨j, hj⟩).2
theorem sort_below {w W : World} {α : Type} [Inhabited α] (enc : α → Value) (m : Nat) (dk : Array α) (os : Array Obj) (hW : Below w.heap.size w W) : Below w.heap.size w (Go.Proofs.sortWorld enc W w.heap.size 0 m dk os) :=
  hW.trans ⟨rfl, rfl, rfl, by unfold Go.Proofs.sortWorld grow; simp [size_putRow], fun b hb => sort_block enc W w.heap.size 0 m dk os b (by omega) (by have := hW.size; omega)⟩
set_option maxHeartbeats 16000000 in
theorem dlfree_any (S : Nat → Prop) (A : Option Addr) (c : Nat) (l : List DelT) (w : World) (hS : ∀ b, S b → b < w.heap.size) (h : DelsL w S A l) (hl : l.length ≤ 1099511627776) :
    Calls Tryz.prog 15 #[.slice A l.length c] w fun e w' => e = .returned (.bool (freeD l)) ∧ Below w.heap.size w w' := by
  obtain ⟨i0, hi, hz0, hz1, hz2⟩ := info_parts Tryz.infoStrs'
  have H := hid h
  have HS := hid hS
  obtain ⟨r, hr⟩ : ∃ r, r = freeD l := ⟨_, rfl⟩
  have HR := hid hr
  rw [← hr]
  obtain ⟨n, hn⟩ : ∃ n, n = l.length := ⟨_, rfl⟩
  have HN := hid hn
  rw [← hn] at hl ⊢
  clear h hS hr hn
  go_enter Tryz.func15, Tryz.ntmps15
  go_wp2_with (refine wpList_make_row _ rfl _ _ 63 rfl 23 i0 _ Tryz.underlying63 hi hz0 hz1 rfl .i64 .i64 n rfl rfl (by rw [hz2]; omega) (by omega) ?_)
  have hw1 : RowP w S (w.alloc (.cells (madeCells #[.slice none 0 0] n) 23)) n 0 l := ⟨_, heap_alloc_new w _, by rw [size_madeCells], fun j _ h => absurd h (by omega)⟩
  have hb1 : Below w.heap.size w (w.alloc (.cells (madeCells #[.slice none 0 0] n) 23)) := below_box _
  have HR1 := hid hw1
  have HB1 := hid hb1
  clear hw1 hb1
  go_loopw [12] (fun i wr => ∃ k : Nat, i = .int .i64 k ∧ k ≤ n ∧ Hid (Below w.heap.size w wr) ∧ Hid (RowP w S wr n k l)) (fun i _ => n - (intOf i).toNat)
  case atStart => exact ⟨0, rfl, by omega, HB1, HR1⟩
  case round =>
    clear HB1 HR1
    obtain ⟨k, rfl, hk, HB, HRW⟩ := hrel
    by_cases hlt : k < n
    · have d1 : decide ((k : Int) < (n : Int)) = true := decide_eq_true (by omega)
      have hkl : k < l.length := by have := HN.out; omega
      obtain ⟨bp, off, PA, pc, VA, vc, VA', vc', rfl, hbp, hd, y0, y1, y2, y3, y4, y5, y6, y7⟩ := H.out.cells k hkl
      obtain ⟨q1, q2, q4⟩ : StrsAt w S PA l[k].path ∧ l[k].path.length ≤ pc ∧ l[k].path.length ≤ 8796093021952 := by
        obtain ⟨P1, p1, V1, v1, V1', v1', e, q0, q1, q2, -, -, -, q4⟩ := hd
        simp only [Array.mk.injEq, List.cons.injEq, Value.slice.injEq, and_true, true_and] at e
        obtain ⟨⟨rfl, rfl⟩, ⟨rfl, rfl⟩, rfl, rfl⟩ := e
        exact ⟨q1, q2, q4⟩
      have hbl := HS.out bp hbp
      have x0 := (HB.out.cell (p := ⟨bp, off + k * 8, none⟩) hbl).trans y0
      have x1 := (HB.out.cell (p := ⟨bp, off + k * 8 + 1, none⟩) hbl).trans y1
      have x2 := (HB.out.cell (p := ⟨bp, off + k * 8 + 2, none⟩) hbl).trans y2
      have x3 := (HB.out.cell (p := ⟨bp, off + k * 8 + 3, none⟩) hbl).trans y3
      have x4 := (HB.out.cell (p := ⟨bp, off + k * 8 + 4, none⟩) hbl).trans y4
      have x5 := (HB.out.cell (p := ⟨bp, off + k * 8 + 5, none⟩) hbl).trans y5
      have x6 := (HB.out.cell (p := ⟨bp, off + k * 8 + 6, none⟩) hbl).trans y6
      have x7 := (HB.out.cell (p := ⟨bp, off + k * 8 + 7, none⟩) hbl).trans y7
      have hbx : Below wr.heap.size wr (wr.alloc (.cells #[.int .i64 l[k].kind, .slice PA l[k].path.length pc, .int .i64 l[k].val.kind, .int .i64 l[k].val.num, .string l[k].val.text, .slice VA l[k].val.items.length vc, .slice VA' l[k].val.names.length vc', .int .i64 l[k].num] 31)) := below_box _
      have hR4 := HRW.out.call hbx
      obtain ⟨u1, z1⟩ : ∃ u, (wr.alloc (.cells #[.int .i64 l[k].kind, .slice PA l[k].path.length pc, .int .i64 l[k].val.kind, .int .i64 l[k].val.num, .string l[k].val.text, .slice VA l[k].val.items.length vc, .slice VA' l[k].val.names.length vc', .int .i64 l[k].num] 31)).cell? ⟨w.heap.size, k, none⟩ = some u := by
        obtain ⟨cur, h1, h2, -⟩ := hR4
        exact ⟨cur[k]'(by omega), by rw [Go.Joins.cell_of_block h1 k]; exact Array.getElem?_eq_getElem (by omega)⟩
      have zf : ∀ i, (wr.alloc (.cells #[.int .i64 l[k].kind, .slice PA l[k].path.length pc, .int .i64 l[k].val.kind, .int .i64 l[k].val.num, .string l[k].val.text, .slice VA l[k].val.items.length vc, .slice VA' l[k].val.names.length vc', .int .i64 l[k].num] 31)).frozen? ⟨w.heap.size, i, none⟩ = false := fun i => by
        obtain ⟨cur, h1, -⟩ := hR4
        exact Go.Joins.unfrozen_of_block h1 i
      have HR5 := hid (show RowP w S ((wr.alloc (.cells #[.int .i64 l[k].kind, .slice PA l[k].path.length pc, .int .i64 l[k].val.kind, .int .i64 l[k].val.num, .string l[k].val.text, .slice VA l[k].val.items.length vc, .slice VA' l[k].val.names.length vc', .int .i64 l[k].num] 31)).setCell ⟨w.heap.size, k, none⟩ (.slice PA l[k].path.length pc)) n (k + 1) l from hR4.push hlt ⟨PA, pc, l[k].path, q1, q2, q4⟩ hkl rfl)
      have HB5 := hid (below_set (p := w.heap.size) (i := k) (u := .slice PA l[k].path.length pc) (HB.out.trans (hbx.mono HB.out.size)) (Nat.le_refl _))
      clear hd q1 q2 q4 hbx hR4 y0 y1 y2 y3 y4 y5 y6 y7 hbp
      go_wp2_with fail
      go_roundw
      case rel => exact ⟨k + 1, by go_num, by omega, HB5, HR5⟩
      case measure => simp [intOf]; omega
    · obtain rfl : k = n := by omega
      have d1 : decide ((k : Int) < (k : Int)) = false := decide_eq_false (by omega)
      obtain ⟨d, hd1, hd2, hd3⟩ := HRW.out.all HN.out
      have eg : ∀ args w, (callFunc 44 args).run Tryz.prog w = .ok (.enter 44 args) w := enters_of Tryz.func44 (by kernel_rfl) rfl
      have hsz : d.size < 4611686018427387904 := by omega
      have hblk : w.heap.size < wr.heap.size := by
        obtain ⟨cur, h1, -⟩ := HRW.out
        exact (Array.getElem?_eq_some_iff.1 h1).1
      have HC := hid (Tryz.slices_SortFunc (encP (w := w) (S := S)) encP_one cfP cfP_swo 44 #[] w.heap.size 0 k d wr eg (cmp_lays HS.out (Nat.le_refl _) HB.out) hd3 hblk hsz)
      rw [hd1] at HC
      have HD2 := hid hd2
      have HD3 := hid hd3
      have HD1 := hid hd1
      have HBK := hid hblk
      clear hd1 hd2 hd3 eg hsz hblk hlt HRW
      go_wp2_with fail
      refine HC.out.mono ?_
      rintro e w2 ⟨rfl, d', m, os, hp, hs, rfl⟩
      obtain ⟨hz', hfree⟩ := free_of_sorted HD2.out (by rw [HD1.out]; exact hp) (by rw [HD1.out]; exact hs)
      have hb2 := sort_below (encP (w := w) (S := S)) m d' os HB.out
      have hh2 := holds_sortWorld (encP (w := w) (S := S)) wr w.heap.size 0 m d d' os HBK.out HD3.out (by rw [hz', HD1.out, HN.out])
      have hk2 : w.heap.size < (Go.Proofs.sortWorld (encP (w := w) (S := S)) wr w.heap.size 0 m d' os).heap.size := lt_sortWorld (encP (w := w) (S := S)) wr w.heap.size 0 m d' os HBK.out
      generalize Go.Proofs.sortWorld (encP (w := w) (S := S)) wr w.heap.size 0 m d' os = w2 at *
      have HDN : Hid (d'.size = k) := hid (by rw [hz', HN.out])
      have HFR := hid hfree
      have HB2 := hid hb2
      have HH2 := hid hh2
      have HK2 := hid hk2
      clear hp hs hz' hfree hb2 hh2 hk2 HC HD2 HD3 HB HBK
      go_wp2_with fail
      go_loopw [6] (fun i wq => ∃ j : Nat, i = .int .i64 ((j : Int) + 1) ∧ j ≤ k ∧ Hid (Below w2.heap.size w2 wq) ∧ Hid (∀ i (h : i + 1 < d'.size), i < j → begP (d'[i]'(by omega)).p d'[i + 1].p = false)) (fun i _ => k - (intOf i).toNat)
      case atStart => exact ⟨0, rfl, by omega, hid (Below.refl _ _), hid fun j _ h => absurd h (by omega)⟩
      case round =>
        obtain ⟨j, rfl, hj, HBq, HJ⟩ := hrel
        by_cases hlt : j + 1 < k
        · have d2 : decide ((j : Int) + 1 < (k : Int)) = true := decide_eq_true (by omega)
          have hj1 : j < d'.size := by have := HDN.out; omega
          have hj2 : j + 1 < d'.size := by have := HDN.out; omega
          have c1 := (HH2.out j hj1).1
          have c2 := (HH2.out (j + 1) hj2).1
          rw [Nat.zero_add, getElem!_pos d' j hj1] at c1
          rw [Nat.zero_add, getElem!_pos d' (j + 1) hj2] at c2
          have t1 := (HBq.out.cell (p := ⟨w.heap.size, j, none⟩) HK2.out).trans c1
          have t2 := (HBq.out.cell (p := ⟨w.heap.size, j + 1, none⟩) HK2.out).trans c2
          obtain ⟨x, hx⟩ : ∃ x, x = d'[j] := ⟨_, rfl⟩
          obtain ⟨y, hy⟩ : ∃ y, y = d'[j + 1] := ⟨_, rfl⟩
          rw [← hx] at t1
          rw [← hy] at t2
          unfold encP at t1 t2
          have hBw : Below w.heap.size w wr.drew := (HB2.out.trans (HBq.out.mono HB2.out.size)).drew
          have HG := hid (begins_any x.A y.A x.c y.c x.p y.p wr.drew S S (x.at'.keep fun b hb => hBw.block b (HS.out b hb)) (y.at'.keep fun b hb => hBw.block b (HS.out b hb)) (fun b hb => Nat.lt_of_lt_of_le (HS.out b hb) hBw.size) (fun b hb => Nat.lt_of_lt_of_le (HS.out b hb) hBw.size) (by have := x.len; omega) (by have := y.len; omega) y.cap)
          obtain ⟨nx, hnx⟩ : ∃ n, n = x.p.length := ⟨_, rfl⟩
          obtain ⟨ny, hny⟩ : ∃ n, n = y.p.length := ⟨_, rfl⟩
          obtain ⟨b1, hb1⟩ : ∃ b, b = begP x.p y.p := ⟨_, rfl⟩
          obtain ⟨xA, hxA⟩ : ∃ n, n = x.A := ⟨_, rfl⟩
          obtain ⟨yA, hyA⟩ : ∃ n, n = y.A := ⟨_, rfl⟩
          obtain ⟨xc, hxc⟩ : ∃ n, n = x.c := ⟨_, rfl⟩
          obtain ⟨yc, hyc⟩ : ∃ n, n = y.c := ⟨_, rfl⟩
          rw [← hnx, ← hxA, ← hxc] at HG t1
          rw [← hny, ← hyA, ← hyc] at HG t2
          rw [← hb1] at HG
          have HBG : Hid (begP (d'[j]'hj1).p d'[j + 1].p = b1) := hid (by rw [hb1, hx, hy])
          have hp2 : w.heap.size < wr.heap.size := Nat.lt_of_lt_of_le HK2.out HBq.out.size
          clear c1 c2 hx hy hBw hnx hny hb1 hxA hyA hxc hyc
          go_wp2_with fail
          refine wp_region_mix [0, 1, 2, 3, 4, 5, 6, 7, 8, 9] (by kernel_rfl) (by kernel_rfl) (fun _ d _ _ _ h => by cases d <;> exact h) ?_
          simp only [atR]
          have u1 := cell_later (B := wr.heap.size) (w := wr.drew) t1 hp2
          have u2 := cell_later (B := wr.heap.size) (w := wr.drew) t2 hp2
          first | refine mix_pure ?_ | refine mix_pureB ?_
          simp only [List.takeWhile, List.dropWhile, isPure, Nat.reduceBNe]
          repeat (go_big_quiet_step (fail))
          refine wpQuiet_nil ?_
          clear u1 u2
          first | refine mix_call rfl (fun K hK => ?_) | refine mix_callB rfl (fun K hK => ?_)
          go_simp
          refine (HG.out).mono ?_
          rintro e w8 ⟨rfl, hb⟩
          refine hK _ _ hb ?_
          clear hK K
          try simp only [Act.put]
          have HB8 : Hid (Below w2.heap.size w2 w8) := hid (HBq.out.trans ((show Below wr.heap.size wr w8 from (Below.refl _ _).drew.trans hb).mono HBq.out.size))
          clear hb HG t1 t2 hp2
          first | refine mix_pure ?_ | refine mix_pureB ?_
          simp only [List.takeWhile, List.dropWhile, isPure, Nat.reduceBNe]
          repeat (go_big_quiet_step (fail))
          refine wpQuiet_nil ?_
          unfold wpMix
          cases b1
          · go_wp2_with fail
            go_roundw
            case rel => exact ⟨j + 1, by go_num, by omega, HB8, hid fun i h hij => by
              by_cases e : i = j
              · subst e; exact HBG.out
              · exact HJ.out i h (by omega)⟩
            case measure => simp [intOf]; omega
          · have HE : Hid (freeD l = false) := hid (by
              cases hf : freeD l
              · rfl
              · have := HFR.out.1 hf j hj2
                rw [HBG.out] at this
                cases this)
            go_wp2_with fail
            go_ret
            exact ⟨by rw [HR.out, HE.out]; rfl, HB2.out.trans (HB8.out.mono HB2.out.size)⟩
        · have d2 : decide ((j : Int) + 1 < (k : Int)) = false := decide_eq_false (by omega)
          have HE : Hid (freeD l = true) := hid (HFR.out.2 fun i h => HJ.out i h (by have := HDN.out; omega))
          go_wp2_with fail
          go_ret
          exact ⟨by rw [HR.out, HE.out]; rfl, HB2.out.trans (HBq.out.mono HB2.out.size)⟩
end Go.Proofs.YtnamdlljdgllmaaGreat

/- Whether one of a row's paths meets another path, by the program. -/
namespace Go.Proofs.YtnamdlljdgllmaaGreat
open Lib (hid)
set_option linter.unusedVariables false
set_option linter.unusedSimpArgs false
open Go.RowKit
set_option maxRecDepth 100000
set_option maxHeartbeats 4000000 in
theorem dltouch1_any (S : Nat → Prop) (d : DelT) (cs : Array Value) (vp : Value) (p : List ByteArray) (g : Nat) (w : World) (hS : ∀ b, S b → b < w.heap.size) (h : DelL w S d cs) (hgl : g < w.heap.size) (hg : w.cell? ⟨g, 0, none⟩ = some vp) (hq : SlP w S vp p) :
    Calls Tryz.prog 46 #[.agg cs, .pointer (some ⟨g, 0, none⟩)] w fun e w' => e = .returned (.bool (meetP d.path p)) ∧ Below w.heap.size w w' := by
  obtain ⟨PA, pc, VA, vc, VA', vc', rfl, hv, hp, hpc, hpn, hk, hn, hpl⟩ := id h
  obtain ⟨w1, hw1⟩ : ∃ W, W = w.alloc (.cells #[.int .i64 d.kind, .slice PA d.path.length pc, .int .i64 d.val.kind, .int .i64 d.val.num, .string d.val.text, .slice VA d.val.items.length vc, .slice VA' d.val.names.length vc', .int .i64 d.num] 31) := ⟨_, rfl⟩
  have hbk : w1.heap[w.heap.size]? = some (.cells #[.int .i64 d.kind, .slice PA d.path.length pc, .int .i64 d.val.kind, .int .i64 d.val.num, .string d.val.text, .slice VA d.val.items.length vc, .slice VA' d.val.names.length vc', .int .i64 d.num] 31 (0, 0)) := by rw [hw1]; exact heap_alloc_new w _
  have hb1 : Below w.heap.size w w1 := by rw [hw1]; exact (Below.refl _ _).alloc (Nat.le_refl _) _
  have y0 := Go.Joins.cell_of_block hbk 0
  have y1 := Go.Joins.cell_of_block hbk 1
  have y2 := Go.Joins.cell_of_block hbk 2
  have y3 := Go.Joins.cell_of_block hbk 3
  have y4 := Go.Joins.cell_of_block hbk 4
  have y5 := Go.Joins.cell_of_block hbk 5
  have y6 := Go.Joins.cell_of_block hbk 6
  have y7 := Go.Joins.cell_of_block hbk 7
  obtain ⟨B, bc, rfl, q1, q2, q3⟩ := hq
  have gc := (hb1.cell (p := ⟨g, 0, none⟩) hgl).trans hg
  rw [hw1] at gc
  have HM := hid (meet_any PA B pc bc d.path p w1 S S (hp.keep fun b hb => hb1.block b (hS b hb)) (q1.keep fun b hb => hb1.block b (hS b hb)) (fun b hb => Nat.lt_of_lt_of_le (hS b hb) hb1.size) (fun b hb => Nat.lt_of_lt_of_le (hS b hb) hb1.size) (by omega) (by omega) hpc q2)
  have HB1 := hid hb1
  clear hbk hb1 h hv hp hpc hpn hk hn hpl hS q1 q2 q3 hgl hg
  go_enter Tryz.func46, Tryz.ntmps46
  go_wp2_with fail
  rw [← hw1]
  refine HM.out.mono ?_
  rintro e w2 ⟨rfl, hb2⟩
  have HB2 := hid (HB1.out.trans (hb2.mono HB1.out.size))
  clear hb2
  clear HM
  go_wp2_with fail
  go_ret
  exact ⟨rfl, HB2.out⟩
set_option maxHeartbeats 4000000 in
theorem idxT_any (S : Nat → Prop) (A : Option Addr) (c : Nat) (l : List DelT) (vp : Value) (p : List ByteArray) (g : Nat) (w : World) (hS : ∀ b, S b → b < w.heap.size) (h : DelsL w S A l) (hn : l.length ≤ 140737488351232) (hgl : g < w.heap.size) (hg : w.cell? ⟨g, 0, none⟩ = some vp) (hp : SlP w S vp p) :
    Calls Tryz.prog 83 #[.slice A l.length c, .func (.func 46) #[] #[.pointer (some ⟨g, 0, none⟩)]] w fun e w' => (∃ i : Int, e = .returned (.int .i64 i) ∧ decide (0 ≤ i) = (l.any fun d => meetP (d).path p)) ∧ Below w.heap.size w w' := by
  have H := hid h
  have HS := hid hS
  have HG := hid (And.intro hgl (And.intro hg hp))
  have HN := hid hn
  clear h hS hgl hg hp
  go_enter Tryz.func83, Tryz.ntmps83
  go_wp2_with fail
  go_loopw [8] (fun i wr => ∃ k : Nat, i = .int .i64 k ∧ k ≤ l.length ∧ Hid (Below w.heap.size w wr) ∧ Hid (∀ j (h : j < l.length), j < k → meetP (l[j]).path p = false)) (fun i _ => l.length - (intOf i).toNat)
  case atStart => exact ⟨0, rfl, by omega, hid (Below.refl _ _), hid fun j _ h => absurd h (by omega)⟩
  case round =>
    obtain ⟨k, rfl, hk, HB, HJ⟩ := hrel
    by_cases hlt : k < l.length
    · have hS2 : ∀ b, S b → b < wr.heap.size := fun b hb => Nat.lt_of_lt_of_le (HS.out b hb) HB.out.size
      obtain ⟨bp, off, PA, pc, VA, vc, VA', vc', rfl, hpS, ho, x0, x1, x2, x3, x4, x5, x6, x7⟩ := (H.out.below HS.out HB.out).cells k hlt
      have HC := hid (dltouch1_any S l[k] _ vp p g wr hS2 ho (Nat.lt_of_lt_of_le HG.out.1 HB.out.size) ((HB.out.cell (p := ⟨g, 0, none⟩) HG.out.1).trans HG.out.2.1) (HG.out.2.2.keep fun b hb => HB.out.block b (HS.out b hb)))
      clear ho hS2 hpS
      go_wp2_with fail
      refine HC.out.mono ?_
      rintro e u ⟨rfl, hb⟩
      have HB2 := hid (HB.out.trans (hb.mono HB.out.size))
      clear hb HC x0 x1 x2 x3 x4 x5 x6 x7
      cases hm : meetP (l[k]).path p
      · have HM := hid hm
        clear hm
        go_wp2_with fail
        go_roundw
        case rel => exact ⟨k + 1, by go_num, by omega, HB2, hid fun j h hjk => by
          by_cases e : j = k
          · subst e; exact HM.out
          · exact HJ.out j h (by omega)⟩
        case measure => simp [intOf]; omega
      · have HM := hid hm
        clear hm
        go_wp2_with fail
        go_ret
        exact ⟨⟨k, rfl, by rw [List.any_eq_true.2 ⟨l[k], List.getElem_mem hlt, HM.out⟩]; simp⟩, HB2.out⟩
    · go_wp2_with fail
      go_ret
      refine ⟨⟨-1, rfl, ?_⟩, HB.out⟩
      rw [show (l.any fun d => meetP (d).path p) = false from List.any_eq_false.2 fun x hx => by
        obtain ⟨j, hj, rfl⟩ := List.mem_iff_getElem.1 hx
        simp [HJ.out j hj (by omega)]]
      rfl
theorem contT_any (S : Nat → Prop) (A : Option Addr) (c : Nat) (l : List DelT) (vp : Value) (p : List ByteArray) (g : Nat) (w : World) (hS : ∀ b, S b → b < w.heap.size) (h : DelsL w S A l) (hn : l.length ≤ 140737488351232) (hgl : g < w.heap.size) (hg : w.cell? ⟨g, 0, none⟩ = some vp) (hp : SlP w S vp p) :
    Calls Tryz.prog 41 #[.slice A l.length c, .func (.func 46) #[] #[.pointer (some ⟨g, 0, none⟩)]] w fun e w' => e = .returned (.bool (l.any fun d => meetP (d).path p)) ∧ Below w.heap.size w w' := by
  have HC := hid (idxT_any S A c l vp p g w hS h hn hgl hg hp)
  clear h hS hgl hg hp
  go_enter Tryz.func41, Tryz.ntmps41
  go_wp2_with fail
  refine HC.out.mono ?_
  rintro e u ⟨⟨i, rfl, hi⟩, hb⟩
  have HI := hid hi
  have HB := hid hb
  clear hi hb HC
  go_wp2_with fail
  go_ret
  exact ⟨ret_bool HI.out, HB.out⟩
set_option maxHeartbeats 4000000 in
theorem dltouch_any (S : Nat → Prop) (A : Option Addr) (c : Nat) (l : List DelT) (B : Option Addr) (bc : Nat) (p : List ByteArray) (w : World) (hS : ∀ b, S b → b < w.heap.size) (h : DelsL w S A l) (hn : l.length ≤ 140737488351232) (hp : StrsAt w S B p) (hpc : p.length ≤ bc) (hpl : p.length ≤ 8796093021952) :
    Calls Tryz.prog 17 #[.slice A l.length c, .slice B p.length bc] w fun e w' => e = .returned (.bool (touchD l p)) ∧ Below w.heap.size w w' := by
  obtain ⟨w1, hw1⟩ : ∃ W, W = w.alloc (.cells #[.slice B p.length bc] 23) := ⟨_, rfl⟩
  have hb1 : Below w.heap.size w w1 := by rw [hw1]; exact (Below.refl _ _).alloc (Nat.le_refl _) _
  have hbk : w1.heap[w.heap.size]? = some (.cells #[.slice B p.length bc] 23 (0, 0)) := by rw [hw1]; exact heap_alloc_new w _
  have hz : w1.heap.size = w.heap.size + 1 := by rw [hw1]; simp
  have HC := hid (contT_any S A c l (.slice B p.length bc) p w.heap.size w1 (fun b hb => by have := hS b hb; omega) (h.below hS hb1) hn (by omega) (Go.Joins.cell_of_block hbk 0) ⟨B, bc, rfl, hp.keep fun b hb => hb1.block b (hS b hb), hpc, hpl⟩)
  have HB1 := hid hb1
  clear h hS hp hb1 hbk hz hpc
  go_enter Tryz.func17, Tryz.ntmps17
  go_wp2_with fail
  rw [← hw1]
  refine HC.out.mono ?_
  rintro e u ⟨rfl, hb⟩
  have HB := hid (HB1.out.trans (hb.mono HB1.out.size))
  clear hb HC
  go_wp2_with fail
  go_ret
  exact ⟨rfl, HB.out⟩
theorem strs_one6 {w : World} {S : Nat → Prop} {g : Nat} {t : TypeId} {fr : Nat × Nat} {s : ByteArray} (hg : w.heap[g]? = some (.cells #[.string s] t fr)) (hS : S g) (hs : s.size ≤ 140737488351232) : StrsAt w S (some ⟨g, 0, none⟩) [s] := fun _ =>
  ⟨g, 0, rfl, hS, fun i hi => by
    obtain rfl : i = 0 := by simpa using hi
    exact ⟨Go.Joins.cell_of_block hg 0, hs⟩⟩
theorem strs_two6 {w : World} {S : Nat → Prop} {g : Nat} {t : TypeId} {fr : Nat × Nat} {s s' : ByteArray} (hg : w.heap[g]? = some (.cells #[.string s, .string s'] t fr)) (hS : S g) (hs : s.size ≤ 140737488351232) (hs' : s'.size ≤ 140737488351232) : StrsAt w S (some ⟨g, 0, none⟩) [s, s'] := fun _ =>
  ⟨g, 0, rfl, hS, fun i hi => by
    match i, hi with
    | 0, _ => exact ⟨Go.Joins.cell_of_block hg 0, hs⟩
    | 1, _ => exact ⟨Go.Joins.cell_of_block hg 1, hs'⟩⟩
theorem rd_str6 {w : World} {B : Nat} {v : Value} {l : List UInt8} (h : Rd w B v l) : (convert 46 9 v).run Tryz.prog w = .ok (.string ⟨l.toArray⟩) w := by
  obtain ⟨A, cap, hv, -⟩ := id h
  rw [hv] at h ⊢
  have := h.conv (Nat.le_refl _) cap
  rw [List.take_length] at this
  exact this
theorem rd_nil6 (w : World) (B : Nat) : Rd w B (.slice none 0 0) [] := by
  have h : Rd w w.heap.size (.slice none 0 0) [] := OwnB.rd (B := 0) (show OwnB w 0 (.slice none 0 0) [] from World.ownsRow_nil _ _ _ _)
  obtain ⟨A, cap, h1, h2, h3, h4⟩ := h
  exact ⟨A, cap, h1, h2, h3, fun hl => absurd hl (by simp)⟩
def oneV : VT := .mk 3 1 ⟨#[]⟩ [] []
def l6 : List DelT := [⟨1, [⟨#[97]⟩, ⟨#[98]⟩], oneV, 0⟩, ⟨2, [⟨#[99]⟩], noneV, 0⟩]
def doc6 : VT := .mk 7 0 ⟨#[]⟩ [oneV] [⟨#[99]⟩]
def made6 : VT := .mk 7 0 ⟨#[]⟩ [.mk 7 0 ⟨#[]⟩ [oneV] [⟨#[98]⟩]] [⟨#[97]⟩]
def b6 : List UInt8 := [2, 1, 2, 1, 97, 1, 98, 3, 2, 2, 1, 1, 99]
theorem l6_check : checkD l6 = 0 := by decide +kernel
theorem l6_free : freeD l6 = true := by decide +kernel
theorem l6_code : codeDs l6 = b6 := by decide +kernel
theorem l6_read : rdDl (some b6) = (l6, some []) := by kernel_rfl
theorem l6_apply : applyD l6 doc6 = (0, made6) := by kernel_rfl
theorem l6_may : mayD ⟨1, [⟨#[97]⟩, ⟨#[98]⟩], oneV, 0⟩ = true := by decide +kernel
theorem none6_may : mayD ⟨0, [], noneV, 0⟩ = false := by decide +kernel
theorem l6_in : touchD l6 [⟨#[97]⟩] = true := by decide +kernel
theorem l6_out : touchD l6 [⟨#[100]⟩] = false := by decide +kernel
theorem l6_small : SmallD l6 := by
  intro d hd
  have h : ∀ d ∈ l6, depthT d.val ≤ 8 := by
    intro d hd
    simp only [l6, List.mem_cons, List.not_mem_nil, or_false] at hd
    rcases hd with rfl | rfl <;> decide
  have := h d hd; omega
theorem l6_smallz : SmallZD l6 := by
  intro d hd
  have h : ∀ d ∈ l6, sizeT d.val ≤ 8 := by
    intro d hd
    simp only [l6, List.mem_cons, List.not_mem_nil, or_false] at hd
    rcases hd with rfl | rfl <;> decide
  have := h d hd; omega
theorem l6_lens : LensD 10 l6 := by
  intro d hd
  simp only [l6, List.mem_cons, List.not_mem_nil, or_false] at hd
  rcases hd with rfl | rfl <;> decide
structure T6 (w : World) (z : Nat) : Prop where
  p1 : w.heap[z + 1]? = some (.cells #[.string ⟨#[97]⟩, .string ⟨#[98]⟩] 9 (0, 0))
  p2 : w.heap[z + 1 + 1]? = some (.cells #[.string ⟨#[99]⟩] 9 (0, 0))
  row : w.heap[z + 1 + 1 + 1]? = some (.cells #[.int .i64 1, .slice (some ⟨z + 1, 0, none⟩) 2 2, .int .i64 3, .int .i64 1, .string ⟨#[]⟩, .slice none 0 0, .slice none 0 0, .int .i64 0, .int .i64 2, .slice (some ⟨z + 1 + 1, 0, none⟩) 1 1, .int .i64 0, .int .i64 0, .string ⟨#[]⟩, .slice none 0 0, .slice none 0 0, .int .i64 0] 31 (0, 0))
theorem T6.lt {w : World} {z : Nat} (h : T6 w z) : z + 1 + 1 + 1 < w.heap.size := (Array.getElem?_eq_some_iff.1 h.row).1
theorem T6.keep {w w' : World} {z : Nat} (h : T6 w z) (hk : ∀ b, z ≤ b → b ≤ z + 3 → w'.heap[b]? = w.heap[b]?) : T6 w' z := ⟨(hk _ (by omega) (by omega)).trans h.p1, (hk _ (by omega) (by omega)).trans h.p2, (hk _ (by omega) (by omega)).trans h.row⟩
theorem T6.call {w w' : World} {z : Nat} (h : T6 w z) (hb : Below w.heap.size w w') : T6 w' z := h.keep fun b _ hb' => hb.block b (by have := h.lt; omega)
theorem T6.del0 {w : World} {z : Nat} {S : Nat → Prop} (h : T6 w z) (h1 : S (z + 1)) : DelL w S ⟨1, [⟨#[97]⟩, ⟨#[98]⟩], oneV, 0⟩ #[.int .i64 1, .slice (some ⟨z + 1, 0, none⟩) 2 2, .int .i64 3, .int .i64 1, .string ⟨#[]⟩, .slice none 0 0, .slice none 0 0, .int .i64 0] :=
  ⟨_, 2, none, 0, none, 0, rfl, leaf_lv _ _ _ _ _ (by unfold Rng; omega) (by unfold Rng; omega) (by decide), strs_two6 h.p1 h1 (by decide) (by decide), by simp, by simp, rng_k (k := 1) (by decide) (by decide), rng_k (k := 0) (by decide) (by decide), by simp⟩
theorem T6.del1 {w : World} {z : Nat} {S : Nat → Prop} (h : T6 w z) (h1 : S (z + 1 + 1)) : DelL w S ⟨2, [⟨#[99]⟩], noneV, 0⟩ #[.int .i64 2, .slice (some ⟨z + 1 + 1, 0, none⟩) 1 1, .int .i64 0, .int .i64 0, .string ⟨#[]⟩, .slice none 0 0, .slice none 0 0, .int .i64 0] :=
  ⟨_, 1, none, 0, none, 0, rfl, leaf_lv _ _ _ _ _ (by unfold Rng; omega) (by unfold Rng; omega) (by decide), strs_one6 h.p2 h1 (by decide), by simp, by simp, rng_k (k := 2) (by decide) (by decide), rng_k (k := 0) (by decide) (by decide), by simp⟩
theorem T6.dels {w : World} {z : Nat} (h : T6 w z) : DelsL w (fun b => b < w.heap.size) (some ⟨z + 1 + 1 + 1, 0, none⟩) l6 := fun _ => by
  have hlt := h.lt
  refine ⟨z + 1 + 1 + 1, 0, rfl, hlt, fun i hi => ?_⟩
  have hi2 : i < 2 := hi
  match i, hi2 with
  | 0, _ =>
    exact ⟨_, fun j v hj => by
      have hj' : j < 8 := (Array.getElem?_eq_some_iff.1 hj).1
      rw [Go.Joins.cell_of_block h.row (0 + 0 * 8 + j)]
      match j, hj' with
      | 0, _ | 1, _ | 2, _ | 3, _ | 4, _ | 5, _ | 6, _ | 7, _ => exact hj, h.del0 (by omega)⟩
  | 1, _ =>
    exact ⟨_, fun j v hj => by
      have hj' : j < 8 := (Array.getElem?_eq_some_iff.1 hj).1
      rw [Go.Joins.cell_of_block h.row (0 + 1 * 8 + j)]
      match j, hj' with
      | 0, _ | 1, _ | 2, _ | 3, _ | 4, _ | 5, _ | 6, _ | 7, _ => exact hj, h.del1 (by omega)⟩
theorem T6.caps {w : World} {z : Nat} (h : T6 w z) : CapsD w (some ⟨z + 1 + 1 + 1, 0, none⟩) l6 := fun k hk b off hA PA n pc hc => by
  injection hA with hA
  injection hA with e1 e2
  subst e1 e2
  have hk2 : k < 2 := hk
  rw [Go.Joins.cell_of_block h.row (0 + k * 8 + 1)] at hc
  match k, hk2 with
  | 0, _ | 1, _ =>
    simp at hc
    omega
theorem doc6_lv {w : World} {S : Nat → Prop} {a b : Nat} (ha : w.heap[a]? = some (.cells #[.string ⟨#[99]⟩] 9 (0, 0))) (hb : w.heap[b]? = some (.cells #[.int .i64 3, .int .i64 1, .string ⟨#[]⟩, .slice none 0 0, .slice none 0 0] 29 (0, 0))) (h1 : S a) (h2 : S b) :
    LV w S doc6 (.agg #[.int .i64 7, .int .i64 0, .string ⟨#[]⟩, .slice (some ⟨b, 0, none⟩) 1 1, .slice (some ⟨a, 0, none⟩) 1 1]) := by
  refine LV.mk (by unfold Rng; omega) (by unfold Rng; omega) (by decide) (by simp) (by simp) (strs_one6 ha h1 (by decide)) ?_
  exact fun _ => ⟨b, 0, rfl, h2, by
    unfold LVs LVs
    exact ⟨⟨_, _, _, _, _, Go.Joins.cell_of_block hb 0, Go.Joins.cell_of_block hb 1, Go.Joins.cell_of_block hb 2, Go.Joins.cell_of_block hb 3, Go.Joins.cell_of_block hb 4, leaf_lv _ _ _ _ _ (by unfold Rng; omega) (by unfold Rng; omega) (by decide)⟩, trivial⟩⟩
set_option maxHeartbeats 16000000 in
theorem lives6_any (w : World) : Calls Tryz.prog 9 #[] w fun e w' => e = .returned (.bool true) ∧ Below w.heap.size w w' := by
  obtain ⟨w6, hw6⟩ : ∃ W, W = (((((w.alloc (.cells #[.int .i64 3, .int .i64 1, .string ⟨#[]⟩, .slice none 0 0, .slice none 0 0] 29)).alloc (.cells #[.string ⟨#[97]⟩, .string ⟨#[98]⟩] 9)).alloc (.cells #[.string ⟨#[99]⟩] 9)).alloc (.cells #[.int .i64 1, .slice (some ⟨w.heap.size + 1, 0, none⟩) 2 2, .int .i64 3, .int .i64 1, .string ⟨#[]⟩, .slice none 0 0, .slice none 0 0, .int .i64 0, .int .i64 2, .slice (some ⟨w.heap.size + 1 + 1, 0, none⟩) 1 1, .int .i64 0, .int .i64 0, .string ⟨#[]⟩, .slice none 0 0, .slice none 0 0, .int .i64 0] 31)).alloc (.cells #[.string ⟨#[99]⟩] 9)).alloc (.cells #[.int .i64 3, .int .i64 1, .string ⟨#[]⟩, .slice none 0 0, .slice none 0 0] 29) := ⟨_, rfl⟩
  have hz1 : (w.alloc (.cells #[.int .i64 3, .int .i64 1, .string ⟨#[]⟩, .slice none 0 0, .slice none 0 0] 29)).heap.size = w.heap.size + 1 := by simp
  have hz2 : ((w.alloc (.cells #[.int .i64 3, .int .i64 1, .string ⟨#[]⟩, .slice none 0 0, .slice none 0 0] 29)).alloc (.cells #[.string ⟨#[97]⟩, .string ⟨#[98]⟩] 9)).heap.size = w.heap.size + 1 + 1 := by simp
  have hz3 : (((w.alloc (.cells #[.int .i64 3, .int .i64 1, .string ⟨#[]⟩, .slice none 0 0, .slice none 0 0] 29)).alloc (.cells #[.string ⟨#[97]⟩, .string ⟨#[98]⟩] 9)).alloc (.cells #[.string ⟨#[99]⟩] 9)).heap.size = w.heap.size + 1 + 1 + 1 := by simp
  have hz4 : ((((w.alloc (.cells #[.int .i64 3, .int .i64 1, .string ⟨#[]⟩, .slice none 0 0, .slice none 0 0] 29)).alloc (.cells #[.string ⟨#[97]⟩, .string ⟨#[98]⟩] 9)).alloc (.cells #[.string ⟨#[99]⟩] 9)).alloc (.cells #[.int .i64 1, .slice (some ⟨w.heap.size + 1, 0, none⟩) 2 2, .int .i64 3, .int .i64 1, .string ⟨#[]⟩, .slice none 0 0, .slice none 0 0, .int .i64 0, .int .i64 2, .slice (some ⟨w.heap.size + 1 + 1, 0, none⟩) 1 1, .int .i64 0, .int .i64 0, .string ⟨#[]⟩, .slice none 0 0, .slice none 0 0, .int .i64 0] 31)).heap.size = w.heap.size + 1 + 1 + 1 + 1 := by simp
  have hz5 : (((((w.alloc (.cells #[.int .i64 3, .int .i64 1, .string ⟨#[]⟩, .slice none 0 0, .slice none 0 0] 29)).alloc (.cells #[.string ⟨#[97]⟩, .string ⟨#[98]⟩] 9)).alloc (.cells #[.string ⟨#[99]⟩] 9)).alloc (.cells #[.int .i64 1, .slice (some ⟨w.heap.size + 1, 0, none⟩) 2 2, .int .i64 3, .int .i64 1, .string ⟨#[]⟩, .slice none 0 0, .slice none 0 0, .int .i64 0, .int .i64 2, .slice (some ⟨w.heap.size + 1 + 1, 0, none⟩) 1 1, .int .i64 0, .int .i64 0, .string ⟨#[]⟩, .slice none 0 0, .slice none 0 0, .int .i64 0] 31)).alloc (.cells #[.string ⟨#[99]⟩] 9)).heap.size = w.heap.size + 1 + 1 + 1 + 1 + 1 := by simp
  have hz6 : w6.heap.size = w.heap.size + 6 := by rw [hw6]; simp
  have hb6 : Below w.heap.size w w6 := by
    rw [hw6]
    exact (((((((Below.refl _ _).alloc (Nat.le_refl _) _).alloc (by omega) _).alloc (by omega) _).alloc (by omega) _).alloc (by omega) _).alloc (by omega) _)
  have ht6 : T6 w6 w.heap.size := by
    rw [hw6]
    refine ⟨?_, ?_, ?_⟩
    · rw [Below.heap_alloc _ _ _ (by omega), Below.heap_alloc _ _ _ (by omega), Below.heap_alloc _ _ _ (by omega), Below.heap_alloc _ _ _ (by omega), ← hz1]
      exact heap_alloc_new _ _
    · rw [Below.heap_alloc _ _ _ (by omega), Below.heap_alloc _ _ _ (by omega), Below.heap_alloc _ _ _ (by omega), ← hz2]
      exact heap_alloc_new _ _
    · rw [Below.heap_alloc _ _ _ (by omega), Below.heap_alloc _ _ _ (by omega), ← hz3]
      exact heap_alloc_new _ _
  have hc6 : w6.heap[w.heap.size + 1 + 1 + 1 + 1]? = some (.cells #[.string ⟨#[99]⟩] 9 (0, 0)) := by
    rw [hw6, Below.heap_alloc _ _ _ (by omega), ← hz4]
    exact heap_alloc_new _ _
  have hd6 : w6.heap[w.heap.size + 1 + 1 + 1 + 1 + 1]? = some (.cells #[.int .i64 3, .int .i64 1, .string ⟨#[]⟩, .slice none 0 0, .slice none 0 0] 29 (0, 0)) := by
    rw [hw6, ← hz5]
    exact heap_alloc_new _ _
  have HAP := hid (dlapply_any (fun b => b < w6.heap.size) doc6 _ _ 2 l6 w6 10 10 (fun b hb => hb) (doc6_lv hc6 hd6 (by omega) (by omega)) (by decide) (by decide) (by omega) (by omega) ht6.dels ht6.caps (by decide) (fun _ => ⟨l6_small, l6_smallz, l6_lens⟩))
  have HT := hid ht6
  have HB := hid hb6
  have HZ := hid hz6
  clear hz1 hz2 hz3 hz4 hz5 hz6 hb6 ht6 hc6 hd6
  go_enter Tryz.func9, Tryz.ntmps9
  go_wp2_with fail
  rw [← hw6]
  clear hw6
  refine HAP.out.mono ?_
  rintro e w7 ⟨v7, rfl, hv7, hb7⟩
  rw [l6_apply] at hv7 ⊢
  replace hv7 : LV w7 (Iv w6.heap.size w7.heap.size) made6 v7 := hv7
  obtain ⟨A7, c7, A7', c7', rfl, -, -, -, -, -, hn7, -⟩ := hv7.shape
  have HB7 := hid (HB.out.trans (hb7.mono HB.out.size))
  have HT7 := hid (HT.out.call hb7)
  obtain ⟨nb, noff, rfl, hnS, hnc⟩ := hn7 (by decide)
  have hnm : w7.cell? ⟨nb, noff, none⟩ = some (.string ⟨#[97]⟩) := (hnc 0 (by decide)).1
  have hnl : nb < w7.heap.size := hnS.2
  simp only [show made6.kind = 7 from rfl, show made6.num = 0 from rfl, show made6.text = ⟨#[]⟩ from rfl, show made6.items.length = 1 from rfl, show made6.names.length = 1 from rfl]
  obtain ⟨X, hX⟩ : ∃ X : Obj, X = .cells #[.int .i64 7, .int .i64 0, .string ⟨#[]⟩, .slice A7 1 c7, .slice (some ⟨nb, noff, none⟩) 1 c7'] 29 := ⟨_, rfl⟩
  obtain ⟨w8, hw8⟩ : ∃ W, W = w7.alloc X := ⟨_, rfl⟩
  have hbx : Below w7.heap.size w7 w8 := by rw [hw8]; exact (Below.refl _ _).alloc (Nat.le_refl _) _
  have hx8 : w8.heap[w7.heap.size]? = some (.cells #[.int .i64 7, .int .i64 0, .string ⟨#[]⟩, .slice A7 1 c7, .slice (some ⟨nb, noff, none⟩) 1 c7'] 29 (0, 0)) := by rw [hw8, hX]; exact heap_alloc_new _ _
  have HB8 := hid (HB7.out.trans (hbx.mono HB7.out.size))
  have HT8 := hid (HT7.out.call hbx)
  have HX8 := hid hx8
  have HN8 := hid ((World.cell?_of_block (a := ⟨nb, noff, none⟩) (hbx.block nb hnl)).trans hnm)
  have hz7 : w7.heap.size < w8.heap.size := (Array.getElem?_eq_some_iff.1 hx8).1
  have hnl8 : nb < w8.heap.size := by omega
  obtain ⟨g8, hg8⟩ : ∃ g, g = w7.heap.size := ⟨_, rfl⟩
  rw [← hg8] at HX8 hz7
  have HG8 := hid (And.intro hz7 hnl8)
  have HP := hid (dlput_any (fun b => b < w8.heap.size) _ 2 l6 (.slice none 0 0) [] w8 (fun b hb => hb) HT8.out.dels (by decide) (fun _ => ⟨l6_small, l6_smallz⟩) (rd_nil6 _ _) (by decide))
  clear hv7 hb7 hn7 hnS hnc hnm hnl hbx hx8 hz7 hnl8 HAP HT HB HZ HB7 HT7
  go_wp2_with fail
  rw [← hX, ← hw8, ← hg8]
  clear hX hw8 hg8
  go_wp2_with fail
  refine HP.out.mono ?_
  rintro e w9 ⟨v9, rfl, hv9, hb9⟩
  rw [l6_code, List.nil_append] at hv9
  obtain ⟨Ab, cb, rfl⟩ := hv9.slice
  simp only [show b6.length = 13 from rfl] at hv9 ⊢
  have HB9 := hid (HB8.out.trans (hb9.mono HB8.out.size))
  have HT9 := hid (HT8.out.call hb9)
  have HX9 := hid ((hb9.block g8 HG8.out.1).trans HX8.out)
  have HN9 := hid ((World.cell?_of_block (a := ⟨nb, noff, none⟩) (hb9.block nb HG8.out.2)).trans HN8.out)
  have HG9 : Hid (g8 < w9.heap.size ∧ nb < w9.heap.size) := hid ⟨Nat.lt_of_lt_of_le HG8.out.1 hb9.size, Nat.lt_of_lt_of_le HG8.out.2 hb9.size⟩
  have HF := hid (from_any _ ⟨b6.toArray⟩ w9 (rd_str6 hv9.rd))
  clear hv9 hb9 HP HB8 HT8 HX8 HN8 HG8
  go_wp2_with fail
  refine HF.out.mono ?_
  rintro e w10 ⟨rfl, hs10, hb10⟩
  have hgl := hs10.lt
  have HB10 := hid (HB9.out.trans (hb10.mono HB9.out.size))
  have HT10 := hid (HT9.out.call hb10)
  have HW9 := hid (And.intro HB9.out.size HT9.out.lt)
  have x4 : w10.cell? ⟨g8, 4, none⟩ = some (.slice (some ⟨nb, noff, none⟩) 1 c7') := Go.Joins.cell_of_block ((hb10.block g8 HG9.out.1).trans HX9.out) 4
  have xn := (World.cell?_of_block (a := ⟨nb, noff, none⟩) (hb10.block nb HG9.out.2)).trans HN9.out
  have HS10 := hid (show SrcL w10 w9.heap.size (some b6) from ⟨hs10, by decide⟩)
  obtain ⟨g, hg⟩ : ∃ g, g = w9.heap.size := ⟨_, rfl⟩
  rw [← hg] at HS10 HW9 hgl ⊢
  have HRD := hid (dlread_any g (some b6) w10 HS10.out)
  clear hs10 hb10 HF HB9 HT9 HX9 HN9 HG9 hg
  go_wp2_with fail
  refine HRD.out.mono ?_
  rintro e w11 ⟨A11, c11, rfl, hl11, -, -, hs11, ho11⟩
  rw [l6_read] at hl11 hs11 ⊢
  replace hl11 : DelsL w11 (NewB w10.heap.size w11) A11 l6 := hl11
  replace hs11 : SrcL w11 g (some []) := hs11
  simp only [show l6.length = 2 from rfl]
  have HB11 : Hid (Below w.heap.size w w11) := hid (HB10.out.trans (ho11.below HB10.out.size HW9.out.1))
  have HT11 : Hid (T6 w11 w.heap.size) := hid (HT10.out.keep fun b _ hb => ho11.block b (by have := HT10.out.lt; omega) (by rintro ⟨⟩; have := HW9.out.2; omega))
  have HS11 := hid hs11
  have HSM := hid (dlsame_any (fun b => b < w11.heap.size) A11 c11 l6 _ 2 l6 w11 (fun b hb => hb) (hl11.imp fun b hb => hb.2) HT11.out.dels (by decide) (by decide))
  clear hl11 hs11 ho11 HRD HB10 HT10 x4 xn HS10
  go_wp2_with fail
  refine HSM.out.mono ?_
  rintro e w12 ⟨⟨r, rfl, hr⟩, hb12⟩
  obtain rfl : r = true := hr.2 trivial
  have HB12 := hid (HB11.out.trans (hb12.mono HB11.out.size))
  have HT12 := hid (HT11.out.call hb12)
  have HD := hid (sdone_st g (some []) w12 (HS11.out.of (hb12.block g HS11.out.lt)))
  clear hr hb12 HSM HB11 HT11 HS11
  go_wp2_with fail
  refine HD.out.mono ?_
  rintro e w13 ⟨rfl, rfl⟩
  rw [show doneOf (some []) = 0 from rfl]
  have HFR := hid (dlfree_any (fun b => b < w12.heap.size) _ 2 l6 w12 (fun b hb => hb) HT12.out.dels (by decide))
  clear HD
  go_wp2_with fail
  refine HFR.out.mono ?_
  rintro e w14 ⟨rfl, hb14⟩
  rw [l6_free]
  have HB14 := hid (HB12.out.trans (hb14.mono HB12.out.size))
  have HT14 := hid (HT12.out.call hb14)
  have HCK := hid (dlcheck_any (fun b => b < w14.heap.size) _ 2 l6 w14 (fun b hb => hb) HT14.out.dels (by decide) l6_small)
  clear hb14 HFR HB12 HT12
  go_wp2_with fail
  refine HCK.out.mono ?_
  rintro e w15 ⟨rfl, hb15⟩
  rw [l6_check]
  have HB15 := hid (HB14.out.trans (hb15.mono HB14.out.size))
  have HT15 := hid (HT14.out.call hb15)
  have HMY := hid (dlmay_any (fun b => b < w15.heap.size) ⟨1, [⟨#[97]⟩, ⟨#[98]⟩], oneV, 0⟩ _ w15 (fun b hb => hb) (HT15.out.del0 (by have := HT15.out.lt; omega)) (Nat.le_trans (show depthT oneV ≤ 8 by decide) (by omega)))
  have y0 := Go.Joins.cell_of_block HT15.out.row 0
  have y1 := Go.Joins.cell_of_block HT15.out.row 1
  have y2 := Go.Joins.cell_of_block HT15.out.row 2
  have y3 := Go.Joins.cell_of_block HT15.out.row 3
  have y4 := Go.Joins.cell_of_block HT15.out.row 4
  have y5 := Go.Joins.cell_of_block HT15.out.row 5
  have y6 := Go.Joins.cell_of_block HT15.out.row 6
  have y7 := Go.Joins.cell_of_block HT15.out.row 7
  clear hb15 HCK HB14 HT14
  go_wp2_with fail
  refine HMY.out.mono ?_
  rintro e w16 ⟨rfl, hb16⟩
  rw [l6_may]
  have HB16 := hid (HB15.out.trans (hb16.mono HB15.out.size))
  have HT16 := hid (HT15.out.call hb16)
  have HMN := hid (dlmay_any (fun _ => False) ⟨0, [], noneV, 0⟩ _ w16 (fun b hb => hb.elim) (show DelL w16 (fun _ => False) ⟨0, [], noneV, 0⟩ #[.int .i64 0, .slice none 0 0, .int .i64 0, .int .i64 0, .string ⟨#[]⟩, .slice none 0 0, .slice none 0 0, .int .i64 0] from ⟨none, 0, none, 0, none, 0, rfl, leaf_lv _ _ _ _ _ (by unfold Rng; omega) (by unfold Rng; omega) (by decide), strs_nil _ _ _, by simp, by simp, rng_k (k := 0) (by decide) (by decide), rng_k (k := 0) (by decide) (by decide), by simp⟩) (Nat.le_trans (show depthT noneV ≤ 8 by decide) (by omega)))
  clear hb16 HMY HB15 HT15 y0 y1 y2 y3 y4 y5 y6 y7
  go_wp2_with fail
  refine HMN.out.mono ?_
  rintro e w17 ⟨rfl, hb17⟩
  rw [none6_may]
  have HB17 := hid (HB16.out.trans (hb17.mono HB16.out.size))
  have HT17 := hid (HT16.out.call hb17)
  have hb18 : Below w17.heap.size w17 (w17.alloc (.cells #[.string ⟨#[97]⟩] 9)) := (Below.refl _ _).alloc (Nat.le_refl _) _
  have HB18 := hid (HB17.out.trans (hb18.mono HB17.out.size))
  have HT18 := hid (HT17.out.call hb18)
  have HTI := hid (dltouch_any (fun b => b < (w17.alloc (.cells #[.string ⟨#[97]⟩] 9)).heap.size) _ 2 l6 (some ⟨w17.heap.size, 0, none⟩) 1 [⟨#[97]⟩] (w17.alloc (.cells #[.string ⟨#[97]⟩] 9)) (fun b hb => hb) HT18.out.dels (by decide) (strs_one6 (heap_alloc_new _ _) (by simp) (by decide)) (by decide) (by decide))
  clear hb17 hb18 HMN HB16 HT16
  go_wp2_with fail
  refine HTI.out.mono ?_
  rintro e w19 ⟨rfl, hb19⟩
  rw [l6_in]
  have HB19 := hid (HB18.out.trans (hb19.mono HB18.out.size))
  have HT19 := hid (HT18.out.call hb19)
  have hb20 : Below w19.heap.size w19 (w19.alloc (.cells #[.string ⟨#[100]⟩] 9)) := (Below.refl _ _).alloc (Nat.le_refl _) _
  have HB20 := hid (HB19.out.trans (hb20.mono HB19.out.size))
  have HT20 := hid (HT19.out.call hb20)
  have HTO := hid (dltouch_any (fun b => b < (w19.alloc (.cells #[.string ⟨#[100]⟩] 9)).heap.size) _ 2 l6 (some ⟨w19.heap.size, 0, none⟩) 1 [⟨#[100]⟩] (w19.alloc (.cells #[.string ⟨#[100]⟩] 9)) (fun b hb => hb) HT20.out.dels (by decide) (strs_one6 (heap_alloc_new _ _) (by simp) (by decide)) (by decide) (by decide))
  clear hb19 hb20 HTI HB17 HT17 HB18 HT18
  go_wp2_with fail
  refine HTO.out.mono ?_
  rintro e w21 ⟨rfl, hb21⟩
  rw [l6_out]
  have HB21 := hid (HB20.out.trans (hb21.mono HB20.out.size))
  have HT21 := hid (HT20.out.call hb21)
  have HCL := hid (dlclone_any (fun b => b < w21.heap.size) _ 2 l6 w21 (fun b hb => hb) HT21.out.dels (fun h => by cases h) (by decide))
  clear hb21 HTO HB19 HT19 HB20 HT20
  go_wp2_with fail
  refine HCL.out.mono ?_
  rintro e w22 ⟨A22, c22, rfl, -, -, -, hb22⟩
  have HB22 := hid (HB21.out.trans (hb22.mono HB21.out.size))
  simp only [show l6.length = 2 from rfl]
  clear hb22 HCL HB21 HT21
  go_wp2_with fail
  go_ret
  exact ⟨rfl, HB22.out⟩
end Go.Proofs.YtnamdlljdgllmaaGreat

/- Lists that are not large; what Apply answers, and what it answers a second time: plain. -/
namespace Go.Proofs.YtnamdlljdgllmaaGreat
set_option linter.unusedVariables false
set_option linter.unusedSimpArgs false
set_option maxRecDepth 100000
theorem dels_small {w : Go.World} {S : Nat → Prop} {A : Option Go.Addr} {l : List DelT} (h : DelsL w S A l) (hl : largeD l = false) : l.length ≤ 64 → SmallD l ∧ SmallZD l ∧ LensD 3000 l := fun h64 => by
  have h1 : ∀ d ∈ l, depthT d.val ≤ 41 ∧ d.path.length ≤ 50 ∧ largeT d.val = false := fun d hd => (largeD_small hl).2 d (by rw [List.take_of_length_le (by omega)]; exact hd)
  refine ⟨fun d hd => by have := (h1 d hd).1; omega, fun d hd => ?_, fun d hd => lens_of (h1 d hd).2.2⟩
  obtain ⟨i, hi, rfl⟩ := List.getElem_of_mem hd
  obtain ⟨b, off, -, -, hc⟩ := h (by omega)
  obtain ⟨cs', -, hop⟩ := hc i hi
  obtain ⟨PA, pc, VA, vc, VA', vc', -, hlv, -⟩ := hop
  exact size_small hlv (h1 _ hd).2.2
theorem apply_cases {l : List DelT} {t : VT} {K D : Nat} (hsm : l.length ≤ 64 → SmallD l ∧ SmallZD l ∧ LensD K l) (hlt : lensT K t = true) (hd : depthT t ≤ D) :
    (∃ R, applyD l t = (0, R) ∧ checkD l = 0 ∧ docB t = true ∧ doL l t = (0, R) ∧ DocK (K + 64) (D + 1024) R) ∨ ((applyD l t).1 ≠ 0 ∧ (applyD l t).2 = nilT) := by
  by_cases hc : checkD l = 0
  · obtain ⟨h64, hm⟩ := checkD_zero hc
    obtain ⟨-, h2, h3⟩ := hsm h64
    by_cases hb : docB t = true
    · have e : applyD l t = doL l t := by unfold applyD; rw [if_neg (by rw [hc]; simp), if_pos hb]
      rw [e]
      rcases doL_doc l t K D (fun d hd' => ⟨hm d hd', h2 d hd', h3 d hd'⟩) ⟨hb, hlt, hd⟩ with ⟨R, e1, hR⟩ | e1
      · exact .inl ⟨R, e1, hc, hb, e1, hR.mono (by omega) (by omega)⟩
      · rw [e1]; exact .inr ⟨by decide, rfl⟩
    · have e : applyD l t = (20, nilT) := by unfold applyD; rw [if_neg (by rw [hc]; simp), if_neg hb]
      rw [e]; exact .inr ⟨by decide, rfl⟩
  · have e : applyD l t = (checkD l, nilT) := by unfold applyD; rw [if_pos hc]
    rw [e]; exact .inr ⟨hc, rfl⟩
end Go.Proofs.YtnamdlljdgllmaaGreat
