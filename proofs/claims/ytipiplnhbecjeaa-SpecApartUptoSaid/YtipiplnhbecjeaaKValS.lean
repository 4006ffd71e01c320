/- How large a value is. -/
import Derived.Test.YtipiplnhbecjeaaKValF
import Derived.Deep.RegionWith
namespace Go.Proofs.Ytipiplnhbecjeaa
set_option linter.unusedVariables false
set_option linter.unusedSimpArgs false
open Go.RowKit

theorem OwnB.slice {w : World} {B : Nat} {v : Value} {l : List UInt8} (h : OwnB w B v l) : ∃ A c, v = .slice A l.length c := by
  rcases h.2 with ⟨rfl, h2⟩ | ⟨g, cap, cur, rfl, _⟩
  · exact ⟨none, 0, by rw [h2]⟩
  · exact ⟨_, _, rfl⟩
theorem wrap64_add (a b : Int) : wrap64 (wrap64 a + b) = wrap64 (a + b) := by unfold wrap64; omega
theorem wrap64_add2 (a b : Int) : wrap64 (a + wrap64 b) = wrap64 (a + b) := by unfold wrap64; omega
theorem wrap64_id {a : Int} (h1 : -9223372036854775808 ≤ a) (h2 : a ≤ 9223372036854775807) : wrap64 a = a := by unfold wrap64; omega

set_option maxHeartbeats 400000 in
theorem csize_any (n : Nat) (w : World) (hn : n ≤ 4611686018427387904) : Calls Try.prog 98 #[.int .i64 n] w fun e w' => e = .returned (.int .i64 ((grp n).length)) ∧ Below w.heap.size w w' := by
  go_enter Try.func98, Try.ntmps98
  go_wp2_with fail
  refine (count_any n _ (by omega)).mono ?_
  rintro e w1 (⟨_, _, v, rfl, hv, hb⟩ | ⟨h, _⟩)
  rotate_left
  · omega
  obtain ⟨A, c, rfl⟩ := hv.slice
  have HB := Lib.hid hb
  clear hv hb
  go_wp2_with fail
  go_ret
  exact ⟨rfl, HB.out⟩

/-- The bytes of a text's code. -/
def tsz (s : ByteArray) : Nat := (grp s.size).length + s.size
set_option maxHeartbeats 400000 in
theorem tsize_any (s : ByteArray) (w : World) (hs : s.size ≤ 140737488351232) : Calls Try.prog 97 #[.string s] w fun e w' => e = .returned (.int .i64 (tsz s)) ∧ Below w.heap.size w w' := by
  have hg := (grp_length s.size).1
  go_enter Try.func97, Try.ntmps97
  go_wp2_with fail
  refine (csize_any s.size _ (by omega)).mono ?_
  rintro e w1 ⟨rfl, hb⟩
  have HB := Lib.hid hb
  clear hb
  go_wp2_with fail
  go_ret
  exact ⟨ret_i64 (by unfold tsz; omega), HB.out⟩

def sumN (ns : List ByteArray) : Nat := (ns.map tsz).sum
def ownP (k i : Int) (s : ByteArray) (n : Nat) (ns : List ByteArray) : Nat :=
  if k = 2 then 2 else if k = 3 then 1 + (grp (zig i)).length else if k = 4 ∨ k = 5 then 1 + tsz s
  else if k = 6 then 1 + (grp n).length else if k = 7 then 1 + (grp n).length + sumN ns else 1
def ownT : VT → Nat
  | .mk k i s l ns => ownP k i s l.length ns
theorem sumN_take (ns : List ByteArray) (k : Nat) (hk : k < ns.length) : sumN (ns.take (k + 1)) = sumN (ns.take k) + tsz ns[k] := by
  unfold sumN
  rw [List.take_add_one, List.getElem?_eq_getElem hk, List.map_append, List.sum_append]
  simp
theorem sumN_all (ns : List ByteArray) (k : Nat) (hk : ns.length ≤ k) : sumN (ns.take k) = sumN ns := by rw [List.take_of_length_le hk]
theorem tsz_le (s : ByteArray) (h : s.size ≤ 140737488351232) : tsz s ≤ 140737488351300 := by have := (grp_length s.size).1; unfold tsz; omega

section
variable (i : Int) (s : ByteArray) (A A' : Option Addr) (n c c' : Nat) (ns : List ByteArray) (w : World)
set_option maxHeartbeats 1000000
set_option maxRecDepth 100000
theorem own1 (k : Int) (hk : ¬ (2 ≤ k ∧ k ≤ 7)) : Calls Try.prog 83 #[.agg #[.int .i64 k, .int .i64 i, .string s, .slice A n c, .slice A' ns.length c']] w fun e w' => e = .returned (.int .i64 (wrap64 (ownP k i s n ns))) ∧ Below w.heap.size w w' := by
  have e0 : ownP k i s n ns = 1 := by
    unfold ownP
    rw [if_neg (by omega), if_neg (by omega), if_neg (by omega), if_neg (by omega), if_neg (by omega)]
  rw [e0]
  have b2 : (k == 2) = false := by simp; omega
  have b3 : (k == 3) = false := by simp; omega
  have b4 : (k == 4) = false := by simp; omega
  have b5 : (k == 5) = false := by simp; omega
  have b6 : (k == 6) = false := by simp; omega
  have b7 : (k == 7) = false := by simp; omega
  clear e0 hk
  go_enter Try.func83, Try.ntmps83
  go_wp2_with fail
  go_ret
  exact ⟨ret_i64 (by rw [wrap64_id (by decide) (by decide)]; rfl), below_box _⟩
theorem own2 : Calls Try.prog 83 #[.agg #[.int .i64 2, .int .i64 i, .string s, .slice A n c, .slice A' ns.length c']] w fun e w' => e = .returned (.int .i64 (wrap64 (ownP 2 i s n ns))) ∧ Below w.heap.size w w' := by
  go_enter Try.func83, Try.ntmps83
  go_wp2_with fail
  go_ret
  exact ⟨ret_i64 (by unfold ownP; rw [if_pos rfl, wrap64_id (by decide) (by decide)]; rfl), below_box _⟩
theorem own3 (hi : Rng i) : Calls Try.prog 83 #[.agg #[.int .i64 3, .int .i64 i, .string s, .slice A n c, .slice A' ns.length c']] w fun e w' => e = .returned (.int .i64 (wrap64 (ownP 3 i s n ns))) ∧ Below w.heap.size w w' := by
  have hg := (grp_length (zig i)).1
  go_enter Try.func83, Try.ntmps83
  go_wp2_with fail
  refine (int_any i _ hi.1 hi.2).mono ?_
  rintro e w1 ⟨v, rfl, hv, hb⟩
  obtain ⟨A2, c2, rfl⟩ := hv.slice
  have HB := Lib.hid (toStart (below_box _) hb)
  clear hv hb
  go_wp2_with fail
  go_ret
  exact ⟨ret_i64 (by unfold ownP; simp; rw [wrap64_id (by omega) (by omega)]), HB.out⟩
theorem own45 (k : Int) (hk : k = 4 ∨ k = 5) (hs : s.size ≤ 140737488351232) : Calls Try.prog 83 #[.agg #[.int .i64 k, .int .i64 i, .string s, .slice A n c, .slice A' ns.length c']] w fun e w' => e = .returned (.int .i64 (wrap64 (ownP k i s n ns))) ∧ Below w.heap.size w w' := by
  have hg := tsz_le s hs
  have HS := Lib.hid hs
  clear hs
  have e0 : ownP k i s n ns = 1 + tsz s := by unfold ownP; rw [if_neg (by omega), if_neg (by omega), if_pos hk]
  rw [e0]
  clear e0
  rcases hk with rfl | rfl
  all_goals
    go_enter Try.func83, Try.ntmps83
    go_wp2_with fail
    refine (tsize_any s _ HS.out).mono ?_
    rintro e w1 ⟨rfl, hb⟩
    have HB := Lib.hid (toStart (below_box _) hb)
    clear hb
    go_wp2_with fail
    go_ret
    exact ⟨ret_i64 (by rw [wrap64_id (by omega) (by omega)]; omega), HB.out⟩
theorem own6 (hn : n ≤ 140737488351232) : Calls Try.prog 83 #[.agg #[.int .i64 6, .int .i64 i, .string s, .slice A n c, .slice A' ns.length c']] w fun e w' => e = .returned (.int .i64 (wrap64 (ownP 6 i s n ns))) ∧ Below w.heap.size w w' := by
  have hg := (grp_length n).1
  go_enter Try.func83, Try.ntmps83
  go_wp2_with fail
  refine (csize_any n _ (by omega)).mono ?_
  rintro e w1 ⟨rfl, hb⟩
  have HB := Lib.hid (toStart (below_box _) hb)
  clear hb
  go_wp2_with fail
  go_ret
  exact ⟨ret_i64 (by unfold ownP; simp; rw [wrap64_id (by omega) (by omega)]), HB.out⟩
theorem own7 (S : Nat → Prop) (hS : ∀ b, S b → b < w.heap.size) (hN : StrsAt w S A' ns) (hl : ns.length ≤ 140737488351232) (hn : n ≤ 140737488351232) :
    Calls Try.prog 83 #[.agg #[.int .i64 7, .int .i64 i, .string s, .slice A n c, .slice A' ns.length c']] w fun e w' => e = .returned (.int .i64 (wrap64 (ownP 7 i s n ns))) ∧ Below w.heap.size w w' := by
  have hg := (grp_length n).1
  have e0 : ownP 7 i s n ns = 1 + (grp n).length + sumN ns := by unfold ownP; simp
  have HE := Lib.hid e0
  clear e0
  generalize ownP 7 i s n ns = R at *
  have HN := Lib.hid hN
  have HL := Lib.hid hl
  clear hN
  go_enter Try.func83, Try.ntmps83
  go_wp2_with fail
  refine (csize_any n _ (by omega)).mono ?_
  rintro e w1 ⟨rfl, hb⟩
  have hcell : ∀ q, w1.cell? ⟨w.heap.size, q, none⟩ = (w.alloc (.cells #[.int .i64 7, .int .i64 i, .string s, .slice A n c, .slice A' ns.length c'] 25)).cell? ⟨w.heap.size, q, none⟩ := fun q => hb.cell (p := ⟨w.heap.size, q, none⟩) (by simp)
  have k4 := hcell 4
  simp at k4
  have HB := Lib.hid (toStart (below_box _) hb)
  clear hb hcell
  go_wp2_with fail
  go_loopw [3, 41] (fun tot j wr => ∃ k : Nat, j = .int .i64 k ∧ k ≤ ns.length ∧ tot = .int .i64 (wrap64 ((1 + (grp n).length + sumN (ns.take k) : Nat) : Int)) ∧ Hid (Below w.heap.size w wr)) (fun _ j _ => ns.length - (intOf j).toNat)
  case atStart => exact ⟨0, rfl, Nat.zero_le _, by rw [wrap64_id (by simp [sumN]; omega) (by simp [sumN]; omega)]; simp [sumN], HB.out⟩
  case round =>
    obtain ⟨k, rfl, hk, rfl, HI⟩ := hrel
    by_cases hlt : k < ns.length
    · obtain ⟨b, off, rfl, hb, hcells⟩ := HN.out (by omega)
      obtain ⟨hc0, hsz⟩ := hcells k hlt
      have hcx : wr.cell? ⟨b, off + k, none⟩ = some (.string ns[k]) := (HI.out.cell (p := ⟨b, off + k, none⟩) (hS b hb)).trans hc0
      have hst := sumN_take ns k hlt
      generalize hgs : ns[k] = s1 at *
      have HSZ := Lib.hid hsz
      have HST := Lib.hid hst
      clear hcells hc0 hsz hst
      generalize hR : 1 + (grp n).length + sumN (ns.take k) = T at *
      go_wp2_with fail
      refine (tsize_any s1 _ HSZ.out).mono ?_
      rintro e w2 ⟨rfl, hb2⟩
      have HB2 := Lib.hid (HI.out.trans (hb2.mono HI.out.size))
      clear hb2 HI
      go_wp2_with fail
      go_roundw
      case rel => exact ⟨k + 1, by go_num, by omega, by
        have e1 : 1 + (grp n).length + sumN (ns.take (k + 1)) = T + tsz s1 := by rw [HST.out]; omega
        rw [e1, wrap64_add]; congr 2, HB2⟩
      case measure => simp [intOf]; omega
    · have e1 := sumN_all ns k (by omega)
      rw [e1, ← HE.out]
      go_wp2_with fail
      go_ret
      exact ⟨rfl, HI.out⟩
end
theorem own_any (S : Nat → Prop) (t : VT) (v : Value) (w : World) (hS : ∀ b, S b → b < w.heap.size) (h : LV w S t v) : Calls Try.prog 83 #[v] w fun e w' => e = .returned (.int .i64 (wrap64 (ownT t))) ∧ Below w.heap.size w w' := by
  obtain ⟨A, c, A', c', rfl, -, h2, h3, h4, h5, h6, -⟩ := h.shape
  cases t with
  | mk k i s l ns =>
  show Calls Try.prog 83 #[.agg #[.int .i64 k, .int .i64 i, .string s, .slice A l.length c, .slice A' ns.length c']] w fun e w' => e = .returned (.int .i64 (wrap64 (ownP k i s l.length ns))) ∧ Below w.heap.size w w'
  by_cases hk : 2 ≤ k ∧ k ≤ 7
  · obtain rfl | rfl | hk | rfl | rfl : k = 2 ∨ k = 3 ∨ (k = 4 ∨ k = 5) ∨ k = 6 ∨ k = 7 := by omega
    · exact own2 _ _ _ _ _ _ _ _ _
    · exact own3 _ _ _ _ _ _ _ _ _ h2
    · exact own45 _ _ _ _ _ _ _ _ _ k hk h3
    · exact own6 _ _ _ _ _ _ _ _ _ h4
    · exact own7 _ _ _ _ _ _ _ _ _ S hS h6 h5 h4
  · exact own1 _ _ _ _ _ _ _ _ _ k hk
end Go.Proofs.Ytipiplnhbecjeaa

/- How large a value is: the walk's sum. -/
namespace Go.Proofs.Ytipiplnhbecjeaa
set_option linter.unusedVariables false
set_option linter.unusedSimpArgs false
open Go.RowKit

theorem LV.drew {w : World} {S : Nat → Prop} {t : VT} {v : Value} (h : LV w S t v) : LV w.drew S t v := LV.keep (w := w) (w' := w.drew) (fun _ _ => rfl) h
theorem enters_size : Enters 82 := fun _ _ => by simp [callFunc, go_sem, Try.func82, Try.f82]
theorem i64wrap (x : Int) : IntKind.i64.wrap x = wrap64 x := by rw [IntKind.wrap_i64]; unfold wrap64; rfl
def sizF : VT → Nat → Int → Int × Bool := fun x _ st => (wrap64 (st + wrap64 (ownT x)), true)
mutual
def sizeT : VT → Nat
  | .mk k i s l ns => ownP k i s l.length ns + sizeL l
def sizeL : List VT → Nat
  | [] => 0
  | t :: r => sizeT t + sizeL r
end
mutual
theorem walk_siz : ∀ (t : VT) (d : Nat) (st : Int), walkT sizF t d (wrap64 st) = (wrap64 (st + sizeT t), true)
  | .mk k i s l ns, d, st => by
    rw [walkT_go (f := sizF) rfl]
    show walkL sizF l (d + 1) (wrap64 (wrap64 st + wrap64 (ownP k i s l.length ns))) = _
    rw [wrap64_add2, wrap64_add, walk_sizL l]
    unfold sizeT
    congr 2; omega
theorem walk_sizL : ∀ (l : List VT) (d : Nat) (st : Int), walkL sizF l d (wrap64 st) = (wrap64 (st + sizeL l), true)
  | [], d, st => by rw [walkL_nil]; unfold sizeL; simp
  | t :: r, d, st => by
    have h := walk_siz t d st
    rw [walkL_go (by rw [h]), h]
    show walkL sizF r d (wrap64 (st + sizeT t)) = _
    rw [walk_sizL r]
    conv => rhs; unfold sizeL
    congr 2; omega
end

set_option maxHeartbeats 1000000 in
theorem sizC_any (S : Nat → Prop) (g : Nat) (x : VT) (v : Value) (W : World) (lvl : Nat) (st : Int) (hS : ∀ b, S b → b < g) (hg : g < W.heap.size) (h : LV W S x v) (hc : Cell1 W g (.int .i64 (wrap64 st))) :
    Calls Try.prog 82 #[v, .int .i64 lvl, .pointer (some ⟨g, 0, none⟩)] W fun e w' => e = .returned (.bool true) ∧ Cell1 w' g (.int .i64 (wrap64 (st + wrap64 (ownT x)))) ∧ Only W w' g := by
  have HV := Lib.hid h
  obtain ⟨A, c, A', c', rfl, -, -, -, -, -, -, -⟩ := h.shape
  obtain ⟨o, ho⟩ : ∃ o : Obj, o = .cells #[.int .i64 x.kind, .int .i64 x.num, .string x.text, .slice A x.items.length c, .slice A' x.names.length c'] 25 := ⟨_, rfl⟩
  have HO := Lib.hid ho
  have HC := Lib.hid hc
  have c0 := hc.cell
  have f0 := hc.free
  have hc2 := hc.alloc hg o
  have C0 : Hid ((W.alloc o).drew.cell? ⟨g, 0, none⟩ = some (.int .i64 (wrap64 st))) := hc2.cell
  have F0 : Hid ((W.alloc o).drew.frozen? ⟨g, 0, none⟩ = false) := hc2.free
  have HG : Hid (g < (W.alloc o).drew.heap.size) := by
    show g < (W.alloc o).heap.size
    simp; omega
  have HC2 : Hid (Cell1 (W.alloc o).drew g (.int .i64 (wrap64 st))) := hc2
  have HON : Hid (Only W (W.alloc o).drew g) := Only.ofBelow ((below_box o).drew)
  have HW := Lib.hid (own_any S x _ (W.alloc o).drew (fun b hb => by have := hS b hb; simp; omega) (h.alloc (fun b hb => Nat.lt_trans (hS b hb) hg) o).drew)
  clear h hc hc2
  subst ho
  go_enter Try.func82, Try.ntmps82
  go_wp2_with fail
  go_region_with (go_at_call 83; refine HW.out.mono ?_; rintro e w1 ⟨rfl, hb⟩; have c1 := (hb.cell (p := ⟨g, 0, none⟩) HG.out).trans C0.out; have f1 := (World.frozen?_of_block (a := ⟨g, 0, none⟩) (hb.block g HG.out)).trans F0.out)
  all_goals
    have hcw : Cell1 w1 g _ := (hb.block g HG.out).trans HC2.out
    have how : Only W w1 g := HON.out.trans (Only.ofBelow hb)
    have HF := Lib.hid (And.intro (hcw.set (.int .i64 (wrap64 (st + wrap64 (ownT x))))) (how.set 0 (.int .i64 (wrap64 (st + wrap64 (ownT x))))))
    have e : IntKind.i64.wrap (wrap64 st + wrap64 (ownT x)) = wrap64 (st + wrap64 (ownT x)) := (i64wrap _).trans (wrap64_add _ _)
    rw [e]
    clear hcw how hb HW HON HC2 HG C0 F0 HV HC c0 f0 e c1 f1
    go_wp2
    go_ret
    exact ⟨rfl, HF.out⟩

set_option maxHeartbeats 400000 in
theorem size_any (S : Nat → Prop) (t : VT) (v : Value) (w : World) (hS : ∀ b, S b → b < w.heap.size) (h : LV w S t v) (hd : depthT t ≤ 4611686018427387903) : Calls Try.prog 59 #[v] w fun e w' => e = .returned (.int .i64 (wrap64 (sizeT t))) ∧ Below w.heap.size w w' := by
  obtain ⟨A, c, A', c', rfl, -, -, -, -, -, -, -⟩ := h.shape
  obtain ⟨o, ho⟩ : ∃ o : Obj, o = .cells #[.int .i64 t.kind, .int .i64 t.num, .string t.text, .slice A t.items.length c, .slice A' t.names.length c'] 25 := ⟨_, rfl⟩
  obtain ⟨w2, hw2⟩ : ∃ w2 : World, w2 = (w.alloc o).alloc (.cells #[.int .i64 0] 3) := ⟨_, rfl⟩
  have hsz : w2.heap.size = w.heap.size + 2 := by rw [hw2]; simp
  have hb2 : Below w.heap.size w w2 := by rw [hw2]; exact ((below_box o).alloc (by simp) _)
  have hs : Shows 82 #[.pointer (some ⟨w.heap.size + 1, 0, none⟩)] S (w.heap.size + 1) (fun W st => ∃ st0, st = wrap64 st0 ∧ Cell1 W (w.heap.size + 1) (.int .i64 (wrap64 st0))) sizF 4611686018427387904 := by
    rintro x v W lvl _ hg hv hl ⟨st, rfl, hc⟩
    refine (sizC_any S _ x v W lvl st (fun b hb => Nat.lt_succ_of_lt (hS b hb)) hg hv hc).mono fun e w' ⟨he, hb, ho⟩ => ⟨he, ⟨st + wrap64 (ownT x), ?_, hb⟩, ho⟩
    show wrap64 (wrap64 st + wrap64 (ownT x)) = _
    exact wrap64_add _ _
  have hc0 : Cell1 w2 (w.heap.size + 1) (.int .i64 (wrap64 0)) := by
    have := heap_alloc_new (w.alloc o) (.cells #[.int .i64 0] 3)
    rw [hw2, wrap64_id (by decide) (by decide)]
    unfold Cell1
    simpa using this
  have HC := Lib.hid (walk_any 82 #[.pointer (some ⟨w.heap.size + 1, 0, none⟩)] S (w.heap.size + 1) (fun W st => ∃ st0, st = wrap64 st0 ∧ Cell1 W (w.heap.size + 1) (.int .i64 (wrap64 st0))) sizF 4611686018427387904 enters_size (fun b hb => Nat.lt_succ_of_lt (hS b hb)) (Nat.le_refl _) (fun _ _ _ he ⟨st0, hi, hc⟩ => ⟨st0, hi, he.trans hc⟩) hs (depthT t) t _ w2 1 (wrap64 0) (Nat.le_refl _)
    (h.below hS hb2) (by omega) (by omega) ⟨0, rfl, hc0⟩)
  have hr := walk_siz t 1 0
  have hr1 : (walkT sizF t 1 (wrap64 0)).1 = wrap64 (sizeT t) := by rw [hr]; show wrap64 (0 + (sizeT t : Int)) = _; rw [Int.zero_add]
  rw [hr1] at HC
  have HB := Lib.hid hb2
  subst ho hw2
  clear h hs hr hr1 hc0 hb2 hsz
  go_enter Try.func59, Try.ntmps59
  go_wp2_with fail
  refine HC.out.mono ?_
  rintro e w' ⟨rfl, ⟨st0, hst, hc⟩, ho⟩
  rw [← hst] at hc
  have c0 := hc.cell
  have HB2 := Lib.hid (HB.out.trans (ho.below (B := w.heap.size) (by simp; omega) (by omega)))
  clear hc ho HC HB hst
  go_wp2_with fail
  go_ret
  exact ⟨rfl, HB2.out⟩
end Go.Proofs.Ytipiplnhbecjeaa

/- Whether a value is whole. -/
namespace Go.Proofs.Ytipiplnhbecjeaa
set_option linter.unusedVariables false
set_option linter.unusedSimpArgs false
open Go.RowKit

/-- A variable that holds a value. -/
def Box (w : World) (g : Nat) (a b c d e : Value) : Prop := w.heap[g]? = some (.cells #[a, b, c, d, e] 25 (0, 0))
theorem Box.c0 {w : World} {g : Nat} {a b c d e : Value} (h : Box w g a b c d e) : w.cell? ⟨g, 0, none⟩ = some a := Go.Joins.cell_of_block h 0
theorem Box.c1 {w : World} {g : Nat} {a b c d e : Value} (h : Box w g a b c d e) : w.cell? ⟨g, 1, none⟩ = some b := Go.Joins.cell_of_block h 1
theorem Box.c2 {w : World} {g : Nat} {a b c d e : Value} (h : Box w g a b c d e) : w.cell? ⟨g, 2, none⟩ = some c := Go.Joins.cell_of_block h 2
theorem Box.c3 {w : World} {g : Nat} {a b c d e : Value} (h : Box w g a b c d e) : w.cell? ⟨g, 3, none⟩ = some d := Go.Joins.cell_of_block h 3
theorem Box.c4 {w : World} {g : Nat} {a b c d e : Value} (h : Box w g a b c d e) : w.cell? ⟨g, 4, none⟩ = some e := Go.Joins.cell_of_block h 4
theorem Box.free {w : World} {g : Nat} {a b c d e : Value} (h : Box w g a b c d e) (i : Nat) : w.frozen? ⟨g, i, none⟩ = false := Go.Joins.unfrozen_of_block h i
theorem Box.lt {w : World} {g : Nat} {a b c d e : Value} (h : Box w g a b c d e) : g < w.heap.size := (Array.getElem?_eq_some_iff.1 h).1
theorem Box.new {w : World} (a b c d e : Value) : Box (w.alloc (.cells #[a, b, c, d, e] 25)) w.heap.size a b c d e := heap_alloc_new w _
theorem Box.below {w w' : World} {g B : Nat} {a b c d e : Value} (h : Box w g a b c d e) (hb : Below B w w') (hg : g < B) : Box w' g a b c d e := (hb.block g hg).trans h
theorem Box.call {w w' : World} {g : Nat} {a b c d e : Value} (h : Box w g a b c d e) (hb : Below w.heap.size w w') : Box w' g a b c d e := h.below hb h.lt
theorem Box.alloc {w : World} {g : Nat} {a b c d e : Value} (h : Box w g a b c d e) (o : Obj) : Box (w.alloc o) g a b c d e := (Below.heap_alloc w o g h.lt).trans h

def checkT (t : VT) : Int := if mayT t then (if 8 < (depthT t : Int) then 21 else if 4096 < wrap64 (sizeT t) then 22 else 0) else 20

section
variable (S : Nat → Prop) (t : VT) (v : Value) (w : World)
set_option maxHeartbeats 400000

theorem check_any (hS : ∀ b, S b → b < w.heap.size) (h : LV w S t v) (hd : depthT t ≤ 4611686018427387903) : Calls Try.prog 34 #[v] w fun e w' => e = .returned (.int .i64 (checkT t)) ∧ Below w.heap.size w w' := by
  have HV := Lib.hid h
  obtain ⟨A, c, A', c', rfl, -, -, -, -, -, -, -⟩ := h.shape
  have HX := Lib.hid (Box.new (w := w) (.int .i64 t.kind) (.int .i64 t.num) (.string t.text) (.slice A t.items.length c) (.slice A' t.names.length c'))
  have HM := Lib.hid (may_any S t _ _ (sub_alloc hS _) (h.alloc hS (.cells #[.int .i64 t.kind, .int .i64 t.num, .string t.text, .slice A t.items.length c, .slice A' t.names.length c'] 25)) hd)
  have HD := Lib.hid hd
  have HE : Hid (checkT t = if mayT t then (if 8 < (depthT t : Int) then 21 else if 4096 < wrap64 (sizeT t) then 22 else 0) else 20) := rfl
  generalize checkT t = R at *
  clear h hd
  generalize hm : mayT t = m at *
  clear hm
  go_enter Try.func34, Try.ntmps34
  go_wp2_with fail
  refine HM.out.mono ?_
  rintro e w1 ⟨rfl, hb⟩
  have HB1 := Lib.hid (toStart (below_box _) hb)
  have hx := HX.out.call hb
  have HX1 := Lib.hid hx
  have k0 := hx.c0
  have k1 := hx.c1
  have k2 := hx.c2
  have k3 := hx.c3
  have k4 := hx.c4
  clear hx hb HM HX
  cases m
  · go_wp2_with fail
    go_ret
    rw [HE.out]
    exact ⟨rfl, HB1.out⟩
  · go_wp2_with fail
    refine (depth_any S t _ w1 (sub_below hS HB1.out) (HV.out.below hS HB1.out) HD.out).mono ?_
    rintro e w2 ⟨rfl, hb⟩
    have HB2 := Lib.hid (toStart HB1.out hb)
    have hx := HX1.out.call hb
    clear k0 k1 k2 k3 k4
    have k0 := hx.c0
    have k1 := hx.c1
    have k2 := hx.c2
    have k3 := hx.c3
    have k4 := hx.c4
    clear hx hb HB1 HX1
    by_cases h8 : 8 < (depthT t : Int)
    · have e1 : R = 21 := by rw [HE.out, if_pos trivial, if_pos h8]
      go_wp2_with fail
      go_ret
      rw [e1]
      exact ⟨rfl, HB2.out⟩
    · have HE2 : Hid (R = if 4096 < wrap64 (sizeT t) then 22 else 0) := Lib.hid (by rw [HE.out, if_pos trivial, if_neg h8])
      clear HE
      go_wp2_with fail
      refine (size_any S t _ w2 (sub_below hS HB2.out) (HV.out.below hS HB2.out) HD.out).mono ?_
      rintro e w3 ⟨rfl, hb⟩
      have HB3 := Lib.hid (toStart HB2.out hb)
      clear k0 k1 k2 k3 k4 hb HB2 HV
      generalize wrap64 (sizeT t) = z at *
      by_cases hz : 4096 < z
      · have e1 : R = 22 := by rw [HE2.out, if_pos hz]
        go_wp2_with fail
        go_ret
        rw [e1]
        exact ⟨rfl, HB3.out⟩
      · have e1 : R = 0 := by rw [HE2.out, if_neg hz]
        go_wp2_with fail
        go_ret
        rw [e1]
        exact ⟨rfl, HB3.out⟩
end
end Go.Proofs.Ytipiplnhbecjeaa
