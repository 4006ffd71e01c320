/- Texts cut at points, by the program and by the document. -/
import Derived.Test.YthmgbginelbcoaaPathM
import Derived.Outline
import Derived.StillTailTactics
import Derived.Lib.DecodeN
namespace Go.Proofs.Ythmgbginelbcoaa
set_option linter.unusedVariables false
set_option linter.unusedSimpArgs false
open Go.RowKit

theorem Try.infoStrP : (Try.prog.info? 9).map (fun i => (i.zero, i.size, i.bytes)) = some (some (.string ByteArray.empty), 1, 16) := by kernel_rfl
/-- A slice of texts that the call owns, from block B on. -/
def OwnS (w : World) (B : Nat) (v : Value) (ns : List ByteArray) : Prop := w.ownsRow B 9 1 v ns.length (ns.map Value.string)
theorem OwnS.nil (w : World) (B : Nat) : OwnS w B (.slice none 0 0) [] := World.ownsRow_nil _ _ _ _
theorem OwnS.app {w : World} {B : Nat} {v : Value} {ns : List ByteArray} {s : ByteArray} (h : w.ownsRow B 9 1 v (ns.length + 1) (ns.map Value.string ++ [.string s])) : OwnS w B v (ns ++ [s]) := by
  unfold OwnS
  rw [List.length_append, List.map_append]
  exact h
theorem OwnS.opens {w : World} {B : Nat} {v : Value} {ns : List ByteArray} (h : OwnS w B v ns) (hs : ∀ s ∈ ns, s.size ≤ 140737488351232) :
    ∃ A c, v = .slice A ns.length c ∧ ns.length ≤ c ∧ StrsAt w (fun b => B ≤ b ∧ b < w.heap.size) A ns := by
  have hlt := World.ownsRow.lt h
  have hcl := fun g hg => World.ownsRow.cells (g := g) h hg
  rcases h.2 with ⟨rfl, h0⟩ | ⟨g, cap, cur, rfl, hB, hh, hc, -, -, -⟩
  · obtain rfl := List.eq_nil_of_length_eq_zero h0
    exact ⟨none, 0, rfl, Nat.le_refl _, StrsAt.nil⟩
  · refine ⟨some ⟨g, 0, none⟩, cap, rfl, hc, fun hp => ⟨g, 0, rfl, hlt g rfl, fun i hi => ⟨?_, hs _ (List.getElem_mem hi)⟩⟩⟩
    have h1 := hcl g rfl i (.string ns[i]) (by simp [hi])
    rw [add_at] at h1
    exact h1
/-- It answers a slice of its own, with the texts ns. -/
def GivesS (ns : List ByteArray) (w : World) (e : Ending) (w' : World) : Prop := ∃ v, e = .returned v ∧ OwnS w' w.heap.size v ns ∧ Below w.heap.size w w'

theorem OwnS.keep {w w' : World} {B : Nat} {v : Value} {ns : List ByteArray} (h : OwnS w B v ns) (hk : ∀ b, B ≤ b → w'.heap[b]? = w.heap[b]?) : OwnS w' B v ns := by
  refine ⟨h.1, ?_⟩
  rcases h.2 with h0 | ⟨g, cap, cur, h1, h2, h3, h4⟩
  · exact .inl h0
  · exact .inr ⟨g, cap, cur, h1, h2, (hk g h2).trans h3, h4⟩
theorem OwnS.base {w : World} {B B' : Nat} {v : Value} {ns : List ByteArray} (h : OwnS w B v ns) (hB : B' ≤ B) : OwnS w B' v ns := by
  refine ⟨h.1, ?_⟩
  rcases h.2 with h0 | ⟨g, cap, cur, h1, h2, h3, h4⟩
  · exact .inl h0
  · exact .inr ⟨g, cap, cur, h1, by omega, h3, h4⟩

theorem decode_run (s : ByteArray) (i : Nat) (hi : i < s.size) (h : 128 ≤ s[i].toNat) : i + (Utf8.decode s i).2 ≤ s.size ∧ ∀ j (hj : j < s.size), i ≤ j → j < i + (Utf8.decode s i).2 → s[j].toNat ≠ 46 := by
  have hg : ∀ k (hk : k < s.size), s.get! k = s[k] := fun k hk => by
    have := get_at s k hk
    simpa using this
  have h0 : (s.get! i).toNat = s[i].toNat := by rw [hg i hi]
  rw [Lib.decode_at]
  unfold Lib.decodeN
  rw [h0]
  have key : ∀ j (hj : j < s.size), (s.get! j).toNat = s[j].toNat := fun j hj => by rw [hg j hj]
  have k1 : ∀ (hj : i + 1 < s.size), (s.get! (i + 1)).toNat = s[i + 1].toNat := fun hj => key _ hj
  have k2 : ∀ (hj : i + 2 < s.size), (s.get! (i + 2)).toNat = s[i + 2].toNat := fun hj => key _ hj
  have k3 : ∀ (hj : i + 3 < s.size), (s.get! (i + 3)).toNat = s[i + 3].toNat := fun hj => key _ hj
  have hj0 : ∀ j (hj : j < s.size), j = i → s[j].toNat ≠ 46 := fun j hj e => by subst e; omega
  rw [if_neg (by omega)]
  split
  · next hc =>
    split
    · refine ⟨by omega, fun j hj h1 h2 => ?_⟩
      rcases (by omega : j = i ∨ j = i + 1) with rfl | rfl
      · omega
      · rw [← key _ hj]; omega
    · exact ⟨by omega, fun j hj h1 h2 => hj0 j hj (by omega)⟩
  · split
    · next hc =>
      split
      · refine ⟨by omega, fun j hj h1 h2 => ?_⟩
        rcases (by omega : j = i ∨ j = i + 1 ∨ j = i + 2) with rfl | rfl | rfl
        · omega
        · rw [← key _ hj]; omega
        · rw [← key _ hj]; omega
      · exact ⟨by omega, fun j hj h1 h2 => hj0 j hj (by omega)⟩
    · split
      · next hc =>
        split
        · refine ⟨by omega, fun j hj h1 h2 => ?_⟩
          rcases (by omega : j = i ∨ j = i + 1 ∨ j = i + 2 ∨ j = i + 3) with rfl | rfl | rfl | rfl
          · omega
          · rw [← key _ hj]; omega
          · rw [← key _ hj]; omega
          · rw [← key _ hj]; omega
        · exact ⟨by omega, fun j hj h1 h2 => hj0 j hj (by omega)⟩
      · exact ⟨by omega, fun j hj h1 h2 => hj0 j hj (by omega)⟩

/-- The iterator's block behind an append to a row that lies behind it. -/
theorem iter_app {w w1 : World} {k : Nat} {s : ByteArray} {p : Nat} {o : Obj} {row : Option Nat} (h : w.heap[k]? = some (.stringIter s p)) (hg : (w.alloc o).grownBy w1 row) (hr : ∀ g, row = some g → k + 1 ≤ g) : w1.heap[k]? = some (.stringIter s p) := by
  have hk : k < w.heap.size := (Array.getElem?_eq_some_iff.1 h).1
  have h1 := hg.block k (by simp; omega) (fun e => by have := hr k e.symm; omega)
  rw [h1]
  exact (((Below.refl w.heap.size w).alloc (Nat.le_refl _) o).block k hk).trans h
theorem take_drop_run (l : List UInt8) (b k m : Nat) (hb : b ≤ k) (hk : k ≤ m) : (l.take m).drop b = (l.take k).drop b ++ (l.drop k).take (m - k) := by
  have e : l.take m = l.take k ++ (l.drop k).take (m - k) := by
    rw [← List.take_add]; congr 1; omega
  rw [e]
  by_cases hl : k ≤ l.length
  · rw [List.drop_append_of_le_length (by simp; omega)]
  · rw [List.drop_of_length_le (by omega : l.length ≤ k)]; simp
structure SplitR (s : ByteArray) (acc : List (List UInt8)) (b k : Nat) : Prop where
  bk : b ≤ k
  len : acc.length ≤ k
  eq : splitG acc ((s.data.toList.take k).drop b) (s.data.toList.drop k) = splitL s.data.toList
theorem SplitR.dot {s : ByteArray} {acc : List (List UInt8)} {b k : Nat} (h : SplitR s acc b k) (hk : k < s.size) (hd : s[k].toNat = 46) : SplitR s (acc ++ [(s.data.toList.take k).drop b]) (k + 1) (k + 1) := by
  refine ⟨Nat.le_refl _, by have := h.len; simp; omega, ?_⟩
  rw [← h.eq, drop_cons s k hk, splitG_dot _ _ _ _ hd, List.drop_take]
  simp
theorem SplitR.run {s : ByteArray} {acc : List (List UInt8)} {b k m : Nat} (h : SplitR s acc b k) (hk : k ≤ m) (hm : m ≤ s.size) (hd : ∀ j (hj : j < s.size), k ≤ j → j < m → s[j].toNat ≠ 46) : SplitR s acc b m := by
  refine ⟨Nat.le_trans h.bk hk, Nat.le_trans h.len hk, ?_⟩
  have e : s.data.toList.drop k = (s.data.toList.drop k).take (m - k) ++ s.data.toList.drop m := by
    have h1 := (List.take_append_drop (m - k) (s.data.toList.drop k)).symm
    rw [List.drop_drop, show k + (m - k) = m by omega] at h1
    exact h1
  rw [← h.eq, e, splitG_run, ← take_drop_run _ _ _ _ h.bk hk]
  intro x hx
  obtain ⟨j, hj, rfl⟩ := List.mem_iff_getElem.1 hx
  rw [List.getElem_take, List.getElem_drop]
  have hl : s.data.toList.length = s.size := rfl
  simp at hj
  exact hd (k + j) (by omega) (by omega) (by omega)
theorem SplitR.end {s : ByteArray} {acc : List (List UInt8)} {b : Nat} (h : SplitR s acc b s.size) : splitL s.data.toList = acc ++ [s.data.toList.drop b] := by
  rw [← h.eq, List.drop_of_length_le (show s.data.toList.length ≤ s.size from Nat.le_refl _), List.take_of_length_le (show s.data.toList.length ≤ s.size from Nat.le_refl _)]
  rfl
theorem extract_of (s : ByteArray) (b k : Nat) : s.extract b k = bsOf ((s.data.toList.take k).drop b) := by
  rw [← bsOf_of (s.extract b k), Lib.extract_data, List.drop_take]
theorem below_appS {B : Nat} {w wr w1 : World} {v : Value} {l : List ByteArray} {o : Obj} (hb : Below B w wr) (hB : B ≤ w.heap.size) (hown : OwnS wr (B + 1) v l) (hg : (wr.alloc o).grownBy w1 v.ownBlock) : Below B w w1 :=
  (hb.alloc (Nat.le_trans hB hb.size) o).grown hg (by have := hb.size; simp; omega) (fun k hk => by have := (World.ownsRow.lt hown k hk).1; omega)

set_option maxHeartbeats 4000000 in
set_option maxRecDepth 100000 in
theorem split_any (s : ByteArray) (w : World) (hs : s.size ≤ 100000) : Calls Try.prog 22 #[.string s] w (GivesS (splitS s.data.toList) w) := by
  obtain ⟨i0, hi, hz0, hz1, hz2⟩ := info_parts Try.infoStrP
  have HS := Lib.hid hs
  go_enter Try.func22, Try.ntmps22
  go_wp2_with fail
  go_loopw [3, 4] (fun v b wr => ∃ (k m : Nat) (acc : List (List UInt8)), b = .int .i64 m ∧ k ≤ s.size ∧ m ≤ k ∧ wr.heap[w.heap.size]? = some (.stringIter s k) ∧ Hid (Below w.heap.size w wr) ∧ Hid (OwnS wr (w.heap.size + 1) v (acc.map bsOf)) ∧ Hid (SplitR s acc m k)) (fun _ _ wr => s.size - wr.iterPos w.heap.size)
  case atStart => exact ⟨0, 0, [], rfl, by omega, by omega, World.iter_heap _ _ _, (Below.refl _ _).alloc (Nat.le_refl _) _, OwnS.nil _ _, ⟨by omega, by simp, by simp [splitL]⟩⟩
  case round =>
    obtain ⟨k, m, acc, rfl, hk, hmk, hit, HB, HO, HR⟩ := hrel
    have hsz : w.heap.size < wr.heap.size := (Array.getElem?_eq_some_iff.1 hit).1
    by_cases hp : k < s.size
    · have hnx : ∀ ty, (Instr.next (.pointer (some ⟨w.heap.size, 0, none⟩)) true ty).run Try.prog wr = _ := fun ty => Lib.run_next_any_at wr w.heap.size s k ty hit hp
      by_cases h8 : s[k].toNat < 128
      · rw [decode_ascii s k hp h8] at hnx
        have hit2 := Lib.iterAt_heap wr w.heap.size s k (k + 1) hit
        have HB2 := Lib.hid (Lib.below_iterAt HB.out (k := w.heap.size) (Nat.le_refl _) s (k + 1))
        have HO2 : Hid (OwnS (wr.iterAt w.heap.size s (k + 1)) _ _ _) := HO.out.keep fun b hb => Lib.iterAt_other wr w.heap.size b s (k + 1) (by omega)
        obtain ⟨W, hW⟩ : ∃ W, W = wr.iterAt w.heap.size s (k + 1) := ⟨_, rfl⟩
        rw [← hW] at hnx hit2 HB2 HO2
        have hszW : w.heap.size < W.heap.size := (Array.getElem?_eq_some_iff.1 hit2).1
        have HIT := Lib.hid hit
        clear hW HB HO hit
        by_cases hd : s[k].toNat = 46
        · have HR2 := Lib.hid (HR.out.dot hp hd)
          have hd1 : (s[k].toNat : Int) = 46 := by omega
          have hown := HO2.out
          unfold OwnS at hown
          rw [List.length_map] at hown
          have hal := HR.out.len
          clear hd
          go_wp2_with (at_builtin; go_must (refine wpList_append_own _ rfl _ _ 23 rfl (w.heap.size + 1) 9 i0 (.string ByteArray.empty) 1 16 Try.underlying23 hi hz0 hz1 hz2 rfl (by decide) _ _ _ rfl (hown.alloc _) ⟨W.heap.size, 0, none⟩ 1 1 [.string (s.extract m k)] rfl rfl ?c1 ?c2 ?c3 ?c4 ?c5 ?_))
          case c2 => rfl
          case c3 => unfold maxLen; omega
          case c4 => omega
          case c5 => omega
          intro v2 w2 hown3 hg _
          have HIT3 := Lib.hid (iter_app hit2 hg fun g hgo => (World.ownsRow.lt hown g hgo).1)
          have HB3 := Lib.hid (below_appS HB2.out (Nat.le_refl _) HO2.out hg)
          have HO3 : Hid (OwnS w2 (w.heap.size + 1) v2 ((acc ++ [(s.data.toList.take k).drop m]).map bsOf)) := by
            rw [List.map_append, List.map_singleton, ← extract_of]
            exact OwnS.app (by rw [List.length_map]; simpa only [List.map_map] using hown3)
          clear hown3 hg hown hit2
          go_wp2_with fail
          go_roundw
          case rel => exact ⟨k + 1, k + 1, _, by go_num, by omega, by omega, HIT3.out, HB3, HO3, HR2⟩
          case measure => simp only [World.iterPos, HIT3.out, HIT.out]; omega
        · have HR2 := Lib.hid (HR.out.run (m := k + 1) (by omega) (by omega) fun j hj h1 h2 => by
            obtain rfl : j = k := by omega
            exact hd)
          have hd1 : ((s[k].toNat : Int) == 46) = false := beq_eq_false_iff_ne.2 (by omega)
          clear hd
          go_wp2_with fail
          go_roundw
          case rel => exact ⟨k + 1, m, _, rfl, by omega, by omega, hit2, HB2, HO2, HR2⟩
          case measure => simp only [World.iterPos, hit2, HIT.out]; omega
      · have hr := decode_run s k hp (by omega)
        have hh := decode_high s k hp (by omega)
        obtain ⟨d, hd⟩ : ∃ d, d = Utf8.decode s k := ⟨_, rfl⟩
        rw [← hd] at hnx hr hh
        have hit2 := Lib.iterAt_heap wr w.heap.size s k (k + d.2) hit
        have HB2 := Lib.hid (Lib.below_iterAt HB.out (k := w.heap.size) (Nat.le_refl _) s (k + d.2))
        have HO2 : Hid (OwnS (wr.iterAt w.heap.size s (k + d.2)) _ _ _) := HO.out.keep fun b hb => Lib.iterAt_other wr w.heap.size b s (k + d.2) (by omega)
        have HR2 := Lib.hid (HR.out.run (m := k + d.2) (by omega) hr.1 fun j hj h1 h2 => hr.2 j hj h1 h2)
        have hd1 : ((d.1 : Int) == 46) = false := beq_eq_false_iff_ne.2 (by omega)
        have hr1 := hr.1
        have hh2 := hh.2
        obtain ⟨W, hW⟩ : ∃ W, W = wr.iterAt w.heap.size s (k + d.2) := ⟨_, rfl⟩
        rw [← hW] at hnx hit2 HB2 HO2
        have HIT := Lib.hid hit
        clear hW HB HO hit hd hr hh
        go_wp2_with fail
        go_roundw
        case rel => exact ⟨k + d.2, m, _, rfl, by omega, by omega, hit2, HB2, HO2, HR2⟩
        case measure => simp only [World.iterPos, hit2, HIT.out]; omega
    · obtain rfl : k = s.size := by omega
      have hnx : ∀ ty, (Instr.next (.pointer (some ⟨w.heap.size, 0, none⟩)) true ty).run Try.prog wr = _ := fun ty => Lib.run_next_end_at wr w.heap.size s s.size ty hit hp
      have hown := HO.out
      unfold OwnS at hown
      rw [List.length_map] at hown
      have hal := HR.out.len
      clear hit
      go_wp2_with (at_builtin; go_must (refine wpList_append_own _ rfl _ _ 23 rfl (w.heap.size + 1) 9 i0 (.string ByteArray.empty) 1 16 Try.underlying23 hi hz0 hz1 hz2 rfl (by decide) _ _ _ rfl (hown.alloc _) ⟨wr.heap.size, 0, none⟩ 1 1 [.string (s.extract m s.size)] rfl rfl ?d1 ?d2 ?d3 ?d4 ?d5 ?_))
      case d1 => exact cell_one_new _ _ _
      case d2 => intro u hu; simp at hu; subst hu; rfl
      case d3 => unfold maxLen; omega
      case d4 => omega
      case d5 => simp; omega
      intro v2 w2 hown3 hg _
      have HB3 := Lib.hid (below_appS HB.out (Nat.le_refl _) HO.out hg)
      have HO3 : Hid (OwnS w2 (w.heap.size + 1) v2 ((acc ++ [s.data.toList.drop m]).map bsOf)) := by
        have e : bsOf (s.data.toList.drop m) = s.extract m s.size := by rw [extract_of, List.take_of_length_le (show s.data.toList.length ≤ s.size from Nat.le_refl _)]
        rw [List.map_append, List.map_singleton, e]
        exact OwnS.app (by rw [List.length_map]; simpa only [List.map_map] using hown3)
      clear hown3 hg hown
      go_wp2_with fail
      go_ret
      exact ⟨_, rfl, by unfold splitS; rw [HR.out.end]; exact HO3.out.base (by omega), HB3.out⟩

theorem OwnS.one (w : World) (s : ByteArray) : OwnS (w.alloc (.cells #[.string s] 9)) w.heap.size (.slice (some ⟨w.heap.size, 0, none⟩) 1 1) [s] :=
  ⟨rfl, .inr ⟨w.heap.size, 1, #[.string s], rfl, Nat.le_refl _, heap_alloc_new w _, Nat.le_refl _, by unfold maxLen; omega, rfl, rfl⟩⟩
theorem OwnS.row {w : World} {B : Nat} {v : Value} {ns : List ByteArray} (h : OwnS w B v ns) (hp : 0 < ns.length) : ∃ g cap, v = .slice (some ⟨g, 0, none⟩) ns.length cap ∧ B ≤ g := by
  rcases h.2 with ⟨-, h0⟩ | ⟨g, cap, cur, h1, h2, h3, h4⟩
  · omega
  · exact ⟨g, cap, h1, h2⟩
theorem map_set_last (acc : List (List UInt8)) (cur : List UInt8) (t : ByteArray) : (((acc ++ [cur]).map bsOf).map Value.string).set acc.length (.string t) = ((acc.map bsOf) ++ [t]).map Value.string := by
  simp only [List.map_append, List.map_cons, List.map_nil]
  rw [List.set_append_right _ _ (by simp)]
  simp
theorem append_bs (l : List UInt8) (s : ByteArray) (k : Nat) (h : k < s.size) : bsOf l ++ s.extract k (k + 1) = bsOf (l ++ [s[k]]) := by
  rw [← bsOf_of (bsOf l ++ s.extract k (k + 1))]
  congr 1
  rw [show (bsOf l ++ s.extract k (k + 1)).data.toList = (bsOf l).data.toList ++ (s.extract k (k + 1)).data.toList from by simp [ByteArray.data_append], Lib.extract_data, drop_cons s k h, bsOf_data, show k + 1 - k = 1 by omega]
  rfl

set_option maxHeartbeats 4000000 in
set_option maxRecDepth 100000 in
theorem rsplit_any (s : ByteArray) (w : World) (hs : s.size ≤ 100000) : Calls Try.prog 10 #[.string s] w (GivesS (splitS s.data.toList) w) := by
  obtain ⟨i0, hi, hz0, hz1, hz2⟩ := info_parts Try.infoStrP
  have HS := Lib.hid hs
  go_enter Try.func10, Try.ntmps10
  go_wp2_with fail
  go_loopw [3, 4] (fun v i wr => ∃ (k : Nat) (acc : List (List UInt8)) (cur : List UInt8), i = .int .i64 k ∧ k ≤ s.size ∧ Hid (Below w.heap.size w wr) ∧ Hid (OwnS wr w.heap.size v ((acc ++ [cur]).map bsOf)) ∧ Hid (acc.length ≤ k ∧ cur.length ≤ k ∧ splitG acc cur (s.data.toList.drop k) = splitL s.data.toList)) (fun _ i _ => s.size - (intOf i).toNat)
  case atStart => exact ⟨0, [], [], rfl, by omega, (Below.refl _ _).alloc (Nat.le_refl _) _, OwnS.one w ⟨#[]⟩, by simp, by simp, rfl⟩
  case round =>
    obtain ⟨k, acc, cur, rfl, hk, HB, HO, HR⟩ := hrel
    by_cases hp : k < s.size
    · have hown := HO.out
      unfold OwnS at hown
      have hla : ((acc ++ [cur]).map bsOf).length = acc.length + 1 := by simp
      rw [hla] at hown
      have hal := HR.out.1
      have hsz := HB.out.size
      clear hla
      by_cases hd : s[k].toNat = 46
      · have hd1 : (s[k].toNat : Int) = 46 := by omega
        have hd2 := Lib.hid hd
        clear hd
        go_wp2_with (at_builtin; go_must (refine wpList_append_own _ rfl _ _ 23 rfl w.heap.size 9 i0 (.string ByteArray.empty) 1 16 Try.underlying23 hi hz0 hz1 hz2 rfl (by decide) _ _ _ rfl (hown.alloc _) ⟨wr.heap.size, 0, none⟩ 1 1 [.string ⟨#[]⟩] rfl rfl ?c1 ?c2 ?c3 ?c4 ?c5 ?_))
        case c1 => exact cell_one_new _ _ _
        case c2 => intro u hu; simp at hu; subst hu; rfl
        case c3 => unfold maxLen; omega
        case c4 => omega
        case c5 => simp; omega
        intro v2 w2 hown3 hg _
        have HB3 : Hid (Below w.heap.size w w2) := (HB.out.alloc hsz _).grown hg (by simp; omega) (fun g hgo => (World.ownsRow.lt HO.out g hgo).1)
        have HO3 : Hid (OwnS w2 w.heap.size v2 ((acc ++ [cur] ++ [[]]).map bsOf)) := by
          rw [List.map_append]
          exact OwnS.app (s := ⟨#[]⟩) (by rw [List.length_map, List.length_append, List.length_singleton]; simpa using hown3)
        have HR2 : Hid ((acc ++ [cur]).length ≤ k + 1 ∧ ([] : List UInt8).length ≤ k + 1 ∧ splitG (acc ++ [cur]) [] (s.data.toList.drop (k + 1)) = splitL s.data.toList) :=
          ⟨by simp; omega, by simp, by rw [← HR.out.2.2, drop_cons s k hp, splitG_dot _ _ _ _ hd2.out]⟩
        clear hown3 hg hown
        go_wp2_with fail
        go_roundw
        case rel => exact ⟨k + 1, _, _, by go_num, by omega, HB3, HO3, HR2⟩
        case measure => simp [intOf]; omega
      · have hd1 : ((s[k].toNat : Int) == 46) = false := beq_eq_false_iff_ne.2 (by omega)
        obtain ⟨g, cap, rfl, hg⟩ := HO.out.row (by simp)
        have hla : ((acc ++ [cur]).map bsOf).length = acc.length + 1 := by simp
        rw [hla] at hown ⊢
        have hc := World.ownsRow.cellAt hown acc.length (by omega)
        have hf := World.ownsRow.frozenAt hown acc.length
        have hst := World.ownsRow.stored hown acc.length (.string (bsOf (cur ++ [s[k]])))
        rw [map_set_last] at hst
        have hc' : wr.cell? ⟨g, acc.length, none⟩ = some (.string (bsOf cur)) := hc.trans (by simp)
        have happ := append_bs cur s k hp
        have HR2 : Hid (acc.length ≤ k + 1 ∧ (cur ++ [s[k]]).length ≤ k + 1 ∧ splitG acc (cur ++ [s[k]]) (s.data.toList.drop (k + 1)) = splitL s.data.toList) :=
          ⟨by omega, by have := HR.out.2.1; simp; omega, by rw [← HR.out.2.2, drop_cons s k hp]; conv => { rhs; unfold splitG }; rw [if_neg hd]⟩
        have HST := Lib.hid hst
        have hcs : cur.length ≤ 100000 := by have := HR.out.2.1; omega
        have hcs2 : (bsOf cur).size ≤ 100000 := hcs
        clear hst hc hown hd hla hcs
        have hw1 : IntKind.i64.wrap (acc.length : Int) = acc.length := by rw [IntKind.wrap_i64]; omega
        have hw2 : IntKind.i64.wrap ((k : Int) + 1) = k + 1 := by rw [IntKind.wrap_i64]; omega
        have hlt : (acc.length : Int) < (acc.length : Int) + 1 := by omega
        have hk1 : (k : Int) + 1 ≤ (s.size : Int) := by omega
        have hk2 : (k : Int) ≤ (k : Int) + 1 := by omega
        have hk3 : (0 : Int) ≤ (k : Int) + 1 := by omega
        have hk4 : ((k : Int) + 1).toNat = k + 1 := by omega
        have hov : ¬ 9223372036854775807 < (bsOf cur).size + (min (k + 1) s.size - k) := by omega
        go_wp2
        go_still_tail 17, (by kernel_rfl)
        change wpList _ _ _ _ _ wr.drew
        go_wp2
        refine ⟨⟨k + 1, acc, cur ++ [s[k]], by go_num, by omega, (HB.out.grown HST.out.2 hsz (fun j hj => by injection hj with hj; omega)).drew, ?_, HR2⟩, by simp [intOf]; omega⟩
        have e1 : ((acc ++ [cur ++ [s[k]]]).map bsOf).length = acc.length + 1 := by simp
        have h1 := HST.out.1
        show World.ownsRow _ _ _ _ _ _ _
        rw [e1, List.map_append, List.map_singleton]
        exact h1
    · obtain rfl : k = s.size := by omega
      go_wp2_with fail
      go_ret
      exact ⟨_, rfl, by unfold splitS; rw [← HR.out.2.2, List.drop_of_length_le (show s.data.toList.length ≤ s.size from Nat.le_refl _)]; exact HO.out, HB.out⟩
end Go.Proofs.Ythmgbginelbcoaa
