/- Lists of texts put behind one another, by the library. -/
import Derived.Test.YthmgbginelbcoaaPathS
import Derived.Laws.AppendOwnNone
import Derived.Lib.AppendZerosOnto
import Derived.Lib.AppendZeros
import Derived.Lib.SliceRun
namespace Go.Proofs.Ythmgbginelbcoaa
set_option linter.unusedVariables false
set_option linter.unusedSimpArgs false
open Go.RowKit

theorem wpList_append_strs {w : World} {ops : Array Oper} {rest : List Oper} {o : Oper} {a : Act} {Q : Exit → Act → World → Prop} (hgd : o.guard = none) (s x : Operand)
    (ho : o.op = .call { callee := .builtin .append, args := #[s, x], argTypes := #[23, 23] }) (B : Nat) (v : Value) (ns : List ByteArray) (hs : a.eval s = v) (hown : OwnS w B v ns)
    (A : Option Addr) (c : Nat) (ms : List ByteArray) (S : Nat → Prop) (hx : a.eval x = .slice A ms.length c) (hA : A = none → c = 0) (hst : StrsAt w S A ms) (hB : B ≤ w.heap.size) (hl : ns.length + ms.length ≤ 8796093021952)
    (K : ∀ v' w', OwnS w' B v' (ns ++ ms) → w.grownBy w' v.ownBlock → wpList Try.prog ops Q rest (a.put o.dst v') w') : wpList Try.prog ops Q (o :: rest) a w := by
  obtain ⟨i0, hi, hz0, hz1, hz2⟩ := info_parts Try.infoStrP
  cases A with
  | none =>
    obtain rfl : ms = [] := by
      match ms, hst with
      | [], _ => rfl
      | m :: r, hst => obtain ⟨_, _, h, _⟩ := hst (by simp); cases h
    obtain rfl := hA rfl
    refine wpList_append_own_none hgd s x 23 ho B 9 i0 1 Try.underlying23 hi v ns.length (ns.map Value.string) hs hown hx ?_
    exact K v w (by rw [List.append_nil]; exact hown) ⟨rfl, rfl, rfl, Nat.le_refl _, fun _ _ _ => rfl⟩
  | some ad =>
    refine wpList_append_own _ hgd s x 23 ho B 9 i0 (.string ByteArray.empty) 1 16 Try.underlying23 hi hz0 hz1 hz2 rfl (by decide) v ns.length (ns.map Value.string) hs hown ad ms.length c (ms.map Value.string) hx (by simp) ?_ ?_ (by unfold maxLen; omega) (by omega) hB ?_
    · intro j u hj
      have hjl : j < ms.length := by have := (List.getElem?_eq_some_iff.1 hj).1; simpa using this
      obtain ⟨b, off, hAd, -, hc⟩ := hst (by omega)
      injection hAd with hAd
      subst hAd
      rw [add_at, (hc j hjl).1]
      simpa [List.getElem?_map, List.getElem?_eq_getElem hjl] using hj
    · intro u hu; obtain ⟨_, _, rfl⟩ := List.mem_map.1 hu; rfl
    · intro v' w' h1 h2 _
      exact K v' w' (by unfold OwnS; rw [List.length_append, List.map_append]; exact h1) h2

/-- A slice of room for n texts. -/
def RoomS (w : World) (e : Ending) (w' : World) : Prop := ∃ v, e = .returned v ∧ OwnS w' w.heap.size v [] ∧ Below w.heap.size w w'
set_option maxHeartbeats 1000000 in
theorem grow_nil (n : Nat) (w : World) (hn : n ≤ 100000) : Calls Try.prog 34 #[.slice none 0 0, .int .i64 n] w (RoomS w) := by
  obtain ⟨i0, hi, hz0, hz1, hz2⟩ := info_parts Try.infoStrP
  by_cases h0 : n = 0
  · subst h0
    go_enter Try.func34, Try.ntmps34
    go_wp2_with fail
    go_ret
    exact ⟨_, rfl, OwnS.nil _ _, Below.refl _ _⟩
  · have hrz : ∀ ty, (Builtin.append_ #[23, 3] ty #[.slice none 0 0, .int .i64 n]).run Try.prog w = .ok (.slice (some ⟨w.heap.size, 0, none⟩) n (grownCap w n 0 9)) (w.drew.alloc (.cells (#[] ++ Builtin.zeroCells (Value.string ByteArray.empty).cells n ++ Builtin.zeroCells (Value.string ByteArray.empty).cells (grownCap w n 0 9 - n)) 9)) := fun ty => by
      have h := Lib.run_append_grow_zeros w 23 3 ty 9 i0 (.string ByteArray.empty) .i64 .i64 Try.underlying23 Try.underlying3 hi hz0 none 0 0 [] (run_firstCells_none w.drew i0.size 0 0 0) n (by omega) (by omega) (by omega) (by omega) (by rw [hz2]; omega) (growslice_fits (by omega) (by rw [hz2]; omega))
      simpa using h
    have hG := grownCap_ge w n 0 9
    have hG2 := grownCap_le_maxLen w n 0 9 (by unfold maxLen; omega)
    obtain ⟨G, hGe⟩ : ∃ G, G = grownCap w n 0 9 := ⟨_, rfl⟩
    rw [← hGe] at hrz hG hG2
    have HG := Lib.hid hG2
    unfold maxLen at hG2
    have hn1 : (1 : Int) ≤ (n : Int) := by omega
    have HR : Hid (OwnS (w.drew.alloc (.cells (#[] ++ Builtin.zeroCells (Value.string ByteArray.empty).cells n ++ Builtin.zeroCells (Value.string ByteArray.empty).cells (G - n)) 9)) w.heap.size (.slice (some ⟨w.heap.size, 0, none⟩) 0 G) []) := by
      refine World.ownsRow_made (size := 1) w.drew _ G (Nat.le_refl _) HG.out ?_
      simp only [Array.size_append, size_zeroCells]
      simp [Value.cells]; omega
    obtain ⟨C, hC⟩ : ∃ C, C = (#[] ++ Builtin.zeroCells (Value.string ByteArray.empty).cells n ++ Builtin.zeroCells (Value.string ByteArray.empty).cells (G - n)) := ⟨_, rfl⟩
    rw [← hC] at hrz HR
    clear hGe h0 hC
    go_enter Try.func34, Try.ntmps34
    go_wp2_with (at_builtin; refine Lib.wpList_append_run _ rfl _ _ _ _ rfl _ _ rfl rfl _ _ (hrz _) ?_)
    go_ret
    exact ⟨_, rfl, HR.out, (Below.refl _ _).drew.alloc (Nat.le_refl _) _⟩

/-- It answers the texts of both lists in a slice of its own. -/
theorem two_cells (w : World) (x y : Value) (t : TypeId) : (w.alloc (.cells #[x, y] t)).cell? ⟨w.heap.size, 0, none⟩ = some x ∧ (w.alloc (.cells #[x, y] t)).cell? ⟨w.heap.size, 1, none⟩ = some y :=
  ⟨Go.Joins.cell_of_block (heap_alloc_new w _) 0, Go.Joins.cell_of_block (heap_alloc_new w _) 1⟩
set_option maxHeartbeats 4000000 in
theorem concat_any (p : Nat) (A B : Option Addr) (c d : Nat) (a b : List ByteArray) (w : World) (S T : Nat → Prop) (h : StrsAt w S A a) (k : StrsAt w T B b) (hS : ∀ b, S b → b < w.heap.size) (hT : ∀ b, T b → b < w.heap.size) (ha : a.length ≤ 1000) (hb : b.length ≤ 1000)
    (hA : A = none → c = 0) (hB : B = none → d = 0) (hp : p < w.heap.size) (h0 : w.cell? ⟨p, 0, none⟩ = some (.slice A a.length c)) (h1 : w.cell? ⟨p, 1, none⟩ = some (.slice B b.length d)) :
    Calls Try.prog 29 #[.slice (some ⟨p, 0, none⟩) 2 2] w (GivesS (a ++ b) w) := by
  have HS := Lib.hid h
  have HT := Lib.hid k
  have HA := Lib.hid hA
  have HB := Lib.hid hB
  clear h k hA hB
  go_enter Try.func29, Try.ntmps29
  go_wp2_with fail
  go_loopw [3, 11] (fun n i wr => ∃ k m : Nat, i = .int .i64 k ∧ n = .int .i64 m ∧ wr = w ∧ Hid (k = 0 ∧ m = 0 ∨ k = 1 ∧ m = a.length ∨ k = 2 ∧ m = a.length + b.length)) (fun _ i _ => 2 - (intOf i).toNat)
  case atStart => exact ⟨0, 0, rfl, rfl, rfl, .inl ⟨rfl, rfl⟩⟩
  case round =>
    obtain ⟨k0, m, rfl, rfl, rfl, HK⟩ := hrel
    rcases HK.out with ⟨rfl, rfl⟩ | ⟨rfl, rfl⟩ | ⟨rfl, rfl⟩
    · clear HK
      go_wp2_with fail
      go_roundw
      case rel => exact ⟨1, a.length, rfl, rfl, trivial, .inr (.inl ⟨rfl, rfl⟩)⟩
      case measure => simp [intOf]
    · clear HK
      go_wp2_with fail
      go_roundw
      case rel => exact ⟨2, a.length + b.length, rfl, by go_num, trivial, .inr (.inr ⟨rfl, rfl⟩)⟩
      case measure => simp [intOf]
    · clear HK
      go_wp2_with fail
      refine (grow_nil _ _ (by omega)).mono ?_
      rintro e w1 ⟨v, rfl, hv, hb1⟩
      have HV := Lib.hid hv
      have HB1 := Lib.hid hb1
      clear hv hb1
      go_wp2_with fail
      obtain ⟨wo, hwo⟩ : ∃ wo : World, wo = wr := ⟨_, rfl⟩
      rw [← hwo] at hS hT HS HT HV HB1 hp h0 h1
      have HWO := Lib.hid hwo
      clear hwo
      go_loopw [6, 27] (fun v i wr => ∃ k : Nat, i = .int .i64 k ∧ Hid (Below wo.heap.size wo wr) ∧ Hid (k = 0 ∧ OwnS wr wo.heap.size v [] ∨ k = 1 ∧ OwnS wr wo.heap.size v a ∨ k = 2 ∧ OwnS wr wo.heap.size v (a ++ b))) (fun _ i _ => 2 - (intOf i).toNat)
      case atStart => exact ⟨0, rfl, HB1, .inl ⟨rfl, HV.out⟩⟩
      case round =>
        obtain ⟨k1, rfl, HB2, HK2⟩ := hrel
        have hp2 : wr.cell? ⟨p, 0, none⟩ = some (.slice A a.length c) := (HB2.out.cell (p := ⟨p, 0, none⟩) hp).trans h0
        have hp3 : wr.cell? ⟨p, 1, none⟩ = some (.slice B b.length d) := (HB2.out.cell (p := ⟨p, 1, none⟩) hp).trans h1
        have hsz := HB2.out.size
        rcases HK2.out with ⟨rfl, hv⟩ | ⟨rfl, hv⟩ | ⟨rfl, hv⟩
        · have HS2 := HS.out.keep fun x hx => HB2.out.block x (hS x hx)
          clear HK2
          go_wp2_with (at_builtin; go_must (refine wpList_append_strs rfl _ _ rfl wo.heap.size _ [] rfl hv A c a S rfl HA.out HS2 hsz (by simp; omega) ?_))
          intro v2 w2 hv2 hg
          have HV2 := Lib.hid hv2
          have HB3 := Lib.hid (HB2.out.grown hg hsz (fun x hx => (World.ownsRow.lt hv x hx).1))
          clear hv2 hg hv HS2
          go_wp2_with fail
          go_roundw
          case rel => exact ⟨1, rfl, HB3, .inr (.inl ⟨rfl, HV2.out⟩)⟩
          case measure => simp [intOf]
        · have HT2 := HT.out.keep fun x hx => HB2.out.block x (hT x hx)
          clear HK2
          go_wp2_with (at_builtin; go_must (refine wpList_append_strs rfl _ _ rfl wo.heap.size _ a rfl hv B d b T rfl HB.out HT2 hsz (by omega) ?_))
          intro v2 w2 hv2 hg
          have HV2 := Lib.hid hv2
          have HB3 := Lib.hid (HB2.out.grown hg hsz (fun x hx => (World.ownsRow.lt hv x hx).1))
          clear hv2 hg hv HT2
          go_wp2_with fail
          go_roundw
          case rel => exact ⟨2, rfl, HB3, .inr (.inr ⟨rfl, HV2.out⟩)⟩
          case measure => simp [intOf]
        · have HV2 := Lib.hid hv
          clear HK2 hv
          go_wp2_with fail
          go_ret
          exact ⟨_, rfl, by rw [← HWO.out]; exact HV2.out, by rw [← HWO.out]; exact HB2.out⟩

/-- It answers the path ns, in a slice of its own; or the error k. -/
def GivesP (ns : List ByteArray) (w : World) (e : Ending) (w' : World) : Prop := ∃ A c, e = .returned (.tuple #[.slice A ns.length c, .int .i64 0]) ∧ ns.length ≤ c ∧ StrsAt w' (fun b => w.heap.size ≤ b ∧ b < w'.heap.size) A ns ∧ Below w.heap.size w w'
def RefusesP (w : World) (e : Ending) (w' : World) : Prop := e = .returned (.tuple #[.slice none 0 0, .int .i64 40]) ∧ Below w.heap.size w w'
theorem mayP_size {ns : List ByteArray} (h : mayP ns = true) : ∀ s ∈ ns, s.size ≤ 140737488351232 := fun s hs => by
  have := ((nameB_iff s).1 (((mayP_iff ns).1 h).2.2 s hs)).2.1
  omega
theorem gives_opens {ns : List ByteArray} {w w' : World} {v : Value} (hv : OwnS w' w.heap.size v ns) (hs : ∀ s ∈ ns, s.size ≤ 140737488351232) : ∃ A c, v = .slice A ns.length c ∧ ns.length ≤ c ∧ StrsAt w' (fun b => w.heap.size ≤ b ∧ b < w'.heap.size) A ns := hv.opens hs

set_option maxHeartbeats 1000000 in
theorem parse_yes (s : ByteArray) (w : World) (hs : s.size ≤ 140737488351232) (h : mayP (splitS s.data.toList) = true) : Calls Try.prog 9 #[.string s] w (GivesP (splitS s.data.toList) w) := by
  have hl : s.size ≤ 263 := by have h1 := join_le h; rw [join_split] at h1; exact h1
  have hln := splitS_length s.data.toList
  have hlen : s.data.toList.length = s.size := rfl
  have hz : (splitS s.data.toList).length ≤ 264 := by omega
  have hm := splitS_mem s.data.toList
  have HM : Hid (∀ t ∈ splitS s.data.toList, t.size ≤ 140737488351232) := fun t ht => by have := hm t ht; omega
  obtain ⟨ns, hns⟩ : ∃ ns, ns = splitS s.data.toList := ⟨_, rfl⟩
  rw [← hns] at h hz HM ⊢
  have HN := Lib.hid hns
  have HP := Lib.hid h
  clear hns h hm hln hlen
  go_enter Try.func9, Try.ntmps9
  go_wp2_with fail
  refine (split_any s _ (by omega)).mono ?_
  rintro e w1 ⟨v, rfl, hv, hb⟩
  rw [← HN.out] at hv
  obtain ⟨A, c, rfl, hc, hst⟩ := gives_opens hv HM.out
  have HB := Lib.hid hb
  have HST := Lib.hid hst
  clear hv hb hst
  go_wp2_with fail
  refine (may_any A c ns _ _ HST.out (by omega)).mono ?_
  rintro e u ⟨rfl, rfl⟩
  have hp := HP.out
  go_wp2_with fail
  go_ret2
  exact ⟨A, c, rfl, hc, HST.out, HB.out⟩
set_option maxHeartbeats 1000000 in
theorem parse_no (s : ByteArray) (w : World) (hs : s.size ≤ 140737488351232) (h : mayP (splitS s.data.toList) = false) : Calls Try.prog 9 #[.string s] w (RefusesP w) := by
  by_cases hl : s.size ≤ 263
  · have hln := splitS_length s.data.toList
    have hlen : s.data.toList.length = s.size := rfl
    have hz : (splitS s.data.toList).length ≤ 264 := by omega
    have hm := splitS_mem s.data.toList
    have HM : Hid (∀ t ∈ splitS s.data.toList, t.size ≤ 140737488351232) := fun t ht => by have := hm t ht; omega
    obtain ⟨ns, hns⟩ : ∃ ns, ns = splitS s.data.toList := ⟨_, rfl⟩
    rw [← hns] at h hz HM
    have HN := Lib.hid hns
    have HP := Lib.hid h
    clear hns h hm hln hlen
    go_enter Try.func9, Try.ntmps9
    go_wp2_with fail
    refine (split_any s _ (by omega)).mono ?_
    rintro e w1 ⟨v, rfl, hv, hb⟩
    rw [← HN.out] at hv
    obtain ⟨A, c, rfl, hc, hst⟩ := gives_opens hv HM.out
    have HB := Lib.hid hb
    have HST := Lib.hid hst
    clear hv hb hst
    go_wp2_with fail
    refine (may_any A c ns _ _ HST.out (by omega)).mono ?_
    rintro e u ⟨rfl, rfl⟩
    have hp := HP.out
    go_wp2_with fail
    go_ret2
    exact ⟨rfl, HB.out⟩
  · clear h
    have hl' : (263 : Int) < (s.size : Int) := by omega
    go_enter Try.func9, Try.ntmps9
    go_wp2_with fail
    go_ret2
    exact ⟨rfl, Below.refl _ _⟩
end Go.Proofs.Ythmgbginelbcoaa
