/- Whether each of a list of texts may be a name, and none is there twice. -/
import Derived.Test.YteakkbgfkcknlaaValN
import Derived.Maps.OwnSet
import Derived.StringKeys
namespace Go.Proofs.Yteakkbgfkcknlaa
open Go.RowKit Go.Maps

theorem data_inj {a b : ByteArray} (h : a.data.toList = b.data.toList) : a = b := by
  rw [← Go.Joins.bytes_eta a, ← Go.Joins.bytes_eta b, h]
theorem nodup_ext : ∀ {l : List ByteArray}, distinctN l = true ↔ (∀ s ∈ l, nameB s.data.toList = true) ∧ l.Nodup
  | [] => by simp [distinctN]
  | s :: r => by
    simp only [distinctN, Bool.and_eq_true, Bool.not_eq_true', nodup_ext (l := r), List.mem_cons, forall_eq_or_imp, List.nodup_cons]
    have e : ((r.map fun x => x.data.toList).contains s.data.toList = false) ↔ s ∉ r := by
      rw [← Bool.not_eq_true, List.contains_iff_mem, List.mem_map]
      constructor
      · intro h hs; exact h ⟨s, hs, rfl⟩
      · rintro h ⟨a, ha, he⟩; rw [data_inj he] at ha; exact h ha
    rw [e]
    constructor
    · rintro ⟨⟨a, b⟩, c, d⟩; exact ⟨⟨a, c⟩, b, d⟩
    · rintro ⟨⟨a, c⟩, b, d⟩; exact ⟨⟨a, b⟩, c, d⟩
def keyS (s : ByteArray) : Lit := .string s.data.toList
def SdS (ns : List ByteArray) (k : Nat) : DataW Unit := setOf (.agg []) ((ns.take k).map keyS)
theorem SdS_zero (ns : List ByteArray) : SdS ns 0 = .map [] := by simp [SdS, setOf]
theorem SdS_new (ns : List ByteArray) (k : Nat) (hk : k < ns.length) : SdS ns (k + 1) = (SdS ns k).put (keyS ns[k]) (.agg []) := by
  unfold SdS
  rw [List.take_add_one, List.getElem?_eq_getElem hk, List.map_append]
  exact setOf_snoc _ _ _
theorem any_str (x : ByteArray) (l : List ByteArray) : (l.map keyS).any (fun y : Lit => y.sameKey (keyS x)) = true ↔ x ∈ l := by
  rw [List.any_map, List.any_eq_true]
  constructor
  · rintro ⟨y, hy, h⟩
    have h2 : y.data.toList = x.data.toList := by simpa [keyS, Lit.sameKey] using h
    rw [← data_inj h2]; exact hy
  · intro h
    exact ⟨x, h, by simp [keyS, Lit.sameKey]⟩
theorem has_SdS (ns : List ByteArray) (k : Nat) (x : ByteArray) : Maps.has (SdS ns k) (keyS x) = true ↔ x ∈ ns.take k := by
  unfold SdS
  rw [has_setOf _ _ _ (fun y hy => by obtain ⟨_, _, rfl⟩ := List.mem_map.1 hy; trivial), any_str]

theorem lawS : Keyed Try.prog 9 := string_keyed Try.underlying9
theorem zeroU (w : World) : (zeroValue 90).run Try.prog w = .ok (.agg #[]) w := by kernel_rfl

/-- All is well up to the k-th. -/
def GoodN (ns : List ByteArray) (k : Nat) : Prop := (∀ i (h : i < ns.length), i < k → nameB ns[i].data.toList = true) ∧ (ns.take k).Nodup
theorem good_all {ns : List ByteArray} {k : Nat} (h : GoodN ns k) (hk : ns.length ≤ k) : distinctN ns = true := by
  rw [nodup_ext]
  refine ⟨fun s hs => ?_, by have := h.2; rwa [List.take_of_length_le hk] at this⟩
  obtain ⟨i, hi, rfl⟩ := List.mem_iff_getElem.1 hs
  exact h.1 i hi (by omega)
theorem good_step {ns : List ByteArray} {k : Nat} (h : GoodN ns k) (hk : k < ns.length) (h1 : nameB ns[k].data.toList = true) (h2 : ns[k] ∉ ns.take k) : GoodN ns (k + 1) := by
  refine ⟨fun i hi hik => ?_, ?_⟩
  · by_cases e : i = k
    · subst e; exact h1
    · exact h.1 i hi (by omega)
  · rw [List.take_add_one, List.getElem?_eq_getElem hk, List.nodup_append]
    refine ⟨h.2, by simp, fun a ha b hb e => ?_⟩
    simp at hb
    subst e; subst hb
    exact h2 ha
theorem bad_name {ns : List ByteArray} {k : Nat} (hk : k < ns.length) (h : nameB ns[k].data.toList = false) : false = distinctN ns := by
  symm; rw [← Bool.not_eq_true, nodup_ext]
  intro hh
  rw [hh.1 _ (List.getElem_mem hk)] at h
  cases h
theorem bad_twice {ns : List ByteArray} {k : Nat} (hk : k < ns.length) (h : ns[k] ∈ ns.take k) : false = distinctN ns := by
  symm; rw [← Bool.not_eq_true, nodup_ext]
  intro hh
  obtain ⟨i, hi, he⟩ := List.mem_iff_getElem.1 h
  simp at hi
  rw [List.getElem_take] at he
  have := (List.nodup_iff_pairwise_ne.1 hh.2)
  rw [List.pairwise_iff_getElem] at this
  exact this i k (by omega) hk (by omega) he

set_option maxHeartbeats 1000000 in
set_option maxRecDepth 100000 in
theorem distinct_any (S : Nat → Prop) (A : Option Addr) (c : Nat) (ns : List ByteArray) (w : World) (hS : ∀ b, S b → b < w.heap.size) (h : StrsAt w S A ns) (hl : ns.length ≤ 140737488351232) :
    Calls Try.prog 83 #[.slice A ns.length c] w fun e w' => e = .returned (.bool (distinctN ns)) ∧ Below w.heap.size w w' := by
  have hmm := @run_makeMap Try.prog
  have HH := Lib.hid h
  have HL := Lib.hid hl
  clear h hl
  go_enter Try.func83, Try.ntmps83
  go_wp2
  go_loopw [11] (fun i wr => ∃ k : Nat, k ≤ ns.length ∧ i = .int .i64 k ∧ wr.ownsMap Try.prog 9 unitElem w.heap.size k (SdS ns k) ∧ Hid (GoodN ns k ∧ Below w.heap.size w wr)) (fun i _ => ns.length - (intOf i).toNat)
  case atStart => exact ⟨0, Nat.zero_le _, rfl, by rw [SdS_zero]; exact World.ownsMap_made _ _ _ _, ⟨fun i _ h => absurd h (by omega), by simp⟩, below_box _⟩
  case round =>
    obtain ⟨k, hk, rfl, hown, HI⟩ := hrel
    by_cases hlt : k < ns.length
    · obtain ⟨b, off, rfl, hb, hcells⟩ := HH.out (by omega)
      obtain ⟨hc0, hsz⟩ := hcells k hlt
      have hcx : wr.cell? ⟨b, off + k, none⟩ = some (.string ns[k]) := (HI.out.2.cell (p := ⟨b, off + k, none⟩) (hS b hb)).trans hc0
      have hkey : keyOf Try.prog 9 (.string ns[k]) = some (keyS ns[k]) := Go.WideMaps.keyOf_string_mk Try.underlying9 (by unfold maxLen; omega)
      have HSZ := Lib.hid hsz
      have hHas := has_SdS ns k ns[k]
      have HBZ := Lib.hid HI.out.2.size
      clear hcells hc0 hsz
      generalize hgs : ns[k] = s at *
      have hlb := HL.out
      go_wp2_with (first
        | (at_lookup; refine wpList_lookup_own_unit _ rfl _ _ 89 rfl 9 90 lawS Try.underlying89 (zeroU _) w.heap.size k _ rfl hown _ _ rfl hkey ?_)
        | (go_at_call 47; refine (name_any _ _ (by have := HSZ.out; omega)).mono ?_; rintro e w' ⟨rfl, rfl⟩)
        | (at_mapUpdate; refine wpList_mapUpdate_own _ rfl _ _ _ 89 rfl 9 90 lawS Try.underlying89 (unitElem (H := Unit)) w.heap.size k _ rfl (hown.alloc _) (by have := HL.out; unfold maxLen; omega) _ _ _ rfl rfl hkey _ [] unitElem_mk ?_; intro w1 hown1 hgrow1)
        | fail)
      · have ht : Maps.has (SdS ns k) (keyS s) = true := by assumption
        go_ret
        exact ⟨ret_bool (bad_twice hlt (by rw [hgs]; exact hHas.1 ht)), HI.out.2.alloc HBZ.out _⟩
      · have hn : (!nameB s.data.toList) = true := by assumption
        go_ret
        exact ⟨ret_bool (bad_name hlt (by rw [hgs]; simpa using hn)), HI.out.2.alloc HBZ.out _⟩
      · have ht : ¬ Maps.has (SdS ns k) (keyS s) = true := by assumption
        have hn : (!nameB s.data.toList) = false := by assumption
        have hb1 : Below w.heap.size w w1 := (HI.out.2.alloc HBZ.out _).grown hgrow1 (by have := HBZ.out; simp; omega) (fun j hj => by cases hj; exact Nat.le_refl _)
        have hfin := SdS_new ns k hlt
        rw [hgs] at hfin
        go_roundw
        case rel => exact ⟨k + 1, by omega, by go_num, by rw [hfin]; exact hown1, good_step HI.out.1 hlt (by rw [hgs]; simpa using hn) (by rw [hgs]; exact fun h => ht (hHas.2 h)), hb1⟩
        case measure => simp [intOf]; omega
    · go_wp2
      go_ret
      exact ⟨ret_bool (good_all HI.out.1 (by omega)).symm, HI.out.2⟩
end Go.Proofs.Yteakkbgfkcknlaa
