/- A value that lies in memory, read as a tree. -/
import Derived.Test.YtipiplnhbecjeaaKMath
import Derived.Test.YtipiplnhbecjeaaKVarA
import Derived.Test.YtipiplnhbecjeaaKReg
import Derived.Maps.OwnSet
import Derived.StringKeys
namespace Go.Proofs.Ytipiplnhbecjeaa
set_option linter.unusedVariables false
set_option linter.unusedSimpArgs false
open Go.RowKit

def Rng (x : Int) : Prop := -9223372036854775808 ≤ x ∧ x ≤ 9223372036854775807

mutual
def LV (w : World) (S : Nat → Prop) : VT → Value → Prop
  | .mk k i s l ns, v => ∃ A c A' c', v = .agg #[.int .i64 k, .int .i64 i, .string s, .slice A l.length c, .slice A' ns.length c'] ∧ Rng k ∧ Rng i ∧ s.size ≤ 140737488351232 ∧
      l.length ≤ 1759218604390 ∧ ns.length ≤ 8796093021952 ∧ StrsAt w S A' ns ∧ (0 < l.length → ∃ b off, A = some ⟨b, off, none⟩ ∧ S b ∧ LVs w S b off l)
def LVs (w : World) (S : Nat → Prop) (b : Nat) : Nat → List VT → Prop
  | _, [] => True
  | off, t :: r => (∃ c0 c1 c2 c3 c4, w.cell? ⟨b, off, none⟩ = some c0 ∧ w.cell? ⟨b, off + 1, none⟩ = some c1 ∧ w.cell? ⟨b, off + 2, none⟩ = some c2 ∧ w.cell? ⟨b, off + 3, none⟩ = some c3 ∧ w.cell? ⟨b, off + 4, none⟩ = some c4 ∧
      LV w S t (.agg #[c0, c1, c2, c3, c4])) ∧ LVs w S b (off + 5) r
end
/-- A list of values that lies in memory. -/
def LVA (w : World) (S : Nat → Prop) (A : Option Addr) (l : List VT) : Prop := 0 < l.length → ∃ b off, A = some ⟨b, off, none⟩ ∧ S b ∧ LVs w S b off l

mutual
theorem LV.keep {w w' : World} {S : Nat → Prop} (hk : ∀ b, S b → w'.heap[b]? = w.heap[b]?) : ∀ {t : VT} {v : Value}, LV w S t v → LV w' S t v
  | .mk k i s l ns, v, h => by
    unfold LV at h ⊢
    obtain ⟨A, c, A', c', hv, h1, h2, h3, h4, h5, h6, h7⟩ := h
    refine ⟨A, c, A', c', hv, h1, h2, h3, h4, h5, h6.keep hk, fun hp => ?_⟩
    obtain ⟨b, off, hA, hS, hl⟩ := h7 hp
    exact ⟨b, off, hA, hS, LVs.keep hk hS hl⟩
theorem LVs.keep {w w' : World} {S : Nat → Prop} (hk : ∀ b, S b → w'.heap[b]? = w.heap[b]?) {b : Nat} (hb : S b) : ∀ {l : List VT} {off : Nat}, LVs w S b off l → LVs w' S b off l
  | [], _, _ => by unfold LVs; trivial
  | t :: r, off, h => by
    unfold LVs at h ⊢
    obtain ⟨⟨c0, c1, c2, c3, c4, h0, h1, h2, h3, h4, hv⟩, hr⟩ := h
    have e : ∀ o, w'.cell? ⟨b, o, none⟩ = w.cell? ⟨b, o, none⟩ := fun o => World.cell?_of_block (a := ⟨b, o, none⟩) (hk b hb)
    exact ⟨⟨c0, c1, c2, c3, c4, (e _).trans h0, (e _).trans h1, (e _).trans h2, (e _).trans h3, (e _).trans h4, LV.keep hk hv⟩, LVs.keep hk hb hr⟩
end
mutual
theorem LV.imp {w : World} {S S' : Nat → Prop} (hS : ∀ b, S b → S' b) : ∀ {t : VT} {v : Value}, LV w S t v → LV w S' t v
  | .mk k i s l ns, v, h => by
    unfold LV at h ⊢
    obtain ⟨A, c, A', c', hv, h1, h2, h3, h4, h5, h6, h7⟩ := h
    refine ⟨A, c, A', c', hv, h1, h2, h3, h4, h5, h6.imp hS, fun hp => ?_⟩
    obtain ⟨b, off, hA, hb, hl⟩ := h7 hp
    exact ⟨b, off, hA, hS b hb, LVs.imp hS hl⟩
theorem LVs.imp {w : World} {S S' : Nat → Prop} (hS : ∀ b, S b → S' b) {b : Nat} : ∀ {l : List VT} {off : Nat}, LVs w S b off l → LVs w S' b off l
  | [], _, _ => by unfold LVs; trivial
  | t :: r, off, h => by
    unfold LVs at h ⊢
    obtain ⟨⟨c0, c1, c2, c3, c4, h0, h1, h2, h3, h4, hv⟩, hr⟩ := h
    exact ⟨⟨c0, c1, c2, c3, c4, h0, h1, h2, h3, h4, LV.imp hS hv⟩, LVs.imp hS hr⟩
end
theorem LVA.keep {w w' : World} {S : Nat → Prop} {A : Option Addr} {l : List VT} (h : LVA w S A l) (hk : ∀ b, S b → w'.heap[b]? = w.heap[b]?) : LVA w' S A l := by
  intro hp
  obtain ⟨b, off, hA, hS, hl⟩ := h hp
  exact ⟨b, off, hA, hS, LVs.keep hk hS hl⟩
theorem LVA.imp {w : World} {S S' : Nat → Prop} {A : Option Addr} {l : List VT} (h : LVA w S A l) (hS : ∀ b, S b → S' b) : LVA w S' A l := by
  intro hp
  obtain ⟨b, off, hA, hb, hl⟩ := h hp
  exact ⟨b, off, hA, hS b hb, LVs.imp hS hl⟩

/-- Its shape. -/
theorem LV.shape {w : World} {S : Nat → Prop} {t : VT} {v : Value} (h : LV w S t v) : ∃ A c A' c', v = .agg #[.int .i64 t.kind, .int .i64 t.num, .string t.text, .slice A t.items.length c, .slice A' t.names.length c'] ∧ Rng t.kind ∧ Rng t.num ∧ t.text.size ≤ 140737488351232 ∧
    t.items.length ≤ 140737488351232 ∧ t.names.length ≤ 140737488351232 ∧ StrsAt w S A' t.names ∧ LVA w S A t.items := by
  cases t with
  | mk k i s l ns =>
    unfold LV at h
    obtain ⟨A, c, A', c', hv, h1, h2, h3, h4, h5, h6, h7⟩ := h
    exact ⟨A, c, A', c', hv, h1, h2, h3, Nat.le_trans h4 (by decide), Nat.le_trans h5 (by decide), h6, h7⟩
theorem LV.lens {w : World} {S : Nat → Prop} {t : VT} {v : Value} (h : LV w S t v) : t.items.length ≤ 1759218604390 ∧ t.names.length ≤ 8796093021952 := by
  cases t with
  | mk k i s l ns =>
    unfold LV at h
    obtain ⟨A, c, A', c', hv, h1, h2, h3, h4, h5, h6, h7⟩ := h
    exact ⟨h4, h5⟩
theorem LV.mk {w : World} {S : Nat → Prop} {k i : Int} {s : ByteArray} {l : List VT} {ns : List ByteArray} {A A' : Option Addr} {c c' : Nat} (h1 : Rng k) (h2 : Rng i) (h3 : s.size ≤ 140737488351232) (h4 : l.length ≤ 1759218604390) (h5 : ns.length ≤ 8796093021952)
    (h6 : StrsAt w S A' ns) (h7 : LVA w S A l) : LV w S (.mk k i s l ns) (.agg #[.int .i64 k, .int .i64 i, .string s, .slice A l.length c, .slice A' ns.length c']) := by
  unfold LV
  exact ⟨A, c, A', c', rfl, h1, h2, h3, h4, h5, h6, h7⟩
theorem LVs.at {w : World} {S : Nat → Prop} {b : Nat} : ∀ {l : List VT} {off : Nat}, LVs w S b off l → ∀ j (h : j < l.length), ∃ c0 c1 c2 c3 c4, w.cell? ⟨b, off + j * 5, none⟩ = some c0 ∧ w.cell? ⟨b, off + j * 5 + 1, none⟩ = some c1 ∧ w.cell? ⟨b, off + j * 5 + 2, none⟩ = some c2 ∧ w.cell? ⟨b, off + j * 5 + 3, none⟩ = some c3 ∧ w.cell? ⟨b, off + j * 5 + 4, none⟩ = some c4 ∧ LV w S l[j] (.agg #[c0, c1, c2, c3, c4])
  | [], _, _, j, h => absurd h (by simp)
  | t :: r, off, h, 0, _ => by unfold LVs at h; simpa using h.1
  | t :: r, off, h, j + 1, hj => by
    unfold LVs at h
    have := LVs.at h.2 j (by simpa using hj)
    have e : off + 5 + j * 5 = off + (j + 1) * 5 := by omega
    rw [e] at this
    simpa using this
/-- What stays below a bound. -/
def SB (B : Nat) : Nat → Prop := fun b => b < B
theorem keep_below {B : Nat} {w w' : World} (hb : Below B w w') : ∀ b, SB B b → w'.heap[b]? = w.heap[b]? := fun b h => hb.block b h

theorem nat_beq (m n : Nat) : ((m : Int) == (n : Int)) = (m == n) := by rw [Bool.eq_iff_iff]; simp; omega
theorem nat_beq0 (m : Nat) : ((m : Int) == 0) = (m == 0) := nat_beq m 0
theorem below_box {w : World} (o : Obj) : Below w.heap.size w (w.alloc o) := (Below.refl _ _).alloc (Nat.le_refl _) o

set_option maxHeartbeats 400000 in
theorem single_any (a b d : Value) (A A' : Option Addr) (n c m c' : Nat) (w : World) : Calls Try.prog 95 #[.agg #[a, b, d, .slice A n c, .slice A' m c']] w fun e w' => e = .returned (.bool (n == 0 && m == 0)) ∧ Below w.heap.size w w' := by
  go_enter Try.func95, Try.ntmps95
  go_wp2
  all_goals
    go_ret
    refine ⟨?_, below_box _⟩
    simp_all [nat_beq0]
end Go.Proofs.Ytipiplnhbecjeaa

/- Which texts may be names: told beside the lists of texts. -/
namespace Go.Proofs.Ytipiplnhbecjeaa
set_option linter.unusedVariables false
set_option linter.unusedSimpArgs false
end Go.Proofs.Ytipiplnhbecjeaa

/- Whether each of a list of texts may be a name, and none is there twice. -/
namespace Go.Proofs.Ytipiplnhbecjeaa
set_option linter.unusedVariables false
set_option linter.unusedSimpArgs false
open Go.RowKit Go.Maps

theorem data_inj {a b : ByteArray} (h : a.data.toList = b.data.toList) : a = b := by
  rw [← Go.Joins.bytes_eta a, ← Go.Joins.bytes_eta b, h]
theorem nodup_ext : ∀ {l : List ByteArray}, distinctN l = true ↔ (∀ s ∈ l, nameB s.data.toList = true) ∧ l.Nodup
  | [] => by simp [distinctN]
  | s :: r => by
    simp only [distinctN, Bool.and_eq_true, Bool.not_eq_true', nodup_ext (l := r), List.mem_cons, forall_eq_or_imp, List.nodup_cons]
    have e : ((r.map fun x => x.data.toList).contains s.data.toList = false) ↔ s ∉ r := by
      rw [← Bool.not_eq_true, List.contains_iff_mem, List.mem_map]
      constructor
      · intro h hs; exact h ⟨s, hs, rfl⟩
      · rintro h ⟨a, ha, he⟩; rw [data_inj he] at ha; exact h ha
    rw [e]
    constructor
    · rintro ⟨⟨a, b⟩, c, d⟩; exact ⟨⟨a, c⟩, b, d⟩
    · rintro ⟨⟨a, c⟩, b, d⟩; exact ⟨⟨a, b⟩, c, d⟩
def keyS (s : ByteArray) : Lit := .string s.data.toList
def SdS (ns : List ByteArray) (k : Nat) : DataW Unit := setOf (.agg []) ((ns.take k).map keyS)
theorem SdS_zero (ns : List ByteArray) : SdS ns 0 = .map [] := by simp [SdS, setOf]
theorem SdS_new (ns : List ByteArray) (k : Nat) (hk : k < ns.length) : SdS ns (k + 1) = (SdS ns k).put (keyS ns[k]) (.agg []) := by
  unfold SdS
  rw [List.take_add_one, List.getElem?_eq_getElem hk, List.map_append]
  exact setOf_snoc _ _ _
theorem any_str (x : ByteArray) (l : List ByteArray) : (l.map keyS).any (fun y : Lit => y.sameKey (keyS x)) = true ↔ x ∈ l := by
  rw [List.any_map, List.any_eq_true]
  constructor
  · rintro ⟨y, hy, h⟩
    have h2 : y.data.toList = x.data.toList := by simpa [keyS, Lit.sameKey] using h
    rw [← data_inj h2]; exact hy
  · intro h
    exact ⟨x, h, by simp [keyS, Lit.sameKey]⟩
theorem has_SdS (ns : List ByteArray) (k : Nat) (x : ByteArray) : Maps.has (SdS ns k) (keyS x) = true ↔ x ∈ ns.take k := by
  unfold SdS
  rw [has_setOf _ _ _ (fun y hy => by obtain ⟨_, _, rfl⟩ := List.mem_map.1 hy; trivial), any_str]

theorem lawS : Keyed Try.prog 9 := string_keyed Try.underlying9
theorem zeroU (w : World) : (zeroValue 105).run Try.prog w = .ok (.agg #[]) w := by kernel_rfl

/-- All is well up to the k-th. -/
def GoodN (ns : List ByteArray) (k : Nat) : Prop := (∀ i (h : i < ns.length), i < k → nameB ns[i].data.toList = true) ∧ (ns.take k).Nodup
theorem good_all {ns : List ByteArray} {k : Nat} (h : GoodN ns k) (hk : ns.length ≤ k) : distinctN ns = true := by
  rw [nodup_ext]
  refine ⟨fun s hs => ?_, by have := h.2; rwa [List.take_of_length_le hk] at this⟩
  obtain ⟨i, hi, rfl⟩ := List.mem_iff_getElem.1 hs
  exact h.1 i hi (by omega)
theorem good_step {ns : List ByteArray} {k : Nat} (h : GoodN ns k) (hk : k < ns.length) (h1 : nameB ns[k].data.toList = true) (h2 : ns[k] ∉ ns.take k) : GoodN ns (k + 1) := by
  refine ⟨fun i hi hik => ?_, ?_⟩
  · by_cases e : i = k
    · subst e; exact h1
    · exact h.1 i hi (by omega)
  · rw [List.take_add_one, List.getElem?_eq_getElem hk, List.nodup_append]
    refine ⟨h.2, by simp, fun a ha b hb e => ?_⟩
    simp at hb
    subst e; subst hb
    exact h2 ha
theorem bad_name {ns : List ByteArray} {k : Nat} (hk : k < ns.length) (h : nameB ns[k].data.toList = false) : false = distinctN ns := by
  symm; rw [← Bool.not_eq_true, nodup_ext]
  intro hh
  rw [hh.1 _ (List.getElem_mem hk)] at h
  cases h
theorem bad_twice {ns : List ByteArray} {k : Nat} (hk : k < ns.length) (h : ns[k] ∈ ns.take k) : false = distinctN ns := by
  symm; rw [← Bool.not_eq_true, nodup_ext]
  intro hh
  obtain ⟨i, hi, he⟩ := List.mem_iff_getElem.1 h
  simp at hi
  rw [List.getElem_take] at he
  have := (List.nodup_iff_pairwise_ne.1 hh.2)
  rw [List.pairwise_iff_getElem] at this
  exact this i k (by omega) hk (by omega) he

set_option maxHeartbeats 1000000 in
set_option maxRecDepth 100000 in
theorem distinct_any (S : Nat → Prop) (A : Option Addr) (c : Nat) (ns : List ByteArray) (w : World) (hS : ∀ b, S b → b < w.heap.size) (h : StrsAt w S A ns) (hl : ns.length ≤ 140737488351232) :
    Calls Try.prog 96 #[.slice A ns.length c] w fun e w' => e = .returned (.bool (distinctN ns)) ∧ Below w.heap.size w w' := by
  have hmm := @run_makeMap Try.prog
  have HH := Lib.hid h
  have HL := Lib.hid hl
  clear h hl
  go_enter Try.func96, Try.ntmps96
  go_wp2
  go_loopw [11] (fun i wr => ∃ k : Nat, k ≤ ns.length ∧ i = .int .i64 k ∧ wr.ownsMap Try.prog 9 unitElem w.heap.size k (SdS ns k) ∧ Hid (GoodN ns k ∧ Below w.heap.size w wr)) (fun i _ => ns.length - (intOf i).toNat)
  case atStart => exact ⟨0, Nat.zero_le _, rfl, by rw [SdS_zero]; exact World.ownsMap_made _ _ _ _, ⟨fun i _ h => absurd h (by omega), by simp⟩, below_box _⟩
  case round =>
    obtain ⟨k, hk, rfl, hown, HI⟩ := hrel
    by_cases hlt : k < ns.length
    · obtain ⟨b, off, rfl, hb, hcells⟩ := HH.out (by omega)
      obtain ⟨hc0, hsz⟩ := hcells k hlt
      have hcx : wr.cell? ⟨b, off + k, none⟩ = some (.string ns[k]) := (HI.out.2.cell (p := ⟨b, off + k, none⟩) (hS b hb)).trans hc0
      have hkey : keyOf Try.prog 9 (.string ns[k]) = some (keyS ns[k]) := Go.WideMaps.keyOf_string_mk Try.underlying9 (by unfold maxLen; omega)
      have HSZ := Lib.hid hsz
      have hHas := has_SdS ns k ns[k]
      have HBZ := Lib.hid HI.out.2.size
      clear hcells hc0 hsz
      generalize hgs : ns[k] = s at *
      have hlb := HL.out
      go_wp2_with (first
        | (at_lookup; refine wpList_lookup_own_unit _ rfl _ _ 104 rfl 9 105 lawS Try.underlying104 (zeroU _) w.heap.size k _ rfl hown _ _ rfl hkey ?_)
        | (go_at_call 56; refine (name_any _ _ (by have := HSZ.out; omega)).mono ?_; rintro e w' ⟨rfl, rfl⟩)
        | (at_mapUpdate; refine wpList_mapUpdate_own _ rfl _ _ _ 104 rfl 9 105 lawS Try.underlying104 (unitElem (H := Unit)) w.heap.size k _ rfl (hown.alloc _) (by have := HL.out; unfold maxLen; omega) _ _ _ rfl rfl hkey _ [] unitElem_mk ?_; intro w1 hown1 hgrow1)
        | fail)
      · have ht : Maps.has (SdS ns k) (keyS s) = true := by assumption
        go_ret
        exact ⟨ret_bool (bad_twice hlt (by rw [hgs]; exact hHas.1 ht)), HI.out.2.alloc HBZ.out _⟩
      · have hn : (!nameB s.data.toList) = true := by assumption
        go_ret
        exact ⟨ret_bool (bad_name hlt (by rw [hgs]; simpa using hn)), HI.out.2.alloc HBZ.out _⟩
      · have ht : ¬ Maps.has (SdS ns k) (keyS s) = true := by assumption
        have hn : (!nameB s.data.toList) = false := by assumption
        have hb1 : Below w.heap.size w w1 := (HI.out.2.alloc HBZ.out _).grown hgrow1 (by have := HBZ.out; simp; omega) (fun j hj => by cases hj; exact Nat.le_refl _)
        have hfin := SdS_new ns k hlt
        rw [hgs] at hfin
        go_roundw
        case rel => exact ⟨k + 1, by omega, by go_num, by rw [hfin]; exact hown1, good_step HI.out.1 hlt (by rw [hgs]; simpa using hn) (by rw [hgs]; exact fun h => ht (hHas.2 h)), hb1⟩
        case measure => simp [intOf]; omega
    · go_wp2
      go_ret
      exact ⟨ret_bool (good_all HI.out.1 (by omega)).symm, HI.out.2⟩
end Go.Proofs.Ytipiplnhbecjeaa
