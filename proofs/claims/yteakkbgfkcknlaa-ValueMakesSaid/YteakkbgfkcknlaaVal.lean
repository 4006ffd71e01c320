/- A value that lies in memory, read as a tree. -/
import Derived.Test.YteakkbgfkcknlaaTree
import Derived.Test.YteakkbgfkcknlaaVarC
import Derived.Test.YteakkbgfkcknlaaReg
namespace Go.Proofs.Yteakkbgfkcknlaa
open Go.RowKit

def Rng (x : Int) : Prop := -9223372036854775808 ≤ x ∧ x ≤ 9223372036854775807

/-- A list of strings that lies in memory, in blocks of S alone. -/
def StrsAt (w : World) (S : Nat → Prop) (A : Option Addr) (ns : List ByteArray) : Prop :=
  0 < ns.length → ∃ b off, A = some ⟨b, off, none⟩ ∧ S b ∧ ∀ i (h : i < ns.length), w.cell? ⟨b, off + i, none⟩ = some (.string ns[i]) ∧ ns[i].size ≤ 140737488351232

mutual
def LV (w : World) (S : Nat → Prop) : VT → Value → Prop
  | .mk k i s l ns, v => ∃ A c A' c', v = .agg #[.int .i64 k, .int .i64 i, .string s, .slice A l.length c, .slice A' ns.length c'] ∧ Rng k ∧ Rng i ∧ s.size ≤ 140737488351232 ∧
      l.length ≤ 1759218604390 ∧ ns.length ≤ 8796093021952 ∧ StrsAt w S A' ns ∧ (0 < l.length → ∃ b off, A = some ⟨b, off, none⟩ ∧ S b ∧ LVs w S b off l)
def LVs (w : World) (S : Nat → Prop) (b : Nat) : Nat → List VT → Prop
  | _, [] => True
  | off, t :: r => (∃ c0 c1 c2 c3 c4, w.cell? ⟨b, off, none⟩ = some c0 ∧ w.cell? ⟨b, off + 1, none⟩ = some c1 ∧ w.cell? ⟨b, off + 2, none⟩ = some c2 ∧ w.cell? ⟨b, off + 3, none⟩ = some c3 ∧ w.cell? ⟨b, off + 4, none⟩ = some c4 ∧
      LV w S t (.agg #[c0, c1, c2, c3, c4])) ∧ LVs w S b (off + 5) r
end
/-- A list of values that lies in memory. -/
def LVA (w : World) (S : Nat → Prop) (A : Option Addr) (l : List VT) : Prop := 0 < l.length → ∃ b off, A = some ⟨b, off, none⟩ ∧ S b ∧ LVs w S b off l

theorem StrsAt.keep {w w' : World} {S : Nat → Prop} {A : Option Addr} {ns : List ByteArray} (h : StrsAt w S A ns) (hk : ∀ b, S b → w'.heap[b]? = w.heap[b]?) : StrsAt w' S A ns := by
  intro hp
  obtain ⟨b, off, hA, hS, hc⟩ := h hp
  exact ⟨b, off, hA, hS, fun i hi => ⟨(World.cell?_of_block (a := ⟨b, off + i, none⟩) (hk b hS)).trans (hc i hi).1, (hc i hi).2⟩⟩
theorem StrsAt.imp {w : World} {S S' : Nat → Prop} {A : Option Addr} {ns : List ByteArray} (h : StrsAt w S A ns) (hS : ∀ b, S b → S' b) : StrsAt w S' A ns := by
  intro hp
  obtain ⟨b, off, hA, hb, hc⟩ := h hp
  exact ⟨b, off, hA, hS b hb, hc⟩
mutual
theorem LV.keep {w w' : World} {S : Nat → Prop} (hk : ∀ b, S b → w'.heap[b]? = w.heap[b]?) : ∀ {t : VT} {v : Value}, LV w S t v → LV w' S t v
  | .mk k i s l ns, v, h => by
    unfold LV at h ⊢
    obtain ⟨A, c, A', c', hv, h1, h2, h3, h4, h5, h6, h7⟩ := h
    refine ⟨A, c, A', c', hv, h1, h2, h3, h4, h5, h6.keep hk, fun hp => ?_⟩
    obtain ⟨b, off, hA, hS, hl⟩ := h7 hp
    exact ⟨b, off, hA, hS, LVs.keep hk hS hl⟩
theorem LVs.keep {w w' : World} {S : Nat → Prop} (hk : ∀ b, S b → w'.heap[b]? = w.heap[b]?) {b : Nat} (hb : S b) : ∀ {l : List VT} {off : Nat}, LVs w S b off l → LVs w' S b off l
  | [], _, _ => by unfold LVs; trivial
  | t :: r, off, h => by
    unfold LVs at h ⊢
    obtain ⟨⟨c0, c1, c2, c3, c4, h0, h1, h2, h3, h4, hv⟩, hr⟩ := h
    have e : ∀ o, w'.cell? ⟨b, o, none⟩ = w.cell? ⟨b, o, none⟩ := fun o => World.cell?_of_block (a := ⟨b, o, none⟩) (hk b hb)
    exact ⟨⟨c0, c1, c2, c3, c4, (e _).trans h0, (e _).trans h1, (e _).trans h2, (e _).trans h3, (e _).trans h4, LV.keep hk hv⟩, LVs.keep hk hb hr⟩
end
mutual
theorem LV.imp {w : World} {S S' : Nat → Prop} (hS : ∀ b, S b → S' b) : ∀ {t : VT} {v : Value}, LV w S t v → LV w S' t v
  | .mk k i s l ns, v, h => by
    unfold LV at h ⊢
    obtain ⟨A, c, A', c', hv, h1, h2, h3, h4, h5, h6, h7⟩ := h
    refine ⟨A, c, A', c', hv, h1, h2, h3, h4, h5, h6.imp hS, fun hp => ?_⟩
    obtain ⟨b, off, hA, hb, hl⟩ := h7 hp
    exact ⟨b, off, hA, hS b hb, LVs.imp hS hl⟩
theorem LVs.imp {w : World} {S S' : Nat → Prop} (hS : ∀ b, S b → S' b) {b : Nat} : ∀ {l : List VT} {off : Nat}, LVs w S b off l → LVs w S' b off l
  | [], _, _ => by unfold LVs; trivial
  | t :: r, off, h => by
    unfold LVs at h ⊢
    obtain ⟨⟨c0, c1, c2, c3, c4, h0, h1, h2, h3, h4, hv⟩, hr⟩ := h
    exact ⟨⟨c0, c1, c2, c3, c4, h0, h1, h2, h3, h4, LV.imp hS hv⟩, LVs.imp hS hr⟩
end
theorem LVA.keep {w w' : World} {S : Nat → Prop} {A : Option Addr} {l : List VT} (h : LVA w S A l) (hk : ∀ b, S b → w'.heap[b]? = w.heap[b]?) : LVA w' S A l := by
  intro hp
  obtain ⟨b, off, hA, hS, hl⟩ := h hp
  exact ⟨b, off, hA, hS, LVs.keep hk hS hl⟩
theorem LVA.imp {w : World} {S S' : Nat → Prop} {A : Option Addr} {l : List VT} (h : LVA w S A l) (hS : ∀ b, S b → S' b) : LVA w S' A l := by
  intro hp
  obtain ⟨b, off, hA, hb, hl⟩ := h hp
  exact ⟨b, off, hA, hS b hb, LVs.imp hS hl⟩

/-- Its shape. -/
theorem LV.shape {w : World} {S : Nat → Prop} {t : VT} {v : Value} (h : LV w S t v) : ∃ A c A' c', v = .agg #[.int .i64 t.kind, .int .i64 t.num, .string t.text, .slice A t.items.length c, .slice A' t.names.length c'] ∧ Rng t.kind ∧ Rng t.num ∧ t.text.size ≤ 140737488351232 ∧
    t.items.length ≤ 140737488351232 ∧ t.names.length ≤ 140737488351232 ∧ StrsAt w S A' t.names ∧ LVA w S A t.items := by
  cases t with
  | mk k i s l ns =>
    unfold LV at h
    obtain ⟨A, c, A', c', hv, h1, h2, h3, h4, h5, h6, h7⟩ := h
    exact ⟨A, c, A', c', hv, h1, h2, h3, Nat.le_trans h4 (by decide), Nat.le_trans h5 (by decide), h6, h7⟩
theorem LV.lens {w : World} {S : Nat → Prop} {t : VT} {v : Value} (h : LV w S t v) : t.items.length ≤ 1759218604390 ∧ t.names.length ≤ 8796093021952 := by
  cases t with
  | mk k i s l ns =>
    unfold LV at h
    obtain ⟨A, c, A', c', hv, h1, h2, h3, h4, h5, h6, h7⟩ := h
    exact ⟨h4, h5⟩
theorem LV.mk {w : World} {S : Nat → Prop} {k i : Int} {s : ByteArray} {l : List VT} {ns : List ByteArray} {A A' : Option Addr} {c c' : Nat} (h1 : Rng k) (h2 : Rng i) (h3 : s.size ≤ 140737488351232) (h4 : l.length ≤ 1759218604390) (h5 : ns.length ≤ 8796093021952)
    (h6 : StrsAt w S A' ns) (h7 : LVA w S A l) : LV w S (.mk k i s l ns) (.agg #[.int .i64 k, .int .i64 i, .string s, .slice A l.length c, .slice A' ns.length c']) := by
  unfold LV
  exact ⟨A, c, A', c', rfl, h1, h2, h3, h4, h5, h6, h7⟩
theorem LVs.at {w : World} {S : Nat → Prop} {b : Nat} : ∀ {l : List VT} {off : Nat}, LVs w S b off l → ∀ j (h : j < l.length), ∃ c0 c1 c2 c3 c4, w.cell? ⟨b, off + j * 5, none⟩ = some c0 ∧ w.cell? ⟨b, off + j * 5 + 1, none⟩ = some c1 ∧ w.cell? ⟨b, off + j * 5 + 2, none⟩ = some c2 ∧ w.cell? ⟨b, off + j * 5 + 3, none⟩ = some c3 ∧ w.cell? ⟨b, off + j * 5 + 4, none⟩ = some c4 ∧ LV w S l[j] (.agg #[c0, c1, c2, c3, c4])
  | [], _, _, j, h => absurd h (by simp)
  | t :: r, off, h, 0, _ => by unfold LVs at h; simpa using h.1
  | t :: r, off, h, j + 1, hj => by
    unfold LVs at h
    have := LVs.at h.2 j (by simpa using hj)
    have e : off + 5 + j * 5 = off + (j + 1) * 5 := by omega
    rw [e] at this
    simpa using this
/-- What stays below a bound. -/
def SB (B : Nat) : Nat → Prop := fun b => b < B
theorem keep_below {B : Nat} {w w' : World} (hb : Below B w w') : ∀ b, SB B b → w'.heap[b]? = w.heap[b]? := fun b h => hb.block b h

theorem nat_beq (m n : Nat) : ((m : Int) == (n : Int)) = (m == n) := by rw [Bool.eq_iff_iff]; simp; omega
theorem nat_beq0 (m : Nat) : ((m : Int) == 0) = (m == 0) := nat_beq m 0
theorem below_box {w : World} (o : Obj) : Below w.heap.size w (w.alloc o) := (Below.refl _ _).alloc (Nat.le_refl _) o

set_option maxHeartbeats 400000 in
theorem single_any (a b d : Value) (A A' : Option Addr) (n c m c' : Nat) (w : World) : Calls Try.prog 82 #[.agg #[a, b, d, .slice A n c, .slice A' m c']] w fun e w' => e = .returned (.bool (n == 0 && m == 0)) ∧ Below w.heap.size w w' := by
  go_enter Try.func82, Try.ntmps82
  go_wp2
  all_goals
    go_ret
    refine ⟨?_, below_box _⟩
    simp_all [nat_beq0]
end Go.Proofs.Yteakkbgfkcknlaa
