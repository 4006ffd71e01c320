/- Layer 13, plain: entries, which may be, their code, and that it is read back. -/
import Derived.Test.YtlipkmdjpligeaaGreatKTrD
import Derived.Test.YtlipkmdjpligeaaGreatKPathA
import Derived.Test.YtlipkmdjpligeaaGreatKRefZ
import Derived.Test.YtlipkmdjpligeaaGreatKValF
import Derived.Test.YtlipkmdjpligeaaGreatKOpenS
import Derived.Lib.Join
import Derived.Outline
import Derived.StillTailTactics
import Derived.Lib.DecodeN
import Derived.Laws.AppendOwnNone
import Derived.Lib.AppendZerosOnto
import Derived.Lib.AppendZeros
import Derived.Lib.SliceRun
import Derived.Lib.OthersKept
import Derived.Deep.MidRow
import Derived.Laws.Entries
namespace Go.Proofs.YtlipkmdjpligeaaGreat
set_option linter.unusedVariables false
set_option linter.unusedSimpArgs false
set_option maxRecDepth 100000
structure EntT where
 term : Int
 kind : Int
 coll : ByteArray
 to : ByteArray
 id : VT
 doc : VT
 dels : List DelT
 session : Int
 number : Int
def hasColl (k : Int) : Bool := decide (2 ≤ k) && decide (k ≤ 7)
def hasTo (k : Int) : Bool := decide (k = 7)
def hasId (k : Int) : Bool := decide (2 ≤ k) && decide (k ≤ 4)
def hasDoc (k : Int) : Bool := decide (k = 2)
def hasDels (k : Int) : Bool := decide (k = 3)
def nameC (s : ByteArray) : Bool := decide (1 ≤ s.size) && decide (s.size ≤ 32) && s.data.toList.all fun b => decide (b ≠ 36) && decide (b ≠ 0)
def holdE (v id : VT) : Bool := decide (v.kind = 7) && decide (checkT v = 0) && (match itemT v idN with
 | some x => decide (cmpT x id = 0)
 | none => false)
def mayDo (l : List DelT) : Bool := decide (checkD l = 0) && freeD l && !touchD l [idN]
def mayE (e : EntT) : Bool :=
 (decide (1 ≤ e.kind) && decide (e.kind ≤ 7)) && (decide (0 ≤ e.term) && decide (e.term ≤ 1099511627776)) && (decide (0 ≤ e.session) && decide (e.session ≤ 255)) && (decide (0 ≤ e.number) && decide (e.number ≤ 1099511627776)) &&
 (if hasColl e.kind then nameC e.coll else decide (e.coll.size = 0)) && (if hasTo e.kind then nameC e.to && decide (e.to ≠ e.coll) else decide (e.to.size = 0)) &&
 (if hasId e.kind then decide (checkT e.id = 0) else noneT e.id) && (if hasDoc e.kind then holdE e.doc e.id else noneT e.doc) && (if hasDels e.kind then mayDo e.dels else decide (e.dels.length = 0)) &&
 (if e.kind = 1 then decide (e.session = 0) && decide (e.number = 0) else true)
structure MayE (e : EntT) : Prop where
 k1 : 1 ≤ e.kind
 k7 : e.kind ≤ 7
 t0 : 0 ≤ e.term
 t1 : e.term ≤ 1099511627776
 s0 : 0 ≤ e.session
 s1 : e.session ≤ 255
 n0 : 0 ≤ e.number
 n1 : e.number ≤ 1099511627776
 coll : if hasColl e.kind = true then nameC e.coll = true else e.coll.size = 0
 to : if hasTo e.kind = true then nameC e.to = true ∧ e.to ≠ e.coll else e.to.size = 0
 id : if hasId e.kind = true then checkT e.id = 0 else noneT e.id = true
 doc : if hasDoc e.kind = true then holdE e.doc e.id = true else noneT e.doc = true
 dels : if hasDels e.kind = true then mayDo e.dels = true else e.dels.length = 0
 noop : e.kind = 1 → e.session = 0 ∧ e.number = 0
theorem ite_bool {c : Bool} {a b : Bool} : (if c = true then a else b) = true ↔ if c = true then a = true else b = true := by cases c <;> simp
theorem mayE_iff (e : EntT) : mayE e = true ↔ MayE e := by
 unfold mayE
 simp only [Bool.and_eq_true, decide_eq_true_eq, ite_bool]
 constructor
 ·rintro ⟨⟨⟨⟨⟨⟨⟨⟨⟨⟨a, b⟩, c, d⟩, f, g⟩, h, i⟩, j⟩, k⟩, l⟩, m⟩, n⟩, o⟩
  refine ⟨a, b, c, d, f, g, h, i, j, k, l, m, n, fun hk => ?_⟩
  rw [if_pos hk] at o
  simpa using o
 ·intro h
  refine ⟨⟨⟨⟨⟨⟨⟨⟨⟨⟨h.k1, h.k7⟩, h.t0, h.t1⟩, h.s0, h.s1⟩, h.n0, h.n1⟩, h.coll⟩, h.to⟩, h.id⟩, h.doc⟩, h.dels⟩, ?_⟩
  by_cases hk : e.kind = 1
  ·rw [if_pos hk]; simpa using h.noop hk
  ·rw [if_neg hk]
theorem nameC_len {s : ByteArray} (h : nameC s = true) : 1 ≤ s.size ∧ s.size ≤ 32 := by
 unfold nameC at h
 simp only [Bool.and_eq_true, decide_eq_true_eq] at h
 exact h.1
end Go.Proofs.YtlipkmdjpligeaaGreat

/- Stores of whole structs into a block, as one step; a row of copies that is being made. -/
namespace Go.Proofs.YtlipkmdjpligeaaGreat
set_option linter.unusedVariables false
set_option linter.unusedSimpArgs false
open Go.RowKit
set_option maxRecDepth 100000
def setMany : Array Value → Nat → List Value → Array Value
 | C, _, [] => C
 | C, o, v :: r => setMany (C.setIfInBounds o v) (o + 1) r
theorem setMany_block {w : World} {b : Nat} {ty : TypeId} {fz : Nat × Nat} : ∀ (vs : List Value) (o : Nat) (C : Array Value), w.heap[b]? = some (.cells C ty fz) → (w.setCells b o vs).heap[b]? = some (.cells (setMany C o vs) ty fz) := by
 intro vs
 induction vs generalizing w with
 | nil => exact fun o C h => h
 | cons v r ih => exact fun o C h => ih (o + 1) _ (Go.Joins.block_setCell (i := o) h v)
theorem setMany_only (b : Nat) : ∀ (vs : List Value) (o : Nat) (w : World), (w.setCells b o vs).os = w.os ∧ (w.setCells b o vs).tape = w.tape ∧ (w.setCells b o vs).output = w.output ∧ (w.setCells b o vs).heap.size = w.heap.size ∧ ∀ k, k ≠ b → (w.setCells b o vs).heap[k]? = w.heap[k]?
 | [], o, w => ⟨rfl, rfl, rfl, rfl, fun _ _ => rfl⟩
 | v :: r, o, w => by
  obtain ⟨h1, h2, h3, h4, h5⟩ := setMany_only b r (o + 1) (w.setCell ⟨b, o, none⟩ v)
  exact ⟨h1, h2, h3, h4.trans (by simp), fun k hk => (h5 k hk).trans (heap_setCell_other _ ⟨b, o, none⟩ k _ hk)⟩
theorem run_storeVar_cells (w : World) (b o : Nat) (ty : TypeId) (v : Value) (cells : Array Value) (hc : v.cells = cells) (ht : w.there b o cells.size) (hi : (Tryz.prog.info? ty).map (·.size) = some cells.size) (h1 : cells.all (·.oneCell') = true) :
  (storeVar ty ⟨b, o, none⟩ v).run Tryz.prog w = .ok () (w.setCells b o cells.toList) := by
 have := run_storeCells_cells (P := Tryz.prog) b o cells.toList 0 w (fun j hj => by simpa using (ht j (by simpa using hj)).1) (fun j hj => by simpa using (ht j (by simpa using hj)).2)
  (fun v hv => (Array.all_eq_true_iff_forall_mem.1 h1) v (by simpa using hv))
 cases hq : Tryz.prog.info? ty with
 | none => simp [hq] at hi
 | some i =>
  have hs : cells.size = i.size := by simp [hq] at hi; omega
  simp only [Nat.add_zero] at this
  simp [storeVar, sizeOf, typeInfo, hq, hc, hs, this]
theorem wpList_store_ent {ops : Array Oper} {rest : List Oper} {o : Oper} {a : Act} {w : World} {Q : Exit → Act → World → Prop} (hw : Region.wanted o (yielded ops a.tmps) = true) (ty : TypeId) (x y : Operand) (ho : o.op = .store ty x y) (hd : o.dst = none)
  (g off : Nat) (hx : a.eval x = .pointer (some ⟨g, off, none⟩)) (v : Value) (cells : Array Value) (hy : a.eval y = v) (hc : v.cells = cells) (C C' : Array Value) (t : TypeId) (hg : w.heap[g]? = some (.cells C t (0, 0))) (hn : off + cells.size ≤ C.size)
  (hi : (Tryz.prog.info? ty).map (·.size) = some cells.size) (h1 : cells.all (·.oneCell') = true) (hC : setMany C off cells.toList = C')
  (h : ∀ w', w'.heap[g]? = some (.cells C' t (0, 0)) → Only w w' g → w'.heap.size = w.heap.size → wpList Tryz.prog ops Q rest a w') : wpList Tryz.prog ops Q (o :: rest) a w :=
 wpList_step fun K hK => by
  rw [hw, if_pos rfl]
  have ht : w.there g off cells.size := fun j hj => ⟨by
   rw [Go.Joins.cell_of_block hg (off + j), Array.getElem?_eq_getElem (by omega)]; rfl, Go.Joins.unfrozen_of_block hg _⟩
  have e := run_storeVar_cells w g off ty v cells hc ht hi h1
  have hK' : K (a.put o.dst undef) (w.setCells g off cells.toList) := by
   rw [hd]
   refine hK _ _ (h _ ?_ ?_ ?_)
   ·rw [← hC]; exact setMany_block _ _ _ hg
   ·obtain ⟨q1, q2, q3, q4, q5⟩ := setMany_only g cells.toList off w
    exact ⟨q1, q2, q3, by rw [q4]; exact Nat.le_refl _, fun b _ hb => q5 b (by intro e; apply hb; rw [e])⟩
   ·exact (setMany_only g cells.toList off w).2.2.2.1
  unfold Oper.wp execOp
  simp only [ho, hx, hy, Instr.storeAt, Instr.sureAddr, Sem.run_bind, Sem.run_pure, Result.andThen_ok, e]
  exact hK'
theorem wpList_load_rng {ops : Array Oper} {rest : List Oper} {o : Oper} {a : Act} {w : World} {Q : Exit → Act → World → Prop} (hw : Region.wanted o (yielded ops a.tmps) = true) (ty : TypeId) (x : Operand) (ho : o.op = .load ty x)
  (g off : Nat) (hx : a.eval x = .pointer (some ⟨g, off, none⟩)) (cs : List Value) (d : TypeDesc) (hc : w.rangeAt g off cs) (hu : Tryz.prog.underlying ty = some d) (hd : d.isRow = true) (hi : (Tryz.prog.info? ty).map (·.size) = some cs.length)
  (h : wpList Tryz.prog ops Q rest (a.put o.dst (.agg cs.toArray)) w) : wpList Tryz.prog ops Q (o :: rest) a w :=
 wpList_step fun K hK => by
  rw [hw, if_pos rfl]
  exact wp_load_mid ty x ho g off hx cs d hc hu hd hi (hK _ _ h)
structure LRel {α : Type} (L : World → (Nat → Prop) → α → Array Value → Prop) (m : Nat) : Prop where
 size : ∀ {w S x c}, L w S x c → c.size = m
 keep : ∀ {w w' S x c}, L w S x c → (∀ b, S b → w'.heap[b]? = w.heap[b]?) → L w' S x c
 imp : ∀ {w} {S S' : Nat → Prop} {x c}, L w S x c → (∀ b, S b → S' b) → L w S' x c
def RowsG {α : Type} (L : World → (Nat → Prop) → α → Array Value → Prop) (m : Nat) (w : World) (S : Nat → Prop) (A : Option Addr) (l : List α) : Prop :=
 0 < l.length → ∃ b off, A = some ⟨b, off, none⟩ ∧ S b ∧ ∀ i (h : i < l.length), ∃ cs : Array Value, (∀ j v, cs[j]? = some v → w.cell? ⟨b, off + i * m + j, none⟩ = some v) ∧ L w S l[i] cs
section
variable {α : Type} {L : World → (Nat → Prop) → α → Array Value → Prop} {m : Nat} {T : Nat → Prop} {ty : TypeId} {w w' : World} {G : Nat} {l : List α} {j : Nat}
theorem RowsG.keep (hL : LRel L m) {S : Nat → Prop} {A : Option Addr} (h : RowsG L m w S A l) (hk : ∀ b, S b → w'.heap[b]? = w.heap[b]?) : RowsG L m w' S A l := fun hp => by
 obtain ⟨b, off, hA, hb, hc⟩ := h hp
 refine ⟨b, off, hA, hb, fun i hi => ?_⟩
 obtain ⟨cs, h1, h2⟩ := hc i hi
 exact ⟨cs, fun j v hv => (World.cell?_of_block (a := ⟨b, off + i * m + j, none⟩) (hk b hb)).trans (h1 j v hv), hL.keep h2 hk⟩
end
theorem only_below {B : Nat} {a w w' : World} {g : Nat} (hB : B ≤ a.heap.size) (h : Below B a w) (ho : Only w w' g) (hz : w'.heap.size = w.heap.size) (hg : B ≤ g) : Below B a w' :=
 ⟨ho.os.trans h.os, ho.tape.trans h.tape, ho.output.trans h.output, by rw [hz]; exact h.size, fun b hb => (ho.block b (Nat.lt_of_lt_of_le hb (Nat.le_trans hB h.size)) (by intro e; injection e; omega)).trans (h.block b hb)⟩
theorem only_at {w w' : World} {g p : Nat} {ob : Obj} (ho : Only w w' g) (h : w.heap[p]? = some ob) (hne : p ≠ g) : w'.heap[p]? = some ob := (ho.block p (Array.getElem?_eq_some_iff.1 h).1 (by intro e; injection e with e; exact hne e)).trans h
open Lib (hid)
theorem below_set {B p i : Nat} {w w' : World} {u : Value} (h : Below B w w') (hp : B ≤ p) : Below B w (w'.setCell ⟨p, i, none⟩ u) := ⟨h.os, h.tape, h.output, by simp; exact h.size, fun b hb => (heap_setCell_other _ ⟨p, i, none⟩ b _ (by show b ≠ p; omega)).trans (h.block b hb)⟩
def cmpP : List ByteArray → List ByteArray → Int
  | [], [] => 0
  | [], _ :: _ => -1
  | _ :: _, [] => 1
  | a :: r, b :: s => ore (cmpB a.toList b.toList) (cmpP r s)
theorem cmpP_tri : ∀ a b c : List ByteArray, Tri (cmpP a b) (cmpP b c) (cmpP a c)
  | [], [], [] => tri_zero
  | [], [], _ :: _ => by unfold cmpP Tri; omega
  | [], _ :: _, [] => by unfold cmpP Tri; omega
  | [], _ :: _, _ :: _ => by simp only [cmpP]; unfold Tri; omega
  | _ :: _, [], [] => by unfold cmpP Tri; omega
  | _ :: _, [], _ :: _ => by simp only [cmpP]; unfold Tri; omega
  | _ :: _, _ :: _, [] => by simp only [cmpP]; unfold Tri; omega
  | a :: r, b :: s, c :: t => ore_tri (cmpB_tri _ _ _) fun _ _ => cmpP_tri r s t
theorem cmpP_neg : ∀ a b : List ByteArray, cmpP b a = -(cmpP a b)
  | [], [] => rfl
  | [], _ :: _ => rfl
  | _ :: _, [] => rfl
  | a :: r, b :: s => ore_neg2 (cmpB_neg _ _) fun _ => cmpP_neg r s
theorem cmpP_zero : ∀ a b : List ByteArray, cmpP a b = 0 ↔ a = b
  | [], [] => by simp [cmpP]
  | [], _ :: _ => by simp [cmpP]
  | _ :: _, [] => by simp [cmpP]
  | a :: r, b :: s => by
    rw [cmpP, ore_zero, cmpB_zero, cmpP_zero r s]
    constructor
    · rintro ⟨h1, h2⟩; rw [toList_inj h1, h2]
    · intro h; injection h with h1 h2; exact ⟨by rw [h1], h2⟩
theorem ore_le {x y : Int} (h : ore x y ≤ 0) : x ≤ 0 := by unfold ore at h; split at h <;> omega
theorem between : ∀ {p x q : List ByteArray}, cmpP p x ≤ 0 → cmpP x q ≤ 0 → p <+: q → p <+: x
  | [], x, q, _, _, _ => List.nil_prefix
  | a :: r, [], q, h, _, _ => by simp [cmpP] at h
  | a :: r, b :: x, [], _, _, h => by simp at h
  | a :: r, b :: x, c :: q, h1, h2, h3 => by
    rw [List.cons_prefix_cons] at h3
    obtain ⟨rfl, h3⟩ := h3
    rw [cmpP] at h1 h2
    have e1 := ore_le h1
    have e2 := ore_le h2
    rw [cmpB_neg] at e2
    have e3 : cmpB a.toList b.toList = 0 := by omega
    have e4 : cmpB b.toList a.toList = 0 := by rw [cmpB_neg]; omega
    have hab : a = b := toList_inj ((cmpB_zero _ _).1 e3)
    subst hab
    unfold ore at h1 h2
    rw [if_pos e3] at h1 h2
    rw [List.cons_prefix_cons]
    exact ⟨rfl, between h1 h2 h3⟩
theorem begP_iff {a b : List ByteArray} : begP a b = true ↔ a <+: b := by
  unfold begP
  simp only [Bool.and_eq_true, decide_eq_true_eq]
  constructor
  · rintro ⟨h1, h2⟩
    exact ⟨b.drop a.length, by have := List.take_append_drop a.length b; rw [h2] at this; exact this⟩
  · intro h
    exact ⟨h.length_le, (List.prefix_iff_eq_take.1 h).symm⟩
theorem pre_le : ∀ {a b : List ByteArray}, a <+: b → cmpP a b ≤ 0
  | [], [], _ => by simp [cmpP]
  | [], _ :: _, _ => by simp [cmpP]
  | a :: r, [], h => by simp at h
  | a :: r, b :: s, h => by
    rw [List.cons_prefix_cons] at h
    obtain ⟨rfl, h⟩ := h
    have h0 : cmpB a.toList a.toList = 0 := (cmpB_zero _ _).2 rfl
    rw [cmpP]
    unfold ore
    rw [if_pos h0]
    exact pre_le h
theorem meetP_comm (a b : List ByteArray) : meetP a b = meetP b a := by unfold meetP; rw [Bool.or_comm]
theorem confL_pair : ∀ (l ahead : List (List ByteArray)), confL ahead l = false ↔ (∀ p ∈ l, ∀ q ∈ ahead, meetP p q = false) ∧ l.Pairwise (fun q p => meetP p q = false)
  | [], ahead => by simp [confL]
  | p :: r, ahead => by
    rw [confL, Bool.or_eq_false_iff, confL_pair r (ahead ++ [p]), List.pairwise_cons, List.any_eq_false]
    constructor
    · rintro ⟨h1, h2, h3⟩
      refine ⟨fun x hx q hq => ?_, fun x hx => h2 x hx p (by simp), h3⟩
      rcases List.mem_cons.1 hx with rfl | hx
      · simpa using h1 q hq
      · exact h2 x hx q (List.mem_append_left _ hq)
    · rintro ⟨h1, h2, h3⟩
      refine ⟨fun q hq => by simpa using h1 p (List.mem_cons_self ..) q hq, fun x hx q hq => ?_, h3⟩
      rcases List.mem_append.1 hq with hq | hq
      · exact h1 x (List.mem_cons_of_mem _ hx) q hq
      · obtain rfl := List.mem_singleton.1 hq; exact h2 x hx
theorem free_pair (ps : List (List ByteArray)) : confL [] ps = false ↔ ps.Pairwise (fun q p => meetP p q = false) := by rw [confL_pair]; simp
theorem free_perm {ps qs : List (List ByteArray)} (h : ps.Perm qs) : confL [] ps = confL [] qs := by
  have e : confL [] ps = false ↔ confL [] qs = false := by
    rw [free_pair, free_pair]
    exact h.pairwise_iff fun {a b} h => by rw [meetP_comm]; exact h
  cases h1 : confL [] ps <;> cases h2 : confL [] qs <;> simp_all
theorem free_sorted {ps : List (List ByteArray)} (hs : ∀ i j (hi : i < ps.length) (hj : j < ps.length), i < j → cmpP ps[i] ps[j] ≤ 0) : confL [] ps = false ↔ ∀ i (h : i + 1 < ps.length), begP (ps[i]'(by omega)) ps[i + 1] = false := by
  rw [free_pair, List.pairwise_iff_getElem]
  constructor
  · intro h i hi
    have h1 := h i (i + 1) (by omega) hi (by omega)
    unfold meetP at h1
    rw [Bool.or_eq_false_iff] at h1
    exact h1.2
  · intro h i j hi hj hij
    have hne : ∀ (hp : ps[i] <+: ps[j]), False := fun hp => by
      have hb : ps[i] <+: ps[i + 1]'(by omega) := by
        by_cases e : i + 1 = j
        · subst e; exact hp
        · exact between (hs i (i + 1) hi (by omega) (by omega)) (hs (i + 1) j (by omega) hj (by omega)) hp
      have h1 := h i (by omega)
      rw [begP_iff.2 hb] at h1
      cases h1
    unfold meetP
    rw [Bool.or_eq_false_iff]
    refine ⟨?_, ?_⟩
    · cases hb : begP ps[j] ps[i]
      · rfl
      · exfalso
        have h1 := pre_le (begP_iff.1 hb)
        have h2 := hs i j hi hj hij
        rw [cmpP_neg] at h1
        have h3 : cmpP ps[i] ps[j] = 0 := by omega
        exact hne (by rw [(cmpP_zero _ _).1 h3]; exact List.prefix_refl _)
    · cases hb : begP ps[i] ps[j]
      · rfl
      · exact (hne (begP_iff.1 hb)).elim
theorem cmpP_take {a b : List ByteArray} : ∀ (k : Nat), k ≤ a.length → k ≤ b.length → (∀ j (h : j < a.length) (h' : j < b.length), j < k → a[j] = b[j]) → cmpP a b = cmpP (a.drop k) (b.drop k) := by
  induction a generalizing b with
  | nil => intro k hk _ _; obtain rfl : k = 0 := by simpa using hk
           simp
  | cons x r ih =>
    intro k hk hk' h
    cases k with
    | zero => simp
    | succ k =>
      cases b with
      | nil => simp at hk'
      | cons y s =>
        have hxy : x = y := h 0 (by simp) (by simp) (by omega)
        subst hxy
        have h0 : cmpB x.toList x.toList = 0 := (cmpB_zero _ _).2 rfl
        rw [cmpP]
        unfold ore
        rw [if_pos h0, List.drop_succ_cons, List.drop_succ_cons]
        exact ih k (by simpa using hk) (by simpa using hk') fun j h1 h2 h3 => by
          have := h (j + 1) (by simpa using h1) (by simpa using h2) (by omega)
          simpa using this
set_option maxHeartbeats 4000000 in
theorem cmpSs_any (A B : Option Addr) (c d : Nat) (a b : List ByteArray) (w : World) (S : Nat → Prop) (h : StrsAt w S A a) (k : StrsAt w S B b) (hn : a.length ≤ 140737488351232) (hm : b.length ≤ 140737488351232) :
    Calls Tryz.prog 191 #[.slice A a.length c, .slice B b.length d] w fun e w' => e = .returned (.int .i64 (cmpP a b)) ∧ w = w' := by
  have HA := hid h
  have HB := hid k
  clear h k
  obtain ⟨n, hn'⟩ : ∃ n, n = a.length := ⟨_, rfl⟩
  obtain ⟨m, hm'⟩ : ∃ m, m = b.length := ⟨_, rfl⟩
  have HN := hid hn'
  have HM := hid hm'
  rw [← hn'] at hn ⊢
  rw [← hm'] at hm ⊢
  clear hn' hm'
  go_enter Tryz.func191, Tryz.ntmps191
  go_wp2_with fail
  go_loopw [11] (fun i wr => ∃ k : Nat, i = .int .i64 k ∧ k ≤ n ∧ wr = w ∧ Hid (k ≤ m ∧ ∀ j (h : j < a.length) (h' : j < b.length), j < k → a[j] = b[j])) (fun i _ => n - (intOf i).toNat)
  case atStart => exact ⟨0, rfl, by omega, rfl, hid ⟨by omega, fun j _ _ h => absurd h (by omega)⟩⟩
  case round =>
    obtain ⟨k, rfl, hk, rfl, HE⟩ := hrel
    by_cases hlt : k < n
    · have d1 : decide ((k : Int) < (n : Int)) = true := decide_eq_true (by omega)
      obtain ⟨p, o, rfl, -, hc⟩ := HA.out (by have := HN.out; omega)
      have hka : k < a.length := by have := HN.out; omega
      have hck := (hc k hka).1
      obtain ⟨x, hx⟩ : ∃ x, x = a[k] := ⟨_, rfl⟩
      rw [← hx] at hck
      have HX := hid hx
      clear hc hx
      by_cases hlb : k < m
      · have d2 : decide ((k : Int) ≥ (m : Int)) = false := decide_eq_false (by omega)
        obtain ⟨p', o', rfl, -, hc'⟩ := HB.out (by have := HM.out; omega)
        have hkb : k < b.length := by have := HM.out; omega
        have hck' := (hc' k hkb).1
        obtain ⟨y, hy⟩ : ∃ y, y = b[k] := ⟨_, rfl⟩
        rw [← hy] at hck'
        have HY := hid hy
        clear hc' hy
        go_wp2_with fail
        refine (cmpS_any x y _).mono ?_
        rintro e u ⟨rfl, rfl⟩
        by_cases h0 : cmpB x.toList y.toList = 0
        · have d3 : (cmpB x.toList y.toList != 0) = false := by rw [h0]; rfl
          have HEQ : Hid (a[k] = b[k]) := hid (by rw [← HX.out, ← HY.out]; exact toList_inj ((cmpB_zero _ _).1 h0))
          clear h0
          go_wp2_with fail
          go_roundw
          case rel => exact ⟨k + 1, by go_num, by omega, trivial, hid ⟨by omega, fun j h h' hjk => by
            by_cases e : j = k
            · subst e; exact HEQ.out
            · exact HE.out.2 j h h' (by omega)⟩⟩
          case measure => simp [intOf]; omega
        · have d3 : (cmpB x.toList y.toList != 0) = true := bne_iff_ne.2 h0
          have HF : Hid (cmpP a b = cmpB x.toList y.toList) := hid (by
            rw [cmpP_take k (by omega) (by omega) HE.out.2, List.drop_eq_getElem_cons hka, List.drop_eq_getElem_cons hkb, cmpP, ← HX.out, ← HY.out]
            unfold ore
            rw [if_neg h0])
          clear h0
          go_wp2_with fail
          go_ret
          exact ⟨by rw [HF.out]; rfl, rfl⟩
      · have d2 : decide ((k : Int) ≥ (m : Int)) = true := decide_eq_true (by omega)
        have HF : Hid (cmpP a b = 1) := hid (by
          have hkm : k = b.length := by have := HE.out.1; have := HM.out; omega
          have e2 : b.drop k = [] := List.drop_eq_nil_of_le (by omega)
          rw [cmpP_take k (by omega) (by omega) HE.out.2, List.drop_eq_getElem_cons hka, e2]
          rfl)
        go_wp2_with fail
        go_ret
        exact ⟨by rw [HF.out]; rfl, rfl⟩
    · have hkn : k = n := by omega
      have d1 : decide ((k : Int) < (n : Int)) = false := decide_eq_false (by omega)
      by_cases hnm : n < m
      · have d2 : decide ((n : Int) < (m : Int)) = true := decide_eq_true (by omega)
        have HF : Hid (cmpP a b = -1) := hid (by
          have hkb : k < b.length := by have := HM.out; omega
          have q3 := HN.out
          have e1 : a.drop k = [] := List.drop_eq_nil_of_le (by omega)
          rw [cmpP_take k (by omega) (by omega) HE.out.2, e1, List.drop_eq_getElem_cons hkb]
          rfl)
        clear hkn
        go_wp2_with fail
        go_ret
        exact ⟨by rw [HF.out]; rfl, rfl⟩
      · have d2 : decide ((n : Int) < (m : Int)) = false := decide_eq_false (by omega)
        have HF : Hid (cmpP a b = 0) := hid (by
          have q1 := HE.out.1
          have q2 := HM.out
          have q3 := HN.out
          have e1 : a.drop k = [] := List.drop_eq_nil_of_le (by omega)
          have e2 : b.drop k = [] := List.drop_eq_nil_of_le (by omega)
          rw [cmpP_take k (by omega) (by omega) HE.out.2, e1, e2]
          rfl)
        clear hkn
        go_wp2_with fail
        go_ret
        exact ⟨by rw [HF.out]; rfl, rfl⟩
end Go.Proofs.YtlipkmdjpligeaaGreat

/- Layer 13, plain: the program's ways to say which entries may be. -/
namespace Go.Proofs.YtlipkmdjpligeaaGreat
set_option linter.unusedVariables false
set_option linter.unusedSimpArgs false
set_option maxRecDepth 100000
theorem fits_names0 {k i : Int} {s : ByteArray} {n : Nat} {ns : List ByteArray} (h : fitsP k i s n ns = true) (hk : k ≠ 7) : ns = [] := by
 unfold fitsP at h
 have hz : ns.length = 0 := by
  split at h
  ·simp only [Bool.and_eq_true, beq_iff_eq] at h; exact h.2.2
  split at h
  ·simp only [Bool.and_eq_true, beq_iff_eq] at h; exact h.2.2
  split at h
  ·simp only [Bool.and_eq_true, beq_iff_eq] at h; exact h.2.2
  split at h
  ·simp only [Bool.and_eq_true, beq_iff_eq] at h; exact h.2.2
  split at h
  ·simp only [Bool.and_eq_true, beq_iff_eq] at h; exact h.2
  ·simp [hk] at h
 exact List.eq_nil_of_length_eq_zero hz
theorem check_may {t : VT} (h : checkT t = 0) : mayT t = true := by
 unfold checkT at h
 split at h
 ·next hm => exact hm
 ·exact absurd h (by decide)
theorem hold_way (v id : VT) : holdE v id = (decide (0 ≤ nmI 0 v.names idN) && decide (checkT v = 0) && (match v.items[(nmI 0 v.names idN).toNat]? with
  | some x => decide (cmpT x id = 0)
  | none => false)) := by
 unfold holdE
 by_cases hc : checkT v = 0
 ·by_cases hk : v.kind = 7
  ·rw [item_doc hk, ← look_names, decide_eq_true hk, decide_eq_true hc]
   by_cases hn : nmI 0 v.names idN < 0
   ·rw [if_pos hn, decide_eq_false (by omega)]; rfl
   ·rw [if_neg hn, decide_eq_true (Int.not_lt.1 hn)]
    all_goals rfl
  ·have hn : v.names = [] := by
    have := ((mayT_iff v).1 (check_may hc)).1
    exact fits_names0 this hk
   rw [hn, decide_eq_false hk]
   unfold nmI
   rfl
 ·rw [decide_eq_false hc, Bool.and_false, Bool.and_false]
  rfl
theorem touch_head {l : List DelT} (h : ∀ d ∈ l, mayP d.path = true) : touchD l [idN] = l.any fun d => decide (d.path.head? = some idN) := by
 unfold touchD
 induction l with
 | nil => rfl
 | cons d l ih =>
  rw [List.any_cons, List.any_cons, ih fun x hx => h x (List.mem_cons_of_mem _ hx)]
  congr 1
  have hp := h d List.mem_cons_self
  cases hd : d.path with
  | nil => rw [hd] at hp; exact absurd hp (by decide)
  | cons s r =>
   have e : meetP (s :: r) [idN] = true ↔ s = idN := by
    unfold meetP
    rw [Bool.or_eq_true, begP_iff, begP_iff]
    constructor
    ·rintro (h | h)
     ·exact (List.cons_prefix_cons.1 h).1
     ·exact (List.cons_prefix_cons.1 h).1.symm
    ·rintro rfl
     exact .inr (List.cons_prefix_cons.2 ⟨rfl, List.nil_prefix⟩)
   by_cases hs : s = idN
   ·rw [e.2 hs, hs]; simp
   ·have : meetP (s :: r) [idN] = false := by
     cases hm : meetP (s :: r) [idN] with
     | false => rfl
     | true => exact absurd (e.1 hm) hs
    rw [this]
    simp [hs]
end Go.Proofs.YtlipkmdjpligeaaGreat

/- The program's Get: what its closure does at the end of a path. -/
namespace Go.Proofs.YtlipkmdjpligeaaGreat
open Lib (hid)
set_option linter.unusedVariables false
set_option linter.unusedSimpArgs false
open Go.RowKit
def Keep2 (g h : Nat) (w w' : World) : Prop := w.heap.size ≤ w'.heap.size ∧ ∀ b, b < w.heap.size → b ≠ g → b ≠ h → w'.heap[b]? = w.heap[b]?
theorem Keep2.refl (g h : Nat) (w : World) : Keep2 g h w w := ⟨Nat.le_refl _, fun _ _ _ _ => rfl⟩
theorem Keep2.trans (g h : Nat) (a b c : World) (x : Keep2 g h a b) (y : Keep2 g h b c) : Keep2 g h a c := ⟨Nat.le_trans x.1 y.1, fun i hi hg hh => (y.2 i (Nat.lt_of_lt_of_le hi x.1) hg hh).trans (x.2 i hi hg hh)⟩
theorem Keep2.of {g h : Nat} {w w' : World} (x : Below w.heap.size w w') : Keep2 g h w w' := ⟨x.size, fun b hb _ _ => x.block b hb⟩
instance (g h : Nat) (w : World) : Inhabited (LaterR (Keep2 g h) w) := ⟨⟨w, Keep2.refl g h w⟩⟩
theorem cell_later2 {g h : Nat} {w : World} {b o : Nat} {v : Value} (x : w.cell? ⟨b, o, none⟩ = some v) (hB : b < w.heap.size) (hg : b < g) (hh : g < h) : ∀ p : LaterR (Keep2 g h) w, p.u.cell? ⟨b, o, none⟩ = some v := fun p => (World.cell?_of_block (a := ⟨b, o, none⟩) (p.h.2 b hB (by omega) (by omega))).trans x
def GotC (gF : Nat) (w : World) (r : Option VT) (e : Ending) (w' : World) : Prop :=
 e = .returned (.int .i64 0) ∧ Below gF w w' ∧ ∃ A c A' c', Box w' gF (.int .i64 (r.getD (.mk 0 0 ⟨#[]⟩ [] [])).kind) (.int .i64 (r.getD (.mk 0 0 ⟨#[]⟩ [] [])).num) (.string (r.getD (.mk 0 0 ⟨#[]⟩ [] [])).text) (.slice A (r.getD (.mk 0 0 ⟨#[]⟩ [] [])).items.length c) (.slice A' (r.getD (.mk 0 0 ⟨#[]⟩ [] [])).names.length c') ∧
  LV w' (fun b => gF + 1 < b ∧ b < w'.heap.size) (r.getD (.mk 0 0 ⟨#[]⟩ [] [])) (.agg #[.int .i64 (r.getD (.mk 0 0 ⟨#[]⟩ [] [])).kind, .int .i64 (r.getD (.mk 0 0 ⟨#[]⟩ [] [])).num, .string (r.getD (.mk 0 0 ⟨#[]⟩ [] [])).text, .slice A (r.getD (.mk 0 0 ⟨#[]⟩ [] [])).items.length c, .slice A' (r.getD (.mk 0 0 ⟨#[]⟩ [] [])).names.length c']) ∧
  w'.heap[gF + 1]? = some (.cells #[.bool r.isSome] 4 (0, 0))
set_option maxHeartbeats 2000000 in
set_option maxRecDepth 100000 in
theorem getc_none (P : Int) (hP : P < 0) (pin rest : Value) (gF : Nat) (w : World) (hx : Box w gF (.int .i64 0) (.int .i64 0) (.string ⟨#[]⟩) (.slice none 0 0) (.slice none 0 0)) (ho : w.heap[gF + 1]? = some (.cells #[.bool false] 4 (0, 0))) :
  Calls Tryz.prog 132 #[.agg #[pin, .int .i64 P, rest], .pointer (some ⟨gF, 0, none⟩), .pointer (some ⟨gF + 1, 0, none⟩)] w (GotC gF w none) := by
 have HX := hid hx
 have HO := hid ho
 have hneg : decide (0 ≤ P) = false := decide_eq_false (by omega)
 have hlt := hx.lt
 have hlt1 : gF + 1 < w.heap.size := (Array.getElem?_eq_some_iff.1 ho).1
 clear hx ho
 go_enter Tryz.func132, Tryz.ntmps132
 go_wp2_with fail
 go_ret
 refine ⟨rfl, (below_box _).mono (by omega), none, 0, none, 0, HX.out.alloc _, leaf_lv _ _ 0 0 ⟨#[]⟩ (by unfold Rng; omega) (by unfold Rng; omega) (by decide), (Below.heap_alloc w _ _ hlt1).trans HO.out⟩
set_option maxHeartbeats 2000000 in
set_option maxRecDepth 100000 in
theorem getc_some (S : Nat → Prop) (t : VT) (g o : Nat) (A : Option Addr) (c : Nat) (A' : Option Addr) (c' : Nat) (j : Nat) (hj : j < t.items.length) (rest : Value) (gF : Nat) (w : World) (h : AtV w S t g o A c A' c') (hg : g < gF) (hS : ∀ b, S b → b < gF)
  (hx : Box w gF (.int .i64 0) (.int .i64 0) (.string ⟨#[]⟩) (.slice none 0 0) (.slice none 0 0)) (ho : w.heap[gF + 1]? = some (.cells #[.bool false] 4 (0, 0))) :
  Calls Tryz.prog 132 #[.agg #[.pointer (some ⟨g, o, none⟩), .int .i64 j, rest], .pointer (some ⟨gF, 0, none⟩), .pointer (some ⟨gF + 1, 0, none⟩)] w (GotC gF w (some t.items[j])) := by
 have HX := hid hx
 have HO := hid ho
 have hneg : decide (0 ≤ (j : Int)) = true := decide_eq_true (by omega)
 have hlt := hx.lt
 have hlt1 : gF + 1 < w.heap.size := (Array.getElem?_eq_some_iff.1 ho).1
 obtain ⟨G, off1, A2, c2, A3, c3, rfl, hG, hitem⟩ := h.item hj
 have HI := hid hitem
 have hGF := hS G hG
 have h3 := h.c3
 have hlen := h.names.2.2
 have HS := hid hS
 clear hx ho h hitem
 obtain ⟨u, hu⟩ : ∃ u, u = t.items[j] := ⟨_, rfl⟩
 rw [← hu] at HI ⊢
 clear hu
 go_enter Tryz.func132, Tryz.ntmps132
 go_wp2_with fail
 refine wp_region_OT (Keep2 gF (gF + 1)) (Keep2.refl _ _) (Keep2.trans _ _) [] (.pure [0, 1, 2, 3, 4, 5, 6, 7, 8] (.step 9 (.step 10 (.step 11 (.tail []))))) (by kernel_rfl) (by kernel_rfl) (fun _ d _ _ _ h => by cases d <;> exact h) ?_
 have hz0 : (w.alloc (.cells #[.pointer (some ⟨g, o, none⟩), .int .i64 j, rest] 147)).drew.heap.size = w.heap.size + 1 := by simp
 have hb0 : Below w.heap.size w (w.alloc (.cells #[.pointer (some ⟨g, o, none⟩), .int .i64 j, rest] 147)).drew := (below_box _).drew
 have hs : (w.alloc (.cells #[.pointer (some ⟨g, o, none⟩), .int .i64 j, rest] 147)).drew.heap[w.heap.size]? = some (.cells #[.pointer (some ⟨g, o, none⟩), .int .i64 j, rest] 147 (0, 0)) := heap_alloc_new w _
 generalize (w.alloc (.cells #[.pointer (some ⟨g, o, none⟩), .int .i64 j, rest] 147)).drew = w0 at *
 have s0 : ∀ p : LaterR (Keep2 gF (gF + 1)) w0, p.u.cell? ⟨w.heap.size, 0, none⟩ = some (.pointer (some ⟨g, o, none⟩)) := fun p => (World.cell?_of_block (a := ⟨w.heap.size, 0, none⟩) (p.h.2 w.heap.size (by omega) (by omega) (by omega))).trans (Go.Joins.cell_of_block hs 0)
 have s1 : ∀ p : LaterR (Keep2 gF (gF + 1)) w0, p.u.cell? ⟨w.heap.size, 1, none⟩ = some (.int .i64 j) := fun p => (World.cell?_of_block (a := ⟨w.heap.size, 1, none⟩) (p.h.2 w.heap.size (by omega) (by omega) (by omega))).trans (Go.Joins.cell_of_block hs 1)
 have q3 := cell_later2 (h := gF + 1) (w := w0) ((World.cell?_of_block (a := ⟨g, o + 3, none⟩) (hb0.block g (by omega))).trans h3) (by omega) hg (by omega)
 have hk0 : ∀ i, w0.cell? ⟨G, i, none⟩ = w.cell? ⟨G, i, none⟩ := fun i => World.cell?_of_block (a := ⟨G, i, none⟩) (hb0.block G (by omega))
 have i0 := cell_later2 (h := gF + 1) (w := w0) ((hk0 _).trans HI.out.c0) (by omega) hGF (by omega)
 have i1 := cell_later2 (h := gF + 1) (w := w0) ((hk0 _).trans HI.out.c1) (by omega) hGF (by omega)
 have i2 := cell_later2 (h := gF + 1) (w := w0) ((hk0 _).trans HI.out.c2) (by omega) hGF (by omega)
 have i3 := cell_later2 (h := gF + 1) (w := w0) ((hk0 _).trans HI.out.c3) (by omega) hGF (by omega)
 have i4 := cell_later2 (h := gF + 1) (w := w0) ((hk0 _).trans HI.out.c4) (by omega) hGF (by omega)
 have HV0 := hid (HI.out.v.keep (w' := w0) fun b hb => hb0.block b (by have := HS.out b hb; omega))
 have HX0 := hid (HX.out.below hb0 hlt)
 have HO0 := hid ((hb0.block _ hlt1).trans HO.out)
 have HB0 := hid (hb0.mono (show gF ≤ w.heap.size by omega))
 clear hk0 hs hb0 h3 HX HO HI
 refine ot_pure ?_
 simp only [atR]
 show wpQuiet _ _ _ _ [_, _, _, _, _, _, _, _, _] _
 try simp only [acR, Act.put]
 repeat (go_big_quiet_step (fail))
 refine wpQuiet_nil ?_
 clear s0 s1 q3 i0 i1 i2 i3 i4
 refine ot_step rfl (fun K hK => ?_)
 go_simp
 refine (clone_any S u _ w0 (fun b hb => by have := HS.out b hb; omega) HV0.out).mono ?_
 rintro e w1 ⟨v', rfl, hlv, hb1⟩
 refine hK _ _ (.inr (Keep2.of hb1)) ?_
 clear hK K
 obtain ⟨B, k, B', k', rfl, -⟩ := hlv.shape
 have hX1 := HX0.out.below hb1 (by omega)
 have hO1 := (hb1.block _ (show gF + 1 < w0.heap.size by omega)).trans HO0.out
 have HL := hid hlv
 have HB1 := hid (HB0.out.trans (hb1.mono (show gF ≤ w0.heap.size by omega)))
 have hz1 := hb1.size
 have x0 := hX1.c0
 have x1 := hX1.c1
 have x2 := hX1.c2
 have x3 := hX1.c3
 have x4 := hX1.c4
 have xf := fun i => hX1.free i
 have HX1 := hid hX1
 have HO1 := hid hO1
 clear hX1 hO1 hlv HX0 HO0 HB0 HV0 hb1
 refine ot_step rfl (fun K hK => ?_)
 go_simp
 have h5 := five_other w1 gF 0 (.int .i64 u.kind) (.int .i64 u.num) (.string u.text) (.slice B u.items.length k) (.slice B' u.names.length k')
 have hz5 := five_size w1 gF 0 (.int .i64 u.kind) (.int .i64 u.num) (.string u.text) (.slice B u.items.length k) (.slice B' u.names.length k')
 have hr5 := five_rest w1 gF 0 (.int .i64 u.kind) (.int .i64 u.num) (.string u.text) (.slice B u.items.length k) (.slice B' u.names.length k')
 have hx5 := five_box (c0 := .int .i64 u.kind) (c1 := .int .i64 u.num) (c2 := .string u.text) (c3 := .slice B u.items.length k) (c4 := .slice B' u.names.length k') HX1.out
 refine hK _ (five w1 gF 0 (.int .i64 u.kind) (.int .i64 u.num) (.string u.text) (.slice B u.items.length k) (.slice B' u.names.length k')) (.inr ⟨by omega, fun b hb hg hh => h5 b hg⟩) ?_
 clear hK K
 generalize five w1 gF 0 (.int .i64 u.kind) (.int .i64 u.num) (.string u.text) (.slice B u.items.length k) (.slice B' u.names.length k') = w5 at *
 have hO5 := (h5 (gF + 1) (by omega)).trans HO1.out
 have HX5 := hid hx5
 have HL5 : Hid (LV w5 (fun b => gF + 1 < b ∧ b < w5.heap.size) u (.agg #[.int .i64 u.kind, .int .i64 u.num, .string u.text, .slice B u.items.length k, .slice B' u.names.length k'])) :=
  hid ((HL.out.keep (w' := w5) fun b hb => h5 b (by have := hb.1; omega)).imp fun b hb => ⟨by have := hb.1; omega, by have := hb.2; omega⟩)
 have HB5 : Hid (Below gF w w5) := hid ⟨hr5.1.trans HB1.out.os, hr5.2.1.trans HB1.out.tape, hr5.2.2.trans HB1.out.output, by rw [hz5]; exact HB1.out.size, fun b hb => (h5 b (by omega)).trans (HB1.out.block b hb)⟩
 have o0 := Go.Joins.cell_of_block hO5 0
 have of := fun i => Go.Joins.unfrozen_of_block hO5 i
 have hO6 : (w5.setCell ⟨gF + 1, 0, none⟩ (.bool true)).heap[gF + 1]? = some (.cells #[.bool true] 4 (0, 0)) := Go.Joins.block_setCell (i := 0) hO5 (.bool true)
 have hother : ∀ b, b ≠ gF + 1 → (w5.setCell ⟨gF + 1, 0, none⟩ (.bool true)).heap[b]? = w5.heap[b]? := fun b hb => heap_setCell_other _ ⟨gF + 1, 0, none⟩ b _ hb
 have hz6 : (w5.setCell ⟨gF + 1, 0, none⟩ (.bool true)).heap.size = w5.heap.size := by simp
 have HFIN : Hid (GotC gF w (some u) (.returned (.int .i64 0)) (w5.setCell ⟨gF + 1, 0, none⟩ (.bool true))) := hid ⟨rfl,
  ⟨HB5.out.os, HB5.out.tape, HB5.out.output, by rw [hz6]; exact HB5.out.size, fun b hb => (hother b (by omega)).trans (HB5.out.block b hb)⟩,
  B, k, B', k', (hother gF (by omega)).trans HX5.out, (HL5.out.keep (w' := w5.setCell ⟨gF + 1, 0, none⟩ (.bool true)) fun b hb => hother b (by have := hb.1; omega)).imp fun b hb => ⟨hb.1, by rw [hz6]; exact hb.2⟩, hO6⟩
 clear h5 hr5 hx5 HX1 HO1 HL HB1 x0 x1 x2 x3 x4 xf HX5 HL5 HB5 hO6
 refine ot_step rfl (fun K hK => ?_)
 go_simp
 refine hK _ _ (.inr ⟨by omega, fun b hb hg hh => hother b hh⟩) ?_
 clear hK K hother hO5 o0 of
 refine ot_end ?_
 generalize w5.setCell ⟨gF + 1, 0, none⟩ (.bool true) = w6 at *
 go_wp2_with fail
 go_ret
 exact HFIN.out
theorem enters_getc : Enters 132 := fun _ _ => by simp [callFunc, go_sem, Tryz.func132, Tryz.f132]
theorem GotC.from {gF : Nat} {W0 w : World} {r : Option VT} {e : Ending} {w' : World} (h : GotC gF w r e w') (hb : Below gF W0 w) : GotC gF W0 r e w' := ⟨h.1, hb.trans h.2.1, h.2.2⟩
def GetI (S : Nat → Prop) (t0 : VT) (p0 : List ByteArray) (gF : Nat) (W0 w : World) (t : VT) (g o : Nat) (A : Option Addr) (c : Nat) (p : List ByteArray) : Prop :=
 (∃ B k B' k', AtV w S t g o B k B' k') ∧ g < gF ∧ mayT t = true ∧ getT t0 p0 = getT t p ∧ StrsAt w S A p ∧ p ≠ [] ∧ p.length ≤ c ∧ c ≤ 9223372036854775807 ∧ (∀ s ∈ p, s.size ≤ 140737488351232) ∧ Below gF W0 w ∧
  Box w gF (.int .i64 0) (.int .i64 0) (.string ⟨#[]⟩) (.slice none 0 0) (.slice none 0 0) ∧ w.heap[gF + 1]? = some (.cells #[.bool false] 4 (0, 0))
theorem getalong_any (S : Nat → Prop) (t : VT) (g o : Nat) (A : Option Addr) (c : Nat) (p : List ByteArray) (gF : Nat) (w : World) (hS : ∀ b, S b → b < gF) (h : GetI S t p gF w w t g o A c p) :
  Calls Tryz.prog 131 #[.pointer (some ⟨g, o, none⟩), .slice A p.length c, .func (.func 132) #[] #[.pointer (some ⟨gF, 0, none⟩), .pointer (some ⟨gF + 1, 0, none⟩)]] w (GotC gF w (getT t p)) := by
 refine along_any 132 #[.pointer (some ⟨gF, 0, none⟩), .pointer (some ⟨gF + 1, 0, none⟩)] (GotC gF w (getT t p)) (GetI S t p gF w) enters_getc (fun e w' h => ⟨_, h.1⟩) ?_ ?_ ?_ ?_ ?_ p t g o A c w h
 ·rintro w' t' g' o' A' c' p' ⟨⟨B, k, B', k', hv⟩, hg, hm, -, -, -, -, -, -, -, hx, -⟩
  exact ⟨S, B, k, B', k', hv, Nat.lt_trans hg hx.lt, may_nl hm⟩
 ·rintro w' t' g' o' A' c' p' ⟨-, -, -, -, hs, hp, hc, h63, hz, -⟩
  exact ⟨S, hs, hc, h63, hp, hz⟩
 ·rintro w' w'' t' g' o' A' c' p' ⟨⟨B, k, B', k', hv⟩, hg, hm, he, hs, hp, hc, h63, hz, hb, hx, ho⟩ hbb
  have hlt := hx.lt
  have ho1 : gF + 1 < w'.heap.size := (Array.getElem?_eq_some_iff.1 ho).1
  exact ⟨⟨B, k, B', k', hv.keep (hbb.block _ (by omega)) fun b hb => hbb.block b (by have := hS b hb; omega)⟩, hg, hm, he, hs.keep fun b hb => hbb.block b (by have := hS b hb; omega), hp, hc, h63, hz, hb.trans (hbb.mono (by omega)), hx.call hbb, (hbb.block _ ho1).trans ho⟩
 ·rintro w' t' g' o' A' c' s r G off B k B' k' S' hj ⟨⟨B0, k0, B0', k0', hv⟩, hg, hm, he, hs, hp, hc, h63, hz, hb, hx, ho⟩ hr hn hat rfl
  have hB0 : B0 = some ⟨G, off, none⟩ := by
   have h1 := hv.c3.symm.trans hat.c3
   injection h1 with h1
   injection h1 with h1
  subst hB0
  obtain ⟨G1, off1, A2, c2, A3, c3, h1, hG, hi⟩ := hv.item hj
  injection h1 with h1
  injection h1 with h1 h2
  subst h1 h2
  have hrl : 0 < r.length := by cases r with | nil => exact absurd rfl hr | cons a b => simp
  simp only [List.length_cons] at hc
  exact ⟨⟨A2, c2, A3, c3, hi⟩, hS _ hG, may_item hm hj, he.trans (getT_pos hn hj), hs.tail (.inr (by omega)), hr, by omega, by omega, fun x hx => hz x (List.mem_cons_of_mem _ hx), hb, hx, ho⟩
 ·rintro w' t' g' o' A' c' s r ⟨⟨B, k, B', k', hv⟩, hg, hm, he, hs, hp, hc, h63, hz, hb, hx, ho⟩ hend
  by_cases hneg : placeT t' s < 0
  ·rw [he, getT_neg hneg]
   exact (getc_none (placeT t' s) hneg _ _ gF w' hx ho).mono fun e w2 h => h.from hb
  ·have hr : r = [] := hend.resolve_left hneg
   subst hr
   have hn : 0 ≤ placeT t' s := by omega
   have hj := placeT_lt (may_nl hm) hn
   rw [he, getT_pos hn hj]
   have := (getc_some S t' g' o' B k B' k' (placeT t' s).toNat hj (.slice A' ([] : List ByteArray).length.succ c') gF w' hv hg hS hx ho).mono fun e w2 h => h.from hb
   rw [Int.toNat_of_nonneg hn] at this
   exact this
def tgotT (t : VT) (p : List ByteArray) : Option VT := if wrongT t p = 0 then getT t p else none
def TGetR (t : VT) (p : List ByteArray) (w : World) (e : Ending) (w' : World) : Prop :=
 ∃ v, e = .returned (.tuple #[v, .bool (tgotT t p).isSome]) ∧ LV w' (New w.heap.size w') ((tgotT t p).getD (.mk 0 0 ⟨#[]⟩ [] [])) v ∧ Below w.heap.size w w'
theorem tget_end {w w5 : World} {t u : VT} {p : List ByteArray} {ok : Bool} {c0 c1 c2 c3 c4 : Value} (hb : Below w.heap.size w w5) (hv : LV w5 (fun b => w.heap.size + 1 < b ∧ b < w5.heap.size) u (.agg #[c0, c1, c2, c3, c4])) (hg : (tgotT t p).getD (.mk 0 0 ⟨#[]⟩ [] []) = u) (hok : ok = (tgotT t p).isSome) :
  TGetR t p w (.returned (.tuple #[.agg #[c0, c1, c2, c3, c4], .bool ok])) (five w5 (w.heap.size + 1) 0 c0 c1 c2 c3 c4) := by
 have hr5 := five_rest w5 (w.heap.size + 1) 0 c0 c1 c2 c3 c4
 have hk := five_other w5 (w.heap.size + 1) 0 c0 c1 c2 c3 c4
 have hz := five_size w5 (w.heap.size + 1) 0 c0 c1 c2 c3 c4
 subst hg hok
 exact ⟨_, rfl, (hv.keep fun b hb' => hk b (by have := hb'.1; omega)).imp fun b hb' => ⟨by have := hb'.1; omega, by rw [hz]; exact hb'.2⟩,
  ⟨hr5.1.trans hb.os, hr5.2.1.trans hb.tape, hr5.2.2.trans hb.output, by rw [hz]; exact hb.size, fun b hb' => (hk b (by omega)).trans (hb.block b hb')⟩⟩
theorem wrong_zero {t : VT} {p : List ByteArray} (h : 0 = wrongT t p) : mayT t = true ∧ t.kind = 7 ∧ mayP p = true := by
 unfold wrongT at h
 cases hd : docB t with
 | false => rw [hd] at h; simp at h
 | true =>
  cases hp : mayP p with
  | false => rw [hd, hp] at h; simp at h
  | true =>
   unfold docB at hd
   simp only [Bool.and_eq_true, decide_eq_true_eq] at hd
   exact ⟨hd.2, hd.1, rfl⟩
theorem mayP_ne {p : List ByteArray} (h : mayP p = true) : p ≠ [] := by
 rintro rfl
 unfold mayP at h
 simp at h
theorem strs_sizes {w : World} {S : Nat → Prop} {A : Option Addr} {p : List ByteArray} (h : StrsAt w S A p) : ∀ s ∈ p, s.size ≤ 140737488351232 := by
 intro s hs
 obtain ⟨i, hi, rfl⟩ := List.mem_iff_getElem.1 hs
 obtain ⟨b, off, -, -, hx⟩ := h (by omega)
 exact (hx i hi).2
set_option maxHeartbeats 4000000 in
set_option maxRecDepth 100000 in
theorem tget_any (S : Nat → Prop) (t : VT) (v : Value) (A : Option Addr) (c : Nat) (p : List ByteArray) (w : World) (hS : ∀ b, S b → b < w.heap.size) (h : LV w S t v) (hd : depthT t ≤ 4611686018427387903) (hp : StrsAt w S A p) (hn : p.length ≤ 140737488351232) (hpc : p.length ≤ c) (h63 : c ≤ 9223372036854775807) :
  Calls Tryz.prog 82 #[v, .slice A p.length c] w (TGetR t p w) := by
 obtain ⟨A0, c0, A0', c0', rfl, -, -, -, v1, hb0⟩ := one_var hS h
 have HX := hid v1.x
 have HB := hid hb0
 have HP := hid hp
 have HV := hid h
 have HD := hid hd
 clear h v1 hb0 hp hd
 go_enter Tryz.func82, Tryz.ntmps82
 go_wp2_with fail
 have hz1 : (w.alloc (.cells #[.int .i64 t.kind, .int .i64 t.num, .string t.text, .slice A0 t.items.length c0, .slice A0' t.names.length c0'] 27)).heap.size = w.heap.size + 1 := by simp
 have hB0 : Below w.heap.size w ((w.alloc (.cells #[.int .i64 t.kind, .int .i64 t.num, .string t.text, .slice A0 t.items.length c0, .slice A0' t.names.length c0'] 27)).alloc (.cells #[.int .i64 0, .int .i64 0, .string ⟨#[]⟩, .slice none 0 0, .slice none 0 0] 27)) := HB.out.alloc (by omega) _
 have hX0 := HX.out.alloc (.cells #[.int .i64 0, .int .i64 0, .string ⟨#[]⟩, .slice none 0 0, .slice none 0 0] 27)
 have hR0 : Box ((w.alloc (.cells #[.int .i64 t.kind, .int .i64 t.num, .string t.text, .slice A0 t.items.length c0, .slice A0' t.names.length c0'] 27)).alloc (.cells #[.int .i64 0, .int .i64 0, .string ⟨#[]⟩, .slice none 0 0, .slice none 0 0] 27)) (w.heap.size + 1) (.int .i64 0) (.int .i64 0) (.string ⟨#[]⟩) (.slice none 0 0) (.slice none 0 0) := by
  have h := Box.new (w := w.alloc (.cells #[.int .i64 t.kind, .int .i64 t.num, .string t.text, .slice A0 t.items.length c0, .slice A0' t.names.length c0'] 27)) (.int .i64 0) (.int .i64 0) (.string ⟨#[]⟩) (.slice none 0 0) (.slice none 0 0)
  rw [hz1] at h
  exact h
 have hz2 : ((w.alloc (.cells #[.int .i64 t.kind, .int .i64 t.num, .string t.text, .slice A0 t.items.length c0, .slice A0' t.names.length c0'] 27)).alloc (.cells #[.int .i64 0, .int .i64 0, .string ⟨#[]⟩, .slice none 0 0, .slice none 0 0] 27)).heap.size = w.heap.size + 2 := by simp
 have HCHK := hid (tcheck_any S t _ A c p _ (fun b hb => Nat.lt_of_lt_of_le (hS b hb) hB0.size) (HV.out.keep fun b hb => hB0.block b (hS b hb)) HD.out (HP.out.keep fun b hb => hB0.block b (hS b hb)) hn)
 have HB0 := hid hB0
 have HX0 := hid hX0
 have HR0 := hid hR0
 clear hB0 hX0 hR0 hz1 HB HX
 go_wp2_with fail
 refine HCHK.out.mono ?_
 rintro e w3 ⟨rfl, hb3⟩
 have HB3 := hid (HB0.out.trans (hb3.mono (by omega)))
 have HX3 := hid (HX0.out.call hb3)
 have HR3 := hid (HR0.out.call hb3)
 have hz3 : w.heap.size + 2 ≤ w3.heap.size := by have := hb3.size; omega
 clear hb3 HB0 HX0 HR0 HCHK hz2
 obtain ⟨W, hW⟩ : ∃ W, W = wrongT t p := ⟨_, rfl⟩
 rw [← hW]
 have HW := hid hW
 clear hW
 have rf := fun i => HR3.out.free i
 have r0 := HR3.out.c0
 have r1 := HR3.out.c1
 have r2 := HR3.out.c2
 have r3 := HR3.out.c3
 have r4 := HR3.out.c4
 by_cases h0 : W = 0
 rotate_left
 ·have h1 : (W != 0) = true := by simp [h0]
  have hg : tgotT t p = none := by unfold tgotT; rw [if_neg (by rw [← HW.out]; exact h0)]
  have HG := hid hg
  clear hg h0
  go_wp2_with fail
  refine bodyPost_ret (results_cell_two rfl _ _ (w.heap.size + 1) 27 _ (0, 0) rfl (five_box HR3.out) (by kernel_rfl)) rfl ?_
  exact tget_end HB3.out (leaf_lv _ _ 0 0 ⟨#[]⟩ (by unfold Rng; omega) (by unfold Rng; omega) (by decide)) (by rw [HG.out]; rfl) (by rw [HG.out]; rfl)
 subst h0
 obtain ⟨hm, h7, hmp⟩ := wrong_zero HW.out
 have HM := hid hm
 have HMP := hid hmp
 have HGT : Hid (tgotT t p = getT t p) := hid (by unfold tgotT; rw [if_pos HW.out.symm])
 clear hm h7 hmp r0 r1 r2 r3 r4 rf
 go_wp2_with fail
 have hzf : (w3.alloc (.cells #[.int .i64 0, .int .i64 0, .string ⟨#[]⟩, .slice none 0 0, .slice none 0 0] 27)).heap.size = w3.heap.size + 1 := by simp
 have hBf : Below w3.heap.size w3 ((w3.alloc (.cells #[.int .i64 0, .int .i64 0, .string ⟨#[]⟩, .slice none 0 0, .slice none 0 0] 27)).alloc (.cells #[.bool false] 4)) := (below_box _).alloc (by omega) _
 have hXf : Box ((w3.alloc (.cells #[.int .i64 0, .int .i64 0, .string ⟨#[]⟩, .slice none 0 0, .slice none 0 0] 27)).alloc (.cells #[.bool false] 4)) w3.heap.size (.int .i64 0) (.int .i64 0) (.string ⟨#[]⟩) (.slice none 0 0) (.slice none 0 0) := (Box.new (w := w3) _ _ _ _ _).alloc _
 have hOf : ((w3.alloc (.cells #[.int .i64 0, .int .i64 0, .string ⟨#[]⟩, .slice none 0 0, .slice none 0 0] 27)).alloc (.cells #[.bool false] 4)).heap[w3.heap.size + 1]? = some (.cells #[.bool false] 4 (0, 0)) := by
  rw [← hzf]
  exact heap_alloc_new _ _
 generalize (w3.alloc (.cells #[.int .i64 0, .int .i64 0, .string ⟨#[]⟩, .slice none 0 0, .slice none 0 0] 27)).alloc (.cells #[.bool false] 4) = w4 at *
 have hB4 := HB3.out.trans (hBf.mono (show w.heap.size ≤ w3.heap.size by omega))
 have hX4 := HX3.out.call hBf
 have hR4 := HR3.out.call hBf
 have hI : GetI S t p w3.heap.size w4 w4 t w.heap.size 0 A c p :=
  ⟨⟨_, _, _, _, AtV.of_box hX4 (HV.out.keep fun b hb => hB4.block b (hS b hb))⟩, by omega, HM.out, rfl, HP.out.keep fun b hb => hB4.block b (hS b hb), mayP_ne HMP.out, hpc, h63, strs_sizes HP.out, Below.refl _ _, hXf, hOf⟩
 have HB4 := hid hB4
 have HR4 := hid hR4
 have hz4 := hBf.size
 have HCALL := hid (getalong_any S t w.heap.size 0 A c p w3.heap.size w4 (fun b hb => by have := hS b hb; omega) hI)
 obtain ⟨gF, hgF⟩ : ∃ gF, gF = w3.heap.size := ⟨_, rfl⟩
 rw [← hgF] at HCALL ⊢
 rw [← hgF] at hz3
 clear hI hX4 hR4 hB4 hXf hOf hBf hzf HX3 HR3 HB3 hz4 hgF
 refine HCALL.out.mono ?_
 rintro e w5 ⟨rfl, hb5, F, cF, F', cF', hx5, hv5, ho5⟩
 have HB5 := hid (HB4.out.trans (hb5.mono (show w.heap.size ≤ gF by omega)))
 have HR5 : Hid (Box w5 (w.heap.size + 1) _ _ _ _ _) := hid ((hb5.block _ (show w.heap.size + 1 < gF by omega)).trans HR4.out)
 rw [← HGT.out] at hx5 hv5 ho5
 have HV5 := hid hv5
 have HX5 := hid hx5
 have HO5 := hid ho5
 clear HCALL HR4 HB4 hb5 hx5 hv5 ho5 HV
 generalize hU : (tgotT t p).getD (.mk 0 0 ⟨#[]⟩ [] []) = u at *
 generalize hOK : (tgotT t p).isSome = ok at *
 have HU := hid hU
 have HOK := hid hOK
 clear hU hOK HGT
 go_wp2_with fail
 refine wp_region_OT (Keep2 (w.heap.size + 1) (w.heap.size + 1)) (Keep2.refl _ _) (Keep2.trans _ _) [] (.pure [0, 1] (.step 2 (.step 3 (.tail [])))) (by kernel_rfl) (by kernel_rfl) (fun _ d _ _ _ h => by cases d <;> exact h) ?_
 have hbd : Below w5.heap.size w5 w5.drew := (Below.refl _ _).drew
 have HB5 := hid (HB5.out.trans (hbd.mono (HB5.out.size)))
 have HR5 := hid (HR5.out.call hbd)
 have HX5 := hid (HX5.out.call hbd)
 have HO5 : Hid (w5.drew.heap[gF + 1]? = some (.cells #[.bool ok] 4 (0, 0))) := hid HO5.out
 have HV5 : Hid (LV w5.drew (fun b => gF + 1 < b ∧ b < w5.drew.heap.size) u _) := hid (HV5.out.keep (w' := w5.drew) fun b hb => hbd.block b hb.2)
 clear hbd
 generalize w5.drew = w6 at *
 have hlF := HX5.out.lt
 have hlO : gF + 1 < w6.heap.size := (Array.getElem?_eq_some_iff.1 HO5.out).1
 have kf : ∀ (p : LaterR (Keep2 (w.heap.size + 1) (w.heap.size + 1)) w6) (i : Nat), p.u.cell? ⟨gF, i, none⟩ = w6.cell? ⟨gF, i, none⟩ := fun p i => World.cell?_of_block (a := ⟨gF, i, none⟩) (p.h.2 gF (by omega) (by omega) (by omega))
 have q0 := fun p : LaterR (Keep2 (w.heap.size + 1) (w.heap.size + 1)) w6 => (kf p 0).trans HX5.out.c0
 have q1 := fun p : LaterR (Keep2 (w.heap.size + 1) (w.heap.size + 1)) w6 => (kf p 1).trans HX5.out.c1
 have q2 := fun p : LaterR (Keep2 (w.heap.size + 1) (w.heap.size + 1)) w6 => (kf p 2).trans HX5.out.c2
 have q3 := fun p : LaterR (Keep2 (w.heap.size + 1) (w.heap.size + 1)) w6 => (kf p 3).trans HX5.out.c3
 have q4 := fun p : LaterR (Keep2 (w.heap.size + 1) (w.heap.size + 1)) w6 => (kf p 4).trans HX5.out.c4
 have q5 : ∀ p : LaterR (Keep2 (w.heap.size + 1) (w.heap.size + 1)) w6, p.u.cell? ⟨gF + 1, 0, none⟩ = some (.bool ok) := fun p => (World.cell?_of_block (a := ⟨gF + 1, 0, none⟩) (p.h.2 (gF + 1) (by omega) (by omega) (by omega))).trans (Go.Joins.cell_of_block HO5.out 0)
 clear kf
 refine ot_pure ?_
 simp only [atR]
 show wpQuiet _ _ _ _ [_, _] _
 try simp only [acR, Act.put]
 repeat (go_big_quiet_step (fail))
 refine wpQuiet_nil ?_
 clear q0 q1 q2 q3 q4 q5
 have r0 := HR5.out.c0
 have r1 := HR5.out.c1
 have r2 := HR5.out.c2
 have r3 := HR5.out.c3
 have r4 := HR5.out.c4
 have rf := fun i => HR5.out.free i
 have hbox := five_box (c0 := .int .i64 u.kind) (c1 := .int .i64 u.num) (c2 := .string u.text) (c3 := .slice F u.items.length cF) (c4 := .slice F' u.names.length cF') HR5.out
 have hend := tget_end (p := p) (t := t) HB5.out (HV5.out.imp fun b hb => ⟨by have := hb.1; omega, hb.2⟩) HU.out HOK.out.symm
 have h5 := five_other w6 (w.heap.size + 1) 0 (.int .i64 u.kind) (.int .i64 u.num) (.string u.text) (.slice F u.items.length cF) (.slice F' u.names.length cF')
 have hz5 := five_size w6 (w.heap.size + 1) 0 (.int .i64 u.kind) (.int .i64 u.num) (.string u.text) (.slice F u.items.length cF) (.slice F' u.names.length cF')
 have HBOX := hid hbox
 have HEND := hid hend
 clear hbox hend
 refine ot_step rfl (fun K hK => ?_)
 go_simp
 refine hK _ (five w6 (w.heap.size + 1) 0 (.int .i64 u.kind) (.int .i64 u.num) (.string u.text) (.slice F u.items.length cF) (.slice F' u.names.length cF')) (.inr ⟨by omega, fun b hb hg hh => h5 b hg⟩) ?_
 clear hK K r0 r1 r2 r3 r4 rf h5 hz5 HR5 HX5 HO5 HV5
 generalize five w6 (w.heap.size + 1) 0 (.int .i64 u.kind) (.int .i64 u.num) (.string u.text) (.slice F u.items.length cF) (.slice F' u.names.length cF') = w7 at *
 refine ot_step rfl (fun K hK => ?_)
 go_simp
 refine hK _ _ (.inr (Keep2.refl _ _ _)) ?_
 clear hK K
 refine ot_end ?_
 go_wp2_with fail
 refine bodyPost_ret (results_cell_two rfl _ _ (w.heap.size + 1) 27 _ (0, 0) rfl HBOX.out (by kernel_rfl)) rfl ?_
 exact HEND.out
end Go.Proofs.YtlipkmdjpligeaaGreat

/- Layer 19, plain: filters; which entries match, which end a stream. -/
namespace Go.Proofs.YtlipkmdjpligeaaGreat
set_option linter.unusedVariables false
set_option linter.unusedSimpArgs false
set_option maxRecDepth 100000
structure FilT where
 coll : ByteArray
 path : List ByteArray
 kinds : Int
def kindsOk (k : Int) : Bool := decide (0 ≤ k) && decide (k < 256) && decide (k % 4 = 0)
def mayFl (f : FilT) : Bool := (decide (f.coll.size = 0) || nameC f.coll) && (decide (f.path.length = 0) || mayP f.path) && kindsOk f.kinds
def ofKindsF (k : Int) (e : EntT) : Bool := decide (k = 0) || decide (k.toNat / 2 ^ e.kind.toNat % 2 = 1)
def ofCollF (c : ByteArray) (e : EntT) : Bool := decide (c.size = 0) || decide (c = e.coll) || decide (c = e.to)
def atPathF (p : List ByteArray) (e : EntT) : Bool :=
 if p.length = 0 then true else if e.kind = 2 then (tgotT e.doc p).isSome else if e.kind = 3 then touchD e.dels p else true
def matchFl (f : FilT) (e : EntT) : Bool := mayFl f && mayE e && decide (e.kind ≠ 1) && ofKindsF f.kinds e && ofCollF f.coll e && atPathF f.path e
def endsFl (f : FilT) (e : EntT) : Bool := decide (f.coll.size ≠ 0) && decide (f.coll = e.coll) && (decide (e.kind = 6) || decide (e.kind = 7)) && mayFl f && mayE e
def countFl (f : FilT) : List EntT → Nat
 | [] => 0
 | e :: l => (if matchFl f e then 1 else 0) + if endsFl f e then 0 else countFl f l
theorem wrap_small : ∀ n : Nat, n < 253 → IntKind.wrap .i64 (n : Int) = n := by decide +kernel
theorem and252_range (x : Int) : 0 ≤ bits .and .i64 x 252 ∧ bits .and .i64 x 252 ≤ 252 := by
 have h : (BitVec.ofInt IntKind.i64.bits x &&& BitVec.ofInt IntKind.i64.bits 252).toNat ≤ 252 := by
  rw [BitVec.toNat_and]
  exact Nat.le_trans Nat.and_le_right (by decide)
 have e : bits .and .i64 x 252 = IntKind.wrap .i64 ((BitVec.ofInt IntKind.i64.bits x &&& BitVec.ofInt IntKind.i64.bits 252).toNat : Int) := rfl
 rw [e, wrap_small _ (by omega)]
 omega
theorem and252_num : ∀ n : Nat, n < 256 → (bits .and .i64 (n : Int) 252 = (n : Int) ↔ n % 4 = 0) := by decide +kernel
theorem and252_iff (x : Int) : bits .and .i64 x 252 = x ↔ kindsOk x = true := by
 have hr := and252_range x
 unfold kindsOk
 simp only [Bool.and_eq_true, decide_eq_true_eq]
 constructor
 ·intro h
  rw [h] at hr
  obtain ⟨n, rfl⟩ : ∃ n : Nat, x = n := ⟨x.toNat, by omega⟩
  have := (and252_num n (by omega)).1 h
  exact ⟨⟨by omega, by omega⟩, by omega⟩
 ·rintro ⟨⟨h1, h2⟩, h3⟩
  obtain ⟨n, rfl⟩ : ∃ n : Nat, x = n := ⟨x.toNat, by omega⟩
  exact (and252_num n (by omega)).2 (by omega)
theorem bit_num : ∀ n : Nat, n < 256 → ∀ k : Nat, k < 8 → (bits .and .i64 (n : Int) ((2 ^ k : Nat) : Int) = 0 ↔ ¬ (n / 2 ^ k % 2 = 1)) := by decide +kernel
end Go.Proofs.YtlipkmdjpligeaaGreat
