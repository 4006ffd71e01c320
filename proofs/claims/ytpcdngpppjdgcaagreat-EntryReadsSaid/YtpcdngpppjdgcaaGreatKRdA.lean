/- The document's own decoder: its parts. -/
import Derived.Test.YtpcdngpppjdgcaaGreatKCodX
import Derived.Test.YtpcdngpppjdgcaaGreatKCodM
namespace Go.Proofs.YtpcdngpppjdgcaaGreat
set_option linter.unusedVariables false
set_option linter.unusedSimpArgs false
set_option maxRecDepth 100000
open Go.RowKit
theorem rs_c1 {w : World} {g B : Nat} {st : Option (List UInt8)} (h : RS w g B st) : w.cell? ⟨g, 1, none⟩ = some (.bool st.isNone) := by
 cases st with
 | none => obtain ⟨A, n, c, h⟩ := h; exact Go.Joins.cell_of_block h 1
 | some l => obtain ⟨v, h, _⟩ := h; exact Go.Joins.cell_of_block h 1
theorem rs_f1 {w : World} {g B : Nat} {st : Option (List UInt8)} (h : RS w g B st) : w.frozen? ⟨g, 1, none⟩ = false := by
 cases st with
 | none => obtain ⟨A, n, c, h⟩ := h; exact Go.Joins.unfrozen_of_block h 1
 | some l => obtain ⟨v, h, _⟩ := h; exact Go.Joins.unfrozen_of_block h 1
theorem rs_spoil {w : World} {g B : Nat} {st : Option (List UInt8)} (h : RS w g B st) : RS (w.setCell ⟨g, 1, none⟩ (.bool true)) g B none := by
 cases st with
 | none => obtain ⟨A, n, c, h⟩ := h; exact ⟨A, n, c, set_rs1 h⟩
 | some l =>
  obtain ⟨v, h, hr⟩ := h
  obtain ⟨A, cap, hv, -⟩ := hr
  subst hv
  exact ⟨A, l.length, cap, set_rs1 h⟩
theorem RS.only {w w' : World} {g BB : Nat} {st : Option (List UInt8)} (h : RS w g BB st) (hb : ∀ b, b < w.heap.size → b = g ∨ b < BB → w'.heap[b]? = w.heap[b]?) (hB : BB ≤ w.heap.size) (ho : w'.os = w.os) (ht : w'.tape = w.tape) (hot : w'.output = w.output) (hz : w.heap.size ≤ w'.heap.size) : RS w' g BB st :=
 h.keep (hb g h.lt (.inl rfl)) ⟨ho, ht, hot, hz, fun b hb' => hb b (by omega) (.inr hb')⟩
theorem set_only {w : World} {g i : Nat} {u : Value} : Only w (w.setCell ⟨g, i, none⟩ u) g := ⟨rfl, rfl, rfl, by simp, fun b _ hb => heap_setCell_other w ⟨g, i, none⟩ b u (fun e => hb (by rw [e]))⟩
theorem alloc_only {w : World} {g : Nat} (o : Obj) : Only w (w.alloc o) g := ⟨rfl, rfl, rfl, by simp, fun b hb _ => Below.heap_alloc w o b hb⟩
def RefR (d g BB : Nat) (st : Option (List UInt8)) (w : World) (e : Ending) (w' : World) : Prop :=
 ∃ v t st', e = .returned v ∧ RS w' g BB st' ∧ Only w w' g ∧ LV w' (NewB w.heap.size w') t v ∧ Rel d 0 st t st'
def RefOK (d : Nat) : Prop := ∀ (g BB : Nat) (st : Option (List UInt8)) (w : World), RS w g BB st → BB ≤ g →
 Calls Tryz.prog 109 #[.pointer (some ⟨g, 0, none⟩), .int .i64 d] w (RefR d g BB st w)
structure MR (w w' : World) (g BB : Nat) (st : Option (List UInt8)) : Prop where
 rb : Box w' w.heap.size (.int .i64 0) (.int .i64 0) (.string ⟨#[]⟩) (.slice none 0 0) (.slice none 0 0)
 src : RS w' g BB st
 only : Only w w' g
 size : w.heap.size + 1 ≤ w'.heap.size
theorem MR.first {w : World} {g BB : Nat} {st : Option (List UInt8)} (h : RS w g BB st) (hg : BB ≤ g) : MR w (w.alloc (.cells #[.int .i64 0, .int .i64 0, .string ⟨#[]⟩, .slice none 0 0, .slice none 0 0] 25)) g BB st :=
 ⟨Box.new _ _ _ _ _, h.only (fun b hb _ => Below.heap_alloc w _ b hb) (by have := h.lt; omega) rfl rfl rfl (by simp), alloc_only _, by simp⟩
theorem MR.call {w w1 w2 : World} {g BB : Nat} {st st' : Option (List UInt8)} (h : MR w w1 g BB st) (hs : RS w2 g BB st') (ho : Only w1 w2 g) (hg : g < w.heap.size) : MR w w2 g BB st' :=
 ⟨box_only h.rb ho (by omega), hs, h.only.trans ho, Nat.le_trans h.size ho.size⟩
theorem MR.alloc {w w1 : World} {g BB : Nat} {st : Option (List UInt8)} (h : MR w w1 g BB st) (o : Obj) (hg : BB ≤ g) (hgl : g < w.heap.size) : MR w (w1.alloc o) g BB st :=
 ⟨h.rb.alloc o, h.src.only (fun b hb _ => Below.heap_alloc w1 o b hb) (by have := h.src.lt; omega) rfl rfl rfl (by simp), h.only.trans (alloc_only o), by simp; have := h.size; omega⟩
theorem MR.set {w w1 : World} {g BB vb i : Nat} {u : Value} {st : Option (List UInt8)} (h : MR w w1 g BB st) (hv : w.heap.size + 1 ≤ vb) (hg : BB ≤ g) (hgl : g < w.heap.size) : MR w (w1.setCell ⟨vb, i, none⟩ u) g BB st := by
 have hk : ∀ b, b ≠ vb → (w1.setCell ⟨vb, i, none⟩ u).heap[b]? = w1.heap[b]? := fun b hb => heap_setCell_other _ ⟨vb, i, none⟩ b _ hb
 refine ⟨(hk _ (by omega)).trans h.rb, h.src.only (fun b hb hb' => hk b (by omega)) (by have := h.src.lt; omega) rfl rfl rfl (by simp), ⟨h.only.os, h.only.tape, h.only.output, by simp; exact h.only.size, fun b hb hbg => (hk b (by omega)).trans (h.only.block b hb hbg)⟩, by simp; exact h.size⟩
theorem MR.spoil {w w1 : World} {g BB : Nat} {st : Option (List UInt8)} (h : MR w w1 g BB st) (hgl : g < w.heap.size) : MR w (w1.setCell ⟨g, 1, none⟩ (.bool true)) g BB none :=
 h.call (rs_spoil h.src) set_only hgl
theorem MR.fars {w w1 w2 : World} {g BB vb : Nat} {st st' : Option (List UInt8)} (h : MR w w1 g BB st) (hs : RS w2 g BB st') (ho : Far vb g w1 w2) (hg : g < w.heap.size) (hv : w.heap.size + 1 ≤ vb) : MR w w2 g BB st' := by
 have hz := h.size
 refine ⟨(ho.block _ (by omega) (by omega)).trans h.rb, hs, ⟨ho.os.trans h.only.os, ho.tape.trans h.only.tape, ho.output.trans h.only.output, Nat.le_trans h.only.size ho.size, fun b hb hbg => (ho.block b (by omega) (fun e => hbg (by rw [e]))).trans (h.only.block b hb hbg)⟩, Nat.le_trans hz ho.size⟩
theorem ref_end {w w4 : World} {d g BB : Nat} {st st' : Option (List UInt8)} {S : Nat → Prop} {t : VT} {c0 c1 c2 c3 c4 : Value} (h : MR w w4 g BB st') (hB : BB ≤ g) (hg : g < w.heap.size)
  (hv : LV w4 S t (.agg #[c0, c1, c2, c3, c4])) (hS : ∀ b, S b → w.heap.size + 1 ≤ b ∧ b < w4.heap.size) (hr : Rel d 0 st t st') :
  RefR d g BB st w (.returned (.agg #[c0, c1, c2, c3, c4])) (five w4 w.heap.size 0 c0 c1 c2 c3 c4) := by
 have hr5 := five_rest w4 w.heap.size 0 c0 c1 c2 c3 c4
 have hsz := five_size w4 w.heap.size 0 c0 c1 c2 c3 c4
 have hz := h.size
 refine ⟨_, t, st', rfl, ?_, ⟨hr5.1.trans h.only.os, hr5.2.1.trans h.only.tape, hr5.2.2.trans h.only.output, by rw [hsz]; omega, fun b hb hbg => ?_⟩, ?_, hr⟩
 ·exact h.src.only (fun b hb hb' => five_other _ _ _ _ _ _ _ _ b (by omega)) (by omega) hr5.1 hr5.2.1 hr5.2.2 (by rw [hsz]; exact Nat.le_refl _)
 ·rw [five_other _ _ _ _ _ _ _ _ b (by omega)]; exact h.only.block b hb hbg
 ·refine (hv.keep (w' := _) fun b hb => five_other _ _ _ _ _ _ _ _ b (by have := hS b hb; omega)).imp fun b hb => ?_
  have := hS b hb
  exact ⟨by omega, by rw [hsz]; omega⟩
theorem rel_none (d : Nat) (least : Int) {st : Option (List UInt8)} (h : (rdByte st).2 = none) (t : VT) : Rel (d + 1) least st t none := by
 intro l u r e hu
 subst e
 obtain ⟨⟨k, s⟩, hp⟩ : ∃ p, p = rdByte (some l) := ⟨_, rfl⟩
 rw [← hp] at h
 simp only at h
 subst h
 unfold rdW at hu
 rw [← hp] at hu
 cases hu
theorem may_kind {k i : Int} {s : ByteArray} {l : List VT} {ns : List ByteArray} (h : k < 1 ∨ 7 < k) : mayT (.mk k i s l ns) = false := by
 rw [mayT_eq]
 have : fitsP k i s l.length ns = false := by
  unfold fitsP
  rw [if_neg (by omega), if_neg (by omega), if_neg (by omega), if_neg (by omega), if_neg (by omega), if_neg (by omega)]
 simp only [VT.kind, VT.num, VT.text, VT.items, VT.names]
 rw [this, Bool.false_and]
theorem rel_strange (d : Nat) (least : Int) {st : Option (List UInt8)} {k : Nat} (h : (rdByte st).1 = k) (hk : k < 1 ∨ 7 < k) (t : VT) : Rel (d + 1) least st t none := by
 intro l u r e hu
 subst e
 obtain ⟨⟨i, s⟩, hp⟩ : ∃ p, p = rdByte (some l) := ⟨_, rfl⟩
 rw [← hp] at h
 simp only at h
 subst h
 cases s with
 | none =>
  unfold rdW at hu
  rw [← hp] at hu
  cases hu
 | some r1 =>
  rw [rdW_other d i (by omega) (by omega) (by omega) (by omega) (by omega) (by omega) hp.symm] at hu
  simp only [Option.some.injEq, Prod.mk.injEq] at hu
  obtain ⟨rfl, -⟩ := hu
  exact .inl (may_kind (by omega))
theorem PV.item {g vb B : Nat} {k : Int} {ts : List VT} {ns : List ByteArray} {VI VN : Value} {S : Nat → Prop} {w w4 : World} {xs : List Value} {p cap : Nat} {t : VT} {c0 c1 c2 c3 c4 : Value}
  (hpv : PV w B vb k ts ns VI VN S) (hown : w.ownsRow B 25 5 VI ts.length xs)
  (hitems : ∀ j (h : j < ts.length), ∃ c0 c1 c2 c3 c4, (xs.drop (j * 5)).take 5 = [c0, c1, c2, c3, c4] ∧ LV w S ts[j] (.agg #[c0, c1, c2, c3, c4]))
  (hg : g < vb) (hsz : w.heap.size ≤ w4.heap.size)
  (hold : ∀ b, b < w.heap.size → b ≠ g → b ≠ vb → some b ≠ VI.ownBlock → w4.heap[b]? = w.heap[b]?)
  (hp : VI.ownBlock = some p ∨ w.heap.size ≤ p)
  (hown4 : w4.ownsRow B 25 5 (.slice (some ⟨p, 0, none⟩) (ts.length + 1) cap) (ts.length + 1) (xs ++ [c0, c1, c2, c3, c4]))
  (hbox : Box w4 vb (.int .i64 k) (.int .i64 0) (.string eS) (.slice (some ⟨p, 0, none⟩) (ts.length + 1) cap) VN)
  (ht : LV w4 (fun b => w.heap.size ≤ b ∧ b < w4.heap.size ∧ b ≠ p) t (.agg #[c0, c1, c2, c3, c4])) (hB : B ≤ w.heap.size) :
  PV w4 B vb k (ts ++ [t]) ns (.slice (some ⟨p, 0, none⟩) (ts.length + 1) cap) VN (fun b => S b ∨ (w.heap.size ≤ b ∧ b < w4.heap.size ∧ b ≠ p)) := by
 have hvb := hpv.vb
 have hVN : ∀ q, VN.ownBlock = some q → B ≤ q ∧ q < w.heap.size := fun q hq => World.ownsRow.lt hpv.names q hq
 have hap : ∀ q, VN.ownBlock = some q → VI.ownBlock ≠ some q := fun q hq => own_apart hown hpv.names q hq
 have hSk : ∀ b, S b → w4.heap[b]? = w.heap[b]? := fun b hb => by
  obtain ⟨h1, h2, h3, h4⟩ := hpv.new b hb
  exact hold b h2 (by omega) (by omega) h3
 refine ⟨hbox, ?_, ?_, hpv.small, ?_, hvb⟩
 ·exact RowV.more hown hitems hSk (fun _ h => .inl h) hown4 (ht.imp fun _ h => .inr h)
 ·refine ownsRow_keep hpv.names fun q hq => ?_
  have := hVN q hq
  exact hold q this.2 (by omega) (by omega) (fun e => hap q hq e.symm)
 ·rintro b (hb | ⟨h1, h2, h3⟩)
  ·obtain ⟨h1, h2, h3, h4⟩ := hpv.new b hb
   refine ⟨h1, by omega, fun e => ?_, h4⟩
   obtain rfl : b = p := by simpa [Value.ownBlock] using e
   rcases hp with hp | hp
   ·exact h3 hp.symm
   ·omega
  ·refine ⟨by omega, h2, fun e => h3 (by cases e; rfl), fun e => ?_⟩
   have := hVN b e.symm
   omega
end Go.Proofs.YtpcdngpppjdgcaaGreat
