/- Images of the call's own beside the document's images. -/
import Derived.Test.YtdggeokpnaopiaaKRiG
import Derived.Test.YtdggeokpnaopiaaKRiH
namespace Go.Proofs.Ytdggeokpnaopiaa
set_option linter.unusedVariables false
set_option linter.unusedSimpArgs false
open Go.RowKit
set_option maxRecDepth 100000
def NearX (W w : World) (g x : Nat) : Nat → Prop := fun b => W.heap.size ≤ b ∧ b ≠ g ∧ b ≠ x ∧ b < w.heap.size
/-- Images in block g and the document's images in block x, both new since W; values that came in lie below W. -/
structure Two (W w : World) (g x : Nat) (m : ImT) (r : RefI) : Prop where
  at_ : ImAt w (NearX W w g x) g m
  rat : RIAt w (fun b => b < W.heap.size) 0 x r
  new : W.heap.size ≤ g
  xnew : W.heap.size ≤ x
  gx : g ≠ x
  below : Below W.heap.size W w
  fine : m.Fine
  good : m.Good
  rfine : r.Fine
  agree : AgI m r
theorem RIAt.base0 {w : World} {S : Nat → Prop} {B x : Nat} {r : RefI} (h : RIAt w S B x r) : RIAt w S 0 x r := by
  obtain ⟨A, c, xs, h1, h2, h3⟩ := h
  exact ⟨A, c, xs, h1, ⟨h2.1, h2.2.imp id fun ⟨g, cap, cur, e, hB, hr⟩ => ⟨g, cap, cur, e, Nat.zero_le _, hr⟩⟩, h3⟩
/-- What lies in a block of images turns nothing of the document's. -/
theorem RIAt.only {w w' : World} {S : Nat → Prop} {B x g : Nat} {r : RefI} {cs : Array Value} {fr : Nat × Nat} (h : RIAt w S B x r) (ho : Only w w' g) (hg : w.heap[g]? = some (.cells cs 66 fr)) (hS : ∀ b, S b → b < w.heap.size ∧ b ≠ g) : RIAt w' S B x r := by
  obtain ⟨A, c, xs, h1, h2, h3⟩ := h
  have hxg : x ≠ g := by rintro rfl; rw [h1] at hg; injection hg with hg; injection hg with _ hg; exact absurd hg (by decide)
  refine ⟨A, c, xs, (ho.block x (Array.getElem?_eq_some_iff.1 h1).1 (by rintro ⟨⟩; exact hxg rfl)).trans h1, ⟨h2.1, h2.2.imp id ?_⟩, h3.keep fun b k => ho.block b (hS b k).1 (by rintro ⟨⟩; exact (hS _ k).2 rfl)⟩
  rintro ⟨q, cap, cur, e, hB, hh, hr⟩
  refine ⟨q, cap, cur, e, hB, (ho.block q (Array.getElem?_eq_some_iff.1 hh).1 ?_).trans hh, hr⟩
  rintro ⟨⟩
  rw [hh] at hg; injection hg with hg; injection hg with _ hg; exact absurd hg (by decide)
section
variable {W w w' : World} {g x : Nat} {m : ImT} {r : RefI}
theorem NearX.lt : ∀ b, NearX W w g x b → b < w.heap.size := fun _ h => h.2.2.2
theorem NearX.self : ¬ NearX W w g x g := fun h => h.2.1 rfl
theorem Two.inlt (h : Two W w g x m r) : ∀ b, b < W.heap.size → b < w.heap.size := fun b hb => Nat.lt_of_lt_of_le hb h.below.size
theorem Two.stay (h : Two W w g x m r) (hb : Below w.heap.size w w') : Two W w' g x m r :=
  ⟨(h.at_.below NearX.lt hb).imp fun b k => ⟨k.1, k.2.1, k.2.2.1, Nat.lt_of_lt_of_le k.2.2.2 hb.size⟩, h.rat.below h.inlt hb, h.new, h.xnew, h.gx, h.below.trans (hb.mono h.below.size), h.fine, h.good, h.rfine, h.agree⟩
/-- Both note. -/
theorem Two.noted {o : Option VT} {w1 w2 : World} {S2 : Nat → Prop} {e e' : Ending} (h : Two W w g x m r) (hn : NoteR w (NearX W w g x) g (m.note o) e w1) (hr : RNoteR w1 S2 x (r.note o) e' w2) (hS2 : ∀ b, S2 b → b < W.heap.size)
    (ht : m.top < 4611686018427387904) (ho : ∀ t, o = some t → checkT t = 0 ∧ sizeT t ≤ 9223372036854775807) (hl : r.l.length < 1000000) : Two W w2 g x (m.note o) (r.note o) := by
  obtain ⟨-, h1, h2⟩ := hn
  obtain ⟨-, h3, h4⟩ := hr
  have hb1 : Below W.heap.size W w1 := below_only h.below h2 h.below.size h.new
  have hgl : g < w1.heap.size := h1.lt
  have hxl := h.rat.lt
  refine ⟨(h1.keep (h4.block g hgl (by rintro ⟨⟩; exact h.gx rfl)) fun b hb => ?_).imp fun b hb => ?_, (h3.base0).imp hS2, h.new, h.xnew, h.gx, below_only hb1 h4 hb1.size h.xnew, note_fine h.fine o ht, note_good h.good o ho, ?_, h.agree.note h.fine h.rfine o⟩
  · refine h4.block b ?_ ?_
    · rcases hb with hb | hb
      · exact Nat.lt_of_lt_of_le hb.2.2.2 h2.size
      · exact hb.2
    · rintro ⟨⟩
      rcases hb with hb | hb
      · exact hb.2.2.1 rfl
      · have := hb.1; omega
  · have hs2 := h2.size
    have hs4 := h4.size
    have hbs := h.below.size
    rcases hb with hb | hb
    · exact ⟨hb.1, hb.2.1, hb.2.2.1, by have := hb.2.2.2; omega⟩
    · exact ⟨by have := hb.1; omega, fun e => by have := hb.1; have := h.at_.lt; omega, fun e => by have := hb.1; omega, by have := hb.2; omega⟩
  · have hf := h.rfine
    exact ⟨hf.k0, hf.k1, hf.b0, hf.b1, by show (r.l ++ [o]).length ≤ 1000000; simp; omega⟩
/-- A fork, and a note to the ones that it came of. -/
theorem Two.forked {o : Option VT} {w1 w2 : World} {e e' : Ending} (h : Two W w g x m r) (hf : ForkR w (NearX W w g x) m e w1) (hn : NoteR w1 (NearX W w1 g x) g (m.note o) e' w2) : Two W w2 w.heap.size x m r := by
  obtain ⟨-, h1, h2⟩ := hf
  obtain ⟨-, h3, h4⟩ := hn
  have hgl := h.at_.lt
  have hxl := h.rat.lt
  have hr1 := h.rat.below h.inlt h2
  obtain ⟨C, hC, -⟩ := (h.at_.below NearX.lt h2)
  have hb1 : Below W.heap.size W w1 := h.below.trans (h2.mono h.below.size)
  refine ⟨(h1.keep (h4.block _ h1.lt (by rintro ⟨⟩; omega)) fun b hb => h4.block b (Nat.lt_of_lt_of_le hb.2.2.2 h2.size) (by rintro ⟨⟩; exact hb.2.1 rfl)).imp fun b hb => ⟨hb.1, fun e => by have := hb.2.2.2; omega, hb.2.2.1, by have := hb.2.2.2; have := h2.size; have := h4.size; omega⟩,
    hr1.only h4 hC (fun b hb => ⟨Nat.lt_of_lt_of_le (h.inlt b hb) h2.size, fun e => by have := h.new; omega⟩), h.below.size, h.xnew, fun e => by omega, below_only hb1 h4 hb1.size h.new, h.fine, h.good, h.rfine, h.agree⟩
/-- What was read of the code. -/
theorem Two.read {m' : ImT} {w1 w2 : World} {q : Nat} (h : Two W w g x m r) (hq : Below w.heap.size w w1) (ho : Only w1 w2 q) (hqn : w.heap.size ≤ q) (hm : ImAt w2 (fun b => w1.heap.size < b ∧ b < w2.heap.size) w1.heap.size m') (hf : m'.Fine) (hg : m'.Good) (ha : AgI m' r) : Two W w2 w1.heap.size x m' r := by
  have hb2 : Below w.heap.size w w2 := below_only hq ho hq.size hqn
  have hxl := h.rat.lt
  have hbs := h.below.size
  have hqs := hq.size
  exact ⟨hm.imp fun b hb => ⟨by have := hb.1; omega, fun e => by have := hb.1; omega, fun e => by have := hb.1; omega, hb.2⟩, h.rat.below h.inlt hb2, by omega, h.xnew, fun e => by omega, h.below.trans (hb2.mono hbs), hf, hg, h.rfine, ha⟩
theorem Two.looks (h : Two W w g x m r) (i : Int) (hi : -9223372036854775808 ≤ i ∧ i ≤ 9223372036854775807) :
    Calls Try.prog 20 #[.pointer (some ⟨g, 0, none⟩), .pointer (some ⟨x, 0, none⟩), .int .i64 i] w fun e w' => e = .returned (.bool true) ∧ Below w.heap.size w w' :=
  looks_any h.at_ h.fine h.rat h.rfine NearX.lt h.inlt h.agree i hi
theorem Two.code (h : Two W w g x m r) (ht : m.top ≤ 1099511627776) : ∃ m', rdImg (some m.code) = (some m', some []) ∧ AgI m' r := by
  refine rdImg_code h.fine h.good (fun h0 i t hi => ?_) ht h.agree h.rfine
  unfold ImT.at at hi
  have hk := h.fine.k1
  exact h.at_.rng _ (by have := Nat.mod_lt i (show 0 < m.keep.toNat by omega); omega) t hi
end
theorem rnote_any {w : World} {S S' : Nat → Prop} {B x : Nat} {r : RefI} {t : VT} {v : Value} (b : Bool) (h : RIAt w S B x r) (hS : ∀ b, S b → b < w.heap.size) (hxS : ¬ S x) (hS' : ∀ b, S' b → b < w.heap.size) (hxS' : ¬ S' x) (hv : LV w S' t v) (hd : depthT t ≤ 1000) (hc : b = true → checkT t = 0) (hn : r.l.length ≤ 1000000) :
    Calls Try.prog 14 #[.pointer (some ⟨x, 0, none⟩), v, .bool b] w (RNoteR w (fun b => S b ∨ S' b) x (r.note (if b = true then some t else none))) := by
  cases b
  · exact (rnote_none h hS hxS hS' hv hn).mono fun e w' ⟨h1, h2, h3⟩ => ⟨h1, h2.imp fun b h => h.elim .inl False.elim, h3⟩
  · exact rnote_some h hS hxS hS' hxS' hv hd (hc rfl) hn
theorem Two.start {w w1 w2 : World} {keep base : Int} {e : Ending} (hm : mayI keep base = true) (h : NewIR w (newI keep base) e w1) (hb : Below w1.heap.size w1 w2) :
    Two w (w2.alloc (.cells #[.int .i64 keep, .int .i64 base, .slice none 0 0] 32)) w.heap.size w2.heap.size (newI keep base) ⟨keep, base, []⟩ := by
  obtain ⟨-, h1, h2⟩ := h
  have hb2 := h2.trans (hb.mono h2.size)
  have hb3 := hb2.trans ((below_box (w := w2) (.cells #[.int .i64 keep, .int .i64 base, .slice none 0 0] 32)).mono hb2.size)
  have hgl : w.heap.size < w2.heap.size := Nat.lt_of_lt_of_le h1.lt hb.size
  have hf := new_fine hm
  refine ⟨((h1.below (fun _ h => h.elim) hb).below (fun _ h => h.elim) (below_box _)).imp fun _ h => h.elim, ⟨none, 0, [], heap_alloc_new w2 _, World.ownsRow_nil _ _ _ _, rfl⟩, Nat.le_refl _, hb2.size, fun e => by omega, hb3, hf, new_good _ _, ⟨hf.k0, hf.k1, hf.b0, ?_, by simp⟩, AgI.new keep base⟩
  unfold mayI at hm
  simp only [Bool.and_eq_true, decide_eq_true_eq] at hm
  have := hm.2
  show base ≤ 2199023255552
  omega
/-- A block stays. -/
def KeepQ (q : Nat) (a b : World) : Prop := b.heap[q]? = a.heap[q]?
instance keepQ_inh (q : Nat) (w : World) : Inhabited (LaterR (KeepQ q) w) := ⟨⟨w, rfl⟩⟩
theorem cell_kq {w : World} {q i : Nat} {v : Value} (hc : w.cell? ⟨q, i, none⟩ = some v) : ∀ p : LaterR (KeepQ q) w, p.u.cell? ⟨q, i, none⟩ = some v := fun p => (World.cell?_of_block (a := ⟨q, i, none⟩) p.h).trans hc
end Go.Proofs.Ytdggeokpnaopiaa
