/- A disk of files as it lies in memory: the map by names, the files' blocks, their rows of bytes; it stays while its blocks stay. -/
import Derived.Test.YtclgekmpldeedaaFlA
import Derived.Test.YtclgekmpldeedaaFrmC
import Derived.Test.YtclgekmpldeedaaRegR
import Derived.Maps.RangeWalk
import Derived.Maps.OwnSet
import Derived.Maps.AppendAt
namespace Go.Proofs.Ytclgekmpldeedaa
set_option linter.unusedVariables false
set_option linter.unusedSimpArgs false
open Go.RowKit Go.Maps

/-- How a pointer to a file reads. -/
def fileR (v : Value) : Option (DataW Unit × List MemPlace) := match v with
  | .pointer none => some (.nil, [])
  | .pointer (some a) => if a = ⟨a.block, 0, none⟩ then some (.lit (.int .i64 (a.block : Int)), []) else none
  | _ => none
theorem fileR_mk (g : Nat) : fileR (.pointer (some ⟨g, 0, none⟩)) = some (.lit (.int .i64 (g : Int)), []) := by simp [fileR]
theorem fileR_nil : fileR (.pointer none) = some (.nil, []) := rfl
theorem fileR_inv {v : Value} {z : DataW Unit × List MemPlace} (h : fileR v = some z) :
    (v = .pointer none ∧ z = (.nil, [])) ∨ ∃ g : Nat, v = .pointer (some ⟨g, 0, none⟩) ∧ z = (.lit (.int .i64 (g : Int)), []) := by
  unfold fileR at h
  split at h
  · injection h with h; exact .inl ⟨rfl, h.symm⟩
  · rename_i a
    split at h
    · rename_i ha
      injection h with h
      exact .inr ⟨a.block, by rw [← ha], h.symm⟩
    · cases h
  · cases h
theorem fkeyed : Keyed Try.prog 9 := string_keyed Try.underlying9
theorem fkey (s : ByteArray) (hs : s.size ≤ maxLen) : keyOf Try.prog 9 (.string s) = some (.string s.data.toList) := Go.WideMaps.keyOf_string_mk Try.underlying9 hs
theorem zeroPFile (w : World) : (zeroValue 54).run Try.prog w = .ok (.pointer none) w := by kernel_rfl

/-- A file: the bytes' slice, and how many are sure. -/
structure FileAt (w : World) (Ft : Nat → Prop) (g : Nat) (v : Value) (f : FileM) : Prop where
  blk : w.heap[g]? = some (.cells #[v, .int .i64 (f.sure : Int)] 56 (0, 0))
  own : OwnB w 0 v f.b
  ftg : Ft g
  ftr : ∀ k, v.ownBlock = some k → Ft k
  le : f.sure ≤ f.b.length
  most : f.b.length ≤ 1048576

structure DiskAt (w : World) (Ft : Nat → Prop) (d m : Nat) (gs : List UInt8 → Option Nat) (rv : List UInt8 → Value) (D : DataW Unit) (M : DiskM) : Prop where
  disk : w.heap[d]? = some (.cells #[.map (some m), .int .i64 M.left, .int .i64 M.torn, .bool M.gone] 50 (0, 0))
  map : w.ownsMap Try.prog 9 fileR m M.cnt D
  cnt : Maps.size D = M.cnt
  c256 : M.cnt ≤ 256
  at' : ∀ nm, D.atKey (.string nm) .nil = match gs nm with | some g => .lit (.int .i64 (g : Int)) | none => .nil
  has : ∀ nm, Maps.has D (.string nm) = (gs nm).isSome
  ok : ∀ nm, (gs nm).isSome = (M.fs nm).isSome
  file : ∀ nm g f, gs nm = some g → M.fs nm = some f → FileAt w Ft g (rv nm) f
  inj : ∀ a b g, gs a = some g → gs b = some g → a = b
  rows : ∀ a b k, (gs a).isSome = true → (gs b).isSome = true → (rv a).ownBlock = some k → (rv b).ownBlock = some k → a = b
  nms : ∀ nm, (gs nm).isSome = true → badNm nm = false
  fd : Ft d
  fm : Ft m
  rng : -1 ≤ M.left ∧ M.left ≤ 9223372036854775807 ∧ 0 ≤ M.torn ∧ M.torn ≤ 9223372036854775807

/-- A disk that a pointer to block d is. -/
def DAt (w : World) (Ft : Nat → Prop) (d : Nat) (M : DiskM) : Prop := (∀ b, Ft b → b < w.heap.size) ∧ ∃ m gs rv D, DiskAt w Ft d m gs rv D M

theorem OwnB.keepB {w w' : World} {B : Nat} {v : Value} {l : List UInt8} (h : OwnB w B v l) (hk : ∀ k, v.ownBlock = some k → w'.heap[k]? = w.heap[k]?) : OwnB w' B v l := by
  refine ⟨h.1, ?_⟩
  rcases h.2 with h2 | ⟨g, cap, cur, rfl, hb, hh, r⟩
  · exact .inl h2
  · exact .inr ⟨g, cap, cur, rfl, hb, (hk g rfl).trans hh, r⟩
theorem FileAt.keep {w w' : World} {Ft Ft' : Nat → Prop} {g : Nat} {v : Value} {f : FileM} (h : FileAt w Ft g v f) (hk : ∀ b, b = g ∨ v.ownBlock = some b → w'.heap[b]? = w.heap[b]?) (hF : ∀ b, Ft b → Ft' b) : FileAt w' Ft' g v f :=
  ⟨(hk g (.inl rfl)).trans h.blk, h.own.keepB fun k e => hk k (.inr e), hF _ h.ftg, fun k e => hF _ (h.ftr k e), h.le, h.most⟩
theorem ownsMap_keep {w w' : World} {H : Type} {P : Program} {k : TypeId} {R : Value → Option (DataW H × List MemPlace)} {b n : Nat} {D : DataW H} (h : w.ownsMap P k R b n D) (hk : w'.heap[b]? = w.heap[b]?) : w'.ownsMap P k R b n D := by
  obtain ⟨es, clock, hb, r⟩ := h
  exact ⟨es, clock, hk.trans hb, r⟩
theorem ownsMap_exact {w : World} {H : Type} {P : Program} {k : TypeId} {R : Value → Option (DataW H × List MemPlace)} {b n : Nat} {D : DataW H} (h : w.ownsMap P k R b n D) : w.ownsMap P k R b (Maps.size D) D := by
  obtain ⟨es, clock, hb, F, hs, hD⟩ := h
  refine ⟨es, clock, hb, F, ?_, hD⟩
  subst hD
  rw [Maps.size_eq, length_sorted]
  simp
theorem DiskAt.keep {w w' : World} {Ft : Nat → Prop} {d m : Nat} {gs : List UInt8 → Option Nat} {rv : List UInt8 → Value} {D : DataW Unit} {M : DiskM} (h : DiskAt w Ft d m gs rv D M) (hk : ∀ b, Ft b → w'.heap[b]? = w.heap[b]?) : DiskAt w' Ft d m gs rv D M :=
  ⟨(hk d h.fd).trans h.disk, ownsMap_keep h.map (hk m h.fm), h.cnt, h.c256, h.at', h.has, h.ok, fun nm g f hg hf => (h.file nm g f hg hf).keep (fun b hb => hk b (by rcases hb with rfl | e; exact (h.file nm _ f hg hf).ftg; exact (h.file nm g f hg hf).ftr b e)) (fun _ x => x), h.inj, h.rows, h.nms, h.fd, h.fm, h.rng⟩
theorem DiskAt.below {w w' : World} {Ft : Nat → Prop} {d m : Nat} {gs : List UInt8 → Option Nat} {rv : List UInt8 → Value} {D : DataW Unit} {M : DiskM} (h : DiskAt w Ft d m gs rv D M) (hlt : ∀ b, Ft b → b < w.heap.size) (hb : Below w.heap.size w w') : DiskAt w' Ft d m gs rv D M := h.keep fun b hF => hb.block b (hlt b hF)
theorem DAt.keep {w w' : World} {Ft : Nat → Prop} {d : Nat} {M : DiskM} (h : DAt w Ft d M) (hz : w.heap.size ≤ w'.heap.size) (hk : ∀ b, Ft b → w'.heap[b]? = w.heap[b]?) : DAt w' Ft d M := by
  obtain ⟨hlt, m, gs, rv, D, h⟩ := h
  exact ⟨fun b hb => Nat.lt_of_lt_of_le (hlt b hb) hz, m, gs, rv, D, h.keep hk⟩
theorem DAt.below {w w' : World} {Ft : Nat → Prop} {d : Nat} {M : DiskM} (h : DAt w Ft d M) (hb : Below w.heap.size w w') : DAt w' Ft d M := h.keep hb.size fun b hF => hb.block b (h.1 b hF)
theorem DiskAt.lt {w : World} {Ft : Nat → Prop} {d m : Nat} {gs : List UInt8 → Option Nat} {rv : List UInt8 → Value} {D : DataW Unit} {M : DiskM} (h : DiskAt w Ft d m gs rv D M) : d < w.heap.size := (Array.getElem?_eq_some_iff.1 h.disk).1

/-- What a call on a disk may do: blocks outside its own stay; what is new is its own or anybody's. -/
structure Gr (Ft : Nat → Prop) (w : World) (Ft' : Nat → Prop) (w' : World) : Prop where
  os : w'.os = w.os
  tape : w'.tape = w.tape
  output : w'.output = w.output
  size : w.heap.size ≤ w'.heap.size
  block : ∀ k, k < w.heap.size → ¬ Ft k → w'.heap[k]? = w.heap[k]?
  ft : ∀ k, Ft' k → Ft k ∨ w.heap.size ≤ k
theorem Gr.refl (Ft : Nat → Prop) (w : World) : Gr Ft w Ft w := ⟨rfl, rfl, rfl, Nat.le_refl _, fun _ _ _ => rfl, fun _ h => .inl h⟩
theorem Gr.trans {F G H : Nat → Prop} {a b c : World} (x : Gr F a G b) (y : Gr G b H c) : Gr F a H c :=
  ⟨y.os.trans x.os, y.tape.trans x.tape, y.output.trans x.output, Nat.le_trans x.size y.size, fun k hk hn => (y.block k (Nat.lt_of_lt_of_le hk x.size) (fun h => by rcases x.ft k h with h | h; exact hn h; omega)).trans (x.block k hk hn), fun k h => by
    rcases y.ft k h with h | h
    · exact x.ft k h
    · exact .inr (Nat.le_trans x.size h)⟩
theorem Gr.of_below {Ft : Nat → Prop} {w w' : World} (h : Below w.heap.size w w') : Gr Ft w Ft w' := ⟨h.os, h.tape, h.output, h.size, fun k hk _ => h.block k hk, fun _ h => .inl h⟩
theorem Gr.below {F G : Nat → Prop} {B : Nat} {w w' : World} (h : Gr F w G w') (hB : B ≤ w.heap.size) (hF : ∀ k, F k → B ≤ k) : Below B w w' := ⟨h.os, h.tape, h.output, h.size, fun k hk => h.block k (by omega) (fun x => by have := hF k x; omega)⟩
theorem Gr.base {F G : Nat → Prop} {B : Nat} {w w' : World} (h : Gr F w G w') (hB : B ≤ w.heap.size) (hF : ∀ k, F k → B ≤ k) : ∀ k, G k → B ≤ k := fun k hk => by
  rcases h.ft k hk with h | h
  · exact hF k h
  · omega
theorem Gr.cell {F G : Nat → Prop} {w w' : World} (h : Gr F w G w') {b i : Nat} {v : Value} (hc : w.cell? ⟨b, i, none⟩ = some v) (hn : ¬ F b) : w'.cell? ⟨b, i, none⟩ = some v :=
  (World.cell?_of_block (a := ⟨b, i, none⟩) (h.block b (World.block_lt_of_cell? w _ hc) hn)).trans hc

section
variable {w : World} {Ft : Nat → Prop} {d m : Nat} {gs : List UInt8 → Option Nat} {rv : List UInt8 → Value} {D : DataW Unit} {M : DiskM}
def adrOf (o : Option Nat) : Option Addr := o.map fun g => ⟨g, 0, none⟩
abbrev ptrOf (o : Option Nat) : Value := .pointer (adrOf o)
theorem DiskAt.look (h : DiskAt w Ft d m gs rv D M) (s : ByteArray) (hs : s.size ≤ maxLen) : (Instr.lookup 46 (.map (some m)) (.string s) false).run Try.prog w = .ok (ptrOf (gs s.data.toList)) w := by
  obtain ⟨v, ps, hrun, hv⟩ := h.map.lookup fkeyed Try.underlying46 (zeroPFile w) fileR_nil (fkey s hs)
  rw [h.at'] at hv
  rw [hrun]
  congr 1
  rcases fileR_inv hv with ⟨rfl, hz⟩ | ⟨g, rfl, hz⟩
  · cases hg : gs s.data.toList with
    | none => rfl
    | some g => rw [hg] at hz; simp at hz
  · cases hg : gs s.data.toList with
    | none => rw [hg] at hz; simp at hz
    | some g' =>
      rw [hg] at hz
      simp at hz
      obtain rfl : g' = g := by omega
      rfl
end
end Go.Proofs.Ytclgekmpldeedaa
