/- A disk of files, plain: the files by their names, how much of each is sure, and the power; what each call makes of it. -/
import Derived.Test.YtflkaladkbkbgaaGreatKFrmA
import Derived.Test.YtflkaladkbkbgaaGreatKReg
import Derived.Test.YtflkaladkbkbgaaGreatKMath
import Derived.Test.YtflkaladkbkbgaaGreatRows
import Derived.Maps.RangeWalk
import Derived.Maps.OwnSet
import Derived.Maps.AppendAt
import Derived.Lib.QuietBelow
namespace Go.Proofs.YtflkaladkbkbgaaGreat
set_option linter.unusedVariables false
set_option linter.unusedSimpArgs false

structure FileM where
  b : List UInt8
  sure : Nat
structure DiskM where
  fs : List UInt8 → Option FileM
  cnt : Nat
  left : Int
  torn : Int
  gone : Bool

def badNm (nm : List UInt8) : Bool := decide (nm.length < 1) || decide (24 < nm.length)
def DiskM.file (M : DiskM) (nm : List UInt8) : FileM := (M.fs nm).getD ⟨[], 0⟩
def DiskM.put (M : DiskM) (nm : List UInt8) (f : FileM) : DiskM := { M with fs := fun x => if x = nm then some f else M.fs x, cnt := if (M.fs nm).isSome then M.cnt else M.cnt + 1 }
def DiskM.del (M : DiskM) (nm : List UInt8) : DiskM := { M with fs := fun x => if x = nm then none else M.fs x, cnt := if (M.fs nm).isSome then M.cnt - 1 else M.cnt }
/-- One change is done. -/
def DiskM.spent (M : DiskM) : DiskM := { M with left := if 0 < M.left then M.left - 1 else M.left }
def DiskM.off (M : DiskM) : DiskM := { M with gone := true }

def DiskM.app (M : DiskM) (nm b : List UInt8) : Int × DiskM :=
  if M.gone then (90, M) else if badNm nm then (1, M)
  else if (M.fs nm).isNone && decide (M.cnt = 256) then (2, M)
  else if 1048576 < (M.file nm).b.length + b.length then (2, M)
  else if M.left = 0 then (90, (M.put nm ⟨(M.file nm).b ++ b.take M.torn.toNat, (M.file nm).sure⟩).off)
  else (0, (M.put nm ⟨(M.file nm).b ++ b, (M.file nm).sure⟩).spent)

def DiskM.snc (M : DiskM) (nm : List UInt8) : Int × DiskM :=
  if M.gone then (90, M) else if badNm nm then (1, M)
  else match M.fs nm with
    | none => (4, M)
    | some f => if M.left = 0 then (90, M.off) else (0, (M.put nm ⟨f.b, f.b.length⟩).spent)

def DiskM.read (M : DiskM) (nm : List UInt8) : List UInt8 × Int :=
  if M.gone then ([], 90) else if badNm nm then ([], 1)
  else match M.fs nm with
    | none => ([], 4)
    | some f => (f.b, 0)

def DiskM.stop (M : DiskM) (n torn : Int) : Int × DiskM :=
  if M.gone then (90, M) else if n < -1 ∨ torn < 0 then (1, M) else (0, { M with left := n, torn := torn })

/-- What the last Keep of a name says. -/
def keepOf (l : List (List UInt8 × Int)) (nm : List UInt8) : Int := l.foldl (fun n k => if k.1 = nm then k.2 else n) 0
def crashF (f : FileM) (n : Int) : FileM := ⟨f.b.take (f.sure + min (max n 0) ((f.b.length : Int) - f.sure)).toNat, (f.b.take (f.sure + min (max n 0) ((f.b.length : Int) - f.sure)).toNat).length⟩
def DiskM.crash (M : DiskM) (l : List (List UInt8 × Int)) : Int × DiskM :=
  if l.any (fun k => badNm k.1) then (1, M) else (0, ⟨fun nm => (M.fs nm).map fun f => crashF f (keepOf l nm), M.cnt, -1, 0, false⟩)

end Go.Proofs.YtflkaladkbkbgaaGreat

/- A disk of files as it lies in memory: the map by names, the files' blocks, their rows of bytes; it stays while its blocks stay. -/
namespace Go.Proofs.YtflkaladkbkbgaaGreat
set_option linter.unusedVariables false
set_option linter.unusedSimpArgs false
open Go.RowKit Go.Maps
set_option maxRecDepth 100000

/-- How a pointer to a file reads. -/
def fileR (v : Value) : Option (DataW Unit × List MemPlace) := match v with
  | .pointer none => some (.nil, [])
  | .pointer (some a) => if a = ⟨a.block, 0, none⟩ then some (.lit (.int .i64 (a.block : Int)), []) else none
  | _ => none
theorem fileR_mk (g : Nat) : fileR (.pointer (some ⟨g, 0, none⟩)) = some (.lit (.int .i64 (g : Int)), []) := by simp [fileR]
theorem fileR_nil : fileR (.pointer none) = some (.nil, []) := rfl
theorem fileR_inv {v : Value} {z : DataW Unit × List MemPlace} (h : fileR v = some z) :
    (v = .pointer none ∧ z = (.nil, [])) ∨ ∃ g : Nat, v = .pointer (some ⟨g, 0, none⟩) ∧ z = (.lit (.int .i64 (g : Int)), []) := by
  unfold fileR at h
  split at h
  · injection h with h; exact .inl ⟨rfl, h.symm⟩
  · rename_i a
    split at h
    · rename_i ha
      injection h with h
      exact .inr ⟨a.block, by rw [← ha], h.symm⟩
    · cases h
  · cases h
theorem fkeyed : Keyed Tryz.prog 9 := string_keyed Tryz.underlying9
theorem fkey (s : ByteArray) (hs : s.size ≤ maxLen) : keyOf Tryz.prog 9 (.string s) = some (.string s.data.toList) := Go.WideMaps.keyOf_string_mk Tryz.underlying9 hs
theorem zeroPFile (w : World) : (zeroValue 69).run Tryz.prog w = .ok (.pointer none) w := by kernel_rfl

/-- A file: the bytes' slice, and how many are sure. -/
structure FileAt (w : World) (Ft : Nat → Prop) (g : Nat) (v : Value) (f : FileM) : Prop where
  blk : w.heap[g]? = some (.cells #[v, .int .i64 (f.sure : Int)] 89 (0, 0))
  own : OwnB w 0 v f.b
  ftg : Ft g
  ftr : ∀ k, v.ownBlock = some k → Ft k
  le : f.sure ≤ f.b.length
  most : f.b.length ≤ 1048576

structure DiskAt (w : World) (Ft : Nat → Prop) (d m : Nat) (gs : List UInt8 → Option Nat) (rv : List UInt8 → Value) (D : DataW Unit) (M : DiskM) : Prop where
  disk : w.heap[d]? = some (.cells #[.map (some m), .int .i64 M.left, .int .i64 M.torn, .bool M.gone] 49 (0, 0))
  map : w.ownsMap Tryz.prog 9 fileR m M.cnt D
  cnt : Maps.size D = M.cnt
  c256 : M.cnt ≤ 256
  at' : ∀ nm, D.atKey (.string nm) .nil = match gs nm with | some g => .lit (.int .i64 (g : Int)) | none => .nil
  has : ∀ nm, Maps.has D (.string nm) = (gs nm).isSome
  ok : ∀ nm, (gs nm).isSome = (M.fs nm).isSome
  file : ∀ nm g f, gs nm = some g → M.fs nm = some f → FileAt w Ft g (rv nm) f
  inj : ∀ a b g, gs a = some g → gs b = some g → a = b
  rows : ∀ a b k, (gs a).isSome = true → (gs b).isSome = true → (rv a).ownBlock = some k → (rv b).ownBlock = some k → a = b
  nms : ∀ nm, (gs nm).isSome = true → badNm nm = false
  fd : Ft d
  fm : Ft m
  rng : -1 ≤ M.left ∧ M.left ≤ 9223372036854775807 ∧ 0 ≤ M.torn ∧ M.torn ≤ 9223372036854775807

/-- A disk that a pointer to block d is. -/
def DAt (w : World) (Ft : Nat → Prop) (d : Nat) (M : DiskM) : Prop := (∀ b, Ft b → b < w.heap.size) ∧ ∃ m gs rv D, DiskAt w Ft d m gs rv D M

theorem OwnB.keepB {w w' : World} {B : Nat} {v : Value} {l : List UInt8} (h : OwnB w B v l) (hk : ∀ k, v.ownBlock = some k → w'.heap[k]? = w.heap[k]?) : OwnB w' B v l := by
  refine ⟨h.1, ?_⟩
  rcases h.2 with h2 | ⟨g, cap, cur, rfl, hb, hh, r⟩
  · exact .inl h2
  · exact .inr ⟨g, cap, cur, rfl, hb, (hk g rfl).trans hh, r⟩
theorem FileAt.keep {w w' : World} {Ft Ft' : Nat → Prop} {g : Nat} {v : Value} {f : FileM} (h : FileAt w Ft g v f) (hk : ∀ b, b = g ∨ v.ownBlock = some b → w'.heap[b]? = w.heap[b]?) (hF : ∀ b, Ft b → Ft' b) : FileAt w' Ft' g v f :=
  ⟨(hk g (.inl rfl)).trans h.blk, h.own.keepB fun k e => hk k (.inr e), hF _ h.ftg, fun k e => hF _ (h.ftr k e), h.le, h.most⟩
theorem ownsMap_keep {w w' : World} {H : Type} {P : Program} {k : TypeId} {R : Value → Option (DataW H × List MemPlace)} {b n : Nat} {D : DataW H} (h : w.ownsMap P k R b n D) (hk : w'.heap[b]? = w.heap[b]?) : w'.ownsMap P k R b n D := by
  obtain ⟨es, clock, hb, r⟩ := h
  exact ⟨es, clock, hk.trans hb, r⟩
theorem ownsMap_exact {w : World} {H : Type} {P : Program} {k : TypeId} {R : Value → Option (DataW H × List MemPlace)} {b n : Nat} {D : DataW H} (h : w.ownsMap P k R b n D) : w.ownsMap P k R b (Maps.size D) D := by
  obtain ⟨es, clock, hb, F, hs, hD⟩ := h
  refine ⟨es, clock, hb, F, ?_, hD⟩
  subst hD
  rw [Maps.size_eq, length_sorted]
  simp
theorem DiskAt.keep {w w' : World} {Ft : Nat → Prop} {d m : Nat} {gs : List UInt8 → Option Nat} {rv : List UInt8 → Value} {D : DataW Unit} {M : DiskM} (h : DiskAt w Ft d m gs rv D M) (hk : ∀ b, Ft b → w'.heap[b]? = w.heap[b]?) : DiskAt w' Ft d m gs rv D M :=
  ⟨(hk d h.fd).trans h.disk, ownsMap_keep h.map (hk m h.fm), h.cnt, h.c256, h.at', h.has, h.ok, fun nm g f hg hf => (h.file nm g f hg hf).keep (fun b hb => hk b (by rcases hb with rfl | e; exact (h.file nm _ f hg hf).ftg; exact (h.file nm g f hg hf).ftr b e)) (fun _ x => x), h.inj, h.rows, h.nms, h.fd, h.fm, h.rng⟩
theorem DiskAt.below {w w' : World} {Ft : Nat → Prop} {d m : Nat} {gs : List UInt8 → Option Nat} {rv : List UInt8 → Value} {D : DataW Unit} {M : DiskM} (h : DiskAt w Ft d m gs rv D M) (hlt : ∀ b, Ft b → b < w.heap.size) (hb : Below w.heap.size w w') : DiskAt w' Ft d m gs rv D M := h.keep fun b hF => hb.block b (hlt b hF)
theorem DAt.keep {w w' : World} {Ft : Nat → Prop} {d : Nat} {M : DiskM} (h : DAt w Ft d M) (hz : w.heap.size ≤ w'.heap.size) (hk : ∀ b, Ft b → w'.heap[b]? = w.heap[b]?) : DAt w' Ft d M := by
  obtain ⟨hlt, m, gs, rv, D, h⟩ := h
  exact ⟨fun b hb => Nat.lt_of_lt_of_le (hlt b hb) hz, m, gs, rv, D, h.keep hk⟩
theorem DAt.below {w w' : World} {Ft : Nat → Prop} {d : Nat} {M : DiskM} (h : DAt w Ft d M) (hb : Below w.heap.size w w') : DAt w' Ft d M := h.keep hb.size fun b hF => hb.block b (h.1 b hF)
theorem DiskAt.lt {w : World} {Ft : Nat → Prop} {d m : Nat} {gs : List UInt8 → Option Nat} {rv : List UInt8 → Value} {D : DataW Unit} {M : DiskM} (h : DiskAt w Ft d m gs rv D M) : d < w.heap.size := (Array.getElem?_eq_some_iff.1 h.disk).1

/-- What a call on a disk may do: blocks outside its own stay; what is new is its own or anybody's. -/
structure Gr (Ft : Nat → Prop) (w : World) (Ft' : Nat → Prop) (w' : World) : Prop where
  os : w'.os = w.os
  tape : w'.tape = w.tape
  output : w'.output = w.output
  size : w.heap.size ≤ w'.heap.size
  block : ∀ k, k < w.heap.size → ¬ Ft k → w'.heap[k]? = w.heap[k]?
  ft : ∀ k, Ft' k → Ft k ∨ w.heap.size ≤ k
theorem Gr.refl (Ft : Nat → Prop) (w : World) : Gr Ft w Ft w := ⟨rfl, rfl, rfl, Nat.le_refl _, fun _ _ _ => rfl, fun _ h => .inl h⟩
theorem Gr.trans {F G H : Nat → Prop} {a b c : World} (x : Gr F a G b) (y : Gr G b H c) : Gr F a H c :=
  ⟨y.os.trans x.os, y.tape.trans x.tape, y.output.trans x.output, Nat.le_trans x.size y.size, fun k hk hn => (y.block k (Nat.lt_of_lt_of_le hk x.size) (fun h => by rcases x.ft k h with h | h; exact hn h; omega)).trans (x.block k hk hn), fun k h => by
    rcases y.ft k h with h | h
    · exact x.ft k h
    · exact .inr (Nat.le_trans x.size h)⟩
theorem Gr.of_below {Ft : Nat → Prop} {w w' : World} (h : Below w.heap.size w w') : Gr Ft w Ft w' := ⟨h.os, h.tape, h.output, h.size, fun k hk _ => h.block k hk, fun _ h => .inl h⟩
theorem Gr.below {F G : Nat → Prop} {B : Nat} {w w' : World} (h : Gr F w G w') (hB : B ≤ w.heap.size) (hF : ∀ k, F k → B ≤ k) : Below B w w' := ⟨h.os, h.tape, h.output, h.size, fun k hk => h.block k (by omega) (fun x => by have := hF k x; omega)⟩
theorem Gr.base {F G : Nat → Prop} {B : Nat} {w w' : World} (h : Gr F w G w') (hB : B ≤ w.heap.size) (hF : ∀ k, F k → B ≤ k) : ∀ k, G k → B ≤ k := fun k hk => by
  rcases h.ft k hk with h | h
  · exact hF k h
  · omega
theorem Gr.cell {F G : Nat → Prop} {w w' : World} (h : Gr F w G w') {b i : Nat} {v : Value} (hc : w.cell? ⟨b, i, none⟩ = some v) (hn : ¬ F b) : w'.cell? ⟨b, i, none⟩ = some v :=
  (World.cell?_of_block (a := ⟨b, i, none⟩) (h.block b (World.block_lt_of_cell? w _ hc) hn)).trans hc

section
variable {w : World} {Ft : Nat → Prop} {d m : Nat} {gs : List UInt8 → Option Nat} {rv : List UInt8 → Value} {D : DataW Unit} {M : DiskM}
def adrOf (o : Option Nat) : Option Addr := o.map fun g => ⟨g, 0, none⟩
abbrev ptrOf (o : Option Nat) : Value := .pointer (adrOf o)
theorem DiskAt.look (h : DiskAt w Ft d m gs rv D M) (s : ByteArray) (hs : s.size ≤ maxLen) : (Instr.lookup 45 (.map (some m)) (.string s) false).run Tryz.prog w = .ok (ptrOf (gs s.data.toList)) w := by
  obtain ⟨v, ps, hrun, hv⟩ := h.map.lookup fkeyed Tryz.underlying45 (zeroPFile w) fileR_nil (fkey s hs)
  rw [h.at'] at hv
  rw [hrun]
  congr 1
  rcases fileR_inv hv with ⟨rfl, hz⟩ | ⟨g, rfl, hz⟩
  · cases hg : gs s.data.toList with
    | none => rfl
    | some g => rw [hg] at hz; simp at hz
  · cases hg : gs s.data.toList with
    | none => rw [hg] at hz; simp at hz
    | some g' =>
      rw [hg] at hz
      simp at hz
      obtain rfl : g' = g := by omega
      rfl
end
end Go.Proofs.YtflkaladkbkbgaaGreat

/- What keeps a call on a disk from being looked at; a new disk; the power. -/
namespace Go.Proofs.YtflkaladkbkbgaaGreat
set_option linter.unusedVariables false
set_option linter.unusedSimpArgs false
open Go.RowKit Go.Maps
set_option maxRecDepth 100000

theorem badNm_size (s : ByteArray) : badNm s.data.toList = (decide (s.size < 1) || decide (24 < s.size)) := rfl
theorem ret_boolF {a b : Bool} (h : a = b) : Ending.returned (.bool a) = .returned (.bool b) := by rw [h]
set_option maxHeartbeats 1000000 in
theorem mayName_any (s : ByteArray) (w : World) (hs : s.size ≤ 140737488351232) : Calls Tryz.prog 30 #[.string s] w fun e w' => e = .returned (.bool (!badNm s.data.toList)) ∧ w' = w := by
  have HS := Lib.hid hs
  have HB := Lib.hid (badNm_size s)
  obtain ⟨n, hn⟩ : ∃ n, n = s.size := ⟨_, rfl⟩
  by_cases h1 : 1 ≤ n
  · by_cases h2 : n ≤ 24
    · have d1 : decide ((1 : Int) ≤ (s.size : Int)) = true := decide_eq_true (by omega)
      have d2 : decide ((s.size : Int) ≤ 24) = true := decide_eq_true (by omega)
      have hr : (!badNm s.data.toList) = true := by rw [HB.out, decide_eq_false (show ¬ s.size < 1 by omega), decide_eq_false (show ¬ 24 < s.size by omega)]; rfl
      have HR := Lib.hid hr
      clear hr hn
      go_enter Tryz.func30, Tryz.ntmps30
      go_wp2_with fail
      go_ret
      exact ⟨by rw [HR.out]; rfl, rfl⟩
    · have d1 : decide ((1 : Int) ≤ (s.size : Int)) = true := decide_eq_true (by omega)
      have d2 : decide ((s.size : Int) ≤ 24) = false := decide_eq_false (by omega)
      have hr : (!badNm s.data.toList) = false := by rw [HB.out, decide_eq_false (show ¬ s.size < 1 by omega), decide_eq_true (show 24 < s.size by omega)]; rfl
      have HR := Lib.hid hr
      clear hr hn
      go_enter Tryz.func30, Tryz.ntmps30
      go_wp2_with fail
      go_ret
      exact ⟨by rw [HR.out]; rfl, rfl⟩
  · have d1 : decide ((1 : Int) ≤ (s.size : Int)) = false := decide_eq_false (by omega)
    have hr : (!badNm s.data.toList) = false := by rw [HB.out, decide_eq_true (show s.size < 1 by omega)]; rfl
    have HR := Lib.hid hr
    clear hr hn
    go_enter Tryz.func30, Tryz.ntmps30
    go_wp2_with fail
    go_ret
    exact ⟨by rw [HR.out]; rfl, rfl⟩
theorem refusal1_any (s : ByteArray) (w : World) (hs : s.size ≤ 140737488351232) : Calls Tryz.prog 42 #[.string s] w fun e w' => e = .returned (.bool (badNm s.data.toList)) ∧ w' = w := by
  go_enter Tryz.func42, Tryz.ntmps42
  go_wp2_with fail
  refine (mayName_any s _ hs).mono ?_
  rintro e u ⟨rfl, rfl⟩
  cases hb : badNm s.data.toList <;> (go_wp2_with fail; go_ret; exact ⟨by rw [hb]; rfl, rfl⟩)
def FBadAt (ns : List ByteArray) (w : World) (e : Ending) (w' : World) : Prop := ∃ i : Int, e = .returned (.int .i64 i) ∧ decide (0 ≤ i) = ns.any (fun s => badNm s.data.toList) ∧ w' = w
theorem any_upto {ns : List ByteArray} (h : ∀ j (h : j < ns.length), badNm ns[j].data.toList = false) : (ns.any fun s => badNm s.data.toList) = false := by
  rw [List.any_eq_false]
  intro x hx
  obtain ⟨j, hj, rfl⟩ := List.mem_iff_getElem.1 hx
  rw [h j hj]; simp
theorem any_at {ns : List ByteArray} {j : Nat} (hj : j < ns.length) (h : badNm ns[j].data.toList = true) : (ns.any fun s => badNm s.data.toList) = true := List.any_eq_true.2 ⟨ns[j], List.getElem_mem hj, h⟩
set_option maxHeartbeats 1000000 in
theorem indexFF_any (A : Option Addr) (c : Nat) (ns : List ByteArray) (w : World) (S : Nat → Prop) (h : StrsAt w S A ns) (hn : ns.length ≤ 140737488351232) : Calls Tryz.prog 67 #[.slice A ns.length c, .func (.func 42) #[] #[]] w (FBadAt ns w) := by
  have HS := Lib.hid h
  have HN := Lib.hid hn
  clear h
  go_enter Tryz.func67, Tryz.ntmps67
  go_wp2_with fail
  go_loopw [8] (fun i wr => ∃ k : Nat, i = .int .i64 k ∧ k ≤ ns.length ∧ wr = w ∧ Hid (∀ j (h : j < ns.length), j < k → badNm ns[j].data.toList = false)) (fun i _ => ns.length - (intOf i).toNat)
  case atStart => exact ⟨0, rfl, by omega, rfl, fun j _ h => absurd h (by omega)⟩
  case round =>
    obtain ⟨k, rfl, hk, rfl, HJ⟩ := hrel
    by_cases hlt : k < ns.length
    · obtain ⟨p, o, rfl, -, hc⟩ := HS.out (by omega)
      have hck := (hc k hlt).1
      have Hz := Lib.hid (hc k hlt).2
      clear hc
      go_wp2_with fail
      refine (refusal1_any _ _ (by have := Hz.out; omega)).mono ?_
      rintro e u ⟨rfl, rfl⟩
      cases hb : badNm ns[k].data.toList
      · have Hb := Lib.hid hb
        go_wp2_with fail
        go_roundw
        case rel => exact ⟨k + 1, by go_num, by omega, trivial, fun j h hjk => by
          by_cases e : j = k
          · subst e; exact Hb.out
          · exact HJ.out j h (by omega)⟩
        case measure => simp [intOf]; omega
      · go_wp2_with fail
        go_ret
        exact ⟨k, rfl, by rw [any_at hlt hb]; simp, rfl⟩
    · go_wp2_with fail
      go_ret
      exact ⟨-1, rfl, by rw [any_upto fun j h => HJ.out j h (by omega)]; rfl, rfl⟩
set_option maxHeartbeats 1000000 in
theorem contFF_any (A : Option Addr) (c : Nat) (ns : List ByteArray) (w : World) (S : Nat → Prop) (h : StrsAt w S A ns) (hn : ns.length ≤ 140737488351232) : Calls Tryz.prog 41 #[.slice A ns.length c, .func (.func 42) #[] #[]] w fun e w' => e = .returned (.bool (ns.any fun s => badNm s.data.toList)) ∧ w' = w := by
  go_enter Tryz.func41, Tryz.ntmps41
  go_wp2_with fail
  refine (indexFF_any A c ns _ S h hn).mono ?_
  rintro e u ⟨i, rfl, hi, rfl⟩
  have HI := Lib.hid hi
  clear hi
  go_wp2_with fail
  go_ret
  exact ⟨ret_boolF HI.out, rfl⟩

theorem map_ne_nil (m : Nat) (w : World) : (binOp .neq 45 (.map (some m)) (.map none)).run Tryz.prog w = .ok (.bool true) w := by kernel_rfl
section
variable {w : World} {Ft : Nat → Prop} {d m : Nat} {gs : List UInt8 → Option Nat} {rv : List UInt8 → Value} {D : DataW Unit} {M : DiskM}
theorem DiskAt.c0 (h : DiskAt w Ft d m gs rv D M) : w.cell? ⟨d, 0, none⟩ = some (.map (some m)) := by simp [World.cell?, h.disk]
theorem DiskAt.c1 (h : DiskAt w Ft d m gs rv D M) : w.cell? ⟨d, 1, none⟩ = some (.int .i64 M.left) := by simp [World.cell?, h.disk]
theorem DiskAt.c2 (h : DiskAt w Ft d m gs rv D M) : w.cell? ⟨d, 2, none⟩ = some (.int .i64 M.torn) := by simp [World.cell?, h.disk]
theorem DiskAt.c3 (h : DiskAt w Ft d m gs rv D M) : w.cell? ⟨d, 3, none⟩ = some (.bool M.gone) := by simp [World.cell?, h.disk]
theorem DiskAt.uf (h : DiskAt w Ft d m gs rv D M) (i : Nat) : w.frozen? ⟨d, i, none⟩ = false := Go.Joins.unfrozen_of_block h.disk i
set_option maxHeartbeats 1000000 in
theorem made_any (h : DiskAt w Ft d m gs rv D M) : Calls Tryz.prog 29 #[.pointer (some ⟨d, 0, none⟩)] w fun e w' => e = .returned (.bool true) ∧ w' = w := by
  have h0 := h.c0
  have he := map_ne_nil m w
  clear h
  go_enter Tryz.func29, Tryz.ntmps29
  go_wp2_with fail
  go_ret
  exact ⟨rfl, rfl⟩
theorem made_nil (w : World) : Calls Tryz.prog 29 #[.pointer none] w fun e w' => e = .returned (.bool false) ∧ w' = w := by
  go_enter Tryz.func29, Tryz.ntmps29
  go_wp2_with fail
  go_ret
  exact ⟨rfl, rfl⟩
/-- What keeps a call with these names from being looked at. -/
def refM (M : DiskM) (ns : List ByteArray) : Int := if M.gone then 90 else if ns.any (fun s => badNm s.data.toList) then 1 else 0
set_option maxHeartbeats 1000000 in
theorem refusal_any (h : DiskAt w Ft d m gs rv D M) (A : Option Addr) (c : Nat) (ns : List ByteArray) (S : Nat → Prop) (hs : StrsAt w S A ns) (hn : ns.length ≤ 140737488351232) :
    Calls Tryz.prog 24 #[.pointer (some ⟨d, 0, none⟩), .slice A ns.length c] w fun e w' => e = .returned (.int .i64 (refM M ns)) ∧ w' = w := by
  have h3 := h.c3
  have HM := Lib.hid (made_any h)
  have HC := Lib.hid (contFF_any A c ns w S hs hn)
  obtain ⟨r, hr⟩ : ∃ r, r = refM M ns := ⟨_, rfl⟩
  have HR := Lib.hid hr
  rw [← hr]
  clear h hs hr
  go_enter Tryz.func24, Tryz.ntmps24
  go_wp2_with fail
  refine HM.out.mono ?_
  rintro e u ⟨rfl, rfl⟩
  cases hg : M.gone
  · rw [hg] at h3
    go_wp2_with fail
    refine HC.out.mono ?_
    rintro e u ⟨rfl, rfl⟩
    cases hb : ns.any fun s => badNm s.data.toList
    · go_wp2_with fail
      go_ret
      exact ⟨by rw [HR.out]; unfold refM; rw [hg, hb]; rfl, rfl⟩
    · go_wp2_with fail
      go_ret
      exact ⟨by rw [HR.out]; unfold refM; rw [hg, hb]; rfl, rfl⟩
  · rw [hg] at h3
    go_wp2_with fail
    go_ret
    exact ⟨by rw [HR.out]; unfold refM; rw [hg]; rfl, rfl⟩
set_option maxHeartbeats 1000000 in
theorem refusal_nil (w : World) (v : Value) : Calls Tryz.prog 24 #[.pointer none, v] w fun e w' => e = .returned (.int .i64 6) ∧ w' = w := by
  go_enter Tryz.func24, Tryz.ntmps24
  go_wp2_with fail
  refine (made_nil _).mono ?_
  rintro e u ⟨rfl, rfl⟩
  go_wp2_with fail
  go_ret
  exact ⟨rfl, rfl⟩
end
end Go.Proofs.YtflkaladkbkbgaaGreat
