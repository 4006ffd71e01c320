/- The document's Apply, of a list that may be, to a document that may be. -/
import Derived.Test.YtnamdlljdgllmaaGreatKDmD
import Derived.Test.YtnamdlljdgllmaaGreatKTuA
import Derived.Test.YtnamdlljdgllmaaGreatKTuD
import Derived.Test.YtnamdlljdgllmaaGreatKTtE
namespace Go.Proofs.YtnamdlljdgllmaaGreat
open Lib (hid)
set_option linter.unusedVariables false
set_option linter.unusedSimpArgs false
open Go.RowKit
set_option maxRecDepth 100000
theorem rdrop_all : ∀ p : List ByteArray, p ≠ [] → RDropO p
  | [], h => absurd rfl h
  | s :: r, _ => rdrop_step s r (fun h => rdrop_all r h)
def RApplyR (S : Nat → Prop) (r : Int × VT) (w : World) (e : Ending) (w' : World) : Prop :=
  ∃ v', e = .returned (.tuple #[v', .bool (decide (r.1 = 0))]) ∧ LV w' (fun b => S b ∨ (w.heap.size ≤ b ∧ b < w'.heap.size)) r.2 v' ∧ Below w.heap.size w w'
structure DocAt (S : Nat → Prop) (w wr : World) (u : VT) (A : Option Addr) (c : Nat) (A' : Option Addr) (c' : Nat) : Prop where
  below : Below w.heap.size w wr
  zero : Box wr (w.heap.size + 1) (.int .i64 0) (.int .i64 0) (.string ⟨#[]⟩) (.slice none 0 0) (.slice none 0 0)
  box : Box wr w.heap.size (.int .i64 u.kind) (.int .i64 u.num) (.string u.text) (.slice A u.items.length c) (.slice A' u.names.length c')
  val : LV wr (fun b => S b ∨ (w.heap.size + 2 ≤ b ∧ b < wr.heap.size)) u (.agg #[.int .i64 u.kind, .int .i64 u.num, .string u.text, .slice A u.items.length c, .slice A' u.names.length c'])
theorem DocAt.drew {S : Nat → Prop} {w wr : World} {u : VT} {A : Option Addr} {c : Nat} {A' : Option Addr} {c' : Nat} (h : DocAt S w wr u A c A' c') : DocAt S w wr.drew u A c A' c' := ⟨h.below.drew, h.zero, h.box, (h.val.keep (w' := wr.drew) fun b _ => (show wr.drew.heap[b]? = wr.heap[b]? from rfl)).imp fun b hb => hb⟩
theorem DocAt.call {S : Nat → Prop} {w wr w' : World} {u : VT} {A : Option Addr} {c : Nat} {A' : Option Addr} {c' : Nat} (hS : ∀ b, S b → b < w.heap.size) (h : DocAt S w wr u A c A' c') (hb : Below wr.heap.size wr w') : DocAt S w w' u A c A' c' :=
  ⟨toStart h.below hb, h.zero.call hb, h.box.call hb, (h.val.keep fun b hb' => hb.block b (hb'.elim (fun e => Nat.lt_of_lt_of_le (hS b e) h.below.size) fun e => e.2)).imp fun b hb' => hb'.imp id fun e => ⟨e.1, Nat.lt_of_lt_of_le e.2 hb.size⟩⟩
theorem DocAt.next {S : Nat → Prop} {w wr : World} {u y : VT} {A : Option Addr} {c : Nat} {A' : Option Addr} {c' : Nat} {B : Option Addr} {d : Nat} {B' : Option Addr} {d' : Nat} (hS : ∀ b, S b → b < w.heap.size) (h : DocAt S w wr u A c A' c') (hv : LV wr (fun b => S b ∨ (w.heap.size + 2 ≤ b ∧ b < wr.heap.size)) y (.agg #[.int .i64 y.kind, .int .i64 y.num, .string y.text, .slice B y.items.length d, .slice B' y.names.length d'])) :
    DocAt S w (five wr w.heap.size 0 (.int .i64 y.kind) (.int .i64 y.num) (.string y.text) (.slice B y.items.length d) (.slice B' y.names.length d')) y B d B' d' := by
  have hr5 := five_rest wr w.heap.size 0 (.int .i64 y.kind) (.int .i64 y.num) (.string y.text) (.slice B y.items.length d) (.slice B' y.names.length d')
  have hk := five_other wr w.heap.size 0 (.int .i64 y.kind) (.int .i64 y.num) (.string y.text) (.slice B y.items.length d) (.slice B' y.names.length d')
  have hz := five_size wr w.heap.size 0 (.int .i64 y.kind) (.int .i64 y.num) (.string y.text) (.slice B y.items.length d) (.slice B' y.names.length d')
  refine ⟨⟨hr5.1.trans h.below.os, hr5.2.1.trans h.below.tape, hr5.2.2.trans h.below.output, by rw [hz]; exact h.below.size, fun b hb => (hk b (by omega)).trans (h.below.block b hb)⟩, (hk _ (by omega)).trans h.zero, five_box h.box, (hv.keep fun b hb => hk b (hb.elim (fun e => by have := hS b e; omega) fun e => by have := e.1; omega)).imp fun b hb => hb.imp id fun e => ⟨e.1, by rw [hz]; exact e.2⟩⟩
theorem DocAt.end {S : Nat → Prop} {w wr : World} {u : VT} {A : Option Addr} {c : Nat} {A' : Option Addr} {c' : Nat} {r : Int × VT} (hS : ∀ b, S b → b < w.heap.size) (h : DocAt S w wr u A c A' c') (hr : r = (0, u)) :
    RApplyR S r w (.returned (.tuple #[.agg #[.int .i64 u.kind, .int .i64 u.num, .string u.text, .slice A u.items.length c, .slice A' u.names.length c'], .bool true])) (five wr (w.heap.size + 1) 0 (.int .i64 u.kind) (.int .i64 u.num) (.string u.text) (.slice A u.items.length c) (.slice A' u.names.length c')) := by
  have hr5 := five_rest wr (w.heap.size + 1) 0 (.int .i64 u.kind) (.int .i64 u.num) (.string u.text) (.slice A u.items.length c) (.slice A' u.names.length c')
  have hk := five_other wr (w.heap.size + 1) 0 (.int .i64 u.kind) (.int .i64 u.num) (.string u.text) (.slice A u.items.length c) (.slice A' u.names.length c')
  have hz := five_size wr (w.heap.size + 1) 0 (.int .i64 u.kind) (.int .i64 u.num) (.string u.text) (.slice A u.items.length c) (.slice A' u.names.length c')
  subst hr
  exact ⟨_, by simp, (h.val.keep fun b hb => hk b (hb.elim (fun e => by have := hS b e; omega) fun e => by have := e.1; omega)).imp fun b hb => hb.imp id fun e => ⟨by have := e.1; omega, by rw [hz]; exact e.2⟩,
    ⟨hr5.1.trans h.below.os, hr5.2.1.trans h.below.tape, hr5.2.2.trans h.below.output, by rw [hz]; exact h.below.size, fun b hb => (hk b (by omega)).trans (h.below.block b hb)⟩⟩
theorem rzero_end {S : Nat → Prop} {w wr : World} {r : Int × VT} (hb : Below w.heap.size w wr) (h0 : r.1 ≠ 0) (hr : r.2 = nilT) : RApplyR S r w (.returned (.tuple #[.agg #[.int .i64 0, .int .i64 0, .string ⟨#[]⟩, .slice none 0 0, .slice none 0 0], .bool false])) (five wr (w.heap.size + 1) 0 (.int .i64 0) (.int .i64 0) (.string ⟨#[]⟩) (.slice none 0 0) (.slice none 0 0)) := by
  obtain ⟨x, u⟩ := r
  simp only at hr h0
  subst hr
  have hr5 := five_rest wr (w.heap.size + 1) 0 (.int .i64 0) (.int .i64 0) (.string ⟨#[]⟩) (.slice none 0 0) (.slice none 0 0)
  have hk := five_other wr (w.heap.size + 1) 0 (.int .i64 0) (.int .i64 0) (.string ⟨#[]⟩) (.slice none 0 0) (.slice none 0 0)
  have hz := five_size wr (w.heap.size + 1) 0 (.int .i64 0) (.int .i64 0) (.string ⟨#[]⟩) (.slice none 0 0) (.slice none 0 0)
  exact ⟨_, by simp [h0], leaf_lv _ _ _ _ _ (by unfold Rng; omega) (by unfold Rng; omega) (by decide), ⟨hr5.1.trans hb.os, hr5.2.1.trans hb.tape, hr5.2.2.trans hb.output, by rw [hz]; exact hb.size, fun b hb' => (hk b (by omega)).trans (hb.block b hb')⟩⟩
set_option maxHeartbeats 32000000 in
theorem r6apply_any (S : Nat → Prop) (t : VT) (v : Value) (A : Option Addr) (c : Nat) (l : List DelT) (w : World) (K D : Nat) (hS : ∀ b, S b → b < w.heap.size) (h : LV w S t v) (hd : DocK K D t) (hK : K ≤ 9000)
    (hl : DelsL w S A l) (hcap : CapsD w A l) (h64 : l.length ≤ 64) (hmay : ∀ d ∈ l, mayD d = true) (hz : SmallZD l) (hlx : LensD K l) :
    Calls Tryz.prog 26 #[v, .slice A l.length c] w (RApplyR S (doL l t) w) := by
  obtain ⟨A0, c0, A0', c0', rfl, -, -, -, v1, hb0⟩ := one_var hS h
  have hz1 : (w.alloc (.cells #[.int .i64 t.kind, .int .i64 t.num, .string t.text, .slice A0 t.items.length c0, .slice A0' t.names.length c0'] 29)).heap.size = w.heap.size + 1 := by simp
  have hz2 : ((w.alloc (.cells #[.int .i64 t.kind, .int .i64 t.num, .string t.text, .slice A0 t.items.length c0, .slice A0' t.names.length c0'] 29)).alloc (.cells #[.int .i64 0, .int .i64 0, .string ⟨#[]⟩, .slice none 0 0, .slice none 0 0] 29)).heap.size = w.heap.size + 2 := by simp
  have hB : Below w.heap.size w ((w.alloc (.cells #[.int .i64 t.kind, .int .i64 t.num, .string t.text, .slice A0 t.items.length c0, .slice A0' t.names.length c0'] 29)).alloc (.cells #[.int .i64 0, .int .i64 0, .string ⟨#[]⟩, .slice none 0 0, .slice none 0 0] 29)) := hb0.alloc (by omega) _
  have hX := v1.x.alloc (.cells #[.int .i64 0, .int .i64 0, .string ⟨#[]⟩, .slice none 0 0, .slice none 0 0] 29)
  have hR : Box ((w.alloc (.cells #[.int .i64 t.kind, .int .i64 t.num, .string t.text, .slice A0 t.items.length c0, .slice A0' t.names.length c0'] 29)).alloc (.cells #[.int .i64 0, .int .i64 0, .string ⟨#[]⟩, .slice none 0 0, .slice none 0 0] 29)) (w.heap.size + 1) (.int .i64 0) (.int .i64 0) (.string ⟨#[]⟩) (.slice none 0 0) (.slice none 0 0) := by
    have h := Box.new (w := w.alloc (.cells #[.int .i64 t.kind, .int .i64 t.num, .string t.text, .slice A0 t.items.length c0, .slice A0' t.names.length c0'] 29)) (.int .i64 0) (.int .i64 0) (.string ⟨#[]⟩) (.slice none 0 0) (.slice none 0 0)
    rw [hz1] at h
    exact h
  obtain ⟨W, hW⟩ : ∃ W, W = (w.alloc (.cells #[.int .i64 t.kind, .int .i64 t.num, .string t.text, .slice A0 t.items.length c0, .slice A0' t.names.length c0'] 29)).alloc (.cells #[.int .i64 0, .int .i64 0, .string ⟨#[]⟩, .slice none 0 0, .slice none 0 0] 29) := ⟨_, rfl⟩
  rw [← hW] at hB hX hR hz2
  have hm0 : DocAt S w W t A0 c0 A0' c0' := ⟨hB, hR, hX, (h.keep fun b hb => hB.block b (hS b hb)).imp fun b hb => .inl hb⟩
  have HL := hid hl
  have HCP := hid hcap
  have HS := hid hS
  have HSQ := hid (And.intro hmay (And.intro hz hlx))
  obtain ⟨res, hres⟩ : ∃ r, r = doL l t := ⟨_, rfl⟩
  have HAL := hid hres
  rw [← hres]
  have h0 : Hid (∃ (u : VT) (A : Option Addr) (c : Nat) (A' : Option Addr) (c' : Nat), DocAt S w W u A c A' c' ∧ doL (l.take 0) t = (0, u) ∧ DocK (K + 0) (D + 16 * 0) u) := hid ⟨t, A0, c0, A0', c0', hm0, by simp [doL], by simpa using hd⟩
  clear h hl hcap hS hmay hz hlx hd v1 hb0 hz1 hz2 hB hX hR hm0 hres
  go_enter Tryz.func26, Tryz.ntmps26
  go_wp2_with fail
  rw [← hW]
  clear hW
  go_loopw [6] (fun i wr => ∃ k : Nat, i = .int .i64 k ∧ k ≤ l.length ∧ Hid (∃ (u : VT) (A : Option Addr) (c : Nat) (A' : Option Addr) (c' : Nat), DocAt S w wr u A c A' c' ∧ doL (l.take k) t = (0, u) ∧ DocK (K + k) (D + 16 * k) u)) (fun i _ => l.length - (intOf i).toNat)
  case atStart => exact ⟨0, rfl, by omega, h0⟩
  case round =>
    obtain ⟨k, rfl, hk, HH⟩ := hrel
    obtain ⟨u, A6, c6, A6', c6', hm, hdo, hdk⟩ := HH.out
    clear HH h0
    by_cases hlt : k < l.length
    · have d1 : decide ((k : Int) < (l.length : Int)) = true := decide_eq_true (by omega)
      obtain ⟨p, off, PA, pc, VA, vc, VA', vc', rfl, hpS, ho, x0, x1, x2, x3, x4, x5, x6, x7⟩ := HL.out.cells k hlt
      have h63 := HCP.out k hlt p off rfl PA _ pc x1
      have hp := hm.below.block p (HS.out p hpS)
      have hplt : p < w.heap.size := HS.out p hpS
      have hwz := hm.below.size
      have z0 := (World.cell?_of_block (a := ⟨p, off + k * 8, none⟩) hp).trans x0
      have hmd := HSQ.out.1 _ (List.getElem_mem hlt)
      have hzk := HSQ.out.2.1 _ (List.getElem_mem hlt)
      have hkind := mayD_kind hmd
      have HNX := hid (doD_step hmd hzk (lens_mono (K := K) (K' := K + k) (by omega) _ (HSQ.out.2.2 _ (List.getElem_mem hlt))) hdk)
      have HDO := hid hdo
      have HDK := hid hdk
      have HM := hid hm
      obtain ⟨wd, hwd⟩ : ∃ W, W = wr.drew := ⟨_, rfl⟩
      have hmdr : DocAt S w wd u A6 c6 A6' c6' := by rw [hwd]; exact hm.drew
      have hbw : ∀ b : Nat, wd.heap[b]? = wr.heap[b]? := fun b => by rw [hwd]; rfl
      have hpd : wd.heap[p]? = w.heap[p]? := (hbw p).trans hp
      have kq : ∀ (q : LaterR (Keep2 (w.heap.size + 1) (w.heap.size + 1)) wd) (b o : Nat), b ≤ w.heap.size → q.u.cell? ⟨b, o, none⟩ = wd.cell? ⟨b, o, none⟩ := fun q b o hq => World.cell?_of_block (a := ⟨b, o, none⟩) (q.h.2 b (by have := hmdr.below.size; have := hmdr.zero.lt; omega) (by omega) (by omega))
      have y0 := fun q : LaterR (Keep2 (w.heap.size + 1) (w.heap.size + 1)) wd => (kq q w.heap.size 0 (by omega)).trans hmdr.box.c0
      have y1 := fun q : LaterR (Keep2 (w.heap.size + 1) (w.heap.size + 1)) wd => (kq q w.heap.size 1 (by omega)).trans hmdr.box.c1
      have y2 := fun q : LaterR (Keep2 (w.heap.size + 1) (w.heap.size + 1)) wd => (kq q w.heap.size 2 (by omega)).trans hmdr.box.c2
      have y3 := fun q : LaterR (Keep2 (w.heap.size + 1) (w.heap.size + 1)) wd => (kq q w.heap.size 3 (by omega)).trans hmdr.box.c3
      have y4 := fun q : LaterR (Keep2 (w.heap.size + 1) (w.heap.size + 1)) wd => (kq q w.heap.size 4 (by omega)).trans hmdr.box.c4
      have m0 := fun q : LaterR (Keep2 (w.heap.size + 1) (w.heap.size + 1)) wd => (kq q p (off + k * 8) (by omega)).trans ((World.cell?_of_block (a := ⟨p, off + k * 8, none⟩) hpd).trans x0)
      have m1 := fun q : LaterR (Keep2 (w.heap.size + 1) (w.heap.size + 1)) wd => (kq q p (off + k * 8 + 1) (by omega)).trans ((World.cell?_of_block (a := ⟨p, off + k * 8 + 1, none⟩) hpd).trans x1)
      have m2 := fun q : LaterR (Keep2 (w.heap.size + 1) (w.heap.size + 1)) wd => (kq q p (off + k * 8 + 2) (by omega)).trans ((World.cell?_of_block (a := ⟨p, off + k * 8 + 2, none⟩) hpd).trans x2)
      have m3 := fun q : LaterR (Keep2 (w.heap.size + 1) (w.heap.size + 1)) wd => (kq q p (off + k * 8 + 3) (by omega)).trans ((World.cell?_of_block (a := ⟨p, off + k * 8 + 3, none⟩) hpd).trans x3)
      have m4 := fun q : LaterR (Keep2 (w.heap.size + 1) (w.heap.size + 1)) wd => (kq q p (off + k * 8 + 4) (by omega)).trans ((World.cell?_of_block (a := ⟨p, off + k * 8 + 4, none⟩) hpd).trans x4)
      have m5 := fun q : LaterR (Keep2 (w.heap.size + 1) (w.heap.size + 1)) wd => (kq q p (off + k * 8 + 5) (by omega)).trans ((World.cell?_of_block (a := ⟨p, off + k * 8 + 5, none⟩) hpd).trans x5)
      have m6 := fun q : LaterR (Keep2 (w.heap.size + 1) (w.heap.size + 1)) wd => (kq q p (off + k * 8 + 6) (by omega)).trans ((World.cell?_of_block (a := ⟨p, off + k * 8 + 6, none⟩) hpd).trans x6)
      have m7 := fun q : LaterR (Keep2 (w.heap.size + 1) (w.heap.size + 1)) wd => (kq q p (off + k * 8 + 7) (by omega)).trans ((World.cell?_of_block (a := ⟨p, off + k * 8 + 7, none⟩) hpd).trans x7)
      have HMD := hid hmdr
      have hlv := ho.keep (w' := wd) fun b hb => (hbw b).trans (hm.below.block b (HS.out b hb))
      obtain ⟨PA1, pc1, VA1, vc1, VA2, vc2, he, hx, hps, hpc, hpn, hrk, hrn, hpl⟩ := hlv
      simp only [Array.mk.injEq, List.cons.injEq, Value.slice.injEq, true_and, and_true] at he
      obtain ⟨⟨rfl, rfl⟩, ⟨rfl, rfl⟩, ⟨rfl, rfl⟩⟩ := he
      have hSd : ∀ b, (S b ∨ (w.heap.size + 2 ≤ b ∧ b < wd.heap.size)) → b < wd.heap.size := fun b hb => hb.elim (fun e => Nat.lt_of_lt_of_le (HS.out b e) hmdr.below.size) fun e => e.2
      have hmu : mayT u = true := (docB_iff.1 hdk.doc).1
      have hsu : smallT u := lens_mono (by omega) _ hdk.lens
      have hpl8 : l[k].path.length ≤ 140737488351232 := by have := mayP_len (mayD_path hmd); omega
      have HSET := hid (fun (W : World) (hW : Below wd.heap.size wd W) => rset_any l[k].path (fun b => S b ∨ (w.heap.size + 2 ≤ b ∧ b < wd.heap.size)) u l[k].val _ _ PA pc W (fun b hb => Nat.lt_of_lt_of_le (hSd b hb) hW.size) (hmdr.val.keep (w' := W) fun b hb => hW.block b (hSd b hb)) ((hx.keep (w' := W) fun b hb => hW.block b (hSd b (.inl hb))).imp fun b hb => .inl hb) hmu hsu ((hps.keep (w' := W) fun b hb => hW.block b (hSd b (.inl hb))).imp fun b hb => .inl hb) hpc h63 hpl8)
      have HDRP := hid (rdrop_all l[k].path (fun e => by have := mayD_path hmd; rw [e] at this; exact absurd this (by decide)) (fun b => S b ∨ (w.heap.size + 2 ≤ b ∧ b < wd.heap.size)) u _ PA pc wd hSd hmdr.val hmu hsu (hps.imp fun b hb => .inl hb) hpc h63 hpl8)
      have HCUT := hid (fun (n : Nat) (hn : n ≤ 9223372036854775807) => rcut_any n hn (fun b => S b ∨ (w.heap.size + 2 ≤ b ∧ b < wd.heap.size)) u _ PA pc l[k].path wd hSd hmdr.val hmu hsu (hps.imp fun b hb => .inl hb) hpc h63 hpl8)
      have HSDX := hid hSd
      have HMU := hid (And.intro hmu (mayD_path hmd))
      clear x0 x1 x2 x3 x4 x5 x6 x7 hp ho hm hdo hdk hmdr hbw hpd kq hx hps hpc hpn hrk hrn hpl hSd hmu hsu hpl8 hmd hzk h63 hpS
      rcases hkind with hkk | hkk | ⟨hkk, hn0, hn9⟩
      · have hkx := hid hkk
        rw [hkk] at z0 m0
        clear HDRP HCUT hkk
        go_wp2_with fail
        refine wp_region_OT (Keep2 (w.heap.size + 1) (w.heap.size + 1)) (Keep2.refl _ _) (Keep2.trans _ _) [16, 17] (.pure [0, 1, 2, 3, 4, 5, 6, 7, 8, 9, 10] (.fork 11 (.free [12, 13, 14] (.step 15 (.tail [16, 17]))) 15 (.step 11 (.free [12, 13, 14] (.tail [16, 17]))))) (by kernel_rfl) (by kernel_rfl) (fun _ d _ _ _ h => by cases d <;> exact h) ?_
        rw [← hwd]
        clear hwd
        refine ot_pure ?_
        simp only [atR]
        show wpQuiet _ _ _ _ [_, _, _, _, _, _, _, _, _, _, _] _
        try simp only [acR, Act.put]
        repeat (go_big_quiet_step (fail))
        refine wpQuiet_nil ?_
        clear y0 y1 y2 y3 y4 m0 m1 m2 m3 m4 m5 m6 m7
        refine ot_fork rfl rfl (fun K hK => ?_) (fun K hK => ?_)
        · go_simp
          refine (HSET.out wd (Below.refl _ _)).mono ?_
          rintro e w2 ⟨v', rfl, hv, hb2⟩
          obtain ⟨A4, e4, A5, e5, rfl, -⟩ := hv.shape
          refine hK _ _ (.inr (Keep2.of hb2)) ?_
          clear hK K
          obtain ⟨Y, hY⟩ : ∃ Y, Y = (setO l[k].val u l[k].path).1 := ⟨_, rfl⟩
          rw [← hY] at hv ⊢
          have HYZ := hid hY
          clear hY
          refine ot_free ?_
          simp only [atR]
          show wpQuiet _ _ _ _ [_, _, _] _
          try simp only [acR, Act.put]
          repeat (go_big_quiet_step (fail))
          refine wpQuiet_nil ?_
          refine ot_step rfl (fun K hK => ?_)
          go_simp
          refine hK _ _ (.inr (Keep2.of (below_box _))) ?_
          clear hK K
          refine ot_last rfl (fun K hK => ?_)
          go_simp
          refine hK _ _ ?_
          clear hK K
          refine ot_last rfl (fun K hK => ?_)
          go_simp
          refine hK _ _ ?_
          clear hK K
          refine ot_end ?_
          have hbn := below_box (w := w2) (.cells #[.int .i64 Y.kind, .int .i64 Y.num, .string Y.text, .slice A4 Y.items.length e4, .slice A5 Y.names.length e5] 29)
          have hz2 := hb2.size
          have hzd := HMD.out.below.size
          have hzb : (w2.alloc (.cells #[.int .i64 Y.kind, .int .i64 Y.num, .string Y.text, .slice A4 Y.items.length e4, .slice A5 Y.names.length e5] 29)).heap.size = w2.heap.size + 1 := by simp
          have hm3 := (HMD.out.call HS.out hb2).call HS.out hbn
          have hvy : LV (w2.alloc (.cells #[.int .i64 Y.kind, .int .i64 Y.num, .string Y.text, .slice A4 Y.items.length e4, .slice A5 Y.names.length e5] 29)) (fun b => S b ∨ (w.heap.size + 2 ≤ b ∧ b < (w2.alloc (.cells #[.int .i64 Y.kind, .int .i64 Y.num, .string Y.text, .slice A4 Y.items.length e4, .slice A5 Y.names.length e5] 29)).heap.size)) Y (.agg #[.int .i64 Y.kind, .int .i64 Y.num, .string Y.text, .slice A4 Y.items.length e4, .slice A5 Y.names.length e5]) := (hv.keep fun b hb => hbn.block b (hb.elim (fun e => Nat.lt_of_lt_of_le (HSDX.out b e) hz2) fun e => e.2)).imp fun b hb => hb.elim (fun e => e.imp id fun e => ⟨e.1, by omega⟩) fun e => .inr ⟨by have := e.1; have := HMD.out.zero.lt; omega, by have := e.2; omega⟩
          have hby : Box (w2.alloc (.cells #[.int .i64 Y.kind, .int .i64 Y.num, .string Y.text, .slice A4 Y.items.length e4, .slice A5 Y.names.length e5] 29)) w2.heap.size (.int .i64 Y.kind) (.int .i64 Y.num) (.string Y.text) (.slice A4 Y.items.length e4) (.slice A5 Y.names.length e5) := Box.new _ _ _ _ _
          clear hv hb2 hbn hz2 hzd hzb
          have HVY := hid hvy
          have HMM := hid hm3
          have b0 := hby.c0
          have b1 := hby.c1
          have b2 := hby.c2
          have b3 := hby.c3
          have b4 := hby.c4
          clear hvy hm3 hby HSET HSDX HMD
          obtain ⟨ok, hok⟩ : ∃ b, b = (setO l[k].val u l[k].path).2 := ⟨_, rfl⟩
          rw [← hok]
          have HOK := hid hok
          clear hok
          have hsi := setO_is l[k].val l[k].path u HMU.out.1 (fun e => by have := HMU.out.2; rw [e] at this; exact absurd this (by decide))
          have HSI := hid hsi
          clear hsi
          cases ok with
          | false =>
            have HBAD : Hid (res.1 ≠ 0 ∧ res.2 = nilT) := hid (by
              rcases HNX.out with ⟨R, e, -, h1, -⟩ | ⟨e, -⟩
              · have h2 := (HSI.out.1 (h1 hkx.out).2)
                have h3 := HOK.out
                rw [h2] at h3
                cases h3
              · have h4 := doL_end hlt HDO.out (by rw [e]; decide)
                rw [HAL.out, h4, e]
                exact ⟨by decide, rfl⟩)
            have HEND := hid (rzero_end (S := S) HMM.out.below HBAD.out.1 HBAD.out.2)
            have HBOX := hid (five_box (c0 := .int .i64 0) (c1 := .int .i64 0) (c2 := .string ⟨#[]⟩) (c3 := .slice none 0 0) (c4 := .slice none 0 0) HMM.out.zero)
            have zf := fun i => HMM.out.zero.free i
            have o0 := HMM.out.zero.c0
            have o1 := HMM.out.zero.c1
            have o2 := HMM.out.zero.c2
            have o3 := HMM.out.zero.c3
            have o4 := HMM.out.zero.c4
            go_wp2_with fail
            refine bodyPost_ret (results_cell_two rfl _ _ (w.heap.size + 1) 29 _ (0, 0) rfl HBOX.out (by kernel_rfl)) rfl ?_
            exact HEND.out
          | true =>
            have HG1 : Hid (doD l[k] u = (0, Y) ∧ DocK (K + (k + 1)) (D + 16 * (k + 1)) Y) := hid (by
              rcases HNX.out with ⟨R, e, hR, h1, -⟩ | ⟨e, -, h1⟩
              · have h2 := (HSI.out.1 (h1 hkx.out).2)
                have h3 : Y = R := by rw [HYZ.out, h2, (h1 hkx.out).1]
                rw [e, h3]
                exact ⟨rfl, hR.mono (by omega) (by omega)⟩
              · have h3 := HSI.out.2 h1
                rw [← HOK.out] at h3
                cases h3)
            have zf := fun i => HMM.out.box.free i
            have o0 := HMM.out.box.c0
            have o1 := HMM.out.box.c1
            have o2 := HMM.out.box.c2
            have o3 := HMM.out.box.c3
            have o4 := HMM.out.box.c4
            have HNEW := hid (HMM.out.next HS.out HVY.out)
            go_wp2_with fail
            go_roundw
            case rel =>
              refine ⟨k + 1, by go_num, by omega, hid ⟨Y, A4, e4, A5, e5, HNEW.out, ?_, HG1.out.2⟩⟩
              have h1 := doL_next hlt HDO.out
              rw [HG1.out.1] at h1
              exact h1
            case measure => simp [intOf]; omega
        · go_simp
          have hbn := below_box (w := wd) (.cells #[.int .i64 0, .int .i64 0, .string ⟨#[]⟩, .slice none 0 0, .slice none 0 0] 29)
          refine hK _ _ (.inr (Keep2.of hbn)) ?_
          clear hK K
          refine ot_step rfl (fun K hK => ?_)
          go_simp
          refine (HSET.out _ hbn).mono ?_
          rintro e w2 ⟨v', rfl, hv, hb2⟩
          obtain ⟨A4, e4, A5, e5, rfl, -⟩ := hv.shape
          refine hK _ _ (.inr (Keep2.of hb2)) ?_
          clear hK K
          obtain ⟨Y, hY⟩ : ∃ Y, Y = (setO l[k].val u l[k].path).1 := ⟨_, rfl⟩
          rw [← hY] at hv ⊢
          have HYZ := hid hY
          clear hY
          refine ot_free ?_
          simp only [atR]
          show wpQuiet _ _ _ _ [_, _, _] _
          try simp only [acR, Act.put]
          repeat (go_big_quiet_step (fail))
          refine wpQuiet_nil ?_
          have hbx := Box.call (Box.new (w := wd) (.int .i64 0) (.int .i64 0) (.string ⟨#[]⟩) (.slice none 0 0) (.slice none 0 0)) hb2
          have hzb : (wd.alloc (.cells #[.int .i64 0, .int .i64 0, .string ⟨#[]⟩, .slice none 0 0, .slice none 0 0] 29)).heap.size = wd.heap.size + 1 := by simp
          have hz2 := hb2.size
          rw [hzb] at hz2
          have hzd := HMD.out.zero.lt
          have hm2 := (HMD.out.call HS.out hbn).call HS.out hb2
          have bf := fun i => hbx.free i
          have b0 := hbx.c0
          have b1 := hbx.c1
          have b2 := hbx.c2
          have b3 := hbx.c3
          have b4 := hbx.c4
          refine ot_last rfl (fun K hK => ?_)
          go_simp
          refine hK _ _ ?_
          clear hK K
          refine ot_last rfl (fun K hK => ?_)
          go_simp
          refine hK _ _ ?_
          clear hK K
          refine ot_end ?_
          clear bf b0 b1 b2 b3 b4
          have hr5 := five_rest w2 wd.heap.size 0 (.int .i64 Y.kind) (.int .i64 Y.num) (.string Y.text) (.slice A4 Y.items.length e4) (.slice A5 Y.names.length e5)
          have hk5 := five_other w2 wd.heap.size 0 (.int .i64 Y.kind) (.int .i64 Y.num) (.string Y.text) (.slice A4 Y.items.length e4) (.slice A5 Y.names.length e5)
          have hs5 := five_size w2 wd.heap.size 0 (.int .i64 Y.kind) (.int .i64 Y.num) (.string Y.text) (.slice A4 Y.items.length e4) (.slice A5 Y.names.length e5)
          have hby : Box (five w2 wd.heap.size 0 (.int .i64 Y.kind) (.int .i64 Y.num) (.string Y.text) (.slice A4 Y.items.length e4) (.slice A5 Y.names.length e5)) wd.heap.size (.int .i64 Y.kind) (.int .i64 Y.num) (.string Y.text) (.slice A4 Y.items.length e4) (.slice A5 Y.names.length e5) := five_box hbx
          have hm3 : DocAt S w (five w2 wd.heap.size 0 (.int .i64 Y.kind) (.int .i64 Y.num) (.string Y.text) (.slice A4 Y.items.length e4) (.slice A5 Y.names.length e5)) u A6 c6 A6' c6' := ⟨⟨hr5.1.trans hm2.below.os, hr5.2.1.trans hm2.below.tape, hr5.2.2.trans hm2.below.output, Nat.le_trans hm2.below.size (Nat.le_of_eq hs5.symm), fun b hb => (hk5 b (by omega)).trans (hm2.below.block b hb)⟩, (hk5 _ (by omega)).trans hm2.zero, (hk5 _ (by omega)).trans hm2.box, ((HMD.out.val.keep fun b hb => (hk5 b (by have := HSDX.out b hb; omega)).trans ((hb2.block b (by have := HSDX.out b hb; omega)).trans (hbn.block b (HSDX.out b hb)))).imp fun b hb => hb.imp id fun e => ⟨e.1, by rw [hs5]; have := e.2; omega⟩)⟩
          have hvy : LV (five w2 wd.heap.size 0 (.int .i64 Y.kind) (.int .i64 Y.num) (.string Y.text) (.slice A4 Y.items.length e4) (.slice A5 Y.names.length e5)) (fun b => S b ∨ (w.heap.size + 2 ≤ b ∧ b < (five w2 wd.heap.size 0 (.int .i64 Y.kind) (.int .i64 Y.num) (.string Y.text) (.slice A4 Y.items.length e4) (.slice A5 Y.names.length e5)).heap.size)) Y (.agg #[.int .i64 Y.kind, .int .i64 Y.num, .string Y.text, .slice A4 Y.items.length e4, .slice A5 Y.names.length e5]) := (hv.keep fun b hb => hk5 b (hb.elim (fun e => by have := HSDX.out b e; omega) fun e => by have := e.1; omega)).imp fun b hb => hb.elim (fun e => e.imp id fun e => ⟨e.1, by rw [hs5]; have := e.2; omega⟩) fun e => .inr ⟨by have := e.1; omega, by rw [hs5]; exact e.2⟩
          simp only [five] at hby hm3 hvy
          clear hv hb2 hbn hz2 hzd hzb hbx hm2 hr5 hk5 hs5
          have HVY := hid hvy
          have HMM := hid hm3
          have b0 := hby.c0
          have b1 := hby.c1
          have b2 := hby.c2
          have b3 := hby.c3
          have b4 := hby.c4
          clear hvy hm3 hby HSET HSDX HMD
          obtain ⟨ok, hok⟩ : ∃ b, b = (setO l[k].val u l[k].path).2 := ⟨_, rfl⟩
          rw [← hok]
          have HOK := hid hok
          clear hok
          have hsi := setO_is l[k].val l[k].path u HMU.out.1 (fun e => by have := HMU.out.2; rw [e] at this; exact absurd this (by decide))
          have HSI := hid hsi
          clear hsi
          cases ok with
          | false =>
            have HBAD : Hid (res.1 ≠ 0 ∧ res.2 = nilT) := hid (by
              rcases HNX.out with ⟨R, e, -, h1, -⟩ | ⟨e, -⟩
              · have h2 := (HSI.out.1 (h1 hkx.out).2)
                have h3 := HOK.out
                rw [h2] at h3
                cases h3
              · have h4 := doL_end hlt HDO.out (by rw [e]; decide)
                rw [HAL.out, h4, e]
                exact ⟨by decide, rfl⟩)
            have HEND := hid (rzero_end (S := S) HMM.out.below HBAD.out.1 HBAD.out.2)
            have HBOX := hid (five_box (c0 := .int .i64 0) (c1 := .int .i64 0) (c2 := .string ⟨#[]⟩) (c3 := .slice none 0 0) (c4 := .slice none 0 0) HMM.out.zero)
            have zf := fun i => HMM.out.zero.free i
            have o0 := HMM.out.zero.c0
            have o1 := HMM.out.zero.c1
            have o2 := HMM.out.zero.c2
            have o3 := HMM.out.zero.c3
            have o4 := HMM.out.zero.c4
            go_wp2_with fail
            refine bodyPost_ret (results_cell_two rfl _ _ (w.heap.size + 1) 29 _ (0, 0) rfl HBOX.out (by kernel_rfl)) rfl ?_
            exact HEND.out
          | true =>
            have HG1 : Hid (doD l[k] u = (0, Y) ∧ DocK (K + (k + 1)) (D + 16 * (k + 1)) Y) := hid (by
              rcases HNX.out with ⟨R, e, hR, h1, -⟩ | ⟨e, -, h1⟩
              · have h2 := (HSI.out.1 (h1 hkx.out).2)
                have h3 : Y = R := by rw [HYZ.out, h2, (h1 hkx.out).1]
                rw [e, h3]
                exact ⟨rfl, hR.mono (by omega) (by omega)⟩
              · have h3 := HSI.out.2 h1
                rw [← HOK.out] at h3
                cases h3)
            have zf := fun i => HMM.out.box.free i
            have o0 := HMM.out.box.c0
            have o1 := HMM.out.box.c1
            have o2 := HMM.out.box.c2
            have o3 := HMM.out.box.c3
            have o4 := HMM.out.box.c4
            have HNEW := hid (HMM.out.next HS.out HVY.out)
            go_wp2_with fail
            go_roundw
            case rel =>
              refine ⟨k + 1, by go_num, by omega, hid ⟨Y, A4, e4, A5, e5, HNEW.out, ?_, HG1.out.2⟩⟩
              have h1 := doL_next hlt HDO.out
              rw [HG1.out.1] at h1
              exact h1
            case measure => simp [intOf]; omega
      · have hkx := hid hkk
        rw [hkk] at z0 m0
        clear HSET HCUT hkk
        go_wp2_with fail
        refine wp_region_OT (Keep2 (w.heap.size + 1) (w.heap.size + 1)) (Keep2.refl _ _) (Keep2.trans _ _) [7] (.pure [0, 1, 2, 3, 4, 5] (.step 6 (.tail [7]))) (by kernel_rfl) (by kernel_rfl) (fun _ d _ _ _ h => by cases d <;> exact h) ?_
        rw [← hwd]
        clear hwd
        refine ot_pure ?_
        simp only [atR]
        show wpQuiet _ _ _ _ [_, _, _, _, _, _] _
        try simp only [acR, Act.put]
        repeat (go_big_quiet_step (fail))
        refine wpQuiet_nil ?_
        clear y0 y1 y2 y3 y4 m0 m1 m2 m3 m4 m5 m6 m7
        refine ot_step rfl (fun K hK => ?_)
        go_simp
        refine (HDRP.out).mono ?_
        rintro e w2 ⟨v', rfl, hv, hb2⟩
        obtain ⟨A4, e4, A5, e5, rfl, -⟩ := hv.shape
        refine hK _ _ (.inr (Keep2.of hb2)) ?_
        clear hK K
        obtain ⟨Y, hY⟩ : ∃ Y, Y = (goT dropFin u l[k].path).2 := ⟨_, rfl⟩
        rw [← hY] at hv ⊢
        have HYZ := hid hY
        clear hY
        have hz2 := hb2.size
        have hm3 := HMD.out.call HS.out hb2
        have hvy : LV w2 (fun b => S b ∨ (w.heap.size + 2 ≤ b ∧ b < w2.heap.size)) Y (.agg #[.int .i64 Y.kind, .int .i64 Y.num, .string Y.text, .slice A4 Y.items.length e4, .slice A5 Y.names.length e5]) := hv.imp fun b hb => hb.elim (fun e => e.imp id fun e => ⟨e.1, Nat.lt_of_lt_of_le e.2 hz2⟩) fun e => .inr ⟨by have := e.1; have := HMD.out.zero.lt; omega, e.2⟩
        have HNEW := hid (hm3.next HS.out hvy)
        have zf := fun i => hm3.box.free i
        have o0 := hm3.box.c0
        have o1 := hm3.box.c1
        have o2 := hm3.box.c2
        have o3 := hm3.box.c3
        have o4 := hm3.box.c4
        clear hv hb2 hz2 hvy hm3 HDRP HSDX HMD
        refine ot_last rfl (fun K hK => ?_)
        go_simp
        refine hK _ _ ?_
        clear hK K
        refine ot_end ?_
        have HG1 : Hid (doD l[k] u = (0, Y) ∧ DocK (K + (k + 1)) (D + 16 * (k + 1)) Y) := hid (by
          rcases HNX.out with ⟨R, e, hR, h1, h2, h3⟩ | ⟨e, h1, -⟩
          · have h4 : Y = R := by rw [HYZ.out, h2 hkx.out]
            rw [e, h4]
            exact ⟨rfl, hR.mono (by omega) (by omega)⟩
          · have := hkx.out
            omega)
        clear zf o0 o1 o2 o3 o4
        go_wp2_with fail
        go_roundw
        case rel =>
          refine ⟨k + 1, by go_num, by omega, hid ⟨Y, A4, e4, A5, e5, HNEW.out, ?_, HG1.out.2⟩⟩
          have h1 := doL_next hlt HDO.out
          rw [HG1.out.1] at h1
          exact h1
        case measure => simp [intOf]; omega
      · have hkx := hid hkk
        rw [hkk] at z0 m0
        clear HSET HDRP hkk
        obtain ⟨m, hm9⟩ : ∃ m : Nat, l[k].num = m := ⟨l[k].num.toNat, by omega⟩
        have HMN := hid hm9
        rw [hm9] at m7
        have hm999 : m ≤ 999 := by omega
        clear hm9 hn0 hn9
        go_wp2_with fail
        refine wp_region_OT (Keep2 (w.heap.size + 1) (w.heap.size + 1)) (Keep2.refl _ _) (Keep2.trans _ _) [12] (.pure [0, 1, 2, 3, 4, 5, 6, 7, 8, 9, 10] (.step 11 (.tail [12]))) (by kernel_rfl) (by kernel_rfl) (fun _ d _ _ _ h => by cases d <;> exact h) ?_
        rw [← hwd]
        clear hwd
        refine ot_pure ?_
        simp only [atR]
        show wpQuiet _ _ _ _ [_, _, _, _, _, _, _, _, _, _, _] _
        try simp only [acR, Act.put]
        repeat (go_big_quiet_step (fail))
        refine wpQuiet_nil ?_
        clear y0 y1 y2 y3 y4 m0 m1 m2 m3 m4 m5 m6 m7
        refine ot_step rfl (fun K hK => ?_)
        go_simp
        refine (HCUT.out m (by omega)).mono ?_
        rintro e w2 ⟨v', rfl, hv, hb2⟩
        obtain ⟨A4, e4, A5, e5, rfl, -⟩ := hv.shape
        refine hK _ _ (.inr (Keep2.of hb2)) ?_
        clear hK K
        obtain ⟨Y, hY⟩ : ∃ Y, Y = cutO m u l[k].path := ⟨_, rfl⟩
        rw [← hY] at hv ⊢
        have HYZ := hid hY
        clear hY
        have hz2 := hb2.size
        have hm3 := HMD.out.call HS.out hb2
        have hvy : LV w2 (fun b => S b ∨ (w.heap.size + 2 ≤ b ∧ b < w2.heap.size)) Y (.agg #[.int .i64 Y.kind, .int .i64 Y.num, .string Y.text, .slice A4 Y.items.length e4, .slice A5 Y.names.length e5]) := hv.imp fun b hb => hb.elim (fun e => e.imp id fun e => ⟨e.1, Nat.lt_of_lt_of_le e.2 hz2⟩) fun e => .inr ⟨by have := e.1; have := HMD.out.zero.lt; omega, e.2⟩
        have HNEW := hid (hm3.next HS.out hvy)
        have zf := fun i => hm3.box.free i
        have o0 := hm3.box.c0
        have o1 := hm3.box.c1
        have o2 := hm3.box.c2
        have o3 := hm3.box.c3
        have o4 := hm3.box.c4
        clear hv hb2 hz2 hvy hm3 HCUT HSDX HMD
        refine ot_last rfl (fun K hK => ?_)
        go_simp
        refine hK _ _ ?_
        clear hK K
        refine ot_end ?_
        have HG1 : Hid (doD l[k] u = (0, Y) ∧ DocK (K + (k + 1)) (D + 16 * (k + 1)) Y) := hid (by
          rcases HNX.out with ⟨R, e, hR, h1, h2, h3⟩ | ⟨e, h1, -⟩
          · have h4 : Y = R := by rw [HYZ.out, h3 hkx.out, HMN.out, cut_doc m l[k].path u HMU.out.1 (fun e => by have := HMU.out.2; rw [e] at this; exact absurd this (by decide))]
            rw [e, h4]
            exact ⟨rfl, hR.mono (by omega) (by omega)⟩
          · have := hkx.out
            omega)
        clear zf o0 o1 o2 o3 o4
        go_wp2_with fail
        go_roundw
        case rel =>
          refine ⟨k + 1, by go_num, by omega, hid ⟨Y, A4, e4, A5, e5, HNEW.out, ?_, HG1.out.2⟩⟩
          have h1 := doL_next hlt HDO.out
          rw [HG1.out.1] at h1
          exact h1
        case measure => simp [intOf]; omega
    · have hke : k = l.length := by omega
      have d1 : decide ((k : Int) < (l.length : Int)) = false := decide_eq_false (by omega)
      have HE : Hid (res = (0, u)) := hid (by rw [HAL.out, ← hdo, hke, List.take_length])
      have HEND := hid (hm.end HS.out HE.out)
      have HBOX := hid (five_box (c0 := .int .i64 u.kind) (c1 := .int .i64 u.num) (c2 := .string u.text) (c3 := .slice A6 u.items.length c6) (c4 := .slice A6' u.names.length c6') hm.zero)
      have y0 := hm.box.c0
      have y1 := hm.box.c1
      have y2 := hm.box.c2
      have y3 := hm.box.c3
      have y4 := hm.box.c4
      have zf := fun i => hm.zero.free i
      have o0 := hm.zero.c0
      have o1 := hm.zero.c1
      have o2 := hm.zero.c2
      have o3 := hm.zero.c3
      have o4 := hm.zero.c4
      clear hke hm hdo hdk
      go_wp2_with fail
      refine bodyPost_ret (results_cell_two rfl _ _ (w.heap.size + 1) 29 _ (0, 0) rfl HBOX.out (by kernel_rfl)) rfl ?_
      exact HEND.out
end Go.Proofs.YtnamdlljdgllmaaGreat
