/- What drop and cut do at the end of a path; the program's Drop and Cut. -/
import Derived.Test.YtnamdlljdgllmaaGreatKTrP
import Derived.RangeFuncNested
import Derived.RangeFuncBound
import Derived.RangeFuncCalls
import Derived.RangeFuncLeaves
import Derived.Shelf.Abstract
import Derived.Shelf.RegionOpen
import Derived.WalkKit
import Derived.OwnWalkIn
import Derived.TacticsInMore
import Derived.LoopNIn
import Derived.LoopIn
namespace Go.Proofs.YtnamdlljdgllmaaGreat
set_option linter.unusedVariables false
set_option linter.unusedSimpArgs false
open Go.RowKit
theorem enters_dropc : Enters 132 := fun _ _ => by simp [callFunc, go_sem, Tryz.func132, Tryz.f132]
theorem enters_cutc : Enters 134 := fun _ _ => by simp [callFunc, go_sem, Tryz.func134, Tryz.f134]
def dropFin (t : VT) : List ByteArray → Int × VT
  | [] => (0, t)
  | s :: _ => (0, if placeT t s < 0 then t else if t.kind = 7 then remT t (placeT t s).toNat else setT t (placeT t s).toNat nullT)
def cutFin (n : Int) (t : VT) : List ByteArray → Int × VT
  | [] => (0, t)
  | s :: _ => if n < 0 then (1, t) else (0, if placeT t s < 0 then t else match t.items[(placeT t s).toNat]? with
    | none => t
    | some x => setT t (placeT t s).toNat (cutV x n))
theorem dropFin_cons (t : VT) (s : ByteArray) (r : List ByteArray) : dropFin t (s :: r) = (0, if placeT t s < 0 then t else if t.kind = 7 then remT t (placeT t s).toNat else setT t (placeT t s).toNat nullT) := rfl
theorem cutFin_cons (n : Int) (t : VT) (s : ByteArray) (r : List ByteArray) : cutFin n t (s :: r) = if n < 0 then ((1 : Int), t) else ((0 : Int), if placeT t s < 0 then t else match t.items[(placeT t s).toNat]? with
    | none => t
    | some x => setT t (placeT t s).toNat (cutV x n)) := rfl
theorem may_nl_eq {t : VT} (h : mayT t = true) (hk : t.kind = 7) : t.names.length = t.items.length := by
  cases t with
  | mk k i s l ns => exact (may_names h).1 hk
set_option maxHeartbeats 2000000 in
set_option maxRecDepth 100000 in
theorem dropc_any (t : VT) (g o : Nat) (A : Option Addr) (c : Nat) (s : ByteArray) (r : List ByteArray) (F : Nat → Prop) (w : World) (h : OAt w F t g o) (hm : mayT t = true) :
    Calls Tryz.prog 132 #[.agg #[.pointer (some ⟨g, o, none⟩), .int .i64 (placeT t s), .slice A (r.length + 1) c]] w (DidAt F g o w (dropFin t (s :: r))) := by
  obtain ⟨P, hP⟩ : ∃ P, P = placeT t s := ⟨_, rfl⟩
  rw [← hP]
  have hge : -1 ≤ P := by rw [hP]; exact placeT_ge t s
  have hb1 : Below w.heap.size w (w.alloc (.cells #[.pointer (some ⟨g, o, none⟩), .int .i64 P, .slice A (r.length + 1) c] 131)) := below_box _
  have H1 := h.keep hb1
  have hcall : Calls Tryz.prog 133 #[.agg #[.pointer (some ⟨g, o, none⟩), .int .i64 P, .slice A (r.length + 1) c]] (w.alloc (.cells #[.pointer (some ⟨g, o, none⟩), .int .i64 P, .slice A (r.length + 1) c] 131)) fun e w' => e = .returned (.tuple #[]) ∧ DidAt F g o w (dropFin t (s :: r)) (.returned (.int .i64 0)) w' := by
    by_cases hneg : P < 0
    · refine (tdrop_none F t g o P hneg _ _ H1).mono ?_
      rintro e w' ⟨rfl, hd⟩
      refine ⟨rfl, DidAt.from ⟨rfl, ?_⟩ hb1 h.lt⟩
      rw [dropFin_cons]
      rw [← hP, if_pos hneg]
      exact hd
    obtain ⟨j, rfl⟩ : ∃ j : Nat, P = j := ⟨P.toNat, by omega⟩
    have hj : j < t.items.length := by
      have := placeT_lt (may_nl hm) (s := s) (by rw [← hP]; omega)
      rw [← hP] at this
      simpa using this
    by_cases hk : t.kind = 7
    · refine (tdrop_doc F t g o j hj hk (may_nl_eq hm hk) _ _ H1).mono ?_
      rintro e w' ⟨rfl, hd⟩
      refine ⟨rfl, DidAt.from ⟨rfl, ?_⟩ hb1 h.lt⟩
      rw [dropFin_cons]
      rw [← hP, if_neg hneg, if_pos hk]
      exact hd
    · refine (tdrop_item F t g o j hj hk _ _ H1).mono ?_
      rintro e w' ⟨rfl, hd⟩
      refine ⟨rfl, DidAt.from ⟨rfl, ?_⟩ hb1 h.lt⟩
      rw [dropFin_cons]
      rw [← hP, if_neg hneg, if_neg hk]
      exact hd
  have HC := Lib.hid hcall
  clear hcall H1 hb1 h hP hm hge
  go_enter Tryz.func132, Tryz.ntmps132
  go_wp2_with fail
  refine HC.out.mono ?_
  rintro e w2 ⟨rfl, hd⟩
  have HD := Lib.hid hd
  clear hd HC
  go_wp2_with fail
  go_ret
  exact HD.out
set_option maxHeartbeats 2000000 in
set_option maxRecDepth 100000 in
theorem cutc_any (n : Int) (hn : -9223372036854775808 ≤ n ∧ n ≤ 9223372036854775807) (bx : Nat) (t : VT) (g o : Nat) (A : Option Addr) (c : Nat) (s : ByteArray) (r : List ByteArray) (F : Nat → Prop) (w : World) (h : OAt w F t g o) (hm : mayT t = true) (hx : w.heap[bx]? = some (.cells #[.int .i64 n] 3 (0, 0))) :
    Calls Tryz.prog 134 #[.agg #[.pointer (some ⟨g, o, none⟩), .int .i64 (placeT t s), .slice A (r.length + 1) c], .pointer (some ⟨bx, 0, none⟩)] w (DidAt F g o w (cutFin n t (s :: r))) := by
  obtain ⟨P, hP⟩ : ∃ P, P = placeT t s := ⟨_, rfl⟩
  rw [← hP]
  have hge : -1 ≤ P := by rw [hP]; exact placeT_ge t s
  have hb1 : Below w.heap.size w (w.alloc (.cells #[.pointer (some ⟨g, o, none⟩), .int .i64 P, .slice A (r.length + 1) c] 131)) := below_box _
  have H1 := h.keep hb1
  have hbx : bx < w.heap.size := (Array.getElem?_eq_some_iff.1 hx).1
  have x0 : w.cell? ⟨bx, 0, none⟩ = some (.int .i64 n) := Go.Joins.cell_of_block hx 0
  by_cases hn0 : n < 0
  · have hnb : decide (n < 0) = true := decide_eq_true hn0
    have hd : DidAt F g o w (cutFin n t (s :: r)) (.returned (.int .i64 1)) (w.alloc (.cells #[.pointer (some ⟨g, o, none⟩), .int .i64 P, .slice A (r.length + 1) c] 131)) := by
      have e : cutFin n t (s :: r) = (1, t) := by rw [cutFin_cons, if_pos hn0]
      rw [e]
      exact ⟨rfl, h.still hb1⟩
    have HD := Lib.hid hd
    clear hd H1 hb1 h hP hm hge hx
    go_enter Tryz.func134, Tryz.ntmps134
    go_wp2_with fail
    go_ret
    exact HD.out
  have hnb : decide (n < 0) = false := decide_eq_false hn0
  obtain ⟨m, rfl⟩ : ∃ m : Nat, n = m := ⟨n.toNat, by omega⟩
  have hcall : Calls Tryz.prog 135 #[.agg #[.pointer (some ⟨g, o, none⟩), .int .i64 P, .slice A (r.length + 1) c], .int .i64 m] (w.alloc (.cells #[.pointer (some ⟨g, o, none⟩), .int .i64 P, .slice A (r.length + 1) c] 131)) fun e w' => e = .returned (.tuple #[]) ∧ DidAt F g o w (cutFin m t (s :: r)) (.returned (.int .i64 0)) w' := by
    by_cases hneg : P < 0
    · refine (tcut_none F t g o P hneg _ _ _ H1).mono ?_
      rintro e w' ⟨rfl, hd⟩
      refine ⟨rfl, DidAt.from (res := cutFin m t (s :: r)) ?_ hb1 h.lt⟩
      rw [cutFin_cons]
      rw [← hP, if_neg hn0, if_pos hneg]
      exact ⟨rfl, hd⟩
    obtain ⟨j, rfl⟩ : ∃ j : Nat, P = j := ⟨P.toNat, by omega⟩
    have hj : j < t.items.length := by
      have := placeT_lt (may_nl hm) (s := s) (by rw [← hP]; omega)
      rw [← hP] at this
      simpa using this
    refine (tcut_item F t g o j hj _ m (by omega) _ H1).mono ?_
    rintro e w' ⟨rfl, hd⟩
    refine ⟨rfl, DidAt.from (res := cutFin m t (s :: r)) ?_ hb1 h.lt⟩
    have e : cutFin m t (s :: r) = (0, setT t j (cutV t.items[j] m)) := by
      rw [cutFin_cons]
      rw [← hP, if_neg hn0, if_neg hneg, Int.toNat_natCast, List.getElem?_eq_getElem hj]
    rw [e]
    exact ⟨rfl, hd⟩
  have HC := Lib.hid hcall
  clear hcall H1 hb1 h hP hm hge hx
  go_enter Tryz.func134, Tryz.ntmps134
  go_wp2_with fail
  refine HC.out.mono ?_
  rintro e w2 ⟨rfl, hd⟩
  have HD := Lib.hid hd
  clear hd HC
  go_wp2_with fail
  go_ret
  exact HD.out
end Go.Proofs.YtnamdlljdgllmaaGreat

/- The program's Drop and Cut. -/
namespace Go.Proofs.YtnamdlljdgllmaaGreat
set_option linter.unusedVariables false
set_option linter.unusedSimpArgs false
open Go.RowKit
theorem change_endq {w w5 : World} {res : Int × VT} {u : VT} {x : Int} {c0 c1 c2 c3 c4 : Value} (q : Nat) (hb : Below w.heap.size w w5) (hv : LV w5 (Iv (w.heap.size + q + 1) w5.heap.size) u (.agg #[c0, c1, c2, c3, c4])) (hr : res = (x, u)) :
    ChangeR res w (.returned (.tuple #[.agg #[c0, c1, c2, c3, c4], .int .i64 x])) (five w5 (w.heap.size + q) 0 c0 c1 c2 c3 c4) := by
  have hr5 := five_rest w5 (w.heap.size + q) 0 c0 c1 c2 c3 c4
  have hk := five_other w5 (w.heap.size + q) 0 c0 c1 c2 c3 c4
  have hz := five_size w5 (w.heap.size + q) 0 c0 c1 c2 c3 c4
  subst hr
  exact ⟨_, rfl, (hv.keep fun b hb' => hk b (by have := hb'.1; omega)).imp fun b hb' => ⟨by have := hb'.1; omega, by rw [hz]; exact hb'.2⟩,
    ⟨hr5.1.trans hb.os, hr5.2.1.trans hb.tape, hr5.2.2.trans hb.output, by rw [hz]; exact hb.size, fun b hb' => (hk b (by omega)).trans (hb.block b hb')⟩⟩
set_option maxHeartbeats 4000000 in
set_option maxRecDepth 100000 in
theorem tdropT_any (S : Nat → Prop) (t : VT) (v : Value) (A : Option Addr) (c : Nat) (p : List ByteArray) (w : World) (hS : ∀ b, S b → b < w.heap.size) (h : LV w S t v) (hd : depthT t ≤ 4611686018427387903) (hp : StrsAt w S A p) (hn : p.length ≤ 140737488351232) (hpc : p.length ≤ c) (h63 : c ≤ 9223372036854775807) :
    Calls Tryz.prog 94 #[v, .slice A p.length c] w (ChangeR (changeT dropFin t p) w) := by
  obtain ⟨A0, c0, A0', c0', rfl, -, -, -, v1, hb0⟩ := one_var hS h
  have HX := Lib.hid v1.x
  have HB := Lib.hid hb0
  have HV := Lib.hid h
  have HP := Lib.hid hp
  have HD := Lib.hid hd
  clear h v1 hb0 hd hp
  go_enter Tryz.func94, Tryz.ntmps94
  go_wp2_with fail
  have hz1 : (w.alloc (.cells #[.int .i64 t.kind, .int .i64 t.num, .string t.text, .slice A0 t.items.length c0, .slice A0' t.names.length c0'] 29)).heap.size = w.heap.size + 1 := by simp
  have hB0 : Below w.heap.size w ((w.alloc (.cells #[.int .i64 t.kind, .int .i64 t.num, .string t.text, .slice A0 t.items.length c0, .slice A0' t.names.length c0'] 29)).alloc (.cells #[.int .i64 0, .int .i64 0, .string ⟨#[]⟩, .slice none 0 0, .slice none 0 0] 29)) := HB.out.alloc (by omega) _
  have hX0 := HX.out.alloc (.cells #[.int .i64 0, .int .i64 0, .string ⟨#[]⟩, .slice none 0 0, .slice none 0 0] 29)
  have hR0 : Box ((w.alloc (.cells #[.int .i64 t.kind, .int .i64 t.num, .string t.text, .slice A0 t.items.length c0, .slice A0' t.names.length c0'] 29)).alloc (.cells #[.int .i64 0, .int .i64 0, .string ⟨#[]⟩, .slice none 0 0, .slice none 0 0] 29)) (w.heap.size + 1) (.int .i64 0) (.int .i64 0) (.string ⟨#[]⟩) (.slice none 0 0) (.slice none 0 0) := by
    have h := Box.new (w := w.alloc (.cells #[.int .i64 t.kind, .int .i64 t.num, .string t.text, .slice A0 t.items.length c0, .slice A0' t.names.length c0'] 29)) (.int .i64 0) (.int .i64 0) (.string ⟨#[]⟩) (.slice none 0 0) (.slice none 0 0)
    rw [hz1] at h
    exact h
  have hz2 : ((w.alloc (.cells #[.int .i64 t.kind, .int .i64 t.num, .string t.text, .slice A0 t.items.length c0, .slice A0' t.names.length c0'] 29)).alloc (.cells #[.int .i64 0, .int .i64 0, .string ⟨#[]⟩, .slice none 0 0, .slice none 0 0] 29)).heap.size = w.heap.size + 2 := by simp
  generalize (w.alloc (.cells #[.int .i64 t.kind, .int .i64 t.num, .string t.text, .slice A0 t.items.length c0, .slice A0' t.names.length c0'] 29)).alloc (.cells #[.int .i64 0, .int .i64 0, .string ⟨#[]⟩, .slice none 0 0, .slice none 0 0] 29) = w2 at *
  have q0 := hX0.c0
  have q1 := hX0.c1
  have q2 := hX0.c2
  have q3 := hX0.c3
  have q4 := hX0.c4
  have HB0 := Lib.hid hB0
  have HR0 := Lib.hid hR0
  have HC := Lib.hid (tchange_any 132 #[] dropFin S (fun _ => True) (fun _ => True) (fun _ _ _ _ => trivial) enters_dropc (fun _ _ _ _ => trivial) (fun w t g o A c s r F _ ho hm _ _ _ _ _ _ _ => dropc_any t g o A c s r F w ho hm) t _ A c p w2 trivial trivial (fun b hb => by have := hS b hb; omega) (HV.out.keep fun b hb => hB0.block b (hS b hb)) HD.out (HP.out.keep fun b hb => hB0.block b (hS b hb)) hn hpc h63)
  clear hB0 hX0 hR0 hz1 HB HX HV HP HD
  go_wp2_with fail
  refine HC.out.mono ?_
  rintro e w5 ⟨v', rfl, hv, hb5⟩
  obtain ⟨B, k, B', k', rfl, -⟩ := hv.shape
  have HB5 := Lib.hid (HB0.out.trans (hb5.mono (show w.heap.size ≤ w2.heap.size by omega)))
  have HR5 := Lib.hid (HR0.out.call hb5)
  have HV5 := Lib.hid (hv.imp (S' := Iv (w.heap.size + 1 + 1) w5.heap.size) fun b hb => ⟨by have := hb.1; omega, hb.2⟩)
  have rf := fun i => HR5.out.free i
  have r0 := HR5.out.c0
  have r1 := HR5.out.c1
  have r2 := HR5.out.c2
  have r3 := HR5.out.c3
  have r4 := HR5.out.c4
  generalize hres : changeT dropFin t p = res at *
  obtain ⟨x, u⟩ := res
  simp only at *
  have HEND := Lib.hid (change_endq (res := (x, u)) 1 HB5.out HV5.out rfl)
  have HBOX := Lib.hid (five_box (c0 := .int .i64 u.kind) (c1 := .int .i64 u.num) (c2 := .string u.text) (c3 := .slice B u.items.length k) (c4 := .slice B' u.names.length k') HR5.out)
  clear hv hb5 HC HR0 HB0 HV5 HB5 hz2 hres q0 q1 q2 q3 q4
  go_wp2_with fail
  refine bodyPost_ret (results_cell_two rfl _ _ (w.heap.size + 1) 29 _ (0, 0) rfl HBOX.out (by kernel_rfl)) rfl ?_
  exact HEND.out
set_option maxHeartbeats 4000000 in
set_option maxRecDepth 100000 in
theorem tcutT_any (n : Int) (hn' : -9223372036854775808 ≤ n ∧ n ≤ 9223372036854775807) (S : Nat → Prop) (t : VT) (v : Value) (A : Option Addr) (c : Nat) (p : List ByteArray) (w : World) (hS : ∀ b, S b → b < w.heap.size) (h : LV w S t v) (hd : depthT t ≤ 4611686018427387903) (hp : StrsAt w S A p) (hn : p.length ≤ 140737488351232) (hpc : p.length ≤ c) (h63 : c ≤ 9223372036854775807) :
    Calls Tryz.prog 95 #[v, .slice A p.length c, .int .i64 n] w (ChangeR (changeT (cutFin n) t p) w) := by
  obtain ⟨A0, c0, A0', c0', rfl, -, -, -, v1, hb0⟩ := one_var hS h
  have HX := Lib.hid v1.x
  have HB := Lib.hid hb0
  have HV := Lib.hid h
  have HP := Lib.hid hp
  have HD := Lib.hid hd
  clear h v1 hb0 hd hp
  go_enter Tryz.func95, Tryz.ntmps95
  go_wp2_with fail
  generalize hE1 : w.alloc (.cells #[.int .i64 t.kind, .int .i64 t.num, .string t.text, .slice A0 t.items.length c0, .slice A0' t.names.length c0'] 29) = W1 at *
  have hz1 : W1.heap.size = w.heap.size + 1 := by rw [← hE1]; simp
  have hz2 : (W1.alloc (.cells #[.int .i64 n] 3)).heap.size = w.heap.size + 2 := by simp [hz1]
  have hz3 : ((W1.alloc (.cells #[.int .i64 n] 3)).alloc (.cells #[.int .i64 0, .int .i64 0, .string ⟨#[]⟩, .slice none 0 0, .slice none 0 0] 29)).heap.size = w.heap.size + 3 := by simp [hz1]
  have hB0 : Below w.heap.size w ((W1.alloc (.cells #[.int .i64 n] 3)).alloc (.cells #[.int .i64 0, .int .i64 0, .string ⟨#[]⟩, .slice none 0 0, .slice none 0 0] 29)) := (HB.out.alloc (by omega) _).alloc (by omega) _
  have hX0 := (HX.out.alloc (.cells #[.int .i64 n] 3)).alloc (.cells #[.int .i64 0, .int .i64 0, .string ⟨#[]⟩, .slice none 0 0, .slice none 0 0] 29)
  have hN0 : ((W1.alloc (.cells #[.int .i64 n] 3)).alloc (.cells #[.int .i64 0, .int .i64 0, .string ⟨#[]⟩, .slice none 0 0, .slice none 0 0] 29)).heap[w.heap.size + 1]? = some (.cells #[.int .i64 n] 3 (0, 0)) := by
    refine (Below.heap_alloc _ _ _ (by omega)).trans ?_
    rw [← hz1]
    exact heap_alloc_new _ _
  have hR0 : Box ((W1.alloc (.cells #[.int .i64 n] 3)).alloc (.cells #[.int .i64 0, .int .i64 0, .string ⟨#[]⟩, .slice none 0 0, .slice none 0 0] 29)) (w.heap.size + 2) (.int .i64 0) (.int .i64 0) (.string ⟨#[]⟩) (.slice none 0 0) (.slice none 0 0) := by
    have h := Box.new (w := W1.alloc (.cells #[.int .i64 n] 3)) (.int .i64 0) (.int .i64 0) (.string ⟨#[]⟩) (.slice none 0 0) (.slice none 0 0)
    rw [hz2] at h
    exact h
  clear hE1
  generalize (W1.alloc (.cells #[.int .i64 n] 3)).alloc (.cells #[.int .i64 0, .int .i64 0, .string ⟨#[]⟩, .slice none 0 0, .slice none 0 0] 29) = w2 at *
  have q0 := hX0.c0
  have q1 := hX0.c1
  have q2 := hX0.c2
  have q3 := hX0.c3
  have q4 := hX0.c4
  have HB0 := Lib.hid hB0
  have HR0 := Lib.hid hR0
  have HC := Lib.hid (tchange_any 134 #[.pointer (some ⟨w.heap.size + 1, 0, none⟩)] (cutFin n) S (fun w' => w'.heap[w.heap.size + 1]? = some (.cells #[.int .i64 n] 3 (0, 0))) (fun _ => True) (fun _ _ _ _ => trivial) enters_cutc (fun w1 w2 hj hb => (hb.block _ (Array.getElem?_eq_some_iff.1 hj).1).trans hj)
    (fun w1 t g o A c s r F hj ho hm _ _ _ _ _ _ _ => cutc_any n hn' (w.heap.size + 1) t g o A c s r F w1 ho hm hj) t _ A c p w2 hN0 trivial (fun b hb => by have := hS b hb; omega) (HV.out.keep fun b hb => hB0.block b (hS b hb)) HD.out (HP.out.keep fun b hb => hB0.block b (hS b hb)) hn hpc h63)
  clear hB0 hX0 hR0 hN0 HB HX HV HP HD
  go_wp2_with fail
  have e1 : W1.heap.size = w.heap.size + 1 := hz1
  try rw [e1]
  refine HC.out.mono ?_
  rintro e w5 ⟨v', rfl, hv, hb5⟩
  obtain ⟨B, k, B', k', rfl, -⟩ := hv.shape
  have HB5 := Lib.hid (HB0.out.trans (hb5.mono (show w.heap.size ≤ w2.heap.size by omega)))
  have HR5 := Lib.hid (HR0.out.call hb5)
  have HV5 := Lib.hid (hv.imp (S' := Iv (w.heap.size + 2 + 1) w5.heap.size) fun b hb => ⟨by have := hb.1; omega, hb.2⟩)
  have rf := fun i => HR5.out.free i
  have r0 := HR5.out.c0
  have r1 := HR5.out.c1
  have r2 := HR5.out.c2
  have r3 := HR5.out.c3
  have r4 := HR5.out.c4
  generalize hres : changeT (cutFin n) t p = res at *
  obtain ⟨x, u⟩ := res
  simp only at *
  have HEND := Lib.hid (change_endq (res := (x, u)) 2 HB5.out HV5.out rfl)
  have HBOX := Lib.hid (five_box (c0 := .int .i64 u.kind) (c1 := .int .i64 u.num) (c2 := .string u.text) (c3 := .slice B u.items.length k) (c4 := .slice B' u.names.length k') HR5.out)
  clear hv hb5 HC HR0 HB0 HV5 HB5 hz2 hres q0 q1 q2 q3 q4 hz1 e1
  go_wp2_with fail
  refine bodyPost_ret (results_cell_two rfl _ _ (w.heap.size + 2) 29 _ (0, 0) rfl HBOX.out (by kernel_rfl)) rfl ?_
  exact HEND.out
end Go.Proofs.YtnamdlljdgllmaaGreat

/- The library's Backward over texts: for every loop body. -/
namespace Go.Proofs.YtnamdlljdgllmaaGreat
set_option linter.unusedVariables false
set_option linter.unusedSimpArgs false
open Go.RowKit Go.Shelf
attribute [local go_sem] Oper.semAt_some
def KpB (bx m : Nat) (W W' : World) : Prop := W.heap.size ≤ W'.heap.size ∧ ∀ b, b < m → b ≠ bx → W'.heap[b]? = W.heap[b]?
theorem KpB.refl (bx m : Nat) (W : World) : KpB bx m W W := ⟨Nat.le_refl _, fun _ _ _ => rfl⟩
theorem KpB.trans {bx m : Nat} {A B C : World} (h : KpB bx m A B) (k : KpB bx m B C) : KpB bx m A C := ⟨Nat.le_trans h.1 k.1, fun b hb hx => (k.2 b hb hx).trans (h.2 b hb hx)⟩
theorem kpB_b {bx m : Nat} {w : World} (hn : m ≤ w.heap.size) (W : World) (l : Nat) (o o' : Obj) (hl : w.heap.size ≤ l) (h : W.heap[l]? = some o) (_ : o.isCells = false) (_ : o.isWalk = false) : KpB bx m W (W.putObj l o') :=
  ⟨(grownBy_putObj' W l o').size, fun b hb _ => (grownBy_putObj' W l o').block b (by have := (Array.getElem?_eq_some_iff.1 h).1; omega) (fun e => by injection e with e; omega)⟩
def upB (zs : List ByteArray) (k : Nat) : List (Nat × ByteArray) := (List.range k).map fun j => (zs.length - 1 - j, zs[zs.length - 1 - j]?.getD ⟨#[]⟩)
theorem upB_succ (zs : List ByteArray) (k : Nat) : upB zs (k + 1) = upB zs k ++ [(zs.length - 1 - k, zs[zs.length - 1 - k]?.getD ⟨#[]⟩)] := by simp [upB, List.range_succ]
theorem upB_length (zs : List ByteArray) (k : Nat) : (upB zs k).length = k := by simp [upB]
set_option maxRecDepth 100000 in
set_option maxHeartbeats 2000000 in
theorem back1_in (F : Fence) (n : Nat) (hf : F.fn 174) (hro : F.round = none) (hn : 1 ≤ n) (l Bs bx m : Nat) (S : Nat → Prop) (A : Option Addr) (c : Nat) (zs : List ByteArray) (hlen : zs.length ≤ 9223372036854775807) (hBs : Bs < m ∧ Bs ≠ bx) (hS : ∀ b, S b → b < m ∧ b ≠ bx) (J Jx : List (Nat × ByteArray) → World → Prop)
    (hY : ∀ pre x W, J pre W → pre.length < zs.length → YieldAt F (n - 1) Tryz.prog l #[.int .i64 (x.1 : Int), .string x.2] W fun e W' =>
      (e = .returned (.bool true) ∧ J (pre ++ [x]) W' ∧ KpB bx m W W') ∨ (e = .returned (.bool false) ∧ Jx (pre ++ [x]) W'))
    (W : World) (hc : W.cell? ⟨Bs, 0, none⟩ = some (.slice A zs.length c)) (hst : StrsAt W S A zs) (h0 : J [] W) :
    CallsIn F n Tryz.prog 174 #[.func (.yield l) #[] #[], .pointer (some ⟨Bs, 0, none⟩)] W fun e W' => (∃ v, e = .returned v) ∧
      ((∃ ys, ys = upB zs zs.length ∧ J ys W') ∨ (∃ pre, (∃ k, k ≤ zs.length ∧ pre = upB zs k) ∧ Jx pre W')) := by
  have HST := Lib.hid hst
  clear hst
  refine callsIn_of_wp Tryz.func174 rfl hf ?_ hro
  simp only [Tryz.ntmps174, List.size_toArray, List.length_cons, List.length_nil, Nat.reduceAdd, Nat.reduceSub, Array.replicate_succ, Array.replicate_zero, List.push_toArray, List.append_toArray, List.nil_append, List.cons_append]
  gi_wp2
  gi_loopw [3] (fun i wr => ∃ (k : Nat) (P : Int), k ≤ zs.length ∧ Hid (P = (zs.length : Int) - 1 - k) ∧ i = .int .i64 P ∧ J (upB zs k) wr ∧ Hid (KpB bx m W wr))
    (fun i _ => (intOf i + 1).toNat)
  case atStart => exact ⟨0, (zs.length : Int) - 1, Nat.zero_le _, Lib.hid (by omega), rfl, h0, Lib.hid (KpB.refl _ _ _)⟩
  case round =>
    obtain ⟨k, P, hk, HP, rfl, hJs, HK⟩ := hrel
    by_cases hlt : k < zs.length
    · obtain ⟨q, rfl⟩ : ∃ q : Nat, P = q := ⟨P.toNat, by have := HP.out; omega⟩
      have hq : zs.length - 1 - k = q := by have := HP.out; omega
      have hql : q < zs.length := by omega
      obtain ⟨b, off, rfl, hb, hx⟩ := HST.out (by omega)
      have hcx : wr.cell? ⟨b, off + q, none⟩ = some (.string zs[q]) := (World.cell?_of_block (a := ⟨b, off + q, none⟩) (HK.out.2 b (hS b hb).1 (hS b hb).2)).trans (hx q hql).1
      have hcb : wr.cell? ⟨Bs, 0, none⟩ = some (.slice (some ⟨b, off, none⟩) zs.length c) := (World.cell?_of_block (a := ⟨Bs, 0, none⟩) (HK.out.2 Bs hBs.1 hBs.2)).trans hc
      obtain ⟨s, hs⟩ : ∃ s, s = zs[q] := ⟨_, rfl⟩
      have hge : decide (0 ≤ (q : Int)) = true := decide_eq_true (by omega)
      obtain ⟨fn, tmps, assign, body, hy, hR⟩ := hY _ (q, s) wr hJs (by rw [upB_length]; exact hlt)
      dsimp only at hy
      have HU : Hid (upB zs (k + 1) = upB zs k ++ [(q, s)]) := Lib.hid (by rw [upB_succ, hq, hs, List.getElem?_eq_getElem hql]; rfl)
      rw [← hs] at hcx
      clear hx hs hJs
      gi_wp2
      refine hR.mono ?_
      rintro e W3 (⟨rfl, hJ3, hk3⟩ | ⟨rfl, hJx3⟩)
      · gi_wp2
        go_roundw
        case rel => exact ⟨k + 1, (q : Int) - 1, by omega, Lib.hid (by have := HP.out; omega), by first | rfl | go_num, by rw [HU.out]; exact hJ3, Lib.hid (HK.out.trans hk3)⟩
        case measure => simp [intOf]
      · gi_wp2
        refine bodyPost_ret (results_none rfl _ _ _) rfl ?_
        exact ⟨⟨_, rfl⟩, .inr ⟨_, ⟨k + 1, by omega, HU.out.symm⟩, hJx3⟩⟩
    · obtain rfl : k = zs.length := by omega
      have hge : decide (0 ≤ P) = false := decide_eq_false (by have := HP.out; omega)
      gi_wp2
      go_end0
      exact ⟨⟨_, rfl⟩, .inl ⟨_, rfl, hJs⟩⟩
theorem back_stops (F : Fence) (n : Nat) (hf : F.fn 174) (hro : F.round = none) (hn : 1 ≤ n) (Bs bx m : Nat) (S : Nat → Prop) (A : Option Addr) (c : Nat) (zs : List ByteArray) (hlen : zs.length ≤ 9223372036854775807) (hBs : Bs < m ∧ Bs ≠ bx) (hS : ∀ b, S b → b < m ∧ b ≠ bx) (w : World) (hm : m ≤ w.heap.size) (hc : w.cell? ⟨Bs, 0, none⟩ = some (.slice A zs.length c)) (hst : StrsAt w S A zs) :
    SeqStopsK F n Tryz.prog 174 #[.pointer (some ⟨Bs, 0, none⟩)] (fun x : Nat × ByteArray => #[Value.int .i64 (x.1 : Int), Value.string x.2]) (KpB bx m) (fun ys => ys = upB zs zs.length) (fun pre => ∃ k, k ≤ zs.length ∧ pre = upB zs k) zs.length w := fun l J Jx W hW _ _ hY h0 =>
  back1_in F n hf hro hn l Bs bx m S A c zs hlen hBs hS J Jx hY W ((hW.cell (p := ⟨Bs, 0, none⟩) (Nat.lt_of_lt_of_le hBs.1 hm)).trans hc) (hst.keep fun b hb => hW.block b (Nat.lt_of_lt_of_le (hS b hb).1 hm)) h0
set_option maxHeartbeats 1000000 in
theorem back_in (F : Fence) (n : Nat) (hf : F.fn 170) (hro : F.round = none) (a : Option Addr) (len cap : Nat) (w : World) :
    CallsIn F n Tryz.prog 170 #[.slice a len cap] w fun e w' => e = .returned (.func (.func 174) #[] #[.pointer (some ⟨w.heap.size, 0, none⟩)]) ∧ w' = w.alloc (.cells #[.slice a len cap] 23) := by
  refine callsIn_of_wp Tryz.func170 rfl hf ?_ hro
  simp only [Tryz.ntmps170, List.size_toArray, List.length_cons, List.length_nil, Nat.reduceAdd, Nat.reduceSub, Array.replicate_succ, Array.replicate_zero, List.push_toArray, List.append_toArray, List.nil_append, List.cons_append]
  gi_wp2
  go_ret
  exact ⟨rfl, rfl⟩
end Go.Proofs.YtnamdlljdgllmaaGreat

/- A value within documents: the program's nest. -/
namespace Go.Proofs.YtnamdlljdgllmaaGreat
set_option linter.unusedVariables false
set_option linter.unusedSimpArgs false
open Go.RowKit Go.Shelf
attribute [local go_sem] Oper.semAt_some
def isC (w : World) (b : Nat) : Prop := ∃ C ty fz, w.heap[b]? = some (.cells C ty fz)
theorem row_isC {w : World} {B : Nat} {e : TypeId} {size n c : Nat} {A : Option Addr} {xs : List Value} (h : w.ownsRow B e size (.slice A n c) n xs) : ∀ a, A = some a → isC w a.block := by
  intro a ha
  rcases h.2 with ⟨h2, -⟩ | ⟨g, cap, cur, hv, -, hh, -⟩
  · injection h2 with e1
    rw [ha] at e1
    cases e1
  · injection hv with e1
    rw [ha] at e1
    injection e1 with e1
    subst e1
    exact ⟨_, _, _, hh⟩
mutual
theorem OV.cells {w : World} : ∀ {F : Nat → Prop} {t : VT} {v : Value}, OV w F t v → OV w (fun b => F b ∧ isC w b) t v
  | F, .mk k i s l ns, v, h => by
    unfold OV at h ⊢
    obtain ⟨A, c, A', c', xs, h0, h1, h2, h3, h4, h5, h6, h7, h8, h9, h10, h11, h12⟩ := h
    exact ⟨A, c, A', c', xs, h0, h1, h2, h3, h4, h5, h6, h7, h8, fun a ha => ⟨h9 a ha, row_isC h7 a ha⟩, fun a ha => ⟨h10 a ha, row_isC h8 a ha⟩, h11, (OVs.cells h12).imp fun b hb => ⟨⟨hb.1.1, hb.2⟩, hb.1.2⟩⟩
theorem OVs.cells {w : World} : ∀ {F : Nat → Prop} {l : List VT} {xs : List Value}, OVs w F l xs → OVs w (fun b => F b ∧ isC w b) l xs
  | F, [], xs, h => by unfold OVs at h ⊢; exact h
  | F, t :: r, xs, h => by
    unfold OVs at h ⊢
    obtain ⟨c0, c1, c2, c3, c4, ys, F1, F2, h0, h1, h2, h3, h4, h5⟩ := h
    exact ⟨c0, c1, c2, c3, c4, ys, _, _, h0, OV.cells h1, OVs.cells h2, fun b hb => ⟨h3 b hb.1, hb.2⟩, fun b hb => ⟨h4 b hb.1, hb.2⟩, fun b x y => h5 b x.1 y.1⟩
end
def oneT (s : ByteArray) (x : VT) : VT := .mk 7 0 ⟨#[]⟩ [x] [s]
def nestT (p : List ByteArray) (x : VT) : VT := p.foldr oneT x
def nestR (pre : List (Nat × ByteArray)) (x : VT) : VT := pre.foldl (fun y q => oneT q.2 y) x
theorem nestR_snoc (pre : List (Nat × ByteArray)) (q : Nat × ByteArray) (x : VT) : nestR (pre ++ [q]) x = oneT q.2 (nestR pre x) := by simp [nestR]
theorem upB_snd (zs : List ByteArray) : (upB zs zs.length).map Prod.snd = zs.reverse := by
  apply List.ext_getElem
  · simp [upB]
  · intro i h1 h2
    simp only [List.length_reverse] at h2
    simp only [upB, List.getElem_map, List.getElem_range, List.getElem_reverse]
    rw [List.getElem?_eq_getElem (by omega)]
    rfl
theorem nestR_all (zs : List ByteArray) (x : VT) : nestR (upB zs zs.length) x = nestT zs x := by
  have h : ∀ (l : List (Nat × ByteArray)) (y : VT), nestR l y = (l.map Prod.snd).foldl (fun y s => oneT s y) y := by
    intro l
    induction l with
    | nil => intro y; rfl
    | cons a r ih => intro y; exact ih _
  rw [h, upB_snd, nestT, ← List.foldr_reverse, List.reverse_reverse]
theorem one_ov {w : World} {F : Nat → Prop} {x : VT} {c0 c1 c2 c3 c4 : Value} {s : ByteArray} {g1 g2 : Nat} (h : OV w F x (.agg #[c0, c1, c2, c3, c4])) (hs : s.size ≤ 140737488351232) (h1 : w.heap[g1]? = some (.cells #[.string s] 9 (0, 0))) (h2 : w.heap[g2]? = some (.cells #[c0, c1, c2, c3, c4] 29 (0, 0)))
    (hF1 : ¬ F g1) (hF2 : ¬ F g2) (hne : g2 ≠ g1) :
    OV w (fun b => F b ∨ b = g1 ∨ b = g2) (oneT s x) (.agg #[.int .i64 7, .int .i64 0, .string ⟨#[]⟩, .slice (some ⟨g2, 0, none⟩) 1 1, .slice (some ⟨g1, 0, none⟩) 1 1]) := by
  refine OV.mk (l := [x]) (ns := [s]) (xs := [c0, c1, c2, c3, c4]) (by unfold Rng; omega) (by unfold Rng; omega) (by decide) (by simp) (by simp) (fun y hy => by simp at hy; subst hy; exact hs) ?_ ?_ (fun a ha => by cases ha; exact .inr (.inl rfl)) (fun a ha => by cases ha; exact .inr (.inr rfl)) (fun a a' ha ha' => by cases ha; cases ha'; exact hne) ?_
  · exact ⟨rfl, .inr ⟨g1, 1, _, rfl, Nat.zero_le _, h1, Nat.le_refl _, by unfold maxLen; omega, rfl, rfl⟩⟩
  · exact ⟨rfl, .inr ⟨g2, 1, _, rfl, Nat.zero_le _, h2, Nat.le_refl _, by unfold maxLen; omega, rfl, rfl⟩⟩
  · unfold OVs
    exact ⟨c0, c1, c2, c3, c4, [], F, fun _ => False, rfl, h, ovs_nil _ _, fun b hb => ⟨.inl hb, fun a ha => by cases ha; exact fun e => hF2 ((show g2 = b from e) ▸ hb), fun a ha => by cases ha; exact fun e => hF1 ((show g1 = b from e) ▸ hb)⟩, fun _ h => h.elim, fun _ _ h => h⟩
def GoodP (pre : List (Nat × ByteArray)) : Prop := ∀ q ∈ pre, q.2.size ≤ 140737488351232
def NestI (w : World) (Fx : Nat → Prop) (x : VT) (pre : List (Nat × ByteArray)) (W : World) : Prop :=
  (∃ (A : Option Addr) (c : Nat) (A' : Option Addr) (c' : Nat) (F : Nat → Prop), Box W w.heap.size (.int .i64 (nestR pre x).kind) (.int .i64 (nestR pre x).num) (.string (nestR pre x).text) (.slice A (nestR pre x).items.length c) (.slice A' (nestR pre x).names.length c') ∧
    (GoodP pre → OV W F (nestR pre x) (.agg #[.int .i64 (nestR pre x).kind, .int .i64 (nestR pre x).num, .string (nestR pre x).text, .slice A (nestR pre x).items.length c, .slice A' (nestR pre x).names.length c'])) ∧
    (∀ b, F b → isC W b ∧ (Fx b ∨ w.heap.size + 3 ≤ b))) ∧
  Box W (w.heap.size + 1) (.int .i64 0) (.int .i64 0) (.string ⟨#[]⟩) (.slice none 0 0) (.slice none 0 0) ∧ w.heap.size + 3 ≤ W.heap.size ∧ Below w.heap.size w W
theorem nestI_own (w : World) (Fx : Nat → Prop) (x : VT) (B : Nat) (hB : w.heap.size ≤ B) : OwnFrom B (NestI w Fx x) := by
  rintro pre W W' row ⟨⟨A, c, A', c', F, h1, h2, h3⟩, h4, h5, h6⟩ hg hr
  have hk : ∀ {k : Nat} {o : Obj}, W.heap[k]? = some o → o.isCells = true → W'.heap[k]? = W.heap[k]? := fun hk hc => grownBy_keeps_cells hg (fun r e => (hr r e).2) hk hc
  have hkF : ∀ b, F b → W'.heap[b]? = W.heap[b]? := fun b hb => by
    obtain ⟨⟨C, ty, fz, hC⟩, -⟩ := h3 b hb
    exact hk hC rfl
  refine ⟨⟨A, c, A', c', F, (hk h1 rfl).trans h1, fun hp => (h2 hp).keep hkF, fun b hb => ⟨?_, (h3 b hb).2⟩⟩, (hk h4 rfl).trans h4, Nat.le_trans h5 hg.size, h6.grown hg h6.size (fun k e => Nat.le_trans hB (hr k e).1)⟩
  obtain ⟨⟨C, ty, fz, hC⟩, -⟩ := h3 b hb
  exact ⟨C, ty, fz, (hk hC rfl).trans hC⟩
theorem nestI_next {w W : World} {Fx : Nat → Prop} {x : VT} {pre : List (Nat × ByteArray)} {q : Nat × ByteArray} (hFx : ∀ b, Fx b → b < w.heap.size) {A : Option Addr} {c : Nat} {A' : Option Addr} {c' : Nat} {F : Nat → Prop}
    (h1 : Box W w.heap.size (.int .i64 (nestR pre x).kind) (.int .i64 (nestR pre x).num) (.string (nestR pre x).text) (.slice A (nestR pre x).items.length c) (.slice A' (nestR pre x).names.length c'))
    (h2 : GoodP pre → OV W F (nestR pre x) (.agg #[.int .i64 (nestR pre x).kind, .int .i64 (nestR pre x).num, .string (nestR pre x).text, .slice A (nestR pre x).items.length c, .slice A' (nestR pre x).names.length c']))
    (h3 : ∀ b, F b → isC W b ∧ (Fx b ∨ w.heap.size + 3 ≤ b)) (h4 : Box W (w.heap.size + 1) (.int .i64 0) (.int .i64 0) (.string ⟨#[]⟩) (.slice none 0 0) (.slice none 0 0)) (h5 : w.heap.size + 3 ≤ W.heap.size) (h6 : Below w.heap.size w W) :
    KeepsOthers W (((five W w.heap.size 0 (.int .i64 7) (.int .i64 0) (.string ⟨#[]⟩) (.slice (some ⟨W.heap.size + 1, 0, none⟩) 1 1) (.slice (some ⟨W.heap.size, 0, none⟩) 1 1)).alloc (.cells #[.string q.2] 9)).alloc (.cells #[.int .i64 (nestR pre x).kind, .int .i64 (nestR pre x).num, .string (nestR pre x).text, .slice A (nestR pre x).items.length c, .slice A' (nestR pre x).names.length c'] 29)) ∧
    KpB w.heap.size (w.heap.size + 3) W (((five W w.heap.size 0 (.int .i64 7) (.int .i64 0) (.string ⟨#[]⟩) (.slice (some ⟨W.heap.size + 1, 0, none⟩) 1 1) (.slice (some ⟨W.heap.size, 0, none⟩) 1 1)).alloc (.cells #[.string q.2] 9)).alloc (.cells #[.int .i64 (nestR pre x).kind, .int .i64 (nestR pre x).num, .string (nestR pre x).text, .slice A (nestR pre x).items.length c, .slice A' (nestR pre x).names.length c'] 29)) ∧
    NestI w Fx x (pre ++ [q]) (((five W w.heap.size 0 (.int .i64 7) (.int .i64 0) (.string ⟨#[]⟩) (.slice (some ⟨W.heap.size + 1, 0, none⟩) 1 1) (.slice (some ⟨W.heap.size, 0, none⟩) 1 1)).alloc (.cells #[.string q.2] 9)).alloc (.cells #[.int .i64 (nestR pre x).kind, .int .i64 (nestR pre x).num, .string (nestR pre x).text, .slice A (nestR pre x).items.length c, .slice A' (nestR pre x).names.length c'] 29)) := by
  have hbox := five_box (c0 := .int .i64 7) (c1 := .int .i64 0) (c2 := .string ⟨#[]⟩) (c3 := .slice (some ⟨W.heap.size + 1, 0, none⟩) 1 1) (c4 := .slice (some ⟨W.heap.size, 0, none⟩) 1 1) h1
  have ho := five_other W w.heap.size 0 (.int .i64 7) (.int .i64 0) (.string ⟨#[]⟩) (.slice (some ⟨W.heap.size + 1, 0, none⟩) 1 1) (.slice (some ⟨W.heap.size, 0, none⟩) 1 1)
  have hz := five_size W w.heap.size 0 (.int .i64 7) (.int .i64 0) (.string ⟨#[]⟩) (.slice (some ⟨W.heap.size + 1, 0, none⟩) 1 1) (.slice (some ⟨W.heap.size, 0, none⟩) 1 1)
  have hr := five_rest W w.heap.size 0 (.int .i64 7) (.int .i64 0) (.string ⟨#[]⟩) (.slice (some ⟨W.heap.size + 1, 0, none⟩) 1 1) (.slice (some ⟨W.heap.size, 0, none⟩) 1 1)
  have hko : KeepsOthers W (five W w.heap.size 0 (.int .i64 7) (.int .i64 0) (.string ⟨#[]⟩) (.slice (some ⟨W.heap.size + 1, 0, none⟩) 1 1) (.slice (some ⟨W.heap.size, 0, none⟩) 1 1)) :=
    ((((KeepsOthers.setCell _ _ _).trans (KeepsOthers.setCell _ _ _)).trans (KeepsOthers.setCell _ _ _)).trans (KeepsOthers.setCell _ _ _)).trans (KeepsOthers.setCell _ _ _)
  generalize five W w.heap.size 0 (.int .i64 7) (.int .i64 0) (.string ⟨#[]⟩) (.slice (some ⟨W.heap.size + 1, 0, none⟩) 1 1) (.slice (some ⟨W.heap.size, 0, none⟩) 1 1) = W1 at *
  have hz1 : (W1.alloc (.cells #[.string q.2] 9)).heap.size = W.heap.size + 1 := by simp [hz]
  have hb : Below W.heap.size W1 ((W1.alloc (.cells #[.string q.2] 9)).alloc (.cells #[.int .i64 (nestR pre x).kind, .int .i64 (nestR pre x).num, .string (nestR pre x).text, .slice A (nestR pre x).items.length c, .slice A' (nestR pre x).names.length c'] 29)) := ((Below.refl _ _).alloc (by omega) _).alloc (by omega) _
  have hn1 : ((W1.alloc (.cells #[.string q.2] 9)).alloc (.cells #[.int .i64 (nestR pre x).kind, .int .i64 (nestR pre x).num, .string (nestR pre x).text, .slice A (nestR pre x).items.length c, .slice A' (nestR pre x).names.length c'] 29)).heap[W.heap.size]? = some (.cells #[.string q.2] 9 (0, 0)) := (Below.heap_alloc _ _ _ (by omega)).trans (by rw [← hz]; exact heap_alloc_new _ _)
  have hn2 : ((W1.alloc (.cells #[.string q.2] 9)).alloc (.cells #[.int .i64 (nestR pre x).kind, .int .i64 (nestR pre x).num, .string (nestR pre x).text, .slice A (nestR pre x).items.length c, .slice A' (nestR pre x).names.length c'] 29)).heap[W.heap.size + 1]? = some (.cells #[.int .i64 (nestR pre x).kind, .int .i64 (nestR pre x).num, .string (nestR pre x).text, .slice A (nestR pre x).items.length c, .slice A' (nestR pre x).names.length c'] 29 (0, 0)) := by
    rw [← hz1]; exact heap_alloc_new _ _
  have hz2 : ((W1.alloc (.cells #[.string q.2] 9)).alloc (.cells #[.int .i64 (nestR pre x).kind, .int .i64 (nestR pre x).num, .string (nestR pre x).text, .slice A (nestR pre x).items.length c, .slice A' (nestR pre x).names.length c'] 29)).heap.size = W.heap.size + 2 := by simp [hz]
  have hko2 : KeepsOthers W ((W1.alloc (.cells #[.string q.2] 9)).alloc (.cells #[.int .i64 (nestR pre x).kind, .int .i64 (nestR pre x).num, .string (nestR pre x).text, .slice A (nestR pre x).items.length c, .slice A' (nestR pre x).names.length c'] 29)) := (hko.trans (KeepsOthers.alloc _ _)).trans (KeepsOthers.alloc _ _)
  generalize (W1.alloc (.cells #[.string q.2] 9)).alloc (.cells #[.int .i64 (nestR pre x).kind, .int .i64 (nestR pre x).num, .string (nestR pre x).text, .slice A (nestR pre x).items.length c, .slice A' (nestR pre x).names.length c'] 29) = W3 at *
  have hlt : ∀ b, F b → b < W.heap.size := fun b hb' => by
    obtain ⟨⟨C, ty, fz, hC⟩, -⟩ := h3 b hb'
    exact (Array.getElem?_eq_some_iff.1 hC).1
  have hnb : ∀ b, F b → b ≠ w.heap.size := fun b hb' e => by
    rcases (h3 b hb').2 with h | h
    · have := hFx b h; omega
    · omega
  have hall : ∀ b, b < W.heap.size → b ≠ w.heap.size → W3.heap[b]? = W.heap[b]? := fun b hb' hne => (hb.block b hb').trans (ho b hne)
  have hkF : ∀ b, F b → W3.heap[b]? = W.heap[b]? := fun b hb' => hall b (hlt b hb') (hnb b hb')
  refine ⟨hko2, ⟨by omega, fun b hb' hne => hall b (by omega) hne⟩, ⟨?_, (hall _ (by omega) (by omega)).trans h4, by omega, ⟨hb.os.trans (hr.1.trans h6.os), hb.tape.trans (hr.2.1.trans h6.tape), hb.output.trans (hr.2.2.trans h6.output), by have := h6.size; omega, fun b hb' => (hall b (by omega) (by omega)).trans (h6.block b hb')⟩⟩⟩
  rw [nestR_snoc]
  refine ⟨some ⟨W.heap.size + 1, 0, none⟩, 1, some ⟨W.heap.size, 0, none⟩, 1, fun b => F b ∨ b = W.heap.size ∨ b = W.heap.size + 1, (hb.block _ (by omega)).trans hbox, fun hp => ?_, ?_⟩
  · exact one_ov (s := q.2) (g1 := W.heap.size) (g2 := W.heap.size + 1) ((h2 fun y hy => hp y (List.mem_append.2 (.inl hy))).keep hkF) (hp q (List.mem_append.2 (.inr (List.mem_singleton.2 rfl)))) hn1 hn2 (fun e => by have := hlt _ e; omega) (fun e => by have := hlt _ e; omega) (by omega)
  rintro b (hb' | rfl | rfl)
  · obtain ⟨⟨C, ty, fz, hC⟩, hx⟩ := h3 b hb'
    exact ⟨⟨C, ty, fz, (hkF b hb').trans hC⟩, hx⟩
  · exact ⟨⟨_, _, _, hn1⟩, .inr (by omega)⟩
  · exact ⟨⟨_, _, _, hn2⟩, .inr (by omega)⟩
set_option maxRecDepth 100000 in
set_option maxHeartbeats 4000000 in
theorem nest_any (S Fx : Nat → Prop) (x : VT) (A0 : Option Addr) (c0 : Nat) (A0' : Option Addr) (c0' : Nat) (A : Option Addr) (c : Nat) (p : List ByteArray) (w : World) (hS : ∀ b, S b → b < w.heap.size) (hFx : ∀ b, Fx b → b < w.heap.size)
    (hx : OV w Fx x (.agg #[.int .i64 x.kind, .int .i64 x.num, .string x.text, .slice A0 x.items.length c0, .slice A0' x.names.length c0'])) (hp : StrsAt w S A p) (hn : p.length ≤ 9223372036854775807) (hsz : ∀ s ∈ p, s.size ≤ 140737488351232) :
    Calls Tryz.prog 157 #[.slice A p.length c, .agg #[.int .i64 x.kind, .int .i64 x.num, .string x.text, .slice A0 x.items.length c0, .slice A0' x.names.length c0']] w fun e w' => ∃ v F', e = .returned v ∧ OV w' F' (nestT p x) v ∧ (∀ b, F' b → b < w'.heap.size ∧ (Fx b ∨ w.heap.size ≤ b)) ∧ Below w.heap.size w w' := by
  have hB1 : Below w.heap.size w (w.alloc (.cells #[.int .i64 x.kind, .int .i64 x.num, .string x.text, .slice A0 x.items.length c0, .slice A0' x.names.length c0'] 29)) := below_box _
  have hX1 : Box (w.alloc (.cells #[.int .i64 x.kind, .int .i64 x.num, .string x.text, .slice A0 x.items.length c0, .slice A0' x.names.length c0'] 29)) w.heap.size _ _ _ _ _ := Box.new (w := w) (.int .i64 x.kind) (.int .i64 x.num) (.string x.text) (.slice A0 x.items.length c0) (.slice A0' x.names.length c0')
  refine (callsIn_wide (n := 8)).1 ?_
  refine callsIn_of_wp_marks Tryz.func157 rfl trivial ?_ rfl
  simp only [Tryz.ntmps157, List.size_toArray, List.length_cons, List.length_nil, Nat.reduceAdd, Nat.reduceSub, Array.replicate_succ, Array.replicate_zero, List.push_toArray, List.append_toArray, List.nil_append, List.cons_append]
  gi_wp2
  refine ⟨trivial, ?_⟩
  refine (back_in Fence.wide 7 trivial rfl _ _ _ _).mono ?_
  rintro e w' ⟨rfl, rfl⟩
  gi_wp2
  have hz1 : (w.alloc (.cells #[.int .i64 x.kind, .int .i64 x.num, .string x.text, .slice A0 x.items.length c0, .slice A0' x.names.length c0'] 29)).heap.size = w.heap.size + 1 := by simp
  generalize w.alloc (.cells #[.int .i64 x.kind, .int .i64 x.num, .string x.text, .slice A0 x.items.length c0, .slice A0' x.names.length c0'] 29) = w1 at *
  have hR2 : Box (w1.alloc (.cells #[.int .i64 0, .int .i64 0, .string ⟨#[]⟩, .slice none 0 0, .slice none 0 0] 29)) (w.heap.size + 1) (.int .i64 0) (.int .i64 0) (.string ⟨#[]⟩) (.slice none 0 0) (.slice none 0 0) := by
    have h := Box.new (w := w1) (.int .i64 0) (.int .i64 0) (.string ⟨#[]⟩) (.slice none 0 0) (.slice none 0 0)
    rw [hz1] at h
    exact h
  have hX2 := hX1.alloc (.cells #[.int .i64 0, .int .i64 0, .string ⟨#[]⟩, .slice none 0 0, .slice none 0 0] 29)
  have hB2 : Below w.heap.size w (w1.alloc (.cells #[.int .i64 0, .int .i64 0, .string ⟨#[]⟩, .slice none 0 0, .slice none 0 0] 29)) := hB1.alloc (by omega) _
  have hz2 : (w1.alloc (.cells #[.int .i64 0, .int .i64 0, .string ⟨#[]⟩, .slice none 0 0, .slice none 0 0] 29)).heap.size = w.heap.size + 2 := by simp [hz1]
  generalize w1.alloc (.cells #[.int .i64 0, .int .i64 0, .string ⟨#[]⟩, .slice none 0 0, .slice none 0 0] 29) = w2 at *
  have hR3 := hR2.alloc (.cells #[.slice A p.length c] 23)
  have hX3 := hX2.alloc (.cells #[.slice A p.length c] 23)
  have hB3 : Below w.heap.size w (w2.alloc (.cells #[.slice A p.length c] 23)) := hB2.alloc (by omega) _
  have hz3 : (w2.alloc (.cells #[.slice A p.length c] 23)).heap.size = w.heap.size + 3 := by simp [hz2]
  have hs3 : (w2.alloc (.cells #[.slice A p.length c] 23)).cell? ⟨w.heap.size + 2, 0, none⟩ = some (.slice A p.length c) := by
    have := Go.Joins.cell_of_block (heap_alloc_new w2 (.cells #[.slice A p.length c] 23)) 0
    rw [hz2] at this
    exact this
  generalize w2.alloc (.cells #[.slice A p.length c] 23) = w3 at *
  have h0 : NestI w Fx x [] w3 := ⟨⟨A0, c0, A0', c0', _, hX3, fun _ => (hx.keep fun b hb => hB3.block b (hFx b hb)).cells, fun b hb => ⟨hb.2, .inl hb.1⟩⟩, hR3, by omega, hB3⟩
  have hst3 := hp.keep (w' := w3) fun b hb => hB3.block b (hS b hb)
  clear hR2 hX2 hB2 hX1 hB1 hX3 hR3 hx hp
  refine wpIn_rangeFunc_ownF rfl (by omega) (gf := 174) (lb := #[.pointer (some ⟨w.heap.size + 2, 0, none⟩)]) rfl trivial (enters_of Tryz.func174 (by kernel_rfl) rfl)
    (back_stops Fence.wide 7 trivial rfl (by omega) (w.heap.size + 2) w.heap.size (w.heap.size + 3) S A c p hn ⟨by omega, by omega⟩ (fun b hb => by have := hS b hb; omega) w3 (by omega) hs3 hst3) KpB.trans (kpB_b (by omega)) (Below.refl _ _) (fun _ => rfl)
    (NestI w Fx x) (fun _ _ _ => False) (nestI_own w Fx x _ (by omega)) (fun _ _ _ _ _ hs _ _ => hs) h0
    (fun q => { tmps := #[.slice A p.length c, .agg #[.int .i64 x.kind, .int .i64 x.num, .string x.text, .slice A0 x.items.length c0, .slice A0' x.names.length c0'], undef, .pointer (some ⟨w.heap.size, 0, none⟩), .pointer (some ⟨w.heap.size + 1, 0, none⟩), undef, .string q.2, .slice A p.length c, .func (.func 174) #[] #[.pointer (some ⟨w.heap.size + 1 + 1, 0, none⟩)], .int .i64 (q.1 : Int), .string q.2, undef, undef, undef, undef, undef, undef], defers := [] }) ?assign ?body ?done ?stop
  case assign =>
    intro l q W K hK
    gi_wp2
    exact hK
  case body =>
    rintro l pre q W ⟨⟨B, k, B', k', F, i1, i2, i3⟩, i4, i5, i6⟩ hlen
    have y0 := i1.c0
    have y1 := i1.c1
    have y2 := i1.c2
    have y3 := i1.c3
    have y4 := i1.c4
    have yf := fun i => i1.free i
    have hlt := i1.lt
    have j1 := i1.alloc (.cells #[.string q.2] 9)
    have z0 := j1.c0
    have z1 := j1.c1
    have z2 := j1.c2
    have z3 := j1.c3
    have z4 := j1.c4
    have k1 := j1.alloc (.cells #[.int .i64 (nestR pre x).kind, .int .i64 (nestR pre x).num, .string (nestR pre x).text, .slice B (nestR pre x).items.length k, .slice B' (nestR pre x).names.length k'] 29)
    have u0 := k1.c0
    have u1 := k1.c1
    have u2 := k1.c2
    have u3 := k1.c3
    have u4 := k1.c4
    have uf := fun i => k1.free i
    have HN := Lib.hid (nestI_next (q := q) hFx i1 i2 i3 i4 i5 i6)
    clear i1 i2 i3 i4 i6 j1 k1
    gi_wp2
    exact HN.out
  case done =>
    rintro D ys W hD rfl ⟨⟨B, k, B', k', F, i1, i2, i3⟩, i4, i5, i6⟩ hK
    have hgood : GoodP (upB p p.length) := by
      intro q hq
      have h1 : q.2 ∈ (upB p p.length).map Prod.snd := List.mem_map.2 ⟨q, hq, rfl⟩
      rw [upB_snd] at h1
      exact hsz _ (List.mem_reverse.1 h1)
    have hv := i2 hgood
    rw [nestR_all] at i1 hv
    have HB := Lib.hid (five_box (c0 := .int .i64 (nestT p x).kind) (c1 := .int .i64 (nestT p x).num) (c2 := .string (nestT p x).text) (c3 := .slice B (nestT p x).items.length k) (c4 := .slice B' (nestT p x).names.length k') i4)
    have y0 := i1.c0
    have y1 := i1.c1
    have y2 := i1.c2
    have y3 := i1.c3
    have y4 := i1.c4
    have r0 := i4.c0
    have r1 := i4.c1
    have r2 := i4.c2
    have r3 := i4.c3
    have r4 := i4.c4
    have rf := fun i => i4.free i
    have HV := Lib.hid (And.intro hv (And.intro i3 i6))
    have hDl : D < W.heap.size := (Array.getElem?_eq_some_iff.1 hK).1
    have HKD := Lib.hid hK
    clear i1 i2 i3 i4 i6 hv hK hgood
    gi_wp2
    change bodyPostM Fence.wide 8 Tryz.prog Tryz.f157 _ Exit.ret _ (five W (w.heap.size + 1) 0 (.int .i64 (nestT p x).kind) (.int .i64 (nestT p x).num) (.string (nestT p x).text) (.slice B (nestT p x).items.length k) (.slice B' (nestT p x).names.length k'))
    obtain ⟨hv, i3, i6⟩ := HV.out
    have ho := five_other W (w.heap.size + 1) 0 (.int .i64 (nestT p x).kind) (.int .i64 (nestT p x).num) (.string (nestT p x).text) (.slice B (nestT p x).items.length k) (.slice B' (nestT p x).names.length k')
    have hz := five_size W (w.heap.size + 1) 0 (.int .i64 (nestT p x).kind) (.int .i64 (nestT p x).num) (.string (nestT p x).text) (.slice B (nestT p x).items.length k) (.slice B' (nestT p x).names.length k')
    have hr := five_rest W (w.heap.size + 1) 0 (.int .i64 (nestT p x).kind) (.int .i64 (nestT p x).num) (.string (nestT p x).text) (.slice B (nestT p x).items.length k) (.slice B' (nestT p x).names.length k')
    have hbox := HB.out
    generalize five W (w.heap.size + 1) 0 (.int .i64 (nestT p x).kind) (.int .i64 (nestT p x).num) (.string (nestT p x).text) (.slice B (nestT p x).items.length k) (.slice B' (nestT p x).names.length k') = W5 at *
    have hK5 : W5.heap[D]? = some (.deferred (some [])) := (ho D (by omega)).trans HKD.out
    have hg6 := grownBy_putObj' W5 D (.deferred none)
    have ho6 : ∀ b, b < W5.heap.size → b ≠ D → (W5.putObj D (.deferred none)).heap[b]? = W5.heap[b]? := fun b hb hne => hg6.block b hb (fun e => hne (by injection e))
    have hbox6 : Box (W5.putObj D (.deferred none)) (w.heap.size + 1) _ _ _ _ _ := (ho6 _ (by omega) (by omega)).trans hbox
    have hlt : ∀ b, F b → b < W.heap.size := fun b hb' => by
      obtain ⟨⟨C, ty, fz, hC⟩, -⟩ := i3 b hb'
      exact (Array.getElem?_eq_some_iff.1 hC).1
    have hnD : ∀ b, F b → b ≠ D := fun b hb' e => by
      obtain ⟨⟨C, ty, fz, hC⟩, -⟩ := i3 b hb'
      subst e
      rw [HKD.out] at hC
      cases hC
    refine ⟨by simp, .inl ⟨_, _, rfl, run_takeDeferred hK5, ?_⟩⟩
    refine ⟨_, results_cell_row rfl _ _ (w.heap.size + 1) 29 _ (0, 0) _ rfl hbox6 Tryz.underlying29 rfl (by kernel_rfl), _, F, rfl, hv.keep fun b hb => (ho6 b (by rw [hz]; exact hlt b hb) (hnD b hb)).trans (ho b fun e => ?_), fun b hb => ⟨Nat.lt_of_lt_of_le (hlt b hb) (by rw [← hz]; exact hg6.size), (i3 b hb).2.imp id fun h => by omega⟩, ?_⟩
    · rcases (i3 b hb).2 with h | h
      · have := hFx b h; omega
      · omega
    · exact ⟨hg6.os.trans (hr.1.trans i6.os), hg6.tape.trans (hr.2.1.trans i6.tape), hg6.output.trans (hr.2.2.trans i6.output), Nat.le_trans i6.size (by rw [← hz]; exact hg6.size), fun b hb => (ho6 b (by have := i6.size; omega) (by omega)).trans ((ho b (by omega)).trans (i6.block b hb))⟩
  case stop =>
    rintro D c' pre W _ _ h _
    exact h.elim
end Go.Proofs.YtnamdlljdgllmaaGreat
