/- What drop and cut do at the end of a path; the program's Drop and Cut. -/
import Derived.Test.YtlddhpjokiphfaaKTrU
namespace Go.Proofs.Ytlddhpjokiphfaa
set_option linter.unusedVariables false
set_option linter.unusedSimpArgs false
open Go.RowKit
theorem enters_dropc : Enters 42 := fun _ _ => by simp [callFunc, go_sem, Try.func42, Try.f42]
theorem enters_cutc : Enters 44 := fun _ _ => by simp [callFunc, go_sem, Try.func44, Try.f44]
def dropFin (t : VT) : List ByteArray → Int × VT
  | [] => (0, t)
  | s :: _ => (0, if placeT t s < 0 then t else if t.kind = 7 then remT t (placeT t s).toNat else setT t (placeT t s).toNat nullT)
def cutFin (n : Int) (t : VT) : List ByteArray → Int × VT
  | [] => (0, t)
  | s :: _ => if n < 0 then (1, t) else (0, if placeT t s < 0 then t else match t.items[(placeT t s).toNat]? with
    | none => t
    | some x => setT t (placeT t s).toNat (cutV x n))
theorem dropFin_cons (t : VT) (s : ByteArray) (r : List ByteArray) : dropFin t (s :: r) = (0, if placeT t s < 0 then t else if t.kind = 7 then remT t (placeT t s).toNat else setT t (placeT t s).toNat nullT) := rfl
theorem cutFin_cons (n : Int) (t : VT) (s : ByteArray) (r : List ByteArray) : cutFin n t (s :: r) = if n < 0 then ((1 : Int), t) else ((0 : Int), if placeT t s < 0 then t else match t.items[(placeT t s).toNat]? with
    | none => t
    | some x => setT t (placeT t s).toNat (cutV x n)) := rfl
theorem may_nl_eq {t : VT} (h : mayT t = true) (hk : t.kind = 7) : t.names.length = t.items.length := by
  cases t with
  | mk k i s l ns => exact (may_names h).1 hk
set_option maxHeartbeats 2000000 in
set_option maxRecDepth 100000 in
theorem dropc_any (t : VT) (g o : Nat) (A : Option Addr) (c : Nat) (s : ByteArray) (r : List ByteArray) (F : Nat → Prop) (w : World) (h : OAt w F t g o) (hm : mayT t = true) :
    Calls Try.prog 42 #[.agg #[.pointer (some ⟨g, o, none⟩), .int .i64 (placeT t s), .slice A (r.length + 1) c]] w (DidAt F g o w (dropFin t (s :: r))) := by
  obtain ⟨P, hP⟩ : ∃ P, P = placeT t s := ⟨_, rfl⟩
  rw [← hP]
  have hge : -1 ≤ P := by rw [hP]; exact placeT_ge t s
  have hb1 : Below w.heap.size w (w.alloc (.cells #[.pointer (some ⟨g, o, none⟩), .int .i64 P, .slice A (r.length + 1) c] 51)) := below_box _
  have H1 := h.keep hb1
  have hcall : Calls Try.prog 43 #[.agg #[.pointer (some ⟨g, o, none⟩), .int .i64 P, .slice A (r.length + 1) c]] (w.alloc (.cells #[.pointer (some ⟨g, o, none⟩), .int .i64 P, .slice A (r.length + 1) c] 51)) fun e w' => e = .returned (.tuple #[]) ∧ DidAt F g o w (dropFin t (s :: r)) (.returned (.int .i64 0)) w' := by
    by_cases hneg : P < 0
    · refine (tdrop_none F t g o P hneg _ _ H1).mono ?_
      rintro e w' ⟨rfl, hd⟩
      refine ⟨rfl, DidAt.from ⟨rfl, ?_⟩ hb1 h.lt⟩
      rw [dropFin_cons]
      rw [← hP, if_pos hneg]
      exact hd
    obtain ⟨j, rfl⟩ : ∃ j : Nat, P = j := ⟨P.toNat, by omega⟩
    have hj : j < t.items.length := by
      have := placeT_lt (may_nl hm) (s := s) (by rw [← hP]; omega)
      rw [← hP] at this
      simpa using this
    by_cases hk : t.kind = 7
    · refine (tdrop_doc F t g o j hj hk (may_nl_eq hm hk) _ _ H1).mono ?_
      rintro e w' ⟨rfl, hd⟩
      refine ⟨rfl, DidAt.from ⟨rfl, ?_⟩ hb1 h.lt⟩
      rw [dropFin_cons]
      rw [← hP, if_neg hneg, if_pos hk]
      exact hd
    · refine (tdrop_item F t g o j hj hk _ _ H1).mono ?_
      rintro e w' ⟨rfl, hd⟩
      refine ⟨rfl, DidAt.from ⟨rfl, ?_⟩ hb1 h.lt⟩
      rw [dropFin_cons]
      rw [← hP, if_neg hneg, if_neg hk]
      exact hd
  have HC := Lib.hid hcall
  clear hcall H1 hb1 h hP hm hge
  go_enter Try.func42, Try.ntmps42
  go_wp2_with fail
  refine HC.out.mono ?_
  rintro e w2 ⟨rfl, hd⟩
  have HD := Lib.hid hd
  clear hd HC
  go_wp2_with fail
  go_ret
  exact HD.out
set_option maxHeartbeats 2000000 in
set_option maxRecDepth 100000 in
theorem cutc_any (n : Int) (hn : -9223372036854775808 ≤ n ∧ n ≤ 9223372036854775807) (bx : Nat) (t : VT) (g o : Nat) (A : Option Addr) (c : Nat) (s : ByteArray) (r : List ByteArray) (F : Nat → Prop) (w : World) (h : OAt w F t g o) (hm : mayT t = true) (hx : w.heap[bx]? = some (.cells #[.int .i64 n] 3 (0, 0))) :
    Calls Try.prog 44 #[.agg #[.pointer (some ⟨g, o, none⟩), .int .i64 (placeT t s), .slice A (r.length + 1) c], .pointer (some ⟨bx, 0, none⟩)] w (DidAt F g o w (cutFin n t (s :: r))) := by
  obtain ⟨P, hP⟩ : ∃ P, P = placeT t s := ⟨_, rfl⟩
  rw [← hP]
  have hge : -1 ≤ P := by rw [hP]; exact placeT_ge t s
  have hb1 : Below w.heap.size w (w.alloc (.cells #[.pointer (some ⟨g, o, none⟩), .int .i64 P, .slice A (r.length + 1) c] 51)) := below_box _
  have H1 := h.keep hb1
  have hbx : bx < w.heap.size := (Array.getElem?_eq_some_iff.1 hx).1
  have x0 : w.cell? ⟨bx, 0, none⟩ = some (.int .i64 n) := Go.Joins.cell_of_block hx 0
  by_cases hn0 : n < 0
  · have hnb : decide (n < 0) = true := decide_eq_true hn0
    have hd : DidAt F g o w (cutFin n t (s :: r)) (.returned (.int .i64 1)) (w.alloc (.cells #[.pointer (some ⟨g, o, none⟩), .int .i64 P, .slice A (r.length + 1) c] 51)) := by
      have e : cutFin n t (s :: r) = (1, t) := by rw [cutFin_cons, if_pos hn0]
      rw [e]
      exact ⟨rfl, h.still hb1⟩
    have HD := Lib.hid hd
    clear hd H1 hb1 h hP hm hge hx
    go_enter Try.func44, Try.ntmps44
    go_wp2_with fail
    go_ret
    exact HD.out
  have hnb : decide (n < 0) = false := decide_eq_false hn0
  obtain ⟨m, rfl⟩ : ∃ m : Nat, n = m := ⟨n.toNat, by omega⟩
  have hcall : Calls Try.prog 45 #[.agg #[.pointer (some ⟨g, o, none⟩), .int .i64 P, .slice A (r.length + 1) c], .int .i64 m] (w.alloc (.cells #[.pointer (some ⟨g, o, none⟩), .int .i64 P, .slice A (r.length + 1) c] 51)) fun e w' => e = .returned (.tuple #[]) ∧ DidAt F g o w (cutFin m t (s :: r)) (.returned (.int .i64 0)) w' := by
    by_cases hneg : P < 0
    · refine (tcut_none F t g o P hneg _ _ _ H1).mono ?_
      rintro e w' ⟨rfl, hd⟩
      refine ⟨rfl, DidAt.from (res := cutFin m t (s :: r)) ?_ hb1 h.lt⟩
      rw [cutFin_cons]
      rw [← hP, if_neg hn0, if_pos hneg]
      exact ⟨rfl, hd⟩
    obtain ⟨j, rfl⟩ : ∃ j : Nat, P = j := ⟨P.toNat, by omega⟩
    have hj : j < t.items.length := by
      have := placeT_lt (may_nl hm) (s := s) (by rw [← hP]; omega)
      rw [← hP] at this
      simpa using this
    refine (tcut_item F t g o j hj _ m (by omega) _ H1).mono ?_
    rintro e w' ⟨rfl, hd⟩
    refine ⟨rfl, DidAt.from (res := cutFin m t (s :: r)) ?_ hb1 h.lt⟩
    have e : cutFin m t (s :: r) = (0, setT t j (cutV t.items[j] m)) := by
      rw [cutFin_cons]
      rw [← hP, if_neg hn0, if_neg hneg, Int.toNat_natCast, List.getElem?_eq_getElem hj]
    rw [e]
    exact ⟨rfl, hd⟩
  have HC := Lib.hid hcall
  clear hcall H1 hb1 h hP hm hge hx
  go_enter Try.func44, Try.ntmps44
  go_wp2_with fail
  refine HC.out.mono ?_
  rintro e w2 ⟨rfl, hd⟩
  have HD := Lib.hid hd
  clear hd HC
  go_wp2_with fail
  go_ret
  exact HD.out
end Go.Proofs.Ytlddhpjokiphfaa

/- The program's Drop and Cut. -/
namespace Go.Proofs.Ytlddhpjokiphfaa
set_option linter.unusedVariables false
set_option linter.unusedSimpArgs false
open Go.RowKit
theorem change_endq {w w5 : World} {res : Int × VT} {u : VT} {x : Int} {c0 c1 c2 c3 c4 : Value} (q : Nat) (hb : Below w.heap.size w w5) (hv : LV w5 (Iv (w.heap.size + q + 1) w5.heap.size) u (.agg #[c0, c1, c2, c3, c4])) (hr : res = (x, u)) :
    ChangeR res w (.returned (.tuple #[.agg #[c0, c1, c2, c3, c4], .int .i64 x])) (five w5 (w.heap.size + q) 0 c0 c1 c2 c3 c4) := by
  have hr5 := five_rest w5 (w.heap.size + q) 0 c0 c1 c2 c3 c4
  have hk := five_other w5 (w.heap.size + q) 0 c0 c1 c2 c3 c4
  have hz := five_size w5 (w.heap.size + q) 0 c0 c1 c2 c3 c4
  subst hr
  exact ⟨_, rfl, (hv.keep fun b hb' => hk b (by have := hb'.1; omega)).imp fun b hb' => ⟨by have := hb'.1; omega, by rw [hz]; exact hb'.2⟩,
    ⟨hr5.1.trans hb.os, hr5.2.1.trans hb.tape, hr5.2.2.trans hb.output, by rw [hz]; exact hb.size, fun b hb' => (hk b (by omega)).trans (hb.block b hb')⟩⟩
set_option maxHeartbeats 4000000 in
set_option maxRecDepth 100000 in
theorem tdropT_any (S : Nat → Prop) (t : VT) (v : Value) (A : Option Addr) (c : Nat) (p : List ByteArray) (w : World) (hS : ∀ b, S b → b < w.heap.size) (h : LV w S t v) (hd : depthT t ≤ 4611686018427387903) (hp : StrsAt w S A p) (hn : p.length ≤ 140737488351232) (hpc : p.length ≤ c) (h63 : c ≤ 9223372036854775807) :
    Calls Try.prog 22 #[v, .slice A p.length c] w (ChangeR (changeT dropFin t p) w) := by
  obtain ⟨A0, c0, A0', c0', rfl, -, -, -, v1, hb0⟩ := one_var hS h
  have HX := Lib.hid v1.x
  have HB := Lib.hid hb0
  have HV := Lib.hid h
  have HP := Lib.hid hp
  have HD := Lib.hid hd
  clear h v1 hb0 hd hp
  go_enter Try.func22, Try.ntmps22
  go_wp2_with fail
  have hz1 : (w.alloc (.cells #[.int .i64 t.kind, .int .i64 t.num, .string t.text, .slice A0 t.items.length c0, .slice A0' t.names.length c0'] 25)).heap.size = w.heap.size + 1 := by simp
  have hB0 : Below w.heap.size w ((w.alloc (.cells #[.int .i64 t.kind, .int .i64 t.num, .string t.text, .slice A0 t.items.length c0, .slice A0' t.names.length c0'] 25)).alloc (.cells #[.int .i64 0, .int .i64 0, .string ⟨#[]⟩, .slice none 0 0, .slice none 0 0] 25)) := HB.out.alloc (by omega) _
  have hX0 := HX.out.alloc (.cells #[.int .i64 0, .int .i64 0, .string ⟨#[]⟩, .slice none 0 0, .slice none 0 0] 25)
  have hR0 : Box ((w.alloc (.cells #[.int .i64 t.kind, .int .i64 t.num, .string t.text, .slice A0 t.items.length c0, .slice A0' t.names.length c0'] 25)).alloc (.cells #[.int .i64 0, .int .i64 0, .string ⟨#[]⟩, .slice none 0 0, .slice none 0 0] 25)) (w.heap.size + 1) (.int .i64 0) (.int .i64 0) (.string ⟨#[]⟩) (.slice none 0 0) (.slice none 0 0) := by
    have h := Box.new (w := w.alloc (.cells #[.int .i64 t.kind, .int .i64 t.num, .string t.text, .slice A0 t.items.length c0, .slice A0' t.names.length c0'] 25)) (.int .i64 0) (.int .i64 0) (.string ⟨#[]⟩) (.slice none 0 0) (.slice none 0 0)
    rw [hz1] at h
    exact h
  have hz2 : ((w.alloc (.cells #[.int .i64 t.kind, .int .i64 t.num, .string t.text, .slice A0 t.items.length c0, .slice A0' t.names.length c0'] 25)).alloc (.cells #[.int .i64 0, .int .i64 0, .string ⟨#[]⟩, .slice none 0 0, .slice none 0 0] 25)).heap.size = w.heap.size + 2 := by simp
  generalize (w.alloc (.cells #[.int .i64 t.kind, .int .i64 t.num, .string t.text, .slice A0 t.items.length c0, .slice A0' t.names.length c0'] 25)).alloc (.cells #[.int .i64 0, .int .i64 0, .string ⟨#[]⟩, .slice none 0 0, .slice none 0 0] 25) = w2 at *
  have q0 := hX0.c0
  have q1 := hX0.c1
  have q2 := hX0.c2
  have q3 := hX0.c3
  have q4 := hX0.c4
  have HB0 := Lib.hid hB0
  have HR0 := Lib.hid hR0
  have HC := Lib.hid (tchange_any 42 #[] dropFin S (fun _ => True) (fun _ => True) (fun _ _ _ _ => trivial) enters_dropc (fun _ _ _ _ => trivial) (fun w t g o A c s r F _ ho hm _ _ _ _ _ _ _ => dropc_any t g o A c s r F w ho hm) t _ A c p w2 trivial trivial (fun b hb => by have := hS b hb; omega) (HV.out.keep fun b hb => hB0.block b (hS b hb)) HD.out (HP.out.keep fun b hb => hB0.block b (hS b hb)) hn hpc h63)
  clear hB0 hX0 hR0 hz1 HB HX HV HP HD
  go_wp2_with fail
  refine HC.out.mono ?_
  rintro e w5 ⟨v', rfl, hv, hb5⟩
  obtain ⟨B, k, B', k', rfl, -⟩ := hv.shape
  have HB5 := Lib.hid (HB0.out.trans (hb5.mono (show w.heap.size ≤ w2.heap.size by omega)))
  have HR5 := Lib.hid (HR0.out.call hb5)
  have HV5 := Lib.hid (hv.imp (S' := Iv (w.heap.size + 1 + 1) w5.heap.size) fun b hb => ⟨by have := hb.1; omega, hb.2⟩)
  have rf := fun i => HR5.out.free i
  have r0 := HR5.out.c0
  have r1 := HR5.out.c1
  have r2 := HR5.out.c2
  have r3 := HR5.out.c3
  have r4 := HR5.out.c4
  generalize hres : changeT dropFin t p = res at *
  obtain ⟨x, u⟩ := res
  simp only at *
  have HEND := Lib.hid (change_endq (res := (x, u)) 1 HB5.out HV5.out rfl)
  have HBOX := Lib.hid (five_box (c0 := .int .i64 u.kind) (c1 := .int .i64 u.num) (c2 := .string u.text) (c3 := .slice B u.items.length k) (c4 := .slice B' u.names.length k') HR5.out)
  clear hv hb5 HC HR0 HB0 HV5 HB5 hz2 hres q0 q1 q2 q3 q4
  go_wp2_with fail
  refine bodyPost_ret (results_cell_two rfl _ _ (w.heap.size + 1) 25 _ (0, 0) rfl HBOX.out (by kernel_rfl)) rfl ?_
  exact HEND.out
set_option maxHeartbeats 4000000 in
set_option maxRecDepth 100000 in
theorem tcutT_any (n : Int) (hn' : -9223372036854775808 ≤ n ∧ n ≤ 9223372036854775807) (S : Nat → Prop) (t : VT) (v : Value) (A : Option Addr) (c : Nat) (p : List ByteArray) (w : World) (hS : ∀ b, S b → b < w.heap.size) (h : LV w S t v) (hd : depthT t ≤ 4611686018427387903) (hp : StrsAt w S A p) (hn : p.length ≤ 140737488351232) (hpc : p.length ≤ c) (h63 : c ≤ 9223372036854775807) :
    Calls Try.prog 23 #[v, .slice A p.length c, .int .i64 n] w (ChangeR (changeT (cutFin n) t p) w) := by
  obtain ⟨A0, c0, A0', c0', rfl, -, -, -, v1, hb0⟩ := one_var hS h
  have HX := Lib.hid v1.x
  have HB := Lib.hid hb0
  have HV := Lib.hid h
  have HP := Lib.hid hp
  have HD := Lib.hid hd
  clear h v1 hb0 hd hp
  go_enter Try.func23, Try.ntmps23
  go_wp2_with fail
  generalize hE1 : w.alloc (.cells #[.int .i64 t.kind, .int .i64 t.num, .string t.text, .slice A0 t.items.length c0, .slice A0' t.names.length c0'] 25) = W1 at *
  have hz1 : W1.heap.size = w.heap.size + 1 := by rw [← hE1]; simp
  have hz2 : (W1.alloc (.cells #[.int .i64 n] 3)).heap.size = w.heap.size + 2 := by simp [hz1]
  have hz3 : ((W1.alloc (.cells #[.int .i64 n] 3)).alloc (.cells #[.int .i64 0, .int .i64 0, .string ⟨#[]⟩, .slice none 0 0, .slice none 0 0] 25)).heap.size = w.heap.size + 3 := by simp [hz1]
  have hB0 : Below w.heap.size w ((W1.alloc (.cells #[.int .i64 n] 3)).alloc (.cells #[.int .i64 0, .int .i64 0, .string ⟨#[]⟩, .slice none 0 0, .slice none 0 0] 25)) := (HB.out.alloc (by omega) _).alloc (by omega) _
  have hX0 := (HX.out.alloc (.cells #[.int .i64 n] 3)).alloc (.cells #[.int .i64 0, .int .i64 0, .string ⟨#[]⟩, .slice none 0 0, .slice none 0 0] 25)
  have hN0 : ((W1.alloc (.cells #[.int .i64 n] 3)).alloc (.cells #[.int .i64 0, .int .i64 0, .string ⟨#[]⟩, .slice none 0 0, .slice none 0 0] 25)).heap[w.heap.size + 1]? = some (.cells #[.int .i64 n] 3 (0, 0)) := by
    refine (Below.heap_alloc _ _ _ (by omega)).trans ?_
    rw [← hz1]
    exact heap_alloc_new _ _
  have hR0 : Box ((W1.alloc (.cells #[.int .i64 n] 3)).alloc (.cells #[.int .i64 0, .int .i64 0, .string ⟨#[]⟩, .slice none 0 0, .slice none 0 0] 25)) (w.heap.size + 2) (.int .i64 0) (.int .i64 0) (.string ⟨#[]⟩) (.slice none 0 0) (.slice none 0 0) := by
    have h := Box.new (w := W1.alloc (.cells #[.int .i64 n] 3)) (.int .i64 0) (.int .i64 0) (.string ⟨#[]⟩) (.slice none 0 0) (.slice none 0 0)
    rw [hz2] at h
    exact h
  clear hE1
  generalize (W1.alloc (.cells #[.int .i64 n] 3)).alloc (.cells #[.int .i64 0, .int .i64 0, .string ⟨#[]⟩, .slice none 0 0, .slice none 0 0] 25) = w2 at *
  have q0 := hX0.c0
  have q1 := hX0.c1
  have q2 := hX0.c2
  have q3 := hX0.c3
  have q4 := hX0.c4
  have HB0 := Lib.hid hB0
  have HR0 := Lib.hid hR0
  have HC := Lib.hid (tchange_any 44 #[.pointer (some ⟨w.heap.size + 1, 0, none⟩)] (cutFin n) S (fun w' => w'.heap[w.heap.size + 1]? = some (.cells #[.int .i64 n] 3 (0, 0))) (fun _ => True) (fun _ _ _ _ => trivial) enters_cutc (fun w1 w2 hj hb => (hb.block _ (Array.getElem?_eq_some_iff.1 hj).1).trans hj)
    (fun w1 t g o A c s r F hj ho hm _ _ _ _ _ _ _ => cutc_any n hn' (w.heap.size + 1) t g o A c s r F w1 ho hm hj) t _ A c p w2 hN0 trivial (fun b hb => by have := hS b hb; omega) (HV.out.keep fun b hb => hB0.block b (hS b hb)) HD.out (HP.out.keep fun b hb => hB0.block b (hS b hb)) hn hpc h63)
  clear hB0 hX0 hR0 hN0 HB HX HV HP HD
  go_wp2_with fail
  have e1 : W1.heap.size = w.heap.size + 1 := hz1
  try rw [e1]
  refine HC.out.mono ?_
  rintro e w5 ⟨v', rfl, hv, hb5⟩
  obtain ⟨B, k, B', k', rfl, -⟩ := hv.shape
  have HB5 := Lib.hid (HB0.out.trans (hb5.mono (show w.heap.size ≤ w2.heap.size by omega)))
  have HR5 := Lib.hid (HR0.out.call hb5)
  have HV5 := Lib.hid (hv.imp (S' := Iv (w.heap.size + 2 + 1) w5.heap.size) fun b hb => ⟨by have := hb.1; omega, hb.2⟩)
  have rf := fun i => HR5.out.free i
  have r0 := HR5.out.c0
  have r1 := HR5.out.c1
  have r2 := HR5.out.c2
  have r3 := HR5.out.c3
  have r4 := HR5.out.c4
  generalize hres : changeT (cutFin n) t p = res at *
  obtain ⟨x, u⟩ := res
  simp only at *
  have HEND := Lib.hid (change_endq (res := (x, u)) 2 HB5.out HV5.out rfl)
  have HBOX := Lib.hid (five_box (c0 := .int .i64 u.kind) (c1 := .int .i64 u.num) (c2 := .string u.text) (c3 := .slice B u.items.length k) (c4 := .slice B' u.names.length k') HR5.out)
  clear hv hb5 HC HR0 HB0 HV5 HB5 hz2 hres q0 q1 q2 q3 q4 hz1 e1
  go_wp2_with fail
  refine bodyPost_ret (results_cell_two rfl _ _ (w.heap.size + 2) 25 _ (0, 0) rfl HBOX.out (by kernel_rfl)) rfl ?_
  exact HEND.out
end Go.Proofs.Ytlddhpjokiphfaa
