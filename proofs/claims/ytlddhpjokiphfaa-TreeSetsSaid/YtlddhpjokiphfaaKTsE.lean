/- What set does at the end of a path; the program's Set. -/
import Derived.Test.YtlddhpjokiphfaaKTsC
import Derived.Test.YtlddhpjokiphfaaKInv
import Derived.Test.YtlddhpjokiphfaaKTrE
import Derived.Test.YtlddhpjokiphfaaKVr
import Derived.Test.YtlddhpjokiphfaaKRefQ
namespace Go.Proofs.Ytlddhpjokiphfaa
set_option linter.unusedVariables false
set_option linter.unusedSimpArgs false
open Go.RowKit
theorem enters_setc : Enters 36 := fun _ _ => by simp [callFunc, go_sem, Try.func36, Try.f36]
def setFin (x : VT) (t : VT) : List ByteArray → Int × VT
  | [] => (0, t)
  | s :: r => if 0 ≤ placeT t s then (0, setT t (placeT t s).toNat x) else if t.kind = 7 then (0, addI (addN t s) (nestT r x)) else if t.kind = 6 ∧ nextT t s r = true then (0, addI t x) else (40, t)
theorem setFin_cons (x t : VT) (s : ByteArray) (r : List ByteArray) : setFin x t (s :: r) = if 0 ≤ placeT t s then ((0 : Int), setT t (placeT t s).toNat x) else if t.kind = 7 then ((0 : Int), addI (addN t s) (nestT r x)) else if t.kind = 6 ∧ nextT t s r = true then ((0 : Int), addI t x) else ((40 : Int), t) := rfl
/-- Whatever comes to put. -/
theorem tput_any (S F : Nat → Prop) (t u : VT) (g o : Nat) (A : Option Addr) (c : Nat) (s : ByteArray) (r : List ByteArray) (w w1 : World) (B : Option Addr) (k : Nat) (B' : Option Addr) (k' : Nat) (h : OAt w F t g o) (hm : mayT t = true) (hsm : smallT t) (hb1 : Below w.heap.size w w1)
    (hp : StrsAt w S A (s :: r)) (hn : r.length + 1 ≤ c) (h63 : c ≤ 9223372036854775807) (hrn : r.length + 1 ≤ 9223372036854775807) (hS : ∀ b, S b → b < w.heap.size) (hSF : ∀ b, S b → ¬ F b ∧ b ≠ g) (hend : placeT t s < 0 ∨ r = [])
    (hu : OV w1 (Iv w.heap.size w1.heap.size) u (.agg #[.int .i64 u.kind, .int .i64 u.num, .string u.text, .slice B u.items.length k, .slice B' u.names.length k'])) :
    Calls Try.prog 37 #[.agg #[.pointer (some ⟨g, o, none⟩), .int .i64 (placeT t s), .slice A (r.length + 1) c], .agg #[.int .i64 u.kind, .int .i64 u.num, .string u.text, .slice B u.items.length k, .slice B' u.names.length k']] w1 (DidAt F g o w (setFin u t (s :: r))) := by
  have hge := placeT_ge t s
  rw [setFin_cons]
  by_cases h0 : 0 ≤ placeT t s
  · rw [if_pos h0]
    have hj := placeT_lt (may_nl hm) h0
    have := tput_item F t u g o (placeT t s).toNat hj (.slice A (r.length + 1) c) w w1 B k B' k' h hb1 hu
    rw [show (((placeT t s).toNat : Nat) : Int) = placeT t s by omega] at this
    exact this
  rw [if_neg h0]
  by_cases h7 : t.kind = 7
  · rw [if_pos h7]
    exact tput_doc S F t u g o _ (by omega) h7 hsm A c s r w w1 B k B' k' h hb1 hp hn h63 hrn hS hSF hu
  rw [if_neg h7]
  by_cases h6 : t.kind = 6 ∧ nextT t s r = true
  · rw [if_pos h6]
    exact tput_arr S F t u g o _ (by omega) h6.1 hsm s r h6.2 A c w w1 B k B' k' h hb1 hp hrn hS hu
  · rw [if_neg h6]
    exact tput_err S F t _ g o _ (by omega) s r h7 (fun e => by
      cases hx : nextT t s r with
      | false => rfl
      | true => exact absurd ⟨e, hx⟩ h6) A c w w1 B k B' k' u h hb1 hp hrn hS rfl
set_option maxHeartbeats 4000000 in
set_option maxRecDepth 100000 in
theorem setc_any (S Sx : Nat → Prop) (x : VT) (X : Option Addr) (kx : Nat) (X' : Option Addr) (kx' : Nat) (bx : Nat) (t : VT) (g o : Nat) (A : Option Addr) (c : Nat) (s : ByteArray) (r : List ByteArray) (F : Nat → Prop) (w : World) (h : OAt w F t g o) (hm : mayT t = true) (hsm : smallT t)
    (hp : StrsAt w S A (s :: r)) (hn : r.length + 1 ≤ c) (h63 : c ≤ 9223372036854775807) (hrn : r.length + 1 ≤ 9223372036854775807) (hS : ∀ b, S b → b < w.heap.size) (hSF : ∀ b, S b → ¬ F b ∧ b ≠ g) (hend : placeT t s < 0 ∨ r = [])
    (hSx : ∀ b, Sx b → b < w.heap.size) (hx : LV w Sx x (.agg #[.int .i64 x.kind, .int .i64 x.num, .string x.text, .slice X x.items.length kx, .slice X' x.names.length kx'])) (hbx : Box w bx (.int .i64 x.kind) (.int .i64 x.num) (.string x.text) (.slice X x.items.length kx) (.slice X' x.names.length kx')) :
    Calls Try.prog 36 #[.agg #[.pointer (some ⟨g, o, none⟩), .int .i64 (placeT t s), .slice A (r.length + 1) c], .pointer (some ⟨bx, 0, none⟩)] w (DidAt F g o w (setFin x t (s :: r))) := by
  obtain ⟨P, hP⟩ : ∃ P, P = placeT t s := ⟨_, rfl⟩
  have hgl := h.lt
  have hbl := hbx.lt
  have hz0 : (w.alloc (.cells #[.pointer (some ⟨g, o, none⟩), .int .i64 P, .slice A (r.length + 1) c] 51)).drew.heap.size = w.heap.size + 1 := by simp
  have hb0 : Below w.heap.size w (w.alloc (.cells #[.pointer (some ⟨g, o, none⟩), .int .i64 P, .slice A (r.length + 1) c] 51)).drew := (below_box _).drew
  have hs : (w.alloc (.cells #[.pointer (some ⟨g, o, none⟩), .int .i64 P, .slice A (r.length + 1) c] 51)).drew.heap[w.heap.size]? = some (.cells #[.pointer (some ⟨g, o, none⟩), .int .i64 P, .slice A (r.length + 1) c] 51 (0, 0)) := heap_alloc_new w _
  have hput : ∀ (w0 w1 : World) (B : Option Addr) (k : Nat) (B' : Option Addr) (k' : Nat), Below w.heap.size w w0 → Below w0.heap.size w0 w1 → OV w1 (Iv w0.heap.size w1.heap.size) x (.agg #[.int .i64 x.kind, .int .i64 x.num, .string x.text, .slice B x.items.length k, .slice B' x.names.length k']) →
      Calls Try.prog 37 #[.agg #[.pointer (some ⟨g, o, none⟩), .int .i64 P, .slice A (r.length + 1) c], .agg #[.int .i64 x.kind, .int .i64 x.num, .string x.text, .slice B x.items.length k, .slice B' x.names.length k']] w1 (DidAt F g o w (setFin x t (s :: r))) := by
    intro w0 w1 B k B' k' hbw hb1 hu
    rw [hP]
    refine (tput_any S F t x g o A c s r w0 w1 B k B' k' (h.keep hbw) hm hsm hb1 (hp.keep fun b hb => hbw.block b (hS b hb)) hn h63 hrn (fun b hb => Nat.lt_of_lt_of_le (hS b hb) hbw.size) hSF hend hu).mono ?_
    exact fun e w' hd => hd.from hbw hgl
  have HPUT := Lib.hid hput
  have HB0 := Lib.hid hb0
  have HXV := Lib.hid (And.intro hSx (And.intro hx hbx))
  have HS := Lib.hid hs
  rw [← hP]
  generalize setFin x t (s :: r) = res at *
  clear hput hb0 hx hbx hs hSx h hp hS hSF hend hP
  go_enter Try.func36, Try.ntmps36
  go_wp2_with fail
  refine wp_region_OT (Keep2 (w.heap.size + 5) (w.heap.size + 5)) (Keep2.refl _ _) (Keep2.trans _ _) [3, 4] (.pure [0] (.step 1 (.step 2 (.step 3 (.step 4 (.tail [])))))) (by kernel_rfl) (by kernel_rfl) (fun _ d _ _ _ h => by cases d <;> exact h) ?_
  generalize (w.alloc (.cells #[.pointer (some ⟨g, o, none⟩), .int .i64 P, .slice A (r.length + 1) c] 51)).drew = w0 at *
  have kf : ∀ (p : LaterR (Keep2 (w.heap.size + 5) (w.heap.size + 5)) w0) (i : Nat), p.u.cell? ⟨w.heap.size, i, none⟩ = w0.cell? ⟨w.heap.size, i, none⟩ := fun p i => World.cell?_of_block (a := ⟨w.heap.size, i, none⟩) (p.h.2 w.heap.size (by omega) (by omega) (by omega))
  have s0 := fun p : LaterR (Keep2 (w.heap.size + 5) (w.heap.size + 5)) w0 => (kf p 0).trans (Go.Joins.cell_of_block HS.out 0)
  have s1 := fun p : LaterR (Keep2 (w.heap.size + 5) (w.heap.size + 5)) w0 => (kf p 1).trans (Go.Joins.cell_of_block HS.out 1)
  have s2 := fun p : LaterR (Keep2 (w.heap.size + 5) (w.heap.size + 5)) w0 => (kf p 2).trans (Go.Joins.cell_of_block HS.out 2)
  clear kf
  refine ot_pure ?_
  simp only [atNats, List.filterMap_cons, List.filterMap_nil, List.getElem?_toArray, List.getElem?_cons_succ, List.getElem?_cons_zero]
  show wpQuiet _ _ _ _ [_] _
  try simp only [List.getElem_toArray, List.getElem_cons_succ, List.getElem_cons_zero, Act.put, List.setIfInBounds_toArray, List.set_cons_succ, List.set_cons_zero]
  repeat (go_big_quiet_step (fail))
  refine wpQuiet_nil ?_
  clear s0 s1 s2
  have hbx0 := HXV.out.2.2.below HB0.out hbl
  have y0 := hbx0.c0
  have y1 := hbx0.c1
  have y2 := hbx0.c2
  have y3 := hbx0.c3
  have y4 := hbx0.c4
  clear hbx0
  refine ot_step rfl (fun K hK => ?_)
  go_simp
  refine hK _ _ (.inr (Keep2.refl _ _ _)) ?_
  clear hK K y0 y1 y2 y3 y4
  refine ot_step rfl (fun K hK => ?_)
  go_simp
  refine (clone_own Sx x _ w0 (fun b hb => by have := HXV.out.1 b hb; omega) (HXV.out.2.1.keep fun b hb => HB0.out.block b (HXV.out.1 b hb))).mono ?_
  rintro e w1 ⟨v', rfl, hov, hb1⟩
  obtain ⟨B, k, B', k', ys, rfl, -⟩ := hov.shape
  refine hK _ _ (.inr (Keep2.of hb1)) ?_
  clear hK K
  have HC := Lib.hid (HPUT.out w0 w1 B k B' k' HB0.out hb1 hov)
  clear hov hb1 HPUT
  refine ot_step rfl (fun K hK => ?_)
  go_simp
  refine HC.out.mono ?_
  rintro e w2 hd
  have he := hd.1
  subst he
  refine hK _ _ (.inl (by decide)) ?_
  have HD := Lib.hid hd
  clear hK K hd HC
  refine ot_step rfl (fun K hK => ?_)
  go_simp
  refine hK _ _ (.inl (by decide)) ?_
  clear hK K
  refine ot_end ?_
  go_wp2_with fail
  go_ret
  exact HD.out
set_option maxHeartbeats 4000000 in
set_option maxRecDepth 100000 in
theorem tset_any (S : Nat → Prop) (t : VT) (v : Value) (A : Option Addr) (c : Nat) (p : List ByteArray) (x : VT) (vx : Value) (w : World) (hS : ∀ b, S b → b < w.heap.size) (h : LV w S t v) (hd : depthT t ≤ 4611686018427387903) (hsm : smallT t) (hp : StrsAt w S A p) (hn : p.length ≤ 140737488351232) (hpc : p.length ≤ c) (h63 : c ≤ 9223372036854775807)
    (hx : LV w S x vx) (hdx : depthT x ≤ 4611686018427387903) :
    Calls Try.prog 18 #[v, .slice A p.length c, vx] w (ChangeR (if mayT x = true then changeT (setFin x) t p else (20, nilT)) w) := by
  obtain ⟨A0, c0, A0', c0', rfl, -, -, -, v1, hb0⟩ := one_var hS h
  obtain ⟨X, kx, X', kx', rfl, -⟩ := hx.shape
  obtain ⟨RES, hRES⟩ : ∃ R, R = if mayT x = true then changeT (setFin x) t p else (20, nilT) := ⟨_, rfl⟩
  rw [← hRES]
  have HRES := Lib.hid hRES
  clear hRES
  have HX := Lib.hid v1.x
  have HB := Lib.hid hb0
  have HV := Lib.hid h
  have HP := Lib.hid hp
  have HD := Lib.hid hd
  have HXV := Lib.hid hx
  clear h v1 hb0 hd hp hx
  go_enter Try.func18, Try.ntmps18
  go_wp2_with fail
  generalize hE1 : w.alloc (.cells #[.int .i64 t.kind, .int .i64 t.num, .string t.text, .slice A0 t.items.length c0, .slice A0' t.names.length c0'] 25) = W1 at *
  have hz1 : W1.heap.size = w.heap.size + 1 := by rw [← hE1]; simp
  have hz2 : (W1.alloc (.cells #[.int .i64 x.kind, .int .i64 x.num, .string x.text, .slice X x.items.length kx, .slice X' x.names.length kx'] 25)).heap.size = w.heap.size + 2 := by simp [hz1]
  have hz3 : ((W1.alloc (.cells #[.int .i64 x.kind, .int .i64 x.num, .string x.text, .slice X x.items.length kx, .slice X' x.names.length kx'] 25)).alloc (.cells #[.int .i64 0, .int .i64 0, .string ⟨#[]⟩, .slice none 0 0, .slice none 0 0] 25)).heap.size = w.heap.size + 3 := by simp [hz1]
  have hB0 : Below w.heap.size w ((W1.alloc (.cells #[.int .i64 x.kind, .int .i64 x.num, .string x.text, .slice X x.items.length kx, .slice X' x.names.length kx'] 25)).alloc (.cells #[.int .i64 0, .int .i64 0, .string ⟨#[]⟩, .slice none 0 0, .slice none 0 0] 25)) := (HB.out.alloc (by omega) _).alloc (by omega) _
  have hX0 := (HX.out.alloc (.cells #[.int .i64 x.kind, .int .i64 x.num, .string x.text, .slice X x.items.length kx, .slice X' x.names.length kx'] 25)).alloc (.cells #[.int .i64 0, .int .i64 0, .string ⟨#[]⟩, .slice none 0 0, .slice none 0 0] 25)
  have hN1 : Box (W1.alloc (.cells #[.int .i64 x.kind, .int .i64 x.num, .string x.text, .slice X x.items.length kx, .slice X' x.names.length kx'] 25)) (w.heap.size + 1) (.int .i64 x.kind) (.int .i64 x.num) (.string x.text) (.slice X x.items.length kx) (.slice X' x.names.length kx') := by
    have h := Box.new (w := W1) (.int .i64 x.kind) (.int .i64 x.num) (.string x.text) (.slice X x.items.length kx) (.slice X' x.names.length kx')
    rw [hz1] at h
    exact h
  have hN0 := hN1.alloc (.cells #[.int .i64 0, .int .i64 0, .string ⟨#[]⟩, .slice none 0 0, .slice none 0 0] 25)
  have hR0 : Box ((W1.alloc (.cells #[.int .i64 x.kind, .int .i64 x.num, .string x.text, .slice X x.items.length kx, .slice X' x.names.length kx'] 25)).alloc (.cells #[.int .i64 0, .int .i64 0, .string ⟨#[]⟩, .slice none 0 0, .slice none 0 0] 25)) (w.heap.size + 2) (.int .i64 0) (.int .i64 0) (.string ⟨#[]⟩) (.slice none 0 0) (.slice none 0 0) := by
    have h := Box.new (w := W1.alloc (.cells #[.int .i64 x.kind, .int .i64 x.num, .string x.text, .slice X x.items.length kx, .slice X' x.names.length kx'] 25)) (.int .i64 0) (.int .i64 0) (.string ⟨#[]⟩) (.slice none 0 0) (.slice none 0 0)
    rw [hz2] at h
    exact h
  clear hE1 hN1
  generalize (W1.alloc (.cells #[.int .i64 x.kind, .int .i64 x.num, .string x.text, .slice X x.items.length kx, .slice X' x.names.length kx'] 25)).alloc (.cells #[.int .i64 0, .int .i64 0, .string ⟨#[]⟩, .slice none 0 0, .slice none 0 0] 25) = w2 at *
  have HB0 := Lib.hid hB0
  have HR0 := Lib.hid hR0
  have HX0 := Lib.hid hX0
  have HN0 := Lib.hid hN0
  have n0 := hN0.c0
  have n1 := hN0.c1
  have n2 := hN0.c2
  have n3 := hN0.c3
  have n4 := hN0.c4
  have HM := Lib.hid (may_any S x _ w2 (fun b hb => by have := hS b hb; omega) (HXV.out.keep fun b hb => hB0.block b (hS b hb)) hdx)
  clear hB0 hR0 hX0 hN0 HB HX
  try rw [hz1]
  go_wp2_with fail
  refine HM.out.mono ?_
  rintro e w3 ⟨rfl, hb3⟩
  have HB3 := Lib.hid (HB0.out.trans (hb3.mono (show w.heap.size ≤ w2.heap.size by omega)))
  have HX3 := Lib.hid (HX0.out.call hb3)
  have HR3 := Lib.hid (HR0.out.call hb3)
  have HN3 := Lib.hid (HN0.out.call hb3)
  have hzz3 := hb3.size
  clear hb3 HM HB0 HX0 HR0 HN0 n0 n1 n2 n3 n4
  have rf := fun i => HR3.out.free i
  have r0 := HR3.out.c0
  have r1 := HR3.out.c1
  have r2 := HR3.out.c2
  have r3 := HR3.out.c3
  have r4 := HR3.out.c4
  cases hmx : mayT x with
  | false =>
    have HEND := Lib.hid (change_endq (res := (20, nilT)) (w := w) 2 HB3.out (nil_lv w3 (Iv (w.heap.size + 2 + 1) w3.heap.size)) rfl)
    have HBOX := Lib.hid (five_box (c0 := .int .i64 0) (c1 := .int .i64 0) (c2 := .string ⟨#[]⟩) (c3 := .slice none 0 0) (c4 := .slice none 0 0) HR3.out)
    have hr := HRES.out
    rw [hmx, if_neg (by simp)] at hr
    subst hr
    go_wp2_with fail
    refine bodyPost_ret (results_cell_two rfl _ _ (w.heap.size + 2) 25 _ (0, 0) rfl HBOX.out (by kernel_rfl)) rfl ?_
    exact HEND.out
  | true =>
  have hr := HRES.out
  rw [hmx, if_pos rfl] at hr
  subst hr
  have q0 := HX3.out.c0
  have q1 := HX3.out.c1
  have q2 := HX3.out.c2
  have q3 := HX3.out.c3
  have q4 := HX3.out.c4
  have HC := Lib.hid (tchange_any 36 #[.pointer (some ⟨w.heap.size + 1, 0, none⟩)] (setFin x) S (fun w' => Below w.heap.size w w' ∧ Box w' (w.heap.size + 1) (.int .i64 x.kind) (.int .i64 x.num) (.string x.text) (.slice X x.items.length kx) (.slice X' x.names.length kx')) smallT smallT.item enters_setc (fun w1 w2 hj hb => ⟨hj.1.trans (hb.mono hj.1.size), hj.2.call hb⟩)
    (fun w1 t g o A c s r F hj ho hm hq hst hc h63' hS1 hSF hend => setc_any S S x X kx X' kx' (w.heap.size + 1) t g o A c s r F w1 ho hm hq hst hc h63' (by omega) hS1 hSF hend (fun b hb => hS1 b hb) (HXV.out.keep fun b hb => hj.1.block b (hS b hb)) hj.2) t _ A c p w3 ⟨HB3.out, HN3.out⟩ hsm (fun b hb => by have := hS b hb; omega) (HV.out.keep fun b hb => HB3.out.block b (hS b hb)) HD.out (HP.out.keep fun b hb => HB3.out.block b (hS b hb)) hn hpc h63)
  clear r0 r1 r2 r3 r4 rf
  go_wp2_with fail
  try rw [hz1]
  refine HC.out.mono ?_
  rintro e w5 ⟨v', rfl, hv, hb5⟩
  obtain ⟨B, k, B', k', rfl, -⟩ := hv.shape
  have HB5 := Lib.hid (HB3.out.trans (hb5.mono (show w.heap.size ≤ w3.heap.size by omega)))
  have HR5 := Lib.hid (HR3.out.call hb5)
  have HV5 := Lib.hid (hv.imp (S' := Iv (w.heap.size + 2 + 1) w5.heap.size) fun b hb => ⟨by have := hb.1; omega, hb.2⟩)
  have rf := fun i => HR5.out.free i
  have r0 := HR5.out.c0
  have r1 := HR5.out.c1
  have r2 := HR5.out.c2
  have r3 := HR5.out.c3
  have r4 := HR5.out.c4
  generalize hres : changeT (setFin x) t p = res at *
  obtain ⟨xx, u⟩ := res
  simp only at *
  have HEND := Lib.hid (change_endq (res := (xx, u)) 2 HB5.out HV5.out rfl)
  have HBOX := Lib.hid (five_box (c0 := .int .i64 u.kind) (c1 := .int .i64 u.num) (c2 := .string u.text) (c3 := .slice B u.items.length k) (c4 := .slice B' u.names.length k') HR5.out)
  clear hv hb5 HC HR3 HB3 HX3 HN3 HV5 HB5 hz2 hres q0 q1 q2 q3 q4 hz1
  go_wp2_with fail
  refine bodyPost_ret (results_cell_two rfl _ _ (w.heap.size + 2) 25 _ (0, 0) rfl HBOX.out (by kernel_rfl)) rfl ?_
  exact HEND.out
end Go.Proofs.Ytlddhpjokiphfaa

/- What is asked of every program at the fifth layer: plain. -/
namespace Go.Proofs.Ytlddhpjokiphfaa
set_option linter.unusedVariables false
set_option linter.unusedSimpArgs false
open Go.RowKit
def eE : ByteArray := ⟨#[]⟩
def sA : ByteArray := ⟨#[97]⟩
def sB : ByteArray := ⟨#[98]⟩
def sC : ByteArray := ⟨#[99]⟩
def fiveT : VT := .mk 3 5 ⟨#[]⟩ [] []
def oneD : VT := .mk 7 0 ⟨#[]⟩ [.mk 3 1 ⟨#[]⟩ [] []] [⟨#[97]⟩]
def vD : VT := .mk 7 0 ⟨#[]⟩ [.mk 3 1 ⟨#[]⟩ [] [], .mk 7 0 ⟨#[]⟩ [fiveT] [⟨#[99]⟩]] [⟨#[97]⟩, ⟨#[98]⟩]
def wD : VT := .mk 7 0 ⟨#[]⟩ [.mk 7 0 ⟨#[]⟩ [fiveT] [⟨#[99]⟩]] [⟨#[98]⟩]
def dD : VT := .mk 7 0 ⟨#[]⟩ [.mk 3 1 ⟨#[]⟩ [] [], fiveT] [⟨#[97]⟩, ⟨#[95, 105, 100]⟩]
theorem set_v : (if mayT fiveT = true then changeT (setFin fiveT) oneD [⟨#[98]⟩, ⟨#[99]⟩] else (20, nilT)) = (0, vD) := by kernel_rfl
theorem set_f : (if mayT fiveT = true then changeT (setFin fiveT) oneD [⟨#[97]⟩, ⟨#[98]⟩] else (20, nilT)) = (40, nilT) := by kernel_rfl
theorem set_d : (if mayT fiveT = true then changeT (setFin fiveT) oneD [⟨#[95, 105, 100]⟩] else (20, nilT)) = (0, dD) := by kernel_rfl
theorem drop_w : changeT dropFin vD [⟨#[97]⟩] = (0, wD) := by kernel_rfl
theorem cut_c : changeT (cutFin 0) vD [⟨#[97]⟩] = (0, vD) := by kernel_rfl
theorem get_x : tgotT vD [⟨#[98]⟩, ⟨#[99]⟩] = some fiveT := by kernel_rfl
theorem get_not : tgotT wD [⟨#[97]⟩] = none := by kernel_rfl
theorem get_id : tgotT dD idP = some fiveT := by kernel_rfl
theorem small_one : smallT oneD := by
  show lensT 10000 oneD = true
  kernel_rfl
theorem dep_one : depthT oneD ≤ 4611686018427387903 := by
  have h : depthT oneD = 2 := by kernel_rfl
  rw [h]; decide
theorem dep_v : depthT vD ≤ 4611686018427387903 := by
  have h : depthT vD = 3 := by kernel_rfl
  rw [h]; decide
theorem dep_w : depthT wD ≤ 4611686018427387903 := by
  have h : depthT wD = 3 := by kernel_rfl
  rw [h]; decide
theorem dep_d : depthT dD ≤ 4611686018427387903 := by
  have h : depthT dD = 2 := by kernel_rfl
  rw [h]; decide
theorem dep_five : depthT fiveT ≤ 4611686018427387903 := by
  have h : depthT fiveT = 1 := by kernel_rfl
  rw [h]; decide
set_option maxHeartbeats 2000000 in
set_option maxRecDepth 100000 in
theorem one_any (w : World) : Calls Try.prog 26 #[] w fun e w' => ∃ A c A' c', e = .returned (.agg #[.int .i64 7, .int .i64 0, .string ⟨#[]⟩, .slice A 1 c, .slice A' 1 c']) ∧ LV w' (Iv w.heap.size w'.heap.size) oneD (.agg #[.int .i64 7, .int .i64 0, .string ⟨#[]⟩, .slice A 1 c, .slice A' 1 c']) ∧ Below w.heap.size w w' := by
  go_enter Try.func26, Try.ntmps26
  go_wp2_with fail
  obtain ⟨W1, hW1⟩ : ∃ W1, W1 = w.alloc (.cells #[.int .i64 7, .int .i64 0, .string ⟨#[]⟩, .slice (some ⟨w.heap.size + 1 + 1, 0, none⟩) 1 1, .slice (some ⟨w.heap.size + 1, 0, none⟩) 1 1] 25) := ⟨_, rfl⟩
  rw [← hW1]
  have z1 : W1.heap.size = w.heap.size + 1 := by rw [hW1]; simp
  have b1 : Below w.heap.size w W1 := by rw [hW1]; exact below_box _
  have x1 : Box W1 w.heap.size (.int .i64 7) (.int .i64 0) (.string ⟨#[]⟩) (.slice (some ⟨w.heap.size + 1 + 1, 0, none⟩) 1 1) (.slice (some ⟨w.heap.size + 1, 0, none⟩) 1 1) := by rw [hW1]; exact Box.new _ _ _ _ _
  have z2 : (W1.alloc (.cells #[.string ⟨#[97]⟩] 9)).heap.size = w.heap.size + 2 := by simp [z1]
  have b2 := b1.alloc (by omega) (.cells #[.string ⟨#[97]⟩] 9)
  have n2 := heap_alloc_new W1 (.cells #[.string ⟨#[97]⟩] 9)
  rw [z1] at n2
  have x2 := x1.alloc (.cells #[.string ⟨#[97]⟩] 9)
  clear hW1
  generalize W1.alloc (.cells #[.string ⟨#[97]⟩] 9) = W2 at *
  have z3 : (W2.alloc (.cells #[.int .i64 3, .int .i64 1, .string ⟨#[]⟩, .slice none 0 0, .slice none 0 0] 25)).heap.size = w.heap.size + 3 := by simp [z2]
  have b3 := b2.alloc (by omega) (.cells #[.int .i64 3, .int .i64 1, .string ⟨#[]⟩, .slice none 0 0, .slice none 0 0] 25)
  have n3 := (Below.heap_alloc W2 (.cells #[.int .i64 3, .int .i64 1, .string ⟨#[]⟩, .slice none 0 0, .slice none 0 0] 25) _ (by omega)).trans n2
  have m3 := heap_alloc_new W2 (.cells #[.int .i64 3, .int .i64 1, .string ⟨#[]⟩, .slice none 0 0, .slice none 0 0] 25)
  rw [z2] at m3
  have x3 := x2.alloc (.cells #[.int .i64 3, .int .i64 1, .string ⟨#[]⟩, .slice none 0 0, .slice none 0 0] 25)
  generalize W2.alloc (.cells #[.int .i64 3, .int .i64 1, .string ⟨#[]⟩, .slice none 0 0, .slice none 0 0] 25) = W3 at *
  refine bodyPost_ret (results_cell_row rfl _ _ w.heap.size 25 _ (0, 0) _ rfl x3 Try.underlying25 rfl (by kernel_rfl)) rfl ?_
  refine ⟨_, _, _, _, rfl, ?_, b3⟩
  exact (one_ov (F := fun _ => False) (x := .mk 3 1 ⟨#[]⟩ [] []) (s := ⟨#[97]⟩) (leaf_ov _ _ 3 1 ⟨#[]⟩ (by unfold Rng; omega) (by unfold Rng; omega) (by decide)) (by decide) n3 m3 (fun h => h) (fun h => h) (by omega)).lv.imp fun b hb => by
    rcases hb with h | h | h
    · exact h.elim
    · exact ⟨by omega, by omega⟩
    · exact ⟨by omega, by omega⟩
end Go.Proofs.Ytlddhpjokiphfaa

/- A value made, steps laid, a value set, a variable laid: in whatever order. -/
namespace Go.Proofs.Ytlddhpjokiphfaa
set_option linter.unusedVariables false
set_option linter.unusedSimpArgs false
open Go.RowKit Go.Sort
abbrev oneV (A : Option Addr) (c : Nat) (A' : Option Addr) (c' : Nat) : Value := .agg #[.int .i64 7, .int .i64 0, .string ⟨#[]⟩, .slice A 1 c, .slice A' 1 c']
structure RegJ (R : VT) (code : Int) (strs : List ByteArray) (base : World) (L : Nat → Bool) (u : World) (x0 x1 x2 x3 x4 x5 x6 x7 x9 : Value) (B : Option Addr) (k : Nat) (B' : Option Addr) (k' : Nat) (S0 S3 : Nat → Prop) (g : Nat) : Prop where
  hb : Below base.heap.size base u
  f0 : L 0 = true → L 3 = false → (∃ A c A' c', x0 = oneV A c A' c') ∧ LV u S0 oneD x0 ∧ ∀ b, S0 b → b < u.heap.size
  f1 : L 1 = true → L 3 = false → ∃ b, x1 = .slice (some ⟨b, 0, none⟩) strs.length strs.length ∧ u.heap[b]? = some (.cells (strs.map Value.string).toArray 9 (0, 0))
  f2 : L 2 = true → x2 = .agg #[.int .i64 3, .int .i64 5, .string ⟨#[]⟩, .slice none 0 0, .slice none 0 0]
  f3 : L 3 = true → x3 = .tuple #[agg5 R B k B' k', .int .i64 code] ∧ LV u S3 R (agg5 R B k B' k') ∧ ∀ b, S3 b → b < u.heap.size
  f4 : L 4 = true → x4 = x3
  f5 : L 5 = true → x5 = agg5 R B k B' k'
  f6 : L 6 = true → x6 = .int .i64 code
  f7 : L 7 = true → x7 = .pointer (some ⟨g, 0, none⟩) ∧ base.heap.size ≤ g ∧ g < u.heap.size ∧ (L 3 = true → ¬ S3 g) ∧ (L 8 = false → Box u g (.int .i64 0) (.int .i64 0) (.string ⟨#[]⟩) (.slice none 0 0) (.slice none 0 0)) ∧ (L 8 = true → Box u g (.int .i64 R.kind) (.int .i64 R.num) (.string R.text) (.slice B R.items.length k) (.slice B' R.names.length k'))
  f9 : L 9 = true → x9 = .int .i64 code
  f83 : L 8 = true → L 3 = true
section
variable {R : VT} {code : Int} {strs : List ByteArray} {base : World} {L : Nat → Bool} {u u' : World} {x0 x1 x2 x3 x4 x5 x6 x7 x9 : Value} {B : Option Addr} {k : Nat} {B' : Option Addr} {k' : Nat} {S0 S3 : Nat → Prop} {g : Nat}
theorem RegJ.below (h : RegJ R code strs base L u x0 x1 x2 x3 x4 x5 x6 x7 x9 B k B' k' S0 S3 g) (hb : Below u.heap.size u u') : RegJ R code strs base L u' x0 x1 x2 x3 x4 x5 x6 x7 x9 B k B' k' S0 S3 g where
  hb := h.hb.trans (hb.mono h.hb.size)
  f0 := fun a b => by
    obtain ⟨h1, h2, h3⟩ := h.f0 a b
    exact ⟨h1, h2.keep fun q hq => hb.block q (h3 q hq), fun q hq => Nat.lt_of_lt_of_le (h3 q hq) hb.size⟩
  f1 := fun a b => by
    obtain ⟨q, h1, h2⟩ := h.f1 a b
    exact ⟨q, h1, (hb.block q (Array.getElem?_eq_some_iff.1 h2).1).trans h2⟩
  f2 := h.f2
  f3 := fun a => by
    obtain ⟨h1, h2, h3⟩ := h.f3 a
    exact ⟨h1, h2.keep fun q hq => hb.block q (h3 q hq), fun q hq => Nat.lt_of_lt_of_le (h3 q hq) hb.size⟩
  f4 := h.f4
  f5 := h.f5
  f6 := h.f6
  f7 := fun a => by
    obtain ⟨h1, h2, h3, h4, h5, h6⟩ := h.f7 a
    exact ⟨h1, h2, Nat.lt_of_lt_of_le h3 hb.size, h4, fun b => (hb.block g h3).trans (h5 b), fun b => (hb.block g h3).trans (h6 b)⟩
  f9 := h.f9
  f83 := h.f83
theorem RegJ.start (base : World) : RegJ R code strs base (fun _ => false) base.drew undef undef undef undef undef undef undef undef undef none 0 none 0 (fun _ => False) (fun _ => False) 0 where
  hb := (Below.refl _ _).drew
  f0 := fun a => by cases a
  f1 := fun a => by cases a
  f2 := fun a => by cases a
  f3 := fun a => by cases a
  f4 := fun a => by cases a
  f5 := fun a => by cases a
  f6 := fun a => by cases a
  f7 := fun a => by cases a
  f9 := fun a => by cases a
  f83 := fun a => by cases a
theorem RegJ.op0 (h : RegJ R code strs base L u x0 x1 x2 x3 x4 x5 x6 x7 x9 B k B' k' S0 S3 g) (hb : Below u.heap.size u u') {A : Option Addr} {c : Nat} {A' : Option Addr} {c' : Nat} (hv : LV u' (Iv u.heap.size u'.heap.size) oneD (oneV A c A' c')) :
    RegJ R code strs base (markL L 0) u' (oneV A c A' c') x1 x2 x3 x4 x5 x6 x7 x9 B k B' k' (Iv u.heap.size u'.heap.size) S3 g :=
  let h' := h.below hb
  ⟨h'.hb, fun _ _ => ⟨⟨_, _, _, _, rfl⟩, hv, fun b hb => hb.2⟩, h'.f1, h'.f2, h'.f3, h'.f4, h'.f5, h'.f6, h'.f7, h'.f9, h'.f83⟩
theorem RegJ.op1 (h : RegJ R code strs base L u x0 x1 x2 x3 x4 x5 x6 x7 x9 B k B' k' S0 S3 g) :
    RegJ R code strs base (markL L 1) (u.alloc (.cells (strs.map Value.string).toArray 9)) x0 (.slice (some ⟨u.heap.size, 0, none⟩) strs.length strs.length) x2 x3 x4 x5 x6 x7 x9 B k B' k' S0 S3 g :=
  let h' := h.below (below_box (.cells (strs.map Value.string).toArray 9))
  ⟨h'.hb, h'.f0, fun _ _ => ⟨_, rfl, heap_alloc_new _ _⟩, h'.f2, h'.f3, h'.f4, h'.f5, h'.f6, h'.f7, h'.f9, h'.f83⟩
theorem RegJ.op2 (h : RegJ R code strs base L u x0 x1 x2 x3 x4 x5 x6 x7 x9 B k B' k' S0 S3 g) :
    RegJ R code strs base (markL L 2) u x0 x1 (.agg #[.int .i64 3, .int .i64 5, .string ⟨#[]⟩, .slice none 0 0, .slice none 0 0]) x3 x4 x5 x6 x7 x9 B k B' k' S0 S3 g :=
  ⟨h.hb, h.f0, h.f1, fun _ => rfl, h.f3, h.f4, h.f5, h.f6, h.f7, h.f9, h.f83⟩
theorem RegJ.op3 (h : RegJ R code strs base L u x0 x1 x2 x3 x4 x5 x6 x7 x9 B k B' k' S0 S3 g) (h3 : L 3 = false) (h4 : L 4 = true → L 3 = true) (h5 : L 5 = true → L 4 = true) (hb : Below u.heap.size u u') {E : Option Addr} {e : Nat} {E' : Option Addr} {e' : Nat} (hv : LV u' (Iv u.heap.size u'.heap.size) R (agg5 R E e E' e')) :
    RegJ R code strs base (markL L 3) u' x0 x1 x2 (.tuple #[agg5 R E e E' e', .int .i64 code]) x4 x5 x6 x7 x9 E e E' e' S0 (Iv u.heap.size u'.heap.size) g :=
  let h' := h.below hb
  ⟨h'.hb, fun _ h => (by cases (show true = false from h)), fun _ h => (by cases (show true = false from h)), h'.f2, fun _ => ⟨rfl, hv, fun b hb => hb.2⟩, fun a => absurd (h4 a) (by rw [h3]; decide), fun a => absurd (h4 (h5 a)) (by rw [h3]; decide), h'.f6,
    fun a => by
      obtain ⟨k1, k2, k3, k4, k5, k6⟩ := h.f7 a
      obtain ⟨-, -, -, -, l5, -⟩ := h'.f7 a
      exact ⟨k1, k2, Nat.lt_of_lt_of_le k3 hb.size, fun _ hg => absurd hg.1 (by omega), l5, fun b => absurd (h.f83 b) (by rw [h3]; decide)⟩, h'.f9, fun _ => rfl⟩
theorem RegJ.op4 (h : RegJ R code strs base L u x0 x1 x2 x3 x4 x5 x6 x7 x9 B k B' k' S0 S3 g) : RegJ R code strs base (markL L 4) u x0 x1 x2 x3 x3 x5 x6 x7 x9 B k B' k' S0 S3 g :=
  ⟨h.hb, h.f0, h.f1, h.f2, h.f3, fun _ => rfl, h.f5, h.f6, h.f7, h.f9, h.f83⟩
theorem RegJ.op5 (h : RegJ R code strs base L u x0 x1 x2 x3 x4 x5 x6 x7 x9 B k B' k' S0 S3 g) : RegJ R code strs base (markL L 5) u x0 x1 x2 x3 x4 (agg5 R B k B' k') x6 x7 x9 B k B' k' S0 S3 g :=
  ⟨h.hb, h.f0, h.f1, h.f2, h.f3, h.f4, fun _ => rfl, h.f6, h.f7, h.f9, h.f83⟩
theorem RegJ.op6 (h : RegJ R code strs base L u x0 x1 x2 x3 x4 x5 x6 x7 x9 B k B' k' S0 S3 g) : RegJ R code strs base (markL L 6) u x0 x1 x2 x3 x4 x5 (.int .i64 code) x7 x9 B k B' k' S0 S3 g :=
  ⟨h.hb, h.f0, h.f1, h.f2, h.f3, h.f4, h.f5, fun _ => rfl, h.f7, h.f9, h.f83⟩
theorem RegJ.op7 (h : RegJ R code strs base L u x0 x1 x2 x3 x4 x5 x6 x7 x9 B k B' k' S0 S3 g) (h8 : L 8 = true → L 7 = true) (h7 : L 7 = false) :
    RegJ R code strs base (markL L 7) (u.alloc (.cells #[.int .i64 0, .int .i64 0, .string ⟨#[]⟩, .slice none 0 0, .slice none 0 0] 25)) x0 x1 x2 x3 x4 x5 x6 (.pointer (some ⟨u.heap.size, 0, none⟩)) x9 B k B' k' S0 S3 u.heap.size :=
  let h' := h.below (below_box (.cells #[.int .i64 0, .int .i64 0, .string ⟨#[]⟩, .slice none 0 0, .slice none 0 0] 25))
  ⟨h'.hb, h'.f0, h'.f1, h'.f2, h'.f3, h'.f4, h'.f5, h'.f6, fun _ => ⟨rfl, h.hb.size, by simp, fun b hg => by have := (h.f3 b).2.2 _ hg; omega, fun _ => Box.new _ _ _ _ _, fun b => absurd (h8 b) (by rw [h7]; decide)⟩, h'.f9, h'.f83⟩
theorem RegJ.op8 (h : RegJ R code strs base L u x0 x1 x2 x3 x4 x5 x6 x7 x9 B k B' k' S0 S3 g) (h3 : L 3 = true) (h7 : L 7 = true) (h8 : L 8 = false) :
    RegJ R code strs base (markL L 8) (five u g 0 (.int .i64 R.kind) (.int .i64 R.num) (.string R.text) (.slice B R.items.length k) (.slice B' R.names.length k')) x0 x1 x2 x3 x4 x5 x6 x7 x9 B k B' k' S0 S3 g := by
  obtain ⟨k1, k2, k3, k4, k5, k6⟩ := h.f7 h7
  obtain ⟨l1, l2, l3⟩ := h.f3 h3
  have ho := five_other u g 0 (.int .i64 R.kind) (.int .i64 R.num) (.string R.text) (.slice B R.items.length k) (.slice B' R.names.length k')
  have hz := five_size u g 0 (.int .i64 R.kind) (.int .i64 R.num) (.string R.text) (.slice B R.items.length k) (.slice B' R.names.length k')
  have hr := five_rest u g 0 (.int .i64 R.kind) (.int .i64 R.num) (.string R.text) (.slice B R.items.length k) (.slice B' R.names.length k')
  have hx := five_box (c0 := .int .i64 R.kind) (c1 := .int .i64 R.num) (c2 := .string R.text) (c3 := .slice B R.items.length k) (c4 := .slice B' R.names.length k') (k5 h8)
  refine ⟨⟨hr.1.trans h.hb.os, hr.2.1.trans h.hb.tape, hr.2.2.trans h.hb.output, by rw [hz]; exact h.hb.size, fun b hb => (ho b (by omega)).trans (h.hb.block b hb)⟩, fun _ a => absurd a (by show ¬ L 3 = false; rw [h3]; decide), fun _ a => absurd a (by show ¬ L 3 = false; rw [h3]; decide), h.f2, fun _ => ⟨l1, l2.keep fun q hq => ho q (fun e => k4 h3 (e ▸ hq)), fun q hq => by rw [hz]; exact l3 q hq⟩, h.f4, h.f5, h.f6,
    fun _ => ⟨k1, k2, by rw [hz]; exact k3, k4, fun a => (by cases (show true = false from a)), fun _ => hx⟩, h.f9, fun _ => h3⟩
theorem RegJ.op9 (h : RegJ R code strs base L u x0 x1 x2 x3 x4 x5 x6 x7 x9 B k B' k' S0 S3 g) : RegJ R code strs base (markL L 9) u x0 x1 x2 x3 x4 x5 x6 x7 (.int .i64 code) B k B' k' S0 S3 g :=
  ⟨h.hb, h.f0, h.f1, h.f2, h.f3, h.f4, h.f5, h.f6, h.f7, fun _ => rfl, h.f83⟩
end
/-- Which have come, come behind what they wait for. -/
def OrdL (L : Nat → Bool) : Prop := (L 4 = true → L 3 = true) ∧ (L 5 = true → L 4 = true) ∧ (L 6 = true → L 4 = true) ∧ (L 8 = true → L 7 = true ∧ L 3 = true)
theorem OrdL.start : OrdL (fun _ => false) := ⟨fun h => (by cases h), fun h => (by cases h), fun h => (by cases h), fun h => (by cases h)⟩
theorem markL_of {L : Nat → Bool} {i j : Nat} (h : L j = true) : markL L i j = true := by unfold markL; rw [h, Bool.or_true]
theorem markL_ne {L : Nat → Bool} {i j : Nat} (hne : j ≠ i) (h : markL L i j = true) : L j = true := by
  unfold markL at h
  have h' : Nat.beq j i = false := by
    cases hb : Nat.beq j i with
    | false => rfl
    | true => exact absurd (Nat.eq_of_beq_eq_true hb) hne
  rwa [h', Bool.false_or] at h
theorem OrdL.mark {L : Nat → Bool} (h : OrdL L) (i : Nat) (h4 : i = 4 → L 3 = true) (h5 : i = 5 → L 4 = true) (h6 : i = 6 → L 4 = true) (h8 : i = 8 → L 7 = true ∧ L 3 = true) : OrdL (markL L i) := by
  refine ⟨fun k => ?_, fun k => ?_, fun k => ?_, fun k => ?_⟩
  · by_cases e : i = 4
    · exact markL_of (h4 e)
    · exact markL_of (h.1 (markL_ne (fun x => e x.symm) k))
  · by_cases e : i = 5
    · exact markL_of (h5 e)
    · exact markL_of (h.2.1 (markL_ne (fun x => e x.symm) k))
  · by_cases e : i = 6
    · exact markL_of (h6 e)
    · exact markL_of (h.2.2.1 (markL_ne (fun x => e x.symm) k))
  · by_cases e : i = 8
    · exact ⟨markL_of (h8 e).1, markL_of (h8 e).2⟩
    · have := h.2.2.2 (markL_ne (fun x => e x.symm) k)
      exact ⟨markL_of this.1, markL_of this.2⟩
theorem strs_row {w : World} {b : Nat} {strs : List ByteArray} (h : w.heap[b]? = some (.cells (strs.map Value.string).toArray 9 (0, 0))) (hs : ∀ s ∈ strs, s.size ≤ 140737488351232) : StrsAt w (fun q => q < w.heap.size) (some ⟨b, 0, none⟩) strs := fun _ =>
  ⟨b, 0, rfl, (Array.getElem?_eq_some_iff.1 h).1, fun i hi => ⟨by
    have := Go.Joins.cell_of_block h (0 + i)
    rw [this, Nat.zero_add, List.getElem?_toArray, List.getElem?_map, List.getElem?_eq_getElem hi]
    rfl, hs _ (List.getElem_mem hi)⟩⟩
theorem RegJ.set {R : VT} {code : Int} {strs : List ByteArray} {base : World} {L : Nat → Bool} {u : World} {x0 x1 x2 x3 x4 x5 x6 x7 x9 : Value} {B : Option Addr} {k : Nat} {B' : Option Addr} {k' : Nat} {S0 S3 : Nat → Prop} {g : Nat} (h : RegJ R code strs base L u x0 x1 x2 x3 x4 x5 x6 x7 x9 B k B' k' S0 S3 g)
    (h0 : L 0 = true) (h1 : L 1 = true) (h2 : L 2 = true) (h3 : L 3 = false) (hres : (if mayT fiveT = true then changeT (setFin fiveT) oneD strs else (20, nilT)) = (code, R)) (hs : ∀ s ∈ strs, s.size ≤ 140737488351232) (hl : strs.length ≤ 8) :
    Calls Try.prog 18 #[x0, x1, x2] u fun e u' => ∃ E e1 E' e2, e = .returned (.tuple #[agg5 R E e1 E' e2, .int .i64 code]) ∧ LV u' (Iv u.heap.size u'.heap.size) R (agg5 R E e1 E' e2) ∧ Below u.heap.size u u' := by
  obtain ⟨⟨A, c, A', c', rfl⟩, hv, hS⟩ := h.f0 h0 h3
  obtain ⟨b, rfl, hb⟩ := h.f1 h1 h3
  obtain rfl := h.f2 h2
  refine (tset_any (fun q => q < u.heap.size) oneD _ (some ⟨b, 0, none⟩) strs.length strs fiveT _ u (fun _ h => h) (hv.imp hS) dep_one small_one (strs_row hb hs) (by omega) (Nat.le_refl _) (by omega) (leaf_lv u _ 3 5 ⟨#[]⟩ (by unfold Rng; omega) (by unfold Rng; omega) (by decide)) dep_five).mono ?_
  rw [hres]
  rintro e u' ⟨v, rfl, hv', hb'⟩
  obtain ⟨E, e1, E', e2, rfl, -⟩ := hv'.shape
  exact ⟨E, e1, E', e2, rfl, hv', hb'⟩
end Go.Proofs.Ytlddhpjokiphfaa
