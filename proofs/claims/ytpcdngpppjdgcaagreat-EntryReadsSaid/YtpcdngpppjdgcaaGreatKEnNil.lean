/- The entry that comes next where there is no source. -/
import Derived.Test.YtpcdngpppjdgcaaGreatKEnR
namespace Go.Proofs.YtpcdngpppjdgcaaGreat
open Lib (hid)
set_option linter.unusedVariables false
set_option linter.unusedSimpArgs false
open Go.RowKit
set_option maxRecDepth 100000
structure NilSt (w W : World) (r : Nat) : Prop where
 b : Below w.heap.size w W
 z : W.heap[w.heap.size]? = some (.cells #[.int .i64 0, .int .i64 0, .string ⟨#[]⟩, .string ⟨#[]⟩, .int .i64 0, .int .i64 0, .string ⟨#[]⟩, .slice none 0 0, .slice none 0 0, .int .i64 0, .int .i64 0, .string ⟨#[]⟩, .slice none 0 0, .slice none 0 0, .slice none 0 0, .int .i64 0, .int .i64 0] 28 (0, 0))
 x : EBox W r emptyE none 0 none 0 none 0 none 0 none 0
 lt : w.heap.size < r
theorem NilSt.call {w W W' : World} {r : Nat} (h : NilSt w W r) (hb : Below W.heap.size W W') : NilSt w W' r :=
 ⟨h.b.trans (hb.mono h.b.size), (hb.block _ (Nat.lt_trans h.lt h.x.lt)).trans h.z, h.x.below hb, h.lt⟩
theorem NilSt.store {w W W' : World} {r : Nat} (h : NilSt w W r) (hx : EBox W' r emptyE none 0 none 0 none 0 none 0 none 0) (ho : Only W W' r) : NilSt w W' r :=
 have hl := h.lt
 ⟨⟨ho.os.trans h.b.os, ho.tape.trans h.b.tape, ho.output.trans h.b.output, Nat.le_trans h.b.size ho.size, fun k hk => (ho.block k (Nat.lt_of_lt_of_le hk h.b.size) (by intro e; injection e; omega)).trans (h.b.block k hk)⟩, (ho.block _ (Nat.lt_trans hl h.x.lt) (by intro e; injection e; omega)).trans h.z, hx, hl⟩
set_option maxHeartbeats 16000000 in
theorem eread1_nil (w : World) : Calls Tryz.prog 64 #[.pointer none] w fun q w' => q = .returned (.agg #[.int .i64 0, .int .i64 0, .string ⟨#[]⟩, .string ⟨#[]⟩, .int .i64 0, .int .i64 0, .string ⟨#[]⟩, .slice none 0 0, .slice none 0 0, .int .i64 0, .int .i64 0, .string ⟨#[]⟩, .slice none 0 0, .slice none 0 0, .slice none 0 0, .int .i64 0, .int .i64 0]) ∧ Below w.heap.size w w' := by
 obtain ⟨w0, hw0⟩ : ∃ W, W = w.alloc (.cells #[.int .i64 0, .int .i64 0, .string ⟨#[]⟩, .string ⟨#[]⟩, .int .i64 0, .int .i64 0, .string ⟨#[]⟩, .slice none 0 0, .slice none 0 0, .int .i64 0, .int .i64 0, .string ⟨#[]⟩, .slice none 0 0, .slice none 0 0, .slice none 0 0, .int .i64 0, .int .i64 0] 28) := ⟨_, rfl⟩
 have HX0 : Hid (Below w.heap.size w w0 ∧ w0.heap[w.heap.size]? = some (.cells #[.int .i64 0, .int .i64 0, .string ⟨#[]⟩, .string ⟨#[]⟩, .int .i64 0, .int .i64 0, .string ⟨#[]⟩, .slice none 0 0, .slice none 0 0, .int .i64 0, .int .i64 0, .string ⟨#[]⟩, .slice none 0 0, .slice none 0 0, .slice none 0 0, .int .i64 0, .int .i64 0] 28 (0, 0)) ∧ w0.heap.size = w.heap.size + 1) := hid ⟨by rw [hw0]; exact below_box _, by rw [hw0]; exact heap_alloc_new w _, by rw [hw0]; simp⟩
 go_enter Tryz.func64, Tryz.ntmps64
 go_wp2_with fail
 rw [← hw0]
 clear hw0
 refine (scount_nil 1099511627776 _ (by omega)).mono ?_
 rintro q w1 ⟨rfl, hb⟩
 obtain ⟨w2, hw2⟩ : ∃ W, W = w1.alloc (.cells #[.int .i64 0, .int .i64 0, .string ⟨#[]⟩, .string ⟨#[]⟩, .int .i64 0, .int .i64 0, .string ⟨#[]⟩, .slice none 0 0, .slice none 0 0, .int .i64 0, .int .i64 0, .string ⟨#[]⟩, .slice none 0 0, .slice none 0 0, .slice none 0 0, .int .i64 0, .int .i64 0] 28) := ⟨_, rfl⟩
 obtain ⟨r, hr⟩ : ∃ r, r = w1.heap.size := ⟨_, rfl⟩
 have HN2 : Hid (NilSt w w2 r) := hid (by
  have hz := HX0.out.2.2
  have hs := hb.size
  have hb2 : Below w1.heap.size w1 w2 := by rw [hw2]; exact below_box _
  exact ⟨(HX0.out.1.trans (hb.mono (by omega))).trans (hb2.mono (by omega)), (hb2.block _ (by omega)).trans ((hb.block _ (by omega)).trans HX0.out.2.1), by rw [hr, hw2]; exact heap_alloc_new w1 _, by omega⟩)
 clear hb HX0
 go_wp2_with fail
 rw [← hw2]
 try rw [← hr]
 clear hw2 hr
 refine (sbyte_nil _).mono ?_
 rintro q w3 ⟨rfl, hb⟩
 have HN3 := hid (HN2.out.call hb)
 clear hb HN2
 go_wp2_with (refine wpList_store_box (by rfl) 3 _ _ rfl rfl r 1 rfl _ #[.int .i64 0] rfl rfl HN3.out.x emptyE none 0 none 0 none 0 none 0 none 0 (by simp) (by kernel_rfl) (by simp [Value.oneCell']) (by kernel_rfl) ?_; intro w4 HK4 HO4)
 have HN4 := hid (HN3.out.store HK4.out HO4.out.1)
 clear HN3 HK4 HO4
 refine (scount_nil 255 _ (by omega)).mono ?_
 rintro q w5 ⟨rfl, hb⟩
 have HN5 := hid (HN4.out.call hb)
 clear hb HN4
 go_wp2_with (refine wpList_store_box (by rfl) 3 _ _ rfl rfl r 15 rfl _ #[.int .i64 0] rfl rfl HN5.out.x emptyE none 0 none 0 none 0 none 0 none 0 (by simp) (by kernel_rfl) (by simp [Value.oneCell']) (by kernel_rfl) ?_; intro w6 HK6 HO6)
 have HN6 := hid (HN5.out.store HK6.out HO6.out.1)
 clear HN5 HK6 HO6
 refine (scount_nil 1099511627776 _ (by omega)).mono ?_
 rintro q w7 ⟨rfl, hb⟩
 have HN7 := hid (HN6.out.call hb)
 clear hb HN6
 go_wp2_with (refine wpList_store_box (by rfl) 3 _ _ rfl rfl r 16 rfl _ #[.int .i64 0] rfl rfl HN7.out.x emptyE none 0 none 0 none 0 none 0 none 0 (by simp) (by kernel_rfl) (by simp [Value.oneCell']) (by kernel_rfl) ?_; intro w8 HK8 HO8; have HN8 := hid (HN7.out.store HK8.out HO8.out.1); clear HN7 HK8 HO8; have y1 : w8.cell? ⟨r, 1, none⟩ = some (.int .i64 0) := HN8.out.x.g1)
 refine (efields_any 0 _).mono ?_
 rintro q u ⟨rfl, hw⟩
 replace hw := hw.symm
 subst hw
 clear y1
 go_wp2_with fail
 refine (ehas_coll 0 _).mono ?_
 rintro q u ⟨rfl, hw⟩
 replace hw := hw.symm
 subst hw
 rw [show hasColl 0 = false from by decide]
 go_wp2_with fail
 refine (ehas_to 0 _).mono ?_
 rintro q u ⟨rfl, hw⟩
 replace hw := hw.symm
 subst hw
 rw [show hasTo 0 = false from by decide]
 go_wp2_with fail
 refine (ehas_id 0 _).mono ?_
 rintro q u ⟨rfl, hw⟩
 replace hw := hw.symm
 subst hw
 rw [show hasId 0 = false from by decide]
 go_wp2_with fail
 refine (ehas_doc 0 _).mono ?_
 rintro q u ⟨rfl, hw⟩
 replace hw := hw.symm
 subst hw
 rw [show hasDoc 0 = false from by decide]
 go_wp2_with fail
 refine (ehas_dels 0 _).mono ?_
 rintro q u ⟨rfl, hw⟩
 replace hw := hw.symm
 subst hw
 rw [show hasDels 0 = false from by decide]
 go_wp2_with (first | (refine wpList_load_ent (by rfl) _ rfl r rfl _ _ HN8.out.x rfl ?_; simp only [acR, Act.put]) | (refine wpList_store_all (by rfl) _ _ rfl rfl w.heap.size rfl emptyE none 0 none 0 none 0 none 0 none 0 rfl HN8.out.z ?_; intro w9 HK9 HO9))
 refine bodyPost_ret (results_cell_e rfl _ _ w.heap.size _ _ _ rfl HK9.out rfl) rfl ?_
 have ho := HO9.out.1
 have hb := HN8.out.b
 exact ⟨rfl, ⟨ho.os.trans hb.os, ho.tape.trans hb.tape, ho.output.trans hb.output, Nat.le_trans hb.size ho.size, fun k hk => (ho.block k (Nat.lt_of_lt_of_le hk hb.size) (by intro e; injection e; omega)).trans (hb.block k hk)⟩⟩
set_option maxHeartbeats 16000000 in
theorem eread_nil (w : World) : Calls Tryz.prog 25 #[.pointer none] w fun q w' => q = .returned (.agg #[.int .i64 0, .int .i64 0, .string ⟨#[]⟩, .string ⟨#[]⟩, .int .i64 0, .int .i64 0, .string ⟨#[]⟩, .slice none 0 0, .slice none 0 0, .int .i64 0, .int .i64 0, .string ⟨#[]⟩, .slice none 0 0, .slice none 0 0, .slice none 0 0, .int .i64 0, .int .i64 0]) ∧ Below w.heap.size w w' := by
 obtain ⟨w0, hw0⟩ : ∃ W, W = w.alloc (.cells #[.int .i64 0, .int .i64 0, .string ⟨#[]⟩, .string ⟨#[]⟩, .int .i64 0, .int .i64 0, .string ⟨#[]⟩, .slice none 0 0, .slice none 0 0, .int .i64 0, .int .i64 0, .string ⟨#[]⟩, .slice none 0 0, .slice none 0 0, .slice none 0 0, .int .i64 0, .int .i64 0] 28) := ⟨_, rfl⟩
 have HX0 : Hid (Below w.heap.size w w0 ∧ w0.heap[w.heap.size]? = some (.cells #[.int .i64 0, .int .i64 0, .string ⟨#[]⟩, .string ⟨#[]⟩, .int .i64 0, .int .i64 0, .string ⟨#[]⟩, .slice none 0 0, .slice none 0 0, .int .i64 0, .int .i64 0, .string ⟨#[]⟩, .slice none 0 0, .slice none 0 0, .slice none 0 0, .int .i64 0, .int .i64 0] 28 (0, 0)) ∧ w0.heap.size = w.heap.size + 1) := hid ⟨by rw [hw0]; exact below_box _, by rw [hw0]; exact heap_alloc_new w _, by rw [hw0]; simp⟩
 go_enter Tryz.func25, Tryz.ntmps25
 go_wp2_with fail
 rw [← hw0]
 clear hw0
 refine (eread1_nil _).mono ?_
 rintro q w1 ⟨rfl, hb⟩
 obtain ⟨w2, hw2⟩ : ∃ W, W = w1.alloc (.cells #[.int .i64 0, .int .i64 0, .string ⟨#[]⟩, .string ⟨#[]⟩, .int .i64 0, .int .i64 0, .string ⟨#[]⟩, .slice none 0 0, .slice none 0 0, .int .i64 0, .int .i64 0, .string ⟨#[]⟩, .slice none 0 0, .slice none 0 0, .slice none 0 0, .int .i64 0, .int .i64 0] 28) := ⟨_, rfl⟩
 have HX2 : Hid (Below w.heap.size w w2 ∧ w2.heap[w.heap.size]? = some (.cells #[.int .i64 0, .int .i64 0, .string ⟨#[]⟩, .string ⟨#[]⟩, .int .i64 0, .int .i64 0, .string ⟨#[]⟩, .slice none 0 0, .slice none 0 0, .int .i64 0, .int .i64 0, .string ⟨#[]⟩, .slice none 0 0, .slice none 0 0, .slice none 0 0, .int .i64 0, .int .i64 0] 28 (0, 0))) := hid (by
  have hz := HX0.out.2.2
  have hs := hb.size
  have hb2 : Below w1.heap.size w1 w2 := by rw [hw2]; exact below_box _
  exact ⟨(HX0.out.1.trans (hb.mono (by omega))).trans (hb2.mono (by omega)), (hb2.block _ (by omega)).trans ((hb.block _ (by omega)).trans HX0.out.2.1)⟩)
 clear hb HX0
 go_wp2_with fail
 rw [← hw2]
 clear hw2
 refine (bad_nil _).mono ?_
 rintro q u ⟨rfl, hw⟩
 subst hw
 go_wp2_with fail
 refine (spoil_nil _).mono ?_
 rintro q u ⟨rfl, hw⟩
 subst hw
 go_wp2_with (refine wpList_store_zent (by rfl) _ _ rfl rfl w.heap.size rfl rfl HX2.out.2 ?_; intro w9 HK9 HO9)
 refine bodyPost_ret (results_cell_e rfl _ _ w.heap.size _ _ _ rfl HK9.out rfl) rfl ?_
 have ho := HO9.out
 have hb := HX2.out.1
 exact ⟨rfl, ⟨ho.os.trans hb.os, ho.tape.trans hb.tape, ho.output.trans hb.output, Nat.le_trans hb.size ho.size, fun k hk => (ho.block k (Nat.lt_of_lt_of_le hk hb.size) (by intro e; injection e; omega)).trans (hb.block k hk)⟩⟩
end Go.Proofs.YtpcdngpppjdgcaaGreat
