/- The document's own decoder: a value is read. -/
import Derived.Test.YtgfidiocmiolpaaGreatKMgG
set_option maxHeartbeats 64000000
set_option maxRecDepth 100000
set_option linter.unusedVariables false
set_option linter.unusedSimpArgs false
namespace Go.Proofs.YtgfidiocmiolpaaGreat
open Lib (hid)
open Go.RowKit
theorem wb (d:Nat)(hd8:d<8)(hok:tx d):tx (d+1):=by
 intro g BB st w hs hB;have hgl:=hs.lt;obtain⟨x,hx⟩: ∃x:Int,x=((d+1:Nat):Int):=⟨_,rfl⟩;have HM0:=hid (MR.first hs hB);have hx0: ¬x=0:=by omega
 have hx2:(x == 0)=false:=beq_false_of_ne hx0;have hx3:1≤x:=by omega
 have hx4:x≤8:=by omega
 have HX1:Hid (x - 1=(d:Int)):=hid (by omega);rw[←hx];clear hs hx;go_enter Tryz.func110,Tryz.ntmps110;go_wp2_with fail;refine(cV g BB st _ HM0.out.src hB).mono ?_;rintro e w1 ⟨rfl,hs1,ho1⟩;obtain⟨kk,hkk⟩: ∃kk:Int,kk=((ak st).1:Int):=⟨_,rfl⟩;obtain⟨st1,hst1⟩: ∃st1,st1=(ak st).2:=⟨_,rfl⟩;rw[←hst1]at hs1;rw[←hkk];have hm1:=HM0.out.call hs1 ho1 hgl;have HKK:=hid hkk;have HST:=hid hst1;clear ho1 hs1 HM0 hkk hst1;rcases st1 with _|s1
 ·have hm2:=hm1.alloc (.cells #[.int .i64 kk,.int .i64 0,.string ⟨#[]⟩,.slice none 0 0,.slice none 0 0] 43) hB hgl;have hbx:Box (w1.alloc (.cells #[.int .i64 kk,.int .i64 0,.string ⟨#[]⟩,.slice none 0 0,.slice none 0 0] 43)) w1.heap.size _ _ _ _ _:=Box.new _ _ _ _ _;have hz1:=hm1.size;have rf: ∀i,(w1.alloc (.cells #[.int .i64 kk,.int .i64 0,.string ⟨#[]⟩,.slice none 0 0,.slice none 0 0] 43)).frozen? ⟨w.heap.size,i,none⟩=false:=fun i=>hm2.rb.free i;have r0:=hm2.rb.c0;have r1:=hm2.rb.c1;have r2:=hm2.rb.c2;have r3:=hm2.rb.c3;have r4:=hm2.rb.c4;have b1:=bY hm2.src;have f1:=cw hm2.src;have n4:w1.heap.size≠g:=by omega
  have n5:w.heap.size≠g:=by omega
  simp only[Option.isNone_some,Option.isNone_none]at b1;have HM2:=hid hm2;have HBX:=hid hbx;clear hm1 hm2 hbx;go_wp2_with fail;refine bodyPost_ret (results_cell_row rfl _ _ w.heap.size 43 _ (0,0) _ rfl (bd HM2.out.rb) Tryz.underlying43 rfl (by kernel_rfl)) rfl ?_;exact ew (t:=gZ) HM2.out hB hgl (gj _ (fun _=>False)) (fun _ h=>h.elim) (xa d 0 HST.out.symm _)
 by_cases h1:kk=1
 ·subst h1;have hm2:=hm1.alloc (.cells #[.int .i64 1,.int .i64 0,.string ⟨#[]⟩,.slice none 0 0,.slice none 0 0] 43) hB hgl;have hbx:Box (w1.alloc (.cells #[.int .i64 1,.int .i64 0,.string ⟨#[]⟩,.slice none 0 0,.slice none 0 0] 43)) w1.heap.size _ _ _ _ _:=Box.new _ _ _ _ _;have hz1:=hm1.size;have rf: ∀i,(w1.alloc (.cells #[.int .i64 1,.int .i64 0,.string ⟨#[]⟩,.slice none 0 0,.slice none 0 0] 43)).frozen? ⟨w.heap.size,i,none⟩=false:=fun i=>hm2.rb.free i;have r0:=hm2.rb.c0;have r1:=hm2.rb.c1;have r2:=hm2.rb.c2;have r3:=hm2.rb.c3;have r4:=hm2.rb.c4;have b1:=bY hm2.src;have f1:=cw hm2.src;have n4:w1.heap.size≠g:=by omega
  have n5:w.heap.size≠g:=by omega
  simp only[Option.isNone_some,Option.isNone_none]at b1;have HM2:=hid hm2;have HBX:=hid hbx;clear hm1 hm2 hbx;go_wp2_with fail;refine bodyPost_ret (results_cell_row rfl _ _ w.heap.size 43 _ (0,0) _ rfl (bd HM2.out.rb) Tryz.underlying43 rfl (by kernel_rfl)) rfl ?_;refine ew (t:= .mk 1 0 eS [] []) HM2.out hB hgl (LV.mk (S:=fun _=>False) (by unfold Rng;omega) (by unfold Rng;omega) (by decide) (by simp) (by simp) (cO _ _ _) (dM _ _ _)) (fun _ h=>h.elim) ?_;rw[HST.out];exact ot (k:=1) d 0 (by have:=HKK.out;omega) (by omega) (by omega) (by omega) (by omega) (by omega) (by omega)
 by_cases h2:kk=2
 ·subst h2;have hm2:=hm1.alloc (.cells #[.int .i64 2,.int .i64 0,.string ⟨#[]⟩,.slice none 0 0,.slice none 0 0] 43) hB hgl;have hbx:Box (w1.alloc (.cells #[.int .i64 2,.int .i64 0,.string ⟨#[]⟩,.slice none 0 0,.slice none 0 0] 43)) w1.heap.size _ _ _ _ _:=Box.new _ _ _ _ _;have hz1:=hm1.size;have rf: ∀i,(w1.alloc (.cells #[.int .i64 2,.int .i64 0,.string ⟨#[]⟩,.slice none 0 0,.slice none 0 0] 43)).frozen? ⟨w.heap.size,i,none⟩=false:=fun i=>hm2.rb.free i;have r0:=hm2.rb.c0;have r1:=hm2.rb.c1;have r2:=hm2.rb.c2;have r3:=hm2.rb.c3;have r4:=hm2.rb.c4;have b1:=bY hm2.src;have f1:=cw hm2.src;have n4:w1.heap.size≠g:=by omega
  have n5:w.heap.size≠g:=by omega
  simp only[Option.isNone_some,Option.isNone_none]at b1;have HM2:=hid hm2;have HBX:=hid hbx;clear hm1 hm2 hbx;go_wp2_with fail;clear rf r0 r1 r2 r3 r4 b1 f1;refine(cV g BB (some s1) _ HM2.out.src hB).mono ?_;rintro e w3 ⟨rfl,hs3,ho3⟩;have hm3:=HM2.out.call hs3 ho3 hgl;have hb3:=cR HBX.out ho3 n4;have rf: ∀i,(w3).frozen? ⟨w.heap.size,i,none⟩=false:=fun i=>hm3.rb.free i;have r0:=hm3.rb.c0;have r1:=hm3.rb.c1;have r2:=hm3.rb.c2;have r3:=hm3.rb.c3;have r4:=hm3.rb.c4;have v0:=hb3.c0;have v1:=hb3.c1;have v2:=hb3.c2;have v3:=hb3.c3;have v4:=hb3.c4;have vf:=fun i=>hb3.free i;have n2:w1.heap.size≠w.heap.size:=by omega
  obtain⟨x1,hx1'⟩: ∃x,x=(ak (some s1)).1:=⟨_,rfl⟩;obtain⟨st3,hst3⟩: ∃st3,st3=(ak (some s1)).2:=⟨_,rfl⟩;rw[←hx1'];rw[←hst3]at hm3 hs3;have HM3:=hid hm3;have HB3:=hid hb3;have HX:=hid (And.intro hx1' hst3);clear hm3 hb3 hx1' hst3 hs3 ho3;go_wp2_with fail;have hm4:=HM3.out.set (vb:=w1.heap.size) (i:=1) (u:= .int .i64 x1) (by omega) hB hgl;refine bodyPost_ret (results_cell_row rfl _ _ w.heap.size 43 _ (0,0) _ rfl (bd hm4.rb) Tryz.underlying43 rfl (by kernel_rfl)) rfl ?_;refine ew (t:= .mk 2 x1 eS [] []) hm4 hB hgl (LV.mk (S:=fun _=>False) (by unfold Rng;omega) (by obtain⟨rfl,-⟩:=HX.out;have:=gp (some s1);unfold Rng;omega) (by decide) (by simp) (by simp) (cO _ _ _) (dM _ _ _)) (fun _ h=>h.elim) ?_;have h:=HST.out;obtain⟨rfl,rfl⟩:=HX.out;rw[h];exact ta d 0 (by have:=HKK.out;omega)
 by_cases h3:kk=3
 ·subst h3;have hm2:=hm1.alloc (.cells #[.int .i64 3,.int .i64 0,.string ⟨#[]⟩,.slice none 0 0,.slice none 0 0] 43) hB hgl;have hbx:Box (w1.alloc (.cells #[.int .i64 3,.int .i64 0,.string ⟨#[]⟩,.slice none 0 0,.slice none 0 0] 43)) w1.heap.size _ _ _ _ _:=Box.new _ _ _ _ _;have hz1:=hm1.size;have rf: ∀i,(w1.alloc (.cells #[.int .i64 3,.int .i64 0,.string ⟨#[]⟩,.slice none 0 0,.slice none 0 0] 43)).frozen? ⟨w.heap.size,i,none⟩=false:=fun i=>hm2.rb.free i;have r0:=hm2.rb.c0;have r1:=hm2.rb.c1;have r2:=hm2.rb.c2;have r3:=hm2.rb.c3;have r4:=hm2.rb.c4;have b1:=bY hm2.src;have f1:=cw hm2.src;have n4:w1.heap.size≠g:=by omega
  have n5:w.heap.size≠g:=by omega
  simp only[Option.isNone_some,Option.isNone_none]at b1;have HM2:=hid hm2;have HBX:=hid hbx;clear hm1 hm2 hbx;go_wp2_with fail;clear rf r0 r1 r2 r3 r4 b1 f1;refine(vl g BB (some s1) _ HM2.out.src hB).mono ?_;rintro e w3 ⟨rfl,hs3,ho3⟩;have hm3:=HM2.out.call hs3 ho3 hgl;have hb3:=cR HBX.out ho3 n4;have rf: ∀i,(w3).frozen? ⟨w.heap.size,i,none⟩=false:=fun i=>hm3.rb.free i;have r0:=hm3.rb.c0;have r1:=hm3.rb.c1;have r2:=hm3.rb.c2;have r3:=hm3.rb.c3;have r4:=hm3.rb.c4;have v0:=hb3.c0;have v1:=hb3.c1;have v2:=hb3.c2;have v3:=hb3.c3;have v4:=hb3.c4;have vf:=fun i=>hb3.free i;have n2:w1.heap.size≠w.heap.size:=by omega
  obtain⟨x1,hx1'⟩: ∃x,x=(ef (some s1)).1:=⟨_,rfl⟩;obtain⟨st3,hst3⟩: ∃st3,st3=(ef (some s1)).2:=⟨_,rfl⟩;rw[←hx1'];rw[←hst3]at hm3 hs3;have HM3:=hid hm3;have HB3:=hid hb3;have HX:=hid (And.intro hx1' hst3);clear hm3 hb3 hx1' hst3 hs3 ho3;go_wp2_with fail;have hm4:=HM3.out.set (vb:=w1.heap.size) (i:=1) (u:= .int .i64 x1) (by omega) hB hgl;refine bodyPost_ret (results_cell_row rfl _ _ w.heap.size 43 _ (0,0) _ rfl (bd hm4.rb) Tryz.underlying43 rfl (by kernel_rfl)) rfl ?_;refine ew (t:= .mk 3 x1 eS [] []) hm4 hB hgl (LV.mk (S:=fun _=>False) (by unfold Rng;omega) (by obtain⟨rfl,-⟩:=HX.out;exact oS (some s1)) (by decide) (by simp) (by simp) (cO _ _ _) (dM _ _ _)) (fun _ h=>h.elim) ?_;have h:=HST.out;obtain⟨rfl,rfl⟩:=HX.out;rw[h];exact oC d 0 (by have:=HKK.out;omega)
 by_cases h4:kk=4
 ·subst h4;have hm2:=hm1.alloc (.cells #[.int .i64 4,.int .i64 0,.string ⟨#[]⟩,.slice none 0 0,.slice none 0 0] 43) hB hgl;have hbx:Box (w1.alloc (.cells #[.int .i64 4,.int .i64 0,.string ⟨#[]⟩,.slice none 0 0,.slice none 0 0] 43)) w1.heap.size _ _ _ _ _:=Box.new _ _ _ _ _;have hz1:=hm1.size;have rf: ∀i,(w1.alloc (.cells #[.int .i64 4,.int .i64 0,.string ⟨#[]⟩,.slice none 0 0,.slice none 0 0] 43)).frozen? ⟨w.heap.size,i,none⟩=false:=fun i=>hm2.rb.free i;have r0:=hm2.rb.c0;have r1:=hm2.rb.c1;have r2:=hm2.rb.c2;have r3:=hm2.rb.c3;have r4:=hm2.rb.c4;have b1:=bY hm2.src;have f1:=cw hm2.src;have n4:w1.heap.size≠g:=by omega
  have n5:w.heap.size≠g:=by omega
  simp only[Option.isNone_some,Option.isNone_none]at b1;have HM2:=hid hm2;have HBX:=hid hbx;clear hm1 hm2 hbx;go_wp2_with fail;clear rf r0 r1 r2 r3 r4 b1 f1;refine(cF g BB 4096 (some s1) _ HM2.out.src hB (by omega)).mono ?_;rintro e w3 ⟨rfl,hs3,ho3⟩;have hm3:=HM2.out.call hs3 ho3 hgl;have hb3:=cR HBX.out ho3 n4;have rf: ∀i,(w3).frozen? ⟨w.heap.size,i,none⟩=false:=fun i=>hm3.rb.free i;have r0:=hm3.rb.c0;have r1:=hm3.rb.c1;have r2:=hm3.rb.c2;have r3:=hm3.rb.c3;have r4:=hm3.rb.c4;have v0:=hb3.c0;have v1:=hb3.c1;have v2:=hb3.c2;have v3:=hb3.c3;have v4:=hb3.c4;have vf:=fun i=>hb3.free i;have n2:w1.heap.size≠w.heap.size:=by omega
  obtain⟨x1,hx1'⟩: ∃x,x=(am 4096 (some s1)).1:=⟨_,rfl⟩;obtain⟨st3,hst3⟩: ∃st3,st3=(am 4096 (some s1)).2:=⟨_,rfl⟩;rw[←hx1'];rw[←hst3]at hm3 hs3;have HM3:=hid hm3;have HB3:=hid hb3;have HX:=hid (And.intro hx1' hst3);clear hm3 hb3 hx1' hst3 hs3 ho3;go_wp2_with fail;have hm4:=HM3.out.set (vb:=w1.heap.size) (i:=2) (u:= .string ⟨x1.toArray⟩) (by omega) hB hgl;refine bodyPost_ret (results_cell_row rfl _ _ w.heap.size 43 _ (0,0) _ rfl (bd hm4.rb) Tryz.underlying43 rfl (by kernel_rfl)) rfl ?_;refine ew (t:= .mk 4 0 (fZ x1) [] []) hm4 hB hgl (LV.mk (S:=fun _=>False) (by unfold Rng;omega) (by unfold Rng;omega) (by obtain⟨rfl,-⟩:=HX.out;have:(am 4096 (some s1)).1.length≤4096:=bD 4096 (some s1) (by omega);have e:(fZ (am 4096 (some s1)).1).size=(am 4096 (some s1)).1.length:=gm _;show(fZ (am 4096 (some s1)).1).size≤_;omega) (by simp) (by simp) (cO _ _ _) (dM _ _ _)) (fun _ h=>h.elim) ?_;have h:=HST.out;obtain⟨rfl,rfl⟩:=HX.out;rw[h];exact kI d 4 (by omega) 0 (by have:=HKK.out;omega)
 by_cases h5:kk=5
 ·subst h5;have hm2:=hm1.alloc (.cells #[.int .i64 5,.int .i64 0,.string ⟨#[]⟩,.slice none 0 0,.slice none 0 0] 43) hB hgl;have hbx:Box (w1.alloc (.cells #[.int .i64 5,.int .i64 0,.string ⟨#[]⟩,.slice none 0 0,.slice none 0 0] 43)) w1.heap.size _ _ _ _ _:=Box.new _ _ _ _ _;have hz1:=hm1.size;have rf: ∀i,(w1.alloc (.cells #[.int .i64 5,.int .i64 0,.string ⟨#[]⟩,.slice none 0 0,.slice none 0 0] 43)).frozen? ⟨w.heap.size,i,none⟩=false:=fun i=>hm2.rb.free i;have r0:=hm2.rb.c0;have r1:=hm2.rb.c1;have r2:=hm2.rb.c2;have r3:=hm2.rb.c3;have r4:=hm2.rb.c4;have b1:=bY hm2.src;have f1:=cw hm2.src;have n4:w1.heap.size≠g:=by omega
  have n5:w.heap.size≠g:=by omega
  simp only[Option.isNone_some,Option.isNone_none]at b1;have HM2:=hid hm2;have HBX:=hid hbx;clear hm1 hm2 hbx;go_wp2_with fail;clear rf r0 r1 r2 r3 r4 b1 f1;refine(cF g BB 4096 (some s1) _ HM2.out.src hB (by omega)).mono ?_;rintro e w3 ⟨rfl,hs3,ho3⟩;have hm3:=HM2.out.call hs3 ho3 hgl;have hb3:=cR HBX.out ho3 n4;have rf: ∀i,(w3).frozen? ⟨w.heap.size,i,none⟩=false:=fun i=>hm3.rb.free i;have r0:=hm3.rb.c0;have r1:=hm3.rb.c1;have r2:=hm3.rb.c2;have r3:=hm3.rb.c3;have r4:=hm3.rb.c4;have v0:=hb3.c0;have v1:=hb3.c1;have v2:=hb3.c2;have v3:=hb3.c3;have v4:=hb3.c4;have vf:=fun i=>hb3.free i;have n2:w1.heap.size≠w.heap.size:=by omega
  obtain⟨x1,hx1'⟩: ∃x,x=(am 4096 (some s1)).1:=⟨_,rfl⟩;obtain⟨st3,hst3⟩: ∃st3,st3=(am 4096 (some s1)).2:=⟨_,rfl⟩;rw[←hx1'];rw[←hst3]at hm3 hs3;have HM3:=hid hm3;have HB3:=hid hb3;have HX:=hid (And.intro hx1' hst3);clear hm3 hb3 hx1' hst3 hs3 ho3;go_wp2_with fail;have hm4:=HM3.out.set (vb:=w1.heap.size) (i:=2) (u:= .string ⟨x1.toArray⟩) (by omega) hB hgl;refine bodyPost_ret (results_cell_row rfl _ _ w.heap.size 43 _ (0,0) _ rfl (bd hm4.rb) Tryz.underlying43 rfl (by kernel_rfl)) rfl ?_;refine ew (t:= .mk 5 0 (fZ x1) [] []) hm4 hB hgl (LV.mk (S:=fun _=>False) (by unfold Rng;omega) (by unfold Rng;omega) (by obtain⟨rfl,-⟩:=HX.out;have:(am 4096 (some s1)).1.length≤4096:=bD 4096 (some s1) (by omega);have e:(fZ (am 4096 (some s1)).1).size=(am 4096 (some s1)).1.length:=gm _;show(fZ (am 4096 (some s1)).1).size≤_;omega) (by simp) (by simp) (cO _ _ _) (dM _ _ _)) (fun _ h=>h.elim) ?_;have h:=HST.out;obtain⟨rfl,rfl⟩:=HX.out;rw[h];exact kI d 5 (by omega) 0 (by have:=HKK.out;omega)
 by_cases h6:kk=6
 ·subst h6;have hm2:=hm1.alloc (.cells #[.int .i64 6,.int .i64 0,.string ⟨#[]⟩,.slice none 0 0,.slice none 0 0] 43) hB hgl;have hbx:Box (w1.alloc (.cells #[.int .i64 6,.int .i64 0,.string ⟨#[]⟩,.slice none 0 0,.slice none 0 0] 43)) w1.heap.size _ _ _ _ _:=Box.new _ _ _ _ _;have hz1:=hm1.size;have rf: ∀i,(w1.alloc (.cells #[.int .i64 6,.int .i64 0,.string ⟨#[]⟩,.slice none 0 0,.slice none 0 0] 43)).frozen? ⟨w.heap.size,i,none⟩=false:=fun i=>hm2.rb.free i;have r0:=hm2.rb.c0;have r1:=hm2.rb.c1;have r2:=hm2.rb.c2;have r3:=hm2.rb.c3;have r4:=hm2.rb.c4;have b1:=bY hm2.src;have f1:=cw hm2.src;have n4:w1.heap.size≠g:=by omega
  have n5:w.heap.size≠g:=by omega
  simp only[Option.isNone_some,Option.isNone_none]at b1;have HM2:=hid hm2;have HBX:=hid hbx;clear hm1 hm2 hbx;go_wp2_with fail;clear rf r0 r1 r2 r3 r4 b1 f1;refine(aS g BB 4096 (some s1) _ HM2.out.src hB (by omega)).mono ?_;rintro e w3 ⟨rfl,hs3,ho3⟩;have hm3:=HM2.out.call hs3 ho3 hgl;have hb3:=cR HBX.out ho3 n4;have hcn:(ae 4096 (some s1)).1≤4096:=aZ 4096 (some s1) (by omega);obtain⟨n,hn⟩: ∃n,n=(ae 4096 (some s1)).1:=⟨_,rfl⟩;obtain⟨st2,hst2⟩: ∃st2,st2=(ae 4096 (some s1)).2:=⟨_,rfl⟩;have HN:=hid hn;have HS2:=hid hst2;rw[←hn]at hcn ⊢;rw[←hst2]at hm3;have hz3:=ho3.size;have hz2:(w1.alloc (.cells #[.int .i64 6,.int .i64 0,.string ⟨#[]⟩,.slice none 0 0,.slice none 0 0] 43)).heap.size=w1.heap.size+1:=by simp
  have HM3:=hid hm3
  have HPV3:Hid (PV w3 (w1.heap.size+1) w1.heap.size 6 [] [] (.slice none 0 0) (.slice none 0 0) (fun _=>False)):=hid
   ⟨hb3,⟨[],⟨rfl,.inl ⟨rfl,rfl⟩⟩,fun j hj=>absurd hj (by simp)⟩,⟨rfl,.inl ⟨rfl,rfl⟩⟩,(fun s hs=>by cases hs),fun _ h=>h.elim,by omega⟩
  clear hm3 hb3 hs3 ho3 hn hst2 HM2 HBX;go_wp2_with fail
  go_loopw [7] (fun i wr=> ∃(j:Nat) (ts:List VT) (ns:List ByteArray) (r:Option (List UInt8)) (VI VN:Value) (S:Nat→Prop),i= .int .i64 j∧j=ts.length∧j≤n∧ns.length≤j∧
    Hid (PV wr (w1.heap.size+1) w1.heap.size 6 ts ns VI VN S)∧Hid (MR w wr g BB r)∧
    Hid (r=none∧j4 false d 0 n st2 ts ns none∨ ∃l0 l,st2=some l0∧r=some l∧Pre false d l0 ts ns l)) (fun i _=>n - (intOf i).toNat)
  case atStart=>
   refine⟨0,[],[],st2,_,_,_,rfl,rfl,by omega,by simp,HPV3,HM3,hid ?_⟩
   cases hh:st2 with
   |none=>exact .inl ⟨rfl,j4.none⟩
   |some l0=>exact .inr ⟨l0,l0,rfl,rfl,Pre.zero _ _ _⟩
  case round=>
   obtain⟨j,ts,ns,r,VI,VN,S,rfl,hj,hjn,hnl,HP,HMR,HI⟩:=hrel;clear HPV3 HM3 hz3 hz2;by_cases hlast:j=n
   ·have hlt1: ¬((j:Int)<(n:Int)):=by omega
    have hlt2:decide ((j:Int)<(n:Int))=false:=decide_eq_false hlt1
    have hrel:=(show j4 false d 0 n st2 ts ns r by
     rcases HI.out with ⟨h1,h2⟩|⟨l0,l,h1,h2,h3⟩
     ·rw[h1];exact h2
     ·rw[h1,h2,←hlast,hj];exact h3.all)
    obtain⟨AI,cI,rfl,hla⟩:=fA HP.out.items (fun b hb=>⟨(HP.out.new b hb).1,(HP.out.new b hb).2.1⟩);obtain⟨AN,cN,rfl,hst⟩:=eK HP.out.names HP.out.small;have hb5:=HP.out.box;have hm5:=HMR.out;have rf: ∀i,(wr).frozen? ⟨w.heap.size,i,none⟩=false:=fun i=>hm5.rb.free i;have r0:=hm5.rb.c0;have r1:=hm5.rb.c1;have r2:=hm5.rb.c2;have r3:=hm5.rb.c3;have r4:=hm5.rb.c4;have v0:=hb5.c0;have v1:=hb5.c1;have v2:=hb5.c2;have v3:=hb5.c3;have v4:=hb5.c4;have vf:=fun i=>hb5.free i;have HLA:=hid hla;have HSA:=hid hst;have HREL:=hid hrel;clear hb5 hm5 hla hst hrel;go_wp2_with fail;refine bodyPost_ret (results_cell_row rfl _ _ w.heap.size 43 _ (0,0) _ rfl (bd HMR.out.rb) Tryz.underlying43 rfl (by kernel_rfl)) rfl ?_;refine ew (t:= .mk 6 0 eS ts ns) HMR.out hB hgl (LV.mk (S:=New (w1.heap.size+1) wr) (by unfold Rng;omega) (by unfold Rng;omega) (by decide) (by omega) (by omega) HSA.out HLA.out) (fun b hb=>⟨by have:=hb.1;omega,hb.2⟩) ?_;have h:=HST.out;refine go d 6 (by omega) 0 (by have:=HKK.out;omega) ?_;rw[←h,←HN.out,←HS2.out];exact HREL.out
   ·have hlt1:(j:Int)<(n:Int):=by omega
    have hlt2:decide ((j:Int)<(n:Int))=true:=decide_eq_true hlt1;rcases r with _|l
    ·have b1:=bY HMR.out.src;simp only[Option.isNone_none]at b1
     have hrel:=(show j4 false d 0 n st2 ts ns none by
      rcases HI.out with ⟨h1,h2⟩|⟨l0,l,h1,h2,h3⟩
      ·exact h2
      ·cases h2)
     obtain⟨AI,cI,rfl,hla⟩:=fA HP.out.items (fun b hb=>⟨(HP.out.new b hb).1,(HP.out.new b hb).2.1⟩);obtain⟨AN,cN,rfl,hst⟩:=eK HP.out.names HP.out.small;have hb5:=HP.out.box;have hm5:=HMR.out;have rf: ∀i,(wr).frozen? ⟨w.heap.size,i,none⟩=false:=fun i=>hm5.rb.free i;have r0:=hm5.rb.c0;have r1:=hm5.rb.c1;have r2:=hm5.rb.c2;have r3:=hm5.rb.c3;have r4:=hm5.rb.c4;have v0:=hb5.c0;have v1:=hb5.c1;have v2:=hb5.c2;have v3:=hb5.c3;have v4:=hb5.c4;have vf:=fun i=>hb5.free i;have HLA:=hid hla;have HSA:=hid hst;have HREL:=hid hrel;clear hb5 hm5 hla hst hrel;go_wp2_with fail;refine bodyPost_ret (results_cell_row rfl _ _ w.heap.size 43 _ (0,0) _ rfl (bd HMR.out.rb) Tryz.underlying43 rfl (by kernel_rfl)) rfl ?_;refine ew (t:= .mk 6 0 eS ts ns) HMR.out hB hgl (LV.mk (S:=New (w1.heap.size+1) wr) (by unfold Rng;omega) (by unfold Rng;omega) (by decide) (by omega) (by omega) HSA.out HLA.out) (fun b hb=>⟨by have:=hb.1;omega,hb.2⟩) ?_;have h:=HST.out;refine go d 6 (by omega) 0 (by have:=HKK.out;omega) ?_;rw[←h,←HN.out,←HS2.out];exact HREL.out
    ·have b1:=bY HMR.out.src;simp only[Option.isNone_some]at b1;have k0:wr.cell? ⟨w1.heap.size,0,none⟩=some (.int .i64 6):=HP.out.box.c0
     obtain⟨l0,hl0,hpre⟩: ∃l0,st2=some l0∧Pre false d l0 ts ns l:=by
      rcases HI.out with ⟨h1,h2⟩|⟨l0,l',h1,h2,h3⟩
      ·cases h1
      ·cases h2;exact⟨l0,h1,h3⟩
     have HL0:=hid hl0;have HPRE:=hid hpre;clear hl0 hpre HI;go_wp2_with fail;clear k0 b1;have HPQ:=HP;have HMQ:=HMR;clear HP HMR;generalize wr=wq at HPQ HMQ ⊢;generalize VN=VQ at HPQ;obtain⟨rq,hrq⟩: ∃rq,rq=some l:=⟨_,rfl⟩;rw[←hrq]at HMQ;have HRQ:=hid hrq;clear hrq;obtain⟨xs,hown,hitems⟩:=HPQ.out.items
     obtain⟨AI,cI,hVI⟩: ∃A c,VI= .slice A ts.length c:=by
      rcases hown.2 with ⟨h0,h1⟩|⟨q,cap,cur,h0,_⟩
      ·exact⟨none,0,by rw[h0,h1]⟩
      ·exact⟨_,_,h0⟩
     subst hVI;have hzr:=HMQ.out.size;have hgr:=HMQ.out.src.lt;have hvr:=HPQ.out.box.lt;have hBr:w1.heap.size+1≤wq.heap.size:=hvr;have k3: ∀p:bW (du w1.heap.size w1.heap.size) wq.drew,p.u.cell? ⟨w1.heap.size,3,none⟩=some (.slice AI ts.length cI):=fun p=>(eC.1 p 3).trans HPQ.out.box.c3;have HITEMS:=hid hitems;clear hitems;refine bm (du w1.heap.size w1.heap.size) (du.refl _ _) (fun _ _ _ h k=>h.trans k) [9] (.pure [0,1,2,3,4] (.step 5 (.step 6 (.step 7 (.free [8] (.tail [9])))))) (by kernel_rfl) (by kernel_rfl) (fun _ d _ _ _ h=>by cases d<;>exact h) ?_;refine dg ?_;simp only[atR];show wpQuiet _ _ _ _ [_,_,_,_,_] _;repeat(go_big_quiet_step (fail))
     refine wpQuiet_nil ?_;refine aT rfl (fun K hK=> ?_)
     go_simp
     rw[HX1.out];refine(hok g BB rq wq.drew (HMQ.out.src.keep rfl (Below.refl _ _).drew) hB).mono ?_;rintro e w5 ⟨v,t,st',rfl,hs5,ho5,hv5,hrel⟩;obtain⟨T3,d3,T4,d4,rfl,-⟩:=hv5.shape;have hz5:wq.heap.size≤w5.heap.size:=ho5.size;have hf5: ∀b,b<wq.heap.size→b≠g→w5.heap[b]? =wq.heap[b]? :=fun b hb hbg=>ho5.block b hb (fun e=>hbg (by cases e;rfl));refine hK _ _ (.inr ⟨hf5 _ hvr n4,hf5 _ hvr n4⟩) ?_;clear hK K k3;refine aT rfl (fun K hK=> ?_)
     go_simp
     have hvl:w1.heap.size<w5.heap.size:=by omega
     refine hK _ _ (.inr ⟨Below.heap_alloc w5 _ _ hvl,Below.heap_alloc w5 _ _ hvl⟩) ?_;clear hK K;have hc1:=heap_alloc_new w5 (.cells #[.int .i64 t.kind,.int .i64 t.num,.string t.text,.slice T3 t.items.length d3,.slice T4 t.names.length d4] 43);have hc2: ∀b,b<w5.heap.size→(w5.alloc (.cells #[.int .i64 t.kind,.int .i64 t.num,.string t.text,.slice T3 t.items.length d3,.slice T4 t.names.length d4] 43)).heap[b]? =w5.heap[b]? :=Below.heap_alloc w5 _;have hc3:(w5.alloc (.cells #[.int .i64 t.kind,.int .i64 t.num,.string t.text,.slice T3 t.items.length d3,.slice T4 t.names.length d4] 43)).heap.size=w5.heap.size+1:=by simp
     have hc4:(w5.alloc (.cells #[.int .i64 t.kind,.int .i64 t.num,.string t.text,.slice T3 t.items.length d3,.slice T4 t.names.length d4] 43)).os=wq.os∧(w5.alloc (.cells #[.int .i64 t.kind,.int .i64 t.num,.string t.text,.slice T3 t.items.length d3,.slice T4 t.names.length d4] 43)).tape=wq.drew.tape∧(w5.alloc (.cells #[.int .i64 t.kind,.int .i64 t.num,.string t.text,.slice T3 t.items.length d3,.slice T4 t.names.length d4] 43)).output=wq.output:=⟨ho5.os,ho5.tape,ho5.output⟩;generalize w5.alloc (.cells #[.int .i64 t.kind,.int .i64 t.num,.string t.text,.slice T3 t.items.length d3,.slice T4 t.names.length d4] 43)=wc at hc1 hc2 hc3 hc4 ⊢;have hAIlt: ∀q,(Value.slice AI ts.length cI).ownBlock=some q→w1.heap.size+1≤q∧q<wq.heap.size:=fun q hq=>World.ownsRow.lt hown q hq
     have hown1:=aM hown (w':=wc) fun q hq=>by
      have:=hAIlt q hq;exact(hc2 q (by omega)).trans (hf5 q (by omega) (by omega))
     refine fB rfl rfl (fun K hK=> ?_);obtain⟨i0,hi,hi0,hi1,hi2⟩:=info_parts Tryz.infoVal;refine bo _ _ _ 40 rfl (w1.heap.size+1) 43 i0 _ 5 80 Tryz.underlying40 hi hi0 hi1 hi2 rfl (by decide) _ ts.length xs rfl hown1 ⟨w5.heap.size,0,none⟩ 1 1 [.int .i64 t.kind,.int .i64 t.num,.string t.text,.slice T3 t.items.length d3,.slice T4 t.names.length d4] rfl rfl ?_ ?_ (by unfold maxLen;omega) (by omega) (by omega) ?_
     ·intro j u hj;rw[add_at,Nat.zero_add];exact(Go.Joins.cell_of_block hc1 j).trans (by simpa using hj)
     ·intro u hu;simp only[List.mem_cons,List.not_mem_nil,or_false]at hu;rcases hu with rfl|rfl|rfl|rfl|rfl<;>rfl
     intro v2 w6 hown2 hg2 hmv
     obtain⟨p,cap,rfl,hpB⟩: ∃p cap,v2= .slice (some ⟨p,0,none⟩) (ts.length+1) cap∧w1.heap.size+1≤p:=by
      rcases hown2.2 with ⟨-,h0⟩|⟨p,cap,cur,h1,h2,-⟩
      ·omega
      ·exact⟨p,cap,h1,h2⟩
     have hpw:(Value.slice AI ts.length cI).ownBlock=some p∨wc.heap.size≤p:=by
      rcases hmv with h|⟨q,h1,h2⟩
      ·exact .inl h.symm
      ·simp only[Value.ownBlock,Option.some.injEq]at h2;subst h2;exact .inr h1
     have hg3: ∀b,b<wc.heap.size→some b≠(Value.slice AI ts.length cI).ownBlock→w6.heap[b]? =wc.heap[b]? :=fun b hb hne=>hg2.block b hb hne;have hg2': ∀b,b<wq.heap.size→b≠g→some b≠(Value.slice AI ts.length cI).ownBlock→w6.heap[b]? =wq.heap[b]? :=fun b hb hbg hne=>(hg2.block b (by omega) hne).trans ((hc2 b (by omega)).trans (hf5 b hb hbg))
     have hvno: ∀b,b<w1.heap.size+1→some b≠(Value.slice AI ts.length cI).ownBlock:=fun b hb he=>by
      have:=(hAIlt b he.symm).1;omega
     have hlow: ∀b,b<w1.heap.size+1→w6.heap[b]? =wc.heap[b]? :=fun b hb=>hg2.block b (by omega) (hvno b hb);refine hK _ _ (.inr ⟨hlow _ (by omega),hlow _ (by omega)⟩) ?_;clear hK K;have hwz:wc.heap.size≤w6.heap.size:=hg2.size;have hbx2:Box w6 w1.heap.size (.int .i64 6) (.int .i64 0) (.string eS) (.slice AI ts.length cI) VQ:=(hg2' _ (by omega) n4 (hvno _ (by omega))).trans HPQ.out.box;have hpq:(Value.slice AI ts.length cI).ownBlock=some p∨wq.heap.size≤p:=hpw.imp id fun h=>by omega
     have ho6:w6.os=wq.os∧w6.tape=wq.drew.tape∧w6.output=wq.output:=⟨hg2.os.trans hc4.1,hg2.tape.trans hc4.2.1,hg2.output.trans hc4.2.2⟩;have hg6:w6.heap[g]? =w5.heap[g]? :=(hlow g (by omega)).trans (hc2 g (by omega));have hz6:wq.heap.size≤w6.heap.size:=by omega
     have hz6':w5.heap.size<w6.heap.size:=by omega
     have hnp: ∀b,dB wq.heap.size w5 b→b≠p:=by
      rintro b ⟨hb1,hb2⟩ rfl;rcases hpw with h|h
      ·have:=hAIlt b h;omega
      ·omega
     have hlv6:LV w6 (fun b=>wq.heap.size≤b∧b<w6.heap.size∧b≠p) t _:=(hv5.keep (w':=w6) fun b hb=>(hg3 b (by have:=hb.2;omega) (fun e=>by have:=hAIlt b e.symm;have h1:wq.heap.size≤b:=hb.1;omega)).trans (hc2 b hb.2)).imp fun b hb=>⟨hb.1,by have:=hb.2;omega,hnp b hb⟩;have H6:=hid (And.intro hown2 (And.intro hg2' (And.intro hg6 (And.intro ho6 (And.intro hs5 (And.intro ho5 hlv6))))));have HREL:=hid hrel;clear hown2 hg2' hg3 hg6 ho6 hs5 ho5 hlow hpw hown1 hc1 hc2 hc3 hc4 hwz hg2 hmv hf5 hv5 hlv6 hnp hrel;refine dK ?_;simp only[atR];show wpQuiet _ _ _ _ [_] _;simp only[acR,Act.put];repeat(go_big_quiet_step (fail))
     refine wpQuiet_nil ?_;have b3:=hbx2.c3;have f3:=hbx2.free 3;refine dJ rfl (fun K hK=> ?_)
     go_simp
     refine hK _ _ ?_;clear hK K b3 f3;refine dt ?_;obtain⟨hown2,hg2',hg6,ho6,hs5,ho5,hlv6⟩:=H6.out;have hvp:w1.heap.size≠p:=by omega
     have hs3: ∀b,b≠w1.heap.size→(w6.setCell ⟨w1.heap.size,3,none⟩ (.slice (some ⟨p,0,none⟩) (ts.length+1) cap)).heap[b]? =w6.heap[b]? :=fun b hb=>heap_setCell_other w6 ⟨w1.heap.size,3,none⟩ b _ hb;have hz3:(w6.setCell ⟨w1.heap.size,3,none⟩ (.slice (some ⟨p,0,none⟩) (ts.length+1) cap)).heap.size=w6.heap.size:=by simp
     have hpv:=HPQ.out.item (g:=g) (w4:=w6.setCell ⟨w1.heap.size,3,none⟩ (.slice (some ⟨p,0,none⟩) (ts.length+1) cap)) (t:=t) hown HITEMS.out (by omega) (by omega) (fun b hb hbg hbv hbN=>(hs3 b hbv).trans (hg2' b hb hbg hbN)) hpq (aM hown2 fun q hq=>hs3 q (by simp only[Value.ownBlock,Option.some.injEq]at hq;subst hq;exact fun e=>hvp e.symm)) (hbx2.set3 _)
      ((hlv6.keep (w':=w6.setCell ⟨w1.heap.size,3,none⟩ (.slice (some ⟨p,0,none⟩) (ts.length+1) cap)) fun b hb=>hs3 b (by have:=hb.1;omega)).imp fun b hb=>⟨hb.1,by rw[hz3];exact hb.2.1,hb.2.2⟩) hBr
     have hfar:Far w1.heap.size g wq (w6.setCell ⟨w1.heap.size,3,none⟩ (.slice (some ⟨p,0,none⟩) (ts.length+1) cap)):=⟨ho6.1,ho6.2.1,ho6.2.2,by omega,fun b hb hbg=>(hs3 b (by omega)).trans (hg2' b (by omega) hbg (hvno b (by omega)))⟩;have hrs:RS (w6.setCell ⟨w1.heap.size,3,none⟩ (.slice (some ⟨p,0,none⟩) (ts.length+1) cap)) g BB st':=hs5.keep ((hs3 g (by omega)).trans hg6) ⟨ho6.1.trans ho5.os.symm,ho6.2.1.trans ho5.tape.symm,ho6.2.2.trans ho5.output.symm,by omega,fun b hb=>(hs3 b (by omega)).trans ((hg2' b (by omega) (by omega) (hvno b (by omega))).trans (ho5.block b (by show b<wq.heap.size;omega) (fun e=>by cases e;omega)).symm)⟩;have HPV4:=hid hpv;have HMR4:=hid (HMQ.out.fars hrs hfar hgl (by omega));clear hpv hfar hrs hs3 hz3 hown2 hg2' hg6 ho6 hs5 ho5 hbx2 hpq hz6 hz6' H6 hvno hAIlt HPQ HMQ hvr hgr hzr hvl hBr hz5 hlv6 HITEMS hown;generalize w6.setCell ⟨w1.heap.size,3,none⟩ (.slice (some ⟨p,0,none⟩) (ts.length+1) cap)=w8 at HPV4 HMR4 ⊢
     have hrn:xK false d 0 (some l) t st':=by
      have h:=HREL.out;rw[HRQ.out]at h;exact h
     have HRN:=hid hrn;clear hrn HREL;have HPV5:Hid (PV w8 (w1.heap.size+1) w1.heap.size 6 (ts++[t]) (lC false ns (gY false (some l)).1) _ _ _):=HPV4;clear HPV4;go_wp2_with fail
     go_roundw
     case rel=>
      refine⟨j+1,_,_,st',_,_,_,by go_num,by simp[hj],by omega,?_,HPV5,HMR4,hid ?_⟩
      ·have:=fM false ns (gY false (some l)).1;omega
      ·rcases st' with _|r2
       ·refine .inl ⟨rfl,?_⟩;rw[HL0.out];exact HPRE.out.bad (by omega) HRN.out
       ·obtain⟨lx,hx1,hx2⟩:=HRN.out;exact .inr ⟨l0,r2,HL0.out,rfl,HPRE.out.step (nm:=(gY false (some l)).1) (r1:=lx) (by rw[←hx1]) hx2⟩
     case measure=>simp[intOf];omega
 by_cases h7:kk=7
 ·subst h7;have hm2:=hm1.alloc (.cells #[.int .i64 7,.int .i64 0,.string ⟨#[]⟩,.slice none 0 0,.slice none 0 0] 43) hB hgl;have hbx:Box (w1.alloc (.cells #[.int .i64 7,.int .i64 0,.string ⟨#[]⟩,.slice none 0 0,.slice none 0 0] 43)) w1.heap.size _ _ _ _ _:=Box.new _ _ _ _ _;have hz1:=hm1.size;have rf: ∀i,(w1.alloc (.cells #[.int .i64 7,.int .i64 0,.string ⟨#[]⟩,.slice none 0 0,.slice none 0 0] 43)).frozen? ⟨w.heap.size,i,none⟩=false:=fun i=>hm2.rb.free i;have r0:=hm2.rb.c0;have r1:=hm2.rb.c1;have r2:=hm2.rb.c2;have r3:=hm2.rb.c3;have r4:=hm2.rb.c4;have b1:=bY hm2.src;have f1:=cw hm2.src;have n4:w1.heap.size≠g:=by omega
  have n5:w.heap.size≠g:=by omega
  simp only[Option.isNone_some,Option.isNone_none]at b1;have HM2:=hid hm2;have HBX:=hid hbx;clear hm1 hm2 hbx;go_wp2_with fail;clear rf r0 r1 r2 r3 r4 b1 f1;refine(aS g BB 4096 (some s1) _ HM2.out.src hB (by omega)).mono ?_;rintro e w3 ⟨rfl,hs3,ho3⟩;have hm3:=HM2.out.call hs3 ho3 hgl;have hb3:=cR HBX.out ho3 n4;have hcn:(ae 4096 (some s1)).1≤4096:=aZ 4096 (some s1) (by omega);obtain⟨n,hn⟩: ∃n,n=(ae 4096 (some s1)).1:=⟨_,rfl⟩;obtain⟨st2,hst2⟩: ∃st2,st2=(ae 4096 (some s1)).2:=⟨_,rfl⟩;have HN:=hid hn;have HS2:=hid hst2;rw[←hn]at hcn ⊢;rw[←hst2]at hm3;have hz3:=ho3.size;have hz2:(w1.alloc (.cells #[.int .i64 7,.int .i64 0,.string ⟨#[]⟩,.slice none 0 0,.slice none 0 0] 43)).heap.size=w1.heap.size+1:=by simp
  have HM3:=hid hm3
  have HPV3:Hid (PV w3 (w1.heap.size+1) w1.heap.size 7 [] [] (.slice none 0 0) (.slice none 0 0) (fun _=>False)):=hid
   ⟨hb3,⟨[],⟨rfl,.inl ⟨rfl,rfl⟩⟩,fun j hj=>absurd hj (by simp)⟩,⟨rfl,.inl ⟨rfl,rfl⟩⟩,(fun s hs=>by cases hs),fun _ h=>h.elim,by omega⟩
  clear hm3 hb3 hs3 ho3 hn hst2 HM2 HBX;go_wp2_with fail
  go_loopw [7] (fun i wr=> ∃(j:Nat) (ts:List VT) (ns:List ByteArray) (r:Option (List UInt8)) (VI VN:Value) (S:Nat→Prop),i= .int .i64 j∧j=ts.length∧j≤n∧ns.length≤j∧
    Hid (PV wr (w1.heap.size+1) w1.heap.size 7 ts ns VI VN S)∧Hid (MR w wr g BB r)∧
    Hid (r=none∧j4 true d 0 n st2 ts ns none∨ ∃l0 l,st2=some l0∧r=some l∧Pre true d l0 ts ns l)) (fun i _=>n - (intOf i).toNat)
  case atStart=>
   refine⟨0,[],[],st2,_,_,_,rfl,rfl,by omega,by simp,HPV3,HM3,hid ?_⟩
   cases hh:st2 with
   |none=>exact .inl ⟨rfl,j4.none⟩
   |some l0=>exact .inr ⟨l0,l0,rfl,rfl,Pre.zero _ _ _⟩
  case round=>
   obtain⟨j,ts,ns,r,VI,VN,S,rfl,hj,hjn,hnl,HP,HMR,HI⟩:=hrel;clear HPV3 HM3 hz3 hz2;by_cases hlast:j=n
   ·have hlt1: ¬((j:Int)<(n:Int)):=by omega
    have hlt2:decide ((j:Int)<(n:Int))=false:=decide_eq_false hlt1
    have hrel:=(show j4 true d 0 n st2 ts ns r by
     rcases HI.out with ⟨h1,h2⟩|⟨l0,l,h1,h2,h3⟩
     ·rw[h1];exact h2
     ·rw[h1,h2,←hlast,hj];exact h3.all)
    obtain⟨AI,cI,rfl,hla⟩:=fA HP.out.items (fun b hb=>⟨(HP.out.new b hb).1,(HP.out.new b hb).2.1⟩);obtain⟨AN,cN,rfl,hst⟩:=eK HP.out.names HP.out.small;have hb5:=HP.out.box;have hm5:=HMR.out;have rf: ∀i,(wr).frozen? ⟨w.heap.size,i,none⟩=false:=fun i=>hm5.rb.free i;have r0:=hm5.rb.c0;have r1:=hm5.rb.c1;have r2:=hm5.rb.c2;have r3:=hm5.rb.c3;have r4:=hm5.rb.c4;have v0:=hb5.c0;have v1:=hb5.c1;have v2:=hb5.c2;have v3:=hb5.c3;have v4:=hb5.c4;have vf:=fun i=>hb5.free i;have HLA:=hid hla;have HSA:=hid hst;have HREL:=hid hrel;clear hb5 hm5 hla hst hrel;go_wp2_with fail;refine bodyPost_ret (results_cell_row rfl _ _ w.heap.size 43 _ (0,0) _ rfl (bd HMR.out.rb) Tryz.underlying43 rfl (by kernel_rfl)) rfl ?_;refine ew (t:= .mk 7 0 eS ts ns) HMR.out hB hgl (LV.mk (S:=New (w1.heap.size+1) wr) (by unfold Rng;omega) (by unfold Rng;omega) (by decide) (by omega) (by omega) HSA.out HLA.out) (fun b hb=>⟨by have:=hb.1;omega,hb.2⟩) ?_;have h:=HST.out;refine go d 7 (by omega) 0 (by have:=HKK.out;omega) ?_;rw[←h,←HN.out,←HS2.out];exact HREL.out
   ·have hlt1:(j:Int)<(n:Int):=by omega
    have hlt2:decide ((j:Int)<(n:Int))=true:=decide_eq_true hlt1;rcases r with _|l
    ·have b1:=bY HMR.out.src;simp only[Option.isNone_none]at b1
     have hrel:=(show j4 true d 0 n st2 ts ns none by
      rcases HI.out with ⟨h1,h2⟩|⟨l0,l,h1,h2,h3⟩
      ·exact h2
      ·cases h2)
     obtain⟨AI,cI,rfl,hla⟩:=fA HP.out.items (fun b hb=>⟨(HP.out.new b hb).1,(HP.out.new b hb).2.1⟩);obtain⟨AN,cN,rfl,hst⟩:=eK HP.out.names HP.out.small;have hb5:=HP.out.box;have hm5:=HMR.out;have rf: ∀i,(wr).frozen? ⟨w.heap.size,i,none⟩=false:=fun i=>hm5.rb.free i;have r0:=hm5.rb.c0;have r1:=hm5.rb.c1;have r2:=hm5.rb.c2;have r3:=hm5.rb.c3;have r4:=hm5.rb.c4;have v0:=hb5.c0;have v1:=hb5.c1;have v2:=hb5.c2;have v3:=hb5.c3;have v4:=hb5.c4;have vf:=fun i=>hb5.free i;have HLA:=hid hla;have HSA:=hid hst;have HREL:=hid hrel;clear hb5 hm5 hla hst hrel;go_wp2_with fail;refine bodyPost_ret (results_cell_row rfl _ _ w.heap.size 43 _ (0,0) _ rfl (bd HMR.out.rb) Tryz.underlying43 rfl (by kernel_rfl)) rfl ?_;refine ew (t:= .mk 7 0 eS ts ns) HMR.out hB hgl (LV.mk (S:=New (w1.heap.size+1) wr) (by unfold Rng;omega) (by unfold Rng;omega) (by decide) (by omega) (by omega) HSA.out HLA.out) (fun b hb=>⟨by have:=hb.1;omega,hb.2⟩) ?_;have h:=HST.out;refine go d 7 (by omega) 0 (by have:=HKK.out;omega) ?_;rw[←h,←HN.out,←HS2.out];exact HREL.out
    ·have b1:=bY HMR.out.src;simp only[Option.isNone_some]at b1;have k0:wr.cell? ⟨w1.heap.size,0,none⟩=some (.int .i64 7):=HP.out.box.c0
     obtain⟨l0,hl0,hpre⟩: ∃l0,st2=some l0∧Pre true d l0 ts ns l:=by
      rcases HI.out with ⟨h1,h2⟩|⟨l0,l',h1,h2,h3⟩
      ·cases h1
      ·cases h2;exact⟨l0,h1,h3⟩
     have HL0:=hid hl0;have HPRE:=hid hpre;clear hl0 hpre HI;go_wp2_with fail;clear k0 b1
     obtain⟨AN,cN,hVN⟩: ∃A c,VN= .slice A ns.length c:=by
      rcases HP.out.names.2 with ⟨h0,h1⟩|⟨q,cap,cur,h0,_⟩
      ·exact⟨none,0,by rw[h0,h1]⟩
      ·exact⟨_,_,h0⟩
     subst hVN;have hzr:=HMR.out.size;have hgr:=HMR.out.src.lt;have hvr:=HP.out.box.lt;have k4: ∀p:bW (du w1.heap.size w1.heap.size) wr.drew,p.u.cell? ⟨w1.heap.size,4,none⟩=some (.slice AN ns.length cN):=fun p=>(eC.1 p 4).trans HP.out.box.c4;refine bm (du w1.heap.size w1.heap.size) (du.refl _ _) (fun _ _ _ h k=>h.trans k) [7] (.pure [0,1,2] (.step 3 (.step 4 (.step 5 (.free [6] (.tail [7])))))) (by kernel_rfl) (by kernel_rfl) (fun _ d _ _ _ h=>by cases d<;>exact h) ?_;refine dg ?_;simp only[atR];show wpQuiet _ _ _ _ [_,_,_] _;repeat(go_big_quiet_step (fail))
     refine wpQuiet_nil ?_;refine aT rfl (fun K hK=> ?_)
     go_simp
     refine(cF g BB 32 (some l) wr.drew (HMR.out.src.keep rfl (Below.refl _ _).drew) hB (by omega)).mono ?_;rintro e w5 ⟨rfl,hs5,ho5⟩;have hz5:wr.heap.size≤w5.heap.size:=ho5.size;have hf5: ∀b,b<wr.heap.size→b≠g→w5.heap[b]? =wr.heap[b]? :=fun b hb hbg=>ho5.block b hb (fun e=>hbg (by cases e;rfl));refine hK _ _ (.inr ⟨hf5 _ hvr n4,hf5 _ hvr n4⟩) ?_;clear hK K k4;have hlen:(am 32 (some l)).1.length≤32:=bD 32 (some l) (by omega)
     have hlen2:(⟨(am 32 (some l)).1.toArray⟩:ByteArray).size≤140737488351232:=by
      show(am 32 (some l)).1.toArray.size≤_;rw[List.size_toArray];exact Nat.le_trans hlen (by omega)
     generalize hnm:(⟨(am 32 (some l)).1.toArray⟩:ByteArray)=nm at hlen2 ⊢;refine aT rfl (fun K hK=> ?_)
     go_simp
     have hvl:w1.heap.size<w5.heap.size:=by omega
     refine hK _ _ (.inr ⟨Below.heap_alloc w5 _ _ hvl,Below.heap_alloc w5 _ _ hvl⟩) ?_;clear hK K;have hc1:=heap_alloc_new w5 (.cells #[.string nm] 9);have hc2: ∀b,b<w5.heap.size→(w5.alloc (.cells #[.string nm] 9)).heap[b]? =w5.heap[b]? :=Below.heap_alloc w5 _;have hc3:(w5.alloc (.cells #[.string nm] 9)).heap.size=w5.heap.size+1:=by simp
     have hc4:(w5.alloc (.cells #[.string nm] 9)).os=wr.os∧(w5.alloc (.cells #[.string nm] 9)).tape=wr.drew.tape∧(w5.alloc (.cells #[.string nm] 9)).output=wr.output:=⟨ho5.os,ho5.tape,ho5.output⟩;generalize w5.alloc (.cells #[.string nm] 9)=wc at hc1 hc2 hc3 hc4 ⊢;have hBr:w1.heap.size+1≤wr.heap.size:=hvr;have hnlt: ∀q,(Value.slice AN ns.length cN).ownBlock=some q→w1.heap.size+1≤q∧q<wr.heap.size:=fun q hq=>World.ownsRow.lt HP.out.names q hq
     have hown1:=aM HP.out.names (w':=wc) fun q hq=>by
      have:=hnlt q hq;exact(hc2 q (by omega)).trans (hf5 q (by omega) (by omega))
     refine fB rfl rfl (fun K hK=> ?_);obtain⟨i0,hi,hi0,hi1,hi2⟩:=info_parts Tryz.infoStr;refine bo _ _ _ 41 rfl (w1.heap.size+1) 9 i0 _ 1 16 Tryz.underlying41 hi hi0 hi1 hi2 rfl (by decide) _ ns.length (ns.map Value.string) rfl hown1 ⟨w5.heap.size,0,none⟩ 1 1 [.string nm] rfl rfl ?_ ?_ (by unfold maxLen;omega) (by omega) (by omega) ?_
     ·intro j u hj;rw[add_at,Nat.zero_add];exact(Go.Joins.cell_of_block hc1 j).trans (by simpa using hj)
     ·intro u hu;simp only[List.mem_cons,List.not_mem_nil,or_false]at hu;rcases hu with rfl
      rfl
     intro v2 w6 hown2 hg2 hmv
     obtain⟨p,cap,rfl,hpB⟩: ∃p cap,v2= .slice (some ⟨p,0,none⟩) (ns.length+1) cap∧w1.heap.size+1≤p:=by
      rcases hown2.2 with ⟨-,h0⟩|⟨p,cap,cur,h1,h2,-⟩
      ·omega
      ·exact⟨p,cap,h1,h2⟩
     have hpw:(Value.slice AN ns.length cN).ownBlock=some p∨wc.heap.size≤p:=by
      rcases hmv with h|⟨q,h1,h2⟩
      ·exact .inl h.symm
      ·simp only[Value.ownBlock,Option.some.injEq]at h2;subst h2;exact .inr h1
     have hg2': ∀b,b<wr.heap.size→b≠g→some b≠(Value.slice AN ns.length cN).ownBlock→w6.heap[b]? =wr.heap[b]? :=fun b hb hbg hne=>(hg2.block b (by omega) hne).trans ((hc2 b (by omega)).trans (hf5 b hb hbg))
     have hvno: ∀b,b<w1.heap.size+1→some b≠(Value.slice AN ns.length cN).ownBlock:=fun b hb he=>by
      have:=(hnlt b he.symm).1;omega
     have hlow: ∀b,b<w1.heap.size+1→w6.heap[b]? =wc.heap[b]? :=fun b hb=>hg2.block b (by omega) (hvno b hb);refine hK _ _ (.inr ⟨hlow _ (by omega),hlow _ (by omega)⟩) ?_;clear hK K;have hwz:wc.heap.size≤w6.heap.size:=hg2.size;have hbx2:Box w6 w1.heap.size (.int .i64 7) (.int .i64 0) (.string eS) VI (.slice AN ns.length cN):=(hg2' _ (by omega) n4 (hvno _ (by omega))).trans HP.out.box;have hpq:(Value.slice AN ns.length cN).ownBlock=some p∨wr.heap.size≤p:=hpw.imp id fun h=>by omega
     have ho6:w6.os=wr.os∧w6.tape=wr.drew.tape∧w6.output=wr.output:=⟨hg2.os.trans hc4.1,hg2.tape.trans hc4.2.1,hg2.output.trans hc4.2.2⟩;have hg6:w6.heap[g]? =w5.heap[g]? :=(hlow g (by omega)).trans (hc2 g (by omega));have hz6:wr.heap.size≤w6.heap.size:=by omega
     have hz6':w5.heap.size<w6.heap.size:=by omega
     have H6:=hid (And.intro hown2 (And.intro hg2' (And.intro hg6 (And.intro ho6 (And.intro hs5 ho5)))));clear hown2 hg2' hg6 ho6 hs5 ho5 hlow hpw hown1 hc1 hc2 hc3 hc4 hwz hg2 hmv hf5;refine dK ?_;simp only[atR];show wpQuiet _ _ _ _ [_] _;simp only[acR,Act.put];repeat(go_big_quiet_step (fail))
     refine wpQuiet_nil ?_;have b4:=hbx2.c4;have f4:=hbx2.free 4;refine dJ rfl (fun K hK=> ?_)
     go_simp
     refine hK _ _ ?_;clear hK K b4 f4;refine dt ?_;obtain⟨hown2,hg2',hg6,ho6,hs5,ho5⟩:=H6.out;have hvp:w1.heap.size≠p:=by omega
     have hs3: ∀b,b≠w1.heap.size→(w6.setCell ⟨w1.heap.size,4,none⟩ (.slice (some ⟨p,0,none⟩) (ns.length+1) cap)).heap[b]? =w6.heap[b]? :=fun b hb=>heap_setCell_other w6 ⟨w1.heap.size,4,none⟩ b _ hb;have hz3:(w6.setCell ⟨w1.heap.size,4,none⟩ (.slice (some ⟨p,0,none⟩) (ns.length+1) cap)).heap.size=w6.heap.size:=by simp
     have hpv:PV (w6.setCell ⟨w1.heap.size,4,none⟩ (.slice (some ⟨p,0,none⟩) (ns.length+1) cap)) (w1.heap.size+1) w1.heap.size 7 ts (ns++[nm]) VI (.slice (some ⟨p,0,none⟩) (ns.length+1) cap) S:=
      HP.out.named (g:=g) (by omega) (by omega) (fun b hb hbg hbv hbN=>(hs3 b hbv).trans (hg2' b hb hbg hbN)) hpq (aM hown2 fun q hq=>hs3 q (by simp only[Value.ownBlock,Option.some.injEq]at hq;subst hq;exact fun e=>hvp e.symm)) (hbx2.set4 _) hlen2
     have hfar:Far w1.heap.size g wr (w6.setCell ⟨w1.heap.size,4,none⟩ (.slice (some ⟨p,0,none⟩) (ns.length+1) cap)):=⟨ho6.1,ho6.2.1,ho6.2.2,by omega,fun b hb hbg=>(hs3 b (by omega)).trans (hg2' b (by omega) hbg (hvno b (by omega)))⟩;have hrs:RS (w6.setCell ⟨w1.heap.size,4,none⟩ (.slice (some ⟨p,0,none⟩) (ns.length+1) cap)) g BB (am 32 (some l)).2:=hs5.keep ((hs3 g (by omega)).trans hg6) ⟨ho6.1.trans ho5.os.symm,ho6.2.1.trans ho5.tape.symm,ho6.2.2.trans ho5.output.symm,by omega,fun b hb=>(hs3 b (by omega)).trans ((hg2' b (by omega) (by omega) (hvno b (by omega))).trans (ho5.block b (by show b<wr.heap.size;omega) (fun e=>by cases e;omega)).symm)⟩;have HPQ:=hid hpv;have HMQ:=hid (HMR.out.fars hrs hfar hgl (by omega));have HNM:=hid hnm;clear hpv hfar hrs hs3 hz3 hown2 hg2' hg6 ho6 hs5 ho5 hbx2 hpq hz6 hz6' H6 hvno hnlt hnm hlen hlen2 HP HMR hvr hgr hzr hvl hBr hz5;generalize w6.setCell ⟨w1.heap.size,4,none⟩ (.slice (some ⟨p,0,none⟩) (ns.length+1) cap)=wq at HPQ HMQ ⊢;generalize (Value.slice (some ⟨p,0,none⟩) (ns.length+1) cap)=VQ at HPQ;obtain⟨nq,hnq⟩: ∃nq,nq=ns++[nm]:=⟨_,rfl⟩;have HNQ:=hid hnq;rw[←hnq]at HPQ;obtain⟨rq,hrq⟩: ∃rq,rq=(am 32 (some l)).2:=⟨_,rfl⟩;have HRQ:=hid hrq;rw[←hrq]at HMQ;clear hnq hrq;go_wp2_with fail;obtain⟨xs,hown,hitems⟩:=HPQ.out.items
     obtain⟨AI,cI,hVI⟩: ∃A c,VI= .slice A ts.length c:=by
      rcases hown.2 with ⟨h0,h1⟩|⟨q,cap,cur,h0,_⟩
      ·exact⟨none,0,by rw[h0,h1]⟩
      ·exact⟨_,_,h0⟩
     subst hVI;have hzr:=HMQ.out.size;have hgr:=HMQ.out.src.lt;have hvr:=HPQ.out.box.lt;have hBr:w1.heap.size+1≤wq.heap.size:=hvr;have k3: ∀p:bW (du w1.heap.size w1.heap.size) wq.drew,p.u.cell? ⟨w1.heap.size,3,none⟩=some (.slice AI ts.length cI):=fun p=>(eC.1 p 3).trans HPQ.out.box.c3;have HITEMS:=hid hitems;clear hitems;refine bm (du w1.heap.size w1.heap.size) (du.refl _ _) (fun _ _ _ h k=>h.trans k) [9] (.pure [0,1,2,3,4] (.step 5 (.step 6 (.step 7 (.free [8] (.tail [9])))))) (by kernel_rfl) (by kernel_rfl) (fun _ d _ _ _ h=>by cases d<;>exact h) ?_;refine dg ?_;simp only[atR];show wpQuiet _ _ _ _ [_,_,_,_,_] _;repeat(go_big_quiet_step (fail))
     refine wpQuiet_nil ?_;refine aT rfl (fun K hK=> ?_)
     go_simp
     rw[HX1.out];refine(hok g BB rq wq.drew (HMQ.out.src.keep rfl (Below.refl _ _).drew) hB).mono ?_;rintro e w5 ⟨v,t,st',rfl,hs5,ho5,hv5,hrel⟩;obtain⟨T3,d3,T4,d4,rfl,-⟩:=hv5.shape;have hz5:wq.heap.size≤w5.heap.size:=ho5.size;have hf5: ∀b,b<wq.heap.size→b≠g→w5.heap[b]? =wq.heap[b]? :=fun b hb hbg=>ho5.block b hb (fun e=>hbg (by cases e;rfl));refine hK _ _ (.inr ⟨hf5 _ hvr n4,hf5 _ hvr n4⟩) ?_;clear hK K k3;refine aT rfl (fun K hK=> ?_)
     go_simp
     have hvl:w1.heap.size<w5.heap.size:=by omega
     refine hK _ _ (.inr ⟨Below.heap_alloc w5 _ _ hvl,Below.heap_alloc w5 _ _ hvl⟩) ?_;clear hK K;have hc1:=heap_alloc_new w5 (.cells #[.int .i64 t.kind,.int .i64 t.num,.string t.text,.slice T3 t.items.length d3,.slice T4 t.names.length d4] 43);have hc2: ∀b,b<w5.heap.size→(w5.alloc (.cells #[.int .i64 t.kind,.int .i64 t.num,.string t.text,.slice T3 t.items.length d3,.slice T4 t.names.length d4] 43)).heap[b]? =w5.heap[b]? :=Below.heap_alloc w5 _;have hc3:(w5.alloc (.cells #[.int .i64 t.kind,.int .i64 t.num,.string t.text,.slice T3 t.items.length d3,.slice T4 t.names.length d4] 43)).heap.size=w5.heap.size+1:=by simp
     have hc4:(w5.alloc (.cells #[.int .i64 t.kind,.int .i64 t.num,.string t.text,.slice T3 t.items.length d3,.slice T4 t.names.length d4] 43)).os=wq.os∧(w5.alloc (.cells #[.int .i64 t.kind,.int .i64 t.num,.string t.text,.slice T3 t.items.length d3,.slice T4 t.names.length d4] 43)).tape=wq.drew.tape∧(w5.alloc (.cells #[.int .i64 t.kind,.int .i64 t.num,.string t.text,.slice T3 t.items.length d3,.slice T4 t.names.length d4] 43)).output=wq.output:=⟨ho5.os,ho5.tape,ho5.output⟩;generalize w5.alloc (.cells #[.int .i64 t.kind,.int .i64 t.num,.string t.text,.slice T3 t.items.length d3,.slice T4 t.names.length d4] 43)=wc at hc1 hc2 hc3 hc4 ⊢;have hAIlt: ∀q,(Value.slice AI ts.length cI).ownBlock=some q→w1.heap.size+1≤q∧q<wq.heap.size:=fun q hq=>World.ownsRow.lt hown q hq
     have hown1:=aM hown (w':=wc) fun q hq=>by
      have:=hAIlt q hq;exact(hc2 q (by omega)).trans (hf5 q (by omega) (by omega))
     refine fB rfl rfl (fun K hK=> ?_);obtain⟨i0,hi,hi0,hi1,hi2⟩:=info_parts Tryz.infoVal;refine bo _ _ _ 40 rfl (w1.heap.size+1) 43 i0 _ 5 80 Tryz.underlying40 hi hi0 hi1 hi2 rfl (by decide) _ ts.length xs rfl hown1 ⟨w5.heap.size,0,none⟩ 1 1 [.int .i64 t.kind,.int .i64 t.num,.string t.text,.slice T3 t.items.length d3,.slice T4 t.names.length d4] rfl rfl ?_ ?_ (by unfold maxLen;omega) (by omega) (by omega) ?_
     ·intro j u hj;rw[add_at,Nat.zero_add];exact(Go.Joins.cell_of_block hc1 j).trans (by simpa using hj)
     ·intro u hu;simp only[List.mem_cons,List.not_mem_nil,or_false]at hu;rcases hu with rfl|rfl|rfl|rfl|rfl<;>rfl
     intro v2 w6 hown2 hg2 hmv
     obtain⟨p,cap,rfl,hpB⟩: ∃p cap,v2= .slice (some ⟨p,0,none⟩) (ts.length+1) cap∧w1.heap.size+1≤p:=by
      rcases hown2.2 with ⟨-,h0⟩|⟨p,cap,cur,h1,h2,-⟩
      ·omega
      ·exact⟨p,cap,h1,h2⟩
     have hpw:(Value.slice AI ts.length cI).ownBlock=some p∨wc.heap.size≤p:=by
      rcases hmv with h|⟨q,h1,h2⟩
      ·exact .inl h.symm
      ·simp only[Value.ownBlock,Option.some.injEq]at h2;subst h2;exact .inr h1
     have hg3: ∀b,b<wc.heap.size→some b≠(Value.slice AI ts.length cI).ownBlock→w6.heap[b]? =wc.heap[b]? :=fun b hb hne=>hg2.block b hb hne;have hg2': ∀b,b<wq.heap.size→b≠g→some b≠(Value.slice AI ts.length cI).ownBlock→w6.heap[b]? =wq.heap[b]? :=fun b hb hbg hne=>(hg2.block b (by omega) hne).trans ((hc2 b (by omega)).trans (hf5 b hb hbg))
     have hvno: ∀b,b<w1.heap.size+1→some b≠(Value.slice AI ts.length cI).ownBlock:=fun b hb he=>by
      have:=(hAIlt b he.symm).1;omega
     have hlow: ∀b,b<w1.heap.size+1→w6.heap[b]? =wc.heap[b]? :=fun b hb=>hg2.block b (by omega) (hvno b hb);refine hK _ _ (.inr ⟨hlow _ (by omega),hlow _ (by omega)⟩) ?_;clear hK K;have hwz:wc.heap.size≤w6.heap.size:=hg2.size;have hbx2:Box w6 w1.heap.size (.int .i64 7) (.int .i64 0) (.string eS) (.slice AI ts.length cI) VQ:=(hg2' _ (by omega) n4 (hvno _ (by omega))).trans HPQ.out.box;have hpq:(Value.slice AI ts.length cI).ownBlock=some p∨wq.heap.size≤p:=hpw.imp id fun h=>by omega
     have ho6:w6.os=wq.os∧w6.tape=wq.drew.tape∧w6.output=wq.output:=⟨hg2.os.trans hc4.1,hg2.tape.trans hc4.2.1,hg2.output.trans hc4.2.2⟩;have hg6:w6.heap[g]? =w5.heap[g]? :=(hlow g (by omega)).trans (hc2 g (by omega));have hz6:wq.heap.size≤w6.heap.size:=by omega
     have hz6':w5.heap.size<w6.heap.size:=by omega
     have hnp: ∀b,dB wq.heap.size w5 b→b≠p:=by
      rintro b ⟨hb1,hb2⟩ rfl;rcases hpw with h|h
      ·have:=hAIlt b h;omega
      ·omega
     have hlv6:LV w6 (fun b=>wq.heap.size≤b∧b<w6.heap.size∧b≠p) t _:=(hv5.keep (w':=w6) fun b hb=>(hg3 b (by have:=hb.2;omega) (fun e=>by have:=hAIlt b e.symm;have h1:wq.heap.size≤b:=hb.1;omega)).trans (hc2 b hb.2)).imp fun b hb=>⟨hb.1,by have:=hb.2;omega,hnp b hb⟩;have H6:=hid (And.intro hown2 (And.intro hg2' (And.intro hg6 (And.intro ho6 (And.intro hs5 (And.intro ho5 hlv6))))));have HREL:=hid hrel;clear hown2 hg2' hg3 hg6 ho6 hs5 ho5 hlow hpw hown1 hc1 hc2 hc3 hc4 hwz hg2 hmv hf5 hv5 hlv6 hnp hrel;refine dK ?_;simp only[atR];show wpQuiet _ _ _ _ [_] _;simp only[acR,Act.put];repeat(go_big_quiet_step (fail))
     refine wpQuiet_nil ?_;have b3:=hbx2.c3;have f3:=hbx2.free 3;refine dJ rfl (fun K hK=> ?_)
     go_simp
     refine hK _ _ ?_;clear hK K b3 f3;refine dt ?_;obtain⟨hown2,hg2',hg6,ho6,hs5,ho5,hlv6⟩:=H6.out;have hvp:w1.heap.size≠p:=by omega
     have hs3: ∀b,b≠w1.heap.size→(w6.setCell ⟨w1.heap.size,3,none⟩ (.slice (some ⟨p,0,none⟩) (ts.length+1) cap)).heap[b]? =w6.heap[b]? :=fun b hb=>heap_setCell_other w6 ⟨w1.heap.size,3,none⟩ b _ hb;have hz3:(w6.setCell ⟨w1.heap.size,3,none⟩ (.slice (some ⟨p,0,none⟩) (ts.length+1) cap)).heap.size=w6.heap.size:=by simp
     have hpv:=HPQ.out.item (g:=g) (w4:=w6.setCell ⟨w1.heap.size,3,none⟩ (.slice (some ⟨p,0,none⟩) (ts.length+1) cap)) (t:=t) hown HITEMS.out (by omega) (by omega) (fun b hb hbg hbv hbN=>(hs3 b hbv).trans (hg2' b hb hbg hbN)) hpq (aM hown2 fun q hq=>hs3 q (by simp only[Value.ownBlock,Option.some.injEq]at hq;subst hq;exact fun e=>hvp e.symm)) (hbx2.set3 _)
      ((hlv6.keep (w':=w6.setCell ⟨w1.heap.size,3,none⟩ (.slice (some ⟨p,0,none⟩) (ts.length+1) cap)) fun b hb=>hs3 b (by have:=hb.1;omega)).imp fun b hb=>⟨hb.1,by rw[hz3];exact hb.2.1,hb.2.2⟩) hBr
     have hfar:Far w1.heap.size g wq (w6.setCell ⟨w1.heap.size,3,none⟩ (.slice (some ⟨p,0,none⟩) (ts.length+1) cap)):=⟨ho6.1,ho6.2.1,ho6.2.2,by omega,fun b hb hbg=>(hs3 b (by omega)).trans (hg2' b (by omega) hbg (hvno b (by omega)))⟩;have hrs:RS (w6.setCell ⟨w1.heap.size,3,none⟩ (.slice (some ⟨p,0,none⟩) (ts.length+1) cap)) g BB st':=hs5.keep ((hs3 g (by omega)).trans hg6) ⟨ho6.1.trans ho5.os.symm,ho6.2.1.trans ho5.tape.symm,ho6.2.2.trans ho5.output.symm,by omega,fun b hb=>(hs3 b (by omega)).trans ((hg2' b (by omega) (by omega) (hvno b (by omega))).trans (ho5.block b (by show b<wq.heap.size;omega) (fun e=>by cases e;omega)).symm)⟩;have HPV4:=hid hpv;have HMR4:=hid (HMQ.out.fars hrs hfar hgl (by omega));clear hpv hfar hrs hs3 hz3 hown2 hg2' hg6 ho6 hs5 ho5 hbx2 hpq hz6 hz6' H6 hvno hAIlt HPQ HMQ hvr hgr hzr hvl hBr hz5 hlv6 HITEMS hown;generalize w6.setCell ⟨w1.heap.size,3,none⟩ (.slice (some ⟨p,0,none⟩) (ts.length+1) cap)=w8 at HPV4 HMR4 ⊢
     have hrn:xK true d 0 (some l) t st':=by
      have h:=HREL.out;rw[HRQ.out]at h;exact h
     have HRN:=hid hrn;clear hrn HREL
     have hnames:nq=lC true ns (gY true (some l)).1:=by
      rw[HNQ.out,←HNM.out];rfl
     have HPV5:Hid (PV w8 (w1.heap.size+1) w1.heap.size 7 (ts++[t]) (lC true ns (gY true (some l)).1) _ _ _):=hid (by rw[←hnames];exact HPV4.out);clear HPV4;go_wp2_with fail
     go_roundw
     case rel=>
      refine⟨j+1,_,_,st',_,_,_,by go_num,by simp[hj],by omega,?_,HPV5,HMR4,hid ?_⟩
      ·have:=fM true ns (gY true (some l)).1;omega
      ·rcases st' with _|r2
       ·refine .inl ⟨rfl,?_⟩;rw[HL0.out];exact HPRE.out.bad (by omega) HRN.out
       ·obtain⟨lx,hx1,hx2⟩:=HRN.out;exact .inr ⟨l0,r2,HL0.out,rfl,HPRE.out.step (nm:=(gY true (some l)).1) (r1:=lx) (by rw[←hx1]) hx2⟩
     case measure=>simp[intOf];omega
 have c1:=beq_false_of_ne h1;have c2:=beq_false_of_ne h2;have c3:=beq_false_of_ne h3;have c4:=beq_false_of_ne h4;have c5:=beq_false_of_ne h5;have c6:=beq_false_of_ne h6;have c7:=beq_false_of_ne h7;have hm2:=hm1.alloc (.cells #[.int .i64 kk,.int .i64 0,.string ⟨#[]⟩,.slice none 0 0,.slice none 0 0] 43) hB hgl;have hbx:Box (w1.alloc (.cells #[.int .i64 kk,.int .i64 0,.string ⟨#[]⟩,.slice none 0 0,.slice none 0 0] 43)) w1.heap.size _ _ _ _ _:=Box.new _ _ _ _ _;have hz1:=hm1.size;have rf: ∀i,(w1.alloc (.cells #[.int .i64 kk,.int .i64 0,.string ⟨#[]⟩,.slice none 0 0,.slice none 0 0] 43)).frozen? ⟨w.heap.size,i,none⟩=false:=fun i=>hm2.rb.free i;have r0:=hm2.rb.c0;have r1:=hm2.rb.c1;have r2:=hm2.rb.c2;have r3:=hm2.rb.c3;have r4:=hm2.rb.c4;have b1:=bY hm2.src;have f1:=cw hm2.src;have n4:w1.heap.size≠g:=by omega
 have n5:w.heap.size≠g:=by omega
 simp only[Option.isNone_some,Option.isNone_none]at b1;have HM2:=hid hm2;have HBX:=hid hbx;clear hm1 hm2 hbx;have hm3:=HM2.out.spoil hgl;go_wp2_with fail;refine bodyPost_ret (results_cell_row rfl _ _ w.heap.size 43 _ (0,0) _ rfl (bd hm3.rb) Tryz.underlying43 rfl (by kernel_rfl)) rfl ?_;have hk:=HKK.out;refine ew (t:= .mk kk 0 eS [] []) hm3 hB hgl (LV.mk (S:=fun _=>False) (by have:=gp st;unfold Rng;omega) (by unfold Rng;omega) (by decide) (by simp) (by simp) (cO _ _ _) (dM _ _ _)) (fun _ h=>h.elim) ?_;exact qM d 0 (k:=(ak st).1) rfl (by omega) _
theorem vB :tx 0:=by
 intro g BB st w hs hB;have hgl:=hs.lt;have HM0:=hid (MR.first hs hB);clear hs;go_enter Tryz.func110,Tryz.ntmps110;go_wp2_with fail;refine(cV g BB st _ HM0.out.src hB).mono ?_;rintro e w1 ⟨rfl,hs1,ho1⟩;obtain⟨kk,hkk⟩: ∃kk:Int,kk=((ak st).1:Int):=⟨_,rfl⟩;rw[←hkk];have hm1:=HM0.out.call hs1 ho1 hgl;clear ho1 hs1 HM0 hkk;have hm2:=hm1.alloc (.cells #[.int .i64 kk,.int .i64 0,.string ⟨#[]⟩,.slice none 0 0,.slice none 0 0] 43) hB hgl;have hbx:Box (w1.alloc (.cells #[.int .i64 kk,.int .i64 0,.string ⟨#[]⟩,.slice none 0 0,.slice none 0 0] 43)) w1.heap.size _ _ _ _ _:=Box.new _ _ _ _ _;have hz1:=hm1.size;have rf: ∀i,(w1.alloc (.cells #[.int .i64 kk,.int .i64 0,.string ⟨#[]⟩,.slice none 0 0,.slice none 0 0] 43)).frozen? ⟨w.heap.size,i,none⟩=false:=fun i=>hm2.rb.free i;have r0:=hm2.rb.c0;have r1:=hm2.rb.c1;have r2:=hm2.rb.c2;have r3:=hm2.rb.c3;have r4:=hm2.rb.c4;have b1:=bY hm2.src;have f1:=cw hm2.src;have n4:w1.heap.size≠g:=by omega
 have n5:w.heap.size≠g:=by omega
 have HM2:=hid hm2;have HBX:=hid hbx;clear hm1 hm2 hbx;have hm3:=HM2.out.spoil hgl;go_wp2_with fail;refine bodyPost_ret (results_cell_row rfl _ _ w.heap.size 43 _ (0,0) _ rfl (bd hm3.rb) Tryz.underlying43 rfl (by kernel_rfl)) rfl ?_;exact ew (t:=gZ) hm3 hB hgl (gj _ (fun _=>False)) (fun _ h=>h.elim) (fun l u r _ hu=>by cases hu)
theorem tJ : ∀d:Nat,d≤8→tx d
 |0,_=>vB
 |d+1,h=>wb d (by omega) (tJ d (by omega))
end Go.Proofs.YtgfidiocmiolpaaGreat
