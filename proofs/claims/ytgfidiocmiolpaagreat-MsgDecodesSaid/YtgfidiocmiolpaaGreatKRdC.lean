/- The document's own decoder: Read and Decode. -/
import Derived.Test.YtgfidiocmiolpaaGreatKRdB
import Derived.Test.YtgfidiocmiolpaaGreatKRefZ
import Derived.Test.YtgfidiocmiolpaaGreatKCodG
set_option maxHeartbeats 64000000
set_option maxRecDepth 100000
set_option linter.unusedVariables false
set_option linter.unusedSimpArgs false
namespace Go.Proofs.YtgfidiocmiolpaaGreat
open Lib (hid)
open Go.RowKit
theorem sf {st:Option (List UInt8)}{t:VT}(h:Rel 8 0 st t none):aQ st=(gZ,none):=by
 rcases st with _|l
 ·rfl
 ·have h2:gw l=none:=by
   unfold gw
   cases hr:rdW 8 l with
   |none=>rfl
   |some p=>
    obtain⟨u,r⟩:=p;rcases h l u r rfl hr with h3|h3
    ·have hc:bh u=20:=by unfold bh;rw[h3];rfl
     simp[hc]
    ·omega
  rw[ez,h2]
def vL (g BB:Nat)(st:Option (List UInt8))(w:World)(e:Ending)(w':World):Prop:=
 ∃v,e= .returned v∧RS w' g BB (aQ st).2∧au w w' g∧LV w' (dB w.heap.size w') (aQ st).1 v
theorem kU {w w4:World}{g BB:Nat}{st st':Option (List UInt8)}{S:Nat→Prop}{t:VT}{c0 c1 c2 c3 c4:Value}(h:MR w w4 g BB st')(hB:BB≤g)(hg:g<w.heap.size)
  (hv:LV w4 S t (.agg #[c0,c1,c2,c3,c4])) (hS: ∀b,S b→w.heap.size+1≤b∧b<w4.heap.size) (hr:aQ st=(t,st')):
  vL g BB st w (.returned (.agg #[c0,c1,c2,c3,c4])) (cX w4 w.heap.size 0 c0 c1 c2 c3 c4):=by
 have hr5:=eE w4 w.heap.size 0 c0 c1 c2 c3 c4;have hsz:=cK w4 w.heap.size 0 c0 c1 c2 c3 c4;have hz:=h.size;refine⟨_,rfl,?_,⟨hr5.1.trans h.only.os,hr5.2.1.trans h.only.tape,hr5.2.2.trans h.only.output,by rw[hsz];omega,fun b hb hbg=> ?_⟩,?_⟩
 ·rw[hr];exact h.src.only (fun b hb hb'=>bi _ _ _ _ _ _ _ _ b (by omega)) (by omega) hr5.1 hr5.2.1 hr5.2.2 (by rw[hsz];exact Nat.le_refl _)
 ·rw[bi _ _ _ _ _ _ _ _ b (by omega)];exact h.only.block b hb hbg
 ·rw[hr];refine(hv.keep (w':=_) fun b hb=>bi _ _ _ _ _ _ _ _ b (by have:=hS b hb;omega)).imp fun b hb=> ?_;have:=hS b hb;exact⟨by omega,by rw[hsz];omega⟩
theorem gV (g BB:Nat)(st:Option (List UInt8))(w:World)(hs:RS w g BB st)(hB:BB≤g):Calls Tryz.prog 80 #[.pointer (some ⟨g,0,none⟩)] w (vL g BB st w):=by
 have hgl:=hs.lt;have hm0:=MR.first hs hB;have b1:=bY hm0.src;have rf: ∀i,(w.alloc (.cells #[.int .i64 0,.int .i64 0,.string ⟨#[]⟩,.slice none 0 0,.slice none 0 0] 43)).frozen? ⟨w.heap.size,i,none⟩=false:=fun i=>hm0.rb.free i;have r0:=hm0.rb.c0;have r1:=hm0.rb.c1;have r2:=hm0.rb.c2;have r3:=hm0.rb.c3;have r4:=hm0.rb.c4;have HM0:=hid hm0;clear hs hm0;go_enter Tryz.func80,Tryz.ntmps80;rcases st with _|l
 ·simp only[Option.isNone_none]at b1;go_wp2_with fail;refine bodyPost_ret (results_cell_row rfl _ _ w.heap.size 43 _ (0,0) _ rfl HM0.out.rb Tryz.underlying43 rfl (by kernel_rfl)) rfl ?_;exact⟨_,rfl,HM0.out.src,HM0.out.only,gj _ _⟩
 ·simp only[Option.isNone_some]at b1;go_wp2_with fail;clear b1 rf r0 r1 r2 r3 r4;refine(tJ 8 (Nat.le_refl 8) g BB (some l) _ HM0.out.src hB).mono ?_;rintro e w1 ⟨v,t,st',rfl,hs1,ho1,hv1,hrel⟩;obtain⟨T3,d3,T4,d4,rfl,-⟩:=hv1.shape;have hz0:(w.alloc (.cells #[.int .i64 0,.int .i64 0,.string ⟨#[]⟩,.slice none 0 0,.slice none 0 0] 43)).heap.size=w.heap.size+1:=by simp
  have hm1:=HM0.out.call hs1 ho1 hgl;have hz1:=hm1.size;have hv2:=hv1.imp (S':=fun b=>w.heap.size+1≤b∧b<w1.heap.size) fun b hb=>⟨by have:=hb.1;omega,hb.2⟩;have hm2:=hm1.alloc (.cells #[.int .i64 t.kind,.int .i64 t.num,.string t.text,.slice T3 t.items.length d3,.slice T4 t.names.length d4] 43) hB hgl;have hbx:Box (w1.alloc (.cells #[.int .i64 t.kind,.int .i64 t.num,.string t.text,.slice T3 t.items.length d3,.slice T4 t.names.length d4] 43)) w1.heap.size _ _ _ _ _:=Box.new _ _ _ _ _;have hv4:LV (w1.alloc (.cells #[.int .i64 t.kind,.int .i64 t.num,.string t.text,.slice T3 t.items.length d3,.slice T4 t.names.length d4] 43)) (fun b=>w.heap.size+1≤b∧b<w1.heap.size) t _:=hv2.keep fun b hb=>Below.heap_alloc w1 _ b hb.2;have hz4:(w1.alloc (.cells #[.int .i64 t.kind,.int .i64 t.num,.string t.text,.slice T3 t.items.length d3,.slice T4 t.names.length d4] 43)).heap.size=w1.heap.size+1:=by simp
  have b1:=bY hm2.src;have f1:=cw hm2.src;have rf: ∀i,(w1.alloc (.cells #[.int .i64 t.kind,.int .i64 t.num,.string t.text,.slice T3 t.items.length d3,.slice T4 t.names.length d4] 43)).frozen? ⟨w.heap.size,i,none⟩=false:=fun i=>hm2.rb.free i;have r0:=hm2.rb.c0;have r1:=hm2.rb.c1;have r2:=hm2.rb.c2;have r3:=hm2.rb.c3;have r4:=hm2.rb.c4;have n4:w1.heap.size≠g:=by omega
  have n5:w.heap.size≠g:=by omega
  have HM2:=hid hm2;have HBX:=hid hbx;have HV4:=hid hv4;have HZ4:=hid hz4;have HREL:=hid hrel;clear hs1 ho1 hv1 hm1 hv2 hm2 hbx hv4 hz4 hrel hz0 HM0;rcases st' with _|r
  ·simp only[Option.isNone_none]at b1;have hm3:=HM2.out.spoil hgl;go_wp2_with fail;refine bodyPost_ret (results_cell_row rfl _ _ w.heap.size 43 _ (0,0) _ rfl (bd hm3.rb) Tryz.underlying43 rfl (by kernel_rfl)) rfl ?_;exact kU (t:=gZ) hm3 hB hgl (gj _ (fun _=>False)) (fun _ h=>h.elim) (sf HREL.out)
  ·simp only[Option.isNone_some]at b1;go_wp2_with fail;clear b1 f1 rf r0 r1 r2 r3 r4;refine(iz _ t _ _ (by have:=oQ HREL.out;omega) (fun b hb=>by have:=HZ4.out;have:=hb.2;omega) HV4.out).mono ?_;rintro e w2 ⟨rfl,hb2⟩;have ho2:au (w1.alloc (.cells #[.int .i64 t.kind,.int .i64 t.num,.string t.text,.slice T3 t.items.length d3,.slice T4 t.names.length d4] 43)) w2 g:=⟨hb2.os,hb2.tape,hb2.output,hb2.size,fun b hb _=>hb2.block b hb⟩;have hm3:=HM2.out.call (HM2.out.src.keep (hb2.block g HM2.out.src.lt) (hb2.mono (by have:=HM2.out.src.lt;omega))) ho2 hgl;have hx2:=HBX.out.call hb2;have hv2:LV w2 (fun b=>w.heap.size+1≤b∧b<w1.heap.size) t _:=HV4.out.keep fun b hb=>hb2.block b (by have:=HZ4.out;have:=hb.2;omega);have hz2:w1.heap.size+1≤w2.heap.size:=by have:=HZ4.out;have:=hb2.size;omega
   have b1:=bY hm3.src;have f1:=cw hm3.src;have rf: ∀i,w2.frozen? ⟨w.heap.size,i,none⟩=false:=fun i=>hm3.rb.free i;have r0:=hm3.rb.c0;have r1:=hm3.rb.c1;have r2:=hm3.rb.c2;have r3:=hm3.rb.c3;have r4:=hm3.rb.c4;have v0:=hx2.c0;have v1:=hx2.c1;have v2:=hx2.c2;have v3:=hx2.c3;have v4:=hx2.c4;have HM3:=hid hm3;have HV2:=hid hv2;clear hb2 ho2 hm3 hx2 hv2 HM2 HBX HV4 HZ4;obtain⟨x,hx⟩: ∃x,x=bh t:=⟨_,rfl⟩;rw[←hx];have HC:=hid hx;clear hx;by_cases h0:x=0
   ·subst h0;go_wp2_with fail;refine bodyPost_ret (results_cell_row rfl _ _ w.heap.size 43 _ (0,0) _ rfl (bd HM3.out.rb) Tryz.underlying43 rfl (by kernel_rfl)) rfl ?_;exact kU HM3.out hB hgl HV2.out (fun b hb=>⟨hb.1,by have:=hb.2;omega⟩) (mq HREL.out HC.out.symm)
   ·have h1:(x == 0)=false:=beq_false_of_ne h0;have h2:(x != 0)=true:=by simp[h0]
    have hm4:=HM3.out.spoil hgl;go_wp2_with fail;refine bodyPost_ret (results_cell_row rfl _ _ w.heap.size 43 _ (0,0) _ rfl (bd hm4.rb) Tryz.underlying43 rfl (by kernel_rfl)) rfl ?_;exact kU (t:=gZ) hm4 hB hgl (gj _ (fun _=>False)) (fun _ h=>h.elim) (jG HREL.out (fun h=>h0 (HC.out.trans h)))
end Go.Proofs.YtgfidiocmiolpaaGreat
