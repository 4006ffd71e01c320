/- Changes that came in. -/
import Derived.Test.YtgbopnlpaabelaaGreatDoorKRefO
import Derived.Test.YtgbopnlpaabelaaGreatDoorKRefM
import Derived.Test.YtgbopnlpaabelaaGreatDoorKTkO
import Derived.Test.YtgbopnlpaabelaaGreatDoorKPathA
import Derived.Test.YtgbopnlpaabelaaGreatDoorKSpJ
import Derived.Test.YtgbopnlpaabelaaGreatDoorKValF
import Derived.Test.YtgbopnlpaabelaaGreatDoorKMath
import Derived.Test.YtgbopnlpaabelaaGreatDoorKPathS
import Derived.Test.YtgbopnlpaabelaaGreatDoorKTrE
import Derived.Test.YtgbopnlpaabelaaGreatDoorKTsD
import Derived.Test.YtgbopnlpaabelaaGreatDoorKValQ
import Derived.Lib.ItoaNum
set_option maxHeartbeats 64000000
set_option maxRecDepth 100000
set_option linter.unusedVariables false
set_option linter.unusedSimpArgs false
namespace Go.Proofs.YtgbopnlpaabelaaGreatDoor
open Go.ChangeShapes Go.WideShapes Go.RowKit Go.Joins Go.Deep
def zT (w:World)(A:Option Addr)(l:List av):Prop:= ∀k,k<l.length→ ∀b off,A=some ⟨b,off,none⟩→ ∀PA n pc,w.cell? ⟨b,off+k * 8+1,none⟩=some (.slice PA n pc)→pc≤9223372036854775807
section
variable {H :Type} {enc:TypeId×Value→H} {W:World} {sp:Nat→Bool}
theorem ql {fuel:Nat}{cs:List Value}{x:DataW H×List MemPlace}(h:DataW.trod enc Tryz.prog W 0 sp true fuel 23 cs=some x)(hw: ∀n∈x.1.weights Tryz.prog 23,n≤reachBytes):
  ∃A c,∃ns:List ByteArray,cs= [.slice A ns.length c]∧ns.length≤c∧(A=none→c=0)∧c≤9223372036854775807∧ns.length≤8796093021952∧ai W (fun b=>b<W.heap.size) A ns:=by
 obtain⟨A,c,ns,hcs,h1,h2,h3,h4⟩:=ik h hw;refine⟨A,c,ns,hcs,h1,h2,?_,h3,h4⟩;rcases open_strings Tryz.underlying23 Tryz.underlying9 mC h with ⟨h0,_⟩|⟨a,len,cap,ss,h0,-,hl,hm,-⟩
 ·rw[hcs]at h0;injection h0 with h0
  injection h0 with e1 e2 e3
  omega
 ·rw[hcs]at h0;injection h0 with h0
  injection h0 with e1 e2 e3
  unfold maxLen at hm;omega
end
end Go.Proofs.YtgbopnlpaabelaaGreatDoor
/- Changes done one behind the other, by the program. -/
namespace Go.Proofs.YtgbopnlpaabelaaGreatDoor
open Lib (hid)
open Go.RowKit
def rF (K:Nat)(l:List av):Prop:= ∀d∈l,aM K d.val=true
theorem vl {l:List av}{k:Nat}(hk:k<l.length):l.take (k+1)=l.take k++[l[k]]:=List.take_succ_eq_append_getElem hk
theorem pY {l:List av}{t u:VT}{k:Nat}(hk:k<l.length)(h:doL (l.take k) t=(0,u)):doL (l.take (k+1)) t=if(doD l[k] u).1=0 then doD l[k] u else((doD l[k] u).1,bP):=by
 rw[vl hk,rm,h];rfl
theorem zC {l:List av}{t u:VT}{k:Nat}(hk:k<l.length)(h:doL (l.take k) t=(0,u))(hx:(doD l[k] u).1≠0):doL l t=((doD l[k] u).1,bP):=by
 have h1:=pY hk h;rw[if_neg hx]at h1;have h2:=zB (r:=l.drop (k+1)) (l:=l.take (k+1)) (t:=t) (by rw[h1];exact hx);rw[List.take_append_drop,h1]at h2;exact h2
structure rd (w wr:World)(g:Nat)(u:VT)(A:Option Addr)(c:Nat)(A':Option Addr)(c':Nat):Prop where
 below:Below w.heap.size w wr
 zero:Box wr (w.heap.size+1) (.int .i64 0) (.int .i64 0) (.string ⟨#[]⟩) (.slice none 0 0) (.slice none 0 0)
 box:Box wr g (.int .i64 u.kind) (.int .i64 u.num) (.string u.text) (.slice A u.items.length c) (.slice A' u.names.length c')
 val:LV wr (fun b=>w.heap.size+2≤b∧b<wr.heap.size∧b≠g) u (.agg #[.int .i64 u.kind,.int .i64 u.num,.string u.text,.slice A u.items.length c,.slice A' u.names.length c'])
 far:w.heap.size+2≤g
theorem rd.end {w wr:World}{g:Nat}{u:VT}{A:Option Addr}{c:Nat}{A':Option Addr}{c':Nat}{r:Int×VT}(h:rd w wr g u A c A' c')(hr:r=(0,u)):
  dF r w (.returned (.tuple #[.agg #[.int .i64 u.kind,.int .i64 u.num,.string u.text,.slice A u.items.length c,.slice A' u.names.length c'],.int .i64 0])) (cI wr (w.heap.size+1) 0 (.int .i64 u.kind) (.int .i64 u.num) (.string u.text) (.slice A u.items.length c) (.slice A' u.names.length c')):=
 cu 1 h.below (h.val.imp fun b hb=>⟨by have:=hb.1;omega,hb.2.1⟩) hr
theorem jK {w wr:World}{x:Int}{r:Int×VT}(hb:Below w.heap.size w wr)(hr:r=(x,bP)):dF r w (.returned (.tuple #[.agg #[.int .i64 0,.int .i64 0,.string ⟨#[]⟩,.slice none 0 0,.slice none 0 0],.int .i64 x])) (cI wr (w.heap.size+1) 0 (.int .i64 0) (.int .i64 0) (.string ⟨#[]⟩) (.slice none 0 0) (.slice none 0 0)):=by
 subst hr;exact cu 1 hb (eZ _ _ _ _ _ (by unfold Rng;omega) (by unfold Rng;omega) (by decide)) rfl
theorem hO (S:Nat→Prop)(t:VT)(v:Value)(A:Option Addr)(c:Nat)(l:List av)(w:World)(K D:Nat)(hS: ∀b,S b→b<w.heap.size)(h:LV w S t v)(hd:ac t≤D)(hlt:aM K t=true)(hK:K≤9000)(hD:D≤1000000)
  (hl:de w S A l) (hcap:zT w A l) (hn:l.length≤140737488351232) (hsm:l.length≤64→gy l∧jS l∧rF K l):
  Calls Tryz.prog 21 #[v,.slice A l.length c] w (dF (aP l t) w):=by
 obtain⟨A0,c0,A0',c0',rfl,-,-,-,v1,hb0⟩:=bV hS h;have hV:=h;have hz1:(w.alloc (.cells #[.int .i64 t.kind,.int .i64 t.num,.string t.text,.slice A0 t.items.length c0,.slice A0' t.names.length c0'] 25)).heap.size=w.heap.size+1:=by simp
 have hz2:((w.alloc (.cells #[.int .i64 t.kind,.int .i64 t.num,.string t.text,.slice A0 t.items.length c0,.slice A0' t.names.length c0'] 25)).alloc (.cells #[.int .i64 0,.int .i64 0,.string ⟨#[]⟩,.slice none 0 0,.slice none 0 0] 25)).heap.size=w.heap.size+2:=by simp
 have hB:Below w.heap.size w ((w.alloc (.cells #[.int .i64 t.kind,.int .i64 t.num,.string t.text,.slice A0 t.items.length c0,.slice A0' t.names.length c0'] 25)).alloc (.cells #[.int .i64 0,.int .i64 0,.string ⟨#[]⟩,.slice none 0 0,.slice none 0 0] 25)):=hb0.alloc (by omega) _;have hX:=v1.x.alloc (.cells #[.int .i64 0,.int .i64 0,.string ⟨#[]⟩,.slice none 0 0,.slice none 0 0] 25)
 have hR:Box ((w.alloc (.cells #[.int .i64 t.kind,.int .i64 t.num,.string t.text,.slice A0 t.items.length c0,.slice A0' t.names.length c0'] 25)).alloc (.cells #[.int .i64 0,.int .i64 0,.string ⟨#[]⟩,.slice none 0 0,.slice none 0 0] 25)) (w.heap.size+1) (.int .i64 0) (.int .i64 0) (.string ⟨#[]⟩) (.slice none 0 0) (.slice none 0 0):=by
  have h:=Box.new (w:=w.alloc (.cells #[.int .i64 t.kind,.int .i64 t.num,.string t.text,.slice A0 t.items.length c0,.slice A0' t.names.length c0'] 25)) (.int .i64 0) (.int .i64 0) (.string ⟨#[]⟩) (.slice none 0 0) (.slice none 0 0);rw[hz1]at h;exact h
 obtain⟨W,hW⟩: ∃W,W=(w.alloc (.cells #[.int .i64 t.kind,.int .i64 t.num,.string t.text,.slice A0 t.items.length c0,.slice A0' t.names.length c0'] 25)).alloc (.cells #[.int .i64 0,.int .i64 0,.string ⟨#[]⟩,.slice none 0 0,.slice none 0 0] 25):=⟨_,rfl⟩;rw[←hW]at hB hX hR hz2;have HSD:=hid (And.intro hd (And.intro hlt hsm));have HV:=hid hV;have HL:=hid hl;have HCP:=hid hcap;have HS:=hid hS;have HC:=hid (uH S A c l W (fun b hb=>by have:=hS b hb;omega) (hl.below hS hB) hn (fun h=>(hsm h).1));have HB:=hid hB;have HX:=hid hX;have HR:=hid hR;have HZ2:=hid hz2;obtain⟨res,hres⟩: ∃r,r=aP l t:=⟨_,rfl⟩;have HRES:=hid hres;rw[←hres];clear hd hlt hsm h hV hl hcap hS v1 hb0 hz1 hB hX hR hz2 hres;go_enter Tryz.func21,Tryz.ntmps21;go_wp2_with fail;rw[←hW];clear hW;refine HC.out.mono ?_;rintro e w3 ⟨rfl,hb3⟩;obtain⟨x,hx⟩: ∃x,x=cM l:=⟨_,rfl⟩;rw[←hx];have HXC:=hid hx;have HX3:=hid (HX.out.call hb3);have HR3:=hid (HR.out.call hb3);have HB3:=hid (HB.out.trans (hb3.mono HB.out.size));have HZ3:Hid (w.heap.size+2≤w3.heap.size):=hid (by have:=hb3.size;have:=HZ2.out;omega);clear hb3 hx HC HX HR HB HZ2;by_cases hx0:x=0;rotate_left
 ·have d1:(x != 0)=true:=by simpa using hx0
  have HE:Hid (res=(x,bP)):=hid (by rw[HRES.out];unfold aP;rw[←HXC.out,if_pos hx0]);have HEND:=hid (jK HB3.out HE.out);have HBOX:=hid (aY (c0:= .int .i64 0) (c1:= .int .i64 0) (c2:= .string ⟨#[]⟩) (c3:= .slice none 0 0) (c4:= .slice none 0 0) HR3.out);have rf:=fun i=>HR3.out.free i;have r0:=HR3.out.c0;have r1:=HR3.out.c1;have r2:=HR3.out.c2;have r3:=HR3.out.c3;have r4:=HR3.out.c4;clear hx0;go_wp2_with fail;refine bodyPost_ret (ar rfl _ _ (w.heap.size+1) 25 _ (0,0) rfl HBOX.out (by kernel_rfl)) rfl ?_;exact HEND.out
 subst hx0;have HCZ:=hid (ig HXC.out.symm);have HSQ:=hid (HSD.out.2.2 HCZ.out.1);have HAP:Hid (res=if dL t=true then doL l t else(20,bP)):=hid (by rw[HRES.out];unfold aP;rw[if_neg (by rw[←HXC.out];simp)]);obtain⟨kd,hkd⟩: ∃k,k=t.kind:=⟨_,rfl⟩;have q0:=HX3.out.c0;have q1:=HX3.out.c1;have q2:=HX3.out.c2;have q3:=HX3.out.c3;have q4:=HX3.out.c4;have HLV3:=hid (HV.out.keep fun b hb=>HB3.out.block b (HS.out b hb));have HM:=hid (iI S t _ w3 (fun b hb=>Nat.lt_of_lt_of_le (HS.out b hb) HB3.out.size) HLV3.out (by have:=HSD.out.1;omega));rw[←hkd]at q0 HM HLV3;have HKD:=hid hkd;clear hkd HRES;by_cases h7:kd=7;rotate_left
 ·have d1:(kd != 7)=true:=bne_iff_ne.2 h7;have HE:Hid (res=(20,bP)):=hid (by rw[HAP.out,if_neg (fun k=>h7 (by rw[HKD.out];exact(bB.1 k).2))]);have HEND:=hid (jK HB3.out HE.out);have HBOX:=hid (aY (c0:= .int .i64 0) (c1:= .int .i64 0) (c2:= .string ⟨#[]⟩) (c3:= .slice none 0 0) (c4:= .slice none 0 0) HR3.out);have rf:=fun i=>HR3.out.free i;have r0:=HR3.out.c0;have r1:=HR3.out.c1;have r2:=HR3.out.c2;have r3:=HR3.out.c3;have r4:=HR3.out.c4;clear h7;go_wp2_with fail;refine bodyPost_ret (ar rfl _ _ (w.heap.size+1) 25 _ (0,0) rfl HBOX.out (by kernel_rfl)) rfl ?_;exact HEND.out
 subst h7;go_wp2_with fail;refine HM.out.mono ?_;rintro e w4 ⟨rfl,hb4⟩;have HX4:=hid (HX3.out.call hb4);have HR4:=hid (HR3.out.call hb4);have HB4:=hid (HB3.out.trans (hb4.mono HB3.out.size));have HZ4:Hid (w.heap.size+2≤w4.heap.size):=hid (by have:=hb4.size;have:=HZ3.out;omega);have HLV4:=hid (HLV3.out.keep (w':=w4) fun b hb=>hb4.block b (Nat.lt_of_lt_of_le (HS.out b hb) HB3.out.size));clear q0 q1 q2 q3 q4 hb4 HM HX3 HR3 HB3 HZ3 HLV3;cases hmt:ao t
 ·have HE:Hid (res=(20,bP)):=hid (by rw[HAP.out,if_neg (fun k=>by have:=(bB.1 k).1;rw[hmt]at this;cases this)]);have HEND:=hid (jK HB4.out HE.out);have HBOX:=hid (aY (c0:= .int .i64 0) (c1:= .int .i64 0) (c2:= .string ⟨#[]⟩) (c3:= .slice none 0 0) (c4:= .slice none 0 0) HR4.out);have rf:=fun i=>HR4.out.free i;have r0:=HR4.out.c0;have r1:=HR4.out.c1;have r2:=HR4.out.c2;have r3:=HR4.out.c3;have r4:=HR4.out.c4;clear hmt;go_wp2_with fail;refine bodyPost_ret (ar rfl _ _ (w.heap.size+1) 25 _ (0,0) rfl HBOX.out (by kernel_rfl)) rfl ?_;exact HEND.out
 have HDOC:Hid (im K D t):=hid ⟨bB.2 ⟨hmt,HKD.out.symm⟩,HSD.out.2.1,HSD.out.1⟩;have HAL:Hid (res=doL l t):=hid (by rw[HAP.out,if_pos HDOC.out.doc]);have q0:=HX4.out.c0;have q1:=HX4.out.c1;have q2:=HX4.out.c2;have q3:=HX4.out.c3;have q4:=HX4.out.c4;have HLV5:=HLV4.out;rw[HKD.out]at HLV5;have HCL:=hid (oq S t _ w4 (fun b hb=>Nat.lt_of_lt_of_le (HS.out b hb) HB4.out.size) HLV5);rw[←HKD.out]at HCL q0;clear hmt HAP HLV5 HLV4;go_wp2_with fail;refine HCL.out.mono ?_;rintro e w5 ⟨v5,rfl,hv5,hb5⟩;obtain⟨A5,c5,A5',c5',rfl,-⟩:=hv5.shape;have hz45:=HZ4.out;have hz55:=hb5.size
 have hm0:rd w (w5.alloc (.cells #[.int .i64 t.kind,.int .i64 t.num,.string t.text,.slice A5 t.items.length c5,.slice A5' t.names.length c5'] 25)) w5.heap.size t A5 c5 A5' c5':=
  { below:=(HB4.out.trans (hb5.mono HB4.out.size)).alloc (Nat.le_trans HB4.out.size hb5.size) _,zero:=(HR4.out.call hb5).alloc _,box:=Box.new _ _ _ _ _,val:=(hv5.keep fun b hb=>Below.heap_alloc w5 _ b hb.2).imp fun b hb=>⟨by have:=hb.1;omega,by have:=hb.2;simp;omega,by have:=hb.2;omega⟩,far:=by omega }
 obtain⟨g5,hg5⟩: ∃g,g=w5.heap.size:=⟨_,rfl⟩;obtain⟨w6,hw6⟩: ∃W,W=w5.alloc (.cells #[.int .i64 t.kind,.int .i64 t.num,.string t.text,.slice A5 t.items.length c5,.slice A5' t.names.length c5'] 25):=⟨_,rfl⟩;rw[←hg5,←hw6]at hm0;have h0:Hid (∃(u:VT) (A:Option Addr) (c:Nat) (A':Option Addr) (c':Nat),rd w w6 g5 u A c A' c'∧doL (l.take 0) t=(0,u)∧im (K+0) (D+16 * 0) u):=hid ⟨t,A5,c5,A5',c5',hm0,by simp[doL],by simpa using HDOC.out⟩;clear q0 q1 q2 q3 q4 hv5 hb5 hm0 HCL HX4 HR4 HB4 HZ4 hz45 hz55 HKD;go_wp2_with fail;rw[←hw6,←hg5];clear hw6 hg5;go_wp2_with fail
 go_loopw [31] (fun i wr=> ∃k:Nat,i= .int .i64 k∧k≤l.length∧Hid (∃(u:VT) (A:Option Addr) (c:Nat) (A':Option Addr) (c':Nat),rd w wr g5 u A c A' c'∧doL (l.take k) t=(0,u)∧im (K+k) (D+16 * k) u)) (fun i _=>l.length - (intOf i).toNat)
 case atStart=>exact⟨0,rfl,by omega,h0⟩
 case round=>
  obtain⟨k,rfl,hk,HH⟩:=hrel;obtain⟨u,A6,c6,A6',c6',hm,hdo,hdk⟩:=HH.out;clear HH;by_cases hlt:k<l.length
  ·have d1:decide ((k:Int)<(l.length:Int))=true:=decide_eq_true (by omega);obtain⟨p,off,PA,pc,VA,vc,VA',vc',rfl,hpS,ho,x0,x1,x2,x3,x4,x5,x6,x7⟩:=HL.out.cells k hlt;have h63:=HCP.out k hlt p off rfl PA _ pc x1;have hp:=hm.below.block p (HS.out p hpS);have z0:=(World.cell?_of_block (a:=⟨p,off+k * 8,none⟩) hp).trans x0;have z1:=(World.cell?_of_block (a:=⟨p,off+k * 8+1,none⟩) hp).trans x1;have z2:=(World.cell?_of_block (a:=⟨p,off+k * 8+2,none⟩) hp).trans x2;have z3:=(World.cell?_of_block (a:=⟨p,off+k * 8+3,none⟩) hp).trans x3;have z4:=(World.cell?_of_block (a:=⟨p,off+k * 8+4,none⟩) hp).trans x4;have z5:=(World.cell?_of_block (a:=⟨p,off+k * 8+5,none⟩) hp).trans x5;have z6:=(World.cell?_of_block (a:=⟨p,off+k * 8+6,none⟩) hp).trans x6;have z7:=(World.cell?_of_block (a:=⟨p,off+k * 8+7,none⟩) hp).trans x7;have hmay:=HCZ.out.2 _ (List.getElem_mem hlt);have h64:=HCZ.out.1;have HM6:=hid hm;have HDK:=hid hdk;have HDO:=hid hdo;obtain⟨X,hX⟩: ∃X:Obj,X= .cells #[.int .i64 l[k].kind,.slice PA l[k].path.length pc,.int .i64 l[k].val.kind,.int .i64 l[k].val.num,.string l[k].val.text,.slice VA l[k].val.items.length vc,.slice VA' l[k].val.names.length vc',.int .i64 l[k].num] 58:=⟨_,rfl⟩;have hb7:Below w.heap.size w (wr.alloc X):=hm.below.alloc hm.below.size X;have hD7:ex (wr.alloc X) wr.heap.size (.int .i64 l[k].kind) (.slice PA l[k].path.length pc) (.int .i64 l[k].val.kind) (.int .i64 l[k].val.num) (.string l[k].val.text) (.slice VA l[k].val.items.length vc) (.slice VA' l[k].val.names.length vc') (.int .i64 l[k].num):=by rw[hX];exact ex.new wr _ _ _ _ _ _ _ _
   have hM7:=hm.box.alloc X;have HZ7:=hid (hm.zero.alloc X);have hgl:=hm.box.lt;have hfar:=hm.far;have hz7:(wr.alloc X).heap.size=wr.heap.size+1:=by simp
   have HLV7:=hm.val.keep (w':=wr.alloc X) fun b hb=>Below.heap_alloc wr X b hb.2.1;have HDO7:=hid (wH (fun b=>b<(wr.alloc X).heap.size) u _ l[k] PA pc VA vc VA' vc' (wr.alloc X) (fun b hb=>hb) (HLV7.imp fun b hb=>by have:=hb.2.1;omega) (by have:=hdk.deep;omega) (bM (by omega) _ hdk.lens) ((ho.keep fun b hb=>hb7.block b (HS.out b hb)).imp fun b hb=>by have:=HS.out b hb;have:=hb7.size;omega) hmay h63 (HSQ.out.1 _ (List.getElem_mem hlt)));have HNX:=hid (gL hmay (HSQ.out.2.1 _ (List.getElem_mem hlt)) (bM (K:=K) (K':=K+k) (by omega) _ (HSQ.out.2.2 _ (List.getElem_mem hlt))) hdk);have HB7:=hid hb7;have HM7:=hid hM7;have HZ7z:=hid (And.intro hz7 (And.intro hgl hfar));have y0:=hM7.c0;have y1:=hM7.c1;have y2:=hM7.c2;have y3:=hM7.c3;have y4:=hM7.c4;have s0:=hD7.g0;have s1:=hD7.g1;have s2:=hD7.g2;have s3:=hD7.g3;have s4:=hD7.g4;have s5:=hD7.g5;have s6:=hD7.g6;have s7:=hD7.g7;rw[hX]at y0 y1 y2 y3 y4 s0 s1 s2 s3 s4 s5 s6 s7 HDO7;have HXX:=hid hX;clear x0 x1 x2 x3 x4 x5 x6 x7 hp ho hmay hm hdk hdo hb7 hD7 hM7 HLV7 hz7 hgl hfar h63 hpS hX;go_wp2_with fail;refine HDO7.out.mono ?_;rintro e w8 ⟨v8,rfl,hv8,hb8⟩;rw[←HXX.out]at hv8 hb8;obtain⟨A8,c8,A8',c8',rfl,-⟩:=hv8.shape;obtain⟨r,hr⟩: ∃r,r=doD l[k] u:=⟨_,rfl⟩;rw[←hr]at hv8 HNX ⊢;have HRR:=hid hr;obtain⟨y,u8⟩:=r;simp only at hv8 HNX ⊢;obtain⟨hz7,hgl,hfar⟩:=HZ7z.out;have hz8:=hb8.size;have hM8:=HM7.out.call hb8;have hZ8:=HZ7.out.call hb8;have hB8:=HB7.out.trans (hb8.mono HB7.out.size);obtain⟨Y,hY⟩: ∃Y:Obj,Y= .cells #[.int .i64 u8.kind,.int .i64 u8.num,.string u8.text,.slice A8 u8.items.length c8,.slice A8' u8.names.length c8'] 25:=⟨_,rfl⟩
   have hN9:Box (w8.alloc Y) w8.heap.size (.int .i64 u8.kind) (.int .i64 u8.num) (.string u8.text) (.slice A8 u8.items.length c8) (.slice A8' u8.names.length c8'):=by rw[hY];exact Box.new _ _ _ _ _
   have hM9:=hM8.alloc Y;have hZ9:=hZ8.alloc Y;have hB9:Below w.heap.size w (w8.alloc Y):=hB8.alloc hB8.size Y;have hv9:=hv8.keep (w':=w8.alloc Y) fun b hb=>Below.heap_alloc w8 Y b hb.2;have hz9:(w8.alloc Y).heap.size=w8.heap.size+1:=by simp
   have HX9:=hid (And.intro hB9 (And.intro hZ9 (And.intro hM9 (And.intro hv9 (And.intro hz9 (And.intro hz8 (And.intro hz7 (And.intro hgl hfar))))))));have n0:=hN9.c0;have n1:=hN9.c1;have n2:=hN9.c2;have n3:=hN9.c3;have n4:=hN9.c4;have mf:=fun i=>hM9.free i;have m0:=hM9.c0;have m1:=hM9.c1;have m2:=hM9.c2;have m3:=hM9.c3;have m4:=hM9.c4;have zf:=fun i=>hZ9.free i;have o0:=hZ9.c0;have o1:=hZ9.c1;have o2:=hZ9.c2;have o3:=hZ9.c3;have o4:=hZ9.c4;rw[hY]at n0 n1 n2 n3 n4 mf m0 m1 m2 m3 m4 zf o0 o1 o2 o3 o4;have HY:=hid hY;clear y0 y1 y2 y3 y4 s0 s1 s2 s3 s4 s5 s6 s7 z0 z1 z2 z3 z4 z5 z6 z7 hv8 hb8 hr hM8 hZ8 hB8 hN9 hM9 hZ9 hB9 hv9 hz9 hz8 hz7 hgl hfar HDO7 HM7 HZ7 HB7 HZ7z HXX hY;by_cases hy:y=0
   ·subst hy;clear zf o0 o1 o2 o3 o4;go_wp2_with fail
    go_roundw
    case rel=>
     refine⟨k+1,by go_num,by omega,hid ⟨u8,A8,c8,A8',c8',?_,?_,?_⟩⟩
     ·obtain⟨hB9,hZ9,hM9,hv9,hz9,hz8,hz7,hgl,hfar⟩:=HX9.out;rw[HY.out]at hB9 hZ9 hM9 hv9 hz9;have hr5:=ct (w8.alloc (.cells #[.int .i64 u8.kind,.int .i64 u8.num,.string u8.text,.slice A8 u8.items.length c8,.slice A8' u8.names.length c8'] 25)) g5 0 (.int .i64 u8.kind) (.int .i64 u8.num) (.string u8.text) (.slice A8 u8.items.length c8) (.slice A8' u8.names.length c8');have hk5:=bz (w8.alloc (.cells #[.int .i64 u8.kind,.int .i64 u8.num,.string u8.text,.slice A8 u8.items.length c8,.slice A8' u8.names.length c8'] 25)) g5 0 (.int .i64 u8.kind) (.int .i64 u8.num) (.string u8.text) (.slice A8 u8.items.length c8) (.slice A8' u8.names.length c8');have hs5:=bK (w8.alloc (.cells #[.int .i64 u8.kind,.int .i64 u8.num,.string u8.text,.slice A8 u8.items.length c8,.slice A8' u8.names.length c8'] 25)) g5 0 (.int .i64 u8.kind) (.int .i64 u8.num) (.string u8.text) (.slice A8 u8.items.length c8) (.slice A8' u8.names.length c8')
      exact
       { below:=⟨hr5.1.trans hB9.os,hr5.2.1.trans hB9.tape,hr5.2.2.trans hB9.output,Nat.le_trans hB9.size (Nat.le_of_eq hs5.symm),fun b hb=>(hk5 b (by omega)).trans (hB9.block b hb)⟩,zero:=(hk5 _ (by omega)).trans hZ9,box:=aY hM9,val:=(hv9.keep fun b hb=>hk5 b (by have:=hb.1;omega)).imp fun b hb=>⟨by have:=hb.1;omega,Nat.lt_of_lt_of_le (by rw[hz9];have:=hb.2;omega) (Nat.le_of_eq hs5.symm),by have:=hb.1;omega⟩,far:=hfar }
     ·have h1:=pY hlt HDO.out;rw[←HRR.out]at h1;exact h1
     ·rcases HNX.out with ⟨R,e,hR,-⟩|⟨e,-⟩
      ·injection e with _ e
       subst e;exact hR.mono (by omega) (by omega)
      ·injection e with e _
       cases e
    case measure=>simp[intOf];omega
   ·have d2:(y != 0)=true:=by simpa using hy
    have HE:Hid (res=(y,bP)):=hid (by
     rw[HAL.out,zC hlt HDO.out (by rw[←HRR.out];exact hy),←HRR.out])
    have hB9:=HX9.out.1;have hZ9:=HX9.out.2.1;rw[HY.out]at hB9 hZ9;have HEND:=hid (jK hB9 HE.out);have HBOX:=hid (aY (c0:= .int .i64 0) (c1:= .int .i64 0) (c2:= .string ⟨#[]⟩) (c3:= .slice none 0 0) (c4:= .slice none 0 0) hZ9);clear hy mf m0 m1 m2 m3 m4 n0 n1 n2 n3 n4 hB9 hZ9;go_wp2_with fail;refine bodyPost_ret (ar rfl _ _ (w.heap.size+1) 25 _ (0,0) rfl HBOX.out (by kernel_rfl)) rfl ?_;exact HEND.out
  ·have hke:k=l.length:=by omega
   have d1:decide ((k:Int)<(l.length:Int))=false:=decide_eq_false (by omega);have HE:Hid (res=(0,u)):=hid (by rw[HAL.out,←hdo,hke,List.take_length]);have HEND:=hid (hm.end HE.out);have HBOX:=hid (aY (c0:= .int .i64 u.kind) (c1:= .int .i64 u.num) (c2:= .string u.text) (c3:= .slice A6 u.items.length c6) (c4:= .slice A6' u.names.length c6') hm.zero);have y0:=hm.box.c0;have y1:=hm.box.c1;have y2:=hm.box.c2;have y3:=hm.box.c3;have y4:=hm.box.c4;have zf:=fun i=>hm.zero.free i;have o0:=hm.zero.c0;have o1:=hm.zero.c1;have o2:=hm.zero.c2;have o3:=hm.zero.c3;have o4:=hm.zero.c4;clear hke hm hdo hdk;go_wp2_with fail;refine bodyPost_ret (ar rfl _ _ (w.heap.size+1) 25 _ (0,0) rfl HBOX.out (by kernel_rfl)) rfl ?_;exact HEND.out
end Go.Proofs.YtgbopnlpaabelaaGreatDoor
/- Twice is once; what was set lies there. Plain. -/
namespace Go.Proofs.YtgbopnlpaabelaaGreatDoor
theorem kI (t:VT)(j:Nat)(u v:VT):bO (bO t j u) j v=bO t j v:=by cases t;simp[bO]
theorem iu {s:ByteArray}: ∀(ns:List ByteArray) (j:Nat),ns.Nodup→nmI 0 ns s=(j:Int)→nmI 0 (ns.eraseIdx j) s= -1
  | [],j,_,h=>by unfold nmI at h;omega
  |a::r,j,hn,h=>by
    rw[List.nodup_cons]at hn;by_cases ha:a=s
    · have e:nmI 0 (a::r) s=0:=by unfold nmI;rw[if_pos ha];rfl
      have:j=0:=by omega
      subst this;subst ha;simp only[List.eraseIdx_zero,List.tail_cons];exact jR fun i hi e=>hn.1 (e▸List.getElem_mem hi)
    · have e:nmI 0 (a::r) s=nmI 1 r s:=by conv=>lhs;unfold nmI
                                          rw[if_neg ha]
      have e2:=cW s r 1;have h3:=(iz (s:=s) (l:=r) (k:=0)).1;rw[e,e2]at h;have hnn: ¬nmI 0 r s<0:=fun hh=>by rw[if_pos hh]at h;omega
      rw[if_neg hnn]at h;obtain⟨i,rfl⟩: ∃i,j=i+1:=⟨j - 1,by omega⟩;have hi:nmI 0 r s=(i:Int):=by omega
      have ih:=iu r i hn.2 hi;simp only[List.eraseIdx_cons_succ];unfold nmI;rw[if_neg ha,cW,ih,if_pos (by omega)]
theorem jr {t:VT}{s:ByteArray}(hm:ao t=true)(hk:t.kind=7)(h:0≤ab t s):ab (nC t (ab t s).toNat) s<0:=by
  have e:nmI 0 t.names s=((ab t s).toNat:Int):=by rw[bH hk]at h ⊢;omega
  rw[bH ((iQ _ _).trans hk)];have hd:=(bJ t).1 hm
  cases t with
  |mk k i x l ns=>
    obtain⟨-,-,-,d⟩:=(fy hk).1 hd.1;show nmI 0 (ns.eraseIdx _) s<0;rw[iu ns _ (ce.1 d).2 e];omega
theorem lh {fin:VT→List ByteArray→Int×VT}{t:VT}{s:ByteArray}{r:List ByteArray}(h:0≤ab t s)(hr:r≠[])(hj:(ab t s).toNat<t.items.length)
    (ih:(goT fin (goT fin t.items[(ab t s).toNat] r).2 r).2=(goT fin t.items[(ab t s).toNat] r).2):(goT fin (goT fin t (s::r)).2 (s::r)).2=(goT fin t (s::r)).2:=by
  rw[eQ h hr hj];obtain⟨X,hX⟩: ∃X,X=(goT fin t.items[(ab t s).toNat] r).2:=⟨_,rfl⟩;rw[←hX]at ih ⊢;show(goT fin (bO t (ab t s).toNat X) (s::r)).2=bO t (ab t s).toNat X;have hp:=fm t (ab t s).toNat X s;have hj2:(ab (bO t (ab t s).toNat X) s).toNat<(bO t (ab t s).toNat X).items.length:=by rw[hp,dl,List.length_set];exact hj
  rw[eQ (by rw[hp];exact h) hr hj2]
  have hit:(bO t (ab t s).toNat X).items[(ab (bO t (ab t s).toNat X) s).toNat]=X:=by
    simp only[hp,dl,List.getElem_set_self]
  show bO _ _ (goT fin _ r).2=_;rw[hit,ih,hp,kI]
theorem lT : ∀(p:List ByteArray) (t:VT),ao t=true→(goT bu (goT bu t p).2 p).2=(goT bu t p).2
  | [],t,_=>by simp[goT]
  |s::r,t,hm=>by
    by_cases he:ab t s<0∨r= []
    · rw[bZ he,bk]
      show(goT bu (if _ then _ else _) _).2=(if _ then _ else _);by_cases hn:ab t s<0
      · rw[if_pos hn,bZ he,bk]
        exact if_pos hn
      · rw[if_neg hn]
        have h0:0≤ab t s:=Int.not_lt.1 hn;obtain rfl:=he.resolve_left hn;by_cases h7:t.kind=7
        · rw[if_pos h7,bZ (.inr rfl),bk]
          exact if_pos (jr hm h7 h0)
        · rw[if_neg h7,bZ (.inr rfl),bk]
          show(if _ then _ else _)=_;rw[fm,if_neg hn,eF,if_neg h7,kI]
    · have h0:0≤ab t s:=Int.not_lt.1 fun k=>he (.inl k)
      have hr:r≠[]:=fun k=>he (.inr k);have hj:=aR (bR hm) h0;exact lh h0 hr hj (lT r _ (ci hm hj))
theorem wA (x:VT)(n:Int)(hn:0≤n):gz (gz x n) n=gz x n:=by
  unfold gz
  split
  · rename_i h
    cases x with
    |mk k i s l ns=>
      have hk:k=6:=h.1;show(if(VT.mk k i s (l.take n.toNat) ns).kind=6∧n<((l.take n.toNat).length:Int)then _ else _)=_;rw[if_neg]
      · rintro⟨-,h2⟩
        rw[List.length_take]at h2;omega
  · rfl
theorem oy (n:Int): ∀(p:List ByteArray) (t:VT),ao t=true→(goT (bw n) (goT (bw n) t p).2 p).2=(goT (bw n) t p).2
  | [],t,_=>by simp[goT]
  |s::r,t,hm=>by
    by_cases he:ab t s<0∨r= []
    · rw[bZ he,bA]
      by_cases hneg:n<0
      · rw[if_pos hneg]
        show(goT (bw n) t (s::r)).2=t;rw[bZ he,bA,if_pos hneg]
      · rw[if_neg hneg]
        show(goT (bw n) (if _ then _ else _) _).2=(if _ then _ else _);by_cases hn:ab t s<0
        · rw[if_pos hn,bZ he,bA,if_neg hneg]
          exact if_pos hn
        · rw[if_neg hn]
          have h0:0≤ab t s:=Int.not_lt.1 hn;obtain rfl:=he.resolve_left hn;have hj:=aR (bR hm) h0;rw[List.getElem?_eq_getElem hj];show(goT (bw n) (bO _ _ _) [s]).2=bO _ _ _;rw[bZ (.inr rfl),bA,if_neg hneg];show(if _ then _ else _)=_;rw[fm,if_neg hn,dl,List.getElem?_set_self hj];show bO (bO _ _ _) _ _=_;rw[kI,wA _ _ (by omega)]
    · have h0:0≤ab t s:=Int.not_lt.1 fun k=>he (.inl k)
      have hr:r≠[]:=fun k=>he (.inr k);have hj:=aR (bR hm) h0;exact lh h0 hr hj (oy n r _ (ci hm hj))
end Go.Proofs.YtgbopnlpaabelaaGreatDoor
/- The order of paths, and what it is for whether a list is free; the library's Compare of texts. -/
namespace Go.Proofs.YtgbopnlpaabelaaGreatDoor
open Go.RowKit
theorem qC {a b:List ByteArray}:jF a b=true↔a <+: b:=by
  unfold jF;simp only[Bool.and_eq_true,decide_eq_true_eq];constructor
  · rintro⟨h1,h2⟩
    exact⟨b.drop a.length,by have:=List.take_append_drop a.length b;rw[h2]at this;exact this⟩
  · intro h
    exact⟨h.length_le,(List.prefix_iff_eq_take.1 h).symm⟩
theorem mQ : ∀(l ahead:List (List ByteArray)),dg ahead l=false↔(∀p∈l,∀q∈ahead,dh p q=false)∧l.Pairwise (fun q p=>dh p q=false)
  | [],ahead=>by simp[dg]
  |p::r,ahead=>by
    rw[dg,Bool.or_eq_false_iff,mQ r (ahead++[p]),List.pairwise_cons,List.any_eq_false];constructor
    · rintro⟨h1,h2,h3⟩
      refine⟨fun x hx q hq=> ?_,fun x hx=>h2 x hx p (by simp),h3⟩;rcases List.mem_cons.1 hx with rfl|hx
      · simpa using h1 q hq
      · exact h2 x hx q (List.mem_append_left _ hq)
    · rintro⟨h1,h2,h3⟩
      refine⟨fun q hq=>by simpa using h1 p (List.mem_cons_self ..) q hq,fun x hx q hq=> ?_,h3⟩;rcases List.mem_append.1 hq with hq|hq
      · exact h1 x (List.mem_cons_of_mem _ hx) q hq
      · obtain rfl:=List.mem_singleton.1 hq;exact h2 x hx
theorem iL (ps:List (List ByteArray)):dg [] ps=false↔ps.Pairwise (fun q p=>dh p q=false):=by rw[mQ];simp
end Go.Proofs.YtgbopnlpaabelaaGreatDoor
/- A free list, done a second time, changes nothing: plain. -/
namespace Go.Proofs.YtgbopnlpaabelaaGreatDoor
theorem jG {t u:VT}{k:Nat}(hk:k<t.items.length)(h:bO t k u=t):t.items[k]=u:=by
 have e:=dl t k u;rw[h]at e;have e2:t.items[k]? =(t.items.set k u)[k]? :=by rw[←e]
 rw[List.getElem?_set_self hk,List.getElem?_eq_getElem hk]at e2;injection e2
theorem eK {t:VT}{s:ByteArray}{r:List ByteArray}(h0:0≤ab t s)(hj:(ab t s).toNat<t.items.length):aT t (s::r)=aT t.items[(ab t s).toNat] r:=by
 rw[aI,oI h0 hj];rfl
theorem lV {t:VT}{s:ByteArray}{r:List ByteArray}(h0:ab t s<0):aT t (s::r)=none:=by
 rw[aI,jQ h0];rfl
theorem cD (t:VT):aT t []=some t:=by unfold aT;rfl
theorem rX {t:VT}{s:ByteArray}(h:0≤ab t s)(h7:t.kind≠7):t.kind=6:=by
 by_cases h6:t.kind=6
 ·exact h6
 ·exfalso;have:=fJ (s:=s) h7 h6;omega
def yD (t:VT)(p:List ByteArray):Prop:=aT t p=none∨(aT t p=some jB∧ ∃u,aT t p.dropLast=some u∧u.kind=6)
theorem mP : ∀(p:List ByteArray) (t:VT),ao t=true→p≠[]→((goT bu t p).2=t↔yD t p)
 | [],_,_,h=>absurd rfl h
 |s::r,t,hm,_=>by
  by_cases he:ab t s<0∨r= []
  ·rw[bZ he,bk];show(if _ then _ else _)=t↔_;by_cases hn:ab t s<0
   ·rw[if_pos hn];exact⟨fun _=> .inl (lV hn),fun _=>rfl⟩
   ·have h0:0≤ab t s:=Int.not_lt.1 hn;obtain rfl:=he.resolve_left hn;have hj:=aR (bR hm) h0;rw[if_neg hn];by_cases h7:t.kind=7
    ·rw[if_pos h7];constructor
     ·intro h;have:=jr hm h7 h0;rw[h]at this;omega
     ·rintro(h|⟨-,u,hu,h6⟩)
      ·rw[eK h0 hj,cD]at h;cases h
      ·rw[show [s].dropLast= [] from rfl,cD]at hu;injection hu with hu
       rw[←hu]at h6;omega
    ·rw[if_neg h7];constructor
     ·intro h;refine .inr ⟨?_,t,cD t,rX h0 h7⟩;rw[eK h0 hj,jG hj h,cD]
     ·rintro(h|⟨h,-⟩)
      ·rw[eK h0 hj,cD]at h;cases h
      ·rw[eK h0 hj,cD]at h;injection h with h
       exact fk (by rw[List.getElem?_eq_getElem hj,h])
  ·have h0:0≤ab t s:=Int.not_lt.1 fun k=>he (.inl k);have hr:r≠[]:=fun k=>he (.inr k);have hj:=aR (bR hm) h0;have ih:=mP r _ (ci hm hj) hr;rw[eQ h0 hr hj];show bO _ _ _=t↔_
   have e1:yD t (s::r)↔yD t.items[(ab t s).toNat] r:=by
    unfold yD;rw[eK h0 hj,List.dropLast_cons_of_ne_nil hr,eK h0 hj]
   rw[e1,←ih];exact⟨fun h=>(jG hj h).symm,fun h=>fk (by rw[List.getElem?_eq_getElem hj,h])⟩
def yo (n:Int)(t:VT)(p:List ByteArray):Prop:= ∀x,aT t p=some x→gz x n=x
theorem oZ {n:Int}(hn0:0≤n): ∀(p:List ByteArray) (t:VT),ao t=true→p≠[]→((goT (bw n) t p).2=t↔yo n t p)
 | [],_,_,h=>absurd rfl h
 |s::r,t,hm,_=>by
  by_cases he:ab t s<0∨r= []
  ·rw[bZ he,bA,if_neg (by omega)];show(if _ then _ else _)=t↔_;by_cases hn:ab t s<0
   ·rw[if_pos hn];exact⟨fun _ x h=>(by rw[lV hn]at h;cases h),fun _=>rfl⟩
   ·have h0:0≤ab t s:=Int.not_lt.1 hn;obtain rfl:=he.resolve_left hn;have hj:=aR (bR hm) h0;rw[if_neg hn,List.getElem?_eq_getElem hj];show bO _ _ _=t↔_;constructor
    ·intro h x hx;rw[eK h0 hj,cD]at hx;injection hx with hx
     rw[←hx];exact(jG hj h).symm
    ·intro h;have:=h _ (by rw[eK h0 hj,cD]);exact fk (by rw[List.getElem?_eq_getElem hj,this])
  ·have h0:0≤ab t s:=Int.not_lt.1 fun k=>he (.inl k);have hr:r≠[]:=fun k=>he (.inr k);have hj:=aR (bR hm) h0;have ih:=oZ hn0 r _ (ci hm hj) hr;rw[eQ h0 hr hj];show bO _ _ _=t↔_
   have e1:yo n t (s::r)↔yo n t.items[(ab t s).toNat] r:=by
    unfold yo;rw[eK h0 hj]
   rw[e1,←ih];exact⟨fun h=>(jG hj h).symm,fun h=>fk (by rw[List.getElem?_eq_getElem hj,h])⟩
theorem mT {fin:VT→List ByteArray→Int×VT}(hfin: ∀t s r s' r',ao t=true→(ab t s<0∨r= [])→fQ (s::r) (s'::r')→aT (fin t (s::r)).2 (s'::r')=aT t (s'::r'))
  (hmay: ∀t s r,ao t=true→(ab t s<0∨r= [])→ek (s::r)→ao (fin t (s::r)).2=true∧(fin t (s::r)).2.kind=t.kind):
  ∀(a q:List ByteArray) (t u:VT),ao t=true→ek q→ ¬q <+: a→aT t a=some u→ ∃u',aT (goT fin t q).2 a=some u'∧u'.kind=u.kind
 | [],q,t,u,hm,hq,_,h=>by
  rw[cD]at h;injection h with h
  subst h
  exact⟨_,cD _,(eX hmay q t hm hq).2⟩
 |_::_,[],_,_,_,_,hn,_=>absurd List.nil_prefix hn
 |s::r,s'::r',t,u,hm,hq,hn,h=>by
  by_cases e:s=s'
  ·subst e;by_cases hneg:ab t s<0
   ·rw[lV hneg]at h;cases h
   have h0:0≤ab t s:=Int.not_lt.1 hneg;have hr:r'≠[]:=fun k=>hn (by rw[k];exact List.cons_prefix_cons.2 ⟨rfl,List.nil_prefix⟩);have hj:=aR (bR hm) h0;rw[eK h0 hj]at h;rw[eQ h0 hr hj];show ∃u',aT (bO _ _ _) (s::r)=_∧_;rw[aI,eM _ h0 hj];exact mT hfin hmay r r' _ u (ci hm hj) (fun z hz=>hq z (by simp[hz])) (fun k=>hn (List.cons_prefix_cons.2 ⟨rfl,k⟩)) h
  ·have hf:fQ (s'::r') (s::r):=⟨hn,fun k=>e (List.cons_prefix_cons.1 k).1⟩;exact⟨u,(km hfin _ t _ hm hf).trans h,rfl⟩
theorem yF {p q:List ByteArray}(h:fQ q p): ¬q <+: p.dropLast:=fun k=>h.1 (k.trans (List.dropLast_prefix p))
def Est (d:av)(t:VT):Prop:=(d.kind=1→aT t d.path=some d.val)∧(d.kind=2→yD t d.path)∧(d.kind=3→yo d.num t d.path)
theorem kL {fin:VT→List ByteArray→Int×VT}(hfin: ∀t s r s' r',ao t=true→(ab t s<0∨r= [])→fQ (s::r) (s'::r')→aT (fin t (s::r)).2 (s'::r')=aT t (s'::r'))
  (hmay: ∀t s r,ao t=true→(ab t s<0∨r= [])→ek (s::r)→ao (fin t (s::r)).2=true∧(fin t (s::r)).2.kind=t.kind) {d:av} {t:VT} {q:List ByteArray} (hm:ao t=true) (hq:ek q) (hf:fQ q d.path) (h:Est d t):Est d (goT fin t q).2:=by
 have hg:=km hfin q t d.path hm hf;refine⟨fun e=>hg.trans (h.1 e),fun e=> ?_,fun e=> ?_⟩
 ·rcases h.2.1 e with h|⟨h,u,hu,hk⟩
  ·exact .inl (hg.trans h)
  ·obtain⟨u',h1,h2⟩:=mT hfin hmay _ q t u hm hq (yF hf) hu;exact .inr ⟨hg.trans h,u',h1,h2.trans hk⟩
 ·intro x hx;exact h.2.2 e x (hg.symm.trans hx)
theorem qf {p:List ByteArray}(h:cn p=true):p≠[]:=fun e=>by rw[e]at h;exact absurd h (by decide)
theorem xI {d:av}{t R:VT}(hd:ck d=true)(hz:aE d.val≤9223372036854775807)(ht:ao t=true)(h1:d.kind=1→R=(goT (bC d.val) t d.path).2∧(goT (bC d.val) t d.path).1=0)(h2:d.kind=2→R=(goT bu t d.path).2)(h3:d.kind=3→R=(goT (bw d.num) t d.path).2):Est d R:=by
 have hp:=eu hd;have hne:=qf hp;refine⟨fun e=> ?_,fun e=> ?_,fun e=> ?_⟩
 ·obtain⟨rfl,hc⟩:=h1 e;exact uj d.val d.path t hne ht hc
 ·obtain rfl:=h2 e;exact(mP d.path _ (eX gT d.path t ht (eq hp)).1 hne).1 (lT d.path t ht)
 ·obtain rfl:=h3 e;have hn:0≤d.num:=by rcases fi hd with k|k|⟨-,k,-⟩<;>omega
  exact(oZ hn d.path _ (eX (jH d.num) d.path t ht (eq hp)).1 hne).1 (oy d.num d.path t ht)
theorem xj {d:av}{t:VT}(hd:ck d=true)(hz:aE d.val≤9223372036854775807)(ht:dL t=true)(h:Est d t):doD d t=(0,t):=by
 have hp:=eu hd;have hne:=qf hp;have hw:=mW ht hp;have hm:=(bB.1 ht).1;rcases fi hd with e|e|⟨e,hn,-⟩
 ·rw[yG e (ne hd hz e).1];have e2:=qu d.path t (h.1 e);rw[dZ hw (by rw[e2]),e2]
 ·rw[uq e,dZ hw (gd (c:=fun x=>x=0) rfl ov d.path t),(mP d.path t hm hne).2 (h.2.1 e)]
 ·rw[ud e,dZ hw (gd (c:=fun x=>x=0) rfl (qx hn) d.path t),(oZ hn d.path t hm hne).2 (h.2.2 e)]
theorem xy {d x:av}{t R:VT}{K D:Nat}(hd:ck d=true)(hz:aE d.val≤9223372036854775807)(hlx:aM K d.val=true)(h:im K D t)(e:doD d t=(0,R))(hf:fQ d.path x.path)(hx:Est x t):Est x R:=by
 have hm:=(bB.1 h.doc).1;have hq:=eq (eu hd);rcases gL hd hz hlx h with ⟨R',e',-,h1,h2,h3⟩|⟨e',-⟩
 ·rw[e]at e';injection e' with _ e'
  subst e';rcases fi hd with k|k|⟨k,-⟩
  ·rw[(h1 k).1];exact kL (vU d.val) (lF d.val (ne hd hz k).1) hm hq hf hx
  ·rw[h2 k];exact kL sW gT hm hq hf hx
  ·rw[h3 k];exact kL (ux d.num) (jH d.num) hm hq hf hx
 ·rw[e]at e';injection e' with e' _
  cases e'
theorem nq (x:av): ∀(l:List av) (t R:VT) (K D:Nat),(∀d∈l,ck d=true∧aE d.val≤9223372036854775807∧aM K d.val=true)→im K D t→doL l t=(0,R)→(∀d∈l,fQ d.path x.path)→Est x t→Est x R
 | [],t,R,_,_,_,_,e,_,hx=>by injection e with _ e;subst e;exact hx
 |d::r,t,R,K,D,hl,h,e,hf,hx=>by
  obtain⟨h1,h2,h3⟩:=hl d (by simp);rcases gL h1 h2 h3 h with ⟨R1,e1,hR,-⟩|⟨e1,-⟩
  ·simp only[doL]at e;rw[e1]at e;exact nq x r R1 R (K+1) (D+16) (fun y hy=>⟨(hl y (by simp[hy])).1,(hl y (by simp[hy])).2.1,bM (Nat.le_succ K) _ (hl y (by simp[hy])).2.2⟩) hR e (fun y hy=>hf y (by simp[hy])) (xy h1 h2 h3 h e1 (hf d (by simp)) hx)
  ·simp only[doL]at e;rw[e1]at e;injection e with e _
   cases e
theorem uk : ∀(l:List av) (t R:VT) (K D:Nat),(∀d∈l,ck d=true∧aE d.val≤9223372036854775807∧aM K d.val=true)→l.Pairwise (fun a b=>fQ b.path a.path)→im K D t→doL l t=(0,R)→ ∀d∈l,Est d R
 | [],_,_,_,_,_,_,_,_,_,h=>absurd h (List.not_mem_nil)
 |d::r,t,R,K,D,hl,hp,h,e,x,hx=>by
  obtain⟨h1,h2,h3⟩:=hl d (by simp);have hl': ∀y∈r,ck y=true∧aE y.val≤9223372036854775807∧aM (K+1) y.val=true:=fun y hy=>⟨(hl y (by simp[hy])).1,(hl y (by simp[hy])).2.1,bM (Nat.le_succ K) _ (hl y (by simp[hy])).2.2⟩;rcases gL h1 h2 h3 h with ⟨R1,e1,hR,k1,k2,k3⟩|⟨e1,-⟩
  ·simp only[doL]at e;rw[e1]at e;rcases List.mem_cons.1 hx with rfl|hx
   ·exact nq x r R1 R (K+1) (D+16) hl' hR e (fun y hy=>(List.pairwise_cons.1 hp).1 y hy) (xI h1 h2 (bB.1 h.doc).1 k1 k2 k3)
   ·exact uk r R1 R (K+1) (D+16) hl' (List.pairwise_cons.1 hp).2 hR e x hx
  ·simp only[doL]at e;rw[e1]at e;injection e with e _
   cases e
theorem qo : ∀(l:List av) (R:VT),(∀d∈l,ck d=true∧aE d.val≤9223372036854775807)→dL R=true→(∀d∈l,Est d R)→doL l R=(0,R)
 | [],_,_,_,_=>rfl
 |d::r,R,hl,hR,h=>by
  simp only[doL];rw[xj (hl d (by simp)).1 (hl d (by simp)).2 hR (h d (by simp))];exact qo r R (fun y hy=>hl y (by simp[hy])) hR fun y hy=>h y (by simp[hy])
theorem wD {l:List av}{t R:VT}{K D:Nat}(hl: ∀d∈l,ck d=true∧aE d.val≤9223372036854775807∧aM K d.val=true)(hf:lq l=true)(h:im K D t)(e:doL l t=(0,R)):doL l R=(0,R):=by
 have hp:l.Pairwise (fun a b=>fQ b.path a.path):=by
  have h1:dg [] (iv l)=false:=by unfold lq at hf;simpa using hf
  have h2:=(iL (iv l)).1 h1;unfold iv at h2;rw[List.pairwise_map]at h2;refine h2.imp fun {a b} hab=> ?_;unfold dh at hab;rw[Bool.or_eq_false_iff]at hab;exact⟨fun k=>by rw[qC.2 k]at hab;exact absurd hab.1 (by simp),fun k=>by rw[qC.2 k]at hab;exact absurd hab.2 (by simp)⟩
 have hR:dL R=true:=by
  rcases lO l t K D hl h with ⟨R',e',hR,-⟩|e'
  ·rw[e]at e';injection e' with _ e';subst e';exact hR
  ·rw[e]at e';injection e' with e' _;cases e'
 exact qo l R (fun d hd=>⟨(hl d hd).1,(hl d hd).2.1⟩) hR (uk l t R K D hl hp h e)
theorem qe {l:List av}{t:VT}{K D:Nat}(hsm:l.length≤64→gy l∧jS l∧rF K l)(hlt:aM K t=true)(hd:ac t≤D):
  (∃R,aP l t=(0,R)∧cM l=0∧dL t=true∧doL l t=(0,R)∧im (K+64) (D+1024) R)∨((aP l t).1≠0∧(aP l t).2=bP):=by
 by_cases hc:cM l=0
 ·obtain⟨h64,hm⟩:=ig hc;obtain⟨-,h2,h3⟩:=hsm h64;by_cases hb:dL t=true
  ·have e:aP l t=doL l t:=by unfold aP;rw[if_neg (by rw[hc];simp),if_pos hb]
   rw[e];rcases lO l t K D (fun d hd'=>⟨hm d hd',h2 d hd',h3 d hd'⟩) ⟨hb,hlt,hd⟩with ⟨R,e1,hR⟩|e1
   ·exact .inl ⟨R,e1,hc,hb,e1,hR.mono (by omega) (by omega)⟩
   ·rw[e1];exact .inr ⟨by decide,rfl⟩
  ·have e:aP l t=(20,bP):=by unfold aP;rw[if_neg (by rw[hc];simp),if_neg hb]
   rw[e];exact .inr ⟨by decide,rfl⟩
 ·have e:aP l t=(cM l,bP):=by unfold aP;rw[if_pos hc]
  rw[e];exact .inr ⟨hc,rfl⟩
theorem qM {l:List av}{t R:VT}{K D:Nat}(hsm:l.length≤64→gy l∧jS l∧rF K l)(hlt:aM K t=true)(hd:ac t≤D)(hf:lq l=true)(hc:cM l=0)(hb:dL t=true)(e:doL l t=(0,R))(hR:dL R=true):aP l R=(0,R):=by
 obtain⟨h64,hm⟩:=ig hc;obtain⟨-,h2,h3⟩:=hsm h64;unfold aP;rw[if_neg (by rw[hc];simp),if_pos hR];exact wD (fun d hd'=>⟨hm d hd',h2 d hd',h3 d hd'⟩) hf ⟨hb,hlt,hd⟩ e
def kG (d:av):VT→List ByteArray→Int×VT:=if d.kind=1 then bC d.val else if d.kind=2 then bu else bw d.num
def goD (d:av)(t:VT):Int×VT:=goT (kG d) t d.path
def goL :List av→VT→Int×VT
 | [],t=>(0,t)
 |d::l,t=>if(goD d t).1=0 then goL l (goD d t).2 else goD d t
theorem gS {d:av}{l:List av}{t u:VT}(h:goD d t=(0,u)):goL (d::l) t=goL l u:=by
 conv=>lhs;unfold goL
 rw[h];rfl
theorem mZ : ∀ {l r:List av} {t u:VT},goL l t=(0,u)→goL (l++r) t=goL r u
 | [],r,t,u,h=>by injection h with h1 h2;subst h2;rfl
 |d::l,r,t,u,h=>by
  by_cases h0:(goD d t).1=0
  ·have e:goD d t=(0,(goD d t).2):=Prod.ext h0 rfl;rw[gS e]at h;rw[List.cons_append,gS e];exact mZ h
  ·unfold goL at h;rw[if_neg h0]at h;rw[h]at h0;exact absurd rfl h0
structure Upd (t:VT)(s:ByteArray)(o:Option VT)(t':VT):Prop where
 kind:t'.kind=t.kind
 may:ao t'=true
 here:aJ t' s=o
 far: ∀z,z≠s→aJ t' z=aJ t z
theorem rK {t x:VT}{s:ByteArray}(h:aJ t s=some x):0≤ab t s∧ ∃hj:(ab t s).toNat<t.items.length,t.items[(ab t s).toNat]=x:=by
 unfold aJ at h;by_cases hn:ab t s<0
 ·rw[if_pos hn]at h;cases h
 ·rw[if_neg hn]at h;obtain⟨hj,e⟩:=List.getElem?_eq_some_iff.1 h;exact⟨Int.not_lt.1 hn,hj,e⟩
theorem qg {t x:VT}{s:ByteArray}(hm:ao t=true)(h:aJ t s=some x):ao x=true:=by
 obtain⟨-,hj,rfl⟩:=rK h;exact ci hm hj
theorem zw {t u:VT}{s:ByteArray}(hm:ao t=true)(hu:ao u=true)(h:0≤ab t s):Upd t s (some u) (bO t (ab t s).toNat u):=
 ⟨eF _ _ _,jC _ hm hu,eM u h (aR (bR hm) h),fun z hz=>dz u hz h⟩
theorem wZ (x:VT):al [] x=x:=rfl
theorem yh {t x:VT}{s:ByteArray}(hm:ao t=true)(hk:t.kind=7)(hx:ao x=true)(hs:bI s.data.toList=true): ∃t',goT (bC x) t [s]=(0,t')∧Upd t s (some x) t':=by
 rw[bZ (.inr rfl),cw,wZ];by_cases h:0≤ab t s
 ·rw[if_pos h];exact⟨_,rfl,zw hm hx h⟩
 ·rw[if_neg h,if_pos hk];have h0:ab t s<0:=Int.not_le.1 h;exact⟨_,rfl,(ka t s x),tS hk hm hx hs h0,fP x hk (dS hm hk) h0,fun z hz=>ir x hk (dS hm hk) hz⟩
theorem wh {t:VT}{s:ByteArray}(hm:ao t=true)(hk:t.kind=7): ∃t',goT bu t [s]=(0,t')∧Upd t s none t':=by
 rw[bZ (.inr rfl),bk];by_cases h:ab t s<0
 ·rw[if_pos h];exact⟨_,rfl,rfl,hm,jQ h,fun _ _=>rfl⟩
 ·rw[if_neg h,if_pos hk];have h0:0≤ab t s:=Int.not_lt.1 h;exact⟨_,rfl,iQ _ _,tO hk hm (aR (bR hm) h0),jQ (jr hm hk h0),fun z hz=>rP hk hz h0⟩
structure tZ (d:av):Prop where
 val:d.kind=1→ao d.val=true
 num:0≤d.num
 names:ek d.path
theorem zr {d:av}{t:VT}(hd:tZ d)(hm:ao t=true):ao (goD d t).2=true:=by
 refine(eX (fin:=kG d) ?_ _ _ hm hd.names).1;intro t s r h1 h2 h3;unfold kG
 split
 ·next h=>exact lF _ (hd.val h) t s r h1 h2 h3
 ·split
  ·exact gT t s r h1 h2 h3
  ·exact jH _ t s r h1 h2 h3
def ixT (n:Nat):ByteArray:=⟨(Lib.itoa n).toArray⟩
end Go.Proofs.YtgbopnlpaabelaaGreatDoor
/- What an update changes, plain: what each operator changes by what lies at its path, what a replacement changes, and what all of it changes. -/
namespace Go.Proofs.YtgbopnlpaabelaaGreatDoor
open Go.RowKit
def dP (p:List ByteArray)(x:VT):av:=⟨1,p,x,0⟩
def eV (p:List ByteArray):av:=⟨2,p,bP,0⟩
def jZ (l:List VT):VT:= .mk 6 0 ⟨#[]⟩ l []
def sO (n:Int):VT:= .mk 3 n ⟨#[]⟩ [] []
def jz (gives:Int→Bool)(o:OpT)(x:Option VT):Int×List av:=match x with
 |some y=>if gives (fc y o.val)then(0,[dP o.path o.val])else(0,[])
 |none=>(0,[dP o.path o.val])
def kr (o:OpT)(x:Option VT):Int×List av:=match x with
 |none=>(0,[dP o.path o.val])
 |some y=>if y.kind≠3 then(50,[])else if wrap64 (y.num+o.val.num)=y.num+o.val.num then(0,[dP o.path (sO (wrap64 (y.num+o.val.num)))])else(80,[])
def ep (o:OpT)(x:Option VT):Int×List av:=match x with
 |none=>if aG (jZ [o.val])=0 then(0,[dP o.path (jZ [o.val])])else(aG (jZ [o.val]),[])
 |some y=>if y.kind≠6 then(50,[])else if 999<y.items.length then(3,[])else if cn (o.path++[ixT y.items.length])then(0,[dP (o.path++[ixT y.items.length]) o.val])else(40,[])
def ul (o:OpT)(y:VT):List VT:=y.items.filter fun z=> !(fc z o.val == 0)
def iA (o:OpT)(x:Option VT):Int×List av:=match x with
 |none=>(0,[])
 |some y=>if y.kind≠6 then(50,[])else if(ul o y).length=y.items.length then(0,[])else(0,[dP o.path (jZ (ul o y))])
def jN (o:OpT)(x:Option VT)(inArr:Bool):Int×List av:=match x with
 |none=>(0,[])
 |some y=>if inArr then(40,[])else(0,[eV o.path,dP o.to y])
def py (o:OpT)(x:Option VT):Int×List av:=match x with
 |none=>(0,[])
 |some _=>(0,[eV o.path])
def opU (o:OpT)(x:Option VT)(inArr:Bool):Int×List av:=
 if o.kind=2 then py o x else if o.kind=3 then kr o x else if o.kind=4 then ep o x else if o.kind=5 then iA o x else if o.kind=6 then jN o x inArr
 else if o.kind=7 then jz (fun c=>decide (0<c)) o x else if o.kind=8 then jz (fun c=>decide (c<0)) o x else jz (fun c=> !decide (c=0)) o x
def fF (v:VT)(o:OpT):Int×List av:=opU o (bv v o.path) (jp v o.path)
def bc (v:VT):List OpT→Int×List av
 | []=>(0,[])
 |o::l=>if(fF v o).1≠0 then((fF v o).1,[])else if(bc v l).1≠0 then((bc v l).1,[])else(0,(fF v o).2++(bc v l).2)
def mn (v d:VT):List av:=(v.names.filter fun n=> !decide (n=idN) && !(d.names.any fun x=>decide (x=n))).map fun n=>eV [n]
def dp (v:VT)(n:ByteArray)(x:VT):Bool:=match aJ v n with
 |some y=> !(fc y x == 0)
 |none=>true
def tW (v d:VT):List av:=((d.names.zip d.items).filter fun q=>dp v q.1 q.2).map fun q=>dP [q.1] q.2
def cg (v d:VT):List av:=mn v d++tW v d
def bN (v:VT):Bool:=decide (v.kind=7) && decide (aG v=0) && (aJ v idN).isSome
def fZ (v:VT)(s:ba):Int×List av:=if s.rep then(0,cg v s.doc)else bc v s.ops
def aw (v:VT)(s:ba):Int×List av:=
 if bN v=false then(20,[])else if bX s≠0 then(bX s,[])else if(fZ v s).1≠0 then((fZ v s).1,[])else if 64<(fZ v s).2.length then(3,[])else fZ v s
def bo (v:VT)(s:ba):Int×VT×List av:=
 if(aw v s).1≠0 then((aw v s).1,bP,[])
 else if(aP (aw v s).2 v).1≠0 then((aP (aw v s).2 v).1,bP,[])
 else if aG (aP (aw v s).2 v).2≠0 then(aG (aP (aw v s).2 v).2,bP,[])else(0,(aP (aw v s).2 v).2,(aw v s).2)
theorem qG (v:VT):bc v []=(0,[]):=rfl
theorem cP (v:VT)(o:OpT)(l:List OpT):bc v (o::l)=if(fF v o).1≠0 then((fF v o).1,[])else if(bc v l).1≠0 then((bc v l).1,[])else(0,(fF v o).2++(bc v l).2):=rfl
theorem gt (v:VT): ∀(l:List OpT) (o:OpT) (r:List av),bc v l=(0,r)→bc v (l++[o])=if(fF v o).1≠0 then((fF v o).1,[])else(0,r++(fF v o).2)
 | [],o,r,h=>by
  injection h with _ h;subst h
  rw[List.nil_append,cP,qG]
  simp
 |a::l,o,r,h=>by
  rw[cP]at h;rw[List.cons_append,cP];by_cases h1:(fF v a).1≠0
  ·rw[if_pos h1]at h;injection h with h _;exact absurd h h1
  ·rw[if_neg h1]at h ⊢;by_cases h2:(bc v l).1≠0
   ·rw[if_pos h2]at h;injection h with h _;exact absurd h h2
   ·rw[if_neg h2]at h;injection h with _ h
    have e:bc v l=(0,(bc v l).2):=Prod.ext (by simpa using h2) rfl;rw[gt v l o _ e];by_cases h3:(fF v o).1≠0
    ·rw[if_pos h3,if_pos h3,if_pos h3]
    ·rw[if_neg h3,if_neg h3];simp only[ne_eq,not_true_eq_false,if_false];rw[←h,List.append_assoc]
theorem lp (v:VT): ∀(l r:List OpT),(bc v l).1≠0→bc v (l++r)=((bc v l).1,[])
 | [],_,h=>absurd rfl h
 |a::l,r,h=>by
  rw[cP]at h;rw[List.cons_append,cP,cP];by_cases h1:(fF v a).1≠0
  ·rw[if_pos h1,if_pos h1]
  ·rw[if_neg h1]at h ⊢;rw[if_neg h1];by_cases h2:(bc v l).1≠0
   ·rw[lp v l r h2];simp only[if_pos h2]
   ·rw[if_neg h2]at h;exact absurd rfl h
theorem uv {a b:Int}(ha:Rng a)(hb:Rng b):(decide (wrap64 (a+b)<a) != decide (b<0))= !decide (wrap64 (a+b)=a+b):=by
 unfold Rng at ha hb;unfold wrap64;by_cases h1:b<0<;>simp only[h1]<;>(rw[Bool.eq_iff_iff];simp;omega)
end Go.Proofs.YtgbopnlpaabelaaGreatDoor
