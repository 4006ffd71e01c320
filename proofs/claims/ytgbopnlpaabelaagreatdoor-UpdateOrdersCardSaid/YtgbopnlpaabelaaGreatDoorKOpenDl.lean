/- Changes that came in. -/
import Derived.Test.YtgbopnlpaabelaaGreatDoorKRefO
import Derived.Test.YtgbopnlpaabelaaGreatDoorKRefM
import Derived.Test.YtgbopnlpaabelaaGreatDoorKTkO
import Derived.Test.YtgbopnlpaabelaaGreatDoorKPathA
import Derived.Test.YtgbopnlpaabelaaGreatDoorKSpJ
import Derived.Test.YtgbopnlpaabelaaGreatDoorKDlD
import Derived.Test.YtgbopnlpaabelaaGreatDoorKTrE
import Derived.Test.YtgbopnlpaabelaaGreatDoorKTsD
import Derived.Test.YtgbopnlpaabelaaGreatDoorKValQ
import Derived.Lib.ItoaNum
set_option maxHeartbeats 64000000
set_option maxRecDepth 100000
set_option linter.unusedVariables false
set_option linter.unusedSimpArgs false
namespace Go.Proofs.YtgbopnlpaabelaaGreatDoor
open Go.ChangeShapes Go.WideShapes Go.RowKit Go.Joins Go.Deep
def AJ (w:World)(A:Option Addr)(l:List au):Prop:= ∀k,k<l.length→ ∀b off,A=some ⟨b,off,none⟩→ ∀PA n pc,w.cell? ⟨b,off+k * 8+1,none⟩=some (.slice PA n pc)→pc≤9223372036854775807
section
variable {H :Type} {enc:TypeId×Value→H} {W:World} {sp:Nat→Bool}
theorem su {fuel:Nat}{cs:List Value}{x:DataW H×List MemPlace}(h:DataW.trod enc Tryz.prog W 0 sp true fuel 23 cs=some x)(hw: ∀n∈x.1.weights Tryz.prog 23,n≤reachBytes):
  ∃A c,∃ns:List ByteArray,cs= [.slice A ns.length c]∧ns.length≤c∧(A=none→c=0)∧c≤9223372036854775807∧ns.length≤8796093021952∧ai W (fun b=>b<W.heap.size) A ns:=by
 obtain⟨A,c,ns,hcs,h1,h2,h3,h4⟩:=iw h hw;refine⟨A,c,ns,hcs,h1,h2,?_,h3,h4⟩;rcases open_strings Tryz.underlying23 Tryz.underlying9 mZ h with ⟨h0,_⟩|⟨a,len,cap,ss,h0,-,hl,hm,-⟩
 ·rw[hcs]at h0;injection h0 with h0
  injection h0 with e1 e2 e3
  omega
 ·rw[hcs]at h0;injection h0 with h0
  injection h0 with e1 e2 e3
  unfold maxLen at hm;omega
end
end Go.Proofs.YtgbopnlpaabelaaGreatDoor
/- Changes done one behind the other, by the program. -/
namespace Go.Proofs.YtgbopnlpaabelaaGreatDoor
open Lib (hid)
open Go.RowKit
def rF (K:Nat)(l:List au):Prop:= ∀d∈l,aR K d.val=true
theorem wi {l:List au}{k:Nat}(hk:k<l.length):l.take (k+1)=l.take k++[l[k]]:=List.take_succ_eq_append_getElem hk
theorem rZ {l:List au}{t u:VT}{k:Nat}(hk:k<l.length)(h:doL (l.take k) t=(0,u)):doL (l.take (k+1)) t=if(doD l[k] u).1=0 then doD l[k] u else((doD l[k] u).1,aT):=by
 rw[wi hk,qy,h];rfl
theorem zZ {l:List au}{t u:VT}{k:Nat}(hk:k<l.length)(h:doL (l.take k) t=(0,u))(hx:(doD l[k] u).1≠0):doL l t=((doD l[k] u).1,aT):=by
 have h1:=rZ hk h;rw[if_neg hx]at h1;have h2:=zS (r:=l.drop (k+1)) (l:=l.take (k+1)) (t:=t) (by rw[h1];exact hx);rw[List.take_append_drop,h1]at h2;exact h2
structure qP (w wr:World)(g:Nat)(u:VT)(A:Option Addr)(c:Nat)(A':Option Addr)(c':Nat):Prop where
 below:Below w.heap.size w wr
 zero:Box wr (w.heap.size+1) (.int .i64 0) (.int .i64 0) (.string ⟨#[]⟩) (.slice none 0 0) (.slice none 0 0)
 box:Box wr g (.int .i64 u.kind) (.int .i64 u.num) (.string u.text) (.slice A u.items.length c) (.slice A' u.names.length c')
 val:LV wr (fun b=>w.heap.size+2≤b∧b<wr.heap.size∧b≠g) u (.agg #[.int .i64 u.kind,.int .i64 u.num,.string u.text,.slice A u.items.length c,.slice A' u.names.length c'])
 far:w.heap.size+2≤g
theorem qP.end {w wr:World}{g:Nat}{u:VT}{A:Option Addr}{c:Nat}{A':Option Addr}{c':Nat}{r:Int×VT}(h:qP w wr g u A c A' c')(hr:r=(0,u)):
  ej r w (.returned (.tuple #[.agg #[.int .i64 u.kind,.int .i64 u.num,.string u.text,.slice A u.items.length c,.slice A' u.names.length c'],.int .i64 0])) (cH wr (w.heap.size+1) 0 (.int .i64 u.kind) (.int .i64 u.num) (.string u.text) (.slice A u.items.length c) (.slice A' u.names.length c')):=
 cC 1 h.below (h.val.imp fun b hb=>⟨by have:=hb.1;omega,hb.2.1⟩) hr
theorem jC {w wr:World}{x:Int}{r:Int×VT}(hb:Below w.heap.size w wr)(hr:r=(x,aT)):ej r w (.returned (.tuple #[.agg #[.int .i64 0,.int .i64 0,.string ⟨#[]⟩,.slice none 0 0,.slice none 0 0],.int .i64 x])) (cH wr (w.heap.size+1) 0 (.int .i64 0) (.int .i64 0) (.string ⟨#[]⟩) (.slice none 0 0) (.slice none 0 0)):=by
 subst hr;exact cC 1 hb (fi _ _ _ _ _ (by unfold Rng;omega) (by unfold Rng;omega) (by decide)) rfl
theorem rm (S:Nat→Prop)(t:VT)(v:Value)(A:Option Addr)(c:Nat)(l:List au)(w:World)(K D:Nat)(hS: ∀b,S b→b<w.heap.size)(h:LV w S t v)(hd:ac t≤D)(hlt:aR K t=true)(hK:K≤9000)(hD:D≤1000000)
  (hl:dl w S A l) (hcap:AJ w A l) (hn:l.length≤140737488351232) (hsm:l.length≤64→gC l∧jM l∧rF K l):
  Calls Tryz.prog 21 #[v,.slice A l.length c] w (ej (aQ l t) w):=by
 obtain⟨A0,c0,A0',c0',rfl,-,-,-,v1,hb0⟩:=bY hS h;have hV:=h;have hz1:(w.alloc (.cells #[.int .i64 t.kind,.int .i64 t.num,.string t.text,.slice A0 t.items.length c0,.slice A0' t.names.length c0'] 25)).heap.size=w.heap.size+1:=by simp
 have hz2:((w.alloc (.cells #[.int .i64 t.kind,.int .i64 t.num,.string t.text,.slice A0 t.items.length c0,.slice A0' t.names.length c0'] 25)).alloc (.cells #[.int .i64 0,.int .i64 0,.string ⟨#[]⟩,.slice none 0 0,.slice none 0 0] 25)).heap.size=w.heap.size+2:=by simp
 have hB:Below w.heap.size w ((w.alloc (.cells #[.int .i64 t.kind,.int .i64 t.num,.string t.text,.slice A0 t.items.length c0,.slice A0' t.names.length c0'] 25)).alloc (.cells #[.int .i64 0,.int .i64 0,.string ⟨#[]⟩,.slice none 0 0,.slice none 0 0] 25)):=hb0.alloc (by omega) _;have hX:=v1.x.alloc (.cells #[.int .i64 0,.int .i64 0,.string ⟨#[]⟩,.slice none 0 0,.slice none 0 0] 25)
 have hR:Box ((w.alloc (.cells #[.int .i64 t.kind,.int .i64 t.num,.string t.text,.slice A0 t.items.length c0,.slice A0' t.names.length c0'] 25)).alloc (.cells #[.int .i64 0,.int .i64 0,.string ⟨#[]⟩,.slice none 0 0,.slice none 0 0] 25)) (w.heap.size+1) (.int .i64 0) (.int .i64 0) (.string ⟨#[]⟩) (.slice none 0 0) (.slice none 0 0):=by
  have h:=Box.new (w:=w.alloc (.cells #[.int .i64 t.kind,.int .i64 t.num,.string t.text,.slice A0 t.items.length c0,.slice A0' t.names.length c0'] 25)) (.int .i64 0) (.int .i64 0) (.string ⟨#[]⟩) (.slice none 0 0) (.slice none 0 0);rw[hz1]at h;exact h
 obtain⟨W,hW⟩: ∃W,W=(w.alloc (.cells #[.int .i64 t.kind,.int .i64 t.num,.string t.text,.slice A0 t.items.length c0,.slice A0' t.names.length c0'] 25)).alloc (.cells #[.int .i64 0,.int .i64 0,.string ⟨#[]⟩,.slice none 0 0,.slice none 0 0] 25):=⟨_,rfl⟩;rw[←hW]at hB hX hR hz2;have HSD:=hid (And.intro hd (And.intro hlt hsm));have HV:=hid hV;have HL:=hid hl;have HCP:=hid hcap;have HS:=hid hS;have HC:=hid (wH S A c l W (fun b hb=>by have:=hS b hb;omega) (hl.below hS hB) hn (fun h=>(hsm h).1));have HB:=hid hB;have HX:=hid hX;have HR:=hid hR;have HZ2:=hid hz2;obtain⟨res,hres⟩: ∃r,r=aQ l t:=⟨_,rfl⟩;have HRES:=hid hres;rw[←hres];clear hd hlt hsm h hV hl hcap hS v1 hb0 hz1 hB hX hR hz2 hres;go_enter Tryz.func21,Tryz.ntmps21;go_wp2_with fail;rw[←hW];clear hW;refine HC.out.mono ?_;rintro e w3 ⟨rfl,hb3⟩;obtain⟨x,hx⟩: ∃x,x=cO l:=⟨_,rfl⟩;rw[←hx];have HXC:=hid hx;have HX3:=hid (HX.out.call hb3);have HR3:=hid (HR.out.call hb3);have HB3:=hid (HB.out.trans (hb3.mono HB.out.size));have HZ3:Hid (w.heap.size+2≤w3.heap.size):=hid (by have:=hb3.size;have:=HZ2.out;omega);clear hb3 hx HC HX HR HB HZ2;by_cases hx0:x=0;rotate_left
 ·have d1:(x != 0)=true:=by simpa using hx0
  have HE:Hid (res=(x,aT)):=hid (by rw[HRES.out];unfold aQ;rw[←HXC.out,if_pos hx0]);have HEND:=hid (jC HB3.out HE.out);have HBOX:=hid (aZ (c0:= .int .i64 0) (c1:= .int .i64 0) (c2:= .string ⟨#[]⟩) (c3:= .slice none 0 0) (c4:= .slice none 0 0) HR3.out);have rf:=fun i=>HR3.out.free i;have r0:=HR3.out.c0;have r1:=HR3.out.c1;have r2:=HR3.out.c2;have r3:=HR3.out.c3;have r4:=HR3.out.c4;clear hx0;go_wp2_with fail;refine bodyPost_ret (aq rfl _ _ (w.heap.size+1) 25 _ (0,0) rfl HBOX.out (by kernel_rfl)) rfl ?_;exact HEND.out
 subst hx0;have HCZ:=hid (ip HXC.out.symm);have HSQ:=hid (HSD.out.2.2 HCZ.out.1);have HAP:Hid (res=if cS t=true then doL l t else(20,aT)):=hid (by rw[HRES.out];unfold aQ;rw[if_neg (by rw[←HXC.out];simp)]);obtain⟨kd,hkd⟩: ∃k,k=t.kind:=⟨_,rfl⟩;have q0:=HX3.out.c0;have q1:=HX3.out.c1;have q2:=HX3.out.c2;have q3:=HX3.out.c3;have q4:=HX3.out.c4;have HLV3:=hid (HV.out.keep fun b hb=>HB3.out.block b (HS.out b hb));have HM:=hid (iQ S t _ w3 (fun b hb=>Nat.lt_of_lt_of_le (HS.out b hb) HB3.out.size) HLV3.out (by have:=HSD.out.1;omega));rw[←hkd]at q0 HM HLV3;have HKD:=hid hkd;clear hkd HRES;by_cases h7:kd=7;rotate_left
 ·have d1:(kd != 7)=true:=bne_iff_ne.2 h7;have HE:Hid (res=(20,aT)):=hid (by rw[HAP.out,if_neg (fun k=>h7 (by rw[HKD.out];exact(bB.1 k).2))]);have HEND:=hid (jC HB3.out HE.out);have HBOX:=hid (aZ (c0:= .int .i64 0) (c1:= .int .i64 0) (c2:= .string ⟨#[]⟩) (c3:= .slice none 0 0) (c4:= .slice none 0 0) HR3.out);have rf:=fun i=>HR3.out.free i;have r0:=HR3.out.c0;have r1:=HR3.out.c1;have r2:=HR3.out.c2;have r3:=HR3.out.c3;have r4:=HR3.out.c4;clear h7;go_wp2_with fail;refine bodyPost_ret (aq rfl _ _ (w.heap.size+1) 25 _ (0,0) rfl HBOX.out (by kernel_rfl)) rfl ?_;exact HEND.out
 subst h7;go_wp2_with fail;refine HM.out.mono ?_;rintro e w4 ⟨rfl,hb4⟩;have HX4:=hid (HX3.out.call hb4);have HR4:=hid (HR3.out.call hb4);have HB4:=hid (HB3.out.trans (hb4.mono HB3.out.size));have HZ4:Hid (w.heap.size+2≤w4.heap.size):=hid (by have:=hb4.size;have:=HZ3.out;omega);have HLV4:=hid (HLV3.out.keep (w':=w4) fun b hb=>hb4.block b (Nat.lt_of_lt_of_le (HS.out b hb) HB3.out.size));clear q0 q1 q2 q3 q4 hb4 HM HX3 HR3 HB3 HZ3 HLV3;cases hmt:ao t
 ·have HE:Hid (res=(20,aT)):=hid (by rw[HAP.out,if_neg (fun k=>by have:=(bB.1 k).1;rw[hmt]at this;cases this)]);have HEND:=hid (jC HB4.out HE.out);have HBOX:=hid (aZ (c0:= .int .i64 0) (c1:= .int .i64 0) (c2:= .string ⟨#[]⟩) (c3:= .slice none 0 0) (c4:= .slice none 0 0) HR4.out);have rf:=fun i=>HR4.out.free i;have r0:=HR4.out.c0;have r1:=HR4.out.c1;have r2:=HR4.out.c2;have r3:=HR4.out.c3;have r4:=HR4.out.c4;clear hmt;go_wp2_with fail;refine bodyPost_ret (aq rfl _ _ (w.heap.size+1) 25 _ (0,0) rfl HBOX.out (by kernel_rfl)) rfl ?_;exact HEND.out
 have HDOC:Hid (gQ K D t):=hid ⟨bB.2 ⟨hmt,HKD.out.symm⟩,HSD.out.2.1,HSD.out.1⟩;have HAL:Hid (res=doL l t):=hid (by rw[HAP.out,if_pos HDOC.out.doc]);have q0:=HX4.out.c0;have q1:=HX4.out.c1;have q2:=HX4.out.c2;have q3:=HX4.out.c3;have q4:=HX4.out.c4;have HLV5:=HLV4.out;rw[HKD.out]at HLV5;have HCL:=hid (pg S t _ w4 (fun b hb=>Nat.lt_of_lt_of_le (HS.out b hb) HB4.out.size) HLV5);rw[←HKD.out]at HCL q0;clear hmt HAP HLV5 HLV4;go_wp2_with fail;refine HCL.out.mono ?_;rintro e w5 ⟨v5,rfl,hv5,hb5⟩;obtain⟨A5,c5,A5',c5',rfl,-⟩:=hv5.shape;have hz45:=HZ4.out;have hz55:=hb5.size
 have hm0:qP w (w5.alloc (.cells #[.int .i64 t.kind,.int .i64 t.num,.string t.text,.slice A5 t.items.length c5,.slice A5' t.names.length c5'] 25)) w5.heap.size t A5 c5 A5' c5':=
  { below:=(HB4.out.trans (hb5.mono HB4.out.size)).alloc (Nat.le_trans HB4.out.size hb5.size) _,zero:=(HR4.out.call hb5).alloc _,box:=Box.new _ _ _ _ _,val:=(hv5.keep fun b hb=>Below.heap_alloc w5 _ b hb.2).imp fun b hb=>⟨by have:=hb.1;omega,by have:=hb.2;simp;omega,by have:=hb.2;omega⟩,far:=by omega }
 obtain⟨g5,hg5⟩: ∃g,g=w5.heap.size:=⟨_,rfl⟩;obtain⟨w6,hw6⟩: ∃W,W=w5.alloc (.cells #[.int .i64 t.kind,.int .i64 t.num,.string t.text,.slice A5 t.items.length c5,.slice A5' t.names.length c5'] 25):=⟨_,rfl⟩;rw[←hg5,←hw6]at hm0;have h0:Hid (∃(u:VT) (A:Option Addr) (c:Nat) (A':Option Addr) (c':Nat),qP w w6 g5 u A c A' c'∧doL (l.take 0) t=(0,u)∧gQ (K+0) (D+16 * 0) u):=hid ⟨t,A5,c5,A5',c5',hm0,by simp[doL],by simpa using HDOC.out⟩;clear q0 q1 q2 q3 q4 hv5 hb5 hm0 HCL HX4 HR4 HB4 HZ4 hz45 hz55 HKD;go_wp2_with fail;rw[←hw6,←hg5];clear hw6 hg5;go_wp2_with fail
 go_loopw [31] (fun i wr=> ∃k:Nat,i= .int .i64 k∧k≤l.length∧Hid (∃(u:VT) (A:Option Addr) (c:Nat) (A':Option Addr) (c':Nat),qP w wr g5 u A c A' c'∧doL (l.take k) t=(0,u)∧gQ (K+k) (D+16 * k) u)) (fun i _=>l.length - (intOf i).toNat)
 case atStart=>exact⟨0,rfl,by omega,h0⟩
 case round=>
  obtain⟨k,rfl,hk,HH⟩:=hrel;obtain⟨u,A6,c6,A6',c6',hm,hdo,hdk⟩:=HH.out;clear HH;by_cases hlt:k<l.length
  ·have d1:decide ((k:Int)<(l.length:Int))=true:=decide_eq_true (by omega);obtain⟨p,off,PA,pc,VA,vc,VA',vc',rfl,hpS,ho,x0,x1,x2,x3,x4,x5,x6,x7⟩:=HL.out.cells k hlt;have h63:=HCP.out k hlt p off rfl PA _ pc x1;have hp:=hm.below.block p (HS.out p hpS);have z0:=(World.cell?_of_block (a:=⟨p,off+k * 8,none⟩) hp).trans x0;have z1:=(World.cell?_of_block (a:=⟨p,off+k * 8+1,none⟩) hp).trans x1;have z2:=(World.cell?_of_block (a:=⟨p,off+k * 8+2,none⟩) hp).trans x2;have z3:=(World.cell?_of_block (a:=⟨p,off+k * 8+3,none⟩) hp).trans x3;have z4:=(World.cell?_of_block (a:=⟨p,off+k * 8+4,none⟩) hp).trans x4;have z5:=(World.cell?_of_block (a:=⟨p,off+k * 8+5,none⟩) hp).trans x5;have z6:=(World.cell?_of_block (a:=⟨p,off+k * 8+6,none⟩) hp).trans x6;have z7:=(World.cell?_of_block (a:=⟨p,off+k * 8+7,none⟩) hp).trans x7;have hmay:=HCZ.out.2 _ (List.getElem_mem hlt);have h64:=HCZ.out.1;have HM6:=hid hm;have HDK:=hid hdk;have HDO:=hid hdo;obtain⟨X,hX⟩: ∃X:Obj,X= .cells #[.int .i64 l[k].kind,.slice PA l[k].path.length pc,.int .i64 l[k].val.kind,.int .i64 l[k].val.num,.string l[k].val.text,.slice VA l[k].val.items.length vc,.slice VA' l[k].val.names.length vc',.int .i64 l[k].num] 58:=⟨_,rfl⟩;have hb7:Below w.heap.size w (wr.alloc X):=hm.below.alloc hm.below.size X;have hD7:eD (wr.alloc X) wr.heap.size (.int .i64 l[k].kind) (.slice PA l[k].path.length pc) (.int .i64 l[k].val.kind) (.int .i64 l[k].val.num) (.string l[k].val.text) (.slice VA l[k].val.items.length vc) (.slice VA' l[k].val.names.length vc') (.int .i64 l[k].num):=by rw[hX];exact eD.new wr _ _ _ _ _ _ _ _
   have hM7:=hm.box.alloc X;have HZ7:=hid (hm.zero.alloc X);have hgl:=hm.box.lt;have hfar:=hm.far;have hz7:(wr.alloc X).heap.size=wr.heap.size+1:=by simp
   have HLV7:=hm.val.keep (w':=wr.alloc X) fun b hb=>Below.heap_alloc wr X b hb.2.1;have HDO7:=hid (zM (fun b=>b<(wr.alloc X).heap.size) u _ l[k] PA pc VA vc VA' vc' (wr.alloc X) (fun b hb=>hb) (HLV7.imp fun b hb=>by have:=hb.2.1;omega) (by have:=hdk.deep;omega) (bR (by omega) _ hdk.lens) ((ho.keep fun b hb=>hb7.block b (HS.out b hb)).imp fun b hb=>by have:=HS.out b hb;have:=hb7.size;omega) hmay h63 (HSQ.out.1 _ (List.getElem_mem hlt)));have HNX:=hid (iy hmay (HSQ.out.2.1 _ (List.getElem_mem hlt)) (bR (K:=K) (K':=K+k) (by omega) _ (HSQ.out.2.2 _ (List.getElem_mem hlt))) hdk);have HB7:=hid hb7;have HM7:=hid hM7;have HZ7z:=hid (And.intro hz7 (And.intro hgl hfar));have y0:=hM7.c0;have y1:=hM7.c1;have y2:=hM7.c2;have y3:=hM7.c3;have y4:=hM7.c4;have s0:=hD7.g0;have s1:=hD7.g1;have s2:=hD7.g2;have s3:=hD7.g3;have s4:=hD7.g4;have s5:=hD7.g5;have s6:=hD7.g6;have s7:=hD7.g7;rw[hX]at y0 y1 y2 y3 y4 s0 s1 s2 s3 s4 s5 s6 s7 HDO7;have HXX:=hid hX;clear x0 x1 x2 x3 x4 x5 x6 x7 hp ho hmay hm hdk hdo hb7 hD7 hM7 HLV7 hz7 hgl hfar h63 hpS hX;go_wp2_with fail;refine HDO7.out.mono ?_;rintro e w8 ⟨v8,rfl,hv8,hb8⟩;rw[←HXX.out]at hv8 hb8;obtain⟨A8,c8,A8',c8',rfl,-⟩:=hv8.shape;obtain⟨r,hr⟩: ∃r,r=doD l[k] u:=⟨_,rfl⟩;rw[←hr]at hv8 HNX ⊢;have HRR:=hid hr;obtain⟨y,u8⟩:=r;simp only at hv8 HNX ⊢;obtain⟨hz7,hgl,hfar⟩:=HZ7z.out;have hz8:=hb8.size;have hM8:=HM7.out.call hb8;have hZ8:=HZ7.out.call hb8;have hB8:=HB7.out.trans (hb8.mono HB7.out.size);obtain⟨Y,hY⟩: ∃Y:Obj,Y= .cells #[.int .i64 u8.kind,.int .i64 u8.num,.string u8.text,.slice A8 u8.items.length c8,.slice A8' u8.names.length c8'] 25:=⟨_,rfl⟩
   have hN9:Box (w8.alloc Y) w8.heap.size (.int .i64 u8.kind) (.int .i64 u8.num) (.string u8.text) (.slice A8 u8.items.length c8) (.slice A8' u8.names.length c8'):=by rw[hY];exact Box.new _ _ _ _ _
   have hM9:=hM8.alloc Y;have hZ9:=hZ8.alloc Y;have hB9:Below w.heap.size w (w8.alloc Y):=hB8.alloc hB8.size Y;have hv9:=hv8.keep (w':=w8.alloc Y) fun b hb=>Below.heap_alloc w8 Y b hb.2;have hz9:(w8.alloc Y).heap.size=w8.heap.size+1:=by simp
   have HX9:=hid (And.intro hB9 (And.intro hZ9 (And.intro hM9 (And.intro hv9 (And.intro hz9 (And.intro hz8 (And.intro hz7 (And.intro hgl hfar))))))));have n0:=hN9.c0;have n1:=hN9.c1;have n2:=hN9.c2;have n3:=hN9.c3;have n4:=hN9.c4;have mf:=fun i=>hM9.free i;have m0:=hM9.c0;have m1:=hM9.c1;have m2:=hM9.c2;have m3:=hM9.c3;have m4:=hM9.c4;have zf:=fun i=>hZ9.free i;have o0:=hZ9.c0;have o1:=hZ9.c1;have o2:=hZ9.c2;have o3:=hZ9.c3;have o4:=hZ9.c4;rw[hY]at n0 n1 n2 n3 n4 mf m0 m1 m2 m3 m4 zf o0 o1 o2 o3 o4;have HY:=hid hY;clear y0 y1 y2 y3 y4 s0 s1 s2 s3 s4 s5 s6 s7 z0 z1 z2 z3 z4 z5 z6 z7 hv8 hb8 hr hM8 hZ8 hB8 hN9 hM9 hZ9 hB9 hv9 hz9 hz8 hz7 hgl hfar HDO7 HM7 HZ7 HB7 HZ7z HXX hY;by_cases hy:y=0
   ·subst hy;clear zf o0 o1 o2 o3 o4;go_wp2_with fail
    go_roundw
    case rel=>
     refine⟨k+1,by go_num,by omega,hid ⟨u8,A8,c8,A8',c8',?_,?_,?_⟩⟩
     ·obtain⟨hB9,hZ9,hM9,hv9,hz9,hz8,hz7,hgl,hfar⟩:=HX9.out;rw[HY.out]at hB9 hZ9 hM9 hv9 hz9;have hr5:=cv (w8.alloc (.cells #[.int .i64 u8.kind,.int .i64 u8.num,.string u8.text,.slice A8 u8.items.length c8,.slice A8' u8.names.length c8'] 25)) g5 0 (.int .i64 u8.kind) (.int .i64 u8.num) (.string u8.text) (.slice A8 u8.items.length c8) (.slice A8' u8.names.length c8');have hk5:=bE (w8.alloc (.cells #[.int .i64 u8.kind,.int .i64 u8.num,.string u8.text,.slice A8 u8.items.length c8,.slice A8' u8.names.length c8'] 25)) g5 0 (.int .i64 u8.kind) (.int .i64 u8.num) (.string u8.text) (.slice A8 u8.items.length c8) (.slice A8' u8.names.length c8');have hs5:=bQ (w8.alloc (.cells #[.int .i64 u8.kind,.int .i64 u8.num,.string u8.text,.slice A8 u8.items.length c8,.slice A8' u8.names.length c8'] 25)) g5 0 (.int .i64 u8.kind) (.int .i64 u8.num) (.string u8.text) (.slice A8 u8.items.length c8) (.slice A8' u8.names.length c8')
      exact
       { below:=⟨hr5.1.trans hB9.os,hr5.2.1.trans hB9.tape,hr5.2.2.trans hB9.output,Nat.le_trans hB9.size (Nat.le_of_eq hs5.symm),fun b hb=>(hk5 b (by omega)).trans (hB9.block b hb)⟩,zero:=(hk5 _ (by omega)).trans hZ9,box:=aZ hM9,val:=(hv9.keep fun b hb=>hk5 b (by have:=hb.1;omega)).imp fun b hb=>⟨by have:=hb.1;omega,Nat.lt_of_lt_of_le (by rw[hz9];have:=hb.2;omega) (Nat.le_of_eq hs5.symm),by have:=hb.1;omega⟩,far:=hfar }
     ·have h1:=rZ hlt HDO.out;rw[←HRR.out]at h1;exact h1
     ·rcases HNX.out with ⟨R,e,hR,-⟩|⟨e,-⟩
      ·injection e with _ e
       subst e;exact hR.mono (by omega) (by omega)
      ·injection e with e _
       cases e
    case measure=>simp[intOf];omega
   ·have d2:(y != 0)=true:=by simpa using hy
    have HE:Hid (res=(y,aT)):=hid (by
     rw[HAL.out,zZ hlt HDO.out (by rw[←HRR.out];exact hy),←HRR.out])
    have hB9:=HX9.out.1;have hZ9:=HX9.out.2.1;rw[HY.out]at hB9 hZ9;have HEND:=hid (jC hB9 HE.out);have HBOX:=hid (aZ (c0:= .int .i64 0) (c1:= .int .i64 0) (c2:= .string ⟨#[]⟩) (c3:= .slice none 0 0) (c4:= .slice none 0 0) hZ9);clear hy mf m0 m1 m2 m3 m4 n0 n1 n2 n3 n4 hB9 hZ9;go_wp2_with fail;refine bodyPost_ret (aq rfl _ _ (w.heap.size+1) 25 _ (0,0) rfl HBOX.out (by kernel_rfl)) rfl ?_;exact HEND.out
  ·have hke:k=l.length:=by omega
   have d1:decide ((k:Int)<(l.length:Int))=false:=decide_eq_false (by omega);have HE:Hid (res=(0,u)):=hid (by rw[HAL.out,←hdo,hke,List.take_length]);have HEND:=hid (hm.end HE.out);have HBOX:=hid (aZ (c0:= .int .i64 u.kind) (c1:= .int .i64 u.num) (c2:= .string u.text) (c3:= .slice A6 u.items.length c6) (c4:= .slice A6' u.names.length c6') hm.zero);have y0:=hm.box.c0;have y1:=hm.box.c1;have y2:=hm.box.c2;have y3:=hm.box.c3;have y4:=hm.box.c4;have zf:=fun i=>hm.zero.free i;have o0:=hm.zero.c0;have o1:=hm.zero.c1;have o2:=hm.zero.c2;have o3:=hm.zero.c3;have o4:=hm.zero.c4;clear hke hm hdo hdk;go_wp2_with fail;refine bodyPost_ret (aq rfl _ _ (w.heap.size+1) 25 _ (0,0) rfl HBOX.out (by kernel_rfl)) rfl ?_;exact HEND.out
end Go.Proofs.YtgbopnlpaabelaaGreatDoor
/- Twice is once; what was set lies there. Plain. -/
namespace Go.Proofs.YtgbopnlpaabelaaGreatDoor
theorem li (t:VT)(j:Nat)(u v:VT):bS (bS t j u) j v=bS t j v:=by cases t;simp[bS]
theorem gX {s:ByteArray}: ∀(ns:List ByteArray) (j:Nat),ns.Nodup→nmI 0 ns s=(j:Int)→nmI 0 (ns.eraseIdx j) s= -1
  | [],j,_,h=>by unfold nmI at h;omega
  |a::r,j,hn,h=>by
    rw[List.nodup_cons]at hn;by_cases ha:a=s
    · have e:nmI 0 (a::r) s=0:=by unfold nmI;rw[if_pos ha];rfl
      have:j=0:=by omega
      subst this;subst ha;simp only[List.eraseIdx_zero,List.tail_cons];exact kl fun i hi e=>hn.1 (e▸List.getElem_mem hi)
    · have e:nmI 0 (a::r) s=nmI 1 r s:=by conv=>lhs;unfold nmI
                                          rw[if_neg ha]
      have e2:=db s r 1;have h3:=(im (s:=s) (l:=r) (k:=0)).1;rw[e,e2]at h;have hnn: ¬nmI 0 r s<0:=fun hh=>by rw[if_pos hh]at h;omega
      rw[if_neg hnn]at h;obtain⟨i,rfl⟩: ∃i,j=i+1:=⟨j - 1,by omega⟩;have hi:nmI 0 r s=(i:Int):=by omega
      have ih:=gX r i hn.2 hi;simp only[List.eraseIdx_cons_succ];unfold nmI;rw[if_neg ha,db,ih,if_pos (by omega)]
theorem jy {t:VT}{s:ByteArray}(hm:ao t=true)(hk:t.kind=7)(h:0≤ab t s):ab (nZ t (ab t s).toNat) s<0:=by
  have e:nmI 0 t.names s=((ab t s).toNat:Int):=by rw[bL hk]at h ⊢;omega
  rw[bL ((iM _ _).trans hk)];have hd:=(bP t).1 hm
  cases t with
  |mk k i x l ns=>
    obtain⟨-,-,-,d⟩:=(fy hk).1 hd.1;show nmI 0 (ns.eraseIdx _) s<0;rw[gX ns _ (ci.1 d).2 e];omega
theorem lP {fin:VT→List ByteArray→Int×VT}{t:VT}{s:ByteArray}{r:List ByteArray}(h:0≤ab t s)(hr:r≠[])(hj:(ab t s).toNat<t.items.length)
    (ih:(goT fin (goT fin t.items[(ab t s).toNat] r).2 r).2=(goT fin t.items[(ab t s).toNat] r).2):(goT fin (goT fin t (s::r)).2 (s::r)).2=(goT fin t (s::r)).2:=by
  rw[eL h hr hj];obtain⟨X,hX⟩: ∃X,X=(goT fin t.items[(ab t s).toNat] r).2:=⟨_,rfl⟩;rw[←hX]at ih ⊢;show(goT fin (bS t (ab t s).toNat X) (s::r)).2=bS t (ab t s).toNat X;have hp:=fC t (ab t s).toNat X s;have hj2:(ab (bS t (ab t s).toNat X) s).toNat<(bS t (ab t s).toNat X).items.length:=by rw[hp,dq,List.length_set];exact hj
  rw[eL (by rw[hp];exact h) hr hj2]
  have hit:(bS t (ab t s).toNat X).items[(ab (bS t (ab t s).toNat X) s).toNat]=X:=by
    simp only[hp,dq,List.getElem_set_self]
  show bS _ _ (goT fin _ r).2=_;rw[hit,ih,hp,li]
theorem nK : ∀(p:List ByteArray) (t:VT),ao t=true→(goT bh (goT bh t p).2 p).2=(goT bh t p).2
  | [],t,_=>by simp[goT]
  |s::r,t,hm=>by
    by_cases he:ab t s<0∨r= []
    · rw[bX he,bf]
      show(goT bh (if _ then _ else _) _).2=(if _ then _ else _);by_cases hn:ab t s<0
      · rw[if_pos hn,bX he,bf]
        exact if_pos hn
      · rw[if_neg hn]
        have h0:0≤ab t s:=Int.not_lt.1 hn;obtain rfl:=he.resolve_left hn;by_cases h7:t.kind=7
        · rw[if_pos h7,bX (.inr rfl),bf]
          exact if_pos (jy hm h7 h0)
        · rw[if_neg h7,bX (.inr rfl),bf]
          show(if _ then _ else _)=_;rw[fC,if_neg hn,ez,if_neg h7,li]
    · have h0:0≤ab t s:=Int.not_lt.1 fun k=>he (.inl k)
      have hr:r≠[]:=fun k=>he (.inr k);have hj:=aP (bT hm) h0;exact lP h0 hr hj (nK r _ (cl hm hj))
theorem xd (x:VT)(n:Int)(hn:0≤n):gB (gB x n) n=gB x n:=by
  unfold gB
  split
  · rename_i h
    cases x with
    |mk k i s l ns=>
      have hk:k=6:=h.1;show(if(VT.mk k i s (l.take n.toNat) ns).kind=6∧n<((l.take n.toNat).length:Int)then _ else _)=_;rw[if_neg]
      · rintro⟨-,h2⟩
        rw[List.length_take]at h2;omega
  · rfl
theorem oK (n:Int): ∀(p:List ByteArray) (t:VT),ao t=true→(goT (bD n) (goT (bD n) t p).2 p).2=(goT (bD n) t p).2
  | [],t,_=>by simp[goT]
  |s::r,t,hm=>by
    by_cases he:ab t s<0∨r= []
    · rw[bX he,bF]
      by_cases hneg:n<0
      · rw[if_pos hneg]
        show(goT (bD n) t (s::r)).2=t;rw[bX he,bF,if_pos hneg]
      · rw[if_neg hneg]
        show(goT (bD n) (if _ then _ else _) _).2=(if _ then _ else _);by_cases hn:ab t s<0
        · rw[if_pos hn,bX he,bF,if_neg hneg]
          exact if_pos hn
        · rw[if_neg hn]
          have h0:0≤ab t s:=Int.not_lt.1 hn;obtain rfl:=he.resolve_left hn;have hj:=aP (bT hm) h0;rw[List.getElem?_eq_getElem hj];show(goT (bD n) (bS _ _ _) [s]).2=bS _ _ _;rw[bX (.inr rfl),bF,if_neg hneg];show(if _ then _ else _)=_;rw[fC,if_neg hn,dq,List.getElem?_set_self hj];show bS (bS _ _ _) _ _=_;rw[li,xd _ _ (by omega)]
    · have h0:0≤ab t s:=Int.not_lt.1 fun k=>he (.inl k)
      have hr:r≠[]:=fun k=>he (.inr k);have hj:=aP (bT hm) h0;exact lP h0 hr hj (oK n r _ (cl hm hj))
end Go.Proofs.YtgbopnlpaabelaaGreatDoor
/- The order of paths, and what it is for whether a list is free; the library's Compare of texts. -/
namespace Go.Proofs.YtgbopnlpaabelaaGreatDoor
open Go.RowKit
theorem si {a b:List ByteArray}:kn a b=true↔a <+: b:=by
  unfold kn;simp only[Bool.and_eq_true,decide_eq_true_eq];constructor
  · rintro⟨h1,h2⟩
    exact⟨b.drop a.length,by have:=List.take_append_drop a.length b;rw[h2]at this;exact this⟩
  · intro h
    exact⟨h.length_le,(List.prefix_iff_eq_take.1 h).symm⟩
theorem sR (a b:List ByteArray):cK a b=cK b a:=by unfold cK;rw[Bool.or_comm]
theorem mQ : ∀(l ahead:List (List ByteArray)),cm ahead l=false↔(∀p∈l,∀q∈ahead,cK p q=false)∧l.Pairwise (fun q p=>cK p q=false)
  | [],ahead=>by simp[cm]
  |p::r,ahead=>by
    rw[cm,Bool.or_eq_false_iff,mQ r (ahead++[p]),List.pairwise_cons,List.any_eq_false];constructor
    · rintro⟨h1,h2,h3⟩
      refine⟨fun x hx q hq=> ?_,fun x hx=>h2 x hx p (by simp),h3⟩;rcases List.mem_cons.1 hx with rfl|hx
      · simpa using h1 q hq
      · exact h2 x hx q (List.mem_append_left _ hq)
    · rintro⟨h1,h2,h3⟩
      refine⟨fun q hq=>by simpa using h1 p (List.mem_cons_self ..) q hq,fun x hx q hq=> ?_,h3⟩;rcases List.mem_append.1 hq with hq|hq
      · exact h1 x (List.mem_cons_of_mem _ hx) q hq
      · obtain rfl:=List.mem_singleton.1 hq;exact h2 x hx
theorem fj (ps:List (List ByteArray)):cm [] ps=false↔ps.Pairwise (fun q p=>cK p q=false):=by rw[mQ];simp
theorem vw {ps qs:List (List ByteArray)}(h:ps.Perm qs):cm [] ps=cm [] qs:=by
  have e:cm [] ps=false↔cm [] qs=false:=by
    rw[fj,fj];exact h.pairwise_iff fun {a b} h=>by rw[sR];exact h
  cases h1:cm [] ps<;>cases h2:cm [] qs<;>simp_all
end Go.Proofs.YtgbopnlpaabelaaGreatDoor
/- A free list, done a second time, changes nothing: plain. -/
namespace Go.Proofs.YtgbopnlpaabelaaGreatDoor
theorem jT {t u:VT}{k:Nat}(hk:k<t.items.length)(h:bS t k u=t):t.items[k]=u:=by
 have e:=dq t k u;rw[h]at e;have e2:t.items[k]? =(t.items.set k u)[k]? :=by rw[←e]
 rw[List.getElem?_set_self hk,List.getElem?_eq_getElem hk]at e2;injection e2
theorem eR {t:VT}{s:ByteArray}{r:List ByteArray}(h0:0≤ab t s)(hj:(ab t s).toNat<t.items.length):aV t (s::r)=aV t.items[(ab t s).toNat] r:=by
 rw[aI,oD h0 hj];rfl
theorem ni {t:VT}{s:ByteArray}{r:List ByteArray}(h0:ab t s<0):aV t (s::r)=none:=by
 rw[aI,jI h0];rfl
theorem cP (t:VT):aV t []=some t:=by unfold aV;rfl
theorem sV {t:VT}{s:ByteArray}(h:0≤ab t s)(h7:t.kind≠7):t.kind=6:=by
 by_cases h6:t.kind=6
 ·exact h6
 ·exfalso;have:=fM (s:=s) h7 h6;omega
def zn (t:VT)(p:List ByteArray):Prop:=aV t p=none∨(aV t p=some ka∧ ∃u,aV t p.dropLast=some u∧u.kind=6)
theorem mD : ∀(p:List ByteArray) (t:VT),ao t=true→p≠[]→((goT bh t p).2=t↔zn t p)
 | [],_,_,h=>absurd rfl h
 |s::r,t,hm,_=>by
  by_cases he:ab t s<0∨r= []
  ·rw[bX he,bf];show(if _ then _ else _)=t↔_;by_cases hn:ab t s<0
   ·rw[if_pos hn];exact⟨fun _=> .inl (ni hn),fun _=>rfl⟩
   ·have h0:0≤ab t s:=Int.not_lt.1 hn;obtain rfl:=he.resolve_left hn;have hj:=aP (bT hm) h0;rw[if_neg hn];by_cases h7:t.kind=7
    ·rw[if_pos h7];constructor
     ·intro h;have:=jy hm h7 h0;rw[h]at this;omega
     ·rintro(h|⟨-,u,hu,h6⟩)
      ·rw[eR h0 hj,cP]at h;cases h
      ·rw[show [s].dropLast= [] from rfl,cP]at hu;injection hu with hu
       rw[←hu]at h6;omega
    ·rw[if_neg h7];constructor
     ·intro h;refine .inr ⟨?_,t,cP t,sV h0 h7⟩;rw[eR h0 hj,jT hj h,cP]
     ·rintro(h|⟨h,-⟩)
      ·rw[eR h0 hj,cP]at h;cases h
      ·rw[eR h0 hj,cP]at h;injection h with h
       exact fk (by rw[List.getElem?_eq_getElem hj,h])
  ·have h0:0≤ab t s:=Int.not_lt.1 fun k=>he (.inl k);have hr:r≠[]:=fun k=>he (.inr k);have hj:=aP (bT hm) h0;have ih:=mD r _ (cl hm hj) hr;rw[eL h0 hr hj];show bS _ _ _=t↔_
   have e1:zn t (s::r)↔zn t.items[(ab t s).toNat] r:=by
    unfold zn;rw[eR h0 hj,List.dropLast_cons_of_ne_nil hr,eR h0 hj]
   rw[e1,←ih];exact⟨fun h=>(jT hj h).symm,fun h=>fk (by rw[List.getElem?_eq_getElem hj,h])⟩
def zm (n:Int)(t:VT)(p:List ByteArray):Prop:= ∀x,aV t p=some x→gB x n=x
theorem pE {n:Int}(hn0:0≤n): ∀(p:List ByteArray) (t:VT),ao t=true→p≠[]→((goT (bD n) t p).2=t↔zm n t p)
 | [],_,_,h=>absurd rfl h
 |s::r,t,hm,_=>by
  by_cases he:ab t s<0∨r= []
  ·rw[bX he,bF,if_neg (by omega)];show(if _ then _ else _)=t↔_;by_cases hn:ab t s<0
   ·rw[if_pos hn];exact⟨fun _ x h=>(by rw[ni hn]at h;cases h),fun _=>rfl⟩
   ·have h0:0≤ab t s:=Int.not_lt.1 hn;obtain rfl:=he.resolve_left hn;have hj:=aP (bT hm) h0;rw[if_neg hn,List.getElem?_eq_getElem hj];show bS _ _ _=t↔_;constructor
    ·intro h x hx;rw[eR h0 hj,cP]at hx;injection hx with hx
     rw[←hx];exact(jT hj h).symm
    ·intro h;have:=h _ (by rw[eR h0 hj,cP]);exact fk (by rw[List.getElem?_eq_getElem hj,this])
  ·have h0:0≤ab t s:=Int.not_lt.1 fun k=>he (.inl k);have hr:r≠[]:=fun k=>he (.inr k);have hj:=aP (bT hm) h0;have ih:=pE hn0 r _ (cl hm hj) hr;rw[eL h0 hr hj];show bS _ _ _=t↔_
   have e1:zm n t (s::r)↔zm n t.items[(ab t s).toNat] r:=by
    unfold zm;rw[eR h0 hj]
   rw[e1,←ih];exact⟨fun h=>(jT hj h).symm,fun h=>fk (by rw[List.getElem?_eq_getElem hj,h])⟩
theorem nR {fin:VT→List ByteArray→Int×VT}(hfin: ∀t s r s' r',ao t=true→(ab t s<0∨r= [])→gd (s::r) (s'::r')→aV (fin t (s::r)).2 (s'::r')=aV t (s'::r'))
  (hmay: ∀t s r,ao t=true→(ab t s<0∨r= [])→dR (s::r)→ao (fin t (s::r)).2=true∧(fin t (s::r)).2.kind=t.kind):
  ∀(a q:List ByteArray) (t u:VT),ao t=true→dR q→ ¬q <+: a→aV t a=some u→ ∃u',aV (goT fin t q).2 a=some u'∧u'.kind=u.kind
 | [],q,t,u,hm,hq,_,h=>by
  rw[cP]at h;injection h with h
  subst h
  exact⟨_,cP _,(ff hmay q t hm hq).2⟩
 |_::_,[],_,_,_,_,hn,_=>absurd List.nil_prefix hn
 |s::r,s'::r',t,u,hm,hq,hn,h=>by
  by_cases e:s=s'
  ·subst e;by_cases hneg:ab t s<0
   ·rw[ni hneg]at h;cases h
   have h0:0≤ab t s:=Int.not_lt.1 hneg;have hr:r'≠[]:=fun k=>hn (by rw[k];exact List.cons_prefix_cons.2 ⟨rfl,List.nil_prefix⟩);have hj:=aP (bT hm) h0;rw[eR h0 hj]at h;rw[eL h0 hr hj];show ∃u',aV (bS _ _ _) (s::r)=_∧_;rw[aI,eT _ h0 hj];exact nR hfin hmay r r' _ u (cl hm hj) (fun z hz=>hq z (by simp[hz])) (fun k=>hn (List.cons_prefix_cons.2 ⟨rfl,k⟩)) h
  ·have hf:gd (s'::r') (s::r):=⟨hn,fun k=>e (List.cons_prefix_cons.1 k).1⟩;exact⟨u,(kD hfin _ t _ hm hf).trans h,rfl⟩
theorem xM {p q:List ByteArray}(h:gd q p): ¬q <+: p.dropLast:=fun k=>h.1 (k.trans (List.dropLast_prefix p))
def Est (d:au)(t:VT):Prop:=(d.kind=1→aV t d.path=some d.val)∧(d.kind=2→zn t d.path)∧(d.kind=3→zm d.num t d.path)
theorem kG {fin:VT→List ByteArray→Int×VT}(hfin: ∀t s r s' r',ao t=true→(ab t s<0∨r= [])→gd (s::r) (s'::r')→aV (fin t (s::r)).2 (s'::r')=aV t (s'::r'))
  (hmay: ∀t s r,ao t=true→(ab t s<0∨r= [])→dR (s::r)→ao (fin t (s::r)).2=true∧(fin t (s::r)).2.kind=t.kind) {d:au} {t:VT} {q:List ByteArray} (hm:ao t=true) (hq:dR q) (hf:gd q d.path) (h:Est d t):Est d (goT fin t q).2:=by
 have hg:=kD hfin q t d.path hm hf;refine⟨fun e=>hg.trans (h.1 e),fun e=> ?_,fun e=> ?_⟩
 ·rcases h.2.1 e with h|⟨h,u,hu,hk⟩
  ·exact .inl (hg.trans h)
  ·obtain⟨u',h1,h2⟩:=nR hfin hmay _ q t u hm hq (xM hf) hu;exact .inr ⟨hg.trans h,u',h1,h2.trans hk⟩
 ·intro x hx;exact h.2.2 e x (hg.symm.trans hx)
theorem rL {p:List ByteArray}(h:ce p=true):p≠[]:=fun e=>by rw[e]at h;exact absurd h (by decide)
theorem xP {d:au}{t R:VT}(hd:co d=true)(hz:aA d.val≤9223372036854775807)(ht:ao t=true)(h1:d.kind=1→R=(goT (bz d.val) t d.path).2∧(goT (bz d.val) t d.path).1=0)(h2:d.kind=2→R=(goT bh t d.path).2)(h3:d.kind=3→R=(goT (bD d.num) t d.path).2):Est d R:=by
 have hp:=dI hd;have hne:=rL hp;refine⟨fun e=> ?_,fun e=> ?_,fun e=> ?_⟩
 ·obtain⟨rfl,hc⟩:=h1 e;exact uM d.val d.path t hne ht hc
 ·obtain rfl:=h2 e;exact(mD d.path _ (ff iG d.path t ht (eG hp)).1 hne).1 (nK d.path t ht)
 ·obtain rfl:=h3 e;have hn:0≤d.num:=by rcases fm hd with k|k|⟨-,k,-⟩<;>omega
  exact(pE hn d.path _ (ff (jS d.num) d.path t ht (eG hp)).1 hne).1 (oK d.num d.path t ht)
theorem yn {d:au}{t:VT}(hd:co d=true)(hz:aA d.val≤9223372036854775807)(ht:cS t=true)(h:Est d t):doD d t=(0,t):=by
 have hp:=dI hd;have hne:=rL hp;have hw:=jW ht hp;have hm:=(bB.1 ht).1;rcases fm hd with e|e|⟨e,hn,-⟩
 ·rw[ur e (mH hd hz e).1];have e2:=qX d.path t (h.1 e);rw[er hw (by rw[e2]),e2]
 ·rw[rT e,er hw (gi (c:=fun x=>x=0) rfl oC d.path t),(mD d.path t hm hne).2 (h.2.1 e)]
 ·rw[uO e,er hw (gi (c:=fun x=>x=0) rfl (rd hn) d.path t),(pE hn d.path t hm hne).2 (h.2.2 e)]
theorem zE {d x:au}{t R:VT}{K D:Nat}(hd:co d=true)(hz:aA d.val≤9223372036854775807)(hlx:aR K d.val=true)(h:gQ K D t)(e:doD d t=(0,R))(hf:gd d.path x.path)(hx:Est x t):Est x R:=by
 have hm:=(bB.1 h.doc).1;have hq:=eG (dI hd);rcases iy hd hz hlx h with ⟨R',e',-,h1,h2,h3⟩|⟨e',-⟩
 ·rw[e]at e';injection e' with _ e'
  subst e';rcases fm hd with k|k|⟨k,-⟩
  ·rw[(h1 k).1];exact kG (wI d.val) (mj d.val (mH hd hz k).1) hm hq hf hx
  ·rw[h2 k];exact kG uc iG hm hq hf hx
  ·rw[h3 k];exact kG (vt d.num) (jS d.num) hm hq hf hx
 ·rw[e]at e';injection e' with e' _
  cases e'
theorem nD (x:au): ∀(l:List au) (t R:VT) (K D:Nat),(∀d∈l,co d=true∧aA d.val≤9223372036854775807∧aR K d.val=true)→gQ K D t→doL l t=(0,R)→(∀d∈l,gd d.path x.path)→Est x t→Est x R
 | [],t,R,_,_,_,_,e,_,hx=>by injection e with _ e;subst e;exact hx
 |d::r,t,R,K,D,hl,h,e,hf,hx=>by
  obtain⟨h1,h2,h3⟩:=hl d (by simp);rcases iy h1 h2 h3 h with ⟨R1,e1,hR,-⟩|⟨e1,-⟩
  ·simp only[doL]at e;rw[e1]at e;exact nD x r R1 R (K+1) (D+16) (fun y hy=>⟨(hl y (by simp[hy])).1,(hl y (by simp[hy])).2.1,bR (Nat.le_succ K) _ (hl y (by simp[hy])).2.2⟩) hR e (fun y hy=>hf y (by simp[hy])) (zE h1 h2 h3 h e1 (hf d (by simp)) hx)
  ·simp only[doL]at e;rw[e1]at e;injection e with e _
   cases e
theorem uK : ∀(l:List au) (t R:VT) (K D:Nat),(∀d∈l,co d=true∧aA d.val≤9223372036854775807∧aR K d.val=true)→l.Pairwise (fun a b=>gd b.path a.path)→gQ K D t→doL l t=(0,R)→ ∀d∈l,Est d R
 | [],_,_,_,_,_,_,_,_,_,h=>absurd h (List.not_mem_nil)
 |d::r,t,R,K,D,hl,hp,h,e,x,hx=>by
  obtain⟨h1,h2,h3⟩:=hl d (by simp);have hl': ∀y∈r,co y=true∧aA y.val≤9223372036854775807∧aR (K+1) y.val=true:=fun y hy=>⟨(hl y (by simp[hy])).1,(hl y (by simp[hy])).2.1,bR (Nat.le_succ K) _ (hl y (by simp[hy])).2.2⟩;rcases iy h1 h2 h3 h with ⟨R1,e1,hR,k1,k2,k3⟩|⟨e1,-⟩
  ·simp only[doL]at e;rw[e1]at e;rcases List.mem_cons.1 hx with rfl|hx
   ·exact nD x r R1 R (K+1) (D+16) hl' hR e (fun y hy=>(List.pairwise_cons.1 hp).1 y hy) (xP h1 h2 (bB.1 h.doc).1 k1 k2 k3)
   ·exact uK r R1 R (K+1) (D+16) hl' (List.pairwise_cons.1 hp).2 hR e x hx
  ·simp only[doL]at e;rw[e1]at e;injection e with e _
   cases e
theorem sc : ∀(l:List au) (R:VT),(∀d∈l,co d=true∧aA d.val≤9223372036854775807)→cS R=true→(∀d∈l,Est d R)→doL l R=(0,R)
 | [],_,_,_,_=>rfl
 |d::r,R,hl,hR,h=>by
  simp only[doL];rw[yn (hl d (by simp)).1 (hl d (by simp)).2 hR (h d (by simp))];exact sc r R (fun y hy=>hl y (by simp[hy])) hR fun y hy=>h y (by simp[hy])
theorem vL {l:List au}{t R:VT}{K D:Nat}(hl: ∀d∈l,co d=true∧aA d.val≤9223372036854775807∧aR K d.val=true)(hf:lJ l=true)(h:gQ K D t)(e:doL l t=(0,R)):doL l R=(0,R):=by
 have hp:l.Pairwise (fun a b=>gd b.path a.path):=by
  have h1:cm [] (gT l)=false:=by unfold lJ at hf;simpa using hf
  have h2:=(fj (gT l)).1 h1;unfold gT at h2;rw[List.pairwise_map]at h2;refine h2.imp fun {a b} hab=> ?_;unfold cK at hab;rw[Bool.or_eq_false_iff]at hab;exact⟨fun k=>by rw[si.2 k]at hab;exact absurd hab.1 (by simp),fun k=>by rw[si.2 k]at hab;exact absurd hab.2 (by simp)⟩
 have hR:cS R=true:=by
  rcases ml l t K D hl h with ⟨R',e',hR,-⟩|e'
  ·rw[e]at e';injection e' with _ e';subst e';exact hR
  ·rw[e]at e';injection e' with e' _;cases e'
 exact sc l R (fun d hd=>⟨(hl d hd).1,(hl d hd).2.1⟩) hR (uK l t R K D hl hp h e)
theorem qD {l:List au}{t:VT}{K D:Nat}(hsm:l.length≤64→gC l∧jM l∧rF K l)(hlt:aR K t=true)(hd:ac t≤D):
  (∃R,aQ l t=(0,R)∧cO l=0∧cS t=true∧doL l t=(0,R)∧gQ (K+64) (D+1024) R)∨((aQ l t).1≠0∧(aQ l t).2=aT):=by
 by_cases hc:cO l=0
 ·obtain⟨h64,hm⟩:=ip hc;obtain⟨-,h2,h3⟩:=hsm h64;by_cases hb:cS t=true
  ·have e:aQ l t=doL l t:=by unfold aQ;rw[if_neg (by rw[hc];simp),if_pos hb]
   rw[e];rcases ml l t K D (fun d hd'=>⟨hm d hd',h2 d hd',h3 d hd'⟩) ⟨hb,hlt,hd⟩with ⟨R,e1,hR⟩|e1
   ·exact .inl ⟨R,e1,hc,hb,e1,hR.mono (by omega) (by omega)⟩
   ·rw[e1];exact .inr ⟨by decide,rfl⟩
  ·have e:aQ l t=(20,aT):=by unfold aQ;rw[if_neg (by rw[hc];simp),if_neg hb]
   rw[e];exact .inr ⟨by decide,rfl⟩
 ·have e:aQ l t=(cO l,aT):=by unfold aQ;rw[if_pos hc]
  rw[e];exact .inr ⟨hc,rfl⟩
theorem rN {l:List au}{t R:VT}{K D:Nat}(hsm:l.length≤64→gC l∧jM l∧rF K l)(hlt:aR K t=true)(hd:ac t≤D)(hf:lJ l=true)(hc:cO l=0)(hb:cS t=true)(e:doL l t=(0,R))(hR:cS R=true):aQ l R=(0,R):=by
 obtain⟨h64,hm⟩:=ip hc;obtain⟨-,h2,h3⟩:=hsm h64;unfold aQ;rw[if_neg (by rw[hc];simp),if_pos hR];exact vL (fun d hd'=>⟨hm d hd',h2 d hd',h3 d hd'⟩) hf ⟨hb,hlt,hd⟩ e
def dV (d:au):VT→List ByteArray→Int×VT:=if d.kind=1 then bz d.val else if d.kind=2 then bh else bD d.num
def goD (d:au)(t:VT):Int×VT:=goT (dV d) t d.path
structure Upd (t:VT)(s:ByteArray)(o:Option VT)(t':VT):Prop where
 kind:t'.kind=t.kind
 may:ao t'=true
 here:ar t' s=o
 far: ∀z,z≠s→ar t' z=ar t z
theorem Upd.refl {t:VT}(s:ByteArray)(hm:ao t=true):Upd t s (ar t s) t:=⟨rfl,hm,rfl,fun _ _=>rfl⟩
theorem jP {t x:VT}{s:ByteArray}(h:ar t s=some x):0≤ab t s∧ ∃hj:(ab t s).toNat<t.items.length,t.items[(ab t s).toNat]=x:=by
 unfold ar at h;by_cases hn:ab t s<0
 ·rw[if_pos hn]at h;cases h
 ·rw[if_neg hn]at h;obtain⟨hj,e⟩:=List.getElem?_eq_some_iff.1 h;exact⟨Int.not_lt.1 hn,hj,e⟩
theorem ye {t x:VT}{s:ByteArray}(hm:ao t=true)(h:ar t s=some x):ao x=true:=by
 obtain⟨-,hj,rfl⟩:=jP h;exact cl hm hj
theorem ut {t u:VT}{s:ByteArray}(hm:ao t=true)(hu:ao u=true)(h:0≤ab t s):Upd t s (some u) (bS t (ab t s).toNat u):=
 ⟨ez _ _ _,jB _ hm hu,eT u h (aP (bT hm) h),fun z hz=>dB u hz h⟩
theorem yS (x:VT):al [] x=x:=rfl
theorem zF {t x:VT}{s:ByteArray}(hm:ao t=true)(hk:t.kind=7)(hx:ao x=true)(hs:bH s.data.toList=true): ∃t',goT (bz x) t [s]=(0,t')∧Upd t s (some x) t':=by
 rw[bX (.inr rfl),cg,yS];by_cases h:0≤ab t s
 ·rw[if_pos h];exact⟨_,rfl,ut hm hx h⟩
 ·rw[if_neg h,if_pos hk];have h0:ab t s<0:=Int.not_le.1 h;exact⟨_,rfl,(iE t s x),pP hk hm hx hs h0,eQ x hk (cu hm hk) h0,fun z hz=>fx x hk (cu hm hk) hz⟩
theorem wk {t:VT}{s:ByteArray}(hm:ao t=true)(hk:t.kind=7): ∃t',goT bh t [s]=(0,t')∧Upd t s none t':=by
 rw[bX (.inr rfl),bf];by_cases h:ab t s<0
 ·rw[if_pos h];exact⟨_,rfl,rfl,hm,jI h,fun _ _=>rfl⟩
 ·rw[if_neg h,if_pos hk];have h0:0≤ab t s:=Int.not_lt.1 h;exact⟨_,rfl,iM _ _,uy hk hm (aP (bT hm) h0),jI (jy hm hk h0),fun z hz=>rP hk hz h0⟩
theorem xB {fin:VT→List ByteArray→Int×VT}{t x x':VT}{s:ByteArray}{r:List ByteArray}{c:Int}(hm:ao t=true)(hi:ar t s=some x)(hr:r≠[])(h:goT fin x r=(c,x'))(hx':ao x'=true):
  ∃t',goT fin t (s::r)=(c,t')∧Upd t s (some x') t':=by
 obtain⟨h0,hj,e⟩:=jP hi;rw[eL h0 hr hj,e,h];exact⟨_,rfl,ut hm hx' h0⟩
structure zH (d:au):Prop where
 val:d.kind=1→ao d.val=true
 num:0≤d.num
 names:dR d.path
theorem uL {d:au}{t:VT}(hd:zH d)(hm:ao t=true):ao (goD d t).2=true:=by
 refine(ff (fin:=dV d) ?_ _ _ hm hd.names).1;intro t s r h1 h2 h3;unfold dV
 split
 ·next h=>exact mj _ (hd.val h) t s r h1 h2 h3
 ·split
  ·exact iG t s r h1 h2 h3
  ·exact jS _ t s r h1 h2 h3
def ixT (n:Nat):ByteArray:=⟨(Lib.itoa n).toArray⟩
end Go.Proofs.YtgbopnlpaabelaaGreatDoor
/- What an update changes, plain: what each operator changes by what lies at its path, what a replacement changes, and what all of it changes. -/
namespace Go.Proofs.YtgbopnlpaabelaaGreatDoor
open Go.RowKit
def ec (p:List ByteArray)(x:VT):au:=⟨1,p,x,0⟩
def fe (p:List ByteArray):au:=⟨2,p,aT,0⟩
def jO (l:List VT):VT:= .mk 6 0 ⟨#[]⟩ l []
def um (n:Int):VT:= .mk 3 n ⟨#[]⟩ [] []
def jD (gives:Int→Bool)(o:OpT)(x:Option VT):Int×List au:=match x with
 |some y=>if gives (fK y o.val)then(0,[ec o.path o.val])else(0,[])
 |none=>(0,[ec o.path o.val])
def lk (o:OpT)(x:Option VT):Int×List au:=match x with
 |none=>(0,[ec o.path o.val])
 |some y=>if y.kind≠3 then(50,[])else if wrap64 (y.num+o.val.num)=y.num+o.val.num then(0,[ec o.path (um (wrap64 (y.num+o.val.num)))])else(80,[])
def ev (o:OpT)(x:Option VT):Int×List au:=match x with
 |none=>if az (jO [o.val])=0 then(0,[ec o.path (jO [o.val])])else(az (jO [o.val]),[])
 |some y=>if y.kind≠6 then(50,[])else if 999<y.items.length then(3,[])else if ce (o.path++[ixT y.items.length])then(0,[ec (o.path++[ixT y.items.length]) o.val])else(40,[])
def uA (o:OpT)(y:VT):List VT:=y.items.filter fun z=> !(fK z o.val == 0)
def hO (o:OpT)(x:Option VT):Int×List au:=match x with
 |none=>(0,[])
 |some y=>if y.kind≠6 then(50,[])else if(uA o y).length=y.items.length then(0,[])else(0,[ec o.path (jO (uA o y))])
def kh (o:OpT)(x:Option VT)(inArr:Bool):Int×List au:=match x with
 |none=>(0,[])
 |some y=>if inArr then(40,[])else(0,[fe o.path,ec o.to y])
def qg (o:OpT)(x:Option VT):Int×List au:=match x with
 |none=>(0,[])
 |some _=>(0,[fe o.path])
def opU (o:OpT)(x:Option VT)(inArr:Bool):Int×List au:=
 if o.kind=2 then qg o x else if o.kind=3 then lk o x else if o.kind=4 then ev o x else if o.kind=5 then hO o x else if o.kind=6 then kh o x inArr
 else if o.kind=7 then jD (fun c=>decide (0<c)) o x else if o.kind=8 then jD (fun c=>decide (c<0)) o x else jD (fun c=> !decide (c=0)) o x
def et (v:VT)(o:OpT):Int×List au:=opU o (bC v o.path) (jq v o.path)
def aY (v:VT):List OpT→Int×List au
 | []=>(0,[])
 |o::l=>if(et v o).1≠0 then((et v o).1,[])else if(aY v l).1≠0 then((aY v l).1,[])else(0,(et v o).2++(aY v l).2)
def nJ (v d:VT):List au:=(v.names.filter fun n=> !decide (n=idN) && !(d.names.any fun x=>decide (x=n))).map fun n=>fe [n]
def ep (v:VT)(n:ByteArray)(x:VT):Bool:=match ar v n with
 |some y=> !(fK y x == 0)
 |none=>true
def uI (v d:VT):List au:=((d.names.zip d.items).filter fun q=>ep v q.1 q.2).map fun q=>ec [q.1] q.2
def cT (v d:VT):List au:=nJ v d++uI v d
def dh (v:VT):Bool:=decide (v.kind=7) && decide (az v=0) && (ar v idN).isSome
def gb (v:VT)(s:bg):Int×List au:=if s.rep then(0,cT v s.doc)else aY v s.ops
def ay (v:VT)(s:bg):Int×List au:=
 if dh v=false then(20,[])else if bU s≠0 then(bU s,[])else if(gb v s).1≠0 then((gb v s).1,[])else if 64<(gb v s).2.length then(3,[])else gb v s
def aW (v:VT)(s:bg):Int×VT×List au:=
 if(ay v s).1≠0 then((ay v s).1,aT,[])
 else if(aQ (ay v s).2 v).1≠0 then((aQ (ay v s).2 v).1,aT,[])
 else if az (aQ (ay v s).2 v).2≠0 then(az (aQ (ay v s).2 v).2,aT,[])else(0,(aQ (ay v s).2 v).2,(ay v s).2)
theorem fP (v:VT):aY v []=(0,[]):=rfl
theorem bs (v:VT)(o:OpT)(l:List OpT):aY v (o::l)=if(et v o).1≠0 then((et v o).1,[])else if(aY v l).1≠0 then((aY v l).1,[])else(0,(et v o).2++(aY v l).2):=rfl
theorem gz (v:VT): ∀(l:List OpT) (o:OpT) (r:List au),aY v l=(0,r)→aY v (l++[o])=if(et v o).1≠0 then((et v o).1,[])else(0,r++(et v o).2)
 | [],o,r,h=>by
  injection h with _ h;subst h
  rw[List.nil_append,bs,fP]
  simp
 |a::l,o,r,h=>by
  rw[bs]at h;rw[List.cons_append,bs];by_cases h1:(et v a).1≠0
  ·rw[if_pos h1]at h;injection h with h _;exact absurd h h1
  ·rw[if_neg h1]at h ⊢;by_cases h2:(aY v l).1≠0
   ·rw[if_pos h2]at h;injection h with h _;exact absurd h h2
   ·rw[if_neg h2]at h;injection h with _ h
    have e:aY v l=(0,(aY v l).2):=Prod.ext (by simpa using h2) rfl;rw[gz v l o _ e];by_cases h3:(et v o).1≠0
    ·rw[if_pos h3,if_pos h3,if_pos h3]
    ·rw[if_neg h3,if_neg h3];simp only[ne_eq,not_true_eq_false,if_false];rw[←h,List.append_assoc]
theorem lB (v:VT): ∀(l r:List OpT),(aY v l).1≠0→aY v (l++r)=((aY v l).1,[])
 | [],_,h=>absurd rfl h
 |a::l,r,h=>by
  rw[bs]at h;rw[List.cons_append,bs,bs];by_cases h1:(et v a).1≠0
  ·rw[if_pos h1,if_pos h1]
  ·rw[if_neg h1]at h ⊢;rw[if_neg h1];by_cases h2:(aY v l).1≠0
   ·rw[lB v l r h2];simp only[if_pos h2]
   ·rw[if_neg h2]at h;exact absurd rfl h
theorem vA {a b:Int}(ha:Rng a)(hb:Rng b):(decide (wrap64 (a+b)<a) != decide (b<0))= !decide (wrap64 (a+b)=a+b):=by
 unfold Rng at ha hb;unfold wrap64;by_cases h1:b<0<;>simp only[h1]<;>(rw[Bool.eq_iff_iff];simp;omega)
end Go.Proofs.YtgbopnlpaabelaaGreatDoor
