/- How large a value is and what is wrong with it, as the document's answer has it. -/
import Derived.Test.YtgfidiocmiolpaaGreatKVr
import Derived.Test.YtgfidiocmiolpaaGreatKValB
set_option maxHeartbeats 64000000
set_option maxRecDepth 100000
set_option linter.unusedVariables false
set_option linter.unusedSimpArgs false
namespace Go.Proofs.YtgfidiocmiolpaaGreat
open Lib (hid)
open Go.RowKit
theorem mU {l:List VT}{j:Nat}(h:j<l.length):eh (l.drop j)=bt l[j]+eh (l.drop (j+1)):=by
 rw[List.drop_eq_getElem_cons h];conv=>lhs;unfold eh
theorem qI (a b c:Int):wrap64 (wrap64 a+wrap64 b+c)=wrap64 (a+b+c):=by unfold wrap64;omega
theorem dD :eh []=0:=by unfold eh;rfl
theorem uh {ns:List ByteArray}{j:Nat}(h:j<ns.length):gb (ns.drop j)=tsz ns[j]+gb (ns.drop (j+1)):=by
 rw[List.drop_eq_getElem_cons h];simp only[gb,List.map_cons,List.sum_cons]
theorem wT :gb []=0:=rfl
theorem uJ (t:VT):bt t=eq t.kind t.num t.text t.items.length t.names+eh t.items:=by cases t;unfold bt;rfl
theorem lN (s:ByteArray):(txt s).length=tsz s:=by unfold txt tsz;simp
theorem uj {k i:Int}{s:ByteArray}{n:Nat}{ns:List ByteArray}(h:bf k i s n ns=true):(k=1∨k=2∨k=3∨k=4∨k=5∨k=6∨k=7)∧(k≤5→n=0)∧(k=7→ns.length=n):=by
 unfold bf at h;by_cases h1:k=1
 ·simp[h1]at h;omega
 ·by_cases h2:k=2
  ·simp[h2]at h;omega
  ·by_cases h3:k=3
   ·simp[h3]at h;omega
   ·by_cases h4:k=4∨k=5
    ·simp[h1,h2,h3,h4]at h;omega
    ·by_cases h6:k=6
     ·simp[h6]at h;omega
     ·by_cases h7:k=7
      ·simp[h7]at h;omega
      ·simp[h1,h2,h3,h4,h6,h7]at h
theorem uw (S:Nat→Prop): ∀(n:Nat) (t:VT) (v:Value) (w:World),av t≤n→bE t=true→(∀b,S b→b<w.heap.size)→LV w S t v→
  Calls Tryz.prog 90 #[v] w fun e w'=>e= .returned (.int .i64 (wrap64 (bt t)))∧Below w.heap.size w w':=by
 intro n
 induction n with
 |zero=>intro t v w hd;cases t;rw[bu]at hd;omega
 |succ n ih=>
  intro t v w hd hm hS h;have hrn:=h.shape;obtain⟨A,c,A',c',rfl,lens,a7,a6,v1,hb0⟩:=gN hS h;obtain⟨_,_,_,_,-,-,hri,hrs,-⟩:=hrn;have hm2:=mA t;rw[hm]at hm2;have hm3:=(Bool.and_eq_true _ _).mp hm2.symm;obtain⟨hk,hk5,hk7⟩:=uj hm3.1;have hml:=hm3.2
  have hdl:bz t.items≤n:=by
   have hdt:av t=bz t.items+1:=by cases t;exact bu _ _ _ _ _
   omega
  have hz:=uJ t;obtain⟨Z,hZ⟩: ∃Z,Z=bt t:=⟨_,rfl⟩;rw[←hZ]at hz ⊢;clear hm2 hm3 hZ hd hm h
  cases t with
  |mk kd num txs its nms=>
  simp only[VT.kind,VT.num,VT.text,VT.items,VT.names]at *;have HML:=hid hml;have HRI:=hid hri;have HRS:=hid hrs;have HK5:=hid hk5;have HK7:=hid hk7;have LENS:=hid lens;have A7:=hid a7;have A6:=hid a6;have P0:=hid v1;have HB0:=hid hb0;have HD:=hid hdl;have HZ:=hid hz;have hl:=LENS.out.1;clear lens a7 a6 v1 hb0 hk5 hk7 hri hrs hz hdl hml;have HKC:=hid hk;clear hk;go_enter Tryz.func90,Tryz.ntmps90;rcases HKC.out with rfl|rfl|rfl|rfl|rfl|rfl|rfl
  ·have HL0:Hid (its= []):=hid (List.eq_nil_of_length_eq_zero (HK5.out (by decide)));have HZ2:Hid ((1:Int)+((eh (its.drop 0):Nat):Int)=Z):=hid (by rw[HZ.out];unfold eq;simp);go_wp2_with fail;skip
   go_loopw [3,4] (fun n i wr=> ∃(j:Nat) (m:Int),n= .int .i64 (wrap64 m)∧i= .int .i64 j∧j≤its.length∧Hid (m+((eh (its.drop j):Nat):Int)=Z)∧Hid (Below w.heap.size w wr)∧Hid (Vr wr S w.heap.size (.mk 1 num txs its nms) A c A' c')) (fun _ i _=>its.length - (intOf i).toNat)
   case atStart=>exact⟨0,1,by rw[cp (by omega) (by omega)],rfl,Nat.zero_le _,HZ2,HB0,P0⟩
   case round=>
    obtain⟨j,m,rfl,rfl,hj,HI,HB,P⟩:=hrel;clear P0 HB0;have k3:wr.cell? ⟨w.heap.size,3,none⟩=some (.slice A its.length c):=P.out.x.c3;by_cases hlt:j<its.length
    ·exfalso;rw[HL0.out]at hlt;simp at hlt
    ·have HF:Hid (m=Z):=hid (by
      have h:=HI.out;rw[List.drop_eq_nil_of_le (by omega:its.length≤j),dD]at h
      omega)
     go_wp2_with fail;go_ret;exact⟨aL (by rw[HF.out]),HB.out⟩
  ·have HL0:Hid (its= []):=hid (List.eq_nil_of_length_eq_zero (HK5.out (by decide)));have HF:Hid (wrap64 Z=2):=hid (by rw[HZ.out,HL0.out,dD];unfold eq;simp;rw[cp (by omega) (by omega)]);go_wp2_with fail;go_ret;exact⟨aL HF.out.symm,HB0.out⟩
  ·have HL0:Hid (its= []):=hid (List.eq_nil_of_length_eq_zero (HK5.out (by decide)));have hg:=(ay (zig num)).1;have HF:Hid (wrap64 Z=1+((grp (zig num)).length:Int)):=hid (by rw[HZ.out,HL0.out,dD];unfold eq;simp;rw[cp (by omega) (by omega)]);go_wp2_with fail;refine(xu num _ HRI.out.1 HRI.out.2).mono ?_;rintro e w1 ⟨v,rfl,hv,hb⟩;obtain⟨A2,c2,rfl⟩:=hv.slice;have HB:=hid (aE HB0.out hb);clear hv hb;go_wp2_with fail;go_ret;exact⟨aL HF.out.symm,HB.out⟩
  ·have HL0:Hid (its= []):=hid (List.eq_nil_of_length_eq_zero (HK5.out (by decide)));have hg:=sy txs HRS.out;have HTL:=lN txs;have HF:Hid (wrap64 Z=1+((txt txs).length:Int)):=hid (by rw[HTL,HZ.out,HL0.out,dD];unfold eq;simp;rw[cp (by omega) (by omega)]);have hg2:(txt txs).length≤140737488351300:=by omega
   clear hg HTL;go_wp2_with fail;refine(kO txs _ HRS.out).mono ?_;rintro e w1 ⟨v,rfl,hv,hb⟩;obtain⟨A2,c2,rfl⟩:=hv.slice;have HB:=hid (aE HB0.out hb);clear hv hb;go_wp2_with fail;go_ret;exact⟨aL HF.out.symm,HB.out⟩
  ·have HL0:Hid (its= []):=hid (List.eq_nil_of_length_eq_zero (HK5.out (by decide)));have hg:=sy txs HRS.out;have HTL:=lN txs;have HF:Hid (wrap64 Z=1+((txt txs).length:Int)):=hid (by rw[HTL,HZ.out,HL0.out,dD];unfold eq;simp;rw[cp (by omega) (by omega)]);have hg2:(txt txs).length≤140737488351300:=by omega
   clear hg HTL;go_wp2_with fail;refine(kO txs _ HRS.out).mono ?_;rintro e w1 ⟨v,rfl,hv,hb⟩;obtain⟨A2,c2,rfl⟩:=hv.slice;have HB:=hid (aE HB0.out hb);clear hv hb;go_wp2_with fail;go_ret;exact⟨aL HF.out.symm,HB.out⟩
  ·have hg:=(ay its.length).1;have HZ2:Hid ((1+((grp its.length).length:Int))+((eh (its.drop 0):Nat):Int)=Z):=hid (by rw[HZ.out];unfold eq;simp<;>omega);go_wp2_with fail;refine(jY its.length _ (by omega)).mono ?_;rintro e w1 ⟨v,rfl,hv,hb⟩;obtain⟨A2,c2,rfl⟩:=hv.slice;have P0:=hid (P0.out.call hb);have HB0:=hid (aE HB0.out hb);clear hv hb;go_wp2_with fail
   go_loopw [3,4] (fun n i wr=> ∃(j:Nat) (m:Int),n= .int .i64 (wrap64 m)∧i= .int .i64 j∧j≤its.length∧Hid (m+((eh (its.drop j):Nat):Int)=Z)∧Hid (Below w.heap.size w wr)∧Hid (Vr wr S w.heap.size (.mk 6 num txs its nms) A c A' c')) (fun _ i _=>its.length - (intOf i).toNat)
   case atStart=>exact⟨0,1+((grp its.length).length:Int),by rw[cp (by omega) (by omega)],rfl,Nat.zero_le _,HZ2,HB0,P0⟩
   case round=>
    obtain⟨j,m,rfl,rfl,hj,HI,HB,P⟩:=hrel;clear P0 HB0;have k3:wr.cell? ⟨w.heap.size,3,none⟩=some (.slice A its.length c):=P.out.x.c3;by_cases hlt:j<its.length
    ·obtain⟨p,o,A2,e2,A3,e3,rfl,hp,h0,h1,h2,h3,h4,hx⟩:=js hS A7.out HB.out j hlt;have HC:=hid (ih its[j] _ wr (Nat.le_trans (dh (List.getElem_mem hlt)) HD.out) (dS HML.out (List.getElem_mem hlt)) P.out.s hx);have HI2:Hid (m+bt its[j]+((eh (its.drop (j+1)):Nat):Int)=Z):=hid (by rw[←HI.out,mU hlt];omega);generalize bt its[j]=C at *;clear hx hp HI;go_wp2_with fail;refine HC.out.mono ?_;rintro e w2 ⟨rfl,hb⟩;have P2:=hid (P.out.call hb);have HB2:=hid (aE HB.out hb);clear hb HC k3 h0 h1 h2 h3 h4 P HB;have k0:w2.cell? ⟨w.heap.size,0,none⟩=some (.int .i64 6):=P2.out.x.c0;go_wp2_with fail;clear k0
     go_roundw
     case rel=>exact⟨j+1,m+C,by rw[fm,ll],by go_num,by omega,HI2,HB2,P2⟩
     case measure=>simp[intOf];omega
    ·have HF:Hid (m=Z):=hid (by
      have h:=HI.out;rw[List.drop_eq_nil_of_le (by omega:its.length≤j),dD]at h
      omega)
     go_wp2_with fail;go_ret;exact⟨aL (by rw[HF.out]),HB.out⟩
  ·have hg:=(ay its.length).1;have HZ2:Hid ((1+((grp its.length).length:Int))+((eh (its.drop 0)+gb (nms.drop 0):Nat):Int)=Z):=hid (by rw[HZ.out];unfold eq;simp<;>omega);go_wp2_with fail;refine(jY its.length _ (by omega)).mono ?_;rintro e w1 ⟨v,rfl,hv,hb⟩;obtain⟨A2,c2,rfl⟩:=hv.slice;have P0:=hid (P0.out.call hb);have HB0:=hid (aE HB0.out hb);clear hv hb;go_wp2_with fail
   go_loopw [3,4] (fun n i wr=> ∃(j:Nat) (m:Int),n= .int .i64 (wrap64 m)∧i= .int .i64 j∧j≤its.length∧Hid (m+((eh (its.drop j)+gb (nms.drop j):Nat):Int)=Z)∧Hid (Below w.heap.size w wr)∧Hid (Vr wr S w.heap.size (.mk 7 num txs its nms) A c A' c')) (fun _ i _=>its.length - (intOf i).toNat)
   case atStart=>exact⟨0,1+((grp its.length).length:Int),by rw[cp (by omega) (by omega)],rfl,Nat.zero_le _,HZ2,HB0,P0⟩
   case round=>
    obtain⟨j,m,rfl,rfl,hj,HI,HB,P⟩:=hrel;clear P0 HB0;have k3:wr.cell? ⟨w.heap.size,3,none⟩=some (.slice A its.length c):=P.out.x.c3;by_cases hlt:j<its.length
    ·obtain⟨p,o,A2,e2,A3,e3,rfl,hp,h0,h1,h2,h3,h4,hx⟩:=js hS A7.out HB.out j hlt;have HC:=hid (ih its[j] _ wr (Nat.le_trans (dh (List.getElem_mem hlt)) HD.out) (dS HML.out (List.getElem_mem hlt)) P.out.s hx);have ia:j<nms.length:=by have:=HK7.out (by simp);omega
     have HI2:Hid (m+bt its[j]+tsz nms[j]+((eh (its.drop (j+1))+gb (nms.drop (j+1)):Nat):Int)=Z):=hid (by rw[←HI.out,mU hlt,uh ia];omega);generalize bt its[j]=C at *;clear hx hp HI;go_wp2_with fail;refine HC.out.mono ?_;rintro e w2 ⟨rfl,hb⟩;have P2:=hid (P.out.call hb);have HB2:=hid (aE HB.out hb);clear hb HC k3 h0 h1 h2 h3 h4 P HB;have k0:w2.cell? ⟨w.heap.size,0,none⟩=some (.int .i64 7):=P2.out.x.c0;obtain⟨p',o',rfl,hp,t1,hsz⟩:=lP hS A6.out HB2.out j ia;have k4:w2.cell? ⟨w.heap.size,4,none⟩=some (.slice (some ⟨p',o',none⟩) nms.length c'):=P2.out.x.c4;have hl2:=LENS.out.2;obtain⟨sn,hs⟩: ∃s,s=nms[j]:=⟨_,rfl⟩;rw[←hs]at t1 hsz HI2;have HSZ:=hid hsz;clear hp hs hsz;go_wp2_with fail;refine(kO sn _ HSZ.out).mono ?_;rintro e w3 ⟨v,rfl,hv,hb⟩;obtain⟨A9,c9,rfl⟩:=hv.slice;have P3:=hid (P2.out.call hb);have HB3:=hid (aE HB2.out hb);have HTL:=hid (lN sn);clear hv hb k4 t1 P2 HB2 k0;go_wp2_with fail
     go_roundw
     case rel=>exact⟨j+1,m+C+tsz sn,by rw[HTL.out,fm,qI],by go_num,by omega,HI2,HB3,P3⟩
     case measure=>simp[intOf];omega
    ·have HF:Hid (m=Z):=hid (by
      have hne:nms.length≤j:=by have:=HK7.out (by simp);omega
      have h:=HI.out;rw[List.drop_eq_nil_of_le (by omega:its.length≤j),dD,List.drop_eq_nil_of_le hne,wT]at h
      omega)
     go_wp2_with fail;go_ret;exact⟨aL (by rw[HF.out]),HB.out⟩
theorem iz (S:Nat→Prop)(t:VT)(v:Value)(w:World)(hd:av t≤4611686018427387903)(hS: ∀b,S b→b<w.heap.size)(h:LV w S t v):
  Calls Tryz.prog 54 #[v] w fun e w'=>e= .returned (.int .i64 (bh t))∧Below w.heap.size w w':=by
 obtain⟨A,c,A',c',rfl,-,-,-,v1,hb0⟩:=gN hS h;have P:=hid v1;have HB:=hid hb0;have HR:Hid (bh t=if bE t=true then(if 8<(av t:Int)then 21 else if 4096<wrap64 (bt t)then 22 else 0)else 20):=hid rfl;obtain⟨R,hR⟩: ∃R,R=bh t:=⟨_,rfl⟩;rw[←hR]at HR ⊢;obtain⟨x,hx⟩: ∃x,x=bE t:=⟨_,rfl⟩;rw[←hx]at HR;have HX:=hid hx;have HD:=hid hd;clear h v1 hb0 hR hx hd;go_enter Tryz.func54,Tryz.ntmps54;go_wp2_with fail;refine(P.out.rmay HX.out).mono ?_;rintro e w1 ⟨rfl,hb⟩;have P1:=hid (P.out.call hb);have HB1:=hid (aE HB.out hb);clear hb P HB;cases x
 ·have HF:Hid (R=20):=hid (by rw[HR.out];simp);clear HR HX P1;go_wp2_with fail;go_ret;exact⟨aL HF.out.symm,HB1.out⟩
 ·have HR2:Hid (R=if 8<(av t:Int)then 21 else if 4096<wrap64 (bt t)then 22 else 0):=hid (by rw[HR.out];simp);have HDC:=hid (sX S 4611686018427387903 t _ w1 HD.out (Nat.le_refl _) P1.out.s P1.out.v);have q0:=P1.out.x.c0;have q1:=P1.out.x.c1;have q2:=P1.out.x.c2;have q3:=P1.out.x.c3;have q4:=P1.out.x.c4;clear HR;go_wp2_with fail;refine HDC.out.mono ?_;rintro e w2 ⟨rfl,hb⟩;have P2:=hid (P1.out.call hb);have HB2:=hid (aE HB1.out hb);clear hb P1 HB1 HDC q0 q1 q2 q3 q4;by_cases h8:8<(av t:Int)
  ·have HF:Hid (R=21):=hid (by rw[HR2.out,if_pos h8]);clear HR2 HX P2;go_wp2_with fail;go_ret;exact⟨aL HF.out.symm,HB2.out⟩
  ·have HR3:Hid (R=if 4096<wrap64 (bt t)then 22 else 0):=hid (by rw[HR2.out,if_neg h8]);have HSC:=hid (uw S (av t) t _ w2 (Nat.le_refl _) HX.out.symm P2.out.s P2.out.v);have q0:=P2.out.x.c0;have q1:=P2.out.x.c1;have q2:=P2.out.x.c2;have q3:=P2.out.x.c3;have q4:=P2.out.x.c4;clear HR2 HX;go_wp2_with fail;refine HSC.out.mono ?_;rintro e w3 ⟨rfl,hb⟩;have HB3:=hid (aE HB2.out hb);clear hb P2 HB2 HSC q0 q1 q2 q3 q4 h8;generalize wrap64 (bt t)=C at *;by_cases hz:4096<C
   ·have HF:Hid (R=22):=hid (by rw[HR3.out,if_pos hz]);clear HR3;go_wp2_with fail;go_ret;exact⟨aL HF.out.symm,HB3.out⟩
   ·have HF:Hid (R=0):=hid (by rw[HR3.out,if_neg hz]);clear HR3;go_wp2_with fail;go_ret;exact⟨aL HF.out.symm,HB3.out⟩
theorem zx :(18446744073709551615:Int)=((18446744073709551615:Nat):Int):=rfl
theorem pK (most:Nat)(st:Option (List UInt8)):(rdN most st).1<18446744073709551616:=by
 cases st with
 |none=>simp[rdN]
 |some l=>
  simp only[rdN]
  split
  ·simp
  ·exact pg _ 0 0 (by decide) (by omega)
theorem sD (most:Nat)(st:Option (List UInt8)):(rdN most st).1≤most:=by
 cases st with
 |none=>simp[rdN]
 |some l=>
  simp only[rdN]
  split
  ·simp
  ·simp only[];omega
theorem wM (g:Nat)(st:Option (List UInt8))(w:World)(h:aN w g st):
  Calls Tryz.prog 184 #[.pointer (some ⟨g,0,none⟩)] w fun e w'=>e= .returned (.int .i64 (ef st).1)∧aN w' g (ef st).2∧au w w' g:=by
 have H:=hid h;clear h;go_enter Tryz.func184,Tryz.ntmps184;go_wp2_with fail;refine(jS g st _ 18446744073709551615 _ H.out zx).mono ?_;rintro e w1 ⟨rfl,hs,ho⟩;have HS:=hid hs;have HO:=hid ho;clear hs ho;go_wp2_with fail;refine(rI _ _ (pK _ _)).mono ?_;rintro e w2 ⟨rfl,rfl⟩;go_wp2_with fail;go_ret;exact⟨rfl,HS.out,HO.out⟩
theorem cD (g:Nat)(st:Option (List UInt8))(n:Int)(w:World)(h:aN w g st)(h2:n≤9223372036854775807):
  Calls Tryz.prog 69 #[.pointer (some ⟨g,0,none⟩),.int .i64 n] w fun e w'=>e= .returned (.int .i64 (ae n st).1)∧aN w' g (ae n st).2∧au w w' g:=by
 have H:=hid h;clear h;by_cases h0:n<0
 ·have HR:Hid (ae n st=(0,none)):=by unfold ae;rw[if_pos h0];exact rfl
  clear h2
  obtain⟨s,b,hs⟩: ∃s b,Src w g s b:=by
   cases st with
   |none=>exact⟨_,_,H.out⟩
   |some l=>exact⟨_,_,H.out.1⟩
  have HS:=hid hs;clear hs;go_enter Tryz.func69,Tryz.ntmps69;go_wp2_with fail;refine(kK g s b _ HS.out).mono ?_;rintro e w1 ⟨rfl,hs1,ho⟩;go_wp2_with fail;go_ret;rw[HR.out];exact⟨rfl,hs1,ho⟩
 ·have HR:Hid (ae n st=rdN (mc n) st):=by unfold ae;rw[if_neg h0];exact rfl
  have hm2:mc n≤4611686018427387904:=by unfold mc;split<;>omega
  have hle:=sD (mc n) st;have hle2:(((rdN (mc n) st).1:Nat):Int)≤4611686018427387904:=by omega
  by_cases h3:n≤4611686018427387904
  ·have HM:Hid (n=(mc n:Int)):=by show n=(mc n:Int);unfold mc;rw[if_pos h3];omega
   clear hle hm2;go_enter Tryz.func69,Tryz.ntmps69;go_wp2_with fail
   all_goals
    refine(jS g st _ (mc n) _ H.out (by have:=HM.out;omega)).mono ?_;rintro e w1 ⟨rfl,hs,ho⟩;go_wp2_with fail;go_ret;rw[HR.out];exact⟨rfl,hs,ho⟩
  ·have HM:Hid ((4611686018427387904:Int)=(mc n:Int)):=by show(4611686018427387904:Int)=(mc n:Int);unfold mc;rw[if_neg h3];rfl
   clear hle hm2;go_enter Tryz.func69,Tryz.ntmps69;go_wp2_with fail
   all_goals
    refine(jS g st _ (mc n) _ H.out HM.out).mono ?_;rintro e w1 ⟨rfl,hs,ho⟩;go_wp2_with fail;go_ret;rw[HR.out];exact⟨rfl,hs,ho⟩
theorem oN (s:ByteArray)(h:0<s.size):s.toList.isEmpty=false∧s.toList≠[]:=by
 have hl:s.toList.length=s.size:=by rw[ByteArray.toList_eq s];simp
 have hne:s.toList≠[]:=by intro e;rw[e]at hl;simp at hl;omega
 exact⟨by cases hh:s.toList with
  |nil=>exact absurd hh hne
  |cons a r=>rfl,hne⟩
theorem ka (s:ByteArray)(h:s.size=0):s.toList.isEmpty=true∧s.toList= []:=by
 have hl:s.toList.length=s.size:=by rw[ByteArray.toList_eq s];simp
 have hne:s.toList= []:=List.eq_nil_of_length_eq_zero (by omega);exact⟨by rw[hne];rfl,hne⟩
theorem sH (s:ByteArray)(w:World)(B:Nat)(hp:0<s.size)(hx:br w B (.int .i64 0)):
  Calls Tryz.prog 104 #[.string s,.pointer (some ⟨B,0,none⟩)] w fun e w'=>e= .returned (.int .i64 1)∧w'=w.setCell ⟨B,0,none⟩ (.int .i64 (s[0].toNat:Int)):=by
 have c1:=hx.1;have f1:=hx.2.1;have hn1:=(oN s hp).1;have hn2:=(oN s hp).2;have hb:(s[0].toNat:Int)<256:=by have:=UInt8.toNat_lt s[0];omega
 clear hx;go_enter Tryz.func104,Tryz.ntmps104;go_wp2;go_ret;exact⟨rfl,rfl⟩
theorem sg (s:ByteArray)(w:World)(p:Value)(hp:s.size=0):
  Calls Tryz.prog 104 #[.string s,p] w fun e w'=>e= .returned (.int .i64 0)∧w'=w:=by
 have hn1:=(ka s hp).1;have hn2:=(ka s hp).2;clear hp;go_enter Tryz.func104,Tryz.ntmps104;go_wp2;go_ret;exact⟨rfl,rfl⟩
theorem ft (g:Nat)(st:Option (List UInt8))(w:World)(h:aN w g st):
  Calls Tryz.prog 68 #[.pointer (some ⟨g,0,none⟩)] w fun e w'=>e= .returned (.int .i64 (ak st).1)∧aN w' g (ak st).2∧au w w' g:=by
 have HX:br (w.alloc (.cells #[.int .i64 0] 3)) w.heap.size (.int .i64 0):=br.new w _ _;have H1:=h.alloc (.cells #[.int .i64 0] 3);have hlt:=h.lt;have HO:au w (w.alloc (.cells #[.int .i64 0] 3)) g:=(au.refl w g).alloc _;have HX:=hid HX;have H1:=hid H1;have HO:=hid HO;clear h;rcases st with _|l
 ·go_enter Tryz.func68,Tryz.ntmps68;go_wp2_with(go_at_call 103;refine(ng _ g _ _ H1.out).mono ?_;rintro e w' ⟨rfl,rfl⟩);go_ret;exact⟨rfl,H1.out,HO.out⟩
 ·rcases l with _|⟨b,r⟩
  ·go_enter Tryz.func68,Tryz.ntmps68;go_wp2_with fail;refine(ij 104 #[.pointer (some ⟨w.heap.size,0,none⟩)] g _ 0 _ (fun w1=>br w1 w.heap.size (.int .i64 0)∧au w w1 g) H1.out.1 (Nat.zero_le _) (by rw[ed];simp) lE ?_).mono ?_
   ·refine(sg _ _ _ (by rw[ed];rfl)).mono ?_;rintro e w' ⟨rfl,rfl⟩;exact⟨rfl,H1.out.1,HX.out,HO.out⟩
   ·rintro e w' ⟨rfl,w1,⟨hn,ho⟩,hmv⟩;have hn':=hn.only hmv.1 (by omega);have hc:=hn'.1;have HF:Hid (aN w' g none∧au w w' g):=⟨hmv.2.1 rfl,ho.trans hmv.1⟩;clear hn hn' hmv ho;go_wp2_with fail;go_ret;exact⟨rfl,HF.out.1,HF.out.2⟩
  ·go_enter Tryz.func68,Tryz.ntmps68;go_wp2_with fail;refine(ij 104 #[.pointer (some ⟨w.heap.size,0,none⟩)] g _ 1 _ (fun w1=>br w1 w.heap.size (.int .i64 b.toNat)∧au w w1 g) H1.out.1 (by rw[ed];simp) (by rw[ed];have:=H1.out.2;omega) lE ?_).mono ?_
   ·refine(sH _ _ w.heap.size (by rw[ed];simp) HX.out).mono ?_;rintro e w' ⟨rfl,rfl⟩;exact⟨rfl,H1.out.1.far (by simp;omega) _,HX.out.set _,HO.out.setNew (by simp) _⟩
   ·rintro e w' ⟨rfl,w1,⟨hn,ho⟩,hmv⟩;have hn':=hn.only hmv.1 (by omega);have hc:=hn'.1
    have HF:Hid (aN w' g (some r)∧au w w' g):=by
     refine⟨⟨?_,?_⟩,ho.trans hmv.1⟩
     ·have h2:=hmv.2.2 (by omega);rw[io]at h2;exact h2
     ·have:=H1.out.2;simp at this;omega
    clear hn hn' hmv ho;go_wp2_with fail;go_ret;exact⟨rfl,HF.out.1,HF.out.2⟩
/-! Texts. -/
theorem si (s:ByteArray)(n:Nat)(w:World)(Bn Bt:Nat)(hp:n≤s.size)(hs:(s.size:Int)≤9223372036854775807)(hn:br w Bn (.int .i64 n))(hx:br w Bt (.string ByteArray.empty))(hne:Bn≠Bt):
  Calls Tryz.prog 108 #[.string s,.pointer (some ⟨Bn,0,none⟩),.pointer (some ⟨Bt,0,none⟩)] w fun e w'=>e= .returned (.int .i64 n)∧w'=w.setCell ⟨Bt,0,none⟩ (.string (s.extract 0 n)):=by
 have c1:=hn.1;have c2:=hx.1;have f2:=hx.2.1;have c3:=(hn.far (p:=⟨Bt,0,none⟩) hne (.string (s.extract 0 n))).1;clear hx hn;go_enter Tryz.func108,Tryz.ntmps108;go_wp2;go_ret;exact⟨rfl,rfl⟩
theorem sd (s:ByteArray)(n:Nat)(w:World)(Bn:Nat)(p:Value)(hp:s.size<n)(hn:br w Bn (.int .i64 n)):
  Calls Tryz.prog 108 #[.string s,.pointer (some ⟨Bn,0,none⟩),p] w fun e w'=>e= .returned (.int .i64 0)∧w'=w:=by
 have c1:=hn.1;clear hn;go_enter Tryz.func108,Tryz.ntmps108;go_wp2;go_ret;exact⟨rfl,rfl⟩
theorem pm (l:List UInt8)(n:Nat):(⟨l.toArray⟩:ByteArray).extract 0 n=⟨(l.take n).toArray⟩:=by
 have h:=Lib.extract_data (⟨l.toArray⟩:ByteArray) 0 n
 have e:((⟨l.toArray⟩:ByteArray).extract 0 n).data.toList=l.take n:=by
  rw[h];simp
 rw[←Go.Joins.bytes_eta ((⟨l.toArray⟩:ByteArray).extract 0 n),e]
theorem dr (g:Nat)(st:Option (List UInt8))(n:Int)(w:World)(h:aN w g st)(h2:n≤9223372036854775807):
  Calls Tryz.prog 73 #[.pointer (some ⟨g,0,none⟩),.int .i64 n] w fun e w'=>e= .returned (.string ⟨(am n st).1.toArray⟩)∧aN w' g (am n st).2∧au w w' g:=by
 have H:=hid h;have hlt:=h.lt;have H2:=hid h2;obtain⟨m,st1,hc⟩: ∃m st1,ae n st=(m,st1):=⟨_,_,rfl⟩
 have hm:m≤4611686018427387904:=by
  have e:m=(ae n st).1:=by rw[hc]
  rw[e];unfold ae
  split
  ·simp
  ·have:=sD (mc n) st;have h3:mc n≤4611686018427387904:=by unfold mc;split<;>omega
   omega
 have HC:=hid hc;have HM:=hid hm;clear h h2 hc hm;go_enter Tryz.func73,Tryz.ntmps73;go_wp2_with fail;refine(cD g st n _ H.out H2.out).mono ?_;rw[HC.out];rintro e w1 ⟨rfl,hs1,ho1⟩;have hsz:=ho1.size;have hg1:=hs1.lt;by_cases h0:m=0
 ·subst h0;have HR:Hid (am n st=([],st1)):=by unfold am;rw[HC.out,if_pos rfl];exact rfl
  have HS:=hid hs1;have HO:=hid ho1;clear hs1 ho1;go_wp2_with fail;go_ret;rw[HR.out];exact⟨rfl,HS.out.alloc _,HO.out.alloc _⟩
 ·have hz:((m:Int) == 0)=false:=by simp;omega
  have hn1:br ((w1.alloc (.cells #[.int .i64 m] 3)).alloc (.cells #[.string ByteArray.empty] 9)) w1.heap.size (.int .i64 m):=(br.new w1 _ _).alloc _
  have hx1:br ((w1.alloc (.cells #[.int .i64 m] 3)).alloc (.cells #[.string ByteArray.empty] 9)) (w1.heap.size+1) (.string ByteArray.empty):=by
   have:=br.new (w1.alloc (.cells #[.int .i64 m] 3)) (.string ByteArray.empty) 9;simpa using this
  have hs2:=(hs1.alloc (.cells #[.int .i64 m] 3)).alloc (.cells #[.string ByteArray.empty] 9);have ho2:au w ((w1.alloc (.cells #[.int .i64 m] 3)).alloc (.cells #[.string ByteArray.empty] 9)) g:=(ho1.alloc _).alloc _;have HN:=hid hn1;have HX:=hid hx1;have HS:=hid hs2;have HO:=hid ho2;clear hn1 hx1 hs2 ho2 hs1 ho1;rcases st1 with _|r
  ·have HR:Hid (am n st=([],none)):=by unfold am;rw[HC.out,if_neg h0];exact rfl
   go_wp2_with fail;refine(ng _ g _ _ HS.out).mono ?_;rintro e w' ⟨rfl,rfl⟩;have hc:=HX.out.1;go_wp2_with fail;go_ret;rw[HR.out];exact⟨rfl,HS.out,HO.out⟩
  ·have hrl:=HS.out.2;by_cases hl:r.length<m
   ·have HR:Hid (am n st=([],none)):=by unfold am;rw[HC.out,if_neg h0];show(if r.length<m then _ else _)=_;rw[if_pos hl]
    go_wp2_with fail;refine(ij 108 #[.pointer (some ⟨w1.heap.size,0,none⟩),.pointer (some ⟨w1.heap.size+1,0,none⟩)] g _ 0 _ (fun w2=>br w2 (w1.heap.size+1) (.string ByteArray.empty)∧au w w2 g) HS.out.1 (Nat.zero_le _) (by rw[ed];omega) lu ?_).mono ?_
    ·refine(sd _ m _ w1.heap.size _ (by rw[ed];exact hl) HN.out).mono ?_;rintro e w' ⟨rfl,rfl⟩;exact⟨rfl,HS.out.1,HX.out,HO.out⟩
    ·rintro e w' ⟨rfl,w2,⟨hn,ho⟩,hmv⟩;have hn':=hn.only hmv.1 (by omega);have hc:=hn'.1;have HF:Hid (aN w' g none∧au w w' g):=⟨hmv.2.1 rfl,ho.trans hmv.1⟩;clear hn hn' hmv ho;go_wp2_with fail;go_ret;rw[HR.out];exact⟨rfl,HF.out.1,HF.out.2⟩
   ·have HR:Hid (am n st=(r.take m,some (r.drop m))):=by unfold am;rw[HC.out,if_neg h0];show(if r.length<m then _ else _)=_;rw[if_neg hl]
    go_wp2_with fail;refine(ij 108 #[.pointer (some ⟨w1.heap.size,0,none⟩),.pointer (some ⟨w1.heap.size+1,0,none⟩)] g _ m _ (fun w2=>br w2 (w1.heap.size+1) (.string ⟨(r.take m).toArray⟩)∧au w w2 g) HS.out.1 (by rw[ed];omega) (by rw[ed];omega) lu ?_).mono ?_
    ·refine(si _ m _ w1.heap.size (w1.heap.size+1) (by rw[ed];omega) (by rw[ed];omega) HN.out HX.out (by omega)).mono ?_;rintro e w' ⟨rfl,rfl⟩;rw[pm];exact⟨rfl,HS.out.1.far (by simp;omega) _,HX.out.set _,HO.out.setNew (by simp;omega) _⟩
    ·rintro e w' ⟨rfl,w2,⟨hn,ho⟩,hmv⟩;have hn':=hn.only hmv.1 (by omega);have hc:=hn'.1
     have HF:Hid (aN w' g (some (r.drop m))∧au w w' g):=by
      refine⟨⟨?_,by simp;omega⟩,ho.trans hmv.1⟩;have h2:=hmv.2.2 (by omega);rw[io]at h2;exact h2
     clear hn hn' hmv ho;go_wp2_with fail;go_ret;rw[HR.out];exact⟨rfl,HF.out.1,HF.out.2⟩
theorem tL (g:Nat)(l:List UInt8)(w:World)(h:aN w g (some l)):Calls Tryz.prog 162 #[.pointer (some ⟨g,0,none⟩)] w fun e w'=>e= .returned (.int .i64 l.length)∧w=w':=
 (pV g _ false w h.1).mono fun e w' ⟨he,hw⟩=>⟨by rw[he,ed];rfl,hw⟩
theorem sv (g:Nat)(w:World)(h:aN w g none):Calls Tryz.prog 162 #[.pointer (some ⟨g,0,none⟩)] w fun e w'=>e= .returned (.int .i64 0)∧w=w':=
 (pV g _ true w h).mono fun e w' ⟨he,hw⟩=>⟨he,hw⟩
theorem rZ (l:List UInt8):(⟨l.toArray⟩:ByteArray).toList.isEmpty=l.isEmpty:=by rw[ByteArray.toList_eq]
theorem ux (g:Nat)(l:List UInt8)(w:World)(h:aN w g (some l)):Calls Tryz.prog 33 #[.pointer (some ⟨g,0,none⟩)] w fun e w'=>e= .returned (.int .i64 (if l.isEmpty then 0 else 10))∧w=w':=
 (pU g _ false w h.1).mono fun e w' ⟨he,hw⟩=>⟨by rw[he,rZ];cases l.isEmpty<;>rfl,hw⟩
theorem sJ (g:Nat)(w:World)(h:aN w g none):Calls Tryz.prog 33 #[.pointer (some ⟨g,0,none⟩)] w fun e w'=>e= .returned (.int .i64 10)∧w=w':=
 (pU g _ true w h).mono fun e w' ⟨he,hw⟩=>⟨he,hw⟩
theorem mO (g:Nat)(st:Option (List UInt8))(w:World)(h:aN w g st):Calls Tryz.prog 74 #[.pointer (some ⟨g,0,none⟩)] w fun e w'=>e= .returned (.bool st.isNone)∧w=w':=by
 cases st with
 |none=>exact ge g _ true w h
 |some l=>exact ge g _ false w h.1
def Rd (w:World)(B:Nat)(v:Value)(l:List UInt8):Prop:=
 ∃(A:Option Addr) (cap:Nat),v= .slice A l.length cap∧l.length≤cap∧(cap≤9223372036854775807∧(A=none→cap=0))∧
  (0<l.length→ ∃b off,A=some ⟨b,off,none⟩∧b<B∧ ∀i (h:i<l.length),w.cell? ⟨b,off+i,none⟩=some (.int .u8 (l[i].toNat:Int)))
theorem Rd.keep {w w':World}{B:Nat}{v:Value}{l:List UInt8}(h:Rd w B v l)(hb:Below B w w'):Rd w' B v l:=by
 obtain⟨A,cap,hv,hc,hm,h1⟩:=h;refine⟨A,cap,hv,hc,hm,fun hl=> ?_⟩;obtain⟨b,off,hA,hbB,hcell⟩:=h1 hl;exact⟨b,off,hA,hbB,fun i hi=>(hb.cell (p:=⟨b,off+i,none⟩) hbB).trans (hcell i hi)⟩
def RS (w:World)(g B:Nat):Option (List UInt8)→Prop
 |none=> ∃(A:Option Addr) (n c:Nat),w.heap[g]? =some (.cells #[.slice A n c,.bool true] 69 (0,0))
 |some l=> ∃v,w.heap[g]? =some (.cells #[v,.bool false] 69 (0,0))∧Rd w B v l
theorem RS.lt {w:World}{g B:Nat}{st:Option (List UInt8)}(h:RS w g B st):g<w.heap.size:=by
 cases st with
 |none=>obtain⟨_,_,_,h⟩:=h;exact(Array.getElem?_eq_some_iff.1 h).1
 |some l=>obtain⟨v,h,_⟩:=h;exact(Array.getElem?_eq_some_iff.1 h).1
theorem RS.keep {w w':World}{g B:Nat}{st:Option (List UInt8)}(h:RS w g B st)(he:w'.heap[g]? =w.heap[g]?)(hb:Below B w w'):RS w' g B st:=by
 cases st with
 |none=>obtain⟨A,n,c,h⟩:=h;exact⟨A,n,c,he.trans h⟩
 |some l=>obtain⟨v,h,h2⟩:=h;exact⟨v,he.trans h,h2.keep hb⟩
theorem tA (acc b k:Nat)(hacc:acc<128 ^ k)(h:k≤9)(h9:k=9→b % 128≤1):
  IntKind.u64.wrap ((acc:Int)+IntKind.u64.wrap ((b:Int) % 128 * 2 ^ (7 * k)))=((acc+b % 128 * 128 ^ k:Nat):Int):=by
 have hm:=ma (b % 128) k (by omega) h h9;have hp:=pL k h
 have e:IntKind.u64.wrap ((b:Int) % 128 * 2 ^ (7 * k))=((b % 128 * 128 ^ k:Nat):Int):=by
  have e1:((b:Int) % 128 * 2 ^ (7 * k))=((b % 128 * 128 ^ k:Nat):Int):=by
   rw[←xL];simp
  rw[e1,IntKind.wrap_u64];omega
 rw[e,IntKind.wrap_u64];omega
def GL (l:List UInt8)(k acc:Nat):Prop:=acc<128 ^ k∧bS k acc (l.drop k)=bS 0 0 l
theorem qX (l:List UInt8)(k:Nat)(hk:k<l.length):l.drop k=l[k]::l.drop (k+1):=List.drop_eq_getElem_cons hk
theorem yv {l:List UInt8}{k acc:Nat}(HG:GL l k acc)(hn: ¬(k<l.length∧k<10))(h10:k≤10)(hle:k≤l.length):bS 0 0 l=(0,0):=by
 rw[←HG.2];by_cases h:k<l.length
 ·rw[qX l k h,bS,if_pos (by omega)]
 ·rw[List.drop_eq_nil_of_le (by omega),bS]
theorem yX {l:List UInt8}{k acc:Nat}(HG:GL l k acc)(hk:k<l.length)(h9:k=9)(hb:1<l[k].toNat):bS 0 0 l=(0,0):=by
 rw[←HG.2,qX l k hk,bS,if_neg (by omega),if_pos ⟨h9,hb⟩]
theorem xY {l:List UInt8}{k acc:Nat}(HG:GL l k acc)(hk:k<l.length)(h10:k<10)(h0:0<k)(hb:l[k].toNat=0):bS 0 0 l=(0,0):=by
 rw[←HG.2,qX l k hk,bS,if_neg (by omega),if_neg (by omega),if_pos (by omega),if_pos ⟨hb,h0⟩]
theorem xT {l:List UInt8}{k acc:Nat}(HG:GL l k acc)(hk:k<l.length)(h10:k<10)(h9:k=9→l[k].toNat≤1)(hb:l[k].toNat<128)(hz:l[k].toNat=0→ ¬0<k):
  IntKind.u64.wrap ((acc:Int)+IntKind.u64.wrap ((l[k].toNat:Int) % 128 * 2 ^ (7 * k)))=((bS 0 0 l).1:Int)∧(bS 0 0 l).2=k+1:=by
 rw[tA acc l[k].toNat k HG.1 (by omega) (by omega)];rw[←HG.2,qX l k hk,bS,if_neg (by omega),if_neg (by omega),if_pos (by omega),if_neg (by omega)];rw[Nat.mod_eq_of_lt hb];exact⟨rfl,rfl⟩
theorem xN {l:List UInt8}{k acc:Nat}(HG:GL l k acc)(hk:k<l.length)(h10:k<10)(h9:k≠9)(hb:128≤l[k].toNat):
  ∃acc':Nat,IntKind.u64.wrap ((acc:Int)+IntKind.u64.wrap ((l[k].toNat:Int) % 128 * 2 ^ (7 * k)))=(acc':Int)∧GL l (k+1) acc':=by
 have hlt:=UInt8.toNat_lt l[k];refine⟨_,tA acc l[k].toNat k HG.1 (by omega) (by omega),?_,?_⟩
 ·have e3:(128:Nat) ^ (k+1)=128 * 128 ^ k:=by rw[Nat.pow_succ];omega
  have:l[k].toNat % 128 * 128 ^ k≤127 * 128 ^ k:=Nat.mul_le_mul_right _ (by omega);have:=HG.1;omega
 ·rw[←HG.2,qX l k hk]
  conv=>rhs;rw[bS,if_neg (by omega),if_neg (by omega),if_neg (by omega)]
  have e:l[k].toNat % 128=l[k].toNat - 128:=by omega
  rw[e]
theorem iA (l:List UInt8):rdN 18446744073709551615 (some l)=if(bS 0 0 l).2=0 then(0,none)else((bS 0 0 l).1,some (l.drop (bS 0 0 l).2)):=by
 have:=pg l 0 0 (by decide) (by omega);simp only[rdN];by_cases h:(bS 0 0 l).2=0
 ·rw[if_pos (Or.inl h),if_pos h]
 ·rw[if_neg (by omega),if_neg h]
theorem fE {w:World}{g:Nat}{v u:Value}{b:Bool}(h:w.heap[g]? =some (.cells #[v,.bool b] 69 (0,0))):(w.setCell ⟨g,0,none⟩ u).heap[g]? =some (.cells #[u,.bool b] 69 (0,0)):=Go.Joins.block_setCell (i:=0) h u
theorem fF {w:World}{g:Nat}{v:Value}{b c:Bool}(h:w.heap[g]? =some (.cells #[v,.bool b] 69 (0,0))):(w.setCell ⟨g,1,none⟩ (.bool c)).heap[g]? =some (.cells #[v,.bool c] 69 (0,0)):=Go.Joins.block_setCell (i:=1) h (.bool c)
theorem Rd.cut {w:World}{B b off cap k:Nat}{l:List UInt8}(h:Rd w B (.slice (some ⟨b,off,none⟩) l.length cap) l)(hk:k≤l.length):
  Rd w B (.slice (if cap=k then some ⟨b,off,none⟩else some ⟨b,off+k,none⟩) (l.length - k) (cap - k)) (l.drop k):=by
 obtain⟨A,cap',hv,hc,hm,h1⟩:=h;injection hv with hA _ hcap
 subst hA;subst hcap;refine⟨_,_,by rw[List.length_drop],by rw[List.length_drop];omega,⟨by omega,fun h=>by split at h<;>cases h⟩,fun hl=> ?_⟩;rw[List.length_drop]at hl;obtain⟨b',off',hA,hB,hcell⟩:=h1 (by omega);injection hA with hA;injection hA with hA1 hA2
 subst hA1;subst hA2;rw[if_neg (by omega)];refine⟨b,off+k,rfl,hB,fun i hi=> ?_⟩;rw[List.length_drop]at hi;have:=hcell (k+i) (by omega);rw[List.getElem_drop,Nat.add_assoc];exact this
theorem mP {w:World}{g B:Nat}{A:Option Addr}{n c:Nat}{l:List UInt8}(h:w.heap[g]? =some (.cells #[.slice A n c,.bool false] 69 (0,0)))(hz:(bS 0 0 l).2=0):
  Ending.returned (.int .u64 0)= .returned (.int .u64 (rdN 18446744073709551615 (some l)).1)∧RS (w.setCell ⟨g,1,none⟩ (.bool true)) g B (rdN 18446744073709551615 (some l)).2∧au w (w.setCell ⟨g,1,none⟩ (.bool true)) g:=by
 rw[iA,if_pos hz];exact⟨rfl,⟨_,_,_,fF h⟩,(au.refl w g).set _ _⟩
theorem lQ {w:World}{g B n:Nat}{v u:Value}{l:List UInt8}{x:Int}(h:w.heap[g]? =some (.cells #[v,.bool false] 69 (0,0)))(hg:B≤g)(hx:x=((bS 0 0 l).1:Int))(hn:(bS 0 0 l).2=n+1)(hu:Rd w B u (l.drop (n+1))):
  Ending.returned (.int .u64 x)= .returned (.int .u64 (rdN 18446744073709551615 (some l)).1)∧RS (w.setCell ⟨g,0,none⟩ u) g B (rdN 18446744073709551615 (some l)).2∧au w (w.setCell ⟨g,0,none⟩ u) g:=by
 rw[iA,if_neg (by omega),hn];exact⟨kw hx,⟨u,fE h,hu.keep ((Below.refl _ _).setCell hg _)⟩,(au.refl w g).set _ _⟩
theorem yY :IntKind.u64.wrap (((1:Nat):Int) % 128 * 2 ^ (7 * 9))=9223372036854775808:=by decide
set_option maxRecDepth 1000000 in
theorem dE (g B:Nat)(l:List UInt8)(w:World)(h:RS w g B (some l))(hg:B≤g):
  Calls Tryz.prog 79 #[.pointer (some ⟨g,0,none⟩)] w fun e w'=>e= .returned (.int .u64 (rdN 18446744073709551615 (some l)).1)∧RS w' g B (rdN 18446744073709551615 (some l)).2∧au w w' g:=by
 obtain⟨v,hgv,hrd⟩:=h;have c0:w.cell? ⟨g,0,none⟩=some v:=Go.Joins.cell_of_block hgv 0;have c1:w.cell? ⟨g,1,none⟩=some (.bool false):=Go.Joins.cell_of_block hgv 1;have f0:w.frozen? ⟨g,0,none⟩=false:=Go.Joins.unfrozen_of_block hgv 0;have f1:w.frozen? ⟨g,1,none⟩=false:=Go.Joins.unfrozen_of_block hgv 1;have HV:=hid hgv;have HR:=hid hrd;obtain⟨A,cap,rfl,hcap,hmax,hA⟩:=hrd;have HM:=hid (iA l);have HA:=hid hA
 have hbad:(bS 0 0 l).2=0→Hid (Int.ofNat 0=((rdN 18446744073709551615 (some l)).1:Int)∧(rdN 18446744073709551615 (some l)).2=none):=fun h0=>by
  rw[iA,if_pos h0];exact⟨rfl,rfl⟩
 have HBAD:=hid hbad;clear hgv hbad hA;go_enter Tryz.func79,Tryz.ntmps79;go_wp2
 go_loop [3,4] (fun n i=> ∃(k acc:Nat),n= .int .u64 acc∧i= .int .i64 k∧k≤10∧k≤l.length∧GL l k acc) (fun _ i=>10 - (intOf i).toNat)
 case atStart=>exact⟨0,0,rfl,rfl,by omega,by omega,by simp,by simp⟩
 case round=>
  obtain⟨k,acc,rfl,rfl,hL1,hL2,HG⟩:=hrel;have HG':=hid HG;clear HG;by_cases hlt:k<l.length∧k<10
  ·obtain⟨hlt1,hlt2⟩:=hlt;obtain⟨b,off,rfl,hbB,hcell⟩:=HA.out (by omega);have hc:=hcell k hlt1;obtain⟨bk,hbk⟩: ∃bk:Nat,bk=l[k].toNat:=⟨_,rfl⟩;rw[←hbk]at hc;have hb256:bk<256:=by rw[hbk];exact UInt8.toNat_lt l[k]
   have HK:=hid hbk;clear hcell hbk;by_cases hA9:k=9∧1<bk
   ·obtain⟨rfl,hb1⟩:=hA9;have HZ:=hid (yX HG'.out hlt1 rfl (by have:=HK.out;omega));go_wp2;go_ret;exact mP HV.out (by rw[HZ.out])
   ·by_cases hB0:0<k∧bk=0
    ·obtain⟨hk0,rfl⟩:=hB0;have HZ:=hid (xY HG'.out hlt1 hlt2 hk0 HK.out.symm);by_cases hk9:k=9
     ·subst hk9;go_wp2;go_ret;exact mP HV.out (by rw[HZ.out])
     ·go_wp2;go_ret;exact mP HV.out (by rw[HZ.out])
    ·by_cases hlo:bk<128
     ·have HL:=hid (xT HG'.out hlt1 hlt2 (by have:=HK.out;omega) (by have:=HK.out;omega) (by have:=HK.out;omega));have HCut:=hid (HR.out.cut (k:=k+1) (by omega));by_cases hck:cap=k+1
      ·subst hck;have hll:l.length - (k+1)=0:=by omega
       have HLL:=hid hll;clear hll;by_cases hk9:k=9
       ·subst hk9;obtain rfl:bk=1:=by omega
        have hx:=HL.out.1;rw[←HK.out,yY]at hx;have HX:=hid hx;clear hx;go_wp2;go_ret;exact lQ HV.out hg HX.out HL.out.2 (by have h1:=HLL.out;simpa[h1]using HCut.out)
       ·have hx:=HL.out.1;rw[←HK.out]at hx;have HX:=hid hx;clear hx;go_wp2;all_goals go_ret
        all_goals exact lQ HV.out hg (by simpa using HX.out) HL.out.2 (by have h1:=HLL.out;simpa[h1]using HCut.out)
      ·by_cases hk9:k=9
       ·subst hk9;obtain rfl:bk=1:=by omega
        have hx:=HL.out.1;rw[←HK.out,yY]at hx;have HX:=hid hx;clear hx;go_wp2;go_ret;exact lQ HV.out hg HX.out HL.out.2 (by simpa[hck]using HCut.out)
       ·have hx:=HL.out.1;rw[←HK.out]at hx;have HX:=hid hx;clear hx;go_wp2;all_goals go_ret
        all_goals exact lQ HV.out hg (by simpa using HX.out) HL.out.2 (by simpa[hck]using HCut.out)
     ·have hk9:k≠9:=by omega
      obtain⟨acc',ha1,ha2⟩:=xN HG'.out hlt1 hlt2 hk9 (by have:=HK.out;omega);rw[←HK.out]at ha1;have HA1:=hid ha1;have HA2:=hid ha2;clear ha1 ha2;go_wp2
      all_goals
       go_round
       case rel=>exact⟨k+1,acc',by rw[HA1.out],by go_num,by omega,by omega,HA2.out⟩
       case measure=>simp[intOf];omega
  ·have HZ:=hid (yv HG'.out hlt hL1 hL2);by_cases hk10:k=10
   ·subst hk10;go_wp2;go_ret;exact mP HV.out (by rw[HZ.out])
   ·have hkl:k=l.length:=by omega
    have hk1:k<10:=by omega
    have hk2: ¬k<l.length:=by omega
    go_wp2;go_ret;exact mP HV.out (by rw[HZ.out])
structure yu (w:World)(g:Nat)(v:Value)(b:Bool):Prop where
 c0:w.cell? ⟨g,0,none⟩=some v
 c1:w.cell? ⟨g,1,none⟩=some (.bool b)
 f0:w.frozen? ⟨g,0,none⟩=false
 f1:w.frozen? ⟨g,1,none⟩=false
theorem ej {w:World}{g:Nat}{v:Value}{b:Bool}(h:w.heap[g]? =some (.cells #[v,.bool b] 69 (0,0))):yu w g v b:=
 ⟨Go.Joins.cell_of_block h 0,Go.Joins.cell_of_block h 1,Go.Joins.unfrozen_of_block h 0,Go.Joins.unfrozen_of_block h 1⟩
set_option maxRecDepth 1000000 in
theorem cV (g B:Nat)(st:Option (List UInt8))(w:World)(h:RS w g B st)(hg:B≤g):
  Calls Tryz.prog 36 #[.pointer (some ⟨g,0,none⟩)] w fun e w'=>e= .returned (.int .i64 (ak st).1)∧RS w' g B (ak st).2∧au w w' g:=by
 rcases st with _|l
 ·obtain⟨Au,nu,cu,hu⟩:=h;obtain⟨c0,c1,f0,f1⟩:=ej hu;have HU:=hid hu;clear hu;go_enter Tryz.func36,Tryz.ntmps36;go_wp2;go_ret;exact⟨rfl,⟨_,_,_,fF HU.out⟩,(au.refl w g).set _ _⟩
 ·obtain⟨v,hv,hrd⟩:=h;obtain⟨c0,c1,f0,f1⟩:=ej hv;have HV:=hid hv;have HR:=hid hrd;obtain⟨A,cap,rfl,hcap,hmax,hA⟩:=hrd;clear hv;rcases l with _|⟨b0,r⟩
  ·clear hA;go_enter Tryz.func36,Tryz.ntmps36;go_wp2;go_ret;exact⟨rfl,⟨_,_,_,fF HV.out⟩,(au.refl w g).set _ _⟩
  ·obtain⟨b,off,rfl,hbB,hcell⟩:=hA (by simp);have hc:w.cell? ⟨b,off,none⟩=some (.int .u8 (b0.toNat:Int)):=hcell 0 (by simp);have hb256:(b0.toNat:Int)<256:=by have:=UInt8.toNat_lt b0;omega
   have HCut:=hid (HR.out.cut (k:=1) (by simp));have hmax1:=hmax.1;simp only[List.length_cons]at hcap;clear hcell hA hmax;by_cases hck:cap=1
   ·subst hck;have hl0:Hid (r.length=0):=by show r.length=0;omega
    go_enter Tryz.func36,Tryz.ntmps36;go_wp2;go_ret;exact⟨rfl,⟨_,fE HV.out,(by have h1:=HCut.out;have h2:=hl0.out;simpa[h2]using h1:Rd w B _ r).keep ((Below.refl _ _).setCell hg _)⟩,(au.refl w g).set _ _⟩
   ·go_enter Tryz.func36,Tryz.ntmps36;go_wp2;go_ret;exact⟨rfl,⟨_,fE HV.out,(by have h1:=HCut.out;simpa[hck]using h1:Rd w B _ r).keep ((Below.refl _ _).setCell hg _)⟩,(au.refl w g).set _ _⟩
theorem xe (n:Nat)(h:n % 2=0):zag n=((n / 2:Nat):Int):=by unfold zag;rw[if_neg (by omega)]
theorem xC (n:Nat)(h: ¬n % 2=0):zag n= -((n / 2:Nat):Int) - 1:=by unfold zag;rw[if_pos (by omega)]
set_option maxRecDepth 1000000 in
theorem vl (g B:Nat)(st:Option (List UInt8))(w:World)(h:RS w g B st)(hg:B≤g):
  Calls Tryz.prog 128 #[.pointer (some ⟨g,0,none⟩)] w fun e w'=>e= .returned (.int .i64 (ef st).1)∧RS w' g B (ef st).2∧au w w' g:=by
 rcases st with _|l
 ·obtain⟨Au,nu,cu,hu⟩:=h;obtain⟨c0,c1,f0,f1⟩:=ej hu;have HU:=hid hu;clear hu;go_enter Tryz.func128,Tryz.ntmps128;go_wp2_with fail;go_ret;exact⟨rfl,⟨_,_,_,HU.out⟩,au.refl w g⟩
 ·have H:=hid h;obtain⟨v,hv,hrd⟩:=h;obtain⟨c0,c1,f0,f1⟩:=ej hv;obtain⟨x,st',hr⟩: ∃x st',rdN 18446744073709551615 (some l)=(x,st'):=⟨_,_,rfl⟩;have hx:=pK 18446744073709551615 (some l);rw[hr]at hx;have HI:Hid (ef (some l)=(zag x,st')):=by show ef (some l)=(zag x,st');unfold ef;rw[hr]
  have HR:=hid hr;have hx':(x:Int) / 2≤9223372036854775807:=by simp only[]at hx;omega
  clear hv hrd hr hx;by_cases hev:x % 2=0
  ·have he:((x:Int) % 2 == 0)=true:=by simp;omega
   go_enter Tryz.func128,Tryz.ntmps128;go_wp2_with fail;refine(dE g B l _ H.out hg).mono ?_;rw[HR.out];rintro e w1 ⟨rfl,hs,ho⟩;go_wp2_with fail;go_ret;rw[HI.out];exact⟨aL (by rw[xe x hev];omega),hs,ho⟩
  ·have he:((x:Int) % 2 == 0)=false:=by simp;omega
   go_enter Tryz.func128,Tryz.ntmps128;go_wp2_with fail;refine(dE g B l _ H.out hg).mono ?_;rw[HR.out];rintro e w1 ⟨rfl,hs,ho⟩;go_wp2_with fail;go_ret;rw[HI.out];exact⟨aL (by rw[xC x hev];omega),hs,ho⟩
theorem qQ {n:Int}{l:List UInt8}(h:(rdN 18446744073709551615 (some l)).2=none∨4611686018427387904<(rdN 18446744073709551615 (some l)).1∨n<((rdN 18446744073709551615 (some l)).1:Int))(hn:(rdN 18446744073709551615 (some l)).2=none→(rdN 18446744073709551615 (some l)).1=0):
  ae n (some l)=(0,none):=by
 unfold ae
 split
 ·rfl
 ·next h0=>
  rw[iA]at h;simp only[rdN];by_cases hz:(bS 0 0 l).2=0
  ·rw[if_pos (Or.inl hz)]
  ·rw[if_neg hz]at h;rw[if_pos];refine .inr ?_;unfold mc;rcases h with h|h|h
   ·cases h
   ·split<;>(simp only[]at h;omega)
   ·split<;>(simp only[]at h;omega)
theorem pH {n:Int}{l r:List UInt8}(h1:(rdN 18446744073709551615 (some l)).2=some r)(h2:(rdN 18446744073709551615 (some l)).1≤4611686018427387904)(h3:((rdN 18446744073709551615 (some l)).1:Int)≤n):
  ae n (some l)=rdN 18446744073709551615 (some l):=by
 unfold ae;rw[if_neg (by omega),iA];rw[iA]at h1 h2 h3;by_cases hz:(bS 0 0 l).2=0
 ·rw[if_pos hz]at h1;cases h1
 ·rw[if_neg hz]at h2 h3 ⊢;simp only[rdN];rw[if_neg];unfold mc;simp only[]at h2 h3
  split<;>omega
def bX :Option (List UInt8)→Int
 |none=>10
 |some l=>if l.isEmpty then 0 else 10
theorem mh (m:Nat)(st:Option (List UInt8))(h:(rdN m st).2=none):(rdN m st).1=0:=by
 cases st with
 |none=>rfl
 |some l=>
  simp only[rdN]at h ⊢
  split at h
  ·next hc=>rw[if_pos hc]
  ·cases h
set_option maxRecDepth 1000000 in
theorem aS (g B:Nat)(n:Int)(st:Option (List UInt8))(w:World)(h:RS w g B st)(hg:B≤g)(hn:n≤9223372036854775807):
  Calls Tryz.prog 37 #[.pointer (some ⟨g,0,none⟩),.int .i64 n] w fun e w'=>e= .returned (.int .i64 (ae n st).1)∧RS w' g B (ae n st).2∧au w w' g:=by
 rcases st with _|l
 ·obtain⟨Au,nu,cu,hu⟩:=h;obtain⟨c0,c1,f0,f1⟩:=ej hu;have HU:=hid hu;have HR:Hid (ae n none=(0,none)):=by show ae n none=(0,none);unfold ae;split<;>rfl
  clear hu;go_enter Tryz.func37,Tryz.ntmps37;go_wp2_with fail;go_ret;rw[HR.out];exact⟨rfl,⟨_,_,_,HU.out⟩,au.refl w g⟩
 ·have H:=hid h;obtain⟨v,hv,hrd⟩:=h;obtain⟨c0,c1,f0,f1⟩:=ej hv;obtain⟨A,cap,rfl,_,_,_⟩:=hrd;obtain⟨x,st',hr⟩: ∃x st',rdN 18446744073709551615 (some l)=(x,st'):=⟨_,_,rfl⟩;have hx:=pK 18446744073709551615 (some l);have hx0:=mh 18446744073709551615 (some l);have hbad:=qQ (n:=n) (l:=l);have hgood:=fun r=>pH (n:=n) (l:=l) (r:=r);rw[hr]at hx hx0 hbad hgood;have HR:=hid hr;have HX:=hid hx;have HX0:=hid hx0;have HBAD:=hid hbad;have HGOOD:=fun r=>hid (hgood r);clear hv hr hx hx0 hbad hgood;rcases st' with _|r
  ·have HC:=hid (HBAD.out (.inl rfl) HX0.out);go_enter Tryz.func37,Tryz.ntmps37;go_wp2_with fail;refine(dE g B l _ H.out hg).mono ?_;rw[HR.out];rintro e w1 ⟨rfl,⟨Au,nu,cu,hu⟩,ho⟩;obtain⟨d0,d1,e0,e1⟩:=ej hu;have HU:=hid hu;clear hu c0 c1 f0 f1;go_wp2_with fail;go_ret;rw[HC.out];exact⟨rfl,⟨_,_,_,fF (fE HU.out)⟩,(ho.set _ _).set _ _⟩
  ·by_cases hbig:4611686018427387904<x
   ·have HC:=hid (HBAD.out (.inr (.inl hbig)) HX0.out);go_enter Tryz.func37,Tryz.ntmps37;go_wp2_with fail;refine(dE g B l _ H.out hg).mono ?_;rw[HR.out];rintro e w1 ⟨rfl,⟨u,hu,hrd⟩,ho⟩;obtain⟨d0,d1,e0,e1⟩:=ej hu;have HU:=hid hu;clear hu c0 c1 f0 f1 hrd;go_wp2_with fail;go_ret;rw[HC.out];exact⟨rfl,⟨_,_,_,fF (fE HU.out)⟩,(ho.set _ _).set _ _⟩
   ·have hx2:(x:Int)≤4611686018427387904:=by omega
    by_cases hmost:n<(x:Int)
    ·have HC:=hid (HBAD.out (.inr (.inr hmost)) HX0.out);go_enter Tryz.func37,Tryz.ntmps37;go_wp2_with fail;refine(dE g B l _ H.out hg).mono ?_;rw[HR.out];rintro e w1 ⟨rfl,⟨u,hu,hrd⟩,ho⟩;obtain⟨d0,d1,e0,e1⟩:=ej hu;have HU:=hid hu;clear hu c0 c1 f0 f1 hrd;go_wp2_with fail;go_ret;rw[HC.out];exact⟨rfl,⟨_,_,_,fF (fE HU.out)⟩,(ho.set _ _).set _ _⟩
    ·have HC:=hid ((HGOOD r).out rfl (by simp only[];omega) (by simp only[];omega));go_enter Tryz.func37,Tryz.ntmps37;go_wp2_with fail;refine(dE g B l _ H.out hg).mono ?_;rw[HR.out];rintro e w1 ⟨rfl,⟨u,hu,hrd⟩,ho⟩;obtain⟨d0,d1,e0,e1⟩:=ej hu;have HU:Hid (RS w1 g B (some r)):=⟨u,hu,hrd⟩;clear hu c0 c1 f0 f1 hrd;go_wp2_with fail;go_ret;rw[HC.out];exact⟨rfl,HU.out,ho⟩
set_option maxRecDepth 1000000 in
theorem fk (g B:Nat)(st:Option (List UInt8))(w:World)(h:RS w g B st):
  Calls Tryz.prog 40 #[.pointer (some ⟨g,0,none⟩)] w fun e w'=>e= .returned (.int .i64 (bX st))∧w=w':=by
 rcases st with _|l
 ·obtain⟨Au,nu,cu,hu⟩:=h;obtain⟨c0,c1,f0,f1⟩:=ej hu;clear hu;go_enter Tryz.func40,Tryz.ntmps40;go_wp2_with fail;go_ret;exact⟨rfl,rfl⟩
 ·obtain⟨v,hv,hrd⟩:=h;obtain⟨c0,c1,f0,f1⟩:=ej hv;obtain⟨A,cap,rfl,hcap,hmax,hA⟩:=hrd;clear hv hA;rcases l with _|⟨b,r⟩
  ·go_enter Tryz.func40,Tryz.ntmps40;go_wp2_with fail;go_ret;exact⟨rfl,rfl⟩
  ·have hpos:(0:Int)<((b::r).length:Int):=by simp only[List.length_cons];omega
   obtain⟨m,hm⟩: ∃m,m=(b::r).length:=⟨_,rfl⟩;rw[←hm]at c0 hpos;clear hm hcap;go_enter Tryz.func40,Tryz.ntmps40;go_wp2_with fail;go_ret;exact⟨rfl,rfl⟩
end Go.Proofs.YtgfidiocmiolpaaGreat
