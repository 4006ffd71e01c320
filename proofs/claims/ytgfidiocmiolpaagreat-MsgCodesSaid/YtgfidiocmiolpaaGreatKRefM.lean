/- Which values may be, as the document's answer has it. -/
import Derived.Test.YtgfidiocmiolpaaGreatKLook
import Derived.Test.YtgfidiocmiolpaaGreatKValB
set_option maxHeartbeats 64000000
set_option maxRecDepth 100000
set_option linter.unusedVariables false
set_option linter.unusedSimpArgs false
namespace Go.Proofs.YtgfidiocmiolpaaGreat
open Lib (hid)
open Go.RowKit
theorem tC {k i:Int}{s:ByteArray}{n:Nat}{ns:List ByteArray}(h:bi k i s n ns=true): ∀x∈ns,cD x.data.toList=true:=by
 unfold bi at h;by_cases h1:k=1
 ·simp[h1]at h;rw[h.2.2];simp
 ·by_cases h2:k=2
  ·simp[h2]at h;rw[h.2.2];simp
  ·by_cases h3:k=3
   ·simp[h3]at h;rw[h.2.2];simp
   ·by_cases h4:k=4∨k=5
    ·simp[h1,h2,h3,h4]at h;rw[h.2.2];simp
    ·by_cases h6:k=6
     ·simp[h6]at h;rw[h.2];simp
     ·by_cases h7:k=7
      ·simp[h7]at h;exact(fP.1 h.2).1
      ·simp[h1,h2,h3,h4,h6,h7]at h
theorem nA (t:VT):bq t=(bi t.kind t.num t.text t.items.length t.names && dh t.items):=by
 cases t;unfold bq lR;rfl
theorem m0 : ∀ {l:List VT},(∀j (h:j<l.length),bq l[j]=true)→dh l=true
 | [],_=>by unfold dh;rfl
 |t::r,h=>by
  unfold dh;rw[Bool.and_eq_true]
  exact⟨h 0 (by simp),m0 fun j hj=>by
   have:=h (j+1) (by simpa using hj)
   rwa[List.getElem_cons_succ]at this⟩
theorem mS {ns:List ByteArray}(h: ∀j (h:j<ns.length),cD (ns[j]).data.toList=true):bB ns=true↔ns.Nodup:=by
 rw[fP]
 exact⟨fun h=>h.2,fun h2=>⟨fun s hs=>by
  obtain⟨j,hj,rfl⟩:=List.mem_iff_getElem.1 hs
  exact h j hj,h2⟩⟩
theorem tA {ns:List ByteArray}{r:Bool}(h:bB ns=true↔ns.Nodup)(hr:r=true↔ ¬ns.Nodup):bB ns= !r :=by
 cases r
 ·have:ns.Nodup:=Classical.byContradiction fun hn=>by have:=hr.2 hn;cases this
  rw[h.2 this];rfl
 ·have: ¬ns.Nodup:=hr.1 rfl;have:bB ns=false:=Bool.eq_false_iff.2 fun hd=>this (h.1 hd);rw[this];rfl
theorem yK (S:Nat→Prop): ∀(n:Nat) (t:VT) (v:Value) (w:World),ap t≤n→(∀b,S b→b<w.heap.size)→LV w S t v→
  Calls Tryz.prog 88 #[v] w fun e w'=>e= .returned (.bool (bq t))∧Below w.heap.size w w':=by
 intro n
 induction n with
 |zero=>intro t v w hd;cases t;rw[aL]at hd;omega
 |succ n ih=>
  intro t v w hd hS h;obtain⟨A,c,A',c',rfl,lens,a7,a6,v1,hb0⟩:=gt hS h;have LENS:=hid lens;have A7:=hid a7;have A6:=hid a6;have P0:=hid v1;have HB0:=hid hb0
  have HD:Hid (bd t.items≤n):=hid (by
   have hdt:ap t=bd t.items+1:=by cases t;exact aL _ _ _ _ _
   omega)
  have HR:=hid (nA t);generalize bq t=R at *;clear h lens a7 a6 v1 hb0 hd;go_enter Tryz.func88,Tryz.ntmps88;go_wp2_with fail
  go_loopw [3] (fun i wr=> ∃j:Nat,i= .int .i64 j∧j≤t.items.length∧Hid (∀x (_:x<t.items.length),x<j→bq t.items[x]=true)∧Hid (Below w.heap.size w wr)∧Hid (Vr wr S w.heap.size t A c A' c')) (fun i _=>t.items.length - (intOf i).toNat)
  case atStart=>exact⟨0,rfl,Nat.zero_le _,hid (fun _ _ h=>absurd h (Nat.not_lt_zero _)),HB0,P0⟩
  case round=>
   obtain⟨j,rfl,hj,HE,HB,P⟩:=hrel;have k3:=P.out.x.c3;have hl:=LENS.out.1;by_cases hlt:j<t.items.length
   ·obtain⟨p,o,A2,e2,A3,e3,rfl,hp,h0,h1,h2,h3,h4,hx⟩:=hY hS A7.out HB.out j hlt;have HC:=hid (ih t.items[j] _ wr (Nat.le_trans (bU (List.getElem_mem hlt)) HD.out) P.out.s hx);obtain⟨C,hC⟩: ∃C,C=bq t.items[j]:=⟨_,rfl⟩;rw[←hC]at HC;have HCC:=hid hC;clear hx hp hC;go_wp2_with fail;refine HC.out.mono ?_;rintro e w2 ⟨rfl,hb⟩;have P2:=hid (P.out.call hb);have HB2:=hid (aB HB.out hb);clear hb HC k3 h0 h1 h2 h3 h4 P HB P0 HB0;cases C
    ·have HF:Hid (R=false):=hid (by
      rw[HR.out,Bool.and_eq_false_iff];refine .inr (Bool.eq_false_iff.2 fun h=> ?_);have h1:=cA h (List.getElem_mem hlt)
      rw[←HCC.out]at h1;cases h1)
     go_wp2_with fail;go_ret;exact⟨aJ HF.out.symm,HB2.out⟩
    ·go_wp2_with fail
     go_roundw
     case rel=>exact⟨j+1,by go_num,by omega,hid (fun x hx hxj=>by
      by_cases e:x=j
      ·subst e;exact HCC.out.symm
      ·exact HE.out x hx (by omega)),HB2,P2⟩
     case measure=>simp[intOf];omega
   ·have HML:Hid (dh t.items=true):=hid (m0 fun x hx=>HE.out x hx (by omega));have HR2:Hid (R=bi t.kind t.num t.text t.items.length t.names):=hid (by rw[HR.out,HML.out,Bool.and_true]);clear HR HE HML P0 HB0;go_wp2_with fail;clear k3 hl hlt hj
    go_loopw [4] (fun i wr=> ∃m:Nat,i= .int .i64 m∧m≤t.names.length∧Hid (∀x (_:x<t.names.length),x<m→cD (t.names[x]).data.toList=true)∧Hid (Below w.heap.size w wr)∧Hid (Vr wr S w.heap.size t A c A' c')) (fun i _=>t.names.length - (intOf i).toNat)
    case atStart=>exact⟨0,rfl,Nat.zero_le _,hid (fun _ _ h=>absurd h (Nat.not_lt_zero _)),HB,P⟩
    case round=>
     rename_i wr0 _ _ wr;clear P HB;obtain⟨m,rfl,hm,HE,HB,P⟩:=hrel;have k4:=P.out.x.c4;have hl2:=LENS.out.2;by_cases hlt:m<t.names.length
     ·obtain⟨p,o,rfl,hp,t1,hsz⟩:=lN hS A6.out HB.out m hlt;obtain⟨s,hs⟩: ∃s,s=t.names[m]:=⟨_,rfl⟩;rw[←hs]at t1 hsz;have HS:=hid hs;have HSZ:=hid hsz;clear hp hs hsz;go_wp2_with fail;refine(oF s _ (by have:=HSZ.out;omega)).mono ?_;rintro e u ⟨rfl,rfl⟩;clear k4 t1;cases hC:cD s.data.toList
      ·have HF:Hid (R=false):=hid (by
        rw[HR2.out];refine Bool.eq_false_iff.2 fun h=> ?_;have h1:=tC h _ (List.getElem_mem hlt)
        rw[←HS.out,hC]at h1;cases h1)
       clear hC;go_wp2_with fail;go_ret;exact⟨aJ HF.out.symm,HB.out⟩
      ·have HC:=hid hC;clear hC;go_wp2_with fail
       go_roundw
       case rel=>exact⟨m+1,by go_num,by omega,hid (fun x hx hxj=>by
        by_cases e:x=m
        ·subst e;rw[←HS.out];exact HC.out
        ·exact HE.out x hx (by omega)),HB,P⟩
       case measure=>simp[intOf];omega
     ·have HD2:Hid (bB t.names=true↔t.names.Nodup):=hid (mS fun x hx=>HE.out x hx (by omega));have TW:=hid (uJ S A' c' t.names wr.drew (P.out.drew.s) ((A6.out.below hS HB.out).keep (fun _ _=>rfl)) LENS.out.2);clear HE hm;go_wp2_with fail;try simp only[List.append_eq,List.cons_append,List.nil_append]
      refine cw (by kernel_rfl) (by kernel_rfl) (fun _ d _ _ _ h=>by cases d<;>exact h) ?_;have q3:=aa (B:=wr.heap.size) (w:=wr.drew) P.out.x.c3 P.out.x.lt;have q4:=aa (B:=wr.heap.size) (w:=wr.drew) P.out.x.c4 P.out.x.lt;first|with_reducible refine ae ?_ |with_reducible refine ab ?_ |refine ae ?_ |refine ab ?_
      simp only[List.takeWhile,List.dropWhile,am,Nat.reduceBNe];repeat(go_big_quiet_step (fail))
      first|with_reducible refine wpQuiet_nil ?_ |refine wpQuiet_nil ?_
      unfold aI;clear q3 q4 k4 hlt;have HBF:=hid HB.out.drew;have P3:=hid P.out.drew;have hl:=LENS.out.1;clear P HB;generalize wr.drew=wq at *;have k0:=P3.out.x.c0;have k1:=P3.out.x.c1;have k2:=P3.out.x.c2;have k4:=P3.out.x.c4;clear P3;generalize t.kind=kd at *;generalize t.num=i at *;generalize t.text=s at *;generalize t.items.length=nl at *;by_cases h1:kd=1
      ·subst h1;have HF:Hid (R=(decide (i=0) && decide (s.toList= []) && (nl == 0 && t.names.length == 0))):=hid (by rw[HR2.out];unfold bi;simp);clear HR2;clear TW HD2;go_wp2_with fail
       all_goals
        go_ret;exact⟨dJ (by rw[HF.out];simp_all [bt,bR]<;>(intros;omega)),HBF.out⟩
      by_cases h2:kd=2
      ·subst h2;have HF:Hid (R=((decide (i=0) || decide (i=1)) && decide (s.toList= []) && (nl == 0 && t.names.length == 0))):=hid (by rw[HR2.out];unfold bi;simp);clear HR2 h1;clear TW HD2;go_wp2_with fail
       all_goals
        go_ret;exact⟨dJ (by rw[HF.out];simp_all [bt,bR]<;>(intros;omega)),HBF.out⟩
      by_cases h3:kd=3
      ·subst h3;have HF:Hid (R=(decide (s.toList= []) && (nl == 0 && t.names.length == 0))):=hid (by rw[HR2.out];unfold bi;simp);clear HR2 h1 h2;clear TW HD2;go_wp2_with fail
       all_goals
        go_ret;exact⟨dJ (by rw[HF.out];simp_all [bt,bR]<;>(intros;omega)),HBF.out⟩
      by_cases h4:kd=4
      ·subst h4;have HF:Hid (R=(decide (i=0) && (nl == 0 && t.names.length == 0))):=hid (by rw[HR2.out];unfold bi;simp);clear HR2 h1 h2 h3;clear TW HD2;go_wp2_with fail
       all_goals
        go_ret;exact⟨dJ (by rw[HF.out];simp_all [bt,bR]<;>(intros;omega)),HBF.out⟩
      by_cases h5:kd=5
      ·subst h5;have HF:Hid (R=(decide (i=0) && (nl == 0 && t.names.length == 0))):=hid (by rw[HR2.out];unfold bi;simp);clear HR2 h1 h2 h3 h4;clear TW HD2;go_wp2_with fail
       all_goals
        go_ret;exact⟨dJ (by rw[HF.out];simp_all [bt,bR]<;>(intros;omega)),HBF.out⟩
      by_cases h6:kd=6
      ·subst h6;have HF:Hid (R=(decide (i=0) && decide (s.toList= []) && t.names.length == 0)):=hid (by rw[HR2.out];unfold bi;simp);clear HR2 h1 h2 h3 h4 h5;clear TW HD2;go_wp2_with fail
       all_goals
        go_ret;exact⟨dJ (by rw[HF.out];simp_all [bt,bR]<;>(intros;omega)),HBF.out⟩
      by_cases h7:kd=7
      ·subst h7;have HF:Hid (R=(decide (i=0) && decide (s.toList= []) && t.names.length == nl && bB t.names)):=hid (by rw[HR2.out];unfold bi;simp);clear HR2 h1 h2 h3 h4 h5 h6;by_cases hn:t.names.length=nl
       ·have en:((t.names.length:Int) == (nl:Int))=true:=beq_iff_eq.2 (by omega);have HF:Hid (R=(decide (i=0) && decide (s.toList= []) && bB t.names)):=hid (by rw[HF.out];simp[hn]);clear hn;go_wp2_with(go_at_call 120;refine TW.out.mono ?_;rintro e w' ⟨⟨r,rfl,hr⟩,hb⟩;have hdr:=hid (tA HD2.out hr);have hbf:=hid (aB HBF.out hb);clear hr hb)
        all_goals
         go_ret
         first
          |exact⟨dJ (by rw[HF.out,hdr.out];simp_all [bt,bR]),hbf.out⟩
          |exact⟨dJ (by rw[HF.out];simp_all [bt,bR]),HBF.out⟩
       ·have en:((t.names.length:Int) == (nl:Int))=false:=beq_eq_false_iff_ne.2 (by omega);have HF:Hid (R=false):=hid (by rw[HF.out];simp[hn]);clear hn TW HD2;go_wp2_with fail
        all_goals
         go_ret;exact⟨dJ HF.out.symm,HBF.out⟩
      have HF:Hid (R=false):=hid (by rw[HR2.out];unfold bi;simp[h1,h2,h3,h4,h5,h6,h7]);have b1:(kd == 1)=false:=beq_eq_false_iff_ne.2 h1;have b2:(kd == 2)=false:=beq_eq_false_iff_ne.2 h2;have b3:(kd == 3)=false:=beq_eq_false_iff_ne.2 h3;have b4:(kd == 4)=false:=beq_eq_false_iff_ne.2 h4;have b5:(kd == 5)=false:=beq_eq_false_iff_ne.2 h5;have b6:(kd == 6)=false:=beq_eq_false_iff_ne.2 h6;have b7:(kd == 7)=false:=beq_eq_false_iff_ne.2 h7;clear HR2 TW HD2 h1 h2 h3 h4 h5 h6 h7;go_wp2_with fail;go_ret;exact⟨aJ HF.out.symm,HBF.out⟩
section
variable {u :World} {S:Nat→Prop} {g g':Nat} {t t':VT} {A B:Option Addr} {c d:Nat} {A' B':Option Addr} {c' d':Nat}
theorem Vr.rmay (h:Vr u S g t A c A' c'){x:Bool}(hx:x=bq t):Calls Tryz.prog 88 #[.agg #[.int .i64 t.kind,.int .i64 t.num,.string t.text,.slice A t.items.length c,.slice A' t.names.length c']] u fun e u'=>e= .returned (.bool x)∧Below u.heap.size u u':=
 (yK S (ap t) t _ u (Nat.le_refl _) h.s h.v).mono fun _ _ h'=>⟨by rw[h'.1,hx],h'.2⟩
end
section
variable {u :World} {S:Nat→Prop} {g g':Nat} {t t':VT} {A B:Option Addr} {c d:Nat} {A' B':Option Addr} {c' d':Nat}
end
theorem mG {l:List VT}{j:Nat}(h:j<l.length):cq (l.drop j)=aM l[j]+cq (l.drop (j+1)):=by
 rw[List.drop_eq_getElem_cons h];conv=>lhs;unfold cq
theorem rS (a b c:Int):wrap64 (wrap64 a+wrap64 b+c)=wrap64 (a+b+c):=by unfold wrap64;omega
theorem dA :cq []=0:=by unfold cq;rfl
theorem uT {ns:List ByteArray}{j:Nat}(h:j<ns.length):eB (ns.drop j)=tsz ns[j]+eB (ns.drop (j+1)):=by
 rw[List.drop_eq_getElem_cons h];simp only[eB,List.map_cons,List.sum_cons]
theorem xz :eB []=0:=rfl
theorem wM (t:VT):aM t=dE t.kind t.num t.text t.items.length t.names+cq t.items:=by cases t;unfold aM;rfl
theorem lL (s:ByteArray):(txt s).length=tsz s:=by unfold txt tsz;simp
theorem uX {k i:Int}{s:ByteArray}{n:Nat}{ns:List ByteArray}(h:bi k i s n ns=true):(k=1∨k=2∨k=3∨k=4∨k=5∨k=6∨k=7)∧(k≤5→n=0)∧(k=7→ns.length=n):=by
 unfold bi at h;by_cases h1:k=1
 ·simp[h1]at h;omega
 ·by_cases h2:k=2
  ·simp[h2]at h;omega
  ·by_cases h3:k=3
   ·simp[h3]at h;omega
   ·by_cases h4:k=4∨k=5
    ·simp[h1,h2,h3,h4]at h;omega
    ·by_cases h6:k=6
     ·simp[h6]at h;omega
     ·by_cases h7:k=7
      ·simp[h7]at h;omega
      ·simp[h1,h2,h3,h4,h6,h7]at h
theorem wh (S:Nat→Prop): ∀(n:Nat) (t:VT) (v:Value) (w:World),ap t≤n→bq t=true→(∀b,S b→b<w.heap.size)→LV w S t v→
  Calls Tryz.prog 90 #[v] w fun e w'=>e= .returned (.int .i64 (wrap64 (aM t)))∧Below w.heap.size w w':=by
 intro n
 induction n with
 |zero=>intro t v w hd;cases t;rw[aL]at hd;omega
 |succ n ih=>
  intro t v w hd hm hS h;have hrn:=h.shape;obtain⟨A,c,A',c',rfl,lens,a7,a6,v1,hb0⟩:=gt hS h;obtain⟨_,_,_,_,-,-,hri,hrs,-⟩:=hrn;have hm2:=nA t;rw[hm]at hm2;have hm3:=(Bool.and_eq_true _ _).mp hm2.symm;obtain⟨hk,hk5,hk7⟩:=uX hm3.1;have hml:=hm3.2
  have hdl:bd t.items≤n:=by
   have hdt:ap t=bd t.items+1:=by cases t;exact aL _ _ _ _ _
   omega
  have hz:=wM t;obtain⟨Z,hZ⟩: ∃Z,Z=aM t:=⟨_,rfl⟩;rw[←hZ]at hz ⊢;clear hm2 hm3 hZ hd hm h
  cases t with
  |mk kd num txs its nms=>
  simp only[VT.kind,VT.num,VT.text,VT.items,VT.names]at *;have HML:=hid hml;have HRI:=hid hri;have HRS:=hid hrs;have HK5:=hid hk5;have HK7:=hid hk7;have LENS:=hid lens;have A7:=hid a7;have A6:=hid a6;have P0:=hid v1;have HB0:=hid hb0;have HD:=hid hdl;have HZ:=hid hz;have hl:=LENS.out.1;clear lens a7 a6 v1 hb0 hk5 hk7 hri hrs hz hdl hml;have HKC:=hid hk;clear hk;go_enter Tryz.func90,Tryz.ntmps90;rcases HKC.out with rfl|rfl|rfl|rfl|rfl|rfl|rfl
  ·have HL0:Hid (its= []):=hid (List.eq_nil_of_length_eq_zero (HK5.out (by decide)));have HZ2:Hid ((1:Int)+((cq (its.drop 0):Nat):Int)=Z):=hid (by rw[HZ.out];unfold dE;simp);go_wp2_with fail;skip
   go_loopw [3,4] (fun n i wr=> ∃(j:Nat) (m:Int),n= .int .i64 (wrap64 m)∧i= .int .i64 j∧j≤its.length∧Hid (m+((cq (its.drop j):Nat):Int)=Z)∧Hid (Below w.heap.size w wr)∧Hid (Vr wr S w.heap.size (.mk 1 num txs its nms) A c A' c')) (fun _ i _=>its.length - (intOf i).toNat)
   case atStart=>exact⟨0,1,by rw[ch (by omega) (by omega)],rfl,Nat.zero_le _,HZ2,HB0,P0⟩
   case round=>
    obtain⟨j,m,rfl,rfl,hj,HI,HB,P⟩:=hrel;clear P0 HB0;have k3:wr.cell? ⟨w.heap.size,3,none⟩=some (.slice A its.length c):=P.out.x.c3;by_cases hlt:j<its.length
    ·exfalso;rw[HL0.out]at hlt;simp at hlt
    ·have HF:Hid (m=Z):=hid (by
      have h:=HI.out;rw[List.drop_eq_nil_of_le (by omega:its.length≤j),dA]at h
      omega)
     go_wp2_with fail;go_ret;exact⟨aH (by rw[HF.out]),HB.out⟩
  ·have HL0:Hid (its= []):=hid (List.eq_nil_of_length_eq_zero (HK5.out (by decide)));have HF:Hid (wrap64 Z=2):=hid (by rw[HZ.out,HL0.out,dA];unfold dE;simp;rw[ch (by omega) (by omega)]);go_wp2_with fail;go_ret;exact⟨aH HF.out.symm,HB0.out⟩
  ·have HL0:Hid (its= []):=hid (List.eq_nil_of_length_eq_zero (HK5.out (by decide)));have hg:=(ak (zig num)).1;have HF:Hid (wrap64 Z=1+((grp (zig num)).length:Int)):=hid (by rw[HZ.out,HL0.out,dA];unfold dE;simp;rw[ch (by omega) (by omega)]);go_wp2_with fail;refine(qS num _ HRI.out.1 HRI.out.2).mono ?_;rintro e w1 ⟨v,rfl,hv,hb⟩;obtain⟨A2,c2,rfl⟩:=hv.slice;have HB:=hid (aB HB0.out hb);clear hv hb;go_wp2_with fail;go_ret;exact⟨aH HF.out.symm,HB.out⟩
  ·have HL0:Hid (its= []):=hid (List.eq_nil_of_length_eq_zero (HK5.out (by decide)));have hg:=mJ txs HRS.out;have HTL:=lL txs;have HF:Hid (wrap64 Z=1+((txt txs).length:Int)):=hid (by rw[HTL,HZ.out,HL0.out,dA];unfold dE;simp;rw[ch (by omega) (by omega)]);have hg2:(txt txs).length≤140737488351300:=by omega
   clear hg HTL;go_wp2_with fail;refine(dV txs _ HRS.out).mono ?_;rintro e w1 ⟨v,rfl,hv,hb⟩;obtain⟨A2,c2,rfl⟩:=hv.slice;have HB:=hid (aB HB0.out hb);clear hv hb;go_wp2_with fail;go_ret;exact⟨aH HF.out.symm,HB.out⟩
  ·have HL0:Hid (its= []):=hid (List.eq_nil_of_length_eq_zero (HK5.out (by decide)));have hg:=mJ txs HRS.out;have HTL:=lL txs;have HF:Hid (wrap64 Z=1+((txt txs).length:Int)):=hid (by rw[HTL,HZ.out,HL0.out,dA];unfold dE;simp;rw[ch (by omega) (by omega)]);have hg2:(txt txs).length≤140737488351300:=by omega
   clear hg HTL;go_wp2_with fail;refine(dV txs _ HRS.out).mono ?_;rintro e w1 ⟨v,rfl,hv,hb⟩;obtain⟨A2,c2,rfl⟩:=hv.slice;have HB:=hid (aB HB0.out hb);clear hv hb;go_wp2_with fail;go_ret;exact⟨aH HF.out.symm,HB.out⟩
  ·have hg:=(ak its.length).1;have HZ2:Hid ((1+((grp its.length).length:Int))+((cq (its.drop 0):Nat):Int)=Z):=hid (by rw[HZ.out];unfold dE;simp<;>omega);go_wp2_with fail;refine(bH its.length _ (by omega)).mono ?_;rintro e w1 ⟨v,rfl,hv,hb⟩;obtain⟨A2,c2,rfl⟩:=hv.slice;have P0:=hid (P0.out.call hb);have HB0:=hid (aB HB0.out hb);clear hv hb;go_wp2_with fail
   go_loopw [3,4] (fun n i wr=> ∃(j:Nat) (m:Int),n= .int .i64 (wrap64 m)∧i= .int .i64 j∧j≤its.length∧Hid (m+((cq (its.drop j):Nat):Int)=Z)∧Hid (Below w.heap.size w wr)∧Hid (Vr wr S w.heap.size (.mk 6 num txs its nms) A c A' c')) (fun _ i _=>its.length - (intOf i).toNat)
   case atStart=>exact⟨0,1+((grp its.length).length:Int),by rw[ch (by omega) (by omega)],rfl,Nat.zero_le _,HZ2,HB0,P0⟩
   case round=>
    obtain⟨j,m,rfl,rfl,hj,HI,HB,P⟩:=hrel;clear P0 HB0;have k3:wr.cell? ⟨w.heap.size,3,none⟩=some (.slice A its.length c):=P.out.x.c3;by_cases hlt:j<its.length
    ·obtain⟨p,o,A2,e2,A3,e3,rfl,hp,h0,h1,h2,h3,h4,hx⟩:=hY hS A7.out HB.out j hlt;have HC:=hid (ih its[j] _ wr (Nat.le_trans (bU (List.getElem_mem hlt)) HD.out) (cA HML.out (List.getElem_mem hlt)) P.out.s hx);have HI2:Hid (m+aM its[j]+((cq (its.drop (j+1)):Nat):Int)=Z):=hid (by rw[←HI.out,mG hlt];omega);generalize aM its[j]=C at *;clear hx hp HI;go_wp2_with fail;refine HC.out.mono ?_;rintro e w2 ⟨rfl,hb⟩;have P2:=hid (P.out.call hb);have HB2:=hid (aB HB.out hb);clear hb HC k3 h0 h1 h2 h3 h4 P HB;have k0:w2.cell? ⟨w.heap.size,0,none⟩=some (.int .i64 6):=P2.out.x.c0;go_wp2_with fail;clear k0
     go_roundw
     case rel=>exact⟨j+1,m+C,by rw[eT,lj],by go_num,by omega,HI2,HB2,P2⟩
     case measure=>simp[intOf];omega
    ·have HF:Hid (m=Z):=hid (by
      have h:=HI.out;rw[List.drop_eq_nil_of_le (by omega:its.length≤j),dA]at h
      omega)
     go_wp2_with fail;go_ret;exact⟨aH (by rw[HF.out]),HB.out⟩
  ·have hg:=(ak its.length).1;have HZ2:Hid ((1+((grp its.length).length:Int))+((cq (its.drop 0)+eB (nms.drop 0):Nat):Int)=Z):=hid (by rw[HZ.out];unfold dE;simp<;>omega);go_wp2_with fail;refine(bH its.length _ (by omega)).mono ?_;rintro e w1 ⟨v,rfl,hv,hb⟩;obtain⟨A2,c2,rfl⟩:=hv.slice;have P0:=hid (P0.out.call hb);have HB0:=hid (aB HB0.out hb);clear hv hb;go_wp2_with fail
   go_loopw [3,4] (fun n i wr=> ∃(j:Nat) (m:Int),n= .int .i64 (wrap64 m)∧i= .int .i64 j∧j≤its.length∧Hid (m+((cq (its.drop j)+eB (nms.drop j):Nat):Int)=Z)∧Hid (Below w.heap.size w wr)∧Hid (Vr wr S w.heap.size (.mk 7 num txs its nms) A c A' c')) (fun _ i _=>its.length - (intOf i).toNat)
   case atStart=>exact⟨0,1+((grp its.length).length:Int),by rw[ch (by omega) (by omega)],rfl,Nat.zero_le _,HZ2,HB0,P0⟩
   case round=>
    obtain⟨j,m,rfl,rfl,hj,HI,HB,P⟩:=hrel;clear P0 HB0;have k3:wr.cell? ⟨w.heap.size,3,none⟩=some (.slice A its.length c):=P.out.x.c3;by_cases hlt:j<its.length
    ·obtain⟨p,o,A2,e2,A3,e3,rfl,hp,h0,h1,h2,h3,h4,hx⟩:=hY hS A7.out HB.out j hlt;have HC:=hid (ih its[j] _ wr (Nat.le_trans (bU (List.getElem_mem hlt)) HD.out) (cA HML.out (List.getElem_mem hlt)) P.out.s hx);have ia:j<nms.length:=by have:=HK7.out (by simp);omega
     have HI2:Hid (m+aM its[j]+tsz nms[j]+((cq (its.drop (j+1))+eB (nms.drop (j+1)):Nat):Int)=Z):=hid (by rw[←HI.out,mG hlt,uT ia];omega);generalize aM its[j]=C at *;clear hx hp HI;go_wp2_with fail;refine HC.out.mono ?_;rintro e w2 ⟨rfl,hb⟩;have P2:=hid (P.out.call hb);have HB2:=hid (aB HB.out hb);clear hb HC k3 h0 h1 h2 h3 h4 P HB;have k0:w2.cell? ⟨w.heap.size,0,none⟩=some (.int .i64 7):=P2.out.x.c0;obtain⟨p',o',rfl,hp,t1,hsz⟩:=lN hS A6.out HB2.out j ia;have k4:w2.cell? ⟨w.heap.size,4,none⟩=some (.slice (some ⟨p',o',none⟩) nms.length c'):=P2.out.x.c4;have hl2:=LENS.out.2;obtain⟨sn,hs⟩: ∃s,s=nms[j]:=⟨_,rfl⟩;rw[←hs]at t1 hsz HI2;have HSZ:=hid hsz;clear hp hs hsz;go_wp2_with fail;refine(dV sn _ HSZ.out).mono ?_;rintro e w3 ⟨v,rfl,hv,hb⟩;obtain⟨A9,c9,rfl⟩:=hv.slice;have P3:=hid (P2.out.call hb);have HB3:=hid (aB HB2.out hb);have HTL:=hid (lL sn);clear hv hb k4 t1 P2 HB2 k0;go_wp2_with fail
     go_roundw
     case rel=>exact⟨j+1,m+C+tsz sn,by rw[HTL.out,eT,rS],by go_num,by omega,HI2,HB3,P3⟩
     case measure=>simp[intOf];omega
    ·have HF:Hid (m=Z):=hid (by
      have hne:nms.length≤j:=by have:=HK7.out (by simp);omega
      have h:=HI.out;rw[List.drop_eq_nil_of_le (by omega:its.length≤j),dA,List.drop_eq_nil_of_le hne,xz]at h
      omega)
     go_wp2_with fail;go_ret;exact⟨aH (by rw[HF.out]),HB.out⟩
theorem jG (S:Nat→Prop)(t:VT)(v:Value)(w:World)(hd:ap t≤4611686018427387903)(hS: ∀b,S b→b<w.heap.size)(h:LV w S t v):
  Calls Tryz.prog 54 #[v] w fun e w'=>e= .returned (.int .i64 (ba t))∧Below w.heap.size w w':=by
 obtain⟨A,c,A',c',rfl,-,-,-,v1,hb0⟩:=gt hS h;have P:=hid v1;have HB:=hid hb0;have HR:Hid (ba t=if bq t=true then(if 8<(ap t:Int)then 21 else if 4096<wrap64 (aM t)then 22 else 0)else 20):=hid rfl;obtain⟨R,hR⟩: ∃R,R=ba t:=⟨_,rfl⟩;rw[←hR]at HR ⊢;obtain⟨x,hx⟩: ∃x,x=bq t:=⟨_,rfl⟩;rw[←hx]at HR;have HX:=hid hx;have HD:=hid hd;clear h v1 hb0 hR hx hd;go_enter Tryz.func54,Tryz.ntmps54;go_wp2_with fail;refine(P.out.rmay HX.out).mono ?_;rintro e w1 ⟨rfl,hb⟩;have P1:=hid (P.out.call hb);have HB1:=hid (aB HB.out hb);clear hb P HB;cases x
 ·have HF:Hid (R=20):=hid (by rw[HR.out];simp);clear HR HX P1;go_wp2_with fail;go_ret;exact⟨aH HF.out.symm,HB1.out⟩
 ·have HR2:Hid (R=if 8<(ap t:Int)then 21 else if 4096<wrap64 (aM t)then 22 else 0):=hid (by rw[HR.out];simp);have HDC:=hid (tk S 4611686018427387903 t _ w1 HD.out (Nat.le_refl _) P1.out.s P1.out.v);have q0:=P1.out.x.c0;have q1:=P1.out.x.c1;have q2:=P1.out.x.c2;have q3:=P1.out.x.c3;have q4:=P1.out.x.c4;clear HR;go_wp2_with fail;refine HDC.out.mono ?_;rintro e w2 ⟨rfl,hb⟩;have P2:=hid (P1.out.call hb);have HB2:=hid (aB HB1.out hb);clear hb P1 HB1 HDC q0 q1 q2 q3 q4;by_cases h8:8<(ap t:Int)
  ·have HF:Hid (R=21):=hid (by rw[HR2.out,if_pos h8]);clear HR2 HX P2;go_wp2_with fail;go_ret;exact⟨aH HF.out.symm,HB2.out⟩
  ·have HR3:Hid (R=if 4096<wrap64 (aM t)then 22 else 0):=hid (by rw[HR2.out,if_neg h8]);have HSC:=hid (wh S (ap t) t _ w2 (Nat.le_refl _) HX.out.symm P2.out.s P2.out.v);have q0:=P2.out.x.c0;have q1:=P2.out.x.c1;have q2:=P2.out.x.c2;have q3:=P2.out.x.c3;have q4:=P2.out.x.c4;clear HR2 HX;go_wp2_with fail;refine HSC.out.mono ?_;rintro e w3 ⟨rfl,hb⟩;have HB3:=hid (aB HB2.out hb);clear hb P2 HB2 HSC q0 q1 q2 q3 q4 h8;generalize wrap64 (aM t)=C at *;by_cases hz:4096<C
   ·have HF:Hid (R=22):=hid (by rw[HR3.out,if_pos hz]);clear HR3;go_wp2_with fail;go_ret;exact⟨aH HF.out.symm,HB3.out⟩
   ·have HF:Hid (R=0):=hid (by rw[HR3.out,if_neg hz]);clear HR3;go_wp2_with fail;go_ret;exact⟨aH HF.out.symm,HB3.out⟩
theorem AV :(18446744073709551615:Int)=((18446744073709551615:Nat):Int):=rfl
theorem wZ (most:Nat)(st:Option (List UInt8)):(rdN most st).1<18446744073709551616:=by
 cases st with
 |none=>simp[rdN]
 |some l=>
  simp only[rdN]
  split
  ·simp
  ·exact tQ _ 0 0 (by decide) (by omega)
theorem te (most:Nat)(st:Option (List UInt8)):(rdN most st).1≤most:=by
 cases st with
 |none=>simp[rdN]
 |some l=>
  simp only[rdN]
  split
  ·simp
  ·simp only[];omega
theorem xQ (g:Nat)(st:Option (List UInt8))(w:World)(h:aK w g st):
  Calls Tryz.prog 184 #[.pointer (some ⟨g,0,none⟩)] w fun e w'=>e= .returned (.int .i64 (fp st).1)∧aK w' g (fp st).2∧az w w' g:=by
 have H:=hid h;clear h;go_enter Tryz.func184,Tryz.ntmps184;go_wp2_with fail;refine(jP g st _ 18446744073709551615 _ H.out AV).mono ?_;rintro e w1 ⟨rfl,hs,ho⟩;have HS:=hid hs;have HO:=hid ho;clear hs ho;go_wp2_with fail;refine(tm _ _ (wZ _ _)).mono ?_;rintro e w2 ⟨rfl,rfl⟩;go_wp2_with fail;go_ret;exact⟨rfl,HS.out,HO.out⟩
theorem cy (g:Nat)(st:Option (List UInt8))(n:Int)(w:World)(h:aK w g st)(h2:n≤9223372036854775807):
  Calls Tryz.prog 69 #[.pointer (some ⟨g,0,none⟩),.int .i64 n] w fun e w'=>e= .returned (.int .i64 (ah n st).1)∧aK w' g (ah n st).2∧az w w' g:=by
 have H:=hid h;clear h;by_cases h0:n<0
 ·have HR:Hid (ah n st=(0,none)):=by unfold ah;rw[if_pos h0];exact rfl
  clear h2
  obtain⟨s,b,hs⟩: ∃s b,Src w g s b:=by
   cases st with
   |none=>exact⟨_,_,H.out⟩
   |some l=>exact⟨_,_,H.out.1⟩
  have HS:=hid hs;clear hs;go_enter Tryz.func69,Tryz.ntmps69;go_wp2_with fail;refine(ky g s b _ HS.out).mono ?_;rintro e w1 ⟨rfl,hs1,ho⟩;go_wp2_with fail;go_ret;rw[HR.out];exact⟨rfl,hs1,ho⟩
 ·have HR:Hid (ah n st=rdN (mc n) st):=by unfold ah;rw[if_neg h0];exact rfl
  have hm2:mc n≤4611686018427387904:=by unfold mc;split<;>omega
  have hle:=te (mc n) st;have hle2:(((rdN (mc n) st).1:Nat):Int)≤4611686018427387904:=by omega
  by_cases h3:n≤4611686018427387904
  ·have HM:Hid (n=(mc n:Int)):=by show n=(mc n:Int);unfold mc;rw[if_pos h3];omega
   clear hle hm2;go_enter Tryz.func69,Tryz.ntmps69;go_wp2_with fail
   all_goals
    refine(jP g st _ (mc n) _ H.out (by have:=HM.out;omega)).mono ?_;rintro e w1 ⟨rfl,hs,ho⟩;go_wp2_with fail;go_ret;rw[HR.out];exact⟨rfl,hs,ho⟩
  ·have HM:Hid ((4611686018427387904:Int)=(mc n:Int)):=by show(4611686018427387904:Int)=(mc n:Int);unfold mc;rw[if_neg h3];rfl
   clear hle hm2;go_enter Tryz.func69,Tryz.ntmps69;go_wp2_with fail
   all_goals
    refine(jP g st _ (mc n) _ H.out HM.out).mono ?_;rintro e w1 ⟨rfl,hs,ho⟩;go_wp2_with fail;go_ret;rw[HR.out];exact⟨rfl,hs,ho⟩
theorem oO (s:ByteArray)(h:0<s.size):s.toList.isEmpty=false∧s.toList≠[]:=by
 have hl:s.toList.length=s.size:=by rw[ByteArray.toList_eq s];simp
 have hne:s.toList≠[]:=by intro e;rw[e]at hl;simp at hl;omega
 exact⟨by cases hh:s.toList with
  |nil=>exact absurd hh hne
  |cons a r=>rfl,hne⟩
theorem j5 (s:ByteArray)(h:s.size=0):s.toList.isEmpty=true∧s.toList= []:=by
 have hl:s.toList.length=s.size:=by rw[ByteArray.toList_eq s];simp
 have hne:s.toList= []:=List.eq_nil_of_length_eq_zero (by omega);exact⟨by rw[hne];rfl,hne⟩
theorem tE (s:ByteArray)(w:World)(B:Nat)(hp:0<s.size)(hx:bk w B (.int .i64 0)):
  Calls Tryz.prog 104 #[.string s,.pointer (some ⟨B,0,none⟩)] w fun e w'=>e= .returned (.int .i64 1)∧w'=w.setCell ⟨B,0,none⟩ (.int .i64 (s[0].toNat:Int)):=by
 have c1:=hx.1;have f1:=hx.2.1;have hn1:=(oO s hp).1;have hn2:=(oO s hp).2;have hb:(s[0].toNat:Int)<256:=by have:=UInt8.toNat_lt s[0];omega
 clear hx;go_enter Tryz.func104,Tryz.ntmps104;go_wp2;go_ret;exact⟨rfl,rfl⟩
theorem tp (s:ByteArray)(w:World)(p:Value)(hp:s.size=0):
  Calls Tryz.prog 104 #[.string s,p] w fun e w'=>e= .returned (.int .i64 0)∧w'=w:=by
 have hn1:=(j5 s hp).1;have hn2:=(j5 s hp).2;clear hp;go_enter Tryz.func104,Tryz.ntmps104;go_wp2;go_ret;exact⟨rfl,rfl⟩
theorem eU (g:Nat)(st:Option (List UInt8))(w:World)(h:aK w g st):
  Calls Tryz.prog 68 #[.pointer (some ⟨g,0,none⟩)] w fun e w'=>e= .returned (.int .i64 (al st).1)∧aK w' g (al st).2∧az w w' g:=by
 have HX:bk (w.alloc (.cells #[.int .i64 0] 3)) w.heap.size (.int .i64 0):=bk.new w _ _;have H1:=h.alloc (.cells #[.int .i64 0] 3);have hlt:=h.lt;have HO:az w (w.alloc (.cells #[.int .i64 0] 3)) g:=(az.refl w g).alloc _;have HX:=hid HX;have H1:=hid H1;have HO:=hid HO;clear h;rcases st with _|l
 ·go_enter Tryz.func68,Tryz.ntmps68;go_wp2_with(go_at_call 103;refine(mu _ g _ _ H1.out).mono ?_;rintro e w' ⟨rfl,rfl⟩);go_ret;exact⟨rfl,H1.out,HO.out⟩
 ·rcases l with _|⟨b,r⟩
  ·go_enter Tryz.func68,Tryz.ntmps68;go_wp2_with fail;refine(gO 104 #[.pointer (some ⟨w.heap.size,0,none⟩)] g _ 0 _ (fun w1=>bk w1 w.heap.size (.int .i64 0)∧az w w1 g) H1.out.1 (Nat.zero_le _) (by rw[dT];simp) lp ?_).mono ?_
   ·refine(tp _ _ _ (by rw[dT];rfl)).mono ?_;rintro e w' ⟨rfl,rfl⟩;exact⟨rfl,H1.out.1,HX.out,HO.out⟩
   ·rintro e w' ⟨rfl,w1,⟨hn,ho⟩,hmv⟩;have hn':=hn.only hmv.1 (by omega);have hc:=hn'.1;have HF:Hid (aK w' g none∧az w w' g):=⟨hmv.2.1 rfl,ho.trans hmv.1⟩;clear hn hn' hmv ho;go_wp2_with fail;go_ret;exact⟨rfl,HF.out.1,HF.out.2⟩
  ·go_enter Tryz.func68,Tryz.ntmps68;go_wp2_with fail;refine(gO 104 #[.pointer (some ⟨w.heap.size,0,none⟩)] g _ 1 _ (fun w1=>bk w1 w.heap.size (.int .i64 b.toNat)∧az w w1 g) H1.out.1 (by rw[dT];simp) (by rw[dT];have:=H1.out.2;omega) lp ?_).mono ?_
   ·refine(tE _ _ w.heap.size (by rw[dT];simp) HX.out).mono ?_;rintro e w' ⟨rfl,rfl⟩;exact⟨rfl,H1.out.1.far (by simp;omega) _,HX.out.set _,HO.out.setNew (by simp) _⟩
   ·rintro e w' ⟨rfl,w1,⟨hn,ho⟩,hmv⟩;have hn':=hn.only hmv.1 (by omega);have hc:=hn'.1
    have HF:Hid (aK w' g (some r)∧az w w' g):=by
     refine⟨⟨?_,?_⟩,ho.trans hmv.1⟩
     ·have h2:=hmv.2.2 (by omega);rw[ik]at h2;exact h2
     ·have:=H1.out.2;simp at this;omega
    clear hn hn' hmv ho;go_wp2_with fail;go_ret;exact⟨rfl,HF.out.1,HF.out.2⟩
/-! Texts. -/
theorem sD (s:ByteArray)(n:Nat)(w:World)(Bn Bt:Nat)(hp:n≤s.size)(hs:(s.size:Int)≤9223372036854775807)(hn:bk w Bn (.int .i64 n))(hx:bk w Bt (.string ByteArray.empty))(hne:Bn≠Bt):
  Calls Tryz.prog 108 #[.string s,.pointer (some ⟨Bn,0,none⟩),.pointer (some ⟨Bt,0,none⟩)] w fun e w'=>e= .returned (.int .i64 n)∧w'=w.setCell ⟨Bt,0,none⟩ (.string (s.extract 0 n)):=by
 have c1:=hn.1;have c2:=hx.1;have f2:=hx.2.1;have c3:=(hn.far (p:=⟨Bt,0,none⟩) hne (.string (s.extract 0 n))).1;clear hx hn;go_enter Tryz.func108,Tryz.ntmps108;go_wp2;go_ret;exact⟨rfl,rfl⟩
theorem sg (s:ByteArray)(n:Nat)(w:World)(Bn:Nat)(p:Value)(hp:s.size<n)(hn:bk w Bn (.int .i64 n)):
  Calls Tryz.prog 108 #[.string s,.pointer (some ⟨Bn,0,none⟩),p] w fun e w'=>e= .returned (.int .i64 0)∧w'=w:=by
 have c1:=hn.1;clear hn;go_enter Tryz.func108,Tryz.ntmps108;go_wp2;go_ret;exact⟨rfl,rfl⟩
theorem pq (l:List UInt8)(n:Nat):(⟨l.toArray⟩:ByteArray).extract 0 n=⟨(l.take n).toArray⟩:=by
 have h:=Lib.extract_data (⟨l.toArray⟩:ByteArray) 0 n
 have e:((⟨l.toArray⟩:ByteArray).extract 0 n).data.toList=l.take n:=by
  rw[h];simp
 rw[←Go.Joins.bytes_eta ((⟨l.toArray⟩:ByteArray).extract 0 n),e]
theorem db (g:Nat)(st:Option (List UInt8))(n:Int)(w:World)(h:aK w g st)(h2:n≤9223372036854775807):
  Calls Tryz.prog 73 #[.pointer (some ⟨g,0,none⟩),.int .i64 n] w fun e w'=>e= .returned (.string ⟨(ar n st).1.toArray⟩)∧aK w' g (ar n st).2∧az w w' g:=by
 have H:=hid h;have hlt:=h.lt;have H2:=hid h2;obtain⟨m,st1,hc⟩: ∃m st1,ah n st=(m,st1):=⟨_,_,rfl⟩
 have hm:m≤4611686018427387904:=by
  have e:m=(ah n st).1:=by rw[hc]
  rw[e];unfold ah
  split
  ·simp
  ·have:=te (mc n) st;have h3:mc n≤4611686018427387904:=by unfold mc;split<;>omega
   omega
 have HC:=hid hc;have HM:=hid hm;clear h h2 hc hm;go_enter Tryz.func73,Tryz.ntmps73;go_wp2_with fail;refine(cy g st n _ H.out H2.out).mono ?_;rw[HC.out];rintro e w1 ⟨rfl,hs1,ho1⟩;have hsz:=ho1.size;have hg1:=hs1.lt;by_cases h0:m=0
 ·subst h0;have HR:Hid (ar n st=([],st1)):=by unfold ar;rw[HC.out,if_pos rfl];exact rfl
  have HS:=hid hs1;have HO:=hid ho1;clear hs1 ho1;go_wp2_with fail;go_ret;rw[HR.out];exact⟨rfl,HS.out.alloc _,HO.out.alloc _⟩
 ·have hz:((m:Int) == 0)=false:=by simp;omega
  have hn1:bk ((w1.alloc (.cells #[.int .i64 m] 3)).alloc (.cells #[.string ByteArray.empty] 9)) w1.heap.size (.int .i64 m):=(bk.new w1 _ _).alloc _
  have hx1:bk ((w1.alloc (.cells #[.int .i64 m] 3)).alloc (.cells #[.string ByteArray.empty] 9)) (w1.heap.size+1) (.string ByteArray.empty):=by
   have:=bk.new (w1.alloc (.cells #[.int .i64 m] 3)) (.string ByteArray.empty) 9;simpa using this
  have hs2:=(hs1.alloc (.cells #[.int .i64 m] 3)).alloc (.cells #[.string ByteArray.empty] 9);have ho2:az w ((w1.alloc (.cells #[.int .i64 m] 3)).alloc (.cells #[.string ByteArray.empty] 9)) g:=(ho1.alloc _).alloc _;have HN:=hid hn1;have HX:=hid hx1;have HS:=hid hs2;have HO:=hid ho2;clear hn1 hx1 hs2 ho2 hs1 ho1;rcases st1 with _|r
  ·have HR:Hid (ar n st=([],none)):=by unfold ar;rw[HC.out,if_neg h0];exact rfl
   go_wp2_with fail;refine(mu _ g _ _ HS.out).mono ?_;rintro e w' ⟨rfl,rfl⟩;have hc:=HX.out.1;go_wp2_with fail;go_ret;rw[HR.out];exact⟨rfl,HS.out,HO.out⟩
  ·have hrl:=HS.out.2;by_cases hl:r.length<m
   ·have HR:Hid (ar n st=([],none)):=by unfold ar;rw[HC.out,if_neg h0];show(if r.length<m then _ else _)=_;rw[if_pos hl]
    go_wp2_with fail;refine(gO 108 #[.pointer (some ⟨w1.heap.size,0,none⟩),.pointer (some ⟨w1.heap.size+1,0,none⟩)] g _ 0 _ (fun w2=>bk w2 (w1.heap.size+1) (.string ByteArray.empty)∧az w w2 g) HS.out.1 (Nat.zero_le _) (by rw[dT];omega) lf ?_).mono ?_
    ·refine(sg _ m _ w1.heap.size _ (by rw[dT];exact hl) HN.out).mono ?_;rintro e w' ⟨rfl,rfl⟩;exact⟨rfl,HS.out.1,HX.out,HO.out⟩
    ·rintro e w' ⟨rfl,w2,⟨hn,ho⟩,hmv⟩;have hn':=hn.only hmv.1 (by omega);have hc:=hn'.1;have HF:Hid (aK w' g none∧az w w' g):=⟨hmv.2.1 rfl,ho.trans hmv.1⟩;clear hn hn' hmv ho;go_wp2_with fail;go_ret;rw[HR.out];exact⟨rfl,HF.out.1,HF.out.2⟩
   ·have HR:Hid (ar n st=(r.take m,some (r.drop m))):=by unfold ar;rw[HC.out,if_neg h0];show(if r.length<m then _ else _)=_;rw[if_neg hl]
    go_wp2_with fail;refine(gO 108 #[.pointer (some ⟨w1.heap.size,0,none⟩),.pointer (some ⟨w1.heap.size+1,0,none⟩)] g _ m _ (fun w2=>bk w2 (w1.heap.size+1) (.string ⟨(r.take m).toArray⟩)∧az w w2 g) HS.out.1 (by rw[dT];omega) (by rw[dT];omega) lf ?_).mono ?_
    ·refine(sD _ m _ w1.heap.size (w1.heap.size+1) (by rw[dT];omega) (by rw[dT];omega) HN.out HX.out (by omega)).mono ?_;rintro e w' ⟨rfl,rfl⟩;rw[pq];exact⟨rfl,HS.out.1.far (by simp;omega) _,HX.out.set _,HO.out.setNew (by simp;omega) _⟩
    ·rintro e w' ⟨rfl,w2,⟨hn,ho⟩,hmv⟩;have hn':=hn.only hmv.1 (by omega);have hc:=hn'.1
     have HF:Hid (aK w' g (some (r.drop m))∧az w w' g):=by
      refine⟨⟨?_,by simp;omega⟩,ho.trans hmv.1⟩;have h2:=hmv.2.2 (by omega);rw[ik]at h2;exact h2
     clear hn hn' hmv ho;go_wp2_with fail;go_ret;rw[HR.out];exact⟨rfl,HF.out.1,HF.out.2⟩
theorem uP (g:Nat)(l:List UInt8)(w:World)(h:aK w g (some l)):Calls Tryz.prog 162 #[.pointer (some ⟨g,0,none⟩)] w fun e w'=>e= .returned (.int .i64 l.length)∧w=w':=
 (rB g _ false w h.1).mono fun e w' ⟨he,hw⟩=>⟨by rw[he,dT];rfl,hw⟩
theorem rZ (g:Nat)(w:World)(h:aK w g none):Calls Tryz.prog 162 #[.pointer (some ⟨g,0,none⟩)] w fun e w'=>e= .returned (.int .i64 0)∧w=w':=
 (rB g _ true w h).mono fun e w' ⟨he,hw⟩=>⟨he,hw⟩
theorem sY (l:List UInt8):(⟨l.toArray⟩:ByteArray).toList.isEmpty=l.isEmpty:=by rw[ByteArray.toList_eq]
theorem wT (g:Nat)(l:List UInt8)(w:World)(h:aK w g (some l)):Calls Tryz.prog 33 #[.pointer (some ⟨g,0,none⟩)] w fun e w'=>e= .returned (.int .i64 (if l.isEmpty then 0 else 10))∧w=w':=
 (qR g _ false w h.1).mono fun e w' ⟨he,hw⟩=>⟨by rw[he,sY];cases l.isEmpty<;>rfl,hw⟩
theorem si (g:Nat)(w:World)(h:aK w g none):Calls Tryz.prog 33 #[.pointer (some ⟨g,0,none⟩)] w fun e w'=>e= .returned (.int .i64 10)∧w=w':=
 (qR g _ true w h).mono fun e w' ⟨he,hw⟩=>⟨he,hw⟩
theorem mB (g:Nat)(st:Option (List UInt8))(w:World)(h:aK w g st):Calls Tryz.prog 74 #[.pointer (some ⟨g,0,none⟩)] w fun e w'=>e= .returned (.bool st.isNone)∧w=w':=by
 cases st with
 |none=>exact fD g _ true w h
 |some l=>exact fD g _ false w h.1
def Rd (w:World)(B:Nat)(v:Value)(l:List UInt8):Prop:=
 ∃(A:Option Addr) (cap:Nat),v= .slice A l.length cap∧l.length≤cap∧(cap≤9223372036854775807∧(A=none→cap=0))∧
  (0<l.length→ ∃b off,A=some ⟨b,off,none⟩∧b<B∧ ∀i (h:i<l.length),w.cell? ⟨b,off+i,none⟩=some (.int .u8 (l[i].toNat:Int)))
theorem Rd.keep {w w':World}{B:Nat}{v:Value}{l:List UInt8}(h:Rd w B v l)(hb:Below B w w'):Rd w' B v l:=by
 obtain⟨A,cap,hv,hc,hm,h1⟩:=h;refine⟨A,cap,hv,hc,hm,fun hl=> ?_⟩;obtain⟨b,off,hA,hbB,hcell⟩:=h1 hl;exact⟨b,off,hA,hbB,fun i hi=>(hb.cell (p:=⟨b,off+i,none⟩) hbB).trans (hcell i hi)⟩
def hU :Option (List UInt8)→Int
 |none=>10
 |some l=>if l.isEmpty then 0 else 10
theorem yH (m:Nat)(st:Option (List UInt8))(h:(rdN m st).2=none):(rdN m st).1=0:=by
 cases st with
 |none=>rfl
 |some l=>
  simp only[rdN]at h ⊢
  split at h
  ·next hc=>rw[if_pos hc]
  ·cases h
end Go.Proofs.YtgfidiocmiolpaaGreat
