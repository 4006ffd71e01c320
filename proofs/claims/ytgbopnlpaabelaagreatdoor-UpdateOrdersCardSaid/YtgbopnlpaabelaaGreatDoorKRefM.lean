/- Which values may be, as the document's answer has it. -/
import Derived.Test.YtgbopnlpaabelaaGreatDoorKTrI
import Derived.Test.YtgbopnlpaabelaaGreatDoorKRefO
import Derived.Test.YtgbopnlpaabelaaGreatDoorKMath
import Derived.Test.YtgbopnlpaabelaaGreatDoorKValF
import Derived.Deep.Slices
import Derived.SliceStrings
import Derived.SizedLaws
import Derived.Lib.SmallJoins
import Derived.Outline
import Derived.Lib.OthersKept
import Derived.Lib.DecodeN
set_option maxHeartbeats 64000000
set_option maxRecDepth 100000
set_option linter.unusedVariables false
set_option linter.unusedSimpArgs false
namespace Go.Proofs.YtgbopnlpaabelaaGreatDoor
open Lib (hid)
open Go.RowKit
theorem tu {k i:Int}{s:ByteArray}{n:Nat}{ns:List ByteArray}(h:aU k i s n ns=true): ∀x∈ns,bH x.data.toList=true:=by
 unfold aU at h;by_cases h1:k=1
 ·simp[h1]at h;rw[h.2.2];simp
 ·by_cases h2:k=2
  ·simp[h2]at h;rw[h.2.2];simp
  ·by_cases h3:k=3
   ·simp[h3]at h;rw[h.2.2];simp
   ·by_cases h4:k=4∨k=5
    ·simp[h1,h2,h3,h4]at h;rw[h.2.2];simp
    ·by_cases h6:k=6
     ·simp[h6]at h;rw[h.2];simp
     ·by_cases h7:k=7
      ·simp[h7]at h;exact(ci.1 h.2).1
      ·simp[h1,h2,h3,h4,h6,h7]at h
theorem nC (t:VT):ao t=(aU t.kind t.num t.text t.items.length t.names && gk t.items):=by
 cases t;unfold ao nB;rfl
theorem mY : ∀ {l:List VT},(∀j (h:j<l.length),ao l[j]=true)→gk l=true
 | [],_=>by unfold gk;rfl
 |t::r,h=>by
  unfold gk;rw[Bool.and_eq_true]
  exact⟨h 0 (by simp),mY fun j hj=>by
   have:=h (j+1) (by simpa using hj)
   rwa[List.getElem_cons_succ]at this⟩
theorem nc {ns:List ByteArray}(h: ∀j (h:j<ns.length),bH (ns[j]).data.toList=true):bu ns=true↔ns.Nodup:=by
 rw[ci]
 exact⟨fun h=>h.2,fun h2=>⟨fun s hs=>by
  obtain⟨j,hj,rfl⟩:=List.mem_iff_getElem.1 hs
  exact h j hj,h2⟩⟩
theorem ud {ns:List ByteArray}{r:Bool}(h:bu ns=true↔ns.Nodup)(hr:r=true↔ ¬ns.Nodup):bu ns= !r :=by
 cases r
 ·have:ns.Nodup:=Classical.byContradiction fun hn=>by have:=hr.2 hn;cases this
  rw[h.2 this];rfl
 ·have: ¬ns.Nodup:=hr.1 rfl;have:bu ns=false:=Bool.eq_false_iff.2 fun hd=>this (h.1 hd);rw[this];rfl
theorem zK (S:Nat→Prop): ∀(n:Nat) (t:VT) (v:Value) (w:World),ac t≤n→(∀b,S b→b<w.heap.size)→LV w S t v→
  Calls Tryz.prog 48 #[v] w fun e w'=>e= .returned (.bool (ao t))∧Below w.heap.size w w':=by
 intro n
 induction n with
 |zero=>intro t v w hd;cases t;rw[aN]at hd;omega
 |succ n ih=>
  intro t v w hd hS h;obtain⟨A,c,A',c',rfl,lens,a7,a6,v1,hb0⟩:=bY hS h;have LENS:=hid lens;have A7:=hid a7;have A6:=hid a6;have P0:=hid v1;have HB0:=hid hb0
  have HD:Hid (aK t.items≤n):=hid (by
   have hdt:ac t=aK t.items+1:=by cases t;exact aN _ _ _ _ _
   omega)
  have HR:=hid (nC t);generalize ao t=R at *;clear h lens a7 a6 v1 hb0 hd;go_enter Tryz.func48,Tryz.ntmps48;go_wp2_with fail
  go_loopw [3] (fun i wr=> ∃j:Nat,i= .int .i64 j∧j≤t.items.length∧Hid (∀x (_:x<t.items.length),x<j→ao t.items[x]=true)∧Hid (Below w.heap.size w wr)∧Hid (Vr wr S w.heap.size t A c A' c')) (fun i _=>t.items.length - (intOf i).toNat)
  case atStart=>exact⟨0,rfl,Nat.zero_le _,hid (fun _ _ h=>absurd h (Nat.not_lt_zero _)),HB0,P0⟩
  case round=>
   obtain⟨j,rfl,hj,HE,HB,P⟩:=hrel;have k3:=P.out.x.c3;have hl:=LENS.out.1;by_cases hlt:j<t.items.length
   ·obtain⟨p,o,A2,e2,A3,e3,rfl,hp,h0,h1,h2,h3,h4,hx⟩:=gt hS A7.out HB.out j hlt;have HC:=hid (ih t.items[j] _ wr (Nat.le_trans (cj (List.getElem_mem hlt)) HD.out) P.out.s hx);obtain⟨C,hC⟩: ∃C,C=ao t.items[j]:=⟨_,rfl⟩;rw[←hC]at HC;have HCC:=hid hC;clear hx hp hC;go_wp2_with fail;refine HC.out.mono ?_;rintro e w2 ⟨rfl,hb⟩;have P2:=hid (P.out.call hb);have HB2:=hid (am HB.out hb);clear hb HC k3 h0 h1 h2 h3 h4 P HB P0 HB0;cases C
    ·have HF:Hid (R=false):=hid (by
      rw[HR.out,Bool.and_eq_false_iff];refine .inr (Bool.eq_false_iff.2 fun h=> ?_);have h1:=eh h (List.getElem_mem hlt)
      rw[←HCC.out]at h1;cases h1)
     go_wp2_with fail;go_ret;exact⟨aM HF.out.symm,HB2.out⟩
    ·go_wp2_with fail
     go_roundw
     case rel=>exact⟨j+1,by go_num,by omega,hid (fun x hx hxj=>by
      by_cases e:x=j
      ·subst e;exact HCC.out.symm
      ·exact HE.out x hx (by omega)),HB2,P2⟩
     case measure=>simp[intOf];omega
   ·have HML:Hid (gk t.items=true):=hid (mY fun x hx=>HE.out x hx (by omega));have HR2:Hid (R=aU t.kind t.num t.text t.items.length t.names):=hid (by rw[HR.out,HML.out,Bool.and_true]);clear HR HE HML P0 HB0;go_wp2_with fail;clear k3 hl hlt hj
    go_loopw [4] (fun i wr=> ∃m:Nat,i= .int .i64 m∧m≤t.names.length∧Hid (∀x (_:x<t.names.length),x<m→bH (t.names[x]).data.toList=true)∧Hid (Below w.heap.size w wr)∧Hid (Vr wr S w.heap.size t A c A' c')) (fun i _=>t.names.length - (intOf i).toNat)
    case atStart=>exact⟨0,rfl,Nat.zero_le _,hid (fun _ _ h=>absurd h (Nat.not_lt_zero _)),HB,P⟩
    case round=>
     rename_i wr0 _ _ wr;clear P HB;obtain⟨m,rfl,hm,HE,HB,P⟩:=hrel;have k4:=P.out.x.c4;have hl2:=LENS.out.2;by_cases hlt:m<t.names.length
     ·obtain⟨p,o,rfl,hp,t1,hsz⟩:=mg hS A6.out HB.out m hlt;obtain⟨s,hs⟩: ∃s,s=t.names[m]:=⟨_,rfl⟩;rw[←hs]at t1 hsz;have HS:=hid hs;have HSZ:=hid hsz;clear hp hs hsz;go_wp2_with fail;refine(px s _ (by have:=HSZ.out;omega)).mono ?_;rintro e u ⟨rfl,rfl⟩;clear k4 t1;cases hC:bH s.data.toList
      ·have HF:Hid (R=false):=hid (by
        rw[HR2.out];refine Bool.eq_false_iff.2 fun h=> ?_;have h1:=tu h _ (List.getElem_mem hlt)
        rw[←HS.out,hC]at h1;cases h1)
       clear hC;go_wp2_with fail;go_ret;exact⟨aM HF.out.symm,HB.out⟩
      ·have HC:=hid hC;clear hC;go_wp2_with fail
       go_roundw
       case rel=>exact⟨m+1,by go_num,by omega,hid (fun x hx hxj=>by
        by_cases e:x=m
        ·subst e;rw[←HS.out];exact HC.out
        ·exact HE.out x hx (by omega)),HB,P⟩
       case measure=>simp[intOf];omega
     ·have HD2:Hid (bu t.names=true↔t.names.Nodup):=hid (nc fun x hx=>HE.out x hx (by omega));have TW:=hid (wU S A' c' t.names wr.drew (P.out.drew.s) ((A6.out.below hS HB.out).keep (fun _ _=>rfl)) LENS.out.2);clear HE hm;go_wp2_with fail;try simp only[List.append_eq,List.cons_append,List.nil_append]
      refine cX (by kernel_rfl) (by kernel_rfl) (fun _ d _ _ _ h=>by cases d<;>exact h) ?_;have q3:=aa (B:=wr.heap.size) (w:=wr.drew) P.out.x.c3 P.out.x.lt;have q4:=aa (B:=wr.heap.size) (w:=wr.drew) P.out.x.c4 P.out.x.lt;first|with_reducible refine ak ?_ |with_reducible refine ag ?_ |refine ak ?_ |refine ag ?_
      simp only[List.takeWhile,List.dropWhile,aF,Nat.reduceBNe];repeat(go_big_quiet_step (fail))
      first|with_reducible refine wpQuiet_nil ?_ |refine wpQuiet_nil ?_
      unfold br;clear q3 q4 k4 hlt;have HBF:=hid HB.out.drew;have P3:=hid P.out.drew;have hl:=LENS.out.1;clear P HB;generalize wr.drew=wq at *;have k0:=P3.out.x.c0;have k1:=P3.out.x.c1;have k2:=P3.out.x.c2;have k4:=P3.out.x.c4;clear P3;generalize t.kind=kd at *;generalize t.num=i at *;generalize t.text=s at *;generalize t.items.length=nl at *;by_cases h1:kd=1
      ·subst h1;have HF:Hid (R=(decide (i=0) && decide (s.toList= []) && (nl == 0 && t.names.length == 0))):=hid (by rw[HR2.out];unfold aU;simp);clear HR2;clear TW HD2;go_wp2_with fail
       all_goals
        go_ret;exact⟨dF (by rw[HF.out];simp_all [bo,bM]<;>(intros;omega)),HBF.out⟩
      by_cases h2:kd=2
      ·subst h2;have HF:Hid (R=((decide (i=0) || decide (i=1)) && decide (s.toList= []) && (nl == 0 && t.names.length == 0))):=hid (by rw[HR2.out];unfold aU;simp);clear HR2 h1;clear TW HD2;go_wp2_with fail
       all_goals
        go_ret;exact⟨dF (by rw[HF.out];simp_all [bo,bM]<;>(intros;omega)),HBF.out⟩
      by_cases h3:kd=3
      ·subst h3;have HF:Hid (R=(decide (s.toList= []) && (nl == 0 && t.names.length == 0))):=hid (by rw[HR2.out];unfold aU;simp);clear HR2 h1 h2;clear TW HD2;go_wp2_with fail
       all_goals
        go_ret;exact⟨dF (by rw[HF.out];simp_all [bo,bM]<;>(intros;omega)),HBF.out⟩
      by_cases h4:kd=4
      ·subst h4;have HF:Hid (R=(decide (i=0) && (nl == 0 && t.names.length == 0))):=hid (by rw[HR2.out];unfold aU;simp);clear HR2 h1 h2 h3;clear TW HD2;go_wp2_with fail
       all_goals
        go_ret;exact⟨dF (by rw[HF.out];simp_all [bo,bM]<;>(intros;omega)),HBF.out⟩
      by_cases h5:kd=5
      ·subst h5;have HF:Hid (R=(decide (i=0) && (nl == 0 && t.names.length == 0))):=hid (by rw[HR2.out];unfold aU;simp);clear HR2 h1 h2 h3 h4;clear TW HD2;go_wp2_with fail
       all_goals
        go_ret;exact⟨dF (by rw[HF.out];simp_all [bo,bM]<;>(intros;omega)),HBF.out⟩
      by_cases h6:kd=6
      ·subst h6;have HF:Hid (R=(decide (i=0) && decide (s.toList= []) && t.names.length == 0)):=hid (by rw[HR2.out];unfold aU;simp);clear HR2 h1 h2 h3 h4 h5;clear TW HD2;go_wp2_with fail
       all_goals
        go_ret;exact⟨dF (by rw[HF.out];simp_all [bo,bM]<;>(intros;omega)),HBF.out⟩
      by_cases h7:kd=7
      ·subst h7;have HF:Hid (R=(decide (i=0) && decide (s.toList= []) && t.names.length == nl && bu t.names)):=hid (by rw[HR2.out];unfold aU;simp);clear HR2 h1 h2 h3 h4 h5 h6;by_cases hn:t.names.length=nl
       ·have en:((t.names.length:Int) == (nl:Int))=true:=beq_iff_eq.2 (by omega);have HF:Hid (R=(decide (i=0) && decide (s.toList= []) && bu t.names)):=hid (by rw[HF.out];simp[hn]);clear hn;go_wp2_with(go_at_call 89;refine TW.out.mono ?_;rintro e w' ⟨⟨r,rfl,hr⟩,hb⟩;have hdr:=hid (ud HD2.out hr);have hbf:=hid (am HBF.out hb);clear hr hb)
        all_goals
         go_ret
         first
          |exact⟨dF (by rw[HF.out,hdr.out];simp_all [bo,bM]),hbf.out⟩
          |exact⟨dF (by rw[HF.out];simp_all [bo,bM]),HBF.out⟩
       ·have en:((t.names.length:Int) == (nl:Int))=false:=beq_eq_false_iff_ne.2 (by omega);have HF:Hid (R=false):=hid (by rw[HF.out];simp[hn]);clear hn TW HD2;go_wp2_with fail
        all_goals
         go_ret;exact⟨dF HF.out.symm,HBF.out⟩
      have HF:Hid (R=false):=hid (by rw[HR2.out];unfold aU;simp[h1,h2,h3,h4,h5,h6,h7]);have b1:(kd == 1)=false:=beq_eq_false_iff_ne.2 h1;have b2:(kd == 2)=false:=beq_eq_false_iff_ne.2 h2;have b3:(kd == 3)=false:=beq_eq_false_iff_ne.2 h3;have b4:(kd == 4)=false:=beq_eq_false_iff_ne.2 h4;have b5:(kd == 5)=false:=beq_eq_false_iff_ne.2 h5;have b6:(kd == 6)=false:=beq_eq_false_iff_ne.2 h6;have b7:(kd == 7)=false:=beq_eq_false_iff_ne.2 h7;clear HR2 TW HD2 h1 h2 h3 h4 h5 h6 h7;go_wp2_with fail;go_ret;exact⟨aM HF.out.symm,HBF.out⟩
theorem VT.same {a b:VT}(h0:a.kind=b.kind)(h1:a.num=b.num)(h2:a.text=b.text)(h3:a.items=b.items)(h4:a.names=b.names):a=b:=by
 cases a;cases b;simp only[VT.kind,VT.num,VT.text,VT.items,VT.names]at *;subst h0 h1 h2 h3 h4;rfl
theorem fw {a b:VT}(h: ¬a=b):(false=true)↔a=b:=⟨fun h=>(by cases h),fun h'=>absurd h' h⟩
theorem iI (S:Nat→Prop): ∀(n:Nat) (a b:VT) (va vb:Value) (w:World),ac a≤n→(∀b,S b→b<w.heap.size)→LV w S a va→LV w S b vb→
  Calls Tryz.prog 20 #[va,vb] w fun e w'=>(∃r:Bool,e= .returned (.bool r)∧(r=true↔a=b))∧Below w.heap.size w w':=by
 intro n
 induction n with
 |zero=>intro a b va vb w hd;cases a;rw[aN]at hd;omega
 |succ n ih=>
  intro a b va vb w hd hS ha hb;obtain⟨A,ca,A',ca',B,cb,B',cb',rfl,rfl,lens,a7,a6,b7,b6,v1,v2,hb0⟩:=yy hS ha hb;have LENS:=hid lens;have A7:=hid a7;have A6:=hid a6;have B7:=hid b7;have B6:=hid b6;have P10:=hid v1;have P20:=hid v2;have HB0:=hid hb0;have HD:=hid hd;have k0:=v1.x.c0;have k1:=v1.x.c1;have k2:=v1.x.c2;have k3:=v1.x.c3;have k4:=v1.x.c4;have l0:=v2.x.c0;have l1:=v2.x.c1;have l2:=v2.x.c2;have l3:=v2.x.c3;have l4:=v2.x.c4;clear ha hb lens a7 a6 b7 b6 v1 v2 hb0 hd;by_cases hk:a.kind=b.kind
  ·have ek1:(a.kind == b.kind)=true:=by simpa using hk
   have ek2:(a.kind != b.kind)=false:=by simpa using hk
   have HK:=hid hk;clear hk;by_cases hi:a.num=b.num
   ·have ei1:(a.num == b.num)=true:=by simpa using hi
    have ei2:(a.num != b.num)=false:=by simpa using hi
    have HI:=hid hi;clear hi;by_cases ht:a.text.toList=b.text.toList
    ·have et1:(a.text.toList == b.text.toList)=true:=by simpa using ht
     have HT:Hid (a.text=b.text):=hid (toList_inj ht);clear ht;by_cases hl:a.items.length=b.items.length
     ·have el1:((a.items.length:Int) == (b.items.length:Int))=true:=beq_iff_eq.2 (by omega);have el2:((a.items.length:Int) != (b.items.length:Int))=false:=bne_eq_false_iff_eq.2 (by omega);have el3:(a.items.length == b.items.length)=true:=by simpa using hl
      have HL:=hid hl;clear hl;by_cases hn:a.names.length=b.names.length
      ·have en1:((a.names.length:Int) == (b.names.length:Int))=true:=beq_iff_eq.2 (by omega);have en2:((a.names.length:Int) != (b.names.length:Int))=false:=bne_eq_false_iff_eq.2 (by omega);have en3:(a.names.length == b.names.length)=true:=by simpa using hn
       have HN:=hid hn;clear hn;go_enter Tryz.func20,Tryz.ntmps20;go_wp2_with fail;clear k0 k1 k2 k3 k4 l0 l1 l2 l3 l4 ek1 ek2 ei1 ei2 et1 el1 el2 el3 en1 en2 en3
       go_loopw [5] (fun i wr=> ∃j:Nat,i= .int .i64 j∧j≤a.items.length∧Hid (∀k (h:k<a.items.length) (h':k<b.items.length),k<j→a.items[k]=b.items[k])∧Hid (Below w.heap.size w wr)∧
        Hid (Vr wr S w.heap.size a A ca A' ca')∧Hid (Vr wr S (w.heap.size+1) b B cb B' cb')) (fun i _=>a.items.length - (intOf i).toNat)
       case atStart=>exact⟨0,rfl,Nat.zero_le _,hid (fun k _ _ h=>absurd h (Nat.not_lt_zero _)),HB0,P10,P20⟩
       case round=>
        obtain⟨j,rfl,hj1,HE,HB,P1,P2⟩:=hrel;have k3:=P1.out.x.c3;have hl1:=LENS.out.1;by_cases hla:j<a.items.length
        ·have hlb:j<b.items.length:=by have:=HL.out;omega
         have HDJ:Hid (ac a.items[j]≤n):=hid (by
          have hdp:=cj (List.getElem_mem hla);have hdt:ac a=aK a.items+1:=by cases a;exact aN _ _ _ _ _
          have:=HD.out
          omega)
         obtain⟨p,o,A2,e2,A3,e3,rfl,hp,h0,h1,h2,h3,h4,hx⟩:=gt hS A7.out HB.out j hla;obtain⟨p',o',B2,f2,B3,f3,rfl,hp',g0,g1,g2,g3,g4,hy⟩:=gt hS B7.out HB.out j hlb;have hp2:p<wr.heap.size:=Nat.lt_of_lt_of_le hp HB.out.size;have hp2':p'<wr.heap.size:=Nat.lt_of_lt_of_le hp' HB.out.size;have HC:=hid (ih a.items[j] b.items[j] _ _ wr.drew HDJ.out P1.out.drew.s hx.drew hy.drew);clear hx hy hp hp' HDJ;go_wp2_with fail;try simp only[List.append_eq,List.cons_append,List.nil_append]
         refine cX (by kernel_rfl) (by kernel_rfl) (fun _ d _ _ _ h=>by cases d<;>exact h) ?_;have q3:=aa (B:=wr.heap.size) (w:=wr.drew) P1.out.x.c3 P1.out.x.lt;have q3':=aa (B:=wr.heap.size) (w:=wr.drew) P2.out.x.c3 P2.out.x.lt;have p0:=aa (B:=wr.heap.size) (w:=wr.drew) h0 hp2;have p1:=aa (B:=wr.heap.size) (w:=wr.drew) h1 hp2;have p2:=aa (B:=wr.heap.size) (w:=wr.drew) h2 hp2;have p3:=aa (B:=wr.heap.size) (w:=wr.drew) h3 hp2;have p4:=aa (B:=wr.heap.size) (w:=wr.drew) h4 hp2;have s0:=aa (B:=wr.heap.size) (w:=wr.drew) g0 hp2';have s1:=aa (B:=wr.heap.size) (w:=wr.drew) g1 hp2';have s2:=aa (B:=wr.heap.size) (w:=wr.drew) g2 hp2';have s3:=aa (B:=wr.heap.size) (w:=wr.drew) g3 hp2';have s4:=aa (B:=wr.heap.size) (w:=wr.drew) g4 hp2';first|with_reducible refine ak ?_ |with_reducible refine ag ?_ |refine ak ?_ |refine ag ?_
         simp only[List.takeWhile,List.dropWhile,aF,Nat.reduceBNe];repeat(go_big_quiet_step (fail))
         first|with_reducible refine wpQuiet_nil ?_ |refine wpQuiet_nil ?_
         first|with_reducible refine aL ?_ (fun K hK=> ?_)|with_reducible refine aC ?_ (fun K hK=> ?_)|refine aL ?_ (fun K hK=> ?_)|refine aC ?_ (fun K hK=> ?_)
         ·rfl
         go_simp
         refine(HC.out).mono ?_;rintro e w4 ⟨⟨r,rfl,hr⟩,hb⟩;refine hK _ _ hb ?_;clear hK K;try simp only[Act.put]
         have HRR:=hid hr;clear hr;first|with_reducible refine ak ?_ |with_reducible refine ag ?_ |refine ak ?_ |refine ag ?_
         simp only[List.takeWhile,List.dropWhile,aF,Nat.reduceBNe];repeat(go_big_quiet_step (fail))
         first|with_reducible refine wpQuiet_nil ?_ |refine wpQuiet_nil ?_
         unfold br;have HB:=hid (am HB.out (aO hb));have P1:=hid (P1.out.call (aO hb));have P2:=hid (P2.out.call (aO hb));clear q3 q3' p0 p1 p2 p3 p4 s0 s1 s2 s3 s4 hb HC h0 h1 h2 h3 h4 g0 g1 g2 g3 g4 hp2 hp2' k3;cases r
         ·have HF:Hid ((false=true)↔a=b):=hid (fw fun h=>by
           have h1:=HRR.out.2 (by subst h;rfl)
           cases h1)
          go_wp2_with fail;go_ret;exact⟨⟨_,rfl,HF.out⟩,HB.out⟩
         ·have HEQ:=hid (HRR.out.1 rfl);go_wp2_with fail
          go_roundw
          case rel=>exact⟨j+1,by go_num,by omega,hid (fun k h h' hkj=>by
           by_cases e:k=j
           ·subst e;exact HEQ.out
           ·exact HE.out k h h' (by omega)),HB,P1,P2⟩
          case measure=>simp[intOf];omega
        ·have HEA:Hid (a.items=b.items):=hid (List.ext_getElem HL.out (fun k h h'=>HE.out k h h' (by omega)));obtain rfl:j=a.items.length:=by omega
         clear HE;go_wp2_with fail;clear k3 hla hj1
         go_loopw [6] (fun i wr=> ∃j:Nat,i= .int .i64 j∧j≤a.names.length∧Hid (∀k (h:k<a.names.length) (h':k<b.names.length),k<j→a.names[k]=b.names[k])∧Hid (Below w.heap.size w wr)∧
          Hid (Vr wr S w.heap.size a A ca A' ca')∧Hid (Vr wr S (w.heap.size+1) b B cb B' cb')) (fun i _=>a.names.length - (intOf i).toNat)
         case atStart=>exact⟨0,rfl,Nat.zero_le _,hid (fun k _ _ h=>absurd h (Nat.not_lt_zero _)),HB,P1,P2⟩
         case round=>
          rename_i wr0 _ _ wr;obtain⟨j,rfl,hj1,HE,HB,P1,P2⟩:=hrel;have k4:=P1.out.x.c4;have hl1:=LENS.out.2.1;by_cases ia:j<a.names.length
          ·have ib:j<b.names.length:=by have:=HN.out;omega
           have hl2:=LENS.out.2.2.2;obtain⟨qa,oa,rfl,hqa,t1,hsa⟩:=mg hS A6.out HB.out j ia;obtain⟨qb,ob,rfl,hqb,t2,hsb⟩:=mg hS B6.out HB.out j ib;have hqa2:qa<wr.heap.size:=Nat.lt_of_lt_of_le hqa HB.out.size;have hqb2:qb<wr.heap.size:=Nat.lt_of_lt_of_le hqb HB.out.size;clear hqa hqb hsa hsb;obtain⟨sa,hsa⟩: ∃sa,sa=a.names[j]:=⟨_,rfl⟩;obtain⟨sb,hsb⟩: ∃sb,sb=b.names[j]:=⟨_,rfl⟩;rw[←hsa]at t1;rw[←hsb]at t2;have HSA:=hid hsa;have HSB:=hid hsb;clear hsa hsb;by_cases hs:sa.toList=sb.toList
           ·have es:(sa.toList == sb.toList)=true:=by simpa using hs
            have HEQ:Hid (a.names[j]=b.names[j]):=hid (by rw[←HSA.out,←HSB.out];exact toList_inj hs);clear hs;go_wp2_with fail;try simp only[List.append_eq,List.cons_append,List.nil_append]
            refine cX (by kernel_rfl) (by kernel_rfl) (fun _ d _ _ _ h=>by cases d<;>exact h) ?_;have q4:=aa (B:=wr.heap.size) (w:=wr.drew) P1.out.x.c4 P1.out.x.lt;have q4':=aa (B:=wr.heap.size) (w:=wr.drew) P2.out.x.c4 P2.out.x.lt;have u1:=aa (B:=wr.heap.size) (w:=wr.drew) t1 hqa2;have u2:=aa (B:=wr.heap.size) (w:=wr.drew) t2 hqb2;first|with_reducible refine ak ?_ |with_reducible refine ag ?_ |refine ak ?_ |refine ag ?_
            simp only[List.takeWhile,List.dropWhile,aF,Nat.reduceBNe];repeat(go_big_quiet_step (fail))
            first|with_reducible refine wpQuiet_nil ?_ |refine wpQuiet_nil ?_
            unfold br;clear q4 q4' u1 u2 t1 t2 hqa2 hqb2;go_wp2_with fail
            go_roundw
            case rel=>exact⟨j+1,by go_num,by omega,hid (fun k h h' hkj=>by
             by_cases e:k=j
             ·subst e;exact HEQ.out
             ·exact HE.out k h h' (by omega)),hid HB.out.drew,hid P1.out.drew,hid P2.out.drew⟩
            case measure=>simp[intOf];omega
           ·have es:(sa.toList == sb.toList)=false:=by simpa using hs
            have HF:Hid ((false=true)↔a=b):=hid (fw fun h=>hs (by
             rw[HSA.out,HSB.out]
             subst h;rfl))
            clear hs;go_wp2_with fail;try simp only[List.append_eq,List.cons_append,List.nil_append]
            refine cX (by kernel_rfl) (by kernel_rfl) (fun _ d _ _ _ h=>by cases d<;>exact h) ?_;have q4:=aa (B:=wr.heap.size) (w:=wr.drew) P1.out.x.c4 P1.out.x.lt;have q4':=aa (B:=wr.heap.size) (w:=wr.drew) P2.out.x.c4 P2.out.x.lt;have u1:=aa (B:=wr.heap.size) (w:=wr.drew) t1 hqa2;have u2:=aa (B:=wr.heap.size) (w:=wr.drew) t2 hqb2;first|with_reducible refine ak ?_ |with_reducible refine ag ?_ |refine ak ?_ |refine ag ?_
            simp only[List.takeWhile,List.dropWhile,aF,Nat.reduceBNe];repeat(go_big_quiet_step (fail))
            first|with_reducible refine wpQuiet_nil ?_ |refine wpQuiet_nil ?_
            unfold br;clear q4 q4' u1 u2 t1 t2 hqa2 hqb2;go_wp2_with fail;go_ret;exact⟨⟨_,rfl,HF.out⟩,HB.out.drew⟩
          ·have HF:Hid ((true=true)↔a=b):=hid ⟨fun _=>VT.same HK.out HI.out HT.out HEA.out (List.ext_getElem HN.out (fun k h h'=>HE.out k h h' (by omega))),fun _=>rfl⟩;go_wp2_with fail;go_ret;exact⟨.inr ⟨rfl,by have h:=HF.out;simpa using h⟩,HB.out⟩
      ·have en1:((a.names.length:Int) == (b.names.length:Int))=false:=beq_eq_false_iff_ne.2 (by omega);have en2:((a.names.length:Int) != (b.names.length:Int))=true:=bne_iff_ne.2 (by omega);have en3:(a.names.length == b.names.length)=false:=by simpa using hn
       have HF:Hid ((false=true)↔a=b):=hid (fw fun h=>hn (by rw[h]));clear hn;go_enter Tryz.func20,Tryz.ntmps20;go_wp2_with fail;go_ret;exact⟨⟨_,rfl,HF.out⟩,HB0.out⟩
     ·have el1:((a.items.length:Int) == (b.items.length:Int))=false:=beq_eq_false_iff_ne.2 (by omega);have el2:((a.items.length:Int) != (b.items.length:Int))=true:=bne_iff_ne.2 (by omega);have el3:(a.items.length == b.items.length)=false:=by simpa using hl
      have HF:Hid ((false=true)↔a=b):=hid (fw fun h=>hl (by rw[h]));clear hl;go_enter Tryz.func20,Tryz.ntmps20;go_wp2_with fail;go_ret;exact⟨⟨_,rfl,HF.out⟩,HB0.out⟩
    ·have et1:(a.text.toList == b.text.toList)=false:=by simpa using ht
     have HF:Hid ((false=true)↔a=b):=hid (fw fun h=>ht (by rw[h]));clear ht;go_enter Tryz.func20,Tryz.ntmps20;go_wp2_with fail;go_ret;exact⟨⟨_,rfl,HF.out⟩,HB0.out⟩
   ·have ei1:(a.num == b.num)=false:=by simpa using hi
    have ei2:(a.num != b.num)=true:=by simpa using hi
    have HF:Hid ((false=true)↔a=b):=hid (fw fun h=>hi (by rw[h]));clear hi;go_enter Tryz.func20,Tryz.ntmps20;go_wp2_with fail;go_ret;exact⟨⟨_,rfl,HF.out⟩,HB0.out⟩
  ·have ek1:(a.kind == b.kind)=false:=by simpa using hk
   have ek2:(a.kind != b.kind)=true:=by simpa using hk
   have HF:Hid ((false=true)↔a=b):=hid (fw fun h=>hk (by rw[h]));clear hk;go_enter Tryz.func20,Tryz.ntmps20;go_wp2_with fail;go_ret;exact⟨⟨_,rfl,HF.out⟩,HB0.out⟩
section
variable {u :World} {S:Nat→Prop} {g g':Nat} {t t':VT} {A B:Option Addr} {c d:Nat} {A' B':Option Addr} {c' d':Nat}
theorem Vr.rmay (h:Vr u S g t A c A' c'){x:Bool}(hx:x=ao t):Calls Tryz.prog 48 #[.agg #[.int .i64 t.kind,.int .i64 t.num,.string t.text,.slice A t.items.length c,.slice A' t.names.length c']] u fun e u'=>e= .returned (.bool x)∧Below u.heap.size u u':=
 (zK S (ac t) t _ u (Nat.le_refl _) h.s h.v).mono fun _ _ h'=>⟨by rw[h'.1,hx],h'.2⟩
end
section
variable {u :World} {S:Nat→Prop} {g g':Nat} {t t':VT} {A B:Option Addr} {c d:Nat} {A' B':Option Addr} {c' d':Nat}
end
end Go.Proofs.YtgbopnlpaabelaaGreatDoor
/- A slice of texts that came in, read. -/
namespace Go.Proofs.YtgbopnlpaabelaaGreatDoor
open Go.ChangeShapes Go.WideShapes Go.RowKit Go.Joins Go.Deep
theorem mZ :Tryz.prog.cellsOf 9=1:=by kernel_rfl
theorem xp :Tryz.prog.bytesOf 9=16:=by kernel_rfl
section
variable {H :Type} {enc:TypeId×Value→H} {W:World} {sp:Nat→Bool}
theorem fB {P:Program}{e:TypeId}: ∀ {l:List (DataW H)} {d:DataW H},d∈l→ ∀n∈d.weights P e,n∈DataW.weightsAll P e l
 |a::r,d,hd,n,hn=>by
  unfold DataW.weightsAll;rw[List.mem_append];rcases List.mem_cons.1 hd with rfl|hd
  ·exact .inl hn
  ·exact .inr (fB hd n hn)
theorem iw {fuel:Nat}{cs:List Value}{x:DataW H×List MemPlace}(h:DataW.trod enc Tryz.prog W 0 sp true fuel 23 cs=some x)(hw: ∀n∈x.1.weights Tryz.prog 23,n≤reachBytes):
  ∃A c,∃ns:List ByteArray,cs= [.slice A ns.length c]∧ns.length≤c∧(A=none→c=0)∧ns.length≤8796093021952∧ai W (fun b=>b<W.heap.size) A ns:=by
 rcases open_strings Tryz.underlying23 Tryz.underlying9 mZ h with ⟨rfl,_⟩|⟨a,len,cap,ss,rfl,-,hl,hm,hsl,hx,hc,hs⟩
 ·exact⟨none,0,[],rfl,by simp,fun _=>rfl,by simp,fun h=>absurd h (by simp)⟩
 ·have hle:len≤ss.length:=by rw[hsl];split<;>omega
  have hlen:(ss.take len).length=len:=by simp;omega
  have hws:=hw;rw[hx]at hws;simp only[DataW.weights,Tryz.underlying23]at hws
  have h1:len≤8796093021952:=by
   have h1:=hws _ (List.mem_cons_self ..);rw[xp]at h1;simp only[strs,List.length_map,hlen,reachBytes]at h1;omega
  refine⟨some a,cap,ss.take len,by rw[hlen],by rw[hlen];exact hl,(fun h=>by cases h),by rw[hlen];exact h1,fun hp=> ?_⟩;rw[hlen]at hp;obtain⟨b,off,spot⟩:=a;have h0:=hc 0 (by omega);obtain rfl:spot=none:=by simpa[Addr.add]using World.cell?_spot h0
  refine⟨b,off,rfl,?_,fun i hi=> ?_⟩
  ·rw[cq]at h0;exact World.block_lt_of_cell? W _ h0
  ·rw[hlen]at hi;have hi2:i<ss.length:=by omega
   have h2:=hc i hi2;rw[cq]at h2;refine⟨?_,?_⟩
   ·rw[h2];simp[List.getD,List.getElem?_eq_getElem hi2]
   ·have hmem:((.lit (.string ((ss.take len)[i]'(by omega)).data.toList):DataW H))∈strs (H:=H) (ss.take len):=by
     unfold strs;exact List.mem_map.2 ⟨_,List.getElem_mem _,rfl⟩
    have h3:=hws ((ss.take len)[i]'(by omega)).data.toList.length (List.mem_cons_of_mem _ (List.mem_append_left _ (fB hmem _ (by simp[DataW.weights]))));simpa[reachBytes]using h3
theorem tZ {fuel:Nat}{cs:List Value}{x:DataW H×List MemPlace}(h:DataW.trod enc Tryz.prog W 0 sp true fuel 23 cs=some x)(hw: ∀n∈x.1.weights Tryz.prog 23,n≤reachBytes):
  ∃A c,∃ns:List ByteArray,cs= [.slice A ns.length c]∧ns.length≤8796093021952∧ai W (fun b=>b<W.heap.size) A ns:=by
 obtain⟨A,c,ns,h1,-,-,h2,h3⟩:=iw h hw;exact⟨A,c,ns,h1,h2,h3⟩
end
theorem mM :Tryz.prog.cellsOf 25=5:=by kernel_rfl
theorem tj :Tryz.prog.cellsOf 3=1:=by kernel_rfl
theorem wT :Tryz.prog.cellsOf 22=1:=by kernel_rfl
theorem lf :Tryz.prog.cellsOf 23=1:=by kernel_rfl
theorem yh :Tryz.prog.bytesOf 25=80:=by kernel_rfl
theorem wl : ∃f0 f1 f2 f3 f4:Field,Tryz.prog.underlying 25=some (.struct #[f0,f1,f2,f3,f4])∧f0.type=3∧f1.type=3∧f2.type=9∧f3.type=22∧f4.type=23∧f0.offset=0∧f1.offset=1∧f2.offset=2∧f3.offset=3∧f4.offset=4:=
 ⟨_,_,_,_,_,Tryz.underlying25,rfl,rfl,rfl,rfl,rfl,rfl,rfl,rfl,rfl,rfl⟩
theorem LVs.intro {w:World}{S:Nat→Prop}{b:Nat}: ∀ {l:List VT} {off:Nat},(∀j (h:j<l.length),∃c0 c1 c2 c3 c4,w.cell? ⟨b,off+j * 5,none⟩=some c0∧w.cell? ⟨b,off+j * 5+1,none⟩=some c1∧w.cell? ⟨b,off+j * 5+2,none⟩=some c2∧
  w.cell? ⟨b,off+j * 5+3,none⟩=some c3∧w.cell? ⟨b,off+j * 5+4,none⟩=some c4∧LV w S l[j] (.agg #[c0,c1,c2,c3,c4]))→LVs w S b off l
 | [],_,_=>by unfold LVs;trivial
 |t::r,off,h=>by
  unfold LVs;have h0:=h 0 (by simp);simp only[Nat.zero_mul,Nat.add_zero]at h0;refine⟨h0,LVs.intro fun j hj=> ?_⟩;have:=h (j+1) (by simpa using hj);have e:off+(j+1) * 5=off+5+j * 5:=by omega
  rw[e]at this;simpa using this
section
variable {H :Type} {enc:TypeId×Value→H} {W:World} {sp:Nat→Bool}
theorem iN {k:Int}(h:(Lit.int .i64 k).wf=true):Rng k:=in64_of_wf h
theorem qN : ∀(fuel:Nat) (cs:List Value) (x:DataW H×List MemPlace),DataW.trod enc Tryz.prog W 0 sp true fuel 25 cs=some x→(∀n∈x.1.weights Tryz.prog 25,n≤reachBytes)→
  ∃t,LV W (fun b=>b<W.heap.size) t (.agg cs.toArray):=by
 intro fuel
 induction fuel using Nat.strongRecOn with
 |_ fuel ih=>
  intro cs x h hw;obtain⟨f0,f1,f2,f3,f4,hu,t0,t1,t2,t3,t4,o0,o1,o2,o3,o4⟩:=wl;obtain⟨xs,n,hfu,hx,hlen,hxl,hg⟩:=DataW.trod_struct hu h;rw[mM]at hlen
  match cs,hlen with
  | [c0,c1,c2,c3,c4],_=>
   match xs,hxl with
   | [y0,y1,y2,y3,y4],_=>
    have g0:=hg 0 f0 rfl;have g1:=hg 1 f1 rfl;have g2:=hg 2 f2 rfl;have g3:=hg 3 f3 rfl;have g4:=hg 4 f4 rfl;rw[t0,o0,tj]at g0;rw[t1,o1,tj]at g1;rw[t2,o2,mZ]at g2;rw[t3,o3,wT]at g3;rw[t4,o4,lf]at g4;have hws:=hw;rw[hx]at hws;simp only[DataW.weights,hu,List.map_cons,List.map_nil,t0,t1,t2,t3,t4]at hws;obtain⟨k,e0,-,w0⟩:=DataW.trod_int Tryz.underlying3 g0;obtain⟨i,e1,-,w1⟩:=DataW.trod_int Tryz.underlying3 g1;obtain⟨s,e2,x2,w2⟩:=DataW.trod_string Tryz.underlying9 g2;simp at e0 e1 e2;subst e0 e1 e2
    have hs:s.size≤140737488351232:=by
     have:=hws s.data.toList.length (by rw[DataW.weightsEach,DataW.weightsEach,DataW.weightsEach];refine List.mem_append_right _ (List.mem_append_right _ (List.mem_append_left _ ?_));rw[x2];simp[DataW.weights]);simpa[reachBytes]using this
    obtain⟨A',c',ns,e4,hn4,hns⟩:=tZ g4 (fun n hn=>hws n (by rw[DataW.weightsEach,DataW.weightsEach,DataW.weightsEach,DataW.weightsEach,DataW.weightsEach];exact List.mem_append_right _ (List.mem_append_right _ (List.mem_append_right _ (List.mem_append_right _ (List.mem_append_left _ hn))))));simp at e4;subst e4;have hw3: ∀n∈y3.1.weights Tryz.prog 22,n≤reachBytes:=fun n hn=>hws n (by rw[DataW.weightsEach,DataW.weightsEach,DataW.weightsEach,DataW.weightsEach];exact List.mem_append_right _ (List.mem_append_right _ (List.mem_append_right _ (List.mem_append_left _ hn))));rcases DataW.trod_slice Tryz.underlying22 g3 with ⟨e3,-⟩|⟨a,len,cap,elems,rest,m,hm,e3,x3,-,hlc,-,hel,hat,-,-⟩
    ·simp at e3;subst e3;exact⟨.mk k i s [] ns,LV.mk (iN w0) (iN w1) hs (by simp) hn4 hns (fun h=>absurd h (by simp))⟩
    ·simp at e3;subst e3;simp at x3;rw[x3]at hw3;simp only[DataW.weights,Tryz.underlying22]at hw3
     have hl:len≤1759218604390:=by
      have h1:=hw3 _ (List.mem_cons_self ..);rw[yh]at h1;simp only[List.length_map,hel,reachBytes]at h1;omega
     have hT: ∀j,∃t:VT,j<len→ ∃c0 c1 c2 c3 c4,W.cell? (a.add (j * 5))=some c0∧W.cell? ((a.add (j * 5)).add 1)=some c1∧W.cell? ((a.add (j * 5)).add 2)=some c2∧W.cell? ((a.add (j * 5)).add 3)=some c3∧W.cell? ((a.add (j * 5)).add 4)=some c4∧
       LV W (fun b=>b<W.heap.size) t (.agg #[c0,c1,c2,c3,c4]):=by
      intro j;by_cases hj:j<len
      ·have h1:=hat j hj;rw[mM,List.getElem?_eq_getElem (by omega)]at h1;obtain⟨cs',hc,ht⟩:=Option.bind_eq_some_iff.1 h1;obtain⟨-,hcl,hcat⟩:=World.cells?_some hc;obtain⟨t,htv⟩:=ih m (by omega) cs' _ ht (fun n hn=>hw3 n (List.mem_cons_of_mem _ (List.mem_append_left _ (fB (List.mem_map.2 ⟨_,List.getElem_mem (by omega),rfl⟩) n hn))))
       match cs',hcl with
       | [u0,u1,u2,u3,u4],_=>
        refine⟨t,fun _=>⟨u0,u1,u2,u3,u4,?_,?_,?_,?_,?_,htv⟩⟩
        ·simpa[Addr.add]using hcat 0 (by omega)
        ·simpa using hcat 1 (by omega)
        ·simpa using hcat 2 (by omega)
        ·simpa using hcat 3 (by omega)
        ·simpa using hcat 4 (by omega)
      ·exact⟨.mk 0 0 ⟨#[]⟩ [] [],fun h=>absurd h hj⟩
     obtain⟨T,hT⟩:=Classical.skolem.1 hT;have hlm:((List.range len).map T).length=len:=by simp
     refine⟨.mk k i s ((List.range len).map T) ns,?_⟩;have:=LV.mk (w:=W) (S:=fun b=>b<W.heap.size) (k:=k) (i:=i) (s:=s) (l:=(List.range len).map T) (ns:=ns) (A:=some a) (A':=A') (c:=cap) (c':=c') (iN w0) (iN w1) hs (by rw[hlm];exact hl) hn4 hns ?_
     ·rw[hlm]at this;exact this
     ·intro hp;rw[hlm]at hp;obtain⟨b,off,spot⟩:=a;obtain⟨q0,q1,q2,q3,q4,h0,-⟩:=hT 0 hp;obtain rfl:spot=none:=by simpa[Addr.add]using World.cell?_spot h0
      refine⟨b,off,rfl,?_,LVs.intro fun j hj=> ?_⟩
      ·rw[cq]at h0;exact World.block_lt_of_cell? W _ h0
      ·rw[hlm]at hj;obtain⟨q0,q1,q2,q3,q4,h0,h1,h2,h3,h4,hv⟩:=hT j hj;simp only[cq]at h0 h1 h2 h3 h4;exact⟨q0,q1,q2,q3,q4,h0,h1,h2,h3,h4,by simpa using hv⟩
end
end Go.Proofs.YtgbopnlpaabelaaGreatDoor
/- The index that a step says. -/
namespace Go.Proofs.YtgbopnlpaabelaaGreatDoor
open Lib (hid)
open Go.RowKit
def fc :Nat→List UInt8→Option Nat
 |n,[]=>some n
 |n,b::r=>if b.toNat<48∨57<b.toNat then none else if 999<10 * n+(b.toNat - 48)then none else fc (10 * n+(b.toNat - 48)) r
def fV (l:List UInt8):Option Nat:=if l= []∨(l.head? =some 48∧l.length≠1)then none else fc 0 l
def iY (l:List UInt8)(w:World)(e:Ending)(w':World):Prop:=(match fV l with|some n=>e= .returned (.tuple #[.int .i64 n,.bool true])|none=>e= .returned (.tuple #[.int .i64 0,.bool false]))∧Below w.heap.size w w'
theorem iY.none {l:List UInt8}{w w':World}(h:fV l=none)(hb:Below w.heap.size w w'):iY l w (.returned (.tuple #[.int .i64 0,.bool false])) w':=by unfold iY;rw[h];exact⟨rfl,hb⟩
theorem iY.some {l:List UInt8}{w w':World}{n:Nat}{k:Int}(h:fV l=some n)(hk:k=n)(hb:Below w.heap.size w w'):iY l w (.returned (.tuple #[.int .i64 k,.bool true])) w':=by unfold iY;rw[h,hk];exact⟨rfl,hb⟩
theorem fG (w:World)(s:ByteArray)(k:Nat):Below w.heap.size w (w.iter s k):=(Below.refl _ _).alloc (Nat.le_refl _) _
theorem uF {s:ByteArray}(h0:0<s.size)(h: ¬(s[0].toNat=48∧ ¬s.toList= [48])):fV s.data.toList=fc 0 s.data.toList:=by
 unfold fV;rw[if_neg];rintro(h1|⟨h1,h2⟩)
 ·have h2:=congrArg List.length h1;have hl:s.data.toList.length=s.size:=rfl;rw[hl,List.length_nil]at h2;omega
 ·have e:s.data.toList[0]? =some s[0]:=by rw[List.getElem?_eq_getElem (by exact h0)];rfl
  rw[List.head?_eq_getElem?,e]at h1;injection h1 with h1
  refine h ⟨by rw[h1];rfl,fun h3=>h2 ?_⟩;rw[ByteArray.toList_eq]at h3;rw[h3];rfl
theorem pu {s:ByteArray}(h0:0<s.size)(h:s[0].toNat=48)(h2: ¬s.toList= [48]):fV s.data.toList=none:=by
 unfold fV;rw[if_pos];refine .inr ⟨?_,fun h3=>h2 ?_⟩
 ·have e:s.data.toList[0]? =some s[0]:=by rw[List.getElem?_eq_getElem (by exact h0)];rfl
  rw[List.head?_eq_getElem?,e];exact congrArg some (UInt8.toNat_inj.1 h)
 ·rw[ByteArray.toList_eq];have e:s.data.toList[0]? =some s[0]:=by rw[List.getElem?_eq_getElem (by exact h0)];rfl
  match hl:s.data.toList,h3 with
  | [b],_=>
   rw[hl]at e;injection e with e
   rw[e];exact congrArg (fun x=>[x]) (UInt8.toNat_inj.1 h)
theorem iq {s:ByteArray}{k m:Nat}(h:k<s.size)(hb:s[k].toNat<48∨57<s[k].toNat):fc m (s.data.toList.drop k)=none:=by
 rw[kM s k h];unfold fc;rw[if_pos hb]
theorem ul {s:ByteArray}{k m:Nat}(h:k<s.size)(hb: ¬(s[k].toNat<48∨57<s[k].toNat))(hl:999<10 * m+(s[k].toNat - 48)):fc m (s.data.toList.drop k)=none:=by
 rw[kM s k h];unfold fc;rw[if_neg hb,if_pos hl]
theorem uJ {s:ByteArray}{k m:Nat}(h:k<s.size)(hb: ¬(s[k].toNat<48∨57<s[k].toNat))(hl: ¬999<10 * m+(s[k].toNat - 48)):fc m (s.data.toList.drop k)=fc (10 * m+(s[k].toNat - 48)) (s.data.toList.drop (k+1)):=by
 rw[kM s k h];conv=>lhs;unfold fc
 rw[if_neg hb,if_neg hl]
theorem oV (s:ByteArray)(w:World)(hs:s.size≤140737488351232):Calls Tryz.prog 164 #[.string s] w (iY s.data.toList w):=by
 have HS:=hid hs;clear hs;by_cases h0:s.size=0
 ·have e0:s.toList= []:=fA.2 h0;have E0:=hid e0;go_enter Tryz.func164,Tryz.ntmps164;go_wp2_with fail
  go_ret2
  exact iY.none (by unfold fV;rw[if_pos (.inl (by rw[←ByteArray.toList_eq];exact E0.out))]) (Below.refl _ _)
 ·have e0:s.toList.isEmpty=false:=by
   rw[←Bool.not_eq_true,kg];exact h0
  have h1:0<s.size:=by omega
  have H1:=hid h1;by_cases c1:s[0].toNat=48∧ ¬s.toList= [48]
  ·have b1:(s[0].toNat:Int)=48:=by omega
   have b2:(!s.toList == [48])=true:=by simpa using c1.2
   have C1:=hid c1;clear c1;go_enter Tryz.func164,Tryz.ntmps164;go_wp2_with fail
   go_ret2
   exact iY.none (pu H1.out C1.out.1 C1.out.2) (Below.refl _ _)
  ·have HI:=hid (uF h1 c1)
   have c2:((s[0].toNat:Int)=48∧(!s.toList == [48])=false)∨(((s[0].toNat:Int) == 48)=false∧ ¬(s[0].toNat:Int)=48):=by
    by_cases c3:s[0].toNat=48
    ·refine .inl ⟨by omega,?_⟩;have c4:s.toList= [48]:=Classical.byContradiction fun h=>c1 ⟨c3,h⟩;simpa using c4
    ·exact .inr ⟨beq_eq_false_iff_ne.2 (by omega),by omega⟩
   clear c1;rcases c2 with ⟨b1,b2⟩|⟨b1,b2⟩
   all_goals
    go_enter Tryz.func164,Tryz.ntmps164;go_wp2_with fail
    go_loopw [4] (fun n wr=> ∃k m:Nat,n= .int .i64 m∧m≤999∧k≤s.size∧wr=w.iter s k∧Hid (fc m (s.data.toList.drop k)=fc 0 s.data.toList)) (fun _ wr=>s.size - wr.iterPos w.heap.size)
    case atStart=>exact⟨0,0,rfl,by omega,by omega,rfl,rfl⟩
    case round=>
     obtain⟨k,m,rfl,hm,hk,rfl,HF⟩:=hrel;by_cases hp:k<s.size
     ·by_cases h8:s[k].toNat<128
      ·have hd:(Utf8.decode s k)=(s[k].toNat,1):=decode_ascii s k hp h8;have hnx: ∀ty,(Instr.next (.pointer (some ⟨w.heap.size,0,none⟩)) true ty).run Tryz.prog (w.iter s k)=_:=fun ty=>run_next_any w s k ty hp;rw[hd]at hnx;clear hd;by_cases hb:s[k].toNat<48∨57<s[k].toNat
       ·have HB:=hid hb;by_cases hc:(s[k].toNat:Int)<48
        ·clear hb;go_wp2_with fail
         go_ret2
         exact iY.none (by rw[HI.out,←HF.out,iq hp HB.out]) (fG _ _ _)
        ·have hc2:(48:Int)≤(s[k].toNat:Int):=by omega
         have hc3:(57:Int)<(s[k].toNat:Int):=by omega
         clear hb hc;go_wp2_with fail
         go_ret2
         exact iY.none (by rw[HI.out,←HF.out,iq hp HB.out]) (fG _ _ _)
       ·have HB:=hid hb;have b1:(48:Int)≤(s[k].toNat:Int):=by omega
        have b2:(s[k].toNat:Int)≤57:=by omega
        have m1:(m:Int)≤999:=by omega
        clear hb;by_cases hl:999<10 * m+(s[k].toNat - 48)
        ·have HL:=hid hl;have l1:(999:Int)<10 * m+((s[k].toNat:Int) - 48):=by omega
         clear hl;go_wp2_with fail
         go_ret2
         exact iY.none (by rw[HI.out,←HF.out,ul hp HB.out HL.out]) (fG _ _ _)
        ·have HL:=hid hl;have l1:10 * (m:Int)+((s[k].toNat:Int) - 48)≤999:=by omega
         clear hl;go_wp2_with fail
         go_roundw
         case rel=>exact⟨k+1,10 * m+(s[k].toNat - 48),by congr 1;omega,by have:=HL.out;omega,by omega,rfl,(uJ hp HB.out HL.out).symm.trans HF.out⟩
         case measure=>simp;omega
      ·have hd:=decode_high s k hp (by omega);have hnx: ∀ty,(Instr.next (.pointer (some ⟨w.heap.size,0,none⟩)) true ty).run Tryz.prog (w.iter s k)=_:=fun ty=>run_next_any w s k ty hp;obtain⟨r,hr⟩: ∃r,r=(Utf8.decode s k).1:=⟨_,rfl⟩;rw[←hr]at hnx hd;have hd1:(57:Int)<(r:Int):=by omega
       have hd2:(48:Int)≤(r:Int):=by omega
       have HB:Hid (s[k].toNat<48∨57<s[k].toNat):=by show _∨_;omega
       clear hr hd;go_wp2_with fail
       go_ret2
       exact iY.none (by rw[HI.out,←HF.out,iq hp HB.out]) (fG _ _ _)
     ·have hnx: ∀ty,(Instr.next (.pointer (some ⟨w.heap.size,0,none⟩)) true ty).run Tryz.prog (w.iter s k)=_:=fun ty=>run_next_end w s k ty hp;go_wp2_with fail
      go_ret2
      exact iY.some (by rw[HI.out,←HF.out,List.drop_of_length_le (by show s.size≤k;omega)];rfl) rfl (fG _ _ _)
/-! ### by the document -/
theorem oH : ∀(j n:Nat) (l:List UInt8),10 ^ j≤n→3≤l.length+j→0<l.length→j≤2→fc n l=none
 |j,n,[],_,_,h,_=>absurd h (by simp)
 |j,n,b::r,hn,hl,_,hj=>by
  unfold fc
  split
  ·rfl
  ·split
   ·rfl
   ·next hb hv=>
    have hp:0<10 ^ j:=Nat.pow_pos (by omega);have e:(10:Nat) ^ (j+1)=10 * 10 ^ j:=by rw[Nat.pow_succ];omega
    by_cases h2:j=2
    ·subst h2;omega
    ·refine oH (j+1) _ r (by omega) (by simp at hl;omega) (by simp at hl;omega) (by omega)
theorem wB {l:List UInt8}(h:3<l.length):fV l=none:=by
 unfold fV
 split
 ·rfl
 ·next hc=>
  match l,h with
  |b::r,h=>
   unfold fc
   split
   ·rfl
   ·split
    ·rfl
    ·next hb hv=>
     have h48:b.toNat≠48:=fun h3=>hc (.inr ⟨congrArg some (UInt8.toNat_inj.1 h3),by omega⟩);exact oH 0 _ r (by simp;omega) (by simp at h;omega) (by simp at h;omega) (by omega)
def ed (l:List UInt8):Int:=match fV l with|some n=>n|none=> -1
theorem dH {l:List UInt8}(h:fV l=none):ed l= -1:=by unfold ed;rw[h]
theorem ge {l:List UInt8}{n:Nat}(h:fV l=some n):ed l=n:=by unfold ed;rw[h]
theorem gg {a b:Int}(h:a=b):Ending.returned (.int .i64 a)= .returned (.int .i64 b):=by rw[h]
theorem tT {k m:Nat}(h:m<10 ^ k)(hk:k<3)(d:Nat)(hd:d≤9):10 * m+d<10 ^ (k+1)∧10 * m+d≤999:=by
 have e:(10:Nat) ^ (k+1)=10 * 10 ^ k:=by rw[Nat.pow_succ];omega
 have h3:(10:Nat) ^ k≤10 ^ 2:=Nat.pow_le_pow_right (by omega) (by omega);have:(10:Nat) ^ 2=100:=by decide
 omega
theorem ti (s:ByteArray)(w:World)(hs:s.size≤140737488351232):Calls Tryz.prog 87 #[.string s] w fun e w'=>e= .returned (.int .i64 (ed s.data.toList))∧w=w':=by
 have HS:=hid hs;have hlen:s.data.toList.length=s.size:=rfl;have HL:=hid hlen;clear hs hlen;by_cases h1:s.size<1
 ·have h1':(s.size:Int)<1:=by omega
  go_enter Tryz.func87,Tryz.ntmps87;go_wp2_with fail;go_ret;exact⟨gg (dH (by unfold fV;rw[if_pos (.inl (List.eq_nil_of_length_eq_zero (by have:=HL.out;omega)))])).symm,rfl⟩
 ·by_cases h3:3<s.size
  ·have h1':(1:Int)≤(s.size:Int):=by omega
   have h3':(3:Int)<(s.size:Int):=by omega
   have H3:=hid h3;clear h1 h3;go_enter Tryz.func87,Tryz.ntmps87;go_wp2_with fail;go_ret;exact⟨gg (dH (wB (by have:=HL.out;have:=H3.out;omega))).symm,rfl⟩
  ·have h0:0<s.size:=by omega
   have h1':(1:Int)≤(s.size:Int):=by omega
   have h3':(s.size:Int)≤3:=by omega
   have H3:=hid (show 0<s.size∧s.size≤3 from⟨h0,by omega⟩);clear h1 h3;by_cases c1:s[0].toNat=48∧1<s.size
   ·have b1:(s[0].toNat:Int)=48:=by omega
    have b2:(1:Int)<(s.size:Int):=by omega
    have C1:=hid c1;clear c1;go_enter Tryz.func87,Tryz.ntmps87;go_wp2_with fail;go_ret
    exact⟨gg (dH (pu H3.out.1 C1.out.1 fun h=>by
     have h4:=congrArg List.length h;rw[ByteArray.toList_eq,HL.out,List.length_singleton]at h4
     have:=C1.out.2;omega)).symm,rfl⟩
   ·have HI:=hid (uF h0 fun h=>c1 ⟨h.1,Classical.byContradiction fun h4=>h.2 (by
     have h5:s.data.toList.length=1:=by have:=HL.out;omega
     have e:s.data.toList[0]? =some s[0]:=by rw[List.getElem?_eq_getElem (by exact h0)];rfl
     rw[ByteArray.toList_eq]
     match hl:s.data.toList,h5 with
     | [b],_=>
      rw[hl]at e;injection e with e
      rw[e]
      exact congrArg (fun x=>[x]) (UInt8.toNat_inj.1 h.1))⟩)
    have c2:((s[0].toNat:Int)=48∧(s.size:Int)≤1)∨(((s[0].toNat:Int) == 48)=false∧ ¬(s[0].toNat:Int)=48):=by
     by_cases c3:s[0].toNat=48
     ·exact .inl ⟨by omega,by omega⟩
     ·exact .inr ⟨beq_eq_false_iff_ne.2 (by omega),by omega⟩
    clear c1;rcases c2 with ⟨b1,b2⟩|⟨b1,b2⟩
    all_goals
     go_enter Tryz.func87,Tryz.ntmps87;go_wp2_with fail
     go_loopw [3,4] (fun n i wr=> ∃k m:Nat,i= .int .i64 k∧n= .int .i64 m∧m≤999∧k≤s.size∧wr=w∧Hid (m<10 ^ k∧fc m (s.data.toList.drop k)=fc 0 s.data.toList)) (fun _ i _=>s.size - (intOf i).toNat)
     case atStart=>exact⟨0,0,rfl,rfl,by omega,by omega,rfl,by simp,rfl⟩
     case round=>
      obtain⟨k,m,rfl,rfl,hm,hk,rfl,HF⟩:=hrel;by_cases hp:k<s.size
      ·by_cases hb:s[k].toNat<48∨57<s[k].toNat
       ·have HB:=hid hb;by_cases hc:(s[k].toNat:Int)<48
        ·clear hb;go_wp2_with fail;go_ret;exact⟨gg (dH (by rw[HI.out,←HF.out.2,iq hp HB.out])).symm,rfl⟩
        ·have hc2:(48:Int)≤(s[k].toNat:Int):=by omega
         have hc3:(57:Int)<(s[k].toNat:Int):=by omega
         clear hb hc;go_wp2_with fail;go_ret;exact⟨gg (dH (by rw[HI.out,←HF.out.2,iq hp HB.out])).symm,rfl⟩
       ·have HB:=hid hb;have hd:=tT HF.out.1 (by omega) (s[k].toNat - 48) (by omega);have HD:=hid hd;have b1:(48:Int)≤(s[k].toNat:Int):=by omega
        have b2:(s[k].toNat:Int)≤57:=by omega
        have m1:(m:Int)≤999:=by omega
        clear hb hd;go_wp2_with fail
        go_roundw
        case rel=>exact⟨k+1,10 * m+(s[k].toNat - 48),by go_num,by congr 1;omega,HD.out.2,by omega,trivial,HD.out.1,(uJ hp HB.out (by have:=HD.out.2;omega)).symm.trans HF.out.2⟩
        case measure=>simp[intOf];omega
      ·go_wp2_with fail;go_ret;exact⟨gg (ge (by rw[HI.out,←HF.out.2,List.drop_of_length_le (by show s.size≤k;omega)];rfl)).symm,rfl⟩
end Go.Proofs.YtgbopnlpaabelaaGreatDoor
