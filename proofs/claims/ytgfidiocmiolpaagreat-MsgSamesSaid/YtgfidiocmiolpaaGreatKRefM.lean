/- Which values may be, as the document's answer has it. -/
import Derived.Test.YtgfidiocmiolpaaGreatKLook
import Derived.Test.YtgfidiocmiolpaaGreatKValB
import Derived.Test.YtgfidiocmiolpaaGreatKValM
set_option maxHeartbeats 64000000
set_option maxRecDepth 100000
set_option linter.unusedVariables false
set_option linter.unusedSimpArgs false
namespace Go.Proofs.YtgfidiocmiolpaaGreat
open Lib (hid)
open Go.RowKit
theorem p9 {k i:Int}{s:ByteArray}{n:Nat}{ns:List ByteArray}(h:aL k i s n ns=true): ∀x∈ns,bP x.data.toList=true:=by
 unfold aL at h;by_cases h1:k=1
 ·simp[h1]at h;rw[h.2.2];simp
 ·by_cases h2:k=2
  ·simp[h2]at h;rw[h.2.2];simp
  ·by_cases h3:k=3
   ·simp[h3]at h;rw[h.2.2];simp
   ·by_cases h4:k=4∨k=5
    ·simp[h1,h2,h3,h4]at h;rw[h.2.2];simp
    ·by_cases h6:k=6
     ·simp[h6]at h;rw[h.2];simp
     ·by_cases h7:k=7
      ·simp[h7]at h;exact(ef.1 h.2).1
      ·simp[h1,h2,h3,h4,h6,h7]at h
theorem kt (t:VT):ba t=(aL t.kind t.num t.text t.items.length t.names && dE t.items):=by
 cases t;unfold ba lp;rfl
theorem kW : ∀ {l:List VT},(∀j (h:j<l.length),ba l[j]=true)→dE l=true
 | [],_=>by unfold dE;rfl
 |t::r,h=>by
  unfold dE;rw[Bool.and_eq_true]
  exact⟨h 0 (by simp),kW fun j hj=>by
   have:=h (j+1) (by simpa using hj)
   rwa[List.getElem_cons_succ]at this⟩
theorem lu {ns:List ByteArray}(h: ∀j (h:j<ns.length),bP (ns[j]).data.toList=true):aZ ns=true↔ns.Nodup:=by
 rw[ef]
 exact⟨fun h=>h.2,fun h2=>⟨fun s hs=>by
  obtain⟨j,hj,rfl⟩:=List.mem_iff_getElem.1 hs
  exact h j hj,h2⟩⟩
theorem qr {ns:List ByteArray}{r:Bool}(h:aZ ns=true↔ns.Nodup)(hr:r=true↔ ¬ns.Nodup):aZ ns= !r :=by
 cases r
 ·have:ns.Nodup:=Classical.byContradiction fun hn=>by have:=hr.2 hn;cases this
  rw[h.2 this];rfl
 ·have: ¬ns.Nodup:=hr.1 rfl;have:aZ ns=false:=Bool.eq_false_iff.2 fun hd=>this (h.1 hd);rw[this];rfl
theorem ud (S:Nat→Prop): ∀(n:Nat) (t:VT) (v:Value) (w:World),ao t≤n→(∀b,S b→b<w.heap.size)→LV w S t v→
  Calls Tryz.prog 88 #[v] w fun e w'=>e= .returned (.bool (ba t))∧Below w.heap.size w w':=by
 intro n
 induction n with
 |zero=>intro t v w hd;cases t;rw[aH]at hd;omega
 |succ n ih=>
  intro t v w hd hS h;obtain⟨A,c,A',c',rfl,lens,a7,a6,v1,hb0⟩:=eG hS h;have LENS:=hid lens;have A7:=hid a7;have A6:=hid a6;have P0:=hid v1;have HB0:=hid hb0
  have HD:Hid (aN t.items≤n):=hid (by
   have hdt:ao t=aN t.items+1:=by cases t;exact aH _ _ _ _ _
   omega)
  have HR:=hid (kt t);generalize ba t=R at *;clear h lens a7 a6 v1 hb0 hd;go_enter Tryz.func88,Tryz.ntmps88;go_wp2_with fail
  go_loopw [3] (fun i wr=> ∃j:Nat,i= .int .i64 j∧j≤t.items.length∧Hid (∀x (_:x<t.items.length),x<j→ba t.items[x]=true)∧Hid (Below w.heap.size w wr)∧Hid (Vr wr S w.heap.size t A c A' c')) (fun i _=>t.items.length - (intOf i).toNat)
  case atStart=>exact⟨0,rfl,Nat.zero_le _,hid (fun _ _ h=>absurd h (Nat.not_lt_zero _)),HB0,P0⟩
  case round=>
   obtain⟨j,rfl,hj,HE,HB,P⟩:=hrel;have k3:=P.out.x.c3;have hl:=LENS.out.1;by_cases hlt:j<t.items.length
   ·obtain⟨p,o,A2,e2,A3,e3,rfl,hp,h0,h1,h2,h3,h4,hx⟩:=fh hS A7.out HB.out j hlt;have HC:=hid (ih t.items[j] _ wr (Nat.le_trans (bz (List.getElem_mem hlt)) HD.out) P.out.s hx);obtain⟨C,hC⟩: ∃C,C=ba t.items[j]:=⟨_,rfl⟩;rw[←hC]at HC;have HCC:=hid hC;clear hx hp hC;go_wp2_with fail;refine HC.out.mono ?_;rintro e w2 ⟨rfl,hb⟩;have P2:=hid (P.out.call hb);have HB2:=hid (aw HB.out hb);clear hb HC k3 h0 h1 h2 h3 h4 P HB P0 HB0;cases C
    ·have HF:Hid (R=false):=hid (by
      rw[HR.out,Bool.and_eq_false_iff];refine .inr (Bool.eq_false_iff.2 fun h=> ?_);have h1:=cl h (List.getElem_mem hlt)
      rw[←HCC.out]at h1;cases h1)
     go_wp2_with fail;go_ret;exact⟨aE HF.out.symm,HB2.out⟩
    ·go_wp2_with fail
     go_roundw
     case rel=>exact⟨j+1,by go_num,by omega,hid (fun x hx hxj=>by
      by_cases e:x=j
      ·subst e;exact HCC.out.symm
      ·exact HE.out x hx (by omega)),HB2,P2⟩
     case measure=>simp[intOf];omega
   ·have HML:Hid (dE t.items=true):=hid (kW fun x hx=>HE.out x hx (by omega));have HR2:Hid (R=aL t.kind t.num t.text t.items.length t.names):=hid (by rw[HR.out,HML.out,Bool.and_true]);clear HR HE HML P0 HB0;go_wp2_with fail;clear k3 hl hlt hj
    go_loopw [4] (fun i wr=> ∃m:Nat,i= .int .i64 m∧m≤t.names.length∧Hid (∀x (_:x<t.names.length),x<m→bP (t.names[x]).data.toList=true)∧Hid (Below w.heap.size w wr)∧Hid (Vr wr S w.heap.size t A c A' c')) (fun i _=>t.names.length - (intOf i).toNat)
    case atStart=>exact⟨0,rfl,Nat.zero_le _,hid (fun _ _ h=>absurd h (Nat.not_lt_zero _)),HB,P⟩
    case round=>
     rename_i wr0 _ _ wr;clear P HB;obtain⟨m,rfl,hm,HE,HB,P⟩:=hrel;have k4:=P.out.x.c4;have hl2:=LENS.out.2;by_cases hlt:m<t.names.length
     ·obtain⟨p,o,rfl,hp,t1,hsz⟩:=j2 hS A6.out HB.out m hlt;obtain⟨s,hs⟩: ∃s,s=t.names[m]:=⟨_,rfl⟩;rw[←hs]at t1 hsz;have HS:=hid hs;have HSZ:=hid hsz;clear hp hs hsz;go_wp2_with fail;refine(mq s _ (by have:=HSZ.out;omega)).mono ?_;rintro e u ⟨rfl,rfl⟩;clear k4 t1;cases hC:bP s.data.toList
      ·have HF:Hid (R=false):=hid (by
        rw[HR2.out];refine Bool.eq_false_iff.2 fun h=> ?_;have h1:=p9 h _ (List.getElem_mem hlt)
        rw[←HS.out,hC]at h1;cases h1)
       clear hC;go_wp2_with fail;go_ret;exact⟨aE HF.out.symm,HB.out⟩
      ·have HC:=hid hC;clear hC;go_wp2_with fail
       go_roundw
       case rel=>exact⟨m+1,by go_num,by omega,hid (fun x hx hxj=>by
        by_cases e:x=m
        ·subst e;rw[←HS.out];exact HC.out
        ·exact HE.out x hx (by omega)),HB,P⟩
       case measure=>simp[intOf];omega
     ·have HD2:Hid (aZ t.names=true↔t.names.Nodup):=hid (lu fun x hx=>HE.out x hx (by omega));have TW:=hid (tf S A' c' t.names wr.drew (P.out.drew.s) ((A6.out.below hS HB.out).keep (fun _ _=>rfl)) LENS.out.2);clear HE hm;go_wp2_with fail;try simp only[List.append_eq,List.cons_append,List.nil_append]
      refine bV (by kernel_rfl) (by kernel_rfl) (fun _ d _ _ _ h=>by cases d<;>exact h) ?_;have q3:=aa (B:=wr.heap.size) (w:=wr.drew) P.out.x.c3 P.out.x.lt;have q4:=aa (B:=wr.heap.size) (w:=wr.drew) P.out.x.c4 P.out.x.lt;first|with_reducible refine ac ?_ |with_reducible refine ab ?_ |refine ac ?_ |refine ab ?_
      simp only[List.takeWhile,List.dropWhile,ai,Nat.reduceBNe];repeat(go_big_quiet_step (fail))
      first|with_reducible refine wpQuiet_nil ?_ |refine wpQuiet_nil ?_
      unfold aF;clear q3 q4 k4 hlt;have HBF:=hid HB.out.drew;have P3:=hid P.out.drew;have hl:=LENS.out.1;clear P HB;generalize wr.drew=wq at *;have k0:=P3.out.x.c0;have k1:=P3.out.x.c1;have k2:=P3.out.x.c2;have k4:=P3.out.x.c4;clear P3;generalize t.kind=kd at *;generalize t.num=i at *;generalize t.text=s at *;generalize t.items.length=nl at *;by_cases h1:kd=1
      ·subst h1;have HF:Hid (R=(decide (i=0) && decide (s.toList= []) && (nl == 0 && t.names.length == 0))):=hid (by rw[HR2.out];unfold aL;simp);clear HR2;clear TW HD2;go_wp2_with fail
       all_goals
        go_ret;exact⟨cM (by rw[HF.out];simp_all [aY,br]<;>(intros;omega)),HBF.out⟩
      by_cases h2:kd=2
      ·subst h2;have HF:Hid (R=((decide (i=0) || decide (i=1)) && decide (s.toList= []) && (nl == 0 && t.names.length == 0))):=hid (by rw[HR2.out];unfold aL;simp);clear HR2 h1;clear TW HD2;go_wp2_with fail
       all_goals
        go_ret;exact⟨cM (by rw[HF.out];simp_all [aY,br]<;>(intros;omega)),HBF.out⟩
      by_cases h3:kd=3
      ·subst h3;have HF:Hid (R=(decide (s.toList= []) && (nl == 0 && t.names.length == 0))):=hid (by rw[HR2.out];unfold aL;simp);clear HR2 h1 h2;clear TW HD2;go_wp2_with fail
       all_goals
        go_ret;exact⟨cM (by rw[HF.out];simp_all [aY,br]<;>(intros;omega)),HBF.out⟩
      by_cases h4:kd=4
      ·subst h4;have HF:Hid (R=(decide (i=0) && (nl == 0 && t.names.length == 0))):=hid (by rw[HR2.out];unfold aL;simp);clear HR2 h1 h2 h3;clear TW HD2;go_wp2_with fail
       all_goals
        go_ret;exact⟨cM (by rw[HF.out];simp_all [aY,br]<;>(intros;omega)),HBF.out⟩
      by_cases h5:kd=5
      ·subst h5;have HF:Hid (R=(decide (i=0) && (nl == 0 && t.names.length == 0))):=hid (by rw[HR2.out];unfold aL;simp);clear HR2 h1 h2 h3 h4;clear TW HD2;go_wp2_with fail
       all_goals
        go_ret;exact⟨cM (by rw[HF.out];simp_all [aY,br]<;>(intros;omega)),HBF.out⟩
      by_cases h6:kd=6
      ·subst h6;have HF:Hid (R=(decide (i=0) && decide (s.toList= []) && t.names.length == 0)):=hid (by rw[HR2.out];unfold aL;simp);clear HR2 h1 h2 h3 h4 h5;clear TW HD2;go_wp2_with fail
       all_goals
        go_ret;exact⟨cM (by rw[HF.out];simp_all [aY,br]<;>(intros;omega)),HBF.out⟩
      by_cases h7:kd=7
      ·subst h7;have HF:Hid (R=(decide (i=0) && decide (s.toList= []) && t.names.length == nl && aZ t.names)):=hid (by rw[HR2.out];unfold aL;simp);clear HR2 h1 h2 h3 h4 h5 h6;by_cases hn:t.names.length=nl
       ·have en:((t.names.length:Int) == (nl:Int))=true:=beq_iff_eq.2 (by omega);have HF:Hid (R=(decide (i=0) && decide (s.toList= []) && aZ t.names)):=hid (by rw[HF.out];simp[hn]);clear hn;go_wp2_with(go_at_call 120;refine TW.out.mono ?_;rintro e w' ⟨⟨r,rfl,hr⟩,hb⟩;have hdr:=hid (qr HD2.out hr);have hbf:=hid (aw HBF.out hb);clear hr hb)
        all_goals
         go_ret
         first
          |exact⟨cM (by rw[HF.out,hdr.out];simp_all [aY,br]),hbf.out⟩
          |exact⟨cM (by rw[HF.out];simp_all [aY,br]),HBF.out⟩
       ·have en:((t.names.length:Int) == (nl:Int))=false:=beq_eq_false_iff_ne.2 (by omega);have HF:Hid (R=false):=hid (by rw[HF.out];simp[hn]);clear hn TW HD2;go_wp2_with fail
        all_goals
         go_ret;exact⟨cM HF.out.symm,HBF.out⟩
      have HF:Hid (R=false):=hid (by rw[HR2.out];unfold aL;simp[h1,h2,h3,h4,h5,h6,h7]);have b1:(kd == 1)=false:=beq_eq_false_iff_ne.2 h1;have b2:(kd == 2)=false:=beq_eq_false_iff_ne.2 h2;have b3:(kd == 3)=false:=beq_eq_false_iff_ne.2 h3;have b4:(kd == 4)=false:=beq_eq_false_iff_ne.2 h4;have b5:(kd == 5)=false:=beq_eq_false_iff_ne.2 h5;have b6:(kd == 6)=false:=beq_eq_false_iff_ne.2 h6;have b7:(kd == 7)=false:=beq_eq_false_iff_ne.2 h7;clear HR2 TW HD2 h1 h2 h3 h4 h5 h6 h7;go_wp2_with fail;go_ret;exact⟨aE HF.out.symm,HBF.out⟩
section
variable {u :World} {S:Nat→Prop} {g g':Nat} {t t':VT} {A B:Option Addr} {c d:Nat} {A' B':Option Addr} {c' d':Nat}
theorem Vr.rmay (h:Vr u S g t A c A' c'){x:Bool}(hx:x=ba t):Calls Tryz.prog 88 #[.agg #[.int .i64 t.kind,.int .i64 t.num,.string t.text,.slice A t.items.length c,.slice A' t.names.length c']] u fun e u'=>e= .returned (.bool x)∧Below u.heap.size u u':=
 (ud S (ao t) t _ u (Nat.le_refl _) h.s h.v).mono fun _ _ h'=>⟨by rw[h'.1,hx],h'.2⟩
end
section
variable {u :World} {S:Nat→Prop} {g g':Nat} {t t':VT} {A B:Option Addr} {c d:Nat} {A' B':Option Addr} {c' d':Nat}
end
theorem kV {l:List VT}{j:Nat}(h:j<l.length):bG (l.drop j)=aK l[j]+bG (l.drop (j+1)):=by
 rw[List.drop_eq_getElem_cons h];conv=>lhs;unfold bG
theorem nU (a b c:Int):wrap64 (wrap64 a+wrap64 b+c)=wrap64 (a+b+c):=by unfold wrap64;omega
theorem cx :bG []=0:=by unfold bG;rfl
theorem rW {ns:List ByteArray}{j:Nat}(h:j<ns.length):dC (ns.drop j)=tsz ns[j]+dC (ns.drop (j+1)):=by
 rw[List.drop_eq_getElem_cons h];simp only[dC,List.map_cons,List.sum_cons]
theorem vl :dC []=0:=rfl
theorem tj (t:VT):aK t=cB t.kind t.num t.text t.items.length t.names+bG t.items:=by cases t;unfold aK;rfl
theorem jZ (s:ByteArray):(txt s).length=tsz s:=by unfold txt tsz;simp
theorem tr {k i:Int}{s:ByteArray}{n:Nat}{ns:List ByteArray}(h:aL k i s n ns=true):(k=1∨k=2∨k=3∨k=4∨k=5∨k=6∨k=7)∧(k≤5→n=0)∧(k=7→ns.length=n):=by
 unfold aL at h;by_cases h1:k=1
 ·simp[h1]at h;omega
 ·by_cases h2:k=2
  ·simp[h2]at h;omega
  ·by_cases h3:k=3
   ·simp[h3]at h;omega
   ·by_cases h4:k=4∨k=5
    ·simp[h1,h2,h3,h4]at h;omega
    ·by_cases h6:k=6
     ·simp[h6]at h;omega
     ·by_cases h7:k=7
      ·simp[h7]at h;omega
      ·simp[h1,h2,h3,h4,h6,h7]at h
theorem tn (S:Nat→Prop): ∀(n:Nat) (t:VT) (v:Value) (w:World),ao t≤n→ba t=true→(∀b,S b→b<w.heap.size)→LV w S t v→
  Calls Tryz.prog 90 #[v] w fun e w'=>e= .returned (.int .i64 (wrap64 (aK t)))∧Below w.heap.size w w':=by
 intro n
 induction n with
 |zero=>intro t v w hd;cases t;rw[aH]at hd;omega
 |succ n ih=>
  intro t v w hd hm hS h;have hrn:=h.shape;obtain⟨A,c,A',c',rfl,lens,a7,a6,v1,hb0⟩:=eG hS h;obtain⟨_,_,_,_,-,-,hri,hrs,-⟩:=hrn;have hm2:=kt t;rw[hm]at hm2;have hm3:=(Bool.and_eq_true _ _).mp hm2.symm;obtain⟨hk,hk5,hk7⟩:=tr hm3.1;have hml:=hm3.2
  have hdl:aN t.items≤n:=by
   have hdt:ao t=aN t.items+1:=by cases t;exact aH _ _ _ _ _
   omega
  have hz:=tj t;obtain⟨Z,hZ⟩: ∃Z,Z=aK t:=⟨_,rfl⟩;rw[←hZ]at hz ⊢;clear hm2 hm3 hZ hd hm h
  cases t with
  |mk kd num txs its nms=>
  simp only[VT.kind,VT.num,VT.text,VT.items,VT.names]at *;have HML:=hid hml;have HRI:=hid hri;have HRS:=hid hrs;have HK5:=hid hk5;have HK7:=hid hk7;have LENS:=hid lens;have A7:=hid a7;have A6:=hid a6;have P0:=hid v1;have HB0:=hid hb0;have HD:=hid hdl;have HZ:=hid hz;have hl:=LENS.out.1;clear lens a7 a6 v1 hb0 hk5 hk7 hri hrs hz hdl hml;have HKC:=hid hk;clear hk;go_enter Tryz.func90,Tryz.ntmps90;rcases HKC.out with rfl|rfl|rfl|rfl|rfl|rfl|rfl
  ·have HL0:Hid (its= []):=hid (List.eq_nil_of_length_eq_zero (HK5.out (by decide)));have HZ2:Hid ((1:Int)+((bG (its.drop 0):Nat):Int)=Z):=hid (by rw[HZ.out];unfold cB;simp);go_wp2_with fail;skip
   go_loopw [3,4] (fun n i wr=> ∃(j:Nat) (m:Int),n= .int .i64 (wrap64 m)∧i= .int .i64 j∧j≤its.length∧Hid (m+((bG (its.drop j):Nat):Int)=Z)∧Hid (Below w.heap.size w wr)∧Hid (Vr wr S w.heap.size (.mk 1 num txs its nms) A c A' c')) (fun _ i _=>its.length - (intOf i).toNat)
   case atStart=>exact⟨0,1,by rw[bC (by omega) (by omega)],rfl,Nat.zero_le _,HZ2,HB0,P0⟩
   case round=>
    obtain⟨j,m,rfl,rfl,hj,HI,HB,P⟩:=hrel;clear P0 HB0;have k3:wr.cell? ⟨w.heap.size,3,none⟩=some (.slice A its.length c):=P.out.x.c3;by_cases hlt:j<its.length
    ·exfalso;rw[HL0.out]at hlt;simp at hlt
    ·have HF:Hid (m=Z):=hid (by
      have h:=HI.out;rw[List.drop_eq_nil_of_le (by omega:its.length≤j),cx]at h
      omega)
     go_wp2_with fail;go_ret;exact⟨aG (by rw[HF.out]),HB.out⟩
  ·have HL0:Hid (its= []):=hid (List.eq_nil_of_length_eq_zero (HK5.out (by decide)));have HF:Hid (wrap64 Z=2):=hid (by rw[HZ.out,HL0.out,cx];unfold cB;simp;rw[bC (by omega) (by omega)]);go_wp2_with fail;go_ret;exact⟨aG HF.out.symm,HB0.out⟩
  ·have HL0:Hid (its= []):=hid (List.eq_nil_of_length_eq_zero (HK5.out (by decide)));have hg:=(al (zig num)).1;have HF:Hid (wrap64 Z=1+((grp (zig num)).length:Int)):=hid (by rw[HZ.out,HL0.out,cx];unfold cB;simp;rw[bC (by omega) (by omega)]);go_wp2_with fail;refine(uH num _ HRI.out.1 HRI.out.2).mono ?_;rintro e w1 ⟨v,rfl,hv,hb⟩;obtain⟨A2,c2,rfl⟩:=hv.slice;have HB:=hid (aw HB0.out hb);clear hv hb;go_wp2_with fail;go_ret;exact⟨aG HF.out.symm,HB.out⟩
  ·have HL0:Hid (its= []):=hid (List.eq_nil_of_length_eq_zero (HK5.out (by decide)));have hg:=j9 txs HRS.out;have HTL:=jZ txs;have HF:Hid (wrap64 Z=1+((txt txs).length:Int)):=hid (by rw[HTL,HZ.out,HL0.out,cx];unfold cB;simp;rw[bC (by omega) (by omega)]);have hg2:(txt txs).length≤140737488351300:=by omega
   clear hg HTL;go_wp2_with fail;refine(iW txs _ HRS.out).mono ?_;rintro e w1 ⟨v,rfl,hv,hb⟩;obtain⟨A2,c2,rfl⟩:=hv.slice;have HB:=hid (aw HB0.out hb);clear hv hb;go_wp2_with fail;go_ret;exact⟨aG HF.out.symm,HB.out⟩
  ·have HL0:Hid (its= []):=hid (List.eq_nil_of_length_eq_zero (HK5.out (by decide)));have hg:=j9 txs HRS.out;have HTL:=jZ txs;have HF:Hid (wrap64 Z=1+((txt txs).length:Int)):=hid (by rw[HTL,HZ.out,HL0.out,cx];unfold cB;simp;rw[bC (by omega) (by omega)]);have hg2:(txt txs).length≤140737488351300:=by omega
   clear hg HTL;go_wp2_with fail;refine(iW txs _ HRS.out).mono ?_;rintro e w1 ⟨v,rfl,hv,hb⟩;obtain⟨A2,c2,rfl⟩:=hv.slice;have HB:=hid (aw HB0.out hb);clear hv hb;go_wp2_with fail;go_ret;exact⟨aG HF.out.symm,HB.out⟩
  ·have hg:=(al its.length).1;have HZ2:Hid ((1+((grp its.length).length:Int))+((bG (its.drop 0):Nat):Int)=Z):=hid (by rw[HZ.out];unfold cB;simp<;>omega);go_wp2_with fail;refine(im its.length _ (by omega)).mono ?_;rintro e w1 ⟨v,rfl,hv,hb⟩;obtain⟨A2,c2,rfl⟩:=hv.slice;have P0:=hid (P0.out.call hb);have HB0:=hid (aw HB0.out hb);clear hv hb;go_wp2_with fail
   go_loopw [3,4] (fun n i wr=> ∃(j:Nat) (m:Int),n= .int .i64 (wrap64 m)∧i= .int .i64 j∧j≤its.length∧Hid (m+((bG (its.drop j):Nat):Int)=Z)∧Hid (Below w.heap.size w wr)∧Hid (Vr wr S w.heap.size (.mk 6 num txs its nms) A c A' c')) (fun _ i _=>its.length - (intOf i).toNat)
   case atStart=>exact⟨0,1+((grp its.length).length:Int),by rw[bC (by omega) (by omega)],rfl,Nat.zero_le _,HZ2,HB0,P0⟩
   case round=>
    obtain⟨j,m,rfl,rfl,hj,HI,HB,P⟩:=hrel;clear P0 HB0;have k3:wr.cell? ⟨w.heap.size,3,none⟩=some (.slice A its.length c):=P.out.x.c3;by_cases hlt:j<its.length
    ·obtain⟨p,o,A2,e2,A3,e3,rfl,hp,h0,h1,h2,h3,h4,hx⟩:=fh hS A7.out HB.out j hlt;have HC:=hid (ih its[j] _ wr (Nat.le_trans (bz (List.getElem_mem hlt)) HD.out) (cl HML.out (List.getElem_mem hlt)) P.out.s hx);have HI2:Hid (m+aK its[j]+((bG (its.drop (j+1)):Nat):Int)=Z):=hid (by rw[←HI.out,kV hlt];omega);generalize aK its[j]=C at *;clear hx hp HI;go_wp2_with fail;refine HC.out.mono ?_;rintro e w2 ⟨rfl,hb⟩;have P2:=hid (P.out.call hb);have HB2:=hid (aw HB.out hb);clear hb HC k3 h0 h1 h2 h3 h4 P HB;have k0:w2.cell? ⟨w.heap.size,0,none⟩=some (.int .i64 6):=P2.out.x.c0;go_wp2_with fail;clear k0
     go_roundw
     case rel=>exact⟨j+1,m+C,by rw[dM,jB],by go_num,by omega,HI2,HB2,P2⟩
     case measure=>simp[intOf];omega
    ·have HF:Hid (m=Z):=hid (by
      have h:=HI.out;rw[List.drop_eq_nil_of_le (by omega:its.length≤j),cx]at h
      omega)
     go_wp2_with fail;go_ret;exact⟨aG (by rw[HF.out]),HB.out⟩
  ·have hg:=(al its.length).1;have HZ2:Hid ((1+((grp its.length).length:Int))+((bG (its.drop 0)+dC (nms.drop 0):Nat):Int)=Z):=hid (by rw[HZ.out];unfold cB;simp<;>omega);go_wp2_with fail;refine(im its.length _ (by omega)).mono ?_;rintro e w1 ⟨v,rfl,hv,hb⟩;obtain⟨A2,c2,rfl⟩:=hv.slice;have P0:=hid (P0.out.call hb);have HB0:=hid (aw HB0.out hb);clear hv hb;go_wp2_with fail
   go_loopw [3,4] (fun n i wr=> ∃(j:Nat) (m:Int),n= .int .i64 (wrap64 m)∧i= .int .i64 j∧j≤its.length∧Hid (m+((bG (its.drop j)+dC (nms.drop j):Nat):Int)=Z)∧Hid (Below w.heap.size w wr)∧Hid (Vr wr S w.heap.size (.mk 7 num txs its nms) A c A' c')) (fun _ i _=>its.length - (intOf i).toNat)
   case atStart=>exact⟨0,1+((grp its.length).length:Int),by rw[bC (by omega) (by omega)],rfl,Nat.zero_le _,HZ2,HB0,P0⟩
   case round=>
    obtain⟨j,m,rfl,rfl,hj,HI,HB,P⟩:=hrel;clear P0 HB0;have k3:wr.cell? ⟨w.heap.size,3,none⟩=some (.slice A its.length c):=P.out.x.c3;by_cases hlt:j<its.length
    ·obtain⟨p,o,A2,e2,A3,e3,rfl,hp,h0,h1,h2,h3,h4,hx⟩:=fh hS A7.out HB.out j hlt;have HC:=hid (ih its[j] _ wr (Nat.le_trans (bz (List.getElem_mem hlt)) HD.out) (cl HML.out (List.getElem_mem hlt)) P.out.s hx);have ia:j<nms.length:=by have:=HK7.out (by simp);omega
     have HI2:Hid (m+aK its[j]+tsz nms[j]+((bG (its.drop (j+1))+dC (nms.drop (j+1)):Nat):Int)=Z):=hid (by rw[←HI.out,kV hlt,rW ia];omega);generalize aK its[j]=C at *;clear hx hp HI;go_wp2_with fail;refine HC.out.mono ?_;rintro e w2 ⟨rfl,hb⟩;have P2:=hid (P.out.call hb);have HB2:=hid (aw HB.out hb);clear hb HC k3 h0 h1 h2 h3 h4 P HB;have k0:w2.cell? ⟨w.heap.size,0,none⟩=some (.int .i64 7):=P2.out.x.c0;obtain⟨p',o',rfl,hp,t1,hsz⟩:=j2 hS A6.out HB2.out j ia;have k4:w2.cell? ⟨w.heap.size,4,none⟩=some (.slice (some ⟨p',o',none⟩) nms.length c'):=P2.out.x.c4;have hl2:=LENS.out.2;obtain⟨sn,hs⟩: ∃s,s=nms[j]:=⟨_,rfl⟩;rw[←hs]at t1 hsz HI2;have HSZ:=hid hsz;clear hp hs hsz;go_wp2_with fail;refine(iW sn _ HSZ.out).mono ?_;rintro e w3 ⟨v,rfl,hv,hb⟩;obtain⟨A9,c9,rfl⟩:=hv.slice;have P3:=hid (P2.out.call hb);have HB3:=hid (aw HB2.out hb);have HTL:=hid (jZ sn);clear hv hb k4 t1 P2 HB2 k0;go_wp2_with fail
     go_roundw
     case rel=>exact⟨j+1,m+C+tsz sn,by rw[HTL.out,dM,nU],by go_num,by omega,HI2,HB3,P3⟩
     case measure=>simp[intOf];omega
    ·have HF:Hid (m=Z):=hid (by
      have hne:nms.length≤j:=by have:=HK7.out (by simp);omega
      have h:=HI.out;rw[List.drop_eq_nil_of_le (by omega:its.length≤j),cx,List.drop_eq_nil_of_le hne,vl]at h
      omega)
     go_wp2_with fail;go_ret;exact⟨aG (by rw[HF.out]),HB.out⟩
theorem il (S:Nat→Prop)(t:VT)(v:Value)(w:World)(hd:ao t≤4611686018427387903)(hS: ∀b,S b→b<w.heap.size)(h:LV w S t v):
  Calls Tryz.prog 54 #[v] w fun e w'=>e= .returned (.int .i64 (aX t))∧Below w.heap.size w w':=by
 obtain⟨A,c,A',c',rfl,-,-,-,v1,hb0⟩:=eG hS h;have P:=hid v1;have HB:=hid hb0;have HR:Hid (aX t=if ba t=true then(if 8<(ao t:Int)then 21 else if 4096<wrap64 (aK t)then 22 else 0)else 20):=hid rfl;obtain⟨R,hR⟩: ∃R,R=aX t:=⟨_,rfl⟩;rw[←hR]at HR ⊢;obtain⟨x,hx⟩: ∃x,x=ba t:=⟨_,rfl⟩;rw[←hx]at HR;have HX:=hid hx;have HD:=hid hd;clear h v1 hb0 hR hx hd;go_enter Tryz.func54,Tryz.ntmps54;go_wp2_with fail;refine(P.out.rmay HX.out).mono ?_;rintro e w1 ⟨rfl,hb⟩;have P1:=hid (P.out.call hb);have HB1:=hid (aw HB.out hb);clear hb P HB;cases x
 ·have HF:Hid (R=20):=hid (by rw[HR.out];simp);clear HR HX P1;go_wp2_with fail;go_ret;exact⟨aG HF.out.symm,HB1.out⟩
 ·have HR2:Hid (R=if 8<(ao t:Int)then 21 else if 4096<wrap64 (aK t)then 22 else 0):=hid (by rw[HR.out];simp);have HDC:=hid (qM S 4611686018427387903 t _ w1 HD.out (Nat.le_refl _) P1.out.s P1.out.v);have q0:=P1.out.x.c0;have q1:=P1.out.x.c1;have q2:=P1.out.x.c2;have q3:=P1.out.x.c3;have q4:=P1.out.x.c4;clear HR;go_wp2_with fail;refine HDC.out.mono ?_;rintro e w2 ⟨rfl,hb⟩;have P2:=hid (P1.out.call hb);have HB2:=hid (aw HB1.out hb);clear hb P1 HB1 HDC q0 q1 q2 q3 q4;by_cases h8:8<(ao t:Int)
  ·have HF:Hid (R=21):=hid (by rw[HR2.out,if_pos h8]);clear HR2 HX P2;go_wp2_with fail;go_ret;exact⟨aG HF.out.symm,HB2.out⟩
  ·have HR3:Hid (R=if 4096<wrap64 (aK t)then 22 else 0):=hid (by rw[HR2.out,if_neg h8]);have HSC:=hid (tn S (ao t) t _ w2 (Nat.le_refl _) HX.out.symm P2.out.s P2.out.v);have q0:=P2.out.x.c0;have q1:=P2.out.x.c1;have q2:=P2.out.x.c2;have q3:=P2.out.x.c3;have q4:=P2.out.x.c4;clear HR2 HX;go_wp2_with fail;refine HSC.out.mono ?_;rintro e w3 ⟨rfl,hb⟩;have HB3:=hid (aw HB2.out hb);clear hb P2 HB2 HSC q0 q1 q2 q3 q4 h8;generalize wrap64 (aK t)=C at *;by_cases hz:4096<C
   ·have HF:Hid (R=22):=hid (by rw[HR3.out,if_pos hz]);clear HR3;go_wp2_with fail;go_ret;exact⟨aG HF.out.symm,HB3.out⟩
   ·have HF:Hid (R=0):=hid (by rw[HR3.out,if_neg hz]);clear HR3;go_wp2_with fail;go_ret;exact⟨aG HF.out.symm,HB3.out⟩
theorem qe (most:Nat)(st:Option (List UInt8)):(rdN most st).1≤most:=by
 cases st with
 |none=>simp[rdN]
 |some l=>
  simp only[rdN]
  split
  ·simp
  ·simp only[];omega
theorem iq (g:Nat)(st:Option (List UInt8))(n:Int)(w:World)(h:cm w g st)(h2:n≤9223372036854775807):
  Calls Tryz.prog 69 #[.pointer (some ⟨g,0,none⟩),.int .i64 n] w fun e w'=>e= .returned (.int .i64 (aj n st).1)∧cm w' g (aj n st).2∧aJ w w' g:=by
 have H:=hid h;clear h;by_cases h0:n<0
 ·have HR:Hid (aj n st=(0,none)):=by unfold aj;rw[if_pos h0];exact rfl
  clear h2
  obtain⟨s,b,hs⟩: ∃s b,Src w g s b:=by
   cases st with
   |none=>exact⟨_,_,H.out⟩
   |some l=>exact⟨_,_,H.out.1⟩
  have HS:=hid hs;clear hs;go_enter Tryz.func69,Tryz.ntmps69;go_wp2_with fail;refine(jg g s b _ HS.out).mono ?_;rintro e w1 ⟨rfl,hs1,ho⟩;go_wp2_with fail;go_ret;rw[HR.out];exact⟨rfl,hs1,ho⟩
 ·have HR:Hid (aj n st=rdN (mc n) st):=by unfold aj;rw[if_neg h0];exact rfl
  have hm2:mc n≤4611686018427387904:=by unfold mc;split<;>omega
  have hle:=qe (mc n) st;have hle2:(((rdN (mc n) st).1:Nat):Int)≤4611686018427387904:=by omega
  by_cases h3:n≤4611686018427387904
  ·have HM:Hid (n=(mc n:Int)):=by show n=(mc n:Int);unfold mc;rw[if_pos h3];omega
   clear hle hm2;go_enter Tryz.func69,Tryz.ntmps69;go_wp2_with fail
   all_goals
    refine(lj g st _ (mc n) _ H.out (by have:=HM.out;omega)).mono ?_;rintro e w1 ⟨rfl,hs,ho⟩;go_wp2_with fail;go_ret;rw[HR.out];exact⟨rfl,hs,ho⟩
  ·have HM:Hid ((4611686018427387904:Int)=(mc n:Int)):=by show(4611686018427387904:Int)=(mc n:Int);unfold mc;rw[if_neg h3];rfl
   clear hle hm2;go_enter Tryz.func69,Tryz.ntmps69;go_wp2_with fail
   all_goals
    refine(lj g st _ (mc n) _ H.out HM.out).mono ?_;rintro e w1 ⟨rfl,hs,ho⟩;go_wp2_with fail;go_ret;rw[HR.out];exact⟨rfl,hs,ho⟩
theorem mx (s:ByteArray)(h:0<s.size):s.toList.isEmpty=false∧s.toList≠[]:=by
 have hl:s.toList.length=s.size:=by rw[ByteArray.toList_eq s];simp
 have hne:s.toList≠[]:=by intro e;rw[e]at hl;simp at hl;omega
 exact⟨by cases hh:s.toList with
  |nil=>exact absurd hh hne
  |cons a r=>rfl,hne⟩
theorem iu (s:ByteArray)(h:s.size=0):s.toList.isEmpty=true∧s.toList= []:=by
 have hl:s.toList.length=s.size:=by rw[ByteArray.toList_eq s];simp
 have hne:s.toList= []:=List.eq_nil_of_length_eq_zero (by omega);exact⟨by rw[hne];rfl,hne⟩
theorem qR (s:ByteArray)(w:World)(B:Nat)(hp:0<s.size)(hx:aO w B (.int .i64 0)):
  Calls Tryz.prog 104 #[.string s,.pointer (some ⟨B,0,none⟩)] w fun e w'=>e= .returned (.int .i64 1)∧w'=w.setCell ⟨B,0,none⟩ (.int .i64 (s[0].toNat:Int)):=by
 have c1:=hx.1;have f1:=hx.2.1;have hn1:=(mx s hp).1;have hn2:=(mx s hp).2;have hb:(s[0].toNat:Int)<256:=by have:=UInt8.toNat_lt s[0];omega
 clear hx;go_enter Tryz.func104,Tryz.ntmps104;go_wp2;go_ret;exact⟨rfl,rfl⟩
theorem qC (s:ByteArray)(w:World)(p:Value)(hp:s.size=0):
  Calls Tryz.prog 104 #[.string s,p] w fun e w'=>e= .returned (.int .i64 0)∧w'=w:=by
 have hn1:=(iu s hp).1;have hn2:=(iu s hp).2;clear hp;go_enter Tryz.func104,Tryz.ntmps104;go_wp2;go_ret;exact⟨rfl,rfl⟩
theorem mC (g:Nat)(st:Option (List UInt8))(w:World)(h:cm w g st):
  Calls Tryz.prog 68 #[.pointer (some ⟨g,0,none⟩)] w fun e w'=>e= .returned (.int .i64 (av st).1)∧cm w' g (av st).2∧aJ w w' g:=by
 have HX:aO (w.alloc (.cells #[.int .i64 0] 3)) w.heap.size (.int .i64 0):=aO.new w _ _;have H1:=h.alloc (.cells #[.int .i64 0] 3);have hlt:=h.lt;have HO:aJ w (w.alloc (.cells #[.int .i64 0] 3)) g:=(aJ.refl w g).alloc _;have HX:=hid HX;have H1:=hid H1;have HO:=hid HO;clear h;rcases st with _|l
 ·go_enter Tryz.func68,Tryz.ntmps68;go_wp2_with(go_at_call 103;refine(ll _ g _ _ H1.out).mono ?_;rintro e w' ⟨rfl,rfl⟩);go_ret;exact⟨rfl,H1.out,HO.out⟩
 ·rcases l with _|⟨b,r⟩
  ·go_enter Tryz.func68,Tryz.ntmps68;go_wp2_with fail;refine(eW 104 #[.pointer (some ⟨w.heap.size,0,none⟩)] g _ 0 _ (fun w1=>aO w1 w.heap.size (.int .i64 0)∧aJ w w1 g) H1.out.1 (Nat.zero_le _) (by rw[dj];simp) jC ?_).mono ?_
   ·refine(qC _ _ _ (by rw[dj];rfl)).mono ?_;rintro e w' ⟨rfl,rfl⟩;exact⟨rfl,H1.out.1,HX.out,HO.out⟩
   ·rintro e w' ⟨rfl,w1,⟨hn,ho⟩,hmv⟩;have hn':=hn.only hmv.1 (by omega);have hc:=hn'.1;have HF:Hid (cm w' g none∧aJ w w' g):=⟨hmv.2.1 rfl,ho.trans hmv.1⟩;clear hn hn' hmv ho;go_wp2_with fail;go_ret;exact⟨rfl,HF.out.1,HF.out.2⟩
  ·go_enter Tryz.func68,Tryz.ntmps68;go_wp2_with fail;refine(eW 104 #[.pointer (some ⟨w.heap.size,0,none⟩)] g _ 1 _ (fun w1=>aO w1 w.heap.size (.int .i64 b.toNat)∧aJ w w1 g) H1.out.1 (by rw[dj];simp) (by rw[dj];have:=H1.out.2;omega) jC ?_).mono ?_
   ·refine(qR _ _ w.heap.size (by rw[dj];simp) HX.out).mono ?_;rintro e w' ⟨rfl,rfl⟩;exact⟨rfl,H1.out.1.far (by simp;omega) _,HX.out.set _,HO.out.setNew (by simp) _⟩
   ·rintro e w' ⟨rfl,w1,⟨hn,ho⟩,hmv⟩;have hn':=hn.only hmv.1 (by omega);have hc:=hn'.1
    have HF:Hid (cm w' g (some r)∧aJ w w' g):=by
     refine⟨⟨?_,?_⟩,ho.trans hmv.1⟩
     ·have h2:=hmv.2.2 (by omega);rw[fB]at h2;exact h2
     ·have:=H1.out.2;simp at this;omega
    clear hn hn' hmv ho;go_wp2_with fail;go_ret;exact⟨rfl,HF.out.1,HF.out.2⟩
/-! Texts. -/
theorem qA (s:ByteArray)(n:Nat)(w:World)(Bn Bt:Nat)(hp:n≤s.size)(hs:(s.size:Int)≤9223372036854775807)(hn:aO w Bn (.int .i64 n))(hx:aO w Bt (.string ByteArray.empty))(hne:Bn≠Bt):
  Calls Tryz.prog 108 #[.string s,.pointer (some ⟨Bn,0,none⟩),.pointer (some ⟨Bt,0,none⟩)] w fun e w'=>e= .returned (.int .i64 n)∧w'=w.setCell ⟨Bt,0,none⟩ (.string (s.extract 0 n)):=by
 have c1:=hn.1;have c2:=hx.1;have f2:=hx.2.1;have c3:=(hn.far (p:=⟨Bt,0,none⟩) hne (.string (s.extract 0 n))).1;clear hx hn;go_enter Tryz.func108,Tryz.ntmps108;go_wp2;go_ret;exact⟨rfl,rfl⟩
theorem pZ (s:ByteArray)(n:Nat)(w:World)(Bn:Nat)(p:Value)(hp:s.size<n)(hn:aO w Bn (.int .i64 n)):
  Calls Tryz.prog 108 #[.string s,.pointer (some ⟨Bn,0,none⟩),p] w fun e w'=>e= .returned (.int .i64 0)∧w'=w:=by
 have c1:=hn.1;clear hn;go_enter Tryz.func108,Tryz.ntmps108;go_wp2;go_ret;exact⟨rfl,rfl⟩
theorem nf (l:List UInt8)(n:Nat):(⟨l.toArray⟩:ByteArray).extract 0 n=⟨(l.take n).toArray⟩:=by
 have h:=Lib.extract_data (⟨l.toArray⟩:ByteArray) 0 n
 have e:((⟨l.toArray⟩:ByteArray).extract 0 n).data.toList=l.take n:=by
  rw[h];simp
 rw[←Go.Joins.bytes_eta ((⟨l.toArray⟩:ByteArray).extract 0 n),e]
theorem sy (g:Nat)(st:Option (List UInt8))(n:Int)(w:World)(h:cm w g st)(h2:n≤9223372036854775807):
  Calls Tryz.prog 73 #[.pointer (some ⟨g,0,none⟩),.int .i64 n] w fun e w'=>e= .returned (.string ⟨(bd n st).1.toArray⟩)∧cm w' g (bd n st).2∧aJ w w' g:=by
 have H:=hid h;have hlt:=h.lt;have H2:=hid h2;obtain⟨m,st1,hc⟩: ∃m st1,aj n st=(m,st1):=⟨_,_,rfl⟩
 have hm:m≤4611686018427387904:=by
  have e:m=(aj n st).1:=by rw[hc]
  rw[e];unfold aj
  split
  ·simp
  ·have:=qe (mc n) st;have h3:mc n≤4611686018427387904:=by unfold mc;split<;>omega
   omega
 have HC:=hid hc;have HM:=hid hm;clear h h2 hc hm;go_enter Tryz.func73,Tryz.ntmps73;go_wp2_with fail;refine(iq g st n _ H.out H2.out).mono ?_;rw[HC.out];rintro e w1 ⟨rfl,hs1,ho1⟩;have hsz:=ho1.size;have hg1:=hs1.lt;by_cases h0:m=0
 ·subst h0;have HR:Hid (bd n st=([],st1)):=by unfold bd;rw[HC.out,if_pos rfl];exact rfl
  have HS:=hid hs1;have HO:=hid ho1;clear hs1 ho1;go_wp2_with fail;go_ret;rw[HR.out];exact⟨rfl,HS.out.alloc _,HO.out.alloc _⟩
 ·have hz:((m:Int) == 0)=false:=by simp;omega
  have hn1:aO ((w1.alloc (.cells #[.int .i64 m] 3)).alloc (.cells #[.string ByteArray.empty] 9)) w1.heap.size (.int .i64 m):=(aO.new w1 _ _).alloc _
  have hx1:aO ((w1.alloc (.cells #[.int .i64 m] 3)).alloc (.cells #[.string ByteArray.empty] 9)) (w1.heap.size+1) (.string ByteArray.empty):=by
   have:=aO.new (w1.alloc (.cells #[.int .i64 m] 3)) (.string ByteArray.empty) 9;simpa using this
  have hs2:=(hs1.alloc (.cells #[.int .i64 m] 3)).alloc (.cells #[.string ByteArray.empty] 9);have ho2:aJ w ((w1.alloc (.cells #[.int .i64 m] 3)).alloc (.cells #[.string ByteArray.empty] 9)) g:=(ho1.alloc _).alloc _;have HN:=hid hn1;have HX:=hid hx1;have HS:=hid hs2;have HO:=hid ho2;clear hn1 hx1 hs2 ho2 hs1 ho1;rcases st1 with _|r
  ·have HR:Hid (bd n st=([],none)):=by unfold bd;rw[HC.out,if_neg h0];exact rfl
   go_wp2_with fail;refine(ll _ g _ _ HS.out).mono ?_;rintro e w' ⟨rfl,rfl⟩;have hc:=HX.out.1;go_wp2_with fail;go_ret;rw[HR.out];exact⟨rfl,HS.out,HO.out⟩
  ·have hrl:=HS.out.2;by_cases hl:r.length<m
   ·have HR:Hid (bd n st=([],none)):=by unfold bd;rw[HC.out,if_neg h0];show(if r.length<m then _ else _)=_;rw[if_pos hl]
    go_wp2_with fail;refine(eW 108 #[.pointer (some ⟨w1.heap.size,0,none⟩),.pointer (some ⟨w1.heap.size+1,0,none⟩)] g _ 0 _ (fun w2=>aO w2 (w1.heap.size+1) (.string ByteArray.empty)∧aJ w w2 g) HS.out.1 (Nat.zero_le _) (by rw[dj];omega) jw ?_).mono ?_
    ·refine(pZ _ m _ w1.heap.size _ (by rw[dj];exact hl) HN.out).mono ?_;rintro e w' ⟨rfl,rfl⟩;exact⟨rfl,HS.out.1,HX.out,HO.out⟩
    ·rintro e w' ⟨rfl,w2,⟨hn,ho⟩,hmv⟩;have hn':=hn.only hmv.1 (by omega);have hc:=hn'.1;have HF:Hid (cm w' g none∧aJ w w' g):=⟨hmv.2.1 rfl,ho.trans hmv.1⟩;clear hn hn' hmv ho;go_wp2_with fail;go_ret;rw[HR.out];exact⟨rfl,HF.out.1,HF.out.2⟩
   ·have HR:Hid (bd n st=(r.take m,some (r.drop m))):=by unfold bd;rw[HC.out,if_neg h0];show(if r.length<m then _ else _)=_;rw[if_neg hl]
    go_wp2_with fail;refine(eW 108 #[.pointer (some ⟨w1.heap.size,0,none⟩),.pointer (some ⟨w1.heap.size+1,0,none⟩)] g _ m _ (fun w2=>aO w2 (w1.heap.size+1) (.string ⟨(r.take m).toArray⟩)∧aJ w w2 g) HS.out.1 (by rw[dj];omega) (by rw[dj];omega) jw ?_).mono ?_
    ·refine(qA _ m _ w1.heap.size (w1.heap.size+1) (by rw[dj];omega) (by rw[dj];omega) HN.out HX.out (by omega)).mono ?_;rintro e w' ⟨rfl,rfl⟩;rw[nf];exact⟨rfl,HS.out.1.far (by simp;omega) _,HX.out.set _,HO.out.setNew (by simp;omega) _⟩
    ·rintro e w' ⟨rfl,w2,⟨hn,ho⟩,hmv⟩;have hn':=hn.only hmv.1 (by omega);have hc:=hn'.1
     have HF:Hid (cm w' g (some (r.drop m))∧aJ w w' g):=by
      refine⟨⟨?_,by simp;omega⟩,ho.trans hmv.1⟩;have h2:=hmv.2.2 (by omega);rw[fB]at h2;exact h2
     clear hn hn' hmv ho;go_wp2_with fail;go_ret;rw[HR.out];exact⟨rfl,HF.out.1,HF.out.2⟩
theorem qP (l:List UInt8):(⟨l.toArray⟩:ByteArray).toList.isEmpty=l.isEmpty:=by rw[ByteArray.toList_eq]
theorem sY (g:Nat)(l:List UInt8)(w:World)(h:cm w g (some l)):Calls Tryz.prog 33 #[.pointer (some ⟨g,0,none⟩)] w fun e w'=>e= .returned (.int .i64 (if l.isEmpty then 0 else 10))∧w=w':=
 (ot g _ false w h.1).mono fun e w' ⟨he,hw⟩=>⟨by rw[he,qP];cases l.isEmpty<;>rfl,hw⟩
theorem pM (g:Nat)(w:World)(h:cm w g none):Calls Tryz.prog 33 #[.pointer (some ⟨g,0,none⟩)] w fun e w'=>e= .returned (.int .i64 10)∧w=w':=
 (ot g _ true w h).mono fun e w' ⟨he,hw⟩=>⟨he,hw⟩
def Rd (w:World)(B:Nat)(v:Value)(l:List UInt8):Prop:=
 ∃(A:Option Addr) (cap:Nat),v= .slice A l.length cap∧l.length≤cap∧(cap≤9223372036854775807∧(A=none→cap=0))∧
  (0<l.length→ ∃b off,A=some ⟨b,off,none⟩∧b<B∧ ∀i (h:i<l.length),w.cell? ⟨b,off+i,none⟩=some (.int .u8 (l[i].toNat:Int)))
theorem Rd.keep {w w':World}{B:Nat}{v:Value}{l:List UInt8}(h:Rd w B v l)(hb:Below B w w'):Rd w' B v l:=by
 obtain⟨A,cap,hv,hc,hm,h1⟩:=h;refine⟨A,cap,hv,hc,hm,fun hl=> ?_⟩;obtain⟨b,off,hA,hbB,hcell⟩:=h1 hl;exact⟨b,off,hA,hbB,fun i hi=>(hb.cell (p:=⟨b,off+i,none⟩) hbB).trans (hcell i hi)⟩
def fp :Option (List UInt8)→Int
 |none=>10
 |some l=>if l.isEmpty then 0 else 10
def eS :ByteArray:=⟨#[]⟩
mutual
def de :VT→List UInt8
 | .mk k i s l ns=>UInt8.ofNat k.toNat::((if k=2 then [UInt8.ofNat i.toNat]else if k=3 then grp (zig i)else if k=4∨k=5 then txt s else if k=6∨k=7 then grp l.length else [])++ct (decide (k=7)) ns l)
def ct :Bool→List ByteArray→List VT→List UInt8
 |_,_,[]=>[]
 |d,ns,t::r=>(if d then txt (ns.headD eS)else [])++de t++ct d ns.tail r
end
def eu (k i:Int)(s:ByteArray)(n:Nat):List UInt8:=UInt8.ofNat k.toNat::(if k=2 then [UInt8.ofNat i.toNat]else if k=3 then grp (zig i)else if k=4∨k=5 then txt s else if k=6∨k=7 then grp n else [])
theorem cg (t:VT):de t=eu t.kind t.num t.text t.items.length++ct (decide (t.kind=7)) t.names t.items:=by
 cases t;unfold de eu;rfl
theorem me (d:Bool){ns:List ByteArray}{l:List VT}{j:Nat}(h:j<l.length)(hn:d=true→j<ns.length):
  ct d (ns.drop j) (l.drop j)=(if d then txt (ns.getD j eS)else [])++de l[j]++ct d (ns.drop (j+1)) (l.drop (j+1)):=by
 rw[List.drop_eq_getElem_cons h];conv=>lhs;unfold ct
 rw[List.tail_drop];cases d
 ·rfl
 ·have hj:=hn rfl;have e:(ns.drop j).headD eS=ns.getD j eS:=by rw[List.drop_eq_getElem_cons hj];simp[hj]
  rw[e]
theorem bN (d:Bool)(ns:List ByteArray):ct d ns []= []:=by unfold ct;rfl
/-! ### what bytes begin with -/
def iP (f:List UInt8→Option (VT×List UInt8))(d:Bool):Nat→List UInt8→Option (List VT×List ByteArray×List UInt8)
 |0,l=>some ([],[],l)
 |n+1,l=>
  match(if d then bd 32 (some l)else([],some l))with
  |(_,none)=>none
  |(nm,some l1)=>
   match f l1 with
   |none=>none
   |some (t,l2)=>
    match iP f d n l2 with
    |none=>none
    |some (ts,ns,l3)=>some (t::ts,(if d then wu nm::ns else ns),l3)
def rdW :Nat→List UInt8→Option (VT×List UInt8)
 |0,_=>none
 |d+1,l=>
  match av (some l)with
  |(_,none)=>none
  |(k,some r)=>
   if k=2 then(match av (some r)with|(i,some r')=>some (.mk 2 i eS [] [],r')|(_,none)=>none)
   else if k=3 then(match uE (some r)with|(i,some r')=>some (.mk 3 i eS [] [],r')|(_,none)=>none)
   else if k=4∨k=5 then(match bd 4096 (some r)with|(x,some r')=>some (.mk k 0 (wu x) [] [],r')|(_,none)=>none)
   else if k=6∨k=7 then
    (match aj 4096 (some r)with
    |(_,none)=>none
    |(n,some r')=>match iP (rdW d) (decide (k=7)) n r' with
     |none=>none
     |some (ts,ns,r'')=>some (.mk k 0 eS ts ns,r''))
   else some (.mk k 0 eS [] [],r)
/-! ### numbers read are numbers put -/
/-! ### there and back -/
theorem vF (t:VT):ba t=(aL t.kind t.num t.text t.items.length t.names && dE t.items):=by cases t;unfold ba;rfl
/-! ### a code is read -/
theorem oS {most n:Nat}(r:List UInt8)(h:n≤most)(hn:n<18446744073709551616):rdN most (some (grp n++r))=(n,some r):=by
 have hg:=(al n).2;simp only[rdN,tH n r hn];rw[if_neg (by omega),List.drop_left]
theorem d7 (b:UInt8)(r:List UInt8):av (some (b::r))=(b.toNat,some r):=rfl
theorem qj {x:Int}(r:List UInt8)(h1: -9223372036854775808≤x)(h2:x≤9223372036854775807):uE (some (grp (zig x)++r))=(x,some r):=by
 have hz:=qh x h1 h2;unfold uE;rw[oS (most:=18446744073709551615) r (by omega) hz,vI]
theorem bq {m n:Nat}(r:List UInt8)(h:n≤m)(hm:m≤4611686018427387904):aj (m:Int) (some (grp n++r))=(n,some r):=by
 unfold aj;have e:mc (m:Int)=m:=by unfold mc;rw[if_pos (by omega)];omega
 rw[if_neg (by omega),e];exact oS r h (by omega)
theorem dZ {m:Nat}{s:ByteArray}(r:List UInt8)(h:s.size≤m)(hm:m≤4611686018427387904):bd (m:Int) (some (txt s++r))=(s.data.toList,some r):=by
 unfold bd txt;have hl:s.data.toList.length=s.size:=rfl;rw[List.append_assoc,bq _ h hm];simp only;by_cases h0:s.size=0
 ·rw[if_pos h0];have:s.data.toList= []:=List.eq_nil_of_length_eq_zero (by omega);rw[this];rfl
 ·rw[if_neg h0,if_neg (by rw[List.length_append];omega),←hl,List.take_left,List.drop_left]
mutual
def gI :VT→Prop
 | .mk _ i _ l _=>Rng i∧pA l
def pA :List VT→Prop
 | []=>True
 |t::r=>gI t∧pA r
end
theorem rZ (t:VT):1≤aK t:=by
 cases t with
 |mk k i s l ns=>
  unfold aK cB;have:=(al (zig i)).2
  repeat' split
  all_goals omega
theorem jk : ∀l:List VT,l.length≤bG l
 | []=>by simp
 |t::r=>by
  have:=rZ t;have:=jk r;unfold bG;simp;omega
theorem ge {s:ByteArray}(h:s.toList= []):s=eS:=by
 rw[ByteArray.toList_eq]at h;rw[←jT s,h];rfl
theorem rQ {t:VT}(h:ba t=true):aL t.kind t.num t.text t.items.length t.names=true∧dE t.items=true:=by
 rw[vF,Bool.and_eq_true]at h;exact h
theorem qU {t:VT}(h:ba t=true):t= .mk 1 0 eS [] []∨(∃i,(i=0∨i=1)∧t= .mk 2 i eS [] [])∨(∃i,t= .mk 3 i eS [] [])∨(∃k s,(k=4∨k=5)∧t= .mk k 0 s [] [])∨
  (∃l,dE l=true∧t= .mk 6 0 eS l [])∨ ∃l ns,dE l=true∧ns.length=l.length∧aZ ns=true∧t= .mk 7 0 eS l ns:=by
 obtain⟨hf,hl⟩:=rQ h
 cases t with
 |mk k i s l ns=>
  simp only[VT.kind,VT.num,VT.text,VT.items,VT.names]at hf hl;unfold aL at hf;by_cases h1:k=1
  ·rw[if_pos h1]at hf;simp only[Bool.and_eq_true,decide_eq_true_eq,beq_iff_eq]at hf;obtain⟨⟨h2,h3⟩,h4,h5⟩:=hf;rw[List.eq_nil_of_length_eq_zero h4,List.eq_nil_of_length_eq_zero h5,ge h3,h2,h1];exact .inl rfl
  rw[if_neg h1]at hf;by_cases h1:k=2
  ·rw[if_pos h1]at hf;simp only[Bool.and_eq_true,Bool.or_eq_true,decide_eq_true_eq,beq_iff_eq]at hf;obtain⟨⟨h2,h3⟩,h4,h5⟩:=hf;rw[List.eq_nil_of_length_eq_zero h4,List.eq_nil_of_length_eq_zero h5,ge h3,h1];exact .inr (.inl ⟨i,h2,rfl⟩)
  rw[if_neg h1]at hf;by_cases h1:k=3
  ·rw[if_pos h1]at hf;simp only[Bool.and_eq_true,decide_eq_true_eq,beq_iff_eq]at hf;obtain⟨h3,h4,h5⟩:=hf;rw[List.eq_nil_of_length_eq_zero h4,List.eq_nil_of_length_eq_zero h5,ge h3,h1];exact .inr (.inr (.inl ⟨i,rfl⟩))
  rw[if_neg h1]at hf;by_cases h1:k=4∨k=5
  ·rw[if_pos h1]at hf;simp only[Bool.and_eq_true,decide_eq_true_eq,beq_iff_eq]at hf;obtain⟨h3,h4,h5⟩:=hf;rw[List.eq_nil_of_length_eq_zero h4,List.eq_nil_of_length_eq_zero h5,h3];exact .inr (.inr (.inr (.inl ⟨k,s,h1,rfl⟩)))
  rw[if_neg h1]at hf;by_cases h1:k=6
  ·rw[if_pos h1]at hf;simp only[Bool.and_eq_true,decide_eq_true_eq,beq_iff_eq]at hf;obtain⟨⟨h2,h3⟩,h5⟩:=hf;rw[List.eq_nil_of_length_eq_zero h5,ge h3,h2,h1];exact .inr (.inr (.inr (.inr (.inl ⟨l,hl,rfl⟩))))
  rw[if_neg h1]at hf;by_cases h1:k=7
  ·rw[if_pos h1]at hf;simp only[Bool.and_eq_true,decide_eq_true_eq,beq_iff_eq]at hf;obtain⟨⟨⟨h2,h3⟩,h5⟩,h6⟩:=hf;rw[ge h3,h2,h1];exact .inr (.inr (.inr (.inr (.inr ⟨l,ns,hl,h5,h6,rfl⟩))))
  rw[if_neg h1]at hf;cases hf
theorem ee {f:List UInt8→Option (VT×List UInt8)}(d:Bool): ∀(ts:List VT) (ns:List ByteArray) (r:List UInt8),
  (∀t∈ts,∀r,f (de t++r)=some (t,r))→(if d then ns.length=ts.length∧ ∀s∈ns,s.size≤32 else ns= [])→iP f d ts.length (ct d ns ts++r)=some (ts,ns,r)
 | [],ns,r,hf,hn=>by
  rw[bN]
  have:ns= []:=by
   cases d
   ·exact hn
   ·simp only[if_true]at hn;exact List.eq_nil_of_length_eq_zero hn.1
  subst this;rfl
 |t::ts,ns,r,hf,hn=>by
  cases d with
  |false=>
   simp only[Bool.false_eq_true,if_false]at hn;subst hn;unfold ct;simp only[List.length_cons,iP,Bool.false_eq_true,if_false,List.nil_append,List.append_assoc];rw[hf t (List.mem_cons_self ..)];simp only;have h2:=ee false ts [] r (fun t ht=>hf t (List.mem_cons_of_mem _ ht)) rfl;simp only[List.tail_nil]
   rw[h2]
  |true=>
   simp only[if_true]at hn
   match ns,hn with
   |n::ns,hn=>
    unfold ct;simp only[List.length_cons,iP,if_true,List.append_assoc,List.headD_cons,List.tail_cons];have hn0:=dZ (m:=32) (s:=n) (de t++(ct true ns ts++r)) (hn.2 n (List.mem_cons_self ..)) (by decide);have hn1:bd 32 (some (txt n++(de t++(ct true ns ts++r))))=(n.data.toList,some (de t++(ct true ns ts++r))):=hn0;rw[hn1];simp only;rw[hf t (List.mem_cons_self ..)];simp only;rw[ee true ts ns r (fun t ht=>hf t (List.mem_cons_of_mem _ ht)) ⟨by simpa using hn.1,fun s hs=>hn.2 s (List.mem_cons_of_mem _ hs)⟩];simp only[jT]
theorem kG : ∀ {l:List VT},pA l→ ∀t∈l,gI t
 |a::r,h,t,ht=>by
  unfold pA at h;rcases List.mem_cons.1 ht with rfl|ht
  ·exact h.1
  ·exact kG h.2 t ht
theorem iY : ∀ {l:List VT} {t:VT},t∈l→aK t≤bG l
 |a::r,t,ht=>by
  unfold bG;rcases List.mem_cons.1 ht with rfl|ht
  ·omega
  ·have:=iY ht;omega
theorem lW : ∀ {ns:List ByteArray},aZ ns=true→ ∀s∈ns,s.size≤32
 |a::r,h,s,hs=>by
  unfold aZ at h;simp only[Bool.and_eq_true]at h;rcases List.mem_cons.1 hs with rfl|hs
  ·exact((eM s).1 h.1.1).2.1
  ·exact lW h.2 s hs
theorem lk : ∀(d:Nat) (t:VT) (r:List UInt8),ba t=true→gI t→ao t≤d→aK t≤4096→rdW d (de t++r)=some (t,r)
 |0,t,r,_,_,hd,_=>by cases t;rw[aH]at hd;omega
 |d+1,t,r,hm,hr,hd,hs=>by
  rcases qU hm with rfl|⟨i,hi,rfl⟩|⟨i,rfl⟩|⟨k,s,hk,rfl⟩|⟨l,hl,rfl⟩|⟨l,ns,hl,hn,hdn,rfl⟩
  ·rfl
  ·rcases hi with rfl|rfl<;>rfl
  ·rw[cg];unfold eu gI at *;simp only[VT.kind,VT.num,VT.items,VT.names,VT.text,bN,List.append_nil];show rdW (d+1) (3::(grp (zig i)++r))=_;unfold rdW;rw[d7];simp only[show(3:UInt8).toNat=3 from rfl];rw[qj r hr.1.1 hr.1.2];simp
  ·have hsz:s.size≤4096:=by
    unfold aK cB at hs;have:tsz s=(grp s.size).length+s.size:=rfl;rcases hk with rfl|rfl<;>simp at hs<;>omega
   have ht:=dZ (m:=4096) (s:=s) r hsz (by decide);rw[cg];rcases hk with rfl|rfl
   ·show rdW (d+1) (4::((txt s++[])++r))=_;rw[List.append_nil];unfold rdW;rw[d7];simp only[show(4:UInt8).toNat=4 from rfl];have ht':bd 4096 (some (txt s++r))=(s.data.toList,some r):=ht;rw[ht'];simp[jT]
   ·show rdW (d+1) (5::((txt s++[])++r))=_;rw[List.append_nil];unfold rdW;rw[d7];simp only[show(5:UInt8).toNat=5 from rfl];have ht':bd 4096 (some (txt s++r))=(s.data.toList,some r):=ht;rw[ht'];simp[jT]
  ·have hsl:bG l≤4096:=by unfold aK at hs;omega
   have hll:=jk l;rw[aH]at hd;unfold gI at hr;have hc:aj 4096 (some (grp l.length++(ct false [] l++r)))=(l.length,some (ct false [] l++r)):=bq (m:=4096) _ (by omega) (by decide);have hi:=ee (f:=rdW d) false l [] r (fun t ht r=>lk d t r (cl hl ht) (kG hr.2 t ht) (by have:=bz ht;omega) (by have:=iY ht;omega)) rfl;rw[cg];show rdW (d+1) (6::((grp l.length++ct false [] l)++r))=_;rw[List.append_assoc];unfold rdW;rw[d7];simp only[show(6:UInt8).toNat=6 from rfl];rw[hc];simp[hi]
  ·have hsl:bG l≤4096:=by unfold aK at hs;omega
   have hll:=jk l;rw[aH]at hd;unfold gI at hr;have hc:aj 4096 (some (grp l.length++(ct true ns l++r)))=(l.length,some (ct true ns l++r)):=bq (m:=4096) _ (by omega) (by decide);have hi:=ee (f:=rdW d) true l ns r (fun t ht r=>lk d t r (cl hl ht) (kG hr.2 t ht) (by have:=bz ht;omega) (by have:=iY ht;omega)) ⟨hn,lW hdn⟩;rw[cg];show rdW (d+1) (7::((grp l.length++ct true ns l)++r))=_;rw[List.append_assoc];unfold rdW;rw[d7];simp only[show(7:UInt8).toNat=7 from rfl];rw[hc];simp[hi]
end Go.Proofs.YtgfidiocmiolpaaGreat
