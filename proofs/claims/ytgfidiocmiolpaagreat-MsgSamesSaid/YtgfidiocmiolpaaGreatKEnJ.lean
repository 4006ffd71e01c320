/- Whether an entry may be, by the program. -/
import Derived.Test.YtgfidiocmiolpaaGreatKDlV
import Derived.Test.YtgfidiocmiolpaaGreatKDlN
import Derived.Test.YtgfidiocmiolpaaGreatKIdx
import Derived.Test.YtgfidiocmiolpaaGreatKFive
import Derived.Test.YtgfidiocmiolpaaGreatKLook
import Derived.Test.YtgfidiocmiolpaaGreatKCodG
import Derived.Test.YtgfidiocmiolpaaGreatKRefM
set_option maxHeartbeats 64000000
set_option maxRecDepth 100000
set_option linter.unusedVariables false
set_option linter.unusedSimpArgs false
namespace Go.Proofs.YtgfidiocmiolpaaGreat
open Lib (hid)
open Go.RowKit
def ru (e:aU):Bool:=((aP e.kind || decide (e.coll.size=0)) && (bW e.kind || decide (e.to.size=0)) && (bY e.kind || bm e.id) && (bt e.kind || bm e.doc) && (aW e.kind || decide (e.dels.length=0)))
def nH (e:aU):Bool:=((!aP e.kind || bn e.coll) && (!bW e.kind || (bn e.to && decide (e.to≠e.coll))) && (!bY e.kind || decide (aX e.id=0)) && (!bt e.kind || cH e.doc e.id) && (!aW e.kind || dx e.dels))
theorem eO (k:Int):(aP k=false∧bW k=false∧bY k=false∧bt k=false∧aW k=false)∨(aP k=true∧bW k=false∧bY k=true∧bt k=true∧aW k=false)∨(aP k=true∧bW k=false∧bY k=true∧bt k=false∧aW k=true)∨(aP k=true∧bW k=false∧bY k=true∧bt k=false∧aW k=false)∨(aP k=true∧bW k=false∧bY k=false∧bt k=false∧aW k=false)∨(aP k=true∧bW k=true∧bY k=false∧bt k=false∧aW k=false):=by
 by_cases hk:2≤k∧k≤7
 ·rcases iL (by omega) hk.2 with rfl|rfl|rfl|rfl|rfl|rfl|rfl
  ·omega
  all_goals decide
 ·left;refine⟨?_,?_,?_,?_,?_⟩
  ·unfold aP;by_cases h2:2≤k
   ·rw[decide_eq_true h2,decide_eq_false (by omega)];rfl
   ·rw[decide_eq_false h2];rfl
  ·unfold bW;exact decide_eq_false (by omega)
  ·unfold bY;by_cases h2:2≤k
   ·rw[decide_eq_true h2,decide_eq_false (by omega)];rfl
   ·rw[decide_eq_false h2];rfl
  ·unfold bt;exact decide_eq_false (by omega)
  ·unfold aW;exact decide_eq_false (by omega)
theorem mf {s:ByteArray}(h:bn s=true): ¬s.size=0:=by have:=(eN h).1;omega
theorem kB (e:aU):bJ e=(cE e.kind && fA e && ru e && nH e):=by
 rw[Bool.eq_iff_iff,gf];unfold cE fA ru nH;constructor
 ·intro h
  have hn:(if e.kind=1 then decide (e.session=0) && decide (e.number=0)else true)=true:=by
   split
   ·next hk=>simp[h.noop hk]
   ·rfl
  obtain⟨h1,h2,h3,h4,h5,h6,h7,h8,hc,ht,hi,hd,hl,-⟩:=h;rw[hn]
  rcases eO e.kind with ⟨c1,c2,c3,c4,c5⟩|⟨c1,c2,c3,c4,c5⟩|⟨c1,c2,c3,c4,c5⟩|⟨c1,c2,c3,c4,c5⟩|⟨c1,c2,c3,c4,c5⟩|⟨c1,c2,c3,c4,c5⟩<;>
   (rw[c1]at hc;rw[c2]at ht;rw[c3]at hi;rw[c4]at hd;rw[c5]at hl;simp[c1,c2,c3,c4,c5]at *;simp[*])
 ·intro h;simp only[Bool.and_eq_true,decide_eq_true_eq]at h;obtain⟨⟨⟨⟨k1,k7⟩,hn,⟨⟨t0,t1⟩,s0,s1⟩,n0,n1⟩,⟨⟨⟨b1,b2⟩,b3⟩,b4⟩,b5⟩,⟨⟨⟨r1,r2⟩,r3⟩,r4⟩,r5⟩:=h;refine⟨k1,k7,t0,t1,s0,s1,n0,n1,?_,?_,?_,?_,?_,fun hk=> ?_⟩
  ·cases hc:aP e.kind<;>simp[hc]at b1 r1 ⊢ <;>assumption
  ·cases hc:bW e.kind<;>simp[hc]at b2 r2 ⊢ <;>assumption
  ·cases hc:bY e.kind<;>simp[hc]at b3 r3 ⊢ <;>assumption
  ·cases hc:bt e.kind<;>simp[hc]at b4 r4 ⊢ <;>assumption
  ·cases hc:aW e.kind<;>simp[hc]at b5 r5 ⊢ <;>assumption
  ·rw[if_pos hk]at hn;simpa using hn
theorem sW (S:Nat→Prop)(e:aU)(IA:Option Addr)(ic:Nat)(IA':Option Addr)(ic':Nat)(DA:Option Addr)(dc:Nat)(DA':Option Addr)(dc':Nat)(LA:Option Addr)(lc:Nat)(w:World)(hS: ∀b,S b→b<w.heap.size)(h:eE w S e IA ic IA' ic' DA dc DA' dc' LA lc):
  Calls Tryz.prog 86 #[.int .i64 (dP e.kind),.agg #[.int .i64 e.term,.int .i64 e.kind,.string e.coll,.string e.to,.int .i64 e.id.kind,.int .i64 e.id.num,.string e.id.text,.slice IA e.id.items.length ic,.slice IA' e.id.names.length ic',.int .i64 e.doc.kind,.int .i64 e.doc.num,.string e.doc.text,.slice DA e.doc.items.length dc,.slice DA' e.doc.names.length dc',.slice LA e.dels.length lc,.int .i64 e.session,.int .i64 e.number]] w fun r w'=>r= .returned (.bool (ru e))∧Below w.heap.size w w':=
 qp _ _ _ _ _ (dP e.kind) (je e.kind) (nd e.kind) (nz e.kind) (kA e.kind) (jf e.kind) (eO e.kind) S e IA ic IA' ic' DA dc DA' dc' LA lc w hS h
theorem qV (S:Nat→Prop)(e:aU)(IA:Option Addr)(ic:Nat)(IA':Option Addr)(ic':Nat)(DA:Option Addr)(dc:Nat)(DA':Option Addr)(dc':Nat)(LA:Option Addr)(lc:Nat)(w:World)(hS: ∀b,S b→b<w.heap.size)(h:eE w S e IA ic IA' ic' DA dc DA' dc' LA lc)(hd:SmE e):
  Calls Tryz.prog 87 #[.int .i64 (dP e.kind),.agg #[.int .i64 e.term,.int .i64 e.kind,.string e.coll,.string e.to,.int .i64 e.id.kind,.int .i64 e.id.num,.string e.id.text,.slice IA e.id.items.length ic,.slice IA' e.id.names.length ic',.int .i64 e.doc.kind,.int .i64 e.doc.num,.string e.doc.text,.slice DA e.doc.items.length dc,.slice DA' e.doc.names.length dc',.slice LA e.dels.length lc,.int .i64 e.session,.int .i64 e.number]] w fun r w'=>r= .returned (.bool (nH e))∧Below w.heap.size w w':=
 ol _ _ _ _ _ (dP e.kind) (je e.kind) (nd e.kind) (nz e.kind) (kA e.kind) (jf e.kind) (eO e.kind) S e IA ic IA' ic' DA dc DA' dc' LA lc w hS h hd
theorem ov (S:Nat→Prop)(e:aU)(cs:Array Value)(w:World)(hS: ∀b,S b→b<w.heap.size)(h:cZ w S e cs)(hd:SmE e):
  Calls Tryz.prog 50 #[.agg cs] w fun r w'=>r= .returned (.bool (bJ e))∧Below w.heap.size w w':=by
 obtain⟨IA,ic,IA',ic',DA,dc,DA',dc',LA,lc,rfl,hat⟩:=h.at;obtain⟨w1,hw1⟩: ∃W,W=w.alloc (.cells #[.int .i64 e.term,.int .i64 e.kind,.string e.coll,.string e.to,.int .i64 e.id.kind,.int .i64 e.id.num,.string e.id.text,.slice IA e.id.items.length ic,.slice IA' e.id.names.length ic',.int .i64 e.doc.kind,.int .i64 e.doc.num,.string e.doc.text,.slice DA e.doc.items.length dc,.slice DA' e.doc.names.length dc',.slice LA e.dels.length lc,.int .i64 e.session,.int .i64 e.number] 46):=⟨_,rfl⟩;have hbk:aS w1 w.heap.size e IA ic IA' ic' DA dc DA' dc' LA lc:=by rw[hw1];exact heap_alloc_new w _
 have hb1:Below w.heap.size w w1:=by rw[hw1];exact ae _
 obtain⟨r,hr⟩: ∃r,r=bJ e:=⟨_,rfl⟩;have HR:=hid (hr.trans (kB e));rw[←hr];have HB1:=hid hb1;have HK1:=hid hbk;have HS:=hid hS;have HA:=hid hat;have HD:=hid hd;clear hr hb1 hbk hS h hat hd;go_enter Tryz.func50,Tryz.ntmps50;go_wp2_with fail;rw[←hw1];clear hw1;have y1:=HK1.out.g1;refine(jr e.kind w1).mono ?_;rintro q u ⟨rfl,hw⟩;replace hw:=hw.symm;subst hw;have y1:=HK1.out.g1;cases hkn:cE e.kind
 case false=>
  have HE:Hid (r=false):=hid (by rw[HR.out,hkn];rfl);go_wp2_with fail;go_ret;exact⟨by rw[HE.out];rfl,HB1.out⟩
 have HKN:=hid hkn;clear hkn;have HN:=hid (lH e IA ic IA' ic' DA dc DA' dc' LA lc w1);go_wp2_with(refine bh (by rfl) _ rfl w.heap.size rfl _ _ HK1.out rfl ?_;simp only[acR,Act.put]);refine HN.out.mono ?_;rintro q w2 ⟨rfl,hb⟩;have HB2:=hid (HB1.out.trans (hb.mono HB1.out.size));have HK2:=hid (HK1.out.below hb);clear HN hb;cases hnn:fA e
 case false=>
  have HE:Hid (r=false):=hid (by rw[HR.out,hnn];simp);go_wp2_with fail;go_ret;exact⟨by rw[HE.out];rfl,HB2.out⟩
 have HNN:=hid hnn;clear hnn;have HN:=hid (sW S e IA ic IA' ic' DA dc DA' dc' LA lc w2 (fun b hb=>Nat.lt_of_lt_of_le (HS.out b hb) HB2.out.size) (HA.out.below HS.out HB2.out));go_wp2_with(refine bh (by rfl) _ rfl w.heap.size rfl _ _ HK2.out rfl ?_;simp only[acR,Act.put]);refine HN.out.mono ?_;rintro q w3 ⟨rfl,hb⟩;have HB3:=hid (HB2.out.trans (hb.mono HB2.out.size));have HK3:=hid (HK2.out.below hb);clear HN hb;obtain⟨x,hx⟩: ∃x,x=ru e:=⟨_,rfl⟩;rw[←hx];cases x
 case false=>
  have HE:Hid (r=false):=hid (by rw[HR.out,←hx];simp);clear hx;go_wp2_with fail;go_ret;exact⟨by rw[HE.out];rfl,HB3.out⟩
 have HX:=hid hx;clear hx;have HN:=hid (qV S e IA ic IA' ic' DA dc DA' dc' LA lc w3 (fun b hb=>Nat.lt_of_lt_of_le (HS.out b hb) HB3.out.size) (HA.out.below HS.out HB3.out) HD.out);go_wp2_with(refine bh (by rfl) _ rfl w.heap.size rfl _ _ HK3.out rfl ?_;simp only[acR,Act.put]);refine HN.out.mono ?_;rintro q w4 ⟨rfl,hb⟩;have HB4:=hid (HB3.out.trans (hb.mono HB3.out.size));clear HN hb;obtain⟨z,hz⟩: ∃z,z=nH e:=⟨_,rfl⟩;rw[←hz];have HE:Hid (r=z):=hid (by rw[HR.out,HKN.out,HNN.out,←HX.out,←hz];rfl);clear hz;go_wp2_with fail;go_ret;exact⟨by rw[HE.out];rfl,HB4.out⟩
theorem qi (S:Nat→Prop)(A:Option Addr)(c:Nat)(l:List aR)(w:World)(hS: ∀b,S b→b<w.heap.size)(h:bk w S A l)(hn:l.length≤140737488351232)(hd:l.length≤64→eo l):
  Calls Tryz.prog 92 #[.slice A l.length c] w fun e w'=>e= .returned (.int .i64 (bo l))∧Below w.heap.size w w':=by
 by_cases h64:64<l.length
 ·have hr:bo l=3:=by unfold bo;rw[if_pos h64]
  rw[hr];have d1:decide ((l.length:Int)>64)=true:=decide_eq_true (by omega);clear h hS hd hr;go_enter Tryz.func92,Tryz.ntmps92;go_wp2_with fail;go_ret;exact⟨rfl,Below.refl _ _⟩
 ·exact oI S A c l w hS h hn (hd (by omega))
theorem lF (S:Nat→Prop)(A:Option Addr)(c:Nat)(l:List aR)(w:World)(hS: ∀b,S b→b<w.heap.size)(h:bk w S A l)(hn:l.length≤1172812402961)(hd:l.length≤64→eo l∧fu l):
  Calls Tryz.prog 56 #[.slice A l.length c] w fun e w'=>e= .returned (.bool (dx l))∧Below w.heap.size w w':=by
 have HL:=hid h;have HS:=hid hS;have HN:=hid hn;have HC:=hid (qi S A c l w hS h (by omega) (fun h=>(hd h).1));obtain⟨r,hr⟩: ∃r,r=dx l:=⟨_,rfl⟩;have HR:Hid (r=(decide (bo l=0) && db l && !iV l [idN])):=hid hr;rw[←hr];obtain⟨x,hx⟩: ∃x,x=bo l:=⟨_,rfl⟩;have HX:=hid hx;rw[←hx]at HC HR;clear hr hx h hS hn hd;go_enter Tryz.func56,Tryz.ntmps56;go_wp2_with fail;refine HC.out.mono ?_;rintro e w1 ⟨rfl,hb⟩;have HB:=hid hb;clear hb HC;by_cases h0:x=0
 case neg=>
  have HE:Hid (r=false):=hid (by rw[HR.out,decide_eq_false h0];rfl);have h1:(x == 0)=false:=beq_false_of_ne h0;have h2:(x != 0)=true:=by simp[h0]
  go_wp2_with fail;go_ret;exact⟨by rw[HE.out];rfl,HB.out⟩
 subst h0;obtain⟨h64,hm⟩:=dr HX.out.symm;have HF:=hid (pB S A c l w1 (fun b hb=>Nat.lt_of_lt_of_le (HS.out b hb) HB.out.size) (HL.out.below HS.out HB.out) (by omega));have HT:=hid (p8 (l:=l) fun d hd=>iZ (hm d hd));have HM:=hid hm;clear hm;cases hf:db l
 case false=>
  have HE:Hid (r=false):=hid (by rw[HR.out,hf,Bool.and_false];rfl);rw[hf]at HF;go_wp2_with fail;refine HF.out.mono ?_;rintro e w2 ⟨rfl,hb⟩;have HB2:=hid (HB.out.trans (hb.mono HB.out.size));clear hb HF;go_wp2_with fail;go_ret;exact⟨by rw[HE.out];rfl,HB2.out⟩
 rw[hf]at HF HR;go_wp2_with fail;refine HF.out.mono ?_;rintro e w2 ⟨rfl,hb⟩;have HB2:=hid (HB.out.trans (hb.mono HB.out.size));clear hb HF hf;have HL2:=hid (HL.out.below HS.out HB2.out);have HR2:Hid (r= !(l.any fun d=>decide (d.path.head? =some idN))):=hid (by rw[HR.out,HT.out];simp);go_wp2_with fail
 go_loopw [3] (fun i wr=> ∃k:Nat,i= .int .i64 k∧k≤l.length∧wr=w2∧Hid (∀j (h:j<l.length),j<k→l[j].path.head? ≠some idN)) (fun i _=>l.length - (intOf i).toNat)
 case atStart=>exact⟨0,rfl,by omega,rfl,hid fun j _ h=>absurd h (by omega)⟩
 case round=>
  obtain⟨k,rfl,hk,hwr,HJ⟩:=hrel;replace hwr:=hwr.symm;subst hwr;by_cases hlt:k<l.length
  ·have d1:decide ((k:Int)<(l.length:Int))=true:=decide_eq_true (by omega);obtain⟨rb,roff,PA,pc,VA,vc,VA',vc',rfl,hrb,hdl,-,hc1,-⟩:=HL2.out.cells k hlt;obtain⟨PA1,pc1,VA1,vc1,VA2,vc2,he,-,hst,-⟩:=hdl;simp only[Array.mk.injEq,List.cons.injEq,Value.slice.injEq,true_and,and_true]at he;obtain⟨⟨rfl,rfl⟩,-⟩:=he;have hpos:0<l[k].path.length:=ut (iZ (HM.out _ (List.getElem_mem hlt)));obtain⟨sb,so,rfl,hsS,hcell⟩:=hst hpos;have hc0:=(hcell 0 hpos).1;rw[Nat.add_zero]at hc0;have hhd:l[k].path.head? =some l[k].path[0]:=by rw[List.head?_eq_getElem?,List.getElem?_eq_getElem hpos]
   obtain⟨x,hx⟩: ∃x,x=l[k].path[0]:=⟨_,rfl⟩;rw[←hx]at hc0 hhd;have hposz:(0:Int)<(l[k].path.length:Int):=by omega
   obtain⟨m,hmm⟩: ∃m,m=l[k].path.length:=⟨_,rfl⟩;rw[←hmm]at hc1 hposz;have HH:=hid hhd;clear hcell hst hhd hx hmm;by_cases he:x=idN
   ·have d2:(x.toList == (⟨#[95,105,100]⟩:ByteArray).toList)=true:=by rw[he,bB];exact decide_eq_true rfl
    have d3:(x.toList == [95,105,100])=true:=idL▸d2;have d4:x.toList= [95,105,100]:=by simpa using d3
    have HE:Hid (r=false):=hid (by
     rw[HR2.out,List.any_eq_true.2 ⟨l[k],List.getElem_mem hlt,decide_eq_true (by rw[HH.out,he])⟩];rfl)
    clear he;go_wp2_with fail;go_ret;exact⟨by rw[HE.out];rfl,HB2.out⟩
   ·have d2:(x.toList == (⟨#[95,105,100]⟩:ByteArray).toList)=false:=by rw[bB];exact decide_eq_false he
    have d3:(x.toList == [95,105,100])=false:=idL▸d2;have d4: ¬x.toList= [95,105,100]:=by simpa using d3
    have HN2:=hid he;clear he;go_wp2_with fail
    go_roundw
    case rel=>exact⟨k+1,by go_num,by omega,by first|rfl|trivial,hid fun j hj hjk=>by
     by_cases e:j=k
     ·subst e;rw[HH.out];exact fun h=>HN2.out (by injection h)
     ·exact HJ.out j hj (by omega)⟩
    case measure=>simp[intOf];omega
  ·have d1:decide ((k:Int)<(l.length:Int))=false:=decide_eq_false (by omega)
   have HE:Hid (r=true):=hid (by
    rw[HR2.out,List.any_eq_false.2 fun d hd=>by
     obtain⟨j,hj,rfl⟩:=List.getElem_of_mem hd
     simpa using HJ.out j hj (by omega)]
    rfl)
   go_wp2_with fail;go_ret;exact⟨by rw[HE.out];rfl,HB2.out⟩
theorem pO (S:Nat→Prop)(A:Option Addr)(c:Nat)(xs:List aR)(B:Option Addr)(d:Nat)(ys:List aR)(w:World)(hS: ∀b,S b→b<w.heap.size)(ha:bk w S A xs)(hb:bk w S B ys)(hla:xs.length≤140737488351232)(hlb:ys.length≤140737488351232):
  Calls Tryz.prog 58 #[.slice A xs.length c,.slice B ys.length d] w fun e w'=>(∃r:Bool,e= .returned (.bool r)∧(r=true↔xs=ys))∧Below w.heap.size w w':=by
 have HS:=hid hS;have HA:=hid ha;have HBB:=hid hb;clear hS ha hb;by_cases hl:xs.length=ys.length
 ·have HL:=hid hl;obtain⟨m,hm⟩: ∃m,m=xs.length:=⟨_,rfl⟩;have HMA:=hid hm;have HMB:Hid (m=ys.length):=hid (by omega);rw[←hl,←hm];have hm9:m≤140737488351232:=by omega
  have d0:((m:Int) != (m:Int))=false:=by simp
  clear hl hm hla hlb;go_enter Tryz.func58,Tryz.ntmps58;go_wp2_with fail;clear d0
  go_loopw [5] (fun i wr=> ∃j:Nat,i= .int .i64 j∧j≤m∧Hid (∀k (h:k<xs.length) (h':k<ys.length),k<j→xs[k]=ys[k])∧Hid (Below w.heap.size w wr)) (fun i _=>m - (intOf i).toNat)
  case atStart=>exact⟨0,rfl,Nat.zero_le _,hid (fun k _ _ h=>absurd h (Nat.not_lt_zero _)),hid (Below.refl _ _)⟩
  case round=>
   obtain⟨j,rfl,hj,HE,HB⟩:=hrel;by_cases hlt:j<m
   ·have hla:j<xs.length:=by have:=HMA.out;omega
    have hlb:j<ys.length:=by have:=HMB.out;omega
    have d1:decide ((j:Int)<(m:Int))=true:=decide_eq_true (by omega);obtain⟨p,o,PA,pc,VA,vc,VA',vc',rfl,hp,hx,x0,x1,x2,x3,x4,x5,x6,x7⟩:=(HA.out.below HS.out HB.out).cells j hla;obtain⟨p',o',PB,pd,VB,vd,VB',vd',rfl,hp',hy,g0,g1,g2,g3,g4,g5,g6,g7⟩:=(HBB.out.below HS.out HB.out).cells j hlb;have hp2:p<wr.heap.size:=Nat.lt_of_lt_of_le (HS.out p hp) HB.out.size;have hp2':p'<wr.heap.size:=Nat.lt_of_lt_of_le (HS.out p' hp') HB.out.size;have hS2: ∀b,S b→b<wr.drew.heap.size:=fun b hb=>Nat.lt_of_lt_of_le (HS.out b hb) HB.out.size
    obtain⟨hvx,hpx,hlx⟩:LV wr.drew S xs[j].val (.agg #[.int .i64 xs[j].val.kind,.int .i64 xs[j].val.num,.string xs[j].val.text,.slice VA xs[j].val.items.length vc,.slice VA' xs[j].val.names.length vc'])∧au wr.drew S PA xs[j].path∧xs[j].path.length≤8796093021952:=by
     obtain⟨P1,p1,V1,v1,V1',v1',e,q0,q1,-,-,-,-,q4⟩:=hx;simp only[Array.mk.injEq,List.cons.injEq,Value.slice.injEq,and_true,true_and]at e;obtain⟨⟨rfl,rfl⟩,⟨rfl,rfl⟩,rfl,rfl⟩:=e;exact⟨q0.drew,q1,q4⟩
    obtain⟨hvy,hpy,hly⟩:LV wr.drew S ys[j].val (.agg #[.int .i64 ys[j].val.kind,.int .i64 ys[j].val.num,.string ys[j].val.text,.slice VB ys[j].val.items.length vd,.slice VB' ys[j].val.names.length vd'])∧au wr.drew S PB ys[j].path∧ys[j].path.length≤8796093021952:=by
     obtain⟨P1,p1,V1,v1,V1',v1',e,q0,q1,-,-,-,-,q4⟩:=hy;simp only[Array.mk.injEq,List.cons.injEq,Value.slice.injEq,and_true,true_and]at e;obtain⟨⟨rfl,rfl⟩,⟨rfl,rfl⟩,rfl,rfl⟩:=e;exact⟨q0.drew,q1,q4⟩
    have HPS:=hid (qq PA PB pc pd xs[j].path ys[j].path wr.drew S S hpx hpy hS2 hS2 (by omega) (by omega));have HVS:Hid (∀W,Below wr.drew.heap.size wr.drew W→Calls Tryz.prog 57 #[.agg #[.int .i64 xs[j].val.kind,.int .i64 xs[j].val.num,.string xs[j].val.text,.slice VA xs[j].val.items.length vc,.slice VA' xs[j].val.names.length vc'],.agg #[.int .i64 ys[j].val.kind,.int .i64 ys[j].val.num,.string ys[j].val.text,.slice VB ys[j].val.items.length vd,.slice VB' ys[j].val.names.length vd']] W fun e w'=>(∃r:Bool,e= .returned (.bool r)∧(r=true↔xs[j].val=ys[j].val))∧Below W.heap.size W w'):=hid fun W hW=>ei S (ao xs[j].val) xs[j].val ys[j].val _ _ W (Nat.le_refl _) (fun b hb=>Nat.lt_of_lt_of_le (hS2 b hb) hW.size) (hvx.keep fun b hb=>hW.block b (hS2 b hb)) (hvy.keep fun b hb=>hW.block b (hS2 b hb));clear hx hy hp hp' hS2 hvx hpx hlx hvy hpy hly;by_cases hall:xs[j].kind=ys[j].kind∧xs[j].num=ys[j].num
    ·have e0:(xs[j].kind != ys[j].kind)=false:=by rw[hall.1];simp
     have e7:(xs[j].num != ys[j].num)=false:=by rw[hall.2];simp
     have HALL:=hid hall;clear hall;go_wp2_with fail;refine ar [0,1,2,3,4,5,6,7,8,9,10,11,12,13,14,15,16,17,18,19,20,21,22,23,24,25,26,27,28,29,30,31,32,33,34,35,36,37,38,39,40,41,42,43,44,45,46,47,48,49,50,51] (by kernel_rfl) (by kernel_rfl) (fun _ d _ _ _ h=>by cases d<;>exact h) ?_;simp only[atR];have q0:=aa (B:=wr.heap.size) (w:=wr.drew) x0 hp2;have q1:=aa (B:=wr.heap.size) (w:=wr.drew) x1 hp2;have q2:=aa (B:=wr.heap.size) (w:=wr.drew) x2 hp2;have q3:=aa (B:=wr.heap.size) (w:=wr.drew) x3 hp2;have q4:=aa (B:=wr.heap.size) (w:=wr.drew) x4 hp2;have q5:=aa (B:=wr.heap.size) (w:=wr.drew) x5 hp2;have q6:=aa (B:=wr.heap.size) (w:=wr.drew) x6 hp2;have q7:=aa (B:=wr.heap.size) (w:=wr.drew) x7 hp2;have z0:=aa (B:=wr.heap.size) (w:=wr.drew) g0 hp2';have z1:=aa (B:=wr.heap.size) (w:=wr.drew) g1 hp2';have z2:=aa (B:=wr.heap.size) (w:=wr.drew) g2 hp2';have z3:=aa (B:=wr.heap.size) (w:=wr.drew) g3 hp2';have z4:=aa (B:=wr.heap.size) (w:=wr.drew) g4 hp2';have z5:=aa (B:=wr.heap.size) (w:=wr.drew) g5 hp2';have z6:=aa (B:=wr.heap.size) (w:=wr.drew) g6 hp2';have z7:=aa (B:=wr.heap.size) (w:=wr.drew) g7 hp2';first|with_reducible refine ac ?_ |with_reducible refine ab ?_ |refine ac ?_ |refine ab ?_
     simp only[List.takeWhile,List.dropWhile,ai,Nat.reduceBNe];repeat(go_big_quiet_step (fail))
     first|with_reducible refine wpQuiet_nil ?_ |refine wpQuiet_nil ?_
     clear q0 q1 q2 q3 q4 q5 q6 q7 z0 z1 z2 z3 z4 z5 z6 z7;first|with_reducible refine ah ?_ (fun K hK=> ?_)|with_reducible refine af ?_ (fun K hK=> ?_)|refine ah ?_ (fun K hK=> ?_)|refine af ?_ (fun K hK=> ?_)
     ·rfl
     go_simp
     refine(HPS.out).mono ?_;rintro e w8 ⟨rfl,hb⟩;refine hK _ _ hb ?_;clear hK K;try simp only[Act.put]
     have HVS8:=hid (HVS.out w8 hb);have HB8:Hid (Below w.heap.size w w8):=hid (HB.out.trans ((show Below wr.heap.size wr w8 from(Below.refl _ _).drew.trans hb).mono HB.out.size));have hs8:wr.heap.size≤w8.heap.size:=hb.size;have t2:=(World.cell?_of_block (a:=⟨p,o+j * 8+2,none⟩) (hb.block p hp2)).trans x2;have t3:=(World.cell?_of_block (a:=⟨p,o+j * 8+3,none⟩) (hb.block p hp2)).trans x3;have t4:=(World.cell?_of_block (a:=⟨p,o+j * 8+4,none⟩) (hb.block p hp2)).trans x4;have t5:=(World.cell?_of_block (a:=⟨p,o+j * 8+5,none⟩) (hb.block p hp2)).trans x5;have t6:=(World.cell?_of_block (a:=⟨p,o+j * 8+6,none⟩) (hb.block p hp2)).trans x6;have s2:=(World.cell?_of_block (a:=⟨p',o'+j * 8+2,none⟩) (hb.block p' hp2')).trans g2;have s3:=(World.cell?_of_block (a:=⟨p',o'+j * 8+3,none⟩) (hb.block p' hp2')).trans g3;have s4:=(World.cell?_of_block (a:=⟨p',o'+j * 8+4,none⟩) (hb.block p' hp2')).trans g4;have s5:=(World.cell?_of_block (a:=⟨p',o'+j * 8+5,none⟩) (hb.block p' hp2')).trans g5;have s6:=(World.cell?_of_block (a:=⟨p',o'+j * 8+6,none⟩) (hb.block p' hp2')).trans g6;have hp3:p<w8.heap.size:=by omega
     have hp3':p'<w8.heap.size:=by omega
     clear hb HPS HVS x0 x1 x2 x3 x4 x5 x6 x7 g0 g1 g2 g3 g4 g5 g6 g7 hp2 hp2' e0 e7;by_cases hpp:xs[j].path=ys[j].path
     ·have HPP:=hid hpp;rw[decide_eq_true hpp];clear hpp;have q2:=aa (B:=w8.heap.size) (w:=w8) t2 hp3;have z2:=aa (B:=w8.heap.size) (w:=w8) s2 hp3';have q3:=aa (B:=w8.heap.size) (w:=w8) t3 hp3;have z3:=aa (B:=w8.heap.size) (w:=w8) s3 hp3';have q4:=aa (B:=w8.heap.size) (w:=w8) t4 hp3;have z4:=aa (B:=w8.heap.size) (w:=w8) s4 hp3';have q5:=aa (B:=w8.heap.size) (w:=w8) t5 hp3;have z5:=aa (B:=w8.heap.size) (w:=w8) s5 hp3';have q6:=aa (B:=w8.heap.size) (w:=w8) t6 hp3;have z6:=aa (B:=w8.heap.size) (w:=w8) s6 hp3';first|with_reducible refine ac ?_ |with_reducible refine ab ?_ |refine ac ?_ |refine ab ?_
      simp only[List.takeWhile,List.dropWhile,ai,Nat.reduceBNe];repeat(go_big_quiet_step (fail))
      first|with_reducible refine wpQuiet_nil ?_ |refine wpQuiet_nil ?_
      clear q2 q3 q4 q5 q6 z2 z3 z4 z5 z6;first|with_reducible refine ah ?_ (fun K hK=> ?_)|with_reducible refine af ?_ (fun K hK=> ?_)|refine ah ?_ (fun K hK=> ?_)|refine af ?_ (fun K hK=> ?_)
      ·rfl
      go_simp
      refine(HVS8.out).mono ?_;rintro e w9 ⟨⟨r,rfl,hr⟩,hb⟩;refine hK _ _ hb ?_;clear hK K;try simp only[Act.put]
      have HB9:Hid (Below w.heap.size w w9):=hid (HB8.out.trans (hb.mono HB8.out.size));have HRR:=hid hr;clear hb HVS8 hr t2 t3 t4 t5 t6 s2 s3 s4 s5 s6 hp3 hp3' hs8;first|with_reducible refine ac ?_ |with_reducible refine ab ?_ |refine ac ?_ |refine ab ?_
      simp only[List.takeWhile,List.dropWhile,ai,Nat.reduceBNe];repeat(go_big_quiet_step (fail))
      first|with_reducible refine wpQuiet_nil ?_ |refine wpQuiet_nil ?_
      unfold aF;cases r
      ·have HF:Hid ((false=true)↔xs=ys):=hid ⟨fun h=>(by cases h),fun h=>by
        have h1:=HRR.out.2 (by subst h;rfl)
        cases h1⟩
       go_wp2_with fail;go_ret;exact⟨⟨_,rfl,HF.out⟩,HB9.out⟩
      ·have HEQ:Hid (xs[j]=ys[j]):=hid (aR.same HALL.out.1 HALL.out.2 HPP.out (HRR.out.1 rfl));go_wp2_with fail
       go_roundw
       case rel=>exact⟨j+1,by go_num,by omega,hid (fun k h h' hkj=>by
        by_cases e:k=j
        ·subst e;exact HEQ.out
        ·exact HE.out k h h' (by omega)),HB9⟩
       case measure=>simp[intOf];omega
     ·have HF:Hid ((false=true)↔xs=ys):=hid ⟨fun h=>(by cases h),fun h=>absurd (by subst h;rfl) hpp⟩;rw[decide_eq_false hpp];clear hpp;first|with_reducible refine ac ?_ |with_reducible refine ab ?_ |refine ac ?_ |refine ab ?_
      simp only[List.takeWhile,List.dropWhile,ai,Nat.reduceBNe];repeat(go_big_quiet_step (fail))
      first|with_reducible refine wpQuiet_nil ?_ |refine wpQuiet_nil ?_
      first|refine ah rfl (fun K hK=> ?_)|refine af rfl (fun K hK=> ?_)
      go_simp
      refine hK _ _ (Below.refl _ _) ?_;clear hK K;try simp only[Act.put]
      first|with_reducible refine ac ?_ |with_reducible refine ab ?_ |refine ac ?_ |refine ab ?_
      simp only[List.takeWhile,List.dropWhile,ai,Nat.reduceBNe];repeat(go_big_quiet_step (fail))
      first|with_reducible refine wpQuiet_nil ?_ |refine wpQuiet_nil ?_
      unfold aF;go_wp2_with fail;go_ret;exact⟨⟨_,rfl,HF.out⟩,HB8.out⟩
    ·have HF:Hid ((false=true)↔xs=ys):=hid ⟨fun h=>(by cases h),fun h=>absurd (by subst h;exact⟨rfl,rfl⟩) hall⟩;have HB8:Hid (Below w.heap.size w wr.drew):=hid HB.out.drew
     have hcut:(xs[j].kind≠ys[j].kind)∨(xs[j].kind=ys[j].kind∧xs[j].num≠ys[j].num):=by
      by_cases h1:xs[j].kind=ys[j].kind
      ·exact .inr ⟨h1,fun h2=>hall ⟨h1,h2⟩⟩
      ·exact .inl h1
     clear hall HPS HVS;rcases hcut with h1|⟨h1,h2⟩
     ·have e0:(xs[j].kind != ys[j].kind)=true:=bne_iff_ne.2 h1;clear h1;go_wp2_with fail;refine ar [0,1,2,3,4,5,6,7,8,9,10,11,12,13,14,15,16,17,18,19,20,21,22,23,24,25,26,27,28,29,30,31,32,33,34,35,36,37,38,39,40,41,42,43,44,45,46,47,48,49,50,51] (by kernel_rfl) (by kernel_rfl) (fun _ d _ _ _ h=>by cases d<;>exact h) ?_;simp only[atR];have q0:=aa (B:=wr.heap.size) (w:=wr.drew) x0 hp2;have q1:=aa (B:=wr.heap.size) (w:=wr.drew) x1 hp2;have q2:=aa (B:=wr.heap.size) (w:=wr.drew) x2 hp2;have q3:=aa (B:=wr.heap.size) (w:=wr.drew) x3 hp2;have q4:=aa (B:=wr.heap.size) (w:=wr.drew) x4 hp2;have q5:=aa (B:=wr.heap.size) (w:=wr.drew) x5 hp2;have q6:=aa (B:=wr.heap.size) (w:=wr.drew) x6 hp2;have q7:=aa (B:=wr.heap.size) (w:=wr.drew) x7 hp2;have z0:=aa (B:=wr.heap.size) (w:=wr.drew) g0 hp2';have z1:=aa (B:=wr.heap.size) (w:=wr.drew) g1 hp2';have z2:=aa (B:=wr.heap.size) (w:=wr.drew) g2 hp2';have z3:=aa (B:=wr.heap.size) (w:=wr.drew) g3 hp2';have z4:=aa (B:=wr.heap.size) (w:=wr.drew) g4 hp2';have z5:=aa (B:=wr.heap.size) (w:=wr.drew) g5 hp2';have z6:=aa (B:=wr.heap.size) (w:=wr.drew) g6 hp2';have z7:=aa (B:=wr.heap.size) (w:=wr.drew) g7 hp2';first|with_reducible refine ac ?_ |with_reducible refine ab ?_ |refine ac ?_ |refine ab ?_
      simp only[List.takeWhile,List.dropWhile,ai,Nat.reduceBNe];repeat(go_big_quiet_step (fail))
      first|with_reducible refine wpQuiet_nil ?_ |refine wpQuiet_nil ?_
      first|refine ah rfl (fun K hK=> ?_)|refine af rfl (fun K hK=> ?_)
      go_simp
      refine hK _ _ (Below.refl _ _) ?_;clear hK K;try simp only[Act.put]
      first|with_reducible refine ac ?_ |with_reducible refine ab ?_ |refine ac ?_ |refine ab ?_
      simp only[List.takeWhile,List.dropWhile,ai,Nat.reduceBNe];repeat(go_big_quiet_step (fail))
      first|with_reducible refine wpQuiet_nil ?_ |refine wpQuiet_nil ?_
      first|refine ah rfl (fun K hK=> ?_)|refine af rfl (fun K hK=> ?_)
      go_simp
      refine hK _ _ (Below.refl _ _) ?_;clear hK K;try simp only[Act.put]
      first|with_reducible refine ac ?_ |with_reducible refine ab ?_ |refine ac ?_ |refine ab ?_
      simp only[List.takeWhile,List.dropWhile,ai,Nat.reduceBNe];repeat(go_big_quiet_step (fail))
      first|with_reducible refine wpQuiet_nil ?_ |refine wpQuiet_nil ?_
      unfold aF;clear q0 q1 q2 q3 q4 q5 q6 q7 z0 z1 z2 z3 z4 z5 z6 z7;go_wp2_with fail;go_ret;exact⟨⟨_,rfl,HF.out⟩,HB8.out⟩
     ·have e0:(xs[j].kind != ys[j].kind)=false:=by rw[h1];simp
      have e7:(xs[j].num != ys[j].num)=true:=bne_iff_ne.2 h2;clear h1 h2;go_wp2_with fail;refine ar [0,1,2,3,4,5,6,7,8,9,10,11,12,13,14,15,16,17,18,19,20,21,22,23,24,25,26,27,28,29,30,31,32,33,34,35,36,37,38,39,40,41,42,43,44,45,46,47,48,49,50,51] (by kernel_rfl) (by kernel_rfl) (fun _ d _ _ _ h=>by cases d<;>exact h) ?_;simp only[atR];have q0:=aa (B:=wr.heap.size) (w:=wr.drew) x0 hp2;have q1:=aa (B:=wr.heap.size) (w:=wr.drew) x1 hp2;have q2:=aa (B:=wr.heap.size) (w:=wr.drew) x2 hp2;have q3:=aa (B:=wr.heap.size) (w:=wr.drew) x3 hp2;have q4:=aa (B:=wr.heap.size) (w:=wr.drew) x4 hp2;have q5:=aa (B:=wr.heap.size) (w:=wr.drew) x5 hp2;have q6:=aa (B:=wr.heap.size) (w:=wr.drew) x6 hp2;have q7:=aa (B:=wr.heap.size) (w:=wr.drew) x7 hp2;have z0:=aa (B:=wr.heap.size) (w:=wr.drew) g0 hp2';have z1:=aa (B:=wr.heap.size) (w:=wr.drew) g1 hp2';have z2:=aa (B:=wr.heap.size) (w:=wr.drew) g2 hp2';have z3:=aa (B:=wr.heap.size) (w:=wr.drew) g3 hp2';have z4:=aa (B:=wr.heap.size) (w:=wr.drew) g4 hp2';have z5:=aa (B:=wr.heap.size) (w:=wr.drew) g5 hp2';have z6:=aa (B:=wr.heap.size) (w:=wr.drew) g6 hp2';have z7:=aa (B:=wr.heap.size) (w:=wr.drew) g7 hp2';first|with_reducible refine ac ?_ |with_reducible refine ab ?_ |refine ac ?_ |refine ab ?_
      simp only[List.takeWhile,List.dropWhile,ai,Nat.reduceBNe];repeat(go_big_quiet_step (fail))
      first|with_reducible refine wpQuiet_nil ?_ |refine wpQuiet_nil ?_
      first|refine ah rfl (fun K hK=> ?_)|refine af rfl (fun K hK=> ?_)
      go_simp
      refine hK _ _ (Below.refl _ _) ?_;clear hK K;try simp only[Act.put]
      first|with_reducible refine ac ?_ |with_reducible refine ab ?_ |refine ac ?_ |refine ab ?_
      simp only[List.takeWhile,List.dropWhile,ai,Nat.reduceBNe];repeat(go_big_quiet_step (fail))
      first|with_reducible refine wpQuiet_nil ?_ |refine wpQuiet_nil ?_
      first|refine ah rfl (fun K hK=> ?_)|refine af rfl (fun K hK=> ?_)
      go_simp
      refine hK _ _ (Below.refl _ _) ?_;clear hK K;try simp only[Act.put]
      first|with_reducible refine ac ?_ |with_reducible refine ab ?_ |refine ac ?_ |refine ab ?_
      simp only[List.takeWhile,List.dropWhile,ai,Nat.reduceBNe];repeat(go_big_quiet_step (fail))
      first|with_reducible refine wpQuiet_nil ?_ |refine wpQuiet_nil ?_
      unfold aF;clear q0 q1 q2 q3 q4 q5 q6 q7 z0 z1 z2 z3 z4 z5 z6 z7;go_wp2_with fail;go_ret;exact⟨⟨_,rfl,HF.out⟩,HB8.out⟩
   ·have HF:Hid ((true=true)↔xs=ys):=hid ⟨fun _=>List.ext_getElem HL.out (fun k h h'=>HE.out k h h' (by have:=HMA.out;omega)),fun _=>rfl⟩;have d1:decide ((j:Int)<(m:Int))=false:=decide_eq_false (by omega);go_wp2_with fail;go_ret;exact⟨.inr ⟨rfl,by have h:=HF.out;simpa using h⟩,HB.out⟩
 ·have d1:((xs.length:Int) != (ys.length:Int))=true:=bne_iff_ne.2 (by omega);have HN:Hid (xs≠ys):=hid fun e=>hl (by rw[e]);clear hl;go_enter Tryz.func58,Tryz.ntmps58;go_wp2_with fail;go_ret;exact⟨⟨false,rfl,by have:=HN.out;simpa using this⟩,Below.refl _ _⟩
theorem uh (t:VT):okT t [idN]=(gJ t idN).isSome∧ ∀x,gJ t idN=some x→tu t [idN]=x:=by
 unfold okT tu;rw[sU]
 cases h:gJ t idN with
 |none=>exact⟨rfl,fun x hx=>by cases hx⟩
 |some u=>exact⟨rfl,fun x hx=>by injection hx with hx⟩
theorem qn (S:Nat→Prop)(v id:VT)(cv ci:Value)(w:World)(hS: ∀b,S b→b<w.heap.size)(hv:LV w S v cv)(hi:LV w S id ci)(dv:ao v≤4611686018427387903)(hid:ba id=true):
  Calls Tryz.prog 55 #[cv,ci] w fun e w'=>e= .returned (.bool (cH v id))∧Below w.heap.size w w':=by
 obtain⟨A,ca,A',ca',B,cb,B',cb',rfl,rfl,lens,a7,a6,b7,b6,v1,v2,hb0⟩:=ko hS hv hi;obtain⟨w2,hw2⟩: ∃W,W=((w.alloc (.cells #[.int .i64 v.kind,.int .i64 v.num,.string v.text,.slice A v.items.length ca,.slice A' v.names.length ca'] 43)).alloc (.cells #[.int .i64 id.kind,.int .i64 id.num,.string id.text,.slice B id.items.length cb,.slice B' id.names.length cb'] 43)):=⟨_,rfl⟩;rw[←hw2]at v1 v2 hb0;have HC:=Lib.hid (il S v _ w2 dv v1.s v1.v);obtain⟨r,hr⟩: ∃r,r=cH v id:=⟨_,rfl⟩;have HR:=Lib.hid hr;rw[←hr];have HB0:=Lib.hid hb0;have H1:=Lib.hid v1;have H2:=Lib.hid v2;have HDI:=Lib.hid hid;have y0:=v1.x.c0;have y1:=v1.x.c1;have y2:=v1.x.c2;have y3:=v1.x.c3;have y4:=v1.x.c4;clear hr hb0 v1 v2 hid dv a7 a6 b7 b6 hv hi hS lens;by_cases hk:v.kind=7
 case neg=>
  have HE:Hid (r=false):=Lib.hid (by rw[HR.out];unfold cH;rw[decide_eq_false hk];rfl);have d1:(v.kind == 7)=false:=beq_false_of_ne hk;have d2:(v.kind != 7)=true:=by simp[hk]
  clear hk;go_enter Tryz.func55,Tryz.ntmps55;go_wp2_with fail;rw[←hw2];go_ret;exact⟨by rw[HE.out];rfl,HB0.out⟩
 have HKK:=Lib.hid hk;obtain⟨kk,hkk⟩: ∃k,k=v.kind:=⟨_,rfl⟩;have d1:(kk == 7)=true:=by rw[hkk];exact beq_iff_eq.2 hk
 have d2:(kk != 7)=false:=by simp[hkk,hk]
 rw[←hkk]at y0 hw2 HC ⊢;have HKE:=Lib.hid hkk;clear hk hkk;go_enter Tryz.func55,Tryz.ntmps55;go_wp2_with fail;rw[←hw2];clear hw2;refine HC.out.mono ?_;rintro e w3 ⟨rfl,hb⟩;have HB3:=Lib.hid (HB0.out.trans (hb.mono HB0.out.size));have h1:=H1.out.call hb;have h2:=H2.out.call hb;clear hb HC y0 y1 y2 y3 y4;obtain⟨x,hx⟩: ∃x,x=aX v:=⟨_,rfl⟩;have HX:=Lib.hid hx;rw[←hx];clear hx;by_cases hx0:x=0
 case neg=>
  have HE:Hid (r=false):=Lib.hid (by rw[HR.out];unfold cH;rw[←HX.out,decide_eq_false hx0,Bool.and_false];rfl);have e1:(x == 0)=false:=beq_false_of_ne hx0;have e2:(x != 0)=true:=by simp[hx0]
  clear h1 h2;go_wp2_with fail;go_ret;exact⟨by rw[HE.out];rfl,HB3.out⟩
 subst hx0;have hmay:=ek HX.out.symm;have y0:=h1.x.c0;have y1:=h1.x.c1;have y2:=h1.x.c2;have y3:=h1.x.c3;have y4:=h1.x.c4;obtain⟨w4,hw4⟩: ∃W,W=w3.alloc (.cells #[.string idN] 9):=⟨_,rfl⟩;have hb4:Below w3.heap.size w3 w4:=by rw[hw4];exact ae _
 have hk4:w4.heap[w3.heap.size]? =some (.cells #[.string idN] 9 (0,0)):=by rw[hw4];exact heap_alloc_new _ _
 have hz4:w4.heap.size=w3.heap.size+1:=by rw[hw4];simp
 have HB4:=Lib.hid (HB3.out.trans (hb4.mono HB3.out.size));have h14:=h1.call hb4;have h24:=h2.call hb4
 have hst:au w4 (fun b=>S b∨b=w3.heap.size) (some ⟨w3.heap.size,0,none⟩) [idN]:=fun _=>⟨_,0,rfl,.inr rfl,fun i hi=>by
  obtain rfl:i=0:=by simpa using hi
  exact⟨Go.Joins.cell_of_block hk4 0,show idN.size≤140737488351232 by decide⟩⟩
 have HG:=Lib.hid (uf (fun b=>S b∨b=w3.heap.size) v _ (some ⟨w3.heap.size,0,none⟩) 1 [idN] w4 (fun b hb=>by
  rcases hb with hb|rfl
  ·exact h14.s b hb
  ·omega) (h14.v.imp fun b hb=> .inl hb) hmay hst (by simp))
 have H24:=Lib.hid h24;have HZ4:=Lib.hid hz4;rw[←HKE.out]at HG y0;clear hb4 hk4 hst h14 h24 h1 h2 hz4 hmay;go_wp2_with fail;rw[show(⟨#[95,105,100]⟩:ByteArray)=idN from rfl,←hw4];refine HG.out.mono ?_;rintro e w5 ⟨u,rfl,hu,hb⟩;clear hw4 y0 y1 y2 y3 y4 HG;have HB5:=Lib.hid (HB4.out.trans (hb.mono HB4.out.size));have H25:=Lib.hid (H24.out.call hb);obtain⟨UA,uc,UA',uc',rfl,-⟩:=hu.shape;obtain⟨hok,hgot⟩:=uh v;have HU:=Lib.hid hu;have HZ5:Hid (w3.heap.size<w5.heap.size):=Lib.hid (by have:=hb.size;have:=HZ4.out;omega)
 cases hit:gJ v idN with
 |none=>
  have HE:Hid (r=false):=Lib.hid (by rw[HR.out];unfold cH;rw[hit,Bool.and_false]);rw[hok,hit];have HB6:=Lib.hid (fun o=>HB5.out.alloc HB5.out.size o);clear hu hb hok hgot hit;go_wp2_with fail;go_ret
  exact⟨by rw[HE.out];rfl,HB6.out _⟩
 |some y=>
  rw[hok,hit];rw[hgot y hit]at HU ⊢
  have hmy:ba y=true:=by
   unfold gJ at hit
   split at hit
   ·cases hit
   ·obtain⟨hj,rfl⟩:=List.getElem?_eq_some_iff.1 hit;exact j3 (ek HX.out.symm) hj
  have HE:Hid (r=true↔y=id):=Lib.hid (by
   rw[HR.out,←mE y id hmy HDI.out];unfold cH;rw[hit,←HX.out,decide_eq_true HKK.out,decide_eq_true rfl];show decide (eA y id=0)=true↔_
   exact decide_eq_true_iff)
  clear hu hb hok hgot hit hmy;obtain⟨w6,hw6⟩: ∃W,W=w5.alloc (.cells #[.int .i64 y.kind,.int .i64 y.num,.string y.text,.slice UA y.items.length uc,.slice UA' y.names.length uc'] 43):=⟨_,rfl⟩;have hb6:Below w5.heap.size w5 w6:=by rw[hw6];exact ae _
  have HB6:=Lib.hid (HB5.out.trans (hb6.mono HB5.out.size));have h26:=H25.out.call hb6
  have hu6:LV w6 (fun b=>S b∨b=w3.heap.size) y (.agg #[.int .i64 y.kind,.int .i64 y.num,.string y.text,.slice UA y.items.length uc,.slice UA' y.names.length uc']):=HU.out.keep fun b hb=>hb6.block b (by
   rcases hb with hb|rfl
   ·exact H25.out.s b hb
   ·exact HZ5.out)
  have HSM:=Lib.hid (ei (fun b=>S b∨b=w3.heap.size) (ao y) y id _ _ w6 (Nat.le_refl _) (fun b hb=>by
   rcases hb with hb|rfl
   ·exact h26.s b hb
   ·exact Nat.lt_of_lt_of_le HZ5.out hb6.size) hu6 (h26.v.imp fun b hb=> .inl hb))
  have y0:=h26.x.c0;have y1:=h26.x.c1;have y2:=h26.x.c2;have y3:=h26.x.c3;have y4:=h26.x.c4;rw[hw6]at y0 y1 y2 y3 y4;clear hb6 h26 hu6;go_wp2_with fail;rw[←hw6];refine HSM.out.mono ?_;rintro e w7 ⟨⟨q,rfl,hq⟩,hb⟩;have HB7:=Lib.hid (HB6.out.trans (hb.mono HB6.out.size))
  have HQ:Hid (r=q):=Lib.hid (by
   rw[Bool.eq_iff_iff,HE.out,hq])
  clear hb hq y0 y1 y2 y3 y4 hw6 HSM;go_wp2_with fail;go_ret;exact⟨by rw[HQ.out];rfl,HB7.out⟩
end Go.Proofs.YtgfidiocmiolpaaGreat
