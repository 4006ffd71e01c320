/- Whether an entry may be, by the document. (Written by mkenm.py.) -/
import Derived.Test.YtgfidiocmiolpaaGreatKEnJ
import Derived.Test.YtgfidiocmiolpaaGreatKLook
import Derived.Test.YtgfidiocmiolpaaGreatKCodG
import Derived.Test.YtgfidiocmiolpaaGreatKDlN
import Derived.Test.YtgfidiocmiolpaaGreatKRefM
import Derived.Test.YtgfidiocmiolpaaGreatKCodP
import Derived.Test.YtgfidiocmiolpaaGreatKEnE
import Derived.Test.YtgfidiocmiolpaaGreatKTrH
import Derived.Test.YtgfidiocmiolpaaGreatKCpA
import Derived.Laws.AppendOwnNone
import Derived.Lib.AppendZerosOnto
import Derived.Lib.AppendZeros
import Derived.Lib.SliceRun
import Derived.Laws.ResultCell
import Derived.Deep.MidRow
set_option maxHeartbeats 64000000
set_option maxRecDepth 100000
set_option linter.unusedVariables false
set_option linter.unusedSimpArgs false
namespace Go.Proofs.YtgfidiocmiolpaaGreat
open Lib (hid)
open Go.RowKit
theorem iS (s:ByteArray)(w:World)(hs:s.size≤140737488351232):Calls Tryz.prog 52 #[.string s] w fun e w'=>e= .returned (.bool (bn s))∧Below w.heap.size w w':=
  (oW s w hs).mono fun _ _ h=>⟨h.1,by rw[h.2];exact Below.refl _ _⟩
theorem oY {n:Nat}(h: ¬n=0):(0:Int)<(n:Int):=by omega
theorem pg (b1 b2 b3 b4 b5:Bool)(hb:(b1=false∧b2=false∧b3=false∧b4=false∧b5=false)∨(b1=true∧b2=false∧b3=true∧b4=true∧b5=false)∨(b1=true∧b2=false∧b3=true∧b4=false∧b5=true)∨(b1=true∧b2=false∧b3=true∧b4=false∧b5=false)∨(b1=true∧b2=false∧b3=false∧b4=false∧b5=false)∨(b1=true∧b2=true∧b3=false∧b4=false∧b5=false))(S:Nat→Prop)(e:aU)(IA:Option Addr)(ic:Nat)(IA':Option Addr)(ic':Nat)(DA:Option Addr)(dc:Nat)(DA':Option Addr)(dc':Nat)(LA:Option Addr)(lc:Nat)(w:World)(hS: ∀b,S b→b<w.heap.size)(h:eE w S e IA ic IA' ic' DA dc DA' dc' LA lc)(hd:SmE e)
    (hh: ∀W,Calls Tryz.prog 51 #[.int .i64 e.kind] W fun r w'=>r= .returned (.tuple #[.bool b1,.bool b2,.bool b3,.bool b4,.bool b5])∧w'=W) (hkd:if b1=true then e.kind≠1 else(1≤e.kind→e.kind≤7→e.kind=1)):
    Calls Tryz.prog 25 #[.agg #[.int .i64 e.term,.int .i64 e.kind,.string e.coll,.string e.to,.int .i64 e.id.kind,.int .i64 e.id.num,.string e.id.text,.slice IA e.id.items.length ic,.slice IA' e.id.names.length ic',.int .i64 e.doc.kind,.int .i64 e.doc.num,.string e.doc.text,.slice DA e.doc.items.length dc,.slice DA' e.doc.names.length dc',.slice LA e.dels.length lc,.int .i64 e.session,.int .i64 e.number]] w fun r w'=>r= .returned (.bool (cE e.kind && fA e && ((b1 || decide (e.coll.size=0)) && (b2 || decide (e.to.size=0)) && (b3 || bm e.id) && (b4 || bm e.doc) && (b5 || decide (e.dels.length=0))) && ((!b1 || bn e.coll) && (!b2 || (bn e.to && decide (e.to≠e.coll))) && (!b3 || decide (aX e.id=0)) && (!b4 || cH e.doc e.id) && (!b5 || dx e.dels))))∧Below w.heap.size w w':=by
  obtain⟨w1,hw1⟩: ∃W,W=w.alloc (.cells #[.int .i64 e.term,.int .i64 e.kind,.string e.coll,.string e.to,.int .i64 e.id.kind,.int .i64 e.id.num,.string e.id.text,.slice IA e.id.items.length ic,.slice IA' e.id.names.length ic',.int .i64 e.doc.kind,.int .i64 e.doc.num,.string e.doc.text,.slice DA e.doc.items.length dc,.slice DA' e.doc.names.length dc',.slice LA e.dels.length lc,.int .i64 e.session,.int .i64 e.number] 46):=⟨_,rfl⟩;have hbk:aS w1 w.heap.size e IA ic IA' ic' DA dc DA' dc' LA lc:=by rw[hw1];exact heap_alloc_new w _
  have hb1:Below w.heap.size w w1:=by rw[hw1];exact ae _
  obtain⟨r,hr⟩: ∃r,r=(cE e.kind && fA e && ((b1 || decide (e.coll.size=0)) && (b2 || decide (e.to.size=0)) && (b3 || bm e.id) && (b4 || bm e.doc) && (b5 || decide (e.dels.length=0))) && ((!b1 || bn e.coll) && (!b2 || (bn e.to && decide (e.to≠e.coll))) && (!b3 || decide (aX e.id=0)) && (!b4 || cH e.doc e.id) && (!b5 || dx e.dels))):=⟨_,rfl⟩;have HR:=hid hr;rw[←hr];have HB:=hid hb1;have HK:=hid hbk;have HS:=hid hS;have HA:=hid h;have HD:=hid hd;have HH:=hid hh;have HKD:=hid hkd;have HCB:=hid hb;clear hr hb1 hbk hS h hd hh hkd hb;go_enter Tryz.func25,Tryz.ntmps25;by_cases hK1:1≤e.kind;rotate_left
  · have dK1:decide (e.kind<1)=true:=decide_eq_true (by omega)
    have HE:Hid (r=false):=hid (by rw[HR.out];unfold cE fA;rw[decide_eq_false hK1];simp);clear hK1;go_wp2_with fail;rw[←hw1];go_ret;exact⟨by rw[HE.out];rfl,HB.out⟩
  have gK1:decide (e.kind<1)=false:=decide_eq_false (by omega);by_cases hK7:e.kind≤7;rotate_left
  · have dK7:decide (7<e.kind)=true:=decide_eq_true (by omega)
    have HE:Hid (r=false):=hid (by rw[HR.out];unfold cE fA;rw[decide_eq_false hK7];simp);clear hK7;go_wp2_with fail;rw[←hw1];go_ret;exact⟨by rw[HE.out];rfl,HB.out⟩
  have gK7:decide (7<e.kind)=false:=decide_eq_false (by omega);by_cases hT0:0≤e.term;rotate_left
  · have dT0:decide (e.term<0)=true:=decide_eq_true (by omega)
    have HE:Hid (r=false):=hid (by rw[HR.out];unfold cE fA;rw[decide_eq_false hT0];simp);clear hT0;go_wp2_with fail;rw[←hw1];go_ret;exact⟨by rw[HE.out];rfl,HB.out⟩
  have gT0:decide (e.term<0)=false:=decide_eq_false (by omega);by_cases hT1:e.term≤1099511627776;rotate_left
  · have dT1:decide (1099511627776<e.term)=true:=decide_eq_true (by omega)
    have HE:Hid (r=false):=hid (by rw[HR.out];unfold cE fA;rw[decide_eq_false hT1];simp);clear hT1;go_wp2_with fail;rw[←hw1];go_ret;exact⟨by rw[HE.out];rfl,HB.out⟩
  have gT1:decide (1099511627776<e.term)=false:=decide_eq_false (by omega);by_cases hS0:0≤e.session;rotate_left
  · have dS0:decide (e.session<0)=true:=decide_eq_true (by omega)
    have HE:Hid (r=false):=hid (by rw[HR.out];unfold cE fA;rw[decide_eq_false hS0];simp);clear hS0;go_wp2_with fail;rw[←hw1];go_ret;exact⟨by rw[HE.out];rfl,HB.out⟩
  have gS0:decide (e.session<0)=false:=decide_eq_false (by omega);by_cases hS1:e.session≤255;rotate_left
  · have dS1:decide (255<e.session)=true:=decide_eq_true (by omega)
    have HE:Hid (r=false):=hid (by rw[HR.out];unfold cE fA;rw[decide_eq_false hS1];simp);clear hS1;go_wp2_with fail;rw[←hw1];go_ret;exact⟨by rw[HE.out];rfl,HB.out⟩
  have gS1:decide (255<e.session)=false:=decide_eq_false (by omega);by_cases hN0:0≤e.number;rotate_left
  · have dN0:decide (e.number<0)=true:=decide_eq_true (by omega)
    have HE:Hid (r=false):=hid (by rw[HR.out];unfold cE fA;rw[decide_eq_false hN0];simp);clear hN0;go_wp2_with fail;rw[←hw1];go_ret;exact⟨by rw[HE.out];rfl,HB.out⟩
  have gN0:decide (e.number<0)=false:=decide_eq_false (by omega);by_cases hN1:e.number≤1099511627776;rotate_left
  · have dN1:decide (1099511627776<e.number)=true:=decide_eq_true (by omega)
    have HE:Hid (r=false):=hid (by rw[HR.out];unfold cE fA;rw[decide_eq_false hN1];simp);clear hN1;go_wp2_with fail;rw[←hw1];go_ret;exact⟨by rw[HE.out];rfl,HB.out⟩
  have gN1:decide (1099511627776<e.number)=false:=decide_eq_false (by omega);have HNB:=hid (And.intro hK1 hK7)
  have HKN:Hid (cE e.kind=true∧fA e=(if e.kind=1 then decide (e.session=0) && decide (e.number=0)else true)):=hid (by
    unfold cE fA;rw[decide_eq_true hK1,decide_eq_true hK7,decide_eq_true hT0,decide_eq_true hT1,decide_eq_true hS0,decide_eq_true hS1,decide_eq_true hN0,decide_eq_true hN1]
    simp)
  rw[HKN.out.1,HKN.out.2,Bool.true_and]at HR;go_wp2_with fail;rw[←hw1];clear hw1;refine(HH.out _).mono ?_;rintro q u ⟨rfl,hw⟩;replace hw:=hw.symm;subst hw;clear hK1 hK7 hT0 hT1 hS0 hS1 hN0 hN1 gK1 gK7 gT0 gT1 gS0 gS1 gN0 gN1;have HF1:=(ay.mk:ay b1);have HF2:=(ay.mk:ay b2);have HF3:=(ay.mk:ay b3);have HF4:=(ay.mk:ay b4);have HF5:=(ay.mk:ay b5);rcases HCB.out with ⟨rfl,rfl,rfl,rfl,rfl⟩|⟨rfl,rfl,rfl,rfl,rfl⟩|⟨rfl,rfl,rfl,rfl,rfl⟩|⟨rfl,rfl,rfl,rfl,rfl⟩|⟨rfl,rfl,rfl,rfl,rfl⟩|⟨rfl,rfl,rfl,rfl,rfl⟩
  all_goals obtain⟨y1,y2,y3,y4,y5,y6,y7,y8,y9,y10,y11,y12,y13,y14,y15,y16⟩:=HK.out.all
  all_goals first
    |(have _g:ay true:=HF1
      by_cases hc:e.coll.size=0
      · have e1:e.coll.toList= []:=bj.2 hc
        have hnn:bn e.coll=false:=by
          cases hz:bn e.coll with
          |false=>rfl
          |true=>exact absurd hc (mf hz)
        have HE:Hid (r=false):=hid (by rw[HR.out];simp[hnn]);clear hnn;go_wp2_with fail;go_ret;exact⟨by rw[HE.out];rfl,HB.out⟩
      have e1:e.coll.toList.isEmpty=false:=by rw[←Bool.not_eq_true,bR];exact hc
      have f1: ¬e.coll.toList= []:=fun h=>hc (bj.1 h);clear hc;go_wp2_with fail;refine(iS e.coll _ HA.out.cz).mono ?_;rintro q wn ⟨rfl,hb⟩;clear y1 y2 y3 y4 y5 y6 y7 y8 y9 y10 y11 y12 y13 y14 y15 y16;have HB:=hid (HB.out.trans (hb.mono HB.out.size));have HK:=hid (HK.out.below hb);clear hb;obtain⟨y1,y2,y3,y4,y5,y6,y7,y8,y9,y10,y11,y12,y13,y14,y15,y16⟩:=HK.out.all;cases hn:bn e.coll
      · have HE:Hid (r=false):=hid (by rw[HR.out];simp[hn])
        go_wp2_with fail;go_ret;exact⟨by rw[HE.out];rfl,HB.out⟩
      have HQ1:Hid ((true || decide (e.coll.size=0))=true∧(!true || bn e.coll)=true):=hid ⟨rfl,by rw[hn];rfl⟩
      clear hn)
    |(have _g:ay false:=HF1
      by_cases hc:e.coll.size=0;rotate_left
      · have e1:e.coll.toList.isEmpty=false:=by rw[←Bool.not_eq_true,bR];exact hc
        have f1: ¬e.coll.toList= []:=fun h=>hc (bj.1 h);have HE:Hid (r=false):=hid (by rw[HR.out];simp[hc]);go_wp2_with fail;go_ret;exact⟨by rw[HE.out];rfl,HB.out⟩
      have e1:e.coll.toList= []:=bj.2 hc;have HQ1:Hid ((false || decide (e.coll.size=0))=true∧(!false || bn e.coll)=true):=hid ⟨by rw[decide_eq_true hc];rfl,rfl⟩
      clear hc)
  all_goals first
    |(have _g:ay true:=HF2
      by_cases hc:e.to.size=0
      · have e1:e.to.toList= []:=bj.2 hc
        have hnn:bn e.to=false:=by
          cases hz:bn e.to with
          |false=>rfl
          |true=>exact absurd hc (mf hz)
        have HE:Hid (r=false):=hid (by rw[HR.out];simp[hnn]);clear hnn;go_wp2_with fail;go_ret;exact⟨by rw[HE.out];rfl,HB.out⟩
      have e1:e.to.toList.isEmpty=false:=by rw[←Bool.not_eq_true,bR];exact hc
      have f1: ¬e.to.toList= []:=fun h=>hc (bj.1 h);clear hc;go_wp2_with fail;refine(iS e.to _ HA.out.tz).mono ?_;rintro q wn ⟨rfl,hb⟩;clear y1 y2 y3 y4 y5 y6 y7 y8 y9 y10 y11 y12 y13 y14 y15 y16;have HB:=hid (HB.out.trans (hb.mono HB.out.size));have HK:=hid (HK.out.below hb);clear hb;obtain⟨y1,y2,y3,y4,y5,y6,y7,y8,y9,y10,y11,y12,y13,y14,y15,y16⟩:=HK.out.all;cases hn:bn e.to
      · have HE:Hid (r=false):=hid (by rw[HR.out];simp[hn])
        go_wp2_with fail;go_ret;exact⟨by rw[HE.out];rfl,HB.out⟩
      by_cases hne:e.to=e.coll
      · have g1:(e.to.toList == e.coll.toList)=true:=by rw[bB];exact decide_eq_true hne
        have g3:e.to.toList=e.coll.toList:=by rw[hne]
        have HNE:=hid hne;clear hne;have HE:Hid (r=false):=hid (by rw[HR.out];simp[HNE.out]);go_wp2_with fail;go_ret;exact⟨by rw[HE.out];rfl,HB.out⟩
      have g1:(e.to.toList == e.coll.toList)=false:=by rw[bB];exact decide_eq_false hne
      have HQ2:Hid ((true || decide (e.to.size=0))=true∧(!true || (bn e.to && decide (e.to≠e.coll)))=true):=hid ⟨rfl,by rw[hn,decide_eq_true hne];rfl⟩
      clear hn hne)
    |(have _g:ay false:=HF2
      by_cases hc:e.to.size=0;rotate_left
      · have e1:e.to.toList.isEmpty=false:=by rw[←Bool.not_eq_true,bR];exact hc
        have f1: ¬e.to.toList= []:=fun h=>hc (bj.1 h);have HE:Hid (r=false):=hid (by rw[HR.out];simp[hc]);go_wp2_with fail;go_ret;exact⟨by rw[HE.out];rfl,HB.out⟩
      have e2:e.to.toList= []:=bj.2 hc;have HQ2:Hid ((false || decide (e.to.size=0))=true∧(!false || (bn e.to && decide (e.to≠e.coll)))=true):=hid ⟨by rw[decide_eq_true hc];rfl,rfl⟩
      clear hc)
  all_goals first
    |(have _g:ay true:=HF3
      go_wp2_with fail;refine(il S e.id _ _ HD.out.idd (fun b hb=>Nat.lt_of_lt_of_le (HS.out b hb) HB.out.size) (HA.out.below HS.out HB.out).id).mono ?_;rintro q wn ⟨rfl,hb⟩;clear y1 y2 y3 y4 y5 y6 y7 y8 y9 y10 y11 y12 y13 y14 y15 y16;have HB:=hid (HB.out.trans (hb.mono HB.out.size));have HK:=hid (HK.out.below hb);clear hb;obtain⟨y1,y2,y3,y4,y5,y6,y7,y8,y9,y10,y11,y12,y13,y14,y15,y16⟩:=HK.out.all;obtain⟨x,hx⟩: ∃x,x=aX e.id:=⟨_,rfl⟩;have HX:=hid hx;rw[←hx]at HR ⊢;clear hx;by_cases hx0:x=0;rotate_left
      · have g1:(x == 0)=false:=beq_false_of_ne hx0
        have g2:(x != 0)=true:=by simp[hx0]
        have HE:Hid (r=false):=hid (by rw[HR.out];simp[hx0]);go_wp2_with fail;go_ret;exact⟨by rw[HE.out];rfl,HB.out⟩
      subst hx0
      have HQ3:Hid ((true || bm e.id)=true∧(!true || decide ((0:Int)=0))=true):=hid ⟨rfl,rfl⟩)
    |(have _g:ay false:=HF3
      go_wp2_with fail;refine(lr S e.id _ _ (fun b hb=>Nat.lt_of_lt_of_le (HS.out b hb) HB.out.size) (HA.out.below HS.out HB.out).id).mono ?_;rintro q wn ⟨rfl,hb⟩;clear y1 y2 y3 y4 y5 y6 y7 y8 y9 y10 y11 y12 y13 y14 y15 y16;have HB:=hid (HB.out.trans (hb.mono HB.out.size));have HK:=hid (HK.out.below hb);clear hb;obtain⟨y1,y2,y3,y4,y5,y6,y7,y8,y9,y10,y11,y12,y13,y14,y15,y16⟩:=HK.out.all;cases hn:bm e.id
      · have HE:Hid (r=false):=hid (by rw[HR.out];simp[hn])
        go_wp2_with fail;go_ret;exact⟨by rw[HE.out];rfl,HB.out⟩
      have HQ3:Hid ((false || bm e.id)=true∧(!false || decide (aX e.id=0))=true):=hid ⟨by rw[hn];rfl,rfl⟩
      clear hn)
  all_goals first
    |(have _g:ay true:=HF4
      go_wp2_with fail;refine(qn S e.doc e.id _ _ _ (fun b hb=>Nat.lt_of_lt_of_le (HS.out b hb) HB.out.size) (HA.out.below HS.out HB.out).doc (HA.out.below HS.out HB.out).id HD.out.docd (ek HX.out.symm)).mono ?_;rintro q wn ⟨rfl,hb⟩;clear y1 y2 y3 y4 y5 y6 y7 y8 y9 y10 y11 y12 y13 y14 y15 y16;have HB:=hid (HB.out.trans (hb.mono HB.out.size));have HK:=hid (HK.out.below hb);clear hb;obtain⟨y1,y2,y3,y4,y5,y6,y7,y8,y9,y10,y11,y12,y13,y14,y15,y16⟩:=HK.out.all;cases hn:cH e.doc e.id
      · have HE:Hid (r=false):=hid (by rw[HR.out];simp[hn])
        go_wp2_with fail;go_ret;exact⟨by rw[HE.out];rfl,HB.out⟩
      have HQ4:Hid ((true || bm e.doc)=true∧(!true || cH e.doc e.id)=true):=hid ⟨rfl,by rw[hn];rfl⟩
      clear hn)
    |(have _g:ay false:=HF4
      go_wp2_with fail;refine(lr S e.doc _ _ (fun b hb=>Nat.lt_of_lt_of_le (HS.out b hb) HB.out.size) (HA.out.below HS.out HB.out).doc).mono ?_;rintro q wn ⟨rfl,hb⟩;clear y1 y2 y3 y4 y5 y6 y7 y8 y9 y10 y11 y12 y13 y14 y15 y16;have HB:=hid (HB.out.trans (hb.mono HB.out.size));have HK:=hid (HK.out.below hb);clear hb;obtain⟨y1,y2,y3,y4,y5,y6,y7,y8,y9,y10,y11,y12,y13,y14,y15,y16⟩:=HK.out.all;cases hn:bm e.doc
      · have HE:Hid (r=false):=hid (by rw[HR.out];simp[hn])
        go_wp2_with fail;go_ret;exact⟨by rw[HE.out];rfl,HB.out⟩
      have HQ4:Hid ((false || bm e.doc)=true∧(!false || cH e.doc e.id)=true):=hid ⟨by rw[hn];rfl,rfl⟩
      clear hn)
  all_goals first
    |(have _g:ay true:=HF5
      go_wp2_with fail;refine(lF S LA lc e.dels _ (fun b hb=>Nat.lt_of_lt_of_le (HS.out b hb) HB.out.size) (HA.out.below HS.out HB.out).dels HA.out.len HD.out.dels).mono ?_;rintro q wn ⟨rfl,hb⟩;clear y1 y2 y3 y4 y5 y6 y7 y8 y9 y10 y11 y12 y13 y14 y15 y16;have HB:=hid (HB.out.trans (hb.mono HB.out.size));have HK:=hid (HK.out.below hb);clear hb;obtain⟨y1,y2,y3,y4,y5,y6,y7,y8,y9,y10,y11,y12,y13,y14,y15,y16⟩:=HK.out.all;cases hn:dx e.dels
      · have HE:Hid (r=false):=hid (by rw[HR.out];simp[hn])
        go_wp2_with fail;go_ret;exact⟨by rw[HE.out];rfl,HB.out⟩
      have HQ5:Hid ((true || decide (e.dels.length=0))=true∧(!true || dx e.dels)=true):=hid ⟨rfl,by rw[hn];rfl⟩
      clear hn)
    |(have _g:ay false:=HF5
      by_cases hc5:e.dels.length=0;rotate_left
      · have g5:decide ((e.dels.length:Int)>0)=true:=decide_eq_true (oY hc5)
        have g6:(0:Int)<(e.dels.length:Int):=oY hc5;have g7: ¬e.dels= []:=fun h=>hc5 (by rw[h];rfl);have HE:Hid (r=false):=hid (by rw[HR.out];simp[g7]);go_wp2_with fail;go_ret;exact⟨by rw[HE.out];rfl,HB.out⟩
      have g6:e.dels= []:=List.eq_nil_of_length_eq_zero hc5;have HQ5:Hid ((false || decide (e.dels.length=0))=true∧(!false || dx e.dels)=true):=hid ⟨by rw[decide_eq_true hc5];rfl,rfl⟩
      clear hc5)
  all_goals first
    |(have _g:ay true:=HF1
      have hk1:e.kind≠1:=by have:=HKD.out;simpa using this
      have HE:Hid (r=true):=hid (by rw[HR.out,if_neg hk1];simp only[HQ1.out.1,HQ2.out.1,HQ3.out.1,HQ4.out.1,HQ5.out.1,HQ1.out.2,HQ2.out.2,HQ3.out.2,HQ4.out.2,HQ5.out.2,Bool.and_true,Bool.true_and,Bool.and_self]);have g8:(e.kind == 1)=false:=beq_false_of_ne hk1;have g9: ¬e.kind=1:=hk1;clear hk1;go_wp2_with fail;go_ret
      exact⟨by rw[HE.out];rfl,HB.out⟩)
    |(have _g:ay false:=HF1
      have hk1:e.kind=1:=by have:=HKD.out;simp only[Bool.false_eq_true,if_false]at this;exact this HNB.out.1 HNB.out.2
      have HE:Hid (r=(decide (e.session=0) && decide (e.number=0))):=hid (by rw[HR.out,if_pos hk1];simp only[HQ1.out.1,HQ2.out.1,HQ3.out.1,HQ4.out.1,HQ5.out.1,HQ1.out.2,HQ2.out.2,HQ3.out.2,HQ4.out.2,HQ5.out.2,Bool.and_true,Bool.true_and,Bool.and_self]);obtain⟨kk,hkk⟩: ∃k,k=e.kind:=⟨_,rfl⟩;rw[←hkk]at y1 hk1;subst hk1;obtain⟨ss,hss⟩: ∃k,k=e.session:=⟨_,rfl⟩;obtain⟨nn,hnn⟩: ∃k,k=e.number:=⟨_,rfl⟩;rw[←hss]at y15;rw[←hnn]at y16;rw[←hss,←hnn]at HE;clear hkk hss hnn;by_cases h1:ss=0;rotate_left
      · have g1:(ss == 0)=false:=beq_false_of_ne h1
        have HE2:Hid (r=false):=hid (by rw[HE.out,decide_eq_false h1];rfl);go_wp2_with fail;go_ret;exact⟨by rw[HE2.out];rfl,HB.out⟩
      subst h1;by_cases h2:nn=0;rotate_left
      · have g1:(nn == 0)=false:=beq_false_of_ne h2
        have HE2:Hid (r=false):=hid (by rw[HE.out,decide_eq_false h2];rfl);go_wp2_with fail;go_ret;exact⟨by rw[HE2.out];rfl,HB.out⟩
      subst h2;go_wp2_with fail;go_ret
      exact⟨by rw[HE.out];rfl,HB.out⟩)
theorem kn (S:Nat→Prop)(e:aU)(cs:Array Value)(w:World)(hS: ∀b,S b→b<w.heap.size)(h:cZ w S e cs)(hd:SmE e):
    Calls Tryz.prog 25 #[.agg cs] w fun r w'=>r= .returned (.bool (bJ e))∧Below w.heap.size w w':=by
  obtain⟨IA,ic,IA',ic',DA,dc,DA',dc',LA,lc,rfl,hat⟩:=h.at;rw[kB];refine pg (aP e.kind) (bW e.kind) (bY e.kind) (bt e.kind) (aW e.kind) (eO e.kind) S e IA ic IA' ic' DA dc DA' dc' LA lc w hS hat hd (qK e.kind) ?_;by_cases hc:2≤e.kind∧e.kind≤7
  · have h1:aP e.kind=true:=by unfold aP;rw[decide_eq_true hc.1,decide_eq_true hc.2];rfl
    rw[if_pos h1];omega
  · have h1: ¬aP e.kind=true:=by unfold aP;simp only[Bool.and_eq_true,decide_eq_true_eq];exact hc
    rw[if_neg h1];omega
def fi (e:aU):Bool:=cq e.id || cq e.doc || cY e.dels
theorem pi {w:World}{S:Nat→Prop}{A:Option Addr}{l:List aR}(h:bk w S A l)(hl:cY l=false):l.length≤64→eo l∧fu l:=fun h64=>by
 have h1: ∀d∈l,ao d.val≤41∧d.path.length≤50∧cq d.val=false:=fun d hd=>(iF hl).2 d (by rw[List.take_of_length_le (by omega)];exact hd);refine⟨fun d hd=>by have:=(h1 d hd).1;omega,fun d hd=> ?_⟩;obtain⟨i,hi,rfl⟩:=List.getElem_of_mem hd;obtain⟨b,off,-,-,hc⟩:=h (by omega);obtain⟨cs',-,hop⟩:=hc i hi;obtain⟨PA,pc,VA,vc,VA',vc',-,hlv,-⟩:=hop;exact gZ hlv (h1 _ hd).2.2
theorem r9 {w:World}{S:Nat→Prop}{e:aU}{cs:Array Value}(h:cZ w S e cs)(hl:fi e=false):SmE e∧e.dels.length≤100:=by
 obtain⟨IA,ic,IA',ic',DA,dc,DA',dc',LA,lc,rfl,hat⟩:=h.at;unfold fi at hl;simp only[Bool.or_eq_false_iff]at hl;obtain⟨⟨h1,h2⟩,h3⟩:=hl;exact⟨⟨by have:=fW h1;omega,by have:=fW h2;omega,gZ hat.id h1,gZ hat.doc h2,pi hat.dels h3⟩,(iF h3).1⟩
theorem nK (S:Nat→Prop)(e:aU)(cs:Array Value)(w:World)(hS: ∀b,S b→b<w.heap.size)(h:cZ w S e cs):
  Calls Tryz.prog 18 #[.agg cs] w fun r w'=>r= .returned (.bool (fi e))∧Below w.heap.size w w':=by
 obtain⟨IA,ic,IA',ic',DA,dc,DA',dc',LA,lc,rfl,hat⟩:=h.at;obtain⟨w1,hw1⟩: ∃W,W=w.alloc (.cells #[.int .i64 e.term,.int .i64 e.kind,.string e.coll,.string e.to,.int .i64 e.id.kind,.int .i64 e.id.num,.string e.id.text,.slice IA e.id.items.length ic,.slice IA' e.id.names.length ic',.int .i64 e.doc.kind,.int .i64 e.doc.num,.string e.doc.text,.slice DA e.doc.items.length dc,.slice DA' e.doc.names.length dc',.slice LA e.dels.length lc,.int .i64 e.session,.int .i64 e.number] 46):=⟨_,rfl⟩;have hbk:aS w1 w.heap.size e IA ic IA' ic' DA dc DA' dc' LA lc:=by rw[hw1];exact heap_alloc_new w _
 have hb1:Below w.heap.size w w1:=by rw[hw1];exact ae _
 obtain⟨r,hr⟩: ∃r,r=fi e:=⟨_,rfl⟩;have HR:Hid (r=(cq e.id || cq e.doc || cY e.dels)):=hid hr;rw[←hr];have HB1:=hid hb1;have HK1:=hid hbk;have HS:=hid hS;have HA:=hid hat;clear hr hb1 hbk hS h hat;have HN:=hid (i9 S e.id _ w1 (fun b hb=>Nat.lt_of_lt_of_le (HS.out b hb) HB1.out.size) (HA.out.below HS.out HB1.out).id);go_enter Tryz.func18,Tryz.ntmps18;go_wp2_with fail;rw[←hw1];clear hw1;refine HN.out.mono ?_;rintro q w2 ⟨rfl,hb⟩;have HB2:=hid (HB1.out.trans (hb.mono HB1.out.size));have HK2:=hid (HK1.out.below hb);clear hb HN;cases h1:cq e.id
 case true=>
  have HE:Hid (r=true):=hid (by rw[HR.out,h1];rfl);go_wp2_with fail;go_ret;exact⟨by rw[HE.out];rfl,HB2.out⟩
 rw[h1,Bool.false_or]at HR;clear h1;have HN:=hid (i9 S e.doc _ w2 (fun b hb=>Nat.lt_of_lt_of_le (HS.out b hb) HB2.out.size) (HA.out.below HS.out HB2.out).doc);have y9:=HK2.out.g9;have y10:=HK2.out.g10;have y11:=HK2.out.g11;have y12:=HK2.out.g12;have y13:=HK2.out.g13;go_wp2_with fail;refine HN.out.mono ?_;rintro q w3 ⟨rfl,hb⟩;clear y9 y10 y11 y12 y13;have HB3:=hid (HB2.out.trans (hb.mono HB2.out.size));have HK3:=hid (HK2.out.below hb);clear hb HN;cases h1:cq e.doc
 case true=>
  have HE:Hid (r=true):=hid (by rw[HR.out,h1];rfl);go_wp2_with fail;go_ret;exact⟨by rw[HE.out];rfl,HB3.out⟩
 rw[h1,Bool.false_or]at HR;clear h1;have HN:=hid (nZ S LA lc e.dels w3 (fun b hb=>Nat.lt_of_lt_of_le (HS.out b hb) HB3.out.size) (HA.out.below HS.out HB3.out).dels (by have:=HA.out.len;omega));have y14:=HK3.out.g14;go_wp2_with fail;refine HN.out.mono ?_;rintro q w4 ⟨rfl,hb⟩;have HB4:=hid (HB3.out.trans (hb.mono HB3.out.size));clear hb HN y14;go_wp2_with fail;go_ret;exact⟨by rw[HR.out];rfl,HB4.out⟩
theorem aU.same {a b:aU}(h0:a.term=b.term)(h1:a.kind=b.kind)(h2:a.coll=b.coll)(h3:a.to=b.to)(h4:a.id=b.id)(h5:a.doc=b.doc)(h6:a.dels=b.dels)(h7:a.session=b.session)(h8:a.number=b.number):a=b:=by
 cases a;cases b;simp only at *;subst h0 h1 h2 h3 h4 h5 h6 h7 h8;rfl
theorem cT {a b:aU}(h: ¬a=b):(false=true)↔a=b:=⟨fun h=>(by cases h),fun h'=>absurd h' h⟩
theorem oV (S:Nat→Prop)(a b:aU)(ca cb:Array Value)(w:World)(hS: ∀b,S b→b<w.heap.size)(ha:cZ w S a ca)(hb:cZ w S b cb):
  Calls Tryz.prog 26 #[.agg ca,.agg cb] w fun e w'=>(∃r:Bool,e= .returned (.bool r)∧(r=true↔a=b))∧Below w.heap.size w w':=by
 obtain⟨IA,ic,IA',ic',DA,dc,DA',dc',LA,lc,rfl,hat⟩:=ha.at;obtain⟨JA,jc,JA',jc',EA,ec,EA',ec',MA,mc,rfl,hbt⟩:=hb.at;obtain⟨w2,hw2⟩: ∃W,W=(w.alloc (.cells #[.int .i64 a.term,.int .i64 a.kind,.string a.coll,.string a.to,.int .i64 a.id.kind,.int .i64 a.id.num,.string a.id.text,.slice IA a.id.items.length ic,.slice IA' a.id.names.length ic',.int .i64 a.doc.kind,.int .i64 a.doc.num,.string a.doc.text,.slice DA a.doc.items.length dc,.slice DA' a.doc.names.length dc',.slice LA a.dels.length lc,.int .i64 a.session,.int .i64 a.number] 46)).alloc (.cells #[.int .i64 b.term,.int .i64 b.kind,.string b.coll,.string b.to,.int .i64 b.id.kind,.int .i64 b.id.num,.string b.id.text,.slice JA b.id.items.length jc,.slice JA' b.id.names.length jc',.int .i64 b.doc.kind,.int .i64 b.doc.num,.string b.doc.text,.slice EA b.doc.items.length ec,.slice EA' b.doc.names.length ec',.slice MA b.dels.length mc,.int .i64 b.session,.int .i64 b.number] 46):=⟨_,rfl⟩;have hz1:(w.alloc (.cells #[.int .i64 a.term,.int .i64 a.kind,.string a.coll,.string a.to,.int .i64 a.id.kind,.int .i64 a.id.num,.string a.id.text,.slice IA a.id.items.length ic,.slice IA' a.id.names.length ic',.int .i64 a.doc.kind,.int .i64 a.doc.num,.string a.doc.text,.slice DA a.doc.items.length dc,.slice DA' a.doc.names.length dc',.slice LA a.dels.length lc,.int .i64 a.session,.int .i64 a.number] 46)).heap.size=w.heap.size+1:=by simp
 have hbb:w2.heap[w.heap.size+1]? =some (.cells #[.int .i64 b.term,.int .i64 b.kind,.string b.coll,.string b.to,.int .i64 b.id.kind,.int .i64 b.id.num,.string b.id.text,.slice JA b.id.items.length jc,.slice JA' b.id.names.length jc',.int .i64 b.doc.kind,.int .i64 b.doc.num,.string b.doc.text,.slice EA b.doc.items.length ec,.slice EA' b.doc.names.length ec',.slice MA b.dels.length mc,.int .i64 b.session,.int .i64 b.number] 46 (0,0)):=by rw[hw2,←hz1];exact heap_alloc_new _ _
 have hba:w2.heap[w.heap.size]? =some (.cells #[.int .i64 a.term,.int .i64 a.kind,.string a.coll,.string a.to,.int .i64 a.id.kind,.int .i64 a.id.num,.string a.id.text,.slice IA a.id.items.length ic,.slice IA' a.id.names.length ic',.int .i64 a.doc.kind,.int .i64 a.doc.num,.string a.doc.text,.slice DA a.doc.items.length dc,.slice DA' a.doc.names.length dc',.slice LA a.dels.length lc,.int .i64 a.session,.int .i64 a.number] 46 (0,0)):=by rw[hw2,Below.heap_alloc _ _ _ (by omega)];exact heap_alloc_new _ _
 have h02:Below w.heap.size w w2:=by rw[hw2];exact(ae _).alloc (by omega) _
 have HB2:=hid h02;have HKA2:Hid (aS w2 w.heap.size a IA ic IA' ic' DA dc DA' dc' LA lc):=hid hba;have HKB2:Hid (aS w2 (w.heap.size+1) b JA jc JA' jc' EA ec EA' ec' MA mc):=hid hbb;have HS:=hid hS;have HA:=hid hat;have HBB:=hid hbt;clear ha hb hat hbt hS h02 hba hbb hz1;go_enter Tryz.func26,Tryz.ntmps26;by_cases qterm:a.term=b.term
 case neg=>
  have g1:(a.term == b.term)=false:=beq_false_of_ne qterm;go_wp2_with fail;rw[←hw2];go_ret;exact⟨⟨false,rfl,cT fun h=>qterm (by rw[h])⟩,HB2.out⟩
 have Qterm:=hid qterm;have dterm:(a.term == b.term)=true:=beq_iff_eq.2 qterm;clear qterm;by_cases qkind:a.kind=b.kind
 case neg=>
  have g1:(a.kind == b.kind)=false:=beq_false_of_ne qkind;go_wp2_with fail;rw[←hw2];go_ret;exact⟨⟨false,rfl,cT fun h=>qkind (by rw[h])⟩,HB2.out⟩
 have Qkind:=hid qkind;have dkind:(a.kind == b.kind)=true:=beq_iff_eq.2 qkind;clear qkind;by_cases qcoll:a.coll=b.coll
 case neg=>
  have g1:(a.coll.toList == b.coll.toList)=false:=by rw[bB];exact decide_eq_false qcoll
  go_wp2_with fail;rw[←hw2];go_ret;exact⟨⟨false,rfl,cT fun h=>qcoll (by rw[h])⟩,HB2.out⟩
 have Qcoll:=hid qcoll;have dcoll:(a.coll.toList == b.coll.toList)=true:=by rw[bB];exact decide_eq_true qcoll
 clear qcoll;by_cases qto:a.to=b.to
 case neg=>
  have g1:(a.to.toList == b.to.toList)=false:=by rw[bB];exact decide_eq_false qto
  go_wp2_with fail;rw[←hw2];go_ret;exact⟨⟨false,rfl,cT fun h=>qto (by rw[h])⟩,HB2.out⟩
 have Qto:=hid qto;have dto:(a.to.toList == b.to.toList)=true:=by rw[bB];exact decide_eq_true qto
 clear qto;have HN:=hid (ei S (ao a.id) a.id b.id _ _ w2 (Nat.le_refl _) (fun b hb=>Nat.lt_of_lt_of_le (HS.out b hb) HB2.out.size) (HA.out.below HS.out HB2.out).id (HBB.out.below HS.out HB2.out).id);go_wp2_with fail;rw[←hw2];clear hw2;refine HN.out.mono ?_;rintro q w3 ⟨⟨r,rfl,hr⟩,hb⟩;have HB3:=hid (HB2.out.trans (hb.mono HB2.out.size));have HKA3:=hid (HKA2.out.below hb);have HKB3:=hid (HKB2.out.below hb);clear hb HN;clear dterm dkind dcoll dto;have HQ:=hid hr;clear hr;cases r
 case false=>
  have HNE:Hid (¬a.id=b.id):=hid fun h=>by have:=HQ.out.2 h;cases this
  go_wp2_with fail;go_ret;exact⟨⟨false,rfl,cT fun h=>HNE.out (by rw[h])⟩,HB3.out⟩
 have Qid:Hid (a.id=b.id):=hid (HQ.out.1 rfl);clear HQ;have y9:=HKA3.out.g9;have z9:=HKB3.out.g9;have y10:=HKA3.out.g10;have z10:=HKB3.out.g10;have y11:=HKA3.out.g11;have z11:=HKB3.out.g11;have y12:=HKA3.out.g12;have z12:=HKB3.out.g12;have y13:=HKA3.out.g13;have z13:=HKB3.out.g13;have HN:=hid (ei S (ao a.doc) a.doc b.doc _ _ w3 (Nat.le_refl _) (fun b hb=>Nat.lt_of_lt_of_le (HS.out b hb) HB3.out.size) (HA.out.below HS.out HB3.out).doc (HBB.out.below HS.out HB3.out).doc);go_wp2_with fail;refine HN.out.mono ?_;rintro q w4 ⟨⟨r,rfl,hr⟩,hb⟩;have HB4:=hid (HB3.out.trans (hb.mono HB3.out.size));have HKA4:=hid (HKA3.out.below hb);have HKB4:=hid (HKB3.out.below hb);clear hb HN;clear y9 z9 y10 z10 y11 z11 y12 z12 y13 z13;have HQ:=hid hr;clear hr;cases r
 case false=>
  have HNE:Hid (¬a.doc=b.doc):=hid fun h=>by have:=HQ.out.2 h;cases this
  go_wp2_with fail;go_ret;exact⟨⟨false,rfl,cT fun h=>HNE.out (by rw[h])⟩,HB4.out⟩
 have Qdoc:Hid (a.doc=b.doc):=hid (HQ.out.1 rfl);clear HQ;have y14:=HKA4.out.g14;have z14:=HKB4.out.g14;have HN:=hid (pO S LA lc a.dels MA mc b.dels w4 (fun b hb=>Nat.lt_of_lt_of_le (HS.out b hb) HB4.out.size) (HA.out.below HS.out HB4.out).dels (HBB.out.below HS.out HB4.out).dels (by have:=HA.out.len;omega) (by have:=HBB.out.len;omega));go_wp2_with fail;refine HN.out.mono ?_;rintro q w5 ⟨⟨r,rfl,hr⟩,hb⟩;have HB5:=hid (HB4.out.trans (hb.mono HB4.out.size));have HKA5:=hid (HKA4.out.below hb);have HKB5:=hid (HKB4.out.below hb);clear hb HN;clear y14 z14;have HQ:=hid hr;clear hr;cases r
 case false=>
  have HNE:Hid (¬a.dels=b.dels):=hid fun h=>by have:=HQ.out.2 h;cases this
  go_wp2_with fail;go_ret;exact⟨⟨false,rfl,cT fun h=>HNE.out (by rw[h])⟩,HB5.out⟩
 have Qdels:Hid (a.dels=b.dels):=hid (HQ.out.1 rfl);clear HQ;have y15:=HKA5.out.g15;have z15:=HKB5.out.g15;have y16:=HKA5.out.g16;have z16:=HKB5.out.g16;by_cases qsession:a.session=b.session
 case neg=>
  have g1:(a.session == b.session)=false:=beq_false_of_ne qsession;go_wp2_with fail;go_ret;exact⟨⟨false,rfl,cT fun h=>qsession (by rw[h])⟩,HB5.out⟩
 have Qsession:=hid qsession;have dsession:(a.session == b.session)=true:=beq_iff_eq.2 qsession;clear qsession;by_cases qnumber:a.number=b.number
 case neg=>
  have g1:(a.number == b.number)=false:=beq_false_of_ne qnumber;go_wp2_with fail;go_ret;exact⟨⟨false,rfl,cT fun h=>qnumber (by rw[h])⟩,HB5.out⟩
 have dn:(a.number == b.number)=true:=beq_iff_eq.2 qnumber;have Qn:=hid qnumber;clear qnumber;go_wp2_with fail;go_ret;exact⟨⟨true,rfl,fun _=>aU.same Qterm.out Qkind.out Qcoll.out Qto.out Qid.out Qdoc.out Qdels.out Qsession.out Qn.out,fun _=>rfl⟩,HB5.out⟩
theorem mv (b off i:Nat):((⟨b,off,none⟩:Addr).add i)=⟨b,off+i,none⟩:=by
 unfold Addr.add
 split
 ·next h=>simp[h]
 ·rfl
theorem aq.rdY {w:World}{B:Nat}{v:Value}{l:List UInt8}(h:aq w B v l):Rd w w.heap.size v l:=by
 have hc:=fun g hg=>World.ownsRow.cells (g:=g) h hg;have hlt:=World.ownsRow.lt h;rcases h.2 with ⟨rfl,h0⟩|⟨g,cap,cur,rfl,hB,hh,hcap,hm,-⟩
 ·have hl:l= []:=List.eq_nil_of_length_eq_zero h0;subst hl;exact⟨none,0,rfl,Nat.le_refl _,⟨by omega,fun _=>rfl⟩,fun h=>absurd h (by simp)⟩
 ·refine⟨some ⟨g,0,none⟩,cap,rfl,hcap,⟨by unfold maxLen at hm;omega,fun h=>by cases h⟩,fun hp=>⟨g,0,rfl,(hlt g rfl).2,fun i hi=> ?_⟩⟩;have h1:=hc g rfl i (.int .u8 (l[i].toNat:Int)) (by simp[aC,hi]);rw[mv]at h1;exact h1
theorem lG {w:World}{ops:Array Oper}{rest:List Oper}{o:Oper}{a:Act}{Q:Exit→Act→World→Prop}(hgd:o.guard=none)(s x:Operand)
  (ho:o.op= .call { callee:= .builtin .append,args:= #[s,x],argTypes:= #[23,23] }) (B:Nat) (v:Value) (l:List UInt8) (hs:a.eval s=v) (hown:aq w B v l)
  (D:Nat) (vx:Value) (m:List UInt8) (hx:a.eval x=vx) (hrd:Rd w D vx m) (hB:B≤w.heap.size) (hl:l.length+m.length≤140737488355328)
  (K: ∀v' w',aq w' B v' (l++m)→w.grownBy w' v.ownBlock→wpList Tryz.prog ops Q rest (a.put o.dst v') w'):wpList Tryz.prog ops Q (o::rest) a w:=by
 obtain⟨i0,hi,hz0,hz1,hz2⟩:=info_parts Tryz.infoU8;obtain⟨A,cap,rfl,hcap,⟨hc2,hA⟩,hc⟩:=hrd
 cases A with
 |none=>
  have hm:m= []:=by
   match m,hc with
   | [],_=>rfl
   |b::r,hc=>obtain⟨_,_,h,_⟩:=hc (by simp);cases h
  subst hm;obtain rfl:=hA rfl;refine wpList_append_own_none hgd s x 23 ho B 5 i0 1 Tryz.underlying23 hi v l.length (aC l) hs hown hx ?_
  exact K v w (by rw[List.append_nil];exact hown) ⟨rfl,rfl,rfl,Nat.le_refl _,fun _ _ _=>rfl⟩
 |some ad=>
  refine wpList_append_own _ hgd s x 23 ho B 5 i0 (.int .u8 0) 1 1 Tryz.underlying23 hi hz0 hz1 hz2 rfl (by decide) v l.length (aC l) hs hown ad m.length cap (aC m) hx (by simp[aC]) ?_ (ey m) (by unfold maxLen;omega) (by omega) hB ?_
  ·intro j u hj;have hjl:j<m.length:=by have:=(List.getElem?_eq_some_iff.1 hj).1;simpa[aC]using this
   obtain⟨b,off,hAd,-,hcell⟩:=hc (by omega);injection hAd with hAd
   subst hAd;rw[mv,hcell j hjl];simpa[aC,List.getElem?_map,List.getElem?_eq_getElem hjl]using hj
  ·intro v' w' h1 h2 _;exact K v' w' (by unfold aq;rw[List.length_append,df];exact h1) h2
theorem pL {a w w':World}{B:Nat}{v:Value}{l:List UInt8}(hb:Below B a w)(h:aq w B v l)(hB:B≤w.heap.size)(hg:w.grownBy w' v.ownBlock):Below B a w':=hb.grown hg hB (fun k hk=>(World.ownsRow.lt h k hk).1)
theorem Rd.strY {w:World}{B:Nat}{v:Value}{l:List UInt8}(h:Rd w B v l):(convert 23 9 v).run Tryz.prog w= .ok (.string ⟨l.toArray⟩) w:=by
 obtain⟨A,cap,hv,-⟩:=id h;rw[hv]at h ⊢;have:=h.conv (Nat.le_refl _) cap;rw[List.take_length]at this;exact this
structure aQ where
 kind:Int
 frm:Int
 tgt:Int
 term:Int
 index:Int
 logTerm:Int
 commit:Int
 round:Int
 ok:Bool
 ents:List aU
 snap:List UInt8
def aM (k:Int):Int:=if k=1 then 3 else if k=2 then 16 else if k=3 then 47 else if k=4 then 25 else if k=5 then 67 else 0
def eq (k:Int):Bool:=decide (1≤k) && decide (k≤5)
def bf (k:Int):Bool:=decide (k=1) || decide (k=3) || decide (k=4) || decide (k=5)
def dq (k:Int):Bool:=decide (k=1) || decide (k=3) || decide (k=5)
def aV (k:Int):Bool:=decide (k=3)
def bs (k:Int):Bool:=decide (k=3) || decide (k=4)
def hOk (k:Int):Bool:=decide (k=2) || decide (k=4)
def bi (k:Int):Bool:=decide (k=3)
def bw (k:Int):Bool:=decide (k=5)
def gb (n:Int):Bool:=decide (0≤n) && decide (n<7)
def cC (x:Int)(is:Bool):Bool:=decide (0≤x) && decide (x≤if is then 1099511627776 else 0)
def fY (m:aQ):Bool:=gb m.frm && gb m.tgt && decide (m.frm≠m.tgt)
def cI (m:aQ):Bool:=cC m.index (bf m.kind) && cC m.logTerm (dq m.kind) && cC m.commit (aV m.kind) && cC m.round (bs m.kind)
def gQ (m:aQ):Bool:=(hOk m.kind || !m.ok) && decide (m.ents.length≤if bi m.kind then 8 else 0) && decide (m.snap.length≤if bw m.kind then 65536 else 0) && (!bw m.kind || decide (0<m.snap.length)) && m.ents.all bJ
def bK (m:aQ):Bool:=eq m.kind && fY m && decide (1≤m.term) && decide (m.term≤1099511627776) && cI m && gQ m
theorem eZ (k:Int):k=1∨k=2∨k=3∨k=4∨k=5∨(eq k=false∧ ¬k=1∧ ¬k=2∧ ¬k=3∧ ¬k=4∧ ¬k=5):=by
 by_cases h:1≤k∧k≤5
 ·omega
 ·refine .inr (.inr (.inr (.inr (.inr ⟨?_,by omega,by omega,by omega,by omega,by omega⟩))));unfold eq;by_cases h1:1≤k
  ·rw[decide_eq_false (p:=k≤5) (by omega)];simp
  ·rw[decide_eq_false h1];rfl
def cd (w:World)(S:Nat→Prop)(A:Option Addr)(l:List UInt8):Prop:=0<l.length→ ∃b off,A=some ⟨b,off,none⟩∧S b∧ ∀i (h:i<l.length),w.cell? ⟨b,off+i,none⟩=some (.int .u8 l[i].toNat)
theorem cd.keep {w w':World}{S:Nat→Prop}{A:Option Addr}{l:List UInt8}(h:cd w S A l)(hk: ∀b,S b→w'.heap[b]? =w.heap[b]?):cd w' S A l:=fun hp=>by
 obtain⟨b,off,hA,hb,hc⟩:=h hp;exact⟨b,off,hA,hb,fun i hi=>(World.cell?_of_block (a:=⟨b,off+i,none⟩) (hk b hb)).trans (hc i hi)⟩
theorem cd.imp {w:World}{S S':Nat→Prop}{A:Option Addr}{l:List UInt8}(h:cd w S A l)(hS: ∀b,S b→S' b):cd w S' A l:=fun hp=>by
 obtain⟨b,off,hA,hb,hc⟩:=h hp;exact⟨b,off,hA,hS b hb,hc⟩
theorem cd.rd {w:World}{S:Nat→Prop}{A:Option Addr}{l:List UInt8}{c B:Nat}(h:cd w S A l)(hS: ∀b,S b→b<B)(hc:l.length≤c)(h63:c≤9223372036854775807)(hn:A=none→c=0):Rd w B (.slice A l.length c) l:=
 ⟨A,c,rfl,hc,⟨h63,hn⟩,fun hp=>by
  obtain⟨b,off,hA,hb,hx⟩:=h hp
  exact⟨b,off,hA,hS b hb,fun i hi=>hx i hi⟩⟩
theorem wy {w:World}{B:Nat}{v:Value}{l:List UInt8}(h:aq w B v l): ∃A c,v= .slice A l.length c∧l.length≤c∧c≤9223372036854775807∧(A=none→c=0)∧cd w (fun b=>b<w.heap.size∧B≤b) A l:=by
 have hr:=h.rdY;have hlt:=World.ownsRow.lt h;obtain⟨A,c,rfl,h1,⟨h2,h3⟩,h4⟩:=hr;refine⟨A,c,rfl,h1,h2,h3,fun hp=> ?_⟩;obtain⟨b,off,rfl,hb,hx⟩:=h4 hp;rcases h.2 with ⟨e,-⟩|⟨g,cap,cur,e,hB,-⟩
 ·cases e
 ·injection e with e1 e2 e3
  injection e1 with e1
  injection e1 with e1 e4
  subst e1;exact⟨b,off,rfl,⟨hb,hB⟩,hx⟩
structure aT (w:World)(S:Nat→Prop)(m:aQ)(EA:Option Addr)(ec:Nat)(SA:Option Addr)(sc:Nat):Prop where
 ents:cp w S EA m.ents
 ecap:m.ents.length≤ec
 enil:EA=none→ec=0
 elen:m.ents.length≤567493904640
 snap:cd w S SA m.snap
 scap:m.snap.length≤sc
 snil:SA=none→sc=0
 s63:sc≤9223372036854775807
 slen:m.snap.length≤140737488351232
 rk:Rng m.kind
 rf:Rng m.frm
 rg:Rng m.tgt
 rt:Rng m.term
 ri:Rng m.index
 rl:Rng m.logTerm
 rc:Rng m.commit
 rr:Rng m.round
section
variable {w w':World} {S S':Nat→Prop} {m:aQ} {EA:Option Addr} {ec:Nat} {SA:Option Addr} {sc:Nat} {g:Nat}
theorem aT.keep (h:aT w S m EA ec SA sc)(hk: ∀b,S b→w'.heap[b]? =w.heap[b]?):aT w' S m EA ec SA sc:= { h with ents:=cJ.keep cU h.ents hk,snap:=h.snap.keep hk }
theorem aT.imp (h:aT w S m EA ec SA sc)(hS: ∀b,S b→S' b):aT w S' m EA ec SA sc:= { h with ents:=cJ.imp cU h.ents hS,snap:=h.snap.imp hS }
theorem aT.below {B:Nat}(h:aT w S m EA ec SA sc)(hS: ∀b,S b→b<B)(hb:Below B w w'):aT w' S m EA ec SA sc:=h.keep fun b hb'=>hb.block b (hS b hb')
theorem aT.up (h:aT w (fun b=>b<w.heap.size) m EA ec SA sc)(hb:Below w.heap.size w w'):aT w' (fun b=>b<w'.heap.size) m EA ec SA sc:=(h.below (fun _ h=>h) hb).imp fun _ h=>Nat.lt_of_lt_of_le h hb.size
def bx (w:World)(g:Nat)(m:aQ)(EA:Option Addr)(ec:Nat)(SA:Option Addr)(sc:Nat):Prop:=w.heap[g]? =some (.cells #[.int .i64 m.kind,.int .i64 m.frm,.int .i64 m.tgt,.int .i64 m.term,.int .i64 m.index,.int .i64 m.logTerm,.int .i64 m.commit,.int .i64 m.round,.bool m.ok,.slice EA m.ents.length ec,.slice SA m.snap.length sc] 25 (0,0))
theorem bx.lt (h:bx w g m EA ec SA sc):g<w.heap.size:=(Array.getElem?_eq_some_iff.1 h).1
theorem bx.below (h:bx w g m EA ec SA sc)(hb:Below w.heap.size w w'):bx w' g m EA ec SA sc:=(hb.block g h.lt).trans h
theorem bx.g0 (h:bx w g m EA ec SA sc):w.cell? ⟨g,0,none⟩=some (.int .i64 m.kind):=Go.Joins.cell_of_block h 0
theorem bx.g1 (h:bx w g m EA ec SA sc):w.cell? ⟨g,1,none⟩=some (.int .i64 m.frm):=Go.Joins.cell_of_block h 1
theorem bx.g2 (h:bx w g m EA ec SA sc):w.cell? ⟨g,2,none⟩=some (.int .i64 m.tgt):=Go.Joins.cell_of_block h 2
theorem bx.g3 (h:bx w g m EA ec SA sc):w.cell? ⟨g,3,none⟩=some (.int .i64 m.term):=Go.Joins.cell_of_block h 3
theorem bx.g4 (h:bx w g m EA ec SA sc):w.cell? ⟨g,4,none⟩=some (.int .i64 m.index):=Go.Joins.cell_of_block h 4
theorem bx.g5 (h:bx w g m EA ec SA sc):w.cell? ⟨g,5,none⟩=some (.int .i64 m.logTerm):=Go.Joins.cell_of_block h 5
theorem bx.g6 (h:bx w g m EA ec SA sc):w.cell? ⟨g,6,none⟩=some (.int .i64 m.commit):=Go.Joins.cell_of_block h 6
theorem bx.g7 (h:bx w g m EA ec SA sc):w.cell? ⟨g,7,none⟩=some (.int .i64 m.round):=Go.Joins.cell_of_block h 7
theorem bx.g8 (h:bx w g m EA ec SA sc):w.cell? ⟨g,8,none⟩=some (.bool m.ok):=Go.Joins.cell_of_block h 8
theorem bx.g9 (h:bx w g m EA ec SA sc):w.cell? ⟨g,9,none⟩=some (.slice EA m.ents.length ec):=Go.Joins.cell_of_block h 9
theorem bx.g10 (h:bx w g m EA ec SA sc):w.cell? ⟨g,10,none⟩=some (.slice SA m.snap.length sc):=Go.Joins.cell_of_block h 10
end
theorem ap {ops:Array Oper}{rest:List Oper}{o:Oper}{a:Act}{w:World}{Q:Exit→Act→World→Prop}(hw:Region.wanted o (yielded ops a.tmps)=true)(x:Operand)(ho:o.op= .load 25 x)
  (g:Nat) (hx:a.eval x= .pointer (some ⟨g,0,none⟩)) (cs:Array Value) (fr:Nat×Nat) (hg:w.heap[g]? =some (.cells cs 25 fr)) (hn:cs.size=11)
  (h:wpList Tryz.prog ops Q rest (a.put o.dst (.agg cs)) w):wpList Tryz.prog ops Q (o::rest) a w:=
 wpList_step fun K hK=>by
  rw[hw,if_pos rfl];exact wp_load_row 25 x ho g hx 25 cs fr _ hg Tryz.underlying25 rfl (by rw[hn];kernel_rfl) (hK _ _ h)
theorem ch (l f:Int)(w:World):Calls Tryz.prog 47 #[.int .i64 l,.int .i64 f] w fun e w'=>e= .returned (.bool (bits .and .i64 l f != 0))∧w'=w:=by
 go_enter Tryz.func47,Tryz.ntmps47;go_wp2_with fail;go_ret;exact⟨rfl,rfl⟩
theorem eh (l f n:Int)(w:World):Calls Tryz.prog 46 #[.int .i64 l,.int .i64 f,.int .i64 n] w fun e w'=>e= .returned (.int .i64 (if(bits .and .i64 l f != 0)=true then n else 0))∧w'=w:=by
 go_enter Tryz.func46,Tryz.ntmps46;go_wp2_with fail;refine(ch l f w).mono ?_;rintro q u ⟨rfl,hw⟩;replace hw:=hw.symm;subst hw;cases hb:(bits .and .i64 l f != 0)
 ·go_wp2_with fail;go_ret;exact⟨rfl,rfl⟩
 ·go_wp2_with fail;go_ret;exact⟨rfl,rfl⟩
theorem jx (n:Int)(w:World):Calls Tryz.prog 44 #[.int .i64 n] w fun e w'=>e= .returned (.bool (gb n))∧w'=w:=by
 unfold gb;by_cases h0:0≤n
 ·by_cases h7:n<7
  ·have d1:decide (n≥0)=true:=decide_eq_true h0;have d2:decide (n<7)=true:=decide_eq_true h7;rw[decide_eq_true h0,decide_eq_true h7];go_enter Tryz.func44,Tryz.ntmps44;go_wp2_with fail;go_ret;exact⟨rfl,rfl⟩
  ·have d1:decide (n≥0)=true:=decide_eq_true h0;have d2:decide (n<7)=false:=decide_eq_false h7;rw[decide_eq_true h0,decide_eq_false h7];go_enter Tryz.func44,Tryz.ntmps44;go_wp2_with fail;go_ret;exact⟨rfl,rfl⟩
 ·have d1:decide (n≥0)=false:=decide_eq_false h0;rw[decide_eq_false h0];go_enter Tryz.func44,Tryz.ntmps44;go_wp2_with fail;go_ret;exact⟨rfl,rfl⟩
theorem eK (k:Int)(w:World):Calls Tryz.prog 19 #[.int .i64 k] w fun e w'=>e= .returned (.tuple #[.int .i64 (aM k),.bool (eq k)])∧w'=w:=by
 rcases eZ k with rfl|rfl|rfl|rfl|rfl|⟨hk,h1,h2,h3,h4,h5⟩
 iterate 5
  ·go_enter Tryz.func19,Tryz.ntmps19;go_wp2_with fail
   go_ret2
   exact⟨rfl,rfl⟩
 have hb:aM k=0:=by unfold aM;rw[if_neg h1,if_neg h2,if_neg h3,if_neg h4,if_neg h5]
 rw[hb,hk];have e1:(k == 1)=false:=beq_false_of_ne h1;have e2:(k == 2)=false:=beq_false_of_ne h2;have e3:(k == 3)=false:=beq_false_of_ne h3;have e4:(k == 4)=false:=beq_false_of_ne h4;have e5:(k == 5)=false:=beq_false_of_ne h5;clear h1 h2 h3 h4 h5 hb hk;go_enter Tryz.func19,Tryz.ntmps19;go_wp2_with fail
 go_ret2
 exact⟨rfl,rfl⟩
theorem kL {fn:Func}{p:Tmp}(h:fn.results= #[.cell p 46])(tmps:Array Value)(w:World)(g:Nat)(t:TypeId)(cs:Array Value)(fr:Nat×Nat)
  (hp:tmps.getD p undef= .pointer (some ⟨g,0,none⟩)) (hg:w.heap[g]? =some (.cells cs t fr)) (hn:cs.size=17):
  (results fn tmps).run Tryz.prog w= .ok (.agg cs) w:=
 results_cell_row h tmps w g t cs fr _ hp hg Tryz.underlying46 rfl (by rw[hn];kernel_rfl)
end Go.Proofs.YtgfidiocmiolpaaGreat
