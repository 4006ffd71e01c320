/- Whether an entry may be, by the document. (Written by mkenm.py.) -/
import Derived.Test.YtgfidiocmiolpaaGreatKEnJ
import Derived.Test.YtgfidiocmiolpaaGreatKValO
import Derived.Test.YtgfidiocmiolpaaGreatKCodG
import Derived.Test.YtgfidiocmiolpaaGreatKDlU
import Derived.Test.YtgfidiocmiolpaaGreatKRefZ
import Derived.Test.YtgfidiocmiolpaaGreatKCodM
import Derived.Test.YtgfidiocmiolpaaGreatKEnC
import Derived.Test.YtgfidiocmiolpaaGreatKRegR
import Derived.Laws.AppendOwnNone
import Derived.Lib.AppendZerosOnto
import Derived.Lib.AppendZeros
import Derived.Lib.SliceRun
import Derived.Laws.ResultCell
import Derived.Deep.MidRow
set_option maxHeartbeats 64000000
set_option maxRecDepth 100000
set_option linter.unusedVariables false
set_option linter.unusedSimpArgs false
namespace Go.Proofs.YtgfidiocmiolpaaGreat
open Lib (hid)
open Go.RowKit
theorem kp (s:ByteArray)(w:World)(hs:s.size≤140737488351232):Calls Tryz.prog 52 #[.string s] w fun e w'=>e= .returned (.bool (b9 s))∧Below w.heap.size w w':=
  (rv s w hs).mono fun _ _ h=>⟨h.1,by rw[h.2];exact Below.refl _ _⟩
theorem qZ {n:Nat}(h: ¬n=0):(0:Int)<(n:Int):=by omega
theorem p9 (b1 b2 b3 b4 b5:Bool)(hb:(b1=false∧b2=false∧b3=false∧b4=false∧b5=false)∨(b1=true∧b2=false∧b3=true∧b4=true∧b5=false)∨(b1=true∧b2=false∧b3=true∧b4=false∧b5=true)∨(b1=true∧b2=false∧b3=true∧b4=false∧b5=false)∨(b1=true∧b2=false∧b3=false∧b4=false∧b5=false)∨(b1=true∧b2=true∧b3=false∧b4=false∧b5=false))(S:Nat→Prop)(e:bA)(IA:Option Addr)(ic:Nat)(IA':Option Addr)(ic':Nat)(DA:Option Addr)(dc:Nat)(DA':Option Addr)(dc':Nat)(LA:Option Addr)(lc:Nat)(w:World)(hS: ∀b,S b→b<w.heap.size)(h:eX w S e IA ic IA' ic' DA dc DA' dc' LA lc)(hd:SmE e)
    (hh: ∀W,Calls Tryz.prog 51 #[.int .i64 e.kind] W fun r w'=>r= .returned (.tuple #[.bool b1,.bool b2,.bool b3,.bool b4,.bool b5])∧w'=W) (hkd:if b1=true then e.kind≠1 else(1≤e.kind→e.kind≤7→e.kind=1)):
    Calls Tryz.prog 25 #[.agg #[.int .i64 e.term,.int .i64 e.kind,.string e.coll,.string e.to,.int .i64 e.id.kind,.int .i64 e.id.num,.string e.id.text,.slice IA e.id.items.length ic,.slice IA' e.id.names.length ic',.int .i64 e.doc.kind,.int .i64 e.doc.num,.string e.doc.text,.slice DA e.doc.items.length dc,.slice DA' e.doc.names.length dc',.slice LA e.dels.length lc,.int .i64 e.session,.int .i64 e.number]] w fun r w'=>r= .returned (.bool (dH e.kind && iw e && ((b1 || decide (e.coll.size=0)) && (b2 || decide (e.to.size=0)) && (b3 || b8 e.id) && (b4 || b8 e.doc) && (b5 || decide (e.dels.length=0))) && ((!b1 || b9 e.coll) && (!b2 || (b9 e.to && decide (e.to≠e.coll))) && (!b3 || decide (bh e.id=0)) && (!b4 || dU e.doc e.id) && (!b5 || fi e.dels))))∧Below w.heap.size w w':=by
  obtain⟨w1,hw1⟩: ∃W,W=w.alloc (.cells #[.int .i64 e.term,.int .i64 e.kind,.string e.coll,.string e.to,.int .i64 e.id.kind,.int .i64 e.id.num,.string e.id.text,.slice IA e.id.items.length ic,.slice IA' e.id.names.length ic',.int .i64 e.doc.kind,.int .i64 e.doc.num,.string e.doc.text,.slice DA e.doc.items.length dc,.slice DA' e.doc.names.length dc',.slice LA e.dels.length lc,.int .i64 e.session,.int .i64 e.number] 46):=⟨_,rfl⟩;have hbk:bs w1 w.heap.size e IA ic IA' ic' DA dc DA' dc' LA lc:=by rw[hw1];exact heap_alloc_new w _
  have hb1:Below w.heap.size w w1:=by rw[hw1];exact af _
  obtain⟨r,hr⟩: ∃r,r=(dH e.kind && iw e && ((b1 || decide (e.coll.size=0)) && (b2 || decide (e.to.size=0)) && (b3 || b8 e.id) && (b4 || b8 e.doc) && (b5 || decide (e.dels.length=0))) && ((!b1 || b9 e.coll) && (!b2 || (b9 e.to && decide (e.to≠e.coll))) && (!b3 || decide (bh e.id=0)) && (!b4 || dU e.doc e.id) && (!b5 || fi e.dels))):=⟨_,rfl⟩;have HR:=hid hr;rw[←hr];have HB:=hid hb1;have HK:=hid hbk;have HS:=hid hS;have HA:=hid h;have HD:=hid hd;have HH:=hid hh;have HKD:=hid hkd;have HCB:=hid hb;clear hr hb1 hbk hS h hd hh hkd hb;go_enter Tryz.func25,Tryz.ntmps25;by_cases hK1:1≤e.kind;rotate_left
  · have dK1:decide (e.kind<1)=true:=decide_eq_true (by omega)
    have HE:Hid (r=false):=hid (by rw[HR.out];unfold dH iw;rw[decide_eq_false hK1];simp);clear hK1;go_wp2_with fail;rw[←hw1];go_ret;exact⟨by rw[HE.out];rfl,HB.out⟩
  have gK1:decide (e.kind<1)=false:=decide_eq_false (by omega);by_cases hK7:e.kind≤7;rotate_left
  · have dK7:decide (7<e.kind)=true:=decide_eq_true (by omega)
    have HE:Hid (r=false):=hid (by rw[HR.out];unfold dH iw;rw[decide_eq_false hK7];simp);clear hK7;go_wp2_with fail;rw[←hw1];go_ret;exact⟨by rw[HE.out];rfl,HB.out⟩
  have gK7:decide (7<e.kind)=false:=decide_eq_false (by omega);by_cases hT0:0≤e.term;rotate_left
  · have dT0:decide (e.term<0)=true:=decide_eq_true (by omega)
    have HE:Hid (r=false):=hid (by rw[HR.out];unfold dH iw;rw[decide_eq_false hT0];simp);clear hT0;go_wp2_with fail;rw[←hw1];go_ret;exact⟨by rw[HE.out];rfl,HB.out⟩
  have gT0:decide (e.term<0)=false:=decide_eq_false (by omega);by_cases hT1:e.term≤1099511627776;rotate_left
  · have dT1:decide (1099511627776<e.term)=true:=decide_eq_true (by omega)
    have HE:Hid (r=false):=hid (by rw[HR.out];unfold dH iw;rw[decide_eq_false hT1];simp);clear hT1;go_wp2_with fail;rw[←hw1];go_ret;exact⟨by rw[HE.out];rfl,HB.out⟩
  have gT1:decide (1099511627776<e.term)=false:=decide_eq_false (by omega);by_cases hS0:0≤e.session;rotate_left
  · have dS0:decide (e.session<0)=true:=decide_eq_true (by omega)
    have HE:Hid (r=false):=hid (by rw[HR.out];unfold dH iw;rw[decide_eq_false hS0];simp);clear hS0;go_wp2_with fail;rw[←hw1];go_ret;exact⟨by rw[HE.out];rfl,HB.out⟩
  have gS0:decide (e.session<0)=false:=decide_eq_false (by omega);by_cases hS1:e.session≤255;rotate_left
  · have dS1:decide (255<e.session)=true:=decide_eq_true (by omega)
    have HE:Hid (r=false):=hid (by rw[HR.out];unfold dH iw;rw[decide_eq_false hS1];simp);clear hS1;go_wp2_with fail;rw[←hw1];go_ret;exact⟨by rw[HE.out];rfl,HB.out⟩
  have gS1:decide (255<e.session)=false:=decide_eq_false (by omega);by_cases hN0:0≤e.number;rotate_left
  · have dN0:decide (e.number<0)=true:=decide_eq_true (by omega)
    have HE:Hid (r=false):=hid (by rw[HR.out];unfold dH iw;rw[decide_eq_false hN0];simp);clear hN0;go_wp2_with fail;rw[←hw1];go_ret;exact⟨by rw[HE.out];rfl,HB.out⟩
  have gN0:decide (e.number<0)=false:=decide_eq_false (by omega);by_cases hN1:e.number≤1099511627776;rotate_left
  · have dN1:decide (1099511627776<e.number)=true:=decide_eq_true (by omega)
    have HE:Hid (r=false):=hid (by rw[HR.out];unfold dH iw;rw[decide_eq_false hN1];simp);clear hN1;go_wp2_with fail;rw[←hw1];go_ret;exact⟨by rw[HE.out];rfl,HB.out⟩
  have gN1:decide (1099511627776<e.number)=false:=decide_eq_false (by omega);have HNB:=hid (And.intro hK1 hK7)
  have HKN:Hid (dH e.kind=true∧iw e=(if e.kind=1 then decide (e.session=0) && decide (e.number=0)else true)):=hid (by
    unfold dH iw;rw[decide_eq_true hK1,decide_eq_true hK7,decide_eq_true hT0,decide_eq_true hT1,decide_eq_true hS0,decide_eq_true hS1,decide_eq_true hN0,decide_eq_true hN1]
    simp)
  rw[HKN.out.1,HKN.out.2,Bool.true_and]at HR;go_wp2_with fail;rw[←hw1];clear hw1;refine(HH.out _).mono ?_;rintro q u ⟨rfl,hw⟩;replace hw:=hw.symm;subst hw;clear hK1 hK7 hT0 hT1 hS0 hS1 hN0 hN1 gK1 gK7 gT0 gT1 gS0 gS1 gN0 gN1;have HF1:=(aG.mk:aG b1);have HF2:=(aG.mk:aG b2);have HF3:=(aG.mk:aG b3);have HF4:=(aG.mk:aG b4);have HF5:=(aG.mk:aG b5);rcases HCB.out with ⟨rfl,rfl,rfl,rfl,rfl⟩|⟨rfl,rfl,rfl,rfl,rfl⟩|⟨rfl,rfl,rfl,rfl,rfl⟩|⟨rfl,rfl,rfl,rfl,rfl⟩|⟨rfl,rfl,rfl,rfl,rfl⟩|⟨rfl,rfl,rfl,rfl,rfl⟩
  all_goals obtain⟨y1,y2,y3,y4,y5,y6,y7,y8,y9,y10,y11,y12,y13,y14,y15,y16⟩:=HK.out.all
  all_goals first
    |(have _g:aG true:=HF1
      by_cases hc:e.coll.size=0
      · have e1:e.coll.toList= []:=bR.2 hc
        have hnn:b9 e.coll=false:=by
          cases hz:b9 e.coll with
          |false=>rfl
          |true=>exact absurd hc (oD hz)
        have HE:Hid (r=false):=hid (by rw[HR.out];simp[hnn]);clear hnn;go_wp2_with fail;go_ret;exact⟨by rw[HE.out];rfl,HB.out⟩
      have e1:e.coll.toList.isEmpty=false:=by rw[←Bool.not_eq_true,cQ];exact hc
      have f1: ¬e.coll.toList= []:=fun h=>hc (bR.1 h);clear hc;go_wp2_with fail;refine(kp e.coll _ HA.out.cz).mono ?_;rintro q wn ⟨rfl,hb⟩;clear y1 y2 y3 y4 y5 y6 y7 y8 y9 y10 y11 y12 y13 y14 y15 y16;have HB:=hid (HB.out.trans (hb.mono HB.out.size));have HK:=hid (HK.out.below hb);clear hb;obtain⟨y1,y2,y3,y4,y5,y6,y7,y8,y9,y10,y11,y12,y13,y14,y15,y16⟩:=HK.out.all;cases hn:b9 e.coll
      · have HE:Hid (r=false):=hid (by rw[HR.out];simp[hn])
        go_wp2_with fail;go_ret;exact⟨by rw[HE.out];rfl,HB.out⟩
      have HQ1:Hid ((true || decide (e.coll.size=0))=true∧(!true || b9 e.coll)=true):=hid ⟨rfl,by rw[hn];rfl⟩
      clear hn)
    |(have _g:aG false:=HF1
      by_cases hc:e.coll.size=0;rotate_left
      · have e1:e.coll.toList.isEmpty=false:=by rw[←Bool.not_eq_true,cQ];exact hc
        have f1: ¬e.coll.toList= []:=fun h=>hc (bR.1 h);have HE:Hid (r=false):=hid (by rw[HR.out];simp[hc]);go_wp2_with fail;go_ret;exact⟨by rw[HE.out];rfl,HB.out⟩
      have e1:e.coll.toList= []:=bR.2 hc;have HQ1:Hid ((false || decide (e.coll.size=0))=true∧(!false || b9 e.coll)=true):=hid ⟨by rw[decide_eq_true hc];rfl,rfl⟩
      clear hc)
  all_goals first
    |(have _g:aG true:=HF2
      by_cases hc:e.to.size=0
      · have e1:e.to.toList= []:=bR.2 hc
        have hnn:b9 e.to=false:=by
          cases hz:b9 e.to with
          |false=>rfl
          |true=>exact absurd hc (oD hz)
        have HE:Hid (r=false):=hid (by rw[HR.out];simp[hnn]);clear hnn;go_wp2_with fail;go_ret;exact⟨by rw[HE.out];rfl,HB.out⟩
      have e1:e.to.toList.isEmpty=false:=by rw[←Bool.not_eq_true,cQ];exact hc
      have f1: ¬e.to.toList= []:=fun h=>hc (bR.1 h);clear hc;go_wp2_with fail;refine(kp e.to _ HA.out.tz).mono ?_;rintro q wn ⟨rfl,hb⟩;clear y1 y2 y3 y4 y5 y6 y7 y8 y9 y10 y11 y12 y13 y14 y15 y16;have HB:=hid (HB.out.trans (hb.mono HB.out.size));have HK:=hid (HK.out.below hb);clear hb;obtain⟨y1,y2,y3,y4,y5,y6,y7,y8,y9,y10,y11,y12,y13,y14,y15,y16⟩:=HK.out.all;cases hn:b9 e.to
      · have HE:Hid (r=false):=hid (by rw[HR.out];simp[hn])
        go_wp2_with fail;go_ret;exact⟨by rw[HE.out];rfl,HB.out⟩
      by_cases hne:e.to=e.coll
      · have g1:(e.to.toList == e.coll.toList)=true:=by rw[cm];exact decide_eq_true hne
        have g3:e.to.toList=e.coll.toList:=by rw[hne]
        have HNE:=hid hne;clear hne;have HE:Hid (r=false):=hid (by rw[HR.out];simp[HNE.out]);go_wp2_with fail;go_ret;exact⟨by rw[HE.out];rfl,HB.out⟩
      have g1:(e.to.toList == e.coll.toList)=false:=by rw[cm];exact decide_eq_false hne
      have HQ2:Hid ((true || decide (e.to.size=0))=true∧(!true || (b9 e.to && decide (e.to≠e.coll)))=true):=hid ⟨rfl,by rw[hn,decide_eq_true hne];rfl⟩
      clear hn hne)
    |(have _g:aG false:=HF2
      by_cases hc:e.to.size=0;rotate_left
      · have e1:e.to.toList.isEmpty=false:=by rw[←Bool.not_eq_true,cQ];exact hc
        have f1: ¬e.to.toList= []:=fun h=>hc (bR.1 h);have HE:Hid (r=false):=hid (by rw[HR.out];simp[hc]);go_wp2_with fail;go_ret;exact⟨by rw[HE.out];rfl,HB.out⟩
      have e2:e.to.toList= []:=bR.2 hc;have HQ2:Hid ((false || decide (e.to.size=0))=true∧(!false || (b9 e.to && decide (e.to≠e.coll)))=true):=hid ⟨by rw[decide_eq_true hc];rfl,rfl⟩
      clear hc)
  all_goals first
    |(have _g:aG true:=HF3
      go_wp2_with fail;refine(iz S e.id _ _ HD.out.idd (fun b hb=>Nat.lt_of_lt_of_le (HS.out b hb) HB.out.size) (HA.out.below HS.out HB.out).id).mono ?_;rintro q wn ⟨rfl,hb⟩;clear y1 y2 y3 y4 y5 y6 y7 y8 y9 y10 y11 y12 y13 y14 y15 y16;have HB:=hid (HB.out.trans (hb.mono HB.out.size));have HK:=hid (HK.out.below hb);clear hb;obtain⟨y1,y2,y3,y4,y5,y6,y7,y8,y9,y10,y11,y12,y13,y14,y15,y16⟩:=HK.out.all;obtain⟨x,hx⟩: ∃x,x=bh e.id:=⟨_,rfl⟩;have HX:=hid hx;rw[←hx]at HR ⊢;clear hx;by_cases hx0:x=0;rotate_left
      · have g1:(x == 0)=false:=beq_false_of_ne hx0
        have g2:(x != 0)=true:=by simp[hx0]
        have HE:Hid (r=false):=hid (by rw[HR.out];simp[hx0]);go_wp2_with fail;go_ret;exact⟨by rw[HE.out];rfl,HB.out⟩
      subst hx0
      have HQ3:Hid ((true || b8 e.id)=true∧(!true || decide ((0:Int)=0))=true):=hid ⟨rfl,rfl⟩)
    |(have _g:aG false:=HF3
      go_wp2_with fail;refine(mf S e.id _ _ (fun b hb=>Nat.lt_of_lt_of_le (HS.out b hb) HB.out.size) (HA.out.below HS.out HB.out).id).mono ?_;rintro q wn ⟨rfl,hb⟩;clear y1 y2 y3 y4 y5 y6 y7 y8 y9 y10 y11 y12 y13 y14 y15 y16;have HB:=hid (HB.out.trans (hb.mono HB.out.size));have HK:=hid (HK.out.below hb);clear hb;obtain⟨y1,y2,y3,y4,y5,y6,y7,y8,y9,y10,y11,y12,y13,y14,y15,y16⟩:=HK.out.all;cases hn:b8 e.id
      · have HE:Hid (r=false):=hid (by rw[HR.out];simp[hn])
        go_wp2_with fail;go_ret;exact⟨by rw[HE.out];rfl,HB.out⟩
      have HQ3:Hid ((false || b8 e.id)=true∧(!false || decide (bh e.id=0))=true):=hid ⟨by rw[hn];rfl,rfl⟩
      clear hn)
  all_goals first
    |(have _g:aG true:=HF4
      go_wp2_with fail;refine(rE S e.doc e.id _ _ _ (fun b hb=>Nat.lt_of_lt_of_le (HS.out b hb) HB.out.size) (HA.out.below HS.out HB.out).doc (HA.out.below HS.out HB.out).id HD.out.docd (gr HX.out.symm)).mono ?_;rintro q wn ⟨rfl,hb⟩;clear y1 y2 y3 y4 y5 y6 y7 y8 y9 y10 y11 y12 y13 y14 y15 y16;have HB:=hid (HB.out.trans (hb.mono HB.out.size));have HK:=hid (HK.out.below hb);clear hb;obtain⟨y1,y2,y3,y4,y5,y6,y7,y8,y9,y10,y11,y12,y13,y14,y15,y16⟩:=HK.out.all;cases hn:dU e.doc e.id
      · have HE:Hid (r=false):=hid (by rw[HR.out];simp[hn])
        go_wp2_with fail;go_ret;exact⟨by rw[HE.out];rfl,HB.out⟩
      have HQ4:Hid ((true || b8 e.doc)=true∧(!true || dU e.doc e.id)=true):=hid ⟨rfl,by rw[hn];rfl⟩
      clear hn)
    |(have _g:aG false:=HF4
      go_wp2_with fail;refine(mf S e.doc _ _ (fun b hb=>Nat.lt_of_lt_of_le (HS.out b hb) HB.out.size) (HA.out.below HS.out HB.out).doc).mono ?_;rintro q wn ⟨rfl,hb⟩;clear y1 y2 y3 y4 y5 y6 y7 y8 y9 y10 y11 y12 y13 y14 y15 y16;have HB:=hid (HB.out.trans (hb.mono HB.out.size));have HK:=hid (HK.out.below hb);clear hb;obtain⟨y1,y2,y3,y4,y5,y6,y7,y8,y9,y10,y11,y12,y13,y14,y15,y16⟩:=HK.out.all;cases hn:b8 e.doc
      · have HE:Hid (r=false):=hid (by rw[HR.out];simp[hn])
        go_wp2_with fail;go_ret;exact⟨by rw[HE.out];rfl,HB.out⟩
      have HQ4:Hid ((false || b8 e.doc)=true∧(!false || dU e.doc e.id)=true):=hid ⟨by rw[hn];rfl,rfl⟩
      clear hn)
  all_goals first
    |(have _g:aG true:=HF5
      go_wp2_with fail;refine(nR S LA lc e.dels _ (fun b hb=>Nat.lt_of_lt_of_le (HS.out b hb) HB.out.size) (HA.out.below HS.out HB.out).dels HA.out.len HD.out.dels).mono ?_;rintro q wn ⟨rfl,hb⟩;clear y1 y2 y3 y4 y5 y6 y7 y8 y9 y10 y11 y12 y13 y14 y15 y16;have HB:=hid (HB.out.trans (hb.mono HB.out.size));have HK:=hid (HK.out.below hb);clear hb;obtain⟨y1,y2,y3,y4,y5,y6,y7,y8,y9,y10,y11,y12,y13,y14,y15,y16⟩:=HK.out.all;cases hn:fi e.dels
      · have HE:Hid (r=false):=hid (by rw[HR.out];simp[hn])
        go_wp2_with fail;go_ret;exact⟨by rw[HE.out];rfl,HB.out⟩
      have HQ5:Hid ((true || decide (e.dels.length=0))=true∧(!true || fi e.dels)=true):=hid ⟨rfl,by rw[hn];rfl⟩
      clear hn)
    |(have _g:aG false:=HF5
      by_cases hc5:e.dels.length=0;rotate_left
      · have g5:decide ((e.dels.length:Int)>0)=true:=decide_eq_true (qZ hc5)
        have g6:(0:Int)<(e.dels.length:Int):=qZ hc5;have g7: ¬e.dels= []:=fun h=>hc5 (by rw[h];rfl);have HE:Hid (r=false):=hid (by rw[HR.out];simp[g7]);go_wp2_with fail;go_ret;exact⟨by rw[HE.out];rfl,HB.out⟩
      have g6:e.dels= []:=List.eq_nil_of_length_eq_zero hc5;have HQ5:Hid ((false || decide (e.dels.length=0))=true∧(!false || fi e.dels)=true):=hid ⟨by rw[decide_eq_true hc5];rfl,rfl⟩
      clear hc5)
  all_goals first
    |(have _g:aG true:=HF1
      have hk1:e.kind≠1:=by have:=HKD.out;simpa using this
      have HE:Hid (r=true):=hid (by rw[HR.out,if_neg hk1];simp only[HQ1.out.1,HQ2.out.1,HQ3.out.1,HQ4.out.1,HQ5.out.1,HQ1.out.2,HQ2.out.2,HQ3.out.2,HQ4.out.2,HQ5.out.2,Bool.and_true,Bool.true_and,Bool.and_self]);have g8:(e.kind == 1)=false:=beq_false_of_ne hk1;have g9: ¬e.kind=1:=hk1;clear hk1;go_wp2_with fail;go_ret
      exact⟨by rw[HE.out];rfl,HB.out⟩)
    |(have _g:aG false:=HF1
      have hk1:e.kind=1:=by have:=HKD.out;simp only[Bool.false_eq_true,if_false]at this;exact this HNB.out.1 HNB.out.2
      have HE:Hid (r=(decide (e.session=0) && decide (e.number=0))):=hid (by rw[HR.out,if_pos hk1];simp only[HQ1.out.1,HQ2.out.1,HQ3.out.1,HQ4.out.1,HQ5.out.1,HQ1.out.2,HQ2.out.2,HQ3.out.2,HQ4.out.2,HQ5.out.2,Bool.and_true,Bool.true_and,Bool.and_self]);obtain⟨kk,hkk⟩: ∃k,k=e.kind:=⟨_,rfl⟩;rw[←hkk]at y1 hk1;subst hk1;obtain⟨ss,hss⟩: ∃k,k=e.session:=⟨_,rfl⟩;obtain⟨nn,hnn⟩: ∃k,k=e.number:=⟨_,rfl⟩;rw[←hss]at y15;rw[←hnn]at y16;rw[←hss,←hnn]at HE;clear hkk hss hnn;by_cases h1:ss=0;rotate_left
      · have g1:(ss == 0)=false:=beq_false_of_ne h1
        have HE2:Hid (r=false):=hid (by rw[HE.out,decide_eq_false h1];rfl);go_wp2_with fail;go_ret;exact⟨by rw[HE2.out];rfl,HB.out⟩
      subst h1;by_cases h2:nn=0;rotate_left
      · have g1:(nn == 0)=false:=beq_false_of_ne h2
        have HE2:Hid (r=false):=hid (by rw[HE.out,decide_eq_false h2];rfl);go_wp2_with fail;go_ret;exact⟨by rw[HE2.out];rfl,HB.out⟩
      subst h2;go_wp2_with fail;go_ret
      exact⟨by rw[HE.out];rfl,HB.out⟩)
theorem dP (S:Nat→Prop)(e:bA)(cs:Array Value)(w:World)(hS: ∀b,S b→b<w.heap.size)(h:db w S e cs)(hd:SmE e):
    Calls Tryz.prog 25 #[.agg cs] w fun r w'=>r= .returned (.bool (bT e))∧Below w.heap.size w w':=by
  obtain⟨IA,ic,IA',ic',DA,dc,DA',dc',LA,lc,rfl,hat⟩:=h.at;rw[mQ];refine p9 (ba e.kind) (cC e.kind) (cr e.kind) (bO e.kind) (bn e.kind) (fo e.kind) S e IA ic IA' ic' DA dc DA' dc' LA lc w hS hat hd (m8 e.kind) ?_;by_cases hc:2≤e.kind∧e.kind≤7
  · have h1:ba e.kind=true:=by unfold ba;rw[decide_eq_true hc.1,decide_eq_true hc.2];rfl
    rw[if_pos h1];omega
  · have h1: ¬ba e.kind=true:=by unfold ba;simp only[Bool.and_eq_true,decide_eq_true_eq];exact hc
    rw[if_neg h1];omega
theorem bA.same {a b:bA}(h0:a.term=b.term)(h1:a.kind=b.kind)(h2:a.coll=b.coll)(h3:a.to=b.to)(h4:a.id=b.id)(h5:a.doc=b.doc)(h6:a.dels=b.dels)(h7:a.session=b.session)(h8:a.number=b.number):a=b:=by
 cases a;cases b;simp only at *;subst h0 h1 h2 h3 h4 h5 h6 h7 h8;rfl
theorem d9 {a b:bA}(h: ¬a=b):(false=true)↔a=b:=⟨fun h=>(by cases h),fun h'=>absurd h' h⟩
theorem qF (S:Nat→Prop)(a b:bA)(ca cb:Array Value)(w:World)(hS: ∀b,S b→b<w.heap.size)(ha:db w S a ca)(hb:db w S b cb):
  Calls Tryz.prog 26 #[.agg ca,.agg cb] w fun e w'=>(∃r:Bool,e= .returned (.bool r)∧(r=true↔a=b))∧Below w.heap.size w w':=by
 obtain⟨IA,ic,IA',ic',DA,dc,DA',dc',LA,lc,rfl,hat⟩:=ha.at;obtain⟨JA,jc,JA',jc',EA,ec,EA',ec',MA,mc,rfl,hbt⟩:=hb.at;obtain⟨w2,hw2⟩: ∃W,W=(w.alloc (.cells #[.int .i64 a.term,.int .i64 a.kind,.string a.coll,.string a.to,.int .i64 a.id.kind,.int .i64 a.id.num,.string a.id.text,.slice IA a.id.items.length ic,.slice IA' a.id.names.length ic',.int .i64 a.doc.kind,.int .i64 a.doc.num,.string a.doc.text,.slice DA a.doc.items.length dc,.slice DA' a.doc.names.length dc',.slice LA a.dels.length lc,.int .i64 a.session,.int .i64 a.number] 46)).alloc (.cells #[.int .i64 b.term,.int .i64 b.kind,.string b.coll,.string b.to,.int .i64 b.id.kind,.int .i64 b.id.num,.string b.id.text,.slice JA b.id.items.length jc,.slice JA' b.id.names.length jc',.int .i64 b.doc.kind,.int .i64 b.doc.num,.string b.doc.text,.slice EA b.doc.items.length ec,.slice EA' b.doc.names.length ec',.slice MA b.dels.length mc,.int .i64 b.session,.int .i64 b.number] 46):=⟨_,rfl⟩;have hz1:(w.alloc (.cells #[.int .i64 a.term,.int .i64 a.kind,.string a.coll,.string a.to,.int .i64 a.id.kind,.int .i64 a.id.num,.string a.id.text,.slice IA a.id.items.length ic,.slice IA' a.id.names.length ic',.int .i64 a.doc.kind,.int .i64 a.doc.num,.string a.doc.text,.slice DA a.doc.items.length dc,.slice DA' a.doc.names.length dc',.slice LA a.dels.length lc,.int .i64 a.session,.int .i64 a.number] 46)).heap.size=w.heap.size+1:=by simp
 have hbb:w2.heap[w.heap.size+1]? =some (.cells #[.int .i64 b.term,.int .i64 b.kind,.string b.coll,.string b.to,.int .i64 b.id.kind,.int .i64 b.id.num,.string b.id.text,.slice JA b.id.items.length jc,.slice JA' b.id.names.length jc',.int .i64 b.doc.kind,.int .i64 b.doc.num,.string b.doc.text,.slice EA b.doc.items.length ec,.slice EA' b.doc.names.length ec',.slice MA b.dels.length mc,.int .i64 b.session,.int .i64 b.number] 46 (0,0)):=by rw[hw2,←hz1];exact heap_alloc_new _ _
 have hba:w2.heap[w.heap.size]? =some (.cells #[.int .i64 a.term,.int .i64 a.kind,.string a.coll,.string a.to,.int .i64 a.id.kind,.int .i64 a.id.num,.string a.id.text,.slice IA a.id.items.length ic,.slice IA' a.id.names.length ic',.int .i64 a.doc.kind,.int .i64 a.doc.num,.string a.doc.text,.slice DA a.doc.items.length dc,.slice DA' a.doc.names.length dc',.slice LA a.dels.length lc,.int .i64 a.session,.int .i64 a.number] 46 (0,0)):=by rw[hw2,Below.heap_alloc _ _ _ (by omega)];exact heap_alloc_new _ _
 have h02:Below w.heap.size w w2:=by rw[hw2];exact(af _).alloc (by omega) _
 have HB2:=hid h02;have HKA2:Hid (bs w2 w.heap.size a IA ic IA' ic' DA dc DA' dc' LA lc):=hid hba;have HKB2:Hid (bs w2 (w.heap.size+1) b JA jc JA' jc' EA ec EA' ec' MA mc):=hid hbb;have HS:=hid hS;have HA:=hid hat;have HBB:=hid hbt;clear ha hb hat hbt hS h02 hba hbb hz1;go_enter Tryz.func26,Tryz.ntmps26;by_cases qterm:a.term=b.term
 case neg=>
  have g1:(a.term == b.term)=false:=beq_false_of_ne qterm;go_wp2_with fail;rw[←hw2];go_ret;exact⟨⟨false,rfl,d9 fun h=>qterm (by rw[h])⟩,HB2.out⟩
 have Qterm:=hid qterm;have dterm:(a.term == b.term)=true:=beq_iff_eq.2 qterm;clear qterm;by_cases qkind:a.kind=b.kind
 case neg=>
  have g1:(a.kind == b.kind)=false:=beq_false_of_ne qkind;go_wp2_with fail;rw[←hw2];go_ret;exact⟨⟨false,rfl,d9 fun h=>qkind (by rw[h])⟩,HB2.out⟩
 have Qkind:=hid qkind;have dkind:(a.kind == b.kind)=true:=beq_iff_eq.2 qkind;clear qkind;by_cases qcoll:a.coll=b.coll
 case neg=>
  have g1:(a.coll.toList == b.coll.toList)=false:=by rw[cm];exact decide_eq_false qcoll
  go_wp2_with fail;rw[←hw2];go_ret;exact⟨⟨false,rfl,d9 fun h=>qcoll (by rw[h])⟩,HB2.out⟩
 have Qcoll:=hid qcoll;have dcoll:(a.coll.toList == b.coll.toList)=true:=by rw[cm];exact decide_eq_true qcoll
 clear qcoll;by_cases qto:a.to=b.to
 case neg=>
  have g1:(a.to.toList == b.to.toList)=false:=by rw[cm];exact decide_eq_false qto
  go_wp2_with fail;rw[←hw2];go_ret;exact⟨⟨false,rfl,d9 fun h=>qto (by rw[h])⟩,HB2.out⟩
 have Qto:=hid qto;have dto:(a.to.toList == b.to.toList)=true:=by rw[cm];exact decide_eq_true qto
 clear qto;have HN:=hid (gn S (av a.id) a.id b.id _ _ w2 (Nat.le_refl _) (fun b hb=>Nat.lt_of_lt_of_le (HS.out b hb) HB2.out.size) (HA.out.below HS.out HB2.out).id (HBB.out.below HS.out HB2.out).id);go_wp2_with fail;rw[←hw2];clear hw2;refine HN.out.mono ?_;rintro q w3 ⟨⟨r,rfl,hr⟩,hb⟩;have HB3:=hid (HB2.out.trans (hb.mono HB2.out.size));have HKA3:=hid (HKA2.out.below hb);have HKB3:=hid (HKB2.out.below hb);clear hb HN;clear dterm dkind dcoll dto;have HQ:=hid hr;clear hr;cases r
 case false=>
  have HNE:Hid (¬a.id=b.id):=hid fun h=>by have:=HQ.out.2 h;cases this
  go_wp2_with fail;go_ret;exact⟨⟨false,rfl,d9 fun h=>HNE.out (by rw[h])⟩,HB3.out⟩
 have Qid:Hid (a.id=b.id):=hid (HQ.out.1 rfl);clear HQ;have y9:=HKA3.out.g9;have z9:=HKB3.out.g9;have y10:=HKA3.out.g10;have z10:=HKB3.out.g10;have y11:=HKA3.out.g11;have z11:=HKB3.out.g11;have y12:=HKA3.out.g12;have z12:=HKB3.out.g12;have y13:=HKA3.out.g13;have z13:=HKB3.out.g13;have HN:=hid (gn S (av a.doc) a.doc b.doc _ _ w3 (Nat.le_refl _) (fun b hb=>Nat.lt_of_lt_of_le (HS.out b hb) HB3.out.size) (HA.out.below HS.out HB3.out).doc (HBB.out.below HS.out HB3.out).doc);go_wp2_with fail;refine HN.out.mono ?_;rintro q w4 ⟨⟨r,rfl,hr⟩,hb⟩;have HB4:=hid (HB3.out.trans (hb.mono HB3.out.size));have HKA4:=hid (HKA3.out.below hb);have HKB4:=hid (HKB3.out.below hb);clear hb HN;clear y9 z9 y10 z10 y11 z11 y12 z12 y13 z13;have HQ:=hid hr;clear hr;cases r
 case false=>
  have HNE:Hid (¬a.doc=b.doc):=hid fun h=>by have:=HQ.out.2 h;cases this
  go_wp2_with fail;go_ret;exact⟨⟨false,rfl,d9 fun h=>HNE.out (by rw[h])⟩,HB4.out⟩
 have Qdoc:Hid (a.doc=b.doc):=hid (HQ.out.1 rfl);clear HQ;have y14:=HKA4.out.g14;have z14:=HKB4.out.g14;have HN:=hid (rB S LA lc a.dels MA mc b.dels w4 (fun b hb=>Nat.lt_of_lt_of_le (HS.out b hb) HB4.out.size) (HA.out.below HS.out HB4.out).dels (HBB.out.below HS.out HB4.out).dels (by have:=HA.out.len;omega) (by have:=HBB.out.len;omega));go_wp2_with fail;refine HN.out.mono ?_;rintro q w5 ⟨⟨r,rfl,hr⟩,hb⟩;have HB5:=hid (HB4.out.trans (hb.mono HB4.out.size));have HKA5:=hid (HKA4.out.below hb);have HKB5:=hid (HKB4.out.below hb);clear hb HN;clear y14 z14;have HQ:=hid hr;clear hr;cases r
 case false=>
  have HNE:Hid (¬a.dels=b.dels):=hid fun h=>by have:=HQ.out.2 h;cases this
  go_wp2_with fail;go_ret;exact⟨⟨false,rfl,d9 fun h=>HNE.out (by rw[h])⟩,HB5.out⟩
 have Qdels:Hid (a.dels=b.dels):=hid (HQ.out.1 rfl);clear HQ;have y15:=HKA5.out.g15;have z15:=HKB5.out.g15;have y16:=HKA5.out.g16;have z16:=HKB5.out.g16;by_cases qsession:a.session=b.session
 case neg=>
  have g1:(a.session == b.session)=false:=beq_false_of_ne qsession;go_wp2_with fail;go_ret;exact⟨⟨false,rfl,d9 fun h=>qsession (by rw[h])⟩,HB5.out⟩
 have Qsession:=hid qsession;have dsession:(a.session == b.session)=true:=beq_iff_eq.2 qsession;clear qsession;by_cases qnumber:a.number=b.number
 case neg=>
  have g1:(a.number == b.number)=false:=beq_false_of_ne qnumber;go_wp2_with fail;go_ret;exact⟨⟨false,rfl,d9 fun h=>qnumber (by rw[h])⟩,HB5.out⟩
 have dn:(a.number == b.number)=true:=beq_iff_eq.2 qnumber;have Qn:=hid qnumber;clear qnumber;go_wp2_with fail;go_ret;exact⟨⟨true,rfl,fun _=>bA.same Qterm.out Qkind.out Qcoll.out Qto.out Qid.out Qdoc.out Qdels.out Qsession.out Qn.out,fun _=>rfl⟩,HB5.out⟩
theorem o2 (b off i:Nat):((⟨b,off,none⟩:Addr).add i)=⟨b,off+i,none⟩:=by
 unfold Addr.add
 split
 ·next h=>simp[h]
 ·rfl
theorem aA.rdY {w:World}{B:Nat}{v:Value}{l:List UInt8}(h:aA w B v l):Rd w w.heap.size v l:=by
 have hc:=fun g hg=>World.ownsRow.cells (g:=g) h hg;have hlt:=World.ownsRow.lt h;rcases h.2 with ⟨rfl,h0⟩|⟨g,cap,cur,rfl,hB,hh,hcap,hm,-⟩
 ·have hl:l= []:=List.eq_nil_of_length_eq_zero h0;subst hl;exact⟨none,0,rfl,Nat.le_refl _,⟨by omega,fun _=>rfl⟩,fun h=>absurd h (by simp)⟩
 ·refine⟨some ⟨g,0,none⟩,cap,rfl,hcap,⟨by unfold maxLen at hm;omega,fun h=>by cases h⟩,fun hp=>⟨g,0,rfl,(hlt g rfl).2,fun i hi=> ?_⟩⟩;have h1:=hc g rfl i (.int .u8 (l[i].toNat:Int)) (by simp[aJ,hi]);rw[o2]at h1;exact h1
theorem nK {w:World}{ops:Array Oper}{rest:List Oper}{o:Oper}{a:Act}{Q:Exit→Act→World→Prop}(hgd:o.guard=none)(s x:Operand)
  (ho:o.op= .call { callee:= .builtin .append,args:= #[s,x],argTypes:= #[23,23] }) (B:Nat) (v:Value) (l:List UInt8) (hs:a.eval s=v) (hown:aA w B v l)
  (D:Nat) (vx:Value) (m:List UInt8) (hx:a.eval x=vx) (hrd:Rd w D vx m) (hB:B≤w.heap.size) (hl:l.length+m.length≤140737488355328)
  (K: ∀v' w',aA w' B v' (l++m)→w.grownBy w' v.ownBlock→wpList Tryz.prog ops Q rest (a.put o.dst v') w'):wpList Tryz.prog ops Q (o::rest) a w:=by
 obtain⟨i0,hi,hz0,hz1,hz2⟩:=info_parts Tryz.infoU8;obtain⟨A,cap,rfl,hcap,⟨hc2,hA⟩,hc⟩:=hrd
 cases A with
 |none=>
  have hm:m= []:=by
   match m,hc with
   | [],_=>rfl
   |b::r,hc=>obtain⟨_,_,h,_⟩:=hc (by simp);cases h
  subst hm;obtain rfl:=hA rfl;refine wpList_append_own_none hgd s x 23 ho B 5 i0 1 Tryz.underlying23 hi v l.length (aJ l) hs hown hx ?_
  exact K v w (by rw[List.append_nil];exact hown) ⟨rfl,rfl,rfl,Nat.le_refl _,fun _ _ _=>rfl⟩
 |some ad=>
  refine wpList_append_own _ hgd s x 23 ho B 5 i0 (.int .u8 0) 1 1 Tryz.underlying23 hi hz0 hz1 hz2 rfl (by decide) v l.length (aJ l) hs hown ad m.length cap (aJ m) hx (by simp[aJ]) ?_ (gC m) (by unfold maxLen;omega) (by omega) hB ?_
  ·intro j u hj;have hjl:j<m.length:=by have:=(List.getElem?_eq_some_iff.1 hj).1;simpa[aJ]using this
   obtain⟨b,off,hAd,-,hcell⟩:=hc (by omega);injection hAd with hAd
   subst hAd;rw[o2,hcell j hjl];simpa[aJ,List.getElem?_map,List.getElem?_eq_getElem hjl]using hj
  ·intro v' w' h1 h2 _;exact K v' w' (by unfold aA;rw[List.length_append,eu];exact h1) h2
theorem sR {a w w':World}{B:Nat}{v:Value}{l:List UInt8}(hb:Below B a w)(h:aA w B v l)(hB:B≤w.heap.size)(hg:w.grownBy w' v.ownBlock):Below B a w':=hb.grown hg hB (fun k hk=>(World.ownsRow.lt h k hk).1)
theorem Rd.strY {w:World}{B:Nat}{v:Value}{l:List UInt8}(h:Rd w B v l):(convert 23 9 v).run Tryz.prog w= .ok (.string ⟨l.toArray⟩) w:=by
 obtain⟨A,cap,hv,-⟩:=id h;rw[hv]at h ⊢;have:=h.conv (Nat.le_refl _) cap;rw[List.take_length]at this;exact this
structure bM where
 kind:Int
 frm:Int
 tgt:Int
 term:Int
 index:Int
 logTerm:Int
 commit:Int
 round:Int
 ok:Bool
 ents:List bA
 snap:List UInt8
def bl (k:Int):Int:=if k=1 then 3 else if k=2 then 16 else if k=3 then 47 else if k=4 then 25 else if k=5 then 67 else 0
def fS (k:Int):Bool:=decide (1≤k) && decide (k≤5)
def bw (k:Int):Bool:=decide (k=1) || decide (k=3) || decide (k=4) || decide (k=5)
def dG (k:Int):Bool:=decide (k=1) || decide (k=3) || decide (k=5)
def aY (k:Int):Bool:=decide (k=3)
def bI (k:Int):Bool:=decide (k=3) || decide (k=4)
def hOk (k:Int):Bool:=decide (k=2) || decide (k=4)
def bJ (k:Int):Bool:=decide (k=3)
def bZ (k:Int):Bool:=decide (k=5)
def iW (n:Int):Bool:=decide (0≤n) && decide (n<7)
def dT (x:Int)(is:Bool):Bool:=decide (0≤x) && decide (x≤if is then 1099511627776 else 0)
def iS (m:bM):Bool:=iW m.frm && iW m.tgt && decide (m.frm≠m.tgt)
def dW (m:bM):Bool:=dT m.index (bw m.kind) && dT m.logTerm (dG m.kind) && dT m.commit (aY m.kind) && dT m.round (bI m.kind)
def ky (m:bM):Bool:=(hOk m.kind || !m.ok) && decide (m.ents.length≤if bJ m.kind then 8 else 0) && decide (m.snap.length≤if bZ m.kind then 65536 else 0) && (!bZ m.kind || decide (0<m.snap.length)) && m.ents.all bT
def cx (m:bM):Bool:=fS m.kind && iS m && decide (1≤m.term) && decide (m.term≤1099511627776) && dW m && ky m
theorem gR (k:Int):k=1∨k=2∨k=3∨k=4∨k=5∨(fS k=false∧ ¬k=1∧ ¬k=2∧ ¬k=3∧ ¬k=4∧ ¬k=5):=by
 by_cases h:1≤k∧k≤5
 ·omega
 ·refine .inr (.inr (.inr (.inr (.inr ⟨?_,by omega,by omega,by omega,by omega,by omega⟩))));unfold fS;by_cases h1:1≤k
  ·rw[decide_eq_false (p:=k≤5) (by omega)];simp
  ·rw[decide_eq_false h1];rfl
def cS (w:World)(S:Nat→Prop)(A:Option Addr)(l:List UInt8):Prop:=0<l.length→ ∃b off,A=some ⟨b,off,none⟩∧S b∧ ∀i (h:i<l.length),w.cell? ⟨b,off+i,none⟩=some (.int .u8 l[i].toNat)
theorem cS.keep {w w':World}{S:Nat→Prop}{A:Option Addr}{l:List UInt8}(h:cS w S A l)(hk: ∀b,S b→w'.heap[b]? =w.heap[b]?):cS w' S A l:=fun hp=>by
 obtain⟨b,off,hA,hb,hc⟩:=h hp;exact⟨b,off,hA,hb,fun i hi=>(World.cell?_of_block (a:=⟨b,off+i,none⟩) (hk b hb)).trans (hc i hi)⟩
theorem cS.imp {w:World}{S S':Nat→Prop}{A:Option Addr}{l:List UInt8}(h:cS w S A l)(hS: ∀b,S b→S' b):cS w S' A l:=fun hp=>by
 obtain⟨b,off,hA,hb,hc⟩:=h hp;exact⟨b,off,hA,hS b hb,hc⟩
theorem cS.rd {w:World}{S:Nat→Prop}{A:Option Addr}{l:List UInt8}{c B:Nat}(h:cS w S A l)(hS: ∀b,S b→b<B)(hc:l.length≤c)(h63:c≤9223372036854775807)(hn:A=none→c=0):Rd w B (.slice A l.length c) l:=
 ⟨A,c,rfl,hc,⟨h63,hn⟩,fun hp=>by
  obtain⟨b,off,hA,hb,hx⟩:=h hp
  exact⟨b,off,hA,hS b hb,fun i hi=>hx i hi⟩⟩
theorem yw {w:World}{B:Nat}{v:Value}{l:List UInt8}(h:aA w B v l): ∃A c,v= .slice A l.length c∧l.length≤c∧c≤9223372036854775807∧(A=none→c=0)∧cS w (fun b=>b<w.heap.size∧B≤b) A l:=by
 have hr:=h.rdY;have hlt:=World.ownsRow.lt h;obtain⟨A,c,rfl,h1,⟨h2,h3⟩,h4⟩:=hr;refine⟨A,c,rfl,h1,h2,h3,fun hp=> ?_⟩;obtain⟨b,off,rfl,hb,hx⟩:=h4 hp;rcases h.2 with ⟨e,-⟩|⟨g,cap,cur,e,hB,-⟩
 ·cases e
 ·injection e with e1 e2 e3
  injection e1 with e1
  injection e1 with e1 e4
  subst e1;exact⟨b,off,rfl,⟨hb,hB⟩,hx⟩
structure bF (w:World)(S:Nat→Prop)(m:bM)(EA:Option Addr)(ec:Nat)(SA:Option Addr)(sc:Nat):Prop where
 ents:dZ w S EA m.ents
 ecap:m.ents.length≤ec
 enil:EA=none→ec=0
 elen:m.ents.length≤567493904640
 snap:cS w S SA m.snap
 scap:m.snap.length≤sc
 snil:SA=none→sc=0
 s63:sc≤9223372036854775807
 slen:m.snap.length≤140737488351232
 rk:Rng m.kind
 rf:Rng m.frm
 rg:Rng m.tgt
 rt:Rng m.term
 ri:Rng m.index
 rl:Rng m.logTerm
 rc:Rng m.commit
 rr:Rng m.round
section
variable {w w':World} {S S':Nat→Prop} {m:bM} {EA:Option Addr} {ec:Nat} {SA:Option Addr} {sc:Nat} {g:Nat}
theorem bF.keep (h:bF w S m EA ec SA sc)(hk: ∀b,S b→w'.heap[b]? =w.heap[b]?):bF w' S m EA ec SA sc:= { h with ents:=dC.keep dj h.ents hk,snap:=h.snap.keep hk }
theorem bF.imp (h:bF w S m EA ec SA sc)(hS: ∀b,S b→S' b):bF w S' m EA ec SA sc:= { h with ents:=dC.imp dj h.ents hS,snap:=h.snap.imp hS }
theorem bF.below {B:Nat}(h:bF w S m EA ec SA sc)(hS: ∀b,S b→b<B)(hb:Below B w w'):bF w' S m EA ec SA sc:=h.keep fun b hb'=>hb.block b (hS b hb')
theorem bF.up (h:bF w (fun b=>b<w.heap.size) m EA ec SA sc)(hb:Below w.heap.size w w'):bF w' (fun b=>b<w'.heap.size) m EA ec SA sc:=(h.below (fun _ h=>h) hb).imp fun _ h=>Nat.lt_of_lt_of_le h hb.size
def ct (w:World)(g:Nat)(m:bM)(EA:Option Addr)(ec:Nat)(SA:Option Addr)(sc:Nat):Prop:=w.heap[g]? =some (.cells #[.int .i64 m.kind,.int .i64 m.frm,.int .i64 m.tgt,.int .i64 m.term,.int .i64 m.index,.int .i64 m.logTerm,.int .i64 m.commit,.int .i64 m.round,.bool m.ok,.slice EA m.ents.length ec,.slice SA m.snap.length sc] 25 (0,0))
theorem ct.lt (h:ct w g m EA ec SA sc):g<w.heap.size:=(Array.getElem?_eq_some_iff.1 h).1
theorem ct.below (h:ct w g m EA ec SA sc)(hb:Below w.heap.size w w'):ct w' g m EA ec SA sc:=(hb.block g h.lt).trans h
theorem ct.g0 (h:ct w g m EA ec SA sc):w.cell? ⟨g,0,none⟩=some (.int .i64 m.kind):=Go.Joins.cell_of_block h 0
theorem ct.g1 (h:ct w g m EA ec SA sc):w.cell? ⟨g,1,none⟩=some (.int .i64 m.frm):=Go.Joins.cell_of_block h 1
theorem ct.g2 (h:ct w g m EA ec SA sc):w.cell? ⟨g,2,none⟩=some (.int .i64 m.tgt):=Go.Joins.cell_of_block h 2
theorem ct.g3 (h:ct w g m EA ec SA sc):w.cell? ⟨g,3,none⟩=some (.int .i64 m.term):=Go.Joins.cell_of_block h 3
theorem ct.g4 (h:ct w g m EA ec SA sc):w.cell? ⟨g,4,none⟩=some (.int .i64 m.index):=Go.Joins.cell_of_block h 4
theorem ct.g5 (h:ct w g m EA ec SA sc):w.cell? ⟨g,5,none⟩=some (.int .i64 m.logTerm):=Go.Joins.cell_of_block h 5
theorem ct.g6 (h:ct w g m EA ec SA sc):w.cell? ⟨g,6,none⟩=some (.int .i64 m.commit):=Go.Joins.cell_of_block h 6
theorem ct.g7 (h:ct w g m EA ec SA sc):w.cell? ⟨g,7,none⟩=some (.int .i64 m.round):=Go.Joins.cell_of_block h 7
theorem ct.g8 (h:ct w g m EA ec SA sc):w.cell? ⟨g,8,none⟩=some (.bool m.ok):=Go.Joins.cell_of_block h 8
theorem ct.g9 (h:ct w g m EA ec SA sc):w.cell? ⟨g,9,none⟩=some (.slice EA m.ents.length ec):=Go.Joins.cell_of_block h 9
theorem ct.g10 (h:ct w g m EA ec SA sc):w.cell? ⟨g,10,none⟩=some (.slice SA m.snap.length sc):=Go.Joins.cell_of_block h 10
end
theorem aw {ops:Array Oper}{rest:List Oper}{o:Oper}{a:Act}{w:World}{Q:Exit→Act→World→Prop}(hw:Region.wanted o (yielded ops a.tmps)=true)(x:Operand)(ho:o.op= .load 25 x)
  (g:Nat) (hx:a.eval x= .pointer (some ⟨g,0,none⟩)) (cs:Array Value) (fr:Nat×Nat) (hg:w.heap[g]? =some (.cells cs 25 fr)) (hn:cs.size=11)
  (h:wpList Tryz.prog ops Q rest (a.put o.dst (.agg cs)) w):wpList Tryz.prog ops Q (o::rest) a w:=
 wpList_step fun K hK=>by
  rw[hw,if_pos rfl];exact wp_load_row 25 x ho g hx 25 cs fr _ hg Tryz.underlying25 rfl (by rw[hn];kernel_rfl) (hK _ _ h)
theorem dm (l f:Int)(w:World):Calls Tryz.prog 47 #[.int .i64 l,.int .i64 f] w fun e w'=>e= .returned (.bool (bits .and .i64 l f != 0))∧w'=w:=by
 go_enter Tryz.func47,Tryz.ntmps47;go_wp2_with fail;go_ret;exact⟨rfl,rfl⟩
theorem gq (l f n:Int)(w:World):Calls Tryz.prog 46 #[.int .i64 l,.int .i64 f,.int .i64 n] w fun e w'=>e= .returned (.int .i64 (if(bits .and .i64 l f != 0)=true then n else 0))∧w'=w:=by
 go_enter Tryz.func46,Tryz.ntmps46;go_wp2_with fail;refine(dm l f w).mono ?_;rintro q u ⟨rfl,hw⟩;replace hw:=hw.symm;subst hw;cases hb:(bits .and .i64 l f != 0)
 ·go_wp2_with fail;go_ret;exact⟨rfl,rfl⟩
 ·go_wp2_with fail;go_ret;exact⟨rfl,rfl⟩
theorem lr (n:Int)(w:World):Calls Tryz.prog 44 #[.int .i64 n] w fun e w'=>e= .returned (.bool (iW n))∧w'=w:=by
 unfold iW;by_cases h0:0≤n
 ·by_cases h7:n<7
  ·have d1:decide (n≥0)=true:=decide_eq_true h0;have d2:decide (n<7)=true:=decide_eq_true h7;rw[decide_eq_true h0,decide_eq_true h7];go_enter Tryz.func44,Tryz.ntmps44;go_wp2_with fail;go_ret;exact⟨rfl,rfl⟩
  ·have d1:decide (n≥0)=true:=decide_eq_true h0;have d2:decide (n<7)=false:=decide_eq_false h7;rw[decide_eq_true h0,decide_eq_false h7];go_enter Tryz.func44,Tryz.ntmps44;go_wp2_with fail;go_ret;exact⟨rfl,rfl⟩
 ·have d1:decide (n≥0)=false:=decide_eq_false h0;rw[decide_eq_false h0];go_enter Tryz.func44,Tryz.ntmps44;go_wp2_with fail;go_ret;exact⟨rfl,rfl⟩
theorem gS (k:Int)(w:World):Calls Tryz.prog 19 #[.int .i64 k] w fun e w'=>e= .returned (.tuple #[.int .i64 (bl k),.bool (fS k)])∧w'=w:=by
 rcases gR k with rfl|rfl|rfl|rfl|rfl|⟨hk,h1,h2,h3,h4,h5⟩
 iterate 5
  ·go_enter Tryz.func19,Tryz.ntmps19;go_wp2_with fail
   go_ret2
   exact⟨rfl,rfl⟩
 have hb:bl k=0:=by unfold bl;rw[if_neg h1,if_neg h2,if_neg h3,if_neg h4,if_neg h5]
 rw[hb,hk];have e1:(k == 1)=false:=beq_false_of_ne h1;have e2:(k == 2)=false:=beq_false_of_ne h2;have e3:(k == 3)=false:=beq_false_of_ne h3;have e4:(k == 4)=false:=beq_false_of_ne h4;have e5:(k == 5)=false:=beq_false_of_ne h5;clear h1 h2 h3 h4 h5 hb hk;go_enter Tryz.func19,Tryz.ntmps19;go_wp2_with fail
 go_ret2
 exact⟨rfl,rfl⟩
theorem aq {ops:Array Oper}{rest:List Oper}{o:Oper}{a:Act}{w:World}{Q:Exit→Act→World→Prop}(hw:Region.wanted o (yielded ops a.tmps)=true)(ty:TypeId)(x y:Operand)(ho:o.op= .store ty x y)(hd:o.dst=none)
  (g off:Nat) (hx:a.eval x= .pointer (some ⟨g,off,none⟩)) (v:Value) (cells:Array Value) (hy:a.eval y=v) (hc:v.cells=cells) {b:bA} {JA:Option Addr} {jc:Nat} {JA':Option Addr} {jc':Nat} {FA:Option Addr} {fc:Nat} {FA':Option Addr} {fc':Nat} {MA:Option Addr} {mc:Nat} (hg:bs w g b JA jc JA' jc' FA fc FA' fc' MA mc)
  (e:bA) (IA:Option Addr) (ic:Nat) (IA':Option Addr) (ic':Nat) (DA:Option Addr) (dc:Nat) (DA':Option Addr) (dc':Nat) (LA:Option Addr) (lc:Nat) (hn:off+cells.size≤17)
  (hi:(Tryz.prog.info? ty).map (·.size)=some cells.size) (h1:cells.all (·.oneCell')=true) (hC:kt #[.int .i64 b.term,.int .i64 b.kind,.string b.coll,.string b.to,.int .i64 b.id.kind,.int .i64 b.id.num,.string b.id.text,.slice JA b.id.items.length jc,.slice JA' b.id.names.length jc',.int .i64 b.doc.kind,.int .i64 b.doc.num,.string b.doc.text,.slice FA b.doc.items.length fc,.slice FA' b.doc.names.length fc',.slice MA b.dels.length mc,.int .i64 b.session,.int .i64 b.number] off cells.toList= #[.int .i64 e.term,.int .i64 e.kind,.string e.coll,.string e.to,.int .i64 e.id.kind,.int .i64 e.id.num,.string e.id.text,.slice IA e.id.items.length ic,.slice IA' e.id.names.length ic',.int .i64 e.doc.kind,.int .i64 e.doc.num,.string e.doc.text,.slice DA e.doc.items.length dc,.slice DA' e.doc.names.length dc',.slice LA e.dels.length lc,.int .i64 e.session,.int .i64 e.number])
  (h: ∀w',Hid (bs w' g e IA ic IA' ic' DA dc DA' dc' LA lc)→Hid (au w w' g∧w'.heap.size=w.heap.size)→wpList Tryz.prog ops Q rest a w'):wpList Tryz.prog ops Q (o::rest) a w:=
 ah hw ty x y ho hd g off hx v cells hy hc _ _ 46 hg hn hi h1 hC fun w' h1 h2 h3=>h w' (hid h1) (hid ⟨h2,h3⟩)
theorem a8 {ops:Array Oper}{rest:List Oper}{o:Oper}{a:Act}{w:World}{Q:Exit→Act→World→Prop}(hw:Region.wanted o (yielded ops a.tmps)=true)(x y:Operand)(ho:o.op= .store 46 x y)(hd:o.dst=none)
  (g:Nat) (hx:a.eval x= .pointer (some ⟨g,0,none⟩)) (e:bA) (IA:Option Addr) (ic:Nat) (IA':Option Addr) (ic':Nat) (DA:Option Addr) (dc:Nat) (DA':Option Addr) (dc':Nat) (LA:Option Addr) (lc:Nat) (hy:a.eval y= .agg #[.int .i64 e.term,.int .i64 e.kind,.string e.coll,.string e.to,.int .i64 e.id.kind,.int .i64 e.id.num,.string e.id.text,.slice IA e.id.items.length ic,.slice IA' e.id.names.length ic',.int .i64 e.doc.kind,.int .i64 e.doc.num,.string e.doc.text,.slice DA e.doc.items.length dc,.slice DA' e.doc.names.length dc',.slice LA e.dels.length lc,.int .i64 e.session,.int .i64 e.number]) (hg:w.heap[g]? =some (.cells #[.int .i64 0,.int .i64 0,.string ⟨#[]⟩,.string ⟨#[]⟩,.int .i64 0,.int .i64 0,.string ⟨#[]⟩,.slice none 0 0,.slice none 0 0,.int .i64 0,.int .i64 0,.string ⟨#[]⟩,.slice none 0 0,.slice none 0 0,.slice none 0 0,.int .i64 0,.int .i64 0] 46 (0,0)))
  (h: ∀w',Hid (bs w' g e IA ic IA' ic' DA dc DA' dc' LA lc)→Hid (au w w' g∧w'.heap.size=w.heap.size)→wpList Tryz.prog ops Q rest a w'):wpList Tryz.prog ops Q (o::rest) a w:=
 ah hw 46 x y ho hd g 0 hx _ #[.int .i64 e.term,.int .i64 e.kind,.string e.coll,.string e.to,.int .i64 e.id.kind,.int .i64 e.id.num,.string e.id.text,.slice IA e.id.items.length ic,.slice IA' e.id.names.length ic',.int .i64 e.doc.kind,.int .i64 e.doc.num,.string e.doc.text,.slice DA e.doc.items.length dc,.slice DA' e.doc.names.length dc',.slice LA e.dels.length lc,.int .i64 e.session,.int .i64 e.number] hy rfl _ _ 46 hg (by simp) (by kernel_rfl) (by simp[Value.oneCell']) (by kernel_rfl) fun w' h1 h2 h3=>h w' (hid h1) (hid ⟨h2,h3⟩)
theorem aV {ops:Array Oper}{rest:List Oper}{o:Oper}{a:Act}{w:World}{Q:Exit→Act→World→Prop}(hw:Region.wanted o (yielded ops a.tmps)=true)(x y:Operand)(ho:o.op= .store 46 x y)(hd:o.dst=none)
  (g:Nat) (hx:a.eval x= .pointer (some ⟨g,0,none⟩)) (hy:a.eval y= .agg #[.int .i64 0,.int .i64 0,.string ⟨#[]⟩,.string ⟨#[]⟩,.int .i64 0,.int .i64 0,.string ⟨#[]⟩,.slice none 0 0,.slice none 0 0,.int .i64 0,.int .i64 0,.string ⟨#[]⟩,.slice none 0 0,.slice none 0 0,.slice none 0 0,.int .i64 0,.int .i64 0]) (hg:w.heap[g]? =some (.cells #[.int .i64 0,.int .i64 0,.string ⟨#[]⟩,.string ⟨#[]⟩,.int .i64 0,.int .i64 0,.string ⟨#[]⟩,.slice none 0 0,.slice none 0 0,.int .i64 0,.int .i64 0,.string ⟨#[]⟩,.slice none 0 0,.slice none 0 0,.slice none 0 0,.int .i64 0,.int .i64 0] 46 (0,0)))
  (h: ∀w',Hid (w'.heap[g]? =some (.cells #[.int .i64 0,.int .i64 0,.string ⟨#[]⟩,.string ⟨#[]⟩,.int .i64 0,.int .i64 0,.string ⟨#[]⟩,.slice none 0 0,.slice none 0 0,.int .i64 0,.int .i64 0,.string ⟨#[]⟩,.slice none 0 0,.slice none 0 0,.slice none 0 0,.int .i64 0,.int .i64 0] 46 (0,0)))→Hid (au w w' g)→wpList Tryz.prog ops Q rest a w'):wpList Tryz.prog ops Q (o::rest) a w:=
 ah hw 46 x y ho hd g 0 hx _ #[.int .i64 0,.int .i64 0,.string ⟨#[]⟩,.string ⟨#[]⟩,.int .i64 0,.int .i64 0,.string ⟨#[]⟩,.slice none 0 0,.slice none 0 0,.int .i64 0,.int .i64 0,.string ⟨#[]⟩,.slice none 0 0,.slice none 0 0,.slice none 0 0,.int .i64 0,.int .i64 0] hy rfl _ _ 46 hg (by simp) (by kernel_rfl) (by simp[Value.oneCell']) (by kernel_rfl) fun w' h1 h2 _=>h w' (hid h1) (hid h2)
theorem az {fn:Func}{p:Tmp}(h:fn.results= #[.cell p 46])(tmps:Array Value)(w:World)(g:Nat)(t:TypeId)(cs:Array Value)(fr:Nat×Nat)
  (hp:tmps.getD p undef= .pointer (some ⟨g,0,none⟩)) (hg:w.heap[g]? =some (.cells cs t fr)) (hn:cs.size=17):
  (results fn tmps).run Tryz.prog w= .ok (.agg cs) w:=
 results_cell_row h tmps w g t cs fr _ hp hg Tryz.underlying46 rfl (by rw[hn];kernel_rfl)
theorem uQ (w:World):aA (w.alloc (.cells #[] 5)) w.heap.size (.slice (some ⟨w.heap.size,0,none⟩) 0 0) []:=World.ownsRow_made w #[] 0 (Nat.le_refl _) (by decide) rfl
theorem nH (a:Addr)(n c:Nat)(w:World):(binOp .eql 23 (.slice (some a) n c) (.slice none 0 0)).run Tryz.prog w= .ok (.bool false) w:=by kernel_rfl
theorem sB (w:World):(binOp .eql 23 (.slice none 0 0) (.slice none 0 0)).run Tryz.prog w= .ok (.bool true) w:=by kernel_rfl
theorem sQ (v:Value)(l:List UInt8)(w:World)(hr:Rd w w.heap.size v l)(hl:l.length≤140737488351232):Calls Tryz.prog 29 #[v] w (kr l w):=by
 have HR:=hid hr;obtain⟨A,cap,rfl,hcap,⟨hc2,hA⟩,hc⟩:=hr;have HL:=hid hl
 cases A with
 |none=>
  have hll:l= []:=by
   match l,hc with
   | [],_=>rfl
   |b::r,hc=>obtain⟨_,_,h,_⟩:=hc (by simp);cases h
  subst hll;obtain rfl:=hA rfl;clear hc;have he:=sB w;go_enter Tryz.func29,Tryz.ntmps29;go_wp2_with fail;go_ret
  exact⟨_,rfl,World.ownsRow_nil _ _ _ _,Below.refl _ _⟩
 |some ad=>
  have hb0:Below w.heap.size w (w.alloc (.cells #[] 5)):=(Below.refl _ _).alloc (Nat.le_refl _) _;have HO0:=hid (uQ w);have HR0:=hid (HR.out.keep hb0);have HB0:=hid hb0;have hz0:=hb0.size;clear hb0 hc hA;have he:=nH ad l.length cap w;go_enter Tryz.func29,Tryz.ntmps29;go_wp2_with(at_builtin;go_must (refine nK rfl _ _ rfl w.heap.size _ [] rfl HO0.out _ _ l rfl HR0.out hz0 (by have:=HL.out;simp only[List.length_nil];omega) ?_));intro v1 w1 hv1 hg1;have hb1:=sR HB0.out HO0.out hz0 hg1;have HV1:=hid hv1;have HB1:=hid hb1;clear hv1 hb1 hg1;go_wp2_with fail;go_ret;exact⟨_,rfl,HV1.out,HB1.out⟩
end Go.Proofs.YtgfidiocmiolpaaGreat
