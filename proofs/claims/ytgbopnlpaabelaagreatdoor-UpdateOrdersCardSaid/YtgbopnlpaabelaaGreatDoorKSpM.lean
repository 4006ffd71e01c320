/- Whether a value is none, and whether an operator may be, by the document. -/
import Derived.Test.YtgbopnlpaabelaaGreatDoorKTrE
import Derived.Test.YtgbopnlpaabelaaGreatDoorKRefM
import Derived.Test.YtgbopnlpaabelaaGreatDoorKSpJ
import Derived.Test.YtgbopnlpaabelaaGreatDoorKPathA
import Derived.Test.YtgbopnlpaabelaaGreatDoorKTrA
import Derived.Test.YtgbopnlpaabelaaGreatDoorKValF
import Derived.Test.YtgbopnlpaabelaaGreatDoorKSpD
import Derived.Test.YtgbopnlpaabelaaGreatDoorKRefO
import Derived.Test.YtgbopnlpaabelaaGreatDoorKTrI
import Derived.Lib.Join
import Derived.Outline
import Derived.StillTailTactics
import Derived.Lib.DecodeN
import Derived.Laws.AppendOwnNone
import Derived.Lib.AppendZerosOnto
import Derived.Lib.AppendZeros
import Derived.Lib.SliceRun
import Derived.Lib.OthersKept
import Derived.Laws.OwnMore
set_option maxHeartbeats 64000000
set_option maxRecDepth 100000
set_option linter.unusedVariables false
set_option linter.unusedSimpArgs false
namespace Go.Proofs.YtgbopnlpaabelaaGreatDoor
open Lib (hid)
open Go.RowKit
theorem tb (S:Nat→Prop)(t:VT)(v:Value)(w:World)(hS: ∀b,S b→b<w.heap.size)(h:LV w S t v):
  Calls Tryz.prog 52 #[v] w fun e w'=>e= .returned (.bool (dO t))∧Below w.heap.size w w':=by
 obtain⟨A,ca,A',ca',rfl,-,-,-,v1,hb⟩:=bY hS h;have q0:=v1.x.c0;have q1:=v1.x.c1;have q2:=v1.x.c2;have q3:=v1.x.c3;have q4:=v1.x.c4;have HB:=hid hb;have HS:=hid (iI S (ac t) t (.mk 0 0 ⟨#[]⟩ [] []) _ (.agg #[.int .i64 0,.int .i64 0,.string ⟨#[]⟩,.slice none 0 0,.slice none 0 0]) _ (Nat.le_refl _) v1.s v1.v (zU _ _));clear h v1 hb;go_enter Tryz.func52,Tryz.ntmps52;go_wp2_with fail;refine HS.out.mono ?_;rintro e u ⟨⟨r,rfl,hr⟩,hb2⟩;have HB2:=hid (HB.out.trans (hb2.mono HB.out.size));have HR:=hid hr;clear hb2 hr HS;go_wp2_with fail;go_ret;refine⟨?_,HB2.out⟩;have e:r=dO t:=by rw[Bool.eq_iff_iff,HR.out,gj]
 rw[←e];rfl
theorem oX (S:Nat→Prop)(o:OpT)(cs:Array Value)(w:World)(hS: ∀b,S b→b<w.heap.size)(h:OpL w S o cs)(hd:ac o.val≤4611686018427387903):
  Calls Tryz.prog 26 #[.agg cs] w fun e w'=>e= .returned (.bool (bc o))∧Below w.heap.size w w':=by
 obtain⟨PA,pc,a,b,c,d,e,TA,tc,rfl,hv,hp,ht,hpc,htc,hk,hpl,htl⟩:=h;obtain⟨VA,vc,VA',vc',hvs,-⟩:=hv.shape;simp only[Value.agg.injEq,Array.mk.injEq,List.cons.injEq,and_true]at hvs;obtain⟨rfl,rfl,rfl,rfl,rfl⟩:=hvs;obtain⟨w1,hw1⟩: ∃W,W=w.alloc (.cells #[.int .i64 o.kind,.slice PA o.path.length pc,.int .i64 o.val.kind,.int .i64 o.val.num,.string o.val.text,.slice VA o.val.items.length vc,.slice VA' o.val.names.length vc',.slice TA o.to.length tc] 51):=⟨_,rfl⟩;have hbk:w1.heap[w.heap.size]? =some (.cells #[.int .i64 o.kind,.slice PA o.path.length pc,.int .i64 o.val.kind,.int .i64 o.val.num,.string o.val.text,.slice VA o.val.items.length vc,.slice VA' o.val.names.length vc',.slice TA o.to.length tc] 51 (0,0)):=by rw[hw1];exact heap_alloc_new w _
 have hb1:Below w.heap.size w w1:=by rw[hw1];exact(Below.refl _ _).alloc (Nat.le_refl _) _
 have y0:=Go.Joins.cell_of_block hbk 0;have y1:=Go.Joins.cell_of_block hbk 1;have y2:=Go.Joins.cell_of_block hbk 2;have y3:=Go.Joins.cell_of_block hbk 3;have y4:=Go.Joins.cell_of_block hbk 4;have y5:=Go.Joins.cell_of_block hbk 5;have y6:=Go.Joins.cell_of_block hbk 6;have y7:=Go.Joins.cell_of_block hbk 7;have hS1: ∀b,S b→b<w1.heap.size:=fun b hb=>Nat.lt_of_lt_of_le (hS b hb) hb1.size;have hv1:=hv.keep fun b hb=>hb1.block b (hS b hb);have HMA:=hid (oL PA pc o.path w1 S (hp.keep fun b hb=>hb1.block b (hS b hb)) (by omega));have HCK:=hid (sY S o.val _ w1 hd hS1 hv1);have HNO:=hid (tb S o.val _ w1 hS1 hv1);have HBK:=hid hbk;have HB1:=hid hb1;have HW1:=hid hw1;have HS:=hid hS;have HT:=hid ht;have HTL:=hid htl;obtain⟨r,hr⟩: ∃r,r=bc o:=⟨_,rfl⟩;have HR:=hid hr;rw[←hr];clear hbk hb1 hS1 hv1 hv hp ht hpc htc hk hpl htl hd hS hr;go_enter Tryz.func26,Tryz.ntmps26;go_wp2_with fail;rw[←hw1];clear hw1;refine HMA.out.mono ?_;rintro e w2 ⟨rfl,rfl⟩;clear HMA;cases hmp:ce o.path
 ·go_wp2_with fail;go_ret;exact⟨by rw[HR.out];unfold bc;rw[hmp];rfl,HB1.out⟩
 have HMP:=hid hmp;clear hmp;obtain⟨k,hk⟩: ∃k,k=o.kind:=⟨_,rfl⟩;rw[←hk]at y0;have HK:=hid hk.symm;clear hk;by_cases k2:k=2
 ·subst k2;go_wp2_with fail;refine HNO.out.mono ?_;rintro e w3 ⟨rfl,hb3⟩;have HB3:=hid (HB1.out.trans (hb3.mono HB1.out.size));have HBK3:=(hb3.block _ (Array.getElem?_eq_some_iff.1 HBK.out).1).trans HBK.out;have z7:=Go.Joins.cell_of_block HBK3 7;obtain⟨b1,d1⟩: ∃b,dO o.val=b:=⟨_,rfl⟩;obtain⟨b2,d2⟩: ∃b,((o.to.length:Int) == 0)=b:=⟨_,rfl⟩
  have HE:Hid (bc o=(b1 && b2)):=hid (by
   rw[←d1,←d2];unfold bc;rw[HMP.out,HK.out];rw[Bool.eq_iff_iff]
   simp)
  clear hb3 HBK3 HNO;cases b1<;>cases b2
  all_goals
   go_wp2_with fail;go_ret;exact⟨by rw[HR.out,HE.out];rfl,HB3.out⟩
 have e2:=beq_false_of_ne k2;by_cases k6:k=6
 ·subst k6;go_wp2_with fail;refine HNO.out.mono ?_;rintro e w3 ⟨rfl,hb3⟩;have HB3:=hid (HB1.out.trans (hb3.mono HB1.out.size));have HBK3:=(hb3.block _ (Array.getElem?_eq_some_iff.1 HBK.out).1).trans HBK.out;have z7:=Go.Joins.cell_of_block HBK3 7;have HTO:=hid (oL TA tc o.to w3 S (HT.out.keep fun b hb=>HB3.out.block b (HS.out b hb)) (by have:=HTL.out;omega));obtain⟨b1,d1⟩: ∃b,dO o.val=b:=⟨_,rfl⟩;obtain⟨b2,d2⟩: ∃b,ce o.to=b:=⟨_,rfl⟩
  have HE:Hid (bc o=(b1 && b2)):=hid (by
   rw[←d1,←d2];unfold bc;rw[HMP.out,HK.out];rw[Bool.eq_iff_iff]
   simp)
  rw[d2]at HTO;clear hb3 HBK3 HNO d2;cases b1
  ·go_wp2_with fail;go_ret;exact⟨by rw[HR.out,HE.out];rfl,HB3.out⟩
  ·go_wp2_with fail;refine HTO.out.mono ?_;rintro e w4 ⟨rfl,rfl⟩;cases b2
   all_goals
    go_wp2_with fail;go_ret;exact⟨by rw[HR.out,HE.out];rfl,HB3.out⟩
 have e6:=beq_false_of_ne k6;by_cases k3:k=3
 ·subst k3;by_cases hv3:o.val.kind=3
  ·have e3:(o.val.kind == 3)=true:=by rw[hv3];rfl
   have HV3:=hid hv3;clear hv3;go_wp2_with fail;refine HCK.out.mono ?_;rintro e w3 ⟨rfl,hb3⟩;have HB3:=hid (HB1.out.trans (hb3.mono HB1.out.size));have HBK3:=(hb3.block _ (Array.getElem?_eq_some_iff.1 HBK.out).1).trans HBK.out;have z7:=Go.Joins.cell_of_block HBK3 7;obtain⟨b1,d1⟩: ∃b,(az o.val == 0)=b:=⟨_,rfl⟩;obtain⟨b2,d2⟩: ∃b,((o.to.length:Int) == 0)=b:=⟨_,rfl⟩
   have HE:Hid (bc o=(b1 && b2)):=hid (by
    rw[←d1,←d2];unfold bc;rw[HMP.out,HK.out,HV3.out];rw[Bool.eq_iff_iff]
    simp)
   clear hb3 HBK3 HCK;cases b1<;>cases b2
   all_goals
    go_wp2_with fail;go_ret;exact⟨by rw[HR.out,HE.out];rfl,HB3.out⟩
  ·have e3:(o.val.kind == 3)=false:=by simpa using hv3
   have HV3:=hid hv3;clear hv3;go_wp2_with fail;go_ret;exact⟨by rw[HR.out];unfold bc;rw[HK.out];simp[HV3.out],HB1.out⟩
 have e3:=beq_false_of_ne k3;by_cases k1:k=1
 ·subst k1;go_wp2_with fail;refine HCK.out.mono ?_;rintro e w3 ⟨rfl,hb3⟩;have HB3:=hid (HB1.out.trans (hb3.mono HB1.out.size));have HBK3:=(hb3.block _ (Array.getElem?_eq_some_iff.1 HBK.out).1).trans HBK.out;have z7:=Go.Joins.cell_of_block HBK3 7;obtain⟨b1,d1⟩: ∃b,(az o.val == 0)=b:=⟨_,rfl⟩;obtain⟨b2,d2⟩: ∃b,((o.to.length:Int) == 0)=b:=⟨_,rfl⟩
  have HE:Hid (bc o=(b1 && b2)):=hid (by
   rw[←d1,←d2];unfold bc;rw[HMP.out,HK.out];rw[Bool.eq_iff_iff]
   simp)
  clear hb3 HBK3 HCK;cases b1<;>cases b2
  all_goals
   go_wp2_with fail;go_ret;exact⟨by rw[HR.out,HE.out];rfl,HB3.out⟩
 have e1:=beq_false_of_ne k1;by_cases k4:k=4
 ·subst k4;go_wp2_with fail;refine HCK.out.mono ?_;rintro e w3 ⟨rfl,hb3⟩;have HB3:=hid (HB1.out.trans (hb3.mono HB1.out.size));have HBK3:=(hb3.block _ (Array.getElem?_eq_some_iff.1 HBK.out).1).trans HBK.out;have z7:=Go.Joins.cell_of_block HBK3 7;obtain⟨b1,d1⟩: ∃b,(az o.val == 0)=b:=⟨_,rfl⟩;obtain⟨b2,d2⟩: ∃b,((o.to.length:Int) == 0)=b:=⟨_,rfl⟩
  have HE:Hid (bc o=(b1 && b2)):=hid (by
   rw[←d1,←d2];unfold bc;rw[HMP.out,HK.out];rw[Bool.eq_iff_iff]
   simp)
  clear hb3 HBK3 HCK;cases b1<;>cases b2
  all_goals
   go_wp2_with fail;go_ret;exact⟨by rw[HR.out,HE.out];rfl,HB3.out⟩
 have e4:=beq_false_of_ne k4;by_cases k5:k=5
 ·subst k5;go_wp2_with fail;refine HCK.out.mono ?_;rintro e w3 ⟨rfl,hb3⟩;have HB3:=hid (HB1.out.trans (hb3.mono HB1.out.size));have HBK3:=(hb3.block _ (Array.getElem?_eq_some_iff.1 HBK.out).1).trans HBK.out;have z7:=Go.Joins.cell_of_block HBK3 7;obtain⟨b1,d1⟩: ∃b,(az o.val == 0)=b:=⟨_,rfl⟩;obtain⟨b2,d2⟩: ∃b,((o.to.length:Int) == 0)=b:=⟨_,rfl⟩
  have HE:Hid (bc o=(b1 && b2)):=hid (by
   rw[←d1,←d2];unfold bc;rw[HMP.out,HK.out];rw[Bool.eq_iff_iff]
   simp)
  clear hb3 HBK3 HCK;cases b1<;>cases b2
  all_goals
   go_wp2_with fail;go_ret;exact⟨by rw[HR.out,HE.out];rfl,HB3.out⟩
 have e5:=beq_false_of_ne k5;by_cases k7:k=7
 ·subst k7;go_wp2_with fail;refine HCK.out.mono ?_;rintro e w3 ⟨rfl,hb3⟩;have HB3:=hid (HB1.out.trans (hb3.mono HB1.out.size));have HBK3:=(hb3.block _ (Array.getElem?_eq_some_iff.1 HBK.out).1).trans HBK.out;have z7:=Go.Joins.cell_of_block HBK3 7;obtain⟨b1,d1⟩: ∃b,(az o.val == 0)=b:=⟨_,rfl⟩;obtain⟨b2,d2⟩: ∃b,((o.to.length:Int) == 0)=b:=⟨_,rfl⟩
  have HE:Hid (bc o=(b1 && b2)):=hid (by
   rw[←d1,←d2];unfold bc;rw[HMP.out,HK.out];rw[Bool.eq_iff_iff]
   simp)
  clear hb3 HBK3 HCK;cases b1<;>cases b2
  all_goals
   go_wp2_with fail;go_ret;exact⟨by rw[HR.out,HE.out];rfl,HB3.out⟩
 have e7:=beq_false_of_ne k7;by_cases k8:k=8
 ·subst k8;go_wp2_with fail;refine HCK.out.mono ?_;rintro e w3 ⟨rfl,hb3⟩;have HB3:=hid (HB1.out.trans (hb3.mono HB1.out.size));have HBK3:=(hb3.block _ (Array.getElem?_eq_some_iff.1 HBK.out).1).trans HBK.out;have z7:=Go.Joins.cell_of_block HBK3 7;obtain⟨b1,d1⟩: ∃b,(az o.val == 0)=b:=⟨_,rfl⟩;obtain⟨b2,d2⟩: ∃b,((o.to.length:Int) == 0)=b:=⟨_,rfl⟩
  have HE:Hid (bc o=(b1 && b2)):=hid (by
   rw[←d1,←d2];unfold bc;rw[HMP.out,HK.out];rw[Bool.eq_iff_iff]
   simp)
  clear hb3 HBK3 HCK;cases b1<;>cases b2
  all_goals
   go_wp2_with fail;go_ret;exact⟨by rw[HR.out,HE.out];rfl,HB3.out⟩
 have e8:=beq_false_of_ne k8
 have HN:Hid (bc o=false):=hid (by
  unfold bc;rw[HK.out]
  simp[k3,k1,k4,k5,k7,k8,k2,k6])
 clear k3 k1 k4 k5 k7 k8 k2 k6;go_wp2_with fail;go_ret;exact⟨by rw[HR.out,HN.out];rfl,HB1.out⟩
def ow (o:OpT):Bool:=di o.val || decide (50<o.path.length) || decide (50<o.to.length)
def cL (s:bg):Bool:=(s.ops.take 60).any ow || decide (50<s.ops.length) || di s.doc
theorem sX {s:bg}{k:Nat}(hk:k<s.ops.length)(h60:k<60)(h:ow s.ops[k]=true):cL s=true:=by
 unfold cL;rw[List.any_eq_true.2 ⟨s.ops[k],List.mem_take_iff_getElem.2 ⟨k,by omega,rfl⟩,h⟩];rfl
theorem rE {s:bg}{k:Nat}(h: ∀j (hj:j<s.ops.length),j<k→ow s.ops[j]=false)(hk:k=s.ops.length∨60≤k):cL s=(decide (50<s.ops.length) || di s.doc):=by
 unfold cL
 rw[show(s.ops.take 60).any ow=false from List.any_eq_false.2 fun x hx=>by
  obtain⟨j,hj,rfl⟩:=List.mem_take_iff_getElem.1 hx;rw[h j (by omega) (by omega)]
  simp]
 rfl
theorem pB {s:bg}(h:cL s=false):s.ops.length≤50∧ac s.doc≤41∧ ∀o∈s.ops,ac o.val≤41∧o.path.length≤50∧o.to.length≤50:=by
 unfold cL at h;simp only[Bool.or_eq_false_iff,decide_eq_false_iff_not]at h;obtain⟨⟨h1,h2⟩,h3⟩:=h;refine⟨by omega,gP h3,fun o ho=> ?_⟩;rw[List.take_of_length_le (by omega)]at h1;have h4:=List.any_eq_false.1 h1 o ho;unfold ow at h4;simp only[Bool.or_eq_true,not_or,decide_eq_true_eq,Bool.not_eq_true]at h4;exact⟨gP h4.1.1,by omega,by omega⟩
theorem rA (S:Nat→Prop)(s:bg)(cs:Array Value)(w:World)(hS: ∀b,S b→b<w.heap.size)(h:cw w S s cs):
  Calls Tryz.prog 10 #[.agg cs] w fun e w'=>e= .returned (.bool (cL s))∧Below w.heap.size w w':=by
 have HL:=hid h;obtain⟨DA,dc,DA',dc',OA,oc,rfl,hv,ho,hoc,hol⟩:=h;obtain⟨w1,hw1⟩: ∃W,W=w.alloc (.cells #[.bool s.rep,.int .i64 s.doc.kind,.int .i64 s.doc.num,.string s.doc.text,.slice DA s.doc.items.length dc,.slice DA' s.doc.names.length dc',.slice OA s.ops.length oc] 28):=⟨_,rfl⟩;have hbk:nO w1 w.heap.size s DA dc DA' dc' OA oc:=by rw[hw1];exact heap_alloc_new w _
 have hb1:Below w.heap.size w w1:=by rw[hw1];exact(Below.refl _ _).alloc (Nat.le_refl _) _
 have hz1:w1.heap.size=w.heap.size+1:=by rw[hw1];simp
 have HB1:=hid hb1;have HBK:Hid (∀W,Below w1.heap.size w1 W→nO W w.heap.size s DA dc DA' dc' OA oc):=hid fun W hW=>hbk.below hW;have HO:=hid ho;have HV:=hid hv;have HS:=hid hS;have HOL:=hid hol;have HZ1:=hid hz1;obtain⟨r,hr⟩: ∃r,r=cL s:=⟨_,rfl⟩;have HR:=hid hr;rw[←hr];have HW1:=hid hw1;clear hbk hb1 hv ho hoc hol hS hr hz1;go_enter Tryz.func10,Tryz.ntmps10;go_wp2_with fail;rw[←hw1];clear hw1
 go_loopw [3] (fun i wr=> ∃k:Nat,i= .int .i64 k∧k≤s.ops.length∧k≤60∧Hid (Below w1.heap.size w1 wr)∧Hid (∀j (h:j<s.ops.length),j<k→ow s.ops[j]=false)) (fun i _=>s.ops.length - (intOf i).toNat)
 case atStart=>exact⟨0,rfl,by omega,by omega,hid (Below.refl _ _),hid fun j _ h=>absurd h (by omega)⟩
 case round=>
  obtain⟨k,rfl,hk,hk6,HB,HJ⟩:=hrel;have hbw:Below w.heap.size w wr:=HB1.out.trans (HB.out.mono HB1.out.size);have hbkw:=HBK.out wr HB.out;have y1:=Go.Joins.cell_of_block hbkw 1;have y2:=Go.Joins.cell_of_block hbkw 2;have y3:=Go.Joins.cell_of_block hbkw 3;have y4:=Go.Joins.cell_of_block hbkw 4;have y5:=Go.Joins.cell_of_block hbkw 5;have y6:=Go.Joins.cell_of_block hbkw 6;have HBW:=hid hbw;by_cases hlt:k<s.ops.length∧k<60
  ·obtain⟨hlt,h60⟩:=hlt;have d1:decide ((k:Int)<(s.ops.length:Int))=true:=decide_eq_true (by omega);have d2:decide ((k:Int)<60)=true:=decide_eq_true (by omega);have hS2: ∀b,S b→b<wr.heap.size:=fun b hb=>by have:=HS.out b hb;have:=hbw.size;omega
   obtain⟨p,off,rfl,hpS,c0,c1,c2,c3,c4,c5,c6,c7,ho,x0,x1,x2,x3,x4,x5,x6,x7⟩:=(HO.out.below' HS.out hbw).cells k hlt;obtain⟨PA,pc,a,b2,c',d,e,TA,tc,he,hlv,-,-,-,-,-,hpl,htl⟩:=ho;obtain⟨VA,vc,VA',vc',hvs,-⟩:=hlv.shape;simp only[Value.agg.injEq,Array.mk.injEq,List.cons.injEq,and_true]at he hvs;obtain⟨rfl,rfl,rfl,rfl,rfl,rfl,rfl,rfl⟩:=he;obtain⟨rfl,rfl,rfl,rfl,rfl⟩:=hvs;have HLG:=hid (kL S s.ops[k].val _ wr hS2 hlv);have HX:Hid (∀W,Below wr.heap.size wr W→W.cell? ⟨p,off+k * 8+1,none⟩=some (.slice PA s.ops[k].path.length pc)∧W.cell? ⟨p,off+k * 8+7,none⟩=some (.slice TA s.ops[k].to.length tc)):=hid fun W hW=>⟨(World.cell?_of_block (a:=⟨p,off+k * 8+1,none⟩) (hW.block p (hS2 p hpS))).trans x1,(World.cell?_of_block (a:=⟨p,off+k * 8+7,none⟩) (hW.block p (hS2 p hpS))).trans x7⟩;have HBO:Hid (ow s.ops[k]=(di s.ops[k].val || decide (50<s.ops[k].path.length) || decide (50<s.ops[k].to.length))):=hid rfl;obtain⟨np,hnp⟩: ∃n,n=s.ops[k].path.length:=⟨_,rfl⟩;obtain⟨nt,hnt⟩: ∃n,n=s.ops[k].to.length:=⟨_,rfl⟩;obtain⟨lg,hlg⟩: ∃b,b=di s.ops[k].val:=⟨_,rfl⟩;rw[←hnp,←hnt]at HX HBO;rw[←hlg]at HLG HBO;rw[←hnp]at x1;rw[←hnt]at x7;have HH:=hid (fun hb:ow s.ops[k]=true=>sX hlt h60 hb);have H60:=hid h60;clear hlv hpS hpl htl hbw hbkw hnp hnt hlg h60;go_wp2_with fail;refine HLG.out.mono ?_;rintro e u ⟨rfl,hb⟩;have HB2:=hid (HB.out.trans (hb.mono HB.out.size));obtain⟨x1',x7'⟩:=HX.out u hb;have hbku:=HBK.out u HB2.out;clear x0 x1 x2 x3 x4 x5 x6 x7 y1 y2 y3 y4 y5 y6 hb HLG;have y6:=Go.Joins.cell_of_block hbku 6;have HBE:=hid (HB1.out.trans (HB2.out.mono HB1.out.size))
   clear hbku;cases lg;rotate_left
   ·have HT:Hid (cL s=true):=hid (HH.out (by rw[HBO.out];rfl));go_wp2_with fail;go_ret;exact⟨by rw[HR.out,HT.out];rfl,HBE.out⟩
   by_cases h50:50<np
   ·have d3:decide ((50:Int)<(np:Int))=true:=decide_eq_true (by omega);have HT:Hid (cL s=true):=hid (HH.out (by rw[HBO.out,decide_eq_true h50];rfl));clear h50;go_wp2_with fail;go_ret;exact⟨by rw[HR.out,HT.out];rfl,HBE.out⟩
   have d3:decide ((50:Int)<(np:Int))=false:=decide_eq_false (by omega);by_cases h51:50<nt
   ·have d4:decide ((50:Int)<(nt:Int))=true:=decide_eq_true (by omega);have HT:Hid (cL s=true):=hid (HH.out (by rw[HBO.out,decide_eq_true h51];simp));clear h50 h51;go_wp2_with fail;go_ret;exact⟨by rw[HR.out,HT.out];rfl,HBE.out⟩
   ·have d4:decide ((50:Int)<(nt:Int))=false:=decide_eq_false (by omega);have HT:Hid (ow s.ops[k]=false):=hid (by rw[HBO.out,decide_eq_false h50,decide_eq_false h51];rfl);clear h50 h51;go_wp2_with fail
    go_roundw
    case rel=>exact⟨k+1,by go_num,by omega,by have:=H60.out;omega,HB2,hid fun j h hjk=>by
     by_cases e:j=k
     ·subst e;exact HT.out
     ·exact HJ.out j h (by omega)⟩
    case measure=>simp[intOf];omega
  ·have HM:Hid (cL s=(decide (50<s.ops.length) || di s.doc)):=hid (rE HJ.out (by omega));have HLG:=hid (kL S s.doc _ wr (fun b hb=>by have:=HS.out b hb;have:=hbw.size;omega) (HV.out.keep fun b hb=>hbw.block b (HS.out b hb)));have hcut:(k<s.ops.length∧ ¬k<60)∨ ¬k<s.ops.length:=by omega
   obtain⟨lg,hlg⟩: ∃b,b=di s.doc:=⟨_,rfl⟩;rw[←hlg]at HLG HM;obtain⟨n,hn⟩: ∃n,n=s.ops.length:=⟨_,rfl⟩;rw[←hn]at HM hcut y6;clear hbw hbkw hlg hlt hn hk;by_cases h50:50<n
   ·have d3:decide ((50:Int)<(n:Int))=true:=decide_eq_true (by omega);have HE:Hid (cL s=true):=hid (by rw[HM.out,decide_eq_true h50];rfl);clear h50;rcases hcut with ⟨c1,c2⟩|c1
    ·have d1:decide ((k:Int)<(n:Int))=true:=decide_eq_true (by omega);have d2:decide ((k:Int)<60)=false:=decide_eq_false (by omega);go_wp2_with fail;go_ret;exact⟨by rw[HR.out,HE.out];rfl,HBW.out⟩
    ·have d1:decide ((k:Int)<(n:Int))=false:=decide_eq_false (by omega);go_wp2_with fail;go_ret;exact⟨by rw[HR.out,HE.out];rfl,HBW.out⟩
   ·have d3:decide ((50:Int)<(n:Int))=false:=decide_eq_false (by omega);have HE:Hid (cL s=lg):=hid (by rw[HM.out,decide_eq_false h50];rfl);clear h50;rcases hcut with ⟨c1,c2⟩|c1
    ·have d1:decide ((k:Int)<(n:Int))=true:=decide_eq_true (by omega);have d2:decide ((k:Int)<60)=false:=decide_eq_false (by omega);go_wp2_with fail;refine HLG.out.mono ?_;rintro e u ⟨rfl,hb⟩;have HB2:=hid (HBW.out.trans (hb.mono HBW.out.size));clear hb HLG;go_wp2_with fail;go_ret;exact⟨by rw[HR.out,HE.out];rfl,HB2.out⟩
    ·have d1:decide ((k:Int)<(n:Int))=false:=decide_eq_false (by omega);go_wp2_with fail;refine HLG.out.mono ?_;rintro e u ⟨rfl,hb⟩;have HB2:=hid (HBW.out.trans (hb.mono HBW.out.size));clear hb HLG;go_wp2_with fail;go_ret;exact⟨by rw[HR.out,HE.out];rfl,HB2.out⟩
theorem kF {B:Nat}{w1 W W4:World}{v:Value}{X:Obj}(hb:Below B w1 W)(hB:B≤W.heap.size)(hg:(W.alloc X).grownBy W4 v.ownBlock)(hv: ∀g,v.ownBlock=some g→B≤g):Below B w1 W4:=by
 have ha:Below B w1 (W.alloc X):=hb.alloc hB X;exact⟨hg.os.trans ha.os,hg.tape.trans ha.tape,hg.output.trans ha.output,Nat.le_trans ha.size hg.size,fun k hk=>(hg.block k (by simp;omega) (fun e=>by have:=hv k e.symm;omega)).trans (ha.block k hk)⟩
def PlR (W:World)(S:Nat→Prop)(B:Nat)(A:Option Addr)(c:Nat)(qs:List (List ByteArray)):Prop:= ∃vs,W.ownsRow B 23 1 (.slice A qs.length c) qs.length vs∧vs.length=qs.length∧ ∀i (h:i<qs.length) (h':i<vs.length),SlP W S vs[i] qs[i]
theorem PlR.at {W:World}{S:Nat→Prop}{B:Nat}{A:Option Addr}{c:Nat}{qs:List (List ByteArray)}(h:PlR W S B A c qs):ly W S A qs:=by
 obtain⟨vs,h1,h2,h3⟩:=h;exact uu h1 fun i hi=>⟨vs[i]'(by omega),List.getElem?_eq_getElem (by omega),h3 i hi (by omega)⟩
theorem fh {l:List OpT}{k:Nat}(hk:k<l.length):aD (l.take (k+1))=aD (l.take k)++bk l[k]:=by
 unfold aD;rw[List.take_add_one,List.getElem?_eq_getElem hk,List.flatMap_append];simp
theorem PlR.snoc {W W4:World}{S:Nat→Prop}{B:Nat}{A':Option Addr}{c':Nat}{qs:List (List ByteArray)}{vs:List Value}{v:Value}{q:List ByteArray}(h2:vs.length=qs.length)(h3: ∀i (h:i<qs.length) (h':i<vs.length),SlP W S vs[i] qs[i])(hk: ∀b,S b→W4.heap[b]? =W.heap[b]?)(hq:SlP W4 S v q)
  (ho:W4.ownsRow B 23 1 (.slice A' (qs.length+1) c') (qs.length+1) (vs++[v])):W4.ownsRow B 23 1 (.slice A' (qs++[q]).length c') (qs++[q]).length (vs++[v])∧(vs++[v]).length=(qs++[q]).length∧ ∀i (h:i<(qs++[q]).length) (h':i<(vs++[v]).length),SlP W4 S (vs++[v])[i] (qs++[q])[i]:=by
 refine⟨by rw[List.length_append,List.length_singleton];exact ho,by simp[h2],fun i h h'=> ?_⟩;by_cases hi:i<qs.length
 ·rw[List.getElem_append_left hi,List.getElem_append_left (by omega)];exact(h3 i hi (by omega)).keep hk
 ·have he:i=qs.length:=by simp at h;omega
  subst he;rw[List.getElem_append_right (by omega),List.getElem_append_right (by omega)];simpa[h2]using hq
theorem lr (S:Nat→Prop)(s:bg)(cs:Array Value)(w:World)(hS: ∀b,S b→b<w.heap.size)(h:cw w S s cs)(hn:s.ops.length≤1000):
  Calls Tryz.prog 53 #[.agg cs] w fun e w'=> ∃A c,e= .returned (.slice A (aD s.ops).length c)∧PlR w' S (w.heap.size+1) A c (aD s.ops)∧Below w.heap.size w w':=by
 obtain⟨i0,hi,hz0,hz1,hz2⟩:=info_parts Tryz.infoStrsR;obtain⟨DA,dc,DA',dc',OA,oc,rfl,hv,ho,hoc,hol⟩:=h;obtain⟨w1,hw1⟩: ∃W,W=w.alloc (.cells #[.bool s.rep,.int .i64 s.doc.kind,.int .i64 s.doc.num,.string s.doc.text,.slice DA s.doc.items.length dc,.slice DA' s.doc.names.length dc',.slice OA s.ops.length oc] 28):=⟨_,rfl⟩;have hbk:nO w1 w.heap.size s DA dc DA' dc' OA oc:=by rw[hw1];exact heap_alloc_new w _
 have hb1:Below w.heap.size w w1:=by rw[hw1];exact(Below.refl _ _).alloc (Nat.le_refl _) _
 have hz1':w1.heap.size=w.heap.size+1:=by rw[hw1];simp
 have ho1:=ho.below' hS hb1;have HB1:=hid hb1;have HZ1:=hid hz1';have HBK:=hid hbk;have HO1:=hid ho1;have HS1:Hid (∀b,S b→b<w1.heap.size):=hid fun b hb=>Nat.lt_of_lt_of_le (hS b hb) hb1.size;have HW1:=hid hw1;clear hv ho hoc hol hS hbk hb1 hz1' ho1;go_enter Tryz.func53,Tryz.ntmps53;go_wp2_with fail;rw[←hw1];clear hw1
 go_loopw [3,4] (fun v3 i wr=> ∃(k:Nat) (A:Option Addr) (c:Nat),i= .int .i64 k∧k≤s.ops.length∧v3= .slice A (aD (s.ops.take k)).length c∧Hid (PlR wr S w1.heap.size A c (aD (s.ops.take k)))∧Hid (Below w1.heap.size w1 wr)) (fun _ i _=>s.ops.length - (intOf i).toNat)
 case atStart=>exact⟨0,none,0,rfl,by omega,rfl,hid ⟨[],World.ownsRow_nil _ _ _ _,rfl,fun i h=>absurd h (by simp[aD])⟩,hid (Below.refl _ _)⟩
 case round=>
  obtain⟨k,A,c,rfl,hk,rfl,HP,HB⟩:=hrel;have hbkw:nO wr w.heap.size s DA dc DA' dc' OA oc:=(HB.out.block _ (by have:=HZ1.out;omega)).trans HBK.out;have y6:=Go.Joins.cell_of_block hbkw 6;by_cases hlt:k<s.ops.length
  ·have d1:decide ((k:Int)<(s.ops.length:Int))=true:=decide_eq_true (by omega);obtain⟨p,off,rfl,hpS,c0,c1,c2,c3,c4,c5,c6,c7,ho,x0,x1,x2,x3,x4,x5,x6,x7⟩:=HO1.out.cells k hlt;obtain⟨PA,pc,a,b2,c',d,e,TA,tc,he,hlv,hpa,hta,hpc,htc,-,hpl,htl⟩:=ho;simp only[Array.mk.injEq,List.cons.injEq,and_true]at he;obtain⟨rfl,rfl,rfl,rfl,rfl,rfl,rfl,rfl⟩:=he
   have HX:Hid (∀W,Below w1.heap.size w1 W→W.cell? ⟨w.heap.size,6,none⟩=some (.slice (some ⟨p,off,none⟩) s.ops.length oc)∧W.cell? ⟨p,off+k * 8,none⟩=some (.int .i64 s.ops[k].kind)∧W.cell? ⟨p,off+k * 8+1,none⟩=some (.slice PA s.ops[k].path.length pc)∧W.cell? ⟨p,off+k * 8+7,none⟩=some (.slice TA s.ops[k].to.length tc)∧SlP W S (.slice PA s.ops[k].path.length pc) s.ops[k].path∧SlP W S (.slice TA s.ops[k].to.length tc) s.ops[k].to):=hid fun W hW=>by
    have hp:=hW.block p (HS1.out p hpS);have hkp: ∀b,S b→W.heap[b]? =w1.heap[b]? :=fun b hb=>hW.block b (HS1.out b hb);refine⟨?_,(World.cell?_of_block (a:=⟨p,off+k * 8,none⟩) hp).trans x0,(World.cell?_of_block (a:=⟨p,off+k * 8+1,none⟩) hp).trans x1,(World.cell?_of_block (a:=⟨p,off+k * 8+7,none⟩) hp).trans x7,⟨PA,pc,rfl,hpa.keep hkp,hpc,hpl⟩,⟨TA,tc,rfl,hta.keep hkp,htc,htl⟩⟩;have hb:nO W w.heap.size s DA dc DA' dc' (some ⟨p,off,none⟩) oc:=(hW.block _ (by have:=HZ1.out;omega)).trans HBK.out;exact Go.Joins.cell_of_block hb 6
   obtain⟨kd,hkd⟩: ∃kd,kd=s.ops[k].kind:=⟨_,rfl⟩;rw[←hkd]at HX;clear hbkw y6 hlv hpa hta hpc htc hpl htl hpS x0 x1 x2 x3 x4 x5 x6 x7;obtain⟨y6,x0,x1,x7,-,-⟩:=HX.out wr HB.out;obtain⟨vs,hr1,hr2,hr3⟩:=HP.out;have hN:=ju (s.ops.take k);rw[List.length_take]at hN;obtain⟨N,hNN⟩: ∃N,N=(aD (s.ops.take k)).length:=⟨_,rfl⟩;have HNN:=hid hNN;have hN2:N≤2000:=by omega
   have hjr: ∀X:Obj,(wr.alloc X).ownsRow w1.heap.size 23 1 (.slice A N c) N vs:=fun X=>by rw[hNN];exact cY hr1 (World.grownBy_alloc wr X none) (fun r e=>by cases e)
   have HRR:=hid (And.intro hr2 hr3);have HRT:Hid (∀g,(Value.slice A N c).ownBlock=some g→w1.heap.size≤g):=hid fun g hg=>(kw (hjr (.deferred none)) g hg).1;rw[←hNN];clear hr1 hr2 hr3 hNN hN;have hs1:=HB.out.size;have hsame: ∀W4,Below w1.heap.size w1 W4→ ∀b,S b→W4.heap[b]? =wr.heap[b]? :=fun W4 h4 b hb=>(h4.block b (HS1.out b hb)).trans (HB.out.block b (HS1.out b hb)).symm;have hsnoc: ∀(W4:World) (A4:Option Addr) (c4:Nat),Below w1.heap.size w1 W4→SlP W4 S (.slice PA s.ops[k].path.length pc) s.ops[k].path→W4.ownsRow w1.heap.size 23 1 (.slice A4 (N+1) c4) (N+1) (vs++[.slice PA s.ops[k].path.length pc])→_:=fun W4 A4 c4 h4 hq ho=>PlR.snoc HRR.out.1 HRR.out.2 (hsame W4 h4) hq (by rw[←HNN.out];exact ho);by_cases h6:kd=6
   ·have d6:(kd == 6)=true:=by rw[h6];rfl
    have hpo:bk s.ops[k]= [s.ops[k].path,s.ops[k].to]:=by unfold bk;rw[if_pos (hkd▸h6)]
    have HPO:=hid hpo;have HSN:=hid hsnoc;clear h6 hpo hsame hsnoc hkd;go_wp2_with(first|(at_builtin;refine wpList_append_own _ rfl _ _ 72 rfl w1.heap.size 23 i0 (.slice none 0 0) 1 24 Tryz.underlying72 hi hz0 hz1 hz2 rfl (by decide) _ N vs rfl (hjr _) ⟨wr.heap.size,0,none⟩ 1 1 [.slice PA s.ops[k].path.length pc] rfl rfl (cell_one_new _ _ _) (by simp[Value.oneCell']) (by unfold maxLen;omega) (by omega) (by simp;omega) ?_;intro v' w4 hown' hg4 hnil4;obtain⟨A',c',rfl⟩:=iS hown';have hb4:=kF HB.out hs1 hg4 HRT.out;obtain⟨z6,z0,z1,z7,zp,zt⟩:=HX.out w4 hb4;have HOW:=hid (And.intro hown' (And.intro hb4 (And.intro zp zt)));have hs4:=hb4.size;have hjr4: ∀X:Obj,(w4.alloc X).ownsRow w1.heap.size 23 1 (.slice A' (N+1) c') (N+1) (vs++[.slice PA s.ops[k].path.length pc]):=fun X=>cY hown' (World.grownBy_alloc w4 X none) (fun r e=>by cases e);have HRT4:Hid (∀g,(Value.slice A' (N+1) c').ownBlock=some g→w1.heap.size≤g):=hid fun g hg=>(kw hown' g hg).1;have HZ:=hid (And.intro z6 (And.intro z0 z7));clear hown' hg4 hnil4 hb4 zp zt z1 y6 x0 x1 x7)|(at_builtin;refine wpList_append_own _ rfl _ _ 72 rfl w1.heap.size 23 i0 (.slice none 0 0) 1 24 Tryz.underlying72 hi hz0 hz1 hz2 rfl (by decide) _ (N+1) (vs++[.slice PA s.ops[k].path.length pc]) rfl (hjr4 _) ⟨w4.heap.size,0,none⟩ 1 1 [.slice TA s.ops[k].to.length tc] rfl rfl (cell_one_new _ _ _) (by simp[Value.oneCell']) (by unfold maxLen;omega) (by omega) (by simp;omega) ?_;intro v5 w5 hown5 hg5 hnil5;obtain⟨A5,c5,rfl⟩:=iS hown5;have hb5:=kF HOW.out.2.1 hs4 hg5 HRT4.out;have HOW5:=hid (And.intro hown5 hb5);clear hown5 hg5 hnil5 hb5 z6 z0 z7))
    have HP4:=hid (HSN.out w4 A' c' HOW.out.2.1 HOW.out.2.2.1 HOW.out.1);have hP5:=PlR.snoc HP4.out.2.1 HP4.out.2.2 (fun b hb=>(HOW5.out.2.block b (HS1.out b hb)).trans (HOW.out.2.1.block b (HS1.out b hb)).symm) (HX.out _ HOW5.out.2).2.2.2.2.2 (by rw[List.length_append,List.length_singleton,←HNN.out];exact HOW5.out.1);rw[List.append_assoc,List.singleton_append,←HPO.out,←fh hlt]at hP5;have hlen:(aD (s.ops.take (k+1))).length=N+1+1:=by rw[fh hlt,List.length_append,HPO.out,←HNN.out];rfl
    have HP5:=hid hP5;have HLN:=hid hlen;clear hP5 hlen;try go_wp2_with fail
    go_roundw
    case rel=>exact⟨k+1,A5,c5,by go_num,by omega,by rw[HLN.out],⟨_,HP5.out⟩,HOW5.out.2⟩
    case measure=>simp[intOf];omega
   ·have d6:(kd == 6)=false:=by simpa using h6
    have hpo:bk s.ops[k]= [s.ops[k].path]:=by unfold bk;rw[if_neg (hkd▸h6)]
    have HPO:=hid hpo;have HSN:=hid hsnoc;clear h6 hpo hsame hsnoc hkd;go_wp2_with(at_builtin;refine wpList_append_own _ rfl _ _ 72 rfl w1.heap.size 23 i0 (.slice none 0 0) 1 24 Tryz.underlying72 hi hz0 hz1 hz2 rfl (by decide) _ N vs rfl (hjr _) ⟨wr.heap.size,0,none⟩ 1 1 [.slice PA s.ops[k].path.length pc] rfl rfl (cell_one_new _ _ _) (by simp[Value.oneCell']) (by unfold maxLen;omega) (by omega) (by simp;omega) ?_;intro v' w4 hown' hg4 hnil4;obtain⟨A',c',rfl⟩:=iS hown';have hb4:=kF HB.out hs1 hg4 HRT.out;obtain⟨z6,z0,z1,z7,zp,zt⟩:=HX.out w4 hb4;have HOW:=hid (And.intro hown' (And.intro hb4 (And.intro zp zt)));have HZ:=hid (And.intro z6 (And.intro z0 z7));clear hown' hg4 hnil4 hb4 zp zt z1 y6 x0 x1 x7);have hP4:PlR w4 S w1.heap.size A' c' (aD (s.ops.take k)++[s.ops[k].path]):=⟨_,HSN.out w4 A' c' HOW.out.2.1 HOW.out.2.2.1 HOW.out.1⟩;rw[←HPO.out,←fh hlt]at hP4;have hlen:(aD (s.ops.take (k+1))).length=N+1:=by rw[fh hlt,List.length_append,HPO.out,←HNN.out];rfl
    have HP4:=hid hP4;have HLN:=hid hlen;clear hP4 hlen;try go_wp2_with fail
    go_roundw
    case rel=>exact⟨k+1,A',c',by go_num,by omega,by rw[HLN.out],HP4.out,HOW.out.2.1⟩
    case measure=>simp[intOf];omega
  ·have hke:k=s.ops.length:=by omega
   have d1:decide ((k:Int)<(s.ops.length:Int))=false:=decide_eq_false (by omega);obtain⟨N,hNN⟩: ∃N,N=(aD (s.ops.take k)).length:=⟨_,rfl⟩;have HNN:=hid hNN;have HKE:=hid hke;rw[←hNN];clear hbkw hNN hke;go_wp2_with fail;go_ret;refine⟨A,c,?_,?_,HB1.out.trans (HB.out.mono HB1.out.size)⟩
   ·rw[HNN.out,HKE.out,List.take_length];rfl
   ·have h9:=HP.out;rw[HKE.out,List.take_length,HZ1.out]at h9;exact h9
theorem tz {s:bg}(hf:bO s=true)(hr:s.rep=false):s.doc.names= []∧s.ops.length≤16∧ ∀p∈aD s.ops,0<p.length:=by
 have h:=hf;unfold bO at h;rw[hr]at h;simp only[Bool.false_eq_true,if_false,Bool.and_eq_true,decide_eq_true_eq]at h;refine⟨?_,(fT hf).1,(fT hf).2⟩;have hn:=(gj _).1 h.1.1.1;rw[hn];rfl
theorem rC (ns:List ByteArray):ce ns=true↔1≤ns.length∧ns.length≤8∧ ∀s∈ns,bH s.data.toList=true:=by
 unfold ce;simp only[Bool.and_eq_true,decide_eq_true_eq,List.all_eq_true];exact⟨fun h=>⟨h.1.1,h.1.2,h.2⟩,fun h=>⟨⟨h.1,h.2.1⟩,h.2.2⟩⟩
theorem Tryz.infoStrP :(Tryz.prog.info? 9).map (fun i=>(i.zero,i.size,i.bytes))=some (some (.string ByteArray.empty),1,16):=by kernel_rfl
def ij (w:World)(B:Nat)(v:Value)(ns:List ByteArray):Prop:=w.ownsRow B 9 1 v ns.length (ns.map Value.string)
theorem ij.nil (w:World)(B:Nat):ij w B (.slice none 0 0) []:=World.ownsRow_nil _ _ _ _
theorem ij.opens {w:World}{B:Nat}{v:Value}{ns:List ByteArray}(h:ij w B v ns)(hs: ∀s∈ns,s.size≤140737488351232):
  ∃A c,v= .slice A ns.length c∧ns.length≤c∧ai w (fun b=>B≤b∧b<w.heap.size) A ns:=by
 have hlt:=World.ownsRow.lt h;have hcl:=fun g hg=>World.ownsRow.cells (g:=g) h hg;rcases h.2 with ⟨rfl,h0⟩|⟨g,cap,cur,rfl,hB,hh,hc,-,-,-⟩
 ·obtain rfl:=List.eq_nil_of_length_eq_zero h0;exact⟨none,0,rfl,Nat.le_refl _,ai.nil⟩
 ·refine⟨some ⟨g,0,none⟩,cap,rfl,hc,fun hp=>⟨g,0,rfl,hlt g rfl,fun i hi=>⟨?_,hs _ (List.getElem_mem hi)⟩⟩⟩;have h1:=hcl g rfl i (.string ns[i]) (by simp[hi]);rw[cq]at h1;exact h1
def AS (ns:List ByteArray)(w:World)(e:Ending)(w':World):Prop:= ∃v,e= .returned v∧ij w' w.heap.size v ns∧Below w.heap.size w w'
theorem dT {w:World}{ops:Array Oper}{rest:List Oper}{o:Oper}{a:Act}{Q:Exit→Act→World→Prop}(hgd:o.guard=none)(s x:Operand)
  (ho:o.op= .call { callee:= .builtin .append,args:= #[s,x],argTypes:= #[23,23] }) (B:Nat) (v:Value) (ns:List ByteArray) (hs:a.eval s=v) (hown:ij w B v ns)
  (A:Option Addr) (c:Nat) (ms:List ByteArray) (S:Nat→Prop) (hx:a.eval x= .slice A ms.length c) (hA:A=none→c=0) (hst:ai w S A ms) (hB:B≤w.heap.size) (hl:ns.length+ms.length≤8796093021952)
  (K: ∀v' w',ij w' B v' (ns++ms)→w.grownBy w' v.ownBlock→wpList Tryz.prog ops Q rest (a.put o.dst v') w'):wpList Tryz.prog ops Q (o::rest) a w:=by
 obtain⟨i0,hi,hz0,hz1,hz2⟩:=info_parts Tryz.infoStrP
 cases A with
 |none=>
  obtain rfl:ms= []:=by
   match ms,hst with
   | [],_=>rfl
   |m::r,hst=>obtain⟨_,_,h,_⟩:=hst (by simp);cases h
  obtain rfl:=hA rfl;refine wpList_append_own_none hgd s x 23 ho B 9 i0 1 Tryz.underlying23 hi v ns.length (ns.map Value.string) hs hown hx ?_
  exact K v w (by rw[List.append_nil];exact hown) ⟨rfl,rfl,rfl,Nat.le_refl _,fun _ _ _=>rfl⟩
 |some ad=>
  refine wpList_append_own _ hgd s x 23 ho B 9 i0 (.string ByteArray.empty) 1 16 Tryz.underlying23 hi hz0 hz1 hz2 rfl (by decide) v ns.length (ns.map Value.string) hs hown ad ms.length c (ms.map Value.string) hx (by simp) ?_ ?_ (by unfold maxLen;omega) (by omega) hB ?_
  ·intro j u hj;have hjl:j<ms.length:=by have:=(List.getElem?_eq_some_iff.1 hj).1;simpa using this
   obtain⟨b,off,hAd,-,hc⟩:=hst (by omega);injection hAd with hAd
   subst hAd;rw[cq,(hc j hjl).1];simpa[List.getElem?_map,List.getElem?_eq_getElem hjl]using hj
  ·intro u hu;obtain⟨_,_,rfl⟩:=List.mem_map.1 hu;rfl
  ·intro v' w' h1 h2 _;exact K v' w' (by unfold ij;rw[List.length_append,List.map_append];exact h1) h2
def Be (w:World)(e:Ending)(w':World):Prop:= ∃v,e= .returned v∧ij w' w.heap.size v []∧Below w.heap.size w w'
theorem xo (n:Nat)(w:World)(hn:n≤100000):Calls Tryz.prog 179 #[.slice none 0 0,.int .i64 n] w (Be w):=by
 obtain⟨i0,hi,hz0,hz1,hz2⟩:=info_parts Tryz.infoStrP;by_cases h0:n=0
 ·subst h0;go_enter Tryz.func179,Tryz.ntmps179;go_wp2_with fail;go_ret;exact⟨_,rfl,ij.nil _ _,Below.refl _ _⟩
 ·have hrz: ∀ty,(Builtin.append_ #[23,3] ty #[.slice none 0 0,.int .i64 n]).run Tryz.prog w= .ok (.slice (some ⟨w.heap.size,0,none⟩) n (grownCap w n 0 9)) (w.drew.alloc (.cells (#[]++Builtin.zeroCells (Value.string ByteArray.empty).cells n++Builtin.zeroCells (Value.string ByteArray.empty).cells (grownCap w n 0 9 - n)) 9)):=fun ty=>by
   have h:=Lib.run_append_grow_zeros w 23 3 ty 9 i0 (.string ByteArray.empty) .i64 .i64 Tryz.underlying23 Tryz.underlying3 hi hz0 none 0 0 [] (run_firstCells_none w.drew i0.size 0 0 0) n (by omega) (by omega) (by omega) (by omega) (by rw[hz2];omega) (growslice_fits (by omega) (by rw[hz2];omega));simpa using h
  have hG:=grownCap_ge w n 0 9;have hG2:=grownCap_le_maxLen w n 0 9 (by unfold maxLen;omega);obtain⟨G,hGe⟩: ∃G,G=grownCap w n 0 9:=⟨_,rfl⟩;rw[←hGe]at hrz hG hG2;have HG:=hid hG2;unfold maxLen at hG2;have hn1:(1:Int)≤(n:Int):=by omega
  have HR:Hid (ij (w.drew.alloc (.cells (#[]++Builtin.zeroCells (Value.string ByteArray.empty).cells n++Builtin.zeroCells (Value.string ByteArray.empty).cells (G - n)) 9)) w.heap.size (.slice (some ⟨w.heap.size,0,none⟩) 0 G) []):=by
   refine World.ownsRow_made (size:=1) w.drew _ G (Nat.le_refl _) HG.out ?_;simp only[Array.size_append,size_zeroCells];simp[Value.cells];omega
  obtain⟨C,hC⟩: ∃C,C=(#[]++Builtin.zeroCells (Value.string ByteArray.empty).cells n++Builtin.zeroCells (Value.string ByteArray.empty).cells (G - n)):=⟨_,rfl⟩;rw[←hC]at hrz HR;clear hGe h0 hC;go_enter Tryz.func179,Tryz.ntmps179;go_wp2_with(at_builtin;refine Lib.wpList_append_run _ rfl _ _ _ _ rfl _ _ rfl rfl _ _ (hrz _) ?_);go_ret;exact⟨_,rfl,HR.out,(Below.refl _ _).drew.alloc (Nat.le_refl _) _⟩
theorem wu (w:World)(x y:Value)(t:TypeId):(w.alloc (.cells #[x,y] t)).cell? ⟨w.heap.size,0,none⟩=some x∧(w.alloc (.cells #[x,y] t)).cell? ⟨w.heap.size,1,none⟩=some y:=
 ⟨Go.Joins.cell_of_block (heap_alloc_new w _) 0,Go.Joins.cell_of_block (heap_alloc_new w _) 1⟩
theorem tU (p:Nat)(A B:Option Addr)(c d:Nat)(a b:List ByteArray)(w:World)(S T:Nat→Prop)(h:ai w S A a)(k:ai w T B b)(hS: ∀b,S b→b<w.heap.size)(hT: ∀b,T b→b<w.heap.size)(ha:a.length≤1000)(hb:b.length≤1000)
  (hA:A=none→c=0) (hB:B=none→d=0) (hp:p<w.heap.size) (h0:w.cell? ⟨p,0,none⟩=some (.slice A a.length c)) (h1:w.cell? ⟨p,1,none⟩=some (.slice B b.length d)):
  Calls Tryz.prog 171 #[.slice (some ⟨p,0,none⟩) 2 2] w (AS (a++b) w):=by
 have HS:=hid h;have HT:=hid k;have HA:=hid hA;have HB:=hid hB;clear h k hA hB;go_enter Tryz.func171,Tryz.ntmps171;go_wp2_with fail
 go_loopw [3,11] (fun n i wr=> ∃k m:Nat,i= .int .i64 k∧n= .int .i64 m∧wr=w∧Hid (k=0∧m=0∨k=1∧m=a.length∨k=2∧m=a.length+b.length)) (fun _ i _=>2 - (intOf i).toNat)
 case atStart=>exact⟨0,0,rfl,rfl,rfl,.inl ⟨rfl,rfl⟩⟩
 case round=>
  obtain⟨k0,m,rfl,rfl,rfl,HK⟩:=hrel;rcases HK.out with ⟨rfl,rfl⟩|⟨rfl,rfl⟩|⟨rfl,rfl⟩
  ·clear HK;go_wp2_with fail
   go_roundw
   case rel=>exact⟨1,a.length,rfl,rfl,trivial,.inr (.inl ⟨rfl,rfl⟩)⟩
   case measure=>simp[intOf]
  ·clear HK;go_wp2_with fail
   go_roundw
   case rel=>exact⟨2,a.length+b.length,rfl,by go_num,trivial,.inr (.inr ⟨rfl,rfl⟩)⟩
   case measure=>simp[intOf]
  ·clear HK;go_wp2_with fail;refine(xo _ _ (by omega)).mono ?_;rintro e w1 ⟨v,rfl,hv,hb1⟩;have HV:=hid hv;have HB1:=hid hb1;clear hv hb1;go_wp2_with fail;obtain⟨wo,hwo⟩: ∃wo:World,wo=wr:=⟨_,rfl⟩;rw[←hwo]at hS hT HS HT HV HB1 hp h0 h1;have HWO:=hid hwo;clear hwo
   go_loopw [6,27] (fun v i wr=> ∃k:Nat,i= .int .i64 k∧Hid (Below wo.heap.size wo wr)∧Hid (k=0∧ij wr wo.heap.size v []∨k=1∧ij wr wo.heap.size v a∨k=2∧ij wr wo.heap.size v (a++b))) (fun _ i _=>2 - (intOf i).toNat)
   case atStart=>exact⟨0,rfl,HB1,.inl ⟨rfl,HV.out⟩⟩
   case round=>
    obtain⟨k1,rfl,HB2,HK2⟩:=hrel;have hp2:wr.cell? ⟨p,0,none⟩=some (.slice A a.length c):=(HB2.out.cell (p:=⟨p,0,none⟩) hp).trans h0;have hp3:wr.cell? ⟨p,1,none⟩=some (.slice B b.length d):=(HB2.out.cell (p:=⟨p,1,none⟩) hp).trans h1;have hsz:=HB2.out.size;rcases HK2.out with ⟨rfl,hv⟩|⟨rfl,hv⟩|⟨rfl,hv⟩
    ·have HS2:=HS.out.keep fun x hx=>HB2.out.block x (hS x hx);clear HK2;go_wp2_with(at_builtin;go_must (refine dT rfl _ _ rfl wo.heap.size _ [] rfl hv A c a S rfl HA.out HS2 hsz (by simp;omega) ?_));intro v2 w2 hv2 hg;have HV2:=hid hv2;have HB3:=hid (HB2.out.grown hg hsz (fun x hx=>(World.ownsRow.lt hv x hx).1));clear hv2 hg hv HS2;go_wp2_with fail
     go_roundw
     case rel=>exact⟨1,rfl,HB3,.inr (.inl ⟨rfl,HV2.out⟩)⟩
     case measure=>simp[intOf]
    ·have HT2:=HT.out.keep fun x hx=>HB2.out.block x (hT x hx);clear HK2;go_wp2_with(at_builtin;go_must (refine dT rfl _ _ rfl wo.heap.size _ a rfl hv B d b T rfl HB.out HT2 hsz (by omega) ?_));intro v2 w2 hv2 hg;have HV2:=hid hv2;have HB3:=hid (HB2.out.grown hg hsz (fun x hx=>(World.ownsRow.lt hv x hx).1));clear hv2 hg hv HT2;go_wp2_with fail
     go_roundw
     case rel=>exact⟨2,rfl,HB3,.inr (.inr ⟨rfl,HV2.out⟩)⟩
     case measure=>simp[intOf]
    ·have HV2:=hid hv;clear HK2 hv;go_wp2_with fail;go_ret;exact⟨_,rfl,by rw[←HWO.out];exact HV2.out,by rw[←HWO.out];exact HB2.out⟩
def AY (ns:List ByteArray)(w:World)(e:Ending)(w':World):Prop:= ∃A c,e= .returned (.tuple #[.slice A ns.length c,.int .i64 0])∧ns.length≤c∧ai w' (fun b=>w.heap.size≤b∧b<w'.heap.size) A ns∧Below w.heap.size w w'
def xt (w:World)(e:Ending)(w':World):Prop:=e= .returned (.tuple #[.slice none 0 0,.int .i64 40])∧Below w.heap.size w w'
theorem ww {ns:List ByteArray}(h:ce ns=true): ∀s∈ns,s.size≤140737488351232:=fun s hs=>by
 have:=((kU s).1 (((rC ns).1 h).2.2 s hs)).2.1;omega
theorem rq (a:Addr)(n c:Nat)(w:World):(binOp .eql 23 (.slice (some a) n c) (.slice none 0 0)).run Tryz.prog w= .ok (.bool false) w:=by kernel_rfl
theorem tp :bI []=0:=by unfold bI;rfl
theorem uS : ∀(ns:List ByteArray),(∀s∈ns,s.size≤140737488351232)→eI ns≤ns.length * 140737488351300
 | [],_=>by simp[eI]
 |a::r,h=>by
  have h1:=mW a (h a (List.mem_cons_self ..));have h2:=uS r fun s hs=>h s (List.mem_cons_of_mem _ hs);have e:eI (a::r)=tsz a+eI r:=by unfold eI;simp
  rw[e];simp only[List.length_cons];omega
theorem AX (k i:Int)(s:ByteArray)(n:Nat)(ns:List ByteArray)(hs:s.size≤140737488351232)(h: ∀s∈ns,s.size≤140737488351232):dp k i s n ns≤(1+ns.length) * 281474976710656:=by
 have h1:=mW s hs;have h2:=uS ns h;have h3:=(bA (zig i)).1;have h4:=(bA n).1;unfold dp
 repeat' split
 all_goals omega
theorem rM (d:Nat): ∀(l:List VT) (n:Nat),(∀t∈l,bG (d+1) t≤60000→aA t≤bG (d+1) t * 281474976710656)→cG d n l≤60000→bI l+n * 281474976710656≤cG d n l * 281474976710656
 | [],n,_,_=>by rw[jz,tp];omega
 |t::r,n,h,hn=>by
  unfold cG at hn ⊢;unfold bI;by_cases hlt:n<65536
  ·rw[if_pos hlt]at hn ⊢;have h1:=kH d r (n+bG (d+1) t);have h2:=h t (List.mem_cons_self ..) (by omega);have h3:=rM d r (n+bG (d+1) t) (fun t ht=>h t (List.mem_cons_of_mem _ ht)) hn;omega
  ·rw[if_neg hlt]at hn;omega
theorem uC {w:World}{S:Nat→Prop}: ∀(k d:Nat) (t:VT) (v:Value),d+k=41→LV w S t v→bG d t≤60000→aA t≤bG d t * 281474976710656
 |0,d,t,v,hd,_,hn=>by rw[fN d t (by omega)]at hn;omega
 |k+1,d,t,v,hd,h,hn=>by
  obtain⟨A,c,A',c',-,-,-,hts,-,-,hst,hla⟩:=h.shape;rw[iO d t (by omega)]at hn ⊢
  have h1:=rM d t.items (1+t.names.length) (fun u hu hun=>by
   obtain⟨v,hv⟩:=qk hla hu
   exact uC k (d+1) u v (by omega) hv hun) hn
  have h2:=AX t.kind t.num t.text t.items.length t.names hts (fun s hs=>by
   obtain⟨i,hi,rfl⟩:=List.getElem_of_mem hs;obtain⟨b,off,-,-,hc⟩:=hst (by omega)
   exact(hc i hi).2)
  have e:aA t=dp t.kind t.num t.text t.items.length t.names+bI t.items:=by cases t;unfold aA;rfl
  omega
theorem jn {w:World}{S:Nat→Prop}{t:VT}{v:Value}(h:LV w S t v)(hl:di t=false):aA t≤9223372036854775807:=by
 have h1:bG 0 t≤3000:=by unfold di at hl;simpa using hl
 have:=uC 41 0 t v rfl h (by omega);omega
def xJ (s:bg):Prop:=aA s.doc≤9223372036854775807∧ ∀o∈s.ops,aA o.val≤9223372036854775807
end Go.Proofs.YtgbopnlpaabelaaGreatDoor
/- Updates that came in. -/
namespace Go.Proofs.YtgbopnlpaabelaaGreatDoor
open Go.ChangeShapes Go.WideShapes Go.RowKit Go.Joins Go.Deep
theorem yL :Tryz.prog.cellsOf 51=8:=by kernel_rfl
theorem vk : ∃f0 f1 f2 f3:Field,Tryz.prog.underlying 51=some (.struct #[f0,f1,f2,f3])∧f0.type=3∧f1.type=23∧f2.type=25∧f3.type=23∧f0.offset=0∧f1.offset=1∧f2.offset=2∧f3.offset=7:=
 ⟨_,_,_,_,Tryz.underlying51,rfl,rfl,rfl,rfl,rfl,rfl,rfl,rfl⟩
section
variable {H :Type} {enc:TypeId×Value→H} {W:World} {sp:Nat→Bool}
end
end Go.Proofs.YtgbopnlpaabelaaGreatDoor
/- An update that is not large is small enough for all walks. -/
namespace Go.Proofs.YtgbopnlpaabelaaGreatDoor
open Go.RowKit
theorem vN {w:World}{S:Nat→Prop}{s:bg}{cs:Array Value}(h:cw w S s cs)(hl:cL s=false):mS s∧xJ s:=by
 obtain⟨h1,h2,h3⟩:=pB hl;obtain⟨DA,dc,DA',dc',OA,oc,-,hv,ho,-,-⟩:=h
 have hd:di s.doc=false:=by
  unfold cL at hl;simp only[Bool.or_eq_false_iff]at hl;exact hl.2
 refine⟨⟨by omega,fun o ho=>by have:=(h3 o ho).1;omega⟩,jn hv hd,fun o hmem=> ?_⟩;obtain⟨i,hi,rfl⟩:=List.getElem_of_mem hmem;obtain⟨b,off,-,-,hc⟩:=ho (by omega);obtain⟨cs',-,hop⟩:=hc i hi;obtain⟨PA,pc,a,b2,c,d,e,TA,tc,-,hlv,-⟩:=hop;refine jn hlv ?_;unfold cL at hl;simp only[Bool.or_eq_false_iff,List.any_eq_false]at hl;have h4:=hl.1.1 s.ops[i] (by rw[List.take_of_length_le (by omega)];exact List.getElem_mem hi);unfold ow at h4;simp at h4;simp[h4]
theorem Tryz.infoDlt :(Tryz.prog.info? 58).map (fun i=>(i.zero,i.size,i.bytes))=some (some (.agg #[.int .i64 0,.slice none 0 0,.int .i64 0,.int .i64 0,.string ⟨#[]⟩,.slice none 0 0,.slice none 0 0,.int .i64 0]),8,120):=by kernel_rfl
section
variable {w w':World} {S S':Nat→Prop}
end
open Lib (hid)
theorem rD (w:World):(binOp .eql 23 (.slice none 0 0) (.slice none 0 0)).run Tryz.prog w= .ok (.bool true) w:=by kernel_rfl
theorem wO {w:World}{B n k:Nat}{t:TypeId}{v:Value}{xs:List Value}(h:w.ownsRow B t k v n xs): ∃A c,v= .slice A n c∧(A=none→c=0)∧n≤c:=by
 rcases h.2 with ⟨e,h0⟩|⟨g,cap,cur,e,-,-,hc,-⟩
 ·exact⟨none,0,by rw[e,h0],fun _=>rfl,by omega⟩
 ·exact⟨_,_,e,fun h=>(by cases h),hc⟩
theorem sE (S:Nat→Prop)(A:Option Addr)(c:Nat)(p:List ByteArray)(w:World)(h:ai w S A p)(hS: ∀b,S b→b<w.heap.size)(hA:A=none→c=0)(hl:p.length≤8796093021952):
  Calls Tryz.prog 65 #[.slice A p.length c] w fun e w'=> ∃v,e= .returned v∧ij w' w.heap.size v p∧Below w.heap.size w w':=by
 cases A with
 |none=>
  obtain rfl:=hA rfl
  obtain rfl:p= []:=by
   match p,h with
   | [],_=>rfl
   |m::r,h=>obtain⟨_,_,h,_⟩:=h (by simp);cases h
  clear h hS hA hl;have he:=rD w;show Calls Tryz.prog 65 #[.slice none 0 0] w _;go_enter Tryz.func65,Tryz.ntmps65;go_wp2_with fail;go_ret
  exact⟨_,rfl,ij.nil _ _,Below.refl _ _⟩
 |some ad=>
  have ho0:ij (w.alloc (.cells #[] 9)) w.heap.size (.slice (some ⟨w.heap.size,0,none⟩) 0 0) []:=World.ownsRow_made w #[] 0 (Nat.le_refl _) (by decide) rfl;have HO:=hid ho0;have hb0:Below w.heap.size w (w.alloc (.cells #[] 9)):=ae _;have HB0:=hid hb0;have HP:=hid (h.keep (w':=w.alloc (.cells #[] 9)) fun b hb=>hb0.block b (hS b hb));obtain⟨n,hn⟩: ∃n,n=p.length:=⟨_,rfl⟩;have HN:=hid hn;rw[←hn]at hl ⊢;have he:=rq ad n c w;clear h hS hA ho0 hb0 hn;go_enter Tryz.func65,Tryz.ntmps65;go_wp2_with(at_builtin;refine dT rfl _ _ rfl w.heap.size (.slice (some ⟨w.heap.size,0,none⟩) 0 0) [] rfl HO.out (some ad) c p S (by rw[←HN.out];rfl) (fun h=>by cases h) HP.out (by simp) (by rw[←HN.out];simp;omega) ?_;intro v' w' hv' hg';have HV:=hid hv';have HG:=hid hg';clear hv' hg');go_ret;have hv:=HV.out;rw[List.nil_append]at hv;exact⟨_,rfl,hv,HB0.out.grown HG.out (by simp) (fun k hk=>by simp[Value.ownBlock]at hk;omega)⟩
theorem uX (S:Nat→Prop)(d:au)(cs:Array Value)(w:World)(hS: ∀b,S b→b<w.heap.size)(h:cQ w S d cs)(hd:ac d.val≤4611686018427387903):
  Calls Tryz.prog 78 #[.agg cs] w fun e w'=>e= .returned (.bool (co d))∧Below w.heap.size w w':=by
 obtain⟨PA,pc,VA,vc,VA',vc',rfl,hv,hp,hpc,hpn,hk,hn,hpl⟩:=h;obtain⟨w1,hw1⟩: ∃W,W=w.alloc (.cells #[.int .i64 d.kind,.slice PA d.path.length pc,.int .i64 d.val.kind,.int .i64 d.val.num,.string d.val.text,.slice VA d.val.items.length vc,.slice VA' d.val.names.length vc',.int .i64 d.num] 58):=⟨_,rfl⟩;have hbk:w1.heap[w.heap.size]? =some (.cells #[.int .i64 d.kind,.slice PA d.path.length pc,.int .i64 d.val.kind,.int .i64 d.val.num,.string d.val.text,.slice VA d.val.items.length vc,.slice VA' d.val.names.length vc',.int .i64 d.num] 58 (0,0)):=by rw[hw1];exact heap_alloc_new w _
 have hb1:Below w.heap.size w w1:=by rw[hw1];exact(Below.refl _ _).alloc (Nat.le_refl _) _
 have y0:=Go.Joins.cell_of_block hbk 0;have y1:=Go.Joins.cell_of_block hbk 1;have y2:=Go.Joins.cell_of_block hbk 2;have y3:=Go.Joins.cell_of_block hbk 3;have y4:=Go.Joins.cell_of_block hbk 4;have y5:=Go.Joins.cell_of_block hbk 5;have y6:=Go.Joins.cell_of_block hbk 6;have y7:=Go.Joins.cell_of_block hbk 7;have hS1: ∀b,S b→b<w1.heap.size:=fun b hb=>Nat.lt_of_lt_of_le (hS b hb) hb1.size;have hv1:=hv.keep fun b hb=>hb1.block b (hS b hb);have HMA:=hid (gU PA pc d.path w1 S (hp.keep fun b hb=>hb1.block b (hS b hb)) (by omega));have HCK:=hid (fl S d.val _ w1 hS1 hv1 hd);have HNO:=hid (nU S d.val _ w1 hS1 hv1);have HBK:=hid hbk;have HB1:=hid hb1;have HW1:=hid hw1;have HS:=hid hS;obtain⟨r,hr⟩: ∃r,r=co d:=⟨_,rfl⟩;have HR:=hid hr;rw[←hr];clear hbk hb1 hS1 hv1 hv hp hpc hpn hk hn hpl hd hS hr;go_enter Tryz.func78,Tryz.ntmps78;go_wp2_with fail;rw[←hw1];clear hw1;refine HMA.out.mono ?_;rintro e w2 ⟨rfl,rfl⟩;clear HMA;cases hmp:ce d.path
 ·go_wp2_with fail;go_ret;exact⟨by rw[HR.out];unfold co;rw[hmp];rfl,HB1.out⟩
 have HMP:=hid hmp;clear hmp;obtain⟨k,hk⟩: ∃k,k=d.kind:=⟨_,rfl⟩;rw[←hk]at y0;have HK:=hid hk.symm;clear hk;by_cases k1:k=1
 ·subst k1;go_wp2_with fail;refine HCK.out.mono ?_;rintro e w3 ⟨rfl,hb3⟩;have HB3:=hid (HB1.out.trans (hb3.mono HB1.out.size));have HBK3:=(hb3.block _ (Array.getElem?_eq_some_iff.1 HBK.out).1).trans HBK.out;have z7:=Go.Joins.cell_of_block HBK3 7;obtain⟨b1,d1⟩: ∃b,(az d.val == 0)=b:=⟨_,rfl⟩;obtain⟨b2,d2⟩: ∃b,(d.num == 0)=b:=⟨_,rfl⟩
  have HE:Hid (co d=(b1 && b2)):=hid (by
   rw[←d1,←d2];unfold co;rw[HMP.out,HK.out];rw[Bool.eq_iff_iff]
   simp)
  clear hb3 HBK3 HCK;cases b1<;>cases b2
  all_goals
   go_wp2_with fail;go_ret;exact⟨by rw[HR.out,HE.out];rfl,HB3.out⟩
 have e1:=beq_false_of_ne k1;by_cases k2:k=2
 ·subst k2;go_wp2_with fail;refine HNO.out.mono ?_;rintro e w3 ⟨rfl,hb3⟩;have HB3:=hid (HB1.out.trans (hb3.mono HB1.out.size));have HBK3:=(hb3.block _ (Array.getElem?_eq_some_iff.1 HBK.out).1).trans HBK.out;have z7:=Go.Joins.cell_of_block HBK3 7;obtain⟨b1,d1⟩: ∃b,dO d.val=b:=⟨_,rfl⟩;obtain⟨b2,d2⟩: ∃b,(d.num == 0)=b:=⟨_,rfl⟩
  have HE:Hid (co d=(b1 && b2)):=hid (by
   rw[←d1,←d2];unfold co;rw[HMP.out,HK.out];rw[Bool.eq_iff_iff]
   simp)
  clear hb3 HBK3 HNO;cases b1<;>cases b2
  all_goals
   go_wp2_with fail;go_ret;exact⟨by rw[HR.out,HE.out];rfl,HB3.out⟩
 have e2:=beq_false_of_ne k2;by_cases k3:k=3
 ·subst k3;go_wp2_with fail;refine HNO.out.mono ?_;rintro e w3 ⟨rfl,hb3⟩;have HB3:=hid (HB1.out.trans (hb3.mono HB1.out.size));have HBK3:=(hb3.block _ (Array.getElem?_eq_some_iff.1 HBK.out).1).trans HBK.out;have z7:=Go.Joins.cell_of_block HBK3 7;obtain⟨b1,d1⟩: ∃b,dO d.val=b:=⟨_,rfl⟩;obtain⟨b2,d2⟩: ∃b,decide (d.num≥0)=b:=⟨_,rfl⟩;obtain⟨b3,d3⟩: ∃b,decide (d.num≤999)=b:=⟨_,rfl⟩
  have HE:Hid (co d=(b1 && (b2 && b3))):=hid (by
   rw[←d1,←d2,←d3];unfold co;rw[HMP.out,HK.out];rw[Bool.eq_iff_iff]
   simp)
  clear hb3 HBK3 HNO;cases b1<;>cases b2<;>cases b3
  all_goals
   go_wp2_with fail;go_ret;exact⟨by rw[HR.out,HE.out];rfl,HB3.out⟩
 have e3:=beq_false_of_ne k3
 have HN:Hid (co d=false):=hid (by
  unfold co;rw[HK.out]
  simp[k1,k2,k3])
 clear k1 k2 k3;go_wp2_with fail;go_ret;exact⟨by rw[HR.out,HN.out];rfl,HB1.out⟩
end Go.Proofs.YtgbopnlpaabelaaGreatDoor
