/- A literal of one or two operators in memory; apart, of the update's laws. -/
import Derived.Test.YtgbopnlpaabelaaGreatDoorKUpCd
import Derived.Test.YtgbopnlpaabelaaGreatDoorKSpM
import Derived.Test.YtgbopnlpaabelaaGreatDoorKUpLv
set_option maxHeartbeats 64000000
set_option maxRecDepth 100000
set_option linter.unusedVariables false
set_option linter.unusedSimpArgs false
namespace Go.Proofs.YtgbopnlpaabelaaGreatDoor
open Lib (hid)
open Go.RowKit
theorem ix {W:World}{S:Nat→Prop}{l:List OpT}{OA:Option Addr}(h:dQ W S OA l)(hn:l.length≤1000):cw W S ⟨false,aT,l⟩ #[.bool false,.int .i64 0,.int .i64 0,.string ⟨#[]⟩,.slice none 0 0,.slice none 0 0,.slice OA l.length l.length]:=
 ⟨none,0,none,0,OA,l.length,rfl,ic _ _,h,Nat.le_refl _,by show l.length≤1099511627776;omega⟩
theorem jw {W:World}{g k:Nat}{xs:Array Value}{ty:TypeId}{cs:Array Value}(h:W.heap[g]? =some (.cells xs ty (0,0)))(hk: ∀j,j<cs.size→xs[k+j]? =cs[j]?): ∀j v,cs[j]? =some v→W.cell? ⟨g,0+k+j,none⟩=some v:=fun j v hj=>by
 rw[Nat.zero_add];have hl:j<cs.size:=(Array.getElem?_eq_some_iff.1 hj).1;have h1:=Go.Joins.cell_of_block h (k+j);rw[h1,hk j hl,hj]
theorem uo {W:World}{S:Nat→Prop}{g:Nat}{ty:TypeId}{a:OpT}{cs:Array Value}(h:W.heap[g]? =some (.cells cs ty (0,0)))(hg:S g)(ha:OpL W S a cs):dQ W S (some ⟨g,0,none⟩) [a]:=fun _=>
 ⟨g,0,rfl,hg,fun i hi=>by
  have hi:i<1:=hi;obtain rfl:i=0:=by omega
  exact⟨cs,jw (k:=0 * 8) h (fun j _=>by rw[Nat.zero_mul,Nat.zero_add]),ha⟩⟩
theorem qp {W:World}{S:Nat→Prop}{g:Nat}{ty:TypeId}{a b:OpT}{c0 c1 c2 c3 c4 c5 c6 c7 d0 d1 d2 d3 d4 d5 d6 d7:Value}(h:W.heap[g]? =some (.cells #[c0,c1,c2,c3,c4,c5,c6,c7,d0,d1,d2,d3,d4,d5,d6,d7] ty (0,0)))(hg:S g)(ha:OpL W S a #[c0,c1,c2,c3,c4,c5,c6,c7])(hb:OpL W S b #[d0,d1,d2,d3,d4,d5,d6,d7]):dQ W S (some ⟨g,0,none⟩) [a,b]:=fun _=>
 ⟨g,0,rfl,hg,fun i hi=>by
  have hi:i<2:=hi;rcases i with _|_|i
  ·exact⟨_,jw (k:=0 * 8) h (fun j hj=>by
    have hj:j<8:=hj;rw[Nat.zero_mul,Nat.zero_add]
    match j,hj with
    |0,_=>rfl
    |1,_=>rfl
    |2,_=>rfl
    |3,_=>rfl
    |4,_=>rfl
    |5,_=>rfl
    |6,_=>rfl
    |7,_=>rfl),ha⟩
  ·exact⟨_,jw (k:=(0+1) * 8) h (fun j hj=>by
    have hj:j<8:=hj
    match j,hj with
    |0,_=>rfl
    |1,_=>rfl
    |2,_=>rfl
    |3,_=>rfl
    |4,_=>rfl
    |5,_=>rfl
    |6,_=>rfl
    |7,_=>rfl),hb⟩
  ·omega⟩
def qJ (cs:Array Value):Prop:= ∀PA n pc,cs[1]? =some (.slice PA n pc)→pc≤9223372036854775807
theorem mq {W:World}{g:Nat}{ty:TypeId}{a b:OpT}{c0 c1 c2 c3 c4 c5 c6 c7 d0 d1 d2 d3 d4 d5 d6 d7:Value}(h:W.heap[g]? =some (.cells #[c0,c1,c2,c3,c4,c5,c6,c7,d0,d1,d2,d3,d4,d5,d6,d7] ty (0,0)))(ha:qJ #[c0,c1,c2,c3,c4,c5,c6,c7])(hb:qJ #[d0,d1,d2,d3,d4,d5,d6,d7]):jX W (some ⟨g,0,none⟩) [a,b]:=fun k hk b' off hA PA n pc hc=>by
 have hk:k<2:=hk;injection hA with hA
 injection hA with h1 h2
 subst h1 h2;rcases k with _|_|k
 ·have h3:=Go.Joins.cell_of_block h 1;exact ha PA n pc (h3.symm.trans hc)
 ·have h3:=Go.Joins.cell_of_block h 9;exact hb PA n pc (h3.symm.trans hc)
 ·omega
def sQ (a b:OpT):Prop:= ∀p∈bk a,∀q∈bk b,p.head? ≠q.head?
theorem fQ (a:OpT):aD [a]=bk a:=by simp[aD]
theorem gr {a:OpT}(h:bc a=true): ∀p∈aD [a],0<p.length:=
 (tz (s:=⟨false,aT,[a]⟩) (by unfold bO;simp[mA,h]) rfl).2.2
theorem wV (a b:OpT)(cs ds:Array Value)(w:World)(ha:OpL w (fun b=>b<w.heap.size) a cs)(hb:OpL w (fun b=>b<w.heap.size) b ds)(ma:bc a=true)(mb:bc b=true):
  Calls Tryz.prog 27 #[.agg cs,.agg ds] w fun e w'=>(∃r:Bool,e= .returned (.bool r)∧(r=true↔sQ a b))∧Below w.heap.size w w':=by
 have hla:=ha;have hlb:=hb;obtain⟨PA,Pc,a1,a2,a3,a4,a5,TA,Tc,rfl,hav,-,-,-,-,-,-,-⟩:=ha;obtain⟨VA,Vc,VA',Vc',hvs,-⟩:=hav.shape;simp only[Value.agg.injEq,Array.mk.injEq,List.cons.injEq,and_true]at hvs;obtain⟨rfl,rfl,rfl,rfl,rfl⟩:=hvs;obtain⟨QA,Qc,b1,b2,b3,b4,b5,UA,Uc,rfl,hbv,-,-,-,-,-,-,-⟩:=hb;obtain⟨XA,Xc,XA',Xc',hvs,-⟩:=hbv.shape;simp only[Value.agg.injEq,Array.mk.injEq,List.cons.injEq,and_true]at hvs;obtain⟨rfl,rfl,rfl,rfl,rfl⟩:=hvs;obtain⟨w1,hw1⟩: ∃W,W=((w.alloc (.cells #[.int .i64 a.kind,.slice PA a.path.length Pc,.int .i64 a.val.kind,.int .i64 a.val.num,.string a.val.text,.slice VA a.val.items.length Vc,.slice VA' a.val.names.length Vc',.slice TA a.to.length Tc] 51)).alloc (.cells #[.int .i64 b.kind,.slice QA b.path.length Qc,.int .i64 b.val.kind,.int .i64 b.val.num,.string b.val.text,.slice XA b.val.items.length Xc,.slice XA' b.val.names.length Xc',.slice UA b.to.length Uc] 51)).alloc (.cells #[.int .i64 a.kind,.slice PA a.path.length Pc,.int .i64 a.val.kind,.int .i64 a.val.num,.string a.val.text,.slice VA a.val.items.length Vc,.slice VA' a.val.names.length Vc',.slice TA a.to.length Tc] 51):=⟨_,rfl⟩;have hz1:(w.alloc (.cells #[.int .i64 a.kind,.slice PA a.path.length Pc,.int .i64 a.val.kind,.int .i64 a.val.num,.string a.val.text,.slice VA a.val.items.length Vc,.slice VA' a.val.names.length Vc',.slice TA a.to.length Tc] 51)).heap.size=w.heap.size+1:=by simp
 have hz2:((w.alloc (.cells #[.int .i64 a.kind,.slice PA a.path.length Pc,.int .i64 a.val.kind,.int .i64 a.val.num,.string a.val.text,.slice VA a.val.items.length Vc,.slice VA' a.val.names.length Vc',.slice TA a.to.length Tc] 51)).alloc (.cells #[.int .i64 b.kind,.slice QA b.path.length Qc,.int .i64 b.val.kind,.int .i64 b.val.num,.string b.val.text,.slice XA b.val.items.length Xc,.slice XA' b.val.names.length Xc',.slice UA b.to.length Uc] 51)).heap.size=w.heap.size+2:=by simp
 have hz3:w1.heap.size=w.heap.size+3:=by rw[hw1];simp
 have h1:w1.heap[w.heap.size+1]? =some (.cells #[.int .i64 b.kind,.slice QA b.path.length Qc,.int .i64 b.val.kind,.int .i64 b.val.num,.string b.val.text,.slice XA b.val.items.length Xc,.slice XA' b.val.names.length Xc',.slice UA b.to.length Uc] 51 (0,0)):=by rw[hw1,Below.heap_alloc _ _ _ (by omega),←hz1];exact heap_alloc_new _ _
 have h2:w1.heap[w.heap.size+2]? =some (.cells #[.int .i64 a.kind,.slice PA a.path.length Pc,.int .i64 a.val.kind,.int .i64 a.val.num,.string a.val.text,.slice VA a.val.items.length Vc,.slice VA' a.val.names.length Vc',.slice TA a.to.length Tc] 51 (0,0)):=by rw[hw1,←hz2];exact heap_alloc_new _ _
 have hb1:Below w.heap.size w w1:=by rw[hw1];exact(((Below.refl _ _).alloc (Nat.le_refl _) _).alloc (by omega) _).alloc (by omega) _
 have hk1: ∀b,b<w.heap.size→w1.heap[b]? =w.heap[b]? :=fun b hb=>hb1.block b hb;obtain⟨ps,hps⟩: ∃ps,ps=aD [a]:=⟨_,rfl⟩;obtain⟨qs,hqs⟩: ∃qs,qs=aD [b]:=⟨_,rfl⟩
 have HPL:Hid (Calls Tryz.prog 53 #[.agg #[.bool false,.int .i64 0,.int .i64 0,.string ⟨#[]⟩,.slice none 0 0,.slice none 0 0,.slice (some ⟨w.heap.size+2,0,none⟩) 1 1]] w1 fun e w'=> ∃A c,e= .returned (.slice A ps.length c)∧PlR w' (fun b=>b<w1.heap.size) (w1.heap.size+1) A c ps∧Below w1.heap.size w1 w'):=hid (by
  rw[hps]
  exact lr (fun b=>b<w1.heap.size) ⟨false,aT,[a]⟩ _ w1 (fun b hb=>hb) (ix (l:=[a]) (uo h2 (by omega) ((hla.keep hk1).imp fun b hb=>by omega)) (by simp)) (by simp))
 have HLB:Hid (OpL w1 (fun b=>b<w1.heap.size) b #[.int .i64 b.kind,.slice QA b.path.length Qc,.int .i64 b.val.kind,.int .i64 b.val.num,.string b.val.text,.slice XA b.val.items.length Xc,.slice XA' b.val.names.length Xc',.slice UA b.to.length Uc]):=hid ((hlb.keep hk1).imp fun b hb=>by omega);have HP:Hid ((∀p∈ps,0<p.length)∧(∀q∈qs,0<q.length)∧(sQ a b↔ ∀p∈ps,∀q∈qs,p.head? ≠q.head?)):=hid ⟨hps▸gr ma,hqs▸gr mb,by rw[hps,hqs,fQ,fQ];exact Iff.rfl⟩;have HB1:=hid hb1;have H1:=hid h1;have HZ:=hid hz3;have HQS:=hid hqs;have hnp:ps.length≤1000:=by rw[hps];have:=ju [a];simp at this;omega
 have hnq:qs.length≤1000:=by rw[hqs];have:=ju [b];simp at this;omega
 clear hla hlb hav hbv ma mb hz1 hz2 hz3 h1 h2 hb1 hk1 hps hqs;go_enter Tryz.func27,Tryz.ntmps27;go_wp2_with fail;rw[←hw1];clear hw1;refine HPL.out.mono ?_;rintro e w4 ⟨A,c,rfl,hpr,hb4⟩;have HAT:=hid hpr.at;have HB4:=hid hb4;clear hpr hb4 HPL;have hx4:w4.heap[w.heap.size+1]? =some (.cells #[.int .i64 b.kind,.slice QA b.path.length Qc,.int .i64 b.val.kind,.int .i64 b.val.num,.string b.val.text,.slice XA b.val.items.length Xc,.slice XA' b.val.names.length Xc',.slice UA b.to.length Uc] 51 (0,0)):=(HB4.out.block _ (by have:=HZ.out;omega)).trans H1.out;obtain⟨w5,hw5⟩: ∃W,W=w4.alloc (.cells #[.int .i64 b.kind,.slice QA b.path.length Qc,.int .i64 b.val.kind,.int .i64 b.val.num,.string b.val.text,.slice XA b.val.items.length Xc,.slice XA' b.val.names.length Xc',.slice UA b.to.length Uc] 51):=⟨_,rfl⟩;have h5:w5.heap[w4.heap.size]? =some (.cells #[.int .i64 b.kind,.slice QA b.path.length Qc,.int .i64 b.val.kind,.int .i64 b.val.num,.string b.val.text,.slice XA b.val.items.length Xc,.slice XA' b.val.names.length Xc',.slice UA b.to.length Uc] 51 (0,0)):=by rw[hw5];exact heap_alloc_new _ _
 have hz5:w5.heap.size=w4.heap.size+1:=by rw[hw5];simp
 have hb5:Below w4.heap.size w4 w5:=by rw[hw5];exact df _ _
 have HPL:Hid (Calls Tryz.prog 53 #[.agg #[.bool false,.int .i64 0,.int .i64 0,.string ⟨#[]⟩,.slice none 0 0,.slice none 0 0,.slice (some ⟨w4.heap.size,0,none⟩) 1 1]] w5 fun e w'=> ∃A c,e= .returned (.slice A qs.length c)∧PlR w' (fun b=>b<w5.heap.size) (w5.heap.size+1) A c qs∧Below w5.heap.size w5 w'):=hid (by
  rw[HQS.out]
  exact lr (fun b=>b<w5.heap.size) ⟨false,aT,[b]⟩ _ w5 (fun b hb=>hb) (ix (l:=[b]) (uo h5 (by omega) ((HLB.out.keep fun b hb=>(hb5.block b (Nat.lt_of_lt_of_le hb HB4.out.size)).trans (HB4.out.block b hb)).imp fun b hb=>by have:=HB4.out.size;omega)) (by simp)) (by simp))
 have HB5:=hid hb5;have y0:=Go.Joins.cell_of_block hx4 0;have y1:=Go.Joins.cell_of_block hx4 1;have y2:=Go.Joins.cell_of_block hx4 2;have y3:=Go.Joins.cell_of_block hx4 3;have y4:=Go.Joins.cell_of_block hx4 4;have y5:=Go.Joins.cell_of_block hx4 5;have y6:=Go.Joins.cell_of_block hx4 6;have y7:=Go.Joins.cell_of_block hx4 7;clear hx4 h5 hz5 hb5;go_wp2_with fail;rw[←hw5];clear hw5 y0 y1 y2 y3 y4 y5 y6 y7;refine HPL.out.mono ?_;rintro e w6 ⟨A2,c2,rfl,hpr,hb6⟩;have HQT:=hid hpr.at;have HB6:Hid (Below w.heap.size w w6):=hid (((HB1.out.trans (HB4.out.mono HB1.out.size)).trans (HB5.out.mono (Nat.le_trans HB1.out.size HB4.out.size))).trans (hb6.mono (Nat.le_trans (Nat.le_trans HB1.out.size HB4.out.size) HB5.out.size)));replace HAT:=hid ((HAT.out.below (fun b hb=>Nat.lt_of_lt_of_le hb HB4.out.size) HB5.out).below (fun b hb=>Nat.lt_of_lt_of_le hb (Nat.le_trans HB4.out.size HB5.out.size)) hb6);have HS6:Hid ((∀b,b<w1.heap.size→b<w6.heap.size)∧ ∀b,b<w5.heap.size→b<w6.heap.size):=hid ⟨fun b hb=>by have:=HB4.out.size;have:=HB5.out.size;have:=hb6.size;omega,fun b hb=>Nat.lt_of_lt_of_le hb hb6.size⟩;clear hpr hb6 HPL;go_wp2_with fail
 go_loopw [7,8] (fun i i8 wq=> ∃k:Nat,i= .int .i64 k∧k≤ps.length∧Hid (Below w6.heap.size w6 wq)∧Hid (∀j (h:j<ps.length),j<k→ ∀m (hm:m<qs.length),ps[j].head? ≠qs[m].head?)) (fun i _ _=>ps.length - (intOf i).toNat)
 case atStart=>exact⟨0,rfl,by omega,hid (Below.refl _ _),hid fun j _ h=>absurd h (by omega)⟩
 case round=>
  obtain⟨k,rfl,hk,HB,HM⟩:=hrel;by_cases hlt:k<ps.length
  ·have d1:decide ((k:Int)<(ps.length:Int))=true:=decide_eq_true (by omega);obtain⟨rb,roff,rfl,hrb,hc⟩:=HAT.out (by omega);have HCC:=hid hc;have HRB:=hid hrb;clear hc hrb;go_wp2_with fail
   go_loopw [8] (fun i wq=> ∃m:Nat,i= .int .i64 m∧m≤qs.length∧Hid (Below w6.heap.size w6 wq)∧Hid (∀j (h:j<qs.length),j<m→ps[k].head? ≠qs[j].head?)) (fun i _=>qs.length - (intOf i).toNat)
   case atStart=>exact⟨0,rfl,by omega,HB,hid fun j _ h=>absurd h (by omega)⟩
   case round=>
    obtain⟨m,rfl,hm,HB,HM2⟩:=hrel;by_cases hmq:m<qs.length
    ·have d3:decide ((m:Int)<(qs.length:Int))=true:=decide_eq_true (by omega);obtain⟨sb,soff,rfl,hsb,hd⟩:=HQT.out (by omega);obtain⟨v1,hc1,P1,pc1,rfl,hst1,-,-⟩:=HCC.out k hlt;obtain⟨v2,hc2,P2,pc2,rfl,hst2,-,-⟩:=hd m hmq;have hp1:=HP.out.1 _ (List.getElem_mem hlt);have hp2:=HP.out.2.1 _ (List.getElem_mem hmq);obtain⟨b1,o1,rfl,hs1,hcell1⟩:=hst1 hp1;obtain⟨b2,o2,rfl,hs2,hcell2⟩:=hst2 hp2;have hx1:=(hcell1 0 hp1).1;have hx2:=(hcell2 0 hp2).1;rw[Nat.add_zero]at hx1 hx2;have hh1:ps[k].head? =some ps[k][0]:=by rw[List.head?_eq_getElem?,List.getElem?_eq_getElem hp1]
     have hh2:qs[m].head? =some qs[m][0]:=by rw[List.head?_eq_getElem?,List.getElem?_eq_getElem hp2]
     obtain⟨x,hx⟩: ∃x,x=ps[k][0]:=⟨_,rfl⟩;obtain⟨y,hy⟩: ∃y,y=qs[m][0]:=⟨_,rfl⟩;rw[←hx]at hx1 hh1;rw[←hy]at hx2 hh2;have q1:rb<w6.heap.size:=HRB.out;have q3:=HS6.out.1 b1 hs1;have q4:=HS6.out.2 b2 hs2;have t1:wr.cell? ⟨rb,roff+k,none⟩=some (.slice (some ⟨b1,o1,none⟩) ps[k].length pc1):=(World.cell?_of_block (a:=⟨rb,roff+k,none⟩) (HB.out.block rb q1)).trans hc1;have t2:wr.cell? ⟨sb,soff+m,none⟩=some (.slice (some ⟨b2,o2,none⟩) qs[m].length pc2):=(World.cell?_of_block (a:=⟨sb,soff+m,none⟩) (HB.out.block sb hsb)).trans hc2;have t3:wr.cell? ⟨b1,o1,none⟩=some (.string x):=(World.cell?_of_block (a:=⟨b1,o1,none⟩) (HB.out.block b1 q3)).trans hx1;have t4:wr.cell? ⟨b2,o2,none⟩=some (.string y):=(World.cell?_of_block (a:=⟨b2,o2,none⟩) (HB.out.block b2 q4)).trans hx2;have r1:rb<wr.heap.size:=Nat.lt_of_lt_of_le q1 HB.out.size;have r2:sb<wr.heap.size:=Nat.lt_of_lt_of_le hsb HB.out.size;have r3:b1<wr.heap.size:=Nat.lt_of_lt_of_le q3 HB.out.size;have r4:b2<wr.heap.size:=Nat.lt_of_lt_of_le q4 HB.out.size;obtain⟨n1,hn1⟩: ∃n,n=ps[k].length:=⟨_,rfl⟩;obtain⟨n2,hn2⟩: ∃n,n=qs[m].length:=⟨_,rfl⟩;rw[←hn1]at t1 hp1;rw[←hn2]at t2 hp2;have dl1:decide ((0:Int)<(n1:Int))=true:=decide_eq_true (by omega);have dl2:decide ((0:Int)<(n2:Int))=true:=decide_eq_true (by omega);have HH:=hid (And.intro hh1 hh2);clear hc1 hc2 hst1 hst2 hcell1 hcell2 hx1 hx2 hh1 hh2 hx hy q1 q3 q4 hs1 hs2 hn1 hn2 hd hsb;obtain⟨r,hr⟩: ∃r,r=decide (x=y):=⟨_,rfl⟩;have d2:(x.toList == y.toList)=r:=by rw[hr];exact eO ..
     have HR:=hid hr;clear hr;go_wp2_with fail;refine bq [0,1,2,3,4,5,6,7,8,9,10,11,12] (by kernel_rfl) (by kernel_rfl) (fun _ d _ _ _ h=>by cases d<;>exact h) ?_;simp only[atR];have u1:=aa (B:=wr.heap.size) (w:=wr.drew) t1 r1;have u2:=aa (B:=wr.heap.size) (w:=wr.drew) t2 r2;have u3:=aa (B:=wr.heap.size) (w:=wr.drew) t3 r3;have u4:=aa (B:=wr.heap.size) (w:=wr.drew) t4 r4;first|with_reducible refine ak ?_ |with_reducible refine ag ?_ |refine ak ?_ |refine ag ?_
     simp only[List.takeWhile,List.dropWhile,aF,Nat.reduceBNe];repeat(go_big_quiet_step (fail))
     first|with_reducible refine wpQuiet_nil ?_ |refine wpQuiet_nil ?_
     unfold br;have HBD:Hid (Below w6.heap.size w6 wr.drew):=hid (HB.out.trans (show Below w6.heap.size wr wr.drew from((Below.refl _ _).drew).mono HB.out.size));clear u1 u2 u3 u4 t1 t2 t3 t4 r1 r2 r3 r4;cases r
     ·have HR':=hid (of_decide_eq_false HR.out.symm);go_wp2_with fail
      go_roundw
      case rel=>exact⟨m+1,by go_num,by omega,HBD,hid fun j h hjk=>by
       by_cases e:j=m
       ·subst e;rw[HH.out.1,HH.out.2];intro e2;injection e2 with e2
        exact HR'.out e2
       ·exact HM2.out j h (by omega)⟩
      case measure=>simp[intOf];omega
     ·go_wp2_with fail;go_ret;refine⟨⟨false,rfl,⟨fun h=>(Bool.noConfusion h),fun h=> ?_⟩⟩,HB6.out.trans (HBD.out.mono HB6.out.size)⟩;refine absurd (HP.out.2.2.1 h _ (List.getElem_mem hlt) _ (List.getElem_mem hmq)) ?_;rw[HH.out.1,HH.out.2];have e:x=y:=of_decide_eq_true HR.out.symm;simp[e]
    ·have d3:decide ((m:Int)<(qs.length:Int))=false:=decide_eq_false (by omega);go_wp2_with fail
     go_roundw
     case rel=>exact⟨k+1,by go_num,by omega,HB,hid fun j h hjk i hi=>by
      by_cases e:j=k
      ·subst e;exact HM2.out i hi (by omega)
      ·exact HM.out j h (by omega) i hi⟩
     case measure=>simp[intOf];omega
  ·have d1:decide ((k:Int)<(ps.length:Int))=false:=decide_eq_false (by omega);go_wp2_with fail;go_ret;refine⟨⟨true,rfl,⟨fun _=> ?_,fun _=>rfl⟩⟩,HB6.out.trans (HB.out.mono HB6.out.size)⟩;refine HP.out.2.2.2 fun p hp q hq=> ?_;obtain⟨i,hi,rfl⟩:=List.mem_iff_getElem.1 hp;obtain⟨j,hj,rfl⟩:=List.mem_iff_getElem.1 hq;exact HM.out i hi (by omega) j hj
end Go.Proofs.YtgbopnlpaabelaaGreatDoor
