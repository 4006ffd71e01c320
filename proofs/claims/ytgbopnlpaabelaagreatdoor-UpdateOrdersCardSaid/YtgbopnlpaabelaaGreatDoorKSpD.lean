/- Whether all operators of a row may be, by the program. -/
import Derived.Test.YtgbopnlpaabelaaGreatDoorKTrE
import Derived.RangeFuncNested
import Derived.RangeFuncBound
import Derived.RangeFuncCalls
import Derived.RangeFuncLeaves
import Derived.Shelf.Abstract
import Derived.Shelf.RegionOpen
import Derived.WalkKit
import Derived.OwnWalkIn
import Derived.TacticsInMore
import Derived.LoopNIn
import Derived.LoopIn
set_option maxHeartbeats 64000000
set_option maxRecDepth 100000
set_option linter.unusedVariables false
set_option linter.unusedSimpArgs false
namespace Go.Proofs.YtgbopnlpaabelaaGreatDoor
open Lib (hid)
open Go.RowKit
def dQ (w:World)(S:Nat→Prop)(A:Option Addr)(l:List OpT):Prop:=
 0<l.length→ ∃b off,A=some ⟨b,off,none⟩∧S b∧ ∀i (h:i<l.length),∃cs:Array Value,(∀j v,cs[j]? =some v→w.cell? ⟨b,off+i * 8+j,none⟩=some v)∧OpL w S l[i] cs
theorem dQ.keep {w w':World}{S:Nat→Prop}{A:Option Addr}{l:List OpT}(h:dQ w S A l)(hk: ∀b,S b→w'.heap[b]? =w.heap[b]?):dQ w' S A l:=fun hp=>by
 obtain⟨b,off,hA,hb,hc⟩:=h hp;refine⟨b,off,hA,hb,fun i hi=> ?_⟩;obtain⟨cs,h1,h2⟩:=hc i hi;exact⟨cs,fun j v hv=>(World.cell?_of_block (a:=⟨b,off+i * 8+j,none⟩) (hk b hb)).trans (h1 j v hv),h2.keep hk⟩
theorem dQ.imp {w:World}{S S':Nat→Prop}{A:Option Addr}{l:List OpT}(h:dQ w S A l)(hS: ∀b,S b→S' b):dQ w S' A l:=fun hp=>by
 obtain⟨b,off,hA,hb,hc⟩:=h hp;refine⟨b,off,hA,hS b hb,fun i hi=> ?_⟩;obtain⟨cs,h1,h2⟩:=hc i hi;exact⟨cs,h1,h2.imp hS⟩
theorem dQ.below' {w w':World}{S:Nat→Prop}{A:Option Addr}{l:List OpT}{B:Nat}(h:dQ w S A l)(hS: ∀b,S b→b<B)(hb:Below B w w'):dQ w' S A l:=h.keep fun b hb'=>hb.block b (hS b hb')
theorem dQ.cells {w:World}{S:Nat→Prop}{A:Option Addr}{l:List OpT}(h:dQ w S A l)(k:Nat)(hk:k<l.length):
  ∃b off,A=some ⟨b,off,none⟩∧S b∧ ∃c0 c1 c2 c3 c4 c5 c6 c7,OpL w S l[k] #[c0,c1,c2,c3,c4,c5,c6,c7]∧
   w.cell? ⟨b,off+k * 8,none⟩=some c0∧w.cell? ⟨b,off+k * 8+1,none⟩=some c1∧w.cell? ⟨b,off+k * 8+2,none⟩=some c2∧w.cell? ⟨b,off+k * 8+3,none⟩=some c3∧w.cell? ⟨b,off+k * 8+4,none⟩=some c4∧w.cell? ⟨b,off+k * 8+5,none⟩=some c5∧w.cell? ⟨b,off+k * 8+6,none⟩=some c6∧w.cell? ⟨b,off+k * 8+7,none⟩=some c7:=by
 obtain⟨b,off,hA,hb,hc⟩:=h (by omega);obtain⟨cs,h1,h2⟩:=hc k hk;obtain⟨PA,pc,x0,x1,x2,x3,x4,TA,tc,e,-⟩:=id h2;subst e;exact⟨b,off,hA,hb,_,_,_,_,_,_,_,_,h2,h1 0 _ rfl,h1 1 _ rfl,h1 2 _ rfl,h1 3 _ rfl,h1 4 _ rfl,h1 5 _ rfl,h1 6 _ rfl,h1 7 _ rfl⟩
theorem qr (S:Nat→Prop)(o:OpT)(c0 c1 c2 c3 c4 c5 c6 c7:Value)(w:World)(hS: ∀b,S b→b<w.heap.size)(h:OpL w S o #[c0,c1,c2,c3,c4,c5,c6,c7])(hd:ac o.val≤4611686018427387903):
  Calls Tryz.prog 141 #[.agg #[c0,c1,c2,c3,c4,c5,c6,c7]] w fun e w'=>e= .returned (.bool (!bc o))∧Below w.heap.size w w':=by
 obtain⟨w1,hw1⟩: ∃W,W=w.alloc (.cells #[c0,c1,c2,c3,c4,c5,c6,c7] 51):=⟨_,rfl⟩;have hbk:w1.heap[w.heap.size]? =some (.cells #[c0,c1,c2,c3,c4,c5,c6,c7] 51 (0,0)):=by rw[hw1];exact heap_alloc_new w _
 have hb1:Below w.heap.size w w1:=by rw[hw1];exact(Below.refl _ _).alloc (Nat.le_refl _) _
 have HM:=hid (vT S o #[c0,c1,c2,c3,c4,c5,c6,c7] w1 (fun b hb=>Nat.lt_of_lt_of_le (hS b hb) hb1.size) (h.below hS hb1) hd);have y0:=Go.Joins.cell_of_block hbk 0;have y1:=Go.Joins.cell_of_block hbk 1;have y2:=Go.Joins.cell_of_block hbk 2;have y3:=Go.Joins.cell_of_block hbk 3;have y4:=Go.Joins.cell_of_block hbk 4;have y5:=Go.Joins.cell_of_block hbk 5;have y6:=Go.Joins.cell_of_block hbk 6;have y7:=Go.Joins.cell_of_block hbk 7;have HB1:=hid hb1;obtain⟨PA,pc,a,b,c,d,e,TA,tc,he,hv,-⟩:=h;obtain⟨VA,vc,VA',vc',hvs,-⟩:=hv.shape;simp only[Value.agg.injEq,Array.mk.injEq,List.cons.injEq,and_true]at hvs he;obtain⟨rfl,rfl,rfl,rfl,rfl,rfl,rfl,rfl⟩:=he;obtain⟨rfl,rfl,rfl,rfl,rfl⟩:=hvs;clear hbk hb1 hv hS hd;go_enter Tryz.func141,Tryz.ntmps141;go_wp2_with fail;rw[←hw1];refine HM.out.mono ?_;rintro e w2 ⟨rfl,hb2⟩;have HB2:=hid (HB1.out.trans (hb2.mono HB1.out.size));clear hb2 HM;go_wp2_with fail;go_ret;exact⟨rfl,HB2.out⟩
def pM (l:List OpT):Prop:= ∀o∈l,ac o.val≤4611686018427387903
theorem wh {α:Type}{p:α→Bool}{l:List α}(h: ∀j (h:j<l.length),p l[j]=true):l.all p=true:=by
 rw[List.all_eq_true];intro x hx;obtain⟨j,hj,rfl⟩:=List.mem_iff_getElem.1 hx;exact h j hj
theorem xu {α:Type}{p:α→Bool}{l:List α}{j:Nat}(hj:j<l.length)(h:p l[j]=false):l.all p=false:=by
 rw[List.all_eq_false];exact⟨l[j],List.getElem_mem hj,by rw[h];simp⟩
theorem wZ (S:Nat→Prop)(A:Option Addr)(c:Nat)(l:List OpT)(w:World)(hS: ∀b,S b→b<w.heap.size)(h:dQ w S A l)(hn:l.length≤140737488351232)(hd:pM l):
  Calls Tryz.prog 168 #[.slice A l.length c,.func (.func 141) #[] #[]] w fun e w'=>(∃i:Int,e= .returned (.int .i64 i)∧decide (0≤i)=(!(l.all bc)))∧Below w.heap.size w w':=by
 have H:=hid h;have HS:=hid hS;have HD:=hid hd;have HN:=hid hn;clear h hS hd;go_enter Tryz.func168,Tryz.ntmps168;go_wp2_with fail
 go_loopw [8] (fun i wr=> ∃k:Nat,i= .int .i64 k∧k≤l.length∧Hid (Below w.heap.size w wr)∧Hid (∀j (h:j<l.length),j<k→bc l[j]=true)) (fun i _=>l.length - (intOf i).toNat)
 case atStart=>exact⟨0,rfl,by omega,hid (Below.refl _ _),hid fun j _ h=>absurd h (by omega)⟩
 case round=>
  obtain⟨k,rfl,hk,HB,HJ⟩:=hrel;by_cases hlt:k<l.length
  ·have hS2: ∀b,S b→b<wr.heap.size:=fun b hb=>Nat.lt_of_lt_of_le (HS.out b hb) HB.out.size;obtain⟨p,off,rfl,hpS,c0,c1,c2,c3,c4,c5,c6,c7,ho,x0,x1,x2,x3,x4,x5,x6,x7⟩:=(H.out.below' HS.out HB.out).cells k hlt;have HC:=hid (qr S l[k] c0 c1 c2 c3 c4 c5 c6 c7 wr hS2 ho (HD.out _ (List.getElem_mem hlt)));clear ho hS2 hpS;go_wp2_with fail;refine HC.out.mono ?_;rintro e u ⟨rfl,hb⟩;have HB2:=hid (HB.out.trans (hb.mono HB.out.size));clear hb HC x0 x1 x2 x3 x4 x5 x6 x7;cases hm:bc l[k]
   ·have HM:=hid hm;clear hm;go_wp2_with fail;go_ret;exact⟨⟨k,rfl,by rw[xu hlt HM.out];simp⟩,HB2.out⟩
   ·have HM:=hid hm;clear hm;go_wp2_with fail
    go_roundw
    case rel=>exact⟨k+1,by go_num,by omega,HB2,hid fun j h hjk=>by
     by_cases e:j=k
     ·subst e;exact HM.out
     ·exact HJ.out j h (by omega)⟩
    case measure=>simp[intOf];omega
  ·go_wp2_with fail;go_ret;exact⟨⟨-1,rfl,by rw[wh fun j h=>HJ.out j h (by omega)];rfl⟩,HB.out⟩
theorem tX (S:Nat→Prop)(A:Option Addr)(c:Nat)(l:List OpT)(w:World)(hS: ∀b,S b→b<w.heap.size)(h:dQ w S A l)(hn:l.length≤140737488351232)(hd:pM l):
  Calls Tryz.prog 140 #[.slice A l.length c,.func (.func 141) #[] #[]] w fun e w'=>e= .returned (.bool (!(l.all bc)))∧Below w.heap.size w w':=by
 have HC:=hid (wZ S A c l w hS h hn hd);clear h hS hd;go_enter Tryz.func140,Tryz.ntmps140;go_wp2_with fail;refine HC.out.mono ?_;rintro e u ⟨⟨i,rfl,hi⟩,hb⟩;have HI:=hid hi;have HB:=hid hb;clear hi hb HC;go_wp2_with fail;go_ret;exact⟨aM HI.out,HB.out⟩
theorem tK (S:Nat→Prop)(A:Option Addr)(c:Nat)(l:List OpT)(w:World)(hS: ∀b,S b→b<w.heap.size)(h:dQ w S A l)(hn:l.length≤140737488351232)(hd:pM l):
  Calls Tryz.prog 100 #[.slice A l.length c] w fun e w'=>e= .returned (.bool (l.all bc))∧Below w.heap.size w w':=by
 have HC:=hid (tX S A c l w hS h hn hd);clear h hS hd;go_enter Tryz.func100,Tryz.ntmps100;go_wp2_with fail;refine HC.out.mono ?_;rintro e u ⟨rfl,hb⟩;have HB:=hid hb;clear hb HC;obtain⟨b,hb⟩: ∃b,b=l.all bc:=⟨_,rfl⟩;rw[←hb];have HBE:=hid hb;clear hb;go_wp2_with fail;go_ret;exact⟨by rw[←HBE.out];cases b<;>rfl,HB.out⟩
def cw (w:World)(S:Nat→Prop)(s:bg)(cs:Array Value):Prop:=
  ∃(DA:Option Addr) (dc:Nat) (DA':Option Addr) (dc':Nat) (OA:Option Addr) (oc:Nat),cs= #[.bool s.rep,.int .i64 s.doc.kind,.int .i64 s.doc.num,.string s.doc.text,.slice DA s.doc.items.length dc,.slice DA' s.doc.names.length dc',.slice OA s.ops.length oc]∧
    LV w S s.doc (.agg #[.int .i64 s.doc.kind,.int .i64 s.doc.num,.string s.doc.text,.slice DA s.doc.items.length dc,.slice DA' s.doc.names.length dc'])∧dQ w S OA s.ops∧s.ops.length≤oc∧s.ops.length≤1099511627776
theorem cw.keep {w w':World}{S:Nat→Prop}{s:bg}{cs:Array Value}(h:cw w S s cs)(hk: ∀b,S b→w'.heap[b]? =w.heap[b]?):cw w' S s cs:=by
  obtain⟨DA,dc,DA',dc',OA,oc,h1,h2,h3,h4⟩:=h;exact⟨DA,dc,DA',dc',OA,oc,h1,h2.keep hk,h3.keep hk,h4⟩
theorem cw.below {w w':World}{S:Nat→Prop}{s:bg}{cs:Array Value}{B:Nat}(h:cw w S s cs)(hS: ∀b,S b→b<B)(hb:Below B w w'):cw w' S s cs:=h.keep fun b hb'=>hb.block b (hS b hb')
def mS (s:bg):Prop:=ac s.doc≤4611686018427387903∧pM s.ops
def nO (w:World)(g:Nat)(s:bg)(DA:Option Addr)(dc:Nat)(DA':Option Addr)(dc':Nat)(OA:Option Addr)(oc:Nat):Prop:=
  w.heap[g]? =some (.cells #[.bool s.rep,.int .i64 s.doc.kind,.int .i64 s.doc.num,.string s.doc.text,.slice DA s.doc.items.length dc,.slice DA' s.doc.names.length dc',.slice OA s.ops.length oc] 28 (0,0))
theorem nO.below {w w':World}{g:Nat}{s:bg}{DA:Option Addr}{dc:Nat}{DA':Option Addr}{dc':Nat}{OA:Option Addr}{oc:Nat}(h:nO w g s DA dc DA' dc' OA oc)(hb:Below w.heap.size w w'):nO w' g s DA dc DA' dc' OA oc:=(hb.block g (Array.getElem?_eq_some_iff.1 h).1).trans h
theorem tO (S:Nat→Prop)(s:bg)(cs:Array Value)(w:World)(hS: ∀b,S b→b<w.heap.size)(h:cw w S s cs)(hd:mS s):
    Calls Tryz.prog 57 #[.agg cs] w fun e w'=>e= .returned (.bool (bO s))∧Below w.heap.size w w':=by
  obtain⟨DA,dc,DA',dc',OA,oc,rfl,hv,ho,hoc,hol⟩:=h;obtain⟨w1,hw1⟩: ∃W,W=w.alloc (.cells #[.bool s.rep,.int .i64 s.doc.kind,.int .i64 s.doc.num,.string s.doc.text,.slice DA s.doc.items.length dc,.slice DA' s.doc.names.length dc',.slice OA s.ops.length oc] 28):=⟨_,rfl⟩;have hbk:nO w1 w.heap.size s DA dc DA' dc' OA oc:=by rw[hw1];exact heap_alloc_new w _
  have hb1:Below w.heap.size w w1:=by rw[hw1];exact(Below.refl _ _).alloc (Nat.le_refl _) _
  have hS1: ∀b,S b→b<w1.heap.size:=fun b hb=>Nat.lt_of_lt_of_le (hS b hb) hb1.size;have y0:=Go.Joins.cell_of_block hbk 0;have y1:=Go.Joins.cell_of_block hbk 1;have y2:=Go.Joins.cell_of_block hbk 2;have y3:=Go.Joins.cell_of_block hbk 3;have y4:=Go.Joins.cell_of_block hbk 4;have y5:=Go.Joins.cell_of_block hbk 5;have y6:=Go.Joins.cell_of_block hbk 6;have hv1:=hv.keep fun b hb=>hb1.block b (hS b hb);have HCK:=hid (fl S s.doc _ w1 hS1 hv1 hd.1);have HNO:=hid (nU S s.doc _ w1 hS1 hv1);have HB1:=hid hb1;have HBK:=hid hbk;have HO:=hid ho;have HS:=hid hS;have HD:=hid hd;have HOL:=hid hol;obtain⟨r,hr⟩: ∃r,r=bO s:=⟨_,rfl⟩;have HR:=hid hr;rw[←hr];clear hbk hb1 hS1 hv1 hv ho hoc hol hd hS hr;obtain⟨rp,hrp⟩: ∃rp,rp=s.rep:=⟨_,rfl⟩;have HRP:=hid hrp.symm;rw[←hrp]at y0 hw1 ⊢;obtain⟨n,hn⟩: ∃n,n=s.ops.length:=⟨_,rfl⟩;have HN:=hid hn;rw[←hn]at y6 hw1 ⊢;have HW1:=hid hw1;clear hrp hn;go_enter Tryz.func57,Tryz.ntmps57;cases rp
  · obtain⟨b1,d1⟩: ∃b,dO s.doc=b:=⟨_,rfl⟩
    obtain⟨b3,d3⟩: ∃b,decide ((n:Int)≤16)=b:=⟨_,rfl⟩;obtain⟨b4,d4⟩: ∃b,s.ops.all bc=b:=⟨_,rfl⟩
    have HE:Hid (bO s=(b1 && decide (0<n) && b3 && b4)):=hid (by
      rw[←d1,←d3,←d4];unfold bO;rw[HRP.out,HN.out,show decide ((s.ops.length:Int)≤16)=decide (s.ops.length≤16) from decide_eq_decide.2 (by omega)]
      simp)
    rw[d1]at HNO;clear d1 hw1;go_wp2_with fail;rw[←HW1.out];refine HNO.out.mono ?_;rintro e w2 ⟨rfl,hb2⟩;have HB2:=hid (HB1.out.trans (hb2.mono HB1.out.size));have hbk2:=HBK.out.below hb2;have z6:=Go.Joins.cell_of_block hbk2 6;rw[←HN.out]at z6;have HAM:=hid (tK S OA oc s.ops w2 (fun b hb=>Nat.lt_of_lt_of_le (HS.out b hb) HB2.out.size) (HO.out.below' HS.out HB2.out) (by have:=HOL.out;omega) HD.out.2);rw[d4,←HN.out]at HAM;clear d4 hb2 hbk2 HNO;cases b1
    · go_wp2_with fail
      go_ret;exact⟨by rw[HR.out,HE.out];rfl,HB2.out⟩
    rcases Nat.eq_zero_or_pos n with hz|hpos
    · have HE2:Hid (bO s=false):=hid (by rw[HE.out,hz];rfl)
      subst hz;go_wp2_with fail;go_ret;exact⟨by rw[HR.out,HE2.out];rfl,HB2.out⟩
    · have HE2:Hid (bO s=(b3 && b4)):=hid (by rw[HE.out,decide_eq_true hpos];simp)
      have hpos':decide (0<n)=true:=decide_eq_true hpos;cases b3
      · go_wp2_with fail
        go_ret;exact⟨by rw[HR.out,HE2.out];rfl,HB2.out⟩
      · go_wp2_with fail
        refine HAM.out.mono ?_;rintro e w3 ⟨rfl,hb3⟩;have HB3:=hid (HB2.out.trans (hb3.mono HB2.out.size));clear hb3;go_wp2_with fail;go_ret;exact⟨by rw[HR.out,HE2.out];rfl,HB3.out⟩
  · obtain⟨b1,d1⟩: ∃b,((n:Int) == 0)=b:=⟨_,rfl⟩
    obtain⟨b2,d2⟩: ∃b,(s.doc.kind == 7)=b:=⟨_,rfl⟩;obtain⟨b3,d3⟩: ∃b,(az s.doc == 0)=b:=⟨_,rfl⟩
    have HE:Hid (bO s=(b1 && b2 && b3)):=hid (by
      rw[←d1,←d2,←d3];unfold bO;rw[HRP.out,HN.out,Bool.eq_iff_iff]
      simp)
    clear hw1;cases b1<;>cases b2
    all_goals first
      |(go_wp2_with fail
        try rw[←HW1.out]
        go_ret
        exact⟨by rw[HR.out,HE.out];rfl,HB1.out⟩)
      |(go_wp2_with fail
        rw[←HW1.out];refine HCK.out.mono ?_;rintro e w3 ⟨rfl,hb3⟩;have HB3:=hid (HB1.out.trans (hb3.mono HB1.out.size));clear hb3;go_wp2_with fail;go_ret
        exact⟨by rw[HR.out,HE.out];rfl,HB3.out⟩)
end Go.Proofs.YtgbopnlpaabelaaGreatDoor
/- The program's iterator over the places of operators: for every loop body. -/
namespace Go.Proofs.YtgbopnlpaabelaaGreatDoor
open Lib (hid)
open Go.RowKit Go.Shelf
attribute [local go_sem] Oper.semAt_some
def fL (l:List OpT)(i:Nat):List Nat:=(List.range i).flatMap fun j=>if(l[j]?.map OpT.kind)=some 6 then [2 * j,2 * j+1]else [2 * j]
theorem cZ (l:List OpT)(i:Nat):fL l (i+1)=fL l i++(if(l[i]?.map OpT.kind)=some 6 then [2 * i,2 * i+1]else [2 * i]):=by
 simp[fL,List.range_succ]
def plT (l:List OpT)(x:Nat):List ByteArray:=match l[x / 2]? with
 |some o=>if x % 2=0 then o.path else o.to
 |none=>[]
theorem ro (l:List OpT)(i:Nat)(h:i<l.length):plT l (2 * i)=l[i].path:=by
 unfold plT;rw[show 2 * i / 2=i by omega,List.getElem?_eq_getElem h];simp
theorem AF (l:List OpT)(i:Nat)(h:i<l.length):plT l (2 * i+1)=l[i].to:=by
 unfold plT;rw[show(2 * i+1) / 2=i by omega,List.getElem?_eq_getElem h];simp only;rw[if_neg (by omega)]
theorem py (l:List OpT): ∀i,i≤l.length→(fL l i).map (plT l)=aD (l.take i)
 |0,_=>rfl
 |i+1,h=>by
  have hi:i<l.length:=by omega
  rw[cZ,List.map_append,py l i (by omega),List.take_add_one,List.getElem?_eq_getElem hi];unfold aD;rw[List.flatMap_append]
  congr 1
  simp only[Option.map_some,Option.some.injEq,Option.toList_some,List.flatMap_cons,List.flatMap_nil,List.append_nil];unfold bk
  split
  ·simp[ro l i hi,AF l i hi]
  ·simp[ro l i hi]
theorem iA (l:List OpT):(fL l l.length).map (plT l)=aD l:=by
 have h:=py l l.length (Nat.le_refl _);rwa[List.take_length]at h
theorem ie (l:List OpT): ∀k i,i+k≤l.length→ ∃r,fL l i++r=fL l (i+k)
 |0,i,_=>⟨[],by simp⟩
 |k+1,i,h=>by
  obtain⟨r,hr⟩:=ie l k i (by omega);exact⟨r++(if(l[i+k]?.map OpT.kind)=some 6 then [2 * (i+k),2 * (i+k)+1]else [2 * (i+k)]),by rw[←List.append_assoc,hr,show i+(k+1)=(i+k)+1 from rfl,cZ]⟩
theorem mh (l:List OpT){i x:Nat}(h:x∈fL l i):x / 2<i:=by
 unfold fL at h;obtain⟨j,hj,hx⟩:=List.mem_flatMap.1 h;have hj:=List.mem_range.1 hj
 split at hx
 ·rcases List.mem_cons.1 hx with rfl|hx
  ·omega
  ·rw[List.mem_singleton.1 hx];omega
 ·rw[List.mem_singleton.1 hx];omega
theorem nA (l:List OpT): ∀i,(fL l i).length≤2 * i
 |0=>by simp[fL]
 |i+1=>by
  rw[cZ,List.length_append];have:=nA l i
  split<;>simp<;>omega
abbrev PlX (l:List OpT):Type:= { x:Nat // x∈fL l l.length }
def plV (w:World)(b off:Nat)(x:Nat):Value:=(w.cell? ⟨b,off+x / 2 * 8+(if x % 2=0 then 1 else 7),none⟩).getD (.slice none 0 0)
theorem tw {w:World}{S:Nat→Prop}{b off:Nat}{l:List OpT}(h:dQ w S (some ⟨b,off,none⟩) l)(x:Nat)(hx:x / 2<l.length):
  ∃A c,plV w b off x= .slice A (plT l x).length c∧ai w S A (plT l x)∧(plT l x).length≤c∧(plT l x).length≤8796093021952:=by
 obtain⟨b',off',hA,-,c0,c1,c2,c3,c4,c5,c6,c7,ho,x0,x1,x2,x3,x4,x5,x6,x7⟩:=h.cells (x / 2) hx;injection hA with hA
 injection hA with e1 e2
 subst e1 e2;obtain⟨PA,pc,a,b2,c,d,e,TA,tc,he,-,hp,ht,hpc,htc,-,hpl,htl⟩:=ho;simp only[Array.mk.injEq,List.cons.injEq,and_true]at he;obtain⟨rfl,rfl,rfl,rfl,rfl,rfl,rfl,rfl⟩:=he;unfold plV plT;rw[List.getElem?_eq_getElem hx];simp only
 split
 ·rw[x1];exact⟨PA,pc,rfl,hp,hpc,hpl⟩
 ·rw[x7];exact⟨TA,tc,rfl,ht,htc,htl⟩
def KpO (X:Nat→Prop)(m:Nat)(W W':World):Prop:=W.heap.size≤W'.heap.size∧(∀b,b<m→ ¬X b→W'.heap[b]? =W.heap[b]?)∧ ∀(b:Nat) (cs:Array Value) (fr:Nat×Nat),W.heap[b]? =some (Obj.cells cs 51 fr)→W'.heap[b]? =some (Obj.cells cs 51 fr)
theorem KpO.refl (X:Nat→Prop)(m:Nat)(W:World):KpO X m W W:=⟨Nat.le_refl _,fun _ _ _=>rfl,fun _ _ _ h=>h⟩
theorem KpO.trans {X:Nat→Prop}{m:Nat}{A B C:World}(h:KpO X m A B)(k:KpO X m B C):KpO X m A C:=⟨Nat.le_trans h.1 k.1,fun b hb hx=>(k.2.1 b hb hx).trans (h.2.1 b hb hx),fun b cs fr hb=>k.2.2 b cs fr (h.2.2 b cs fr hb)⟩
theorem KpO.of_below {X:Nat→Prop}{m:Nat}{W W':World}(h:Below W.heap.size W W')(hm:m≤W.heap.size):KpO X m W W':=⟨h.size,fun b hb _=>h.block b (by omega),fun b cs fr hb=>(h.block b (Array.getElem?_eq_some_iff.1 hb).1).trans hb⟩
theorem AK {X:Nat→Prop}{m:Nat}{w:World}(hn:m≤w.heap.size)(W:World)(l:Nat)(o o':Obj)(hl:w.heap.size≤l)(h:W.heap[l]? =some o)(hc:o.isCells=false)(_:o.isWalk=false):KpO X m W (W.putObj l o'):=
 ⟨(grownBy_putObj' W l o').size,fun b hb _=>(grownBy_putObj' W l o').block b (by have:=(Array.getElem?_eq_some_iff.1 h).1;omega) (fun e=>by injection e with e;omega),fun b cs fr hb=>((grownBy_putObj' W l o').block b (Array.getElem?_eq_some_iff.1 hb).1 (fun e=>by
  injection e with e
  subst e;rw[h]at hb;injection hb with hb
  subst hb
  exact absurd hc (by simp[Obj.isCells]))).trans hb⟩
def lY {l:List OpT}(pre:List (PlX l)):List Nat:=pre.map Subtype.val
theorem eH {l:List OpT}(pre:List (PlX l))(x:PlX l):lY (pre++[x])=lY pre++[x.1]:=by simp[lY]
theorem uZ (F:Fence)(n:Nat)(hf:F.fn 143)(hro:F.round=none)(hn:1≤n)(y Bs m:Nat)(X:Nat→Prop)(S:Nat→Prop)(A:Option Addr)(c:Nat)(l:List OpT)(b off:Nat)(hb:0<l.length→A=some ⟨b,off,none⟩)(w0:World)(hlen:l.length≤1099511627776)(hBs:Bs<m∧ ¬X Bs)(hS: ∀b,S b→b<m∧ ¬X b)(J Jx:List (PlX l)→World→Prop)
  (hJ: ∀pre W o,J pre W→J pre (W.alloc o))
  (hY: ∀pre (x:PlX l) W,J pre W→pre.length<2 * l.length→YieldAt F (n - 1) Tryz.prog y #[plV w0 b off x.1] W fun e W'=>
   (e= .returned (.bool true)∧J (pre++[x]) W'∧KpO X m W W')∨(e= .returned (.bool false)∧Jx (pre++[x]) W'))
  (W:World) (hm:m≤W.heap.size) (hc:W.cell? ⟨Bs,0,none⟩=some (.slice A l.length c)) (hW0: ∀b,S b→W.heap[b]? =w0.heap[b]?) (hop:dQ w0 S A l) (h0:J [] W):
  CallsIn F n Tryz.prog 143 #[.func (.yield y) #[] #[],.pointer (some ⟨Bs,0,none⟩)] W fun e W'=>(∃v,e= .returned v)∧
   ((∃ys,lY ys=fL l l.length∧J ys W')∨(∃pre,(∃r,lY pre++r=fL l l.length)∧Jx pre W')):=by
 have HOP:=hid hop;have HW0:=hid hW0;clear hop hW0;refine callsIn_of_wp Tryz.func143 rfl hf ?_ hro;simp only[Tryz.ntmps143,List.size_toArray,List.length_cons,List.length_nil,Nat.reduceAdd,Nat.reduceSub,Array.replicate_succ,Array.replicate_zero,List.push_toArray,List.append_toArray,List.nil_append,List.cons_append]
 gi_wp2
 gi_loopw [7] (fun i wr=> ∃(k:Nat) (pre:List (PlX l)),i= .int .i64 k∧k≤l.length∧Hid (lY pre=fL l k)∧J pre wr∧Hid (KpO X m W wr))
  (fun i _=>l.length - (intOf i).toNat)
 case atStart=>exact⟨0,[],rfl,Nat.zero_le _,rfl,h0,hid (KpO.refl _ _ _)⟩
 case round=>
  obtain⟨k,pre,rfl,hk,HP,hJs,HK⟩:=hrel;by_cases hlt:k<l.length
  ·obtain rfl:=hb (by omega);obtain⟨b',off',hA,hSb,c0,c1,c2,c3,c4,c5,c6,c7,ho,x0,x1,x2,x3,x4,x5,x6,x7⟩:=HOP.out.cells k hlt;injection hA with hA
   injection hA with e1 e2
   subst e1 e2
   have hcell: ∀o v,w0.cell? ⟨b,o,none⟩=some v→wr.cell? ⟨b,o,none⟩=some v:=fun o v hv=>
    (World.cell?_of_block (a:=⟨b,o,none⟩) ((HK.out.2.1 b (hS b hSb).1 (hS b hSb).2).trans (HW0.out b hSb))).trans hv
   have hv1:plV w0 b off (2 * k)=c1:=by
    unfold plV;rw[show 2 * k / 2=k by omega,if_pos (by omega),x1];rfl
   have hv7:plV w0 b off (2 * k+1)=c7:=by
    unfold plV;rw[show(2 * k+1) / 2=k by omega,if_neg (by omega),x7];rfl
   replace x0:=hcell _ _ x0;replace x1:=hcell _ _ x1;replace x2:=hcell _ _ x2;replace x3:=hcell _ _ x3;replace x4:=hcell _ _ x4;replace x5:=hcell _ _ x5;replace x6:=hcell _ _ x6;replace x7:=hcell _ _ x7;have hmr:m≤wr.heap.size:=Nat.le_trans hm HK.out.1;obtain⟨PA,pc,a,b2,c',d,e,TA,tc,he,hlv,-⟩:=ho;obtain⟨VA,vc,VA',vc',hvs,-⟩:=hlv.shape;simp only[Value.agg.injEq,Array.mk.injEq,List.cons.injEq,and_true]at he hvs;obtain⟨rfl,rfl,rfl,rfl,rfl,rfl,rfl,rfl⟩:=he;obtain⟨rfl,rfl,rfl,rfl,rfl⟩:=hvs
   have hmem1:2 * k∈fL l l.length:=by
    obtain⟨r,hr⟩:=ie l (l.length - (k+1)) (k+1) (by omega);rw[show k+1+(l.length - (k+1))=l.length by omega]at hr;rw[←hr,cZ];simp only[List.mem_append];left;right
    split<;>simp
   have hpl:pre.length<2 * l.length:=by
    have h1:=congrArg List.length HP.out;unfold lY at h1;rw[List.length_map]at h1;have h2:=nA l k;omega
   have hcb:wr.cell? ⟨Bs,0,none⟩=some (.slice (some ⟨b,off,none⟩) l.length c):=(World.cell?_of_block (a:=⟨Bs,0,none⟩) (HK.out.2.1 Bs hBs.1 hBs.2)).trans hc;have hbk:(wr.alloc (.cells #[.int .i64 l[k].kind,.slice PA l[k].path.length pc,.int .i64 l[k].val.kind,.int .i64 l[k].val.num,.string l[k].val.text,.slice VA l[k].val.items.length vc,.slice VA' l[k].val.names.length vc',.slice TA l[k].to.length tc] 51)).heap[wr.heap.size]? =some (.cells #[.int .i64 l[k].kind,.slice PA l[k].path.length pc,.int .i64 l[k].val.kind,.int .i64 l[k].val.num,.string l[k].val.text,.slice VA l[k].val.items.length vc,.slice VA' l[k].val.names.length vc',.slice TA l[k].to.length tc] 51 (0,0)):=heap_alloc_new wr _;have hk1:KpO X m wr (wr.alloc (.cells #[.int .i64 l[k].kind,.slice PA l[k].path.length pc,.int .i64 l[k].val.kind,.int .i64 l[k].val.num,.string l[k].val.text,.slice VA l[k].val.items.length vc,.slice VA' l[k].val.names.length vc',.slice TA l[k].to.length tc] 51)):=KpO.of_below ((Below.refl _ _).alloc (Nat.le_refl _) _) hmr;obtain⟨fn,tmps,assign,body,hy,hR⟩:=hY pre ⟨2 * k,hmem1⟩ (wr.alloc (.cells #[.int .i64 l[k].kind,.slice PA l[k].path.length pc,.int .i64 l[k].val.kind,.int .i64 l[k].val.num,.string l[k].val.text,.slice VA l[k].val.items.length vc,.slice VA' l[k].val.names.length vc',.slice TA l[k].to.length tc] 51)) (hJ _ _ _ hJs) hpl;try dsimp only at hy
   rw[hv1]at hy;have HBK:=hid hbk;have HK1:=hid (HK.out.trans hk1);have HMR:=hid hmr;have HPL:=hid hpl;have HY:=hid hY;have HV7:=hid hv7;have HLV:=hid (fun j (hj:j<l.length)=>cZ l j);clear hlv hv1 hv7 hcell hJs hbk hk1 hmr hpl hJ hY
   gi_wp2
   refine hR.mono ?_;clear hy hR x0 x1 x2 x3 x4 x5 x6 x7 hcb;rintro e W3 (⟨rfl,hJ3,hk3⟩|⟨rfl,hJx3⟩)
   ·have hbk3:=hk3.2.2 _ _ _ HBK.out;have y0:=Go.Joins.cell_of_block hbk3 0;have y7:=Go.Joins.cell_of_block hbk3 7;obtain⟨kd,hkd⟩: ∃kd,kd=l[k].kind:=⟨_,rfl⟩;rw[←hkd]at y0;have HK3:=hid (HK1.out.trans hk3);clear hbk3 hk3;by_cases h6:kd=6
    ·have d6:(kd == 6)=true:=by rw[h6];rfl
     have hif:(l[k]?.map OpT.kind)=some 6:=by rw[List.getElem?_eq_getElem hlt,Option.map_some,←hkd,h6]
     have hmem2:2 * k+1∈fL l l.length:=by
      obtain⟨r,hr⟩:=ie l (l.length - (k+1)) (k+1) (by omega);rw[show k+1+(l.length - (k+1))=l.length by omega]at hr;rw[←hr,cZ,if_pos hif];simp
     have hpl2:(pre++[(⟨2 * k,hmem1⟩:PlX l)]).length<2 * l.length:=by
      have h1:=congrArg List.length HP.out;unfold lY at h1;rw[List.length_map]at h1;have h2:=nA l k;rw[List.length_append,List.length_singleton];omega
     obtain⟨fn2,tmps2,assign2,body2,hy2,hR2⟩:=HY.out (pre++[⟨2 * k,hmem1⟩]) ⟨2 * k+1,hmem2⟩ W3 hJ3 hpl2;try dsimp only at hy2
     rw[HV7.out]at hy2;have HIF:=hid hif;clear h6 hif hpl2 hJ3 HY hkd
     gi_wp2
     refine hR2.mono ?_;clear hy2 hR2 y0 y7;rintro e W4 (⟨rfl,hJ4,hk4⟩|⟨rfl,hJx4⟩)
     ·have HK4:=hid (HK3.out.trans hk4);clear hk4
      gi_wp2
      go_roundw
      case rel=>exact⟨k+1,pre++[(⟨2 * k,hmem1⟩:PlX l)]++[(⟨2 * k+1,hmem2⟩:PlX l)],by first|rfl|go_num,by omega,hid (by rw[eH,eH,HP.out,cZ,if_pos HIF.out];simp),hJ4,HK4⟩
      case measure=>simp[intOf];omega
     ·gi_wp2
      refine bodyPost_ret (results_none rfl _ _ _) rfl ?_;refine⟨⟨_,rfl⟩,.inr ⟨_,?_,hJx4⟩⟩;obtain⟨r,hr⟩:=ie l (l.length - (k+1)) (k+1) (by omega);rw[show k+1+(l.length - (k+1))=l.length by omega]at hr;exact⟨r,Eq.trans (by rw[eH,eH,HP.out,cZ,if_pos HIF.out];simp) hr⟩
    ·have d6:(kd == 6)=false:=by simpa using h6
     have hif: ¬(l[k]?.map OpT.kind)=some 6:=by rw[List.getElem?_eq_getElem hlt,Option.map_some,←hkd];simpa using h6
     have HIF:=hid hif;clear h6 hif HY hkd
     gi_wp2_with (refine wpListIn_skip (by rfl) (by rfl) ?_;simp only[acR,Act.put])
     go_roundw
     case rel=>exact⟨k+1,pre++[(⟨2 * k,hmem1⟩:PlX l)],by first|rfl|go_num,by omega,hid (by rw[eH,HP.out,cZ,if_neg HIF.out]),hJ3,HK3⟩
     case measure=>simp[intOf];omega
   ·gi_wp2_with (refine wpListIn_skip (by rfl) (by rfl) ?_;simp only[acR,Act.put])
    refine bodyPost_ret (results_none rfl _ _ _) rfl ?_;refine⟨⟨_,rfl⟩,.inr ⟨_,?_,hJx3⟩⟩;obtain⟨r,hr⟩:=ie l (l.length - (k+1)) (k+1) (by omega);rw[show k+1+(l.length - (k+1))=l.length by omega]at hr;rw[cZ]at hr;by_cases hif:(l[k]?.map OpT.kind)=some 6
    ·rw[if_pos hif]at hr;exact⟨[2 * k+1]++r,Eq.trans (by rw[eH,HP.out];simp) hr⟩
    ·rw[if_neg hif]at hr;exact⟨r,Eq.trans (by rw[eH,HP.out]) hr⟩
  ·obtain rfl:k=l.length:=by omega
   gi_wp2
   go_end0
   exact⟨⟨_,rfl⟩,.inl ⟨_,HP.out,hJs⟩⟩
theorem jF (F:Fence)(n:Nat)(hf:F.fn 143)(hro:F.round=none)(hn:1≤n)(Bs m:Nat)(X:Nat→Prop)(S:Nat→Prop)(A:Option Addr)(c:Nat)(l:List OpT)(b off:Nat)(hb:0<l.length→A=some ⟨b,off,none⟩)(hlen:l.length≤1099511627776)(hBs:Bs<m∧ ¬X Bs)(hS: ∀b,S b→b<m∧ ¬X b)(w:World)(hm:m≤w.heap.size)(hc:w.cell? ⟨Bs,0,none⟩=some (.slice A l.length c))(hop:dQ w S A l):
  SeqStopsK F n Tryz.prog 143 #[.pointer (some ⟨Bs,0,none⟩)] (fun x:PlX l=> #[plV w b off x.1]) (KpO X m) (fun ys=>lY ys=fL l l.length) (fun pre=> ∃r,lY pre++r=fL l l.length) (2 * l.length) w:=fun y J Jx W hW hJ _ hY h0=>
 uZ F n hf hro hn y Bs m X S A c l b off hb w hlen hBs hS J Jx (fun pre W o h=>hJ pre W _ none h (World.grownBy_alloc W o none) (fun r e=>by cases e)) hY W (Nat.le_trans hm hW.size) ((hW.cell (p:=⟨Bs,0,none⟩) (Nat.lt_of_lt_of_le hBs.1 hm)).trans hc) (fun b hb=>hW.block b (Nat.lt_of_lt_of_le (hS b hb).1 hm)) hop h0
theorem yJ (F:Fence)(n:Nat)(hf:F.fn 102)(hro:F.round=none)(a:Option Addr)(len cap:Nat)(w:World):
  CallsIn F n Tryz.prog 102 #[.slice a len cap] w fun e w'=>e= .returned (.func (.func 143) #[] #[.pointer (some ⟨w.heap.size,0,none⟩)])∧w'=w.alloc (.cells #[.slice a len cap] 26):=by
 refine callsIn_of_wp Tryz.func102 rfl hf ?_ hro;simp only[Tryz.ntmps102,List.size_toArray,List.length_cons,List.length_nil,Nat.reduceAdd,Nat.reduceSub,Array.replicate_succ,Array.replicate_zero,List.push_toArray,List.append_toArray,List.nil_append,List.cons_append]
 gi_wp2
 go_ret;exact⟨rfl,rfl⟩
end Go.Proofs.YtgbopnlpaabelaaGreatDoor
/- Whether an update touches the id, by the program. -/
namespace Go.Proofs.YtgbopnlpaabelaaGreatDoor
open Lib (hid)
open Go.RowKit Go.Shelf
attribute [local go_sem] Oper.semAt_some
theorem xG (A:Option Addr)(c:Nat)(ns:List ByteArray)(s:ByteArray)(w:World)(S:Nat→Prop)(h:ai w S A ns)(hn:ns.length≤140737488351232):Calls Tryz.prog 107 #[.slice A ns.length c,.string s] w fun e w'=>(∃i:Int,e= .returned (.int .i64 i)∧decide (0≤i)=ns.any fun x=>decide (x=s))∧w=w':=by
 have HS:=hid h;have HN:=hid hn;clear h;go_enter Tryz.func107,Tryz.ntmps107;go_wp2_with fail
 go_loopw [8] (fun i wr=> ∃k:Nat,i= .int .i64 k∧k≤ns.length∧wr=w∧Hid (∀j (h:j<ns.length),j<k→ns[j]≠s)) (fun i _=>ns.length - (intOf i).toNat)
 case atStart=>exact⟨0,rfl,by omega,rfl,fun j _ h=>absurd h (by omega)⟩
 case round=>
  obtain⟨k,rfl,hk,rfl,HJ⟩:=hrel;by_cases hlt:k<ns.length
  ·obtain⟨p,o,rfl,-,hc⟩:=HS.out (by omega);have hck:=(hc k hlt).1;clear hc;by_cases he:s=ns[k]
   ·have d1:(s.toList == ns[k].toList)=true:=by rw[he];simp
    go_wp2_with fail;go_ret;exact⟨⟨k,rfl,by rw[List.any_eq_true.2 ⟨ns[k],List.getElem_mem hlt,decide_eq_true he.symm⟩];simp⟩,rfl⟩
   ·have d1:(s.toList == ns[k].toList)=false:=by rw[eO];exact decide_eq_false he
    have HE:=hid he;clear he;go_wp2_with fail
    go_roundw
    case rel=>exact⟨k+1,by go_num,by omega,trivial,fun j h hjk=>by
     by_cases e:j=k
     ·subst e;exact fun h=>HE.out h.symm
     ·exact HJ.out j h (by omega)⟩
    case measure=>simp[intOf];omega
  ·go_wp2_with fail;go_ret;refine⟨⟨-1,rfl,?_⟩,rfl⟩
   have hne:(ns.any fun x=>decide (x=s))=false:=List.any_eq_false.2 fun x hx=>by
    obtain⟨j,hj,he⟩:=List.mem_iff_getElem.1 hx;have:=HJ.out j hj (by omega);rw[he]at this;simpa using this
   rw[hne];rfl
theorem pi (A:Option Addr)(c:Nat)(ns:List ByteArray)(s:ByteArray)(w:World)(S:Nat→Prop)(h:ai w S A ns)(hn:ns.length≤140737488351232):Calls Tryz.prog 101 #[.slice A ns.length c,.string s] w fun e w'=>e= .returned (.bool (ns.any fun x=>decide (x=s)))∧w=w':=by
 have HC:=hid (xG A c ns s w S h hn);clear h;go_enter Tryz.func101,Tryz.ntmps101;go_wp2_with fail;refine HC.out.mono ?_;rintro e u ⟨⟨i,rfl,hi⟩,rfl⟩;have HI:=hid hi;clear hi HC;go_wp2_with fail;go_ret;exact⟨aM HI.out,rfl⟩
def AZ (w:World)(l:List OpT)(pre:List (PlX l))(W:World):Prop:=W.heap[w.heap.size+1]? =some (.cells #[.bool false] 4 (0,0))∧w.heap.size+3≤W.heap.size∧Below w.heap.size w W∧ ∀x∈pre,(plT l x.1).head? ≠some idN
def Bz (w:World)(l:List OpT)(c:Code)(pre:List (PlX l))(W:World):Prop:=c= .ret∧(∃x∈pre,(plT l x.1).head? =some idN)∧W.heap[w.heap.size+1]? =some (.cells #[.bool true] 4 (0,0))∧w.heap.size+3≤W.heap.size∧Below w.heap.size w W
theorem yF (w:World)(l:List OpT)(B:Nat)(hB:w.heap.size+3≤B):OwnFrom B (AZ w l):=by
 rintro pre W W' row ⟨h1,h2,h3,h4⟩ hg hr;exact⟨(grownBy_keeps_cells hg (fun r e=>(hr r e).2) h1 rfl).trans h1,Nat.le_trans h2 hg.size,h3.grown hg h3.size (fun k e=>Nat.le_trans (by omega) (hr k e).1),h4⟩
theorem xS (w:World)(l:List OpT)(c:Code)(B:Nat)(hB:w.heap.size+3≤B):OwnFrom B (Bz w l c):=by
 rintro pre W W' row ⟨h0,h4,h1,h2,h3⟩ hg hr;exact⟨h0,h4,(grownBy_keeps_cells hg (fun r e=>(hr r e).2) h1 rfl).trans h1,Nat.le_trans h2 hg.size,h3.grown hg h3.size (fun k e=>Nat.le_trans (by omega) (hr k e).1)⟩
theorem ki {W:World}{p:Nat}{cs:Array Value}{t:TypeId}{fr:Nat×Nat}(h:W.heap[p]? =some (.cells cs t fr))(a:Value):
  (W.setCell ⟨p,0,none⟩ a).heap[p]? =some (.cells (cs.setIfInBounds 0 a) t fr)∧W.grownBy (W.setCell ⟨p,0,none⟩ a) (some p)∧(W.setCell ⟨p,0,none⟩ a).heap.size=W.heap.size:=
 ⟨Go.Joins.block_setCell h a,⟨rfl,rfl,rfl,by simp,fun k _ hk=>heap_setCell_other _ ⟨p,0,none⟩ k _ (fun e=>hk (by rw[e]))⟩,by simp⟩
end Go.Proofs.YtgbopnlpaabelaaGreatDoor
/- Whether an update touches the id: the loop over the places. -/
namespace Go.Proofs.YtgbopnlpaabelaaGreatDoor
open Lib (hid)
open Go.RowKit Go.Shelf
attribute [local go_sem] Oper.semAt_some
theorem dw {fn:Func}{p:Tmp}(h:fn.results= #[.cell p 4])(tmps:Array Value)(w:World)(g:Nat)(b:Bool)
  (hp:tmps.getD p undef= .pointer (some ⟨g,0,none⟩)) (hg:w.heap[g]? =some (.cells #[.bool b] 4 (0,0))):
  (results fn tmps).run Tryz.prog w= .ok (.bool b) w:=by
 have hp':tmps[p]?.getD undef= .pointer (some ⟨g,0,none⟩):=by simpa using hp
 have hc:=Go.Joins.cell_of_block hg 0;simp[results,h,hp',asAddr,go_sem,hc]
theorem idL :(⟨#[95,105,100]⟩:ByteArray).toList= [95,105,100]:=by rw[ByteArray.toList_eq]
theorem dQ.at' {w:World}{S:Nat→Prop}{A:Option Addr}{l:List OpT}(h:dQ w S A l): ∃b off,0<l.length→A=some ⟨b,off,none⟩:=by
 by_cases hp:0<l.length
 ·obtain⟨b,off,hA,-⟩:=h hp;exact⟨b,off,fun _=>hA⟩
 ·exact⟨0,0,fun h=>absurd h hp⟩
theorem sL {l:List OpT}{p:List ByteArray→Bool}{x:Nat}(hx:x∈fL l l.length)(h:p (plT l x)=true):(aD l).any p=true:=by
 rw[←iA];exact List.any_eq_true.2 ⟨plT l x,List.mem_map.2 ⟨x,hx,rfl⟩,h⟩
theorem wW {l:List OpT}{p:List ByteArray→Bool}(h: ∀x∈fL l l.length,p (plT l x)=false):(aD l).any p=false:=by
 rw[←iA];refine List.any_eq_false.2 fun y hy=> ?_;obtain⟨x,hx,rfl⟩:=List.mem_map.1 hy;simp[h x hx]
theorem tq {l:List OpT}{x:Nat}(hx:x∈fL l l.length):plT l x∈aD l:=by
 rw[←iA];exact List.mem_map.2 ⟨x,hx,rfl⟩
theorem qH (S:Nat→Prop)(s:bg)(cs:Array Value)(w:World)(hS: ∀b,S b→b<w.heap.size)(h:cw w S s cs)(hne: ∀p∈aD s.ops,0<p.length):
  Calls Tryz.prog 58 #[.agg cs] w fun e w'=>e= .returned (.bool (cW s))∧Below w.heap.size w w':=by
 obtain⟨DA,dc,DA',dc',OA,oc,rfl,hv,ho,hoc,hol⟩:=h
 obtain⟨-,-,-,-,-,-,hnl,hns⟩:(0<s.doc.items.length→True)∧True∧True∧True∧True∧True∧s.doc.names.length≤140737488351232∧ai w S DA' s.doc.names:=by
  obtain⟨A,ca,A',ca',he,hl,-,hst,-⟩:=bY hS hv;simp only[Value.agg.injEq,Array.mk.injEq,List.cons.injEq,Value.slice.injEq,and_true,true_and]at he;obtain⟨⟨rfl,rfl⟩,rfl,rfl⟩:=he;exact⟨fun _=>trivial,trivial,trivial,trivial,trivial,trivial,hl.2,hst⟩
 obtain⟨b,off,hbo⟩:=ho.at';obtain⟨w1,hw1⟩: ∃W,W=w.alloc (.cells #[.bool s.rep,.int .i64 s.doc.kind,.int .i64 s.doc.num,.string s.doc.text,.slice DA s.doc.items.length dc,.slice DA' s.doc.names.length dc',.slice OA s.ops.length oc] 28):=⟨_,rfl⟩;have hbk:nO w1 w.heap.size s DA dc DA' dc' OA oc:=by rw[hw1];exact heap_alloc_new w _
 have hb1:Below w.heap.size w w1:=by rw[hw1];exact(Below.refl _ _).alloc (Nat.le_refl _) _
 have hz1:w1.heap.size=w.heap.size+1:=by rw[hw1];simp
 obtain⟨w2,hw2⟩: ∃W,W=w1.alloc (.cells #[.bool false] 4):=⟨_,rfl⟩;have hb2:Below w1.heap.size w1 w2:=by rw[hw2];exact(Below.refl _ _).alloc (Nat.le_refl _) _
 have hz2:w2.heap.size=w.heap.size+2:=by rw[hw2];simp[hz1]
 have hr2:w2.heap[w.heap.size+1]? =some (.cells #[.bool false] 4 (0,0)):=by rw[hw2,←hz1];exact heap_alloc_new w1 _
 have hbk2:=hbk.below hb2;have hb02:Below w.heap.size w w2:=hb1.trans (hb2.mono hb1.size);have HCO:=hid (pi DA' dc' s.doc.names idN w2 S (hns.keep fun b hb=>hb02.block b (hS b hb)) hnl);have y0:=Go.Joins.cell_of_block hbk2 0;have y1:=Go.Joins.cell_of_block hbk2 1;have y5:=Go.Joins.cell_of_block hbk2 5;have y6:=Go.Joins.cell_of_block hbk2 6;have z0:=Go.Joins.cell_of_block hr2 0;have zf:=fun i=>Go.Joins.unfrozen_of_block hr2 i;have HBK:=hid (And.intro hbk2 (And.intro hr2 (And.intro hb02 hz2)));have HS:=hid hS;have HO:=hid ho;have HOL:=hid hol;have HNE:=hid hne;obtain⟨r,hr⟩: ∃r,r=cW s:=⟨_,rfl⟩;rw[←hr];have HR:=hid hr;clear hS hv ho hoc hol hne hnl hns hbk hb1 hb2 hr2 hbk2 hb02 hr;refine(callsIn_wide (n:=8)).1 ?_;refine callsIn_of_wp_marks Tryz.func58 rfl trivial ?_ rfl;simp only[Tryz.ntmps58,List.size_toArray,List.length_cons,List.length_nil,Nat.reduceAdd,Nat.reduceSub,Array.replicate_succ,Array.replicate_zero,List.push_toArray,List.append_toArray,List.nil_append,List.cons_append]
 gi_wp2
 rw[←hw1,←hw2];refine⟨trivial,?_⟩;refine(callsIn_wide.2 HCO.out).mono ?_;rintro e u ⟨rfl,rfl⟩;clear HCO;cases hct:s.doc.names.any fun x=>decide (x=idN)
 ·have HCT:=hid hct;clear hct
  gi_wp2
  refine⟨trivial,?_⟩;refine(yJ Fence.wide 7 trivial rfl _ _ _ _).mono ?_;rintro e w' ⟨rfl,rfl⟩
  gi_wp2
  have hbk3:(((w.alloc (.cells #[.bool s.rep,.int .i64 s.doc.kind,.int .i64 s.doc.num,.string s.doc.text,.slice DA s.doc.items.length dc,.slice DA' s.doc.names.length dc',.slice OA s.ops.length oc] 28)).alloc (.cells #[.bool false] 4)).alloc (.cells #[.slice OA s.ops.length oc] 26)).heap[w.heap.size+1]? =some (.cells #[.bool false] 4 (0,0)):=by
   have h1:=HBK.out.2.1;rw[hw2,hw1]at h1;exact(((Below.refl _ _).alloc (Nat.le_refl _) _:Below _ _ _).block _ (Array.getElem?_eq_some_iff.1 h1).1).trans h1
  have hb3:Below w.heap.size w (((w.alloc (.cells #[.bool s.rep,.int .i64 s.doc.kind,.int .i64 s.doc.num,.string s.doc.text,.slice DA s.doc.items.length dc,.slice DA' s.doc.names.length dc',.slice OA s.ops.length oc] 28)).alloc (.cells #[.bool false] 4)).alloc (.cells #[.slice OA s.ops.length oc] 26)):=by
   have h1:=HBK.out.2.2.1;rw[hw2,hw1]at h1;exact h1.alloc (by simp;omega) _
  have hz3:(((w.alloc (.cells #[.bool s.rep,.int .i64 s.doc.kind,.int .i64 s.doc.num,.string s.doc.text,.slice DA s.doc.items.length dc,.slice DA' s.doc.names.length dc',.slice OA s.ops.length oc] 28)).alloc (.cells #[.bool false] 4)).alloc (.cells #[.slice OA s.ops.length oc] 26)).heap.size=w.heap.size+3:=by simp
  have hs3:(((w.alloc (.cells #[.bool s.rep,.int .i64 s.doc.kind,.int .i64 s.doc.num,.string s.doc.text,.slice DA s.doc.items.length dc,.slice DA' s.doc.names.length dc',.slice OA s.ops.length oc] 28)).alloc (.cells #[.bool false] 4)).alloc (.cells #[.slice OA s.ops.length oc] 26)).cell? ⟨w.heap.size+2,0,none⟩=some (.slice OA s.ops.length oc):=by
   have h9:=Go.Joins.cell_of_block (heap_alloc_new ((w.alloc (.cells #[.bool s.rep,.int .i64 s.doc.kind,.int .i64 s.doc.num,.string s.doc.text,.slice DA s.doc.items.length dc,.slice DA' s.doc.names.length dc',.slice OA s.ops.length oc] 28)).alloc (.cells #[.bool false] 4)) (.cells #[.slice OA s.ops.length oc] 26)) 0;rw[show((w.alloc (.cells #[.bool s.rep,.int .i64 s.doc.kind,.int .i64 s.doc.num,.string s.doc.text,.slice DA s.doc.items.length dc,.slice DA' s.doc.names.length dc',.slice OA s.ops.length oc] 28)).alloc (.cells #[.bool false] 4)).heap.size=w.heap.size+2 from by simp]at h9;exact h9
  generalize (((w.alloc (.cells #[.bool s.rep,.int .i64 s.doc.kind,.int .i64 s.doc.num,.string s.doc.text,.slice DA s.doc.items.length dc,.slice DA' s.doc.names.length dc',.slice OA s.ops.length oc] 28)).alloc (.cells #[.bool false] 4)).alloc (.cells #[.slice OA s.ops.length oc] 26))=w3 at *;have ho3:dQ w3 S OA s.ops:=HO.out.below' HS.out hb3;have HO3:=hid ho3;have h0:AZ w s.ops [] w3:=⟨hbk3,by omega,hb3,fun x hx=>by cases hx⟩;have HSb:Hid (∀b,S b→b<w.heap.size+3∧b≠w.heap.size+1):=hid fun b hb=>by have:=HS.out b hb;omega
  clear hbk3 hb3 y0 y1 y5 y6 z0 zf hw1 hw2
  refine wpIn_rangeFunc_ownF rfl (by omega) (gf:=143) (lb:= #[.pointer (some ⟨w.heap.size+2,0,none⟩)]) rfl trivial (enters_of Tryz.func143 (by kernel_rfl) rfl)
   (jF Fence.wide 7 trivial rfl (by omega) (w.heap.size+2) (w.heap.size+3) (fun b=>b=w.heap.size+1) S OA oc s.ops b off hbo (by have:=HOL.out;omega) ⟨by omega,by omega⟩ HSb.out w3 (by omega) hs3 ho3) KpO.trans (AK (by omega)) (Below.refl _ _) (fun _=>rfl)
   (AZ w s.ops) (Bz w s.ops) (yF w s.ops _ (by omega)) (fun c=>xS w s.ops c _ (by omega)) h0
   (fun q=> { tmps:= #[.agg #[.bool s.rep,.int .i64 s.doc.kind,.int .i64 s.doc.num,.string s.doc.text,.slice DA s.doc.items.length dc,.slice DA' s.doc.names.length dc',.slice OA s.ops.length oc],.pointer (some ⟨w.heap.size,0,none⟩),.pointer (some ⟨w.heap.size+1,0,none⟩),plV w3 b off q.1,.pointer (some ⟨w.heap.size,1,none⟩),.pointer (some ⟨w.heap.size,5,none⟩),.slice DA' s.doc.names.length dc',.bool false,.pointer (some ⟨w.heap.size,6,none⟩),.slice OA s.ops.length oc,.func (.func 143) #[] #[.pointer (some ⟨w.heap.size+1+1,0,none⟩)],plV w3 b off q.1,undef,undef,undef,undef],defers:=[] }) ?assign ?body ?done ?stop
  case assign=>
   intro l q W K hK
   gi_wp2
   exact hK
  case body=>
   rintro l pre q W ⟨i1,i2,i3,i4⟩ hlen;have hlt:=mh s.ops q.2;obtain rfl:=hbo (by omega);obtain⟨A,c,hv,hst,hc,hle⟩:=tw HO3.out q.1 hlt;have hpos:=HNE.out _ (tq q.2);obtain⟨b1,o1,rfl,hS1,hcell⟩:=hst hpos;have hc0:=(hcell 0 hpos).1;rw[Nat.add_zero]at hc0
   have hcW:W.cell? ⟨b1,o1,none⟩=some (.string (plT s.ops q.1)[0]):=(World.cell?_of_block (a:=⟨b1,o1,none⟩) (by
    have h1:=HS.out b1 hS1;have h2:=h0.2.2.1
    exact(i3.block b1 h1).trans (h2.block b1 h1).symm)).trans hc0
   rw[hv];have I1:=hid (And.intro i1 (And.intro i2 (And.intro i3 i4)));have y0:=Go.Joins.cell_of_block i1 0;have yf:=fun i=>Go.Joins.unfrozen_of_block i1 i;have hlen1:(0:Int)<((plT s.ops q.1).length:Int):=by omega
   have hhd:(plT s.ops q.1).head? =some (plT s.ops q.1)[0]:=by rw[List.head?_eq_getElem?,List.getElem?_eq_getElem hpos]
   obtain⟨x,hx⟩: ∃x,x=(plT s.ops q.1)[0]:=⟨_,rfl⟩;rw[←hx]at hcW hhd;obtain⟨n,hn⟩: ∃n,n=(plT s.ops q.1).length:=⟨_,rfl⟩;rw[←hn]at hpos ⊢;have HHD:=hid hhd;clear i1 i2 i3 i4 hv hst hc hle hcell hc0 hhd hx hlen1 hn;by_cases he:x=idN
   ·have d1:(x.toList == (⟨#[95,105,100]⟩:ByteArray).toList)=true:=by rw[he,eO];exact decide_eq_true rfl
    have d2:(x.toList == [95,105,100])=true:=idL▸d1;have HE:=hid he;clear he
    gi_wp2
    obtain⟨i1,i2,i3,i4⟩:=I1.out;obtain⟨hbox,hg5,hz5⟩:=ki i1 (.bool true);refine⟨KeepsOthers.of_grownBy hg5 fun j o e h=>(by injection e with e;subst e;rw[i1]at h;injection h with h;rw[←h];rfl),rfl,⟨q,by simp,by rw[HHD.out,HE.out]⟩,hbox,by omega,⟨hg5.os.trans i3.os,hg5.tape.trans i3.tape,hg5.output.trans i3.output,by have:=hg5.size;omega,fun k hk=>(hg5.block k (by omega) (fun e=>by injection e;omega)).trans (i3.block k hk)⟩⟩
   ·have d1:(x.toList == (⟨#[95,105,100]⟩:ByteArray).toList)=false:=by rw[eO];exact decide_eq_false he
    have d2:(x.toList == [95,105,100])=false:=idL▸d1;have HE:=hid he;clear he
    gi_wp2
    obtain⟨i1,i2,i3,i4⟩:=I1.out;refine⟨KeepsOthers.refl _,KpO.refl _ _ _,i1,i2,i3,fun y hy=> ?_⟩;rcases List.mem_append.1 hy with h|h
    ·exact i4 y h
    ·rw[List.mem_singleton.1 h,HHD.out];exact fun e=>HE.out (by injection e)
  case done=>
   rintro D ys W hD hys ⟨i1,i2,i3,i4⟩ hK
   have hf:r=false:=by
    rw[HR.out];unfold cW;rw[HCT.out,Bool.false_or];refine wW fun x hx=> ?_;rw[←hys]at hx;obtain⟨y,hy,rfl⟩:=List.mem_map.1 hx;exact decide_eq_false (i4 y hy)
   subst hf;have y0:=Go.Joins.cell_of_block i1 0;have yf:=fun i=>Go.Joins.unfrozen_of_block i1 i;have HV:=hid (And.intro i1 (And.intro i2 i3));have HKD:=hid hK;clear i1 i2 i3 i4 hK hys
   gi_wp2
   obtain⟨i1,i2,i3⟩:=HV.out;obtain⟨hbox,hg5,hz5⟩:=ki i1 (.bool false);generalize W.setCell ⟨w.heap.size+1,0,none⟩ (.bool false)=W5 at *;have hDW:D<W.heap.size:=(Array.getElem?_eq_some_iff.1 HKD.out).1;have hK5:W5.heap[D]? =some (.deferred (some [])):=(hg5.block D hDW (fun e=>by injection e;omega)).trans HKD.out;have hg6:=grownBy_putObj' W5 D (.deferred none);have hbox6:(W5.putObj D (.deferred none)).heap[w.heap.size+1]? =some (.cells #[.bool false] 4 (0,0)):=(hg6.block _ (by omega) (fun e=>by injection e;omega)).trans hbox;refine⟨by simp,.inl ⟨_,_,rfl,run_takeDeferred hK5,?_⟩⟩;refine⟨_,dw rfl _ _ (w.heap.size+1) false rfl hbox6,rfl,?_⟩;exact⟨hg6.os.trans (hg5.os.trans i3.os),hg6.tape.trans (hg5.tape.trans i3.tape),hg6.output.trans (hg5.output.trans i3.output),by have:=hg6.size;omega,fun b hb=>(hg6.block b (by omega) (fun e=>by injection e;omega)).trans ((hg5.block b (by omega) (fun e=>by injection e;omega)).trans (i3.block b hb))⟩
  case stop=>
   rintro D c' pre W hD - ⟨rfl,⟨x,hx,hxe⟩,hbox,h2,h3⟩ hK
   have hf:r=true:=by
    rw[HR.out];unfold cW;rw[sL x.2 (decide_eq_true hxe),Bool.or_true]
   subst hf;have HKD:=hid hK;have HV:=hid (And.intro hbox (And.intro h2 h3));clear hK hx hxe hbox h2 h3
   gi_wp2
   obtain⟨hbox,h2,h3⟩:=HV.out;have hDW:D<W.heap.size:=(Array.getElem?_eq_some_iff.1 HKD.out).1;have hg6:=grownBy_putObj' W D (.deferred none);have hbox6:=(hg6.block (w.heap.size+1) (by omega) (fun e=>by injection e;omega)).trans hbox;refine⟨by simp,.inl ⟨_,_,rfl,run_takeDeferred HKD.out,?_⟩⟩;refine⟨_,dw rfl _ _ (w.heap.size+1) true rfl hbox6,rfl,?_⟩;exact⟨hg6.os.trans h3.os,hg6.tape.trans h3.tape,hg6.output.trans h3.output,by have:=hg6.size;omega,fun b hb=>(hg6.block b (by omega) (fun e=>by injection e;omega)).trans (h3.block b hb)⟩
 ·have HCT:=hid hct;clear hct
  gi_wp2
  have hx:((w.alloc (.cells #[.bool s.rep,.int .i64 s.doc.kind,.int .i64 s.doc.num,.string s.doc.text,.slice DA s.doc.items.length dc,.slice DA' s.doc.names.length dc',.slice OA s.ops.length oc] 28)).alloc (.cells #[.bool true] 4)).heap[w.heap.size+1]? =some (.cells #[.bool true] 4 (0,0)):=by
   have h1:=heap_alloc_new (w.alloc (.cells #[.bool s.rep,.int .i64 s.doc.kind,.int .i64 s.doc.num,.string s.doc.text,.slice DA s.doc.items.length dc,.slice DA' s.doc.names.length dc',.slice OA s.ops.length oc] 28)) (.cells #[.bool true] 4);rw[show(w.alloc (.cells #[.bool s.rep,.int .i64 s.doc.kind,.int .i64 s.doc.num,.string s.doc.text,.slice DA s.doc.items.length dc,.slice DA' s.doc.names.length dc',.slice OA s.ops.length oc] 28)).heap.size=w.heap.size+1 from by simp]at h1;exact h1
  refine⟨_,dw rfl _ _ (w.heap.size+1) true rfl hx,?_⟩;refine⟨?_,((Below.refl _ _).alloc (Nat.le_refl _) _).alloc (by simp) _⟩;rw[HR.out];unfold cW;rw[HCT.out];rfl
end Go.Proofs.YtgbopnlpaabelaaGreatDoor
/- Whether a place meets one of a row of places, by the program. -/
namespace Go.Proofs.YtgbopnlpaabelaaGreatDoor
open Lib (hid)
open Go.RowKit
def SlP (w:World)(S:Nat→Prop)(v:Value)(p:List ByteArray):Prop:= ∃A c,v= .slice A p.length c∧ai w S A p∧p.length≤c∧p.length≤8796093021952
theorem SlP.keep {w w':World}{S:Nat→Prop}{v:Value}{p:List ByteArray}(h:SlP w S v p)(hk: ∀b,S b→w'.heap[b]? =w.heap[b]?):SlP w' S v p:=by
 obtain⟨A,c,h1,h2,h3⟩:=h;exact⟨A,c,h1,h2.keep hk,h3⟩
def ly (w:World)(S:Nat→Prop)(A:Option Addr)(qs:List (List ByteArray)):Prop:=
 0<qs.length→ ∃b off,A=some ⟨b,off,none⟩∧b<w.heap.size∧ ∀i (h:i<qs.length),∃v,w.cell? ⟨b,off+i,none⟩=some v∧SlP w S v qs[i]
theorem ly.below {w w':World}{S:Nat→Prop}{A:Option Addr}{qs:List (List ByteArray)}(h:ly w S A qs)(hS: ∀b,S b→b<w.heap.size)(hb:Below w.heap.size w w'):ly w' S A qs:=fun hp=>by
 obtain⟨b,off,h1,h2,h3⟩:=h hp;refine⟨b,off,h1,Nat.lt_of_lt_of_le h2 hb.size,fun i hi=> ?_⟩;obtain⟨v,h4,h5⟩:=h3 i hi;exact⟨v,(hb.cell (p:=⟨b,off+i,none⟩) h2).trans h4,h5.keep fun b hb'=>hb.block b (hS b hb')⟩
theorem tJ (S:Nat→Prop)(p q:List ByteArray)(vp vq:Value)(g:Nat)(w:World)(hS: ∀b,S b→b<w.heap.size)(hg:w.cell? ⟨g,0,none⟩=some vp)(hp:SlP w S vp p)(hq:SlP w S vq q):
  Calls Tryz.prog 104 #[vq,.pointer (some ⟨g,0,none⟩)] w fun e w'=>e= .returned (.bool (cK p q))∧Below w.heap.size w w':=by
 obtain⟨A,c,rfl,h1,h2,h3⟩:=hp;obtain⟨B,d,rfl,k1,k2,k3⟩:=hq;have HM:=hid (yg A B c d p q w S S h1 k1 hS hS (by omega) (by omega) h2 k2);clear h1 h2 h3 k1 k2 k3 hS;go_enter Tryz.func104,Tryz.ntmps104;go_wp2_with fail;refine HM.out.mono ?_;rintro e w1 ⟨rfl,hb⟩;have HB:=hid hb;clear hb HM;go_wp2_with fail;go_ret;exact⟨rfl,HB.out⟩
theorem vO (S:Nat→Prop)(p:List ByteArray)(vp:Value)(g:Nat)(A:Option Addr)(c:Nat)(qs:List (List ByteArray))(w:World)(hS: ∀b,S b→b<w.heap.size)(hgl:g<w.heap.size)(hg:w.cell? ⟨g,0,none⟩=some vp)(hp:SlP w S vp p)(h:ly w S A qs)(hn:qs.length≤1000000):
  Calls Tryz.prog 144 #[.slice A qs.length c,.func (.func 104) #[] #[.pointer (some ⟨g,0,none⟩)]] w fun e w'=>(∃i:Int,e= .returned (.int .i64 i)∧decide (0≤i)=qs.any fun q=>cK p q)∧Below w.heap.size w w':=by
 have H:=hid h;have HS:=hid hS;have HG:=hid (And.intro hgl (And.intro hg hp));have HN:=hid hn;clear h hS hg hp hgl;go_enter Tryz.func144,Tryz.ntmps144;go_wp2_with fail
 go_loopw [8] (fun i wr=> ∃k:Nat,i= .int .i64 k∧k≤qs.length∧Hid (Below w.heap.size w wr)∧Hid (∀j (h:j<qs.length),j<k→cK p qs[j]=false)) (fun i _=>qs.length - (intOf i).toNat)
 case atStart=>exact⟨0,rfl,by omega,hid (Below.refl _ _),hid fun j _ h=>absurd h (by omega)⟩
 case round=>
  obtain⟨k,rfl,hk,HB,HJ⟩:=hrel;by_cases hlt:k<qs.length
  ·have hS2: ∀b,S b→b<wr.heap.size:=fun b hb=>Nat.lt_of_lt_of_le (HS.out b hb) HB.out.size;obtain⟨b,off,rfl,hbl,hc⟩:=H.out.below HS.out HB.out (by omega);obtain⟨v,hcv,hsl⟩:=hc k hlt;have HC:=hid (tJ S p qs[k] vp v g wr hS2 ((HB.out.cell (p:=⟨g,0,none⟩) HG.out.1).trans HG.out.2.1) (HG.out.2.2.keep fun b hb=>HB.out.block b (HS.out b hb)) hsl);obtain⟨A',c',rfl,-⟩:=hsl;obtain⟨n,hn'⟩: ∃n,n=qs[k].length:=⟨_,rfl⟩;rw[←hn']at HC hcv;clear hc hS2 hbl hn';go_wp2_with fail;refine HC.out.mono ?_;rintro e u ⟨rfl,hb⟩;have HB2:=hid (HB.out.trans (hb.mono HB.out.size));clear hb HC hcv;cases hm:cK p qs[k]
   ·have HM:=hid hm;clear hm;go_wp2_with fail
    go_roundw
    case rel=>exact⟨k+1,by go_num,by omega,HB2,hid fun j h hjk=>by
     by_cases e:j=k
     ·subst e;exact HM.out
     ·exact HJ.out j h (by omega)⟩
    case measure=>simp[intOf];omega
   ·have HM:=hid hm;clear hm;go_wp2_with fail;go_ret;exact⟨⟨k,rfl,by rw[List.any_eq_true.2 ⟨qs[k],List.getElem_mem hlt,HM.out⟩];simp⟩,HB2.out⟩
  ·go_wp2_with fail;go_ret;refine⟨⟨-1,rfl,?_⟩,HB.out⟩
   rw[show(qs.any fun q=>cK p q)=false from List.any_eq_false.2 fun x hx=>by
    obtain⟨j,hj,rfl⟩:=List.mem_iff_getElem.1 hx
    simp[HJ.out j hj (by omega)]]
   rfl
theorem sO (S:Nat→Prop)(p:List ByteArray)(vp:Value)(g:Nat)(A:Option Addr)(c:Nat)(qs:List (List ByteArray))(w:World)(hS: ∀b,S b→b<w.heap.size)(hgl:g<w.heap.size)(hg:w.cell? ⟨g,0,none⟩=some vp)(hp:SlP w S vp p)(h:ly w S A qs)(hn:qs.length≤1000000):
  Calls Tryz.prog 103 #[.slice A qs.length c,.func (.func 104) #[] #[.pointer (some ⟨g,0,none⟩)]] w fun e w'=>e= .returned (.bool (qs.any fun q=>cK p q))∧Below w.heap.size w w':=by
 have HC:=hid (vO S p vp g A c qs w hS hgl hg hp h hn);clear h hS hg hp hgl;go_enter Tryz.func103,Tryz.ntmps103;go_wp2_with fail;refine HC.out.mono ?_;rintro e u ⟨⟨i,rfl,hi⟩,hb⟩;have HI:=hid hi;have HB:=hid hb;clear hi hb HC;go_wp2_with fail;go_ret;exact⟨aM HI.out,HB.out⟩
theorem jo : ∀(ps ahead:List (List ByteArray)) (p:List ByteArray),cm ahead (ps++[p])=(cm ahead ps || (ahead++ps).any fun q=>cK p q)
 | [],ahead,p=>by simp[cm]
 |x::r,ahead,p=>by
  rw[List.cons_append,cm,cm,jo r (ahead++[x]) p,Bool.or_assoc,List.append_assoc];rfl
theorem oT : ∀(ps r ahead:List (List ByteArray)),cm ahead ps=true→cm ahead (ps++r)=true
 | [],r,ahead,h=>by simp[cm]at h
 |x::ps,r,ahead,h=>by
  rw[List.cons_append,cm];rw[cm,Bool.or_eq_true]at h;rcases h with h|h
  ·rw[h];rfl
  ·rw[oT ps r _ h,Bool.or_true]
end Go.Proofs.YtgbopnlpaabelaaGreatDoor
