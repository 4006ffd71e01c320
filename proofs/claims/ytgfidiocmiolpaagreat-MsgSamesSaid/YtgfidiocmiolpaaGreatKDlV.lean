/- The code of a list of changes: the program's Put. -/
import Derived.Test.YtgfidiocmiolpaaGreatKDlN
import Derived.Test.YtgfidiocmiolpaaGreatKTrH
import Derived.Test.YtgfidiocmiolpaaGreatKLook
import Derived.Test.YtgfidiocmiolpaaGreatKFive
import Derived.Test.YtgfidiocmiolpaaGreatKCodP
import Derived.Test.YtgfidiocmiolpaaGreatKIdx
import Derived.Test.YtgfidiocmiolpaaGreatKValO
set_option maxHeartbeats 64000000
set_option maxRecDepth 100000
set_option linter.unusedVariables false
set_option linter.unusedSimpArgs false
namespace Go.Proofs.YtgfidiocmiolpaaGreat
open Lib (hid)
open Go.RowKit
theorem lR (S:Nat→Prop)(A:Option Addr)(c:Nat)(l:List aR)(w:World)(hS: ∀b,S b→b<w.heap.size)(h:bk w S A l)(hn:l.length≤140737488351232)(hd:l.length≤64→eo l):
  Calls Tryz.prog 136 #[.slice A l.length c] w fun e w'=>e= .returned (.int .i64 (bo l))∧Below w.heap.size w w':=by
 by_cases h64:64<l.length
 ·have hr:bo l=3:=by unfold bo;rw[if_pos h64]
  rw[hr];have d1:decide ((l.length:Int)>64)=true:=decide_eq_true (by omega);clear h hS hd hr;go_enter Tryz.func136,Tryz.ntmps136;go_wp2_with fail;go_ret;exact⟨rfl,Below.refl _ _⟩
 ·exact nS S A c l w hS h hn (hd (by omega))
theorem se (S:Nat→Prop)(A:Option Addr)(c:Nat)(ds:List aR)(bv:Value)(l:List UInt8)(w:World)(hS: ∀b,S b→b<w.heap.size)(h:bk w S A ds)(hn:ds.length≤140737488351232)(hd:ds.length≤64→eo ds∧fu ds)(hb:Rd w w.heap.size bv l)(hl:l.length≤140737300000000):
  Calls Tryz.prog 141 #[bv,.slice A ds.length c] w fun e w'=> ∃v',e= .returned v'∧aq w' w.heap.size v' (l++ck ds)∧Below w.heap.size w w':=by
 have HL:=hid h;have HRD:=hid hb;have HS:=hid hS;have HDD:=hid hd;have HLL:=hid hl;have HO0:Hid (aq w w.heap.size (.slice none 0 0) []):=hid (World.ownsRow_nil _ _ _ _);obtain⟨m,hm⟩: ∃m,m=l.length:=⟨_,rfl⟩;obtain⟨Ab,cb,hbv⟩: ∃A c,bv= .slice A l.length c:=by obtain⟨A,c,h,-⟩:=hb;exact⟨A,c,h⟩
 subst hbv;rw[←hm]at HRD ⊢;have HM:=hid hm;have hz0:w.heap.size≤w.heap.size:=Nat.le_refl _;have HZ0:=hid hz0;clear h hd hS hb hl hm hz0;go_enter Tryz.func141,Tryz.ntmps141;go_wp2_with(at_builtin;go_must (refine ak rfl _ _ rfl w.heap.size _ [] rfl HO0.out w.heap.size _ l rfl HRD.out HZ0.out (by have:=HLL.out;simp;omega) ?_));intro v2 w2 hv2 hg2;have HX2:Hid (aq w2 w.heap.size v2 l∧Below w.heap.size w w2):=hid ⟨by simpa using hv2,ax (Below.refl _ _) HO0.out HZ0.out hg2⟩;have HC:=hid (lR S A c ds w2 (fun b hb=>Nat.lt_of_lt_of_le (HS.out b hb) HX2.out.2.size) (HL.out.below HS.out HX2.out.2) hn (fun h=>(HDD.out h).1));clear hv2 hg2 HRD HO0;obtain⟨A2,c2,hv2e⟩:=HX2.out.1.slice;rw[←HM.out]at hv2e;subst hv2e;go_wp2_with fail;refine HC.out.mono ?_;rintro e w3 ⟨rfl,hb3⟩;have HX3:Hid (aq w3 w.heap.size (.slice A2 m c2) l∧Below w.heap.size w w3):=hid ⟨HX2.out.1.below hb3,HX2.out.2.trans (hb3.mono HX2.out.2.size)⟩;obtain⟨x,hx⟩: ∃x,x=bo ds:=⟨_,rfl⟩;rw[←hx];have HXC:=hid hx;clear hb3 hx HC HX2;by_cases hx0:x=0
 ·subst hx0;have HZO:=hid (dr HXC.out.symm);have h64:=HZO.out.1;have HD:=hid (HDD.out h64);have HP:=hid (dY w.heap.size ds.length (.slice A2 m c2) l w3 HX3.out.1 HX3.out.2.size (by omega) (by have:=HLL.out;omega));go_wp2_with fail;refine HP.out.mono ?_;rintro e w4 ⟨v4,rfl,hv4,hb4,-⟩;have h0:Hid (aq w4 w.heap.size v4 (l++grp ds.length++((ds.take 0).map bg).flatten)∧Below w.heap.size w w4):=hid ⟨by simpa using hv4,HX3.out.2.trans hb4⟩
  have HSM:Hid (∀k,(((ds.take k).map bg).flatten).length≤134400000):=hid fun k=>by
   have h1:=fj (l:=ds.take k) fun o ho=>⟨HZO.out.2 o (List.mem_of_mem_take ho),HD.out.2 o (List.mem_of_mem_take ho)⟩;have h2:=HZO.out.1;rw[List.length_take]at h1;omega
  have hfin:ck ds=grp ds.length++(ds.map bg).flatten:=by unfold ck;rw[if_pos HXC.out.symm]
  have HF:=hid hfin;clear hv4 hb4 hfin HP HX3;go_wp2_with fail
  go_loopw [5,21] (fun v0 i wr=> ∃k:Nat,i= .int .i64 k∧k≤ds.length∧Hid (aq wr w.heap.size v0 (l++grp ds.length++((ds.take k).map bg).flatten)∧Below w.heap.size w wr)) (fun _ i _=>ds.length - (intOf i).toNat)
  case atStart=>exact⟨0,rfl,by omega,h0⟩
  case round=>
   obtain⟨k,rfl,hk,HH⟩:=hrel;by_cases hlt:k<ds.length
   ·have d1:decide ((k:Int)<(ds.length:Int))=true:=decide_eq_true (by omega);obtain⟨p,off,PA,pc,VA,vc,VA',vc',rfl,hpS,ho,x0,x1,x2,x3,x4,x5,x6,x7⟩:=HL.out.cells k hlt;have hp:=HH.out.2.block p (HS.out p hpS);have z0:=(World.cell?_of_block (a:=⟨p,off+k * 8,none⟩) hp).trans x0;have z1:=(World.cell?_of_block (a:=⟨p,off+k * 8+1,none⟩) hp).trans x1;have z2:=(World.cell?_of_block (a:=⟨p,off+k * 8+2,none⟩) hp).trans x2;have z3:=(World.cell?_of_block (a:=⟨p,off+k * 8+3,none⟩) hp).trans x3;have z4:=(World.cell?_of_block (a:=⟨p,off+k * 8+4,none⟩) hp).trans x4;have z5:=(World.cell?_of_block (a:=⟨p,off+k * 8+5,none⟩) hp).trans x5;have z6:=(World.cell?_of_block (a:=⟨p,off+k * 8+6,none⟩) hp).trans x6;have z7:=(World.cell?_of_block (a:=⟨p,off+k * 8+7,none⟩) hp).trans x7;have HOK:=hid ho;have hmay:=HZO.out.2 _ (List.getElem_mem hlt);obtain⟨acc,hacc⟩: ∃acc,acc=l++grp ds.length++((ds.take k).map bg).flatten:=⟨_,rfl⟩;rw[←hacc]at HH
    have hal:acc.length≤140737450000000:=by
     have h1:=HSM.out k;have h2:=(al ds.length).1;have h3:=HLL.out;rw[hacc];simp only[List.length_append];omega
    have HPO:Hid (∀X:Obj,Calls Tryz.prog 161 #[u5,.agg #[.int .i64 ds[k].kind,.slice PA ds[k].path.length pc,.int .i64 ds[k].val.kind,.int .i64 ds[k].val.num,.string ds[k].val.text,.slice VA ds[k].val.items.length vc,.slice VA' ds[k].val.names.length vc',.int .i64 ds[k].num]] (wr.alloc X) (gg w.heap.size (acc++bg ds[k]) (wr.alloc X))):=hid fun X=>
     pQ S ds[k] _ w.heap.size u5 acc (wr.alloc X) HS.out (HOK.out.keep fun b hb=>(HH.out.2.alloc HH.out.2.size X).block b (HS.out b hb)) hmay (HD.out.1 _ (List.getElem_mem hlt)) (HD.out.2 _ (List.getElem_mem hlt)) (kr hmay) (HH.out.1.below ((Below.refl _ _).alloc (Nat.le_refl _) _)) (Nat.le_trans HH.out.2.size (by simp)) (by omega)
    have HBA:Hid (∀X:Obj,Below w.heap.size w (wr.alloc X)):=hid fun X=>HH.out.2.alloc HH.out.2.size X
    have HACC:Hid (acc++bg ds[k]=l++grp ds.length++((ds.take (k+1)).map bg).flatten):=hid (by
     have h1:((ds.take (k+1)).map bg).flatten=((ds.take k).map bg).flatten++bg ds[k]:=by
      rw[List.take_add_one,List.getElem?_eq_getElem hlt,List.map_append,List.flatten_append];exact congrArg _ (List.append_nil _)
     rw[hacc,h1]
     simp only[List.append_assoc])
    clear x0 x1 x2 x3 x4 x5 x6 x7 hp hmay hacc hal ho;go_wp2_with fail;refine(HPO.out _).mono ?_;rintro e w7 ⟨v7,rfl,hv7,hb7,hk7⟩;rw[HACC.out]at hv7;have HX7:Hid (aq w7 w.heap.size v7 (l++grp ds.length++((ds.take (k+1)).map bg).flatten)∧Below w.heap.size w w7):=hid ⟨hv7,(HBA.out _).trans hb7⟩;clear hv7 hb7 hk7 z0 z1 z2 z3 z4 z5 z6 z7 HPO HBA;go_wp2_with fail
    go_roundw
    case rel=>exact⟨k+1,by go_num,by omega,HX7⟩
    case measure=>simp[intOf];omega
   ·have hke:k=ds.length:=by omega
    have d1:decide ((k:Int)<(ds.length:Int))=false:=decide_eq_false (by omega)
    have HE:Hid (aq wr w.heap.size u5 (l++ck ds)):=hid (by
     have h9:=HH.out.1;rw[hke,List.take_length]at h9;rw[HF.out]
     simpa[List.append_assoc]using h9)
    clear hke;go_wp2_with fail;go_ret;exact⟨_,rfl,HE.out,HH.out.2⟩
 ·have d1:(x != 0)=true:=by simpa using hx0
  have HE:Hid (ck ds= []):=hid (by unfold ck;rw[if_neg (fun h=>hx0 (HXC.out.trans h))]);clear hx0;go_wp2_with fail;go_ret;exact⟨_,rfl,by rw[HE.out,List.append_nil];exact HX3.out.1,HX3.out.2⟩
theorem ne (S:Nat→Prop)(d:aR)(cs:Array Value)(vp:Value)(p:List ByteArray)(g:Nat)(w:World)(hS: ∀b,S b→b<w.heap.size)(h:eb w S d cs)(hgl:g<w.heap.size)(hg:w.cell? ⟨g,0,none⟩=some vp)(hq:SlP w S vp p):
  Calls Tryz.prog 158 #[.agg cs,.pointer (some ⟨g,0,none⟩)] w fun e w'=>e= .returned (.bool (bO d.path p))∧Below w.heap.size w w':=by
 obtain⟨PA,pc,VA,vc,VA',vc',rfl,hv,hp,hpc,hpn,hk,hn,hpl⟩:=id h;obtain⟨w1,hw1⟩: ∃W,W=w.alloc (.cells #[.int .i64 d.kind,.slice PA d.path.length pc,.int .i64 d.val.kind,.int .i64 d.val.num,.string d.val.text,.slice VA d.val.items.length vc,.slice VA' d.val.names.length vc',.int .i64 d.num] 114):=⟨_,rfl⟩;have hbk:w1.heap[w.heap.size]? =some (.cells #[.int .i64 d.kind,.slice PA d.path.length pc,.int .i64 d.val.kind,.int .i64 d.val.num,.string d.val.text,.slice VA d.val.items.length vc,.slice VA' d.val.names.length vc',.int .i64 d.num] 114 (0,0)):=by rw[hw1];exact heap_alloc_new w _
 have hb1:Below w.heap.size w w1:=by rw[hw1];exact(Below.refl _ _).alloc (Nat.le_refl _) _
 have y0:=Go.Joins.cell_of_block hbk 0;have y1:=Go.Joins.cell_of_block hbk 1;have y2:=Go.Joins.cell_of_block hbk 2;have y3:=Go.Joins.cell_of_block hbk 3;have y4:=Go.Joins.cell_of_block hbk 4;have y5:=Go.Joins.cell_of_block hbk 5;have y6:=Go.Joins.cell_of_block hbk 6;have y7:=Go.Joins.cell_of_block hbk 7;obtain⟨B,bc,rfl,q1,q2,q3⟩:=hq;have gc:=(hb1.cell (p:=⟨g,0,none⟩) hgl).trans hg;rw[hw1]at gc;have HM:=hid (uI PA B pc bc d.path p w1 S S (hp.keep fun b hb=>hb1.block b (hS b hb)) (q1.keep fun b hb=>hb1.block b (hS b hb)) (fun b hb=>Nat.lt_of_lt_of_le (hS b hb) hb1.size) (fun b hb=>Nat.lt_of_lt_of_le (hS b hb) hb1.size) (by omega) (by omega) hpc q2);have HB1:=hid hb1;clear hbk hb1 h hv hp hpc hpn hk hn hpl hS q1 q2 q3 hgl hg;go_enter Tryz.func158,Tryz.ntmps158;go_wp2_with fail;rw[←hw1];refine HM.out.mono ?_;rintro e w2 ⟨rfl,hb2⟩;have HB2:=hid (HB1.out.trans (hb2.mono HB1.out.size));clear hb2;clear HM;go_wp2_with fail;go_ret;exact⟨rfl,HB2.out⟩
theorem ur (S:Nat→Prop)(A:Option Addr)(c:Nat)(l:List aR)(vp:Value)(p:List ByteArray)(g:Nat)(w:World)(hS: ∀b,S b→b<w.heap.size)(h:bk w S A l)(hn:l.length≤140737488351232)(hgl:g<w.heap.size)(hg:w.cell? ⟨g,0,none⟩=some vp)(hp:SlP w S vp p):
  Calls Tryz.prog 175 #[.slice A l.length c,.func (.func 158) #[] #[.pointer (some ⟨g,0,none⟩)]] w fun e w'=>(∃i:Int,e= .returned (.int .i64 i)∧decide (0≤i)=(l.any fun d=>bO (d).path p))∧Below w.heap.size w w':=by
 have H:=hid h;have HS:=hid hS;have HG:=hid (And.intro hgl (And.intro hg hp));have HN:=hid hn;clear h hS hgl hg hp;go_enter Tryz.func175,Tryz.ntmps175;go_wp2_with fail
 go_loopw [8] (fun i wr=> ∃k:Nat,i= .int .i64 k∧k≤l.length∧Hid (Below w.heap.size w wr)∧Hid (∀j (h:j<l.length),j<k→bO (l[j]).path p=false)) (fun i _=>l.length - (intOf i).toNat)
 case atStart=>exact⟨0,rfl,by omega,hid (Below.refl _ _),hid fun j _ h=>absurd h (by omega)⟩
 case round=>
  obtain⟨k,rfl,hk,HB,HJ⟩:=hrel;by_cases hlt:k<l.length
  ·have hS2: ∀b,S b→b<wr.heap.size:=fun b hb=>Nat.lt_of_lt_of_le (HS.out b hb) HB.out.size;obtain⟨bp,off,PA,pc,VA,vc,VA',vc',rfl,hpS,ho,x0,x1,x2,x3,x4,x5,x6,x7⟩:=(H.out.below HS.out HB.out).cells k hlt;have HC:=hid (ne S l[k] _ vp p g wr hS2 ho (Nat.lt_of_lt_of_le HG.out.1 HB.out.size) ((HB.out.cell (p:=⟨g,0,none⟩) HG.out.1).trans HG.out.2.1) (HG.out.2.2.keep fun b hb=>HB.out.block b (HS.out b hb)));clear ho hS2 hpS;go_wp2_with fail;refine HC.out.mono ?_;rintro e u ⟨rfl,hb⟩;have HB2:=hid (HB.out.trans (hb.mono HB.out.size));clear hb HC x0 x1 x2 x3 x4 x5 x6 x7;cases hm:bO (l[k]).path p
   ·have HM:=hid hm;clear hm;go_wp2_with fail
    go_roundw
    case rel=>exact⟨k+1,by go_num,by omega,HB2,hid fun j h hjk=>by
     by_cases e:j=k
     ·subst e;exact HM.out
     ·exact HJ.out j h (by omega)⟩
    case measure=>simp[intOf];omega
   ·have HM:=hid hm;clear hm;go_wp2_with fail;go_ret;exact⟨⟨k,rfl,by rw[List.any_eq_true.2 ⟨l[k],List.getElem_mem hlt,HM.out⟩];simp⟩,HB2.out⟩
  ·go_wp2_with fail;go_ret;refine⟨⟨-1,rfl,?_⟩,HB.out⟩
   rw[show(l.any fun d=>bO (d).path p)=false from List.any_eq_false.2 fun x hx=>by
    obtain⟨j,hj,rfl⟩:=List.mem_iff_getElem.1 hx
    simp[HJ.out j hj (by omega)]]
   rfl
theorem s8 (S:Nat→Prop)(A:Option Addr)(c:Nat)(l:List aR)(vp:Value)(p:List ByteArray)(g:Nat)(w:World)(hS: ∀b,S b→b<w.heap.size)(h:bk w S A l)(hn:l.length≤140737488351232)(hgl:g<w.heap.size)(hg:w.cell? ⟨g,0,none⟩=some vp)(hp:SlP w S vp p):
  Calls Tryz.prog 152 #[.slice A l.length c,.func (.func 158) #[] #[.pointer (some ⟨g,0,none⟩)]] w fun e w'=>e= .returned (.bool (l.any fun d=>bO (d).path p))∧Below w.heap.size w w':=by
 have HC:=hid (ur S A c l vp p g w hS h hn hgl hg hp);clear h hS hgl hg hp;go_enter Tryz.func152,Tryz.ntmps152;go_wp2_with fail;refine HC.out.mono ?_;rintro e u ⟨⟨i,rfl,hi⟩,hb⟩;have HI:=hid hi;have HB:=hid hb;clear hi hb HC;go_wp2_with fail;go_ret;exact⟨aE HI.out,HB.out⟩
theorem pq (S:Nat→Prop)(A:Option Addr)(c:Nat)(l:List aR)(B:Option Addr)(bc:Nat)(p:List ByteArray)(w:World)(hS: ∀b,S b→b<w.heap.size)(h:bk w S A l)(hn:l.length≤140737488351232)(hp:au w S B p)(hpc:p.length≤bc)(hpl:p.length≤8796093021952):
  Calls Tryz.prog 138 #[.slice A l.length c,.slice B p.length bc] w fun e w'=>e= .returned (.bool (iV l p))∧Below w.heap.size w w':=by
 obtain⟨w1,hw1⟩: ∃W,W=w.alloc (.cells #[.slice B p.length bc] 41):=⟨_,rfl⟩;have hb1:Below w.heap.size w w1:=by rw[hw1];exact(Below.refl _ _).alloc (Nat.le_refl _) _
 have hbk:w1.heap[w.heap.size]? =some (.cells #[.slice B p.length bc] 41 (0,0)):=by rw[hw1];exact heap_alloc_new w _
 have hz:w1.heap.size=w.heap.size+1:=by rw[hw1];simp
 have HC:=hid (s8 S A c l (.slice B p.length bc) p w.heap.size w1 (fun b hb=>by have:=hS b hb;omega) (h.below hS hb1) hn (by omega) (Go.Joins.cell_of_block hbk 0) ⟨B,bc,rfl,hp.keep fun b hb=>hb1.block b (hS b hb),hpc,hpl⟩);have HB1:=hid hb1;clear h hS hp hb1 hbk hz hpc;go_enter Tryz.func138,Tryz.ntmps138;go_wp2_with fail;rw[←hw1];refine HC.out.mono ?_;rintro e u ⟨rfl,hb⟩;have HB:=hid (HB1.out.trans (hb.mono HB1.out.size));clear hb HC;go_wp2_with fail;go_ret;exact⟨rfl,HB.out⟩
def rO (g h:Nat)(w w':World):Prop:=w.heap.size≤w'.heap.size∧ ∀b,b<w.heap.size→b≠g→b≠h→w'.heap[b]? =w.heap[b]?
theorem rO.refl (g h:Nat)(w:World):rO g h w w:=⟨Nat.le_refl _,fun _ _ _ _=>rfl⟩
instance (g h:Nat) (w:World):Inhabited (cW (rO g h) w):=⟨⟨w,rO.refl g h w⟩⟩
def fA (e:aU):Bool:=(if e.kind=1 then decide (e.session=0) && decide (e.number=0)else true) && ((decide (0≤e.term) && decide (e.term≤1099511627776)) && (decide (0≤e.session) && decide (e.session≤255)) && (decide (0≤e.number) && decide (e.number≤1099511627776)))
theorem lH (e:aU)(IA:Option Addr)(ic:Nat)(IA':Option Addr)(ic':Nat)(DA:Option Addr)(dc:Nat)(DA':Option Addr)(dc':Nat)(LA:Option Addr)(lc:Nat)(w:World):
  Calls Tryz.prog 85 #[.agg #[.int .i64 e.term,.int .i64 e.kind,.string e.coll,.string e.to,.int .i64 e.id.kind,.int .i64 e.id.num,.string e.id.text,.slice IA e.id.items.length ic,.slice IA' e.id.names.length ic',.int .i64 e.doc.kind,.int .i64 e.doc.num,.string e.doc.text,.slice DA e.doc.items.length dc,.slice DA' e.doc.names.length dc',.slice LA e.dels.length lc,.int .i64 e.session,.int .i64 e.number]] w fun r w'=>r= .returned (.bool (fA e))∧Below w.heap.size w w':=by
 obtain⟨r,hr⟩: ∃r,r=fA e:=⟨_,rfl⟩;have HR:=hid hr;rw[←hr];clear hr;have W1:=hid (fun W=>fU e.term 1099511627776 W);have W2:=hid (fun W=>fU e.session 255 W);have W3:=hid (fun W=>fU e.number 1099511627776 W);by_cases hk:e.kind=1∧ ¬(e.session=0∧e.number=0)
 ·have HE:Hid (r=false):=hid (by
   rw[HR.out];unfold fA;rw[if_pos hk.1];have h2:=hk.2;by_cases h3:e.session=0
   ·rw[decide_eq_false (fun h=>h2 ⟨h3,h⟩),Bool.and_false,Bool.false_and]
   ·rw[decide_eq_false h3,Bool.false_and,Bool.false_and])
  obtain⟨k1,k2⟩:=hk;by_cases h3:e.session=0
  ·have h4: ¬e.number=0:=fun h=>k2 ⟨h3,h⟩;clear k2;go_enter Tryz.func85,Tryz.ntmps85;go_wp2_with fail;go_ret;exact⟨by rw[HE.out];rfl,ae _⟩
  ·clear k2;go_enter Tryz.func85,Tryz.ntmps85;go_wp2_with fail;go_ret;exact⟨by rw[HE.out];rfl,ae _⟩
 ·have HE:Hid (r=((decide (0≤e.term) && decide (e.term≤1099511627776)) && (decide (0≤e.session) && decide (e.session≤255)) && (decide (0≤e.number) && decide (e.number≤1099511627776)))):=hid (by
   rw[HR.out];unfold fA;by_cases h1:e.kind=1
   ·have h2:e.session=0∧e.number=0:=Classical.byContradiction fun h=>hk ⟨h1,h⟩;rw[if_pos h1,decide_eq_true h2.1,decide_eq_true h2.2];rfl
   ·rw[if_neg h1];rfl)
  obtain⟨b1,hb1⟩: ∃b,b=(decide (0≤e.term) && decide (e.term≤1099511627776)):=⟨_,rfl⟩;obtain⟨b2,hb2⟩: ∃b,b=(decide (0≤e.session) && decide (e.session≤255)):=⟨_,rfl⟩;obtain⟨b3,hb3⟩: ∃b,b=(decide (0≤e.number) && decide (e.number≤1099511627776)):=⟨_,rfl⟩;rw[←hb1]at HE W1;rw[←hb2]at HE W2;rw[←hb3]at HE W3;clear hb1 hb2 hb3
  have hcase:e.kind=1∧e.session=0∧e.number=0∨ ¬e.kind=1:=by
   by_cases h1:e.kind=1
   ·exact .inl ⟨h1,Classical.byContradiction fun h=>hk ⟨h1,h⟩⟩
   ·exact .inr h1
  clear hk;rcases hcase with ⟨h1,h2,h3⟩|h1
  ·rw[h2]at W2;rw[h3]at W3;go_enter Tryz.func85,Tryz.ntmps85;go_wp2_with fail;refine(W1.out _).mono ?_;rintro e w1 ⟨rfl,hw⟩;subst hw;cases b1
   ·go_wp2_with fail;go_ret;exact⟨by rw[HE.out];rfl,ae _⟩
   go_wp2_with fail;refine(W2.out _).mono ?_;rintro e w1 ⟨rfl,hw⟩;subst hw;cases b2
   ·go_wp2_with fail;go_ret;exact⟨by rw[HE.out];rfl,ae _⟩
   go_wp2_with fail;refine(W3.out _).mono ?_;rintro e w1 ⟨rfl,hw⟩;subst hw;go_wp2_with fail;go_ret;exact⟨by rw[HE.out];rfl,ae _⟩
  ·skip;go_enter Tryz.func85,Tryz.ntmps85;go_wp2_with fail;refine(W1.out _).mono ?_;rintro e w1 ⟨rfl,hw⟩;subst hw;cases b1
   ·go_wp2_with fail;go_ret;exact⟨by rw[HE.out];rfl,ae _⟩
   go_wp2_with fail;refine(W2.out _).mono ?_;rintro e w1 ⟨rfl,hw⟩;subst hw;cases b2
   ·go_wp2_with fail;go_ret;exact⟨by rw[HE.out];rfl,ae _⟩
   go_wp2_with fail;refine(W3.out _).mono ?_;rintro e w1 ⟨rfl,hw⟩;subst hw;go_wp2_with fail;go_ret;exact⟨by rw[HE.out];rfl,ae _⟩
theorem qO (S:Nat→Prop)(A:Option Addr)(c:Nat)(l:List aR)(w:World)(hS: ∀b,S b→b<w.heap.size)(h:bk w S A l)(hn:l.length≤1172812402961)(hd:l.length≤64→eo l∧fu l):
  Calls Tryz.prog 118 #[.slice A l.length c] w fun e w'=>e= .returned (.bool (dx l))∧Below w.heap.size w w':=by
 have HL:=hid h;have HS:=hid hS;have HN:=hid hn;have HC:=hid (lR S A c l w hS h (by omega) (fun h=>(hd h).1));obtain⟨r,hr⟩: ∃r,r=dx l:=⟨_,rfl⟩;have HR:Hid (r=(decide (bo l=0) && db l && !iV l [idN])):=hid hr;rw[←hr];obtain⟨x,hx⟩: ∃x,x=bo l:=⟨_,rfl⟩;have HX:=hid hx;rw[←hx]at HC HR;clear hr hx h hS hn hd;go_enter Tryz.func118,Tryz.ntmps118;go_wp2_with fail;refine HC.out.mono ?_;rintro e w1 ⟨rfl,hb⟩;have HB:=hid hb;clear hb HC;by_cases h0:x=0
 ·subst h0;have h64:l.length≤64:=(dr HX.out.symm).1;have HF:=hid (qu S A c l w1 (fun b hb=>Nat.lt_of_lt_of_le (HS.out b hb) HB.out.size) (HL.out.below HS.out HB.out) (by omega));obtain⟨f,hf⟩: ∃f,f=db l:=⟨_,rfl⟩;rw[←hf]at HF HR;clear hf;go_wp2_with fail;refine HF.out.mono ?_;rintro e w2 ⟨rfl,hb⟩;have HB2:=hid (HB.out.trans (hb.mono HB.out.size));clear hb HF;cases f
  ·go_wp2_with fail;go_ret;exact⟨by rw[HR.out];rfl,HB2.out⟩
  ·obtain⟨w3,hw3⟩: ∃W,W=w2.alloc (.cells #[.string idN] 9):=⟨_,rfl⟩;have hb3:Below w2.heap.size w2 w3:=by rw[hw3];exact ae _
   have hk3:w3.heap[w2.heap.size]? =some (.cells #[.string idN] 9 (0,0)):=by rw[hw3];exact heap_alloc_new _ _
   have hz3:w3.heap.size=w2.heap.size+1:=by rw[hw3];simp
   have HB3:=hid (HB2.out.trans (hb3.mono HB2.out.size))
   have hst:au w3 (fun b=>S b∨b=w2.heap.size) (some ⟨w2.heap.size,0,none⟩) [idN]:=fun _=>⟨_,0,rfl,.inr rfl,fun i hi=>by
    obtain rfl:i=0:=by simpa using hi
    exact⟨Go.Joins.cell_of_block hk3 0,show idN.size≤140737488351232 by decide⟩⟩
   have HT:=hid (pq (fun b=>S b∨b=w2.heap.size) A c l (some ⟨w2.heap.size,0,none⟩) 1 [idN] w3 (fun b hb=>by
    rcases hb with hb|rfl
    ·exact Nat.lt_of_lt_of_le (HS.out b hb) HB3.out.size
    ·omega) ((HL.out.below HS.out HB3.out).imp fun b hb=> .inl hb) (by omega) hst (by simp) (by simp))
   clear hb3 hk3 hst h64;go_wp2_with fail;rw[show(⟨#[95,105,100]⟩:ByteArray)=idN from rfl,←hw3];refine HT.out.mono ?_;rintro e w4 ⟨rfl,hb⟩;have HB4:=hid (HB3.out.trans (hb.mono HB3.out.size));clear hb HT hw3;go_wp2_with fail;go_ret;exact⟨by rw[HR.out];rfl,HB4.out⟩
 ·have HE:Hid (r=false):=hid (by rw[HR.out,decide_eq_false h0];rfl);have h1:(x == 0)=false:=beq_false_of_ne h0;go_wp2_with fail;go_ret;exact⟨by rw[HE.out];rfl,HB.out⟩
theorem kc : ∀ {l:List VT} {x:VT},x∈l→ao x≤aN l
 |a::r,x,h=>by
  unfold aN;rcases List.mem_cons.1 h with rfl|h
  ·omega
  ·have:=kc h;omega
theorem vg {t:VT}{n:Nat}(h:n<t.items.length):ao t.items[n]≤ao t:=by
 obtain⟨k,i,s,l,ns⟩:=t;have:=kc (List.getElem_mem (l:=l) h);rw[aH];exact Nat.le_succ_of_le this
theorem qf {v:VT}{n:Nat}(hc:ba v=true)(hn:nmI 0 v.names idN=(n:Int)):n<v.items.length∧ ∀(h:n<v.items.length),ba v.items[n]=true:=by
 have h1:=(la (s:=idN) (l:=v.names) (k:=0)).2;have hlt:n<v.names.length:=by omega
 have hk:v.kind=7:=Classical.byContradiction fun h=>by
  have:=jF ((oC v).1 hc).1 h;rw[this]at hlt;exact absurd hlt (by simp)
 have h2:n<v.items.length:=Nat.lt_of_lt_of_le hlt (tQ hc hk);exact⟨h2,fun h=>j3 hc h⟩
theorem qQ (S:Nat→Prop)(v id:VT)(cv ci:Value)(w:World)(hS: ∀b,S b→b<w.heap.size)(hv:LV w S v cv)(hi:LV w S id ci)(dv:ao v≤4611686018427387903)(di:ao id≤4611686018427387903)(hid:ba id=true):
  Calls Tryz.prog 117 #[cv,ci] w fun e w'=>e= .returned (.bool (cH v id))∧Below w.heap.size w w':=by
 obtain⟨A,ca,A',ca',B,cb,B',cb',rfl,rfl,lens,a7,a6,b7,b6,v1,v2,hb0⟩:=ko hS hv hi;obtain⟨w2,hw2⟩: ∃W,W=((w.alloc (.cells #[.int .i64 v.kind,.int .i64 v.num,.string v.text,.slice A v.items.length ca,.slice A' v.names.length ca'] 43)).alloc (.cells #[.int .i64 id.kind,.int .i64 id.num,.string id.text,.slice B id.items.length cb,.slice B' id.names.length cb'] 43)):=⟨_,rfl⟩;rw[←hw2]at v1 v2 hb0;have HX:=Lib.hid (oA A' ca' v.names idN w2 S (a6.keep fun b hb=>hb0.block b (hS b hb)) lens.2.1);obtain⟨r,hr⟩: ∃r,r=cH v id:=⟨_,rfl⟩;have HR:=Lib.hid (hr.trans (tT v id));rw[←hr];have HB0:=Lib.hid hb0;have H1:=Lib.hid v1;have H2:=Lib.hid v2;have HS2:Hid (∀b,S b→b<w2.heap.size):=Lib.hid fun b hb=>Nat.lt_of_lt_of_le (hS b hb) hb0.size;have HDI:=Lib.hid (And.intro di hid);have HDV:=Lib.hid dv;have HAI:=Lib.hid (a7.keep fun b hb=>hb0.block b (hS b hb));have HSI:=Lib.hid hS;obtain⟨i,hii⟩: ∃i,i=nmI 0 v.names idN:=⟨_,rfl⟩;rw[←hii]at HX HR;have HI:=Lib.hid hii;clear hr hb0 v1 v2 di hid dv a7 a6 b7 b6 hv hi hS lens hii;go_enter Tryz.func117,Tryz.ntmps117;go_wp2_with fail;rw[show(⟨#[95,105,100]⟩:ByteArray)=idN from rfl,←hw2];refine HX.out.mono ?_;rintro e u ⟨rfl,hw⟩;subst hw;clear HX hw2;have z0:=aa (B:=w2.heap.size) (w:=w2.drew) (a:=⟨w.heap.size,0,none⟩) H1.out.x.c0 H1.out.x.lt;have z1:=aa (B:=w2.heap.size) (w:=w2.drew) (a:=⟨w.heap.size,1,none⟩) H1.out.x.c1 H1.out.x.lt;have z2:=aa (B:=w2.heap.size) (w:=w2.drew) (a:=⟨w.heap.size,2,none⟩) H1.out.x.c2 H1.out.x.lt;have z3:=aa (B:=w2.heap.size) (w:=w2.drew) (a:=⟨w.heap.size,3,none⟩) H1.out.x.c3 H1.out.x.lt
 have z4:=aa (B:=w2.heap.size) (w:=w2.drew) (a:=⟨w.heap.size,4,none⟩) H1.out.x.c4 H1.out.x.lt;by_cases hi0:0≤i
 ·have d0:decide (0≤i)=true:=decide_eq_true hi0;have HCK:=Lib.hid (eY S v _ w2.drew HS2.out (H1.out.v.keep (w:=w2) (w':=w2.drew) fun _ _=>rfl) HDV.out);go_wp2_with fail;refine ar [0,1,2,3,4,5,6,7,8,9,10,11,12,13,14,15,16] (by kernel_rfl) (by kernel_rfl) (fun _ d _ _ _ h=>by cases d<;>exact h) ?_;simp only[atR];first|with_reducible refine ac ?_ |with_reducible refine ab ?_ |refine ac ?_ |refine ab ?_
  simp only[List.takeWhile,List.dropWhile,ai,Nat.reduceBNe];repeat(go_big_quiet_step (fail))
  first|with_reducible refine wpQuiet_nil ?_ |refine wpQuiet_nil ?_
  clear z0 z1 z2 z3 z4;first|with_reducible refine ah ?_ (fun K hK=> ?_)|with_reducible refine af ?_ (fun K hK=> ?_)|refine ah ?_ (fun K hK=> ?_)|refine af ?_ (fun K hK=> ?_)
  ·rfl
  go_simp
  refine(HCK.out).mono ?_;rintro e w3 ⟨rfl,hb⟩;refine hK _ _ hb ?_;clear hK K;try simp only[Act.put]
  replace hb:Below w2.heap.size w2 w3:=(Below.refl _ _).drew.trans hb;have HB3:=Lib.hid (HB0.out.trans (hb.mono HB0.out.size));have H13:=Lib.hid (And.intro (hb.block w.heap.size H1.out.x.lt |>.trans H1.out.x) (hb.block (w.heap.size+1) H2.out.x.lt |>.trans H2.out.x));have HV3:=Lib.hid (H2.out.v.keep fun b h=>hb.block b (HS2.out b h));have HA3:=Lib.hid (HAI.out.keep fun b h=>hb.block b (HS2.out b h));have HS3:Hid (∀b,S b→b<w3.heap.size):=Lib.hid fun b h=>Nat.lt_of_lt_of_le (HS2.out b h) hb.size;clear HCK hb;obtain⟨x,hx⟩: ∃x,x=aX v:=⟨_,rfl⟩;have HX:=Lib.hid hx;rw[←hx]at HR ⊢;clear hx;by_cases hx0:x=0
  ·subst hx0;have hmay:=ek HX.out.symm;obtain⟨n,rfl⟩: ∃n:Nat,i=n:=⟨i.toNat,by omega⟩;obtain⟨hn,hmi⟩:=qf hmay HI.out.symm;obtain⟨q,o,rfl,hSq,hl⟩:=HA3.out (by omega);obtain⟨c0,c1,c2,c3,c4,hc0,hc1,hc2,hc3,hc4,hlv⟩:=hl.at n hn;have hq:=HS3.out q hSq;obtain⟨VA,vc,VA',vc',hvs,-⟩:=hlv.shape;simp only[Value.agg.injEq,Array.mk.injEq,List.cons.injEq,and_true]at hvs;obtain⟨rfl,rfl,rfl,rfl,rfl⟩:=hvs
   have HE:Hid (r=(p7 v.items[n] id == 0)):=Lib.hid (by
    rw[HR.out,d0,Int.toNat_natCast,List.getElem?_eq_getElem hn];unfold p7;rw[if_pos ⟨hmi hn,HDI.out.2⟩]
    exact show(decide (0=(0:Int)) && decide (eA v.items[n] id=0))=_ by rw[decide_eq_true rfl,Bool.true_and];rfl)
   have hdp:ao v.items[n]≤4611686018427387903:=Nat.le_trans (vg hn) HDV.out;have HSA:=Lib.hid (um S v.items[n] id _ _ w3 HS3.out hlv HV3.out hdp HDI.out.1);have z3:=aa (B:=w3.heap.size) (w:=w3) (a:=⟨w.heap.size,3,none⟩) (Go.Joins.cell_of_block H13.out.1 3) (Array.getElem?_eq_some_iff.1 H13.out.1).1;have y0:=aa (B:=w3.heap.size) (w:=w3) (a:=⟨w.heap.size+1,0,none⟩) (Go.Joins.cell_of_block H13.out.2 0) (Array.getElem?_eq_some_iff.1 H13.out.2).1;have y1:=aa (B:=w3.heap.size) (w:=w3) (a:=⟨w.heap.size+1,1,none⟩) (Go.Joins.cell_of_block H13.out.2 1) (Array.getElem?_eq_some_iff.1 H13.out.2).1;have y2:=aa (B:=w3.heap.size) (w:=w3) (a:=⟨w.heap.size+1,2,none⟩) (Go.Joins.cell_of_block H13.out.2 2) (Array.getElem?_eq_some_iff.1 H13.out.2).1;have y3:=aa (B:=w3.heap.size) (w:=w3) (a:=⟨w.heap.size+1,3,none⟩) (Go.Joins.cell_of_block H13.out.2 3) (Array.getElem?_eq_some_iff.1 H13.out.2).1;have y4:=aa (B:=w3.heap.size) (w:=w3) (a:=⟨w.heap.size+1,4,none⟩) (Go.Joins.cell_of_block H13.out.2 4) (Array.getElem?_eq_some_iff.1 H13.out.2).1;have x0:=aa (B:=w3.heap.size) (w:=w3) (a:=⟨q,o+n * 5,none⟩) hc0 hq;have x1:=aa (B:=w3.heap.size) (w:=w3) (a:=⟨q,o+n * 5+1,none⟩) hc1 hq;have x2:=aa (B:=w3.heap.size) (w:=w3) (a:=⟨q,o+n * 5+2,none⟩) hc2 hq;have x3:=aa (B:=w3.heap.size) (w:=w3) (a:=⟨q,o+n * 5+3,none⟩) hc3 hq;have x4:=aa (B:=w3.heap.size) (w:=w3) (a:=⟨q,o+n * 5+4,none⟩) hc4 hq;generalize p7 v.items[n] id=C at *;clear hc0 hc1 hc2 hc3 hc4 hlv hmi hl hmay hq hdp;first|with_reducible refine ac ?_ |with_reducible refine ab ?_ |refine ac ?_ |refine ab ?_
   simp only[List.takeWhile,List.dropWhile,ai,Nat.reduceBNe];repeat(go_big_quiet_step (fail))
   first|with_reducible refine wpQuiet_nil ?_ |refine wpQuiet_nil ?_
   clear z3 y0 y1 y2 y3 y4 x0 x1 x2 x3 x4;first|with_reducible refine ah ?_ (fun K hK=> ?_)|with_reducible refine af ?_ (fun K hK=> ?_)|refine ah ?_ (fun K hK=> ?_)|refine af ?_ (fun K hK=> ?_)
   ·rfl
   go_simp
   refine(HSA.out).mono ?_;rintro e w4 ⟨rfl,hb⟩;refine hK _ _ hb ?_;clear hK K;try simp only[Act.put]
   have HB4:=Lib.hid (HB3.out.trans (hb.mono HB3.out.size));clear hb;first|with_reducible refine ac ?_ |with_reducible refine ab ?_ |refine ac ?_ |refine ab ?_
   simp only[List.takeWhile,List.dropWhile,ai,Nat.reduceBNe];repeat(go_big_quiet_step (fail))
   first|with_reducible refine wpQuiet_nil ?_ |refine wpQuiet_nil ?_
   unfold aF;go_wp2_with fail;go_ret;exact⟨by rw[HE.out];rfl,HB4.out⟩
  ·have hx1:(x == 0)=false:=beq_false_of_ne hx0;have HE:Hid (r=false):=Lib.hid (by rw[HR.out,decide_eq_false hx0,Bool.and_false];rfl);clear hx0;first|with_reducible refine ac ?_ |with_reducible refine ab ?_ |refine ac ?_ |refine ab ?_
   simp only[List.takeWhile,List.dropWhile,ai,Nat.reduceBNe];repeat(go_big_quiet_step (fail))
   first|with_reducible refine wpQuiet_nil ?_ |refine wpQuiet_nil ?_
   first|with_reducible refine ah ?_ (fun K hK=> ?_)|with_reducible refine af ?_ (fun K hK=> ?_)|refine ah ?_ (fun K hK=> ?_)|refine af ?_ (fun K hK=> ?_)
   ·rfl
   go_simp
   refine hK _ _ (Below.refl _ _) ?_;clear hK K;try simp only[Act.put]
   first|with_reducible refine ac ?_ |with_reducible refine ab ?_ |refine ac ?_ |refine ab ?_
   simp only[List.takeWhile,List.dropWhile,ai,Nat.reduceBNe];repeat(go_big_quiet_step (fail))
   first|with_reducible refine wpQuiet_nil ?_ |refine wpQuiet_nil ?_
   unfold aF;go_wp2_with fail;go_ret;exact⟨by rw[HE.out];rfl,HB3.out⟩
 ·have d0:decide (0≤i)=false:=decide_eq_false hi0;have HE:Hid (r=false):=Lib.hid (by rw[HR.out,d0];rfl);go_wp2_with fail;refine ar [0,1,2,3,4,5,6,7,8,9,10,11,12,13,14,15,16] (by kernel_rfl) (by kernel_rfl) (fun _ d _ _ _ h=>by cases d<;>exact h) ?_;simp only[atR];first|with_reducible refine ac ?_ |with_reducible refine ab ?_ |refine ac ?_ |refine ab ?_
  simp only[List.takeWhile,List.dropWhile,ai,Nat.reduceBNe];repeat(go_big_quiet_step (fail))
  first|with_reducible refine wpQuiet_nil ?_ |refine wpQuiet_nil ?_
  first|with_reducible refine ah ?_ (fun K hK=> ?_)|with_reducible refine af ?_ (fun K hK=> ?_)|refine ah ?_ (fun K hK=> ?_)|refine af ?_ (fun K hK=> ?_)
  ·rfl
  go_simp
  refine hK _ _ (Below.refl _ _) ?_;clear hK K;try simp only[Act.put]
  first|with_reducible refine ac ?_ |with_reducible refine ab ?_ |refine ac ?_ |refine ab ?_
  simp only[List.takeWhile,List.dropWhile,ai,Nat.reduceBNe];repeat(go_big_quiet_step (fail))
  first|with_reducible refine wpQuiet_nil ?_ |refine wpQuiet_nil ?_
  first|with_reducible refine ah ?_ (fun K hK=> ?_)|with_reducible refine af ?_ (fun K hK=> ?_)|refine ah ?_ (fun K hK=> ?_)|refine af ?_ (fun K hK=> ?_)
  ·rfl
  go_simp
  refine hK _ _ (Below.refl _ _) ?_;clear hK K;try simp only[Act.put]
  first|with_reducible refine ac ?_ |with_reducible refine ab ?_ |refine ac ?_ |refine ab ?_
  simp only[List.takeWhile,List.dropWhile,ai,Nat.reduceBNe];repeat(go_big_quiet_step (fail))
  first|with_reducible refine wpQuiet_nil ?_ |refine wpQuiet_nil ?_
  unfold aF;go_wp2_with fail;go_ret;exact⟨by rw[HE.out];rfl,HB0.out.drew⟩
structure ay (b:Bool):Prop where
  mk::
theorem aS.all {w:World}{g:Nat}{e:aU}{IA:Option Addr}{ic:Nat}{IA':Option Addr}{ic':Nat}{DA:Option Addr}{dc:Nat}{DA':Option Addr}{dc':Nat}{LA:Option Addr}{lc:Nat}(h:aS w g e IA ic IA' ic' DA dc DA' dc' LA lc):w.cell? ⟨g,1,none⟩=some (.int .i64 e.kind)∧w.cell? ⟨g,2,none⟩=some (.string e.coll)∧w.cell? ⟨g,3,none⟩=some (.string e.to)∧w.cell? ⟨g,4,none⟩=some (.int .i64 e.id.kind)∧w.cell? ⟨g,5,none⟩=some (.int .i64 e.id.num)∧w.cell? ⟨g,6,none⟩=some (.string e.id.text)∧w.cell? ⟨g,7,none⟩=some (.slice IA e.id.items.length ic)∧w.cell? ⟨g,8,none⟩=some (.slice IA' e.id.names.length ic')∧w.cell? ⟨g,9,none⟩=some (.int .i64 e.doc.kind)∧w.cell? ⟨g,10,none⟩=some (.int .i64 e.doc.num)∧w.cell? ⟨g,11,none⟩=some (.string e.doc.text)∧w.cell? ⟨g,12,none⟩=some (.slice DA e.doc.items.length dc)∧w.cell? ⟨g,13,none⟩=some (.slice DA' e.doc.names.length dc')∧w.cell? ⟨g,14,none⟩=some (.slice LA e.dels.length lc)∧w.cell? ⟨g,15,none⟩=some (.int .i64 e.session)∧w.cell? ⟨g,16,none⟩=some (.int .i64 e.number):=
  ⟨h.g1,h.g2,h.g3,h.g4,h.g5,h.g6,h.g7,h.g8,h.g9,h.g10,h.g11,h.g12,h.g13,h.g14,h.g15,h.g16⟩
theorem qp (b1 b2 b3 b4 b5:Bool)(F:Int)(H1: ∀W,Calls Tryz.prog 113 #[.int .i64 F,.int .i64 1] W fun e w'=>e= .returned (.bool b1)∧w'=W)(H2: ∀W,Calls Tryz.prog 113 #[.int .i64 F,.int .i64 2] W fun e w'=>e= .returned (.bool b2)∧w'=W)(H3: ∀W,Calls Tryz.prog 113 #[.int .i64 F,.int .i64 4] W fun e w'=>e= .returned (.bool b3)∧w'=W)(H4: ∀W,Calls Tryz.prog 113 #[.int .i64 F,.int .i64 8] W fun e w'=>e= .returned (.bool b4)∧w'=W)(H5: ∀W,Calls Tryz.prog 113 #[.int .i64 F,.int .i64 16] W fun e w'=>e= .returned (.bool b5)∧w'=W)(hb:(b1=false∧b2=false∧b3=false∧b4=false∧b5=false)∨(b1=true∧b2=false∧b3=true∧b4=true∧b5=false)∨(b1=true∧b2=false∧b3=true∧b4=false∧b5=true)∨(b1=true∧b2=false∧b3=true∧b4=false∧b5=false)∨(b1=true∧b2=false∧b3=false∧b4=false∧b5=false)∨(b1=true∧b2=true∧b3=false∧b4=false∧b5=false))(S:Nat→Prop)(e:aU)(IA:Option Addr)(ic:Nat)(IA':Option Addr)(ic':Nat)(DA:Option Addr)(dc:Nat)(DA':Option Addr)(dc':Nat)(LA:Option Addr)(lc:Nat)(w:World)(hS: ∀b,S b→b<w.heap.size)(h:eE w S e IA ic IA' ic' DA dc DA' dc' LA lc):
    Calls Tryz.prog 86 #[.int .i64 F,.agg #[.int .i64 e.term,.int .i64 e.kind,.string e.coll,.string e.to,.int .i64 e.id.kind,.int .i64 e.id.num,.string e.id.text,.slice IA e.id.items.length ic,.slice IA' e.id.names.length ic',.int .i64 e.doc.kind,.int .i64 e.doc.num,.string e.doc.text,.slice DA e.doc.items.length dc,.slice DA' e.doc.names.length dc',.slice LA e.dels.length lc,.int .i64 e.session,.int .i64 e.number]] w fun r w'=>r= .returned (.bool ((b1 || decide (e.coll.size=0)) && (b2 || decide (e.to.size=0)) && (b3 || bm e.id) && (b4 || bm e.doc) && (b5 || decide (e.dels.length=0))))∧Below w.heap.size w w':=by
  obtain⟨w1,hw1⟩: ∃W,W=w.alloc (.cells #[.int .i64 e.term,.int .i64 e.kind,.string e.coll,.string e.to,.int .i64 e.id.kind,.int .i64 e.id.num,.string e.id.text,.slice IA e.id.items.length ic,.slice IA' e.id.names.length ic',.int .i64 e.doc.kind,.int .i64 e.doc.num,.string e.doc.text,.slice DA e.doc.items.length dc,.slice DA' e.doc.names.length dc',.slice LA e.dels.length lc,.int .i64 e.session,.int .i64 e.number] 46):=⟨_,rfl⟩;have hbk:aS w1 w.heap.size e IA ic IA' ic' DA dc DA' dc' LA lc:=by rw[hw1];exact heap_alloc_new w _
  have hb1:Below w.heap.size w w1:=by rw[hw1];exact ae _
  obtain⟨r,hr⟩: ∃r,r=((b1 || decide (e.coll.size=0)) && (b2 || decide (e.to.size=0)) && (b3 || bm e.id) && (b4 || bm e.doc) && (b5 || decide (e.dels.length=0))):=⟨_,rfl⟩;have HR:=hid hr;rw[←hr];have HB:=hid hb1;have HK:=hid hbk;have HS:=hid hS;have HA:=hid h;have HH1:=hid H1;have HH2:=hid H2;have HH3:=hid H3;have HH4:=hid H4;have HH5:=hid H5;clear hr hb1 hbk hS h H1 H2 H3 H4 H5;have HF1:=(ay.mk:ay b1);have HF2:=(ay.mk:ay b2);have HF3:=(ay.mk:ay b3);have HF4:=(ay.mk:ay b4);have HF5:=(ay.mk:ay b5);rcases hb with ⟨rfl,rfl,rfl,rfl,rfl⟩|⟨rfl,rfl,rfl,rfl,rfl⟩|⟨rfl,rfl,rfl,rfl,rfl⟩|⟨rfl,rfl,rfl,rfl,rfl⟩|⟨rfl,rfl,rfl,rfl,rfl⟩|⟨rfl,rfl,rfl,rfl,rfl⟩
  all_goals
    go_enter Tryz.func86,Tryz.ntmps86;go_wp2_with fail;rw[←hw1];clear hw1;refine(HH1.out _).mono ?_;rintro q u ⟨rfl,hw⟩;replace hw:=hw.symm;subst hw;obtain⟨y1,y2,y3,y4,y5,y6,y7,y8,y9,y10,y11,y12,y13,y14,y15,y16⟩:=HK.out.all
  all_goals first
    |(have _g:ay true:=HF1
      have HQ1:Hid ((true || decide (e.coll.size=0))=true):=hid rfl)
    |(have _g:ay false:=HF1
      by_cases hc:e.coll.size=0;rotate_left
      · have e1:e.coll.toList.isEmpty=false:=by rw[←Bool.not_eq_true,bR];exact hc
        have HE:Hid (r=false):=hid (by rw[HR.out];simp[hc]);go_wp2_with fail;go_ret;exact⟨by rw[HE.out];rfl,HB.out⟩
      have e1:e.coll.toList= []:=bj.2 hc;have HQ1:Hid ((false || decide (e.coll.size=0))=true):=hid (by rw[decide_eq_true hc];rfl)
      clear hc)
  all_goals
    go_wp2_with fail;refine(HH2.out _).mono ?_;rintro q u ⟨rfl,hw⟩;replace hw:=hw.symm;subst hw
  all_goals first
    |(have _g:ay true:=HF2
      have HQ2:Hid ((true || decide (e.to.size=0))=true):=hid rfl)
    |(have _g:ay false:=HF2
      by_cases hc:e.to.size=0;rotate_left
      · have e2:e.to.toList.isEmpty=false:=by rw[←Bool.not_eq_true,bR];exact hc
        have HE:Hid (r=false):=hid (by rw[HR.out];simp[hc]);go_wp2_with fail;go_ret;exact⟨by rw[HE.out];rfl,HB.out⟩
      have e2:e.to.toList= []:=bj.2 hc;have HQ2:Hid ((false || decide (e.to.size=0))=true):=hid (by rw[decide_eq_true hc];rfl)
      clear hc)
  all_goals
    go_wp2_with fail;refine(HH3.out _).mono ?_;rintro q u ⟨rfl,hw⟩;replace hw:=hw.symm;subst hw
  all_goals first
    |(have _g:ay true:=HF3
      have HQ3:Hid ((true || bm e.id)=true):=hid rfl)
    |(have _g:ay false:=HF3
      go_wp2_with fail;refine(lf S e.id _ _ (fun b hb=>Nat.lt_of_lt_of_le (HS.out b hb) HB.out.size) (HA.out.below HS.out HB.out).id).mono ?_;rintro q wn ⟨rfl,hb⟩;clear y1 y2 y3 y4 y5 y6 y7 y8 y9 y10 y11 y12 y13 y14 y15 y16;have HB:=hid (HB.out.trans (hb.mono HB.out.size));have HK:=hid (HK.out.below hb);clear hb;obtain⟨y1,y2,y3,y4,y5,y6,y7,y8,y9,y10,y11,y12,y13,y14,y15,y16⟩:=HK.out.all;cases hn:bm e.id
      · have HE:Hid (r=false):=hid (by rw[HR.out];simp[hn])
        go_wp2_with fail;go_ret;exact⟨by rw[HE.out];rfl,HB.out⟩
      have HQ3:Hid ((false || bm e.id)=true):=hid (by rw[hn];rfl)
      clear hn)
  all_goals
    go_wp2_with fail;refine(HH4.out _).mono ?_;rintro q u ⟨rfl,hw⟩;replace hw:=hw.symm;subst hw
  all_goals first
    |(have _g:ay true:=HF4
      have HQ4:Hid ((true || bm e.doc)=true):=hid rfl)
    |(have _g:ay false:=HF4
      go_wp2_with fail;refine(lf S e.doc _ _ (fun b hb=>Nat.lt_of_lt_of_le (HS.out b hb) HB.out.size) (HA.out.below HS.out HB.out).doc).mono ?_;rintro q wn ⟨rfl,hb⟩;clear y1 y2 y3 y4 y5 y6 y7 y8 y9 y10 y11 y12 y13 y14 y15 y16;have HB:=hid (HB.out.trans (hb.mono HB.out.size));have HK:=hid (HK.out.below hb);clear hb;obtain⟨y1,y2,y3,y4,y5,y6,y7,y8,y9,y10,y11,y12,y13,y14,y15,y16⟩:=HK.out.all;cases hn:bm e.doc
      · have HE:Hid (r=false):=hid (by rw[HR.out];simp[hn])
        go_wp2_with fail;go_ret;exact⟨by rw[HE.out];rfl,HB.out⟩
      have HQ4:Hid ((false || bm e.doc)=true):=hid (by rw[hn];rfl)
      clear hn)
  all_goals
    go_wp2_with fail;refine(HH5.out _).mono ?_;rintro q u ⟨rfl,hw⟩;replace hw:=hw.symm;subst hw
  all_goals first
    |(have _g:ay true:=HF5
      have HQ5:Hid ((true || decide (e.dels.length=0))=true):=hid rfl)
    |(have _g:ay false:=HF5
      by_cases hc5:e.dels.length=0;rotate_left
      · have e5:((e.dels.length:Int) == 0)=false:=beq_eq_false_iff_ne.2 (by omega)
        have e6: ¬e.dels= []:=fun h=>hc5 (by rw[h];rfl);have HE:Hid (r=false):=hid (by rw[HR.out];simp[e6]);go_wp2_with fail;go_ret;exact⟨by rw[HE.out];rfl,HB.out⟩
      have e5:((e.dels.length:Int) == 0)=true:=beq_iff_eq.2 (by omega);have e6:(e.dels.length:Int)=0:=by omega
      have HQ5:Hid ((false || decide (e.dels.length=0))=true):=hid (by rw[decide_eq_true hc5];rfl)
      clear hc5)
  all_goals
    have HE:Hid (r=true):=hid (by rw[HR.out];simp only[HQ1.out,HQ2.out,HQ3.out,HQ4.out,HQ5.out,Bool.and_self]);go_wp2_with fail;go_ret;exact⟨by rw[HE.out];rfl,HB.out⟩
theorem ol (b1 b2 b3 b4 b5:Bool)(F:Int)(H1: ∀W,Calls Tryz.prog 113 #[.int .i64 F,.int .i64 1] W fun e w'=>e= .returned (.bool b1)∧w'=W)(H2: ∀W,Calls Tryz.prog 113 #[.int .i64 F,.int .i64 2] W fun e w'=>e= .returned (.bool b2)∧w'=W)(H3: ∀W,Calls Tryz.prog 113 #[.int .i64 F,.int .i64 4] W fun e w'=>e= .returned (.bool b3)∧w'=W)(H4: ∀W,Calls Tryz.prog 113 #[.int .i64 F,.int .i64 8] W fun e w'=>e= .returned (.bool b4)∧w'=W)(H5: ∀W,Calls Tryz.prog 113 #[.int .i64 F,.int .i64 16] W fun e w'=>e= .returned (.bool b5)∧w'=W)(hb:(b1=false∧b2=false∧b3=false∧b4=false∧b5=false)∨(b1=true∧b2=false∧b3=true∧b4=true∧b5=false)∨(b1=true∧b2=false∧b3=true∧b4=false∧b5=true)∨(b1=true∧b2=false∧b3=true∧b4=false∧b5=false)∨(b1=true∧b2=false∧b3=false∧b4=false∧b5=false)∨(b1=true∧b2=true∧b3=false∧b4=false∧b5=false))(S:Nat→Prop)(e:aU)(IA:Option Addr)(ic:Nat)(IA':Option Addr)(ic':Nat)(DA:Option Addr)(dc:Nat)(DA':Option Addr)(dc':Nat)(LA:Option Addr)(lc:Nat)(w:World)(hS: ∀b,S b→b<w.heap.size)(h:eE w S e IA ic IA' ic' DA dc DA' dc' LA lc)(hd:SmE e):
    Calls Tryz.prog 87 #[.int .i64 F,.agg #[.int .i64 e.term,.int .i64 e.kind,.string e.coll,.string e.to,.int .i64 e.id.kind,.int .i64 e.id.num,.string e.id.text,.slice IA e.id.items.length ic,.slice IA' e.id.names.length ic',.int .i64 e.doc.kind,.int .i64 e.doc.num,.string e.doc.text,.slice DA e.doc.items.length dc,.slice DA' e.doc.names.length dc',.slice LA e.dels.length lc,.int .i64 e.session,.int .i64 e.number]] w fun r w'=>r= .returned (.bool ((!b1 || bn e.coll) && (!b2 || (bn e.to && decide (e.to≠e.coll))) && (!b3 || decide (aX e.id=0)) && (!b4 || cH e.doc e.id) && (!b5 || dx e.dels)))∧Below w.heap.size w w':=by
  obtain⟨w1,hw1⟩: ∃W,W=w.alloc (.cells #[.int .i64 e.term,.int .i64 e.kind,.string e.coll,.string e.to,.int .i64 e.id.kind,.int .i64 e.id.num,.string e.id.text,.slice IA e.id.items.length ic,.slice IA' e.id.names.length ic',.int .i64 e.doc.kind,.int .i64 e.doc.num,.string e.doc.text,.slice DA e.doc.items.length dc,.slice DA' e.doc.names.length dc',.slice LA e.dels.length lc,.int .i64 e.session,.int .i64 e.number] 46):=⟨_,rfl⟩;have hbk:aS w1 w.heap.size e IA ic IA' ic' DA dc DA' dc' LA lc:=by rw[hw1];exact heap_alloc_new w _
  have hb1:Below w.heap.size w w1:=by rw[hw1];exact ae _
  obtain⟨r,hr⟩: ∃r,r=((!b1 || bn e.coll) && (!b2 || (bn e.to && decide (e.to≠e.coll))) && (!b3 || decide (aX e.id=0)) && (!b4 || cH e.doc e.id) && (!b5 || dx e.dels)):=⟨_,rfl⟩;have HR:=hid hr;rw[←hr];have HB:=hid hb1;have HK:=hid hbk;have HS:=hid hS;have HA:=hid h;have HD:=hid hd;have HH1:=hid H1;have HH2:=hid H2;have HH3:=hid H3;have HH4:=hid H4;have HH5:=hid H5;clear hr hb1 hbk hS h hd H1 H2 H3 H4 H5;have HF1:=(ay.mk:ay b1);have HF2:=(ay.mk:ay b2);have HF3:=(ay.mk:ay b3);have HF4:=(ay.mk:ay b4);have HF5:=(ay.mk:ay b5);rcases hb with ⟨rfl,rfl,rfl,rfl,rfl⟩|⟨rfl,rfl,rfl,rfl,rfl⟩|⟨rfl,rfl,rfl,rfl,rfl⟩|⟨rfl,rfl,rfl,rfl,rfl⟩|⟨rfl,rfl,rfl,rfl,rfl⟩|⟨rfl,rfl,rfl,rfl,rfl⟩
  all_goals
    go_enter Tryz.func87,Tryz.ntmps87;go_wp2_with fail;rw[←hw1];clear hw1;refine(HH1.out _).mono ?_;rintro q u ⟨rfl,hw⟩;replace hw:=hw.symm;subst hw;obtain⟨y1,y2,y3,y4,y5,y6,y7,y8,y9,y10,y11,y12,y13,y14,y15,y16⟩:=HK.out.all
  all_goals first
    |(have _g:ay true:=HF1
      go_wp2_with fail;refine(mN e.coll _).mono ?_;rintro q wn ⟨rfl,hb⟩;clear y1 y2 y3 y4 y5 y6 y7 y8 y9 y10 y11 y12 y13 y14 y15 y16;have HB:=hid (HB.out.trans (hb.mono HB.out.size));have HK:=hid (HK.out.below hb);clear hb;obtain⟨y1,y2,y3,y4,y5,y6,y7,y8,y9,y10,y11,y12,y13,y14,y15,y16⟩:=HK.out.all;cases hn:bn e.coll
      · have HE:Hid (r=false):=hid (by rw[HR.out];simp[hn])
        go_wp2_with fail;go_ret;exact⟨by rw[HE.out];rfl,HB.out⟩
      have HQ1:Hid ((!true || bn e.coll)=true):=hid (by rw[hn];rfl)
      clear hn)
    |(have _g:ay false:=HF1
      have HQ1:Hid ((!false || bn e.coll)=true):=hid rfl)
  all_goals
    go_wp2_with fail;refine(HH2.out _).mono ?_;rintro q u ⟨rfl,hw⟩;replace hw:=hw.symm;subst hw
  all_goals first
    |(have _g:ay true:=HF2
      go_wp2_with fail;refine(mN e.to _).mono ?_;rintro q wn ⟨rfl,hb⟩;clear y1 y2 y3 y4 y5 y6 y7 y8 y9 y10 y11 y12 y13 y14 y15 y16;have HB:=hid (HB.out.trans (hb.mono HB.out.size));have HK:=hid (HK.out.below hb);clear hb;obtain⟨y1,y2,y3,y4,y5,y6,y7,y8,y9,y10,y11,y12,y13,y14,y15,y16⟩:=HK.out.all;cases hn:bn e.to
      · have HE:Hid (r=false):=hid (by rw[HR.out];simp[hn])
        go_wp2_with fail;go_ret;exact⟨by rw[HE.out];rfl,HB.out⟩
      by_cases hne:e.to=e.coll
      · have e1:(e.to.toList == e.coll.toList)=true:=by rw[bB];exact decide_eq_true hne
        have e2:(e.to.toList != e.coll.toList)=false:=by rw[bne,e1];rfl
        have e3:e.to.toList=e.coll.toList:=by rw[hne]
        have HNE:=hid hne;clear hne;have HE:Hid (r=false):=hid (by rw[HR.out];simp[HNE.out]);go_wp2_with fail;go_ret;exact⟨by rw[HE.out];rfl,HB.out⟩
      have e1:(e.to.toList == e.coll.toList)=false:=by rw[bB];exact decide_eq_false hne
      have e2:(e.to.toList != e.coll.toList)=true:=by rw[bne,e1];rfl
      have HQ2:Hid ((!true || (bn e.to && decide (e.to≠e.coll)))=true):=hid (by rw[hn,decide_eq_true hne];rfl)
      clear hn hne)
    |(have _g:ay false:=HF2
      have HQ2:Hid ((!false || (bn e.to && decide (e.to≠e.coll)))=true):=hid rfl)
  all_goals
    go_wp2_with fail;refine(HH3.out _).mono ?_;rintro q u ⟨rfl,hw⟩;replace hw:=hw.symm;subst hw
  all_goals first
    |(have _g:ay true:=HF3
      go_wp2_with fail;refine(eY S e.id _ _ (fun b hb=>Nat.lt_of_lt_of_le (HS.out b hb) HB.out.size) (HA.out.below HS.out HB.out).id HD.out.idd).mono ?_;rintro q wn ⟨rfl,hb⟩;clear y1 y2 y3 y4 y5 y6 y7 y8 y9 y10 y11 y12 y13 y14 y15 y16;have HB:=hid (HB.out.trans (hb.mono HB.out.size));have HK:=hid (HK.out.below hb);clear hb;obtain⟨y1,y2,y3,y4,y5,y6,y7,y8,y9,y10,y11,y12,y13,y14,y15,y16⟩:=HK.out.all;obtain⟨x,hx⟩: ∃x,x=aX e.id:=⟨_,rfl⟩;have HX:=hid hx;rw[←hx]at HR ⊢;clear hx;by_cases hx0:x=0;rotate_left
      · have e1:(x == 0)=false:=beq_false_of_ne hx0
        have HE:Hid (r=false):=hid (by rw[HR.out];simp[hx0]);go_wp2_with fail;go_ret;exact⟨by rw[HE.out];rfl,HB.out⟩
      subst hx0
      have HQ3:Hid ((!true || decide ((0:Int)=0))=true):=hid rfl)
    |(have _g:ay false:=HF3
      have HQ3:Hid ((!false || decide (aX e.id=0))=true):=hid rfl)
  all_goals
    go_wp2_with fail;refine(HH4.out _).mono ?_;rintro q u ⟨rfl,hw⟩;replace hw:=hw.symm;subst hw
  all_goals first
    |(have _g:ay true:=HF4
      go_wp2_with fail;refine(qQ S e.doc e.id _ _ _ (fun b hb=>Nat.lt_of_lt_of_le (HS.out b hb) HB.out.size) (HA.out.below HS.out HB.out).doc (HA.out.below HS.out HB.out).id HD.out.docd HD.out.idd (ek HX.out.symm)).mono ?_;rintro q wn ⟨rfl,hb⟩;clear y1 y2 y3 y4 y5 y6 y7 y8 y9 y10 y11 y12 y13 y14 y15 y16;have HB:=hid (HB.out.trans (hb.mono HB.out.size));have HK:=hid (HK.out.below hb);clear hb;obtain⟨y1,y2,y3,y4,y5,y6,y7,y8,y9,y10,y11,y12,y13,y14,y15,y16⟩:=HK.out.all;cases hn:cH e.doc e.id
      · have HE:Hid (r=false):=hid (by rw[HR.out];simp[hn])
        go_wp2_with fail;go_ret;exact⟨by rw[HE.out];rfl,HB.out⟩
      have HQ4:Hid ((!true || cH e.doc e.id)=true):=hid (by rw[hn];rfl)
      clear hn)
    |(have _g:ay false:=HF4
      have HQ4:Hid ((!false || cH e.doc e.id)=true):=hid rfl)
  all_goals
    go_wp2_with fail;refine(HH5.out _).mono ?_;rintro q u ⟨rfl,hw⟩;replace hw:=hw.symm;subst hw
  all_goals first
    |(have _g:ay true:=HF5
      go_wp2_with fail;refine(qO S LA lc e.dels _ (fun b hb=>Nat.lt_of_lt_of_le (HS.out b hb) HB.out.size) (HA.out.below HS.out HB.out).dels HA.out.len HD.out.dels).mono ?_;rintro q wn ⟨rfl,hb⟩;clear y1 y2 y3 y4 y5 y6 y7 y8 y9 y10 y11 y12 y13 y14 y15 y16;have HB:=hid (HB.out.trans (hb.mono HB.out.size));have HK:=hid (HK.out.below hb);clear hb;obtain⟨y1,y2,y3,y4,y5,y6,y7,y8,y9,y10,y11,y12,y13,y14,y15,y16⟩:=HK.out.all;cases hn:dx e.dels
      · have HE:Hid (r=false):=hid (by rw[HR.out];simp[hn])
        go_wp2_with fail;go_ret;exact⟨by rw[HE.out];rfl,HB.out⟩
      have HQ5:Hid ((!true || dx e.dels)=true):=hid (by rw[hn];rfl)
      clear hn)
    |(have _g:ay false:=HF5
      have HQ5:Hid ((!false || dx e.dels)=true):=hid rfl)
  all_goals
    have HE:Hid (r=true):=hid (by rw[HR.out];simp only[HQ1.out,HQ2.out,HQ3.out,HQ4.out,HQ5.out,Bool.and_self]);go_wp2_with fail;go_ret;exact⟨by rw[HE.out];rfl,HB.out⟩
end Go.Proofs.YtgfidiocmiolpaaGreat
