/- Are two messages the same, by the document. (Written by mkmgx.py.) -/
import Derived.Test.YtgfidiocmiolpaaGreatKMgG
import Derived.Test.YtgfidiocmiolpaaGreatKMgP
import Derived.Test.YtgfidiocmiolpaaGreatKMgZ
import Derived.Test.YtgfidiocmiolpaaGreatKMgE
import Derived.Test.YtgfidiocmiolpaaGreatKMgV
import Derived.Test.YtgfidiocmiolpaaGreatKVr
import Derived.Test.YtgfidiocmiolpaaGreatKRefZ
import Derived.Deep.Slices
import Derived.SizedLaws
import Derived.ProofKit
import Derived.OpenShut
import Derived.ChangeOld
set_option maxHeartbeats 64000000
set_option maxRecDepth 100000
set_option linter.unusedVariables false
set_option linter.unusedSimpArgs false
namespace Go.Proofs.YtgfidiocmiolpaaGreat
open Lib (hid)
open Go.RowKit Go.Joins
theorem entm_later {w:World}{b o:Nat}{cs:List Value}(h:w.rangeAt b o cs)(hb:b<w.heap.size): ∀u,CR w.heap.size w u→u.rangeAt b o cs:=fun v ⟨p,hp⟩=>by
 rw[hp];exact fun j u hu=>(World.cell?_of_block (a:=⟨b,o+j,none⟩) (p.h.block b hb)).trans (h j u hu)
theorem wpQuiet_load_rngM {P:Program}{ops:Array Oper}{C:World→Prop}{Q:Act→Prop}{rest:List Oper}{o:Oper}{a:Act}(hP:P=Tryz.prog)(hw:Region.wanted o (yielded ops a.tmps)=true)(x:Operand)(ho:o.op= .load 46 x)
  (g off:Nat) (hx:a.eval x= .pointer (some ⟨g,off,none⟩)) (cs:List Value) (hg: ∀u,C u→u.rangeAt g off cs) (hn:cs.length=17)
  (h:wpQuiet P ops C Q rest (a.put o.dst (.agg cs.toArray))):wpQuiet P ops C Q (o::rest) a:=by
 subst hP;unfold wpQuiet;rw[if_pos hw];refine⟨.agg cs.toArray,fun u hu=> ?_,h⟩;have e:=run_loadVar_mid (P:=Tryz.prog) u g off 46 cs _ (hg u hu) Tryz.underlying46 rfl (by rw[hn];kernel_rfl);unfold Oper.quietAt execOp;simp only[ho,hx,Instr.loadAt,Instr.sureAddr,Sem.run_bind,Sem.run_pure,Result.andThen_ok,e];exact⟨rfl,rfl⟩
theorem r22same_eq (S:Nat→Prop)(a:bM)(es:List bA)(sn:List UInt8)(EA:Option Addr)(ec:Nat)(SA:Option Addr)(sc:Nat)(FA:Option Addr)(fc:Nat)(TA:Option Addr)(tc:Nat)(w:World)(n nb:Nat)(hn:n=a.ents.length)(hnb:nb=es.length)(hS: ∀b,S b→b<w.heap.size)(ha:bF w S a EA ec SA sc)(hb:bF w S { a with ents:=es,snap:=sn } FA fc TA tc):
  Calls Tryz.prog 11 #[.agg #[.int .i64 a.kind,.int .i64 a.frm,.int .i64 a.tgt,.int .i64 a.term,.int .i64 a.index,.int .i64 a.logTerm,.int .i64 a.commit,.int .i64 a.round,.bool a.ok,.slice EA n ec,.slice SA a.snap.length sc],.agg #[.int .i64 a.kind,.int .i64 a.frm,.int .i64 a.tgt,.int .i64 a.term,.int .i64 a.index,.int .i64 a.logTerm,.int .i64 a.commit,.int .i64 a.round,.bool a.ok,.slice FA nb fc,.slice TA sn.length tc]] w fun e w'=>(∃r:Bool,e= .returned (.bool r)∧(r=true↔a.ents=es∧a.snap=sn))∧Below w.heap.size w w':=by
 obtain⟨w2,hw2⟩: ∃W,W=((w.alloc (.cells #[.int .i64 a.kind,.int .i64 a.frm,.int .i64 a.tgt,.int .i64 a.term,.int .i64 a.index,.int .i64 a.logTerm,.int .i64 a.commit,.int .i64 a.round,.bool a.ok,.slice EA n ec,.slice SA a.snap.length sc] 25)).alloc (.cells #[.int .i64 a.kind,.int .i64 a.frm,.int .i64 a.tgt,.int .i64 a.term,.int .i64 a.index,.int .i64 a.logTerm,.int .i64 a.commit,.int .i64 a.round,.bool a.ok,.slice FA nb fc,.slice TA sn.length tc] 25)):=⟨_,rfl⟩;have hz1:(w.alloc (.cells #[.int .i64 a.kind,.int .i64 a.frm,.int .i64 a.tgt,.int .i64 a.term,.int .i64 a.index,.int .i64 a.logTerm,.int .i64 a.commit,.int .i64 a.round,.bool a.ok,.slice EA n ec,.slice SA a.snap.length sc] 25)).heap.size=w.heap.size+1:=by simp
 have hbb:w2.heap[w.heap.size+1]? =some (.cells #[.int .i64 a.kind,.int .i64 a.frm,.int .i64 a.tgt,.int .i64 a.term,.int .i64 a.index,.int .i64 a.logTerm,.int .i64 a.commit,.int .i64 a.round,.bool a.ok,.slice FA nb fc,.slice TA sn.length tc] 25 (0,0)):=by rw[hw2,←hz1];exact heap_alloc_new _ _
 have hba:w2.heap[w.heap.size]? =some (.cells #[.int .i64 a.kind,.int .i64 a.frm,.int .i64 a.tgt,.int .i64 a.term,.int .i64 a.index,.int .i64 a.logTerm,.int .i64 a.commit,.int .i64 a.round,.bool a.ok,.slice EA n ec,.slice SA a.snap.length sc] 25 (0,0)):=by rw[hw2,Below.heap_alloc _ _ _ (by omega)];exact heap_alloc_new _ _
 have h02:Below w.heap.size w w2:=by rw[hw2];exact(af _).alloc (by omega) _
 have HB2:=hid h02;have HKA2:Hid (w2.heap[w.heap.size]? =some (.cells #[.int .i64 a.kind,.int .i64 a.frm,.int .i64 a.tgt,.int .i64 a.term,.int .i64 a.index,.int .i64 a.logTerm,.int .i64 a.commit,.int .i64 a.round,.bool a.ok,.slice EA n ec,.slice SA a.snap.length sc] 25 (0,0))):=hid hba;have HKB2:Hid (w2.heap[w.heap.size+1]? =some (.cells #[.int .i64 a.kind,.int .i64 a.frm,.int .i64 a.tgt,.int .i64 a.term,.int .i64 a.index,.int .i64 a.logTerm,.int .i64 a.commit,.int .i64 a.round,.bool a.ok,.slice FA nb fc,.slice TA sn.length tc] 25 (0,0))):=hid hbb;have HS:=hid hS;have HA:=hid ha;have HBB:=hid hb;obtain⟨sa,hsa⟩: ∃x:ByteArray,x=⟨a.snap.toArray⟩:=⟨_,rfl⟩;obtain⟨sb,hsb⟩: ∃x:ByteArray,x=⟨sn.toArray⟩:=⟨_,rfl⟩
 have hcA:(convert 23 9 (.slice SA a.snap.length sc)).run Tryz.prog ((w.alloc (.cells #[.int .i64 a.kind,.int .i64 a.frm,.int .i64 a.tgt,.int .i64 a.term,.int .i64 a.index,.int .i64 a.logTerm,.int .i64 a.commit,.int .i64 a.round,.bool a.ok,.slice EA n ec,.slice SA a.snap.length sc] 25)).alloc (.cells #[.int .i64 a.kind,.int .i64 a.frm,.int .i64 a.tgt,.int .i64 a.term,.int .i64 a.index,.int .i64 a.logTerm,.int .i64 a.commit,.int .i64 a.round,.bool a.ok,.slice FA nb fc,.slice TA sn.length tc] 25))= .ok (.string sa) ((w.alloc (.cells #[.int .i64 a.kind,.int .i64 a.frm,.int .i64 a.tgt,.int .i64 a.term,.int .i64 a.index,.int .i64 a.logTerm,.int .i64 a.commit,.int .i64 a.round,.bool a.ok,.slice EA n ec,.slice SA a.snap.length sc] 25)).alloc (.cells #[.int .i64 a.kind,.int .i64 a.frm,.int .i64 a.tgt,.int .i64 a.term,.int .i64 a.index,.int .i64 a.logTerm,.int .i64 a.commit,.int .i64 a.round,.bool a.ok,.slice FA nb fc,.slice TA sn.length tc] 25)):=by
  rw[←hw2,hsa];exact Rd.strY (((ha.below hS h02).snap).rd (fun b hb=>Nat.lt_of_lt_of_le (hS b hb) h02.size) ha.scap ha.s63 ha.snil)
 have hcB:(convert 23 9 (.slice TA sn.length tc)).run Tryz.prog ((w.alloc (.cells #[.int .i64 a.kind,.int .i64 a.frm,.int .i64 a.tgt,.int .i64 a.term,.int .i64 a.index,.int .i64 a.logTerm,.int .i64 a.commit,.int .i64 a.round,.bool a.ok,.slice EA n ec,.slice SA a.snap.length sc] 25)).alloc (.cells #[.int .i64 a.kind,.int .i64 a.frm,.int .i64 a.tgt,.int .i64 a.term,.int .i64 a.index,.int .i64 a.logTerm,.int .i64 a.commit,.int .i64 a.round,.bool a.ok,.slice FA nb fc,.slice TA sn.length tc] 25))= .ok (.string sb) ((w.alloc (.cells #[.int .i64 a.kind,.int .i64 a.frm,.int .i64 a.tgt,.int .i64 a.term,.int .i64 a.index,.int .i64 a.logTerm,.int .i64 a.commit,.int .i64 a.round,.bool a.ok,.slice EA n ec,.slice SA a.snap.length sc] 25)).alloc (.cells #[.int .i64 a.kind,.int .i64 a.frm,.int .i64 a.tgt,.int .i64 a.term,.int .i64 a.index,.int .i64 a.logTerm,.int .i64 a.commit,.int .i64 a.round,.bool a.ok,.slice FA nb fc,.slice TA sn.length tc] 25)):=by
  rw[←hw2,hsb];exact Rd.strY (((hb.below hS h02).snap).rd (fun b hb=>Nat.lt_of_lt_of_le (hS b hb) h02.size) hb.scap hb.s63 hb.snil)
 have HSS:Hid (sa=sb↔a.snap=sn):=hid (by
  rw[hsa,hsb]
  exact⟨fun h=>by injection h with h;exact Array.toList_inj.2 h |> fun e=>by simpa using e,fun h=>by rw[h]⟩)
 have HN:=hid hn;have HNB:=hid hnb;clear ha hb hS h02 hba hbb hz1 hsa hsb hn hnb;have hne:Hid (n≠nb→ ¬a.ents=es):=hid fun h e=>h (by rw[HN.out,HNB.out,e]);by_cases qlen:n=nb
 case neg=>
  have g1:((n:Int) == (nb:Int))=false:=beq_false_of_ne (by omega);have g2:((n:Int) != (nb:Int))=true:=bne_iff_ne.2 (by omega);have g3: ¬(n:Int)=(nb:Int):=by omega
  have HNE:=hid (hne.out qlen);clear qlen hne;go_enter Tryz.func11,Tryz.ntmps11;go_wp2_with fail;rw[←hw2];go_ret;exact⟨⟨false,rfl,fun h=>(by cases h),fun h=>absurd h.1 HNE.out⟩,HB2.out⟩
 subst qlen;clear hne;have Qlen:Hid (a.ents.length=es.length):=hid (by rw[←HN.out,←HNB.out]);go_enter Tryz.func11,Tryz.ntmps11;by_cases qsn:sa=sb
 case neg=>
  have g1:(sa.toList == sb.toList)=false:=by rw[cm];exact decide_eq_false qsn
  go_wp2_with fail;rw[←hw2];go_ret;exact⟨⟨false,rfl,fun h=>(by cases h),fun h=>absurd (HSS.out.2 h.2) qsn⟩,HB2.out⟩
 have Qsn:Hid (a.snap=sn):=hid (HSS.out.1 qsn);have dsn:(sa.toList == sb.toList)=true:=by rw[cm];exact decide_eq_true qsn
 clear qsn;go_wp2_with fail;try rw[←hw2]
 clear hw2 hcA hcB HSS dsn;have hnl:n≤567493904640:=by have:=HA.out.elen;have:=HN.out;omega
 go_loopw [5] (fun i wr=> ∃j:Nat,i= .int .i64 j∧j≤n∧Hid (∀k (h:k<a.ents.length) (h':k<es.length),k<j→a.ents[k]=es[k])∧Hid (Below w.heap.size w wr)∧Hid (wr.heap[w.heap.size]? =some (.cells #[.int .i64 a.kind,.int .i64 a.frm,.int .i64 a.tgt,.int .i64 a.term,.int .i64 a.index,.int .i64 a.logTerm,.int .i64 a.commit,.int .i64 a.round,.bool a.ok,.slice EA n ec,.slice SA a.snap.length sc] 25 (0,0)))∧Hid (wr.heap[w.heap.size+1]? =some (.cells #[.int .i64 a.kind,.int .i64 a.frm,.int .i64 a.tgt,.int .i64 a.term,.int .i64 a.index,.int .i64 a.logTerm,.int .i64 a.commit,.int .i64 a.round,.bool a.ok,.slice FA n fc,.slice TA sn.length tc] 25 (0,0)))) (fun i _=>n - (intOf i).toNat)
 case atStart=>exact⟨0,rfl,by omega,hid fun i _ _ h=>absurd h (by omega),HB2,HKA2,HKB2⟩
 case round=>
  clear HB2 HKA2 HKB2;obtain⟨j,rfl,hj,HM,HB,HKA,HKB⟩:=hrel;have y9:wr.cell? ⟨w.heap.size,9,none⟩=some (.slice EA n ec):=cell_of_block HKA.out 9;by_cases hlt:j<n
  ·have hla:j<a.ents.length:=by have:=HN.out;omega
   have hlb:j<es.length:=by have:=HN.out;have:=Qlen.out;omega
   have d1:decide ((j:Int)<(n:Int))=true:=decide_eq_true (by omega);obtain⟨p,off,ca,hA,hp,hrg,hcz,he⟩:=dZ.at (HA.out.below HS.out HB.out).ents j hla;obtain⟨q,ofg,cb,hB,hq,hrh,hcy,hf⟩:=dZ.at (HBB.out.below HS.out HB.out).ents j hlb;have hzA:=(db.at he);obtain⟨r0,ra,r1,rb,r2,rc,r3,rd,r4,re,hca,hat⟩:=hzA;obtain⟨s0,sa0,s1,sb0,s2,sc0,s3,sd0,s4,se0,hcb,hbt⟩:=db.at hf;obtain⟨x,hx⟩: ∃x,x=a.ents[j]:=⟨_,rfl⟩;obtain⟨y,hy⟩: ∃y,y=es[j]:=⟨_,rfl⟩;rw[←hx]at he hca hat;rw[←hy]at hf hcb hbt
   have hca':ca= [.int .i64 x.term,.int .i64 x.kind,.string x.coll,.string x.to,.int .i64 x.id.kind,.int .i64 x.id.num,.string x.id.text,.slice r0 x.id.items.length ra,.slice r1 x.id.names.length rb,.int .i64 x.doc.kind,.int .i64 x.doc.num,.string x.doc.text,.slice r2 x.doc.items.length rc,.slice r3 x.doc.names.length rd,.slice r4 x.dels.length re,.int .i64 x.session,.int .i64 x.number]:=by
    have:=congrArg Array.toList hca;simpa using this
   have hcb':cb= [.int .i64 y.term,.int .i64 y.kind,.string y.coll,.string y.to,.int .i64 y.id.kind,.int .i64 y.id.num,.string y.id.text,.slice s0 y.id.items.length sa0,.slice s1 y.id.names.length sb0,.int .i64 y.doc.kind,.int .i64 y.doc.num,.string y.doc.text,.slice s2 y.doc.items.length sc0,.slice s3 y.doc.names.length sd0,.slice s4 y.dels.length se0,.int .i64 y.session,.int .i64 y.number]:=by
    have:=congrArg Array.toList hcb;simpa using this
   subst hca' hcb';have HXY:=hid (show a.ents[j]? =some x∧es[j]? =some y from⟨by rw[hx];exact List.getElem?_eq_getElem hla,by rw[hy];exact List.getElem?_eq_getElem hlb⟩);have hpl:p<wr.heap.size:=Nat.lt_of_lt_of_le (HS.out p hp) HB.out.size;have hql:q<wr.heap.size:=Nat.lt_of_lt_of_le (HS.out q hq) HB.out.size;have HC:=hid (qF S x y _ _ wr.drew (fun b hb=>Nat.lt_of_lt_of_le (HS.out b hb) HB.out.size) (db.keep he fun _ _=>rfl) (db.keep hf fun _ _=>rfl));have HLL:=hid (And.intro hla hlb);obtain⟨p',off',rfl,rfl⟩: ∃p' off',p'=p∧off'=off:=⟨_,_,rfl,rfl⟩;obtain⟨q',ofg',rfl,rfl⟩: ∃q' ofg',q'=q∧ofg'=ofg:=⟨_,_,rfl,rfl⟩;have hjb:j<es.length:=hlb;have z9:wr.cell? ⟨w.heap.size+1,9,none⟩=some (.slice FA n fc):=cell_of_block HKB.out 9;rw[hA]at y9;rw[hB]at z9;have hdr:Below wr.heap.size wr wr.drew:=(Below.refl _ _).drew;have HB3:=hid (HB.out.trans (hdr.mono HB.out.size));have HKAL:Hid (w.heap.size<wr.heap.size):=hid (Array.getElem?_eq_some_iff.1 HKA.out).1;have HKA3:=hid ((hdr.block _ HKAL.out).trans HKA.out);have HKBL:Hid (w.heap.size+1<wr.heap.size):=hid (Array.getElem?_eq_some_iff.1 HKB.out).1;have HKB3:=hid ((hdr.block _ HKBL.out).trans HKB.out);have HAL:=hid (And.intro HKAL.out HKBL.out);have HRG:=hid (And.intro hrg hrh);have HPQ:=hid (And.intro hpl hql);have w9:wr.drew.cell? ⟨w.heap.size,9,none⟩=some (.slice (some ⟨p',off',none⟩) n ec):=y9;have v9:wr.drew.cell? ⟨w.heap.size+1,9,none⟩=some (.slice (some ⟨q',ofg',none⟩) n fc):=z9;have W9:=hid (And.intro w9 v9);clear w9 v9 hA hB hp hq hcz hcy he hf hat hbt hca hcb hx hy hrg hrh hla hlb hpl hql hdr z9 HB HKA HKB hjb
   go_wp2_with fail;refine aB [0,1,2,3,4,5,6,7,8,9,10,11] (by kernel_rfl) (by kernel_rfl) (fun _ d _ _ _ h=>by cases d<;>exact h) ?_;simp only[atR];have t0:=aa (B:=wr.heap.size) (w:=wr.drew) W9.out.1 HAL.out.1;have t1:=aa (B:=wr.heap.size) (w:=wr.drew) W9.out.2 HAL.out.2;have LA:=entm_later (w:=wr.drew) HRG.out.1 HPQ.out.1;have LB:=entm_later (w:=wr.drew) HRG.out.2 HPQ.out.2;first|with_reducible refine ac ?_ |with_reducible refine ab ?_ |refine ac ?_ |refine ab ?_
   simp only[List.takeWhile,List.dropWhile,ao,Nat.reduceBNe];repeat(first|(refine wpQuiet_load_rngM rfl (by rfl) _ rfl p' (off'+j * 17) rfl _ LA rfl ?_;simp only[acR,Act.put])|(refine wpQuiet_load_rngM rfl (by rfl) _ rfl q' (ofg'+j * 17) rfl _ LB rfl ?_;simp only[acR,Act.put])|go_big_quiet_step (fail))
   first|with_reducible refine wpQuiet_nil ?_ |refine wpQuiet_nil ?_
   clear t0 t1 LA LB;first|with_reducible refine al ?_ (fun K hK=> ?_)|with_reducible refine aj ?_ (fun K hK=> ?_)|refine al ?_ (fun K hK=> ?_)|refine aj ?_ (fun K hK=> ?_)
   ·rfl
   go_simp
   refine(HC.out).mono ?_;rintro e w8 ⟨⟨r,rfl,hr⟩,hb⟩;refine hK _ _ (hb) ?_;clear hK K;try simp only[Act.put]
   have HB8:Hid (Below w.heap.size w w8):=hid (HB3.out.trans (hb.mono HB3.out.size));have HKA8:=hid ((hb.block _ (by have:=HKAL.out;exact this)).trans HKA3.out);have HKB8:=hid ((hb.block _ (by have:=HKBL.out;exact this)).trans HKB3.out);have HQ:=hid hr;clear hb hr HB3 HKA3 HKB3 HRG HPQ W9 HC y9;first|with_reducible refine ac ?_ |with_reducible refine ab ?_ |refine ac ?_ |refine ab ?_
   simp only[List.takeWhile,List.dropWhile,ao,Nat.reduceBNe];repeat(go_big_quiet_step (fail))
   first|with_reducible refine wpQuiet_nil ?_ |refine wpQuiet_nil ?_
   unfold aO
   cases r with
   |true=>
    have HEQ:Hid (x=y):=hid (HQ.out.1 rfl);go_wp2_with fail
    go_roundw
    case rel=>exact⟨j+1,by go_num,by omega,hid fun k h h' hk=>by
     by_cases e:k=j
     ·subst e;have h1:=HXY.out.1;have h2:=HXY.out.2;rw[List.getElem?_eq_getElem h]at h1;rw[List.getElem?_eq_getElem h']at h2;rw[Option.some.inj h1,Option.some.inj h2];exact HEQ.out
     ·exact HM.out k h h' (by omega),HB8,HKA8,HKB8⟩
    case measure=>simp[intOf];omega
   |false=>
    have HNE:Hid (¬x=y):=hid fun h=>by have:=HQ.out.2 h;cases this
    go_wp2_with fail;go_ret;exact⟨⟨false,rfl,fun h=>(by cases h),fun h=>absurd (by have h1:=HXY.out.1;rw[h.1,HXY.out.2]at h1;exact(Option.some.inj h1).symm) HNE.out⟩,HB8.out⟩
  ·have d1:decide ((j:Int)<(n:Int))=false:=decide_eq_false (by omega);have HEN:Hid (a.ents=es):=hid (List.ext_getElem Qlen.out fun k h h'=>HM.out k h h' (by have:=HN.out;omega));go_wp2_with fail;go_ret;exact⟨⟨true,rfl,fun _=>⟨HEN.out,Qsn.out⟩,fun _=>rfl⟩,HB.out⟩
def mL :bM:=⟨2,1,2,3,0,0,0,0,true,[],[]⟩
def cL :List UInt8:=[2,1,2,3,1]
theorem mL_may :cx mL=true:=by decide +kernel
theorem mL_enc :mD mL=cL:=by decide +kernel
theorem mL_err :ld mL=0:=by decide +kernel
theorem mZ_err :ld cM=1:=by decide +kernel
theorem cL_read :rdM (some cL)=(mL,some []):=by kernel_rfl
theorem cL_dec :cG cL=mL∧dp cL=0:=by
 have h:=jw (l:=cL) (by rw[cL_read];rfl) (by rw[cL_read];exact mL_may);rw[cL_read]at h;exact h
theorem nil_read :rdM (some [])=(cM,none):=by kernel_rfl
theorem nil_dec :cG []=cM∧dp []=10:=fW (by decide +kernel)
theorem mL_same :te mL mL=true:=by decide +kernel
theorem mL_at (w:World)(S:Nat→Prop):bF w S mL none 0 none 0:=
 ⟨gi _ _ _,Nat.le_refl _,fun _=>rfl,Nat.zero_le _,eO _ _ _,Nat.le_refl _,fun _=>rfl,Nat.zero_le _,Nat.zero_le _,dF (by decide),dF (by decide),dF (by decide),dF (by decide),dF (by decide),dF (by decide),dF (by decide),dF (by decide)⟩
theorem smL0 : ∀e∈mL.ents,SmE e:=fun e h=>absurd h List.not_mem_nil
theorem smZ0 : ∀e∈cM.ents,SmE e:=fun e h=>absurd h List.not_mem_nil
theorem putsL {EA:Option Addr}{ec:Nat}:cx mL=true→lB mL EA ec:=fun _ h=>absurd h (by decide +kernel)
theorem putsZ {EA:Option Addr}{ec:Nat}:cx cM=true→lB cM EA ec:=fun _ h=>absurd h (by decide +kernel)
theorem rd_nil (w:World)(B:Nat):Rd w B (.slice none 0 0) []:=⟨none,0,rfl,Nat.le_refl _,⟨by omega,fun _=>rfl⟩,fun h=>absurd h (by simp)⟩
theorem wpQuiet_load_msg {P:Program}{ops:Array Oper}{C:World→Prop}{Q:Act→Prop}{rest:List Oper}{o:Oper}{a:Act}(hP:P=Tryz.prog)(hw:Region.wanted o (yielded ops a.tmps)=true)(x:Operand)(ho:o.op= .load 25 x)
  (g:Nat) (hx:a.eval x= .pointer (some ⟨g,0,none⟩)) (cs:Array Value) (hg: ∀u,C u→u.heap[g]? =some (.cells cs 25 (0,0))) (hn:cs.size=11)
  (h:wpQuiet P ops C Q rest (a.put o.dst (.agg cs))):wpQuiet P ops C Q (o::rest) a:=by
 subst hP;unfold wpQuiet;rw[if_pos hw];refine⟨.agg cs,fun u hu=> ?_,h⟩;have e:=run_loadVar_row (P:=Tryz.prog) u g 25 25 cs (0,0) _ (hg u hu) Tryz.underlying25 rfl (by rw[hn];kernel_rfl);unfold Oper.quietAt execOp;simp only[ho,hx,Instr.loadAt,Instr.sureAddr,Sem.run_bind,Sem.run_pure,Result.andThen_ok,e];exact⟨rfl,rfl⟩
theorem same_selfM {w:World}{m:bM}{EA:Option Addr}{ec:Nat}{SA:Option Addr}{sc:Nat}{FA:Option Addr}{fc:Nat}{TA:Option Addr}{tc:Nat}(ha:bF w (fun b=>b<w.heap.size) m EA ec SA sc)(hb:bF w (fun b=>b<w.heap.size) m FA fc TA tc):
  Calls Tryz.prog 11 #[.agg #[.int .i64 m.kind,.int .i64 m.frm,.int .i64 m.tgt,.int .i64 m.term,.int .i64 m.index,.int .i64 m.logTerm,.int .i64 m.commit,.int .i64 m.round,.bool m.ok,.slice EA m.ents.length ec,.slice SA m.snap.length sc],.agg #[.int .i64 m.kind,.int .i64 m.frm,.int .i64 m.tgt,.int .i64 m.term,.int .i64 m.index,.int .i64 m.logTerm,.int .i64 m.commit,.int .i64 m.round,.bool m.ok,.slice FA m.ents.length fc,.slice TA m.snap.length tc]] w fun q w'=>q= .returned (.bool true)∧Below w.heap.size w w':=
 (r22same_eq (fun b=>b<w.heap.size) m m.ents m.snap EA ec SA sc FA fc TA tc w m.ents.length m.ents.length rfl rfl (fun _ h=>h) ha hb).mono fun q w' ⟨⟨r,h1,h2⟩,h3⟩=>⟨by rw[h1,h2.2 ⟨rfl,rfl⟩],h3⟩
structure T22 (w u:World)(g a x:Nat)(XA:Option Addr)(xc:Nat)(YA:Option Addr)(yc:Nat):Prop where
 b:Below w.heap.size w u
 mb:u.heap[a]? =some (.cells #[.int .i64 2,.int .i64 1,.int .i64 2,.int .i64 3,.int .i64 0,.int .i64 0,.int .i64 0,.int .i64 0,.bool true,.slice none 0 0,.slice none 0 0] 25 (0,0))
 xb:u.heap[x]? =some (.cells #[.int .i64 2,.int .i64 1,.int .i64 2,.int .i64 3,.int .i64 0,.int .i64 0,.int .i64 0,.int .i64 0,.bool true,.slice XA 0 xc,.slice YA 0 yc] 25 (0,0))
 e:bF u (fun b=>b<u.heap.size) mL XA xc YA yc
 ag:a<g
 xg:x<g
section
variable {w u u':World} {g a x:Nat} {XA:Option Addr} {xc:Nat} {YA:Option Addr} {yc:Nat}
theorem T22.call (h:T22 w u g a x XA xc YA yc)(hb:Below u.heap.size u u'):T22 w u' g a x XA xc YA yc:=
 ⟨h.b.trans (hb.mono h.b.size),(hb.block a (Array.getElem?_eq_some_iff.1 h.mb).1).trans h.mb,(hb.block x (Array.getElem?_eq_some_iff.1 h.xb).1).trans h.xb,h.e.up hb,h.ag,h.xg⟩
theorem T22.mbox (h:T22 w u g a x XA xc YA yc): ∀v,CRR (et g) u v→v.heap[a]? =some (.cells #[.int .i64 2,.int .i64 1,.int .i64 2,.int .i64 3,.int .i64 0,.int .i64 0,.int .i64 0,.int .i64 0,.bool true,.slice none 0 0,.slice none 0 0] 25 (0,0)):=fun v ⟨p,hp⟩=>by
 rw[hp];exact(p.h.2 a (Array.getElem?_eq_some_iff.1 h.mb).1 (Nat.ne_of_lt h.ag)).trans h.mb
theorem T22.xbox (h:T22 w u g a x XA xc YA yc): ∀v,CRR (et g) u v→v.heap[x]? =some (.cells #[.int .i64 2,.int .i64 1,.int .i64 2,.int .i64 3,.int .i64 0,.int .i64 0,.int .i64 0,.int .i64 0,.bool true,.slice XA 0 xc,.slice YA 0 yc] 25 (0,0)):=fun v ⟨p,hp⟩=>by
 rw[hp];exact(p.h.2 x (Array.getElem?_eq_some_iff.1 h.xb).1 (Nat.ne_of_lt h.xg)).trans h.xb
end
theorem lives22_any (w:World):Calls Tryz.prog 8 #[] w fun e w'=>e= .returned (.bool true)∧Below w.heap.size w w':=by
 obtain⟨w1,hw1⟩: ∃W,W=w.alloc (.cells #[.int .i64 2,.int .i64 1,.int .i64 2,.int .i64 3,.int .i64 0,.int .i64 0,.int .i64 0,.int .i64 0,.bool true,.slice none 0 0,.slice none 0 0] 25):=⟨_,rfl⟩;have hb1:Below w.heap.size w w1:=by rw[hw1];exact af _
 have HX1:Hid (Below w.heap.size w w1∧w1.heap[w.heap.size]? =some (.cells #[.int .i64 2,.int .i64 1,.int .i64 2,.int .i64 3,.int .i64 0,.int .i64 0,.int .i64 0,.int .i64 0,.bool true,.slice none 0 0,.slice none 0 0] 25 (0,0))):=hid ⟨hb1,by rw[hw1];exact heap_alloc_new w _⟩;have HE1:=hid (fL mL none 0 none 0 w1 (mL_at _ _) smL0 putsL);clear hb1;go_enter Tryz.func8,Tryz.ntmps8;go_wp2_with(rw[←hw1];refine aw (by rfl) _ rfl w.heap.size rfl _ _ HX1.out.2 rfl ?_;simp only[acR,Act.put]);try rw[←hw1]
 clear hw1;refine HE1.out.mono ?_;rintro q w2 ⟨v1,rfl,ho2,hb2⟩;rw[mL_err];rw[mL_enc]at ho2;have HX2:Hid (Below w.heap.size w w2∧w2.heap[w.heap.size]? =some (.cells #[.int .i64 2,.int .i64 1,.int .i64 2,.int .i64 3,.int .i64 0,.int .i64 0,.int .i64 0,.int .i64 0,.bool true,.slice none 0 0,.slice none 0 0] 25 (0,0))∧Rd w2 w2.heap.size v1 cL):=hid ⟨HX1.out.1.trans (hb2.mono HX1.out.1.size),(hb2.block _ (Array.getElem?_eq_some_iff.1 HX1.out.2).1).trans HX1.out.2,ho2.rdY⟩;have HD:=hid (i7 v1 cL w2 ho2.rdY (by decide) (fun h=>by rw[cL_read]at h;exact absurd h (by decide +kernel)) (by rw[cL_read];exact smL0));rw[cL_dec.1,cL_dec.2]at HD;clear ho2 hb2 HE1 HX1;go_wp2_with fail;refine HD.out.mono ?_;rintro q w3 ⟨XA,xc,YA,yc,rfl,hat,hb3⟩;obtain⟨w4,hw4⟩: ∃W,W=w3.alloc (.cells #[.int .i64 mL.kind,.int .i64 mL.frm,.int .i64 mL.tgt,.int .i64 mL.term,.int .i64 mL.index,.int .i64 mL.logTerm,.int .i64 mL.commit,.int .i64 mL.round,.bool mL.ok,.slice XA mL.ents.length xc,.slice YA mL.snap.length yc] 25):=⟨_,rfl⟩;obtain⟨x,hx⟩: ∃x,x=w3.heap.size:=⟨_,rfl⟩;have hb4:Below w3.heap.size w3 w4:=by rw[hw4];exact af _
 have HX4:Hid (Below w.heap.size w w4∧w4.heap[w.heap.size]? =some (.cells #[.int .i64 2,.int .i64 1,.int .i64 2,.int .i64 3,.int .i64 0,.int .i64 0,.int .i64 0,.int .i64 0,.bool true,.slice none 0 0,.slice none 0 0] 25 (0,0))∧Rd w4 w4.heap.size v1 cL∧w4.heap[x]? =some (.cells #[.int .i64 2,.int .i64 1,.int .i64 2,.int .i64 3,.int .i64 0,.int .i64 0,.int .i64 0,.int .i64 0,.bool true,.slice XA 0 xc,.slice YA 0 yc] 25 (0,0))∧bF w4 (fun b=>b<w4.heap.size) mL XA xc YA yc):=hid (by
  have hlt:=(Array.getElem?_eq_some_iff.1 HX2.out.2.1).1;have hz:=hb3.size;have hz4:=hb4.size
  exact⟨(HX2.out.1.trans (hb3.mono HX2.out.1.size)).trans (hb4.mono (by have:=HX2.out.1.size;omega)),(hb4.block _ (by omega)).trans ((hb3.block _ hlt).trans HX2.out.2.1),((HX2.out.2.2.keep hb3).keep (hb4.mono hz)).upE (by omega),by rw[hw4,hx];exact heap_alloc_new w3 _,(hat.imp fun b hb=>hb.2).up hb4⟩)
 have HE2:=hid (fL cM none 0 none 0 w4 (kq _ _) smZ0 putsZ);clear hat hb3 hb4 HX2 HD;go_wp2_with fail;rw[←hw4];try rw[←hx]
 clear hw4 hx;refine HE2.out.mono ?_;rintro q w5 ⟨v2,rfl,-,hb5⟩;rw[mZ_err]
 have HX5:Hid (Below w.heap.size w w5∧w5.heap[w.heap.size]? =some (.cells #[.int .i64 2,.int .i64 1,.int .i64 2,.int .i64 3,.int .i64 0,.int .i64 0,.int .i64 0,.int .i64 0,.bool true,.slice none 0 0,.slice none 0 0] 25 (0,0))∧Rd w5 w5.heap.size v1 cL∧w5.heap[x]? =some (.cells #[.int .i64 2,.int .i64 1,.int .i64 2,.int .i64 3,.int .i64 0,.int .i64 0,.int .i64 0,.int .i64 0,.bool true,.slice XA 0 xc,.slice YA 0 yc] 25 (0,0))∧bF w5 (fun b=>b<w5.heap.size) mL XA xc YA yc):=hid (by
  obtain⟨h1,h2,h3,h4,h5⟩:=HX4.out
  exact⟨h1.trans (hb5.mono h1.size),(hb5.block _ (Array.getElem?_eq_some_iff.1 h2).1).trans h2,(h3.keep hb5).upE hb5.size,(hb5.block _ (Array.getElem?_eq_some_iff.1 h4).1).trans h4,h5.up hb5⟩)
 have HD2:=hid (i7 (.slice none 0 0) [] w5 (rd_nil _ _) (by decide) (fun h=>by rw[nil_read]at h;exact absurd h (by decide +kernel)) (by rw[nil_read];exact smZ0));rw[nil_dec.1,nil_dec.2]at HD2;clear hb5 HX4 HE2;go_wp2_with fail;refine HD2.out.mono ?_;rintro q w6 ⟨ZA,zc,UA,uc,rfl,-,hb6⟩;obtain⟨w7,hw7⟩: ∃W,W=w6.alloc (.cells #[.int .i64 cM.kind,.int .i64 cM.frm,.int .i64 cM.tgt,.int .i64 cM.term,.int .i64 cM.index,.int .i64 cM.logTerm,.int .i64 cM.commit,.int .i64 cM.round,.bool cM.ok,.slice ZA cM.ents.length zc,.slice UA cM.snap.length uc] 25):=⟨_,rfl⟩;have hb7:Below w6.heap.size w6 w7:=by rw[hw7];exact af _
 have HX7:Hid (Below w.heap.size w w7∧w7.heap[w.heap.size]? =some (.cells #[.int .i64 2,.int .i64 1,.int .i64 2,.int .i64 3,.int .i64 0,.int .i64 0,.int .i64 0,.int .i64 0,.bool true,.slice none 0 0,.slice none 0 0] 25 (0,0))∧Rd w7 w7.heap.size v1 cL∧w7.heap[x]? =some (.cells #[.int .i64 2,.int .i64 1,.int .i64 2,.int .i64 3,.int .i64 0,.int .i64 0,.int .i64 0,.int .i64 0,.bool true,.slice XA 0 xc,.slice YA 0 yc] 25 (0,0))∧bF w7 (fun b=>b<w7.heap.size) mL XA xc YA yc):=hid (by
  obtain⟨h1,h2,h3,h4,h5⟩:=HX5.out;have hz:=hb6.size;have hz7:=hb7.size;have l2:=(Array.getElem?_eq_some_iff.1 h2).1;have l4:=(Array.getElem?_eq_some_iff.1 h4).1
  exact⟨(h1.trans (hb6.mono h1.size)).trans (hb7.mono (by have:=h1.size;omega)),(hb7.block _ (by omega)).trans ((hb6.block _ l2).trans h2),((h3.keep hb6).keep (hb7.mono hz)).upE (by omega),(hb7.block _ (by omega)).trans ((hb6.block _ l4).trans h4),(h5.up hb6).up hb7⟩)
 clear hb6 hb7 HX5 HD2;go_wp2_with fail;rw[←hw7];clear hw7;obtain⟨g,hg⟩: ∃g,g=w7.heap.size:=⟨_,rfl⟩;try simp only[List.append_eq,List.cons_append,List.nil_append]
 refine nc (et g) (et.refl g) (et.trans g) (by kernel_rfl) (by kernel_rfl) (fun _ d _ _ _ h=>by cases d<;>exact h) ?_
 have T:Hid (T22 w w7.drew g w.heap.size x XA xc YA yc):=hid (by
  obtain⟨h1,h2,h3,h4,h5⟩:=HX7.out
  exact⟨h1.drew,h2,h4,h5.keep fun _ _=>rfl,by rw[hg];exact(Array.getElem?_eq_some_iff.1 h2).1,by rw[hg];exact(Array.getElem?_eq_some_iff.1 h4).1⟩)
 have HR:Hid (Rd w7.drew g v1 cL∧g≤w7.drew.heap.size):=hid ⟨by rw[hg];exact HX7.out.2.2.1.keep ((Below.refl _ _).drew),by rw[hg];exact Nat.le_refl _⟩;clear HX7 hg;generalize w7.drew=u0 at *;have f1: ∀p:bW (et g) u0,(convert 23 9 v1).run Tryz.prog p.u= .ok (.string ⟨#[2,1,2,3,1]⟩) p.u:=aA.convG (g:=g) HR.out.1 HR.out.2 (Nat.le_refl g);have HQ:=hid T.out.mbox;have HY:=hid T.out.xbox;refine jp ?_;simp only[List.takeWhile,List.dropWhile,ao,Nat.reduceBNe];repeat(first|(refine wpQuiet_load_msg rfl (by rfl) _ rfl x rfl _ HY.out rfl ?_;simp only[acR,Act.put])|(refine wpQuiet_load_msg rfl (by rfl) _ rfl w.heap.size rfl _ HQ.out rfl ?_;simp only[acR,Act.put])|go_big_quiet_step (fail))
 first|with_reducible refine wpQuiet_nil ?_ |refine wpQuiet_nil ?_
 clear f1 HR HQ HY;refine jl rfl (fun K hK=> ?_)
 go_simp
 refine(same_selfM T.out.e (mL_at u0 _)).mono ?_;rintro q u1 ⟨rfl,hb⟩;refine hK _ _ (et.of hb) ?_;clear hK K;try simp only[Act.put]
 have T:=hid (T.out.call hb);clear hb;have HQ:=hid T.out.mbox;refine jp ?_;simp only[List.takeWhile,List.dropWhile,ao,Nat.reduceBNe];repeat(first|(refine wpQuiet_load_msg rfl (by rfl) _ rfl w.heap.size rfl _ HQ.out rfl ?_;simp only[acR,Act.put])|go_big_quiet_step (fail))
 first|with_reducible refine wpQuiet_nil ?_ |refine wpQuiet_nil ?_
 clear HQ;refine jl rfl (fun K hK=> ?_)
 go_simp
 refine(m6 (fun b=>b<u1.heap.size) mL none 0 none 0 u1 (fun b hb=>hb) (mL_at _ _) smL0).mono ?_;rintro q u2 ⟨rfl,hb⟩;refine hK _ _ (et.of hb) ?_;clear hK K;try simp only[Act.put]
 rw[mL_may];have T:=hid (T.out.call hb);clear hb;have HQ:=hid T.out.mbox;refine jp ?_;simp only[List.takeWhile,List.dropWhile,ao,Nat.reduceBNe];repeat(first|(refine wpQuiet_load_msg rfl (by rfl) _ rfl w.heap.size rfl _ HQ.out rfl ?_;simp only[acR,Act.put])|go_big_quiet_step (fail))
 first|with_reducible refine wpQuiet_nil ?_ |refine wpQuiet_nil ?_
 clear HQ;refine jl rfl (fun K hK=> ?_)
 go_simp
 refine(rJ (fun b=>b<u2.heap.size) mL none 0 none 0 u2 (fun b hb=>hb) (mL_at _ _) (fun W _ _=>tO none 0 W)).mono ?_;rintro q u3 ⟨GA,gc,TA,tc,rfl,hcl,hb⟩;refine hK _ _ (et.of hb) ?_;clear hK K;try simp only[Act.put]
 have T:=hid (T.out.call hb);have HCL:=hid (hcl.imp fun b hb=>hb.1);clear hb hcl;refine jl rfl (fun K hK=> ?_)
 go_simp
 refine(uN mL mL none 0 none 0 GA gc TA tc u3 (mL_at _ _) HCL.out smL0 smL0 putsL putsL).mono ?_;rintro q u4 ⟨rfl,hb⟩;refine hK _ _ (et.of hb) ?_;clear hK K;try simp only[Act.put]
 rw[mL_same];have T:=hid (T.out.call hb);clear hb HCL;refine jp ?_;simp only[List.takeWhile,List.dropWhile,ao,Nat.reduceBNe];repeat(go_big_quiet_step (fail))
 first|with_reducible refine wpQuiet_nil ?_ |refine wpQuiet_nil ?_
 unfold eo;have HF:=hid T.out.b;clear T;go_wp2_with fail;go_ret;exact⟨rfl,HF.out⟩
end Go.Proofs.YtgfidiocmiolpaaGreat
/- What the laws of layer 22 have in common. -/
namespace Go.Proofs.YtgfidiocmiolpaaGreat
open Go.RowKit
theorem encM_may {m:bM}(hm:cx m=true):mD m=jH m∧ld m=0:=⟨by unfold mD;rw[if_pos hm],by unfold ld;rw[if_pos hm]⟩
theorem dec_inv {l:List UInt8}(hl:l.length≤9223372036854775807)(h:dp l=0):cx (cG l)=true∧jH (cG l)=l∧cG l=(rdM (some l)).1:=by
 by_cases hc:bX (rdM (some l)).2=0∧cx (rdM (some l)).1=true
 ·have e:cG l=(rdM (some l)).1:=if_pos hc;refine⟨by rw[e];exact hc.2,?_,e⟩;have hd:=hc.1
  cases hs:(rdM (some l)).2 with
  |none=>rw[hs]at hd;cases hd
  |some r=>
   rw[hs]at hd
   have hr:r= []:=by
    cases r with
    |nil=>rfl
    |cons a b=>cases hd
   subst hr;have:=xQ hl (show rdM (some l)=((rdM (some l)).1,some []) from Prod.ext rfl hs);rw[List.append_nil]at this;rw[e];exact this.symm
 ·have e:dp l=10:=if_neg hc;rw[e]at h;cases h
theorem dec_else {l:List UInt8}(h:dp l≠0):dp l=10∧cG l=cM:=by
 by_cases hc:bX (rdM (some l)).2=0∧cx (rdM (some l)).1=true
 ·exact absurd (if_pos hc) h
 ·exact⟨if_neg hc,if_neg hc⟩
theorem sm_dec {l:List UInt8}(hl:l.length≤9223372036854775807): ∀e∈(cG l).ents,SmE e:=by
 by_cases hc:bX (rdM (some l)).2=0∧cx (rdM (some l)).1=true
 ·have e:cG l=(rdM (some l)).1:=if_pos hc;rw[e];exact sK (fun r hr=>by injection hr with hr;rw[←hr];exact hl)
 ·have e:cG l=cM:=if_neg hc;rw[e];exact smZ0
end Go.Proofs.YtgfidiocmiolpaaGreat
/- Bytes that came in. -/
namespace Go.Proofs.YtgfidiocmiolpaaGreat.OpenB
open Go.ChangeShapes Go.WideShapes Go.ChangeAt Go.RowKit Go.Joins Go.Deep
section
variable {H :Type} {enc:TypeId×Value→H} {W:World} {sp:Nat→Bool}
theorem add_at (b off i:Nat):((⟨b,off,none⟩:Addr).add i)=⟨b,off+i,none⟩:=by
 unfold Addr.add
 split
 ·next h=>simp[h]
 ·rfl
theorem open_bytes {fuel:Nat}{A:Option Addr}{len cap:Nat}{x:DataW H×List MemPlace}(h:DataW.trod enc Tryz.prog W 0 sp true fuel 23 [.slice A len cap]=some x):
  (∃l:List UInt8,len=l.length∧Rd W W.heap.size (.slice A l.length cap) l)∧(len=0∨ ∃es rs,x.1= .slice es rs∧es.length=len):=by
 rcases open_ints Tryz.underlying23 Tryz.underlying5 (by kernel_rfl) h with ⟨hcs,_⟩|⟨a,len',cap',zs,hcs,_,hl,hm,hz,hxx,hcell,hwf⟩
 ·simp only[List.cons.injEq,Value.slice.injEq,and_true]at hcs;obtain⟨rfl,rfl,rfl⟩:=hcs;exact⟨⟨[],rfl,none,0,rfl,by simp,⟨by decide,fun _=>rfl⟩,fun h=>absurd h (by simp)⟩,.inl rfl⟩
 ·simp only[List.cons.injEq,Value.slice.injEq,and_true]at hcs;obtain⟨rfl,rfl,rfl⟩:=hcs;have hzl:len≤zs.length:=by rw[hz];split<;>omega
  have hlen:len=((zs.take len).map fun z=>UInt8.ofNat z.toNat).length:=by simp;omega
  refine⟨⟨(zs.take len).map fun z=>UInt8.ofNat z.toNat,hlen,some a,cap,rfl,by rw[←hlen];exact hl,⟨by unfold maxLen at hm;omega,fun h=>by cases h⟩,fun hp=> ?_⟩,.inr ⟨_,_,by rw[hxx],by simp[lits];omega⟩⟩;rw[←hlen]at hp;obtain⟨b,off,spot⟩:=a;have h0:=hcell 0 (by omega);obtain rfl:spot=none:=by simpa[Addr.add]using World.cell?_spot h0
  refine⟨b,off,rfl,?_,fun i hi=> ?_⟩
  ·rw[add_at]at h0;exact World.block_lt_of_cell? W _ h0
  ·rw[←hlen]at hi;have hi2:i<zs.length:=by omega
   have h1:=hcell i hi2;rw[add_at]at h1;rw[h1];have hb:=bounds_u8 (hwf zs[i] (List.getElem_mem hi2));have e:zs.getD i 0=zs[i]:=by simp[List.getD,List.getElem?_eq_getElem hi2]
   rw[e];simp only[List.getElem_map,List.getElem_take];rw[dy _ (by omega)]
   congr 2
   omega
end
end Go.Proofs.YtgfidiocmiolpaaGreat.OpenB
