/- The entry that comes next, by the program; the code of an entry that may be. -/
import Derived.Test.YtgfidiocmiolpaaGreatKEnT
import Derived.Test.YtgfidiocmiolpaaGreatKEnM
import Derived.Test.YtgfidiocmiolpaaGreatKCodG
import Derived.Test.YtgfidiocmiolpaaGreatKEnJ
import Derived.Test.YtgfidiocmiolpaaGreatKCpA
import Derived.Test.YtgfidiocmiolpaaGreatKFive
set_option maxHeartbeats 64000000
set_option maxRecDepth 100000
set_option linter.unusedVariables false
set_option linter.unusedSimpArgs false
namespace Go.Proofs.YtgfidiocmiolpaaGreat
open Lib (hid)
open Go.RowKit
theorem lP {a b c:World}{g p:Nat}(h:aJ a b g)(k:aJ b c p)(hp:a.heap.size≤p):aJ a c g:=⟨k.os.trans h.os,k.tape.trans h.tape,k.output.trans h.output,Nat.le_trans h.size k.size,fun b' hb hne=>(k.block b' (Nat.lt_of_lt_of_le hb h.size) (by intro e;injection e;omega)).trans (h.block b' hb hne)⟩
theorem lY (l:List UInt8):(⟨l.toArray⟩:ByteArray).toList=l:=by rw[ByteArray.toList_eq]
theorem wb (l m:List UInt8):((⟨l.toArray⟩:ByteArray).toList == (⟨m.toArray⟩:ByteArray).toList)=decide (l=m):=by
 rw[lY,lY];by_cases h:l=m
 ·subst h;simp
 ·rw[decide_eq_false h];exact beq_eq_false_iff_ne.2 h
theorem pt (B B':Nat)(vx vy:Value)(l m:List UInt8)(w:World)(hx:Rd w B vx l)(hy:Rd w B' vy m):Calls Tryz.prog 41 #[vx,vy] w fun e w'=>e= .returned (.bool (decide (l=m)))∧w=w':=by
 have hx1:=hx.strY;have hy1:=hy.strY;have he:=wb l m;have HE:=hid he;obtain⟨x,hx2⟩: ∃x:ByteArray,x=⟨l.toArray⟩:=⟨_,rfl⟩;obtain⟨y,hy2⟩: ∃y:ByteArray,y=⟨m.toArray⟩:=⟨_,rfl⟩;rw[←hx2]at hx1 HE;rw[←hy2]at hy1 HE;clear hx hy hx2 hy2 he;go_enter Tryz.func41,Tryz.ntmps41;go_wp2_with fail;go_ret;have e:=HE.out;refine⟨?_,rfl⟩;rw[←e];rfl
def qz (e:aU):List UInt8:=if bJ e=true then dV e else []
def sr (e:aU):Int:=if bJ e=true then 0 else 1
def xl (e:aU)(w:World)(q:Ending)(w':World):Prop:= ∃v,q= .returned (.tuple #[v,.int .i64 (sr e)])∧aq w' w.heap.size v (qz e)∧Below w.heap.size w w'
theorem n9 (S:Nat→Prop)(e:aU)(cs:Array Value)(w:World)(hS: ∀b,S b→b<w.heap.size)(h:cZ w S e cs)(hd:SmE e):
  Calls Tryz.prog 101 #[.agg cs] w (xl e w):=by
 obtain⟨IA,ic,IA',ic',DA,dc,DA',dc',LA,lc,rfl,hat⟩:=h.at;obtain⟨w1,hw1⟩: ∃W,W=w.alloc (.cells #[.int .i64 e.term,.int .i64 e.kind,.string e.coll,.string e.to,.int .i64 e.id.kind,.int .i64 e.id.num,.string e.id.text,.slice IA e.id.items.length ic,.slice IA' e.id.names.length ic',.int .i64 e.doc.kind,.int .i64 e.doc.num,.string e.doc.text,.slice DA e.doc.items.length dc,.slice DA' e.doc.names.length dc',.slice LA e.dels.length lc,.int .i64 e.session,.int .i64 e.number] 46):=⟨_,rfl⟩;have hbk:aS w1 w.heap.size e IA ic IA' ic' DA dc DA' dc' LA lc:=by rw[hw1];exact heap_alloc_new w _
 have hb1:Below w.heap.size w w1:=by rw[hw1];exact ae _
 have HB1:=hid hb1;have HK1:=hid hbk;have HM:=hid (ov S e _ w1 (fun b hb=>Nat.lt_of_lt_of_le (hS b hb) hb1.size) (hat.below hS hb1).l hd);have HP:=hid (fun(w2:World) (hm:bJ e=true) (hb:Below w.heap.size w w2)=>ux S e #[.int .i64 e.term,.int .i64 e.kind,.string e.coll,.string e.to,.int .i64 e.id.kind,.int .i64 e.id.num,.string e.id.text,.slice IA e.id.items.length ic,.slice IA' e.id.names.length ic',.int .i64 e.doc.kind,.int .i64 e.doc.num,.string e.doc.text,.slice DA e.doc.items.length dc,.slice DA' e.doc.names.length dc',.slice LA e.dels.length lc,.int .i64 e.session,.int .i64 e.number] w2 (fun b hb'=>Nat.lt_of_lt_of_le (hS b hb') hb.size) (hat.below hS hb).l hd hm);clear hb1 hbk hS h hat;go_enter Tryz.func101,Tryz.ntmps101;go_wp2_with fail;rw[←hw1];clear hw1;go_wp2_with(refine bh (by rfl) _ rfl w.heap.size rfl _ _ HK1.out rfl ?_;simp only[acR,Act.put]);refine HM.out.mono ?_;rintro q w2 ⟨rfl,hb⟩;have HK2:=hid (HK1.out.below hb);have HB2:=hid (HB1.out.trans (hb.mono HB1.out.size));clear HM hb HB1 HK1
 cases hm:bJ e with
 |false=>
  have HF:Hid (qz e= []∧sr e=1):=hid ⟨by unfold qz;rw[hm];rfl,by unfold sr;rw[hm];rfl⟩;clear hm;go_wp2_with fail
  go_ret2
  exact⟨_,by rw[HF.out.2];rfl,by rw[HF.out.1];exact World.ownsRow_nil _ _ _ _,HB2.out⟩
 |true=>
  have HF:Hid (qz e=dV e∧sr e=0):=hid ⟨by unfold qz;rw[if_pos hm],by unfold sr;rw[if_pos hm]⟩;have HP2:=hid (HP.out w2 hm HB2.out);clear hm HP;go_wp2_with(refine bh (by rfl) _ rfl w.heap.size rfl _ _ HK2.out rfl ?_;simp only[acR,Act.put]);refine HP2.out.mono ?_;rintro q w3 ⟨v,rfl,ho,hb⟩;have HO:=hid ho;have HB3:=hid (HB2.out.trans (hb.mono HB2.out.size));have HZ:=hid HB2.out.size;clear ho hb;go_wp2_with fail
  go_ret2
  exact⟨_,by rw[HF.out.2];rfl,by rw[HF.out.1];exact HO.out.base HZ.out,HB3.out⟩
end Go.Proofs.YtgfidiocmiolpaaGreat
/- The codes of entries, put behind bytes of the call's own. -/
namespace Go.Proofs.YtgfidiocmiolpaaGreat
open Lib (hid)
open Go.RowKit Go.Joins
def cj (l:List aU):List UInt8:=(l.map dV).flatten
def fG (l:List aU):List UInt8:=grp l.length++cj l
theorem qG (l:List aU)(k:Nat)(h:k<l.length):cj (l.take (k+1))=cj (l.take k)++dV l[k]:=by
 unfold cj;rw[List.take_succ_eq_append_getElem h,List.map_append,List.flatten_append];simp
theorem uo (l:List aU)(k:Nat):(cj (l.take k)).length≤(cj l).length:=by
 have e:cj l=cj (l.take k)++cj (l.drop k):=by
  unfold cj;rw[←List.flatten_append,←List.map_append,List.take_append_drop]
 rw[e,List.length_append];omega
theorem jK (S:Nat→Prop)(A:Option Addr)(c:Nat)(es:List aU)(B:Nat)(v:Value)(l:List UInt8)(w:World)(hS: ∀b,S b→b<B)(hp:cp w S A es)(hn:es.length≤8)(hm: ∀e∈es,bJ e=true)(hd: ∀e∈es,SmE e)(h:aq w B v l)(hB:B≤w.heap.size)(hl:l.length+(cj es).length≤140737480000000):
  Calls Tryz.prog 66 #[v,.slice A es.length c] w (gg B (l++fG es) w):=by
 have HP:=hid hp;have HS:=hid hS;have HM:=hid hm;have HD:=hid hd;have HL:=hid hl;have HB:=hid hB;have HC:=hid (dY B es.length v l w h hB (by omega) (by omega));obtain⟨Av,cv,rfl⟩:=h.slice;obtain⟨m,hm⟩: ∃m,m=l.length:=⟨_,rfl⟩;rw[←hm]at HC ⊢;clear h hp hS hl hB hm hd;go_enter Tryz.func66,Tryz.ntmps66;go_wp2_with fail;refine HC.out.mono ?_;rintro e w1 ⟨v1,rfl,hv1,hb1,hk1⟩;have h0:Hid (aq w1 B v1 (l++grp es.length++cj (es.take 0))∧Below B w w1∧K8 w w1):=hid ⟨by simpa[cj]using hv1,hb1,hk1⟩;clear hv1 hb1 hk1 HC;go_wp2_with fail
 go_loopw [0,16] (fun v0 i wr=> ∃k:Nat,i= .int .i64 k∧k≤es.length∧Hid (aq wr B v0 (l++grp es.length++cj (es.take k))∧Below B w wr∧K8 w wr)) (fun _ i _=>es.length - (intOf i).toNat)
 case atStart=>exact⟨0,rfl,by omega,h0⟩
 case round=>
  rename_i v0 _;obtain⟨k,rfl,hk,HH⟩:=hrel;by_cases hlt:k<es.length
  ·obtain⟨b,off,rfl,hb,hls⟩:=HP.out (by omega);obtain⟨cs,hcs,hx⟩:=hls k hlt;have HNX:=hid (qG es k hlt);have hme:=HM.out _ (List.getElem_mem hlt);have hde:=HD.out _ (List.getElem_mem hlt);obtain⟨en,hen⟩: ∃e,e=es[k]:=⟨_,rfl⟩;rw[←hen]at hx HNX hme hde;clear hen;have hsh:=hx;obtain⟨IA,ic,IA',ic',DA,dc,DA',dc',LA,lc,rfl,hat⟩:=hsh.at;have hrg:wr.rangeAt b (off+k * 17) [.int .i64 en.term,.int .i64 en.kind,.string en.coll,.string en.to,.int .i64 en.id.kind,.int .i64 en.id.num,.string en.id.text,.slice IA en.id.items.length ic,.slice IA' en.id.names.length ic',.int .i64 en.doc.kind,.int .i64 en.doc.num,.string en.doc.text,.slice DA en.doc.items.length dc,.slice DA' en.doc.names.length dc',.slice LA en.dels.length lc,.int .i64 en.session,.int .i64 en.number]:=fun i v hv=>(World.cell?_of_block (a:=⟨b,off+k * 17+i,none⟩) (HH.out.2.1.block b (HS.out b hb))).trans (hcs i v (by simpa using hv));obtain⟨w2,hw2⟩: ∃W,W=wr.alloc (.cells #[.int .i64 en.term,.int .i64 en.kind,.string en.coll,.string en.to,.int .i64 en.id.kind,.int .i64 en.id.num,.string en.id.text,.slice IA en.id.items.length ic,.slice IA' en.id.names.length ic',.int .i64 en.doc.kind,.int .i64 en.doc.num,.string en.doc.text,.slice DA en.doc.items.length dc,.slice DA' en.doc.names.length dc',.slice LA en.dels.length lc,.int .i64 en.session,.int .i64 en.number] 46):=⟨_,rfl⟩;have hb2:Below wr.heap.size wr w2:=by rw[hw2];exact ae _
   have hBs:B≤wr.heap.size:=Nat.le_trans HB.out HH.out.2.1.size;have HBS:=hid hBs;have HO2:=hid (HH.out.1.below hb2);have HB2:=hid (HH.out.2.1.trans (hb2.mono hBs));have HK2:=hid (HH.out.2.2.trans (az hb2));have HZ2:=hid (Nat.le_trans hBs hb2.size);have HRG:=hid hrg;have HBX:Hid (aS w2 wr.heap.size en IA ic IA' ic' DA dc DA' dc' LA lc):=hid (by rw[hw2];exact heap_alloc_new wr _);have HX:=hid (n9 S en _ w2 (fun b hb=>Nat.lt_of_lt_of_le (HS.out b hb) HZ2.out) (hx.keep fun b hb=>HB2.out.block b (HS.out b hb)) hde);have HEC:Hid (qz en=dV en):=hid (by unfold qz;rw[hme];rfl);have HLE:=hid (uo es (k+1));clear hx hcs hrg hb2 hat hls hBs HH hsh hme hde;go_wp2_with(first|(refine bD (by rfl) 46 _ rfl b (off+k * 17) rfl _ _ HRG.out Tryz.underlying46 rfl (by kernel_rfl) ?_;simp only[acR,Act.put])|(rw[←hw2];refine bh (by rfl) _ rfl wr.heap.size rfl _ _ HBX.out rfl ?_;simp only[acR,Act.put]));try rw[←hw2]
   clear hw2;refine HX.out.mono ?_;rintro e w5 ⟨v5,rfl,hv5,hb5⟩;rw[HEC.out]at hv5;have HV5:=hid hv5;have HO5:=hid (HO2.out.below hb5);have HB5:=hid (HB2.out.trans (hb5.mono HZ2.out));have HK5:=hid (HK2.out.trans (az hb5));have HZ5:=hid (Nat.le_trans HZ2.out hb5.size);obtain⟨A5,c5,rfl⟩:=hv5.slice;obtain⟨m5,hm5⟩: ∃m,m=(dV en).length:=⟨_,rfl⟩;rw[←hm5]at HV5 ⊢;have HM5:=hid hm5;obtain⟨Z,hZ⟩: ∃Z,Z=sr en:=⟨_,rfl⟩;rw[←hZ];clear hv5 hb5 HX hm5 HEC HRG HBX hZ;go_wp2_with(at_builtin;go_must (refine ak rfl _ _ rfl B _ (l++grp es.length++cj (es.take k)) rfl HO5.out w5.heap.size _ (dV en) rfl HV5.out.rd HZ5.out (by have h1:=HL.out;have h2:=HLE.out;rw[HNX.out,List.length_append]at h2;have h3:=(al es.length).1;simp only[List.length_append];omega) ?_));intro v6 w6 hv6 hg6
   have HX:Hid (aq w6 B v6 (l++grp es.length++cj (es.take (k+1)))∧Below B w w6∧K8 w w6):=hid ⟨by
    rw[HNX.out]
    first|exact hv6|(rw[←List.append_assoc];exact hv6)|simpa[List.append_assoc]using hv6,ax HB5.out HO5.out HZ5.out hg6,HK5.out.trans (aA HO5.out hg6)⟩
   clear hv6 hg6;go_wp2_with fail
   go_roundw
   case rel=>exact⟨k+1,by go_num,by omega,HX⟩
   case measure=>simp[intOf];omega
  ·obtain rfl:k=es.length:=by omega
   go_wp2_with fail;go_ret;obtain⟨h1,h2,h3⟩:=HH.out;refine⟨_,rfl,?_,h2,h3⟩;rw[List.take_length]at h1;unfold fG;rw[←List.append_assoc];exact h1
end Go.Proofs.YtgfidiocmiolpaaGreat
/- Which messages may be, by the program. -/
namespace Go.Proofs.YtgfidiocmiolpaaGreat
open Lib (hid)
open Go.RowKit
theorem sL (m:aQ)(EA:Option Addr)(ec:Nat)(SA:Option Addr)(sc:Nat)(w:World):Calls Tryz.prog 20 #[.agg #[.int .i64 m.kind,.int .i64 m.frm,.int .i64 m.tgt,.int .i64 m.term,.int .i64 m.index,.int .i64 m.logTerm,.int .i64 m.commit,.int .i64 m.round,.bool m.ok,.slice EA m.ents.length ec,.slice SA m.snap.length sc]] w fun r w'=>r= .returned (.bool (fY m))∧Below w.heap.size w w':=by
 obtain⟨w1,hw1⟩: ∃W,W=w.alloc (.cells #[.int .i64 m.kind,.int .i64 m.frm,.int .i64 m.tgt,.int .i64 m.term,.int .i64 m.index,.int .i64 m.logTerm,.int .i64 m.commit,.int .i64 m.round,.bool m.ok,.slice EA m.ents.length ec,.slice SA m.snap.length sc] 25):=⟨_,rfl⟩;have HB:Hid (Below w.heap.size w w1):=hid (by rw[hw1];exact ae _);have HK:Hid (bx w1 w.heap.size m EA ec SA sc):=hid (by rw[hw1];exact heap_alloc_new w _);obtain⟨r,hr⟩: ∃r,r=fY m:=⟨_,rfl⟩;rw[←hr];have HR:Hid (r=(gb m.frm && gb m.tgt && decide (m.frm≠m.tgt))):=hid hr;clear hr;have y1:(w.alloc (.cells #[.int .i64 m.kind,.int .i64 m.frm,.int .i64 m.tgt,.int .i64 m.term,.int .i64 m.index,.int .i64 m.logTerm,.int .i64 m.commit,.int .i64 m.round,.bool m.ok,.slice EA m.ents.length ec,.slice SA m.snap.length sc] 25)).cell? ⟨w.heap.size,1,none⟩=some (.int .i64 m.frm):=Go.Joins.cell_of_block (heap_alloc_new w _) 1;go_enter Tryz.func20,Tryz.ntmps20;go_wp2_with fail;rw[←hw1];rw[←hw1]at y1;clear hw1;refine(jx m.frm w1).mono ?_;rintro q u ⟨rfl,hw⟩;replace hw:=hw.symm;subst hw;have y2:=HK.out.g2;cases h1:gb m.frm
 ·have HE:Hid (r=false):=hid (by rw[HR.out,h1];rfl);go_wp2_with fail;go_ret;exact⟨by rw[HE.out]<;>rfl,HB.out⟩
 have H1:=hid h1;clear h1;go_wp2_with fail;refine(jx m.tgt w1).mono ?_;rintro q u ⟨rfl,hw⟩;replace hw:=hw.symm;subst hw;cases h2:gb m.tgt
 ·have HE:Hid (r=false):=hid (by rw[HR.out,h2];simp);go_wp2_with fail;go_ret;exact⟨by rw[HE.out]<;>rfl,HB.out⟩
 have HE:Hid (r=(m.frm != m.tgt)):=hid (by rw[HR.out,H1.out,h2,Bool.eq_iff_iff];simp);clear h2;go_wp2_with fail;go_ret;exact⟨by rw[HE.out]<;>rfl,HB.out⟩
def pJ (g:Nat):Array Value:= #[.pointer (some ⟨g,4,none⟩),.pointer (some ⟨g,5,none⟩),.pointer (some ⟨g,6,none⟩),.pointer (some ⟨g,7,none⟩)]
theorem iR (g:Nat)(w:World):Calls Tryz.prog 45 #[.pointer (some ⟨g,0,none⟩)] w fun r w'=>r= .returned (.agg (pJ g))∧Below w.heap.size w w':=by
 go_enter Tryz.func45,Tryz.ntmps45;go_wp2_with fail
 go_region
 have hbx:(w.alloc (.cells (pJ g) 79)).drew.heap[w.heap.size]? =some (.cells (pJ g) 79 (0,0)):=heap_alloc_new w _;have hb:Below w.heap.size w (w.alloc (.cells (pJ g) 79)).drew:=((Below.refl _ _).alloc (Nat.le_refl _) _).drew;unfold pJ at *;go_wp2_with fail;refine bodyPost_ret (results_cell_row rfl _ _ w.heap.size 79 _ (0,0) _ rfl hbx Tryz.underlying79 rfl (by kernel_rfl)) rfl ?_;exact⟨rfl,hb⟩
theorem my (k:Int):(bits .and .i64 (aM k) 1 != 0)=bf k:=by
 rcases eZ k with rfl|rfl|rfl|rfl|rfl|⟨-,h1,h2,h3,h4,h5⟩
 iterate 5
  ·decide +kernel
 unfold aM bf;rw[if_neg h1,if_neg h2,if_neg h3,if_neg h4,if_neg h5,decide_eq_false h1,decide_eq_false h3,decide_eq_false h4,decide_eq_false h5];decide +kernel
theorem q9 (k:Int):(bits .and .i64 (aM k) 2 != 0)=dq k:=by
 rcases eZ k with rfl|rfl|rfl|rfl|rfl|⟨-,h1,h2,h3,h4,h5⟩
 iterate 5
  ·decide +kernel
 unfold aM dq;rw[if_neg h1,if_neg h2,if_neg h3,if_neg h4,if_neg h5,decide_eq_false h1,decide_eq_false h3,decide_eq_false h5];decide +kernel
theorem ln (k:Int):(bits .and .i64 (aM k) 4 != 0)=aV k:=by
 rcases eZ k with rfl|rfl|rfl|rfl|rfl|⟨-,h1,h2,h3,h4,h5⟩
 iterate 5
  ·decide +kernel
 unfold aM aV;rw[if_neg h1,if_neg h2,if_neg h3,if_neg h4,if_neg h5,decide_eq_false h3];decide +kernel
theorem mI (k:Int):(bits .and .i64 (aM k) 8 != 0)=bs k:=by
 rcases eZ k with rfl|rfl|rfl|rfl|rfl|⟨-,h1,h2,h3,h4,h5⟩
 iterate 5
  ·decide +kernel
 unfold aM bs;rw[if_neg h1,if_neg h2,if_neg h3,if_neg h4,if_neg h5,decide_eq_false h3,decide_eq_false h4];decide +kernel
theorem qT (k:Int):(bits .and .i64 (aM k) 16 != 0)=hOk k:=by
 rcases eZ k with rfl|rfl|rfl|rfl|rfl|⟨-,h1,h2,h3,h4,h5⟩
 iterate 5
  ·decide +kernel
 unfold aM hOk;rw[if_neg h1,if_neg h2,if_neg h3,if_neg h4,if_neg h5,decide_eq_false h2,decide_eq_false h4];decide +kernel
theorem kN (k:Int):(bits .and .i64 (aM k) 32 != 0)=bi k:=by
 rcases eZ k with rfl|rfl|rfl|rfl|rfl|⟨-,h1,h2,h3,h4,h5⟩
 iterate 5
  ·decide +kernel
 unfold aM bi;rw[if_neg h1,if_neg h2,if_neg h3,if_neg h4,if_neg h5,decide_eq_false h3];decide +kernel
theorem ku (k:Int):(bits .and .i64 (aM k) 64 != 0)=bw k:=by
 rcases eZ k with rfl|rfl|rfl|rfl|rfl|⟨-,h1,h2,h3,h4,h5⟩
 iterate 5
  ·decide +kernel
 unfold aM bw;rw[if_neg h1,if_neg h2,if_neg h3,if_neg h4,if_neg h5,decide_eq_false h5];decide +kernel
def wg (m:aQ):Nat→Bool
 |0=>true
 |1=>cC m.index (bf m.kind)
 |2=>cC m.index (bf m.kind) && cC m.logTerm (dq m.kind)
 |3=>cC m.index (bf m.kind) && cC m.logTerm (dq m.kind) && cC m.commit (aV m.kind)
 |_=>cI m
theorem v8 (a b c d:Value)(w:World):(Instr.index 79 (.agg #[a,b,c,d]) (.int .i64 0)).run Tryz.prog w= .ok a w:=by kernel_rfl
theorem vW (a b c d:Value)(w:World):(Instr.index 79 (.agg #[a,b,c,d]) (.int .i64 1)).run Tryz.prog w= .ok b w:=by kernel_rfl
theorem vY (a b c d:Value)(w:World):(Instr.index 79 (.agg #[a,b,c,d]) (.int .i64 2)).run Tryz.prog w= .ok c w:=by kernel_rfl
theorem wa (a b c d:Value)(w:World):(Instr.index 79 (.agg #[a,b,c,d]) (.int .i64 3)).run Tryz.prog w= .ok d w:=by kernel_rfl
theorem ly (m:aQ)(EA:Option Addr)(ec:Nat)(SA:Option Addr)(sc:Nat)(w:World):Calls Tryz.prog 21 #[.int .i64 (aM m.kind),.agg #[.int .i64 m.kind,.int .i64 m.frm,.int .i64 m.tgt,.int .i64 m.term,.int .i64 m.index,.int .i64 m.logTerm,.int .i64 m.commit,.int .i64 m.round,.bool m.ok,.slice EA m.ents.length ec,.slice SA m.snap.length sc]] w fun r w'=>r= .returned (.bool (cI m))∧Below w.heap.size w w':=by
 obtain⟨w1,hw1⟩: ∃W,W=w.alloc (.cells #[.int .i64 m.kind,.int .i64 m.frm,.int .i64 m.tgt,.int .i64 m.term,.int .i64 m.index,.int .i64 m.logTerm,.int .i64 m.commit,.int .i64 m.round,.bool m.ok,.slice EA m.ents.length ec,.slice SA m.snap.length sc] 25):=⟨_,rfl⟩;have HB1:Hid (Below w.heap.size w w1):=hid (by rw[hw1];exact ae _);have HK1:Hid (bx w1 w.heap.size m EA ec SA sc):=hid (by rw[hw1];exact heap_alloc_new w _);obtain⟨r,hr⟩: ∃r,r=cI m:=⟨_,rfl⟩;rw[←hr];have HR:=hid hr;clear hr;obtain⟨l,hl⟩: ∃l,l=aM m.kind:=⟨_,rfl⟩;rw[←hl];have HBI:Hid ((bits .and .i64 l 1 != 0)=bf m.kind∧(bits .and .i64 l 2 != 0)=dq m.kind∧(bits .and .i64 l 4 != 0)=aV m.kind∧(bits .and .i64 l 8 != 0)=bs m.kind):=hid (by rw[hl];exact⟨my _,q9 _,ln _,mI _⟩);clear hl;go_enter Tryz.func21,Tryz.ntmps21;go_wp2_with fail;rw[←hw1];clear hw1;refine(iR w.heap.size w1).mono ?_;rintro q w2 ⟨rfl,hb⟩;have HB2:=hid (HB1.out.trans (hb.mono HB1.out.size));have HK2:=hid (HK1.out.below hb);clear hb HB1 HK1;unfold pJ;go_wp2_with fail
 go_loopw [8] (fun i wr=> ∃j:Nat,i= .int .i64 j∧j≤4∧Hid (wg m j=true)∧Hid (Below w.heap.size w wr)∧Hid (bx wr w.heap.size m EA ec SA sc)) (fun i _=>4 - (intOf i).toNat)
 case atStart=>exact⟨0,rfl,by omega,hid rfl,HB2,HK2⟩
 case round=>
  clear HB2 HK2;obtain⟨j,rfl,hj,HM,HB,HK⟩:=hrel;obtain rfl|rfl|rfl|rfl|rfl:j=0∨j=1∨j=2∨j=3∨j=4:=by omega
  ·have hix:=v8 (.pointer (some ⟨w.heap.size,4,none⟩)) (.pointer (some ⟨w.heap.size,5,none⟩)) (.pointer (some ⟨w.heap.size,6,none⟩)) (.pointer (some ⟨w.heap.size,7,none⟩)) wr;have HX:Hid (cC m.index (bf m.kind)=(decide (0≤m.index) && decide (m.index≤if bf m.kind then 1099511627776 else 0))):=hid rfl;have HMO:=hid (eh l 1 1099511627776);by_cases h0:m.index<0
   ·have d1:decide (m.index<0)=true:=decide_eq_true h0;have HN:Hid (cC m.index (bf m.kind)=false):=hid (by rw[HX.out,decide_eq_false (p:=0≤m.index) (by omega)];rfl);have HE:Hid (r=false):=hid (by rw[HR.out];unfold cI;rw[HN.out];rfl);go_wp2_with fail;refine ar [0,1,2,3,4,5,6,7,8,9,10,11,12,13] (by kernel_rfl) (by kernel_rfl) (fun _ d _ _ _ h=>by cases d<;>exact h) ?_;simp only[atR];have hdr:Below wr.heap.size wr wr.drew:=(Below.refl _ _).drew;have HB3:=hid (HB.out.trans (hdr.mono HB.out.size));have HK3:=hid (HK.out.below hdr);clear hdr HB HK;generalize wr.drew=w3 at *;have u1:=aa (B:=w3.heap.size) (w:=w3) HK3.out.g4 HK3.out.lt;first|with_reducible refine ac ?_ |with_reducible refine ab ?_ |refine ac ?_ |refine ab ?_
    simp only[List.takeWhile,List.dropWhile,ai,Nat.reduceBNe];repeat(go_big_quiet_step (fail))
    first|with_reducible refine wpQuiet_nil ?_ |refine wpQuiet_nil ?_
    first|with_reducible refine ah ?_ (fun K hK=> ?_)|with_reducible refine af ?_ (fun K hK=> ?_)|refine ah ?_ (fun K hK=> ?_)|refine af ?_ (fun K hK=> ?_)
    ·rfl
    go_simp
    refine hK _ _ (Below.refl _ _) ?_;clear hK K;try simp only[Act.put]
    first|with_reducible refine ac ?_ |with_reducible refine ab ?_ |refine ac ?_ |refine ab ?_
    simp only[List.takeWhile,List.dropWhile,ai,Nat.reduceBNe];repeat(go_big_quiet_step (fail))
    first|with_reducible refine wpQuiet_nil ?_ |refine wpQuiet_nil ?_
    unfold aF;clear u1;go_wp2_with fail;go_ret;exact⟨by rw[HE.out]<;>rfl,HB3.out⟩
   have d1:decide (m.index<0)=false:=decide_eq_false h0;have H0:=hid h0;clear h0;go_wp2_with fail;refine ar [0,1,2,3,4,5,6,7,8,9,10,11,12,13] (by kernel_rfl) (by kernel_rfl) (fun _ d _ _ _ h=>by cases d<;>exact h) ?_;simp only[atR];have hdr:Below wr.heap.size wr wr.drew:=(Below.refl _ _).drew;have HB3:=hid (HB.out.trans (hdr.mono HB.out.size));have HK3:=hid (HK.out.below hdr);clear hdr HB HK;generalize wr.drew=w3 at *;have u1:=aa (B:=w3.heap.size) (w:=w3) HK3.out.g4 HK3.out.lt;first|with_reducible refine ac ?_ |with_reducible refine ab ?_ |refine ac ?_ |refine ab ?_
   simp only[List.takeWhile,List.dropWhile,ai,Nat.reduceBNe];repeat(go_big_quiet_step (fail))
   first|with_reducible refine wpQuiet_nil ?_ |refine wpQuiet_nil ?_
   clear u1;first|with_reducible refine ah ?_ (fun K hK=> ?_)|with_reducible refine af ?_ (fun K hK=> ?_)|refine ah ?_ (fun K hK=> ?_)|refine af ?_ (fun K hK=> ?_)
   ·rfl
   go_simp
   refine(HMO.out w3).mono ?_;rintro q u ⟨rfl,hw⟩;refine hK _ _ (hw▸Below.refl _ _) ?_;clear hK K;try simp only[Act.put]
   replace hw:=hw.symm;subst hw;rw[HBI.out.1];obtain⟨lim,hlim⟩: ∃x:Int,x=if bf m.kind=true then 1099511627776 else 0:=⟨_,rfl⟩
   rw[←hlim];have HLM:=hid hlim;clear hlim;by_cases h1:m.index≤lim
   ·have d2:decide (m.index>lim)=false:=decide_eq_false (by omega);have HN:Hid (cC m.index (bf m.kind)=true):=hid (by rw[HX.out,decide_eq_true (p:=0≤m.index) (by have:=H0.out;omega),←HLM.out,decide_eq_true h1];rfl);clear h1;first|with_reducible refine ac ?_ |with_reducible refine ab ?_ |refine ac ?_ |refine ab ?_
    simp only[List.takeWhile,List.dropWhile,ai,Nat.reduceBNe];repeat(go_big_quiet_step (fail))
    first|with_reducible refine wpQuiet_nil ?_ |refine wpQuiet_nil ?_
    unfold aF;go_wp2_with fail
    go_roundw
    case rel=>exact⟨1,by go_num,by omega,hid (by show cC m.index (bf m.kind)=true;exact HN.out),HB3,HK3⟩
    case measure=>simp[intOf]
   ·have d2:decide (m.index>lim)=true:=decide_eq_true (by omega);have HN:Hid (cC m.index (bf m.kind)=false):=hid (by rw[HX.out,←HLM.out,decide_eq_false h1];simp);have HE:Hid (r=false):=hid (by rw[HR.out];unfold cI;rw[HN.out];rfl);clear h1;first|with_reducible refine ac ?_ |with_reducible refine ab ?_ |refine ac ?_ |refine ab ?_
    simp only[List.takeWhile,List.dropWhile,ai,Nat.reduceBNe];repeat(go_big_quiet_step (fail))
    first|with_reducible refine wpQuiet_nil ?_ |refine wpQuiet_nil ?_
    unfold aF;go_wp2_with fail;go_ret;exact⟨by rw[HE.out]<;>rfl,HB3.out⟩
  ·have hix:=vW (.pointer (some ⟨w.heap.size,4,none⟩)) (.pointer (some ⟨w.heap.size,5,none⟩)) (.pointer (some ⟨w.heap.size,6,none⟩)) (.pointer (some ⟨w.heap.size,7,none⟩)) wr;have HX:Hid (cC m.logTerm (dq m.kind)=(decide (0≤m.logTerm) && decide (m.logTerm≤if dq m.kind then 1099511627776 else 0))):=hid rfl;have HMO:=hid (eh l 2 1099511627776);by_cases h0:m.logTerm<0
   ·have d1:decide (m.logTerm<0)=true:=decide_eq_true h0;have HN:Hid (cC m.logTerm (dq m.kind)=false):=hid (by rw[HX.out,decide_eq_false (p:=0≤m.logTerm) (by omega)];rfl);have HE:Hid (r=false):=hid (by rw[HR.out];unfold cI;rw[HN.out];simp);go_wp2_with fail;refine ar [0,1,2,3,4,5,6,7,8,9,10,11,12,13] (by kernel_rfl) (by kernel_rfl) (fun _ d _ _ _ h=>by cases d<;>exact h) ?_;simp only[atR];have hdr:Below wr.heap.size wr wr.drew:=(Below.refl _ _).drew;have HB3:=hid (HB.out.trans (hdr.mono HB.out.size));have HK3:=hid (HK.out.below hdr);clear hdr HB HK;generalize wr.drew=w3 at *;have u1:=aa (B:=w3.heap.size) (w:=w3) HK3.out.g5 HK3.out.lt;first|with_reducible refine ac ?_ |with_reducible refine ab ?_ |refine ac ?_ |refine ab ?_
    simp only[List.takeWhile,List.dropWhile,ai,Nat.reduceBNe];repeat(go_big_quiet_step (fail))
    first|with_reducible refine wpQuiet_nil ?_ |refine wpQuiet_nil ?_
    first|with_reducible refine ah ?_ (fun K hK=> ?_)|with_reducible refine af ?_ (fun K hK=> ?_)|refine ah ?_ (fun K hK=> ?_)|refine af ?_ (fun K hK=> ?_)
    ·rfl
    go_simp
    refine hK _ _ (Below.refl _ _) ?_;clear hK K;try simp only[Act.put]
    first|with_reducible refine ac ?_ |with_reducible refine ab ?_ |refine ac ?_ |refine ab ?_
    simp only[List.takeWhile,List.dropWhile,ai,Nat.reduceBNe];repeat(go_big_quiet_step (fail))
    first|with_reducible refine wpQuiet_nil ?_ |refine wpQuiet_nil ?_
    unfold aF;clear u1;go_wp2_with fail;go_ret;exact⟨by rw[HE.out]<;>rfl,HB3.out⟩
   have d1:decide (m.logTerm<0)=false:=decide_eq_false h0;have H0:=hid h0;clear h0;go_wp2_with fail;refine ar [0,1,2,3,4,5,6,7,8,9,10,11,12,13] (by kernel_rfl) (by kernel_rfl) (fun _ d _ _ _ h=>by cases d<;>exact h) ?_;simp only[atR];have hdr:Below wr.heap.size wr wr.drew:=(Below.refl _ _).drew;have HB3:=hid (HB.out.trans (hdr.mono HB.out.size));have HK3:=hid (HK.out.below hdr);clear hdr HB HK;generalize wr.drew=w3 at *;have u1:=aa (B:=w3.heap.size) (w:=w3) HK3.out.g5 HK3.out.lt;first|with_reducible refine ac ?_ |with_reducible refine ab ?_ |refine ac ?_ |refine ab ?_
   simp only[List.takeWhile,List.dropWhile,ai,Nat.reduceBNe];repeat(go_big_quiet_step (fail))
   first|with_reducible refine wpQuiet_nil ?_ |refine wpQuiet_nil ?_
   clear u1;first|with_reducible refine ah ?_ (fun K hK=> ?_)|with_reducible refine af ?_ (fun K hK=> ?_)|refine ah ?_ (fun K hK=> ?_)|refine af ?_ (fun K hK=> ?_)
   ·rfl
   go_simp
   refine(HMO.out w3).mono ?_;rintro q u ⟨rfl,hw⟩;refine hK _ _ (hw▸Below.refl _ _) ?_;clear hK K;try simp only[Act.put]
   replace hw:=hw.symm;subst hw;rw[HBI.out.2.1];obtain⟨lim,hlim⟩: ∃x:Int,x=if dq m.kind=true then 1099511627776 else 0:=⟨_,rfl⟩
   rw[←hlim];have HLM:=hid hlim;clear hlim;by_cases h1:m.logTerm≤lim
   ·have d2:decide (m.logTerm>lim)=false:=decide_eq_false (by omega);have HN:Hid (cC m.logTerm (dq m.kind)=true):=hid (by rw[HX.out,decide_eq_true (p:=0≤m.logTerm) (by have:=H0.out;omega),←HLM.out,decide_eq_true h1];rfl);clear h1;first|with_reducible refine ac ?_ |with_reducible refine ab ?_ |refine ac ?_ |refine ab ?_
    simp only[List.takeWhile,List.dropWhile,ai,Nat.reduceBNe];repeat(go_big_quiet_step (fail))
    first|with_reducible refine wpQuiet_nil ?_ |refine wpQuiet_nil ?_
    unfold aF;go_wp2_with fail
    go_roundw
    case rel=>exact⟨2,by go_num,by omega,hid (by show(_ && _)=true;rw[Bool.and_eq_true];exact⟨HM.out,HN.out⟩),HB3,HK3⟩
    case measure=>simp[intOf]
   ·have d2:decide (m.logTerm>lim)=true:=decide_eq_true (by omega);have HN:Hid (cC m.logTerm (dq m.kind)=false):=hid (by rw[HX.out,←HLM.out,decide_eq_false h1];simp);have HE:Hid (r=false):=hid (by rw[HR.out];unfold cI;rw[HN.out];simp);clear h1;first|with_reducible refine ac ?_ |with_reducible refine ab ?_ |refine ac ?_ |refine ab ?_
    simp only[List.takeWhile,List.dropWhile,ai,Nat.reduceBNe];repeat(go_big_quiet_step (fail))
    first|with_reducible refine wpQuiet_nil ?_ |refine wpQuiet_nil ?_
    unfold aF;go_wp2_with fail;go_ret;exact⟨by rw[HE.out]<;>rfl,HB3.out⟩
  ·have hix:=vY (.pointer (some ⟨w.heap.size,4,none⟩)) (.pointer (some ⟨w.heap.size,5,none⟩)) (.pointer (some ⟨w.heap.size,6,none⟩)) (.pointer (some ⟨w.heap.size,7,none⟩)) wr;have HX:Hid (cC m.commit (aV m.kind)=(decide (0≤m.commit) && decide (m.commit≤if aV m.kind then 1099511627776 else 0))):=hid rfl;have HMO:=hid (eh l 4 1099511627776);by_cases h0:m.commit<0
   ·have d1:decide (m.commit<0)=true:=decide_eq_true h0;have HN:Hid (cC m.commit (aV m.kind)=false):=hid (by rw[HX.out,decide_eq_false (p:=0≤m.commit) (by omega)];rfl);have HE:Hid (r=false):=hid (by rw[HR.out];unfold cI;rw[HN.out];simp);go_wp2_with fail;refine ar [0,1,2,3,4,5,6,7,8,9,10,11,12,13] (by kernel_rfl) (by kernel_rfl) (fun _ d _ _ _ h=>by cases d<;>exact h) ?_;simp only[atR];have hdr:Below wr.heap.size wr wr.drew:=(Below.refl _ _).drew;have HB3:=hid (HB.out.trans (hdr.mono HB.out.size));have HK3:=hid (HK.out.below hdr);clear hdr HB HK;generalize wr.drew=w3 at *;have u1:=aa (B:=w3.heap.size) (w:=w3) HK3.out.g6 HK3.out.lt;first|with_reducible refine ac ?_ |with_reducible refine ab ?_ |refine ac ?_ |refine ab ?_
    simp only[List.takeWhile,List.dropWhile,ai,Nat.reduceBNe];repeat(go_big_quiet_step (fail))
    first|with_reducible refine wpQuiet_nil ?_ |refine wpQuiet_nil ?_
    first|with_reducible refine ah ?_ (fun K hK=> ?_)|with_reducible refine af ?_ (fun K hK=> ?_)|refine ah ?_ (fun K hK=> ?_)|refine af ?_ (fun K hK=> ?_)
    ·rfl
    go_simp
    refine hK _ _ (Below.refl _ _) ?_;clear hK K;try simp only[Act.put]
    first|with_reducible refine ac ?_ |with_reducible refine ab ?_ |refine ac ?_ |refine ab ?_
    simp only[List.takeWhile,List.dropWhile,ai,Nat.reduceBNe];repeat(go_big_quiet_step (fail))
    first|with_reducible refine wpQuiet_nil ?_ |refine wpQuiet_nil ?_
    unfold aF;clear u1;go_wp2_with fail;go_ret;exact⟨by rw[HE.out]<;>rfl,HB3.out⟩
   have d1:decide (m.commit<0)=false:=decide_eq_false h0;have H0:=hid h0;clear h0;go_wp2_with fail;refine ar [0,1,2,3,4,5,6,7,8,9,10,11,12,13] (by kernel_rfl) (by kernel_rfl) (fun _ d _ _ _ h=>by cases d<;>exact h) ?_;simp only[atR];have hdr:Below wr.heap.size wr wr.drew:=(Below.refl _ _).drew;have HB3:=hid (HB.out.trans (hdr.mono HB.out.size));have HK3:=hid (HK.out.below hdr);clear hdr HB HK;generalize wr.drew=w3 at *;have u1:=aa (B:=w3.heap.size) (w:=w3) HK3.out.g6 HK3.out.lt;first|with_reducible refine ac ?_ |with_reducible refine ab ?_ |refine ac ?_ |refine ab ?_
   simp only[List.takeWhile,List.dropWhile,ai,Nat.reduceBNe];repeat(go_big_quiet_step (fail))
   first|with_reducible refine wpQuiet_nil ?_ |refine wpQuiet_nil ?_
   clear u1;first|with_reducible refine ah ?_ (fun K hK=> ?_)|with_reducible refine af ?_ (fun K hK=> ?_)|refine ah ?_ (fun K hK=> ?_)|refine af ?_ (fun K hK=> ?_)
   ·rfl
   go_simp
   refine(HMO.out w3).mono ?_;rintro q u ⟨rfl,hw⟩;refine hK _ _ (hw▸Below.refl _ _) ?_;clear hK K;try simp only[Act.put]
   replace hw:=hw.symm;subst hw;rw[HBI.out.2.2.1];obtain⟨lim,hlim⟩: ∃x:Int,x=if aV m.kind=true then 1099511627776 else 0:=⟨_,rfl⟩
   rw[←hlim];have HLM:=hid hlim;clear hlim;by_cases h1:m.commit≤lim
   ·have d2:decide (m.commit>lim)=false:=decide_eq_false (by omega);have HN:Hid (cC m.commit (aV m.kind)=true):=hid (by rw[HX.out,decide_eq_true (p:=0≤m.commit) (by have:=H0.out;omega),←HLM.out,decide_eq_true h1];rfl);clear h1;first|with_reducible refine ac ?_ |with_reducible refine ab ?_ |refine ac ?_ |refine ab ?_
    simp only[List.takeWhile,List.dropWhile,ai,Nat.reduceBNe];repeat(go_big_quiet_step (fail))
    first|with_reducible refine wpQuiet_nil ?_ |refine wpQuiet_nil ?_
    unfold aF;go_wp2_with fail
    go_roundw
    case rel=>exact⟨3,by go_num,by omega,hid (by show(_ && _)=true;rw[Bool.and_eq_true];exact⟨HM.out,HN.out⟩),HB3,HK3⟩
    case measure=>simp[intOf]
   ·have d2:decide (m.commit>lim)=true:=decide_eq_true (by omega);have HN:Hid (cC m.commit (aV m.kind)=false):=hid (by rw[HX.out,←HLM.out,decide_eq_false h1];simp);have HE:Hid (r=false):=hid (by rw[HR.out];unfold cI;rw[HN.out];simp);clear h1;first|with_reducible refine ac ?_ |with_reducible refine ab ?_ |refine ac ?_ |refine ab ?_
    simp only[List.takeWhile,List.dropWhile,ai,Nat.reduceBNe];repeat(go_big_quiet_step (fail))
    first|with_reducible refine wpQuiet_nil ?_ |refine wpQuiet_nil ?_
    unfold aF;go_wp2_with fail;go_ret;exact⟨by rw[HE.out]<;>rfl,HB3.out⟩
  ·have hix:=wa (.pointer (some ⟨w.heap.size,4,none⟩)) (.pointer (some ⟨w.heap.size,5,none⟩)) (.pointer (some ⟨w.heap.size,6,none⟩)) (.pointer (some ⟨w.heap.size,7,none⟩)) wr;have HX:Hid (cC m.round (bs m.kind)=(decide (0≤m.round) && decide (m.round≤if bs m.kind then 1099511627776 else 0))):=hid rfl;have HMO:=hid (eh l 8 1099511627776);by_cases h0:m.round<0
   ·have d1:decide (m.round<0)=true:=decide_eq_true h0;have HN:Hid (cC m.round (bs m.kind)=false):=hid (by rw[HX.out,decide_eq_false (p:=0≤m.round) (by omega)];rfl);have HE:Hid (r=false):=hid (by rw[HR.out];unfold cI;rw[HN.out];simp);go_wp2_with fail;refine ar [0,1,2,3,4,5,6,7,8,9,10,11,12,13] (by kernel_rfl) (by kernel_rfl) (fun _ d _ _ _ h=>by cases d<;>exact h) ?_;simp only[atR];have hdr:Below wr.heap.size wr wr.drew:=(Below.refl _ _).drew;have HB3:=hid (HB.out.trans (hdr.mono HB.out.size));have HK3:=hid (HK.out.below hdr);clear hdr HB HK;generalize wr.drew=w3 at *;have u1:=aa (B:=w3.heap.size) (w:=w3) HK3.out.g7 HK3.out.lt;first|with_reducible refine ac ?_ |with_reducible refine ab ?_ |refine ac ?_ |refine ab ?_
    simp only[List.takeWhile,List.dropWhile,ai,Nat.reduceBNe];repeat(go_big_quiet_step (fail))
    first|with_reducible refine wpQuiet_nil ?_ |refine wpQuiet_nil ?_
    first|with_reducible refine ah ?_ (fun K hK=> ?_)|with_reducible refine af ?_ (fun K hK=> ?_)|refine ah ?_ (fun K hK=> ?_)|refine af ?_ (fun K hK=> ?_)
    ·rfl
    go_simp
    refine hK _ _ (Below.refl _ _) ?_;clear hK K;try simp only[Act.put]
    first|with_reducible refine ac ?_ |with_reducible refine ab ?_ |refine ac ?_ |refine ab ?_
    simp only[List.takeWhile,List.dropWhile,ai,Nat.reduceBNe];repeat(go_big_quiet_step (fail))
    first|with_reducible refine wpQuiet_nil ?_ |refine wpQuiet_nil ?_
    unfold aF;clear u1;go_wp2_with fail;go_ret;exact⟨by rw[HE.out]<;>rfl,HB3.out⟩
   have d1:decide (m.round<0)=false:=decide_eq_false h0;have H0:=hid h0;clear h0;go_wp2_with fail;refine ar [0,1,2,3,4,5,6,7,8,9,10,11,12,13] (by kernel_rfl) (by kernel_rfl) (fun _ d _ _ _ h=>by cases d<;>exact h) ?_;simp only[atR];have hdr:Below wr.heap.size wr wr.drew:=(Below.refl _ _).drew;have HB3:=hid (HB.out.trans (hdr.mono HB.out.size));have HK3:=hid (HK.out.below hdr);clear hdr HB HK;generalize wr.drew=w3 at *;have u1:=aa (B:=w3.heap.size) (w:=w3) HK3.out.g7 HK3.out.lt;first|with_reducible refine ac ?_ |with_reducible refine ab ?_ |refine ac ?_ |refine ab ?_
   simp only[List.takeWhile,List.dropWhile,ai,Nat.reduceBNe];repeat(go_big_quiet_step (fail))
   first|with_reducible refine wpQuiet_nil ?_ |refine wpQuiet_nil ?_
   clear u1;first|with_reducible refine ah ?_ (fun K hK=> ?_)|with_reducible refine af ?_ (fun K hK=> ?_)|refine ah ?_ (fun K hK=> ?_)|refine af ?_ (fun K hK=> ?_)
   ·rfl
   go_simp
   refine(HMO.out w3).mono ?_;rintro q u ⟨rfl,hw⟩;refine hK _ _ (hw▸Below.refl _ _) ?_;clear hK K;try simp only[Act.put]
   replace hw:=hw.symm;subst hw;rw[HBI.out.2.2.2];obtain⟨lim,hlim⟩: ∃x:Int,x=if bs m.kind=true then 1099511627776 else 0:=⟨_,rfl⟩
   rw[←hlim];have HLM:=hid hlim;clear hlim;by_cases h1:m.round≤lim
   ·have d2:decide (m.round>lim)=false:=decide_eq_false (by omega);have HN:Hid (cC m.round (bs m.kind)=true):=hid (by rw[HX.out,decide_eq_true (p:=0≤m.round) (by have:=H0.out;omega),←HLM.out,decide_eq_true h1];rfl);clear h1;first|with_reducible refine ac ?_ |with_reducible refine ab ?_ |refine ac ?_ |refine ab ?_
    simp only[List.takeWhile,List.dropWhile,ai,Nat.reduceBNe];repeat(go_big_quiet_step (fail))
    first|with_reducible refine wpQuiet_nil ?_ |refine wpQuiet_nil ?_
    unfold aF;go_wp2_with fail
    go_roundw
    case rel=>exact⟨4,by go_num,by omega,hid (by show(_ && _)=true;rw[Bool.and_eq_true];exact⟨HM.out,HN.out⟩),HB3,HK3⟩
    case measure=>simp[intOf]
   ·have d2:decide (m.round>lim)=true:=decide_eq_true (by omega);have HN:Hid (cC m.round (bs m.kind)=false):=hid (by rw[HX.out,←HLM.out,decide_eq_false h1];simp);have HE:Hid (r=false):=hid (by rw[HR.out];unfold cI;rw[HN.out];simp);clear h1;first|with_reducible refine ac ?_ |with_reducible refine ab ?_ |refine ac ?_ |refine ab ?_
    simp only[List.takeWhile,List.dropWhile,ai,Nat.reduceBNe];repeat(go_big_quiet_step (fail))
    first|with_reducible refine wpQuiet_nil ?_ |refine wpQuiet_nil ?_
    unfold aF;go_wp2_with fail;go_ret;exact⟨by rw[HE.out]<;>rfl,HB3.out⟩
  ·have HE:Hid (r=true):=hid (by rw[HR.out];exact HM.out);go_wp2_with fail;go_ret;exact⟨by rw[HE.out]<;>rfl,HB.out⟩
theorem pf (c:Bool)(w:World):Calls Tryz.prog 65 #[.bool c] w fun r w'=>r= .returned (.int .u8 (if c then 1 else 0))∧w'=w:=by
 cases c
 ·go_enter Tryz.func65,Tryz.ntmps65;go_wp2_with fail;go_ret;exact⟨rfl,rfl⟩
 ·go_enter Tryz.func65,Tryz.ntmps65;go_wp2_with fail;go_ret;exact⟨rfl,rfl⟩
def j8 (g:Nat):Array Value:= #[.pointer (some ⟨g,0,none⟩),.pointer (some ⟨g,1,none⟩),.pointer (some ⟨g,2,none⟩)]
theorem kj (g:Nat)(w:World):Calls Tryz.prog 61 #[.pointer (some ⟨g,0,none⟩)] w fun r w'=>r= .returned (.agg (j8 g))∧Below w.heap.size w w':=by
 go_enter Tryz.func61,Tryz.ntmps61;go_wp2_with fail
 go_region
 have hbx:(w.alloc (.cells (j8 g) 93)).drew.heap[w.heap.size]? =some (.cells (j8 g) 93 (0,0)):=heap_alloc_new w _;have hb:Below w.heap.size w (w.alloc (.cells (j8 g) 93)).drew:=((Below.refl _ _).alloc (Nat.le_refl _) _).drew;unfold j8 at *;go_wp2_with fail;refine bodyPost_ret (results_cell_row rfl _ _ w.heap.size 93 _ (0,0) _ rfl hbx Tryz.underlying93 rfl (by kernel_rfl)) rfl ?_;exact⟨rfl,hb⟩
theorem wC (a b c:Value)(w:World):(Instr.index 93 (.agg #[a,b,c]) (.int .i64 0)).run Tryz.prog w= .ok a w:=by kernel_rfl
theorem wG (a b c:Value)(w:World):(Instr.index 93 (.agg #[a,b,c]) (.int .i64 1)).run Tryz.prog w= .ok b w:=by kernel_rfl
theorem wL (a b c:Value)(w:World):(Instr.index 93 (.agg #[a,b,c]) (.int .i64 2)).run Tryz.prog w= .ok c w:=by kernel_rfl
end Go.Proofs.YtgfidiocmiolpaaGreat
/- A number's code, put behind the bytes that a variable holds. -/
namespace Go.Proofs.YtgfidiocmiolpaaGreat
open Lib (hid)
open Go.RowKit Go.Joins
theorem fo {o:Oper}{a:Act}{w:World}{K:Act→World→Prop}{Q:Exit→Act→World→Prop}(ty:TypeId)(x y:Operand)(ho:o.op= .store ty x y)(hd:o.dst=none)
  (g off:Nat) (hx:a.eval x= .pointer (some ⟨g,off,none⟩)) (v:Value) (cells:Array Value) (hy:a.eval y=v) (hc:v.cells=cells) (C C':Array Value) (t:TypeId) (hg:w.heap[g]? =some (.cells C t (0,0))) (hn:off+cells.size≤C.size)
  (hi:(Tryz.prog.info? ty).map (·.size)=some cells.size) (h1:cells.all (·.oneCell')=true) (hC:dm C off cells.toList=C')
  (h: ∀w',w'.heap[g]? =some (.cells C' t (0,0))→aJ w w' g→w'.heap.size=w.heap.size→K a w'):o.wp Tryz.prog a w K Q:=by
 have ht:w.there g off cells.size:=fun j hj=>⟨by
  rw[Go.Joins.cell_of_block hg (off+j),Array.getElem?_eq_getElem (by omega)];rfl,Go.Joins.unfrozen_of_block hg _⟩
 have e:=ex w g off ty v cells hc ht hi h1
 have hK':K (a.put o.dst undef) (w.setCells g off cells.toList):=by
  rw[hd];refine h _ ?_ ?_ ?_
  ·rw[←hC];exact gN _ _ _ hg
  ·obtain⟨q1,q2,q3,q4,q5⟩:=dI g cells.toList off w;exact⟨q1,q2,q3,by rw[q4];exact Nat.le_refl _,fun b _ hb=>q5 b (by intro e;apply hb;rw[e])⟩
  ·exact(dI g cells.toList off w).2.2.2.1
 unfold Oper.wp execOp;simp only[ho,hx,hy,Instr.storeAt,Instr.sureAddr,Sem.run_bind,Sem.run_pure,Result.andThen_ok,e];exact hK'
structure gW (B V:Nat)(w w':World):Prop where
 os:w'.os=w.os
 tape:w'.tape=w.tape
 output:w'.output=w.output
 size:w.heap.size≤w'.heap.size
 block: ∀b,b<B→b≠V→w'.heap[b]? =w.heap[b]?
theorem gW.trans {B V:Nat}{a b c:World}(h:gW B V a b)(k:gW B V b c):gW B V a c:=⟨k.os.trans h.os,k.tape.trans h.tape,k.output.trans h.output,Nat.le_trans h.size k.size,fun x hx hv=>(k.block x hx hv).trans (h.block x hx hv)⟩
theorem gW.of {B V:Nat}{a b:World}(h:Below B a b):gW B V a b:=⟨h.os,h.tape,h.output,h.size,fun x hx _=>h.block x hx⟩
theorem gW.only {B V:Nat}{a b:World}(h:aJ a b V)(hB:B≤a.heap.size):gW B V a b:=⟨h.os,h.tape,h.output,h.size,fun x hx hv=>h.block x (by omega) (by intro e;injection e with e;exact hv e)⟩
def hU (w:World)(B V:Nat)(l:List UInt8):Prop:= ∃v,w.heap[V]? =some (.cells #[v] 23 (0,0))∧aq w B v l
def wz (B V:Nat)(l:List UInt8)(w:World)(e:Ending)(w':World):Prop:=e= .returned (.tuple #[])∧hU w' B V l∧gW B V w w'
theorem aq.other {w w':World}{B V:Nat}{v:Value}{l:List UInt8}(h:aq w B v l)(hV:V<B)(ho:aJ w w' V):aq w' B v l:=
 nk h fun q hq=>by
  have:=World.ownsRow.lt h q hq;exact ho.block q this.2 (by intro e;injection e;omega)
theorem sJ (B V g i n:Nat)(t:TypeId)(cs:Array Value)(l:List UInt8)(w:World)(ht:t≠5)(hg:w.heap[g]? =some (.cells cs t (0,0)))(hx:cs[i]? =some (.int .i64 (n:Int)))(hv:hU w B V l)(hVB:V<B)(hB:B≤w.heap.size)(hn:n≤4611686018427387904)(hl:l.length≤140737488300000):
  Calls Tryz.prog 64 #[.pointer (some ⟨g,i,none⟩),.pointer (some ⟨V,0,none⟩)] w (wz B V (l++grp n) w):=by
 obtain⟨v,hv,ho⟩:=hv;obtain⟨w0,hw0⟩: ∃W,W=w.drew:=⟨_,rfl⟩;have hdr:Below w.heap.size w w0:=by rw[hw0];exact(Below.refl _ _).drew
 have ho0:aq w0 B v l:=ho.below hdr;have hB0:B≤w0.heap.size:=Nat.le_trans hB hdr.size;have hv0:w0.heap[V]? =some (.cells #[v] 23 (0,0)):=(hdr.block V (by omega)).trans hv;have hg0:w0.heap[g]? =some (.cells cs t (0,0)):=(hdr.block g (Array.getElem?_eq_some_iff.1 hg).1).trans hg;have x1:=b9 (w:=w0) (i:=0) hv0 (by decide) rfl;have x2:=b9 (w:=w0) (i:=i) hg0 ht hx;have hba:Below w0.heap.size w0 (w0.alloc (.cells #[.int .i64 (n:Int)] 3)):=ae _;have HC:=hid (dF B w0.heap.size 1 [n] v l (w0.alloc (.cells #[.int .i64 (n:Int)] 3)) (ho0.below hba) (Nat.le_trans hB0 hba.size) (fI.new w0 [n]) (by intro k hk;simp at hk;omega) (by simp;omega));have HBA:=hid hba;have hgl:gl [n]=grp n:=by unfold gl;simp
 rw[hgl]at HC;have HD:=hid hdr;have HV:=hid (And.intro hv0 (And.intro hVB hB0));obtain⟨A,c,rfl⟩:=ho.slice;have HW:=hid hB;clear hba hgl ho ho0 hB0 hv0 hg0 hv hg hx ht hdr hVB hB hn hl;go_enter Tryz.func64,Tryz.ntmps64;go_wp2_with fail;refine bT K8 (fun _=>Lib.OthersKept.refl _ _ _) (fun _ _ _ h k=>h.trans k) [6] (.pure [0,1,2,3] (.step 4 (.step 5 (.tail [6])))) (by kernel_rfl) (by kernel_rfl) (fun _ d _ _ _ h=>by cases d<;>exact h) ?_;rw[←hw0];clear hw0;refine eH ?_;simp only[atR];show wpQuiet _ _ _ _ [_,_,_,_] _;try simp only[acR,Act.put]at *
 repeat(go_big_quiet_step (fail))
 first|with_reducible refine wpQuiet_nil ?_ |refine wpQuiet_nil ?_
 clear x1 x2;refine bu rfl (fun K hK=> ?_)
 go_simp
 refine hK _ _ (.inr (az (ae _))) ?_;clear hK K;refine bu rfl (fun K hK=> ?_)
 go_simp
 refine HC.out.mono ?_;rintro e w2 ⟨v',rfl,hv2,hb2,hk2⟩;refine hK _ _ (.inr hk2) ?_;clear hK K;have HO2:=hid hv2;have HB2:=hid ((HBA.out.mono HV.out.2.2).trans hb2);have hv3:w2.heap[V]? =some (.cells #[.slice A l.length c] 23 (0,0)):=((az HBA.out).trans hk2) V _ HV.out.1 (fun h=>by cases h) (fun c fz h=>by injection h with _ h;exact absurd h (by decide));have HV3:=hid hv3;obtain⟨A',c',hs⟩:=hv2.slice;have hcl:v'.cells= #[v']:=by rw[hs];rfl
 have hoc:(#[v']:Array Value).all (·.oneCell')=true:=by rw[hs];simp[Value.oneCell']
 clear hv2 hb2 hk2 hv3 hs HC;refine j1 rfl (fun K hK=> ?_);rw[if_pos (dX rfl)];refine fo 23 _ _ rfl rfl V 0 rfl v' #[v'] rfl hcl _ #[v'] 23 HV3.out (by simp) (by kernel_rfl) hoc rfl (fun w3 h3 ho3 hz3=> ?_);refine hK _ _ ?_;clear hK K;have hfin:wz B V (l++grp n) w (.returned (.tuple #[])) w3:=⟨rfl,⟨v',h3,HO2.out.other HV.out.2.1 ho3⟩,((gW.of (HD.out.mono HW.out)).trans (gW.of HB2.out)).trans (gW.only ho3 (Nat.le_trans HV.out.2.2 HB2.out.size))⟩;have HF:=hid hfin;clear hfin h3 ho3 hz3 hcl hoc HO2 HB2 HV3 HV HD;refine eJ ?_;go_wp2_with fail
 go_end0
 exact HF.out
def bZ (l f:Int):Bool:=bits .and .i64 l f != 0
theorem mX (f:Nat)(caps:Array Value)(hcf0:dp f)(g:Nat)(l:Int)(I:Nat→World→Prop)(w:World)
  (hkeep: ∀j w w',I j w→Below w.heap.size w w'→I j w')
  (hno: ∀j w,j<4→bZ l (2 ^ j:Nat)=false→I j w→I (j+1) w)
  (hyes: ∀j w,j<4→bZ l (2 ^ j:Nat)=true→I j w→Calls Tryz.prog f (#[.pointer (some ⟨g,4+j,none⟩)]++caps) w fun e w'=>e= .returned (.tuple #[])∧I (j+1) w')
  (h0:I 0 w):Calls Tryz.prog 63 #[.int .i64 l,.pointer (some ⟨g,0,none⟩),.func (.func f) #[] caps] w fun e w'=>e= .returned (.tuple #[])∧I 4 w':=by
 have hcf: ∀(args:Array Value) (W:World),(callFunc f args).run Tryz.prog W= .ok (.enter f args) W:=hcf0;have HKP:=hid hkeep;have HNO:=hid hno;have HYES:=hid hyes;have H0:=hid h0;clear hkeep hno hyes h0;go_enter Tryz.func63,Tryz.ntmps63;go_wp2_with fail;refine(iR g w).mono ?_;rintro e w1 ⟨rfl,hb⟩;have H1:=hid (HKP.out _ _ _ H0.out hb);clear hb H0;unfold pJ;go_wp2_with fail
 go_loopw [10] (fun i wr=> ∃j:Nat,i= .int .i64 j∧j≤4∧Hid (I j wr)) (fun i _=>4 - (intOf i).toNat)
 case atStart=>exact⟨0,rfl,by omega,H1⟩
 case round=>
  clear H1;obtain⟨j,rfl,hj,HI⟩:=hrel;obtain rfl|rfl|rfl|rfl|rfl:j=0∨j=1∨j=2∨j=3∨j=4:=by omega
  ·have hix:=v8 (.pointer (some ⟨g,4,none⟩)) (.pointer (some ⟨g,5,none⟩)) (.pointer (some ⟨g,6,none⟩)) (.pointer (some ⟨g,7,none⟩)) wr;obtain⟨c,hc⟩: ∃c,c=bZ l ((2 ^ 0:Nat):Int):=⟨_,rfl⟩;have hm:=ch l 1 wr;rw[show(bits .and .i64 l 1 != 0)=c from hc.symm]at hm;have HM:=hid hm;clear hm
   cases c with
   |true=>
    have HC:=hid (HYES.out 0 wr (by omega) hc.symm HI.out);clear hc HI;go_wp2_with fail;refine HM.out.mono ?_;rintro e w2 ⟨rfl,rfl⟩;go_wp2_with fail;refine HC.out.mono ?_;rintro e w3 ⟨rfl,h3⟩;have HI3:=hid h3;clear h3 HC HM hix;go_wp2_with fail
    go_roundw
    case rel=>exact⟨1,by go_num,by omega,HI3⟩
    case measure=>simp[intOf]
   |false=>
    have HI3:=hid (HNO.out 0 wr (by omega) hc.symm HI.out);clear hc HI;go_wp2_with fail;refine HM.out.mono ?_;rintro e w2 ⟨rfl,rfl⟩;clear HM hix;go_wp2_with fail
    go_roundw
    case rel=>exact⟨1,by go_num,by omega,HI3⟩
    case measure=>simp[intOf]
  ·have hix:=vW (.pointer (some ⟨g,4,none⟩)) (.pointer (some ⟨g,5,none⟩)) (.pointer (some ⟨g,6,none⟩)) (.pointer (some ⟨g,7,none⟩)) wr;obtain⟨c,hc⟩: ∃c,c=bZ l ((2 ^ 1:Nat):Int):=⟨_,rfl⟩;have hm:=ch l 2 wr;rw[show(bits .and .i64 l 2 != 0)=c from hc.symm]at hm;have HM:=hid hm;clear hm
   cases c with
   |true=>
    have HC:=hid (HYES.out 1 wr (by omega) hc.symm HI.out);clear hc HI;go_wp2_with fail;refine HM.out.mono ?_;rintro e w2 ⟨rfl,rfl⟩;go_wp2_with fail;refine HC.out.mono ?_;rintro e w3 ⟨rfl,h3⟩;have HI3:=hid h3;clear h3 HC HM hix;go_wp2_with fail
    go_roundw
    case rel=>exact⟨2,by go_num,by omega,HI3⟩
    case measure=>simp[intOf]
   |false=>
    have HI3:=hid (HNO.out 1 wr (by omega) hc.symm HI.out);clear hc HI;go_wp2_with fail;refine HM.out.mono ?_;rintro e w2 ⟨rfl,rfl⟩;clear HM hix;go_wp2_with fail
    go_roundw
    case rel=>exact⟨2,by go_num,by omega,HI3⟩
    case measure=>simp[intOf]
  ·have hix:=vY (.pointer (some ⟨g,4,none⟩)) (.pointer (some ⟨g,5,none⟩)) (.pointer (some ⟨g,6,none⟩)) (.pointer (some ⟨g,7,none⟩)) wr;obtain⟨c,hc⟩: ∃c,c=bZ l ((2 ^ 2:Nat):Int):=⟨_,rfl⟩;have hm:=ch l 4 wr;rw[show(bits .and .i64 l 4 != 0)=c from hc.symm]at hm;have HM:=hid hm;clear hm
   cases c with
   |true=>
    have HC:=hid (HYES.out 2 wr (by omega) hc.symm HI.out);clear hc HI;go_wp2_with fail;refine HM.out.mono ?_;rintro e w2 ⟨rfl,rfl⟩;go_wp2_with fail;refine HC.out.mono ?_;rintro e w3 ⟨rfl,h3⟩;have HI3:=hid h3;clear h3 HC HM hix;go_wp2_with fail
    go_roundw
    case rel=>exact⟨3,by go_num,by omega,HI3⟩
    case measure=>simp[intOf]
   |false=>
    have HI3:=hid (HNO.out 2 wr (by omega) hc.symm HI.out);clear hc HI;go_wp2_with fail;refine HM.out.mono ?_;rintro e w2 ⟨rfl,rfl⟩;clear HM hix;go_wp2_with fail
    go_roundw
    case rel=>exact⟨3,by go_num,by omega,HI3⟩
    case measure=>simp[intOf]
  ·have hix:=wa (.pointer (some ⟨g,4,none⟩)) (.pointer (some ⟨g,5,none⟩)) (.pointer (some ⟨g,6,none⟩)) (.pointer (some ⟨g,7,none⟩)) wr;obtain⟨c,hc⟩: ∃c,c=bZ l ((2 ^ 3:Nat):Int):=⟨_,rfl⟩;have hm:=ch l 8 wr;rw[show(bits .and .i64 l 8 != 0)=c from hc.symm]at hm;have HM:=hid hm;clear hm
   cases c with
   |true=>
    have HC:=hid (HYES.out 3 wr (by omega) hc.symm HI.out);clear hc HI;go_wp2_with fail;refine HM.out.mono ?_;rintro e w2 ⟨rfl,rfl⟩;go_wp2_with fail;refine HC.out.mono ?_;rintro e w3 ⟨rfl,h3⟩;have HI3:=hid h3;clear h3 HC HM hix;go_wp2_with fail
    go_roundw
    case rel=>exact⟨4,by go_num,by omega,HI3⟩
    case measure=>simp[intOf]
   |false=>
    have HI3:=hid (HNO.out 3 wr (by omega) hc.symm HI.out);clear hc HI;go_wp2_with fail;refine HM.out.mono ?_;rintro e w2 ⟨rfl,rfl⟩;clear HM hix;go_wp2_with fail
    go_roundw
    case rel=>exact⟨4,by go_num,by omega,HI3⟩
    case measure=>simp[intOf]
  ·go_wp2_with fail
   go_end0
   exact⟨rfl,HI.out⟩
end Go.Proofs.YtgfidiocmiolpaaGreat
