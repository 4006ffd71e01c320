/- Encode: the code of any message. -/
import Derived.Test.YtgfidiocmiolpaaGreatKMgL
import Derived.Test.YtgfidiocmiolpaaGreatKFive
import Derived.Test.YtgfidiocmiolpaaGreatKRefM
import Derived.Test.YtgfidiocmiolpaaGreatKCpA
import Derived.Test.YtgfidiocmiolpaaGreatKTrH
import Derived.Test.YtgfidiocmiolpaaGreatKEnV
import Derived.Test.YtgfidiocmiolpaaGreatKLook
import Derived.Test.YtgfidiocmiolpaaGreatKCodP
import Derived.Test.YtgfidiocmiolpaaGreatKEnT
import Derived.Test.YtgfidiocmiolpaaGreatKDlV
import Derived.Test.YtgfidiocmiolpaaGreatKCodG
import Derived.Test.YtgfidiocmiolpaaGreatKValB
import Derived.Maps.AppendAt
set_option maxHeartbeats 64000000
set_option maxRecDepth 100000
set_option linter.unusedVariables false
set_option linter.unusedSimpArgs false
namespace Go.Proofs.YtgfidiocmiolpaaGreat
open Lib (hid)
open Go.RowKit Go.Joins
theorem sR {e:aU}(hm:bJ e=true)(hd:SmE e):(dV e).length≤134520000:=by
 have h:=mA hm hd;have h1:=(al e.term.toNat).1;have h2:=(al e.session.toNat).1;have h3:=(al e.number.toNat).1;have h4:=h.coll;have h5:=h.to;have h6:=h.id;have h7:=h.doc
 have h8:(if aW e.kind=true then ck e.dels else []).length≤134500000:=by
  split
  ·next hk=>exact(h.dels hk).2
  ·simp
 have h9:(if aP e.kind=true then txt e.coll else []).length≤1011:=by split<;>simp_all
 have h10:(if bW e.kind=true then txt e.to else []).length≤1011:=by split<;>simp_all
 have h11:(if bY e.kind=true then dz e.id else []).length≤4096:=by split<;>simp_all
 have h12:(if bt e.kind=true then dz e.doc else []).length≤4096:=by split<;>simp_all
 unfold dV;simp only[List.length_append,List.length_cons,List.length_nil];omega
theorem mU : ∀l:List aU,(∀e∈l,bJ e=true)→(∀e∈l,SmE e)→(cj l).length≤134520000 * l.length
 | [],_,_=>by simp[cj]
 |e::r,h1,h2=>by
  have h:=mU r (fun x hx=>h1 x (List.mem_cons_of_mem _ hx)) (fun x hx=>h2 x (List.mem_cons_of_mem _ hx));have h3:=sR (h1 e List.mem_cons_self) (h2 e List.mem_cons_self);unfold cj at *;rw[List.map_cons,List.flatten_cons,List.length_append,List.length_cons];omega
theorem jY {x:Int}{b:Bool}(h:cC x b=true):0≤x∧x≤4611686018427387904:=by
 unfold cC at h;simp only[Bool.and_eq_true,decide_eq_true_eq]at h;refine⟨h.1,Int.le_trans h.2 ?_⟩
 split<;>omega
structure xd (m:aQ):Prop where
 k:0≤m.kind∧m.kind≤255
 f:0≤m.frm∧m.frm≤255
 t:0≤m.tgt∧m.tgt≤255
 e:1≤m.term∧m.term≤1099511627776
 n: ∀j,j<4→0≤em m j∧em m j≤4611686018427387904
 may: ∀e∈m.ents,bJ e=true
 len:m.ents.length≤8
 snap:m.snap.length≤65536
theorem fw {m:aQ}(h:bK m=true):xd m:=by
 unfold bK at h;simp only[Bool.and_eq_true,decide_eq_true_eq]at h;obtain⟨⟨⟨⟨⟨h1,h2⟩,h3⟩,h4⟩,h5⟩,h6⟩:=h;unfold eq at h1;unfold fY gb at h2;unfold cI at h5;unfold gQ at h6;simp only[Bool.and_eq_true,decide_eq_true_eq]at h1 h2 h5 h6;obtain⟨⟨⟨⟨-,q2⟩,q3⟩,-⟩,q5⟩:=h6;refine⟨by omega,by omega,by omega,⟨h3,h4⟩,fun j hj=> ?_,fun e he=>List.all_eq_true.1 q5 e he,?_,?_⟩
 ·obtain rfl|rfl|rfl|rfl:j=0∨j=1∨j=2∨j=3:=by omega
  ·exact jY h5.1.1.1
  ·exact jY h5.1.1.2
  ·exact jY h5.1.2
  ·exact jY h5.2
 ·refine Nat.le_trans q2 ?_
  split<;>omega
 ·refine Nat.le_trans q3 ?_
  split<;>omega
def lD (m:aQ):List UInt8:=if bK m=true then fT m else []
def jP (m:aQ):Int:=if bK m=true then 0 else 1
def xj (m:aQ)(w:World)(q:Ending)(w':World):Prop:= ∃v,q= .returned (.tuple #[v,.int .i64 (jP m)])∧aq w' w.heap.size v (lD m)∧Below w.heap.size w w'
theorem eD (m:aQ)(EA:Option Addr)(ec:Nat)(SA:Option Addr)(sc:Nat)(w:World)(h:aT w (fun b=>b<w.heap.size) m EA ec SA sc)(hd: ∀e∈m.ents,SmE e)(hpe:bK m=true→jH m EA ec):
  Calls Tryz.prog 13 #[.agg #[.int .i64 m.kind,.int .i64 m.frm,.int .i64 m.tgt,.int .i64 m.term,.int .i64 m.index,.int .i64 m.logTerm,.int .i64 m.commit,.int .i64 m.round,.bool m.ok,.slice EA m.ents.length ec,.slice SA m.snap.length sc]] w (xj m w):=by
 obtain⟨w1,hw1⟩: ∃W,W=w.alloc (.cells #[.int .i64 m.kind,.int .i64 m.frm,.int .i64 m.tgt,.int .i64 m.term,.int .i64 m.index,.int .i64 m.logTerm,.int .i64 m.commit,.int .i64 m.round,.bool m.ok,.slice EA m.ents.length ec,.slice SA m.snap.length sc] 25):=⟨_,rfl⟩;have hb1:Below w.heap.size w w1:=by rw[hw1];exact ae _
 have HB1:=hid hb1;have HK1:Hid (bx w1 w.heap.size m EA ec SA sc):=hid (by rw[hw1];exact heap_alloc_new w _);have HM:=hid (iE (fun b=>b<w1.heap.size) m EA ec SA sc w1 (fun b hb=>hb) (h.up hb1) hd)
 have HP:=hid (fun(w2:World) (hm:bK m=true) (hb:Below w.heap.size w w2)=>
  have f:=fw hm
  tD m EA ec SA sc w2 f.k f.f f.t m.term.toNat (by have:=f.e;omega) (by have:=f.e;omega) (fun j hj _=>f.n j hj) (h.up hb) (hpe hm) f.snap)
 clear hb1 h hd hpe;go_enter Tryz.func13,Tryz.ntmps13;go_wp2_with fail;rw[←hw1];clear hw1;go_wp2_with(refine ap (by rfl) _ rfl w.heap.size rfl _ _ HK1.out rfl ?_;simp only[acR,Act.put]);refine HM.out.mono ?_;rintro q w2 ⟨rfl,hb⟩;have HK2:=hid (HK1.out.below hb);have HB2:=hid (HB1.out.trans (hb.mono HB1.out.size));clear HM hb HB1 HK1
 cases hm:bK m with
 |false=>
  have HF:Hid (lD m= []∧jP m=1):=hid ⟨by unfold lD;rw[hm];rfl,by unfold jP;rw[hm];rfl⟩;clear hm HP;go_wp2_with fail
  go_ret2
  exact⟨_,by rw[HF.out.2];rfl,by rw[HF.out.1];exact World.ownsRow_nil _ _ _ _,HB2.out⟩
 |true=>
  have HF:Hid (lD m=fT m∧jP m=0):=hid ⟨by unfold lD;rw[if_pos hm],by unfold jP;rw[if_pos hm]⟩;have HP2:=hid (HP.out w2 hm HB2.out);clear hm HP;go_wp2_with(refine ap (by rfl) _ rfl w.heap.size rfl _ _ HK2.out rfl ?_;simp only[acR,Act.put]);refine HP2.out.mono ?_;rintro q w3 ⟨v,rfl,ho,hb⟩;have HO:=hid ho;have HB3:=hid (HB2.out.trans (hb.mono HB2.out.size));have HZ:=hid HB2.out.size;clear ho hb;go_wp2_with fail
  go_ret2
  exact⟨_,by rw[HF.out.2];rfl,by rw[HF.out.1];exact HO.out.base HZ.out,HB3.out⟩
theorem mj {m:aQ}(EA:Option Addr)(ec:Nat)(hd: ∀e∈m.ents,SmE e)(hm:bK m=true):jH m EA ec:=
 have f:=fw hm
 sI m EA ec hd f.may f.len (by have:=mU m.ents f.may hd;have:=f.len;omega)
def iy (a b:aQ):Bool:=decide (jP a=0) && decide (lD a=lD b)
theorem ma (a b:aQ)(EA:Option Addr)(ec:Nat)(SA:Option Addr)(sc:Nat)(FA:Option Addr)(fc:Nat)(TA:Option Addr)(tc:Nat)(w:World)(h:aT w (fun b=>b<w.heap.size) a EA ec SA sc)(k:aT w (fun b=>b<w.heap.size) b FA fc TA tc)(ha: ∀e∈a.ents,SmE e)(hb: ∀e∈b.ents,SmE e)(hpa:bK a=true→jH a EA ec)(hpb:bK b=true→jH b FA fc):
  Calls Tryz.prog 17 #[.agg #[.int .i64 a.kind,.int .i64 a.frm,.int .i64 a.tgt,.int .i64 a.term,.int .i64 a.index,.int .i64 a.logTerm,.int .i64 a.commit,.int .i64 a.round,.bool a.ok,.slice EA a.ents.length ec,.slice SA a.snap.length sc],.agg #[.int .i64 b.kind,.int .i64 b.frm,.int .i64 b.tgt,.int .i64 b.term,.int .i64 b.index,.int .i64 b.logTerm,.int .i64 b.commit,.int .i64 b.round,.bool b.ok,.slice FA b.ents.length fc,.slice TA b.snap.length tc]] w fun q w'=>q= .returned (.bool (iy a b))∧Below w.heap.size w w':=by
 obtain⟨w1,hw1⟩: ∃W,W=w.alloc (.cells #[.int .i64 a.kind,.int .i64 a.frm,.int .i64 a.tgt,.int .i64 a.term,.int .i64 a.index,.int .i64 a.logTerm,.int .i64 a.commit,.int .i64 a.round,.bool a.ok,.slice EA a.ents.length ec,.slice SA a.snap.length sc] 25):=⟨_,rfl⟩;obtain⟨w2,hw2⟩: ∃W,W=w1.alloc (.cells #[.int .i64 b.kind,.int .i64 b.frm,.int .i64 b.tgt,.int .i64 b.term,.int .i64 b.index,.int .i64 b.logTerm,.int .i64 b.commit,.int .i64 b.round,.bool b.ok,.slice FA b.ents.length fc,.slice TA b.snap.length tc] 25):=⟨_,rfl⟩;have hb1:Below w.heap.size w w1:=by rw[hw1];exact ae _
 have hb2:Below w1.heap.size w1 w2:=by rw[hw2];exact ae _
 have hz1:w1.heap.size=w.heap.size+1:=by rw[hw1];simp
 have HK1:Hid (bx w2 w.heap.size a EA ec SA sc):=hid ((hb2.block _ (by omega)).trans (by rw[hw1];exact heap_alloc_new w _));have HK2:Hid (bx w2 (w.heap.size+1) b FA fc TA tc):=hid (by rw[←hz1,hw2];exact heap_alloc_new w1 _);have HB2:Hid (Below w.heap.size w w2):=hid (hb1.trans (hb2.mono (by omega)));have HEA:=hid (fun(u:World) (hu:Below w.heap.size w u)=>eD a EA ec SA sc u (h.up hu) ha hpa);have HEB:=hid (fun(u:World) (hu:Below w.heap.size w u)=>eD b FA fc TA tc u (k.up hu) hb hpb);have HZ1:=hid hz1;have HZ2:Hid (w.heap.size+1<w2.heap.size):=hid (by rw[hw2];simp;omega);clear hb1 hb2 hz1 h k ha hb hpa hpb;go_enter Tryz.func17,Tryz.ntmps17;go_wp2_with fail;rw[←hw1,←hw2];clear hw1 hw2;go_wp2_with(refine ap (by rfl) _ rfl w.heap.size rfl _ _ HK1.out rfl ?_;simp only[acR,Act.put]);refine(HEA.out _ HB2.out).mono ?_;rintro q w3 ⟨v,rfl,ho,hb⟩;have HO3:=hid ho;have HB3:=hid (HB2.out.trans (hb.mono HB2.out.size));have HK3:=hid (HK2.out.below hb);clear ho hb HK2 HK1 HEA;go_wp2_with(refine ap (by rfl) _ rfl (w.heap.size+1) rfl _ _ HK3.out rfl ?_;simp only[acR,Act.put]);refine(HEB.out _ HB3.out).mono ?_;rintro q w4 ⟨v2,rfl,ho,hb⟩;have HO4:=hid (And.intro (HO3.out.below hb) ho);have HB4:=hid (HB3.out.trans (hb.mono HB3.out.size));clear ho hb HO3 HB3 HEB;by_cases h0:jP a=0
 ·have HE:=hid h0;rw[h0];go_wp2_with fail;refine(pt _ _ _ _ _ _ _ HO4.out.1.rdY HO4.out.2.rdY).mono ?_;rintro q u ⟨rfl,hw⟩;subst hw;go_wp2_with fail;go_ret;exact⟨by unfold iy;rw[HE.out];rfl,HB4.out⟩
 ·have h1:(jP a == 0)=false:=beq_false_of_ne h0;have HE:=hid h0;go_wp2_with fail;go_ret;exact⟨by unfold iy;rw[decide_eq_false HE.out];rfl,HB4.out⟩
theorem lO (a b:aQ)(EA:Option Addr)(ec:Nat)(SA:Option Addr)(sc:Nat)(FA:Option Addr)(fc:Nat)(TA:Option Addr)(tc:Nat)(w:World)(h:aT w (fun b=>b<w.heap.size) a EA ec SA sc)(k:aT w (fun b=>b<w.heap.size) b FA fc TA tc)(ha: ∀e∈a.ents,SmE e)(hb: ∀e∈b.ents,SmE e):
  Calls Tryz.prog 17 #[.agg #[.int .i64 a.kind,.int .i64 a.frm,.int .i64 a.tgt,.int .i64 a.term,.int .i64 a.index,.int .i64 a.logTerm,.int .i64 a.commit,.int .i64 a.round,.bool a.ok,.slice EA a.ents.length ec,.slice SA a.snap.length sc],.agg #[.int .i64 b.kind,.int .i64 b.frm,.int .i64 b.tgt,.int .i64 b.term,.int .i64 b.index,.int .i64 b.logTerm,.int .i64 b.commit,.int .i64 b.round,.bool b.ok,.slice FA b.ents.length fc,.slice TA b.snap.length tc]] w fun q w'=>q= .returned (.bool (iy a b))∧Below w.heap.size w w':=ma a b EA ec SA sc FA fc TA tc w h k ha hb (mj EA ec ha) (mj FA fc hb)
def fQ (st:Option (List UInt8)):Bool×Option (List UInt8):=(decide ((av st).1=1),if 1<(av st).1 then none else(av st).2)
theorem lh {a b c:World}{g:Nat}(h:aJ a b g)(k:aJ b c g):aJ a c g:=
 ⟨k.os.trans h.os,k.tape.trans h.tape,k.output.trans h.output,Nat.le_trans h.size k.size,fun i hi hg=>(k.block i (Nat.lt_of_lt_of_le hi h.size) hg).trans (h.block i hi hg)⟩
theorem om (g:Nat)(st:Option (List UInt8))(w:World)(h:cm w g st):
  Calls Tryz.prog 71 #[.pointer (some ⟨g,0,none⟩)] w fun e w'=>e= .returned (.bool (fQ st).1)∧cm w' g (fQ st).2∧aJ w w' g:=by
 have HB:=hid (mC g st w h);obtain⟨n,hn⟩: ∃n:Nat,n=(av st).1:=⟨_,rfl⟩;have HE:Hid (fQ st=(decide (n=1),if 1<n then none else(av st).2)):=hid (by rw[hn];rfl);rw[←hn]at HB;clear h hn;go_enter Tryz.func71,Tryz.ntmps71;go_wp2_with fail;refine HB.out.mono ?_;rintro e w1 ⟨rfl,hs,ho⟩;have HS:=hid hs;have HO:=hid ho;clear hs ho HB;by_cases h1:1<n
 ·have HC:=hid (su g _ w1 HS.out);go_wp2_with fail;refine HC.out.mono ?_;rintro e w2 ⟨rfl,hs2,ho2⟩;have HS2:=hid hs2;have HO2:=hid (lh HO.out ho2);clear hs2 ho2 HC;go_wp2_with fail;go_ret;refine⟨?_,?_,HO2.out⟩
  ·rw[HE.out];show Ending.returned (Value.bool ((n:Int) == 1))=Ending.returned (Value.bool (decide (n=1)));rw[show((n:Int) == 1)=decide (n=1) from by rw[Bool.eq_iff_iff];simp;omega]
  ·rw[HE.out];simp only[h1,if_true];exact HS2.out
 ·go_wp2_with fail;go_ret;refine⟨?_,?_,HO.out⟩
  ·rw[HE.out];show Ending.returned (Value.bool ((n:Int) == 1))=Ending.returned (Value.bool (decide (n=1)));rw[show((n:Int) == 1)=decide (n=1) from by rw[Bool.eq_iff_iff];simp;omega]
  ·rw[HE.out];simp only[h1,if_false];exact HS.out
structure jQ (g k:Nat)(w w':World):Prop where
 os:w'.os=w.os
 tape:w'.tape=w.tape
 output:w'.output=w.output
 size:w.heap.size≤w'.heap.size
 block: ∀b,b<w.heap.size→b≠g→b≠k→w'.heap[b]? =w.heap[b]?
theorem jQ.trans {g k:Nat}{a b c:World}(h:jQ g k a b)(i:jQ g k b c):jQ g k a c:=⟨i.os.trans h.os,i.tape.trans h.tape,i.output.trans h.output,Nat.le_trans h.size i.size,fun x hx h1 h2=>(i.block x (Nat.lt_of_lt_of_le hx h.size) h1 h2).trans (h.block x hx h1 h2)⟩
theorem jQ.one {g k:Nat}{a b:World}(h:aJ a b g):jQ g k a b:=⟨h.os,h.tape,h.output,h.size,fun x hx h1 _=>h.block x hx (by intro e;injection e with e;exact h1 e)⟩
theorem jQ.two {g k:Nat}{a b:World}(h:aJ a b k):jQ g k a b:=⟨h.os,h.tape,h.output,h.size,fun x hx _ h2=>h.block x hx (by intro e;injection e with e;exact h2 e)⟩
theorem ke {w w':World}{g p:Nat}(ho:aJ w w' g)(h:p<w.heap.size)(hne:p≠g):w'.heap[p]? =w.heap[p]? :=ho.block p h (by intro e;injection e with e;exact hne e)
theorem qB (g i V s:Nat)(t:TypeId)(cs:Array Value)(st:Option (List UInt8))(w:World)(hb:w.heap[g]? =some (.cells cs 25 (0,0)))(hi:i<cs.size)(hv:w.heap[V]? =some (.cells #[.pointer (some ⟨s,0,none⟩)] t (0,0)))(hs:cm w s st)(hgs:g≠s):
  Calls Tryz.prog 70 #[.pointer (some ⟨g,i,none⟩),.pointer (some ⟨V,0,none⟩)] w fun e w'=>e= .returned (.tuple #[])∧w'.heap[g]? =some (.cells (cs.setIfInBounds i (.int .i64 (aj 1099511627776 st).1)) 25 (0,0))∧cm w' s (aj 1099511627776 st).2∧jQ g s w w':=by
 have y0:w.cell? ⟨V,0,none⟩=some (.pointer (some ⟨s,0,none⟩)):=Go.Joins.cell_of_block hv 0;have HC:=hid (iq s st 1099511627776 w hs (by omega));have HG:=hid (And.intro hb (And.intro hi hgs));clear hb hi hv hs hgs;go_enter Tryz.func70,Tryz.ntmps70;go_wp2_with fail;refine HC.out.mono ?_;rintro e w1 ⟨rfl,hs1,ho1⟩;obtain⟨n,hn⟩: ∃n:Int,n=((aj 1099511627776 st).1:Int):=⟨_,rfl⟩;rw[←hn];have HN:=hid hn;clear hn;have hg1:w1.heap[g]? =some (.cells cs 25 (0,0)):=dh ho1 HG.out.1 HG.out.2.2;have HG1:=hid hg1;have HS1:=hid hs1;have HO1:=hid ho1;clear y0 HC hs1 ho1 hg1;go_wp2_with(refine am (by rfl) 3 _ _ rfl rfl g i rfl (.int .i64 n) #[.int .i64 n] rfl rfl cs (cs.setIfInBounds i (.int .i64 n)) 25 HG1.out (by have:=HG.out.2.1;simp;omega) (by kernel_rfl) (by simp[Value.oneCell']) rfl ?_;intro w6 h6 ho6 hz6;have H6:=hid h6;have HS6:=hid (cm.of HS1.out (ke ho6 HS1.out.lt (fun e=>HG.out.2.2 e.symm)));have HO6:=hid ((jQ.two HO1.out).trans (jQ.one (k:=s) ho6));clear h6 ho6 hz6)
 go_end0
 exact⟨rfl,by rw[←HN.out];exact H6.out,HS6.out,HO6.out⟩
end Go.Proofs.YtgfidiocmiolpaaGreat
/- The entries that come next, by the program. -/
namespace Go.Proofs.YtgfidiocmiolpaaGreat
open Lib (hid)
open Go.RowKit
def pz (st:Option (List UInt8)):Nat→List aU×Option (List UInt8)
 |0=>([],st)
 |k+1=>((pz st k).1++[(rdE (pz st k).2).1],(rdE (pz st k).2).2)
theorem pv (st:Option (List UInt8)): ∀k,(pz st k).1.length=k
 |0=>rfl
 |k+1=>by simp[pz,pv st k]
def gk (st:Option (List UInt8)):List aU×Option (List UInt8):=pz (aj 8 st).2 (aj 8 st).1
theorem uk (st:Option (List UInt8)):(gk st).1.length≤8:=by
 have:=gT 8 st (by omega);unfold gk;rw[pv];omega
def vE (g:Nat)(st:Option (List UInt8))(w:World)(e:Ending)(w':World):Prop:=
 ∃A c,e= .returned (.slice A (gk st).1.length c)∧cp w' (vT w.heap.size w') A (gk st).1∧(A=none→c=0)∧(gk st).1.length≤c∧cm w' g (gk st).2∧aJ w w' g
theorem fX {B:Nat}{a b c:World}(h:Below B a b)(k:aJ b c B)(hB:B≤b.heap.size):Below B a c:=⟨k.os.trans h.os,k.tape.trans h.tape,k.output.trans h.output,Nat.le_trans h.size k.size,fun i hi=>(k.block i (by omega) (by intro e;injection e;omega)).trans (h.block i hi)⟩
end Go.Proofs.YtgfidiocmiolpaaGreat
/- Statements whose order Go leaves open, walked as they stand in the text, with a relation of one's choice for what must stay. -/
namespace Go.Proofs.YtgfidiocmiolpaaGreat
open Go.RowKit Go.Sort
section
variable {P :Program} {ops:Array Oper} {Q:Exit→Act→World→Prop} {md:Region.Mode} {R:World→World→Prop}
def da (R:World→World→Prop)(P:Program)(ops:Array Oper)(Q:Exit→Act→World→Prop):List Oper→Act→World→Prop
  | [],a,w=>Q .normal a w
  |o::rest,a,w=>
    if Region.wanted o (yielded ops a.tmps)then
      (if ai o then o.quiet P a (CRR R w) (fun a'=>da R P ops Q rest a' w)
       else o.wp P a w (fun a' w'=>R w w'∧da R P ops Q rest a' w') Q)
    else da R P ops Q rest (a.put o.dst undef) w
theorem oc (hrr: ∀w,R w w){i:Nat}{oi:Oper}{v:Value}(hi:ops[i]? =some oi)(f:Nat)(listed:Array Bool)(a:Act)(w:World)(hr:i∈Region.ready md ops listed)(ho: ∀j∈Region.ready md ops listed,j=i)
    (hy:YieldsIf P ops (fun u=>R w u) oi v a) (H:iA R [] P md ops Q f (listed.setIfInBounds i true) (a.put oi.dst v) w):iA R [] P md ops Q (f+1) listed a w:=
  ⟨fun h=>absurd hr (by rw[h];exact List.not_mem_nil),fun j hj=>by
    obtain rfl:=ho j hj
    exact hy.wpOp hi (hrr _) ⟨.inr (hrr _),H⟩⟩
theorem dy (hrr: ∀w,R w w)(htr: ∀a b c,R a b→R b c→R a c)(hsel:Region.noSelect ops=true)(hQ: ∀c d v a w,Q (.panic c) (Act.put a d v) w→Q (.panic c) a w):
    ∀(r:List Oper) (i:Nat) (listed:Array Bool) (a:Act) (w:World),r=ops.toList.drop i→i≤ops.size→gU listed ops.size i→gq md ops i r=true→da R P ops Q r a w→iA R [] P md ops Q r.length listed a w
  | [],i,listed,a,w,hr,hi,hf,hB,h=>by
    have hlen:ops.size≤i:=by
      have:=congrArg List.length hr;simp at this;omega
    refine⟨?_,h⟩;refine List.eq_nil_iff_forall_not_mem.2 fun j hj=> ?_;obtain⟨h1,o,h2,-⟩:=mem_ready.1 hj;have hjn:=(Array.getElem?_eq_some_iff.1 h2).1;rw[hf.getD,if_pos hjn]at h1
    simp at h1;omega
  |o::r,i,listed,a,w,hr,hi,hf,hB,h=>by
    have hin:i<ops.size:=by
      have:=congrArg List.length hr;simp at this;omega
    have hoi:ops[i]? =some o:=by
      have:=congrArg (fun l=>l[0]?) hr;simp at this;exact this.symm
    have hr':r=ops.toList.drop (i+1):=by
      have:=congrArg List.tail hr;simpa using this
    have hat: ∀j oj,ops[j]? =some oj→i<j→oj∈r:=fun j oj hj hij=>by
      rw[hr'];refine List.mem_iff_getElem?.2 ⟨j - (i+1),?_⟩;rw[List.getElem?_drop];have:i+1+(j - (i+1))=j:=by omega
      rw[this];simpa using hj
    unfold gq at hB;simp only[Bool.and_eq_true]at hB;obtain⟨⟨hE,hk⟩,hB'⟩:=hB
    have hrd:i∈Region.ready md ops listed:=by
      refine mem_ready.2 ⟨by rw[hf.getD,if_pos hin];simp,o,hoi,fun e he hb=> ?_⟩;have:=List.all_eq_true.1 hE e (by simpa using he);rw[hb]at this;simp at this;have h3:e.on<i:=by simpa[Nat.blt_eq]using this
      rw[hf.getD,if_pos (by omega)];simpa using h3
    have hun: ∀j oj,ops[j]? =some oj→j≠i→listed.getD j true=false→i<j:=fun j oj hj hne hu=>by
      rw[hf.getD,if_pos (Array.getElem?_eq_some_iff.1 hj).1]at hu;simp at hu;omega
    have hF:=hf.step hin;unfold da at h;simp only[Bool.or_eq_true]at hk;rcases hk with hk|hk
    · have hone: ∀j∈Region.ready md ops listed,j=i:=fun j hj=>by
        obtain⟨h1,oj,h2,h3⟩:=mem_ready.1 hj;refine Classical.byContradiction fun hne=> ?_;have hm:=hat j oj h2 (hun j oj h2 hne h1);have hl:=List.all_eq_true.1 hk oj hm;unfold wh at hl;obtain⟨e,he,hb⟩:=List.any_eq_true.1 hl;simp only[Bool.and_eq_true,Nat.ble_eq]at hb;have:=h3 e (by simpa using he) hb.1;rw[hf.getD]at this
        split at this
        · simp at this;omega
        · cases this
      by_cases hw:Region.wanted o (yielded ops a.tmps)=true
      · by_cases hp:ai o=true
        · rw[if_pos hw,if_pos hp]at h
          obtain⟨v,h1,h2⟩:=h;exact oc hrr hoi _ listed a w hrd hone (ng hp hw h1) (dy hrr htr hsel hQ r (i+1) _ _ w hr' (by omega) hF hB' h2)
        · rw[if_pos hw,if_neg hp]at h
          refine⟨fun h0=>absurd hrd (by rw[h0];exact List.not_mem_nil),fun j hj=> ?_⟩;obtain rfl:=hone j hj;unfold wpOp;simp only[hoi];rw[if_pos hw];exact .inl (Oper.wp_mono (fun a' w' h'=>⟨.inr h'.1,dy hrr htr hsel hQ r (j+1) _ a' w' hr' (by omega) hF hB' h'.2⟩) h)
      · rw[if_neg hw]at h
        exact oc hrr hoi _ listed a w hrd hone (.inr ⟨by simpa using hw,rfl⟩) (dy hrr htr hsel hQ r (i+1) _ _ w hr' (by omega) hF hB' h)
    · simp only[Bool.and_eq_true]at hk
      obtain⟨hp,hk⟩:=hk
      have hfree: ∀j oj,ops[j]? =some oj→j≠i→listed.getD j true=false→(∀e∈oj.after,Region.binds md e=true→e.on≠i)→o.apart ops oj=true:=fun j oj hj hne hu hno=>by
        have hl:=List.all_eq_true.1 hk oj (hat j oj hj (hun j oj hj hne hu));simp only[Bool.or_eq_true]at hl;rcases hl with hl|hl
        · obtain⟨e,he,hb⟩:=List.any_eq_true.1 hl
          simp only[Bool.and_eq_true]at hb;exact absurd (Nat.eq_of_beq_eq_true hb.2) (hno e (by simpa using he) hb.1)
        · exact hl
      have hT0:(gj md ops [] i=true∧ ∀a b,R a b→R a b)∨ ∀a b,R a b:= .inl ⟨rfl,fun _ _ h=>h⟩;by_cases hw:Region.wanted o (yielded ops a.tmps)=true
      · rw[if_pos hw,if_pos hp]at h
        obtain⟨v,h1,h2⟩:=h;exact fq hrr R hrr htr hoi hT0 hsel hQ _ listed a w hfree hrd (ng hp hw h1) (dy hrr htr hsel hQ r (i+1) _ _ w hr' (by omega) hF hB' h2)
      · rw[if_neg hw]at h
        exact fq hrr R hrr htr hoi hT0 hsel hQ _ listed a w hfree hrd (.inr ⟨by simpa using hw,rfl⟩) (dy hrr htr hsel hQ r (i+1) _ _ w hr' (by omega) hF hB' h)
theorem kw (R:World→World→Prop)(hrr: ∀w,R w w)(htr: ∀a b c,R a b→R b c→R a c){l:List Oper}{id:Nat}{a:Act}{w:World}(hm:P.follows .mixedOrders=true)(hB:nQ l=true)(hQ: ∀c d v a w,Q (.panic c) (Act.put a d v) w→Q (.panic c) a w)
    (h:da R P l.toArray Q l a w.drew):(Code.region id l.toArray true).wp P Q a w:=by
  unfold nQ at hB;simp only[Bool.and_eq_true]at hB;refine wp_region_any hm (fR (R:=R) (T:=[]) _ _ _ _ ?_);have:=dy (md:= .any) (ops:=l.toArray) hrr htr hB.1 hQ l 0 (Array.replicate l.toArray.size false) a w.drew (by simp) (Nat.zero_le _) ⟨by simp,fun k hk=>by simp at hk;simp[hk]⟩ hB.2 h;simpa using this
theorem kf {w:World}: ∀(seg rest:List Oper) (a:Act),seg.all ai=true→wpQuiet P ops (CRR R w) (fun a'=>da R P ops Q rest a' w) seg a→da R P ops Q (seg++rest) a w
  | [],rest,a,_,h=>h
  |o::seg,rest,a,hp,h=>by
    simp only[List.all_cons,Bool.and_eq_true]at hp;rw[List.cons_append];unfold da;unfold wpQuiet at h;by_cases hw:Region.wanted o (yielded ops a.tmps)=true
    · rw[if_pos hw]at h
      rw[if_pos hw,if_pos hp.1];obtain⟨v,h1,h2⟩:=h;exact⟨v,h1,kf seg rest _ hp.2 h2⟩
    · rw[if_neg hw]at h
      rw[if_neg hw];exact kf seg rest _ hp.2 h
theorem gA {l:List Oper}{a:Act}{w:World}(h:wpQuiet P ops (CRR R w) (fun a'=>da R P ops Q (l.dropWhile ai) a' w) (l.takeWhile ai) a):da R P ops Q l a w:=by
  have:=kf _ (l.dropWhile ai) a (gL l) h;rwa[List.takeWhile_append_dropWhile]at this
theorem gG {o:Oper}{rest:List Oper}{a:Act}{w:World}(hp:ai o=false)
    (h: ∀K:Act→World→Prop,(∀a' w',R w w'→da R P ops Q rest a' w'→K a' w')→if Region.wanted o (yielded ops a.tmps)=true then o.wp P a w K Q else K (a.put o.dst undef) w):da R P ops Q (o::rest) a w:=by
  have h1:=h (fun a' w'=>R w w'∧da R P ops Q rest a' w') (fun a' w' h1 h2=>⟨h1,h2⟩);unfold da;by_cases hw:Region.wanted o (yielded ops a.tmps)=true
  · rw[if_pos hw]at h1
    rw[if_pos hw,if_neg (by rw[hp];exact Bool.false_ne_true)];exact h1
  · rw[if_neg hw]at h1
    rw[if_neg hw];exact h1.2
end
def dd (g:Nat)(w w':World):Prop:=w.heap.size≤w'.heap.size∧ ∀b,b<w.heap.size→b≠g→w'.heap[b]? =w.heap[b]?
theorem dd.refl (g:Nat)(w:World):dd g w w:=⟨Nat.le_refl _,fun _ _ _=>rfl⟩
theorem dd.trans (g:Nat)(a b c:World)(h:dd g a b)(k:dd g b c):dd g a c:=⟨Nat.le_trans h.1 k.1,fun i hi hg=>(k.2 i (Nat.lt_of_lt_of_le hi h.1) hg).trans (h.2 i hi hg)⟩
theorem dd.of {g:Nat}{w w':World}(h:Below w.heap.size w w'):dd g w w':=⟨h.size,fun b hb _=>h.block b hb⟩
instance (g :Nat) (w:World):Inhabited (cW (dd g) w):=⟨⟨w,dd.refl g w⟩⟩
end Go.Proofs.YtgfidiocmiolpaaGreat
/- The lives of layer 13. -/
namespace Go.Proofs.YtgfidiocmiolpaaGreat
open Go.RowKit
theorem aq.convG {w:World}{B g:Nat}{v:Value}{l:List UInt8}(h:Rd w B v l)(hB:B≤w.heap.size)(hg:B≤g): ∀p:cW (dd g) w,(convert 23 9 v).run Tryz.prog p.u= .ok (.string ⟨l.toArray⟩) p.u:=fun p=>by
 obtain⟨A,cap,h1,h2,h3,h4⟩:=h;refine Rd.strY (B:=B) ⟨A,cap,h1,h2,h3,fun hl=> ?_⟩;obtain⟨b,off,e,hb,hc⟩:=h4 hl;exact⟨b,off,e,hb,fun i hi=>(World.cell?_of_block (p.h.2 b (by omega) (by omega))).trans (hc i hi)⟩
theorem ue {w:World}{S:Nat→Prop}{e:aU}{cs:Array Value}(h:cZ w S e cs)(hd:SmE e)(hm:bJ e=true):gP e:=by
 obtain⟨IA,ic,IA',ic',DA,dc,DA',dc',LA,lc,-,hat⟩:=h.at;refine⟨⟨hd.idz,ni _ _ _ (Nat.le_refl _) hat.id⟩,⟨hd.docz,ni _ _ _ (Nat.le_refl _) hat.doc⟩,?_,hat.dels.rng⟩;have hdm:=((gf e).1 hm).dels
 split at hdm
 ·unfold dx at hdm;simp only[Bool.and_eq_true,decide_eq_true_eq]at hdm;exact(hd.dels (dr hdm.1.1).1).2
 ·exact(hd.dels (by omega)).2
end Go.Proofs.YtgfidiocmiolpaaGreat
/- The message that comes next, plain: a message's code is read back, and what was read has that code. -/
namespace Go.Proofs.YtgfidiocmiolpaaGreat
def rdM (st:Option (List UInt8)):aQ×Option (List UInt8):=
 let k:=av st;let f:=av k.2;let t:=av f.2;let e:=aj 1099511627776 t.2;let i:=bH (bf k.1) 0 (aj 1099511627776) e.2;let l:=bH (dq k.1) 0 (aj 1099511627776) i.2;let c:=bH (aV k.1) 0 (aj 1099511627776) l.2;let r:=bH (bs k.1) 0 (aj 1099511627776) c.2;let o:=bH (hOk k.1) false fQ r.2;let n:=bH (bi k.1) [] gk o.2;let s:=bH (bw k.1) [] (bd 65536) n.2
 (⟨k.1,f.1,t.1,e.1,i.1,l.1,c.1,r.1,o.1,n.1,s.1⟩,s.2)
theorem mK (es:List aU)(r:List UInt8)(hm: ∀e∈es,bJ e=true)(hf: ∀e∈es,gP e): ∀k,k≤es.length→pz (some (cj es++r)) k=(es.take k,some (cj (es.drop k)++r))
 |0,_=>rfl
 |k+1,hk=>by
  unfold pz;rw[mK es r hm hf k (by omega)];have hd:es.drop k=es[k]::es.drop (k+1):=List.drop_eq_getElem_cons (by omega)
  have hc:cj (es.drop k)++r=dV es[k]++(cj (es.drop (k+1))++r):=by
   rw[hd];unfold cj;rw[List.map_cons,List.flatten_cons,List.append_assoc]
  dsimp only;rw[hc,uD (hm _ (List.getElem_mem _)) (hf _ (List.getElem_mem _))];dsimp only;rw[List.take_add_one,List.getElem?_eq_getElem (by omega)];rfl
theorem sO {es:List aU}(h8:es.length≤8)(hm: ∀e∈es,bJ e=true)(hf: ∀e∈es,gP e)(r:List UInt8):gk (some (fG es++r))=(es,some r):=by
 unfold gk fG;rw[List.append_assoc,show aj 8 (some (grp es.length++(cj es++r)))=(es.length,some (cj es++r)) from bq (m:=8) _ h8 (by omega)];dsimp only;rw[mK es r hm hf es.length (Nat.le_refl _),List.take_length,List.drop_length];rfl
theorem tl (b:Bool)(r:List UInt8):fQ (some ([if b then 1 else 0]++r))=(b,some r):=by cases b<;>rfl
theorem mP (k:Int):bZ (aM k) 1=bf k:=my k
theorem rD (k:Int):bZ (aM k) 2=dq k:=q9 k
theorem kX (k:Int):bZ (aM k) 4=aV k:=ln k
theorem mW (k:Int):bZ (aM k) 8=bs k:=mI k
theorem tC (m:aQ):fT m= [UInt8.ofNat m.kind.toNat]++([UInt8.ofNat m.frm.toNat]++([UInt8.ofNat m.tgt.toNat]++(grp m.term.toNat++((if bf m.kind=true then grp m.index.toNat else [])++((if dq m.kind=true then grp m.logTerm.toNat else [])++((if aV m.kind=true then grp m.commit.toNat else [])++((if bs m.kind=true then grp m.round.toNat else [])++
  ((if hOk m.kind=true then [if m.ok then 1 else 0]else [])++((if bi m.kind=true then fG m.ents else [])++(if bw m.kind=true then txt ⟨m.snap.toArray⟩else [])))))))))):=by
 unfold fT cV ea;rw[mP,rD,kX,mW];simp
theorem iv {x:Int}{b:Bool}(h:cC x b=true):(b=false→x=0)∧0≤x∧x≤1099511627776:=by
 unfold cC at h;simp only[Bool.and_eq_true,decide_eq_true_eq]at h;cases b
 ·exact⟨fun _=>by have:=h.2;simp at this;omega,h.1,by have:=h.2;simp at this;omega⟩
 ·exact⟨fun e=>(by cases e),h.1,h.2⟩
theorem oQ {m:aQ}(h:bK m=true)(hf: ∀e∈m.ents,gP e)(r:List UInt8):rdM (some (fT m++r))=(m,some r):=by
 have F:=fw h;rw[tC];unfold bK at h;simp only[Bool.and_eq_true,decide_eq_true_eq]at h;obtain⟨⟨⟨⟨⟨-,-⟩,-⟩,-⟩,hn⟩,hr⟩:=h;unfold cI at hn;unfold gQ at hr;simp only[Bool.and_eq_true,decide_eq_true_eq,Bool.or_eq_true,Bool.not_eq_true']at hn hr;obtain⟨⟨⟨n1,n2⟩,n3⟩,n4⟩:=hn;obtain⟨⟨⟨⟨r1,r2⟩,r3⟩,-⟩,r5⟩:=hr;obtain⟨K,G,T,E,I,L,C,R,O,N,S⟩:=m;simp only at F n1 n2 n3 n4 r1 r2 r3 r5 hf ⊢;obtain⟨fk,ff,ft,fe,-,fm,fl,fs⟩:=F;simp only at fk ff ft fe fm fl fs;have m1:=iv n1;have m2:=iv n2;have m3:=iv n3;have m4:=iv n4;obtain⟨K,rfl⟩: ∃n:Nat,K=(n:Int):=⟨K.toNat,by omega⟩;obtain⟨G,rfl⟩: ∃n:Nat,G=(n:Int):=⟨G.toNat,by omega⟩;obtain⟨T,rfl⟩: ∃n:Nat,T=(n:Int):=⟨T.toNat,by omega⟩;obtain⟨E,rfl⟩: ∃n:Nat,E=(n:Int):=⟨E.toNat,by omega⟩;obtain⟨I,rfl⟩: ∃n:Nat,I=(n:Int):=⟨I.toNat,by omega⟩;obtain⟨L,rfl⟩: ∃n:Nat,L=(n:Int):=⟨L.toNat,by omega⟩;obtain⟨C,rfl⟩: ∃n:Nat,C=(n:Int):=⟨C.toNat,by omega⟩;obtain⟨R,rfl⟩: ∃n:Nat,R=(n:Int):=⟨R.toNat,by omega⟩
 have hb: ∀(K:Nat),(K:Int)≤255→ ∀x,av (some ([UInt8.ofNat ((K:Int).toNat)]++x))=(K,some x):=fun K hK x=>by
  show((UInt8.ofNat (K:Int).toNat).toNat,some x)=_;rw[Int.toNat_natCast,UInt8.toNat_ofNat',Nat.mod_eq_of_lt (by omega)]
 have hc: ∀(n:Nat),(n:Int)≤1099511627776→ ∀x,aj 1099511627776 (some (grp n++x))=(n,some x):=fun n hn x=>bq (m:=1099511627776) x (by omega) (by omega);have ho: ∀(b:Bool) (n:Nat),(b=false→(n:Int)=0)→(n:Int)≤1099511627776→ ∀x,bH b 0 (aj 1099511627776) (some ((if b=true then grp n else [])++x))=(n,some x):=fun b n h0 hn x=>dB (fun _=>hc n hn x) (fun e=>by have:=h0 e;omega);have hO: ∀x,bH (hOk (K:Int)) false fQ (some ((if hOk (K:Int)=true then [if O then 1 else 0]else [])++x))=(O,some x):=fun x=>dB (fun _=>tl O x) (fun e=>by rcases r1 with h|h;(· rw[h]at e;cases e);exact h);have hN: ∀x,bH (bi (K:Int)) [] gk (some ((if bi (K:Int)=true then fG N else [])++x))=(N,some x):=fun x=>dB (fun _=>sO fl fm hf x) (fun e=>by rw[e,if_neg (by decide)]at r2;exact List.eq_nil_of_length_eq_zero (by omega))
 have hS: ∀x,bH (bw (K:Int)) [] (bd 65536) (some ((if bw (K:Int)=true then txt ⟨S.toArray⟩else [])++x))=(S,some x):=fun x=>dB (fun _=>by
  have h:=dZ (m:=65536) (s:=⟨S.toArray⟩) x (by show S.toArray.size≤_;simpa using fs) (by omega)
  exact h) (fun e=>by rw[e,if_neg (by decide)]at r3;exact List.eq_nil_of_length_eq_zero (by omega))
 unfold rdM;simp only[List.append_assoc,Int.toNat_natCast]at hb ⊢;rw[hb K (by omega)];dsimp only;rw[hb G (by omega)];dsimp only;rw[hb T (by omega)];dsimp only;rw[hc E (by omega)];dsimp only;rw[ho _ I m1.1 m1.2.2];dsimp only;rw[ho _ L m2.1 m2.2.2];dsimp only;rw[ho _ C m3.1 m3.2.2];dsimp only;rw[ho _ R m4.1 m4.2.2];dsimp only;rw[hO];dsimp only;rw[hN];dsimp only;rw[hS]
theorem r8 {a b:aQ}(ha:bK a=true)(hb:bK b=true)(fa: ∀e∈a.ents,gP e)(fb: ∀e∈b.ents,gP e)(h:fT a=fT b):a=b:=by
 have h1:=oQ ha fa [];have h2:=oQ hb fb [];rw[h]at h1;rw[h1]at h2;injection h2 with h3 _
end Go.Proofs.YtgfidiocmiolpaaGreat
/- A message while it is read: its box, the variable that holds the source, and the source. -/
namespace Go.Proofs.YtgfidiocmiolpaaGreat
open Go.RowKit Go.Joins
def ev (n:Nat→Int)(o E S:Value):Array Value:= #[.int .i64 (n 0),.int .i64 (n 1),.int .i64 (n 2),.int .i64 (n 3),.int .i64 (n 4),.int .i64 (n 5),.int .i64 (n 6),.int .i64 (n 7),o,E,S]
def upd (n:Nat→Int)(i:Nat)(v:Int):Nat→Int:=fun j=>if j=i then v else n j
theorem u7 (n:Nat→Int)(i:Nat)(v:Int)(j:Nat)(h: ¬j=i):upd n i v j=n j:=if_neg h
theorem gR (n:Nat→Int)(i:Nat)(v:Int)(o E S:Value)(hi:i<8):(ev n o E S).setIfInBounds i (.int .i64 v)=ev (upd n i v) o E S:=by
 obtain rfl|rfl|rfl|rfl|rfl|rfl|rfl|rfl:i=0∨i=1∨i=2∨i=3∨i=4∨i=5∨i=6∨i=7:=by omega
 all_goals rfl
def eV (j:Nat)(k:Int)(st:Option (List UInt8)):Nat×Option (List UInt8):=
 if j<3 then av st else if j=3 then aj 1099511627776 st else bH (bZ (aM k) ((2 ^ (j - 4):Nat):Int)) 0 (aj 1099511627776) st
def aB (st:Option (List UInt8)):Nat→(Nat→Int)×Option (List UInt8)
 |0=>(fun _=>0,st)
 |j+1=>(upd (aB st j).1 j ((eV j ((aB st j).1 0) (aB st j).2).1:Int),(eV j ((aB st j).1 0) (aB st j).2).2)
theorem hJ (st:Option (List UInt8))(j:Nat):aB st (j+1)=(upd (aB st j).1 j ((eV j ((aB st j).1 0) (aB st j).2).1:Int),(eV j ((aB st j).1 0) (aB st j).2).2):=rfl
theorem pE (st:Option (List UInt8))(j:Nat): ∀i,j≤i→(aB st j).1 i=0:=by
 induction j with
 |zero=>exact fun _ _=>rfl
 |succ j ih=>
  intro i h;rw[hJ st j];dsimp only;rw[u7 _ _ _ _ (show ¬i=j by omega)];exact ih i (by omega)
theorem fx (st:Option (List UInt8))(j:Nat):(aB st (j+1)).1 0=(aB st 1).1 0:=by
 induction j with
 |zero=>exact Eq.refl _
 |succ j ih=>
  rw[hJ st (j+1)];dsimp only;rw[u7 _ _ _ _ (show ¬0=j+1 by omega)];exact ih
def mw (p:(Nat→Int)×Option (List UInt8)):aQ×Option (List UInt8):=
 let o:=bH (hOk (p.1 0)) false fQ p.2;let n:=bH (bi (p.1 0)) [] gk o.2;let s:=bH (bw (p.1 0)) [] (bd 65536) n.2
 (⟨p.1 0,p.1 1,p.1 2,p.1 3,p.1 4,p.1 5,p.1 6,p.1 7,o.1,n.1,s.1⟩,s.2)
theorem mQ (st:Option (List UInt8)):rdM st=mw (aB st 8):=by
 have e:aB st 8=(upd (upd (upd (upd (upd (upd (upd (upd (fun _=>0) 0 (av st).1) 1 (av (av st).2).1) 2 (av (av (av st).2).2).1) 3 (aj 1099511627776 (av (av (av st).2).2).2).1)
   4 (bH (bZ (aM (av st).1) 1) 0 (aj 1099511627776) (aj 1099511627776 (av (av (av st).2).2).2).2).1)
   5 (bH (bZ (aM (av st).1) 2) 0 (aj 1099511627776) (bH (bZ (aM (av st).1) 1) 0 (aj 1099511627776) (aj 1099511627776 (av (av (av st).2).2).2).2).2).1)
   6 (bH (bZ (aM (av st).1) 4) 0 (aj 1099511627776) (bH (bZ (aM (av st).1) 2) 0 (aj 1099511627776) (bH (bZ (aM (av st).1) 1) 0 (aj 1099511627776) (aj 1099511627776 (av (av (av st).2).2).2).2).2).2).1)
   7 (bH (bZ (aM (av st).1) 8) 0 (aj 1099511627776) (bH (bZ (aM (av st).1) 4) 0 (aj 1099511627776) (bH (bZ (aM (av st).1) 2) 0 (aj 1099511627776) (bH (bZ (aM (av st).1) 1) 0 (aj 1099511627776) (aj 1099511627776 (av (av (av st).2).2).2).2).2).2).2).1,
   (bH (bZ (aM (av st).1) 8) 0 (aj 1099511627776) (bH (bZ (aM (av st).1) 4) 0 (aj 1099511627776) (bH (bZ (aM (av st).1) 2) 0 (aj 1099511627776) (bH (bZ (aM (av st).1) 1) 0 (aj 1099511627776) (aj 1099511627776 (av (av (av st).2).2).2).2).2).2).2).2):=rfl
 rw[e];rw[mP,rD,kX,mW];rfl
structure dA (w0 w:World)(s:Nat)(cs:Array Value)(st:Option (List UInt8)):Prop where
 var:w.heap[w0.heap.size]? =some (.cells #[.pointer (some ⟨s,0,none⟩)] 59 (0,0))
 res:w.heap[w0.heap.size+1]? =some (.cells #[.int .i64 0,.int .i64 0,.int .i64 0,.int .i64 0,.int .i64 0,.int .i64 0,.int .i64 0,.int .i64 0,.bool false,.slice none 0 0,.slice none 0 0] 25 (0,0))
 box:w.heap[w0.heap.size+2]? =some (.cells cs 25 (0,0))
 src:cm w s st
 only:aJ w0 w s
 s0:s<w0.heap.size
section
variable {w0 w w':World} {s:Nat} {cs cs':Array Value} {st st':Option (List UInt8)}
theorem dA.lt (h:dA w0 w s cs st):w0.heap.size+2<w.heap.size:=(Array.getElem?_eq_some_iff.1 h.box).1
theorem dA.call (h:dA w0 w s cs st)(ho:aJ w w' s)(hs:cm w' s st'):dA w0 w' s cs st':=
 have h3:=h.s0
 ⟨dh ho h.var (by omega),dh ho h.res (by omega),dh ho h.box (by omega),hs,lh h.only ho,h3⟩
theorem dA.below (h:dA w0 w s cs st)(hb:Below w.heap.size w w'):dA w0 w' s cs st:=
 h.call (aJ.ofBelow hb) (h.src.of (hb.block s h.src.lt))
theorem dA.store (h:dA w0 w s cs st)(hg:w'.heap[w0.heap.size+2]? =some (.cells cs' 25 (0,0)))(ho:aJ w w' (w0.heap.size+2)):dA w0 w' s cs' st:=
 have h3:=h.s0
 ⟨dh ho h.var (by omega),dh ho h.res (by omega),hg,h.src.of (ke ho h.src.lt (by omega)),lP h.only ho (by omega),h3⟩
theorem dA.but (h:dA w0 w s cs st)(hg:w'.heap[w0.heap.size+2]? =some (.cells cs' 25 (0,0)))(hs:cm w' s st')(ho:jQ (w0.heap.size+2) s w w'):dA w0 w' s cs' st':=
 have h3:=h.s0;have hl:=h.lt
 ⟨(ho.block _ (by omega) (by omega) (by omega)).trans h.var,(ho.block _ (by omega) (by omega) (by omega)).trans h.res,hg,hs,⟨ho.os.trans h.only.os,ho.tape.trans h.only.tape,ho.output.trans h.only.output,Nat.le_trans h.only.size ho.size,fun b hb hne=>(ho.block b (Nat.lt_of_lt_of_le hb h.only.size) (by omega) (by intro e;apply hne;rw[e])).trans (h.only.block b hb hne)⟩,h3⟩
theorem dA.start (hs:cm w s st):dA w (((w.alloc (.cells #[.pointer (some ⟨s,0,none⟩)] 59)).alloc (.cells #[.int .i64 0,.int .i64 0,.int .i64 0,.int .i64 0,.int .i64 0,.int .i64 0,.int .i64 0,.int .i64 0,.bool false,.slice none 0 0,.slice none 0 0] 25)).alloc (.cells #[.int .i64 0,.int .i64 0,.int .i64 0,.int .i64 0,.int .i64 0,.int .i64 0,.int .i64 0,.int .i64 0,.bool false,.slice none 0 0,.slice none 0 0] 25)) s (ev (aB st 0).1 (.bool false) (.slice none 0 0) (.slice none 0 0)) (aB st 0).2:=by
 have hz1:(w.alloc (.cells #[.pointer (some ⟨s,0,none⟩)] 59)).heap.size=w.heap.size+1:=by simp
 have hz2:((w.alloc (.cells #[.pointer (some ⟨s,0,none⟩)] 59)).alloc (.cells #[.int .i64 0,.int .i64 0,.int .i64 0,.int .i64 0,.int .i64 0,.int .i64 0,.int .i64 0,.int .i64 0,.bool false,.slice none 0 0,.slice none 0 0] 25)).heap.size=w.heap.size+2:=by simp
 refine⟨?_,?_,?_,((hs.alloc _).alloc _).alloc _,(((aJ.refl w s).alloc _).alloc _).alloc _,hs.lt⟩
 ·rw[Below.heap_alloc _ _ _ (by omega),Below.heap_alloc _ _ _ (by omega)];exact heap_alloc_new _ _
 ·rw[Below.heap_alloc _ _ _ (by omega),←hz1];exact heap_alloc_new _ _
 ·rw[←hz2];exact heap_alloc_new _ _
end
theorem te (l:List UInt8)(hl:l.length≤140737488351232)(w:World): ∃A c w2,(convert 9 23 (.string ⟨l.toArray⟩)).run Tryz.prog w= .ok (.slice A l.length c) w2∧Below w.heap.size w w2∧l.length≤c∧(c≤9223372036854775807∧(A=none→c=0))∧cd w2 (fun b=>b=w.heap.size) A l∧w2.heap.size=w.heap.size+1:=by
 have hsz:(⟨l.toArray⟩:ByteArray).size=l.length:=by simp[ByteArray.size]
 have hg:=grownCap_ge w l.length 0 5;have hg2:=grownCap_le_maxLen w l.length 0 5 (by unfold maxLen;omega);unfold maxLen at hg2;have hrun:=Lib.run_convert_string_bytes w 9 23 5 ⟨l.toArray⟩ Tryz.underlying9 Tryz.underlying23 Tryz.underlying5;rw[hsz]at hrun;refine⟨_,_,_,hrun,Go.Joins.below_bytesWorld _ _ _ _ (Nat.le_refl _),hg,⟨by omega,fun h=>by cases h⟩,fun hp=>⟨w.heap.size,0,rfl,rfl,fun i hi=> ?_⟩,Lib.bytesWorld_size _ _ _⟩;rw[Nat.zero_add,Lib.bytesWorld_cell w _ _ i (by rw[hsz];exact hi)]
 congr 2
 simp[List.getD,List.getElem?_eq_getElem hi]
theorem m8 :dp 70:=fun _ _=>by simp[callFunc,go_sem,Tryz.func70,Tryz.f70]
theorem lL (w0:World)(s:Nat)(st:Option (List UInt8))(L:Int)(w:World)(h:dA w0 w s (ev (aB st 4).1 (.bool false) (.slice none 0 0) (.slice none 0 0)) (aB st 4).2)(hL:L=aM ((aB st 4).1 0)):
  Calls Tryz.prog 63 #[.int .i64 L,.pointer (some ⟨w0.heap.size+2,0,none⟩),.func (.func 70) #[] #[.pointer (some ⟨w0.heap.size,0,none⟩)]] w fun e w'=>e= .returned (.tuple #[])∧dA w0 w' s (ev (aB st 8).1 (.bool false) (.slice none 0 0) (.slice none 0 0)) (aB st 8).2:=by
 have hk: ∀j,(aB st (4+j)).1 0=(aB st 4).1 0:=fun j=>by
  rw[show 4+j=(3+j)+1 by omega,fx st (3+j),show 4=3+1 from rfl,fx st 3]
 have hr: ∀j,j<4→eV (4+j) ((aB st (4+j)).1 0)=bH (bZ L ((2 ^ j:Nat):Int)) 0 (aj 1099511627776):=fun j hj=>by
  rw[hk j,hL];unfold eV;funext x;rw[if_neg (by omega),if_neg (by omega),show 4+j - 4=j by omega]
 have hno0: ∀j,(aB st (4+j)).1 (4+j)=0:=fun j=>pE st (4+j) (4+j) (Nat.le_refl _);have hs1: ∀j,aB st (4+(j+1))=(upd (aB st (4+j)).1 (4+j) ((eV (4+j) ((aB st (4+j)).1 0) (aB st (4+j)).2).1:Int),(eV (4+j) ((aB st (4+j)).1 0) (aB st (4+j)).2).2):=fun j=>hJ st (4+j);refine mX 70 #[.pointer (some ⟨w0.heap.size,0,none⟩)] m8 (w0.heap.size+2) L (fun j u=>dA w0 u s (ev (aB st (4+j)).1 (.bool false) (.slice none 0 0) (.slice none 0 0)) (aB st (4+j)).2) w (fun j u u' hu hb=>hu.below hb) (fun j u hj hx hu=> ?_) (fun j u hj hx hu=> ?_) h
 ·rw[hs1,hr j hj];unfold bH;rw[hx]
  have e:upd (aB st (4+j)).1 (4+j) ((0:Nat):Int)=(aB st (4+j)).1:=by
   funext i;unfold upd
   split
   ·next hi=>rw[hi,hno0 j];rfl
   ·rfl
  simp only[Bool.false_eq_true,if_false];rw[e];exact hu
 ·refine(qB (w0.heap.size+2) (4+j) w0.heap.size s 59 _ _ u hu.box (by show 4+j<11;omega) hu.var hu.src (by have:=hu.s0;omega)).mono ?_;rintro e u' ⟨rfl,h1,h2,h3⟩;refine⟨rfl,?_⟩;rw[hs1,hr j hj];unfold bH;rw[hx];simp only[if_true];rw[gR _ _ _ _ _ _ (by omega)]at h1;exact hu.but h1 h2 h3
theorem uJ (j:Nat)(k:Int)(st:Option (List UInt8)):(eV j k st).1≤1099511627776:=by
 have h1:=tw st;have h2:=gT 1099511627776 st (by omega);unfold eV
 split
 ·omega
 ·split
  ·omega
  ·unfold bH
   split
   ·omega
   ·show 0≤_;omega
theorem mS (st:Option (List UInt8)): ∀j i,0≤(aB st j).1 i∧(aB st j).1 i≤1099511627776
 |0,i=>⟨Int.le_refl _,by show(0:Int)≤_;omega⟩
 |j+1,i=>by
  have h:=uJ j ((aB st j).1 0) (aB st j).2;show 0≤upd (aB st j).1 j _ i∧upd (aB st j).1 j _ i≤_;unfold upd
  split
  ·omega
  ·exact mS st j i
end Go.Proofs.YtgfidiocmiolpaaGreat
