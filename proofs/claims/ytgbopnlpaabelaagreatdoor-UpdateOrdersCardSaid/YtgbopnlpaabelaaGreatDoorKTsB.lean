/- What put does at a document where nothing lies. -/
import Derived.Test.YtgbopnlpaabelaaGreatDoorKTrX
set_option maxHeartbeats 64000000
set_option maxRecDepth 100000
set_option linter.unusedVariables false
set_option linter.unusedSimpArgs false
namespace Go.Proofs.YtgbopnlpaabelaaGreatDoor
open Lib (hid)
open Go.RowKit
def ei (A:Option Addr)(d:Nat):Nat:=(A.map (·.block)).getD d
theorem gw {A:Option Addr}{d:Nat}: ∀a,A=some a→ei A d=a.block:=fun a h=>by subst h;rfl
theorem yo (S F:Nat→Prop)(t u:VT)(g o:Nat)(P:Int)(hP:P<0)(hk:t.kind=7)(hsm:eC t)(A:Option Addr)(c:Nat)(s:ByteArray)(r:List ByteArray)(w w1:World)(B:Option Addr)(k:Nat)(B':Option Addr)(k':Nat)(h:OAt w F t g o)(hb1:Below w.heap.size w w1)
  (hp:ai w S A (s::r)) (hn:r.length+1≤c) (h63:c≤9223372036854775807) (hrn:r.length+1≤9223372036854775807) (hS: ∀b,S b→b<w.heap.size) (hSF: ∀b,S b→ ¬F b∧b≠g)
  (hu:OV w1 (Iv w.heap.size w1.heap.size) u (.agg #[.int .i64 u.kind,.int .i64 u.num,.string u.text,.slice B u.items.length k,.slice B' u.names.length k'])):
  Calls Tryz.prog 129 #[.agg #[.pointer (some ⟨g,o,none⟩),.int .i64 P,.slice A (r.length+1) c],.agg #[.int .i64 u.kind,.int .i64 u.num,.string u.text,.slice B u.items.length k,.slice B' u.names.length k']] w1 (cn F g o w (0,eW (gp t s) (al r u))):=by
 have hneg:decide (0≤P)=false:=decide_eq_false (by omega);have hgl0:=h.lt
 have hFlt: ∀b,F b→b<w.heap.size:=by
  obtain⟨_,_,_,_,_,_,_,_,_,_,_,_,_,_,hlt⟩:=h;exact hlt
 have h1:=h.keep hb1;have hgl:=h1.lt;obtain⟨A1,c1,A1',c1',hat⟩:=h1.at;have hc0:=hat.c0;rw[hk]at hc0;obtain⟨b,off,rfl,hb,hx⟩:=hp (by simp);have hs0:=(hx 0 (by simp)).1;have hssz:=(hx 0 (by simp)).2;simp only[List.getElem_cons_zero,Nat.add_zero]at hs0 hssz;have hbl:=hS b hb;have hlens:=hsm.lens;have hbase:Below w1.heap.size w1 ((w1.alloc (.cells #[.pointer (some ⟨g,o,none⟩),.int .i64 P,.slice (some ⟨b,off,none⟩) (r.length+1) c] 108)).alloc (.cells #[.int .i64 u.kind,.int .i64 u.num,.string u.text,.slice B u.items.length k,.slice B' u.names.length k'] 25)):=(ae _).alloc (by simp) _;have H1:=hid h1;have HX:=hid hx;have HP:=hid hp;have HU:=hid hu;have HB1:=hid hb1;have HSF:=hid (And.intro hS (And.intro hSF hFlt));have hz1:=hb1.size;clear h hat h1 hx hp hu hb1 hS hSF hFlt hbase;go_enter Tryz.func129,Tryz.ntmps129;go_wp2_with fail;have hza:(w1.alloc (.cells #[.pointer (some ⟨g,o,none⟩),.int .i64 P,.slice (some ⟨b,off,none⟩) (r.length+1) c] 108)).heap.size=w1.heap.size+1:=by simp
 have hz0:((w1.alloc (.cells #[.pointer (some ⟨g,o,none⟩),.int .i64 P,.slice (some ⟨b,off,none⟩) (r.length+1) c] 108)).alloc (.cells #[.int .i64 u.kind,.int .i64 u.num,.string u.text,.slice B u.items.length k,.slice B' u.names.length k'] 25)).drew.heap.size=w1.heap.size+2:=by simp
 have hb0:Below w1.heap.size w1 ((w1.alloc (.cells #[.pointer (some ⟨g,o,none⟩),.int .i64 P,.slice (some ⟨b,off,none⟩) (r.length+1) c] 108)).alloc (.cells #[.int .i64 u.kind,.int .i64 u.num,.string u.text,.slice B u.items.length k,.slice B' u.names.length k'] 25)).drew:=((ae _).alloc (by simp) _).drew;have hs:((w1.alloc (.cells #[.pointer (some ⟨g,o,none⟩),.int .i64 P,.slice (some ⟨b,off,none⟩) (r.length+1) c] 108)).alloc (.cells #[.int .i64 u.kind,.int .i64 u.num,.string u.text,.slice B u.items.length k,.slice B' u.names.length k'] 25)).drew.heap[w1.heap.size]? =some (.cells #[.pointer (some ⟨g,o,none⟩),.int .i64 P,.slice (some ⟨b,off,none⟩) (r.length+1) c] 108 (0,0)):=(Below.heap_alloc (w1.alloc (.cells #[.pointer (some ⟨g,o,none⟩),.int .i64 P,.slice (some ⟨b,off,none⟩) (r.length+1) c] 108)) _ w1.heap.size (by omega)).trans (heap_alloc_new w1 _)
 have hx:Box ((w1.alloc (.cells #[.pointer (some ⟨g,o,none⟩),.int .i64 P,.slice (some ⟨b,off,none⟩) (r.length+1) c] 108)).alloc (.cells #[.int .i64 u.kind,.int .i64 u.num,.string u.text,.slice B u.items.length k,.slice B' u.names.length k'] 25)).drew (w1.heap.size+1) (.int .i64 u.kind) (.int .i64 u.num) (.string u.text) (.slice B u.items.length k) (.slice B' u.names.length k'):=by
  have:=Box.new (w:=(w1.alloc (.cells #[.pointer (some ⟨g,o,none⟩),.int .i64 P,.slice (some ⟨b,off,none⟩) (r.length+1) c] 108))) (.int .i64 u.kind) (.int .i64 u.num) (.string u.text) (.slice B u.items.length k) (.slice B' u.names.length k');rw[hza]at this;exact this
 generalize hW0:((w1.alloc (.cells #[.pointer (some ⟨g,o,none⟩),.int .i64 P,.slice (some ⟨b,off,none⟩) (r.length+1) c] 108)).alloc (.cells #[.int .i64 u.kind,.int .i64 u.num,.string u.text,.slice B u.items.length k,.slice B' u.names.length k'] 25)).drew=w0 at *;have h0:=H1.out.keep hb0;obtain⟨AN,cN,hc4,hrowN,hAN,hnext⟩:=h0.addName
 have hgN:g≠ei AN w0.heap.size:=by
  cases hA:AN with
  |none=>show g≠w0.heap.size;omega
  |some a=>exact fun e=>(hAN a hA).2.2 e.symm
 have hspN:w1.heap.size≠ei AN w0.heap.size:=by
  cases hA:AN with
  |none=>show _≠w0.heap.size;omega
  |some a=>have:=HSF.out.2.2 _ (hAN a hA).1;show _≠a.block;omega
 have hbxN:w1.heap.size+1≠ei AN w0.heap.size:=by
  cases hA:AN with
  |none=>show _≠w0.heap.size;omega
  |some a=>have:=HSF.out.2.2 _ (hAN a hA).1;show _≠a.block;omega
 have hGN0:AN=none→ei AN w0.heap.size=w0.heap.size:=fun h=>by subst h;rfl
 have hGN1: ∀a,AN=some a→ei AN w0.heap.size=a.block:=fun a h=>gw a h;generalize ei AN w0.heap.size=GN at *;refine av (aj GN GN) (aj.refl _ _) (aj.trans _ _) [15] (.pure [0,1,2,3,4,5,6,7,8] (.step 9 (.step 10 (.step 11 (.step 12 (.step 13 (.step 14 (.step 15 (.tail []))))))))) (by kernel_rfl) (by kernel_rfl) (fun _ d _ _ _ h=>by cases d<;>exact h) ?_;rw[hW0];clear hW0;have s0: ∀p:af (aj GN GN) w0,p.u.cell? ⟨w1.heap.size,0,none⟩=some (.pointer (some ⟨g,o,none⟩)):=fun p=>(World.cell?_of_block (a:=⟨w1.heap.size,0,none⟩) (p.h.2 w1.heap.size (by omega) hspN hspN)).trans (Go.Joins.cell_of_block hs 0);have s2: ∀p:af (aj GN GN) w0,p.u.cell? ⟨w1.heap.size,2,none⟩=some (.slice (some ⟨b,off,none⟩) (r.length+1) c):=fun p=>(World.cell?_of_block (a:=⟨w1.heap.size,2,none⟩) (p.h.2 w1.heap.size (by omega) hspN hspN)).trans (Go.Joins.cell_of_block hs 2);have q4: ∀p:af (aj GN GN) w0,p.u.cell? ⟨g,o+4,none⟩=some (.slice AN t.names.length cN):=fun p=>(World.cell?_of_block (a:=⟨g,o+4,none⟩) (p.h.2 g (by omega) hgN hgN)).trans hc4;have hs00:w0.cell? ⟨b,off,none⟩=some (.string s):=(World.cell?_of_block (a:=⟨b,off,none⟩) (hb0.block b (by omega))).trans ((World.cell?_of_block (a:=⟨b,off,none⟩) (HB1.out.block b hbl)).trans hs0);have H0:=hid h0;have HRN:=hid hrowN;have HAN:=hid hAN;have HNX:=hid hnext;have HS:=hid hs;have HXB:=hid hx;have HB0:=hid hb0;have HC4:=hid hc4;have HGN:=hid (And.intro hGN0 hGN1);have HNE:=hid (And.intro hgN (And.intro hspN hbxN));clear hGN0 hGN1 h0 hrowN hAN hnext hs hx hb0 hc4 hgN hspN hbxN hs0
 refine bN ?_;simp only[atR];show wpQuiet _ _ _ _ [_,_,_,_,_,_,_,_,_] _;try simp only[acR,Act.put]
 repeat(go_big_quiet_step (fail))
 refine wpQuiet_nil ?_;clear s0 s2 q4;refine ah rfl (fun K hK=> ?_)
 go_simp
 refine hK _ _ (.inr (aj.refl _ _ _)) ?_;clear hK K;refine ah rfl (fun K hK=> ?_)
 go_simp
 refine hK _ _ (.inr (aj.refl _ _ _)) ?_;clear hK K;refine ah rfl (fun K hK=> ?_)
 go_simp
 refine hK _ _ (.inr ⟨by simp,fun b hb _ _=>Below.heap_alloc _ _ _ hb⟩) ?_;clear hK K;have hc1:=heap_alloc_new w0 (.cells #[.string s] 9);have hcb:Below w0.heap.size w0 (w0.alloc (.cells #[.string s] 9)):=ae _;have hc3:(w0.alloc (.cells #[.string s] 9)).heap.size=w0.heap.size+1:=by simp
 rw[hz0]at hc1;generalize w0.alloc (.cells #[.string s] 9)=wc at *;have hown1:=cf (w':=wc) HRN.out fun a ha=>hcb.block _ (by have:=(HAN.out a ha).2.1;omega);refine pZ rfl rfl (fun K hK=> ?_);obtain⟨i0,hi,hi0,hi1,hi2⟩:=info_parts Tryz.infoStr;refine cU _ _ _ 23 rfl 0 9 i0 _ 1 16 Tryz.underlying23 hi hi0 hi1 hi2 rfl (by decide) (.slice AN t.names.length cN) t.names.length (t.names.map Value.string) rfl hown1 ⟨w1.heap.size+2,0,none⟩ 1 1 [.string s] rfl rfl ?_ ?_ (by unfold maxLen;omega) (by omega) (by omega) ?_
 ·intro j u hj;rw[cq,Nat.zero_add];exact(Go.Joins.cell_of_block hc1 j).trans (by simpa using hj)
 ·intro u hu;simp only[List.mem_cons,List.not_mem_nil,or_false]at hu;rcases hu with rfl
  rfl
 intro v2 w2 hown2 hg2 hmv
 obtain⟨p,cap,rfl⟩: ∃p cap,v2= .slice (some ⟨p,0,none⟩) (t.names.length+1) cap:=by
  rcases hown2.2 with ⟨-,h0⟩|⟨p,cap,cur,h1,h2,-⟩
  ·omega
  ·exact⟨p,cap,h1⟩
 have hpw:AN=some ⟨p,0,none⟩∨w0.heap.size≤p:=by
  rcases hmv with h|⟨q,h1,h2⟩
  ·left
   cases hA:AN with
   |none=>rw[hA]at h;simp[Value.ownBlock]at h
   |some a=>
    rw[hA]at h;simp only[Value.ownBlock,Option.some.injEq]at h;rw[pD HRN.out a hA,←h]
  ·right;simp only[Value.ownBlock,Option.some.injEq]at h2;omega
 have hoN: ∀q,q<w0.heap.size→(∀a,AN=some a→a.block≠q)→w2.heap[q]? =w0.heap[q]? :=fun q hq hne=>(hg2.block q (by omega) (fun e=>by
  cases hA:AN with
  |none=>rw[hA]at e;simp[Value.ownBlock]at e
  |some a=>rw[hA]at e;simp only[Value.ownBlock,Option.some.injEq]at e;exact hne a hA e.symm)).trans (hcb.block q hq)
 have hz2:w0.heap.size+1≤w2.heap.size:=by have:=hg2.size;omega
 refine hK _ _ (.inr ⟨hg2.size,fun q hq hne _=>hg2.block q hq (fun e=>by
  cases hA:AN with
  |none=>rw[hA]at e;simp[Value.ownBlock]at e
  |some a=>rw[hA]at e;simp only[Value.ownBlock,Option.some.injEq]at e;exact hne (e.trans (HGN.out.2 a hA).symm))⟩) ?_
 clear hK K;simp only[acR,Act.put];have hw2:w2.os=w0.os∧w2.tape=w0.tape∧w2.output=w0.output:=⟨hg2.os.trans hcb.os,hg2.tape.trans hcb.tape,hg2.output.trans hcb.output⟩;have HW2:=hid (And.intro hown2 (And.intro hpw (And.intro hoN hw2)))
 obtain⟨Cg,tyg,hCg⟩: ∃C ty,w0.heap[g]? =some (.cells C ty (0,0)):=by
  obtain⟨C,ty,_,_,_,_,hg,_⟩:=H0.out;exact⟨C,ty,hg⟩
 have hg2':=(hoN g (by omega) (fun a ha=>(HAN.out a ha).2.2)).trans hCg;have hd4:=(hoN g (by omega) (fun a ha=>(HAN.out a ha).2.2));have hd4':w2.cell? ⟨g,o+4,none⟩=some (.slice AN t.names.length cN):=(World.cell?_of_block (a:=⟨g,o+4,none⟩) hd4).trans HC4.out;have hf4:=Go.Joins.unfrozen_of_block hg2' (o+4);have HCG:=hid (And.intro hCg hg2');clear hc1 hcb hc3 hown1 hown2 hg2 hmv hpw hoN hw2 hCg hg2' hd4 hs00;refine ah rfl (fun K hK=> ?_)
 go_simp
 refine hK _ _ (.inr (aj.refl _ _ _)) ?_;clear hK K;refine ah rfl (fun K hK=> ?_)
 go_simp
 refine hK _ _ (.inr (aj.refl _ _ _)) ?_;clear hK K;refine ah rfl (fun K hK=> ?_)
 go_simp
 refine hK _ _ (.inl (by decide)) ?_;clear hK K hd4' hf4;refine aX ?_;have hgW:(w2.setCell ⟨g,o+4,none⟩ (.slice (some ⟨p,0,none⟩) (t.names.length+1) cap)).heap[g]? =some (.cells (Cg.setIfInBounds (o+4) (.slice (some ⟨p,0,none⟩) (t.names.length+1) cap)) tyg (0,0)):=Go.Joins.block_setCell (i:=o+4) HCG.out.2 _;have hoW: ∀q,q≠g→(w2.setCell ⟨g,o+4,none⟩ (.slice (some ⟨p,0,none⟩) (t.names.length+1) cap)).heap[q]? =w2.heap[q]? :=fun q hq=>heap_setCell_other _ ⟨g,o+4,none⟩ q _ hq;have hzW:(w2.setCell ⟨g,o+4,none⟩ (.slice (some ⟨p,0,none⟩) (t.names.length+1) cap)).heap.size=w2.heap.size:=by simp
 have hrW:(w2.setCell ⟨g,o+4,none⟩ (.slice (some ⟨p,0,none⟩) (t.names.length+1) cap)).os=w2.os∧(w2.setCell ⟨g,o+4,none⟩ (.slice (some ⟨p,0,none⟩) (t.names.length+1) cap)).tape=w2.tape∧(w2.setCell ⟨g,o+4,none⟩ (.slice (some ⟨p,0,none⟩) (t.names.length+1) cap)).output=w2.output:=⟨rfl,rfl,rfl⟩
 have hfin5: ∃F',Own F w0 F'∧OAt (w2.setCell ⟨g,o+4,none⟩ (.slice (some ⟨p,0,none⟩) (t.names.length+1) cap)) F' (gp t s) g o∧Mut F g o w0 (w2.setCell ⟨g,o+4,none⟩ (.slice (some ⟨p,0,none⟩) (t.names.length+1) cap)):=by
  generalize w2.setCell ⟨g,o+4,none⟩ (.slice (some ⟨p,0,none⟩) (t.names.length+1) cap)=w3 at *;obtain⟨hown2,hpw,hoN,e1,e2,e3⟩:=HW2.out
  have hpg:p≠g:=by
   rcases hpw with h|h
   ·exact(HAN.out _ h).2.2
   ·omega
  refine HNX.out w3 p cap s (by omega) hssz (fun C ty hC=> ?_) (cf hown2 fun a ha=> ?_) hpw (fun q hq hqg hqa=>(hoW q hqg).trans (hoN q hq hqa)) (by omega) (hrW.1.trans e1) (hrW.2.1.trans e2) (hrW.2.2.trans e3)
  ·have e:=HCG.out.1.symm.trans hC;injection e with e
   injection e with e1 e2
   subst e1 e2;exact hgW
  ·cases ha;exact hoW p hpg
 have HF5:=hid hfin5;clear hfin5 hgW hoW hrW HW2 HNX HCG;generalize w2.setCell ⟨g,o+4,none⟩ (.slice (some ⟨p,0,none⟩) (t.names.length+1) cap)=w3 at *;have hz3:w0.heap.size+1≤w3.heap.size:=by omega
 clear hzW hz2;clear HRN HAN HGN HNE HC4
 have hst: ∀w4:World,Below w3.heap.size w3 w4→(∃F4,Own F w0 F4∧OAt w4 F4 (gp t s) g o∧Mut F g o w w4)∧
   w4.heap[w1.heap.size]? =some (.cells #[.pointer (some ⟨g,o,none⟩),.int .i64 P,.slice (some ⟨b,off,none⟩) (r.length+1) c] 108 (0,0))∧
   Box w4 (w1.heap.size+1) (.int .i64 u.kind) (.int .i64 u.num) (.string u.text) (.slice B u.items.length k) (.slice B' u.names.length k')∧
   OV w4 (Iv w.heap.size w1.heap.size) u (.agg #[.int .i64 u.kind,.int .i64 u.num,.string u.text,.slice B u.items.length k,.slice B' u.names.length k'])∧ai w4 S (some ⟨b,off,none⟩) (s::r):=by
  intro w4 hb4;obtain⟨F5,o1,o2,o3⟩:=HF5.out;have hbw:Below w.heap.size w w0:=HB1.out.trans (HB0.out.mono hz1);have hm0:Mut F g o w w0:=Mut.below hbw hgl0;have hmu:=o3;obtain⟨m1,m2,m3,m4,m5,m6⟩:=o3;have hk: ∀q,q<w0.heap.size→ ¬F q→q≠g→w4.heap[q]? =w0.heap[q]? :=fun q hq h1 h2=>(hb4.block q (by omega)).trans (m2 q hq h1 h2);refine⟨⟨F5,o1,o2.keep hb4,(hm0.trans (fun _=> .inl) hmu).trans (Own.trans (F':=F) (fun _=> .inl) o1 hbw.size) (Mut.below hb4 o2.lt)⟩,(hk _ (by omega) (fun e=>by have:=HSF.out.2.2 _ e;omega) (by omega)).trans HS.out,(hk _ (by omega) (fun e=>by have:=HSF.out.2.2 _ e;omega) (by omega)).trans HXB.out,?_,?_⟩
  ·refine HU.out.keep fun q hq=>(hk q (by have:=hq.2;omega) (fun e=>by have:=HSF.out.2.2 _ e;have:=hq.1;omega) (by have:=hq.1;omega)).trans (HB0.out.block q hq.2)
  ·exact HP.out.keep fun q hq=>(hk q (by have:=HSF.out.1 q hq;omega) (HSF.out.2.1 q hq).1 (HSF.out.2.1 q hq).2).trans (hbw.block q (HSF.out.1 q hq))
 have HST:=hid hst;clear hst HF5 HS HXB HP HU HB0 H0;go_wp2_with fail;refine av gc (fun _=>trivial) (fun _ _ _ _ _=>trivial) [] (.step 0 (.fork 1 (.step 2 (.step 3 (.tail []))) 2 (.step 1 (.step 3 (.tail []))))) (by kernel_rfl) (by kernel_rfl) (fun _ d _ _ _ h=>by cases d<;>exact h) ?_;refine ah rfl (fun K hK=> ?_)
 go_simp
 refine hK _ _ (.inr trivial) ?_;clear hK K;refine iW rfl rfl (fun K hK=> ?_) (fun K hK=> ?_)
 ·go_simp
  refine hK _ _ (.inr trivial) ?_;clear hK K;refine ah rfl (fun K hK=> ?_)
  go_simp
  refine hK _ _ (.inr trivial) ?_;clear hK K;refine ah rfl (fun K hK=> ?_)
  go_simp
  refine hK _ _ (.inr trivial) ?_;clear hK K;refine aX ?_;have hb4:Below w3.heap.size w3 (w3.alloc (.cells #[.bool false] 4)).drew:=(ae _).drew;have hz4:(w3.alloc (.cells #[.bool false] 4)).drew.heap.size=w3.heap.size+1:=by simp
  generalize (w3.alloc (.cells #[.bool false] 4)).drew=w4 at *;obtain⟨⟨F4,ho4,hat4,hm4⟩,hs4,hx4,hu4,hp4⟩:=HST.out w4 hb4;have HO4:=hid (And.intro ho4 (And.intro hat4 hm4));have HS4:=hid hs4;have HX4:=hid hx4;have HU4:=hid hu4;have HP4:=hid hp4;clear hb4 HST hs4 hx4 hu4 hp4 ho4 hat4 hm4;go_wp2_with fail;have hbd:Below w4.heap.size w4 w4.drew:=(Below.refl _ _).drew;have hat5:=HO4.out.2.1.keep hbd;have hm5:Mut F g o w w4.drew:=HO4.out.2.2;have hu5:=HU4.out.keep (w:=w4) (w':=w4.drew) fun _ _=>rfl;have hp5:=HP4.out.keep (w:=w4) (w':=w4.drew) fun _ _=>rfl;have hs5:w4.drew.heap[w1.heap.size]? =_:=HS4.out;have hx5:Box w4.drew (w1.heap.size+1) _ _ _ _ _:=HX4.out;have hz5:w4.drew.heap.size=w3.heap.size+1:=hz4;have hown4:=HO4.out.1;clear hbd HO4 HU4 HP4 HS4 HX4;generalize hw5:w4.drew=w5 at *;obtain⟨AV,cV,xs,hc3,hrowV,hAV,hnext⟩:=hat5.addItem;have hit:(gp t s).items=t.items:=by cases t;rfl
  rw[hit]at hc3 hrowV hnext
  have hgV:g≠ei AV w5.heap.size:=by
   cases hA:AV with
   |none=>show g≠w5.heap.size;omega
   |some a=>exact fun e=>(hAV a hA).2.2 e.symm
  have hspV: ∀q,w.heap.size≤q→q<w0.heap.size→q≠ei AV w5.heap.size:=by
   intro q hq1 hq2
   cases hA:AV with
   |none=>show _≠w5.heap.size;omega
   |some a=>
    have h1:=(hAV a hA).1;show _≠a.block;intro e;rcases hown4 _ h1 with h|h
    ·have:=HSF.out.2.2 _ h;omega
    ·omega
  have hGV1: ∀a,AV=some a→ei AV w5.heap.size=a.block:=fun a h=>gw a h;generalize ei AV w5.heap.size=GV at *;refine av (aj GV GV) (aj.refl _ _) (aj.trans _ _) [16] (.pure [0,1,2,3,4,5,6,7,8,9,10] (.step 11 (.step 12 (.step 13 (.step 14 (.step 15 (.step 16 (.tail [])))))))) (by kernel_rfl) (by kernel_rfl) (fun _ d _ _ _ h=>by cases d<;>exact h) ?_;rw[hw5];clear hw5;have s0: ∀p:af (aj GV GV) w5,p.u.cell? ⟨w1.heap.size,0,none⟩=some (.pointer (some ⟨g,o,none⟩)):=fun p=>(World.cell?_of_block (a:=⟨w1.heap.size,0,none⟩) (p.h.2 w1.heap.size (by omega) (hspV _ (by omega) (by omega)) (hspV _ (by omega) (by omega)))).trans (Go.Joins.cell_of_block hs5 0);have s2: ∀p:af (aj GV GV) w5,p.u.cell? ⟨w1.heap.size,2,none⟩=some (.slice (some ⟨b,off,none⟩) (r.length+1) c):=fun p=>(World.cell?_of_block (a:=⟨w1.heap.size,2,none⟩) (p.h.2 w1.heap.size (by omega) (hspV _ (by omega) (by omega)) (hspV _ (by omega) (by omega)))).trans (Go.Joins.cell_of_block hs5 2);have q3: ∀p:af (aj GV GV) w5,p.u.cell? ⟨g,o+3,none⟩=some (.slice AV t.items.length cV):=fun p=>(World.cell?_of_block (a:=⟨g,o+3,none⟩) (p.h.2 g (by omega) hgV hgV)).trans hc3;have kx: ∀(p:af (aj GV GV) w5) (i:Nat),p.u.cell? ⟨w1.heap.size+1,i,none⟩=w5.cell? ⟨w1.heap.size+1,i,none⟩:=fun p i=>World.cell?_of_block (a:=⟨w1.heap.size+1,i,none⟩) (p.h.2 (w1.heap.size+1) (by omega) (hspV _ (by omega) (by omega)) (hspV _ (by omega) (by omega)));have y0:=fun p:af (aj GV GV) w5=>(kx p 0).trans hx5.c0;have y1:=fun p:af (aj GV GV) w5=>(kx p 1).trans hx5.c1;have y2:=fun p:af (aj GV GV) w5=>(kx p 2).trans hx5.c2
  have y3:=fun p:af (aj GV GV) w5=>(kx p 3).trans hx5.c3;have y4:=fun p:af (aj GV GV) w5=>(kx p 4).trans hx5.c4;have HRV:=hid hrowV;have HAV:=hid hAV;have HNX:=hid hnext;have HC3:=hid hc3;have HGV:=hid (And.intro hGV1 (And.intro hgV hspV));have HOW:=hid (And.intro hown4 (And.intro hm5 hat5));have HU5:=hid hu5;have HP5:=hid hp5;have hrl:1≤r.length+1:=by omega
  have hslt:(1:Int)≤(r.length:Int)+1:=by omega
  clear hrowV hAV hnext hc3 hGV1 hgV hspV hown4 hm5 hat5 hu5 hp5 hs5 hx5 kx hit;refine bN ?_;simp only[atR];show wpQuiet _ _ _ _ [_,_,_,_,_,_,_,_,_,_,_] _;try simp only[acR,Act.put]
  repeat(go_big_quiet_step (fail))
  refine wpQuiet_nil ?_;clear s0 s2 q3 y0 y1 y2 y3 y4;refine ah rfl (fun K hK=> ?_)
  go_simp
  have hta:(if c=1 then(some ⟨b,off,none⟩:Option Addr)else some ⟨b,off+1,none⟩)=fR (some ⟨b,off,none⟩) c:=by unfold fR;simp[cq]
  rw[hta]
  have hszs: ∀x∈r,x.size≤140737488351232:=fun x hx=>by
   obtain⟨i,hi,rfl⟩:=List.mem_iff_getElem.1 hx;have:=(HX.out (i+1) (by simp;omega)).2;simpa using this
  refine(mC S (Iv w.heap.size w1.heap.size) u B k B' k' (fR (some ⟨b,off,none⟩) c) (c - 1) r w5 (fun q hq=>by have:=HSF.out.1 q hq;omega) (fun q hq=>by have:=hq.2;omega) HU5.out (HP5.out.tail (by by_cases hr:r= [];exact .inl hr;exact .inr (by cases r with|nil=>exact absurd rfl hr|cons a l=>simp at hn;omega))) (by omega) hszs).mono ?_;rintro e w6 ⟨v,Fv,rfl,hv,hFv,hb6⟩;obtain⟨E,e1,E',e2,ys,rfl,-⟩:=hv.shape;have hz6:=hb6.size;refine hK _ _ (.inr (aj.of hb6)) ?_;clear hK K hta;have HV6:=hid (And.intro hv (And.intro hFv hb6));have hgl6:g<w5.heap.size:=by omega
  clear hv hFv hb6 HU5 HP5;refine ah rfl (fun K hK=> ?_)
  go_simp
  refine hK _ _ (.inr ⟨by simp,fun q hq _ _=>Below.heap_alloc _ _ _ hq⟩) ?_;clear hK K;have hc1:=heap_alloc_new w6 (.cells #[.int .i64 (al r u).kind,.int .i64 (al r u).num,.string (al r u).text,.slice E (al r u).items.length e1,.slice E' (al r u).names.length e2] 25);have hcb:Below w6.heap.size w6 (w6.alloc (.cells #[.int .i64 (al r u).kind,.int .i64 (al r u).num,.string (al r u).text,.slice E (al r u).items.length e1,.slice E' (al r u).names.length e2] 25)):=ae _;have hc3:(w6.alloc (.cells #[.int .i64 (al r u).kind,.int .i64 (al r u).num,.string (al r u).text,.slice E (al r u).items.length e1,.slice E' (al r u).names.length e2] 25)).heap.size=w6.heap.size+1:=by simp
  generalize w6.alloc (.cells #[.int .i64 (al r u).kind,.int .i64 (al r u).num,.string (al r u).text,.slice E (al r u).items.length e1,.slice E' (al r u).names.length e2] 25)=wc at *;have hbc:Below w5.heap.size w5 wc:=HV6.out.2.2.trans (hcb.mono hz6);have hown1:=cf (w':=wc) HRV.out fun a ha=>hbc.block _ (HAV.out a ha).2.1;refine pZ rfl rfl (fun K hK=> ?_);obtain⟨i0,hi,hi0,hi1,hi2⟩:=info_parts Tryz.infoVal;refine cU _ _ _ 22 rfl 0 25 i0 _ 5 80 Tryz.underlying22 hi hi0 hi1 hi2 rfl (by decide) (.slice AV t.items.length cV) t.items.length xs rfl hown1 ⟨w6.heap.size,0,none⟩ 1 1 [.int .i64 (al r u).kind,.int .i64 (al r u).num,.string (al r u).text,.slice E (al r u).items.length e1,.slice E' (al r u).names.length e2] rfl rfl ?_ ?_ (by unfold maxLen;omega) (by omega) (by omega) ?_
  ·intro j x hj;rw[cq,Nat.zero_add];exact(Go.Joins.cell_of_block hc1 j).trans (by simpa using hj)
  ·intro x hx;simp only[List.mem_cons,List.not_mem_nil,or_false]at hx;rcases hx with rfl|rfl|rfl|rfl|rfl<;>rfl
  intro v2 w7 hown2 hg2 hmv
  obtain⟨p2,cap2,rfl⟩: ∃p cap,v2= .slice (some ⟨p,0,none⟩) (t.items.length+1) cap:=by
   rcases hown2.2 with ⟨-,h0⟩|⟨p,cap,cur,h1,h2,-⟩
   ·omega
   ·exact⟨p,cap,h1⟩
  have hpw:AV=some ⟨p2,0,none⟩∨w6.heap.size<p2:=by
   rcases hmv with h|⟨q,h1,h2⟩
   ·left
    cases hA:AV with
    |none=>rw[hA]at h;simp[Value.ownBlock]at h
    |some a=>
     rw[hA]at h;simp only[Value.ownBlock,Option.some.injEq]at h;rw[pD HRV.out a hA,←h]
   ·right;simp only[Value.ownBlock,Option.some.injEq]at h2;omega
  have hoN: ∀q,q<wc.heap.size→(∀a,AV=some a→a.block≠q)→w7.heap[q]? =wc.heap[q]? :=fun q hq hne=>hg2.block q (by omega) (fun e=>by
   cases hA:AV with
   |none=>rw[hA]at e;simp[Value.ownBlock]at e
   |some a=>rw[hA]at e;simp only[Value.ownBlock,Option.some.injEq]at e;exact hne a hA e.symm)
  have hz7:wc.heap.size≤w7.heap.size:=hg2.size
  refine hK _ _ (.inr ⟨hg2.size,fun q hq hne _=>hg2.block q hq (fun e=>by
   cases hA:AV with
   |none=>rw[hA]at e;simp[Value.ownBlock]at e
   |some a=>rw[hA]at e;simp only[Value.ownBlock,Option.some.injEq]at e;exact hne (e.trans (HGV.out.1 a hA).symm))⟩) ?_
  clear hK K;simp only[acR,Act.put];have hw7:w7.os=w5.os∧w7.tape=w5.tape∧w7.output=w5.output:=⟨hg2.os.trans hbc.os,hg2.tape.trans hbc.tape,hg2.output.trans hbc.output⟩;have HW7:=hid (And.intro hown2 (And.intro hpw (And.intro hoN (And.intro hw7 (And.intro hbc hcb)))))
  obtain⟨Cg,tyg,hCg⟩: ∃C ty,w5.heap[g]? =some (.cells C ty (0,0)):=by
   obtain⟨C,ty,_,_,_,_,hg,_⟩:=HOW.out.2.2;exact⟨C,ty,hg⟩
  have hgk:=(hoN g (by omega) (fun a ha=>(HAV.out a ha).2.2)).trans (hbc.block g (by omega));have hg2':=hgk.trans hCg;have hd3:w7.cell? ⟨g,o+3,none⟩=some (.slice AV t.items.length cV):=(World.cell?_of_block (a:=⟨g,o+3,none⟩) hgk).trans HC3.out;have hf3:=Go.Joins.unfrozen_of_block hg2' (o+3);have HCG:=hid (And.intro hCg hg2');clear hc1 hown1 hown2 hg2 hmv hpw hoN hw7 hCg hg2' hgk hbc hcb;refine ah rfl (fun K hK=> ?_)
  go_simp
  refine hK _ _ (.inr (aj.refl _ _ _)) ?_;clear hK K;refine ah rfl (fun K hK=> ?_)
  go_simp
  refine hK _ _ (.inr (aj.refl _ _ _)) ?_;clear hK K;refine ah rfl (fun K hK=> ?_)
  go_simp
  refine hK _ _ (.inl (by decide)) ?_;clear hK K hd3 hf3;refine aX ?_;have hgW:(w7.setCell ⟨g,o+3,none⟩ (.slice (some ⟨p2,0,none⟩) (t.items.length+1) cap2)).heap[g]? =some (.cells (Cg.setIfInBounds (o+3) (.slice (some ⟨p2,0,none⟩) (t.items.length+1) cap2)) tyg (0,0)):=Go.Joins.block_setCell (i:=o+3) HCG.out.2 _;have hoW: ∀q,q≠g→(w7.setCell ⟨g,o+3,none⟩ (.slice (some ⟨p2,0,none⟩) (t.items.length+1) cap2)).heap[q]? =w7.heap[q]? :=fun q hq=>heap_setCell_other _ ⟨g,o+3,none⟩ q _ hq;have hzW:(w7.setCell ⟨g,o+3,none⟩ (.slice (some ⟨p2,0,none⟩) (t.items.length+1) cap2)).heap.size=w7.heap.size:=by simp
  have hrW:(w7.setCell ⟨g,o+3,none⟩ (.slice (some ⟨p2,0,none⟩) (t.items.length+1) cap2)).os=w7.os∧(w7.setCell ⟨g,o+3,none⟩ (.slice (some ⟨p2,0,none⟩) (t.items.length+1) cap2)).tape=w7.tape∧(w7.setCell ⟨g,o+3,none⟩ (.slice (some ⟨p2,0,none⟩) (t.items.length+1) cap2)).output=w7.output:=⟨rfl,rfl,rfl⟩
  have hfin:cn F g o w (0,eW (gp t s) (al r u)) (.returned (.int .i64 0)) (w7.setCell ⟨g,o+3,none⟩ (.slice (some ⟨p2,0,none⟩) (t.items.length+1) cap2)):=by
   generalize w7.setCell ⟨g,o+3,none⟩ (.slice (some ⟨p2,0,none⟩) (t.items.length+1) cap2)=w8 at *;obtain⟨hown2,hpw,hoN,⟨e1',e2',e3'⟩,hbc,hcb⟩:=HW7.out;obtain⟨hv,hFv,hb6⟩:=HV6.out;obtain⟨hown4,hm5,hat5⟩:=HOW.out
   have hF4: ∀q,F4 q→q<w5.heap.size:=by
    obtain⟨_,_,_,_,_,_,_,_,_,_,_,_,_,_,hlt⟩:=hat5;exact hlt
   have hpg:p2≠g:=by
    rcases hpw with h|h
    ·exact(HAV.out _ h).2.2
    ·omega
   have hnF4: ∀q,Fv q→ ¬F4 q∧q≠g∧w.heap.size≤q:=by
    intro q hq;rcases(hFv q hq).2 with h|h
    ·have h1:=h.1;have h2:=h.2;refine⟨fun e=> ?_,by omega,h1⟩;rcases hown4 q e with h'|h'
     ·have:=HSF.out.2.2 q h';omega
     ·omega
    ·exact⟨fun e=>by have:=hF4 q e;omega,by omega,by omega⟩
   have hnA: ∀q,Fv q→ ∀a,AV=some a→a.block≠q:=fun q hq a ha e=>(hnF4 q hq).1 (e▸(HAV.out a ha).1)
   have hpv: ∀q,Fv q→q≠p2:=by
    intro q hq e;rcases hpw with h|h
    ·exact hnA q hq _ h e.symm
    ·have:=(hFv q hq).1;omega
   obtain⟨F6,k1,k2,k3⟩:=HNX.out w.heap.size w8 p2 cap2 (al r u) _ _ _ _ _ Fv (by omega) (by omega) (fun C ty hC=>by
     have e:=HCG.out.1.symm.trans hC;injection e with e
     injection e with e1 e2
     subst e1 e2
     exact hgW) (cf hown2 fun a ha=>by cases ha;exact hoW p2 hpg) (hpw.imp id fun h=>by omega) (fun q hq hqg hqa=>(hoW q hqg).trans ((hoN q (by omega) hqa).trans (hbc.block q hq)))
     (hv.keep fun q hq=>(hoW q (hnF4 q hq).2.1).trans ((hoN q (by have:=(hFv q hq).1;omega) (hnA q hq)).trans (hcb.block q (hFv q hq).1)))
     (fun q hq=>⟨(hnF4 q hq).2.2,by have:=(hFv q hq).1;omega,hpv q hq,(hnF4 q hq).1,(hnF4 q hq).2.1⟩) (by omega) (hrW.1.trans e1') (hrW.2.1.trans e2') (hrW.2.2.trans e3')
   refine⟨rfl,F6,fun q hq=> ?_,k2,hm5.trans (Own.trans (F':=F) (fun _=> .inl) hown4 (by omega)) k3⟩;rcases k1 q hq with h|h
   ·rcases hown4 q h with h'|h'
    ·exact .inl h'
    ·exact .inr (by omega)
   ·exact .inr h
  have HFIN:=hid hfin;clear hfin hgW hoW hzW hrW;generalize w7.setCell ⟨g,o+3,none⟩ (.slice (some ⟨p2,0,none⟩) (t.items.length+1) cap2)=w8 at *;go_wp2_with fail;go_ret;exact HFIN.out
 ·go_simp
  refine hK _ _ (.inr trivial) ?_;clear hK K;refine ah rfl (fun K hK=> ?_)
  go_simp
  refine hK _ _ (.inr trivial) ?_;clear hK K;refine ah rfl (fun K hK=> ?_)
  go_simp
  refine hK _ _ (.inr trivial) ?_;clear hK K;refine aX ?_;have hb4:Below w3.heap.size w3 (w3.alloc (.cells #[.bool true] 4)).drew:=(ae _).drew;have hz4:(w3.alloc (.cells #[.bool true] 4)).drew.heap.size=w3.heap.size+1:=by simp
  generalize (w3.alloc (.cells #[.bool true] 4)).drew=w4 at *;obtain⟨⟨F4,ho4,hat4,hm4⟩,hs4,hx4,hu4,hp4⟩:=HST.out w4 hb4;have HO4:=hid (And.intro ho4 (And.intro hat4 hm4));have HS4:=hid hs4;have HX4:=hid hx4;have HU4:=hid hu4;have HP4:=hid hp4;clear hb4 HST hs4 hx4 hu4 hp4 ho4 hat4 hm4;go_wp2_with fail;have hbd:Below w4.heap.size w4 w4.drew:=(Below.refl _ _).drew;have hat5:=HO4.out.2.1.keep hbd;have hm5:Mut F g o w w4.drew:=HO4.out.2.2;have hu5:=HU4.out.keep (w:=w4) (w':=w4.drew) fun _ _=>rfl;have hp5:=HP4.out.keep (w:=w4) (w':=w4.drew) fun _ _=>rfl;have hs5:w4.drew.heap[w1.heap.size]? =_:=HS4.out;have hx5:Box w4.drew (w1.heap.size+1) _ _ _ _ _:=HX4.out;have hz5:w4.drew.heap.size=w3.heap.size+1:=hz4;have hown4:=HO4.out.1;clear hbd HO4 HU4 HP4 HS4 HX4;generalize hw5:w4.drew=w5 at *;obtain⟨AV,cV,xs,hc3,hrowV,hAV,hnext⟩:=hat5.addItem;have hit:(gp t s).items=t.items:=by cases t;rfl
  rw[hit]at hc3 hrowV hnext
  have hgV:g≠ei AV w5.heap.size:=by
   cases hA:AV with
   |none=>show g≠w5.heap.size;omega
   |some a=>exact fun e=>(hAV a hA).2.2 e.symm
  have hspV: ∀q,w.heap.size≤q→q<w0.heap.size→q≠ei AV w5.heap.size:=by
   intro q hq1 hq2
   cases hA:AV with
   |none=>show _≠w5.heap.size;omega
   |some a=>
    have h1:=(hAV a hA).1;show _≠a.block;intro e;rcases hown4 _ h1 with h|h
    ·have:=HSF.out.2.2 _ h;omega
    ·omega
  have hGV1: ∀a,AV=some a→ei AV w5.heap.size=a.block:=fun a h=>gw a h;generalize ei AV w5.heap.size=GV at *;refine av (aj GV GV) (aj.refl _ _) (aj.trans _ _) [15] (.pure [0,1,2,3,4,5,6,7,8,10] (.fork 9 (.step 11 (.step 12 (.step 13 (.step 14 (.step 15 (.tail [])))))) 11 (.step 9 (.step 12 (.step 13 (.step 14 (.step 15 (.tail [])))))))) (by kernel_rfl) (by kernel_rfl) (fun _ d _ _ _ h=>by cases d<;>exact h) ?_;rw[hw5];clear hw5;have s0: ∀p:af (aj GV GV) w5,p.u.cell? ⟨w1.heap.size,0,none⟩=some (.pointer (some ⟨g,o,none⟩)):=fun p=>(World.cell?_of_block (a:=⟨w1.heap.size,0,none⟩) (p.h.2 w1.heap.size (by omega) (hspV _ (by omega) (by omega)) (hspV _ (by omega) (by omega)))).trans (Go.Joins.cell_of_block hs5 0);have s2: ∀p:af (aj GV GV) w5,p.u.cell? ⟨w1.heap.size,2,none⟩=some (.slice (some ⟨b,off,none⟩) (r.length+1) c):=fun p=>(World.cell?_of_block (a:=⟨w1.heap.size,2,none⟩) (p.h.2 w1.heap.size (by omega) (hspV _ (by omega) (by omega)) (hspV _ (by omega) (by omega)))).trans (Go.Joins.cell_of_block hs5 2);have q3: ∀p:af (aj GV GV) w5,p.u.cell? ⟨g,o+3,none⟩=some (.slice AV t.items.length cV):=fun p=>(World.cell?_of_block (a:=⟨g,o+3,none⟩) (p.h.2 g (by omega) hgV hgV)).trans hc3;have kx: ∀(p:af (aj GV GV) w5) (i:Nat),p.u.cell? ⟨w1.heap.size+1,i,none⟩=w5.cell? ⟨w1.heap.size+1,i,none⟩:=fun p i=>World.cell?_of_block (a:=⟨w1.heap.size+1,i,none⟩) (p.h.2 (w1.heap.size+1) (by omega) (hspV _ (by omega) (by omega)) (hspV _ (by omega) (by omega)));have y0:=fun p:af (aj GV GV) w5=>(kx p 0).trans hx5.c0
  have y1:=fun p:af (aj GV GV) w5=>(kx p 1).trans hx5.c1;have y2:=fun p:af (aj GV GV) w5=>(kx p 2).trans hx5.c2;have y3:=fun p:af (aj GV GV) w5=>(kx p 3).trans hx5.c3;have y4:=fun p:af (aj GV GV) w5=>(kx p 4).trans hx5.c4;have HRV:=hid hrowV;have HAV:=hid hAV;have HNX:=hid hnext;have HC3:=hid hc3;have HGV:=hid (And.intro hGV1 (And.intro hgV hspV));have HOW:=hid (And.intro hown4 (And.intro hm5 hat5));have HU5:=hid hu5;have HP5:=hid hp5;have hrl:1≤r.length+1:=by omega
  have hslt:(1:Int)≤(r.length:Int)+1:=by omega
  clear hrowV hAV hnext hc3 hGV1 hgV hspV hown4 hm5 hat5 hu5 hp5 hs5 hx5 kx hit;refine bN ?_;simp only[atR];show wpQuiet _ _ _ _ [_,_,_,_,_,_,_,_,_,_] _;try simp only[acR,Act.put]
  repeat(go_big_quiet_step (fail))
  refine wpQuiet_nil ?_;clear s0 s2 q3 y0 y1 y2 y3 y4;have hgl6:g<w5.heap.size:=by omega
  refine iW rfl rfl (fun K hK=> ?_) (fun K hK=> ?_)
  focus
   go_simp
   have hta:(if c=1 then(some ⟨b,off,none⟩:Option Addr)else some ⟨b,off+1,none⟩)=fR (some ⟨b,off,none⟩) c:=by unfold fR;simp[cq]
   rw[hta]
   have hszs: ∀x∈r,x.size≤140737488351232:=fun x hx=>by
    obtain⟨i,hi,rfl⟩:=List.mem_iff_getElem.1 hx;have:=(HX.out (i+1) (by simp;omega)).2;simpa using this
   refine(mC S (Iv w.heap.size w1.heap.size) u B k B' k' (fR (some ⟨b,off,none⟩) c) (c - 1) r w5 (fun q hq=>by have:=HSF.out.1 q hq;omega) (fun q hq=>by have:=hq.2;omega) HU5.out (HP5.out.tail (by by_cases hr:r= [];exact .inl hr;exact .inr (by cases r with|nil=>exact absurd rfl hr|cons a l=>simp at hn;omega))) (by omega) hszs).mono ?_;rintro e w6 ⟨v,Fv,rfl,hv,hFv,hb6⟩;obtain⟨E,e1,E',e2,ys,rfl,-⟩:=hv.shape;have hz6:=hb6.size;refine hK _ _ (.inr (aj.of hb6)) ?_;clear hK K hta;refine ah rfl (fun K hK=> ?_)
   go_simp
   refine hK _ _ (.inr ⟨by simp,fun q hq _ _=>Below.heap_alloc _ _ _ hq⟩) ?_;clear hK K;have hc1:=heap_alloc_new w6 (.cells #[.int .i64 0,.int .i64 0,.string ⟨#[]⟩,.slice none 0 0,.slice none 0 0] 25);have hcb:Below w6.heap.size w6 (w6.alloc (.cells #[.int .i64 0,.int .i64 0,.string ⟨#[]⟩,.slice none 0 0,.slice none 0 0] 25)):=ae _;have hc3:(w6.alloc (.cells #[.int .i64 0,.int .i64 0,.string ⟨#[]⟩,.slice none 0 0,.slice none 0 0] 25)).heap.size=w6.heap.size+1:=by simp
   generalize w6.alloc (.cells #[.int .i64 0,.int .i64 0,.string ⟨#[]⟩,.slice none 0 0,.slice none 0 0] 25)=wc at *;have hbc:Below w5.heap.size w5 wc:=hb6.trans (hcb.mono hz6);have hvc:=hv.keep (w':=wc) fun q hq=>hcb.block q (hFv q hq).1;have hFvc: ∀q,Fv q→q<wc.heap.size∧(Iv w.heap.size w1.heap.size q∨w5.heap.size≤q):=fun q hq=>⟨by have:=(hFv q hq).1;omega,(hFv q hq).2⟩;obtain⟨z,hz⟩: ∃z,z=w6.heap.size:=⟨_,rfl⟩;rw[←hz]at hc1 ⊢;clear hz hcb hc3 hv hFv hb6 HU5 HP5 hz6
  rotate_left
  focus
   go_simp
   refine hK _ _ (.inr ⟨by simp,fun q hq _ _=>Below.heap_alloc _ _ _ hq⟩) ?_;clear hK K;have hc0:=heap_alloc_new w5 (.cells #[.int .i64 0,.int .i64 0,.string ⟨#[]⟩,.slice none 0 0,.slice none 0 0] 25);have hab:Below w5.heap.size w5 (w5.alloc (.cells #[.int .i64 0,.int .i64 0,.string ⟨#[]⟩,.slice none 0 0,.slice none 0 0] 25)):=ae _;have haz:(w5.alloc (.cells #[.int .i64 0,.int .i64 0,.string ⟨#[]⟩,.slice none 0 0,.slice none 0 0] 25)).heap.size=w5.heap.size+1:=by simp
   generalize w5.alloc (.cells #[.int .i64 0,.int .i64 0,.string ⟨#[]⟩,.slice none 0 0,.slice none 0 0] 25)=wa at *;have hua:=HU5.out.keep (w':=wa) fun q hq=>hab.block q (by have:=hq.2;omega);have hpa:=HP5.out.keep (w':=wa) fun q hq=>hab.block q (by have:=HSF.out.1 q hq;omega);obtain⟨z,hz⟩: ∃z,z=w5.heap.size:=⟨_,rfl⟩;have HZ:=hid hz;rw[hz5]at hz;have HUA:=hid hua;have HPA:=hid hpa;have HAB:=hid hab;have HC0:=hid hc0;clear hua hpa hab hc0 HU5 HP5;try rw[←hz]
   clear hz;refine ah rfl (fun K hK=> ?_)
   go_simp
   have hta:(if c=1 then(some ⟨b,off,none⟩:Option Addr)else some ⟨b,off+1,none⟩)=fR (some ⟨b,off,none⟩) c:=by unfold fR;simp[cq]
   rw[hta]
   have hszs: ∀x∈r,x.size≤140737488351232:=fun x hx=>by
    obtain⟨i,hi,rfl⟩:=List.mem_iff_getElem.1 hx;have:=(HX.out (i+1) (by simp;omega)).2;simpa using this
   refine(mC S (Iv w.heap.size w1.heap.size) u B k B' k' (fR (some ⟨b,off,none⟩) c) (c - 1) r wa (fun q hq=>by have:=HSF.out.1 q hq;omega) (fun q hq=>by have:=hq.2;omega) HUA.out (HPA.out.tail (by by_cases hr:r= [];exact .inl hr;exact .inr (by cases r with|nil=>exact absurd rfl hr|cons a l=>simp at hn;omega))) (by omega) hszs).mono ?_;rintro e wc ⟨v,Fv,rfl,hv,hFv,hb6⟩;obtain⟨E,e1,E',e2,ys,rfl,-⟩:=hv.shape;have hz6:=hb6.size;refine hK _ _ (.inr (aj.of hb6)) ?_;clear hK K hta;have hbc:Below w5.heap.size w5 wc:=HAB.out.trans (hb6.mono (by omega));have hc1:wc.heap[z]? =some (.cells #[.int .i64 0,.int .i64 0,.string ⟨#[]⟩,.slice none 0 0,.slice none 0 0] 25 (0,0)):=(hb6.block z (by have:=HZ.out;omega)).trans (by rw[HZ.out];exact HC0.out);have hvc:=hv;have hFvc: ∀q,Fv q→q<wc.heap.size∧(Iv w.heap.size w1.heap.size q∨w5.heap.size≤q):=fun q hq=>⟨(hFv q hq).1,(hFv q hq).2.imp id fun h=>by omega⟩;clear hv hFv hb6 HUA HPA HAB HC0 hz6
  all_goals
   have HVC:=hid (And.intro hvc (And.intro hFvc hbc));have hown1:=cf (w':=wc) HRV.out fun a ha=>hbc.block _ (HAV.out a ha).2.1;have hzwc:=hbc.size;have hxl:xs.length=t.items.length * 5:=HRV.out.1;refine pZ rfl rfl (fun K hK=> ?_);obtain⟨i0,hi,hi0,hi1,hi2⟩:=info_parts Tryz.infoVal;refine cU _ _ _ 22 rfl 0 25 i0 _ 5 80 Tryz.underlying22 hi hi0 hi1 hi2 rfl (by decide) (.slice AV t.items.length cV) t.items.length xs rfl hown1 ⟨z,0,none⟩ 1 1 [.int .i64 0,.int .i64 0,.string ⟨#[]⟩,.slice none 0 0,.slice none 0 0] rfl rfl ?_ ?_ (by unfold maxLen;omega) (by omega) (by omega) ?_
   ·intro j x hj;rw[cq,Nat.zero_add];exact(Go.Joins.cell_of_block hc1 j).trans (by simpa using hj)
   ·intro x hx;simp only[List.mem_cons,List.not_mem_nil,or_false]at hx;rcases hx with rfl|rfl|rfl|rfl|rfl<;>rfl
   intro v2 w7 hown2 hg2 hmv
   obtain⟨p2,cap2,rfl⟩: ∃p cap,v2= .slice (some ⟨p,0,none⟩) (t.items.length+1) cap:=by
    rcases hown2.2 with ⟨-,h0⟩|⟨p,cap,cur,h1,h2,-⟩
    ·omega
    ·exact⟨p,cap,h1⟩
   have hpw:AV=some ⟨p2,0,none⟩∨wc.heap.size≤p2:=by
    rcases hmv with h|⟨q,h1,h2⟩
    ·left
     cases hA:AV with
     |none=>rw[hA]at h;simp[Value.ownBlock]at h
     |some a=>
      rw[hA]at h;simp only[Value.ownBlock,Option.some.injEq]at h;rw[pD HRV.out a hA,←h]
    ·right;simp only[Value.ownBlock,Option.some.injEq]at h2;omega
   have hoN: ∀q,q<wc.heap.size→(∀a,AV=some a→a.block≠q)→w7.heap[q]? =wc.heap[q]? :=fun q hq hne=>hg2.block q (by omega) (fun e=>by
    cases hA:AV with
    |none=>rw[hA]at e;simp[Value.ownBlock]at e
    |some a=>rw[hA]at e;simp only[Value.ownBlock,Option.some.injEq]at e;exact hne a hA e.symm)
   have hz7:wc.heap.size≤w7.heap.size:=hg2.size
   refine hK _ _ (.inr ⟨hg2.size,fun q hq hne _=>hg2.block q hq (fun e=>by
    cases hA:AV with
    |none=>rw[hA]at e;simp[Value.ownBlock]at e
    |some a=>rw[hA]at e;simp only[Value.ownBlock,Option.some.injEq]at e;exact hne (e.trans (HGV.out.1 a hA).symm))⟩) ?_
   clear hK K;simp only[acR,Act.put];have hw7:w7.os=w5.os∧w7.tape=w5.tape∧w7.output=w5.output:=⟨hg2.os.trans hbc.os,hg2.tape.trans hbc.tape,hg2.output.trans hbc.output⟩
   obtain⟨Cg,tyg,hCg⟩: ∃C ty,w5.heap[g]? =some (.cells C ty (0,0)):=by
    obtain⟨C,ty,_,_,_,_,hg,_⟩:=HOW.out.2.2;exact⟨C,ty,hg⟩
   have hgk:=(hoN g (by omega) (fun a ha=>(HAV.out a ha).2.2)).trans (hbc.block g (by omega));have hg2':=hgk.trans hCg;have hd3:w7.cell? ⟨g,o+3,none⟩=some (.slice AV t.items.length cV):=(World.cell?_of_block (a:=⟨g,o+3,none⟩) hgk).trans HC3.out;have hf3:=Go.Joins.unfrozen_of_block hg2' (o+3);have HW7:=hid (And.intro hown2 (And.intro hpw (And.intro hoN hw7)));have HCG:=hid (And.intro hCg hg2');clear hc1 hown1 hown2 hg2 hmv hoN hw7 hCg hg2' hgk hbc hvc hFvc;refine ah rfl (fun K hK=> ?_)
   go_simp
   refine hK _ _ (.inr (aj.refl _ _ _)) ?_;clear hK K;refine ah rfl (fun K hK=> ?_)
   go_simp
   refine hK _ _ (.inr (aj.refl _ _ _)) ?_;clear hK K;refine ah rfl (fun K hK=> ?_)
   go_simp
   refine hK _ _ (.inl (by decide)) ?_;clear hK K hd3 hf3;refine aX ?_
   have hpg:p2≠g:=by
    rcases hpw with h|h
    ·exact(HAV.out _ h).2.2
    ·omega
   have hgW:(w7.setCell ⟨g,o+3,none⟩ (.slice (some ⟨p2,0,none⟩) (t.items.length+1) cap2)).heap[g]? =some (.cells (Cg.setIfInBounds (o+3) (.slice (some ⟨p2,0,none⟩) (t.items.length+1) cap2)) tyg (0,0)):=Go.Joins.block_setCell (i:=o+3) HCG.out.2 _;have hoW: ∀q,q≠g→(w7.setCell ⟨g,o+3,none⟩ (.slice (some ⟨p2,0,none⟩) (t.items.length+1) cap2)).heap[q]? =w7.heap[q]? :=fun q hq=>heap_setCell_other _ ⟨g,o+3,none⟩ q _ hq;have hzW:(w7.setCell ⟨g,o+3,none⟩ (.slice (some ⟨p2,0,none⟩) (t.items.length+1) cap2)).heap.size=w7.heap.size:=by simp
   have hrW:(w7.setCell ⟨g,o+3,none⟩ (.slice (some ⟨p2,0,none⟩) (t.items.length+1) cap2)).os=w7.os∧(w7.setCell ⟨g,o+3,none⟩ (.slice (some ⟨p2,0,none⟩) (t.items.length+1) cap2)).tape=w7.tape∧(w7.setCell ⟨g,o+3,none⟩ (.slice (some ⟨p2,0,none⟩) (t.items.length+1) cap2)).output=w7.output:=⟨rfl,rfl,rfl⟩;generalize w7.setCell ⟨g,o+3,none⟩ (.slice (some ⟨p2,0,none⟩) (t.items.length+1) cap2)=w8 at *;have hown8:=cf (w':=w8) HW7.out.1 fun a ha=>by cases ha;exact hoW p2 hpg
   have hcell:=fun i (hi:i<(t.items.length+1) * 5)=>World.ownsRow.cellAt hown8 i hi;have q0:w8.cell? ⟨p2,t.items.length * 5,none⟩=some (.int .i64 0):=(hcell _ (by omega)).trans (by rw[←hxl,List.getElem?_append_right (Nat.le_refl _)];simp);have q1:w8.cell? ⟨p2,t.items.length * 5+1,none⟩=some (.int .i64 0):=(hcell _ (by omega)).trans (by rw[←hxl,List.getElem?_append_right (by omega)];simp);have q2:w8.cell? ⟨p2,t.items.length * 5+2,none⟩=some (.string ⟨#[]⟩):=(hcell _ (by omega)).trans (by rw[←hxl,List.getElem?_append_right (by omega)];simp);have q3:w8.cell? ⟨p2,t.items.length * 5+3,none⟩=some (.slice none 0 0):=(hcell _ (by omega)).trans (by rw[←hxl,List.getElem?_append_right (by omega)];simp);have q4:w8.cell? ⟨p2,t.items.length * 5+4,none⟩=some (.slice none 0 0):=(hcell _ (by omega)).trans (by rw[←hxl,List.getElem?_append_right (by omega)];simp);have hfz:=fun i=>World.ownsRow.frozenAt hown8 i;have h9o:=bE w8 p2 (t.items.length * 5) (.int .i64 (al r u).kind) (.int .i64 (al r u).num) (.string (al r u).text) (.slice E (al r u).items.length e1) (.slice E' (al r u).names.length e2);have h9z:=bQ w8 p2 (t.items.length * 5) (.int .i64 (al r u).kind) (.int .i64 (al r u).num) (.string (al r u).text) (.slice E (al r u).items.length e1) (.slice E' (al r u).names.length e2);have h9r:=cv w8 p2 (t.items.length * 5) (.int .i64 (al r u).kind) (.int .i64 (al r u).num) (.string (al r u).text) (.slice E (al r u).items.length e1) (.slice E' (al r u).names.length e2);have h9row:=pq (.int .i64 (al r u).kind) (.int .i64 (al r u).num) (.string (al r u).text) (.slice E (al r u).items.length e1) (.slice E' (al r u).names.length e2) hown8 hxl
   have hfin:cn F g o w (0,eW (gp t s) (al r u)) (.returned (.int .i64 0)) (cH w8 p2 (t.items.length * 5) (.int .i64 (al r u).kind) (.int .i64 (al r u).num) (.string (al r u).text) (.slice E (al r u).items.length e1) (.slice E' (al r u).names.length e2)):=by
    generalize cH w8 p2 (t.items.length * 5) (.int .i64 (al r u).kind) (.int .i64 (al r u).num) (.string (al r u).text) (.slice E (al r u).items.length e1) (.slice E' (al r u).names.length e2)=w9 at *;obtain⟨hown2,-,hoN,e1',e2',e3'⟩:=HW7.out;obtain⟨hvc,hFvc,hbc⟩:=HVC.out;obtain⟨hown4,hm5,hat5⟩:=HOW.out
    have hF4: ∀q,F4 q→q<w5.heap.size:=by
     obtain⟨_,_,_,_,_,_,_,_,_,_,_,_,_,_,hlt⟩:=hat5;exact hlt
    have hnF4: ∀q,Fv q→ ¬F4 q∧q≠g∧w.heap.size≤q:=by
     intro q hq;rcases(hFvc q hq).2 with h|h
     ·have h1:=h.1;have h2:=h.2;refine⟨fun e=> ?_,by omega,h1⟩;rcases hown4 q e with h'|h'
      ·have:=HSF.out.2.2 q h';omega
      ·omega
     ·exact⟨fun e=>by have:=hF4 q e;omega,by omega,by omega⟩
    have hnA: ∀q,Fv q→ ∀a,AV=some a→a.block≠q:=fun q hq a ha e=>(hnF4 q hq).1 (e▸(HAV.out a ha).1)
    have hpv: ∀q,Fv q→q≠p2:=by
     intro q hq e;rcases hpw with h|h
     ·exact hnA q hq _ h e.symm
     ·have:=(hFvc q hq).1;omega
    obtain⟨F6,k1,k2,k3⟩:=HNX.out w.heap.size w9 p2 cap2 (al r u) _ _ _ _ _ Fv (by omega) (by omega) (fun C ty hC=>by
      have e:=HCG.out.1.symm.trans hC;injection e with e
      injection e with e1 e2
      subst e1 e2
      exact(h9o g hpg.symm).trans hgW) h9row (hpw.imp id fun h=>by omega) (fun q hq hqg hqa=>(h9o q (fun e=>by
       rcases hpw with h|h
       ·exact hqa _ h e.symm
       ·omega)).trans ((hoW q hqg).trans ((hoN q (by omega) hqa).trans (hbc.block q hq))))
      (hvc.keep fun q hq=>(h9o q (hpv q hq)).trans ((hoW q (hnF4 q hq).2.1).trans (hoN q (hFvc q hq).1 (hnA q hq))))
      (fun q hq=>⟨(hnF4 q hq).2.2,by have:=(hFvc q hq).1;omega,hpv q hq,(hnF4 q hq).1,(hnF4 q hq).2.1⟩) (by omega) (h9r.1.trans (hrW.1.trans e1')) (h9r.2.1.trans (hrW.2.1.trans e2')) (h9r.2.2.trans (hrW.2.2.trans e3'))
    refine⟨rfl,F6,fun q hq=> ?_,k2,hm5.trans (Own.trans (F':=F) (fun _=> .inl) hown4 (by omega)) k3⟩;rcases k1 q hq with h|h
    ·rcases hown4 q h with h'|h'
     ·exact .inl h'
     ·exact .inr (by omega)
    ·exact .inr h
   have HFIN:=hid hfin;clear hfin hgW hoW hzW hrW hcell hown8 h9o h9z h9r h9row;have hlt1:(t.items.length:Int)<(t.items.length:Int)+1:=by omega
   clear HW7 HCG HVC HNX HOW HGV HAV HRV HC3;go_wp2_with fail;go_ret;exact HFIN.out
theorem yO (S F:Nat→Prop)(t:VT)(vu:Value)(g o:Nat)(P:Int)(hP:P<0)(s:ByteArray)(r:List ByteArray)(hk:t.kind≠7)(hnx:t.kind=6→fv t s r=false)(R:Option Addr)(c:Nat)(w w1:World)(B:Option Addr)(k:Nat)(B':Option Addr)(k':Nat)(u:VT)(h:OAt w F t g o)(hb1:Below w.heap.size w w1)
  (hp:ai w S R (s::r)) (hrn:r.length+1≤9223372036854775807) (hS: ∀b,S b→b<w.heap.size) (hvu:vu= .agg #[.int .i64 u.kind,.int .i64 u.num,.string u.text,.slice B u.items.length k,.slice B' u.names.length k']):
  Calls Tryz.prog 129 #[.agg #[.pointer (some ⟨g,o,none⟩),.int .i64 P,.slice R (r.length+1) c],vu] w1 (cn F g o w (40,t)):=by
 subst hvu;have hneg:decide (0≤P)=false:=decide_eq_false (by omega);have h1:=h.keep hb1;have hgl:=h1.lt;obtain⟨A1,c1,A1',c1',hat⟩:=h1.at;have hc0:=hat.c0;have hb0:Below w1.heap.size w1 ((w1.alloc (.cells #[.pointer (some ⟨g,o,none⟩),.int .i64 P,.slice R (r.length+1) c] 108)).alloc (.cells #[.int .i64 u.kind,.int .i64 u.num,.string u.text,.slice B u.items.length k,.slice B' u.names.length k'] 25)):=(ae _).alloc (by simp) _;have hs:((w1.alloc (.cells #[.pointer (some ⟨g,o,none⟩),.int .i64 P,.slice R (r.length+1) c] 108)).alloc (.cells #[.int .i64 u.kind,.int .i64 u.num,.string u.text,.slice B u.items.length k,.slice B' u.names.length k'] 25)).heap[w1.heap.size]? =some (.cells #[.pointer (some ⟨g,o,none⟩),.int .i64 P,.slice R (r.length+1) c] 108 (0,0)):=(Below.heap_alloc (w1.alloc (.cells #[.pointer (some ⟨g,o,none⟩),.int .i64 P,.slice R (r.length+1) c] 108)) _ w1.heap.size (by simp)).trans (heap_alloc_new w1 _);have hfin: ∀W,Below w1.heap.size w1 W→cn F g o w (40,t) (.returned (.int .i64 40)) W:=fun W hb=>cn.from (w1:=w1) (res:=(40,t)) ⟨rfl,h1.still hb⟩ hb1 h.lt;have hp1:=hp.keep (w':=(w1.alloc (.cells #[.pointer (some ⟨g,o,none⟩),.int .i64 P,.slice R (r.length+1) c] 108)).alloc (.cells #[.int .i64 u.kind,.int .i64 u.num,.string u.text,.slice B u.items.length k,.slice B' u.names.length k'] 25)) fun q hq=>(hb0.block q (by have:=hS q hq;have:=hb1.size;omega)).trans (hb1.block q (hS q hq))
 have hat1:=hat.keep (w':=(w1.alloc (.cells #[.pointer (some ⟨g,o,none⟩),.int .i64 P,.slice R (r.length+1) c] 108)).alloc (.cells #[.int .i64 u.kind,.int .i64 u.num,.string u.text,.slice B u.items.length k,.slice B' u.names.length k'] 25)) (hb0.block g hgl) (fun q hq=>hb0.block q (by
  obtain⟨_,_,_,_,_,_,_,_,_,_,_,_,_,_,hlt⟩:=h1
  exact hlt q hq))
 have HNX:=hid (fun(hk6:t.kind=6)=>oB F S t g o A1 c1 A1' c1' P R c s r _ hat1 (Nat.lt_of_lt_of_le hgl hb0.size) hp1 (fun q hq=>by have:=hS q hq;have:=hb1.size;have:=hb0.size;omega) hrn);have HFIN:=hid hfin;have HB0:=hid hb0;obtain⟨kk,hkk⟩: ∃kk,kk=t.kind:=⟨_,rfl⟩;rw[←hkk]at hc0 hk hnx HNX;have s0:=Go.Joins.cell_of_block hs 0;have s1:=Go.Joins.cell_of_block hs 1;have s2:=Go.Joins.cell_of_block hs 2;have hk7:(kk == 7)=false:=beq_false_of_ne hk;clear h h1 hat hb0 hs hfin hp1 hat1 hkk hp hb1;go_enter Tryz.func129,Tryz.ntmps129;by_cases hk6:kk=6
 ·have hk6b:(kk == 6)=true:=by simp[hk6]
  have hq:=hnx hk6;have HN:=hid (HNX.out hk6);have HQ:=hid hq;subst hk6;clear hq hnx HNX;go_wp2_with fail;refine HN.out.mono ?_;rintro e w2 ⟨rfl,hb2⟩;have hfin:=HFIN.out w2 (am HB0.out hb2);have hq':=HQ.out;have HF2:=hid hfin;clear hfin hb2 HN;rw[hq'];go_wp2_with fail;go_ret;exact HF2.out
 ·have hk6b:(kk == 6)=false:=beq_false_of_ne hk6;have HF2:=hid (HFIN.out _ HB0.out);clear HNX hnx;go_wp2_with fail;go_ret;exact HF2.out
end Go.Proofs.YtgbopnlpaabelaaGreatDoor
