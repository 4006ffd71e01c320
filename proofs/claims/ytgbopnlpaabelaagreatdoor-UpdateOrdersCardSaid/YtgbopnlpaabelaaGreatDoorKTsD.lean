/- What put does just behind an array's last item. -/
import Derived.Test.YtgbopnlpaabelaaGreatDoorKTsB
import Derived.Test.YtgbopnlpaabelaaGreatDoorKSpJ
import Derived.Test.YtgbopnlpaabelaaGreatDoorKRefM
import Derived.Test.YtgbopnlpaabelaaGreatDoorKTrA
import Derived.Test.YtgbopnlpaabelaaGreatDoorKTrX
set_option maxHeartbeats 64000000
set_option maxRecDepth 100000
set_option linter.unusedVariables false
set_option linter.unusedSimpArgs false
namespace Go.Proofs.YtgbopnlpaabelaaGreatDoor
open Lib (hid)
open Go.RowKit
theorem yV (S F:Nat→Prop)(t u:VT)(g o:Nat)(P:Int)(hP:P<0)(hk:t.kind=6)(hsm:eC t)(s:ByteArray)(r:List ByteArray)(hnx:fv t s r=true)(R:Option Addr)(c:Nat)(w w1:World)(B:Option Addr)(k:Nat)(B':Option Addr)(k':Nat)(h:OAt w F t g o)(hb1:Below w.heap.size w w1)
  (hp:ai w S R (s::r)) (hrn:r.length+1≤9223372036854775807) (hS: ∀b,S b→b<w.heap.size)
  (hu:OV w1 (Iv w.heap.size w1.heap.size) u (.agg #[.int .i64 u.kind,.int .i64 u.num,.string u.text,.slice B u.items.length k,.slice B' u.names.length k'])):
  Calls Tryz.prog 129 #[.agg #[.pointer (some ⟨g,o,none⟩),.int .i64 P,.slice R (r.length+1) c],.agg #[.int .i64 u.kind,.int .i64 u.num,.string u.text,.slice B u.items.length k,.slice B' u.names.length k']] w1 (cn F g o w (0,eW t u)):=by
 have hneg:decide (0≤P)=false:=decide_eq_false (by omega);have hgl0:=h.lt
 have hFlt: ∀b,F b→b<w.heap.size:=by
  obtain⟨_,_,_,_,_,_,_,_,_,_,_,_,_,_,hlt⟩:=h;exact hlt
 have h1:=h.keep hb1;have hgl:=h1.lt;obtain⟨A1,c1,A1',c1',hat⟩:=h1.at;have hc0:=hat.c0;have hlens:=hsm.lens;have hz1:=hb1.size;have hza:(w1.alloc (.cells #[.pointer (some ⟨g,o,none⟩),.int .i64 P,.slice R (r.length+1) c] 108)).heap.size=w1.heap.size+1:=by simp
 have hz0:((w1.alloc (.cells #[.pointer (some ⟨g,o,none⟩),.int .i64 P,.slice R (r.length+1) c] 108)).alloc (.cells #[.int .i64 u.kind,.int .i64 u.num,.string u.text,.slice B u.items.length k,.slice B' u.names.length k'] 25)).heap.size=w1.heap.size+2:=by simp
 have hb0:Below w1.heap.size w1 ((w1.alloc (.cells #[.pointer (some ⟨g,o,none⟩),.int .i64 P,.slice R (r.length+1) c] 108)).alloc (.cells #[.int .i64 u.kind,.int .i64 u.num,.string u.text,.slice B u.items.length k,.slice B' u.names.length k'] 25)):=(ae _).alloc (by simp) _;have hs:((w1.alloc (.cells #[.pointer (some ⟨g,o,none⟩),.int .i64 P,.slice R (r.length+1) c] 108)).alloc (.cells #[.int .i64 u.kind,.int .i64 u.num,.string u.text,.slice B u.items.length k,.slice B' u.names.length k'] 25)).heap[w1.heap.size]? =some (.cells #[.pointer (some ⟨g,o,none⟩),.int .i64 P,.slice R (r.length+1) c] 108 (0,0)):=(Below.heap_alloc (w1.alloc (.cells #[.pointer (some ⟨g,o,none⟩),.int .i64 P,.slice R (r.length+1) c] 108)) _ w1.heap.size (by simp)).trans (heap_alloc_new w1 _)
 have hx:Box ((w1.alloc (.cells #[.pointer (some ⟨g,o,none⟩),.int .i64 P,.slice R (r.length+1) c] 108)).alloc (.cells #[.int .i64 u.kind,.int .i64 u.num,.string u.text,.slice B u.items.length k,.slice B' u.names.length k'] 25)) (w1.heap.size+1) (.int .i64 u.kind) (.int .i64 u.num) (.string u.text) (.slice B u.items.length k) (.slice B' u.names.length k'):=by
  have:=Box.new (w:=(w1.alloc (.cells #[.pointer (some ⟨g,o,none⟩),.int .i64 P,.slice R (r.length+1) c] 108))) (.int .i64 u.kind) (.int .i64 u.num) (.string u.text) (.slice B u.items.length k) (.slice B' u.names.length k');rw[hza]at this;exact this
 have hp1:=hp.keep (w':=(w1.alloc (.cells #[.pointer (some ⟨g,o,none⟩),.int .i64 P,.slice R (r.length+1) c] 108)).alloc (.cells #[.int .i64 u.kind,.int .i64 u.num,.string u.text,.slice B u.items.length k,.slice B' u.names.length k'] 25)) fun q hq=>(hb0.block q (by have:=hS q hq;omega)).trans (hb1.block q (hS q hq));have hat1:=hat.keep (w':=(w1.alloc (.cells #[.pointer (some ⟨g,o,none⟩),.int .i64 P,.slice R (r.length+1) c] 108)).alloc (.cells #[.int .i64 u.kind,.int .i64 u.num,.string u.text,.slice B u.items.length k,.slice B' u.names.length k'] 25)) (hb0.block g hgl) (fun q hq=>hb0.block q (by have:=hFlt q hq;omega));have HN:=hid (oB F S t g o A1 c1 A1' c1' P R c s r _ hat1 (by omega) hp1 (fun q hq=>by have:=hS q hq;omega) hrn);have HH:=hid h;have HU:=hid hu;have HB1:=hid hb1;have HB0:=hid hb0;have HSP:=hid hs;have HXB:=hid hx;have HFL:=hid (And.intro hS hFlt);have HQ:=hid hnx;obtain⟨kk,hkk⟩: ∃kk,kk=t.kind:=⟨_,rfl⟩;rw[←hkk]at hc0 hk;subst hk;have s0:=Go.Joins.cell_of_block hs 0;have s1:=Go.Joins.cell_of_block hs 1;have s2:=Go.Joins.cell_of_block hs 2;clear h h1 hat hb0 hs hp1 hat1 hkk hp hu hb1 hx hS hFlt hnx;go_enter Tryz.func129,Tryz.ntmps129;go_wp2_with fail;refine HN.out.mono ?_;rintro e w2 ⟨rfl,hb2⟩;have hbw2:Below w.heap.size w w2:=HB1.out.trans ((am HB0.out hb2).mono hz1)
 have hst: ∀w4:World,Below w2.heap.size w2 w4→OAt w4 F t g o∧Mut F g o w w4∧w4.heap[w1.heap.size]? =some (.cells #[.pointer (some ⟨g,o,none⟩),.int .i64 P,.slice R (r.length+1) c] 108 (0,0))∧Box w4 (w1.heap.size+1) (.int .i64 u.kind) (.int .i64 u.num) (.string u.text) (.slice B u.items.length k) (.slice B' u.names.length k')∧OV w4 (Iv w.heap.size w1.heap.size) u (.agg #[.int .i64 u.kind,.int .i64 u.num,.string u.text,.slice B u.items.length k,.slice B' u.names.length k']):=by
  intro w4 hb4;have hb24:=hbw2.trans (hb4.mono hbw2.size);have hb04:=hb2.trans (hb4.mono hb2.size);exact⟨HH.out.keep hb24,Mut.below hb24 hgl0,(hb04.block _ (by omega)).trans HSP.out,(hb04.block _ (by omega)).trans HXB.out,HU.out.keep fun q hq=>(hb04.block q (by have:=hq.2;omega)).trans (HB0.out.block q hq.2)⟩
 have HST:=hid hst;have hz2:w1.heap.size+2≤w2.heap.size:=by have:=hb2.size;omega
 have hq':=HQ.out;rw[hq'];clear hst hb2 hbw2 s0 s1 s2 HN HU HB0 HSP HXB HQ hq' HH;go_wp2_with fail;refine av gc (fun _=>trivial) (fun _ _ _ _ _=>trivial) [] (.step 0 (.fork 1 (.step 2 (.step 3 (.tail []))) 2 (.step 1 (.step 3 (.tail []))))) (by kernel_rfl) (by kernel_rfl) (fun _ d _ _ _ h=>by cases d<;>exact h) ?_;refine ah rfl (fun K hK=> ?_)
 go_simp
 refine hK _ _ (.inr trivial) ?_;clear hK K;refine iW rfl rfl (fun K hK=> ?_) (fun K hK=> ?_);rotate_left;have _two:True:=trivial
 rotate_right
 all_goals
  go_simp
  refine hK _ _ (.inr trivial) ?_;clear hK K;refine ah rfl (fun K hK=> ?_)
  go_simp
  refine hK _ _ (.inr trivial) ?_;clear hK K;refine ah rfl (fun K hK=> ?_)
  go_simp
  refine hK _ _ (.inr trivial) ?_;clear hK K;refine aX ?_
  first
   |have _g:=_two
    have hb4:Below w2.heap.size w2 (w2.drew.alloc (.cells #[.bool true] 4)):=((Below.refl _ w2).drew).alloc (Nat.le_refl _) _;have hz4:(w2.drew.alloc (.cells #[.bool true] 4)).heap.size=w2.heap.size+1:=by simp
    change Exit.then _ _ _ _ (w2.drew.alloc (.cells #[.bool true] 4))
    generalize w2.drew.alloc (.cells #[.bool true] 4)=w4 at *
   |have hb4:Below w2.heap.size w2 (w2.drew.alloc (.cells #[.bool false] 4)):=((Below.refl _ w2).drew).alloc (Nat.le_refl _) _
    have hz4:(w2.drew.alloc (.cells #[.bool false] 4)).heap.size=w2.heap.size+1:=by simp
    change Exit.then _ _ _ _ (w2.drew.alloc (.cells #[.bool false] 4));generalize w2.drew.alloc (.cells #[.bool false] 4)=w4 at *
  have hst4:=HST.out w4 hb4;clear hb4 HST;go_wp2_with fail;have hat5:=hst4.1.keep (w':=w4.drew) ((Below.refl _ _).drew);have hm5:Mut F g o w w4.drew:=hst4.2.1;have hu5:=hst4.2.2.2.2.keep (w:=w4) (w':=w4.drew) fun _ _=>rfl;have hs5:w4.drew.heap[w1.heap.size]? =_:=hst4.2.2.1;have hx5:Box w4.drew (w1.heap.size+1) _ _ _ _ _:=hst4.2.2.2.1;have hz5:w4.drew.heap.size=w2.heap.size+1:=hz4;clear hst4;generalize hw5:w4.drew=w5 at *;obtain⟨AV,cV,xs,hc3,hrowV,hAV,hnext⟩:=hat5.addItem
  have hgV:g≠ei AV w5.heap.size:=by
   cases hA:AV with
   |none=>show g≠w5.heap.size;omega
   |some a=>exact fun e=>(hAV a hA).2.2 e.symm
  have hspV: ∀q,w.heap.size≤q→q<w1.heap.size+2→q≠ei AV w5.heap.size:=by
   intro q hq1 hq2
   cases hA:AV with
   |none=>show _≠w5.heap.size;omega
   |some a=>have:=HFL.out.2 _ (hAV a hA).1;show _≠a.block;omega
  have hGV1: ∀a,AV=some a→ei AV w5.heap.size=a.block:=fun a h=>gw a h;generalize ei AV w5.heap.size=GV at *
  first
   |have _g:=_two
    refine av (aj GV GV) (aj.refl _ _) (aj.trans _ _) [11] (.pure [0,1,2,3,4,5,6] (.step 7 (.step 8 (.step 9 (.step 10 (.step 11 (.tail []))))))) (by kernel_rfl) (by kernel_rfl) (fun _ d _ _ _ h=>by cases d<;>exact h) ?_
   |refine av (aj GV GV) (aj.refl _ _) (aj.trans _ _) [12] (.pure [0,1,2,3,4,5,6,7] (.step 8 (.step 9 (.step 10 (.step 11 (.step 12 (.tail []))))))) (by kernel_rfl) (by kernel_rfl) (fun _ d _ _ _ h=>by cases d<;>exact h) ?_
  rw[hw5];clear hw5;have s0: ∀p:af (aj GV GV) w5,p.u.cell? ⟨w1.heap.size,0,none⟩=some (.pointer (some ⟨g,o,none⟩)):=fun p=>(World.cell?_of_block (a:=⟨w1.heap.size,0,none⟩) (p.h.2 w1.heap.size (by omega) (hspV _ (by omega) (by omega)) (hspV _ (by omega) (by omega)))).trans (Go.Joins.cell_of_block hs5 0);have q3: ∀p:af (aj GV GV) w5,p.u.cell? ⟨g,o+3,none⟩=some (.slice AV t.items.length cV):=fun p=>(World.cell?_of_block (a:=⟨g,o+3,none⟩) (p.h.2 g (by omega) hgV hgV)).trans hc3;have kx: ∀(p:af (aj GV GV) w5) (i:Nat),p.u.cell? ⟨w1.heap.size+1,i,none⟩=w5.cell? ⟨w1.heap.size+1,i,none⟩:=fun p i=>World.cell?_of_block (a:=⟨w1.heap.size+1,i,none⟩) (p.h.2 (w1.heap.size+1) (by omega) (hspV _ (by omega) (by omega)) (hspV _ (by omega) (by omega)));have y0:=fun p:af (aj GV GV) w5=>(kx p 0).trans hx5.c0;have y1:=fun p:af (aj GV GV) w5=>(kx p 1).trans hx5.c1;have y2:=fun p:af (aj GV GV) w5=>(kx p 2).trans hx5.c2;have y3:=fun p:af (aj GV GV) w5=>(kx p 3).trans hx5.c3;have y4:=fun p:af (aj GV GV) w5=>(kx p 4).trans hx5.c4;have HRV:=hid hrowV;have HAV:=hid hAV;have HNX:=hid hnext;have HC3:=hid hc3;have HGV:=hid (And.intro hGV1 (And.intro hgV hspV));have HOW:=hid (And.intro hm5 hat5);have HUU:=hid hu5;clear hrowV hAV hnext hc3 hGV1 hgV hspV hm5 hat5 hu5 hs5 hx5 kx;refine bN ?_;simp only[atR]
  first
   |have _g:=_two
    show wpQuiet _ _ _ _ [_,_,_,_,_,_,_] _
   |show wpQuiet _ _ _ _ [_,_,_,_,_,_,_,_] _
  try simp only[acR,Act.put]
  repeat(go_big_quiet_step (fail))
  refine wpQuiet_nil ?_;clear s0 q3 y0 y1 y2 y3 y4;refine ah rfl (fun K hK=> ?_)
  go_simp
  refine hK _ _ (.inr ⟨by simp,fun q hq _ _=>Below.heap_alloc _ _ _ hq⟩) ?_;clear hK K
  first
   |have _g:=_two
    have hc1:=heap_alloc_new w5 (.cells #[.int .i64 0,.int .i64 0,.string ⟨#[]⟩,.slice none 0 0,.slice none 0 0] 25);have hbc:Below w5.heap.size w5 (w5.alloc (.cells #[.int .i64 0,.int .i64 0,.string ⟨#[]⟩,.slice none 0 0,.slice none 0 0] 25)):=ae _;have hc3:(w5.alloc (.cells #[.int .i64 0,.int .i64 0,.string ⟨#[]⟩,.slice none 0 0,.slice none 0 0] 25)).heap.size=w5.heap.size+1:=by simp
    generalize w5.alloc (.cells #[.int .i64 0,.int .i64 0,.string ⟨#[]⟩,.slice none 0 0,.slice none 0 0] 25)=wc at *
   |have hc1:=heap_alloc_new w5 (.cells #[.int .i64 u.kind,.int .i64 u.num,.string u.text,.slice B u.items.length k,.slice B' u.names.length k'] 25)
    have hbc:Below w5.heap.size w5 (w5.alloc (.cells #[.int .i64 u.kind,.int .i64 u.num,.string u.text,.slice B u.items.length k,.slice B' u.names.length k'] 25)):=ae _;have hc3:(w5.alloc (.cells #[.int .i64 u.kind,.int .i64 u.num,.string u.text,.slice B u.items.length k,.slice B' u.names.length k'] 25)).heap.size=w5.heap.size+1:=by simp
    generalize w5.alloc (.cells #[.int .i64 u.kind,.int .i64 u.num,.string u.text,.slice B u.items.length k,.slice B' u.names.length k'] 25)=wc at *
  obtain⟨z,hz⟩: ∃z,z=w5.heap.size:=⟨_,rfl⟩;rw[←hz]at hc1;have HZ:=hid hz;rw[hz5]at hz;try rw[←hz]
  clear hz;have hgl6:g<w5.heap.size:=by omega
  have hvc:=HUU.out.keep (w':=wc) fun q hq=>hbc.block q (by have:=hq.2;omega);have HVC:=hid (And.intro hvc hbc);have hown1:=cf (w':=wc) HRV.out fun a ha=>hbc.block _ (HAV.out a ha).2.1;have hzwc:=hbc.size;have hxl:xs.length=t.items.length * 5:=HRV.out.1;refine pZ rfl rfl (fun K hK=> ?_);obtain⟨i0,hi,hi0,hi1,hi2⟩:=info_parts Tryz.infoVal
  first
   |have _g:=_two
    refine cU _ _ _ 22 rfl 0 25 i0 _ 5 80 Tryz.underlying22 hi hi0 hi1 hi2 rfl (by decide) (.slice AV t.items.length cV) t.items.length xs rfl hown1 ⟨z,0,none⟩ 1 1 [.int .i64 0,.int .i64 0,.string ⟨#[]⟩,.slice none 0 0,.slice none 0 0] rfl rfl ?_ ?_ (by unfold maxLen;omega) (by omega) (by omega) ?_
   |refine cU _ _ _ 22 rfl 0 25 i0 _ 5 80 Tryz.underlying22 hi hi0 hi1 hi2 rfl (by decide) (.slice AV t.items.length cV) t.items.length xs rfl hown1 ⟨z,0,none⟩ 1 1 [.int .i64 u.kind,.int .i64 u.num,.string u.text,.slice B u.items.length k,.slice B' u.names.length k'] rfl rfl ?_ ?_ (by unfold maxLen;omega) (by omega) (by omega) ?_
  ·intro j x hj;rw[cq,Nat.zero_add];exact(Go.Joins.cell_of_block hc1 j).trans (by simpa using hj)
  ·intro x hx;simp only[List.mem_cons,List.not_mem_nil,or_false]at hx;rcases hx with rfl|rfl|rfl|rfl|rfl<;>rfl
  intro v2 w7 hown2 hg2 hmv
  obtain⟨p2,cap2,rfl⟩: ∃p cap,v2= .slice (some ⟨p,0,none⟩) (t.items.length+1) cap:=by
   rcases hown2.2 with ⟨-,h0⟩|⟨p,cap,cur,h1,h2,-⟩
   ·omega
   ·exact⟨p,cap,h1⟩
  have hpw:AV=some ⟨p2,0,none⟩∨wc.heap.size≤p2:=by
   rcases hmv with h|⟨q,h1,h2⟩
   ·left
    cases hA:AV with
    |none=>rw[hA]at h;simp[Value.ownBlock]at h
    |some a=>
     rw[hA]at h;simp only[Value.ownBlock,Option.some.injEq]at h;rw[pD HRV.out a hA,←h]
   ·right;simp only[Value.ownBlock,Option.some.injEq]at h2;omega
  have hoN: ∀q,q<wc.heap.size→(∀a,AV=some a→a.block≠q)→w7.heap[q]? =wc.heap[q]? :=fun q hq hne=>hg2.block q (by omega) (fun e=>by
   cases hA:AV with
   |none=>rw[hA]at e;simp[Value.ownBlock]at e
   |some a=>rw[hA]at e;simp only[Value.ownBlock,Option.some.injEq]at e;exact hne a hA e.symm)
  have hz7:wc.heap.size≤w7.heap.size:=hg2.size
  refine hK _ _ (.inr ⟨hg2.size,fun q hq hne _=>hg2.block q hq (fun e=>by
   cases hA:AV with
   |none=>rw[hA]at e;simp[Value.ownBlock]at e
   |some a=>rw[hA]at e;simp only[Value.ownBlock,Option.some.injEq]at e;exact hne (e.trans (HGV.out.1 a hA).symm))⟩) ?_
  clear hK K;simp only[acR,Act.put];have hw7:w7.os=w5.os∧w7.tape=w5.tape∧w7.output=w5.output:=⟨hg2.os.trans hbc.os,hg2.tape.trans hbc.tape,hg2.output.trans hbc.output⟩
  obtain⟨Cg,tyg,hCg⟩: ∃C ty,w5.heap[g]? =some (.cells C ty (0,0)):=by
   obtain⟨C,ty,_,_,_,_,hg,_⟩:=HOW.out.2;exact⟨C,ty,hg⟩
  have hgk:=(hoN g (by omega) (fun a ha=>(HAV.out a ha).2.2)).trans (hbc.block g (by omega));have hg2':=hgk.trans hCg;have hd3:w7.cell? ⟨g,o+3,none⟩=some (.slice AV t.items.length cV):=(World.cell?_of_block (a:=⟨g,o+3,none⟩) hgk).trans HC3.out;have hf3:=Go.Joins.unfrozen_of_block hg2' (o+3);have HW7:=hid (And.intro hown2 (And.intro hpw (And.intro hoN hw7)));have HCG:=hid (And.intro hCg hg2');clear hc1 hown1 hown2 hg2 hmv hoN hw7 hCg hg2' hgk hbc hvc;refine ah rfl (fun K hK=> ?_)
  go_simp
  refine hK _ _ (.inr (aj.refl _ _ _)) ?_;clear hK K;refine ah rfl (fun K hK=> ?_)
  go_simp
  refine hK _ _ (.inr (aj.refl _ _ _)) ?_;clear hK K;refine ah rfl (fun K hK=> ?_)
  go_simp
  refine hK _ _ (.inl (by decide)) ?_;clear hK K hd3 hf3;refine aX ?_
  have hpg:p2≠g:=by
   rcases hpw with h|h
   ·exact(HAV.out _ h).2.2
   ·omega
  have hgW:(w7.setCell ⟨g,o+3,none⟩ (.slice (some ⟨p2,0,none⟩) (t.items.length+1) cap2)).heap[g]? =some (.cells (Cg.setIfInBounds (o+3) (.slice (some ⟨p2,0,none⟩) (t.items.length+1) cap2)) tyg (0,0)):=Go.Joins.block_setCell (i:=o+3) HCG.out.2 _;have hoW: ∀q,q≠g→(w7.setCell ⟨g,o+3,none⟩ (.slice (some ⟨p2,0,none⟩) (t.items.length+1) cap2)).heap[q]? =w7.heap[q]? :=fun q hq=>heap_setCell_other _ ⟨g,o+3,none⟩ q _ hq;have hzW:(w7.setCell ⟨g,o+3,none⟩ (.slice (some ⟨p2,0,none⟩) (t.items.length+1) cap2)).heap.size=w7.heap.size:=by simp
  have hrW:(w7.setCell ⟨g,o+3,none⟩ (.slice (some ⟨p2,0,none⟩) (t.items.length+1) cap2)).os=w7.os∧(w7.setCell ⟨g,o+3,none⟩ (.slice (some ⟨p2,0,none⟩) (t.items.length+1) cap2)).tape=w7.tape∧(w7.setCell ⟨g,o+3,none⟩ (.slice (some ⟨p2,0,none⟩) (t.items.length+1) cap2)).output=w7.output:=⟨rfl,rfl,rfl⟩;generalize w7.setCell ⟨g,o+3,none⟩ (.slice (some ⟨p2,0,none⟩) (t.items.length+1) cap2)=w8 at *;have hown8:=cf (w':=w8) HW7.out.1 fun a ha=>by cases ha;exact hoW p2 hpg
  first
   |have _g:=_two
    have hcell:=fun i (hi:i<(t.items.length+1) * 5)=>World.ownsRow.cellAt hown8 i hi;have q0:w8.cell? ⟨p2,t.items.length * 5,none⟩=some (.int .i64 0):=(hcell _ (by omega)).trans (by rw[←hxl,List.getElem?_append_right (Nat.le_refl _)];simp);have q1:w8.cell? ⟨p2,t.items.length * 5+1,none⟩=some (.int .i64 0):=(hcell _ (by omega)).trans (by rw[←hxl,List.getElem?_append_right (by omega)];simp);have q2:w8.cell? ⟨p2,t.items.length * 5+2,none⟩=some (.string ⟨#[]⟩):=(hcell _ (by omega)).trans (by rw[←hxl,List.getElem?_append_right (by omega)];simp);have q3:w8.cell? ⟨p2,t.items.length * 5+3,none⟩=some (.slice none 0 0):=(hcell _ (by omega)).trans (by rw[←hxl,List.getElem?_append_right (by omega)];simp);have q4:w8.cell? ⟨p2,t.items.length * 5+4,none⟩=some (.slice none 0 0):=(hcell _ (by omega)).trans (by rw[←hxl,List.getElem?_append_right (by omega)];simp);have hfz:=fun i=>World.ownsRow.frozenAt hown8 i;have h9o:=bE w8 p2 (t.items.length * 5) (.int .i64 u.kind) (.int .i64 u.num) (.string u.text) (.slice B u.items.length k) (.slice B' u.names.length k');have h9z:=bQ w8 p2 (t.items.length * 5) (.int .i64 u.kind) (.int .i64 u.num) (.string u.text) (.slice B u.items.length k) (.slice B' u.names.length k');have h9r:=cv w8 p2 (t.items.length * 5) (.int .i64 u.kind) (.int .i64 u.num) (.string u.text) (.slice B u.items.length k) (.slice B' u.names.length k');have h9row:=pq (.int .i64 u.kind) (.int .i64 u.num) (.string u.text) (.slice B u.items.length k) (.slice B' u.names.length k') hown8 hxl;obtain⟨W9,hW9⟩: ∃W,cH w8 p2 (t.items.length * 5) (.int .i64 u.kind) (.int .i64 u.num) (.string u.text) (.slice B u.items.length k) (.slice B' u.names.length k')=W:=⟨_,rfl⟩
    rw[hW9]at h9o h9z h9r h9row
   |obtain⟨W9,hW9⟩: ∃W,w8=W:=⟨_,rfl⟩
    have h9o: ∀q,q≠p2→W9.heap[q]? =w8.heap[q]? :=fun _ _=>by rw[hW9]
    have h9z:W9.heap.size=w8.heap.size:=by rw[hW9]
    have h9r:W9.os=w8.os∧W9.tape=w8.tape∧W9.output=w8.output:=by rw[hW9];exact⟨rfl,rfl,rfl⟩
    have h9row:=hown8;rw[hW9]at h9row
  have hfin:cn F g o w (0,eW t u) (.returned (.int .i64 0)) W9:=by
   obtain⟨hown2,-,hoN,e1',e2',e3'⟩:=HW7.out;obtain⟨hvc,hbc⟩:=HVC.out;obtain⟨hm5,hat5⟩:=HOW.out;have hnF4: ∀q,Iv w.heap.size w1.heap.size q→ ¬F q∧q≠g∧w.heap.size≤q:=fun q hq=>⟨fun e=>by have:=HFL.out.2 q e;have:=hq.1;omega,by have:=hq.1;omega,hq.1⟩;have hnA: ∀q,Iv w.heap.size w1.heap.size q→ ∀a,AV=some a→a.block≠q:=fun q hq a ha e=>(hnF4 q hq).1 (e▸(HAV.out a ha).1)
   have hpv: ∀q,Iv w.heap.size w1.heap.size q→q≠p2:=by
    intro q hq e;rcases hpw with h|h
    ·exact hnA q hq _ h e.symm
    ·have:=hq.2;omega
   obtain⟨F6,k1,k2,k3⟩:=HNX.out w.heap.size W9 p2 cap2 u _ _ _ _ _ (Iv w.heap.size w1.heap.size) (by omega) (by omega) (fun C ty hC=>by
     have e:=HCG.out.1.symm.trans hC;injection e with e
     injection e with e1 e2
     subst e1 e2
     exact(h9o g hpg.symm).trans hgW) h9row (hpw.imp id fun h=>by omega) (fun q hq hqg hqa=>(h9o q (fun e=>by
      rcases hpw with h|h
      ·exact hqa _ h e.symm
      ·omega)).trans ((hoW q hqg).trans ((hoN q (by omega) hqa).trans (hbc.block q hq))))
     (hvc.keep fun q hq=>(h9o q (hpv q hq)).trans ((hoW q (hnF4 q hq).2.1).trans (hoN q (by have:=hq.2;omega) (hnA q hq))))
     (fun q hq=>⟨(hnF4 q hq).2.2,by have:=hq.2;omega,hpv q hq,(hnF4 q hq).1,(hnF4 q hq).2.1⟩) (by omega) (h9r.1.trans (hrW.1.trans e1')) (h9r.2.1.trans (hrW.2.1.trans e2')) (h9r.2.2.trans (hrW.2.2.trans e3'))
   exact⟨rfl,F6,k1,k2,hm5.trans (fun _=> .inl) k3⟩
  have HFIN:=hid hfin;clear hfin hgW hoW hzW hrW hown8 h9o h9z h9r h9row;subst hW9;have hlt1:(t.items.length:Int)<(t.items.length:Int)+1:=by omega
  clear HW7 HCG HVC HNX HOW HGV HAV HRV HC3;go_wp2_with fail;go_ret;exact HFIN.out
theorem sd :eE 128:=fun _ _=>by simp[callFunc,go_sem,Tryz.func128,Tryz.f128]
def bz (x:VT)(t:VT):List ByteArray→Int×VT
 | []=>(0,t)
 |s::r=>if 0≤ab t s then(0,bS t (ab t s).toNat x)else if t.kind=7 then(0,eW (gp t s) (al r x))else if t.kind=6∧fv t s r=true then(0,eW t x)else(40,t)
theorem cg (x t:VT)(s:ByteArray)(r:List ByteArray):bz x t (s::r)=if 0≤ab t s then((0:Int),bS t (ab t s).toNat x)else if t.kind=7 then((0:Int),eW (gp t s) (al r x))else if t.kind=6∧fv t s r=true then((0:Int),eW t x)else((40:Int),t):=rfl
theorem zi (S F:Nat→Prop)(t u:VT)(g o:Nat)(A:Option Addr)(c:Nat)(s:ByteArray)(r:List ByteArray)(w w1:World)(B:Option Addr)(k:Nat)(B':Option Addr)(k':Nat)(h:OAt w F t g o)(hm:ao t=true)(hsm:eC t)(hb1:Below w.heap.size w w1)
  (hp:ai w S A (s::r)) (hn:r.length+1≤c) (h63:c≤9223372036854775807) (hrn:r.length+1≤9223372036854775807) (hS: ∀b,S b→b<w.heap.size) (hSF: ∀b,S b→ ¬F b∧b≠g) (hend:ab t s<0∨r= [])
  (hu:OV w1 (Iv w.heap.size w1.heap.size) u (.agg #[.int .i64 u.kind,.int .i64 u.num,.string u.text,.slice B u.items.length k,.slice B' u.names.length k'])):
  Calls Tryz.prog 129 #[.agg #[.pointer (some ⟨g,o,none⟩),.int .i64 (ab t s),.slice A (r.length+1) c],.agg #[.int .i64 u.kind,.int .i64 u.num,.string u.text,.slice B u.items.length k,.slice B' u.names.length k']] w1 (cn F g o w (bz u t (s::r))):=by
 have hge:=iJ t s;rw[cg];by_cases h0:0≤ab t s
 ·rw[if_pos h0];have hj:=aP (bT hm) h0;have:=vo F t u g o (ab t s).toNat hj (.slice A (r.length+1) c) w w1 B k B' k' h hb1 hu;rw[show(((ab t s).toNat:Nat):Int)=ab t s by omega]at this;exact this
 rw[if_neg h0];by_cases h7:t.kind=7
 ·rw[if_pos h7];exact yo S F t u g o _ (by omega) h7 hsm A c s r w w1 B k B' k' h hb1 hp hn h63 hrn hS hSF hu
 rw[if_neg h7];by_cases h6:t.kind=6∧fv t s r=true
 ·rw[if_pos h6];exact yV S F t u g o _ (by omega) h6.1 hsm s r h6.2 A c w w1 B k B' k' h hb1 hp hrn hS hu
 ·rw[if_neg h6]
  exact yO S F t _ g o _ (by omega) s r h7 (fun e=>by
   cases hx:fv t s r with
   |false=>rfl
   |true=>exact absurd ⟨e,hx⟩ h6) A c w w1 B k B' k' u h hb1 hp hrn hS rfl
theorem xT (S Sx:Nat→Prop)(x:VT)(X:Option Addr)(kx:Nat)(X':Option Addr)(kx':Nat)(bx:Nat)(t:VT)(g o:Nat)(A:Option Addr)(c:Nat)(s:ByteArray)(r:List ByteArray)(F:Nat→Prop)(w:World)(h:OAt w F t g o)(hm:ao t=true)(hsm:eC t)
  (hp:ai w S A (s::r)) (hn:r.length+1≤c) (h63:c≤9223372036854775807) (hrn:r.length+1≤9223372036854775807) (hS: ∀b,S b→b<w.heap.size) (hSF: ∀b,S b→ ¬F b∧b≠g) (hend:ab t s<0∨r= [])
  (hSx: ∀b,Sx b→b<w.heap.size) (hx:LV w Sx x (.agg #[.int .i64 x.kind,.int .i64 x.num,.string x.text,.slice X x.items.length kx,.slice X' x.names.length kx'])) (hbx:Box w bx (.int .i64 x.kind) (.int .i64 x.num) (.string x.text) (.slice X x.items.length kx) (.slice X' x.names.length kx')):
  Calls Tryz.prog 128 #[.agg #[.pointer (some ⟨g,o,none⟩),.int .i64 (ab t s),.slice A (r.length+1) c],.pointer (some ⟨bx,0,none⟩)] w (cn F g o w (bz x t (s::r))):=by
 obtain⟨P,hP⟩: ∃P,P=ab t s:=⟨_,rfl⟩;have hgl:=h.lt;have hbl:=hbx.lt;have hz0:(w.alloc (.cells #[.pointer (some ⟨g,o,none⟩),.int .i64 P,.slice A (r.length+1) c] 108)).drew.heap.size=w.heap.size+1:=by simp
 have hb0:Below w.heap.size w (w.alloc (.cells #[.pointer (some ⟨g,o,none⟩),.int .i64 P,.slice A (r.length+1) c] 108)).drew:=(ae _).drew;have hs:(w.alloc (.cells #[.pointer (some ⟨g,o,none⟩),.int .i64 P,.slice A (r.length+1) c] 108)).drew.heap[w.heap.size]? =some (.cells #[.pointer (some ⟨g,o,none⟩),.int .i64 P,.slice A (r.length+1) c] 108 (0,0)):=heap_alloc_new w _
 have hput: ∀(w0 w1:World) (B:Option Addr) (k:Nat) (B':Option Addr) (k':Nat),Below w.heap.size w w0→Below w0.heap.size w0 w1→OV w1 (Iv w0.heap.size w1.heap.size) x (.agg #[.int .i64 x.kind,.int .i64 x.num,.string x.text,.slice B x.items.length k,.slice B' x.names.length k'])→
   Calls Tryz.prog 129 #[.agg #[.pointer (some ⟨g,o,none⟩),.int .i64 P,.slice A (r.length+1) c],.agg #[.int .i64 x.kind,.int .i64 x.num,.string x.text,.slice B x.items.length k,.slice B' x.names.length k']] w1 (cn F g o w (bz x t (s::r))):=by
  intro w0 w1 B k B' k' hbw hb1 hu;rw[hP];refine(zi S F t x g o A c s r w0 w1 B k B' k' (h.keep hbw) hm hsm hb1 (hp.keep fun b hb=>hbw.block b (hS b hb)) hn h63 hrn (fun b hb=>Nat.lt_of_lt_of_le (hS b hb) hbw.size) hSF hend hu).mono ?_;exact fun e w' hd=>hd.from hbw hgl
 have HPUT:=hid hput;have HB0:=hid hb0;have HXV:=hid (And.intro hSx (And.intro hx hbx));have HS:=hid hs;rw[←hP];generalize bz x t (s::r)=res at *;clear hput hb0 hx hbx hs hSx h hp hS hSF hend hP;go_enter Tryz.func128,Tryz.ntmps128;go_wp2_with fail;refine av (aj (w.heap.size+5) (w.heap.size+5)) (aj.refl _ _) (aj.trans _ _) [3,4] (.pure [0] (.step 1 (.step 2 (.step 3 (.step 4 (.tail [])))))) (by kernel_rfl) (by kernel_rfl) (fun _ d _ _ _ h=>by cases d<;>exact h) ?_;generalize (w.alloc (.cells #[.pointer (some ⟨g,o,none⟩),.int .i64 P,.slice A (r.length+1) c] 108)).drew=w0 at *;have kf: ∀(p:af (aj (w.heap.size+5) (w.heap.size+5)) w0) (i:Nat),p.u.cell? ⟨w.heap.size,i,none⟩=w0.cell? ⟨w.heap.size,i,none⟩:=fun p i=>World.cell?_of_block (a:=⟨w.heap.size,i,none⟩) (p.h.2 w.heap.size (by omega) (by omega) (by omega));have s0:=fun p:af (aj (w.heap.size+5) (w.heap.size+5)) w0=>(kf p 0).trans (Go.Joins.cell_of_block HS.out 0);have s1:=fun p:af (aj (w.heap.size+5) (w.heap.size+5)) w0=>(kf p 1).trans (Go.Joins.cell_of_block HS.out 1);have s2:=fun p:af (aj (w.heap.size+5) (w.heap.size+5)) w0=>(kf p 2).trans (Go.Joins.cell_of_block HS.out 2);clear kf;refine bN ?_;simp only[atR];show wpQuiet _ _ _ _ [_] _;try simp only[acR,Act.put]
 repeat(go_big_quiet_step (fail))
 refine wpQuiet_nil ?_;clear s0 s1 s2;have hbx0:=HXV.out.2.2.below HB0.out hbl;have y0:=hbx0.c0;have y1:=hbx0.c1;have y2:=hbx0.c2;have y3:=hbx0.c3;have y4:=hbx0.c4;clear hbx0;refine ah rfl (fun K hK=> ?_)
 go_simp
 refine hK _ _ (.inr (aj.refl _ _ _)) ?_;clear hK K y0 y1 y2 y3 y4;refine ah rfl (fun K hK=> ?_)
 go_simp
 refine(kJ Sx x _ w0 (fun b hb=>by have:=HXV.out.1 b hb;omega) (HXV.out.2.1.keep fun b hb=>HB0.out.block b (HXV.out.1 b hb))).mono ?_;rintro e w1 ⟨v',rfl,hov,hb1⟩;obtain⟨B,k,B',k',ys,rfl,-⟩:=hov.shape;refine hK _ _ (.inr (aj.of hb1)) ?_;clear hK K;have HC:=hid (HPUT.out w0 w1 B k B' k' HB0.out hb1 hov);clear hov hb1 HPUT;refine ah rfl (fun K hK=> ?_)
 go_simp
 refine HC.out.mono ?_;rintro e w2 hd;have he:=hd.1;subst he;refine hK _ _ (.inl (by decide)) ?_;have HD:=hid hd;clear hK K hd HC;refine ah rfl (fun K hK=> ?_)
 go_simp
 refine hK _ _ (.inl (by decide)) ?_;clear hK K;refine aX ?_;go_wp2_with fail;go_ret;exact HD.out
theorem yx (S:Nat→Prop)(t:VT)(v:Value)(A:Option Addr)(c:Nat)(p:List ByteArray)(x:VT)(vx:Value)(w:World)(hS: ∀b,S b→b<w.heap.size)(h:LV w S t v)(hd:ac t≤4611686018427387903)(hsm:eC t)(hp:ai w S A p)(hn:p.length≤140737488351232)(hpc:p.length≤c)(h63:c≤9223372036854775807)
  (hx:LV w S x vx) (hdx:ac x≤4611686018427387903):
  Calls Tryz.prog 84 #[v,.slice A p.length c,vx] w (ej (if ao x=true then bl (bz x) t p else(20,aT)) w):=by
 obtain⟨A0,c0,A0',c0',rfl,-,-,-,v1,hb0⟩:=bY hS h;obtain⟨X,kx,X',kx',rfl,-⟩:=hx.shape;obtain⟨RES,hRES⟩: ∃R,R=if ao x=true then bl (bz x) t p else(20,aT):=⟨_,rfl⟩
 rw[←hRES];have HRES:=hid hRES;clear hRES;have HX:=hid v1.x;have HB:=hid hb0;have HV:=hid h;have HP:=hid hp;have HD:=hid hd;have HXV:=hid hx;clear h v1 hb0 hd hp hx;go_enter Tryz.func84,Tryz.ntmps84;go_wp2_with fail;generalize hE1:w.alloc (.cells #[.int .i64 t.kind,.int .i64 t.num,.string t.text,.slice A0 t.items.length c0,.slice A0' t.names.length c0'] 25)=W1 at *;have hz1:W1.heap.size=w.heap.size+1:=by rw[←hE1];simp
 have hz2:(W1.alloc (.cells #[.int .i64 x.kind,.int .i64 x.num,.string x.text,.slice X x.items.length kx,.slice X' x.names.length kx'] 25)).heap.size=w.heap.size+2:=by simp[hz1]
 have hz3:((W1.alloc (.cells #[.int .i64 x.kind,.int .i64 x.num,.string x.text,.slice X x.items.length kx,.slice X' x.names.length kx'] 25)).alloc (.cells #[.int .i64 0,.int .i64 0,.string ⟨#[]⟩,.slice none 0 0,.slice none 0 0] 25)).heap.size=w.heap.size+3:=by simp[hz1]
 have hB0:Below w.heap.size w ((W1.alloc (.cells #[.int .i64 x.kind,.int .i64 x.num,.string x.text,.slice X x.items.length kx,.slice X' x.names.length kx'] 25)).alloc (.cells #[.int .i64 0,.int .i64 0,.string ⟨#[]⟩,.slice none 0 0,.slice none 0 0] 25)):=(HB.out.alloc (by omega) _).alloc (by omega) _;have hX0:=(HX.out.alloc (.cells #[.int .i64 x.kind,.int .i64 x.num,.string x.text,.slice X x.items.length kx,.slice X' x.names.length kx'] 25)).alloc (.cells #[.int .i64 0,.int .i64 0,.string ⟨#[]⟩,.slice none 0 0,.slice none 0 0] 25)
 have hN1:Box (W1.alloc (.cells #[.int .i64 x.kind,.int .i64 x.num,.string x.text,.slice X x.items.length kx,.slice X' x.names.length kx'] 25)) (w.heap.size+1) (.int .i64 x.kind) (.int .i64 x.num) (.string x.text) (.slice X x.items.length kx) (.slice X' x.names.length kx'):=by
  have h:=Box.new (w:=W1) (.int .i64 x.kind) (.int .i64 x.num) (.string x.text) (.slice X x.items.length kx) (.slice X' x.names.length kx');rw[hz1]at h;exact h
 have hN0:=hN1.alloc (.cells #[.int .i64 0,.int .i64 0,.string ⟨#[]⟩,.slice none 0 0,.slice none 0 0] 25)
 have hR0:Box ((W1.alloc (.cells #[.int .i64 x.kind,.int .i64 x.num,.string x.text,.slice X x.items.length kx,.slice X' x.names.length kx'] 25)).alloc (.cells #[.int .i64 0,.int .i64 0,.string ⟨#[]⟩,.slice none 0 0,.slice none 0 0] 25)) (w.heap.size+2) (.int .i64 0) (.int .i64 0) (.string ⟨#[]⟩) (.slice none 0 0) (.slice none 0 0):=by
  have h:=Box.new (w:=W1.alloc (.cells #[.int .i64 x.kind,.int .i64 x.num,.string x.text,.slice X x.items.length kx,.slice X' x.names.length kx'] 25)) (.int .i64 0) (.int .i64 0) (.string ⟨#[]⟩) (.slice none 0 0) (.slice none 0 0);rw[hz2]at h;exact h
 clear hE1 hN1;generalize (W1.alloc (.cells #[.int .i64 x.kind,.int .i64 x.num,.string x.text,.slice X x.items.length kx,.slice X' x.names.length kx'] 25)).alloc (.cells #[.int .i64 0,.int .i64 0,.string ⟨#[]⟩,.slice none 0 0,.slice none 0 0] 25)=w2 at *;have HB0:=hid hB0;have HR0:=hid hR0;have HX0:=hid hX0;have HN0:=hid hN0;have n0:=hN0.c0;have n1:=hN0.c1;have n2:=hN0.c2;have n3:=hN0.c3;have n4:=hN0.c4;have HM:=hid (iQ S x _ w2 (fun b hb=>by have:=hS b hb;omega) (HXV.out.keep fun b hb=>hB0.block b (hS b hb)) hdx);clear hB0 hR0 hX0 hN0 HB HX;try rw[hz1]
 go_wp2_with fail;refine HM.out.mono ?_;rintro e w3 ⟨rfl,hb3⟩;have HB3:=hid (HB0.out.trans (hb3.mono (show w.heap.size≤w2.heap.size by omega)));have HX3:=hid (HX0.out.call hb3);have HR3:=hid (HR0.out.call hb3);have HN3:=hid (HN0.out.call hb3);have hzz3:=hb3.size;clear hb3 HM HB0 HX0 HR0 HN0 n0 n1 n2 n3 n4;have rf:=fun i=>HR3.out.free i;have r0:=HR3.out.c0;have r1:=HR3.out.c1;have r2:=HR3.out.c2;have r3:=HR3.out.c3;have r4:=HR3.out.c4
 cases hmx:ao x with
 |false=>
  have HEND:=hid (cC (res:=(20,aT)) (w:=w) 2 HB3.out (ic w3 (Iv (w.heap.size+2+1) w3.heap.size)) rfl);have HBOX:=hid (aZ (c0:= .int .i64 0) (c1:= .int .i64 0) (c2:= .string ⟨#[]⟩) (c3:= .slice none 0 0) (c4:= .slice none 0 0) HR3.out);have hr:=HRES.out;rw[hmx,if_neg (by simp)]at hr;subst hr;go_wp2_with fail;refine bodyPost_ret (aq rfl _ _ (w.heap.size+2) 25 _ (0,0) rfl HBOX.out (by kernel_rfl)) rfl ?_
  exact HEND.out
 |true=>
 have hr:=HRES.out;rw[hmx,if_pos rfl]at hr;subst hr;have q0:=HX3.out.c0;have q1:=HX3.out.c1;have q2:=HX3.out.c2;have q3:=HX3.out.c3;have q4:=HX3.out.c4
 have HC:=hid (iC 128 #[.pointer (some ⟨w.heap.size+1,0,none⟩)] (bz x) S (fun w'=>Below w.heap.size w w'∧Box w' (w.heap.size+1) (.int .i64 x.kind) (.int .i64 x.num) (.string x.text) (.slice X x.items.length kx) (.slice X' x.names.length kx')) eC eC.item sd (fun w1 w2 hj hb=>⟨hj.1.trans (hb.mono hj.1.size),hj.2.call hb⟩)
  (fun w1 t g o A c s r F hj ho hm hq hst hc h63' hS1 hSF hend=>xT S S x X kx X' kx' (w.heap.size+1) t g o A c s r F w1 ho hm hq hst hc h63' (by omega) hS1 hSF hend (fun b hb=>hS1 b hb) (HXV.out.keep fun b hb=>hj.1.block b (hS b hb)) hj.2) t _ A c p w3 ⟨HB3.out,HN3.out⟩ hsm (fun b hb=>by have:=hS b hb;omega) (HV.out.keep fun b hb=>HB3.out.block b (hS b hb)) HD.out (HP.out.keep fun b hb=>HB3.out.block b (hS b hb)) hn hpc h63)
 clear r0 r1 r2 r3 r4 rf;go_wp2_with fail;try rw[hz1]
 refine HC.out.mono ?_;rintro e w5 ⟨v',rfl,hv,hb5⟩;obtain⟨B,k,B',k',rfl,-⟩:=hv.shape;have HB5:=hid (HB3.out.trans (hb5.mono (show w.heap.size≤w3.heap.size by omega)));have HR5:=hid (HR3.out.call hb5);have HV5:=hid (hv.imp (S':=Iv (w.heap.size+2+1) w5.heap.size) fun b hb=>⟨by have:=hb.1;omega,hb.2⟩);have rf:=fun i=>HR5.out.free i;have r0:=HR5.out.c0;have r1:=HR5.out.c1;have r2:=HR5.out.c2;have r3:=HR5.out.c3;have r4:=HR5.out.c4;generalize hres:bl (bz x) t p=res at *;obtain⟨xx,u⟩:=res;simp only at *;have HEND:=hid (cC (res:=(xx,u)) 2 HB5.out HV5.out rfl);have HBOX:=hid (aZ (c0:= .int .i64 u.kind) (c1:= .int .i64 u.num) (c2:= .string u.text) (c3:= .slice B u.items.length k) (c4:= .slice B' u.names.length k') HR5.out);clear hv hb5 HC HR3 HB3 HX3 HN3 HV5 HB5 hz2 hres q0 q1 q2 q3 q4 hz1;go_wp2_with fail;refine bodyPost_ret (aq rfl _ _ (w.heap.size+2) 25 _ (0,0) rfl HBOX.out (by kernel_rfl)) rfl ?_;exact HEND.out
def zR (B:Nat)(w w':World):Prop:= ∀b,b<B→w'.heap[b]? =w.heap[b]?
theorem zR.refl (B:Nat)(w:World):zR B w w:=fun _ _=>rfl
instance (B :Nat) (w:World):Inhabited (af (zR B) w):=⟨⟨w,zR.refl B w⟩⟩
end Go.Proofs.YtgbopnlpaabelaaGreatDoor
/- What lies at one step of a value: plain. -/
namespace Go.Proofs.YtgbopnlpaabelaaGreatDoor
/-! ### what lies at one step -/
def ar (t:VT)(s:ByteArray):Option VT:=if ab t s<0 then none else t.items[(ab t s).toNat]?
theorem aI (t:VT)(s:ByteArray)(r:List ByteArray):aV t (s::r)=(ar t s).bind fun u=>aV u r:=by
  conv=>lhs;unfold aV
  unfold ar
  split
  · rfl
  · cases t.items[(ab t s).toNat]? <;>rfl
def cd :List ByteArray→List VT→ByteArray→Option VT
  |a::r,x::l,s=>if a=s then some x else cd r l s
  |_,_,_=>none
theorem db (s:ByteArray): ∀(l:List ByteArray) (k:Nat),nmI k l s=if nmI 0 l s<0 then -1 else nmI 0 l s+k
  | [],k=>by unfold nmI;simp
  |a::r,k=>by
    unfold nmI;by_cases h:a=s
    · rw[if_pos h,if_pos h];simp
    · rw[if_neg h,if_neg h]
      have h1:=db s r (k+1);have h2:=db s r 1;have h3:=(im (s:=s) (l:=r) (k:=0)).1;rw[h1];show _=if nmI (0+1) r s<0 then(-1:Int)else nmI (0+1) r s+k
      rw[show 0+1=1 from rfl,h2]
      split<;>split<;>omega
theorem nM (s:ByteArray): ∀(ns:List ByteArray) (l:List VT),(if nmI 0 ns s<0 then none else l[(nmI 0 ns s).toNat]?)=cd ns l s
  | [],l=>by unfold nmI cd;simp
  |a::r,l=>by
    by_cases h:a=s
    · have e:nmI 0 (a::r) s=0:=by unfold nmI;rw[if_pos h];rfl
      rw[e]
      cases l with
      |nil=>unfold cd;simp
      |cons x l=>unfold cd;simp[h]
    · have e:nmI 0 (a::r) s=nmI 1 r s:=by conv=>lhs;unfold nmI
                                          rw[if_neg h]
      have e2:=db s r 1;have ih:=nM s r;rw[e,e2];have h3:=(im (s:=s) (l:=r) (k:=0)).1
      cases l with
      |nil=>
        unfold cd
        split<;>simp
      |cons x l=>
        unfold cd;rw[if_neg h,←ih l];by_cases hn:nmI 0 r s<0
        · rw[if_pos hn,if_pos hn];rfl
        · rw[if_neg hn,if_neg hn,if_neg (by omega)]
          have:(nmI 0 r s+((1:Nat):Int)).toNat=(nmI 0 r s).toNat+1:=by omega
          rw[this,List.getElem?_cons_succ]
theorem eV {t:VT}(h:t.kind=7)(s:ByteArray):ar t s=cd t.names t.items s:=by
  unfold ar;rw[bL h];exact nM s t.names t.items
theorem mI {t:VT}(h:t.kind=6)(s:ByteArray):ar t s=if ed s.data.toList<0 then none else t.items[(ed s.data.toList).toNat]? :=by
  unfold ar;rw[dC h];by_cases h1:ed s.data.toList<(t.items.length:Int)
  · rw[if_pos h1]
  · rw[if_neg h1,if_pos (by omega)]
    split
    · rfl
    · rw[List.getElem?_eq_none (by omega)]
theorem uv {s s':ByteArray}: ∀ {l:List ByteArray} {k:Nat},nmI k l s=nmI k l s'→0≤nmI k l s→s=s'
  | [],k,_,h0=>by unfold nmI at h0;omega
  |a::r,k,h,h0=>by
    unfold nmI at h h0;have b1:=db s r (k+1);have b2:=db s' r (k+1);by_cases h1:a=s
    · rw[if_pos h1]at h h0
      by_cases h2:a=s'
      · exact h1.symm.trans h2
      · rw[if_neg h2,b2]at h
        split at h<;>omega
    · rw[if_neg h1]at h h0
      by_cases h2:a=s'
      · rw[if_pos h2,b1]at h
        split at h<;>omega
      · rw[if_neg h2]at h
        exact uv h h0
theorem bP (t:VT):ao t=true↔aU t.kind t.num t.text t.items.length t.names=true∧ ∀x∈t.items,ao x=true:=by
  rw[nC,Bool.and_eq_true];refine and_congr_right fun _=>⟨fun h x hx=>eh h hx,fun h=>mY fun j hj=>h _ (List.getElem_mem hj)⟩
/-! ### steps as numbers -/
theorem iF : ∀(l:List UInt8) (n m:Nat),fc n l=some m→n * 10 ^ l.length≤m∧m<(n+1) * 10 ^ l.length
 | [],n,m,h=>by
  unfold fc at h;injection h with h
  subst h
  simp
 |b::r,n,m,h=>by
  unfold fc at h
  split at h
  ·cases h
  ·rename_i hb
   split at h
   ·cases h
   ·obtain⟨h1,h2⟩:=iF r _ m h;rw[List.length_cons,Nat.pow_succ];have hd:b.toNat - 48≤9:=by omega
    have hp:0<10 ^ r.length:=Nat.pow_pos (by omega);generalize 10 ^ r.length=P at *;generalize b.toNat - 48=d at *;constructor
    ·refine Nat.le_trans ?_ h1;rw[Nat.mul_comm P 10,←Nat.mul_assoc];exact Nat.mul_le_mul_right P (by omega)
    ·refine Nat.lt_of_lt_of_le h2 ?_;rw[Nat.mul_comm P 10,←Nat.mul_assoc];exact Nat.mul_le_mul_right P (by omega)
theorem uN : ∀(l l':List UInt8) (n n' m:Nat),fc n l=some m→fc n' l'=some m→l.length=l'.length→n=n'∧l=l'
 | [],[],n,n',m,h,h',_=>by
  unfold fc at h h';injection h with h
  injection h' with h'
  exact⟨h.trans h'.symm,rfl⟩
 | [],_::_,_,_,_,_,_,hl=>by simp at hl
 |_::_,[],_,_,_,_,_,hl=>by simp at hl
 |b::r,b'::r',n,n',m,h,h',hl=>by
  unfold fc at h h'
  split at h
  ·cases h
  ·split at h
   ·cases h
   ·split at h'
    ·cases h'
    ·split at h'
     ·cases h'
     ·obtain⟨e1,e2⟩:=uN r r' _ _ m h h' (by simpa using hl);have e3:b.toNat=b'.toNat:=by omega
      have e4:b=b':=UInt8.toNat_inj.mp e3;subst e2 e4;exact⟨by omega,rfl⟩
theorem yB {a b:List UInt8}{n:Nat}(h:fV a=some n)(k:fV b=some n):a=b:=by
 unfold fV at h k
 split at h
 ·cases h
 ·rename_i ha
  split at k
  ·cases k
  ·rename_i hb
   cases a with
   |nil=>exact absurd (.inl rfl) ha
   |cons x r=>
    cases b with
    |nil=>exact absurd (.inl rfl) hb
    |cons y s=>
     have key:(x::r).length=(y::s).length:=by
      have h0:=h;have k0:=k;unfold fc at h0 k0
      split at h0
      ·cases h0
      ·rename_i hx
       split at h0
       ·cases h0
       ·split at k0
        ·cases k0
        ·rename_i hy
         split at k0
         ·cases k0
         ·obtain⟨h1,h2⟩:=iF _ _ _ h0;obtain⟨k1,k2⟩:=iF _ _ _ k0
          have zx:x.toNat=48→r= []:=fun e=>by
           have e2:x=48:=UInt8.toNat_inj.mp e;subst e2
           cases r with
           |nil=>rfl
           |cons _ _=>exact absurd (.inr ⟨rfl,by simp⟩) ha
          have zy:y.toNat=48→s= []:=fun e=>by
           have e2:y=48:=UInt8.toNat_inj.mp e;subst e2
           cases s with
           |nil=>rfl
           |cons _ _=>exact absurd (.inr ⟨rfl,by simp⟩) hb
          have e1:10 * 0+(x.toNat - 48)=x.toNat - 48:=by omega
          have e2:10 * 0+(y.toNat - 48)=y.toNat - 48:=by omega
          rw[e1]at h1 h2;rw[e2]at k1 k2
          have up: ∀(d P:Nat),1≤d→P≤d * P:=fun d P hd=>by
           have:=Nat.mul_le_mul_right P hd;omega
          have lo: ∀(d P:Nat),d≤9→(d+1) * P≤10 * P:=fun d P hd=>Nat.mul_le_mul_right P (by omega);have hr1:=lo (x.toNat - 48) (10 ^ r.length) (by omega);have hs1:=lo (y.toNat - 48) (10 ^ s.length) (by omega);by_cases cx:x.toNat=48
          ·have:=zx cx;subst this;by_cases cy:y.toNat=48
           ·have:=zy cy;subst this;rfl
           ·have hs2:=up (y.toNat - 48) (10 ^ s.length) (by omega);have hp:0<10 ^ s.length:=Nat.pow_pos (by omega);rw[cx]at h2;simp at h2;omega
          ·by_cases cy:y.toNat=48
           ·have:=zy cy;subst this;have hr2:=up (x.toNat - 48) (10 ^ r.length) (by omega);have hp:0<10 ^ r.length:=Nat.pow_pos (by omega);rw[cy]at k2;simp at k2;omega
           ·have hr2:=up (x.toNat - 48) (10 ^ r.length) (by omega);have hs2:=up (y.toNat - 48) (10 ^ s.length) (by omega)
            have mono: ∀i j:Nat,i<j→10 * 10 ^ i≤10 ^ j:=fun i j hij=>by
             have:=Nat.pow_le_pow_right (n:=10) (by omega) hij;rw[Nat.succ_eq_add_one,Nat.pow_succ]at this;omega
            simp only[List.length_cons];rcases Nat.lt_trichotomy r.length s.length with hlt|heq|hgt
            ·have:=mono _ _ hlt;omega
            ·omega
            ·have:=mono _ _ hgt;omega
     exact(uN _ _ _ _ _ h k key).2
theorem qY {a b:List UInt8}(h:ed a=ed b)(h0:0≤ed a):a=b:=by
 cases ha:fV a with
 |none=>rw[dH ha]at h0;omega
 |some n=>
  cases hb:fV b with
  |none=>rw[h,dH hb]at h0;omega
  |some m=>
   rw[ge ha,ge hb]at h;have:n=m:=by omega
   subst this;exact yB ha hb
theorem vB {t:VT}{s s':ByteArray}(h:ab t s=ab t s')(h0:0≤ab t s):s=s':=by
 by_cases h7:t.kind=7
 ·rw[bL h7,bL h7]at h;rw[bL h7]at h0;exact uv h h0
 ·by_cases h6:t.kind=6
  ·rw[dC h6]at h h0;rw[dC h6]at h
   split at h
   ·rename_i h1;rw[if_pos h1]at h0
    split at h
    ·have:=qY h h0;cases s;cases s';simp only[ByteArray.mk.injEq];exact Array.toList_inj.mp this
    ·omega
   ·rename_i h1;rw[if_neg h1]at h0;omega
  ·rw[fM h7 h6]at h0;omega
theorem lF {s s':ByteArray}(hne:s'≠s): ∀(ns:List ByteArray) (l:List VT) (j:Nat),nmI 0 ns s=(j:Int)→cd (ns.eraseIdx j) (l.eraseIdx j) s'=cd ns l s'
  | [],l,j,h=>by unfold nmI at h;omega
  |a::r,l,j,h=>by
    by_cases ha:a=s
    · have e:nmI 0 (a::r) s=0:=by unfold nmI;rw[if_pos ha];rfl
      have:j=0:=by omega
      subst this;subst ha
      cases l with
      |nil=>
        simp only[List.eraseIdx_zero,List.tail_cons,List.tail_nil]
        cases r<;>rfl
      |cons x l=>
        simp only[List.eraseIdx_zero,List.tail_cons]
        conv=>rhs;unfold cd
        rw[if_neg (fun e=>hne e.symm)]
    · have e:nmI 0 (a::r) s=nmI 1 r s:=by conv=>lhs;unfold nmI
                                          rw[if_neg ha]
      have e2:=db s r 1;have h3:=(im (s:=s) (l:=r) (k:=0)).1;rw[e,e2]at h;have hn: ¬nmI 0 r s<0:=fun hh=>by rw[if_pos hh]at h;omega
      rw[if_neg hn]at h;obtain⟨i,rfl⟩: ∃i,j=i+1:=⟨j - 1,by omega⟩;have hi:nmI 0 r s=(i:Int):=by omega
      cases l with
      |nil=>
        simp only[List.eraseIdx_cons_succ,List.eraseIdx_nil]
        rfl
      |cons x l=>
        simp only[List.eraseIdx_cons_succ];unfold cd;rw[lF hne r l i hi]
theorem ls {s s':ByteArray}(hne:s'≠s)(y:VT): ∀(ns:List ByteArray) (l:List VT),ns.length=l.length→cd (ns++[s]) (l++[y]) s'=cd ns l s'
  | [],[],_=>by
    show cd [s] [y] s'=_;unfold cd;rw[if_neg (fun e=>hne e.symm)];unfold cd
    rfl
  | [],_::_,h=>by simp at h
  |_::_,[],h=>by simp at h
  |a::r,x::l,h=>by
    simp only[List.cons_append];unfold cd;rw[ls hne y r l (by simpa using h)]
theorem nG {s:ByteArray}(y:VT): ∀(ns:List ByteArray) (l:List VT),ns.length=l.length→nmI 0 ns s<0→cd (ns++[s]) (l++[y]) s=some y
  | [],[],_,_=>by
    show cd [s] [y] s=_;unfold cd
    rw[if_pos rfl]
  | [],_::_,h,_=>by simp at h
  |_::_,[],h,_=>by simp at h
  |a::r,x::l,h,hn=>by
    simp only[List.cons_append];unfold cd;by_cases ha:a=s
    · unfold nmI at hn
      rw[if_pos ha]at hn;omega
    · rw[if_neg ha]
      refine nG y r l (by simpa using h) ?_;unfold nmI at hn;rw[if_neg ha,db]at hn
      split at hn<;>omega
theorem ez (t:VT)(j:Nat)(u:VT):(bS t j u).kind=t.kind:=by cases t;rfl
theorem dq (t:VT)(j:Nat)(u:VT):(bS t j u).items=t.items.set j u:=by cases t;rfl
theorem tM (t:VT)(j:Nat)(u:VT):(bS t j u).names=t.names:=by cases t;rfl
theorem fC (t:VT)(j:Nat)(u:VT)(s:ByteArray):ab (bS t j u) s=ab t s:=by
  unfold ab;rw[ez,dq,tM,List.length_set]
theorem eT {t:VT}{s:ByteArray}(u:VT)(h:0≤ab t s)(hj:(ab t s).toNat<t.items.length):ar (bS t (ab t s).toNat u) s=some u:=by
  unfold ar;rw[fC,if_neg (by omega),dq,List.getElem?_set_self hj]
theorem dB {t:VT}{s s':ByteArray}(u:VT)(hne:s'≠s)(h:0≤ab t s):ar (bS t (ab t s).toNat u) s'=ar t s':=by
  unfold ar;rw[fC]
  split
  · rfl
  · rename_i hn
    rw[dq,List.getElem?_set_ne];intro e;have:ab t s=ab t s':=by omega
    exact hne (vB this h).symm
theorem iM (t:VT)(j:Nat):(nZ t j).kind=t.kind:=by cases t;rfl
theorem rP {t:VT}{s s':ByteArray}(hk:t.kind=7)(hne:s'≠s)(h:0≤ab t s):ar (nZ t (ab t s).toNat) s'=ar t s':=by
  rw[eV hk,eV ((iM _ _).trans hk)];have e:nmI 0 t.names s=((ab t s).toNat:Int):=by rw[bL hk]at h ⊢;omega
  cases t with
  |mk k i x l ns=>exact lF hne ns l _ e
theorem iE (t:VT)(s:ByteArray)(y:VT):(eW (gp t s) y).kind=t.kind:=by cases t;rfl
theorem kA (t:VT)(y:VT):(eW t y).kind=t.kind:=by cases t;rfl
theorem fx {t:VT}{s s':ByteArray}(y:VT)(hk:t.kind=7)(hl:t.names.length=t.items.length)(hne:s'≠s):ar (eW (gp t s) y) s'=ar t s':=by
  rw[eV hk,eV ((iE _ _ _).trans hk)]
  cases t with
  |mk k i x l ns=>exact ls hne y ns l hl
theorem eQ {t:VT}{s:ByteArray}(y:VT)(hk:t.kind=7)(hl:t.names.length=t.items.length)(h:ab t s<0):ar (eW (gp t s) y) s=some y:=by
  rw[eV ((iE _ _ _).trans hk)];rw[bL hk]at h
  cases t with
  |mk k i x l ns=>exact nG y ns l hl h
theorem lR {t:VT}{s s':ByteArray}(y:VT)(hk:t.kind=6)(h:ed s.data.toList=(t.items.length:Int))(hne:s'≠s):ar (eW t y) s'=ar t s':=by
  rw[mI hk,mI ((kA _ _).trans hk)]
  split
  · rfl
  · rename_i hn
    have hd:(ed s'.data.toList).toNat≠t.items.length:=fun e=>by
      have e2:ed s'.data.toList=ed s.data.toList:=by omega
      have:=qY e2 (by omega);refine hne ?_;cases s;cases s';simp only[ByteArray.mk.injEq];exact Array.toList_inj.mp this
    cases t with
    |mk k i x l ns=>
      show(l++[y])[(ed s'.data.toList).toNat]? =l[(ed s'.data.toList).toNat]?;replace hd:(ed s'.data.toList).toNat≠l.length:=hd;by_cases hlt:(ed s'.data.toList).toNat<l.length
      · rw[List.getElem?_append_left hlt]
      · rw[List.getElem?_eq_none (l:=l) (by omega),List.getElem?_eq_none (l:=l++[y]) (by rw[List.length_append,List.length_singleton];omega)]
theorem mP {t:VT}{s:ByteArray}(y:VT)(hk:t.kind=6)(h:ed s.data.toList=(t.items.length:Int)):ar (eW t y) s=some y:=by
  rw[mI ((kA _ _).trans hk),if_neg (by omega),h]
  cases t with
  |mk k i x l ns=>
    show(l++[y])[((l.length:Nat):Int).toNat]? =_;simp
/-! ### what may be stays so -/
theorem uQ {l:List VT}{j:Nat}{u x:VT}(h:x∈l.set j u):x∈l∨x=u:=List.mem_or_eq_of_mem_set h
theorem jB {t u:VT}(j:Nat)(h:ao t=true)(hu:ao u=true):ao (bS t j u)=true:=by
  obtain⟨h1,h2⟩:=(bP t).1 h;refine(bP _).2 ?_
  cases t with
  |mk k i x l ns=>
    refine⟨?_,fun y hy=> ?_⟩
    · show aU k i x (l.set j u).length ns=true
      rw[List.length_set];exact h1
    · rcases uQ hy with hy|rfl
      · exact h2 y hy
      · exact hu
theorem fy {k i:Int}{x:ByteArray}{n:Nat}{ns:List ByteArray}(hk:k=7):aU k i x n ns=true↔i=0∧x.toList= []∧ns.length=n∧bu ns=true:=by
  subst hk;unfold aU;simp only[Bool.and_eq_true,decide_eq_true_eq,beq_iff_eq];simp;constructor
  · rintro⟨⟨⟨a,b⟩,c⟩,d⟩;exact⟨a,b,c,d⟩
  · rintro⟨a,b,c,d⟩;exact⟨⟨⟨a,b⟩,c⟩,d⟩
theorem jN {k i:Int}{x:ByteArray}{n:Nat}{ns:List ByteArray}(hk:k=6):aU k i x n ns=true↔i=0∧x.toList= []∧ns.length=0:=by
  subst hk;unfold aU;simp only[Bool.and_eq_true,decide_eq_true_eq,beq_iff_eq];simp;constructor
  · rintro⟨⟨a,b⟩,c⟩;exact⟨a,b,c⟩
  · rintro⟨a,b,c⟩;exact⟨⟨a,b⟩,c⟩
theorem uy {t:VT}{j:Nat}(hk:t.kind=7)(h:ao t=true)(hj:j<t.items.length):ao (nZ t j)=true:=by
  obtain⟨h1,h2⟩:=(bP t).1 h;refine(bP _).2 ?_
  cases t with
  |mk k i x l ns=>
    obtain⟨a,b,c,d⟩:=(fy hk).1 h1;replace c:ns.length=l.length:=c;replace hj:j<l.length:=hj;obtain⟨d1,d2⟩:=ci.1 d;refine⟨(fy hk).2 ⟨a,b,?_,ci.2 ⟨fun s hs=>d1 s (List.mem_of_mem_eraseIdx hs),d2.sublist (List.eraseIdx_sublist _ _)⟩⟩,fun y hy=>h2 y (List.mem_of_mem_eraseIdx hy)⟩;show(ns.eraseIdx j).length=(l.eraseIdx j).length;rw[List.length_eraseIdx,List.length_eraseIdx,c]
theorem qW {s:ByteArray}: ∀ {l:List ByteArray},nmI 0 l s<0→s∉l
  | [],_=>by simp
  |a::r,h=>by
    unfold nmI at h;by_cases ha:a=s
    · rw[if_pos ha]at h;omega
    · rw[if_neg ha,db]at h
      have:nmI 0 r s<0:=by split at h<;>omega
      intro hm;rcases List.mem_cons.1 hm with e|e
      · exact ha e.symm
      · exact qW this e
theorem pP {t y:VT}{s:ByteArray}(hk:t.kind=7)(h:ao t=true)(hy:ao y=true)(hs:bH s.data.toList=true)(hp:ab t s<0):ao (eW (gp t s) y)=true:=by
  obtain⟨h1,h2⟩:=(bP t).1 h;rw[bL hk]at hp;refine(bP _).2 ?_
  cases t with
  |mk k i x l ns=>
    obtain⟨a,b,c,d⟩:=(fy hk).1 h1;replace c:ns.length=l.length:=c;obtain⟨d1,d2⟩:=ci.1 d;have hno:s∉ns:=qW hp;refine⟨(fy hk).2 ⟨a,b,?_,ci.2 ⟨fun z hz=> ?_,?_⟩⟩,fun z hz=> ?_⟩
    · show(ns++[s]).length=(l++[y]).length
      simp[c]
    · rcases List.mem_append.1 hz with hz|hz
      · exact d1 z hz
      · rw[List.mem_singleton.1 hz];exact hs
    · show(ns++[s]).Nodup
      rw[List.nodup_append];refine⟨d2,by simp,?_⟩;intro a1 ha1 b1 hb1 e;rw[List.mem_singleton.1 hb1]at e;subst e;exact hno ha1
    · rcases List.mem_append.1 hz with hz|hz
      · exact h2 z hz
      · rw[List.mem_singleton.1 hz];exact hy
theorem zD {t y:VT}(hk:t.kind=6)(h:ao t=true)(hy:ao y=true):ao (eW t y)=true:=by
  obtain⟨h1,h2⟩:=(bP t).1 h;refine(bP _).2 ?_
  cases t with
  |mk k i x l ns=>
    obtain⟨a,b,c⟩:=(jN hk).1 h1;refine⟨(jN hk).2 ⟨a,b,c⟩,fun z hz=> ?_⟩;rcases List.mem_append.1 hz with hz|hz
    · exact h2 z hz
    · rw[List.mem_singleton.1 hz];exact hy
theorem xm {x:VT}(n:Nat)(hk:x.kind=6)(h:ao x=true):ao (nQ x n)=true:=by
  obtain⟨h1,h2⟩:=(bP x).1 h;refine(bP _).2 ?_
  cases x with
  |mk k i s l ns=>
    obtain⟨a,b,c⟩:=(jN hk).1 h1;exact⟨(jN hk).2 ⟨a,b,c⟩,fun z hz=>h2 z (List.mem_of_mem_take hz)⟩
theorem AA {s:ByteArray}{x:VT}(hs:bH s.data.toList=true)(hx:ao x=true):ao (lX s x)=true:=by
  refine(bP _).2 ⟨(fy rfl).2 ⟨rfl,fA.2 rfl,rfl,ci.2 ⟨fun z hz=> ?_,?_⟩⟩,fun z hz=> ?_⟩
  · have hz':z∈[s]:=hz
    rw[List.mem_singleton.1 hz'];exact hs
  · show [s].Nodup
    simp
  · have hz':z∈[x]:=hz
    rw[List.mem_singleton.1 hz'];exact hx
theorem mx {x:VT}(hx:ao x=true): ∀ {r:List ByteArray},(∀s∈r,bH s.data.toList=true)→ao (al r x)=true
  | [],_=>hx
  |s::r,h=>AA (h s (by simp)) (mx hx fun z hz=>h z (by simp[hz]))
theorem yU :ao ka=true:=by kernel_rfl
end Go.Proofs.YtgbopnlpaabelaaGreatDoor
