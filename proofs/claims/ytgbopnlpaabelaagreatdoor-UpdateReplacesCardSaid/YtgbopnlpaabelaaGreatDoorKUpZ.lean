/- What all operators of an update change, by the program. -/
import Derived.Test.YtgbopnlpaabelaaGreatDoorKPathT
import Derived.Test.YtgbopnlpaabelaaGreatDoorKUpC
import Derived.Test.YtgbopnlpaabelaaGreatDoorKTrE
import Derived.Test.YtgbopnlpaabelaaGreatDoorKUpJ
import Derived.Test.YtgbopnlpaabelaaGreatDoorKSpJ
import Derived.Test.YtgbopnlpaabelaaGreatDoorKTrA
set_option maxHeartbeats 64000000
set_option maxRecDepth 100000
set_option linter.unusedVariables false
set_option linter.unusedSimpArgs false
namespace Go.Proofs.YtgbopnlpaabelaaGreatDoor
open Lib (hid)
open Go.RowKit
theorem wP (v:VT)(o:OpT):opU o (if(bv v o.path).isSome then some ((bv v o.path).getD (.mk 0 0 ⟨#[]⟩ [] []))else none) (jp v o.path)=fF v o:=by
 unfold fF;cases bv v o.path<;>rfl
theorem rl (S:Nat→Prop)(t:VT)(v:Value)(s:ba)(cs:Array Value)(w:World)(hS: ∀b,S b→b<w.heap.size)(h:LV w S t v)(hs:cl w S s cs)(hcap:gE w s.ops cs)(hd:ac t≤1000000)(htab:Lib.TabIs Tryz.prog w "internal/strconv.uint64pow10" .u64 Lib.pow10Tab)
  (hrep:s.rep=true→sJ t s.doc) (hlen:s.rep=false→s.ops.length≤1000) (hok:s.rep=false→ ∀o∈s.ops,Ab o ((bv t o.path).getD (.mk 0 0 ⟨#[]⟩ [] []))∧0<o.path.length):
  Calls Tryz.prog 33 #[v,.agg cs] w (OpR S (fZ t s) w):=by
 have hv:=h;obtain⟨A0,c0,A0',c0',rfl,-,-,-,-,-,-,-⟩:=h.shape;obtain⟨DA,dc,DA',dc',OA,oc,rfl,hdv,hop,hoc,hol⟩:=hs;have hco:=hcap OA s.ops.length oc rfl;obtain⟨w2,hw2⟩: ∃W,W=(w.alloc (.cells #[.int .i64 t.kind,.int .i64 t.num,.string t.text,.slice A0 t.items.length c0,.slice A0' t.names.length c0'] 25)).alloc (.cells #[.bool s.rep,.int .i64 s.doc.kind,.int .i64 s.doc.num,.string s.doc.text,.slice DA s.doc.items.length dc,.slice DA' s.doc.names.length dc',.slice OA s.ops.length oc] 28):=⟨_,rfl⟩;have hz1:(w.alloc (.cells #[.int .i64 t.kind,.int .i64 t.num,.string t.text,.slice A0 t.items.length c0,.slice A0' t.names.length c0'] 25)).heap.size=w.heap.size+1:=by simp
 have hvb:w2.heap[w.heap.size]? =some (.cells #[.int .i64 t.kind,.int .i64 t.num,.string t.text,.slice A0 t.items.length c0,.slice A0' t.names.length c0'] 25 (0,0)):=by rw[hw2,Below.heap_alloc _ _ _ (by omega)];exact heap_alloc_new w _
 have hsb:w2.heap[w.heap.size+1]? =some (.cells #[.bool s.rep,.int .i64 s.doc.kind,.int .i64 s.doc.num,.string s.doc.text,.slice DA s.doc.items.length dc,.slice DA' s.doc.names.length dc',.slice OA s.ops.length oc] 28 (0,0)):=by rw[hw2,←hz1];exact heap_alloc_new _ _
 have hb2:Below w.heap.size w w2:=by rw[hw2];exact((Below.refl _ _).alloc (Nat.le_refl _) _).alloc (by omega) _
 have hz2:w2.heap.size=w.heap.size+2:=by rw[hw2];simp
 have hk2: ∀b,S b→w2.heap[b]? =w.heap[b]? :=fun b hb=>hb2.block b (hS b hb);have HS:=hid hS;have HB2:=hid hb2;have HZ2:=hid hz2;have HV:=hid (hv.keep hk2);have HD:=hid (hdv.keep hk2);have HO:=hid (hop.keep hk2);have HC:=hid (hco.keep hop hk2);have HK:=hid (And.intro hvb hsb);have HT:=hid htab;have HDT:=hid hd;have HOK:=hid hok;have HLN:=hid hlen;have HRP:=hid hrep;have HOC:=hid (And.intro hoc hol);obtain⟨i0,hi,hi0,hi1,hi2⟩:=info_parts Tryz.infoDlt;have p0:=Go.Joins.cell_of_block hsb 0;clear hcap hco hz1 hb2 hz2 hk2 hS hv h hdv hop hoc hol htab hd hok hlen hrep hsb;go_enter Tryz.func33,Tryz.ntmps33
 cases hr:s.rep with
 |true=>
  have p0':w2.cell? ⟨w.heap.size+1,0,none⟩=some (.bool true):=by rw[p0,hr];rfl
  rw[hr]at hw2;have p1:=Go.Joins.cell_of_block HK.out.2 1;have p2:=Go.Joins.cell_of_block HK.out.2 2;have p3:=Go.Joins.cell_of_block HK.out.2 3;have p4:=Go.Joins.cell_of_block HK.out.2 4;have p5:=Go.Joins.cell_of_block HK.out.2 5;have q0:=Go.Joins.cell_of_block hvb 0;have q1:=Go.Joins.cell_of_block hvb 1;have q2:=Go.Joins.cell_of_block hvb 2;have q3:=Go.Joins.cell_of_block hvb 3;have q4:=Go.Joins.cell_of_block hvb 4;have HRR:=hid (vi S t s.doc _ _ w2 (fun b hb=>by have:=HS.out b hb;have:=HZ2.out;omega) HV.out HD.out (HRP.out hr));have HR:=hid hr;clear hvb p0 hr;go_wp2_with fail;rw[←hw2];clear hw2;go_wp2_with fail;refine HRR.out.mono ?_;rintro e w3 ⟨A,c,rfl,h3⟩;have H3:=hid h3;clear h3 HRR p0' p1 p2 p3 p4 p5 q0 q1 q2 q3 q4;go_wp2_with fail
  go_ret2
  rw[show fZ t s=(0,cg t s.doc) by unfold fZ;rw[HR.out];rfl]
  exact OpR.back (r:=(0,cg t s.doc)) ⟨A,c,rfl,H3.out⟩ HB2.out HS.out
 |false=>
  have p0':w2.cell? ⟨w.heap.size+1,0,none⟩=some (.bool false):=by rw[p0,hr];rfl
  rw[hr]at hw2;have p6:=Go.Joins.cell_of_block HK.out.2 6;have HE:Hid (fZ t s=bc t s.ops):=hid (by unfold fZ;rw[hr];rfl);have HOQ:=hid (HOK.out hr);have HLQ:=hid (HLN.out hr);have hl9:=HLQ.out;clear hvb p0 hr HOK HLN HRP HD;go_wp2_with fail;rw[←hw2];clear hw2;go_wp2_with fail;clear p0' p6
  go_loopw [6,20] (fun l i wr=> ∃(j:Nat) (A:Option Addr) (c:Nat) (r:List av),l= .slice A r.length c∧i= .int .i64 j∧j≤s.ops.length∧Hid (bc t (s.ops.take j)=(0,r)∧r.length≤2 * j)∧Hid (bl cT 8 58 S w2 wr A c r)∧Hid (Below w2.heap.size w2 wr)) (fun _ i _=>s.ops.length - (intOf i).toNat)
  case atStart=>exact⟨0,none,0,[],rfl,rfl,Nat.zero_le _,hid ⟨rfl,Nat.zero_le _⟩,hid (bl.nil _ _),hid (Below.refl _ _)⟩
  case round=>
   obtain⟨j,A,c,r,rfl,rfl,hj,HG,HR,HB⟩:=hrel;by_cases hlt:j<s.ops.length
   ·have hS2: ∀b,S b→b<w2.heap.size:=fun b hb=>Nat.lt_of_lt_of_le (HS.out b hb) HB2.out.size;have hkr: ∀b,S b→wr.heap[b]? =w2.heap[b]? :=fun b hb=>HB.out.block b (hS2 b hb);obtain⟨b,off,PA,pc,VA,vc,VA',vc',TA,tc,rfl,hb,h63,hopl,hrg⟩:=(HO.out.keep hkr).cellsC (HC.out.keep HO.out hkr) j hlt;obtain⟨o,ho⟩: ∃o,o=s.ops[j]:=⟨_,rfl⟩;have hoq:=HOQ.out _ (List.getElem_mem hlt);rw[←ho]at hopl hrg hoq;obtain⟨wd,hwd⟩: ∃W,W=(wr.alloc (.cells #[.int .i64 o.kind,.slice PA o.path.length pc,.int .i64 o.val.kind,.int .i64 o.val.num,.string o.val.text,.slice VA o.val.items.length vc,.slice VA' o.val.names.length vc',.slice TA o.to.length tc] 51)).drew:=⟨_,rfl⟩;have hob:wd.heap[wr.heap.size]? =some (.cells #[.int .i64 o.kind,.slice PA o.path.length pc,.int .i64 o.val.kind,.int .i64 o.val.num,.string o.val.text,.slice VA o.val.items.length vc,.slice VA' o.val.names.length vc',.slice TA o.to.length tc] 51 (0,0)):=by rw[hwd];exact heap_alloc_new wr _
    have hbd:Below wr.heap.size wr wd:=by rw[hwd];exact((Below.refl _ _).alloc (Nat.le_refl _) _).drew
    have hzd:wd.heap.size=wr.heap.size+1:=by rw[hwd];simp[World.drew]
    have hB2d:Below w2.heap.size w2 wd:=HB.out.trans (hbd.mono HB.out.size);have hvd:wd.heap[w.heap.size]? =some (.cells #[.int .i64 t.kind,.int .i64 t.num,.string t.text,.slice A0 t.items.length c0,.slice A0' t.names.length c0'] 25 (0,0)):=(hB2d.block _ (by have:=HZ2.out;omega)).trans HK.out.1;have HRD:=hid (HR.out.below fs HB.out.size hbd);have HRG:=hid hrg;have HPO:Hid (∀p,(Value.slice A r.length c).ownBlock=some p→p<wd.heap.size):=hid fun p hp=>by have:=(HR.out.own p hp).2;omega
    have HOO:=hid ho;have HOP:=hid (hopl.keep fun b hb=>hbd.block b (Nat.lt_of_lt_of_le (hS2 b hb) HB.out.size));have HQ:=hid (And.intro hoq (And.intro hlt h63));have HB2D:=hid hB2d;have HZD:=hid hzd
    have HLK:Hid (∀W,Below wd.heap.size wd W→Calls Tryz.prog 62 #[.agg #[.int .i64 t.kind,.int .i64 t.num,.string t.text,.slice A0 t.items.length c0,.slice A0' t.names.length c0'],.slice PA o.path.length pc] W (zQ t o.path W)):=hid fun W hW=>by
     have hSd: ∀b,S b→b<wd.heap.size:=fun b hb=>Nat.lt_of_lt_of_le (hS2 b hb) hB2d.size;have hop2:=HOP.out;obtain⟨PA2,pc2,a1,a2,a3,a4,a5,TA2,tc2,e,-,hp,-,hpc,-,-,hpl,-⟩:=hop2;simp only[Array.mk.injEq,List.cons.injEq,Value.slice.injEq,and_true,true_and]at e;obtain⟨⟨rfl,rfl⟩,-⟩:=e;exact vA S t _ PA pc o.path W (fun b hb=>Nat.lt_of_lt_of_le (hSd b hb) hW.size) (HV.out.keep fun b hb=>(hW.block b (hSd b hb)).trans (hB2d.block b (hS2 b hb))) (by have:=HDT.out;omega) (hp.keep fun b hb=>hW.block b (hSd b hb)) hoq.2 (by omega) hpc h63
    have hs0:w.heap.size<wd.heap.size:=by have:=HZ2.out;have:=hB2d.size;omega
    have hs1:wr.heap.size<wd.heap.size:=by omega
    have kz:=fun(q:af (aA wd.heap.size) wd) (b i:Nat) (hb:b<wd.heap.size)=>World.cell?_of_block (a:=⟨b,i,none⟩) (q.h.block b hb);have HOB:=hid hob;have HVD:=hid hvd;clear hrg hopl hoq hob hbd hzd hB2d hvd hkr hS2 ho h63 hb HR;go_wp2_with(refine gD (by rfl) 51 _ rfl b (off+j * 8) rfl [.int .i64 o.kind,.slice PA o.path.length pc,.int .i64 o.val.kind,.int .i64 o.val.num,.string o.val.text,.slice VA o.val.items.length vc,.slice VA' o.val.names.length vc',.slice TA o.to.length tc] _ HRG.out Tryz.underlying51 rfl (by kernel_rfl) ?_;simp only[acR,Act.put]);have y0:=fun q:af (aA wd.heap.size) wd=>(kz q wr.heap.size 0 hs1).trans (Go.Joins.cell_of_block HOB.out 0);have y1:=fun q:af (aA wd.heap.size) wd=>(kz q wr.heap.size 1 hs1).trans (Go.Joins.cell_of_block HOB.out 1);have y2:=fun q:af (aA wd.heap.size) wd=>(kz q wr.heap.size 2 hs1).trans (Go.Joins.cell_of_block HOB.out 2);have y3:=fun q:af (aA wd.heap.size) wd=>(kz q wr.heap.size 3 hs1).trans (Go.Joins.cell_of_block HOB.out 3);have y4:=fun q:af (aA wd.heap.size) wd=>(kz q wr.heap.size 4 hs1).trans (Go.Joins.cell_of_block HOB.out 4);have y5:=fun q:af (aA wd.heap.size) wd=>(kz q wr.heap.size 5 hs1).trans (Go.Joins.cell_of_block HOB.out 5);have y6:=fun q:af (aA wd.heap.size) wd=>(kz q wr.heap.size 6 hs1).trans (Go.Joins.cell_of_block HOB.out 6);have y7:=fun q:af (aA wd.heap.size) wd=>(kz q wr.heap.size 7 hs1).trans (Go.Joins.cell_of_block HOB.out 7);have z0:=fun q:af (aA wd.heap.size) wd=>(kz q w.heap.size 0 hs0).trans (Go.Joins.cell_of_block HVD.out 0)
    have z1:=fun q:af (aA wd.heap.size) wd=>(kz q w.heap.size 1 hs0).trans (Go.Joins.cell_of_block HVD.out 1);have z2:=fun q:af (aA wd.heap.size) wd=>(kz q w.heap.size 2 hs0).trans (Go.Joins.cell_of_block HVD.out 2);have z3:=fun q:af (aA wd.heap.size) wd=>(kz q w.heap.size 3 hs0).trans (Go.Joins.cell_of_block HVD.out 3);have z4:=fun q:af (aA wd.heap.size) wd=>(kz q w.heap.size 4 hs0).trans (Go.Joins.cell_of_block HVD.out 4);clear kz;refine au (aA wd.heap.size) (aA.refl _) (aA.trans _) [12,13] (.pure [0,1,3,4,5,6] (.step 2 (.step 7 (.step 8 (.free [9,10,11] (.tail [12,13])))))) (by kernel_rfl) (by kernel_rfl) (fun _ d _ _ _ h=>by cases d<;>exact h) ?_;rw[←hwd];clear hwd;refine bG ?_;simp only[atR];show wpQuiet _ _ _ _ [_,_,_,_,_,_] _;try simp only[acR,Act.put]
    repeat(go_big_quiet_step (fail))
    refine wpQuiet_nil ?_;clear y0 y1 y2 y3 y4 y5 y6 y7 z0 z1 z2 z3 z4;obtain⟨X,hX⟩: ∃X,X=(bv t o.path).getD (.mk 0 0 ⟨#[]⟩ [] []):=⟨_,rfl⟩;obtain⟨f,hf⟩: ∃f,f=(bv t o.path).isSome:=⟨_,rfl⟩;obtain⟨ia,hia⟩: ∃f,f=jp t o.path:=⟨_,rfl⟩;have HXF:=hid (And.intro hX (And.intro hf hia));clear hX hf hia;refine ah rfl (fun K hK=> ?_)
    go_simp
    refine(yZ o.kind wd).mono ?_;rintro e w4 ⟨u,rfl,hu,hb4⟩;refine hK _ _ (.inr hb4) ?_;clear hK K;refine ah rfl (fun K hK=> ?_)
    go_simp
    refine(HLK.out w4 hb4).mono ?_;rintro e w6 ⟨x0,x1,x2,x3,x4,rfl,hx6,hb6⟩;rw[←HXF.out.1]at hx6;rw[←HXF.out.2.1,←HXF.out.2.2];refine hK _ _ (.inr (hb6.mono hb4.size)) ?_;clear hK K;have HU:Hid (∃w0 w1,OpV o.kind w0 w1 u∧Below w1.heap.size w1 w6):=hid ⟨wd,w4,hu,hb6⟩;have HX6:Hid (LV w6 (fun b=>wd.heap.size≤b∧b<w6.heap.size) X (.agg #[x0,x1,x2,x3,x4])):=hid (hx6.imp fun b hb=>⟨Nat.le_trans hb4.size hb.1,hb.2⟩);have HB6:Hid (Below wd.heap.size wd w6):=hid (hb4.trans (hb6.mono hb4.size));clear hu hb4 hx6 hb6 w4;have hsh:=HX6.out.shape;obtain⟨XA,xc,XA',xc',hxe,-⟩:=hsh;simp only[Value.agg.injEq,Array.mk.injEq,List.cons.injEq,and_true]at hxe;obtain⟨rfl,rfl,rfl,rfl,rfl⟩:=hxe;have hSd: ∀b,S b→b<wd.heap.size:=fun b hb=>by have:=HS.out b hb;have:=HZ2.out;have:=HB2D.out.size;omega
    have hin:pR (fun b=>S b∨(wd.heap.size≤b∧b<w6.heap.size)) o X w6 PA pc VA vc VA' vc' TA tc XA xc XA' xc':=by
     have hop2:=HOP.out.keep (w':=w6) fun b hb=>HB6.out.block b (hSd b hb);obtain⟨PA2,pc2,a1,a2,a3,a4,a5,TA2,tc2,e,hov,hp,hto,hpc,htc,-,hpl,htl⟩:=hop2;simp only[Array.mk.injEq,List.cons.injEq,Value.slice.injEq,and_true,true_and]at e;obtain⟨⟨rfl,rfl⟩,rfl,rfl,rfl,rfl,rfl,rfl,rfl⟩:=e;exact⟨fun b hb=>hb.elim (fun h=>Nat.lt_of_lt_of_le (hSd b h) HB6.out.size) (fun h=>h.2),hov.imp fun b hb=> .inl hb,hp.imp fun b hb=> .inl hb,hto.imp fun b hb=> .inl hb,hpc,htc,hpl,htl,HQ.out.1.2,HX6.out.imp fun b hb=> .inr hb⟩
    obtain⟨w0,w1,hu,hw16⟩:=HU.out;have hB26:Below w2.heap.size w2 w6:=HB2D.out.trans (HB6.out.mono HB2D.out.size);obtain⟨gf,cap,rfl,hen,hcall⟩:=xB _ o X f ia w0 w1 w6 u PA pc VA vc VA' vc' TA tc XA xc XA' xc' hu hw16 hin (by rw[HXF.out.1];exact HQ.out.1.1) (Lib.tabBelow_of_tabIs HT.out w6 (HB2.out.trans (hB26.mono HB2.out.size)));have HCL:=hid hcall;have HB26:=hid hB26;have HSD:=hid hSd;clear hin hu hw16 hcall hB26 hSd HU HLK;refine ah rfl (fun K hK=> ?_)
    go_simp
    refine HCL.out.mono ?_;rintro e w7 hR;rw[HXF.out.1,HXF.out.2.1,HXF.out.2.2,wP]at hR;obtain⟨A2,c2,rfl,hd2,hn2,hc2,hb7⟩:=hR;refine hK _ _ (.inr (hb7.mono HB6.out.size)) ?_;clear hK K;obtain⟨R,hR⟩: ∃R,R=fF t o:=⟨_,rfl⟩;rw[←hR]at hd2 hn2 hc2;rw[←hR];have HRR:=hid hR;have HD2:=hid hd2;have HN2:=hid hn2;have HB7:=hid hb7;clear hd2 hn2 hc2 hb7 hR HCL hen;refine aW ?_;simp only[atR];show wpQuiet _ _ _ _ [_,_,_] _;try simp only[acR,Act.put]
    repeat(go_big_quiet_step (fail))
    refine wpQuiet_nil ?_;refine aq rfl (fun K hK=> ?_)
    go_simp
    refine hK _ _ ?_;clear hK K;refine aq rfl (fun K hK=> ?_)
    go_simp
    refine hK _ _ ?_;clear hK K;refine aQ ?_;have HB27:Hid (Below w2.heap.size w2 w7):=hid (HB26.out.trans (HB7.out.mono HB26.out.size));by_cases hx:R.1=0;rotate_left
    ·have d:(R.1 != 0)=true:=by simp[hx]
     have HEE:Hid (bc t s.ops=(R.1,[])):=hid (by
      have:=tf HQ.out.2.1 HG.out.1 (by rw[←HOO.out,←HRR.out];exact hx);rw[←HOO.out,←HRR.out]at this
      exact this)
     clear hx;go_wp2_with fail
     go_ret2
     rw[HE.out,HEE.out];exact OpR.no _ (HB2.out.trans (HB27.out.mono HB2.out.size))
    have d:(R.1 != 0)=false:=by simp[hx]
    have HNX:Hid (bc t (s.ops.take (j+1))=(0,r++R.2)∧(r++R.2).length≤2 * (j+1)):=hid (by
     have h1:=pU HQ.out.2.1 HG.out.1 (by rw[←HOO.out,←HRR.out];exact hx);rw[←HOO.out,←HRR.out]at h1;refine⟨h1,?_⟩;have h2:=HG.out.2;have h3:R.2.length≤2:=by rw[HRR.out];exact tU _ _ _
     rw[List.length_append]
     omega)
    have HL2:Hid (r.length≤2000∧R.2.length≤2):=hid ⟨by have:=HG.out.2;have:=HLQ.out;omega,by rw[HRR.out];exact tU _ _ _⟩;have HR7:=hid ((HRD.out.below fs HB2D.out.size HB6.out).below fs HB26.out.size HB7.out);clear hx HRD HX6 HOP HRG HOB HVD
    cases A2 with
    |none=>
     obtain⟨rfl,hr2⟩:=HN2.out rfl;have HR8:Hid (bl cT 8 58 S w2 w7 A c (r++R.2)):=hid (by rw[hr2,List.append_nil];exact HR7.out);have HLE:Hid ((r++R.2).length=r.length):=hid (by rw[hr2,List.append_nil]);rw[hr2];simp only[List.length_nil];clear hr2;go_wp2_with(at_builtin;refine jo rfl _ _ 32 rfl 58 i0 Tryz.underlying32 hi A r.length c 0 rfl rfl HR7.out.cap ?_;simp only[acR,Act.put])
     go_roundw
     case rel=>exact⟨j+1,A,c,r++R.2,by rw[HLE.out],by go_num,by omega,HNX,HR8,HB27⟩
     case measure=>simp[intOf];omega
    |some a=>
     obtain⟨ys,k1,k2,k3⟩:=bf.cells (L:=cT) (m:=8) fs (fun hp=>HD2.out hp);obtain⟨xs,S1,g1,g2,g3⟩:=HR7.out;have HY:=hid (And.intro k1 (And.intro k2 (k3 a rfl)));have HXS:=hid (And.intro g1 (And.intro g2 g3));have HC1:=hid (nv k1);clear k1 k2 k3 g1 g2 g3
     go_wp2_with(at_builtin;refine wpList_append_own_at _ rfl _ _ 32 rfl w2.heap.size 58 i0 _ 8 120 Tryz.underlying32 hi hi0 hi1 hi2 rfl (by decide) _ r.length xs rfl HXS.out.1 a R.2.length c2 ys rfl HY.out.2.1 HY.out.2.2 HC1.out (by have:=HL2.out;unfold maxLen;omega) (by have:=HL2.out;omega) HB27.out.size ?_;intro v8 w8 hown8 hg8 hnil8 hat8;have HW:=hid (jf (S:=S) HB27.out.size hown8 hg8 hat8 HR7.out.own HXS.out.2.1 HXS.out.2.2 HY.out.1 (fun b hb=>by
      rcases hb with ⟨h|h,h2⟩|h
      ·exact .inl ⟨h,by have:=HS.out b h;have:=HZ2.out;omega⟩
      ·exact .inr ⟨by have:=h.1;have:=HB2D.out.size;omega,by have:=HB7.out.size;omega,fun p hp e=>by have:=(HR7.out.own p hp);have:=HPO.out p hp;omega⟩
      ·exact .inr ⟨by have:=h.1;have:=HB26.out.size;omega,h.2,fun p hp e=>by have:=HPO.out p hp;have:=h.1;have:=HB6.out.size;omega⟩));obtain⟨⟨A8,c8,rfl,hr8⟩,hb8⟩:=HW.out;have HR8:=hid hr8;have HB8:=hid (HB27.out.trans (hb8.mono (Nat.le_refl _)));clear hown8 hg8 hnil8 hat8 HW hr8 hb8)
     go_roundw
     case rel=>exact⟨j+1,A8,c8,r++R.2,by rw[List.length_append],by go_num,by omega,HNX,HR8,HB8⟩
     case measure=>simp[intOf];omega
   ·obtain rfl:j=s.ops.length:=by omega
    go_wp2_with fail
    go_ret2
    rw[HE.out,show bc t s.ops=(0,r) by rw[←HG.out.1,List.take_length]];exact OpR.back (OpR.of_rows HR.out HB.out) HB2.out HS.out
theorem oT : ∀l:List VT,l.length≤bQ l
 | []=>Nat.zero_le _
 |x::l=>by
  have h1:=vN x;have h2:=oT l;unfold bQ;rw[List.length_cons];omega
theorem er : ∀(n:Nat) (t:VT),ac t≤n→aX t→aM 4096 t=true
 |0,t,h,_=>absurd (fg t) (by omega)
 |n+1,t,h,hw=>by
  have h3:=hw.2.2;rw[fj]at h3;have h4:=oT t.items;refine(bd t).2 ⟨by omega,?_,fun x hx=>er n x (by have:=cO hx;omega) (ev hw hx)⟩;by_cases hk:t.kind=7
  ·have:=(cd hw hk).2.2;omega
  ·have hn:t.names= []:=by
    cases t with
    |mk k i s l ns=>exact(dE hw.1).2.1 hk
   rw[hn];simp
theorem iO {d:av}(h:dO d):aM 4096 d.val=true:=by
 rcases h.2 with ⟨-,k⟩|⟨-,k⟩
 ·exact er _ _ (Nat.le_refl _) k
 ·rw[k];exact(bd _).2 ⟨Nat.zero_le _,Nat.zero_le _,fun _ h=>by cases h⟩
theorem iD {d:av}(h:dO d):aE d.val≤4096:=by
 rcases h.2 with ⟨-,k⟩|⟨-,k⟩
 ·exact k.2.2
 ·rw[k];decide +kernel
theorem jg {d:av}(h:dO d):ac d.val≤8:=by
 rcases h.2 with ⟨-,k⟩|⟨-,k⟩
 ·exact k.2.1
 ·rw[k];decide +kernel
theorem rQ {l:List av}(h: ∀d∈l,dO d): ∀d∈l,ck d=true∧aE d.val≤9223372036854775807∧aM 4096 d.val=true:=fun d hd=>⟨(h d hd).1,by have:=iD (h d hd);omega,iO (h d hd)⟩
theorem mo {v:VT}(h:aX v)(k:v.kind=7):im 4096 8 v:=⟨bB.2 ⟨h.1,k⟩,er _ _ (Nat.le_refl _) h,h.2.1⟩
theorem wR {v R x:VT}{l:List av}(hl: ∀d∈l,dO d)(hd:im 4096 8 v)(e:doL l v=(0,R))(hf: ∀d∈l,d.path.head? ≠some idN)(hx:aJ v idN=some x):aJ R idN=some x:=by
 have h1:aT v [idN]=some x:=by rw[aI,hx];exact cD x
 have h2:=(nq ⟨1,[idN],x,0⟩ l v R 4096 8 (rQ hl) hd e (fun d hd=> ?_) ⟨fun _=>h1,fun h=>absurd h (by decide:(1:Int)≠2),fun h=>absurd h (by decide:(1:Int)≠3)⟩).1 rfl
 ·have h2:aT R [idN]=some x:=h2;rw[aI]at h2
  cases hi:aJ R idN with
  |none=>rw[hi]at h2;cases h2
  |some y=>rw[hi]at h2;exact congrArg some (by injection h2)
 ·have hn:=lH (eu (hl d hd).1);have hh:=hf d hd
  cases hp:d.path with
  |nil=>exact absurd hp hn
  |cons a r=>
   rw[hp]at hh;have hne:a≠idN:=fun e=>hh (by rw[e];rfl);show fQ (a::r) [idN];exact⟨fun k=>hne (List.cons_prefix_cons.1 k).1,fun k=>hne (List.cons_prefix_cons.1 k).1.symm⟩
/-! ### what is done to a document, once it is changed -/
theorem jk {v:VT}{l:List av}(hv:aX v)(kv:v.kind=7)(h64:l.length≤64)(hl: ∀d∈l,dO d)(hf:lq l=true)(hi: ∀d∈l,d.path.head? ≠some idN)(h0:(aP l v).1=0):
  dL (aP l v).2=true∧aP l (aP l v).2=(0,(aP l v).2)∧(∀x,aJ v idN=some x→aJ (aP l v).2 idN=some x)∧ac (aP l v).2≤1032∧aM 4160 (aP l v).2=true:=by
 have hdk:=mo hv kv;have hc:=iX h64 hl;have hsm:l.length≤64→gy l∧jS l∧rF 4096 l:=fun _=>⟨fun d hd=>by have:=jg (hl d hd);omega,fun d hd=>by have:=iD (hl d hd);omega,fun d hd=>iO (hl d hd)⟩;rcases qe hsm hdk.lens hdk.deep with ⟨R,e,-,-,e2,hR⟩|⟨h,-⟩
 ·rw[e];exact⟨hR.doc,qM hsm hdk.lens hdk.deep hf hc hdk.doc e2 hR.doc,fun x hx=>wR hl hdk e2 hi hx,hR.deep,hR.lens⟩
 ·exact absurd h0 h
/-! ### behind a replacement -/
theorem uo : ∀(qs:List (ByteArray×VT)) (t:VT),ao t=true→t.kind=7→(qs.map (·.1)).Nodup→(∀q∈qs,bI q.1.data.toList=true∧ao q.2=true)→
  ∃t',goL (qs.map fun q=>dP [q.1] q.2) t=(0,t')∧ao t'=true∧t'.kind=7∧(∀q∈qs,aJ t' q.1=some q.2)∧ ∀z,z∉qs.map (·.1)→aJ t' z=aJ t z
 | [],t,hm,hk,_,_=>⟨t,rfl,hm,hk,fun _ h=>absurd h List.not_mem_nil,fun _ _=>rfl⟩
 |q::qs,t,hm,hk,hd,hq=>by
  rw[List.map_cons]at hd;obtain⟨n1,n2⟩:=List.nodup_cons.1 hd;obtain⟨t1,e1,u1⟩:=yh hm hk (hq q List.mem_cons_self).2 (hq q List.mem_cons_self).1;obtain⟨t2,e2,m2,k2,d2,o2⟩:=uo qs t1 u1.may (u1.kind.trans hk) n2 (fun x hx=>hq x (List.mem_cons_of_mem _ hx));refine⟨t2,?_,m2,k2,?_,?_⟩
  ·rw[List.map_cons,gS (d:=dP [q.1] q.2) e1];exact e2
  ·intro x hx;rcases List.mem_cons.1 hx with rfl|hx
   ·rw[o2 _ n1];exact u1.here
   ·exact d2 x hx
  ·intro z hz;rw[List.map_cons]at hz;rw[o2 z fun h=>hz (List.mem_cons_of_mem _ h),u1.far z fun e=>hz (by rw[e];exact List.mem_cons_self)]
theorem vV {l r:List av}{t u R:VT}(h:goL l t=(0,u))(k:goL r u=(0,R)):goL (l++r) t=(0,R):=(mZ h).trans k
theorem xw {t:VT}(hm:ao t=true)(hk:t.kind=7){z:ByteArray}{y:VT}(h:aJ t z=some y):(z,y)∈t.names.zip t.items:=by
 rw[eh hk]at h;generalize t.names=ns at h;generalize t.items=l at h
 induction ns generalizing l with
 |nil=>unfold cj at h;cases h
 |cons a ns ih=>
  cases l with
  |nil=>unfold cj at h;cases h
  |cons x l=>
   unfold cj at h;rw[List.zip_cons_cons]
   split at h
   ·rename_i e;injection h with h;subst e h;exact List.mem_cons_self
   ·exact List.mem_cons_of_mem _ (ih l h)
theorem qZ {t:VT}(hm:ao t=true)(hk:t.kind=7){z:ByteArray}{y:VT}(h:(z,y)∈t.names.zip t.items):aJ t z=some y:=by
 rw[eh hk];have hd:=(oS hm hk).2;generalize t.names=ns at h hd;generalize t.items=l at h
 induction ns generalizing l with
 |nil=>simp at h
 |cons a ns ih=>
  cases l with
  |nil=>simp at h
  |cons x l=>
   rw[List.zip_cons_cons]at h;obtain⟨n1,n2⟩:=List.nodup_cons.1 hd;unfold cj;rcases List.mem_cons.1 h with e|h
   ·injection e with e1 e2;rw[if_pos e1.symm,e2]
   ·rw[if_neg (fun e:a=z=>n1 (by rw[e];exact(List.of_mem_zip h).1))];exact ih n2 l h
theorem sv {v d:VT}(hv:aX v)(kv:v.kind=7)(hd:aX d)(kd:d.kind=7): ∃R,goL (cg v d) v=(0,R)∧ao R=true∧R.kind=7∧(∀z∈d.names,aJ R z=aJ d z)∧
  (idN∉d.names→aJ R idN=aJ v idN)∧ ∀z,z∉d.names→z≠idN→aJ R z=none:=by
 obtain⟨v1,v2,v3⟩:=cd hv kv;obtain⟨d1,d2,d3⟩:=cd hd kd;obtain⟨t,e1,m1,k1,a1,b1⟩:=rz (oB v d) v hv.1 kv;have hs:=js (v:=v) d3;have hq: ∀q∈oY v d,q∈d.names.zip d.items:=fun q h=>(List.mem_filter.1 h).1;obtain⟨R,e2,m2,k2,a2,b2⟩:=uo (oY v d) t m1 k1 (d1.sublist hs) fun q h=>⟨d2 _ (List.of_mem_zip (hq q h)).1,(ev hd (List.of_mem_zip (hq q h)).2).1⟩;refine⟨R,by unfold cg;rw[kB,mw];exact vV e1 e2,m2,k2,?_,?_,?_⟩
 ·intro z hz
  cases hy:aJ d z with
  |none=>exact absurd hz ((fd hd.1 kd z).1 hy)
  |some y=>
   have hzip:=xw hd.1 kd hy;by_cases hin:(z,y)∈oY v d
   ·exact a2 (z,y) hin
   ·have hout:z∉(oY v d).map (·.1):=fun hm=>by
     obtain⟨q,hq1,e⟩:=List.mem_map.1 hm;have h7:=qZ (z:=q.1) (y:=q.2) hd.1 kd (hq q hq1);rw[e,hy]at h7;injection h7 with h7
     exact hin (by rw[←e,h7];exact hq1)
    rw[b2 z hout,b1 z fun hm=>(ge hm).2.2 hz]
    have hot:dp v z y=false:=by
     cases ho:dp v z y with
     |false=>rfl
     |true=>exact absurd (List.mem_filter.2 ⟨hzip,ho⟩) hin
    unfold dp at hot
    cases hx:aJ v z with
    |none=>rw[hx]at hot;cases hot
    |some x=>
     rw[hx]at hot;have hc:fc x y=0:=by simpa using hot
     have mx:=qg hv.1 hx;have my:=qg hd.1 hy;unfold fc at hc;rw[if_pos ⟨mx,my⟩]at hc;rw[(nU x y mx my).1 hc]
 ·intro hn;rw[b2 idN fun hm=>hn (hs.subset hm),b1 idN fun hm=>(ge hm).2.1 rfl]
 ·intro z hz hne;rw[b2 z fun hm=>hz (hs.subset hm)];by_cases hm:z∈oB v d
  ·exact a1 z hm
  ·rw[b1 z hm];refine(fd hv.1 kv z).2 fun hv2=>hm (List.mem_filter.2 ⟨hv2,?_⟩);simp[hne];exact fun x hx e=>hz (e▸hx)
theorem nM {v d R:VT}(hv:aX v)(hd:aX d)(kd:d.kind=7)(hid:(aJ v idN).isSome=true)(hn:idN∉d.names)(hm:ao R=true)(hk:R.kind=7)(h1: ∀z∈d.names,aJ R z=aJ d z)(h2:aJ R idN=aJ v idN)(h3: ∀z,z∉d.names→z≠idN→aJ R z=none):
  R.items.length=d.items.length+1:=by
 obtain⟨d1,d2,d3⟩:=cd hd kd
 have hp:R.names.Perm (idN::d.names):=(List.perm_ext_iff_of_nodup (oS hm hk).2 (List.nodup_cons.2 ⟨hn,d1⟩)).2 fun z=>by
  by_cases hz:z∈d.names
  ·refine⟨fun _=>List.mem_cons_of_mem _ hz,fun _=>Classical.byContradiction fun hc=> ?_⟩;have:=(fd hm hk z).2 hc;rw[h1 z hz]at this;exact(fd hd.1 kd z).1 this hz
  ·by_cases he:z=idN
   ·subst he;refine⟨fun _=>List.mem_cons_self,fun _=>Classical.byContradiction fun hc=> ?_⟩;have:=(fd hm hk idN).2 hc;rw[h2]at this;rw[this]at hid;cases hid
   ·refine⟨fun hc=>absurd hc ((fd hm hk z).1 (h3 z hz he)),fun hc=> ?_⟩;rcases List.mem_cons.1 hc with e|e
    ·exact absurd e he
    ·exact absurd e hz
 have h4:=hp.length_eq;have h5:=dS hm hk;rw[List.length_cons]at h4;omega
theorem uW {d:av}(h:dO d):tZ d:=by
 have hp:=eu h.1;refine⟨fun k=> ?_,?_,?_⟩
 ·rcases h.2 with ⟨-,k2⟩|⟨k2,-⟩
  ·exact k2.1
  ·omega
 ·have hm:=h.1;unfold ck at hm;rw[Bool.and_eq_true]at hm;rcases h.2 with ⟨k,-⟩|⟨k,-⟩
  ·have h2:=hm.2;rw[if_pos k]at h2;simp only[Bool.and_eq_true,decide_eq_true_eq]at h2;omega
  ·have h2:=hm.2;rw[if_neg (by omega),if_pos k]at h2;simp only[Bool.and_eq_true,decide_eq_true_eq]at h2;omega
 ·unfold cn at hp;simp only[Bool.and_eq_true]at hp;exact fun z hz=>List.all_eq_true.1 hp.2 z hz
theorem mR {l:List av}(hl: ∀d∈l,dO d):l.length≤64→gy l∧jS l∧rF 4096 l:=fun _=>⟨fun d hd=>by have:=jg (hl d hd);omega,fun d hd=>by have:=iD (hl d hd);omega,fun d hd=>iO (hl d hd)⟩
theorem tD {v:VT}{l:List av}(hv:aX v)(kv:v.kind=7)(h64:l.length≤64)(hl: ∀d∈l,dO d):
  (∃R,aP l v=(0,R)∧doL l v=(0,R)∧dL R=true∧ac R≤1032∧aM 4160 R=true)∨(aP l v=(40,bP)∧doL l v=(40,bP)):=by
 have hdk:=mo hv kv
 have e:aP l v=doL l v:=by
  unfold aP;rw[iX h64 hl,if_neg (fun h=>h rfl),if_pos hdk.doc]
 rcases lO l v 4096 8 (rQ hl) hdk with ⟨R,h1,h2⟩|h1
 ·exact .inl ⟨R,e.trans h1,h1,h2.doc,by have:=h2.deep;omega,bM (by omega) _ h2.lens⟩
 ·exact .inr ⟨e.trans h1,h1⟩
structure us (v:VT)(s:ba)(R:VT)(l:List av):Prop where
 ch:aw v s=(0,l)
 doc:bN v=true
 chk:bX s=0
 ap:aP l v=(0,R)
 whole:aG R=0
theorem jt {v:VT}{s:ba}(h:(bo v s).1=0): ∃R l,bo v s=(0,R,l)∧us v s R l:=by
 unfold bo at h ⊢;by_cases h1:(aw v s).1≠0
 ·rw[if_pos h1]at h;exact absurd h h1
 ·rw[if_neg h1]at h ⊢;by_cases h2:(aP (aw v s).2 v).1≠0
  ·rw[if_pos h2]at h;exact absurd h h2
  ·rw[if_neg h2]at h ⊢;by_cases h3:aG (aP (aw v s).2 v).2≠0
   ·rw[if_pos h3]at h;exact absurd h h3
   ·rw[if_neg h3];have e1:aw v s=(0,(aw v s).2):=Prod.ext (by simpa using h1) rfl;refine⟨_,_,rfl,e1,?_,?_,Prod.ext (by simpa using h2) rfl,by simpa using h3⟩
    ·cases hw:bN v with
     |true=>rfl
     |false=>unfold aw at e1;rw[if_pos hw]at e1;injection e1 with e1 _;cases e1
    ·refine Classical.byContradiction fun hc=> ?_;unfold aw at e1
     split at e1
     ·injection e1 with e1 _;cases e1
     ·injection e1 with e1 _;exact hc e1
theorem tr {v:VT}{s:ba}{R:VT}{l:List av}(h:us v s R l)(hz:aE v≤9223372036854775807)(hs:mD s):
  aP l R=(0,R)∧dL R=true∧ ∃x,aJ v idN=some x∧aJ R idN=some x∧aT v [idN]=some x∧aT R [idN]=some x:=by
 obtain⟨wv,kv,hid⟩:=ff h.doc hz;obtain⟨a,b,c,d⟩:=eY h.doc hz hs h.ch;have:=jk wv kv a b c d (by rw[h.ap]);rw[h.ap]at this;obtain⟨x,hx⟩:=Option.isSome_iff_exists.1 hid;have hr:=this.2.2.1 x hx
 have g: ∀ {t:VT},aJ t idN=some x→aT t [idN]=some x:=fun {t} e=>by
  show aT t [idN]=some x;rw[aI,e];exact cD x
 exact⟨this.2.1,this.1,x,hx,hr,g hx,g hr⟩
def xX (id:VT):VT:= .mk 7 0 ⟨#[]⟩ [id] [idN]
theorem pC {v d R:VT}{l:List av}(h:us v ⟨true,d,[]⟩ R l)(hz:aE v≤9223372036854775807)(hd:aE d≤9223372036854775807):
  R.items.length=d.items.length+1∧d.names.length=d.items.length∧dL R=true∧ ∀i (h1:i<d.names.length) (h2:i<d.items.length),aT R [d.names[i]]=some d.items[i]:=by
 obtain⟨wv,kv,hid⟩:=ff h.doc hz;obtain⟨c1,c2,-⟩:=fK h.chk;obtain⟨-,f2,f3⟩:=gl c1 rfl;have f2:d.kind=7:=f2;have wd:aX d:=cz f3 hd;have hn:idN∉d.names:=(rx c2).1;obtain⟨a,b,-,-⟩:=eY h.doc hz ⟨h.chk,fun o ho=>absurd ho List.not_mem_nil,hd⟩ h.ch
 have e:aw v ⟨true,d,[]⟩=(0,cg v d):=by
  have:=h.ch;unfold aw at this ⊢;rw[h.doc,if_neg (by simp),h.chk,if_neg (by simp)]at this ⊢
  split at this
  ·rename_i h1;injection this with k _;exact absurd k h1
  ·rename_i h1;rw[if_neg h1]
   split at this
   ·injection this with k _;cases k
   ·rename_i h2;rw[if_neg h2];rfl
 rw[h.ch]at e;injection e with _ e
 subst e;obtain⟨R',g,m,k,r1,r2,r3⟩:=sv wv kv wd f2;obtain⟨g1,g2⟩:=yB _ v R' (fun x hx=>⟨(b x hx).1,uW (b x hx)⟩) (bB.2 ⟨wv.1,kv⟩) g
 have hR:R'=R:=by
  rcases tD wv kv a b with ⟨Q,q1,q2,-⟩|⟨q1,-⟩
  ·rw[h.ap]at q1;injection q1 with _ q1
   rw[g1]at q2;injection q2 with _ q2
   rw[q2,q1]
  ·rw[h.ap]at q1;injection q1 with q1 _;cases q1
 subst hR;refine⟨nM wv wd f2 hid hn m k r1 (r2 hn) r3,(cd wd f2).2.2,g2,fun i h1 h2=> ?_⟩;rw[aI,r1 _ (List.getElem_mem h1),qZ wd.1 f2 (z:=d.names[i]) (y:=d.items[i]) (List.mem_iff_getElem.2 ⟨i,by simp;omega,by simp⟩)];exact cD _
def idP :List ByteArray:=[⟨#[95,105,100]⟩]
theorem yR (S:Nat→Prop)(t:VT)(v:Value)(w:World)(hS: ∀b,S b→b<w.heap.size)(h:LV w S t v)(hd:ac t≤4611686018427387903):
  Calls Tryz.prog 30 #[v] w (wG t idP w):=by
 obtain⟨A0,c0,A0',c0',rfl,-,-,-,v1,hb0⟩:=bV hS h;have HX:=hid v1.x;have HB:=hid hb0;have HV:=hid h;have HD:=hid hd;clear h v1 hb0 hd;go_enter Tryz.func30,Tryz.ntmps30;go_wp2_with fail;have hz1:(w.alloc (.cells #[.int .i64 t.kind,.int .i64 t.num,.string t.text,.slice A0 t.items.length c0,.slice A0' t.names.length c0'] 25)).heap.size=w.heap.size+1:=by simp
 have hB0:Below w.heap.size w ((w.alloc (.cells #[.int .i64 t.kind,.int .i64 t.num,.string t.text,.slice A0 t.items.length c0,.slice A0' t.names.length c0'] 25)).alloc (.cells #[.int .i64 0,.int .i64 0,.string ⟨#[]⟩,.slice none 0 0,.slice none 0 0] 25)):=HB.out.alloc (by omega) _;have hX0:=HX.out.alloc (.cells #[.int .i64 0,.int .i64 0,.string ⟨#[]⟩,.slice none 0 0,.slice none 0 0] 25)
 have hR0:Box ((w.alloc (.cells #[.int .i64 t.kind,.int .i64 t.num,.string t.text,.slice A0 t.items.length c0,.slice A0' t.names.length c0'] 25)).alloc (.cells #[.int .i64 0,.int .i64 0,.string ⟨#[]⟩,.slice none 0 0,.slice none 0 0] 25)) (w.heap.size+1) (.int .i64 0) (.int .i64 0) (.string ⟨#[]⟩) (.slice none 0 0) (.slice none 0 0):=by
  have h:=Box.new (w:=w.alloc (.cells #[.int .i64 t.kind,.int .i64 t.num,.string t.text,.slice A0 t.items.length c0,.slice A0' t.names.length c0'] 25)) (.int .i64 0) (.int .i64 0) (.string ⟨#[]⟩) (.slice none 0 0) (.slice none 0 0);rw[hz1]at h;exact h
 have hz2:((w.alloc (.cells #[.int .i64 t.kind,.int .i64 t.num,.string t.text,.slice A0 t.items.length c0,.slice A0' t.names.length c0'] 25)).alloc (.cells #[.int .i64 0,.int .i64 0,.string ⟨#[]⟩,.slice none 0 0,.slice none 0 0] 25)).heap.size=w.heap.size+2:=by simp
 generalize (w.alloc (.cells #[.int .i64 t.kind,.int .i64 t.num,.string t.text,.slice A0 t.items.length c0,.slice A0' t.names.length c0'] 25)).alloc (.cells #[.int .i64 0,.int .i64 0,.string ⟨#[]⟩,.slice none 0 0,.slice none 0 0] 25)=w2 at *;have q0:=hX0.c0;have q1:=hX0.c1;have q2:=hX0.c2;have q3:=hX0.c3;have q4:=hX0.c4;have HB0:=hid hB0;have HR0:=hid hR0;clear hB0 hX0 hR0 hz1 HB HX;go_wp2_with fail;have hb4:Below w2.heap.size w2 (w2.alloc (.cells #[.string ⟨#[95,105,100]⟩] 9)):=ae _;have hz4:(w2.alloc (.cells #[.string ⟨#[95,105,100]⟩] 9)).heap.size=w.heap.size+3:=by simp[hz2]
 have hs4:(w2.alloc (.cells #[.string ⟨#[95,105,100]⟩] 9)).cell? ⟨w.heap.size+1+1,0,none⟩=some (.string ⟨#[95,105,100]⟩):=by
  have:=Go.Joins.cell_of_block (heap_alloc_new w2 (.cells #[.string ⟨#[95,105,100]⟩] 9)) 0;rw[hz2]at this;exact this
 generalize w2.alloc (.cells #[.string ⟨#[95,105,100]⟩] 9)=w4 at *;have HB4:=hid (HB0.out.trans (hb4.mono (show w.heap.size≤w2.heap.size by omega)));have HR4:=hid (HR0.out.call hb4)
 have hst:ai w4 (fun b=>b<w4.heap.size) (some ⟨w.heap.size+1+1,0,none⟩) idP:=fun _=>⟨_,0,rfl,by show _<_;omega,fun i hi=>by
  obtain rfl:i=0:=by simp[idP]at hi;omega
  exact⟨hs4,by simp[idP];decide⟩⟩
 have HC:=hid (mU (fun b=>b<w4.heap.size) t _ _ 1 idP w4 (fun b hb=>hb) ((HV.out.keep fun b hb=>HB4.out.block b (hS b hb)).imp fun b hb=>by have:=hS b hb;omega) HD.out hst (by decide) (by decide) (by decide));clear hb4 hs4 hst HB0 HR0 q0 q1 q2 q3 q4 HV HD hz2;refine HC.out.mono ?_;rintro e w5 ⟨v',rfl,hv,hb5⟩;obtain⟨B,k,B',k',rfl,-⟩:=hv.shape;have HB5:=hid (HB4.out.trans (hb5.mono (show w.heap.size≤w4.heap.size by omega)));have HR5:=hid (HR4.out.call hb5);have HV5:=hid (hv.imp (S':=fun b=>w.heap.size+1<b∧b<w5.heap.size) fun b hb=>⟨by have:=hb.1;omega,hb.2⟩);have rf:=fun i=>HR5.out.free i;have r0:=HR5.out.c0;have r1:=HR5.out.c1;have r2:=HR5.out.c2;have r3:=HR5.out.c3;have r4:=HR5.out.c4;generalize hU:(bv t idP).getD (.mk 0 0 ⟨#[]⟩ [] [])=u at *;generalize hOK:(bv t idP).isSome=ok at *;have HEND:=hid (mm (p:=idP) (t:=t) HB5.out HV5.out hU hOK.symm);have HBOX:=hid (aY (c0:= .int .i64 u.kind) (c1:= .int .i64 u.num) (c2:= .string u.text) (c3:= .slice B u.items.length k) (c4:= .slice B' u.names.length k') HR5.out);clear hv hb5 HC HR4 HB4 hU hOK HV5 HB5 hz4;go_wp2_with fail;refine bodyPost_ret (ar rfl _ _ (w.heap.size+1) 25 _ (0,0) rfl HBOX.out (by kernel_rfl)) rfl ?_;exact HEND.out
theorem ou {t:VT}(h:aG t=0):ao t=true:=by
 unfold aG at h
 cases hm:ao t with
 |true=>rfl
 |false=>rw[hm]at h;simp at h
theorem zU (v:VT):okT v idP=(aJ v idN).isSome:=by
 unfold okT;show(aT v [idN]).isSome=_;rw[aI];cases aJ v idN<;>rfl
theorem qU (S:Nat→Prop)(t:VT)(v:Value)(w:World)(hS: ∀b,S b→b<w.heap.size)(h:LV w S t v)(hd:ac t≤4611686018427387903):
  Calls Tryz.prog 23 #[v] w fun e w'=>e= .returned (.bool (bN t))∧Below w.heap.size w w':=by
 obtain⟨A0,c0,A0',c0',rfl,-,-,-,v1,hb0⟩:=bV hS h;obtain⟨w1,hw1⟩: ∃W,W=w.alloc (.cells #[.int .i64 t.kind,.int .i64 t.num,.string t.text,.slice A0 t.items.length c0,.slice A0' t.names.length c0'] 25):=⟨_,rfl⟩;have hx:=v1.x;rw[←hw1]at hx hb0;have hS1: ∀b,S b→b<w1.heap.size:=fun b hb=>Nat.lt_of_lt_of_le (hS b hb) hb0.size;have hv1:=h.keep (w':=w1) fun b hb=>hb0.block b (hS b hb);have HCK:=hid (tn S t _ w1 hd hS1 hv1);have HX:=hid hx;have HB:=hid hb0;have HV:=hid hv1;have HS:=hid hS1;have HSZ:Hid (w.heap.size<w1.heap.size):=hid hx.lt;have q0:=hx.c0;have q1:=hx.c1;have q2:=hx.c2;have q3:=hx.c3;have q4:=hx.c4;clear h v1 hx hb0 hS1 hv1 hd;go_enter Tryz.func23,Tryz.ntmps23;by_cases hk:t.kind=7;rotate_left
 ·have d:(t.kind != 7)=true:=by simp[hk]
  have HE:Hid (bN t=false):=hid (by unfold bN;simp[hk]);clear hk;go_wp2_with fail;rw[←hw1];clear hw1;go_wp2_with fail;go_ret;exact⟨by rw[HE.out];rfl,HB.out⟩
 have d:(t.kind != 7)=false:=by simp[hk]
 have HK:=hid hk;clear hk;go_wp2_with fail;rw[←hw1];clear hw1;go_wp2_with fail;refine HCK.out.mono ?_;rintro e w2 ⟨rfl,hb2⟩;have HX2:=hid (HX.out.call hb2);have HB2:=hid (HB.out.trans (hb2.mono HB.out.size));have HV2:=hid (HV.out.keep fun b hb=>hb2.block b (HS.out b hb));have HZ2:Hid (∀b,b<w1.heap.size→b<w2.heap.size):=hid (fun b hb=>Nat.lt_of_lt_of_le hb hb2.size);clear HCK hb2 q0 q1 q2 q3 q4;by_cases hc:aG t=0;rotate_left
 ·have d2:(aG t != 0)=true:=by simp[hc]
  have HE:Hid (bN t=false):=hid (by unfold bN;simp[hc]);clear hc;go_wp2_with fail;go_ret;exact⟨by rw[HE.out];rfl,HB2.out⟩
 have d2:(aG t != 0)=false:=by simp[hc]
 have HC:=hid hc;clear hc;have q0:=HX2.out.c0;have q1:=HX2.out.c1;have q2:=HX2.out.c2;have q3:=HX2.out.c3;have q4:=HX2.out.c4;go_wp2_with fail;obtain⟨w3,hw3⟩: ∃W,W=w2.alloc (.cells #[.string ⟨#[95,105,100]⟩] 9):=⟨_,rfl⟩;have hn3:w3.heap[w2.heap.size]? =some (.cells #[.string ⟨#[95,105,100]⟩] 9 (0,0)):=by rw[hw3];exact heap_alloc_new w2 _
 have hb3:Below w2.heap.size w2 w3:=by rw[hw3];exact(Below.refl _ _).alloc (Nat.le_refl _) _
 have hz3:w3.heap.size=w2.heap.size+1:=by rw[hw3];simp
 rw[←hw3];clear hw3
 have hst:ai w3 (fun b=>S b∨b=w2.heap.size) (some ⟨w2.heap.size,0,none⟩) idP:=fun _=>⟨_,0,rfl,.inr rfl,fun i hi=>by
  obtain rfl:i=0:=by simp[idP]at hi;omega
  exact⟨Go.Joins.cell_of_block hn3 0,by simp[idP];decide⟩⟩
 have HG:=hid (ie (fun b=>S b∨b=w2.heap.size) t _ (some ⟨w2.heap.size,0,none⟩) 1 idP w3 (fun b hb=>by
  rcases hb with hb|hb
  ·have:=HZ2.out b (HS.out b hb);omega
  ·omega) ((HV2.out.keep fun b hb=>hb3.block b (HZ2.out b (HS.out b hb))).imp fun b hb=> .inl hb) (ou HC.out) hst (by decide))
 have HB3:=hid (HB2.out.trans (hb3.mono (by have:=HB2.out.size;omega)));have HZ3:Hid (w.heap.size≤w3.heap.size):=hid HB3.out.size;clear hst hn3 hb3 hz3;refine HG.out.mono ?_;rintro e w4 ⟨u,rfl,hv4,hb4⟩;obtain⟨B,k,B',k',rfl,-⟩:=hv4.shape;have HB4:=hid (HB3.out.trans (hb4.mono HZ3.out));have HE:Hid (okT t idP=bN t):=hid (by unfold bN;rw[zU];simp[HK.out,HC.out]);clear hv4 hb4 HG q0 q1 q2 q3 q4;obtain⟨ok,hok⟩: ∃b,b=okT t idP:=⟨_,rfl⟩;rw[←hok];have HO:=hid hok;clear hok;go_wp2_with fail;go_ret;exact⟨by rw[←HE.out,←HO.out];rfl,HB4.out.alloc HB4.out.size _⟩
theorem xi {K:Nat}{t:VT}(h:aM K t=true):t.items.length≤K∧t.names.length≤K:=by
 cases t with
 |mk k i s l ns=>
  unfold aM at h;simp only[Bool.and_eq_true,decide_eq_true_eq]at h;exact⟨h.1,h.2.1⟩
theorem iF {t:VT}(h:aX t):t.items.length≤4096∧t.names.length≤4096:=xi (er _ _ (Nat.le_refl _) h)
theorem za {t d:VT}(ht:aX t)(kt:t.kind=7)(hd:aX d)(kd:d.kind=7):sJ t d:=by
 obtain⟨-,-,l1⟩:=cd ht kt;obtain⟨-,-,l2⟩:=cd hd kd;have m1:=iF ht;have m2:=iF hd;exact⟨kt,l1,l2,by omega,by omega,fun y hy=>by have:=(ev ht hy).2.1;omega,fun y hy=>by have:=(ev hd hy).2.1;omega⟩
theorem vk {o:OpT}(h:co o=true):cn o.path=true:=by
 unfold co at h;rw[Bool.and_eq_true]at h;exact h.1
theorem zM {o:OpT}(h:co o=true)(k:o.kind=6):cn o.to=true:=by
 unfold co at h;rw[Bool.and_eq_true,k]at h;have h2:=h.2;simp at h2;exact h2.2
theorem sy {o:OpT}(h:co o=true)(hz:aE o.val≤9223372036854775807):ac o.val≤8:=by
 unfold co at h;rw[Bool.and_eq_true]at h;have h2:=h.2;have hn:eO o.val=true→ac o.val≤8:=fun e=>by rw[(ku _).1 e];decide
 have hc:aG o.val=0→ac o.val≤8:=fun e=>(cz e hz).2.1
 split at h2
 ·simp only[Bool.and_eq_true,decide_eq_true_eq]at h2;exact hc h2.1.2
 split at h2
 ·simp only[Bool.and_eq_true,decide_eq_true_eq]at h2;exact hc h2.1
 split at h2
 ·simp only[Bool.and_eq_true]at h2;exact hn h2.1
 split at h2
 ·simp only[Bool.and_eq_true]at h2;exact hn h2.1
 ·cases h2
theorem pV {t X:VT}{p:List ByteArray}(h:aX t)(hX:X=(bv t p).getD (.mk 0 0 ⟨#[]⟩ [] [])):ac X≤8∧X.items.length≤4096:=by
 subst hX
 cases e:bv t p with
 |none=>exact⟨by decide,by decide⟩
 |some x=>exact⟨(kK h e).2.1,(iF (kK h e)).1⟩
theorem Aw {t:VT}{o:OpT}(ht:aX t)(ho:co o=true)(hz:aE o.val≤9223372036854775807):Ab o ((bv t o.path).getD (.mk 0 0 ⟨#[]⟩ [] []))∧0<o.path.length:=by
 have hp:=vk ho;obtain⟨f1,f2⟩:=pV (p:=o.path) ht rfl;have hl:=((qL _).1 hp).2.1;exact⟨⟨fun k=>nz (zM ho k),by omega,by have:=sy ho hz;omega,by omega,by omega,vP hp⟩,nz hp⟩
theorem ze {t:VT}(h:aG t=0)(k:t.kind=7):dL t=true:=bB.2 ⟨ou h,k⟩
theorem yO {t:VT}(h:aG t=0):(bv t idP).isSome=bN t:=by
 unfold bv dJ bN;have hid:cn idP=true:=by kernel_rfl
 by_cases k:t.kind=7
 ·rw[ze h k,hid];simp only[k,h,decide_true,Bool.true_and,Bool.true_eq_false,if_false];have:=zU t;unfold okT at this;simpa using this
 ·have hd:dL t=false:=by
   cases e:dL t with
   |true=>exact absurd (bB.1 e).2 k
   |false=>rfl
  rw[hd];simp[k]
theorem oE {t:VT}(h:bN t=true):(bv t idP).isSome=true∧aG t=0:=by
 have hc:aG t=0:=by
  unfold bN at h;simp only[Bool.and_eq_true,decide_eq_true_eq]at h;exact h.1.2
 exact⟨by rw[yO hc];exact h,hc⟩
theorem li {t:VT}{s:ba}(h:bN t=false):aw t s=(20,[]):=by unfold aw;rw[if_pos h]
theorem lQ {t:VT}{s:ba}(h:bN t=true)(hx:bX s≠0):aw t s=(bX s,[]):=by
 unfold aw;rw[if_neg (by rw[h];simp),if_pos hx]
theorem pQ {t:VT}{s:ba}(h:bN t=true)(hx:bX s=0):aw t s=if(fZ t s).1≠0 then((fZ t s).1,[])else if 64<(fZ t s).2.length then(3,[])else fZ t s:=by
 unfold aw;rw[if_neg (by rw[h];simp),if_neg (by simp[hx])]
end Go.Proofs.YtgbopnlpaabelaaGreatDoor
