/- What all operators of an update change, by the program. -/
import Derived.Test.YtgbopnlpaabelaaGreatDoorKPathT
import Derived.Test.YtgbopnlpaabelaaGreatDoorKUpC
import Derived.Test.YtgbopnlpaabelaaGreatDoorKTrE
import Derived.Test.YtgbopnlpaabelaaGreatDoorKUpJ
import Derived.Test.YtgbopnlpaabelaaGreatDoorKSpJ
import Derived.Test.YtgbopnlpaabelaaGreatDoorKTrA
set_option maxHeartbeats 64000000
set_option maxRecDepth 100000
set_option linter.unusedVariables false
set_option linter.unusedSimpArgs false
namespace Go.Proofs.YtgbopnlpaabelaaGreatDoor
open Lib (hid)
open Go.RowKit
theorem zz (v:VT)(o:OpT):opU o (if(bC v o.path).isSome then some ((bC v o.path).getD (.mk 0 0 ⟨#[]⟩ [] []))else none) (jq v o.path)=et v o:=by
 unfold et;cases bC v o.path<;>rfl
theorem qO (S:Nat→Prop)(t:VT)(v:Value)(s:bg)(cs:Array Value)(w:World)(hS: ∀b,S b→b<w.heap.size)(h:LV w S t v)(hs:cw w S s cs)(hcap:lM w s.ops cs)(hd:ac t≤1000000)(htab:Lib.TabIs Tryz.prog w "internal/strconv.uint64pow10" .u64 Lib.pow10Tab)
  (hrep:s.rep=true→tA t s.doc) (hlen:s.rep=false→s.ops.length≤1000) (hok:s.rep=false→ ∀o∈s.ops,AU o ((bC t o.path).getD (.mk 0 0 ⟨#[]⟩ [] []))∧0<o.path.length):
  Calls Tryz.prog 33 #[v,.agg cs] w (OpR S (gb t s) w):=by
 have hv:=h;obtain⟨A0,c0,A0',c0',rfl,-,-,-,-,-,-,-⟩:=h.shape;obtain⟨DA,dc,DA',dc',OA,oc,rfl,hdv,hop,hoc,hol⟩:=hs;have hco:=hcap OA s.ops.length oc rfl;obtain⟨w2,hw2⟩: ∃W,W=(w.alloc (.cells #[.int .i64 t.kind,.int .i64 t.num,.string t.text,.slice A0 t.items.length c0,.slice A0' t.names.length c0'] 25)).alloc (.cells #[.bool s.rep,.int .i64 s.doc.kind,.int .i64 s.doc.num,.string s.doc.text,.slice DA s.doc.items.length dc,.slice DA' s.doc.names.length dc',.slice OA s.ops.length oc] 28):=⟨_,rfl⟩;have hz1:(w.alloc (.cells #[.int .i64 t.kind,.int .i64 t.num,.string t.text,.slice A0 t.items.length c0,.slice A0' t.names.length c0'] 25)).heap.size=w.heap.size+1:=by simp
 have hvb:w2.heap[w.heap.size]? =some (.cells #[.int .i64 t.kind,.int .i64 t.num,.string t.text,.slice A0 t.items.length c0,.slice A0' t.names.length c0'] 25 (0,0)):=by rw[hw2,Below.heap_alloc _ _ _ (by omega)];exact heap_alloc_new w _
 have hsb:w2.heap[w.heap.size+1]? =some (.cells #[.bool s.rep,.int .i64 s.doc.kind,.int .i64 s.doc.num,.string s.doc.text,.slice DA s.doc.items.length dc,.slice DA' s.doc.names.length dc',.slice OA s.ops.length oc] 28 (0,0)):=by rw[hw2,←hz1];exact heap_alloc_new _ _
 have hb2:Below w.heap.size w w2:=by rw[hw2];exact((Below.refl _ _).alloc (Nat.le_refl _) _).alloc (by omega) _
 have hz2:w2.heap.size=w.heap.size+2:=by rw[hw2];simp
 have hk2: ∀b,S b→w2.heap[b]? =w.heap[b]? :=fun b hb=>hb2.block b (hS b hb);have HS:=hid hS;have HB2:=hid hb2;have HZ2:=hid hz2;have HV:=hid (hv.keep hk2);have HD:=hid (hdv.keep hk2);have HO:=hid (hop.keep hk2);have HC:=hid (hco.keep hop hk2);have HK:=hid (And.intro hvb hsb);have HT:=hid htab;have HDT:=hid hd;have HOK:=hid hok;have HLN:=hid hlen;have HRP:=hid hrep;have HOC:=hid (And.intro hoc hol);obtain⟨i0,hi,hi0,hi1,hi2⟩:=info_parts Tryz.infoDlt;have p0:=Go.Joins.cell_of_block hsb 0;clear hcap hco hz1 hb2 hz2 hk2 hS hv h hdv hop hoc hol htab hd hok hlen hrep hsb;go_enter Tryz.func33,Tryz.ntmps33
 cases hr:s.rep with
 |true=>
  have p0':w2.cell? ⟨w.heap.size+1,0,none⟩=some (.bool true):=by rw[p0,hr];rfl
  rw[hr]at hw2;have p1:=Go.Joins.cell_of_block HK.out.2 1;have p2:=Go.Joins.cell_of_block HK.out.2 2;have p3:=Go.Joins.cell_of_block HK.out.2 3;have p4:=Go.Joins.cell_of_block HK.out.2 4;have p5:=Go.Joins.cell_of_block HK.out.2 5;have q0:=Go.Joins.cell_of_block hvb 0;have q1:=Go.Joins.cell_of_block hvb 1;have q2:=Go.Joins.cell_of_block hvb 2;have q3:=Go.Joins.cell_of_block hvb 3;have q4:=Go.Joins.cell_of_block hvb 4;have HRR:=hid (xj S t s.doc _ _ w2 (fun b hb=>by have:=HS.out b hb;have:=HZ2.out;omega) HV.out HD.out (HRP.out hr));have HR:=hid hr;clear hvb p0 hr;go_wp2_with fail;rw[←hw2];clear hw2;go_wp2_with fail;refine HRR.out.mono ?_;rintro e w3 ⟨A,c,rfl,h3⟩;have H3:=hid h3;clear h3 HRR p0' p1 p2 p3 p4 p5 q0 q1 q2 q3 q4;go_wp2_with fail
  go_ret2
  rw[show gb t s=(0,cT t s.doc) by unfold gb;rw[HR.out];rfl]
  exact OpR.back (r:=(0,cT t s.doc)) ⟨A,c,rfl,H3.out⟩ HB2.out HS.out
 |false=>
  have p0':w2.cell? ⟨w.heap.size+1,0,none⟩=some (.bool false):=by rw[p0,hr];rfl
  rw[hr]at hw2;have p6:=Go.Joins.cell_of_block HK.out.2 6;have HE:Hid (gb t s=aY t s.ops):=hid (by unfold gb;rw[hr];rfl);have HOQ:=hid (HOK.out hr);have HLQ:=hid (HLN.out hr);have hl9:=HLQ.out;clear hvb p0 hr HOK HLN HRP HD;go_wp2_with fail;rw[←hw2];clear hw2;go_wp2_with fail;clear p0' p6
  go_loopw [6,20] (fun l i wr=> ∃(j:Nat) (A:Option Addr) (c:Nat) (r:List au),l= .slice A r.length c∧i= .int .i64 j∧j≤s.ops.length∧Hid (aY t (s.ops.take j)=(0,r)∧r.length≤2 * j)∧Hid (bw cQ 8 58 S w2 wr A c r)∧Hid (Below w2.heap.size w2 wr)) (fun _ i _=>s.ops.length - (intOf i).toNat)
  case atStart=>exact⟨0,none,0,[],rfl,rfl,Nat.zero_le _,hid ⟨rfl,Nat.zero_le _⟩,hid (bw.nil _ _),hid (Below.refl _ _)⟩
  case round=>
   obtain⟨j,A,c,r,rfl,rfl,hj,HG,HR,HB⟩:=hrel;by_cases hlt:j<s.ops.length
   ·have hS2: ∀b,S b→b<w2.heap.size:=fun b hb=>Nat.lt_of_lt_of_le (HS.out b hb) HB2.out.size;have hkr: ∀b,S b→wr.heap[b]? =w2.heap[b]? :=fun b hb=>HB.out.block b (hS2 b hb);obtain⟨b,off,PA,pc,VA,vc,VA',vc',TA,tc,rfl,hb,h63,hopl,hrg⟩:=(HO.out.keep hkr).cellsC (HC.out.keep HO.out hkr) j hlt;obtain⟨o,ho⟩: ∃o,o=s.ops[j]:=⟨_,rfl⟩;have hoq:=HOQ.out _ (List.getElem_mem hlt);rw[←ho]at hopl hrg hoq;obtain⟨wd,hwd⟩: ∃W,W=(wr.alloc (.cells #[.int .i64 o.kind,.slice PA o.path.length pc,.int .i64 o.val.kind,.int .i64 o.val.num,.string o.val.text,.slice VA o.val.items.length vc,.slice VA' o.val.names.length vc',.slice TA o.to.length tc] 51)).drew:=⟨_,rfl⟩;have hob:wd.heap[wr.heap.size]? =some (.cells #[.int .i64 o.kind,.slice PA o.path.length pc,.int .i64 o.val.kind,.int .i64 o.val.num,.string o.val.text,.slice VA o.val.items.length vc,.slice VA' o.val.names.length vc',.slice TA o.to.length tc] 51 (0,0)):=by rw[hwd];exact heap_alloc_new wr _
    have hbd:Below wr.heap.size wr wd:=by rw[hwd];exact((Below.refl _ _).alloc (Nat.le_refl _) _).drew
    have hzd:wd.heap.size=wr.heap.size+1:=by rw[hwd];simp[World.drew]
    have hB2d:Below w2.heap.size w2 wd:=HB.out.trans (hbd.mono HB.out.size);have hvd:wd.heap[w.heap.size]? =some (.cells #[.int .i64 t.kind,.int .i64 t.num,.string t.text,.slice A0 t.items.length c0,.slice A0' t.names.length c0'] 25 (0,0)):=(hB2d.block _ (by have:=HZ2.out;omega)).trans HK.out.1;have HRD:=hid (HR.out.below fE HB.out.size hbd);have HRG:=hid hrg;have HPO:Hid (∀p,(Value.slice A r.length c).ownBlock=some p→p<wd.heap.size):=hid fun p hp=>by have:=(HR.out.own p hp).2;omega
    have HOO:=hid ho;have HOP:=hid (hopl.keep fun b hb=>hbd.block b (Nat.lt_of_lt_of_le (hS2 b hb) HB.out.size));have HQ:=hid (And.intro hoq (And.intro hlt h63));have HB2D:=hid hB2d;have HZD:=hid hzd
    have HLK:Hid (∀W,Below wd.heap.size wd W→Calls Tryz.prog 62 #[.agg #[.int .i64 t.kind,.int .i64 t.num,.string t.text,.slice A0 t.items.length c0,.slice A0' t.names.length c0'],.slice PA o.path.length pc] W (AH t o.path W)):=hid fun W hW=>by
     have hSd: ∀b,S b→b<wd.heap.size:=fun b hb=>Nat.lt_of_lt_of_le (hS2 b hb) hB2d.size;have hop2:=HOP.out;obtain⟨PA2,pc2,a1,a2,a3,a4,a5,TA2,tc2,e,-,hp,-,hpc,-,-,hpl,-⟩:=hop2;simp only[Array.mk.injEq,List.cons.injEq,Value.slice.injEq,and_true,true_and]at e;obtain⟨⟨rfl,rfl⟩,-⟩:=e;exact wm S t _ PA pc o.path W (fun b hb=>Nat.lt_of_lt_of_le (hSd b hb) hW.size) (HV.out.keep fun b hb=>(hW.block b (hSd b hb)).trans (hB2d.block b (hS2 b hb))) (by have:=HDT.out;omega) (hp.keep fun b hb=>hW.block b (hSd b hb)) hoq.2 (by omega) hpc h63
    have hs0:w.heap.size<wd.heap.size:=by have:=HZ2.out;have:=hB2d.size;omega
    have hs1:wr.heap.size<wd.heap.size:=by omega
    have kz:=fun(q:af (aE wd.heap.size) wd) (b i:Nat) (hb:b<wd.heap.size)=>World.cell?_of_block (a:=⟨b,i,none⟩) (q.h.block b hb);have HOB:=hid hob;have HVD:=hid hvd;clear hrg hopl hoq hob hbd hzd hB2d hvd hkr hS2 ho h63 hb HR;go_wp2_with(refine gG (by rfl) 51 _ rfl b (off+j * 8) rfl [.int .i64 o.kind,.slice PA o.path.length pc,.int .i64 o.val.kind,.int .i64 o.val.num,.string o.val.text,.slice VA o.val.items.length vc,.slice VA' o.val.names.length vc',.slice TA o.to.length tc] _ HRG.out Tryz.underlying51 rfl (by kernel_rfl) ?_;simp only[acR,Act.put]);have y0:=fun q:af (aE wd.heap.size) wd=>(kz q wr.heap.size 0 hs1).trans (Go.Joins.cell_of_block HOB.out 0);have y1:=fun q:af (aE wd.heap.size) wd=>(kz q wr.heap.size 1 hs1).trans (Go.Joins.cell_of_block HOB.out 1);have y2:=fun q:af (aE wd.heap.size) wd=>(kz q wr.heap.size 2 hs1).trans (Go.Joins.cell_of_block HOB.out 2);have y3:=fun q:af (aE wd.heap.size) wd=>(kz q wr.heap.size 3 hs1).trans (Go.Joins.cell_of_block HOB.out 3);have y4:=fun q:af (aE wd.heap.size) wd=>(kz q wr.heap.size 4 hs1).trans (Go.Joins.cell_of_block HOB.out 4);have y5:=fun q:af (aE wd.heap.size) wd=>(kz q wr.heap.size 5 hs1).trans (Go.Joins.cell_of_block HOB.out 5);have y6:=fun q:af (aE wd.heap.size) wd=>(kz q wr.heap.size 6 hs1).trans (Go.Joins.cell_of_block HOB.out 6);have y7:=fun q:af (aE wd.heap.size) wd=>(kz q wr.heap.size 7 hs1).trans (Go.Joins.cell_of_block HOB.out 7);have z0:=fun q:af (aE wd.heap.size) wd=>(kz q w.heap.size 0 hs0).trans (Go.Joins.cell_of_block HVD.out 0)
    have z1:=fun q:af (aE wd.heap.size) wd=>(kz q w.heap.size 1 hs0).trans (Go.Joins.cell_of_block HVD.out 1);have z2:=fun q:af (aE wd.heap.size) wd=>(kz q w.heap.size 2 hs0).trans (Go.Joins.cell_of_block HVD.out 2);have z3:=fun q:af (aE wd.heap.size) wd=>(kz q w.heap.size 3 hs0).trans (Go.Joins.cell_of_block HVD.out 3);have z4:=fun q:af (aE wd.heap.size) wd=>(kz q w.heap.size 4 hs0).trans (Go.Joins.cell_of_block HVD.out 4);clear kz;refine av (aE wd.heap.size) (aE.refl _) (aE.trans _) [12,13] (.pure [0,1,3,4,5,6] (.step 2 (.step 7 (.step 8 (.free [9,10,11] (.tail [12,13])))))) (by kernel_rfl) (by kernel_rfl) (fun _ d _ _ _ h=>by cases d<;>exact h) ?_;rw[←hwd];clear hwd;refine bN ?_;simp only[atR];show wpQuiet _ _ _ _ [_,_,_,_,_,_] _;try simp only[acR,Act.put]
    repeat(go_big_quiet_step (fail))
    refine wpQuiet_nil ?_;clear y0 y1 y2 y3 y4 y5 y6 y7 z0 z1 z2 z3 z4;obtain⟨X,hX⟩: ∃X,X=(bC t o.path).getD (.mk 0 0 ⟨#[]⟩ [] []):=⟨_,rfl⟩;obtain⟨f,hf⟩: ∃f,f=(bC t o.path).isSome:=⟨_,rfl⟩;obtain⟨ia,hia⟩: ∃f,f=jq t o.path:=⟨_,rfl⟩;have HXF:=hid (And.intro hX (And.intro hf hia));clear hX hf hia;refine ah rfl (fun K hK=> ?_)
    go_simp
    refine(zV o.kind wd).mono ?_;rintro e w4 ⟨u,rfl,hu,hb4⟩;refine hK _ _ (.inr hb4) ?_;clear hK K;refine ah rfl (fun K hK=> ?_)
    go_simp
    refine(HLK.out w4 hb4).mono ?_;rintro e w6 ⟨x0,x1,x2,x3,x4,rfl,hx6,hb6⟩;rw[←HXF.out.1]at hx6;rw[←HXF.out.2.1,←HXF.out.2.2];refine hK _ _ (.inr (hb6.mono hb4.size)) ?_;clear hK K;have HU:Hid (∃w0 w1,OpV o.kind w0 w1 u∧Below w1.heap.size w1 w6):=hid ⟨wd,w4,hu,hb6⟩;have HX6:Hid (LV w6 (fun b=>wd.heap.size≤b∧b<w6.heap.size) X (.agg #[x0,x1,x2,x3,x4])):=hid (hx6.imp fun b hb=>⟨Nat.le_trans hb4.size hb.1,hb.2⟩);have HB6:Hid (Below wd.heap.size wd w6):=hid (hb4.trans (hb6.mono hb4.size));clear hu hb4 hx6 hb6 w4;have hsh:=HX6.out.shape;obtain⟨XA,xc,XA',xc',hxe,-⟩:=hsh;simp only[Value.agg.injEq,Array.mk.injEq,List.cons.injEq,and_true]at hxe;obtain⟨rfl,rfl,rfl,rfl,rfl⟩:=hxe;have hSd: ∀b,S b→b<wd.heap.size:=fun b hb=>by have:=HS.out b hb;have:=HZ2.out;have:=HB2D.out.size;omega
    have hin:qu (fun b=>S b∨(wd.heap.size≤b∧b<w6.heap.size)) o X w6 PA pc VA vc VA' vc' TA tc XA xc XA' xc':=by
     have hop2:=HOP.out.keep (w':=w6) fun b hb=>HB6.out.block b (hSd b hb);obtain⟨PA2,pc2,a1,a2,a3,a4,a5,TA2,tc2,e,hov,hp,hto,hpc,htc,-,hpl,htl⟩:=hop2;simp only[Array.mk.injEq,List.cons.injEq,Value.slice.injEq,and_true,true_and]at e;obtain⟨⟨rfl,rfl⟩,rfl,rfl,rfl,rfl,rfl,rfl,rfl⟩:=e;exact⟨fun b hb=>hb.elim (fun h=>Nat.lt_of_lt_of_le (hSd b h) HB6.out.size) (fun h=>h.2),hov.imp fun b hb=> .inl hb,hp.imp fun b hb=> .inl hb,hto.imp fun b hb=> .inl hb,hpc,htc,hpl,htl,HQ.out.1.2,HX6.out.imp fun b hb=> .inr hb⟩
    obtain⟨w0,w1,hu,hw16⟩:=HU.out;have hB26:Below w2.heap.size w2 w6:=HB2D.out.trans (HB6.out.mono HB2D.out.size);obtain⟨gf,cap,rfl,hen,hcall⟩:=xN _ o X f ia w0 w1 w6 u PA pc VA vc VA' vc' TA tc XA xc XA' xc' hu hw16 hin (by rw[HXF.out.1];exact HQ.out.1.1) (Lib.tabBelow_of_tabIs HT.out w6 (HB2.out.trans (hB26.mono HB2.out.size)));have HCL:=hid hcall;have HB26:=hid hB26;have HSD:=hid hSd;clear hin hu hw16 hcall hB26 hSd HU HLK;refine ah rfl (fun K hK=> ?_)
    go_simp
    refine HCL.out.mono ?_;rintro e w7 hR;rw[HXF.out.1,HXF.out.2.1,HXF.out.2.2,zz]at hR;obtain⟨A2,c2,rfl,hd2,hn2,hc2,hb7⟩:=hR;refine hK _ _ (.inr (hb7.mono HB6.out.size)) ?_;clear hK K;obtain⟨R,hR⟩: ∃R,R=et t o:=⟨_,rfl⟩;rw[←hR]at hd2 hn2 hc2;rw[←hR];have HRR:=hid hR;have HD2:=hid hd2;have HN2:=hid hn2;have HB7:=hid hb7;clear hd2 hn2 hc2 hb7 hR HCL hen;refine bm ?_;simp only[atR];show wpQuiet _ _ _ _ [_,_,_] _;try simp only[acR,Act.put]
    repeat(go_big_quiet_step (fail))
    refine wpQuiet_nil ?_;refine aw rfl (fun K hK=> ?_)
    go_simp
    refine hK _ _ ?_;clear hK K;refine aw rfl (fun K hK=> ?_)
    go_simp
    refine hK _ _ ?_;clear hK K;refine aX ?_;have HB27:Hid (Below w2.heap.size w2 w7):=hid (HB26.out.trans (HB7.out.mono HB26.out.size));by_cases hx:R.1=0;rotate_left
    ·have d:(R.1 != 0)=true:=by simp[hx]
     have HEE:Hid (aY t s.ops=(R.1,[])):=hid (by
      have:=sG HQ.out.2.1 HG.out.1 (by rw[←HOO.out,←HRR.out];exact hx);rw[←HOO.out,←HRR.out]at this
      exact this)
     clear hx;go_wp2_with fail
     go_ret2
     rw[HE.out,HEE.out];exact OpR.no _ (HB2.out.trans (HB27.out.mono HB2.out.size))
    have d:(R.1 != 0)=false:=by simp[hx]
    have HNX:Hid (aY t (s.ops.take (j+1))=(0,r++R.2)∧(r++R.2).length≤2 * (j+1)):=hid (by
     have h1:=sy HQ.out.2.1 HG.out.1 (by rw[←HOO.out,←HRR.out];exact hx);rw[←HOO.out,←HRR.out]at h1;refine⟨h1,?_⟩;have h2:=HG.out.2;have h3:R.2.length≤2:=by rw[HRR.out];exact uz _ _ _
     rw[List.length_append]
     omega)
    have HL2:Hid (r.length≤2000∧R.2.length≤2):=hid ⟨by have:=HG.out.2;have:=HLQ.out;omega,by rw[HRR.out];exact uz _ _ _⟩;have HR7:=hid ((HRD.out.below fE HB2D.out.size HB6.out).below fE HB26.out.size HB7.out);clear hx HRD HX6 HOP HRG HOB HVD
    cases A2 with
    |none=>
     obtain⟨rfl,hr2⟩:=HN2.out rfl;have HR8:Hid (bw cQ 8 58 S w2 w7 A c (r++R.2)):=hid (by rw[hr2,List.append_nil];exact HR7.out);have HLE:Hid ((r++R.2).length=r.length):=hid (by rw[hr2,List.append_nil]);rw[hr2];simp only[List.length_nil];clear hr2;go_wp2_with(at_builtin;refine jp rfl _ _ 32 rfl 58 i0 Tryz.underlying32 hi A r.length c 0 rfl rfl HR7.out.cap ?_;simp only[acR,Act.put])
     go_roundw
     case rel=>exact⟨j+1,A,c,r++R.2,by rw[HLE.out],by go_num,by omega,HNX,HR8,HB27⟩
     case measure=>simp[intOf];omega
    |some a=>
     obtain⟨ys,k1,k2,k3⟩:=bJ.cells (L:=cQ) (m:=8) fE (fun hp=>HD2.out hp);obtain⟨xs,S1,g1,g2,g3⟩:=HR7.out;have HY:=hid (And.intro k1 (And.intro k2 (k3 a rfl)));have HXS:=hid (And.intro g1 (And.intro g2 g3));have HC1:=hid (nN k1);clear k1 k2 k3 g1 g2 g3
     go_wp2_with(at_builtin;refine wpList_append_own_at _ rfl _ _ 32 rfl w2.heap.size 58 i0 _ 8 120 Tryz.underlying32 hi hi0 hi1 hi2 rfl (by decide) _ r.length xs rfl HXS.out.1 a R.2.length c2 ys rfl HY.out.2.1 HY.out.2.2 HC1.out (by have:=HL2.out;unfold maxLen;omega) (by have:=HL2.out;omega) HB27.out.size ?_;intro v8 w8 hown8 hg8 hnil8 hat8;have HW:=hid (jl (S:=S) HB27.out.size hown8 hg8 hat8 HR7.out.own HXS.out.2.1 HXS.out.2.2 HY.out.1 (fun b hb=>by
      rcases hb with ⟨h|h,h2⟩|h
      ·exact .inl ⟨h,by have:=HS.out b h;have:=HZ2.out;omega⟩
      ·exact .inr ⟨by have:=h.1;have:=HB2D.out.size;omega,by have:=HB7.out.size;omega,fun p hp e=>by have:=(HR7.out.own p hp);have:=HPO.out p hp;omega⟩
      ·exact .inr ⟨by have:=h.1;have:=HB26.out.size;omega,h.2,fun p hp e=>by have:=HPO.out p hp;have:=h.1;have:=HB6.out.size;omega⟩));obtain⟨⟨A8,c8,rfl,hr8⟩,hb8⟩:=HW.out;have HR8:=hid hr8;have HB8:=hid (HB27.out.trans (hb8.mono (Nat.le_refl _)));clear hown8 hg8 hnil8 hat8 HW hr8 hb8)
     go_roundw
     case rel=>exact⟨j+1,A8,c8,r++R.2,by rw[List.length_append],by go_num,by omega,HNX,HR8,HB8⟩
     case measure=>simp[intOf];omega
   ·obtain rfl:j=s.ops.length:=by omega
    go_wp2_with fail
    go_ret2
    rw[HE.out,show aY t s.ops=(0,r) by rw[←HG.out.1,List.take_length]];exact OpR.back (OpR.of_rows HR.out HB.out) HB2.out HS.out
theorem pr : ∀l:List VT,l.length≤bI l
 | []=>Nat.zero_le _
 |x::l=>by
  have h1:=xl x;have h2:=pr l;unfold bI;rw[List.length_cons];omega
theorem fD : ∀(n:Nat) (t:VT),ac t≤n→bv t→aR 4096 t=true
 |0,t,h,_=>absurd (fo t) (by omega)
 |n+1,t,h,hw=>by
  have h3:=hw.2.2;rw[dW]at h3;have h4:=pr t.items;refine(bj t).2 ⟨by omega,?_,fun x hx=>fD n x (by have:=cE hx;omega) (fq hw hx)⟩;by_cases hk:t.kind=7
  ·have:=(dX hw hk).2.2;omega
  ·have hn:t.names= []:=by
    cases t with
    |mk k i s l ns=>exact(ey hw.1).2.1 hk
   rw[hn];simp
theorem kZ {d:au}(h:ck d):aR 4096 d.val=true:=by
 rcases h.2 with ⟨-,k⟩|⟨-,k⟩
 ·exact fD _ _ (Nat.le_refl _) k
 ·rw[k];exact(bj _).2 ⟨Nat.zero_le _,Nat.zero_le _,fun _ h=>by cases h⟩
theorem kO {d:au}(h:ck d):aA d.val≤4096:=by
 rcases h.2 with ⟨-,k⟩|⟨-,k⟩
 ·exact k.2.2
 ·rw[k];decide +kernel
theorem mV {d:au}(h:ck d):ac d.val≤8:=by
 rcases h.2 with ⟨-,k⟩|⟨-,k⟩
 ·exact k.2.1
 ·rw[k];decide +kernel
theorem sv {l:List au}(h: ∀d∈l,ck d): ∀d∈l,co d=true∧aA d.val≤9223372036854775807∧aR 4096 d.val=true:=fun d hd=>⟨(h d hd).1,by have:=kO (h d hd);omega,kZ (h d hd)⟩
theorem nv {v:VT}(h:bv v)(k:v.kind=7):gQ 4096 8 v:=⟨bB.2 ⟨h.1,k⟩,fD _ _ (Nat.le_refl _) h,h.2.1⟩
theorem xO {v R x:VT}{l:List au}(hl: ∀d∈l,ck d)(hd:gQ 4096 8 v)(e:doL l v=(0,R))(hf: ∀d∈l,d.path.head? ≠some idN)(hx:ar v idN=some x):ar R idN=some x:=by
 have h1:aV v [idN]=some x:=by rw[aI,hx];exact cP x
 have h2:=(nD ⟨1,[idN],x,0⟩ l v R 4096 8 (sv hl) hd e (fun d hd=> ?_) ⟨fun _=>h1,fun h=>absurd h (by decide:(1:Int)≠2),fun h=>absurd h (by decide:(1:Int)≠3)⟩).1 rfl
 ·have h2:aV R [idN]=some x:=h2;rw[aI]at h2
  cases hi:ar R idN with
  |none=>rw[hi]at h2;cases h2
  |some y=>rw[hi]at h2;exact congrArg some (by injection h2)
 ·have hn:=gA (dI (hl d hd).1);have hh:=hf d hd
  cases hp:d.path with
  |nil=>exact absurd hp hn
  |cons a r=>
   rw[hp]at hh;have hne:a≠idN:=fun e=>hh (by rw[e];rfl);show gd (a::r) [idN];exact⟨fun k=>hne (List.cons_prefix_cons.1 k).1,fun k=>hne (List.cons_prefix_cons.1 k).1.symm⟩
/-! ### what is done to a document, once it is changed -/
theorem sS {v:VT}{l:List au}(hv:bv v)(kv:v.kind=7)(h64:l.length≤64)(hl: ∀d∈l,ck d)(hf:lJ l=true)(hi: ∀d∈l,d.path.head? ≠some idN)(h0:(aQ l v).1=0):
  cS (aQ l v).2=true∧aQ l (aQ l v).2=(0,(aQ l v).2)∧(∀x,ar v idN=some x→ar (aQ l v).2 idN=some x)∧ac (aQ l v).2≤1032∧aR 4160 (aQ l v).2=true:=by
 have hdk:=nv hv kv;have hc:=jd h64 hl;have hsm:l.length≤64→gC l∧jM l∧rF 4096 l:=fun _=>⟨fun d hd=>by have:=mV (hl d hd);omega,fun d hd=>by have:=kO (hl d hd);omega,fun d hd=>kZ (hl d hd)⟩;rcases qD hsm hdk.lens hdk.deep with ⟨R,e,-,-,e2,hR⟩|⟨h,-⟩
 ·rw[e];exact⟨hR.doc,rN hsm hdk.lens hdk.deep hf hc hdk.doc e2 hR.doc,fun x hx=>xO hl hdk e2 hi hx,hR.deep,hR.lens⟩
 ·exact absurd h0 h
/-! ### behind a replacement -/
def og (d:au)(r:List ByteArray):Option VT→Int×Option VT
 |some x=>if r= []then(0,if d.kind=1 then some d.val else none)else((goT (dV d) x r).1,some (goT (dV d) x r).2)
 |none=>(0,if d.kind=1 then some (al r d.val)else none)
theorem kY {d:au}(h:ck d):zH d:=by
 have hp:=dI h.1;refine⟨fun k=> ?_,?_,?_⟩
 ·rcases h.2 with ⟨-,k2⟩|⟨k2,-⟩
  ·exact k2.1
  ·omega
 ·have hm:=h.1;unfold co at hm;rw[Bool.and_eq_true]at hm;rcases h.2 with ⟨k,-⟩|⟨k,-⟩
  ·have h2:=hm.2;rw[if_pos k]at h2;simp only[Bool.and_eq_true,decide_eq_true_eq]at h2;omega
  ·have h2:=hm.2;rw[if_neg (by omega),if_pos k]at h2;simp only[Bool.and_eq_true,decide_eq_true_eq]at h2;omega
 ·unfold ce at hp;simp only[Bool.and_eq_true]at hp;exact fun z hz=>List.all_eq_true.1 hp.2 z hz
theorem Av {d:au}{t:VT}{s:ByteArray}{r:List ByteArray}(hd:ck d)(hp:d.path=s::r)(hm:ao t=true)(hk:t.kind=7):
  ((og d r (ar t s)).1=0→ ∃t',goD d t=(0,t')∧Upd t s (og d r (ar t s)).2 t')∧((og d r (ar t s)).1≠0→(goD d t).1≠0):=by
 have hg:=kY hd;have hn:bH s.data.toList=true:=hg.names s (by rw[hp];exact List.mem_cons_self);have hr:dR r:=fun z hz=>hg.names z (by rw[hp];exact List.mem_cons_of_mem _ hz);have e0:goD d t=goT (dV d) t (s::r):=by unfold goD;rw[hp]
 rw[e0]
 cases hi:ar t s with
 |some x=>
  unfold og;by_cases h:r= []
  ·subst h;simp only[if_true];refine⟨fun _=> ?_,fun h=>absurd rfl h⟩;rcases hd.2 with ⟨k,kv⟩|⟨k,kv⟩
   ·have ef:dV d=bz d.val:=by unfold dV;rw[if_pos k]
    rw[ef,if_pos k];exact zF hm hk kv.1 hn
   ·have ef:dV d=bh:=by unfold dV;rw[if_neg (by omega),if_pos k]
    rw[ef,if_neg (by omega)];exact wk hm hk
  ·simp only[if_neg h];have hx:=ye hm hi
   have hx':ao (goT (dV d) x r).2=true:=by
    have:=uL (d:=⟨d.kind,r,d.val,d.num⟩) (t:=x) ⟨hg.val,hg.num,hr⟩ hx;exact this
   obtain⟨t',e,u⟩:=xB (fin:=dV d) (c:=(goT (dV d) x r).1) hm hi h rfl hx'
   refine⟨fun h0=>⟨t',by rw[e,h0],u⟩,fun h0=>by rw[e];exact h0⟩
 |none=>
  have hneg:ab t s<0:=by
   refine Classical.byContradiction fun hc=> ?_;have hlt:=aP (bT hm) (Int.not_lt.1 hc);unfold ar at hi;rw[if_neg hc,List.getElem?_eq_getElem hlt]at hi;cases hi
  unfold og;refine⟨fun _=> ?_,fun h=>absurd rfl h⟩;rw[bX (.inl hneg)];rcases hd.2 with ⟨k,kv⟩|⟨k,kv⟩
  ·have ef:dV d=bz d.val:=by unfold dV;rw[if_pos k]
   rw[ef,cg,if_neg (by omega),if_pos hk];simp only[if_pos k];exact⟨_,rfl,iE t s _,pP hk hm (mx kv.1 hr) hn hneg,eQ _ hk (cu hm hk) hneg,fun z hz=>fx _ hk (cu hm hk) hz⟩
  ·have ef:dV d=bh:=by unfold dV;rw[if_neg (by omega),if_pos k]
   rw[ef,bf,if_pos hneg];simp only[if_neg (show ¬d.kind=1 by omega)];exact⟨t,rfl,by have:=Upd.refl s hm;rw[hi]at this;exact this⟩
theorem zv {d:au}{t:VT}(hd:ck d)(ht:cS t=true):((doD d t).1=0↔(goD d t).1=0):=by
 constructor
 ·intro h;have hw:=jW ht (dI hd.1);rcases hd.2 with ⟨k,kv⟩|⟨k,-⟩
  ·rw[ur k kv.1]at h;unfold bl at h;rw[if_pos hw]at h;unfold goD;rw[show dV d=bz d.val by unfold dV;rw[if_pos k]];by_cases h0:(goT (bz d.val) t d.path).1=0
   ·exact h0
   ·rw[if_neg h0]at h;exact h
  ·rw[rT k]at h;unfold bl at h;rw[if_pos hw]at h;unfold goD;rw[show dV d=bh by unfold dV;rw[if_neg (by omega),if_pos k]];by_cases h0:(goT bh t d.path).1=0
   ·exact h0
   ·rw[if_neg h0]at h;exact h
 ·intro h;have e:goD d t=(0,(goD d t).2):=Prod.ext h rfl;rw[(yp hd.1 (kY hd) ht e).1]
theorem pJ {d:au}{t:VT}{s:ByteArray}{r:List ByteArray}(hd:ck d)(hp:d.path=s::r)(ht:cS t=true):
  ((og d r (ar t s)).1=0→ ∃t',doD d t=(0,t')∧cS t'=true∧ar t' s=(og d r (ar t s)).2∧ ∀z,z≠s→ar t' z=ar t z)∧((og d r (ar t s)).1≠0→(doD d t).1≠0):=by
 obtain⟨hm,hk⟩:=bB.1 ht;obtain⟨h1,h2⟩:=Av hd hp hm hk;refine⟨fun h=> ?_,fun h h0=>h2 h ((zv hd ht).1 h0)⟩;obtain⟨t',e,u⟩:=h1 h;have:=yp hd.1 (kY hd) ht e;exact⟨t',this.1,this.2,u.here,u.far⟩
theorem oY {d:au}(hd:ck d): ∃s r,d.path=s::r:=by
 have:=gA (dI hd.1)
 cases h:d.path with
 |nil=>exact absurd h this
 |cons s r=>exact⟨s,r,rfl⟩
theorem eU {d:au}{l:List au}{t:VT}:(doL (d::l) t).1=0↔(doD d t).1=0∧(doL l (doD d t).2).1=0:=by
 show(if(doD d t).1=0 then doL l (doD d t).2 else((doD d t).1,aT)).1=0↔_;by_cases h:(doD d t).1=0
 ·rw[if_pos h];exact⟨fun k=>⟨h,k⟩,fun k=>k.2⟩
 ·rw[if_neg h];exact⟨fun k=>absurd k h,fun k=>absurd k.1 h⟩
theorem dJ {d:au}{l:List au}{t:VT}(h:(doD d t).1=0):doL (d::l) t=doL l (doD d t).2:=by
 show(if(doD d t).1=0 then doL l (doD d t).2 else((doD d t).1,aT))=_;rw[if_pos h]
theorem jZ : ∀(l:List au) (t:VT),(∀d∈l,ck d)→cS t=true→(doL l t).1=0→cS (doL l t).2=true∧ ∀z,(∀d∈l,d.path.head? ≠some z)→ar (doL l t).2 z=ar t z
 | [],t,_,ht,_=>⟨ht,fun _ _=>rfl⟩
 |d::l,t,hl,ht,h=>by
  obtain⟨h1,h2⟩:=eU.1 h;have hd:=hl d List.mem_cons_self;obtain⟨s,r,hp⟩:=oY hd;obtain⟨a1,a2⟩:=pJ hd hp ht;have hz:(og d r (ar t s)).1=0:=Classical.byContradiction fun hc=>a2 hc h1;obtain⟨t',e,dt,-,far⟩:=a1 hz;rw[dJ h1];rw[e]at h2 ⊢;obtain⟨b1,b2⟩:=jZ l t' (fun x hx=>hl x (List.mem_cons_of_mem _ hx)) dt h2;refine⟨b1,fun z hz=> ?_⟩;rw[b2 z fun x hx=>hz x (List.mem_cons_of_mem _ hx)];exact far z fun e=>hz d List.mem_cons_self (by rw[hp,e];rfl)
theorem nT {H:ByteArray→Prop}: ∀(l:List au) (t u:VT),(∀d∈l,ck d)→(∀d∈l,∀s,d.path.head? =some s→H s)→cS t=true→cS u=true→(∀s,H s→ar t s=ar u s)→
  ((doL l t).1=0→(doL l u).1=0)∧((doL l t).1=0→ ∀s,H s→ar (doL l t).2 s=ar (doL l u).2 s)
 | [],t,u,_,_,_,_,h=>⟨fun _=>rfl,fun _=>h⟩
 |d::l,t,u,hl,hH,ht,hu,h=>by
  have hd:=hl d List.mem_cons_self;obtain⟨s,r,hp⟩:=oY hd;have hs:H s:=hH d List.mem_cons_self s (by rw[hp];rfl);obtain⟨a1,a2⟩:=pJ hd hp ht;obtain⟨b1,b2⟩:=pJ hd hp hu;rw[←h s hs]at b1 b2
  have key:(doL (d::l) t).1=0→(doL (d::l) u).1=0∧ ∀s,H s→ar (doL (d::l) t).2 s=ar (doL (d::l) u).2 s:=fun h0=>by
   obtain⟨h1,h2⟩:=eU.1 h0;have hz:(og d r (ar t s)).1=0:=Classical.byContradiction fun hc=>a2 hc h1;obtain⟨t',e,dt,it,ft⟩:=a1 hz;obtain⟨u',e',du,iu,fu⟩:=b1 hz
   have hlike: ∀z,H z→ar t' z=ar u' z:=fun z hz=>by
    by_cases k:z=s
    ·subst k;rw[it,iu]
    ·rw[ft z k,fu z k];exact h z hz
   have ih:=nT l t' u' (fun x hx=>hl x (List.mem_cons_of_mem _ hx)) (fun x hx=>hH x (List.mem_cons_of_mem _ hx)) dt du hlike;have h3:(doD d u).1=0:=by rw[e']
   rw[e]at h2;rw[dJ h1,dJ h3,e,e'];exact⟨ih.1 h2,ih.2 h2⟩
  exact⟨fun h0=>(key h0).1,fun h0=>(key h0).2⟩
theorem uP {l r:List au}{t:VT}:(doL (l++r) t).1=0↔(doL l t).1=0∧(doL r (doL l t).2).1=0:=by
 induction l generalizing t with
 |nil=>exact⟨fun h=>⟨rfl,h⟩,fun h=>h.2⟩
 |cons d l ih=>
  rw[List.cons_append,eU,eU,ih];by_cases h:(doD d t).1=0
  ·rw[dJ h];exact⟨fun k=>⟨⟨k.1,k.2.1⟩,k.2.2⟩,fun k=>⟨k.1.1,k.1.2,k.2⟩⟩
  ·exact⟨fun k=>absurd k.1 h,fun k=>absurd k.1.1 h⟩
theorem lz {l r:List au}{t:VT}(h:(doL l t).1=0):doL (l++r) t=doL r (doL l t).2:=by
 induction l generalizing t with
 |nil=>rfl
 |cons d l ih=>
  obtain⟨h1,h2⟩:=eU.1 h;rw[List.cons_append,dJ h1,dJ h1];exact ih h2
theorem zj {l r:List au}{t:VT}(hl: ∀d∈l,ck d)(hr: ∀d∈r,ck d)(hx: ∀a∈l,∀b∈r,a.path.head? ≠b.path.head?)(ht:cS t=true)(h:(doL (l++r) t).1=0):
  (doL (r++l) t).1=0∧ ∀z,ar (doL (l++r) t).2 z=ar (doL (r++l) t).2 z:=by
 obtain⟨h1,h2⟩:=uP.1 h;obtain⟨d1,f1⟩:=jZ l t hl ht h1;have hr0: ∀s,(∃d∈r,d.path.head? =some s)→ar (doL l t).2 s=ar t s:=fun s ⟨d,hd,e⟩=>f1 s fun a ha k=>hx a ha d hd (k.trans e.symm);obtain⟨g1,g2⟩:=nT (H:=fun s=> ∃d∈r,d.path.head? =some s) r (doL l t).2 t hr (fun d hd s e=>⟨d,hd,e⟩) d1 ht hr0;have h3:=g1 h2;obtain⟨d2,f2⟩:=jZ r t hr ht h3;have hl0: ∀s,(∃d∈l,d.path.head? =some s)→ar t s=ar (doL r t).2 s:=fun s ⟨d,hd,e⟩=>(f2 s fun a ha k=>hx d hd a ha (e.trans k.symm)).symm;obtain⟨g3,g4⟩:=nT (H:=fun s=> ∃d∈l,d.path.head? =some s) l t (doL r t).2 hl (fun d hd s e=>⟨d,hd,e⟩) ht d2 hl0;have h4:=g3 h1;refine⟨uP.2 ⟨h3,h4⟩,fun z=> ?_⟩;rw[lz h1,lz h3];obtain⟨-,f3⟩:=jZ r (doL l t).2 hr d1 h2;obtain⟨-,f4⟩:=jZ l (doL r t).2 hl d2 h4;by_cases zl: ∃d∈l,d.path.head? =some z
 ·have zr: ∀b∈r,b.path.head? ≠some z:=fun b hb k=>by obtain⟨a,ha,e⟩:=zl;exact hx a ha b hb (e.trans k.symm)
  rw[f3 z zr];exact g4 h1 z zl
 ·have zl': ∀a∈l,a.path.head? ≠some z:=fun a ha k=>zl ⟨a,ha,k⟩;rw[f4 z zl'];by_cases zr: ∃d∈r,d.path.head? =some z
  ·exact g2 h2 z zr
  ·have zr': ∀b∈r,b.path.head? ≠some z:=fun b hb k=>zr ⟨b,hb,k⟩;rw[f3 z zr',f1 z zl',f2 z zr']
theorem xQ {t u:VT}(ht:cS t=true)(hu:cS u=true)(h: ∀z,ar t z=ar u z):Sim t u:=by
 obtain⟨mt,kt⟩:=bB.1 ht;obtain⟨mu,ku⟩:=bB.1 hu;exact .doc mt mu kt ku (fun s=>by rw[h s]) fun s x y hx hy=>by rw[h s,hy]at hx;injection hx with e;subst e;exact .refl _
theorem Ba {t u:VT}(h: ∀z,ar t z=ar u z){p:List ByteArray}(hp:p≠[]):aV t p=aV u p:=by
 cases p with
 |nil=>exact absurd rfl hp
 |cons s r=>rw[aI,aI,h s]
theorem tE {l:List au}(hl: ∀d∈l,ck d):l.length≤64→gC l∧jM l∧rF 4096 l:=fun _=>⟨fun d hd=>by have:=mV (hl d hd);omega,fun d hd=>by have:=kO (hl d hd);omega,fun d hd=>kZ (hl d hd)⟩
theorem mO {v:VT}{l:List au}(hv:bv v)(kv:v.kind=7)(h64:l.length≤64)(hl: ∀d∈l,ck d):
  (∃R,aQ l v=(0,R)∧doL l v=(0,R)∧cS R=true∧ac R≤1032∧aR 4160 R=true)∨(aQ l v=(40,aT)∧doL l v=(40,aT)):=by
 have hdk:=nv hv kv
 have e:aQ l v=doL l v:=by
  unfold aQ;rw[jd h64 hl,if_neg (fun h=>h rfl),if_pos hdk.doc]
 rcases ml l v 4096 8 (sv hl) hdk with ⟨R,h1,h2⟩|h1
 ·exact .inl ⟨R,e.trans h1,h1,h2.doc,by have:=h2.deep;omega,bR (by omega) _ h2.lens⟩
 ·exact .inr ⟨e.trans h1,h1⟩
structure uR (v:VT)(s:bg)(R:VT)(l:List au):Prop where
 ch:ay v s=(0,l)
 doc:dh v=true
 chk:bU s=0
 ap:aQ l v=(0,R)
 whole:az R=0
theorem sN {v:VT}{s:bg}(h:(aW v s).1=0): ∃R l,aW v s=(0,R,l)∧uR v s R l:=by
 unfold aW at h ⊢;by_cases h1:(ay v s).1≠0
 ·rw[if_pos h1]at h;exact absurd h h1
 ·rw[if_neg h1]at h ⊢;by_cases h2:(aQ (ay v s).2 v).1≠0
  ·rw[if_pos h2]at h;exact absurd h h2
  ·rw[if_neg h2]at h ⊢;by_cases h3:az (aQ (ay v s).2 v).2≠0
   ·rw[if_pos h3]at h;exact absurd h h3
   ·rw[if_neg h3];have e1:ay v s=(0,(ay v s).2):=Prod.ext (by simpa using h1) rfl;refine⟨_,_,rfl,e1,?_,?_,Prod.ext (by simpa using h2) rfl,by simpa using h3⟩
    ·cases hw:dh v with
     |true=>rfl
     |false=>unfold ay at e1;rw[if_pos hw]at e1;injection e1 with e1 _;cases e1
    ·refine Classical.byContradiction fun hc=> ?_;unfold ay at e1
     split at e1
     ·injection e1 with e1 _;cases e1
     ·injection e1 with e1 _;exact hc e1
theorem Aw {v:VT}{s:bg}{R:VT}{l:List au}(h:uR v s R l):aW v s=(0,R,l):=by
 unfold aW;rw[h.ch];simp only[ne_eq,not_true_eq_false,if_false];rw[h.ap];simp only[ne_eq,not_true_eq_false,if_false,h.whole]
def zJ (id:VT):VT:= .mk 7 0 ⟨#[]⟩ [id] [idN]
theorem dj.len : ∀ {ps:List (List ByteArray)} {l:List au},dj ps l→l.length≤ps.length
 |_,[],_=>Nat.zero_le _
 | [],_::_,h=>h.elim
 |_::_,_::_,.inl h=>by have:=dj.len h.2;simp;omega
 |_::_,_::_,.inr h=>by have:=dj.len h;simp at this ⊢;omega
theorem sx {p q:List ByteArray}(hn:p≠[])(h:p <+: q):q.head? =p.head? :=by
 cases p with
 |nil=>exact absurd rfl hn
 |cons a p=>obtain⟨r,rfl⟩:=h;rfl
theorem xn {v:VT}{a b:OpT}{R:VT}{l:List au}(ha:bc a=true)(hb:bc b=true)(za:aA a.val≤9223372036854775807)(zb:aA b.val≤9223372036854775807)(hz:aA v≤9223372036854775807)
  (hx: ∀p∈bk a,∀q∈bk b,p.head? ≠q.head?) (h:uR v ⟨false,aT,[a,b]⟩ R l): ∃R' l',uR v ⟨false,aT,[b,a]⟩ R' l'∧ ∀p,p≠[]→aV R p=aV R' p:=by
 obtain⟨wv,kv,-⟩:=iU h.doc hz;obtain⟨c1,c2,c3⟩:=gZ h.chk
 have hchk:bU ⟨false,aT,[b,a]⟩=0:=by
  have k1:bO ⟨false,aT,[b,a]⟩=true:=by
   unfold bO;simp[mA,ha,hb]
  have k2:cW ⟨false,aT,[b,a]⟩=false:=by
   obtain⟨t1,t2⟩:=rv c2;unfold cW;rw[Bool.or_eq_false_iff,List.any_eq_false,List.any_eq_false];refine⟨fun x hx=>absurd hx List.not_mem_nil,fun p hp e=>t2 p ?_ (of_decide_eq_true e)⟩;simp only[aD,List.flatMap_cons,List.flatMap_nil,List.append_nil,List.mem_append]at hp ⊢;exact hp.symm
  have k3:cm [] (aD [b,a])=false:=by
   have hp:(aD [a,b]).Perm (aD [b,a]):=by
    simp only[aD,List.flatMap_cons,List.flatMap_nil,List.append_nil];exact List.perm_append_comm
   rw[←vw hp];exact c3
  unfold bU;rw[k1,if_pos rfl,k2,if_neg (by simp),k3,if_neg (by simp)]
 obtain⟨h64,hfa,-,-⟩:=jV h.doc hz ⟨h.chk,fun o ho=>by rcases List.mem_cons.1 ho with rfl|ho;exact za;rw[List.mem_singleton.1 ho];exact zb,by show aA aT≤_;decide +kernel⟩ h.ch;have hch:=h.ch;unfold ay at hch;rw[h.doc,if_neg (by simp),h.chk,if_neg (by simp)]at hch;have eall: ∀o q:OpT,gb v ⟨false,aT,[o,q]⟩=aY v [o,q]:=fun _ _=>rfl;rw[eall]at hch
 have hg:(aY v [a,b]).1=0:=by
  refine Classical.byContradiction fun hc=> ?_;rw[if_pos hc]at hch;injection hch with hch _;exact hc hch
 rw[bs,bs,fP]at hg
 have oa:(et v a).1=0:=by
  refine Classical.byContradiction fun hc=> ?_;rw[if_pos hc]at hg;exact hc hg
 have ob:(et v b).1=0:=by
  refine Classical.byContradiction fun hc=> ?_;rw[if_neg (fun k=>k oa),if_pos hc]at hg;simp only[ne_eq]at hg;rw[if_pos hc]at hg;exact hc hg
 obtain⟨A,hA⟩: ∃A,A=(et v a).2:=⟨_,rfl⟩;obtain⟨B,hB⟩: ∃B,B=(et v b).2:=⟨_,rfl⟩;have eA:et v a=(0,A):=Prod.ext oa hA.symm;have eB:et v b=(0,B):=Prod.ext ob hB.symm
 have gab:aY v [a,b]=(0,A++B):=by
  rw[bs,bs,fP,eA,eB];simp
 have gba:aY v [b,a]=(0,B++A):=by
  rw[bs,bs,fP,eA,eB];simp
 obtain⟨xa,fa⟩:=ql wv ha za eA;obtain⟨xb,fb⟩:=ql wv hb zb eB;have la:=xa.len;have lb:=xb.len;have pa:=(jA a).1;have pb:=(jA b).1;rw[gab]at hch;simp only[ne_eq,not_true_eq_false,if_false]at hch;rw[if_neg (by rw[List.length_append];omega)]at hch;injection hch with _ hl
 subst hl;have hfab: ∀d∈A++B,ck d:=fun d hd=>(List.mem_append.1 hd).elim (fa d) (fb d);have hfba: ∀d∈B++A,ck d:=fun d hd=>(List.mem_append.1 hd).elim (fb d) (fa d);have l64:(B++A).length≤64:=by rw[List.length_append];omega
 have hdoc:cS v=true:=bB.2 ⟨wv.1,kv⟩
 have hheads: ∀d∈A,∀e∈B,d.path.head? ≠e.path.head? :=fun d hd e he=>by
  obtain⟨p,hp,k⟩:=xa.mem d hd;obtain⟨q,hq,k'⟩:=xb.mem e he;rw[sx (gA (iz ha p hp)) k,sx (gA (iz hb q hq)) k'];exact hx p hp q hq
 rcases mO wv kv (by rw[List.length_append];omega) hfab with ⟨R1,q1,q2,q3,-,-⟩|⟨q1,-⟩
 rotate_left
 ·rw[h.ap]at q1;injection q1 with q1 _;cases q1
 rw[h.ap]at q1;injection q1 with _ q1
 subst q1;obtain⟨s1,s2⟩:=zj fa fb hheads hdoc (by rw[q2]);rw[q2]at s2;rcases mO wv kv l64 hfba with ⟨R2,p1,p2,p3,-,-⟩|⟨-,p2⟩
 rotate_left
 ·rw[p2]at s1;cases s1
 rw[p2]at s2;have hsim:=xQ q3 p3 s2;have hsim2:=xQ p3 q3 fun z=>(s2 z).symm;refine⟨R2,B++A,⟨?_,h.doc,hchk,p1,xh hsim2 (bB.1 p3).1 h.whole⟩,fun p hp=>Ba s2 hp⟩;unfold ay;rw[h.doc,if_neg (by simp),hchk,if_neg (by simp),eall,gba];simp only[ne_eq,not_true_eq_false,if_false];rw[if_neg (by omega)]
def idP :List ByteArray:=[⟨#[95,105,100]⟩]
theorem Ay (S:Nat→Prop)(t:VT)(v:Value)(w:World)(hS: ∀b,S b→b<w.heap.size)(h:LV w S t v)(hd:ac t≤4611686018427387903):
  Calls Tryz.prog 30 #[v] w (yq t idP w):=by
 obtain⟨A0,c0,A0',c0',rfl,-,-,-,v1,hb0⟩:=bY hS h;have HX:=hid v1.x;have HB:=hid hb0;have HV:=hid h;have HD:=hid hd;clear h v1 hb0 hd;go_enter Tryz.func30,Tryz.ntmps30;go_wp2_with fail;have hz1:(w.alloc (.cells #[.int .i64 t.kind,.int .i64 t.num,.string t.text,.slice A0 t.items.length c0,.slice A0' t.names.length c0'] 25)).heap.size=w.heap.size+1:=by simp
 have hB0:Below w.heap.size w ((w.alloc (.cells #[.int .i64 t.kind,.int .i64 t.num,.string t.text,.slice A0 t.items.length c0,.slice A0' t.names.length c0'] 25)).alloc (.cells #[.int .i64 0,.int .i64 0,.string ⟨#[]⟩,.slice none 0 0,.slice none 0 0] 25)):=HB.out.alloc (by omega) _;have hX0:=HX.out.alloc (.cells #[.int .i64 0,.int .i64 0,.string ⟨#[]⟩,.slice none 0 0,.slice none 0 0] 25)
 have hR0:Box ((w.alloc (.cells #[.int .i64 t.kind,.int .i64 t.num,.string t.text,.slice A0 t.items.length c0,.slice A0' t.names.length c0'] 25)).alloc (.cells #[.int .i64 0,.int .i64 0,.string ⟨#[]⟩,.slice none 0 0,.slice none 0 0] 25)) (w.heap.size+1) (.int .i64 0) (.int .i64 0) (.string ⟨#[]⟩) (.slice none 0 0) (.slice none 0 0):=by
  have h:=Box.new (w:=w.alloc (.cells #[.int .i64 t.kind,.int .i64 t.num,.string t.text,.slice A0 t.items.length c0,.slice A0' t.names.length c0'] 25)) (.int .i64 0) (.int .i64 0) (.string ⟨#[]⟩) (.slice none 0 0) (.slice none 0 0);rw[hz1]at h;exact h
 have hz2:((w.alloc (.cells #[.int .i64 t.kind,.int .i64 t.num,.string t.text,.slice A0 t.items.length c0,.slice A0' t.names.length c0'] 25)).alloc (.cells #[.int .i64 0,.int .i64 0,.string ⟨#[]⟩,.slice none 0 0,.slice none 0 0] 25)).heap.size=w.heap.size+2:=by simp
 generalize (w.alloc (.cells #[.int .i64 t.kind,.int .i64 t.num,.string t.text,.slice A0 t.items.length c0,.slice A0' t.names.length c0'] 25)).alloc (.cells #[.int .i64 0,.int .i64 0,.string ⟨#[]⟩,.slice none 0 0,.slice none 0 0] 25)=w2 at *;have q0:=hX0.c0;have q1:=hX0.c1;have q2:=hX0.c2;have q3:=hX0.c3;have q4:=hX0.c4;have HB0:=hid hB0;have HR0:=hid hR0;clear hB0 hX0 hR0 hz1 HB HX;go_wp2_with fail;have hb4:Below w2.heap.size w2 (w2.alloc (.cells #[.string ⟨#[95,105,100]⟩] 9)):=ae _;have hz4:(w2.alloc (.cells #[.string ⟨#[95,105,100]⟩] 9)).heap.size=w.heap.size+3:=by simp[hz2]
 have hs4:(w2.alloc (.cells #[.string ⟨#[95,105,100]⟩] 9)).cell? ⟨w.heap.size+1+1,0,none⟩=some (.string ⟨#[95,105,100]⟩):=by
  have:=Go.Joins.cell_of_block (heap_alloc_new w2 (.cells #[.string ⟨#[95,105,100]⟩] 9)) 0;rw[hz2]at this;exact this
 generalize w2.alloc (.cells #[.string ⟨#[95,105,100]⟩] 9)=w4 at *;have HB4:=hid (HB0.out.trans (hb4.mono (show w.heap.size≤w2.heap.size by omega)));have HR4:=hid (HR0.out.call hb4)
 have hst:ai w4 (fun b=>b<w4.heap.size) (some ⟨w.heap.size+1+1,0,none⟩) idP:=fun _=>⟨_,0,rfl,by show _<_;omega,fun i hi=>by
  obtain rfl:i=0:=by simp[idP]at hi;omega
  exact⟨hs4,by simp[idP];decide⟩⟩
 have HC:=hid (nh (fun b=>b<w4.heap.size) t _ _ 1 idP w4 (fun b hb=>hb) ((HV.out.keep fun b hb=>HB4.out.block b (hS b hb)).imp fun b hb=>by have:=hS b hb;omega) HD.out hst (by decide) (by decide) (by decide));clear hb4 hs4 hst HB0 HR0 q0 q1 q2 q3 q4 HV HD hz2;refine HC.out.mono ?_;rintro e w5 ⟨v',rfl,hv,hb5⟩;obtain⟨B,k,B',k',rfl,-⟩:=hv.shape;have HB5:=hid (HB4.out.trans (hb5.mono (show w.heap.size≤w4.heap.size by omega)));have HR5:=hid (HR4.out.call hb5);have HV5:=hid (hv.imp (S':=fun b=>w.heap.size+1<b∧b<w5.heap.size) fun b hb=>⟨by have:=hb.1;omega,hb.2⟩);have rf:=fun i=>HR5.out.free i;have r0:=HR5.out.c0;have r1:=HR5.out.c1;have r2:=HR5.out.c2;have r3:=HR5.out.c3;have r4:=HR5.out.c4;generalize hU:(bC t idP).getD (.mk 0 0 ⟨#[]⟩ [] [])=u at *;generalize hOK:(bC t idP).isSome=ok at *;have HEND:=hid (mK (p:=idP) (t:=t) HB5.out HV5.out hU hOK.symm);have HBOX:=hid (aZ (c0:= .int .i64 u.kind) (c1:= .int .i64 u.num) (c2:= .string u.text) (c3:= .slice B u.items.length k) (c4:= .slice B' u.names.length k') HR5.out);clear hv hb5 HC HR4 HB4 hU hOK HV5 HB5 hz4;go_wp2_with fail;refine bodyPost_ret (aq rfl _ _ (w.heap.size+1) 25 _ (0,0) rfl HBOX.out (by kernel_rfl)) rfl ?_;exact HEND.out
theorem xi {t:VT}(h:az t=0):ao t=true:=by
 unfold az at h
 cases hm:ao t with
 |true=>rfl
 |false=>rw[hm]at h;simp at h
theorem By (v:VT):okT v idP=(ar v idN).isSome:=by
 unfold okT;show(aV v [idN]).isSome=_;rw[aI];cases ar v idN<;>rfl
theorem yA {K:Nat}{t:VT}(h:aR K t=true):t.items.length≤K∧t.names.length≤K:=by
 cases t with
 |mk k i s l ns=>
  unfold aR at h;simp only[Bool.and_eq_true,decide_eq_true_eq]at h;exact⟨h.1,h.2.1⟩
theorem kC {t:VT}(h:bv t):t.items.length≤4096∧t.names.length≤4096:=yA (fD _ _ (Nat.le_refl _) h)
theorem zY {t d:VT}(ht:bv t)(kt:t.kind=7)(hd:bv d)(kd:d.kind=7):tA t d:=by
 obtain⟨-,-,l1⟩:=dX ht kt;obtain⟨-,-,l2⟩:=dX hd kd;have m1:=kC ht;have m2:=kC hd;exact⟨kt,l1,l2,by omega,by omega,fun y hy=>by have:=(fq ht hy).2.1;omega,fun y hy=>by have:=(fq hd hy).2.1;omega⟩
theorem wM {o:OpT}(h:bc o=true):ce o.path=true:=by
 unfold bc at h;rw[Bool.and_eq_true]at h;exact h.1
theorem Am {o:OpT}(h:bc o=true)(k:o.kind=6):ce o.to=true:=by
 unfold bc at h;rw[Bool.and_eq_true,k]at h;have h2:=h.2;simp at h2;exact h2.2
theorem tI {o:OpT}(h:bc o=true)(hz:aA o.val≤9223372036854775807):ac o.val≤8:=by
 unfold bc at h;rw[Bool.and_eq_true]at h;have h2:=h.2;have hn:dO o.val=true→ac o.val≤8:=fun e=>by rw[(gj _).1 e];decide
 have hc:az o.val=0→ac o.val≤8:=fun e=>(dz e hz).2.1
 split at h2
 ·simp only[Bool.and_eq_true,decide_eq_true_eq]at h2;exact hc h2.1.2
 split at h2
 ·simp only[Bool.and_eq_true,decide_eq_true_eq]at h2;exact hc h2.1
 split at h2
 ·simp only[Bool.and_eq_true]at h2;exact hn h2.1
 split at h2
 ·simp only[Bool.and_eq_true]at h2;exact hn h2.1
 ·cases h2
theorem rB {t X:VT}{p:List ByteArray}(h:bv t)(hX:X=(bC t p).getD (.mk 0 0 ⟨#[]⟩ [] [])):ac X≤8∧X.items.length≤4096:=by
 subst hX
 cases e:bC t p with
 |none=>exact⟨by decide,by decide⟩
 |some x=>exact⟨(kS h e).2.1,(kC (kS h e)).1⟩
theorem Bi {t:VT}{o:OpT}(ht:bv t)(ho:bc o=true)(hz:aA o.val≤9223372036854775807):AU o ((bC t o.path).getD (.mk 0 0 ⟨#[]⟩ [] []))∧0<o.path.length:=by
 have hp:=wM ho;obtain⟨f1,f2⟩:=rB (p:=o.path) ht rfl;have hl:=((rC _).1 hp).2.1;exact⟨⟨fun k=>nr (Am ho k),by omega,by have:=tI ho hz;omega,by omega,by omega,ww hp⟩,nr hp⟩
theorem zT {t:VT}(h:az t=0)(k:t.kind=7):cS t=true:=bB.2 ⟨xi h,k⟩
theorem xE {t:VT}(h:az t=0):(bC t idP).isSome=dh t:=by
 unfold bC dN dh;have hid:ce idP=true:=by kernel_rfl
 by_cases k:t.kind=7
 ·rw[zT h k,hid];simp only[k,h,decide_true,Bool.true_and,Bool.true_eq_false,if_false];have:=By t;unfold okT at this;simpa using this
 ·have hd:cS t=false:=by
   cases e:cS t with
   |true=>exact absurd (bB.1 e).2 k
   |false=>rfl
  rw[hd];simp[k]
theorem oE {t:VT}(h:dh t=true):(bC t idP).isSome=true∧az t=0:=by
 have hc:az t=0:=by
  unfold dh at h;simp only[Bool.and_eq_true,decide_eq_true_eq]at h;exact h.1.2
 exact⟨by rw[xE hc];exact h,hc⟩
theorem lI {t:VT}{s:bg}(h:dh t=false):ay t s=(20,[]):=by unfold ay;rw[if_pos h]
theorem nE {t:VT}{s:bg}(h:dh t=true)(hx:bU s≠0):ay t s=(bU s,[]):=by
 unfold ay;rw[if_neg (by rw[h];simp),if_pos hx]
theorem rV {t:VT}{s:bg}(h:dh t=true)(hx:bU s=0):ay t s=if(gb t s).1≠0 then((gb t s).1,[])else if 64<(gb t s).2.length then(3,[])else gb t s:=by
 unfold ay;rw[if_neg (by rw[h];simp),if_neg (by simp[hx])]
end Go.Proofs.YtgbopnlpaabelaaGreatDoor
