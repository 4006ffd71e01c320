/- What an update makes of a document that is not there yet, by the program. -/
import Derived.Test.YtgbopnlpaabelaaGreatDoorKUpCb
import Derived.Test.YtgbopnlpaabelaaGreatDoorKUpWb
import Derived.Test.YtgbopnlpaabelaaGreatDoorKUpZ
set_option maxHeartbeats 64000000
set_option maxRecDepth 100000
set_option linter.unusedVariables false
set_option linter.unusedSimpArgs false
namespace Go.Proofs.YtgbopnlpaabelaaGreatDoor
open Lib (hid)
open Go.RowKit
structure Kp (wd w:World)(g:Nat)(cs:Array Value)(t:TypeId):Prop where
 cel:w.heap[g]? =some (.cells cs t (0,0))
 lo:wd.heap.size≤g
 lt:g<w.heap.size
theorem Kp.next {wd w w':World}{g:Nat}{cs:Array Value}{t:TypeId}(h:Kp wd w g cs t)(hb:Below w.heap.size w w'):Kp wd w' g cs t:=⟨(hb.block g h.lt).trans h.cel,h.lo,Nat.lt_of_lt_of_le h.lt hb.size⟩
theorem cw.imp8 {w:World}{S S':Nat→Prop}{s:bg}{cs:Array Value}(h:cw w S s cs)(hS: ∀b,S b→S' b):cw w S' s cs:=by
 obtain⟨DA,dc,DA',dc',OA,oc,h1,h2,h3,h4⟩:=h;exact⟨DA,dc,DA',dc',OA,oc,h1,h2.imp hS,h3.imp hS,h4⟩
def UsR (r:Int×VT×List au)(w:World)(e:Ending)(w':World):Prop:=
 ∃v,e= .returned (.tuple #[v,.int .i64 r.1])∧LV w' (New w.heap.size w') r.2.1 v∧Below w.heap.size w w'
theorem rc (S:Nat→Prop)(t:VT)(v:Value)(s:bg)(cs:Array Value)(w:World)(hS: ∀b,S b→b<w.heap.size)(h:LV w S t v)(hs:cw w S s cs)(hcap:lM w s.ops cs)(hin:th (zJ t) s)(htab:Lib.TabIs Tryz.prog w "internal/strconv.uint64pow10" .u64 Lib.pow10Tab):
  Calls Tryz.prog 24 #[v,.agg cs] w (UsR (aW (zJ t) s) w):=by
 have hv:=h;obtain⟨A0,c0,A0',c0',rfl,-,-,-,-,-,-,-⟩:=h.shape;have hss:=hs;obtain⟨DA,dc,DA',dc',OA,oc,rfl,hdv,hop,hoc,hol⟩:=hs;have hco:=hcap OA s.ops.length oc rfl;obtain⟨w2,hw2⟩: ∃W,W=((w.alloc (.cells #[.int .i64 t.kind,.int .i64 t.num,.string t.text,.slice A0 t.items.length c0,.slice A0' t.names.length c0'] 25)).alloc (.cells #[.bool s.rep,.int .i64 s.doc.kind,.int .i64 s.doc.num,.string s.doc.text,.slice DA s.doc.items.length dc,.slice DA' s.doc.names.length dc',.slice OA s.ops.length oc] 28)).alloc (.cells #[.int .i64 0,.int .i64 0,.string ⟨#[]⟩,.slice none 0 0,.slice none 0 0] 25):=⟨_,rfl⟩;have hz1:(w.alloc (.cells #[.int .i64 t.kind,.int .i64 t.num,.string t.text,.slice A0 t.items.length c0,.slice A0' t.names.length c0'] 25)).heap.size=w.heap.size+1:=by simp
 have hz1':((w.alloc (.cells #[.int .i64 t.kind,.int .i64 t.num,.string t.text,.slice A0 t.items.length c0,.slice A0' t.names.length c0'] 25)).alloc (.cells #[.bool s.rep,.int .i64 s.doc.kind,.int .i64 s.doc.num,.string s.doc.text,.slice DA s.doc.items.length dc,.slice DA' s.doc.names.length dc',.slice OA s.ops.length oc] 28)).heap.size=w.heap.size+2:=by simp
 have hvb:w2.heap[w.heap.size]? =some (.cells #[.int .i64 t.kind,.int .i64 t.num,.string t.text,.slice A0 t.items.length c0,.slice A0' t.names.length c0'] 25 (0,0)):=by rw[hw2,Below.heap_alloc _ _ _ (by omega),Below.heap_alloc _ _ _ (by omega)];exact heap_alloc_new w _
 have hsb:w2.heap[w.heap.size+1]? =some (.cells #[.bool s.rep,.int .i64 s.doc.kind,.int .i64 s.doc.num,.string s.doc.text,.slice DA s.doc.items.length dc,.slice DA' s.doc.names.length dc',.slice OA s.ops.length oc] 28 (0,0)):=by rw[hw2,Below.heap_alloc _ _ _ (by omega),←hz1];exact heap_alloc_new _ _
 have hrb:w2.heap[w.heap.size+2]? =some (.cells #[.int .i64 0,.int .i64 0,.string ⟨#[]⟩,.slice none 0 0,.slice none 0 0] 25 (0,0)):=by rw[hw2,←hz1'];exact heap_alloc_new _ _
 have hb2:Below w.heap.size w w2:=by rw[hw2];exact(((Below.refl _ _).alloc (Nat.le_refl _) _).alloc (by omega) _).alloc (by omega) _
 have hz2:w2.heap.size=w.heap.size+3:=by rw[hw2];simp
 obtain⟨wd,hwd⟩: ∃W,W=w2.drew:=⟨_,rfl⟩;have hbd:Below w.heap.size w wd:=by rw[hwd];exact hb2.drew
 have hzd:wd.heap.size=w.heap.size+3:=by rw[hwd];exact hz2
 have hh: ∀b:Nat,wd.heap[b]? =w2.heap[b]? :=fun b=>by rw[hwd];rfl
 have HW:Hid (∀W,Below wd.heap.size wd W→(∀b,S b→b<W.heap.size)∧LV W S t (.agg #[.int .i64 t.kind,.int .i64 t.num,.string t.text,.slice A0 t.items.length c0,.slice A0' t.names.length c0'])∧cw W S s #[.bool s.rep,.int .i64 s.doc.kind,.int .i64 s.doc.num,.string s.doc.text,.slice DA s.doc.items.length dc,.slice DA' s.doc.names.length dc',.slice OA s.ops.length oc]∧lM W s.ops #[.bool s.rep,.int .i64 s.doc.kind,.int .i64 s.doc.num,.string s.doc.text,.slice DA s.doc.items.length dc,.slice DA' s.doc.names.length dc',.slice OA s.ops.length oc]∧Lib.TabIs Tryz.prog W "internal/strconv.uint64pow10" .u64 Lib.pow10Tab∧Below w.heap.size w W):=hid fun W hW=>by
  have hwW:Below w.heap.size w W:=hbd.trans (hW.mono hbd.size);have hk: ∀b,S b→W.heap[b]? =w.heap[b]? :=fun b hb=>hwW.block b (hS b hb);refine⟨fun b hb=>Nat.lt_of_lt_of_le (hS b hb) hwW.size,hv.keep hk,hss.keep hk,fun OA2 n2 oc2 e=> ?_,Lib.tabBelow_of_tabIs htab W hwW,hwW⟩;have e:some (Value.slice OA s.ops.length oc)=some (.slice OA2 n2 oc2):=e;injection e with e
  injection e with e1 e2 e3
  subst e1;exact hco.keep hop hk
 obtain⟨Y,hY⟩: ∃Y,Y=zJ t:=⟨_,rfl⟩;have HIN:=hid hin
 have HDC:Hid (∀W gN gI,Below wd.heap.size wd W→Kp wd W gN #[.string ⟨#[95,105,100]⟩] 9→Kp wd W gI #[.int .i64 t.kind,.int .i64 t.num,.string t.text,.slice A0 t.items.length c0,.slice A0' t.names.length c0'] 25→Calls Tryz.prog 47 #[.slice (some ⟨gN,0,none⟩) 1 1,.slice (some ⟨gI,0,none⟩) 1 1] W fun e w'=> ∃v',e= .returned v'∧LV w' (ba wd.heap.size w') Y v'∧Below W.heap.size W w'):=hid fun W gN gI hW hN hI=>by
  obtain⟨g1,g2,-⟩:=HW.out W hW;refine(xC (fun b=>S b∨b=gN∨b=gI) (some ⟨gN,0,none⟩) 1 [idN] (some ⟨gI,0,none⟩) 1 [t] W (fun b hb=> ?_) (pI hI.cel (.inr (.inr rfl)) (g2.imp fun b hb=> .inl hb)) (by simp) (gl hN.cel (.inr (.inl rfl)) (by decide)) (by simp)).mono fun e w' hh=> ?_
  ·rcases hb with h|rfl|rfl
   ·exact g1 b h
   ·exact hN.lt
   ·exact hI.lt
  ·obtain⟨v',h1,h2,h3⟩:=hh;have h2:LV w' (New W.heap.size w') (zJ t) v':=h2;rw[←hY]at h2;exact⟨v',h1,h2.imp fun b hb=>⟨Nat.le_trans hW.size hb.1,hb.2⟩,h3⟩
 have HAP:Hid (∀W v',Below wd.heap.size wd W→LV W (ba wd.heap.size W) Y v'→Calls Tryz.prog 18 #[v',.agg #[.bool s.rep,.int .i64 s.doc.kind,.int .i64 s.doc.num,.string s.doc.text,.slice DA s.doc.items.length dc,.slice DA' s.doc.names.length dc',.slice OA s.ops.length oc]] W (ApR (aW Y s) W)):=hid fun W v' hW hl=>by
  obtain⟨g1,g2,g3,g4,g5,g6⟩:=HW.out W hW;exact fp (fun b=>S b∨ba wd.heap.size W b) Y v' s _ W (fun b hb=>hb.elim (g1 b) (fun k=>k.2)) (hl.imp fun b hb=> .inr hb) (cw.imp8 g3 fun b hb=> .inl hb) g4 (by rw[hY];exact hin) g5
 have HVK:Hid (∀(W w9:World) (g:Nat) (M:VT) (x:Value),LV W (fun b=>ba wd.heap.size W b∧b≠g) M x→bZ W w9 g→w9.heap.size=W.heap.size→LV w9 (fun b=>ba wd.heap.size w9 b) M x):=hid fun W w9 g M x h1 h3 h4=>(LV.keep (cr (S:=fun b=>ba wd.heap.size W b∧b≠g) h3 fun b hb=>⟨hb.1.2,hb.2⟩) h1).imp fun b hb=>⟨hb.1.1,by rw[h4];exact hb.1.2⟩;have HBX:=hid (And.intro ((hh _).trans hvb) (And.intro ((hh _).trans hsb) ((hh _).trans hrb)));have HZD:=hid hzd;have HYY:=hid hY;have HBD:=hid hbd;clear hS h hv hss hcap hco hz1 hz1' hvb hsb hrb hb2 hz2 hdv hop hoc hol hin htab hbd hzd hh hY;go_enter Tryz.func24,Tryz.ntmps24;go_wp2_with fail;rw[←hw2];clear hw2;have kz:=fun(q:af (aE wd.heap.size) wd) (b i:Nat) (hb:b<wd.heap.size)=>World.cell?_of_block (a:=⟨b,i,none⟩) (q.h.block b hb);have hs0:w.heap.size<wd.heap.size:=by have:=HZD.out;omega
 have hs1:w.heap.size+1<wd.heap.size:=by have:=HZD.out;omega
 have z0:=fun q:af (aE wd.heap.size) wd=>(kz q w.heap.size 0 hs0).trans (Go.Joins.cell_of_block HBX.out.1 0);have z1:=fun q:af (aE wd.heap.size) wd=>(kz q w.heap.size 1 hs0).trans (Go.Joins.cell_of_block HBX.out.1 1);have z2:=fun q:af (aE wd.heap.size) wd=>(kz q w.heap.size 2 hs0).trans (Go.Joins.cell_of_block HBX.out.1 2);have z3:=fun q:af (aE wd.heap.size) wd=>(kz q w.heap.size 3 hs0).trans (Go.Joins.cell_of_block HBX.out.1 3);have z4:=fun q:af (aE wd.heap.size) wd=>(kz q w.heap.size 4 hs0).trans (Go.Joins.cell_of_block HBX.out.1 4);have y0:=fun q:af (aE wd.heap.size) wd=>(kz q (w.heap.size+1) 0 hs1).trans (Go.Joins.cell_of_block HBX.out.2.1 0);have y1:=fun q:af (aE wd.heap.size) wd=>(kz q (w.heap.size+1) 1 hs1).trans (Go.Joins.cell_of_block HBX.out.2.1 1);have y2:=fun q:af (aE wd.heap.size) wd=>(kz q (w.heap.size+1) 2 hs1).trans (Go.Joins.cell_of_block HBX.out.2.1 2);have y3:=fun q:af (aE wd.heap.size) wd=>(kz q (w.heap.size+1) 3 hs1).trans (Go.Joins.cell_of_block HBX.out.2.1 3);have y4:=fun q:af (aE wd.heap.size) wd=>(kz q (w.heap.size+1) 4 hs1).trans (Go.Joins.cell_of_block HBX.out.2.1 4);have y5:=fun q:af (aE wd.heap.size) wd=>(kz q (w.heap.size+1) 5 hs1).trans (Go.Joins.cell_of_block HBX.out.2.1 5);have y6:=fun q:af (aE wd.heap.size) wd=>(kz q (w.heap.size+1) 6 hs1).trans (Go.Joins.cell_of_block HBX.out.2.1 6);clear kz hs0 hs1;refine pG (aE wd.heap.size) (aE.refl _) (aE.trans _) [11,12,13] (.pure [1,4] (.three 0 (.fork 2 (.fork 3 (.fork 5 (.leaf (.free [6,7,8,9] (.step 10 (.tail [11,12,13])))) 10 (.step 5 (.leaf (.free [6,7,8,9] (.tail [11,12,13]))))) 10 (.step 3 (.step 5 (.leaf (.free [6,7,8,9] (.tail [11,12,13])))))) 10 (.step 2 (.step 3 (.step 5 (.leaf (.free [6,7,8,9] (.tail [11,12,13]))))))) 2 (.fork 0 (.fork 3 (.fork 5 (.leaf (.free [6,7,8,9] (.step 10 (.tail [11,12,13])))) 10 (.step 5 (.leaf (.free [6,7,8,9] (.tail [11,12,13]))))) 10 (.step 3 (.step 5 (.leaf (.free [6,7,8,9] (.tail [11,12,13])))))) 10 (.step 0 (.step 3 (.step 5 (.leaf (.free [6,7,8,9] (.tail [11,12,13]))))))) 10 (.fork 0 (.step 2 (.step 3 (.step 5 (.leaf (.free [6,7,8,9] (.tail [11,12,13])))))) 2 (.step 0 (.step 3 (.step 5 (.leaf (.free [6,7,8,9] (.tail [11,12,13]))))))))) (by kernel_rfl) (by kernel_rfl) (fun _ d _ _ _ h=>by cases d<;>exact h) ?_
 rw[←hwd];clear hwd;refine As ?_;simp only[atR];show wpQuiet _ _ _ _ [_,_] _;try simp only[acR,Act.put]
 repeat(go_big_quiet_step (fail))
 refine wpQuiet_nil ?_;clear z0 z1 z2 z3 z4 y0 y1 y2 y3 y4 y5 y6;have HB:Hid (Below wd.heap.size wd wd):=hid (Below.refl _ _);refine yH rfl rfl rfl (fun K hK=> ?_) (fun K hK=> ?_) (fun K hK=> ?_)
 focus
  go_simp
  obtain⟨gN,hgN⟩: ∃g,g=wd.heap.size:=⟨_,rfl⟩;obtain⟨u1,hw⟩: ∃W,W=wd.alloc (.cells #[.string ⟨#[95,105,100]⟩] 9):=⟨_,rfl⟩;have hst:Below wd.heap.size wd u1:=by rw[hw];exact(Below.refl _ _).alloc (Nat.le_refl _) _
  have HGN:Hid (Kp wd u1 gN #[.string ⟨#[95,105,100]⟩] 9):=hid ⟨by rw[hw,hgN];exact heap_alloc_new wd _,by rw[hgN];exact HB.out.size,by rw[hw,hgN];simp⟩;rw[←hw];rw[←hgN];clear hw hgN;refine hK _ _ (.inr (hst.mono HB.out.size)) ?_;clear hK K;replace HB:=hid (HB.out.trans (hst.mono HB.out.size));clear hst;refine gy rfl rfl (fun K hK=> ?_) (fun K hK=> ?_)
  focus
   go_simp
   obtain⟨gI,hgI⟩: ∃g,g=u1.heap.size:=⟨_,rfl⟩;obtain⟨u2,hw⟩: ∃W,W=u1.alloc (.cells #[.int .i64 t.kind,.int .i64 t.num,.string t.text,.slice A0 t.items.length c0,.slice A0' t.names.length c0'] 25):=⟨_,rfl⟩;have hst:Below u1.heap.size u1 u2:=by rw[hw];exact(Below.refl _ _).alloc (Nat.le_refl _) _
   have HGI:Hid (Kp wd u2 gI #[.int .i64 t.kind,.int .i64 t.num,.string t.text,.slice A0 t.items.length c0,.slice A0' t.names.length c0'] 25):=hid ⟨by rw[hw,hgI];exact heap_alloc_new u1 _,by rw[hgI];exact HB.out.size,by rw[hw,hgI];simp⟩;rw[←hw];rw[←hgI];clear hw hgI;refine hK _ _ (.inr (hst.mono HB.out.size)) ?_;clear hK K;replace HB:=hid (HB.out.trans (hst.mono HB.out.size));replace HGN:=hid (HGN.out.next hst);clear hst;refine gy rfl rfl (fun K hK=> ?_) (fun K hK=> ?_)
   focus
    go_simp
    refine(HDC.out u2 gN gI HB.out HGN.out HGI.out).mono ?_;rintro e u3 ⟨v3,rfl,hdv,hst⟩;obtain⟨YA,yc,YA',yc',rfl,-⟩:=hdv.shape;have HDV:=hid hdv;clear hdv;refine hK _ _ (.inr (hst.mono HB.out.size)) ?_;clear hK K;replace HB:=hid (HB.out.trans (hst.mono HB.out.size));replace HGN:=hid (HGN.out.next hst);replace HGI:=hid (HGI.out.next hst);clear hst;refine gy rfl rfl (fun K hK=> ?_) (fun K hK=> ?_)
    focus
     go_simp
     refine(HAP.out u3 _ HB.out HDV.out).mono ?_;rintro e u4 ⟨v5,A5,c5,rfl,hv5,-,-,-,hst⟩;obtain⟨R,hR⟩: ∃R,R=aW Y s:=⟨_,rfl⟩;rw[←hR]at hv5;rw[←hR];have HR:=hid hR;obtain⟨M,hM⟩: ∃M,M=R.2.1:=⟨_,rfl⟩;rw[←hM]at hv5;have HM:=hid hM;obtain⟨MA,mc,MA',mc',rfl,-⟩:=hv5.shape;have HV:Hid (LV u4 (ba wd.heap.size u4) M (.agg #[.int .i64 M.kind,.int .i64 M.num,.string M.text,.slice MA M.items.length mc,.slice MA' M.names.length mc'])):=hid (hv5.imp fun b hb=>⟨Nat.le_trans HB.out.size hb.1,hb.2⟩);clear hR hM hv5;refine hK _ _ (.inr (hst.mono HB.out.size)) ?_;clear hK K;replace HB:=hid (HB.out.trans (hst.mono HB.out.size));replace HGN:=hid (HGN.out.next hst);replace HGI:=hid (HGI.out.next hst);clear hst;clear HDV;refine eP ?_;refine bm ?_;simp only[atR];show wpQuiet _ _ _ _ [_,_,_,_] _;try simp only[acR,Act.put]
     repeat(go_big_quiet_step (fail))
     refine wpQuiet_nil ?_;refine ah rfl (fun K hK=> ?_)
     go_simp
     obtain⟨gR,hgR⟩: ∃g,g=u4.heap.size:=⟨_,rfl⟩;obtain⟨u5,hw⟩: ∃W,W=u4.alloc (.cells #[.int .i64 0,.int .i64 0,.string ⟨#[]⟩,.slice none 0 0,.slice none 0 0] 25):=⟨_,rfl⟩;have hst:Below u4.heap.size u4 u5:=by rw[hw];exact(Below.refl _ _).alloc (Nat.le_refl _) _
     have HGR:Hid (Kp wd u5 gR #[.int .i64 0,.int .i64 0,.string ⟨#[]⟩,.slice none 0 0,.slice none 0 0] 25):=hid ⟨by rw[hw,hgR];exact heap_alloc_new u4 _,by rw[hgR];exact HB.out.size,by rw[hw,hgR];simp⟩;rw[←hw];rw[←hgR];have HVL:Hid (∀b,ba wd.heap.size u4 b→b≠gR):=hid (fun b hb=>by have:=hb.2;omega);clear hw hgR;refine hK _ _ (.inr (hst.mono HB.out.size)) ?_;clear hK K;replace HB:=hid (HB.out.trans (hst.mono HB.out.size));have HV:Hid (LV u5 (fun b=>ba wd.heap.size u5 b∧b≠gR) M (.agg #[.int .i64 M.kind,.int .i64 M.num,.string M.text,.slice MA M.items.length mc,.slice MA' M.names.length mc'])):=hid ((HV.out.keep fun b hb=>hst.block b hb.2).imp fun b hb=>⟨⟨hb.1,Nat.lt_of_lt_of_le hb.2 hst.size⟩,HVL.out b hb⟩);clear hst HVL;refine aw rfl (fun K hK=> ?_);rw[if_pos (bd rfl)];refine bV 25 _ _ rfl rfl gR 0 rfl _ #[.int .i64 M.kind,.int .i64 M.num,.string M.text,.slice MA M.items.length mc,.slice MA' M.names.length mc'] rfl rfl _ #[.int .i64 M.kind,.int .i64 M.num,.string M.text,.slice MA M.items.length mc,.slice MA' M.names.length mc'] 25 HGR.out.cel (by simp) (by kernel_rfl) (by simp[Value.oneCell']) (by kernel_rfl) (fun w9 h9 ho9 hz9=> ?_);refine hK _ _ ?_;clear hK K;have HB9:Hid (Below wd.heap.size wd w9):=hid (aJ (Nat.le_refl _) HB.out ho9 hz9 HGR.out.lo);have HX9:Hid (Box w9 gR (.int .i64 M.kind) (.int .i64 M.num) (.string M.text) (.slice MA M.items.length mc) (.slice MA' M.names.length mc')):=hid h9;have HV9:Hid (LV w9 (fun b=>ba wd.heap.size w9 b) M (.agg #[.int .i64 M.kind,.int .i64 M.num,.string M.text,.slice MA M.items.length mc,.slice MA' M.names.length mc'])):=hid (HVK.out u5 w9 gR M _ HV.out ho9 hz9)
     clear h9 ho9 hz9 HB HV HGR;refine aw rfl (fun K hK=> ?_)
     go_simp
     refine hK _ _ ?_;clear hK K;refine aw rfl (fun K hK=> ?_)
     go_simp
     refine hK _ _ ?_;clear hK K;refine aX ?_
    rotate_left
    focus
     go_simp
     obtain⟨gR,hgR⟩: ∃g,g=u3.heap.size:=⟨_,rfl⟩;obtain⟨u4,hw⟩: ∃W,W=u3.alloc (.cells #[.int .i64 0,.int .i64 0,.string ⟨#[]⟩,.slice none 0 0,.slice none 0 0] 25):=⟨_,rfl⟩;have hst:Below u3.heap.size u3 u4:=by rw[hw];exact(Below.refl _ _).alloc (Nat.le_refl _) _
     have HGR:Hid (Kp wd u4 gR #[.int .i64 0,.int .i64 0,.string ⟨#[]⟩,.slice none 0 0,.slice none 0 0] 25):=hid ⟨by rw[hw,hgR];exact heap_alloc_new u3 _,by rw[hgR];exact HB.out.size,by rw[hw,hgR];simp⟩;rw[←hw];rw[←hgR];clear hw hgR;refine hK _ _ (.inr (hst.mono HB.out.size)) ?_;clear hK K;replace HB:=hid (HB.out.trans (hst.mono HB.out.size));replace HGN:=hid (HGN.out.next hst);replace HGI:=hid (HGI.out.next hst);replace HDV:Hid (LV u4 (ba wd.heap.size u4) Y (.agg #[.int .i64 Y.kind,.int .i64 Y.num,.string Y.text,.slice YA Y.items.length yc,.slice YA' Y.names.length yc'])):=hid ((HDV.out.keep fun b hb=>hst.block b hb.2).imp fun b hb=>⟨hb.1,Nat.lt_of_lt_of_le hb.2 hst.size⟩);clear hst;refine bK rfl (fun K hK=> ?_)
     go_simp
     refine(HAP.out u4 _ HB.out HDV.out).mono ?_;rintro e u5 ⟨v5,A5,c5,rfl,hv5,-,-,-,hst⟩;obtain⟨R,hR⟩: ∃R,R=aW Y s:=⟨_,rfl⟩;rw[←hR]at hv5;rw[←hR];have HR:=hid hR;obtain⟨M,hM⟩: ∃M,M=R.2.1:=⟨_,rfl⟩;rw[←hM]at hv5;have HM:=hid hM;obtain⟨MA,mc,MA',mc',rfl,-⟩:=hv5.shape;have HV:Hid (LV u5 (fun b=>ba wd.heap.size u5 b∧b≠gR) M (.agg #[.int .i64 M.kind,.int .i64 M.num,.string M.text,.slice MA M.items.length mc,.slice MA' M.names.length mc'])):=hid (hv5.imp fun b hb=>⟨⟨Nat.le_trans HB.out.size hb.1,hb.2⟩,by have:=HGR.out.lt;have:=hb.1;omega⟩);clear hR hM hv5;refine hK _ _ (.inr (hst.mono HB.out.size)) ?_;clear hK K;replace HB:=hid (HB.out.trans (hst.mono HB.out.size));replace HGN:=hid (HGN.out.next hst);replace HGI:=hid (HGI.out.next hst);replace HGR:=hid (HGR.out.next hst);clear hst;clear HDV;refine eP ?_;refine bm ?_;simp only[atR];show wpQuiet _ _ _ _ [_,_,_,_] _;try simp only[acR,Act.put]
     repeat(go_big_quiet_step (fail))
     refine wpQuiet_nil ?_;refine aw rfl (fun K hK=> ?_);rw[if_pos (bd rfl)];refine bV 25 _ _ rfl rfl gR 0 rfl _ #[.int .i64 M.kind,.int .i64 M.num,.string M.text,.slice MA M.items.length mc,.slice MA' M.names.length mc'] rfl rfl _ #[.int .i64 M.kind,.int .i64 M.num,.string M.text,.slice MA M.items.length mc,.slice MA' M.names.length mc'] 25 HGR.out.cel (by simp) (by kernel_rfl) (by simp[Value.oneCell']) (by kernel_rfl) (fun w9 h9 ho9 hz9=> ?_);refine hK _ _ ?_;clear hK K;have HB9:Hid (Below wd.heap.size wd w9):=hid (aJ (Nat.le_refl _) HB.out ho9 hz9 HGR.out.lo);have HX9:Hid (Box w9 gR (.int .i64 M.kind) (.int .i64 M.num) (.string M.text) (.slice MA M.items.length mc) (.slice MA' M.names.length mc')):=hid h9;have HV9:Hid (LV w9 (fun b=>ba wd.heap.size w9 b) M (.agg #[.int .i64 M.kind,.int .i64 M.num,.string M.text,.slice MA M.items.length mc,.slice MA' M.names.length mc'])):=hid (HVK.out u5 w9 gR M _ HV.out ho9 hz9);clear h9 ho9 hz9 HB HV HGR;refine aw rfl (fun K hK=> ?_)
     go_simp
     refine hK _ _ ?_;clear hK K;refine aw rfl (fun K hK=> ?_)
     go_simp
     refine hK _ _ ?_;clear hK K;refine aX ?_
    rotate_left
   rotate_left 2
   focus
    go_simp
    obtain⟨gR,hgR⟩: ∃g,g=u2.heap.size:=⟨_,rfl⟩;obtain⟨u3,hw⟩: ∃W,W=u2.alloc (.cells #[.int .i64 0,.int .i64 0,.string ⟨#[]⟩,.slice none 0 0,.slice none 0 0] 25):=⟨_,rfl⟩;have hst:Below u2.heap.size u2 u3:=by rw[hw];exact(Below.refl _ _).alloc (Nat.le_refl _) _
    have HGR:Hid (Kp wd u3 gR #[.int .i64 0,.int .i64 0,.string ⟨#[]⟩,.slice none 0 0,.slice none 0 0] 25):=hid ⟨by rw[hw,hgR];exact heap_alloc_new u2 _,by rw[hgR];exact HB.out.size,by rw[hw,hgR];simp⟩;rw[←hw];rw[←hgR];clear hw hgR;refine hK _ _ (.inr (hst.mono HB.out.size)) ?_;clear hK K;replace HB:=hid (HB.out.trans (hst.mono HB.out.size));replace HGN:=hid (HGN.out.next hst);replace HGI:=hid (HGI.out.next hst);clear hst;refine bK rfl (fun K hK=> ?_)
    go_simp
    refine(HDC.out u3 gN gI HB.out HGN.out HGI.out).mono ?_;rintro e u4 ⟨v3,rfl,hdv,hst⟩;obtain⟨YA,yc,YA',yc',rfl,-⟩:=hdv.shape;have HDV:=hid hdv;clear hdv;refine hK _ _ (.inr (hst.mono HB.out.size)) ?_;clear hK K;replace HB:=hid (HB.out.trans (hst.mono HB.out.size));replace HGN:=hid (HGN.out.next hst);replace HGI:=hid (HGI.out.next hst);replace HGR:=hid (HGR.out.next hst);clear hst;refine bK rfl (fun K hK=> ?_)
    go_simp
    refine(HAP.out u4 _ HB.out HDV.out).mono ?_;rintro e u5 ⟨v5,A5,c5,rfl,hv5,-,-,-,hst⟩;obtain⟨R,hR⟩: ∃R,R=aW Y s:=⟨_,rfl⟩;rw[←hR]at hv5;rw[←hR];have HR:=hid hR;obtain⟨M,hM⟩: ∃M,M=R.2.1:=⟨_,rfl⟩;rw[←hM]at hv5;have HM:=hid hM;obtain⟨MA,mc,MA',mc',rfl,-⟩:=hv5.shape;have HV:Hid (LV u5 (fun b=>ba wd.heap.size u5 b∧b≠gR) M (.agg #[.int .i64 M.kind,.int .i64 M.num,.string M.text,.slice MA M.items.length mc,.slice MA' M.names.length mc'])):=hid (hv5.imp fun b hb=>⟨⟨Nat.le_trans HB.out.size hb.1,hb.2⟩,by have:=HGR.out.lt;have:=hb.1;omega⟩);clear hR hM hv5;refine hK _ _ (.inr (hst.mono HB.out.size)) ?_;clear hK K;replace HB:=hid (HB.out.trans (hst.mono HB.out.size));replace HGN:=hid (HGN.out.next hst);replace HGI:=hid (HGI.out.next hst);replace HGR:=hid (HGR.out.next hst);clear hst;clear HDV;refine eP ?_;refine bm ?_;simp only[atR];show wpQuiet _ _ _ _ [_,_,_,_] _;try simp only[acR,Act.put]
    repeat(go_big_quiet_step (fail))
    refine wpQuiet_nil ?_;refine aw rfl (fun K hK=> ?_);rw[if_pos (bd rfl)];refine bV 25 _ _ rfl rfl gR 0 rfl _ #[.int .i64 M.kind,.int .i64 M.num,.string M.text,.slice MA M.items.length mc,.slice MA' M.names.length mc'] rfl rfl _ #[.int .i64 M.kind,.int .i64 M.num,.string M.text,.slice MA M.items.length mc,.slice MA' M.names.length mc'] 25 HGR.out.cel (by simp) (by kernel_rfl) (by simp[Value.oneCell']) (by kernel_rfl) (fun w9 h9 ho9 hz9=> ?_);refine hK _ _ ?_;clear hK K;have HB9:Hid (Below wd.heap.size wd w9):=hid (aJ (Nat.le_refl _) HB.out ho9 hz9 HGR.out.lo);have HX9:Hid (Box w9 gR (.int .i64 M.kind) (.int .i64 M.num) (.string M.text) (.slice MA M.items.length mc) (.slice MA' M.names.length mc')):=hid h9;have HV9:Hid (LV w9 (fun b=>ba wd.heap.size w9 b) M (.agg #[.int .i64 M.kind,.int .i64 M.num,.string M.text,.slice MA M.items.length mc,.slice MA' M.names.length mc'])):=hid (HVK.out u5 w9 gR M _ HV.out ho9 hz9);clear h9 ho9 hz9 HB HV HGR;refine aw rfl (fun K hK=> ?_)
    go_simp
    refine hK _ _ ?_;clear hK K;refine aw rfl (fun K hK=> ?_)
    go_simp
    refine hK _ _ ?_;clear hK K;refine aX ?_
   rotate_left
  rotate_left 3
  focus
   go_simp
   obtain⟨gR,hgR⟩: ∃g,g=u1.heap.size:=⟨_,rfl⟩;obtain⟨u2,hw⟩: ∃W,W=u1.alloc (.cells #[.int .i64 0,.int .i64 0,.string ⟨#[]⟩,.slice none 0 0,.slice none 0 0] 25):=⟨_,rfl⟩;have hst:Below u1.heap.size u1 u2:=by rw[hw];exact(Below.refl _ _).alloc (Nat.le_refl _) _
   have HGR:Hid (Kp wd u2 gR #[.int .i64 0,.int .i64 0,.string ⟨#[]⟩,.slice none 0 0,.slice none 0 0] 25):=hid ⟨by rw[hw,hgR];exact heap_alloc_new u1 _,by rw[hgR];exact HB.out.size,by rw[hw,hgR];simp⟩;rw[←hw];rw[←hgR];clear hw hgR;refine hK _ _ (.inr (hst.mono HB.out.size)) ?_;clear hK K;replace HB:=hid (HB.out.trans (hst.mono HB.out.size));replace HGN:=hid (HGN.out.next hst);clear hst;refine bK rfl (fun K hK=> ?_)
   go_simp
   obtain⟨gI,hgI⟩: ∃g,g=u2.heap.size:=⟨_,rfl⟩;obtain⟨u3,hw⟩: ∃W,W=u2.alloc (.cells #[.int .i64 t.kind,.int .i64 t.num,.string t.text,.slice A0 t.items.length c0,.slice A0' t.names.length c0'] 25):=⟨_,rfl⟩;have hst:Below u2.heap.size u2 u3:=by rw[hw];exact(Below.refl _ _).alloc (Nat.le_refl _) _
   have HGI:Hid (Kp wd u3 gI #[.int .i64 t.kind,.int .i64 t.num,.string t.text,.slice A0 t.items.length c0,.slice A0' t.names.length c0'] 25):=hid ⟨by rw[hw,hgI];exact heap_alloc_new u2 _,by rw[hgI];exact HB.out.size,by rw[hw,hgI];simp⟩;rw[←hw];rw[←hgI];clear hw hgI;refine hK _ _ (.inr (hst.mono HB.out.size)) ?_;clear hK K;replace HB:=hid (HB.out.trans (hst.mono HB.out.size));replace HGN:=hid (HGN.out.next hst);replace HGR:=hid (HGR.out.next hst);clear hst;refine bK rfl (fun K hK=> ?_)
   go_simp
   refine(HDC.out u3 gN gI HB.out HGN.out HGI.out).mono ?_;rintro e u4 ⟨v3,rfl,hdv,hst⟩;obtain⟨YA,yc,YA',yc',rfl,-⟩:=hdv.shape;have HDV:=hid hdv;clear hdv;refine hK _ _ (.inr (hst.mono HB.out.size)) ?_;clear hK K;replace HB:=hid (HB.out.trans (hst.mono HB.out.size));replace HGN:=hid (HGN.out.next hst);replace HGI:=hid (HGI.out.next hst);replace HGR:=hid (HGR.out.next hst);clear hst;refine bK rfl (fun K hK=> ?_)
   go_simp
   refine(HAP.out u4 _ HB.out HDV.out).mono ?_;rintro e u5 ⟨v5,A5,c5,rfl,hv5,-,-,-,hst⟩;obtain⟨R,hR⟩: ∃R,R=aW Y s:=⟨_,rfl⟩;rw[←hR]at hv5;rw[←hR];have HR:=hid hR;obtain⟨M,hM⟩: ∃M,M=R.2.1:=⟨_,rfl⟩;rw[←hM]at hv5;have HM:=hid hM;obtain⟨MA,mc,MA',mc',rfl,-⟩:=hv5.shape;have HV:Hid (LV u5 (fun b=>ba wd.heap.size u5 b∧b≠gR) M (.agg #[.int .i64 M.kind,.int .i64 M.num,.string M.text,.slice MA M.items.length mc,.slice MA' M.names.length mc'])):=hid (hv5.imp fun b hb=>⟨⟨Nat.le_trans HB.out.size hb.1,hb.2⟩,by have:=HGR.out.lt;have:=hb.1;omega⟩);clear hR hM hv5;refine hK _ _ (.inr (hst.mono HB.out.size)) ?_;clear hK K;replace HB:=hid (HB.out.trans (hst.mono HB.out.size));replace HGN:=hid (HGN.out.next hst);replace HGI:=hid (HGI.out.next hst);replace HGR:=hid (HGR.out.next hst);clear hst;clear HDV;refine eP ?_;refine bm ?_;simp only[atR];show wpQuiet _ _ _ _ [_,_,_,_] _;try simp only[acR,Act.put]
   repeat(go_big_quiet_step (fail))
   refine wpQuiet_nil ?_;refine aw rfl (fun K hK=> ?_);rw[if_pos (bd rfl)];refine bV 25 _ _ rfl rfl gR 0 rfl _ #[.int .i64 M.kind,.int .i64 M.num,.string M.text,.slice MA M.items.length mc,.slice MA' M.names.length mc'] rfl rfl _ #[.int .i64 M.kind,.int .i64 M.num,.string M.text,.slice MA M.items.length mc,.slice MA' M.names.length mc'] 25 HGR.out.cel (by simp) (by kernel_rfl) (by simp[Value.oneCell']) (by kernel_rfl) (fun w9 h9 ho9 hz9=> ?_);refine hK _ _ ?_;clear hK K;have HB9:Hid (Below wd.heap.size wd w9):=hid (aJ (Nat.le_refl _) HB.out ho9 hz9 HGR.out.lo);have HX9:Hid (Box w9 gR (.int .i64 M.kind) (.int .i64 M.num) (.string M.text) (.slice MA M.items.length mc) (.slice MA' M.names.length mc')):=hid h9;have HV9:Hid (LV w9 (fun b=>ba wd.heap.size w9 b) M (.agg #[.int .i64 M.kind,.int .i64 M.num,.string M.text,.slice MA M.items.length mc,.slice MA' M.names.length mc'])):=hid (HVK.out u5 w9 gR M _ HV.out ho9 hz9);clear h9 ho9 hz9 HB HV HGR;refine aw rfl (fun K hK=> ?_)
   go_simp
   refine hK _ _ ?_;clear hK K;refine aw rfl (fun K hK=> ?_)
   go_simp
   refine hK _ _ ?_;clear hK K;refine aX ?_
  rotate_left
 rotate_left 4
 focus
  go_simp
  obtain⟨gI,hgI⟩: ∃g,g=wd.heap.size:=⟨_,rfl⟩;obtain⟨u1,hw⟩: ∃W,W=wd.alloc (.cells #[.int .i64 t.kind,.int .i64 t.num,.string t.text,.slice A0 t.items.length c0,.slice A0' t.names.length c0'] 25):=⟨_,rfl⟩;have hst:Below wd.heap.size wd u1:=by rw[hw];exact(Below.refl _ _).alloc (Nat.le_refl _) _
  have HGI:Hid (Kp wd u1 gI #[.int .i64 t.kind,.int .i64 t.num,.string t.text,.slice A0 t.items.length c0,.slice A0' t.names.length c0'] 25):=hid ⟨by rw[hw,hgI];exact heap_alloc_new wd _,by rw[hgI];exact HB.out.size,by rw[hw,hgI];simp⟩;rw[←hw];rw[←hgI];clear hw hgI;refine hK _ _ (.inr (hst.mono HB.out.size)) ?_;clear hK K;replace HB:=hid (HB.out.trans (hst.mono HB.out.size));clear hst;refine gy rfl rfl (fun K hK=> ?_) (fun K hK=> ?_)
  focus
   go_simp
   obtain⟨gN,hgN⟩: ∃g,g=u1.heap.size:=⟨_,rfl⟩;obtain⟨u2,hw⟩: ∃W,W=u1.alloc (.cells #[.string ⟨#[95,105,100]⟩] 9):=⟨_,rfl⟩;have hst:Below u1.heap.size u1 u2:=by rw[hw];exact(Below.refl _ _).alloc (Nat.le_refl _) _
   have HGN:Hid (Kp wd u2 gN #[.string ⟨#[95,105,100]⟩] 9):=hid ⟨by rw[hw,hgN];exact heap_alloc_new u1 _,by rw[hgN];exact HB.out.size,by rw[hw,hgN];simp⟩;rw[←hw];rw[←hgN];clear hw hgN;refine hK _ _ (.inr (hst.mono HB.out.size)) ?_;clear hK K;replace HB:=hid (HB.out.trans (hst.mono HB.out.size));replace HGI:=hid (HGI.out.next hst);clear hst;refine gy rfl rfl (fun K hK=> ?_) (fun K hK=> ?_)
   focus
    go_simp
    refine(HDC.out u2 gN gI HB.out HGN.out HGI.out).mono ?_;rintro e u3 ⟨v3,rfl,hdv,hst⟩;obtain⟨YA,yc,YA',yc',rfl,-⟩:=hdv.shape;have HDV:=hid hdv;clear hdv;refine hK _ _ (.inr (hst.mono HB.out.size)) ?_;clear hK K;replace HB:=hid (HB.out.trans (hst.mono HB.out.size));replace HGN:=hid (HGN.out.next hst);replace HGI:=hid (HGI.out.next hst);clear hst;refine gy rfl rfl (fun K hK=> ?_) (fun K hK=> ?_)
    focus
     go_simp
     refine(HAP.out u3 _ HB.out HDV.out).mono ?_;rintro e u4 ⟨v5,A5,c5,rfl,hv5,-,-,-,hst⟩;obtain⟨R,hR⟩: ∃R,R=aW Y s:=⟨_,rfl⟩;rw[←hR]at hv5;rw[←hR];have HR:=hid hR;obtain⟨M,hM⟩: ∃M,M=R.2.1:=⟨_,rfl⟩;rw[←hM]at hv5;have HM:=hid hM;obtain⟨MA,mc,MA',mc',rfl,-⟩:=hv5.shape;have HV:Hid (LV u4 (ba wd.heap.size u4) M (.agg #[.int .i64 M.kind,.int .i64 M.num,.string M.text,.slice MA M.items.length mc,.slice MA' M.names.length mc'])):=hid (hv5.imp fun b hb=>⟨Nat.le_trans HB.out.size hb.1,hb.2⟩);clear hR hM hv5;refine hK _ _ (.inr (hst.mono HB.out.size)) ?_;clear hK K;replace HB:=hid (HB.out.trans (hst.mono HB.out.size));replace HGN:=hid (HGN.out.next hst);replace HGI:=hid (HGI.out.next hst);clear hst;clear HDV;refine eP ?_;refine bm ?_;simp only[atR];show wpQuiet _ _ _ _ [_,_,_,_] _;try simp only[acR,Act.put]
     repeat(go_big_quiet_step (fail))
     refine wpQuiet_nil ?_;refine ah rfl (fun K hK=> ?_)
     go_simp
     obtain⟨gR,hgR⟩: ∃g,g=u4.heap.size:=⟨_,rfl⟩;obtain⟨u5,hw⟩: ∃W,W=u4.alloc (.cells #[.int .i64 0,.int .i64 0,.string ⟨#[]⟩,.slice none 0 0,.slice none 0 0] 25):=⟨_,rfl⟩;have hst:Below u4.heap.size u4 u5:=by rw[hw];exact(Below.refl _ _).alloc (Nat.le_refl _) _
     have HGR:Hid (Kp wd u5 gR #[.int .i64 0,.int .i64 0,.string ⟨#[]⟩,.slice none 0 0,.slice none 0 0] 25):=hid ⟨by rw[hw,hgR];exact heap_alloc_new u4 _,by rw[hgR];exact HB.out.size,by rw[hw,hgR];simp⟩;rw[←hw];rw[←hgR];have HVL:Hid (∀b,ba wd.heap.size u4 b→b≠gR):=hid (fun b hb=>by have:=hb.2;omega);clear hw hgR;refine hK _ _ (.inr (hst.mono HB.out.size)) ?_;clear hK K;replace HB:=hid (HB.out.trans (hst.mono HB.out.size));have HV:Hid (LV u5 (fun b=>ba wd.heap.size u5 b∧b≠gR) M (.agg #[.int .i64 M.kind,.int .i64 M.num,.string M.text,.slice MA M.items.length mc,.slice MA' M.names.length mc'])):=hid ((HV.out.keep fun b hb=>hst.block b hb.2).imp fun b hb=>⟨⟨hb.1,Nat.lt_of_lt_of_le hb.2 hst.size⟩,HVL.out b hb⟩);clear hst HVL;refine aw rfl (fun K hK=> ?_);rw[if_pos (bd rfl)];refine bV 25 _ _ rfl rfl gR 0 rfl _ #[.int .i64 M.kind,.int .i64 M.num,.string M.text,.slice MA M.items.length mc,.slice MA' M.names.length mc'] rfl rfl _ #[.int .i64 M.kind,.int .i64 M.num,.string M.text,.slice MA M.items.length mc,.slice MA' M.names.length mc'] 25 HGR.out.cel (by simp) (by kernel_rfl) (by simp[Value.oneCell']) (by kernel_rfl) (fun w9 h9 ho9 hz9=> ?_);refine hK _ _ ?_;clear hK K;have HB9:Hid (Below wd.heap.size wd w9):=hid (aJ (Nat.le_refl _) HB.out ho9 hz9 HGR.out.lo);have HX9:Hid (Box w9 gR (.int .i64 M.kind) (.int .i64 M.num) (.string M.text) (.slice MA M.items.length mc) (.slice MA' M.names.length mc')):=hid h9;have HV9:Hid (LV w9 (fun b=>ba wd.heap.size w9 b) M (.agg #[.int .i64 M.kind,.int .i64 M.num,.string M.text,.slice MA M.items.length mc,.slice MA' M.names.length mc'])):=hid (HVK.out u5 w9 gR M _ HV.out ho9 hz9)
     clear h9 ho9 hz9 HB HV HGR;refine aw rfl (fun K hK=> ?_)
     go_simp
     refine hK _ _ ?_;clear hK K;refine aw rfl (fun K hK=> ?_)
     go_simp
     refine hK _ _ ?_;clear hK K;refine aX ?_
    rotate_left
    focus
     go_simp
     obtain⟨gR,hgR⟩: ∃g,g=u3.heap.size:=⟨_,rfl⟩;obtain⟨u4,hw⟩: ∃W,W=u3.alloc (.cells #[.int .i64 0,.int .i64 0,.string ⟨#[]⟩,.slice none 0 0,.slice none 0 0] 25):=⟨_,rfl⟩;have hst:Below u3.heap.size u3 u4:=by rw[hw];exact(Below.refl _ _).alloc (Nat.le_refl _) _
     have HGR:Hid (Kp wd u4 gR #[.int .i64 0,.int .i64 0,.string ⟨#[]⟩,.slice none 0 0,.slice none 0 0] 25):=hid ⟨by rw[hw,hgR];exact heap_alloc_new u3 _,by rw[hgR];exact HB.out.size,by rw[hw,hgR];simp⟩;rw[←hw];rw[←hgR];clear hw hgR;refine hK _ _ (.inr (hst.mono HB.out.size)) ?_;clear hK K;replace HB:=hid (HB.out.trans (hst.mono HB.out.size));replace HGN:=hid (HGN.out.next hst);replace HGI:=hid (HGI.out.next hst);replace HDV:Hid (LV u4 (ba wd.heap.size u4) Y (.agg #[.int .i64 Y.kind,.int .i64 Y.num,.string Y.text,.slice YA Y.items.length yc,.slice YA' Y.names.length yc'])):=hid ((HDV.out.keep fun b hb=>hst.block b hb.2).imp fun b hb=>⟨hb.1,Nat.lt_of_lt_of_le hb.2 hst.size⟩);clear hst;refine bK rfl (fun K hK=> ?_)
     go_simp
     refine(HAP.out u4 _ HB.out HDV.out).mono ?_;rintro e u5 ⟨v5,A5,c5,rfl,hv5,-,-,-,hst⟩;obtain⟨R,hR⟩: ∃R,R=aW Y s:=⟨_,rfl⟩;rw[←hR]at hv5;rw[←hR];have HR:=hid hR;obtain⟨M,hM⟩: ∃M,M=R.2.1:=⟨_,rfl⟩;rw[←hM]at hv5;have HM:=hid hM;obtain⟨MA,mc,MA',mc',rfl,-⟩:=hv5.shape;have HV:Hid (LV u5 (fun b=>ba wd.heap.size u5 b∧b≠gR) M (.agg #[.int .i64 M.kind,.int .i64 M.num,.string M.text,.slice MA M.items.length mc,.slice MA' M.names.length mc'])):=hid (hv5.imp fun b hb=>⟨⟨Nat.le_trans HB.out.size hb.1,hb.2⟩,by have:=HGR.out.lt;have:=hb.1;omega⟩);clear hR hM hv5;refine hK _ _ (.inr (hst.mono HB.out.size)) ?_;clear hK K;replace HB:=hid (HB.out.trans (hst.mono HB.out.size));replace HGN:=hid (HGN.out.next hst);replace HGI:=hid (HGI.out.next hst);replace HGR:=hid (HGR.out.next hst);clear hst;clear HDV;refine eP ?_;refine bm ?_;simp only[atR];show wpQuiet _ _ _ _ [_,_,_,_] _;try simp only[acR,Act.put]
     repeat(go_big_quiet_step (fail))
     refine wpQuiet_nil ?_;refine aw rfl (fun K hK=> ?_);rw[if_pos (bd rfl)];refine bV 25 _ _ rfl rfl gR 0 rfl _ #[.int .i64 M.kind,.int .i64 M.num,.string M.text,.slice MA M.items.length mc,.slice MA' M.names.length mc'] rfl rfl _ #[.int .i64 M.kind,.int .i64 M.num,.string M.text,.slice MA M.items.length mc,.slice MA' M.names.length mc'] 25 HGR.out.cel (by simp) (by kernel_rfl) (by simp[Value.oneCell']) (by kernel_rfl) (fun w9 h9 ho9 hz9=> ?_);refine hK _ _ ?_;clear hK K;have HB9:Hid (Below wd.heap.size wd w9):=hid (aJ (Nat.le_refl _) HB.out ho9 hz9 HGR.out.lo);have HX9:Hid (Box w9 gR (.int .i64 M.kind) (.int .i64 M.num) (.string M.text) (.slice MA M.items.length mc) (.slice MA' M.names.length mc')):=hid h9;have HV9:Hid (LV w9 (fun b=>ba wd.heap.size w9 b) M (.agg #[.int .i64 M.kind,.int .i64 M.num,.string M.text,.slice MA M.items.length mc,.slice MA' M.names.length mc'])):=hid (HVK.out u5 w9 gR M _ HV.out ho9 hz9);clear h9 ho9 hz9 HB HV HGR;refine aw rfl (fun K hK=> ?_)
     go_simp
     refine hK _ _ ?_;clear hK K;refine aw rfl (fun K hK=> ?_)
     go_simp
     refine hK _ _ ?_;clear hK K;refine aX ?_
    rotate_left
   rotate_left 2
   focus
    go_simp
    obtain⟨gR,hgR⟩: ∃g,g=u2.heap.size:=⟨_,rfl⟩;obtain⟨u3,hw⟩: ∃W,W=u2.alloc (.cells #[.int .i64 0,.int .i64 0,.string ⟨#[]⟩,.slice none 0 0,.slice none 0 0] 25):=⟨_,rfl⟩;have hst:Below u2.heap.size u2 u3:=by rw[hw];exact(Below.refl _ _).alloc (Nat.le_refl _) _
    have HGR:Hid (Kp wd u3 gR #[.int .i64 0,.int .i64 0,.string ⟨#[]⟩,.slice none 0 0,.slice none 0 0] 25):=hid ⟨by rw[hw,hgR];exact heap_alloc_new u2 _,by rw[hgR];exact HB.out.size,by rw[hw,hgR];simp⟩;rw[←hw];rw[←hgR];clear hw hgR;refine hK _ _ (.inr (hst.mono HB.out.size)) ?_;clear hK K;replace HB:=hid (HB.out.trans (hst.mono HB.out.size));replace HGN:=hid (HGN.out.next hst);replace HGI:=hid (HGI.out.next hst);clear hst;refine bK rfl (fun K hK=> ?_)
    go_simp
    refine(HDC.out u3 gN gI HB.out HGN.out HGI.out).mono ?_;rintro e u4 ⟨v3,rfl,hdv,hst⟩;obtain⟨YA,yc,YA',yc',rfl,-⟩:=hdv.shape;have HDV:=hid hdv;clear hdv;refine hK _ _ (.inr (hst.mono HB.out.size)) ?_;clear hK K;replace HB:=hid (HB.out.trans (hst.mono HB.out.size));replace HGN:=hid (HGN.out.next hst);replace HGI:=hid (HGI.out.next hst);replace HGR:=hid (HGR.out.next hst);clear hst;refine bK rfl (fun K hK=> ?_)
    go_simp
    refine(HAP.out u4 _ HB.out HDV.out).mono ?_;rintro e u5 ⟨v5,A5,c5,rfl,hv5,-,-,-,hst⟩;obtain⟨R,hR⟩: ∃R,R=aW Y s:=⟨_,rfl⟩;rw[←hR]at hv5;rw[←hR];have HR:=hid hR;obtain⟨M,hM⟩: ∃M,M=R.2.1:=⟨_,rfl⟩;rw[←hM]at hv5;have HM:=hid hM;obtain⟨MA,mc,MA',mc',rfl,-⟩:=hv5.shape;have HV:Hid (LV u5 (fun b=>ba wd.heap.size u5 b∧b≠gR) M (.agg #[.int .i64 M.kind,.int .i64 M.num,.string M.text,.slice MA M.items.length mc,.slice MA' M.names.length mc'])):=hid (hv5.imp fun b hb=>⟨⟨Nat.le_trans HB.out.size hb.1,hb.2⟩,by have:=HGR.out.lt;have:=hb.1;omega⟩);clear hR hM hv5;refine hK _ _ (.inr (hst.mono HB.out.size)) ?_;clear hK K;replace HB:=hid (HB.out.trans (hst.mono HB.out.size));replace HGN:=hid (HGN.out.next hst);replace HGI:=hid (HGI.out.next hst);replace HGR:=hid (HGR.out.next hst);clear hst;clear HDV;refine eP ?_;refine bm ?_;simp only[atR];show wpQuiet _ _ _ _ [_,_,_,_] _;try simp only[acR,Act.put]
    repeat(go_big_quiet_step (fail))
    refine wpQuiet_nil ?_;refine aw rfl (fun K hK=> ?_);rw[if_pos (bd rfl)];refine bV 25 _ _ rfl rfl gR 0 rfl _ #[.int .i64 M.kind,.int .i64 M.num,.string M.text,.slice MA M.items.length mc,.slice MA' M.names.length mc'] rfl rfl _ #[.int .i64 M.kind,.int .i64 M.num,.string M.text,.slice MA M.items.length mc,.slice MA' M.names.length mc'] 25 HGR.out.cel (by simp) (by kernel_rfl) (by simp[Value.oneCell']) (by kernel_rfl) (fun w9 h9 ho9 hz9=> ?_);refine hK _ _ ?_;clear hK K;have HB9:Hid (Below wd.heap.size wd w9):=hid (aJ (Nat.le_refl _) HB.out ho9 hz9 HGR.out.lo);have HX9:Hid (Box w9 gR (.int .i64 M.kind) (.int .i64 M.num) (.string M.text) (.slice MA M.items.length mc) (.slice MA' M.names.length mc')):=hid h9;have HV9:Hid (LV w9 (fun b=>ba wd.heap.size w9 b) M (.agg #[.int .i64 M.kind,.int .i64 M.num,.string M.text,.slice MA M.items.length mc,.slice MA' M.names.length mc'])):=hid (HVK.out u5 w9 gR M _ HV.out ho9 hz9);clear h9 ho9 hz9 HB HV HGR;refine aw rfl (fun K hK=> ?_)
    go_simp
    refine hK _ _ ?_;clear hK K;refine aw rfl (fun K hK=> ?_)
    go_simp
    refine hK _ _ ?_;clear hK K;refine aX ?_
   rotate_left
  rotate_left 3
  focus
   go_simp
   obtain⟨gR,hgR⟩: ∃g,g=u1.heap.size:=⟨_,rfl⟩;obtain⟨u2,hw⟩: ∃W,W=u1.alloc (.cells #[.int .i64 0,.int .i64 0,.string ⟨#[]⟩,.slice none 0 0,.slice none 0 0] 25):=⟨_,rfl⟩;have hst:Below u1.heap.size u1 u2:=by rw[hw];exact(Below.refl _ _).alloc (Nat.le_refl _) _
   have HGR:Hid (Kp wd u2 gR #[.int .i64 0,.int .i64 0,.string ⟨#[]⟩,.slice none 0 0,.slice none 0 0] 25):=hid ⟨by rw[hw,hgR];exact heap_alloc_new u1 _,by rw[hgR];exact HB.out.size,by rw[hw,hgR];simp⟩;rw[←hw];rw[←hgR];clear hw hgR;refine hK _ _ (.inr (hst.mono HB.out.size)) ?_;clear hK K;replace HB:=hid (HB.out.trans (hst.mono HB.out.size));replace HGI:=hid (HGI.out.next hst);clear hst;refine bK rfl (fun K hK=> ?_)
   go_simp
   obtain⟨gN,hgN⟩: ∃g,g=u2.heap.size:=⟨_,rfl⟩;obtain⟨u3,hw⟩: ∃W,W=u2.alloc (.cells #[.string ⟨#[95,105,100]⟩] 9):=⟨_,rfl⟩;have hst:Below u2.heap.size u2 u3:=by rw[hw];exact(Below.refl _ _).alloc (Nat.le_refl _) _
   have HGN:Hid (Kp wd u3 gN #[.string ⟨#[95,105,100]⟩] 9):=hid ⟨by rw[hw,hgN];exact heap_alloc_new u2 _,by rw[hgN];exact HB.out.size,by rw[hw,hgN];simp⟩;rw[←hw];rw[←hgN];clear hw hgN;refine hK _ _ (.inr (hst.mono HB.out.size)) ?_;clear hK K;replace HB:=hid (HB.out.trans (hst.mono HB.out.size));replace HGI:=hid (HGI.out.next hst);replace HGR:=hid (HGR.out.next hst);clear hst;refine bK rfl (fun K hK=> ?_)
   go_simp
   refine(HDC.out u3 gN gI HB.out HGN.out HGI.out).mono ?_;rintro e u4 ⟨v3,rfl,hdv,hst⟩;obtain⟨YA,yc,YA',yc',rfl,-⟩:=hdv.shape;have HDV:=hid hdv;clear hdv;refine hK _ _ (.inr (hst.mono HB.out.size)) ?_;clear hK K;replace HB:=hid (HB.out.trans (hst.mono HB.out.size));replace HGN:=hid (HGN.out.next hst);replace HGI:=hid (HGI.out.next hst);replace HGR:=hid (HGR.out.next hst);clear hst;refine bK rfl (fun K hK=> ?_)
   go_simp
   refine(HAP.out u4 _ HB.out HDV.out).mono ?_;rintro e u5 ⟨v5,A5,c5,rfl,hv5,-,-,-,hst⟩;obtain⟨R,hR⟩: ∃R,R=aW Y s:=⟨_,rfl⟩;rw[←hR]at hv5;rw[←hR];have HR:=hid hR;obtain⟨M,hM⟩: ∃M,M=R.2.1:=⟨_,rfl⟩;rw[←hM]at hv5;have HM:=hid hM;obtain⟨MA,mc,MA',mc',rfl,-⟩:=hv5.shape;have HV:Hid (LV u5 (fun b=>ba wd.heap.size u5 b∧b≠gR) M (.agg #[.int .i64 M.kind,.int .i64 M.num,.string M.text,.slice MA M.items.length mc,.slice MA' M.names.length mc'])):=hid (hv5.imp fun b hb=>⟨⟨Nat.le_trans HB.out.size hb.1,hb.2⟩,by have:=HGR.out.lt;have:=hb.1;omega⟩);clear hR hM hv5;refine hK _ _ (.inr (hst.mono HB.out.size)) ?_;clear hK K;replace HB:=hid (HB.out.trans (hst.mono HB.out.size));replace HGN:=hid (HGN.out.next hst);replace HGI:=hid (HGI.out.next hst);replace HGR:=hid (HGR.out.next hst);clear hst;clear HDV;refine eP ?_;refine bm ?_;simp only[atR];show wpQuiet _ _ _ _ [_,_,_,_] _;try simp only[acR,Act.put]
   repeat(go_big_quiet_step (fail))
   refine wpQuiet_nil ?_;refine aw rfl (fun K hK=> ?_);rw[if_pos (bd rfl)];refine bV 25 _ _ rfl rfl gR 0 rfl _ #[.int .i64 M.kind,.int .i64 M.num,.string M.text,.slice MA M.items.length mc,.slice MA' M.names.length mc'] rfl rfl _ #[.int .i64 M.kind,.int .i64 M.num,.string M.text,.slice MA M.items.length mc,.slice MA' M.names.length mc'] 25 HGR.out.cel (by simp) (by kernel_rfl) (by simp[Value.oneCell']) (by kernel_rfl) (fun w9 h9 ho9 hz9=> ?_);refine hK _ _ ?_;clear hK K;have HB9:Hid (Below wd.heap.size wd w9):=hid (aJ (Nat.le_refl _) HB.out ho9 hz9 HGR.out.lo);have HX9:Hid (Box w9 gR (.int .i64 M.kind) (.int .i64 M.num) (.string M.text) (.slice MA M.items.length mc) (.slice MA' M.names.length mc')):=hid h9;have HV9:Hid (LV w9 (fun b=>ba wd.heap.size w9 b) M (.agg #[.int .i64 M.kind,.int .i64 M.num,.string M.text,.slice MA M.items.length mc,.slice MA' M.names.length mc'])):=hid (HVK.out u5 w9 gR M _ HV.out ho9 hz9);clear h9 ho9 hz9 HB HV HGR;refine aw rfl (fun K hK=> ?_)
   go_simp
   refine hK _ _ ?_;clear hK K;refine aw rfl (fun K hK=> ?_)
   go_simp
   refine hK _ _ ?_;clear hK K;refine aX ?_
  rotate_left
 rotate_left 4
 focus
  go_simp
  obtain⟨gR,hgR⟩: ∃g,g=wd.heap.size:=⟨_,rfl⟩;obtain⟨u1,hw⟩: ∃W,W=wd.alloc (.cells #[.int .i64 0,.int .i64 0,.string ⟨#[]⟩,.slice none 0 0,.slice none 0 0] 25):=⟨_,rfl⟩;have hst:Below wd.heap.size wd u1:=by rw[hw];exact(Below.refl _ _).alloc (Nat.le_refl _) _
  have HGR:Hid (Kp wd u1 gR #[.int .i64 0,.int .i64 0,.string ⟨#[]⟩,.slice none 0 0,.slice none 0 0] 25):=hid ⟨by rw[hw,hgR];exact heap_alloc_new wd _,by rw[hgR];exact HB.out.size,by rw[hw,hgR];simp⟩;rw[←hw];rw[←hgR];clear hw hgR;refine hK _ _ (.inr (hst.mono HB.out.size)) ?_;clear hK K;replace HB:=hid (HB.out.trans (hst.mono HB.out.size));clear hst;refine gy rfl rfl (fun K hK=> ?_) (fun K hK=> ?_)
  focus
   go_simp
   obtain⟨gN,hgN⟩: ∃g,g=u1.heap.size:=⟨_,rfl⟩;obtain⟨u2,hw⟩: ∃W,W=u1.alloc (.cells #[.string ⟨#[95,105,100]⟩] 9):=⟨_,rfl⟩;have hst:Below u1.heap.size u1 u2:=by rw[hw];exact(Below.refl _ _).alloc (Nat.le_refl _) _
   have HGN:Hid (Kp wd u2 gN #[.string ⟨#[95,105,100]⟩] 9):=hid ⟨by rw[hw,hgN];exact heap_alloc_new u1 _,by rw[hgN];exact HB.out.size,by rw[hw,hgN];simp⟩;rw[←hw];rw[←hgN];clear hw hgN;refine hK _ _ (.inr (hst.mono HB.out.size)) ?_;clear hK K;replace HB:=hid (HB.out.trans (hst.mono HB.out.size));replace HGR:=hid (HGR.out.next hst);clear hst;refine bK rfl (fun K hK=> ?_)
   go_simp
   obtain⟨gI,hgI⟩: ∃g,g=u2.heap.size:=⟨_,rfl⟩;obtain⟨u3,hw⟩: ∃W,W=u2.alloc (.cells #[.int .i64 t.kind,.int .i64 t.num,.string t.text,.slice A0 t.items.length c0,.slice A0' t.names.length c0'] 25):=⟨_,rfl⟩;have hst:Below u2.heap.size u2 u3:=by rw[hw];exact(Below.refl _ _).alloc (Nat.le_refl _) _
   have HGI:Hid (Kp wd u3 gI #[.int .i64 t.kind,.int .i64 t.num,.string t.text,.slice A0 t.items.length c0,.slice A0' t.names.length c0'] 25):=hid ⟨by rw[hw,hgI];exact heap_alloc_new u2 _,by rw[hgI];exact HB.out.size,by rw[hw,hgI];simp⟩;rw[←hw];rw[←hgI];clear hw hgI;refine hK _ _ (.inr (hst.mono HB.out.size)) ?_;clear hK K;replace HB:=hid (HB.out.trans (hst.mono HB.out.size));replace HGN:=hid (HGN.out.next hst);replace HGR:=hid (HGR.out.next hst);clear hst;refine bK rfl (fun K hK=> ?_)
   go_simp
   refine(HDC.out u3 gN gI HB.out HGN.out HGI.out).mono ?_;rintro e u4 ⟨v3,rfl,hdv,hst⟩;obtain⟨YA,yc,YA',yc',rfl,-⟩:=hdv.shape;have HDV:=hid hdv;clear hdv;refine hK _ _ (.inr (hst.mono HB.out.size)) ?_;clear hK K;replace HB:=hid (HB.out.trans (hst.mono HB.out.size));replace HGN:=hid (HGN.out.next hst);replace HGI:=hid (HGI.out.next hst);replace HGR:=hid (HGR.out.next hst);clear hst;refine bK rfl (fun K hK=> ?_)
   go_simp
   refine(HAP.out u4 _ HB.out HDV.out).mono ?_;rintro e u5 ⟨v5,A5,c5,rfl,hv5,-,-,-,hst⟩;obtain⟨R,hR⟩: ∃R,R=aW Y s:=⟨_,rfl⟩;rw[←hR]at hv5;rw[←hR];have HR:=hid hR;obtain⟨M,hM⟩: ∃M,M=R.2.1:=⟨_,rfl⟩;rw[←hM]at hv5;have HM:=hid hM;obtain⟨MA,mc,MA',mc',rfl,-⟩:=hv5.shape;have HV:Hid (LV u5 (fun b=>ba wd.heap.size u5 b∧b≠gR) M (.agg #[.int .i64 M.kind,.int .i64 M.num,.string M.text,.slice MA M.items.length mc,.slice MA' M.names.length mc'])):=hid (hv5.imp fun b hb=>⟨⟨Nat.le_trans HB.out.size hb.1,hb.2⟩,by have:=HGR.out.lt;have:=hb.1;omega⟩);clear hR hM hv5;refine hK _ _ (.inr (hst.mono HB.out.size)) ?_;clear hK K;replace HB:=hid (HB.out.trans (hst.mono HB.out.size));replace HGN:=hid (HGN.out.next hst);replace HGI:=hid (HGI.out.next hst);replace HGR:=hid (HGR.out.next hst);clear hst;clear HDV;refine eP ?_;refine bm ?_;simp only[atR];show wpQuiet _ _ _ _ [_,_,_,_] _;try simp only[acR,Act.put]
   repeat(go_big_quiet_step (fail))
   refine wpQuiet_nil ?_;refine aw rfl (fun K hK=> ?_);rw[if_pos (bd rfl)];refine bV 25 _ _ rfl rfl gR 0 rfl _ #[.int .i64 M.kind,.int .i64 M.num,.string M.text,.slice MA M.items.length mc,.slice MA' M.names.length mc'] rfl rfl _ #[.int .i64 M.kind,.int .i64 M.num,.string M.text,.slice MA M.items.length mc,.slice MA' M.names.length mc'] 25 HGR.out.cel (by simp) (by kernel_rfl) (by simp[Value.oneCell']) (by kernel_rfl) (fun w9 h9 ho9 hz9=> ?_);refine hK _ _ ?_;clear hK K;have HB9:Hid (Below wd.heap.size wd w9):=hid (aJ (Nat.le_refl _) HB.out ho9 hz9 HGR.out.lo);have HX9:Hid (Box w9 gR (.int .i64 M.kind) (.int .i64 M.num) (.string M.text) (.slice MA M.items.length mc) (.slice MA' M.names.length mc')):=hid h9;have HV9:Hid (LV w9 (fun b=>ba wd.heap.size w9 b) M (.agg #[.int .i64 M.kind,.int .i64 M.num,.string M.text,.slice MA M.items.length mc,.slice MA' M.names.length mc'])):=hid (HVK.out u5 w9 gR M _ HV.out ho9 hz9);clear h9 ho9 hz9 HB HV HGR;refine aw rfl (fun K hK=> ?_)
   go_simp
   refine hK _ _ ?_;clear hK K;refine aw rfl (fun K hK=> ?_)
   go_simp
   refine hK _ _ ?_;clear hK K;refine aX ?_
  rotate_left
  focus
   go_simp
   obtain⟨gI,hgI⟩: ∃g,g=u1.heap.size:=⟨_,rfl⟩;obtain⟨u2,hw⟩: ∃W,W=u1.alloc (.cells #[.int .i64 t.kind,.int .i64 t.num,.string t.text,.slice A0 t.items.length c0,.slice A0' t.names.length c0'] 25):=⟨_,rfl⟩;have hst:Below u1.heap.size u1 u2:=by rw[hw];exact(Below.refl _ _).alloc (Nat.le_refl _) _
   have HGI:Hid (Kp wd u2 gI #[.int .i64 t.kind,.int .i64 t.num,.string t.text,.slice A0 t.items.length c0,.slice A0' t.names.length c0'] 25):=hid ⟨by rw[hw,hgI];exact heap_alloc_new u1 _,by rw[hgI];exact HB.out.size,by rw[hw,hgI];simp⟩;rw[←hw];rw[←hgI];clear hw hgI;refine hK _ _ (.inr (hst.mono HB.out.size)) ?_;clear hK K;replace HB:=hid (HB.out.trans (hst.mono HB.out.size));replace HGR:=hid (HGR.out.next hst);clear hst;refine bK rfl (fun K hK=> ?_)
   go_simp
   obtain⟨gN,hgN⟩: ∃g,g=u2.heap.size:=⟨_,rfl⟩;obtain⟨u3,hw⟩: ∃W,W=u2.alloc (.cells #[.string ⟨#[95,105,100]⟩] 9):=⟨_,rfl⟩;have hst:Below u2.heap.size u2 u3:=by rw[hw];exact(Below.refl _ _).alloc (Nat.le_refl _) _
   have HGN:Hid (Kp wd u3 gN #[.string ⟨#[95,105,100]⟩] 9):=hid ⟨by rw[hw,hgN];exact heap_alloc_new u2 _,by rw[hgN];exact HB.out.size,by rw[hw,hgN];simp⟩;rw[←hw];rw[←hgN];clear hw hgN;refine hK _ _ (.inr (hst.mono HB.out.size)) ?_;clear hK K;replace HB:=hid (HB.out.trans (hst.mono HB.out.size));replace HGI:=hid (HGI.out.next hst);replace HGR:=hid (HGR.out.next hst);clear hst;refine bK rfl (fun K hK=> ?_)
   go_simp
   refine(HDC.out u3 gN gI HB.out HGN.out HGI.out).mono ?_;rintro e u4 ⟨v3,rfl,hdv,hst⟩;obtain⟨YA,yc,YA',yc',rfl,-⟩:=hdv.shape;have HDV:=hid hdv;clear hdv;refine hK _ _ (.inr (hst.mono HB.out.size)) ?_;clear hK K;replace HB:=hid (HB.out.trans (hst.mono HB.out.size));replace HGN:=hid (HGN.out.next hst);replace HGI:=hid (HGI.out.next hst);replace HGR:=hid (HGR.out.next hst);clear hst;refine bK rfl (fun K hK=> ?_)
   go_simp
   refine(HAP.out u4 _ HB.out HDV.out).mono ?_;rintro e u5 ⟨v5,A5,c5,rfl,hv5,-,-,-,hst⟩;obtain⟨R,hR⟩: ∃R,R=aW Y s:=⟨_,rfl⟩;rw[←hR]at hv5;rw[←hR];have HR:=hid hR;obtain⟨M,hM⟩: ∃M,M=R.2.1:=⟨_,rfl⟩;rw[←hM]at hv5;have HM:=hid hM;obtain⟨MA,mc,MA',mc',rfl,-⟩:=hv5.shape;have HV:Hid (LV u5 (fun b=>ba wd.heap.size u5 b∧b≠gR) M (.agg #[.int .i64 M.kind,.int .i64 M.num,.string M.text,.slice MA M.items.length mc,.slice MA' M.names.length mc'])):=hid (hv5.imp fun b hb=>⟨⟨Nat.le_trans HB.out.size hb.1,hb.2⟩,by have:=HGR.out.lt;have:=hb.1;omega⟩);clear hR hM hv5;refine hK _ _ (.inr (hst.mono HB.out.size)) ?_;clear hK K;replace HB:=hid (HB.out.trans (hst.mono HB.out.size));replace HGN:=hid (HGN.out.next hst);replace HGI:=hid (HGI.out.next hst);replace HGR:=hid (HGR.out.next hst);clear hst;clear HDV;refine eP ?_;refine bm ?_;simp only[atR];show wpQuiet _ _ _ _ [_,_,_,_] _;try simp only[acR,Act.put]
   repeat(go_big_quiet_step (fail))
   refine wpQuiet_nil ?_;refine aw rfl (fun K hK=> ?_);rw[if_pos (bd rfl)];refine bV 25 _ _ rfl rfl gR 0 rfl _ #[.int .i64 M.kind,.int .i64 M.num,.string M.text,.slice MA M.items.length mc,.slice MA' M.names.length mc'] rfl rfl _ #[.int .i64 M.kind,.int .i64 M.num,.string M.text,.slice MA M.items.length mc,.slice MA' M.names.length mc'] 25 HGR.out.cel (by simp) (by kernel_rfl) (by simp[Value.oneCell']) (by kernel_rfl) (fun w9 h9 ho9 hz9=> ?_);refine hK _ _ ?_;clear hK K;have HB9:Hid (Below wd.heap.size wd w9):=hid (aJ (Nat.le_refl _) HB.out ho9 hz9 HGR.out.lo);have HX9:Hid (Box w9 gR (.int .i64 M.kind) (.int .i64 M.num) (.string M.text) (.slice MA M.items.length mc) (.slice MA' M.names.length mc')):=hid h9;have HV9:Hid (LV w9 (fun b=>ba wd.heap.size w9 b) M (.agg #[.int .i64 M.kind,.int .i64 M.num,.string M.text,.slice MA M.items.length mc,.slice MA' M.names.length mc'])):=hid (HVK.out u5 w9 gR M _ HV.out ho9 hz9);clear h9 ho9 hz9 HB HV HGR;refine aw rfl (fun K hK=> ?_)
   go_simp
   refine hK _ _ ?_;clear hK K;refine aw rfl (fun K hK=> ?_)
   go_simp
   refine hK _ _ ?_;clear hK K;refine aX ?_
  rotate_left
 rotate_left 2
 all_goals
  have HRB9:=hid ((HB9.out.block _ (by have:=HZD.out;omega)).trans HBX.out.2.2);have x0:=HX9.out.c0;have x1:=HX9.out.c1;have x2:=HX9.out.c2;have x3:=HX9.out.c3;have x4:=HX9.out.c4;go_wp2_with(refine aS (by rfl) 25 _ _ rfl rfl (w.heap.size+2) 0 rfl _ #[.int .i64 M.kind,.int .i64 M.num,.string M.text,.slice MA M.items.length mc,.slice MA' M.names.length mc'] rfl rfl _ #[.int .i64 M.kind,.int .i64 M.num,.string M.text,.slice MA M.items.length mc,.slice MA' M.names.length mc'] 25 HRB9.out (by simp) (by kernel_rfl) (by simp[Value.oneCell']) (by kernel_rfl) ?_;intro w10 hk ho hz;have HK10:=hid hk;have HO10:=hid (And.intro ho hz);clear hk ho hz);refine bodyPost_ret (aq rfl _ _ (w.heap.size+2) 25 _ (0,0) rfl HK10.out (by kernel_rfl)) rfl ?_;rw[←HYY.out,←HR.out];refine⟨_,rfl,?_,aJ (Nat.le_refl _) (HW.out w9 HB9.out).2.2.2.2.2 HO10.out.1 HO10.out.2 (by omega)⟩;rw[←HM.out];exact(HV9.out.keep (cr HO10.out.1 (S:=fun b=>ba wd.heap.size w9 b) fun b hb=>⟨hb.2,by have:=hb.1;have:=HZD.out;omega⟩)).imp fun b hb=>⟨by have:=hb.1;have:=HZD.out;omega,by rw[HO10.out.2];exact hb.2⟩
def ne :VT:= .mk 7 0 ⟨#[]⟩ [.mk 3 1 ⟨#[]⟩ [] []] [⟨#[95,105,100]⟩]
def xV :VT:= .mk 4 0 ⟨#[120]⟩ [] []
def lN :ByteArray:=⟨#[108]⟩
def lH :bg:=⟨false,aT,[⟨4,[lN],xV,[]⟩]⟩
def v8 :VT:= .mk 7 0 ⟨#[]⟩ [.mk 3 1 ⟨#[]⟩ [] [],.mk 6 0 ⟨#[]⟩ [xV] []] [⟨#[95,105,100]⟩,lN]
def w8 :VT:= .mk 7 0 ⟨#[]⟩ [.mk 3 1 ⟨#[]⟩ [] [],.mk 6 0 ⟨#[]⟩ [xV,xV] []] [⟨#[95,105,100]⟩,lN]
theorem qG :aW ne lH=(0,v8,[⟨1,[lN],.mk 6 0 ⟨#[]⟩ [xV] [],0⟩]):=by kernel_rfl
theorem xy :aW v8 lH=(0,w8,[⟨1,[lN,⟨#[49]⟩],xV,0⟩]):=by kernel_rfl
theorem yw :ay ne ⟨false,aT,[]⟩=(72,[]):=by kernel_rfl
theorem ym :aV w8 [lN,⟨#[49]⟩]=some xV:=by kernel_rfl
end Go.Proofs.YtgbopnlpaabelaaGreatDoor
