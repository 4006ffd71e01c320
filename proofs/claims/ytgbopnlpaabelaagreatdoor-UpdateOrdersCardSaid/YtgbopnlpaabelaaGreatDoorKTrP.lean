/- What put does where something lies. -/
import Derived.Test.YtgbopnlpaabelaaGreatDoorKDlD
set_option maxHeartbeats 64000000
set_option maxRecDepth 100000
set_option linter.unusedVariables false
set_option linter.unusedSimpArgs false
namespace Go.Proofs.YtgbopnlpaabelaaGreatDoor
open Lib (hid)
open Go.RowKit
theorem vo (F:Nat→Prop)(t u:VT)(g o:Nat)(j:Nat)(hj:j<t.items.length)(rest:Value)(w w1:World)(B:Option Addr)(k:Nat)(B':Option Addr)(k':Nat)(h:OAt w F t g o)(hb1:Below w.heap.size w w1)
  (hu:OV w1 (Iv w.heap.size w1.heap.size) u (.agg #[.int .i64 u.kind,.int .i64 u.num,.string u.text,.slice B u.items.length k,.slice B' u.names.length k'])):
  Calls Tryz.prog 129 #[.agg #[.pointer (some ⟨g,o,none⟩),.int .i64 j,rest],.agg #[.int .i64 u.kind,.int .i64 u.num,.string u.text,.slice B u.items.length k,.slice B' u.names.length k']] w1 (cn F g o w (0,bS t j u)):=by
 have hneg:decide (0≤(j:Int))=true:=decide_eq_true (by omega);obtain⟨A,cA,A',cA',hat⟩:=(h.keep hb1).at;have hlen:=hat.names.2.2;have hgl:=(h.keep hb1).lt;have hgl0:=h.lt;obtain⟨G,⟨cp,hc3⟩,hFG,⟨C,ty,hG,hGs⟩,hst⟩:=h.store hj
 have hgG:g≠G:=by
  obtain⟨_,_,_,_,_,_,_,_,_,_,_,_,_,hn,_⟩:=h;exact fun e=>hn (e▸hFG)
 have HST:=hid hst;have hGl:=(Array.getElem?_eq_some_iff.1 hG).1;have hGl1:=Nat.lt_of_lt_of_le hGl hb1.size;have hc31:=(World.cell?_of_block (a:=⟨g,o+3,none⟩) (hb1.block g hgl0)).trans hc3;have hG1:=(hb1.block G hGl).trans hG;have HB1:=hid hb1;have HU:=hid hu;have hz1:=hb1.size;clear h hat hst hb1 hu hc3 hG;go_enter Tryz.func129,Tryz.ntmps129;go_wp2_with fail;refine av (aj G G) (aj.refl _ _) (aj.trans _ _) [] (.pure [0,1,2,3,4,5,6,7] (.step 8 (.step 9 (.tail [])))) (by kernel_rfl) (by kernel_rfl) (fun _ d _ _ _ h=>by cases d<;>exact h) ?_;have hza:(w1.alloc (.cells #[.pointer (some ⟨g,o,none⟩),.int .i64 j,rest] 108)).heap.size=w1.heap.size+1:=by simp
 have hz0:((w1.alloc (.cells #[.pointer (some ⟨g,o,none⟩),.int .i64 j,rest] 108)).alloc (.cells #[.int .i64 u.kind,.int .i64 u.num,.string u.text,.slice B u.items.length k,.slice B' u.names.length k'] 25)).drew.heap.size=w1.heap.size+2:=by simp
 have hb0:Below w1.heap.size w1 ((w1.alloc (.cells #[.pointer (some ⟨g,o,none⟩),.int .i64 j,rest] 108)).alloc (.cells #[.int .i64 u.kind,.int .i64 u.num,.string u.text,.slice B u.items.length k,.slice B' u.names.length k'] 25)).drew:=((ae _).alloc (by simp) _).drew;have hs:((w1.alloc (.cells #[.pointer (some ⟨g,o,none⟩),.int .i64 j,rest] 108)).alloc (.cells #[.int .i64 u.kind,.int .i64 u.num,.string u.text,.slice B u.items.length k,.slice B' u.names.length k'] 25)).drew.heap[w1.heap.size]? =some (.cells #[.pointer (some ⟨g,o,none⟩),.int .i64 j,rest] 108 (0,0)):=(Below.heap_alloc (w1.alloc (.cells #[.pointer (some ⟨g,o,none⟩),.int .i64 j,rest] 108)) _ w1.heap.size (by omega)).trans (heap_alloc_new w1 _)
 have hx:Box ((w1.alloc (.cells #[.pointer (some ⟨g,o,none⟩),.int .i64 j,rest] 108)).alloc (.cells #[.int .i64 u.kind,.int .i64 u.num,.string u.text,.slice B u.items.length k,.slice B' u.names.length k'] 25)).drew (w1.heap.size+1) (.int .i64 u.kind) (.int .i64 u.num) (.string u.text) (.slice B u.items.length k) (.slice B' u.names.length k'):=by
  have:=Box.new (w:=(w1.alloc (.cells #[.pointer (some ⟨g,o,none⟩),.int .i64 j,rest] 108))) (.int .i64 u.kind) (.int .i64 u.num) (.string u.text) (.slice B u.items.length k) (.slice B' u.names.length k');rw[hza]at this;exact this
 generalize ((w1.alloc (.cells #[.pointer (some ⟨g,o,none⟩),.int .i64 j,rest] 108)).alloc (.cells #[.int .i64 u.kind,.int .i64 u.num,.string u.text,.slice B u.items.length k,.slice B' u.names.length k'] 25)).drew=w0 at *;have s0: ∀p:af (aj G G) w0,p.u.cell? ⟨w1.heap.size,0,none⟩=some (.pointer (some ⟨g,o,none⟩)):=fun p=>(World.cell?_of_block (a:=⟨w1.heap.size,0,none⟩) (p.h.2 w1.heap.size (by omega) (by omega) (by omega))).trans (Go.Joins.cell_of_block hs 0);have s1: ∀p:af (aj G G) w0,p.u.cell? ⟨w1.heap.size,1,none⟩=some (.int .i64 j):=fun p=>(World.cell?_of_block (a:=⟨w1.heap.size,1,none⟩) (p.h.2 w1.heap.size (by omega) (by omega) (by omega))).trans (Go.Joins.cell_of_block hs 1);have q3: ∀p:af (aj G G) w0,p.u.cell? ⟨g,o+3,none⟩=some (.slice (some ⟨G,0,none⟩) t.items.length cp):=fun p=>(World.cell?_of_block (a:=⟨g,o+3,none⟩) (p.h.2 g (by omega) hgG hgG)).trans ((World.cell?_of_block (a:=⟨g,o+3,none⟩) (hb0.block g hgl)).trans hc31);have kx: ∀(p:af (aj G G) w0) (i:Nat),p.u.cell? ⟨w1.heap.size+1,i,none⟩=w0.cell? ⟨w1.heap.size+1,i,none⟩:=fun p i=>World.cell?_of_block (a:=⟨w1.heap.size+1,i,none⟩) (p.h.2 (w1.heap.size+1) (by omega) (by omega) (by omega));have y0:=fun p:af (aj G G) w0=>(kx p 0).trans hx.c0;have y1:=fun p:af (aj G G) w0=>(kx p 1).trans hx.c1;have y2:=fun p:af (aj G G) w0=>(kx p 2).trans hx.c2;have y3:=fun p:af (aj G G) w0=>(kx p 3).trans hx.c3;have y4:=fun p:af (aj G G) w0=>(kx p 4).trans hx.c4;have hG0:=(hb0.block G hGl1).trans hG1;have HFIN:=hid (HST.out w0 (Iv w.heap.size w1.heap.size) u B k B' k' (HB1.out.trans (hb0.mono hz1)) (HU.out.keep fun b hb=>hb0.block b hb.2) (fun b hb=>⟨hb.1,by have:=hb.2;omega⟩))
 have x0:=(Go.Joins.cell_of_block hG0 (j * 5)).trans (Array.getElem?_eq_getElem (show j * 5<C.size by omega));have x1:=(Go.Joins.cell_of_block hG0 (j * 5+1)).trans (Array.getElem?_eq_getElem (show j * 5+1<C.size by omega));have x2:=(Go.Joins.cell_of_block hG0 (j * 5+2)).trans (Array.getElem?_eq_getElem (show j * 5+2<C.size by omega));have x3:=(Go.Joins.cell_of_block hG0 (j * 5+3)).trans (Array.getElem?_eq_getElem (show j * 5+3<C.size by omega));have x4:=(Go.Joins.cell_of_block hG0 (j * 5+4)).trans (Array.getElem?_eq_getElem (show j * 5+4<C.size by omega));have xf:=fun i=>Go.Joins.unfrozen_of_block hG0 i;have h5:=bE w0 G (j * 5) (.int .i64 u.kind) (.int .i64 u.num) (.string u.text) (.slice B u.items.length k) (.slice B' u.names.length k');have hz5:=bQ w0 G (j * 5) (.int .i64 u.kind) (.int .i64 u.num) (.string u.text) (.slice B u.items.length k) (.slice B' u.names.length k');clear hs hb0 hc31 HST hG0 hx kx hza HB1 HU hG1;refine bN ?_;simp only[atR];show wpQuiet _ _ _ _ [_,_,_,_,_,_,_,_] _;try simp only[acR,Act.put]
 repeat(go_big_quiet_step (fail))
 refine wpQuiet_nil ?_;clear s0 s1 q3 y0 y1 y2 y3 y4;refine ah rfl (fun K hK=> ?_)
 go_simp
 refine hK _ _ (.inr (aj.refl _ _ _)) ?_;clear hK K;refine ah rfl (fun K hK=> ?_)
 go_simp
 refine hK _ (cH w0 G (j * 5) (.int .i64 u.kind) (.int .i64 u.num) (.string u.text) (.slice B u.items.length k) (.slice B' u.names.length k')) (.inr ⟨by omega,fun b hb hg hh=>h5 b hg⟩) ?_;clear hK K x0 x1 x2 x3 x4 xf h5 hz5;generalize cH w0 G (j * 5) (.int .i64 u.kind) (.int .i64 u.num) (.string u.text) (.slice B u.items.length k) (.slice B' u.names.length k')=w6 at *;refine aX ?_;go_wp2_with fail;go_ret;exact⟨rfl,HFIN.out⟩
def ka :VT:= .mk 1 0 ⟨#[]⟩ [] []
theorem tQ (F:Nat→Prop)(t:VT)(g o:Nat)(P:Int)(hP:P<0)(rest:Value)(w:World)(h:OAt w F t g o):
  Calls Tryz.prog 131 #[.agg #[.pointer (some ⟨g,o,none⟩),.int .i64 P,rest]] w fun e w'=>e= .returned (.tuple #[])∧ ∃F',Own F w F'∧OAt w' F' t g o∧Mut F g o w w':=by
 have hneg:decide (P<0)=true:=decide_eq_true hP;have hb:Below w.heap.size w (w.alloc (.cells #[.pointer (some ⟨g,o,none⟩),.int .i64 P,rest] 108)):=ae _
 have hfin: ∃F',Own F w F'∧OAt (w.alloc (.cells #[.pointer (some ⟨g,o,none⟩),.int .i64 P,rest] 108)) F' t g o∧Mut F g o w (w.alloc (.cells #[.pointer (some ⟨g,o,none⟩),.int .i64 P,rest] 108)):=
  ⟨F,fun _=> .inl,h.keep hb,hb.size,fun b hb1 _ _=>hb.block b hb1,fun C ty fz hC=>⟨C,(hb.block g h.lt).trans hC,rfl,fun _ _=>rfl⟩,hb.os,hb.tape,hb.output⟩
 have HFIN:=hid hfin;clear h hb hfin;go_enter Tryz.func131,Tryz.ntmps131;go_wp2_with fail
 go_end0
 exact⟨rfl,HFIN.out⟩
theorem un (F:Nat→Prop)(t:VT)(g o:Nat)(j:Nat)(hj:j<t.items.length)(hk:t.kind≠7)(rest:Value)(w:World)(h:OAt w F t g o):
  Calls Tryz.prog 131 #[.agg #[.pointer (some ⟨g,o,none⟩),.int .i64 j,rest]] w fun e w'=>e= .returned (.tuple #[])∧ ∃F',Own F w F'∧OAt w' F' (bS t j ka) g o∧Mut F g o w w':=by
 have hneg:decide ((j:Int)<0)=false:=decide_eq_false (by omega);obtain⟨A,cA,A',cA',hat⟩:=h.at;have hlen:=hat.names.2.2;have hgl:=h.lt;obtain⟨G,⟨cp,hc3⟩,hFG,⟨C,ty,hG,hGs⟩,hst⟩:=h.store hj
 have hgG:g≠G:=by
  obtain⟨_,_,_,_,_,_,_,_,_,_,_,_,_,hn,_⟩:=h;exact fun e=>hn (e▸hFG)
 have hc0:=hat.c0;obtain⟨k,hkk⟩: ∃k,k=t.kind:=⟨_,rfl⟩;rw[←hkk]at hc0 hk;have hk7:(k == 7)=false:=beq_false_of_ne hk;have HST:=hid hst;have hGl:=(Array.getElem?_eq_some_iff.1 hG).1;clear h hat hst hkk;go_enter Tryz.func131,Tryz.ntmps131;go_wp2_with fail;refine av (aj G G) (aj.refl _ _) (aj.trans _ _) [] (.pure [0,1,2,3,4,5,6] (.step 7 (.step 8 (.step 9 (.tail []))))) (by kernel_rfl) (by kernel_rfl) (fun _ d _ _ _ h=>by cases d<;>exact h) ?_;have hz0:(w.alloc (.cells #[.pointer (some ⟨g,o,none⟩),.int .i64 j,rest] 108)).drew.heap.size=w.heap.size+1:=by simp
 have hb0:Below w.heap.size w (w.alloc (.cells #[.pointer (some ⟨g,o,none⟩),.int .i64 j,rest] 108)).drew:=(ae _).drew;have hs:(w.alloc (.cells #[.pointer (some ⟨g,o,none⟩),.int .i64 j,rest] 108)).drew.heap[w.heap.size]? =some (.cells #[.pointer (some ⟨g,o,none⟩),.int .i64 j,rest] 108 (0,0)):=heap_alloc_new w _;generalize (w.alloc (.cells #[.pointer (some ⟨g,o,none⟩),.int .i64 j,rest] 108)).drew=w0 at *;have s0: ∀p:af (aj G G) w0,p.u.cell? ⟨w.heap.size,0,none⟩=some (.pointer (some ⟨g,o,none⟩)):=fun p=>(World.cell?_of_block (a:=⟨w.heap.size,0,none⟩) (p.h.2 w.heap.size (by omega) (by omega) (by omega))).trans (Go.Joins.cell_of_block hs 0);have s1: ∀p:af (aj G G) w0,p.u.cell? ⟨w.heap.size,1,none⟩=some (.int .i64 j):=fun p=>(World.cell?_of_block (a:=⟨w.heap.size,1,none⟩) (p.h.2 w.heap.size (by omega) (by omega) (by omega))).trans (Go.Joins.cell_of_block hs 1);have q3: ∀p:af (aj G G) w0,p.u.cell? ⟨g,o+3,none⟩=some (.slice (some ⟨G,0,none⟩) t.items.length cp):=fun p=>(World.cell?_of_block (a:=⟨g,o+3,none⟩) (p.h.2 g (by omega) hgG hgG)).trans ((World.cell?_of_block (a:=⟨g,o+3,none⟩) (hb0.block g hgl)).trans hc3);have hG0:=(hb0.block G hGl).trans hG;have HFIN:=hid (HST.out w0 (fun _=>False) ka none 0 none 0 hb0 (Au _ _ 1 0 ⟨#[]⟩ (by unfold Rng;omega) (by unfold Rng;omega) (by decide)) (fun _ h=>h.elim));have x0:=(Go.Joins.cell_of_block hG0 (j * 5)).trans (Array.getElem?_eq_getElem (show j * 5<C.size by omega));have x1:=(Go.Joins.cell_of_block hG0 (j * 5+1)).trans (Array.getElem?_eq_getElem (show j * 5+1<C.size by omega))
 have x2:=(Go.Joins.cell_of_block hG0 (j * 5+2)).trans (Array.getElem?_eq_getElem (show j * 5+2<C.size by omega));have x3:=(Go.Joins.cell_of_block hG0 (j * 5+3)).trans (Array.getElem?_eq_getElem (show j * 5+3<C.size by omega));have x4:=(Go.Joins.cell_of_block hG0 (j * 5+4)).trans (Array.getElem?_eq_getElem (show j * 5+4<C.size by omega));have xf:=fun i=>Go.Joins.unfrozen_of_block hG0 i;have h5:=bE w0 G (j * 5) (.int .i64 1) (.int .i64 0) (.string ⟨#[]⟩) (.slice none 0 0) (.slice none 0 0);have hz5:=bQ w0 G (j * 5) (.int .i64 1) (.int .i64 0) (.string ⟨#[]⟩) (.slice none 0 0) (.slice none 0 0);clear hs hb0 hc3 HST hG0;refine bN ?_;simp only[atR];show wpQuiet _ _ _ _ [_,_,_,_,_,_,_] _;try simp only[acR,Act.put]
 repeat(go_big_quiet_step (fail))
 refine wpQuiet_nil ?_;clear s0 s1 q3;refine ah rfl (fun K hK=> ?_)
 go_simp
 refine hK _ _ (.inr (aj.refl _ _ _)) ?_;clear hK K;refine ah rfl (fun K hK=> ?_)
 go_simp
 refine hK _ _ (.inr (aj.refl _ _ _)) ?_;clear hK K;refine ah rfl (fun K hK=> ?_)
 go_simp
 refine hK _ (cH w0 G (j * 5) (.int .i64 1) (.int .i64 0) (.string ⟨#[]⟩) (.slice none 0 0) (.slice none 0 0)) (.inr ⟨by omega,fun b hb hg hh=>h5 b hg⟩) ?_;clear hK K x0 x1 x2 x3 x4 xf h5 hz5;change Hid (∃F',Own F w F'∧OAt (cH w0 G (j * 5) (.int .i64 1) (.int .i64 0) (.string ⟨#[]⟩) (.slice none 0 0) (.slice none 0 0)) F' (bS t j ka) g o∧Mut F g o w (cH w0 G (j * 5) (.int .i64 1) (.int .i64 0) (.string ⟨#[]⟩) (.slice none 0 0) (.slice none 0 0)))at HFIN;generalize cH w0 G (j * 5) (.int .i64 1) (.int .i64 0) (.string ⟨#[]⟩) (.slice none 0 0) (.slice none 0 0)=w6 at *;refine aX ?_;go_wp2_with fail
 go_end0
 exact⟨rfl,HFIN.out⟩
theorem fX {b:Nat}: ∀(vs:List Value) (o:Nat) (w:World),(∀x,x≠b→(w.setCells b o vs).heap[x]? =w.heap[x]?)∧(w.setCells b o vs).heap.size=w.heap.size∧(w.setCells b o vs).os=w.os∧(w.setCells b o vs).tape=w.tape∧(w.setCells b o vs).output=w.output
 | [],o,w=>⟨fun _ _=>rfl,rfl,rfl,rfl,rfl⟩
 |v::r,o,w=>by
  obtain⟨h1,h2,h3,h4,h5⟩:=fX r (o+1) (w.setCell ⟨b,o,none⟩ v);refine⟨fun x hx=>(h1 x hx).trans (heap_setCell_other _ ⟨b,o,none⟩ x _ hx),h2.trans (by simp),h3,h4,h5⟩
def BM (ty:TypeId)(w w':World)(G:Nat)(sz:Nat)(xs:List Value):Prop:= ∃C':Array Value,w'.heap[G]? =some (.cells C' ty (0,0))∧C'.size=sz∧C'.toList.take xs.length=xs∧(∀b,b≠G→w'.heap[b]? =w.heap[b]?)∧w'.heap.size=w.heap.size∧w'.os=w.os∧w'.tape=w.tape∧w'.output=w.output
theorem pQ {w:World}{G:Nat}{ty:TypeId}{C:Array Value}(h:w.heap[G]? =some (.cells C ty (0,0)))(a z:Nat)(news zs:List Value)(hz:z=a+news.length)(hl:a+news.length+zs.length≤C.size):
  BM ty w ((w.drew.setCells G a news).setCells G z zs) G C.size (C.toList.take a++news):=by
 subst hz;obtain⟨C1,h1,s1,k1⟩:=ek (w:=w.drew) news a C h (by omega);obtain⟨C2,h2,s2,k2⟩:=ek zs (a+news.length) C1 h1 (by omega);obtain⟨p1,p2,p3,p4,p5⟩:=fX (b:=G) news a w.drew;obtain⟨q1,q2,q3,q4,q5⟩:=fX (b:=G) zs (a+news.length) (w.drew.setCells G a news);refine⟨C2,h2,s2.trans s1,?_,fun b hb=>(q1 b hb).trans (p1 b hb),q2.trans p2,q3.trans p3,q4.trans p4,q5.trans p5⟩;have hta:(C.toList.take a).length=a:=by rw[List.length_take,Array.length_toList];omega
 apply List.ext_getElem?;intro m;rw[List.length_append,hta];by_cases hm:m<a+news.length
 ·rw[List.getElem?_take_of_lt hm,Array.getElem?_toList,k2 m,if_neg (by omega),k1 m];by_cases hma:m<a
  ·rw[if_neg (by omega),List.getElem?_append_left (by omega),List.getElem?_take_of_lt hma,Array.getElem?_toList]
  ·rw[if_pos (by omega),List.getElem?_append_right (by omega),hta]
 ·rw[List.getElem?_eq_none (by rw[List.length_take];omega),List.getElem?_eq_none (by rw[List.length_append];omega)]
theorem OV.one {w:World}{F:Nat→Prop}{t:VT}{c0 c1 c2 c3 c4:Value}(h:OV w F t (.agg #[c0,c1,c2,c3,c4])):c0.oneCell'=true∧c1.oneCell'=true∧c2.oneCell'=true∧c3.oneCell'=true∧c4.oneCell'=true:=by
 obtain⟨A,c,A',c',xs,hag,-⟩:=h.shape;injection hag with hag;injection hag with hag
 injection hag with z0 hag;injection hag with z1 hag;injection hag with z2 hag;injection hag with z3 hag;injection hag with z4 hag
 subst z0 z1 z2 z3 z4;exact⟨rfl,rfl,rfl,rfl,rfl⟩
theorem OVs.one {w:World}: ∀ {l:List VT} {F:Nat→Prop} {xs:List Value},OVs w F l xs→ ∀v∈xs,v.oneCell'=true
 | [],F,xs,h,v,hv=>by unfold OVs at h;subst h;cases hv
 |t::r,F,xs,h,v,hv=>by
  unfold OVs at h;obtain⟨c0,c1,c2,c3,c4,ys,F1,F2,rfl,h1,h2,-⟩:=h;obtain⟨e0,e1,e2,e3,e4⟩:=h1.one;simp only[List.mem_cons]at hv;rcases hv with rfl|rfl|rfl|rfl|rfl|hv
  ·exact e0
  ·exact e1
  ·exact e2
  ·exact e3
  ·exact e4
  ·exact OVs.one h2 v hv
theorem OVs.erase {w:World}: ∀ {l:List VT} {F:Nat→Prop} {xs:List Value} (j:Nat),OVs w F l xs→j<l.length→OVs w F (l.eraseIdx j) (xs.take (j * 5)++(xs.drop ((j+1) * 5)))
 | [],F,xs,j,h,hj=>absurd hj (by simp)
 |t::r,F,xs,0,h,hj=>by
  unfold OVs at h;obtain⟨c0,c1,c2,c3,c4,ys,F1,F2,rfl,h1,h2,h3,h4,h5⟩:=h;simp only[Nat.zero_mul,List.take_zero,List.nil_append,List.eraseIdx_zero,List.tail_cons,Nat.zero_add,Nat.one_mul,List.drop_succ_cons,List.drop_zero]
  exact h2.imp h4
 |t::r,F,xs,j+1,h,hj=>by
  unfold OVs at h;obtain⟨c0,c1,c2,c3,c4,ys,F1,F2,rfl,h1,h2,h3,h4,h5⟩:=h;have:=OVs.erase j h2 (by simpa using hj);rw[show(j+1) * 5=j * 5+5 by omega]at this;rw[show(j+1) * 5=j * 5+5 by omega,show(j+1+1) * 5=j * 5+5+5 by omega];simp only[List.eraseIdx_cons_succ,List.take_succ_cons,List.drop_succ_cons,List.cons_append];unfold OVs;exact⟨c0,c1,c2,c3,c4,_,F1,F2,rfl,h1,this,h3,h4,h5⟩
theorem OVs.front {w:World}: ∀ {l:List VT} {F:Nat→Prop} {xs:List Value} (n:Nat),OVs w F l xs→n≤l.length→OVs w F (l.take n) (xs.take (n * 5))
 |l,F,xs,0,h,hn=>by simp only[Nat.zero_mul,List.take_zero];exact jG _ _
 | [],F,xs,n+1,h,hj=>absurd hj (by simp)
 |t::r,F,xs,n+1,h,hj=>by
  unfold OVs at h;obtain⟨c0,c1,c2,c3,c4,ys,F1,F2,rfl,h1,h2,h3,h4,h5⟩:=h;have:=OVs.front n h2 (by simpa using hj);rw[show(n+1) * 5=n * 5+5 by omega];simp only[List.take_succ_cons];unfold OVs;exact⟨c0,c1,c2,c3,c4,_,F1,F2,rfl,h1,this,h3,h4,h5⟩
theorem wE (ns:List ByteArray)(j:Nat):(ns.eraseIdx j).map Value.string=(ns.map Value.string).take j++(ns.map Value.string).drop (j+1):=by
 rw[List.eraseIdx_eq_take_drop_succ,List.map_append,List.map_take,List.map_drop]
def nZ :VT→Nat→VT
 | .mk k i s l ns,j=> .mk k i s (l.eraseIdx j) (ns.eraseIdx j)
def nQ :VT→Nat→VT
 | .mk k i s l ns,n=> .mk k i s (l.take n) ns
theorem ve (F:Nat→Prop)(t:VT)(g o:Nat)(j:Nat)(hj:j<t.items.length)(hk:t.kind=7)(hnl:t.names.length=t.items.length)(rest:Value)(w:World)(h:OAt w F t g o):
  Calls Tryz.prog 131 #[.agg #[.pointer (some ⟨g,o,none⟩),.int .i64 j,rest]] w fun e w'=>e= .returned (.tuple #[])∧ ∃F',Own F w F'∧OAt w' F' (nZ t j) g o∧Mut F g o w w':=by
 have hneg:decide ((j:Int)<0)=false:=decide_eq_false (by omega);have hgl:=h.lt;obtain⟨C,ty,A,c,A',c',hg,g0,g1,g2,g3,g4,hv,hFg,hlt⟩:=h
 cases t with
 |mk k i s l ns=>
 simp only[VT.kind,VT.num,VT.text,VT.items,VT.names]at *;subst hk;unfold OV at hv;obtain⟨A1,c1,A1',c1',xs,hag,h1,h2,h3,h4,h5,h6,h7,h8,h9,h10,h11,h12⟩:=hv;injection hag with hag;injection hag with hag
 injection hag with y0 hag;injection hag with y1 hag;injection hag with y2 hag;injection hag with y3 hag;injection hag with y4 hag
 injection y3 with e1 _ e3
 injection y4 with e4 _ e6
 subst e1 e3 e4 e6;have hone:=h12.one;obtain⟨hxl,h8⟩:=h8;rcases h8 with ⟨-,h⟩|⟨G,cap,cur,hv,-,hh,hn,hm,hsz,htk⟩
 ·omega
 injection hv with e1 e2 e3
 subst e1 e3;obtain⟨hnl',h7⟩:=h7;rcases h7 with ⟨-,h⟩|⟨GN,capN,curN,hvN,-,hhN,hnN,hmN,hszN,htkN⟩
 ·omega
 injection hvN with e1 e2 e3
 subst e1 e3;have hFG:=h10 _ rfl;have hFN:=h9 _ rfl;have hGN:G≠GN:=h11 _ _ rfl rfl;simp only at hFG hFN;have hGs:=hlt _ hFG;have hNs:=hlt _ hFN;have hgG:g≠G:=fun e=>hFg (e▸hFG);have hgN:g≠GN:=fun e=>hFg (e▸hFN);have HONE:=hid hone;have H12:=hid h12;have HG:=hid hg;have HH:=hid hh;have HHN:=hid hhN;have HTK:=hid htk;have HC:=hid (And.intro g0 (And.intro g1 (And.intro g2 (And.intro g3 g4))));have HR:=hid (And.intro h1 (And.intro h2 (And.intro h3 h6)));have hc0:=(Go.Joins.cell_of_block hg o).trans g0;have HF:=hid (And.intro hFg (And.intro hlt (And.intro h9 (And.intro h10 h11))));have hlen:l.length≤140737488351232:=by omega
 rw[Nat.mul_one]at hszN htkN;have hjn:j<ns.length:=by omega
 have HTKN:=hid htkN
 have hlN:((curN.toList.drop (j+1)).take (ns.length - (j+1))).length=ns.length - (j+1):=by
  rw[List.length_take,List.length_drop,show curN.toList.length=c' from(Array.length_toList).trans hszN];omega
 have hsz2:cur.toList.length=c * 5:=by rw[Array.length_toList];exact hsz
 have hlV:((cur.toList.drop ((j+1) * 5)).take ((l.length - (j+1)) * 5)).length=(l.length - (j+1)) * 5:=by
  rw[List.length_take,List.length_drop,hsz2];omega
 have HNL:=hid hnl;clear hnl;clear hone h12 hg hh hhN htk htkN g0 g1 g2 g3 g4 h1 h2 h3 h6 hFg hlt h9 h10 h11;go_enter Tryz.func131,Tryz.ntmps131;go_wp2_with fail;refine av (aj GN GN) (aj.refl _ _) (aj.trans _ _) [15] (.pure [0,1,2,3,4,5,6,7,8,9,10,11] (.step 12 (.step 13 (.step 14 (.step 15 (.tail [])))))) (by kernel_rfl) (by kernel_rfl) (fun _ d _ _ _ h=>by cases d<;>exact h) ?_;have hz0:(w.alloc (.cells #[.pointer (some ⟨g,o,none⟩),.int .i64 j,rest] 108)).drew.heap.size=w.heap.size+1:=by simp
 have hb0:Below w.heap.size w (w.alloc (.cells #[.pointer (some ⟨g,o,none⟩),.int .i64 j,rest] 108)).drew:=(ae _).drew;have hs:(w.alloc (.cells #[.pointer (some ⟨g,o,none⟩),.int .i64 j,rest] 108)).drew.heap[w.heap.size]? =some (.cells #[.pointer (some ⟨g,o,none⟩),.int .i64 j,rest] 108 (0,0)):=heap_alloc_new w _;generalize (w.alloc (.cells #[.pointer (some ⟨g,o,none⟩),.int .i64 j,rest] 108)).drew=w0 at *;have hg0:=(hb0.block g hgl).trans HG.out;have s0: ∀p:af (aj GN GN) w0,p.u.cell? ⟨w.heap.size,0,none⟩=some (.pointer (some ⟨g,o,none⟩)):=fun p=>(World.cell?_of_block (a:=⟨w.heap.size,0,none⟩) (p.h.2 w.heap.size (by omega) (by omega) (by omega))).trans (Go.Joins.cell_of_block hs 0);have s1: ∀p:af (aj GN GN) w0,p.u.cell? ⟨w.heap.size,1,none⟩=some (.int .i64 j):=fun p=>(World.cell?_of_block (a:=⟨w.heap.size,1,none⟩) (p.h.2 w.heap.size (by omega) (by omega) (by omega))).trans (Go.Joins.cell_of_block hs 1);have q4: ∀p:af (aj GN GN) w0,p.u.cell? ⟨g,o+4,none⟩=some (.slice (some ⟨GN,0,none⟩) ns.length c'):=fun p=>(World.cell?_of_block (a:=⟨g,o+4,none⟩) (p.h.2 g (by omega) hgN hgN)).trans ((Go.Joins.cell_of_block hg0 (o+4)).trans HC.out.2.2.2.2);refine bN ?_;simp only[atR];show wpQuiet _ _ _ _ [_,_,_,_,_,_,_,_,_,_,_,_] _;try simp only[acR,Act.put]
 repeat(go_big_quiet_step (fail))
 refine wpQuiet_nil ?_;clear s0 s1 q4;have HB0:=hid hb0;have HS:=hid hs;have HG0:=hid hg0
 have hoN: ∀v∈(curN.toList.drop (j+1)).take (ns.length - (j+1)),v.oneCell'=true:=fun v hv=>by
  rw[←List.drop_take,HTKN.out]at hv;obtain⟨_,_,rfl⟩:=List.mem_map.1 (List.mem_of_mem_drop hv);rfl
 have HDN:=hid (tg GN ns.length c' j (j+1) curN w0 ((hb0.block GN hNs).trans HHN.out) hszN hnN hmN h5 (by omega) (by omega) hoN);have HRN:=hid (pQ ((hb0.block GN hNs).trans HHN.out) j (j+(ns.length - (j+1))) ((curN.toList.drop (j+1)).take (ns.length - (j+1))) (iH (ns.length - (j+(ns.length - (j+1))))) (by rw[hlN]) (by rw[hlN,je];omega));clear hb0 hs hg0 hoN;refine ah rfl (fun K hK=> ?_)
 go_simp
 refine HDN.out.mono ?_;rintro e w1 ⟨rfl,hw1⟩;obtain⟨CN,hCN,hsN,htN,hoN,hzN,hosN,htpN,houN⟩:=HRN.out;rw[←hw1]at hCN hoN hzN hosN htpN houN;refine hK _ _ (.inr ⟨by omega,fun b _ hb _=>hoN b hb⟩) ?_;clear hK K HDN HRN hw1;have HN1:=hid (And.intro hCN (And.intro hsN (And.intro htN (And.intro hoN (And.intro hosN (And.intro htpN houN))))));have hg1:=(hoN g hgN).trans HG0.out;have hd4:=(Go.Joins.cell_of_block hg1 (o+4)).trans HC.out.2.2.2.2;have hf4:=Go.Joins.unfrozen_of_block hg1 (o+4);have HG1:=hid hg1;have HZ1:=hid hzN;clear hCN hsN htN hoN hosN htpN houN hg1;refine ah rfl (fun K hK=> ?_)
 go_simp
 refine hK _ _ (.inr (aj.refl _ _ _)) ?_;clear hK K;refine ah rfl (fun K hK=> ?_)
 go_simp
 refine hK _ _ (.inr (aj.refl _ _ _)) ?_;clear hK K;refine ah rfl (fun K hK=> ?_)
 go_simp
 refine hK _ _ (.inl (by decide)) ?_;clear hK K;refine aX ?_;obtain⟨X4,hX4⟩: ∃X4,X4=Value.slice (some ⟨GN,0,none⟩) (j+(ns.length - (j+1))) c':=⟨_,rfl⟩;rw[←hX4];have HX4:=hid hX4;have hgW:(w1.setCell ⟨g,o+4,none⟩ X4).heap[g]? =some (.cells (C.setIfInBounds (o+4) X4) ty (0,0)):=Go.Joins.block_setCell (i:=o+4) HG1.out X4;have hoW: ∀b,b≠g→(w1.setCell ⟨g,o+4,none⟩ X4).heap[b]? =w1.heap[b]? :=fun b hb=>heap_setCell_other _ ⟨g,o+4,none⟩ b _ hb;have hzW:(w1.setCell ⟨g,o+4,none⟩ X4).heap.size=w1.heap.size:=by simp
 have hrW:(w1.setCell ⟨g,o+4,none⟩ X4).os=w1.os∧(w1.setCell ⟨g,o+4,none⟩ X4).tape=w1.tape∧(w1.setCell ⟨g,o+4,none⟩ X4).output=w1.output:=⟨rfl,rfl,rfl⟩;generalize w1.setCell ⟨g,o+4,none⟩ X4=w2 at *;clear hX4 hd4 hf4;have HX4':=HX4;have HRW:=hid hrW;go_wp2_with fail;refine av (aj G G) (aj.refl _ _) (aj.trans _ _) [15] (.pure [0,1,2,3,4,5,6,7,8,9,10,11] (.step 12 (.step 13 (.step 14 (.step 15 (.tail [])))))) (by kernel_rfl) (by kernel_rfl) (fun _ d _ _ _ h=>by cases d<;>exact h) ?_;have hspot:w2.drew.heap[w.heap.size]? =some (.cells #[.pointer (some ⟨g,o,none⟩),.int .i64 j,rest] 108 (0,0)):=(hoW _ (by omega)).trans ((HN1.out.2.2.2.1 _ (by omega)).trans HS.out);have hgD:w2.drew.heap[g]? =some (.cells (C.setIfInBounds (o+4) X4) ty (0,0)):=hgW;have hoD: ∀b,b≠g→w2.drew.heap[b]? =w1.heap[b]? :=hoW;have hzD:w2.drew.heap.size=w1.heap.size:=hzW;have hrD:Hid (w2.drew.os=w1.os∧w2.drew.tape=w1.tape∧w2.drew.output=w1.output):=hid hrW;clear hgW hoW hzW HRW hrW;generalize w2.drew=w3 at *;have s0: ∀p:af (aj G G) w3,p.u.cell? ⟨w.heap.size,0,none⟩=some (.pointer (some ⟨g,o,none⟩)):=fun p=>(World.cell?_of_block (a:=⟨w.heap.size,0,none⟩) (p.h.2 w.heap.size (by have:=HZ1.out;omega) (by omega) (by omega))).trans (Go.Joins.cell_of_block hspot 0);have s1: ∀p:af (aj G G) w3,p.u.cell? ⟨w.heap.size,1,none⟩=some (.int .i64 j):=fun p=>(World.cell?_of_block (a:=⟨w.heap.size,1,none⟩) (p.h.2 w.heap.size (by have:=HZ1.out;omega) (by omega) (by omega))).trans (Go.Joins.cell_of_block hspot 1)
 have hg3:(C.setIfInBounds (o+4) X4)[o+3]? =some (.slice (some ⟨G,0,none⟩) l.length c):=by
  rw[Array.getElem?_setIfInBounds,if_neg (by omega)];exact HC.out.2.2.2.1
 have q3: ∀p:af (aj G G) w3,p.u.cell? ⟨g,o+3,none⟩=some (.slice (some ⟨G,0,none⟩) l.length c):=fun p=>(World.cell?_of_block (a:=⟨g,o+3,none⟩) (p.h.2 g (by have:=HZ1.out;omega) hgG hgG)).trans ((Go.Joins.cell_of_block hgD (o+3)).trans hg3);have HSP:=hid hspot;have HGD:=hid hgD;have HOD:=hid hoD;have HG3:=hid hg3;clear hspot hgD hoD hg3;refine bN ?_;simp only[atR];show wpQuiet _ _ _ _ [_,_,_,_,_,_,_,_,_,_,_,_] _;try simp only[acR,Act.put]
 repeat(go_big_quiet_step (fail))
 refine wpQuiet_nil ?_;clear s0 s1 q3;have hG3:w3.heap[G]? =some (.cells cur 25 (0,0)):=(HOD.out G (by omega)).trans ((HN1.out.2.2.2.1 G hGN).trans ((HB0.out.block G hGs).trans HH.out))
 have hoV: ∀v∈(cur.toList.drop ((j+1) * 5)).take ((l.length - (j+1)) * 5),v.oneCell'=true:=fun v hv=>by
  rw[show(l.length - (j+1)) * 5=l.length * 5 - (j+1) * 5 by omega,←List.drop_take,HTK.out]at hv;exact HONE.out v (List.mem_of_mem_drop hv)
 have HDV:=hid (nX G l.length c j (j+1) cur w3 hG3 hsz hn hm h4 (by omega) (by omega) hoV);have hRV:=pQ hG3 (j * 5) ((j+(l.length - (j+1))) * 5) ((cur.toList.drop ((j+1) * 5)).take ((l.length - (j+1)) * 5)) (eF (l.length - (j+(l.length - (j+1))))) (by rw[hlV];omega) (by rw[hlV,fY];omega);have HRV:=hid hRV;clear hoV hRV hG3;refine ah rfl (fun K hK=> ?_)
 go_simp
 refine HDV.out.mono ?_;rintro e w4 ⟨rfl,hw4⟩;obtain⟨CV,hCV,hsV,htV,hoV,hzV,hosV,htpV,houV⟩:=HRV.out;rw[←hw4]at hCV hoV hzV hosV htpV houV;refine hK _ _ (.inr ⟨by omega,fun b _ hb _=>hoV b hb⟩) ?_;clear hK K HDV HRV hw4;have HV4:=hid (And.intro hCV (And.intro hsV (And.intro htV (And.intro hoV (And.intro hosV (And.intro htpV houV))))));have hg4:=(hoV g hgG).trans HGD.out;have hd3:=(Go.Joins.cell_of_block hg4 (o+3)).trans HG3.out;have hf3:=Go.Joins.unfrozen_of_block hg4 (o+3);have HG4:=hid hg4;have HZ4:=hid hzV;clear hCV hsV htV hoV hosV htpV houV hg4;refine ah rfl (fun K hK=> ?_)
 go_simp
 refine hK _ _ (.inr (aj.refl _ _ _)) ?_;clear hK K;refine ah rfl (fun K hK=> ?_)
 go_simp
 refine hK _ _ (.inr (aj.refl _ _ _)) ?_;clear hK K;refine ah rfl (fun K hK=> ?_)
 go_simp
 refine hK _ _ (.inl (by decide)) ?_;clear hK K;refine aX ?_;obtain⟨X3,hX3⟩: ∃X3,X3=Value.slice (some ⟨G,0,none⟩) (j+(l.length - (j+1))) c:=⟨_,rfl⟩;rw[←hX3];have HX3:=hid hX3;clear hX3 hd3 hf3;have hgW:(w4.setCell ⟨g,o+3,none⟩ X3).heap[g]? =some (.cells ((C.setIfInBounds (o+4) X4).setIfInBounds (o+3) X3) ty (0,0)):=Go.Joins.block_setCell (i:=o+3) HG4.out X3;have hoW: ∀b,b≠g→(w4.setCell ⟨g,o+3,none⟩ X3).heap[b]? =w4.heap[b]? :=fun b hb=>heap_setCell_other _ ⟨g,o+3,none⟩ b _ hb;have hzW:(w4.setCell ⟨g,o+3,none⟩ X3).heap.size=w4.heap.size:=by simp
 have hrW:(w4.setCell ⟨g,o+3,none⟩ X3).os=w4.os∧(w4.setCell ⟨g,o+3,none⟩ X3).tape=w4.tape∧(w4.setCell ⟨g,o+3,none⟩ X3).output=w4.output:=⟨rfl,rfl,rfl⟩
 have hfin: ∃F',Own F w F'∧OAt (w4.setCell ⟨g,o+3,none⟩ X3) F' (nZ (.mk 7 i s l ns) j) g o∧Mut F g o w (w4.setCell ⟨g,o+3,none⟩ X3):=by
  generalize w4.setCell ⟨g,o+3,none⟩ X3=w5 at *;obtain⟨hFg,hlt,h9,h10,h11⟩:=HF.out;obtain⟨h1,h2,h3,h6⟩:=HR.out;obtain⟨g0,g1,g2,g3,g4⟩:=HC.out;obtain⟨n1,n2,n3,n4,n5,n6,n7⟩:=HN1.out;obtain⟨v1,v2,v3,v4,v5,v6,v7⟩:=HV4.out;have hoth: ∀b,b<w.heap.size→b≠g→b≠G→b≠GN→w5.heap[b]? =w.heap[b]? :=fun b hb x1 x2 x3=>(hoW b x1).trans ((v4 b x2).trans ((HOD.out b x1).trans ((n4 b x3).trans (HB0.out.block b hb))));have hsz5:w5.heap.size=w.heap.size+1:=by rw[hzW,HZ4.out,hzD,HZ1.out,hz0]
  have hlj:(l.eraseIdx j).length=j+(l.length - (j+1)):=by rw[List.length_eraseIdx_of_lt hj];omega
  have hnj:(ns.eraseIdx j).length=j+(ns.length - (j+1)):=by rw[List.length_eraseIdx_of_lt hjn];omega
  have hCo:o+4<C.size:=(Array.getElem?_eq_some_iff.1 g4).1;have hNames:w5.heap[GN]? =some (.cells CN 9 (0,0)):=(hoW GN (by omega)).trans ((v4 GN (by omega)).trans ((HOD.out GN (by omega)).trans n1));have hItems:w5.heap[G]? =some (.cells CV 25 (0,0)):=(hoW G (by omega)).trans v1
  have hxsN:CN.toList.take (ns.eraseIdx j).length=(ns.eraseIdx j).map Value.string:=by
   have e:curN.toList.take j++(curN.toList.drop (j+1)).take (ns.length - (j+1))=(ns.eraseIdx j).map Value.string:=by
    rw[wE,←HTKN.out,List.take_take,List.drop_take,Nat.min_eq_left (by omega)]
   have hl:(curN.toList.take j++(curN.toList.drop (j+1)).take (ns.length - (j+1))).length=(ns.eraseIdx j).length:=by rw[e,List.length_map]
   rw[hl]at n3;rw[n3,e]
  have hxsV:CV.toList.take ((l.eraseIdx j).length * 5)=xs.take (j * 5)++xs.drop ((j+1) * 5):=by
   have e:cur.toList.take (j * 5)++(cur.toList.drop ((j+1) * 5)).take ((l.length - (j+1)) * 5)=xs.take (j * 5)++xs.drop ((j+1) * 5):=by
    rw[←HTK.out,List.take_take,List.drop_take,Nat.min_eq_left (by omega),show(l.length - (j+1)) * 5=l.length * 5 - (j+1) * 5 by omega]
   have hl:(cur.toList.take (j * 5)++(cur.toList.drop ((j+1) * 5)).take ((l.length - (j+1)) * 5)).length=(l.eraseIdx j).length * 5:=by rw[List.length_append,hlV,List.length_take,hsz2,hlj];omega
   rw[hl]at v3;rw[v3,e]
  have hov:OVs w5 (Out F (some ⟨G,0,none⟩) (some ⟨GN,0,none⟩)) (l.eraseIdx j) (xs.take (j * 5)++xs.drop ((j+1) * 5)):=
   (OVs.erase j H12.out hj).keep fun b hb=>hoth b (hlt b hb.1) (fun e=>hFg (e▸hb.1)) (fun e=>hb.2.1 _ rfl e.symm) (fun e=>hb.2.2 _ rfl e.symm)
  refine⟨F,fun b hb=> .inl hb,?_,?_⟩
  ·refine⟨_,ty,some ⟨G,0,none⟩,c,some ⟨GN,0,none⟩,c',hgW,?_,?_,?_,?_,?_,?_,hFg,fun b hb=>by have:=hlt b hb;omega⟩
   ·rw[Array.getElem?_setIfInBounds,if_neg (by omega),Array.getElem?_setIfInBounds,if_neg (by omega)];exact g0
   ·rw[Array.getElem?_setIfInBounds,if_neg (by omega),Array.getElem?_setIfInBounds,if_neg (by omega)];exact g1
   ·rw[Array.getElem?_setIfInBounds,if_neg (by omega),Array.getElem?_setIfInBounds,if_neg (by omega)];exact g2
   ·rw[Array.getElem?_setIfInBounds,if_pos rfl,if_pos (by rw[Array.size_setIfInBounds];omega),HX3.out];show some (Value.slice _ _ _)=some (Value.slice _ (l.eraseIdx j).length _);rw[hlj]
   ·rw[Array.getElem?_setIfInBounds,if_neg (by omega),Array.getElem?_setIfInBounds,if_pos rfl,if_pos hCo,HX4.out];show some (Value.slice _ _ _)=some (Value.slice _ (ns.eraseIdx j).length _);rw[hnj]
   ·refine OV.mk h1 h2 h3 (by rw[hlj];omega) (by rw[hnj];omega) (fun x hx=>h6 x (List.mem_of_mem_eraseIdx hx)) ?_ ?_ h9 h10 h11 hov
    ·exact⟨by rw[List.length_map,Nat.mul_one],.inr ⟨GN,c',CN,rfl,Nat.zero_le _,hNames,by rw[hnj];omega,hmN,by rw[n2,hszN,Nat.mul_one],by rw[Nat.mul_one];exact hxsN⟩⟩
    ·refine⟨?_,.inr ⟨G,c,CV,rfl,Nat.zero_le _,hItems,by rw[hlj];omega,hm,by rw[v2,hsz],hxsV⟩⟩;rw[List.length_append,List.length_take,List.length_drop,hxl,hlj];omega
  ·refine⟨by omega,fun b hb hnF hne=>hoth b hb hne (fun e=>hnF (e▸hFG)) (fun e=>hnF (e▸hFN)),fun C2 ty2 fz hC2=> ?_,?_,?_,?_⟩
   ·have e:=HG.out.symm.trans hC2;injection e with e
    injection e with e1 e2 e3
    subst e1 e2 e3;refine⟨_,hgW,by simp,fun m hm'=> ?_⟩;rw[Array.getElem?_setIfInBounds,if_neg (by omega),Array.getElem?_setIfInBounds,if_neg (by omega)]
   ·exact hrW.1.trans (v5.trans (hrD.out.1.trans (n5.trans HB0.out.os)))
   ·exact hrW.2.1.trans (v6.trans (hrD.out.2.1.trans (n6.trans HB0.out.tape)))
   ·exact hrW.2.2.trans (v7.trans (hrD.out.2.2.trans (n7.trans HB0.out.output)))
 have HFIN:=hid hfin;clear hfin hgW hoW hzW hrW;generalize w4.setCell ⟨g,o+3,none⟩ X3=w5 at *;go_wp2_with fail
 go_end0
 exact⟨rfl,HFIN.out⟩
theorem OAt.still {w w':World}{F:Nat→Prop}{t:VT}{g o:Nat}(h:OAt w F t g o)(hb:Below w.heap.size w w'): ∃F',Own F w F'∧OAt w' F' t g o∧Mut F g o w w':=
 ⟨F,fun _=> .inl,h.keep hb,hb.size,fun b hb1 _ _=>hb.block b hb1,fun C ty fz hC=>⟨C,(hb.block g h.lt).trans hC,rfl,fun _ _=>rfl⟩,hb.os,hb.tape,hb.output⟩
theorem vj (F:Nat→Prop)(t:VT)(g o:Nat)(P:Int)(hP:P<0)(rest:Value)(n:Int)(w:World)(h:OAt w F t g o):
  Calls Tryz.prog 133 #[.agg #[.pointer (some ⟨g,o,none⟩),.int .i64 P,rest],.int .i64 n] w fun e w'=>e= .returned (.tuple #[])∧ ∃F',Own F w F'∧OAt w' F' t g o∧Mut F g o w w':=by
 have hneg:decide (P<0)=true:=decide_eq_true hP;have HFIN:=hid (h.still (w':=w.alloc (.cells #[.pointer (some ⟨g,o,none⟩),.int .i64 P,rest] 108)) (ae _));clear h;go_enter Tryz.func133,Tryz.ntmps133;go_wp2_with fail;refine bodyPost_ret (results_none rfl _ _ _) rfl ?_;exact⟨rfl,HFIN.out⟩
def gB (x:VT)(n:Int):VT:=if x.kind=6∧n<x.items.length then nQ x n.toNat else x
theorem vU (F:Nat→Prop)(t:VT)(g o:Nat)(j:Nat)(hj:j<t.items.length)(rest:Value)(n:Nat)(hn63:n≤9223372036854775807)(w:World)(h:OAt w F t g o):
  Calls Tryz.prog 133 #[.agg #[.pointer (some ⟨g,o,none⟩),.int .i64 j,rest],.int .i64 n] w fun e w'=>e= .returned (.tuple #[])∧ ∃F',Own F w F'∧OAt w' F' (bS t j (gB t.items[j] n)) g o∧Mut F g o w w':=by
 have hneg:decide ((j:Int)<0)=false:=decide_eq_false (by omega);have hgl:=h.lt;obtain⟨A,cA,A',cA',hat⟩:=h.at;have hlen:=hat.names.2.2;obtain⟨G,Fj,⟨cp,hc3⟩,hFG,hoj,hsub,hup⟩:=h.item hj
 have hgG:g≠G:=by
  obtain⟨_,_,_,_,_,_,_,_,_,_,_,_,_,hn,_⟩:=h;exact fun e=>hn (e▸hFG)
 obtain⟨x,hx⟩: ∃x,x=t.items[j]:=⟨_,rfl⟩;rw[←hx]at hoj ⊢;obtain⟨y,hy⟩: ∃y,y=gB x n:=⟨_,rfl⟩;rw[←hy];have HY:=hid hy;clear hy;have HUP:=hid hup;have HOJ:=hid hoj;have hGl:=hoj.lt;clear hup hx h hat hsub;obtain⟨C,ty,B,b,B',b',hG,k0,k1,k2,k3,k4,hv,hFg,hlt⟩:=hoj;have HG:=hid hG;have HK:=hid (And.intro k0 (And.intro k1 (And.intro k2 (And.intro k3 k4))));have HV:=hid hv;have HF:=hid (And.intro hFg hlt);clear hG k0 k1 k2 k3 k4 hv hFg hlt;go_enter Tryz.func133,Tryz.ntmps133;go_wp2_with fail;refine av (aj G G) (aj.refl _ _) (aj.trans _ _) [] (.pure [0,1,2,3,4,5,6,7,8] (.tail [])) (by kernel_rfl) (by kernel_rfl) (fun _ d _ _ _ h=>by cases d<;>exact h) ?_;have hz0:(w.alloc (.cells #[.pointer (some ⟨g,o,none⟩),.int .i64 j,rest] 108)).drew.heap.size=w.heap.size+1:=by simp
 have hb0:Below w.heap.size w (w.alloc (.cells #[.pointer (some ⟨g,o,none⟩),.int .i64 j,rest] 108)).drew:=(ae _).drew;have hs:(w.alloc (.cells #[.pointer (some ⟨g,o,none⟩),.int .i64 j,rest] 108)).drew.heap[w.heap.size]? =some (.cells #[.pointer (some ⟨g,o,none⟩),.int .i64 j,rest] 108 (0,0)):=heap_alloc_new w _;generalize (w.alloc (.cells #[.pointer (some ⟨g,o,none⟩),.int .i64 j,rest] 108)).drew=w0 at *;have s0: ∀p:af (aj G G) w0,p.u.cell? ⟨w.heap.size,0,none⟩=some (.pointer (some ⟨g,o,none⟩)):=fun p=>(World.cell?_of_block (a:=⟨w.heap.size,0,none⟩) (p.h.2 w.heap.size (by omega) (by omega) (by omega))).trans (Go.Joins.cell_of_block hs 0);have s1: ∀p:af (aj G G) w0,p.u.cell? ⟨w.heap.size,1,none⟩=some (.int .i64 j):=fun p=>(World.cell?_of_block (a:=⟨w.heap.size,1,none⟩) (p.h.2 w.heap.size (by omega) (by omega) (by omega))).trans (Go.Joins.cell_of_block hs 1);have q3: ∀p:af (aj G G) w0,p.u.cell? ⟨g,o+3,none⟩=some (.slice (some ⟨G,0,none⟩) t.items.length cp):=fun p=>(World.cell?_of_block (a:=⟨g,o+3,none⟩) (p.h.2 g (by omega) hgG hgG)).trans ((World.cell?_of_block (a:=⟨g,o+3,none⟩) (hb0.block g hgl)).trans hc3);refine bN ?_;simp only[atR];show wpQuiet _ _ _ _ [_,_,_,_,_,_,_,_,_] _;try simp only[acR,Act.put]
 repeat(go_big_quiet_step (fail))
 refine wpQuiet_nil ?_;clear s0 s1 q3;refine aX ?_;have HB0:=hid hb0;have hG0:=(hb0.block G hGl).trans HG.out;have x0:=(Go.Joins.cell_of_block hG0 (j * 5)).trans HK.out.1;have x3:=(Go.Joins.cell_of_block hG0 (j * 5+3)).trans HK.out.2.2.2.1;have HG0:=hid hG0;clear hs hb0 hc3 hG0;obtain⟨k,hk⟩: ∃k,k=x.kind:=⟨_,rfl⟩;rw[←hk]at x0;have HKK:=hid hk;clear hk;by_cases hk6:k=6;rotate_left
 ·have hk6b:(k == 6)=false:=beq_false_of_ne hk6;have hcv:y=x:=by rw[HY.out];unfold gB;rw[if_neg (fun e=>hk6 (HKK.out.trans e.1))]
  have HFIN:Hid (∃F',Own F w F'∧OAt w0 F' (bS t j y) g o∧Mut F g o w w0):=hid (by rw[hcv];exact HUP.out w0 x Fj ⟨HB0.out.size,fun b hb1 _ _=>HB0.out.block b hb1,fun C ty fz hC=>⟨C,(HB0.out.block G hGl).trans hC,rfl,fun _ _=>rfl⟩,HB0.out.os,HB0.out.tape,HB0.out.output⟩ (HOJ.out.keep HB0.out) (fun _=> .inl));clear hcv;go_wp2_with fail
  go_end0
  exact⟨rfl,HFIN.out⟩
 subst hk6
 have hxl:x.items.length≤1759218604390:=by
  have:=HV.out
  cases x with
  |mk k i s l ns=>
   unfold OV at this;obtain⟨_,_,_,_,_,_,_,_,_,h4,_⟩:=this;exact h4
 by_cases hnl:(n:Int)<(x.items.length:Int);rotate_left
 ·have hnlb:decide ((n:Int)<(x.items.length:Int))=false:=decide_eq_false hnl;have hcv:y=x:=by rw[HY.out];unfold gB;rw[if_neg (fun e=>hnl e.2)]
  have HFIN:Hid (∃F',Own F w F'∧OAt w0 F' (bS t j y) g o∧Mut F g o w w0):=hid (by rw[hcv];exact HUP.out w0 x Fj ⟨HB0.out.size,fun b hb1 _ _=>HB0.out.block b hb1,fun C ty fz hC=>⟨C,(HB0.out.block G hGl).trans hC,rfl,fun _ _=>rfl⟩,HB0.out.os,HB0.out.tape,HB0.out.output⟩ (HOJ.out.keep HB0.out) (fun _=> .inl));clear hcv;go_wp2_with fail
  go_end0
  exact⟨rfl,HFIN.out⟩
 have hnlb:decide ((n:Int)<(x.items.length:Int))=true:=decide_eq_true hnl;have hcv:y=nQ x n:=by rw[HY.out];unfold gB;rw[if_pos ⟨HKK.out.symm,hnl⟩];simp
 have HCV:=hid hcv;clear hcv
 cases x with
 |mk k i s l ns=>
 simp only[VT.kind,VT.num,VT.text,VT.items,VT.names]at *;obtain⟨A1,c1,A1',c1',xs,hag,h1,h2,h3,h4,h5,h6,h7,h8,h9,h10,h11,h12⟩:=(show ∃A c A' c' xs,_ by have:=HV.out;unfold OV at this;exact this);injection hag with hag;injection hag with hag
 injection hag with y0 hag;injection hag with y1 hag;injection hag with y2 hag;injection hag with y3 hag;injection hag with y4 hag
 injection y3 with e1 _ e3
 injection y4 with e4 _ e6
 subst e1 e3 e4 e6;obtain⟨hxl',h8⟩:=h8;rcases h8 with ⟨-,h⟩|⟨GX,cap,cur,hv,-,hh,hn,hm,hsz,htk⟩
 ·omega
 injection hv with e1 e2 e3
 subst e1 e3;have hFX:=h10 _ rfl;simp only at hFX;have hXs:=HF.out.2 _ hFX;have hGX:G≠GX:=fun e=>HF.out.1 (e▸hFX);have hnl2:n<l.length:=by omega
 have HXS:=hid (And.intro h12 (And.intro h7 (And.intro htk hxl')));have HH:=hid hh;have HR:=hid (And.intro h1 (And.intro h2 (And.intro h3 (And.intro h5 (And.intro h6 (And.intro h9 (And.intro h10 h11)))))));have hlen2:l.length≤140737488351232:=by omega
 clear h1 h2 h3 h5 h6 h7 h9 h10 h11 h12 htk hxl' hh;have hg3:=x3;go_wp2_with fail;clear x0 x3;refine av (aj GX GX) (aj.refl _ _) (aj.trans _ _) [14] (.pure [0,1,2,3,4,5,6,7,8,9,10] (.step 11 (.step 12 (.step 13 (.step 14 (.tail [])))))) (by kernel_rfl) (by kernel_rfl) (fun _ d _ _ _ h=>by cases d<;>exact h) ?_;have hbd:Below w.heap.size w w0.drew:=HB0.out.drew;have hGd:w0.drew.heap[G]? =some (.cells C ty (0,0)):=HG0.out;have hzd:w0.drew.heap.size=w.heap.size+1:=hz0;clear HB0 HG0 hg3;generalize w0.drew=w3 at *;have q3: ∀p:af (aj GX GX) w3,p.u.cell? ⟨G,j * 5+3,none⟩=some (.slice (some ⟨GX,0,none⟩) l.length b):=fun p=>(World.cell?_of_block (a:=⟨G,j * 5+3,none⟩) (p.h.2 G (by omega) hGX hGX)).trans ((Go.Joins.cell_of_block hGd (j * 5+3)).trans HK.out.2.2.2.1);have HBD:=hid hbd;have HGD:=hid hGd;clear hGd hbd;refine bN ?_;simp only[atR];show wpQuiet _ _ _ _ [_,_,_,_,_,_,_,_,_,_,_] _;try simp only[acR,Act.put]
 repeat(go_big_quiet_step (fail))
 refine wpQuiet_nil ?_;clear q3;have hG3:w3.heap[GX]? =some (.cells cur 25 (0,0)):=(HBD.out.block GX hXs).trans HH.out;have HDV:=hid (nX GX l.length b n l.length cur w3 hG3 hsz hn hm h4 hnl2 (Nat.le_refl _) (by rw[Nat.sub_self,Nat.zero_mul,List.take_zero];exact fun _ h=>absurd h (by simp)));have hRV:=pQ hG3 (n * 5) ((n+(l.length - l.length)) * 5) ((cur.toList.drop (l.length * 5)).take ((l.length - l.length) * 5)) (eF (l.length - (n+(l.length - l.length)))) (by simp) (by rw[fY];simp;omega);have HRV:=hid hRV;clear hRV hG3;refine ah rfl (fun K hK=> ?_)
 go_simp
 refine HDV.out.mono ?_;rintro e w4 ⟨rfl,hw4⟩;obtain⟨CV,hCV,hsV,htV,hoV,hzV,hosV,htpV,houV⟩:=HRV.out;rw[←hw4]at hCV hoV hzV hosV htpV houV;refine hK _ _ (.inr ⟨by omega,fun b _ hb _=>hoV b hb⟩) ?_;clear hK K HDV HRV hw4;have HV4:=hid (And.intro hCV (And.intro hsV (And.intro htV (And.intro hoV (And.intro hosV (And.intro htpV houV))))));have hg4:=(hoV G hGX).trans HGD.out;have hd3:=(Go.Joins.cell_of_block hg4 (j * 5+3)).trans HK.out.2.2.2.1;have hf3:=Go.Joins.unfrozen_of_block hg4 (j * 5+3);have HG4:=hid hg4;have HZ4:=hid hzV;clear hCV hsV htV hoV hosV htpV houV hg4;refine ah rfl (fun K hK=> ?_)
 go_simp
 refine hK _ _ (.inr (aj.refl _ _ _)) ?_;clear hK K;refine ah rfl (fun K hK=> ?_)
 go_simp
 refine hK _ _ (.inr (aj.refl _ _ _)) ?_;clear hK K;refine ah rfl (fun K hK=> ?_)
 go_simp
 refine hK _ _ (.inl (by decide)) ?_;clear hK K;refine aX ?_;obtain⟨X3,hX3⟩: ∃X3,X3=Value.slice (some ⟨GX,0,none⟩) n b:=⟨_,rfl⟩;rw[←hX3];have HX3:=hid hX3;clear hX3 hd3 hf3;have hgW:(w4.setCell ⟨G,j * 5+3,none⟩ X3).heap[G]? =some (.cells (C.setIfInBounds (j * 5+3) X3) ty (0,0)):=Go.Joins.block_setCell (i:=j * 5+3) HG4.out X3;have hoW: ∀b,b≠G→(w4.setCell ⟨G,j * 5+3,none⟩ X3).heap[b]? =w4.heap[b]? :=fun b hb=>heap_setCell_other _ ⟨G,j * 5+3,none⟩ b _ hb;have hzW:(w4.setCell ⟨G,j * 5+3,none⟩ X3).heap.size=w4.heap.size:=by simp
 have hrW:(w4.setCell ⟨G,j * 5+3,none⟩ X3).os=w4.os∧(w4.setCell ⟨G,j * 5+3,none⟩ X3).tape=w4.tape∧(w4.setCell ⟨G,j * 5+3,none⟩ X3).output=w4.output:=⟨rfl,rfl,rfl⟩
 have HFIN:=hid (HUP.out (w4.setCell ⟨G,j * 5+3,none⟩ X3) y Fj (by
  generalize w4.setCell ⟨G,j * 5+3,none⟩ X3=w5 at *;obtain⟨v1,v2,v3,v4,v5,v6,v7⟩:=HV4.out;refine⟨by omega,fun b hb hnF hne=>(hoW b hne).trans ((v4 b (fun e=>hnF (e▸hFX))).trans (HBD.out.block b hb)),fun C2 ty2 fz hC2=> ?_,hrW.1.trans (v5.trans HBD.out.os),hrW.2.1.trans (v6.trans HBD.out.tape),hrW.2.2.trans (v7.trans HBD.out.output)⟩;have e:=HG.out.symm.trans hC2;injection e with e
  injection e with e1 e2 e3
  subst e1 e2 e3
  exact⟨_,hgW,by simp,fun m hm'=>by rw[Array.getElem?_setIfInBounds,if_neg (by omega)]⟩) (by
  generalize w4.setCell ⟨G,j * 5+3,none⟩ X3=w5 at *;obtain⟨v1,v2,v3,v4,v5,v6,v7⟩:=HV4.out;obtain⟨h12,h7,htk,hxl'⟩:=HXS.out;obtain⟨h1,h2,h3,h5,h6,h9,h10,h11⟩:=HR.out;obtain⟨hFg,hlt⟩:=HF.out;obtain⟨k0,k1,k2,k3,k4⟩:=HK.out;have hoth: ∀b,b<w.heap.size→b≠G→b≠GX→w5.heap[b]? =w.heap[b]? :=fun b hb x1 x2=>(hoW b x1).trans ((v4 b x2).trans (HBD.out.block b hb));have hCo:j * 5+3<C.size:=(Array.getElem?_eq_some_iff.1 k3).1;have hItems:w5.heap[GX]? =some (.cells CV 25 (0,0)):=(hoW GX (fun e=>hGX e.symm)).trans v1;have hln:(l.take n).length=n:=by rw[List.length_take];omega
  have hsz2:cur.toList.length=b * 5:=by rw[Array.length_toList];exact hsz
  have hxsV:CV.toList.take ((l.take n).length * 5)=xs.take (n * 5):=by
   have e:cur.toList.take (n * 5)++(cur.toList.drop (l.length * 5)).take ((l.length - l.length) * 5)=xs.take (n * 5):=by
    rw[Nat.sub_self,Nat.zero_mul,List.take_zero,List.append_nil,←htk,List.take_take,Nat.min_eq_left (by omega)]
   have hl:(cur.toList.take (n * 5)++(cur.toList.drop (l.length * 5)).take ((l.length - l.length) * 5)).length=(l.take n).length * 5:=by rw[e,List.length_take,hxl',hln];omega
   rw[hl]at v3;rw[v3,e]
  have hov:OVs w5 (Out Fj (some ⟨GX,0,none⟩) B') (l.take n) (xs.take (n * 5)):=
   (OVs.front n h12 (by omega)).keep fun b hb=>hoth b (hlt b hb.1) (fun e=>hFg (e▸hb.1)) (fun e=>hb.2.1 _ rfl e.symm)
  rw[HCV.out];refine⟨_,ty,some ⟨GX,0,none⟩,b,B',b',hgW,?_,?_,?_,?_,?_,?_,hFg,fun b hb=>by have:=hlt b hb;omega⟩;rotate_left 5
  ·refine OV.mk h1 h2 h3 (by rw[hln];omega) h5 h6 (cf h7 fun a ha=>hoth _ (hlt _ (h9 a ha)) (fun e=>hFg (e▸h9 a ha)) (fun e=>h11 _ _ rfl ha e.symm)) ?_ h9 h10 h11 hov;refine⟨?_,.inr ⟨GX,b,CV,rfl,Nat.zero_le _,hItems,by rw[hln];omega,hm,by rw[v2,hsz],hxsV⟩⟩;rw[List.length_take,hxl',hln];omega
  ·rw[Array.getElem?_setIfInBounds,if_neg (by omega)];exact k0
  ·rw[Array.getElem?_setIfInBounds,if_neg (by omega)];exact k1
  ·rw[Array.getElem?_setIfInBounds,if_neg (by omega)];exact k2
  ·rw[Array.getElem?_setIfInBounds,if_pos rfl,if_pos hCo,HX3.out];show some (Value.slice _ _ _)=some (Value.slice _ (l.take n).length _);rw[hln]
  ·rw[Array.getElem?_setIfInBounds,if_neg (by omega)];exact k4) (fun _=> .inl))
 clear hgW hoW hzW hrW;generalize w4.setCell ⟨G,j * 5+3,none⟩ X3=w5 at *;go_wp2_with fail
 go_end0
 exact⟨rfl,HFIN.out⟩
theorem pO :eE 130:=fun _ _=>by simp[callFunc,go_sem,Tryz.func130,Tryz.f130]
theorem qE :eE 132:=fun _ _=>by simp[callFunc,go_sem,Tryz.func132,Tryz.f132]
def bh (t:VT):List ByteArray→Int×VT
 | []=>(0,t)
 |s::_=>(0,if ab t s<0 then t else if t.kind=7 then nZ t (ab t s).toNat else bS t (ab t s).toNat ka)
def bD (n:Int)(t:VT):List ByteArray→Int×VT
 | []=>(0,t)
 |s::_=>if n<0 then(1,t)else(0,if ab t s<0 then t else match t.items[(ab t s).toNat]? with
  |none=>t
  |some x=>bS t (ab t s).toNat (gB x n))
theorem bf (t:VT)(s:ByteArray)(r:List ByteArray):bh t (s::r)=(0,if ab t s<0 then t else if t.kind=7 then nZ t (ab t s).toNat else bS t (ab t s).toNat ka):=rfl
theorem bF (n:Int)(t:VT)(s:ByteArray)(r:List ByteArray):bD n t (s::r)=if n<0 then((1:Int),t)else((0:Int),if ab t s<0 then t else match t.items[(ab t s).toNat]? with
  |none=>t
  |some x=>bS t (ab t s).toNat (gB x n)):=rfl
theorem cu {t:VT}(h:ao t=true)(hk:t.kind=7):t.names.length=t.items.length:=by
 cases t with
 |mk k i s l ns=>exact(ey h).1 hk
theorem vV (t:VT)(g o:Nat)(A:Option Addr)(c:Nat)(s:ByteArray)(r:List ByteArray)(F:Nat→Prop)(w:World)(h:OAt w F t g o)(hm:ao t=true):
  Calls Tryz.prog 130 #[.agg #[.pointer (some ⟨g,o,none⟩),.int .i64 (ab t s),.slice A (r.length+1) c]] w (cn F g o w (bh t (s::r))):=by
 obtain⟨P,hP⟩: ∃P,P=ab t s:=⟨_,rfl⟩;rw[←hP];have hge: -1≤P:=by rw[hP];exact iJ t s
 have hb1:Below w.heap.size w (w.alloc (.cells #[.pointer (some ⟨g,o,none⟩),.int .i64 P,.slice A (r.length+1) c] 108)):=ae _;have H1:=h.keep hb1
 have hcall:Calls Tryz.prog 131 #[.agg #[.pointer (some ⟨g,o,none⟩),.int .i64 P,.slice A (r.length+1) c]] (w.alloc (.cells #[.pointer (some ⟨g,o,none⟩),.int .i64 P,.slice A (r.length+1) c] 108)) fun e w'=>e= .returned (.tuple #[])∧cn F g o w (bh t (s::r)) (.returned (.int .i64 0)) w':=by
  by_cases hneg:P<0
  ·refine(tQ F t g o P hneg _ _ H1).mono ?_;rintro e w' ⟨rfl,hd⟩;refine⟨rfl,cn.from ⟨rfl,?_⟩ hb1 h.lt⟩;rw[bf];rw[←hP,if_pos hneg];exact hd
  obtain⟨j,rfl⟩: ∃j:Nat,P=j:=⟨P.toNat,by omega⟩
  have hj:j<t.items.length:=by
   have:=aP (bT hm) (s:=s) (by rw[←hP];omega);rw[←hP]at this;simpa using this
  by_cases hk:t.kind=7
  ·refine(ve F t g o j hj hk (cu hm hk) _ _ H1).mono ?_;rintro e w' ⟨rfl,hd⟩;refine⟨rfl,cn.from ⟨rfl,?_⟩ hb1 h.lt⟩;rw[bf];rw[←hP,if_neg hneg,if_pos hk];exact hd
  ·refine(un F t g o j hj hk _ _ H1).mono ?_;rintro e w' ⟨rfl,hd⟩;refine⟨rfl,cn.from ⟨rfl,?_⟩ hb1 h.lt⟩;rw[bf];rw[←hP,if_neg hneg,if_neg hk];exact hd
 have HC:=hid hcall;clear hcall H1 hb1 h hP hm hge;go_enter Tryz.func130,Tryz.ntmps130;go_wp2_with fail;refine HC.out.mono ?_;rintro e w2 ⟨rfl,hd⟩;have HD:=hid hd;clear hd HC;go_wp2_with fail;go_ret;exact HD.out
theorem zA (n:Int)(hn: -9223372036854775808≤n∧n≤9223372036854775807)(bx:Nat)(t:VT)(g o:Nat)(A:Option Addr)(c:Nat)(s:ByteArray)(r:List ByteArray)(F:Nat→Prop)(w:World)(h:OAt w F t g o)(hm:ao t=true)(hx:w.heap[bx]? =some (.cells #[.int .i64 n] 3 (0,0))):
  Calls Tryz.prog 132 #[.agg #[.pointer (some ⟨g,o,none⟩),.int .i64 (ab t s),.slice A (r.length+1) c],.pointer (some ⟨bx,0,none⟩)] w (cn F g o w (bD n t (s::r))):=by
 obtain⟨P,hP⟩: ∃P,P=ab t s:=⟨_,rfl⟩;rw[←hP];have hge: -1≤P:=by rw[hP];exact iJ t s
 have hb1:Below w.heap.size w (w.alloc (.cells #[.pointer (some ⟨g,o,none⟩),.int .i64 P,.slice A (r.length+1) c] 108)):=ae _;have H1:=h.keep hb1;have hbx:bx<w.heap.size:=(Array.getElem?_eq_some_iff.1 hx).1;have x0:w.cell? ⟨bx,0,none⟩=some (.int .i64 n):=Go.Joins.cell_of_block hx 0;by_cases hn0:n<0
 ·have hnb:decide (n<0)=true:=decide_eq_true hn0
  have hd:cn F g o w (bD n t (s::r)) (.returned (.int .i64 1)) (w.alloc (.cells #[.pointer (some ⟨g,o,none⟩),.int .i64 P,.slice A (r.length+1) c] 108)):=by
   have e:bD n t (s::r)=(1,t):=by rw[bF,if_pos hn0]
   rw[e];exact⟨rfl,h.still hb1⟩
  have HD:=hid hd;clear hd H1 hb1 h hP hm hge hx;go_enter Tryz.func132,Tryz.ntmps132;go_wp2_with fail;go_ret;exact HD.out
 have hnb:decide (n<0)=false:=decide_eq_false hn0;obtain⟨m,rfl⟩: ∃m:Nat,n=m:=⟨n.toNat,by omega⟩
 have hcall:Calls Tryz.prog 133 #[.agg #[.pointer (some ⟨g,o,none⟩),.int .i64 P,.slice A (r.length+1) c],.int .i64 m] (w.alloc (.cells #[.pointer (some ⟨g,o,none⟩),.int .i64 P,.slice A (r.length+1) c] 108)) fun e w'=>e= .returned (.tuple #[])∧cn F g o w (bD m t (s::r)) (.returned (.int .i64 0)) w':=by
  by_cases hneg:P<0
  ·refine(vj F t g o P hneg _ _ _ H1).mono ?_;rintro e w' ⟨rfl,hd⟩;refine⟨rfl,cn.from (res:=bD m t (s::r)) ?_ hb1 h.lt⟩;rw[bF];rw[←hP,if_neg hn0,if_pos hneg];exact⟨rfl,hd⟩
  obtain⟨j,rfl⟩: ∃j:Nat,P=j:=⟨P.toNat,by omega⟩
  have hj:j<t.items.length:=by
   have:=aP (bT hm) (s:=s) (by rw[←hP];omega);rw[←hP]at this;simpa using this
  refine(vU F t g o j hj _ m (by omega) _ H1).mono ?_;rintro e w' ⟨rfl,hd⟩;refine⟨rfl,cn.from (res:=bD m t (s::r)) ?_ hb1 h.lt⟩
  have e:bD m t (s::r)=(0,bS t j (gB t.items[j] m)):=by
   rw[bF];rw[←hP,if_neg hn0,if_neg hneg,Int.toNat_natCast,List.getElem?_eq_getElem hj]
  rw[e];exact⟨rfl,hd⟩
 have HC:=hid hcall;clear hcall H1 hb1 h hP hm hge hx;go_enter Tryz.func132,Tryz.ntmps132;go_wp2_with fail;refine HC.out.mono ?_;rintro e w2 ⟨rfl,hd⟩;have HD:=hid hd;clear hd HC;go_wp2_with fail;go_ret;exact HD.out
end Go.Proofs.YtgbopnlpaabelaaGreatDoor
