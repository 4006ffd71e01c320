/- The program's Get: what its closure does at the end of a path. -/
import Derived.Test.YtgbopnlpaabelaaGreatDoorKTrA
import Derived.Test.YtgbopnlpaabelaaGreatDoorKRefO
import Derived.Test.YtgbopnlpaabelaaGreatDoorKTrI
set_option maxHeartbeats 64000000
set_option maxRecDepth 100000
set_option linter.unusedVariables false
set_option linter.unusedSimpArgs false
namespace Go.Proofs.YtgbopnlpaabelaaGreatDoor
open Lib (hid)
open Go.RowKit
def aj (g h:Nat)(w w':World):Prop:=w.heap.size≤w'.heap.size∧ ∀b,b<w.heap.size→b≠g→b≠h→w'.heap[b]? =w.heap[b]?
theorem aj.refl (g h:Nat)(w:World):aj g h w w:=⟨Nat.le_refl _,fun _ _ _ _=>rfl⟩
theorem aj.trans (g h:Nat)(a b c:World)(x:aj g h a b)(y:aj g h b c):aj g h a c:=⟨Nat.le_trans x.1 y.1,fun i hi hg hh=>(y.2 i (Nat.lt_of_lt_of_le hi x.1) hg hh).trans (x.2 i hi hg hh)⟩
theorem aj.of {g h:Nat}{w w':World}(x:Below w.heap.size w w'):aj g h w w':=⟨x.size,fun b hb _ _=>x.block b hb⟩
instance (g h:Nat) (w:World):Inhabited (af (aj g h) w):=⟨⟨w,aj.refl g h w⟩⟩
theorem dY {g h:Nat}{w:World}{b o:Nat}{v:Value}(x:w.cell? ⟨b,o,none⟩=some v)(hB:b<w.heap.size)(hg:b<g)(hh:g<h): ∀p:af (aj g h) w,p.u.cell? ⟨b,o,none⟩=some v:=fun p=>(World.cell?_of_block (a:=⟨b,o,none⟩) (p.h.2 b hB (by omega) (by omega))).trans x
def rz (gF:Nat)(w:World)(r:Option VT)(e:Ending)(w':World):Prop:=
 e= .returned (.int .i64 0)∧Below gF w w'∧ ∃A c A' c',Box w' gF (.int .i64 (r.getD (.mk 0 0 ⟨#[]⟩ [] [])).kind) (.int .i64 (r.getD (.mk 0 0 ⟨#[]⟩ [] [])).num) (.string (r.getD (.mk 0 0 ⟨#[]⟩ [] [])).text) (.slice A (r.getD (.mk 0 0 ⟨#[]⟩ [] [])).items.length c) (.slice A' (r.getD (.mk 0 0 ⟨#[]⟩ [] [])).names.length c')∧
  LV w' (fun b=>gF+1<b∧b<w'.heap.size) (r.getD (.mk 0 0 ⟨#[]⟩ [] [])) (.agg #[.int .i64 (r.getD (.mk 0 0 ⟨#[]⟩ [] [])).kind,.int .i64 (r.getD (.mk 0 0 ⟨#[]⟩ [] [])).num,.string (r.getD (.mk 0 0 ⟨#[]⟩ [] [])).text,.slice A (r.getD (.mk 0 0 ⟨#[]⟩ [] [])).items.length c,.slice A' (r.getD (.mk 0 0 ⟨#[]⟩ [] [])).names.length c'])∧
  w'.heap[gF+1]? =some (.cells #[.bool r.isSome] 4 (0,0))
theorem vv (P:Int)(hP:P<0)(pin rest:Value)(gF:Nat)(w:World)(hx:Box w gF (.int .i64 0) (.int .i64 0) (.string ⟨#[]⟩) (.slice none 0 0) (.slice none 0 0))(ho:w.heap[gF+1]? =some (.cells #[.bool false] 4 (0,0))):
  Calls Tryz.prog 95 #[.agg #[pin,.int .i64 P,rest],.pointer (some ⟨gF,0,none⟩),.pointer (some ⟨gF+1,0,none⟩)] w (rz gF w none):=by
 have HX:=hid hx;have HO:=hid ho;have hneg:decide (0≤P)=false:=decide_eq_false (by omega);have hlt:=hx.lt;have hlt1:gF+1<w.heap.size:=(Array.getElem?_eq_some_iff.1 ho).1;clear hx ho;go_enter Tryz.func95,Tryz.ntmps95;go_wp2_with fail;go_ret;refine⟨rfl,(ae _).mono (by omega),none,0,none,0,HX.out.alloc _,fi _ _ 0 0 ⟨#[]⟩ (by unfold Rng;omega) (by unfold Rng;omega) (by decide),(Below.heap_alloc w _ _ hlt1).trans HO.out⟩
theorem wS (S:Nat→Prop)(t:VT)(g o:Nat)(A:Option Addr)(c:Nat)(A':Option Addr)(c':Nat)(j:Nat)(hj:j<t.items.length)(rest:Value)(gF:Nat)(w:World)(h:AtV w S t g o A c A' c')(hg:g<gF)(hS: ∀b,S b→b<gF)
  (hx:Box w gF (.int .i64 0) (.int .i64 0) (.string ⟨#[]⟩) (.slice none 0 0) (.slice none 0 0)) (ho:w.heap[gF+1]? =some (.cells #[.bool false] 4 (0,0))):
  Calls Tryz.prog 95 #[.agg #[.pointer (some ⟨g,o,none⟩),.int .i64 j,rest],.pointer (some ⟨gF,0,none⟩),.pointer (some ⟨gF+1,0,none⟩)] w (rz gF w (some t.items[j])):=by
 have HX:=hid hx;have HO:=hid ho;have hneg:decide (0≤(j:Int))=true:=decide_eq_true (by omega);have hlt:=hx.lt;have hlt1:gF+1<w.heap.size:=(Array.getElem?_eq_some_iff.1 ho).1;obtain⟨G,off1,A2,c2,A3,c3,rfl,hG,hitem⟩:=h.item hj;have HI:=hid hitem;have hGF:=hS G hG;have h3:=h.c3;have hlen:=h.names.2.2;have HS:=hid hS;clear hx ho h hitem;obtain⟨u,hu⟩: ∃u,u=t.items[j]:=⟨_,rfl⟩;rw[←hu]at HI ⊢;clear hu;go_enter Tryz.func95,Tryz.ntmps95;go_wp2_with fail;refine av (aj gF (gF+1)) (aj.refl _ _) (aj.trans _ _) [] (.pure [0,1,2,3,4,5,6,7,8] (.step 9 (.step 10 (.step 11 (.tail []))))) (by kernel_rfl) (by kernel_rfl) (fun _ d _ _ _ h=>by cases d<;>exact h) ?_;have hz0:(w.alloc (.cells #[.pointer (some ⟨g,o,none⟩),.int .i64 j,rest] 108)).drew.heap.size=w.heap.size+1:=by simp
 have hb0:Below w.heap.size w (w.alloc (.cells #[.pointer (some ⟨g,o,none⟩),.int .i64 j,rest] 108)).drew:=(ae _).drew;have hs:(w.alloc (.cells #[.pointer (some ⟨g,o,none⟩),.int .i64 j,rest] 108)).drew.heap[w.heap.size]? =some (.cells #[.pointer (some ⟨g,o,none⟩),.int .i64 j,rest] 108 (0,0)):=heap_alloc_new w _;generalize (w.alloc (.cells #[.pointer (some ⟨g,o,none⟩),.int .i64 j,rest] 108)).drew=w0 at *;have s0: ∀p:af (aj gF (gF+1)) w0,p.u.cell? ⟨w.heap.size,0,none⟩=some (.pointer (some ⟨g,o,none⟩)):=fun p=>(World.cell?_of_block (a:=⟨w.heap.size,0,none⟩) (p.h.2 w.heap.size (by omega) (by omega) (by omega))).trans (Go.Joins.cell_of_block hs 0);have s1: ∀p:af (aj gF (gF+1)) w0,p.u.cell? ⟨w.heap.size,1,none⟩=some (.int .i64 j):=fun p=>(World.cell?_of_block (a:=⟨w.heap.size,1,none⟩) (p.h.2 w.heap.size (by omega) (by omega) (by omega))).trans (Go.Joins.cell_of_block hs 1);have q3:=dY (h:=gF+1) (w:=w0) ((World.cell?_of_block (a:=⟨g,o+3,none⟩) (hb0.block g (by omega))).trans h3) (by omega) hg (by omega);have hk0: ∀i,w0.cell? ⟨G,i,none⟩=w.cell? ⟨G,i,none⟩:=fun i=>World.cell?_of_block (a:=⟨G,i,none⟩) (hb0.block G (by omega));have i0:=dY (h:=gF+1) (w:=w0) ((hk0 _).trans HI.out.c0) (by omega) hGF (by omega);have i1:=dY (h:=gF+1) (w:=w0) ((hk0 _).trans HI.out.c1) (by omega) hGF (by omega);have i2:=dY (h:=gF+1) (w:=w0) ((hk0 _).trans HI.out.c2) (by omega) hGF (by omega);have i3:=dY (h:=gF+1) (w:=w0) ((hk0 _).trans HI.out.c3) (by omega) hGF (by omega);have i4:=dY (h:=gF+1) (w:=w0) ((hk0 _).trans HI.out.c4) (by omega) hGF (by omega)
 have HV0:=hid (HI.out.v.keep (w':=w0) fun b hb=>hb0.block b (by have:=HS.out b hb;omega));have HX0:=hid (HX.out.below hb0 hlt);have HO0:=hid ((hb0.block _ hlt1).trans HO.out);have HB0:=hid (hb0.mono (show gF≤w.heap.size by omega));clear hk0 hs hb0 h3 HX HO HI;refine bN ?_;simp only[atR];show wpQuiet _ _ _ _ [_,_,_,_,_,_,_,_,_] _;try simp only[acR,Act.put]
 repeat(go_big_quiet_step (fail))
 refine wpQuiet_nil ?_;clear s0 s1 q3 i0 i1 i2 i3 i4;refine ah rfl (fun K hK=> ?_)
 go_simp
 refine(pg S u _ w0 (fun b hb=>by have:=HS.out b hb;omega) HV0.out).mono ?_;rintro e w1 ⟨v',rfl,hlv,hb1⟩;refine hK _ _ (.inr (aj.of hb1)) ?_;clear hK K;obtain⟨B,k,B',k',rfl,-⟩:=hlv.shape;have hX1:=HX0.out.below hb1 (by omega);have hO1:=(hb1.block _ (show gF+1<w0.heap.size by omega)).trans HO0.out;have HL:=hid hlv;have HB1:=hid (HB0.out.trans (hb1.mono (show gF≤w0.heap.size by omega)));have hz1:=hb1.size;have x0:=hX1.c0;have x1:=hX1.c1;have x2:=hX1.c2;have x3:=hX1.c3;have x4:=hX1.c4;have xf:=fun i=>hX1.free i;have HX1:=hid hX1;have HO1:=hid hO1;clear hX1 hO1 hlv HX0 HO0 HB0 HV0 hb1;refine ah rfl (fun K hK=> ?_)
 go_simp
 have h5:=bE w1 gF 0 (.int .i64 u.kind) (.int .i64 u.num) (.string u.text) (.slice B u.items.length k) (.slice B' u.names.length k');have hz5:=bQ w1 gF 0 (.int .i64 u.kind) (.int .i64 u.num) (.string u.text) (.slice B u.items.length k) (.slice B' u.names.length k');have hr5:=cv w1 gF 0 (.int .i64 u.kind) (.int .i64 u.num) (.string u.text) (.slice B u.items.length k) (.slice B' u.names.length k');have hx5:=aZ (c0:= .int .i64 u.kind) (c1:= .int .i64 u.num) (c2:= .string u.text) (c3:= .slice B u.items.length k) (c4:= .slice B' u.names.length k') HX1.out;refine hK _ (cH w1 gF 0 (.int .i64 u.kind) (.int .i64 u.num) (.string u.text) (.slice B u.items.length k) (.slice B' u.names.length k')) (.inr ⟨by omega,fun b hb hg hh=>h5 b hg⟩) ?_;clear hK K;generalize cH w1 gF 0 (.int .i64 u.kind) (.int .i64 u.num) (.string u.text) (.slice B u.items.length k) (.slice B' u.names.length k')=w5 at *;have hO5:=(h5 (gF+1) (by omega)).trans HO1.out;have HX5:=hid hx5
 have HL5:Hid (LV w5 (fun b=>gF+1<b∧b<w5.heap.size) u (.agg #[.int .i64 u.kind,.int .i64 u.num,.string u.text,.slice B u.items.length k,.slice B' u.names.length k'])):=
  hid ((HL.out.keep (w':=w5) fun b hb=>h5 b (by have:=hb.1;omega)).imp fun b hb=>⟨by have:=hb.1;omega,by have:=hb.2;omega⟩)
 have HB5:Hid (Below gF w w5):=hid ⟨hr5.1.trans HB1.out.os,hr5.2.1.trans HB1.out.tape,hr5.2.2.trans HB1.out.output,by rw[hz5];exact HB1.out.size,fun b hb=>(h5 b (by omega)).trans (HB1.out.block b hb)⟩;have o0:=Go.Joins.cell_of_block hO5 0;have of:=fun i=>Go.Joins.unfrozen_of_block hO5 i;have hO6:(w5.setCell ⟨gF+1,0,none⟩ (.bool true)).heap[gF+1]? =some (.cells #[.bool true] 4 (0,0)):=Go.Joins.block_setCell (i:=0) hO5 (.bool true);have hother: ∀b,b≠gF+1→(w5.setCell ⟨gF+1,0,none⟩ (.bool true)).heap[b]? =w5.heap[b]? :=fun b hb=>heap_setCell_other _ ⟨gF+1,0,none⟩ b _ hb;have hz6:(w5.setCell ⟨gF+1,0,none⟩ (.bool true)).heap.size=w5.heap.size:=by simp
 have HFIN:Hid (rz gF w (some u) (.returned (.int .i64 0)) (w5.setCell ⟨gF+1,0,none⟩ (.bool true))):=hid ⟨rfl,
  ⟨HB5.out.os,HB5.out.tape,HB5.out.output,by rw[hz6];exact HB5.out.size,fun b hb=>(hother b (by omega)).trans (HB5.out.block b hb)⟩,
  B,k,B',k',(hother gF (by omega)).trans HX5.out,(HL5.out.keep (w':=w5.setCell ⟨gF+1,0,none⟩ (.bool true)) fun b hb=>hother b (by have:=hb.1;omega)).imp fun b hb=>⟨hb.1,by rw[hz6];exact hb.2⟩,hO6⟩
 clear h5 hr5 hx5 HX1 HO1 HL HB1 x0 x1 x2 x3 x4 xf HX5 HL5 HB5 hO6;refine ah rfl (fun K hK=> ?_)
 go_simp
 refine hK _ _ (.inr ⟨by omega,fun b hb hg hh=>hother b hh⟩) ?_;clear hK K hother hO5 o0 of;refine aX ?_;generalize w5.setCell ⟨gF+1,0,none⟩ (.bool true)=w6 at *;go_wp2_with fail;go_ret;exact HFIN.out
theorem qM :eE 95:=fun _ _=>by simp[callFunc,go_sem,Tryz.func95,Tryz.f95]
theorem rz.from {gF:Nat}{W0 w:World}{r:Option VT}{e:Ending}{w':World}(h:rz gF w r e w')(hb:Below gF W0 w):rz gF W0 r e w':=⟨h.1,hb.trans h.2.1,h.2.2⟩
def AR (S:Nat→Prop)(t0:VT)(p0:List ByteArray)(gF:Nat)(W0 w:World)(t:VT)(g o:Nat)(A:Option Addr)(c:Nat)(p:List ByteArray):Prop:=
 (∃B k B' k',AtV w S t g o B k B' k')∧g<gF∧ao t=true∧aV t0 p0=aV t p∧ai w S A p∧p≠[]∧p.length≤c∧c≤9223372036854775807∧(∀s∈p,s.size≤140737488351232)∧Below gF W0 w∧
  Box w gF (.int .i64 0) (.int .i64 0) (.string ⟨#[]⟩) (.slice none 0 0) (.slice none 0 0)∧w.heap[gF+1]? =some (.cells #[.bool false] 4 (0,0))
theorem pV (S:Nat→Prop)(t:VT)(g o:Nat)(A:Option Addr)(c:Nat)(p:List ByteArray)(gF:Nat)(w:World)(hS: ∀b,S b→b<gF)(h:AR S t p gF w w t g o A c p):
  Calls Tryz.prog 94 #[.pointer (some ⟨g,o,none⟩),.slice A p.length c,.func (.func 95) #[] #[.pointer (some ⟨gF,0,none⟩),.pointer (some ⟨gF+1,0,none⟩)]] w (rz gF w (aV t p)):=by
 refine oP 95 #[.pointer (some ⟨gF,0,none⟩),.pointer (some ⟨gF+1,0,none⟩)] (rz gF w (aV t p)) (AR S t p gF w) qM (fun e w' h=>⟨_,h.1⟩) ?_ ?_ ?_ ?_ ?_ p t g o A c w h
 ·rintro w' t' g' o' A' c' p' ⟨⟨B,k,B',k',hv⟩,hg,hm,-,-,-,-,-,-,-,hx,-⟩;exact⟨S,B,k,B',k',hv,Nat.lt_trans hg hx.lt,bT hm⟩
 ·rintro w' t' g' o' A' c' p' ⟨-,-,-,-,hs,hp,hc,h63,hz,-⟩;exact⟨S,hs,hc,h63,hp,hz⟩
 ·rintro w' w'' t' g' o' A' c' p' ⟨⟨B,k,B',k',hv⟩,hg,hm,he,hs,hp,hc,h63,hz,hb,hx,ho⟩ hbb;have hlt:=hx.lt;have ho1:gF+1<w'.heap.size:=(Array.getElem?_eq_some_iff.1 ho).1;exact⟨⟨B,k,B',k',hv.keep (hbb.block _ (by omega)) fun b hb=>hbb.block b (by have:=hS b hb;omega)⟩,hg,hm,he,hs.keep fun b hb=>hbb.block b (by have:=hS b hb;omega),hp,hc,h63,hz,hb.trans (hbb.mono (by omega)),hx.call hbb,(hbb.block _ ho1).trans ho⟩
 ·rintro w' t' g' o' A' c' s r G off B k B' k' S' hj ⟨⟨B0,k0,B0',k0',hv⟩,hg,hm,he,hs,hp,hc,h63,hz,hb,hx,ho⟩ hr hn hat rfl
  have hB0:B0=some ⟨G,off,none⟩:=by
   have h1:=hv.c3.symm.trans hat.c3;injection h1 with h1
   injection h1 with h1
  subst hB0;obtain⟨G1,off1,A2,c2,A3,c3,h1,hG,hi⟩:=hv.item hj;injection h1 with h1
  injection h1 with h1 h2
  subst h1 h2;have hrl:0<r.length:=by cases r with|nil=>exact absurd rfl hr|cons a b=>simp
  simp only[List.length_cons]at hc;exact⟨⟨A2,c2,A3,c3,hi⟩,hS _ hG,cl hm hj,he.trans (mG hn hj),hs.tail (.inr (by omega)),hr,by omega,by omega,fun x hx=>hz x (List.mem_cons_of_mem _ hx),hb,hx,ho⟩
 ·rintro w' t' g' o' A' c' s r ⟨⟨B,k,B',k',hv⟩,hg,hm,he,hs,hp,hc,h63,hz,hb,hx,ho⟩ hend;by_cases hneg:ab t' s<0
  ·rw[he,rG hneg];exact(vv (ab t' s) hneg _ _ gF w' hx ho).mono fun e w2 h=>h.from hb
  ·have hr:r= []:=hend.resolve_left hneg;subst hr;have hn:0≤ab t' s:=by omega
   have hj:=aP (bT hm) hn;rw[he,mG hn hj];have:=(wS S t' g' o' B k B' k' (ab t' s).toNat hj (.slice A' ([]:List ByteArray).length.succ c') gF w' hv hg hS hx ho).mono fun e w2 h=>h.from hb;rw[Int.toNat_of_nonneg hn]at this;exact this
def bC (t:VT)(p:List ByteArray):Option VT:=if dN t p=0 then aV t p else none
def yq (t:VT)(p:List ByteArray)(w:World)(e:Ending)(w':World):Prop:=
 ∃v,e= .returned (.tuple #[v,.bool (bC t p).isSome])∧LV w' (New w.heap.size w') ((bC t p).getD (.mk 0 0 ⟨#[]⟩ [] [])) v∧Below w.heap.size w w'
theorem mK {w w5:World}{t u:VT}{p:List ByteArray}{ok:Bool}{c0 c1 c2 c3 c4:Value}(hb:Below w.heap.size w w5)(hv:LV w5 (fun b=>w.heap.size+1<b∧b<w5.heap.size) u (.agg #[c0,c1,c2,c3,c4]))(hg:(bC t p).getD (.mk 0 0 ⟨#[]⟩ [] [])=u)(hok:ok=(bC t p).isSome):
  yq t p w (.returned (.tuple #[.agg #[c0,c1,c2,c3,c4],.bool ok])) (cH w5 (w.heap.size+1) 0 c0 c1 c2 c3 c4):=by
 have hr5:=cv w5 (w.heap.size+1) 0 c0 c1 c2 c3 c4;have hk:=bE w5 (w.heap.size+1) 0 c0 c1 c2 c3 c4;have hz:=bQ w5 (w.heap.size+1) 0 c0 c1 c2 c3 c4;subst hg hok
 exact⟨_,rfl,(hv.keep fun b hb'=>hk b (by have:=hb'.1;omega)).imp fun b hb'=>⟨by have:=hb'.1;omega,by rw[hz];exact hb'.2⟩,
  ⟨hr5.1.trans hb.os,hr5.2.1.trans hb.tape,hr5.2.2.trans hb.output,by rw[hz];exact hb.size,fun b hb'=>(hk b (by omega)).trans (hb.block b hb')⟩⟩
theorem nn {t:VT}{p:List ByteArray}(h:0=dN t p):ao t=true∧t.kind=7∧ce p=true:=by
 unfold dN at h
 cases hd:cS t with
 |false=>rw[hd]at h;simp at h
 |true=>
  cases hp:ce p with
  |false=>rw[hd,hp]at h;simp at h
  |true=>
   unfold cS at hd;simp only[Bool.and_eq_true,decide_eq_true_eq]at hd;exact⟨hd.2,hd.1,rfl⟩
theorem gA {p:List ByteArray}(h:ce p=true):p≠[]:=by
 rintro rfl;unfold ce at h;simp at h
theorem nF {w:World}{S:Nat→Prop}{A:Option Addr}{p:List ByteArray}(h:ai w S A p): ∀s∈p,s.size≤140737488351232:=by
 intro s hs;obtain⟨i,hi,rfl⟩:=List.mem_iff_getElem.1 hs;obtain⟨b,off,-,-,hx⟩:=h (by omega);exact(hx i hi).2
theorem nh (S:Nat→Prop)(t:VT)(v:Value)(A:Option Addr)(c:Nat)(p:List ByteArray)(w:World)(hS: ∀b,S b→b<w.heap.size)(h:LV w S t v)(hd:ac t≤4611686018427387903)(hp:ai w S A p)(hn:p.length≤140737488351232)(hpc:p.length≤c)(h63:c≤9223372036854775807):
  Calls Tryz.prog 54 #[v,.slice A p.length c] w (yq t p w):=by
 obtain⟨A0,c0,A0',c0',rfl,-,-,-,v1,hb0⟩:=bY hS h;have HX:=hid v1.x;have HB:=hid hb0;have HP:=hid hp;have HV:=hid h;have HD:=hid hd;clear h v1 hb0 hp hd;go_enter Tryz.func54,Tryz.ntmps54;go_wp2_with fail;have hz1:(w.alloc (.cells #[.int .i64 t.kind,.int .i64 t.num,.string t.text,.slice A0 t.items.length c0,.slice A0' t.names.length c0'] 25)).heap.size=w.heap.size+1:=by simp
 have hB0:Below w.heap.size w ((w.alloc (.cells #[.int .i64 t.kind,.int .i64 t.num,.string t.text,.slice A0 t.items.length c0,.slice A0' t.names.length c0'] 25)).alloc (.cells #[.int .i64 0,.int .i64 0,.string ⟨#[]⟩,.slice none 0 0,.slice none 0 0] 25)):=HB.out.alloc (by omega) _;have hX0:=HX.out.alloc (.cells #[.int .i64 0,.int .i64 0,.string ⟨#[]⟩,.slice none 0 0,.slice none 0 0] 25)
 have hR0:Box ((w.alloc (.cells #[.int .i64 t.kind,.int .i64 t.num,.string t.text,.slice A0 t.items.length c0,.slice A0' t.names.length c0'] 25)).alloc (.cells #[.int .i64 0,.int .i64 0,.string ⟨#[]⟩,.slice none 0 0,.slice none 0 0] 25)) (w.heap.size+1) (.int .i64 0) (.int .i64 0) (.string ⟨#[]⟩) (.slice none 0 0) (.slice none 0 0):=by
  have h:=Box.new (w:=w.alloc (.cells #[.int .i64 t.kind,.int .i64 t.num,.string t.text,.slice A0 t.items.length c0,.slice A0' t.names.length c0'] 25)) (.int .i64 0) (.int .i64 0) (.string ⟨#[]⟩) (.slice none 0 0) (.slice none 0 0);rw[hz1]at h;exact h
 have hz2:((w.alloc (.cells #[.int .i64 t.kind,.int .i64 t.num,.string t.text,.slice A0 t.items.length c0,.slice A0' t.names.length c0'] 25)).alloc (.cells #[.int .i64 0,.int .i64 0,.string ⟨#[]⟩,.slice none 0 0,.slice none 0 0] 25)).heap.size=w.heap.size+2:=by simp
 have HCHK:=hid (mU S t _ A c p _ (fun b hb=>Nat.lt_of_lt_of_le (hS b hb) hB0.size) (HV.out.keep fun b hb=>hB0.block b (hS b hb)) HD.out (HP.out.keep fun b hb=>hB0.block b (hS b hb)) hn);have HB0:=hid hB0;have HX0:=hid hX0;have HR0:=hid hR0;clear hB0 hX0 hR0 hz1 HB HX;go_wp2_with fail;refine HCHK.out.mono ?_;rintro e w3 ⟨rfl,hb3⟩;have HB3:=hid (HB0.out.trans (hb3.mono (by omega)));have HX3:=hid (HX0.out.call hb3);have HR3:=hid (HR0.out.call hb3);have hz3:w.heap.size+2≤w3.heap.size:=by have:=hb3.size;omega
 clear hb3 HB0 HX0 HR0 HCHK hz2;obtain⟨W,hW⟩: ∃W,W=dN t p:=⟨_,rfl⟩;rw[←hW];have HW:=hid hW;clear hW;have rf:=fun i=>HR3.out.free i;have r0:=HR3.out.c0;have r1:=HR3.out.c1;have r2:=HR3.out.c2;have r3:=HR3.out.c3;have r4:=HR3.out.c4;by_cases h0:W=0;rotate_left
 ·have h1:(W != 0)=true:=by simp[h0]
  have hg:bC t p=none:=by unfold bC;rw[if_neg (by rw[←HW.out];exact h0)]
  have HG:=hid hg;clear hg h0;go_wp2_with fail;refine bodyPost_ret (aq rfl _ _ (w.heap.size+1) 25 _ (0,0) rfl (aZ HR3.out) (by kernel_rfl)) rfl ?_;exact mK HB3.out (fi _ _ 0 0 ⟨#[]⟩ (by unfold Rng;omega) (by unfold Rng;omega) (by decide)) (by rw[HG.out];rfl) (by rw[HG.out];rfl)
 subst h0;obtain⟨hm,h7,hmp⟩:=nn HW.out;have HM:=hid hm;have HMP:=hid hmp;have HGT:Hid (bC t p=aV t p):=hid (by unfold bC;rw[if_pos HW.out.symm]);clear hm h7 hmp r0 r1 r2 r3 r4 rf;go_wp2_with fail;have hzf:(w3.alloc (.cells #[.int .i64 0,.int .i64 0,.string ⟨#[]⟩,.slice none 0 0,.slice none 0 0] 25)).heap.size=w3.heap.size+1:=by simp
 have hBf:Below w3.heap.size w3 ((w3.alloc (.cells #[.int .i64 0,.int .i64 0,.string ⟨#[]⟩,.slice none 0 0,.slice none 0 0] 25)).alloc (.cells #[.bool false] 4)):=(ae _).alloc (by omega) _;have hXf:Box ((w3.alloc (.cells #[.int .i64 0,.int .i64 0,.string ⟨#[]⟩,.slice none 0 0,.slice none 0 0] 25)).alloc (.cells #[.bool false] 4)) w3.heap.size (.int .i64 0) (.int .i64 0) (.string ⟨#[]⟩) (.slice none 0 0) (.slice none 0 0):=(Box.new (w:=w3) _ _ _ _ _).alloc _
 have hOf:((w3.alloc (.cells #[.int .i64 0,.int .i64 0,.string ⟨#[]⟩,.slice none 0 0,.slice none 0 0] 25)).alloc (.cells #[.bool false] 4)).heap[w3.heap.size+1]? =some (.cells #[.bool false] 4 (0,0)):=by
  rw[←hzf];exact heap_alloc_new _ _
 generalize (w3.alloc (.cells #[.int .i64 0,.int .i64 0,.string ⟨#[]⟩,.slice none 0 0,.slice none 0 0] 25)).alloc (.cells #[.bool false] 4)=w4 at *;have hB4:=HB3.out.trans (hBf.mono (show w.heap.size≤w3.heap.size by omega));have hX4:=HX3.out.call hBf;have hR4:=HR3.out.call hBf
 have hI:AR S t p w3.heap.size w4 w4 t w.heap.size 0 A c p:=
  ⟨⟨_,_,_,_,AtV.of_box hX4 (HV.out.keep fun b hb=>hB4.block b (hS b hb))⟩,by omega,HM.out,rfl,HP.out.keep fun b hb=>hB4.block b (hS b hb),gA HMP.out,hpc,h63,nF HP.out,Below.refl _ _,hXf,hOf⟩
 have HB4:=hid hB4;have HR4:=hid hR4;have hz4:=hBf.size;have HCALL:=hid (pV S t w.heap.size 0 A c p w3.heap.size w4 (fun b hb=>by have:=hS b hb;omega) hI);obtain⟨gF,hgF⟩: ∃gF,gF=w3.heap.size:=⟨_,rfl⟩;rw[←hgF]at HCALL ⊢;rw[←hgF]at hz3;clear hI hX4 hR4 hB4 hXf hOf hBf hzf HX3 HR3 HB3 hz4 hgF;refine HCALL.out.mono ?_;rintro e w5 ⟨rfl,hb5,F,cF,F',cF',hx5,hv5,ho5⟩;have HB5:=hid (HB4.out.trans (hb5.mono (show w.heap.size≤gF by omega)));have HR5:Hid (Box w5 (w.heap.size+1) _ _ _ _ _):=hid ((hb5.block _ (show w.heap.size+1<gF by omega)).trans HR4.out);rw[←HGT.out]at hx5 hv5 ho5;have HV5:=hid hv5;have HX5:=hid hx5;have HO5:=hid ho5;clear HCALL HR4 HB4 hb5 hx5 hv5 ho5 HV;generalize hU:(bC t p).getD (.mk 0 0 ⟨#[]⟩ [] [])=u at *;generalize hOK:(bC t p).isSome=ok at *;have HU:=hid hU;have HOK:=hid hOK;clear hU hOK HGT;go_wp2_with fail;refine av (aj (w.heap.size+1) (w.heap.size+1)) (aj.refl _ _) (aj.trans _ _) [] (.pure [0,1] (.step 2 (.step 3 (.tail [])))) (by kernel_rfl) (by kernel_rfl) (fun _ d _ _ _ h=>by cases d<;>exact h) ?_;have hbd:Below w5.heap.size w5 w5.drew:=(Below.refl _ _).drew;have HB5:=hid (HB5.out.trans (hbd.mono (HB5.out.size)));have HR5:=hid (HR5.out.call hbd);have HX5:=hid (HX5.out.call hbd);have HO5:Hid (w5.drew.heap[gF+1]? =some (.cells #[.bool ok] 4 (0,0))):=hid HO5.out;have HV5:Hid (LV w5.drew (fun b=>gF+1<b∧b<w5.drew.heap.size) u _):=hid (HV5.out.keep (w':=w5.drew) fun b hb=>hbd.block b hb.2);clear hbd;generalize w5.drew=w6 at *;have hlF:=HX5.out.lt;have hlO:gF+1<w6.heap.size:=(Array.getElem?_eq_some_iff.1 HO5.out).1
 have kf: ∀(p:af (aj (w.heap.size+1) (w.heap.size+1)) w6) (i:Nat),p.u.cell? ⟨gF,i,none⟩=w6.cell? ⟨gF,i,none⟩:=fun p i=>World.cell?_of_block (a:=⟨gF,i,none⟩) (p.h.2 gF (by omega) (by omega) (by omega));have q0:=fun p:af (aj (w.heap.size+1) (w.heap.size+1)) w6=>(kf p 0).trans HX5.out.c0;have q1:=fun p:af (aj (w.heap.size+1) (w.heap.size+1)) w6=>(kf p 1).trans HX5.out.c1;have q2:=fun p:af (aj (w.heap.size+1) (w.heap.size+1)) w6=>(kf p 2).trans HX5.out.c2;have q3:=fun p:af (aj (w.heap.size+1) (w.heap.size+1)) w6=>(kf p 3).trans HX5.out.c3;have q4:=fun p:af (aj (w.heap.size+1) (w.heap.size+1)) w6=>(kf p 4).trans HX5.out.c4;have q5: ∀p:af (aj (w.heap.size+1) (w.heap.size+1)) w6,p.u.cell? ⟨gF+1,0,none⟩=some (.bool ok):=fun p=>(World.cell?_of_block (a:=⟨gF+1,0,none⟩) (p.h.2 (gF+1) (by omega) (by omega) (by omega))).trans (Go.Joins.cell_of_block HO5.out 0);clear kf;refine bN ?_;simp only[atR];show wpQuiet _ _ _ _ [_,_] _;try simp only[acR,Act.put]
 repeat(go_big_quiet_step (fail))
 refine wpQuiet_nil ?_;clear q0 q1 q2 q3 q4 q5;have r0:=HR5.out.c0;have r1:=HR5.out.c1;have r2:=HR5.out.c2;have r3:=HR5.out.c3;have r4:=HR5.out.c4;have rf:=fun i=>HR5.out.free i;have hbox:=aZ (c0:= .int .i64 u.kind) (c1:= .int .i64 u.num) (c2:= .string u.text) (c3:= .slice F u.items.length cF) (c4:= .slice F' u.names.length cF') HR5.out;have hend:=mK (p:=p) (t:=t) HB5.out (HV5.out.imp fun b hb=>⟨by have:=hb.1;omega,hb.2⟩) HU.out HOK.out.symm;have h5:=bE w6 (w.heap.size+1) 0 (.int .i64 u.kind) (.int .i64 u.num) (.string u.text) (.slice F u.items.length cF) (.slice F' u.names.length cF');have hz5:=bQ w6 (w.heap.size+1) 0 (.int .i64 u.kind) (.int .i64 u.num) (.string u.text) (.slice F u.items.length cF) (.slice F' u.names.length cF');have HBOX:=hid hbox;have HEND:=hid hend;clear hbox hend;refine ah rfl (fun K hK=> ?_)
 go_simp
 refine hK _ (cH w6 (w.heap.size+1) 0 (.int .i64 u.kind) (.int .i64 u.num) (.string u.text) (.slice F u.items.length cF) (.slice F' u.names.length cF')) (.inr ⟨by omega,fun b hb hg hh=>h5 b hg⟩) ?_;clear hK K r0 r1 r2 r3 r4 rf h5 hz5 HR5 HX5 HO5 HV5;generalize cH w6 (w.heap.size+1) 0 (.int .i64 u.kind) (.int .i64 u.num) (.string u.text) (.slice F u.items.length cF) (.slice F' u.names.length cF')=w7 at *;refine ah rfl (fun K hK=> ?_)
 go_simp
 refine hK _ _ (.inr (aj.refl _ _ _)) ?_;clear hK K;refine aX ?_;go_wp2_with fail;refine bodyPost_ret (aq rfl _ _ (w.heap.size+1) 25 _ (0,0) rfl HBOX.out (by kernel_rfl)) rfl ?_;exact HEND.out
end Go.Proofs.YtgbopnlpaabelaaGreatDoor
/- Whether an array lies around a path's end, plain. -/
namespace Go.Proofs.YtgbopnlpaabelaaGreatDoor
def jq (v:VT)(p:List ByteArray):Bool:=match bC v p.dropLast with
 |some y=>decide (y.kind=6)
 |none=>false
end Go.Proofs.YtgbopnlpaabelaaGreatDoor
/- Whether an operator may be, by the program. -/
namespace Go.Proofs.YtgbopnlpaabelaaGreatDoor
open Lib (hid)
open Go.RowKit
def OpL (w:World)(S:Nat→Prop)(o:OpT)(cs:Array Value):Prop:=
 ∃(PA:Option Addr) (pc:Nat) (a b c d e:Value) (TA:Option Addr) (tc:Nat),cs= #[.int .i64 o.kind,.slice PA o.path.length pc,a,b,c,d,e,.slice TA o.to.length tc]∧
  LV w S o.val (.agg #[a,b,c,d,e])∧ai w S PA o.path∧ai w S TA o.to∧o.path.length≤pc∧o.to.length≤tc∧Rng o.kind∧o.path.length≤8796093021952∧o.to.length≤8796093021952
theorem OpL.keep {w w':World}{S:Nat→Prop}{o:OpT}{cs:Array Value}(h:OpL w S o cs)(hk: ∀b,S b→w'.heap[b]? =w.heap[b]?):OpL w' S o cs:=by
 obtain⟨PA,pc,a,b,c,d,e,TA,tc,h1,h2,h3,h4,h5⟩:=h;exact⟨PA,pc,a,b,c,d,e,TA,tc,h1,h2.keep hk,h3.keep hk,h4.keep hk,h5⟩
theorem OpL.imp {w:World}{S S':Nat→Prop}{o:OpT}{cs:Array Value}(h:OpL w S o cs)(hS: ∀b,S b→S' b):OpL w S' o cs:=by
 obtain⟨PA,pc,a,b,c,d,e,TA,tc,h1,h2,h3,h4,h5⟩:=h;exact⟨PA,pc,a,b,c,d,e,TA,tc,h1,h2.imp hS,h3.imp hS,h4.imp hS,h5⟩
theorem OpL.below {w w':World}{S:Nat→Prop}{o:OpT}{cs:Array Value}(h:OpL w S o cs)(hS: ∀b,S b→b<w.heap.size)(hb:Below w.heap.size w w'):OpL w' S o cs:=h.keep fun b hb'=>hb.block b (hS b hb')
theorem vT (S:Nat→Prop)(o:OpT)(cs:Array Value)(w:World)(hS: ∀b,S b→b<w.heap.size)(h:OpL w S o cs)(hd:ac o.val≤4611686018427387903):
  Calls Tryz.prog 142 #[.agg cs] w fun e w'=>e= .returned (.bool (bc o))∧Below w.heap.size w w':=by
 obtain⟨PA,pc,a,b,c,d,e,TA,tc,rfl,hv,hp,ht,hpc,htc,hk,hpl,htl⟩:=h;obtain⟨VA,vc,VA',vc',hvs,-⟩:=hv.shape;simp only[Value.agg.injEq,Array.mk.injEq,List.cons.injEq,and_true]at hvs;obtain⟨rfl,rfl,rfl,rfl,rfl⟩:=hvs;obtain⟨w1,hw1⟩: ∃W,W=w.alloc (.cells #[.int .i64 o.kind,.slice PA o.path.length pc,.int .i64 o.val.kind,.int .i64 o.val.num,.string o.val.text,.slice VA o.val.items.length vc,.slice VA' o.val.names.length vc',.slice TA o.to.length tc] 51):=⟨_,rfl⟩;have hbk:w1.heap[w.heap.size]? =some (.cells #[.int .i64 o.kind,.slice PA o.path.length pc,.int .i64 o.val.kind,.int .i64 o.val.num,.string o.val.text,.slice VA o.val.items.length vc,.slice VA' o.val.names.length vc',.slice TA o.to.length tc] 51 (0,0)):=by rw[hw1];exact heap_alloc_new w _
 have hb1:Below w.heap.size w w1:=by rw[hw1];exact(Below.refl _ _).alloc (Nat.le_refl _) _
 have y0:=Go.Joins.cell_of_block hbk 0;have y1:=Go.Joins.cell_of_block hbk 1;have y2:=Go.Joins.cell_of_block hbk 2;have y3:=Go.Joins.cell_of_block hbk 3;have y4:=Go.Joins.cell_of_block hbk 4;have y5:=Go.Joins.cell_of_block hbk 5;have y6:=Go.Joins.cell_of_block hbk 6;have y7:=Go.Joins.cell_of_block hbk 7;have hS1: ∀b,S b→b<w1.heap.size:=fun b hb=>Nat.lt_of_lt_of_le (hS b hb) hb1.size;have hv1:=hv.keep fun b hb=>hb1.block b (hS b hb);have HMA:=hid (gU PA pc o.path w1 S (hp.keep fun b hb=>hb1.block b (hS b hb)) (by omega));have HCK:=hid (fl S o.val _ w1 hS1 hv1 hd);have HNO:=hid (nU S o.val _ w1 hS1 hv1);have HBK:=hid hbk;have HB1:=hid hb1;have HW1:=hid hw1;have HS:=hid hS;have HT:=hid ht;have HTL:=hid htl;obtain⟨r,hr⟩: ∃r,r=bc o:=⟨_,rfl⟩;have HR:=hid hr;rw[←hr];clear hbk hb1 hS1 hv1 hv hp ht hpc htc hk hpl htl hd hS hr;go_enter Tryz.func142,Tryz.ntmps142;go_wp2_with fail;rw[←hw1];clear hw1;refine HMA.out.mono ?_;rintro e w2 ⟨rfl,rfl⟩;clear HMA;cases hmp:ce o.path
 ·go_wp2_with fail;go_ret;exact⟨by rw[HR.out];unfold bc;rw[hmp];rfl,HB1.out⟩
 have HMP:=hid hmp;clear hmp;obtain⟨k,hk⟩: ∃k,k=o.kind:=⟨_,rfl⟩;rw[←hk]at y0;have HK:=hid hk.symm;clear hk;by_cases k3:k=3
 ·subst k3;by_cases hv3:o.val.kind=3
  ·have e3:(o.val.kind != 3)=false:=by rw[hv3];rfl
   have HV3:=hid hv3;clear hv3;go_wp2_with fail;refine HCK.out.mono ?_;rintro e w3 ⟨rfl,hb3⟩;have HB3:=hid (HB1.out.trans (hb3.mono HB1.out.size));have HBK3:=(hb3.block _ (Array.getElem?_eq_some_iff.1 HBK.out).1).trans HBK.out;have z7:=Go.Joins.cell_of_block HBK3 7;obtain⟨b1,d1⟩: ∃b,(az o.val == 0)=b:=⟨_,rfl⟩;obtain⟨b2,d2⟩: ∃b,((o.to.length:Int) == 0)=b:=⟨_,rfl⟩
   have HE:Hid (bc o=(b1 && b2)):=hid (by
    rw[←d1,←d2];unfold bc;rw[HMP.out,HK.out,HV3.out];rw[Bool.eq_iff_iff]
    simp)
   clear hb3 HBK3 HCK;cases b1<;>cases b2
   all_goals
    go_wp2_with fail;go_ret;exact⟨by rw[HR.out,HE.out];rfl,HB3.out⟩
  ·have e3:(o.val.kind != 3)=true:=by simpa using hv3
   have HV3:=hid hv3;clear hv3;go_wp2_with fail;go_ret;exact⟨by rw[HR.out];unfold bc;rw[HK.out];simp[HV3.out],HB1.out⟩
 have e3:=beq_false_of_ne k3;by_cases k1:k=1
 ·subst k1;go_wp2_with fail;refine HCK.out.mono ?_;rintro e w3 ⟨rfl,hb3⟩;have HB3:=hid (HB1.out.trans (hb3.mono HB1.out.size));have HBK3:=(hb3.block _ (Array.getElem?_eq_some_iff.1 HBK.out).1).trans HBK.out;have z7:=Go.Joins.cell_of_block HBK3 7;obtain⟨b1,d1⟩: ∃b,(az o.val == 0)=b:=⟨_,rfl⟩;obtain⟨b2,d2⟩: ∃b,((o.to.length:Int) == 0)=b:=⟨_,rfl⟩
  have HE:Hid (bc o=(b1 && b2)):=hid (by
   rw[←d1,←d2];unfold bc;rw[HMP.out,HK.out];rw[Bool.eq_iff_iff]
   simp)
  clear hb3 HBK3 HCK;cases b1<;>cases b2
  all_goals
   go_wp2_with fail;go_ret;exact⟨by rw[HR.out,HE.out];rfl,HB3.out⟩
 have e1:=beq_false_of_ne k1;by_cases k4:k=4
 ·subst k4;go_wp2_with fail;refine HCK.out.mono ?_;rintro e w3 ⟨rfl,hb3⟩;have HB3:=hid (HB1.out.trans (hb3.mono HB1.out.size));have HBK3:=(hb3.block _ (Array.getElem?_eq_some_iff.1 HBK.out).1).trans HBK.out;have z7:=Go.Joins.cell_of_block HBK3 7;obtain⟨b1,d1⟩: ∃b,(az o.val == 0)=b:=⟨_,rfl⟩;obtain⟨b2,d2⟩: ∃b,((o.to.length:Int) == 0)=b:=⟨_,rfl⟩
  have HE:Hid (bc o=(b1 && b2)):=hid (by
   rw[←d1,←d2];unfold bc;rw[HMP.out,HK.out];rw[Bool.eq_iff_iff]
   simp)
  clear hb3 HBK3 HCK;cases b1<;>cases b2
  all_goals
   go_wp2_with fail;go_ret;exact⟨by rw[HR.out,HE.out];rfl,HB3.out⟩
 have e4:=beq_false_of_ne k4;by_cases k5:k=5
 ·subst k5;go_wp2_with fail;refine HCK.out.mono ?_;rintro e w3 ⟨rfl,hb3⟩;have HB3:=hid (HB1.out.trans (hb3.mono HB1.out.size));have HBK3:=(hb3.block _ (Array.getElem?_eq_some_iff.1 HBK.out).1).trans HBK.out;have z7:=Go.Joins.cell_of_block HBK3 7;obtain⟨b1,d1⟩: ∃b,(az o.val == 0)=b:=⟨_,rfl⟩;obtain⟨b2,d2⟩: ∃b,((o.to.length:Int) == 0)=b:=⟨_,rfl⟩
  have HE:Hid (bc o=(b1 && b2)):=hid (by
   rw[←d1,←d2];unfold bc;rw[HMP.out,HK.out];rw[Bool.eq_iff_iff]
   simp)
  clear hb3 HBK3 HCK;cases b1<;>cases b2
  all_goals
   go_wp2_with fail;go_ret;exact⟨by rw[HR.out,HE.out];rfl,HB3.out⟩
 have e5:=beq_false_of_ne k5;by_cases k7:k=7
 ·subst k7;go_wp2_with fail;refine HCK.out.mono ?_;rintro e w3 ⟨rfl,hb3⟩;have HB3:=hid (HB1.out.trans (hb3.mono HB1.out.size));have HBK3:=(hb3.block _ (Array.getElem?_eq_some_iff.1 HBK.out).1).trans HBK.out;have z7:=Go.Joins.cell_of_block HBK3 7;obtain⟨b1,d1⟩: ∃b,(az o.val == 0)=b:=⟨_,rfl⟩;obtain⟨b2,d2⟩: ∃b,((o.to.length:Int) == 0)=b:=⟨_,rfl⟩
  have HE:Hid (bc o=(b1 && b2)):=hid (by
   rw[←d1,←d2];unfold bc;rw[HMP.out,HK.out];rw[Bool.eq_iff_iff]
   simp)
  clear hb3 HBK3 HCK;cases b1<;>cases b2
  all_goals
   go_wp2_with fail;go_ret;exact⟨by rw[HR.out,HE.out];rfl,HB3.out⟩
 have e7:=beq_false_of_ne k7;by_cases k8:k=8
 ·subst k8;go_wp2_with fail;refine HCK.out.mono ?_;rintro e w3 ⟨rfl,hb3⟩;have HB3:=hid (HB1.out.trans (hb3.mono HB1.out.size));have HBK3:=(hb3.block _ (Array.getElem?_eq_some_iff.1 HBK.out).1).trans HBK.out;have z7:=Go.Joins.cell_of_block HBK3 7;obtain⟨b1,d1⟩: ∃b,(az o.val == 0)=b:=⟨_,rfl⟩;obtain⟨b2,d2⟩: ∃b,((o.to.length:Int) == 0)=b:=⟨_,rfl⟩
  have HE:Hid (bc o=(b1 && b2)):=hid (by
   rw[←d1,←d2];unfold bc;rw[HMP.out,HK.out];rw[Bool.eq_iff_iff]
   simp)
  clear hb3 HBK3 HCK;cases b1<;>cases b2
  all_goals
   go_wp2_with fail;go_ret;exact⟨by rw[HR.out,HE.out];rfl,HB3.out⟩
 have e8:=beq_false_of_ne k8;by_cases k2:k=2
 ·subst k2;go_wp2_with fail;refine HNO.out.mono ?_;rintro e w3 ⟨rfl,hb3⟩;have HB3:=hid (HB1.out.trans (hb3.mono HB1.out.size));have HBK3:=(hb3.block _ (Array.getElem?_eq_some_iff.1 HBK.out).1).trans HBK.out;have z7:=Go.Joins.cell_of_block HBK3 7;obtain⟨b1,d1⟩: ∃b,dO o.val=b:=⟨_,rfl⟩;obtain⟨b2,d2⟩: ∃b,((o.to.length:Int) == 0)=b:=⟨_,rfl⟩
  have HE:Hid (bc o=(b1 && b2)):=hid (by
   rw[←d1,←d2];unfold bc;rw[HMP.out,HK.out];rw[Bool.eq_iff_iff]
   simp)
  clear hb3 HBK3 HNO;cases b1<;>cases b2
  all_goals
   go_wp2_with fail;go_ret;exact⟨by rw[HR.out,HE.out];rfl,HB3.out⟩
 have e2:=beq_false_of_ne k2;by_cases k6:k=6
 ·subst k6;go_wp2_with fail;refine HNO.out.mono ?_;rintro e w3 ⟨rfl,hb3⟩;have HB3:=hid (HB1.out.trans (hb3.mono HB1.out.size));have HBK3:=(hb3.block _ (Array.getElem?_eq_some_iff.1 HBK.out).1).trans HBK.out;have z7:=Go.Joins.cell_of_block HBK3 7;have HTO:=hid (gU TA tc o.to w3 S (HT.out.keep fun b hb=>HB3.out.block b (HS.out b hb)) (by have:=HTL.out;omega));obtain⟨b1,d1⟩: ∃b,dO o.val=b:=⟨_,rfl⟩;obtain⟨b2,d2⟩: ∃b,ce o.to=b:=⟨_,rfl⟩
  have HE:Hid (bc o=(b1 && b2)):=hid (by
   rw[←d1,←d2];unfold bc;rw[HMP.out,HK.out];rw[Bool.eq_iff_iff]
   simp)
  rw[d2]at HTO;clear hb3 HBK3 HNO d2;cases b1
  ·go_wp2_with fail;go_ret;exact⟨by rw[HR.out,HE.out];rfl,HB3.out⟩
  ·go_wp2_with fail;refine HTO.out.mono ?_;rintro e w4 ⟨rfl,rfl⟩;cases b2
   all_goals
    go_wp2_with fail;go_ret;exact⟨by rw[HR.out,HE.out];rfl,HB3.out⟩
 have e6:=beq_false_of_ne k6
 have HN:Hid (bc o=false):=hid (by
  unfold bc;rw[HK.out]
  simp[k3,k1,k4,k5,k7,k8,k2,k6])
 clear k3 k1 k4 k5 k7 k8 k2 k6;go_wp2_with fail;go_ret;exact⟨by rw[HR.out,HN.out];rfl,HB1.out⟩
def AH (v:VT)(p:List ByteArray)(w:World)(e:Ending)(w':World):Prop:=
 ∃c0 c1 c2 c3 c4,e= .returned (.agg #[c0,c1,c2,c3,c4,.bool (bC v p).isSome,.bool (jq v p)])∧LV w' (New w.heap.size w') ((bC v p).getD (.mk 0 0 ⟨#[]⟩ [] [])) (.agg #[c0,c1,c2,c3,c4])∧Below w.heap.size w w'
theorem ai.init {w:World}{S:Nat→Prop}{A:Option Addr}{p:List ByteArray}(h:ai w S A p):ai w S A p.dropLast:=fun hp=>by
 obtain⟨b,off,hA,hb,hc⟩:=h (by rw[List.length_dropLast]at hp;omega);refine⟨b,off,hA,hb,fun i hi=> ?_⟩;have hi':i<p.length:=by rw[List.length_dropLast]at hi;omega
 have:=hc i hi';rw[List.getElem_dropLast];exact this
theorem zh (v:VT)(p:List ByteArray):jq v p=(((bC v p.dropLast).getD (.mk 0 0 ⟨#[]⟩ [] [])).kind == 6):=by
 unfold jq
 cases bC v p.dropLast with
 |none=>rfl
 |some y=>show decide (y.kind=6)=(y.kind == 6);rw[Bool.eq_iff_iff];simp
theorem bV {o:Oper}{a:Act}{w:World}{K:Act→World→Prop}{Q:Exit→Act→World→Prop}(ty:TypeId)(x y:Operand)(ho:o.op= .store ty x y)(hd:o.dst=none)
  (g off:Nat) (hx:a.eval x= .pointer (some ⟨g,off,none⟩)) (v:Value) (cells:Array Value) (hy:a.eval y=v) (hc:v.cells=cells) (C C':Array Value) (t:TypeId) (hg:w.heap[g]? =some (.cells C t (0,0))) (hn:off+cells.size≤C.size)
  (hi:(Tryz.prog.info? ty).map (·.size)=some cells.size) (h1:cells.all (·.oneCell')=true) (hC:cM C off cells.toList=C')
  (h: ∀w',w'.heap[g]? =some (.cells C' t (0,0))→bZ w w' g→w'.heap.size=w.heap.size→K a w'):o.wp Tryz.prog a w K Q:=by
 have ht:w.there g off cells.size:=fun j hj=>⟨by
  rw[Go.Joins.cell_of_block hg (off+j),Array.getElem?_eq_getElem (by omega)];rfl,Go.Joins.unfrozen_of_block hg _⟩
 have e:=fH w g off ty v cells hc ht hi h1
 have hK':K (a.put o.dst undef) (w.setCells g off cells.toList):=by
  rw[hd];refine h _ ?_ ?_ ?_
  ·rw[←hC];exact fS _ _ _ hg
  ·obtain⟨q1,q2,q3,q4,q5⟩:=dK g cells.toList off w;exact⟨q1,q2,q3,by rw[q4];exact Nat.le_refl _,fun b _ hb=>q5 b (by intro e;apply hb;rw[e])⟩
  ·exact(dK g cells.toList off w).2.2.2.1
 unfold Oper.wp execOp;simp only[ho,hx,hy,Instr.storeAt,Instr.sureAddr,Sem.run_bind,Sem.run_pure,Result.andThen_ok,e];exact hK'
def aE (B:Nat)(a b:World):Prop:=Below B a b
theorem aE.refl (B:Nat)(a:World):aE B a a:=Below.refl _ _
theorem aE.trans (B:Nat)(a b c:World)(h:aE B a b)(k:aE B b c):aE B a c:=Below.trans h k
instance blwR_inh (B:Nat) (w:World):Inhabited (af (aE B) w):=⟨⟨w,aE.refl B w⟩⟩
def Bj (w:World)(g:Nat)(c0 c1 c2 c3 c4 c5 c6:Value):Prop:=w.heap[g]? =some (.cells #[c0,c1,c2,c3,c4,c5,c6] 79 (0,0))
theorem wm (S:Nat→Prop)(t:VT)(v:Value)(A:Option Addr)(c:Nat)(p:List ByteArray)(w:World)(hS: ∀b,S b→b<w.heap.size)(h:LV w S t v)(hd:ac t≤4611686018427387903)(hp:ai w S A p)(hn0:0<p.length)(hn:p.length≤140737488351232)(hpc:p.length≤c)(h63:c≤9223372036854775807):
  Calls Tryz.prog 62 #[v,.slice A p.length c] w (AH t p w):=by
 obtain⟨A0,c0,A0',c0',rfl,-,-,-,v1,hb0⟩:=bY hS h;have hz1:(w.alloc (.cells #[.int .i64 t.kind,.int .i64 t.num,.string t.text,.slice A0 t.items.length c0,.slice A0' t.names.length c0'] 25)).heap.size=w.heap.size+1:=by simp
 have hR0:Bj ((w.alloc (.cells #[.int .i64 t.kind,.int .i64 t.num,.string t.text,.slice A0 t.items.length c0,.slice A0' t.names.length c0'] 25)).alloc (.cells #[.int .i64 0,.int .i64 0,.string ⟨#[]⟩,.slice none 0 0,.slice none 0 0,.bool false,.bool false] 79)) (w.heap.size+1) (.int .i64 0) (.int .i64 0) (.string ⟨#[]⟩) (.slice none 0 0) (.slice none 0 0) (.bool false) (.bool false):=by
  have h:=heap_alloc_new (w.alloc (.cells #[.int .i64 t.kind,.int .i64 t.num,.string t.text,.slice A0 t.items.length c0,.slice A0' t.names.length c0'] 25)) (.cells #[.int .i64 0,.int .i64 0,.string ⟨#[]⟩,.slice none 0 0,.slice none 0 0,.bool false,.bool false] 79);rw[hz1]at h;exact h
 have hX0:=v1.x.alloc (.cells #[.int .i64 0,.int .i64 0,.string ⟨#[]⟩,.slice none 0 0,.slice none 0 0,.bool false,.bool false] 79);have hB0:=hb0.alloc (show w.heap.size≤_ by omega) (.cells #[.int .i64 0,.int .i64 0,.string ⟨#[]⟩,.slice none 0 0,.slice none 0 0,.bool false,.bool false] 79);obtain⟨w2,hw2⟩: ∃W,W=(w.alloc (.cells #[.int .i64 t.kind,.int .i64 t.num,.string t.text,.slice A0 t.items.length c0,.slice A0' t.names.length c0'] 25)).alloc (.cells #[.int .i64 0,.int .i64 0,.string ⟨#[]⟩,.slice none 0 0,.slice none 0 0,.bool false,.bool false] 79):=⟨_,rfl⟩;rw[←hw2]at hR0 hX0 hB0;have hz2:w2.heap.size=w.heap.size+2:=by rw[hw2];simp
 have HV:=hid h;have HP:=hid hp;have HS:=hid hS;have HN:=hid (And.intro hn0 (And.intro hn (And.intro hpc h63)));have HD:=hid hd;have HR:=hid hR0;have HB:=hid hB0;have HX:=hid hX0;have HZ:=hid hz2;have HC1:=hid (nh S t _ A c p w2 (fun b hb=>Nat.lt_of_lt_of_le (hS b hb) hB0.size) (h.keep fun b hb=>hB0.block b (hS b hb)) hd (hp.keep fun b hb=>hB0.block b (hS b hb)) hn hpc h63);have q0:=hX0.c0;have q1:=hX0.c1;have q2:=hX0.c2;have q3:=hX0.c3;have q4:=hX0.c4;clear h v1 hb0 hp hn hpc h63 hd hR0 hX0 hB0 hz1 hz2 hS hn0;go_enter Tryz.func62,Tryz.ntmps62;go_wp2_with fail;rw[←hw2];clear hw2;go_wp2_with fail;refine HC1.out.mono ?_;rintro e w3 ⟨v3,rfl,hv3,hb3⟩;obtain⟨X,hX⟩: ∃X,X=(bC t p).getD (.mk 0 0 ⟨#[]⟩ [] []):=⟨_,rfl⟩;obtain⟨ok,hok⟩: ∃b,b=(bC t p).isSome:=⟨_,rfl⟩;rw[←hX]at hv3;rw[←hok];have HXK:=hid (And.intro hX hok);clear hX hok;obtain⟨B,k,B',k',rfl,-⟩:=hv3.shape;have HB3:=hid (HB.out.trans (hb3.mono HB.out.size));have HX3:=hid (HX.out.call hb3);have HR3:=hid ((hb3.block _ (Array.getElem?_eq_some_iff.1 HR.out).1).trans HR.out);have HV3:=hid hv3;have HZ3:Hid (w.heap.size+2≤w3.heap.size):=hid (by have:=hb3.size;have:=HZ.out;omega);clear hv3 hb3 HB HX HR HC1 q0 q1 q2 q3 q4;go_wp2_with fail;obtain⟨n,hpn⟩: ∃n,p.length=n+1:=⟨p.length - 1,by have:=HN.out.1;omega⟩;have hnd:p.dropLast.length=n:=by rw[List.length_dropLast];omega
 obtain⟨wd,hwd⟩: ∃W,W=(w3.alloc (.cells #[.int .i64 X.kind,.int .i64 X.num,.string X.text,.slice B X.items.length k,.slice B' X.names.length k'] 25)).drew:=⟨_,rfl⟩;have hbx:Box wd w3.heap.size (.int .i64 X.kind) (.int .i64 X.num) (.string X.text) (.slice B X.items.length k) (.slice B' X.names.length k'):=by rw[hwd];exact Box.new ..
 have hbd:Below w3.heap.size w3 wd:=by rw[hwd];exact((Below.refl _ _).alloc (Nat.le_refl _) _).drew
 have hzd:wd.heap.size=w3.heap.size+1:=by rw[hwd];simp[World.drew]
 have HC2:=hid (fun(W:World) (hW:Below wd.heap.size wd W)=>nh S t (.agg #[.int .i64 t.kind,.int .i64 t.num,.string t.text,.slice A0 t.items.length c0,.slice A0' t.names.length c0']) A c p.dropLast W (fun b hb=>by have:=HS.out b hb;have:=HZ3.out;have:=hW.size;omega) (HV.out.keep fun b hb=>(hW.block b (by have:=HS.out b hb;have:=HZ3.out;omega)).trans ((hbd.block b (by have:=HS.out b hb;have:=HZ3.out;omega)).trans (HB3.out.block b (HS.out b hb)))) HD.out (HP.out.init.keep fun b hb=>(hW.block b (by have:=HS.out b hb;have:=HZ3.out;omega)).trans ((hbd.block b (by have:=HS.out b hb;have:=HZ3.out;omega)).trans (HB3.out.block b (HS.out b hb)))) (by have:=HN.out;omega) (by have:=HN.out;omega) HN.out.2.2.2);rw[hnd]at HC2;have HP2:=hid (And.intro hpn hnd);have q1:n≤c:=by have:=HN.out;omega
 have q2:((n+1:Nat):Int) - 1=(n:Int):=by omega
 have q3:(n:Int)≤9223372036854775807:=by have:=HN.out;omega
 have y0:=fun q:af (aE w3.heap.size) wd=>(World.cell?_of_block (a:=⟨w.heap.size,0,none⟩) ((hbd.trans q.h).block w.heap.size (by have:=HZ3.out;omega))).trans HX3.out.c0;have y1:=fun q:af (aE w3.heap.size) wd=>(World.cell?_of_block (a:=⟨w.heap.size,1,none⟩) ((hbd.trans q.h).block w.heap.size (by have:=HZ3.out;omega))).trans HX3.out.c1;have y2:=fun q:af (aE w3.heap.size) wd=>(World.cell?_of_block (a:=⟨w.heap.size,2,none⟩) ((hbd.trans q.h).block w.heap.size (by have:=HZ3.out;omega))).trans HX3.out.c2;have y3:=fun q:af (aE w3.heap.size) wd=>(World.cell?_of_block (a:=⟨w.heap.size,3,none⟩) ((hbd.trans q.h).block w.heap.size (by have:=HZ3.out;omega))).trans HX3.out.c3;have y4:=fun q:af (aE w3.heap.size) wd=>(World.cell?_of_block (a:=⟨w.heap.size,4,none⟩) ((hbd.trans q.h).block w.heap.size (by have:=HZ3.out;omega))).trans HX3.out.c4;have HBD:=hid hbd;have HZD:=hid hzd;have HBX:=hid hbx;clear hbd hzd hbx;rw[hpn];clear hpn hnd HS HV HP HD HN;refine av (aE w3.heap.size) (aE.refl _) (aE.trans _) [11,12] (.pure [0,1,2,3,4,5] (.fork 6 (.free [7,8,9] (.step 10 (.tail [11,12]))) 10 (.step 6 (.free [7,8,9] (.tail [11,12]))))) (by kernel_rfl) (by kernel_rfl) (fun _ d _ _ _ h=>by cases d<;>exact h) ?_;rw[←hwd];clear hwd;refine bN ?_;simp only[atR];show wpQuiet _ _ _ _ [_,_,_,_,_,_] _;try simp only[acR,Act.put]
 repeat(go_big_quiet_step (fail))
 refine wpQuiet_nil ?_;clear y0 y1 y2 y3 y4 q1 q2 q3;refine iW rfl rfl (fun K hK=> ?_) (fun K hK=> ?_)
 focus
  go_simp
  refine(HC2.out wd (Below.refl _ _)).mono ?_;rintro e w5 ⟨v5,rfl,hv5,hb5⟩;obtain⟨Y,hY⟩: ∃Y,Y=(bC t p.dropLast).getD (.mk 0 0 ⟨#[]⟩ [] []):=⟨_,rfl⟩;obtain⟨yk,hyk⟩: ∃b,b=(bC t p.dropLast).isSome:=⟨_,rfl⟩;rw[←hY]at hv5;rw[←hyk];have HYK:=hid (And.intro hY hyk);clear hY hyk;obtain⟨C,l,C',l',rfl,-⟩:=hv5.shape;refine hK _ _ (.inr (hb5.mono (by have:=HZD.out;omega))) ?_;clear hK K;refine bm ?_;simp only[atR];show wpQuiet _ _ _ _ [_,_,_] _;try simp only[acR,Act.put]
  repeat(go_big_quiet_step (fail))
  refine wpQuiet_nil ?_;refine ah rfl (fun K hK=> ?_)
  go_simp
  refine hK _ _ (.inr (((Below.refl _ _).alloc (Nat.le_refl _) _).mono (by have:=hb5.size;have:=HZD.out;omega))) ?_;clear hK K;obtain⟨gY,hgY⟩: ∃g,g=w5.heap.size:=⟨_,rfl⟩;obtain⟨W5,hW5⟩: ∃W,W=w5.alloc (.cells #[.int .i64 0,.int .i64 0,.string ⟨#[]⟩,.slice none 0 0,.slice none 0 0] 25):=⟨_,rfl⟩;have HZY:Hid (W5.heap[gY]? =some (.cells #[.int .i64 0,.int .i64 0,.string ⟨#[]⟩,.slice none 0 0,.slice none 0 0] 25 (0,0))):=hid (by rw[hW5,hgY];exact heap_alloc_new w5 _);have HWB:Hid (Below wd.heap.size wd W5):=hid (by rw[hW5];exact hb5.alloc hb5.size _);have HGY:Hid (wd.heap.size≤gY):=hid (by rw[hgY];exact hb5.size);rw[←hW5,←hgY];clear hW5 hgY hv5 hb5;refine aw rfl (fun K hK=> ?_);rw[if_pos (bd rfl)];refine bV 25 _ _ rfl rfl gY 0 rfl _ #[.int .i64 Y.kind,.int .i64 Y.num,.string Y.text,.slice C Y.items.length l,.slice C' Y.names.length l'] rfl rfl _ #[.int .i64 Y.kind,.int .i64 Y.num,.string Y.text,.slice C Y.items.length l,.slice C' Y.names.length l'] 25 HZY.out (by simp) (by kernel_rfl) (by simp[Value.oneCell']) (by kernel_rfl) (fun W6 h6 ho6 hz6=> ?_);refine hK _ _ ?_;clear hK K;have HY6:Hid (Box W6 gY (.int .i64 Y.kind) (.int .i64 Y.num) (.string Y.text) (.slice C Y.items.length l) (.slice C' Y.names.length l')):=hid h6;have HB6:Hid (Below wd.heap.size wd W6):=hid (aJ (Nat.le_refl _) HWB.out ho6 hz6 HGY.out);clear h6 ho6 hz6;refine aw rfl (fun K hK=> ?_)
  go_simp
  refine hK _ _ ?_;clear hK K HZY HWB;refine aX ?_
 rotate_left
 focus
  go_simp
  obtain⟨gY,hgY⟩: ∃g,g=wd.heap.size:=⟨_,rfl⟩;obtain⟨W4,hW4⟩: ∃W,W=wd.alloc (.cells #[.int .i64 0,.int .i64 0,.string ⟨#[]⟩,.slice none 0 0,.slice none 0 0] 25):=⟨_,rfl⟩;have hz4:W4.heap[gY]? =some (.cells #[.int .i64 0,.int .i64 0,.string ⟨#[]⟩,.slice none 0 0,.slice none 0 0] 25 (0,0)):=by rw[hW4,hgY];exact heap_alloc_new wd _
  have hb4:Below wd.heap.size wd W4:=by rw[hW4];exact(Below.refl _ _).alloc (Nat.le_refl _) _
  have HGY:Hid (wd.heap.size≤gY):=hid (by rw[hgY];exact Nat.le_refl _);rw[←hW4,←hgY];clear hW4 hgY;refine hK _ _ (.inr (hb4.mono (by have:=HZD.out;omega))) ?_;clear hK K;refine ah rfl (fun K hK=> ?_)
  go_simp
  refine(HC2.out W4 hb4).mono ?_;rintro e w5 ⟨v5,rfl,hv5,hb5⟩;obtain⟨Y,hY⟩: ∃Y,Y=(bC t p.dropLast).getD (.mk 0 0 ⟨#[]⟩ [] []):=⟨_,rfl⟩;obtain⟨yk,hyk⟩: ∃b,b=(bC t p.dropLast).isSome:=⟨_,rfl⟩;rw[←hY]at hv5;rw[←hyk];have HYK:=hid (And.intro hY hyk);clear hY hyk;obtain⟨C,l,C',l',rfl,-⟩:=hv5.shape;refine hK _ _ (.inr (hb5.mono (by have:=hb4.size;have:=HZD.out;omega))) ?_;clear hK K;refine bm ?_;simp only[atR];show wpQuiet _ _ _ _ [_,_,_] _;try simp only[acR,Act.put]
  repeat(go_big_quiet_step (fail))
  refine wpQuiet_nil ?_;have HZY:Hid (w5.heap[gY]? =some (.cells #[.int .i64 0,.int .i64 0,.string ⟨#[]⟩,.slice none 0 0,.slice none 0 0] 25 (0,0))):=hid ((hb5.block _ (Array.getElem?_eq_some_iff.1 hz4).1).trans hz4);have HWB:Hid (Below wd.heap.size wd w5):=hid (hb4.trans (hb5.mono hb4.size));clear hz4 hb4 hv5 hb5;refine aw rfl (fun K hK=> ?_);rw[if_pos (bd rfl)];refine bV 25 _ _ rfl rfl gY 0 rfl _ #[.int .i64 Y.kind,.int .i64 Y.num,.string Y.text,.slice C Y.items.length l,.slice C' Y.names.length l'] rfl rfl _ #[.int .i64 Y.kind,.int .i64 Y.num,.string Y.text,.slice C Y.items.length l,.slice C' Y.names.length l'] 25 HZY.out (by simp) (by kernel_rfl) (by simp[Value.oneCell']) (by kernel_rfl) (fun W6 h6 ho6 hz6=> ?_);refine hK _ _ ?_;clear hK K;have HY6:Hid (Box W6 gY (.int .i64 Y.kind) (.int .i64 Y.num) (.string Y.text) (.slice C Y.items.length l) (.slice C' Y.names.length l')):=hid h6;have HB6:Hid (Below wd.heap.size wd W6):=hid (aJ (Nat.le_refl _) HWB.out ho6 hz6 HGY.out);clear h6 ho6 hz6;refine aw rfl (fun K hK=> ?_)
  go_simp
  refine hK _ _ ?_;clear hK K HZY HWB;refine aX ?_
 rotate_left
 all_goals
  have hx6:Box W6 w3.heap.size (.int .i64 X.kind) (.int .i64 X.num) (.string X.text) (.slice B X.items.length k) (.slice B' X.names.length k'):=(HB6.out.block _ (by have:=HZD.out;omega)).trans HBX.out;have HBW:Hid (Below w3.heap.size w3 W6):=hid (HBD.out.trans (HB6.out.mono (by have:=HZD.out;omega)));have HR6:Hid (W6.heap[w.heap.size+1]? =some (.cells #[.int .i64 0,.int .i64 0,.string ⟨#[]⟩,.slice none 0 0,.slice none 0 0,.bool false,.bool false] 79 (0,0))):=hid ((HBW.out.block _ (by have:=HZ3.out;omega)).trans HR3.out);have r0:=hx6.c0;have r1:=hx6.c1;have r2:=hx6.c2;have r3:=hx6.c3;have r4:=hx6.c4;have s0:=HY6.out.c0;clear hx6;go_wp2_with(refine aS (by rfl) 79 _ _ rfl rfl (w.heap.size+1) 0 rfl _ #[.int .i64 X.kind,.int .i64 X.num,.string X.text,.slice B X.items.length k,.slice B' X.names.length k',.bool ok,.bool (Y.kind == 6)] rfl rfl _ #[.int .i64 X.kind,.int .i64 X.num,.string X.text,.slice B X.items.length k,.slice B' X.names.length k',.bool ok,.bool (Y.kind == 6)] 79 HR6.out (by simp) (by kernel_rfl) (by simp[Value.oneCell']) (by kernel_rfl) ?_;intro w7 h7 ho7 hz7;have HK7:=hid h7;have HO7:=hid (And.intro ho7 hz7);clear h7 ho7 hz7);refine bodyPost_ret (results_cell_row rfl _ _ (w.heap.size+1) 79 _ (0,0) _ rfl HK7.out Tryz.underlying79 rfl (by kernel_rfl)) rfl ?_;have hall:Below w.heap.size w w7:=aJ (Nat.le_refl _) (HB3.out.trans (HBW.out.mono (by have:=HZ3.out;omega))) HO7.out.1 HO7.out.2 (by omega);refine⟨.int .i64 X.kind,.int .i64 X.num,.string X.text,.slice B X.items.length k,.slice B' X.names.length k',?_,?_,hall⟩
  ·rw[←HXK.out.2,zh,←HYK.out.1]
  ·rw[←HXK.out.1];refine(HV3.out.keep fun b hb=> ?_).imp fun b hb=>⟨by have:=hb.1;have:=HZ.out;omega,Nat.lt_of_lt_of_le hb.2 (by rw[HO7.out.2];exact HBW.out.size)⟩;have h1:=hb.1;have h2:=HZ.out;exact(HO7.out.1.block b (Nat.lt_of_lt_of_le hb.2 HBW.out.size) (by intro e;injection e;omega)).trans (HBW.out.block b hb.2)
end Go.Proofs.YtgbopnlpaabelaaGreatDoor
