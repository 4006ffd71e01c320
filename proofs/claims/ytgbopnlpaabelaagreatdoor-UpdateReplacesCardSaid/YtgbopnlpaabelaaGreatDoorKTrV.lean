/- What cut does. -/
import Derived.Test.YtgbopnlpaabelaaGreatDoorKTrK
import Derived.RangeFuncNested
import Derived.RangeFuncBound
import Derived.RangeFuncCalls
import Derived.RangeFuncLeaves
import Derived.Shelf.Abstract
import Derived.Shelf.RegionOpen
import Derived.WalkKit
import Derived.OwnWalkIn
import Derived.TacticsInMore
import Derived.LoopNIn
import Derived.LoopIn
set_option maxHeartbeats 64000000
set_option maxRecDepth 100000
set_option linter.unusedVariables false
set_option linter.unusedSimpArgs false
namespace Go.Proofs.YtgbopnlpaabelaaGreatDoor
open Lib (hid)
open Go.RowKit
theorem OAt.still {w w':World}{F:Nat→Prop}{t:VT}{g o:Nat}(h:OAt w F t g o)(hb:Below w.heap.size w w'): ∃F',Own F w F'∧OAt w' F' t g o∧Mut F g o w w':=
 ⟨F,fun _=> .inl,h.keep hb,hb.size,fun b hb1 _ _=>hb.block b hb1,fun C ty fz hC=>⟨C,(hb.block g h.lt).trans hC,rfl,fun _ _=>rfl⟩,hb.os,hb.tape,hb.output⟩
theorem vF (F:Nat→Prop)(t:VT)(g o:Nat)(P:Int)(hP:P<0)(rest:Value)(n:Int)(w:World)(h:OAt w F t g o):
  Calls Tryz.prog 133 #[.agg #[.pointer (some ⟨g,o,none⟩),.int .i64 P,rest],.int .i64 n] w fun e w'=>e= .returned (.tuple #[])∧ ∃F',Own F w F'∧OAt w' F' t g o∧Mut F g o w w':=by
 have hneg:decide (P<0)=true:=decide_eq_true hP;have HFIN:=hid (h.still (w':=w.alloc (.cells #[.pointer (some ⟨g,o,none⟩),.int .i64 P,rest] 108)) (ae _));clear h;go_enter Tryz.func133,Tryz.ntmps133;go_wp2_with fail;refine bodyPost_ret (results_none rfl _ _ _) rfl ?_;exact⟨rfl,HFIN.out⟩
def gz (x:VT)(n:Int):VT:=if x.kind=6∧n<x.items.length then ml x n.toNat else x
theorem uO (F:Nat→Prop)(t:VT)(g o:Nat)(j:Nat)(hj:j<t.items.length)(rest:Value)(n:Nat)(hn63:n≤9223372036854775807)(w:World)(h:OAt w F t g o):
  Calls Tryz.prog 133 #[.agg #[.pointer (some ⟨g,o,none⟩),.int .i64 j,rest],.int .i64 n] w fun e w'=>e= .returned (.tuple #[])∧ ∃F',Own F w F'∧OAt w' F' (bO t j (gz t.items[j] n)) g o∧Mut F g o w w':=by
 have hneg:decide ((j:Int)<0)=false:=decide_eq_false (by omega);have hgl:=h.lt;obtain⟨A,cA,A',cA',hat⟩:=h.at;have hlen:=hat.names.2.2;obtain⟨G,Fj,⟨cp,hc3⟩,hFG,hoj,hsub,hup⟩:=h.item hj
 have hgG:g≠G:=by
  obtain⟨_,_,_,_,_,_,_,_,_,_,_,_,_,hn,_⟩:=h;exact fun e=>hn (e▸hFG)
 obtain⟨x,hx⟩: ∃x,x=t.items[j]:=⟨_,rfl⟩;rw[←hx]at hoj ⊢;obtain⟨y,hy⟩: ∃y,y=gz x n:=⟨_,rfl⟩;rw[←hy];have HY:=hid hy;clear hy;have HUP:=hid hup;have HOJ:=hid hoj;have hGl:=hoj.lt;clear hup hx h hat hsub;obtain⟨C,ty,B,b,B',b',hG,k0,k1,k2,k3,k4,hv,hFg,hlt⟩:=hoj;have HG:=hid hG;have HK:=hid (And.intro k0 (And.intro k1 (And.intro k2 (And.intro k3 k4))));have HV:=hid hv;have HF:=hid (And.intro hFg hlt);clear hG k0 k1 k2 k3 k4 hv hFg hlt;go_enter Tryz.func133,Tryz.ntmps133;go_wp2_with fail;refine au (aj G G) (aj.refl _ _) (aj.trans _ _) [] (.pure [0,1,2,3,4,5,6,7,8] (.tail [])) (by kernel_rfl) (by kernel_rfl) (fun _ d _ _ _ h=>by cases d<;>exact h) ?_;have hz0:(w.alloc (.cells #[.pointer (some ⟨g,o,none⟩),.int .i64 j,rest] 108)).drew.heap.size=w.heap.size+1:=by simp
 have hb0:Below w.heap.size w (w.alloc (.cells #[.pointer (some ⟨g,o,none⟩),.int .i64 j,rest] 108)).drew:=(ae _).drew;have hs:(w.alloc (.cells #[.pointer (some ⟨g,o,none⟩),.int .i64 j,rest] 108)).drew.heap[w.heap.size]? =some (.cells #[.pointer (some ⟨g,o,none⟩),.int .i64 j,rest] 108 (0,0)):=heap_alloc_new w _;generalize (w.alloc (.cells #[.pointer (some ⟨g,o,none⟩),.int .i64 j,rest] 108)).drew=w0 at *;have s0: ∀p:af (aj G G) w0,p.u.cell? ⟨w.heap.size,0,none⟩=some (.pointer (some ⟨g,o,none⟩)):=fun p=>(World.cell?_of_block (a:=⟨w.heap.size,0,none⟩) (p.h.2 w.heap.size (by omega) (by omega) (by omega))).trans (Go.Joins.cell_of_block hs 0);have s1: ∀p:af (aj G G) w0,p.u.cell? ⟨w.heap.size,1,none⟩=some (.int .i64 j):=fun p=>(World.cell?_of_block (a:=⟨w.heap.size,1,none⟩) (p.h.2 w.heap.size (by omega) (by omega) (by omega))).trans (Go.Joins.cell_of_block hs 1);have q3: ∀p:af (aj G G) w0,p.u.cell? ⟨g,o+3,none⟩=some (.slice (some ⟨G,0,none⟩) t.items.length cp):=fun p=>(World.cell?_of_block (a:=⟨g,o+3,none⟩) (p.h.2 g (by omega) hgG hgG)).trans ((World.cell?_of_block (a:=⟨g,o+3,none⟩) (hb0.block g hgl)).trans hc3);refine bG ?_;simp only[atR];show wpQuiet _ _ _ _ [_,_,_,_,_,_,_,_,_] _;try simp only[acR,Act.put]
 repeat(go_big_quiet_step (fail))
 refine wpQuiet_nil ?_;clear s0 s1 q3;refine aQ ?_;have HB0:=hid hb0;have hG0:=(hb0.block G hGl).trans HG.out;have x0:=(Go.Joins.cell_of_block hG0 (j * 5)).trans HK.out.1;have x3:=(Go.Joins.cell_of_block hG0 (j * 5+3)).trans HK.out.2.2.2.1;have HG0:=hid hG0;clear hs hb0 hc3 hG0;obtain⟨k,hk⟩: ∃k,k=x.kind:=⟨_,rfl⟩;rw[←hk]at x0;have HKK:=hid hk;clear hk;by_cases hk6:k=6;rotate_left
 ·have hk6b:(k == 6)=false:=beq_false_of_ne hk6;have hcv:y=x:=by rw[HY.out];unfold gz;rw[if_neg (fun e=>hk6 (HKK.out.trans e.1))]
  have HFIN:Hid (∃F',Own F w F'∧OAt w0 F' (bO t j y) g o∧Mut F g o w w0):=hid (by rw[hcv];exact HUP.out w0 x Fj ⟨HB0.out.size,fun b hb1 _ _=>HB0.out.block b hb1,fun C ty fz hC=>⟨C,(HB0.out.block G hGl).trans hC,rfl,fun _ _=>rfl⟩,HB0.out.os,HB0.out.tape,HB0.out.output⟩ (HOJ.out.keep HB0.out) (fun _=> .inl));clear hcv;go_wp2_with fail
  go_end0
  exact⟨rfl,HFIN.out⟩
 subst hk6
 have hxl:x.items.length≤1759218604390:=by
  have:=HV.out
  cases x with
  |mk k i s l ns=>
   unfold OV at this;obtain⟨_,_,_,_,_,_,_,_,_,h4,_⟩:=this;exact h4
 by_cases hnl:(n:Int)<(x.items.length:Int);rotate_left
 ·have hnlb:decide ((n:Int)<(x.items.length:Int))=false:=decide_eq_false hnl;have hcv:y=x:=by rw[HY.out];unfold gz;rw[if_neg (fun e=>hnl e.2)]
  have HFIN:Hid (∃F',Own F w F'∧OAt w0 F' (bO t j y) g o∧Mut F g o w w0):=hid (by rw[hcv];exact HUP.out w0 x Fj ⟨HB0.out.size,fun b hb1 _ _=>HB0.out.block b hb1,fun C ty fz hC=>⟨C,(HB0.out.block G hGl).trans hC,rfl,fun _ _=>rfl⟩,HB0.out.os,HB0.out.tape,HB0.out.output⟩ (HOJ.out.keep HB0.out) (fun _=> .inl));clear hcv;go_wp2_with fail
  go_end0
  exact⟨rfl,HFIN.out⟩
 have hnlb:decide ((n:Int)<(x.items.length:Int))=true:=decide_eq_true hnl;have hcv:y=ml x n:=by rw[HY.out];unfold gz;rw[if_pos ⟨HKK.out.symm,hnl⟩];simp
 have HCV:=hid hcv;clear hcv
 cases x with
 |mk k i s l ns=>
 simp only[VT.kind,VT.num,VT.text,VT.items,VT.names]at *;obtain⟨A1,c1,A1',c1',xs,hag,h1,h2,h3,h4,h5,h6,h7,h8,h9,h10,h11,h12⟩:=(show ∃A c A' c' xs,_ by have:=HV.out;unfold OV at this;exact this);injection hag with hag;injection hag with hag
 injection hag with y0 hag;injection hag with y1 hag;injection hag with y2 hag;injection hag with y3 hag;injection hag with y4 hag
 injection y3 with e1 _ e3
 injection y4 with e4 _ e6
 subst e1 e3 e4 e6;obtain⟨hxl',h8⟩:=h8;rcases h8 with ⟨-,h⟩|⟨GX,cap,cur,hv,-,hh,hn,hm,hsz,htk⟩
 ·omega
 injection hv with e1 e2 e3
 subst e1 e3;have hFX:=h10 _ rfl;simp only at hFX;have hXs:=HF.out.2 _ hFX;have hGX:G≠GX:=fun e=>HF.out.1 (e▸hFX);have hnl2:n<l.length:=by omega
 have HXS:=hid (And.intro h12 (And.intro h7 (And.intro htk hxl')));have HH:=hid hh;have HR:=hid (And.intro h1 (And.intro h2 (And.intro h3 (And.intro h5 (And.intro h6 (And.intro h9 (And.intro h10 h11)))))));have hlen2:l.length≤140737488351232:=by omega
 clear h1 h2 h3 h5 h6 h7 h9 h10 h11 h12 htk hxl' hh;have hg3:=x3;go_wp2_with fail;clear x0 x3;refine au (aj GX GX) (aj.refl _ _) (aj.trans _ _) [14] (.pure [0,1,2,3,4,5,6,7,8,9,10] (.step 11 (.step 12 (.step 13 (.step 14 (.tail [])))))) (by kernel_rfl) (by kernel_rfl) (fun _ d _ _ _ h=>by cases d<;>exact h) ?_;have hbd:Below w.heap.size w w0.drew:=HB0.out.drew;have hGd:w0.drew.heap[G]? =some (.cells C ty (0,0)):=HG0.out;have hzd:w0.drew.heap.size=w.heap.size+1:=hz0;clear HB0 HG0 hg3;generalize w0.drew=w3 at *;have q3: ∀p:af (aj GX GX) w3,p.u.cell? ⟨G,j * 5+3,none⟩=some (.slice (some ⟨GX,0,none⟩) l.length b):=fun p=>(World.cell?_of_block (a:=⟨G,j * 5+3,none⟩) (p.h.2 G (by omega) hGX hGX)).trans ((Go.Joins.cell_of_block hGd (j * 5+3)).trans HK.out.2.2.2.1);have HBD:=hid hbd;have HGD:=hid hGd;clear hGd hbd;refine bG ?_;simp only[atR];show wpQuiet _ _ _ _ [_,_,_,_,_,_,_,_,_,_,_] _;try simp only[acR,Act.put]
 repeat(go_big_quiet_step (fail))
 refine wpQuiet_nil ?_;clear q3;have hG3:w3.heap[GX]? =some (.cells cur 25 (0,0)):=(HBD.out.block GX hXs).trans HH.out;have HDV:=hid (mM GX l.length b n l.length cur w3 hG3 hsz hn hm h4 hnl2 (Nat.le_refl _) (by rw[Nat.sub_self,Nat.zero_mul,List.take_zero];exact fun _ h=>absurd h (by simp)));have hRV:=pj hG3 (n * 5) ((n+(l.length - l.length)) * 5) ((cur.toList.drop (l.length * 5)).take ((l.length - l.length) * 5)) (eE (l.length - (n+(l.length - l.length)))) (by simp) (by rw[fV];simp;omega);have HRV:=hid hRV;clear hRV hG3;refine ah rfl (fun K hK=> ?_)
 go_simp
 refine HDV.out.mono ?_;rintro e w4 ⟨rfl,hw4⟩;obtain⟨CV,hCV,hsV,htV,hoV,hzV,hosV,htpV,houV⟩:=HRV.out;rw[←hw4]at hCV hoV hzV hosV htpV houV;refine hK _ _ (.inr ⟨by omega,fun b _ hb _=>hoV b hb⟩) ?_;clear hK K HDV HRV hw4;have HV4:=hid (And.intro hCV (And.intro hsV (And.intro htV (And.intro hoV (And.intro hosV (And.intro htpV houV))))));have hg4:=(hoV G hGX).trans HGD.out;have hd3:=(Go.Joins.cell_of_block hg4 (j * 5+3)).trans HK.out.2.2.2.1;have hf3:=Go.Joins.unfrozen_of_block hg4 (j * 5+3);have HG4:=hid hg4;have HZ4:=hid hzV;clear hCV hsV htV hoV hosV htpV houV hg4;refine ah rfl (fun K hK=> ?_)
 go_simp
 refine hK _ _ (.inr (aj.refl _ _ _)) ?_;clear hK K;refine ah rfl (fun K hK=> ?_)
 go_simp
 refine hK _ _ (.inr (aj.refl _ _ _)) ?_;clear hK K;refine ah rfl (fun K hK=> ?_)
 go_simp
 refine hK _ _ (.inl (by decide)) ?_;clear hK K;refine aQ ?_;obtain⟨X3,hX3⟩: ∃X3,X3=Value.slice (some ⟨GX,0,none⟩) n b:=⟨_,rfl⟩;rw[←hX3];have HX3:=hid hX3;clear hX3 hd3 hf3;have hgW:(w4.setCell ⟨G,j * 5+3,none⟩ X3).heap[G]? =some (.cells (C.setIfInBounds (j * 5+3) X3) ty (0,0)):=Go.Joins.block_setCell (i:=j * 5+3) HG4.out X3;have hoW: ∀b,b≠G→(w4.setCell ⟨G,j * 5+3,none⟩ X3).heap[b]? =w4.heap[b]? :=fun b hb=>heap_setCell_other _ ⟨G,j * 5+3,none⟩ b _ hb;have hzW:(w4.setCell ⟨G,j * 5+3,none⟩ X3).heap.size=w4.heap.size:=by simp
 have hrW:(w4.setCell ⟨G,j * 5+3,none⟩ X3).os=w4.os∧(w4.setCell ⟨G,j * 5+3,none⟩ X3).tape=w4.tape∧(w4.setCell ⟨G,j * 5+3,none⟩ X3).output=w4.output:=⟨rfl,rfl,rfl⟩
 have HFIN:=hid (HUP.out (w4.setCell ⟨G,j * 5+3,none⟩ X3) y Fj (by
  generalize w4.setCell ⟨G,j * 5+3,none⟩ X3=w5 at *;obtain⟨v1,v2,v3,v4,v5,v6,v7⟩:=HV4.out;refine⟨by omega,fun b hb hnF hne=>(hoW b hne).trans ((v4 b (fun e=>hnF (e▸hFX))).trans (HBD.out.block b hb)),fun C2 ty2 fz hC2=> ?_,hrW.1.trans (v5.trans HBD.out.os),hrW.2.1.trans (v6.trans HBD.out.tape),hrW.2.2.trans (v7.trans HBD.out.output)⟩;have e:=HG.out.symm.trans hC2;injection e with e
  injection e with e1 e2 e3
  subst e1 e2 e3
  exact⟨_,hgW,by simp,fun m hm'=>by rw[Array.getElem?_setIfInBounds,if_neg (by omega)]⟩) (by
  generalize w4.setCell ⟨G,j * 5+3,none⟩ X3=w5 at *;obtain⟨v1,v2,v3,v4,v5,v6,v7⟩:=HV4.out;obtain⟨h12,h7,htk,hxl'⟩:=HXS.out;obtain⟨h1,h2,h3,h5,h6,h9,h10,h11⟩:=HR.out;obtain⟨hFg,hlt⟩:=HF.out;obtain⟨k0,k1,k2,k3,k4⟩:=HK.out;have hoth: ∀b,b<w.heap.size→b≠G→b≠GX→w5.heap[b]? =w.heap[b]? :=fun b hb x1 x2=>(hoW b x1).trans ((v4 b x2).trans (HBD.out.block b hb));have hCo:j * 5+3<C.size:=(Array.getElem?_eq_some_iff.1 k3).1;have hItems:w5.heap[GX]? =some (.cells CV 25 (0,0)):=(hoW GX (fun e=>hGX e.symm)).trans v1;have hln:(l.take n).length=n:=by rw[List.length_take];omega
  have hsz2:cur.toList.length=b * 5:=by rw[Array.length_toList];exact hsz
  have hxsV:CV.toList.take ((l.take n).length * 5)=xs.take (n * 5):=by
   have e:cur.toList.take (n * 5)++(cur.toList.drop (l.length * 5)).take ((l.length - l.length) * 5)=xs.take (n * 5):=by
    rw[Nat.sub_self,Nat.zero_mul,List.take_zero,List.append_nil,←htk,List.take_take,Nat.min_eq_left (by omega)]
   have hl:(cur.toList.take (n * 5)++(cur.toList.drop (l.length * 5)).take ((l.length - l.length) * 5)).length=(l.take n).length * 5:=by rw[e,List.length_take,hxl',hln];omega
   rw[hl]at v3;rw[v3,e]
  have hov:OVs w5 (Out Fj (some ⟨GX,0,none⟩) B') (l.take n) (xs.take (n * 5)):=
   (OVs.front n h12 (by omega)).keep fun b hb=>hoth b (hlt b hb.1) (fun e=>hFg (e▸hb.1)) (fun e=>hb.2.1 _ rfl e.symm)
  rw[HCV.out];refine⟨_,ty,some ⟨GX,0,none⟩,b,B',b',hgW,?_,?_,?_,?_,?_,?_,hFg,fun b hb=>by have:=hlt b hb;omega⟩;rotate_left 5
  ·refine OV.mk h1 h2 h3 (by rw[hln];omega) h5 h6 (bY h7 fun a ha=>hoth _ (hlt _ (h9 a ha)) (fun e=>hFg (e▸h9 a ha)) (fun e=>h11 _ _ rfl ha e.symm)) ?_ h9 h10 h11 hov;refine⟨?_,.inr ⟨GX,b,CV,rfl,Nat.zero_le _,hItems,by rw[hln];omega,hm,by rw[v2,hsz],hxsV⟩⟩;rw[List.length_take,hxl',hln];omega
  ·rw[Array.getElem?_setIfInBounds,if_neg (by omega)];exact k0
  ·rw[Array.getElem?_setIfInBounds,if_neg (by omega)];exact k1
  ·rw[Array.getElem?_setIfInBounds,if_neg (by omega)];exact k2
  ·rw[Array.getElem?_setIfInBounds,if_pos rfl,if_pos hCo,HX3.out];show some (Value.slice _ _ _)=some (Value.slice _ (l.take n).length _);rw[hln]
  ·rw[Array.getElem?_setIfInBounds,if_neg (by omega)];exact k4) (fun _=> .inl))
 clear hgW hoW hzW hrW;generalize w4.setCell ⟨G,j * 5+3,none⟩ X3=w5 at *;go_wp2_with fail
 go_end0
 exact⟨rfl,HFIN.out⟩
theorem pF :eD 130:=fun _ _=>by simp[callFunc,go_sem,Tryz.func130,Tryz.f130]
theorem qX :eD 132:=fun _ _=>by simp[callFunc,go_sem,Tryz.func132,Tryz.f132]
def bu (t:VT):List ByteArray→Int×VT
 | []=>(0,t)
 |s::_=>(0,if ab t s<0 then t else if t.kind=7 then nC t (ab t s).toNat else bO t (ab t s).toNat jB)
def bw (n:Int)(t:VT):List ByteArray→Int×VT
 | []=>(0,t)
 |s::_=>if n<0 then(1,t)else(0,if ab t s<0 then t else match t.items[(ab t s).toNat]? with
  |none=>t
  |some x=>bO t (ab t s).toNat (gz x n))
theorem bk (t:VT)(s:ByteArray)(r:List ByteArray):bu t (s::r)=(0,if ab t s<0 then t else if t.kind=7 then nC t (ab t s).toNat else bO t (ab t s).toNat jB):=rfl
theorem bA (n:Int)(t:VT)(s:ByteArray)(r:List ByteArray):bw n t (s::r)=if n<0 then((1:Int),t)else((0:Int),if ab t s<0 then t else match t.items[(ab t s).toNat]? with
  |none=>t
  |some x=>bO t (ab t s).toNat (gz x n)):=rfl
theorem dS {t:VT}(h:ao t=true)(hk:t.kind=7):t.names.length=t.items.length:=by
 cases t with
 |mk k i s l ns=>exact(dE h).1 hk
theorem uU (t:VT)(g o:Nat)(A:Option Addr)(c:Nat)(s:ByteArray)(r:List ByteArray)(F:Nat→Prop)(w:World)(h:OAt w F t g o)(hm:ao t=true):
  Calls Tryz.prog 130 #[.agg #[.pointer (some ⟨g,o,none⟩),.int .i64 (ab t s),.slice A (r.length+1) c]] w (cf F g o w (bu t (s::r))):=by
 obtain⟨P,hP⟩: ∃P,P=ab t s:=⟨_,rfl⟩;rw[←hP];have hge: -1≤P:=by rw[hP];exact iJ t s
 have hb1:Below w.heap.size w (w.alloc (.cells #[.pointer (some ⟨g,o,none⟩),.int .i64 P,.slice A (r.length+1) c] 108)):=ae _;have H1:=h.keep hb1
 have hcall:Calls Tryz.prog 131 #[.agg #[.pointer (some ⟨g,o,none⟩),.int .i64 P,.slice A (r.length+1) c]] (w.alloc (.cells #[.pointer (some ⟨g,o,none⟩),.int .i64 P,.slice A (r.length+1) c] 108)) fun e w'=>e= .returned (.tuple #[])∧cf F g o w (bu t (s::r)) (.returned (.int .i64 0)) w':=by
  by_cases hneg:P<0
  ·refine(sA F t g o P hneg _ _ H1).mono ?_;rintro e w' ⟨rfl,hd⟩;refine⟨rfl,cf.from ⟨rfl,?_⟩ hb1 h.lt⟩;rw[bk];rw[←hP,if_pos hneg];exact hd
  obtain⟨j,rfl⟩: ∃j:Nat,P=j:=⟨P.toNat,by omega⟩
  have hj:j<t.items.length:=by
   have:=aR (bR hm) (s:=s) (by rw[←hP];omega);rw[←hP]at this;simpa using this
  by_cases hk:t.kind=7
  ·refine(ve F t g o j hj hk (dS hm hk) _ _ H1).mono ?_;rintro e w' ⟨rfl,hd⟩;refine⟨rfl,cf.from ⟨rfl,?_⟩ hb1 h.lt⟩;rw[bk];rw[←hP,if_neg hneg,if_pos hk];exact hd
  ·refine(sk F t g o j hj hk _ _ H1).mono ?_;rintro e w' ⟨rfl,hd⟩;refine⟨rfl,cf.from ⟨rfl,?_⟩ hb1 h.lt⟩;rw[bk];rw[←hP,if_neg hneg,if_neg hk];exact hd
 have HC:=hid hcall;clear hcall H1 hb1 h hP hm hge;go_enter Tryz.func130,Tryz.ntmps130;go_wp2_with fail;refine HC.out.mono ?_;rintro e w2 ⟨rfl,hd⟩;have HD:=hid hd;clear hd HC;go_wp2_with fail;go_ret;exact HD.out
theorem xC (n:Int)(hn: -9223372036854775808≤n∧n≤9223372036854775807)(bx:Nat)(t:VT)(g o:Nat)(A:Option Addr)(c:Nat)(s:ByteArray)(r:List ByteArray)(F:Nat→Prop)(w:World)(h:OAt w F t g o)(hm:ao t=true)(hx:w.heap[bx]? =some (.cells #[.int .i64 n] 3 (0,0))):
  Calls Tryz.prog 132 #[.agg #[.pointer (some ⟨g,o,none⟩),.int .i64 (ab t s),.slice A (r.length+1) c],.pointer (some ⟨bx,0,none⟩)] w (cf F g o w (bw n t (s::r))):=by
 obtain⟨P,hP⟩: ∃P,P=ab t s:=⟨_,rfl⟩;rw[←hP];have hge: -1≤P:=by rw[hP];exact iJ t s
 have hb1:Below w.heap.size w (w.alloc (.cells #[.pointer (some ⟨g,o,none⟩),.int .i64 P,.slice A (r.length+1) c] 108)):=ae _;have H1:=h.keep hb1;have hbx:bx<w.heap.size:=(Array.getElem?_eq_some_iff.1 hx).1;have x0:w.cell? ⟨bx,0,none⟩=some (.int .i64 n):=Go.Joins.cell_of_block hx 0;by_cases hn0:n<0
 ·have hnb:decide (n<0)=true:=decide_eq_true hn0
  have hd:cf F g o w (bw n t (s::r)) (.returned (.int .i64 1)) (w.alloc (.cells #[.pointer (some ⟨g,o,none⟩),.int .i64 P,.slice A (r.length+1) c] 108)):=by
   have e:bw n t (s::r)=(1,t):=by rw[bA,if_pos hn0]
   rw[e];exact⟨rfl,h.still hb1⟩
  have HD:=hid hd;clear hd H1 hb1 h hP hm hge hx;go_enter Tryz.func132,Tryz.ntmps132;go_wp2_with fail;go_ret;exact HD.out
 have hnb:decide (n<0)=false:=decide_eq_false hn0;obtain⟨m,rfl⟩: ∃m:Nat,n=m:=⟨n.toNat,by omega⟩
 have hcall:Calls Tryz.prog 133 #[.agg #[.pointer (some ⟨g,o,none⟩),.int .i64 P,.slice A (r.length+1) c],.int .i64 m] (w.alloc (.cells #[.pointer (some ⟨g,o,none⟩),.int .i64 P,.slice A (r.length+1) c] 108)) fun e w'=>e= .returned (.tuple #[])∧cf F g o w (bw m t (s::r)) (.returned (.int .i64 0)) w':=by
  by_cases hneg:P<0
  ·refine(vF F t g o P hneg _ _ _ H1).mono ?_;rintro e w' ⟨rfl,hd⟩;refine⟨rfl,cf.from (res:=bw m t (s::r)) ?_ hb1 h.lt⟩;rw[bA];rw[←hP,if_neg hn0,if_pos hneg];exact⟨rfl,hd⟩
  obtain⟨j,rfl⟩: ∃j:Nat,P=j:=⟨P.toNat,by omega⟩
  have hj:j<t.items.length:=by
   have:=aR (bR hm) (s:=s) (by rw[←hP];omega);rw[←hP]at this;simpa using this
  refine(uO F t g o j hj _ m (by omega) _ H1).mono ?_;rintro e w' ⟨rfl,hd⟩;refine⟨rfl,cf.from (res:=bw m t (s::r)) ?_ hb1 h.lt⟩
  have e:bw m t (s::r)=(0,bO t j (gz t.items[j] m)):=by
   rw[bA];rw[←hP,if_neg hn0,if_neg hneg,Int.toNat_natCast,List.getElem?_eq_getElem hj]
  rw[e];exact⟨rfl,hd⟩
 have HC:=hid hcall;clear hcall H1 hb1 h hP hm hge hx;go_enter Tryz.func132,Tryz.ntmps132;go_wp2_with fail;refine HC.out.mono ?_;rintro e w2 ⟨rfl,hd⟩;have HD:=hid hd;clear hd HC;go_wp2_with fail;go_ret;exact HD.out
theorem cu {w w5:World}{res:Int×VT}{u:VT}{x:Int}{c0 c1 c2 c3 c4:Value}(q:Nat)(hb:Below w.heap.size w w5)(hv:LV w5 (Iv (w.heap.size+q+1) w5.heap.size) u (.agg #[c0,c1,c2,c3,c4]))(hr:res=(x,u)):
  dF res w (.returned (.tuple #[.agg #[c0,c1,c2,c3,c4],.int .i64 x])) (cI w5 (w.heap.size+q) 0 c0 c1 c2 c3 c4):=by
 have hr5:=ct w5 (w.heap.size+q) 0 c0 c1 c2 c3 c4;have hk:=bz w5 (w.heap.size+q) 0 c0 c1 c2 c3 c4;have hz:=bK w5 (w.heap.size+q) 0 c0 c1 c2 c3 c4;subst hr
 exact⟨_,rfl,(hv.keep fun b hb'=>hk b (by have:=hb'.1;omega)).imp fun b hb'=>⟨by have:=hb'.1;omega,by rw[hz];exact hb'.2⟩,
  ⟨hr5.1.trans hb.os,hr5.2.1.trans hb.tape,hr5.2.2.trans hb.output,by rw[hz];exact hb.size,fun b hb'=>(hk b (by omega)).trans (hb.block b hb')⟩⟩
theorem rW (S:Nat→Prop)(t:VT)(v:Value)(A:Option Addr)(c:Nat)(p:List ByteArray)(w:World)(hS: ∀b,S b→b<w.heap.size)(h:LV w S t v)(hd:ac t≤4611686018427387903)(hp:ai w S A p)(hn:p.length≤140737488351232)(hpc:p.length≤c)(h63:c≤9223372036854775807):
  Calls Tryz.prog 85 #[v,.slice A p.length c] w (dF (br bu t p) w):=by
 obtain⟨A0,c0,A0',c0',rfl,-,-,-,v1,hb0⟩:=bV hS h;have HX:=hid v1.x;have HB:=hid hb0;have HV:=hid h;have HP:=hid hp;have HD:=hid hd;clear h v1 hb0 hd hp;go_enter Tryz.func85,Tryz.ntmps85;go_wp2_with fail;have hz1:(w.alloc (.cells #[.int .i64 t.kind,.int .i64 t.num,.string t.text,.slice A0 t.items.length c0,.slice A0' t.names.length c0'] 25)).heap.size=w.heap.size+1:=by simp
 have hB0:Below w.heap.size w ((w.alloc (.cells #[.int .i64 t.kind,.int .i64 t.num,.string t.text,.slice A0 t.items.length c0,.slice A0' t.names.length c0'] 25)).alloc (.cells #[.int .i64 0,.int .i64 0,.string ⟨#[]⟩,.slice none 0 0,.slice none 0 0] 25)):=HB.out.alloc (by omega) _;have hX0:=HX.out.alloc (.cells #[.int .i64 0,.int .i64 0,.string ⟨#[]⟩,.slice none 0 0,.slice none 0 0] 25)
 have hR0:Box ((w.alloc (.cells #[.int .i64 t.kind,.int .i64 t.num,.string t.text,.slice A0 t.items.length c0,.slice A0' t.names.length c0'] 25)).alloc (.cells #[.int .i64 0,.int .i64 0,.string ⟨#[]⟩,.slice none 0 0,.slice none 0 0] 25)) (w.heap.size+1) (.int .i64 0) (.int .i64 0) (.string ⟨#[]⟩) (.slice none 0 0) (.slice none 0 0):=by
  have h:=Box.new (w:=w.alloc (.cells #[.int .i64 t.kind,.int .i64 t.num,.string t.text,.slice A0 t.items.length c0,.slice A0' t.names.length c0'] 25)) (.int .i64 0) (.int .i64 0) (.string ⟨#[]⟩) (.slice none 0 0) (.slice none 0 0);rw[hz1]at h;exact h
 have hz2:((w.alloc (.cells #[.int .i64 t.kind,.int .i64 t.num,.string t.text,.slice A0 t.items.length c0,.slice A0' t.names.length c0'] 25)).alloc (.cells #[.int .i64 0,.int .i64 0,.string ⟨#[]⟩,.slice none 0 0,.slice none 0 0] 25)).heap.size=w.heap.size+2:=by simp
 generalize (w.alloc (.cells #[.int .i64 t.kind,.int .i64 t.num,.string t.text,.slice A0 t.items.length c0,.slice A0' t.names.length c0'] 25)).alloc (.cells #[.int .i64 0,.int .i64 0,.string ⟨#[]⟩,.slice none 0 0,.slice none 0 0] 25)=w2 at *;have q0:=hX0.c0;have q1:=hX0.c1;have q2:=hX0.c2;have q3:=hX0.c3;have q4:=hX0.c4;have HB0:=hid hB0;have HR0:=hid hR0;have HC:=hid (hH 130 #[] bu S (fun _=>True) (fun _=>True) (fun _ _ _ _=>trivial) pF (fun _ _ _ _=>trivial) (fun w t g o A c s r F _ ho hm _ _ _ _ _ _ _=>uU t g o A c s r F w ho hm) t _ A c p w2 trivial trivial (fun b hb=>by have:=hS b hb;omega) (HV.out.keep fun b hb=>hB0.block b (hS b hb)) HD.out (HP.out.keep fun b hb=>hB0.block b (hS b hb)) hn hpc h63);clear hB0 hX0 hR0 hz1 HB HX HV HP HD;go_wp2_with fail;refine HC.out.mono ?_;rintro e w5 ⟨v',rfl,hv,hb5⟩;obtain⟨B,k,B',k',rfl,-⟩:=hv.shape;have HB5:=hid (HB0.out.trans (hb5.mono (show w.heap.size≤w2.heap.size by omega)));have HR5:=hid (HR0.out.call hb5);have HV5:=hid (hv.imp (S':=Iv (w.heap.size+1+1) w5.heap.size) fun b hb=>⟨by have:=hb.1;omega,hb.2⟩);have rf:=fun i=>HR5.out.free i;have r0:=HR5.out.c0;have r1:=HR5.out.c1;have r2:=HR5.out.c2;have r3:=HR5.out.c3;have r4:=HR5.out.c4;generalize hres:br bu t p=res at *;obtain⟨x,u⟩:=res;simp only at *;have HEND:=hid (cu (res:=(x,u)) 1 HB5.out HV5.out rfl);have HBOX:=hid (aY (c0:= .int .i64 u.kind) (c1:= .int .i64 u.num) (c2:= .string u.text) (c3:= .slice B u.items.length k) (c4:= .slice B' u.names.length k') HR5.out);clear hv hb5 HC HR0 HB0 HV5 HB5 hz2 hres q0 q1 q2 q3 q4
 go_wp2_with fail;refine bodyPost_ret (ar rfl _ _ (w.heap.size+1) 25 _ (0,0) rfl HBOX.out (by kernel_rfl)) rfl ?_;exact HEND.out
theorem vm (n:Int)(hn': -9223372036854775808≤n∧n≤9223372036854775807)(S:Nat→Prop)(t:VT)(v:Value)(A:Option Addr)(c:Nat)(p:List ByteArray)(w:World)(hS: ∀b,S b→b<w.heap.size)(h:LV w S t v)(hd:ac t≤4611686018427387903)(hp:ai w S A p)(hn:p.length≤140737488351232)(hpc:p.length≤c)(h63:c≤9223372036854775807):
  Calls Tryz.prog 86 #[v,.slice A p.length c,.int .i64 n] w (dF (br (bw n) t p) w):=by
 obtain⟨A0,c0,A0',c0',rfl,-,-,-,v1,hb0⟩:=bV hS h;have HX:=hid v1.x;have HB:=hid hb0;have HV:=hid h;have HP:=hid hp;have HD:=hid hd;clear h v1 hb0 hd hp;go_enter Tryz.func86,Tryz.ntmps86;go_wp2_with fail;generalize hE1:w.alloc (.cells #[.int .i64 t.kind,.int .i64 t.num,.string t.text,.slice A0 t.items.length c0,.slice A0' t.names.length c0'] 25)=W1 at *;have hz1:W1.heap.size=w.heap.size+1:=by rw[←hE1];simp
 have hz2:(W1.alloc (.cells #[.int .i64 n] 3)).heap.size=w.heap.size+2:=by simp[hz1]
 have hz3:((W1.alloc (.cells #[.int .i64 n] 3)).alloc (.cells #[.int .i64 0,.int .i64 0,.string ⟨#[]⟩,.slice none 0 0,.slice none 0 0] 25)).heap.size=w.heap.size+3:=by simp[hz1]
 have hB0:Below w.heap.size w ((W1.alloc (.cells #[.int .i64 n] 3)).alloc (.cells #[.int .i64 0,.int .i64 0,.string ⟨#[]⟩,.slice none 0 0,.slice none 0 0] 25)):=(HB.out.alloc (by omega) _).alloc (by omega) _;have hX0:=(HX.out.alloc (.cells #[.int .i64 n] 3)).alloc (.cells #[.int .i64 0,.int .i64 0,.string ⟨#[]⟩,.slice none 0 0,.slice none 0 0] 25)
 have hN0:((W1.alloc (.cells #[.int .i64 n] 3)).alloc (.cells #[.int .i64 0,.int .i64 0,.string ⟨#[]⟩,.slice none 0 0,.slice none 0 0] 25)).heap[w.heap.size+1]? =some (.cells #[.int .i64 n] 3 (0,0)):=by
  refine(Below.heap_alloc _ _ _ (by omega)).trans ?_;rw[←hz1];exact heap_alloc_new _ _
 have hR0:Box ((W1.alloc (.cells #[.int .i64 n] 3)).alloc (.cells #[.int .i64 0,.int .i64 0,.string ⟨#[]⟩,.slice none 0 0,.slice none 0 0] 25)) (w.heap.size+2) (.int .i64 0) (.int .i64 0) (.string ⟨#[]⟩) (.slice none 0 0) (.slice none 0 0):=by
  have h:=Box.new (w:=W1.alloc (.cells #[.int .i64 n] 3)) (.int .i64 0) (.int .i64 0) (.string ⟨#[]⟩) (.slice none 0 0) (.slice none 0 0);rw[hz2]at h;exact h
 clear hE1;generalize (W1.alloc (.cells #[.int .i64 n] 3)).alloc (.cells #[.int .i64 0,.int .i64 0,.string ⟨#[]⟩,.slice none 0 0,.slice none 0 0] 25)=w2 at *;have q0:=hX0.c0;have q1:=hX0.c1;have q2:=hX0.c2;have q3:=hX0.c3;have q4:=hX0.c4;have HB0:=hid hB0;have HR0:=hid hR0
 have HC:=hid (hH 132 #[.pointer (some ⟨w.heap.size+1,0,none⟩)] (bw n) S (fun w'=>w'.heap[w.heap.size+1]? =some (.cells #[.int .i64 n] 3 (0,0))) (fun _=>True) (fun _ _ _ _=>trivial) qX (fun w1 w2 hj hb=>(hb.block _ (Array.getElem?_eq_some_iff.1 hj).1).trans hj)
  (fun w1 t g o A c s r F hj ho hm _ _ _ _ _ _ _=>xC n hn' (w.heap.size+1) t g o A c s r F w1 ho hm hj) t _ A c p w2 hN0 trivial (fun b hb=>by have:=hS b hb;omega) (HV.out.keep fun b hb=>hB0.block b (hS b hb)) HD.out (HP.out.keep fun b hb=>hB0.block b (hS b hb)) hn hpc h63)
 clear hB0 hX0 hR0 hN0 HB HX HV HP HD;go_wp2_with fail;have e1:W1.heap.size=w.heap.size+1:=hz1;try rw[e1]
 refine HC.out.mono ?_;rintro e w5 ⟨v',rfl,hv,hb5⟩;obtain⟨B,k,B',k',rfl,-⟩:=hv.shape;have HB5:=hid (HB0.out.trans (hb5.mono (show w.heap.size≤w2.heap.size by omega)));have HR5:=hid (HR0.out.call hb5);have HV5:=hid (hv.imp (S':=Iv (w.heap.size+2+1) w5.heap.size) fun b hb=>⟨by have:=hb.1;omega,hb.2⟩);have rf:=fun i=>HR5.out.free i;have r0:=HR5.out.c0;have r1:=HR5.out.c1;have r2:=HR5.out.c2;have r3:=HR5.out.c3;have r4:=HR5.out.c4;generalize hres:br (bw n) t p=res at *;obtain⟨x,u⟩:=res;simp only at *;have HEND:=hid (cu (res:=(x,u)) 2 HB5.out HV5.out rfl);have HBOX:=hid (aY (c0:= .int .i64 u.kind) (c1:= .int .i64 u.num) (c2:= .string u.text) (c3:= .slice B u.items.length k) (c4:= .slice B' u.names.length k') HR5.out);clear hv hb5 HC HR0 HB0 HV5 HB5 hz2 hres q0 q1 q2 q3 q4 hz1 e1;go_wp2_with fail;refine bodyPost_ret (ar rfl _ _ (w.heap.size+2) 25 _ (0,0) rfl HBOX.out (by kernel_rfl)) rfl ?_;exact HEND.out
end Go.Proofs.YtgbopnlpaabelaaGreatDoor
/- The library's Backward over texts: for every loop body. -/
namespace Go.Proofs.YtgbopnlpaabelaaGreatDoor
open Lib (hid)
open Go.RowKit Go.Shelf
attribute [local go_sem] Oper.semAt_some
def KpB (bx m:Nat)(W W':World):Prop:=W.heap.size≤W'.heap.size∧ ∀b,b<m→b≠bx→W'.heap[b]? =W.heap[b]?
theorem KpB.refl (bx m:Nat)(W:World):KpB bx m W W:=⟨Nat.le_refl _,fun _ _ _=>rfl⟩
theorem KpB.trans {bx m:Nat}{A B C:World}(h:KpB bx m A B)(k:KpB bx m B C):KpB bx m A C:=⟨Nat.le_trans h.1 k.1,fun b hb hx=>(k.2 b hb hx).trans (h.2 b hb hx)⟩
theorem Ao {bx m:Nat}{w:World}(hn:m≤w.heap.size)(W:World)(l:Nat)(o o':Obj)(hl:w.heap.size≤l)(h:W.heap[l]? =some o)(_:o.isCells=false)(_:o.isWalk=false):KpB bx m W (W.putObj l o'):=
 ⟨(grownBy_putObj' W l o').size,fun b hb _=>(grownBy_putObj' W l o').block b (by have:=(Array.getElem?_eq_some_iff.1 h).1;omega) (fun e=>by injection e with e;omega)⟩
def upB (zs:List ByteArray)(k:Nat):List (Nat×ByteArray):=(List.range k).map fun j=>(zs.length - 1 - j,zs[zs.length - 1 - j]?.getD ⟨#[]⟩)
theorem yH (zs:List ByteArray)(k:Nat):upB zs (k+1)=upB zs k++[(zs.length - 1 - k,zs[zs.length - 1 - k]?.getD ⟨#[]⟩)]:=by simp[upB,List.range_succ]
theorem te (zs:List ByteArray)(k:Nat):(upB zs k).length=k:=by simp[upB]
theorem wY (F:Fence)(n:Nat)(hf:F.fn 181)(hro:F.round=none)(hn:1≤n)(l Bs bx m:Nat)(S:Nat→Prop)(A:Option Addr)(c:Nat)(zs:List ByteArray)(hlen:zs.length≤9223372036854775807)(hBs:Bs<m∧Bs≠bx)(hS: ∀b,S b→b<m∧b≠bx)(J Jx:List (Nat×ByteArray)→World→Prop)
  (hY: ∀pre x W,J pre W→pre.length<zs.length→YieldAt F (n - 1) Tryz.prog l #[.int .i64 (x.1:Int),.string x.2] W fun e W'=>
   (e= .returned (.bool true)∧J (pre++[x]) W'∧KpB bx m W W')∨(e= .returned (.bool false)∧Jx (pre++[x]) W'))
  (W:World) (hc:W.cell? ⟨Bs,0,none⟩=some (.slice A zs.length c)) (hst:ai W S A zs) (h0:J [] W):
  CallsIn F n Tryz.prog 181 #[.func (.yield l) #[] #[],.pointer (some ⟨Bs,0,none⟩)] W fun e W'=>(∃v,e= .returned v)∧
   ((∃ys,ys=upB zs zs.length∧J ys W')∨(∃pre,(∃k,k≤zs.length∧pre=upB zs k)∧Jx pre W')):=by
 have HST:=hid hst;clear hst;refine callsIn_of_wp Tryz.func181 rfl hf ?_ hro;simp only[Tryz.ntmps181,List.size_toArray,List.length_cons,List.length_nil,Nat.reduceAdd,Nat.reduceSub,Array.replicate_succ,Array.replicate_zero,List.push_toArray,List.append_toArray,List.nil_append,List.cons_append]
 gi_wp2
 gi_loopw [3] (fun i wr=> ∃(k:Nat) (P:Int),k≤zs.length∧Hid (P=(zs.length:Int) - 1 - k)∧i= .int .i64 P∧J (upB zs k) wr∧Hid (KpB bx m W wr))
  (fun i _=>(intOf i+1).toNat)
 case atStart=>exact⟨0,(zs.length:Int) - 1,Nat.zero_le _,hid (by omega),rfl,h0,hid (KpB.refl _ _ _)⟩
 case round=>
  obtain⟨k,P,hk,HP,rfl,hJs,HK⟩:=hrel;by_cases hlt:k<zs.length
  ·obtain⟨q,rfl⟩: ∃q:Nat,P=q:=⟨P.toNat,by have:=HP.out;omega⟩;have hq:zs.length - 1 - k=q:=by have:=HP.out;omega
   have hql:q<zs.length:=by omega
   obtain⟨b,off,rfl,hb,hx⟩:=HST.out (by omega);have hcx:wr.cell? ⟨b,off+q,none⟩=some (.string zs[q]):=(World.cell?_of_block (a:=⟨b,off+q,none⟩) (HK.out.2 b (hS b hb).1 (hS b hb).2)).trans (hx q hql).1;have hcb:wr.cell? ⟨Bs,0,none⟩=some (.slice (some ⟨b,off,none⟩) zs.length c):=(World.cell?_of_block (a:=⟨Bs,0,none⟩) (HK.out.2 Bs hBs.1 hBs.2)).trans hc;obtain⟨s,hs⟩: ∃s,s=zs[q]:=⟨_,rfl⟩;have hge:decide (0≤(q:Int))=true:=decide_eq_true (by omega);obtain⟨fn,tmps,assign,body,hy,hR⟩:=hY _ (q,s) wr hJs (by rw[te];exact hlt);dsimp only at hy;have HU:Hid (upB zs (k+1)=upB zs k++[(q,s)]):=hid (by rw[yH,hq,hs,List.getElem?_eq_getElem hql];rfl);rw[←hs]at hcx;clear hx hs hJs
   gi_wp2
   refine hR.mono ?_;rintro e W3 (⟨rfl,hJ3,hk3⟩|⟨rfl,hJx3⟩)
   ·gi_wp2
    go_roundw
    case rel=>exact⟨k+1,(q:Int) - 1,by omega,hid (by have:=HP.out;omega),by first|rfl|go_num,by rw[HU.out];exact hJ3,hid (HK.out.trans hk3)⟩
    case measure=>simp[intOf]
   ·gi_wp2
    refine bodyPost_ret (results_none rfl _ _ _) rfl ?_;exact⟨⟨_,rfl⟩,.inr ⟨_,⟨k+1,by omega,HU.out.symm⟩,hJx3⟩⟩
  ·obtain rfl:k=zs.length:=by omega
   have hge:decide (0≤P)=false:=decide_eq_false (by have:=HP.out;omega)
   gi_wp2
   go_end0
   exact⟨⟨_,rfl⟩,.inl ⟨_,rfl,hJs⟩⟩
theorem sf (F:Fence)(n:Nat)(hf:F.fn 181)(hro:F.round=none)(hn:1≤n)(Bs bx m:Nat)(S:Nat→Prop)(A:Option Addr)(c:Nat)(zs:List ByteArray)(hlen:zs.length≤9223372036854775807)(hBs:Bs<m∧Bs≠bx)(hS: ∀b,S b→b<m∧b≠bx)(w:World)(hm:m≤w.heap.size)(hc:w.cell? ⟨Bs,0,none⟩=some (.slice A zs.length c))(hst:ai w S A zs):
  SeqStopsK F n Tryz.prog 181 #[.pointer (some ⟨Bs,0,none⟩)] (fun x:Nat×ByteArray=> #[Value.int .i64 (x.1:Int),Value.string x.2]) (KpB bx m) (fun ys=>ys=upB zs zs.length) (fun pre=> ∃k,k≤zs.length∧pre=upB zs k) zs.length w:=fun l J Jx W hW _ _ hY h0=>
 wY F n hf hro hn l Bs bx m S A c zs hlen hBs hS J Jx hY W ((hW.cell (p:=⟨Bs,0,none⟩) (Nat.lt_of_lt_of_le hBs.1 hm)).trans hc) (hst.keep fun b hb=>hW.block b (Nat.lt_of_lt_of_le (hS b hb).1 hm)) h0
theorem zA (F:Fence)(n:Nat)(hf:F.fn 175)(hro:F.round=none)(a:Option Addr)(len cap:Nat)(w:World):
  CallsIn F n Tryz.prog 175 #[.slice a len cap] w fun e w'=>e= .returned (.func (.func 181) #[] #[.pointer (some ⟨w.heap.size,0,none⟩)])∧w'=w.alloc (.cells #[.slice a len cap] 23):=by
 refine callsIn_of_wp Tryz.func175 rfl hf ?_ hro;simp only[Tryz.ntmps175,List.size_toArray,List.length_cons,List.length_nil,Nat.reduceAdd,Nat.reduceSub,Array.replicate_succ,Array.replicate_zero,List.push_toArray,List.append_toArray,List.nil_append,List.cons_append]
 gi_wp2
 go_ret;exact⟨rfl,rfl⟩
end Go.Proofs.YtgbopnlpaabelaaGreatDoor
