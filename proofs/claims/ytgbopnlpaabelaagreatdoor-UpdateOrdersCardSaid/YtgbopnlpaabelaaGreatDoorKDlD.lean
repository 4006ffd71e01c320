/- What keeps a row from being a list of changes, by the program. -/
import Derived.Test.YtgbopnlpaabelaaGreatDoorKSpM
import Derived.Test.YtgbopnlpaabelaaGreatDoorKSpJ
import Derived.Test.YtgbopnlpaabelaaGreatDoorKTrA
import Derived.Test.YtgbopnlpaabelaaGreatDoorKTrI
import Derived.Test.YtgbopnlpaabelaaGreatDoorKValF
import Derived.Test.YtgbopnlpaabelaaGreatDoorKMath
import Derived.Test.YtgbopnlpaabelaaGreatDoorKRefO
import Derived.Test.YtgbopnlpaabelaaGreatDoorKRefM
import Derived.Test.YtgbopnlpaabelaaGreatDoorKTrE
import Derived.Maps.AppendAt
import Derived.Lib.OthersKept
import Derived.Laws.AppendOwnNone
import Derived.Outline
import Derived.Lib.SliceRun
import Derived.Deep.RegionLaw
set_option maxHeartbeats 64000000
set_option maxRecDepth 100000
set_option linter.unusedVariables false
set_option linter.unusedSimpArgs false
namespace Go.Proofs.YtgbopnlpaabelaaGreatDoor
open Lib (hid)
open Go.RowKit
theorem tC {α:Type}{p:α→Bool}{l:List α}(h: ∀j (h:j<l.length),p l[j]=true):l.all p=true:=by
 rw[List.all_eq_true];intro x hx;obtain⟨j,hj,rfl⟩:=List.mem_iff_getElem.1 hx;exact h j hj
theorem vE {α:Type}{p:α→Bool}{l:List α}{j:Nat}(hj:j<l.length)(h:p l[j]=false):l.all p=false:=by
 rw[List.all_eq_false];exact⟨l[j],List.getElem_mem hj,by rw[h];simp⟩
theorem qm (S:Nat→Prop)(d:au)(cs:Array Value)(w:World)(hS: ∀b,S b→b<w.heap.size)(h:cQ w S d cs)(hd:ac d.val≤4611686018427387903):
  Calls Tryz.prog 77 #[.agg cs] w fun e w'=>e= .returned (.bool (!co d))∧Below w.heap.size w w':=by
 obtain⟨PA,pc,VA,vc,VA',vc',rfl,hv,hp,hpc,hpn,hk,hn,hpl⟩:=id h;obtain⟨w1,hw1⟩: ∃W,W=w.alloc (.cells #[.int .i64 d.kind,.slice PA d.path.length pc,.int .i64 d.val.kind,.int .i64 d.val.num,.string d.val.text,.slice VA d.val.items.length vc,.slice VA' d.val.names.length vc',.int .i64 d.num] 58):=⟨_,rfl⟩;have hbk:w1.heap[w.heap.size]? =some (.cells #[.int .i64 d.kind,.slice PA d.path.length pc,.int .i64 d.val.kind,.int .i64 d.val.num,.string d.val.text,.slice VA d.val.items.length vc,.slice VA' d.val.names.length vc',.int .i64 d.num] 58 (0,0)):=by rw[hw1];exact heap_alloc_new w _
 have hb1:Below w.heap.size w w1:=by rw[hw1];exact(Below.refl _ _).alloc (Nat.le_refl _) _
 have y0:=Go.Joins.cell_of_block hbk 0;have y1:=Go.Joins.cell_of_block hbk 1;have y2:=Go.Joins.cell_of_block hbk 2;have y3:=Go.Joins.cell_of_block hbk 3;have y4:=Go.Joins.cell_of_block hbk 4;have y5:=Go.Joins.cell_of_block hbk 5;have y6:=Go.Joins.cell_of_block hbk 6;have y7:=Go.Joins.cell_of_block hbk 7;have HM:=hid (uX S d _ w1 (fun b hb=>Nat.lt_of_lt_of_le (hS b hb) hb1.size) (h.below hS hb1) hd);have HB1:=hid hb1;clear hbk hb1 h hv hp hpc hpn hk hn hpl hS hd;go_enter Tryz.func77,Tryz.ntmps77;go_wp2_with fail;rw[←hw1];refine HM.out.mono ?_;rintro e w2 ⟨rfl,hb2⟩;have HB2:=hid (HB1.out.trans (hb2.mono HB1.out.size));clear hb2;clear HM;go_wp2_with fail;go_ret;exact⟨rfl,HB2.out⟩
theorem yZ (S:Nat→Prop)(A:Option Addr)(c:Nat)(l:List au)(w:World)(hS: ∀b,S b→b<w.heap.size)(h:dl w S A l)(hn:l.length≤140737488351232)(hd:gC l):
  Calls Tryz.prog 123 #[.slice A l.length c,.func (.func 77) #[] #[]] w fun e w'=>(∃i:Int,e= .returned (.int .i64 i)∧decide (0≤i)=(!(l.all co)))∧Below w.heap.size w w':=by
 have H:=hid h;have HS:=hid hS;have HD:=hid hd;have HN:=hid hn;clear h hS hd;go_enter Tryz.func123,Tryz.ntmps123;go_wp2_with fail
 go_loopw [8] (fun i wr=> ∃k:Nat,i= .int .i64 k∧k≤l.length∧Hid (Below w.heap.size w wr)∧Hid (∀j (h:j<l.length),j<k→co l[j]=true)) (fun i _=>l.length - (intOf i).toNat)
 case atStart=>exact⟨0,rfl,by omega,hid (Below.refl _ _),hid fun j _ h=>absurd h (by omega)⟩
 case round=>
  obtain⟨k,rfl,hk,HB,HJ⟩:=hrel;by_cases hlt:k<l.length
  ·have hS2: ∀b,S b→b<wr.heap.size:=fun b hb=>Nat.lt_of_lt_of_le (HS.out b hb) HB.out.size;obtain⟨bp,off,PA,pc,VA,vc,VA',vc',rfl,hpS,ho,x0,x1,x2,x3,x4,x5,x6,x7⟩:=(H.out.below HS.out HB.out).cells k hlt;have HC:=hid (qm S l[k] _ wr hS2 ho (HD.out _ (List.getElem_mem hlt)));clear ho hS2 hpS;go_wp2_with fail;refine HC.out.mono ?_;rintro e u ⟨rfl,hb⟩;have HB2:=hid (HB.out.trans (hb.mono HB.out.size));clear hb HC x0 x1 x2 x3 x4 x5 x6 x7;cases hm:co l[k]
   ·have HM:=hid hm;clear hm;go_wp2_with fail;go_ret;exact⟨⟨k,rfl,by rw[vE hlt HM.out];simp⟩,HB2.out⟩
   ·have HM:=hid hm;clear hm;go_wp2_with fail
    go_roundw
    case rel=>exact⟨k+1,by go_num,by omega,HB2,hid fun j h hjk=>by
     by_cases e:j=k
     ·subst e;exact HM.out
     ·exact HJ.out j h (by omega)⟩
    case measure=>simp[intOf];omega
  ·go_wp2_with fail;go_ret;exact⟨⟨-1,rfl,by rw[tC fun j h=>HJ.out j h (by omega)];rfl⟩,HB.out⟩
theorem vm (S:Nat→Prop)(A:Option Addr)(c:Nat)(l:List au)(w:World)(hS: ∀b,S b→b<w.heap.size)(h:dl w S A l)(hn:l.length≤140737488351232)(hd:gC l):
  Calls Tryz.prog 76 #[.slice A l.length c,.func (.func 77) #[] #[]] w fun e w'=>e= .returned (.bool (!(l.all co)))∧Below w.heap.size w w':=by
 have HC:=hid (yZ S A c l w hS h hn hd);clear h hS hd;go_enter Tryz.func76,Tryz.ntmps76;go_wp2_with fail;refine HC.out.mono ?_;rintro e u ⟨⟨i,rfl,hi⟩,hb⟩;have HI:=hid hi;have HB:=hid hb;clear hi hb HC;go_wp2_with fail;go_ret;exact⟨aM HI.out,HB.out⟩
theorem rX (S:Nat→Prop)(A:Option Addr)(c:Nat)(l:List au)(w:World)(hS: ∀b,S b→b<w.heap.size)(h:dl w S A l)(hn:l.length≤140737488351232)(hd:gC l):
  Calls Tryz.prog 42 #[.slice A l.length c] w fun e w'=>e= .returned (.int .i64 (cO l))∧Below w.heap.size w w':=by
 have HC:=hid (vm S A c l w hS h hn hd);clear h hS hd;obtain⟨r,hr⟩: ∃r,r=cO l:=⟨_,rfl⟩;have HR:=hid hr;rw[←hr];clear hr;go_enter Tryz.func42,Tryz.ntmps42;by_cases h64:64<l.length
 ·have d1:decide ((l.length:Int)>64)=true:=decide_eq_true (by omega);go_wp2_with fail;go_ret;exact⟨by rw[HR.out];unfold cO;rw[if_pos h64];rfl,Below.refl _ _⟩
 ·have d1:decide ((l.length:Int)>64)=false:=decide_eq_false (by omega);have H64:=hid h64;clear h64;go_wp2_with fail;refine HC.out.mono ?_;rintro e u ⟨rfl,hb⟩;have HB:=hid hb;clear hb HC;cases ha:l.all co
  ·have HA:=hid ha;clear ha;go_wp2_with fail;go_ret;exact⟨by rw[HR.out];unfold cO;rw[if_neg H64.out,HA.out];rfl,HB.out⟩
  ·have HA:=hid ha;clear ha;go_wp2_with fail;go_ret;exact⟨by rw[HR.out];unfold cO;rw[if_neg H64.out,HA.out];rfl,HB.out⟩
end Go.Proofs.YtgbopnlpaabelaaGreatDoor
/- A list's code is read back: plain. -/
namespace Go.Proofs.YtgbopnlpaabelaaGreatDoor
theorem ip {l:List au}(h:cO l=0):l.length≤64∧ ∀d∈l,co d=true:=by
 unfold cO at h;by_cases h1:64<l.length
 ·rw[if_pos h1]at h;omega
 ·rw[if_neg h1]at h;by_cases h2:l.all co=true
  ·exact⟨by omega,fun d hd=>List.all_eq_true.1 h2 d hd⟩
  ·rw[if_neg h2]at h;omega
def jM (l:List au):Prop:= ∀d∈l,aA d.val≤9223372036854775807
end Go.Proofs.YtgbopnlpaabelaaGreatDoor
/- A value changed within: what is done at an item is done to the whole. -/
namespace Go.Proofs.YtgbopnlpaabelaaGreatDoor
open Go.RowKit
def bS :VT→Nat→VT→VT
 | .mk k i s l ns,j,u=> .mk k i s (l.set j u) ns
def OAt (w:World)(F:Nat→Prop)(t:VT)(g o:Nat):Prop:= ∃C ty A c A' c',w.heap[g]? =some (.cells C ty (0,0))∧C[o]? =some (.int .i64 t.kind)∧C[o+1]? =some (.int .i64 t.num)∧C[o+2]? =some (.string t.text)∧C[o+3]? =some (.slice A t.items.length c)∧C[o+4]? =some (.slice A' t.names.length c')∧
 OV w F t (.agg #[.int .i64 t.kind,.int .i64 t.num,.string t.text,.slice A t.items.length c,.slice A' t.names.length c'])∧ ¬F g∧ ∀b,F b→b<w.heap.size
def Mut (F:Nat→Prop)(g o:Nat)(w w':World):Prop:=w.heap.size≤w'.heap.size∧(∀b,b<w.heap.size→ ¬F b→b≠g→w'.heap[b]? =w.heap[b]?)∧
 (∀C ty fz,w.heap[g]? =some (.cells C ty fz)→ ∃C',w'.heap[g]? =some (.cells C' ty fz)∧C'.size=C.size∧ ∀i,(i<o∨o+5≤i)→C'[i]? =C[i]?)∧w'.os=w.os∧w'.tape=w.tape∧w'.output=w.output
def Own (F:Nat→Prop)(w:World)(F':Nat→Prop):Prop:= ∀b,F' b→F b∨w.heap.size≤b
theorem OAt.item {w:World}{F:Nat→Prop}{t:VT}{g o:Nat}(h:OAt w F t g o){j:Nat}(hj:j<t.items.length):
  ∃G Fj,(∃c,w.cell? ⟨g,o+3,none⟩=some (.slice (some ⟨G,0,none⟩) t.items.length c))∧F G∧OAt w Fj t.items[j] G (j * 5)∧(∀b,Fj b→F b)∧ ∀w' u F',Mut Fj G (j * 5) w w'→OAt w' F' u G (j * 5)→Own Fj w F'→ ∃F'',Own F w F''∧OAt w' F'' (bS t j u) g o∧Mut F g o w w':=by
 obtain⟨C,ty,A,c,A',c',hg,g0,g1,g2,g3,g4,hv,hFg,hlt⟩:=h
 cases t with
 |mk k i s l ns=>
 simp only[VT.kind,VT.num,VT.text,VT.items,VT.names]at *;have hgs:=(Array.getElem?_eq_some_iff.1 hg).1;have hjl:j<l.length:=hj;unfold OV at hv;obtain⟨A1,c1,A1',c1',xs,hag,h1,h2,h3,h4,h5,h6,h7,h8,h9,h10,h11,h12⟩:=hv;injection hag with hag;injection hag with hag
 injection hag with y0 hag;injection hag with y1 hag;injection hag with y2 hag;injection hag with y3 hag;injection hag with y4 hag
 injection y3 with e1 _ e3
 injection y4 with e4 _ e6
 subst e1 e3 e4 e6;have h8':=h8;obtain⟨hxl,h8⟩:=h8;rcases h8 with ⟨-,h⟩|⟨G,cap,cur,hv,-,hh,hn,hm,hsz,htk⟩
 ·omega
 injection hv with e1 e2 e3
 subst e1 e3;have hFG:=h10 _ rfl;have hGs:=hlt _ hFG;obtain⟨Fs,k1,k2,k3⟩:=h12.at;have hcur: ∀m,m<l.length * 5→xs[m]? =cur[m]? :=fun m hm'=>by rw[←htk,List.getElem?_take_of_lt hm',Array.getElem?_toList]
 obtain⟨d0,d1,d2,d3,d4,e0,e1,e2,e3,e4,hi⟩:=k3 j hj;obtain⟨B,b,B',b',ys,hag2,-⟩:=hi.shape;injection hag2 with hag2;injection hag2 with hag2
 injection hag2 with z0 hag2;injection hag2 with z1 hag2;injection hag2 with z2 hag2;injection hag2 with z3 hag2;injection hag2 with z4 hag2
 subst z0 z1 z2 z3 z4;rw[hcur _ (by omega)]at e0 e1 e2 e3 e4;refine⟨G,Fs j,⟨c,(Go.Joins.cell_of_block hg (o+3)).trans g3⟩,hFG,⟨cur,25,B,b,B',b',hh,e0,e1,e2,e3,e4,hi,fun hb=>(k2 _ _ hb).2.1 _ rfl rfl,fun x hx=>hlt x (k2 _ _ hx).1⟩,fun x hx=>(k2 _ _ hx).1,?_⟩;rintro w' u F' ⟨m1,m2,m3,m4,m5,m6⟩ hu hown;obtain⟨cur',hh',hsz',hout⟩:=m3 cur _ _ hh;obtain⟨C2,ty2,B2,b2,B2',b2',hg2,u0,u1,u2,u3,u4,huv,huF,hult⟩:=hu
 have hC2:C2=cur':=by
  have:=hg2.symm.trans hh';injection this with this
  injection this
 subst hC2;have hkeep: ∀x,x<w.heap.size→ ¬Fs j x→x≠G→w'.heap[x]? =w.heap[x]? :=m2;have hnG:g≠G:=fun e=>hFg (e▸hFG);have hnj: ¬Fs j g:=fun e=>hFg (k2 _ _ e).1;have hgk:=hkeep g hgs hnj hnG;have hl5:l.length * 5≤C2.size:=by rw[hsz',hsz];exact Nat.mul_le_mul_right 5 hn
 have hxs': ∀m,m<l.length * 5→(C2.toList.take (l.length * 5))[m]? =C2[m]? :=fun m hm'=>by rw[List.getElem?_take_of_lt hm',Array.getElem?_toList]
 have hxl':(C2.toList.take (l.length * 5)).length=l.length * 5:=by
  have:C2.toList.length=C2.size:=Array.length_toList;rw[List.length_take];omega
 have hlen:(l.set j u).length=l.length:=List.length_set ..
 have hrow:w'.ownsRow 0 25 5 (.slice (some ⟨G,0,none⟩) l.length c) l.length (C2.toList.take (l.length * 5)):=
  ⟨hxl',.inr ⟨G,c,C2,rfl,Nat.zero_le _,hh',hn,hm,by rw[hsz',hsz],rfl⟩⟩
 have hnames:w'.ownsRow 0 9 1 (.slice A' ns.length c') ns.length (ns.map Value.string):=cf h7 fun a ha=>hkeep _ (hlt _ (h9 a ha)) (fun e=>(k2 _ _ e).2.2 a ha rfl) (fun e=>h11 _ a rfl ha e.symm)
 have hset:OV w' (fun x=>F x∨(w.heap.size≤x∧x<w'.heap.size)) (.mk k i s (l.set j u) ns) (.agg #[.int .i64 k,.int .i64 i,.string s,.slice (some ⟨G,0,none⟩) (l.set j u).length c,.slice A' ns.length c']):=by
  refine OV.mk h1 h2 h3 (by rw[hlen];exact h4) h5 h6 hnames (by rw[hlen];exact hrow) (fun a ha=> .inl (h9 a ha)) (fun a ha=> .inl (h10 a ha)) h11 ?_;refine OVs.of (fun i x=>(i=j∧F' x)∨(i≠j∧Fs i x)) (by rw[hlen];exact hxl') ?_ ?_ ?_
  ·rintro i i' x hne (⟨p1,p2⟩|⟨p1,p2⟩) (⟨p3,p4⟩|⟨p3,p4⟩)
   ·omega
   ·rcases hown x p2 with q|q
    ·exact k1 _ _ x (fun e=>p3 e.symm) q p4
    ·have:=hlt x (k2 _ _ p4).1;omega
   ·rcases hown x p4 with q|q
    ·exact k1 _ _ x (fun e=>p1 e.symm) q p2
    ·have:=hlt x (k2 _ _ p2).1;omega
   ·exact k1 _ _ x hne p2 p4
  ·rintro i x (⟨p1,p2⟩|⟨p1,p2⟩)
   ·rcases hown x p2 with q|q
    ·exact⟨.inl (k2 _ _ q).1,(k2 _ _ q).2⟩
    ·refine⟨.inr ⟨q,hult x p2⟩,fun a ha=> ?_,fun a ha=> ?_⟩
     ·have:=hlt _ (h10 a ha);omega
     ·have:=hlt _ (h9 a ha);omega
   ·exact⟨.inl (k2 _ _ p2).1,(k2 _ _ p2).2⟩
  ·intro i hi';rw[hlen]at hi';by_cases e:i=j
   ·subst e;rw[hxs' _ (by omega),hxs' _ (by omega),hxs' _ (by omega),hxs' _ (by omega),hxs' _ (by omega)];refine⟨_,_,_,_,_,u0,u1,u2,u3,u4,?_⟩;rw[List.getElem_set_self];exact huv.imp fun x hx=> .inl ⟨rfl,hx⟩
   ·obtain⟨f0,f1,f2,f3,f4,v0,v1,v2,v3,v4,hvi⟩:=k3 i hi';rw[hcur _ (by omega)]at v0 v1 v2 v3 v4;rw[hxs' _ (by omega),hxs' _ (by omega),hxs' _ (by omega),hxs' _ (by omega),hxs' _ (by omega),hout _ (by omega),hout _ (by omega),hout _ (by omega),hout _ (by omega),hout _ (by omega)];refine⟨f0,f1,f2,f3,f4,v0,v1,v2,v3,v4,?_⟩;rw[List.getElem_set_ne (fun e'=>e e'.symm)];refine(hvi.keep fun x hx=>hkeep x (hlt x (k2 _ _ hx).1) (fun e'=>k1 _ _ x e hx e') (fun e'=>(k2 _ _ hx).2.1 _ rfl e'.symm)).imp fun x hx=> .inr ⟨e,hx⟩
 refine⟨_,fun x hx=>hx.imp id And.left,⟨C,ty,some ⟨G,0,none⟩,c,A',c',hgk.trans hg,g0,g1,g2,?_,g4,hset,?_,?_⟩,m1,fun x hx hF hne=>hkeep x hx (fun e=>hF (k2 _ _ e).1) (fun e=>hF (e▸hFG)),?_,m4,m5,m6⟩
 ·show C[o+3]? =some (.slice (some ⟨G,0,none⟩) (l.set j u).length c);rw[hlen];exact g3
 ·rintro(e|e)
  ·exact hFg e
  ·omega
 ·rintro x (e|e)
  ·exact Nat.lt_of_lt_of_le (hlt x e) m1
  ·exact e.2
 ·intro C3 ty3 fz3 hC3;exact⟨C3,hgk.trans hC3,rfl,fun _ _=>rfl⟩
theorem tG {w:World}{G o:Nat}{C:Array Value}{ty:TypeId}{fz:Nat×Nat}{c0 c1 c2 c3 c4:Value}(h:w.heap[G]? =some (.cells C ty fz))(ho:o+4<C.size):
  ∃C',(cH w G o c0 c1 c2 c3 c4).heap[G]? =some (.cells C' ty fz)∧C'.size=C.size∧C'[o]? =some c0∧C'[o+1]? =some c1∧C'[o+2]? =some c2∧C'[o+3]? =some c3∧C'[o+4]? =some c4∧ ∀i,(i<o∨o+5≤i)→C'[i]? =C[i]? :=by
 have h1:=Go.Joins.block_setCell (i:=o) h c0;have h2:=Go.Joins.block_setCell (i:=o+1) h1 c1;have h3:=Go.Joins.block_setCell (i:=o+2) h2 c2;have h4:=Go.Joins.block_setCell (i:=o+3) h3 c3;have h5:=Go.Joins.block_setCell (i:=o+4) h4 c4;refine⟨_,h5,by simp,?_,?_,?_,?_,?_,fun i hi=> ?_⟩;all_goals simp only[Array.getElem?_setIfInBounds,Array.size_setIfInBounds]
 ·rw[if_neg (by omega),if_neg (by omega),if_neg (by omega),if_neg (by omega),if_pos trivial,if_pos (by omega)]
 ·rw[if_neg (by omega),if_neg (by omega),if_neg (by omega),if_pos trivial,if_pos (by omega)]
 ·rw[if_neg (by omega),if_neg (by omega),if_pos trivial,if_pos (by omega)]
 ·rw[if_neg (by omega),if_pos trivial,if_pos (by omega)]
 ·rw[if_pos trivial,if_pos (by omega)]
 ·rw[if_neg (by omega),if_neg (by omega),if_neg (by omega),if_neg (by omega),if_neg (by omega)]
theorem OAt.store {w:World}{F:Nat→Prop}{t:VT}{g o:Nat}(h:OAt w F t g o){j:Nat}(hj:j<t.items.length):
  ∃G,(∃c,w.cell? ⟨g,o+3,none⟩=some (.slice (some ⟨G,0,none⟩) t.items.length c))∧F G∧(∃C ty,w.heap[G]? =some (.cells C ty (0,0))∧j * 5+4<C.size)∧
   ∀w5 F' u A c A' c',Below w.heap.size w w5→OV w5 F' u (.agg #[.int .i64 u.kind,.int .i64 u.num,.string u.text,.slice A u.items.length c,.slice A' u.names.length c'])→(∀b,F' b→w.heap.size≤b∧b<w5.heap.size)→
    ∃F'',Own F w F''∧OAt (cH w5 G (j * 5) (.int .i64 u.kind) (.int .i64 u.num) (.string u.text) (.slice A u.items.length c) (.slice A' u.names.length c')) F'' (bS t j u) g o∧
     Mut F g o w (cH w5 G (j * 5) (.int .i64 u.kind) (.int .i64 u.num) (.string u.text) (.slice A u.items.length c) (.slice A' u.names.length c')):=by
 obtain⟨G,Fj,hc,hFG,hoj,hsub,hup⟩:=h.item hj;obtain⟨C,ty,B,b,B',b',hg,g0,g1,g2,g3,g4,hv,hFg,hlt⟩:=hoj;have hGs:=(Array.getElem?_eq_some_iff.1 hg).1;have h4:j * 5+4<C.size:=(Array.getElem?_eq_some_iff.1 g4).1;refine⟨G,hc,hFG,⟨C,ty,hg,h4⟩,fun w5 F' u A c A' c' hb hu hF=> ?_⟩;have hr5:=cv w5 G (j * 5) (.int .i64 u.kind) (.int .i64 u.num) (.string u.text) (.slice A u.items.length c) (.slice A' u.names.length c');have hk:=bE w5 G (j * 5) (.int .i64 u.kind) (.int .i64 u.num) (.string u.text) (.slice A u.items.length c) (.slice A' u.names.length c');have hz:=bQ w5 G (j * 5) (.int .i64 u.kind) (.int .i64 u.num) (.string u.text) (.slice A u.items.length c) (.slice A' u.names.length c');obtain⟨C',hC',hsz,k0,k1,k2,k3,k4,kout⟩:=tG (c0:= .int .i64 u.kind) (c1:= .int .i64 u.num) (c2:= .string u.text) (c3:= .slice A u.items.length c) (c4:= .slice A' u.names.length c') ((hb.block G hGs).trans hg) h4;refine hup _ u F' ⟨by rw[hz];exact hb.size,fun x hx _ hne=>(hk x hne).trans (hb.block x hx),fun C2 ty2 fz2 h2=> ?_,hr5.1.trans hb.os,hr5.2.1.trans hb.tape,hr5.2.2.trans hb.output⟩ ⟨C',ty,A,c,A',c',hC',k0,k1,k2,k3,k4,hu.keep fun x hx=>hk x (by have:=(hF x hx).1;omega),fun hx=>by have:=(hF G hx).1;omega,fun x hx=>by rw[hz];exact(hF x hx).2⟩ fun x hx=> .inr (hF x hx).1;have:=hg.symm.trans h2;injection this with this
 injection this with e1 e2 e3
 subst e1 e2 e3;exact⟨C',hC',hsz,kout⟩
theorem gD {P:Program}(w:World)(t e ty:TypeId)(z:Value)(ht:P.underlying t=some (.slice e))(hv: ∀w,(zeroValue e).run P w= .ok z w)(b o n c:Nat)(hn:0<n)(h1: ∀v∈(Builtin.zeroCells z.cells n).toList,v.oneCell'=true)
  (hc: ∀j,j<(Builtin.zeroCells z.cells n).toList.length→(w.cell? ⟨b,o+j,none⟩).isSome=true) (hf: ∀j,j<(Builtin.zeroCells z.cells n).toList.length→w.frozen? ⟨b,o+j,none⟩=false):
  (Builtin.clear_ #[t] ty #[.slice (some ⟨b,o,none⟩) n c]).run P w= .ok (.tuple #[]) (w.setCells b o (Builtin.zeroCells z.cells n).toList):=by
 have hst:=run_storeCells_cells (P:=P) b o (Builtin.zeroCells z.cells n).toList 0 w (by simpa only[Nat.add_zero]using hc) (by simpa only[Nat.add_zero]using hf) h1;simp only[Nat.add_zero]at hst;obtain⟨m,rfl⟩: ∃m,n=m+1:=⟨n - 1,by omega⟩;simp[Builtin.clear_,run_underlying ht,hv,hst]
def eF (n:Nat):List Value:=(Builtin.zeroCells #[.int .i64 0,.int .i64 0,.string ⟨#[]⟩,.slice none 0 0,.slice none 0 0] n).toList
theorem fY (n:Nat):(eF n).length=n * 5:=by simp[eF,Builtin.zeroCells]
theorem ue (n:Nat): ∀v∈eF n,v.oneCell'=true:=by
 intro v hv;simp only[eF,Builtin.zeroCells,Array.toList_map,List.mem_map]at hv;obtain⟨i,-,rfl⟩:=hv;have h:i % 5<5:=Nat.mod_lt _ (by omega);show Value.oneCell' (#[Value.int .i64 0,.int .i64 0,.string ⟨#[]⟩,.slice none 0 0,.slice none 0 0][i % 5]!)=true;generalize i % 5=m at h
 match m,h with
 |0,_=>rfl
 |1,_=>rfl
 |2,_=>rfl
 |3,_=>rfl
 |4,_=>rfl
theorem gW (w:World)(ty:TypeId)(b o n c:Nat)(hn:0<n)(hc: ∀j,j<n * 5→(w.cell? ⟨b,o+j,none⟩).isSome=true)(hf: ∀j,j<n * 5→w.frozen? ⟨b,o+j,none⟩=false):
  (Builtin.clear_ #[22] ty #[.slice (some ⟨b,o,none⟩) n c]).run Tryz.prog w= .ok (.tuple #[]) (w.setCells b o (eF n)):=by
 obtain⟨i0,hi,hz,-,-⟩:=info_parts Tryz.infoVal;have hv: ∀w,(zeroValue 25).run Tryz.prog w= .ok (.agg #[.int .i64 0,.int .i64 0,.string ⟨#[]⟩,.slice none 0 0,.slice none 0 0]) w:=fun w=>by simp[zeroValue,typeInfo,hi,hz]
 have hl:=fY n;exact gD w 22 25 ty _ Tryz.underlying22 hv b o n c hn (ue n) (fun j hj=>hc j (by rw[←hl];exact hj)) (fun j hj=>hf j (by rw[←hl];exact hj))
open Lib (hid)
theorem ek {w:World}{b:Nat}{ty:TypeId}{fz:Nat×Nat}: ∀(vs:List Value) (o:Nat) (C:Array Value),w.heap[b]? =some (.cells C ty fz)→o+vs.length≤C.size→
  ∃C',(w.setCells b o vs).heap[b]? =some (.cells C' ty fz)∧C'.size=C.size∧ ∀m,C'[m]? =if o≤m∧m<o+vs.length then vs[m - o]? else C[m]? :=by
 intro vs
 induction vs generalizing w with
 |nil=>exact fun o C h _=>⟨C,h,rfl,fun m=>by rw[if_neg (by simp only[List.length_nil];omega)]⟩
 |cons v r ih=>
  intro o C h hl;simp only[List.length_cons]at hl;obtain⟨C',h1,h2,h3⟩:=ih (w:=w.setCell ⟨b,o,none⟩ v) (o+1) (C.setIfInBounds o v) (Go.Joins.block_setCell (i:=o) h v) (by simp;omega);refine⟨C',h1,by rw[h2];simp,fun m=> ?_⟩;rw[h3 m];simp only[List.length_cons];by_cases hm:o+1≤m∧m<o+1+r.length
  ·rw[if_pos hm,if_pos (by omega)];obtain⟨q,rfl⟩: ∃q,m=o+1+q:=⟨m - (o+1),by omega⟩;rw[show o+1+q - (o+1)=q by omega,show o+1+q - o=q+1 by omega];rfl
  ·rw[if_neg hm,Array.getElem?_setIfInBounds];by_cases e:o=m
   ·subst e;rw[if_pos rfl,if_pos (by omega),if_pos (by omega),Nat.sub_self];rfl
   ·rw[if_neg e,if_neg (by omega)]
theorem nX (b n cap i j:Nat)(C:Array Value)(w:World)(hG:w.heap[b]? =some (.cells C 25 (0,0)))(hsz:C.size=cap * 5)(hn:n≤cap)(hm:cap≤9223372036854775807)(hn2:n≤1759218604390)(hij:i<j)(hj:j≤n)(h1: ∀v∈(C.toList.drop (j * 5)).take ((n - j) * 5),v.oneCell'=true):
  Calls Tryz.prog 163 #[.slice (some ⟨b,0,none⟩) n cap,.int .i64 i,.int .i64 j] w fun e w'=>e= .returned (.slice (some ⟨b,0,none⟩) (i+(n - j)) cap)∧w'=(w.drew.setCells b (i * 5) ((C.toList.drop (j * 5)).take ((n - j) * 5))).setCells b ((i+(n - j)) * 5) (eF (n - (i+(n - j)))):=by
 obtain⟨i0,hi,hi0,hi1,hi2⟩:=info_parts Tryz.infoVal;obtain⟨news,hnews⟩: ∃news,news=(C.toList.drop (j * 5)).take ((n - j) * 5):=⟨_,rfl⟩;rw[←hnews]
 have hlen:news.length=(n - j) * 5:=by
  rw[hnews,List.length_take,List.length_drop,Array.length_toList,hsz];omega
 have HN:=hid hnews;have hne:((i:Int) == (j:Int))=false:=beq_false_of_ne (by omega);clear hnews;go_enter Tryz.func163,Tryz.ntmps163;go_wp2_with fail;have hic:i≤cap:=by omega
 have hjc:j≤cap:=by omega
 refine av gc (fun _=>trivial) (fun _ _ _ _ _=>trivial) [] (.free [0,1,2,3,4,5] (.step 6 (.step 7 (.tail [])))) (by kernel_rfl) (by kernel_rfl) (fun _ d _ _ _ h=>by cases d<;>exact h) ?_;refine bm ?_;simp only[atR];show wpQuiet _ _ _ _ [_,_,_,_,_,_] _;try simp only[acR,Act.put]
 repeat(go_big_quiet_step (fail))
 refine wpQuiet_nil ?_;have hcell: ∀m,m<C.size→w.drew.cell? ⟨b,m,none⟩=C[m]? :=fun m _=>Go.Joins.cell_of_block (w:=w) hG m;have hfr: ∀m,w.drew.frozen? ⟨b,m,none⟩=false:=fun m=>Go.Joins.unfrozen_of_block (w:=w) hG m
 have hnew: ∀m v,news[m]? =some v→C[j * 5+m]? =some v∧m<(n - j) * 5:=by
  intro m v hv;have hm':m<(n - j) * 5:=by rw[←hlen];exact(List.getElem?_eq_some_iff.1 hv).1
  rw[HN.out,List.getElem?_take_of_lt hm',List.getElem?_drop,Array.getElem?_toList]at hv;exact⟨hv,hm'⟩
 obtain⟨ad,hA,hsrc⟩: ∃ad:Addr,(if cap=j then(some ⟨b,0,none⟩:Option Addr)else some ⟨b,j * 5,none⟩)=some ad∧ ∀m v,news[m]? =some v→w.drew.cell? (ad.add m)=some v:=by
  by_cases hcj:cap=j
  ·refine⟨_,if_pos hcj,fun m v hv=> ?_⟩;have:=(hnew m v hv).2;omega
  ·refine⟨_,if_neg hcj,fun m v hv=> ?_⟩;have h2:=hnew m v hv;rw[cq];exact(hcell _ (Array.getElem?_eq_some_iff.1 h2.1).1).trans h2.1
 rw[hA];have hone: ∀u∈news,u.oneCell'=true:=fun u hu=>h1 u (by rw[HN.out]at hu;exact hu);refine ah rfl (fun K hK=> ?_);refine step_append_room rfl (.tmp 22) (.tmp 25) 22 rfl 25 i0 5 Tryz.underlying22 hi hi1 b 0 i cap rfl ad (n - j) (cap - j) news rfl hlen hsrc hone (by omega) (fun m hm'=> ?_) ?_
 ·rw[hlen]at hm';rw[Nat.zero_add,hcell _ (by omega),Array.getElem?_eq_getElem (by omega)];exact⟨rfl,hfr _⟩
 refine hK _ _ (.inr trivial) ?_;clear hK K;simp only[acR,Act.put];rw[Nat.zero_add];refine ah rfl (fun K hK=> ?_)
 go_simp
 refine hK _ _ (.inr trivial) ?_;clear hK K;refine aX ?_
 have hcl: ∀ty,0<n - (i+(n - j))→(Builtin.clear_ #[22] ty #[.slice (some ⟨b,(i+(n - j)) * 5,none⟩) (n - (i+(n - j))) (cap - (i+(n - j)))]).run Tryz.prog (w.drew.setCells b (i * 5) news)= .ok (.tuple #[]) ((w.drew.setCells b (i * 5) news).setCells b ((i+(n - j)) * 5) (eF (n - (i+(n - j))))):=by
  intro ty hp;obtain⟨C',hC',hs',-⟩:=ek (w:=w.drew) news (i * 5) C hG (by rw[hlen];omega);refine gW _ ty b _ _ _ hp (fun m hm'=> ?_) (fun m _=>Go.Joins.unfrozen_of_block hC' _);rw[Go.Joins.cell_of_block hC',Array.getElem?_eq_getElem (by omega)];rfl
 have hcl0:=fun ty=>hcl ty (by omega);clear hcl hcell hfr hnew hsrc hone;obtain⟨w1,hw1⟩: ∃w1,w1=w.drew.setCells b (i * 5) news:=⟨_,rfl⟩;rw[←hw1]at hcl0 ⊢;have HW1:=hid hw1;clear hw1;go_wp2_with fail;go_ret;exact⟨rfl,by rw[HW1.out]⟩
def iH (n:Nat):List Value:=(Builtin.zeroCells #[.string ⟨#[]⟩] n).toList
theorem je (n:Nat):(iH n).length=n:=by simp[iH,Builtin.zeroCells]
theorem sK (n:Nat): ∀v∈iH n,v.oneCell'=true:=by
 intro v hv;simp only[iH,Builtin.zeroCells,Array.toList_map,List.mem_map]at hv;obtain⟨i,-,rfl⟩:=hv;have h:i % 1=0:=Nat.mod_one i;show Value.oneCell' (#[Value.string ⟨#[]⟩][i % 1]!)=true;rw[h];rfl
theorem nI (w:World)(ty:TypeId)(b o n c:Nat)(hn:0<n)(hc: ∀j,j<n→(w.cell? ⟨b,o+j,none⟩).isSome=true)(hf: ∀j,j<n→w.frozen? ⟨b,o+j,none⟩=false):
  (Builtin.clear_ #[23] ty #[.slice (some ⟨b,o,none⟩) n c]).run Tryz.prog w= .ok (.tuple #[]) (w.setCells b o (iH n)):=by
 obtain⟨i0,hi,hz,-,-⟩:=info_parts Tryz.infoStr;have hv: ∀w,(zeroValue 9).run Tryz.prog w= .ok (.string ⟨#[]⟩) w:=fun w=>by simp[zeroValue,typeInfo,hi,hz]
 have hl:=je n;exact gD w 23 9 ty _ Tryz.underlying23 hv b o n c hn (sK n) (fun j hj=>hc j (by rw[←hl];exact hj)) (fun j hj=>hf j (by rw[←hl];exact hj))
theorem tg (b n cap i j:Nat)(C:Array Value)(w:World)(hG:w.heap[b]? =some (.cells C 9 (0,0)))(hsz:C.size=cap)(hn:n≤cap)(hm:cap≤9223372036854775807)(hn2:n≤8796093021952)(hij:i<j)(hj:j≤n)(h1: ∀v∈(C.toList.drop j).take (n - j),v.oneCell'=true):
  Calls Tryz.prog 162 #[.slice (some ⟨b,0,none⟩) n cap,.int .i64 i,.int .i64 j] w fun e w'=>e= .returned (.slice (some ⟨b,0,none⟩) (i+(n - j)) cap)∧w'=(w.drew.setCells b i ((C.toList.drop j).take (n - j))).setCells b (i+(n - j)) (iH (n - (i+(n - j)))):=by
 obtain⟨i0,hi,hi0,hi1,hi2⟩:=info_parts Tryz.infoStr;obtain⟨news,hnews⟩: ∃news,news=(C.toList.drop j).take (n - j):=⟨_,rfl⟩;rw[←hnews]
 have hlen:news.length=n - j:=by
  rw[hnews,List.length_take,List.length_drop,Array.length_toList,hsz];omega
 have HN:=hid hnews;have hne:((i:Int) == (j:Int))=false:=beq_false_of_ne (by omega);clear hnews;go_enter Tryz.func162,Tryz.ntmps162;go_wp2_with fail;have hic:i≤cap:=by omega
 have hjc:j≤cap:=by omega
 refine av gc (fun _=>trivial) (fun _ _ _ _ _=>trivial) [] (.free [0,1,2,3,4,5] (.step 6 (.step 7 (.tail [])))) (by kernel_rfl) (by kernel_rfl) (fun _ d _ _ _ h=>by cases d<;>exact h) ?_;refine bm ?_;simp only[atR];show wpQuiet _ _ _ _ [_,_,_,_,_,_] _;try simp only[acR,Act.put]
 repeat(go_big_quiet_step (fail))
 refine wpQuiet_nil ?_;have hcell: ∀m,m<C.size→w.drew.cell? ⟨b,m,none⟩=C[m]? :=fun m _=>Go.Joins.cell_of_block (w:=w) hG m;have hfr: ∀m,w.drew.frozen? ⟨b,m,none⟩=false:=fun m=>Go.Joins.unfrozen_of_block (w:=w) hG m
 have hnew: ∀m v,news[m]? =some v→C[j+m]? =some v∧m<n - j:=by
  intro m v hv;have hm':m<n - j:=by rw[←hlen];exact(List.getElem?_eq_some_iff.1 hv).1
  rw[HN.out,List.getElem?_take_of_lt hm',List.getElem?_drop,Array.getElem?_toList]at hv;exact⟨hv,hm'⟩
 obtain⟨ad,hA,hsrc⟩: ∃ad:Addr,(if cap=j then(some ⟨b,0,none⟩:Option Addr)else some ⟨b,j,none⟩)=some ad∧ ∀m v,news[m]? =some v→w.drew.cell? (ad.add m)=some v:=by
  by_cases hcj:cap=j
  ·refine⟨_,if_pos hcj,fun m v hv=> ?_⟩;have:=(hnew m v hv).2;omega
  ·refine⟨_,if_neg hcj,fun m v hv=> ?_⟩;have h2:=hnew m v hv;rw[cq];exact(hcell _ (Array.getElem?_eq_some_iff.1 h2.1).1).trans h2.1
 rw[hA];have hone: ∀u∈news,u.oneCell'=true:=fun u hu=>h1 u (by rw[HN.out]at hu;exact hu);refine ah rfl (fun K hK=> ?_);refine step_append_room rfl (.tmp 22) (.tmp 25) 23 rfl 9 i0 1 Tryz.underlying23 hi hi1 b 0 i cap rfl ad (n - j) (cap - j) news rfl (by rw[hlen];omega) hsrc hone (by omega) (fun m hm'=> ?_) ?_
 ·rw[hlen]at hm';rw[Nat.zero_add,hcell _ (by omega),Array.getElem?_eq_getElem (by omega)];exact⟨rfl,hfr _⟩
 refine hK _ _ (.inr trivial) ?_;clear hK K;simp only[acR,Act.put];rw[Nat.zero_add,Nat.mul_one];refine ah rfl (fun K hK=> ?_)
 go_simp
 refine hK _ _ (.inr trivial) ?_;clear hK K;refine aX ?_
 have hcl: ∀ty,0<n - (i+(n - j))→(Builtin.clear_ #[23] ty #[.slice (some ⟨b,i+(n - j),none⟩) (n - (i+(n - j))) (cap - (i+(n - j)))]).run Tryz.prog (w.drew.setCells b i news)= .ok (.tuple #[]) ((w.drew.setCells b i news).setCells b (i+(n - j)) (iH (n - (i+(n - j))))):=by
  intro ty hp;obtain⟨C',hC',hs',-⟩:=ek (w:=w.drew) news i C hG (by rw[hlen];omega);refine nI _ ty b _ _ _ hp (fun m hm'=> ?_) (fun m _=>Go.Joins.unfrozen_of_block hC' _);rw[Go.Joins.cell_of_block hC',Array.getElem?_eq_getElem (by omega)];rfl
 have hcl0:=fun ty=>hcl ty (by omega);clear hcl hcell hfr hnew hsrc hone;obtain⟨w1,hw1⟩: ∃w1,w1=w.drew.setCells b i news:=⟨_,rfl⟩;rw[←hw1]at hcl0 ⊢;have HW1:=hid hw1;clear hw1;go_wp2_with fail;go_ret;exact⟨rfl,by rw[HW1.out]⟩
def goT (fin:VT→List ByteArray→Int×VT):VT→List ByteArray→Int×VT
 |t,[]=>(0,t)
 |t,s::r=>if ab t s<0∨r= []then fin t (s::r)else match t.items[(ab t s).toNat]? with
  |none=>(0,t)
  |some x=>((goT fin x r).1,bS t (ab t s).toNat (goT fin x r).2)
theorem bX {fin:VT→List ByteArray→Int×VT}{t:VT}{s:ByteArray}{r:List ByteArray}(h:ab t s<0∨r= []):goT fin t (s::r)=fin t (s::r):=by
 conv=>lhs;unfold goT
 rw[if_pos h]
theorem eL {fin:VT→List ByteArray→Int×VT}{t:VT}{s:ByteArray}{r:List ByteArray}(h:0≤ab t s)(hr:r≠[])(hj:(ab t s).toNat<t.items.length):
  goT fin t (s::r)=((goT fin (t.items[(ab t s).toNat]) r).1,bS t (ab t s).toNat (goT fin (t.items[(ab t s).toNat]) r).2):=by
 conv=>lhs;unfold goT
 rw[if_neg (fun e=>e.elim (fun e=>absurd e (by omega)) hr),List.getElem?_eq_getElem hj]
def cn (F:Nat→Prop)(g o:Nat)(w:World)(res:Int×VT)(e:Ending)(w':World):Prop:=e= .returned (.int .i64 res.1)∧ ∃F',Own F w F'∧OAt w' F' res.2 g o∧Mut F g o w w'
theorem OAt.keep {w w':World}{F:Nat→Prop}{t:VT}{g o:Nat}(h:OAt w F t g o)(hb:Below w.heap.size w w'):OAt w' F t g o:=by
 obtain⟨C,ty,A,c,A',c',hg,g0,g1,g2,g3,g4,hv,hFg,hlt⟩:=h;exact⟨C,ty,A,c,A',c',(hb.block g (Array.getElem?_eq_some_iff.1 hg).1).trans hg,g0,g1,g2,g3,g4,hv.keep fun b hb'=>hb.block b (hlt b hb'),hFg,fun b hb'=>Nat.lt_of_lt_of_le (hlt b hb') hb.size⟩
theorem OAt.lt {w:World}{F:Nat→Prop}{t:VT}{g o:Nat}(h:OAt w F t g o):g<w.heap.size:=by
 obtain⟨C,ty,A,c,A',c',hg,-⟩:=h;exact(Array.getElem?_eq_some_iff.1 hg).1
theorem OAt.at {w:World}{F:Nat→Prop}{t:VT}{g o:Nat}(h:OAt w F t g o): ∃A c A' c',AtV w F t g o A c A' c':=by
 obtain⟨C,ty,A,c,A',c',hg,g0,g1,g2,g3,g4,hv,hFg,hlt⟩:=h;exact⟨A,c,A',c',(Go.Joins.cell_of_block hg o).trans g0,(Go.Joins.cell_of_block hg _).trans g1,(Go.Joins.cell_of_block hg _).trans g2,(Go.Joins.cell_of_block hg _).trans g3,(Go.Joins.cell_of_block hg _).trans g4,hv.lv⟩
theorem cn.from {F:Nat→Prop}{g o:Nat}{w w1:World}{res:Int×VT}{e:Ending}{w':World}(h:cn F g o w1 res e w')(hb:Below w.heap.size w w1)(hg:g<w.heap.size):cn F g o w res e w':=by
 obtain⟨h0,F',h1,h2,m1,m2,m3,m4,m5,m6⟩:=h;refine⟨h0,F',fun b hb'=>(h1 b hb').imp id fun hx=>Nat.le_trans hb.size hx,h2,Nat.le_trans hb.size m1,fun b hb1 hF hne=>(m2 b (Nat.lt_of_lt_of_le hb1 hb.size) hF hne).trans (hb.block b hb1),fun C ty fz hC=>m3 C ty fz ((hb.block g hg).trans hC),m4.trans hb.os,m5.trans hb.tape,m6.trans hb.output⟩
theorem te (f:Nat)(caps:Array Value)(fin:VT→List ByteArray→Int×VT)(S:Nat→Prop)(J:World→Prop)(Q:VT→Prop)(hQ: ∀t (j:Nat) (hj:j<t.items.length),Q t→Q t.items[j])(hcf0:eE f)(hJ: ∀w w',J w→Below w.heap.size w w'→J w')
  (hleaf: ∀w t g o A c s r F,J w→OAt w F t g o→ao t=true→Q t→ai w S A (s::r)→r.length+1≤c→c≤9223372036854775807→(∀b,S b→b<w.heap.size)→(∀b,S b→ ¬F b∧b≠g)→(ab t s<0∨r= [])→
   Calls Tryz.prog f (#[.agg #[.pointer (some ⟨g,o,none⟩),.int .i64 (ab t s),.slice A (r.length+1) c]]++caps) w (cn F g o w (fin t (s::r))))
  (t:VT) (g o:Nat) (A:Option Addr) (c:Nat) (p:List ByteArray) (w:World) (F:Nat→Prop) (hj:J w) (h:OAt w F t g o) (hm:ao t=true) (hq:Q t) (hp:ai w S A p) (hne:p≠[]) (hpc:p.length≤c) (h63:c≤9223372036854775807) (hS: ∀b,S b→b<w.heap.size) (hSF: ∀b,S b→ ¬F b∧b≠g):
  Calls Tryz.prog 94 #[.pointer (some ⟨g,o,none⟩),.slice A p.length c,.func (.func f) #[] caps] w (cn F g o w (goT fin t p)):=by
 refine oP f caps (cn F g o w (goT fin t p)) (fun w1 t1 g1 o1 A1 c1 p1=>J w1∧(∃F1,OAt w1 F1 t1 g1 o1∧(∀b,S b→ ¬F1 b∧b≠g1)∧ ∀e w2,cn F1 g1 o1 w1 (goT fin t1 p1) e w2→cn F g o w (goT fin t p) e w2)∧ao t1=true∧Q t1∧ai w1 S A1 p1∧p1≠[]∧p1.length≤c1∧c1≤9223372036854775807∧ ∀b,S b→b<w1.heap.size)
  hcf0 (fun e w' h=>⟨_,h.1⟩) ?_ ?_ ?_ ?_ ?_ p t g o A c w ⟨hj,⟨F,h,hSF,fun _ _ h=>h⟩,hm,hq,hp,hne,hpc,h63,hS⟩
 ·rintro w1 t1 g1 o1 A1 c1 p1 ⟨-,⟨F1,ho,-,-⟩,hm1,-,-⟩;obtain⟨B,k,B',k',hv⟩:=ho.at;exact⟨F1,B,k,B',k',hv,ho.lt,bT hm1⟩
 ·rintro w1 t1 g1 o1 A1 c1 p1 ⟨-,-,-,-,hs,hn,hc,h63,-⟩;exact⟨S,hs,hc,h63,hn,nF hs⟩
 ·rintro w1 w2 t1 g1 o1 A1 c1 p1 ⟨hj1,⟨F1,ho,hSF1,hR⟩,hm1,hq1,hs,hn,hc,h63,hS1⟩ hb;exact⟨hJ _ _ hj1 hb,⟨F1,ho.keep hb,hSF1,fun e w3 hd=>hR e w3 (hd.from hb ho.lt)⟩,hm1,hq1,hs.keep fun b hb'=>hb.block b (hS1 b hb'),hn,hc,h63,fun b hb'=>Nat.lt_of_lt_of_le (hS1 b hb') hb.size⟩
 ·rintro w1 t1 g1 o1 A1 c1 s r G off B k B' k' S' hjl ⟨hj1,⟨F1,ho,hSF1,hR⟩,hm1,hq1,hs,hn,hc,h63,hS1⟩ hr hpl hat rfl;obtain⟨G',Fj,⟨c',hcell⟩,hFG,hoj,hsub,hup⟩:=ho.item hjl;have h1:=hcell.symm.trans hat.c3;injection h1 with h1
  injection h1 with h1 _ _
  injection h1 with h1
  injection h1 with h1 h2
  subst h1 h2;have hrl:0<r.length:=by cases r with|nil=>exact absurd rfl hr|cons a b=>simp
  simp only[List.length_cons]at hc;refine⟨hj1,⟨Fj,by rw[Nat.zero_add];exact hoj,fun b hb=>⟨fun e=>(hSF1 b hb).1 (hsub b e),fun e=>(hSF1 b hb).1 (e▸hFG)⟩,fun e w2 hd=>hR e w2 ?_⟩,cl hm1 hjl,hQ _ _ hjl hq1,hs.tail (.inr (by omega)),hr,by omega,by omega,hS1⟩;rw[Nat.zero_add]at hd;obtain⟨h0,F',k1,k2,k3⟩:=hd;obtain⟨F'',j1,j2,j3⟩:=hup w2 _ F' k3 k2 k1;rw[eL hpl hr hjl];exact⟨h0,F'',j1,j2,j3⟩
 ·rintro w1 t1 g1 o1 A1 c1 s r ⟨hj1,⟨F1,ho,hSF1,hR⟩,hm1,hq1,hs,hn,hc,h63,hS1⟩ hend;refine(hleaf w1 t1 g1 o1 A1 c1 s r F1 hj1 ho hm1 hq1 hs (by simpa using hc) h63 hS1 hSF1 hend).mono fun e w2 hd=>hR e w2 ?_;rw[bX hend];exact hd
def aT :VT:= .mk 0 0 ⟨#[]⟩ [] []
def bl (fin:VT→List ByteArray→Int×VT)(t:VT)(p:List ByteArray):Int×VT:=if dN t p=0 then(if(goT fin t p).1=0 then(0,(goT fin t p).2)else((goT fin t p).1,aT))else(dN t p,aT)
def ej (res:Int×VT)(w:World)(e:Ending)(w':World):Prop:=
 ∃v,e= .returned (.tuple #[v,.int .i64 res.1])∧LV w' (Iv w.heap.size w'.heap.size) res.2 v∧Below w.heap.size w w'
theorem jm {w w5:World}{res:Int×VT}{u:VT}{x:Int}{c0 c1 c2 c3 c4:Value}(hb:Below w.heap.size w w5)(hv:LV w5 (Iv (w.heap.size+2) w5.heap.size) u (.agg #[c0,c1,c2,c3,c4]))(hr:res=(x,u)):
  ej res w (.returned (.tuple #[.agg #[c0,c1,c2,c3,c4],.int .i64 x])) (cH w5 (w.heap.size+1) 0 c0 c1 c2 c3 c4):=by
 have hr5:=cv w5 (w.heap.size+1) 0 c0 c1 c2 c3 c4;have hk:=bE w5 (w.heap.size+1) 0 c0 c1 c2 c3 c4;have hz:=bQ w5 (w.heap.size+1) 0 c0 c1 c2 c3 c4;subst hr
 exact⟨_,rfl,(hv.keep fun b hb'=>hk b (by have:=hb'.1;omega)).imp fun b hb'=>⟨by have:=hb'.1;omega,by rw[hz];exact hb'.2⟩,
  ⟨hr5.1.trans hb.os,hr5.2.1.trans hb.tape,hr5.2.2.trans hb.output,by rw[hz];exact hb.size,fun b hb'=>(hk b (by omega)).trans (hb.block b hb')⟩⟩
theorem ic (w:World)(S:Nat→Prop):LV w S aT (.agg #[.int .i64 0,.int .i64 0,.string ⟨#[]⟩,.slice none 0 0,.slice none 0 0]):=fi w S 0 0 ⟨#[]⟩ (by unfold Rng;omega) (by unfold Rng;omega) (by decide)
theorem iC (f:Nat)(caps:Array Value)(fin:VT→List ByteArray→Int×VT)(S:Nat→Prop)(J:World→Prop)(Q:VT→Prop)(hQ: ∀t (j:Nat) (hj:j<t.items.length),Q t→Q t.items[j])(hcf0:eE f)(hJ: ∀w w',J w→Below w.heap.size w w'→J w')
  (hleaf: ∀w t g o A c s r F,J w→OAt w F t g o→ao t=true→Q t→ai w S A (s::r)→r.length+1≤c→c≤9223372036854775807→(∀b,S b→b<w.heap.size)→(∀b,S b→ ¬F b∧b≠g)→(ab t s<0∨r= [])→
   Calls Tryz.prog f (#[.agg #[.pointer (some ⟨g,o,none⟩),.int .i64 (ab t s),.slice A (r.length+1) c]]++caps) w (cn F g o w (fin t (s::r))))
  (t:VT) (v:Value) (A:Option Addr) (c:Nat) (p:List ByteArray) (w:World) (hj:J w) (hq:Q t) (hS: ∀b,S b→b<w.heap.size) (h:LV w S t v) (hd:ac t≤4611686018427387903) (hp:ai w S A p) (hn:p.length≤140737488351232) (hpc:p.length≤c) (h63:c≤9223372036854775807):
  Calls Tryz.prog 127 #[v,.slice A p.length c,.func (.func f) #[] caps] w (ej (bl fin t p) w):=by
 obtain⟨A0,c0,A0',c0',rfl,-,-,-,v1,hb0⟩:=bY hS h;have HALONG:=hid (te f caps fin S J Q hQ hcf0 hJ hleaf);have HJ:=hid hJ;have HJW:=hid hj;have HQT:=hid hq;have HX:=hid v1.x;have HB:=hid hb0;have HP:=hid hp;have HV:=hid h;have HD:=hid hd;clear h v1 hb0 hp hd hleaf hJ hcf0 hj hQ;go_enter Tryz.func127,Tryz.ntmps127;go_wp2_with fail;have hz1:(w.alloc (.cells #[.int .i64 t.kind,.int .i64 t.num,.string t.text,.slice A0 t.items.length c0,.slice A0' t.names.length c0'] 25)).heap.size=w.heap.size+1:=by simp
 have hB0:Below w.heap.size w ((w.alloc (.cells #[.int .i64 t.kind,.int .i64 t.num,.string t.text,.slice A0 t.items.length c0,.slice A0' t.names.length c0'] 25)).alloc (.cells #[.int .i64 0,.int .i64 0,.string ⟨#[]⟩,.slice none 0 0,.slice none 0 0] 25)):=HB.out.alloc (by omega) _;have hX0:=HX.out.alloc (.cells #[.int .i64 0,.int .i64 0,.string ⟨#[]⟩,.slice none 0 0,.slice none 0 0] 25)
 have hR0:Box ((w.alloc (.cells #[.int .i64 t.kind,.int .i64 t.num,.string t.text,.slice A0 t.items.length c0,.slice A0' t.names.length c0'] 25)).alloc (.cells #[.int .i64 0,.int .i64 0,.string ⟨#[]⟩,.slice none 0 0,.slice none 0 0] 25)) (w.heap.size+1) (.int .i64 0) (.int .i64 0) (.string ⟨#[]⟩) (.slice none 0 0) (.slice none 0 0):=by
  have h:=Box.new (w:=w.alloc (.cells #[.int .i64 t.kind,.int .i64 t.num,.string t.text,.slice A0 t.items.length c0,.slice A0' t.names.length c0'] 25)) (.int .i64 0) (.int .i64 0) (.string ⟨#[]⟩) (.slice none 0 0) (.slice none 0 0);rw[hz1]at h;exact h
 have hz2:((w.alloc (.cells #[.int .i64 t.kind,.int .i64 t.num,.string t.text,.slice A0 t.items.length c0,.slice A0' t.names.length c0'] 25)).alloc (.cells #[.int .i64 0,.int .i64 0,.string ⟨#[]⟩,.slice none 0 0,.slice none 0 0] 25)).heap.size=w.heap.size+2:=by simp
 have HCHK:=hid (mU S t _ A c p _ (fun b hb=>Nat.lt_of_lt_of_le (hS b hb) hB0.size) (HV.out.keep fun b hb=>hB0.block b (hS b hb)) HD.out (HP.out.keep fun b hb=>hB0.block b (hS b hb)) hn);have HB0:=hid hB0;have HX0:=hid hX0;have HR0:=hid hR0;clear hB0 hX0 hR0 hz1 HB HX;go_wp2_with fail;refine HCHK.out.mono ?_;rintro e w3 ⟨rfl,hb3⟩;have HB3:=hid (HB0.out.trans (hb3.mono (by omega)));have HX3:=hid (HX0.out.call hb3);have HR3:=hid (HR0.out.call hb3);have hz3:w.heap.size+2≤w3.heap.size:=by have:=hb3.size;omega
 clear hb3 HB0 HX0 HR0 HCHK hz2;obtain⟨W,hW⟩: ∃W,W=dN t p:=⟨_,rfl⟩;rw[←hW];have HW:=hid hW;clear hW;have rf:=fun i=>HR3.out.free i;have r0:=HR3.out.c0;have r1:=HR3.out.c1;have r2:=HR3.out.c2;have r3:=HR3.out.c3;have r4:=HR3.out.c4;by_cases h0:W=0;rotate_left
 ·have h1:(W != 0)=true:=by simp[h0]
  have hg:bl fin t p=(W,aT):=by unfold bl;rw[if_neg (by rw[←HW.out];exact h0),HW.out]
  have HG:=hid hg;clear hg h0;go_wp2_with fail;refine bodyPost_ret (aq rfl _ _ (w.heap.size+1) 25 _ (0,0) rfl (aZ HR3.out) (by kernel_rfl)) rfl ?_;exact jm HB3.out (ic _ _) HG.out
 subst h0;obtain⟨hm,h7,hmp⟩:=nn HW.out;have HM:=hid hm;have HMP:=hid hmp;have HGT:Hid (bl fin t p=if(goT fin t p).1=0 then(0,(goT fin t p).2)else((goT fin t p).1,aT)):=hid (by unfold bl;rw[if_pos HW.out.symm]);have q0:=HX3.out.c0;have q1:=HX3.out.c1;have q2:=HX3.out.c2;have q3:=HX3.out.c3;have q4:=HX3.out.c4;have HCL:=hid (kJ S t _ w3 (fun b hb=>by have:=hS b hb;omega) (HV.out.keep fun b hb=>HB3.out.block b (hS b hb)));clear hm h7 hmp r0 r1 r2 r3 r4 rf;go_wp2_with fail;refine HCL.out.mono ?_;rintro e w4 ⟨v',rfl,hov,hb4⟩;obtain⟨B,k,B',k',ys,rfl,-⟩:=hov.shape;have HOV:=hid hov;have HB4:=hid (HB3.out.trans (hb4.mono (show w.heap.size≤w3.heap.size by omega)));have HR4:=hid (HR3.out.call hb4);have hz4:=hb4.size;clear hov hb4 HCL q0 q1 q2 q3 q4 HX3 HR3 HB3;go_wp2_with fail;have hb5:Below w4.heap.size w4 (w4.alloc (.cells #[.int .i64 t.kind,.int .i64 t.num,.string t.text,.slice B t.items.length k,.slice B' t.names.length k'] 25)):=ae _;have hx5:Box (w4.alloc (.cells #[.int .i64 t.kind,.int .i64 t.num,.string t.text,.slice B t.items.length k,.slice B' t.names.length k'] 25)) w4.heap.size _ _ _ _ _:=Box.new _ _ _ _ _;have hz5:(w4.alloc (.cells #[.int .i64 t.kind,.int .i64 t.num,.string t.text,.slice B t.items.length k,.slice B' t.names.length k'] 25)).heap.size=w4.heap.size+1:=by simp
 generalize w4.alloc (.cells #[.int .i64 t.kind,.int .i64 t.num,.string t.text,.slice B t.items.length k,.slice B' t.names.length k'] 25)=w5 at *;have hO5:OAt w5 (Iv w3.heap.size w4.heap.size) t w4.heap.size 0:=⟨_,_,B,k,B',k',hx5,rfl,rfl,rfl,rfl,rfl,HOV.out.keep fun b hb=>hb5.block b hb.2,fun hb=>by have:=hb.2;omega,fun b hb=>by have:=hb.2;omega⟩;have hB5:=HB4.out.trans (hb5.mono (show w.heap.size≤w4.heap.size by omega));have HR5:=hid (HR4.out.call hb5);have HCALL:=hid (HALONG.out t w4.heap.size 0 A c p w5 _ (HJ.out _ _ HJW.out hB5) hO5 HM.out HQT.out (HP.out.keep fun b hb=>hB5.block b (hS b hb)) (gA HMP.out) hpc h63 (fun b hb=>by have:=hS b hb;omega) (fun b hb=>⟨fun e=>by have:=hS b hb;have:=e.1;omega,by have:=hS b hb;omega⟩));have HB5:=hid hB5;clear hb5 hx5 hO5 hB5 HR4 HB4 HOV HALONG HJ HJW HV;refine HCALL.out.mono ?_;rintro e w6 ⟨rfl,F,hF,⟨C,ty,D,d,D',d',hg,g0,g1,g2,g3,g4,hv,hFg,hlt⟩,m1,m2,m3,m4,m5,m6⟩;have hk: ∀b,b<w.heap.size+2→w6.heap[b]? =w5.heap[b]? :=fun b hb=>m2 b (by omega) (fun x=>by have:=x.1;omega) (by omega);have HB6:Hid (Below w.heap.size w w6):=hid ⟨m4.trans HB5.out.os,m5.trans HB5.out.tape,m6.trans HB5.out.output,Nat.le_trans HB5.out.size m1,fun b hb=>(hk b (by omega)).trans (HB5.out.block b hb)⟩;have HR6:Hid (Box w6 (w.heap.size+1) _ _ _ _ _):=hid ((hk _ (by omega)).trans HR5.out);have HV6:=hid (hv.lv.imp (S':=Iv (w.heap.size+2) w6.heap.size) fun b hb=>⟨(hF b hb).elim (fun x=>by have:=x.1;omega) (fun x=>by omega),hlt b hb⟩);have x0:=(Go.Joins.cell_of_block hg 0).trans g0
 have x1:=(Go.Joins.cell_of_block hg 1).trans g1;have x2:=(Go.Joins.cell_of_block hg 2).trans g2;have x3:=(Go.Joins.cell_of_block hg 3).trans g3;have x4:=(Go.Joins.cell_of_block hg 4).trans g4;clear hk hF hg g0 g1 g2 g3 g4 hv hFg hlt m1 m2 m3 m4 m5 m6 HCALL HR5 HB5;generalize hres:goT fin t p=res at *;obtain⟨x,u⟩:=res;simp only at *;have r0:=HR6.out.c0;have r1:=HR6.out.c1;have r2:=HR6.out.c2;have r3:=HR6.out.c3;have r4:=HR6.out.c4;have rf:=fun i=>HR6.out.free i;clear hres;by_cases hx:x=0
 ·subst hx;have hg:bl fin t p=(0,u):=by rw[HGT.out];rfl
  have HG:=hid hg;clear hg HGT;go_wp2_with fail;refine bodyPost_ret (aq rfl _ _ (w.heap.size+1) 25 _ (0,0) rfl (aZ HR6.out) (by kernel_rfl)) rfl ?_;exact jm HB6.out HV6.out HG.out
 ·have h1:(x != 0)=true:=by simp[hx]
  have hg:bl fin t p=(x,aT):=by rw[HGT.out,if_neg hx]
  have HG:=hid hg;clear hg HGT hx;go_wp2_with fail;refine bodyPost_ret (aq rfl _ _ (w.heap.size+1) 25 _ (0,0) rfl (aZ HR6.out) (by kernel_rfl)) rfl ?_;exact jm HB6.out (ic _ _) HG.out
def fv (t:VT)(s:ByteArray)(r:List ByteArray):Bool:=decide (ed s.data.toList=(t.items.length:Int)) && decide (r.length=0)
theorem oB (S S2:Nat→Prop)(t:VT)(g o:Nat)(A:Option Addr)(c:Nat)(A':Option Addr)(c':Nat)(P:Int)(R:Option Addr)(cR:Nat)(s:ByteArray)(r:List ByteArray)(w:World)(h:AtV w S t g o A c A' c')(hg:g<w.heap.size)(hr:ai w S2 R (s::r))(hS: ∀b,S2 b→b<w.heap.size)(hn:r.length+1≤9223372036854775807):
  Calls Tryz.prog 161 #[.agg #[.pointer (some ⟨g,o,none⟩),.int .i64 P,.slice R (r.length+1) cR]] w fun e w'=>e= .returned (.bool (fv t s r))∧Below w.heap.size w w':=by
 obtain⟨b,off,rfl,hb,hx⟩:=hr (by simp);have hs0:=(hx 0 (by simp)).1;have hsz:=(hx 0 (by simp)).2;simp only[List.getElem_cons_zero,Nat.add_zero]at hs0 hsz;have hbs:=hS b hb;have hlen:=h.names.2.2;have c3:=h.c3;obtain⟨Q,hQ⟩: ∃Q,Q=fv t s r:=⟨_,rfl⟩;rw[←hQ];have HQ:=hid hQ;clear hQ h hx hr;have hb1:Below w.heap.size w (w.alloc (.cells #[.pointer (some ⟨g,o,none⟩),.int .i64 P,.slice (some ⟨b,off,none⟩) (r.length+1) cR] 108)):=ae _;have HB1:=hid hb1;have hs1:(w.alloc (.cells #[.pointer (some ⟨g,o,none⟩),.int .i64 P,.slice (some ⟨b,off,none⟩) (r.length+1) cR] 108)).heap[w.heap.size]? =some (.cells #[.pointer (some ⟨g,o,none⟩),.int .i64 P,.slice (some ⟨b,off,none⟩) (r.length+1) cR] 108 (0,0)):=heap_alloc_new w _;have HS1:=hid hs1;clear hb1 hs1;go_enter Tryz.func161,Tryz.ntmps161;go_wp2_with fail;refine(oV s _ hsz).mono ?_;rintro e w2 hi;have hlt1:0≤r.length:=Nat.zero_le _;unfold iY at hi
 cases hix:fV s.data.toList with
 |none=>
  rw[hix]at hi;obtain⟨rfl,hb2⟩:=hi;have hI:=dH hix;have hq:Q=false:=by rw[HQ.out];unfold fv;rw[hI,decide_eq_false (by omega)];rfl
  have HB2:=hid (am HB1.out hb2);clear hb2;go_wp2_with fail;go_ret
  exact⟨by rw[hq];rfl,HB2.out⟩
 |some n=>
  rw[hix]at hi;obtain⟨rfl,hb2⟩:=hi;have hI:=ge hix;have hz1:(w.alloc (.cells #[.pointer (some ⟨g,o,none⟩),.int .i64 P,.slice (some ⟨b,off,none⟩) (r.length+1) cR] 108)).heap.size=w.heap.size+1:=by simp
  have k0:=(World.cell?_of_block (a:=⟨w.heap.size,0,none⟩) (hb2.block w.heap.size (by omega))).trans (Go.Joins.cell_of_block HS1.out 0);have k2:=(World.cell?_of_block (a:=⟨w.heap.size,2,none⟩) (hb2.block w.heap.size (by omega))).trans (Go.Joins.cell_of_block HS1.out 2);have HB2:=hid (am HB1.out hb2);have k3:=(World.cell?_of_block (a:=⟨g,o+3,none⟩) (HB2.out.block g hg)).trans c3;clear hb2 hz1 HS1;have hnx:fv t s r=(decide ((n:Int)=(t.items.length:Int)) && decide (r.length=0)):=by unfold fv;rw[hI]
  by_cases hnl:(n:Int)=(t.items.length:Int)
  ·have hb:((n:Int) == (t.items.length:Int))=true:=by simp[hnl]
   by_cases hr0:r.length=0
   ·have hb':((r.length:Int)+1 == 1)=true:=by simp[hr0]
    have hq:Q=true:=by rw[HQ.out,hnx,decide_eq_true hnl,decide_eq_true hr0];rfl
    have HQ2:=hid hq;clear hq hnx;go_wp2_with fail;go_ret;exact⟨by rw[HQ2.out];rfl,HB2.out⟩
   ·have hb':((r.length:Int)+1 == 1)=false:=beq_false_of_ne (by omega);have hq:Q=false:=by rw[HQ.out,hnx,decide_eq_false hr0,Bool.and_false]
    have HQ2:=hid hq;clear hq hnx;go_wp2_with fail;go_ret;exact⟨by rw[HQ2.out];rfl,HB2.out⟩
  ·have hb:((n:Int) == (t.items.length:Int))=false:=beq_false_of_ne hnl;have hq:Q=false:=by rw[HQ.out,hnx,decide_eq_false hnl,Bool.false_and]
   have HQ2:=hid hq;clear hq hnx;go_wp2_with fail;go_ret;exact⟨by rw[HQ2.out];rfl,HB2.out⟩
end Go.Proofs.YtgbopnlpaabelaaGreatDoor
