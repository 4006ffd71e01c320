/- Whether two places of an update meet, by the program: the loop over the places. -/
import Derived.Test.YtgbopnlpaabelaaGreatDoorKSpD
import Derived.Test.YtgbopnlpaabelaaGreatDoorKRefM
import Derived.Test.YtgbopnlpaabelaaGreatDoorKValF
import Derived.Test.YtgbopnlpaabelaaGreatDoorKValQ
import Derived.Test.YtgbopnlpaabelaaGreatDoorKTrA
import Derived.Test.YtgbopnlpaabelaaGreatDoorKRefO
import Derived.Test.YtgbopnlpaabelaaGreatDoorKTrE
import Derived.Test.YtgbopnlpaabelaaGreatDoorKPathA
import Derived.Test.YtgbopnlpaabelaaGreatDoorKMath
import Derived.Lib.OthersKept
import Derived.Laws.AppendOwnNone
import Derived.Outline
import Derived.Laws.OwnMore
import Derived.Laws.AppendOwn
import Derived.Lib.Join
set_option maxHeartbeats 64000000
set_option maxRecDepth 100000
set_option linter.unusedVariables false
set_option linter.unusedSimpArgs false
namespace Go.Proofs.YtgbopnlpaabelaaGreatDoor
open Lib (hid)
open Go.RowKit Go.Shelf
attribute [local go_sem] Oper.semAt_some
theorem Tryz.infoStrsR :(Tryz.prog.info? 23).map (fun i=>(i.zero,i.size,i.bytes))=some (some (.slice none 0 0),1,24):=by kernel_rfl
def iU {l:List OpT}(pre:List (PlX l)):List (List ByteArray):=pre.map fun x=>plT l x.1
def se {l:List OpT}(w3:World)(b off:Nat)(pre:List (PlX l)):List Value:=pre.map fun x=>plV w3 b off x.1
theorem tK {l:List OpT}(pre:List (PlX l)):iU pre=(lx pre).map (plT l):=by simp[iU,lx]
def zX (w w3:World)(b off:Nat)(l:List OpT)(pre:List (PlX l))(W:World):Prop:= ∃A c,
 W.heap[w.heap.size]? =some (.cells #[.bool false] 4 (0,0))∧W.heap[w.heap.size+1]? =some (.cells #[.slice A pre.length c] 72 (0,0))∧
 W.ownsRow (w.heap.size+3) 23 1 (.slice A pre.length c) pre.length (se w3 b off pre)∧w.heap.size+3≤W.heap.size∧Below w.heap.size w W∧dg [] (iU pre)=false
def Aj (w:World)(l:List OpT)(c:Code)(pre:List (PlX l))(W:World):Prop:=c= .ret∧dg [] (iU pre)=true∧W.heap[w.heap.size]? =some (.cells #[.bool true] 4 (0,0))∧w.heap.size+3≤W.heap.size∧Below w.heap.size w W
theorem eJ {W W':World}{row:Option Nat}{B:Nat}{t:TypeId}{k:Nat}{v:Value}{n:Nat}{xs:List Value}(h:W.ownsRow B t k v n xs)(hg:W.grownBy W' row)(hr: ∀r,row=some r→ ∃o:Obj,W.heap[r]? =some o∧o.isCells=false):W'.ownsRow B t k v n xs:=by
 obtain⟨h1,h2⟩:=h;refine⟨h1,?_⟩;rcases h2 with h2|⟨g,cap,cur,hv,hB,hh,r⟩
 ·exact Or.inl h2
 ·exact Or.inr ⟨g,cap,cur,hv,hB,(grownBy_keeps_cells hg hr hh rfl).trans hh,r⟩
theorem xl (w w3:World)(b off:Nat)(l:List OpT)(B:Nat)(hB:w.heap.size+3≤B):OwnFrom B (zX w w3 b off l):=by
 rintro pre W W' row ⟨A,c,h1,h2,h3,h4,h5,h6⟩ hg hr;exact⟨A,c,(grownBy_keeps_cells hg (fun r e=>(hr r e).2) h1 rfl).trans h1,(grownBy_keeps_cells hg (fun r e=>(hr r e).2) h2 rfl).trans h2,eJ h3 hg (fun r e=>(hr r e).2),Nat.le_trans h4 hg.size,h5.grown hg h5.size (fun k e=>Nat.le_trans (by omega) (hr k e).1),h6⟩
theorem yE (w:World)(l:List OpT)(c:Code)(B:Nat)(hB:w.heap.size+3≤B):OwnFrom B (Aj w l c):=by
 rintro pre W W' row ⟨h0,h4,h1,h2,h3⟩ hg hr;exact⟨h0,h4,(grownBy_keeps_cells hg (fun r e=>(hr r e).2) h1 rfl).trans h1,Nat.le_trans h2 hg.size,h3.grown hg h3.size (fun k e=>Nat.le_trans (by omega) (hr k e).1)⟩
def Al (T:Nat→Value→Act)(w3:World)(b off:Nat){l:List OpT}(x:PlX l)(a':Act)(W:World):Prop:=
 ∃gx,a'=T gx (plV w3 b off x.1)∧W.heap[gx]? =some (.cells #[plV w3 b off x.1] 23 (0,0))∧w3.heap.size≤gx
theorem xR (T:Nat→Value→Act)(w3:World)(b off:Nat){l:List OpT}(x:PlX l)(a':Act)(B:Nat):OwnFrom B (fun(_:Unit) W=>Al T w3 b off x a' W):=by
 rintro _ W W' row ⟨gx,h1,h2,h3⟩ hg hr;exact⟨gx,h1,(grownBy_keeps_cells hg (fun r e=>(hr r e).2) h2 rfl).trans h2,h3⟩
theorem yW {W:World}{S:Nat→Prop}{B:Nat}{A:Option Addr}{c:Nat}{vs:List Value}{qs:List (List ByteArray)}(h:W.ownsRow B 23 1 (.slice A qs.length c) qs.length vs)(hq: ∀i (h:i<qs.length),∃v,vs[i]? =some v∧SlP W S v qs[i]):nh W S A qs:=by
 intro hp;rcases h.2 with ⟨-,h0⟩|⟨g,cap,cur,hv2,hB,hh,-⟩
 ·omega
 ·have hcell:=fun i u hu=>World.ownsRow.cells (g:=g) h (by rw[hv2];rfl) i u hu;injection hv2 with hA
  subst hA;refine⟨g,0,rfl,(Array.getElem?_eq_some_iff.1 hh).1,fun i hi=> ?_⟩;obtain⟨v,h1,h2⟩:=hq i hi;refine⟨v,?_,h2⟩;have:=hcell i v h1;rw[cq]at this;exact this
theorem qN {W:World}{B:Nat}{v:Value}{n:Nat}{vs:List Value}(h:W.ownsRow B 23 1 v n vs): ∀g,v.ownBlock=some g→B≤g∧ ∃cur fr,W.heap[g]? =some (.cells cur 23 fr):=by
 intro g hg;rcases h.2 with ⟨rfl,-⟩|⟨g',cap,cur,rfl,hB,hh,-⟩
 ·cases hg
 ·have e:g'=g:=by injection hg
  subst e;exact⟨hB,_,_,hh⟩
theorem wC {W:World}{B:Nat}{t:TypeId}{k:Nat}{v:Value}{n:Nat}{xs:List Value}(h:W.ownsRow B t k v n xs): ∃A c,v= .slice A n c:=by
 rcases h.2 with ⟨rfl,h0⟩|⟨g,cap,cur,rfl,-⟩
 ·exact⟨none,0,by rw[h0]⟩
 ·exact⟨_,cap,rfl⟩
theorem nG (S:Nat→Prop)(OA:Option Addr)(oc:Nat)(l:List OpT)(w:World)(hS: ∀b,S b→b<w.heap.size)(ho:ey w S OA l)(hlen:l.length≤100000):
  Calls Tryz.prog 59 #[.slice OA l.length oc] w fun e w'=>e= .returned (.bool (dg [] (bU l)))∧Below w.heap.size w w':=by
 have hmf: ∀(fn:Fn) (first cap:Array Value) (w:World),(Instr.makeFunc fn first cap).run Tryz.prog w= .ok (.func fn first cap) w:=fun _ _ _ _=>rfl;obtain⟨b,off,hbo⟩:=ho.at';have HS:=hid hS;have HO:=hid ho;obtain⟨r,hr⟩: ∃r,r=dg [] (bU l):=⟨_,rfl⟩;rw[←hr];have HR:=hid hr;obtain⟨n,hn⟩: ∃n,n=l.length:=⟨_,rfl⟩;rw[←hn];have HN:=hid hn;clear hS ho hr hn;refine(callsIn_wide (n:=8)).1 ?_;refine callsIn_of_wp_marks Tryz.func59 rfl trivial ?_ rfl;simp only[Tryz.ntmps59,List.size_toArray,List.length_cons,List.length_nil,Nat.reduceAdd,Nat.reduceSub,Array.replicate_succ,Array.replicate_zero,List.push_toArray,List.append_toArray,List.nil_append,List.cons_append]
 gi_wp2
 refine⟨trivial,?_⟩;refine(yN Fence.wide 7 trivial rfl _ _ _ _).mono ?_;rintro e w' ⟨rfl,rfl⟩
 gi_wp2
 have hr1:(((w.alloc (.cells #[.bool false] 4)).alloc (.cells #[.slice none 0 0] 72)).alloc (.cells #[.slice OA n oc] 26)).heap[w.heap.size]? =some (.cells #[.bool false] 4 (0,0)):=((((Below.refl _ _).alloc (Nat.le_refl _) _:Below (w.alloc (.cells #[.bool false] 4)).heap.size _ _).alloc (by simp) _).block _ (by simp)).trans (heap_alloc_new w _)
 have hr2:(((w.alloc (.cells #[.bool false] 4)).alloc (.cells #[.slice none 0 0] 72)).alloc (.cells #[.slice OA n oc] 26)).heap[w.heap.size+1]? =some (.cells #[.slice none 0 0] 72 (0,0)):=by
  have h1:=heap_alloc_new (w.alloc (.cells #[.bool false] 4)) (.cells #[.slice none 0 0] 72);rw[show(w.alloc (.cells #[.bool false] 4)).heap.size=w.heap.size+1 from by simp]at h1;exact(((Below.refl _ _).alloc (Nat.le_refl _) _:Below ((w.alloc (.cells #[.bool false] 4)).alloc (.cells #[.slice none 0 0] 72)).heap.size _ _).block _ (by simp)).trans h1
 have hb3:Below w.heap.size w (((w.alloc (.cells #[.bool false] 4)).alloc (.cells #[.slice none 0 0] 72)).alloc (.cells #[.slice OA n oc] 26)):=(((Below.refl _ _).alloc (Nat.le_refl _) _).alloc (by simp) _).alloc (by simp;omega) _;have hz3:(((w.alloc (.cells #[.bool false] 4)).alloc (.cells #[.slice none 0 0] 72)).alloc (.cells #[.slice OA n oc] 26)).heap.size=w.heap.size+3:=by simp
 have hs3:(((w.alloc (.cells #[.bool false] 4)).alloc (.cells #[.slice none 0 0] 72)).alloc (.cells #[.slice OA n oc] 26)).cell? ⟨w.heap.size+2,0,none⟩=some (.slice OA n oc):=by
  have h9:=Go.Joins.cell_of_block (heap_alloc_new ((w.alloc (.cells #[.bool false] 4)).alloc (.cells #[.slice none 0 0] 72)) (.cells #[.slice OA n oc] 26)) 0;rw[show((w.alloc (.cells #[.bool false] 4)).alloc (.cells #[.slice none 0 0] 72)).heap.size=w.heap.size+2 from by simp]at h9;exact h9
 generalize (((w.alloc (.cells #[.bool false] 4)).alloc (.cells #[.slice none 0 0] 72)).alloc (.cells #[.slice OA n oc] 26))=w3 at *;rw[HN.out]at hs3;have ho3:ey w3 S OA l:=HO.out.below' HS.out hb3;have HO3:=hid ho3;have h0:zX w w3 b off l [] w3:=⟨none,0,hr1,hr2,World.ownsRow_nil _ _ _ _,by omega,hb3,rfl⟩;have HSb:Hid (∀b,S b→b<w.heap.size+3∧ ¬(b=w.heap.size∨b=w.heap.size+1)):=hid fun b hb=>by have:=HS.out b hb;omega
 have HSW:Hid (∀(W:World),Below w.heap.size w W→ ∀b,S b→W.heap[b]? =w3.heap[b]?):=hid fun W hW b hb=>(hW.block b (HS.out b hb)).trans (hb3.block b (HS.out b hb)).symm;obtain⟨i0,hi,hz0,hz1,hz2⟩:=info_parts Tryz.infoStrsR;clear hr1 hr2 hb3
 refine wpIn_rangeFunc_ownH rfl (by omega) (gf:=143) (lb:= #[.pointer (some ⟨w.heap.size+2,0,none⟩)]) rfl trivial (enters_of Tryz.func143 (by kernel_rfl) rfl)
  (jI Fence.wide 7 trivial rfl (by omega) (w.heap.size+2) (w.heap.size+3) (fun b=>b=w.heap.size∨b=w.heap.size+1) S OA oc l b off hbo (by omega) ⟨by omega,by omega⟩ HSb.out w3 (by omega) hs3 ho3) KpO.trans (zP (by omega)) (Below.refl _ _) (fun _=>rfl)
  (zX w w3 b off l) (Aj w l) (xl w w3 b off l _ (by omega)) (fun c=>yE w l c _ (by omega)) h0
  (Al (fun gx pv=> { tmps:= #[.slice OA n oc,undef,.pointer (some ⟨w.heap.size,0,none⟩),.pointer (some ⟨w.heap.size+1,0,none⟩),.pointer (some ⟨gx,0,none⟩),.slice OA n oc,.func (.func 143) #[] #[.pointer (some ⟨w.heap.size+1+1,0,none⟩)],pv,undef,undef,undef,undef,undef,undef,undef],defers:=[] }) w3 b off) (fun x a'=>xR _ w3 b off x a' _) ?assign ?body ?done ?stop
 case assign=>
  intro y pre x W K hI hK;have hlt:=lK l x.2;obtain rfl:=hbo (by omega);obtain⟨PA,pc,hv,-⟩:=tC HO3.out x.1 hlt;have HK:=hid hK;have HI:=hid hI;clear hK hI;have HV:=hid hv;rw[hv]
  gi_wp2
  have hsz:=HI.out;obtain⟨A,c,i1,i2,i3,i4,i5,i6⟩:=hsz;have hbW:Below W.heap.size W (W.alloc (.cells #[.slice PA (plT l x.1).length pc] 23)):=(Below.refl _ _).alloc (Nat.le_refl _) _;refine HK.out _ _ ((KeepsOthers.alloc W _).from _) (KpO.of_below hbW (by omega)) ⟨A,c,(hbW.block _ (by omega)).trans i1,(hbW.block _ (by omega)).trans i2,eJ i3 (World.grownBy_alloc W _ none) (fun r e=>by cases e),by have:=hbW.size;omega,i5.trans (hbW.mono i5.size),i6⟩ ⟨W.heap.size,?_,?_,by omega⟩
  ·rw[HV.out]
  ·rw[HV.out];exact heap_alloc_new W _
 case body=>
  rintro y pre x a' W hyl hyr ⟨A,c,i1,i2,i3,i4,i5,i6⟩ ⟨gx,rfl,hgx,hgl⟩ hlen2;have hlt:=lK l x.2;obtain rfl:=hbo (by omega)
  have hpls: ∀z:PlX l,SlP W S (plV w3 b off z.1) (plT l z.1):=fun z=>by
   obtain⟨PA,pc,hv,hst,hc,hl⟩:=tC HO3.out z.1 (lK l z.2);exact⟨PA,pc,hv,hst.keep fun k hk=>HSW.out W i5 k hk,hc,hl⟩
  have hSW: ∀b,S b→b<W.heap.size:=fun k hk=>by have:=HS.out k hk;omega
  have hg0:=Go.Joins.cell_of_block hgx 0;have hlp:(iU pre).length=pre.length:=by simp[iU]
  have hrow:nh W S A (iU pre):=yW (by rw[hlp];exact i3) (fun i hi=>by
   rw[hlp]at hi;refine⟨plV w3 b off pre[i].1,by simp[se,hi],?_⟩;have:=hpls pre[i]
   simpa[iU]using this)
  have hcs:=sh S (plT l x.1) (plV w3 b off x.1) gx A c (iU pre) W hSW (Array.getElem?_eq_some_iff.1 hgx).1 hg0 (hpls x) hrow (by rw[hlp];omega);rw[hlp]at hcs;have HC:=hid hcs;have HPX:=hid (hpls x);have HI:=hid (And.intro i1 (And.intro i2 (And.intro i3 (And.intro i4 (And.intro i5 (And.intro i6 (And.intro hgx hgl)))))));have y1:=Go.Joins.cell_of_block i2 0;obtain⟨PA,pc,hv,-⟩:=hpls x;have HV:=hid hv;rw[hv];clear i1 i2 i3 i5 i6 hgx hg0 hrow hcs hpls hv
  gi_wp2
  refine⟨trivial,?_⟩;refine(CallsIn.inRound y (callsIn_wide.2 HC.out)).mono ?_;rintro e W2 ⟨rfl,hb2⟩;clear y1;obtain⟨i1,i2,i3,i4,i5,i6,hgx,hgl⟩:=HI.out;rw[HV.out]at hgx;have hb02:=i5.trans (hb2.mono i5.size);have hgxl:=(Array.getElem?_eq_some_iff.1 hgx).1;have j1:=(hb2.block _ (by omega)).trans i1;have j2:=(hb2.block _ (by omega)).trans i2;have jx:=(hb2.block gx hgxl).trans hgx;have j3:=eJ (row:=none) i3 ⟨hb2.os,hb2.tape,hb2.output,hb2.size,fun k hk _=>hb2.block k hk⟩ (fun r e=>by cases e);have hko:KeepsOthers W W2:=KeepsOthers.of_grownBy (row:=none) ⟨hb2.os,hb2.tape,hb2.output,hb2.size,fun k hk _=>hb2.block k hk⟩ (fun j o e=>by cases e);have HJ:=hid (And.intro j1 (And.intro j2 (And.intro j3 (And.intro hb02 (And.intro hko hb2)))));have z0:=Go.Joins.cell_of_block j1 0;have zf:=fun i=>Go.Joins.unfrozen_of_block j1 i;have z1:=Go.Joins.cell_of_block j2 0;have z1f:=fun i=>Go.Joins.unfrozen_of_block j2 i;have zx:=Go.Joins.cell_of_block jx 0;have hs2:=hb2.size;cases hm:(iU pre).any fun q=>dh (plT l x.1) q
  ·have HM:=hid hm
   have hne: ∀k,k<w.heap.size+3→some k≠(Value.slice A pre.length c).ownBlock:=fun k hk e=>by
    have:=(qN j3 k e.symm).1;omega
   have hjr: ∀X:Obj,(W2.alloc X).ownsRow (w.heap.size+3) 23 1 (.slice A pre.length c) pre.length (se w3 b off pre):=fun X=>eJ j3 (World.grownBy_alloc W2 X none) (fun r e=>by cases e)
   have hj2: ∀(X:Obj) (w4:World),(W2.alloc X).grownBy w4 (Value.slice A pre.length c).ownBlock→w4.heap[w.heap.size+1]? =some (.cells #[.slice A pre.length c] 72 (0,0)):=fun X w4 hg4=>
    (hg4.block (w.heap.size+1) (by simp;omega) (hne _ (by omega))).trans ((((Below.refl _ _).alloc (Nat.le_refl _) _:Below W2.heap.size W2 (W2.alloc X)).block _ (by omega)).trans j2)
   have HNEK:=hid hne;have HJ2:=hid hj2;clear hm HC j1 j2 jx j3 hb02 hko hb2 i1 i2 i3 i5 i6 hgx hne hj2
   gi_wp2_with (gi_at_builtin;refine wpListIn_append_own _ rfl _ _ 72 rfl (w.heap.size+3) 23 i0 (.slice none 0 0) 1 24 Tryz.underlying72 hi hz0 hz1 hz2 rfl (by decide) _ pre.length (se w3 b off pre) rfl (hjr _) ⟨W2.heap.size,0,none⟩ 1 1 [.slice PA (plT l x.1).length pc] rfl rfl (cell_one_new _ _ _) (by simp[Value.oneCell']) (by unfold maxLen;omega) (by omega) (by simp;omega) ?_;intro v' w4 hown' hg4 hnil4;obtain⟨A',c',rfl⟩:=wC hown';have k2:=HJ2.out _ _ hg4;have k2c:=Go.Joins.cell_of_block k2 0;have k2f:=fun i=>Go.Joins.unfrozen_of_block k2 i;have HOW:=hid (And.intro hown' (And.intro hg4 k2));clear hown' hg4 hnil4 k2)
   obtain⟨hown',hg4,k2⟩:=HOW.out;obtain⟨j1,j2,j3,hb02,hko,hb2⟩:=HJ.out;obtain⟨-,-,-,-,-,i6,-,-⟩:=HI.out;have hal:Below W2.heap.size W2 (W2.alloc (.cells #[.slice PA (plT l x.1).length pc] 23)):=(Below.refl _ _).alloc (Nat.le_refl _) _;obtain⟨hbox,hg5,hz5⟩:=jD k2 (.slice A' (pre.length+1) c');have hsame: ∀k,k<w.heap.size+3→k≠w.heap.size+1→(w4.setCell ⟨w.heap.size+1,0,none⟩ (.slice A' (pre.length+1) c')).heap[k]? =W2.heap[k]? :=fun k hk hn=>(hg5.block k (by have:=hg4.size;simp at this;omega) (fun e=>by injection e;omega)).trans ((hg4.block k (by simp;omega) (HNEK.out k hk)).trans (hal.block k (by omega)));have hrt:=qN j3
   have hk4:KeepsOthers W2 w4:=by
    refine KeepsOthers.trans (KeepsOthers.of_grownBy (row:=none) ⟨hal.os,hal.tape,hal.output,hal.size,fun k hk _=>hal.block k hk⟩ (fun j o e=>by cases e)) (KeepsOthers.of_grownBy hg4 fun j o e h=> ?_);obtain⟨-,cur,fr,hc⟩:=hrt j e;have h2:=(hal.block j (Array.getElem?_eq_some_iff.1 hc).1).trans hc;rw[h2]at h;injection h with h
    rw[←h];rfl
   have hk5:KeepsOthers w4 (w4.setCell ⟨w.heap.size+1,0,none⟩ (.slice A' (pre.length+1) c')):=KeepsOthers.of_grownBy hg5 fun j o e h=>(by injection e with e;subst e;rw[k2]at h;injection h with h;rw[←h];rfl);have hs4:W2.heap.size+1≤w4.heap.size:=by have:=hg4.size;simpa using this
   have htA: ∀(k:Nat) (cs:Array Value) (fr:Nat×Nat),W2.heap[k]? =some (.cells cs 51 fr)→(w4.setCell ⟨w.heap.size+1,0,none⟩ (.slice A' (pre.length+1) c')).heap[k]? =some (.cells cs 51 fr):=fun k cs fr hc=>by
    have hkl:=(Array.getElem?_eq_some_iff.1 hc).1;refine(hg5.block k (by omega) (fun e=> ?_)).trans ((hg4.block k (by simp;omega) (fun e=> ?_)).trans ((hal.block k hkl).trans hc))
    ·injection e with e
     subst e;rw[j2]at hc;injection hc with hc
     injection hc with _ ht _
     exact absurd ht (by decide)
    ·obtain⟨-,cur,fr',hc2⟩:=hrt k e.symm;rw[hc2]at hc;injection hc with hc
     injection hc with _ ht _
     exact absurd ht (by decide)
   refine⟨KeepsOthers.from ((hko.trans hk4).trans hk5) _,⟨by have:=hb2.size;omega,fun k hk hn=>(hsame k hk (fun e=>hn (.inr e))).trans (hb2.block k (by omega)),fun k cs fr hc=>htA k cs fr ((hb2.block k (Array.getElem?_eq_some_iff.1 hc).1).trans hc)⟩,A',c',(hsame _ (by omega) (by omega)).trans j1,?_,?_,by omega,⟨hg5.os.trans (hg4.os.trans (hal.os.trans hb02.os)),hg5.tape.trans (hg4.tape.trans (hal.tape.trans hb02.tape)),hg5.output.trans (hg4.output.trans (hal.output.trans hb02.output)),by have:=hb02.size;omega,fun k hk=>(hsame k (by omega) (by omega)).trans (hb02.block k hk)⟩,?_⟩
   ·rw[List.length_append,List.length_singleton];exact hbox
   ·rw[List.length_append,List.length_singleton,show se w3 b off (pre++[x])=se w3 b off pre++[.slice PA (plT l x.1).length pc] by simp[se,HV.out]];obtain⟨o1,o2⟩:=hown';refine⟨o1,?_⟩;rcases o2 with o2|⟨g,cap,cur,hv',hB,hh,rr⟩
    ·exact Or.inl o2
    ·exact Or.inr ⟨g,cap,cur,hv',hB,(hg5.block g (Array.getElem?_eq_some_iff.1 hh).1 (fun e=>by injection e;omega)).trans hh,rr⟩
   ·rw[show iU (pre++[x])=iU pre++[plT l x.1] by simp[iU],jn,List.nil_append,HM.out,i6];rfl
  ·have HM:=hid hm;clear hm HC j1 j2 jx j3 hb02 hko hb2 i1 i2 i3 i5 i6 hgx
   gi_wp2
   obtain⟨j1,j2,j3,hb02,hko,hb2⟩:=HJ.out;obtain⟨-,-,-,-,-,i6,-,-⟩:=HI.out;obtain⟨hbox,hg5,hz5⟩:=jD j1 (.bool true);refine⟨KeepsOthers.from (hko.trans (KeepsOthers.of_grownBy hg5 fun j o e h=>(by injection e with e;subst e;rw[j1]at h;injection h with h;rw[←h];rfl))) _,rfl,?_,hbox,by omega,⟨hg5.os.trans hb02.os,hg5.tape.trans hb02.tape,hg5.output.trans hb02.output,by have:=hg5.size;omega,fun k hk=>(hg5.block k (by omega) (fun e=>by injection e;omega)).trans (hb02.block k hk)⟩⟩;rw[show iU (pre++[x])=iU pre++[plT l x.1] by simp[iU],jn,List.nil_append,HM.out,Bool.or_true]
 case done=>
  rintro D ys W hD hys ⟨A,c,i1,i2,i3,i4,i5,i6⟩ hK
  have hf:r=false:=by
   rw[HR.out,←il,←hys,←tK];exact i6
  subst hf;have y0:=Go.Joins.cell_of_block i1 0;have yf:=fun i=>Go.Joins.unfrozen_of_block i1 i;have HV:=hid (And.intro i1 (And.intro i4 i5));have HKD:=hid hK;clear i1 i2 i3 i4 i5 i6 hK hys
  gi_wp2
  obtain⟨i1,i2,i3⟩:=HV.out;obtain⟨hbox,hg5,hz5⟩:=jD i1 (.bool false);generalize W.setCell ⟨w.heap.size,0,none⟩ (.bool false)=W5 at *;have hDW:D<W.heap.size:=(Array.getElem?_eq_some_iff.1 HKD.out).1;have hK5:W5.heap[D]? =some (.deferred (some [])):=(hg5.block D hDW (fun e=>by injection e;omega)).trans HKD.out;have hg6:=grownBy_putObj' W5 D (.deferred none);have hbox6:(W5.putObj D (.deferred none)).heap[w.heap.size]? =some (.cells #[.bool false] 4 (0,0)):=(hg6.block _ (by omega) (fun e=>by injection e;omega)).trans hbox;refine⟨by simp,.inl ⟨_,_,rfl,run_takeDeferred hK5,?_⟩⟩;refine⟨_,dw rfl _ _ w.heap.size false rfl hbox6,rfl,?_⟩;exact⟨hg6.os.trans (hg5.os.trans i3.os),hg6.tape.trans (hg5.tape.trans i3.tape),hg6.output.trans (hg5.output.trans i3.output),by have:=hg6.size;omega,fun b hb=>(hg6.block b (by omega) (fun e=>by injection e;omega)).trans ((hg5.block b (by omega) (fun e=>by injection e;omega)).trans (i3.block b hb))⟩
 case stop=>
  rintro D c' pre W hD ⟨rest,hrest⟩ ⟨rfl,hcf,hbox,h2,h3⟩ hK
  have hf:r=true:=by
   rw[HR.out,←il,←hrest,List.map_append,←tK];exact oG _ _ _ hcf
  subst hf;have HKD:=hid hK;have HV:=hid (And.intro hbox (And.intro h2 h3));clear hK hcf hrest hbox h2 h3
  gi_wp2
  obtain⟨hbox,h2,h3⟩:=HV.out;have hDW:D<W.heap.size:=(Array.getElem?_eq_some_iff.1 HKD.out).1;have hg6:=grownBy_putObj' W D (.deferred none);have hbox6:=(hg6.block w.heap.size (by omega) (fun e=>by injection e;omega)).trans hbox;refine⟨by simp,.inl ⟨_,_,rfl,run_takeDeferred HKD.out,?_⟩⟩;refine⟨_,dw rfl _ _ w.heap.size true rfl hbox6,rfl,?_⟩;exact⟨hg6.os.trans h3.os,hg6.tape.trans h3.tape,hg6.output.trans h3.output,by have:=hg6.size;omega,fun b hb=>(hg6.block b (by omega) (fun e=>by injection e;omega)).trans (h3.block b hb)⟩
end Go.Proofs.YtgbopnlpaabelaaGreatDoor
/- What keeps an update from being one, by the program. -/
namespace Go.Proofs.YtgbopnlpaabelaaGreatDoor
open Lib (hid)
open Go.RowKit
theorem nz {p:List ByteArray}(h:cn p=true):0<p.length:=by
 unfold cn at h;simp at h;omega
theorem nI {s:ba}(h:cB s=true):s.ops.length≤16∧ ∀p∈bU s.ops,0<p.length:=by
 unfold cB at h;cases hr:s.rep
 ·rw[hr]at h;simp only[Bool.false_eq_true,if_false,Bool.and_eq_true,decide_eq_true_eq]at h;exact⟨h.1.2,fun p hp=>nz (mj h.2 p hp)⟩
 ·rw[hr]at h;simp only[if_true,Bool.and_eq_true,decide_eq_true_eq]at h;have h0:s.ops= []:=List.eq_nil_of_length_eq_zero h.1.1;rw[h0];exact⟨by simp,fun p hp=>by simp[bU]at hp⟩
theorem rB (S:Nat→Prop)(s:ba)(cs:Array Value)(w:World)(hS: ∀b,S b→b<w.heap.size)(h:cl w S s cs)(hd:mb s):
  Calls Tryz.prog 32 #[.agg cs] w fun e w'=>e= .returned (.int .i64 (bX s))∧Below w.heap.size w w':=by
 have HL:=hid h;obtain⟨DA,dc,DA',dc',OA,oc,rfl,hv,ho,hoc,hol⟩:=h;obtain⟨w1,hw1⟩: ∃W,W=w.alloc (.cells #[.bool s.rep,.int .i64 s.doc.kind,.int .i64 s.doc.num,.string s.doc.text,.slice DA s.doc.items.length dc,.slice DA' s.doc.names.length dc',.slice OA s.ops.length oc] 28):=⟨_,rfl⟩;have hbk:qT w1 w.heap.size s DA dc DA' dc' OA oc:=by rw[hw1];exact heap_alloc_new w _
 have hb1:Below w.heap.size w w1:=by rw[hw1];exact(Below.refl _ _).alloc (Nat.le_refl _) _
 have hS1: ∀b,S b→b<w1.heap.size:=fun b hb=>Nat.lt_of_lt_of_le (hS b hb) hb1.size;have y0:=Go.Joins.cell_of_block hbk 0;have y1:=Go.Joins.cell_of_block hbk 1;have y2:=Go.Joins.cell_of_block hbk 2;have y3:=Go.Joins.cell_of_block hbk 3;have y4:=Go.Joins.cell_of_block hbk 4;have y5:=Go.Joins.cell_of_block hbk 5;have y6:=Go.Joins.cell_of_block hbk 6;have HF:=hid (rR S s _ w1 hS1 (HL.out.below hS hb1) hd);have HB1:=hid hb1;have HBK:=hid hbk;have HO:=hid ho;have HS:=hid hS;obtain⟨r,hr⟩: ∃r,r=bX s:=⟨_,rfl⟩;have HR:=hid hr;rw[←hr];have HW1:=hid hw1;clear hbk hb1 hS1 hv ho hoc hol hd hS hr;go_enter Tryz.func32,Tryz.ntmps32;go_wp2_with fail;rw[←hw1];clear hw1;refine HF.out.mono ?_;rintro e w2 ⟨rfl,hb2⟩;have HB2:=hid (HB1.out.trans (hb2.mono HB1.out.size));have hbk2:=HBK.out.below hb2;have HBK2:=hid hbk2;clear hb2 HF y0 y1 y2 y3 y4 y5 y6;cases hf:cB s
 ·have HE:Hid (bX s=72):=hid (by unfold bX;rw[hf];rfl);clear hf;go_wp2_with fail;go_ret;exact⟨by rw[HR.out,HE.out];rfl,HB2.out⟩
 obtain⟨hl16,hpp⟩:=nI hf;have HFF:=hid hf;have HT:=hid (rs S s _ w2 (fun b hb=>Nat.lt_of_lt_of_le (HS.out b hb) HB2.out.size) (HL.out.below HS.out HB2.out) hpp);have y0:=Go.Joins.cell_of_block hbk2 0;have y1:=Go.Joins.cell_of_block hbk2 1;have y2:=Go.Joins.cell_of_block hbk2 2;have y3:=Go.Joins.cell_of_block hbk2 3;have y4:=Go.Joins.cell_of_block hbk2 4;have y5:=Go.Joins.cell_of_block hbk2 5;have y6:=Go.Joins.cell_of_block hbk2 6;clear hf hbk2 hpp;go_wp2_with fail;refine HT.out.mono ?_;rintro e w3 ⟨rfl,hb3⟩;have HB3:=hid (HB2.out.trans (hb3.mono HB2.out.size));have hbk3:=HBK2.out.below hb3;clear hb3 HT y0 y1 y2 y3 y4 y5 y6;cases ht:dN s;rotate_left
 ·have HE:Hid (bX s=70):=hid (by unfold bX;rw[HFF.out,ht];rfl);clear ht hbk3;go_wp2_with fail;go_ret;exact⟨by rw[HR.out,HE.out];rfl,HB3.out⟩
 have HTT:=hid ht;have HC:=hid (nG S OA oc s.ops w3 (fun b hb=>Nat.lt_of_lt_of_le (HS.out b hb) HB3.out.size) (HO.out.below' HS.out HB3.out) (by omega));have y6:=Go.Joins.cell_of_block hbk3 6;clear ht hbk3;go_wp2_with fail;refine HC.out.mono ?_;rintro e w4 ⟨rfl,hb4⟩;have HB4:=hid (HB3.out.trans (hb4.mono HB3.out.size));clear hb4 HC y6;cases hc:dg [] (bU s.ops)
 ·have HE:Hid (bX s=0):=hid (by unfold bX;rw[HFF.out,HTT.out,hc];rfl);clear hc;go_wp2_with fail;go_ret;exact⟨by rw[HR.out,HE.out];rfl,HB4.out⟩
 ·have HE:Hid (bX s=71):=hid (by unfold bX;rw[HFF.out,HTT.out,hc];rfl);clear hc;go_wp2_with fail;go_ret;exact⟨by rw[HR.out,HE.out];rfl,HB4.out⟩
theorem nf {l:List VT}{j:Nat}(h:j<l.length):bQ (l.drop j)=aE l[j]+bQ (l.drop (j+1)):=by
 rw[List.drop_eq_getElem_cons h];conv=>lhs;unfold bQ
theorem qh (a b c:Int):wrap64 (wrap64 a+wrap64 b+c)=wrap64 (a+b+c):=by unfold wrap64;omega
theorem eG :bQ []=0:=by unfold bQ;rfl
theorem vd {ns:List ByteArray}{j:Nat}(h:j<ns.length):eR (ns.drop j)=tsz ns[j]+eR (ns.drop (j+1)):=by
 rw[List.drop_eq_getElem_cons h];simp only[eR,List.map_cons,List.sum_cons]
theorem yi :eR []=0:=rfl
theorem fj (t:VT):aE t=dm t.kind t.num t.text t.items.length t.names+bQ t.items:=by cases t;unfold aE;rfl
theorem oV (s:ByteArray):(txt s).length=tsz s:=by unfold txt tsz;simp
theorem vg {k i:Int}{s:ByteArray}{n:Nat}{ns:List ByteArray}(h:aV k i s n ns=true):(k=1∨k=2∨k=3∨k=4∨k=5∨k=6∨k=7)∧(k≤5→n=0)∧(k=7→ns.length=n):=by
 unfold aV at h;by_cases h1:k=1
 ·simp[h1]at h;omega
 ·by_cases h2:k=2
  ·simp[h2]at h;omega
  ·by_cases h3:k=3
   ·simp[h3]at h;omega
   ·by_cases h4:k=4∨k=5
    ·simp[h1,h2,h3,h4]at h;omega
    ·by_cases h6:k=6
     ·simp[h6]at h;omega
     ·by_cases h7:k=7
      ·simp[h7]at h;omega
      ·simp[h1,h2,h3,h4,h6,h7]at h
theorem wB (S:Nat→Prop): ∀(n:Nat) (t:VT) (v:Value) (w:World),ac t≤n→ao t=true→(∀b,S b→b<w.heap.size)→LV w S t v→
  Calls Tryz.prog 50 #[v] w fun e w'=>e= .returned (.int .i64 (wrap64 (aE t)))∧Below w.heap.size w w':=by
 intro n
 induction n with
 |zero=>intro t v w hd;cases t;rw[aL]at hd;omega
 |succ n ih=>
  intro t v w hd hm hS h;have hrn:=h.shape;obtain⟨A,c,A',c',rfl,lens,a7,a6,v1,hb0⟩:=bV hS h;obtain⟨_,_,_,_,-,-,hri,hrs,-⟩:=hrn;have hm2:=mi t;rw[hm]at hm2;have hm3:=(Bool.and_eq_true _ _).mp hm2.symm;obtain⟨hk,hk5,hk7⟩:=vg hm3.1;have hml:=hm3.2
  have hdl:aF t.items≤n:=by
   have hdt:ac t=aF t.items+1:=by cases t;exact aL _ _ _ _ _
   omega
  have hz:=fj t;obtain⟨Z,hZ⟩: ∃Z,Z=aE t:=⟨_,rfl⟩;rw[←hZ]at hz ⊢;clear hm2 hm3 hZ hd hm h
  cases t with
  |mk kd num txs its nms=>
  simp only[VT.kind,VT.num,VT.text,VT.items,VT.names]at *;have HML:=hid hml;have HRI:=hid hri;have HRS:=hid hrs;have HK5:=hid hk5;have HK7:=hid hk7;have LENS:=hid lens;have A7:=hid a7;have A6:=hid a6;have P0:=hid v1;have HB0:=hid hb0;have HD:=hid hdl;have HZ:=hid hz;have hl:=LENS.out.1;clear lens a7 a6 v1 hb0 hk5 hk7 hri hrs hz hdl hml;have HKC:=hid hk;clear hk;go_enter Tryz.func50,Tryz.ntmps50;rcases HKC.out with rfl|rfl|rfl|rfl|rfl|rfl|rfl
  ·have HL0:Hid (its= []):=hid (List.eq_nil_of_length_eq_zero (HK5.out (by decide)));have HZ2:Hid ((1:Int)+((bQ (its.drop 0):Nat):Int)=Z):=hid (by rw[HZ.out];unfold dm;simp);go_wp2_with fail;skip
   go_loopw [3,4] (fun n i wr=> ∃(j:Nat) (m:Int),n= .int .i64 (wrap64 m)∧i= .int .i64 j∧j≤its.length∧Hid (m+((bQ (its.drop j):Nat):Int)=Z)∧Hid (Below w.heap.size w wr)∧Hid (Vr wr S w.heap.size (.mk 1 num txs its nms) A c A' c')) (fun _ i _=>its.length - (intOf i).toNat)
   case atStart=>exact⟨0,1,by rw[bS (by omega) (by omega)],rfl,Nat.zero_le _,HZ2,HB0,P0⟩
   case round=>
    obtain⟨j,m,rfl,rfl,hj,HI,HB,P⟩:=hrel;clear P0 HB0;have k3:wr.cell? ⟨w.heap.size,3,none⟩=some (.slice A its.length c):=P.out.x.c3;by_cases hlt:j<its.length
    ·exfalso;rw[HL0.out]at hlt;simp at hlt
    ·have HF:Hid (m=Z):=hid (by
      have h:=HI.out;rw[List.drop_eq_nil_of_le (by omega:its.length≤j),eG]at h
      omega)
     go_wp2_with fail;go_ret;exact⟨aH (by rw[HF.out]),HB.out⟩
  ·have HL0:Hid (its= []):=hid (List.eq_nil_of_length_eq_zero (HK5.out (by decide)));have HF:Hid (wrap64 Z=2):=hid (by rw[HZ.out,HL0.out,eG];unfold dm;simp;rw[bS (by omega) (by omega)]);go_wp2_with fail;go_ret;exact⟨aH HF.out.symm,HB0.out⟩
  ·have HL0:Hid (its= []):=hid (List.eq_nil_of_length_eq_zero (HK5.out (by decide)));have hg:=(bq (zig num)).1;have HF:Hid (wrap64 Z=1+((grp (zig num)).length:Int)):=hid (by rw[HZ.out,HL0.out,eG];unfold dm;simp;rw[bS (by omega) (by omega)]);go_wp2_with fail;refine(yw num _ HRI.out.1 HRI.out.2).mono ?_;rintro e w1 ⟨v,rfl,hv,hb⟩;obtain⟨A2,c2,rfl⟩:=hv.slice;have HB:=hid (am HB0.out hb);clear hv hb;go_wp2_with fail;go_ret;exact⟨aH HF.out.symm,HB.out⟩
  ·have HL0:Hid (its= []):=hid (List.eq_nil_of_length_eq_zero (HK5.out (by decide)));have hg:=mH txs HRS.out;have HTL:=oV txs;have HF:Hid (wrap64 Z=1+((txt txs).length:Int)):=hid (by rw[HTL,HZ.out,HL0.out,eG];unfold dm;simp;rw[bS (by omega) (by omega)]);have hg2:(txt txs).length≤140737488351300:=by omega
   clear hg HTL;go_wp2_with fail;refine(ky txs _ HRS.out).mono ?_;rintro e w1 ⟨v,rfl,hv,hb⟩;obtain⟨A2,c2,rfl⟩:=hv.slice;have HB:=hid (am HB0.out hb);clear hv hb;go_wp2_with fail;go_ret;exact⟨aH HF.out.symm,HB.out⟩
  ·have HL0:Hid (its= []):=hid (List.eq_nil_of_length_eq_zero (HK5.out (by decide)));have hg:=mH txs HRS.out;have HTL:=oV txs;have HF:Hid (wrap64 Z=1+((txt txs).length:Int)):=hid (by rw[HTL,HZ.out,HL0.out,eG];unfold dm;simp;rw[bS (by omega) (by omega)]);have hg2:(txt txs).length≤140737488351300:=by omega
   clear hg HTL;go_wp2_with fail;refine(ky txs _ HRS.out).mono ?_;rintro e w1 ⟨v,rfl,hv,hb⟩;obtain⟨A2,c2,rfl⟩:=hv.slice;have HB:=hid (am HB0.out hb);clear hv hb;go_wp2_with fail;go_ret;exact⟨aH HF.out.symm,HB.out⟩
  ·have hg:=(bq its.length).1;have HZ2:Hid ((1+((grp its.length).length:Int))+((bQ (its.drop 0):Nat):Int)=Z):=hid (by rw[HZ.out];unfold dm;simp<;>omega);go_wp2_with fail;refine(jh its.length _ (by omega)).mono ?_;rintro e w1 ⟨v,rfl,hv,hb⟩;obtain⟨A2,c2,rfl⟩:=hv.slice;have P0:=hid (P0.out.call hb);have HB0:=hid (am HB0.out hb);clear hv hb;go_wp2_with fail
   go_loopw [3,4] (fun n i wr=> ∃(j:Nat) (m:Int),n= .int .i64 (wrap64 m)∧i= .int .i64 j∧j≤its.length∧Hid (m+((bQ (its.drop j):Nat):Int)=Z)∧Hid (Below w.heap.size w wr)∧Hid (Vr wr S w.heap.size (.mk 6 num txs its nms) A c A' c')) (fun _ i _=>its.length - (intOf i).toNat)
   case atStart=>exact⟨0,1+((grp its.length).length:Int),by rw[bS (by omega) (by omega)],rfl,Nat.zero_le _,HZ2,HB0,P0⟩
   case round=>
    obtain⟨j,m,rfl,rfl,hj,HI,HB,P⟩:=hrel;clear P0 HB0;have k3:wr.cell? ⟨w.heap.size,3,none⟩=some (.slice A its.length c):=P.out.x.c3;by_cases hlt:j<its.length
    ·obtain⟨p,o,A2,e2,A3,e3,rfl,hp,h0,h1,h2,h3,h4,hx⟩:=gC hS A7.out HB.out j hlt;have HC:=hid (ih its[j] _ wr (Nat.le_trans (bT (List.getElem_mem hlt)) HD.out) (eg HML.out (List.getElem_mem hlt)) P.out.s hx);have HI2:Hid (m+aE its[j]+((bQ (its.drop (j+1)):Nat):Int)=Z):=hid (by rw[←HI.out,nf hlt];omega);generalize aE its[j]=C at *;clear hx hp HI;go_wp2_with fail;refine HC.out.mono ?_;rintro e w2 ⟨rfl,hb⟩;have P2:=hid (P.out.call hb);have HB2:=hid (am HB.out hb);clear hb HC k3 h0 h1 h2 h3 h4 P HB;have k0:w2.cell? ⟨w.heap.size,0,none⟩=some (.int .i64 6):=P2.out.x.c0;go_wp2_with fail;clear k0
     go_roundw
     case rel=>exact⟨j+1,m+C,by rw[et,kS],by go_num,by omega,HI2,HB2,P2⟩
     case measure=>simp[intOf];omega
    ·have HF:Hid (m=Z):=hid (by
      have h:=HI.out;rw[List.drop_eq_nil_of_le (by omega:its.length≤j),eG]at h
      omega)
     go_wp2_with fail;go_ret;exact⟨aH (by rw[HF.out]),HB.out⟩
  ·have hg:=(bq its.length).1;have HZ2:Hid ((1+((grp its.length).length:Int))+((bQ (its.drop 0)+eR (nms.drop 0):Nat):Int)=Z):=hid (by rw[HZ.out];unfold dm;simp<;>omega);go_wp2_with fail;refine(jh its.length _ (by omega)).mono ?_;rintro e w1 ⟨v,rfl,hv,hb⟩;obtain⟨A2,c2,rfl⟩:=hv.slice;have P0:=hid (P0.out.call hb);have HB0:=hid (am HB0.out hb);clear hv hb;go_wp2_with fail
   go_loopw [3,4] (fun n i wr=> ∃(j:Nat) (m:Int),n= .int .i64 (wrap64 m)∧i= .int .i64 j∧j≤its.length∧Hid (m+((bQ (its.drop j)+eR (nms.drop j):Nat):Int)=Z)∧Hid (Below w.heap.size w wr)∧Hid (Vr wr S w.heap.size (.mk 7 num txs its nms) A c A' c')) (fun _ i _=>its.length - (intOf i).toNat)
   case atStart=>exact⟨0,1+((grp its.length).length:Int),by rw[bS (by omega) (by omega)],rfl,Nat.zero_le _,HZ2,HB0,P0⟩
   case round=>
    obtain⟨j,m,rfl,rfl,hj,HI,HB,P⟩:=hrel;clear P0 HB0;have k3:wr.cell? ⟨w.heap.size,3,none⟩=some (.slice A its.length c):=P.out.x.c3;by_cases hlt:j<its.length
    ·obtain⟨p,o,A2,e2,A3,e3,rfl,hp,h0,h1,h2,h3,h4,hx⟩:=gC hS A7.out HB.out j hlt;have HC:=hid (ih its[j] _ wr (Nat.le_trans (bT (List.getElem_mem hlt)) HD.out) (eg HML.out (List.getElem_mem hlt)) P.out.s hx);have ia:j<nms.length:=by have:=HK7.out (by simp);omega
     have HI2:Hid (m+aE its[j]+tsz nms[j]+((bQ (its.drop (j+1))+eR (nms.drop (j+1)):Nat):Int)=Z):=hid (by rw[←HI.out,nf hlt,vd ia];omega);generalize aE its[j]=C at *;clear hx hp HI;go_wp2_with fail;refine HC.out.mono ?_;rintro e w2 ⟨rfl,hb⟩;have P2:=hid (P.out.call hb);have HB2:=hid (am HB.out hb);clear hb HC k3 h0 h1 h2 h3 h4 P HB;have k0:w2.cell? ⟨w.heap.size,0,none⟩=some (.int .i64 7):=P2.out.x.c0;obtain⟨p',o',rfl,hp,t1,hsz⟩:=lE hS A6.out HB2.out j ia;have k4:w2.cell? ⟨w.heap.size,4,none⟩=some (.slice (some ⟨p',o',none⟩) nms.length c'):=P2.out.x.c4;have hl2:=LENS.out.2;obtain⟨sn,hs⟩: ∃s,s=nms[j]:=⟨_,rfl⟩;rw[←hs]at t1 hsz HI2;have HSZ:=hid hsz;clear hp hs hsz;go_wp2_with fail;refine(ky sn _ HSZ.out).mono ?_;rintro e w3 ⟨v,rfl,hv,hb⟩;obtain⟨A9,c9,rfl⟩:=hv.slice;have P3:=hid (P2.out.call hb);have HB3:=hid (am HB2.out hb);have HTL:=hid (oV sn);clear hv hb k4 t1 P2 HB2 k0;go_wp2_with fail
     go_roundw
     case rel=>exact⟨j+1,m+C+tsz sn,by rw[HTL.out,et,qh],by go_num,by omega,HI2,HB3,P3⟩
     case measure=>simp[intOf];omega
    ·have HF:Hid (m=Z):=hid (by
      have hne:nms.length≤j:=by have:=HK7.out (by simp);omega
      have h:=HI.out;rw[List.drop_eq_nil_of_le (by omega:its.length≤j),eG,List.drop_eq_nil_of_le hne,yi]at h
      omega)
     go_wp2_with fail;go_ret;exact⟨aH (by rw[HF.out]),HB.out⟩
theorem tn (S:Nat→Prop)(t:VT)(v:Value)(w:World)(hd:ac t≤4611686018427387903)(hS: ∀b,S b→b<w.heap.size)(h:LV w S t v):
  Calls Tryz.prog 25 #[v] w fun e w'=>e= .returned (.int .i64 (aG t))∧Below w.heap.size w w':=by
 obtain⟨A,c,A',c',rfl,-,-,-,v1,hb0⟩:=bV hS h;have P:=hid v1;have HB:=hid hb0;have HR:Hid (aG t=if ao t=true then(if 8<(ac t:Int)then 21 else if 4096<wrap64 (aE t)then 22 else 0)else 20):=hid rfl;obtain⟨R,hR⟩: ∃R,R=aG t:=⟨_,rfl⟩;rw[←hR]at HR ⊢;obtain⟨x,hx⟩: ∃x,x=ao t:=⟨_,rfl⟩;rw[←hx]at HR;have HX:=hid hx;have HD:=hid hd;clear h v1 hb0 hR hx hd;go_enter Tryz.func25,Tryz.ntmps25;go_wp2_with fail;refine(P.out.rmay HX.out).mono ?_;rintro e w1 ⟨rfl,hb⟩;have P1:=hid (P.out.call hb);have HB1:=hid (am HB.out hb);clear hb P HB;cases x
 ·have HF:Hid (R=20):=hid (by rw[HR.out];simp);clear HR HX P1;go_wp2_with fail;go_ret;exact⟨aH HF.out.symm,HB1.out⟩
 ·have HR2:Hid (R=if 8<(ac t:Int)then 21 else if 4096<wrap64 (aE t)then 22 else 0):=hid (by rw[HR.out];simp);have HDC:=hid (sl S 4611686018427387903 t _ w1 HD.out (Nat.le_refl _) P1.out.s P1.out.v);have q0:=P1.out.x.c0;have q1:=P1.out.x.c1;have q2:=P1.out.x.c2;have q3:=P1.out.x.c3;have q4:=P1.out.x.c4;clear HR;go_wp2_with fail;refine HDC.out.mono ?_;rintro e w2 ⟨rfl,hb⟩;have P2:=hid (P1.out.call hb);have HB2:=hid (am HB1.out hb);clear hb P1 HB1 HDC q0 q1 q2 q3 q4;by_cases h8:8<(ac t:Int)
  ·have HF:Hid (R=21):=hid (by rw[HR2.out,if_pos h8]);clear HR2 HX P2;go_wp2_with fail;go_ret;exact⟨aH HF.out.symm,HB2.out⟩
  ·have HR3:Hid (R=if 4096<wrap64 (aE t)then 22 else 0):=hid (by rw[HR2.out,if_neg h8]);have HSC:=hid (wB S (ac t) t _ w2 (Nat.le_refl _) HX.out.symm P2.out.s P2.out.v);have q0:=P2.out.x.c0;have q1:=P2.out.x.c1;have q2:=P2.out.x.c2;have q3:=P2.out.x.c3;have q4:=P2.out.x.c4;clear HR2 HX;go_wp2_with fail;refine HSC.out.mono ?_;rintro e w3 ⟨rfl,hb⟩;have HB3:=hid (am HB2.out hb);clear hb P2 HB2 HSC q0 q1 q2 q3 q4 h8;generalize wrap64 (aE t)=C at *;by_cases hz:4096<C
   ·have HF:Hid (R=22):=hid (by rw[HR3.out,if_pos hz]);clear HR3;go_wp2_with fail;go_ret;exact⟨aH HF.out.symm,HB3.out⟩
   ·have HF:Hid (R=0):=hid (by rw[HR3.out,if_neg hz]);clear HR3;go_wp2_with fail;go_ret;exact⟨aH HF.out.symm,HB3.out⟩
/-! ### a code is read -/
theorem vN (t:VT):1≤aE t:=by
 cases t with
 |mk k i s l ns=>
  unfold aE dm;have:=(bq (zig i)).2
  repeat' split
  all_goals omega
theorem oo : ∀ {l:List VT} {t:VT},t∈l→aE t≤bQ l
 |a::r,t,ht=>by
  unfold bQ;rcases List.mem_cons.1 ht with rfl|ht
  ·omega
  ·have:=oo ht;omega
theorem jv {t:VT}(hs:aE t≤9223372036854775807):aG t=0↔ao t=true∧ac t≤8∧aE t≤4096:=by
 have hw:wrap64 (aE t)=aE t:=by unfold wrap64;omega
 unfold aG;rw[hw]
 cases hm:ao t with
 |false=>simp
 |true=>
  simp only[if_true,true_and];constructor
  ·intro h
   split at h
   ·omega
   ·split at h
    ·omega
    ·constructor<;>omega
  ·rintro⟨h1,h2⟩;rw[if_neg (by omega),if_neg (by omega)]
abbrev K8 (w w':World):Prop:=Lib.OthersKept 5 Option.none w w'
end Go.Proofs.YtgbopnlpaabelaaGreatDoor
/- append, and where the new row lies. -/
namespace Go.Proofs.YtgbopnlpaabelaaGreatDoor
open Go
variable {P :Program} (w:World)
def qd (w:World)(v v':Value):Prop:=v'.ownBlock=v.ownBlock∨ ∃q,w.heap.size≤q∧v'.ownBlock=some q
theorem kl (base:Nat)(t ty e:TypeId)(i:TypeInfo)(z:Value)(size bytes:Nat)(ht:P.underlying t=some (.slice e))(hi:P.info? e=some i)(hz:i.zero=some z)
  (hsize:i.size=size) (hby:i.bytes=bytes) (hzs:z.cells.size=size) (hsz:0<size)
  (v:Value) (n:Nat) (xs:List Value) (hown:w.ownsRow base e size v n xs)
  (a:Addr) (m c:Nat) (news:List Value) (hl:news.length=m * size) (hnews: ∀j u,news[j]? =some u→w.cell? (a.add j)=some u) (h1: ∀u∈news,u.oneCell'=true)
  (h63:n+m≤maxLen) (hbytes:(n+m) * bytes≤140737488355328) (hbase:base≤w.heap.size):
  ∃v' w',(Builtin.append_ #[t,t] ty #[v,.slice (some a) m c]).run P w= .ok v' w'∧w'.ownsRow base e size v' (n+m) (xs++news)∧w.grownBy w' v.ownBlock∧qd w v v':=by
 obtain⟨v',w',hr,h2,h3,h4⟩:=run_append_own (P:=P) w base t ty e i z size bytes ht hi hz hsize hby hzs hsz v n xs hown a m c news hl hnews h1 h63 hbytes hbase;refine⟨v',w',hr,h2,h3,?_⟩;subst hsize
 subst hby
 have hsmall:n+m≤9223372036854775807:=by simp only[maxLen]at h63;omega
 rcases hown.2 with ⟨rfl,rfl⟩|⟨g,cap,cur,rfl,hbg,hg,hnc,hcm,hcs,htake⟩
 ·by_cases hm:m=0
  ·exact .inl (by rw[h4.2 ⟨rfl,hm⟩])
  ·have hr2:=run_append_nil (P:=P) w t ty e i z ht hi hz a m c news hl hnews (by omega) (by omega) (by have hb:=hbytes;simp only[Nat.zero_add]at hb;omega);rw[hr]at hr2;simp only[Result.ok.injEq]at hr2;exact .inr ⟨w.heap.size,Nat.le_refl _,by rw[hr2.1];rfl⟩
 ·by_cases hroom:n+m≤cap
  ·obtain⟨w2,hr2,-⟩:=run_append_fits (P:=P) w base t ty e i i.size ht hi rfl g n cap xs hown a m c news hl hnews h1 hroom;rw[hr]at hr2;simp only[Result.ok.injEq]at hr2;exact .inl (by rw[hr2.1];rfl)
  ·have holds: ∀j u,xs[j]? =some u→w.cell? ((⟨g,0,none⟩:Addr).add j)=some u:=hown.cells (g:=g) rfl;have hr2:=run_append_grow (P:=P) w t ty e i z ht hi hz ⟨g,0,none⟩ n cap xs hown.1 holds a m c news hl hnews (by omega) (by omega) (growslice_fits (by omega) hbytes);rw[hr]at hr2;simp only[Result.ok.injEq]at hr2;exact .inr ⟨w.heap.size,Nat.le_refl _,by rw[hr2.1];rfl⟩
theorem cS {o:Oper}{a:Act}{K:Act→World→Prop}{Q:Exit→Act→World→Prop}(s x:Operand)(t:TypeId)
  (ho:o.op= .call { callee:= .builtin .append,args:= #[s,x],argTypes:= #[t,t] })
  (base:Nat) (e:TypeId) (i:TypeInfo) (z:Value) (size bytes:Nat) (ht:P.underlying t=some (.slice e)) (hi:P.info? e=some i) (hz:i.zero=some z)
  (hsize:i.size=size) (hby:i.bytes=bytes) (hzs:z.cells.size=size) (hsz:0<size)
  (v:Value) (n:Nat) (xs:List Value) (hs:a.eval s=v) (hown:w.ownsRow base e size v n xs)
  (ad:Addr) (m c:Nat) (news:List Value) (hx:a.eval x= .slice (some ad) m c) (hl:news.length=m * size) (hnews: ∀j u,news[j]? =some u→w.cell? (ad.add j)=some u) (h1: ∀u∈news,u.oneCell'=true)
  (h63:n+m≤maxLen) (hbytes:(n+m) * bytes≤140737488355328) (hbase:base≤w.heap.size)
  (h: ∀v' w',w'.ownsRow base e size v' (n+m) (xs++news)→w.grownBy w' v.ownBlock→qd w v v'→K (a.put o.dst v') w'):o.wp P a w K Q:=by
 obtain⟨v',w',hr,h2,h3,h4⟩:=kl (P:=P) w base t o.type e i z size bytes ht hi hz hsize hby hzs hsz v n xs hown ad m c news hl hnews h1 h63 hbytes hbase;unfold Oper.wp execOp;simp only[ho,resolve,invoke,builtin,Sem.run_bind,Sem.run_pure,Result.andThen_ok,List.map_toArray,List.map_cons,List.map_nil,hs,hx,hr];exact h v' w' h2 h3 h4
end Go.Proofs.YtgbopnlpaabelaaGreatDoor
/- The decoder's parts: what is read, and the variable that a value is read into. -/
namespace Go.Proofs.YtgbopnlpaabelaaGreatDoor
open Go.RowKit
def aZ (B:Nat)(w:World):Nat→Prop:=fun b=>B≤b∧b<w.heap.size
def ui (vb bb:Nat)(w w':World):Prop:=w'.heap[vb]? =w.heap[vb]? ∧w'.heap[bb]? =w.heap[bb]?
theorem ui.refl (vb bb:Nat)(w:World):ui vb bb w w:=⟨rfl,rfl⟩
instance (vb bb:Nat) (w:World):Inhabited (af (ui vb bb) w):=⟨⟨w,ui.refl vb bb w⟩⟩
def ur (vb bb D:Nat)(w w':World):Prop:=w'.heap[vb]? =w.heap[vb]? ∧w'.heap[bb]? =w.heap[bb]? ∧w'.heap[D]? =w.heap[D]?
theorem ur.refl (vb bb D:Nat)(w:World):ur vb bb D w w:=⟨rfl,rfl,rfl⟩
instance (vb bb D:Nat) (w:World):Inhabited (af (ur vb bb D) w):=⟨⟨w,ur.refl vb bb D w⟩⟩
open Lib (hid)
def nF (o:OpT):Bool:=cm o.val || decide (50<o.path.length) || decide (50<o.to.length)
def cL (s:ba):Bool:=(s.ops.take 60).any nF || decide (50<s.ops.length) || cm s.doc
theorem sZ {s:ba}{k:Nat}(hk:k<s.ops.length)(h60:k<60)(h:nF s.ops[k]=true):cL s=true:=by
 unfold cL;rw[List.any_eq_true.2 ⟨s.ops[k],List.mem_take_iff_getElem.2 ⟨k,by omega,rfl⟩,h⟩];rfl
theorem pO {s:ba}{k:Nat}(h: ∀j (hj:j<s.ops.length),j<k→nF s.ops[j]=false)(hk:k=s.ops.length∨60≤k):cL s=(decide (50<s.ops.length) || cm s.doc):=by
 unfold cL
 rw[show(s.ops.take 60).any nF=false from List.any_eq_false.2 fun x hx=>by
  obtain⟨j,hj,rfl⟩:=List.mem_take_iff_getElem.1 hx;rw[h j (by omega) (by omega)]
  simp]
 rfl
theorem pB {s:ba}(h:cL s=false):s.ops.length≤50∧ac s.doc≤41∧ ∀o∈s.ops,ac o.val≤41∧o.path.length≤50∧o.to.length≤50:=by
 unfold cL at h;simp only[Bool.or_eq_false_iff,decide_eq_false_iff_not]at h;obtain⟨⟨h1,h2⟩,h3⟩:=h;refine⟨by omega,eL h3,fun o ho=> ?_⟩;rw[List.take_of_length_le (by omega)]at h1;have h4:=List.any_eq_false.1 h1 o ho;unfold nF at h4;simp only[Bool.or_eq_true,not_or,decide_eq_true_eq,Bool.not_eq_true]at h4;exact⟨eL h4.1.1,by omega,by omega⟩
theorem qv (S:Nat→Prop)(s:ba)(cs:Array Value)(w:World)(hS: ∀b,S b→b<w.heap.size)(h:cl w S s cs):
  Calls Tryz.prog 10 #[.agg cs] w fun e w'=>e= .returned (.bool (cL s))∧Below w.heap.size w w':=by
 have HL:=hid h;obtain⟨DA,dc,DA',dc',OA,oc,rfl,hv,ho,hoc,hol⟩:=h;obtain⟨w1,hw1⟩: ∃W,W=w.alloc (.cells #[.bool s.rep,.int .i64 s.doc.kind,.int .i64 s.doc.num,.string s.doc.text,.slice DA s.doc.items.length dc,.slice DA' s.doc.names.length dc',.slice OA s.ops.length oc] 28):=⟨_,rfl⟩;have hbk:qT w1 w.heap.size s DA dc DA' dc' OA oc:=by rw[hw1];exact heap_alloc_new w _
 have hb1:Below w.heap.size w w1:=by rw[hw1];exact(Below.refl _ _).alloc (Nat.le_refl _) _
 have hz1:w1.heap.size=w.heap.size+1:=by rw[hw1];simp
 have HB1:=hid hb1;have HBK:Hid (∀W,Below w1.heap.size w1 W→qT W w.heap.size s DA dc DA' dc' OA oc):=hid fun W hW=>hbk.below hW;have HO:=hid ho;have HV:=hid hv;have HS:=hid hS;have HOL:=hid hol;have HZ1:=hid hz1;obtain⟨r,hr⟩: ∃r,r=cL s:=⟨_,rfl⟩;have HR:=hid hr;rw[←hr];have HW1:=hid hw1;clear hbk hb1 hv ho hoc hol hS hr hz1;go_enter Tryz.func10,Tryz.ntmps10;go_wp2_with fail;rw[←hw1];clear hw1
 go_loopw [3] (fun i wr=> ∃k:Nat,i= .int .i64 k∧k≤s.ops.length∧k≤60∧Hid (Below w1.heap.size w1 wr)∧Hid (∀j (h:j<s.ops.length),j<k→nF s.ops[j]=false)) (fun i _=>s.ops.length - (intOf i).toNat)
 case atStart=>exact⟨0,rfl,by omega,by omega,hid (Below.refl _ _),hid fun j _ h=>absurd h (by omega)⟩
 case round=>
  obtain⟨k,rfl,hk,hk6,HB,HJ⟩:=hrel;have hbw:Below w.heap.size w wr:=HB1.out.trans (HB.out.mono HB1.out.size);have hbkw:=HBK.out wr HB.out;have y1:=Go.Joins.cell_of_block hbkw 1;have y2:=Go.Joins.cell_of_block hbkw 2;have y3:=Go.Joins.cell_of_block hbkw 3;have y4:=Go.Joins.cell_of_block hbkw 4;have y5:=Go.Joins.cell_of_block hbkw 5;have y6:=Go.Joins.cell_of_block hbkw 6;have HBW:=hid hbw;by_cases hlt:k<s.ops.length∧k<60
  ·obtain⟨hlt,h60⟩:=hlt;have d1:decide ((k:Int)<(s.ops.length:Int))=true:=decide_eq_true (by omega);have d2:decide ((k:Int)<60)=true:=decide_eq_true (by omega);have hS2: ∀b,S b→b<wr.heap.size:=fun b hb=>by have:=HS.out b hb;have:=hbw.size;omega
   obtain⟨p,off,rfl,hpS,c0,c1,c2,c3,c4,c5,c6,c7,ho,x0,x1,x2,x3,x4,x5,x6,x7⟩:=(HO.out.below' HS.out hbw).cells k hlt;obtain⟨PA,pc,a,b2,c',d,e,TA,tc,he,hlv,-,-,-,-,-,hpl,htl⟩:=ho;obtain⟨VA,vc,VA',vc',hvs,-⟩:=hlv.shape;simp only[Value.agg.injEq,Array.mk.injEq,List.cons.injEq,and_true]at he hvs;obtain⟨rfl,rfl,rfl,rfl,rfl,rfl,rfl,rfl⟩:=he;obtain⟨rfl,rfl,rfl,rfl,rfl⟩:=hvs;have HLG:=hid (fY S s.ops[k].val _ wr hS2 hlv);have HX:Hid (∀W,Below wr.heap.size wr W→W.cell? ⟨p,off+k * 8+1,none⟩=some (.slice PA s.ops[k].path.length pc)∧W.cell? ⟨p,off+k * 8+7,none⟩=some (.slice TA s.ops[k].to.length tc)):=hid fun W hW=>⟨(World.cell?_of_block (a:=⟨p,off+k * 8+1,none⟩) (hW.block p (hS2 p hpS))).trans x1,(World.cell?_of_block (a:=⟨p,off+k * 8+7,none⟩) (hW.block p (hS2 p hpS))).trans x7⟩;have HBO:Hid (nF s.ops[k]=(cm s.ops[k].val || decide (50<s.ops[k].path.length) || decide (50<s.ops[k].to.length))):=hid rfl;obtain⟨np,hnp⟩: ∃n,n=s.ops[k].path.length:=⟨_,rfl⟩;obtain⟨nt,hnt⟩: ∃n,n=s.ops[k].to.length:=⟨_,rfl⟩;obtain⟨lg,hlg⟩: ∃b,b=cm s.ops[k].val:=⟨_,rfl⟩;rw[←hnp,←hnt]at HX HBO;rw[←hlg]at HLG HBO;rw[←hnp]at x1;rw[←hnt]at x7;have HH:=hid (fun hb:nF s.ops[k]=true=>sZ hlt h60 hb);have H60:=hid h60;clear hlv hpS hpl htl hbw hbkw hnp hnt hlg h60;go_wp2_with fail;refine HLG.out.mono ?_;rintro e u ⟨rfl,hb⟩;have HB2:=hid (HB.out.trans (hb.mono HB.out.size));obtain⟨x1',x7'⟩:=HX.out u hb;have hbku:=HBK.out u HB2.out;clear x0 x1 x2 x3 x4 x5 x6 x7 y1 y2 y3 y4 y5 y6 hb HLG;have y6:=Go.Joins.cell_of_block hbku 6;have HBE:=hid (HB1.out.trans (HB2.out.mono HB1.out.size))
   clear hbku;cases lg;rotate_left
   ·have HT:Hid (cL s=true):=hid (HH.out (by rw[HBO.out];rfl));go_wp2_with fail;go_ret;exact⟨by rw[HR.out,HT.out];rfl,HBE.out⟩
   by_cases h50:50<np
   ·have d3:decide ((50:Int)<(np:Int))=true:=decide_eq_true (by omega);have HT:Hid (cL s=true):=hid (HH.out (by rw[HBO.out,decide_eq_true h50];rfl));clear h50;go_wp2_with fail;go_ret;exact⟨by rw[HR.out,HT.out];rfl,HBE.out⟩
   have d3:decide ((50:Int)<(np:Int))=false:=decide_eq_false (by omega);by_cases h51:50<nt
   ·have d4:decide ((50:Int)<(nt:Int))=true:=decide_eq_true (by omega);have HT:Hid (cL s=true):=hid (HH.out (by rw[HBO.out,decide_eq_true h51];simp));clear h50 h51;go_wp2_with fail;go_ret;exact⟨by rw[HR.out,HT.out];rfl,HBE.out⟩
   ·have d4:decide ((50:Int)<(nt:Int))=false:=decide_eq_false (by omega);have HT:Hid (nF s.ops[k]=false):=hid (by rw[HBO.out,decide_eq_false h50,decide_eq_false h51];rfl);clear h50 h51;go_wp2_with fail
    go_roundw
    case rel=>exact⟨k+1,by go_num,by omega,by have:=H60.out;omega,HB2,hid fun j h hjk=>by
     by_cases e:j=k
     ·subst e;exact HT.out
     ·exact HJ.out j h (by omega)⟩
    case measure=>simp[intOf];omega
  ·have HM:Hid (cL s=(decide (50<s.ops.length) || cm s.doc)):=hid (pO HJ.out (by omega));have HLG:=hid (fY S s.doc _ wr (fun b hb=>by have:=HS.out b hb;have:=hbw.size;omega) (HV.out.keep fun b hb=>hbw.block b (HS.out b hb)));have hcut:(k<s.ops.length∧ ¬k<60)∨ ¬k<s.ops.length:=by omega
   obtain⟨lg,hlg⟩: ∃b,b=cm s.doc:=⟨_,rfl⟩;rw[←hlg]at HLG HM;obtain⟨n,hn⟩: ∃n,n=s.ops.length:=⟨_,rfl⟩;rw[←hn]at HM hcut y6;clear hbw hbkw hlg hlt hn hk;by_cases h50:50<n
   ·have d3:decide ((50:Int)<(n:Int))=true:=decide_eq_true (by omega);have HE:Hid (cL s=true):=hid (by rw[HM.out,decide_eq_true h50];rfl);clear h50;rcases hcut with ⟨c1,c2⟩|c1
    ·have d1:decide ((k:Int)<(n:Int))=true:=decide_eq_true (by omega);have d2:decide ((k:Int)<60)=false:=decide_eq_false (by omega);go_wp2_with fail;go_ret;exact⟨by rw[HR.out,HE.out];rfl,HBW.out⟩
    ·have d1:decide ((k:Int)<(n:Int))=false:=decide_eq_false (by omega);go_wp2_with fail;go_ret;exact⟨by rw[HR.out,HE.out];rfl,HBW.out⟩
   ·have d3:decide ((50:Int)<(n:Int))=false:=decide_eq_false (by omega);have HE:Hid (cL s=lg):=hid (by rw[HM.out,decide_eq_false h50];rfl);clear h50;rcases hcut with ⟨c1,c2⟩|c1
    ·have d1:decide ((k:Int)<(n:Int))=true:=decide_eq_true (by omega);have d2:decide ((k:Int)<60)=false:=decide_eq_false (by omega);go_wp2_with fail;refine HLG.out.mono ?_;rintro e u ⟨rfl,hb⟩;have HB2:=hid (HBW.out.trans (hb.mono HBW.out.size));clear hb HLG;go_wp2_with fail;go_ret;exact⟨by rw[HR.out,HE.out];rfl,HB2.out⟩
    ·have d1:decide ((k:Int)<(n:Int))=false:=decide_eq_false (by omega);go_wp2_with fail;refine HLG.out.mono ?_;rintro e u ⟨rfl,hb⟩;have HB2:=hid (HBW.out.trans (hb.mono HBW.out.size));clear hb HLG;go_wp2_with fail;go_ret;exact⟨by rw[HR.out,HE.out];rfl,HB2.out⟩
theorem qL (ns:List ByteArray):cn ns=true↔1≤ns.length∧ns.length≤8∧ ∀s∈ns,bI s.data.toList=true:=by
 unfold cn;simp only[Bool.and_eq_true,decide_eq_true_eq,List.all_eq_true];exact⟨fun h=>⟨h.1.1,h.1.2,h.2⟩,fun h=>⟨⟨h.1,h.2.1⟩,h.2.2⟩⟩
end Go.Proofs.YtgbopnlpaabelaaGreatDoor
