/- Whether two places of an update meet, by the program: the loop over the places. -/
import Derived.Test.YtgbopnlpaabelaaGreatDoorKSpD
import Derived.Test.YtgbopnlpaabelaaGreatDoorKRefM
import Derived.Test.YtgbopnlpaabelaaGreatDoorKValF
import Derived.Test.YtgbopnlpaabelaaGreatDoorKValQ
import Derived.Test.YtgbopnlpaabelaaGreatDoorKTrA
import Derived.Test.YtgbopnlpaabelaaGreatDoorKRefO
import Derived.Test.YtgbopnlpaabelaaGreatDoorKMath
import Derived.Lib.OthersKept
import Derived.Laws.AppendOwnNone
import Derived.Outline
import Derived.Laws.OwnMore
import Derived.Laws.AppendOwn
set_option maxHeartbeats 64000000
set_option maxRecDepth 100000
set_option linter.unusedVariables false
set_option linter.unusedSimpArgs false
namespace Go.Proofs.YtgbopnlpaabelaaGreatDoor
open Lib (hid)
open Go.RowKit Go.Shelf
attribute [local go_sem] Oper.semAt_some
theorem Tryz.infoStrsR :(Tryz.prog.info? 23).map (fun i=>(i.zero,i.size,i.bytes))=some (some (.slice none 0 0),1,24):=by kernel_rfl
def iZ {l:List OpT}(pre:List (PlX l)):List (List ByteArray):=pre.map fun x=>plT l x.1
def sM {l:List OpT}(w3:World)(b off:Nat)(pre:List (PlX l)):List Value:=pre.map fun x=>plV w3 b off x.1
theorem uU {l:List OpT}(pre:List (PlX l)):iZ pre=(lY pre).map (plT l):=by simp[iZ,lY]
def AW (w w3:World)(b off:Nat)(l:List OpT)(pre:List (PlX l))(W:World):Prop:= ∃A c,
 W.heap[w.heap.size]? =some (.cells #[.bool false] 4 (0,0))∧W.heap[w.heap.size+1]? =some (.cells #[.slice A pre.length c] 72 (0,0))∧
 W.ownsRow (w.heap.size+3) 23 1 (.slice A pre.length c) pre.length (sM w3 b off pre)∧w.heap.size+3≤W.heap.size∧Below w.heap.size w W∧cm [] (iZ pre)=false
def BD (w:World)(l:List OpT)(c:Code)(pre:List (PlX l))(W:World):Prop:=c= .ret∧cm [] (iZ pre)=true∧W.heap[w.heap.size]? =some (.cells #[.bool true] 4 (0,0))∧w.heap.size+3≤W.heap.size∧Below w.heap.size w W
theorem cY {W W':World}{row:Option Nat}{B:Nat}{t:TypeId}{k:Nat}{v:Value}{n:Nat}{xs:List Value}(h:W.ownsRow B t k v n xs)(hg:W.grownBy W' row)(hr: ∀r,row=some r→ ∃o:Obj,W.heap[r]? =some o∧o.isCells=false):W'.ownsRow B t k v n xs:=by
 obtain⟨h1,h2⟩:=h;refine⟨h1,?_⟩;rcases h2 with h2|⟨g,cap,cur,hv,hB,hh,r⟩
 ·exact Or.inl h2
 ·exact Or.inr ⟨g,cap,cur,hv,hB,(grownBy_keeps_cells hg hr hh rfl).trans hh,r⟩
theorem yW (w w3:World)(b off:Nat)(l:List OpT)(B:Nat)(hB:w.heap.size+3≤B):OwnFrom B (AW w w3 b off l):=by
 rintro pre W W' row ⟨A,c,h1,h2,h3,h4,h5,h6⟩ hg hr;exact⟨A,c,(grownBy_keeps_cells hg (fun r e=>(hr r e).2) h1 rfl).trans h1,(grownBy_keeps_cells hg (fun r e=>(hr r e).2) h2 rfl).trans h2,cY h3 hg (fun r e=>(hr r e).2),Nat.le_trans h4 hg.size,h5.grown hg h5.size (fun k e=>Nat.le_trans (by omega) (hr k e).1),h6⟩
theorem yQ (w:World)(l:List OpT)(c:Code)(B:Nat)(hB:w.heap.size+3≤B):OwnFrom B (BD w l c):=by
 rintro pre W W' row ⟨h0,h4,h1,h2,h3⟩ hg hr;exact⟨h0,h4,(grownBy_keeps_cells hg (fun r e=>(hr r e).2) h1 rfl).trans h1,Nat.le_trans h2 hg.size,h3.grown hg h3.size (fun k e=>Nat.le_trans (by omega) (hr k e).1)⟩
def Bx (T:Nat→Value→Act)(w3:World)(b off:Nat){l:List OpT}(x:PlX l)(a':Act)(W:World):Prop:=
 ∃gx,a'=T gx (plV w3 b off x.1)∧W.heap[gx]? =some (.cells #[plV w3 b off x.1] 23 (0,0))∧w3.heap.size≤gx
theorem yu (T:Nat→Value→Act)(w3:World)(b off:Nat){l:List OpT}(x:PlX l)(a':Act)(B:Nat):OwnFrom B (fun(_:Unit) W=>Bx T w3 b off x a' W):=by
 rintro _ W W' row ⟨gx,h1,h2,h3⟩ hg hr;exact⟨gx,h1,(grownBy_keeps_cells hg (fun r e=>(hr r e).2) h2 rfl).trans h2,h3⟩
theorem uu {W:World}{S:Nat→Prop}{B:Nat}{A:Option Addr}{c:Nat}{vs:List Value}{qs:List (List ByteArray)}(h:W.ownsRow B 23 1 (.slice A qs.length c) qs.length vs)(hq: ∀i (h:i<qs.length),∃v,vs[i]? =some v∧SlP W S v qs[i]):ly W S A qs:=by
 intro hp;rcases h.2 with ⟨-,h0⟩|⟨g,cap,cur,hv2,hB,hh,-⟩
 ·omega
 ·have hcell:=fun i u hu=>World.ownsRow.cells (g:=g) h (by rw[hv2];rfl) i u hu;injection hv2 with hA
  subst hA;refine⟨g,0,rfl,(Array.getElem?_eq_some_iff.1 hh).1,fun i hi=> ?_⟩;obtain⟨v,h1,h2⟩:=hq i hi;refine⟨v,?_,h2⟩;have:=hcell i v h1;rw[cq]at this;exact this
theorem kw {W:World}{B:Nat}{v:Value}{n:Nat}{vs:List Value}(h:W.ownsRow B 23 1 v n vs): ∀g,v.ownBlock=some g→B≤g∧ ∃cur fr,W.heap[g]? =some (.cells cur 23 fr):=by
 intro g hg;rcases h.2 with ⟨rfl,-⟩|⟨g',cap,cur,rfl,hB,hh,-⟩
 ·cases hg
 ·have e:g'=g:=by injection hg
  subst e;exact⟨hB,_,_,hh⟩
theorem iS {W:World}{B:Nat}{t:TypeId}{k:Nat}{v:Value}{n:Nat}{xs:List Value}(h:W.ownsRow B t k v n xs): ∃A c,v= .slice A n c:=by
 rcases h.2 with ⟨rfl,h0⟩|⟨g,cap,cur,rfl,-⟩
 ·exact⟨none,0,by rw[h0]⟩
 ·exact⟨_,cap,rfl⟩
theorem od (S:Nat→Prop)(OA:Option Addr)(oc:Nat)(l:List OpT)(w:World)(hS: ∀b,S b→b<w.heap.size)(ho:dQ w S OA l)(hlen:l.length≤100000):
  Calls Tryz.prog 59 #[.slice OA l.length oc] w fun e w'=>e= .returned (.bool (cm [] (aD l)))∧Below w.heap.size w w':=by
 have hmf: ∀(fn:Fn) (first cap:Array Value) (w:World),(Instr.makeFunc fn first cap).run Tryz.prog w= .ok (.func fn first cap) w:=fun _ _ _ _=>rfl;obtain⟨b,off,hbo⟩:=ho.at';have HS:=hid hS;have HO:=hid ho;obtain⟨r,hr⟩: ∃r,r=cm [] (aD l):=⟨_,rfl⟩;rw[←hr];have HR:=hid hr;obtain⟨n,hn⟩: ∃n,n=l.length:=⟨_,rfl⟩;rw[←hn];have HN:=hid hn;clear hS ho hr hn;refine(callsIn_wide (n:=8)).1 ?_;refine callsIn_of_wp_marks Tryz.func59 rfl trivial ?_ rfl;simp only[Tryz.ntmps59,List.size_toArray,List.length_cons,List.length_nil,Nat.reduceAdd,Nat.reduceSub,Array.replicate_succ,Array.replicate_zero,List.push_toArray,List.append_toArray,List.nil_append,List.cons_append]
 gi_wp2
 refine⟨trivial,?_⟩;refine(yJ Fence.wide 7 trivial rfl _ _ _ _).mono ?_;rintro e w' ⟨rfl,rfl⟩
 gi_wp2
 have hr1:(((w.alloc (.cells #[.bool false] 4)).alloc (.cells #[.slice none 0 0] 72)).alloc (.cells #[.slice OA n oc] 26)).heap[w.heap.size]? =some (.cells #[.bool false] 4 (0,0)):=((((Below.refl _ _).alloc (Nat.le_refl _) _:Below (w.alloc (.cells #[.bool false] 4)).heap.size _ _).alloc (by simp) _).block _ (by simp)).trans (heap_alloc_new w _)
 have hr2:(((w.alloc (.cells #[.bool false] 4)).alloc (.cells #[.slice none 0 0] 72)).alloc (.cells #[.slice OA n oc] 26)).heap[w.heap.size+1]? =some (.cells #[.slice none 0 0] 72 (0,0)):=by
  have h1:=heap_alloc_new (w.alloc (.cells #[.bool false] 4)) (.cells #[.slice none 0 0] 72);rw[show(w.alloc (.cells #[.bool false] 4)).heap.size=w.heap.size+1 from by simp]at h1;exact(((Below.refl _ _).alloc (Nat.le_refl _) _:Below ((w.alloc (.cells #[.bool false] 4)).alloc (.cells #[.slice none 0 0] 72)).heap.size _ _).block _ (by simp)).trans h1
 have hb3:Below w.heap.size w (((w.alloc (.cells #[.bool false] 4)).alloc (.cells #[.slice none 0 0] 72)).alloc (.cells #[.slice OA n oc] 26)):=(((Below.refl _ _).alloc (Nat.le_refl _) _).alloc (by simp) _).alloc (by simp;omega) _;have hz3:(((w.alloc (.cells #[.bool false] 4)).alloc (.cells #[.slice none 0 0] 72)).alloc (.cells #[.slice OA n oc] 26)).heap.size=w.heap.size+3:=by simp
 have hs3:(((w.alloc (.cells #[.bool false] 4)).alloc (.cells #[.slice none 0 0] 72)).alloc (.cells #[.slice OA n oc] 26)).cell? ⟨w.heap.size+2,0,none⟩=some (.slice OA n oc):=by
  have h9:=Go.Joins.cell_of_block (heap_alloc_new ((w.alloc (.cells #[.bool false] 4)).alloc (.cells #[.slice none 0 0] 72)) (.cells #[.slice OA n oc] 26)) 0;rw[show((w.alloc (.cells #[.bool false] 4)).alloc (.cells #[.slice none 0 0] 72)).heap.size=w.heap.size+2 from by simp]at h9;exact h9
 generalize (((w.alloc (.cells #[.bool false] 4)).alloc (.cells #[.slice none 0 0] 72)).alloc (.cells #[.slice OA n oc] 26))=w3 at *;rw[HN.out]at hs3;have ho3:dQ w3 S OA l:=HO.out.below' HS.out hb3;have HO3:=hid ho3;have h0:AW w w3 b off l [] w3:=⟨none,0,hr1,hr2,World.ownsRow_nil _ _ _ _,by omega,hb3,rfl⟩;have HSb:Hid (∀b,S b→b<w.heap.size+3∧ ¬(b=w.heap.size∨b=w.heap.size+1)):=hid fun b hb=>by have:=HS.out b hb;omega
 have HSW:Hid (∀(W:World),Below w.heap.size w W→ ∀b,S b→W.heap[b]? =w3.heap[b]?):=hid fun W hW b hb=>(hW.block b (HS.out b hb)).trans (hb3.block b (HS.out b hb)).symm;obtain⟨i0,hi,hz0,hz1,hz2⟩:=info_parts Tryz.infoStrsR;clear hr1 hr2 hb3
 refine wpIn_rangeFunc_ownH rfl (by omega) (gf:=143) (lb:= #[.pointer (some ⟨w.heap.size+2,0,none⟩)]) rfl trivial (enters_of Tryz.func143 (by kernel_rfl) rfl)
  (jF Fence.wide 7 trivial rfl (by omega) (w.heap.size+2) (w.heap.size+3) (fun b=>b=w.heap.size∨b=w.heap.size+1) S OA oc l b off hbo (by omega) ⟨by omega,by omega⟩ HSb.out w3 (by omega) hs3 ho3) KpO.trans (AK (by omega)) (Below.refl _ _) (fun _=>rfl)
  (AW w w3 b off l) (BD w l) (yW w w3 b off l _ (by omega)) (fun c=>yQ w l c _ (by omega)) h0
  (Bx (fun gx pv=> { tmps:= #[.slice OA n oc,undef,.pointer (some ⟨w.heap.size,0,none⟩),.pointer (some ⟨w.heap.size+1,0,none⟩),.pointer (some ⟨gx,0,none⟩),.slice OA n oc,.func (.func 143) #[] #[.pointer (some ⟨w.heap.size+1+1,0,none⟩)],pv,undef,undef,undef,undef,undef,undef,undef],defers:=[] }) w3 b off) (fun x a'=>yu _ w3 b off x a' _) ?assign ?body ?done ?stop
 case assign=>
  intro y pre x W K hI hK;have hlt:=mh l x.2;obtain rfl:=hbo (by omega);obtain⟨PA,pc,hv,-⟩:=tw HO3.out x.1 hlt;have HK:=hid hK;have HI:=hid hI;clear hK hI;have HV:=hid hv;rw[hv]
  gi_wp2
  have hsz:=HI.out;obtain⟨A,c,i1,i2,i3,i4,i5,i6⟩:=hsz;have hbW:Below W.heap.size W (W.alloc (.cells #[.slice PA (plT l x.1).length pc] 23)):=(Below.refl _ _).alloc (Nat.le_refl _) _;refine HK.out _ _ ((KeepsOthers.alloc W _).from _) (KpO.of_below hbW (by omega)) ⟨A,c,(hbW.block _ (by omega)).trans i1,(hbW.block _ (by omega)).trans i2,cY i3 (World.grownBy_alloc W _ none) (fun r e=>by cases e),by have:=hbW.size;omega,i5.trans (hbW.mono i5.size),i6⟩ ⟨W.heap.size,?_,?_,by omega⟩
  ·rw[HV.out]
  ·rw[HV.out];exact heap_alloc_new W _
 case body=>
  rintro y pre x a' W hyl hyr ⟨A,c,i1,i2,i3,i4,i5,i6⟩ ⟨gx,rfl,hgx,hgl⟩ hlen2;have hlt:=mh l x.2;obtain rfl:=hbo (by omega)
  have hpls: ∀z:PlX l,SlP W S (plV w3 b off z.1) (plT l z.1):=fun z=>by
   obtain⟨PA,pc,hv,hst,hc,hl⟩:=tw HO3.out z.1 (mh l z.2);exact⟨PA,pc,hv,hst.keep fun k hk=>HSW.out W i5 k hk,hc,hl⟩
  have hSW: ∀b,S b→b<W.heap.size:=fun k hk=>by have:=HS.out k hk;omega
  have hg0:=Go.Joins.cell_of_block hgx 0;have hlp:(iZ pre).length=pre.length:=by simp[iZ]
  have hrow:ly W S A (iZ pre):=uu (by rw[hlp];exact i3) (fun i hi=>by
   rw[hlp]at hi;refine⟨plV w3 b off pre[i].1,by simp[sM,hi],?_⟩;have:=hpls pre[i]
   simpa[iZ]using this)
  have hcs:=sO S (plT l x.1) (plV w3 b off x.1) gx A c (iZ pre) W hSW (Array.getElem?_eq_some_iff.1 hgx).1 hg0 (hpls x) hrow (by rw[hlp];omega);rw[hlp]at hcs;have HC:=hid hcs;have HPX:=hid (hpls x);have HI:=hid (And.intro i1 (And.intro i2 (And.intro i3 (And.intro i4 (And.intro i5 (And.intro i6 (And.intro hgx hgl)))))));have y1:=Go.Joins.cell_of_block i2 0;obtain⟨PA,pc,hv,-⟩:=hpls x;have HV:=hid hv;rw[hv];clear i1 i2 i3 i5 i6 hgx hg0 hrow hcs hpls hv
  gi_wp2
  refine⟨trivial,?_⟩;refine(CallsIn.inRound y (callsIn_wide.2 HC.out)).mono ?_;rintro e W2 ⟨rfl,hb2⟩;clear y1;obtain⟨i1,i2,i3,i4,i5,i6,hgx,hgl⟩:=HI.out;rw[HV.out]at hgx;have hb02:=i5.trans (hb2.mono i5.size);have hgxl:=(Array.getElem?_eq_some_iff.1 hgx).1;have j1:=(hb2.block _ (by omega)).trans i1;have j2:=(hb2.block _ (by omega)).trans i2;have jx:=(hb2.block gx hgxl).trans hgx;have j3:=cY (row:=none) i3 ⟨hb2.os,hb2.tape,hb2.output,hb2.size,fun k hk _=>hb2.block k hk⟩ (fun r e=>by cases e);have hko:KeepsOthers W W2:=KeepsOthers.of_grownBy (row:=none) ⟨hb2.os,hb2.tape,hb2.output,hb2.size,fun k hk _=>hb2.block k hk⟩ (fun j o e=>by cases e);have HJ:=hid (And.intro j1 (And.intro j2 (And.intro j3 (And.intro hb02 (And.intro hko hb2)))));have z0:=Go.Joins.cell_of_block j1 0;have zf:=fun i=>Go.Joins.unfrozen_of_block j1 i;have z1:=Go.Joins.cell_of_block j2 0;have z1f:=fun i=>Go.Joins.unfrozen_of_block j2 i;have zx:=Go.Joins.cell_of_block jx 0;have hs2:=hb2.size;cases hm:(iZ pre).any fun q=>cK (plT l x.1) q
  ·have HM:=hid hm
   have hne: ∀k,k<w.heap.size+3→some k≠(Value.slice A pre.length c).ownBlock:=fun k hk e=>by
    have:=(kw j3 k e.symm).1;omega
   have hjr: ∀X:Obj,(W2.alloc X).ownsRow (w.heap.size+3) 23 1 (.slice A pre.length c) pre.length (sM w3 b off pre):=fun X=>cY j3 (World.grownBy_alloc W2 X none) (fun r e=>by cases e)
   have hj2: ∀(X:Obj) (w4:World),(W2.alloc X).grownBy w4 (Value.slice A pre.length c).ownBlock→w4.heap[w.heap.size+1]? =some (.cells #[.slice A pre.length c] 72 (0,0)):=fun X w4 hg4=>
    (hg4.block (w.heap.size+1) (by simp;omega) (hne _ (by omega))).trans ((((Below.refl _ _).alloc (Nat.le_refl _) _:Below W2.heap.size W2 (W2.alloc X)).block _ (by omega)).trans j2)
   have HNEK:=hid hne;have HJ2:=hid hj2;clear hm HC j1 j2 jx j3 hb02 hko hb2 i1 i2 i3 i5 i6 hgx hne hj2
   gi_wp2_with (gi_at_builtin;refine wpListIn_append_own _ rfl _ _ 72 rfl (w.heap.size+3) 23 i0 (.slice none 0 0) 1 24 Tryz.underlying72 hi hz0 hz1 hz2 rfl (by decide) _ pre.length (sM w3 b off pre) rfl (hjr _) ⟨W2.heap.size,0,none⟩ 1 1 [.slice PA (plT l x.1).length pc] rfl rfl (cell_one_new _ _ _) (by simp[Value.oneCell']) (by unfold maxLen;omega) (by omega) (by simp;omega) ?_;intro v' w4 hown' hg4 hnil4;obtain⟨A',c',rfl⟩:=iS hown';have k2:=HJ2.out _ _ hg4;have k2c:=Go.Joins.cell_of_block k2 0;have k2f:=fun i=>Go.Joins.unfrozen_of_block k2 i;have HOW:=hid (And.intro hown' (And.intro hg4 k2));clear hown' hg4 hnil4 k2)
   obtain⟨hown',hg4,k2⟩:=HOW.out;obtain⟨j1,j2,j3,hb02,hko,hb2⟩:=HJ.out;obtain⟨-,-,-,-,-,i6,-,-⟩:=HI.out;have hal:Below W2.heap.size W2 (W2.alloc (.cells #[.slice PA (plT l x.1).length pc] 23)):=(Below.refl _ _).alloc (Nat.le_refl _) _;obtain⟨hbox,hg5,hz5⟩:=ki k2 (.slice A' (pre.length+1) c');have hsame: ∀k,k<w.heap.size+3→k≠w.heap.size+1→(w4.setCell ⟨w.heap.size+1,0,none⟩ (.slice A' (pre.length+1) c')).heap[k]? =W2.heap[k]? :=fun k hk hn=>(hg5.block k (by have:=hg4.size;simp at this;omega) (fun e=>by injection e;omega)).trans ((hg4.block k (by simp;omega) (HNEK.out k hk)).trans (hal.block k (by omega)));have hrt:=kw j3
   have hk4:KeepsOthers W2 w4:=by
    refine KeepsOthers.trans (KeepsOthers.of_grownBy (row:=none) ⟨hal.os,hal.tape,hal.output,hal.size,fun k hk _=>hal.block k hk⟩ (fun j o e=>by cases e)) (KeepsOthers.of_grownBy hg4 fun j o e h=> ?_);obtain⟨-,cur,fr,hc⟩:=hrt j e;have h2:=(hal.block j (Array.getElem?_eq_some_iff.1 hc).1).trans hc;rw[h2]at h;injection h with h
    rw[←h];rfl
   have hk5:KeepsOthers w4 (w4.setCell ⟨w.heap.size+1,0,none⟩ (.slice A' (pre.length+1) c')):=KeepsOthers.of_grownBy hg5 fun j o e h=>(by injection e with e;subst e;rw[k2]at h;injection h with h;rw[←h];rfl);have hs4:W2.heap.size+1≤w4.heap.size:=by have:=hg4.size;simpa using this
   have htA: ∀(k:Nat) (cs:Array Value) (fr:Nat×Nat),W2.heap[k]? =some (.cells cs 51 fr)→(w4.setCell ⟨w.heap.size+1,0,none⟩ (.slice A' (pre.length+1) c')).heap[k]? =some (.cells cs 51 fr):=fun k cs fr hc=>by
    have hkl:=(Array.getElem?_eq_some_iff.1 hc).1;refine(hg5.block k (by omega) (fun e=> ?_)).trans ((hg4.block k (by simp;omega) (fun e=> ?_)).trans ((hal.block k hkl).trans hc))
    ·injection e with e
     subst e;rw[j2]at hc;injection hc with hc
     injection hc with _ ht _
     exact absurd ht (by decide)
    ·obtain⟨-,cur,fr',hc2⟩:=hrt k e.symm;rw[hc2]at hc;injection hc with hc
     injection hc with _ ht _
     exact absurd ht (by decide)
   refine⟨KeepsOthers.from ((hko.trans hk4).trans hk5) _,⟨by have:=hb2.size;omega,fun k hk hn=>(hsame k hk (fun e=>hn (.inr e))).trans (hb2.block k (by omega)),fun k cs fr hc=>htA k cs fr ((hb2.block k (Array.getElem?_eq_some_iff.1 hc).1).trans hc)⟩,A',c',(hsame _ (by omega) (by omega)).trans j1,?_,?_,by omega,⟨hg5.os.trans (hg4.os.trans (hal.os.trans hb02.os)),hg5.tape.trans (hg4.tape.trans (hal.tape.trans hb02.tape)),hg5.output.trans (hg4.output.trans (hal.output.trans hb02.output)),by have:=hb02.size;omega,fun k hk=>(hsame k (by omega) (by omega)).trans (hb02.block k hk)⟩,?_⟩
   ·rw[List.length_append,List.length_singleton];exact hbox
   ·rw[List.length_append,List.length_singleton,show sM w3 b off (pre++[x])=sM w3 b off pre++[.slice PA (plT l x.1).length pc] by simp[sM,HV.out]];obtain⟨o1,o2⟩:=hown';refine⟨o1,?_⟩;rcases o2 with o2|⟨g,cap,cur,hv',hB,hh,rr⟩
    ·exact Or.inl o2
    ·exact Or.inr ⟨g,cap,cur,hv',hB,(hg5.block g (Array.getElem?_eq_some_iff.1 hh).1 (fun e=>by injection e;omega)).trans hh,rr⟩
   ·rw[show iZ (pre++[x])=iZ pre++[plT l x.1] by simp[iZ],jo,List.nil_append,HM.out,i6];rfl
  ·have HM:=hid hm;clear hm HC j1 j2 jx j3 hb02 hko hb2 i1 i2 i3 i5 i6 hgx
   gi_wp2
   obtain⟨j1,j2,j3,hb02,hko,hb2⟩:=HJ.out;obtain⟨-,-,-,-,-,i6,-,-⟩:=HI.out;obtain⟨hbox,hg5,hz5⟩:=ki j1 (.bool true);refine⟨KeepsOthers.from (hko.trans (KeepsOthers.of_grownBy hg5 fun j o e h=>(by injection e with e;subst e;rw[j1]at h;injection h with h;rw[←h];rfl))) _,rfl,?_,hbox,by omega,⟨hg5.os.trans hb02.os,hg5.tape.trans hb02.tape,hg5.output.trans hb02.output,by have:=hg5.size;omega,fun k hk=>(hg5.block k (by omega) (fun e=>by injection e;omega)).trans (hb02.block k hk)⟩⟩;rw[show iZ (pre++[x])=iZ pre++[plT l x.1] by simp[iZ],jo,List.nil_append,HM.out,Bool.or_true]
 case done=>
  rintro D ys W hD hys ⟨A,c,i1,i2,i3,i4,i5,i6⟩ hK
  have hf:r=false:=by
   rw[HR.out,←iA,←hys,←uU];exact i6
  subst hf;have y0:=Go.Joins.cell_of_block i1 0;have yf:=fun i=>Go.Joins.unfrozen_of_block i1 i;have HV:=hid (And.intro i1 (And.intro i4 i5));have HKD:=hid hK;clear i1 i2 i3 i4 i5 i6 hK hys
  gi_wp2
  obtain⟨i1,i2,i3⟩:=HV.out;obtain⟨hbox,hg5,hz5⟩:=ki i1 (.bool false);generalize W.setCell ⟨w.heap.size,0,none⟩ (.bool false)=W5 at *;have hDW:D<W.heap.size:=(Array.getElem?_eq_some_iff.1 HKD.out).1;have hK5:W5.heap[D]? =some (.deferred (some [])):=(hg5.block D hDW (fun e=>by injection e;omega)).trans HKD.out;have hg6:=grownBy_putObj' W5 D (.deferred none);have hbox6:(W5.putObj D (.deferred none)).heap[w.heap.size]? =some (.cells #[.bool false] 4 (0,0)):=(hg6.block _ (by omega) (fun e=>by injection e;omega)).trans hbox;refine⟨by simp,.inl ⟨_,_,rfl,run_takeDeferred hK5,?_⟩⟩;refine⟨_,dw rfl _ _ w.heap.size false rfl hbox6,rfl,?_⟩;exact⟨hg6.os.trans (hg5.os.trans i3.os),hg6.tape.trans (hg5.tape.trans i3.tape),hg6.output.trans (hg5.output.trans i3.output),by have:=hg6.size;omega,fun b hb=>(hg6.block b (by omega) (fun e=>by injection e;omega)).trans ((hg5.block b (by omega) (fun e=>by injection e;omega)).trans (i3.block b hb))⟩
 case stop=>
  rintro D c' pre W hD ⟨rest,hrest⟩ ⟨rfl,hcf,hbox,h2,h3⟩ hK
  have hf:r=true:=by
   rw[HR.out,←iA,←hrest,List.map_append,←uU];exact oT _ _ _ hcf
  subst hf;have HKD:=hid hK;have HV:=hid (And.intro hbox (And.intro h2 h3));clear hK hcf hrest hbox h2 h3
  gi_wp2
  obtain⟨hbox,h2,h3⟩:=HV.out;have hDW:D<W.heap.size:=(Array.getElem?_eq_some_iff.1 HKD.out).1;have hg6:=grownBy_putObj' W D (.deferred none);have hbox6:=(hg6.block w.heap.size (by omega) (fun e=>by injection e;omega)).trans hbox;refine⟨by simp,.inl ⟨_,_,rfl,run_takeDeferred HKD.out,?_⟩⟩;refine⟨_,dw rfl _ _ w.heap.size true rfl hbox6,rfl,?_⟩;exact⟨hg6.os.trans h3.os,hg6.tape.trans h3.tape,hg6.output.trans h3.output,by have:=hg6.size;omega,fun b hb=>(hg6.block b (by omega) (fun e=>by injection e;omega)).trans (h3.block b hb)⟩
end Go.Proofs.YtgbopnlpaabelaaGreatDoor
/- What keeps an update from being one, by the program. -/
namespace Go.Proofs.YtgbopnlpaabelaaGreatDoor
open Lib (hid)
open Go.RowKit
theorem nr {p:List ByteArray}(h:ce p=true):0<p.length:=by
 unfold ce at h;simp at h;omega
theorem fT {s:bg}(h:bO s=true):s.ops.length≤16∧ ∀p∈aD s.ops,0<p.length:=by
 unfold bO at h;cases hr:s.rep
 ·rw[hr]at h;simp only[Bool.false_eq_true,if_false,Bool.and_eq_true,decide_eq_true_eq]at h;exact⟨h.1.2,fun p hp=>nr (nu h.2 p hp)⟩
 ·rw[hr]at h;simp only[if_true,Bool.and_eq_true,decide_eq_true_eq]at h;have h0:s.ops= []:=List.eq_nil_of_length_eq_zero h.1.1;rw[h0];exact⟨by simp,fun p hp=>by simp[aD]at hp⟩
theorem qB (S:Nat→Prop)(s:bg)(cs:Array Value)(w:World)(hS: ∀b,S b→b<w.heap.size)(h:cw w S s cs)(hd:mS s):
  Calls Tryz.prog 32 #[.agg cs] w fun e w'=>e= .returned (.int .i64 (bU s))∧Below w.heap.size w w':=by
 have HL:=hid h;obtain⟨DA,dc,DA',dc',OA,oc,rfl,hv,ho,hoc,hol⟩:=h;obtain⟨w1,hw1⟩: ∃W,W=w.alloc (.cells #[.bool s.rep,.int .i64 s.doc.kind,.int .i64 s.doc.num,.string s.doc.text,.slice DA s.doc.items.length dc,.slice DA' s.doc.names.length dc',.slice OA s.ops.length oc] 28):=⟨_,rfl⟩;have hbk:nO w1 w.heap.size s DA dc DA' dc' OA oc:=by rw[hw1];exact heap_alloc_new w _
 have hb1:Below w.heap.size w w1:=by rw[hw1];exact(Below.refl _ _).alloc (Nat.le_refl _) _
 have hS1: ∀b,S b→b<w1.heap.size:=fun b hb=>Nat.lt_of_lt_of_le (hS b hb) hb1.size;have y0:=Go.Joins.cell_of_block hbk 0;have y1:=Go.Joins.cell_of_block hbk 1;have y2:=Go.Joins.cell_of_block hbk 2;have y3:=Go.Joins.cell_of_block hbk 3;have y4:=Go.Joins.cell_of_block hbk 4;have y5:=Go.Joins.cell_of_block hbk 5;have y6:=Go.Joins.cell_of_block hbk 6;have HF:=hid (tO S s _ w1 hS1 (HL.out.below hS hb1) hd);have HB1:=hid hb1;have HBK:=hid hbk;have HO:=hid ho;have HS:=hid hS;obtain⟨r,hr⟩: ∃r,r=bU s:=⟨_,rfl⟩;have HR:=hid hr;rw[←hr];have HW1:=hid hw1;clear hbk hb1 hS1 hv ho hoc hol hd hS hr;go_enter Tryz.func32,Tryz.ntmps32;go_wp2_with fail;rw[←hw1];clear hw1;refine HF.out.mono ?_;rintro e w2 ⟨rfl,hb2⟩;have HB2:=hid (HB1.out.trans (hb2.mono HB1.out.size));have hbk2:=HBK.out.below hb2;have HBK2:=hid hbk2;clear hb2 HF y0 y1 y2 y3 y4 y5 y6;cases hf:bO s
 ·have HE:Hid (bU s=72):=hid (by unfold bU;rw[hf];rfl);clear hf;go_wp2_with fail;go_ret;exact⟨by rw[HR.out,HE.out];rfl,HB2.out⟩
 obtain⟨hl16,hpp⟩:=fT hf;have HFF:=hid hf;have HT:=hid (qH S s _ w2 (fun b hb=>Nat.lt_of_lt_of_le (HS.out b hb) HB2.out.size) (HL.out.below HS.out HB2.out) hpp);have y0:=Go.Joins.cell_of_block hbk2 0;have y1:=Go.Joins.cell_of_block hbk2 1;have y2:=Go.Joins.cell_of_block hbk2 2;have y3:=Go.Joins.cell_of_block hbk2 3;have y4:=Go.Joins.cell_of_block hbk2 4;have y5:=Go.Joins.cell_of_block hbk2 5;have y6:=Go.Joins.cell_of_block hbk2 6;clear hf hbk2 hpp;go_wp2_with fail;refine HT.out.mono ?_;rintro e w3 ⟨rfl,hb3⟩;have HB3:=hid (HB2.out.trans (hb3.mono HB2.out.size));have hbk3:=HBK2.out.below hb3;clear hb3 HT y0 y1 y2 y3 y4 y5 y6;cases ht:cW s;rotate_left
 ·have HE:Hid (bU s=70):=hid (by unfold bU;rw[HFF.out,ht];rfl);clear ht hbk3;go_wp2_with fail;go_ret;exact⟨by rw[HR.out,HE.out];rfl,HB3.out⟩
 have HTT:=hid ht;have HC:=hid (od S OA oc s.ops w3 (fun b hb=>Nat.lt_of_lt_of_le (HS.out b hb) HB3.out.size) (HO.out.below' HS.out HB3.out) (by omega));have y6:=Go.Joins.cell_of_block hbk3 6;clear ht hbk3;go_wp2_with fail;refine HC.out.mono ?_;rintro e w4 ⟨rfl,hb4⟩;have HB4:=hid (HB3.out.trans (hb4.mono HB3.out.size));clear hb4 HC y6;cases hc:cm [] (aD s.ops)
 ·have HE:Hid (bU s=0):=hid (by unfold bU;rw[HFF.out,HTT.out,hc];rfl);clear hc;go_wp2_with fail;go_ret;exact⟨by rw[HR.out,HE.out];rfl,HB4.out⟩
 ·have HE:Hid (bU s=71):=hid (by unfold bU;rw[HFF.out,HTT.out,hc];rfl);clear hc;go_wp2_with fail;go_ret;exact⟨by rw[HR.out,HE.out];rfl,HB4.out⟩
theorem nj {l:List VT}{j:Nat}(h:j<l.length):bI (l.drop j)=aA l[j]+bI (l.drop (j+1)):=by
 rw[List.drop_eq_getElem_cons h];conv=>lhs;unfold bI
theorem re (a b c:Int):wrap64 (wrap64 a+wrap64 b+c)=wrap64 (a+b+c):=by unfold wrap64;omega
theorem ex :bI []=0:=by unfold bI;rfl
theorem wC {ns:List ByteArray}{j:Nat}(h:j<ns.length):eI (ns.drop j)=tsz ns[j]+eI (ns.drop (j+1)):=by
 rw[List.drop_eq_getElem_cons h];simp only[eI,List.map_cons,List.sum_cons]
theorem xF :eI []=0:=rfl
theorem dW (t:VT):aA t=dp t.kind t.num t.text t.items.length t.names+bI t.items:=by cases t;unfold aA;rfl
theorem pW (s:ByteArray):(txt s).length=tsz s:=by unfold txt tsz;simp
theorem wP {k i:Int}{s:ByteArray}{n:Nat}{ns:List ByteArray}(h:aU k i s n ns=true):(k=1∨k=2∨k=3∨k=4∨k=5∨k=6∨k=7)∧(k≤5→n=0)∧(k=7→ns.length=n):=by
 unfold aU at h;by_cases h1:k=1
 ·simp[h1]at h;omega
 ·by_cases h2:k=2
  ·simp[h2]at h;omega
  ·by_cases h3:k=3
   ·simp[h3]at h;omega
   ·by_cases h4:k=4∨k=5
    ·simp[h1,h2,h3,h4]at h;omega
    ·by_cases h6:k=6
     ·simp[h6]at h;omega
     ·by_cases h7:k=7
      ·simp[h7]at h;omega
      ·simp[h1,h2,h3,h4,h6,h7]at h
theorem vD (S:Nat→Prop): ∀(n:Nat) (t:VT) (v:Value) (w:World),ac t≤n→ao t=true→(∀b,S b→b<w.heap.size)→LV w S t v→
  Calls Tryz.prog 50 #[v] w fun e w'=>e= .returned (.int .i64 (wrap64 (aA t)))∧Below w.heap.size w w':=by
 intro n
 induction n with
 |zero=>intro t v w hd;cases t;rw[aN]at hd;omega
 |succ n ih=>
  intro t v w hd hm hS h;have hrn:=h.shape;obtain⟨A,c,A',c',rfl,lens,a7,a6,v1,hb0⟩:=bY hS h;obtain⟨_,_,_,_,-,-,hri,hrs,-⟩:=hrn;have hm2:=nC t;rw[hm]at hm2;have hm3:=(Bool.and_eq_true _ _).mp hm2.symm;obtain⟨hk,hk5,hk7⟩:=wP hm3.1;have hml:=hm3.2
  have hdl:aK t.items≤n:=by
   have hdt:ac t=aK t.items+1:=by cases t;exact aN _ _ _ _ _
   omega
  have hz:=dW t;obtain⟨Z,hZ⟩: ∃Z,Z=aA t:=⟨_,rfl⟩;rw[←hZ]at hz ⊢;clear hm2 hm3 hZ hd hm h
  cases t with
  |mk kd num txs its nms=>
  simp only[VT.kind,VT.num,VT.text,VT.items,VT.names]at *;have HML:=hid hml;have HRI:=hid hri;have HRS:=hid hrs;have HK5:=hid hk5;have HK7:=hid hk7;have LENS:=hid lens;have A7:=hid a7;have A6:=hid a6;have P0:=hid v1;have HB0:=hid hb0;have HD:=hid hdl;have HZ:=hid hz;have hl:=LENS.out.1;clear lens a7 a6 v1 hb0 hk5 hk7 hri hrs hz hdl hml;have HKC:=hid hk;clear hk;go_enter Tryz.func50,Tryz.ntmps50;rcases HKC.out with rfl|rfl|rfl|rfl|rfl|rfl|rfl
  ·have HL0:Hid (its= []):=hid (List.eq_nil_of_length_eq_zero (HK5.out (by decide)));have HZ2:Hid ((1:Int)+((bI (its.drop 0):Nat):Int)=Z):=hid (by rw[HZ.out];unfold dp;simp);go_wp2_with fail;skip
   go_loopw [3,4] (fun n i wr=> ∃(j:Nat) (m:Int),n= .int .i64 (wrap64 m)∧i= .int .i64 j∧j≤its.length∧Hid (m+((bI (its.drop j):Nat):Int)=Z)∧Hid (Below w.heap.size w wr)∧Hid (Vr wr S w.heap.size (.mk 1 num txs its nms) A c A' c')) (fun _ i _=>its.length - (intOf i).toNat)
   case atStart=>exact⟨0,1,by rw[bW (by omega) (by omega)],rfl,Nat.zero_le _,HZ2,HB0,P0⟩
   case round=>
    obtain⟨j,m,rfl,rfl,hj,HI,HB,P⟩:=hrel;clear P0 HB0;have k3:wr.cell? ⟨w.heap.size,3,none⟩=some (.slice A its.length c):=P.out.x.c3;by_cases hlt:j<its.length
    ·exfalso;rw[HL0.out]at hlt;simp at hlt
    ·have HF:Hid (m=Z):=hid (by
      have h:=HI.out;rw[List.drop_eq_nil_of_le (by omega:its.length≤j),ex]at h
      omega)
     go_wp2_with fail;go_ret;exact⟨aH (by rw[HF.out]),HB.out⟩
  ·have HL0:Hid (its= []):=hid (List.eq_nil_of_length_eq_zero (HK5.out (by decide)));have HF:Hid (wrap64 Z=2):=hid (by rw[HZ.out,HL0.out,ex];unfold dp;simp;rw[bW (by omega) (by omega)]);go_wp2_with fail;go_ret;exact⟨aH HF.out.symm,HB0.out⟩
  ·have HL0:Hid (its= []):=hid (List.eq_nil_of_length_eq_zero (HK5.out (by decide)));have hg:=(bA (zig num)).1;have HF:Hid (wrap64 Z=1+((grp (zig num)).length:Int)):=hid (by rw[HZ.out,HL0.out,ex];unfold dp;simp;rw[bW (by omega) (by omega)]);go_wp2_with fail;refine(yr num _ HRI.out.1 HRI.out.2).mono ?_;rintro e w1 ⟨v,rfl,hv,hb⟩;obtain⟨A2,c2,rfl⟩:=hv.slice;have HB:=hid (am HB0.out hb);clear hv hb;go_wp2_with fail;go_ret;exact⟨aH HF.out.symm,HB.out⟩
  ·have HL0:Hid (its= []):=hid (List.eq_nil_of_length_eq_zero (HK5.out (by decide)));have hg:=mW txs HRS.out;have HTL:=pW txs;have HF:Hid (wrap64 Z=1+((txt txs).length:Int)):=hid (by rw[HTL,HZ.out,HL0.out,ex];unfold dp;simp;rw[bW (by omega) (by omega)]);have hg2:(txt txs).length≤140737488351300:=by omega
   clear hg HTL;go_wp2_with fail;refine(kK txs _ HRS.out).mono ?_;rintro e w1 ⟨v,rfl,hv,hb⟩;obtain⟨A2,c2,rfl⟩:=hv.slice;have HB:=hid (am HB0.out hb);clear hv hb;go_wp2_with fail;go_ret;exact⟨aH HF.out.symm,HB.out⟩
  ·have HL0:Hid (its= []):=hid (List.eq_nil_of_length_eq_zero (HK5.out (by decide)));have hg:=mW txs HRS.out;have HTL:=pW txs;have HF:Hid (wrap64 Z=1+((txt txs).length:Int)):=hid (by rw[HTL,HZ.out,HL0.out,ex];unfold dp;simp;rw[bW (by omega) (by omega)]);have hg2:(txt txs).length≤140737488351300:=by omega
   clear hg HTL;go_wp2_with fail;refine(kK txs _ HRS.out).mono ?_;rintro e w1 ⟨v,rfl,hv,hb⟩;obtain⟨A2,c2,rfl⟩:=hv.slice;have HB:=hid (am HB0.out hb);clear hv hb;go_wp2_with fail;go_ret;exact⟨aH HF.out.symm,HB.out⟩
  ·have hg:=(bA its.length).1;have HZ2:Hid ((1+((grp its.length).length:Int))+((bI (its.drop 0):Nat):Int)=Z):=hid (by rw[HZ.out];unfold dp;simp<;>omega);go_wp2_with fail;refine(jr its.length _ (by omega)).mono ?_;rintro e w1 ⟨v,rfl,hv,hb⟩;obtain⟨A2,c2,rfl⟩:=hv.slice;have P0:=hid (P0.out.call hb);have HB0:=hid (am HB0.out hb);clear hv hb;go_wp2_with fail
   go_loopw [3,4] (fun n i wr=> ∃(j:Nat) (m:Int),n= .int .i64 (wrap64 m)∧i= .int .i64 j∧j≤its.length∧Hid (m+((bI (its.drop j):Nat):Int)=Z)∧Hid (Below w.heap.size w wr)∧Hid (Vr wr S w.heap.size (.mk 6 num txs its nms) A c A' c')) (fun _ i _=>its.length - (intOf i).toNat)
   case atStart=>exact⟨0,1+((grp its.length).length:Int),by rw[bW (by omega) (by omega)],rfl,Nat.zero_le _,HZ2,HB0,P0⟩
   case round=>
    obtain⟨j,m,rfl,rfl,hj,HI,HB,P⟩:=hrel;clear P0 HB0;have k3:wr.cell? ⟨w.heap.size,3,none⟩=some (.slice A its.length c):=P.out.x.c3;by_cases hlt:j<its.length
    ·obtain⟨p,o,A2,e2,A3,e3,rfl,hp,h0,h1,h2,h3,h4,hx⟩:=gt hS A7.out HB.out j hlt;have HC:=hid (ih its[j] _ wr (Nat.le_trans (cj (List.getElem_mem hlt)) HD.out) (eh HML.out (List.getElem_mem hlt)) P.out.s hx);have HI2:Hid (m+aA its[j]+((bI (its.drop (j+1)):Nat):Int)=Z):=hid (by rw[←HI.out,nj hlt];omega);generalize aA its[j]=C at *;clear hx hp HI;go_wp2_with fail;refine HC.out.mono ?_;rintro e w2 ⟨rfl,hb⟩;have P2:=hid (P.out.call hb);have HB2:=hid (am HB.out hb);clear hb HC k3 h0 h1 h2 h3 h4 P HB;have k0:w2.cell? ⟨w.heap.size,0,none⟩=some (.int .i64 6):=P2.out.x.c0;go_wp2_with fail;clear k0
     go_roundw
     case rel=>exact⟨j+1,m+C,by rw[eM,lK],by go_num,by omega,HI2,HB2,P2⟩
     case measure=>simp[intOf];omega
    ·have HF:Hid (m=Z):=hid (by
      have h:=HI.out;rw[List.drop_eq_nil_of_le (by omega:its.length≤j),ex]at h
      omega)
     go_wp2_with fail;go_ret;exact⟨aH (by rw[HF.out]),HB.out⟩
  ·have hg:=(bA its.length).1;have HZ2:Hid ((1+((grp its.length).length:Int))+((bI (its.drop 0)+eI (nms.drop 0):Nat):Int)=Z):=hid (by rw[HZ.out];unfold dp;simp<;>omega);go_wp2_with fail;refine(jr its.length _ (by omega)).mono ?_;rintro e w1 ⟨v,rfl,hv,hb⟩;obtain⟨A2,c2,rfl⟩:=hv.slice;have P0:=hid (P0.out.call hb);have HB0:=hid (am HB0.out hb);clear hv hb;go_wp2_with fail
   go_loopw [3,4] (fun n i wr=> ∃(j:Nat) (m:Int),n= .int .i64 (wrap64 m)∧i= .int .i64 j∧j≤its.length∧Hid (m+((bI (its.drop j)+eI (nms.drop j):Nat):Int)=Z)∧Hid (Below w.heap.size w wr)∧Hid (Vr wr S w.heap.size (.mk 7 num txs its nms) A c A' c')) (fun _ i _=>its.length - (intOf i).toNat)
   case atStart=>exact⟨0,1+((grp its.length).length:Int),by rw[bW (by omega) (by omega)],rfl,Nat.zero_le _,HZ2,HB0,P0⟩
   case round=>
    obtain⟨j,m,rfl,rfl,hj,HI,HB,P⟩:=hrel;clear P0 HB0;have k3:wr.cell? ⟨w.heap.size,3,none⟩=some (.slice A its.length c):=P.out.x.c3;by_cases hlt:j<its.length
    ·obtain⟨p,o,A2,e2,A3,e3,rfl,hp,h0,h1,h2,h3,h4,hx⟩:=gt hS A7.out HB.out j hlt;have HC:=hid (ih its[j] _ wr (Nat.le_trans (cj (List.getElem_mem hlt)) HD.out) (eh HML.out (List.getElem_mem hlt)) P.out.s hx);have ia:j<nms.length:=by have:=HK7.out (by simp);omega
     have HI2:Hid (m+aA its[j]+tsz nms[j]+((bI (its.drop (j+1))+eI (nms.drop (j+1)):Nat):Int)=Z):=hid (by rw[←HI.out,nj hlt,wC ia];omega);generalize aA its[j]=C at *;clear hx hp HI;go_wp2_with fail;refine HC.out.mono ?_;rintro e w2 ⟨rfl,hb⟩;have P2:=hid (P.out.call hb);have HB2:=hid (am HB.out hb);clear hb HC k3 h0 h1 h2 h3 h4 P HB;have k0:w2.cell? ⟨w.heap.size,0,none⟩=some (.int .i64 7):=P2.out.x.c0;obtain⟨p',o',rfl,hp,t1,hsz⟩:=mg hS A6.out HB2.out j ia;have k4:w2.cell? ⟨w.heap.size,4,none⟩=some (.slice (some ⟨p',o',none⟩) nms.length c'):=P2.out.x.c4;have hl2:=LENS.out.2;obtain⟨sn,hs⟩: ∃s,s=nms[j]:=⟨_,rfl⟩;rw[←hs]at t1 hsz HI2;have HSZ:=hid hsz;clear hp hs hsz;go_wp2_with fail;refine(kK sn _ HSZ.out).mono ?_;rintro e w3 ⟨v,rfl,hv,hb⟩;obtain⟨A9,c9,rfl⟩:=hv.slice;have P3:=hid (P2.out.call hb);have HB3:=hid (am HB2.out hb);have HTL:=hid (pW sn);clear hv hb k4 t1 P2 HB2 k0;go_wp2_with fail
     go_roundw
     case rel=>exact⟨j+1,m+C+tsz sn,by rw[HTL.out,eM,re],by go_num,by omega,HI2,HB3,P3⟩
     case measure=>simp[intOf];omega
    ·have HF:Hid (m=Z):=hid (by
      have hne:nms.length≤j:=by have:=HK7.out (by simp);omega
      have h:=HI.out;rw[List.drop_eq_nil_of_le (by omega:its.length≤j),ex,List.drop_eq_nil_of_le hne,xF]at h
      omega)
     go_wp2_with fail;go_ret;exact⟨aH (by rw[HF.out]),HB.out⟩
theorem sY (S:Nat→Prop)(t:VT)(v:Value)(w:World)(hd:ac t≤4611686018427387903)(hS: ∀b,S b→b<w.heap.size)(h:LV w S t v):
  Calls Tryz.prog 25 #[v] w fun e w'=>e= .returned (.int .i64 (az t))∧Below w.heap.size w w':=by
 obtain⟨A,c,A',c',rfl,-,-,-,v1,hb0⟩:=bY hS h;have P:=hid v1;have HB:=hid hb0;have HR:Hid (az t=if ao t=true then(if 8<(ac t:Int)then 21 else if 4096<wrap64 (aA t)then 22 else 0)else 20):=hid rfl;obtain⟨R,hR⟩: ∃R,R=az t:=⟨_,rfl⟩;rw[←hR]at HR ⊢;obtain⟨x,hx⟩: ∃x,x=ao t:=⟨_,rfl⟩;rw[←hx]at HR;have HX:=hid hx;have HD:=hid hd;clear h v1 hb0 hR hx hd;go_enter Tryz.func25,Tryz.ntmps25;go_wp2_with fail;refine(P.out.rmay HX.out).mono ?_;rintro e w1 ⟨rfl,hb⟩;have P1:=hid (P.out.call hb);have HB1:=hid (am HB.out hb);clear hb P HB;cases x
 ·have HF:Hid (R=20):=hid (by rw[HR.out];simp);clear HR HX P1;go_wp2_with fail;go_ret;exact⟨aH HF.out.symm,HB1.out⟩
 ·have HR2:Hid (R=if 8<(ac t:Int)then 21 else if 4096<wrap64 (aA t)then 22 else 0):=hid (by rw[HR.out];simp);have HDC:=hid (sZ S 4611686018427387903 t _ w1 HD.out (Nat.le_refl _) P1.out.s P1.out.v);have q0:=P1.out.x.c0;have q1:=P1.out.x.c1;have q2:=P1.out.x.c2;have q3:=P1.out.x.c3;have q4:=P1.out.x.c4;clear HR;go_wp2_with fail;refine HDC.out.mono ?_;rintro e w2 ⟨rfl,hb⟩;have P2:=hid (P1.out.call hb);have HB2:=hid (am HB1.out hb);clear hb P1 HB1 HDC q0 q1 q2 q3 q4;by_cases h8:8<(ac t:Int)
  ·have HF:Hid (R=21):=hid (by rw[HR2.out,if_pos h8]);clear HR2 HX P2;go_wp2_with fail;go_ret;exact⟨aH HF.out.symm,HB2.out⟩
  ·have HR3:Hid (R=if 4096<wrap64 (aA t)then 22 else 0):=hid (by rw[HR2.out,if_neg h8]);have HSC:=hid (vD S (ac t) t _ w2 (Nat.le_refl _) HX.out.symm P2.out.s P2.out.v);have q0:=P2.out.x.c0;have q1:=P2.out.x.c1;have q2:=P2.out.x.c2;have q3:=P2.out.x.c3;have q4:=P2.out.x.c4;clear HR2 HX;go_wp2_with fail;refine HSC.out.mono ?_;rintro e w3 ⟨rfl,hb⟩;have HB3:=hid (am HB2.out hb);clear hb P2 HB2 HSC q0 q1 q2 q3 q4 h8;generalize wrap64 (aA t)=C at *;by_cases hz:4096<C
   ·have HF:Hid (R=22):=hid (by rw[HR3.out,if_pos hz]);clear HR3;go_wp2_with fail;go_ret;exact⟨aH HF.out.symm,HB3.out⟩
   ·have HF:Hid (R=0):=hid (by rw[HR3.out,if_neg hz]);clear HR3;go_wp2_with fail;go_ret;exact⟨aH HF.out.symm,HB3.out⟩
def eS :ByteArray:=⟨#[]⟩
/-! ### what bytes begin with -/
/-! ### numbers read are numbers put -/
/-! ### there and back -/
/-! ### a code is read -/
theorem xl (t:VT):1≤aA t:=by
 cases t with
 |mk k i s l ns=>
  unfold aA dp;have:=(bA (zig i)).2
  repeat' split
  all_goals omega
theorem pd : ∀ {l:List VT} {t:VT},t∈l→aA t≤bI l
 |a::r,t,ht=>by
  unfold bI;rcases List.mem_cons.1 ht with rfl|ht
  ·omega
  ·have:=pd ht;omega
theorem jt {t:VT}(hs:aA t≤9223372036854775807):az t=0↔ao t=true∧ac t≤8∧aA t≤4096:=by
 have hw:wrap64 (aA t)=aA t:=by unfold wrap64;omega
 unfold az;rw[hw]
 cases hm:ao t with
 |false=>simp
 |true=>
  simp only[if_true,true_and];constructor
  ·intro h
   split at h
   ·omega
   ·split at h
    ·omega
    ·constructor<;>omega
  ·rintro⟨h1,h2⟩;rw[if_neg (by omega),if_neg (by omega)]
abbrev K8 (w w':World):Prop:=Lib.OthersKept 5 Option.none w w'
end Go.Proofs.YtgbopnlpaabelaaGreatDoor
/- append, and where the new row lies. -/
namespace Go.Proofs.YtgbopnlpaabelaaGreatDoor
open Go
variable {P :Program} (w:World)
def rU (w:World)(v v':Value):Prop:=v'.ownBlock=v.ownBlock∨ ∃q,w.heap.size≤q∧v'.ownBlock=some q
theorem kN (base:Nat)(t ty e:TypeId)(i:TypeInfo)(z:Value)(size bytes:Nat)(ht:P.underlying t=some (.slice e))(hi:P.info? e=some i)(hz:i.zero=some z)
  (hsize:i.size=size) (hby:i.bytes=bytes) (hzs:z.cells.size=size) (hsz:0<size)
  (v:Value) (n:Nat) (xs:List Value) (hown:w.ownsRow base e size v n xs)
  (a:Addr) (m c:Nat) (news:List Value) (hl:news.length=m * size) (hnews: ∀j u,news[j]? =some u→w.cell? (a.add j)=some u) (h1: ∀u∈news,u.oneCell'=true)
  (h63:n+m≤maxLen) (hbytes:(n+m) * bytes≤140737488355328) (hbase:base≤w.heap.size):
  ∃v' w',(Builtin.append_ #[t,t] ty #[v,.slice (some a) m c]).run P w= .ok v' w'∧w'.ownsRow base e size v' (n+m) (xs++news)∧w.grownBy w' v.ownBlock∧rU w v v':=by
 obtain⟨v',w',hr,h2,h3,h4⟩:=run_append_own (P:=P) w base t ty e i z size bytes ht hi hz hsize hby hzs hsz v n xs hown a m c news hl hnews h1 h63 hbytes hbase;refine⟨v',w',hr,h2,h3,?_⟩;subst hsize
 subst hby
 have hsmall:n+m≤9223372036854775807:=by simp only[maxLen]at h63;omega
 rcases hown.2 with ⟨rfl,rfl⟩|⟨g,cap,cur,rfl,hbg,hg,hnc,hcm,hcs,htake⟩
 ·by_cases hm:m=0
  ·exact .inl (by rw[h4.2 ⟨rfl,hm⟩])
  ·have hr2:=run_append_nil (P:=P) w t ty e i z ht hi hz a m c news hl hnews (by omega) (by omega) (by have hb:=hbytes;simp only[Nat.zero_add]at hb;omega);rw[hr]at hr2;simp only[Result.ok.injEq]at hr2;exact .inr ⟨w.heap.size,Nat.le_refl _,by rw[hr2.1];rfl⟩
 ·by_cases hroom:n+m≤cap
  ·obtain⟨w2,hr2,-⟩:=run_append_fits (P:=P) w base t ty e i i.size ht hi rfl g n cap xs hown a m c news hl hnews h1 hroom;rw[hr]at hr2;simp only[Result.ok.injEq]at hr2;exact .inl (by rw[hr2.1];rfl)
  ·have holds: ∀j u,xs[j]? =some u→w.cell? ((⟨g,0,none⟩:Addr).add j)=some u:=hown.cells (g:=g) rfl;have hr2:=run_append_grow (P:=P) w t ty e i z ht hi hz ⟨g,0,none⟩ n cap xs hown.1 holds a m c news hl hnews (by omega) (by omega) (growslice_fits (by omega) hbytes);rw[hr]at hr2;simp only[Result.ok.injEq]at hr2;exact .inr ⟨w.heap.size,Nat.le_refl _,by rw[hr2.1];rfl⟩
theorem cU {o:Oper}{a:Act}{K:Act→World→Prop}{Q:Exit→Act→World→Prop}(s x:Operand)(t:TypeId)
  (ho:o.op= .call { callee:= .builtin .append,args:= #[s,x],argTypes:= #[t,t] })
  (base:Nat) (e:TypeId) (i:TypeInfo) (z:Value) (size bytes:Nat) (ht:P.underlying t=some (.slice e)) (hi:P.info? e=some i) (hz:i.zero=some z)
  (hsize:i.size=size) (hby:i.bytes=bytes) (hzs:z.cells.size=size) (hsz:0<size)
  (v:Value) (n:Nat) (xs:List Value) (hs:a.eval s=v) (hown:w.ownsRow base e size v n xs)
  (ad:Addr) (m c:Nat) (news:List Value) (hx:a.eval x= .slice (some ad) m c) (hl:news.length=m * size) (hnews: ∀j u,news[j]? =some u→w.cell? (ad.add j)=some u) (h1: ∀u∈news,u.oneCell'=true)
  (h63:n+m≤maxLen) (hbytes:(n+m) * bytes≤140737488355328) (hbase:base≤w.heap.size)
  (h: ∀v' w',w'.ownsRow base e size v' (n+m) (xs++news)→w.grownBy w' v.ownBlock→rU w v v'→K (a.put o.dst v') w'):o.wp P a w K Q:=by
 obtain⟨v',w',hr,h2,h3,h4⟩:=kN (P:=P) w base t o.type e i z size bytes ht hi hz hsize hby hzs hsz v n xs hown ad m c news hl hnews h1 h63 hbytes hbase;unfold Oper.wp execOp;simp only[ho,resolve,invoke,builtin,Sem.run_bind,Sem.run_pure,Result.andThen_ok,List.map_toArray,List.map_cons,List.map_nil,hs,hx,hr];exact h v' w' h2 h3 h4
end Go.Proofs.YtgbopnlpaabelaaGreatDoor
/- The decoder's parts: what is read, and the variable that a value is read into. -/
namespace Go.Proofs.YtgbopnlpaabelaaGreatDoor
open Go.RowKit
def ba (B:Nat)(w:World):Nat→Prop:=fun b=>B≤b∧b<w.heap.size
def ux (vb bb:Nat)(w w':World):Prop:=w'.heap[vb]? =w.heap[vb]? ∧w'.heap[bb]? =w.heap[bb]?
theorem ux.refl (vb bb:Nat)(w:World):ux vb bb w w:=⟨rfl,rfl⟩
instance (vb bb:Nat) (w:World):Inhabited (af (ux vb bb) w):=⟨⟨w,ux.refl vb bb w⟩⟩
def uG (vb bb D:Nat)(w w':World):Prop:=w'.heap[vb]? =w.heap[vb]? ∧w'.heap[bb]? =w.heap[bb]? ∧w'.heap[D]? =w.heap[D]?
theorem uG.refl (vb bb D:Nat)(w:World):uG vb bb D w w:=⟨rfl,rfl,rfl⟩
instance (vb bb D:Nat) (w:World):Inhabited (af (uG vb bb D) w):=⟨⟨w,uG.refl vb bb D w⟩⟩
def Bq :VT:= .mk 0 0 eS [] []
theorem zU (w:World)(S:Nat→Prop):LV w S Bq (.agg #[.int .i64 0,.int .i64 0,.string eS,.slice none 0 0,.slice none 0 0]):=
 LV.mk (by unfold Rng;omega) (by unfold Rng;omega) (by decide) (by simp) (by simp) (jY _ _ _) (pS _ _ _)
end Go.Proofs.YtgbopnlpaabelaaGreatDoor
