/- A variable that holds a value that lies in memory. -/
import Derived.Test.YtgfidiocmiolpaaGreatKValO
import Derived.Test.YtgfidiocmiolpaaGreatKValM
import Derived.Test.YtgfidiocmiolpaaGreatKMath
import Derived.RangeFuncNested
import Derived.RangeFuncBound
import Derived.RangeFuncCalls
import Derived.RangeFuncLeaves
import Derived.Shelf.Abstract
import Derived.Shelf.RegionOpen
import Derived.WalkKit
import Derived.OwnWalkIn
import Derived.TacticsInMore
import Derived.LoopNIn
import Derived.LoopIn
set_option maxHeartbeats 64000000
set_option maxRecDepth 100000
set_option linter.unusedVariables false
set_option linter.unusedSimpArgs false
namespace Go.Proofs.YtgfidiocmiolpaaGreat
open Go.RowKit
structure Vr (u:World)(S:Nat→Prop)(g:Nat)(t:VT)(A:Option Addr)(c:Nat)(A':Option Addr)(c':Nat):Prop where
 x:Box u g (.int .i64 t.kind) (.int .i64 t.num) (.string t.text) (.slice A t.items.length c) (.slice A' t.names.length c')
 v:LV u S t (.agg #[.int .i64 t.kind,.int .i64 t.num,.string t.text,.slice A t.items.length c,.slice A' t.names.length c'])
 s: ∀b,S b→b<u.heap.size
section
variable {u u':World} {S:Nat→Prop} {g:Nat} {t:VT} {A:Option Addr} {c:Nat} {A':Option Addr} {c':Nat}
theorem Vr.call (h:Vr u S g t A c A' c')(hb:Below u.heap.size u u'):Vr u' S g t A c A' c':=⟨h.x.call hb,h.v.below h.s hb,fC h.s hb⟩
theorem Vr.alloc (h:Vr u S g t A c A' c')(o:Obj):Vr (u.alloc o) S g t A c A' c':=h.call (af o)
theorem Vr.drew (h:Vr u S g t A c A' c'):Vr u.drew S g t A c A' c':=h.call (below_predrew_l u)
 where below_predrew_l (u:World):Below u.heap.size u u.drew:=(Below.refl _ _).drew
theorem Vr.new (hS: ∀b,S b→b<u.heap.size)(h:LV u S t (.agg #[.int .i64 t.kind,.int .i64 t.num,.string t.text,.slice A t.items.length c,.slice A' t.names.length c'])):
  Vr (u.alloc (.cells #[.int .i64 t.kind,.int .i64 t.num,.string t.text,.slice A t.items.length c,.slice A' t.names.length c'] 43)) S u.heap.size t A c A' c':=⟨Box.new _ _ _ _ _,h.alloc hS _,ik hS _⟩
end
section
variable {u :World} {S:Nat→Prop} {g g':Nat} {t t':VT} {A B:Option Addr} {c d:Nat} {A' B':Option Addr} {c' d':Nat}
end
open Lib (hid)
theorem gN {w:World}{S:Nat→Prop}{a:VT}{va:Value}(hS: ∀b,S b→b<w.heap.size)(ha:LV w S a va):
  ∃A ca A' ca',va= .agg #[.int .i64 a.kind,.int .i64 a.num,.string a.text,.slice A a.items.length ca,.slice A' a.names.length ca']∧(a.items.length≤140737488351232∧a.names.length≤140737488351232)∧LVA w S A a.items∧aD w S A' a.names∧
   Vr (w.alloc (.cells #[.int .i64 a.kind,.int .i64 a.num,.string a.text,.slice A a.items.length ca,.slice A' a.names.length ca'] 43)) S w.heap.size a A ca A' ca'∧
   Below w.heap.size w (w.alloc (.cells #[.int .i64 a.kind,.int .i64 a.num,.string a.text,.slice A a.items.length ca,.slice A' a.names.length ca'] 43)):=by
 obtain⟨A,ca,A',ca',rfl,-,-,-,a4,a5,a6,a7⟩:=ha.shape;exact⟨A,ca,A',ca',rfl,⟨a4,a5⟩,a7,a6,Vr.new hS ha,af _⟩
theorem qC {l:List VT}{j:Nat}(h:j<l.length):bz (l.drop j)=max (av l[j]) (bz (l.drop (j+1))):=by
 rw[List.drop_eq_getElem_cons h];conv=>lhs;unfold bz
theorem rH :bz []=0:=by unfold bz;rfl
theorem sX (S:Nat→Prop): ∀(n:Nat) (t:VT) (v:Value) (w:World),av t≤n→n≤4611686018427387903→(∀b,S b→b<w.heap.size)→LV w S t v→
  Calls Tryz.prog 89 #[v] w fun e w'=>e= .returned (.int .i64 (av t))∧Below w.heap.size w w':=by
 intro n
 induction n with
 |zero=>intro t v w hd;cases t;rw[bu]at hd;omega
 |succ n ih=>
  intro t v w hd hn hS h;obtain⟨A,c,A',c',rfl,lens,a7,-,v1,hb0⟩:=gN hS h;have LENS:=hid lens;have A7:=hid a7;have P0:=hid v1;have HB0:=hid hb0;have hdt:av t=bz t.items+1:=by cases t;exact bu _ _ _ _ _
  have HDT:=hid hdt;have HD:Hid (bz t.items≤n):=hid (by omega);have HN:=hid hn;obtain⟨R,hR⟩: ∃R,R=bz t.items:=⟨_,rfl⟩;have HR:Hid (max 0 (bz (t.items.drop 0))=R):=hid (by rw[hR];simp);have HRD:Hid (av t=R+1):=hid (by rw[hR];exact hdt);have HRN:Hid (R≤n):=hid (by rw[hR];exact HD.out);generalize av t=D at *;clear h lens a7 v1 hb0 hdt hd hn hR HDT;go_enter Tryz.func89,Tryz.ntmps89;go_wp2_with fail
  go_loopw [3,4,5] (fun d i e wr=> ∃j m:Nat,d= .int .i64 m∧i= .int .i64 j∧j≤t.items.length∧Hid (max m (bz (t.items.drop j))=R)∧Hid (Below w.heap.size w wr)∧Hid (Vr wr S w.heap.size t A c A' c')) (fun _ i _ _=>t.items.length - (intOf i).toNat)
  case atStart=>exact⟨0,0,rfl,rfl,Nat.zero_le _,HR,HB0,P0⟩
  case round=>
   obtain⟨j,m,rfl,rfl,hj,HI,HB,P⟩:=hrel;have k3:=P.out.x.c3;have hl:=LENS.out.1;by_cases hlt:j<t.items.length
   ·obtain⟨p,o,A2,e2,A3,e3,rfl,hp,h0,h1,h2,h3,h4,hx⟩:=js hS A7.out HB.out j hlt;have HC:=hid (ih t.items[j] _ wr (Nat.le_trans (dh (List.getElem_mem hlt)) HD.out) (by have:=HN.out;omega) P.out.s hx);have HI2:Hid (max (max m (av t.items[j])) (bz (t.items.drop (j+1)))=R):=hid (by rw[←HI.out,qC hlt];omega);generalize av t.items[j]=C at *;clear hx hp HI;go_wp2_with fail;refine HC.out.mono ?_;rintro e w2 ⟨rfl,hb⟩;have P2:=hid (P.out.call hb);have HB2:=hid (aE HB.out hb);clear hb HC k3 h0 h1 h2 h3 h4 P HB;by_cases hc:(C:Int)>m
    ·have e:max m C=C:=by omega
     rw[e]at HI2;clear e;go_wp2_with fail
     go_roundw
     case rel=>exact⟨j+1,C,rfl,by go_num,by omega,HI2,HB2,P2⟩
     case measure=>simp[intOf];omega
    ·have e:max m C=m:=by omega
     rw[e]at HI2;clear e;go_wp2_with fail
     go_roundw
     case rel=>exact⟨j+1,m,rfl,by go_num,by omega,HI2,HB2,P2⟩
     case measure=>simp[intOf];omega
   ·have HF:Hid (m=R):=hid (by have h:=HI.out;rw[List.drop_eq_nil_of_le (by omega),rH]at h;omega);have hm:m≤4611686018427387903:=by have:=HF.out;have:=HRN.out;have:=HN.out;omega
    go_wp2_with fail;go_ret;exact⟨aL (by have:=HF.out;have:=HRD.out;go_num),HB.out⟩
theorem mT (S:Nat→Prop)(t:VT)(v:Value)(w:World)(hS: ∀b,S b→b<w.heap.size)(h:LV w S t v):
  Calls Tryz.prog 114 #[v] w fun e w'=>e= .returned (.bool (b8 t))∧Below w.heap.size w w':=by
 obtain⟨A,ca,A',ca',rfl,-,-,-,v1,hb⟩:=gN hS h;have q0:=v1.x.c0;have q1:=v1.x.c1;have q2:=v1.x.c2;have q3:=v1.x.c3;have q4:=v1.x.c4;have HB:=hid hb;obtain⟨r,hr⟩: ∃r,r=b8 t:=⟨_,rfl⟩;have HR:=hid hr;rw[←hr];clear h v1 hb hr;go_enter Tryz.func114,Tryz.ntmps114;obtain⟨b1,d1⟩: ∃b,(t.kind == 0)=b:=⟨_,rfl⟩;obtain⟨b2,d2⟩: ∃b,(t.num == 0)=b:=⟨_,rfl⟩;obtain⟨b3,d3⟩: ∃b,(t.text.toList == [])=b:=⟨_,rfl⟩;obtain⟨b4,d4⟩: ∃b,((t.items.length:Int) == 0)=b:=⟨_,rfl⟩;obtain⟨b5,d5⟩: ∃b,((t.names.length:Int) == 0)=b:=⟨_,rfl⟩;cases b1<;>cases b2<;>cases b3<;>cases b4<;>cases b5
 all_goals
  go_wp2_with fail;go_ret;refine⟨?_,HB.out⟩;rw[HR.out];unfold b8;simp at d1 d2 d3 d4 d5;simp[d1,d2,d3,d4,d5]
end Go.Proofs.YtgfidiocmiolpaaGreat
/- Whether an update touches the id: the loop over the places. -/
namespace Go.Proofs.YtgfidiocmiolpaaGreat
open Go.RowKit Go.Shelf
attribute [local go_sem] Oper.semAt_some
theorem idL :(⟨#[95,105,100]⟩:ByteArray).toList= [95,105,100]:=by rw[ByteArray.toList_eq]
end Go.Proofs.YtgfidiocmiolpaaGreat
/- Whether a place meets one of a row of places, by the program. -/
namespace Go.Proofs.YtgfidiocmiolpaaGreat
open Go.RowKit
def SlP (w:World)(S:Nat→Prop)(v:Value)(p:List ByteArray):Prop:= ∃A c,v= .slice A p.length c∧aD w S A p∧p.length≤c∧p.length≤8796093021952
theorem SlP.keep {w w':World}{S:Nat→Prop}{v:Value}{p:List ByteArray}(h:SlP w S v p)(hk: ∀b,S b→w'.heap[b]? =w.heap[b]?):SlP w' S v p:=by
 obtain⟨A,c,h1,h2,h3⟩:=h;exact⟨A,c,h1,h2.keep hk,h3⟩
theorem mW : ∀(ps ahead:List (List ByteArray)) (p:List ByteArray),cy ahead (ps++[p])=(cy ahead ps || (ahead++ps).any fun q=>cE p q)
 | [],ahead,p=>by simp[cy]
 |x::r,ahead,p=>by
  rw[List.cons_append,cy,cy,mW r (ahead++[x]) p,Bool.or_assoc,List.append_assoc];rfl
theorem o1 : ∀(ps r ahead:List (List ByteArray)),cy ahead ps=true→cy ahead (ps++r)=true
 | [],r,ahead,h=>by simp[cy]at h
 |x::ps,r,ahead,h=>by
  rw[List.cons_append,cy];rw[cy,Bool.or_eq_true]at h;rcases h with h|h
  ·rw[h];rfl
  ·rw[o1 ps r _ h,Bool.or_true]
end Go.Proofs.YtgfidiocmiolpaaGreat
/- Whether two places of an update meet, by the program: the loop over the places. -/
namespace Go.Proofs.YtgfidiocmiolpaaGreat
open Go.RowKit Go.Shelf
attribute [local go_sem] Oper.semAt_some
theorem uY {W:World}{B:Nat}{t:TypeId}{k:Nat}{v:Value}{n:Nat}{xs:List Value}(h:W.ownsRow B t k v n xs): ∃A c,v= .slice A n c:=by
 rcases h.2 with ⟨rfl,h0⟩|⟨g,cap,cur,rfl,-⟩
 ·exact⟨none,0,by rw[h0]⟩
 ·exact⟨_,cap,rfl⟩
end Go.Proofs.YtgfidiocmiolpaaGreat
/- What keeps an update from being one, by the program. -/
namespace Go.Proofs.YtgfidiocmiolpaaGreat
open Go.RowKit
theorem vG {p:List ByteArray}(h:jC p=true):0<p.length:=by
 unfold jC at h;simp at h;omega
end Go.Proofs.YtgfidiocmiolpaaGreat
/- Statements whose order Go leaves open, walked as they stand in the text: the same rule with a check that is soon done for long ones. -/
namespace Go.Proofs.YtgfidiocmiolpaaGreat
open Go.RowKit Go.Sort
def yF (md:Region.Mode)(i:Nat)(p:Oper):Bool:=p.after.toList.any fun e=>Region.binds md e && Nat.ble i e.on
def jm (md:Region.Mode)(ops:Array Oper):Nat→List Oper→Bool
 |_,[]=>true
 |i,o::r=>(o.after.toList.all fun e=> !Region.binds md e || Nat.blt e.on i) && (r.all (yF md i) || (ao o && r.all fun p=>(p.after.toList.any fun e=>Region.binds md e && Nat.beq e.on i) || o.apart ops p)) && jm md ops (i+1) r
structure jX (listed:Array Bool)(n i:Nat):Prop where
 sz:listed.size=n
 at_: ∀k,k<n→listed[k]? =some (decide (k<i))
theorem jX.step {listed:Array Bool}{n i:Nat}(h:jX listed n i)(hi:i<n):jX (listed.setIfInBounds i true) n (i+1):=by
 refine⟨by simp[h.sz],fun k hk=> ?_⟩;by_cases hki:i=k
 ·subst hki;simp[h.sz,hi]
 ·rw[Array.getElem?_setIfInBounds_ne hki,h.at_ k hk]
  congr 1
  simp only[decide_eq_decide];omega
theorem jX.getD {listed:Array Bool}{n i:Nat}(h:jX listed n i)(k:Nat)(x:Bool):listed.getD k x=if k<n then decide (k<i)else x:=by
 rw[Array.getD_eq_getD_getElem?];by_cases hk:k<n
 ·rw[h.at_ k hk,if_pos hk];rfl
 ·rw[if_neg hk,Array.getElem?_eq_none (by rw[h.sz];omega)];rfl
section
variable {P :Program} {ops:Array Oper} {Q:Exit→Act→World→Prop} {md:Region.Mode} {β:World→Nat}
theorem pY {i:Nat}{oi:Oper}{v:Value}(hi:ops[i]? =some oi)(f:Nat)(listed:Array Bool)(a:Act)(w:World)(hr:i∈Region.ready md ops listed)(ho: ∀j∈Region.ready md ops listed,j=i)
  (hy:YieldsIf P ops (fun u=>Below (β w) w u) oi v a) (H:qE β P md ops Q f (listed.setIfInBounds i true) (a.put oi.dst v) w):qE β P md ops Q (f+1) listed a w:=
 ⟨fun h=>absurd hr (by rw[h];exact List.not_mem_nil),fun j hj=>by
  obtain rfl:=ho j hj
  exact hy.wpOp hi (Below.refl _ _) ⟨Below.refl _ _,H⟩⟩
theorem eG (hβ:lz β)(hsel:Region.noSelect ops=true)(hQ: ∀c d v a w,Q (.panic c) (Act.put a d v) w→Q (.panic c) a w):
  ∀(r:List Oper) (i:Nat) (listed:Array Bool) (a:Act) (w:World),r=ops.toList.drop i→i≤ops.size→jX listed ops.size i→jm md ops i r=true→aO β P ops Q r a w→qE β P md ops Q r.length listed a w
 | [],i,listed,a,w,hr,hi,hf,hB,h=>by
  have hlen:ops.size≤i:=by
   have:=congrArg List.length hr;simp at this;omega
  refine⟨?_,h⟩;refine List.eq_nil_iff_forall_not_mem.2 fun j hj=> ?_;obtain⟨h1,o,h2,-⟩:=mem_ready.1 hj;have hjn:=(Array.getElem?_eq_some_iff.1 h2).1;rw[hf.getD,if_pos hjn]at h1
  simp at h1;omega
 |o::r,i,listed,a,w,hr,hi,hf,hB,h=>by
  have hin:i<ops.size:=by
   have:=congrArg List.length hr;simp at this;omega
  have hoi:ops[i]? =some o:=by
   have:=congrArg (fun l=>l[0]?) hr;simp at this;exact this.symm
  have hr':r=ops.toList.drop (i+1):=by
   have:=congrArg List.tail hr;simpa using this
  have hat: ∀j oj,ops[j]? =some oj→i<j→oj∈r:=fun j oj hj hij=>by
   rw[hr'];refine List.mem_iff_getElem?.2 ⟨j - (i+1),?_⟩;rw[List.getElem?_drop];have:i+1+(j - (i+1))=j:=by omega
   rw[this];simpa using hj
  unfold jm at hB;simp only[Bool.and_eq_true]at hB;obtain⟨⟨hE,hk⟩,hB'⟩:=hB
  have hrd:i∈Region.ready md ops listed:=by
   refine mem_ready.2 ⟨by rw[hf.getD,if_pos hin];simp,o,hoi,fun e he hb=> ?_⟩;have:=List.all_eq_true.1 hE e (by simpa using he);rw[hb]at this;simp at this;have h3:e.on<i:=by simpa[Nat.blt_eq]using this
   rw[hf.getD,if_pos (by omega)];simpa using h3
  have hun: ∀j oj,ops[j]? =some oj→j≠i→listed.getD j true=false→i<j:=fun j oj hj hne hu=>by
   rw[hf.getD,if_pos (Array.getElem?_eq_some_iff.1 hj).1]at hu;simp at hu;omega
  have hF:=hf.step hin;unfold aO at h;simp only[Bool.or_eq_true]at hk;rcases hk with hk|hk
  ·have hone: ∀j∈Region.ready md ops listed,j=i:=fun j hj=>by
    obtain⟨h1,oj,h2,h3⟩:=mem_ready.1 hj;refine Classical.byContradiction fun hne=> ?_;have hm:=hat j oj h2 (hun j oj h2 hne h1);have hl:=List.all_eq_true.1 hk oj hm;unfold yF at hl;obtain⟨e,he,hb⟩:=List.any_eq_true.1 hl;simp only[Bool.and_eq_true,Nat.ble_eq]at hb;have:=h3 e (by simpa using he) hb.1;rw[hf.getD]at this
    split at this
    ·simp at this;omega
    ·cases this
   by_cases hw:Region.wanted o (yielded ops a.tmps)=true
   ·by_cases hp:ao o=true
    ·rw[if_pos hw,if_pos hp]at h;obtain⟨v,h1,h2⟩:=h;exact pY hoi _ listed a w hrd hone (fR hp hw h1) (eG hβ hsel hQ r (i+1) _ _ w hr' (by omega) hF hB' h2)
    ·rw[if_pos hw,if_neg hp]at h;refine⟨fun h0=>absurd hrd (by rw[h0];exact List.not_mem_nil),fun j hj=> ?_⟩;obtain rfl:=hone j hj;unfold wpOp;simp only[hoi];rw[if_pos hw];exact .inl (Oper.wp_mono (fun a' w' h'=>⟨h'.1,eG hβ hsel hQ r (j+1) _ a' w' hr' (by omega) hF hB' h'.2⟩) h)
   ·rw[if_neg hw]at h;exact pY hoi _ listed a w hrd hone (.inr ⟨by simpa using hw,rfl⟩) (eG hβ hsel hQ r (i+1) _ _ w hr' (by omega) hF hB' h)
  ·simp only[Bool.and_eq_true]at hk;obtain⟨hp,hk⟩:=hk
   have hfree: ∀j oj,ops[j]? =some oj→j≠i→listed.getD j true=false→(∀e∈oj.after,Region.binds md e=true→e.on≠i)→o.apart ops oj=true:=fun j oj hj hne hu hno=>by
    have hl:=List.all_eq_true.1 hk oj (hat j oj hj (hun j oj hj hne hu));simp only[Bool.or_eq_true]at hl;rcases hl with hl|hl
    ·obtain⟨e,he,hb⟩:=List.any_eq_true.1 hl;simp only[Bool.and_eq_true]at hb;exact absurd (Nat.eq_of_beq_eq_true hb.2) (hno e (by simpa using he) hb.1)
    ·exact hl
   by_cases hw:Region.wanted o (yielded ops a.tmps)=true
   ·rw[if_pos hw,if_pos hp]at h;obtain⟨v,h1,h2⟩:=h;exact ix hβ hoi hsel hQ _ listed a w hfree hrd (fR hp hw h1) (eG hβ hsel hQ r (i+1) _ _ w hr' (by omega) hF hB' h2)
   ·rw[if_neg hw]at h;exact ix hβ hoi hsel hQ _ listed a w hfree hrd (.inr ⟨by simpa using hw,rfl⟩) (eG hβ hsel hQ r (i+1) _ _ w hr' (by omega) hF hB' h)
def qr (ops:List Oper):Bool:=Region.noSelect ops.toArray && jm .any ops.toArray 0 ops
theorem sG (hβ:lz β){l:List Oper}{id:Nat}{a:Act}{w:World}(hm:P.follows .mixedOrders=true)(hB:qr l=true)(hQ: ∀c d v a w,Q (.panic c) (Act.put a d v) w→Q (.panic c) a w)
  (h:aO β P l.toArray Q l a w.drew):(Code.region id l.toArray true).wp P Q a w:=by
 unfold qr at hB;simp only[Bool.and_eq_true]at hB;refine wp_region_any hm (iK (β:=β) _ _ _ _ ?_);have:=eG (md:= .any) (ops:=l.toArray) hβ hB.1 hQ l 0 (Array.replicate l.toArray.size false) a w.drew (by simp) (Nat.zero_le _) ⟨by simp,fun k hk=>by simp at hk;simp[hk]⟩ hB.2 h;simpa using this
theorem cW {l:List Oper}{id:Nat}{a:Act}{w:World}(hm:P.follows .mixedOrders=true)(hB:qr l=true)(hQ: ∀c d v a w,Q (.panic c) (Act.put a d v) w→Q (.panic c) a w)
  (h:aO (fun w=>w.heap.size) P l.toArray Q l a w.drew):(Code.region id l.toArray true).wp P Q a w:=sG mM hm hB hQ h
end
end Go.Proofs.YtgfidiocmiolpaaGreat
/- The order of two values that may be, as the document's answer has it. -/
namespace Go.Proofs.YtgfidiocmiolpaaGreat
open Go.RowKit
theorem m4 {w:World}{S:Nat→Prop}{a b:VT}{va vb:Value}(hS: ∀b,S b→b<w.heap.size)(ha:LV w S a va)(hb:LV w S b vb):
  ∃A ca A' ca' B cb B' cb',va= .agg #[.int .i64 a.kind,.int .i64 a.num,.string a.text,.slice A a.items.length ca,.slice A' a.names.length ca']∧vb= .agg #[.int .i64 b.kind,.int .i64 b.num,.string b.text,.slice B b.items.length cb,.slice B' b.names.length cb']∧
   (a.items.length≤140737488351232∧a.names.length≤140737488351232∧b.items.length≤140737488351232∧b.names.length≤140737488351232)∧LVA w S A a.items∧aD w S A' a.names∧LVA w S B b.items∧aD w S B' b.names∧
   Vr ((w.alloc (.cells #[.int .i64 a.kind,.int .i64 a.num,.string a.text,.slice A a.items.length ca,.slice A' a.names.length ca'] 43)).alloc (.cells #[.int .i64 b.kind,.int .i64 b.num,.string b.text,.slice B b.items.length cb,.slice B' b.names.length cb'] 43)) S w.heap.size a A ca A' ca'∧
   Vr ((w.alloc (.cells #[.int .i64 a.kind,.int .i64 a.num,.string a.text,.slice A a.items.length ca,.slice A' a.names.length ca'] 43)).alloc (.cells #[.int .i64 b.kind,.int .i64 b.num,.string b.text,.slice B b.items.length cb,.slice B' b.names.length cb'] 43)) S (w.heap.size+1) b B cb B' cb'∧
   Below w.heap.size w ((w.alloc (.cells #[.int .i64 a.kind,.int .i64 a.num,.string a.text,.slice A a.items.length ca,.slice A' a.names.length ca'] 43)).alloc (.cells #[.int .i64 b.kind,.int .i64 b.num,.string b.text,.slice B b.items.length cb,.slice B' b.names.length cb'] 43)):=by
 obtain⟨A,ca,A',ca',rfl,-,-,-,a4,a5,a6,a7⟩:=ha.shape;obtain⟨B,cb,B',cb',rfl,-,-,-,b4,b5,b6,b7⟩:=hb.shape;refine⟨A,ca,A',ca',B,cb,B',cb',rfl,rfl,⟨a4,a5,b4,b5⟩,a7,a6,b7,b6,(Vr.new hS ha).alloc _,?_,(af _).alloc (by simp) _⟩;have h:=Vr.new (ik hS (.cells #[.int .i64 a.kind,.int .i64 a.num,.string a.text,.slice A a.items.length ca,.slice A' a.names.length ca'] 43)) (hb.alloc hS (.cells #[.int .i64 a.kind,.int .i64 a.num,.string a.text,.slice A a.items.length ca,.slice A' a.names.length ca'] 43));have e:(w.alloc (.cells #[.int .i64 a.kind,.int .i64 a.num,.string a.text,.slice A a.items.length ca,.slice A' a.names.length ca'] 43)).heap.size=w.heap.size+1:=by simp
 rw[e]at h;exact h
open Lib (hid)
theorem VT.same {a b:VT}(h0:a.kind=b.kind)(h1:a.num=b.num)(h2:a.text=b.text)(h3:a.items=b.items)(h4:a.names=b.names):a=b:=by
 cases a;cases b;simp only[VT.kind,VT.num,VT.text,VT.items,VT.names]at *;subst h0 h1 h2 h3 h4;rfl
theorem gy {a b:VT}(h: ¬a=b):(false=true)↔a=b:=⟨fun h=>(by cases h),fun h'=>absurd h' h⟩
theorem gn (S:Nat→Prop): ∀(n:Nat) (a b:VT) (va vb:Value) (w:World),av a≤n→(∀b,S b→b<w.heap.size)→LV w S a va→LV w S b vb→
  Calls Tryz.prog 57 #[va,vb] w fun e w'=>(∃r:Bool,e= .returned (.bool r)∧(r=true↔a=b))∧Below w.heap.size w w':=by
 intro n
 induction n with
 |zero=>intro a b va vb w hd;cases a;rw[bu]at hd;omega
 |succ n ih=>
  intro a b va vb w hd hS ha hb;obtain⟨A,ca,A',ca',B,cb,B',cb',rfl,rfl,lens,a7,a6,b7,b6,v1,v2,hb0⟩:=m4 hS ha hb;have LENS:=hid lens;have A7:=hid a7;have A6:=hid a6;have B7:=hid b7;have B6:=hid b6;have P10:=hid v1;have P20:=hid v2;have HB0:=hid hb0;have HD:=hid hd;have k0:=v1.x.c0;have k1:=v1.x.c1;have k2:=v1.x.c2;have k3:=v1.x.c3;have k4:=v1.x.c4;have l0:=v2.x.c0;have l1:=v2.x.c1;have l2:=v2.x.c2;have l3:=v2.x.c3;have l4:=v2.x.c4;clear ha hb lens a7 a6 b7 b6 v1 v2 hb0 hd;by_cases hk:a.kind=b.kind
  ·have ek1:(a.kind == b.kind)=true:=by simpa using hk
   have ek2:(a.kind != b.kind)=false:=by simpa using hk
   have HK:=hid hk;clear hk;by_cases hi:a.num=b.num
   ·have ei1:(a.num == b.num)=true:=by simpa using hi
    have ei2:(a.num != b.num)=false:=by simpa using hi
    have HI:=hid hi;clear hi;by_cases ht:a.text.toList=b.text.toList
    ·have et1:(a.text.toList == b.text.toList)=true:=by simpa using ht
     have HT:Hid (a.text=b.text):=hid (toList_inj ht);clear ht;by_cases hl:a.items.length=b.items.length
     ·have el1:((a.items.length:Int) == (b.items.length:Int))=true:=beq_iff_eq.2 (by omega);have el2:((a.items.length:Int) != (b.items.length:Int))=false:=bne_eq_false_iff_eq.2 (by omega);have el3:(a.items.length == b.items.length)=true:=by simpa using hl
      have HL:=hid hl;clear hl;by_cases hn:a.names.length=b.names.length
      ·have en1:((a.names.length:Int) == (b.names.length:Int))=true:=beq_iff_eq.2 (by omega);have en2:((a.names.length:Int) != (b.names.length:Int))=false:=bne_eq_false_iff_eq.2 (by omega);have en3:(a.names.length == b.names.length)=true:=by simpa using hn
       have HN:=hid hn;clear hn;go_enter Tryz.func57,Tryz.ntmps57;go_wp2_with fail;clear k0 k1 k2 k3 k4 l0 l1 l2 l3 l4 ek1 ek2 ei1 ei2 et1 el1 el2 el3 en1 en2 en3
       go_loopw [5] (fun i wr=> ∃j:Nat,i= .int .i64 j∧j≤a.items.length∧Hid (∀k (h:k<a.items.length) (h':k<b.items.length),k<j→a.items[k]=b.items[k])∧Hid (Below w.heap.size w wr)∧
        Hid (Vr wr S w.heap.size a A ca A' ca')∧Hid (Vr wr S (w.heap.size+1) b B cb B' cb')) (fun i _=>a.items.length - (intOf i).toNat)
       case atStart=>exact⟨0,rfl,Nat.zero_le _,hid (fun k _ _ h=>absurd h (Nat.not_lt_zero _)),HB0,P10,P20⟩
       case round=>
        obtain⟨j,rfl,hj1,HE,HB,P1,P2⟩:=hrel;have k3:=P1.out.x.c3;have hl1:=LENS.out.1;by_cases hla:j<a.items.length
        ·have hlb:j<b.items.length:=by have:=HL.out;omega
         have HDJ:Hid (av a.items[j]≤n):=hid (by
          have hdp:=dh (List.getElem_mem hla);have hdt:av a=bz a.items+1:=by cases a;exact bu _ _ _ _ _
          have:=HD.out
          omega)
         obtain⟨p,o,A2,e2,A3,e3,rfl,hp,h0,h1,h2,h3,h4,hx⟩:=js hS A7.out HB.out j hla;obtain⟨p',o',B2,f2,B3,f3,rfl,hp',g0,g1,g2,g3,g4,hy⟩:=js hS B7.out HB.out j hlb;have hp2:p<wr.heap.size:=Nat.lt_of_lt_of_le hp HB.out.size;have hp2':p'<wr.heap.size:=Nat.lt_of_lt_of_le hp' HB.out.size;have HC:=hid (ih a.items[j] b.items[j] _ _ wr.drew HDJ.out P1.out.drew.s hx.drew hy.drew);clear hx hy hp hp' HDJ;go_wp2_with fail;try simp only[List.append_eq,List.cons_append,List.nil_append]
         refine cW (by kernel_rfl) (by kernel_rfl) (fun _ d _ _ _ h=>by cases d<;>exact h) ?_;have q3:=aa (B:=wr.heap.size) (w:=wr.drew) P1.out.x.c3 P1.out.x.lt;have q3':=aa (B:=wr.heap.size) (w:=wr.drew) P2.out.x.c3 P2.out.x.lt;have p0:=aa (B:=wr.heap.size) (w:=wr.drew) h0 hp2;have p1:=aa (B:=wr.heap.size) (w:=wr.drew) h1 hp2;have p2:=aa (B:=wr.heap.size) (w:=wr.drew) h2 hp2;have p3:=aa (B:=wr.heap.size) (w:=wr.drew) h3 hp2;have p4:=aa (B:=wr.heap.size) (w:=wr.drew) h4 hp2;have s0:=aa (B:=wr.heap.size) (w:=wr.drew) g0 hp2';have s1:=aa (B:=wr.heap.size) (w:=wr.drew) g1 hp2';have s2:=aa (B:=wr.heap.size) (w:=wr.drew) g2 hp2';have s3:=aa (B:=wr.heap.size) (w:=wr.drew) g3 hp2';have s4:=aa (B:=wr.heap.size) (w:=wr.drew) g4 hp2';first|with_reducible refine ac ?_ |with_reducible refine ab ?_ |refine ac ?_ |refine ab ?_
         simp only[List.takeWhile,List.dropWhile,ao,Nat.reduceBNe];repeat(go_big_quiet_step (fail))
         first|with_reducible refine wpQuiet_nil ?_ |refine wpQuiet_nil ?_
         first|with_reducible refine al ?_ (fun K hK=> ?_)|with_reducible refine aj ?_ (fun K hK=> ?_)|refine al ?_ (fun K hK=> ?_)|refine aj ?_ (fun K hK=> ?_)
         ·rfl
         go_simp
         refine(HC.out).mono ?_;rintro e w4 ⟨⟨r,rfl,hr⟩,hb⟩;refine hK _ _ hb ?_;clear hK K;try simp only[Act.put]
         have HRR:=hid hr;clear hr;first|with_reducible refine ac ?_ |with_reducible refine ab ?_ |refine ac ?_ |refine ab ?_
         simp only[List.takeWhile,List.dropWhile,ao,Nat.reduceBNe];repeat(go_big_quiet_step (fail))
         first|with_reducible refine wpQuiet_nil ?_ |refine wpQuiet_nil ?_
         unfold aO;have HB:=hid (aE HB.out (aW hb));have P1:=hid (P1.out.call (aW hb));have P2:=hid (P2.out.call (aW hb));clear q3 q3' p0 p1 p2 p3 p4 s0 s1 s2 s3 s4 hb HC h0 h1 h2 h3 h4 g0 g1 g2 g3 g4 hp2 hp2' k3;cases r
         ·have HF:Hid ((false=true)↔a=b):=hid (gy fun h=>by
           have h1:=HRR.out.2 (by subst h;rfl)
           cases h1)
          go_wp2_with fail;go_ret;exact⟨⟨_,rfl,HF.out⟩,HB.out⟩
         ·have HEQ:=hid (HRR.out.1 rfl);go_wp2_with fail
          go_roundw
          case rel=>exact⟨j+1,by go_num,by omega,hid (fun k h h' hkj=>by
           by_cases e:k=j
           ·subst e;exact HEQ.out
           ·exact HE.out k h h' (by omega)),HB,P1,P2⟩
          case measure=>simp[intOf];omega
        ·have HEA:Hid (a.items=b.items):=hid (List.ext_getElem HL.out (fun k h h'=>HE.out k h h' (by omega)));obtain rfl:j=a.items.length:=by omega
         clear HE;go_wp2_with fail;clear k3 hla hj1
         go_loopw [6] (fun i wr=> ∃j:Nat,i= .int .i64 j∧j≤a.names.length∧Hid (∀k (h:k<a.names.length) (h':k<b.names.length),k<j→a.names[k]=b.names[k])∧Hid (Below w.heap.size w wr)∧
          Hid (Vr wr S w.heap.size a A ca A' ca')∧Hid (Vr wr S (w.heap.size+1) b B cb B' cb')) (fun i _=>a.names.length - (intOf i).toNat)
         case atStart=>exact⟨0,rfl,Nat.zero_le _,hid (fun k _ _ h=>absurd h (Nat.not_lt_zero _)),HB,P1,P2⟩
         case round=>
          rename_i wr0 _ _ wr;obtain⟨j,rfl,hj1,HE,HB,P1,P2⟩:=hrel;have k4:=P1.out.x.c4;have hl1:=LENS.out.2.1;by_cases ia:j<a.names.length
          ·have ib:j<b.names.length:=by have:=HN.out;omega
           have hl2:=LENS.out.2.2.2;obtain⟨qa,oa,rfl,hqa,t1,hsa⟩:=lP hS A6.out HB.out j ia;obtain⟨qb,ob,rfl,hqb,t2,hsb⟩:=lP hS B6.out HB.out j ib;have hqa2:qa<wr.heap.size:=Nat.lt_of_lt_of_le hqa HB.out.size;have hqb2:qb<wr.heap.size:=Nat.lt_of_lt_of_le hqb HB.out.size;clear hqa hqb hsa hsb;obtain⟨sa,hsa⟩: ∃sa,sa=a.names[j]:=⟨_,rfl⟩;obtain⟨sb,hsb⟩: ∃sb,sb=b.names[j]:=⟨_,rfl⟩;rw[←hsa]at t1;rw[←hsb]at t2;have HSA:=hid hsa;have HSB:=hid hsb;clear hsa hsb;by_cases hs:sa.toList=sb.toList
           ·have es:(sa.toList == sb.toList)=true:=by simpa using hs
            have HEQ:Hid (a.names[j]=b.names[j]):=hid (by rw[←HSA.out,←HSB.out];exact toList_inj hs);clear hs;go_wp2_with fail;try simp only[List.append_eq,List.cons_append,List.nil_append]
            refine cW (by kernel_rfl) (by kernel_rfl) (fun _ d _ _ _ h=>by cases d<;>exact h) ?_;have q4:=aa (B:=wr.heap.size) (w:=wr.drew) P1.out.x.c4 P1.out.x.lt;have q4':=aa (B:=wr.heap.size) (w:=wr.drew) P2.out.x.c4 P2.out.x.lt;have u1:=aa (B:=wr.heap.size) (w:=wr.drew) t1 hqa2;have u2:=aa (B:=wr.heap.size) (w:=wr.drew) t2 hqb2;first|with_reducible refine ac ?_ |with_reducible refine ab ?_ |refine ac ?_ |refine ab ?_
            simp only[List.takeWhile,List.dropWhile,ao,Nat.reduceBNe];repeat(go_big_quiet_step (fail))
            first|with_reducible refine wpQuiet_nil ?_ |refine wpQuiet_nil ?_
            unfold aO;clear q4 q4' u1 u2 t1 t2 hqa2 hqb2;go_wp2_with fail
            go_roundw
            case rel=>exact⟨j+1,by go_num,by omega,hid (fun k h h' hkj=>by
             by_cases e:k=j
             ·subst e;exact HEQ.out
             ·exact HE.out k h h' (by omega)),hid HB.out.drew,hid P1.out.drew,hid P2.out.drew⟩
            case measure=>simp[intOf];omega
           ·have es:(sa.toList == sb.toList)=false:=by simpa using hs
            have HF:Hid ((false=true)↔a=b):=hid (gy fun h=>hs (by
             rw[HSA.out,HSB.out]
             subst h;rfl))
            clear hs;go_wp2_with fail;try simp only[List.append_eq,List.cons_append,List.nil_append]
            refine cW (by kernel_rfl) (by kernel_rfl) (fun _ d _ _ _ h=>by cases d<;>exact h) ?_;have q4:=aa (B:=wr.heap.size) (w:=wr.drew) P1.out.x.c4 P1.out.x.lt;have q4':=aa (B:=wr.heap.size) (w:=wr.drew) P2.out.x.c4 P2.out.x.lt;have u1:=aa (B:=wr.heap.size) (w:=wr.drew) t1 hqa2;have u2:=aa (B:=wr.heap.size) (w:=wr.drew) t2 hqb2;first|with_reducible refine ac ?_ |with_reducible refine ab ?_ |refine ac ?_ |refine ab ?_
            simp only[List.takeWhile,List.dropWhile,ao,Nat.reduceBNe];repeat(go_big_quiet_step (fail))
            first|with_reducible refine wpQuiet_nil ?_ |refine wpQuiet_nil ?_
            unfold aO;clear q4 q4' u1 u2 t1 t2 hqa2 hqb2;go_wp2_with fail;go_ret;exact⟨⟨_,rfl,HF.out⟩,HB.out.drew⟩
          ·have HF:Hid ((true=true)↔a=b):=hid ⟨fun _=>VT.same HK.out HI.out HT.out HEA.out (List.ext_getElem HN.out (fun k h h'=>HE.out k h h' (by omega))),fun _=>rfl⟩;go_wp2_with fail;go_ret;exact⟨.inr ⟨rfl,by have h:=HF.out;simpa using h⟩,HB.out⟩
      ·have en1:((a.names.length:Int) == (b.names.length:Int))=false:=beq_eq_false_iff_ne.2 (by omega);have en2:((a.names.length:Int) != (b.names.length:Int))=true:=bne_iff_ne.2 (by omega);have en3:(a.names.length == b.names.length)=false:=by simpa using hn
       have HF:Hid ((false=true)↔a=b):=hid (gy fun h=>hn (by rw[h]));clear hn;go_enter Tryz.func57,Tryz.ntmps57;go_wp2_with fail;go_ret;exact⟨⟨_,rfl,HF.out⟩,HB0.out⟩
     ·have el1:((a.items.length:Int) == (b.items.length:Int))=false:=beq_eq_false_iff_ne.2 (by omega);have el2:((a.items.length:Int) != (b.items.length:Int))=true:=bne_iff_ne.2 (by omega);have el3:(a.items.length == b.items.length)=false:=by simpa using hl
      have HF:Hid ((false=true)↔a=b):=hid (gy fun h=>hl (by rw[h]));clear hl;go_enter Tryz.func57,Tryz.ntmps57;go_wp2_with fail;go_ret;exact⟨⟨_,rfl,HF.out⟩,HB0.out⟩
    ·have et1:(a.text.toList == b.text.toList)=false:=by simpa using ht
     have HF:Hid ((false=true)↔a=b):=hid (gy fun h=>ht (by rw[h]));clear ht;go_enter Tryz.func57,Tryz.ntmps57;go_wp2_with fail;go_ret;exact⟨⟨_,rfl,HF.out⟩,HB0.out⟩
   ·have ei1:(a.num == b.num)=false:=by simpa using hi
    have ei2:(a.num != b.num)=true:=by simpa using hi
    have HF:Hid ((false=true)↔a=b):=hid (gy fun h=>hi (by rw[h]));clear hi;go_enter Tryz.func57,Tryz.ntmps57;go_wp2_with fail;go_ret;exact⟨⟨_,rfl,HF.out⟩,HB0.out⟩
  ·have ek1:(a.kind == b.kind)=false:=by simpa using hk
   have ek2:(a.kind != b.kind)=true:=by simpa using hk
   have HF:Hid ((false=true)↔a=b):=hid (gy fun h=>hk (by rw[h]));clear hk;go_enter Tryz.func57,Tryz.ntmps57;go_wp2_with fail;go_ret;exact⟨⟨_,rfl,HF.out⟩,HB0.out⟩
theorem p5 {ns:List ByteArray}(h: ∀x y (_:x<ns.length) (_:y<ns.length),x<y→ns[x]≠ns[y]):ns.Nodup:=List.pairwise_iff_getElem.2 fun x y hx hy hxy=>h x y hx hy hxy
theorem uy {ns:List ByteArray}{x y:Nat}(hx:x<ns.length)(hy:y<ns.length)(hxy:x<y)(h:ns[x]=ns[y]): ¬ns.Nodup:=fun hn=>List.pairwise_iff_getElem.1 hn x y hx hy hxy h
theorem tN (S:Nat→Prop)(A:Option Addr)(c:Nat)(ns:List ByteArray)(w:World)(hS: ∀b,S b→b<w.heap.size)(h:aD w S A ns)(hl:ns.length≤140737488351232):
  Calls Tryz.prog 120 #[.slice A ns.length c] w fun e w'=>(∃r:Bool,e= .returned (.bool r)∧(r=true↔ ¬ns.Nodup))∧Below w.heap.size w w':=by
 have HH:=hid h;clear h;go_enter Tryz.func120,Tryz.ntmps120;go_wp2_with fail
 go_loopw [3,4] (fun i k wr=> ∃j:Nat,i= .int .i64 j∧j≤ns.length∧Hid (∀x y (_:x<ns.length) (_:y<ns.length),x<y→y<j→ns[x]≠ns[y])∧Hid (Below w.heap.size w wr)) (fun i _ _=>ns.length - (intOf i).toNat)
 case atStart=>exact⟨0,rfl,Nat.zero_le _,hid (fun _ _ _ _ _ h=>absurd h (Nat.not_lt_zero _)),hid (Below.refl _ _)⟩
 case round=>
  obtain⟨j,rfl,hj,HD,HB⟩:=hrel;by_cases hlt:j<ns.length
  ·obtain⟨p,o,rfl,hp,hc⟩:=HH.out (by omega);have HC:=hid hc;have HP:=hid (hS p hp);clear hc hp;go_wp2_with fail
   go_loopw [4] (fun k wr=> ∃m:Nat,k= .int .i64 m∧m≤j∧Hid (∀x (_:x<ns.length),x<m→ns[x]≠ns[j])∧Hid (Below w.heap.size w wr)) (fun k _=>j - (intOf k).toNat)
   case atStart=>exact⟨0,rfl,Nat.zero_le _,hid (fun _ _ h=>absurd h (Nat.not_lt_zero _)),HB⟩
   case round=>
    rename_i wr;obtain⟨m,rfl,hm,HE,HB⟩:=hrel;by_cases hmj:m<j
    ·have hml:m<ns.length:=by omega
     have t1:wr.cell? ⟨p,o+j,none⟩=some (.string ns[j]):=(HB.out.cell (p:=⟨p,o+j,none⟩) HP.out).trans (HC.out j hlt).1;have t2:wr.cell? ⟨p,o+m,none⟩=some (.string ns[m]):=(HB.out.cell (p:=⟨p,o+m,none⟩) HP.out).trans (HC.out m hml).1;have hp2:p<wr.heap.size:=Nat.lt_of_lt_of_le HP.out HB.out.size;obtain⟨sa,hsa⟩: ∃sa,sa=ns[j]:=⟨_,rfl⟩;obtain⟨sb,hsb⟩: ∃sb,sb=ns[m]:=⟨_,rfl⟩;rw[←hsa]at t1;rw[←hsb]at t2;have HSA:=hid hsa;have HSB:=hid hsb;clear hsa hsb;by_cases hs:sa.toList=sb.toList
     ·have es:(sa.toList == sb.toList)=true:=by simpa using hs
      have HF:Hid (¬ns.Nodup):=hid (uy hml hlt hmj (by rw[←HSA.out,←HSB.out];exact(toList_inj hs).symm));clear hs;go_wp2_with fail;try simp only[List.append_eq,List.cons_append,List.nil_append]
      refine cW (by kernel_rfl) (by kernel_rfl) (fun _ d _ _ _ h=>by cases d<;>exact h) ?_;have u1:=aa (B:=wr.heap.size) (w:=wr.drew) t1 hp2;have u2:=aa (B:=wr.heap.size) (w:=wr.drew) t2 hp2;first|with_reducible refine ac ?_ |with_reducible refine ab ?_ |refine ac ?_ |refine ab ?_
      simp only[List.takeWhile,List.dropWhile,ao,Nat.reduceBNe];repeat(go_big_quiet_step (fail))
      first|with_reducible refine wpQuiet_nil ?_ |refine wpQuiet_nil ?_
      unfold aO;clear u1 u2 t1 t2;go_wp2_with fail;go_ret;exact⟨⟨_,rfl,⟨fun _=>HF.out,fun _=>rfl⟩⟩,HB.out.drew⟩
     ·have es:(sa.toList == sb.toList)=false:=by simpa using hs
      have HNE:Hid (ns[m]≠ns[j]):=hid (fun h=>hs (by rw[HSA.out,HSB.out,h]));clear hs;go_wp2_with fail;try simp only[List.append_eq,List.cons_append,List.nil_append]
      refine cW (by kernel_rfl) (by kernel_rfl) (fun _ d _ _ _ h=>by cases d<;>exact h) ?_;have u1:=aa (B:=wr.heap.size) (w:=wr.drew) t1 hp2;have u2:=aa (B:=wr.heap.size) (w:=wr.drew) t2 hp2;first|with_reducible refine ac ?_ |with_reducible refine ab ?_ |refine ac ?_ |refine ab ?_
      simp only[List.takeWhile,List.dropWhile,ao,Nat.reduceBNe];repeat(go_big_quiet_step (fail))
      first|with_reducible refine wpQuiet_nil ?_ |refine wpQuiet_nil ?_
      unfold aO;clear u1 u2 t1 t2;go_wp2_with fail
      go_roundw
      case rel=>exact⟨m+1,by go_num,by omega,hid (fun x hx hxm=>by
       by_cases e:x=m
       ·subst e;exact HNE.out
       ·exact HE.out x hx (by omega)),hid HB.out.drew⟩
      case measure=>simp[intOf];omega
    ·go_wp2_with fail
     go_roundw
     case rel=>exact⟨j+1,by go_num,by omega,hid (fun x y hx hy hxy hyj=>by
      by_cases e:y=j
      ·subst e;exact HE.out x hx (by omega)
      ·exact HD.out x y hx hy hxy (by omega)),HB⟩
     case measure=>simp[intOf];omega
  ·have HF:Hid (ns.Nodup):=hid (p5 fun x y hx hy hxy=>HD.out x y hx hy hxy (by omega));go_wp2_with fail;go_ret;exact⟨⟨_,rfl,⟨fun h=>(by cases h),fun h=>absurd HF.out h⟩⟩,HB.out⟩
theorem se {k i:Int}{s:ByteArray}{n:Nat}{ns:List ByteArray}(h:bf k i s n ns=true): ∀x∈ns,cH x.data.toList=true:=by
 unfold bf at h;by_cases h1:k=1
 ·simp[h1]at h;rw[h.2.2];simp
 ·by_cases h2:k=2
  ·simp[h2]at h;rw[h.2.2];simp
  ·by_cases h3:k=3
   ·simp[h3]at h;rw[h.2.2];simp
   ·by_cases h4:k=4∨k=5
    ·simp[h1,h2,h3,h4]at h;rw[h.2.2];simp
    ·by_cases h6:k=6
     ·simp[h6]at h;rw[h.2];simp
     ·by_cases h7:k=7
      ·simp[h7]at h;exact(gu.1 h.2).1
      ·simp[h1,h2,h3,h4,h6,h7]at h
theorem mA (t:VT):bE t=(bf t.kind t.num t.text t.items.length t.names && dw t.items):=by
 cases t;unfold bE lW;rfl
theorem mg : ∀ {l:List VT},(∀j (h:j<l.length),bE l[j]=true)→dw l=true
 | [],_=>by unfold dw;rfl
 |t::r,h=>by
  unfold dw;rw[Bool.and_eq_true]
  exact⟨h 0 (by simp),mg fun j hj=>by
   have:=h (j+1) (by simpa using hj)
   rwa[List.getElem_cons_succ]at this⟩
theorem nA {ns:List ByteArray}(h: ∀j (h:j<ns.length),cH (ns[j]).data.toList=true):bU ns=true↔ns.Nodup:=by
 rw[gu]
 exact⟨fun h=>h.2,fun h2=>⟨fun s hs=>by
  obtain⟨j,hj,rfl⟩:=List.mem_iff_getElem.1 hs
  exact h j hj,h2⟩⟩
theorem sE {ns:List ByteArray}{r:Bool}(h:bU ns=true↔ns.Nodup)(hr:r=true↔ ¬ns.Nodup):bU ns= !r :=by
 cases r
 ·have:ns.Nodup:=Classical.byContradiction fun hn=>by have:=hr.2 hn;cases this
  rw[h.2 this];rfl
 ·have: ¬ns.Nodup:=hr.1 rfl;have:bU ns=false:=Bool.eq_false_iff.2 fun hd=>this (h.1 hd);rw[this];rfl
theorem xn (S:Nat→Prop): ∀(n:Nat) (t:VT) (v:Value) (w:World),av t≤n→(∀b,S b→b<w.heap.size)→LV w S t v→
  Calls Tryz.prog 88 #[v] w fun e w'=>e= .returned (.bool (bE t))∧Below w.heap.size w w':=by
 intro n
 induction n with
 |zero=>intro t v w hd;cases t;rw[bu]at hd;omega
 |succ n ih=>
  intro t v w hd hS h;obtain⟨A,c,A',c',rfl,lens,a7,a6,v1,hb0⟩:=gN hS h;have LENS:=hid lens;have A7:=hid a7;have A6:=hid a6;have P0:=hid v1;have HB0:=hid hb0
  have HD:Hid (bz t.items≤n):=hid (by
   have hdt:av t=bz t.items+1:=by cases t;exact bu _ _ _ _ _
   omega)
  have HR:=hid (mA t);generalize bE t=R at *;clear h lens a7 a6 v1 hb0 hd;go_enter Tryz.func88,Tryz.ntmps88;go_wp2_with fail
  go_loopw [3] (fun i wr=> ∃j:Nat,i= .int .i64 j∧j≤t.items.length∧Hid (∀x (_:x<t.items.length),x<j→bE t.items[x]=true)∧Hid (Below w.heap.size w wr)∧Hid (Vr wr S w.heap.size t A c A' c')) (fun i _=>t.items.length - (intOf i).toNat)
  case atStart=>exact⟨0,rfl,Nat.zero_le _,hid (fun _ _ h=>absurd h (Nat.not_lt_zero _)),HB0,P0⟩
  case round=>
   obtain⟨j,rfl,hj,HE,HB,P⟩:=hrel;have k3:=P.out.x.c3;have hl:=LENS.out.1;by_cases hlt:j<t.items.length
   ·obtain⟨p,o,A2,e2,A3,e3,rfl,hp,h0,h1,h2,h3,h4,hx⟩:=js hS A7.out HB.out j hlt;have HC:=hid (ih t.items[j] _ wr (Nat.le_trans (dh (List.getElem_mem hlt)) HD.out) P.out.s hx);obtain⟨C,hC⟩: ∃C,C=bE t.items[j]:=⟨_,rfl⟩;rw[←hC]at HC;have HCC:=hid hC;clear hx hp hC;go_wp2_with fail;refine HC.out.mono ?_;rintro e w2 ⟨rfl,hb⟩;have P2:=hid (P.out.call hb);have HB2:=hid (aE HB.out hb);clear hb HC k3 h0 h1 h2 h3 h4 P HB P0 HB0;cases C
    ·have HF:Hid (R=false):=hid (by
      rw[HR.out,Bool.and_eq_false_iff];refine .inr (Bool.eq_false_iff.2 fun h=> ?_);have h1:=dS h (List.getElem_mem hlt)
      rw[←HCC.out]at h1;cases h1)
     go_wp2_with fail;go_ret;exact⟨aP HF.out.symm,HB2.out⟩
    ·go_wp2_with fail
     go_roundw
     case rel=>exact⟨j+1,by go_num,by omega,hid (fun x hx hxj=>by
      by_cases e:x=j
      ·subst e;exact HCC.out.symm
      ·exact HE.out x hx (by omega)),HB2,P2⟩
     case measure=>simp[intOf];omega
   ·have HML:Hid (dw t.items=true):=hid (mg fun x hx=>HE.out x hx (by omega));have HR2:Hid (R=bf t.kind t.num t.text t.items.length t.names):=hid (by rw[HR.out,HML.out,Bool.and_true]);clear HR HE HML P0 HB0;go_wp2_with fail;clear k3 hl hlt hj
    go_loopw [4] (fun i wr=> ∃m:Nat,i= .int .i64 m∧m≤t.names.length∧Hid (∀x (_:x<t.names.length),x<m→cH (t.names[x]).data.toList=true)∧Hid (Below w.heap.size w wr)∧Hid (Vr wr S w.heap.size t A c A' c')) (fun i _=>t.names.length - (intOf i).toNat)
    case atStart=>exact⟨0,rfl,Nat.zero_le _,hid (fun _ _ h=>absurd h (Nat.not_lt_zero _)),HB,P⟩
    case round=>
     rename_i wr0 _ _ wr;clear P HB;obtain⟨m,rfl,hm,HE,HB,P⟩:=hrel;have k4:=P.out.x.c4;have hl2:=LENS.out.2;by_cases hlt:m<t.names.length
     ·obtain⟨p,o,rfl,hp,t1,hsz⟩:=lP hS A6.out HB.out m hlt;obtain⟨s,hs⟩: ∃s,s=t.names[m]:=⟨_,rfl⟩;rw[←hs]at t1 hsz;have HS:=hid hs;have HSZ:=hid hsz;clear hp hs hsz;go_wp2_with fail;refine(oM s _ (by have:=HSZ.out;omega)).mono ?_;rintro e u ⟨rfl,rfl⟩;clear k4 t1;cases hC:cH s.data.toList
      ·have HF:Hid (R=false):=hid (by
        rw[HR2.out];refine Bool.eq_false_iff.2 fun h=> ?_;have h1:=se h _ (List.getElem_mem hlt)
        rw[←HS.out,hC]at h1;cases h1)
       clear hC;go_wp2_with fail;go_ret;exact⟨aP HF.out.symm,HB.out⟩
      ·have HC:=hid hC;clear hC;go_wp2_with fail
       go_roundw
       case rel=>exact⟨m+1,by go_num,by omega,hid (fun x hx hxj=>by
        by_cases e:x=m
        ·subst e;rw[←HS.out];exact HC.out
        ·exact HE.out x hx (by omega)),HB,P⟩
       case measure=>simp[intOf];omega
     ·have HD2:Hid (bU t.names=true↔t.names.Nodup):=hid (nA fun x hx=>HE.out x hx (by omega));have TW:=hid (tN S A' c' t.names wr.drew (P.out.drew.s) ((A6.out.below hS HB.out).keep (fun _ _=>rfl)) LENS.out.2);clear HE hm;go_wp2_with fail;try simp only[List.append_eq,List.cons_append,List.nil_append]
      refine cW (by kernel_rfl) (by kernel_rfl) (fun _ d _ _ _ h=>by cases d<;>exact h) ?_;have q3:=aa (B:=wr.heap.size) (w:=wr.drew) P.out.x.c3 P.out.x.lt;have q4:=aa (B:=wr.heap.size) (w:=wr.drew) P.out.x.c4 P.out.x.lt;first|with_reducible refine ac ?_ |with_reducible refine ab ?_ |refine ac ?_ |refine ab ?_
      simp only[List.takeWhile,List.dropWhile,ao,Nat.reduceBNe];repeat(go_big_quiet_step (fail))
      first|with_reducible refine wpQuiet_nil ?_ |refine wpQuiet_nil ?_
      unfold aO;clear q3 q4 k4 hlt;have HBF:=hid HB.out.drew;have P3:=hid P.out.drew;have hl:=LENS.out.1;clear P HB;generalize wr.drew=wq at *;have k0:=P3.out.x.c0;have k1:=P3.out.x.c1;have k2:=P3.out.x.c2;have k4:=P3.out.x.c4;clear P3;generalize t.kind=kd at *;generalize t.num=i at *;generalize t.text=s at *;generalize t.items.length=nl at *;by_cases h1:kd=1
      ·subst h1;have HF:Hid (R=(decide (i=0) && decide (s.toList= []) && (nl == 0 && t.names.length == 0))):=hid (by rw[HR2.out];unfold bf;simp);clear HR2;clear TW HD2;go_wp2_with fail
       all_goals
        go_ret;exact⟨dQ (by rw[HF.out];simp_all [bH,cg]<;>(intros;omega)),HBF.out⟩
      by_cases h2:kd=2
      ·subst h2;have HF:Hid (R=((decide (i=0) || decide (i=1)) && decide (s.toList= []) && (nl == 0 && t.names.length == 0))):=hid (by rw[HR2.out];unfold bf;simp);clear HR2 h1;clear TW HD2;go_wp2_with fail
       all_goals
        go_ret;exact⟨dQ (by rw[HF.out];simp_all [bH,cg]<;>(intros;omega)),HBF.out⟩
      by_cases h3:kd=3
      ·subst h3;have HF:Hid (R=(decide (s.toList= []) && (nl == 0 && t.names.length == 0))):=hid (by rw[HR2.out];unfold bf;simp);clear HR2 h1 h2;clear TW HD2;go_wp2_with fail
       all_goals
        go_ret;exact⟨dQ (by rw[HF.out];simp_all [bH,cg]<;>(intros;omega)),HBF.out⟩
      by_cases h4:kd=4
      ·subst h4;have HF:Hid (R=(decide (i=0) && (nl == 0 && t.names.length == 0))):=hid (by rw[HR2.out];unfold bf;simp);clear HR2 h1 h2 h3;clear TW HD2;go_wp2_with fail
       all_goals
        go_ret;exact⟨dQ (by rw[HF.out];simp_all [bH,cg]<;>(intros;omega)),HBF.out⟩
      by_cases h5:kd=5
      ·subst h5;have HF:Hid (R=(decide (i=0) && (nl == 0 && t.names.length == 0))):=hid (by rw[HR2.out];unfold bf;simp);clear HR2 h1 h2 h3 h4;clear TW HD2;go_wp2_with fail
       all_goals
        go_ret;exact⟨dQ (by rw[HF.out];simp_all [bH,cg]<;>(intros;omega)),HBF.out⟩
      by_cases h6:kd=6
      ·subst h6;have HF:Hid (R=(decide (i=0) && decide (s.toList= []) && t.names.length == 0)):=hid (by rw[HR2.out];unfold bf;simp);clear HR2 h1 h2 h3 h4 h5;clear TW HD2;go_wp2_with fail
       all_goals
        go_ret;exact⟨dQ (by rw[HF.out];simp_all [bH,cg]<;>(intros;omega)),HBF.out⟩
      by_cases h7:kd=7
      ·subst h7;have HF:Hid (R=(decide (i=0) && decide (s.toList= []) && t.names.length == nl && bU t.names)):=hid (by rw[HR2.out];unfold bf;simp);clear HR2 h1 h2 h3 h4 h5 h6;by_cases hn:t.names.length=nl
       ·have en:((t.names.length:Int) == (nl:Int))=true:=beq_iff_eq.2 (by omega);have HF:Hid (R=(decide (i=0) && decide (s.toList= []) && bU t.names)):=hid (by rw[HF.out];simp[hn]);clear hn;go_wp2_with(go_at_call 120;refine TW.out.mono ?_;rintro e w' ⟨⟨r,rfl,hr⟩,hb⟩;have hdr:=hid (sE HD2.out hr);have hbf:=hid (aE HBF.out hb);clear hr hb)
        all_goals
         go_ret
         first
          |exact⟨dQ (by rw[HF.out,hdr.out];simp_all [bH,cg]),hbf.out⟩
          |exact⟨dQ (by rw[HF.out];simp_all [bH,cg]),HBF.out⟩
       ·have en:((t.names.length:Int) == (nl:Int))=false:=beq_eq_false_iff_ne.2 (by omega);have HF:Hid (R=false):=hid (by rw[HF.out];simp[hn]);clear hn TW HD2;go_wp2_with fail
        all_goals
         go_ret;exact⟨dQ HF.out.symm,HBF.out⟩
      have HF:Hid (R=false):=hid (by rw[HR2.out];unfold bf;simp[h1,h2,h3,h4,h5,h6,h7]);have b1:(kd == 1)=false:=beq_eq_false_iff_ne.2 h1;have b2:(kd == 2)=false:=beq_eq_false_iff_ne.2 h2;have b3:(kd == 3)=false:=beq_eq_false_iff_ne.2 h3;have b4:(kd == 4)=false:=beq_eq_false_iff_ne.2 h4;have b5:(kd == 5)=false:=beq_eq_false_iff_ne.2 h5;have b6:(kd == 6)=false:=beq_eq_false_iff_ne.2 h6;have b7:(kd == 7)=false:=beq_eq_false_iff_ne.2 h7;clear HR2 TW HD2 h1 h2 h3 h4 h5 h6 h7;go_wp2_with fail;go_ret;exact⟨aP HF.out.symm,HBF.out⟩
section
variable {u :World} {S:Nat→Prop} {g g':Nat} {t t':VT} {A B:Option Addr} {c d:Nat} {A' B':Option Addr} {c' d':Nat}
theorem Vr.rmay (h:Vr u S g t A c A' c'){x:Bool}(hx:x=bE t):Calls Tryz.prog 88 #[.agg #[.int .i64 t.kind,.int .i64 t.num,.string t.text,.slice A t.items.length c,.slice A' t.names.length c']] u fun e u'=>e= .returned (.bool x)∧Below u.heap.size u u':=
 (xn S (av t) t _ u (Nat.le_refl _) h.s h.v).mono fun _ _ h'=>⟨by rw[h'.1,hx],h'.2⟩
end
section
variable {u :World} {S:Nat→Prop} {g g':Nat} {t t':VT} {A B:Option Addr} {c d:Nat} {A' B':Option Addr} {c' d':Nat}
end
end Go.Proofs.YtgfidiocmiolpaaGreat
