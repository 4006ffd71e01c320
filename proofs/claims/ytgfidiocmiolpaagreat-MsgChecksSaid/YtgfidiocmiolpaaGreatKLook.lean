/- Looking at a value that lies in memory: its items and its names, in a later world. -/
import Derived.Test.YtgfidiocmiolpaaGreatKValO
import Derived.Test.YtgfidiocmiolpaaGreatKValM
import Derived.Test.YtgfidiocmiolpaaGreatKMath
import Derived.RangeFuncNested
import Derived.RangeFuncBound
import Derived.RangeFuncCalls
import Derived.RangeFuncLeaves
import Derived.Shelf.Abstract
import Derived.Shelf.RegionOpen
import Derived.WalkKit
import Derived.OwnWalkIn
import Derived.TacticsInMore
import Derived.LoopNIn
import Derived.LoopIn
set_option maxHeartbeats 64000000
set_option maxRecDepth 100000
set_option linter.unusedVariables false
set_option linter.unusedSimpArgs false
namespace Go.Proofs.YtgfidiocmiolpaaGreat
open Go.RowKit
theorem fh {w u:World}{S:Nat→Prop}{A:Option Addr}{l:List VT}(hS: ∀b,S b→b<w.heap.size)(h:LVA w S A l)(hb:Below w.heap.size w u)(j:Nat)(hj:j<l.length):
  ∃p o A2 e2 A3 e3,A=some ⟨p,o,none⟩∧p<w.heap.size∧u.cell? ⟨p,o+j * 5,none⟩=some (.int .i64 l[j].kind)∧u.cell? ⟨p,o+j * 5+1,none⟩=some (.int .i64 l[j].num)∧u.cell? ⟨p,o+j * 5+2,none⟩=some (.string l[j].text)∧
   u.cell? ⟨p,o+j * 5+3,none⟩=some (.slice A2 l[j].items.length e2)∧u.cell? ⟨p,o+j * 5+4,none⟩=some (.slice A3 l[j].names.length e3)∧
   LV u S l[j] (.agg #[.int .i64 l[j].kind,.int .i64 l[j].num,.string l[j].text,.slice A2 l[j].items.length e2,.slice A3 l[j].names.length e3]):=by
 obtain⟨p,o,hA,hp,hv⟩:=h (by omega);obtain⟨c0,c1,c2,c3,c4,h0,h1,h2,h3,h4,hx⟩:=hv.at j hj;obtain⟨A2,e2,A3,e3,hag,-⟩:=hx.shape;injection hag with hag;injection hag with hag
 injection hag with y0 hag;injection hag with y1 hag;injection hag with y2 hag;injection hag with y3 hag;injection hag with y4 hag
 subst y0 y1 y2 y3 y4;have hk: ∀o,u.cell? ⟨p,o,none⟩=w.cell? ⟨p,o,none⟩:=fun o=>hb.cell (p:=⟨p,o,none⟩) (hS p hp);exact⟨p,o,A2,e2,A3,e3,hA,hS p hp,(hk _).trans h0,(hk _).trans h1,(hk _).trans h2,(hk _).trans h3,(hk _).trans h4,hx.below hS hb⟩
theorem j2 {w u:World}{S:Nat→Prop}{A:Option Addr}{ns:List ByteArray}(hS: ∀b,S b→b<w.heap.size)(h:au w S A ns)(hb:Below w.heap.size w u)(j:Nat)(hj:j<ns.length):
  ∃p o,A=some ⟨p,o,none⟩∧p<w.heap.size∧u.cell? ⟨p,o+j,none⟩=some (.string ns[j])∧ns[j].size≤140737488351232:=by
 obtain⟨p,o,hA,hp,hc⟩:=h (by omega);exact⟨p,o,hA,hS p hp,(hb.cell (p:=⟨p,o+j,none⟩) (hS p hp)).trans (hc j hj).1,(hc j hj).2⟩
theorem j0 {w:World}{S:Nat→Prop}{A:Option Addr}{l:List VT}(h:LVA w S A l){t:VT}(ht:t∈l): ∃v,LV w S t v:=by
 obtain⟨j,hj,rfl⟩:=List.mem_iff_getElem.1 ht;obtain⟨p,o,hA,hp,hv⟩:=h (by omega);obtain⟨c0,c1,c2,c3,c4,-,-,-,-,-,hx⟩:=hv.at j hj;exact⟨_,hx⟩
/-! ### how many -/
theorem gy (d:Nat)(t:VT)(h:d≤40):bl d t=bU d (1+t.names.length) t.items:=by
 cases t;unfold bl;rw[if_neg (by omega)];rfl
theorem eI (d:Nat)(t:VT)(h:40<d):bl d t=1048576:=by cases t;unfold bl;exact if_pos h
theorem mn (d M:Nat): ∀(l:List VT) (n:Nat),n≤M+65536→(∀t∈l,bl (d+1) t≤M)→bU d n l≤M+65536
 | [],n,hn,_=>by unfold bU;exact hn
 |t::r,n,hn,h=>by
  unfold bU
  split
  ·exact mn d M r _ (by have:=h t (List.mem_cons_self ..);omega) (fun t ht=>h t (List.mem_cons_of_mem _ ht))
  ·exact hn
theorem uM {w:World}{S:Nat→Prop}: ∀(k d:Nat) (t:VT) (v:Value),d+k=41→LV w S t v→bl d t≤8796093021953+65536 * k:=by
 intro k
 induction k with
 |zero=>intro d t v hd h;rw[eI d t (by omega)];omega
 |succ k ih=>
  intro d t v hd h
  cases t with
  |mk kd i s l ns=>
   unfold LV at h;obtain⟨A,c,A',c',hv,h1,h2,h3,h4,h5,h6,h7⟩:=h;have e:=gy d (.mk kd i s l ns) (by omega)
   have hb:=mn d (8796093021953+65536 * k) l (1+ns.length) (by omega) (fun t ht=>by
    obtain⟨v,hv⟩:=j0 h7 ht
    exact ih (d+1) t v (by omega) hv)
   refine Nat.le_trans (Nat.le_of_eq e) (Nat.le_trans hb ?_);rw[Nat.mul_add,Nat.add_assoc];exact Nat.le_refl _
theorem jA {l:List VT}{j:Nat}(d n:Nat)(h:j<l.length):bU d n (l.drop j)=if n<65536 then bU d (n+bl (d+1) l[j]) (l.drop (j+1))else n:=by
 rw[List.drop_eq_getElem_cons h];conv=>lhs;unfold bU
theorem gX (d n:Nat):bU d n []=n:=by unfold bU;rfl
theorem i6 (d:Nat): ∀(l:List VT) (n:Nat),n≤bU d n l
 | [],n=>by rw[gX];omega
 |t::r,n=>by
  unfold bU
  split
  ·have:=i6 d r (n+bl (d+1) t);omega
  ·omega
theorem kH (d:Nat): ∀(l:List VT) (n:Nat) {t:VT},t∈l→3000<bl (d+1) t→3000<bU d n l
 |a::r,n,t,ht,h=>by
  unfold bU
  split
  ·rcases List.mem_cons.1 ht with rfl|ht
   ·have:=i6 d r (n+bl (d+1) t);omega
   ·exact kH d r _ ht h
  ·omega
theorem mu : ∀(l:List VT) (k:Nat),k<aN l→ ∃t∈l,k<ao t
 | [],k,h=>by unfold aN at h;omega
 |a::r,k,h=>by
  unfold aN at h;by_cases h1:k<ao a
  ·exact⟨a,List.mem_cons_self ..,h1⟩
  ·obtain⟨t,ht,hk⟩:=mu r k (by omega);exact⟨t,List.mem_cons_of_mem _ ht,hk⟩
theorem nP : ∀(k d:Nat) (t:VT),d+k=41→k<ao t→3000<bl d t:=by
 intro k
 induction k with
 |zero=>intro d t hd _;rw[eI d t (by omega)];omega
 |succ k ih=>
  intro d t hd h;rw[gy d t (by omega)];have ht:ao t=aN t.items+1:=by cases t;exact aH _ _ _ _ _
  obtain⟨x,hx,hk⟩:=mu t.items k (by omega);exact kH d _ _ hx (ih (d+1) x (by omega) hk)
theorem fW {t:VT}(h:cq t=false):ao t≤41:=by
 refine Classical.byContradiction fun hn=> ?_;have:=nP 41 0 t rfl (by omega);unfold cq at h;simp at h;omega
open Lib (hid)
theorem s9 (S:Nat→Prop): ∀(k d:Nat) (t:VT) (v:Value) (w:World),d+k=41→(∀b,S b→b<w.heap.size)→LV w S t v→
  Calls Tryz.prog 82 #[v,.int .i64 d] w fun e w'=>e= .returned (.int .i64 (bl d t))∧Below w.heap.size w w':=by
 intro k
 induction k with
 |zero=>
  intro d t v w hd hS h;obtain⟨A,c,A',c',rfl,-,-,-,-,-,-,-⟩:=h.shape;have HR:Hid (bl d t=1048576):=hid (eI d t (by omega));obtain rfl:d=41:=by omega
  generalize bl 41 t=R at *;go_enter Tryz.func82,Tryz.ntmps82;go_wp2_with fail;go_ret
  exact⟨by rw[HR.out];rfl,ae _⟩
 |succ k ih=>
  intro d t v w hd hS h;obtain⟨A,c,A',c',rfl,-,-,-,a4,a5,-,a7⟩:=h.shape;have A7:=hid a7;have A4:=hid a4;have HB0:Hid (Below w.heap.size w (w.alloc (.cells #[.int .i64 t.kind,.int .i64 t.num,.string t.text,.slice A t.items.length c,.slice A' t.names.length c'] 43))):=hid (ae _);have X0:Hid (Box (w.alloc (.cells #[.int .i64 t.kind,.int .i64 t.num,.string t.text,.slice A t.items.length c,.slice A' t.names.length c'] 43)) w.heap.size (.int .i64 t.kind) (.int .i64 t.num) (.string t.text) (.slice A t.items.length c) (.slice A' t.names.length c')):=hid (Box.new _ _ _ _ _);have HR0:Hid (bU d (1+t.names.length) (t.items.drop 0)=bl d t):=hid (gy d t (by omega)).symm
  have HN:Hid (∀j (h:j<t.items.length),bl (d+1) t.items[j]≤8796100000000):=hid (fun j hj=>by
   obtain⟨v,hv⟩:=j0 a7 (List.getElem_mem hj);have:=uM k (d+1) _ v (by omega) hv
   omega)
  have HNm:Hid (t.names.length≤140737488351232):=hid a5;have HD:Hid (d+(k+1)=41):=hid hd;have hd40:d≤40:=by omega
  generalize bl d t=R at *;clear h a7 a4 hd;have hn:=HNm.out;go_enter Tryz.func82,Tryz.ntmps82;go_wp2_with fail;clear a5 hn
  go_loopw [5,6] (fun n i wr=> ∃(j m:Nat),n= .int .i64 m∧i= .int .i64 j∧j≤t.items.length∧m≤140737488400000∧Hid (bU d m (t.items.drop j)=R)∧Hid (Below w.heap.size w wr)∧
   Hid (Box wr w.heap.size (.int .i64 t.kind) (.int .i64 t.num) (.string t.text) (.slice A t.items.length c) (.slice A' t.names.length c'))) (fun _ i _=>t.items.length - (intOf i).toNat)
  case atStart=>
   have:=HNm.out;exact⟨0,1+t.names.length,by go_num,rfl,Nat.zero_le _,by omega,HR0,HB0,X0⟩
  case round=>
   obtain⟨j,m,rfl,rfl,hj,hm,HI,HB,X⟩:=hrel;have k3:=X.out.c3;have hl:=A4.out;by_cases hlt:j<t.items.length
   ·by_cases hm2:m<65536
    ·obtain⟨p,o,A2,e2,A3,e3,rfl,hp,h0,h1,h2,h3,h4,hx⟩:=fh hS A7.out HB.out j hlt;have hb1:=HN.out j hlt;have HI2:Hid (bU d (m+bl (d+1) t.items[j]) (t.items.drop (j+1))=R):=hid (by rw[←HI.out,jA d m hlt,if_pos hm2]);have HC:=hid (ih (d+1) t.items[j] _ wr (by have:=HD.out;omega) (cy hS HB.out) hx);generalize bl (d+1) t.items[j]=R2 at *;have HM:=hid hm;have HM2:=hid hm2;have HB1:=hid hb1;have gm:(m:Int)<65536:=by omega
     clear hx hp HI hm hm2 hb1;go_wp2_with fail;refine HC.out.mono ?_;rintro e w2 ⟨rfl,hb⟩;have X2:=hid (X.out.call hb);have HB2:=hid (aw HB.out hb);have hb1:=HB1.out;have hm:=HM.out;clear hb HC k3 h0 h1 h2 h3 h4 X HB;go_wp2_with fail
     go_roundw
     case rel=>exact⟨j+1,m+R2,by go_num,by go_num,by omega,by omega,HI2,HB2,X2⟩
     case measure=>simp[intOf];omega
    ·have HF:Hid (R=m):=hid (by rw[←HI.out,jA d m hlt,if_neg hm2]);have gm: ¬(m:Int)<65536:=by omega
     clear hm hm2;go_wp2_with fail;go_ret;exact⟨aG (by rw[HF.out]),HB.out⟩
   ·have HF:Hid (R=m):=hid (by rw[←HI.out,List.drop_eq_nil_of_le (by omega),gX]);go_wp2_with fail;go_ret;exact⟨aG (by rw[HF.out]),HB.out⟩
theorem i9 (S:Nat→Prop)(t:VT)(v:Value)(w:World)(hS: ∀b,S b→b<w.heap.size)(h:LV w S t v):
  Calls Tryz.prog 42 #[v] w fun e w'=>e= .returned (.bool (cq t))∧Below w.heap.size w w':=by
 obtain⟨A,c,A',c',rfl,-,-,-,-,-,-,-⟩:=h.shape;obtain⟨o,ho⟩: ∃o:Obj,o= .cells #[.int .i64 t.kind,.int .i64 t.num,.string t.text,.slice A t.items.length c,.slice A' t.names.length c'] 43:=⟨_,rfl⟩;have HC:=hid (s9 S 41 0 t _ (w.alloc o) rfl (dS hS o) (h.alloc hS o));have HB:=hid (ae (w:=w) o);have HR:Hid (cq t=decide (3000<(bl 0 t:Int))):=hid (by unfold cq;rw[decide_eq_decide];omega);generalize cq t=R at *;subst ho;generalize bl 0 t=N at *;clear h;go_enter Tryz.func42,Tryz.ntmps42;go_wp2_with fail;refine HC.out.mono ?_;rintro e w2 ⟨rfl,hb⟩;have HB2:=hid (aw HB.out hb);clear hb HC HB;go_wp2_with fail;go_ret;exact⟨aE (by rw[HR.out]),HB2.out⟩
structure Vr (u:World)(S:Nat→Prop)(g:Nat)(t:VT)(A:Option Addr)(c:Nat)(A':Option Addr)(c':Nat):Prop where
 x:Box u g (.int .i64 t.kind) (.int .i64 t.num) (.string t.text) (.slice A t.items.length c) (.slice A' t.names.length c')
 v:LV u S t (.agg #[.int .i64 t.kind,.int .i64 t.num,.string t.text,.slice A t.items.length c,.slice A' t.names.length c'])
 s: ∀b,S b→b<u.heap.size
section
variable {u u':World} {S:Nat→Prop} {g:Nat} {t:VT} {A:Option Addr} {c:Nat} {A':Option Addr} {c':Nat}
theorem Vr.call (h:Vr u S g t A c A' c')(hb:Below u.heap.size u u'):Vr u' S g t A c A' c':=⟨h.x.call hb,h.v.below h.s hb,cy h.s hb⟩
theorem Vr.alloc (h:Vr u S g t A c A' c')(o:Obj):Vr (u.alloc o) S g t A c A' c':=h.call (ae o)
theorem Vr.drew (h:Vr u S g t A c A' c'):Vr u.drew S g t A c A' c':=h.call (below_predrew_l u)
 where below_predrew_l (u:World):Below u.heap.size u u.drew:=(Below.refl _ _).drew
theorem Vr.new (hS: ∀b,S b→b<u.heap.size)(h:LV u S t (.agg #[.int .i64 t.kind,.int .i64 t.num,.string t.text,.slice A t.items.length c,.slice A' t.names.length c'])):
  Vr (u.alloc (.cells #[.int .i64 t.kind,.int .i64 t.num,.string t.text,.slice A t.items.length c,.slice A' t.names.length c'] 43)) S u.heap.size t A c A' c':=⟨Box.new _ _ _ _ _,h.alloc hS _,dS hS _⟩
end
section
variable {u :World} {S:Nat→Prop} {g g':Nat} {t t':VT} {A B:Option Addr} {c d:Nat} {A' B':Option Addr} {c' d':Nat}
end
theorem eG {w:World}{S:Nat→Prop}{a:VT}{va:Value}(hS: ∀b,S b→b<w.heap.size)(ha:LV w S a va):
  ∃A ca A' ca',va= .agg #[.int .i64 a.kind,.int .i64 a.num,.string a.text,.slice A a.items.length ca,.slice A' a.names.length ca']∧(a.items.length≤140737488351232∧a.names.length≤140737488351232)∧LVA w S A a.items∧au w S A' a.names∧
   Vr (w.alloc (.cells #[.int .i64 a.kind,.int .i64 a.num,.string a.text,.slice A a.items.length ca,.slice A' a.names.length ca'] 43)) S w.heap.size a A ca A' ca'∧
   Below w.heap.size w (w.alloc (.cells #[.int .i64 a.kind,.int .i64 a.num,.string a.text,.slice A a.items.length ca,.slice A' a.names.length ca'] 43)):=by
 obtain⟨A,ca,A',ca',rfl,-,-,-,a4,a5,a6,a7⟩:=ha.shape;exact⟨A,ca,A',ca',rfl,⟨a4,a5⟩,a7,a6,Vr.new hS ha,ae _⟩
theorem n8 {l:List VT}{j:Nat}(h:j<l.length):aN (l.drop j)=max (ao l[j]) (aN (l.drop (j+1))):=by
 rw[List.drop_eq_getElem_cons h];conv=>lhs;unfold aN
theorem pH :aN []=0:=by unfold aN;rfl
theorem qM (S:Nat→Prop): ∀(n:Nat) (t:VT) (v:Value) (w:World),ao t≤n→n≤4611686018427387903→(∀b,S b→b<w.heap.size)→LV w S t v→
  Calls Tryz.prog 89 #[v] w fun e w'=>e= .returned (.int .i64 (ao t))∧Below w.heap.size w w':=by
 intro n
 induction n with
 |zero=>intro t v w hd;cases t;rw[aH]at hd;omega
 |succ n ih=>
  intro t v w hd hn hS h;obtain⟨A,c,A',c',rfl,lens,a7,-,v1,hb0⟩:=eG hS h;have LENS:=hid lens;have A7:=hid a7;have P0:=hid v1;have HB0:=hid hb0;have hdt:ao t=aN t.items+1:=by cases t;exact aH _ _ _ _ _
  have HDT:=hid hdt;have HD:Hid (aN t.items≤n):=hid (by omega);have HN:=hid hn;obtain⟨R,hR⟩: ∃R,R=aN t.items:=⟨_,rfl⟩;have HR:Hid (max 0 (aN (t.items.drop 0))=R):=hid (by rw[hR];simp);have HRD:Hid (ao t=R+1):=hid (by rw[hR];exact hdt);have HRN:Hid (R≤n):=hid (by rw[hR];exact HD.out);generalize ao t=D at *;clear h lens a7 v1 hb0 hdt hd hn hR HDT;go_enter Tryz.func89,Tryz.ntmps89;go_wp2_with fail
  go_loopw [3,4,5] (fun d i e wr=> ∃j m:Nat,d= .int .i64 m∧i= .int .i64 j∧j≤t.items.length∧Hid (max m (aN (t.items.drop j))=R)∧Hid (Below w.heap.size w wr)∧Hid (Vr wr S w.heap.size t A c A' c')) (fun _ i _ _=>t.items.length - (intOf i).toNat)
  case atStart=>exact⟨0,0,rfl,rfl,Nat.zero_le _,HR,HB0,P0⟩
  case round=>
   obtain⟨j,m,rfl,rfl,hj,HI,HB,P⟩:=hrel;have k3:=P.out.x.c3;have hl:=LENS.out.1;by_cases hlt:j<t.items.length
   ·obtain⟨p,o,A2,e2,A3,e3,rfl,hp,h0,h1,h2,h3,h4,hx⟩:=fh hS A7.out HB.out j hlt;have HC:=hid (ih t.items[j] _ wr (Nat.le_trans (bz (List.getElem_mem hlt)) HD.out) (by have:=HN.out;omega) P.out.s hx);have HI2:Hid (max (max m (ao t.items[j])) (aN (t.items.drop (j+1)))=R):=hid (by rw[←HI.out,n8 hlt];omega);generalize ao t.items[j]=C at *;clear hx hp HI;go_wp2_with fail;refine HC.out.mono ?_;rintro e w2 ⟨rfl,hb⟩;have P2:=hid (P.out.call hb);have HB2:=hid (aw HB.out hb);clear hb HC k3 h0 h1 h2 h3 h4 P HB;by_cases hc:(C:Int)>m
    ·have e:max m C=C:=by omega
     rw[e]at HI2;clear e;go_wp2_with fail
     go_roundw
     case rel=>exact⟨j+1,C,rfl,by go_num,by omega,HI2,HB2,P2⟩
     case measure=>simp[intOf];omega
    ·have e:max m C=m:=by omega
     rw[e]at HI2;clear e;go_wp2_with fail
     go_roundw
     case rel=>exact⟨j+1,m,rfl,by go_num,by omega,HI2,HB2,P2⟩
     case measure=>simp[intOf];omega
   ·have HF:Hid (m=R):=hid (by have h:=HI.out;rw[List.drop_eq_nil_of_le (by omega),pH]at h;omega);have hm:m≤4611686018427387903:=by have:=HF.out;have:=HRN.out;have:=HN.out;omega
    go_wp2_with fail;go_ret;exact⟨aG (by have:=HF.out;have:=HRD.out;go_num),HB.out⟩
theorem lf (S:Nat→Prop)(t:VT)(v:Value)(w:World)(hS: ∀b,S b→b<w.heap.size)(h:LV w S t v):
  Calls Tryz.prog 114 #[v] w fun e w'=>e= .returned (.bool (bm t))∧Below w.heap.size w w':=by
 obtain⟨A,ca,A',ca',rfl,-,-,-,v1,hb⟩:=eG hS h;have q0:=v1.x.c0;have q1:=v1.x.c1;have q2:=v1.x.c2;have q3:=v1.x.c3;have q4:=v1.x.c4;have HB:=hid hb;obtain⟨r,hr⟩: ∃r,r=bm t:=⟨_,rfl⟩;have HR:=hid hr;rw[←hr];clear h v1 hb hr;go_enter Tryz.func114,Tryz.ntmps114;obtain⟨b1,d1⟩: ∃b,(t.kind == 0)=b:=⟨_,rfl⟩;obtain⟨b2,d2⟩: ∃b,(t.num == 0)=b:=⟨_,rfl⟩;obtain⟨b3,d3⟩: ∃b,(t.text.toList == [])=b:=⟨_,rfl⟩;obtain⟨b4,d4⟩: ∃b,((t.items.length:Int) == 0)=b:=⟨_,rfl⟩;obtain⟨b5,d5⟩: ∃b,((t.names.length:Int) == 0)=b:=⟨_,rfl⟩;cases b1<;>cases b2<;>cases b3<;>cases b4<;>cases b5
 all_goals
  go_wp2_with fail;go_ret;refine⟨?_,HB.out⟩;rw[HR.out];unfold bm;simp at d1 d2 d3 d4 d5;simp[d1,d2,d3,d4,d5]
end Go.Proofs.YtgfidiocmiolpaaGreat
/- Whether an update touches the id: the loop over the places. -/
namespace Go.Proofs.YtgfidiocmiolpaaGreat
open Go.RowKit Go.Shelf
attribute [local go_sem] Oper.semAt_some
theorem idL :(⟨#[95,105,100]⟩:ByteArray).toList= [95,105,100]:=by rw[ByteArray.toList_eq]
end Go.Proofs.YtgfidiocmiolpaaGreat
/- Whether a place meets one of a row of places, by the program. -/
namespace Go.Proofs.YtgfidiocmiolpaaGreat
open Go.RowKit
def SlP (w:World)(S:Nat→Prop)(v:Value)(p:List ByteArray):Prop:= ∃A c,v= .slice A p.length c∧au w S A p∧p.length≤c∧p.length≤8796093021952
theorem SlP.keep {w w':World}{S:Nat→Prop}{v:Value}{p:List ByteArray}(h:SlP w S v p)(hk: ∀b,S b→w'.heap[b]? =w.heap[b]?):SlP w' S v p:=by
 obtain⟨A,c,h1,h2,h3⟩:=h;exact⟨A,c,h1,h2.keep hk,h3⟩
theorem kl : ∀(ps ahead:List (List ByteArray)) (p:List ByteArray),bI ahead (ps++[p])=(bI ahead ps || (ahead++ps).any fun q=>bO p q)
 | [],ahead,p=>by simp[bI]
 |x::r,ahead,p=>by
  rw[List.cons_append,bI,bI,kl r (ahead++[x]) p,Bool.or_assoc,List.append_assoc];rfl
theorem mD : ∀(ps r ahead:List (List ByteArray)),bI ahead ps=true→bI ahead (ps++r)=true
 | [],r,ahead,h=>by simp[bI]at h
 |x::ps,r,ahead,h=>by
  rw[List.cons_append,bI];rw[bI,Bool.or_eq_true]at h;rcases h with h|h
  ·rw[h];rfl
  ·rw[mD ps r _ h,Bool.or_true]
theorem ut {p:List ByteArray}(h:ga p=true):0<p.length:=by
 unfold ga at h;simp at h;omega
end Go.Proofs.YtgfidiocmiolpaaGreat
/- Statements whose order Go leaves open, walked as they stand in the text: the same rule with a check that is soon done for long ones. -/
namespace Go.Proofs.YtgfidiocmiolpaaGreat
open Go.RowKit Go.Sort
def wh (md:Region.Mode)(i:Nat)(p:Oper):Bool:=p.after.toList.any fun e=>Region.binds md e && Nat.ble i e.on
def gq (md:Region.Mode)(ops:Array Oper):Nat→List Oper→Bool
 |_,[]=>true
 |i,o::r=>(o.after.toList.all fun e=> !Region.binds md e || Nat.blt e.on i) && (r.all (wh md i) || (ai o && r.all fun p=>(p.after.toList.any fun e=>Region.binds md e && Nat.beq e.on i) || o.apart ops p)) && gq md ops (i+1) r
structure gU (listed:Array Bool)(n i:Nat):Prop where
 sz:listed.size=n
 at_: ∀k,k<n→listed[k]? =some (decide (k<i))
theorem gU.step {listed:Array Bool}{n i:Nat}(h:gU listed n i)(hi:i<n):gU (listed.setIfInBounds i true) n (i+1):=by
 refine⟨by simp[h.sz],fun k hk=> ?_⟩;by_cases hki:i=k
 ·subst hki;simp[h.sz,hi]
 ·rw[Array.getElem?_setIfInBounds_ne hki,h.at_ k hk]
  congr 1
  simp only[decide_eq_decide];omega
theorem gU.getD {listed:Array Bool}{n i:Nat}(h:gU listed n i)(k:Nat)(x:Bool):listed.getD k x=if k<n then decide (k<i)else x:=by
 rw[Array.getD_eq_getD_getElem?];by_cases hk:k<n
 ·rw[h.at_ k hk,if_pos hk];rfl
 ·rw[if_neg hk,Array.getElem?_eq_none (by rw[h.sz];omega)];rfl
section
variable {P :Program} {ops:Array Oper} {Q:Exit→Act→World→Prop} {md:Region.Mode} {β:World→Nat}
theorem oZ {i:Nat}{oi:Oper}{v:Value}(hi:ops[i]? =some oi)(f:Nat)(listed:Array Bool)(a:Act)(w:World)(hr:i∈Region.ready md ops listed)(ho: ∀j∈Region.ready md ops listed,j=i)
  (hy:YieldsIf P ops (fun u=>Below (β w) w u) oi v a) (H:nX β P md ops Q f (listed.setIfInBounds i true) (a.put oi.dst v) w):nX β P md ops Q (f+1) listed a w:=
 ⟨fun h=>absurd hr (by rw[h];exact List.not_mem_nil),fun j hj=>by
  obtain rfl:=ho j hj
  exact hy.wpOp hi (Below.refl _ _) ⟨Below.refl _ _,H⟩⟩
theorem dt (hβ:jG β)(hsel:Region.noSelect ops=true)(hQ: ∀c d v a w,Q (.panic c) (Act.put a d v) w→Q (.panic c) a w):
  ∀(r:List Oper) (i:Nat) (listed:Array Bool) (a:Act) (w:World),r=ops.toList.drop i→i≤ops.size→gU listed ops.size i→gq md ops i r=true→aF β P ops Q r a w→nX β P md ops Q r.length listed a w
 | [],i,listed,a,w,hr,hi,hf,hB,h=>by
  have hlen:ops.size≤i:=by
   have:=congrArg List.length hr;simp at this;omega
  refine⟨?_,h⟩;refine List.eq_nil_iff_forall_not_mem.2 fun j hj=> ?_;obtain⟨h1,o,h2,-⟩:=mem_ready.1 hj;have hjn:=(Array.getElem?_eq_some_iff.1 h2).1;rw[hf.getD,if_pos hjn]at h1
  simp at h1;omega
 |o::r,i,listed,a,w,hr,hi,hf,hB,h=>by
  have hin:i<ops.size:=by
   have:=congrArg List.length hr;simp at this;omega
  have hoi:ops[i]? =some o:=by
   have:=congrArg (fun l=>l[0]?) hr;simp at this;exact this.symm
  have hr':r=ops.toList.drop (i+1):=by
   have:=congrArg List.tail hr;simpa using this
  have hat: ∀j oj,ops[j]? =some oj→i<j→oj∈r:=fun j oj hj hij=>by
   rw[hr'];refine List.mem_iff_getElem?.2 ⟨j - (i+1),?_⟩;rw[List.getElem?_drop];have:i+1+(j - (i+1))=j:=by omega
   rw[this];simpa using hj
  unfold gq at hB;simp only[Bool.and_eq_true]at hB;obtain⟨⟨hE,hk⟩,hB'⟩:=hB
  have hrd:i∈Region.ready md ops listed:=by
   refine mem_ready.2 ⟨by rw[hf.getD,if_pos hin];simp,o,hoi,fun e he hb=> ?_⟩;have:=List.all_eq_true.1 hE e (by simpa using he);rw[hb]at this;simp at this;have h3:e.on<i:=by simpa[Nat.blt_eq]using this
   rw[hf.getD,if_pos (by omega)];simpa using h3
  have hun: ∀j oj,ops[j]? =some oj→j≠i→listed.getD j true=false→i<j:=fun j oj hj hne hu=>by
   rw[hf.getD,if_pos (Array.getElem?_eq_some_iff.1 hj).1]at hu;simp at hu;omega
  have hF:=hf.step hin;unfold aF at h;simp only[Bool.or_eq_true]at hk;rcases hk with hk|hk
  ·have hone: ∀j∈Region.ready md ops listed,j=i:=fun j hj=>by
    obtain⟨h1,oj,h2,h3⟩:=mem_ready.1 hj;refine Classical.byContradiction fun hne=> ?_;have hm:=hat j oj h2 (hun j oj h2 hne h1);have hl:=List.all_eq_true.1 hk oj hm;unfold wh at hl;obtain⟨e,he,hb⟩:=List.any_eq_true.1 hl;simp only[Bool.and_eq_true,Nat.ble_eq]at hb;have:=h3 e (by simpa using he) hb.1;rw[hf.getD]at this
    split at this
    ·simp at this;omega
    ·cases this
   by_cases hw:Region.wanted o (yielded ops a.tmps)=true
   ·by_cases hp:ai o=true
    ·rw[if_pos hw,if_pos hp]at h;obtain⟨v,h1,h2⟩:=h;exact oZ hoi _ listed a w hrd hone (d9 hp hw h1) (dt hβ hsel hQ r (i+1) _ _ w hr' (by omega) hF hB' h2)
    ·rw[if_pos hw,if_neg hp]at h;refine⟨fun h0=>absurd hrd (by rw[h0];exact List.not_mem_nil),fun j hj=> ?_⟩;obtain rfl:=hone j hj;unfold wpOp;simp only[hoi];rw[if_pos hw];exact .inl (Oper.wp_mono (fun a' w' h'=>⟨h'.1,dt hβ hsel hQ r (j+1) _ a' w' hr' (by omega) hF hB' h'.2⟩) h)
   ·rw[if_neg hw]at h;exact oZ hoi _ listed a w hrd hone (.inr ⟨by simpa using hw,rfl⟩) (dt hβ hsel hQ r (i+1) _ _ w hr' (by omega) hF hB' h)
  ·simp only[Bool.and_eq_true]at hk;obtain⟨hp,hk⟩:=hk
   have hfree: ∀j oj,ops[j]? =some oj→j≠i→listed.getD j true=false→(∀e∈oj.after,Region.binds md e=true→e.on≠i)→o.apart ops oj=true:=fun j oj hj hne hu hno=>by
    have hl:=List.all_eq_true.1 hk oj (hat j oj hj (hun j oj hj hne hu));simp only[Bool.or_eq_true]at hl;rcases hl with hl|hl
    ·obtain⟨e,he,hb⟩:=List.any_eq_true.1 hl;simp only[Bool.and_eq_true]at hb;exact absurd (Nat.eq_of_beq_eq_true hb.2) (hno e (by simpa using he) hb.1)
    ·exact hl
   by_cases hw:Region.wanted o (yielded ops a.tmps)=true
   ·rw[if_pos hw,if_pos hp]at h;obtain⟨v,h1,h2⟩:=h;exact fC hβ hoi hsel hQ _ listed a w hfree hrd (d9 hp hw h1) (dt hβ hsel hQ r (i+1) _ _ w hr' (by omega) hF hB' h2)
   ·rw[if_neg hw]at h;exact fC hβ hoi hsel hQ _ listed a w hfree hrd (.inr ⟨by simpa using hw,rfl⟩) (dt hβ hsel hQ r (i+1) _ _ w hr' (by omega) hF hB' h)
def nQ (ops:List Oper):Bool:=Region.noSelect ops.toArray && gq .any ops.toArray 0 ops
theorem pP (hβ:jG β){l:List Oper}{id:Nat}{a:Act}{w:World}(hm:P.follows .mixedOrders=true)(hB:nQ l=true)(hQ: ∀c d v a w,Q (.panic c) (Act.put a d v) w→Q (.panic c) a w)
  (h:aF β P l.toArray Q l a w.drew):(Code.region id l.toArray true).wp P Q a w:=by
 unfold nQ at hB;simp only[Bool.and_eq_true]at hB;refine wp_region_any hm (gd (β:=β) _ _ _ _ ?_);have:=dt (md:= .any) (ops:=l.toArray) hβ hB.1 hQ l 0 (Array.replicate l.toArray.size false) a w.drew (by simp) (Nat.zero_le _) ⟨by simp,fun k hk=>by simp at hk;simp[hk]⟩ hB.2 h;simpa using this
theorem bV {l:List Oper}{id:Nat}{a:Act}{w:World}(hm:P.follows .mixedOrders=true)(hB:nQ l=true)(hQ: ∀c d v a w,Q (.panic c) (Act.put a d v) w→Q (.panic c) a w)
  (h:aF (fun w=>w.heap.size) P l.toArray Q l a w.drew):(Code.region id l.toArray true).wp P Q a w:=pP kT hm hB hQ h
end
end Go.Proofs.YtgfidiocmiolpaaGreat
/- The order of two values that may be, as the document's answer has it. -/
namespace Go.Proofs.YtgfidiocmiolpaaGreat
open Go.RowKit
theorem ko {w:World}{S:Nat→Prop}{a b:VT}{va vb:Value}(hS: ∀b,S b→b<w.heap.size)(ha:LV w S a va)(hb:LV w S b vb):
  ∃A ca A' ca' B cb B' cb',va= .agg #[.int .i64 a.kind,.int .i64 a.num,.string a.text,.slice A a.items.length ca,.slice A' a.names.length ca']∧vb= .agg #[.int .i64 b.kind,.int .i64 b.num,.string b.text,.slice B b.items.length cb,.slice B' b.names.length cb']∧
   (a.items.length≤140737488351232∧a.names.length≤140737488351232∧b.items.length≤140737488351232∧b.names.length≤140737488351232)∧LVA w S A a.items∧au w S A' a.names∧LVA w S B b.items∧au w S B' b.names∧
   Vr ((w.alloc (.cells #[.int .i64 a.kind,.int .i64 a.num,.string a.text,.slice A a.items.length ca,.slice A' a.names.length ca'] 43)).alloc (.cells #[.int .i64 b.kind,.int .i64 b.num,.string b.text,.slice B b.items.length cb,.slice B' b.names.length cb'] 43)) S w.heap.size a A ca A' ca'∧
   Vr ((w.alloc (.cells #[.int .i64 a.kind,.int .i64 a.num,.string a.text,.slice A a.items.length ca,.slice A' a.names.length ca'] 43)).alloc (.cells #[.int .i64 b.kind,.int .i64 b.num,.string b.text,.slice B b.items.length cb,.slice B' b.names.length cb'] 43)) S (w.heap.size+1) b B cb B' cb'∧
   Below w.heap.size w ((w.alloc (.cells #[.int .i64 a.kind,.int .i64 a.num,.string a.text,.slice A a.items.length ca,.slice A' a.names.length ca'] 43)).alloc (.cells #[.int .i64 b.kind,.int .i64 b.num,.string b.text,.slice B b.items.length cb,.slice B' b.names.length cb'] 43)):=by
 obtain⟨A,ca,A',ca',rfl,-,-,-,a4,a5,a6,a7⟩:=ha.shape;obtain⟨B,cb,B',cb',rfl,-,-,-,b4,b5,b6,b7⟩:=hb.shape;refine⟨A,ca,A',ca',B,cb,B',cb',rfl,rfl,⟨a4,a5,b4,b5⟩,a7,a6,b7,b6,(Vr.new hS ha).alloc _,?_,(ae _).alloc (by simp) _⟩;have h:=Vr.new (dS hS (.cells #[.int .i64 a.kind,.int .i64 a.num,.string a.text,.slice A a.items.length ca,.slice A' a.names.length ca'] 43)) (hb.alloc hS (.cells #[.int .i64 a.kind,.int .i64 a.num,.string a.text,.slice A a.items.length ca,.slice A' a.names.length ca'] 43));have e:(w.alloc (.cells #[.int .i64 a.kind,.int .i64 a.num,.string a.text,.slice A a.items.length ca,.slice A' a.names.length ca'] 43)).heap.size=w.heap.size+1:=by simp
 rw[e]at h;exact h
open Lib (hid)
theorem VT.same {a b:VT}(h0:a.kind=b.kind)(h1:a.num=b.num)(h2:a.text=b.text)(h3:a.items=b.items)(h4:a.names=b.names):a=b:=by
 cases a;cases b;simp only[VT.kind,VT.num,VT.text,VT.items,VT.names]at *;subst h0 h1 h2 h3 h4;rfl
theorem ep {a b:VT}(h: ¬a=b):(false=true)↔a=b:=⟨fun h=>(by cases h),fun h'=>absurd h' h⟩
theorem ei (S:Nat→Prop): ∀(n:Nat) (a b:VT) (va vb:Value) (w:World),ao a≤n→(∀b,S b→b<w.heap.size)→LV w S a va→LV w S b vb→
  Calls Tryz.prog 57 #[va,vb] w fun e w'=>(∃r:Bool,e= .returned (.bool r)∧(r=true↔a=b))∧Below w.heap.size w w':=by
 intro n
 induction n with
 |zero=>intro a b va vb w hd;cases a;rw[aH]at hd;omega
 |succ n ih=>
  intro a b va vb w hd hS ha hb;obtain⟨A,ca,A',ca',B,cb,B',cb',rfl,rfl,lens,a7,a6,b7,b6,v1,v2,hb0⟩:=ko hS ha hb;have LENS:=hid lens;have A7:=hid a7;have A6:=hid a6;have B7:=hid b7;have B6:=hid b6;have P10:=hid v1;have P20:=hid v2;have HB0:=hid hb0;have HD:=hid hd;have k0:=v1.x.c0;have k1:=v1.x.c1;have k2:=v1.x.c2;have k3:=v1.x.c3;have k4:=v1.x.c4;have l0:=v2.x.c0;have l1:=v2.x.c1;have l2:=v2.x.c2;have l3:=v2.x.c3;have l4:=v2.x.c4;clear ha hb lens a7 a6 b7 b6 v1 v2 hb0 hd;by_cases hk:a.kind=b.kind
  ·have ek1:(a.kind == b.kind)=true:=by simpa using hk
   have ek2:(a.kind != b.kind)=false:=by simpa using hk
   have HK:=hid hk;clear hk;by_cases hi:a.num=b.num
   ·have ei1:(a.num == b.num)=true:=by simpa using hi
    have ei2:(a.num != b.num)=false:=by simpa using hi
    have HI:=hid hi;clear hi;by_cases ht:a.text.toList=b.text.toList
    ·have et1:(a.text.toList == b.text.toList)=true:=by simpa using ht
     have HT:Hid (a.text=b.text):=hid (toList_inj ht);clear ht;by_cases hl:a.items.length=b.items.length
     ·have el1:((a.items.length:Int) == (b.items.length:Int))=true:=beq_iff_eq.2 (by omega);have el2:((a.items.length:Int) != (b.items.length:Int))=false:=bne_eq_false_iff_eq.2 (by omega);have el3:(a.items.length == b.items.length)=true:=by simpa using hl
      have HL:=hid hl;clear hl;by_cases hn:a.names.length=b.names.length
      ·have en1:((a.names.length:Int) == (b.names.length:Int))=true:=beq_iff_eq.2 (by omega);have en2:((a.names.length:Int) != (b.names.length:Int))=false:=bne_eq_false_iff_eq.2 (by omega);have en3:(a.names.length == b.names.length)=true:=by simpa using hn
       have HN:=hid hn;clear hn;go_enter Tryz.func57,Tryz.ntmps57;go_wp2_with fail;clear k0 k1 k2 k3 k4 l0 l1 l2 l3 l4 ek1 ek2 ei1 ei2 et1 el1 el2 el3 en1 en2 en3
       go_loopw [5] (fun i wr=> ∃j:Nat,i= .int .i64 j∧j≤a.items.length∧Hid (∀k (h:k<a.items.length) (h':k<b.items.length),k<j→a.items[k]=b.items[k])∧Hid (Below w.heap.size w wr)∧
        Hid (Vr wr S w.heap.size a A ca A' ca')∧Hid (Vr wr S (w.heap.size+1) b B cb B' cb')) (fun i _=>a.items.length - (intOf i).toNat)
       case atStart=>exact⟨0,rfl,Nat.zero_le _,hid (fun k _ _ h=>absurd h (Nat.not_lt_zero _)),HB0,P10,P20⟩
       case round=>
        obtain⟨j,rfl,hj1,HE,HB,P1,P2⟩:=hrel;have k3:=P1.out.x.c3;have hl1:=LENS.out.1;by_cases hla:j<a.items.length
        ·have hlb:j<b.items.length:=by have:=HL.out;omega
         have HDJ:Hid (ao a.items[j]≤n):=hid (by
          have hdp:=bz (List.getElem_mem hla);have hdt:ao a=aN a.items+1:=by cases a;exact aH _ _ _ _ _
          have:=HD.out
          omega)
         obtain⟨p,o,A2,e2,A3,e3,rfl,hp,h0,h1,h2,h3,h4,hx⟩:=fh hS A7.out HB.out j hla;obtain⟨p',o',B2,f2,B3,f3,rfl,hp',g0,g1,g2,g3,g4,hy⟩:=fh hS B7.out HB.out j hlb;have hp2:p<wr.heap.size:=Nat.lt_of_lt_of_le hp HB.out.size;have hp2':p'<wr.heap.size:=Nat.lt_of_lt_of_le hp' HB.out.size;have HC:=hid (ih a.items[j] b.items[j] _ _ wr.drew HDJ.out P1.out.drew.s hx.drew hy.drew);clear hx hy hp hp' HDJ;go_wp2_with fail;try simp only[List.append_eq,List.cons_append,List.nil_append]
         refine bV (by kernel_rfl) (by kernel_rfl) (fun _ d _ _ _ h=>by cases d<;>exact h) ?_;have q3:=aa (B:=wr.heap.size) (w:=wr.drew) P1.out.x.c3 P1.out.x.lt;have q3':=aa (B:=wr.heap.size) (w:=wr.drew) P2.out.x.c3 P2.out.x.lt;have p0:=aa (B:=wr.heap.size) (w:=wr.drew) h0 hp2;have p1:=aa (B:=wr.heap.size) (w:=wr.drew) h1 hp2;have p2:=aa (B:=wr.heap.size) (w:=wr.drew) h2 hp2;have p3:=aa (B:=wr.heap.size) (w:=wr.drew) h3 hp2;have p4:=aa (B:=wr.heap.size) (w:=wr.drew) h4 hp2;have s0:=aa (B:=wr.heap.size) (w:=wr.drew) g0 hp2';have s1:=aa (B:=wr.heap.size) (w:=wr.drew) g1 hp2';have s2:=aa (B:=wr.heap.size) (w:=wr.drew) g2 hp2';have s3:=aa (B:=wr.heap.size) (w:=wr.drew) g3 hp2';have s4:=aa (B:=wr.heap.size) (w:=wr.drew) g4 hp2';first|with_reducible refine ac ?_ |with_reducible refine ab ?_ |refine ac ?_ |refine ab ?_
         simp only[List.takeWhile,List.dropWhile,ai,Nat.reduceBNe];repeat(go_big_quiet_step (fail))
         first|with_reducible refine wpQuiet_nil ?_ |refine wpQuiet_nil ?_
         first|with_reducible refine ah ?_ (fun K hK=> ?_)|with_reducible refine af ?_ (fun K hK=> ?_)|refine ah ?_ (fun K hK=> ?_)|refine af ?_ (fun K hK=> ?_)
         ·rfl
         go_simp
         refine(HC.out).mono ?_;rintro e w4 ⟨⟨r,rfl,hr⟩,hb⟩;refine hK _ _ hb ?_;clear hK K;try simp only[Act.put]
         have HRR:=hid hr;clear hr;first|with_reducible refine ac ?_ |with_reducible refine ab ?_ |refine ac ?_ |refine ab ?_
         simp only[List.takeWhile,List.dropWhile,ai,Nat.reduceBNe];repeat(go_big_quiet_step (fail))
         first|with_reducible refine wpQuiet_nil ?_ |refine wpQuiet_nil ?_
         unfold aF;have HB:=hid (aw HB.out (aI hb));have P1:=hid (P1.out.call (aI hb));have P2:=hid (P2.out.call (aI hb));clear q3 q3' p0 p1 p2 p3 p4 s0 s1 s2 s3 s4 hb HC h0 h1 h2 h3 h4 g0 g1 g2 g3 g4 hp2 hp2' k3;cases r
         ·have HF:Hid ((false=true)↔a=b):=hid (ep fun h=>by
           have h1:=HRR.out.2 (by subst h;rfl)
           cases h1)
          go_wp2_with fail;go_ret;exact⟨⟨_,rfl,HF.out⟩,HB.out⟩
         ·have HEQ:=hid (HRR.out.1 rfl);go_wp2_with fail
          go_roundw
          case rel=>exact⟨j+1,by go_num,by omega,hid (fun k h h' hkj=>by
           by_cases e:k=j
           ·subst e;exact HEQ.out
           ·exact HE.out k h h' (by omega)),HB,P1,P2⟩
          case measure=>simp[intOf];omega
        ·have HEA:Hid (a.items=b.items):=hid (List.ext_getElem HL.out (fun k h h'=>HE.out k h h' (by omega)));obtain rfl:j=a.items.length:=by omega
         clear HE;go_wp2_with fail;clear k3 hla hj1
         go_loopw [6] (fun i wr=> ∃j:Nat,i= .int .i64 j∧j≤a.names.length∧Hid (∀k (h:k<a.names.length) (h':k<b.names.length),k<j→a.names[k]=b.names[k])∧Hid (Below w.heap.size w wr)∧
          Hid (Vr wr S w.heap.size a A ca A' ca')∧Hid (Vr wr S (w.heap.size+1) b B cb B' cb')) (fun i _=>a.names.length - (intOf i).toNat)
         case atStart=>exact⟨0,rfl,Nat.zero_le _,hid (fun k _ _ h=>absurd h (Nat.not_lt_zero _)),HB,P1,P2⟩
         case round=>
          rename_i wr0 _ _ wr;obtain⟨j,rfl,hj1,HE,HB,P1,P2⟩:=hrel;have k4:=P1.out.x.c4;have hl1:=LENS.out.2.1;by_cases ia:j<a.names.length
          ·have ib:j<b.names.length:=by have:=HN.out;omega
           have hl2:=LENS.out.2.2.2;obtain⟨qa,oa,rfl,hqa,t1,hsa⟩:=j2 hS A6.out HB.out j ia;obtain⟨qb,ob,rfl,hqb,t2,hsb⟩:=j2 hS B6.out HB.out j ib;have hqa2:qa<wr.heap.size:=Nat.lt_of_lt_of_le hqa HB.out.size;have hqb2:qb<wr.heap.size:=Nat.lt_of_lt_of_le hqb HB.out.size;clear hqa hqb hsa hsb;obtain⟨sa,hsa⟩: ∃sa,sa=a.names[j]:=⟨_,rfl⟩;obtain⟨sb,hsb⟩: ∃sb,sb=b.names[j]:=⟨_,rfl⟩;rw[←hsa]at t1;rw[←hsb]at t2;have HSA:=hid hsa;have HSB:=hid hsb;clear hsa hsb;by_cases hs:sa.toList=sb.toList
           ·have es:(sa.toList == sb.toList)=true:=by simpa using hs
            have HEQ:Hid (a.names[j]=b.names[j]):=hid (by rw[←HSA.out,←HSB.out];exact toList_inj hs);clear hs;go_wp2_with fail;try simp only[List.append_eq,List.cons_append,List.nil_append]
            refine bV (by kernel_rfl) (by kernel_rfl) (fun _ d _ _ _ h=>by cases d<;>exact h) ?_;have q4:=aa (B:=wr.heap.size) (w:=wr.drew) P1.out.x.c4 P1.out.x.lt;have q4':=aa (B:=wr.heap.size) (w:=wr.drew) P2.out.x.c4 P2.out.x.lt;have u1:=aa (B:=wr.heap.size) (w:=wr.drew) t1 hqa2;have u2:=aa (B:=wr.heap.size) (w:=wr.drew) t2 hqb2;first|with_reducible refine ac ?_ |with_reducible refine ab ?_ |refine ac ?_ |refine ab ?_
            simp only[List.takeWhile,List.dropWhile,ai,Nat.reduceBNe];repeat(go_big_quiet_step (fail))
            first|with_reducible refine wpQuiet_nil ?_ |refine wpQuiet_nil ?_
            unfold aF;clear q4 q4' u1 u2 t1 t2 hqa2 hqb2;go_wp2_with fail
            go_roundw
            case rel=>exact⟨j+1,by go_num,by omega,hid (fun k h h' hkj=>by
             by_cases e:k=j
             ·subst e;exact HEQ.out
             ·exact HE.out k h h' (by omega)),hid HB.out.drew,hid P1.out.drew,hid P2.out.drew⟩
            case measure=>simp[intOf];omega
           ·have es:(sa.toList == sb.toList)=false:=by simpa using hs
            have HF:Hid ((false=true)↔a=b):=hid (ep fun h=>hs (by
             rw[HSA.out,HSB.out]
             subst h;rfl))
            clear hs;go_wp2_with fail;try simp only[List.append_eq,List.cons_append,List.nil_append]
            refine bV (by kernel_rfl) (by kernel_rfl) (fun _ d _ _ _ h=>by cases d<;>exact h) ?_;have q4:=aa (B:=wr.heap.size) (w:=wr.drew) P1.out.x.c4 P1.out.x.lt;have q4':=aa (B:=wr.heap.size) (w:=wr.drew) P2.out.x.c4 P2.out.x.lt;have u1:=aa (B:=wr.heap.size) (w:=wr.drew) t1 hqa2;have u2:=aa (B:=wr.heap.size) (w:=wr.drew) t2 hqb2;first|with_reducible refine ac ?_ |with_reducible refine ab ?_ |refine ac ?_ |refine ab ?_
            simp only[List.takeWhile,List.dropWhile,ai,Nat.reduceBNe];repeat(go_big_quiet_step (fail))
            first|with_reducible refine wpQuiet_nil ?_ |refine wpQuiet_nil ?_
            unfold aF;clear q4 q4' u1 u2 t1 t2 hqa2 hqb2;go_wp2_with fail;go_ret;exact⟨⟨_,rfl,HF.out⟩,HB.out.drew⟩
          ·have HF:Hid ((true=true)↔a=b):=hid ⟨fun _=>VT.same HK.out HI.out HT.out HEA.out (List.ext_getElem HN.out (fun k h h'=>HE.out k h h' (by omega))),fun _=>rfl⟩;go_wp2_with fail;go_ret;exact⟨.inr ⟨rfl,by have h:=HF.out;simpa using h⟩,HB.out⟩
      ·have en1:((a.names.length:Int) == (b.names.length:Int))=false:=beq_eq_false_iff_ne.2 (by omega);have en2:((a.names.length:Int) != (b.names.length:Int))=true:=bne_iff_ne.2 (by omega);have en3:(a.names.length == b.names.length)=false:=by simpa using hn
       have HF:Hid ((false=true)↔a=b):=hid (ep fun h=>hn (by rw[h]));clear hn;go_enter Tryz.func57,Tryz.ntmps57;go_wp2_with fail;go_ret;exact⟨⟨_,rfl,HF.out⟩,HB0.out⟩
     ·have el1:((a.items.length:Int) == (b.items.length:Int))=false:=beq_eq_false_iff_ne.2 (by omega);have el2:((a.items.length:Int) != (b.items.length:Int))=true:=bne_iff_ne.2 (by omega);have el3:(a.items.length == b.items.length)=false:=by simpa using hl
      have HF:Hid ((false=true)↔a=b):=hid (ep fun h=>hl (by rw[h]));clear hl;go_enter Tryz.func57,Tryz.ntmps57;go_wp2_with fail;go_ret;exact⟨⟨_,rfl,HF.out⟩,HB0.out⟩
    ·have et1:(a.text.toList == b.text.toList)=false:=by simpa using ht
     have HF:Hid ((false=true)↔a=b):=hid (ep fun h=>ht (by rw[h]));clear ht;go_enter Tryz.func57,Tryz.ntmps57;go_wp2_with fail;go_ret;exact⟨⟨_,rfl,HF.out⟩,HB0.out⟩
   ·have ei1:(a.num == b.num)=false:=by simpa using hi
    have ei2:(a.num != b.num)=true:=by simpa using hi
    have HF:Hid ((false=true)↔a=b):=hid (ep fun h=>hi (by rw[h]));clear hi;go_enter Tryz.func57,Tryz.ntmps57;go_wp2_with fail;go_ret;exact⟨⟨_,rfl,HF.out⟩,HB0.out⟩
  ·have ek1:(a.kind == b.kind)=false:=by simpa using hk
   have ek2:(a.kind != b.kind)=true:=by simpa using hk
   have HF:Hid ((false=true)↔a=b):=hid (ep fun h=>hk (by rw[h]));clear hk;go_enter Tryz.func57,Tryz.ntmps57;go_wp2_with fail;go_ret;exact⟨⟨_,rfl,HF.out⟩,HB0.out⟩
theorem nR {ns:List ByteArray}(h: ∀x y (_:x<ns.length) (_:y<ns.length),x<y→ns[x]≠ns[y]):ns.Nodup:=List.pairwise_iff_getElem.2 fun x y hx hy hxy=>h x y hx hy hxy
theorem sF {ns:List ByteArray}{x y:Nat}(hx:x<ns.length)(hy:y<ns.length)(hxy:x<y)(h:ns[x]=ns[y]): ¬ns.Nodup:=fun hn=>List.pairwise_iff_getElem.1 hn x y hx hy hxy h
theorem tf (S:Nat→Prop)(A:Option Addr)(c:Nat)(ns:List ByteArray)(w:World)(hS: ∀b,S b→b<w.heap.size)(h:au w S A ns)(hl:ns.length≤140737488351232):
  Calls Tryz.prog 120 #[.slice A ns.length c] w fun e w'=>(∃r:Bool,e= .returned (.bool r)∧(r=true↔ ¬ns.Nodup))∧Below w.heap.size w w':=by
 have HH:=hid h;clear h;go_enter Tryz.func120,Tryz.ntmps120;go_wp2_with fail
 go_loopw [3,4] (fun i k wr=> ∃j:Nat,i= .int .i64 j∧j≤ns.length∧Hid (∀x y (_:x<ns.length) (_:y<ns.length),x<y→y<j→ns[x]≠ns[y])∧Hid (Below w.heap.size w wr)) (fun i _ _=>ns.length - (intOf i).toNat)
 case atStart=>exact⟨0,rfl,Nat.zero_le _,hid (fun _ _ _ _ _ h=>absurd h (Nat.not_lt_zero _)),hid (Below.refl _ _)⟩
 case round=>
  obtain⟨j,rfl,hj,HD,HB⟩:=hrel;by_cases hlt:j<ns.length
  ·obtain⟨p,o,rfl,hp,hc⟩:=HH.out (by omega);have HC:=hid hc;have HP:=hid (hS p hp);clear hc hp;go_wp2_with fail
   go_loopw [4] (fun k wr=> ∃m:Nat,k= .int .i64 m∧m≤j∧Hid (∀x (_:x<ns.length),x<m→ns[x]≠ns[j])∧Hid (Below w.heap.size w wr)) (fun k _=>j - (intOf k).toNat)
   case atStart=>exact⟨0,rfl,Nat.zero_le _,hid (fun _ _ h=>absurd h (Nat.not_lt_zero _)),HB⟩
   case round=>
    rename_i wr;obtain⟨m,rfl,hm,HE,HB⟩:=hrel;by_cases hmj:m<j
    ·have hml:m<ns.length:=by omega
     have t1:wr.cell? ⟨p,o+j,none⟩=some (.string ns[j]):=(HB.out.cell (p:=⟨p,o+j,none⟩) HP.out).trans (HC.out j hlt).1;have t2:wr.cell? ⟨p,o+m,none⟩=some (.string ns[m]):=(HB.out.cell (p:=⟨p,o+m,none⟩) HP.out).trans (HC.out m hml).1;have hp2:p<wr.heap.size:=Nat.lt_of_lt_of_le HP.out HB.out.size;obtain⟨sa,hsa⟩: ∃sa,sa=ns[j]:=⟨_,rfl⟩;obtain⟨sb,hsb⟩: ∃sb,sb=ns[m]:=⟨_,rfl⟩;rw[←hsa]at t1;rw[←hsb]at t2;have HSA:=hid hsa;have HSB:=hid hsb;clear hsa hsb;by_cases hs:sa.toList=sb.toList
     ·have es:(sa.toList == sb.toList)=true:=by simpa using hs
      have HF:Hid (¬ns.Nodup):=hid (sF hml hlt hmj (by rw[←HSA.out,←HSB.out];exact(toList_inj hs).symm));clear hs;go_wp2_with fail;try simp only[List.append_eq,List.cons_append,List.nil_append]
      refine bV (by kernel_rfl) (by kernel_rfl) (fun _ d _ _ _ h=>by cases d<;>exact h) ?_;have u1:=aa (B:=wr.heap.size) (w:=wr.drew) t1 hp2;have u2:=aa (B:=wr.heap.size) (w:=wr.drew) t2 hp2;first|with_reducible refine ac ?_ |with_reducible refine ab ?_ |refine ac ?_ |refine ab ?_
      simp only[List.takeWhile,List.dropWhile,ai,Nat.reduceBNe];repeat(go_big_quiet_step (fail))
      first|with_reducible refine wpQuiet_nil ?_ |refine wpQuiet_nil ?_
      unfold aF;clear u1 u2 t1 t2;go_wp2_with fail;go_ret;exact⟨⟨_,rfl,⟨fun _=>HF.out,fun _=>rfl⟩⟩,HB.out.drew⟩
     ·have es:(sa.toList == sb.toList)=false:=by simpa using hs
      have HNE:Hid (ns[m]≠ns[j]):=hid (fun h=>hs (by rw[HSA.out,HSB.out,h]));clear hs;go_wp2_with fail;try simp only[List.append_eq,List.cons_append,List.nil_append]
      refine bV (by kernel_rfl) (by kernel_rfl) (fun _ d _ _ _ h=>by cases d<;>exact h) ?_;have u1:=aa (B:=wr.heap.size) (w:=wr.drew) t1 hp2;have u2:=aa (B:=wr.heap.size) (w:=wr.drew) t2 hp2;first|with_reducible refine ac ?_ |with_reducible refine ab ?_ |refine ac ?_ |refine ab ?_
      simp only[List.takeWhile,List.dropWhile,ai,Nat.reduceBNe];repeat(go_big_quiet_step (fail))
      first|with_reducible refine wpQuiet_nil ?_ |refine wpQuiet_nil ?_
      unfold aF;clear u1 u2 t1 t2;go_wp2_with fail
      go_roundw
      case rel=>exact⟨m+1,by go_num,by omega,hid (fun x hx hxm=>by
       by_cases e:x=m
       ·subst e;exact HNE.out
       ·exact HE.out x hx (by omega)),hid HB.out.drew⟩
      case measure=>simp[intOf];omega
    ·go_wp2_with fail
     go_roundw
     case rel=>exact⟨j+1,by go_num,by omega,hid (fun x y hx hy hxy hyj=>by
      by_cases e:y=j
      ·subst e;exact HE.out x hx (by omega)
      ·exact HD.out x y hx hy hxy (by omega)),HB⟩
     case measure=>simp[intOf];omega
  ·have HF:Hid (ns.Nodup):=hid (nR fun x y hx hy hxy=>HD.out x y hx hy hxy (by omega));go_wp2_with fail;go_ret;exact⟨⟨_,rfl,⟨fun h=>(by cases h),fun h=>absurd HF.out h⟩⟩,HB.out⟩
end Go.Proofs.YtgfidiocmiolpaaGreat
