/- How many values there are in a value, as the document's answer counts them, up to a bound. -/
import Derived.Test.YtgbopnlpaabelaaGreatDoorKValQ
import Derived.Test.YtgbopnlpaabelaaGreatDoorKPathA
import Derived.Deep.OwnRows
import Derived.Laws.AppendOwnNone
set_option maxHeartbeats 64000000
set_option maxRecDepth 100000
set_option linter.unusedVariables false
set_option linter.unusedSimpArgs false
namespace Go.Proofs.YtgbopnlpaabelaaGreatDoor
open Lib (hid)
open Go.RowKit
theorem wb (S:Nat→Prop): ∀(k d:Nat) (t:VT) (v:Value) (w:World),d+k=41→(∀b,S b→b<w.heap.size)→LV w S t v→
  Calls Tryz.prog 28 #[v,.int .i64 d] w fun e w'=>e= .returned (.int .i64 (bG d t))∧Below w.heap.size w w':=by
 intro k
 induction k with
 |zero=>
  intro d t v w hd hS h;obtain⟨A,c,A',c',rfl,-,-,-,-,-,-,-⟩:=h.shape;have HR:Hid (bG d t=1048576):=hid (fN d t (by omega));obtain rfl:d=41:=by omega
  generalize bG 41 t=R at *;go_enter Tryz.func28,Tryz.ntmps28;go_wp2_with fail;go_ret
  exact⟨by rw[HR.out];rfl,ae _⟩
 |succ k ih=>
  intro d t v w hd hS h;obtain⟨A,c,A',c',rfl,-,-,-,a4,a5,-,a7⟩:=h.shape;have A7:=hid a7;have A4:=hid a4;have HB0:Hid (Below w.heap.size w (w.alloc (.cells #[.int .i64 t.kind,.int .i64 t.num,.string t.text,.slice A t.items.length c,.slice A' t.names.length c'] 25))):=hid (ae _);have X0:Hid (Box (w.alloc (.cells #[.int .i64 t.kind,.int .i64 t.num,.string t.text,.slice A t.items.length c,.slice A' t.names.length c'] 25)) w.heap.size (.int .i64 t.kind) (.int .i64 t.num) (.string t.text) (.slice A t.items.length c) (.slice A' t.names.length c')):=hid (Box.new _ _ _ _ _);have HR0:Hid (cG d (1+t.names.length) (t.items.drop 0)=bG d t):=hid (iO d t (by omega)).symm
  have HN:Hid (∀j (h:j<t.items.length),bG (d+1) t.items[j]≤8796100000000):=hid (fun j hj=>by
   obtain⟨v,hv⟩:=qk a7 (List.getElem_mem hj);have:=zG k (d+1) _ v (by omega) hv
   omega)
  have HNm:Hid (t.names.length≤140737488351232):=hid a5;have HD:Hid (d+(k+1)=41):=hid hd;have hd40:d≤40:=by omega
  generalize bG d t=R at *;clear h a7 a4 hd;have hn:=HNm.out;go_enter Tryz.func28,Tryz.ntmps28;go_wp2_with fail;clear a5 hn
  go_loopw [5,6] (fun n i wr=> ∃(j m:Nat),n= .int .i64 m∧i= .int .i64 j∧j≤t.items.length∧m≤140737488400000∧Hid (cG d m (t.items.drop j)=R)∧Hid (Below w.heap.size w wr)∧
   Hid (Box wr w.heap.size (.int .i64 t.kind) (.int .i64 t.num) (.string t.text) (.slice A t.items.length c) (.slice A' t.names.length c'))) (fun _ i _=>t.items.length - (intOf i).toNat)
  case atStart=>
   have:=HNm.out;exact⟨0,1+t.names.length,by go_num,rfl,Nat.zero_le _,by omega,HR0,HB0,X0⟩
  case round=>
   obtain⟨j,m,rfl,rfl,hj,hm,HI,HB,X⟩:=hrel;have k3:=X.out.c3;have hl:=A4.out;by_cases hlt:j<t.items.length
   ·by_cases hm2:m<65536
    ·obtain⟨p,o,A2,e2,A3,e3,rfl,hp,h0,h1,h2,h3,h4,hx⟩:=gt hS A7.out HB.out j hlt;have hb1:=HN.out j hlt;have HI2:Hid (cG d (m+bG (d+1) t.items[j]) (t.items.drop (j+1))=R):=hid (by rw[←HI.out,lO d m hlt,if_pos hm2]);have HC:=hid (ih (d+1) t.items[j] _ wr (by have:=HD.out;omega) (ct hS HB.out) hx);generalize bG (d+1) t.items[j]=R2 at *;have HM:=hid hm;have HM2:=hid hm2;have HB1:=hid hb1;have gm:(m:Int)<65536:=by omega
     clear hx hp HI hm hm2 hb1;go_wp2_with fail;refine HC.out.mono ?_;rintro e w2 ⟨rfl,hb⟩;have X2:=hid (X.out.call hb);have HB2:=hid (am HB.out hb);have hb1:=HB1.out;have hm:=HM.out;clear hb HC k3 h0 h1 h2 h3 h4 X HB;go_wp2_with fail
     go_roundw
     case rel=>exact⟨j+1,m+R2,by go_num,by go_num,by omega,by omega,HI2,HB2,X2⟩
     case measure=>simp[intOf];omega
    ·have HF:Hid (R=m):=hid (by rw[←HI.out,lO d m hlt,if_neg hm2]);have gm: ¬(m:Int)<65536:=by omega
     clear hm hm2;go_wp2_with fail;go_ret;exact⟨aH (by rw[HF.out]),HB.out⟩
   ·have HF:Hid (R=m):=hid (by rw[←HI.out,List.drop_eq_nil_of_le (by omega),jz]);go_wp2_with fail;go_ret;exact⟨aH (by rw[HF.out]),HB.out⟩
theorem kL (S:Nat→Prop)(t:VT)(v:Value)(w:World)(hS: ∀b,S b→b<w.heap.size)(h:LV w S t v):
  Calls Tryz.prog 9 #[v] w fun e w'=>e= .returned (.bool (di t))∧Below w.heap.size w w':=by
 obtain⟨A,c,A',c',rfl,-,-,-,-,-,-,-⟩:=h.shape;obtain⟨o,ho⟩: ∃o:Obj,o= .cells #[.int .i64 t.kind,.int .i64 t.num,.string t.text,.slice A t.items.length c,.slice A' t.names.length c'] 25:=⟨_,rfl⟩;have HC:=hid (wb S 41 0 t _ (w.alloc o) rfl (de hS o) (h.alloc hS o));have HB:=hid (ae (w:=w) o);have HR:Hid (di t=decide (3000<(bG 0 t:Int))):=hid (by unfold di;rw[decide_eq_decide];omega);generalize di t=R at *;subst ho;generalize bG 0 t=N at *;clear h;go_enter Tryz.func9,Tryz.ntmps9;go_wp2_with fail;refine HC.out.mono ?_;rintro e w2 ⟨rfl,hb⟩;have HB2:=hid (am HB.out hb);clear hb HC HB;go_wp2_with fail;go_ret;exact⟨aM (by rw[HR.out]),HB2.out⟩
structure Vr (u:World)(S:Nat→Prop)(g:Nat)(t:VT)(A:Option Addr)(c:Nat)(A':Option Addr)(c':Nat):Prop where
 x:Box u g (.int .i64 t.kind) (.int .i64 t.num) (.string t.text) (.slice A t.items.length c) (.slice A' t.names.length c')
 v:LV u S t (.agg #[.int .i64 t.kind,.int .i64 t.num,.string t.text,.slice A t.items.length c,.slice A' t.names.length c'])
 s: ∀b,S b→b<u.heap.size
section
variable {u u':World} {S:Nat→Prop} {g:Nat} {t:VT} {A:Option Addr} {c:Nat} {A':Option Addr} {c':Nat}
theorem Vr.call (h:Vr u S g t A c A' c')(hb:Below u.heap.size u u'):Vr u' S g t A c A' c':=⟨h.x.call hb,h.v.below h.s hb,ct h.s hb⟩
theorem Vr.alloc (h:Vr u S g t A c A' c')(o:Obj):Vr (u.alloc o) S g t A c A' c':=h.call (ae o)
theorem Vr.drew (h:Vr u S g t A c A' c'):Vr u.drew S g t A c A' c':=h.call (below_predrew_l u)
 where below_predrew_l (u:World):Below u.heap.size u u.drew:=(Below.refl _ _).drew
theorem Vr.new (hS: ∀b,S b→b<u.heap.size)(h:LV u S t (.agg #[.int .i64 t.kind,.int .i64 t.num,.string t.text,.slice A t.items.length c,.slice A' t.names.length c'])):
  Vr (u.alloc (.cells #[.int .i64 t.kind,.int .i64 t.num,.string t.text,.slice A t.items.length c,.slice A' t.names.length c'] 25)) S u.heap.size t A c A' c':=⟨Box.new _ _ _ _ _,h.alloc hS _,de hS _⟩
end
section
variable {u :World} {S:Nat→Prop} {g g':Nat} {t t':VT} {A B:Option Addr} {c d:Nat} {A' B':Option Addr} {c' d':Nat}
end
theorem bY {w:World}{S:Nat→Prop}{a:VT}{va:Value}(hS: ∀b,S b→b<w.heap.size)(ha:LV w S a va):
  ∃A ca A' ca',va= .agg #[.int .i64 a.kind,.int .i64 a.num,.string a.text,.slice A a.items.length ca,.slice A' a.names.length ca']∧(a.items.length≤140737488351232∧a.names.length≤140737488351232)∧LVA w S A a.items∧ai w S A' a.names∧
   Vr (w.alloc (.cells #[.int .i64 a.kind,.int .i64 a.num,.string a.text,.slice A a.items.length ca,.slice A' a.names.length ca'] 25)) S w.heap.size a A ca A' ca'∧
   Below w.heap.size w (w.alloc (.cells #[.int .i64 a.kind,.int .i64 a.num,.string a.text,.slice A a.items.length ca,.slice A' a.names.length ca'] 25)):=by
 obtain⟨A,ca,A',ca',rfl,-,-,-,a4,a5,a6,a7⟩:=ha.shape;exact⟨A,ca,A',ca',rfl,⟨a4,a5⟩,a7,a6,Vr.new hS ha,ae _⟩
theorem ru {l:List VT}{j:Nat}(h:j<l.length):aK (l.drop j)=max (ac l[j]) (aK (l.drop (j+1))):=by
 rw[List.drop_eq_getElem_cons h];conv=>lhs;unfold aK
theorem tV :aK []=0:=by unfold aK;rfl
theorem sZ (S:Nat→Prop): ∀(n:Nat) (t:VT) (v:Value) (w:World),ac t≤n→n≤4611686018427387903→(∀b,S b→b<w.heap.size)→LV w S t v→
  Calls Tryz.prog 49 #[v] w fun e w'=>e= .returned (.int .i64 (ac t))∧Below w.heap.size w w':=by
 intro n
 induction n with
 |zero=>intro t v w hd;cases t;rw[aN]at hd;omega
 |succ n ih=>
  intro t v w hd hn hS h;obtain⟨A,c,A',c',rfl,lens,a7,-,v1,hb0⟩:=bY hS h;have LENS:=hid lens;have A7:=hid a7;have P0:=hid v1;have HB0:=hid hb0;have hdt:ac t=aK t.items+1:=by cases t;exact aN _ _ _ _ _
  have HDT:=hid hdt;have HD:Hid (aK t.items≤n):=hid (by omega);have HN:=hid hn;obtain⟨R,hR⟩: ∃R,R=aK t.items:=⟨_,rfl⟩;have HR:Hid (max 0 (aK (t.items.drop 0))=R):=hid (by rw[hR];simp);have HRD:Hid (ac t=R+1):=hid (by rw[hR];exact hdt);have HRN:Hid (R≤n):=hid (by rw[hR];exact HD.out);generalize ac t=D at *;clear h lens a7 v1 hb0 hdt hd hn hR HDT;go_enter Tryz.func49,Tryz.ntmps49;go_wp2_with fail
  go_loopw [3,4,5] (fun d i e wr=> ∃j m:Nat,d= .int .i64 m∧i= .int .i64 j∧j≤t.items.length∧Hid (max m (aK (t.items.drop j))=R)∧Hid (Below w.heap.size w wr)∧Hid (Vr wr S w.heap.size t A c A' c')) (fun _ i _ _=>t.items.length - (intOf i).toNat)
  case atStart=>exact⟨0,0,rfl,rfl,Nat.zero_le _,HR,HB0,P0⟩
  case round=>
   obtain⟨j,m,rfl,rfl,hj,HI,HB,P⟩:=hrel;have k3:=P.out.x.c3;have hl:=LENS.out.1;by_cases hlt:j<t.items.length
   ·obtain⟨p,o,A2,e2,A3,e3,rfl,hp,h0,h1,h2,h3,h4,hx⟩:=gt hS A7.out HB.out j hlt;have HC:=hid (ih t.items[j] _ wr (Nat.le_trans (cj (List.getElem_mem hlt)) HD.out) (by have:=HN.out;omega) P.out.s hx);have HI2:Hid (max (max m (ac t.items[j])) (aK (t.items.drop (j+1)))=R):=hid (by rw[←HI.out,ru hlt];omega);generalize ac t.items[j]=C at *;clear hx hp HI;go_wp2_with fail;refine HC.out.mono ?_;rintro e w2 ⟨rfl,hb⟩;have P2:=hid (P.out.call hb);have HB2:=hid (am HB.out hb);clear hb HC k3 h0 h1 h2 h3 h4 P HB;by_cases hc:(C:Int)>m
    ·have e:max m C=C:=by omega
     rw[e]at HI2;clear e;go_wp2_with fail
     go_roundw
     case rel=>exact⟨j+1,C,rfl,by go_num,by omega,HI2,HB2,P2⟩
     case measure=>simp[intOf];omega
    ·have e:max m C=m:=by omega
     rw[e]at HI2;clear e;go_wp2_with fail
     go_roundw
     case rel=>exact⟨j+1,m,rfl,by go_num,by omega,HI2,HB2,P2⟩
     case measure=>simp[intOf];omega
   ·have HF:Hid (m=R):=hid (by have h:=HI.out;rw[List.drop_eq_nil_of_le (by omega),tV]at h;omega);have hm:m≤4611686018427387903:=by have:=HF.out;have:=HRN.out;have:=HN.out;omega
    go_wp2_with fail;go_ret;exact⟨aH (by have:=HF.out;have:=HRD.out;go_num),HB.out⟩
theorem nU (S:Nat→Prop)(t:VT)(v:Value)(w:World)(hS: ∀b,S b→b<w.heap.size)(h:LV w S t v):
  Calls Tryz.prog 99 #[v] w fun e w'=>e= .returned (.bool (dO t))∧Below w.heap.size w w':=by
 obtain⟨A,ca,A',ca',rfl,-,-,-,v1,hb⟩:=bY hS h;have q0:=v1.x.c0;have q1:=v1.x.c1;have q2:=v1.x.c2;have q3:=v1.x.c3;have q4:=v1.x.c4;have HB:=hid hb;obtain⟨r,hr⟩: ∃r,r=dO t:=⟨_,rfl⟩;have HR:=hid hr;rw[←hr];clear h v1 hb hr;go_enter Tryz.func99,Tryz.ntmps99;obtain⟨b1,d1⟩: ∃b,(t.kind == 0)=b:=⟨_,rfl⟩;obtain⟨b2,d2⟩: ∃b,(t.num == 0)=b:=⟨_,rfl⟩;obtain⟨b3,d3⟩: ∃b,(t.text.toList == [])=b:=⟨_,rfl⟩;obtain⟨b4,d4⟩: ∃b,((t.items.length:Int) == 0)=b:=⟨_,rfl⟩;obtain⟨b5,d5⟩: ∃b,((t.names.length:Int) == 0)=b:=⟨_,rfl⟩;cases b1<;>cases b2<;>cases b3<;>cases b4<;>cases b5
 all_goals
  go_wp2_with fail;go_ret;refine⟨?_,HB.out⟩;rw[HR.out];unfold dO;simp at d1 d2 d3 d4 d5;simp[d1,d2,d3,d4,d5]
structure au where
 kind:Int
 path:List ByteArray
 val:VT
 num:Int
def co (d:au):Bool:=ce d.path && (if d.kind=1 then decide (az d.val=0) && decide (d.num=0)else if d.kind=2 then dO d.val && decide (d.num=0)else if d.kind=3 then dO d.val && (decide (0≤d.num) && decide (d.num≤999))else false)
def cO (l:List au):Int:=if 64<l.length then 3 else if l.all co then 0 else 1
def gT (l:List au):List (List ByteArray):=l.map (·.path)
def lJ (l:List au):Bool:= !cm [] (gT l)
theorem dI {d:au}(h:co d=true):ce d.path=true:=by
 unfold co at h;rw[Bool.and_eq_true]at h;exact h.1
def cQ (w:World)(S:Nat→Prop)(d:au)(cs:Array Value):Prop:=
 ∃(PA:Option Addr) (pc:Nat) (VA:Option Addr) (vc:Nat) (VA':Option Addr) (vc':Nat),cs= #[.int .i64 d.kind,.slice PA d.path.length pc,.int .i64 d.val.kind,.int .i64 d.val.num,.string d.val.text,.slice VA d.val.items.length vc,.slice VA' d.val.names.length vc',.int .i64 d.num]∧
  LV w S d.val (.agg #[.int .i64 d.val.kind,.int .i64 d.val.num,.string d.val.text,.slice VA d.val.items.length vc,.slice VA' d.val.names.length vc'])∧ai w S PA d.path∧d.path.length≤pc∧(PA=none→pc=0)∧Rng d.kind∧Rng d.num∧d.path.length≤8796093021952
theorem cQ.keep {w w':World}{S:Nat→Prop}{d:au}{cs:Array Value}(h:cQ w S d cs)(hk: ∀b,S b→w'.heap[b]? =w.heap[b]?):cQ w' S d cs:=by
 obtain⟨PA,pc,VA,vc,VA',vc',h1,h2,h3,h4⟩:=h;exact⟨PA,pc,VA,vc,VA',vc',h1,h2.keep hk,h3.keep hk,h4⟩
theorem cQ.imp {w:World}{S S':Nat→Prop}{d:au}{cs:Array Value}(h:cQ w S d cs)(hS: ∀b,S b→S' b):cQ w S' d cs:=by
 obtain⟨PA,pc,VA,vc,VA',vc',h1,h2,h3,h4⟩:=h;exact⟨PA,pc,VA,vc,VA',vc',h1,h2.imp hS,h3.imp hS,h4⟩
theorem cQ.below {w w':World}{S:Nat→Prop}{d:au}{cs:Array Value}{B:Nat}(h:cQ w S d cs)(hS: ∀b,S b→b<B)(hb:Below B w w'):cQ w' S d cs:=h.keep fun b hb'=>hb.block b (hS b hb')
def dl (w:World)(S:Nat→Prop)(A:Option Addr)(l:List au):Prop:=
 0<l.length→ ∃b off,A=some ⟨b,off,none⟩∧S b∧ ∀i (h:i<l.length),∃cs:Array Value,(∀j v,cs[j]? =some v→w.cell? ⟨b,off+i * 8+j,none⟩=some v)∧cQ w S l[i] cs
theorem dl.keep {w w':World}{S:Nat→Prop}{A:Option Addr}{l:List au}(h:dl w S A l)(hk: ∀b,S b→w'.heap[b]? =w.heap[b]?):dl w' S A l:=fun hp=>by
 obtain⟨b,off,hA,hb,hc⟩:=h hp;refine⟨b,off,hA,hb,fun i hi=> ?_⟩;obtain⟨cs,h1,h2⟩:=hc i hi;exact⟨cs,fun j v hv=>(World.cell?_of_block (a:=⟨b,off+i * 8+j,none⟩) (hk b hb)).trans (h1 j v hv),h2.keep hk⟩
theorem dl.imp {w:World}{S S':Nat→Prop}{A:Option Addr}{l:List au}(h:dl w S A l)(hS: ∀b,S b→S' b):dl w S' A l:=fun hp=>by
 obtain⟨b,off,hA,hb,hc⟩:=h hp;refine⟨b,off,hA,hS b hb,fun i hi=> ?_⟩;obtain⟨cs,h1,h2⟩:=hc i hi;exact⟨cs,h1,h2.imp hS⟩
theorem dl.below {w w':World}{S:Nat→Prop}{A:Option Addr}{l:List au}{B:Nat}(h:dl w S A l)(hS: ∀b,S b→b<B)(hb:Below B w w'):dl w' S A l:=h.keep fun b hb'=>hb.block b (hS b hb')
theorem dl.cells {w:World}{S:Nat→Prop}{A:Option Addr}{l:List au}(h:dl w S A l)(k:Nat)(hk:k<l.length):
  ∃b off PA pc VA vc VA' vc',A=some ⟨b,off,none⟩∧S b∧cQ w S l[k] #[.int .i64 l[k].kind,.slice PA l[k].path.length pc,.int .i64 l[k].val.kind,.int .i64 l[k].val.num,.string l[k].val.text,.slice VA l[k].val.items.length vc,.slice VA' l[k].val.names.length vc',.int .i64 l[k].num]∧
   w.cell? ⟨b,off+k * 8,none⟩=some (.int .i64 l[k].kind)∧w.cell? ⟨b,off+k * 8+1,none⟩=some (.slice PA l[k].path.length pc)∧w.cell? ⟨b,off+k * 8+2,none⟩=some (.int .i64 l[k].val.kind)∧w.cell? ⟨b,off+k * 8+3,none⟩=some (.int .i64 l[k].val.num)∧w.cell? ⟨b,off+k * 8+4,none⟩=some (.string l[k].val.text)∧
   w.cell? ⟨b,off+k * 8+5,none⟩=some (.slice VA l[k].val.items.length vc)∧w.cell? ⟨b,off+k * 8+6,none⟩=some (.slice VA' l[k].val.names.length vc')∧w.cell? ⟨b,off+k * 8+7,none⟩=some (.int .i64 l[k].num):=by
 obtain⟨b,off,hA,hb,hc⟩:=h (by omega);obtain⟨cs,h1,h2⟩:=hc k hk;obtain⟨PA,pc,VA,vc,VA',vc',e,-⟩:=id h2;subst e;exact⟨b,off,PA,pc,VA,vc,VA',vc',hA,hb,h2,h1 0 _ rfl,h1 1 _ rfl,h1 2 _ rfl,h1 3 _ rfl,h1 4 _ rfl,h1 5 _ rfl,h1 6 _ rfl,h1 7 _ rfl⟩
def gC (l:List au):Prop:= ∀d∈l,ac d.val≤4611686018427387903
def eD (w:World)(p:Nat)(c0 c1 c2 c3 c4 c5 c6 c7:Value):Prop:=w.heap[p]? =some (.cells #[c0,c1,c2,c3,c4,c5,c6,c7] 58 (0,0))
section
variable {w w':World} {p:Nat} {c0 c1 c2 c3 c4 c5 c6 c7:Value}
theorem eD.g0 (h:eD w p c0 c1 c2 c3 c4 c5 c6 c7):w.cell? ⟨p,0,none⟩=some c0:=Go.Joins.cell_of_block h 0
theorem eD.g1 (h:eD w p c0 c1 c2 c3 c4 c5 c6 c7):w.cell? ⟨p,1,none⟩=some c1:=Go.Joins.cell_of_block h 1
theorem eD.g2 (h:eD w p c0 c1 c2 c3 c4 c5 c6 c7):w.cell? ⟨p,2,none⟩=some c2:=Go.Joins.cell_of_block h 2
theorem eD.g3 (h:eD w p c0 c1 c2 c3 c4 c5 c6 c7):w.cell? ⟨p,3,none⟩=some c3:=Go.Joins.cell_of_block h 3
theorem eD.g4 (h:eD w p c0 c1 c2 c3 c4 c5 c6 c7):w.cell? ⟨p,4,none⟩=some c4:=Go.Joins.cell_of_block h 4
theorem eD.g5 (h:eD w p c0 c1 c2 c3 c4 c5 c6 c7):w.cell? ⟨p,5,none⟩=some c5:=Go.Joins.cell_of_block h 5
theorem eD.g6 (h:eD w p c0 c1 c2 c3 c4 c5 c6 c7):w.cell? ⟨p,6,none⟩=some c6:=Go.Joins.cell_of_block h 6
theorem eD.g7 (h:eD w p c0 c1 c2 c3 c4 c5 c6 c7):w.cell? ⟨p,7,none⟩=some c7:=Go.Joins.cell_of_block h 7
theorem eD.lt (h:eD w p c0 c1 c2 c3 c4 c5 c6 c7):p<w.heap.size:=(Array.getElem?_eq_some_iff.1 h).1
theorem eD.new (w:World)(c0 c1 c2 c3 c4 c5 c6 c7:Value):eD (w.alloc (.cells #[c0,c1,c2,c3,c4,c5,c6,c7] 58)) w.heap.size c0 c1 c2 c3 c4 c5 c6 c7:=heap_alloc_new w _
theorem eD.alloc (h:eD w p c0 c1 c2 c3 c4 c5 c6 c7)(o:Obj):eD (w.alloc o) p c0 c1 c2 c3 c4 c5 c6 c7:=(Below.heap_alloc w o p h.lt).trans h
end
theorem Tryz.infoStr :(Tryz.prog.info? 9).map (fun i=>(i.zero,i.size,i.bytes))=some (some (.string ⟨#[]⟩),1,16):=by kernel_rfl
theorem Tryz.infoVal :(Tryz.prog.info? 25).map (fun i=>(i.zero,i.size,i.bytes))=some (some (.agg #[.int .i64 0,.int .i64 0,.string ⟨#[]⟩,.slice none 0 0,.slice none 0 0]),5,80):=by kernel_rfl
theorem BE :Rng 0:=by unfold Rng;omega
theorem Bu {k:Int}(h1:0≤k)(h2:k≤7):Rng k:=by unfold Rng;omega
theorem jY (w:World)(S:Nat→Prop)(A:Option Addr):ai w S A []:=fun h=>absurd h (by simp)
theorem pS (w:World)(S:Nat→Prop)(A:Option Addr):LVA w S A []:=fun h=>absurd h (by simp)
theorem fi (w:World)(S:Nat→Prop)(k i:Int)(s:ByteArray)(hk:Rng k)(hi:Rng i)(hs:s.size≤140737488351232):
  LV w S (.mk k i s [] []) (.agg #[.int .i64 k,.int .i64 i,.string s,.slice none 0 0,.slice none 0 0]):=LV.mk hk hi hs (by simp) (by simp) (jY _ _ _) (pS _ _ _)
section
set_option maxHeartbeats 400000
variable (w :World)
theorem yR (x:Int):Calls Tryz.prog 148 #[.int .i64 x] w fun e w'=>e= .returned (.agg #[.int .i64 3,.int .i64 x,.string ⟨#[]⟩,.slice none 0 0,.slice none 0 0])∧Below w.heap.size w w':=by
 go_enter Tryz.func148,Tryz.ntmps148;go_wp2_with fail
 (try simp only[Exit.inBlock,Exit.then])
 refine bodyPost_ret (results_cell_row rfl _ _ w.heap.size 25 _ (0,0) _ rfl (heap_alloc_new w _) Tryz.underlying25 rfl (by kernel_rfl)) rfl ?_;exact⟨rfl,ae _⟩
end
/-! ### names copied -/
def New (B:Nat)(w:World):Nat→Prop:=fun b=>B≤b∧b<w.heap.size
theorem jk (A:Option Addr)(c:Nat)(w:World)(ty:TypeId):(Builtin.append_ #[23,23] ty #[.slice none 0 0,.slice A 0 c]).run Tryz.prog w= .ok (.slice none 0 0) w:=by
 obtain⟨i0,hi,-,-,-⟩:=info_parts Tryz.infoStr;cases A<;>simp[Builtin.append_,run_underlying Tryz.underlying23,sizeOf,typeInfo,hi,Builtin.lenOf,Builtin.firstCells,loadCells,loadCellsFrom]
theorem jL (b off i:Nat):((⟨b,off,none⟩:Addr).add i)=⟨b,off+i,none⟩:=by
 unfold Addr.add
 split
 ·next h=>simp[h]
 ·rfl
theorem ew {w:World}{ops:Array Oper}{rest:List Oper}{o:Oper}{a:Act}{Q:Exit→Act→World→Prop}(hgd:o.guard=none)(s x:Operand)
  (ho:o.op= .call { callee:= .builtin .append,args:= #[s,x],argTypes:= #[23,23] }) (hs:a.eval s= .slice none 0 0) (A:Option Addr) (c:Nat) (hx:a.eval x= .slice A 0 c)
  (h:wpList Tryz.prog ops Q rest (a.put o.dst (.slice none 0 0)) w):wpList Tryz.prog ops Q (o::rest) a w:=by
 refine wpList_plain hgd fun K hK=> ?_;have hrun:=jk A c w o.type;unfold Oper.wp;simp[execOp,ho,resolve,invoke,builtin,hs,hx,hrun,Result.andThen];exact hK _ _ h
theorem qA {w:World}{B:Nat}{v:Value}{ns:List ByteArray}(h:w.ownsRow B 9 1 v ns.length (ns.map Value.string))(hs: ∀s∈ns,s.size≤140737488351232): ∃A c,v= .slice A ns.length c∧ai w (New B w) A ns:=by
 rcases h.2 with ⟨rfl,h2⟩|⟨g,cap,cur,rfl,hg,hh,r⟩
 ·exact⟨none,0,by rw[h2],fun hp=>absurd hp (by omega)⟩
 ·refine⟨_,_,rfl,fun hp=>⟨g,0,rfl,⟨hg,(Array.getElem?_eq_some_iff.1 hh).1⟩,fun i hi=>⟨?_,hs _ (List.getElem_mem hi)⟩⟩⟩;have h':w.ownsRow B 9 1 (.slice (some ⟨g,0,none⟩) ns.length cap) ns.length (ns.map Value.string):=h;have:=h'.cells (g:=g) rfl i (.string ns[i]) (by simp[List.getElem?_map,List.getElem?_eq_getElem hi]);rw[jL]at this;exact this
theorem jg (S:Nat→Prop)(A:Option Addr)(c:Nat)(ns:List ByteArray)(w:World)(h:ai w S A ns)(hl:ns.length≤8796093021952):
  Calls Tryz.prog 83 #[.slice A ns.length c] w fun e w'=> ∃A' c',e= .returned (.slice A' ns.length c')∧ai w' (New w.heap.size w') A' ns∧Below w.heap.size w w':=by
 rcases ns with _|⟨n0,r⟩
 ·go_enter Tryz.func83,Tryz.ntmps83;go_wp2_with(at_builtin;go_must (refine ew rfl _ _ rfl rfl A c rfl ?_));go_ret;exact⟨none,0,rfl,jY _ _ _,Below.refl _ _⟩
 ·obtain⟨b,off,rfl,hb,hc⟩:=h (by simp);generalize hns:n0::r=ns at *;obtain⟨i0,hi,hz0,hz1,hz2⟩:=info_parts Tryz.infoStr;have HL:=hid hl;have HC:=hid hc;clear hl hc h
  have hnw: ∀j u,(ns.map Value.string)[j]? =some u→w.cell? ((⟨b,off,none⟩:Addr).add j)=some u:=by
   intro j u hj;have hjl:j<ns.length:=by have:=(List.getElem?_eq_some_iff.1 hj).1;simpa using this
   rw[jL,(HC.out j hjl).1];simpa[List.getElem?_map,List.getElem?_eq_getElem hjl]using hj
  have HNW:=hid hnw;clear hnw;go_enter Tryz.func83,Tryz.ntmps83;go_wp2_with(at_builtin;go_must (refine wpList_append_own _ rfl _ _ 23 rfl w.heap.size 9 i0 (.string ⟨#[]⟩) 1 16 Tryz.underlying23 hi hz0 hz1 hz2 rfl (by decide) _ 0 [] rfl (World.ownsRow_nil _ _ _ _) ⟨b,off,none⟩ ns.length c (ns.map Value.string) rfl ?d0 HNW.out ?d1 ?d2 ?d3 ?d4 ?_));case d0=>simp
  case d1=>intro u hu;obtain⟨_,_,rfl⟩:=List.mem_map.1 hu;rfl
  case d2=>have:=HL.out;unfold maxLen;omega
  case d3=>have:=HL.out;omega
  case d4=>exact Nat.le_refl _
  intro v' w' hown hg _;obtain⟨A',c',rfl,hst⟩:=qA hown (fun s hs=>by obtain⟨i,hi,rfl⟩:=List.mem_iff_getElem.1 hs;exact(HC.out i hi).2);have HST:=hid hst;have HB:=hid (dD (B:=w.heap.size) hg (Nat.le_refl _) (fun k hk=>by cases hk));clear hown hg hst;go_wp2_with fail;go_ret;exact⟨_,_,rfl,HST.out,HB.out⟩
theorem mw {w:World}{S:Nat→Prop}{G n:Nat}{f:Nat→Value}(hr:w.rowIs G 25 n f): ∀(l:List VT) (off:Nat),off+l.length * 5≤n→
  (∀i (h:i<l.length),LV w S l[i] (.agg #[f (off+i * 5),f (off+i * 5+1),f (off+i * 5+2),f (off+i * 5+3),f (off+i * 5+4)]))→LVs w S G off l
 | [],_,_,_=>by unfold LVs;trivial
 |t::r,off,hn,h=>by
  simp only[List.length_cons]at hn;unfold LVs;refine⟨⟨_,_,_,_,_,hr.cell (by omega),hr.cell (by omega),hr.cell (by omega),hr.cell (by omega),hr.cell (by omega),by have:=h 0 (by simp);simpa only[Nat.zero_mul,Nat.add_zero,List.getElem_cons_zero]using this⟩,mw hr r (off+5) (by omega) fun i hi=> ?_⟩;have:=h (i+1) (by simpa using hi);have e:off+5+i * 5=off+(i+1) * 5:=by omega
  rw[e];simpa using this
theorem lu {w:World}{G n:Nat}{v:Value}{xs:List Value}{B:Nat}(h:w.ownsRow B 25 5 (.slice (some ⟨G,0,none⟩) n n) n xs): ∃f,w.rowIs G 25 (n * 5) f:=by
 rcases h.2 with ⟨h1,_⟩|⟨g,cap,cur,hv,hg,hh,h1,h2,h3,_⟩
 ·cases h1
 ·injection hv with e1 e2 e3
  injection e1 with e1
  injection e1 with e1
  subst e1;subst e3;exact⟨fun i=>cur[i]?.getD undef,cur,hh,h3,fun i hi=>by show cur[i]? =some (cur[i]?.getD undef);rw[Array.getElem?_eq_getElem (by omega)];rfl⟩
def mv (f:Nat→Value)(p:Nat)(v0 v1 v2 v3 v4:Value):Nat→Value:=fun i=>if i=p+4 then v4 else if i=p+3 then v3 else if i=p+2 then v2 else if i=p+1 then v1 else if i=p then v0 else f i
def fI (w:World)(G p:Nat)(v0 v1 v2 v3 v4:Value):World:=((((w.setCell ⟨G,p,none⟩ v0).setCell ⟨G,p+1,none⟩ v1).setCell ⟨G,p+2,none⟩ v2).setCell ⟨G,p+3,none⟩ v3).setCell ⟨G,p+4,none⟩ v4
theorem qz {w:World}{G n p:Nat}{f:Nat→Value}(hr:w.rowIs G 25 n f)(v0 v1 v2 v3 v4:Value):(fI w G p v0 v1 v2 v3 v4).rowIs G 25 n (mv f p v0 v1 v2 v3 v4):=
 ((((hr.set p v0).set (p+1) v1).set (p+2) v2).set (p+3) v3).set (p+4) v4
theorem dZ (w:World)(G p:Nat)(v0 v1 v2 v3 v4:Value):(fI w G p v0 v1 v2 v3 v4).heap.size=w.heap.size:=by simp[fI,World.setCell]
theorem eJ {w:World}{G p b:Nat}(v0 v1 v2 v3 v4:Value)(h:b≠G):(fI w G p v0 v1 v2 v3 v4).heap[b]? =w.heap[b]? :=by
 unfold fI;rw[Below.heap_setCell _ _ _ _ h,Below.heap_setCell _ _ _ _ h,Below.heap_setCell _ _ _ _ h,Below.heap_setCell _ _ _ _ h,Below.heap_setCell _ _ _ _ h]
theorem eN {B:Nat}{a w:World}{G p:Nat}(v0 v1 v2 v3 v4:Value)(h:Below B a w)(hG:B≤G):Below B a (fI w G p v0 v1 v2 v3 v4):=by
 unfold fI;exact((((h.setCell hG _).setCell hG _).setCell hG _).setCell hG _).setCell hG _
theorem dP {f:Nat→Value}{p i:Nat}{v0 v1 v2 v3 v4:Value}(h:i<p):mv f p v0 v1 v2 v3 v4 i=f i:=by
 unfold mv;rw[if_neg (by omega),if_neg (by omega),if_neg (by omega),if_neg (by omega),if_neg (by omega)]
theorem rO (f:Nat→Value)(p:Nat)(v0 v1 v2 v3 v4:Value):mv f p v0 v1 v2 v3 v4 p=v0∧mv f p v0 v1 v2 v3 v4 (p+1)=v1∧mv f p v0 v1 v2 v3 v4 (p+2)=v2∧mv f p v0 v1 v2 v3 v4 (p+3)=v3∧mv f p v0 v1 v2 v3 v4 (p+4)=v4:=by
 unfold mv;refine⟨?_,?_,?_,?_,?_⟩
 ·rw[if_neg (by omega),if_neg (by omega),if_neg (by omega),if_neg (by omega),if_pos rfl]
 ·rw[if_neg (by omega),if_neg (by omega),if_neg (by omega),if_pos rfl]
 ·rw[if_neg (by omega),if_neg (by omega),if_pos rfl]
 ·rw[if_neg (by omega),if_pos rfl]
 ·rw[if_pos rfl]
def yI (w:World)(G:Nat)(l:List VT)(f:Nat→Value)(j:Nat):Prop:= ∀i (h:i<l.length),i<j→LV w (fun b=>G<b∧b<w.heap.size) l[i] (.agg #[f (i * 5),f (i * 5+1),f (i * 5+2),f (i * 5+3),f (i * 5+4)])
theorem yI.next {w w3:World}{G j:Nat}{l:List VT}{f:Nat→Value}{v0 v1 v2 v3 v4:Value}(h:yI w G l f j)(hj:j<l.length)(hs:w.heap.size≤w3.heap.size)(hG:G<w.heap.size)(hb: ∀b,b<w.heap.size→b≠G→w3.heap[b]? =w.heap[b]?)
  (hx:LV w3 (fun b=>w.heap.size≤b∧b<w3.heap.size) l[j] (.agg #[v0,v1,v2,v3,v4])):yI (fI w3 G (j * 5) v0 v1 v2 v3 v4) G l (mv f (j * 5) v0 v1 v2 v3 v4) (j+1):=by
 intro i hi hij;have hkeep: ∀ {S:Nat→Prop} {t:VT} {v:Value},(∀b,S b→b≠G)→LV w3 S t v→LV (fI w3 G (j * 5) v0 v1 v2 v3 v4) S t v:=fun hS hv=>hv.keep fun b hb=>eJ v0 v1 v2 v3 v4 (hS b hb);by_cases e:i=j
 ·subst e;obtain⟨e0,e1,e2,e3,e4⟩:=rO f (i * 5) v0 v1 v2 v3 v4;rw[e0,e1,e2,e3,e4];refine(hkeep (fun b hb=>by have:=hb.1;omega) hx).imp fun b hb=>⟨by have:=hb.1;omega,by rw[dZ];exact hb.2⟩
 ·rw[dP (by omega),dP (by omega),dP (by omega),dP (by omega),dP (by omega)];have h1:=h i hi (by omega);have h2:=h1.keep (w':=w3) fun b hb'=>hb b hb'.2 (by have:=hb'.1;omega);exact(hkeep (fun b hb=>by have:=hb.1;omega) h2).imp fun b hb=>⟨hb.1,by rw[dZ];omega⟩
theorem jE :eE 44:=fun _ _=>by simp[callFunc,go_sem,Tryz.func44,Tryz.f44]
def mi (n:Nat):Prop:= ∀(S:Nat→Prop) (t:VT) (v:Value) (w:World),ac t≤n→(∀b,S b→b<w.heap.size)→LV w S t v→
 Calls Tryz.prog 44 #[v] w fun e w'=> ∃v',e= .returned v'∧LV w' (New w.heap.size w') t v'∧Below w.heap.size w w'
theorem jH {n:Nat}(hcl:mi n)(S:Nat→Prop)(A:Option Addr)(c:Nat)(l:List VT)(w:World)(hd:aK l≤n)(hS: ∀b,S b→b<w.heap.size)(h:LVA w S A l)(hl:l.length≤1759218604390):
  Calls Tryz.prog 82 #[.slice A l.length c,.func (.func 44) #[] #[]] w fun e w'=> ∃A' c',e= .returned (.slice A' l.length c')∧LVA w' (New w.heap.size w') A' l∧Below w.heap.size w w':=by
 by_cases hl0:l.length=0
 ·have hnil:=List.eq_nil_of_length_eq_zero hl0;subst hnil;go_enter Tryz.func82,Tryz.ntmps82;go_wp2_with fail;go_ret;exact⟨none,0,rfl,pS _ _ _,Below.refl _ _⟩
 ·obtain⟨b,off,rfl,hb,hls⟩:=h (by omega);obtain⟨i0,hi,hz0,hz1,hz2⟩:=info_parts Tryz.infoVal;have HL:=hid hl;have HLS:=hid hls;have hne:((l.length:Int) == 0)=false:=by simp;intro h;simp[h]at hl0
  have hlb:l.length≤4611686018427387904:=by omega
  have hcf: ∀(args:Array Value) (W:World),(callFunc 44 args).run Tryz.prog W= .ok (.enter 44 args) W:=jE;clear h hls hl;go_enter Tryz.func82,Tryz.ntmps82;go_wp2_with(at_make;go_must (refine wpList_make_full _ rfl _ _ 22 rfl w.heap.size 25 i0 _ 5 Tryz.underlying22 hi hz0 hz1 .i64 .i64 _ _ l.length rfl rfl rfl rfl ?b0 ?b1 ?b2 ?_));case b0=>have:=HL.out;rw[hz2];omega
  case b1=>have:=HL.out;unfold maxLen;omega
  case b2=>exact Nat.le_refl _
  intro w1 hown hg;obtain⟨f0,hrow⟩:=lu hown (v:= .slice none 0 0);have hb1:Below w.heap.size w w1:=dD hg (Nat.le_refl _) (fun k hk=>by cases hk);have HROW:=hid hrow;have HB1:=hid hb1;clear hown hg hrow hb1;obtain⟨G,hG⟩: ∃G,G=w.heap.size:=⟨_,rfl⟩;rw[←hG]at HROW ⊢;have HG:=hid hG;clear hG;go_wp2_with fail;have hGlt:=HROW.out.lt
  go_loopw [16] (fun i wr=> ∃(j:Nat) (f:Nat→Value),i= .int .i64 j∧j≤l.length∧Hid (wr.rowIs G 25 (l.length * 5) f∧yI wr G l f j∧Below w.heap.size w wr)) (fun i _=>l.length - (intOf i).toNat)
  case atStart=>exact⟨0,f0,rfl,Nat.zero_le _,HROW.out,fun i _ h=>absurd h (by omega),HB1.out⟩
  case round=>
   obtain⟨j,f,rfl,hj,HI⟩:=hrel;by_cases hlt:j<l.length
   ·obtain⟨c0,c1,c2,c3,c4,h0,h1,h2,h3,h4,hx⟩:=HLS.out.at j hlt;obtain⟨A2,e2,A3,e3,hag,-⟩:=hx.shape;injection hag with hag;injection hag with hag
    injection hag with y0 hag;injection hag with y1 hag;injection hag with y2 hag;injection hag with y3 hag;injection hag with y4 hag
    subst y0 y1 y2 y3 y4;have hw: ∀o,wr.cell? ⟨b,o,none⟩=w.cell? ⟨b,o,none⟩:=fun o=>HI.out.2.2.cell (p:=⟨b,o,none⟩) (hS b hb);rw[←hw]at h0 h1 h2 h3 h4;have hS1:=ct hS HI.out.2.2;have hS2: ∀b,S b→b<(wr.alloc (.cells #[.int .i64 l[j].kind,.int .i64 l[j].num,.string l[j].text,.slice A2 l[j].items.length e2,.slice A3 l[j].names.length e3] 25)).heap.size:=de hS1 _;have IH:=hid (hcl S l[j] _ _ (Nat.le_trans (cj (List.getElem_mem hlt)) hd) hS2 ((hx.below hS HI.out.2.2).alloc hS1 _));have hGr:=HI.out.1.lt;clear hx hw hS1 hS2;go_wp2_with fail;refine IH.out.mono ?_;rintro e w3 ⟨v',rfl,hv,hb3⟩;obtain⟨A4,e4,A5,e5,rfl,-⟩:=hv.shape;have hb3':Below wr.heap.size wr w3:=am (ae _) hb3;have hrow3:w3.rowIs G 25 (l.length * 5) f:=HI.out.1.of_block (hb3'.block G hGr);have hpart:=HI.out.2.1.next hlt hb3'.size hGr (fun b hb _=>hb3'.block b hb) (hv.imp fun b hb=>⟨Nat.le_trans (by simp) hb.1,hb.2⟩)
    have HF:Hid ((fI w3 G (j * 5) (.int .i64 l[j].kind) (.int .i64 l[j].num) (.string l[j].text) (.slice A4 l[j].items.length e4) (.slice A5 l[j].names.length e5)).rowIs G 25 (l.length * 5) _∧yI _ G l _ (j+1)∧Below w.heap.size w (fI w3 G (j * 5) (.int .i64 l[j].kind) (.int .i64 l[j].num) (.string l[j].text) (.slice A4 l[j].items.length e4) (.slice A5 l[j].names.length e5))):=
     hid ⟨qz hrow3 _ _ _ _ _,hpart,eN _ _ _ _ _ (HI.out.2.2.trans (hb3'.mono HI.out.2.2.size)) (by have:=HG.out;omega)⟩
    have m0:=hrow3.cell (i:=j * 5) (by omega);have m1:=hrow3.cell (i:=j * 5+1) (by omega);have m2:=hrow3.cell (i:=j * 5+2) (by omega);have m3:=hrow3.cell (i:=j * 5+3) (by omega);have m4:=hrow3.cell (i:=j * 5+4) (by omega);have n0:=hrow3.frozen (j * 5);have n1:=hrow3.frozen (j * 5+1);have n2:=hrow3.frozen (j * 5+2);have n3:=hrow3.frozen (j * 5+3);have n4:=hrow3.frozen (j * 5+4);have hlb2:=HL.out;clear hv hb3 hb3' hrow3 hpart IH h0 h1 h2 h3 h4;go_wp2_with fail
    go_roundw
    case rel=>exact⟨j+1,_,by go_num,by omega,HF.out⟩
    case measure=>simp[intOf];omega
   ·go_wp2_with fail;go_ret;refine⟨some ⟨G,0,none⟩,l.length,rfl,fun _=>⟨G,0,rfl,⟨by have:=HG.out;omega,HI.out.1.lt⟩,mw HI.out.1 l 0 (by omega) fun i hi=> ?_⟩,HI.out.2.2⟩;rw[Nat.zero_add];exact(HI.out.2.1 i hi (by omega)).imp fun b hb=>⟨by have:=hb.1;have:=HG.out;omega,hb.2⟩
theorem Box.set0 {w:World}{g:Nat}{a b c d e:Value}(h:Box w g a b c d e)(u:Value):Box (w.setCell ⟨g,0,none⟩ u) g u b c d e:=Go.Joins.block_setCell (i:=0) h u
theorem Box.set1 {w:World}{g:Nat}{a b c d e:Value}(h:Box w g a b c d e)(u:Value):Box (w.setCell ⟨g,1,none⟩ u) g a u c d e:=Go.Joins.block_setCell (i:=1) h u
theorem Box.set2 {w:World}{g:Nat}{a b c d e:Value}(h:Box w g a b c d e)(u:Value):Box (w.setCell ⟨g,2,none⟩ u) g a b u d e:=Go.Joins.block_setCell (i:=2) h u
theorem Box.set3 {w:World}{g:Nat}{a b c d e:Value}(h:Box w g a b c d e)(u:Value):Box (w.setCell ⟨g,3,none⟩ u) g a b c u e:=Go.Joins.block_setCell (i:=3) h u
theorem Box.set4 {w:World}{g:Nat}{a b c d e:Value}(h:Box w g a b c d e)(u:Value):Box (w.setCell ⟨g,4,none⟩ u) g a b c d u:=Go.Joins.block_setCell (i:=4) h u
theorem Box.far {w:World}{g:Nat}{a b c d e:Value}(h:Box w g a b c d e){p:Addr}(hne:g≠p.block)(u:Value):Box (w.setCell p u) g a b c d e:=(Below.heap_setCell w p u g hne).trans h
theorem New.mono {B B':Nat}{w w':World}(hB:B'≤B)(hs:w.heap.size≤w'.heap.size): ∀b,New B w b→New B' w' b:=fun b hb=>⟨Nat.le_trans hB hb.1,Nat.lt_of_lt_of_le hb.2 hs⟩
theorem qq {n:Nat}(hcl:mi n):mi (n+1):=by
 intro S t v w hd hS h;have HLEN:=hid h.lens;obtain⟨A,c,A',c',rfl,k1,k2,k3,k4,k5,k6,k7⟩:=h.shape;clear h
 cases t with
 |mk k i s l ns=>
 simp only[VT.kind,VT.num,VT.text,VT.items,VT.names]at *;have HK:=hid (And.intro k1 (And.intro k2 k3));have hdl:aK l≤n:=by rw[aN]at hd;omega
 have hb0:Below w.heap.size w ((w.alloc (.cells #[.int .i64 k,.int .i64 i,.string s,.slice A l.length c,.slice A' ns.length c'] 25)).alloc (.cells #[.int .i64 0,.int .i64 0,.string ⟨#[]⟩,.slice none 0 0,.slice none 0 0] 25)):=(ae _).alloc (by simp) _;have hX:Box ((w.alloc (.cells #[.int .i64 k,.int .i64 i,.string s,.slice A l.length c,.slice A' ns.length c'] 25)).alloc (.cells #[.int .i64 0,.int .i64 0,.string ⟨#[]⟩,.slice none 0 0,.slice none 0 0] 25)) w.heap.size (.int .i64 k) (.int .i64 i) (.string s) (.slice A l.length c) (.slice A' ns.length c'):=(Box.new _ _ _ _ _).alloc _
 have hY:Box ((w.alloc (.cells #[.int .i64 k,.int .i64 i,.string s,.slice A l.length c,.slice A' ns.length c'] 25)).alloc (.cells #[.int .i64 0,.int .i64 0,.string ⟨#[]⟩,.slice none 0 0,.slice none 0 0] 25)) (w.heap.size+1) (.int .i64 0) (.int .i64 0) (.string ⟨#[]⟩) (.slice none 0 0) (.slice none 0 0):=by
  have:=Box.new (w:=(w.alloc (.cells #[.int .i64 k,.int .i64 i,.string s,.slice A l.length c,.slice A' ns.length c'] 25))) (.int .i64 0) (.int .i64 0) (.string ⟨#[]⟩) (.slice none 0 0) (.slice none 0 0);simpa using this
 have HA:=hid (jH hcl S A c l _ hdl (ct hS hb0) (k7.keep fun b hb=>hb0.block b (hS b hb)) HLEN.out.1);have K6:=hid k6;have HB0:=hid hb0;have HX:=hid hX;have HY:=hid hY;clear k1 k2 k3 k4 k5 k6 k7 hb0 hX hY;go_enter Tryz.func44,Tryz.ntmps44;go_wp2_with fail;refine HA.out.mono ?_;rintro e w1 ⟨A2,c2,rfl,hla,hb1⟩;have hx:=HX.out.call hb1;have HX1:=hid hx;have HY1:=hid (HY.out.call hb1);have HB1:=hid (am HB0.out hb1);have HLA:=hid hla;have x3:=hx.c3;have x4:=hx.c4;have xf:=hx.free 3;clear hx hla hb1 HA HX HY;go_wp2_with fail;obtain⟨h,hh⟩: ∃h,h=w.heap.size:=⟨_,rfl⟩;rw[←hh]at HX1 HY1 x3 x4 xf ⊢;have HH:=hid hh;clear hh;obtain⟨W1,hW1⟩: ∃W1:World,W1=w1.setCell ⟨h,3,none⟩ (.slice A2 l.length c2):=⟨_,rfl⟩;rw[←hW1];have sz1:W1.heap.size=w1.heap.size:=by rw[hW1];simp[World.setCell]
 have bk1: ∀b,b≠h→W1.heap[b]? =w1.heap[b]? :=fun b hb=>by rw[hW1];exact Below.heap_setCell _ _ _ _ hb
 have BX1:=HX1.out.set3 (.slice A2 l.length c2);rw[←hW1]at BX1;have BY1:=HY1.out.far (p:=⟨h,3,none⟩) (by simp) (.slice A2 l.length c2);rw[←hW1]at BY1;have bw1:Below w.heap.size w W1:=by rw[hW1];exact HB1.out.setCell (by have:=HH.out;simp;omega) _
 have hw1s:h+1<w1.heap.size:=HY1.out.lt
 have hla1:LVA W1 (New (h+2) W1) A2 l:=by
  have e:=HH.out;refine(LVA.keep (w':=W1) HLA.out (fun b hb=>bk1 b (by have:=hb.1;simp at this;omega))).imp fun b hb=>⟨by have:=hb.1;simp at this;omega,by rw[sz1];exact hb.2⟩
 have HN:=hid (jg S A' c' ns W1 (K6.out.keep fun b hb=>bw1.block b (hS b hb)) HLEN.out.2);have BX1:=hid BX1;have BY1:=hid BY1;have HBW1:=hid bw1;have HLA1:=hid hla1;clear hW1 sz1 bk1 bw1 hla1 HX1 HY1 HB1 HLA x3 x4 xf K6 HB0 hw1s;refine HN.out.mono ?_;rintro e w2 ⟨A3,c3,rfl,hst,hb2⟩;have BX2:=hid (BX1.out.call hb2);have BY2:=hid (BY1.out.call hb2);have HBW2:=hid (am HBW1.out hb2);have hla2:LVA w2 (New (h+2) w2) A2 l:=(LVA.keep (w':=w2) HLA1.out (fun b hb=>hb2.block b hb.2)).imp (New.mono (Nat.le_refl _) hb2.size);have hst2:ai w2 (New (h+2) w2) A3 ns:=hst.imp (New.mono (by have:=BY1.out.lt;omega) (Nat.le_refl _));have HLA2:=hid hla2;have HST2:=hid hst2;have y0:=BX2.out.c0;have y1:=BX2.out.c1;have y2:=BX2.out.c2;have y3:=BX2.out.c3;have y4:=BX2.out.c4;have yf:=BX2.out.free 4;have z0:=BY2.out.c0;have z1:=BY2.out.c1;have z2:=BY2.out.c2;have z3:=BY2.out.c3;have z4:=BY2.out.c4;have zf0:=BY2.out.free 0;have zf1:=BY2.out.free 1;have zf2:=BY2.out.free 2;have zf3:=BY2.out.free 3;have zf4:=BY2.out.free 4;obtain⟨W2,hW2⟩: ∃W2:World,W2=w2.setCell ⟨h,4,none⟩ (.slice A3 ns.length c3):=⟨_,rfl⟩;have BX3:=BX2.out.set4 (.slice A3 ns.length c3);rw[←hW2]at BX3;have BY3:=BY2.out.far (p:=⟨h,4,none⟩) (by simp) (.slice A3 ns.length c3);rw[←hW2]at BY3;have HBW3:Hid (Below w.heap.size w W2):=hid (by rw[hW2];exact HBW2.out.setCell (by have:=HH.out;simp;omega) _);have sz2:W2.heap.size=w2.heap.size:=by rw[hW2];simp[World.setCell]
 have bk2: ∀b,b≠h→W2.heap[b]? =w2.heap[b]? :=fun b hb=>by rw[hW2];exact Below.heap_setCell _ _ _ _ hb
 have HLA3:Hid (LVA W2 (New (h+2) W2) A2 l):=hid ((LVA.keep (w':=W2) HLA2.out (fun b hb=>bk2 b (by have:=hb.1;omega))).imp fun b hb=>⟨hb.1,by rw[sz2];exact hb.2⟩);have HST3:Hid (ai W2 (New (h+2) W2) A3 ns):=hid ((ai.keep (w':=W2) HST2.out (fun b hb=>bk2 b (by have:=hb.1;omega))).imp fun b hb=>⟨hb.1,by rw[sz2];exact hb.2⟩);have BX3:=hid BX3;have BY3:=hid BY3;have EW:=hid hW2;clear hst hb2 hla2 hst2 BX1 BY1 HBW1 HLA1 BX2 BY2 HBW2 HLA2 HST2 hW2 sz2 bk2 HN;clear hcl hd hdl;go_wp2_with fail;rw[←EW.out]
 (try simp only[Exit.inBlock,Exit.then])
 have FIN:=((((BY3.out.set0 (.int .i64 k)).set1 (.int .i64 i)).set2 (.string s)).set3 (.slice A2 l.length c2)).set4 (.slice A3 ns.length c3);have hk: ∀b,New (h+2) W2 b→(fI W2 (h+1) 0 (.int .i64 k) (.int .i64 i) (.string s) (.slice A2 l.length c2) (.slice A3 ns.length c3)).heap[b]? =W2.heap[b]? :=fun b hb=>eJ _ _ _ _ _ (by have:=hb.1;omega);have hn: ∀b,New (h+2) W2 b→New w.heap.size (fI W2 (h+1) 0 (.int .i64 k) (.int .i64 i) (.string s) (.slice A2 l.length c2) (.slice A3 ns.length c3)) b:=fun b hb=>⟨by have:=hb.1;have:=HH.out;omega,by rw[dZ];exact hb.2⟩;have hla:=(LVA.keep HLA3.out hk).imp hn;have hst:=(ai.keep HST3.out hk).imp hn;have hbw:=eN (p:=0) (.int .i64 k) (.int .i64 i) (.string s) (.slice A2 l.length c2) (.slice A3 ns.length c3) HBW3.out (G:=h+1) (by have:=HH.out;omega);refine bodyPost_ret (results_cell_row rfl _ _ (h+1) 25 _ (0,0) _ rfl FIN Tryz.underlying25 rfl (by kernel_rfl)) rfl ?_;exact⟨_,rfl,LV.mk HK.out.1 HK.out.2.1 HK.out.2.2 HLEN.out.1 HLEN.out.2 hst hla,hbw⟩
theorem mL : ∀n,mi n
 |0=>fun S t v w hd _ _=>by cases t;rw[aN]at hd;omega
 |n+1=>qq (mL n)
theorem pg (S:Nat→Prop)(t:VT)(v:Value)(w:World)(hS: ∀b,S b→b<w.heap.size)(h:LV w S t v):
  Calls Tryz.prog 44 #[v] w fun e w'=> ∃v',e= .returned v'∧LV w' (New w.heap.size w') t v'∧Below w.heap.size w w':=mL (ac t) S t v w (Nat.le_refl _) hS h
theorem ke (S:Nat→Prop)(A:Option Addr)(c:Nat)(l:List VT)(w:World)(hS: ∀b,S b→b<w.heap.size)(h:LVA w S A l)(hl:l.length≤1759218604390):
  Calls Tryz.prog 82 #[.slice A l.length c,.func (.func 44) #[] #[]] w fun e w'=> ∃A' c',e= .returned (.slice A' l.length c')∧LVA w' (New w.heap.size w') A' l∧Below w.heap.size w w':=jH (mL (aK l)) S A c l w (Nat.le_refl _) hS h hl
def Out (F:Nat→Prop)(A A':Option Addr):Nat→Prop:=fun b=>F b∧(∀a,A=some a→a.block≠b)∧(∀a,A'=some a→a.block≠b)
mutual
def OV (w:World):(Nat→Prop)→VT→Value→Prop
 |F,.mk k i s l ns,v=> ∃A c A' c' xs,v= .agg #[.int .i64 k,.int .i64 i,.string s,.slice A l.length c,.slice A' ns.length c']∧Rng k∧Rng i∧s.size≤140737488351232∧
   l.length≤1759218604390∧ns.length≤8796093021952∧(∀s∈ns,s.size≤140737488351232)∧
   w.ownsRow 0 9 1 (.slice A' ns.length c') ns.length (ns.map Value.string)∧w.ownsRow 0 25 5 (.slice A l.length c) l.length xs∧
   (∀a,A'=some a→F a.block)∧(∀a,A=some a→F a.block)∧(∀a a',A=some a→A'=some a'→a.block≠a'.block)∧OVs w (Out F A A') l xs
def OVs (w:World):(Nat→Prop)→List VT→List Value→Prop
 |_,[],xs=>xs= []
 |F,t::r,xs=> ∃c0 c1 c2 c3 c4 ys F1 F2,xs=c0::c1::c2::c3::c4::ys∧OV w F1 t (.agg #[c0,c1,c2,c3,c4])∧OVs w F2 r ys∧(∀b,F1 b→F b)∧(∀b,F2 b→F b)∧(∀b,F1 b→F2 b→False)
end
theorem Out.imp {F F':Nat→Prop}{A A':Option Addr}(h: ∀b,F b→F' b): ∀b,Out F A A' b→Out F' A A' b:=fun b hb=>⟨h b hb.1,hb.2⟩
theorem OVs.imp {w:World}{F F':Nat→Prop}(hF: ∀b,F b→F' b){l:List VT}{xs:List Value}(h:OVs w F l xs):OVs w F' l xs:=by
 cases l with
 |nil=>unfold OVs at h ⊢;exact h
 |cons t r=>
  unfold OVs at h ⊢;obtain⟨c0,c1,c2,c3,c4,ys,F1,F2,h0,h1,h2,h3,h4,h5⟩:=h;exact⟨c0,c1,c2,c3,c4,ys,F1,F2,h0,h1,h2,fun b hb=>hF b (h3 b hb),fun b hb=>hF b (h4 b hb),h5⟩
theorem OV.imp {w:World}{F F':Nat→Prop}(hF: ∀b,F b→F' b){t:VT}{v:Value}(h:OV w F t v):OV w F' t v:=by
 cases t with
 |mk k i s l ns=>
  unfold OV at h ⊢;obtain⟨A,c,A',c',xs,h0,h1,h2,h3,h4,h5,h6,h7,h8,h9,h10,h11,h12⟩:=h;exact⟨A,c,A',c',xs,h0,h1,h2,h3,h4,h5,h6,h7,h8,fun a ha=>hF _ (h9 a ha),fun a ha=>hF _ (h10 a ha),h11,h12.imp (Out.imp hF)⟩
theorem cf {w w':World}{B:Nat}{e:TypeId}{size n c:Nat}{A:Option Addr}{xs:List Value}(h:w.ownsRow B e size (.slice A n c) n xs)(hk: ∀a,A=some a→w'.heap[a.block]? =w.heap[a.block]?):w'.ownsRow B e size (.slice A n c) n xs:=by
 refine⟨h.1,?_⟩;rcases h.2 with h2|⟨g,cap,cur,hv,hg,hh,hr⟩
 ·exact .inl h2
 ·injection hv with e1 e2 e3
  subst e1;exact .inr ⟨g,cap,cur,by rw[e3],hg,(hk _ rfl).trans hh,hr⟩
mutual
theorem OV.keep {w w':World}: ∀ {F:Nat→Prop} {t:VT} {v:Value},(∀b,F b→w'.heap[b]? =w.heap[b]?)→OV w F t v→OV w' F t v
 |F,.mk k i s l ns,v,hk,h=>by
  unfold OV at h ⊢;obtain⟨A,c,A',c',xs,h0,h1,h2,h3,h4,h5,h6,h7,h8,h9,h10,h11,h12⟩:=h;exact⟨A,c,A',c',xs,h0,h1,h2,h3,h4,h5,h6,cf h7 fun a ha=>hk _ (h9 a ha),cf h8 fun a ha=>hk _ (h10 a ha),h9,h10,h11,OVs.keep (fun b hb=>hk b hb.1) h12⟩
theorem OVs.keep {w w':World}: ∀ {F:Nat→Prop} {l:List VT} {xs:List Value},(∀b,F b→w'.heap[b]? =w.heap[b]?)→OVs w F l xs→OVs w' F l xs
 |F,[],xs,hk,h=>by unfold OVs at h ⊢;exact h
 |F,t::r,xs,hk,h=>by
  unfold OVs at h ⊢;obtain⟨c0,c1,c2,c3,c4,ys,F1,F2,h0,h1,h2,h3,h4,h5⟩:=h;exact⟨c0,c1,c2,c3,c4,ys,F1,F2,h0,OV.keep (fun b hb=>hk b (h3 b hb)) h1,OVs.keep (fun b hb=>hk b (h4 b hb)) h2,h3,h4,h5⟩
end
theorem OVs.at {w:World}: ∀ {l:List VT} {F:Nat→Prop} {xs:List Value},OVs w F l xs→ ∃Fs:Nat→Nat→Prop,(∀i j b,i≠j→Fs i b→Fs j b→False)∧(∀j b,Fs j b→F b)∧
  ∀j (hj:j<l.length),∃c0 c1 c2 c3 c4,xs[j * 5]? =some c0∧xs[j * 5+1]? =some c1∧xs[j * 5+2]? =some c2∧xs[j * 5+3]? =some c3∧xs[j * 5+4]? =some c4∧OV w (Fs j) l[j] (.agg #[c0,c1,c2,c3,c4])
 | [],F,xs,h=>⟨fun _ _=>False,fun _ _ _ _ h _=>h,fun _ _ h=>h.elim,fun j hj=>absurd hj (by simp)⟩
 |t::r,F,xs,h=>by
  unfold OVs at h;obtain⟨c0,c1,c2,c3,c4,ys,F1,F2,rfl,h1,h2,h3,h4,h5⟩:=h;obtain⟨Fs,k1,k2,k3⟩:=OVs.at h2;refine⟨fun j=>match j with|0=>F1|j+1=>Fs j,?_,?_,?_⟩
  ·intro i j b hij hi hj
   cases i with
   |zero=>
    cases j with
    |zero=>exact hij rfl
    |succ j=>exact h5 b hi (k2 j b hj)
   |succ i=>
    cases j with
    |zero=>exact h5 b hj (k2 i b hi)
    |succ j=>exact k1 i j b (by omega) hi hj
  ·intro j b hb
   cases j with
   |zero=>exact h3 b hb
   |succ j=>exact h4 b (k2 j b hb)
  ·intro j hj
   cases j with
   |zero=>exact⟨c0,c1,c2,c3,c4,rfl,rfl,rfl,rfl,rfl,h1⟩
   |succ j=>
    obtain⟨d0,d1,d2,d3,d4,e0,e1,e2,e3,e4,e5⟩:=k3 j (by simpa using hj);have hs:(j+1) * 5=j * 5+5:=by omega
    refine⟨d0,d1,d2,d3,d4,?_,?_,?_,?_,?_,e5⟩
    ·rw[hs];exact e0
    ·rw[hs];exact e1
    ·rw[hs];exact e2
    ·rw[hs];exact e3
    ·rw[hs];exact e4
theorem OVs.of {w:World}: ∀ {l:List VT} {F:Nat→Prop} {xs:List Value} (Fs:Nat→Nat→Prop),xs.length=l.length * 5→(∀i j b,i≠j→Fs i b→Fs j b→False)→(∀j b,Fs j b→F b)→
  (∀j (hj:j<l.length),∃c0 c1 c2 c3 c4,xs[j * 5]? =some c0∧xs[j * 5+1]? =some c1∧xs[j * 5+2]? =some c2∧xs[j * 5+3]? =some c3∧xs[j * 5+4]? =some c4∧OV w (Fs j) l[j] (.agg #[c0,c1,c2,c3,c4]))→OVs w F l xs
 | [],F,xs,Fs,hl,_,_,_=>by unfold OVs;exact List.eq_nil_of_length_eq_zero (by simpa using hl)
 |t::r,F,xs,Fs,hl,k1,k2,k3=>by
  obtain⟨c0,c1,c2,c3,c4,e0,e1,e2,e3,e4,e5⟩:=k3 0 (by simp)
  match xs,hl with
  |a0::a1::a2::a3::a4::ys,hl=>
   simp at e0 e1 e2 e3 e4;subst e0 e1 e2 e3 e4;unfold OVs;refine⟨_,_,_,_,_,ys,Fs 0,fun b=> ∃j,Fs (j+1) b,rfl,e5,OVs.of (fun j=>Fs (j+1)) (by simp at hl;omega) (fun i j b hij=>k1 _ _ b (by omega)) (fun j b hb=>⟨j,hb⟩) (fun j hj=> ?_),fun b hb=>k2 0 b hb,fun b ⟨j,hb⟩=>k2 _ b hb,fun b hb ⟨j,hb'⟩=>k1 0 (j+1) b (by omega) hb hb'⟩;obtain⟨d0,d1,d2,d3,d4,g0,g1,g2,g3,g4,g5⟩:=k3 (j+1) (by simpa using hj);have hs:(j+1) * 5=j * 5+5:=by omega
   rw[hs]at g0 g1 g2 g3 g4
   exact⟨d0,d1,d2,d3,d4,g0,g1,g2,g3,g4,g5⟩
  | [],hl=>simp at hl
  | [_],hl=>simp at hl;omega
  | [_,_],hl=>simp at hl;omega
  | [_,_,_],hl=>simp at hl;omega
  | [_,_,_,_],hl=>simp at hl;omega
mutual
theorem OV.lv {w:World}: ∀ {F:Nat→Prop} {t:VT} {v:Value},OV w F t v→LV w F t v
 |F,.mk k i s l ns,v,h=>by
  unfold OV at h;obtain⟨A,c,A',c',xs,h0,h1,h2,h3,h4,h5,h6,h7,h8,h9,h10,h11,h12⟩:=h;rw[h0];refine LV.mk h1 h2 h3 h4 h5 (fun hp=> ?_) (fun hp=> ?_)
  ·rcases h7.2 with ⟨-,h⟩|⟨g,cap,cur,hv,-⟩
   ·omega
   ·injection hv with e1 e2 e3
    subst e1;refine⟨g,0,rfl,h9 _ rfl,fun j hj=>⟨?_,h6 _ (List.getElem_mem hj)⟩⟩;have:=h7.cells (g:=g) rfl j (.string ns[j]) (by simp[List.getElem?_map,List.getElem?_eq_getElem hj]);rw[jL]at this;exact this
  ·rcases h8.2 with ⟨-,h⟩|⟨g,cap,cur,hv,-⟩
   ·omega
   ·injection hv with e1 e2 e3
    subst e1;refine⟨g,0,rfl,h10 _ rfl,OVs.lvs (fun b hb=>hb.1) h12 fun j v hj=> ?_⟩;have:=h8.cells (g:=g) rfl j v hj;rw[jL]at this;exact this
theorem OVs.lvs {w:World}{S:Nat→Prop}{g:Nat}: ∀ {F:Nat→Prop} {l:List VT} {xs:List Value} {off:Nat},(∀b,F b→S b)→OVs w F l xs→(∀i v,xs[i]? =some v→w.cell? ⟨g,off+i,none⟩=some v)→LVs w S g off l
 |F,[],xs,off,hS,h,hc=>by unfold LVs;trivial
 |F,t::r,xs,off,hS,h,hc=>by
  unfold OVs at h;obtain⟨c0,c1,c2,c3,c4,ys,F1,F2,rfl,h1,h2,h3,h4,h5⟩:=h;unfold LVs;refine⟨⟨c0,c1,c2,c3,c4,hc 0 c0 rfl,hc 1 c1 rfl,hc 2 c2 rfl,hc 3 c3 rfl,hc 4 c4 rfl,(OV.lv h1).imp fun b hb=>hS b (h3 b hb)⟩,OVs.lvs (fun b hb=>hS b (h4 b hb)) h2 fun i v hi=> ?_⟩;have:=hc (i+5) v hi;rw[show off+(i+5)=off+5+i by omega]at this;exact this
end
theorem OV.shape {w:World}{F:Nat→Prop}{t:VT}{v:Value}(h:OV w F t v): ∃A c A' c' xs,v= .agg #[.int .i64 t.kind,.int .i64 t.num,.string t.text,.slice A t.items.length c,.slice A' t.names.length c']∧
  w.ownsRow 0 9 1 (.slice A' t.names.length c') t.names.length (t.names.map Value.string)∧w.ownsRow 0 25 5 (.slice A t.items.length c) t.items.length xs∧
  (∀a,A'=some a→F a.block)∧(∀a,A=some a→F a.block)∧(∀a a',A=some a→A'=some a'→a.block≠a'.block)∧OVs w (Out F A A') t.items xs:=by
 cases t with
 |mk k i s l ns=>
  unfold OV at h;obtain⟨A,c,A',c',xs,h0,h1,h2,h3,h4,h5,h6,h7,h8,h9,h10,h11,h12⟩:=h;exact⟨A,c,A',c',xs,h0,h7,h8,h9,h10,h11,h12⟩
theorem OV.mk {w:World}{F:Nat→Prop}{k i:Int}{s:ByteArray}{l:List VT}{ns:List ByteArray}{A A':Option Addr}{c c':Nat}{xs:List Value}(h1:Rng k)(h2:Rng i)(h3:s.size≤140737488351232)(h4:l.length≤1759218604390)(h5:ns.length≤8796093021952)(h6: ∀s∈ns,s.size≤140737488351232)
  (h7:w.ownsRow 0 9 1 (.slice A' ns.length c') ns.length (ns.map Value.string)) (h8:w.ownsRow 0 25 5 (.slice A l.length c) l.length xs)
  (h9: ∀a,A'=some a→F a.block) (h10: ∀a,A=some a→F a.block) (h11: ∀a a',A=some a→A'=some a'→a.block≠a'.block) (h12:OVs w (Out F A A') l xs):
  OV w F (.mk k i s l ns) (.agg #[.int .i64 k,.int .i64 i,.string s,.slice A l.length c,.slice A' ns.length c']):=by
 unfold OV;exact⟨A,c,A',c',xs,rfl,h1,h2,h3,h4,h5,h6,h7,h8,h9,h10,h11,h12⟩
theorem jG (w:World)(F:Nat→Prop):OVs w F [] []:=by unfold OVs;rfl
theorem Au (w:World)(F:Nat→Prop)(k i:Int)(s:ByteArray)(hk:Rng k)(hi:Rng i)(hs:s.size≤140737488351232):OV w F (.mk k i s [] []) (.agg #[.int .i64 k,.int .i64 i,.string s,.slice none 0 0,.slice none 0 0]):=
 OV.mk (l:=[]) (ns:=[]) (xs:=[]) hk hi hs (by decide) (by decide) (fun _ h=>absurd h (by simp)) (World.ownsRow_nil _ _ _ _) (World.ownsRow_nil _ _ _ _) (fun _ h=>by cases h) (fun _ h=>by cases h) (fun _ _ h=>by cases h) (jG _ _)
end Go.Proofs.YtgbopnlpaabelaaGreatDoor
