/- Whether a list of changes is too large to be looked at, and what keeps it from being one, by the document. -/
import Derived.Test.YtgfidiocmiolpaaGreatKDlH
import Derived.Test.YtgfidiocmiolpaaGreatKCodG
import Derived.Test.YtgfidiocmiolpaaGreatKRegR
import Derived.Test.YtgfidiocmiolpaaGreatKCodA
import Derived.Test.YtgfidiocmiolpaaGreatKCodM
import Derived.Test.YtgfidiocmiolpaaGreatKCodX
import Derived.Test.YtgfidiocmiolpaaGreatKValM
set_option maxHeartbeats 64000000
set_option maxRecDepth 100000
set_option linter.unusedVariables false
set_option linter.unusedSimpArgs false
namespace Go.Proofs.YtgfidiocmiolpaaGreat
open Lib (hid)
open Go.RowKit
def px (d:aS):Bool:=du d.val || decide (50<d.path.length)
def dX (l:List aS):Bool:=(l.take 70).any px || decide (100<l.length)
theorem r9 {l:List aS}{k:Nat}(hk:k<l.length)(h70:k<70)(h:px l[k]=true):dX l=true:=by
 unfold dX;rw[List.any_eq_true.2 ⟨l[k],List.mem_take_iff_getElem.2 ⟨k,by omega,rfl⟩,h⟩];rfl
theorem qw {l:List aS}{k:Nat}(h: ∀j (hj:j<l.length),j<k→px l[j]=false)(hk:k=l.length∨70≤k):dX l=decide (100<l.length):=by
 unfold dX
 rw[show(l.take 70).any px=false from List.any_eq_false.2 fun x hx=>by
  obtain⟨j,hj,rfl⟩:=List.mem_take_iff_getElem.1 hx;rw[h j (by omega) (by omega)]
  simp]
 rfl
theorem kt {l:List aS}(h:dX l=false):l.length≤100∧ ∀d∈l.take 70,ap d.val≤41∧d.path.length≤50∧du d.val=false:=by
 unfold dX at h;simp only[Bool.or_eq_false_iff,decide_eq_false_iff_not]at h;refine⟨by omega,fun d hd=> ?_⟩;have h4:=List.any_eq_false.1 h.1 d hd;unfold px at h4;simp only[Bool.or_eq_true,not_or,decide_eq_true_eq,Bool.not_eq_true]at h4;exact⟨iM h4.1,by omega,h4.1⟩
theorem qN (S:Nat→Prop)(A:Option Addr)(c:Nat)(l:List aS)(w:World)(hS: ∀b,S b→b<w.heap.size)(h:bD w S A l)(hn:l.length≤140737488351232):
  Calls Tryz.prog 43 #[.slice A l.length c] w fun e w'=>e= .returned (.bool (dX l))∧Below w.heap.size w w':=by
 have H:=hid h;have HS:=hid hS;obtain⟨r,hr⟩: ∃r,r=dX l:=⟨_,rfl⟩;have HR:=hid hr;rw[←hr];obtain⟨n,hn'⟩: ∃n,n=l.length:=⟨_,rfl⟩;have HN:=hid hn';rw[←hn']at hn ⊢;clear h hS hr hn';go_enter Tryz.func43,Tryz.ntmps43;go_wp2_with fail
 go_loopw [3] (fun i wr=> ∃k:Nat,i= .int .i64 k∧k≤n∧k≤70∧Hid (Below w.heap.size w wr)∧Hid (∀j (h:j<l.length),j<k→px l[j]=false)) (fun i _=>n - (intOf i).toNat)
 case atStart=>exact⟨0,rfl,by omega,by omega,hid (Below.refl _ _),hid fun j _ h=>absurd h (by omega)⟩
 case round=>
  obtain⟨k,rfl,hk,hk6,HB,HJ⟩:=hrel;by_cases hlt:k<n∧k<70
  ·obtain⟨hlt,h70⟩:=hlt;have d1:decide ((k:Int)<(n:Int))=true:=decide_eq_true (by omega);have d2:decide ((k:Int)<70)=true:=decide_eq_true (by omega);have hkl:k<l.length:=by have:=HN.out;omega
   have hS2: ∀b,S b→b<wr.heap.size:=fun b hb=>Nat.lt_of_lt_of_le (HS.out b hb) HB.out.size;obtain⟨p,off,PA,pc,VA,vc,VA',vc',rfl,hpS,ho,x0,x1,x2,x3,x4,x5,x6,x7⟩:=(H.out.below HS.out HB.out).cells k hkl
   have hlv:LV wr S l[k].val (.agg #[.int .i64 l[k].val.kind,.int .i64 l[k].val.num,.string l[k].val.text,.slice VA l[k].val.items.length vc,.slice VA' l[k].val.names.length vc']):=by
    obtain⟨PB,pd,VB,vd,VB',vd',e,q0,-⟩:=ho;simp only[Array.mk.injEq,List.cons.injEq,Value.slice.injEq,and_true,true_and]at e;obtain⟨⟨rfl,rfl⟩,⟨rfl,rfl⟩,rfl,rfl⟩:=e;exact q0
   have HLG:=hid (kV S l[k].val _ wr hS2 hlv);have hp2:=hS2 p hpS;have HX:Hid (∀W,Below wr.heap.size wr W→W.cell? ⟨p,off+k * 8+1,none⟩=some (.slice PA l[k].path.length pc)):=hid fun W hW=>(hW.cell (p:=⟨p,off+k * 8+1,none⟩) hp2).trans x1;have HBO:Hid (px l[k]=(du l[k].val || decide (50<l[k].path.length))):=hid rfl;obtain⟨np,hnp⟩: ∃n,n=l[k].path.length:=⟨_,rfl⟩;obtain⟨lg,hlg⟩: ∃b,b=du l[k].val:=⟨_,rfl⟩;rw[←hnp]at HX HBO x1;rw[←hlg]at HLG HBO;have HH:=hid (fun hb:px l[k]=true=>r9 hkl h70 hb);clear hlv hpS ho hnp hlg hS2 hp2;go_wp2_with fail;refine HLG.out.mono ?_;rintro e u ⟨rfl,hb⟩;have HB2:=hid (HB.out.trans (hb.mono HB.out.size));have x1':=HX.out u hb;clear x0 x1 x2 x3 x4 x5 x6 x7 hb HLG HX;cases lg;rotate_left
   ·have HT:Hid (dX l=true):=hid (HH.out (by rw[HBO.out];rfl));go_wp2_with fail;go_ret;exact⟨by rw[HR.out,HT.out];rfl,HB2.out⟩
   by_cases h50:50<np
   ·have d3:decide ((np:Int)>50)=true:=decide_eq_true (by omega);have HT:Hid (dX l=true):=hid (HH.out (by rw[HBO.out,decide_eq_true h50];rfl));clear h50;go_wp2_with fail;go_ret;exact⟨by rw[HR.out,HT.out];rfl,HB2.out⟩
   ·have d3:decide ((np:Int)>50)=false:=decide_eq_false (by omega);have HT:Hid (px l[k]=false):=hid (by rw[HBO.out,decide_eq_false h50];rfl);clear h50;go_wp2_with fail
    go_roundw
    case rel=>exact⟨k+1,by go_num,by omega,by omega,HB2,hid fun j h hjk=>by
     by_cases e:j=k
     ·subst e;exact HT.out
     ·exact HJ.out j h (by omega)⟩
    case measure=>simp[intOf];omega
  ·have HM:Hid (dX l=decide (100<n)):=hid (by rw[HN.out];exact qw HJ.out (by have:=HN.out;omega));have hcut:(k<n∧ ¬k<70)∨ ¬k<n:=by omega
   clear hlt hk;by_cases h50:100<n
   ·have d3:decide ((n:Int)>100)=true:=decide_eq_true (by omega);have HE:Hid (dX l=true):=hid (by rw[HM.out,decide_eq_true h50]);clear h50;rcases hcut with ⟨c1,c2⟩|c1
    ·have d1:decide ((k:Int)<(n:Int))=true:=decide_eq_true (by omega);have d2:decide ((k:Int)<70)=false:=decide_eq_false (by omega);go_wp2_with fail;go_ret;exact⟨by rw[HR.out,HE.out];rfl,HB.out⟩
    ·have d1:decide ((k:Int)<(n:Int))=false:=decide_eq_false (by omega);go_wp2_with fail;go_ret;exact⟨by rw[HR.out,HE.out];rfl,HB.out⟩
   ·have d3:decide ((n:Int)>100)=false:=decide_eq_false (by omega);have HE:Hid (dX l=false):=hid (by rw[HM.out,decide_eq_false h50]);clear h50;rcases hcut with ⟨c1,c2⟩|c1
    ·have d1:decide ((k:Int)<(n:Int))=true:=decide_eq_true (by omega);have d2:decide ((k:Int)<70)=false:=decide_eq_false (by omega);go_wp2_with fail;go_ret;exact⟨by rw[HR.out,HE.out];rfl,HB.out⟩
    ·have d1:decide ((k:Int)<(n:Int))=false:=decide_eq_false (by omega);go_wp2_with fail;go_ret;exact⟨by rw[HR.out,HE.out];rfl,HB.out⟩
theorem qM (S:Nat→Prop)(A:Option Addr)(c:Nat)(l:List aS)(w:World)(hS: ∀b,S b→b<w.heap.size)(h:bD w S A l)(hn:l.length≤140737488351232)(hd:eo l):
  Calls Tryz.prog 92 #[.slice A l.length c] w fun e w'=>e= .returned (.int .i64 (bG l))∧Below w.heap.size w w':=by
 have H:=hid h;have HS:=hid hS;have HD:=hid hd;obtain⟨r,hr⟩: ∃r,r=bG l:=⟨_,rfl⟩;have HR:=hid hr;rw[←hr];obtain⟨n,hn'⟩: ∃n,n=l.length:=⟨_,rfl⟩;have HN:=hid hn';rw[←hn']at hn ⊢;clear h hS hr hn' hd;go_enter Tryz.func92,Tryz.ntmps92;by_cases h64:64<n
 ·have d1:decide ((n:Int)>64)=true:=decide_eq_true (by omega);go_wp2_with fail;go_ret;exact⟨by rw[HR.out];unfold bG;rw[if_pos (by have:=HN.out;omega)];rfl,Below.refl _ _⟩
 have d1:decide ((n:Int)>64)=false:=decide_eq_false (by omega);have H64:Hid (¬64<l.length):=hid (by have:=HN.out;omega);go_wp2_with fail
 go_loopw [3] (fun i wr=> ∃k:Nat,i= .int .i64 k∧k≤n∧Hid (Below w.heap.size w wr)∧Hid (∀j (h:j<l.length),j<k→cr l[j]=true)) (fun i _=>n - (intOf i).toNat)
 case atStart=>exact⟨0,rfl,by omega,hid (Below.refl _ _),hid fun j _ h=>absurd h (by omega)⟩
 case round=>
  obtain⟨k,rfl,hk,HB,HJ⟩:=hrel;by_cases hlt:k<n
  ·have d2:decide ((k:Int)<(n:Int))=true:=decide_eq_true (by omega);have hkl:k<l.length:=by have:=HN.out;omega
   have hS2: ∀b,S b→b<wr.heap.size:=fun b hb=>Nat.lt_of_lt_of_le (HS.out b hb) HB.out.size;obtain⟨p,off,PA,pc,VA,vc,VA',vc',rfl,hpS,ho,x0,x1,x2,x3,x4,x5,x6,x7⟩:=(H.out.below HS.out HB.out).cells k hkl;have HC:=hid (wP S l[k] _ wr hS2 ho (HD.out _ (List.getElem_mem hkl)));clear ho hS2 hpS;go_wp2_with fail;refine HC.out.mono ?_;rintro e u ⟨rfl,hb⟩;have HB2:=hid (HB.out.trans (hb.mono HB.out.size));clear hb HC x0 x1 x2 x3 x4 x5 x6 x7;cases hm:cr l[k]
   ·have HM:=hid hm;clear hm;go_wp2_with fail;go_ret;exact⟨by rw[HR.out];unfold bG;rw[if_neg H64.out,oA hkl HM.out];rfl,HB2.out⟩
   ·have HM:=hid hm;clear hm;go_wp2_with fail
    go_roundw
    case rel=>exact⟨k+1,by go_num,by omega,HB2,hid fun j h hjk=>by
     by_cases e:j=k
     ·subst e;exact HM.out
     ·exact HJ.out j h (by omega)⟩
    case measure=>simp[intOf];omega
  ·have d2:decide ((k:Int)<(n:Int))=false:=decide_eq_false (by omega);have HA:Hid (l.all cr=true):=hid (mN fun j h=>HJ.out j h (by have:=HN.out;omega));go_wp2_with fail;go_ret;exact⟨by rw[HR.out];unfold bG;rw[if_neg H64.out,HA.out];rfl,HB.out⟩
def aV (d:aS):List UInt8:=[UInt8.ofNat d.kind.toNat]++cg d.path++(if d.kind=1 then cp d.val else if d.kind=3 then grp d.num.toNat else [])
theorem ju {w w':World}{g:Nat}{cs:Array Value}{fr:Nat×Nat}(hg:w.heap[g]? =some (.cells cs 114 fr))(h:K8 w w'):w'.heap[g]? =some (.cells cs 114 fr):=h g _ hg (fun h=>by cases h) (fun c fz h=>by injection h with _ h;exact absurd h (by decide))
theorem tg (S:Nat→Prop)(d:aS)(cs:Array Value)(B:Nat)(v:Value)(l:List UInt8)(w:World)(hSB: ∀b,S b→b<B)(ho:ee w S d cs)(hm:cr d=true)(hd:ap d.val≤4611686018427387903)(hz:aM d.val≤9223372036854775807)(hp:ku d.path)(h:ao w B v l)(hB:B≤w.heap.size)(hl:l.length≤140737470000000):
  Calls Tryz.prog 161 #[v,.agg cs] w (iR B (l++aV d) w):=by
 obtain⟨PA,pc,VA,vc,VA',vc',rfl,hv,hpa,hpc,hpn,hk,hkn,hpl⟩:=ho;obtain⟨w1,hw1⟩: ∃W,W=w.alloc (.cells #[.int .i64 d.kind,.slice PA d.path.length pc,.int .i64 d.val.kind,.int .i64 d.val.num,.string d.val.text,.slice VA d.val.items.length vc,.slice VA' d.val.names.length vc',.int .i64 d.num] 114):=⟨_,rfl⟩;have hbk:w1.heap[w.heap.size]? =some (.cells #[.int .i64 d.kind,.slice PA d.path.length pc,.int .i64 d.val.kind,.int .i64 d.val.num,.string d.val.text,.slice VA d.val.items.length vc,.slice VA' d.val.names.length vc',.int .i64 d.num] 114 (0,0)):=by rw[hw1];exact heap_alloc_new w _
 have hb1:Below w.heap.size w w1:=by rw[hw1];exact(Below.refl _ _).alloc (Nat.le_refl _) _
 have hin: ∀W,Below B w W→LV W S d.val (.agg #[.int .i64 d.val.kind,.int .i64 d.val.num,.string d.val.text,.slice VA d.val.items.length vc,.slice VA' d.val.names.length vc'])∧aA W S PA d.path:=fun W hW=>
  ⟨hv.keep fun b hb=>hW.block b (hSB b hb),hpa.keep fun b hb=>hW.block b (hSB b hb)⟩
 obtain⟨i0,hi,hz0,hz1,hz2⟩:=info_parts Tryz.infoU8;have HO1:=hid (h.below hb1);obtain⟨Av,cv,rfl⟩:=h.slice;obtain⟨m,hmm⟩: ∃m,m=l.length:=⟨_,rfl⟩;rw[←hmm]at HO1 ⊢;have HM:=hid hmm;have HB1:=hid hb1;have HBK:=hid hbk;have HW1:=hid hw1;have HIN:=hid hin;have HSB:=hid hSB;have HPP:=hid hp;have HD:=hid (And.intro hd hz);have HL:=hid hl;have HB:=hid hB
 have hkk:d.kind=1∨d.kind=2∨(d.kind=3∧0≤d.num∧d.num≤999):=by
  unfold cr at hm;rw[Bool.and_eq_true]at hm;have h2:=hm.2
  split at h2
  ·omega
  split at h2
  ·omega
  split at h2
  ·simp only[Bool.and_eq_true,decide_eq_true_eq]at h2;exact .inr (.inr ⟨by omega,h2.2.1,h2.2.2⟩)
  ·cases h2
 clear hv hpa hpc hpn hk hkn hpl hSB hin h hB hl hmm hd hz hp hm;go_enter Tryz.func161,Tryz.ntmps161;rcases hkk with hkk|hkk|hkk
 ·have HKE:=hid hkk;have hbk:=HBK.out;rw[hkk]at hbk hw1 ⊢;clear hkk;have HBKK:=hid hbk;go_wp2_with fail;first|rw[←hw1]|skip
  clear hw1;have q0:=bA (i:=0) (show w1.drew.heap[w.heap.size]? =_ from HBKK.out) (by decide) rfl;have q1:=bA (i:=1) (show w1.drew.heap[w.heap.size]? =_ from HBKK.out) (by decide) rfl;refine bj K8 (fun w=>Lib.OthersKept.refl _ _ _) (fun a b c h k=>h.trans k) [] (.pure [0,1,2,3,6,7] (.step 4 (.step 5 (.step 8 (.free [9] (.tail [])))))) (by kernel_rfl) (by kernel_rfl) (fun _ d _ _ _ h=>by cases d<;>exact h) ?_;generalize hw2:w1.drew=w2 at *
  have HW2:Hid (Below w.heap.size w w2∧ao w2 B (.slice Av m cv) l∧K8 w w2∧w.heap.size<w2.heap.size):=hid (by
   rw[←hw2]
   exact⟨HB1.out.drew,HO1.out,(ax HB1.out).drew,(Array.getElem?_eq_some_iff.1 HBKK.out).1⟩)
  have HBK2:=hid ((show w2.heap[w.heap.size]? =w1.heap[w.heap.size]? from by rw[←hw2];rfl).trans HBKK.out);clear hw2 hbk;refine cW ?_;simp only[atR];show wpQuiet _ _ _ _ [_,_,_,_,_,_] _;try simp only[acR,Act.put]at *
  repeat(go_big_quiet_step (fail))
  refine wpQuiet_nil ?_;clear q0 q1;refine aZ rfl (fun K hK=> ?_)
  go_simp
  refine hK _ _ (.inr ((Lib.OthersKept.refl _ _ _).alloc _)) ?_;clear hK K;have hml:m≤140737470000000:=by rw[HM.out];exact HL.out
  have hB2:B≤w2.heap.size:=Nat.le_trans HB.out HW2.out.1.size;have HOA:Hid (∀X:Obj,ao (w2.alloc X) B (.slice Av m cv) l):=hid fun X=>HW2.out.2.1.below ((Below.refl _ _).alloc (Nat.le_refl _) _);have hrow: ∀X:Obj,(w2.alloc X).ownsRow B 5 1 (.slice Av m cv) m (aF l):=fun X=>by have h9:=HOA.out X;unfold ao at h9;rw[←HM.out]at h9;exact h9
  refine aZ rfl (fun K hK=> ?_);refine ck _ _ _ 23 rfl B 5 i0 (.int .u8 0) 1 1 Tryz.underlying23 hi hz0 hz1 hz2 rfl (by decide) _ m (aF l) rfl (hrow _) ⟨w2.heap.size,0,none⟩ 1 1 [.int .u8 1] rfl rfl (cell_one_new _ _ _) (by simp[Value.oneCell']) (by unfold maxLen;omega) (by omega) (by simp;omega) ?_;intro v4 w4 hv4 hg4 hwh4;have hk5:K8 (w2.alloc (.cells #[.int .u8 1] 5)) w4:=au (HOA.out _) hg4;refine hK _ _ (.inr hk5) ?_;clear hK K;have HX4:Hid (ao w4 B v4 (l++[1])∧Below B w w4∧K8 w w4):=hid ⟨by unfold ao;rw[List.length_append,←HM.out,show aF (l++[1])=aF l++[.int .u8 1] from by unfold aF;rw[List.map_append];rfl];exact hv4,aq ((HW2.out.1.mono HB.out).alloc hB2 _) (HOA.out _) (by simp;omega) hg4,(HW2.out.2.2.1.alloc _).trans hk5⟩;have HBK4:=hid (ju (w:=w2.alloc (.cells #[.int .u8 1] 5)) ((Below.heap_alloc w2 _ _ HW2.out.2.2.2).trans HBK2.out) hk5);have HC:=hid (io S PA pc d.path B v4 (l++[1]) w4 HSB.out (HIN.out w4 HX4.out.2.1).2 HPP.out HX4.out.1 (Nat.le_trans HB.out HX4.out.2.1.size) (by have:=HM.out;simp;omega));clear hv4 hg4 hwh4 hrow hk5 hB2;refine aZ rfl (fun K hK=> ?_)
  go_simp
  refine HC.out.mono ?_;rintro e w5 ⟨v5,rfl,hv5,hb5,hk5⟩
  go_simp
  refine hK _ _ (.inr hk5) ?_;clear hK K;have HX5:Hid (ao w5 B v5 (l++[1]++cg d.path)∧Below B w w5∧K8 w w5):=hid ⟨hv5,HX4.out.2.1.trans hb5,HX4.out.2.2.trans hk5⟩;have HBK5:=hid (ju HBK4.out hk5);refine cU ?_;simp only[atR];show wpQuiet _ _ _ _ [_] _;try simp only[acR,Act.put]at *
  repeat(go_big_quiet_step (fail))
  refine wpQuiet_nil ?_;refine cE ?_;have r0:w5.cell? ⟨w.heap.size,0,none⟩=some (.int .i64 1):=Go.Joins.cell_of_block HBK5.out 0;have r1:w5.cell? ⟨w.heap.size,2,none⟩=some (.int .i64 d.val.kind):=Go.Joins.cell_of_block HBK5.out 2;have r2:w5.cell? ⟨w.heap.size,3,none⟩=some (.int .i64 d.val.num):=Go.Joins.cell_of_block HBK5.out 3;have r3:w5.cell? ⟨w.heap.size,4,none⟩=some (.string d.val.text):=Go.Joins.cell_of_block HBK5.out 4;have r4:w5.cell? ⟨w.heap.size,5,none⟩=some (.slice VA d.val.items.length vc):=Go.Joins.cell_of_block HBK5.out 5;have r5:w5.cell? ⟨w.heap.size,6,none⟩=some (.slice VA' d.val.names.length vc'):=Go.Joins.cell_of_block HBK5.out 6;have r6:w5.cell? ⟨w.heap.size,7,none⟩=some (.int .i64 d.num):=Go.Joins.cell_of_block HBK5.out 7
  have hL5:Hid ((l++[1]++cg d.path).length≤140737480000000):=hid (by
   have h1:=(ak d.path.length).1;have h2:=em HPP.out.2;have h3:=HPP.out.1;have h4:=HL.out;unfold cg;simp only[List.length_append,List.length_cons,List.length_nil]
   omega)
  have HC6:=hid (qF S d.val _ w5 (fun b hb=>Nat.lt_of_lt_of_le (HSB.out b hb) (Nat.le_trans HB.out HX5.out.2.1.size)) (HIN.out w5 HX5.out.2.1).1 HD.out.1 HD.out.2);go_wp2_with fail;refine HC6.out.mono ?_;rintro e w6 ⟨v6,rfl,hv6,hb6⟩;have HB6:Hid (Below B w w6):=hid (HX5.out.2.1.trans (hb6.mono (Nat.le_trans HB.out HX5.out.2.1.size)));have HK6:Hid (K8 w w6):=hid (HX5.out.2.2.trans (ax hb6));have HO6:Hid (ao w6 B v5 (l++[1]++cg d.path)):=hid (HX5.out.1.below hb6);have HV6:=hid hv6;have HZZ:=hid HD.out.2;clear hv6 hb6 HC6 r0 r1 r2 r3 r4 r5 r6;go_wp2_with(at_builtin;go_must (refine af rfl _ _ rfl B _ (l++[1]++cg d.path) rfl HO6.out w6.heap.size _ (cp d.val) rfl HV6.out.rd (Nat.le_trans HB.out HB6.out.size) (by have:=hL5.out;have:=fq (t:=d.val) HZZ.out;omega) ?_));intro v7 w7 hv7 hg7;have hfin:aV d= [1]++cg d.path++cp d.val:=by unfold aV;rw[HKE.out];simp
  have HX:Hid (ao w7 B v7 (l++aV d)∧Below B w w7∧K8 w w7):=hid ⟨by rw[hfin];simpa[List.append_assoc]using hv7,aq HB6.out HO6.out (Nat.le_trans HB.out HB6.out.size) hg7,HK6.out.trans (au HO6.out hg7)⟩;clear hv7 hg7 hfin;go_wp2_with fail;go_ret;exact⟨_,rfl,HX.out⟩
 ·have HKE:=hid hkk;have hbk:=HBK.out;rw[hkk]at hbk hw1 ⊢;clear hkk;have HBKK:=hid hbk;go_wp2_with fail;first|rw[←hw1]|skip
  clear hw1;have q0:=bA (i:=0) (show w1.drew.heap[w.heap.size]? =_ from HBKK.out) (by decide) rfl;have q1:=bA (i:=1) (show w1.drew.heap[w.heap.size]? =_ from HBKK.out) (by decide) rfl;refine bj K8 (fun w=>Lib.OthersKept.refl _ _ _) (fun a b c h k=>h.trans k) [] (.pure [0,1,2,3,6,7] (.step 4 (.step 5 (.step 8 (.free [9] (.tail [])))))) (by kernel_rfl) (by kernel_rfl) (fun _ d _ _ _ h=>by cases d<;>exact h) ?_;generalize hw2:w1.drew=w2 at *
  have HW2:Hid (Below w.heap.size w w2∧ao w2 B (.slice Av m cv) l∧K8 w w2∧w.heap.size<w2.heap.size):=hid (by
   rw[←hw2]
   exact⟨HB1.out.drew,HO1.out,(ax HB1.out).drew,(Array.getElem?_eq_some_iff.1 HBKK.out).1⟩)
  have HBK2:=hid ((show w2.heap[w.heap.size]? =w1.heap[w.heap.size]? from by rw[←hw2];rfl).trans HBKK.out);clear hw2 hbk;refine cW ?_;simp only[atR];show wpQuiet _ _ _ _ [_,_,_,_,_,_] _;try simp only[acR,Act.put]at *
  repeat(go_big_quiet_step (fail))
  refine wpQuiet_nil ?_;clear q0 q1;refine aZ rfl (fun K hK=> ?_)
  go_simp
  refine hK _ _ (.inr ((Lib.OthersKept.refl _ _ _).alloc _)) ?_;clear hK K;have hml:m≤140737470000000:=by rw[HM.out];exact HL.out
  have hB2:B≤w2.heap.size:=Nat.le_trans HB.out HW2.out.1.size;have HOA:Hid (∀X:Obj,ao (w2.alloc X) B (.slice Av m cv) l):=hid fun X=>HW2.out.2.1.below ((Below.refl _ _).alloc (Nat.le_refl _) _);have hrow: ∀X:Obj,(w2.alloc X).ownsRow B 5 1 (.slice Av m cv) m (aF l):=fun X=>by have h9:=HOA.out X;unfold ao at h9;rw[←HM.out]at h9;exact h9
  refine aZ rfl (fun K hK=> ?_);refine ck _ _ _ 23 rfl B 5 i0 (.int .u8 0) 1 1 Tryz.underlying23 hi hz0 hz1 hz2 rfl (by decide) _ m (aF l) rfl (hrow _) ⟨w2.heap.size,0,none⟩ 1 1 [.int .u8 2] rfl rfl (cell_one_new _ _ _) (by simp[Value.oneCell']) (by unfold maxLen;omega) (by omega) (by simp;omega) ?_;intro v4 w4 hv4 hg4 hwh4;have hk5:K8 (w2.alloc (.cells #[.int .u8 2] 5)) w4:=au (HOA.out _) hg4;refine hK _ _ (.inr hk5) ?_;clear hK K;have HX4:Hid (ao w4 B v4 (l++[2])∧Below B w w4∧K8 w w4):=hid ⟨by unfold ao;rw[List.length_append,←HM.out,show aF (l++[2])=aF l++[.int .u8 2] from by unfold aF;rw[List.map_append];rfl];exact hv4,aq ((HW2.out.1.mono HB.out).alloc hB2 _) (HOA.out _) (by simp;omega) hg4,(HW2.out.2.2.1.alloc _).trans hk5⟩;have HBK4:=hid (ju (w:=w2.alloc (.cells #[.int .u8 2] 5)) ((Below.heap_alloc w2 _ _ HW2.out.2.2.2).trans HBK2.out) hk5);have HC:=hid (io S PA pc d.path B v4 (l++[2]) w4 HSB.out (HIN.out w4 HX4.out.2.1).2 HPP.out HX4.out.1 (Nat.le_trans HB.out HX4.out.2.1.size) (by have:=HM.out;simp;omega));clear hv4 hg4 hwh4 hrow hk5 hB2;refine aZ rfl (fun K hK=> ?_)
  go_simp
  refine HC.out.mono ?_;rintro e w5 ⟨v5,rfl,hv5,hb5,hk5⟩
  go_simp
  refine hK _ _ (.inr hk5) ?_;clear hK K;have HX5:Hid (ao w5 B v5 (l++[2]++cg d.path)∧Below B w w5∧K8 w w5):=hid ⟨hv5,HX4.out.2.1.trans hb5,HX4.out.2.2.trans hk5⟩;have HBK5:=hid (ju HBK4.out hk5);refine cU ?_;simp only[atR];show wpQuiet _ _ _ _ [_] _;try simp only[acR,Act.put]at *
  repeat(go_big_quiet_step (fail))
  refine wpQuiet_nil ?_;refine cE ?_;have r0:w5.cell? ⟨w.heap.size,0,none⟩=some (.int .i64 2):=Go.Joins.cell_of_block HBK5.out 0;have r1:w5.cell? ⟨w.heap.size,2,none⟩=some (.int .i64 d.val.kind):=Go.Joins.cell_of_block HBK5.out 2;have r2:w5.cell? ⟨w.heap.size,3,none⟩=some (.int .i64 d.val.num):=Go.Joins.cell_of_block HBK5.out 3;have r3:w5.cell? ⟨w.heap.size,4,none⟩=some (.string d.val.text):=Go.Joins.cell_of_block HBK5.out 4;have r4:w5.cell? ⟨w.heap.size,5,none⟩=some (.slice VA d.val.items.length vc):=Go.Joins.cell_of_block HBK5.out 5;have r5:w5.cell? ⟨w.heap.size,6,none⟩=some (.slice VA' d.val.names.length vc'):=Go.Joins.cell_of_block HBK5.out 6;have r6:w5.cell? ⟨w.heap.size,7,none⟩=some (.int .i64 d.num):=Go.Joins.cell_of_block HBK5.out 7
  have hL5:Hid ((l++[2]++cg d.path).length≤140737480000000):=hid (by
   have h1:=(ak d.path.length).1;have h2:=em HPP.out.2;have h3:=HPP.out.1;have h4:=HL.out;unfold cg;simp only[List.length_append,List.length_cons,List.length_nil]
   omega)
  go_wp2_with fail;go_ret;have hfin:aV d= [2]++cg d.path:=by unfold aV;rw[HKE.out];simp
  rw[hfin,←List.append_assoc];exact⟨_,rfl,HX5.out⟩
 ·have HKE:=hid hkk;obtain⟨nn,hnn⟩: ∃nn:Nat,d.num=(nn:Int):=⟨d.num.toNat,by omega⟩;have hn9:nn≤999:=by omega
  have HNN:=hid hnn;have hk3:=hkk.1;have hbk:=HBK.out;rw[hk3,hnn]at hbk hw1 ⊢;clear hkk hk3 hnn;have HBKK:=hid hbk;go_wp2_with fail;first|rw[←hw1]|skip
  clear hw1;have q0:=bA (i:=0) (show w1.drew.heap[w.heap.size]? =_ from HBKK.out) (by decide) rfl;have q1:=bA (i:=1) (show w1.drew.heap[w.heap.size]? =_ from HBKK.out) (by decide) rfl;refine bj K8 (fun w=>Lib.OthersKept.refl _ _ _) (fun a b c h k=>h.trans k) [] (.pure [0,1,2,3,6,7] (.step 4 (.step 5 (.step 8 (.free [9] (.tail [])))))) (by kernel_rfl) (by kernel_rfl) (fun _ d _ _ _ h=>by cases d<;>exact h) ?_;generalize hw2:w1.drew=w2 at *
  have HW2:Hid (Below w.heap.size w w2∧ao w2 B (.slice Av m cv) l∧K8 w w2∧w.heap.size<w2.heap.size):=hid (by
   rw[←hw2]
   exact⟨HB1.out.drew,HO1.out,(ax HB1.out).drew,(Array.getElem?_eq_some_iff.1 HBKK.out).1⟩)
  have HBK2:=hid ((show w2.heap[w.heap.size]? =w1.heap[w.heap.size]? from by rw[←hw2];rfl).trans HBKK.out);clear hw2 hbk;refine cW ?_;simp only[atR];show wpQuiet _ _ _ _ [_,_,_,_,_,_] _;try simp only[acR,Act.put]at *
  repeat(go_big_quiet_step (fail))
  refine wpQuiet_nil ?_;clear q0 q1;refine aZ rfl (fun K hK=> ?_)
  go_simp
  refine hK _ _ (.inr ((Lib.OthersKept.refl _ _ _).alloc _)) ?_;clear hK K;have hml:m≤140737470000000:=by rw[HM.out];exact HL.out
  have hB2:B≤w2.heap.size:=Nat.le_trans HB.out HW2.out.1.size;have HOA:Hid (∀X:Obj,ao (w2.alloc X) B (.slice Av m cv) l):=hid fun X=>HW2.out.2.1.below ((Below.refl _ _).alloc (Nat.le_refl _) _);have hrow: ∀X:Obj,(w2.alloc X).ownsRow B 5 1 (.slice Av m cv) m (aF l):=fun X=>by have h9:=HOA.out X;unfold ao at h9;rw[←HM.out]at h9;exact h9
  refine aZ rfl (fun K hK=> ?_);refine ck _ _ _ 23 rfl B 5 i0 (.int .u8 0) 1 1 Tryz.underlying23 hi hz0 hz1 hz2 rfl (by decide) _ m (aF l) rfl (hrow _) ⟨w2.heap.size,0,none⟩ 1 1 [.int .u8 3] rfl rfl (cell_one_new _ _ _) (by simp[Value.oneCell']) (by unfold maxLen;omega) (by omega) (by simp;omega) ?_;intro v4 w4 hv4 hg4 hwh4;have hk5:K8 (w2.alloc (.cells #[.int .u8 3] 5)) w4:=au (HOA.out _) hg4;refine hK _ _ (.inr hk5) ?_;clear hK K;have HX4:Hid (ao w4 B v4 (l++[3])∧Below B w w4∧K8 w w4):=hid ⟨by unfold ao;rw[List.length_append,←HM.out,show aF (l++[3])=aF l++[.int .u8 3] from by unfold aF;rw[List.map_append];rfl];exact hv4,aq ((HW2.out.1.mono HB.out).alloc hB2 _) (HOA.out _) (by simp;omega) hg4,(HW2.out.2.2.1.alloc _).trans hk5⟩;have HBK4:=hid (ju (w:=w2.alloc (.cells #[.int .u8 3] 5)) ((Below.heap_alloc w2 _ _ HW2.out.2.2.2).trans HBK2.out) hk5);have HC:=hid (io S PA pc d.path B v4 (l++[3]) w4 HSB.out (HIN.out w4 HX4.out.2.1).2 HPP.out HX4.out.1 (Nat.le_trans HB.out HX4.out.2.1.size) (by have:=HM.out;simp;omega));clear hv4 hg4 hwh4 hrow hk5 hB2;refine aZ rfl (fun K hK=> ?_)
  go_simp
  refine HC.out.mono ?_;rintro e w5 ⟨v5,rfl,hv5,hb5,hk5⟩
  go_simp
  refine hK _ _ (.inr hk5) ?_;clear hK K;have HX5:Hid (ao w5 B v5 (l++[3]++cg d.path)∧Below B w w5∧K8 w w5):=hid ⟨hv5,HX4.out.2.1.trans hb5,HX4.out.2.2.trans hk5⟩;have HBK5:=hid (ju HBK4.out hk5);refine cU ?_;simp only[atR];show wpQuiet _ _ _ _ [_] _;try simp only[acR,Act.put]at *
  repeat(go_big_quiet_step (fail))
  refine wpQuiet_nil ?_;refine cE ?_;have r0:w5.cell? ⟨w.heap.size,0,none⟩=some (.int .i64 3):=Go.Joins.cell_of_block HBK5.out 0;have r1:w5.cell? ⟨w.heap.size,2,none⟩=some (.int .i64 d.val.kind):=Go.Joins.cell_of_block HBK5.out 2;have r2:w5.cell? ⟨w.heap.size,3,none⟩=some (.int .i64 d.val.num):=Go.Joins.cell_of_block HBK5.out 3;have r3:w5.cell? ⟨w.heap.size,4,none⟩=some (.string d.val.text):=Go.Joins.cell_of_block HBK5.out 4;have r4:w5.cell? ⟨w.heap.size,5,none⟩=some (.slice VA d.val.items.length vc):=Go.Joins.cell_of_block HBK5.out 5;have r5:w5.cell? ⟨w.heap.size,6,none⟩=some (.slice VA' d.val.names.length vc'):=Go.Joins.cell_of_block HBK5.out 6;have r6:w5.cell? ⟨w.heap.size,7,none⟩=some (.int .i64 (nn:Int)):=Go.Joins.cell_of_block HBK5.out 7
  have hL5:Hid ((l++[3]++cg d.path).length≤140737480000000):=hid (by
   have h1:=(ak d.path.length).1;have h2:=em HPP.out.2;have h3:=HPP.out.1;have h4:=HL.out;unfold cg;simp only[List.length_append,List.length_cons,List.length_nil]
   omega)
  have HC6:=hid (fu B nn v5 (l++[3]++cg d.path) w5 HX5.out.1 (Nat.le_trans HB.out HX5.out.2.1.size) (by omega) (by have:=hL5.out;omega));go_wp2_with fail;refine HC6.out.mono ?_;rintro e w6 ⟨v6,rfl,hv6,hb6,hk6⟩;have hfin:aV d= [3]++cg d.path++grp nn:=by unfold aV;rw[HKE.out.1,HNN.out];simp
  have HX6:Hid (ao w6 B v6 (l++aV d)∧Below B w w6∧K8 w w6):=hid ⟨by rw[hfin,←List.append_assoc,←List.append_assoc];exact hv6,HX5.out.2.1.trans hb6,HX5.out.2.2.trans hk6⟩;clear hfin hv6 hb6 hk6;go_wp2_with fail;go_ret;exact⟨_,rfl,HX6.out⟩
end Go.Proofs.YtgfidiocmiolpaaGreat
/- A path's code, and a value's, are read back: plain. -/
namespace Go.Proofs.YtgfidiocmiolpaaGreat
theorem xZ {s:ByteArray}(r:List UInt8)(h:s.size≤32):ar 32 (some (txt s++r))=(s.data.toList,some r):=fj (m:=32) r h (by omega)
theorem ql : ∀(p:List ByteArray) (r:List UInt8),(∀s∈p,s.size≤32)→ ∀k,k≤p.length→rdK (some ((p.map txt).flatten++r)) k=(p.take k,some (((p.drop k).map txt).flatten++r))
 |p,r,h,0,_=>by simp[rdK]
 |p,r,h,k+1,hk=>by
  have ih:=ql p r h k (by omega);unfold rdK;rw[ih];have e:p.drop k=p[k]'(by omega)::p.drop (k+1):=List.drop_eq_getElem_cons (by omega)
  have hx:ar 32 (some (((p.drop k).map txt).flatten++r))=((p[k]'(by omega)).data.toList,some (((p.drop (k+1)).map txt).flatten++r)):=by
   rw[e,List.map_cons,List.flatten_cons,List.append_assoc];exact xZ _ (h _ (List.getElem_mem (by omega)))
  simp only[hx];rw[List.take_succ_eq_append_getElem (by omega)]
theorem i7 {p:List ByteArray}(h:iy p=true)(r:List UInt8):bo (some (cg p++r))=(p,some r):=by
 obtain⟨-,h8,hn⟩:=(lP p).1 h;have h32: ∀s∈p,s.size≤32:=fun s hs=>((gG s).1 (hn s hs)).2.1;unfold bo cg;rw[List.append_assoc,show ah 8 (some (grp p.length++((p.map txt).flatten++r)))=(p.length,some ((p.map txt).flatten++r)) from bQ (m:=8) _ h8 (by omega)];have:=ql p r h32 p.length (Nat.le_refl _);simp only[this];simp
theorem jS {t:VT}(hc:ba t=0)(hz:aM t≤9223372036854775807)(hr:gj t)(r:List UInt8):bE (some (cp t++r))=(t,some r):=by
 have h1:=(ej hz).1 hc;have he:cp t=bX t:=by unfold cp;rw[if_pos hc]
 rw[he,ef,r8 ⟨h1.1,h1.2.1,h1.2.2⟩ hr r]
def bF (l:List aS):List UInt8:=if bG l=0 then grp l.length++(l.map aV).flatten else []
theorem jO {d:aS}(h:cr d=true):ku d.path:=za (jf h)
theorem pi {d:aS}(h:cr d=true)(hz:aM d.val≤9223372036854775807):(aV d).length≤2100000:=by
 have h1:=kX (jO h);have h3:=fq hz;have h4:=(ak d.num.toNat).1;unfold aV;rw[List.length_append,List.length_append]
 split
 ·simp;omega
 split
 ·simp;omega
 ·simp;omega
theorem fE : ∀ {l:List aS},(∀d∈l,cr d=true∧aM d.val≤9223372036854775807)→((l.map aV).flatten).length≤2100000 * l.length
 | [],_=>by simp
 |a::r,h=>by
  have h1:=pi (h a (by simp)).1 (h a (by simp)).2;have h2:=fE (l:=r) fun o ho=>h o (List.mem_cons_of_mem _ ho);simp only[List.map_cons,List.flatten_cons,List.length_append,List.length_cons];omega
theorem cM {l:List aS}(h:bG l=0):l.length≤64∧ ∀d∈l,cr d=true:=by
 unfold bG at h;by_cases h1:64<l.length
 ·rw[if_pos h1]at h;omega
 ·rw[if_neg h1]at h;by_cases h2:l.all cr=true
  ·exact⟨by omega,fun d hd=>List.all_eq_true.1 h2 d hd⟩
  ·rw[if_neg h2]at h;omega
theorem yf {d:aS}(h:cr d=true)(hz:aM d.val≤9223372036854775807)(hr:gj d.val)(r:List UInt8):rdD (some (aV d++r))=(d,some r):=by
 obtain⟨k,p,v,m⟩:=d;unfold cr at h;rw[Bool.and_eq_true]at h;obtain⟨hp,h2⟩:=h
 have hk:1≤k∧k≤3:=by
  simp only at h2
  split at h2
  ·omega
  split at h2
  ·omega
  split at h2
  ·omega
  ·cases h2
 obtain⟨n,rfl⟩: ∃n:Nat,k=(n:Int):=⟨k.toNat,by omega⟩;have hn:n≤3:=by omega
 have hb: ∀x,al (some ([UInt8.ofNat (n:Int).toNat]++x))=(n,some x):=fun x=>by
  show((UInt8.ofNat (n:Int).toNat).toNat,some x)=_;rw[Int.toNat_natCast,UInt8.toNat_ofNat',Nat.mod_eq_of_lt (by omega)]
 unfold rdD aV;simp only at *;have e: ∀y,[UInt8.ofNat (n:Int).toNat]++cg p++y++r= [UInt8.ofNat (n:Int).toNat]++(cg p++(y++r)):=fun y=>by simp
 rw[e,hb];simp only;by_cases k1:n=1
 ·subst k1;rw[if_pos (by omega)]at h2;simp only[Bool.and_eq_true,decide_eq_true_eq]at h2;rw[if_pos rfl,if_pos (by omega),i7 hp];simp only;rw[jS h2.1 hz hr,h2.2];rfl
 by_cases k3:n=3
 ·subst k3;rw[if_neg (by omega),if_neg (by omega),if_pos (by omega)]at h2;simp only[Bool.and_eq_true,decide_eq_true_eq]at h2;have hv:=(fQ v).1 h2.1;rw[if_neg (by omega),if_pos rfl,if_neg (by omega),if_pos (by omega),i7 hp];simp only;rw[show ah 999 (some (grp m.toNat++r))=(m.toNat,some r) from bQ (m:=999) _ (by omega) (by omega),hv];simp only;rw[Int.toNat_of_nonneg h2.2.1];rfl
 ·obtain rfl:n=2:=by omega
  rw[if_neg (by omega),if_pos (by omega)]at h2;simp only[Bool.and_eq_true,decide_eq_true_eq]at h2;have hv:=(fQ v).1 h2.1;rw[if_neg (by omega),if_neg (by omega),if_neg (by omega),if_neg (by omega),List.nil_append,i7 hp,hv,h2.2];rfl
theorem nk : ∀(l:List aS) (r:List UInt8),(∀d∈l,cr d=true∧aM d.val≤9223372036854775807∧gj d.val)→ ∀k,k≤l.length→bL (some ((l.map aV).flatten++r)) k=(l.take k,some (((l.drop k).map aV).flatten++r))
 |l,r,h,0,_=>by simp[bL]
 |l,r,h,k+1,hk=>by
  have ih:=nk l r h k (by omega);unfold bL;rw[ih];have e:l.drop k=l[k]'(by omega)::l.drop (k+1):=List.drop_eq_getElem_cons (by omega);obtain⟨h1,h2,h3⟩:=h _ (List.getElem_mem (show k<l.length by omega))
  have hx:rdD (some (((l.drop k).map aV).flatten++r))=(l[k]'(by omega),some (((l.drop (k+1)).map aV).flatten++r)):=by
   rw[e,List.map_cons,List.flatten_cons,List.append_assoc];exact yf h1 h2 h3 _
  simp only[hx];rw[List.take_succ_eq_append_getElem (by omega)]
def eI (l:List aS):Prop:= ∀d∈l,aM d.val≤9223372036854775807
def zS (l:List aS):Prop:= ∀d∈l,gj d.val
theorem vV {l:List aS}(h:bG l=0)(hz:eI l)(hr:zS l)(r:List UInt8):eq (some (bF l++r))=(l,some r):=by
 obtain⟨h64,hm⟩:=cM h
 have hc:ah 64 (some (bF l++r))=(l.length,some ((l.map aV).flatten++r)):=by
  unfold bF;rw[if_pos h,List.append_assoc];exact bQ (m:=64) _ h64 (by omega)
 have hk:=nk l r (fun o ho=>⟨hm o ho,hz o ho,hr o ho⟩) l.length (Nat.le_refl _)
 have h1:(bL (ah 64 (some (bF l++r))).2 (ah 64 (some (bF l++r))).1)=(l,some r):=by
  rw[hc];simp only;rw[hk];simp
 rw[jo (r:=r) (by rw[h1]),h1];simp only;rw[if_pos h]
theorem bD.rng {w:Go.World}{S:Nat→Prop}{A:Option Go.Addr}{l:List aS}(h:bD w S A l):zS l:=by
 intro d hmem;obtain⟨i,hi,rfl⟩:=List.getElem_of_mem hmem;obtain⟨b,off,-,-,hc⟩:=h (by omega);obtain⟨cs',-,hop⟩:=hc i hi;obtain⟨PA,pc,VA,vc,VA',vc',-,hlv,-⟩:=hop;exact pf _ _ _ (Nat.le_refl _) hlv
/-! ### what lies at one step -/
def jz (t:VT)(s:ByteArray):Option VT:=if cm t s<0 then none else t.items[(cm t s).toNat]?
theorem vG (t:VT)(s:ByteArray)(r:List ByteArray):iG t (s::r)=(jz t s).bind fun u=>iG u r:=by
  conv=>lhs;unfold iG
  unfold jz
  split
  · rfl
  · cases t.items[(cm t s).toNat]? <;>rfl
def ll :List ByteArray→List VT→ByteArray→Option VT
  |a::r,x::l,s=>if a=s then some x else ll r l s
  |_,_,_=>none
theorem kG (s:ByteArray): ∀(l:List ByteArray) (k:Nat),nmI k l s=if nmI 0 l s<0 then -1 else nmI 0 l s+k
  | [],k=>by unfold nmI;simp
  |a::r,k=>by
    unfold nmI;by_cases h:a=s
    · rw[if_pos h,if_pos h];simp
    · rw[if_neg h,if_neg h]
      have h1:=kG s r (k+1);have h2:=kG s r 1;have h3:=(mR (s:=s) (l:=r) (k:=0)).1;rw[h1];show _=if nmI (0+1) r s<0 then(-1:Int)else nmI (0+1) r s+k
      rw[show 0+1=1 from rfl,h2]
      split<;>split<;>omega
theorem jD (s:ByteArray): ∀(ns:List ByteArray) (l:List VT),(if nmI 0 ns s<0 then none else l[(nmI 0 ns s).toNat]?)=ll ns l s
  | [],l=>by unfold nmI ll;simp
  |a::r,l=>by
    by_cases h:a=s
    · have e:nmI 0 (a::r) s=0:=by unfold nmI;rw[if_pos h];rfl
      rw[e]
      cases l with
      |nil=>unfold ll;simp
      |cons x l=>unfold ll;simp[h]
    · have e:nmI 0 (a::r) s=nmI 1 r s:=by conv=>lhs;unfold nmI
                                          rw[if_neg h]
      have e2:=kG s r 1;have ih:=jD s r;rw[e,e2];have h3:=(mR (s:=s) (l:=r) (k:=0)).1
      cases l with
      |nil=>
        unfold ll
        split<;>simp
      |cons x l=>
        unfold ll;rw[if_neg h,←ih l];by_cases hn:nmI 0 r s<0
        · rw[if_pos hn,if_pos hn];rfl
        · rw[if_neg hn,if_neg hn,if_neg (by omega)]
          have:(nmI 0 r s+((1:Nat):Int)).toNat=(nmI 0 r s).toNat+1:=by omega
          rw[this,List.getElem?_cons_succ]
theorem yu {t:VT}(h:t.kind=7)(s:ByteArray):jz t s=ll t.names t.items s:=by
  unfold jz;rw[jT h];exact jD s t.names t.items
theorem rm (t:VT):bq t=true↔bi t.kind t.num t.text t.items.length t.names=true∧ ∀x∈t.items,bq x=true:=by
  rw[nA,Bool.and_eq_true];refine and_congr_right fun _=>⟨fun h x hx=>cA h hx,fun h=>m0 fun j hj=>h _ (List.getElem_mem hj)⟩
structure bh where
 term:Int
 kind:Int
 coll:ByteArray
 to:ByteArray
 id:VT
 doc:VT
 dels:List aS
 session:Int
 number:Int
def aT (k:Int):Bool:=decide (2≤k) && decide (k≤7)
def b9 (k:Int):Bool:=decide (k=7)
def bW (k:Int):Bool:=decide (2≤k) && decide (k≤4)
def bn (k:Int):Bool:=decide (k=2)
def aX (k:Int):Bool:=decide (k=3)
def bN (s:ByteArray):Bool:=decide (1≤s.size) && decide (s.size≤32) && s.data.toList.all fun b=>decide (b≠36) && decide (b≠0)
def dj (v id:VT):Bool:=decide (v.kind=7) && decide (ba v=0) && (match jz v idN with
 |some x=>decide (fV x id=0)
 |none=>false)
def ew (l:List aS):Bool:=decide (bG l=0) && d8 l && !kN l [idN]
def eH :bh:=⟨0,0,⟨#[]⟩,⟨#[]⟩,aO,aO,[],0,0⟩
def cd (e:bh):Bool:=
 (decide (1≤e.kind) && decide (e.kind≤7)) && (decide (0≤e.term) && decide (e.term≤1099511627776)) && (decide (0≤e.session) && decide (e.session≤255)) && (decide (0≤e.number) && decide (e.number≤1099511627776)) &&
 (if aT e.kind then bN e.coll else decide (e.coll.size=0)) && (if b9 e.kind then bN e.to && decide (e.to≠e.coll)else decide (e.to.size=0)) &&
 (if bW e.kind then decide (ba e.id=0)else bO e.id) && (if bn e.kind then dj e.doc e.id else bO e.doc) && (if aX e.kind then ew e.dels else decide (e.dels.length=0)) &&
 (if e.kind=1 then decide (e.session=0) && decide (e.number=0)else true)
def dp (e:bh):List UInt8:=
 grp e.term.toNat++([UInt8.ofNat e.kind.toNat]++(grp e.session.toNat++(grp e.number.toNat++((if aT e.kind then txt e.coll else [])++((if b9 e.kind then txt e.to else [])++((if bW e.kind then cp e.id else [])++
  ((if bn e.kind then cp e.doc else [])++(if aX e.kind then bF e.dels else []))))))))
def bC {α:Type}(b:Bool)(z:α)(f:Option (List UInt8)→α×Option (List UInt8))(st:Option (List UInt8)):α×Option (List UInt8):=if b then f st else(z,st)
def ed (n:Int)(st:Option (List UInt8)):ByteArray×Option (List UInt8):=(⟨(ar n st).1.toArray⟩,(ar n st).2)
def fX (st:Option (List UInt8)):bh×Option (List UInt8):=
 let a:=ah 1099511627776 st;let k:=al a.2;let s:=ah 255 k.2;let n:=ah 1099511627776 s.2;let c:=bC (aT k.1) ⟨#[]⟩ (ed 32) n.2;let t:=bC (b9 k.1) ⟨#[]⟩ (ed 32) c.2;let i:=bC (bW k.1) aO bE t.2;let d:=bC (bn k.1) aO bE i.2;let l:=bC (aX k.1) [] eq d.2
 (⟨a.1,k.1,c.1,t.1,i.1,d.1,l.1,s.1,n.1⟩,l.2)
def rdE (st:Option (List UInt8)):bh×Option (List UInt8):=match(fX st).2 with
 |none=>(eH,none)
 |some r=>if cd (fX st).1=true then((fX st).1,some r)else(eH,none)
structure AO (e:bh):Prop where
 k1:1≤e.kind
 k7:e.kind≤7
 t0:0≤e.term
 t1:e.term≤1099511627776
 s0:0≤e.session
 s1:e.session≤255
 n0:0≤e.number
 n1:e.number≤1099511627776
 coll:if aT e.kind=true then bN e.coll=true else e.coll.size=0
 to:if b9 e.kind=true then bN e.to=true∧e.to≠e.coll else e.to.size=0
 id:if bW e.kind=true then ba e.id=0 else bO e.id=true
 doc:if bn e.kind=true then dj e.doc e.id=true else bO e.doc=true
 dels:if aX e.kind=true then ew e.dels=true else e.dels.length=0
 noop:e.kind=1→e.session=0∧e.number=0
theorem xN {c:Bool}{a b:Bool}:(if c=true then a else b)=true↔if c=true then a=true else b=true:=by cases c<;>simp
theorem gS (e:bh):cd e=true↔AO e:=by
 unfold cd;simp only[Bool.and_eq_true,decide_eq_true_eq,xN];constructor
 ·rintro⟨⟨⟨⟨⟨⟨⟨⟨⟨⟨a,b⟩,c,d⟩,f,g⟩,h,i⟩,j⟩,k⟩,l⟩,m⟩,n⟩,o⟩;refine⟨a,b,c,d,f,g,h,i,j,k,l,m,n,fun hk=> ?_⟩;rw[if_pos hk]at o;simpa using o
 ·intro h;refine⟨⟨⟨⟨⟨⟨⟨⟨⟨⟨h.k1,h.k7⟩,h.t0,h.t1⟩,h.s0,h.s1⟩,h.n0,h.n1⟩,h.coll⟩,h.to⟩,h.id⟩,h.doc⟩,h.dels⟩,?_⟩;by_cases hk:e.kind=1
  ·rw[if_pos hk];simpa using h.noop hk
  ·rw[if_neg hk]
theorem oX {s:ByteArray}(h:s.size=0):s=⟨#[]⟩:=by
 cases s with
 |mk a=>rw[show a= #[] from Array.eq_empty_of_size_eq_zero h]
theorem gK {s:ByteArray}(h:bN s=true):1≤s.size∧s.size≤32:=by
 unfold bN at h;simp only[Bool.and_eq_true,decide_eq_true_eq]at h;exact h.1
theorem eC {α:Type}{b:Bool}{z x:α}{f:Option (List UInt8)→α×Option (List UInt8)}{c r:List UInt8}(h1:b=true→f (some (c++r))=(x,some r))(h0:b=false→x=z):bC b z f (some ((if b=true then c else [])++r))=(x,some r):=by
 unfold bC
 cases b with
 |true=>exact h1 rfl
 |false=>rw[h0 rfl];rfl
theorem ng {s:ByteArray}(h:s.size≤32)(r:List UInt8):ed 32 (some (txt s++r))=(s,some r):=by
 unfold ed;rw[show ar 32 (some (txt s++r))=(s.data.toList,some r) from fj (m:=32) r h (by omega)]
structure nz (e:bh):Prop where
 id:aM e.id≤9223372036854775807∧gj e.id
 doc:aM e.doc≤9223372036854775807∧gj e.doc
 dels:eI e.dels∧zS e.dels
theorem yz {e:bh}(h:cd e=true)(hf:nz e)(r:List UInt8):rdE (some (dp e++r))=(e,some r):=by
 have m:=(gS e).1 h
 have e1:fX (some (dp e++r))=(e,some r):=by
  obtain⟨T,K,C,O,I,D,L,S,N⟩:=e;obtain⟨T,rfl⟩: ∃n:Nat,T=(n:Int):=⟨T.toNat,by have:=m.t0;simp only at this;omega⟩;obtain⟨K,rfl⟩: ∃n:Nat,K=(n:Int):=⟨K.toNat,by have:=m.k1;simp only at this;omega⟩;obtain⟨S,rfl⟩: ∃n:Nat,S=(n:Int):=⟨S.toNat,by have:=m.s0;simp only at this;omega⟩;obtain⟨N,rfl⟩: ∃n:Nat,N=(n:Int):=⟨N.toNat,by have:=m.n0;simp only at this;omega⟩;obtain⟨k1,k7,t0,t1,s0,s1,n0,n1,mc,mt,mi,md,ml,-⟩:=m;simp only at k1 k7 t0 t1 s0 s1 n0 n1 mc mt mi md ml
  have hb: ∀x,al (some ([UInt8.ofNat ((K:Int).toNat)]++x))=(K,some x):=fun x=>by
   show((UInt8.ofNat (K:Int).toNat).toNat,some x)=_;rw[Int.toNat_natCast,UInt8.toNat_ofNat',Nat.mod_eq_of_lt (by omega)]
  have h1: ∀x,ah 1099511627776 (some (grp T++x))=(T,some x):=fun x=>bQ (m:=1099511627776) x (by omega) (by omega);have h2: ∀x,ah 255 (some (grp S++x))=(S,some x):=fun x=>bQ (m:=255) x (by omega) (by omega);have h3: ∀x,ah 1099511627776 (some (grp N++x))=(N,some x):=fun x=>bQ (m:=1099511627776) x (by omega) (by omega)
  have h4: ∀x,bC (aT (K:Int)) ⟨#[]⟩ (ed 32) (some ((if aT (K:Int)=true then txt C else [])++x))=(C,some x):=fun x=>eC (fun hk=>by
   rw[if_pos hk]at mc;exact ng (gK mc).2 x) (fun hk=>by rw[hk,if_neg (by decide)]at mc;exact oX mc)
  have h5: ∀x,bC (b9 (K:Int)) ⟨#[]⟩ (ed 32) (some ((if b9 (K:Int)=true then txt O else [])++x))=(O,some x):=fun x=>eC (fun hk=>by
   rw[if_pos hk]at mt;exact ng (gK mt.1).2 x) (fun hk=>by rw[hk,if_neg (by decide)]at mt;exact oX mt)
  have h6: ∀x,bC (bW (K:Int)) aO bE (some ((if bW (K:Int)=true then cp I else [])++x))=(I,some x):=fun x=>eC (fun hk=>by
   rw[if_pos hk]at mi;exact jS mi hf.id.1 hf.id.2 x) (fun hk=>by rw[hk,if_neg (by decide)]at mi;exact(fQ I).1 mi)
  have h7: ∀x,bC (bn (K:Int)) aO bE (some ((if bn (K:Int)=true then cp D else [])++x))=(D,some x):=fun x=>eC (fun hk=>by
   rw[if_pos hk]at md;unfold dj at md;simp only[Bool.and_eq_true,decide_eq_true_eq]at md
   exact jS md.1.2 hf.doc.1 hf.doc.2 x) (fun hk=>by rw[hk,if_neg (by decide)]at md;exact(fQ D).1 md)
  have h8: ∀x,bC (aX (K:Int)) [] eq (some ((if aX (K:Int)=true then bF L else [])++x))=(L,some x):=fun x=>eC (fun hk=>by
   rw[if_pos hk]at ml;unfold ew at ml;simp only[Bool.and_eq_true,decide_eq_true_eq]at ml
   exact vV ml.1.1 hf.dels.1 hf.dels.2 x) (fun hk=>by rw[hk,if_neg (by decide)]at ml;exact List.eq_nil_of_length_eq_zero ml)
  unfold fX dp;simp only[List.append_assoc,Int.toNat_natCast]at hb ⊢;rw[h1];dsimp only;rw[hb];dsimp only;rw[h2];dsimp only;rw[h3];dsimp only;rw[h4];dsimp only;rw[h5];dsimp only;rw[h6];dsimp only;rw[h7];dsimp only;rw[h8]
 unfold rdE;rw[e1];dsimp only;rw[if_pos h]
theorem fL {α:Type}{p:α×Option (List UInt8)}(h:p.2≠none): ∃r,p=(p.1,some r):=by
 obtain⟨a,o⟩:=p
 cases o with
 |none=>exact absurd rfl h
 |some r=>exact⟨r,rfl⟩
theorem ux : ∀(k:Nat) (l:List UInt8) (p:List ByteArray) (r:List UInt8),rdK (some l) k=(p,some r)→l=(p.map txt).flatten++r∧p.length=k
 |0,l,p,r,h=>by
  injection h with h1 h2
  injection h2 with h2
  subst h1 h2
  exact⟨rfl,rfl⟩
 |k+1,l,p,r,h=>by
  have hk:(rdK (some l) k).2≠none:=fun hn=>by
   have:=mK hn (k+1) (by omega);rw[h]at this;cases this
  obtain⟨r1,e1⟩:=fL hk;obtain⟨i1,i2⟩:=ux k l _ r1 e1;unfold rdK at h;rw[e1]at h;dsimp only at h;injection h with h1 h2
  obtain⟨j1,-⟩:=eP (m:=32) (l:=r1) (r:=r) (x:=(ar 32 (some r1)).1) (by omega) (Prod.ext rfl h2);refine⟨?_,by rw[←h1];simp[lH]⟩
  conv=>lhs;rw[i1,j1]
  rw[←h1,List.map_append,List.flatten_append,List.append_assoc];simp[iz]
theorem nc {l r:List UInt8}{p:List ByteArray}(h:bo (some l)=(p,some r)):l=cg p++r:=by
 unfold bo at h
 have hc:(ah 8 (some l)).2≠none:=fun hn=>by
  have h0:(rdK (ah 8 (some l)).2 0).2=none:=hn;have:=mK h0 (ah 8 (some l)).1 (by omega);rw[h]at this;cases this
 obtain⟨r1,e1⟩:=fL hc;rw[e1]at h;obtain⟨i1,-⟩:=dP (m:=8) (by omega) e1;obtain⟨j1,j2⟩:=ux _ _ _ _ h;unfold cg;rw[j2,List.append_assoc,←j1];exact i1
theorem oG {l r:List UInt8}{t:VT}(hl:l.length≤9223372036854775807)(h:bE (some l)=(t,some r)):l=cp t++r∧ba t=0:=by
 rw[ef]at h
 cases hs:fU l with
 |none=>rw[hs]at h;injection h with h1 h2;cases h2
 |some q=>
  obtain⟨t',r'⟩:=q;rw[hs]at h;injection h with h1 h2
  injection h2 with h2
  subst h1 h2;obtain⟨-,-,e,-,hc⟩:=jH hs hl;exact⟨by unfold cp;rw[if_pos hc];exact e,hc⟩
theorem zi {l r:List UInt8}{d:aS}(hl:l.length≤9223372036854775807)(h:rdD (some l)=(d,some r))(hm:cr d=true):l=aV d++r:=by
 have hb:(al (some l)).2≠none:=fun hn=>by
  have:=kU;unfold rdD at h;rw[hn]at h
  split at h
  ·injection h with h1 h2
   rw[this]at h2;cases h2
  ·split at h
   ·injection h with h1 h2
    rw[this]at h2;have h3:ah 999 none=(0,none):=by unfold ah;split<;>rfl
    rw[h3]at h2;cases h2
   ·injection h with h1 h2
    rw[this]at h2;cases h2
 obtain⟨r1,e1⟩:=fL hb;obtain⟨i1,i2⟩:=eh e1;have hl1:r1.length≤l.length:=by rw[i1];simp
 obtain⟨k,ek⟩: ∃k,k=(al (some l)).1:=⟨_,rfl⟩;rw[←ek]at e1 i1 i2
 have hp:(bo (some r1)).2≠none:=fun hn=>by
  unfold rdD at h;rw[e1]at h;dsimp only at h;rw[hn]at h
  split at h
  ·injection h with h1 h2
   cases h2
  ·split at h
   ·injection h with h1 h2
    have h3:ah 999 none=(0,none):=by unfold ah;split<;>rfl
    rw[h3]at h2;cases h2
   ·injection h with h1 h2
    cases h2
 obtain⟨r2,e2⟩:=fL hp;obtain⟨p,ep⟩: ∃p,p=(bo (some r1)).1:=⟨_,rfl⟩;rw[←ep]at e2;have j1:=nc e2;have hl2:r2.length≤r1.length:=by rw[j1];simp
 unfold rdD at h;rw[e1]at h;dsimp only at h;rw[e2]at h;dsimp only at h;have hcons:l= [UInt8.ofNat k]++(cg p++r2):=by rw[i1,j1];rfl
 by_cases k1:k=1
 ·subst k1;rw[if_pos rfl]at h;injection h with h1 h2
  obtain⟨q,-⟩:=oG (l:=r2) (r:=r) (t:=(bE (some r2)).1) (by omega) (Prod.ext rfl h2);rw[←h1];unfold aV;dsimp only;rw[if_pos rfl,hcons]
  conv=>lhs;rw[q]
  simp
 ·rw[if_neg k1]at h;by_cases k3:k=3
  ·subst k3;rw[if_pos rfl]at h;injection h with h1 h2
   obtain⟨q,-⟩:=dP (m:=999) (l:=r2) (r:=r) (n:=(ah 999 (some r2)).1) (by omega) (Prod.ext rfl h2);rw[←h1];unfold aV;dsimp only;rw[if_neg (by omega),if_pos rfl,hcons]
   conv=>lhs;rw[q]
   simp
  ·rw[if_neg k3]at h;injection h with h1 h2
   injection h2 with h2
   subst h2;rw[←h1];unfold aV;dsimp only;rw[if_neg (by omega),if_neg (by omega),hcons];simp
theorem rh : ∀(k:Nat) (l:List UInt8) (ds:List aS) (r:List UInt8),l.length≤9223372036854775807→bL (some l) k=(ds,some r)→(∀d∈ds,cr d=true)→l=(ds.map aV).flatten++r∧ds.length=k
 |0,l,ds,r,_,h,_=>by
  injection h with h1 h2
  injection h2 with h2
  subst h1 h2
  exact⟨rfl,rfl⟩
 |k+1,l,ds,r,hl,h,hm=>by
  unfold bL at h;injection h with h1 h2
  have hk:(bL (some l) k).2≠none:=fun hn=>by
   rw[hn,pO]at h2;cases h2
  obtain⟨r1,e1⟩:=fL hk;obtain⟨i1,i2⟩:=rh k l _ r1 hl e1 (fun d hd=>hm d (by rw[←h1];exact List.mem_append_left _ hd));have hl1:r1.length≤l.length:=by rw[i1,List.length_append];omega
  rw[e1]at h1 h2;dsimp only at h1 h2;have j1:=zi (l:=r1) (r:=r) (d:=(rdD (some r1)).1) (by omega) (Prod.ext rfl h2) (hm _ (by rw[←h1];simp));refine⟨?_,by rw[←h1];simp[i2]⟩
  conv=>lhs;rw[i1,j1]
  rw[←h1,List.map_append,List.flatten_append,List.append_assoc];simp
theorem yl {l r:List UInt8}{ds:List aS}(hl:l.length≤9223372036854775807)(h:eq (some l)=(ds,some r)):l=bF ds++r∧bG ds=0:=by
 cases e:(bL (ah 64 (some l)).2 (ah 64 (some l)).1).2 with
 |none=>rw[gE e]at h;injection h with h1 h2;cases h2
 |some r1=>
  rw[jo e]at h;by_cases hc:bG (bL (ah 64 (some l)).2 (ah 64 (some l)).1).1=0
  ·rw[if_pos hc]at h;injection h with h1 h2
   injection h2 with h2
   subst h2;rw[h1]at hc
   have hcn:(ah 64 (some l)).2≠none:=fun hn=>by
    rw[hn]at e
    have: ∀k,(bL none k).2=none:=fun k=>by
     induction k with
     |zero=>rfl
     |succ k ih=>unfold bL;dsimp only;rw[ih];exact pO
    rw[this]at e;cases e
   obtain⟨r2,e2⟩:=fL hcn;obtain⟨i1,-⟩:=dP (m:=64) (by omega) e2;have hl2:r2.length≤l.length:=by rw[i1,List.length_append];omega
   rw[e2]at e h1;dsimp only at e h1;obtain⟨j1,j2⟩:=rh _ r2 ds r1 (by omega) (Prod.ext h1 e) (cM hc).2;refine⟨?_,hc⟩;unfold bF;rw[if_pos hc,List.append_assoc,←j1,j2];exact i1
  ·rw[if_neg hc]at h;injection h with h1 h2
   cases h2
end Go.Proofs.YtgfidiocmiolpaaGreat
