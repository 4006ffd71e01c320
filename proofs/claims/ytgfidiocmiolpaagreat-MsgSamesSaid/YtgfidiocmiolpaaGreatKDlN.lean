/- Whether a list of changes is too large to be looked at, and what keeps it from being one, by the document. -/
import Derived.Test.YtgfidiocmiolpaaGreatKTrH
import Derived.Test.YtgfidiocmiolpaaGreatKCodG
import Derived.Test.YtgfidiocmiolpaaGreatKCodP
import Derived.Test.YtgfidiocmiolpaaGreatKRefM
import Derived.Test.YtgfidiocmiolpaaGreatKFive
import Derived.Test.YtgfidiocmiolpaaGreatKValM
set_option maxHeartbeats 64000000
set_option maxRecDepth 100000
set_option linter.unusedVariables false
set_option linter.unusedSimpArgs false
namespace Go.Proofs.YtgfidiocmiolpaaGreat
open Lib (hid)
open Go.RowKit
def nB (d:aR):Bool:=cq d.val || decide (50<d.path.length)
def cY (l:List aR):Bool:=(l.take 70).any nB || decide (100<l.length)
theorem pT {l:List aR}{k:Nat}(hk:k<l.length)(h70:k<70)(h:nB l[k]=true):cY l=true:=by
 unfold cY;rw[List.any_eq_true.2 ⟨l[k],List.mem_take_iff_getElem.2 ⟨k,by omega,rfl⟩,h⟩];rfl
theorem oD {l:List aR}{k:Nat}(h: ∀j (hj:j<l.length),j<k→nB l[j]=false)(hk:k=l.length∨70≤k):cY l=decide (100<l.length):=by
 unfold cY
 rw[show(l.take 70).any nB=false from List.any_eq_false.2 fun x hx=>by
  obtain⟨j,hj,rfl⟩:=List.mem_take_iff_getElem.1 hx;rw[h j (by omega) (by omega)]
  simp]
 rfl
theorem iF {l:List aR}(h:cY l=false):l.length≤100∧ ∀d∈l.take 70,ao d.val≤41∧d.path.length≤50∧cq d.val=false:=by
 unfold cY at h;simp only[Bool.or_eq_false_iff,decide_eq_false_iff_not]at h;refine⟨by omega,fun d hd=> ?_⟩;have h4:=List.any_eq_false.1 h.1 d hd;unfold nB at h4;simp only[Bool.or_eq_true,not_or,decide_eq_true_eq,Bool.not_eq_true]at h4;exact⟨fW h4.1,by omega,h4.1⟩
theorem nZ (S:Nat→Prop)(A:Option Addr)(c:Nat)(l:List aR)(w:World)(hS: ∀b,S b→b<w.heap.size)(h:bk w S A l)(hn:l.length≤140737488351232):
  Calls Tryz.prog 43 #[.slice A l.length c] w fun e w'=>e= .returned (.bool (cY l))∧Below w.heap.size w w':=by
 have H:=hid h;have HS:=hid hS;obtain⟨r,hr⟩: ∃r,r=cY l:=⟨_,rfl⟩;have HR:=hid hr;rw[←hr];obtain⟨n,hn'⟩: ∃n,n=l.length:=⟨_,rfl⟩;have HN:=hid hn';rw[←hn']at hn ⊢;clear h hS hr hn';go_enter Tryz.func43,Tryz.ntmps43;go_wp2_with fail
 go_loopw [3] (fun i wr=> ∃k:Nat,i= .int .i64 k∧k≤n∧k≤70∧Hid (Below w.heap.size w wr)∧Hid (∀j (h:j<l.length),j<k→nB l[j]=false)) (fun i _=>n - (intOf i).toNat)
 case atStart=>exact⟨0,rfl,by omega,by omega,hid (Below.refl _ _),hid fun j _ h=>absurd h (by omega)⟩
 case round=>
  obtain⟨k,rfl,hk,hk6,HB,HJ⟩:=hrel;by_cases hlt:k<n∧k<70
  ·obtain⟨hlt,h70⟩:=hlt;have d1:decide ((k:Int)<(n:Int))=true:=decide_eq_true (by omega);have d2:decide ((k:Int)<70)=true:=decide_eq_true (by omega);have hkl:k<l.length:=by have:=HN.out;omega
   have hS2: ∀b,S b→b<wr.heap.size:=fun b hb=>Nat.lt_of_lt_of_le (HS.out b hb) HB.out.size;obtain⟨p,off,PA,pc,VA,vc,VA',vc',rfl,hpS,ho,x0,x1,x2,x3,x4,x5,x6,x7⟩:=(H.out.below HS.out HB.out).cells k hkl
   have hlv:LV wr S l[k].val (.agg #[.int .i64 l[k].val.kind,.int .i64 l[k].val.num,.string l[k].val.text,.slice VA l[k].val.items.length vc,.slice VA' l[k].val.names.length vc']):=by
    obtain⟨PB,pd,VB,vd,VB',vd',e,q0,-⟩:=ho;simp only[Array.mk.injEq,List.cons.injEq,Value.slice.injEq,and_true,true_and]at e;obtain⟨⟨rfl,rfl⟩,⟨rfl,rfl⟩,rfl,rfl⟩:=e;exact q0
   have HLG:=hid (i9 S l[k].val _ wr hS2 hlv);have hp2:=hS2 p hpS;have HX:Hid (∀W,Below wr.heap.size wr W→W.cell? ⟨p,off+k * 8+1,none⟩=some (.slice PA l[k].path.length pc)):=hid fun W hW=>(hW.cell (p:=⟨p,off+k * 8+1,none⟩) hp2).trans x1;have HBO:Hid (nB l[k]=(cq l[k].val || decide (50<l[k].path.length))):=hid rfl;obtain⟨np,hnp⟩: ∃n,n=l[k].path.length:=⟨_,rfl⟩;obtain⟨lg,hlg⟩: ∃b,b=cq l[k].val:=⟨_,rfl⟩;rw[←hnp]at HX HBO x1;rw[←hlg]at HLG HBO;have HH:=hid (fun hb:nB l[k]=true=>pT hkl h70 hb);clear hlv hpS ho hnp hlg hS2 hp2;go_wp2_with fail;refine HLG.out.mono ?_;rintro e u ⟨rfl,hb⟩;have HB2:=hid (HB.out.trans (hb.mono HB.out.size));have x1':=HX.out u hb;clear x0 x1 x2 x3 x4 x5 x6 x7 hb HLG HX;cases lg;rotate_left
   ·have HT:Hid (cY l=true):=hid (HH.out (by rw[HBO.out];rfl));go_wp2_with fail;go_ret;exact⟨by rw[HR.out,HT.out];rfl,HB2.out⟩
   by_cases h50:50<np
   ·have d3:decide ((np:Int)>50)=true:=decide_eq_true (by omega);have HT:Hid (cY l=true):=hid (HH.out (by rw[HBO.out,decide_eq_true h50];rfl));clear h50;go_wp2_with fail;go_ret;exact⟨by rw[HR.out,HT.out];rfl,HB2.out⟩
   ·have d3:decide ((np:Int)>50)=false:=decide_eq_false (by omega);have HT:Hid (nB l[k]=false):=hid (by rw[HBO.out,decide_eq_false h50];rfl);clear h50;go_wp2_with fail
    go_roundw
    case rel=>exact⟨k+1,by go_num,by omega,by omega,HB2,hid fun j h hjk=>by
     by_cases e:j=k
     ·subst e;exact HT.out
     ·exact HJ.out j h (by omega)⟩
    case measure=>simp[intOf];omega
  ·have HM:Hid (cY l=decide (100<n)):=hid (by rw[HN.out];exact oD HJ.out (by have:=HN.out;omega));have hcut:(k<n∧ ¬k<70)∨ ¬k<n:=by omega
   clear hlt hk;by_cases h50:100<n
   ·have d3:decide ((n:Int)>100)=true:=decide_eq_true (by omega);have HE:Hid (cY l=true):=hid (by rw[HM.out,decide_eq_true h50]);clear h50;rcases hcut with ⟨c1,c2⟩|c1
    ·have d1:decide ((k:Int)<(n:Int))=true:=decide_eq_true (by omega);have d2:decide ((k:Int)<70)=false:=decide_eq_false (by omega);go_wp2_with fail;go_ret;exact⟨by rw[HR.out,HE.out];rfl,HB.out⟩
    ·have d1:decide ((k:Int)<(n:Int))=false:=decide_eq_false (by omega);go_wp2_with fail;go_ret;exact⟨by rw[HR.out,HE.out];rfl,HB.out⟩
   ·have d3:decide ((n:Int)>100)=false:=decide_eq_false (by omega);have HE:Hid (cY l=false):=hid (by rw[HM.out,decide_eq_false h50]);clear h50;rcases hcut with ⟨c1,c2⟩|c1
    ·have d1:decide ((k:Int)<(n:Int))=true:=decide_eq_true (by omega);have d2:decide ((k:Int)<70)=false:=decide_eq_false (by omega);go_wp2_with fail;go_ret;exact⟨by rw[HR.out,HE.out];rfl,HB.out⟩
    ·have d1:decide ((k:Int)<(n:Int))=false:=decide_eq_false (by omega);go_wp2_with fail;go_ret;exact⟨by rw[HR.out,HE.out];rfl,HB.out⟩
theorem oI (S:Nat→Prop)(A:Option Addr)(c:Nat)(l:List aR)(w:World)(hS: ∀b,S b→b<w.heap.size)(h:bk w S A l)(hn:l.length≤140737488351232)(hd:eo l):
  Calls Tryz.prog 92 #[.slice A l.length c] w fun e w'=>e= .returned (.int .i64 (bo l))∧Below w.heap.size w w':=by
 have H:=hid h;have HS:=hid hS;have HD:=hid hd;obtain⟨r,hr⟩: ∃r,r=bo l:=⟨_,rfl⟩;have HR:=hid hr;rw[←hr];obtain⟨n,hn'⟩: ∃n,n=l.length:=⟨_,rfl⟩;have HN:=hid hn';rw[←hn']at hn ⊢;clear h hS hr hn' hd;go_enter Tryz.func92,Tryz.ntmps92;by_cases h64:64<n
 ·have d1:decide ((n:Int)>64)=true:=decide_eq_true (by omega);go_wp2_with fail;go_ret;exact⟨by rw[HR.out];unfold bo;rw[if_pos (by have:=HN.out;omega)];rfl,Below.refl _ _⟩
 have d1:decide ((n:Int)>64)=false:=decide_eq_false (by omega);have H64:Hid (¬64<l.length):=hid (by have:=HN.out;omega);go_wp2_with fail
 go_loopw [3] (fun i wr=> ∃k:Nat,i= .int .i64 k∧k≤n∧Hid (Below w.heap.size w wr)∧Hid (∀j (h:j<l.length),j<k→bS l[j]=true)) (fun i _=>n - (intOf i).toNat)
 case atStart=>exact⟨0,rfl,by omega,hid (Below.refl _ _),hid fun j _ h=>absurd h (by omega)⟩
 case round=>
  obtain⟨k,rfl,hk,HB,HJ⟩:=hrel;by_cases hlt:k<n
  ·have d2:decide ((k:Int)<(n:Int))=true:=decide_eq_true (by omega);have hkl:k<l.length:=by have:=HN.out;omega
   have hS2: ∀b,S b→b<wr.heap.size:=fun b hb=>Nat.lt_of_lt_of_le (HS.out b hb) HB.out.size;obtain⟨p,off,PA,pc,VA,vc,VA',vc',rfl,hpS,ho,x0,x1,x2,x3,x4,x5,x6,x7⟩:=(H.out.below HS.out HB.out).cells k hkl;have HC:=hid (sH S l[k] _ wr hS2 ho (HD.out _ (List.getElem_mem hkl)));clear ho hS2 hpS;go_wp2_with fail;refine HC.out.mono ?_;rintro e u ⟨rfl,hb⟩;have HB2:=hid (HB.out.trans (hb.mono HB.out.size));clear hb HC x0 x1 x2 x3 x4 x5 x6 x7;cases hm:bS l[k]
   ·have HM:=hid hm;clear hm;go_wp2_with fail;go_ret;exact⟨by rw[HR.out];unfold bo;rw[if_neg H64.out,mJ hkl HM.out];rfl,HB2.out⟩
   ·have HM:=hid hm;clear hm;go_wp2_with fail
    go_roundw
    case rel=>exact⟨k+1,by go_num,by omega,HB2,hid fun j h hjk=>by
     by_cases e:j=k
     ·subst e;exact HM.out
     ·exact HJ.out j h (by omega)⟩
    case measure=>simp[intOf];omega
  ·have d2:decide ((k:Int)<(n:Int))=false:=decide_eq_false (by omega);have HA:Hid (l.all bS=true):=hid (kY fun j h=>HJ.out j h (by have:=HN.out;omega));go_wp2_with fail;go_ret;exact⟨by rw[HR.out];unfold bo;rw[if_neg H64.out,HA.out];rfl,HB.out⟩
def bg (d:aR):List UInt8:=[UInt8.ofNat d.kind.toNat]++cF d.path++(if d.kind=1 then dz d.val else if d.kind=3 then grp d.num.toNat else [])
theorem gE {w w':World}{g:Nat}{cs:Array Value}{fr:Nat×Nat}(hg:w.heap[g]? =some (.cells cs 114 fr))(h:K8 w w'):w'.heap[g]? =some (.cells cs 114 fr):=h g _ hg (fun h=>by cases h) (fun c fz h=>by injection h with _ h;exact absurd h (by decide))
theorem pQ (S:Nat→Prop)(d:aR)(cs:Array Value)(B:Nat)(v:Value)(l:List UInt8)(w:World)(hSB: ∀b,S b→b<B)(ho:eb w S d cs)(hm:bS d=true)(hd:ao d.val≤4611686018427387903)(hz:aK d.val≤9223372036854775807)(hp:ix d.path)(h:aq w B v l)(hB:B≤w.heap.size)(hl:l.length≤140737470000000):
  Calls Tryz.prog 161 #[v,.agg cs] w (gg B (l++bg d) w):=by
 obtain⟨PA,pc,VA,vc,VA',vc',rfl,hv,hpa,hpc,hpn,hk,hkn,hpl⟩:=ho;obtain⟨w1,hw1⟩: ∃W,W=w.alloc (.cells #[.int .i64 d.kind,.slice PA d.path.length pc,.int .i64 d.val.kind,.int .i64 d.val.num,.string d.val.text,.slice VA d.val.items.length vc,.slice VA' d.val.names.length vc',.int .i64 d.num] 114):=⟨_,rfl⟩;have hbk:w1.heap[w.heap.size]? =some (.cells #[.int .i64 d.kind,.slice PA d.path.length pc,.int .i64 d.val.kind,.int .i64 d.val.num,.string d.val.text,.slice VA d.val.items.length vc,.slice VA' d.val.names.length vc',.int .i64 d.num] 114 (0,0)):=by rw[hw1];exact heap_alloc_new w _
 have hb1:Below w.heap.size w w1:=by rw[hw1];exact(Below.refl _ _).alloc (Nat.le_refl _) _
 have hin: ∀W,Below B w W→LV W S d.val (.agg #[.int .i64 d.val.kind,.int .i64 d.val.num,.string d.val.text,.slice VA d.val.items.length vc,.slice VA' d.val.names.length vc'])∧au W S PA d.path:=fun W hW=>
  ⟨hv.keep fun b hb=>hW.block b (hSB b hb),hpa.keep fun b hb=>hW.block b (hSB b hb)⟩
 obtain⟨i0,hi,hz0,hz1,hz2⟩:=info_parts Tryz.infoU8;have HO1:=hid (h.below hb1);obtain⟨Av,cv,rfl⟩:=h.slice;obtain⟨m,hmm⟩: ∃m,m=l.length:=⟨_,rfl⟩;rw[←hmm]at HO1 ⊢;have HM:=hid hmm;have HB1:=hid hb1;have HBK:=hid hbk;have HW1:=hid hw1;have HIN:=hid hin;have HSB:=hid hSB;have HPP:=hid hp;have HD:=hid (And.intro hd hz);have HL:=hid hl;have HB:=hid hB
 have hkk:d.kind=1∨d.kind=2∨(d.kind=3∧0≤d.num∧d.num≤999):=by
  unfold bS at hm;rw[Bool.and_eq_true]at hm;have h2:=hm.2
  split at h2
  ·omega
  split at h2
  ·omega
  split at h2
  ·simp only[Bool.and_eq_true,decide_eq_true_eq]at h2;exact .inr (.inr ⟨by omega,h2.2.1,h2.2.2⟩)
  ·cases h2
 clear hv hpa hpc hpn hk hkn hpl hSB hin h hB hl hmm hd hz hp hm;go_enter Tryz.func161,Tryz.ntmps161;rcases hkk with hkk|hkk|hkk
 ·have HKE:=hid hkk;have hbk:=HBK.out;rw[hkk]at hbk hw1 ⊢;clear hkk;have HBKK:=hid hbk;go_wp2_with fail;first|rw[←hw1]|skip
  clear hw1;have q0:=b9 (i:=0) (show w1.drew.heap[w.heap.size]? =_ from HBKK.out) (by decide) rfl;have q1:=b9 (i:=1) (show w1.drew.heap[w.heap.size]? =_ from HBKK.out) (by decide) rfl;refine bT K8 (fun w=>Lib.OthersKept.refl _ _ _) (fun a b c h k=>h.trans k) [] (.pure [0,1,2,3,6,7] (.step 4 (.step 5 (.step 8 (.free [9] (.tail [])))))) (by kernel_rfl) (by kernel_rfl) (fun _ d _ _ _ h=>by cases d<;>exact h) ?_;generalize hw2:w1.drew=w2 at *
  have HW2:Hid (Below w.heap.size w w2∧aq w2 B (.slice Av m cv) l∧K8 w w2∧w.heap.size<w2.heap.size):=hid (by
   rw[←hw2]
   exact⟨HB1.out.drew,HO1.out,(az HB1.out).drew,(Array.getElem?_eq_some_iff.1 HBKK.out).1⟩)
  have HBK2:=hid ((show w2.heap[w.heap.size]? =w1.heap[w.heap.size]? from by rw[←hw2];rfl).trans HBKK.out);clear hw2 hbk;refine eH ?_;simp only[atR];show wpQuiet _ _ _ _ [_,_,_,_,_,_] _;try simp only[acR,Act.put]at *
  repeat(go_big_quiet_step (fail))
  refine wpQuiet_nil ?_;clear q0 q1;refine bu rfl (fun K hK=> ?_)
  go_simp
  refine hK _ _ (.inr ((Lib.OthersKept.refl _ _ _).alloc _)) ?_;clear hK K;have hml:m≤140737470000000:=by rw[HM.out];exact HL.out
  have hB2:B≤w2.heap.size:=Nat.le_trans HB.out HW2.out.1.size;have HOA:Hid (∀X:Obj,aq (w2.alloc X) B (.slice Av m cv) l):=hid fun X=>HW2.out.2.1.below ((Below.refl _ _).alloc (Nat.le_refl _) _);have hrow: ∀X:Obj,(w2.alloc X).ownsRow B 5 1 (.slice Av m cv) m (aC l):=fun X=>by have h9:=HOA.out X;unfold aq at h9;rw[←HM.out]at h9;exact h9
  refine bu rfl (fun K hK=> ?_);refine dg _ _ _ 23 rfl B 5 i0 (.int .u8 0) 1 1 Tryz.underlying23 hi hz0 hz1 hz2 rfl (by decide) _ m (aC l) rfl (hrow _) ⟨w2.heap.size,0,none⟩ 1 1 [.int .u8 1] rfl rfl (cell_one_new _ _ _) (by simp[Value.oneCell']) (by unfold maxLen;omega) (by omega) (by simp;omega) ?_;intro v4 w4 hv4 hg4 hwh4;have hk5:K8 (w2.alloc (.cells #[.int .u8 1] 5)) w4:=aA (HOA.out _) hg4;refine hK _ _ (.inr hk5) ?_;clear hK K;have HX4:Hid (aq w4 B v4 (l++[1])∧Below B w w4∧K8 w w4):=hid ⟨by unfold aq;rw[List.length_append,←HM.out,show aC (l++[1])=aC l++[.int .u8 1] from by unfold aC;rw[List.map_append];rfl];exact hv4,ax ((HW2.out.1.mono HB.out).alloc hB2 _) (HOA.out _) (by simp;omega) hg4,(HW2.out.2.2.1.alloc _).trans hk5⟩;have HBK4:=hid (gE (w:=w2.alloc (.cells #[.int .u8 1] 5)) ((Below.heap_alloc w2 _ _ HW2.out.2.2.2).trans HBK2.out) hk5);have HC:=hid (fd S PA pc d.path B v4 (l++[1]) w4 HSB.out (HIN.out w4 HX4.out.2.1).2 HPP.out HX4.out.1 (Nat.le_trans HB.out HX4.out.2.1.size) (by have:=HM.out;simp;omega));clear hv4 hg4 hwh4 hrow hk5 hB2;refine bu rfl (fun K hK=> ?_)
  go_simp
  refine HC.out.mono ?_;rintro e w5 ⟨v5,rfl,hv5,hb5,hk5⟩
  go_simp
  refine hK _ _ (.inr hk5) ?_;clear hK K;have HX5:Hid (aq w5 B v5 (l++[1]++cF d.path)∧Below B w w5∧K8 w w5):=hid ⟨hv5,HX4.out.2.1.trans hb5,HX4.out.2.2.trans hk5⟩;have HBK5:=hid (gE HBK4.out hk5);refine gD ?_;simp only[atR];show wpQuiet _ _ _ _ [_] _;try simp only[acR,Act.put]at *
  repeat(go_big_quiet_step (fail))
  refine wpQuiet_nil ?_;refine eJ ?_;have r0:w5.cell? ⟨w.heap.size,0,none⟩=some (.int .i64 1):=Go.Joins.cell_of_block HBK5.out 0;have r1:w5.cell? ⟨w.heap.size,2,none⟩=some (.int .i64 d.val.kind):=Go.Joins.cell_of_block HBK5.out 2;have r2:w5.cell? ⟨w.heap.size,3,none⟩=some (.int .i64 d.val.num):=Go.Joins.cell_of_block HBK5.out 3;have r3:w5.cell? ⟨w.heap.size,4,none⟩=some (.string d.val.text):=Go.Joins.cell_of_block HBK5.out 4;have r4:w5.cell? ⟨w.heap.size,5,none⟩=some (.slice VA d.val.items.length vc):=Go.Joins.cell_of_block HBK5.out 5;have r5:w5.cell? ⟨w.heap.size,6,none⟩=some (.slice VA' d.val.names.length vc'):=Go.Joins.cell_of_block HBK5.out 6;have r6:w5.cell? ⟨w.heap.size,7,none⟩=some (.int .i64 d.num):=Go.Joins.cell_of_block HBK5.out 7
  have hL5:Hid ((l++[1]++cF d.path).length≤140737480000000):=hid (by
   have h1:=(al d.path.length).1;have h2:=dL HPP.out.2;have h3:=HPP.out.1;have h4:=HL.out;unfold cF;simp only[List.length_append,List.length_cons,List.length_nil]
   omega)
  have HC6:=hid (pw S d.val _ w5 (fun b hb=>Nat.lt_of_lt_of_le (HSB.out b hb) (Nat.le_trans HB.out HX5.out.2.1.size)) (HIN.out w5 HX5.out.2.1).1 HD.out.1 HD.out.2);go_wp2_with fail;refine HC6.out.mono ?_;rintro e w6 ⟨v6,rfl,hv6,hb6⟩;have HB6:Hid (Below B w w6):=hid (HX5.out.2.1.trans (hb6.mono (Nat.le_trans HB.out HX5.out.2.1.size)));have HK6:Hid (K8 w w6):=hid (HX5.out.2.2.trans (az hb6));have HO6:Hid (aq w6 B v5 (l++[1]++cF d.path)):=hid (HX5.out.1.below hb6);have HV6:=hid hv6;have HZZ:=hid HD.out.2;clear hv6 hb6 HC6 r0 r1 r2 r3 r4 r5 r6;go_wp2_with(at_builtin;go_must (refine ak rfl _ _ rfl B _ (l++[1]++cF d.path) rfl HO6.out w6.heap.size _ (dz d.val) rfl HV6.out.rd (Nat.le_trans HB.out HB6.out.size) (by have:=hL5.out;have:=eF (t:=d.val) HZZ.out;omega) ?_));intro v7 w7 hv7 hg7;have hfin:bg d= [1]++cF d.path++dz d.val:=by unfold bg;rw[HKE.out];simp
  have HX:Hid (aq w7 B v7 (l++bg d)∧Below B w w7∧K8 w w7):=hid ⟨by rw[hfin];simpa[List.append_assoc]using hv7,ax HB6.out HO6.out (Nat.le_trans HB.out HB6.out.size) hg7,HK6.out.trans (aA HO6.out hg7)⟩;clear hv7 hg7 hfin;go_wp2_with fail;go_ret;exact⟨_,rfl,HX.out⟩
 ·have HKE:=hid hkk;have hbk:=HBK.out;rw[hkk]at hbk hw1 ⊢;clear hkk;have HBKK:=hid hbk;go_wp2_with fail;first|rw[←hw1]|skip
  clear hw1;have q0:=b9 (i:=0) (show w1.drew.heap[w.heap.size]? =_ from HBKK.out) (by decide) rfl;have q1:=b9 (i:=1) (show w1.drew.heap[w.heap.size]? =_ from HBKK.out) (by decide) rfl;refine bT K8 (fun w=>Lib.OthersKept.refl _ _ _) (fun a b c h k=>h.trans k) [] (.pure [0,1,2,3,6,7] (.step 4 (.step 5 (.step 8 (.free [9] (.tail [])))))) (by kernel_rfl) (by kernel_rfl) (fun _ d _ _ _ h=>by cases d<;>exact h) ?_;generalize hw2:w1.drew=w2 at *
  have HW2:Hid (Below w.heap.size w w2∧aq w2 B (.slice Av m cv) l∧K8 w w2∧w.heap.size<w2.heap.size):=hid (by
   rw[←hw2]
   exact⟨HB1.out.drew,HO1.out,(az HB1.out).drew,(Array.getElem?_eq_some_iff.1 HBKK.out).1⟩)
  have HBK2:=hid ((show w2.heap[w.heap.size]? =w1.heap[w.heap.size]? from by rw[←hw2];rfl).trans HBKK.out);clear hw2 hbk;refine eH ?_;simp only[atR];show wpQuiet _ _ _ _ [_,_,_,_,_,_] _;try simp only[acR,Act.put]at *
  repeat(go_big_quiet_step (fail))
  refine wpQuiet_nil ?_;clear q0 q1;refine bu rfl (fun K hK=> ?_)
  go_simp
  refine hK _ _ (.inr ((Lib.OthersKept.refl _ _ _).alloc _)) ?_;clear hK K;have hml:m≤140737470000000:=by rw[HM.out];exact HL.out
  have hB2:B≤w2.heap.size:=Nat.le_trans HB.out HW2.out.1.size;have HOA:Hid (∀X:Obj,aq (w2.alloc X) B (.slice Av m cv) l):=hid fun X=>HW2.out.2.1.below ((Below.refl _ _).alloc (Nat.le_refl _) _);have hrow: ∀X:Obj,(w2.alloc X).ownsRow B 5 1 (.slice Av m cv) m (aC l):=fun X=>by have h9:=HOA.out X;unfold aq at h9;rw[←HM.out]at h9;exact h9
  refine bu rfl (fun K hK=> ?_);refine dg _ _ _ 23 rfl B 5 i0 (.int .u8 0) 1 1 Tryz.underlying23 hi hz0 hz1 hz2 rfl (by decide) _ m (aC l) rfl (hrow _) ⟨w2.heap.size,0,none⟩ 1 1 [.int .u8 2] rfl rfl (cell_one_new _ _ _) (by simp[Value.oneCell']) (by unfold maxLen;omega) (by omega) (by simp;omega) ?_;intro v4 w4 hv4 hg4 hwh4;have hk5:K8 (w2.alloc (.cells #[.int .u8 2] 5)) w4:=aA (HOA.out _) hg4;refine hK _ _ (.inr hk5) ?_;clear hK K;have HX4:Hid (aq w4 B v4 (l++[2])∧Below B w w4∧K8 w w4):=hid ⟨by unfold aq;rw[List.length_append,←HM.out,show aC (l++[2])=aC l++[.int .u8 2] from by unfold aC;rw[List.map_append];rfl];exact hv4,ax ((HW2.out.1.mono HB.out).alloc hB2 _) (HOA.out _) (by simp;omega) hg4,(HW2.out.2.2.1.alloc _).trans hk5⟩;have HBK4:=hid (gE (w:=w2.alloc (.cells #[.int .u8 2] 5)) ((Below.heap_alloc w2 _ _ HW2.out.2.2.2).trans HBK2.out) hk5);have HC:=hid (fd S PA pc d.path B v4 (l++[2]) w4 HSB.out (HIN.out w4 HX4.out.2.1).2 HPP.out HX4.out.1 (Nat.le_trans HB.out HX4.out.2.1.size) (by have:=HM.out;simp;omega));clear hv4 hg4 hwh4 hrow hk5 hB2;refine bu rfl (fun K hK=> ?_)
  go_simp
  refine HC.out.mono ?_;rintro e w5 ⟨v5,rfl,hv5,hb5,hk5⟩
  go_simp
  refine hK _ _ (.inr hk5) ?_;clear hK K;have HX5:Hid (aq w5 B v5 (l++[2]++cF d.path)∧Below B w w5∧K8 w w5):=hid ⟨hv5,HX4.out.2.1.trans hb5,HX4.out.2.2.trans hk5⟩;have HBK5:=hid (gE HBK4.out hk5);refine gD ?_;simp only[atR];show wpQuiet _ _ _ _ [_] _;try simp only[acR,Act.put]at *
  repeat(go_big_quiet_step (fail))
  refine wpQuiet_nil ?_;refine eJ ?_;have r0:w5.cell? ⟨w.heap.size,0,none⟩=some (.int .i64 2):=Go.Joins.cell_of_block HBK5.out 0;have r1:w5.cell? ⟨w.heap.size,2,none⟩=some (.int .i64 d.val.kind):=Go.Joins.cell_of_block HBK5.out 2;have r2:w5.cell? ⟨w.heap.size,3,none⟩=some (.int .i64 d.val.num):=Go.Joins.cell_of_block HBK5.out 3;have r3:w5.cell? ⟨w.heap.size,4,none⟩=some (.string d.val.text):=Go.Joins.cell_of_block HBK5.out 4;have r4:w5.cell? ⟨w.heap.size,5,none⟩=some (.slice VA d.val.items.length vc):=Go.Joins.cell_of_block HBK5.out 5;have r5:w5.cell? ⟨w.heap.size,6,none⟩=some (.slice VA' d.val.names.length vc'):=Go.Joins.cell_of_block HBK5.out 6;have r6:w5.cell? ⟨w.heap.size,7,none⟩=some (.int .i64 d.num):=Go.Joins.cell_of_block HBK5.out 7
  have hL5:Hid ((l++[2]++cF d.path).length≤140737480000000):=hid (by
   have h1:=(al d.path.length).1;have h2:=dL HPP.out.2;have h3:=HPP.out.1;have h4:=HL.out;unfold cF;simp only[List.length_append,List.length_cons,List.length_nil]
   omega)
  go_wp2_with fail;go_ret;have hfin:bg d= [2]++cF d.path:=by unfold bg;rw[HKE.out];simp
  rw[hfin,←List.append_assoc];exact⟨_,rfl,HX5.out⟩
 ·have HKE:=hid hkk;obtain⟨nn,hnn⟩: ∃nn:Nat,d.num=(nn:Int):=⟨d.num.toNat,by omega⟩;have hn9:nn≤999:=by omega
  have HNN:=hid hnn;have hk3:=hkk.1;have hbk:=HBK.out;rw[hk3,hnn]at hbk hw1 ⊢;clear hkk hk3 hnn;have HBKK:=hid hbk;go_wp2_with fail;first|rw[←hw1]|skip
  clear hw1;have q0:=b9 (i:=0) (show w1.drew.heap[w.heap.size]? =_ from HBKK.out) (by decide) rfl;have q1:=b9 (i:=1) (show w1.drew.heap[w.heap.size]? =_ from HBKK.out) (by decide) rfl;refine bT K8 (fun w=>Lib.OthersKept.refl _ _ _) (fun a b c h k=>h.trans k) [] (.pure [0,1,2,3,6,7] (.step 4 (.step 5 (.step 8 (.free [9] (.tail [])))))) (by kernel_rfl) (by kernel_rfl) (fun _ d _ _ _ h=>by cases d<;>exact h) ?_;generalize hw2:w1.drew=w2 at *
  have HW2:Hid (Below w.heap.size w w2∧aq w2 B (.slice Av m cv) l∧K8 w w2∧w.heap.size<w2.heap.size):=hid (by
   rw[←hw2]
   exact⟨HB1.out.drew,HO1.out,(az HB1.out).drew,(Array.getElem?_eq_some_iff.1 HBKK.out).1⟩)
  have HBK2:=hid ((show w2.heap[w.heap.size]? =w1.heap[w.heap.size]? from by rw[←hw2];rfl).trans HBKK.out);clear hw2 hbk;refine eH ?_;simp only[atR];show wpQuiet _ _ _ _ [_,_,_,_,_,_] _;try simp only[acR,Act.put]at *
  repeat(go_big_quiet_step (fail))
  refine wpQuiet_nil ?_;clear q0 q1;refine bu rfl (fun K hK=> ?_)
  go_simp
  refine hK _ _ (.inr ((Lib.OthersKept.refl _ _ _).alloc _)) ?_;clear hK K;have hml:m≤140737470000000:=by rw[HM.out];exact HL.out
  have hB2:B≤w2.heap.size:=Nat.le_trans HB.out HW2.out.1.size;have HOA:Hid (∀X:Obj,aq (w2.alloc X) B (.slice Av m cv) l):=hid fun X=>HW2.out.2.1.below ((Below.refl _ _).alloc (Nat.le_refl _) _);have hrow: ∀X:Obj,(w2.alloc X).ownsRow B 5 1 (.slice Av m cv) m (aC l):=fun X=>by have h9:=HOA.out X;unfold aq at h9;rw[←HM.out]at h9;exact h9
  refine bu rfl (fun K hK=> ?_);refine dg _ _ _ 23 rfl B 5 i0 (.int .u8 0) 1 1 Tryz.underlying23 hi hz0 hz1 hz2 rfl (by decide) _ m (aC l) rfl (hrow _) ⟨w2.heap.size,0,none⟩ 1 1 [.int .u8 3] rfl rfl (cell_one_new _ _ _) (by simp[Value.oneCell']) (by unfold maxLen;omega) (by omega) (by simp;omega) ?_;intro v4 w4 hv4 hg4 hwh4;have hk5:K8 (w2.alloc (.cells #[.int .u8 3] 5)) w4:=aA (HOA.out _) hg4;refine hK _ _ (.inr hk5) ?_;clear hK K;have HX4:Hid (aq w4 B v4 (l++[3])∧Below B w w4∧K8 w w4):=hid ⟨by unfold aq;rw[List.length_append,←HM.out,show aC (l++[3])=aC l++[.int .u8 3] from by unfold aC;rw[List.map_append];rfl];exact hv4,ax ((HW2.out.1.mono HB.out).alloc hB2 _) (HOA.out _) (by simp;omega) hg4,(HW2.out.2.2.1.alloc _).trans hk5⟩;have HBK4:=hid (gE (w:=w2.alloc (.cells #[.int .u8 3] 5)) ((Below.heap_alloc w2 _ _ HW2.out.2.2.2).trans HBK2.out) hk5);have HC:=hid (fd S PA pc d.path B v4 (l++[3]) w4 HSB.out (HIN.out w4 HX4.out.2.1).2 HPP.out HX4.out.1 (Nat.le_trans HB.out HX4.out.2.1.size) (by have:=HM.out;simp;omega));clear hv4 hg4 hwh4 hrow hk5 hB2;refine bu rfl (fun K hK=> ?_)
  go_simp
  refine HC.out.mono ?_;rintro e w5 ⟨v5,rfl,hv5,hb5,hk5⟩
  go_simp
  refine hK _ _ (.inr hk5) ?_;clear hK K;have HX5:Hid (aq w5 B v5 (l++[3]++cF d.path)∧Below B w w5∧K8 w w5):=hid ⟨hv5,HX4.out.2.1.trans hb5,HX4.out.2.2.trans hk5⟩;have HBK5:=hid (gE HBK4.out hk5);refine gD ?_;simp only[atR];show wpQuiet _ _ _ _ [_] _;try simp only[acR,Act.put]at *
  repeat(go_big_quiet_step (fail))
  refine wpQuiet_nil ?_;refine eJ ?_;have r0:w5.cell? ⟨w.heap.size,0,none⟩=some (.int .i64 3):=Go.Joins.cell_of_block HBK5.out 0;have r1:w5.cell? ⟨w.heap.size,2,none⟩=some (.int .i64 d.val.kind):=Go.Joins.cell_of_block HBK5.out 2;have r2:w5.cell? ⟨w.heap.size,3,none⟩=some (.int .i64 d.val.num):=Go.Joins.cell_of_block HBK5.out 3;have r3:w5.cell? ⟨w.heap.size,4,none⟩=some (.string d.val.text):=Go.Joins.cell_of_block HBK5.out 4;have r4:w5.cell? ⟨w.heap.size,5,none⟩=some (.slice VA d.val.items.length vc):=Go.Joins.cell_of_block HBK5.out 5;have r5:w5.cell? ⟨w.heap.size,6,none⟩=some (.slice VA' d.val.names.length vc'):=Go.Joins.cell_of_block HBK5.out 6;have r6:w5.cell? ⟨w.heap.size,7,none⟩=some (.int .i64 (nn:Int)):=Go.Joins.cell_of_block HBK5.out 7
  have hL5:Hid ((l++[3]++cF d.path).length≤140737480000000):=hid (by
   have h1:=(al d.path.length).1;have h2:=dL HPP.out.2;have h3:=HPP.out.1;have h4:=HL.out;unfold cF;simp only[List.length_append,List.length_cons,List.length_nil]
   omega)
  have HC6:=hid (dY B nn v5 (l++[3]++cF d.path) w5 HX5.out.1 (Nat.le_trans HB.out HX5.out.2.1.size) (by omega) (by have:=hL5.out;omega));go_wp2_with fail;refine HC6.out.mono ?_;rintro e w6 ⟨v6,rfl,hv6,hb6,hk6⟩;have hfin:bg d= [3]++cF d.path++grp nn:=by unfold bg;rw[HKE.out.1,HNN.out];simp
  have HX6:Hid (aq w6 B v6 (l++bg d)∧Below B w w6∧K8 w w6):=hid ⟨by rw[hfin,←List.append_assoc,←List.append_assoc];exact hv6,HX5.out.2.1.trans hb6,HX5.out.2.2.trans hk6⟩;clear hfin hv6 hb6 hk6;go_wp2_with fail;go_ret;exact⟨_,rfl,HX6.out⟩
end Go.Proofs.YtgfidiocmiolpaaGreat
/- A path's code, and a value's, are read back: plain. -/
namespace Go.Proofs.YtgfidiocmiolpaaGreat
theorem ui {s:ByteArray}(r:List UInt8)(h:s.size≤32):bd 32 (some (txt s++r))=(s.data.toList,some r):=dZ (m:=32) r h (by omega)
theorem oM : ∀(p:List ByteArray) (r:List UInt8),(∀s∈p,s.size≤32)→ ∀k,k≤p.length→rdK (some ((p.map txt).flatten++r)) k=(p.take k,some (((p.drop k).map txt).flatten++r))
 |p,r,h,0,_=>by simp[rdK]
 |p,r,h,k+1,hk=>by
  have ih:=oM p r h k (by omega);unfold rdK;rw[ih];have e:p.drop k=p[k]'(by omega)::p.drop (k+1):=List.drop_eq_getElem_cons (by omega)
  have hx:bd 32 (some (((p.drop k).map txt).flatten++r))=((p[k]'(by omega)).data.toList,some (((p.drop (k+1)).map txt).flatten++r)):=by
   rw[e,List.map_cons,List.flatten_cons,List.append_assoc];exact ui _ (h _ (List.getElem_mem (by omega)))
  simp only[hx];rw[List.take_succ_eq_append_getElem (by omega)]
theorem fS {p:List ByteArray}(h:ga p=true)(r:List UInt8):dU (some (cF p++r))=(p,some r):=by
 obtain⟨-,h8,hn⟩:=(og p).1 h;have h32: ∀s∈p,s.size≤32:=fun s hs=>((eM s).1 (hn s hs)).2.1;unfold dU cF;rw[List.append_assoc,show aj 8 (some (grp p.length++((p.map txt).flatten++r)))=(p.length,some ((p.map txt).flatten++r)) from bq (m:=8) _ h8 (by omega)];have:=oM p r h32 p.length (Nat.le_refl _);simp only[this];simp
theorem ig {t:VT}(hc:aX t=0)(hz:aK t≤9223372036854775807)(hr:gI t)(r:List UInt8):jy (some (dz t++r))=(t,some r):=by
 have h1:=(ew hz).1 hc;have he:dz t=de t:=by unfold dz;rw[if_pos hc]
 rw[he,pN,pC ⟨h1.1,h1.2.1,h1.2.2⟩ hr r]
def ck (l:List aR):List UInt8:=if bo l=0 then grp l.length++(l.map bg).flatten else []
theorem kr {d:aR}(h:bS d=true):ix d.path:=vB (iZ h)
theorem nw {d:aR}(h:bS d=true)(hz:aK d.val≤9223372036854775807):(bg d).length≤2100000:=by
 have h1:=pu (kr h);have h3:=eF hz;have h4:=(al d.num.toNat).1;unfold bg;rw[List.length_append,List.length_append]
 split
 ·simp;omega
 split
 ·simp;omega
 ·simp;omega
theorem fj : ∀ {l:List aR},(∀d∈l,bS d=true∧aK d.val≤9223372036854775807)→((l.map bg).flatten).length≤2100000 * l.length
 | [],_=>by simp
 |a::r,h=>by
  have h1:=nw (h a (by simp)).1 (h a (by simp)).2;have h2:=fj (l:=r) fun o ho=>h o (List.mem_cons_of_mem _ ho);simp only[List.map_cons,List.flatten_cons,List.length_append,List.length_cons];omega
theorem dr {l:List aR}(h:bo l=0):l.length≤64∧ ∀d∈l,bS d=true:=by
 unfold bo at h;by_cases h1:64<l.length
 ·rw[if_pos h1]at h;omega
 ·rw[if_neg h1]at h;by_cases h2:l.all bS=true
  ·exact⟨by omega,fun d hd=>List.all_eq_true.1 h2 d hd⟩
  ·rw[if_neg h2]at h;omega
theorem uu {d:aR}(h:bS d=true)(hz:aK d.val≤9223372036854775807)(hr:gI d.val)(r:List UInt8):rdD (some (bg d++r))=(d,some r):=by
 obtain⟨k,p,v,m⟩:=d;unfold bS at h;rw[Bool.and_eq_true]at h;obtain⟨hp,h2⟩:=h
 have hk:1≤k∧k≤3:=by
  simp only at h2
  split at h2
  ·omega
  split at h2
  ·omega
  split at h2
  ·omega
  ·cases h2
 obtain⟨n,rfl⟩: ∃n:Nat,k=(n:Int):=⟨k.toNat,by omega⟩;have hn:n≤3:=by omega
 have hb: ∀x,av (some ([UInt8.ofNat (n:Int).toNat]++x))=(n,some x):=fun x=>by
  show((UInt8.ofNat (n:Int).toNat).toNat,some x)=_;rw[Int.toNat_natCast,UInt8.toNat_ofNat',Nat.mod_eq_of_lt (by omega)]
 unfold rdD bg;simp only at *;have e: ∀y,[UInt8.ofNat (n:Int).toNat]++cF p++y++r= [UInt8.ofNat (n:Int).toNat]++(cF p++(y++r)):=fun y=>by simp
 rw[e,hb];simp only;by_cases k1:n=1
 ·subst k1;rw[if_pos (by omega)]at h2;simp only[Bool.and_eq_true,decide_eq_true_eq]at h2;rw[if_pos rfl,if_pos (by omega),fS hp];simp only;rw[ig h2.1 hz hr,h2.2];rfl
 by_cases k3:n=3
 ·subst k3;rw[if_neg (by omega),if_neg (by omega),if_pos (by omega)]at h2;simp only[Bool.and_eq_true,decide_eq_true_eq]at h2;have hv:=(ej v).1 h2.1;rw[if_neg (by omega),if_pos rfl,if_neg (by omega),if_pos (by omega),fS hp];simp only;rw[show aj 999 (some (grp m.toNat++r))=(m.toNat,some r) from bq (m:=999) _ (by omega) (by omega),hv];simp only;rw[Int.toNat_of_nonneg h2.2.1];rfl
 ·obtain rfl:n=2:=by omega
  rw[if_neg (by omega),if_pos (by omega)]at h2;simp only[Bool.and_eq_true,decide_eq_true_eq]at h2;have hv:=(ej v).1 h2.1;rw[if_neg (by omega),if_neg (by omega),if_neg (by omega),if_neg (by omega),List.nil_append,fS hp,hv,h2.2];rfl
theorem li : ∀(l:List aR) (r:List UInt8),(∀d∈l,bS d=true∧aK d.val≤9223372036854775807∧gI d.val)→ ∀k,k≤l.length→i8 (some ((l.map bg).flatten++r)) k=(l.take k,some (((l.drop k).map bg).flatten++r))
 |l,r,h,0,_=>by simp[i8]
 |l,r,h,k+1,hk=>by
  have ih:=li l r h k (by omega);unfold i8;rw[ih];have e:l.drop k=l[k]'(by omega)::l.drop (k+1):=List.drop_eq_getElem_cons (by omega);obtain⟨h1,h2,h3⟩:=h _ (List.getElem_mem (show k<l.length by omega))
  have hx:rdD (some (((l.drop k).map bg).flatten++r))=(l[k]'(by omega),some (((l.drop (k+1)).map bg).flatten++r)):=by
   rw[e,List.map_cons,List.flatten_cons,List.append_assoc];exact uu h1 h2 h3 _
  simp only[hx];rw[List.take_succ_eq_append_getElem (by omega)]
def fu (l:List aR):Prop:= ∀d∈l,aK d.val≤9223372036854775807
def wk (l:List aR):Prop:= ∀d∈l,gI d.val
theorem sA {l:List aR}(h:bo l=0)(hz:fu l)(hr:wk l)(r:List UInt8):uC (some (ck l++r))=(l,some r):=by
 obtain⟨h64,hm⟩:=dr h
 have hc:aj 64 (some (ck l++r))=(l.length,some ((l.map bg).flatten++r)):=by
  unfold ck;rw[if_pos h,List.append_assoc];exact bq (m:=64) _ h64 (by omega)
 have hk:=li l r (fun o ho=>⟨hm o ho,hz o ho,hr o ho⟩) l.length (Nat.le_refl _)
 have h1:(i8 (aj 64 (some (ck l++r))).2 (aj 64 (some (ck l++r))).1)=(l,some r):=by
  rw[hc];simp only;rw[hk];simp
 rw[rP (r:=r) (by rw[h1]),h1];simp only;rw[if_pos h]
theorem bk.rng {w:Go.World}{S:Nat→Prop}{A:Option Go.Addr}{l:List aR}(h:bk w S A l):wk l:=by
 intro d hmem;obtain⟨i,hi,rfl⟩:=List.getElem_of_mem hmem;obtain⟨b,off,-,-,hc⟩:=h (by omega);obtain⟨cs',-,hop⟩:=hc i hi;obtain⟨PA,pc,VA,vc,VA',vc',-,hlv,-⟩:=hop;exact ni _ _ _ (Nat.le_refl _) hlv
/-! ### what lies at one step -/
def gJ (t:VT)(s:ByteArray):Option VT:=if bF t s<0 then none else t.items[(bF t s).toNat]?
theorem sU (t:VT)(s:ByteArray)(r:List ByteArray):fO t (s::r)=(gJ t s).bind fun u=>fO u r:=by
  conv=>lhs;unfold fO
  unfold gJ
  split
  · rfl
  · cases t.items[(bF t s).toNat]? <;>rfl
def jv :List ByteArray→List VT→ByteArray→Option VT
  |a::r,x::l,s=>if a=s then some x else jv r l s
  |_,_,_=>none
theorem ji (s:ByteArray): ∀(l:List ByteArray) (k:Nat),nmI k l s=if nmI 0 l s<0 then -1 else nmI 0 l s+k
  | [],k=>by unfold nmI;simp
  |a::r,k=>by
    unfold nmI;by_cases h:a=s
    · rw[if_pos h,if_pos h];simp
    · rw[if_neg h,if_neg h]
      have h1:=ji s r (k+1);have h2:=ji s r 1;have h3:=(la (s:=s) (l:=r) (k:=0)).1;rw[h1];show _=if nmI (0+1) r s<0 then(-1:Int)else nmI (0+1) r s+k
      rw[show 0+1=1 from rfl,h2]
      split<;>split<;>omega
theorem gY (s:ByteArray): ∀(ns:List ByteArray) (l:List VT),(if nmI 0 ns s<0 then none else l[(nmI 0 ns s).toNat]?)=jv ns l s
  | [],l=>by unfold nmI jv;simp
  |a::r,l=>by
    by_cases h:a=s
    · have e:nmI 0 (a::r) s=0:=by unfold nmI;rw[if_pos h];rfl
      rw[e]
      cases l with
      |nil=>unfold jv;simp
      |cons x l=>unfold jv;simp[h]
    · have e:nmI 0 (a::r) s=nmI 1 r s:=by conv=>lhs;unfold nmI
                                          rw[if_neg h]
      have e2:=ji s r 1;have ih:=gY s r;rw[e,e2];have h3:=(la (s:=s) (l:=r) (k:=0)).1
      cases l with
      |nil=>
        unfold jv
        split<;>simp
      |cons x l=>
        unfold jv;rw[if_neg h,←ih l];by_cases hn:nmI 0 r s<0
        · rw[if_pos hn,if_pos hn];rfl
        · rw[if_neg hn,if_neg hn,if_neg (by omega)]
          have:(nmI 0 r s+((1:Nat):Int)).toNat=(nmI 0 r s).toNat+1:=by omega
          rw[this,List.getElem?_cons_succ]
theorem uW {t:VT}(h:t.kind=7)(s:ByteArray):gJ t s=jv t.names t.items s:=by
  unfold gJ;rw[ip h];exact gY s t.names t.items
theorem oC (t:VT):ba t=true↔aL t.kind t.num t.text t.items.length t.names=true∧ ∀x∈t.items,ba x=true:=by
  rw[kt,Bool.and_eq_true];refine and_congr_right fun _=>⟨fun h x hx=>cl h hx,fun h=>kW fun j hj=>h _ (List.getElem_mem hj)⟩
structure aU where
 term:Int
 kind:Int
 coll:ByteArray
 to:ByteArray
 id:VT
 doc:VT
 dels:List aR
 session:Int
 number:Int
def aP (k:Int):Bool:=decide (2≤k) && decide (k≤7)
def bW (k:Int):Bool:=decide (k=7)
def bY (k:Int):Bool:=decide (2≤k) && decide (k≤4)
def bt (k:Int):Bool:=decide (k=2)
def aW (k:Int):Bool:=decide (k=3)
def bn (s:ByteArray):Bool:=decide (1≤s.size) && decide (s.size≤32) && s.data.toList.all fun b=>decide (b≠36) && decide (b≠0)
def cH (v id:VT):Bool:=decide (v.kind=7) && decide (aX v=0) && (match gJ v idN with
 |some x=>decide (eA x id=0)
 |none=>false)
def dx (l:List aR):Bool:=decide (bo l=0) && db l && !iV l [idN]
def uw :aU:=⟨0,0,⟨#[]⟩,⟨#[]⟩,jD,jD,[],0,0⟩
def bJ (e:aU):Bool:=
 (decide (1≤e.kind) && decide (e.kind≤7)) && (decide (0≤e.term) && decide (e.term≤1099511627776)) && (decide (0≤e.session) && decide (e.session≤255)) && (decide (0≤e.number) && decide (e.number≤1099511627776)) &&
 (if aP e.kind then bn e.coll else decide (e.coll.size=0)) && (if bW e.kind then bn e.to && decide (e.to≠e.coll)else decide (e.to.size=0)) &&
 (if bY e.kind then decide (aX e.id=0)else bm e.id) && (if bt e.kind then cH e.doc e.id else bm e.doc) && (if aW e.kind then dx e.dels else decide (e.dels.length=0)) &&
 (if e.kind=1 then decide (e.session=0) && decide (e.number=0)else true)
def dV (e:aU):List UInt8:=
 grp e.term.toNat++([UInt8.ofNat e.kind.toNat]++(grp e.session.toNat++(grp e.number.toNat++((if aP e.kind then txt e.coll else [])++((if bW e.kind then txt e.to else [])++((if bY e.kind then dz e.id else [])++
  ((if bt e.kind then dz e.doc else [])++(if aW e.kind then ck e.dels else []))))))))
def bH {α:Type}(b:Bool)(z:α)(f:Option (List UInt8)→α×Option (List UInt8))(st:Option (List UInt8)):α×Option (List UInt8):=if b then f st else(z,st)
def gp (n:Int)(st:Option (List UInt8)):ByteArray×Option (List UInt8):=(⟨(bd n st).1.toArray⟩,(bd n st).2)
def tO (st:Option (List UInt8)):aU×Option (List UInt8):=
 let a:=aj 1099511627776 st;let k:=av a.2;let s:=aj 255 k.2;let n:=aj 1099511627776 s.2;let c:=bH (aP k.1) ⟨#[]⟩ (gp 32) n.2;let t:=bH (bW k.1) ⟨#[]⟩ (gp 32) c.2;let i:=bH (bY k.1) jD jy t.2;let d:=bH (bt k.1) jD jy i.2;let l:=bH (aW k.1) [] uC d.2
 (⟨a.1,k.1,c.1,t.1,i.1,d.1,l.1,s.1,n.1⟩,l.2)
def rdE (st:Option (List UInt8)):aU×Option (List UInt8):=match(tO st).2 with
 |none=>(uw,none)
 |some r=>if bJ (tO st).1=true then((tO st).1,some r)else(uw,none)
structure xi (e:aU):Prop where
 k1:1≤e.kind
 k7:e.kind≤7
 t0:0≤e.term
 t1:e.term≤1099511627776
 s0:0≤e.session
 s1:e.session≤255
 n0:0≤e.number
 n1:e.number≤1099511627776
 coll:if aP e.kind=true then bn e.coll=true else e.coll.size=0
 to:if bW e.kind=true then bn e.to=true∧e.to≠e.coll else e.to.size=0
 id:if bY e.kind=true then aX e.id=0 else bm e.id=true
 doc:if bt e.kind=true then cH e.doc e.id=true else bm e.doc=true
 dels:if aW e.kind=true then dx e.dels=true else e.dels.length=0
 noop:e.kind=1→e.session=0∧e.number=0
theorem tN {c:Bool}{a b:Bool}:(if c=true then a else b)=true↔if c=true then a=true else b=true:=by cases c<;>simp
theorem gf (e:aU):bJ e=true↔xi e:=by
 unfold bJ;simp only[Bool.and_eq_true,decide_eq_true_eq,tN];constructor
 ·rintro⟨⟨⟨⟨⟨⟨⟨⟨⟨⟨a,b⟩,c,d⟩,f,g⟩,h,i⟩,j⟩,k⟩,l⟩,m⟩,n⟩,o⟩;refine⟨a,b,c,d,f,g,h,i,j,k,l,m,n,fun hk=> ?_⟩;rw[if_pos hk]at o;simpa using o
 ·intro h;refine⟨⟨⟨⟨⟨⟨⟨⟨⟨⟨h.k1,h.k7⟩,h.t0,h.t1⟩,h.s0,h.s1⟩,h.n0,h.n1⟩,h.coll⟩,h.to⟩,h.id⟩,h.doc⟩,h.dels⟩,?_⟩;by_cases hk:e.kind=1
  ·rw[if_pos hk];simpa using h.noop hk
  ·rw[if_neg hk]
theorem mB {s:ByteArray}(h:s.size=0):s=⟨#[]⟩:=by
 cases s with
 |mk a=>rw[show a= #[] from Array.eq_empty_of_size_eq_zero h]
theorem eN {s:ByteArray}(h:bn s=true):1≤s.size∧s.size≤32:=by
 unfold bn at h;simp only[Bool.and_eq_true,decide_eq_true_eq]at h;exact h.1
theorem dB {α:Type}{b:Bool}{z x:α}{f:Option (List UInt8)→α×Option (List UInt8)}{c r:List UInt8}(h1:b=true→f (some (c++r))=(x,some r))(h0:b=false→x=z):bH b z f (some ((if b=true then c else [])++r))=(x,some r):=by
 unfold bH
 cases b with
 |true=>exact h1 rfl
 |false=>rw[h0 rfl];rfl
theorem kg {s:ByteArray}(h:s.size≤32)(r:List UInt8):gp 32 (some (txt s++r))=(s,some r):=by
 unfold gp;rw[show bd 32 (some (txt s++r))=(s.data.toList,some r) from dZ (m:=32) r h (by omega)]
structure gP (e:aU):Prop where
 id:aK e.id≤9223372036854775807∧gI e.id
 doc:aK e.doc≤9223372036854775807∧gI e.doc
 dels:fu e.dels∧wk e.dels
theorem uD {e:aU}(h:bJ e=true)(hf:gP e)(r:List UInt8):rdE (some (dV e++r))=(e,some r):=by
 have m:=(gf e).1 h
 have e1:tO (some (dV e++r))=(e,some r):=by
  obtain⟨T,K,C,O,I,D,L,S,N⟩:=e;obtain⟨T,rfl⟩: ∃n:Nat,T=(n:Int):=⟨T.toNat,by have:=m.t0;simp only at this;omega⟩;obtain⟨K,rfl⟩: ∃n:Nat,K=(n:Int):=⟨K.toNat,by have:=m.k1;simp only at this;omega⟩;obtain⟨S,rfl⟩: ∃n:Nat,S=(n:Int):=⟨S.toNat,by have:=m.s0;simp only at this;omega⟩;obtain⟨N,rfl⟩: ∃n:Nat,N=(n:Int):=⟨N.toNat,by have:=m.n0;simp only at this;omega⟩;obtain⟨k1,k7,t0,t1,s0,s1,n0,n1,mc,mt,mi,md,ml,-⟩:=m;simp only at k1 k7 t0 t1 s0 s1 n0 n1 mc mt mi md ml
  have hb: ∀x,av (some ([UInt8.ofNat ((K:Int).toNat)]++x))=(K,some x):=fun x=>by
   show((UInt8.ofNat (K:Int).toNat).toNat,some x)=_;rw[Int.toNat_natCast,UInt8.toNat_ofNat',Nat.mod_eq_of_lt (by omega)]
  have h1: ∀x,aj 1099511627776 (some (grp T++x))=(T,some x):=fun x=>bq (m:=1099511627776) x (by omega) (by omega);have h2: ∀x,aj 255 (some (grp S++x))=(S,some x):=fun x=>bq (m:=255) x (by omega) (by omega);have h3: ∀x,aj 1099511627776 (some (grp N++x))=(N,some x):=fun x=>bq (m:=1099511627776) x (by omega) (by omega)
  have h4: ∀x,bH (aP (K:Int)) ⟨#[]⟩ (gp 32) (some ((if aP (K:Int)=true then txt C else [])++x))=(C,some x):=fun x=>dB (fun hk=>by
   rw[if_pos hk]at mc;exact kg (eN mc).2 x) (fun hk=>by rw[hk,if_neg (by decide)]at mc;exact mB mc)
  have h5: ∀x,bH (bW (K:Int)) ⟨#[]⟩ (gp 32) (some ((if bW (K:Int)=true then txt O else [])++x))=(O,some x):=fun x=>dB (fun hk=>by
   rw[if_pos hk]at mt;exact kg (eN mt.1).2 x) (fun hk=>by rw[hk,if_neg (by decide)]at mt;exact mB mt)
  have h6: ∀x,bH (bY (K:Int)) jD jy (some ((if bY (K:Int)=true then dz I else [])++x))=(I,some x):=fun x=>dB (fun hk=>by
   rw[if_pos hk]at mi;exact ig mi hf.id.1 hf.id.2 x) (fun hk=>by rw[hk,if_neg (by decide)]at mi;exact(ej I).1 mi)
  have h7: ∀x,bH (bt (K:Int)) jD jy (some ((if bt (K:Int)=true then dz D else [])++x))=(D,some x):=fun x=>dB (fun hk=>by
   rw[if_pos hk]at md;unfold cH at md;simp only[Bool.and_eq_true,decide_eq_true_eq]at md
   exact ig md.1.2 hf.doc.1 hf.doc.2 x) (fun hk=>by rw[hk,if_neg (by decide)]at md;exact(ej D).1 md)
  have h8: ∀x,bH (aW (K:Int)) [] uC (some ((if aW (K:Int)=true then ck L else [])++x))=(L,some x):=fun x=>dB (fun hk=>by
   rw[if_pos hk]at ml;unfold dx at ml;simp only[Bool.and_eq_true,decide_eq_true_eq]at ml
   exact sA ml.1.1 hf.dels.1 hf.dels.2 x) (fun hk=>by rw[hk,if_neg (by decide)]at ml;exact List.eq_nil_of_length_eq_zero ml)
  unfold tO dV;simp only[List.append_assoc,Int.toNat_natCast]at hb ⊢;rw[h1];dsimp only;rw[hb];dsimp only;rw[h2];dsimp only;rw[h3];dsimp only;rw[h4];dsimp only;rw[h5];dsimp only;rw[h6];dsimp only;rw[h7];dsimp only;rw[h8]
 unfold rdE;rw[e1];dsimp only;rw[if_pos h]
end Go.Proofs.YtgfidiocmiolpaaGreat
