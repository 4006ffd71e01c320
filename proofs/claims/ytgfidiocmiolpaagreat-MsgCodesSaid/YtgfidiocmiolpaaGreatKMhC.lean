/- What the laws of layer 22 have in common. -/
import Derived.Test.YtgfidiocmiolpaaGreatKMgG
import Derived.Test.YtgfidiocmiolpaaGreatKEnQ
import Derived.Test.YtgfidiocmiolpaaGreatKMgV
import Derived.Test.YtgfidiocmiolpaaGreatKLook
import Derived.Test.YtgfidiocmiolpaaGreatKRefM
import Derived.Test.YtgfidiocmiolpaaGreatKEnM
import Derived.Deep.Slices
import Derived.SizedLaws
import Derived.ProofKit
import Derived.OpenShut
import Derived.ChangeOld
set_option maxHeartbeats 64000000
set_option maxRecDepth 100000
set_option linter.unusedVariables false
set_option linter.unusedSimpArgs false
namespace Go.Proofs.YtgfidiocmiolpaaGreat
open Go.RowKit
theorem fine_msg {w:World}{S:Nat→Prop}{m:bw}{EA:Option Addr}{ec:Nat}{SA:Option Addr}{sc:Nat}(h:bI w S m EA ec SA sc)(hd: ∀e∈m.ents,SmE e)(hm:cC m=true): ∀e∈m.ents,nz e:=fun e he=>by
 have hme:=(eY hm).may e he;have hde:=hd e he;obtain⟨i,hi,rfl⟩:=List.getElem_of_mem he;obtain⟨b,off,cs,-,-,-,-,hx⟩:=dm.at h.ents i hi;exact xI hx hde hme
theorem bV.later {w:World}{g:Nat}{m:bw}{EA:Option Addr}{ec:Nat}{SA:Option Addr}{sc:Nat}(h:bV w g m EA ec SA sc): ∀u,CR w.heap.size w u→u.heap[g]? =some (.cells #[.int .i64 m.kind,.int .i64 m.frm,.int .i64 m.tgt,.int .i64 m.term,.int .i64 m.index,.int .i64 m.logTerm,.int .i64 m.commit,.int .i64 m.round,.bool m.ok,.slice EA m.ents.length ec,.slice SA m.snap.length sc] 25 (0,0)):=fun u ⟨p,hp⟩=>by
 rw[hp];exact(p.h.block g h.lt).trans h
theorem encM_may {m:bw}(hm:cC m=true):lB m=eA m∧j0 m=0:=⟨by unfold lB;rw[if_pos hm],by unfold j0;rw[if_pos hm]⟩
theorem encM_not {m:bw}(hm:cC m=false):lB m= []∧j0 m=1:=⟨by unfold lB;rw[hm];rfl,by unfold j0;rw[hm];rfl⟩
theorem dec_codeM {m:bw}(hm:cC m=true)(hf: ∀e∈m.ents,nz e):iv (eA m)=m∧iu (eA m)=0:=by
 have h:=xV hm hf [];rw[List.append_nil]at h;have h1:=tK (l:=eA m) (by rw[h];rfl) (by rw[h];exact hm);rw[h]at h1;exact h1
end Go.Proofs.YtgfidiocmiolpaaGreat
/- The code of a message, by the document. (Written by mkmgy.py.) -/
namespace Go.Proofs.YtgfidiocmiolpaaGreat
open Lib (hid)
open Go.RowKit Go.Joins
theorem k8_at {w w':World}(h:K8 w w'){g:Nat}{cs:Array Value}{t:TypeId}(hg:w.heap[g]? =some (.cells cs t (0,0)))(ht:t≠5):w'.heap[g]? =some (.cells cs t (0,0)):=
 h g _ hg (fun h=>by cases h) (fun c fz h=>by injection h with _ h;exact absurd h ht)
structure CSt (w0 w1 w:World)(v:Value)(l:List UInt8):Prop where
 own:ao w w0.heap.size v l
 b:Below w0.heap.size w0 w
 k:K8 w1 w
section
variable {w0 w1 w w':World} {v v':Value} {l l':List UInt8}
theorem CSt.call (h:CSt w0 w1 w v l)(hb:Below w.heap.size w w'):CSt w0 w1 w' v l:=⟨h.own.below hb,h.b.trans (hb.mono h.b.size),h.k.trans (ax hb)⟩
theorem CSt.app (h:CSt w0 w1 w v l)(hv:ao w' w0.heap.size v' l')(hg:w.grownBy w' v.ownBlock):CSt w0 w1 w' v' l':=⟨hv,aq h.b h.own h.b.size hg,h.k.trans (au h.own hg)⟩
theorem CSt.now (h:CSt w0 w1 w v l):CSt w0 w w v l:=⟨h.own,h.b,Lib.OthersKept.refl _ _ _⟩
theorem ownR3 {B:Nat}(w:World)(x y z:Int)(a b c:UInt8)(hx:x=(a.toNat:Int))(hy:y=(b.toNat:Int))(hz:z=(c.toNat:Int))(hB:B≤w.heap.size):
  ao (w.alloc (.cells #[.int .u8 x,.int .u8 y,.int .u8 z] 5)) B (.slice (some ⟨w.heap.size,0,none⟩) 3 3) [a,b,c]:=by
 subst hx hy hz;exact⟨rfl,.inr ⟨w.heap.size,3,_,rfl,hB,heap_alloc_new _ _,Nat.le_refl _,by unfold maxLen;omega,rfl,rfl⟩⟩
end
def hasJ (k:Int)(j:Nat):Bool:=if j=0 then bf k else if j=1 then dg k else if j=2 then aU k else bl k
theorem hasJ_bits (k:Int)(j:Nat)(hj:j<4):cO (aW k) ((2 ^ j:Nat):Int)=hasJ k j:=by
 obtain rfl|rfl|rfl|rfl:j=0∨j=1∨j=2∨j=3:=by omega
 ·exact kO k
 ·exact pA k
 ·exact jJ k
 ·exact kJ k
theorem r22code_any (S:Nat→Prop)(m:bw)(EA:Option Addr)(ec:Nat)(SA:Option Addr)(sc:Nat)(w:World)(hS: ∀b,S b→b<w.heap.size)(h:bI w S m EA ec SA sc)(hd: ∀e∈m.ents,SmE e)(hm:cC m=true):
  Calls Tryz.prog 15 #[.agg #[.int .i64 m.kind,.int .i64 m.frm,.int .i64 m.tgt,.int .i64 m.term,.int .i64 m.index,.int .i64 m.logTerm,.int .i64 m.commit,.int .i64 m.round,.bool m.ok,.slice EA m.ents.length ec,.slice SA m.snap.length sc]] w (gw (eA m) w):=by
 obtain⟨w1,hw1⟩: ∃W,W=w.alloc (.cells #[.int .i64 m.kind,.int .i64 m.frm,.int .i64 m.tgt,.int .i64 m.term,.int .i64 m.index,.int .i64 m.logTerm,.int .i64 m.commit,.int .i64 m.round,.bool m.ok,.slice EA m.ents.length ec,.slice SA m.snap.length sc] 25):=⟨_,rfl⟩;have hb1:Below w.heap.size w w1:=by rw[hw1];exact ac _
 have HB1:=hid hb1;have HK1:Hid (bV w1 w.heap.size m EA ec SA sc):=hid (by rw[hw1];exact heap_alloc_new w _);have HA:=hid h;have HS:=hid hS;have HD:=hid hd;have HF:=hid (eY hm)
 have HSN:Hid (bx m.kind=true→0<m.snap.length):=hid (fun hk=>by
  unfold cC i6 at hm;simp only[Bool.and_eq_true,decide_eq_true_eq,Bool.or_eq_true,Bool.not_eq_true']at hm;rcases hm.2.1.2 with h|h
  ·rw[h]at hk;cases hk
  ·exact h)
 have HOO:=hid (And.intro (pD m.kind) (kz m.kind));have HEF:=hid (kA m.ents (eY hm).may hd);obtain⟨T,HT⟩: ∃T:Nat,Hid (m.term=(T:Int)):=⟨m.term.toNat,hid (by have:=HF.out.e;omega)⟩;have HTB:Hid (T≤1099511627776):=hid (by have:=HF.out.e;have:=HT.out;omega);obtain⟨kb,hkb⟩: ∃kb:UInt8,m.kind % 256=(kb.toNat:Int)∧kb=UInt8.ofNat m.kind.toNat:=⟨_,by rw[br _ (by have:=HF.out.k;omega)];have:=HF.out.k;omega,rfl⟩;obtain⟨fb,hfb⟩: ∃fb:UInt8,m.frm % 256=(fb.toNat:Int)∧fb=UInt8.ofNat m.frm.toNat:=⟨_,by rw[br _ (by have:=HF.out.f;omega)];have:=HF.out.f;omega,rfl⟩;obtain⟨tb,htb⟩: ∃tb:UInt8,m.tgt % 256=(tb.toNat:Int)∧tb=UInt8.ofNat m.tgt.toNat:=⟨_,by rw[br _ (by have:=HF.out.t;omega)];have:=HF.out.t;omega,rfl⟩;have HKB:=hid (And.intro hkb (And.intro hfb htb));clear hb1 h hS hd hm hkb hfb htb;go_enter Tryz.func15,Tryz.ntmps15;go_wp2_with fail;rw[←hw1];clear hw1;refine(mX m.kind w1).mono ?_;rintro q w2 ⟨rfl,hb⟩;have HB2:=hid (HB1.out.trans (hb.mono HB1.out.size));have HK2:=hid (HK1.out.below hb);clear hb HB1 HK1;obtain⟨w3,hw3⟩: ∃W,W=w2.alloc (.cells #[.bool (bf m.kind),.bool (dg m.kind),.bool (aU m.kind),.bool (bl m.kind),.bool (hOk m.kind),.bool (bm m.kind),.bool (bx m.kind)] 51):=⟨_,rfl⟩;have hb3:Below w2.heap.size w2 w3:=by rw[hw3];exact ac _
 obtain⟨g,hg⟩: ∃g,g=w2.heap.size:=⟨_,rfl⟩;obtain⟨wd,hwd⟩: ∃W,W=w3.drew:=⟨_,rfl⟩
 have HBD:Hid (Below w.heap.size w wd∧bV wd w.heap.size m EA ec SA sc∧wd.heap[g]? =some (.cells #[.bool (bf m.kind),.bool (dg m.kind),.bool (aU m.kind),.bool (bl m.kind),.bool (hOk m.kind),.bool (bm m.kind),.bool (bx m.kind)] 51 (0,0))):=hid (by
  rw[hwd]
  exact⟨(HB2.out.trans (hb3.mono HB2.out.size)).drew,HK2.out.below hb3.drew,by rw[hg];show w3.heap[w2.heap.size]? =_;rw[hw3];exact heap_alloc_new w2 _⟩)
 have x0:=bA (w:=wd) (g:=w.heap.size) (i:=0) HBD.out.2.1 (by decide) rfl;have x1:=bA (w:=wd) (g:=w.heap.size) (i:=1) HBD.out.2.1 (by decide) rfl;have x2:=bA (w:=wd) (g:=w.heap.size) (i:=2) HBD.out.2.1 (by decide) rfl;have x3:=bA (w:=wd) (g:=w.heap.size) (i:=3) HBD.out.2.1 (by decide) rfl;rw[HT.out]at x3;have HWD:=hid hwd;clear HB2 HK2 hb3 hwd;go_wp2_with fail;rw[←hw3];try rw[←hg]
 clear hw3 hg;refine bj K8 (fun w=>Lib.OthersKept.refl _ _ _) (fun a b c h k=>h.trans k) [] (.pure [0,1,2,3,4,5,6,7,8,10,11] (.fork 9 (.step 12 (.step 13 (.free [14] (.tail [])))) 12 (.step 9 (.step 13 (.free [14] (.tail [])))))) (by kernel_rfl) (by kernel_rfl) (fun _ d _ _ _ h=>by cases d<;>exact h) ?_;rw[←HWD.out];refine cW ?_;simp only[atR];show wpQuiet _ _ _ _ [_,_,_,_,_,_,_,_,_,_,_] _;repeat(go_big_quiet_step (fail))
 first|with_reducible refine wpQuiet_nil ?_ |refine wpQuiet_nil ?_
 clear x0 x1 x2 x3 HWD;refine gp rfl rfl (fun K hK=> ?_) (fun K hK=> ?_)
 focus
  go_simp
  refine hK _ _ (.inr ((Lib.OthersKept.refl _ _ _).alloc _)) ?_;clear hK K;obtain⟨wA,hwA⟩: ∃W,W=wd.alloc (.cells #[.int .u8 (m.kind % 256),.int .u8 (m.frm % 256),.int .u8 (m.tgt % 256)] 5):=⟨_,rfl⟩
  have HC:Hid (CSt w wd wA (.slice (some ⟨wd.heap.size,0,none⟩) 3 3) [kb,fb,tb]):=hid (by
   rw[hwA]
   exact⟨ownR3 _ _ _ _ _ _ _ HKB.out.1.1 HKB.out.2.1.1 HKB.out.2.2.1 HBD.out.1.size,HBD.out.1.alloc HBD.out.1.size _,(Lib.OthersKept.refl _ _ _).alloc _⟩)
  rw[←hwA];clear hwA;try simp only[acR,Act.put]
  refine aZ rfl (fun K hK=> ?_)
  go_simp
  refine(bH T wA (by have:=HTB.out;omega)).mono ?_;rintro q w5 ⟨x,rfl,hx,hb⟩
  go_simp
  refine hK _ _ (.inr (ax hb)) ?_;clear hK K;have HX3:Hid (CSt w wd w5 (.slice (some ⟨wd.heap.size,0,none⟩) 3 3) [kb,fb,tb]∧Rd w5 w5.heap.size x (grp T)):=hid ⟨HC.out.call hb,hx.rd⟩;clear hx hb HC;try simp only[acR,Act.put]
  refine dt rfl rfl (fun K hK=> ?_);refine aE _ _ rfl w.heap.size _ [kb,fb,tb] rfl HX3.out.1.own w5.heap.size _ (grp T) rfl HX3.out.2 (ak T).2 HX3.out.1.b.size (by have:=(ak T).1;simp;omega) (fun v4 w4 hv4 hg4=> ?_);refine hK _ _ (.inr (au HX3.out.1.own hg4)) ?_;clear hK K;have HX4:Hid (CSt w wd w4 v4 ([kb,fb,tb]++grp T)):=hid (HX3.out.1.app hv4 hg4);clear hv4 hg4 HX3;try simp only[acR,Act.put]
  refine cU ?_;simp only[atR];show wpQuiet _ _ _ _ [_] _;repeat(go_big_quiet_step (fail))
  refine wpQuiet_nil ?_;refine cE ?_
 rotate_left
 focus
  go_simp
  refine(bH T wd (by have:=HTB.out;omega)).mono ?_;rintro q wB ⟨x,rfl,hx,hb⟩
  go_simp
  refine hK _ _ (.inr (ax hb)) ?_;clear hK K;have HC:Hid (Below w.heap.size w wB∧Rd wB wB.heap.size x (grp T)∧K8 wd wB):=hid ⟨HBD.out.1.trans (hb.mono HBD.out.1.size),hx.rd,ax hb⟩;clear hx hb;try simp only[acR,Act.put]
  refine aZ rfl (fun K hK=> ?_)
  go_simp
  refine hK _ _ (.inr ((Lib.OthersKept.refl _ _ _).alloc _)) ?_;clear hK K;obtain⟨w5,hw5⟩: ∃W,W=wB.alloc (.cells #[.int .u8 (m.kind % 256),.int .u8 (m.frm % 256),.int .u8 (m.tgt % 256)] 5):=⟨_,rfl⟩
  have HX3:Hid (CSt w wd w5 (.slice (some ⟨wB.heap.size,0,none⟩) 3 3) [kb,fb,tb]∧Rd w5 w5.heap.size x (grp T)):=hid (by
   rw[hw5]
   exact⟨⟨ownR3 _ _ _ _ _ _ _ HKB.out.1.1 HKB.out.2.1.1 HKB.out.2.2.1 HC.out.1.size,HC.out.1.alloc HC.out.1.size _,HC.out.2.2.trans ((Lib.OthersKept.refl _ _ _).alloc _)⟩,(HC.out.2.1.keep (ac _)).upE (by simp)⟩)
  rw[←hw5];clear hw5 HC;try simp only[acR,Act.put]
  refine dt rfl rfl (fun K hK=> ?_);refine aE _ _ rfl w.heap.size _ [kb,fb,tb] rfl HX3.out.1.own w5.heap.size _ (grp T) rfl HX3.out.2 (ak T).2 HX3.out.1.b.size (by have:=(ak T).1;simp;omega) (fun v4 w4 hv4 hg4=> ?_);refine hK _ _ (.inr (au HX3.out.1.own hg4)) ?_;clear hK K;have HX4:Hid (CSt w wd w4 v4 ([kb,fb,tb]++grp T)):=hid (HX3.out.1.app hv4 hg4);clear hv4 hg4 HX3;try simp only[acR,Act.put]
  refine cU ?_;simp only[atR];show wpQuiet _ _ _ _ [_] _;repeat(go_big_quiet_step (fail))
  refine wpQuiet_nil ?_;refine cE ?_
 rotate_left
 all_goals
  have hq: ∀i v,(#[.int .i64 m.kind,.int .i64 m.frm,.int .i64 m.tgt,.int .i64 m.term,.int .i64 m.index,.int .i64 m.logTerm,.int .i64 m.commit,.int .i64 m.round,.bool m.ok,.slice EA m.ents.length ec,.slice SA m.snap.length sc]:Array Value)[i]? =some v→w4.cell? ⟨w.heap.size,i,none⟩=some v:=fun i v hv=>(cell_of_block (k8_at HX4.out.k HBD.out.2.1 (by decide)) i).trans hv;have hr: ∀i v,(#[.bool (bf m.kind),.bool (dg m.kind),.bool (aU m.kind),.bool (bl m.kind),.bool (hOk m.kind),.bool (bm m.kind),.bool (bx m.kind)]:Array Value)[i]? =some v→w4.cell? ⟨g,i,none⟩=some v:=fun i v hv=>(cell_of_block (k8_at HX4.out.k HBD.out.2.2 (by decide)) i).trans hv;have y4:=hq 4 _ rfl;have y5:=hq 5 _ rfl;have y6:=hq 6 _ rfl;have y7:=hq 7 _ rfl;have W5: ∀i v,i<7→(#[.bool (bf m.kind),.bool (dg m.kind),.bool (aU m.kind),.bool (bl m.kind),.bool (hOk m.kind),.bool (bm m.kind),.bool (bx m.kind)]:Array Value)[i]? =some v→(w4.alloc (.cells #[.int .i64 m.index,.int .i64 m.logTerm,.int .i64 m.commit,.int .i64 m.round] 3)).cell? ⟨g,i,none⟩=some v:=fun i v _ hv=>(cell_of_block (k8_at (HX4.out.k.trans ((Lib.OthersKept.refl _ _ _).alloc _)) HBD.out.2.2 (by decide)) i).trans hv;have z0:=W5 0 _ (by decide) rfl;have z1:=W5 1 _ (by decide) rfl;have z2:=W5 2 _ (by decide) rfl;have z3:=W5 3 _ (by decide) rfl;obtain⟨w6,hw6⟩: ∃W,W=(w4.alloc (.cells #[.int .i64 m.index,.int .i64 m.logTerm,.int .i64 m.commit,.int .i64 m.round] 3)).alloc (.cells #[.bool (bf m.kind),.bool (dg m.kind),.bool (aU m.kind),.bool (bl m.kind)] 4):=⟨_,rfl⟩
  obtain⟨p,hp⟩: ∃p,p=w4.heap.size:=⟨_,rfl⟩;have hzz:(w4.alloc (.cells #[.int .i64 m.index,.int .i64 m.logTerm,.int .i64 m.commit,.int .i64 m.round] 3)).heap.size=p+1:=by rw[hp];simp
  have HX6:Hid (CSt w wd w6 v4 ([kb,fb,tb]++grp T)):=hid (by rw[hw6];exact(HX4.out.call (ac _)).call (ac _))
  have HR6:Hid (w6.heap[p]? =some (.cells #[.int .i64 m.index,.int .i64 m.logTerm,.int .i64 m.commit,.int .i64 m.round] 3 (0,0))∧w6.heap[p+1]? =some (.cells #[.bool (bf m.kind),.bool (dg m.kind),.bool (aU m.kind),.bool (bl m.kind)] 4 (0,0))∧w6.heap[g]? =some (.cells #[.bool (bf m.kind),.bool (dg m.kind),.bool (aU m.kind),.bool (bl m.kind),.bool (hOk m.kind),.bool (bm m.kind),.bool (bx m.kind)] 51 (0,0))∧bV w6 w.heap.size m EA ec SA sc):=hid ⟨by
   rw[hw6,Below.heap_alloc _ _ _ (by omega),hp];exact heap_alloc_new _ _,by rw[hw6,←hzz];exact heap_alloc_new _ _,k8_at HX6.out.k HBD.out.2.2 (by decide),k8_at HX6.out.k HBD.out.2.1 (by decide)⟩
  clear hq hr W5;go_wp2_with fail;rw[←hw6];try rw[←hp]
  clear y4 y5 y6 y7 z0 z1 z2 z3 hw6 hp hzz HX4;have HX:Hid (CSt w w6 w6 v4 ([kb,fb,tb]++grp T++cR (aW m.kind) m 0)):=hid (by rw[mF,List.append_nil];exact HX6.out.now);clear HX6 HBD
  go_loopw [5,8] (fun v i wr=> ∃j:Nat,i= .int .i64 j∧j≤4∧Hid (CSt w w6 wr v ([kb,fb,tb]++grp T++cR (aW m.kind) m j))) (fun _ i _=>4 - (intOf i).toNat)
  case atStart=>exact⟨0,rfl,by omega,HX⟩
  case round=>
   clear HX;obtain⟨j,rfl,hj,HI⟩:=hrel;by_cases hlt:j<4
   ·have HJ:=hid hlt;have hn4:=HF.out.n j hlt;obtain⟨b,hb⟩: ∃b,b=hasJ m.kind j:=⟨_,rfl⟩;obtain⟨n,hn⟩: ∃n:Nat,n=(eM m j).toNat:=⟨_,rfl⟩
    have q0:wr.cell? ⟨p+1,j,none⟩=some (.bool b):=(cell_of_block (k8_at HI.out.k HR6.out.2.1 (by decide)) j).trans (by
     rw[hb];obtain rfl|rfl|rfl|rfl:j=0∨j=1∨j=2∨j=3:=by omega
     all_goals rfl)
    have q1:wr.cell? ⟨p,j,none⟩=some (.int .i64 (n:Int)):=(cell_of_block (k8_at HI.out.k HR6.out.1 (by decide)) j).trans (by
     have e:(n:Int)=eM m j:=by omega
     rw[e];obtain rfl|rfl|rfl|rfl:j=0∨j=1∨j=2∨j=3:=by omega
     all_goals rfl)
    have d1:decide ((j:Int)<4)=true:=decide_eq_true (by omega);have HBB:Hid (cO (aW m.kind) ((2 ^ j:Nat):Int)=b):=hid (by rw[hasJ_bits _ _ hlt,hb]);have HNB:Hid (n≤4611686018427387904∧n=(eM m j).toNat):=hid ⟨by omega,hn⟩;have HEL:=hid (jt (aW m.kind) m j);clear hb hn hn4
    cases b with
    |false=>
     have HI2:Hid (CSt w w6 wr u5 ([kb,fb,tb]++grp T++cR (aW m.kind) m (j+1))):=hid (by rw[qx _ _ _ hlt HBB.out];exact HI.out);clear HI HBB HNB q1;go_wp2_with fail
     go_roundw
     case rel=>exact⟨j+1,by go_num,by have:=HJ.out;omega,HI2⟩
     case measure=>have:=HJ.out;simp[intOf];omega
    |true=>
     have HEY:=hid (oo (aW m.kind) m j hlt HBB.out);have HC:=hid (bH n wr (by have:=HNB.out.1;omega));go_wp2_with fail;refine HC.out.mono ?_;rintro e w7 ⟨x,rfl,hx,hb⟩;have HI7:=hid (HI.out.call hb);have HRX:=hid hx.rd;clear hx hb HC q0 q1;go_wp2_with(at_builtin;go_must (refine af rfl _ _ rfl w.heap.size _ ([kb,fb,tb]++grp T++cR (aW m.kind) m j) rfl HI7.out.own w7.heap.size x (grp n) rfl HRX.out HI7.out.b.size (by have:=HEL.out;have:=(ak T).1;have:=(ak n).1;simp;omega) ?_));intro v8 w8 hv hg;have HI8:Hid (CSt w w6 w8 v8 ([kb,fb,tb]++grp T++cR (aW m.kind) m (j+1))):=hid (HI7.out.app (by rw[HEY.out,←HNB.out.2];simpa[List.append_assoc]using hv) hg);clear hv hg;go_wp2_with fail
     go_roundw
     case rel=>exact⟨j+1,by go_num,by have:=HJ.out;omega,HI8⟩
     case measure=>have:=HJ.out;simp[intOf];omega
   ·obtain rfl:j=4:=by omega
    clear hj hlt;obtain⟨pre,hpre⟩: ∃pre,pre= [kb,fb,tb]++grp T++cR (aW m.kind) m 4:=⟨_,rfl⟩;rw[←hpre]at HI
    have hcm:eA m=pre++((if hOk m.kind then [if m.ok then 1 else 0]else [])++((if bm m.kind then go m.ents else [])++(if bx m.kind then txt ⟨m.snap.toArray⟩else []))):=by
     unfold eA;rw[hpre,HKB.out.1.2,HKB.out.2.1.2,HKB.out.2.2.2,HT.out];rfl
    have hpl:pre.length≤100:=by rw[hpre,List.length_append,List.length_append];have:=(ak T).1;have:=jt (aW m.kind) m 4;show 3+_+_≤_;omega
    have HPL:=hid hpl;have HH:Hid (∀W,K8 w6 W→W.heap[g]? =some (.cells #[.bool (bf m.kind),.bool (dg m.kind),.bool (aU m.kind),.bool (bl m.kind),.bool (hOk m.kind),.bool (bm m.kind),.bool (bx m.kind)] 51 (0,0))∧bV W w.heap.size m EA ec SA sc):=hid fun W hW=>⟨k8_at hW HR6.out.2.2.1 (by decide),k8_at hW HR6.out.2.2.2 (by decide)⟩;obtain⟨b1,hb1⟩: ∃b,b=hOk m.kind:=⟨_,rfl⟩;obtain⟨b2,hb2⟩: ∃b,b=bm m.kind:=⟨_,rfl⟩;obtain⟨b3,hb3⟩: ∃b,b=bx m.kind:=⟨_,rfl⟩;rw[←hb1]at HOO hcm HH;rw[←hb2]at HOO hcm HH;rw[←hb3]at HOO hcm HH HSN;have HCM:=hid hcm;clear hb1 hb2 hb3 hcm hpre hpl HR6;have u4:wr.cell? ⟨g,4,none⟩=some (.bool b1):=cell_of_block (HH.out _ HI.out.k).1 4
    cases b1 with
    |true=>
     obtain rfl:b2=false:=(HOO.out.1 rfl).1;obtain rfl:b3=false:=(HOO.out.1 rfl).2;have u8:=(HH.out _ HI.out.k).2.g8;obtain⟨ob,hob⟩: ∃ob,ob=m.ok:=⟨_,rfl⟩;rw[←hob]at u8 HCM;obtain⟨A0,c0,rfl⟩: ∃A c,u5= .slice A pre.length c:=HI.out.own.slice;clear hob
     cases ob with
     |false=>
      obtain⟨w7,hw7⟩: ∃W,W=wr.alloc (.cells #[.int .u8 0] 5):=⟨_,rfl⟩;have HI7:Hid (CSt w w6 w7 (.slice A0 pre.length c0) pre∧Rd w7 w7.heap.size (.slice (some ⟨wr.heap.size,0,none⟩) 1 1) [0]):=hid (by rw[hw7];exact⟨HI.out.call (ac _),(Rd.one' rfl 0 rfl).upE (by simp)⟩);subst hw7;go_wp2_with(at_builtin;go_must (refine af rfl _ _ rfl w.heap.size _ pre rfl HI7.out.1.own _ _ [0] rfl HI7.out.2 HI7.out.1.b.size (by have:=HPL.out;simp;omega) ?_));intro v8 w8 hv hg;have HI8:=hid (HI7.out.1.app hv hg);clear hv hg;have u5:w8.cell? ⟨g,5,none⟩=some (.bool false):=cell_of_block (HH.out _ HI8.out.k).1 5;have u6:w8.cell? ⟨g,6,none⟩=some (.bool false):=cell_of_block (HH.out _ HI8.out.k).1 6;go_wp2_with fail;go_ret
      exact⟨_,rfl,by rw[HCM.out];simpa using HI8.out.own,HI8.out.b⟩
     |true=>
      obtain⟨w7,hw7⟩: ∃W,W=wr.alloc (.cells #[.int .u8 1] 5):=⟨_,rfl⟩;have HI7:Hid (CSt w w6 w7 (.slice A0 pre.length c0) pre∧Rd w7 w7.heap.size (.slice (some ⟨wr.heap.size,0,none⟩) 1 1) [1]):=hid (by rw[hw7];exact⟨HI.out.call (ac _),(Rd.one' rfl 1 rfl).upE (by simp)⟩);subst hw7;go_wp2_with(at_builtin;go_must (refine af rfl _ _ rfl w.heap.size _ pre rfl HI7.out.1.own _ _ [1] rfl HI7.out.2 HI7.out.1.b.size (by have:=HPL.out;simp;omega) ?_));intro v8 w8 hv hg;have HI8:=hid (HI7.out.1.app hv hg);clear hv hg;have u5:w8.cell? ⟨g,5,none⟩=some (.bool false):=cell_of_block (HH.out _ HI8.out.k).1 5;have u6:w8.cell? ⟨g,6,none⟩=some (.bool false):=cell_of_block (HH.out _ HI8.out.k).1 6;go_wp2_with fail;go_ret
      exact⟨_,rfl,by rw[HCM.out];simpa using HI8.out.own,HI8.out.b⟩
    |false=>
     obtain⟨A0,c0,rfl⟩: ∃A c,u5= .slice A pre.length c:=HI.out.own.slice;have u5:wr.cell? ⟨g,5,none⟩=some (.bool b2):=cell_of_block (HH.out _ HI.out.k).1 5;have u6:wr.cell? ⟨g,6,none⟩=some (.bool b3):=cell_of_block (HH.out _ HI.out.k).1 6
     cases b2 with
     |false=>
      cases b3 with
      |false=>
       go_wp2_with fail;go_ret
       exact⟨_,rfl,by rw[HCM.out];simpa using HI.out.own,HI.out.b⟩
      |true=>
       obtain⟨we,hwe⟩: ∃W,W=wr.drew:=⟨_,rfl⟩;have HIE:Hid (CSt w w6 we (.slice A0 pre.length c0) pre):=hid (by rw[hwe];exact⟨HI.out.own.below (Below.refl _ _).drew,HI.out.b.drew,HI.out.k⟩);have x1:=bA (w:=we) (g:=w.heap.size) (i:=10) (HH.out _ HIE.out.k).2 (by decide) rfl;obtain⟨n,hn⟩: ∃n,n=m.snap.length:=⟨_,rfl⟩;have HN:=hid (And.intro hn (And.intro (show n≤65536 by rw[hn];exact HF.out.snap) (show 0<n by rw[hn];exact HSN.out rfl)));rw[←hn]at x1;clear hn HI;go_wp2_with fail;refine bj K8 (fun w=>Lib.OthersKept.refl _ _ _) (fun a b c h k=>h.trans k) [] (.pure [0,1,2,3,6,7] (.step 4 (.step 5 (.step 8 (.free [9] (.tail [])))))) (by kernel_rfl) (by kernel_rfl) (fun _ d _ _ _ h=>by cases d<;>exact h) ?_;rw[←hwe];clear hwe u4 u5 u6;refine cW ?_;simp only[atR];show wpQuiet _ _ _ _ [_,_,_,_,_,_] _;repeat(go_big_quiet_step (fail))
       first|with_reducible refine wpQuiet_nil ?_ |refine wpQuiet_nil ?_
       clear x1;refine aZ rfl (fun K hK=> ?_)
       go_simp
       refine(bH n we (by have:=HN.out.2.1;omega)).mono ?_;rintro q w7 ⟨x,rfl,hx,hb⟩
       go_simp
       refine hK _ _ (.inr (ax hb)) ?_;clear hK K;have HI7:Hid (CSt w w6 w7 (.slice A0 pre.length c0) pre∧Rd w7 w7.heap.size x (grp n)):=hid ⟨HIE.out.call hb,hx.rd⟩;clear hx hb HIE;try simp only[acR,Act.put]
       refine dt rfl rfl (fun K hK=> ?_);refine aE _ _ rfl w.heap.size _ pre rfl HI7.out.1.own w7.heap.size _ (grp n) rfl HI7.out.2 (ak n).2 HI7.out.1.b.size (by have:=HPL.out;have:=(ak n).1;omega) (fun v8 w8 hv hg=> ?_);refine hK _ _ (.inr (au HI7.out.1.own hg)) ?_;clear hK K;have HI8:=hid (HI7.out.1.app hv hg)
       have HRS:Hid (Rd w8 w.heap.size (.slice SA n sc) m.snap):=hid (by
        rw[HN.out.1]
        exact(HA.out.snap.keep fun b hb=>HI8.out.b.block b (HS.out b hb)).rd HS.out HA.out.scap HA.out.s63 HA.out.snil)
       clear hv hg HI7;try simp only[acR,Act.put]
       refine dt rfl rfl (fun K hK=> ?_);refine aE _ _ rfl w.heap.size _ (pre++grp n) rfl HI8.out.own w.heap.size _ m.snap rfl HRS.out (by have:=HN.out;omega) HI8.out.b.size (by have:=HPL.out;have:=(ak n).1;have:=HN.out;simp;omega) (fun v9 w9 hv hg=> ?_);refine hK _ _ (.inr (au HI8.out.own hg)) ?_;clear hK K;have HI9:=hid (HI8.out.app hv hg);clear hv hg HI8 HRS;try simp only[acR,Act.put]
       refine cU ?_;simp only[atR];show wpQuiet _ _ _ _ [_] _;repeat(go_big_quiet_step (fail))
       refine wpQuiet_nil ?_;refine cE ?_;go_wp2_with fail;go_ret
       exact⟨_,rfl,by
        rw[HCM.out];have e:txt ⟨m.snap.toArray⟩=grp n++m.snap:=by rw[HN.out.1];unfold txt;rfl
        rw[e]
        simpa using HI9.out.own,HI9.out.b⟩
     |true=>
      obtain rfl:b3=false:=HOO.out.2 rfl;have y9:=(HH.out _ HI.out.k).2.g9;obtain⟨n,hn⟩: ∃n,n=m.ents.length:=⟨_,rfl⟩;have HN:Hid (n=m.ents.length∧n≤8):=hid ⟨hn,by rw[hn];exact HF.out.len⟩;rw[←hn]at y9;have HC:=hid (bH n wr (by have:=HN.out;omega));clear hn;go_wp2_with fail;refine HC.out.mono ?_;rintro e w7 ⟨x,rfl,hx,hb⟩;have HI7:=hid (HI.out.call hb);have HRX:=hid hx.rd;clear hx hb HC y9 u4 u5 u6;go_wp2_with(at_builtin;go_must (refine af rfl _ _ rfl w.heap.size _ pre rfl HI7.out.own w7.heap.size x (grp n) rfl HRX.out HI7.out.b.size (by have:=HPL.out;have:=(ak n).1;omega) ?_));intro v8 w8 hv hg;have HI8:Hid (CSt w w6 w8 v8 (pre++grp n++bY (m.ents.take 0))):=hid (by simpa[bY]using HI7.out.app hv hg);clear hv hg HI7 HRX HI;go_wp2_with fail
      go_loopw [5,10] (fun v i wr=> ∃j:Nat,i= .int .i64 j∧j≤n∧Hid (CSt w w6 wr v (pre++grp n++bY (m.ents.take j)))) (fun _ i _=>n - (intOf i).toNat)
      case atStart=>exact⟨0,rfl,by omega,HI8⟩
      case round=>
       clear HI8;obtain⟨j,rfl,hj,HI⟩:=hrel;have y9:=(HH.out _ HI.out.k).2.g9;rw[←HN.out.1]at y9;by_cases hlt:j<n
       ·have hla:j<m.ents.length:=by have:=HN.out;omega
        have hn8:n≤8:=HN.out.2;have d1:decide ((j:Int)<(n:Int))=true:=decide_eq_true (by omega);obtain⟨q,off,ca,hA,hq,hrg,hcz,he⟩:=dm.at (HA.out.below HS.out HI.out.b).ents j hla;have hms:=HF.out.may _ (List.getElem_mem hla);have hds:=HD.out _ (List.getElem_mem hla);have HNX:=hid (nh m.ents j hla);have HLE:=hid (p9 m.ents (j+1));obtain⟨en,hen⟩: ∃e,e=m.ents[j]:=⟨_,rfl⟩;rw[←hen]at he hms hds HNX;obtain⟨IA,ic,IA',ic',DA,dc,DA',dc',LA,lc,hca,hat⟩:=dr.at he
        have hca':ca= [.int .i64 en.term,.int .i64 en.kind,.string en.coll,.string en.to,.int .i64 en.id.kind,.int .i64 en.id.num,.string en.id.text,.slice IA en.id.items.length ic,.slice IA' en.id.names.length ic',.int .i64 en.doc.kind,.int .i64 en.doc.num,.string en.doc.text,.slice DA en.doc.items.length dc,.slice DA' en.doc.names.length dc',.slice LA en.dels.length lc,.int .i64 en.session,.int .i64 en.number]:=by
         have:=congrArg Array.toList hca;simpa using this
        subst hca';have HC:=hid (rM S en _ wr (fun b hb=>Nat.lt_of_lt_of_le (HS.out b hb) HI.out.b.size) hat.l hds hms);have HRG:=hid hrg;obtain⟨q',off',rfl,rfl⟩: ∃q' off',q'=q∧off'=off:=⟨_,_,rfl,rfl⟩;rw[hA]at y9;obtain⟨A1,c1,rfl⟩: ∃A c,u5= .slice A (pre++grp n++bY (m.ents.take j)).length c:=HI.out.own.slice;obtain⟨m1,hm1⟩: ∃m1,m1=(pre++grp n++bY (m.ents.take j)).length:=⟨_,rfl⟩;rw[←hm1]at HI ⊢;clear hA hq hcz he hms hds hen hca hat hrg hla hm1;go_wp2_with(refine cH (by rfl) 46 _ rfl q' (off'+j * 17) rfl _ _ HRG.out Tryz.underlying46 rfl (by kernel_rfl) ?_;simp only[acR,Act.put]);refine HC.out.mono ?_;rintro e w9 ⟨x,rfl,hx,hb⟩;have HI9:=hid (HI.out.call hb);have HRX:=hid hx.rd;obtain⟨A5,c5,rfl⟩:=hx.slice;clear hx hb HC y9 HRG;go_wp2_with(at_builtin;go_must (refine af rfl _ _ rfl w.heap.size _ (pre++grp n++bY (m.ents.take j)) rfl HI9.out.own w9.heap.size _ (dp en) rfl HRX.out HI9.out.b.size (by have h1:=HEF.out;have h2:=HLE.out;have h4:=HN.out;rw[HNX.out,List.length_append]at h2;have h3:=(ak n).1;have:=HPL.out;simp only[List.length_append];omega) ?_));intro v10 w10 hv hg;have HI10:Hid (CSt w w6 w10 v10 (pre++grp n++bY (m.ents.take (j+1)))):=hid (HI9.out.app (by rw[HNX.out];simpa[List.append_assoc]using hv) hg);clear hv hg HI9 HRX;go_wp2_with fail
        go_roundw
        case rel=>exact⟨j+1,by go_num,by omega,HI10⟩
        case measure=>simp[intOf];omega
       ·have d1:decide ((j:Int)<(n:Int))=false:=decide_eq_false (by omega);obtain rfl:j=n:=by omega
        have u6:wr.cell? ⟨g,6,none⟩=some (.bool false):=cell_of_block (HH.out _ HI.out.k).1 6;obtain⟨A1,c1,rfl⟩: ∃A c,u5= .slice A (pre++grp j++bY (m.ents.take j)).length c:=HI.out.own.slice
        have HFI:Hid (CSt w w6 wr (.slice A1 (pre++grp j++bY (m.ents.take j)).length c1) (eA m)):=hid (by
         have h:=HI.out
         have e:eA m=pre++grp j++bY (m.ents.take j):=by
          rw[HCM.out,HN.out.1,List.take_length];unfold go;simp
         rw[e];exact h)
        go_wp2_with fail;go_ret;exact⟨_,rfl,HFI.out.own,HFI.out.b⟩
end Go.Proofs.YtgfidiocmiolpaaGreat
/- Bytes that came in. -/
namespace Go.Proofs.YtgfidiocmiolpaaGreat.OpenB
open Go.ChangeShapes Go.WideShapes Go.ChangeAt Go.RowKit Go.Joins Go.Deep
section
variable {H :Type} {enc:TypeId×Value→H} {W:World} {sp:Nat→Bool}
theorem add_at (b off i:Nat):((⟨b,off,none⟩:Addr).add i)=⟨b,off+i,none⟩:=by
 unfold Addr.add
 split
 ·next h=>simp[h]
 ·rfl
theorem open_bytes {fuel:Nat}{A:Option Addr}{len cap:Nat}{x:DataW H×List MemPlace}(h:DataW.trod enc Tryz.prog W 0 sp true fuel 23 [.slice A len cap]=some x):
  (∃l:List UInt8,len=l.length∧Rd W W.heap.size (.slice A l.length cap) l)∧(len=0∨ ∃es rs,x.1= .slice es rs∧es.length=len):=by
 rcases open_ints Tryz.underlying23 Tryz.underlying5 (by kernel_rfl) h with ⟨hcs,_⟩|⟨a,len',cap',zs,hcs,_,hl,hm,hz,hxx,hcell,hwf⟩
 ·simp only[List.cons.injEq,Value.slice.injEq,and_true]at hcs;obtain⟨rfl,rfl,rfl⟩:=hcs;exact⟨⟨[],rfl,none,0,rfl,by simp,⟨by decide,fun _=>rfl⟩,fun h=>absurd h (by simp)⟩,.inl rfl⟩
 ·simp only[List.cons.injEq,Value.slice.injEq,and_true]at hcs;obtain⟨rfl,rfl,rfl⟩:=hcs;have hzl:len≤zs.length:=by rw[hz];split<;>omega
  have hlen:len=((zs.take len).map fun z=>UInt8.ofNat z.toNat).length:=by simp;omega
  refine⟨⟨(zs.take len).map fun z=>UInt8.ofNat z.toNat,hlen,some a,cap,rfl,by rw[←hlen];exact hl,⟨by unfold maxLen at hm;omega,fun h=>by cases h⟩,fun hp=> ?_⟩,.inr ⟨_,_,by rw[hxx],by simp[lits];omega⟩⟩;rw[←hlen]at hp;obtain⟨b,off,spot⟩:=a;have h0:=hcell 0 (by omega);obtain rfl:spot=none:=by simpa[Addr.add]using World.cell?_spot h0
  refine⟨b,off,rfl,?_,fun i hi=> ?_⟩
  ·rw[add_at]at h0;exact World.block_lt_of_cell? W _ h0
  ·rw[←hlen]at hi;have hi2:i<zs.length:=by omega
   have h1:=hcell i hi2;rw[add_at]at h1;rw[h1];have hb:=bounds_u8 (hwf zs[i] (List.getElem_mem hi2));have e:zs.getD i 0=zs[i]:=by simp[List.getD,List.getElem?_eq_getElem hi2]
   rw[e];simp only[List.getElem_map,List.getElem_take];rw[br _ (by omega)]
   congr 2
   omega
end
end Go.Proofs.YtgfidiocmiolpaaGreat.OpenB
/- A message that came in. -/
namespace Go.Proofs.YtgfidiocmiolpaaGreat
open Go.ChangeShapes Go.WideShapes Go.RowKit Go.Joins Go.Deep OpenB
theorem cellsMsg :Tryz.prog.cellsOf 25=11:=by kernel_rfl
theorem cellsBool22 :Tryz.prog.cellsOf 4=1:=by kernel_rfl
theorem cellsBytes22 :Tryz.prog.cellsOf 23=1:=by kernel_rfl
theorem fieldsMsg : ∃f0 f1 f2 f3 f4 f5 f6 f7 f8 f9 f10:Field,Tryz.prog.underlying 25=some (.struct #[f0,f1,f2,f3,f4,f5,f6,f7,f8,f9,f10])∧(f0.type=3∧f1.type=3∧f2.type=3∧f3.type=3∧f4.type=3∧f5.type=3∧f6.type=3∧f7.type=3∧f8.type=4∧f9.type=22∧f10.type=23)∧(f0.offset=0∧f1.offset=1∧f2.offset=2∧f3.offset=3∧f4.offset=4∧f5.offset=5∧f6.offset=6∧f7.offset=7∧f8.offset=8∧f9.offset=9∧f10.offset=10):=
 ⟨_,_,_,_,_,_,_,_,_,_,_,Tryz.underlying25,⟨rfl,rfl,rfl,rfl,rfl,rfl,rfl,rfl,rfl,rfl,rfl⟩,⟨rfl,rfl,rfl,rfl,rfl,rfl,rfl,rfl,rfl,rfl,rfl⟩⟩
section
variable {H :Type} {enc:TypeId×Value→H} {W:World} {sp:Nat→Bool}
theorem open_bytesAt {fuel:Nat}{cs:List Value}{x:DataW H×List MemPlace}(h:DataW.trod enc Tryz.prog W 0 sp true fuel 23 cs=some x)(hw: ∀n∈x.1.weights Tryz.prog 23,n≤reachBytes):
  ∃A c,∃l:List UInt8,cs= [.slice A l.length c]∧l.length≤c∧c≤9223372036854775807∧(A=none→c=0)∧l.length≤140737488351232∧cV W (fun b=>b<W.heap.size) A l:=by
 have hc: ∃A n c,cs= [.slice A n c]:=by
  rcases DataW.trod_slice Tryz.underlying23 h with ⟨e3,-⟩|⟨a,len,cap,elems,rest,m,hm,e3,-⟩
  ·exact⟨_,_,_,e3⟩
  ·exact⟨_,_,_,e3⟩
 obtain⟨A,n,c,rfl⟩:=hc;obtain⟨⟨l,rfl,A',c',hv,h1,⟨h2,h3⟩,h4⟩,hshape⟩:=open_bytes h;injection hv with e1 e2 e3
 subst e1 e3;refine⟨A,c,l,rfl,h1,h2,h3,?_,h4⟩;rcases hshape with h0|⟨es,rs,hd,hes⟩
 ·omega
 ·rw[hd]at hw;simp only[DataW.weights,Tryz.underlying23]at hw;have:=hw _ (List.mem_cons_self ..);have hb:Tryz.prog.bytesOf 5=1:=by kernel_rfl
  rw[hb]at this;simp only[reachBytes]at this;omega
theorem open_msg {fuel:Nat}{cs:List Value}{x:DataW H×List MemPlace}(h:DataW.trod enc Tryz.prog W 0 sp true fuel 25 cs=some x)(hw: ∀n∈x.1.weights Tryz.prog 25,n≤reachBytes):
  ∃(m:bw) (EA:Option Addr) (ec:Nat) (SA:Option Addr) (sc:Nat),cs= [.int .i64 m.kind,.int .i64 m.frm,.int .i64 m.tgt,.int .i64 m.term,.int .i64 m.index,.int .i64 m.logTerm,.int .i64 m.commit,.int .i64 m.round,.bool m.ok,.slice EA m.ents.length ec,.slice SA m.snap.length sc]∧bI W (fun b=>b<W.heap.size) m EA ec SA sc:=by
 obtain⟨f0,f1,f2,f3,f4,f5,f6,f7,f8,f9,f10,hu,⟨t0,t1,t2,t3,t4,t5,t6,t7,t8,t9,t10⟩,⟨o0,o1,o2,o3,o4,o5,o6,o7,o8,o9,o10⟩⟩:=fieldsMsg;obtain⟨xs,n,hfu,hx,hlen,hxl,hg⟩:=DataW.trod_struct hu h;rw[cellsMsg]at hlen
 match cs,hlen with
 | [c0,c1,c2,c3,c4,c5,c6,c7,c8,c9,c10],_=>
  match xs,hxl with
  | [y0,y1,y2,y3,y4,y5,y6,y7,y8,y9,y10],_=>
   have g0:=hg 0 f0 rfl;have g1:=hg 1 f1 rfl;have g2:=hg 2 f2 rfl;have g3:=hg 3 f3 rfl;have g4:=hg 4 f4 rfl;have g5:=hg 5 f5 rfl;have g6:=hg 6 f6 rfl;have g7:=hg 7 f7 rfl;have g8:=hg 8 f8 rfl;have g9:=hg 9 f9 rfl;have g10:=hg 10 f10 rfl;rw[t0,o0,dY]at g0;rw[t1,o1,dY]at g1;rw[t2,o2,dY]at g2;rw[t3,o3,dY]at g3;rw[t4,o4,dY]at g4;rw[t5,o5,dY]at g5;rw[t6,o6,dY]at g6;rw[t7,o7,dY]at g7;rw[t8,o8,cellsBool22]at g8;rw[t9,o9,vM]at g9;rw[t10,o10,cellsBytes22]at g10;have hws:=hw;rw[hx]at hws;simp only[DataW.weights,hu,List.map_cons,List.map_nil,t0,t1,t2,t3,t4,t5,t6,t7,t8,t9,t10]at hws;simp only[DataW.weightsEach,List.mem_append]at hws;obtain⟨a0,e0,-,w0⟩:=DataW.trod_int Tryz.underlying3 g0;obtain⟨a1,e1,-,w1⟩:=DataW.trod_int Tryz.underlying3 g1;obtain⟨a2,e2,-,w2⟩:=DataW.trod_int Tryz.underlying3 g2;obtain⟨a3,e3,-,w3⟩:=DataW.trod_int Tryz.underlying3 g3;obtain⟨a4,e4,-,w4⟩:=DataW.trod_int Tryz.underlying3 g4;obtain⟨a5,e5,-,w5⟩:=DataW.trod_int Tryz.underlying3 g5;obtain⟨a6,e6,-,w6⟩:=DataW.trod_int Tryz.underlying3 g6;obtain⟨a7,e7,-,w7⟩:=DataW.trod_int Tryz.underlying3 g7;obtain⟨a8,e8,-⟩:=DataW.trod_bool Tryz.underlying4 g8;obtain⟨EA,ec,es,e9,q1,q2,q3,q4⟩:=wi g9 (fun n hn=>hws n (by simp[hn]));obtain⟨SA,sc,sl,e10,p1,p2,p3,p4,p5⟩:=open_bytesAt g10 (fun n hn=>hws n (by simp[hn]));simp at e0 e1 e2 e3 e4 e5 e6 e7 e8 e9 e10;subst e0 e1 e2 e3 e4 e5 e6 e7 e8 e9 e10;exact⟨⟨a0,a1,a2,a3,a4,a5,a6,a7,a8,es,sl⟩,EA,ec,SA,sc,rfl,⟨q4,q2,fun h=>(q1 h).1,q3,p5,p1,p3,p2,p4,in64_of_wf w0,in64_of_wf w1,in64_of_wf w2,in64_of_wf w3,in64_of_wf w4,in64_of_wf w5,in64_of_wf w6,in64_of_wf w7⟩⟩
end
end Go.Proofs.YtgfidiocmiolpaaGreat
