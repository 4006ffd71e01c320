/- The code of an entry, by the document. (Written by mkenq.py.) -/
import Derived.Test.YtgfidiocmiolpaaGreatKMgE
import Derived.Test.YtgfidiocmiolpaaGreatKDlV
import Derived.Test.YtgfidiocmiolpaaGreatKMgP
import Derived.Test.YtgfidiocmiolpaaGreatKLook
import Derived.Test.YtgfidiocmiolpaaGreatKValB
set_option maxHeartbeats 64000000
set_option maxRecDepth 100000
set_option linter.unusedVariables false
set_option linter.unusedSimpArgs false
namespace Go.Proofs.YtgfidiocmiolpaaGreat
open Lib (hid)
open Go.RowKit
theorem tu {v id:VT}(h:dj v id=true):ba v=0:=by
  unfold dj at h;simp only[Bool.and_eq_true,decide_eq_true_eq]at h;exact h.1.2
theorem rM (S:Nat→Prop)(e:bh)(cs:Array Value)(w:World)(hS: ∀b,S b→b<w.heap.size)(h:dr w S e cs)(hd:SmE e)(hm:cd e=true):
    Calls Tryz.prog 35 #[.agg cs] w (gw (dp e) w):=by
  obtain⟨IA,ic,IA',ic',DA,dc,DA',dc',LA,lc,rfl,hat⟩:=h.at;have hsh:=kx hm hd;have hmm:=(gS e).1 hm;obtain⟨T,hT⟩: ∃n:Nat,e.term=n:=⟨e.term.toNat,by have:=hmm.t0;omega⟩;obtain⟨kb,hkb⟩: ∃kb,kb=UInt8.ofNat e.kind.toNat:=⟨_,rfl⟩;obtain⟨Z,hZ⟩: ∃n:Nat,e.session=n:=⟨e.session.toNat,by have:=hmm.s0;omega⟩;obtain⟨N,hN⟩: ∃n:Nat,e.number=n:=⟨e.number.toNat,by have:=hmm.n0;omega⟩
  have hkx:e.kind % 256=(kb.toNat:Int):=by
    have h1:=hmm.k1;have h2:=hmm.k7;rw[hkb,br _ (by omega)];omega
  have HKX:=hid hkx;have HTN:Hid (T≤1099511627776∧Z≤255∧N≤1099511627776):=hid ⟨by have:=hmm.t1;omega,by have:=hmm.s1;omega,by have:=hmm.n1;omega⟩
  have HCE:Hid (dp e=grp T++([kb]++(grp Z++(grp N++((if aT e.kind then txt e.coll else [])++((if b9 e.kind then txt e.to else [])++((if bW e.kind then cp e.id else [])++((if bn e.kind then cp e.doc else [])++(if aX e.kind then bF e.dels else []))))))))):=hid (by
    unfold dp;rw[hT,hZ,hN,hkb];rfl)
  have HKH:Hid (s8 e):=hid hsh;have HT:=hid hT;have HZ:=hid hZ;have HNN:=hid hN;obtain⟨w1,hw1⟩: ∃W,W=w.alloc (.cells #[.int .i64 e.term,.int .i64 e.kind,.string e.coll,.string e.to,.int .i64 e.id.kind,.int .i64 e.id.num,.string e.id.text,.slice IA e.id.items.length ic,.slice IA' e.id.names.length ic',.int .i64 e.doc.kind,.int .i64 e.doc.num,.string e.doc.text,.slice DA e.doc.items.length dc,.slice DA' e.doc.names.length dc',.slice LA e.dels.length lc,.int .i64 e.session,.int .i64 e.number] 46):=⟨_,rfl⟩;have hbk:aN w1 w.heap.size e IA ic IA' ic' DA dc DA' dc' LA lc:=by rw[hw1];exact heap_alloc_new w _
  have hb1:Below w.heap.size w w1:=by rw[hw1];exact ac _
  obtain⟨w2,hw2⟩: ∃W,W=w1.drew:=⟨_,rfl⟩;have HK2:Hid (aN w2 w.heap.size e IA ic IA' ic' DA dc DA' dc' LA lc):=hid (by rw[hw2];exact hbk);have HB2:Hid (Below w.heap.size w w2):=hid (by rw[hw2];exact hb1.drew);have HS:=hid hS;have HMM:=hid hmm;have HA:=hid hat;have HD:=hid hd;have HW2:=hid hw2;have q0:=bA (w:=w2) (g:=w.heap.size) (i:=0) HK2.out (by decide) rfl;have q1:=bA (w:=w2) (g:=w.heap.size) (i:=1) HK2.out (by decide) rfl;rw[hT]at q0;clear hb1 hbk hS h hat hd hm hsh hmm hT hkb hZ hN hkx hw2;go_enter Tryz.func35,Tryz.ntmps35;go_wp2_with fail;rw[←hw1];clear hw1;refine bj K8 (fun w=>Lib.OthersKept.refl _ _ _) (fun a b c h k=>h.trans k) [] (.pure [0,1,3,4,5] (.fork 2 (.step 6 (.step 7 (.free [8] (.tail [])))) 6 (.step 2 (.step 7 (.free [8] (.tail [])))))) (by kernel_rfl) (by kernel_rfl) (fun _ d _ _ _ h=>by cases d<;>exact h) ?_;rw[←HW2.out];refine cW ?_;simp only[atR];show wpQuiet _ _ _ _ [_,_,_,_,_] _;repeat(go_big_quiet_step (fail))
  refine wpQuiet_nil ?_;clear q0 q1;have HBX:=hid (show ∀W o,Below w.heap.size w W→aN W w.heap.size e IA ic IA' ic' DA dc DA' dc' LA lc→Below w.heap.size w (W.alloc o)∧aN (W.alloc o) w.heap.size e IA ic IA' ic' DA dc DA' dc' LA lc from fun W o h1 h2=>⟨h1.alloc h1.size o,h2.below (ac o)⟩);have HTC:=hid (fun W=>bH T W (by have:=HTN.out.1;omega));refine gp rfl rfl (fun K hK=> ?_) (fun K hK=> ?_)
  focus
    go_simp
    refine(HTC.out _).mono ?_;rintro q w3 ⟨v3,rfl,hv3,hb3⟩
    go_simp
    refine hK _ _ (.inr (ax hb3)) ?_;clear hK K;have HX2:Hid (ao w3 w.heap.size v3 (grp T)∧Below w.heap.size w w3∧aN w3 w.heap.size e IA ic IA' ic' DA dc DA' dc' LA lc):=hid ⟨hv3.base HB2.out.size,HB2.out.trans (hb3.mono HB2.out.size),HK2.out.below hb3⟩;clear hv3 hb3;try simp only[acR,Act.put]
    refine aZ rfl (fun K hK=> ?_)
    go_simp
    refine hK _ _ (.inr ((Lib.OthersKept.refl _ _ _).alloc _)) ?_;clear hK K;obtain⟨w5,hw5⟩: ∃W,W=w3.alloc (.cells #[.int .u8 (e.kind % 256)] 5):=⟨_,rfl⟩;rw[←hw5]
    have HX3:Hid (ao w5 w.heap.size v3 (grp T)∧Below w.heap.size w w5∧aN w5 w.heap.size e IA ic IA' ic' DA dc DA' dc' LA lc∧Rd w5 w5.heap.size (.slice (some ⟨w3.heap.size,0,none⟩) 1 1) [kb]):=hid (by
      have h1:=HBX.out w3 (.cells #[.int .u8 (e.kind % 256)] 5) HX2.out.2.1 HX2.out.2.2;rw[hw5]
      exact⟨HX2.out.1.below (ac _),h1.1,h1.2,(Rd.one' rfl kb HKX.out).upE (by simp)⟩)
    clear hw5 HX2;try simp only[acR,Act.put]
    refine dt rfl rfl (fun K hK=> ?_);refine aE _ _ rfl w.heap.size v3 (grp T) rfl HX3.out.1 w5.heap.size _ [kb] rfl HX3.out.2.2.2 (by simp) HX3.out.2.1.size (by have:=(ak T).1;simp;omega) (fun v4 w4 hv4 hg4=> ?_);refine hK _ _ (.inr (au HX3.out.1 hg4)) ?_;clear hK K;have HX4:Hid (ao w4 w.heap.size v4 (grp T++[kb])∧Below w.heap.size w w4∧aN w4 w.heap.size e IA ic IA' ic' DA dc DA' dc' LA lc):=hid ⟨hv4,aq HX3.out.2.1 HX3.out.1 HX3.out.2.1.size hg4,dq HX3.out.2.2.1 (au HX3.out.1 hg4)⟩;clear hv4 hg4 HX3;try simp only[acR,Act.put]
    refine cU ?_;simp only[atR];show wpQuiet _ _ _ _ [_] _;repeat(go_big_quiet_step (fail))
    refine wpQuiet_nil ?_;refine cE ?_
  rotate_left
  focus
    go_simp
    refine hK _ _ (.inr ((Lib.OthersKept.refl _ _ _).alloc _)) ?_;clear hK K;obtain⟨wA,hwA⟩: ∃W,W=w2.alloc (.cells #[.int .u8 (e.kind % 256)] 5):=⟨_,rfl⟩;rw[←hwA]
    have HwA:=hid (show Below w.heap.size w wA∧aN wA w.heap.size e IA ic IA' ic' DA dc DA' dc' LA lc∧Rd wA wA.heap.size (.slice (some ⟨w2.heap.size,0,none⟩) 1 1) [kb] by
      have h1:=HBX.out w2 (.cells #[.int .u8 (e.kind % 256)] 5) HB2.out HK2.out;rw[hwA]
      exact⟨h1.1,h1.2,(Rd.one' rfl kb HKX.out).upE (by simp)⟩)
    clear hwA;try simp only[acR,Act.put]
    refine aZ rfl (fun K hK=> ?_)
    go_simp
    refine(HTC.out _).mono ?_;rintro q w3 ⟨v3,rfl,hv3,hb3⟩
    go_simp
    refine hK _ _ (.inr (ax hb3)) ?_;clear hK K;have HX3:Hid (ao w3 w.heap.size v3 (grp T)∧Below w.heap.size w w3∧aN w3 w.heap.size e IA ic IA' ic' DA dc DA' dc' LA lc∧Rd w3 w3.heap.size (.slice (some ⟨w2.heap.size,0,none⟩) 1 1) [kb]):=hid ⟨hv3.base HwA.out.1.size,HwA.out.1.trans (hb3.mono HwA.out.1.size),HwA.out.2.1.below hb3,(HwA.out.2.2.keep hb3).upE hb3.size⟩;clear hv3 hb3 HwA;try simp only[acR,Act.put]
    refine dt rfl rfl (fun K hK=> ?_);refine aE _ _ rfl w.heap.size v3 (grp T) rfl HX3.out.1 w3.heap.size _ [kb] rfl HX3.out.2.2.2 (by simp) HX3.out.2.1.size (by have:=(ak T).1;simp;omega) (fun v4 w4 hv4 hg4=> ?_);refine hK _ _ (.inr (au HX3.out.1 hg4)) ?_;clear hK K;have HX4:Hid (ao w4 w.heap.size v4 (grp T++[kb])∧Below w.heap.size w w4∧aN w4 w.heap.size e IA ic IA' ic' DA dc DA' dc' LA lc):=hid ⟨hv4,aq HX3.out.2.1 HX3.out.1 HX3.out.2.1.size hg4,dq HX3.out.2.2.1 (au HX3.out.1 hg4)⟩;clear hv4 hg4 HX3;try simp only[acR,Act.put]
    refine cU ?_;simp only[atR];show wpQuiet _ _ _ _ [_] _;repeat(go_big_quiet_step (fail))
    refine wpQuiet_nil ?_;refine cE ?_
  rotate_left
  all_goals
    obtain⟨wd,hwd⟩: ∃W,W=w4.drew:=⟨_,rfl⟩;have HWD:=hid hwd;have HXD:Hid (ao wd w.heap.size v4 (grp T++[kb])∧Below w.heap.size w wd∧aN wd w.heap.size e IA ic IA' ic' DA dc DA' dc' LA lc):=hid (by rw[hwd];exact⟨HX4.out.1.below (Below.refl _ _).drew,HX4.out.2.1.drew,HX4.out.2.2⟩);have q15:=bA (w:=wd) (g:=w.heap.size) (i:=15) HXD.out.2.2 (by decide) rfl;have q16:=bA (w:=wd) (g:=w.heap.size) (i:=16) HXD.out.2.2 (by decide) rfl;rw[HZ.out]at q15;rw[HNN.out]at q16;clear hwd HX4;go_wp2_with fail;refine bj K8 (fun w=>Lib.OthersKept.refl _ _ _) (fun a b c h k=>h.trans k) [] (.pure [0,1,2,5,6] (.step 3 (.step 4 (.step 7 (.step 8 (.free [9] (.tail []))))))) (by kernel_rfl) (by kernel_rfl) (fun _ d _ _ _ h=>by cases d<;>exact h) ?_;rw[←HWD.out];refine cW ?_;simp only[atR];show wpQuiet _ _ _ _ [_,_,_,_,_] _;repeat(go_big_quiet_step (fail))
    refine wpQuiet_nil ?_;clear q15 q16;refine aZ rfl (fun K hK=> ?_)
    go_simp
    refine(bH Z _ (by have:=HTN.out;omega)).mono ?_;rintro q w5 ⟨x,rfl,hx,hb⟩
    go_simp
    refine hK _ _ (.inr (ax hb)) ?_;clear hK K;have HY:Hid (ao w5 w.heap.size v4 (grp T++[kb])∧Below w.heap.size w w5∧aN w5 w.heap.size e IA ic IA' ic' DA dc DA' dc' LA lc∧Rd w5 w5.heap.size x (grp Z)):=hid ⟨HXD.out.1.below hb,HXD.out.2.1.trans (hb.mono HXD.out.2.1.size),HXD.out.2.2.below hb,hx.rd⟩;clear hx hb HXD;try simp only[acR,Act.put]
    refine dt rfl rfl (fun K hK=> ?_);refine aE _ _ rfl w.heap.size v4 (grp T++[kb]) rfl HY.out.1 w5.heap.size _ (grp Z) rfl HY.out.2.2.2 (by have:=(ak Z).2;omega) HY.out.2.1.size (by have:=(ak T).1;have:=(ak Z).1;have:=(ak N).1;simp;omega) (fun v6 w6 hv hg=> ?_);refine hK _ _ (.inr (au HY.out.1 hg)) ?_;clear hK K;have HX6:Hid (ao w6 w.heap.size v6 (grp T++[kb]++grp Z)∧Below w.heap.size w w6∧aN w6 w.heap.size e IA ic IA' ic' DA dc DA' dc' LA lc):=hid ⟨by simpa[List.append_assoc]using hv,aq HY.out.2.1 HY.out.1 HY.out.2.1.size hg,dq HY.out.2.2.1 (au HY.out.1 hg)⟩;clear hv hg HY;try simp only[acR,Act.put]
    refine aZ rfl (fun K hK=> ?_)
    go_simp
    refine(bH N _ (by have:=HTN.out;omega)).mono ?_;rintro q w7 ⟨x,rfl,hx,hb⟩
    go_simp
    refine hK _ _ (.inr (ax hb)) ?_;clear hK K;have HY:Hid (ao w7 w.heap.size v6 (grp T++[kb]++grp Z)∧Below w.heap.size w w7∧aN w7 w.heap.size e IA ic IA' ic' DA dc DA' dc' LA lc∧Rd w7 w7.heap.size x (grp N)):=hid ⟨HX6.out.1.below hb,HX6.out.2.1.trans (hb.mono HX6.out.2.1.size),HX6.out.2.2.below hb,hx.rd⟩;clear hx hb HX6;try simp only[acR,Act.put]
    refine dt rfl rfl (fun K hK=> ?_);refine aE _ _ rfl w.heap.size v6 (grp T++[kb]++grp Z) rfl HY.out.1 w7.heap.size _ (grp N) rfl HY.out.2.2.2 (by have:=(ak N).2;omega) HY.out.2.1.size (by have:=(ak T).1;have:=(ak Z).1;have:=(ak N).1;simp;omega) (fun v8 w8 hv hg=> ?_);refine hK _ _ (.inr (au HY.out.1 hg)) ?_;clear hK K;have HX8:Hid (ao w8 w.heap.size v8 (grp T++[kb]++grp Z++grp N)∧Below w.heap.size w w8∧aN w8 w.heap.size e IA ic IA' ic' DA dc DA' dc' LA lc):=hid ⟨by simpa[List.append_assoc]using hv,aq HY.out.2.1 HY.out.1 HY.out.2.1.size hg,dq HY.out.2.2.1 (au HY.out.1 hg)⟩;clear hv hg HY;try simp only[acR,Act.put]
    refine cU ?_;simp only[atR];show wpQuiet _ _ _ _ [_] _;repeat(go_big_quiet_step (fail))
    refine wpQuiet_nil ?_;refine cE ?_;have hal:(grp T++[kb]++grp Z++grp N).length≤100:=by have:=(ak T).1;have:=(ak Z).1;have:=(ak N).1;simp;omega
    obtain⟨acc8,hacc⟩: ∃acc,acc=grp T++[kb]++grp Z++grp N:=⟨_,rfl⟩;have HA8:=hid hacc;rw[←hacc]at HX8 hal;have HL8:=hid hal;clear hacc hal;have y1:=HX8.out.2.2.g1;go_wp2_with fail;refine(mn e.kind _).mono ?_;rintro q u ⟨rfl,hw⟩;replace hw:=hw.symm;subst hw;clear y1;obtain⟨v,hv8⟩: ∃v,v=v8:=⟨_,rfl⟩;obtain⟨ac0,hac⟩: ∃a,a=acc8:=⟨_,rfl⟩;have HX:Hid (ao w8 w.heap.size v8 ac0∧Below w.heap.size w w8∧aN w8 w.heap.size e IA ic IA' ic' DA dc DA' dc' LA lc∧ac0.length≤100):=hid ⟨by rw[hac];exact HX8.out.1,HX8.out.2.1,HX8.out.2.2,by rw[hac];exact HL8.out⟩;have HC0:Hid (ac0=acc8):=hid hac;clear hv8 hac v HX8 HL8;have HF1:=(ay.mk:ay (aT e.kind));have HF2:=(ay.mk:ay (b9 e.kind));have HF3:=(ay.mk:ay (bW e.kind));have HF4:=(ay.mk:ay (bn e.kind));have HF5:=(ay.mk:ay (aX e.kind));rcases eR e.kind with ⟨c1,c2,c3,c4,c5⟩|⟨c1,c2,c3,c4,c5⟩|⟨c1,c2,c3,c4,c5⟩|⟨c1,c2,c3,c4,c5⟩|⟨c1,c2,c3,c4,c5⟩|⟨c1,c2,c3,c4,c5⟩
    all_goals
      have C:=hid (And.intro c1 (And.intro c2 (And.intro c3 (And.intro c4 c5))));rw[c1]at HF1;rw[c2]at HF2;rw[c3]at HF3;rw[c4]at HF4;rw[c5]at HF5;rw[c1,c2,c3,c4,c5];clear c1 c2 c3 c4 c5
    all_goals first
      |(have _g:ay true:=HF1
        have y2:=HX.out.2.2.1.g2;go_wp2_with fail;refine(dV e.coll _ (by have:=HKH.out.cz;omega)).mono ?_;rintro q wn ⟨x,rfl,hx,hb⟩;have HY:Hid (ao wn w.heap.size _ ac0∧Below w.heap.size w wn∧aN wn w.heap.size e IA ic IA' ic' DA dc DA' dc' LA lc∧Rd wn wn.heap.size x (txt e.coll)):=hid ⟨HX.out.1.below hb,HX.out.2.1.trans (hb.mono HX.out.2.1.size),HX.out.2.2.1.below hb,hx.rd⟩;have HLP:=hid HX.out.2.2.2;clear hx hb HX y2;go_wp2_with(at_builtin;go_must (refine af rfl _ _ rfl w.heap.size _ ac0 rfl HY.out.1 wn.heap.size x (txt e.coll) rfl HY.out.2.2.2 HY.out.2.1.size (by have:=HLP.out;have:=(HKH.out.coll);omega) ?_));intro vm wm hv hg;obtain⟨ac1,hac⟩: ∃a,a=ac0++txt e.coll:=⟨_,rfl⟩;have HX:Hid (ao wm w.heap.size vm ac1∧Below w.heap.size w wm∧aN wm w.heap.size e IA ic IA' ic' DA dc DA' dc' LA lc∧ac1.length≤2000):=hid ⟨by rw[hac];exact hv,aq HY.out.2.1 HY.out.1 HY.out.2.1.size hg,dq HY.out.2.2.1 (au HY.out.1 hg),by rw[hac,List.length_append];have:=HLP.out;have:=(HKH.out.coll);omega⟩;have HC1:Hid (ac1=ac0++if aT e.kind=true then txt e.coll else []):=hid (by rw[hac,if_pos C.out.1])
        clear hv hg hac HY HLP)
      |(have _g:ay false:=HF1
        obtain⟨ac1,hac⟩: ∃a,a=ac0:=⟨_,rfl⟩;have HC1:Hid (ac1=ac0++if aT e.kind=true then txt e.coll else []):=hid (by rw[hac,C.out.1];simp);have HX:=hid (show _∧_∧_∧ac1.length≤2000 from⟨HX.out.1,HX.out.2.1,HX.out.2.2.1,by rw[hac];have:=HX.out.2.2.2;omega⟩);rw[←hac]at HX
        clear hac)
    all_goals first
      |(have _g:ay true:=HF2
        have y3:=HX.out.2.2.1.g3;go_wp2_with fail;refine(dV e.to _ (by have:=HKH.out.tz;omega)).mono ?_;rintro q wn ⟨x,rfl,hx,hb⟩;have HY:Hid (ao wn w.heap.size _ ac1∧Below w.heap.size w wn∧aN wn w.heap.size e IA ic IA' ic' DA dc DA' dc' LA lc∧Rd wn wn.heap.size x (txt e.to)):=hid ⟨HX.out.1.below hb,HX.out.2.1.trans (hb.mono HX.out.2.1.size),HX.out.2.2.1.below hb,hx.rd⟩;have HLP:=hid HX.out.2.2.2;clear hx hb HX y3;go_wp2_with(at_builtin;go_must (refine af rfl _ _ rfl w.heap.size _ ac1 rfl HY.out.1 wn.heap.size x (txt e.to) rfl HY.out.2.2.2 HY.out.2.1.size (by have:=HLP.out;have:=(HKH.out.to);omega) ?_));intro vm wm hv hg;obtain⟨ac2,hac⟩: ∃a,a=ac1++txt e.to:=⟨_,rfl⟩;have HX:Hid (ao wm w.heap.size vm ac2∧Below w.heap.size w wm∧aN wm w.heap.size e IA ic IA' ic' DA dc DA' dc' LA lc∧ac2.length≤4000):=hid ⟨by rw[hac];exact hv,aq HY.out.2.1 HY.out.1 HY.out.2.1.size hg,dq HY.out.2.2.1 (au HY.out.1 hg),by rw[hac,List.length_append];have:=HLP.out;have:=(HKH.out.to);omega⟩;have HC2:Hid (ac2=ac1++if b9 e.kind=true then txt e.to else []):=hid (by rw[hac,if_pos C.out.2.1])
        clear hv hg hac HY HLP)
      |(have _g:ay false:=HF2
        obtain⟨ac2,hac⟩: ∃a,a=ac1:=⟨_,rfl⟩;have HC2:Hid (ac2=ac1++if b9 e.kind=true then txt e.to else []):=hid (by rw[hac,C.out.2.1];simp);have HX:=hid (show _∧_∧_∧ac2.length≤4000 from⟨HX.out.1,HX.out.2.1,HX.out.2.2.1,by rw[hac];have:=HX.out.2.2.2;omega⟩);rw[←hac]at HX
        clear hac)
    all_goals first
      |(have _g:ay true:=HF3
        have y4:=HX.out.2.2.1.g4;have y5:=HX.out.2.2.1.g5;have y6:=HX.out.2.2.1.g6;have y7:=HX.out.2.2.1.g7;have y8:=HX.out.2.2.1.g8;go_wp2_with fail;refine(nH S e.id _ _ (fun b hb=>Nat.lt_of_lt_of_le (HS.out b hb) HX.out.2.1.size) (HA.out.below HS.out HX.out.2.1).id HD.out.idz (by have:=HMM.out.id;rw[if_pos C.out.2.2.1]at this;exact this)).mono ?_;rintro q wn ⟨x,rfl,hx,hb⟩;have HY:Hid (ao wn w.heap.size _ ac2∧Below w.heap.size w wn∧aN wn w.heap.size e IA ic IA' ic' DA dc DA' dc' LA lc∧Rd wn wn.heap.size x (cp e.id)):=hid ⟨HX.out.1.below hb,HX.out.2.1.trans (hb.mono HX.out.2.1.size),HX.out.2.2.1.below hb,hx.rd⟩;have HLP:=hid HX.out.2.2.2;clear hx hb HX y4 y5 y6 y7 y8;go_wp2_with(at_builtin;go_must (refine af rfl _ _ rfl w.heap.size _ ac2 rfl HY.out.1 wn.heap.size x (cp e.id) rfl HY.out.2.2.2 HY.out.2.1.size (by have:=HLP.out;have:=(HKH.out.id);omega) ?_));intro vm wm hv hg;obtain⟨ac3,hac⟩: ∃a,a=ac2++cp e.id:=⟨_,rfl⟩;have HX:Hid (ao wm w.heap.size vm ac3∧Below w.heap.size w wm∧aN wm w.heap.size e IA ic IA' ic' DA dc DA' dc' LA lc∧ac3.length≤9000):=hid ⟨by rw[hac];exact hv,aq HY.out.2.1 HY.out.1 HY.out.2.1.size hg,dq HY.out.2.2.1 (au HY.out.1 hg),by rw[hac,List.length_append];have:=HLP.out;have:=(HKH.out.id);omega⟩;have HC3:Hid (ac3=ac2++if bW e.kind=true then cp e.id else []):=hid (by rw[hac,if_pos C.out.2.2.1])
        clear hv hg hac HY HLP)
      |(have _g:ay false:=HF3
        obtain⟨ac3,hac⟩: ∃a,a=ac2:=⟨_,rfl⟩;have HC3:Hid (ac3=ac2++if bW e.kind=true then cp e.id else []):=hid (by rw[hac,C.out.2.2.1];simp);have HX:=hid (show _∧_∧_∧ac3.length≤9000 from⟨HX.out.1,HX.out.2.1,HX.out.2.2.1,by rw[hac];have:=HX.out.2.2.2;omega⟩);rw[←hac]at HX
        clear hac)
    all_goals first
      |(have _g:ay true:=HF4
        have y9:=HX.out.2.2.1.g9;have y10:=HX.out.2.2.1.g10;have y11:=HX.out.2.2.1.g11;have y12:=HX.out.2.2.1.g12;have y13:=HX.out.2.2.1.g13;go_wp2_with fail;refine(nH S e.doc _ _ (fun b hb=>Nat.lt_of_lt_of_le (HS.out b hb) HX.out.2.1.size) (HA.out.below HS.out HX.out.2.1).doc HD.out.docz (by have:=HMM.out.doc;rw[if_pos C.out.2.2.2.1]at this;exact tu this)).mono ?_;rintro q wn ⟨x,rfl,hx,hb⟩;have HY:Hid (ao wn w.heap.size _ ac3∧Below w.heap.size w wn∧aN wn w.heap.size e IA ic IA' ic' DA dc DA' dc' LA lc∧Rd wn wn.heap.size x (cp e.doc)):=hid ⟨HX.out.1.below hb,HX.out.2.1.trans (hb.mono HX.out.2.1.size),HX.out.2.2.1.below hb,hx.rd⟩;have HLP:=hid HX.out.2.2.2;clear hx hb HX y9 y10 y11 y12 y13;go_wp2_with(at_builtin;go_must (refine af rfl _ _ rfl w.heap.size _ ac3 rfl HY.out.1 wn.heap.size x (cp e.doc) rfl HY.out.2.2.2 HY.out.2.1.size (by have:=HLP.out;have:=(HKH.out.doc);omega) ?_));intro vm wm hv hg;obtain⟨ac4,hac⟩: ∃a,a=ac3++cp e.doc:=⟨_,rfl⟩;have HX:Hid (ao wm w.heap.size vm ac4∧Below w.heap.size w wm∧aN wm w.heap.size e IA ic IA' ic' DA dc DA' dc' LA lc∧ac4.length≤15000):=hid ⟨by rw[hac];exact hv,aq HY.out.2.1 HY.out.1 HY.out.2.1.size hg,dq HY.out.2.2.1 (au HY.out.1 hg),by rw[hac,List.length_append];have:=HLP.out;have:=(HKH.out.doc);omega⟩;have HC4:Hid (ac4=ac3++if bn e.kind=true then cp e.doc else []):=hid (by rw[hac,if_pos C.out.2.2.2.1])
        clear hv hg hac HY HLP)
      |(have _g:ay false:=HF4
        obtain⟨ac4,hac⟩: ∃a,a=ac3:=⟨_,rfl⟩;have HC4:Hid (ac4=ac3++if bn e.kind=true then cp e.doc else []):=hid (by rw[hac,C.out.2.2.2.1];simp);have HX:=hid (show _∧_∧_∧ac4.length≤15000 from⟨HX.out.1,HX.out.2.1,HX.out.2.2.1,by rw[hac];have:=HX.out.2.2.2;omega⟩);rw[←hac]at HX
        clear hac)
    all_goals first
      |(have _g:ay true:=HF5
        have y14:=HX.out.2.2.1.g14;go_wp2_with fail;refine(sd S LA lc e.dels _ (fun b hb=>Nat.lt_of_lt_of_le (HS.out b hb) HX.out.2.1.size) (HA.out.below HS.out HX.out.2.1).dels (HD.out.dels (cM (HKH.out.dels C.out.2.2.2.2).1).1).2 (HKH.out.dels C.out.2.2.2.2).1).mono ?_;rintro q wn ⟨x,rfl,hx,hb⟩;have HY:Hid (ao wn w.heap.size _ ac4∧Below w.heap.size w wn∧aN wn w.heap.size e IA ic IA' ic' DA dc DA' dc' LA lc∧Rd wn wn.heap.size x (bF e.dels)):=hid ⟨HX.out.1.below hb,HX.out.2.1.trans (hb.mono HX.out.2.1.size),HX.out.2.2.1.below hb,hx.rd⟩;have HLP:=hid HX.out.2.2.2;clear hx hb HX y14;go_wp2_with(at_builtin;go_must (refine af rfl _ _ rfl w.heap.size _ ac4 rfl HY.out.1 wn.heap.size x (bF e.dels) rfl HY.out.2.2.2 HY.out.2.1.size (by have:=HLP.out;have:=(HKH.out.dels C.out.2.2.2.2 |>.2);omega) ?_));intro vm wm hv hg;obtain⟨ac5,hac⟩: ∃a,a=ac4++bF e.dels:=⟨_,rfl⟩;have HX:Hid (ao wm w.heap.size vm ac5∧Below w.heap.size w wm∧aN wm w.heap.size e IA ic IA' ic' DA dc DA' dc' LA lc∧ac5.length≤135000000):=hid ⟨by rw[hac];exact hv,aq HY.out.2.1 HY.out.1 HY.out.2.1.size hg,dq HY.out.2.2.1 (au HY.out.1 hg),by rw[hac,List.length_append];have:=HLP.out;have:=(HKH.out.dels C.out.2.2.2.2 |>.2);omega⟩;have HC5:Hid (ac5=ac4++if aX e.kind=true then bF e.dels else []):=hid (by rw[hac,if_pos C.out.2.2.2.2])
        clear hv hg hac HY HLP)
      |(have _g:ay false:=HF5
        obtain⟨ac5,hac⟩: ∃a,a=ac4:=⟨_,rfl⟩;have HC5:Hid (ac5=ac4++if aX e.kind=true then bF e.dels else []):=hid (by rw[hac,C.out.2.2.2.2];simp);have HX:=hid (show _∧_∧_∧ac5.length≤135000000 from⟨HX.out.1,HX.out.2.1,HX.out.2.2.1,by rw[hac];have:=HX.out.2.2.2;omega⟩);rw[←hac]at HX
        clear hac)
    all_goals
      go_wp2_with fail;go_ret;refine⟨_,rfl,?_,HX.out.2.1⟩;have hfin:dp e=ac5:=by rw[HCE.out,HC5.out,HC4.out,HC3.out,HC2.out,HC1.out,HC0.out,HA8.out];simp[List.append_assoc]
      rw[hfin];exact HX.out.1
theorem xI {w:World}{S:Nat→Prop}{e:bh}{cs:Array Value}(h:dr w S e cs)(hd:SmE e)(hm:cd e=true):nz e:=by
 obtain⟨IA,ic,IA',ic',DA,dc,DA',dc',LA,lc,-,hat⟩:=h.at;refine⟨⟨hd.idz,pf _ _ _ (Nat.le_refl _) hat.id⟩,⟨hd.docz,pf _ _ _ (Nat.le_refl _) hat.doc⟩,?_,hat.dels.rng⟩;have hdm:=((gS e).1 hm).dels
 split at hdm
 ·unfold ew at hdm;simp only[Bool.and_eq_true,decide_eq_true_eq]at hdm;exact(hd.dels (cM hdm.1.1).1).2
 ·exact(hd.dels (by omega)).2
theorem Rd.lenE {w:World}{B:Nat}{v:Value}{l:List UInt8}(h:Rd w B v l):l.length≤9223372036854775807:=by
 obtain⟨A,cap,-,h2,h3,-⟩:=h;omega
end Go.Proofs.YtgfidiocmiolpaaGreat
/- The message that comes next, plain: a message's code is read back, and what was read has that code. -/
namespace Go.Proofs.YtgfidiocmiolpaaGreat
def rdM (st:Option (List UInt8)):bw×Option (List UInt8):=
 let k:=al st;let f:=al k.2;let t:=al f.2;let e:=ah 1099511627776 t.2;let i:=bC (bf k.1) 0 (ah 1099511627776) e.2;let l:=bC (dg k.1) 0 (ah 1099511627776) i.2;let c:=bC (aU k.1) 0 (ah 1099511627776) l.2;let r:=bC (bl k.1) 0 (ah 1099511627776) c.2;let o:=bC (hOk k.1) false gB r.2;let n:=bC (bm k.1) [] gW o.2;let s:=bC (bx k.1) [] (ar 65536) n.2
 (⟨k.1,f.1,t.1,e.1,i.1,l.1,c.1,r.1,o.1,n.1,s.1⟩,s.2)
theorem zN :rdE none=(eH,none):=by kernel_rfl
theorem oS (es:List bh)(r:List UInt8)(hm: ∀e∈es,cd e=true)(hf: ∀e∈es,nz e): ∀k,k≤es.length→gi (some (bY es++r)) k=(es.take k,some (bY (es.drop k)++r))
 |0,_=>rfl
 |k+1,hk=>by
  unfold gi;rw[oS es r hm hf k (by omega)];have hd:es.drop k=es[k]::es.drop (k+1):=List.drop_eq_getElem_cons (by omega)
  have hc:bY (es.drop k)++r=dp es[k]++(bY (es.drop (k+1))++r):=by
   rw[hd];unfold bY;rw[List.map_cons,List.flatten_cons,List.append_assoc]
  dsimp only;rw[hc,yz (hm _ (List.getElem_mem _)) (hf _ (List.getElem_mem _))];dsimp only;rw[List.take_add_one,List.getElem?_eq_getElem (by omega)];rfl
theorem vN {es:List bh}(h8:es.length≤8)(hm: ∀e∈es,cd e=true)(hf: ∀e∈es,nz e)(r:List UInt8):gW (some (go es++r))=(es,some r):=by
 unfold gW go;rw[List.append_assoc,show ah 8 (some (grp es.length++(bY es++r)))=(es.length,some (bY es++r)) from bQ (m:=8) _ h8 (by omega)];dsimp only;rw[oS es r hm hf es.length (Nat.le_refl _),List.take_length,List.drop_length];rfl
theorem zT :RdI gB fun b=>[if b then 1 else 0]:=⟨rfl,fun l b r _ h=>by
 unfold gB at h;injection h with h1 h2
 by_cases hlt:1<(al (some l)).1
 ·rw[if_pos hlt]at h2;cases h2
 ·rw[if_neg hlt]at h2;have e:=(eh (show al (some l)=((al (some l)).1,some r) from Prod.ext rfl h2)).1;rw[e,←h1];generalize (al (some l)).1=n at *;obtain rfl|rfl:n=0∨n=1:=by omega
  ·rfl
  ·rfl⟩
theorem uL (b:Bool)(r:List UInt8):gB (some ([if b then 1 else 0]++r))=(b,some r):=by cases b<;>rfl
theorem kO (k:Int):cO (aW k) 1=bf k:=ox k
theorem pA (k:Int):cO (aW k) 2=dg k:=tZ k
theorem jJ (k:Int):cO (aW k) 4=aU k:=nF k
theorem kJ (k:Int):cO (aW k) 8=bl k:=oD k
theorem xU (m:bw):eA m= [UInt8.ofNat m.kind.toNat]++([UInt8.ofNat m.frm.toNat]++([UInt8.ofNat m.tgt.toNat]++(grp m.term.toNat++((if bf m.kind=true then grp m.index.toNat else [])++((if dg m.kind=true then grp m.logTerm.toNat else [])++((if aU m.kind=true then grp m.commit.toNat else [])++((if bl m.kind=true then grp m.round.toNat else [])++
  ((if hOk m.kind=true then [if m.ok then 1 else 0]else [])++((if bm m.kind=true then go m.ents else [])++(if bx m.kind=true then txt ⟨m.snap.toArray⟩else [])))))))))):=by
 unfold eA cR fB;rw[kO,pA,jJ,kJ];simp
theorem ka {x:Int}{b:Bool}(h:dD x b=true):(b=false→x=0)∧0≤x∧x≤1099511627776:=by
 unfold dD at h;simp only[Bool.and_eq_true,decide_eq_true_eq]at h;cases b
 ·exact⟨fun _=>by have:=h.2;simp at this;omega,h.1,by have:=h.2;simp at this;omega⟩
 ·exact⟨fun e=>(by cases e),h.1,h.2⟩
theorem xV {m:bw}(h:cC m=true)(hf: ∀e∈m.ents,nz e)(r:List UInt8):rdM (some (eA m++r))=(m,some r):=by
 have F:=eY h;rw[xU];unfold cC at h;simp only[Bool.and_eq_true,decide_eq_true_eq]at h;obtain⟨⟨⟨⟨⟨-,-⟩,-⟩,-⟩,hn⟩,hr⟩:=h;unfold dI at hn;unfold i6 at hr;simp only[Bool.and_eq_true,decide_eq_true_eq,Bool.or_eq_true,Bool.not_eq_true']at hn hr;obtain⟨⟨⟨n1,n2⟩,n3⟩,n4⟩:=hn;obtain⟨⟨⟨⟨r1,r2⟩,r3⟩,-⟩,r5⟩:=hr;obtain⟨K,G,T,E,I,L,C,R,O,N,S⟩:=m;simp only at F n1 n2 n3 n4 r1 r2 r3 r5 hf ⊢;obtain⟨fk,ff,ft,fe,-,fm,fl,fs⟩:=F;simp only at fk ff ft fe fm fl fs;have m1:=ka n1;have m2:=ka n2;have m3:=ka n3;have m4:=ka n4;obtain⟨K,rfl⟩: ∃n:Nat,K=(n:Int):=⟨K.toNat,by omega⟩;obtain⟨G,rfl⟩: ∃n:Nat,G=(n:Int):=⟨G.toNat,by omega⟩;obtain⟨T,rfl⟩: ∃n:Nat,T=(n:Int):=⟨T.toNat,by omega⟩;obtain⟨E,rfl⟩: ∃n:Nat,E=(n:Int):=⟨E.toNat,by omega⟩;obtain⟨I,rfl⟩: ∃n:Nat,I=(n:Int):=⟨I.toNat,by omega⟩;obtain⟨L,rfl⟩: ∃n:Nat,L=(n:Int):=⟨L.toNat,by omega⟩;obtain⟨C,rfl⟩: ∃n:Nat,C=(n:Int):=⟨C.toNat,by omega⟩;obtain⟨R,rfl⟩: ∃n:Nat,R=(n:Int):=⟨R.toNat,by omega⟩
 have hb: ∀(K:Nat),(K:Int)≤255→ ∀x,al (some ([UInt8.ofNat ((K:Int).toNat)]++x))=(K,some x):=fun K hK x=>by
  show((UInt8.ofNat (K:Int).toNat).toNat,some x)=_;rw[Int.toNat_natCast,UInt8.toNat_ofNat',Nat.mod_eq_of_lt (by omega)]
 have hc: ∀(n:Nat),(n:Int)≤1099511627776→ ∀x,ah 1099511627776 (some (grp n++x))=(n,some x):=fun n hn x=>bQ (m:=1099511627776) x (by omega) (by omega);have ho: ∀(b:Bool) (n:Nat),(b=false→(n:Int)=0)→(n:Int)≤1099511627776→ ∀x,bC b 0 (ah 1099511627776) (some ((if b=true then grp n else [])++x))=(n,some x):=fun b n h0 hn x=>eC (fun _=>hc n hn x) (fun e=>by have:=h0 e;omega);have hO: ∀x,bC (hOk (K:Int)) false gB (some ((if hOk (K:Int)=true then [if O then 1 else 0]else [])++x))=(O,some x):=fun x=>eC (fun _=>uL O x) (fun e=>by rcases r1 with h|h;(· rw[h]at e;cases e);exact h);have hN: ∀x,bC (bm (K:Int)) [] gW (some ((if bm (K:Int)=true then go N else [])++x))=(N,some x):=fun x=>eC (fun _=>vN fl fm hf x) (fun e=>by rw[e,if_neg (by decide)]at r2;exact List.eq_nil_of_length_eq_zero (by omega))
 have hS: ∀x,bC (bx (K:Int)) [] (ar 65536) (some ((if bx (K:Int)=true then txt ⟨S.toArray⟩else [])++x))=(S,some x):=fun x=>eC (fun _=>by
  have h:=fj (m:=65536) (s:=⟨S.toArray⟩) x (by show S.toArray.size≤_;simpa using fs) (by omega)
  exact h) (fun e=>by rw[e,if_neg (by decide)]at r3;exact List.eq_nil_of_length_eq_zero (by omega))
 unfold rdM;simp only[List.append_assoc,Int.toNat_natCast]at hb ⊢;rw[hb K (by omega)];dsimp only;rw[hb G (by omega)];dsimp only;rw[hb T (by omega)];dsimp only;rw[hc E (by omega)];dsimp only;rw[ho _ I m1.1 m1.2.2];dsimp only;rw[ho _ L m2.1 m2.2.2];dsimp only;rw[ho _ C m3.1 m3.2.2];dsimp only;rw[ho _ R m4.1 m4.2.2];dsimp only;rw[hO];dsimp only;rw[hN];dsimp only;rw[hS]
end Go.Proofs.YtgfidiocmiolpaaGreat
/- A message while it is read: its box, the variable that holds the source, and the source. -/
namespace Go.Proofs.YtgfidiocmiolpaaGreat
open Go.RowKit Go.Joins
def gh (n:Nat→Int)(o E S:Value):Array Value:= #[.int .i64 (n 0),.int .i64 (n 1),.int .i64 (n 2),.int .i64 (n 3),.int .i64 (n 4),.int .i64 (n 5),.int .i64 (n 6),.int .i64 (n 7),o,E,S]
def upd (n:Nat→Int)(i:Nat)(v:Int):Nat→Int:=fun j=>if j=i then v else n j
theorem yt (n:Nat→Int)(i:Nat)(v:Int)(j:Nat)(h: ¬j=i):upd n i v j=n j:=if_neg h
theorem jX (n:Nat→Int)(i:Nat)(v:Int)(o E S:Value)(hi:i<8):(gh n o E S).setIfInBounds i (.int .i64 v)=gh (upd n i v) o E S:=by
 obtain rfl|rfl|rfl|rfl|rfl|rfl|rfl|rfl:i=0∨i=1∨i=2∨i=3∨i=4∨i=5∨i=6∨i=7:=by omega
 all_goals rfl
def gP (j:Nat)(k:Int)(st:Option (List UInt8)):Nat×Option (List UInt8):=
 if j<3 then al st else if j=3 then ah 1099511627776 st else bC (cO (aW k) ((2 ^ (j - 4):Nat):Int)) 0 (ah 1099511627776) st
def aD (st:Option (List UInt8)):Nat→(Nat→Int)×Option (List UInt8)
 |0=>(fun _=>0,st)
 |j+1=>(upd (aD st j).1 j ((gP j ((aD st j).1 0) (aD st j).2).1:Int),(gP j ((aD st j).1 0) (aD st j).2).2)
theorem jY (st:Option (List UInt8))(j:Nat):aD st (j+1)=(upd (aD st j).1 j ((gP j ((aD st j).1 0) (aD st j).2).1:Int),(gP j ((aD st j).1 0) (aD st j).2).2):=rfl
theorem s7 (st:Option (List UInt8))(j:Nat): ∀i,j≤i→(aD st j).1 i=0:=by
 induction j with
 |zero=>exact fun _ _=>rfl
 |succ j ih=>
  intro i h;rw[jY st j];dsimp only;rw[yt _ _ _ _ (show ¬i=j by omega)];exact ih i (by omega)
theorem ig (st:Option (List UInt8))(j:Nat):(aD st (j+1)).1 0=(aD st 1).1 0:=by
 induction j with
 |zero=>exact Eq.refl _
 |succ j ih=>
  rw[jY st (j+1)];dsimp only;rw[yt _ _ _ _ (show ¬0=j+1 by omega)];exact ih
def nY (p:(Nat→Int)×Option (List UInt8)):bw×Option (List UInt8):=
 let o:=bC (hOk (p.1 0)) false gB p.2;let n:=bC (bm (p.1 0)) [] gW o.2;let s:=bC (bx (p.1 0)) [] (ar 65536) n.2
 (⟨p.1 0,p.1 1,p.1 2,p.1 3,p.1 4,p.1 5,p.1 6,p.1 7,o.1,n.1,s.1⟩,s.2)
theorem oW (st:Option (List UInt8)):rdM st=nY (aD st 8):=by
 have e:aD st 8=(upd (upd (upd (upd (upd (upd (upd (upd (fun _=>0) 0 (al st).1) 1 (al (al st).2).1) 2 (al (al (al st).2).2).1) 3 (ah 1099511627776 (al (al (al st).2).2).2).1)
   4 (bC (cO (aW (al st).1) 1) 0 (ah 1099511627776) (ah 1099511627776 (al (al (al st).2).2).2).2).1)
   5 (bC (cO (aW (al st).1) 2) 0 (ah 1099511627776) (bC (cO (aW (al st).1) 1) 0 (ah 1099511627776) (ah 1099511627776 (al (al (al st).2).2).2).2).2).1)
   6 (bC (cO (aW (al st).1) 4) 0 (ah 1099511627776) (bC (cO (aW (al st).1) 2) 0 (ah 1099511627776) (bC (cO (aW (al st).1) 1) 0 (ah 1099511627776) (ah 1099511627776 (al (al (al st).2).2).2).2).2).2).1)
   7 (bC (cO (aW (al st).1) 8) 0 (ah 1099511627776) (bC (cO (aW (al st).1) 4) 0 (ah 1099511627776) (bC (cO (aW (al st).1) 2) 0 (ah 1099511627776) (bC (cO (aW (al st).1) 1) 0 (ah 1099511627776) (ah 1099511627776 (al (al (al st).2).2).2).2).2).2).2).1,
   (bC (cO (aW (al st).1) 8) 0 (ah 1099511627776) (bC (cO (aW (al st).1) 4) 0 (ah 1099511627776) (bC (cO (aW (al st).1) 2) 0 (ah 1099511627776) (bC (cO (aW (al st).1) 1) 0 (ah 1099511627776) (ah 1099511627776 (al (al (al st).2).2).2).2).2).2).2).2):=rfl
 rw[e];rw[kO,pA,jJ,kJ];rfl
structure ez (w0 w:World)(s:Nat)(cs:Array Value)(st:Option (List UInt8)):Prop where
 var:w.heap[w0.heap.size]? =some (.cells #[.pointer (some ⟨s,0,none⟩)] 59 (0,0))
 res:w.heap[w0.heap.size+1]? =some (.cells #[.int .i64 0,.int .i64 0,.int .i64 0,.int .i64 0,.int .i64 0,.int .i64 0,.int .i64 0,.int .i64 0,.bool false,.slice none 0 0,.slice none 0 0] 25 (0,0))
 box:w.heap[w0.heap.size+2]? =some (.cells cs 25 (0,0))
 src:aK w s st
 only:az w0 w s
 s0:s<w0.heap.size
section
variable {w0 w w':World} {s:Nat} {cs cs':Array Value} {st st':Option (List UInt8)}
theorem ez.lt (h:ez w0 w s cs st):w0.heap.size+2<w.heap.size:=(Array.getElem?_eq_some_iff.1 h.box).1
theorem ez.call (h:ez w0 w s cs st)(ho:az w w' s)(hs:aK w' s st'):ez w0 w' s cs st':=
 have h3:=h.s0
 ⟨cX ho h.var (by omega),cX ho h.res (by omega),cX ho h.box (by omega),hs,nj h.only ho,h3⟩
theorem ez.below (h:ez w0 w s cs st)(hb:Below w.heap.size w w'):ez w0 w' s cs st:=
 h.call (az.ofBelow hb) (h.src.of (hb.block s h.src.lt))
theorem ez.store (h:ez w0 w s cs st)(hg:w'.heap[w0.heap.size+2]? =some (.cells cs' 25 (0,0)))(ho:az w w' (w0.heap.size+2)):ez w0 w' s cs' st:=
 have h3:=h.s0
 ⟨cX ho h.var (by omega),cX ho h.res (by omega),hg,h.src.of (nC ho h.src.lt (by omega)),fS h.only ho (by omega),h3⟩
theorem ez.but (h:ez w0 w s cs st)(hg:w'.heap[w0.heap.size+2]? =some (.cells cs' 25 (0,0)))(hs:aK w' s st')(ho:lA (w0.heap.size+2) s w w'):ez w0 w' s cs' st':=
 have h3:=h.s0;have hl:=h.lt
 ⟨(ho.block _ (by omega) (by omega) (by omega)).trans h.var,(ho.block _ (by omega) (by omega) (by omega)).trans h.res,hg,hs,⟨ho.os.trans h.only.os,ho.tape.trans h.only.tape,ho.output.trans h.only.output,Nat.le_trans h.only.size ho.size,fun b hb hne=>(ho.block b (Nat.lt_of_lt_of_le hb h.only.size) (by omega) (by intro e;apply hne;rw[e])).trans (h.only.block b hb hne)⟩,h3⟩
theorem ez.start (hs:aK w s st):ez w (((w.alloc (.cells #[.pointer (some ⟨s,0,none⟩)] 59)).alloc (.cells #[.int .i64 0,.int .i64 0,.int .i64 0,.int .i64 0,.int .i64 0,.int .i64 0,.int .i64 0,.int .i64 0,.bool false,.slice none 0 0,.slice none 0 0] 25)).alloc (.cells #[.int .i64 0,.int .i64 0,.int .i64 0,.int .i64 0,.int .i64 0,.int .i64 0,.int .i64 0,.int .i64 0,.bool false,.slice none 0 0,.slice none 0 0] 25)) s (gh (aD st 0).1 (.bool false) (.slice none 0 0) (.slice none 0 0)) (aD st 0).2:=by
 have hz1:(w.alloc (.cells #[.pointer (some ⟨s,0,none⟩)] 59)).heap.size=w.heap.size+1:=by simp
 have hz2:((w.alloc (.cells #[.pointer (some ⟨s,0,none⟩)] 59)).alloc (.cells #[.int .i64 0,.int .i64 0,.int .i64 0,.int .i64 0,.int .i64 0,.int .i64 0,.int .i64 0,.int .i64 0,.bool false,.slice none 0 0,.slice none 0 0] 25)).heap.size=w.heap.size+2:=by simp
 refine⟨?_,?_,?_,((hs.alloc _).alloc _).alloc _,(((az.refl w s).alloc _).alloc _).alloc _,hs.lt⟩
 ·rw[Below.heap_alloc _ _ _ (by omega),Below.heap_alloc _ _ _ (by omega)];exact heap_alloc_new _ _
 ·rw[Below.heap_alloc _ _ _ (by omega),←hz1];exact heap_alloc_new _ _
 ·rw[←hz2];exact heap_alloc_new _ _
end
theorem vW (l:List UInt8)(hl:l.length≤140737488351232)(w:World): ∃A c w2,(convert 9 23 (.string ⟨l.toArray⟩)).run Tryz.prog w= .ok (.slice A l.length c) w2∧Below w.heap.size w w2∧l.length≤c∧(c≤9223372036854775807∧(A=none→c=0))∧cV w2 (fun b=>b=w.heap.size) A l∧w2.heap.size=w.heap.size+1:=by
 have hsz:(⟨l.toArray⟩:ByteArray).size=l.length:=by simp[ByteArray.size]
 have hg:=grownCap_ge w l.length 0 5;have hg2:=grownCap_le_maxLen w l.length 0 5 (by unfold maxLen;omega);unfold maxLen at hg2;have hrun:=Lib.run_convert_string_bytes w 9 23 5 ⟨l.toArray⟩ Tryz.underlying9 Tryz.underlying23 Tryz.underlying5;rw[hsz]at hrun;refine⟨_,_,_,hrun,Go.Joins.below_bytesWorld _ _ _ _ (Nat.le_refl _),hg,⟨by omega,fun h=>by cases h⟩,fun hp=>⟨w.heap.size,0,rfl,rfl,fun i hi=> ?_⟩,Lib.bytesWorld_size _ _ _⟩;rw[Nat.zero_add,Lib.bytesWorld_cell w _ _ i (by rw[hsz];exact hi)]
 congr 2
 simp[List.getD,List.getElem?_eq_getElem hi]
theorem pj :ei 70:=fun _ _=>by simp[callFunc,go_sem,Tryz.func70,Tryz.f70]
theorem nU (w0:World)(s:Nat)(st:Option (List UInt8))(L:Int)(w:World)(h:ez w0 w s (gh (aD st 4).1 (.bool false) (.slice none 0 0) (.slice none 0 0)) (aD st 4).2)(hL:L=aW ((aD st 4).1 0)):
  Calls Tryz.prog 63 #[.int .i64 L,.pointer (some ⟨w0.heap.size+2,0,none⟩),.func (.func 70) #[] #[.pointer (some ⟨w0.heap.size,0,none⟩)]] w fun e w'=>e= .returned (.tuple #[])∧ez w0 w' s (gh (aD st 8).1 (.bool false) (.slice none 0 0) (.slice none 0 0)) (aD st 8).2:=by
 have hk: ∀j,(aD st (4+j)).1 0=(aD st 4).1 0:=fun j=>by
  rw[show 4+j=(3+j)+1 by omega,ig st (3+j),show 4=3+1 from rfl,ig st 3]
 have hr: ∀j,j<4→gP (4+j) ((aD st (4+j)).1 0)=bC (cO L ((2 ^ j:Nat):Int)) 0 (ah 1099511627776):=fun j hj=>by
  rw[hk j,hL];unfold gP;funext x;rw[if_neg (by omega),if_neg (by omega),show 4+j - 4=j by omega]
 have hno0: ∀j,(aD st (4+j)).1 (4+j)=0:=fun j=>s7 st (4+j) (4+j) (Nat.le_refl _);have hs1: ∀j,aD st (4+(j+1))=(upd (aD st (4+j)).1 (4+j) ((gP (4+j) ((aD st (4+j)).1 0) (aD st (4+j)).2).1:Int),(gP (4+j) ((aD st (4+j)).1 0) (aD st (4+j)).2).2):=fun j=>jY st (4+j);refine om 70 #[.pointer (some ⟨w0.heap.size,0,none⟩)] pj (w0.heap.size+2) L (fun j u=>ez w0 u s (gh (aD st (4+j)).1 (.bool false) (.slice none 0 0) (.slice none 0 0)) (aD st (4+j)).2) w (fun j u u' hu hb=>hu.below hb) (fun j u hj hx hu=> ?_) (fun j u hj hx hu=> ?_) h
 ·rw[hs1,hr j hj];unfold bC;rw[hx]
  have e:upd (aD st (4+j)).1 (4+j) ((0:Nat):Int)=(aD st (4+j)).1:=by
   funext i;unfold upd
   split
   ·next hi=>rw[hi,hno0 j];rfl
   ·rfl
  simp only[Bool.false_eq_true,if_false];rw[e];exact hu
 ·refine(tG (w0.heap.size+2) (4+j) w0.heap.size s 59 _ _ u hu.box (by show 4+j<11;omega) hu.var hu.src (by have:=hu.s0;omega)).mono ?_;rintro e u' ⟨rfl,h1,h2,h3⟩;refine⟨rfl,?_⟩;rw[hs1,hr j hj];unfold bC;rw[hx];simp only[if_true];rw[jX _ _ _ _ _ _ (by omega)]at h1;exact hu.but h1 h2 h3
theorem ye (j:Nat)(k:Int)(st:Option (List UInt8)):(gP j k st).1≤1099511627776:=by
 have h1:=oK st;have h2:=b8 1099511627776 st (by omega);unfold gP
 split
 ·omega
 ·split
  ·omega
  ·unfold bC
   split
   ·omega
   ·show 0≤_;omega
theorem ou (st:Option (List UInt8)): ∀j i,0≤(aD st j).1 i∧(aD st j).1 i≤1099511627776
 |0,i=>⟨Int.le_refl _,by show(0:Int)≤_;omega⟩
 |j+1,i=>by
  have h:=ye j ((aD st j).1 0) (aD st j).2;show 0≤upd (aD st j).1 j _ i∧upd (aD st j).1 j _ i≤_;unfold upd
  split
  ·omega
  ·exact ou st j i
end Go.Proofs.YtgfidiocmiolpaaGreat
