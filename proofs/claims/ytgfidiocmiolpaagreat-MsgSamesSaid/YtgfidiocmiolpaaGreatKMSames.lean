/- Whether two messages that may be are the same: as the document says. No conditions. -/
import Derived.Test.YtgfidiocmiolpaaGreatKMhB
import Derived.Test.YtgfidiocmiolpaaGreatKMhA
import Derived.SizedLaws
import Derived.ProofKit
import Derived.OpenShut
import Derived.ShutString
import Derived.ChangeOld
import Derived.ChangeMaps5
import Derived.Below
set_option maxHeartbeats 64000000
set_option maxRecDepth 100000
set_option linter.unusedVariables false
set_option linter.unusedSimpArgs false
namespace Go.Proofs.YtgfidiocmiolpaaGreat.MSames
open Go.ChangeShapes Go.WideShapes Go.ChangeAt Go.RowKit Go.Joins
theorem own :ownKnob Tryz.prog.godebug=none:=by kernel_rfl
theorem laidOut :laidOutB Tryz.prog=true:=by kernel_rfl
theorem same_of {a b:aQ}{r d:Bool}(h:r=true↔a=b)(k:d=true↔a=b):r=d:=by
 cases r<;>cases d<;>simp_all
theorem walk (a b:aQ)(EA:Option Addr)(ec:Nat)(SA:Option Addr)(sc:Nat)(FA:Option Addr)(fc:Nat)(TA:Option Addr)(tc:Nat)(w:World)(h:aT w (fun b=>b<w.heap.size) a EA ec SA sc)(k:aT w (fun b=>b<w.heap.size) b FA fc TA tc):Calls Tryz.prog 6 #[.agg #[.int .i64 a.kind,.int .i64 a.frm,.int .i64 a.tgt,.int .i64 a.term,.int .i64 a.index,.int .i64 a.logTerm,.int .i64 a.commit,.int .i64 a.round,.bool a.ok,.slice EA a.ents.length ec,.slice SA a.snap.length sc],.agg #[.int .i64 b.kind,.int .i64 b.frm,.int .i64 b.tgt,.int .i64 b.term,.int .i64 b.index,.int .i64 b.logTerm,.int .i64 b.commit,.int .i64 b.round,.bool b.ok,.slice FA b.ents.length fc,.slice TA b.snap.length tc]] w fun q w'=>q= .returned (.bool true)∧Below w.heap.size w w':=by
 have HSMF:=Lib.hid (And.intro (fun q=>(kC h q).1) (fun q=>(kC k q).1));have HFIN:=Lib.hid (And.intro (fine_msg h) (fine_msg k));obtain⟨v1,hv1⟩: ∃W,W=w.alloc (.cells #[.int .i64 a.kind,.int .i64 a.frm,.int .i64 a.tgt,.int .i64 a.term,.int .i64 a.index,.int .i64 a.logTerm,.int .i64 a.commit,.int .i64 a.round,.bool a.ok,.slice EA a.ents.length ec,.slice SA a.snap.length sc] 25):=⟨_,rfl⟩;obtain⟨w1,hw1⟩: ∃W,W=v1.alloc (.cells #[.int .i64 b.kind,.int .i64 b.frm,.int .i64 b.tgt,.int .i64 b.term,.int .i64 b.index,.int .i64 b.logTerm,.int .i64 b.commit,.int .i64 b.round,.bool b.ok,.slice FA b.ents.length fc,.slice TA b.snap.length tc] 25):=⟨_,rfl⟩;have hb1:Below w.heap.size w v1:=by rw[hv1];exact ae _
 have hb2:Below v1.heap.size v1 w1:=by rw[hw1];exact ae _
 have hz1:v1.heap.size=w.heap.size+1:=by rw[hv1];simp
 have HK:Hid (bx w1 w.heap.size a EA ec SA sc):=Lib.hid ((hb2.block _ (by omega)).trans (by rw[hv1];exact heap_alloc_new w _));have HJ:Hid (bx w1 (w.heap.size+1) b FA fc TA tc):=Lib.hid (by rw[←hz1,hw1];exact heap_alloc_new v1 _);have HB:Hid (Below w.heap.size w w1):=Lib.hid (hb1.trans (hb2.mono (by omega)));have HA:=Lib.hid (h.up HB.out);have HC:=Lib.hid (k.up HB.out);clear hb1 hb2 hz1 h k;go_enter Tryz.func6,Tryz.ntmps6;go_wp2_with fail;rw[←hv1,←hw1];clear hv1 hw1;have HCL:=Lib.hid (fD (fun b=>b<w1.heap.size) a EA ec SA sc w1 (fun b hb=>hb) HA.out);go_wp2_with(first|(refine ap (by rfl) _ rfl w.heap.size rfl _ _ HK.out rfl ?_;simp only[acR,Act.put])|(refine ap (by rfl) _ rfl (w.heap.size+1) rfl _ _ HJ.out rfl ?_;simp only[acR,Act.put]));refine HCL.out.mono ?_;rintro q w2 ⟨rfl,hb⟩;have HB:=Lib.hid (HB.out.trans (hb.mono HB.out.size));have HK:=Lib.hid (HK.out.below hb);have HJ:=Lib.hid (HJ.out.below hb);have HA:=Lib.hid (HA.out.up hb);have HC:=Lib.hid (HC.out.up hb);clear hb HCL;cases hq:ij a
 case true=>
  clear hq;go_wp2_with fail;refine(lives22_any _).mono ?_;rintro q v9 ⟨rfl,hb⟩;have HF:=Lib.hid (HB.out.trans (hb.mono HB.out.size));clear hb;go_wp2_with fail;go_ret;exact⟨rfl,HF.out⟩
 have HSA:=Lib.hid (HSMF.out.1 hq);clear hq;have HCL:=Lib.hid (fD (fun b=>b<w2.heap.size) b FA fc TA tc w2 (fun b hb=>hb) HC.out);go_wp2_with(first|(refine ap (by rfl) _ rfl w.heap.size rfl _ _ HK.out rfl ?_;simp only[acR,Act.put])|(refine ap (by rfl) _ rfl (w.heap.size+1) rfl _ _ HJ.out rfl ?_;simp only[acR,Act.put]));refine HCL.out.mono ?_;rintro q w3 ⟨rfl,hb⟩;have HB:=Lib.hid (HB.out.trans (hb.mono HB.out.size));have HK:=Lib.hid (HK.out.below hb);have HJ:=Lib.hid (HJ.out.below hb);have HA:=Lib.hid (HA.out.up hb);have HC:=Lib.hid (HC.out.up hb);clear hb HCL;cases hq:ij b
 case true=>
  clear hq;go_wp2_with fail;refine(lives22_any _).mono ?_;rintro q v9 ⟨rfl,hb⟩;have HF:=Lib.hid (HB.out.trans (hb.mono HB.out.size));clear hb;go_wp2_with fail;go_ret;exact⟨rfl,HF.out⟩
 have HSB:=Lib.hid (HSMF.out.2 hq);clear hq;have HCL:=Lib.hid (ie (fun b=>b<w3.heap.size) a EA ec SA sc w3 (fun b hb=>hb) HA.out HSA.out);go_wp2_with(first|(refine ap (by rfl) _ rfl w.heap.size rfl _ _ HK.out rfl ?_;simp only[acR,Act.put])|(refine ap (by rfl) _ rfl (w.heap.size+1) rfl _ _ HJ.out rfl ?_;simp only[acR,Act.put]));refine HCL.out.mono ?_;rintro q w4 ⟨rfl,hb⟩;have HB:=Lib.hid (HB.out.trans (hb.mono HB.out.size));have HK:=Lib.hid (HK.out.below hb);have HJ:=Lib.hid (HJ.out.below hb);have HA:=Lib.hid (HA.out.up hb);have HC:=Lib.hid (HC.out.up hb);clear hb HCL;cases hq:bK a
 case false=>
  clear hq;go_wp2_with fail;refine(lives22_any _).mono ?_;rintro q v9 ⟨rfl,hb⟩;have HF:=Lib.hid (HB.out.trans (hb.mono HB.out.size));clear hb;go_wp2_with fail;go_ret;exact⟨rfl,HF.out⟩
 have HMA:=Lib.hid hq;clear hq;have HCL:=Lib.hid (ie (fun b=>b<w4.heap.size) b FA fc TA tc w4 (fun b hb=>hb) HC.out HSB.out);go_wp2_with(first|(refine ap (by rfl) _ rfl w.heap.size rfl _ _ HK.out rfl ?_;simp only[acR,Act.put])|(refine ap (by rfl) _ rfl (w.heap.size+1) rfl _ _ HJ.out rfl ?_;simp only[acR,Act.put]));refine HCL.out.mono ?_;rintro q w5 ⟨rfl,hb⟩;have HB:=Lib.hid (HB.out.trans (hb.mono HB.out.size));have HK:=Lib.hid (HK.out.below hb);have HJ:=Lib.hid (HJ.out.below hb);have HA:=Lib.hid (HA.out.up hb);have HC:=Lib.hid (HC.out.up hb);clear hb HCL;cases hq:bK b
 case false=>
  clear hq;go_wp2_with fail;refine(lives22_any _).mono ?_;rintro q v9 ⟨rfl,hb⟩;have HF:=Lib.hid (HB.out.trans (hb.mono HB.out.size));clear hb;go_wp2_with fail;go_ret;exact⟨rfl,HF.out⟩
 have HMB:=Lib.hid hq;clear hq;have HFA:=Lib.hid (HFIN.out.1 HSA.out HMA.out);have HFB:=Lib.hid (HFIN.out.2 HSB.out HMB.out);obtain⟨d,hd⟩: ∃d,d=iy a b:=⟨_,rfl⟩;have HD1:Hid (d=true↔a=b):=Lib.hid (by rw[hd];exact sameM_iff HMA.out HMB.out HFA.out HFB.out);have HD3:Hid (iy a a=true):=Lib.hid ((sameM_iff HMA.out HMA.out HFA.out HFA.out).2 rfl);have HD0:=Lib.hid hd.symm;clear hd HSMF HFIN;go_wp2_with fail;refine ar [0,1,2,3,5,6,4,7,8,9,10,11,12,13,14,15] (by kernel_rfl) (by kernel_rfl) (fun _ d _ _ _ h=>by cases d<;>exact h) ?_;simp only[atR];have hb:Below w5.heap.size w5 w5.drew:=(Below.refl _ _).drew;have HB:=Lib.hid (HB.out.trans (hb.mono HB.out.size));have HK:=Lib.hid (HK.out.below hb);have HJ:=Lib.hid (HJ.out.below hb);have HA:=Lib.hid (HA.out.up hb);have HC:=Lib.hid (HC.out.up hb);clear hb;generalize w5.drew=u0 at *;first|with_reducible refine ah ?_ (fun K hK=> ?_)|with_reducible refine af ?_ (fun K hK=> ?_)|refine ah ?_ (fun K hK=> ?_)|refine af ?_ (fun K hK=> ?_)
 ·rfl
 go_simp
 refine(lives22_any u0).mono ?_;rintro q u1 ⟨rfl,hb⟩;refine hK _ _ (hb) ?_;clear hK K;try simp only[Act.put]
 have HB:=Lib.hid (HB.out.trans (hb.mono HB.out.size));have HK:=Lib.hid (HK.out.below hb);have HJ:=Lib.hid (HJ.out.below hb);have HA:=Lib.hid (HA.out.up hb);have HC:=Lib.hid (HC.out.up hb);clear hb;first|with_reducible refine ac ?_ |with_reducible refine ab ?_ |refine ac ?_ |refine ab ?_
 simp only[List.takeWhile,List.dropWhile,ai,Nat.reduceBNe];repeat(first|(refine wpQuiet_load_msg rfl (by rfl) _ rfl w.heap.size rfl _ HK.out.later rfl ?_;simp only[acR,Act.put])|(refine wpQuiet_load_msg rfl (by rfl) _ rfl (w.heap.size+1) rfl _ HJ.out.later rfl ?_;simp only[acR,Act.put])|go_big_quiet_step (fail))
 first|with_reducible refine wpQuiet_nil ?_ |refine wpQuiet_nil ?_
 first|with_reducible refine ah ?_ (fun K hK=> ?_)|with_reducible refine af ?_ (fun K hK=> ?_)|refine ah ?_ (fun K hK=> ?_)|refine af ?_ (fun K hK=> ?_)
 ·rfl
 go_simp
 refine(lO a b EA ec SA sc FA fc TA tc u1 HA.out HC.out HSA.out HSB.out).mono ?_;rintro q u2 ⟨rfl,hb⟩;refine hK _ _ (hb) ?_;clear hK K;try simp only[Act.put]
 rw[HD0.out];have HB:=Lib.hid (HB.out.trans (hb.mono HB.out.size));have HK:=Lib.hid (HK.out.below hb);have HJ:=Lib.hid (HJ.out.below hb);have HA:=Lib.hid (HA.out.up hb);have HC:=Lib.hid (HC.out.up hb);clear hb;first|with_reducible refine ah ?_ (fun K hK=> ?_)|with_reducible refine af ?_ (fun K hK=> ?_)|refine ah ?_ (fun K hK=> ?_)|refine af ?_ (fun K hK=> ?_)
 ·rfl
 go_simp
 refine(oE (fun b=>b<u2.heap.size) a b EA ec SA sc FA fc TA tc u2 (fun b hb=>hb) HA.out HC.out).mono ?_;rintro q u3 ⟨⟨r,rfl,hr⟩,hb⟩;refine hK _ _ (hb) ?_;clear hK K;try simp only[Act.put]
 obtain rfl:=same_of hr HD1.out;have HB:=Lib.hid (HB.out.trans (hb.mono HB.out.size));have HK:=Lib.hid (HK.out.below hb);have HJ:=Lib.hid (HJ.out.below hb);have HA:=Lib.hid (HA.out.up hb);have HC:=Lib.hid (HC.out.up hb);clear hb hr;have e3:(r == r)=true:=by simp
 first|with_reducible refine ac ?_ |with_reducible refine ab ?_ |refine ac ?_ |refine ab ?_
 simp only[List.takeWhile,List.dropWhile,ai,Nat.reduceBNe];repeat(first|(refine wpQuiet_load_msg rfl (by rfl) _ rfl w.heap.size rfl _ HK.out.later rfl ?_;simp only[acR,Act.put])|(refine wpQuiet_load_msg rfl (by rfl) _ rfl (w.heap.size+1) rfl _ HJ.out.later rfl ?_;simp only[acR,Act.put])|go_big_quiet_step (fail))
 first|with_reducible refine wpQuiet_nil ?_ |refine wpQuiet_nil ?_
 clear e3;first|with_reducible refine ah ?_ (fun K hK=> ?_)|with_reducible refine af ?_ (fun K hK=> ?_)|refine ah ?_ (fun K hK=> ?_)|refine af ?_ (fun K hK=> ?_)
 ·rfl
 go_simp
 refine(lO a a EA ec SA sc EA ec SA sc u3 HA.out HA.out HSA.out HSA.out).mono ?_;rintro q u4 ⟨rfl,hb⟩;refine hK _ _ (hb) ?_;clear hK K;try simp only[Act.put]
 rw[HD3.out];have HB:=Lib.hid (HB.out.trans (hb.mono HB.out.size));have HK:=Lib.hid (HK.out.below hb);have HJ:=Lib.hid (HJ.out.below hb);have HA:=Lib.hid (HA.out.up hb);have HC:=Lib.hid (HC.out.up hb);clear hb;first|with_reducible refine ac ?_ |with_reducible refine ab ?_ |refine ac ?_ |refine ab ?_
 simp only[List.takeWhile,List.dropWhile,ai];repeat(go_big_quiet_step (fail))
 first|with_reducible refine wpQuiet_nil ?_ |refine wpQuiet_nil ?_
 unfold aF;go_wp2_with fail;go_ret;exact⟨by simp,HB.out⟩
theorem lifted (os:Os)(started:os.Started)(H:Type)(enc:TypeId×Value→H):
  ReturnsInHanded {} Tryz.checked os 6 .any (Rows.msgSamesSpec.pre6 enc Tryz.prog Tryz.f6 Rows.msgSamesRow.domain false) (Rows.msgSamesSpec.post enc Tryz.prog Tryz.f6 false true false false):=by
 refine returnsInHanded_of_change_sized (C:=Tryz.checked) own started (by kernel_rfl) Tryz.func6
  (ChangeSpec.witness6 (enc:=enc) (C:=Tryz.checked) false ⟨#[], #[.agg #[.int .i64 0,.int .i64 0,.int .i64 0,.int .i64 0,.int .i64 0,.int .i64 0,.int .i64 0,.int .i64 0,.bool false,.slice none 0 0,.slice none 0 0],.agg #[.int .i64 0,.int .i64 0,.int .i64 0,.int .i64 0,.int .i64 0,.int .i64 0,.int .i64 0,.int .i64 0,.bool false,.slice none 0 0,.slice none 0 0]],[]⟩ 8 (by kernel_rfl) (by kernel_rfl) (by kernel_rfl) (by kernel_rfl)) ?_
 intro W base args ds gs before hval0 hW hcnd hsz0 _;have hval: ∀(j:Nat) t v,Tryz.f6.params[j]? =some t→args[j]? =some v→Value.okWide Tryz.prog W .any base t v:=hval0;have hsz:(DataW.weightsEach Tryz.prog (Tryz.f6.params.toList++Rows.msgSamesSpec.plain.varTypes Tryz.prog) (ds++gs)).all (· ≤reachBytes)=true:=hsz0;have hW':=hW;obtain⟨p,q,hA0,hV,rfl,hfz,hnd⟩:=hW;have hA:DataW.TrodAll enc Tryz.prog W 0 (fun _=>true) true Tryz.f6.params.toList args.toList ds p:=hA0;rw[Tryz.params6]at hA hval hsz;obtain⟨v0,v1,d0,d1,p0,p1,rfl,rfl,rfl,h0,h1⟩:=trodAll_two hA;obtain⟨rfl,rfl⟩:=trodVars_none hV;obtain⟨a0,rfl,-⟩:=okWide_struct Tryz.underlying25 (hval 0 25 v0 rfl rfl);have k0:=h0;have lt0: ∀x∈p0,x.block<W.heap.size:=by obtain⟨m,hm⟩:=k0;exact DataW.trod_lt m _ _ _ hm
 have wt0: ∀n∈d0.weights Tryz.prog 25,n≤reachBytes:=fun n hn=>by have:=List.all_eq_true.1 hsz n (DataW.weights_mem_each (j:=0) rfl rfl n hn);simpa using this
 obtain⟨a1,rfl,-⟩:=okWide_struct Tryz.underlying25 (hval 1 25 v1 rfl rfl);have k1:=h1;have lt1: ∀x∈p1,x.block<W.heap.size:=by obtain⟨m,hm⟩:=k1;exact DataW.trod_lt m _ _ _ hm
 have wt1: ∀n∈d1.weights Tryz.prog 25,n≤reachBytes:=fun n hn=>by have:=List.all_eq_true.1 hsz n (DataW.weights_mem_each (j:=1) rfl rfl n hn);simpa using this
 clear hA0 hval0
 obtain⟨ms0,EA0,ec0,SA0,sc0,ha0,hms0⟩: ∃(m:aQ) (EA:Option Addr) (ec:Nat) (SA:Option Addr) (sc:Nat),a0= #[.int .i64 m.kind,.int .i64 m.frm,.int .i64 m.tgt,.int .i64 m.term,.int .i64 m.index,.int .i64 m.logTerm,.int .i64 m.commit,.int .i64 m.round,.bool m.ok,.slice EA m.ents.length ec,.slice SA m.snap.length sc]∧aT W (fun b=>b<W.heap.size) m EA ec SA sc:=by
  obtain⟨k,hm⟩:=k0;obtain⟨m,EA,ec,SA,sc,e,r⟩:=open_msg hm wt0;refine⟨m,EA,ec,SA,sc,?_,r⟩;have e2:a0.toList= [.int .i64 m.kind,.int .i64 m.frm,.int .i64 m.tgt,.int .i64 m.term,.int .i64 m.index,.int .i64 m.logTerm,.int .i64 m.commit,.int .i64 m.round,.bool m.ok,.slice EA m.ents.length ec,.slice SA m.snap.length sc]:=by simpa[Value.cells]using e
  rw[←Array.toArray_toList (xs:=a0),e2]
 subst ha0
 obtain⟨ms1,EA1,ec1,SA1,sc1,ha1,hms1⟩: ∃(m:aQ) (EA:Option Addr) (ec:Nat) (SA:Option Addr) (sc:Nat),a1= #[.int .i64 m.kind,.int .i64 m.frm,.int .i64 m.tgt,.int .i64 m.term,.int .i64 m.index,.int .i64 m.logTerm,.int .i64 m.commit,.int .i64 m.round,.bool m.ok,.slice EA m.ents.length ec,.slice SA m.snap.length sc]∧aT W (fun b=>b<W.heap.size) m EA ec SA sc:=by
  obtain⟨k,hm⟩:=k1;obtain⟨m,EA,ec,SA,sc,e,r⟩:=open_msg hm wt1;refine⟨m,EA,ec,SA,sc,?_,r⟩;have e2:a1.toList= [.int .i64 m.kind,.int .i64 m.frm,.int .i64 m.tgt,.int .i64 m.term,.int .i64 m.index,.int .i64 m.logTerm,.int .i64 m.commit,.int .i64 m.round,.bool m.ok,.slice EA m.ents.length ec,.slice SA m.snap.length sc]:=by simpa[Value.cells]using e
  rw[←Array.toArray_toList (xs:=a1),e2]
 subst ha1;refine(walk ms0 ms1 EA0 ec0 SA0 sc0 EA1 ec1 SA1 sc1 W hms0 hms1).mono fun e W' ⟨he,bel⟩=> ?_;subst he;exact⟨_,rfl,_,_,_,[],_,[],hW',trodAll_mk1 (shut_bool Tryz.underlying4 _),trodAll_mk2 (Below.trod laidOut (by kernel_rfl) (of_decide_eq_true (by kernel_rfl)) k0 bel lt0) (Below.trod laidOut (by kernel_rfl) (of_decide_eq_true (by kernel_rfl)) k1 bel lt1),rfl,bel.frame _,fun h=>by cases h⟩
theorem proved :Rows.MsgSamesSaid:=
 OpenClaim.holds_of_wide 6 Tryz.f6 rfl rfl rfl rfl rfl rfl rfl ⟨rfl,rfl,rfl,rfl,rfl⟩ rfl rfl rfl rfl rfl (by kernel_rfl) Tryz.func6 (by kernel_rfl)
  (of_decide_eq_true (by kernel_rfl)) (by unfold Func.isWrapper;first|(rw[if_pos (by decide +kernel)];kernel_rfl)|(rw[if_neg (by decide +kernel)];exact⟨rfl,rfl⟩))
  (fun os started H enc _=>lifted os started H enc)
end Go.Proofs.YtgfidiocmiolpaaGreat.MSames
