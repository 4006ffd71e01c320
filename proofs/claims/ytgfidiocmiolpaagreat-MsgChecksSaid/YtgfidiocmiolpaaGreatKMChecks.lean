/- Which messages may be; a copy: as the document says. No conditions. -/
import Derived.Test.YtgfidiocmiolpaaGreatKMhB
import Derived.SizedLaws
import Derived.ProofKit
import Derived.OpenShut
import Derived.ShutString
import Derived.ChangeOld
import Derived.ChangeMaps5
import Derived.Below
set_option maxHeartbeats 64000000
set_option maxRecDepth 100000
set_option linter.unusedVariables false
set_option linter.unusedSimpArgs false
namespace Go.Proofs.YtgfidiocmiolpaaGreat.MChecks
open Go.ChangeShapes Go.WideShapes Go.ChangeAt Go.RowKit Go.Joins
theorem own :ownKnob Tryz.prog.godebug=none:=by kernel_rfl
theorem laidOut :laidOutB Tryz.prog=true:=by kernel_rfl
theorem walk (m:aQ)(EA:Option Addr)(ec:Nat)(SA:Option Addr)(sc:Nat)(w:World)(h:aT w (fun b=>b<w.heap.size) m EA ec SA sc):Calls Tryz.prog 3 #[.agg #[.int .i64 m.kind,.int .i64 m.frm,.int .i64 m.tgt,.int .i64 m.term,.int .i64 m.index,.int .i64 m.logTerm,.int .i64 m.commit,.int .i64 m.round,.bool m.ok,.slice EA m.ents.length ec,.slice SA m.snap.length sc]] w fun q w'=>q= .returned (.bool true)∧Below w.heap.size w w':=by
 have HSMF:=Lib.hid (fun q=>(kC h q).1);obtain⟨w1,hw1⟩: ∃W,W=w.alloc (.cells #[.int .i64 m.kind,.int .i64 m.frm,.int .i64 m.tgt,.int .i64 m.term,.int .i64 m.index,.int .i64 m.logTerm,.int .i64 m.commit,.int .i64 m.round,.bool m.ok,.slice EA m.ents.length ec,.slice SA m.snap.length sc] 25):=⟨_,rfl⟩;have HK:Hid (bx w1 w.heap.size m EA ec SA sc):=Lib.hid (by rw[hw1];exact heap_alloc_new w _);have HB:Hid (Below w.heap.size w w1):=Lib.hid (by rw[hw1];exact ae _);have HA:=Lib.hid (h.up HB.out);have HLG:=Lib.hid (fD (fun b=>b<w1.heap.size) m EA ec SA sc w1 (fun b hb=>hb) HA.out);clear h;go_enter Tryz.func3,Tryz.ntmps3;go_wp2_with fail;rw[←hw1];clear hw1;go_wp2_with(refine ap (by rfl) _ rfl w.heap.size rfl _ _ HK.out rfl ?_;simp only[acR,Act.put]);refine HLG.out.mono ?_;rintro q w2 ⟨rfl,hb⟩;have HB:=Lib.hid (HB.out.trans (hb.mono HB.out.size));have HK:=Lib.hid (HK.out.below hb);have HA:=Lib.hid (HA.out.up hb);clear hb HLG
 cases hlg:ij m with
 |true=>
  clear hlg;go_wp2_with fail;refine(lives22_any _).mono ?_;rintro q v9 ⟨rfl,hb⟩;have HF:=Lib.hid (HB.out.trans (hb.mono HB.out.size));clear hb;go_wp2_with fail;go_ret
  exact⟨rfl,HF.out⟩
 |false=>
 have HSM:=Lib.hid (HSMF.out hlg);clear hlg HSMF;go_wp2_with fail;refine ar [0,1,2,4,3,5,6,7,8,9,11,10,12,13,14] (by kernel_rfl) (by kernel_rfl) (fun _ d _ _ _ h=>by cases d<;>exact h) ?_;simp only[atR];have hb:Below w2.heap.size w2 w2.drew:=(Below.refl _ _).drew;have HB:=Lib.hid (HB.out.trans (hb.mono HB.out.size));have HK:=Lib.hid (HK.out.below hb);have HA:=Lib.hid (HA.out.up hb);clear hb;generalize w2.drew=u0 at *;first|with_reducible refine ah ?_ (fun K hK=> ?_)|with_reducible refine af ?_ (fun K hK=> ?_)|refine ah ?_ (fun K hK=> ?_)|refine af ?_ (fun K hK=> ?_)
 ·rfl
 go_simp
 refine(lives22_any u0).mono ?_;rintro q u1 ⟨rfl,hb⟩;refine hK _ _ (hb) ?_;clear hK K;try simp only[Act.put]
 have HB:=Lib.hid (HB.out.trans (hb.mono HB.out.size));have HK:=Lib.hid (HK.out.below hb);have HA:=Lib.hid (HA.out.up hb);clear hb;first|with_reducible refine ac ?_ |with_reducible refine ab ?_ |refine ac ?_ |refine ab ?_
 simp only[List.takeWhile,List.dropWhile,ai,Nat.reduceBNe];repeat(first|(refine wpQuiet_load_msg rfl (by rfl) _ rfl w.heap.size rfl _ HK.out.later rfl ?_;simp only[acR,Act.put])|go_big_quiet_step (fail))
 first|with_reducible refine wpQuiet_nil ?_ |refine wpQuiet_nil ?_
 first|with_reducible refine ah ?_ (fun K hK=> ?_)|with_reducible refine af ?_ (fun K hK=> ?_)|refine ah ?_ (fun K hK=> ?_)|refine af ?_ (fun K hK=> ?_)
 ·rfl
 go_simp
 refine(iE (fun b=>b<u1.heap.size) m EA ec SA sc u1 (fun b hb=>hb) HA.out HSM.out).mono ?_;rintro q u2 ⟨rfl,hb⟩;refine hK _ _ (hb) ?_;clear hK K;try simp only[Act.put]
 have HB:=Lib.hid (HB.out.trans (hb.mono HB.out.size));have HK:=Lib.hid (HK.out.below hb);have HA:=Lib.hid (HA.out.up hb);clear hb;first|with_reducible refine ah ?_ (fun K hK=> ?_)|with_reducible refine af ?_ (fun K hK=> ?_)|refine ah ?_ (fun K hK=> ?_)|refine af ?_ (fun K hK=> ?_)
 ·rfl
 go_simp
 refine(ie (fun b=>b<u2.heap.size) m EA ec SA sc u2 (fun b hb=>hb) HA.out HSM.out).mono ?_;rintro q u3 ⟨rfl,hb⟩;refine hK _ _ (hb) ?_;clear hK K;try simp only[Act.put]
 have HB:=Lib.hid (HB.out.trans (hb.mono HB.out.size));have HK:=Lib.hid (HK.out.below hb);have HA:=Lib.hid (HA.out.up hb);clear hb;generalize bK m=mm;have e3:(mm == mm)=true:=by simp
 first|with_reducible refine ac ?_ |with_reducible refine ab ?_ |refine ac ?_ |refine ab ?_
 simp only[List.takeWhile,List.dropWhile,ai,Nat.reduceBNe];repeat(first|(refine wpQuiet_load_msg rfl (by rfl) _ rfl w.heap.size rfl _ HK.out.later rfl ?_;simp only[acR,Act.put])|go_big_quiet_step (fail))
 first|with_reducible refine wpQuiet_nil ?_ |refine wpQuiet_nil ?_
 clear e3;first|with_reducible refine ah ?_ (fun K hK=> ?_)|with_reducible refine af ?_ (fun K hK=> ?_)|refine ah ?_ (fun K hK=> ?_)|refine af ?_ (fun K hK=> ?_)
 ·rfl
 go_simp
 refine(qW (fun b=>b<u3.heap.size) m EA ec SA sc u3 (fun b hb=>hb) HA.out).mono ?_;rintro q u4 ⟨GA,gc,TA,tc,rfl,hcl,hb⟩;refine hK _ _ (hb) ?_;clear hK K;try simp only[Act.put]
 have HB:=Lib.hid (HB.out.trans (hb.mono HB.out.size));have HK:=Lib.hid (HK.out.below hb);have HA:=Lib.hid (HA.out.up hb);have HD:=Lib.hid (hcl.imp fun b hb=>hb.1);clear hb hcl;first|with_reducible refine ah ?_ (fun K hK=> ?_)|with_reducible refine af ?_ (fun K hK=> ?_)|refine ah ?_ (fun K hK=> ?_)|refine af ?_ (fun K hK=> ?_)
 ·rfl
 go_simp
 refine(same_selfM (m:=m) (EA:=GA) (ec:=gc) (SA:=TA) (sc:=tc) (FA:=EA) (fc:=ec) (TA:=SA) (tc:=sc) HD.out HA.out).mono ?_;rintro q u5 ⟨rfl,hb⟩;refine hK _ _ (hb) ?_;clear hK K;try simp only[Act.put]
 have HB:=Lib.hid (HB.out.trans (hb.mono HB.out.size));have HK:=Lib.hid (HK.out.below hb);have HA:=Lib.hid (HA.out.up hb);clear hb HD;first|with_reducible refine ac ?_ |with_reducible refine ab ?_ |refine ac ?_ |refine ab ?_
 simp only[List.takeWhile,List.dropWhile,ai];repeat(go_big_quiet_step (fail))
 first|with_reducible refine wpQuiet_nil ?_ |refine wpQuiet_nil ?_
 unfold aF;go_wp2_with fail;go_ret;exact⟨by simp,HB.out⟩
theorem lifted (os:Os)(started:os.Started)(H:Type)(enc:TypeId×Value→H):
  ReturnsInHanded {} Tryz.checked os 3 .any (Rows.msgChecksSpec.pre6 enc Tryz.prog Tryz.f3 Rows.msgChecksRow.domain false) (Rows.msgChecksSpec.post enc Tryz.prog Tryz.f3 false true false false):=by
 refine returnsInHanded_of_change_sized (C:=Tryz.checked) own started (by kernel_rfl) Tryz.func3
  (ChangeSpec.witness6 (enc:=enc) (C:=Tryz.checked) false ⟨#[], #[.agg #[.int .i64 0,.int .i64 0,.int .i64 0,.int .i64 0,.int .i64 0,.int .i64 0,.int .i64 0,.int .i64 0,.bool false,.slice none 0 0,.slice none 0 0]],[]⟩ 8 (by kernel_rfl) (by kernel_rfl) (by kernel_rfl) (by kernel_rfl)) ?_
 intro W base args ds gs before hval0 hW hcnd hsz0 _;have hval: ∀(j:Nat) t v,Tryz.f3.params[j]? =some t→args[j]? =some v→Value.okWide Tryz.prog W .any base t v:=hval0;have hsz:(DataW.weightsEach Tryz.prog (Tryz.f3.params.toList++Rows.msgChecksSpec.plain.varTypes Tryz.prog) (ds++gs)).all (· ≤reachBytes)=true:=hsz0;have hW':=hW;obtain⟨p,q,hA0,hV,rfl,hfz,hnd⟩:=hW;have hA:DataW.TrodAll enc Tryz.prog W 0 (fun _=>true) true Tryz.f3.params.toList args.toList ds p:=hA0;rw[Tryz.params3]at hA hval hsz;obtain⟨v0,d0,rfl,rfl,h0⟩:=trodAll_one hA;obtain⟨rfl,rfl⟩:=trodVars_none hV;obtain⟨a0,rfl,-⟩:=okWide_struct Tryz.underlying25 (hval 0 25 v0 rfl rfl);have k0:=h0;have lt0: ∀x∈p,x.block<W.heap.size:=by obtain⟨m,hm⟩:=k0;exact DataW.trod_lt m _ _ _ hm
 have wt0: ∀n∈d0.weights Tryz.prog 25,n≤reachBytes:=fun n hn=>by have:=List.all_eq_true.1 hsz n (DataW.weights_mem_each (j:=0) rfl rfl n hn);simpa using this
 clear hA0 hval0
 obtain⟨ms0,EA0,ec0,SA0,sc0,ha0,hms0⟩: ∃(m:aQ) (EA:Option Addr) (ec:Nat) (SA:Option Addr) (sc:Nat),a0= #[.int .i64 m.kind,.int .i64 m.frm,.int .i64 m.tgt,.int .i64 m.term,.int .i64 m.index,.int .i64 m.logTerm,.int .i64 m.commit,.int .i64 m.round,.bool m.ok,.slice EA m.ents.length ec,.slice SA m.snap.length sc]∧aT W (fun b=>b<W.heap.size) m EA ec SA sc:=by
  obtain⟨k,hm⟩:=k0;obtain⟨m,EA,ec,SA,sc,e,r⟩:=open_msg hm wt0;refine⟨m,EA,ec,SA,sc,?_,r⟩;have e2:a0.toList= [.int .i64 m.kind,.int .i64 m.frm,.int .i64 m.tgt,.int .i64 m.term,.int .i64 m.index,.int .i64 m.logTerm,.int .i64 m.commit,.int .i64 m.round,.bool m.ok,.slice EA m.ents.length ec,.slice SA m.snap.length sc]:=by simpa[Value.cells]using e
  rw[←Array.toArray_toList (xs:=a0),e2]
 subst ha0;refine(walk ms0 EA0 ec0 SA0 sc0 W hms0).mono fun e W' ⟨he,bel⟩=> ?_;subst he;exact⟨_,rfl,_,_,_,[],_,[],hW',trodAll_mk1 (shut_bool Tryz.underlying4 _),trodAll_mk1 (Below.trod laidOut (by kernel_rfl) (of_decide_eq_true (by kernel_rfl)) k0 bel lt0),rfl,bel.frame _,fun h=>by cases h⟩
theorem proved :Rows.MsgChecksSaid:=
 OpenClaim.holds_of_wide 3 Tryz.f3 rfl rfl rfl rfl rfl rfl rfl ⟨rfl,rfl,rfl,rfl,rfl⟩ rfl rfl rfl rfl rfl (by kernel_rfl) Tryz.func3 (by kernel_rfl)
  (of_decide_eq_true (by kernel_rfl)) (by unfold Func.isWrapper;first|(rw[if_pos (by decide +kernel)];kernel_rfl)|(rw[if_neg (by decide +kernel)];exact⟨rfl,rfl⟩))
  (fun os started H enc _=>lifted os started H enc)
end Go.Proofs.YtgfidiocmiolpaaGreat.MChecks
