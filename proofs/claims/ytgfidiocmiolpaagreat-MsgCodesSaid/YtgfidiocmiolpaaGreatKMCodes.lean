/- The code of any message, and what it is decoded as: as the document says. No conditions. -/
import Derived.Test.YtgfidiocmiolpaaGreatKMhC
import Derived.SizedLaws
import Derived.ProofKit
import Derived.OpenShut
import Derived.ShutString
import Derived.ChangeOld
import Derived.ChangeMaps5
import Derived.Below
set_option maxHeartbeats 64000000
set_option maxRecDepth 100000
set_option linter.unusedVariables false
set_option linter.unusedSimpArgs false
namespace Go.Proofs.YtgfidiocmiolpaaGreat.MCodes
open Go.ChangeShapes Go.WideShapes Go.ChangeAt Go.RowKit Go.Joins
theorem own :ownKnob Tryz.prog.godebug=none:=by kernel_rfl
theorem laidOut :laidOutB Tryz.prog=true:=by kernel_rfl
theorem walk (m:bw)(EA:Option Addr)(ec:Nat)(SA:Option Addr)(sc:Nat)(w:World)(h:bI w (fun b=>b<w.heap.size) m EA ec SA sc):Calls Tryz.prog 4 #[.agg #[.int .i64 m.kind,.int .i64 m.frm,.int .i64 m.tgt,.int .i64 m.term,.int .i64 m.index,.int .i64 m.logTerm,.int .i64 m.commit,.int .i64 m.round,.bool m.ok,.slice EA m.ents.length ec,.slice SA m.snap.length sc]] w fun q w'=>q= .returned (.bool true)∧Below w.heap.size w w':=by
 have HSMF:=Lib.hid (fun q=>(xp h q).1);obtain⟨w1,hw1⟩: ∃W,W=w.alloc (.cells #[.int .i64 m.kind,.int .i64 m.frm,.int .i64 m.tgt,.int .i64 m.term,.int .i64 m.index,.int .i64 m.logTerm,.int .i64 m.commit,.int .i64 m.round,.bool m.ok,.slice EA m.ents.length ec,.slice SA m.snap.length sc] 25):=⟨_,rfl⟩;have HK:Hid (bV w1 w.heap.size m EA ec SA sc):=Lib.hid (by rw[hw1];exact heap_alloc_new w _);have HB:Hid (Below w.heap.size w w1):=Lib.hid (by rw[hw1];exact ac _);have HA:=Lib.hid (h.up HB.out);have HLG:=Lib.hid (pS (fun b=>b<w1.heap.size) m EA ec SA sc w1 (fun b hb=>hb) HA.out);have HFIN:=Lib.hid (fine_msg h);clear h;go_enter Tryz.func4,Tryz.ntmps4;go_wp2_with fail;rw[←hw1];clear hw1;go_wp2_with(refine aC (by rfl) _ rfl w.heap.size rfl _ _ HK.out rfl ?_;simp only[acR,Act.put]);refine HLG.out.mono ?_;rintro q w2 ⟨rfl,hb⟩;have HB:=Lib.hid (HB.out.trans (hb.mono HB.out.size));have HK:=Lib.hid (HK.out.below hb);have HA:=Lib.hid (HA.out.up hb);clear hb HLG
 cases hlg:nD m with
 |true=>
  clear hlg;go_wp2_with fail;refine(kY _).mono ?_;rintro q v9 ⟨rfl,hb⟩;have HF:=Lib.hid (HB.out.trans (hb.mono HB.out.size));clear hb;go_wp2_with fail;go_ret
  exact⟨rfl,HF.out⟩
 |false=>
 have HSM:=Lib.hid (HSMF.out hlg);have HEN:=Lib.hid (qW m EA ec SA sc w2 HA.out HSM.out);clear hlg HSMF;go_wp2_with(refine aC (by rfl) _ rfl w.heap.size rfl _ _ HK.out rfl ?_;simp only[acR,Act.put]);refine HEN.out.mono ?_;rintro q w3 ⟨v,rfl,ho,hb⟩;have HO:=Lib.hid (ho.base HB.out.size);have HB:=Lib.hid (HB.out.trans (hb.mono HB.out.size));have HK:=Lib.hid (HK.out.below hb);have HA:=Lib.hid (HA.out.up hb);clear hb ho HEN;go_wp2_with fail;refine(kY _).mono ?_;rintro q w4 ⟨rfl,hb⟩;have HO:=Lib.hid (HO.out.below hb);have HB:=Lib.hid (HB.out.trans (hb.mono HB.out.size));have HK:=Lib.hid (HK.out.below hb);have HA:=Lib.hid (HA.out.up hb);have HMY:=Lib.hid (sN (fun b=>b<w4.heap.size) m EA ec SA sc w4 (fun b hb=>hb) HA.out HSM.out);clear hb;go_wp2_with(refine aC (by rfl) _ rfl w.heap.size rfl _ _ HK.out rfl ?_;simp only[acR,Act.put]);refine HMY.out.mono ?_;rintro q w5 ⟨rfl,hb⟩;have ho5:=HO.out.below hb;have HB:=Lib.hid (HB.out.trans (hb.mono HB.out.size));have HK:=Lib.hid (HK.out.below hb);have HA:=Lib.hid (HA.out.up hb);clear hb HMY HO
 cases hm:cC m with
 |false=>
  rw[(encM_not hm).1]at ho5;rw[(encM_not hm).2];obtain⟨A,c,hv⟩:=ho5.slice;have hv':v= .slice A 0 c:=hv;subst hv';clear hv ho5 hm;go_wp2_with fail;go_ret
  exact⟨by simp,HB.out⟩
 |true=>
 rw[(encM_may hm).1]at ho5;rw[(encM_may hm).2];have HM:=Lib.hid hm;have HDC:=Lib.hid (dec_codeM hm (HFIN.out HSM.out hm));have HO5:=Lib.hid ho5;have HD:=Lib.hid (qA v (eA m) w5 ho5.rdY ho5.rdY.lenE);rw[HDC.out.1,HDC.out.2]at HD;clear hm ho5 HFIN;go_wp2_with fail;refine HD.out.mono ?_;rintro q w6 ⟨GA,gc,TA,tc,rfl,dat,hb⟩;obtain⟨w7,hw7⟩: ∃W,W=w6.alloc (.cells #[.int .i64 m.kind,.int .i64 m.frm,.int .i64 m.tgt,.int .i64 m.term,.int .i64 m.index,.int .i64 m.logTerm,.int .i64 m.commit,.int .i64 m.round,.bool m.ok,.slice GA m.ents.length gc,.slice TA m.snap.length tc] 25):=⟨_,rfl⟩;have hb7:Below w6.heap.size w6 w7:=by rw[hw7];exact ac _
 obtain⟨z,hz⟩: ∃z,z=w6.heap.size:=⟨_,rfl⟩;have hb57:Below w5.heap.size w5 w7:=hb.trans (hb7.mono hb.size);have HK2:Hid (bV w7 z m GA gc TA tc):=Lib.hid (by rw[hw7,hz];exact heap_alloc_new w6 _);have HA2:=Lib.hid ((dat.imp fun b hb'=>hb'.2).up hb7);have HB:=Lib.hid (HB.out.trans (hb57.mono HB.out.size));have HK:=Lib.hid (HK.out.below hb57);have HA:=Lib.hid (HA.out.up hb57);have HO:=Lib.hid (HO5.out.below hb57);clear dat hb hb7 hb57 HD HO5 HDC;go_wp2_with fail;rw[←hw7];try rw[←hz]
 clear hw7 hz;try simp only[List.append_eq,List.cons_append,List.nil_append]
 refine cw (by kernel_rfl) (by kernel_rfl) (fun _ d _ _ _ h=>by cases d<;>exact h) ?_;have hb:Below w7.heap.size w7 w7.drew:=(Below.refl _ _).drew;have HB:=Lib.hid (HB.out.trans (hb.mono HB.out.size));have HK:=Lib.hid (HK.out.below hb);have HA:=Lib.hid (HA.out.up hb);have HO:=Lib.hid ((HO.out.below hb).rdY);have HK2:=Lib.hid (HK2.out.below hb);have HA2:=Lib.hid (HA2.out.up hb);clear hb;generalize w7.drew=u0 at *;obtain⟨x,hx⟩: ∃x:ByteArray,x=⟨(eA m).toArray⟩:=⟨_,rfl⟩;have HXX:=Lib.hid hx;have f1: ∀p:ry u0.heap.size u0,(convert 23 9 v).run Tryz.prog p.u= .ok (.string x) p.u:=fun p=>by rw[hx];exact(HO.out.keep p.h).strY
 clear hx;first|with_reducible refine ae ?_ |with_reducible refine ab ?_ |refine ae ?_ |refine ab ?_
 simp only[List.takeWhile,List.dropWhile,am,Nat.reduceBNe];repeat(first|(refine bZ rfl (by rfl) _ rfl w.heap.size rfl _ HK.out.later rfl ?_;simp only[acR,Act.put])|go_big_quiet_step (fail))
 first|with_reducible refine wpQuiet_nil ?_ |refine wpQuiet_nil ?_
 clear f1 HO;first|with_reducible refine aj ?_ (fun K hK=> ?_)|with_reducible refine ai ?_ (fun K hK=> ?_)|refine aj ?_ (fun K hK=> ?_)|refine ai ?_ (fun K hK=> ?_)
 ·rfl
 go_simp
 refine(r22code_any (fun b=>b<u0.heap.size) m EA ec SA sc u0 (fun b hb=>hb) HA.out HSM.out HM.out).mono ?_;rintro q u1 ⟨v2,rfl,ho,hb⟩;refine hK _ _ (hb) ?_;clear hK K;try simp only[Act.put]
 have HB:=Lib.hid (HB.out.trans (hb.mono HB.out.size));have HK:=Lib.hid (HK.out.below hb);have HA:=Lib.hid (HA.out.up hb);have HK2:=Lib.hid (HK2.out.below hb);have HA2:=Lib.hid (HA2.out.up hb);have hor:=ho.rdY;have f1: ∀p:ry u1.heap.size u1,(convert 23 9 v2).run Tryz.prog p.u= .ok (.string x) p.u:=fun p=>by rw[HXX.out];exact(hor.keep p.h).strY
 have e3:(x.toList == x.toList)=true:=by simp
 clear ho hb;first|with_reducible refine ae ?_ |with_reducible refine ab ?_ |refine ae ?_ |refine ab ?_
 simp only[List.takeWhile,List.dropWhile,am,Nat.reduceBNe];repeat(first|(refine bZ rfl (by rfl) _ rfl w.heap.size rfl _ HK.out.later rfl ?_;simp only[acR,Act.put])|(refine bZ rfl (by rfl) _ rfl z rfl _ HK2.out.later rfl ?_;simp only[acR,Act.put])|go_big_quiet_step (fail))
 first|with_reducible refine wpQuiet_nil ?_ |refine wpQuiet_nil ?_
 clear f1 hor e3;first|with_reducible refine aj ?_ (fun K hK=> ?_)|with_reducible refine ai ?_ (fun K hK=> ?_)|refine aj ?_ (fun K hK=> ?_)|refine ai ?_ (fun K hK=> ?_)
 ·rfl
 go_simp
 refine(mm (m:=m) (EA:=GA) (ec:=gc) (SA:=TA) (sc:=tc) (FA:=EA) (fc:=ec) (TA:=SA) (tc:=sc) HA2.out HA.out).mono ?_;rintro q u2 ⟨rfl,hb⟩;refine hK _ _ (hb) ?_;clear hK K;try simp only[Act.put]
 have HB:=Lib.hid (HB.out.trans (hb.mono HB.out.size));clear hb HK HA HK2 HA2;first|with_reducible refine ae ?_ |with_reducible refine ab ?_ |refine ae ?_ |refine ab ?_
 simp only[List.takeWhile,List.dropWhile,am,Nat.reduceBNe];repeat(go_big_quiet_step (fail))
 first|with_reducible refine wpQuiet_nil ?_ |refine wpQuiet_nil ?_
 unfold aI;go_wp2_with fail;go_ret;exact⟨by simp,HB.out⟩
theorem lifted (os:Os)(started:os.Started)(H:Type)(enc:TypeId×Value→H):
  ReturnsInHanded {} Tryz.checked os 4 .any (Rows.msgCodesSpec.pre6 enc Tryz.prog Tryz.f4 Rows.msgCodesRow.domain false) (Rows.msgCodesSpec.post enc Tryz.prog Tryz.f4 false true false false):=by
 refine returnsInHanded_of_change_sized (C:=Tryz.checked) own started (by kernel_rfl) Tryz.func4
  (ChangeSpec.witness6 (enc:=enc) (C:=Tryz.checked) false ⟨#[], #[.agg #[.int .i64 0,.int .i64 0,.int .i64 0,.int .i64 0,.int .i64 0,.int .i64 0,.int .i64 0,.int .i64 0,.bool false,.slice none 0 0,.slice none 0 0]],[]⟩ 8 (by kernel_rfl) (by kernel_rfl) (by kernel_rfl) (by kernel_rfl)) ?_
 intro W base args ds gs before hval0 hW hcnd hsz0 _;have hval: ∀(j:Nat) t v,Tryz.f4.params[j]? =some t→args[j]? =some v→Value.okWide Tryz.prog W .any base t v:=hval0;have hsz:(DataW.weightsEach Tryz.prog (Tryz.f4.params.toList++Rows.msgCodesSpec.plain.varTypes Tryz.prog) (ds++gs)).all (· ≤reachBytes)=true:=hsz0;have hW':=hW;obtain⟨p,q,hA0,hV,rfl,hfz,hnd⟩:=hW;have hA:DataW.TrodAll enc Tryz.prog W 0 (fun _=>true) true Tryz.f4.params.toList args.toList ds p:=hA0;rw[Tryz.params4]at hA hval hsz;obtain⟨v0,d0,rfl,rfl,h0⟩:=trodAll_one hA;obtain⟨rfl,rfl⟩:=trodVars_none hV;obtain⟨a0,rfl,-⟩:=okWide_struct Tryz.underlying25 (hval 0 25 v0 rfl rfl);have k0:=h0;have lt0: ∀x∈p,x.block<W.heap.size:=by obtain⟨m,hm⟩:=k0;exact DataW.trod_lt m _ _ _ hm
 have wt0: ∀n∈d0.weights Tryz.prog 25,n≤reachBytes:=fun n hn=>by have:=List.all_eq_true.1 hsz n (DataW.weights_mem_each (j:=0) rfl rfl n hn);simpa using this
 clear hA0 hval0
 obtain⟨ms0,EA0,ec0,SA0,sc0,ha0,hms0⟩: ∃(m:bw) (EA:Option Addr) (ec:Nat) (SA:Option Addr) (sc:Nat),a0= #[.int .i64 m.kind,.int .i64 m.frm,.int .i64 m.tgt,.int .i64 m.term,.int .i64 m.index,.int .i64 m.logTerm,.int .i64 m.commit,.int .i64 m.round,.bool m.ok,.slice EA m.ents.length ec,.slice SA m.snap.length sc]∧bI W (fun b=>b<W.heap.size) m EA ec SA sc:=by
  obtain⟨k,hm⟩:=k0;obtain⟨m,EA,ec,SA,sc,e,r⟩:=open_msg hm wt0;refine⟨m,EA,ec,SA,sc,?_,r⟩;have e2:a0.toList= [.int .i64 m.kind,.int .i64 m.frm,.int .i64 m.tgt,.int .i64 m.term,.int .i64 m.index,.int .i64 m.logTerm,.int .i64 m.commit,.int .i64 m.round,.bool m.ok,.slice EA m.ents.length ec,.slice SA m.snap.length sc]:=by simpa[Value.cells]using e
  rw[←Array.toArray_toList (xs:=a0),e2]
 subst ha0;refine(walk ms0 EA0 ec0 SA0 sc0 W hms0).mono fun e W' ⟨he,bel⟩=> ?_;subst he;exact⟨_,rfl,_,_,_,[],_,[],hW',trodAll_mk1 (shut_bool Tryz.underlying4 _),trodAll_mk1 (Below.trod laidOut (by kernel_rfl) (of_decide_eq_true (by kernel_rfl)) k0 bel lt0),rfl,bel.frame _,fun h=>by cases h⟩
theorem proved :Rows.MsgCodesSaid:=
 OpenClaim.holds_of_wide 4 Tryz.f4 rfl rfl rfl rfl rfl rfl rfl ⟨rfl,rfl,rfl,rfl,rfl⟩ rfl rfl rfl rfl rfl (by kernel_rfl) Tryz.func4 (by kernel_rfl)
  (of_decide_eq_true (by kernel_rfl)) (by unfold Func.isWrapper;first|(rw[if_pos (by decide +kernel)];kernel_rfl)|(rw[if_neg (by decide +kernel)];exact⟨rfl,rfl⟩))
  (fun os started H enc _=>lifted os started H enc)
end Go.Proofs.YtgfidiocmiolpaaGreat.MCodes
