/- What any bytes are as a message; what was decoded has that code: as the document says. No conditions. -/
import Derived.Test.YtgfidiocmiolpaaGreatKMgX
import Derived.Test.YtgfidiocmiolpaaGreatKEnM
import Derived.SizedLaws
import Derived.ProofKit
import Derived.OpenShut
import Derived.ShutString
import Derived.ChangeOld
import Derived.ChangeMaps5
import Derived.Below
set_option maxHeartbeats 64000000
set_option maxRecDepth 100000
set_option linter.unusedVariables false
set_option linter.unusedSimpArgs false
namespace Go.Proofs.YtgfidiocmiolpaaGreat.MDecodes
open Go.ChangeShapes Go.WideShapes Go.ChangeAt Go.RowKit Go.Joins OpenB
theorem own :ownKnob Tryz.prog.godebug=none:=by kernel_rfl
theorem laidOut :laidOutB Tryz.prog=true:=by kernel_rfl
theorem own_zeroM (w:World):aA (w.alloc (.cells #[] 5)) w.heap.size (.slice (some ⟨w.heap.size,0,none⟩) 0 0) []:=⟨rfl,.inr ⟨_,0, #[],rfl,Nat.le_refl _,heap_alloc_new w _,Nat.le_refl _,by decide,rfl,rfl⟩⟩
theorem walk (A:Option Addr)(cap:Nat)(l:List UInt8)(w:World)(hr:Rd w w.heap.size (.slice A l.length cap) l)(hl:l.length≤140737488351232):
  Calls Tryz.prog 5 #[.slice A l.length cap] w fun e w'=>e= .returned (.bool true)∧Below w.heap.size w w':=by
 have HLL:=Lib.hid hl;obtain⟨n,hn⟩: ∃n,n=l.length:=⟨_,rfl⟩;have HN:=Lib.hid hn;rw[←hn]at hr hl ⊢;have HR:=Lib.hid hr;clear hr hn;go_enter Tryz.func5,Tryz.ntmps5;by_cases hbig:(n:Int)>131072
 ·have hbig2:decide ((n:Int)>131072)=true:=decide_eq_true hbig;go_wp2_with fail;refine(lives22_any _).mono ?_;rintro e v9 ⟨rfl,hb⟩;have HF:=Lib.hid hb;clear hb;go_wp2_with fail;go_ret;exact⟨rfl,HF.out⟩
 have hbig2:decide ((n:Int)>131072)=false:=decide_eq_false hbig;have hb0:=af (w:=w) (.cells #[] 5);have HO0:=Lib.hid (own_zeroM w);have HR0:=Lib.hid (HR.out.keep hb0);have HB0:=Lib.hid hb0;have hz0:=hb0.size;clear hb0;go_wp2_with(at_builtin;go_must (refine ar rfl _ _ rfl w.heap.size _ [] rfl HO0.out _ _ l rfl HR0.out hz0 (by have:=HN.out;have:=HLL.out;simp only[List.length_nil];omega) ?_));intro v1 w1 hv1 hg1;have HB1:=Lib.hid (aF HB0.out HO0.out hz0 hg1);have HD:=Lib.hid (ry v1 l w1 (show aA w1 w.heap.size v1 l from hv1).rdY (by have:=HLL.out;omega));clear hv1 hg1 HO0 HR0 HB0 hz0 hbig hbig2;have HRD:=Lib.hid (And.intro (dec_inv (l:=l) (by have:=HLL.out;omega)) (And.intro (dec_else (l:=l)) (sm_dec (l:=l) (by have:=HLL.out;omega))));have HDR:=Lib.hid (fun(w:World) (h:Rd w w.heap.size (.slice A n cap) l)=>nM _ l w h (by have:=HLL.out;omega));obtain⟨E,hE⟩: ∃E,E=cG l:=⟨_,rfl⟩;obtain⟨x,hx⟩: ∃x,x=dp l:=⟨_,rfl⟩;obtain⟨ob,hob⟩: ∃ob,ob=decide (x=0):=⟨_,rfl⟩;have HOB:=Lib.hid hob;rw[←hE,←hx]at HRD HDR HD;rw[←hob]at HDR;clear hE hx hob;go_wp2_with fail;refine HD.out.mono ?_;rintro q w2 ⟨GA,gc,TA,tc,rfl,hat,hb⟩;obtain⟨w3,hw3⟩: ∃W,W=w2.alloc (.cells #[.int .i64 E.kind,.int .i64 E.frm,.int .i64 E.tgt,.int .i64 E.term,.int .i64 E.index,.int .i64 E.logTerm,.int .i64 E.commit,.int .i64 E.round,.bool E.ok,.slice GA E.ents.length gc,.slice TA E.snap.length tc] 25):=⟨_,rfl⟩;obtain⟨z1,hz1⟩: ∃z,z=w2.heap.size:=⟨_,rfl⟩;have hb3:Below w2.heap.size w2 w3:=by rw[hw3];exact af _
 have HK:=Lib.hid (show ct w3 z1 E GA gc TA tc by rw[hw3,hz1];exact heap_alloc_new w2 _);have HA:=Lib.hid ((hat.imp fun b hb'=>hb'.2).up hb3);have HB:=Lib.hid ((HB1.out.trans (hb.mono HB1.out.size)).trans (hb3.mono (by have:=HB1.out.size;have:=hb.size;omega)));clear hat hb hb3 HB1 HD;go_wp2_with fail;rw[←hw3];try rw[←hz1]
 clear hw3 hz1;refine(HDR.out _ ((HR.out.keep HB.out).upE HB.out.size)).mono ?_;rintro q w4 ⟨UA,uc,VA,vc,rfl,hat,hb⟩;obtain⟨w5,hw5⟩: ∃W,W=w4.alloc (.cells #[.int .i64 E.kind,.int .i64 E.frm,.int .i64 E.tgt,.int .i64 E.term,.int .i64 E.index,.int .i64 E.logTerm,.int .i64 E.commit,.int .i64 E.round,.bool E.ok,.slice UA E.ents.length uc,.slice VA E.snap.length vc] 25):=⟨_,rfl⟩;obtain⟨z2,hz2⟩: ∃z,z=w4.heap.size:=⟨_,rfl⟩;have hb5:Below w4.heap.size w4 w5:=by rw[hw5];exact af _
 have hb35:Below w3.heap.size w3 w5:=hb.trans (hb5.mono hb.size);have HJ:=Lib.hid (show ct w5 z2 E UA uc VA vc by rw[hw5,hz2];exact heap_alloc_new w4 _);have HC:=Lib.hid ((hat.imp fun b hb'=>hb'.2).up hb5);have HK:=Lib.hid (HK.out.below hb35);have HA:=Lib.hid (HA.out.up hb35);have HB:=Lib.hid (HB.out.trans (hb35.mono HB.out.size));clear hat hb hb5 hb35 HDR;go_wp2_with fail;rw[←hw5];try rw[←hz2]
 clear hw5 hz2;refine(lives22_any _).mono ?_;rintro q w6 ⟨rfl,hb⟩;have HJ:=Lib.hid (HJ.out.below hb);have HC:=Lib.hid (HC.out.up hb);have HK:=Lib.hid (HK.out.below hb);have HA:=Lib.hid (HA.out.up hb);have HB:=Lib.hid (HB.out.trans (hb.mono HB.out.size));have HS6:=Lib.hid (same_selfM (m:=E) (EA:=GA) (ec:=gc) (SA:=TA) (sc:=tc) (FA:=UA) (fc:=uc) (TA:=VA) (tc:=vc) HA.out HC.out);clear hb;go_wp2_with(first|(refine aw (by rfl) _ rfl z1 rfl _ _ HK.out rfl ?_;simp only[acR,Act.put])|(refine aw (by rfl) _ rfl z2 rfl _ _ HJ.out rfl ?_;simp only[acR,Act.put]));refine HS6.out.mono ?_;rintro q w7 ⟨rfl,hb⟩;have HK:=Lib.hid (HK.out.below hb);have HA:=Lib.hid (HA.out.up hb);have HB:=Lib.hid (HB.out.trans (hb.mono HB.out.size));clear hb HJ HC HS6;by_cases h0:x=0;rotate_left
 ·obtain rfl:x=10:=(HRD.out.2.1 h0).1;obtain rfl:ob=false:=HOB.out.trans (by decide);clear h0 HOB HRD;go_wp2_with fail;go_ret;exact⟨by simp,HB.out⟩
 obtain rfl:ob=true:=HOB.out.trans (by rw[h0];rfl);obtain⟨hm,hc,-⟩:=HRD.out.1 h0;have HEN:=Lib.hid (qO E GA gc TA tc w7 HA.out HRD.out.2.2);have HEE:Hid (mD E=l∧ld E=0):=Lib.hid ⟨(encM_may hm).1.trans hc,(encM_may hm).2⟩;subst h0;clear hm hc HRD HOB;go_wp2_with(refine aw (by rfl) _ rfl z1 rfl _ _ HK.out rfl ?_;simp only[acR,Act.put]);refine HEN.out.mono ?_;rintro q w8 ⟨v,rfl,ho,hb⟩;rw[HEE.out.1]at ho;rw[HEE.out.2];have HB:=Lib.hid (HB.out.trans (hb.mono HB.out.size));have e1:=ho.rdY.strY;have e2:=(HR.out.keep HB.out).strY;have e3:((⟨l.toArray⟩:ByteArray).toList == (⟨l.toArray⟩:ByteArray).toList)=true:=by simp
 obtain⟨xs,hxs⟩: ∃x,x=(⟨l.toArray⟩:ByteArray):=⟨_,rfl⟩;rw[←hxs]at e1 e2 e3;clear ho hb hxs HEN HK HA;go_wp2_with fail;go_ret;exact⟨by simp,HB.out⟩
theorem lifted (os:Os)(started:os.Started)(H:Type)(enc:TypeId×Value→H):
  ReturnsInHanded {} Tryz.checked os 5 .any (Rows.msgDecodesSpec.pre6 enc Tryz.prog Tryz.f5 Rows.msgDecodesRow.domain false) (Rows.msgDecodesSpec.post enc Tryz.prog Tryz.f5 false true false false):=by
 refine returnsInHanded_of_change_sized (C:=Tryz.checked) own started (by kernel_rfl) Tryz.func5
  (ChangeSpec.witness6 (enc:=enc) (C:=Tryz.checked) false ⟨#[], #[.slice none 0 0],[]⟩ 8 (by kernel_rfl) (by kernel_rfl) (by kernel_rfl) (by kernel_rfl)) ?_
 intro W base args ds gs before hval0 hW hcnd hsz0 _;have hval: ∀(j:Nat) t v,Tryz.f5.params[j]? =some t→args[j]? =some v→Value.okWide Tryz.prog W .any base t v:=hval0;have hsz:(DataW.weightsEach Tryz.prog (Tryz.f5.params.toList++Rows.msgDecodesSpec.plain.varTypes Tryz.prog) (ds++gs)).all (· ≤reachBytes)=true:=hsz0;have hW':=hW;obtain⟨p,q,hA0,hV,rfl,hfz,hnd⟩:=hW;have hA:DataW.TrodAll enc Tryz.prog W 0 (fun _=>true) true Tryz.f5.params.toList args.toList ds p:=hA0;rw[Tryz.params5]at hA hval hsz;obtain⟨v0,d0,rfl,rfl,h0⟩:=trodAll_one hA;obtain⟨rfl,rfl⟩:=trodVars_none hV;obtain⟨A0,n0,c0,rfl⟩:=okWide_slice Tryz.underlying23 (hval 0 23 v0 rfl rfl);have k0:=h0;have lt0: ∀x∈p,x.block<W.heap.size:=by obtain⟨m,hm⟩:=k0;exact DataW.trod_lt m _ _ _ hm
 clear hA0 hval0
 obtain⟨l0,hll0,hrd0,hln0⟩: ∃l:List UInt8,n0=l.length∧Rd W W.heap.size (.slice A0 l.length c0) l∧n0≤140737488351232:=by
  obtain⟨fuel,hf⟩:=k0;obtain⟨⟨l,hll,hrd⟩,hshape⟩:=open_bytes hf;refine⟨l,hll,hrd,?_⟩;rcases hshape with h0|⟨es,rs,hd,hes⟩
  ·omega
  ·simp only[]at hd;subst hd;have h3:=sized_slice hsz (j:=0) (t:=23) (e:=5) rfl rfl Tryz.underlying23;have hb:Tryz.prog.bytesOf 5=1:=by kernel_rfl
   rw[hb]at h3;simp only[reachBytes]at h3;omega
 subst hll0;refine(walk A0 c0 l0 W hrd0 hln0).mono fun e W' ⟨he,bel⟩=> ?_;subst he;exact⟨_,rfl,_,_,_,[],_,[],hW',trodAll_mk1 (shut_bool Tryz.underlying4 _),trodAll_mk1 (Below.trod laidOut (by kernel_rfl) (of_decide_eq_true (by kernel_rfl)) k0 bel lt0),rfl,bel.frame _,fun h=>by cases h⟩
theorem proved :Rows.MsgDecodesSaid:=
 OpenClaim.holds_of_wide 5 Tryz.f5 rfl rfl rfl rfl rfl rfl rfl ⟨rfl,rfl,rfl,rfl,rfl⟩ rfl rfl rfl rfl rfl (by kernel_rfl) Tryz.func5 (by kernel_rfl)
  (of_decide_eq_true (by kernel_rfl)) (by unfold Func.isWrapper;first|(rw[if_pos (by decide +kernel)];kernel_rfl)|(rw[if_neg (by decide +kernel)];exact⟨rfl,rfl⟩))
  (fun os started H enc _=>lifted os started H enc)
end Go.Proofs.YtgfidiocmiolpaaGreat.MDecodes
