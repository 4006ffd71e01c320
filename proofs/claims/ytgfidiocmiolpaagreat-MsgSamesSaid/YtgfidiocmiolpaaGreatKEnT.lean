/- A copy of an entry, by the program. -/
import Derived.Test.YtgfidiocmiolpaaGreatKEnM
import Derived.Test.YtgfidiocmiolpaaGreatKTrH
import Derived.Test.YtgfidiocmiolpaaGreatKCpA
import Derived.Test.YtgfidiocmiolpaaGreatKDlV
import Derived.Test.YtgfidiocmiolpaaGreatKCodG
import Derived.Test.YtgfidiocmiolpaaGreatKFive
set_option maxHeartbeats 64000000
set_option maxRecDepth 100000
set_option linter.unusedVariables false
set_option linter.unusedSimpArgs false
namespace Go.Proofs.YtgfidiocmiolpaaGreat
open Lib (hid)
open Go.RowKit
theorem pK (S:Nat→Prop)(e:aU)(cs:Array Value)(w:World)(hS: ∀b,S b→b<w.heap.size)(h:cZ w S e cs)(hl:e.dels.length≤1172812402961):
  Calls Tryz.prog 28 #[.agg cs] w fun r w'=> ∃cs',r= .returned (.agg cs')∧cZ w' (fun b=>b<w'.heap.size∧w.heap.size≤b) e cs'∧Below w.heap.size w w':=by
 obtain⟨IA,ic,IA',ic',DA,dc,DA',dc',LA,lc,rfl,hat⟩:=h.at;obtain⟨w2,hw2⟩: ∃W,W=(w.alloc (.cells #[.int .i64 e.term,.int .i64 e.kind,.string e.coll,.string e.to,.int .i64 e.id.kind,.int .i64 e.id.num,.string e.id.text,.slice IA e.id.items.length ic,.slice IA' e.id.names.length ic',.int .i64 e.doc.kind,.int .i64 e.doc.num,.string e.doc.text,.slice DA e.doc.items.length dc,.slice DA' e.doc.names.length dc',.slice LA e.dels.length lc,.int .i64 e.session,.int .i64 e.number] 46)).alloc (.cells #[.int .i64 0,.int .i64 0,.string ⟨#[]⟩,.string ⟨#[]⟩,.int .i64 0,.int .i64 0,.string ⟨#[]⟩,.slice none 0 0,.slice none 0 0,.int .i64 0,.int .i64 0,.string ⟨#[]⟩,.slice none 0 0,.slice none 0 0,.slice none 0 0,.int .i64 0,.int .i64 0] 46):=⟨_,rfl⟩;have hz1:(w.alloc (.cells #[.int .i64 e.term,.int .i64 e.kind,.string e.coll,.string e.to,.int .i64 e.id.kind,.int .i64 e.id.num,.string e.id.text,.slice IA e.id.items.length ic,.slice IA' e.id.names.length ic',.int .i64 e.doc.kind,.int .i64 e.doc.num,.string e.doc.text,.slice DA e.doc.items.length dc,.slice DA' e.doc.names.length dc',.slice LA e.dels.length lc,.int .i64 e.session,.int .i64 e.number] 46)).heap.size=w.heap.size+1:=by simp
 have hz2:w2.heap.size=w.heap.size+2:=by rw[hw2];simp
 have hbb:w2.heap[w.heap.size+1]? =some (.cells #[.int .i64 0,.int .i64 0,.string ⟨#[]⟩,.string ⟨#[]⟩,.int .i64 0,.int .i64 0,.string ⟨#[]⟩,.slice none 0 0,.slice none 0 0,.int .i64 0,.int .i64 0,.string ⟨#[]⟩,.slice none 0 0,.slice none 0 0,.slice none 0 0,.int .i64 0,.int .i64 0] 46 (0,0)):=by rw[hw2,←hz1];exact heap_alloc_new _ _
 have hba:w2.heap[w.heap.size]? =some (.cells #[.int .i64 e.term,.int .i64 e.kind,.string e.coll,.string e.to,.int .i64 e.id.kind,.int .i64 e.id.num,.string e.id.text,.slice IA e.id.items.length ic,.slice IA' e.id.names.length ic',.int .i64 e.doc.kind,.int .i64 e.doc.num,.string e.doc.text,.slice DA e.doc.items.length dc,.slice DA' e.doc.names.length dc',.slice LA e.dels.length lc,.int .i64 e.session,.int .i64 e.number] 46 (0,0)):=by rw[hw2,Below.heap_alloc _ _ _ (by omega)];exact heap_alloc_new _ _
 have h02:Below w.heap.size w w2:=by rw[hw2];exact(ae _).alloc (by omega) _
 have HB2:=hid h02;have HK2:Hid (aS w2 w.heap.size e IA ic IA' ic' DA dc DA' dc' LA lc):=hid hba;have HZ2:=hid hbb;have HZS:=hid hz2;have HS:=hid hS;have HA:=hid hat;have HLL:=hid hl;have HC:=hid (i7 S e.id _ w2 (fun b hb=>Nat.lt_of_lt_of_le (hS b hb) h02.size) (hat.below hS h02).id);clear h02 hba hbb hS h hat hz1 hz2 hl;go_enter Tryz.func28,Tryz.ntmps28;go_wp2_with fail;rw[←hw2];clear hw2;refine HC.out.mono ?_;rintro q w3 ⟨v,rfl,hov,hb⟩;have HB3:=hid (HB2.out.trans (hb.mono HB2.out.size));have HK3:=hid (HK2.out.below hb);have HZ3:=hid ((hb.block _ (Array.getElem?_eq_some_iff.1 HZ2.out).1).trans HZ2.out);have HZW3:Hid (w.heap.size+2≤w3.heap.size):=hid (by have:=hb.size;have:=HZS.out;omega);have HI3:=hid hov.lv;obtain⟨NA,nc,NA',nc',rfl,-⟩:=hov.lv.shape;clear hov hb HC;have HCD:=hid (fun W h=>i7 S e.doc (.agg #[.int .i64 e.doc.kind,.int .i64 e.doc.num,.string e.doc.text,.slice DA e.doc.items.length dc,.slice DA' e.doc.names.length dc']) W (fun b hb=>Nat.lt_of_lt_of_le (HS.out b hb) (h:Below w.heap.size w W).size) (HA.out.below HS.out h).doc);go_wp2_with(first|(refine am (by rfl) 43 _ _ rfl rfl w.heap.size 4 rfl _ #[.int .i64 e.id.kind,.int .i64 e.id.num,.string e.id.text,.slice NA e.id.items.length nc,.slice NA' e.id.names.length nc'] rfl rfl _ #[.int .i64 e.term,.int .i64 e.kind,.string e.coll,.string e.to,.int .i64 e.id.kind,.int .i64 e.id.num,.string e.id.text,.slice NA e.id.items.length nc,.slice NA' e.id.names.length nc',.int .i64 e.doc.kind,.int .i64 e.doc.num,.string e.doc.text,.slice DA e.doc.items.length dc,.slice DA' e.doc.names.length dc',.slice LA e.dels.length lc,.int .i64 e.session,.int .i64 e.number] 46 HK3.out (by simp) (by kernel_rfl) (by simp[Value.oneCell']) (by kernel_rfl) ?_;intro w4 hk ho hz;have HK4:Hid (aS w4 w.heap.size e NA nc NA' nc' DA dc DA' dc' LA lc):=hid hk;have HO4:=hid (And.intro ho hz);clear hk ho hz)|(refine fE (by rfl) _ rfl w.heap.size 9 rfl _ _ _ HK4.out [.int .i64 e.doc.kind,.int .i64 e.doc.num,.string e.doc.text,.slice DA e.doc.items.length dc,.slice DA' e.doc.names.length dc'] rfl rfl ?_;simp only[acR,Act.put]))
 have HB4:=hid (bE (Nat.le_refl _) HB3.out HO4.out.1 HO4.out.2 (Nat.le_refl _));refine(HCD.out _ HB4.out).mono ?_;rintro q w5 ⟨v,rfl,hov,hb⟩;have HB5:=hid (HB4.out.trans (hb.mono HB4.out.size));have HK5:=hid (HK4.out.below hb)
 have HZ5:Hid (w5.heap[w.heap.size+1]? =some (.cells #[.int .i64 0,.int .i64 0,.string ⟨#[]⟩,.string ⟨#[]⟩,.int .i64 0,.int .i64 0,.string ⟨#[]⟩,.slice none 0 0,.slice none 0 0,.int .i64 0,.int .i64 0,.string ⟨#[]⟩,.slice none 0 0,.slice none 0 0,.slice none 0 0,.int .i64 0,.int .i64 0] 46 (0,0))):=hid (by
  have h1:=(bL (S:=fun b=>b=w.heap.size+1) HO4.out.1 (fun b hb=>by subst hb;exact⟨by have:=HZW3.out;omega,by omega⟩) _ rfl).trans HZ3.out
  exact(hb.block _ (Array.getElem?_eq_some_iff.1 h1).1).trans h1)
 have HI5:Hid (LV w5 (fun b=>w.heap.size+2≤b∧b<w5.heap.size) e.id (.agg #[.int .i64 e.id.kind,.int .i64 e.id.num,.string e.id.text,.slice NA e.id.items.length nc,.slice NA' e.id.names.length nc'])):=hid (((HI3.out.keep (bL HO4.out.1 fun b hb=>by
  have h1:=hb.1;have:=HZS.out
  exact⟨hb.2,by omega⟩)).keep fun b hb'=>hb.block b (by rw[HO4.out.2];exact hb'.2)).imp fun b hb'=>⟨by have h1:=hb'.1;have:=HZS.out;omega,Nat.lt_of_lt_of_le hb'.2 (by rw[←HO4.out.2];exact hb.size)⟩)
 have HJ5:Hid (LV w5 (fun b=>w.heap.size+2≤b∧b<w5.heap.size) e.doc v):=hid (hov.lv.imp fun b hb'=>⟨by have h1:=hb'.1;have:=HZW3.out;have:=HO4.out.2;omega,hb'.2⟩);obtain⟨MA,mc,MA',mc',rfl,-⟩:=hov.lv.shape;have HZW5:Hid (w.heap.size+2≤w5.heap.size):=hid (by have:=hb.size;have:=HZW3.out;have:=HO4.out.2;omega);clear hov hb HCD HI3 HZ3;have HCL:=hid (fun W h=>pk S LA lc e.dels W (fun b hb=>Nat.lt_of_lt_of_le (HS.out b hb) (h:Below w.heap.size w W).size) (HA.out.below HS.out h).dels (by have:=HLL.out;omega));go_wp2_with(first|(refine am (by rfl) 43 _ _ rfl rfl w.heap.size 9 rfl _ #[.int .i64 e.doc.kind,.int .i64 e.doc.num,.string e.doc.text,.slice MA e.doc.items.length mc,.slice MA' e.doc.names.length mc'] rfl rfl _ #[.int .i64 e.term,.int .i64 e.kind,.string e.coll,.string e.to,.int .i64 e.id.kind,.int .i64 e.id.num,.string e.id.text,.slice NA e.id.items.length nc,.slice NA' e.id.names.length nc',.int .i64 e.doc.kind,.int .i64 e.doc.num,.string e.doc.text,.slice MA e.doc.items.length mc,.slice MA' e.doc.names.length mc',.slice LA e.dels.length lc,.int .i64 e.session,.int .i64 e.number] 46 HK5.out (by simp) (by kernel_rfl) (by simp[Value.oneCell']) (by kernel_rfl) ?_;intro w6 hk ho hz;have HK6:Hid (aS w6 w.heap.size e NA nc NA' nc' MA mc MA' mc' LA lc):=hid hk;have HO6:=hid (And.intro ho hz);clear hk ho hz;have y14:=HK6.out.g14));have HB6:=hid (bE (Nat.le_refl _) HB5.out HO6.out.1 HO6.out.2 (Nat.le_refl _));refine(HCL.out _ HB6.out).mono ?_;rintro q w7 ⟨QA,qc,rfl,hq0,hqc,hql,hb⟩;clear y14
 have HB7:=hid (HB6.out.trans (hb.mono HB6.out.size));have HK7:=hid (HK6.out.below hb)
 have HZ7:Hid (w7.heap[w.heap.size+1]? =some (.cells #[.int .i64 0,.int .i64 0,.string ⟨#[]⟩,.string ⟨#[]⟩,.int .i64 0,.int .i64 0,.string ⟨#[]⟩,.slice none 0 0,.slice none 0 0,.int .i64 0,.int .i64 0,.string ⟨#[]⟩,.slice none 0 0,.slice none 0 0,.slice none 0 0,.int .i64 0,.int .i64 0] 46 (0,0))):=hid (by
  have h1:=dh HO6.out.1 HZ5.out (by omega)
  exact(hb.block _ (Array.getElem?_eq_some_iff.1 h1).1).trans h1)
 have hf: ∀b,w.heap.size+2≤b∧b<w5.heap.size→w7.heap[b]? =w5.heap[b]? :=fun b hb'=>(hb.block b (by rw[HO6.out.2];exact hb'.2)).trans (bL HO6.out.1 (S:=fun b=>w.heap.size+2≤b∧b<w5.heap.size) (fun b h=>⟨h.2,by have:=h.1;omega⟩) b hb');have hsz:w5.heap.size≤w7.heap.size:=by have:=hb.size;have:=HO6.out.2;omega
 have HI7:Hid (LV w7 (fun b=>b<w7.heap.size∧w.heap.size+2≤b) e.id (.agg #[.int .i64 e.id.kind,.int .i64 e.id.num,.string e.id.text,.slice NA e.id.items.length nc,.slice NA' e.id.names.length nc'])):=hid ((HI5.out.keep hf).imp fun b h=>⟨by have:=h.2;omega,h.1⟩);have HJ7:Hid (LV w7 (fun b=>b<w7.heap.size∧w.heap.size+2≤b) e.doc (.agg #[.int .i64 e.doc.kind,.int .i64 e.doc.num,.string e.doc.text,.slice MA e.doc.items.length mc,.slice MA' e.doc.names.length mc'])):=hid ((HJ5.out.keep hf).imp fun b h=>⟨by have:=h.2;omega,h.1⟩)
 have HL7:Hid (bk w7 (fun b=>b<w7.heap.size∧w.heap.size+2≤b) QA e.dels):=hid (hql.imp fun b h=>by
  have h6:w.heap.size+2≤w6.heap.size:=by rw[HO6.out.2];exact HZW5.out
  exact⟨h.1,by have:=h.2;omega⟩)
 have HQ:=hid (And.intro hq0 hqc);clear hq0 hqc hql hb hf hsz HCL HI5 HJ5 HZ5 HB6;go_wp2_with(first|(refine am (by rfl) 44 _ _ rfl rfl w.heap.size 14 rfl _ #[.slice QA e.dels.length qc] rfl rfl _ #[.int .i64 e.term,.int .i64 e.kind,.string e.coll,.string e.to,.int .i64 e.id.kind,.int .i64 e.id.num,.string e.id.text,.slice NA e.id.items.length nc,.slice NA' e.id.names.length nc',.int .i64 e.doc.kind,.int .i64 e.doc.num,.string e.doc.text,.slice MA e.doc.items.length mc,.slice MA' e.doc.names.length mc',.slice QA e.dels.length qc,.int .i64 e.session,.int .i64 e.number] 46 HK7.out (by simp) (by kernel_rfl) (by simp[Value.oneCell']) (by kernel_rfl) ?_;intro w8 hk ho hz;have HK8:Hid (aS w8 w.heap.size e NA nc NA' nc' MA mc MA' mc' QA qc):=hid hk;have HO8:=hid (And.intro ho hz);clear hk ho hz)|(refine bh (by rfl) _ rfl w.heap.size rfl _ _ HK8.out rfl ?_;simp only[acR,Act.put])|(refine am (by rfl) 46 _ _ rfl rfl (w.heap.size+1) 0 rfl _ #[.int .i64 e.term,.int .i64 e.kind,.string e.coll,.string e.to,.int .i64 e.id.kind,.int .i64 e.id.num,.string e.id.text,.slice NA e.id.items.length nc,.slice NA' e.id.names.length nc',.int .i64 e.doc.kind,.int .i64 e.doc.num,.string e.doc.text,.slice MA e.doc.items.length mc,.slice MA' e.doc.names.length mc',.slice QA e.dels.length qc,.int .i64 e.session,.int .i64 e.number] rfl rfl _ #[.int .i64 e.term,.int .i64 e.kind,.string e.coll,.string e.to,.int .i64 e.id.kind,.int .i64 e.id.num,.string e.id.text,.slice NA e.id.items.length nc,.slice NA' e.id.names.length nc',.int .i64 e.doc.kind,.int .i64 e.doc.num,.string e.doc.text,.slice MA e.doc.items.length mc,.slice MA' e.doc.names.length mc',.slice QA e.dels.length qc,.int .i64 e.session,.int .i64 e.number] 46 (dh HO8.out.1 HZ7.out (by omega)) (by simp) (by kernel_rfl) (by simp[Value.oneCell']) (by kernel_rfl) ?_;intro w9 hk ho hz;have HK9:=hid hk;have HO9:=hid (And.intro ho hz);clear hk ho hz))
 refine bodyPost_ret (kL rfl _ _ (w.heap.size+1) _ _ _ rfl HK9.out rfl) rfl ?_;have hf: ∀b,(b<w7.heap.size∧w.heap.size+2≤b)→w9.heap[b]? =w7.heap[b]? :=fun b h=>(HO9.out.1.block b (by rw[HO8.out.2];exact h.1) (by intro e;injection e with e;have:=h.2;omega)).trans (HO8.out.1.block b h.1 (by intro e;injection e with e;have:=h.2;omega));have hsz:w9.heap.size=w7.heap.size:=HO9.out.2.trans HO8.out.2;refine⟨_,rfl,⟨NA,nc,NA',nc',MA,mc,MA',mc',QA,qc,rfl,(HI7.out.keep hf).imp fun b h=>⟨by rw[hsz];exact h.1,by have:=h.2;omega⟩,(HJ7.out.keep hf).imp fun b h=>⟨by rw[hsz];exact h.1,by have:=h.2;omega⟩,(HL7.out.keep hf).imp fun b h=>⟨by rw[hsz];exact h.1,by have:=h.2;omega⟩,HQ.out.2,HQ.out.1,HA.out.len,HA.out.rt,HA.out.rk,HA.out.rs,HA.out.rn,HA.out.cz,HA.out.tz⟩,?_⟩;exact bE (Nat.le_refl _) (bE (Nat.le_refl _) HB7.out HO8.out.1 HO8.out.2 (Nat.le_refl _)) HO9.out.1 HO9.out.2 (by omega)
theorem sv (w:World):aq (w.alloc (.cells #[] 5)) w.heap.size (.slice (some ⟨w.heap.size,0,none⟩) 0 0) []:=World.ownsRow_made w #[] 0 (Nat.le_refl _) (by decide) rfl
theorem lC (a:Addr)(n c:Nat)(w:World):(binOp .eql 23 (.slice (some a) n c) (.slice none 0 0)).run Tryz.prog w= .ok (.bool false) w:=by kernel_rfl
theorem qv (w:World):(binOp .eql 23 (.slice none 0 0) (.slice none 0 0)).run Tryz.prog w= .ok (.bool true) w:=by kernel_rfl
theorem qH (v:Value)(l:List UInt8)(w:World)(hr:Rd w w.heap.size v l)(hl:l.length≤140737488351232):Calls Tryz.prog 29 #[v] w (iN l w):=by
 have HR:=hid hr;obtain⟨A,cap,rfl,hcap,⟨hc2,hA⟩,hc⟩:=hr;have HL:=hid hl
 cases A with
 |none=>
  have hll:l= []:=by
   match l,hc with
   | [],_=>rfl
   |b::r,hc=>obtain⟨_,_,h,_⟩:=hc (by simp);cases h
  subst hll;obtain rfl:=hA rfl;clear hc;have he:=qv w;go_enter Tryz.func29,Tryz.ntmps29;go_wp2_with fail;go_ret
  exact⟨_,rfl,World.ownsRow_nil _ _ _ _,Below.refl _ _⟩
 |some ad=>
  have hb0:Below w.heap.size w (w.alloc (.cells #[] 5)):=(Below.refl _ _).alloc (Nat.le_refl _) _;have HO0:=hid (sv w);have HR0:=hid (HR.out.keep hb0);have HB0:=hid hb0;have hz0:=hb0.size;clear hb0 hc hA;have he:=lC ad l.length cap w;go_enter Tryz.func29,Tryz.ntmps29;go_wp2_with(at_builtin;go_must (refine lG rfl _ _ rfl w.heap.size _ [] rfl HO0.out _ _ l rfl HR0.out hz0 (by have:=HL.out;simp only[List.length_nil];omega) ?_));intro v1 w1 hv1 hg1;have hb1:=pL HB0.out HO0.out hz0 hg1;have HV1:=hid hv1;have HB1:=hid hb1;clear hv1 hb1 hg1;go_wp2_with fail;go_ret;exact⟨_,rfl,HV1.out,HB1.out⟩
theorem Tryz.infoEntM :(Tryz.prog.info? 46).map (fun i=>(i.zero,i.size,i.bytes))=some (some (.agg #[.int .i64 0,.int .i64 0,.string ⟨#[]⟩,.string ⟨#[]⟩,.int .i64 0,.int .i64 0,.string ⟨#[]⟩,.slice none 0 0,.slice none 0 0,.int .i64 0,.int .i64 0,.string ⟨#[]⟩,.slice none 0 0,.slice none 0 0,.slice none 0 0,.int .i64 0,.int .i64 0]),17,248):=by kernel_rfl
theorem lw :dp 28:=fun _ _=>by simp[callFunc,go_sem,Tryz.func28,Tryz.f28]
def p6 (l:List aU)(w:World)(e:Ending)(w':World):Prop:= ∃A' c',e= .returned (.slice A' l.length c')∧(A'=none→c'=0)∧l.length≤c'∧cp w' (fun b=>b<w'.heap.size∧w.heap.size≤b) A' l∧Below w.heap.size w w'
theorem l7 (A:Option Addr)(c:Nat)(w:World):Calls Tryz.prog 27 #[.slice A 0 c,.func (.func 28) #[] #[]] w (p6 [] w):=by
 go_enter Tryz.func27,Tryz.ntmps27;go_wp2_with fail;go_ret;exact⟨none,0,rfl,fun _=>rfl,Nat.le_refl _,fun h=>absurd h (by simp),Below.refl _ _⟩
theorem sw (S:Nat→Prop)(A:Option Addr)(c:Nat)(l:List aU)(w:World)(hS: ∀b,S b→b<w.heap.size)(h:cp w S A l)(hl:l.length≤567493904640):
  Calls Tryz.prog 27 #[.slice A l.length c,.func (.func 28) #[] #[]] w (p6 l w):=by
 by_cases hl0:l.length=0
 ·have hnil:=List.eq_nil_of_length_eq_zero hl0;subst hnil;exact l7 A c w
 ·obtain⟨b,off,rfl,hb,hls⟩:=h (by omega);obtain⟨i0,hi,hz0,hz1,hz2⟩:=info_parts Tryz.infoEntM;have HL:=hid hl;have HLS:=hid hls;have hne:((l.length:Int) == 0)=false:=by simp;intro h;simp[h]at hl0
  have hlb:l.length≤4611686018427387904:=by omega
  have hcf: ∀(args:Array Value) (W:World),(callFunc 28 args).run Tryz.prog W= .ok (.enter 28 args) W:=lw;clear h hls hl;go_enter Tryz.func27,Tryz.ntmps27;go_wp2_with(at_make;go_must (refine wpList_make_full _ rfl _ _ 22 rfl w.heap.size 46 i0 _ 17 Tryz.underlying22 hi hz0 hz1 .i64 .i64 _ _ l.length rfl rfl rfl rfl ?b0 ?b1 ?b2 ?_));case b0=>have:=HL.out;rw[hz2];omega
  case b1=>have:=HL.out;unfold maxLen;omega
  case b2=>exact Nat.le_refl _
  intro w1 hown hg;have hb1:Below w.heap.size w w1:=cP hg (Nat.le_refl _) (fun k hk=>by cases hk);have HROW:Hid (dJ cZ 17 (fun b=>w.heap.size≤b) 46 w1 w.heap.size l 0):=hid (dJ.made hown rfl);have HB1:=hid hb1;clear hown hg hb1;obtain⟨G,hG⟩: ∃G,G=w.heap.size:=⟨_,rfl⟩;rw[←hG]at HROW ⊢;have HG:=hid hG;clear hG;go_wp2_with fail
  go_loopw [16] (fun i wr=> ∃j:Nat,i= .int .i64 j∧j≤l.length∧Hid (dJ cZ 17 (fun b=>G≤b) 46 wr G l j)∧Hid (Below w.heap.size w wr)) (fun i _=>l.length - (intOf i).toNat)
  case atStart=>exact⟨0,rfl,Nat.zero_le _,HROW,HB1⟩
  case round=>
   clear HROW HB1;obtain⟨j,rfl,hj,HI,HB⟩:=hrel;by_cases hlt:j<l.length
   ·obtain⟨cs,hcs,hx⟩:=HLS.out j hlt;have hsh:=hx;obtain⟨IA,ic,IA',ic',DA,dc,DA',dc',LA,lc,rfl,hat⟩:=hsh.at;have hrg:wr.rangeAt b (off+j * 17) [.int .i64 l[j].term,.int .i64 l[j].kind,.string l[j].coll,.string l[j].to,.int .i64 l[j].id.kind,.int .i64 l[j].id.num,.string l[j].id.text,.slice IA l[j].id.items.length ic,.slice IA' l[j].id.names.length ic',.int .i64 l[j].doc.kind,.int .i64 l[j].doc.num,.string l[j].doc.text,.slice DA l[j].doc.items.length dc,.slice DA' l[j].doc.names.length dc',.slice LA l[j].dels.length lc,.int .i64 l[j].session,.int .i64 l[j].number]:=fun k v hv=>(HB.out.cell (p:=⟨b,off+j * 17+k,none⟩) (hS b hb)).trans (hcs k v (by simpa using hv));obtain⟨w2,hw2⟩: ∃W,W=wr.alloc (.cells #[.int .i64 l[j].term,.int .i64 l[j].kind,.string l[j].coll,.string l[j].to,.int .i64 l[j].id.kind,.int .i64 l[j].id.num,.string l[j].id.text,.slice IA l[j].id.items.length ic,.slice IA' l[j].id.names.length ic',.int .i64 l[j].doc.kind,.int .i64 l[j].doc.num,.string l[j].doc.text,.slice DA l[j].doc.items.length dc,.slice DA' l[j].doc.names.length dc',.slice LA l[j].dels.length lc,.int .i64 l[j].session,.int .i64 l[j].number] 46):=⟨_,rfl⟩;have hb2:Below wr.heap.size wr w2:=by rw[hw2];exact ae _
    have HB2:=hid (HB.out.trans (hb2.mono HB.out.size));have HI2:=hid (HI.out.call cU hb2);have HRG:=hid hrg;have HBX:Hid (aS (wr.alloc (.cells #[.int .i64 l[j].term,.int .i64 l[j].kind,.string l[j].coll,.string l[j].to,.int .i64 l[j].id.kind,.int .i64 l[j].id.num,.string l[j].id.text,.slice IA l[j].id.items.length ic,.slice IA' l[j].id.names.length ic',.int .i64 l[j].doc.kind,.int .i64 l[j].doc.num,.string l[j].doc.text,.slice DA l[j].doc.items.length dc,.slice DA' l[j].doc.names.length dc',.slice LA l[j].dels.length lc,.int .i64 l[j].session,.int .i64 l[j].number] 46)) wr.heap.size l[j] IA ic IA' ic' DA dc DA' dc' LA lc):=hid (heap_alloc_new wr _);have HX:=hid (pK S l[j] _ w2 (fun b hb=>Nat.lt_of_lt_of_le (hS b hb) HB2.out.size) (hx.keep fun b hb=>HB2.out.block b (hS b hb)) hat.len);clear hx hcs hrg hb2 HI hat;go_wp2_with(first|(refine bD (by rfl) 46 _ rfl b (off+j * 17) rfl _ _ HRG.out Tryz.underlying46 rfl (by kernel_rfl) ?_;simp only[acR,Act.put])|(refine bh (by rfl) _ rfl wr.heap.size rfl _ _ HBX.out rfl ?_;simp only[acR,Act.put]));rw[←hw2];clear hw2;refine HX.out.mono ?_;rintro e w3 ⟨cs',rfl,hd,hb3⟩;have HB3:=hid (HB2.out.trans (hb3.mono HB2.out.size));have HI3:=hid (HI2.out.call cU hb3);have HGB:Hid (G<w2.heap.size):=hid HI2.out.lt;have hd':cZ w3 (fun b=>b<w3.heap.size∧b≠G∧G≤b) l[j] cs':=hd.imp fun b hb=>⟨hb.1,by have:=hb.2;have:=HGB.out;omega,by have:=hb.2;have:=HGB.out;omega⟩;obtain⟨cur,hcur,hcz,-⟩:=id HI3.out;have hnx:=fun w' h1 h2 h3=>HI3.out.store (w':=w') cU hlt hcur hd' h1 h2 h3
    have HNX:=hid hnx;have HCUR:=hid hcur;obtain⟨JA,jc,JA',jc',FA,fc,FA',fc',MA,mc,rfl,-⟩:=hd.at;have hcb:j * 17+17≤cur.size:=by rw[hcz];omega
    clear hd' hb3 hnx hcur HX HI2;go_wp2_with(refine am (by rfl) 46 _ _ rfl rfl G (j * 17) rfl _ #[.int .i64 l[j].term,.int .i64 l[j].kind,.string l[j].coll,.string l[j].to,.int .i64 l[j].id.kind,.int .i64 l[j].id.num,.string l[j].id.text,.slice JA l[j].id.items.length jc,.slice JA' l[j].id.names.length jc',.int .i64 l[j].doc.kind,.int .i64 l[j].doc.num,.string l[j].doc.text,.slice FA l[j].doc.items.length fc,.slice FA' l[j].doc.names.length fc',.slice MA l[j].dels.length mc,.int .i64 l[j].session,.int .i64 l[j].number] rfl rfl _ _ 46 HCUR.out hcb (by kernel_rfl) (by simp[Value.oneCell']) rfl ?_;intro w4 hk ho hz;have HI4:=hid (HNX.out w4 hk ho hz);have HB4:=hid (bE (Nat.le_refl _) HB3.out ho hz (by have:=HG.out;omega));clear hk ho hz)
    go_roundw
    case rel=>exact⟨j+1,by go_num,by omega,HI4,HB4⟩
    case measure=>simp[intOf];omega
   ·go_wp2_with fail;go_ret;obtain rfl:j=l.length:=by omega
    exact⟨some ⟨G,0,none⟩,l.length,rfl,(fun h=>by cases h),Nat.le_refl _,(HI.out.rows cU).imp cU fun b hb=>⟨hb.1,by have:=HG.out;have:=hb.2;omega⟩,HB.out⟩
theorem kh (S:Nat→Prop)(m:aQ)(EA:Option Addr)(ec:Nat)(SA:Option Addr)(sc:Nat)(w:World)(hS: ∀b,S b→b<w.heap.size)(h:aT w S m EA ec SA sc)(hce: ∀W,(∀b,S b→b<W.heap.size)→cp W S EA m.ents→Calls Tryz.prog 27 #[.slice EA m.ents.length ec,.func (.func 28) #[] #[]] W (p6 m.ents W)):
  Calls Tryz.prog 12 #[.agg #[.int .i64 m.kind,.int .i64 m.frm,.int .i64 m.tgt,.int .i64 m.term,.int .i64 m.index,.int .i64 m.logTerm,.int .i64 m.commit,.int .i64 m.round,.bool m.ok,.slice EA m.ents.length ec,.slice SA m.snap.length sc]] w fun r w'=> ∃GA gc TA tc,r= .returned (.agg #[.int .i64 m.kind,.int .i64 m.frm,.int .i64 m.tgt,.int .i64 m.term,.int .i64 m.index,.int .i64 m.logTerm,.int .i64 m.commit,.int .i64 m.round,.bool m.ok,.slice GA m.ents.length gc,.slice TA m.snap.length tc])∧aT w' (fun b=>b<w'.heap.size∧w.heap.size≤b) m GA gc TA tc∧Below w.heap.size w w':=by
 obtain⟨w2,hw2⟩: ∃W,W=(w.alloc (.cells #[.int .i64 m.kind,.int .i64 m.frm,.int .i64 m.tgt,.int .i64 m.term,.int .i64 m.index,.int .i64 m.logTerm,.int .i64 m.commit,.int .i64 m.round,.bool m.ok,.slice EA m.ents.length ec,.slice SA m.snap.length sc] 25)).alloc (.cells #[.int .i64 0,.int .i64 0,.int .i64 0,.int .i64 0,.int .i64 0,.int .i64 0,.int .i64 0,.int .i64 0,.bool false,.slice none 0 0,.slice none 0 0] 25):=⟨_,rfl⟩;have hz1:(w.alloc (.cells #[.int .i64 m.kind,.int .i64 m.frm,.int .i64 m.tgt,.int .i64 m.term,.int .i64 m.index,.int .i64 m.logTerm,.int .i64 m.commit,.int .i64 m.round,.bool m.ok,.slice EA m.ents.length ec,.slice SA m.snap.length sc] 25)).heap.size=w.heap.size+1:=by simp
 have hz2:w2.heap.size=w.heap.size+2:=by rw[hw2];simp
 have hbb:w2.heap[w.heap.size+1]? =some (.cells #[.int .i64 0,.int .i64 0,.int .i64 0,.int .i64 0,.int .i64 0,.int .i64 0,.int .i64 0,.int .i64 0,.bool false,.slice none 0 0,.slice none 0 0] 25 (0,0)):=by rw[hw2,←hz1];exact heap_alloc_new _ _
 have hba:bx w2 w.heap.size m EA ec SA sc:=by unfold bx;rw[hw2,Below.heap_alloc _ _ _ (by omega)];exact heap_alloc_new _ _
 have h02:Below w.heap.size w w2:=by rw[hw2];exact(ae _).alloc (by omega) _
 have HB2:=hid h02;have HK2:=hid hba;have HZ2:=hid hbb;have HZS:=hid hz2;have HS:=hid hS;have HA:=hid h;have HC:=hid (hce w2 (fun b hb=>Nat.lt_of_lt_of_le (hS b hb) h02.size) (h.below hS h02).ents);clear h02 hba hbb hS hz1 hz2 h hce;go_enter Tryz.func12,Tryz.ntmps12;go_wp2_with fail;rw[←hw2];clear hw2;refine HC.out.mono ?_;rintro q w3 ⟨GA,gc,rfl,hg0,hg1,hge,hb⟩;have HB3:=hid (HB2.out.trans (hb.mono HB2.out.size));have HK3:=hid (HK2.out.below hb);have HZ3:=hid ((hb.block _ (Array.getElem?_eq_some_iff.1 HZ2.out).1).trans HZ2.out);have HZW3:Hid (w.heap.size+2≤w3.heap.size):=hid (by have:=hb.size;have:=HZS.out;omega);have HG3:Hid (cp w3 (fun b=>w.heap.size+2≤b∧b<w3.heap.size) GA m.ents):=hid (cJ.imp cU hge fun b hb'=>⟨by have:=hb'.2;have:=HZS.out;omega,hb'.1⟩);have HGC:=hid (And.intro hg0 hg1);have HCB:=hid (fun W (hW:Below w.heap.size w W)=>qH (.slice SA m.snap.length sc) m.snap W (((HA.out.below HS.out hW).snap.rd (fun b hb=>Nat.lt_of_lt_of_le (HS.out b hb) hW.size) HA.out.scap HA.out.s63 HA.out.snil)) HA.out.slen);clear hge hb HC HK2 HZ2 hg0 hg1;go_wp2_with(refine am (by rfl) 22 _ _ rfl rfl w.heap.size 9 rfl _ #[.slice GA m.ents.length gc] rfl rfl _ #[.int .i64 m.kind,.int .i64 m.frm,.int .i64 m.tgt,.int .i64 m.term,.int .i64 m.index,.int .i64 m.logTerm,.int .i64 m.commit,.int .i64 m.round,.bool m.ok,.slice GA m.ents.length gc,.slice SA m.snap.length sc] 25 HK3.out (by simp) (by kernel_rfl) (by simp[Value.oneCell']) (by kernel_rfl) ?_;intro w4 hk ho hz;have HK4:Hid (bx w4 w.heap.size m GA gc SA sc):=hid hk;have HO4:=hid (And.intro ho hz);clear hk ho hz;have y10:=HK4.out.g10)
 have HB4:=hid (bE (Nat.le_refl _) HB3.out HO4.out.1 HO4.out.2 (Nat.le_refl _));refine(HCB.out _ HB4.out).mono ?_;rintro q w5 ⟨v5,rfl,ho5,hb⟩;obtain⟨TA,tc,rfl,ht1,ht2,ht3,ht4⟩:=wy ho5;clear y10;have HB5:=hid (HB4.out.trans (hb.mono HB4.out.size));have HK5:=hid (HK4.out.below hb)
 have HZ5:Hid (w5.heap[w.heap.size+1]? =some (.cells #[.int .i64 0,.int .i64 0,.int .i64 0,.int .i64 0,.int .i64 0,.int .i64 0,.int .i64 0,.int .i64 0,.bool false,.slice none 0 0,.slice none 0 0] 25 (0,0))):=hid (by
  have h1:=dh HO4.out.1 HZ3.out (by omega)
  exact(hb.block _ (Array.getElem?_eq_some_iff.1 h1).1).trans h1)
 have HG5:Hid (cp w5 (fun b=>w.heap.size+2≤b∧b<w5.heap.size) GA m.ents):=hid (cJ.imp cU (cJ.keep cU (cJ.keep cU HG3.out (bL HO4.out.1 fun b hb=>⟨hb.2,by have:=hb.1;omega⟩)) fun b hb'=>hb.block b (by rw[HO4.out.2];exact hb'.2)) fun b hb'=>⟨hb'.1,Nat.lt_of_lt_of_le hb'.2 (by rw[←HO4.out.2];exact hb.size)⟩);have HT5:Hid (cd w5 (fun b=>w.heap.size+2≤b∧b<w5.heap.size) TA m.snap):=hid (ht4.imp fun b hb'=>⟨by have:=hb'.2;have:=HZW3.out;have:=HO4.out.2;omega,hb'.1⟩);have HTC:=hid (And.intro ht1 (And.intro ht2 ht3));clear ho5 hb ht1 ht2 ht3 ht4 HCB HZ3 HK3;go_wp2_with(first|(refine am (by rfl) 23 _ _ rfl rfl w.heap.size 10 rfl _ #[.slice TA m.snap.length tc] rfl rfl _ #[.int .i64 m.kind,.int .i64 m.frm,.int .i64 m.tgt,.int .i64 m.term,.int .i64 m.index,.int .i64 m.logTerm,.int .i64 m.commit,.int .i64 m.round,.bool m.ok,.slice GA m.ents.length gc,.slice TA m.snap.length tc] 25 HK5.out (by simp) (by kernel_rfl) (by simp[Value.oneCell']) (by kernel_rfl) ?_;intro w6 hk ho hz;have HK6:Hid (bx w6 w.heap.size m GA gc TA tc):=hid hk;have HO6:=hid (And.intro ho hz);have HZ6:=hid (dh HO6.out.1 HZ5.out (by omega));clear hk ho hz)|(refine ap (by rfl) _ rfl w.heap.size rfl _ _ HK6.out rfl ?_;simp only[acR,Act.put])|(refine am (by rfl) 25 _ _ rfl rfl (w.heap.size+1) 0 rfl _ #[.int .i64 m.kind,.int .i64 m.frm,.int .i64 m.tgt,.int .i64 m.term,.int .i64 m.index,.int .i64 m.logTerm,.int .i64 m.commit,.int .i64 m.round,.bool m.ok,.slice GA m.ents.length gc,.slice TA m.snap.length tc] rfl rfl _ #[.int .i64 m.kind,.int .i64 m.frm,.int .i64 m.tgt,.int .i64 m.term,.int .i64 m.index,.int .i64 m.logTerm,.int .i64 m.commit,.int .i64 m.round,.bool m.ok,.slice GA m.ents.length gc,.slice TA m.snap.length tc] 25 HZ6.out (by simp) (by kernel_rfl) (by simp[Value.oneCell']) (by kernel_rfl) ?_;intro w7 hk ho hz;have HK7:=hid hk;have HO7:=hid (And.intro ho hz);clear hk ho hz))
 have HB6:=hid (bE (Nat.le_refl _) HB5.out HO6.out.1 HO6.out.2 (Nat.le_refl _));have HB7:=hid (bE (Nat.le_refl _) HB6.out HO7.out.1 HO7.out.2 (by omega));refine bodyPost_ret (results_cell_row rfl _ _ (w.heap.size+1) 25 _ (0,0) _ rfl HK7.out Tryz.underlying25 rfl (by kernel_rfl)) rfl ?_;have hf: ∀b,w.heap.size+2≤b∧b<w5.heap.size→w7.heap[b]? =w5.heap[b]? :=fun b hb=>(bL HO7.out.1 (S:=fun b=>w.heap.size+2≤b∧b<w5.heap.size) (fun b h=>⟨by rw[HO6.out.2];exact h.2,by have:=h.1;omega⟩) b hb).trans (bL HO6.out.1 (S:=fun b=>w.heap.size+2≤b∧b<w5.heap.size) (fun b h=>⟨h.2,by have:=h.1;omega⟩) b hb);have hz:w7.heap.size=w5.heap.size:=HO7.out.2.trans HO6.out.2;refine⟨GA,gc,TA,tc,rfl,?_,HB7.out⟩
 exact { HA.out with
  ents:=cJ.imp cU (cJ.keep cU HG5.out hf) fun b hb=>⟨by rw[hz];exact hb.2,by have:=hb.1;omega⟩
  ecap:=HGC.out.2
  enil:=HGC.out.1
  snap:=(HT5.out.keep hf).imp fun b hb=>⟨by rw[hz];exact hb.2,by have:=hb.1;omega⟩
  scap:=HTC.out.1
  s63:=HTC.out.2.1
  snil:=HTC.out.2.2 }
theorem qW (S:Nat→Prop)(m:aQ)(EA:Option Addr)(ec:Nat)(SA:Option Addr)(sc:Nat)(w:World)(hS: ∀b,S b→b<w.heap.size)(h:aT w S m EA ec SA sc):
  Calls Tryz.prog 12 #[.agg #[.int .i64 m.kind,.int .i64 m.frm,.int .i64 m.tgt,.int .i64 m.term,.int .i64 m.index,.int .i64 m.logTerm,.int .i64 m.commit,.int .i64 m.round,.bool m.ok,.slice EA m.ents.length ec,.slice SA m.snap.length sc]] w fun r w'=> ∃GA gc TA tc,r= .returned (.agg #[.int .i64 m.kind,.int .i64 m.frm,.int .i64 m.tgt,.int .i64 m.term,.int .i64 m.index,.int .i64 m.logTerm,.int .i64 m.commit,.int .i64 m.round,.bool m.ok,.slice GA m.ents.length gc,.slice TA m.snap.length tc])∧aT w' (fun b=>b<w'.heap.size∧w.heap.size≤b) m GA gc TA tc∧Below w.heap.size w w':=
 kh S m EA ec SA sc w hS h fun W hW hr=>sw S EA ec m.ents W hW hr h.elen
theorem gx {w w':World}{g:Nat}{e:aU}{IA:Option Addr}{ic:Nat}{IA':Option Addr}{ic':Nat}{DA:Option Addr}{dc:Nat}{DA':Option Addr}{dc':Nat}{LA:Option Addr}{lc:Nat}(h:aS w g e IA ic IA' ic' DA dc DA' dc' LA lc)(hk:K8 w w'):aS w' g e IA ic IA' ic' DA dc DA' dc' LA lc:=
  hk g _ h (fun h=>by cases h) (fun c fz h=>by injection h with _ h;exact absurd h (by decide))
structure uA (e:aU):Prop where
  coll:(txt e.coll).length≤1011
  to:(txt e.to).length≤1011
  cz:e.coll.size≤1000
  tz:e.to.size≤1000
  id:(dz e.id).length≤4096
  doc:(dz e.doc).length≤4096
  dels:aW e.kind=true→bo e.dels=0∧(ck e.dels).length≤134500000
theorem mA {e:aU}(hm:bJ e=true)(hd:SmE e):uA e:=by
  have m:=(gf e).1 hm
  have hc:e.coll.size≤1000:=by
    have h:=m.coll
    split at h
    · have:=(eN h).2;omega
    · omega
  have ht:e.to.size≤1000:=by
    have h:=m.to
    split at h
    · have:=(eN h.1).2;omega
    · omega
  refine⟨gB hc,gB ht,hc,ht,eF hd.idz,eF hd.docz,fun hk=> ?_⟩;have h:=m.dels;rw[if_pos hk]at h;unfold dx at h;simp only[Bool.and_eq_true,decide_eq_true_eq]at h;obtain⟨h64,hmm⟩:=dr h.1.1;refine⟨h.1.1,?_⟩;have h3:=fj (l:=e.dels) fun o ho=>⟨hmm o ho,(hd.dels h64).2 o ho⟩;have h4:=(al e.dels.length).1;unfold ck;rw[if_pos h.1.1,List.length_append];omega
theorem Rd.upE {w:World}{B B':Nat}{v:Value}{l:List UInt8}(h:Rd w B v l)(hB:B≤B'):Rd w B' v l:=by
  obtain⟨A,cap,h1,h2,h3,h4⟩:=h;exact⟨A,cap,h1,h2,h3,fun hl=>by obtain⟨b,off,e,hb,hc⟩:=h4 hl;exact⟨b,off,e,by omega,hc⟩⟩
theorem sB {z T c:Nat}{wA:World}(hT:T≤1099511627776)(hn:fI wA z [T]):Calls Tryz.prog 62 #[.slice none 0 0,.slice (some ⟨z,0,none⟩) 1 c] wA fun q w'=> ∃v',q= .returned v'∧aq w' wA.heap.size v' (grp T)∧Below wA.heap.size wA w':=
  (dF wA.heap.size z c [T] (.slice none 0 0) [] wA (World.ownsRow_nil _ _ _ _) (Nat.le_refl _) hn (by intro k hk;simp at hk;omega) (by simp)).mono fun q w' ⟨v',h1,h2,h3,_⟩=>⟨v',h1,by unfold gl at h2;simpa using h2,h3⟩
theorem uL {B:Nat}{a w w':World}(h:Below B a w)(hb:Below B w w'):Below B a w':=h.trans hb
theorem sZ {B Z N:Nat}{v:Value}{l:List UInt8}{w4:World}(h:aq w4 B v l)(hB:B≤w4.heap.size)(hZ:Z≤255)(hN:N≤1099511627776)(hl:l.length≤100):
    Calls Tryz.prog 62 #[v,.slice (some ⟨w4.heap.size,0,none⟩) 2 2] (w4.alloc (.cells #[.int .i64 (Z:Int),.int .i64 (N:Int)] 3)) fun q w'=> ∃v',q= .returned v'∧aq w' B v' (l++(grp Z++grp N))∧Below B w4 w'∧K8 w4 w':=by
  have hb0:Below w4.heap.size w4 (w4.alloc (.cells #[.int .i64 (Z:Int),.int .i64 (N:Int)] 3)):=ae _;refine(dF B w4.heap.size 2 [Z,N] v l (w4.alloc (.cells #[.int .i64 (Z:Int),.int .i64 (N:Int)] 3)) (h.below hb0) (Nat.le_trans hB hb0.size) (fI.new w4 [Z,N]) (by intro k hk;simp at hk;omega) (by simp;omega)).mono ?_;rintro q w' ⟨v',h1,h2,h3,h4⟩;exact⟨v',h1,by unfold gl at h2;simpa using h2,(hb0.mono hB).trans h3,(az hb0).trans h4⟩
theorem ux (S:Nat→Prop)(e:aU)(cs:Array Value)(w:World)(hS: ∀b,S b→b<w.heap.size)(h:cZ w S e cs)(hd:SmE e)(hm:bJ e=true):
    Calls Tryz.prog 123 #[.agg cs] w (iN (dV e) w):=by
  obtain⟨IA,ic,IA',ic',DA,dc,DA',dc',LA,lc,rfl,hat⟩:=h.at;have hsh:=mA hm hd;have hmm:=(gf e).1 hm;obtain⟨T,hT⟩: ∃n:Nat,e.term=n:=⟨e.term.toNat,by have:=hmm.t0;omega⟩;obtain⟨kb,hkb⟩: ∃kb,kb=UInt8.ofNat e.kind.toNat:=⟨_,rfl⟩;obtain⟨Z,hZ⟩: ∃n:Nat,e.session=n:=⟨e.session.toNat,by have:=hmm.s0;omega⟩;obtain⟨N,hN⟩: ∃n:Nat,e.number=n:=⟨e.number.toNat,by have:=hmm.n0;omega⟩
  have hkx:e.kind % 256=(kb.toNat:Int):=by
    have h1:=hmm.k1;have h2:=hmm.k7;rw[hkb,bA _ (by omega)];omega
  have HKX:=hid hkx;have HTN:Hid (T≤1099511627776∧Z≤255∧N≤1099511627776):=hid ⟨by have:=hmm.t1;omega,by have:=hmm.s1;omega,by have:=hmm.n1;omega⟩
  have HCE:Hid (dV e=grp T++([kb]++(grp Z++(grp N++((if aP e.kind then txt e.coll else [])++((if bW e.kind then txt e.to else [])++((if bY e.kind then dz e.id else [])++((if bt e.kind then dz e.doc else [])++(if aW e.kind then ck e.dels else []))))))))):=hid (by
    unfold dV;rw[hT,hZ,hN,hkb];rfl)
  have HKH:Hid (uA e):=hid hsh;have HT:=hid hT;have HZ:=hid hZ;have HNN:=hid hN;obtain⟨w1,hw1⟩: ∃W,W=w.alloc (.cells #[.int .i64 e.term,.int .i64 e.kind,.string e.coll,.string e.to,.int .i64 e.id.kind,.int .i64 e.id.num,.string e.id.text,.slice IA e.id.items.length ic,.slice IA' e.id.names.length ic',.int .i64 e.doc.kind,.int .i64 e.doc.num,.string e.doc.text,.slice DA e.doc.items.length dc,.slice DA' e.doc.names.length dc',.slice LA e.dels.length lc,.int .i64 e.session,.int .i64 e.number] 46):=⟨_,rfl⟩;have hbk:aS w1 w.heap.size e IA ic IA' ic' DA dc DA' dc' LA lc:=by rw[hw1];exact heap_alloc_new w _
  have hb1:Below w.heap.size w w1:=by rw[hw1];exact ae _
  obtain⟨w2,hw2⟩: ∃W,W=w1.drew:=⟨_,rfl⟩;have HK2:Hid (aS w2 w.heap.size e IA ic IA' ic' DA dc DA' dc' LA lc):=hid (by rw[hw2];exact hbk);have HB2:Hid (Below w.heap.size w w2):=hid (by rw[hw2];exact hb1.drew);have HS:=hid hS;have HA:=hid hat;have HD:=hid hd;have HW2:=hid hw2;have q0:=b9 (w:=w2) (g:=w.heap.size) (i:=0) HK2.out (by decide) rfl;have q1:=b9 (w:=w2) (g:=w.heap.size) (i:=1) HK2.out (by decide) rfl;rw[hT]at q0;clear hb1 hbk hS h hat hd hm hsh hmm hT hkb hZ hN hkx hw2;go_enter Tryz.func123,Tryz.ntmps123;go_wp2_with fail;rw[←hw1];clear hw1;refine bT K8 (fun w=>Lib.OthersKept.refl _ _ _) (fun a b c h k=>h.trans k) [] (.pure [0,1,4,5,6] (.fork 2 (.fork 3 (.step 7 (.step 8 (.free [9] (.tail [])))) 7 (.step 3 (.step 8 (.free [9] (.tail []))))) 7 (.step 2 (.step 3 (.step 8 (.free [9] (.tail []))))))) (by kernel_rfl) (by kernel_rfl) (fun _ d _ _ _ h=>by cases d<;>exact h) ?_;rw[←HW2.out];refine eH ?_;simp only[atR];show wpQuiet _ _ _ _ [_,_,_,_,_] _;repeat(go_big_quiet_step (fail))
  refine wpQuiet_nil ?_;clear q0 q1;have hBX: ∀W o,Below w.heap.size w W→aS W w.heap.size e IA ic IA' ic' DA dc DA' dc' LA lc→Below w.heap.size w (W.alloc o)∧aS (W.alloc o) w.heap.size e IA ic IA' ic' DA dc DA' dc' LA lc:=fun W o h1 h2=>⟨h1.alloc h1.size o,h2.below (ae o)⟩;have HBX:=hid hBX;clear hBX;have HTC:=hid (fun(z c:Nat) (W:World) (h:fI W z [T])=>sB (c:=c) HTN.out.1 h);refine rm rfl rfl (fun K hK=> ?_) (fun K hK=> ?_)
  focus
    go_simp
    refine hK _ _ (.inr ((Lib.OthersKept.refl _ _ _).alloc _)) ?_;clear hK K;obtain⟨wA,hwA⟩: ∃W,W=w2.alloc (.cells #[.int .i64 (T:Int)] 3):=⟨_,rfl⟩;rw[←hwA];have HwA:=hid (show Below w.heap.size w wA∧aS wA w.heap.size e IA ic IA' ic' DA dc DA' dc' LA lc∧fI wA w2.heap.size [T]∧True by rw[hwA];exact⟨(HBX.out _ _ HB2.out HK2.out).1,(HBX.out _ _ HB2.out HK2.out).2,fI.new w2 [T],trivial⟩);clear hwA;refine rm rfl rfl (fun K hK=> ?_) (fun K hK=> ?_)
    focus
      go_simp
      refine(HTC.out _ _ wA HwA.out.2.2.1).mono ?_;rintro q w3 ⟨v3,rfl,hv3,hb3⟩
      go_simp
      refine hK _ _ (.inr (az hb3)) ?_;clear hK K;have HX2:Hid (aq w3 w.heap.size v3 (grp T)∧Below w.heap.size w w3∧aS w3 w.heap.size e IA ic IA' ic' DA dc DA' dc' LA lc):=hid ⟨hv3.base HwA.out.1.size,HwA.out.1.trans (hb3.mono HwA.out.1.size),HwA.out.2.1.below hb3⟩;clear hv3 hb3 HwA;try simp only[acR,Act.put]
      refine bu rfl (fun K hK=> ?_)
      go_simp
      refine hK _ _ (.inr ((Lib.OthersKept.refl _ _ _).alloc _)) ?_;clear hK K;obtain⟨w5,hw5⟩: ∃W,W=w3.alloc (.cells #[.int .u8 (e.kind % 256)] 5):=⟨_,rfl⟩;rw[←hw5]
      have HX3:Hid (aq w5 w.heap.size v3 (grp T)∧Below w.heap.size w w5∧aS w5 w.heap.size e IA ic IA' ic' DA dc DA' dc' LA lc∧Rd w5 w5.heap.size (.slice (some ⟨w3.heap.size,0,none⟩) 1 1) [kb]):=hid (by
        have h1:=HBX.out w3 (.cells #[.int .u8 (e.kind % 256)] 5) HX2.out.2.1 HX2.out.2.2;rw[hw5]
        exact⟨HX2.out.1.below (ae _),h1.1,h1.2,(Rd.one' rfl kb HKX.out).upE (by simp)⟩)
      clear hw5 HX2;try simp only[acR,Act.put]
      refine jh rfl rfl (fun K hK=> ?_);refine bM _ _ rfl w.heap.size v3 (grp T) rfl HX3.out.1 w5.heap.size _ [kb] rfl HX3.out.2.2.2 (by simp) HX3.out.2.1.size (by have:=(al T).1;simp;omega) (fun v4 w4 hv4 hg4=> ?_);refine hK _ _ (.inr (aA HX3.out.1 hg4)) ?_;clear hK K;have HX4:Hid (aq w4 w.heap.size v4 (grp T++[kb])∧Below w.heap.size w w4∧aS w4 w.heap.size e IA ic IA' ic' DA dc DA' dc' LA lc):=hid ⟨hv4,ax HX3.out.2.1 HX3.out.1 HX3.out.2.1.size hg4,gx HX3.out.2.2.1 (aA HX3.out.1 hg4)⟩;clear hv4 hg4 HX3;try simp only[acR,Act.put]
      refine gD ?_;simp only[atR];show wpQuiet _ _ _ _ [_] _;repeat(go_big_quiet_step (fail))
      refine wpQuiet_nil ?_;refine eJ ?_
    rotate_left
    focus
      go_simp
      refine hK _ _ (.inr ((Lib.OthersKept.refl _ _ _).alloc _)) ?_;clear hK K;obtain⟨wB,hwB⟩: ∃W,W=wA.alloc (.cells #[.int .u8 (e.kind % 256)] 5):=⟨_,rfl⟩;rw[←hwB]
      have HwB:=hid (show Below w.heap.size w wB∧aS wB w.heap.size e IA ic IA' ic' DA dc DA' dc' LA lc∧fI wB w2.heap.size [T]∧Rd wB wB.heap.size (.slice (some ⟨wA.heap.size,0,none⟩) 1 1) [kb] by
        have h1:=HBX.out wA (.cells #[.int .u8 (e.kind % 256)] 5) HwA.out.1 HwA.out.2.1;rw[hwB]
        exact⟨h1.1,h1.2,HwA.out.2.2.1.k8 (az (ae _)),(Rd.one' rfl kb HKX.out).upE (by simp)⟩)
      clear hwB HwA;try simp only[acR,Act.put]
      refine bu rfl (fun K hK=> ?_)
      go_simp
      refine(HTC.out _ _ wB HwB.out.2.2.1).mono ?_;rintro q w3 ⟨v3,rfl,hv3,hb3⟩
      go_simp
      refine hK _ _ (.inr (az hb3)) ?_;clear hK K;have HX3:Hid (aq w3 w.heap.size v3 (grp T)∧Below w.heap.size w w3∧aS w3 w.heap.size e IA ic IA' ic' DA dc DA' dc' LA lc∧Rd w3 w3.heap.size (.slice (some ⟨wA.heap.size,0,none⟩) 1 1) [kb]):=hid ⟨hv3.base HwB.out.1.size,HwB.out.1.trans (hb3.mono HwB.out.1.size),HwB.out.2.1.below hb3,(HwB.out.2.2.2.keep hb3).upE hb3.size⟩;clear hv3 hb3 HwB;try simp only[acR,Act.put]
      refine jh rfl rfl (fun K hK=> ?_);refine bM _ _ rfl w.heap.size v3 (grp T) rfl HX3.out.1 w3.heap.size _ [kb] rfl HX3.out.2.2.2 (by simp) HX3.out.2.1.size (by have:=(al T).1;simp;omega) (fun v4 w4 hv4 hg4=> ?_);refine hK _ _ (.inr (aA HX3.out.1 hg4)) ?_;clear hK K;have HX4:Hid (aq w4 w.heap.size v4 (grp T++[kb])∧Below w.heap.size w w4∧aS w4 w.heap.size e IA ic IA' ic' DA dc DA' dc' LA lc):=hid ⟨hv4,ax HX3.out.2.1 HX3.out.1 HX3.out.2.1.size hg4,gx HX3.out.2.2.1 (aA HX3.out.1 hg4)⟩;clear hv4 hg4 HX3;try simp only[acR,Act.put]
      refine gD ?_;simp only[atR];show wpQuiet _ _ _ _ [_] _;repeat(go_big_quiet_step (fail))
      refine wpQuiet_nil ?_;refine eJ ?_
    rotate_left
  rotate_left 2
  focus
    go_simp
    refine hK _ _ (.inr ((Lib.OthersKept.refl _ _ _).alloc _)) ?_;clear hK K;obtain⟨wA,hwA⟩: ∃W,W=w2.alloc (.cells #[.int .u8 (e.kind % 256)] 5):=⟨_,rfl⟩;rw[←hwA]
    have HwA:=hid (show Below w.heap.size w wA∧aS wA w.heap.size e IA ic IA' ic' DA dc DA' dc' LA lc∧Rd wA wA.heap.size (.slice (some ⟨w2.heap.size,0,none⟩) 1 1) [kb] by
      have h1:=HBX.out w2 (.cells #[.int .u8 (e.kind % 256)] 5) HB2.out HK2.out;rw[hwA]
      exact⟨h1.1,h1.2,(Rd.one' rfl kb HKX.out).upE (by simp)⟩)
    clear hwA;try simp only[acR,Act.put]
    refine bu rfl (fun K hK=> ?_)
    go_simp
    refine hK _ _ (.inr ((Lib.OthersKept.refl _ _ _).alloc _)) ?_;clear hK K;obtain⟨wB,hwB⟩: ∃W,W=wA.alloc (.cells #[.int .i64 (T:Int)] 3):=⟨_,rfl⟩;rw[←hwB]
    have HwB:=hid (show Below w.heap.size w wB∧aS wB w.heap.size e IA ic IA' ic' DA dc DA' dc' LA lc∧fI wB wA.heap.size [T]∧Rd wB wB.heap.size (.slice (some ⟨w2.heap.size,0,none⟩) 1 1) [kb] by
      have h1:=HBX.out wA (.cells #[.int .i64 (T:Int)] 3) HwA.out.1 HwA.out.2.1;rw[hwB]
      exact⟨h1.1,h1.2,fI.new wA [T],(HwA.out.2.2.keep (ae _)).upE (by simp)⟩)
    clear hwB HwA;try simp only[acR,Act.put]
    refine bu rfl (fun K hK=> ?_)
    go_simp
    refine(HTC.out _ _ wB HwB.out.2.2.1).mono ?_;rintro q w3 ⟨v3,rfl,hv3,hb3⟩
    go_simp
    refine hK _ _ (.inr (az hb3)) ?_;clear hK K;have HX3:Hid (aq w3 w.heap.size v3 (grp T)∧Below w.heap.size w w3∧aS w3 w.heap.size e IA ic IA' ic' DA dc DA' dc' LA lc∧Rd w3 w3.heap.size (.slice (some ⟨w2.heap.size,0,none⟩) 1 1) [kb]):=hid ⟨hv3.base HwB.out.1.size,HwB.out.1.trans (hb3.mono HwB.out.1.size),HwB.out.2.1.below hb3,(HwB.out.2.2.2.keep hb3).upE hb3.size⟩;clear hv3 hb3 HwB;try simp only[acR,Act.put]
    refine jh rfl rfl (fun K hK=> ?_);refine bM _ _ rfl w.heap.size v3 (grp T) rfl HX3.out.1 w3.heap.size _ [kb] rfl HX3.out.2.2.2 (by simp) HX3.out.2.1.size (by have:=(al T).1;simp;omega) (fun v4 w4 hv4 hg4=> ?_);refine hK _ _ (.inr (aA HX3.out.1 hg4)) ?_;clear hK K;have HX4:Hid (aq w4 w.heap.size v4 (grp T++[kb])∧Below w.heap.size w w4∧aS w4 w.heap.size e IA ic IA' ic' DA dc DA' dc' LA lc):=hid ⟨hv4,ax HX3.out.2.1 HX3.out.1 HX3.out.2.1.size hg4,gx HX3.out.2.2.1 (aA HX3.out.1 hg4)⟩;clear hv4 hg4 HX3;try simp only[acR,Act.put]
    refine gD ?_;simp only[atR];show wpQuiet _ _ _ _ [_] _;repeat(go_big_quiet_step (fail))
    refine wpQuiet_nil ?_;refine eJ ?_
  rotate_left
  all_goals
    have y15:=HX4.out.2.2.g15;have y16:=HX4.out.2.2.g16;rw[HZ.out]at y15;rw[HNN.out]at y16;have HP:=hid (sZ HX4.out.1 HX4.out.2.1.size HTN.out.2.1 HTN.out.2.2 (by have:=(al T).1;simp;omega));go_wp2_with fail;refine HP.out.mono ?_;rintro q w6 ⟨v6,rfl,hv6,hb6,hk6⟩;have HX6:Hid (aq w6 w.heap.size v6 (grp T++[kb]++(grp Z++grp N))∧Below w.heap.size w w6∧aS w6 w.heap.size e IA ic IA' ic' DA dc DA' dc' LA lc):=hid ⟨hv6,uL HX4.out.2.1 hb6,gx HX4.out.2.2 hk6⟩;clear hv6 hb6 hk6 HP HX4 y15 y16;have hal:(grp T++[kb]++(grp Z++grp N)).length≤100:=by have:=(al T).1;have:=(al Z).1;have:=(al N).1;simp;omega
    obtain⟨acc6,hacc⟩: ∃acc,acc=grp T++[kb]++(grp Z++grp N):=⟨_,rfl⟩;have HA6:=hid hacc;rw[←hacc]at HX6 hal;have HL6:=hid hal;clear hacc hal;have y1:=HX6.out.2.2.g1;go_wp2_with fail;refine(jr e.kind _).mono ?_;rintro q u ⟨rfl,hw⟩;replace hw:=hw.symm;subst hw;clear y1;have HX:Hid (aq w6 w.heap.size v6 acc6∧Below w.heap.size w w6∧aS w6 w.heap.size e IA ic IA' ic' DA dc DA' dc' LA lc∧acc6.length≤100):=hid ⟨HX6.out.1,HX6.out.2.1,HX6.out.2.2,HL6.out⟩;clear HX6 HL6;have HF1:=(ay.mk:ay (aP e.kind));have HF2:=(ay.mk:ay (bW e.kind));have HF3:=(ay.mk:ay (bY e.kind));have HF4:=(ay.mk:ay (bt e.kind));have HF5:=(ay.mk:ay (aW e.kind));rcases eO e.kind with ⟨c1,c2,c3,c4,c5⟩|⟨c1,c2,c3,c4,c5⟩|⟨c1,c2,c3,c4,c5⟩|⟨c1,c2,c3,c4,c5⟩|⟨c1,c2,c3,c4,c5⟩|⟨c1,c2,c3,c4,c5⟩
    all_goals
      have C:=hid (And.intro c1 (And.intro c2 (And.intro c3 (And.intro c4 c5))));rw[c1]at HF1;rw[c2]at HF2;rw[c3]at HF3;rw[c4]at HF4;rw[c5]at HF5;clear c1 c2 c3 c4 c5
    all_goals
      go_wp2_with fail;refine(je e.kind _).mono ?_;rintro q u ⟨rfl,hw⟩;replace hw:=hw.symm;subst hw;rw[C.out.1]
    all_goals first
      |(have _g:ay true:=HF1
        have y2:=HX.out.2.2.1.g2;go_wp2_with fail;refine(er e.coll _ (by have:=HKH.out.cz;omega)).mono ?_;rintro q wn ⟨x,rfl,hx,hb⟩;have HY:Hid (aq wn w.heap.size _ acc6∧Below w.heap.size w wn∧aS wn w.heap.size e IA ic IA' ic' DA dc DA' dc' LA lc∧Rd wn wn.heap.size x (txt e.coll)):=hid ⟨HX.out.1.below hb,HX.out.2.1.trans (hb.mono HX.out.2.1.size),HX.out.2.2.1.below hb,hx.rd⟩;have HLP:=hid HX.out.2.2.2;clear hx hb HX y2;go_wp2_with(at_builtin;go_must (refine ak rfl _ _ rfl w.heap.size _ acc6 rfl HY.out.1 wn.heap.size x (txt e.coll) rfl HY.out.2.2.2 HY.out.2.1.size (by have:=HLP.out;have:=(HKH.out.coll);omega) ?_));intro vm wm hv hg;obtain⟨ac1,hac⟩: ∃a,a=acc6++txt e.coll:=⟨_,rfl⟩;have HX:Hid (aq wm w.heap.size vm ac1∧Below w.heap.size w wm∧aS wm w.heap.size e IA ic IA' ic' DA dc DA' dc' LA lc∧ac1.length≤2000):=hid ⟨by rw[hac];exact hv,ax HY.out.2.1 HY.out.1 HY.out.2.1.size hg,gx HY.out.2.2.1 (aA HY.out.1 hg),by rw[hac,List.length_append];have:=HLP.out;have:=(HKH.out.coll);omega⟩;have HC1:Hid (ac1=acc6++if aP e.kind=true then txt e.coll else []):=hid (by rw[hac,if_pos C.out.1])
        clear hv hg hac HY HLP)
      |(have _g:ay false:=HF1
        obtain⟨ac1,hac⟩: ∃a,a=acc6:=⟨_,rfl⟩;have HC1:Hid (ac1=acc6++if aP e.kind=true then txt e.coll else []):=hid (by rw[hac,C.out.1];simp);have HX:=hid (show _∧_∧_∧ac1.length≤2000 from⟨HX.out.1,HX.out.2.1,HX.out.2.2.1,by rw[hac];have:=HX.out.2.2.2;omega⟩);rw[←hac]at HX
        clear hac)
    all_goals
      go_wp2_with fail;refine(nd e.kind _).mono ?_;rintro q u ⟨rfl,hw⟩;replace hw:=hw.symm;subst hw;rw[C.out.2.1]
    all_goals first
      |(have _g:ay true:=HF2
        have y3:=HX.out.2.2.1.g3;go_wp2_with fail;refine(er e.to _ (by have:=HKH.out.tz;omega)).mono ?_;rintro q wn ⟨x,rfl,hx,hb⟩;have HY:Hid (aq wn w.heap.size _ ac1∧Below w.heap.size w wn∧aS wn w.heap.size e IA ic IA' ic' DA dc DA' dc' LA lc∧Rd wn wn.heap.size x (txt e.to)):=hid ⟨HX.out.1.below hb,HX.out.2.1.trans (hb.mono HX.out.2.1.size),HX.out.2.2.1.below hb,hx.rd⟩;have HLP:=hid HX.out.2.2.2;clear hx hb HX y3;go_wp2_with(at_builtin;go_must (refine ak rfl _ _ rfl w.heap.size _ ac1 rfl HY.out.1 wn.heap.size x (txt e.to) rfl HY.out.2.2.2 HY.out.2.1.size (by have:=HLP.out;have:=(HKH.out.to);omega) ?_));intro vm wm hv hg;obtain⟨ac2,hac⟩: ∃a,a=ac1++txt e.to:=⟨_,rfl⟩;have HX:Hid (aq wm w.heap.size vm ac2∧Below w.heap.size w wm∧aS wm w.heap.size e IA ic IA' ic' DA dc DA' dc' LA lc∧ac2.length≤4000):=hid ⟨by rw[hac];exact hv,ax HY.out.2.1 HY.out.1 HY.out.2.1.size hg,gx HY.out.2.2.1 (aA HY.out.1 hg),by rw[hac,List.length_append];have:=HLP.out;have:=(HKH.out.to);omega⟩;have HC2:Hid (ac2=ac1++if bW e.kind=true then txt e.to else []):=hid (by rw[hac,if_pos C.out.2.1])
        clear hv hg hac HY HLP)
      |(have _g:ay false:=HF2
        obtain⟨ac2,hac⟩: ∃a,a=ac1:=⟨_,rfl⟩;have HC2:Hid (ac2=ac1++if bW e.kind=true then txt e.to else []):=hid (by rw[hac,C.out.2.1];simp);have HX:=hid (show _∧_∧_∧ac2.length≤4000 from⟨HX.out.1,HX.out.2.1,HX.out.2.2.1,by rw[hac];have:=HX.out.2.2.2;omega⟩);rw[←hac]at HX
        clear hac)
    all_goals
      go_wp2_with fail;refine(nz e.kind _).mono ?_;rintro q u ⟨rfl,hw⟩;replace hw:=hw.symm;subst hw;rw[C.out.2.2.1]
    all_goals first
      |(have _g:ay true:=HF3
        have y4:=HX.out.2.2.1.g4;have y5:=HX.out.2.2.1.g5;have y6:=HX.out.2.2.1.g6;have y7:=HX.out.2.2.1.g7;have y8:=HX.out.2.2.1.g8;go_wp2_with fail;refine(lX S e.id _ _ _ _ (fun b hb=>Nat.lt_of_lt_of_le (HS.out b hb) HX.out.2.1.size) (HA.out.below HS.out HX.out.2.1).id HD.out.idd HD.out.idz (by have:=HX.out.2.2.2;omega) HX.out.1.rd).mono ?_;rintro q wm ⟨vm,rfl,hv,hb⟩;have HLP:=hid HX.out.2.2.2;obtain⟨ac3,hac⟩: ∃a,a=ac2++dz e.id:=⟨_,rfl⟩;have HX:Hid (aq wm w.heap.size vm ac3∧Below w.heap.size w wm∧aS wm w.heap.size e IA ic IA' ic' DA dc DA' dc' LA lc∧ac3.length≤9000):=hid ⟨by rw[hac];exact hv.base HX.out.2.1.size,HX.out.2.1.trans (hb.mono HX.out.2.1.size),HX.out.2.2.1.below hb,by rw[hac,List.length_append];have:=HLP.out;have:=(HKH.out.id);omega⟩;have HC3:Hid (ac3=ac2++if bY e.kind=true then dz e.id else []):=hid (by rw[hac,if_pos C.out.2.2.1])
        clear hv hb hac HLP y4 y5 y6 y7 y8)
      |(have _g:ay false:=HF3
        obtain⟨ac3,hac⟩: ∃a,a=ac2:=⟨_,rfl⟩;have HC3:Hid (ac3=ac2++if bY e.kind=true then dz e.id else []):=hid (by rw[hac,C.out.2.2.1];simp);have HX:=hid (show _∧_∧_∧ac3.length≤9000 from⟨HX.out.1,HX.out.2.1,HX.out.2.2.1,by rw[hac];have:=HX.out.2.2.2;omega⟩);rw[←hac]at HX
        clear hac)
    all_goals
      go_wp2_with fail;refine(kA e.kind _).mono ?_;rintro q u ⟨rfl,hw⟩;replace hw:=hw.symm;subst hw;rw[C.out.2.2.2.1]
    all_goals first
      |(have _g:ay true:=HF4
        have y9:=HX.out.2.2.1.g9;have y10:=HX.out.2.2.1.g10;have y11:=HX.out.2.2.1.g11;have y12:=HX.out.2.2.1.g12;have y13:=HX.out.2.2.1.g13;go_wp2_with fail;refine(lX S e.doc _ _ _ _ (fun b hb=>Nat.lt_of_lt_of_le (HS.out b hb) HX.out.2.1.size) (HA.out.below HS.out HX.out.2.1).doc HD.out.docd HD.out.docz (by have:=HX.out.2.2.2;omega) HX.out.1.rd).mono ?_;rintro q wm ⟨vm,rfl,hv,hb⟩;have HLP:=hid HX.out.2.2.2;obtain⟨ac4,hac⟩: ∃a,a=ac3++dz e.doc:=⟨_,rfl⟩;have HX:Hid (aq wm w.heap.size vm ac4∧Below w.heap.size w wm∧aS wm w.heap.size e IA ic IA' ic' DA dc DA' dc' LA lc∧ac4.length≤15000):=hid ⟨by rw[hac];exact hv.base HX.out.2.1.size,HX.out.2.1.trans (hb.mono HX.out.2.1.size),HX.out.2.2.1.below hb,by rw[hac,List.length_append];have:=HLP.out;have:=(HKH.out.doc);omega⟩;have HC4:Hid (ac4=ac3++if bt e.kind=true then dz e.doc else []):=hid (by rw[hac,if_pos C.out.2.2.2.1])
        clear hv hb hac HLP y9 y10 y11 y12 y13)
      |(have _g:ay false:=HF4
        obtain⟨ac4,hac⟩: ∃a,a=ac3:=⟨_,rfl⟩;have HC4:Hid (ac4=ac3++if bt e.kind=true then dz e.doc else []):=hid (by rw[hac,C.out.2.2.2.1];simp);have HX:=hid (show _∧_∧_∧ac4.length≤15000 from⟨HX.out.1,HX.out.2.1,HX.out.2.2.1,by rw[hac];have:=HX.out.2.2.2;omega⟩);rw[←hac]at HX
        clear hac)
    all_goals
      go_wp2_with fail;refine(jf e.kind _).mono ?_;rintro q u ⟨rfl,hw⟩;replace hw:=hw.symm;subst hw;rw[C.out.2.2.2.2]
    all_goals first
      |(have _g:ay true:=HF5
        have y14:=HX.out.2.2.1.g14;go_wp2_with fail;refine(se S LA lc e.dels _ _ _ (fun b hb=>Nat.lt_of_lt_of_le (HS.out b hb) HX.out.2.1.size) (HA.out.below HS.out HX.out.2.1).dels (by have:=HA.out.len;omega) HD.out.dels HX.out.1.rd (by have:=HX.out.2.2.2;omega)).mono ?_;rintro q wm ⟨vm,rfl,hv,hb⟩;have HLP:=hid HX.out.2.2.2;obtain⟨ac5,hac⟩: ∃a,a=ac4++ck e.dels:=⟨_,rfl⟩;have HX:Hid (aq wm w.heap.size vm ac5∧Below w.heap.size w wm∧aS wm w.heap.size e IA ic IA' ic' DA dc DA' dc' LA lc∧ac5.length≤135000000):=hid ⟨by rw[hac];exact hv.base HX.out.2.1.size,HX.out.2.1.trans (hb.mono HX.out.2.1.size),HX.out.2.2.1.below hb,by rw[hac,List.length_append];have:=HLP.out;have:=(HKH.out.dels C.out.2.2.2.2 |>.2);omega⟩;have HC5:Hid (ac5=ac4++if aW e.kind=true then ck e.dels else []):=hid (by rw[hac,if_pos C.out.2.2.2.2])
        clear hv hb hac HLP y14)
      |(have _g:ay false:=HF5
        obtain⟨ac5,hac⟩: ∃a,a=ac4:=⟨_,rfl⟩;have HC5:Hid (ac5=ac4++if aW e.kind=true then ck e.dels else []):=hid (by rw[hac,C.out.2.2.2.2];simp);have HX:=hid (show _∧_∧_∧ac5.length≤135000000 from⟨HX.out.1,HX.out.2.1,HX.out.2.2.1,by rw[hac];have:=HX.out.2.2.2;omega⟩);rw[←hac]at HX
        clear hac)
    all_goals
      go_wp2_with fail;go_ret;refine⟨_,rfl,?_,HX.out.2.1⟩;have hfin:dV e=ac5:=by rw[HCE.out,HC5.out,HC4.out,HC3.out,HC2.out,HC1.out,HA6.out];simp[List.append_assoc]
      rw[hfin];exact HX.out.1
section
variable {w0 W W':World} {g r:Nat} {e e':aU} {IA:Option Addr} {ic:Nat} {IA':Option Addr} {ic':Nat} {DA:Option Addr} {dc:Nat} {DA':Option Addr} {dc':Nat} {LA:Option Addr} {lc:Nat} {st st':Option (List UInt8)}
end
theorem tw (st:Option (List UInt8)):(av st).1≤255:=by
 rcases st with _|_|⟨b,r⟩
 ·show 0≤255;omega
 ·show 0≤255;omega
 ·show b.toNat≤255;have:=b.toNat_lt;omega
end Go.Proofs.YtgfidiocmiolpaaGreat
