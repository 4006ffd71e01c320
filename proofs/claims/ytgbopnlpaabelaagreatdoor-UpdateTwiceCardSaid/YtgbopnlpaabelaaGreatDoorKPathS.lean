/- Texts cut at points, by the program and by the document. -/
import Derived.Test.YtgbopnlpaabelaaGreatDoorKSpJ
import Derived.Test.YtgbopnlpaabelaaGreatDoorKTrA
import Derived.Test.YtgbopnlpaabelaaGreatDoorKValF
import Derived.Test.YtgbopnlpaabelaaGreatDoorKMath
import Derived.Test.YtgbopnlpaabelaaGreatDoorKSpD
import Derived.Test.YtgbopnlpaabelaaGreatDoorKRefM
import Derived.Test.YtgbopnlpaabelaaGreatDoorKRefO
import Derived.Test.YtgbopnlpaabelaaGreatDoorKTrI
import Derived.Outline
import Derived.StillTailTactics
import Derived.Lib.DecodeN
import Derived.Laws.AppendOwnNone
import Derived.Lib.AppendZerosOnto
import Derived.Lib.AppendZeros
import Derived.Lib.SliceRun
import Derived.Lib.OthersKept
import Derived.Laws.OwnMore
import Derived.Maps.AppendAt
import Derived.Deep.RegionLaw
set_option maxHeartbeats 64000000
set_option maxRecDepth 100000
set_option linter.unusedVariables false
set_option linter.unusedSimpArgs false
namespace Go.Proofs.YtgbopnlpaabelaaGreatDoor
open Go.RowKit
theorem Tryz.infoStrP :(Tryz.prog.info? 9).map (fun i=>(i.zero,i.size,i.bytes))=some (some (.string ByteArray.empty),1,16):=by kernel_rfl
def ij (w:World)(B:Nat)(v:Value)(ns:List ByteArray):Prop:=w.ownsRow B 9 1 v ns.length (ns.map Value.string)
theorem ij.nil (w:World)(B:Nat):ij w B (.slice none 0 0) []:=World.ownsRow_nil _ _ _ _
theorem ij.opens {w:World}{B:Nat}{v:Value}{ns:List ByteArray}(h:ij w B v ns)(hs: ∀s∈ns,s.size≤140737488351232):
  ∃A c,v= .slice A ns.length c∧ns.length≤c∧ai w (fun b=>B≤b∧b<w.heap.size) A ns:=by
 have hlt:=World.ownsRow.lt h;have hcl:=fun g hg=>World.ownsRow.cells (g:=g) h hg;rcases h.2 with ⟨rfl,h0⟩|⟨g,cap,cur,rfl,hB,hh,hc,-,-,-⟩
 ·obtain rfl:=List.eq_nil_of_length_eq_zero h0;exact⟨none,0,rfl,Nat.le_refl _,ai.nil⟩
 ·refine⟨some ⟨g,0,none⟩,cap,rfl,hc,fun hp=>⟨g,0,rfl,hlt g rfl,fun i hi=>⟨?_,hs _ (List.getElem_mem hi)⟩⟩⟩;have h1:=hcl g rfl i (.string ns[i]) (by simp[hi]);rw[cq]at h1;exact h1
def Ag (ns:List ByteArray)(w:World)(e:Ending)(w':World):Prop:= ∃v,e= .returned v∧ij w' w.heap.size v ns∧Below w.heap.size w w'
open Lib (hid)
theorem dR {w:World}{ops:Array Oper}{rest:List Oper}{o:Oper}{a:Act}{Q:Exit→Act→World→Prop}(hgd:o.guard=none)(s x:Operand)
  (ho:o.op= .call { callee:= .builtin .append,args:= #[s,x],argTypes:= #[23,23] }) (B:Nat) (v:Value) (ns:List ByteArray) (hs:a.eval s=v) (hown:ij w B v ns)
  (A:Option Addr) (c:Nat) (ms:List ByteArray) (S:Nat→Prop) (hx:a.eval x= .slice A ms.length c) (hA:A=none→c=0) (hst:ai w S A ms) (hB:B≤w.heap.size) (hl:ns.length+ms.length≤8796093021952)
  (K: ∀v' w',ij w' B v' (ns++ms)→w.grownBy w' v.ownBlock→wpList Tryz.prog ops Q rest (a.put o.dst v') w'):wpList Tryz.prog ops Q (o::rest) a w:=by
 obtain⟨i0,hi,hz0,hz1,hz2⟩:=info_parts Tryz.infoStrP
 cases A with
 |none=>
  obtain rfl:ms= []:=by
   match ms,hst with
   | [],_=>rfl
   |m::r,hst=>obtain⟨_,_,h,_⟩:=hst (by simp);cases h
  obtain rfl:=hA rfl;refine wpList_append_own_none hgd s x 23 ho B 9 i0 1 Tryz.underlying23 hi v ns.length (ns.map Value.string) hs hown hx ?_
  exact K v w (by rw[List.append_nil];exact hown) ⟨rfl,rfl,rfl,Nat.le_refl _,fun _ _ _=>rfl⟩
 |some ad=>
  refine wpList_append_own _ hgd s x 23 ho B 9 i0 (.string ByteArray.empty) 1 16 Tryz.underlying23 hi hz0 hz1 hz2 rfl (by decide) v ns.length (ns.map Value.string) hs hown ad ms.length c (ms.map Value.string) hx (by simp) ?_ ?_ (by unfold maxLen;omega) (by omega) hB ?_
  ·intro j u hj;have hjl:j<ms.length:=by have:=(List.getElem?_eq_some_iff.1 hj).1;simpa using this
   obtain⟨b,off,hAd,-,hc⟩:=hst (by omega);injection hAd with hAd
   subst hAd;rw[cq,(hc j hjl).1];simpa[List.getElem?_map,List.getElem?_eq_getElem hjl]using hj
  ·intro u hu;obtain⟨_,_,rfl⟩:=List.mem_map.1 hu;rfl
  ·intro v' w' h1 h2 _;exact K v' w' (by unfold ij;rw[List.length_append,List.map_append];exact h1) h2
def AC (w:World)(e:Ending)(w':World):Prop:= ∃v,e= .returned v∧ij w' w.heap.size v []∧Below w.heap.size w w'
theorem yn (n:Nat)(w:World)(hn:n≤100000):Calls Tryz.prog 179 #[.slice none 0 0,.int .i64 n] w (AC w):=by
 obtain⟨i0,hi,hz0,hz1,hz2⟩:=info_parts Tryz.infoStrP;by_cases h0:n=0
 ·subst h0;go_enter Tryz.func179,Tryz.ntmps179;go_wp2_with fail;go_ret;exact⟨_,rfl,ij.nil _ _,Below.refl _ _⟩
 ·have hrz: ∀ty,(Builtin.append_ #[23,3] ty #[.slice none 0 0,.int .i64 n]).run Tryz.prog w= .ok (.slice (some ⟨w.heap.size,0,none⟩) n (grownCap w n 0 9)) (w.drew.alloc (.cells (#[]++Builtin.zeroCells (Value.string ByteArray.empty).cells n++Builtin.zeroCells (Value.string ByteArray.empty).cells (grownCap w n 0 9 - n)) 9)):=fun ty=>by
   have h:=Lib.run_append_grow_zeros w 23 3 ty 9 i0 (.string ByteArray.empty) .i64 .i64 Tryz.underlying23 Tryz.underlying3 hi hz0 none 0 0 [] (run_firstCells_none w.drew i0.size 0 0 0) n (by omega) (by omega) (by omega) (by omega) (by rw[hz2];omega) (growslice_fits (by omega) (by rw[hz2];omega));simpa using h
  have hG:=grownCap_ge w n 0 9;have hG2:=grownCap_le_maxLen w n 0 9 (by unfold maxLen;omega);obtain⟨G,hGe⟩: ∃G,G=grownCap w n 0 9:=⟨_,rfl⟩;rw[←hGe]at hrz hG hG2;have HG:=hid hG2;unfold maxLen at hG2;have hn1:(1:Int)≤(n:Int):=by omega
  have HR:Hid (ij (w.drew.alloc (.cells (#[]++Builtin.zeroCells (Value.string ByteArray.empty).cells n++Builtin.zeroCells (Value.string ByteArray.empty).cells (G - n)) 9)) w.heap.size (.slice (some ⟨w.heap.size,0,none⟩) 0 G) []):=by
   refine World.ownsRow_made (size:=1) w.drew _ G (Nat.le_refl _) HG.out ?_;simp only[Array.size_append,size_zeroCells];simp[Value.cells];omega
  obtain⟨C,hC⟩: ∃C,C=(#[]++Builtin.zeroCells (Value.string ByteArray.empty).cells n++Builtin.zeroCells (Value.string ByteArray.empty).cells (G - n)):=⟨_,rfl⟩;rw[←hC]at hrz HR;clear hGe h0 hC;go_enter Tryz.func179,Tryz.ntmps179;go_wp2_with(at_builtin;refine Lib.wpList_append_run _ rfl _ _ _ _ rfl _ _ rfl rfl _ _ (hrz _) ?_);go_ret;exact⟨_,rfl,HR.out,(Below.refl _ _).drew.alloc (Nat.le_refl _) _⟩
theorem wb (w:World)(x y:Value)(t:TypeId):(w.alloc (.cells #[x,y] t)).cell? ⟨w.heap.size,0,none⟩=some x∧(w.alloc (.cells #[x,y] t)).cell? ⟨w.heap.size,1,none⟩=some y:=
 ⟨Go.Joins.cell_of_block (heap_alloc_new w _) 0,Go.Joins.cell_of_block (heap_alloc_new w _) 1⟩
theorem sT (p:Nat)(A B:Option Addr)(c d:Nat)(a b:List ByteArray)(w:World)(S T:Nat→Prop)(h:ai w S A a)(k:ai w T B b)(hS: ∀b,S b→b<w.heap.size)(hT: ∀b,T b→b<w.heap.size)(ha:a.length≤1000)(hb:b.length≤1000)
  (hA:A=none→c=0) (hB:B=none→d=0) (hp:p<w.heap.size) (h0:w.cell? ⟨p,0,none⟩=some (.slice A a.length c)) (h1:w.cell? ⟨p,1,none⟩=some (.slice B b.length d)):
  Calls Tryz.prog 171 #[.slice (some ⟨p,0,none⟩) 2 2] w (Ag (a++b) w):=by
 have HS:=hid h;have HT:=hid k;have HA:=hid hA;have HB:=hid hB;clear h k hA hB;go_enter Tryz.func171,Tryz.ntmps171;go_wp2_with fail
 go_loopw [3,11] (fun n i wr=> ∃k m:Nat,i= .int .i64 k∧n= .int .i64 m∧wr=w∧Hid (k=0∧m=0∨k=1∧m=a.length∨k=2∧m=a.length+b.length)) (fun _ i _=>2 - (intOf i).toNat)
 case atStart=>exact⟨0,0,rfl,rfl,rfl,.inl ⟨rfl,rfl⟩⟩
 case round=>
  obtain⟨k0,m,rfl,rfl,rfl,HK⟩:=hrel;rcases HK.out with ⟨rfl,rfl⟩|⟨rfl,rfl⟩|⟨rfl,rfl⟩
  ·clear HK;go_wp2_with fail
   go_roundw
   case rel=>exact⟨1,a.length,rfl,rfl,trivial,.inr (.inl ⟨rfl,rfl⟩)⟩
   case measure=>simp[intOf]
  ·clear HK;go_wp2_with fail
   go_roundw
   case rel=>exact⟨2,a.length+b.length,rfl,by go_num,trivial,.inr (.inr ⟨rfl,rfl⟩)⟩
   case measure=>simp[intOf]
  ·clear HK;go_wp2_with fail;refine(yn _ _ (by omega)).mono ?_;rintro e w1 ⟨v,rfl,hv,hb1⟩;have HV:=hid hv;have HB1:=hid hb1;clear hv hb1;go_wp2_with fail;obtain⟨wo,hwo⟩: ∃wo:World,wo=wr:=⟨_,rfl⟩;rw[←hwo]at hS hT HS HT HV HB1 hp h0 h1;have HWO:=hid hwo;clear hwo
   go_loopw [6,27] (fun v i wr=> ∃k:Nat,i= .int .i64 k∧Hid (Below wo.heap.size wo wr)∧Hid (k=0∧ij wr wo.heap.size v []∨k=1∧ij wr wo.heap.size v a∨k=2∧ij wr wo.heap.size v (a++b))) (fun _ i _=>2 - (intOf i).toNat)
   case atStart=>exact⟨0,rfl,HB1,.inl ⟨rfl,HV.out⟩⟩
   case round=>
    obtain⟨k1,rfl,HB2,HK2⟩:=hrel;have hp2:wr.cell? ⟨p,0,none⟩=some (.slice A a.length c):=(HB2.out.cell (p:=⟨p,0,none⟩) hp).trans h0;have hp3:wr.cell? ⟨p,1,none⟩=some (.slice B b.length d):=(HB2.out.cell (p:=⟨p,1,none⟩) hp).trans h1;have hsz:=HB2.out.size;rcases HK2.out with ⟨rfl,hv⟩|⟨rfl,hv⟩|⟨rfl,hv⟩
    ·have HS2:=HS.out.keep fun x hx=>HB2.out.block x (hS x hx);clear HK2;go_wp2_with(at_builtin;go_must (refine dR rfl _ _ rfl wo.heap.size _ [] rfl hv A c a S rfl HA.out HS2 hsz (by simp;omega) ?_));intro v2 w2 hv2 hg;have HV2:=hid hv2;have HB3:=hid (HB2.out.grown hg hsz (fun x hx=>(World.ownsRow.lt hv x hx).1));clear hv2 hg hv HS2;go_wp2_with fail
     go_roundw
     case rel=>exact⟨1,rfl,HB3,.inr (.inl ⟨rfl,HV2.out⟩)⟩
     case measure=>simp[intOf]
    ·have HT2:=HT.out.keep fun x hx=>HB2.out.block x (hT x hx);clear HK2;go_wp2_with(at_builtin;go_must (refine dR rfl _ _ rfl wo.heap.size _ a rfl hv B d b T rfl HB.out HT2 hsz (by omega) ?_));intro v2 w2 hv2 hg;have HV2:=hid hv2;have HB3:=hid (HB2.out.grown hg hsz (fun x hx=>(World.ownsRow.lt hv x hx).1));clear hv2 hg hv HT2;go_wp2_with fail
     go_roundw
     case rel=>exact⟨2,rfl,HB3,.inr (.inr ⟨rfl,HV2.out⟩)⟩
     case measure=>simp[intOf]
    ·have HV2:=hid hv;clear HK2 hv;go_wp2_with fail;go_ret;exact⟨_,rfl,by rw[←HWO.out];exact HV2.out,by rw[←HWO.out];exact HB2.out⟩
def zZ (ns:List ByteArray)(w:World)(e:Ending)(w':World):Prop:= ∃A c,e= .returned (.tuple #[.slice A ns.length c,.int .i64 0])∧ns.length≤c∧ai w' (fun b=>w.heap.size≤b∧b<w'.heap.size) A ns∧Below w.heap.size w w'
def xq (w:World)(e:Ending)(w':World):Prop:=e= .returned (.tuple #[.slice none 0 0,.int .i64 40])∧Below w.heap.size w w'
theorem vP {ns:List ByteArray}(h:cn ns=true): ∀s∈ns,s.size≤140737488351232:=fun s hs=>by
 have:=((kq s).1 (((qL ns).1 h).2.2 s hs)).2.1;omega
theorem rb (a:Addr)(n c:Nat)(w:World):(binOp .eql 23 (.slice (some a) n c) (.slice none 0 0)).run Tryz.prog w= .ok (.bool false) w:=by kernel_rfl
theorem sL :bQ []=0:=by unfold bQ;rfl
theorem un : ∀(ns:List ByteArray),(∀s∈ns,s.size≤140737488351232)→eR ns≤ns.length * 140737488351300
 | [],_=>by simp[eR]
 |a::r,h=>by
  have h1:=mH a (h a (List.mem_cons_self ..));have h2:=un r fun s hs=>h s (List.mem_cons_of_mem _ hs);have e:eR (a::r)=tsz a+eR r:=by unfold eR;simp
  rw[e];simp only[List.length_cons];omega
theorem Ah (k i:Int)(s:ByteArray)(n:Nat)(ns:List ByteArray)(hs:s.size≤140737488351232)(h: ∀s∈ns,s.size≤140737488351232):dm k i s n ns≤(1+ns.length) * 281474976710656:=by
 have h1:=mH s hs;have h2:=un ns h;have h3:=(bq (zig i)).1;have h4:=(bq n).1;unfold dm
 repeat' split
 all_goals omega
theorem qy (d:Nat): ∀(l:List VT) (n:Nat),(∀t∈l,bD (d+1) t≤60000→aE t≤bD (d+1) t * 281474976710656)→cG d n l≤60000→bQ l+n * 281474976710656≤cG d n l * 281474976710656
 | [],n,_,_=>by rw[jj,sL];omega
 |t::r,n,h,hn=>by
  unfold cG at hn ⊢;unfold bQ;by_cases hlt:n<65536
  ·rw[if_pos hlt]at hn ⊢;have h1:=kM d r (n+bD (d+1) t);have h2:=h t (List.mem_cons_self ..) (by omega);have h3:=qy d r (n+bD (d+1) t) (fun t ht=>h t (List.mem_cons_of_mem _ ht)) hn;omega
  ·rw[if_neg hlt]at hn;omega
theorem ug {w:World}{S:Nat→Prop}: ∀(k d:Nat) (t:VT) (v:Value),d+k=41→LV w S t v→bD d t≤60000→aE t≤bD d t * 281474976710656
 |0,d,t,v,hd,_,hn=>by rw[fM d t (by omega)]at hn;omega
 |k+1,d,t,v,hd,h,hn=>by
  obtain⟨A,c,A',c',-,-,-,hts,-,-,hst,hla⟩:=h.shape;rw[iP d t (by omega)]at hn ⊢
  have h1:=qy d t.items (1+t.names.length) (fun u hu hun=>by
   obtain⟨v,hv⟩:=oX hla hu
   exact ug k (d+1) u v (by omega) hv hun) hn
  have h2:=Ah t.kind t.num t.text t.items.length t.names hts (fun s hs=>by
   obtain⟨i,hi,rfl⟩:=List.getElem_of_mem hs;obtain⟨b,off,-,-,hc⟩:=hst (by omega)
   exact(hc i hi).2)
  have e:aE t=dm t.kind t.num t.text t.items.length t.names+bQ t.items:=by cases t;unfold aE;rfl
  omega
theorem fp {w:World}{S:Nat→Prop}{t:VT}{v:Value}(h:LV w S t v)(hl:cm t=false):aE t≤9223372036854775807:=by
 have h1:bD 0 t≤3000:=by unfold cm at hl;simpa using hl
 have:=ug 41 0 t v rfl h (by omega);omega
def xG (s:ba):Prop:=aE s.doc≤9223372036854775807∧ ∀o∈s.ops,aE o.val≤9223372036854775807
end Go.Proofs.YtgbopnlpaabelaaGreatDoor
/- Updates that came in. -/
namespace Go.Proofs.YtgbopnlpaabelaaGreatDoor
open Go.ChangeShapes Go.WideShapes Go.RowKit Go.Joins Go.Deep
theorem rG :Tryz.prog.cellsOf 51=8:=by kernel_rfl
theorem vh :Tryz.prog.cellsOf 26=1:=by kernel_rfl
theorem uN :Tryz.prog.cellsOf 28=7:=by kernel_rfl
theorem tw :Tryz.prog.cellsOf 4=1:=by kernel_rfl
theorem yl :Tryz.prog.bytesOf 51=136:=by kernel_rfl
theorem fl (b o j:Nat):(Addr.add ⟨b,o,none⟩ j:Addr)=⟨b,o+j,none⟩:=by cases j<;>simp[Addr.add]
theorem vL : ∃f0 f1 f2 f3:Field,Tryz.prog.underlying 51=some (.struct #[f0,f1,f2,f3])∧f0.type=3∧f1.type=23∧f2.type=25∧f3.type=23∧f0.offset=0∧f1.offset=1∧f2.offset=2∧f3.offset=7:=
 ⟨_,_,_,_,Tryz.underlying51,rfl,rfl,rfl,rfl,rfl,rfl,rfl,rfl⟩
theorem tb : ∃f0 f1 f2:Field,Tryz.prog.underlying 28=some (.struct #[f0,f1,f2])∧f0.type=4∧f1.type=25∧f2.type=26∧f0.offset=0∧f1.offset=1∧f2.offset=6:=
 ⟨_,_,_,Tryz.underlying28,rfl,rfl,rfl,rfl,rfl,rfl⟩
section
variable {H :Type} {enc:TypeId×Value→H} {W:World} {sp:Nat→Bool}
end
end Go.Proofs.YtgbopnlpaabelaaGreatDoor
/- An update that is not large is small enough for all walks. -/
namespace Go.Proofs.YtgbopnlpaabelaaGreatDoor
open Go.RowKit
theorem vZ {w:World}{S:Nat→Prop}{s:ba}{cs:Array Value}(h:cl w S s cs)(hl:cL s=false):mb s∧xG s:=by
 obtain⟨h1,h2,h3⟩:=pB hl;obtain⟨DA,dc,DA',dc',OA,oc,-,hv,ho,-,-⟩:=h
 have hd:cm s.doc=false:=by
  unfold cL at hl;simp only[Bool.or_eq_false_iff]at hl;exact hl.2
 refine⟨⟨by omega,fun o ho=>by have:=(h3 o ho).1;omega⟩,fp hv hd,fun o hmem=> ?_⟩;obtain⟨i,hi,rfl⟩:=List.getElem_of_mem hmem;obtain⟨b,off,-,-,hc⟩:=ho (by omega);obtain⟨cs',-,hop⟩:=hc i hi;obtain⟨PA,pc,a,b2,c,d,e,TA,tc,-,hlv,-⟩:=hop;refine fp hlv ?_;unfold cL at hl;simp only[Bool.or_eq_false_iff,List.any_eq_false]at hl;have h4:=hl.1.1 s.ops[i] (by rw[List.take_of_length_le (by omega)];exact List.getElem_mem hi);unfold nF at h4;simp at h4;simp[h4]
theorem Tryz.infoDlt :(Tryz.prog.info? 58).map (fun i=>(i.zero,i.size,i.bytes))=some (some (.agg #[.int .i64 0,.slice none 0 0,.int .i64 0,.int .i64 0,.string ⟨#[]⟩,.slice none 0 0,.slice none 0 0,.int .i64 0]),8,120):=by kernel_rfl
section
variable {w w':World} {S S':Nat→Prop}
end
open Lib (hid)
theorem rM (w:World):(binOp .eql 23 (.slice none 0 0) (.slice none 0 0)).run Tryz.prog w= .ok (.bool true) w:=by kernel_rfl
theorem vB {w:World}{B n k:Nat}{t:TypeId}{v:Value}{xs:List Value}(h:w.ownsRow B t k v n xs): ∃A c,v= .slice A n c∧(A=none→c=0)∧n≤c:=by
 rcases h.2 with ⟨e,h0⟩|⟨g,cap,cur,e,-,-,hc,-⟩
 ·exact⟨none,0,by rw[e,h0],fun _=>rfl,by omega⟩
 ·exact⟨_,_,e,fun h=>(by cases h),hc⟩
theorem tz (S:Nat→Prop)(A:Option Addr)(c:Nat)(p:List ByteArray)(w:World)(h:ai w S A p)(hS: ∀b,S b→b<w.heap.size)(hA:A=none→c=0)(hl:p.length≤8796093021952):
  Calls Tryz.prog 65 #[.slice A p.length c] w fun e w'=> ∃v,e= .returned v∧ij w' w.heap.size v p∧Below w.heap.size w w':=by
 cases A with
 |none=>
  obtain rfl:=hA rfl
  obtain rfl:p= []:=by
   match p,h with
   | [],_=>rfl
   |m::r,h=>obtain⟨_,_,h,_⟩:=h (by simp);cases h
  clear h hS hA hl;have he:=rM w;show Calls Tryz.prog 65 #[.slice none 0 0] w _;go_enter Tryz.func65,Tryz.ntmps65;go_wp2_with fail;go_ret
  exact⟨_,rfl,ij.nil _ _,Below.refl _ _⟩
 |some ad=>
  have ho0:ij (w.alloc (.cells #[] 9)) w.heap.size (.slice (some ⟨w.heap.size,0,none⟩) 0 0) []:=World.ownsRow_made w #[] 0 (Nat.le_refl _) (by decide) rfl;have HO:=hid ho0;have hb0:Below w.heap.size w (w.alloc (.cells #[] 9)):=ae _;have HB0:=hid hb0;have HP:=hid (h.keep (w':=w.alloc (.cells #[] 9)) fun b hb=>hb0.block b (hS b hb));obtain⟨n,hn⟩: ∃n,n=p.length:=⟨_,rfl⟩;have HN:=hid hn;rw[←hn]at hl ⊢;have he:=rb ad n c w;clear h hS hA ho0 hb0 hn;go_enter Tryz.func65,Tryz.ntmps65;go_wp2_with(at_builtin;refine dR rfl _ _ rfl w.heap.size (.slice (some ⟨w.heap.size,0,none⟩) 0 0) [] rfl HO.out (some ad) c p S (by rw[←HN.out];rfl) (fun h=>by cases h) HP.out (by simp) (by rw[←HN.out];simp;omega) ?_;intro v' w' hv' hg';have HV:=hid hv';have HG:=hid hg';clear hv' hg');go_ret;have hv:=HV.out;rw[List.nil_append]at hv;exact⟨_,rfl,hv,HB0.out.grown HG.out (by simp) (fun k hk=>by simp[Value.ownBlock]at hk;omega)⟩
theorem uE (S:Nat→Prop)(d:av)(cs:Array Value)(w:World)(hS: ∀b,S b→b<w.heap.size)(h:cT w S d cs)(hd:ac d.val≤4611686018427387903):
  Calls Tryz.prog 78 #[.agg cs] w fun e w'=>e= .returned (.bool (ck d))∧Below w.heap.size w w':=by
 obtain⟨PA,pc,VA,vc,VA',vc',rfl,hv,hp,hpc,hpn,hk,hn,hpl⟩:=h;obtain⟨w1,hw1⟩: ∃W,W=w.alloc (.cells #[.int .i64 d.kind,.slice PA d.path.length pc,.int .i64 d.val.kind,.int .i64 d.val.num,.string d.val.text,.slice VA d.val.items.length vc,.slice VA' d.val.names.length vc',.int .i64 d.num] 58):=⟨_,rfl⟩;have hbk:w1.heap[w.heap.size]? =some (.cells #[.int .i64 d.kind,.slice PA d.path.length pc,.int .i64 d.val.kind,.int .i64 d.val.num,.string d.val.text,.slice VA d.val.items.length vc,.slice VA' d.val.names.length vc',.int .i64 d.num] 58 (0,0)):=by rw[hw1];exact heap_alloc_new w _
 have hb1:Below w.heap.size w w1:=by rw[hw1];exact(Below.refl _ _).alloc (Nat.le_refl _) _
 have y0:=Go.Joins.cell_of_block hbk 0;have y1:=Go.Joins.cell_of_block hbk 1;have y2:=Go.Joins.cell_of_block hbk 2;have y3:=Go.Joins.cell_of_block hbk 3;have y4:=Go.Joins.cell_of_block hbk 4;have y5:=Go.Joins.cell_of_block hbk 5;have y6:=Go.Joins.cell_of_block hbk 6;have y7:=Go.Joins.cell_of_block hbk 7;have hS1: ∀b,S b→b<w1.heap.size:=fun b hb=>Nat.lt_of_lt_of_le (hS b hb) hb1.size;have hv1:=hv.keep fun b hb=>hb1.block b (hS b hb);have HMA:=hid (gM PA pc d.path w1 S (hp.keep fun b hb=>hb1.block b (hS b hb)) (by omega));have HCK:=hid (fe S d.val _ w1 hS1 hv1 hd);have HNO:=hid (ny S d.val _ w1 hS1 hv1);have HBK:=hid hbk;have HB1:=hid hb1;have HW1:=hid hw1;have HS:=hid hS;obtain⟨r,hr⟩: ∃r,r=ck d:=⟨_,rfl⟩;have HR:=hid hr;rw[←hr];clear hbk hb1 hS1 hv1 hv hp hpc hpn hk hn hpl hd hS hr;go_enter Tryz.func78,Tryz.ntmps78;go_wp2_with fail;rw[←hw1];clear hw1;refine HMA.out.mono ?_;rintro e w2 ⟨rfl,rfl⟩;clear HMA;cases hmp:cn d.path
 ·go_wp2_with fail;go_ret;exact⟨by rw[HR.out];unfold ck;rw[hmp];rfl,HB1.out⟩
 have HMP:=hid hmp;clear hmp;obtain⟨k,hk⟩: ∃k,k=d.kind:=⟨_,rfl⟩;rw[←hk]at y0;have HK:=hid hk.symm;clear hk;by_cases k1:k=1
 ·subst k1;go_wp2_with fail;refine HCK.out.mono ?_;rintro e w3 ⟨rfl,hb3⟩;have HB3:=hid (HB1.out.trans (hb3.mono HB1.out.size));have HBK3:=(hb3.block _ (Array.getElem?_eq_some_iff.1 HBK.out).1).trans HBK.out;have z7:=Go.Joins.cell_of_block HBK3 7;obtain⟨b1,d1⟩: ∃b,(aG d.val == 0)=b:=⟨_,rfl⟩;obtain⟨b2,d2⟩: ∃b,(d.num == 0)=b:=⟨_,rfl⟩
  have HE:Hid (ck d=(b1 && b2)):=hid (by
   rw[←d1,←d2];unfold ck;rw[HMP.out,HK.out];rw[Bool.eq_iff_iff]
   simp)
  clear hb3 HBK3 HCK;cases b1<;>cases b2
  all_goals
   go_wp2_with fail;go_ret;exact⟨by rw[HR.out,HE.out];rfl,HB3.out⟩
 have e1:=beq_false_of_ne k1;by_cases k2:k=2
 ·subst k2;go_wp2_with fail;refine HNO.out.mono ?_;rintro e w3 ⟨rfl,hb3⟩;have HB3:=hid (HB1.out.trans (hb3.mono HB1.out.size));have HBK3:=(hb3.block _ (Array.getElem?_eq_some_iff.1 HBK.out).1).trans HBK.out;have z7:=Go.Joins.cell_of_block HBK3 7;obtain⟨b1,d1⟩: ∃b,eO d.val=b:=⟨_,rfl⟩;obtain⟨b2,d2⟩: ∃b,(d.num == 0)=b:=⟨_,rfl⟩
  have HE:Hid (ck d=(b1 && b2)):=hid (by
   rw[←d1,←d2];unfold ck;rw[HMP.out,HK.out];rw[Bool.eq_iff_iff]
   simp)
  clear hb3 HBK3 HNO;cases b1<;>cases b2
  all_goals
   go_wp2_with fail;go_ret;exact⟨by rw[HR.out,HE.out];rfl,HB3.out⟩
 have e2:=beq_false_of_ne k2;by_cases k3:k=3
 ·subst k3;go_wp2_with fail;refine HNO.out.mono ?_;rintro e w3 ⟨rfl,hb3⟩;have HB3:=hid (HB1.out.trans (hb3.mono HB1.out.size));have HBK3:=(hb3.block _ (Array.getElem?_eq_some_iff.1 HBK.out).1).trans HBK.out;have z7:=Go.Joins.cell_of_block HBK3 7;obtain⟨b1,d1⟩: ∃b,eO d.val=b:=⟨_,rfl⟩;obtain⟨b2,d2⟩: ∃b,decide (d.num≥0)=b:=⟨_,rfl⟩;obtain⟨b3,d3⟩: ∃b,decide (d.num≤999)=b:=⟨_,rfl⟩
  have HE:Hid (ck d=(b1 && (b2 && b3))):=hid (by
   rw[←d1,←d2,←d3];unfold ck;rw[HMP.out,HK.out];rw[Bool.eq_iff_iff]
   simp)
  clear hb3 HBK3 HNO;cases b1<;>cases b2<;>cases b3
  all_goals
   go_wp2_with fail;go_ret;exact⟨by rw[HR.out,HE.out];rfl,HB3.out⟩
 have e3:=beq_false_of_ne k3
 have HN:Hid (ck d=false):=hid (by
  unfold ck;rw[HK.out]
  simp[k1,k2,k3])
 clear k1 k2 k3;go_wp2_with fail;go_ret;exact⟨by rw[HR.out,HN.out];rfl,HB1.out⟩
theorem ti {α:Type}{p:α→Bool}{l:List α}(h: ∀j (h:j<l.length),p l[j]=true):l.all p=true:=by
 rw[List.all_eq_true];intro x hx;obtain⟨j,hj,rfl⟩:=List.mem_iff_getElem.1 hx;exact h j hj
theorem vJ {α:Type}{p:α→Bool}{l:List α}{j:Nat}(hj:j<l.length)(h:p l[j]=false):l.all p=false:=by
 rw[List.all_eq_false];exact⟨l[j],List.getElem_mem hj,by rw[h];simp⟩
theorem pA (S:Nat→Prop)(d:av)(cs:Array Value)(w:World)(hS: ∀b,S b→b<w.heap.size)(h:cT w S d cs)(hd:ac d.val≤4611686018427387903):
  Calls Tryz.prog 77 #[.agg cs] w fun e w'=>e= .returned (.bool (!ck d))∧Below w.heap.size w w':=by
 obtain⟨PA,pc,VA,vc,VA',vc',rfl,hv,hp,hpc,hpn,hk,hn,hpl⟩:=id h;obtain⟨w1,hw1⟩: ∃W,W=w.alloc (.cells #[.int .i64 d.kind,.slice PA d.path.length pc,.int .i64 d.val.kind,.int .i64 d.val.num,.string d.val.text,.slice VA d.val.items.length vc,.slice VA' d.val.names.length vc',.int .i64 d.num] 58):=⟨_,rfl⟩;have hbk:w1.heap[w.heap.size]? =some (.cells #[.int .i64 d.kind,.slice PA d.path.length pc,.int .i64 d.val.kind,.int .i64 d.val.num,.string d.val.text,.slice VA d.val.items.length vc,.slice VA' d.val.names.length vc',.int .i64 d.num] 58 (0,0)):=by rw[hw1];exact heap_alloc_new w _
 have hb1:Below w.heap.size w w1:=by rw[hw1];exact(Below.refl _ _).alloc (Nat.le_refl _) _
 have y0:=Go.Joins.cell_of_block hbk 0;have y1:=Go.Joins.cell_of_block hbk 1;have y2:=Go.Joins.cell_of_block hbk 2;have y3:=Go.Joins.cell_of_block hbk 3;have y4:=Go.Joins.cell_of_block hbk 4;have y5:=Go.Joins.cell_of_block hbk 5;have y6:=Go.Joins.cell_of_block hbk 6;have y7:=Go.Joins.cell_of_block hbk 7;have HM:=hid (uE S d _ w1 (fun b hb=>Nat.lt_of_lt_of_le (hS b hb) hb1.size) (h.below hS hb1) hd);have HB1:=hid hb1;clear hbk hb1 h hv hp hpc hpn hk hn hpl hS hd;go_enter Tryz.func77,Tryz.ntmps77;go_wp2_with fail;rw[←hw1];refine HM.out.mono ?_;rintro e w2 ⟨rfl,hb2⟩;have HB2:=hid (HB1.out.trans (hb2.mono HB1.out.size));clear hb2;clear HM;go_wp2_with fail;go_ret;exact⟨rfl,HB2.out⟩
theorem wK (S:Nat→Prop)(A:Option Addr)(c:Nat)(l:List av)(w:World)(hS: ∀b,S b→b<w.heap.size)(h:de w S A l)(hn:l.length≤140737488351232)(hd:gy l):
  Calls Tryz.prog 123 #[.slice A l.length c,.func (.func 77) #[] #[]] w fun e w'=>(∃i:Int,e= .returned (.int .i64 i)∧decide (0≤i)=(!(l.all ck)))∧Below w.heap.size w w':=by
 have H:=hid h;have HS:=hid hS;have HD:=hid hd;have HN:=hid hn;clear h hS hd;go_enter Tryz.func123,Tryz.ntmps123;go_wp2_with fail
 go_loopw [8] (fun i wr=> ∃k:Nat,i= .int .i64 k∧k≤l.length∧Hid (Below w.heap.size w wr)∧Hid (∀j (h:j<l.length),j<k→ck l[j]=true)) (fun i _=>l.length - (intOf i).toNat)
 case atStart=>exact⟨0,rfl,by omega,hid (Below.refl _ _),hid fun j _ h=>absurd h (by omega)⟩
 case round=>
  obtain⟨k,rfl,hk,HB,HJ⟩:=hrel;by_cases hlt:k<l.length
  ·have hS2: ∀b,S b→b<wr.heap.size:=fun b hb=>Nat.lt_of_lt_of_le (HS.out b hb) HB.out.size;obtain⟨bp,off,PA,pc,VA,vc,VA',vc',rfl,hpS,ho,x0,x1,x2,x3,x4,x5,x6,x7⟩:=(H.out.below HS.out HB.out).cells k hlt;have HC:=hid (pA S l[k] _ wr hS2 ho (HD.out _ (List.getElem_mem hlt)));clear ho hS2 hpS;go_wp2_with fail;refine HC.out.mono ?_;rintro e u ⟨rfl,hb⟩;have HB2:=hid (HB.out.trans (hb.mono HB.out.size));clear hb HC x0 x1 x2 x3 x4 x5 x6 x7;cases hm:ck l[k]
   ·have HM:=hid hm;clear hm;go_wp2_with fail;go_ret;exact⟨⟨k,rfl,by rw[vJ hlt HM.out];simp⟩,HB2.out⟩
   ·have HM:=hid hm;clear hm;go_wp2_with fail
    go_roundw
    case rel=>exact⟨k+1,by go_num,by omega,HB2,hid fun j h hjk=>by
     by_cases e:j=k
     ·subst e;exact HM.out
     ·exact HJ.out j h (by omega)⟩
    case measure=>simp[intOf];omega
  ·go_wp2_with fail;go_ret;exact⟨⟨-1,rfl,by rw[ti fun j h=>HJ.out j h (by omega)];rfl⟩,HB.out⟩
theorem ut (S:Nat→Prop)(A:Option Addr)(c:Nat)(l:List av)(w:World)(hS: ∀b,S b→b<w.heap.size)(h:de w S A l)(hn:l.length≤140737488351232)(hd:gy l):
  Calls Tryz.prog 76 #[.slice A l.length c,.func (.func 77) #[] #[]] w fun e w'=>e= .returned (.bool (!(l.all ck)))∧Below w.heap.size w w':=by
 have HC:=hid (wK S A c l w hS h hn hd);clear h hS hd;go_enter Tryz.func76,Tryz.ntmps76;go_wp2_with fail;refine HC.out.mono ?_;rintro e u ⟨⟨i,rfl,hi⟩,hb⟩;have HI:=hid hi;have HB:=hid hb;clear hi hb HC;go_wp2_with fail;go_ret;exact⟨aN HI.out,HB.out⟩
theorem qW (S:Nat→Prop)(A:Option Addr)(c:Nat)(l:List av)(w:World)(hS: ∀b,S b→b<w.heap.size)(h:de w S A l)(hn:l.length≤140737488351232)(hd:gy l):
  Calls Tryz.prog 42 #[.slice A l.length c] w fun e w'=>e= .returned (.int .i64 (cM l))∧Below w.heap.size w w':=by
 have HC:=hid (ut S A c l w hS h hn hd);clear h hS hd;obtain⟨r,hr⟩: ∃r,r=cM l:=⟨_,rfl⟩;have HR:=hid hr;rw[←hr];clear hr;go_enter Tryz.func42,Tryz.ntmps42;by_cases h64:64<l.length
 ·have d1:decide ((l.length:Int)>64)=true:=decide_eq_true (by omega);go_wp2_with fail;go_ret;exact⟨by rw[HR.out];unfold cM;rw[if_pos h64];rfl,Below.refl _ _⟩
 ·have d1:decide ((l.length:Int)>64)=false:=decide_eq_false (by omega);have H64:=hid h64;clear h64;go_wp2_with fail;refine HC.out.mono ?_;rintro e u ⟨rfl,hb⟩;have HB:=hid hb;clear hb HC;cases ha:l.all ck
  ·have HA:=hid ha;clear ha;go_wp2_with fail;go_ret;exact⟨by rw[HR.out];unfold cM;rw[if_neg H64.out,HA.out];rfl,HB.out⟩
  ·have HA:=hid ha;clear ha;go_wp2_with fail;go_ret;exact⟨by rw[HR.out];unfold cM;rw[if_neg H64.out,HA.out];rfl,HB.out⟩
end Go.Proofs.YtgbopnlpaabelaaGreatDoor
/- A list's code is read back: plain. -/
namespace Go.Proofs.YtgbopnlpaabelaaGreatDoor
theorem ig {l:List av}(h:cM l=0):l.length≤64∧ ∀d∈l,ck d=true:=by
 unfold cM at h;by_cases h1:64<l.length
 ·rw[if_pos h1]at h;omega
 ·rw[if_neg h1]at h;by_cases h2:l.all ck=true
  ·exact⟨by omega,fun d hd=>List.all_eq_true.1 h2 d hd⟩
  ·rw[if_neg h2]at h;omega
def jS (l:List av):Prop:= ∀d∈l,aE d.val≤9223372036854775807
end Go.Proofs.YtgbopnlpaabelaaGreatDoor
/- A value changed within: what is done at an item is done to the whole. -/
namespace Go.Proofs.YtgbopnlpaabelaaGreatDoor
open Go.RowKit
def bO :VT→Nat→VT→VT
 | .mk k i s l ns,j,u=> .mk k i s (l.set j u) ns
def OAt (w:World)(F:Nat→Prop)(t:VT)(g o:Nat):Prop:= ∃C ty A c A' c',w.heap[g]? =some (.cells C ty (0,0))∧C[o]? =some (.int .i64 t.kind)∧C[o+1]? =some (.int .i64 t.num)∧C[o+2]? =some (.string t.text)∧C[o+3]? =some (.slice A t.items.length c)∧C[o+4]? =some (.slice A' t.names.length c')∧
 OV w F t (.agg #[.int .i64 t.kind,.int .i64 t.num,.string t.text,.slice A t.items.length c,.slice A' t.names.length c'])∧ ¬F g∧ ∀b,F b→b<w.heap.size
def Mut (F:Nat→Prop)(g o:Nat)(w w':World):Prop:=w.heap.size≤w'.heap.size∧(∀b,b<w.heap.size→ ¬F b→b≠g→w'.heap[b]? =w.heap[b]?)∧
 (∀C ty fz,w.heap[g]? =some (.cells C ty fz)→ ∃C',w'.heap[g]? =some (.cells C' ty fz)∧C'.size=C.size∧ ∀i,(i<o∨o+5≤i)→C'[i]? =C[i]?)∧w'.os=w.os∧w'.tape=w.tape∧w'.output=w.output
def Own (F:Nat→Prop)(w:World)(F':Nat→Prop):Prop:= ∀b,F' b→F b∨w.heap.size≤b
theorem OAt.item {w:World}{F:Nat→Prop}{t:VT}{g o:Nat}(h:OAt w F t g o){j:Nat}(hj:j<t.items.length):
  ∃G Fj,(∃c,w.cell? ⟨g,o+3,none⟩=some (.slice (some ⟨G,0,none⟩) t.items.length c))∧F G∧OAt w Fj t.items[j] G (j * 5)∧(∀b,Fj b→F b)∧ ∀w' u F',Mut Fj G (j * 5) w w'→OAt w' F' u G (j * 5)→Own Fj w F'→ ∃F'',Own F w F''∧OAt w' F'' (bO t j u) g o∧Mut F g o w w':=by
 obtain⟨C,ty,A,c,A',c',hg,g0,g1,g2,g3,g4,hv,hFg,hlt⟩:=h
 cases t with
 |mk k i s l ns=>
 simp only[VT.kind,VT.num,VT.text,VT.items,VT.names]at *;have hgs:=(Array.getElem?_eq_some_iff.1 hg).1;have hjl:j<l.length:=hj;unfold OV at hv;obtain⟨A1,c1,A1',c1',xs,hag,h1,h2,h3,h4,h5,h6,h7,h8,h9,h10,h11,h12⟩:=hv;injection hag with hag;injection hag with hag
 injection hag with y0 hag;injection hag with y1 hag;injection hag with y2 hag;injection hag with y3 hag;injection hag with y4 hag
 injection y3 with e1 _ e3
 injection y4 with e4 _ e6
 subst e1 e3 e4 e6;have h8':=h8;obtain⟨hxl,h8⟩:=h8;rcases h8 with ⟨-,h⟩|⟨G,cap,cur,hv,-,hh,hn,hm,hsz,htk⟩
 ·omega
 injection hv with e1 e2 e3
 subst e1 e3;have hFG:=h10 _ rfl;have hGs:=hlt _ hFG;obtain⟨Fs,k1,k2,k3⟩:=h12.at;have hcur: ∀m,m<l.length * 5→xs[m]? =cur[m]? :=fun m hm'=>by rw[←htk,List.getElem?_take_of_lt hm',Array.getElem?_toList]
 obtain⟨d0,d1,d2,d3,d4,e0,e1,e2,e3,e4,hi⟩:=k3 j hj;obtain⟨B,b,B',b',ys,hag2,-⟩:=hi.shape;injection hag2 with hag2;injection hag2 with hag2
 injection hag2 with z0 hag2;injection hag2 with z1 hag2;injection hag2 with z2 hag2;injection hag2 with z3 hag2;injection hag2 with z4 hag2
 subst z0 z1 z2 z3 z4;rw[hcur _ (by omega)]at e0 e1 e2 e3 e4;refine⟨G,Fs j,⟨c,(Go.Joins.cell_of_block hg (o+3)).trans g3⟩,hFG,⟨cur,25,B,b,B',b',hh,e0,e1,e2,e3,e4,hi,fun hb=>(k2 _ _ hb).2.1 _ rfl rfl,fun x hx=>hlt x (k2 _ _ hx).1⟩,fun x hx=>(k2 _ _ hx).1,?_⟩;rintro w' u F' ⟨m1,m2,m3,m4,m5,m6⟩ hu hown;obtain⟨cur',hh',hsz',hout⟩:=m3 cur _ _ hh;obtain⟨C2,ty2,B2,b2,B2',b2',hg2,u0,u1,u2,u3,u4,huv,huF,hult⟩:=hu
 have hC2:C2=cur':=by
  have:=hg2.symm.trans hh';injection this with this
  injection this
 subst hC2;have hkeep: ∀x,x<w.heap.size→ ¬Fs j x→x≠G→w'.heap[x]? =w.heap[x]? :=m2;have hnG:g≠G:=fun e=>hFg (e▸hFG);have hnj: ¬Fs j g:=fun e=>hFg (k2 _ _ e).1;have hgk:=hkeep g hgs hnj hnG;have hl5:l.length * 5≤C2.size:=by rw[hsz',hsz];exact Nat.mul_le_mul_right 5 hn
 have hxs': ∀m,m<l.length * 5→(C2.toList.take (l.length * 5))[m]? =C2[m]? :=fun m hm'=>by rw[List.getElem?_take_of_lt hm',Array.getElem?_toList]
 have hxl':(C2.toList.take (l.length * 5)).length=l.length * 5:=by
  have:C2.toList.length=C2.size:=Array.length_toList;rw[List.length_take];omega
 have hlen:(l.set j u).length=l.length:=List.length_set ..
 have hrow:w'.ownsRow 0 25 5 (.slice (some ⟨G,0,none⟩) l.length c) l.length (C2.toList.take (l.length * 5)):=
  ⟨hxl',.inr ⟨G,c,C2,rfl,Nat.zero_le _,hh',hn,hm,by rw[hsz',hsz],rfl⟩⟩
 have hnames:w'.ownsRow 0 9 1 (.slice A' ns.length c') ns.length (ns.map Value.string):=bY h7 fun a ha=>hkeep _ (hlt _ (h9 a ha)) (fun e=>(k2 _ _ e).2.2 a ha rfl) (fun e=>h11 _ a rfl ha e.symm)
 have hset:OV w' (fun x=>F x∨(w.heap.size≤x∧x<w'.heap.size)) (.mk k i s (l.set j u) ns) (.agg #[.int .i64 k,.int .i64 i,.string s,.slice (some ⟨G,0,none⟩) (l.set j u).length c,.slice A' ns.length c']):=by
  refine OV.mk h1 h2 h3 (by rw[hlen];exact h4) h5 h6 hnames (by rw[hlen];exact hrow) (fun a ha=> .inl (h9 a ha)) (fun a ha=> .inl (h10 a ha)) h11 ?_;refine OVs.of (fun i x=>(i=j∧F' x)∨(i≠j∧Fs i x)) (by rw[hlen];exact hxl') ?_ ?_ ?_
  ·rintro i i' x hne (⟨p1,p2⟩|⟨p1,p2⟩) (⟨p3,p4⟩|⟨p3,p4⟩)
   ·omega
   ·rcases hown x p2 with q|q
    ·exact k1 _ _ x (fun e=>p3 e.symm) q p4
    ·have:=hlt x (k2 _ _ p4).1;omega
   ·rcases hown x p4 with q|q
    ·exact k1 _ _ x (fun e=>p1 e.symm) q p2
    ·have:=hlt x (k2 _ _ p2).1;omega
   ·exact k1 _ _ x hne p2 p4
  ·rintro i x (⟨p1,p2⟩|⟨p1,p2⟩)
   ·rcases hown x p2 with q|q
    ·exact⟨.inl (k2 _ _ q).1,(k2 _ _ q).2⟩
    ·refine⟨.inr ⟨q,hult x p2⟩,fun a ha=> ?_,fun a ha=> ?_⟩
     ·have:=hlt _ (h10 a ha);omega
     ·have:=hlt _ (h9 a ha);omega
   ·exact⟨.inl (k2 _ _ p2).1,(k2 _ _ p2).2⟩
  ·intro i hi';rw[hlen]at hi';by_cases e:i=j
   ·subst e;rw[hxs' _ (by omega),hxs' _ (by omega),hxs' _ (by omega),hxs' _ (by omega),hxs' _ (by omega)];refine⟨_,_,_,_,_,u0,u1,u2,u3,u4,?_⟩;rw[List.getElem_set_self];exact huv.imp fun x hx=> .inl ⟨rfl,hx⟩
   ·obtain⟨f0,f1,f2,f3,f4,v0,v1,v2,v3,v4,hvi⟩:=k3 i hi';rw[hcur _ (by omega)]at v0 v1 v2 v3 v4;rw[hxs' _ (by omega),hxs' _ (by omega),hxs' _ (by omega),hxs' _ (by omega),hxs' _ (by omega),hout _ (by omega),hout _ (by omega),hout _ (by omega),hout _ (by omega),hout _ (by omega)];refine⟨f0,f1,f2,f3,f4,v0,v1,v2,v3,v4,?_⟩;rw[List.getElem_set_ne (fun e'=>e e'.symm)];refine(hvi.keep fun x hx=>hkeep x (hlt x (k2 _ _ hx).1) (fun e'=>k1 _ _ x e hx e') (fun e'=>(k2 _ _ hx).2.1 _ rfl e'.symm)).imp fun x hx=> .inr ⟨e,hx⟩
 refine⟨_,fun x hx=>hx.imp id And.left,⟨C,ty,some ⟨G,0,none⟩,c,A',c',hgk.trans hg,g0,g1,g2,?_,g4,hset,?_,?_⟩,m1,fun x hx hF hne=>hkeep x hx (fun e=>hF (k2 _ _ e).1) (fun e=>hF (e▸hFG)),?_,m4,m5,m6⟩
 ·show C[o+3]? =some (.slice (some ⟨G,0,none⟩) (l.set j u).length c);rw[hlen];exact g3
 ·rintro(e|e)
  ·exact hFg e
  ·omega
 ·rintro x (e|e)
  ·exact Nat.lt_of_lt_of_le (hlt x e) m1
  ·exact e.2
 ·intro C3 ty3 fz3 hC3;exact⟨C3,hgk.trans hC3,rfl,fun _ _=>rfl⟩
theorem si {w:World}{G o:Nat}{C:Array Value}{ty:TypeId}{fz:Nat×Nat}{c0 c1 c2 c3 c4:Value}(h:w.heap[G]? =some (.cells C ty fz))(ho:o+4<C.size):
  ∃C',(cI w G o c0 c1 c2 c3 c4).heap[G]? =some (.cells C' ty fz)∧C'.size=C.size∧C'[o]? =some c0∧C'[o+1]? =some c1∧C'[o+2]? =some c2∧C'[o+3]? =some c3∧C'[o+4]? =some c4∧ ∀i,(i<o∨o+5≤i)→C'[i]? =C[i]? :=by
 have h1:=Go.Joins.block_setCell (i:=o) h c0;have h2:=Go.Joins.block_setCell (i:=o+1) h1 c1;have h3:=Go.Joins.block_setCell (i:=o+2) h2 c2;have h4:=Go.Joins.block_setCell (i:=o+3) h3 c3;have h5:=Go.Joins.block_setCell (i:=o+4) h4 c4;refine⟨_,h5,by simp,?_,?_,?_,?_,?_,fun i hi=> ?_⟩;all_goals simp only[Array.getElem?_setIfInBounds,Array.size_setIfInBounds]
 ·rw[if_neg (by omega),if_neg (by omega),if_neg (by omega),if_neg (by omega),if_pos trivial,if_pos (by omega)]
 ·rw[if_neg (by omega),if_neg (by omega),if_neg (by omega),if_pos trivial,if_pos (by omega)]
 ·rw[if_neg (by omega),if_neg (by omega),if_pos trivial,if_pos (by omega)]
 ·rw[if_neg (by omega),if_pos trivial,if_pos (by omega)]
 ·rw[if_pos trivial,if_pos (by omega)]
 ·rw[if_neg (by omega),if_neg (by omega),if_neg (by omega),if_neg (by omega),if_neg (by omega)]
theorem OAt.store {w:World}{F:Nat→Prop}{t:VT}{g o:Nat}(h:OAt w F t g o){j:Nat}(hj:j<t.items.length):
  ∃G,(∃c,w.cell? ⟨g,o+3,none⟩=some (.slice (some ⟨G,0,none⟩) t.items.length c))∧F G∧(∃C ty,w.heap[G]? =some (.cells C ty (0,0))∧j * 5+4<C.size)∧
   ∀w5 F' u A c A' c',Below w.heap.size w w5→OV w5 F' u (.agg #[.int .i64 u.kind,.int .i64 u.num,.string u.text,.slice A u.items.length c,.slice A' u.names.length c'])→(∀b,F' b→w.heap.size≤b∧b<w5.heap.size)→
    ∃F'',Own F w F''∧OAt (cI w5 G (j * 5) (.int .i64 u.kind) (.int .i64 u.num) (.string u.text) (.slice A u.items.length c) (.slice A' u.names.length c')) F'' (bO t j u) g o∧
     Mut F g o w (cI w5 G (j * 5) (.int .i64 u.kind) (.int .i64 u.num) (.string u.text) (.slice A u.items.length c) (.slice A' u.names.length c')):=by
 obtain⟨G,Fj,hc,hFG,hoj,hsub,hup⟩:=h.item hj;obtain⟨C,ty,B,b,B',b',hg,g0,g1,g2,g3,g4,hv,hFg,hlt⟩:=hoj;have hGs:=(Array.getElem?_eq_some_iff.1 hg).1;have h4:j * 5+4<C.size:=(Array.getElem?_eq_some_iff.1 g4).1;refine⟨G,hc,hFG,⟨C,ty,hg,h4⟩,fun w5 F' u A c A' c' hb hu hF=> ?_⟩;have hr5:=ct w5 G (j * 5) (.int .i64 u.kind) (.int .i64 u.num) (.string u.text) (.slice A u.items.length c) (.slice A' u.names.length c');have hk:=bz w5 G (j * 5) (.int .i64 u.kind) (.int .i64 u.num) (.string u.text) (.slice A u.items.length c) (.slice A' u.names.length c');have hz:=bK w5 G (j * 5) (.int .i64 u.kind) (.int .i64 u.num) (.string u.text) (.slice A u.items.length c) (.slice A' u.names.length c');obtain⟨C',hC',hsz,k0,k1,k2,k3,k4,kout⟩:=si (c0:= .int .i64 u.kind) (c1:= .int .i64 u.num) (c2:= .string u.text) (c3:= .slice A u.items.length c) (c4:= .slice A' u.names.length c') ((hb.block G hGs).trans hg) h4;refine hup _ u F' ⟨by rw[hz];exact hb.size,fun x hx _ hne=>(hk x hne).trans (hb.block x hx),fun C2 ty2 fz2 h2=> ?_,hr5.1.trans hb.os,hr5.2.1.trans hb.tape,hr5.2.2.trans hb.output⟩ ⟨C',ty,A,c,A',c',hC',k0,k1,k2,k3,k4,hu.keep fun x hx=>hk x (by have:=(hF x hx).1;omega),fun hx=>by have:=(hF G hx).1;omega,fun x hx=>by rw[hz];exact(hF x hx).2⟩ fun x hx=> .inr (hF x hx).1;have:=hg.symm.trans h2;injection this with this
 injection this with e1 e2 e3
 subst e1 e2 e3;exact⟨C',hC',hsz,kout⟩
theorem gH {P:Program}(w:World)(t e ty:TypeId)(z:Value)(ht:P.underlying t=some (.slice e))(hv: ∀w,(zeroValue e).run P w= .ok z w)(b o n c:Nat)(hn:0<n)(h1: ∀v∈(Builtin.zeroCells z.cells n).toList,v.oneCell'=true)
  (hc: ∀j,j<(Builtin.zeroCells z.cells n).toList.length→(w.cell? ⟨b,o+j,none⟩).isSome=true) (hf: ∀j,j<(Builtin.zeroCells z.cells n).toList.length→w.frozen? ⟨b,o+j,none⟩=false):
  (Builtin.clear_ #[t] ty #[.slice (some ⟨b,o,none⟩) n c]).run P w= .ok (.tuple #[]) (w.setCells b o (Builtin.zeroCells z.cells n).toList):=by
 have hst:=run_storeCells_cells (P:=P) b o (Builtin.zeroCells z.cells n).toList 0 w (by simpa only[Nat.add_zero]using hc) (by simpa only[Nat.add_zero]using hf) h1;simp only[Nat.add_zero]at hst;obtain⟨m,rfl⟩: ∃m,n=m+1:=⟨n - 1,by omega⟩;simp[Builtin.clear_,run_underlying ht,hv,hst]
def eE (n:Nat):List Value:=(Builtin.zeroCells #[.int .i64 0,.int .i64 0,.string ⟨#[]⟩,.slice none 0 0,.slice none 0 0] n).toList
theorem fV (n:Nat):(eE n).length=n * 5:=by simp[eE,Builtin.zeroCells]
theorem sH (n:Nat): ∀v∈eE n,v.oneCell'=true:=by
 intro v hv;simp only[eE,Builtin.zeroCells,Array.toList_map,List.mem_map]at hv;obtain⟨i,-,rfl⟩:=hv;have h:i % 5<5:=Nat.mod_lt _ (by omega);show Value.oneCell' (#[Value.int .i64 0,.int .i64 0,.string ⟨#[]⟩,.slice none 0 0,.slice none 0 0][i % 5]!)=true;generalize i % 5=m at h
 match m,h with
 |0,_=>rfl
 |1,_=>rfl
 |2,_=>rfl
 |3,_=>rfl
 |4,_=>rfl
theorem gO (w:World)(ty:TypeId)(b o n c:Nat)(hn:0<n)(hc: ∀j,j<n * 5→(w.cell? ⟨b,o+j,none⟩).isSome=true)(hf: ∀j,j<n * 5→w.frozen? ⟨b,o+j,none⟩=false):
  (Builtin.clear_ #[22] ty #[.slice (some ⟨b,o,none⟩) n c]).run Tryz.prog w= .ok (.tuple #[]) (w.setCells b o (eE n)):=by
 obtain⟨i0,hi,hz,-,-⟩:=info_parts Tryz.infoVal;have hv: ∀w,(zeroValue 25).run Tryz.prog w= .ok (.agg #[.int .i64 0,.int .i64 0,.string ⟨#[]⟩,.slice none 0 0,.slice none 0 0]) w:=fun w=>by simp[zeroValue,typeInfo,hi,hz]
 have hl:=fV n;exact gH w 22 25 ty _ Tryz.underlying22 hv b o n c hn (sH n) (fun j hj=>hc j (by rw[←hl];exact hj)) (fun j hj=>hf j (by rw[←hl];exact hj))
open Lib (hid)
theorem ei {w:World}{b:Nat}{ty:TypeId}{fz:Nat×Nat}: ∀(vs:List Value) (o:Nat) (C:Array Value),w.heap[b]? =some (.cells C ty fz)→o+vs.length≤C.size→
  ∃C',(w.setCells b o vs).heap[b]? =some (.cells C' ty fz)∧C'.size=C.size∧ ∀m,C'[m]? =if o≤m∧m<o+vs.length then vs[m - o]? else C[m]? :=by
 intro vs
 induction vs generalizing w with
 |nil=>exact fun o C h _=>⟨C,h,rfl,fun m=>by rw[if_neg (by simp only[List.length_nil];omega)]⟩
 |cons v r ih=>
  intro o C h hl;simp only[List.length_cons]at hl;obtain⟨C',h1,h2,h3⟩:=ih (w:=w.setCell ⟨b,o,none⟩ v) (o+1) (C.setIfInBounds o v) (Go.Joins.block_setCell (i:=o) h v) (by simp;omega);refine⟨C',h1,by rw[h2];simp,fun m=> ?_⟩;rw[h3 m];simp only[List.length_cons];by_cases hm:o+1≤m∧m<o+1+r.length
  ·rw[if_pos hm,if_pos (by omega)];obtain⟨q,rfl⟩: ∃q,m=o+1+q:=⟨m - (o+1),by omega⟩;rw[show o+1+q - (o+1)=q by omega,show o+1+q - o=q+1 by omega];rfl
  ·rw[if_neg hm,Array.getElem?_setIfInBounds];by_cases e:o=m
   ·subst e;rw[if_pos rfl,if_pos (by omega),if_pos (by omega),Nat.sub_self];rfl
   ·rw[if_neg e,if_neg (by omega)]
theorem mM (b n cap i j:Nat)(C:Array Value)(w:World)(hG:w.heap[b]? =some (.cells C 25 (0,0)))(hsz:C.size=cap * 5)(hn:n≤cap)(hm:cap≤9223372036854775807)(hn2:n≤1759218604390)(hij:i<j)(hj:j≤n)(h1: ∀v∈(C.toList.drop (j * 5)).take ((n - j) * 5),v.oneCell'=true):
  Calls Tryz.prog 163 #[.slice (some ⟨b,0,none⟩) n cap,.int .i64 i,.int .i64 j] w fun e w'=>e= .returned (.slice (some ⟨b,0,none⟩) (i+(n - j)) cap)∧w'=(w.drew.setCells b (i * 5) ((C.toList.drop (j * 5)).take ((n - j) * 5))).setCells b ((i+(n - j)) * 5) (eE (n - (i+(n - j)))):=by
 obtain⟨i0,hi,hi0,hi1,hi2⟩:=info_parts Tryz.infoVal;obtain⟨news,hnews⟩: ∃news,news=(C.toList.drop (j * 5)).take ((n - j) * 5):=⟨_,rfl⟩;rw[←hnews]
 have hlen:news.length=(n - j) * 5:=by
  rw[hnews,List.length_take,List.length_drop,Array.length_toList,hsz];omega
 have HN:=hid hnews;have hne:((i:Int) == (j:Int))=false:=beq_false_of_ne (by omega);clear hnews;go_enter Tryz.func163,Tryz.ntmps163;go_wp2_with fail;have hic:i≤cap:=by omega
 have hjc:j≤cap:=by omega
 refine au fX (fun _=>trivial) (fun _ _ _ _ _=>trivial) [] (.free [0,1,2,3,4,5] (.step 6 (.step 7 (.tail [])))) (by kernel_rfl) (by kernel_rfl) (fun _ d _ _ _ h=>by cases d<;>exact h) ?_;refine aW ?_;simp only[atR];show wpQuiet _ _ _ _ [_,_,_,_,_,_] _;try simp only[acR,Act.put]
 repeat(go_big_quiet_step (fail))
 refine wpQuiet_nil ?_;have hcell: ∀m,m<C.size→w.drew.cell? ⟨b,m,none⟩=C[m]? :=fun m _=>Go.Joins.cell_of_block (w:=w) hG m;have hfr: ∀m,w.drew.frozen? ⟨b,m,none⟩=false:=fun m=>Go.Joins.unfrozen_of_block (w:=w) hG m
 have hnew: ∀m v,news[m]? =some v→C[j * 5+m]? =some v∧m<(n - j) * 5:=by
  intro m v hv;have hm':m<(n - j) * 5:=by rw[←hlen];exact(List.getElem?_eq_some_iff.1 hv).1
  rw[HN.out,List.getElem?_take_of_lt hm',List.getElem?_drop,Array.getElem?_toList]at hv;exact⟨hv,hm'⟩
 obtain⟨ad,hA,hsrc⟩: ∃ad:Addr,(if cap=j then(some ⟨b,0,none⟩:Option Addr)else some ⟨b,j * 5,none⟩)=some ad∧ ∀m v,news[m]? =some v→w.drew.cell? (ad.add m)=some v:=by
  by_cases hcj:cap=j
  ·refine⟨_,if_pos hcj,fun m v hv=> ?_⟩;have:=(hnew m v hv).2;omega
  ·refine⟨_,if_neg hcj,fun m v hv=> ?_⟩;have h2:=hnew m v hv;rw[cq];exact(hcell _ (Array.getElem?_eq_some_iff.1 h2.1).1).trans h2.1
 rw[hA];have hone: ∀u∈news,u.oneCell'=true:=fun u hu=>h1 u (by rw[HN.out]at hu;exact hu);refine ah rfl (fun K hK=> ?_);refine step_append_room rfl (.tmp 22) (.tmp 25) 22 rfl 25 i0 5 Tryz.underlying22 hi hi1 b 0 i cap rfl ad (n - j) (cap - j) news rfl hlen hsrc hone (by omega) (fun m hm'=> ?_) ?_
 ·rw[hlen]at hm';rw[Nat.zero_add,hcell _ (by omega),Array.getElem?_eq_getElem (by omega)];exact⟨rfl,hfr _⟩
 refine hK _ _ (.inr trivial) ?_;clear hK K;simp only[acR,Act.put];rw[Nat.zero_add];refine ah rfl (fun K hK=> ?_)
 go_simp
 refine hK _ _ (.inr trivial) ?_;clear hK K;refine aQ ?_
 have hcl: ∀ty,0<n - (i+(n - j))→(Builtin.clear_ #[22] ty #[.slice (some ⟨b,(i+(n - j)) * 5,none⟩) (n - (i+(n - j))) (cap - (i+(n - j)))]).run Tryz.prog (w.drew.setCells b (i * 5) news)= .ok (.tuple #[]) ((w.drew.setCells b (i * 5) news).setCells b ((i+(n - j)) * 5) (eE (n - (i+(n - j))))):=by
  intro ty hp;obtain⟨C',hC',hs',-⟩:=ei (w:=w.drew) news (i * 5) C hG (by rw[hlen];omega);refine gO _ ty b _ _ _ hp (fun m hm'=> ?_) (fun m _=>Go.Joins.unfrozen_of_block hC' _);rw[Go.Joins.cell_of_block hC',Array.getElem?_eq_getElem (by omega)];rfl
 have hcl0:=fun ty=>hcl ty (by omega);clear hcl hcell hfr hnew hsrc hone;obtain⟨w1,hw1⟩: ∃w1,w1=w.drew.setCells b (i * 5) news:=⟨_,rfl⟩;rw[←hw1]at hcl0 ⊢;have HW1:=hid hw1;clear hw1;go_wp2_with fail;go_ret;exact⟨rfl,by rw[HW1.out]⟩
def gU (n:Nat):List Value:=(Builtin.zeroCells #[.string ⟨#[]⟩] n).toList
theorem je (n:Nat):(gU n).length=n:=by simp[gU,Builtin.zeroCells]
theorem rY (n:Nat): ∀v∈gU n,v.oneCell'=true:=by
 intro v hv;simp only[gU,Builtin.zeroCells,Array.toList_map,List.mem_map]at hv;obtain⟨i,-,rfl⟩:=hv;have h:i % 1=0:=Nat.mod_one i;show Value.oneCell' (#[Value.string ⟨#[]⟩][i % 1]!)=true;rw[h];rfl
theorem mV (w:World)(ty:TypeId)(b o n c:Nat)(hn:0<n)(hc: ∀j,j<n→(w.cell? ⟨b,o+j,none⟩).isSome=true)(hf: ∀j,j<n→w.frozen? ⟨b,o+j,none⟩=false):
  (Builtin.clear_ #[23] ty #[.slice (some ⟨b,o,none⟩) n c]).run Tryz.prog w= .ok (.tuple #[]) (w.setCells b o (gU n)):=by
 obtain⟨i0,hi,hz,-,-⟩:=info_parts Tryz.infoStr;have hv: ∀w,(zeroValue 9).run Tryz.prog w= .ok (.string ⟨#[]⟩) w:=fun w=>by simp[zeroValue,typeInfo,hi,hz]
 have hl:=je n;exact gH w 23 9 ty _ Tryz.underlying23 hv b o n c hn (rY n) (fun j hj=>hc j (by rw[←hl];exact hj)) (fun j hj=>hf j (by rw[←hl];exact hj))
theorem sQ (b n cap i j:Nat)(C:Array Value)(w:World)(hG:w.heap[b]? =some (.cells C 9 (0,0)))(hsz:C.size=cap)(hn:n≤cap)(hm:cap≤9223372036854775807)(hn2:n≤8796093021952)(hij:i<j)(hj:j≤n)(h1: ∀v∈(C.toList.drop j).take (n - j),v.oneCell'=true):
  Calls Tryz.prog 162 #[.slice (some ⟨b,0,none⟩) n cap,.int .i64 i,.int .i64 j] w fun e w'=>e= .returned (.slice (some ⟨b,0,none⟩) (i+(n - j)) cap)∧w'=(w.drew.setCells b i ((C.toList.drop j).take (n - j))).setCells b (i+(n - j)) (gU (n - (i+(n - j)))):=by
 obtain⟨i0,hi,hi0,hi1,hi2⟩:=info_parts Tryz.infoStr;obtain⟨news,hnews⟩: ∃news,news=(C.toList.drop j).take (n - j):=⟨_,rfl⟩;rw[←hnews]
 have hlen:news.length=n - j:=by
  rw[hnews,List.length_take,List.length_drop,Array.length_toList,hsz];omega
 have HN:=hid hnews;have hne:((i:Int) == (j:Int))=false:=beq_false_of_ne (by omega);clear hnews;go_enter Tryz.func162,Tryz.ntmps162;go_wp2_with fail;have hic:i≤cap:=by omega
 have hjc:j≤cap:=by omega
 refine au fX (fun _=>trivial) (fun _ _ _ _ _=>trivial) [] (.free [0,1,2,3,4,5] (.step 6 (.step 7 (.tail [])))) (by kernel_rfl) (by kernel_rfl) (fun _ d _ _ _ h=>by cases d<;>exact h) ?_;refine aW ?_;simp only[atR];show wpQuiet _ _ _ _ [_,_,_,_,_,_] _;try simp only[acR,Act.put]
 repeat(go_big_quiet_step (fail))
 refine wpQuiet_nil ?_;have hcell: ∀m,m<C.size→w.drew.cell? ⟨b,m,none⟩=C[m]? :=fun m _=>Go.Joins.cell_of_block (w:=w) hG m;have hfr: ∀m,w.drew.frozen? ⟨b,m,none⟩=false:=fun m=>Go.Joins.unfrozen_of_block (w:=w) hG m
 have hnew: ∀m v,news[m]? =some v→C[j+m]? =some v∧m<n - j:=by
  intro m v hv;have hm':m<n - j:=by rw[←hlen];exact(List.getElem?_eq_some_iff.1 hv).1
  rw[HN.out,List.getElem?_take_of_lt hm',List.getElem?_drop,Array.getElem?_toList]at hv;exact⟨hv,hm'⟩
 obtain⟨ad,hA,hsrc⟩: ∃ad:Addr,(if cap=j then(some ⟨b,0,none⟩:Option Addr)else some ⟨b,j,none⟩)=some ad∧ ∀m v,news[m]? =some v→w.drew.cell? (ad.add m)=some v:=by
  by_cases hcj:cap=j
  ·refine⟨_,if_pos hcj,fun m v hv=> ?_⟩;have:=(hnew m v hv).2;omega
  ·refine⟨_,if_neg hcj,fun m v hv=> ?_⟩;have h2:=hnew m v hv;rw[cq];exact(hcell _ (Array.getElem?_eq_some_iff.1 h2.1).1).trans h2.1
 rw[hA];have hone: ∀u∈news,u.oneCell'=true:=fun u hu=>h1 u (by rw[HN.out]at hu;exact hu);refine ah rfl (fun K hK=> ?_);refine step_append_room rfl (.tmp 22) (.tmp 25) 23 rfl 9 i0 1 Tryz.underlying23 hi hi1 b 0 i cap rfl ad (n - j) (cap - j) news rfl (by rw[hlen];omega) hsrc hone (by omega) (fun m hm'=> ?_) ?_
 ·rw[hlen]at hm';rw[Nat.zero_add,hcell _ (by omega),Array.getElem?_eq_getElem (by omega)];exact⟨rfl,hfr _⟩
 refine hK _ _ (.inr trivial) ?_;clear hK K;simp only[acR,Act.put];rw[Nat.zero_add,Nat.mul_one];refine ah rfl (fun K hK=> ?_)
 go_simp
 refine hK _ _ (.inr trivial) ?_;clear hK K;refine aQ ?_
 have hcl: ∀ty,0<n - (i+(n - j))→(Builtin.clear_ #[23] ty #[.slice (some ⟨b,i+(n - j),none⟩) (n - (i+(n - j))) (cap - (i+(n - j)))]).run Tryz.prog (w.drew.setCells b i news)= .ok (.tuple #[]) ((w.drew.setCells b i news).setCells b (i+(n - j)) (gU (n - (i+(n - j))))):=by
  intro ty hp;obtain⟨C',hC',hs',-⟩:=ei (w:=w.drew) news i C hG (by rw[hlen];omega);refine mV _ ty b _ _ _ hp (fun m hm'=> ?_) (fun m _=>Go.Joins.unfrozen_of_block hC' _);rw[Go.Joins.cell_of_block hC',Array.getElem?_eq_getElem (by omega)];rfl
 have hcl0:=fun ty=>hcl ty (by omega);clear hcl hcell hfr hnew hsrc hone;obtain⟨w1,hw1⟩: ∃w1,w1=w.drew.setCells b i news:=⟨_,rfl⟩;rw[←hw1]at hcl0 ⊢;have HW1:=hid hw1;clear hw1;go_wp2_with fail;go_ret;exact⟨rfl,by rw[HW1.out]⟩
end Go.Proofs.YtgbopnlpaabelaaGreatDoor
