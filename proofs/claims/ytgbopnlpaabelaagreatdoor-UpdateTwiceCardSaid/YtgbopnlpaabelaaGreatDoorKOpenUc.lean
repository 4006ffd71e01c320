/- An update that came in, and the room of its operators' paths. -/
import Derived.Test.YtgbopnlpaabelaaGreatDoorKSpD
import Derived.Test.YtgbopnlpaabelaaGreatDoorKRefM
import Derived.Test.YtgbopnlpaabelaaGreatDoorKPathS
import Derived.Test.YtgbopnlpaabelaaGreatDoorKOpenDl
import Derived.Test.YtgbopnlpaabelaaGreatDoorKPathT
import Derived.Test.YtgbopnlpaabelaaGreatDoorKUpLv
import Derived.Test.YtgbopnlpaabelaaGreatDoorKSpJ
set_option maxHeartbeats 64000000
set_option maxRecDepth 100000
set_option linter.unusedVariables false
set_option linter.unusedSimpArgs false
namespace Go.Proofs.YtgbopnlpaabelaaGreatDoor
open Go.ChangeShapes Go.WideShapes Go.RowKit Go.Joins Go.Deep
section
variable {H :Type} {enc:TypeId×Value→H} {W:World} {sp:Nat→Bool}
theorem vj {fuel:Nat}{cs:List Value}{x:DataW H×List MemPlace}(h:DataW.trod enc Tryz.prog W 0 sp true fuel 51 cs=some x)(hw: ∀n∈x.1.weights Tryz.prog 51,n≤reachBytes):
  ∃o:OpT,OpL W (fun b=>b<W.heap.size) o cs.toArray∧ ∀PA n pc,cs.toArray[1]? =some (.slice PA n pc)→pc≤9223372036854775807:=by
 obtain⟨f0,f1,f2,f3,hu,t0,t1,t2,t3,o0,o1,o2,o3⟩:=vL;obtain⟨xs,n,hfu,hx,hlen,hxl,hg⟩:=DataW.trod_struct hu h;rw[rG]at hlen
 match cs,hlen with
 | [c0,c1,c2,c3,c4,c5,c6,c7],_=>
  match xs,hxl with
  | [y0,y1,y2,y3],_=>
   have g0:=hg 0 f0 rfl;have g1:=hg 1 f1 rfl;have g2:=hg 2 f2 rfl;have g3:=hg 3 f3 rfl;rw[t0,o0,tG]at g0;rw[t1,o1,kP]at g1;rw[t2,o2,jM]at g2;rw[t3,o3,kP]at g3;have hws:=hw;rw[hx]at hws;simp only[DataW.weights,hu,List.map_cons,List.map_nil,t0,t1,t2,t3]at hws;obtain⟨k,e0,-,w0⟩:=DataW.trod_int Tryz.underlying3 g0;simp at e0;subst e0;have hw1: ∀n∈y1.1.weights Tryz.prog 23,n≤reachBytes:=fun n hn=>hws n (by rw[DataW.weightsEach,DataW.weightsEach];exact List.mem_append_right _ (List.mem_append_left _ hn));have hw2: ∀n∈y2.1.weights Tryz.prog 25,n≤reachBytes:=fun n hn=>hws n (by rw[DataW.weightsEach,DataW.weightsEach,DataW.weightsEach];exact List.mem_append_right _ (List.mem_append_right _ (List.mem_append_left _ hn)));have hw3: ∀n∈y3.1.weights Tryz.prog 23,n≤reachBytes:=fun n hn=>hws n (by rw[DataW.weightsEach,DataW.weightsEach,DataW.weightsEach,DataW.weightsEach];exact List.mem_append_right _ (List.mem_append_right _ (List.mem_append_right _ (List.mem_append_left _ hn))));obtain⟨PA,pc,ps,e1,hpc,-,h63,hpn,hps⟩:=ql g1 hw1;obtain⟨TA,tc,ts,e3,htc,-,htn,hts⟩:=ik g3 hw3;obtain⟨t,ht⟩:=iy _ _ _ g2 hw2;simp at e1 e3;subst e1 e3;refine⟨⟨k,ps,t,ts⟩,⟨PA,pc,c2,c3,c4,c5,c6,TA,tc,rfl,ht,hps,hts,hpc,htc,in64_of_wf w0,hpn,htn⟩,fun PA' n' pc' e=> ?_⟩;have e:some (Value.slice PA ps.length pc)=some (.slice PA' n' pc'):=e;injection e with e
   injection e with _ _ e
   omega
theorem tm {fuel:Nat}{cs:List Value}{x:DataW H×List MemPlace}(h:DataW.trod enc Tryz.prog W 0 sp true fuel 26 cs=some x)(hw: ∀n∈x.1.weights Tryz.prog 26,n≤reachBytes):
  ∃A c,∃os:List OpT,cs= [.slice A os.length c]∧os.length≤c∧os.length≤1099511627776∧ey W (fun b=>b<W.heap.size) A os∧ox W A os:=by
 rcases DataW.trod_slice Tryz.underlying26 h with ⟨e3,-⟩|⟨a,len,cap,elems,rest,m,hm,e3,x3,-,hlc,-,hel,hat,-,-⟩
 ·exact⟨none,0,[],e3,by simp,by simp,fun h=>absurd h (by simp),fun k h=>absurd h (by simp)⟩
 ·have hws:=hw;rw[x3]at hws;simp only[DataW.weights,Tryz.underlying26]at hws
  have hl:len≤1099511627776:=by
   have h1:=hws _ (List.mem_cons_self ..);rw[yl]at h1;simp only[List.length_map,hel,reachBytes]at h1;omega
  have hT: ∀j,∃o:OpT,j<len→ ∃cs:Array Value,(∀i v,cs[i]? =some v→W.cell? ((a.add (j * 8)).add i)=some v)∧OpL W (fun b=>b<W.heap.size) o cs∧(∀PA n pc,cs[1]? =some (.slice PA n pc)→pc≤9223372036854775807):=by
   intro j;by_cases hj:j<len
   ·have h1:=hat j hj;rw[rG,List.getElem?_eq_getElem (by omega)]at h1;obtain⟨cs',hc,ht⟩:=Option.bind_eq_some_iff.1 h1;obtain⟨-,hcl,hcat⟩:=World.cells?_some hc;obtain⟨o,ho,hoc⟩:=vj ht (fun n hn=>hws n (List.mem_cons_of_mem _ (List.mem_append_left _ (ed (List.mem_map.2 ⟨_,List.getElem_mem (by omega),rfl⟩) n hn))));refine⟨o,fun _=>⟨cs'.toArray,fun i v hv=> ?_,ho,hoc⟩⟩;have hi:=(Array.getElem?_eq_some_iff.1 hv).1;have hi':i<cs'.length:=by simpa using hi
    rw[hcat i (by omega)];simpa using hv
   ·exact⟨⟨0,[],.mk 0 0 ⟨#[]⟩ [] [],[]⟩,fun h=>absurd h hj⟩
  obtain⟨T,hT⟩:=Classical.skolem.1 hT;have hlm:((List.range len).map T).length=len:=by simp
  by_cases hp0:0<len
  ·obtain⟨b,off,spot⟩:=a;obtain⟨cs0,h0,hok0,-⟩:=hT 0 hp0;obtain⟨PA0,pc0,a0,b0,c0,d0,e0,TA0,tc0,hcs0,-⟩:=hok0;have h00:=h0 0 (.int .i64 (T 0).kind) (by rw[hcs0];rfl);obtain rfl:spot=none:=by simpa[Addr.add]using World.cell?_spot h00
   refine⟨some ⟨b,off,none⟩,cap,(List.range len).map T,by rw[hlm];exact e3,by omega,by omega,fun hp=> ?_,fun k hk b2 off2 hA PA n pc hc=> ?_⟩
   ·refine⟨b,off,rfl,?_,fun j hj=> ?_⟩
    ·rw[fl,fl]at h00;exact World.block_lt_of_cell? W _ h00
    ·rw[hlm]at hj;obtain⟨cs,h0,h1,-⟩:=hT j hj;refine⟨cs,fun i v hv=> ?_,by simpa using h1⟩;have:=h0 i v hv;rw[fl,fl]at this;exact this
   ·rw[hlm]at hk;injection hA with hA
    injection hA with e1 e2
    subst e1 e2;obtain⟨cs,h0,h1,h2⟩:=hT k hk;obtain⟨PA1,pc1,a1,b1,c1,d1,f1,TA1,tc1,hcs1,-⟩:=h1;have h3:=h0 1 (.slice PA1 (T k).path.length pc1) (by rw[hcs1];rfl);rw[fl,fl]at h3;rw[h3]at hc;injection hc with hc
    injection hc with _ _ hc
    have:=h2 PA1 (T k).path.length pc1 (by rw[hcs1];rfl);omega
  ·have hl0:len=0:=by omega
   subst hl0;exact⟨some a,cap,[],by simpa using e3,by simp,by simp,fun h=>absurd h (by simp),fun k h=>absurd h (by simp)⟩
theorem sN {fuel:Nat}{cs:List Value}{x:DataW H×List MemPlace}(h:DataW.trod enc Tryz.prog W 0 sp true fuel 28 cs=some x)(hw: ∀n∈x.1.weights Tryz.prog 28,n≤reachBytes):
  ∃s:ba,cl W (fun b=>b<W.heap.size) s cs.toArray∧gE W s.ops cs.toArray:=by
 obtain⟨f0,f1,f2,hu,t0,t1,t2,o0,o1,o2⟩:=tb;obtain⟨xs,n,hfu,hx,hlen,hxl,hg⟩:=DataW.trod_struct hu h;rw[uN]at hlen
 match cs,hlen with
 | [c0,c1,c2,c3,c4,c5,c6],_=>
  match xs,hxl with
  | [y0,y1,y2],_=>
   have g0:=hg 0 f0 rfl;have g1:=hg 1 f1 rfl;have g2:=hg 2 f2 rfl;rw[t0,o0,tw]at g0;rw[t1,o1,jM]at g1;rw[t2,o2,vh]at g2;have hws:=hw;rw[hx]at hws;simp only[DataW.weights,hu,List.map_cons,List.map_nil,t0,t1,t2]at hws;have hw1: ∀n∈y1.1.weights Tryz.prog 25,n≤reachBytes:=fun n hn=>hws n (by rw[DataW.weightsEach,DataW.weightsEach];exact List.mem_append_right _ (List.mem_append_left _ hn));have hw2: ∀n∈y2.1.weights Tryz.prog 26,n≤reachBytes:=fun n hn=>hws n (by rw[DataW.weightsEach,DataW.weightsEach,DataW.weightsEach];exact List.mem_append_right _ (List.mem_append_right _ (List.mem_append_left _ hn)));obtain⟨OA,oc,os,e2,hoc,hol,hos,hco⟩:=tm g2 hw2;obtain⟨t,ht⟩:=iy _ _ _ g1 hw1;obtain⟨r,e0,-⟩:=DataW.trod_bool Tryz.underlying4 g0;simp at e0 e2;subst e0 e2;obtain⟨DA,dc,DA',dc',hts,-⟩:=ht.shape;simp at hts;obtain⟨rfl,rfl,rfl,rfl,rfl⟩:=hts;refine⟨⟨r,t,os⟩,⟨DA,dc,DA',dc',OA,oc,rfl,ht,hos,hoc,hol⟩,fun OA' n' oc' e=> ?_⟩;have e:some (Value.slice OA os.length oc)=some (.slice OA' n' oc'):=e;injection e with e
   injection e with e1 e2 e3
   subst e1;exact hco
end
end Go.Proofs.YtgbopnlpaabelaaGreatDoor
/- A value in a box, as it stands in later worlds. -/
namespace Go.Proofs.YtgbopnlpaabelaaGreatDoor
open Go.RowKit
structure KV (W:World)(g:Nat)(T:VT)(A:Option Addr)(c:Nat)(A':Option Addr)(c':Nat):Prop where
 box:Box W g (.int .i64 T.kind) (.int .i64 T.num) (.string T.text) (.slice A T.items.length c) (.slice A' T.names.length c')
 val:LV W (fun b=>b<W.heap.size) T (.agg #[.int .i64 T.kind,.int .i64 T.num,.string T.text,.slice A T.items.length c,.slice A' T.names.length c'])
theorem KV.next {W W':World}{g:Nat}{T:VT}{A:Option Addr}{c:Nat}{A':Option Addr}{c':Nat}(h:KV W g T A c A' c')(hb:Below W.heap.size W W'):KV W' g T A c A' c':=
 ⟨h.box.call hb,(h.val.keep fun b h'=>hb.block b h').imp fun b h'=>Nat.lt_of_lt_of_le h' hb.size⟩
theorem KV.new {W:World}{S:Nat→Prop}{T:VT}{A:Option Addr}{c:Nat}{A':Option Addr}{c':Nat}(hS: ∀b,S b→b<W.heap.size)(h:LV W S T (.agg #[.int .i64 T.kind,.int .i64 T.num,.string T.text,.slice A T.items.length c,.slice A' T.names.length c'])):
  KV (W.alloc (.cells #[.int .i64 T.kind,.int .i64 T.num,.string T.text,.slice A T.items.length c,.slice A' T.names.length c'] 25)) W.heap.size T A c A' c':=
 ⟨Box.new ..,(h.keep fun b hb=>Below.heap_alloc W _ b (hS b hb)).imp fun b hb=>by
  have:=hS b hb;simp
  omega⟩
theorem fh {W W':World}{A:Option Addr}{l:List av}(h:bf fN 8 W (fun b=>b<W.heap.size) A l)(hb:Below W.heap.size W W'):bf fN 8 W' (fun b=>b<W'.heap.size) A l:=
 bf.imp dM (bf.keep dM h fun b h'=>hb.block b h') fun b h'=>Nat.lt_of_lt_of_le h' hb.size
theorem eH (W:World)(o:Obj):Below W.heap.size W (W.alloc o):=(Below.refl _ _).alloc (Nat.le_refl _) _
end Go.Proofs.YtgbopnlpaabelaaGreatDoor
