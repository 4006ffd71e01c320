/- The program's Drop and Cut. -/
import Derived.Test.YtgbopnlpaabelaaGreatDoorKTrP
import Derived.Test.YtgbopnlpaabelaaGreatDoorKSpJ
import Derived.RangeFuncNested
import Derived.RangeFuncBound
import Derived.RangeFuncCalls
import Derived.RangeFuncLeaves
import Derived.Shelf.Abstract
import Derived.Shelf.RegionOpen
import Derived.WalkKit
import Derived.OwnWalkIn
import Derived.TacticsInMore
import Derived.LoopNIn
import Derived.LoopIn
set_option maxHeartbeats 64000000
set_option maxRecDepth 100000
set_option linter.unusedVariables false
set_option linter.unusedSimpArgs false
namespace Go.Proofs.YtgbopnlpaabelaaGreatDoor
open Lib (hid)
open Go.RowKit
theorem cC {w w5:World}{res:Int×VT}{u:VT}{x:Int}{c0 c1 c2 c3 c4:Value}(q:Nat)(hb:Below w.heap.size w w5)(hv:LV w5 (Iv (w.heap.size+q+1) w5.heap.size) u (.agg #[c0,c1,c2,c3,c4]))(hr:res=(x,u)):
  ej res w (.returned (.tuple #[.agg #[c0,c1,c2,c3,c4],.int .i64 x])) (cH w5 (w.heap.size+q) 0 c0 c1 c2 c3 c4):=by
 have hr5:=cv w5 (w.heap.size+q) 0 c0 c1 c2 c3 c4;have hk:=bE w5 (w.heap.size+q) 0 c0 c1 c2 c3 c4;have hz:=bQ w5 (w.heap.size+q) 0 c0 c1 c2 c3 c4;subst hr
 exact⟨_,rfl,(hv.keep fun b hb'=>hk b (by have:=hb'.1;omega)).imp fun b hb'=>⟨by have:=hb'.1;omega,by rw[hz];exact hb'.2⟩,
  ⟨hr5.1.trans hb.os,hr5.2.1.trans hb.tape,hr5.2.2.trans hb.output,by rw[hz];exact hb.size,fun b hb'=>(hk b (by omega)).trans (hb.block b hb')⟩⟩
theorem sP (S:Nat→Prop)(t:VT)(v:Value)(A:Option Addr)(c:Nat)(p:List ByteArray)(w:World)(hS: ∀b,S b→b<w.heap.size)(h:LV w S t v)(hd:ac t≤4611686018427387903)(hp:ai w S A p)(hn:p.length≤140737488351232)(hpc:p.length≤c)(h63:c≤9223372036854775807):
  Calls Tryz.prog 85 #[v,.slice A p.length c] w (ej (bl bh t p) w):=by
 obtain⟨A0,c0,A0',c0',rfl,-,-,-,v1,hb0⟩:=bY hS h;have HX:=hid v1.x;have HB:=hid hb0;have HV:=hid h;have HP:=hid hp;have HD:=hid hd;clear h v1 hb0 hd hp;go_enter Tryz.func85,Tryz.ntmps85;go_wp2_with fail;have hz1:(w.alloc (.cells #[.int .i64 t.kind,.int .i64 t.num,.string t.text,.slice A0 t.items.length c0,.slice A0' t.names.length c0'] 25)).heap.size=w.heap.size+1:=by simp
 have hB0:Below w.heap.size w ((w.alloc (.cells #[.int .i64 t.kind,.int .i64 t.num,.string t.text,.slice A0 t.items.length c0,.slice A0' t.names.length c0'] 25)).alloc (.cells #[.int .i64 0,.int .i64 0,.string ⟨#[]⟩,.slice none 0 0,.slice none 0 0] 25)):=HB.out.alloc (by omega) _;have hX0:=HX.out.alloc (.cells #[.int .i64 0,.int .i64 0,.string ⟨#[]⟩,.slice none 0 0,.slice none 0 0] 25)
 have hR0:Box ((w.alloc (.cells #[.int .i64 t.kind,.int .i64 t.num,.string t.text,.slice A0 t.items.length c0,.slice A0' t.names.length c0'] 25)).alloc (.cells #[.int .i64 0,.int .i64 0,.string ⟨#[]⟩,.slice none 0 0,.slice none 0 0] 25)) (w.heap.size+1) (.int .i64 0) (.int .i64 0) (.string ⟨#[]⟩) (.slice none 0 0) (.slice none 0 0):=by
  have h:=Box.new (w:=w.alloc (.cells #[.int .i64 t.kind,.int .i64 t.num,.string t.text,.slice A0 t.items.length c0,.slice A0' t.names.length c0'] 25)) (.int .i64 0) (.int .i64 0) (.string ⟨#[]⟩) (.slice none 0 0) (.slice none 0 0);rw[hz1]at h;exact h
 have hz2:((w.alloc (.cells #[.int .i64 t.kind,.int .i64 t.num,.string t.text,.slice A0 t.items.length c0,.slice A0' t.names.length c0'] 25)).alloc (.cells #[.int .i64 0,.int .i64 0,.string ⟨#[]⟩,.slice none 0 0,.slice none 0 0] 25)).heap.size=w.heap.size+2:=by simp
 generalize (w.alloc (.cells #[.int .i64 t.kind,.int .i64 t.num,.string t.text,.slice A0 t.items.length c0,.slice A0' t.names.length c0'] 25)).alloc (.cells #[.int .i64 0,.int .i64 0,.string ⟨#[]⟩,.slice none 0 0,.slice none 0 0] 25)=w2 at *;have q0:=hX0.c0;have q1:=hX0.c1;have q2:=hX0.c2;have q3:=hX0.c3;have q4:=hX0.c4;have HB0:=hid hB0;have HR0:=hid hR0;have HC:=hid (iC 130 #[] bh S (fun _=>True) (fun _=>True) (fun _ _ _ _=>trivial) pO (fun _ _ _ _=>trivial) (fun w t g o A c s r F _ ho hm _ _ _ _ _ _ _=>vV t g o A c s r F w ho hm) t _ A c p w2 trivial trivial (fun b hb=>by have:=hS b hb;omega) (HV.out.keep fun b hb=>hB0.block b (hS b hb)) HD.out (HP.out.keep fun b hb=>hB0.block b (hS b hb)) hn hpc h63);clear hB0 hX0 hR0 hz1 HB HX HV HP HD;go_wp2_with fail;refine HC.out.mono ?_;rintro e w5 ⟨v',rfl,hv,hb5⟩;obtain⟨B,k,B',k',rfl,-⟩:=hv.shape;have HB5:=hid (HB0.out.trans (hb5.mono (show w.heap.size≤w2.heap.size by omega)));have HR5:=hid (HR0.out.call hb5);have HV5:=hid (hv.imp (S':=Iv (w.heap.size+1+1) w5.heap.size) fun b hb=>⟨by have:=hb.1;omega,hb.2⟩);have rf:=fun i=>HR5.out.free i;have r0:=HR5.out.c0;have r1:=HR5.out.c1;have r2:=HR5.out.c2;have r3:=HR5.out.c3;have r4:=HR5.out.c4;generalize hres:bl bh t p=res at *;obtain⟨x,u⟩:=res;simp only at *;have HEND:=hid (cC (res:=(x,u)) 1 HB5.out HV5.out rfl);have HBOX:=hid (aZ (c0:= .int .i64 u.kind) (c1:= .int .i64 u.num) (c2:= .string u.text) (c3:= .slice B u.items.length k) (c4:= .slice B' u.names.length k') HR5.out);clear hv hb5 HC HR0 HB0 HV5 HB5 hz2 hres q0 q1 q2 q3 q4
 go_wp2_with fail;refine bodyPost_ret (aq rfl _ _ (w.heap.size+1) 25 _ (0,0) rfl HBOX.out (by kernel_rfl)) rfl ?_;exact HEND.out
theorem wx (n:Int)(hn': -9223372036854775808≤n∧n≤9223372036854775807)(S:Nat→Prop)(t:VT)(v:Value)(A:Option Addr)(c:Nat)(p:List ByteArray)(w:World)(hS: ∀b,S b→b<w.heap.size)(h:LV w S t v)(hd:ac t≤4611686018427387903)(hp:ai w S A p)(hn:p.length≤140737488351232)(hpc:p.length≤c)(h63:c≤9223372036854775807):
  Calls Tryz.prog 86 #[v,.slice A p.length c,.int .i64 n] w (ej (bl (bD n) t p) w):=by
 obtain⟨A0,c0,A0',c0',rfl,-,-,-,v1,hb0⟩:=bY hS h;have HX:=hid v1.x;have HB:=hid hb0;have HV:=hid h;have HP:=hid hp;have HD:=hid hd;clear h v1 hb0 hd hp;go_enter Tryz.func86,Tryz.ntmps86;go_wp2_with fail;generalize hE1:w.alloc (.cells #[.int .i64 t.kind,.int .i64 t.num,.string t.text,.slice A0 t.items.length c0,.slice A0' t.names.length c0'] 25)=W1 at *;have hz1:W1.heap.size=w.heap.size+1:=by rw[←hE1];simp
 have hz2:(W1.alloc (.cells #[.int .i64 n] 3)).heap.size=w.heap.size+2:=by simp[hz1]
 have hz3:((W1.alloc (.cells #[.int .i64 n] 3)).alloc (.cells #[.int .i64 0,.int .i64 0,.string ⟨#[]⟩,.slice none 0 0,.slice none 0 0] 25)).heap.size=w.heap.size+3:=by simp[hz1]
 have hB0:Below w.heap.size w ((W1.alloc (.cells #[.int .i64 n] 3)).alloc (.cells #[.int .i64 0,.int .i64 0,.string ⟨#[]⟩,.slice none 0 0,.slice none 0 0] 25)):=(HB.out.alloc (by omega) _).alloc (by omega) _;have hX0:=(HX.out.alloc (.cells #[.int .i64 n] 3)).alloc (.cells #[.int .i64 0,.int .i64 0,.string ⟨#[]⟩,.slice none 0 0,.slice none 0 0] 25)
 have hN0:((W1.alloc (.cells #[.int .i64 n] 3)).alloc (.cells #[.int .i64 0,.int .i64 0,.string ⟨#[]⟩,.slice none 0 0,.slice none 0 0] 25)).heap[w.heap.size+1]? =some (.cells #[.int .i64 n] 3 (0,0)):=by
  refine(Below.heap_alloc _ _ _ (by omega)).trans ?_;rw[←hz1];exact heap_alloc_new _ _
 have hR0:Box ((W1.alloc (.cells #[.int .i64 n] 3)).alloc (.cells #[.int .i64 0,.int .i64 0,.string ⟨#[]⟩,.slice none 0 0,.slice none 0 0] 25)) (w.heap.size+2) (.int .i64 0) (.int .i64 0) (.string ⟨#[]⟩) (.slice none 0 0) (.slice none 0 0):=by
  have h:=Box.new (w:=W1.alloc (.cells #[.int .i64 n] 3)) (.int .i64 0) (.int .i64 0) (.string ⟨#[]⟩) (.slice none 0 0) (.slice none 0 0);rw[hz2]at h;exact h
 clear hE1;generalize (W1.alloc (.cells #[.int .i64 n] 3)).alloc (.cells #[.int .i64 0,.int .i64 0,.string ⟨#[]⟩,.slice none 0 0,.slice none 0 0] 25)=w2 at *;have q0:=hX0.c0;have q1:=hX0.c1;have q2:=hX0.c2;have q3:=hX0.c3;have q4:=hX0.c4;have HB0:=hid hB0;have HR0:=hid hR0
 have HC:=hid (iC 132 #[.pointer (some ⟨w.heap.size+1,0,none⟩)] (bD n) S (fun w'=>w'.heap[w.heap.size+1]? =some (.cells #[.int .i64 n] 3 (0,0))) (fun _=>True) (fun _ _ _ _=>trivial) qE (fun w1 w2 hj hb=>(hb.block _ (Array.getElem?_eq_some_iff.1 hj).1).trans hj)
  (fun w1 t g o A c s r F hj ho hm _ _ _ _ _ _ _=>zA n hn' (w.heap.size+1) t g o A c s r F w1 ho hm hj) t _ A c p w2 hN0 trivial (fun b hb=>by have:=hS b hb;omega) (HV.out.keep fun b hb=>hB0.block b (hS b hb)) HD.out (HP.out.keep fun b hb=>hB0.block b (hS b hb)) hn hpc h63)
 clear hB0 hX0 hR0 hN0 HB HX HV HP HD;go_wp2_with fail;have e1:W1.heap.size=w.heap.size+1:=hz1;try rw[e1]
 refine HC.out.mono ?_;rintro e w5 ⟨v',rfl,hv,hb5⟩;obtain⟨B,k,B',k',rfl,-⟩:=hv.shape;have HB5:=hid (HB0.out.trans (hb5.mono (show w.heap.size≤w2.heap.size by omega)));have HR5:=hid (HR0.out.call hb5);have HV5:=hid (hv.imp (S':=Iv (w.heap.size+2+1) w5.heap.size) fun b hb=>⟨by have:=hb.1;omega,hb.2⟩);have rf:=fun i=>HR5.out.free i;have r0:=HR5.out.c0;have r1:=HR5.out.c1;have r2:=HR5.out.c2;have r3:=HR5.out.c3;have r4:=HR5.out.c4;generalize hres:bl (bD n) t p=res at *;obtain⟨x,u⟩:=res;simp only at *;have HEND:=hid (cC (res:=(x,u)) 2 HB5.out HV5.out rfl);have HBOX:=hid (aZ (c0:= .int .i64 u.kind) (c1:= .int .i64 u.num) (c2:= .string u.text) (c3:= .slice B u.items.length k) (c4:= .slice B' u.names.length k') HR5.out);clear hv hb5 HC HR0 HB0 HV5 HB5 hz2 hres q0 q1 q2 q3 q4 hz1 e1;go_wp2_with fail;refine bodyPost_ret (aq rfl _ _ (w.heap.size+2) 25 _ (0,0) rfl HBOX.out (by kernel_rfl)) rfl ?_;exact HEND.out
end Go.Proofs.YtgbopnlpaabelaaGreatDoor
/- The library's Backward over texts: for every loop body. -/
namespace Go.Proofs.YtgbopnlpaabelaaGreatDoor
open Lib (hid)
open Go.RowKit Go.Shelf
attribute [local go_sem] Oper.semAt_some
def KpB (bx m:Nat)(W W':World):Prop:=W.heap.size≤W'.heap.size∧ ∀b,b<m→b≠bx→W'.heap[b]? =W.heap[b]?
theorem KpB.refl (bx m:Nat)(W:World):KpB bx m W W:=⟨Nat.le_refl _,fun _ _ _=>rfl⟩
theorem KpB.trans {bx m:Nat}{A B C:World}(h:KpB bx m A B)(k:KpB bx m B C):KpB bx m A C:=⟨Nat.le_trans h.1 k.1,fun b hb hx=>(k.2 b hb hx).trans (h.2 b hb hx)⟩
theorem BA {bx m:Nat}{w:World}(hn:m≤w.heap.size)(W:World)(l:Nat)(o o':Obj)(hl:w.heap.size≤l)(h:W.heap[l]? =some o)(_:o.isCells=false)(_:o.isWalk=false):KpB bx m W (W.putObj l o'):=
 ⟨(grownBy_putObj' W l o').size,fun b hb _=>(grownBy_putObj' W l o').block b (by have:=(Array.getElem?_eq_some_iff.1 h).1;omega) (fun e=>by injection e with e;omega)⟩
def upB (zs:List ByteArray)(k:Nat):List (Nat×ByteArray):=(List.range k).map fun j=>(zs.length - 1 - j,zs[zs.length - 1 - j]?.getD ⟨#[]⟩)
theorem yP (zs:List ByteArray)(k:Nat):upB zs (k+1)=upB zs k++[(zs.length - 1 - k,zs[zs.length - 1 - k]?.getD ⟨#[]⟩)]:=by simp[upB,List.range_succ]
theorem tx (zs:List ByteArray)(k:Nat):(upB zs k).length=k:=by simp[upB]
theorem zL (F:Fence)(n:Nat)(hf:F.fn 181)(hro:F.round=none)(hn:1≤n)(l Bs bx m:Nat)(S:Nat→Prop)(A:Option Addr)(c:Nat)(zs:List ByteArray)(hlen:zs.length≤9223372036854775807)(hBs:Bs<m∧Bs≠bx)(hS: ∀b,S b→b<m∧b≠bx)(J Jx:List (Nat×ByteArray)→World→Prop)
  (hY: ∀pre x W,J pre W→pre.length<zs.length→YieldAt F (n - 1) Tryz.prog l #[.int .i64 (x.1:Int),.string x.2] W fun e W'=>
   (e= .returned (.bool true)∧J (pre++[x]) W'∧KpB bx m W W')∨(e= .returned (.bool false)∧Jx (pre++[x]) W'))
  (W:World) (hc:W.cell? ⟨Bs,0,none⟩=some (.slice A zs.length c)) (hst:ai W S A zs) (h0:J [] W):
  CallsIn F n Tryz.prog 181 #[.func (.yield l) #[] #[],.pointer (some ⟨Bs,0,none⟩)] W fun e W'=>(∃v,e= .returned v)∧
   ((∃ys,ys=upB zs zs.length∧J ys W')∨(∃pre,(∃k,k≤zs.length∧pre=upB zs k)∧Jx pre W')):=by
 have HST:=hid hst;clear hst;refine callsIn_of_wp Tryz.func181 rfl hf ?_ hro;simp only[Tryz.ntmps181,List.size_toArray,List.length_cons,List.length_nil,Nat.reduceAdd,Nat.reduceSub,Array.replicate_succ,Array.replicate_zero,List.push_toArray,List.append_toArray,List.nil_append,List.cons_append]
 gi_wp2
 gi_loopw [3] (fun i wr=> ∃(k:Nat) (P:Int),k≤zs.length∧Hid (P=(zs.length:Int) - 1 - k)∧i= .int .i64 P∧J (upB zs k) wr∧Hid (KpB bx m W wr))
  (fun i _=>(intOf i+1).toNat)
 case atStart=>exact⟨0,(zs.length:Int) - 1,Nat.zero_le _,hid (by omega),rfl,h0,hid (KpB.refl _ _ _)⟩
 case round=>
  obtain⟨k,P,hk,HP,rfl,hJs,HK⟩:=hrel;by_cases hlt:k<zs.length
  ·obtain⟨q,rfl⟩: ∃q:Nat,P=q:=⟨P.toNat,by have:=HP.out;omega⟩;have hq:zs.length - 1 - k=q:=by have:=HP.out;omega
   have hql:q<zs.length:=by omega
   obtain⟨b,off,rfl,hb,hx⟩:=HST.out (by omega);have hcx:wr.cell? ⟨b,off+q,none⟩=some (.string zs[q]):=(World.cell?_of_block (a:=⟨b,off+q,none⟩) (HK.out.2 b (hS b hb).1 (hS b hb).2)).trans (hx q hql).1;have hcb:wr.cell? ⟨Bs,0,none⟩=some (.slice (some ⟨b,off,none⟩) zs.length c):=(World.cell?_of_block (a:=⟨Bs,0,none⟩) (HK.out.2 Bs hBs.1 hBs.2)).trans hc;obtain⟨s,hs⟩: ∃s,s=zs[q]:=⟨_,rfl⟩;have hge:decide (0≤(q:Int))=true:=decide_eq_true (by omega);obtain⟨fn,tmps,assign,body,hy,hR⟩:=hY _ (q,s) wr hJs (by rw[tx];exact hlt);dsimp only at hy;have HU:Hid (upB zs (k+1)=upB zs k++[(q,s)]):=hid (by rw[yP,hq,hs,List.getElem?_eq_getElem hql];rfl);rw[←hs]at hcx;clear hx hs hJs
   gi_wp2
   refine hR.mono ?_;rintro e W3 (⟨rfl,hJ3,hk3⟩|⟨rfl,hJx3⟩)
   ·gi_wp2
    go_roundw
    case rel=>exact⟨k+1,(q:Int) - 1,by omega,hid (by have:=HP.out;omega),by first|rfl|go_num,by rw[HU.out];exact hJ3,hid (HK.out.trans hk3)⟩
    case measure=>simp[intOf]
   ·gi_wp2
    refine bodyPost_ret (results_none rfl _ _ _) rfl ?_;exact⟨⟨_,rfl⟩,.inr ⟨_,⟨k+1,by omega,HU.out.symm⟩,hJx3⟩⟩
  ·obtain rfl:k=zs.length:=by omega
   have hge:decide (0≤P)=false:=decide_eq_false (by have:=HP.out;omega)
   gi_wp2
   go_end0
   exact⟨⟨_,rfl⟩,.inl ⟨_,rfl,hJs⟩⟩
theorem tm (F:Fence)(n:Nat)(hf:F.fn 181)(hro:F.round=none)(hn:1≤n)(Bs bx m:Nat)(S:Nat→Prop)(A:Option Addr)(c:Nat)(zs:List ByteArray)(hlen:zs.length≤9223372036854775807)(hBs:Bs<m∧Bs≠bx)(hS: ∀b,S b→b<m∧b≠bx)(w:World)(hm:m≤w.heap.size)(hc:w.cell? ⟨Bs,0,none⟩=some (.slice A zs.length c))(hst:ai w S A zs):
  SeqStopsK F n Tryz.prog 181 #[.pointer (some ⟨Bs,0,none⟩)] (fun x:Nat×ByteArray=> #[Value.int .i64 (x.1:Int),Value.string x.2]) (KpB bx m) (fun ys=>ys=upB zs zs.length) (fun pre=> ∃k,k≤zs.length∧pre=upB zs k) zs.length w:=fun l J Jx W hW _ _ hY h0=>
 zL F n hf hro hn l Bs bx m S A c zs hlen hBs hS J Jx hY W ((hW.cell (p:=⟨Bs,0,none⟩) (Nat.lt_of_lt_of_le hBs.1 hm)).trans hc) (hst.keep fun b hb=>hW.block b (Nat.lt_of_lt_of_le (hS b hb).1 hm)) h0
theorem At (F:Fence)(n:Nat)(hf:F.fn 175)(hro:F.round=none)(a:Option Addr)(len cap:Nat)(w:World):
  CallsIn F n Tryz.prog 175 #[.slice a len cap] w fun e w'=>e= .returned (.func (.func 181) #[] #[.pointer (some ⟨w.heap.size,0,none⟩)])∧w'=w.alloc (.cells #[.slice a len cap] 23):=by
 refine callsIn_of_wp Tryz.func175 rfl hf ?_ hro;simp only[Tryz.ntmps175,List.size_toArray,List.length_cons,List.length_nil,Nat.reduceAdd,Nat.reduceSub,Array.replicate_succ,Array.replicate_zero,List.push_toArray,List.append_toArray,List.nil_append,List.cons_append]
 gi_wp2
 go_ret;exact⟨rfl,rfl⟩
end Go.Proofs.YtgbopnlpaabelaaGreatDoor
/- A value within documents: the program's nest. -/
namespace Go.Proofs.YtgbopnlpaabelaaGreatDoor
open Lib (hid)
open Go.RowKit Go.Shelf
attribute [local go_sem] Oper.semAt_some
def isC (w:World)(b:Nat):Prop:= ∃C ty fz,w.heap[b]? =some (.cells C ty fz)
theorem uD {w:World}{B:Nat}{e:TypeId}{size n c:Nat}{A:Option Addr}{xs:List Value}(h:w.ownsRow B e size (.slice A n c) n xs): ∀a,A=some a→isC w a.block:=by
 intro a ha;rcases h.2 with ⟨h2,-⟩|⟨g,cap,cur,hv,-,hh,-⟩
 ·injection h2 with e1
  rw[ha]at e1;cases e1
 ·injection hv with e1
  rw[ha]at e1;injection e1 with e1
  subst e1;exact⟨_,_,_,hh⟩
mutual
theorem OV.cells {w:World}: ∀ {F:Nat→Prop} {t:VT} {v:Value},OV w F t v→OV w (fun b=>F b∧isC w b) t v
 |F,.mk k i s l ns,v,h=>by
  unfold OV at h ⊢;obtain⟨A,c,A',c',xs,h0,h1,h2,h3,h4,h5,h6,h7,h8,h9,h10,h11,h12⟩:=h;exact⟨A,c,A',c',xs,h0,h1,h2,h3,h4,h5,h6,h7,h8,fun a ha=>⟨h9 a ha,uD h7 a ha⟩,fun a ha=>⟨h10 a ha,uD h8 a ha⟩,h11,(OVs.cells h12).imp fun b hb=>⟨⟨hb.1.1,hb.2⟩,hb.1.2⟩⟩
theorem OVs.cells {w:World}: ∀ {F:Nat→Prop} {l:List VT} {xs:List Value},OVs w F l xs→OVs w (fun b=>F b∧isC w b) l xs
 |F,[],xs,h=>by unfold OVs at h ⊢;exact h
 |F,t::r,xs,h=>by
  unfold OVs at h ⊢;obtain⟨c0,c1,c2,c3,c4,ys,F1,F2,h0,h1,h2,h3,h4,h5⟩:=h;exact⟨c0,c1,c2,c3,c4,ys,_,_,h0,OV.cells h1,OVs.cells h2,fun b hb=>⟨h3 b hb.1,hb.2⟩,fun b hb=>⟨h4 b hb.1,hb.2⟩,fun b x y=>h5 b x.1 y.1⟩
end
def lX (s:ByteArray)(x:VT):VT:= .mk 7 0 ⟨#[]⟩ [x] [s]
def al (p:List ByteArray)(x:VT):VT:=p.foldr lX x
def aB (pre:List (Nat×ByteArray))(x:VT):VT:=pre.foldl (fun y q=>lX q.2 y) x
theorem tS (pre:List (Nat×ByteArray))(q:Nat×ByteArray)(x:VT):aB (pre++[q]) x=lX q.2 (aB pre x):=by simp[aB]
theorem uV (zs:List ByteArray):(upB zs zs.length).map Prod.snd=zs.reverse:=by
 apply List.ext_getElem
 ·simp[upB]
 ·intro i h1 h2;simp only[List.length_reverse]at h2;simp only[upB,List.getElem_map,List.getElem_range,List.getElem_reverse];rw[List.getElem?_eq_getElem (by omega)];rfl
theorem vZ (zs:List ByteArray)(x:VT):aB (upB zs zs.length) x=al zs x:=by
 have h: ∀(l:List (Nat×ByteArray)) (y:VT),aB l y=(l.map Prod.snd).foldl (fun y s=>lX s y) y:=by
  intro l
  induction l with
  |nil=>intro y;rfl
  |cons a r ih=>intro y;exact ih _
 rw[h,uV,al,←List.foldr_reverse,List.reverse_reverse]
theorem AO {w:World}{F:Nat→Prop}{x:VT}{c0 c1 c2 c3 c4:Value}{s:ByteArray}{g1 g2:Nat}(h:OV w F x (.agg #[c0,c1,c2,c3,c4]))(hs:s.size≤140737488351232)(h1:w.heap[g1]? =some (.cells #[.string s] 9 (0,0)))(h2:w.heap[g2]? =some (.cells #[c0,c1,c2,c3,c4] 25 (0,0)))
  (hF1: ¬F g1) (hF2: ¬F g2) (hne:g2≠g1):
  OV w (fun b=>F b∨b=g1∨b=g2) (lX s x) (.agg #[.int .i64 7,.int .i64 0,.string ⟨#[]⟩,.slice (some ⟨g2,0,none⟩) 1 1,.slice (some ⟨g1,0,none⟩) 1 1]):=by
 refine OV.mk (l:=[x]) (ns:=[s]) (xs:=[c0,c1,c2,c3,c4]) (by unfold Rng;omega) (by unfold Rng;omega) (by decide) (by simp) (by simp) (fun y hy=>by simp at hy;subst hy;exact hs) ?_ ?_ (fun a ha=>by cases ha;exact .inr (.inl rfl)) (fun a ha=>by cases ha;exact .inr (.inr rfl)) (fun a a' ha ha'=>by cases ha;cases ha';exact hne) ?_
 ·exact⟨rfl,.inr ⟨g1,1,_,rfl,Nat.zero_le _,h1,Nat.le_refl _,by unfold maxLen;omega,rfl,rfl⟩⟩
 ·exact⟨rfl,.inr ⟨g2,1,_,rfl,Nat.zero_le _,h2,Nat.le_refl _,by unfold maxLen;omega,rfl,rfl⟩⟩
 ·unfold OVs;exact⟨c0,c1,c2,c3,c4,[],F,fun _=>False,rfl,h,jG _ _,fun b hb=>⟨.inl hb,fun a ha=>by cases ha;exact fun e=>hF2 ((show g2=b from e)▸hb),fun a ha=>by cases ha;exact fun e=>hF1 ((show g1=b from e)▸hb)⟩,fun _ h=>h.elim,fun _ _ h=>h⟩
def zN (pre:List (Nat×ByteArray)):Prop:= ∀q∈pre,q.2.size≤140737488351232
def uT (w:World)(Fx:Nat→Prop)(x:VT)(pre:List (Nat×ByteArray))(W:World):Prop:=
 (∃(A:Option Addr) (c:Nat) (A':Option Addr) (c':Nat) (F:Nat→Prop),Box W w.heap.size (.int .i64 (aB pre x).kind) (.int .i64 (aB pre x).num) (.string (aB pre x).text) (.slice A (aB pre x).items.length c) (.slice A' (aB pre x).names.length c')∧
  (zN pre→OV W F (aB pre x) (.agg #[.int .i64 (aB pre x).kind,.int .i64 (aB pre x).num,.string (aB pre x).text,.slice A (aB pre x).items.length c,.slice A' (aB pre x).names.length c']))∧
  (∀b,F b→isC W b∧(Fx b∨w.heap.size+3≤b)))∧
 Box W (w.heap.size+1) (.int .i64 0) (.int .i64 0) (.string ⟨#[]⟩) (.slice none 0 0) (.slice none 0 0)∧w.heap.size+3≤W.heap.size∧Below w.heap.size w W
theorem vM (w:World)(Fx:Nat→Prop)(x:VT)(B:Nat)(hB:w.heap.size≤B):OwnFrom B (uT w Fx x):=by
 rintro pre W W' row ⟨⟨A,c,A',c',F,h1,h2,h3⟩,h4,h5,h6⟩ hg hr;have hk: ∀ {k:Nat} {o:Obj},W.heap[k]? =some o→o.isCells=true→W'.heap[k]? =W.heap[k]? :=fun hk hc=>grownBy_keeps_cells hg (fun r e=>(hr r e).2) hk hc
 have hkF: ∀b,F b→W'.heap[b]? =W.heap[b]? :=fun b hb=>by
  obtain⟨⟨C,ty,fz,hC⟩,-⟩:=h3 b hb;exact hk hC rfl
 refine⟨⟨A,c,A',c',F,(hk h1 rfl).trans h1,fun hp=>(h2 hp).keep hkF,fun b hb=>⟨?_,(h3 b hb).2⟩⟩,(hk h4 rfl).trans h4,Nat.le_trans h5 hg.size,h6.grown hg h6.size (fun k e=>Nat.le_trans hB (hr k e).1)⟩;obtain⟨⟨C,ty,fz,hC⟩,-⟩:=h3 b hb;exact⟨C,ty,fz,(hk hC rfl).trans hC⟩
theorem ta {w W:World}{Fx:Nat→Prop}{x:VT}{pre:List (Nat×ByteArray)}{q:Nat×ByteArray}(hFx: ∀b,Fx b→b<w.heap.size){A:Option Addr}{c:Nat}{A':Option Addr}{c':Nat}{F:Nat→Prop}
  (h1:Box W w.heap.size (.int .i64 (aB pre x).kind) (.int .i64 (aB pre x).num) (.string (aB pre x).text) (.slice A (aB pre x).items.length c) (.slice A' (aB pre x).names.length c'))
  (h2:zN pre→OV W F (aB pre x) (.agg #[.int .i64 (aB pre x).kind,.int .i64 (aB pre x).num,.string (aB pre x).text,.slice A (aB pre x).items.length c,.slice A' (aB pre x).names.length c']))
  (h3: ∀b,F b→isC W b∧(Fx b∨w.heap.size+3≤b)) (h4:Box W (w.heap.size+1) (.int .i64 0) (.int .i64 0) (.string ⟨#[]⟩) (.slice none 0 0) (.slice none 0 0)) (h5:w.heap.size+3≤W.heap.size) (h6:Below w.heap.size w W):
  KeepsOthers W (((cH W w.heap.size 0 (.int .i64 7) (.int .i64 0) (.string ⟨#[]⟩) (.slice (some ⟨W.heap.size+1,0,none⟩) 1 1) (.slice (some ⟨W.heap.size,0,none⟩) 1 1)).alloc (.cells #[.string q.2] 9)).alloc (.cells #[.int .i64 (aB pre x).kind,.int .i64 (aB pre x).num,.string (aB pre x).text,.slice A (aB pre x).items.length c,.slice A' (aB pre x).names.length c'] 25))∧
  KpB w.heap.size (w.heap.size+3) W (((cH W w.heap.size 0 (.int .i64 7) (.int .i64 0) (.string ⟨#[]⟩) (.slice (some ⟨W.heap.size+1,0,none⟩) 1 1) (.slice (some ⟨W.heap.size,0,none⟩) 1 1)).alloc (.cells #[.string q.2] 9)).alloc (.cells #[.int .i64 (aB pre x).kind,.int .i64 (aB pre x).num,.string (aB pre x).text,.slice A (aB pre x).items.length c,.slice A' (aB pre x).names.length c'] 25))∧
  uT w Fx x (pre++[q]) (((cH W w.heap.size 0 (.int .i64 7) (.int .i64 0) (.string ⟨#[]⟩) (.slice (some ⟨W.heap.size+1,0,none⟩) 1 1) (.slice (some ⟨W.heap.size,0,none⟩) 1 1)).alloc (.cells #[.string q.2] 9)).alloc (.cells #[.int .i64 (aB pre x).kind,.int .i64 (aB pre x).num,.string (aB pre x).text,.slice A (aB pre x).items.length c,.slice A' (aB pre x).names.length c'] 25)):=by
 have hbox:=aZ (c0:= .int .i64 7) (c1:= .int .i64 0) (c2:= .string ⟨#[]⟩) (c3:= .slice (some ⟨W.heap.size+1,0,none⟩) 1 1) (c4:= .slice (some ⟨W.heap.size,0,none⟩) 1 1) h1;have ho:=bE W w.heap.size 0 (.int .i64 7) (.int .i64 0) (.string ⟨#[]⟩) (.slice (some ⟨W.heap.size+1,0,none⟩) 1 1) (.slice (some ⟨W.heap.size,0,none⟩) 1 1);have hz:=bQ W w.heap.size 0 (.int .i64 7) (.int .i64 0) (.string ⟨#[]⟩) (.slice (some ⟨W.heap.size+1,0,none⟩) 1 1) (.slice (some ⟨W.heap.size,0,none⟩) 1 1);have hr:=cv W w.heap.size 0 (.int .i64 7) (.int .i64 0) (.string ⟨#[]⟩) (.slice (some ⟨W.heap.size+1,0,none⟩) 1 1) (.slice (some ⟨W.heap.size,0,none⟩) 1 1)
 have hko:KeepsOthers W (cH W w.heap.size 0 (.int .i64 7) (.int .i64 0) (.string ⟨#[]⟩) (.slice (some ⟨W.heap.size+1,0,none⟩) 1 1) (.slice (some ⟨W.heap.size,0,none⟩) 1 1)):=
  ((((KeepsOthers.setCell _ _ _).trans (KeepsOthers.setCell _ _ _)).trans (KeepsOthers.setCell _ _ _)).trans (KeepsOthers.setCell _ _ _)).trans (KeepsOthers.setCell _ _ _)
 generalize cH W w.heap.size 0 (.int .i64 7) (.int .i64 0) (.string ⟨#[]⟩) (.slice (some ⟨W.heap.size+1,0,none⟩) 1 1) (.slice (some ⟨W.heap.size,0,none⟩) 1 1)=W1 at *;have hz1:(W1.alloc (.cells #[.string q.2] 9)).heap.size=W.heap.size+1:=by simp[hz]
 have hb:Below W.heap.size W1 ((W1.alloc (.cells #[.string q.2] 9)).alloc (.cells #[.int .i64 (aB pre x).kind,.int .i64 (aB pre x).num,.string (aB pre x).text,.slice A (aB pre x).items.length c,.slice A' (aB pre x).names.length c'] 25)):=((Below.refl _ _).alloc (by omega) _).alloc (by omega) _;have hn1:((W1.alloc (.cells #[.string q.2] 9)).alloc (.cells #[.int .i64 (aB pre x).kind,.int .i64 (aB pre x).num,.string (aB pre x).text,.slice A (aB pre x).items.length c,.slice A' (aB pre x).names.length c'] 25)).heap[W.heap.size]? =some (.cells #[.string q.2] 9 (0,0)):=(Below.heap_alloc _ _ _ (by omega)).trans (by rw[←hz];exact heap_alloc_new _ _)
 have hn2:((W1.alloc (.cells #[.string q.2] 9)).alloc (.cells #[.int .i64 (aB pre x).kind,.int .i64 (aB pre x).num,.string (aB pre x).text,.slice A (aB pre x).items.length c,.slice A' (aB pre x).names.length c'] 25)).heap[W.heap.size+1]? =some (.cells #[.int .i64 (aB pre x).kind,.int .i64 (aB pre x).num,.string (aB pre x).text,.slice A (aB pre x).items.length c,.slice A' (aB pre x).names.length c'] 25 (0,0)):=by
  rw[←hz1];exact heap_alloc_new _ _
 have hz2:((W1.alloc (.cells #[.string q.2] 9)).alloc (.cells #[.int .i64 (aB pre x).kind,.int .i64 (aB pre x).num,.string (aB pre x).text,.slice A (aB pre x).items.length c,.slice A' (aB pre x).names.length c'] 25)).heap.size=W.heap.size+2:=by simp[hz]
 have hko2:KeepsOthers W ((W1.alloc (.cells #[.string q.2] 9)).alloc (.cells #[.int .i64 (aB pre x).kind,.int .i64 (aB pre x).num,.string (aB pre x).text,.slice A (aB pre x).items.length c,.slice A' (aB pre x).names.length c'] 25)):=(hko.trans (KeepsOthers.alloc _ _)).trans (KeepsOthers.alloc _ _);generalize (W1.alloc (.cells #[.string q.2] 9)).alloc (.cells #[.int .i64 (aB pre x).kind,.int .i64 (aB pre x).num,.string (aB pre x).text,.slice A (aB pre x).items.length c,.slice A' (aB pre x).names.length c'] 25)=W3 at *
 have hlt: ∀b,F b→b<W.heap.size:=fun b hb'=>by
  obtain⟨⟨C,ty,fz,hC⟩,-⟩:=h3 b hb';exact(Array.getElem?_eq_some_iff.1 hC).1
 have hnb: ∀b,F b→b≠w.heap.size:=fun b hb' e=>by
  rcases(h3 b hb').2 with h|h
  ·have:=hFx b h;omega
  ·omega
 have hall: ∀b,b<W.heap.size→b≠w.heap.size→W3.heap[b]? =W.heap[b]? :=fun b hb' hne=>(hb.block b hb').trans (ho b hne);have hkF: ∀b,F b→W3.heap[b]? =W.heap[b]? :=fun b hb'=>hall b (hlt b hb') (hnb b hb');refine⟨hko2,⟨by omega,fun b hb' hne=>hall b (by omega) hne⟩,⟨?_,(hall _ (by omega) (by omega)).trans h4,by omega,⟨hb.os.trans (hr.1.trans h6.os),hb.tape.trans (hr.2.1.trans h6.tape),hb.output.trans (hr.2.2.trans h6.output),by have:=h6.size;omega,fun b hb'=>(hall b (by omega) (by omega)).trans (h6.block b hb')⟩⟩⟩;rw[tS];refine⟨some ⟨W.heap.size+1,0,none⟩,1,some ⟨W.heap.size,0,none⟩,1,fun b=>F b∨b=W.heap.size∨b=W.heap.size+1,(hb.block _ (by omega)).trans hbox,fun hp=> ?_,?_⟩
 ·exact AO (s:=q.2) (g1:=W.heap.size) (g2:=W.heap.size+1) ((h2 fun y hy=>hp y (List.mem_append.2 (.inl hy))).keep hkF) (hp q (List.mem_append.2 (.inr (List.mem_singleton.2 rfl)))) hn1 hn2 (fun e=>by have:=hlt _ e;omega) (fun e=>by have:=hlt _ e;omega) (by omega)
 rintro b (hb'|rfl|rfl)
 ·obtain⟨⟨C,ty,fz,hC⟩,hx⟩:=h3 b hb';exact⟨⟨C,ty,fz,(hkF b hb').trans hC⟩,hx⟩
 ·exact⟨⟨_,_,_,hn1⟩,.inr (by omega)⟩
 ·exact⟨⟨_,_,_,hn2⟩,.inr (by omega)⟩
theorem mC (S Fx:Nat→Prop)(x:VT)(A0:Option Addr)(c0:Nat)(A0':Option Addr)(c0':Nat)(A:Option Addr)(c:Nat)(p:List ByteArray)(w:World)(hS: ∀b,S b→b<w.heap.size)(hFx: ∀b,Fx b→b<w.heap.size)
  (hx:OV w Fx x (.agg #[.int .i64 x.kind,.int .i64 x.num,.string x.text,.slice A0 x.items.length c0,.slice A0' x.names.length c0'])) (hp:ai w S A p) (hn:p.length≤9223372036854775807) (hsz: ∀s∈p,s.size≤140737488351232):
  Calls Tryz.prog 160 #[.slice A p.length c,.agg #[.int .i64 x.kind,.int .i64 x.num,.string x.text,.slice A0 x.items.length c0,.slice A0' x.names.length c0']] w fun e w'=> ∃v F',e= .returned v∧OV w' F' (al p x) v∧(∀b,F' b→b<w'.heap.size∧(Fx b∨w.heap.size≤b))∧Below w.heap.size w w':=by
 have hB1:Below w.heap.size w (w.alloc (.cells #[.int .i64 x.kind,.int .i64 x.num,.string x.text,.slice A0 x.items.length c0,.slice A0' x.names.length c0'] 25)):=ae _;have hX1:Box (w.alloc (.cells #[.int .i64 x.kind,.int .i64 x.num,.string x.text,.slice A0 x.items.length c0,.slice A0' x.names.length c0'] 25)) w.heap.size _ _ _ _ _:=Box.new (w:=w) (.int .i64 x.kind) (.int .i64 x.num) (.string x.text) (.slice A0 x.items.length c0) (.slice A0' x.names.length c0');refine(callsIn_wide (n:=8)).1 ?_;refine callsIn_of_wp_marks Tryz.func160 rfl trivial ?_ rfl;simp only[Tryz.ntmps160,List.size_toArray,List.length_cons,List.length_nil,Nat.reduceAdd,Nat.reduceSub,Array.replicate_succ,Array.replicate_zero,List.push_toArray,List.append_toArray,List.nil_append,List.cons_append]
 gi_wp2
 refine⟨trivial,?_⟩;refine(At Fence.wide 7 trivial rfl _ _ _ _).mono ?_;rintro e w' ⟨rfl,rfl⟩
 gi_wp2
 have hz1:(w.alloc (.cells #[.int .i64 x.kind,.int .i64 x.num,.string x.text,.slice A0 x.items.length c0,.slice A0' x.names.length c0'] 25)).heap.size=w.heap.size+1:=by simp
 generalize w.alloc (.cells #[.int .i64 x.kind,.int .i64 x.num,.string x.text,.slice A0 x.items.length c0,.slice A0' x.names.length c0'] 25)=w1 at *
 have hR2:Box (w1.alloc (.cells #[.int .i64 0,.int .i64 0,.string ⟨#[]⟩,.slice none 0 0,.slice none 0 0] 25)) (w.heap.size+1) (.int .i64 0) (.int .i64 0) (.string ⟨#[]⟩) (.slice none 0 0) (.slice none 0 0):=by
  have h:=Box.new (w:=w1) (.int .i64 0) (.int .i64 0) (.string ⟨#[]⟩) (.slice none 0 0) (.slice none 0 0);rw[hz1]at h;exact h
 have hX2:=hX1.alloc (.cells #[.int .i64 0,.int .i64 0,.string ⟨#[]⟩,.slice none 0 0,.slice none 0 0] 25);have hB2:Below w.heap.size w (w1.alloc (.cells #[.int .i64 0,.int .i64 0,.string ⟨#[]⟩,.slice none 0 0,.slice none 0 0] 25)):=hB1.alloc (by omega) _;have hz2:(w1.alloc (.cells #[.int .i64 0,.int .i64 0,.string ⟨#[]⟩,.slice none 0 0,.slice none 0 0] 25)).heap.size=w.heap.size+2:=by simp[hz1]
 generalize w1.alloc (.cells #[.int .i64 0,.int .i64 0,.string ⟨#[]⟩,.slice none 0 0,.slice none 0 0] 25)=w2 at *;have hR3:=hR2.alloc (.cells #[.slice A p.length c] 23);have hX3:=hX2.alloc (.cells #[.slice A p.length c] 23);have hB3:Below w.heap.size w (w2.alloc (.cells #[.slice A p.length c] 23)):=hB2.alloc (by omega) _;have hz3:(w2.alloc (.cells #[.slice A p.length c] 23)).heap.size=w.heap.size+3:=by simp[hz2]
 have hs3:(w2.alloc (.cells #[.slice A p.length c] 23)).cell? ⟨w.heap.size+2,0,none⟩=some (.slice A p.length c):=by
  have:=Go.Joins.cell_of_block (heap_alloc_new w2 (.cells #[.slice A p.length c] 23)) 0;rw[hz2]at this;exact this
 generalize w2.alloc (.cells #[.slice A p.length c] 23)=w3 at *;have h0:uT w Fx x [] w3:=⟨⟨A0,c0,A0',c0',_,hX3,fun _=>(hx.keep fun b hb=>hB3.block b (hFx b hb)).cells,fun b hb=>⟨hb.2,.inl hb.1⟩⟩,hR3,by omega,hB3⟩;have hst3:=hp.keep (w':=w3) fun b hb=>hB3.block b (hS b hb);clear hR2 hX2 hB2 hX1 hB1 hX3 hR3 hx hp
 refine wpIn_rangeFunc_ownF rfl (by omega) (gf:=181) (lb:= #[.pointer (some ⟨w.heap.size+2,0,none⟩)]) rfl trivial (enters_of Tryz.func181 (by kernel_rfl) rfl)
  (tm Fence.wide 7 trivial rfl (by omega) (w.heap.size+2) w.heap.size (w.heap.size+3) S A c p hn ⟨by omega,by omega⟩ (fun b hb=>by have:=hS b hb;omega) w3 (by omega) hs3 hst3) KpB.trans (BA (by omega)) (Below.refl _ _) (fun _=>rfl)
  (uT w Fx x) (fun _ _ _=>False) (vM w Fx x _ (by omega)) (fun _ _ _ _ _ hs _ _=>hs) h0
  (fun q=> { tmps:= #[.slice A p.length c,.agg #[.int .i64 x.kind,.int .i64 x.num,.string x.text,.slice A0 x.items.length c0,.slice A0' x.names.length c0'],undef,.pointer (some ⟨w.heap.size,0,none⟩),.pointer (some ⟨w.heap.size+1,0,none⟩),undef,.string q.2,.slice A p.length c,.func (.func 181) #[] #[.pointer (some ⟨w.heap.size+1+1,0,none⟩)],.int .i64 (q.1:Int),.string q.2,undef,undef,undef,undef,undef,undef],defers:=[] }) ?assign ?body ?done ?stop
 case assign=>
  intro l q W K hK
  gi_wp2
  exact hK
 case body=>
  rintro l pre q W ⟨⟨B,k,B',k',F,i1,i2,i3⟩,i4,i5,i6⟩ hlen;have y0:=i1.c0;have y1:=i1.c1;have y2:=i1.c2;have y3:=i1.c3;have y4:=i1.c4;have yf:=fun i=>i1.free i;have hlt:=i1.lt;have j1:=i1.alloc (.cells #[.string q.2] 9);have z0:=j1.c0;have z1:=j1.c1;have z2:=j1.c2;have z3:=j1.c3;have z4:=j1.c4;have k1:=j1.alloc (.cells #[.int .i64 (aB pre x).kind,.int .i64 (aB pre x).num,.string (aB pre x).text,.slice B (aB pre x).items.length k,.slice B' (aB pre x).names.length k'] 25);have u0:=k1.c0;have u1:=k1.c1;have u2:=k1.c2;have u3:=k1.c3;have u4:=k1.c4;have uf:=fun i=>k1.free i;have HN:=hid (ta (q:=q) hFx i1 i2 i3 i4 i5 i6);clear i1 i2 i3 i4 i6 j1 k1
  gi_wp2
  exact HN.out
 case done=>
  rintro D ys W hD rfl ⟨⟨B,k,B',k',F,i1,i2,i3⟩,i4,i5,i6⟩ hK
  have hgood:zN (upB p p.length):=by
   intro q hq;have h1:q.2∈(upB p p.length).map Prod.snd:=List.mem_map.2 ⟨q,hq,rfl⟩;rw[uV]at h1;exact hsz _ (List.mem_reverse.1 h1)
  have hv:=i2 hgood;rw[vZ]at i1 hv;have HB:=hid (aZ (c0:= .int .i64 (al p x).kind) (c1:= .int .i64 (al p x).num) (c2:= .string (al p x).text) (c3:= .slice B (al p x).items.length k) (c4:= .slice B' (al p x).names.length k') i4);have y0:=i1.c0;have y1:=i1.c1;have y2:=i1.c2;have y3:=i1.c3;have y4:=i1.c4;have r0:=i4.c0;have r1:=i4.c1;have r2:=i4.c2;have r3:=i4.c3;have r4:=i4.c4;have rf:=fun i=>i4.free i;have HV:=hid (And.intro hv (And.intro i3 i6));have hDl:D<W.heap.size:=(Array.getElem?_eq_some_iff.1 hK).1;have HKD:=hid hK;clear i1 i2 i3 i4 i6 hv hK hgood
  gi_wp2
  change bodyPostM Fence.wide 8 Tryz.prog Tryz.f160 _ Exit.ret _ (cH W (w.heap.size+1) 0 (.int .i64 (al p x).kind) (.int .i64 (al p x).num) (.string (al p x).text) (.slice B (al p x).items.length k) (.slice B' (al p x).names.length k'));obtain⟨hv,i3,i6⟩:=HV.out;have ho:=bE W (w.heap.size+1) 0 (.int .i64 (al p x).kind) (.int .i64 (al p x).num) (.string (al p x).text) (.slice B (al p x).items.length k) (.slice B' (al p x).names.length k');have hz:=bQ W (w.heap.size+1) 0 (.int .i64 (al p x).kind) (.int .i64 (al p x).num) (.string (al p x).text) (.slice B (al p x).items.length k) (.slice B' (al p x).names.length k');have hr:=cv W (w.heap.size+1) 0 (.int .i64 (al p x).kind) (.int .i64 (al p x).num) (.string (al p x).text) (.slice B (al p x).items.length k) (.slice B' (al p x).names.length k');have hbox:=HB.out;generalize cH W (w.heap.size+1) 0 (.int .i64 (al p x).kind) (.int .i64 (al p x).num) (.string (al p x).text) (.slice B (al p x).items.length k) (.slice B' (al p x).names.length k')=W5 at *;have hK5:W5.heap[D]? =some (.deferred (some [])):=(ho D (by omega)).trans HKD.out;have hg6:=grownBy_putObj' W5 D (.deferred none);have ho6: ∀b,b<W5.heap.size→b≠D→(W5.putObj D (.deferred none)).heap[b]? =W5.heap[b]? :=fun b hb hne=>hg6.block b hb (fun e=>hne (by injection e));have hbox6:Box (W5.putObj D (.deferred none)) (w.heap.size+1) _ _ _ _ _:=(ho6 _ (by omega) (by omega)).trans hbox
  have hlt: ∀b,F b→b<W.heap.size:=fun b hb'=>by
   obtain⟨⟨C,ty,fz,hC⟩,-⟩:=i3 b hb';exact(Array.getElem?_eq_some_iff.1 hC).1
  have hnD: ∀b,F b→b≠D:=fun b hb' e=>by
   obtain⟨⟨C,ty,fz,hC⟩,-⟩:=i3 b hb';subst e;rw[HKD.out]at hC;cases hC
  refine⟨by simp,.inl ⟨_,_,rfl,run_takeDeferred hK5,?_⟩⟩;refine⟨_,results_cell_row rfl _ _ (w.heap.size+1) 25 _ (0,0) _ rfl hbox6 Tryz.underlying25 rfl (by kernel_rfl),_,F,rfl,hv.keep fun b hb=>(ho6 b (by rw[hz];exact hlt b hb) (hnD b hb)).trans (ho b fun e=> ?_),fun b hb=>⟨Nat.lt_of_lt_of_le (hlt b hb) (by rw[←hz];exact hg6.size),(i3 b hb).2.imp id fun h=>by omega⟩,?_⟩
  ·rcases(i3 b hb).2 with h|h
   ·have:=hFx b h;omega
   ·omega
  ·exact⟨hg6.os.trans (hr.1.trans i6.os),hg6.tape.trans (hr.2.1.trans i6.tape),hg6.output.trans (hr.2.2.trans i6.output),Nat.le_trans i6.size (by rw[←hz];exact hg6.size),fun b hb=>(ho6 b (by have:=i6.size;omega) (by omega)).trans ((ho b (by omega)).trans (i6.block b hb))⟩
 case stop=>
  rintro D c' pre W _ _ h _;exact h.elim
end Go.Proofs.YtgbopnlpaabelaaGreatDoor
/- A name, or an item, put behind the others. -/
namespace Go.Proofs.YtgbopnlpaabelaaGreatDoor
open Go.RowKit
mutual
def aR (K:Nat):VT→Bool
 | .mk _ _ _ l ns=>decide (l.length≤K) && (decide (ns.length≤K) && lq K l)
def lq (K:Nat):List VT→Bool
 | []=>true
 |t::r=>aR K t && lq K r
end
theorem oM {K:Nat}: ∀ {l:List VT},lq K l=true↔ ∀x∈l,aR K x=true
 | []=>by simp[lq]
 |t::r=>by rw[lq,Bool.and_eq_true,oM];simp
theorem bj {K:Nat}(t:VT):aR K t=true↔t.items.length≤K∧t.names.length≤K∧ ∀x∈t.items,aR K x=true:=by
 cases t with
 |mk k i s l ns=>rw[aR,Bool.and_eq_true,Bool.and_eq_true,oM,decide_eq_true_eq,decide_eq_true_eq];rfl
mutual
theorem bR {K K':Nat}(h:K≤K'): ∀t:VT,aR K t=true→aR K' t=true
 | .mk k i s l ns,h1=>by
  rw[aR,Bool.and_eq_true,Bool.and_eq_true,decide_eq_true_eq,decide_eq_true_eq]at h1 ⊢;exact⟨by omega,by omega,mT h l h1.2.2⟩
theorem mT {K K':Nat}(h:K≤K'): ∀l:List VT,lq K l=true→lq K' l=true
 | [],_=>rfl
 |t::r,h1=>by
  rw[lq,Bool.and_eq_true]at h1 ⊢;exact⟨bR h t h1.1,mT h r h1.2⟩
end
def eC (t:VT):Prop:=aR 10000 t=true
theorem eC.lens {t:VT}(h:eC t):t.items.length≤10000∧t.names.length≤10000:=⟨((bj t).1 h).1,((bj t).1 h).2.1⟩
theorem eC.item (t:VT)(j:Nat)(hj:j<t.items.length)(h:eC t):eC t.items[j]:=((bj t).1 h).2.2 _ (List.getElem_mem hj)
def gp :VT→ByteArray→VT
 | .mk k i s l ns,x=> .mk k i s l (ns++[x])
def eW :VT→VT→VT
 | .mk k i s l ns,x=> .mk k i s (l++[x]) ns
theorem OVs.snoc {w:World}: ∀ {l:List VT} {F F2:Nat→Prop} {xs:List Value} {y:VT} {c0 c1 c2 c3 c4:Value},OVs w F l xs→OV w F2 y (.agg #[c0,c1,c2,c3,c4])→(∀b,F b→F2 b→False)→OVs w (fun b=>F b∨F2 b) (l++[y]) (xs++[c0,c1,c2,c3,c4])
 | [],F,F2,xs,y,c0,c1,c2,c3,c4,h,h2,hd=>by
  unfold OVs at h;subst h;show OVs w _ [y] _;unfold OVs
  exact⟨c0,c1,c2,c3,c4,[],F2,fun _=>False,rfl,h2,jG _ _,fun b hb=> .inr hb,fun _ h=>h.elim,fun _ _ h=>h⟩
 |t::r,F,F2,xs,y,c0,c1,c2,c3,c4,h,h2,hd=>by
  unfold OVs at h;obtain⟨d0,d1,d2,d3,d4,ys,F3,F4,rfl,k1,k2,k3,k4,k5⟩:=h;have:=OVs.snoc k2 h2 (fun b hb=>hd b (k4 b hb));show OVs w _ (t::(r++[y])) (d0::d1::d2::d3::d4::(ys++[c0,c1,c2,c3,c4]));unfold OVs;exact⟨d0,d1,d2,d3,d4,_,F3,_,rfl,k1,this,fun b hb=> .inl (k3 b hb),fun b hb=>hb.imp (k4 b) id,fun b x z=>z.elim (k5 b x) (fun z=>hd b (k3 b x) z)⟩
theorem pD {w:World}{B:Nat}{e:TypeId}{size n c:Nat}{A:Option Addr}{xs:List Value}(h:w.ownsRow B e size (.slice A n c) n xs): ∀a,A=some a→a=⟨a.block,0,none⟩:=by
 intro a ha;rcases h.2 with ⟨h2,-⟩|⟨g,cap,cur,hv,-⟩
 ·injection h2 with e1;rw[ha]at e1;cases e1
 ·injection hv with e1;rw[ha]at e1;injection e1 with e1;rw[e1]
theorem Own.trans {F F' F'':Nat→Prop}{a b:World}(h:Own F a F')(k:Own F' b F'')(hs:a.heap.size≤b.heap.size):Own F a F'':=fun x hx=>(k x hx).elim (h x) fun h=> .inr (by omega)
theorem Mut.trans {F F':Nat→Prop}{g o:Nat}{a b c:World}(h:Mut F g o a b)(ho:Own F a F')(k:Mut F' g o b c):Mut F g o a c:=by
 obtain⟨h1,h2,h3,h4,h5,h6⟩:=h;obtain⟨k1,k2,k3,k4,k5,k6⟩:=k;refine⟨Nat.le_trans h1 k1,fun x hx hF hne=>(k2 x (by omega) (fun e=>(ho x e).elim hF (fun e=>by omega)) hne).trans (h2 x hx hF hne),fun C ty fz hC=> ?_,k4.trans h4,k5.trans h5,k6.trans h6⟩;obtain⟨C1,e1,e2,e3⟩:=h3 C ty fz hC;obtain⟨C2,f1,f2,f3⟩:=k3 C1 ty fz e1;exact⟨C2,f1,f2.trans e2,fun i hi=>(f3 i hi).trans (e3 i hi)⟩
theorem Mut.below {F:Nat→Prop}{g o:Nat}{a b:World}(h:Below a.heap.size a b)(hg:g<a.heap.size):Mut F g o a b:=
 ⟨h.size,fun x hx _ _=>h.block x hx,fun C ty fz hC=>⟨C,(h.block g hg).trans hC,rfl,fun _ _=>rfl⟩,h.os,h.tape,h.output⟩
theorem OAt.addItem {w:World}{F:Nat→Prop}{t:VT}{g o:Nat}(h:OAt w F t g o): ∃(A:Option Addr) (c:Nat) (xs:List Value),w.cell? ⟨g,o+3,none⟩=some (.slice A t.items.length c)∧w.ownsRow 0 25 5 (.slice A t.items.length c) t.items.length xs∧(∀a,A=some a→F a.block∧a.block<w.heap.size∧a.block≠g)∧
  ∀(m:Nat) (W:World) (p cap:Nat) (y:VT) (c0 c1 c2 c3 c4:Value) (Fy:Nat→Prop),m≤w.heap.size→t.items.length<1759218604390→
   (∀C ty,w.heap[g]? =some (.cells C ty (0,0))→W.heap[g]? =some (.cells (C.setIfInBounds (o+3) (.slice (some ⟨p,0,none⟩) (t.items.length+1) cap)) ty (0,0)))→
   W.ownsRow 0 25 5 (.slice (some ⟨p,0,none⟩) (t.items.length+1) cap) (t.items.length+1) (xs++[c0,c1,c2,c3,c4])→
   (A=some ⟨p,0,none⟩∨w.heap.size≤p)→(∀b,b<w.heap.size→b≠g→(∀a,A=some a→a.block≠b)→W.heap[b]? =w.heap[b]?)→
   OV W Fy y (.agg #[c0,c1,c2,c3,c4])→(∀b,Fy b→m≤b∧b<W.heap.size∧b≠p∧ ¬F b∧b≠g)→w.heap.size≤W.heap.size→W.os=w.os→W.tape=w.tape→W.output=w.output→
   ∃F',(∀b,F' b→F b∨m≤b)∧OAt W F' (eW t y) g o∧Mut F g o w W:=by
 obtain⟨C,ty,A,c,A',c',hg,g0,g1,g2,g3,g4,hv,hFg,hlt⟩:=h
 cases t with
 |mk k i s l ns=>
 simp only[VT.kind,VT.num,VT.text,VT.items,VT.names]at *;unfold OV at hv;obtain⟨A1,c1,A1',c1',xs,hag,h1,h2,h3,h4,h5,h6,h7,h8,h9,h10,h11,h12⟩:=hv;injection hag with hag;injection hag with hag
 injection hag with y0 hag;injection hag with y1 hag;injection hag with y2 hag;injection hag with y3 hag;injection hag with y4 hag
 injection y3 with e1 _ e3
 injection y4 with e4 _ e6
 subst e1 e3 e4 e6;have hgs:=(Array.getElem?_eq_some_iff.1 hg).1;refine⟨A,c,xs,(Go.Joins.cell_of_block hg (o+3)).trans g3,h8,fun a ha=>⟨h10 a ha,hlt _ (h10 a ha),fun e=>hFg (e▸h10 a ha)⟩,?_⟩;intro m W p cap y d0 d1 d2 d3 d4 Fy hm hl hW hrow hp hoth hy hFy hsz hos htp hou;have hWg:=hW C ty hg
 have hpW:p<W.heap.size:=by
  rcases hrow.2 with ⟨h,-⟩|⟨q,cap,cur,hv,-,hh,-⟩
  ·cases h
  ·injection hv with e1;injection e1 with e1;injection e1 with e1;subst e1
   exact(Array.getElem?_eq_some_iff.1 hh).1
 have hpF:F p∨w.heap.size≤p:=hp.imp (fun e=>h10 _ e) id
 have hpg:p≠g:=by
  rcases hpF with h|h
  ·exact fun e=>hFg (e▸h)
  ·omega
 have hold: ∀b,Out F A A' b→W.heap[b]? =w.heap[b]? :=fun b hb=>hoth b (hlt b hb.1) (fun e=>hFg (e▸hb.1)) hb.2.1
 have hset:OV W (fun b=>F b∨Fy b∨b=p) (.mk k i s (l++[y]) ns) (.agg #[.int .i64 k,.int .i64 i,.string s,.slice (some ⟨p,0,none⟩) (l++[y]).length cap,.slice A' ns.length c']):=by
  have hln:(l++[y]).length=l.length+1:=by simp
  refine OV.mk h1 h2 h3 (by rw[hln];omega) h5 h6 (cf h7 fun a ha=>hoth _ (hlt _ (h9 a ha)) (fun e=>hFg (e▸h9 a ha)) (fun a' ha'=>h11 a' a ha' ha)) (by rw[hln];exact hrow) (fun a ha=> .inl (h9 a ha)) (fun a ha=>by cases ha;exact .inr (.inr rfl)) (fun a a' ha ha'=> ?_) ?_
  ·cases ha;rcases hp with h|h
   ·exact h11 _ a' h ha'
   ·have:=hlt _ (h9 a' ha');show p≠a'.block;omega
  ·refine(OVs.snoc (h12.keep hold) hy (fun b hb hb'=>(hFy b hb').2.2.2.1 hb.1)).imp ?_;rintro b (hb|hb)
   ·refine⟨.inl hb.1,fun a ha=> ?_,hb.2.2⟩;cases ha;rcases hp with h|h
    ·exact hb.2.1 _ h
    ·have:=hlt b hb.1;show p≠b;omega
   ·have:=hFy b hb;refine⟨.inr (.inl hb),fun a ha=> ?_,fun a ha=> ?_⟩
    ·cases ha;exact fun e=>this.2.2.1 e.symm
    ·exact fun e=>this.2.2.2.1 (e▸h9 a ha)
 refine⟨_,?_,⟨_,ty,some ⟨p,0,none⟩,cap,A',c',hWg,?_,?_,?_,?_,?_,hset,?_,?_⟩,hsz,?_,?_,hos,htp,hou⟩
 ·rintro b (hb|hb|rfl)
  ·exact .inl hb
  ·exact .inr (hFy b hb).1
  ·exact hpF.imp id fun h=>by omega
 ·rw[Array.getElem?_setIfInBounds,if_neg (by omega)];exact g0
 ·rw[Array.getElem?_setIfInBounds,if_neg (by omega)];exact g1
 ·rw[Array.getElem?_setIfInBounds,if_neg (by omega)];exact g2
 ·rw[Array.getElem?_setIfInBounds,if_pos rfl,if_pos (Array.getElem?_eq_some_iff.1 g3).1];show some (Value.slice _ _ _)=some (Value.slice _ (l++[y]).length _);simp
 ·rw[Array.getElem?_setIfInBounds,if_neg (by omega)];exact g4
 ·rintro(hb|hb|hb)
  ·exact hFg hb
  ·exact(hFy _ hb).2.2.2.2 rfl
  ·exact hpg hb.symm
 ·rintro b (hb|hb|rfl)
  ·exact Nat.lt_of_lt_of_le (hlt b hb) hsz
  ·exact(hFy b hb).2.1
  ·exact hpW
 ·intro b hb hnF hne;exact hoth b hb hne (fun a ha e=>hnF (e▸h10 a ha))
 ·intro C2 ty2 fz hC2;have e:=hg.symm.trans hC2;injection e with e
  injection e with e1 e2 e3
  subst e1 e2 e3;exact⟨_,hWg,by simp,fun m hm'=>by rw[Array.getElem?_setIfInBounds,if_neg (by omega)]⟩
theorem OAt.addName {w:World}{F:Nat→Prop}{t:VT}{g o:Nat}(h:OAt w F t g o): ∃(A:Option Addr) (c:Nat),w.cell? ⟨g,o+4,none⟩=some (.slice A t.names.length c)∧w.ownsRow 0 9 1 (.slice A t.names.length c) t.names.length (t.names.map Value.string)∧(∀a,A=some a→F a.block∧a.block<w.heap.size∧a.block≠g)∧
  ∀(W:World) (p cap:Nat) (x:ByteArray),t.names.length<8796093021952→x.size≤140737488351232→
   (∀C ty,w.heap[g]? =some (.cells C ty (0,0))→W.heap[g]? =some (.cells (C.setIfInBounds (o+4) (.slice (some ⟨p,0,none⟩) (t.names.length+1) cap)) ty (0,0)))→
   W.ownsRow 0 9 1 (.slice (some ⟨p,0,none⟩) (t.names.length+1) cap) (t.names.length+1) (t.names.map Value.string++[.string x])→
   (A=some ⟨p,0,none⟩∨w.heap.size≤p)→(∀b,b<w.heap.size→b≠g→(∀a,A=some a→a.block≠b)→W.heap[b]? =w.heap[b]?)→
   w.heap.size≤W.heap.size→W.os=w.os→W.tape=w.tape→W.output=w.output→
   ∃F',Own F w F'∧OAt W F' (gp t x) g o∧Mut F g o w W:=by
 obtain⟨C,ty,A,c,A',c',hg,g0,g1,g2,g3,g4,hv,hFg,hlt⟩:=h
 cases t with
 |mk k i s l ns=>
 simp only[VT.kind,VT.num,VT.text,VT.items,VT.names]at *;unfold OV at hv;obtain⟨A1,c1,A1',c1',xs,hag,h1,h2,h3,h4,h5,h6,h7,h8,h9,h10,h11,h12⟩:=hv;injection hag with hag;injection hag with hag
 injection hag with y0 hag;injection hag with y1 hag;injection hag with y2 hag;injection hag with y3 hag;injection hag with y4 hag
 injection y3 with e1 _ e3
 injection y4 with e4 _ e6
 subst e1 e3 e4 e6;have hgs:=(Array.getElem?_eq_some_iff.1 hg).1;refine⟨A',c',(Go.Joins.cell_of_block hg (o+4)).trans g4,h7,fun a ha=>⟨h9 a ha,hlt _ (h9 a ha),fun e=>hFg (e▸h9 a ha)⟩,?_⟩;intro W p cap x hl hx hW hrow hp hoth hsz hos htp hou;have hWg:=hW C ty hg
 have hpW:p<W.heap.size:=by
  rcases hrow.2 with ⟨h,-⟩|⟨q,cap,cur,hv,-,hh,-⟩
  ·cases h
  ·injection hv with e1;injection e1 with e1;injection e1 with e1;subst e1
   exact(Array.getElem?_eq_some_iff.1 hh).1
 have hpF:F p∨w.heap.size≤p:=hp.imp (fun e=>h9 _ e) id
 have hpg:p≠g:=by
  rcases hpF with h|h
  ·exact fun e=>hFg (e▸h)
  ·omega
 have hold: ∀b,Out F A A' b→W.heap[b]? =w.heap[b]? :=fun b hb=>hoth b (hlt b hb.1) (fun e=>hFg (e▸hb.1)) hb.2.2
 have hset:OV W (fun b=>F b∨b=p) (.mk k i s l (ns++[x])) (.agg #[.int .i64 k,.int .i64 i,.string s,.slice A l.length c,.slice (some ⟨p,0,none⟩) (ns++[x]).length cap]):=by
  have hln:(ns++[x]).length=ns.length+1:=by simp
  refine OV.mk h1 h2 h3 h4 (by rw[hln];omega) (fun y hy=>(List.mem_append.1 hy).elim (h6 y) (fun e=>by rw[List.mem_singleton.1 e];exact hx)) (by rw[hln,List.map_append];exact hrow) (cf h8 fun a ha=>hoth _ (hlt _ (h10 a ha)) (fun e=>hFg (e▸h10 a ha)) (fun a' ha'=>fun e=>h11 a a' ha ha' e.symm)) (fun a ha=>by cases ha;exact .inr rfl) (fun a ha=> .inl (h10 a ha)) (fun a a' ha ha'=> ?_) ?_
  ·cases ha';rcases hp with h|h
   ·exact h11 a _ ha h
   ·have:=hlt _ (h10 a ha);show a.block≠p;omega
  ·refine(h12.keep hold).imp fun b hb=>⟨.inl hb.1,hb.2.1,fun a ha=> ?_⟩;cases ha;rcases hp with h|h
   ·exact hb.2.2 _ h
   ·have:=hlt b hb.1;show p≠b;omega
 refine⟨_,?_,⟨_,ty,A,c,some ⟨p,0,none⟩,cap,hWg,?_,?_,?_,?_,?_,hset,?_,?_⟩,hsz,?_,?_,hos,htp,hou⟩
 ·rintro b (hb|rfl)
  ·exact .inl hb
  ·exact hpF
 ·rw[Array.getElem?_setIfInBounds,if_neg (by omega)];exact g0
 ·rw[Array.getElem?_setIfInBounds,if_neg (by omega)];exact g1
 ·rw[Array.getElem?_setIfInBounds,if_neg (by omega)];exact g2
 ·rw[Array.getElem?_setIfInBounds,if_neg (by omega)];exact g3
 ·rw[Array.getElem?_setIfInBounds,if_pos rfl,if_pos (Array.getElem?_eq_some_iff.1 g4).1];show some (Value.slice _ _ _)=some (Value.slice _ (ns++[x]).length _);simp
 ·rintro(hb|hb)
  ·exact hFg hb
  ·exact hpg hb.symm
 ·rintro b (hb|rfl)
  ·exact Nat.lt_of_lt_of_le (hlt b hb) hsz
  ·exact hpW
 ·intro b hb hnF hne;exact hoth b hb hne (fun a ha e=>hnF (e▸h9 a ha))
 ·intro C2 ty2 fz hC2;have e:=hg.symm.trans hC2;injection e with e
  injection e with e1 e2 e3
  subst e1 e2 e3;exact⟨_,hWg,by simp,fun m hm'=>by rw[Array.getElem?_setIfInBounds,if_neg (by omega)]⟩
theorem Ac (xs:List Value)(z0 z1 z2 z3 z4 c0 c1 c2 c3 c4:Value)(n:Nat)(hn:n=xs.length):
  (((((xs++[z0,z1,z2,z3,z4]).set n c0).set (n+1) c1).set (n+2) c2).set (n+3) c3).set (n+4) c4=xs++[c0,c1,c2,c3,c4]:=by
 subst hn;rw[List.set_append_right _ _ (by omega),List.set_append_right _ _ (by omega),List.set_append_right _ _ (by omega),List.set_append_right _ _ (by omega),List.set_append_right _ _ (by omega)];simp
theorem pq {w:World}{B q cap n:Nat}{xs:List Value}{z0 z1 z2 z3 z4:Value}(c0 c1 c2 c3 c4:Value)(h:w.ownsRow B 25 5 (.slice (some ⟨q,0,none⟩) (n+1) cap) (n+1) (xs++[z0,z1,z2,z3,z4]))(hx:xs.length=n * 5):
  (cH w q (n * 5) c0 c1 c2 c3 c4).ownsRow B 25 5 (.slice (some ⟨q,0,none⟩) (n+1) cap) (n+1) (xs++[c0,c1,c2,c3,c4]):=by
 have h0:=(World.ownsRow.stored h (n * 5) c0).1;have h1:=(World.ownsRow.stored h0 (n * 5+1) c1).1;have h2:=(World.ownsRow.stored h1 (n * 5+2) c2).1;have h3:=(World.ownsRow.stored h2 (n * 5+3) c3).1;have h4:=(World.ownsRow.stored h3 (n * 5+4) c4).1;rw[Ac _ _ _ _ _ _ _ _ _ _ _ _ hx.symm]at h4;exact h4
end Go.Proofs.YtgbopnlpaabelaaGreatDoor
