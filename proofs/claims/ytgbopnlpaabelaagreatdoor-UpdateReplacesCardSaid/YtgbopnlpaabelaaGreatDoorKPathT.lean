/- A path's text, and paths joined, call by call. -/
import Derived.Test.YtgbopnlpaabelaaGreatDoorKPathS
import Derived.Test.YtgbopnlpaabelaaGreatDoorKPathA
import Derived.Test.YtgbopnlpaabelaaGreatDoorKRefM
import Derived.Test.YtgbopnlpaabelaaGreatDoorKShelf
import Derived.Test.YtgbopnlpaabelaaGreatDoorKUpWb
import Derived.Test.YtgbopnlpaabelaaGreatDoorKUpJ
import Derived.Test.YtgbopnlpaabelaaGreatDoorKRefO
import Derived.Test.YtgbopnlpaabelaaGreatDoorKSpD
import Derived.Test.YtgbopnlpaabelaaGreatDoorKOpenDl
import Derived.Lib.AppendIntMem
set_option maxHeartbeats 64000000
set_option maxRecDepth 100000
set_option linter.unusedVariables false
set_option linter.unusedSimpArgs false
namespace Go.Proofs.YtgbopnlpaabelaaGreatDoor
open Lib (hid)
open Go.RowKit
/-! ### joined -/
theorem vS (w:World)(o:Obj):Below w.heap.size w (w.alloc o):=(Below.refl _ _).alloc (Nat.le_refl _) o
def AA (ns:List ByteArray)(w:World)(e:Ending)(w':World):Prop:=(cn ns=true→zZ ns w e w')∧(cn ns=false→xq w e w')
theorem yv (ns:List ByteArray)(A B:Option Addr)(c d:Nat)(a b:List ByteArray)(hns:ns=a++b)(w:World)(S T:Nat→Prop)(h:ai w S A a)(k:ai w T B b)(hS: ∀b,S b→b<w.heap.size)(hT: ∀b,T b→b<w.heap.size)(ha:a.length≤1000)(hb:b.length≤1000)
  (hA:A=none→c=0) (hB:B=none→d=0) (hsz: ∀s∈ns,s.size≤140737488351232):
  Calls Tryz.prog 150 #[.slice A a.length c,.slice B b.length d] w (AA ns w):=by
 have HS:=hid h;have HT:=hid k;have HA:=hid hA;have HB:=hid hB;have HZ:=hid hsz;have HNS:=hid hns;clear h k hA hB hsz hns;go_enter Tryz.func150,Tryz.ntmps150;go_wp2_with fail;obtain⟨q0,q1⟩:=wb w (.slice A a.length c) (.slice B b.length d) 23;have hb0:=vS w (.cells #[.slice A a.length c,.slice B b.length d] 23);refine(sT w.heap.size A B c d a b _ S T (HS.out.keep fun x hx=>hb0.block x (hS x hx)) (HT.out.keep fun x hx=>hb0.block x (hT x hx)) (fun x hx=>Nat.lt_of_lt_of_le (hS x hx) hb0.size) (fun x hx=>Nat.lt_of_lt_of_le (hT x hx) hb0.size) ha hb HA.out HB.out (by simp) q0 q1).mono ?_;rintro e w1 ⟨v,rfl,hv,hb1⟩;have hl:ns.length≤2000:=by rw[HNS.out];simp;omega
 rw[←HNS.out]at hv;obtain⟨A',c',rfl,hc,hst⟩:=hv.opens HZ.out;have HB1:=hid (mu hb0 hb1);have HST:Hid (ai w1 (fun b=>w.heap.size≤b∧b<w1.heap.size) A' ns):=hst.imp fun x hx=>⟨Nat.le_trans hb0.size hx.1,hx.2⟩;clear hv hst hb1 q0 q1 hb0;go_wp2_with fail;refine(gM A' c' ns _ _ HST.out (by omega)).mono ?_;rintro e u ⟨rfl,rfl⟩;cases hp:cn ns
 ·go_wp2_with fail
  go_ret2
  exact⟨fun h=>(by rw[hp]at h;cases h),fun _=>⟨rfl,HB1.out⟩⟩
 ·go_wp2_with fail
  go_ret2
  exact⟨fun _=>⟨A',c',rfl,hc,HST.out,HB1.out⟩,fun h=>(by rw[hp]at h;cases h)⟩
theorem zW : ∀n:Fin 1000,(Lib.itoa (n.val:Nat)).length≤3:=by decide +kernel
theorem xz (n:Nat)(h:n≤999):(ixT n).size≤3:=by
 have:=zW ⟨n,by omega⟩;show(Lib.itoa n).toArray.size≤3;simpa using this
theorem pT (w:World)(k:Nat)(os:Array Obj):Below w.heap.size w (Go.Sort.grow (w.drewN k) os):=by
 have h:=iq (Below.refl w.heap.size w) k;refine⟨h.os,h.tape,h.output,?_,fun b hb=> ?_⟩
 ·have:=h.size;show w.heap.size≤((w.drewN k).heap++os).size;rw[Array.size_append];omega
 ·show((w.drewN k).heap++os)[b]? =_;rw[Array.getElem?_append_left (by have:=h.size;omega)];exact h.block b hb
theorem uy (S:Nat→Prop)(o:OpT)(X:VT)(f ia:Bool)(w:World)(PA:Option Addr)(pc:Nat)(VA:Option Addr)(vc:Nat)(VA':Option Addr)(vc':Nat)(TA:Option Addr)(tc:Nat)(XA:Option Addr)(xc:Nat)(XA':Option Addr)(xc':Nat)(h:pR S o X w PA pc VA vc VA' vc' TA tc XA xc XA' xc')(hd:ac o.val≤1000000)(hp8:o.path.length≤999)(hsz: ∀s∈o.path,s.size≤140737488351232)(htab:Lib.TabIs Tryz.prog w "internal/strconv.uint64pow10" .u64 Lib.pow10Tab):
  Calls Tryz.prog 112 #[.agg #[.int .i64 o.kind,.slice PA o.path.length pc,.int .i64 o.val.kind,.int .i64 o.val.num,.string o.val.text,.slice VA o.val.items.length vc,.slice VA' o.val.names.length vc',.slice TA o.to.length tc],.agg #[.int .i64 X.kind,.int .i64 X.num,.string X.text,.slice XA X.items.length xc,.slice XA' X.names.length xc',.bool f,.bool ia]] w (OpR S (ep o (if f then some X else none)) w):=by
 have hbx:=eW.new (S:=S) (o:=o) (X:=X) (f:=f) (ia:=ia) (W:=w) (PA:=PA) (pc:=pc) (VA:=VA) (vc:=vc) (VA':=VA') (vc':=vc') (TA:=TA) (tc:=tc) (XA:=XA) (xc:=xc) (XA':=XA') (xc':=xc');obtain⟨w2,hw2⟩: ∃W,W=(w.alloc (.cells #[.int .i64 o.kind,.slice PA o.path.length pc,.int .i64 o.val.kind,.int .i64 o.val.num,.string o.val.text,.slice VA o.val.items.length vc,.slice VA' o.val.names.length vc',.slice TA o.to.length tc] 51)).alloc (.cells #[.int .i64 X.kind,.int .i64 X.num,.string X.text,.slice XA X.items.length xc,.slice XA' X.names.length xc',.bool f,.bool ia] 79):=⟨_,rfl⟩;rw[←hw2]at hbx;have HBX:=hid hbx;have HI:=hid h;have y0:=Go.Joins.cell_of_block hbx.ob 0;have y1:=Go.Joins.cell_of_block hbx.ob 1;have y2:=Go.Joins.cell_of_block hbx.ob 2;have y3:=Go.Joins.cell_of_block hbx.ob 3;have y4:=Go.Joins.cell_of_block hbx.ob 4;have y5:=Go.Joins.cell_of_block hbx.ob 5;have y6:=Go.Joins.cell_of_block hbx.ob 6;have y7:=Go.Joins.cell_of_block hbx.ob 7;have s0:=Go.Joins.cell_of_block hbx.sb 0;have s3:=Go.Joins.cell_of_block hbx.sb 3;have s5:=Go.Joins.cell_of_block hbx.sb 5;clear hbx h;go_enter Tryz.func112,Tryz.ntmps112;have HT:=hid (Lib.tabBelow_of_tabIs htab);have HD:=hid (And.intro hd (And.intro hp8 hsz));clear htab hd hp8 hsz
 cases f with
 |false=>
  go_wp2_with fail;rw[←hw2];clear hw2;go_wp2_with fail;have hk: ∀b,S b→w2.heap[b]? =w.heap[b]? :=fun b hb=>HBX.out.below.block b (HI.out.lt b hb);refine(sg S o w2 PA pc VA vc VA' vc' TA tc (fun b hb=>by have:=HI.out.lt b hb;have:=HBX.out.size;omega) (HI.out.val.keep hk) (HI.out.path.keep hk) HI.out.p0 HI.out.pc HI.out.pl HD.out.1).mono ?_;rintro e w3 ⟨A,c,rfl,h1,h2,h3,h4⟩;have HX:=hid (And.intro h1 (And.intro h2 (And.intro h3 h4)));clear h1 h2 h3 h4 hk y0 y1 y2 y3 y4 y5 y6 y7 s0 s3 s5;go_wp2_with fail
  go_ret2
  refine⟨A,c,rfl,HX.out.1.imp fun b hb=> ?_,HX.out.2.1,HX.out.2.2.1,HBX.out.below.trans (HX.out.2.2.2.mono (by have:=HBX.out.size;omega))⟩;rcases hb with hb|hb
  ·exact .inl ⟨hb.1,HI.out.lt b hb.1⟩
  ·exact .inr ⟨by have:=hb.1;have:=HBX.out.size;omega,hb.2⟩
 |true=>
  by_cases hx:X.kind=6;rotate_left
  ·have d:(X.kind != 6)=true:=by simp[hx]
   have HE:Hid (ep o (some X)=(50,[])):=hid (by unfold ep;simp[hx]);clear hx;go_wp2_with fail;rw[←hw2];clear hw2;go_wp2_with fail
   go_ret2
   rw[HE.out];exact OpR.no 50 HBX.out.below
  have d:(X.kind != 6)=false:=by simp[hx]
  by_cases hl:999<X.items.length
  ·have d2:decide ((999:Int)<(X.items.length:Int))=true:=decide_eq_true (by omega);have HE:Hid (ep o (some X)=(3,[])):=hid (by unfold ep;simp only;rw[if_neg (by simp[hx]),if_pos hl]);clear hx hl;go_wp2_with fail;rw[←hw2];clear hw2;go_wp2_with fail
   go_ret2
   rw[HE.out];exact OpR.no 3 HBX.out.below
  have d2:decide ((999:Int)<(X.items.length:Int))=false:=decide_eq_false (by omega);have HXL:=hid (And.intro hx hl);clear hx hl;go_wp2_with fail;rw[←hw2];clear hw2;obtain⟨wd,hwd⟩: ∃W,W=w2.drew:=⟨_,rfl⟩;have HRwd:Hid (Below w.heap.size w wd):=hid (by rw[hwd];exact HBX.out.below.drew);have HBd:Hid (eW S o X true ia w wd PA pc VA vc VA' vc' TA tc XA xc XA' xc'):=hid (by rw[hwd];exact HBX.out.call (Below.refl _ _).drew);have HZwd:Hid (w.heap.size+2≤wd.heap.size):=hid HBd.out.size;have kz:=fun(q:af (aA wd.heap.size) wd) (b i:Nat) (hb:b<wd.heap.size)=>World.cell?_of_block (a:=⟨b,i,none⟩) (q.h.block b hb);have hs0:w.heap.size<wd.heap.size:=by have:=HBd.out.size;omega
  have hs1:w.heap.size+1<wd.heap.size:=by have:=HBd.out.size;omega
  have z1:=fun q:af (aA wd.heap.size) wd=>(kz q w.heap.size 1 hs0).trans (Go.Joins.cell_of_block HBd.out.ob 1);have u3:=fun q:af (aA wd.heap.size) wd=>(kz q (w.heap.size+1) 3 hs1).trans (Go.Joins.cell_of_block HBd.out.sb 3);have HTd:=hid (HT.out wd HRwd.out);obtain⟨ns,hns⟩: ∃ns,ns=o.path++[ixT X.items.length]:=⟨_,rfl⟩;have HNS:=hid hns;clear kz y0 y1 y2 y3 y4 y5 y6 y7 s0 s3 s5 hns d d2;refine au (aA wd.heap.size) (aA.refl _) (aA.trans _) [12,13] (.pure [0,1,2,3,4,5] (.step 6 (.step 7 (.step 8 (.free [9,10,11] (.tail [12,13])))))) (by kernel_rfl) (by kernel_rfl) (fun _ d _ _ _ h=>by cases d<;>exact h) ?_;rw[←hwd];clear hwd;refine bG ?_;simp only[atR];show wpQuiet _ _ _ _ [_,_,_,_,_,_] _;try simp only[acR,Act.put]
  repeat(go_big_quiet_step (fail))
  refine wpQuiet_nil ?_;clear z1 u3;refine ah rfl (fun K hK=> ?_)
  go_simp
  refine(Tryz.strconv_Itoa (X.items.length:Int) (by omega) (by have:=HXL.out.2;omega) wd HTd.out).mono ?_;rintro e w3 ⟨rfl,kk,os,hw3⟩;have hb3:Below wd.heap.size wd w3:=by rw[hw3];exact pT wd kk os
  clear hw3;refine hK _ _ (.inr hb3) ?_;clear hK K;have HB3:=hid hb3;clear hb3;refine ah rfl (fun K hK=> ?_)
  go_simp
  obtain⟨w4,hw4⟩: ∃W,W=w3.alloc (.cells #[.string ⟨(Lib.itoa (X.items.length:Int)).toArray⟩] 9):=⟨_,rfl⟩;have HN4:Hid (w4.heap[w3.heap.size]? =some (.cells #[.string ⟨(Lib.itoa (X.items.length:Int)).toArray⟩] 9 (0,0))):=hid (by rw[hw4];exact heap_alloc_new w3 _);have HC4:Hid (Below wd.heap.size wd w4):=hid (by rw[hw4];exact HB3.out.alloc HB3.out.size _);have hb4:Below w3.heap.size w3 w4:=by rw[hw4];exact(Below.refl _ _).alloc (Nat.le_refl _) _
  have HZ4:Hid (w3.heap.size<w4.heap.size):=hid (by rw[hw4];simp);rw[←hw4];clear hw4;refine hK _ _ (.inr (hb4.mono HB3.out.size)) ?_;clear hK K hb4;have hk4: ∀b,S b→w4.heap[b]? =w.heap[b]? :=fun b hb=>(HC4.out.block b (by have:=HI.out.lt b hb;have:=HZwd.out;omega)).trans (HRwd.out.block b (HI.out.lt b hb));have hix:(ixT X.items.length).size≤140737488351232:=by have:=xz X.items.length (by have:=HXL.out.2;omega);omega
  have hst:ai w4 (fun b=>b=w3.heap.size) (some ⟨w3.heap.size,0,none⟩) [ixT X.items.length]:=fun _=>⟨_,0,rfl,rfl,fun i hi=>by
   obtain rfl:i=0:=by simpa using hi
   exact⟨Go.Joins.cell_of_block HN4.out 0,hix⟩⟩
  have HJN:=hid (yv ns PA (some ⟨w3.heap.size,0,none⟩) pc 1 o.path [ixT X.items.length] HNS.out w4 S (fun b=>b=w3.heap.size) (HI.out.path.keep hk4) hst (fun b hb=>by have:=HI.out.lt b hb;have:=HZwd.out;have:=HC4.out.size;omega) (fun b hb=>by have:=HZ4.out;omega) (by have:=HD.out.2.1;omega) (by simp)
   (fun e=>by obtain⟨_,_,hA,-⟩:=HI.out.path HI.out.p0;rw[hA]at e;cases e) (fun e=>by cases e) (fun s hs=>by
    rw[HNS.out]at hs;rcases List.mem_append.1 hs with h|h
    ·exact HD.out.2.2 s h
    ·rw[List.mem_singleton.1 h];exact hix))
  clear hst hix hk4;refine ah rfl (fun K hK=> ?_)
  go_simp
  refine HJN.out.mono ?_;rintro e w5 hj
  cases hm:cn ns with
  |false=>
   obtain⟨rfl,hb5⟩:=hj.2 hm;have HE:Hid (ep o (some X)=(40,[])):=hid (by unfold ep;simp only;rw[if_neg (by simp[HXL.out.1]),if_neg HXL.out.2,←HNS.out,hm];rfl);refine hK _ _ (.inr (hb5.mono HC4.out.size)) ?_;clear hK K hj hm;have HB5:=hid (HRwd.out.trans ((HC4.out.trans (hb5.mono HC4.out.size)).mono (by have:=HZwd.out;omega)));clear hb5;refine aW ?_;simp only[atR];show wpQuiet _ _ _ _ [_,_,_] _;try simp only[acR,Act.put]
   repeat(go_big_quiet_step (fail))
   refine wpQuiet_nil ?_;refine aq rfl (fun K hK=> ?_)
   go_simp
   refine hK _ _ ?_;clear hK K;refine aq rfl (fun K hK=> ?_)
   go_simp
   refine hK _ _ ?_;clear hK K;refine aQ ?_;go_wp2_with fail
   go_ret2
   rw[HE.out]
   exact OpR.no 40 HB5.out
  |true=>
   obtain⟨J,jc,rfl,hj1,hj2,hb5⟩:=hj.1 hm;have HE:Hid (ep o (some X)=(0,[dP ns o.val])):=hid (by unfold ep;simp only;rw[if_neg (by simp[HXL.out.1]),if_neg HXL.out.2,←HNS.out,hm];rfl);refine hK _ _ (.inr (hb5.mono HC4.out.size)) ?_;clear hK K hj hm;have HJ:=hid (And.intro hj1 hj2);have HBB:Hid (Below wd.heap.size wd w5):=hid (HC4.out.trans (hb5.mono HC4.out.size));have HB5:=hid (HRwd.out.trans (HBB.out.mono (by have:=HZwd.out;omega)));have HZ5:Hid (w.heap.size≤w4.heap.size):=hid (by have:=HC4.out.size;have:=HZwd.out;omega);have HO5:=hid (HBd.out.call HBB.out);clear hb5 hj1 hj2;refine aW ?_;simp only[atR];show wpQuiet _ _ _ _ [_,_,_] _;try simp only[acR,Act.put]
   repeat(go_big_quiet_step (fail))
   refine wpQuiet_nil ?_;refine aq rfl (fun K hK=> ?_)
   go_simp
   refine hK _ _ ?_;clear hK K;refine aq rfl (fun K hK=> ?_)
   go_simp
   refine hK _ _ ?_;clear hK K;refine aQ ?_;have y2:=Go.Joins.cell_of_block HO5.out.ob 2;have y3:=Go.Joins.cell_of_block HO5.out.ob 3;have y4:=Go.Joins.cell_of_block HO5.out.ob 4;have y5:=Go.Joins.cell_of_block HO5.out.ob 5;have y6:=Go.Joins.cell_of_block HO5.out.ob 6;go_wp2_with fail;refine(ea J ns.length jc o.val.kind o.val.num o.val.text VA o.val.items.length vc VA' o.val.names.length vc' w5).mono ?_;rintro e w6 ⟨rfl,hb6⟩;have HC6:=hid hb6;have HRw6:=hid (HO5.out.call hb6).below;have HZw6:Hid (w.heap.size≤w6.heap.size):=hid (by have:=(HO5.out.call hb6).size;omega);clear hb6 y2 y3 y4 y5 y6;go_wp2_with fail;obtain⟨w7,hrw7⟩: ∃W,W=w6.alloc (.cells #[.int .i64 1,.slice J ns.length jc,.int .i64 o.val.kind,.int .i64 o.val.num,.string o.val.text,.slice VA o.val.items.length vc,.slice VA' o.val.names.length vc',.int .i64 0] 58):=⟨_,rfl⟩;have HNw7:Hid (w7.heap[w6.heap.size]? =some (.cells #[.int .i64 1,.slice J ns.length jc,.int .i64 o.val.kind,.int .i64 o.val.num,.string o.val.text,.slice VA o.val.items.length vc,.slice VA' o.val.names.length vc',.int .i64 0] 58 (0,0))):=hid (by rw[hrw7];exact heap_alloc_new w6 _);have HRw7:Hid (Below w.heap.size w w7):=hid (by rw[hrw7];exact HRw6.out.alloc (by have:=HZw6.out;omega) _)
   have HP7:Hid (ai w7 (fun b=>(S b∧b<w.heap.size)∨New w.heap.size w7 b) J ns∧LV w7 (fun b=>(S b∧b<w.heap.size)∨New w.heap.size w7 b) o.val (.agg #[.int .i64 o.val.kind,.int .i64 o.val.num,.string o.val.text,.slice VA o.val.items.length vc,.slice VA' o.val.names.length vc'])∧0<ns.length∧ns.length≤jc∧ns.length≤8796093021952):=hid (by
    have hk:Below w6.heap.size w6 w7:=by rw[hrw7];exact(Below.refl _ _).alloc (Nat.le_refl _) _
    have hk2: ∀b,b<w5.heap.size→w7.heap[b]? =w5.heap[b]? :=fun b hb=>(hk.block b (Nat.lt_of_lt_of_le hb HC6.out.size)).trans (HC6.out.block b hb);have hlen:ns.length=o.path.length+1:=by rw[HNS.out];simp
    have hd9:=HD.out.2.1
    exact⟨(HJ.out.2.keep fun b hb=>hk2 b hb.2).imp fun b hb=> .inr ⟨by have:=hb.1;have:=HZ5.out;omega,Nat.lt_of_lt_of_le hb.2 (Nat.le_trans HC6.out.size hk.size)⟩,(HI.out.val.keep fun b hb=>HRw7.out.block b (HI.out.lt b hb)).imp fun b hb=> .inl ⟨hb,HI.out.lt b hb⟩,by omega,HJ.out.1,by omega⟩)
   rw[←hrw7];clear hrw7;refine(cE _ 1 1 w7).mono ?_;rintro e w9 ⟨rfl,rfl⟩;go_wp2_with fail
   go_ret2
   rw[HE.out];exact OpR.one HRw7.out HNw7.out HZw6.out (em HP7.out.1 HP7.out.2.2.1 HP7.out.2.2.2.1 HP7.out.2.2.2.2 HP7.out.2.1)
theorem xv {w:World}{S:Nat→Prop}{t:VT}{v:Value}(h:LV w S t v):Rng t.kind∧Rng t.num:=by
  cases t with
  |mk k i s l ns=>
    unfold LV at h;obtain⟨A,c,A',c',-,h1,h2,-⟩:=h;exact⟨h1,h2⟩
theorem xO (S:Nat→Prop)(o:OpT)(X:VT)(f ia:Bool)(w:World)(PA:Option Addr)(pc:Nat)(VA:Option Addr)(vc:Nat)(VA':Option Addr)(vc':Nat)(TA:Option Addr)(tc:Nat)(XA:Option Addr)(xc:Nat)(XA':Option Addr)(xc':Nat)(h:pR S o X w PA pc VA vc VA' vc' TA tc XA xc XA' xc'):
    Calls Tryz.prog 111 #[.agg #[.int .i64 o.kind,.slice PA o.path.length pc,.int .i64 o.val.kind,.int .i64 o.val.num,.string o.val.text,.slice VA o.val.items.length vc,.slice VA' o.val.names.length vc',.slice TA o.to.length tc],.agg #[.int .i64 X.kind,.int .i64 X.num,.string X.text,.slice XA X.items.length xc,.slice XA' X.names.length xc',.bool f,.bool ia]] w (OpR S (kr o (if f then some X else none)) w):=by
  have hbx:=eW.new (S:=S) (o:=o) (X:=X) (f:=f) (ia:=ia) (W:=w) (PA:=PA) (pc:=pc) (VA:=VA) (vc:=vc) (VA':=VA') (vc':=vc') (TA:=TA) (tc:=tc) (XA:=XA) (xc:=xc) (XA':=XA') (xc':=xc');obtain⟨w2,hw2⟩: ∃W,W=(w.alloc (.cells #[.int .i64 o.kind,.slice PA o.path.length pc,.int .i64 o.val.kind,.int .i64 o.val.num,.string o.val.text,.slice VA o.val.items.length vc,.slice VA' o.val.names.length vc',.slice TA o.to.length tc] 51)).alloc (.cells #[.int .i64 X.kind,.int .i64 X.num,.string X.text,.slice XA X.items.length xc,.slice XA' X.names.length xc',.bool f,.bool ia] 79):=⟨_,rfl⟩;rw[←hw2]at hbx;have HBX:=hid hbx;have HI:=hid h;have y1:=Go.Joins.cell_of_block hbx.ob 1;have y2:=Go.Joins.cell_of_block hbx.ob 2;have y3:=Go.Joins.cell_of_block hbx.ob 3;have y4:=Go.Joins.cell_of_block hbx.ob 4;have y5:=Go.Joins.cell_of_block hbx.ob 5;have y6:=Go.Joins.cell_of_block hbx.ob 6;have s0:=Go.Joins.cell_of_block hbx.sb 0;have s1:=Go.Joins.cell_of_block hbx.sb 1;have s5:=Go.Joins.cell_of_block hbx.sb 5;clear hbx h;go_enter Tryz.func111,Tryz.ntmps111
  cases f with
  |false=>
    go_wp2_with fail;rw[←hw2];clear hw2;go_wp2_with fail;refine(ea PA o.path.length pc o.val.kind o.val.num o.val.text VA o.val.items.length vc VA' o.val.names.length vc' w2).mono ?_;rintro e w3 ⟨rfl,hb3⟩;have HRw3:=hid (HBX.out.call hb3).below;have HZw3:Hid (w.heap.size≤w3.heap.size):=hid (by have:=(HBX.out.call hb3).size;omega);clear hb3 y1 y2 y3 y4 y5 y6 s0 s1 s5;go_wp2_with fail;obtain⟨w4,hrw4⟩: ∃W,W=w3.alloc (.cells #[.int .i64 1,.slice PA o.path.length pc,.int .i64 o.val.kind,.int .i64 o.val.num,.string o.val.text,.slice VA o.val.items.length vc,.slice VA' o.val.names.length vc',.int .i64 0] 58):=⟨_,rfl⟩;have HNw4:Hid (w4.heap[w3.heap.size]? =some (.cells #[.int .i64 1,.slice PA o.path.length pc,.int .i64 o.val.kind,.int .i64 o.val.num,.string o.val.text,.slice VA o.val.items.length vc,.slice VA' o.val.names.length vc',.int .i64 0] 58 (0,0))):=hid (by rw[hrw4];exact heap_alloc_new w3 _);have HRw4:Hid (Below w.heap.size w w4):=hid (by rw[hrw4];exact HRw3.out.alloc (by have:=HZw3.out;omega) _);rw[←hrw4];clear hrw4;refine(cE _ 1 1 w4).mono ?_;rintro e w9 ⟨rfl,rfl⟩;go_wp2_with fail
    go_ret2
    exact OpR.one HRw4.out HNw4.out HZw3.out (em ((HI.out.path.keep (fun b hb=>HRw4.out.block b (HI.out.lt b hb))).imp fun b hb=> .inl ⟨hb,HI.out.lt b hb⟩) HI.out.p0 HI.out.pc HI.out.pl ((HI.out.val.keep (fun b hb=>HRw4.out.block b (HI.out.lt b hb))).imp fun b hb=> .inl ⟨hb,HI.out.lt b hb⟩))
  |true=>
    by_cases hx3:X.kind=3;rotate_left
    · have d:(X.kind != 3)=true:=by simp[hx3]
      have HE:Hid (kr o (some X)=(50,[])):=hid (by unfold kr;simp[hx3]);clear hx3;go_wp2_with fail;rw[←hw2];clear hw2;go_wp2_with fail
      go_ret2
      rw[HE.out];exact OpR.no 50 HBX.out.below
    · have d:(X.kind != 3)=false:=by simp[hx3]
      have hov:=uv (a:=X.num) (b:=o.val.num) (xv HI.out.x).2 (xv HI.out.val).2;have HX3:=hid hx3;clear hx3;cases d1:decide (wrap64 (X.num+o.val.num)<X.num)<;>cases d2:decide (o.val.num<0)<;>rw[d1,d2]at hov;rotate_left;rotate_left;rotate_left
      rotate_right
      rotate_right
      all_goals first
        |(have _g:(false != true)= !decide (wrap64 (X.num+o.val.num)=X.num+o.val.num):=hov
          have HE:Hid (kr o (some X)=(80,[])):=hid (by unfold kr;simp only[HX3.out];rw[if_neg (by simp),if_neg (by simpa using hov)]);clear hov _g;go_wp2_with fail;rw[←hw2];clear hw2;go_wp2_with fail
          go_ret2
          rw[HE.out]
          exact OpR.no 80 HBX.out.below)
        |(have _g:(true != false)= !decide (wrap64 (X.num+o.val.num)=X.num+o.val.num):=hov
          have HE:Hid (kr o (some X)=(80,[])):=hid (by unfold kr;simp only[HX3.out];rw[if_neg (by simp),if_neg (by simpa using hov)]);clear hov _g;go_wp2_with fail;rw[←hw2];clear hw2;go_wp2_with fail
          go_ret2
          rw[HE.out]
          exact OpR.no 80 HBX.out.below)
        |(have HE:Hid (kr o (some X)=(0,[dP o.path (sO (wrap64 (X.num+o.val.num)))])):=hid (by unfold kr;simp only[HX3.out];rw[if_neg (by simp),if_pos (by simpa using hov)])
          clear hov;go_wp2_with fail;rw[←hw2];clear hw2;obtain⟨wd,hwd⟩: ∃W,W=w2.drew:=⟨_,rfl⟩;have HRwd:Hid (Below w.heap.size w wd):=hid (by rw[hwd];exact HBX.out.below.drew);have HZwd:Hid (w.heap.size+2≤wd.heap.size):=hid (by rw[hwd];exact HBX.out.size);have HHwd:Hid (∀b:Nat,wd.heap[b]? =w2.heap[b]?):=hid (fun b=>by rw[hwd];rfl);have z1:=fun q:af (aA wd.heap.size) wd=>(World.cell?_of_block (a:=⟨w.heap.size,1,none⟩) ((q.h.block w.heap.size (by have:=HZwd.out;omega)).trans (HHwd.out w.heap.size))).trans y1;clear y1 y2 y3 y4 y5 y6 s0 s1 s5;refine au (aA wd.heap.size) (aA.refl _) (aA.trans _) [9,10] (.pure [0,1,2] (.step 3 (.step 4 (.step 5 (.step 6 (.free [7,8] (.tail [9,10]))))))) (by kernel_rfl) (by kernel_rfl) (fun _ d _ _ _ h=>by cases d<;>exact h) ?_;rw[←hwd];clear hwd;refine bG ?_;simp only[atR];show wpQuiet _ _ _ _ [_,_,_] _;try simp only[acR,Act.put]
          repeat(go_big_quiet_step (fail))
          refine wpQuiet_nil ?_;clear z1;refine ah rfl (fun K hK=> ?_)
          go_simp
          refine(xE wd (wrap64 (X.num+o.val.num))).mono ?_;rintro e w3 ⟨rfl,hb3⟩;refine hK _ _ (.inr hb3) ?_;clear hK K;refine ah rfl (fun K hK=> ?_)
          go_simp
          refine(ea PA o.path.length pc 3 (wrap64 (X.num+o.val.num)) ⟨#[]⟩ none 0 0 none 0 0 w3).mono ?_;rintro e w4 ⟨rfl,hb4⟩;refine hK _ _ (.inr (hb4.mono hb3.size)) ?_;clear hK K;have HRw4:Hid (Below w.heap.size w w4):=hid (HRwd.out.trans ((hb3.mono (by have:=HZwd.out;omega)).trans (hb4.mono (by have:=hb3.size;have:=HZwd.out;omega))));have HZw4:Hid (wd.heap.size≤w4.heap.size):=hid (Nat.le_trans hb3.size hb4.size);clear hb3 hb4;refine ah rfl (fun K hK=> ?_)
          go_simp
          obtain⟨w5,hw5⟩: ∃W,W=w4.alloc (.cells #[.int .i64 1,.slice PA o.path.length pc,.int .i64 3,.int .i64 (wrap64 (X.num+o.val.num)),.string ⟨#[]⟩,.slice none 0 0,.slice none 0 0,.int .i64 0] 58):=⟨_,rfl⟩;have HN5:Hid (w5.heap[w4.heap.size]? =some (.cells #[.int .i64 1,.slice PA o.path.length pc,.int .i64 3,.int .i64 (wrap64 (X.num+o.val.num)),.string ⟨#[]⟩,.slice none 0 0,.slice none 0 0,.int .i64 0] 58 (0,0))):=hid (by rw[hw5];exact heap_alloc_new w4 _);have HRw5:Hid (Below w.heap.size w w5):=hid (by rw[hw5];exact HRw4.out.alloc (by have:=HZw4.out;have:=HZwd.out;omega) _);have hb5:Below w4.heap.size w4 w5:=by rw[hw5];exact(Below.refl _ _).alloc (Nat.le_refl _) _
          rw[←hw5];clear hw5;refine hK _ _ (.inr (hb5.mono HZw4.out)) ?_;clear hK K hb5;refine ah rfl (fun K hK=> ?_)
          go_simp
          refine(cE _ 1 1 w5).mono ?_;rintro e w9 ⟨rfl,rfl⟩;refine hK _ _ (.inr (Below.refl _ _)) ?_;clear hK K;refine aW ?_;simp only[atR];show wpQuiet _ _ _ _ [_,_] _;try simp only[acR,Act.put]
          repeat(go_big_quiet_step (fail))
          refine wpQuiet_nil ?_;refine aq rfl (fun K hK=> ?_)
          go_simp
          refine hK _ _ ?_;clear hK K;refine aq rfl (fun K hK=> ?_)
          go_simp
          refine hK _ _ ?_;clear hK K;refine aQ ?_;go_wp2_with fail
          go_ret2
          rw[HE.out]
          exact OpR.one HRw5.out HN5.out (by have:=HZw4.out;have:=HZwd.out;omega) (em (x:=sO (wrap64 (X.num+o.val.num))) ((HI.out.path.keep (fun b hb=>HRw5.out.block b (HI.out.lt b hb))).imp fun b hb=> .inl ⟨hb,HI.out.lt b hb⟩) HI.out.p0 HI.out.pc HI.out.pl (eZ _ _ 3 (wrap64 (X.num+o.val.num)) ⟨#[]⟩ (by unfold Rng;omega) (by unfold Rng wrap64;omega) (by decide))))
theorem ph : ∀(args:Array Value) (W:World),(callFunc 110 args).run Tryz.prog W= .ok (.enter 110 args) W:=fun _ _=>by simp[callFunc,go_sem,Tryz.func110,Tryz.f110]
theorem tt : ∀(args:Array Value) (W:World),(callFunc 111 args).run Tryz.prog W= .ok (.enter 111 args) W:=fun _ _=>by simp[callFunc,go_sem,Tryz.func111,Tryz.f111]
theorem qR : ∀(args:Array Value) (W:World),(callFunc 112 args).run Tryz.prog W= .ok (.enter 112 args) W:=fun _ _=>by simp[callFunc,go_sem,Tryz.func112,Tryz.f112]
theorem qk : ∀(args:Array Value) (W:World),(callFunc 113 args).run Tryz.prog W= .ok (.enter 113 args) W:=fun _ _=>by simp[callFunc,go_sem,Tryz.func113,Tryz.f113]
theorem nJ : ∀(args:Array Value) (W:World),(callFunc 114 args).run Tryz.prog W= .ok (.enter 114 args) W:=fun _ _=>by simp[callFunc,go_sem,Tryz.func114,Tryz.f114]
theorem io : ∀(args:Array Value) (W:World),(callFunc 156 args).run Tryz.prog W= .ok (.enter 156 args) W:=fun _ _=>by simp[callFunc,go_sem,Tryz.func156,Tryz.f156]
structure Ab (o:OpT)(X:VT):Prop where
 to:o.kind=6→0<o.to.length
 dx:ac X≤1000000
 dv:ac o.val≤1000000
 len:X.items.length≤100000
 path:o.path.length≤999
 size: ∀s∈o.path,s.size≤140737488351232
theorem xB (S:Nat→Prop)(o:OpT)(X:VT)(f ia:Bool)(w0 w1 W:World)(u:Value)(PA:Option Addr)(pc:Nat)(VA:Option Addr)(vc:Nat)(VA':Option Addr)(vc':Nat)(TA:Option Addr)(tc:Nat)(XA:Option Addr)(xc:Nat)(XA':Option Addr)(xc':Nat)(hu:OpV o.kind w0 w1 u)(hW:Below w1.heap.size w1 W)(h:pR S o X W PA pc VA vc VA' vc' TA tc XA xc XA' xc')(hk:Ab o X)(htab:Lib.TabIs Tryz.prog W "internal/strconv.uint64pow10" .u64 Lib.pow10Tab):
  ∃gf cap,u= .func (.func gf) #[] cap∧(∀(args:Array Value) (W:World),(callFunc gf args).run Tryz.prog W= .ok (.enter gf args) W)∧
   Calls Tryz.prog gf (#[.agg #[.int .i64 o.kind,.slice PA o.path.length pc,.int .i64 o.val.kind,.int .i64 o.val.num,.string o.val.text,.slice VA o.val.items.length vc,.slice VA' o.val.names.length vc',.slice TA o.to.length tc],.agg #[.int .i64 X.kind,.int .i64 X.num,.string X.text,.slice XA X.items.length xc,.slice XA' X.names.length xc',.bool f,.bool ia]]++cap) W (OpR S (opU o (if f then some X else none) ia) W):=by
 have d1:ac X≤4611686018427387903:=by have:=hk.dx;omega
 have d2:ac o.val≤4611686018427387903:=by have:=hk.dv;omega
 have hway: ∀gf,xd gf w0 w1 u→W.cell? ⟨w0.heap.size,0,none⟩=some (.func (.func gf) #[] #[])∧w0.heap.size<W.heap.size:=fun gf hw=>
  ⟨(hW.cell (p:=⟨w0.heap.size,0,none⟩) hw.2.2).trans hw.2.1,Nat.lt_of_lt_of_le hw.2.2 hW.size⟩
 rcases hu with ⟨k,rfl⟩|⟨k,rfl⟩|⟨k,rfl⟩|⟨k,rfl⟩|⟨k,rfl⟩|⟨k,hw⟩|⟨k,hw⟩|⟨⟨n2,n3,n4,n5,n6,n7,n8⟩,hw⟩
 ·refine⟨_,_,rfl,ph,?_⟩;rw[show opU o (if f then some X else none) ia=py o (if f then some X else none) by unfold opU;simp[k]];exact sx S o X f ia W PA pc VA vc VA' vc' TA tc XA xc XA' xc' h
 ·refine⟨_,_,rfl,tt,?_⟩;rw[show opU o (if f then some X else none) ia=kr o (if f then some X else none) by unfold opU;simp[k]];exact xO S o X f ia W PA pc VA vc VA' vc' TA tc XA xc XA' xc' h
 ·refine⟨_,_,rfl,qR,?_⟩;rw[show opU o (if f then some X else none) ia=ep o (if f then some X else none) by unfold opU;simp[k]];exact uy S o X f ia W PA pc VA vc VA' vc' TA tc XA xc XA' xc' h hk.dv hk.path hk.size htab
 ·refine⟨_,_,rfl,qk,?_⟩;rw[show opU o (if f then some X else none) ia=iA o (if f then some X else none) by unfold opU;simp[k]];exact uZ S o X f ia W PA pc VA vc VA' vc' TA tc XA xc XA' xc' h hk.dx hk.dv hk.len
 ·refine⟨_,_,rfl,nJ,?_⟩;rw[show opU o (if f then some X else none) ia=jN o (if f then some X else none) ia by unfold opU;simp[k]];exact ry S o X f ia W PA pc VA vc VA' vc' TA tc XA xc XA' xc' h (hk.to k)
 ·refine⟨_,_,hw.1,io,?_⟩;rw[show opU o (if f then some X else none) ia=jz (fun c=>decide (0<c)) o (if f then some X else none) by unfold opU;simp[k]];exact kA S o X f ia W PA pc VA vc VA' vc' TA tc XA xc XA' xc' h _ 116 nE ru w0.heap.size (hway _ hw).1 (hway _ hw).2 d1 d2
 ·refine⟨_,_,hw.1,io,?_⟩;rw[show opU o (if f then some X else none) ia=jz (fun c=>decide (c<0)) o (if f then some X else none) by unfold opU;simp[k]];exact kA S o X f ia W PA pc VA vc VA' vc' TA tc XA xc XA' xc' h _ 117 nB rD w0.heap.size (hway _ hw).1 (hway _ hw).2 d1 d2
 ·refine⟨_,_,hw.1,io,?_⟩;rw[show opU o (if f then some X else none) ia=jz (fun c=> !decide (c=0)) o (if f then some X else none) by unfold opU;simp[n2,n3,n4,n5,n6,n7,n8]];exact kA S o X f ia W PA pc VA vc VA' vc' TA tc XA xc XA' xc' h _ 118 nO qK w0.heap.size (hway _ hw).1 (hway _ hw).2 d1 d2
def ox (w:World)(A:Option Addr)(l:List OpT):Prop:= ∀k,k<l.length→ ∀b off,A=some ⟨b,off,none⟩→ ∀PA n pc,w.cell? ⟨b,off+k * 8+1,none⟩=some (.slice PA n pc)→pc≤9223372036854775807
theorem ox.keep {w w':World}{A:Option Addr}{l:List OpT}{S:Nat→Prop}(h:ox w A l)(hl:ey w S A l)(hk: ∀b,S b→w'.heap[b]? =w.heap[b]?):ox w' A l:=fun k hkl b off hA PA n pc hc=>by
 obtain⟨b',off',hA',hb,-⟩:=hl (by omega);rw[hA]at hA';injection hA' with hA'
 injection hA' with e1 e2
 subst e1 e2;exact h k hkl b off hA PA n pc ((World.cell?_of_block (a:=⟨b,off+k * 8+1,none⟩) (hk b hb)).symm.trans hc)
def gE (w:World)(l:List OpT)(cs:Array Value):Prop:= ∀OA n c,cs[6]? =some (.slice OA n c)→ox w OA l
theorem ey.cellsC {w:World}{S:Nat→Prop}{A:Option Addr}{l:List OpT}(h:ey w S A l)(hc:ox w A l)(k:Nat)(hk:k<l.length): ∃b off PA pc VA vc VA' vc' TA tc,A=some ⟨b,off,none⟩∧S b∧pc≤9223372036854775807∧OpL w S l[k] #[.int .i64 l[k].kind,.slice PA l[k].path.length pc,.int .i64 l[k].val.kind,.int .i64 l[k].val.num,.string l[k].val.text,.slice VA l[k].val.items.length vc,.slice VA' l[k].val.names.length vc',.slice TA l[k].to.length tc]∧
  w.rangeAt b (off+k * 8) [.int .i64 l[k].kind,.slice PA l[k].path.length pc,.int .i64 l[k].val.kind,.int .i64 l[k].val.num,.string l[k].val.text,.slice VA l[k].val.items.length vc,.slice VA' l[k].val.names.length vc',.slice TA l[k].to.length tc]:=by
 obtain⟨b,off,hA,hb,hcs⟩:=h (by omega);obtain⟨cs,h1,h2⟩:=hcs k hk;have h2':=h2;obtain⟨PA,pc,a,b',c,d,e,TA,tc,rfl,hv,-⟩:=h2';obtain⟨VA,vc,VA',vc',hvs,-⟩:=hv.shape;simp only[Value.agg.injEq,Array.mk.injEq,List.cons.injEq,and_true]at hvs;obtain⟨rfl,rfl,rfl,rfl,rfl⟩:=hvs;exact⟨b,off,PA,pc,VA,vc,VA',vc',TA,tc,hA,hb,hc k hk b off hA _ _ _ (h1 1 _ rfl),h2,fun j v hv=>h1 j v (by simpa using hv)⟩
theorem tU (o:OpT)(x:Option VT)(ia:Bool):(opU o x ia).2.length≤2:=by
 unfold opU py kr ep iA jN jz;cases x<;>(repeat' split)<;>simp
theorem lr {P:Program}(w:World)(t e ty:TypeId)(i:TypeInfo)(ht:P.underlying t=some (.slice e))(hi:P.info? e=some i)(A:Option Addr)(n c c2:Nat)(hn:n≤c):
  (Builtin.append_ #[t,t] ty #[.slice A n c,.slice none 0 c2]).run P w= .ok (.slice A n c) w:=by
 cases A with
 |none=>simp[Builtin.append_,run_underlying ht,sizeOf,typeInfo,hi,Builtin.lenOf,Builtin.firstCells,hn]
 |some a=>simp[Builtin.append_,run_underlying ht,sizeOf,typeInfo,hi,Builtin.lenOf,Builtin.firstCells,hn,storeCells]
theorem jo {P:Program}{ops:Array Oper}{rest:List Oper}{o:Oper}{a:Act}{w:World}{Q:Exit→Act→World→Prop}(hgd:o.guard=none)(s x:Operand)(t:TypeId)
  (ho:o.op= .call { callee:= .builtin .append,args:= #[s,x],argTypes:= #[t,t] }) (e:TypeId) (i:TypeInfo) (ht:P.underlying t=some (.slice e)) (hi:P.info? e=some i)
  (A:Option Addr) (n c c2:Nat) (hs:a.eval s= .slice A n c) (hx:a.eval x= .slice none 0 c2) (hn:n≤c) (h:wpList P ops Q rest (a.put o.dst (.slice A n c)) w):wpList P ops Q (o::rest) a w:=by
 refine wpList_plain hgd fun K hK=> ?_;have hr:=lr (P:=P) w t e o.type i ht hi A n c c2 hn;unfold Oper.wp execOp;simp only[ho,resolve,invoke,builtin,Sem.run_bind,Sem.run_pure,Result.andThen_ok,List.map_toArray,List.map_cons,List.map_nil,hs,hx,hr];exact hK _ _ h
theorem OpR.of_rows {P:Nat→Prop}{w w':World}{A:Option Addr}{c:Nat}{l:List av}(h:bl cT 8 58 P w w' A c l)(hb:Below w.heap.size w w'):OpR P (0,l) w (.returned (.tuple #[.slice A l.length c,.int .i64 0])) w':=
 ⟨A,c,rfl,h.rows fs,h.none',h.cap,hb⟩
theorem tf {v:VT}{l:List OpT}{j:Nat}{r:List av}(hj:j<l.length)(h:bc v (l.take j)=(0,r))(hx:(fF v l[j]).1≠0):bc v l=((fF v l[j]).1,[]):=by
 have h1:=gt v (l.take j) l[j] r h;rw[if_pos hx,←List.take_succ_eq_append_getElem hj]at h1;have h2:=lp v (l.take (j+1)) (l.drop (j+1)) (by rw[h1];exact hx);rw[List.take_append_drop,h1]at h2;exact h2
theorem pU {v:VT}{l:List OpT}{j:Nat}{r:List av}(hj:j<l.length)(h:bc v (l.take j)=(0,r))(hx:(fF v l[j]).1=0):bc v (l.take (j+1))=(0,r++(fF v l[j]).2):=by
 have h1:=gt v (l.take j) l[j] r h;rw[if_neg (by simp[hx]),←List.take_succ_eq_append_getElem hj]at h1;exact h1
end Go.Proofs.YtgbopnlpaabelaaGreatDoor
/- What changes a document into another one makes it, plain. -/
namespace Go.Proofs.YtgbopnlpaabelaaGreatDoor
theorem oS {t:VT}(hm:ao t=true)(hk:t.kind=7):(∀s∈t.names,bI s.data.toList=true)∧t.names.Nodup:=by
 obtain⟨-,-,-,d⟩:=(fy hk).1 ((bJ t).1 hm).1;exact ce.1 d
theorem om : ∀ {ns:List ByteArray} {l:List VT} {s:ByteArray},ns.length=l.length→(cj ns l s=none↔s∉ns)
 | [],[],s,_=>by unfold cj;simp
 |a::r,x::l,s,h=>by
  unfold cj;by_cases e:a=s
  ·rw[if_pos e];subst e;simp
  ·rw[if_neg e,om (by simpa using h)];simp[Ne.symm e]
theorem fd {t:VT}(hm:ao t=true)(hk:t.kind=7)(s:ByteArray):aJ t s=none↔s∉t.names:=by
 rw[eh hk,om (dS hm hk)]
theorem rz : ∀(ns:List ByteArray) (t:VT),ao t=true→t.kind=7→ ∃t',goL (ns.map fun s=>⟨2,[s],bP,0⟩) t=(0,t')∧ao t'=true∧t'.kind=7∧(∀z∈ns,aJ t' z=none)∧ ∀z,z∉ns→aJ t' z=aJ t z
 | [],t,hm,hk=>⟨t,rfl,hm,hk,fun z hz=>absurd hz (List.not_mem_nil),fun _ _=>rfl⟩
 |s::ns,t,hm,hk=>by
  obtain⟨t1,e1,u1⟩:=wh (s:=s) hm hk;obtain⟨t2,e2,m2,k2,d2,o2⟩:=rz ns t1 u1.may (u1.kind.trans hk);refine⟨t2,?_,m2,k2,?_,?_⟩
  ·rw[List.map_cons,gS (d:=⟨2,[s],bP,0⟩) e1];exact e2
  ·intro z hz;by_cases h:z∈ns
   ·exact d2 z h
   ·obtain rfl:z=s:=(List.mem_cons.1 hz).resolve_right h;rw[o2 z h];exact u1.here
  ·intro z hz;have h1:z≠s:=fun e=>hz (by rw[e];exact List.mem_cons_self);rw[o2 z fun h=>hz (List.mem_cons_of_mem _ h),u1.far z h1]
theorem Aa {d:av}{t u:VT}(hd:ck d=true)(hg:tZ d)(ht:dL t=true)(h:goD d t=(0,u)):doD d t=(0,u)∧dL u=true:=by
 have hw:=mW ht (eu hd)
 have hk:u.kind=t.kind∧ao u=true:=by
  obtain⟨m,k⟩:=bB.1 ht;have:=zr hg m;rw[h]at this;refine⟨?_,this⟩
  have k2:=(eX (fin:=kG d) (fun t s r h1 h2 h3=>by
   unfold kG
   split
   ·next h=>exact lF _ (hg.val h) t s r h1 h2 h3
   ·split
    ·exact gT t s r h1 h2 h3
    ·exact jH _ t s r h1 h2 h3) d.path t m hg.names).2
  have e:(goT (kG d) t d.path).2=u:=by
   have:=h;unfold goD at this;rw[this]
  rw[e]at k2;exact k2
 refine⟨?_,bB.2 ⟨hk.2,hk.1.trans (bB.1 ht).2⟩⟩;have e0:(goT (kG d) t d.path)=(0,u):=h;rcases fi hd with k|k|⟨k,-,-⟩
 ·have ef:kG d=bC d.val:=by unfold kG;rw[if_pos k]
  rw[ef]at e0;rw[yG k (hg.val k),dZ hw (by rw[e0]),e0]
 ·have ef:kG d=bu:=by unfold kG;rw[if_neg (by omega),if_pos k]
  rw[ef]at e0;rw[uq k,dZ hw (by rw[e0]),e0]
 ·have ef:kG d=bw d.num:=by unfold kG;rw[if_neg (by omega),if_neg (by omega)]
  rw[ef]at e0;rw[ud k,dZ hw (by rw[e0]),e0]
theorem yB : ∀(l:List av) (t v:VT),(∀d∈l,ck d=true∧tZ d)→dL t=true→goL l t=(0,v)→doL l t=(0,v)∧dL v=true
 | [],t,v,_,ht,h=>by
  injection h with h1 h2
  subst h2
  exact⟨rfl,ht⟩
 |d::l,t,v,hl,ht,h=>by
  obtain⟨hd,hg⟩:=hl d List.mem_cons_self;by_cases h0:(goD d t).1=0
  ·have e:goD d t=(0,(goD d t).2):=Prod.ext h0 rfl;rw[gS e]at h;obtain⟨e1,d1⟩:=Aa hd hg ht e;obtain⟨e2,d2⟩:=yB l _ v (fun d hd=>hl d (List.mem_cons_of_mem _ hd)) d1 h;refine⟨?_,d2⟩;show(if(doD d t).1=0 then doL l (doD d t).2 else((doD d t).1,bP))=_;rw[e1];exact e2
  ·unfold goL at h;rw[if_neg h0]at h;rw[h]at h0;exact absurd rfl h0
/-! ### nothing to change -/
def aX (t:VT):Prop:=ao t=true∧ac t≤8∧aE t≤4096
theorem ev {t x:VT}(h:aX t)(hx:x∈t.items):aX x:=by
 obtain⟨h1,h2,h3⟩:=h;refine⟨((bJ t).1 h1).2 x hx,by have:=cO hx;omega,?_⟩;have:=oo hx;rw[fj]at h3;omega
theorem rU {t x:VT}{s:ByteArray}(h:aX t)(hx:aJ t s=some x):aX x:=by
 obtain⟨-,hj,rfl⟩:=rK hx;exact ev h (List.getElem_mem hj)
theorem ro {t:VT}(h:aX t):aG t=0:=(jv (by have:=h.2.2;omega)).2 h
theorem cz {t:VT}(h:aG t=0)(hz:aE t≤9223372036854775807):aX t:=(jv hz).1 h
end Go.Proofs.YtgbopnlpaabelaaGreatDoor
/- What an update changes, plain: each of the changes may be, none meets another one, and none touches the id. -/
namespace Go.Proofs.YtgbopnlpaabelaaGreatDoor
open Go.RowKit
theorem od : ∀(f n m:Nat),n≤m→(gK f n).length≤(gK f m).length
  |0,n,m,_=>by unfold gK;simp
  |f+1,n,m,h=>by
    unfold gK;have ih:=od f (n / 128) (m / 128) (Nat.div_le_div_right h);by_cases h1:n<128
    · rw[if_pos h1];split<;>simp
    · rw[if_neg h1,if_neg (by omega)];simpa using ih
theorem xo {n m:Nat}(h:n≤m):(grp n).length≤(grp m).length:=od 10 n m h
theorem oH : ∀(p:List ByteArray) {t x:VT},aX t→aT t p=some x→aX x
  | [],t,x,h,e=>by rw[cD]at e;injection e with e;exact e▸h
  |s::r,t,x,h,e=>by
    rw[aI]at e
    cases hi:aJ t s with
    |none=>rw[hi]at e;cases e
    |some u=>rw[hi]at e;exact oH r (rU h hi) e
theorem kK {t x:VT}{p:List ByteArray}(h:aX t)(e:bv t p=some x):aX x:=by
  unfold bv at e
  split at e
  · exact oH p h e
  · cases e
theorem qQ {l:List VT}{n:Nat}(h: ∀x∈l,ac x≤n):aF l≤n:=by
  induction l with
  |nil=>unfold aF;omega
  |cons a l ih=>
    unfold aF;have h1:=h a List.mem_cons_self;have h2:=ih fun x hx=>h x (List.mem_cons_of_mem _ hx);omega
theorem uB {l r:List VT}(h:l.Sublist r):bQ l≤bQ r:=by
  induction h with
  |slnil=>exact Nat.le_refl _
  |cons a _ ih=>conv=>rhs;unfold bQ
                omega
  |cons_cons a _ ih=>unfold bQ;omega
theorem uw {t:VT}{l:List VT}(h:aX t)(hk:t.kind=6)(hs:l.Sublist t.items):aX (jZ l):=by
  have hl:=hs.length_le;refine⟨(bJ _).2 ⟨?_,fun x hx=>((bJ t).1 h.1).2 x (hs.subset hx)⟩,?_,?_⟩
  · unfold jZ aV VT.kind VT.num VT.text VT.items VT.names
    simp[ByteArray.toList_eq]
  · unfold jZ ac
    have:aF l≤7:=qQ fun x hx=>by have:=cO (hs.subset hx);have:=h.2.1;omega
    omega
  · have h3:=h.2.2
    rw[fj]at h3 ⊢;have h4:=uB hs;have h5:=xo hl;unfold dm at h3 ⊢;rw[hk]at h3;unfold jZ VT.kind VT.items;simp only[show((6:Int)=2)=False by simp,show((6:Int)=3)=False by simp,show((6:Int)=4∨(6:Int)=5)=False by simp,if_false,if_true]at h3 ⊢;omega
theorem vT (n:Int):aX (sO n):=by
  refine⟨?_,?_,?_⟩
  · unfold sO
    rw[bJ];refine⟨?_,fun x hx=>by cases hx⟩;unfold aV VT.kind VT.num VT.text VT.items VT.names;simp[ByteArray.toList_eq]
  · unfold sO ac aF;omega
  · rw[fj]
    have:=(bq (zig n)).1;unfold sO VT.items VT.kind VT.num VT.text VT.names dm bQ;simp;omega
theorem yJ {p:List ByteArray}{x:VT}(hp:cn p=true)(hx:aX x):ck (dP p x)=true:=by
  unfold ck dP;simp[hp,ro hx]
theorem wJ :eO bP=true:=(ku _).2 rfl
theorem vC {p:List ByteArray}(hp:cn p=true):ck (eV p)=true:=by
  unfold ck eV;simp[hp,wJ]
def dO (d:av):Prop:=ck d=true∧((d.kind=1∧aX d.val)∨(d.kind=2∧d.val=bP))
theorem jE {p:List ByteArray}{x:VT}(hp:cn p=true)(hx:aX x):dO (dP p x):=⟨yJ hp hx,.inl ⟨rfl,hx⟩⟩
theorem kH {p:List ByteArray}(hp:cn p=true):dO (eV p):=⟨vC hp,.inr ⟨rfl,rfl⟩⟩
def dG :List (List ByteArray)→List av→Prop
  |_,[]=>True
  | [],_::_=>False
  |p::ps,d::l=>(p <+: d.path∧dG ps l)∨dG ps (d::l)
theorem dG.skip {p:List ByteArray}{ps:List (List ByteArray)}: ∀ {l:List av},dG ps l→dG (p::ps) l
  | [],_=>trivial
  |_::_,h=> .inr h
theorem dG.append : ∀ {ps qs:List (List ByteArray)} {l r:List av},dG ps l→dG qs r→dG (ps++qs) (l++r)
  | [],_,[],_,_,h=>h
  | [],_,_::_,_,h,_=>h.elim
  |_::ps,_,[],r,_,h=>dG.skip (dG.append (ps:=ps) (l:=[]) (by cases ps<;>trivial) h)
  |_::_,_,_::_,_,.inl h,k=> .inl ⟨h.1,dG.append h.2 k⟩
  |_::_,_,_::_,_,.inr h,k=> .inr (dG.append h k)
theorem dG.mem : ∀ {ps:List (List ByteArray)} {l:List av},dG ps l→ ∀d∈l,∃p∈ps,p <+: d.path
  |_,[],_,d,hd=>by cases hd
  | [],_::_,h,_,_=>h.elim
  |p::_,_::_,.inl h,d,hd=>by
    rcases List.mem_cons.1 hd with rfl|hd
    · exact⟨p,List.mem_cons_self,h.1⟩
    · obtain⟨q,hq,e⟩:=dG.mem h.2 d hd;exact⟨q,List.mem_cons_of_mem _ hq,e⟩
  |_::_,_::_,.inr h,d,hd=>by obtain⟨q,hq,e⟩:=dG.mem h d hd;exact⟨q,List.mem_cons_of_mem _ hq,e⟩
theorem mK {a b:List ByteArray}:dh a b=true↔a <+: b∨b <+: a:=by
  have h: ∀a b:List ByteArray,jF a b=true↔a <+: b:=fun a b=>by
    unfold jF;rw[Bool.and_eq_true,decide_eq_true_eq,decide_eq_true_eq]
    exact⟨fun h=>⟨b.drop a.length,by conv=>lhs;lhs;rw[←h.2]
                                     exact List.take_append_drop _ _⟩,fun h=>⟨h.length_le,(List.prefix_iff_eq_take.1 h).symm⟩⟩
  unfold dh;rw[Bool.or_eq_true,h,h]
theorem zD {a b p q:List ByteArray}(ha:p <+: a)(hb:q <+: b)(h:dh p q=false):dh a b=false:=by
  cases hm:dh a b with
  |false=>rfl
  |true=>
    exfalso
    have hpq:dh p q=true:=mK.2 (by
      rcases mK.1 hm with k|k
      · exact List.prefix_or_prefix_of_prefix (ha.trans k) hb
      · exact List.prefix_or_prefix_of_prefix ha (hb.trans k))
    rw[h]at hpq;cases hpq
theorem dG.free : ∀ {ps:List (List ByteArray)} {l:List av},ps.Pairwise (fun q p=>dh p q=false)→dG ps l→(iv l).Pairwise (fun q p=>dh p q=false)
  |_,[],_,_=>List.Pairwise.nil
  | [],_::_,_,h=>h.elim
  |p::ps,d::l,hp,.inl h=>by
    obtain⟨h1,h2⟩:=List.pairwise_cons.1 hp;refine List.pairwise_cons.2 ⟨fun q hq=> ?_,dG.free h2 h.2⟩;obtain⟨x,hx,rfl⟩:=List.mem_map.1 hq;obtain⟨y,hy,e⟩:=h.2.mem x hx
    exact zD e h.1 (h1 y hy)
  |p::ps,d::l,hp,.inr h=>dG.free (List.pairwise_cons.1 hp).2 h
theorem dG.one {p:List ByteArray}{ps:List (List ByteArray)}{d:av}(h:p <+: d.path):dG (p::ps) [d]:= .inl ⟨h,by cases ps<;>trivial⟩
theorem zn {v:VT}{o:OpT}{r:List av}(hv:aX v)(ho:co o=true)(hz:aE o.val≤9223372036854775807)(h:fF v o=(0,r)):dG (dD o) r∧ ∀d∈r,dO d:=by
  have nilc:dG (dD o) []∧ ∀d∈([]:List av),dO d:=⟨by cases dD o<;>trivial,fun d hd=>by cases hd⟩;unfold co at ho;rw[Bool.and_eq_true]at ho;obtain⟨hp,ho⟩:=ho;unfold fF opU at h;have hgot: ∀x,bv v o.path=some x→aX x:=fun x e=>kK hv e;generalize bv v o.path=got at h hgot;generalize jp v o.path=ia at h;have one1: ∀ {d:av},o.kind≠6→o.path <+: d.path→dO d→dG (dD o) [d]∧ ∀x∈[d],dO x:=fun {d} h6 h1 h2=>⟨by unfold dD;rw[if_neg h6];exact dG.one h1,fun x hx=>by rw[List.mem_singleton.1 hx];exact h2⟩;have hself:o.path <+: o.path:=List.prefix_refl _;by_cases k2:o.kind=2
  · rw[if_pos k2]at h
    cases got with
    |none=>injection h with _ h;subst h;exact nilc
    |some x=>injection h with _ h;subst h;exact one1 (by omega) hself (kH hp)
  rw[if_neg k2]at h;by_cases k6:o.kind=6
  · rw[if_neg (by omega),if_neg (by omega),if_neg (by omega),if_pos k6]at h
    cases got with
    |none=>injection h with _ h;subst h;exact nilc
    |some x=>
      unfold jN at h
      cases ia with
      |true=>simp at h
      |false=>
        simp only[Bool.false_eq_true,if_false]at h;injection h with _ h;subst h
        rw[k6]at ho;simp at ho;refine⟨?_,?_⟩
        · unfold dD;rw[if_pos k6];exact .inl ⟨hself,dG.one (List.prefix_refl _)⟩
        · intro d hd
          rcases List.mem_cons.1 hd with rfl|hd
          · exact kH hp
          · rw[List.mem_singleton.1 hd];exact jE ho.2 (hgot x rfl)
  have hval:aX o.val:=by
    rw[if_neg k6]at ho
    split at ho
    · simp only[Bool.and_eq_true,decide_eq_true_eq]at ho;exact cz ho.1.2 hz
    · split at ho
      · simp only[Bool.and_eq_true,decide_eq_true_eq]at ho;exact cz ho.1 hz
      · cases ho
  have hset: ∀ {x:VT},aX x→dG (dD o) [dP o.path x]∧ ∀d∈[dP o.path x],dO d:=fun hx=>one1 k6 hself (jE hp hx);by_cases k3:o.kind=3
  · rw[if_pos k3]at h
    unfold kr at h
    cases got with
    |none=>injection h with _ h;subst h;exact hset hval
    |some x=>
      simp only at h
      split at h
      · injection h with h _;cases h
      · split at h
        · injection h with _ h;subst h;exact hset (vT _)
        · injection h with h _;cases h
  rw[if_neg k3]at h;by_cases k4:o.kind=4
  · rw[if_pos k4]at h
    unfold ep at h
    cases got with
    |none=>
      simp only at h
      split at h
      · rename_i hc
        injection h with _ h;subst h
        refine hset (cz hc ?_);have:=hval.2.2;rw[fj];have:=(bq 1).1;unfold jZ VT.items VT.kind VT.num VT.text VT.names dm bQ bQ;simp;omega
      · rename_i hc
        injection h with h _;exact absurd h hc
    |some x=>
      simp only at h
      split at h
      · injection h with h _;cases h
      · split at h
        · injection h with h _;cases h
        · split at h
          · rename_i hm
            injection h with _ h;subst h
            exact one1 k6 (List.prefix_append _ _) (jE hm hval)
          · injection h with h _;cases h
  rw[if_neg k4]at h;by_cases k5:o.kind=5
  · rw[if_pos k5]at h
    unfold iA at h
    cases got with
    |none=>injection h with _ h;subst h;exact nilc
    |some x=>
      simp only at h
      split at h
      · injection h with h _;cases h
      · rename_i hk
        split at h
        · injection h with _ h;subst h;exact nilc
        · injection h with _ h;subst h
          exact hset (uw (hgot x rfl) (by simpa using hk) List.filter_sublist)
  rw[if_neg k5,if_neg k6]at h
  have way: ∀ {g:Int→Bool},jz g o got=(0,r)→dG (dD o) r∧ ∀d∈r,dO d:=fun {g} h=>by
    unfold jz at h
    cases got with
    |none=>injection h with _ h;subst h;exact hset hval
    |some x=>
      simp only at h
      split at h
      · injection h with _ h;subst h;exact hset hval
      · injection h with _ h;subst h;exact nilc
  split at h
  · exact way h
  · split at h
    · exact way h
    · exact way h
theorem la {v:VT}(hv:aX v): ∀ {l:List OpT} {r:List av},(∀o∈l,co o=true∧aE o.val≤9223372036854775807)→bc v l=(0,r)→dG (bU l) r∧ ∀d∈r,dO d
  | [],r,_,h=>by injection h with _ h;subst h;exact⟨trivial,fun d hd=>by cases hd⟩
  |o::l,r,hl,h=>by
    rw[cP]at h
    split at h
    · rename_i h1;injection h with h _;exact absurd h h1
    · rename_i h1
      split at h
      · rename_i h2;injection h with h _;exact absurd h h2
      · rename_i h2
        injection h with _ h
        subst h;have a:=zn (r:=(fF v o).2) hv (hl o List.mem_cons_self).1 (hl o List.mem_cons_self).2 (Prod.ext (by simpa using h1) rfl);have b:=la (r:=(bc v l).2) hv (fun x hx=>hl x (List.mem_cons_of_mem _ hx)) (Prod.ext (by simpa using h2) rfl);refine⟨by rw[pw];exact dG.append a.1 b.1,fun d hd=> ?_⟩;exact(List.mem_append.1 hd).elim (a.2 d) (b.2 d)
end Go.Proofs.YtgbopnlpaabelaaGreatDoor
