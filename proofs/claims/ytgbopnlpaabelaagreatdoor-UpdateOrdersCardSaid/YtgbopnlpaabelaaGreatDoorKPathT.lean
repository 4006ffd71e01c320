/- A path's text, and paths joined, call by call. -/
import Derived.Test.YtgbopnlpaabelaaGreatDoorKSpM
import Derived.Test.YtgbopnlpaabelaaGreatDoorKPathA
import Derived.Test.YtgbopnlpaabelaaGreatDoorKRefM
import Derived.Test.YtgbopnlpaabelaaGreatDoorKShelf
import Derived.Test.YtgbopnlpaabelaaGreatDoorKUpWb
import Derived.Test.YtgbopnlpaabelaaGreatDoorKUpJ
import Derived.Test.YtgbopnlpaabelaaGreatDoorKRefO
import Derived.Test.YtgbopnlpaabelaaGreatDoorKSpD
import Derived.Test.YtgbopnlpaabelaaGreatDoorKOpenDl
import Derived.Lib.AppendIntMem
set_option maxHeartbeats 64000000
set_option maxRecDepth 100000
set_option linter.unusedVariables false
set_option linter.unusedSimpArgs false
namespace Go.Proofs.YtgbopnlpaabelaaGreatDoor
open Lib (hid)
open Go.RowKit
/-! ### joined -/
theorem vK (w:World)(o:Obj):Below w.heap.size w (w.alloc o):=(Below.refl _ _).alloc (Nat.le_refl _) o
def BC (ns:List ByteArray)(w:World)(e:Ending)(w':World):Prop:=(ce ns=true→AY ns w e w')∧(ce ns=false→xt w e w')
theorem xz (ns:List ByteArray)(A B:Option Addr)(c d:Nat)(a b:List ByteArray)(hns:ns=a++b)(w:World)(S T:Nat→Prop)(h:ai w S A a)(k:ai w T B b)(hS: ∀b,S b→b<w.heap.size)(hT: ∀b,T b→b<w.heap.size)(ha:a.length≤1000)(hb:b.length≤1000)
  (hA:A=none→c=0) (hB:B=none→d=0) (hsz: ∀s∈ns,s.size≤140737488351232):
  Calls Tryz.prog 150 #[.slice A a.length c,.slice B b.length d] w (BC ns w):=by
 have HS:=hid h;have HT:=hid k;have HA:=hid hA;have HB:=hid hB;have HZ:=hid hsz;have HNS:=hid hns;clear h k hA hB hsz hns;go_enter Tryz.func150,Tryz.ntmps150;go_wp2_with fail;obtain⟨q0,q1⟩:=wu w (.slice A a.length c) (.slice B b.length d) 23;have hb0:=vK w (.cells #[.slice A a.length c,.slice B b.length d] 23);refine(tU w.heap.size A B c d a b _ S T (HS.out.keep fun x hx=>hb0.block x (hS x hx)) (HT.out.keep fun x hx=>hb0.block x (hT x hx)) (fun x hx=>Nat.lt_of_lt_of_le (hS x hx) hb0.size) (fun x hx=>Nat.lt_of_lt_of_le (hT x hx) hb0.size) ha hb HA.out HB.out (by simp) q0 q1).mono ?_;rintro e w1 ⟨v,rfl,hv,hb1⟩;have hl:ns.length≤2000:=by rw[HNS.out];simp;omega
 rw[←HNS.out]at hv;obtain⟨A',c',rfl,hc,hst⟩:=hv.opens HZ.out;have HB1:=hid (nL hb0 hb1);have HST:Hid (ai w1 (fun b=>w.heap.size≤b∧b<w1.heap.size) A' ns):=hst.imp fun x hx=>⟨Nat.le_trans hb0.size hx.1,hx.2⟩;clear hv hst hb1 q0 q1 hb0;go_wp2_with fail;refine(gU A' c' ns _ _ HST.out (by omega)).mono ?_;rintro e u ⟨rfl,rfl⟩;cases hp:ce ns
 ·go_wp2_with fail
  go_ret2
  exact⟨fun h=>(by rw[hp]at h;cases h),fun _=>⟨rfl,HB1.out⟩⟩
 ·go_wp2_with fail
  go_ret2
  exact⟨fun _=>⟨A',c',rfl,hc,HST.out,HB1.out⟩,fun h=>(by rw[hp]at h;cases h)⟩
theorem AP : ∀n:Fin 1000,(Lib.itoa (n.val:Nat)).length≤3:=by decide +kernel
theorem xr (n:Nat)(h:n≤999):(ixT n).size≤3:=by
 have:=AP ⟨n,by omega⟩;show(Lib.itoa n).toArray.size≤3;simpa using this
theorem qC (w:World)(k:Nat)(os:Array Obj):Below w.heap.size w (Go.Sort.grow (w.drewN k) os):=by
 have h:=iv (Below.refl w.heap.size w) k;refine⟨h.os,h.tape,h.output,?_,fun b hb=> ?_⟩
 ·have:=h.size;show w.heap.size≤((w.drewN k).heap++os).size;rw[Array.size_append];omega
 ·show((w.drewN k).heap++os)[b]? =_;rw[Array.getElem?_append_left (by have:=h.size;omega)];exact h.block b hb
theorem vP (S:Nat→Prop)(o:OpT)(X:VT)(f ia:Bool)(w:World)(PA:Option Addr)(pc:Nat)(VA:Option Addr)(vc:Nat)(VA':Option Addr)(vc':Nat)(TA:Option Addr)(tc:Nat)(XA:Option Addr)(xc:Nat)(XA':Option Addr)(xc':Nat)(h:qu S o X w PA pc VA vc VA' vc' TA tc XA xc XA' xc')(hd:ac o.val≤1000000)(hp8:o.path.length≤999)(hsz: ∀s∈o.path,s.size≤140737488351232)(htab:Lib.TabIs Tryz.prog w "internal/strconv.uint64pow10" .u64 Lib.pow10Tab):
  Calls Tryz.prog 112 #[.agg #[.int .i64 o.kind,.slice PA o.path.length pc,.int .i64 o.val.kind,.int .i64 o.val.num,.string o.val.text,.slice VA o.val.items.length vc,.slice VA' o.val.names.length vc',.slice TA o.to.length tc],.agg #[.int .i64 X.kind,.int .i64 X.num,.string X.text,.slice XA X.items.length xc,.slice XA' X.names.length xc',.bool f,.bool ia]] w (OpR S (ev o (if f then some X else none)) w):=by
 have hbx:=fd.new (S:=S) (o:=o) (X:=X) (f:=f) (ia:=ia) (W:=w) (PA:=PA) (pc:=pc) (VA:=VA) (vc:=vc) (VA':=VA') (vc':=vc') (TA:=TA) (tc:=tc) (XA:=XA) (xc:=xc) (XA':=XA') (xc':=xc');obtain⟨w2,hw2⟩: ∃W,W=(w.alloc (.cells #[.int .i64 o.kind,.slice PA o.path.length pc,.int .i64 o.val.kind,.int .i64 o.val.num,.string o.val.text,.slice VA o.val.items.length vc,.slice VA' o.val.names.length vc',.slice TA o.to.length tc] 51)).alloc (.cells #[.int .i64 X.kind,.int .i64 X.num,.string X.text,.slice XA X.items.length xc,.slice XA' X.names.length xc',.bool f,.bool ia] 79):=⟨_,rfl⟩;rw[←hw2]at hbx;have HBX:=hid hbx;have HI:=hid h;have y0:=Go.Joins.cell_of_block hbx.ob 0;have y1:=Go.Joins.cell_of_block hbx.ob 1;have y2:=Go.Joins.cell_of_block hbx.ob 2;have y3:=Go.Joins.cell_of_block hbx.ob 3;have y4:=Go.Joins.cell_of_block hbx.ob 4;have y5:=Go.Joins.cell_of_block hbx.ob 5;have y6:=Go.Joins.cell_of_block hbx.ob 6;have y7:=Go.Joins.cell_of_block hbx.ob 7;have s0:=Go.Joins.cell_of_block hbx.sb 0;have s3:=Go.Joins.cell_of_block hbx.sb 3;have s5:=Go.Joins.cell_of_block hbx.sb 5;clear hbx h;go_enter Tryz.func112,Tryz.ntmps112;have HT:=hid (Lib.tabBelow_of_tabIs htab);have HD:=hid (And.intro hd (And.intro hp8 hsz));clear htab hd hp8 hsz
 cases f with
 |false=>
  go_wp2_with fail;rw[←hw2];clear hw2;go_wp2_with fail;have hk: ∀b,S b→w2.heap[b]? =w.heap[b]? :=fun b hb=>HBX.out.below.block b (HI.out.lt b hb);refine(tk S o w2 PA pc VA vc VA' vc' TA tc (fun b hb=>by have:=HI.out.lt b hb;have:=HBX.out.size;omega) (HI.out.val.keep hk) (HI.out.path.keep hk) HI.out.p0 HI.out.pc HI.out.pl HD.out.1).mono ?_;rintro e w3 ⟨A,c,rfl,h1,h2,h3,h4⟩;have HX:=hid (And.intro h1 (And.intro h2 (And.intro h3 h4)));clear h1 h2 h3 h4 hk y0 y1 y2 y3 y4 y5 y6 y7 s0 s3 s5;go_wp2_with fail
  go_ret2
  refine⟨A,c,rfl,HX.out.1.imp fun b hb=> ?_,HX.out.2.1,HX.out.2.2.1,HBX.out.below.trans (HX.out.2.2.2.mono (by have:=HBX.out.size;omega))⟩;rcases hb with hb|hb
  ·exact .inl ⟨hb.1,HI.out.lt b hb.1⟩
  ·exact .inr ⟨by have:=hb.1;have:=HBX.out.size;omega,hb.2⟩
 |true=>
  by_cases hx:X.kind=6;rotate_left
  ·have d:(X.kind != 6)=true:=by simp[hx]
   have HE:Hid (ev o (some X)=(50,[])):=hid (by unfold ev;simp[hx]);clear hx;go_wp2_with fail;rw[←hw2];clear hw2;go_wp2_with fail
   go_ret2
   rw[HE.out];exact OpR.no 50 HBX.out.below
  have d:(X.kind != 6)=false:=by simp[hx]
  by_cases hl:999<X.items.length
  ·have d2:decide ((999:Int)<(X.items.length:Int))=true:=decide_eq_true (by omega);have HE:Hid (ev o (some X)=(3,[])):=hid (by unfold ev;simp only;rw[if_neg (by simp[hx]),if_pos hl]);clear hx hl;go_wp2_with fail;rw[←hw2];clear hw2;go_wp2_with fail
   go_ret2
   rw[HE.out];exact OpR.no 3 HBX.out.below
  have d2:decide ((999:Int)<(X.items.length:Int))=false:=decide_eq_false (by omega);have HXL:=hid (And.intro hx hl);clear hx hl;go_wp2_with fail;rw[←hw2];clear hw2;obtain⟨wd,hwd⟩: ∃W,W=w2.drew:=⟨_,rfl⟩;have HRwd:Hid (Below w.heap.size w wd):=hid (by rw[hwd];exact HBX.out.below.drew);have HBd:Hid (fd S o X true ia w wd PA pc VA vc VA' vc' TA tc XA xc XA' xc'):=hid (by rw[hwd];exact HBX.out.call (Below.refl _ _).drew);have HZwd:Hid (w.heap.size+2≤wd.heap.size):=hid HBd.out.size;have kz:=fun(q:af (aE wd.heap.size) wd) (b i:Nat) (hb:b<wd.heap.size)=>World.cell?_of_block (a:=⟨b,i,none⟩) (q.h.block b hb);have hs0:w.heap.size<wd.heap.size:=by have:=HBd.out.size;omega
  have hs1:w.heap.size+1<wd.heap.size:=by have:=HBd.out.size;omega
  have z1:=fun q:af (aE wd.heap.size) wd=>(kz q w.heap.size 1 hs0).trans (Go.Joins.cell_of_block HBd.out.ob 1);have u3:=fun q:af (aE wd.heap.size) wd=>(kz q (w.heap.size+1) 3 hs1).trans (Go.Joins.cell_of_block HBd.out.sb 3);have HTd:=hid (HT.out wd HRwd.out);obtain⟨ns,hns⟩: ∃ns,ns=o.path++[ixT X.items.length]:=⟨_,rfl⟩;have HNS:=hid hns;clear kz y0 y1 y2 y3 y4 y5 y6 y7 s0 s3 s5 hns d d2;refine av (aE wd.heap.size) (aE.refl _) (aE.trans _) [12,13] (.pure [0,1,2,3,4,5] (.step 6 (.step 7 (.step 8 (.free [9,10,11] (.tail [12,13])))))) (by kernel_rfl) (by kernel_rfl) (fun _ d _ _ _ h=>by cases d<;>exact h) ?_;rw[←hwd];clear hwd;refine bN ?_;simp only[atR];show wpQuiet _ _ _ _ [_,_,_,_,_,_] _;try simp only[acR,Act.put]
  repeat(go_big_quiet_step (fail))
  refine wpQuiet_nil ?_;clear z1 u3;refine ah rfl (fun K hK=> ?_)
  go_simp
  refine(Tryz.strconv_Itoa (X.items.length:Int) (by omega) (by have:=HXL.out.2;omega) wd HTd.out).mono ?_;rintro e w3 ⟨rfl,kk,os,hw3⟩;have hb3:Below wd.heap.size wd w3:=by rw[hw3];exact qC wd kk os
  clear hw3;refine hK _ _ (.inr hb3) ?_;clear hK K;have HB3:=hid hb3;clear hb3;refine ah rfl (fun K hK=> ?_)
  go_simp
  obtain⟨w4,hw4⟩: ∃W,W=w3.alloc (.cells #[.string ⟨(Lib.itoa (X.items.length:Int)).toArray⟩] 9):=⟨_,rfl⟩;have HN4:Hid (w4.heap[w3.heap.size]? =some (.cells #[.string ⟨(Lib.itoa (X.items.length:Int)).toArray⟩] 9 (0,0))):=hid (by rw[hw4];exact heap_alloc_new w3 _);have HC4:Hid (Below wd.heap.size wd w4):=hid (by rw[hw4];exact HB3.out.alloc HB3.out.size _);have hb4:Below w3.heap.size w3 w4:=by rw[hw4];exact(Below.refl _ _).alloc (Nat.le_refl _) _
  have HZ4:Hid (w3.heap.size<w4.heap.size):=hid (by rw[hw4];simp);rw[←hw4];clear hw4;refine hK _ _ (.inr (hb4.mono HB3.out.size)) ?_;clear hK K hb4;have hk4: ∀b,S b→w4.heap[b]? =w.heap[b]? :=fun b hb=>(HC4.out.block b (by have:=HI.out.lt b hb;have:=HZwd.out;omega)).trans (HRwd.out.block b (HI.out.lt b hb));have hix:(ixT X.items.length).size≤140737488351232:=by have:=xr X.items.length (by have:=HXL.out.2;omega);omega
  have hst:ai w4 (fun b=>b=w3.heap.size) (some ⟨w3.heap.size,0,none⟩) [ixT X.items.length]:=fun _=>⟨_,0,rfl,rfl,fun i hi=>by
   obtain rfl:i=0:=by simpa using hi
   exact⟨Go.Joins.cell_of_block HN4.out 0,hix⟩⟩
  have HJN:=hid (xz ns PA (some ⟨w3.heap.size,0,none⟩) pc 1 o.path [ixT X.items.length] HNS.out w4 S (fun b=>b=w3.heap.size) (HI.out.path.keep hk4) hst (fun b hb=>by have:=HI.out.lt b hb;have:=HZwd.out;have:=HC4.out.size;omega) (fun b hb=>by have:=HZ4.out;omega) (by have:=HD.out.2.1;omega) (by simp)
   (fun e=>by obtain⟨_,_,hA,-⟩:=HI.out.path HI.out.p0;rw[hA]at e;cases e) (fun e=>by cases e) (fun s hs=>by
    rw[HNS.out]at hs;rcases List.mem_append.1 hs with h|h
    ·exact HD.out.2.2 s h
    ·rw[List.mem_singleton.1 h];exact hix))
  clear hst hix hk4;refine ah rfl (fun K hK=> ?_)
  go_simp
  refine HJN.out.mono ?_;rintro e w5 hj
  cases hm:ce ns with
  |false=>
   obtain⟨rfl,hb5⟩:=hj.2 hm;have HE:Hid (ev o (some X)=(40,[])):=hid (by unfold ev;simp only;rw[if_neg (by simp[HXL.out.1]),if_neg HXL.out.2,←HNS.out,hm];rfl);refine hK _ _ (.inr (hb5.mono HC4.out.size)) ?_;clear hK K hj hm;have HB5:=hid (HRwd.out.trans ((HC4.out.trans (hb5.mono HC4.out.size)).mono (by have:=HZwd.out;omega)));clear hb5;refine bm ?_;simp only[atR];show wpQuiet _ _ _ _ [_,_,_] _;try simp only[acR,Act.put]
   repeat(go_big_quiet_step (fail))
   refine wpQuiet_nil ?_;refine aw rfl (fun K hK=> ?_)
   go_simp
   refine hK _ _ ?_;clear hK K;refine aw rfl (fun K hK=> ?_)
   go_simp
   refine hK _ _ ?_;clear hK K;refine aX ?_;go_wp2_with fail
   go_ret2
   rw[HE.out]
   exact OpR.no 40 HB5.out
  |true=>
   obtain⟨J,jc,rfl,hj1,hj2,hb5⟩:=hj.1 hm;have HE:Hid (ev o (some X)=(0,[ec ns o.val])):=hid (by unfold ev;simp only;rw[if_neg (by simp[HXL.out.1]),if_neg HXL.out.2,←HNS.out,hm];rfl);refine hK _ _ (.inr (hb5.mono HC4.out.size)) ?_;clear hK K hj hm;have HJ:=hid (And.intro hj1 hj2);have HBB:Hid (Below wd.heap.size wd w5):=hid (HC4.out.trans (hb5.mono HC4.out.size));have HB5:=hid (HRwd.out.trans (HBB.out.mono (by have:=HZwd.out;omega)));have HZ5:Hid (w.heap.size≤w4.heap.size):=hid (by have:=HC4.out.size;have:=HZwd.out;omega);have HO5:=hid (HBd.out.call HBB.out);clear hb5 hj1 hj2;refine bm ?_;simp only[atR];show wpQuiet _ _ _ _ [_,_,_] _;try simp only[acR,Act.put]
   repeat(go_big_quiet_step (fail))
   refine wpQuiet_nil ?_;refine aw rfl (fun K hK=> ?_)
   go_simp
   refine hK _ _ ?_;clear hK K;refine aw rfl (fun K hK=> ?_)
   go_simp
   refine hK _ _ ?_;clear hK K;refine aX ?_;have y2:=Go.Joins.cell_of_block HO5.out.ob 2;have y3:=Go.Joins.cell_of_block HO5.out.ob 3;have y4:=Go.Joins.cell_of_block HO5.out.ob 4;have y5:=Go.Joins.cell_of_block HO5.out.ob 5;have y6:=Go.Joins.cell_of_block HO5.out.ob 6;go_wp2_with fail;refine(ee J ns.length jc o.val.kind o.val.num o.val.text VA o.val.items.length vc VA' o.val.names.length vc' w5).mono ?_;rintro e w6 ⟨rfl,hb6⟩;have HC6:=hid hb6;have HRw6:=hid (HO5.out.call hb6).below;have HZw6:Hid (w.heap.size≤w6.heap.size):=hid (by have:=(HO5.out.call hb6).size;omega);clear hb6 y2 y3 y4 y5 y6;go_wp2_with fail;obtain⟨w7,hrw7⟩: ∃W,W=w6.alloc (.cells #[.int .i64 1,.slice J ns.length jc,.int .i64 o.val.kind,.int .i64 o.val.num,.string o.val.text,.slice VA o.val.items.length vc,.slice VA' o.val.names.length vc',.int .i64 0] 58):=⟨_,rfl⟩;have HNw7:Hid (w7.heap[w6.heap.size]? =some (.cells #[.int .i64 1,.slice J ns.length jc,.int .i64 o.val.kind,.int .i64 o.val.num,.string o.val.text,.slice VA o.val.items.length vc,.slice VA' o.val.names.length vc',.int .i64 0] 58 (0,0))):=hid (by rw[hrw7];exact heap_alloc_new w6 _);have HRw7:Hid (Below w.heap.size w w7):=hid (by rw[hrw7];exact HRw6.out.alloc (by have:=HZw6.out;omega) _)
   have HP7:Hid (ai w7 (fun b=>(S b∧b<w.heap.size)∨New w.heap.size w7 b) J ns∧LV w7 (fun b=>(S b∧b<w.heap.size)∨New w.heap.size w7 b) o.val (.agg #[.int .i64 o.val.kind,.int .i64 o.val.num,.string o.val.text,.slice VA o.val.items.length vc,.slice VA' o.val.names.length vc'])∧0<ns.length∧ns.length≤jc∧ns.length≤8796093021952):=hid (by
    have hk:Below w6.heap.size w6 w7:=by rw[hrw7];exact(Below.refl _ _).alloc (Nat.le_refl _) _
    have hk2: ∀b,b<w5.heap.size→w7.heap[b]? =w5.heap[b]? :=fun b hb=>(hk.block b (Nat.lt_of_lt_of_le hb HC6.out.size)).trans (HC6.out.block b hb);have hlen:ns.length=o.path.length+1:=by rw[HNS.out];simp
    have hd9:=HD.out.2.1
    exact⟨(HJ.out.2.keep fun b hb=>hk2 b hb.2).imp fun b hb=> .inr ⟨by have:=hb.1;have:=HZ5.out;omega,Nat.lt_of_lt_of_le hb.2 (Nat.le_trans HC6.out.size hk.size)⟩,(HI.out.val.keep fun b hb=>HRw7.out.block b (HI.out.lt b hb)).imp fun b hb=> .inl ⟨hb,HI.out.lt b hb⟩,by omega,HJ.out.1,by omega⟩)
   rw[←hrw7];clear hrw7;refine(cB _ 1 1 w7).mono ?_;rintro e w9 ⟨rfl,rfl⟩;go_wp2_with fail
   go_ret2
   rw[HE.out];exact OpR.one HRw7.out HNw7.out HZw6.out (em HP7.out.1 HP7.out.2.2.1 HP7.out.2.2.2.1 HP7.out.2.2.2.2 HP7.out.2.1)
theorem zI {w:World}{S:Nat→Prop}{t:VT}{v:Value}(h:LV w S t v):Rng t.kind∧Rng t.num:=by
  cases t with
  |mk k i s l ns=>
    unfold LV at h;obtain⟨A,c,A',c',-,h1,h2,-⟩:=h;exact⟨h1,h2⟩
theorem yK (S:Nat→Prop)(o:OpT)(X:VT)(f ia:Bool)(w:World)(PA:Option Addr)(pc:Nat)(VA:Option Addr)(vc:Nat)(VA':Option Addr)(vc':Nat)(TA:Option Addr)(tc:Nat)(XA:Option Addr)(xc:Nat)(XA':Option Addr)(xc':Nat)(h:qu S o X w PA pc VA vc VA' vc' TA tc XA xc XA' xc'):
    Calls Tryz.prog 111 #[.agg #[.int .i64 o.kind,.slice PA o.path.length pc,.int .i64 o.val.kind,.int .i64 o.val.num,.string o.val.text,.slice VA o.val.items.length vc,.slice VA' o.val.names.length vc',.slice TA o.to.length tc],.agg #[.int .i64 X.kind,.int .i64 X.num,.string X.text,.slice XA X.items.length xc,.slice XA' X.names.length xc',.bool f,.bool ia]] w (OpR S (lk o (if f then some X else none)) w):=by
  have hbx:=fd.new (S:=S) (o:=o) (X:=X) (f:=f) (ia:=ia) (W:=w) (PA:=PA) (pc:=pc) (VA:=VA) (vc:=vc) (VA':=VA') (vc':=vc') (TA:=TA) (tc:=tc) (XA:=XA) (xc:=xc) (XA':=XA') (xc':=xc');obtain⟨w2,hw2⟩: ∃W,W=(w.alloc (.cells #[.int .i64 o.kind,.slice PA o.path.length pc,.int .i64 o.val.kind,.int .i64 o.val.num,.string o.val.text,.slice VA o.val.items.length vc,.slice VA' o.val.names.length vc',.slice TA o.to.length tc] 51)).alloc (.cells #[.int .i64 X.kind,.int .i64 X.num,.string X.text,.slice XA X.items.length xc,.slice XA' X.names.length xc',.bool f,.bool ia] 79):=⟨_,rfl⟩;rw[←hw2]at hbx;have HBX:=hid hbx;have HI:=hid h;have y1:=Go.Joins.cell_of_block hbx.ob 1;have y2:=Go.Joins.cell_of_block hbx.ob 2;have y3:=Go.Joins.cell_of_block hbx.ob 3;have y4:=Go.Joins.cell_of_block hbx.ob 4;have y5:=Go.Joins.cell_of_block hbx.ob 5;have y6:=Go.Joins.cell_of_block hbx.ob 6;have s0:=Go.Joins.cell_of_block hbx.sb 0;have s1:=Go.Joins.cell_of_block hbx.sb 1;have s5:=Go.Joins.cell_of_block hbx.sb 5;clear hbx h;go_enter Tryz.func111,Tryz.ntmps111
  cases f with
  |false=>
    go_wp2_with fail;rw[←hw2];clear hw2;go_wp2_with fail;refine(ee PA o.path.length pc o.val.kind o.val.num o.val.text VA o.val.items.length vc VA' o.val.names.length vc' w2).mono ?_;rintro e w3 ⟨rfl,hb3⟩;have HRw3:=hid (HBX.out.call hb3).below;have HZw3:Hid (w.heap.size≤w3.heap.size):=hid (by have:=(HBX.out.call hb3).size;omega);clear hb3 y1 y2 y3 y4 y5 y6 s0 s1 s5;go_wp2_with fail;obtain⟨w4,hrw4⟩: ∃W,W=w3.alloc (.cells #[.int .i64 1,.slice PA o.path.length pc,.int .i64 o.val.kind,.int .i64 o.val.num,.string o.val.text,.slice VA o.val.items.length vc,.slice VA' o.val.names.length vc',.int .i64 0] 58):=⟨_,rfl⟩;have HNw4:Hid (w4.heap[w3.heap.size]? =some (.cells #[.int .i64 1,.slice PA o.path.length pc,.int .i64 o.val.kind,.int .i64 o.val.num,.string o.val.text,.slice VA o.val.items.length vc,.slice VA' o.val.names.length vc',.int .i64 0] 58 (0,0))):=hid (by rw[hrw4];exact heap_alloc_new w3 _);have HRw4:Hid (Below w.heap.size w w4):=hid (by rw[hrw4];exact HRw3.out.alloc (by have:=HZw3.out;omega) _);rw[←hrw4];clear hrw4;refine(cB _ 1 1 w4).mono ?_;rintro e w9 ⟨rfl,rfl⟩;go_wp2_with fail
    go_ret2
    exact OpR.one HRw4.out HNw4.out HZw3.out (em ((HI.out.path.keep (fun b hb=>HRw4.out.block b (HI.out.lt b hb))).imp fun b hb=> .inl ⟨hb,HI.out.lt b hb⟩) HI.out.p0 HI.out.pc HI.out.pl ((HI.out.val.keep (fun b hb=>HRw4.out.block b (HI.out.lt b hb))).imp fun b hb=> .inl ⟨hb,HI.out.lt b hb⟩))
  |true=>
    by_cases hx3:X.kind=3;rotate_left
    · have d:(X.kind != 3)=true:=by simp[hx3]
      have HE:Hid (lk o (some X)=(50,[])):=hid (by unfold lk;simp[hx3]);clear hx3;go_wp2_with fail;rw[←hw2];clear hw2;go_wp2_with fail
      go_ret2
      rw[HE.out];exact OpR.no 50 HBX.out.below
    · have d:(X.kind != 3)=false:=by simp[hx3]
      have hov:=vA (a:=X.num) (b:=o.val.num) (zI HI.out.x).2 (zI HI.out.val).2;have HX3:=hid hx3;clear hx3;cases d1:decide (wrap64 (X.num+o.val.num)<X.num)<;>cases d2:decide (o.val.num<0)<;>rw[d1,d2]at hov;rotate_left;rotate_left;rotate_left
      rotate_right
      rotate_right
      all_goals first
        |(have _g:(false != true)= !decide (wrap64 (X.num+o.val.num)=X.num+o.val.num):=hov
          have HE:Hid (lk o (some X)=(80,[])):=hid (by unfold lk;simp only[HX3.out];rw[if_neg (by simp),if_neg (by simpa using hov)]);clear hov _g;go_wp2_with fail;rw[←hw2];clear hw2;go_wp2_with fail
          go_ret2
          rw[HE.out]
          exact OpR.no 80 HBX.out.below)
        |(have _g:(true != false)= !decide (wrap64 (X.num+o.val.num)=X.num+o.val.num):=hov
          have HE:Hid (lk o (some X)=(80,[])):=hid (by unfold lk;simp only[HX3.out];rw[if_neg (by simp),if_neg (by simpa using hov)]);clear hov _g;go_wp2_with fail;rw[←hw2];clear hw2;go_wp2_with fail
          go_ret2
          rw[HE.out]
          exact OpR.no 80 HBX.out.below)
        |(have HE:Hid (lk o (some X)=(0,[ec o.path (um (wrap64 (X.num+o.val.num)))])):=hid (by unfold lk;simp only[HX3.out];rw[if_neg (by simp),if_pos (by simpa using hov)])
          clear hov;go_wp2_with fail;rw[←hw2];clear hw2;obtain⟨wd,hwd⟩: ∃W,W=w2.drew:=⟨_,rfl⟩;have HRwd:Hid (Below w.heap.size w wd):=hid (by rw[hwd];exact HBX.out.below.drew);have HZwd:Hid (w.heap.size+2≤wd.heap.size):=hid (by rw[hwd];exact HBX.out.size);have HHwd:Hid (∀b:Nat,wd.heap[b]? =w2.heap[b]?):=hid (fun b=>by rw[hwd];rfl);have z1:=fun q:af (aE wd.heap.size) wd=>(World.cell?_of_block (a:=⟨w.heap.size,1,none⟩) ((q.h.block w.heap.size (by have:=HZwd.out;omega)).trans (HHwd.out w.heap.size))).trans y1;clear y1 y2 y3 y4 y5 y6 s0 s1 s5;refine av (aE wd.heap.size) (aE.refl _) (aE.trans _) [9,10] (.pure [0,1,2] (.step 3 (.step 4 (.step 5 (.step 6 (.free [7,8] (.tail [9,10]))))))) (by kernel_rfl) (by kernel_rfl) (fun _ d _ _ _ h=>by cases d<;>exact h) ?_;rw[←hwd];clear hwd;refine bN ?_;simp only[atR];show wpQuiet _ _ _ _ [_,_,_] _;try simp only[acR,Act.put]
          repeat(go_big_quiet_step (fail))
          refine wpQuiet_nil ?_;clear z1;refine ah rfl (fun K hK=> ?_)
          go_simp
          refine(yR wd (wrap64 (X.num+o.val.num))).mono ?_;rintro e w3 ⟨rfl,hb3⟩;refine hK _ _ (.inr hb3) ?_;clear hK K;refine ah rfl (fun K hK=> ?_)
          go_simp
          refine(ee PA o.path.length pc 3 (wrap64 (X.num+o.val.num)) ⟨#[]⟩ none 0 0 none 0 0 w3).mono ?_;rintro e w4 ⟨rfl,hb4⟩;refine hK _ _ (.inr (hb4.mono hb3.size)) ?_;clear hK K;have HRw4:Hid (Below w.heap.size w w4):=hid (HRwd.out.trans ((hb3.mono (by have:=HZwd.out;omega)).trans (hb4.mono (by have:=hb3.size;have:=HZwd.out;omega))));have HZw4:Hid (wd.heap.size≤w4.heap.size):=hid (Nat.le_trans hb3.size hb4.size);clear hb3 hb4;refine ah rfl (fun K hK=> ?_)
          go_simp
          obtain⟨w5,hw5⟩: ∃W,W=w4.alloc (.cells #[.int .i64 1,.slice PA o.path.length pc,.int .i64 3,.int .i64 (wrap64 (X.num+o.val.num)),.string ⟨#[]⟩,.slice none 0 0,.slice none 0 0,.int .i64 0] 58):=⟨_,rfl⟩;have HN5:Hid (w5.heap[w4.heap.size]? =some (.cells #[.int .i64 1,.slice PA o.path.length pc,.int .i64 3,.int .i64 (wrap64 (X.num+o.val.num)),.string ⟨#[]⟩,.slice none 0 0,.slice none 0 0,.int .i64 0] 58 (0,0))):=hid (by rw[hw5];exact heap_alloc_new w4 _);have HRw5:Hid (Below w.heap.size w w5):=hid (by rw[hw5];exact HRw4.out.alloc (by have:=HZw4.out;have:=HZwd.out;omega) _);have hb5:Below w4.heap.size w4 w5:=by rw[hw5];exact(Below.refl _ _).alloc (Nat.le_refl _) _
          rw[←hw5];clear hw5;refine hK _ _ (.inr (hb5.mono HZw4.out)) ?_;clear hK K hb5;refine ah rfl (fun K hK=> ?_)
          go_simp
          refine(cB _ 1 1 w5).mono ?_;rintro e w9 ⟨rfl,rfl⟩;refine hK _ _ (.inr (Below.refl _ _)) ?_;clear hK K;refine bm ?_;simp only[atR];show wpQuiet _ _ _ _ [_,_] _;try simp only[acR,Act.put]
          repeat(go_big_quiet_step (fail))
          refine wpQuiet_nil ?_;refine aw rfl (fun K hK=> ?_)
          go_simp
          refine hK _ _ ?_;clear hK K;refine aw rfl (fun K hK=> ?_)
          go_simp
          refine hK _ _ ?_;clear hK K;refine aX ?_;go_wp2_with fail
          go_ret2
          rw[HE.out]
          exact OpR.one HRw5.out HN5.out (by have:=HZw4.out;have:=HZwd.out;omega) (em (x:=um (wrap64 (X.num+o.val.num))) ((HI.out.path.keep (fun b hb=>HRw5.out.block b (HI.out.lt b hb))).imp fun b hb=> .inl ⟨hb,HI.out.lt b hb⟩) HI.out.p0 HI.out.pc HI.out.pl (fi _ _ 3 (wrap64 (X.num+o.val.num)) ⟨#[]⟩ (by unfold Rng;omega) (by unfold Rng wrap64;omega) (by decide))))
theorem pK : ∀(args:Array Value) (W:World),(callFunc 110 args).run Tryz.prog W= .ok (.enter 110 args) W:=fun _ _=>by simp[callFunc,go_sem,Tryz.func110,Tryz.f110]
theorem tH : ∀(args:Array Value) (W:World),(callFunc 111 args).run Tryz.prog W= .ok (.enter 111 args) W:=fun _ _=>by simp[callFunc,go_sem,Tryz.func111,Tryz.f111]
theorem rK : ∀(args:Array Value) (W:World),(callFunc 112 args).run Tryz.prog W= .ok (.enter 112 args) W:=fun _ _=>by simp[callFunc,go_sem,Tryz.func112,Tryz.f112]
theorem qt : ∀(args:Array Value) (W:World),(callFunc 113 args).run Tryz.prog W= .ok (.enter 113 args) W:=fun _ _=>by simp[callFunc,go_sem,Tryz.func113,Tryz.f113]
theorem ou : ∀(args:Array Value) (W:World),(callFunc 114 args).run Tryz.prog W= .ok (.enter 114 args) W:=fun _ _=>by simp[callFunc,go_sem,Tryz.func114,Tryz.f114]
theorem ir : ∀(args:Array Value) (W:World),(callFunc 156 args).run Tryz.prog W= .ok (.enter 156 args) W:=fun _ _=>by simp[callFunc,go_sem,Tryz.func156,Tryz.f156]
structure AU (o:OpT)(X:VT):Prop where
 to:o.kind=6→0<o.to.length
 dx:ac X≤1000000
 dv:ac o.val≤1000000
 len:X.items.length≤100000
 path:o.path.length≤999
 size: ∀s∈o.path,s.size≤140737488351232
theorem xN (S:Nat→Prop)(o:OpT)(X:VT)(f ia:Bool)(w0 w1 W:World)(u:Value)(PA:Option Addr)(pc:Nat)(VA:Option Addr)(vc:Nat)(VA':Option Addr)(vc':Nat)(TA:Option Addr)(tc:Nat)(XA:Option Addr)(xc:Nat)(XA':Option Addr)(xc':Nat)(hu:OpV o.kind w0 w1 u)(hW:Below w1.heap.size w1 W)(h:qu S o X W PA pc VA vc VA' vc' TA tc XA xc XA' xc')(hk:AU o X)(htab:Lib.TabIs Tryz.prog W "internal/strconv.uint64pow10" .u64 Lib.pow10Tab):
  ∃gf cap,u= .func (.func gf) #[] cap∧(∀(args:Array Value) (W:World),(callFunc gf args).run Tryz.prog W= .ok (.enter gf args) W)∧
   Calls Tryz.prog gf (#[.agg #[.int .i64 o.kind,.slice PA o.path.length pc,.int .i64 o.val.kind,.int .i64 o.val.num,.string o.val.text,.slice VA o.val.items.length vc,.slice VA' o.val.names.length vc',.slice TA o.to.length tc],.agg #[.int .i64 X.kind,.int .i64 X.num,.string X.text,.slice XA X.items.length xc,.slice XA' X.names.length xc',.bool f,.bool ia]]++cap) W (OpR S (opU o (if f then some X else none) ia) W):=by
 have d1:ac X≤4611686018427387903:=by have:=hk.dx;omega
 have d2:ac o.val≤4611686018427387903:=by have:=hk.dv;omega
 have hway: ∀gf,yi gf w0 w1 u→W.cell? ⟨w0.heap.size,0,none⟩=some (.func (.func gf) #[] #[])∧w0.heap.size<W.heap.size:=fun gf hw=>
  ⟨(hW.cell (p:=⟨w0.heap.size,0,none⟩) hw.2.2).trans hw.2.1,Nat.lt_of_lt_of_le hw.2.2 hW.size⟩
 rcases hu with ⟨k,rfl⟩|⟨k,rfl⟩|⟨k,rfl⟩|⟨k,rfl⟩|⟨k,rfl⟩|⟨k,hw⟩|⟨k,hw⟩|⟨⟨n2,n3,n4,n5,n6,n7,n8⟩,hw⟩
 ·refine⟨_,_,rfl,pK,?_⟩;rw[show opU o (if f then some X else none) ia=qg o (if f then some X else none) by unfold opU;simp[k]];exact sI S o X f ia W PA pc VA vc VA' vc' TA tc XA xc XA' xc' h
 ·refine⟨_,_,rfl,tH,?_⟩;rw[show opU o (if f then some X else none) ia=lk o (if f then some X else none) by unfold opU;simp[k]];exact yK S o X f ia W PA pc VA vc VA' vc' TA tc XA xc XA' xc' h
 ·refine⟨_,_,rfl,rK,?_⟩;rw[show opU o (if f then some X else none) ia=ev o (if f then some X else none) by unfold opU;simp[k]];exact vP S o X f ia W PA pc VA vc VA' vc' TA tc XA xc XA' xc' h hk.dv hk.path hk.size htab
 ·refine⟨_,_,rfl,qt,?_⟩;rw[show opU o (if f then some X else none) ia=hO o (if f then some X else none) by unfold opU;simp[k]];exact wA S o X f ia W PA pc VA vc VA' vc' TA tc XA xc XA' xc' h hk.dx hk.dv hk.len
 ·refine⟨_,_,rfl,ou,?_⟩;rw[show opU o (if f then some X else none) ia=kh o (if f then some X else none) ia by unfold opU;simp[k]];exact qQ S o X f ia W PA pc VA vc VA' vc' TA tc XA xc XA' xc' h (hk.to k)
 ·refine⟨_,_,hw.1,ir,?_⟩;rw[show opU o (if f then some X else none) ia=jD (fun c=>decide (0<c)) o (if f then some X else none) by unfold opU;simp[k]];exact lh S o X f ia W PA pc VA vc VA' vc' TA tc XA xc XA' xc' h _ 116 oy qL w0.heap.size (hway _ hw).1 (hway _ hw).2 d1 d2
 ·refine⟨_,_,hw.1,ir,?_⟩;rw[show opU o (if f then some X else none) ia=jD (fun c=>decide (c<0)) o (if f then some X else none) by unfold opU;simp[k]];exact lh S o X f ia W PA pc VA vc VA' vc' TA tc XA xc XA' xc' h _ 117 oo rY w0.heap.size (hway _ hw).1 (hway _ hw).2 d1 d2
 ·refine⟨_,_,hw.1,ir,?_⟩;rw[show opU o (if f then some X else none) ia=jD (fun c=> !decide (c=0)) o (if f then some X else none) by unfold opU;simp[n2,n3,n4,n5,n6,n7,n8]];exact lh S o X f ia W PA pc VA vc VA' vc' TA tc XA xc XA' xc' h _ 118 oq qZ w0.heap.size (hway _ hw).1 (hway _ hw).2 d1 d2
def jX (w:World)(A:Option Addr)(l:List OpT):Prop:= ∀k,k<l.length→ ∀b off,A=some ⟨b,off,none⟩→ ∀PA n pc,w.cell? ⟨b,off+k * 8+1,none⟩=some (.slice PA n pc)→pc≤9223372036854775807
theorem jX.keep {w w':World}{A:Option Addr}{l:List OpT}{S:Nat→Prop}(h:jX w A l)(hl:dQ w S A l)(hk: ∀b,S b→w'.heap[b]? =w.heap[b]?):jX w' A l:=fun k hkl b off hA PA n pc hc=>by
 obtain⟨b',off',hA',hb,-⟩:=hl (by omega);rw[hA]at hA';injection hA' with hA'
 injection hA' with e1 e2
 subst e1 e2;exact h k hkl b off hA PA n pc ((World.cell?_of_block (a:=⟨b,off+k * 8+1,none⟩) (hk b hb)).symm.trans hc)
def lM (w:World)(l:List OpT)(cs:Array Value):Prop:= ∀OA n c,cs[6]? =some (.slice OA n c)→jX w OA l
theorem dQ.cellsC {w:World}{S:Nat→Prop}{A:Option Addr}{l:List OpT}(h:dQ w S A l)(hc:jX w A l)(k:Nat)(hk:k<l.length): ∃b off PA pc VA vc VA' vc' TA tc,A=some ⟨b,off,none⟩∧S b∧pc≤9223372036854775807∧OpL w S l[k] #[.int .i64 l[k].kind,.slice PA l[k].path.length pc,.int .i64 l[k].val.kind,.int .i64 l[k].val.num,.string l[k].val.text,.slice VA l[k].val.items.length vc,.slice VA' l[k].val.names.length vc',.slice TA l[k].to.length tc]∧
  w.rangeAt b (off+k * 8) [.int .i64 l[k].kind,.slice PA l[k].path.length pc,.int .i64 l[k].val.kind,.int .i64 l[k].val.num,.string l[k].val.text,.slice VA l[k].val.items.length vc,.slice VA' l[k].val.names.length vc',.slice TA l[k].to.length tc]:=by
 obtain⟨b,off,hA,hb,hcs⟩:=h (by omega);obtain⟨cs,h1,h2⟩:=hcs k hk;have h2':=h2;obtain⟨PA,pc,a,b',c,d,e,TA,tc,rfl,hv,-⟩:=h2';obtain⟨VA,vc,VA',vc',hvs,-⟩:=hv.shape;simp only[Value.agg.injEq,Array.mk.injEq,List.cons.injEq,and_true]at hvs;obtain⟨rfl,rfl,rfl,rfl,rfl⟩:=hvs;exact⟨b,off,PA,pc,VA,vc,VA',vc',TA,tc,hA,hb,hc k hk b off hA _ _ _ (h1 1 _ rfl),h2,fun j v hv=>h1 j v (by simpa using hv)⟩
theorem uz (o:OpT)(x:Option VT)(ia:Bool):(opU o x ia).2.length≤2:=by
 unfold opU qg lk ev hO kh jD;cases x<;>(repeat' split)<;>simp
theorem lV {P:Program}(w:World)(t e ty:TypeId)(i:TypeInfo)(ht:P.underlying t=some (.slice e))(hi:P.info? e=some i)(A:Option Addr)(n c c2:Nat)(hn:n≤c):
  (Builtin.append_ #[t,t] ty #[.slice A n c,.slice none 0 c2]).run P w= .ok (.slice A n c) w:=by
 cases A with
 |none=>simp[Builtin.append_,run_underlying ht,sizeOf,typeInfo,hi,Builtin.lenOf,Builtin.firstCells,hn]
 |some a=>simp[Builtin.append_,run_underlying ht,sizeOf,typeInfo,hi,Builtin.lenOf,Builtin.firstCells,hn,storeCells]
theorem jp {P:Program}{ops:Array Oper}{rest:List Oper}{o:Oper}{a:Act}{w:World}{Q:Exit→Act→World→Prop}(hgd:o.guard=none)(s x:Operand)(t:TypeId)
  (ho:o.op= .call { callee:= .builtin .append,args:= #[s,x],argTypes:= #[t,t] }) (e:TypeId) (i:TypeInfo) (ht:P.underlying t=some (.slice e)) (hi:P.info? e=some i)
  (A:Option Addr) (n c c2:Nat) (hs:a.eval s= .slice A n c) (hx:a.eval x= .slice none 0 c2) (hn:n≤c) (h:wpList P ops Q rest (a.put o.dst (.slice A n c)) w):wpList P ops Q (o::rest) a w:=by
 refine wpList_plain hgd fun K hK=> ?_;have hr:=lV (P:=P) w t e o.type i ht hi A n c c2 hn;unfold Oper.wp execOp;simp only[ho,resolve,invoke,builtin,Sem.run_bind,Sem.run_pure,Result.andThen_ok,List.map_toArray,List.map_cons,List.map_nil,hs,hx,hr];exact hK _ _ h
theorem OpR.of_rows {P:Nat→Prop}{w w':World}{A:Option Addr}{c:Nat}{l:List au}(h:bw cQ 8 58 P w w' A c l)(hb:Below w.heap.size w w'):OpR P (0,l) w (.returned (.tuple #[.slice A l.length c,.int .i64 0])) w':=
 ⟨A,c,rfl,h.rows fE,h.none',h.cap,hb⟩
theorem sG {v:VT}{l:List OpT}{j:Nat}{r:List au}(hj:j<l.length)(h:aY v (l.take j)=(0,r))(hx:(et v l[j]).1≠0):aY v l=((et v l[j]).1,[]):=by
 have h1:=gz v (l.take j) l[j] r h;rw[if_pos hx,←List.take_succ_eq_append_getElem hj]at h1;have h2:=lB v (l.take (j+1)) (l.drop (j+1)) (by rw[h1];exact hx);rw[List.take_append_drop,h1]at h2;exact h2
theorem sy {v:VT}{l:List OpT}{j:Nat}{r:List au}(hj:j<l.length)(h:aY v (l.take j)=(0,r))(hx:(et v l[j]).1=0):aY v (l.take (j+1))=(0,r++(et v l[j]).2):=by
 have h1:=gz v (l.take j) l[j] r h;rw[if_neg (by simp[hx]),←List.take_succ_eq_append_getElem hj]at h1;exact h1
end Go.Proofs.YtgbopnlpaabelaaGreatDoor
/- What changes a document into another one makes it, plain. -/
namespace Go.Proofs.YtgbopnlpaabelaaGreatDoor
inductive Sim :VT→VT→Prop
 |refl (t:VT):Sim t t
 |doc {v b:VT}:ao v=true→ao b=true→v.kind=7→b.kind=7→(∀s,ar v s=none↔ar b s=none)→(∀s x y,ar v s=some x→ar b s=some y→Sim x y)→Sim v b
theorem kB {t:VT}(hm:ao t=true)(hk:t.kind=7):(∀s∈t.names,bH s.data.toList=true)∧t.names.Nodup:=by
 obtain⟨-,-,-,d⟩:=(fy hk).1 ((bP t).1 hm).1;exact ci.1 d
theorem pj : ∀ {ns:List ByteArray} {l:List VT} {s:ByteArray},ns.length=l.length→(cd ns l s=none↔s∉ns)
 | [],[],s,_=>by unfold cd;simp
 |a::r,x::l,s,h=>by
  unfold cd;by_cases e:a=s
  ·rw[if_pos e];subst e;simp
  ·rw[if_neg e,pj (by simpa using h)];simp[Ne.symm e]
theorem kW {t:VT}(hm:ao t=true)(hk:t.kind=7)(s:ByteArray):ar t s=none↔s∉t.names:=by
 rw[eV hk,pj (cu hm hk)]
theorem yp {d:au}{t u:VT}(hd:co d=true)(hg:zH d)(ht:cS t=true)(h:goD d t=(0,u)):doD d t=(0,u)∧cS u=true:=by
 have hw:=jW ht (dI hd)
 have hk:u.kind=t.kind∧ao u=true:=by
  obtain⟨m,k⟩:=bB.1 ht;have:=uL hg m;rw[h]at this;refine⟨?_,this⟩
  have k2:=(ff (fin:=dV d) (fun t s r h1 h2 h3=>by
   unfold dV
   split
   ·next h=>exact mj _ (hg.val h) t s r h1 h2 h3
   ·split
    ·exact iG t s r h1 h2 h3
    ·exact jS _ t s r h1 h2 h3) d.path t m hg.names).2
  have e:(goT (dV d) t d.path).2=u:=by
   have:=h;unfold goD at this;rw[this]
  rw[e]at k2;exact k2
 refine⟨?_,bB.2 ⟨hk.2,hk.1.trans (bB.1 ht).2⟩⟩;have e0:(goT (dV d) t d.path)=(0,u):=h;rcases fm hd with k|k|⟨k,-,-⟩
 ·have ef:dV d=bz d.val:=by unfold dV;rw[if_pos k]
  rw[ef]at e0;rw[ur k (hg.val k),er hw (by rw[e0]),e0]
 ·have ef:dV d=bh:=by unfold dV;rw[if_neg (by omega),if_pos k]
  rw[ef]at e0;rw[rT k,er hw (by rw[e0]),e0]
 ·have ef:dV d=bD d.num:=by unfold dV;rw[if_neg (by omega),if_neg (by omega)]
  rw[ef]at e0;rw[uO k,er hw (by rw[e0]),e0]
/-! ### nothing to change -/
theorem sH {t x:VT}{s:ByteArray}(h:ar t s=some x):ac x+1≤ac t:=by
 obtain⟨-,hj,rfl⟩:=jP h;exact cE (List.getElem_mem hj)
theorem nY : ∀(ns:List ByteArray) (l:List VT),ns.length=l.length→ns.Nodup→l=ns.map fun s=>(cd ns l s).getD aT
 | [],[],_,_=>rfl
 |a::r,x::l,h,hd=>by
  obtain⟨ha,hd2⟩:=List.nodup_cons.1 hd;have ih:=nY r l (by simpa using h) hd2;rw[List.map_cons];have h1:(cd (a::r) (x::l) a).getD aT=x:=by unfold cd;rw[if_pos rfl];rfl
  have h2:r.map (fun s=>(cd (a::r) (x::l) s).getD aT)=r.map fun s=>(cd r l s).getD aT:=List.map_congr_left fun s hs=>by
   conv=>lhs;unfold cd
   rw[if_neg (fun(e:a=s)=>ha (by rw[e];exact hs))]
  rw[h1,h2,←ih]
theorem lc {t:VT}(hm:ao t=true)(hk:t.kind=7):t.items=t.names.map fun s=>(ar t s).getD aT:=by
 have h:=nY t.names t.items (cu hm hk) (kB hm hk).2
 conv=>lhs;rw[h]
 exact List.map_congr_left fun s _=>by rw[eV hk]
theorem yG {t x:VT}(hm:ao t=true)(hk:t.kind=7)(h:x∈t.items): ∃s,ar t s=some x:=by
 rw[lc hm hk]at h;obtain⟨s,hs,e⟩:=List.mem_map.1 h
 cases hi:ar t s with
 |none=>exact absurd hs ((kW hm hk s).1 hi)
 |some y=>rw[hi]at e;exact⟨s,by rw[hi,←e];rfl⟩
theorem sT {v b:VT}(hv:ao v=true)(hb:ao b=true)(kv:v.kind=7)(kb:b.kind=7)(h: ∀s,ar v s=none↔ar b s=none):v.names.Perm b.names:=by
 refine(List.perm_ext_iff_of_nodup (kB hv kv).2 (kB hb kb).2).2 fun s=> ?_;have:=h s;rw[kW hv kv,kW hb kb]at this;exact Iff.intro (fun hs=>Classical.byContradiction fun hn=>this.2 hn hs) (fun hs=>Classical.byContradiction fun hn=>this.1 hn hs)
theorem sk {l l':List Nat}(h:l.Perm l'):l.sum=l'.sum:=by
 induction h with
 |nil=>rfl
 |cons x _ ih=>rw[List.sum_cons,List.sum_cons,ih]
 |swap x y l=>simp only[List.sum_cons];omega
 |trans _ _ h1 h2=>rw[h1,h2]
theorem kI : ∀l:List VT,bI l=(l.map aA).sum
 | []=>by unfold bI;rfl
 |t::r=>by
  conv=>lhs;unfold bI
  rw[kI r];rfl
theorem wJ {v b:VT}(h:Sim v b):ac v=ac b:=by
 induction h with
 |refl=>rfl
 | @doc v b hv hb kv kb h1 h2 ih=>
  have hle: ∀ {v b:VT},ao v=true→v.kind=7→(∀s,ar v s=none↔ar b s=none)→(∀s x y,ar v s=some x→ar b s=some y→ac x=ac y)→ac v≤ac b:=fun {v b} hv kv h1 ih=>by
   have hp:=fo b
   have:=gh (t:=v) (N:=ac b - 1) fun x hx=>by
    obtain⟨s,hs⟩:=yG hv kv hx
    cases hy:ar b s with
    |none=>rw[(h1 s).2 hy]at hs;cases hs
    |some y=>
     have:=sH hy;rw[ih s x y hs hy];omega
   omega
  exact Nat.le_antisymm (hle hv kv h1 ih) (hle hb kb (fun s=>(h1 s).symm) fun s x y hx hy=>(ih s y x hy hx).symm)
theorem yM {v b:VT}(h:Sim v b):aA v=aA b:=by
 induction h with
 |refl=>rfl
 | @doc v b hv hb kv kb h1 h2 ih=>
  have hp:=sT hv hb kv kb h1;have hl:v.items.length=b.items.length:=by rw[←cu hv kv,←cu hb kb];exact hp.length_eq
  have hs:bI v.items=bI b.items:=by
   rw[kI,kI,lc hv kv,lc hb kb,List.map_map,List.map_map,←sk (hp.map _)]
   congr 1
   refine List.map_congr_left fun s hs=> ?_;show aA ((ar v s).getD aT)=aA ((ar b s).getD aT)
   cases hx:ar v s with
   |none=>rw[(h1 s).1 hx]
   |some x=>
    cases hy:ar b s with
    |none=>rw[(h1 s).2 hy]at hx;cases hx
    |some y=>exact ih s x y hx hy
  have hn:eI v.names=eI b.names:=sk (hp.map _);rw[dW,dW,hs]
  congr 1
  unfold dp;rw[kv,kb,hl,hn];rfl
theorem xh {v b:VT}(h:Sim v b)(hv:ao v=true)(hb:az b=0):az v=0:=by
 unfold az at hb ⊢;rw[if_pos hv,wJ h,yM h]
 split at hb
 ·exact hb
 ·exact absurd hb (by decide)
/-! ### nothing is gathered -/
def bv (t:VT):Prop:=ao t=true∧ac t≤8∧aA t≤4096
theorem fq {t x:VT}(h:bv t)(hx:x∈t.items):bv x:=by
 obtain⟨h1,h2,h3⟩:=h;refine⟨((bP t).1 h1).2 x hx,by have:=cE hx;omega,?_⟩;have:=pd hx;rw[dW]at h3;omega
theorem ug {t x:VT}{s:ByteArray}(h:bv t)(hx:ar t s=some x):bv x:=by
 obtain⟨-,hj,rfl⟩:=jP hx;exact fq h (List.getElem_mem hj)
theorem rJ {t:VT}(h:bv t):az t=0:=(jt (by have:=h.2.2;omega)).2 h
theorem dz {t:VT}(h:az t=0)(hz:aA t≤9223372036854775807):bv t:=(jt hz).1 h
end Go.Proofs.YtgbopnlpaabelaaGreatDoor
/- What an update changes, plain: each of the changes may be, none meets another one, and none touches the id. -/
namespace Go.Proofs.YtgbopnlpaabelaaGreatDoor
open Go.RowKit
theorem pp : ∀(f n m:Nat),n≤m→(ik f n).length≤(ik f m).length
  |0,n,m,_=>by unfold ik;simp
  |f+1,n,m,h=>by
    unfold ik;have ih:=pp f (n / 128) (m / 128) (Nat.div_le_div_right h);by_cases h1:n<128
    · rw[if_pos h1];split<;>simp
    · rw[if_neg h1,if_neg (by omega)];simpa using ih
theorem xv {n m:Nat}(h:n≤m):(grp n).length≤(grp m).length:=pp 10 n m h
theorem pz : ∀(p:List ByteArray) {t x:VT},bv t→aV t p=some x→bv x
  | [],t,x,h,e=>by rw[cP]at e;injection e with e;exact e▸h
  |s::r,t,x,h,e=>by
    rw[aI]at e
    cases hi:ar t s with
    |none=>rw[hi]at e;cases e
    |some u=>rw[hi]at e;exact pz r (ug h hi) e
theorem kS {t x:VT}{p:List ByteArray}(h:bv t)(e:bC t p=some x):bv x:=by
  unfold bC at e
  split at e
  · exact pz p h e
  · cases e
theorem rg {l:List VT}{n:Nat}(h: ∀x∈l,ac x≤n):aK l≤n:=by
  induction l with
  |nil=>unfold aK;omega
  |cons a l ih=>
    unfold aK;have h1:=h a List.mem_cons_self;have h2:=ih fun x hx=>h x (List.mem_cons_of_mem _ hx);omega
theorem vI {l r:List VT}(h:l.Sublist r):bI l≤bI r:=by
  induction h with
  |slnil=>exact Nat.le_refl _
  |cons a _ ih=>conv=>rhs;unfold bI
                omega
  |cons_cons a _ ih=>unfold bI;omega
theorem vX {t:VT}{l:List VT}(h:bv t)(hk:t.kind=6)(hs:l.Sublist t.items):bv (jO l):=by
  have hl:=hs.length_le;refine⟨(bP _).2 ⟨?_,fun x hx=>((bP t).1 h.1).2 x (hs.subset hx)⟩,?_,?_⟩
  · unfold jO aU VT.kind VT.num VT.text VT.items VT.names
    simp[ByteArray.toList_eq]
  · unfold jO ac
    have:aK l≤7:=rg fun x hx=>by have:=cE (hs.subset hx);have:=h.2.1;omega
    omega
  · have h3:=h.2.2
    rw[dW]at h3 ⊢;have h4:=vI hs;have h5:=xv hl;unfold dp at h3 ⊢;rw[hk]at h3;unfold jO VT.kind VT.items;simp only[show((6:Int)=2)=False by simp,show((6:Int)=3)=False by simp,show((6:Int)=4∨(6:Int)=5)=False by simp,if_false,if_true]at h3 ⊢;omega
theorem wX (n:Int):bv (um n):=by
  refine⟨?_,?_,?_⟩
  · unfold um
    rw[bP];refine⟨?_,fun x hx=>by cases hx⟩;unfold aU VT.kind VT.num VT.text VT.items VT.names;simp[ByteArray.toList_eq]
  · unfold um ac aK;omega
  · rw[dW]
    have:=(bA (zig n)).1;unfold um VT.items VT.kind VT.num VT.text VT.names dp bI;simp;omega
theorem yX {p:List ByteArray}{x:VT}(hp:ce p=true)(hx:bv x):co (ec p x)=true:=by
  unfold co ec;simp[hp,rJ hx]
theorem mA :dO aT=true:=(gj _).2 rfl
theorem xe {p:List ByteArray}(hp:ce p=true):co (fe p)=true:=by
  unfold co fe;simp[hp,mA]
def ck (d:au):Prop:=co d=true∧((d.kind=1∧bv d.val)∨(d.kind=2∧d.val=aT))
theorem ks {p:List ByteArray}{x:VT}(hp:ce p=true)(hx:bv x):ck (ec p x):=⟨yX hp hx,.inl ⟨rfl,hx⟩⟩
theorem kX {p:List ByteArray}(hp:ce p=true):ck (fe p):=⟨xe hp,.inr ⟨rfl,rfl⟩⟩
def dj :List (List ByteArray)→List au→Prop
  |_,[]=>True
  | [],_::_=>False
  |p::ps,d::l=>(p <+: d.path∧dj ps l)∨dj ps (d::l)
theorem dj.skip {p:List ByteArray}{ps:List (List ByteArray)}: ∀ {l:List au},dj ps l→dj (p::ps) l
  | [],_=>trivial
  |_::_,h=> .inr h
theorem dj.append : ∀ {ps qs:List (List ByteArray)} {l r:List au},dj ps l→dj qs r→dj (ps++qs) (l++r)
  | [],_,[],_,_,h=>h
  | [],_,_::_,_,h,_=>h.elim
  |_::ps,_,[],r,_,h=>dj.skip (dj.append (ps:=ps) (l:=[]) (by cases ps<;>trivial) h)
  |_::_,_,_::_,_,.inl h,k=> .inl ⟨h.1,dj.append h.2 k⟩
  |_::_,_,_::_,_,.inr h,k=> .inr (dj.append h k)
theorem dj.mem : ∀ {ps:List (List ByteArray)} {l:List au},dj ps l→ ∀d∈l,∃p∈ps,p <+: d.path
  |_,[],_,d,hd=>by cases hd
  | [],_::_,h,_,_=>h.elim
  |p::_,_::_,.inl h,d,hd=>by
    rcases List.mem_cons.1 hd with rfl|hd
    · exact⟨p,List.mem_cons_self,h.1⟩
    · obtain⟨q,hq,e⟩:=dj.mem h.2 d hd;exact⟨q,List.mem_cons_of_mem _ hq,e⟩
  |_::_,_::_,.inr h,d,hd=>by obtain⟨q,hq,e⟩:=dj.mem h d hd;exact⟨q,List.mem_cons_of_mem _ hq,e⟩
theorem mB {a b:List ByteArray}:cK a b=true↔a <+: b∨b <+: a:=by
  have h: ∀a b:List ByteArray,kn a b=true↔a <+: b:=fun a b=>by
    unfold kn;rw[Bool.and_eq_true,decide_eq_true_eq,decide_eq_true_eq]
    exact⟨fun h=>⟨b.drop a.length,by conv=>lhs;lhs;rw[←h.2]
                                     exact List.take_append_drop _ _⟩,fun h=>⟨h.length_le,(List.prefix_iff_eq_take.1 h).symm⟩⟩
  unfold cK;rw[Bool.or_eq_true,h,h]
theorem Ar {a b p q:List ByteArray}(ha:p <+: a)(hb:q <+: b)(h:cK p q=false):cK a b=false:=by
  cases hm:cK a b with
  |false=>rfl
  |true=>
    exfalso
    have hpq:cK p q=true:=mB.2 (by
      rcases mB.1 hm with k|k
      · exact List.prefix_or_prefix_of_prefix (ha.trans k) hb
      · exact List.prefix_or_prefix_of_prefix ha (hb.trans k))
    rw[h]at hpq;cases hpq
theorem dj.free : ∀ {ps:List (List ByteArray)} {l:List au},ps.Pairwise (fun q p=>cK p q=false)→dj ps l→(gT l).Pairwise (fun q p=>cK p q=false)
  |_,[],_,_=>List.Pairwise.nil
  | [],_::_,_,h=>h.elim
  |p::ps,d::l,hp,.inl h=>by
    obtain⟨h1,h2⟩:=List.pairwise_cons.1 hp;refine List.pairwise_cons.2 ⟨fun q hq=> ?_,dj.free h2 h.2⟩;obtain⟨x,hx,rfl⟩:=List.mem_map.1 hq;obtain⟨y,hy,e⟩:=h.2.mem x hx
    exact Ar e h.1 (h1 y hy)
  |p::ps,d::l,hp,.inr h=>dj.free (List.pairwise_cons.1 hp).2 h
theorem dj.one {p:List ByteArray}{ps:List (List ByteArray)}{d:au}(h:p <+: d.path):dj (p::ps) [d]:= .inl ⟨h,by cases ps<;>trivial⟩
theorem ql {v:VT}{o:OpT}{r:List au}(hv:bv v)(ho:bc o=true)(hz:aA o.val≤9223372036854775807)(h:et v o=(0,r)):dj (bk o) r∧ ∀d∈r,ck d:=by
  have nilc:dj (bk o) []∧ ∀d∈([]:List au),ck d:=⟨by cases bk o<;>trivial,fun d hd=>by cases hd⟩;unfold bc at ho;rw[Bool.and_eq_true]at ho;obtain⟨hp,ho⟩:=ho;unfold et opU at h;have hgot: ∀x,bC v o.path=some x→bv x:=fun x e=>kS hv e;generalize bC v o.path=got at h hgot;generalize jq v o.path=ia at h;have one1: ∀ {d:au},o.kind≠6→o.path <+: d.path→ck d→dj (bk o) [d]∧ ∀x∈[d],ck x:=fun {d} h6 h1 h2=>⟨by unfold bk;rw[if_neg h6];exact dj.one h1,fun x hx=>by rw[List.mem_singleton.1 hx];exact h2⟩;have hself:o.path <+: o.path:=List.prefix_refl _;by_cases k2:o.kind=2
  · rw[if_pos k2]at h
    cases got with
    |none=>injection h with _ h;subst h;exact nilc
    |some x=>injection h with _ h;subst h;exact one1 (by omega) hself (kX hp)
  rw[if_neg k2]at h;by_cases k6:o.kind=6
  · rw[if_neg (by omega),if_neg (by omega),if_neg (by omega),if_pos k6]at h
    cases got with
    |none=>injection h with _ h;subst h;exact nilc
    |some x=>
      unfold kh at h
      cases ia with
      |true=>simp at h
      |false=>
        simp only[Bool.false_eq_true,if_false]at h;injection h with _ h;subst h
        rw[k6]at ho;simp at ho;refine⟨?_,?_⟩
        · unfold bk;rw[if_pos k6];exact .inl ⟨hself,dj.one (List.prefix_refl _)⟩
        · intro d hd
          rcases List.mem_cons.1 hd with rfl|hd
          · exact kX hp
          · rw[List.mem_singleton.1 hd];exact ks ho.2 (hgot x rfl)
  have hval:bv o.val:=by
    rw[if_neg k6]at ho
    split at ho
    · simp only[Bool.and_eq_true,decide_eq_true_eq]at ho;exact dz ho.1.2 hz
    · split at ho
      · simp only[Bool.and_eq_true,decide_eq_true_eq]at ho;exact dz ho.1 hz
      · cases ho
  have hset: ∀ {x:VT},bv x→dj (bk o) [ec o.path x]∧ ∀d∈[ec o.path x],ck d:=fun hx=>one1 k6 hself (ks hp hx);by_cases k3:o.kind=3
  · rw[if_pos k3]at h
    unfold lk at h
    cases got with
    |none=>injection h with _ h;subst h;exact hset hval
    |some x=>
      simp only at h
      split at h
      · injection h with h _;cases h
      · split at h
        · injection h with _ h;subst h;exact hset (wX _)
        · injection h with h _;cases h
  rw[if_neg k3]at h;by_cases k4:o.kind=4
  · rw[if_pos k4]at h
    unfold ev at h
    cases got with
    |none=>
      simp only at h
      split at h
      · rename_i hc
        injection h with _ h;subst h
        refine hset (dz hc ?_);have:=hval.2.2;rw[dW];have:=(bA 1).1;unfold jO VT.items VT.kind VT.num VT.text VT.names dp bI bI;simp;omega
      · rename_i hc
        injection h with h _;exact absurd h hc
    |some x=>
      simp only at h
      split at h
      · injection h with h _;cases h
      · split at h
        · injection h with h _;cases h
        · split at h
          · rename_i hm
            injection h with _ h;subst h
            exact one1 k6 (List.prefix_append _ _) (ks hm hval)
          · injection h with h _;cases h
  rw[if_neg k4]at h;by_cases k5:o.kind=5
  · rw[if_pos k5]at h
    unfold hO at h
    cases got with
    |none=>injection h with _ h;subst h;exact nilc
    |some x=>
      simp only at h
      split at h
      · injection h with h _;cases h
      · rename_i hk
        split at h
        · injection h with _ h;subst h;exact nilc
        · injection h with _ h;subst h
          exact hset (vX (hgot x rfl) (by simpa using hk) List.filter_sublist)
  rw[if_neg k5,if_neg k6]at h
  have way: ∀ {g:Int→Bool},jD g o got=(0,r)→dj (bk o) r∧ ∀d∈r,ck d:=fun {g} h=>by
    unfold jD at h
    cases got with
    |none=>injection h with _ h;subst h;exact hset hval
    |some x=>
      simp only at h
      split at h
      · injection h with _ h;subst h;exact hset hval
      · injection h with _ h;subst h;exact nilc
  split at h
  · exact way h
  · split at h
    · exact way h
    · exact way h
theorem lG {v:VT}(hv:bv v): ∀ {l:List OpT} {r:List au},(∀o∈l,bc o=true∧aA o.val≤9223372036854775807)→aY v l=(0,r)→dj (aD l) r∧ ∀d∈r,ck d
  | [],r,_,h=>by injection h with _ h;subst h;exact⟨trivial,fun d hd=>by cases hd⟩
  |o::l,r,hl,h=>by
    rw[bs]at h
    split at h
    · rename_i h1;injection h with h _;exact absurd h h1
    · rename_i h1
      split at h
      · rename_i h2;injection h with h _;exact absurd h h2
      · rename_i h2
        injection h with _ h
        subst h;have a:=ql (r:=(et v o).2) hv (hl o List.mem_cons_self).1 (hl o List.mem_cons_self).2 (Prod.ext (by simpa using h1) rfl);have b:=lG (r:=(aY v l).2) hv (fun x hx=>hl x (List.mem_cons_of_mem _ hx)) (Prod.ext (by simpa using h2) rfl);refine⟨by rw[jU];exact dj.append a.1 b.1,fun d hd=> ?_⟩;exact(List.mem_append.1 hd).elim (a.2 d) (b.2 d)
end Go.Proofs.YtgbopnlpaabelaaGreatDoor
