/- pull: the items that go are taken out of a copy's row. -/
import Derived.Test.YtgbopnlpaabelaaGreatDoorKUpJ
import Derived.Test.YtgbopnlpaabelaaGreatDoorKRefO
import Derived.Test.YtgbopnlpaabelaaGreatDoorKValQ
set_option maxHeartbeats 64000000
set_option maxRecDepth 100000
set_option linter.unusedVariables false
set_option linter.unusedSimpArgs false
namespace Go.Proofs.YtgbopnlpaabelaaGreatDoor
open Lib (hid)
open Go.RowKit
def gE (l:List VT)(x:VT):List VT:=l.filter fun z=> !(fK z x == 0)
theorem tD {Z:List (VT×List Value)}{l:List VT}(x:VT)(h:Z.map (·.1)=l):(Z.filter (dM x)).map (·.1)=gE l x:=by
 subst h;unfold gE;rw[List.filter_map];rfl
theorem vr (x:VT)(B:Nat)(VA:Option Addr)(vc:Nat)(VA':Option Addr)(vc':Nat)(S:Nat→Prop)(w:World)(hS: ∀b,S b→b<w.heap.size)(hP:fs S x B VA vc VA' vc' w)(dx:ac x≤4611686018427387903):
  Calls Tryz.prog 152 #[.slice none 0 0,.func (.func 154) #[] #[.pointer (some ⟨B,0,none⟩)]] w fun e w'=>e= .returned (.slice none 0 0)∧Below w.heap.size w w':=by
 have HIF:=hid (oz S none 0 [] x B VA vc VA' vc' w hS (fun h=>absurd h (by simp)) hP (by simp) (fun y hy=>(by cases hy)) dx);simp only[List.length_nil]at HIF;clear hS hP dx;go_enter Tryz.func152,Tryz.ntmps152;go_wp2_with fail;refine HIF.out.mono ?_;rintro e w1 ⟨h,hb1⟩;have HB1:=hid hb1;clear hb1 HIF;rcases h with ⟨k,hk,-⟩|⟨rfl,-⟩
 ·exact absurd hk (Nat.not_lt_zero _)
 ·go_wp2_with fail;go_ret;exact⟨rfl,HB1.out⟩
theorem vG (S:Nat→Prop)(A:Option Addr)(c:Nat)(l:List VT)(x:VT)(B:Nat)(VA:Option Addr)(vc:Nat)(VA':Option Addr)(vc':Nat)(w2 w3:World)(hS: ∀b,S b→b<w2.heap.size)(hr:bw LVC 5 25 S w2 w3 A c l)(hb:Below w2.heap.size w2 w3)(hP:fs S x B VA vc VA' vc' w2)(hl:l.length≤100000)(hd: ∀y∈l,ac y≤4611686018427387903)(dx:ac x≤4611686018427387903):
  Calls Tryz.prog 152 #[.slice A l.length c,.func (.func 154) #[] #[.pointer (some ⟨B,0,none⟩)]] w3 fun e w'=> ∃A' c',e= .returned (.slice A' (gE l x).length c')∧LVA w' (fun b=>S b∨(w2.heap.size≤b∧b<w'.heap.size)) A' (gE l x)∧Below w2.heap.size w2 w':=by
 have hP3:=hP.below hS hb;have hS3: ∀b,S b→b<w3.heap.size:=fun b h=>Nat.lt_of_lt_of_le (hS b h) hb.size;have hnone:=hr.none';obtain⟨xs,S',h1,h2,h3⟩:=hr;rcases h1.2 with ⟨e,h0⟩|⟨g,cap,C0,e,hB,hh,hle,hm,hcz,ht⟩
 ·injection e with e1 e2 e3
  subst e1;obtain⟨rfl,rfl⟩:=hnone rfl;exact(vr x B VA vc VA' vc' S w3 hS3 hP3 dx).mono fun e w' ⟨h,k⟩=>⟨none,0,h,fun h=>absurd h (by simp[gE]),hb.trans (k.mono hb.size)⟩
 ·injection e with e1 e2 e3
  subst e1 e3;obtain⟨Z,z1,z2,z3⟩:=pw h2;have hzl:Z.length=l.length:=by rw[←z1,List.length_map]
  have hgl:g<w3.heap.size:=(Array.getElem?_eq_some_iff.1 hh).1
  have hSS: ∀b,(S b∨S' b)→b<w3.heap.size∧b≠g:=fun b h=>by
   rcases h with h|h
   ·exact⟨hS3 b h,by have:=hS b h;omega⟩
   ·rcases h3 b h with k|k
    ·exact⟨hS3 b k.1,by have:=k.2;omega⟩
    ·exact⟨k.2.1,k.2.2 g rfl⟩
  have hC: ∀t (ht:t<Z.length) k,k<5→C0[t * 5+k]? =Z[t].2[k]? :=fun t htl k hk=>by
   rw[←z3 t htl k hk,←ht,List.getElem?_take_of_lt (by omega),Array.getElem?_toList]
  have H:=vR (fun b=>S b∨S' b) g c Z C0 x B VA vc VA' vc' w3 hSS (by have:=hP.lt;omega) hh hcz (by omega) (by unfold maxLen at hm;omega) hC (fun z hz=>eg.imp (z2 z hz) fun b hb=> .inr hb) (hP3.imp fun b hb=> .inl hb) (by omega) (fun z hz=>hd _ (by rw[←z1];exact List.mem_map.2 ⟨z,hz,rfl⟩)) dx;rw[tD x z1,hzl]at H;refine H.mono fun e w' ⟨r1,r2,r3⟩=>⟨_,_,r1,r2.imp fun b hb'=> ?_,?_⟩
  ·rcases hb' with (h|h)|h
   ·exact .inl h
   ·rcases h3 b h with k|k
    ·exact .inl k.1
    ·exact .inr ⟨k.1,Nat.lt_of_lt_of_le k.2.1 r3.size⟩
   ·subst h;exact .inr ⟨hB,Nat.lt_of_lt_of_le hgl r3.size⟩
  ·exact⟨r3.os.trans hb.os,r3.tape.trans hb.tape,r3.output.trans hb.output,Nat.le_trans hb.size r3.size,fun b hb'=>(r3.block b (Nat.lt_of_lt_of_le hb' hb.size) (by intro e;injection e with e;omega)).trans (hb.block b hb')⟩
def emp :ByteArray:=⟨#[]⟩
theorem sl :emp.size=0:=rfl
theorem oW (S:Nat→Prop)(A:Option Addr)(c:Nat)(l:List VT)(w:World)(hS: ∀b,S b→b<w.heap.size)(h:LVA w S A l)(hl:l.length≤1759218604390):
  Calls Tryz.prog 155 #[.slice A l.length c] w fun e w'=> ∃v',e= .returned v'∧LV w' (New w.heap.size w') (.mk 6 0 emp l []) v'∧Below w.heap.size w w':=by
 obtain⟨o,ho⟩: ∃o:Obj,o= .cells #[.int .i64 0,.int .i64 0,.string ⟨#[]⟩,.slice none 0 0,.slice none 0 0] 25:=⟨_,rfl⟩;have hY:Box (w.alloc o) w.heap.size (.int .i64 0) (.int .i64 0) (.string ⟨#[]⟩) (.slice none 0 0) (.slice none 0 0):=by rw[ho];exact Box.new _ _ _ _ _
 have HA:=hid (ke S A c l (w.alloc o) (de hS o) (h.keep fun b hb=>Below.heap_alloc w o b (hS b hb)) hl);have HY:=hid hY;have HL:=hid hl;subst ho;clear h hY hl;go_enter Tryz.func155,Tryz.ntmps155;go_wp2_with fail;refine HA.out.mono ?_;rintro e w2 ⟨A2,c2,rfl,hla,hb2⟩;have hy:=HY.out.call hb2;have HY2:=hid hy;have HBW:=hid (am (ae _) hb2);have z0:=hy.c0;have z1:=hy.c1;have z2:=hy.c2;have z3:=hy.c3;have z4:=hy.c4;have zf0:=hy.free 0;have zf1:=hy.free 1;have zf2:=hy.free 2;have zf3:=hy.free 3;have zf4:=hy.free 4;have HLA:Hid (LVA w2 (New (w.heap.size+1) w2) A2 l):=hid (hla.imp fun b hb=>⟨by have:=hb.1;simpa using this,hb.2⟩);clear hy hla hb2 HA HY;go_wp2_with fail
 (try simp only[Exit.inBlock,Exit.then])
 have FIN:=((((HY2.out.set0 (.int .i64 6)).set1 (.int .i64 0)).set2 (.string emp)).set3 (.slice A2 l.length c2)).set4 (.slice none 0 0);have hk: ∀b,New (w.heap.size+1) w2 b→(fI w2 w.heap.size 0 (.int .i64 6) (.int .i64 0) (.string emp) (.slice A2 l.length c2) (.slice none 0 0)).heap[b]? =w2.heap[b]? :=fun b hb=>eJ _ _ _ _ _ (by have:=hb.1;omega);have hn: ∀b,New (w.heap.size+1) w2 b→New w.heap.size (fI w2 w.heap.size 0 (.int .i64 6) (.int .i64 0) (.string emp) (.slice A2 l.length c2) (.slice none 0 0)) b:=fun b hb=>⟨by have:=hb.1;omega,by rw[dZ];exact hb.2⟩;have hla:=(LVA.keep HLA.out hk).imp hn;have hbw:=eN (p:=0) (.int .i64 6) (.int .i64 0) (.string emp) (.slice A2 l.length c2) (.slice none 0 0) HBW.out (G:=w.heap.size) (Nat.le_refl _);refine bodyPost_ret (results_cell_row rfl _ _ w.heap.size 25 _ (0,0) _ rfl FIN Tryz.underlying25 rfl (by kernel_rfl)) rfl ?_;exact⟨_,rfl,LV.mk (Bu (by decide) (by decide)) BE (by rw[sl];decide) HL.out (by simp) (jY _ _ _) hla,hbw⟩
theorem xC (S:Nat→Prop)(A':Option Addr)(c':Nat)(ns:List ByteArray)(A:Option Addr)(c:Nat)(l:List VT)(w:World)(hS: ∀b,S b→b<w.heap.size)(h:LVA w S A l)(hl:l.length≤1759218604390)(hns:ai w S A' ns)(hnl:ns.length≤8796093021952):
  Calls Tryz.prog 47 #[.slice A' ns.length c',.slice A l.length c] w fun e w'=> ∃v',e= .returned v'∧LV w' (New w.heap.size w') (.mk 7 0 emp l ns) v'∧Below w.heap.size w w':=by
 obtain⟨o,ho⟩: ∃o:Obj,o= .cells #[.int .i64 0,.int .i64 0,.string ⟨#[]⟩,.slice none 0 0,.slice none 0 0] 25:=⟨_,rfl⟩;have hY:Box (w.alloc o) w.heap.size (.int .i64 0) (.int .i64 0) (.string ⟨#[]⟩) (.slice none 0 0) (.slice none 0 0):=by rw[ho];exact Box.new _ _ _ _ _
 have HA:=hid (ke S A c l (w.alloc o) (de hS o) (h.keep fun b hb=>Below.heap_alloc w o b (hS b hb)) hl);have HY:=hid hY;have HL:=hid (And.intro hl hnl);have HNS:=hid hns;subst ho;clear h hY hl hns hnl;go_enter Tryz.func47,Tryz.ntmps47;go_wp2_with fail;refine HA.out.mono ?_;rintro e w1 ⟨A2,c2,rfl,hla,hb1⟩;have HY1:=hid (HY.out.call hb1);have HB1:=hid (am (ae _) hb1);have HLA1:Hid (LVA w1 (New (w.heap.size+1) w1) A2 l):=hid (hla.imp fun b hb=>⟨by have:=hb.1;simpa using this,hb.2⟩);clear hla hb1 HA HY;go_wp2_with fail;refine(jg S A' c' ns w1 (HNS.out.keep fun b hb=>HB1.out.block b (hS b hb)) HL.out.2).mono ?_;rintro e w2 ⟨A3,c3,rfl,hst,hb2⟩;have hy:=HY1.out.call hb2;have HY2:=hid hy;have HBW:=hid (am HB1.out hb2);have z0:=hy.c0;have z1:=hy.c1;have z2:=hy.c2;have z3:=hy.c3;have z4:=hy.c4;have zf0:=hy.free 0;have zf1:=hy.free 1;have zf2:=hy.free 2;have zf3:=hy.free 3;have zf4:=hy.free 4;have HLA:Hid (LVA w2 (New (w.heap.size+1) w2) A2 l):=hid ((LVA.keep (w':=w2) HLA1.out (fun b hb=>hb2.block b hb.2)).imp (New.mono (Nat.le_refl _) hb2.size));have HST:Hid (ai w2 (New (w.heap.size+1) w2) A3 ns):=hid (hst.imp (New.mono (by have:=HY1.out.lt;omega) (Nat.le_refl _)));clear hy hst hb2 HY1 HB1 HLA1 HNS;go_wp2_with fail
 (try simp only[Exit.inBlock,Exit.then])
 have FIN:=((((HY2.out.set0 (.int .i64 7)).set1 (.int .i64 0)).set2 (.string emp)).set3 (.slice A2 l.length c2)).set4 (.slice A3 ns.length c3);have hk: ∀b,New (w.heap.size+1) w2 b→(fI w2 w.heap.size 0 (.int .i64 7) (.int .i64 0) (.string emp) (.slice A2 l.length c2) (.slice A3 ns.length c3)).heap[b]? =w2.heap[b]? :=fun b hb=>eJ _ _ _ _ _ (by have:=hb.1;omega);have hn: ∀b,New (w.heap.size+1) w2 b→New w.heap.size (fI w2 w.heap.size 0 (.int .i64 7) (.int .i64 0) (.string emp) (.slice A2 l.length c2) (.slice A3 ns.length c3)) b:=fun b hb=>⟨by have:=hb.1;omega,by rw[dZ];exact hb.2⟩;have hla:=(LVA.keep HLA.out hk).imp hn;have hst:=(ai.keep HST.out hk).imp hn;have hbw:=eN (p:=0) (.int .i64 7) (.int .i64 0) (.string emp) (.slice A2 l.length c2) (.slice A3 ns.length c3) HBW.out (G:=w.heap.size) (Nat.le_refl _);refine bodyPost_ret (results_cell_row rfl _ _ w.heap.size 25 _ (0,0) _ rfl FIN Tryz.underlying25 rfl (by kernel_rfl)) rfl ?_;exact⟨_,rfl,LV.mk (Bu (by decide) (by decide)) BE (by rw[sl];decide) HL.out.1 HL.out.2 hst hla,hbw⟩
theorem qT {t y:VT}(h:y∈t.items):ac y≤ac t:=by
 cases t with
 |mk k i s l ns=>
  have h1:=cj h;rw[aN];simp only[VT.items]at h1;omega
theorem wA (S:Nat→Prop)(o:OpT)(X:VT)(f ia:Bool)(w:World)(PA:Option Addr)(pc:Nat)(VA:Option Addr)(vc:Nat)(VA':Option Addr)(vc':Nat)(TA:Option Addr)(tc:Nat)(XA:Option Addr)(xc:Nat)(XA':Option Addr)(xc':Nat)(h:qu S o X w PA pc VA vc VA' vc' TA tc XA xc XA' xc')(hdx:ac X≤1000000)(hdv:ac o.val≤1000000)(hlen:X.items.length≤100000):
  Calls Tryz.prog 113 #[.agg #[.int .i64 o.kind,.slice PA o.path.length pc,.int .i64 o.val.kind,.int .i64 o.val.num,.string o.val.text,.slice VA o.val.items.length vc,.slice VA' o.val.names.length vc',.slice TA o.to.length tc],.agg #[.int .i64 X.kind,.int .i64 X.num,.string X.text,.slice XA X.items.length xc,.slice XA' X.names.length xc',.bool f,.bool ia]] w (OpR S (hO o (if f then some X else none)) w):=by
 have hbx:=fd.new (S:=S) (o:=o) (X:=X) (f:=f) (ia:=ia) (W:=w) (PA:=PA) (pc:=pc) (VA:=VA) (vc:=vc) (VA':=VA') (vc':=vc') (TA:=TA) (tc:=tc) (XA:=XA) (xc:=xc) (XA':=XA') (xc':=xc');obtain⟨w2,hw2⟩: ∃W,W=(w.alloc (.cells #[.int .i64 o.kind,.slice PA o.path.length pc,.int .i64 o.val.kind,.int .i64 o.val.num,.string o.val.text,.slice VA o.val.items.length vc,.slice VA' o.val.names.length vc',.slice TA o.to.length tc] 51)).alloc (.cells #[.int .i64 X.kind,.int .i64 X.num,.string X.text,.slice XA X.items.length xc,.slice XA' X.names.length xc',.bool f,.bool ia] 79):=⟨_,rfl⟩;rw[←hw2]at hbx;have HBX:=hid hbx;have HI:=hid h;have y1:=Go.Joins.cell_of_block hbx.ob 1;have s0:=Go.Joins.cell_of_block hbx.sb 0;have s3:=Go.Joins.cell_of_block hbx.sb 3;have s5:=Go.Joins.cell_of_block hbx.sb 5;have HPB:Hid (fs S o.val w.heap.size VA vc VA' vc' w2):=hid ⟨by have:=hbx.size;omega,Go.Joins.cell_of_block hbx.ob 2,Go.Joins.cell_of_block hbx.ob 3,Go.Joins.cell_of_block hbx.ob 4,Go.Joins.cell_of_block hbx.ob 5,Go.Joins.cell_of_block hbx.ob 6,h.val.keep fun b hb=>hbx.below.block b (h.lt b hb)⟩;have HDD:=hid (And.intro hdx (And.intro hdv hlen));have hmf: ∀(fn:Fn) (first cap:Array Value) (w:World),(Instr.makeFunc fn first cap).run Tryz.prog w= .ok (.func fn first cap) w:=fun _ _ _ _=>rfl;clear hbx h hdx hdv hlen;go_enter Tryz.func113,Tryz.ntmps113
 cases f with
 |false=>
  go_wp2_with fail;rw[←hw2];clear hw2;go_wp2_with fail;refine(cB none 0 0 w2).mono ?_;rintro e w3 ⟨rfl,rfl⟩;go_wp2_with fail
  go_ret2
  exact OpR.no 0 HBX.out.below
 |true=>
  by_cases hx:X.kind=6;rotate_left
  ·have d:(X.kind != 6)=true:=by simp[hx]
   have HE:Hid (hO o (some X)=(50,[])):=hid (by unfold hO;simp[hx]);clear hx;go_wp2_with fail;rw[←hw2];clear hw2;go_wp2_with fail
   go_ret2
   rw[HE.out];exact OpR.no 50 HBX.out.below
  have d:(X.kind != 6)=false:=by simp[hx]
  have HX6:=hid hx;clear hx;have HS2:Hid (∀b,S b→b<w2.heap.size):=hid fun b hb=>Nat.lt_of_lt_of_le (HI.out.lt b hb) HBX.out.below.size
  have HCL:=hid (pT S XA xc X.items w2 HS2.out (by
   obtain⟨A,c,A',c',e,-,-,-,-,-,-,h⟩:=(HI.out.x.keep fun b hb=>HBX.out.below.block b (HI.out.lt b hb)).shape;simp only[Value.agg.injEq,Array.mk.injEq,List.cons.injEq,Value.slice.injEq,and_true,true_and]at e;obtain⟨⟨rfl,rfl⟩,-⟩:=e
   exact h) HDD.out.2.2)
  go_wp2_with fail;rw[←hw2];clear hw2;go_wp2_with fail;refine HCL.out.mono ?_;rintro e w3 ⟨A',c',rfl,hth,hb3⟩;have HB3:=hid hb3;have HDF:=hid (vG S A' c' X.items o.val w.heap.size VA vc VA' vc' w2 w3 HS2.out hth hb3 HPB.out HDD.out.2.2 (fun y hy=>by have:=qT hy;have:=HDD.out.1;omega) (by have:=HDD.out.2.1;omega));clear hth hb3 HCL;go_wp2_with fail;refine HDF.out.mono ?_;rintro e w4 ⟨K,kc,rfl,hk4,hb4⟩;have HB4:=hid hb4;have HBX4:=hid (HBX.out.call hb4);have HK4:=hid hk4;obtain⟨m,hm⟩: ∃m,m=(gE X.items o.val).length:=⟨_,rfl⟩;have HM:=hid hm;rw[←hm];have s3:=Go.Joins.cell_of_block HBX4.out.sb 3;have y1:=Go.Joins.cell_of_block HBX4.out.ob 1;clear hb4 hk4 hm HDF s0 s5;by_cases hmn:m=X.items.length
  ·have d2:((m:Int) == (X.items.length:Int))=true:=by rw[hmn];simp
   have HE:Hid (hO o (some X)=(0,[])):=hid (by
    unfold hO;simp only
    rw[if_neg (by simp[HX6.out]),if_pos (show(uA o X).length=X.items.length by
     show(gE X.items o.val).length=_
     rw[←HM.out,hmn])])
   clear hmn;go_wp2_with fail;refine(cB none 0 0 w4).mono ?_;rintro e w5 ⟨rfl,rfl⟩;go_wp2_with fail
   go_ret2
   rw[HE.out];exact OpR.no 0 HBX4.out.below
  ·have d2:((m:Int) == (X.items.length:Int))=false:=beq_eq_false_iff_ne.2 (by omega);obtain⟨Y,hY⟩: ∃Y,Y=jO (gE X.items o.val):=⟨_,rfl⟩
   have HE:Hid (hO o (some X)=(0,[ec o.path Y])):=hid (by
    unfold hO;simp only
    rw[if_neg (by simp[HX6.out]),if_neg (show ¬(uA o X).length=X.items.length from fun h=>hmn (by
     have h:(gE X.items o.val).length=X.items.length:=h
     rw[HM.out,h])),hY]
    rfl)
   have HY:=hid hY;clear hmn hY;go_wp2_with fail;obtain⟨wd,hwd⟩: ∃W,W=w4.drew:=⟨_,rfl⟩;have HRwd:Hid (Below w.heap.size w wd):=hid (by rw[hwd];exact HBX4.out.below.drew);have HBd:Hid (fd S o X true ia w wd PA pc VA vc VA' vc' TA tc XA xc XA' xc'):=hid (by rw[hwd];exact HBX4.out.call (Below.refl _ _).drew);have HZwd:Hid (w.heap.size+2≤wd.heap.size):=hid HBd.out.size;have hs0:w.heap.size<wd.heap.size:=by have:=HBd.out.size;omega
   have z1:=fun q:af (aE wd.heap.size) wd=>(World.cell?_of_block (a:=⟨w.heap.size,1,none⟩) (q.h.block w.heap.size hs0)).trans (Go.Joins.cell_of_block HBd.out.ob 1)
   have HAR:=hid (oW (fun b=>S b∨(w2.heap.size≤b∧b<w4.heap.size)) K kc (gE X.items o.val) wd (fun b hb=>by
    have hz:wd.heap.size=w4.heap.size:=by rw[hwd];rfl
    rcases hb with h|h
    ·have:=HS2.out b h;have:=HB4.out.size;omega
    ·omega) (by
    rw[hwd]
    exact HK4.out.keep fun b hb=>rfl) (by have:=HDD.out.2.2;have:(gE X.items o.val).length≤X.items.length:=List.length_filter_le _ _;omega))
   rw[←HM.out]at HAR;clear y1 s3 d d2;refine av (aE wd.heap.size) (aE.refl _) (aE.trans _) [9,10] (.pure [0,1,2] (.step 3 (.step 4 (.step 5 (.step 6 (.free [7,8] (.tail [9,10]))))))) (by kernel_rfl) (by kernel_rfl) (fun _ d _ _ _ h=>by cases d<;>exact h) ?_;rw[←hwd];clear hwd;refine bN ?_;simp only[atR];show wpQuiet _ _ _ _ [_,_,_] _;try simp only[acR,Act.put]
   repeat(go_big_quiet_step (fail))
   refine wpQuiet_nil ?_;clear z1;refine ah rfl (fun K hK=> ?_)
   go_simp
   refine HAR.out.mono ?_;rintro e w5 ⟨v,rfl,hv5,hb5⟩;have hv5:LV w5 (New wd.heap.size w5) (jO (gE X.items o.val)) v:=hv5;rw[←HY.out]at hv5;obtain⟨B,k,B',k',rfl,-⟩:=hv5.shape;refine hK _ _ (.inr hb5) ?_;clear hK K;have HV5:=hid hv5;have HB5:=hid hb5;clear hv5 hb5 HAR;refine ah rfl (fun K hK=> ?_)
   go_simp
   refine(ee PA o.path.length pc Y.kind Y.num Y.text B Y.items.length k B' Y.names.length k' w5).mono ?_;rintro e w6 ⟨rfl,hb6⟩;refine hK _ _ (.inr (hb6.mono HB5.out.size)) ?_;clear hK K;have HB6:=hid hb6;have HRw6:Hid (Below w.heap.size w w6):=hid (HRwd.out.trans ((HB5.out.mono (by have:=HZwd.out;omega)).trans (hb6.mono (by have:=HB5.out.size;have:=HZwd.out;omega))));have HZw6:Hid (wd.heap.size≤w6.heap.size):=hid (Nat.le_trans HB5.out.size hb6.size);clear hb6;refine ah rfl (fun K hK=> ?_)
   go_simp
   obtain⟨w7,hw7⟩: ∃W,W=w6.alloc (.cells #[.int .i64 1,.slice PA o.path.length pc,.int .i64 Y.kind,.int .i64 Y.num,.string Y.text,.slice B Y.items.length k,.slice B' Y.names.length k',.int .i64 0] 58):=⟨_,rfl⟩;have HN7:Hid (w7.heap[w6.heap.size]? =some (.cells #[.int .i64 1,.slice PA o.path.length pc,.int .i64 Y.kind,.int .i64 Y.num,.string Y.text,.slice B Y.items.length k,.slice B' Y.names.length k',.int .i64 0] 58 (0,0))):=hid (by rw[hw7];exact heap_alloc_new w6 _);have HRw7:Hid (Below w.heap.size w w7):=hid (by rw[hw7];exact HRw6.out.alloc (by have:=HZw6.out;have:=HZwd.out;omega) _);have hb7:Below w6.heap.size w6 w7:=by rw[hw7];exact(Below.refl _ _).alloc (Nat.le_refl _) _
   rw[←hw7];clear hw7;have HV7:Hid (LV w7 (fun b=>(S b∧b<w.heap.size)∨New w.heap.size w7 b) Y (.agg #[.int .i64 Y.kind,.int .i64 Y.num,.string Y.text,.slice B Y.items.length k,.slice B' Y.names.length k'])):=hid ((HV5.out.keep fun b hb=>(hb7.block b (Nat.lt_of_lt_of_le hb.2 HB6.out.size)).trans (HB6.out.block b hb.2)).imp fun b hb=> .inr ⟨by have:=hb.1;have:=HZwd.out;omega,by have:=hb.2;have:=HB6.out.size;have:=hb7.size;omega⟩);refine hK _ _ (.inr (hb7.mono HZw6.out)) ?_;clear hK K hb7;refine ah rfl (fun K hK=> ?_)
   go_simp
   refine(cB _ 1 1 w7).mono ?_;rintro e w9 ⟨rfl,rfl⟩;refine hK _ _ (.inr (Below.refl _ _)) ?_;clear hK K;refine bm ?_;simp only[atR];show wpQuiet _ _ _ _ [_,_] _;try simp only[acR,Act.put]
   repeat(go_big_quiet_step (fail))
   refine wpQuiet_nil ?_;refine aw rfl (fun K hK=> ?_)
   go_simp
   refine hK _ _ ?_;clear hK K;refine aw rfl (fun K hK=> ?_)
   go_simp
   refine hK _ _ ?_;clear hK K;refine aX ?_;go_wp2_with fail
   go_ret2
   rw[HE.out];exact OpR.one HRw7.out HN7.out (by have:=HZw6.out;have:=HZwd.out;omega) (em ((HI.out.path.keep (fun b hb=>HRw7.out.block b (HI.out.lt b hb))).imp fun b hb=> .inl ⟨hb,HI.out.lt b hb⟩) HI.out.p0 HI.out.pc HI.out.pl HV7.out)
theorem lh (S:Nat→Prop)(o:OpT)(X:VT)(f ia:Bool)(w:World)(PA:Option Addr)(pc:Nat)(VA:Option Addr)(vc:Nat)(VA':Option Addr)(vc':Nat)(TA:Option Addr)(tc:Nat)(XA:Option Addr)(xc:Nat)(XA':Option Addr)(xc':Nat)(h:qu S o X w PA pc VA vc VA' vc' TA tc XA xc XA' xc')(gives:Int→Bool)(gf:Nat)(hEn: ∀(args:Array Value) (W:World),(callFunc gf args).run Tryz.prog W= .ok (.enter gf args) W)(hG: ∀(c:Int) (w:World),Calls Tryz.prog gf #[.int .i64 c] w fun e w'=>e= .returned (.bool (gives c))∧w=w')(B:Nat)(hB:w.cell? ⟨B,0,none⟩=some (.func (.func gf) #[] #[]))(hBl:B<w.heap.size)(hdx:ac X≤4611686018427387903)(hdo:ac o.val≤4611686018427387903):
  Calls Tryz.prog 156 #[.agg #[.int .i64 o.kind,.slice PA o.path.length pc,.int .i64 o.val.kind,.int .i64 o.val.num,.string o.val.text,.slice VA o.val.items.length vc,.slice VA' o.val.names.length vc',.slice TA o.to.length tc],.agg #[.int .i64 X.kind,.int .i64 X.num,.string X.text,.slice XA X.items.length xc,.slice XA' X.names.length xc',.bool f,.bool ia],.pointer (some ⟨B,0,none⟩)] w (OpR S (jD gives o (if f then some X else none)) w):=by
 have hbx:=fd.new (S:=S) (o:=o) (X:=X) (f:=f) (ia:=ia) (W:=w) (PA:=PA) (pc:=pc) (VA:=VA) (vc:=vc) (VA':=VA') (vc':=vc') (TA:=TA) (tc:=tc) (XA:=XA) (xc:=xc) (XA':=XA') (xc':=xc');obtain⟨w2,hw2⟩: ∃W,W=(w.alloc (.cells #[.int .i64 o.kind,.slice PA o.path.length pc,.int .i64 o.val.kind,.int .i64 o.val.num,.string o.val.text,.slice VA o.val.items.length vc,.slice VA' o.val.names.length vc',.slice TA o.to.length tc] 51)).alloc (.cells #[.int .i64 X.kind,.int .i64 X.num,.string X.text,.slice XA X.items.length xc,.slice XA' X.names.length xc',.bool f,.bool ia] 79):=⟨_,rfl⟩;rw[←hw2]at hbx;have HBX:=hid hbx;have HI:=hid h;have y1:=Go.Joins.cell_of_block hbx.ob 1;have y2:=Go.Joins.cell_of_block hbx.ob 2;have y3:=Go.Joins.cell_of_block hbx.ob 3;have y4:=Go.Joins.cell_of_block hbx.ob 4;have y5:=Go.Joins.cell_of_block hbx.ob 5;have y6:=Go.Joins.cell_of_block hbx.ob 6;have s0:=Go.Joins.cell_of_block hbx.sb 0;have s1:=Go.Joins.cell_of_block hbx.sb 1;have s2:=Go.Joins.cell_of_block hbx.sb 2;have s3:=Go.Joins.cell_of_block hbx.sb 3;have s4:=Go.Joins.cell_of_block hbx.sb 4;have s5:=Go.Joins.cell_of_block hbx.sb 5;clear hbx h;go_enter Tryz.func156,Tryz.ntmps156;have hBc:=(World.cell?_of_block (a:=⟨B,0,none⟩) (HBX.out.below.block B hBl)).trans hB;have HDP:=hid (And.intro hdx hdo);have HG:=hid hG;have HBc:Hid (w.cell? ⟨B,0,none⟩=some (.func (.func gf) #[] #[])):=hid hB;clear hdx hdo hG hB;clear hBc;have CASE: ∀W:World,Below w.heap.size w W→W.heap[w.heap.size]? =some (.cells #[.int .i64 o.kind,.slice PA o.path.length pc,.int .i64 o.val.kind,.int .i64 o.val.num,.string o.val.text,.slice VA o.val.items.length vc,.slice VA' o.val.names.length vc',.slice TA o.to.length tc] 51 (0,0))→w.heap.size+2≤W.heap.size→True:=fun _ _ _ _=>trivial
 clear CASE
 cases f with
 |false=>
  go_wp2_with fail;rw[←hw2];clear hw2;obtain⟨wd,hwd⟩: ∃W,W=w2.drew:=⟨_,rfl⟩;have HRwd:Hid (Below w.heap.size w wd):=hid (by rw[hwd];exact HBX.out.below.drew);have HBd:Hid (fd S o X false ia w wd PA pc VA vc VA' vc' TA tc XA xc XA' xc'):=hid (by rw[hwd];exact HBX.out.call (Below.refl _ _).drew);have kz:=fun(q:af (aE wd.heap.size) wd) (b i:Nat) (hb:b<wd.heap.size)=>World.cell?_of_block (a:=⟨b,i,none⟩) (q.h.block b hb);have hs0:w.heap.size<wd.heap.size:=by have:=HBd.out.size;omega
  have hs1:w.heap.size+1<wd.heap.size:=by have:=HBd.out.size;omega
  have z2:=fun q:af (aE wd.heap.size) wd=>(kz q w.heap.size 2 hs0).trans (Go.Joins.cell_of_block HBd.out.ob 2);have z3:=fun q:af (aE wd.heap.size) wd=>(kz q w.heap.size 3 hs0).trans (Go.Joins.cell_of_block HBd.out.ob 3);have z4:=fun q:af (aE wd.heap.size) wd=>(kz q w.heap.size 4 hs0).trans (Go.Joins.cell_of_block HBd.out.ob 4);have z5:=fun q:af (aE wd.heap.size) wd=>(kz q w.heap.size 5 hs0).trans (Go.Joins.cell_of_block HBd.out.ob 5);have z6:=fun q:af (aE wd.heap.size) wd=>(kz q w.heap.size 6 hs0).trans (Go.Joins.cell_of_block HBd.out.ob 6);have u0:=fun q:af (aE wd.heap.size) wd=>(kz q (w.heap.size+1) 0 hs1).trans (Go.Joins.cell_of_block HBd.out.sb 0);have u1:=fun q:af (aE wd.heap.size) wd=>(kz q (w.heap.size+1) 1 hs1).trans (Go.Joins.cell_of_block HBd.out.sb 1);have u2:=fun q:af (aE wd.heap.size) wd=>(kz q (w.heap.size+1) 2 hs1).trans (Go.Joins.cell_of_block HBd.out.sb 2);have u3:=fun q:af (aE wd.heap.size) wd=>(kz q (w.heap.size+1) 3 hs1).trans (Go.Joins.cell_of_block HBd.out.sb 3);have u4:=fun q:af (aE wd.heap.size) wd=>(kz q (w.heap.size+1) 4 hs1).trans (Go.Joins.cell_of_block HBd.out.sb 4);have u5:=fun q:af (aE wd.heap.size) wd=>(kz q (w.heap.size+1) 5 hs1).trans (Go.Joins.cell_of_block HBd.out.sb 5);have c0:=fun q:af (aE wd.heap.size) wd=>(kz q B 0 (by omega)).trans ((World.cell?_of_block (a:=⟨B,0,none⟩) (HRwd.out.block B hBl)).trans HBc.out);clear kz y1 y2 y3 y4 y5 y6 s0 s1 s2 s3 s4 s5;refine av (aE wd.heap.size) (aE.refl _) (aE.trans _) [] (.pure [0,1,2,3,4,5,6,7] (.step 8 (.step 9 (.free [10,11] (.tail []))))) (by kernel_rfl) (by kernel_rfl) (fun _ d _ _ _ h=>by cases d<;>exact h) ?_
  rw[←hwd];clear hwd;refine bN ?_;simp only[atR];show wpQuiet _ _ _ _ [_,_,_,_,_,_,_,_] _;try simp only[acR,Act.put]
  repeat(go_big_quiet_step (fail))
  refine wpQuiet_nil ?_;clear z2 z3 z4 z5 z6 u0 u1 u2 u3 u4 u5 c0;refine ah rfl (fun K hK=> ?_)
  go_simp
  refine hK _ _ (.inr (Below.refl _ _)) ?_;clear hK K;refine ah rfl (fun K hK=> ?_)
  go_simp
  refine hK _ _ (.inr (Below.refl _ _)) ?_;clear hK K;refine bm ?_;simp only[atR];show wpQuiet _ _ _ _ [_,_] _;try simp only[acR,Act.put]
  repeat(go_big_quiet_step (fail))
  refine wpQuiet_nil ?_;refine aX ?_;have HBe:=HBd;clear HBd;obtain⟨we,hwe⟩: ∃W,W=wd:=⟨_,rfl⟩;rw[←hwe]at HBe ⊢;clear hwe;have y1:=Go.Joins.cell_of_block HBe.out.ob 1;have y2:=Go.Joins.cell_of_block HBe.out.ob 2;have y3:=Go.Joins.cell_of_block HBe.out.ob 3;have y4:=Go.Joins.cell_of_block HBe.out.ob 4;have y5:=Go.Joins.cell_of_block HBe.out.ob 5;have y6:=Go.Joins.cell_of_block HBe.out.ob 6;go_wp2_with fail;refine(ee PA o.path.length pc o.val.kind o.val.num o.val.text VA o.val.items.length vc VA' o.val.names.length vc' we).mono ?_;rintro e w3 ⟨rfl,hb3⟩;have HRw3:=hid (HBe.out.call hb3).below;have HZw3:Hid (w.heap.size≤w3.heap.size):=hid (by have:=(HBe.out.call hb3).size;omega);clear hb3 y1 y2 y3 y4 y5 y6;go_wp2_with fail;obtain⟨w4,hrw4⟩: ∃W,W=w3.alloc (.cells #[.int .i64 1,.slice PA o.path.length pc,.int .i64 o.val.kind,.int .i64 o.val.num,.string o.val.text,.slice VA o.val.items.length vc,.slice VA' o.val.names.length vc',.int .i64 0] 58):=⟨_,rfl⟩;have HNw4:Hid (w4.heap[w3.heap.size]? =some (.cells #[.int .i64 1,.slice PA o.path.length pc,.int .i64 o.val.kind,.int .i64 o.val.num,.string o.val.text,.slice VA o.val.items.length vc,.slice VA' o.val.names.length vc',.int .i64 0] 58 (0,0))):=hid (by rw[hrw4];exact heap_alloc_new w3 _);have HRw4:Hid (Below w.heap.size w w4):=hid (by rw[hrw4];exact HRw3.out.alloc (by have:=HZw3.out;omega) _);rw[←hrw4];clear hrw4;refine(cB _ 1 1 w4).mono ?_;rintro e w9 ⟨rfl,rfl⟩;go_wp2_with fail
  go_ret2
  exact OpR.one HRw4.out HNw4.out HZw3.out (em ((HI.out.path.keep (fun b hb=>HRw4.out.block b (HI.out.lt b hb))).imp fun b hb=> .inl ⟨hb,HI.out.lt b hb⟩) HI.out.p0 HI.out.pc HI.out.pl ((HI.out.val.keep (fun b hb=>HRw4.out.block b (HI.out.lt b hb))).imp fun b hb=> .inl ⟨hb,HI.out.lt b hb⟩))
 |true=>
  obtain⟨gv,hgv⟩: ∃b,b=gives (fK X o.val):=⟨_,rfl⟩;have HGV:=hid hgv;go_wp2_with fail;rw[←hw2];clear hw2;obtain⟨wd,hwd⟩: ∃W,W=w2.drew:=⟨_,rfl⟩;have HRwd:Hid (Below w.heap.size w wd):=hid (by rw[hwd];exact HBX.out.below.drew);have HBd:Hid (fd S o X true ia w wd PA pc VA vc VA' vc' TA tc XA xc XA' xc'):=hid (by rw[hwd];exact HBX.out.call (Below.refl _ _).drew);have kz:=fun(q:af (aE wd.heap.size) wd) (b i:Nat) (hb:b<wd.heap.size)=>World.cell?_of_block (a:=⟨b,i,none⟩) (q.h.block b hb);have hs0:w.heap.size<wd.heap.size:=by have:=HBd.out.size;omega
  have hs1:w.heap.size+1<wd.heap.size:=by have:=HBd.out.size;omega
  have z2:=fun q:af (aE wd.heap.size) wd=>(kz q w.heap.size 2 hs0).trans (Go.Joins.cell_of_block HBd.out.ob 2);have z3:=fun q:af (aE wd.heap.size) wd=>(kz q w.heap.size 3 hs0).trans (Go.Joins.cell_of_block HBd.out.ob 3);have z4:=fun q:af (aE wd.heap.size) wd=>(kz q w.heap.size 4 hs0).trans (Go.Joins.cell_of_block HBd.out.ob 4);have z5:=fun q:af (aE wd.heap.size) wd=>(kz q w.heap.size 5 hs0).trans (Go.Joins.cell_of_block HBd.out.ob 5);have z6:=fun q:af (aE wd.heap.size) wd=>(kz q w.heap.size 6 hs0).trans (Go.Joins.cell_of_block HBd.out.ob 6);have u0:=fun q:af (aE wd.heap.size) wd=>(kz q (w.heap.size+1) 0 hs1).trans (Go.Joins.cell_of_block HBd.out.sb 0);have u1:=fun q:af (aE wd.heap.size) wd=>(kz q (w.heap.size+1) 1 hs1).trans (Go.Joins.cell_of_block HBd.out.sb 1);have u2:=fun q:af (aE wd.heap.size) wd=>(kz q (w.heap.size+1) 2 hs1).trans (Go.Joins.cell_of_block HBd.out.sb 2);have u3:=fun q:af (aE wd.heap.size) wd=>(kz q (w.heap.size+1) 3 hs1).trans (Go.Joins.cell_of_block HBd.out.sb 3);have u4:=fun q:af (aE wd.heap.size) wd=>(kz q (w.heap.size+1) 4 hs1).trans (Go.Joins.cell_of_block HBd.out.sb 4);have u5:=fun q:af (aE wd.heap.size) wd=>(kz q (w.heap.size+1) 5 hs1).trans (Go.Joins.cell_of_block HBd.out.sb 5);have c0:=fun q:af (aE wd.heap.size) wd=>(kz q B 0 (by omega)).trans ((World.cell?_of_block (a:=⟨B,0,none⟩) (HRwd.out.block B hBl)).trans HBc.out);clear kz y1 y2 y3 y4 y5 y6 s0 s1 s2 s3 s4 s5;refine av (aE wd.heap.size) (aE.refl _) (aE.trans _) [] (.pure [0,1,2,3,4,5,6,7] (.step 8 (.step 9 (.free [10,11] (.tail []))))) (by kernel_rfl) (by kernel_rfl) (fun _ d _ _ _ h=>by cases d<;>exact h) ?_
  rw[←hwd];clear hwd;refine bN ?_;simp only[atR];show wpQuiet _ _ _ _ [_,_,_,_,_,_,_,_] _;try simp only[acR,Act.put]
  repeat(go_big_quiet_step (fail))
  refine wpQuiet_nil ?_;clear z2 z3 z4 z5 z6 u0 u1 u2 u3 u4 u5 c0;refine ah rfl (fun K hK=> ?_)
  go_simp
  have hk1: ∀b,S b→wd.heap[b]? =w.heap[b]? :=fun b hb=>HRwd.out.block b (HI.out.lt b hb);refine(lw S X o.val _ _ wd (fun b hb=>by have:=HI.out.lt b hb;omega) (HI.out.x.keep hk1) (HI.out.val.keep hk1) HDP.out.1 HDP.out.2).mono ?_;rintro e we ⟨rfl,hbe⟩;refine hK _ _ (.inr hbe) ?_;clear hK K;have HBe:=hid (HBd.out.call hbe);clear hbe HBd hk1;refine ah rfl (fun K hK=> ?_)
  go_simp
  refine(HG.out (fK X o.val) we).mono ?_;rintro e wf ⟨rfl,rfl⟩;refine hK _ _ (.inr (Below.refl _ _)) ?_;clear hK K;rw[←hgv];clear hgv;refine bm ?_;simp only[atR];show wpQuiet _ _ _ _ [_,_] _;try simp only[acR,Act.put]
  repeat(go_big_quiet_step (fail))
  refine wpQuiet_nil ?_;refine aX ?_
  cases gv with
  |true=>
   have HE:Hid (jD gives o (some X)=(0,[ec o.path o.val])):=hid (by unfold jD;simp only;rw[if_pos HGV.out.symm]);have y1:=Go.Joins.cell_of_block HBe.out.ob 1;have y2:=Go.Joins.cell_of_block HBe.out.ob 2;have y3:=Go.Joins.cell_of_block HBe.out.ob 3;have y4:=Go.Joins.cell_of_block HBe.out.ob 4;have y5:=Go.Joins.cell_of_block HBe.out.ob 5;have y6:=Go.Joins.cell_of_block HBe.out.ob 6;go_wp2_with fail;refine(ee PA o.path.length pc o.val.kind o.val.num o.val.text VA o.val.items.length vc VA' o.val.names.length vc' we).mono ?_;rintro e w3 ⟨rfl,hb3⟩;have HRw3:=hid (HBe.out.call hb3).below;have HZw3:Hid (w.heap.size≤w3.heap.size):=hid (by have:=(HBe.out.call hb3).size;omega);clear hb3 y1 y2 y3 y4 y5 y6;go_wp2_with fail;obtain⟨w4,hrw4⟩: ∃W,W=w3.alloc (.cells #[.int .i64 1,.slice PA o.path.length pc,.int .i64 o.val.kind,.int .i64 o.val.num,.string o.val.text,.slice VA o.val.items.length vc,.slice VA' o.val.names.length vc',.int .i64 0] 58):=⟨_,rfl⟩;have HNw4:Hid (w4.heap[w3.heap.size]? =some (.cells #[.int .i64 1,.slice PA o.path.length pc,.int .i64 o.val.kind,.int .i64 o.val.num,.string o.val.text,.slice VA o.val.items.length vc,.slice VA' o.val.names.length vc',.int .i64 0] 58 (0,0))):=hid (by rw[hrw4];exact heap_alloc_new w3 _);have HRw4:Hid (Below w.heap.size w w4):=hid (by rw[hrw4];exact HRw3.out.alloc (by have:=HZw3.out;omega) _);rw[←hrw4];clear hrw4;refine(cB _ 1 1 w4).mono ?_;rintro e w9 ⟨rfl,rfl⟩;go_wp2_with fail
   go_ret2
   rw[HE.out]
   exact OpR.one HRw4.out HNw4.out HZw3.out (em ((HI.out.path.keep (fun b hb=>HRw4.out.block b (HI.out.lt b hb))).imp fun b hb=> .inl ⟨hb,HI.out.lt b hb⟩) HI.out.p0 HI.out.pc HI.out.pl ((HI.out.val.keep (fun b hb=>HRw4.out.block b (HI.out.lt b hb))).imp fun b hb=> .inl ⟨hb,HI.out.lt b hb⟩))
  |false=>
   have HE:Hid (jD gives o (some X)=(0,[])):=hid (by unfold jD;simp only;rw[←HGV.out];rfl);go_wp2_with fail;refine(cB none 0 0 we).mono ?_;rintro e w3 ⟨rfl,rfl⟩;go_wp2_with fail
   go_ret2
   rw[HE.out];exact OpR.no 0 HBe.out.below
theorem qL (c:Int)(w:World):Calls Tryz.prog 116 #[.int .i64 c] w fun e w'=>e= .returned (.bool (decide (0<c)))∧w=w':=by
 go_enter Tryz.func116,Tryz.ntmps116;go_wp2_with fail;go_ret;exact⟨by simp,rfl⟩
theorem rY (c:Int)(w:World):Calls Tryz.prog 117 #[.int .i64 c] w fun e w'=>e= .returned (.bool (decide (c<0)))∧w=w':=by
 go_enter Tryz.func117,Tryz.ntmps117;go_wp2_with fail;go_ret;exact⟨by simp,rfl⟩
theorem qZ (c:Int)(w:World):Calls Tryz.prog 118 #[.int .i64 c] w fun e w'=>e= .returned (.bool (!decide (c=0)))∧w=w':=by
 go_enter Tryz.func118,Tryz.ntmps118;go_wp2_with fail;go_ret;exact⟨by by_cases h:c=0<;>simp[h],rfl⟩
theorem oy : ∀(args:Array Value) (W:World),(callFunc 116 args).run Tryz.prog W= .ok (.enter 116 args) W:=fun _ _=>by simp[callFunc,go_sem,Tryz.func116,Tryz.f116]
theorem oo : ∀(args:Array Value) (W:World),(callFunc 117 args).run Tryz.prog W= .ok (.enter 117 args) W:=fun _ _=>by simp[callFunc,go_sem,Tryz.func117,Tryz.f117]
theorem oq : ∀(args:Array Value) (W:World),(callFunc 118 args).run Tryz.prog W= .ok (.enter 118 args) W:=fun _ _=>by simp[callFunc,go_sem,Tryz.func118,Tryz.f118]
def yi (gf:Nat)(w w':World)(v:Value):Prop:=v= .func (.func 156) #[] #[.pointer (some ⟨w.heap.size,0,none⟩)]∧w'.cell? ⟨w.heap.size,0,none⟩=some (.func (.func gf) #[] #[])∧w.heap.size<w'.heap.size
theorem nx (gf:Nat)(w:World):Calls Tryz.prog 115 #[.func (.func gf) #[] #[]] w fun e w'=> ∃v,e= .returned v∧yi gf w w' v∧Below w.heap.size w w':=by
 have hmf: ∀(fn:Fn) (first cap:Array Value) (w:World),(Instr.makeFunc fn first cap).run Tryz.prog w= .ok (.func fn first cap) w:=fun _ _ _ _=>rfl;go_enter Tryz.func115,Tryz.ntmps115;go_wp2_with fail;go_ret;exact⟨_,rfl,⟨rfl,Go.Joins.cell_of_block (heap_alloc_new w _) 0,by simp⟩,(Below.refl _ _).alloc (Nat.le_refl _) _⟩
def OpV (k:Int)(w w':World)(v:Value):Prop:=
 (k=2∧v= .func (.func 110) #[] #[])∨(k=3∧v= .func (.func 111) #[] #[])∨(k=4∧v= .func (.func 112) #[] #[])∨(k=5∧v= .func (.func 113) #[] #[])∨(k=6∧v= .func (.func 114) #[] #[])∨
 (k=7∧yi 116 w w' v)∨(k=8∧yi 117 w w' v)∨((k≠2∧k≠3∧k≠4∧k≠5∧k≠6∧k≠7∧k≠8)∧yi 118 w w' v)
theorem zV (k:Int)(w:World):Calls Tryz.prog 61 #[.int .i64 k] w fun e w'=> ∃v,e= .returned v∧OpV k w w' v∧Below w.heap.size w w':=by
 go_enter Tryz.func61,Tryz.ntmps61;by_cases k2:k=2
 ·subst k2;go_wp2_with fail;go_ret;exact⟨_,rfl,.inl ⟨rfl,rfl⟩,Below.refl _ _⟩
 by_cases k3:k=3
 ·subst k3;go_wp2_with fail;go_ret;exact⟨_,rfl,.inr (.inl ⟨rfl,rfl⟩),Below.refl _ _⟩
 by_cases k4:k=4
 ·subst k4;go_wp2_with fail;go_ret;exact⟨_,rfl,.inr (.inr (.inl ⟨rfl,rfl⟩)),Below.refl _ _⟩
 by_cases k5:k=5
 ·subst k5;go_wp2_with fail;go_ret;exact⟨_,rfl,.inr (.inr (.inr (.inl ⟨rfl,rfl⟩))),Below.refl _ _⟩
 by_cases k6:k=6
 ·subst k6;go_wp2_with fail;go_ret;exact⟨_,rfl,.inr (.inr (.inr (.inr (.inl ⟨rfl,rfl⟩)))),Below.refl _ _⟩
 by_cases k7:k=7
 ·subst k7;go_wp2_with fail;refine(nx 116 w).mono ?_;rintro e w3 ⟨v,rfl,hv,hb⟩;have HV:=hid (And.intro hv hb);clear hv hb k2 k3 k4 k5 k6;go_wp2_with fail;go_ret;exact⟨_,rfl,.inr (.inr (.inr (.inr (.inr (.inl ⟨rfl,HV.out.1⟩))))),HV.out.2⟩
 by_cases k8:k=8
 ·subst k8;go_wp2_with fail;refine(nx 117 w).mono ?_;rintro e w3 ⟨v,rfl,hv,hb⟩;have HV:=hid (And.intro hv hb);clear hv hb k2 k3 k4 k5 k6 k7;go_wp2_with fail;go_ret;exact⟨_,rfl,.inr (.inr (.inr (.inr (.inr (.inr (.inl ⟨rfl,HV.out.1⟩)))))),HV.out.2⟩
 have d2:(k == 2)=false:=by simp[k2]
 have d3:(k == 3)=false:=by simp[k3]
 have d4:(k == 4)=false:=by simp[k4]
 have d5:(k == 5)=false:=by simp[k5]
 have d6:(k == 6)=false:=by simp[k6]
 have d7:(k == 7)=false:=by simp[k7]
 have d8:(k == 8)=false:=by simp[k8]
 have HK:Hid (k≠2∧k≠3∧k≠4∧k≠5∧k≠6∧k≠7∧k≠8):=hid ⟨k2,k3,k4,k5,k6,k7,k8⟩;clear k2 k3 k4 k5 k6 k7 k8;go_wp2_with fail;refine(nx 118 w).mono ?_;rintro e w3 ⟨v,rfl,hv,hb⟩;have HV:=hid (And.intro hv hb);clear hv hb d2 d3 d4 d5 d6 d7 d8;go_wp2_with fail;go_ret;exact⟨_,rfl,.inr (.inr (.inr (.inr (.inr (.inr (.inr ⟨HK.out,HV.out.1⟩)))))),HV.out.2⟩
theorem yN {w:World}{S:Nat→Prop}{d e:au}{g:Nat}{a0 a1 a2 a3 a4 a5 a6 a7 b0 b1 b2 b3 b4 b5 b6 b7:Value}{t:TypeId}(hg:w.heap[g]? =some (.cells #[a0,a1,a2,a3,a4,a5,a6,a7,b0,b1,b2,b3,b4,b5,b6,b7] t (0,0)))(hS:S g)(h:cQ w S d #[a0,a1,a2,a3,a4,a5,a6,a7])(k:cQ w S e #[b0,b1,b2,b3,b4,b5,b6,b7]):dl w S (some ⟨g,0,none⟩) [d,e]:=fun _=>
 ⟨g,0,rfl,hS,fun i hi=>by
  have hc:=fun j=>Go.Joins.cell_of_block (w:=w) hg j;have hi:i<2:=hi;rcases i with _|i
  ·refine⟨_,fun j v hv=> ?_,h⟩;have hj:j<8:=by have:=(Array.getElem?_eq_some_iff.1 hv).1;simpa using this
   rw[show 0+0 * 8+j=j by omega];refine(hc j).trans ?_;rcases j with _|_|_|_|_|_|_|_|j<;>first|exact hv|omega
  ·obtain rfl:i=0:=by omega
   refine⟨_,fun j v hv=> ?_,k⟩;have hj:j<8:=by have:=(Array.getElem?_eq_some_iff.1 hv).1;simpa using this
   rw[show 0+(0+1) * 8+j=j+8 by omega];refine(hc (j+8)).trans ?_
   rcases j with _|_|_|_|_|_|_|_|j<;>first|exact hv|omega⟩
theorem qQ (S:Nat→Prop)(o:OpT)(X:VT)(f ia:Bool)(w:World)(PA:Option Addr)(pc:Nat)(VA:Option Addr)(vc:Nat)(VA':Option Addr)(vc':Nat)(TA:Option Addr)(tc:Nat)(XA:Option Addr)(xc:Nat)(XA':Option Addr)(xc':Nat)(h:qu S o X w PA pc VA vc VA' vc' TA tc XA xc XA' xc')(ht0:0<o.to.length):
  Calls Tryz.prog 114 #[.agg #[.int .i64 o.kind,.slice PA o.path.length pc,.int .i64 o.val.kind,.int .i64 o.val.num,.string o.val.text,.slice VA o.val.items.length vc,.slice VA' o.val.names.length vc',.slice TA o.to.length tc],.agg #[.int .i64 X.kind,.int .i64 X.num,.string X.text,.slice XA X.items.length xc,.slice XA' X.names.length xc',.bool f,.bool ia]] w (OpR S (kh o (if f then some X else none) ia) w):=by
 have hbx:=fd.new (S:=S) (o:=o) (X:=X) (f:=f) (ia:=ia) (W:=w) (PA:=PA) (pc:=pc) (VA:=VA) (vc:=vc) (VA':=VA') (vc':=vc') (TA:=TA) (tc:=tc) (XA:=XA) (xc:=xc) (XA':=XA') (xc':=xc');obtain⟨w2,hw2⟩: ∃W,W=(w.alloc (.cells #[.int .i64 o.kind,.slice PA o.path.length pc,.int .i64 o.val.kind,.int .i64 o.val.num,.string o.val.text,.slice VA o.val.items.length vc,.slice VA' o.val.names.length vc',.slice TA o.to.length tc] 51)).alloc (.cells #[.int .i64 X.kind,.int .i64 X.num,.string X.text,.slice XA X.items.length xc,.slice XA' X.names.length xc',.bool f,.bool ia] 79):=⟨_,rfl⟩;rw[←hw2]at hbx;have HBX:=hid hbx;have HI:=hid h;have y1:=Go.Joins.cell_of_block hbx.ob 1;have y7:=Go.Joins.cell_of_block hbx.ob 7;have s0:=Go.Joins.cell_of_block hbx.sb 0;have s1:=Go.Joins.cell_of_block hbx.sb 1;have s2:=Go.Joins.cell_of_block hbx.sb 2;have s3:=Go.Joins.cell_of_block hbx.sb 3;have s4:=Go.Joins.cell_of_block hbx.sb 4;have s5:=Go.Joins.cell_of_block hbx.sb 5;have s6:=Go.Joins.cell_of_block hbx.sb 6;clear hbx h;go_enter Tryz.func114,Tryz.ntmps114;have HT0:=hid ht0;clear ht0
 cases f with
 |false=>
  go_wp2_with fail;rw[←hw2];clear hw2;go_wp2_with fail;refine(cB none 0 0 w2).mono ?_;rintro e w3 ⟨rfl,rfl⟩;go_wp2_with fail
  go_ret2
  exact OpR.no 0 HBX.out.below
 |true=>
  cases ia with
  |true=>
   go_wp2_with fail;rw[←hw2];clear hw2;go_wp2_with fail
   go_ret2
   exact OpR.no 40 HBX.out.below
  |false=>
   go_wp2_with fail;rw[←hw2];clear hw2;obtain⟨wd,hwd⟩: ∃W,W=w2.drew:=⟨_,rfl⟩;have HRwd:Hid (Below w.heap.size w wd):=hid (by rw[hwd];exact HBX.out.below.drew);have HBd:Hid (fd S o X true false w wd PA pc VA vc VA' vc' TA tc XA xc XA' xc'):=hid (by rw[hwd];exact HBX.out.call (Below.refl _ _).drew);have HZwd:Hid (w.heap.size+2≤wd.heap.size):=hid HBd.out.size;have kz:=fun(q:af (aE wd.heap.size) wd) (b i:Nat) (hb:b<wd.heap.size)=>World.cell?_of_block (a:=⟨b,i,none⟩) (q.h.block b hb);have hs0:w.heap.size<wd.heap.size:=by have:=HBd.out.size;omega
   have hs1:w.heap.size+1<wd.heap.size:=by have:=HBd.out.size;omega
   have z1:=fun q:af (aE wd.heap.size) wd=>(kz q w.heap.size 1 hs0).trans (Go.Joins.cell_of_block HBd.out.ob 1);have z7:=fun q:af (aE wd.heap.size) wd=>(kz q w.heap.size 7 hs0).trans (Go.Joins.cell_of_block HBd.out.ob 7);have u0:=fun q:af (aE wd.heap.size) wd=>(kz q (w.heap.size+1) 0 hs1).trans (Go.Joins.cell_of_block HBd.out.sb 0);have u1:=fun q:af (aE wd.heap.size) wd=>(kz q (w.heap.size+1) 1 hs1).trans (Go.Joins.cell_of_block HBd.out.sb 1);have u2:=fun q:af (aE wd.heap.size) wd=>(kz q (w.heap.size+1) 2 hs1).trans (Go.Joins.cell_of_block HBd.out.sb 2);have u3:=fun q:af (aE wd.heap.size) wd=>(kz q (w.heap.size+1) 3 hs1).trans (Go.Joins.cell_of_block HBd.out.sb 3);have u4:=fun q:af (aE wd.heap.size) wd=>(kz q (w.heap.size+1) 4 hs1).trans (Go.Joins.cell_of_block HBd.out.sb 4);clear kz y1 y7 s0 s1 s2 s3 s4 s5 s6;refine av (aE wd.heap.size) (aE.refl _) (aE.trans _) [12,13] (.pure [0,1,3,4,5,6] (.step 2 (.step 7 (.step 8 (.step 9 (.free [10,11] (.tail [12,13]))))))) (by kernel_rfl) (by kernel_rfl) (fun _ d _ _ _ h=>by cases d<;>exact h) ?_;rw[←hwd];clear hwd;refine bN ?_;simp only[atR];show wpQuiet _ _ _ _ [_,_,_,_,_,_] _;try simp only[acR,Act.put]
   repeat(go_big_quiet_step (fail))
   refine wpQuiet_nil ?_;clear z1 z7 u0 u1 u2 u3 u4;refine ah rfl (fun K hK=> ?_)
   go_simp
   refine(kP PA o.path.length pc wd).mono ?_;rintro e w3 ⟨rfl,hb3⟩;refine hK _ _ (.inr hb3) ?_;clear hK K;refine ah rfl (fun K hK=> ?_)
   go_simp
   refine(ee TA o.to.length tc X.kind X.num X.text XA X.items.length xc XA' X.names.length xc' w3).mono ?_;rintro e w4 ⟨rfl,hb4⟩;refine hK _ _ (.inr (hb4.mono hb3.size)) ?_;clear hK K;have HRw4:Hid (Below w.heap.size w w4):=hid (HRwd.out.trans ((hb3.mono (by have:=HZwd.out;omega)).trans (hb4.mono (by have:=hb3.size;have:=HZwd.out;omega))));have HZw4:Hid (wd.heap.size≤w4.heap.size):=hid (Nat.le_trans hb3.size hb4.size);clear hb3 hb4;refine ah rfl (fun K hK=> ?_)
   go_simp
   obtain⟨w5,hw5⟩: ∃W,W=w4.alloc (.cells #[.int .i64 2,.slice PA o.path.length pc,.int .i64 0,.int .i64 0,.string ⟨#[]⟩,.slice none 0 0,.slice none 0 0,.int .i64 0,.int .i64 1,.slice TA o.to.length tc,.int .i64 X.kind,.int .i64 X.num,.string X.text,.slice XA X.items.length xc,.slice XA' X.names.length xc',.int .i64 0] 58):=⟨_,rfl⟩;have HN5:Hid (w5.heap[w4.heap.size]? =some (.cells #[.int .i64 2,.slice PA o.path.length pc,.int .i64 0,.int .i64 0,.string ⟨#[]⟩,.slice none 0 0,.slice none 0 0,.int .i64 0,.int .i64 1,.slice TA o.to.length tc,.int .i64 X.kind,.int .i64 X.num,.string X.text,.slice XA X.items.length xc,.slice XA' X.names.length xc',.int .i64 0] 58 (0,0))):=hid (by rw[hw5];exact heap_alloc_new w4 _);have HRw5:Hid (Below w.heap.size w w5):=hid (by rw[hw5];exact HRw4.out.alloc (by have:=HZw4.out;have:=HZwd.out;omega) _);have hb5:Below w4.heap.size w4 w5:=by rw[hw5];exact(Below.refl _ _).alloc (Nat.le_refl _) _
   rw[←hw5];clear hw5;refine hK _ _ (.inr (hb5.mono HZw4.out)) ?_;clear hK K hb5;refine ah rfl (fun K hK=> ?_)
   go_simp
   refine(cB _ 2 2 w5).mono ?_;rintro e w9 ⟨rfl,rfl⟩;refine hK _ _ (.inr (Below.refl _ _)) ?_;clear hK K;refine bm ?_;simp only[atR];show wpQuiet _ _ _ _ [_,_] _;try simp only[acR,Act.put]
   repeat(go_big_quiet_step (fail))
   refine wpQuiet_nil ?_;refine aw rfl (fun K hK=> ?_)
   go_simp
   refine hK _ _ ?_;clear hK K;refine aw rfl (fun K hK=> ?_)
   go_simp
   refine hK _ _ ?_;clear hK K;refine aX ?_;go_wp2_with fail
   go_ret2
   have hk5: ∀b,S b→w5.heap[b]? =w.heap[b]? :=fun b hb=>HRw5.out.block b (HI.out.lt b hb);have hin: ∀b,S b→(S b∧b<w.heap.size)∨New w.heap.size w5 b:=fun b hb=> .inl ⟨hb,HI.out.lt b hb⟩;exact⟨some ⟨w4.heap.size,0,none⟩,2,rfl,yN HN5.out (.inr ⟨by have:=HZw4.out;have:=HZwd.out;omega,(Array.getElem?_eq_some_iff.1 HN5.out).1⟩) (ln ((HI.out.path.keep hk5).imp hin) HI.out.p0 HI.out.pc HI.out.pl) (em ((HI.out.to.keep hk5).imp hin) HT0.out HI.out.tc HI.out.tl ((HI.out.x.keep hk5).imp hin)),fun e=>(by cases e),Nat.le_refl _,HRw5.out⟩
theorem pI {w:World}{S:Nat→Prop}{x:VT}{g:Nat}{c0 c1 c2 c3 c4:Value}{t:TypeId}(hg:w.heap[g]? =some (.cells #[c0,c1,c2,c3,c4] t (0,0)))(hS:S g)(h:LV w S x (.agg #[c0,c1,c2,c3,c4])):LVA w S (some ⟨g,0,none⟩) [x]:=fun _=>
 ⟨g,0,rfl,hS,by
  have hc:=fun j=>Go.Joins.cell_of_block (w:=w) hg j;unfold LVs
  exact⟨⟨c0,c1,c2,c3,c4,hc 0,hc 1,hc 2,hc 3,hc 4,h⟩,by unfold LVs;trivial⟩⟩
theorem tk (S:Nat→Prop)(o:OpT)(w:World)(PA:Option Addr)(pc:Nat)(VA:Option Addr)(vc:Nat)(VA':Option Addr)(vc':Nat)(TA:Option Addr)(tc:Nat)(hS: ∀b,S b→b<w.heap.size)(hv:LV w S o.val (.agg #[.int .i64 o.val.kind,.int .i64 o.val.num,.string o.val.text,.slice VA o.val.items.length vc,.slice VA' o.val.names.length vc']))(hp:ai w S PA o.path)(hp0:0<o.path.length)(hpc:o.path.length≤pc)(hpl:o.path.length≤8796093021952)(hd:ac o.val≤1000000):
  Calls Tryz.prog 149 #[.agg #[.int .i64 o.kind,.slice PA o.path.length pc,.int .i64 o.val.kind,.int .i64 o.val.num,.string o.val.text,.slice VA o.val.items.length vc,.slice VA' o.val.names.length vc',.slice TA o.to.length tc]] w (OpR S (ev o none) w):=by
 obtain⟨w1,hw1⟩: ∃W,W=w.alloc (.cells #[.int .i64 o.kind,.slice PA o.path.length pc,.int .i64 o.val.kind,.int .i64 o.val.num,.string o.val.text,.slice VA o.val.items.length vc,.slice VA' o.val.names.length vc',.slice TA o.to.length tc] 51):=⟨_,rfl⟩;have hb:w1.heap[w.heap.size]? =some (.cells #[.int .i64 o.kind,.slice PA o.path.length pc,.int .i64 o.val.kind,.int .i64 o.val.num,.string o.val.text,.slice VA o.val.items.length vc,.slice VA' o.val.names.length vc',.slice TA o.to.length tc] 51 (0,0)):=by rw[hw1];exact heap_alloc_new w _
 have hz1:w1.heap.size=w.heap.size+1:=by rw[hw1];simp
 have hb1:Below w.heap.size w w1:=by rw[hw1];exact(Below.refl _ _).alloc (Nat.le_refl _) _
 have y1:=Go.Joins.cell_of_block hb 1;have y2:=Go.Joins.cell_of_block hb 2;have y3:=Go.Joins.cell_of_block hb 3;have y4:=Go.Joins.cell_of_block hb 4;have y5:=Go.Joins.cell_of_block hb 5;have y6:=Go.Joins.cell_of_block hb 6;have HOB:=hid hb;have HZ1:=hid hz1;have HB1:=hid hb1;have HI:=hid (And.intro hS (And.intro hv (And.intro hp (And.intro hp0 (And.intro hpc (And.intro hpl hd))))));clear hb hz1 hb1 hS hv hp hp0 hpc hpl hd;go_enter Tryz.func149,Tryz.ntmps149;go_wp2_with fail;rw[←hw1];clear hw1;go_wp2_with fail;obtain⟨w2,hw2⟩: ∃W,W=w1.alloc (.cells #[.int .i64 o.val.kind,.int .i64 o.val.num,.string o.val.text,.slice VA o.val.items.length vc,.slice VA' o.val.names.length vc'] 25):=⟨_,rfl⟩;have hg2:w2.heap[w1.heap.size]? =some (.cells #[.int .i64 o.val.kind,.int .i64 o.val.num,.string o.val.text,.slice VA o.val.items.length vc,.slice VA' o.val.names.length vc'] 25 (0,0)):=by rw[hw2];exact heap_alloc_new w1 _
 rw[HZ1.out]at hg2;have hb2:Below w.heap.size w w2:=by rw[hw2];exact HB1.out.alloc HB1.out.size _
 have hz2:w2.heap.size=w.heap.size+2:=by rw[hw2];simp[HZ1.out]
 have hc2:Below w1.heap.size w1 w2:=by rw[hw2];exact(Below.refl _ _).alloc (Nat.le_refl _) _
 rw[←hw2];have HOB2:=hid ((hc2.block _ (by have:=HZ1.out;omega)).trans HOB.out);have HZ2:=hid hz2;have HB2:=hid hb2;have hk2: ∀b,S b→w2.heap[b]? =w.heap[b]? :=fun b hb=>hb2.block b (HI.out.1 b hb)
 have HA:=hid (oW (fun b=>S b∨b=w.heap.size+1) (some ⟨w.heap.size+1,0,none⟩) 1 [o.val] w2 (fun b hb=>by
  rcases hb with h|h
  ·have:=HI.out.1 b h;omega
  ·omega) (pI hg2 (.inr rfl) ((HI.out.2.1.keep hk2).imp fun b hb=> .inl hb)) (by simp))
 clear hw2 hg2 hb2 hz2 hc2 hk2 HOB y1 y2 y3 y4 y5 y6;refine HA.out.mono ?_;rintro e w3 ⟨v,rfl,hv3,hb3⟩;have hv3:LV w3 (New w2.heap.size w3) (jO [o.val]) v:=hv3;obtain⟨Y,hY⟩: ∃Y,Y=jO [o.val]:=⟨_,rfl⟩;rw[←hY]at hv3;have HY:=hid hY;clear hY;obtain⟨B,k,B',k',rfl,-⟩:=hv3.shape;have HV3:=hid hv3;have HB3:=hid (HB2.out.trans (hb3.mono (by have:=HZ2.out;omega)));have HOB3:=hid ((hb3.block _ (by have:=HZ2.out;omega)).trans HOB2.out);have HZ3:Hid (w.heap.size+2≤w3.heap.size):=hid (by have:=hb3.size;have:=HZ2.out;omega);clear HA hv3 hb3 HB2 HOB2;go_wp2_with fail;obtain⟨w4,hw4⟩: ∃W,W=w3.alloc (.cells #[.int .i64 Y.kind,.int .i64 Y.num,.string Y.text,.slice B Y.items.length k,.slice B' Y.names.length k'] 25):=⟨_,rfl⟩;have hx4:Box w4 w3.heap.size (.int .i64 Y.kind) (.int .i64 Y.num) (.string Y.text) (.slice B Y.items.length k) (.slice B' Y.names.length k'):=by rw[hw4];exact Box.new ..
 have hb4:Below w3.heap.size w3 w4:=by rw[hw4];exact(Below.refl _ _).alloc (Nat.le_refl _) _
 have hz4:w4.heap.size=w3.heap.size+1:=by rw[hw4];simp
 rw[←hw4];clear hw4;have hv4:LV w4 (New w2.heap.size w3) Y (.agg #[.int .i64 Y.kind,.int .i64 Y.num,.string Y.text,.slice B Y.items.length k,.slice B' Y.names.length k']):=HV3.out.keep fun b hb=>hb4.block b hb.2;have HCH:=hid (fl (New w2.heap.size w3) Y _ w4 (fun b hb=>by have:=hb.2;omega) hv4 (by rw[HY.out];have:=HI.out.2.2.2.2.2.2;unfold jO ac aK aK;omega));have HX4:=hid hx4;have HB4:=hid (HB3.out.trans (hb4.mono (by have:=HZ3.out;omega)));have HOB4:=hid ((hb4.block _ (by have:=HZ3.out;omega)).trans HOB3.out);have HV4:=hid hv4;have HZ4:Hid (w.heap.size+2≤w4.heap.size∧w3.heap.size<w4.heap.size∧w.heap.size≤w2.heap.size):=hid (by have:=HZ3.out;have:=HZ2.out;omega);clear hx4 hb4 hz4 hv4 HB3 HOB3;refine HCH.out.mono ?_;rintro e w5 ⟨rfl,hb5⟩;have HX5:=hid (HX4.out.call hb5);have HB5:=hid (HB4.out.trans (hb5.mono (by have:=HZ4.out;omega)));have HOB5:=hid ((hb5.block _ (by have:=HZ4.out;omega)).trans HOB4.out);have HV5:Hid (LV w5 (New w.heap.size w5) Y (.agg #[.int .i64 Y.kind,.int .i64 Y.num,.string Y.text,.slice B Y.items.length k,.slice B' Y.names.length k'])):=hid ((HV4.out.keep fun b hb=>hb5.block b (by have:=hb.2;have:=HZ4.out;omega)).imp fun b hb=>⟨by have:=hb.1;have:=HZ4.out;omega,by have:=hb.2;have:=HZ4.out;have:=hb5.size;omega⟩);have HZ5:Hid (w.heap.size+2≤w5.heap.size):=hid (by have:=hb5.size;have:=HZ4.out;omega);clear HCH hb5 HX4 HB4 HOB4;by_cases hc:az Y=0;rotate_left
 ·have d:(az Y != 0)=true:=by simp[hc]
  have HE:Hid (ev o none=(az Y,[])):=hid (by unfold ev;simp only;rw[←HY.out,if_neg hc]);clear hc;go_wp2_with fail
  go_ret2
  rw[HE.out];exact OpR.no _ HB5.out
 ·have d:(az Y != 0)=false:=by simp[hc]
  have HE:Hid (ev o none=(0,[ec o.path Y])):=hid (by unfold ev;simp only;rw[←HY.out,if_pos hc]);clear hc;have y1:=Go.Joins.cell_of_block HOB5.out 1;have x0:=HX5.out.c0;have x1:=HX5.out.c1;have x2:=HX5.out.c2;have x3:=HX5.out.c3;have x4:=HX5.out.c4;go_wp2_with fail;refine(ee PA o.path.length pc Y.kind Y.num Y.text B Y.items.length k B' Y.names.length k' w5).mono ?_;rintro e w6 ⟨rfl,hb6⟩;have HC6:=hid hb6;have HRw6:=hid (HB5.out.trans (hb6.mono (by have:=HZ5.out;omega)));have HZw6:Hid (w.heap.size≤w6.heap.size):=hid (by have:=hb6.size;have:=HZ5.out;omega);clear hb6 y1 x0 x1 x2 x3 x4;go_wp2_with fail;obtain⟨w7,hrw7⟩: ∃W,W=w6.alloc (.cells #[.int .i64 1,.slice PA o.path.length pc,.int .i64 Y.kind,.int .i64 Y.num,.string Y.text,.slice B Y.items.length k,.slice B' Y.names.length k',.int .i64 0] 58):=⟨_,rfl⟩;have HNw7:Hid (w7.heap[w6.heap.size]? =some (.cells #[.int .i64 1,.slice PA o.path.length pc,.int .i64 Y.kind,.int .i64 Y.num,.string Y.text,.slice B Y.items.length k,.slice B' Y.names.length k',.int .i64 0] 58 (0,0))):=hid (by rw[hrw7];exact heap_alloc_new w6 _);have HRw7:Hid (Below w.heap.size w w7):=hid (by rw[hrw7];exact HRw6.out.alloc (by have:=HZw6.out;omega) _)
  have HP7:Hid (ai w7 (fun b=>(S b∧b<w.heap.size)∨New w.heap.size w7 b) PA o.path∧LV w7 (fun b=>(S b∧b<w.heap.size)∨New w.heap.size w7 b) Y (.agg #[.int .i64 Y.kind,.int .i64 Y.num,.string Y.text,.slice B Y.items.length k,.slice B' Y.names.length k'])):=hid (by
   have hk:Below w6.heap.size w6 w7:=by rw[hrw7];exact(Below.refl _ _).alloc (Nat.le_refl _) _
   have hk2: ∀b,b<w5.heap.size→w7.heap[b]? =w5.heap[b]? :=fun b hb=>(hk.block b (Nat.lt_of_lt_of_le hb HC6.out.size)).trans (HC6.out.block b hb)
   refine⟨(HI.out.2.2.1.keep fun b hb=>HRw7.out.block b (HI.out.1 b hb)).imp fun b hb=> .inl ⟨hb,HI.out.1 b hb⟩,(HV5.out.keep fun b hb=>hk2 b hb.2).imp fun b hb=> .inr ⟨hb.1,Nat.lt_of_lt_of_le hb.2 (Nat.le_trans HC6.out.size hk.size)⟩⟩)
  rw[←hrw7];clear hrw7;refine(cB _ 1 1 w7).mono ?_;rintro e w9 ⟨rfl,rfl⟩;go_wp2_with fail
  go_ret2
  rw[HE.out];exact OpR.one HRw7.out HNw7.out HZw6.out (em HP7.out.1 HI.out.2.2.2.1 HI.out.2.2.2.2.1 HI.out.2.2.2.2.2.1 HP7.out.2)
end Go.Proofs.YtgbopnlpaabelaaGreatDoor
