/- Something done at the end of a path. -/
import Derived.Test.YtgbopnlpaabelaaGreatDoorKPathS
import Derived.Test.YtgbopnlpaabelaaGreatDoorKTrE
set_option maxHeartbeats 64000000
set_option maxRecDepth 100000
set_option linter.unusedVariables false
set_option linter.unusedSimpArgs false
namespace Go.Proofs.YtgbopnlpaabelaaGreatDoor
open Go.RowKit
def goT (fin:VT→List ByteArray→Int×VT):VT→List ByteArray→Int×VT
 |t,[]=>(0,t)
 |t,s::r=>if ab t s<0∨r= []then fin t (s::r)else match t.items[(ab t s).toNat]? with
  |none=>(0,t)
  |some x=>((goT fin x r).1,bO t (ab t s).toNat (goT fin x r).2)
theorem bZ {fin:VT→List ByteArray→Int×VT}{t:VT}{s:ByteArray}{r:List ByteArray}(h:ab t s<0∨r= []):goT fin t (s::r)=fin t (s::r):=by
 conv=>lhs;unfold goT
 rw[if_pos h]
theorem eQ {fin:VT→List ByteArray→Int×VT}{t:VT}{s:ByteArray}{r:List ByteArray}(h:0≤ab t s)(hr:r≠[])(hj:(ab t s).toNat<t.items.length):
  goT fin t (s::r)=((goT fin (t.items[(ab t s).toNat]) r).1,bO t (ab t s).toNat (goT fin (t.items[(ab t s).toNat]) r).2):=by
 conv=>lhs;unfold goT
 rw[if_neg (fun e=>e.elim (fun e=>absurd e (by omega)) hr),List.getElem?_eq_getElem hj]
def cf (F:Nat→Prop)(g o:Nat)(w:World)(res:Int×VT)(e:Ending)(w':World):Prop:=e= .returned (.int .i64 res.1)∧ ∃F',Own F w F'∧OAt w' F' res.2 g o∧Mut F g o w w'
theorem OAt.keep {w w':World}{F:Nat→Prop}{t:VT}{g o:Nat}(h:OAt w F t g o)(hb:Below w.heap.size w w'):OAt w' F t g o:=by
 obtain⟨C,ty,A,c,A',c',hg,g0,g1,g2,g3,g4,hv,hFg,hlt⟩:=h;exact⟨C,ty,A,c,A',c',(hb.block g (Array.getElem?_eq_some_iff.1 hg).1).trans hg,g0,g1,g2,g3,g4,hv.keep fun b hb'=>hb.block b (hlt b hb'),hFg,fun b hb'=>Nat.lt_of_lt_of_le (hlt b hb') hb.size⟩
theorem OAt.lt {w:World}{F:Nat→Prop}{t:VT}{g o:Nat}(h:OAt w F t g o):g<w.heap.size:=by
 obtain⟨C,ty,A,c,A',c',hg,-⟩:=h;exact(Array.getElem?_eq_some_iff.1 hg).1
theorem OAt.at {w:World}{F:Nat→Prop}{t:VT}{g o:Nat}(h:OAt w F t g o): ∃A c A' c',AtV w F t g o A c A' c':=by
 obtain⟨C,ty,A,c,A',c',hg,g0,g1,g2,g3,g4,hv,hFg,hlt⟩:=h;exact⟨A,c,A',c',(Go.Joins.cell_of_block hg o).trans g0,(Go.Joins.cell_of_block hg _).trans g1,(Go.Joins.cell_of_block hg _).trans g2,(Go.Joins.cell_of_block hg _).trans g3,(Go.Joins.cell_of_block hg _).trans g4,hv.lv⟩
theorem cf.from {F:Nat→Prop}{g o:Nat}{w w1:World}{res:Int×VT}{e:Ending}{w':World}(h:cf F g o w1 res e w')(hb:Below w.heap.size w w1)(hg:g<w.heap.size):cf F g o w res e w':=by
 obtain⟨h0,F',h1,h2,m1,m2,m3,m4,m5,m6⟩:=h;refine⟨h0,F',fun b hb'=>(h1 b hb').imp id fun hx=>Nat.le_trans hb.size hx,h2,Nat.le_trans hb.size m1,fun b hb1 hF hne=>(m2 b (Nat.lt_of_lt_of_le hb1 hb.size) hF hne).trans (hb.block b hb1),fun C ty fz hC=>m3 C ty fz ((hb.block g hg).trans hC),m4.trans hb.os,m5.trans hb.tape,m6.trans hb.output⟩
theorem tp (f:Nat)(caps:Array Value)(fin:VT→List ByteArray→Int×VT)(S:Nat→Prop)(J:World→Prop)(Q:VT→Prop)(hQ: ∀t (j:Nat) (hj:j<t.items.length),Q t→Q t.items[j])(hcf0:eD f)(hJ: ∀w w',J w→Below w.heap.size w w'→J w')
  (hleaf: ∀w t g o A c s r F,J w→OAt w F t g o→ao t=true→Q t→ai w S A (s::r)→r.length+1≤c→c≤9223372036854775807→(∀b,S b→b<w.heap.size)→(∀b,S b→ ¬F b∧b≠g)→(ab t s<0∨r= [])→
   Calls Tryz.prog f (#[.agg #[.pointer (some ⟨g,o,none⟩),.int .i64 (ab t s),.slice A (r.length+1) c]]++caps) w (cf F g o w (fin t (s::r))))
  (t:VT) (g o:Nat) (A:Option Addr) (c:Nat) (p:List ByteArray) (w:World) (F:Nat→Prop) (hj:J w) (h:OAt w F t g o) (hm:ao t=true) (hq:Q t) (hp:ai w S A p) (hne:p≠[]) (hpc:p.length≤c) (h63:c≤9223372036854775807) (hS: ∀b,S b→b<w.heap.size) (hSF: ∀b,S b→ ¬F b∧b≠g):
  Calls Tryz.prog 94 #[.pointer (some ⟨g,o,none⟩),.slice A p.length c,.func (.func f) #[] caps] w (cf F g o w (goT fin t p)):=by
 refine oP f caps (cf F g o w (goT fin t p)) (fun w1 t1 g1 o1 A1 c1 p1=>J w1∧(∃F1,OAt w1 F1 t1 g1 o1∧(∀b,S b→ ¬F1 b∧b≠g1)∧ ∀e w2,cf F1 g1 o1 w1 (goT fin t1 p1) e w2→cf F g o w (goT fin t p) e w2)∧ao t1=true∧Q t1∧ai w1 S A1 p1∧p1≠[]∧p1.length≤c1∧c1≤9223372036854775807∧ ∀b,S b→b<w1.heap.size)
  hcf0 (fun e w' h=>⟨_,h.1⟩) ?_ ?_ ?_ ?_ ?_ p t g o A c w ⟨hj,⟨F,h,hSF,fun _ _ h=>h⟩,hm,hq,hp,hne,hpc,h63,hS⟩
 ·rintro w1 t1 g1 o1 A1 c1 p1 ⟨-,⟨F1,ho,-,-⟩,hm1,-,-⟩;obtain⟨B,k,B',k',hv⟩:=ho.at;exact⟨F1,B,k,B',k',hv,ho.lt,bR hm1⟩
 ·rintro w1 t1 g1 o1 A1 c1 p1 ⟨-,-,-,-,hs,hn,hc,h63,-⟩;exact⟨S,hs,hc,h63,hn,mE hs⟩
 ·rintro w1 w2 t1 g1 o1 A1 c1 p1 ⟨hj1,⟨F1,ho,hSF1,hR⟩,hm1,hq1,hs,hn,hc,h63,hS1⟩ hb;exact⟨hJ _ _ hj1 hb,⟨F1,ho.keep hb,hSF1,fun e w3 hd=>hR e w3 (hd.from hb ho.lt)⟩,hm1,hq1,hs.keep fun b hb'=>hb.block b (hS1 b hb'),hn,hc,h63,fun b hb'=>Nat.lt_of_lt_of_le (hS1 b hb') hb.size⟩
 ·rintro w1 t1 g1 o1 A1 c1 s r G off B k B' k' S' hjl ⟨hj1,⟨F1,ho,hSF1,hR⟩,hm1,hq1,hs,hn,hc,h63,hS1⟩ hr hpl hat rfl;obtain⟨G',Fj,⟨c',hcell⟩,hFG,hoj,hsub,hup⟩:=ho.item hjl;have h1:=hcell.symm.trans hat.c3;injection h1 with h1
  injection h1 with h1 _ _
  injection h1 with h1
  injection h1 with h1 h2
  subst h1 h2;have hrl:0<r.length:=by cases r with|nil=>exact absurd rfl hr|cons a b=>simp
  simp only[List.length_cons]at hc;refine⟨hj1,⟨Fj,by rw[Nat.zero_add];exact hoj,fun b hb=>⟨fun e=>(hSF1 b hb).1 (hsub b e),fun e=>(hSF1 b hb).1 (e▸hFG)⟩,fun e w2 hd=>hR e w2 ?_⟩,ci hm1 hjl,hQ _ _ hjl hq1,hs.tail (.inr (by omega)),hr,by omega,by omega,hS1⟩;rw[Nat.zero_add]at hd;obtain⟨h0,F',k1,k2,k3⟩:=hd;obtain⟨F'',j1,j2,j3⟩:=hup w2 _ F' k3 k2 k1;rw[eQ hpl hr hjl];exact⟨h0,F'',j1,j2,j3⟩
 ·rintro w1 t1 g1 o1 A1 c1 s r ⟨hj1,⟨F1,ho,hSF1,hR⟩,hm1,hq1,hs,hn,hc,h63,hS1⟩ hend;refine(hleaf w1 t1 g1 o1 A1 c1 s r F1 hj1 ho hm1 hq1 hs (by simpa using hc) h63 hS1 hSF1 hend).mono fun e w2 hd=>hR e w2 ?_;rw[bZ hend];exact hd
open Lib (hid)
def bP :VT:= .mk 0 0 ⟨#[]⟩ [] []
def br (fin:VT→List ByteArray→Int×VT)(t:VT)(p:List ByteArray):Int×VT:=if dJ t p=0 then(if(goT fin t p).1=0 then(0,(goT fin t p).2)else((goT fin t p).1,bP))else(dJ t p,bP)
def dF (res:Int×VT)(w:World)(e:Ending)(w':World):Prop:=
 ∃v,e= .returned (.tuple #[v,.int .i64 res.1])∧LV w' (Iv w.heap.size w'.heap.size) res.2 v∧Below w.heap.size w w'
theorem jw {w w5:World}{res:Int×VT}{u:VT}{x:Int}{c0 c1 c2 c3 c4:Value}(hb:Below w.heap.size w w5)(hv:LV w5 (Iv (w.heap.size+2) w5.heap.size) u (.agg #[c0,c1,c2,c3,c4]))(hr:res=(x,u)):
  dF res w (.returned (.tuple #[.agg #[c0,c1,c2,c3,c4],.int .i64 x])) (cI w5 (w.heap.size+1) 0 c0 c1 c2 c3 c4):=by
 have hr5:=ct w5 (w.heap.size+1) 0 c0 c1 c2 c3 c4;have hk:=bz w5 (w.heap.size+1) 0 c0 c1 c2 c3 c4;have hz:=bK w5 (w.heap.size+1) 0 c0 c1 c2 c3 c4;subst hr
 exact⟨_,rfl,(hv.keep fun b hb'=>hk b (by have:=hb'.1;omega)).imp fun b hb'=>⟨by have:=hb'.1;omega,by rw[hz];exact hb'.2⟩,
  ⟨hr5.1.trans hb.os,hr5.2.1.trans hb.tape,hr5.2.2.trans hb.output,by rw[hz];exact hb.size,fun b hb'=>(hk b (by omega)).trans (hb.block b hb')⟩⟩
theorem jm (w:World)(S:Nat→Prop):LV w S bP (.agg #[.int .i64 0,.int .i64 0,.string ⟨#[]⟩,.slice none 0 0,.slice none 0 0]):=eZ w S 0 0 ⟨#[]⟩ (by unfold Rng;omega) (by unfold Rng;omega) (by decide)
theorem hH (f:Nat)(caps:Array Value)(fin:VT→List ByteArray→Int×VT)(S:Nat→Prop)(J:World→Prop)(Q:VT→Prop)(hQ: ∀t (j:Nat) (hj:j<t.items.length),Q t→Q t.items[j])(hcf0:eD f)(hJ: ∀w w',J w→Below w.heap.size w w'→J w')
  (hleaf: ∀w t g o A c s r F,J w→OAt w F t g o→ao t=true→Q t→ai w S A (s::r)→r.length+1≤c→c≤9223372036854775807→(∀b,S b→b<w.heap.size)→(∀b,S b→ ¬F b∧b≠g)→(ab t s<0∨r= [])→
   Calls Tryz.prog f (#[.agg #[.pointer (some ⟨g,o,none⟩),.int .i64 (ab t s),.slice A (r.length+1) c]]++caps) w (cf F g o w (fin t (s::r))))
  (t:VT) (v:Value) (A:Option Addr) (c:Nat) (p:List ByteArray) (w:World) (hj:J w) (hq:Q t) (hS: ∀b,S b→b<w.heap.size) (h:LV w S t v) (hd:ac t≤4611686018427387903) (hp:ai w S A p) (hn:p.length≤140737488351232) (hpc:p.length≤c) (h63:c≤9223372036854775807):
  Calls Tryz.prog 127 #[v,.slice A p.length c,.func (.func f) #[] caps] w (dF (br fin t p) w):=by
 obtain⟨A0,c0,A0',c0',rfl,-,-,-,v1,hb0⟩:=bV hS h;have HALONG:=hid (tp f caps fin S J Q hQ hcf0 hJ hleaf);have HJ:=hid hJ;have HJW:=hid hj;have HQT:=hid hq;have HX:=hid v1.x;have HB:=hid hb0;have HP:=hid hp;have HV:=hid h;have HD:=hid hd;clear h v1 hb0 hp hd hleaf hJ hcf0 hj hQ;go_enter Tryz.func127,Tryz.ntmps127;go_wp2_with fail;have hz1:(w.alloc (.cells #[.int .i64 t.kind,.int .i64 t.num,.string t.text,.slice A0 t.items.length c0,.slice A0' t.names.length c0'] 25)).heap.size=w.heap.size+1:=by simp
 have hB0:Below w.heap.size w ((w.alloc (.cells #[.int .i64 t.kind,.int .i64 t.num,.string t.text,.slice A0 t.items.length c0,.slice A0' t.names.length c0'] 25)).alloc (.cells #[.int .i64 0,.int .i64 0,.string ⟨#[]⟩,.slice none 0 0,.slice none 0 0] 25)):=HB.out.alloc (by omega) _;have hX0:=HX.out.alloc (.cells #[.int .i64 0,.int .i64 0,.string ⟨#[]⟩,.slice none 0 0,.slice none 0 0] 25)
 have hR0:Box ((w.alloc (.cells #[.int .i64 t.kind,.int .i64 t.num,.string t.text,.slice A0 t.items.length c0,.slice A0' t.names.length c0'] 25)).alloc (.cells #[.int .i64 0,.int .i64 0,.string ⟨#[]⟩,.slice none 0 0,.slice none 0 0] 25)) (w.heap.size+1) (.int .i64 0) (.int .i64 0) (.string ⟨#[]⟩) (.slice none 0 0) (.slice none 0 0):=by
  have h:=Box.new (w:=w.alloc (.cells #[.int .i64 t.kind,.int .i64 t.num,.string t.text,.slice A0 t.items.length c0,.slice A0' t.names.length c0'] 25)) (.int .i64 0) (.int .i64 0) (.string ⟨#[]⟩) (.slice none 0 0) (.slice none 0 0);rw[hz1]at h;exact h
 have hz2:((w.alloc (.cells #[.int .i64 t.kind,.int .i64 t.num,.string t.text,.slice A0 t.items.length c0,.slice A0' t.names.length c0'] 25)).alloc (.cells #[.int .i64 0,.int .i64 0,.string ⟨#[]⟩,.slice none 0 0,.slice none 0 0] 25)).heap.size=w.heap.size+2:=by simp
 have HCHK:=hid (nc S t _ A c p _ (fun b hb=>Nat.lt_of_lt_of_le (hS b hb) hB0.size) (HV.out.keep fun b hb=>hB0.block b (hS b hb)) HD.out (HP.out.keep fun b hb=>hB0.block b (hS b hb)) hn);have HB0:=hid hB0;have HX0:=hid hX0;have HR0:=hid hR0;clear hB0 hX0 hR0 hz1 HB HX;go_wp2_with fail;refine HCHK.out.mono ?_;rintro e w3 ⟨rfl,hb3⟩;have HB3:=hid (HB0.out.trans (hb3.mono (by omega)));have HX3:=hid (HX0.out.call hb3);have HR3:=hid (HR0.out.call hb3);have hz3:w.heap.size+2≤w3.heap.size:=by have:=hb3.size;omega
 clear hb3 HB0 HX0 HR0 HCHK hz2;obtain⟨W,hW⟩: ∃W,W=dJ t p:=⟨_,rfl⟩;rw[←hW];have HW:=hid hW;clear hW;have rf:=fun i=>HR3.out.free i;have r0:=HR3.out.c0;have r1:=HR3.out.c1;have r2:=HR3.out.c2;have r3:=HR3.out.c3;have r4:=HR3.out.c4;by_cases h0:W=0;rotate_left
 ·have h1:(W != 0)=true:=by simp[h0]
  have hg:br fin t p=(W,bP):=by unfold br;rw[if_neg (by rw[←HW.out];exact h0),HW.out]
  have HG:=hid hg;clear hg h0;go_wp2_with fail;refine bodyPost_ret (ar rfl _ _ (w.heap.size+1) 25 _ (0,0) rfl (aY HR3.out) (by kernel_rfl)) rfl ?_;exact jw HB3.out (jm _ _) HG.out
 subst h0;obtain⟨hm,h7,hmp⟩:=mv HW.out;have HM:=hid hm;have HMP:=hid hmp;have HGT:Hid (br fin t p=if(goT fin t p).1=0 then(0,(goT fin t p).2)else((goT fin t p).1,bP)):=hid (by unfold br;rw[if_pos HW.out.symm]);have q0:=HX3.out.c0;have q1:=HX3.out.c1;have q2:=HX3.out.c2;have q3:=HX3.out.c3;have q4:=HX3.out.c4;have HCL:=hid (kD S t _ w3 (fun b hb=>by have:=hS b hb;omega) (HV.out.keep fun b hb=>HB3.out.block b (hS b hb)));clear hm h7 hmp r0 r1 r2 r3 r4 rf;go_wp2_with fail;refine HCL.out.mono ?_;rintro e w4 ⟨v',rfl,hov,hb4⟩;obtain⟨B,k,B',k',ys,rfl,-⟩:=hov.shape;have HOV:=hid hov;have HB4:=hid (HB3.out.trans (hb4.mono (show w.heap.size≤w3.heap.size by omega)));have HR4:=hid (HR3.out.call hb4);have hz4:=hb4.size;clear hov hb4 HCL q0 q1 q2 q3 q4 HX3 HR3 HB3;go_wp2_with fail;have hb5:Below w4.heap.size w4 (w4.alloc (.cells #[.int .i64 t.kind,.int .i64 t.num,.string t.text,.slice B t.items.length k,.slice B' t.names.length k'] 25)):=ae _;have hx5:Box (w4.alloc (.cells #[.int .i64 t.kind,.int .i64 t.num,.string t.text,.slice B t.items.length k,.slice B' t.names.length k'] 25)) w4.heap.size _ _ _ _ _:=Box.new _ _ _ _ _;have hz5:(w4.alloc (.cells #[.int .i64 t.kind,.int .i64 t.num,.string t.text,.slice B t.items.length k,.slice B' t.names.length k'] 25)).heap.size=w4.heap.size+1:=by simp
 generalize w4.alloc (.cells #[.int .i64 t.kind,.int .i64 t.num,.string t.text,.slice B t.items.length k,.slice B' t.names.length k'] 25)=w5 at *;have hO5:OAt w5 (Iv w3.heap.size w4.heap.size) t w4.heap.size 0:=⟨_,_,B,k,B',k',hx5,rfl,rfl,rfl,rfl,rfl,HOV.out.keep fun b hb=>hb5.block b hb.2,fun hb=>by have:=hb.2;omega,fun b hb=>by have:=hb.2;omega⟩;have hB5:=HB4.out.trans (hb5.mono (show w.heap.size≤w4.heap.size by omega));have HR5:=hid (HR4.out.call hb5);have HCALL:=hid (HALONG.out t w4.heap.size 0 A c p w5 _ (HJ.out _ _ HJW.out hB5) hO5 HM.out HQT.out (HP.out.keep fun b hb=>hB5.block b (hS b hb)) (lH HMP.out) hpc h63 (fun b hb=>by have:=hS b hb;omega) (fun b hb=>⟨fun e=>by have:=hS b hb;have:=e.1;omega,by have:=hS b hb;omega⟩));have HB5:=hid hB5;clear hb5 hx5 hO5 hB5 HR4 HB4 HOV HALONG HJ HJW HV;refine HCALL.out.mono ?_;rintro e w6 ⟨rfl,F,hF,⟨C,ty,D,d,D',d',hg,g0,g1,g2,g3,g4,hv,hFg,hlt⟩,m1,m2,m3,m4,m5,m6⟩;have hk: ∀b,b<w.heap.size+2→w6.heap[b]? =w5.heap[b]? :=fun b hb=>m2 b (by omega) (fun x=>by have:=x.1;omega) (by omega);have HB6:Hid (Below w.heap.size w w6):=hid ⟨m4.trans HB5.out.os,m5.trans HB5.out.tape,m6.trans HB5.out.output,Nat.le_trans HB5.out.size m1,fun b hb=>(hk b (by omega)).trans (HB5.out.block b hb)⟩;have HR6:Hid (Box w6 (w.heap.size+1) _ _ _ _ _):=hid ((hk _ (by omega)).trans HR5.out);have HV6:=hid (hv.lv.imp (S':=Iv (w.heap.size+2) w6.heap.size) fun b hb=>⟨(hF b hb).elim (fun x=>by have:=x.1;omega) (fun x=>by omega),hlt b hb⟩);have x0:=(Go.Joins.cell_of_block hg 0).trans g0
 have x1:=(Go.Joins.cell_of_block hg 1).trans g1;have x2:=(Go.Joins.cell_of_block hg 2).trans g2;have x3:=(Go.Joins.cell_of_block hg 3).trans g3;have x4:=(Go.Joins.cell_of_block hg 4).trans g4;clear hk hF hg g0 g1 g2 g3 g4 hv hFg hlt m1 m2 m3 m4 m5 m6 HCALL HR5 HB5;generalize hres:goT fin t p=res at *;obtain⟨x,u⟩:=res;simp only at *;have r0:=HR6.out.c0;have r1:=HR6.out.c1;have r2:=HR6.out.c2;have r3:=HR6.out.c3;have r4:=HR6.out.c4;have rf:=fun i=>HR6.out.free i;clear hres;by_cases hx:x=0
 ·subst hx;have hg:br fin t p=(0,u):=by rw[HGT.out];rfl
  have HG:=hid hg;clear hg HGT;go_wp2_with fail;refine bodyPost_ret (ar rfl _ _ (w.heap.size+1) 25 _ (0,0) rfl (aY HR6.out) (by kernel_rfl)) rfl ?_;exact jw HB6.out HV6.out HG.out
 ·have h1:(x != 0)=true:=by simp[hx]
  have hg:br fin t p=(x,bP):=by rw[HGT.out,if_neg hx]
  have HG:=hid hg;clear hg HGT hx;go_wp2_with fail;refine bodyPost_ret (ar rfl _ _ (w.heap.size+1) 25 _ (0,0) rfl (aY HR6.out) (by kernel_rfl)) rfl ?_;exact jw HB6.out (jm _ _) HG.out
def fu (t:VT)(s:ByteArray)(r:List ByteArray):Bool:=decide (dY s.data.toList=(t.items.length:Int)) && decide (r.length=0)
theorem nP (S S2:Nat→Prop)(t:VT)(g o:Nat)(A:Option Addr)(c:Nat)(A':Option Addr)(c':Nat)(P:Int)(R:Option Addr)(cR:Nat)(s:ByteArray)(r:List ByteArray)(w:World)(h:AtV w S t g o A c A' c')(hg:g<w.heap.size)(hr:ai w S2 R (s::r))(hS: ∀b,S2 b→b<w.heap.size)(hn:r.length+1≤9223372036854775807):
  Calls Tryz.prog 161 #[.agg #[.pointer (some ⟨g,o,none⟩),.int .i64 P,.slice R (r.length+1) cR]] w fun e w'=>e= .returned (.bool (fu t s r))∧Below w.heap.size w w':=by
 obtain⟨b,off,rfl,hb,hx⟩:=hr (by simp);have hs0:=(hx 0 (by simp)).1;have hsz:=(hx 0 (by simp)).2;simp only[List.getElem_cons_zero,Nat.add_zero]at hs0 hsz;have hbs:=hS b hb;have hlen:=h.names.2.2;have c3:=h.c3;obtain⟨Q,hQ⟩: ∃Q,Q=fu t s r:=⟨_,rfl⟩;rw[←hQ];have HQ:=hid hQ;clear hQ h hx hr;have hb1:Below w.heap.size w (w.alloc (.cells #[.pointer (some ⟨g,o,none⟩),.int .i64 P,.slice (some ⟨b,off,none⟩) (r.length+1) cR] 108)):=ae _;have HB1:=hid hb1;have hs1:(w.alloc (.cells #[.pointer (some ⟨g,o,none⟩),.int .i64 P,.slice (some ⟨b,off,none⟩) (r.length+1) cR] 108)).heap[w.heap.size]? =some (.cells #[.pointer (some ⟨g,o,none⟩),.int .i64 P,.slice (some ⟨b,off,none⟩) (r.length+1) cR] 108 (0,0)):=heap_alloc_new w _;have HS1:=hid hs1;clear hb1 hs1;go_enter Tryz.func161,Tryz.ntmps161;go_wp2_with fail;refine(oO s _ hsz).mono ?_;rintro e w2 hi;have hlt1:0≤r.length:=Nat.zero_le _;unfold iV at hi
 cases hix:fS s.data.toList with
 |none=>
  rw[hix]at hi;obtain⟨rfl,hb2⟩:=hi;have hI:=dB hix;have hq:Q=false:=by rw[HQ.out];unfold fu;rw[hI,decide_eq_false (by omega)];rfl
  have HB2:=hid (am HB1.out hb2);clear hb2;go_wp2_with fail;go_ret
  exact⟨by rw[hq];rfl,HB2.out⟩
 |some n=>
  rw[hix]at hi;obtain⟨rfl,hb2⟩:=hi;have hI:=ga hix;have hz1:(w.alloc (.cells #[.pointer (some ⟨g,o,none⟩),.int .i64 P,.slice (some ⟨b,off,none⟩) (r.length+1) cR] 108)).heap.size=w.heap.size+1:=by simp
  have k0:=(World.cell?_of_block (a:=⟨w.heap.size,0,none⟩) (hb2.block w.heap.size (by omega))).trans (Go.Joins.cell_of_block HS1.out 0);have k2:=(World.cell?_of_block (a:=⟨w.heap.size,2,none⟩) (hb2.block w.heap.size (by omega))).trans (Go.Joins.cell_of_block HS1.out 2);have HB2:=hid (am HB1.out hb2);have k3:=(World.cell?_of_block (a:=⟨g,o+3,none⟩) (HB2.out.block g hg)).trans c3;clear hb2 hz1 HS1;have hnx:fu t s r=(decide ((n:Int)=(t.items.length:Int)) && decide (r.length=0)):=by unfold fu;rw[hI]
  by_cases hnl:(n:Int)=(t.items.length:Int)
  ·have hb:((n:Int) == (t.items.length:Int))=true:=by simp[hnl]
   by_cases hr0:r.length=0
   ·have hb':((r.length:Int)+1 == 1)=true:=by simp[hr0]
    have hq:Q=true:=by rw[HQ.out,hnx,decide_eq_true hnl,decide_eq_true hr0];rfl
    have HQ2:=hid hq;clear hq hnx;go_wp2_with fail;go_ret;exact⟨by rw[HQ2.out];rfl,HB2.out⟩
   ·have hb':((r.length:Int)+1 == 1)=false:=beq_false_of_ne (by omega);have hq:Q=false:=by rw[HQ.out,hnx,decide_eq_false hr0,Bool.and_false]
    have HQ2:=hid hq;clear hq hnx;go_wp2_with fail;go_ret;exact⟨by rw[HQ2.out];rfl,HB2.out⟩
  ·have hb:((n:Int) == (t.items.length:Int))=false:=beq_false_of_ne hnl;have hq:Q=false:=by rw[HQ.out,hnx,decide_eq_false hnl,Bool.false_and]
   have HQ2:=hid hq;clear hq hnx;go_wp2_with fail;go_ret;exact⟨by rw[HQ2.out];rfl,HB2.out⟩
theorem vr (F:Nat→Prop)(t u:VT)(g o:Nat)(j:Nat)(hj:j<t.items.length)(rest:Value)(w w1:World)(B:Option Addr)(k:Nat)(B':Option Addr)(k':Nat)(h:OAt w F t g o)(hb1:Below w.heap.size w w1)
  (hu:OV w1 (Iv w.heap.size w1.heap.size) u (.agg #[.int .i64 u.kind,.int .i64 u.num,.string u.text,.slice B u.items.length k,.slice B' u.names.length k'])):
  Calls Tryz.prog 129 #[.agg #[.pointer (some ⟨g,o,none⟩),.int .i64 j,rest],.agg #[.int .i64 u.kind,.int .i64 u.num,.string u.text,.slice B u.items.length k,.slice B' u.names.length k']] w1 (cf F g o w (0,bO t j u)):=by
 have hneg:decide (0≤(j:Int))=true:=decide_eq_true (by omega);obtain⟨A,cA,A',cA',hat⟩:=(h.keep hb1).at;have hlen:=hat.names.2.2;have hgl:=(h.keep hb1).lt;have hgl0:=h.lt;obtain⟨G,⟨cp,hc3⟩,hFG,⟨C,ty,hG,hGs⟩,hst⟩:=h.store hj
 have hgG:g≠G:=by
  obtain⟨_,_,_,_,_,_,_,_,_,_,_,_,_,hn,_⟩:=h;exact fun e=>hn (e▸hFG)
 have HST:=hid hst;have hGl:=(Array.getElem?_eq_some_iff.1 hG).1;have hGl1:=Nat.lt_of_lt_of_le hGl hb1.size;have hc31:=(World.cell?_of_block (a:=⟨g,o+3,none⟩) (hb1.block g hgl0)).trans hc3;have hG1:=(hb1.block G hGl).trans hG;have HB1:=hid hb1;have HU:=hid hu;have hz1:=hb1.size;clear h hat hst hb1 hu hc3 hG;go_enter Tryz.func129,Tryz.ntmps129;go_wp2_with fail;refine au (aj G G) (aj.refl _ _) (aj.trans _ _) [] (.pure [0,1,2,3,4,5,6,7] (.step 8 (.step 9 (.tail [])))) (by kernel_rfl) (by kernel_rfl) (fun _ d _ _ _ h=>by cases d<;>exact h) ?_;have hza:(w1.alloc (.cells #[.pointer (some ⟨g,o,none⟩),.int .i64 j,rest] 108)).heap.size=w1.heap.size+1:=by simp
 have hz0:((w1.alloc (.cells #[.pointer (some ⟨g,o,none⟩),.int .i64 j,rest] 108)).alloc (.cells #[.int .i64 u.kind,.int .i64 u.num,.string u.text,.slice B u.items.length k,.slice B' u.names.length k'] 25)).drew.heap.size=w1.heap.size+2:=by simp
 have hb0:Below w1.heap.size w1 ((w1.alloc (.cells #[.pointer (some ⟨g,o,none⟩),.int .i64 j,rest] 108)).alloc (.cells #[.int .i64 u.kind,.int .i64 u.num,.string u.text,.slice B u.items.length k,.slice B' u.names.length k'] 25)).drew:=((ae _).alloc (by simp) _).drew;have hs:((w1.alloc (.cells #[.pointer (some ⟨g,o,none⟩),.int .i64 j,rest] 108)).alloc (.cells #[.int .i64 u.kind,.int .i64 u.num,.string u.text,.slice B u.items.length k,.slice B' u.names.length k'] 25)).drew.heap[w1.heap.size]? =some (.cells #[.pointer (some ⟨g,o,none⟩),.int .i64 j,rest] 108 (0,0)):=(Below.heap_alloc (w1.alloc (.cells #[.pointer (some ⟨g,o,none⟩),.int .i64 j,rest] 108)) _ w1.heap.size (by omega)).trans (heap_alloc_new w1 _)
 have hx:Box ((w1.alloc (.cells #[.pointer (some ⟨g,o,none⟩),.int .i64 j,rest] 108)).alloc (.cells #[.int .i64 u.kind,.int .i64 u.num,.string u.text,.slice B u.items.length k,.slice B' u.names.length k'] 25)).drew (w1.heap.size+1) (.int .i64 u.kind) (.int .i64 u.num) (.string u.text) (.slice B u.items.length k) (.slice B' u.names.length k'):=by
  have:=Box.new (w:=(w1.alloc (.cells #[.pointer (some ⟨g,o,none⟩),.int .i64 j,rest] 108))) (.int .i64 u.kind) (.int .i64 u.num) (.string u.text) (.slice B u.items.length k) (.slice B' u.names.length k');rw[hza]at this;exact this
 generalize ((w1.alloc (.cells #[.pointer (some ⟨g,o,none⟩),.int .i64 j,rest] 108)).alloc (.cells #[.int .i64 u.kind,.int .i64 u.num,.string u.text,.slice B u.items.length k,.slice B' u.names.length k'] 25)).drew=w0 at *;have s0: ∀p:af (aj G G) w0,p.u.cell? ⟨w1.heap.size,0,none⟩=some (.pointer (some ⟨g,o,none⟩)):=fun p=>(World.cell?_of_block (a:=⟨w1.heap.size,0,none⟩) (p.h.2 w1.heap.size (by omega) (by omega) (by omega))).trans (Go.Joins.cell_of_block hs 0);have s1: ∀p:af (aj G G) w0,p.u.cell? ⟨w1.heap.size,1,none⟩=some (.int .i64 j):=fun p=>(World.cell?_of_block (a:=⟨w1.heap.size,1,none⟩) (p.h.2 w1.heap.size (by omega) (by omega) (by omega))).trans (Go.Joins.cell_of_block hs 1);have q3: ∀p:af (aj G G) w0,p.u.cell? ⟨g,o+3,none⟩=some (.slice (some ⟨G,0,none⟩) t.items.length cp):=fun p=>(World.cell?_of_block (a:=⟨g,o+3,none⟩) (p.h.2 g (by omega) hgG hgG)).trans ((World.cell?_of_block (a:=⟨g,o+3,none⟩) (hb0.block g hgl)).trans hc31);have kx: ∀(p:af (aj G G) w0) (i:Nat),p.u.cell? ⟨w1.heap.size+1,i,none⟩=w0.cell? ⟨w1.heap.size+1,i,none⟩:=fun p i=>World.cell?_of_block (a:=⟨w1.heap.size+1,i,none⟩) (p.h.2 (w1.heap.size+1) (by omega) (by omega) (by omega));have y0:=fun p:af (aj G G) w0=>(kx p 0).trans hx.c0;have y1:=fun p:af (aj G G) w0=>(kx p 1).trans hx.c1;have y2:=fun p:af (aj G G) w0=>(kx p 2).trans hx.c2;have y3:=fun p:af (aj G G) w0=>(kx p 3).trans hx.c3;have y4:=fun p:af (aj G G) w0=>(kx p 4).trans hx.c4;have hG0:=(hb0.block G hGl1).trans hG1;have HFIN:=hid (HST.out w0 (Iv w.heap.size w1.heap.size) u B k B' k' (HB1.out.trans (hb0.mono hz1)) (HU.out.keep fun b hb=>hb0.block b hb.2) (fun b hb=>⟨hb.1,by have:=hb.2;omega⟩))
 have x0:=(Go.Joins.cell_of_block hG0 (j * 5)).trans (Array.getElem?_eq_getElem (show j * 5<C.size by omega));have x1:=(Go.Joins.cell_of_block hG0 (j * 5+1)).trans (Array.getElem?_eq_getElem (show j * 5+1<C.size by omega));have x2:=(Go.Joins.cell_of_block hG0 (j * 5+2)).trans (Array.getElem?_eq_getElem (show j * 5+2<C.size by omega));have x3:=(Go.Joins.cell_of_block hG0 (j * 5+3)).trans (Array.getElem?_eq_getElem (show j * 5+3<C.size by omega));have x4:=(Go.Joins.cell_of_block hG0 (j * 5+4)).trans (Array.getElem?_eq_getElem (show j * 5+4<C.size by omega));have xf:=fun i=>Go.Joins.unfrozen_of_block hG0 i;have h5:=bz w0 G (j * 5) (.int .i64 u.kind) (.int .i64 u.num) (.string u.text) (.slice B u.items.length k) (.slice B' u.names.length k');have hz5:=bK w0 G (j * 5) (.int .i64 u.kind) (.int .i64 u.num) (.string u.text) (.slice B u.items.length k) (.slice B' u.names.length k');clear hs hb0 hc31 HST hG0 hx kx hza HB1 HU hG1;refine bG ?_;simp only[atR];show wpQuiet _ _ _ _ [_,_,_,_,_,_,_,_] _;try simp only[acR,Act.put]
 repeat(go_big_quiet_step (fail))
 refine wpQuiet_nil ?_;clear s0 s1 q3 y0 y1 y2 y3 y4;refine ah rfl (fun K hK=> ?_)
 go_simp
 refine hK _ _ (.inr (aj.refl _ _ _)) ?_;clear hK K;refine ah rfl (fun K hK=> ?_)
 go_simp
 refine hK _ (cI w0 G (j * 5) (.int .i64 u.kind) (.int .i64 u.num) (.string u.text) (.slice B u.items.length k) (.slice B' u.names.length k')) (.inr ⟨by omega,fun b hb hg hh=>h5 b hg⟩) ?_;clear hK K x0 x1 x2 x3 x4 xf h5 hz5;generalize cI w0 G (j * 5) (.int .i64 u.kind) (.int .i64 u.num) (.string u.text) (.slice B u.items.length k) (.slice B' u.names.length k')=w6 at *;refine aQ ?_;go_wp2_with fail;go_ret;exact⟨rfl,HFIN.out⟩
def jB :VT:= .mk 1 0 ⟨#[]⟩ [] []
theorem sA (F:Nat→Prop)(t:VT)(g o:Nat)(P:Int)(hP:P<0)(rest:Value)(w:World)(h:OAt w F t g o):
  Calls Tryz.prog 131 #[.agg #[.pointer (some ⟨g,o,none⟩),.int .i64 P,rest]] w fun e w'=>e= .returned (.tuple #[])∧ ∃F',Own F w F'∧OAt w' F' t g o∧Mut F g o w w':=by
 have hneg:decide (P<0)=true:=decide_eq_true hP;have hb:Below w.heap.size w (w.alloc (.cells #[.pointer (some ⟨g,o,none⟩),.int .i64 P,rest] 108)):=ae _
 have hfin: ∃F',Own F w F'∧OAt (w.alloc (.cells #[.pointer (some ⟨g,o,none⟩),.int .i64 P,rest] 108)) F' t g o∧Mut F g o w (w.alloc (.cells #[.pointer (some ⟨g,o,none⟩),.int .i64 P,rest] 108)):=
  ⟨F,fun _=> .inl,h.keep hb,hb.size,fun b hb1 _ _=>hb.block b hb1,fun C ty fz hC=>⟨C,(hb.block g h.lt).trans hC,rfl,fun _ _=>rfl⟩,hb.os,hb.tape,hb.output⟩
 have HFIN:=hid hfin;clear h hb hfin;go_enter Tryz.func131,Tryz.ntmps131;go_wp2_with fail
 go_end0
 exact⟨rfl,HFIN.out⟩
theorem sk (F:Nat→Prop)(t:VT)(g o:Nat)(j:Nat)(hj:j<t.items.length)(hk:t.kind≠7)(rest:Value)(w:World)(h:OAt w F t g o):
  Calls Tryz.prog 131 #[.agg #[.pointer (some ⟨g,o,none⟩),.int .i64 j,rest]] w fun e w'=>e= .returned (.tuple #[])∧ ∃F',Own F w F'∧OAt w' F' (bO t j jB) g o∧Mut F g o w w':=by
 have hneg:decide ((j:Int)<0)=false:=decide_eq_false (by omega);obtain⟨A,cA,A',cA',hat⟩:=h.at;have hlen:=hat.names.2.2;have hgl:=h.lt;obtain⟨G,⟨cp,hc3⟩,hFG,⟨C,ty,hG,hGs⟩,hst⟩:=h.store hj
 have hgG:g≠G:=by
  obtain⟨_,_,_,_,_,_,_,_,_,_,_,_,_,hn,_⟩:=h;exact fun e=>hn (e▸hFG)
 have hc0:=hat.c0;obtain⟨k,hkk⟩: ∃k,k=t.kind:=⟨_,rfl⟩;rw[←hkk]at hc0 hk;have hk7:(k == 7)=false:=beq_false_of_ne hk;have HST:=hid hst;have hGl:=(Array.getElem?_eq_some_iff.1 hG).1;clear h hat hst hkk;go_enter Tryz.func131,Tryz.ntmps131;go_wp2_with fail;refine au (aj G G) (aj.refl _ _) (aj.trans _ _) [] (.pure [0,1,2,3,4,5,6] (.step 7 (.step 8 (.step 9 (.tail []))))) (by kernel_rfl) (by kernel_rfl) (fun _ d _ _ _ h=>by cases d<;>exact h) ?_;have hz0:(w.alloc (.cells #[.pointer (some ⟨g,o,none⟩),.int .i64 j,rest] 108)).drew.heap.size=w.heap.size+1:=by simp
 have hb0:Below w.heap.size w (w.alloc (.cells #[.pointer (some ⟨g,o,none⟩),.int .i64 j,rest] 108)).drew:=(ae _).drew;have hs:(w.alloc (.cells #[.pointer (some ⟨g,o,none⟩),.int .i64 j,rest] 108)).drew.heap[w.heap.size]? =some (.cells #[.pointer (some ⟨g,o,none⟩),.int .i64 j,rest] 108 (0,0)):=heap_alloc_new w _;generalize (w.alloc (.cells #[.pointer (some ⟨g,o,none⟩),.int .i64 j,rest] 108)).drew=w0 at *;have s0: ∀p:af (aj G G) w0,p.u.cell? ⟨w.heap.size,0,none⟩=some (.pointer (some ⟨g,o,none⟩)):=fun p=>(World.cell?_of_block (a:=⟨w.heap.size,0,none⟩) (p.h.2 w.heap.size (by omega) (by omega) (by omega))).trans (Go.Joins.cell_of_block hs 0);have s1: ∀p:af (aj G G) w0,p.u.cell? ⟨w.heap.size,1,none⟩=some (.int .i64 j):=fun p=>(World.cell?_of_block (a:=⟨w.heap.size,1,none⟩) (p.h.2 w.heap.size (by omega) (by omega) (by omega))).trans (Go.Joins.cell_of_block hs 1);have q3: ∀p:af (aj G G) w0,p.u.cell? ⟨g,o+3,none⟩=some (.slice (some ⟨G,0,none⟩) t.items.length cp):=fun p=>(World.cell?_of_block (a:=⟨g,o+3,none⟩) (p.h.2 g (by omega) hgG hgG)).trans ((World.cell?_of_block (a:=⟨g,o+3,none⟩) (hb0.block g hgl)).trans hc3);have hG0:=(hb0.block G hGl).trans hG;have HFIN:=hid (HST.out w0 (fun _=>False) jB none 0 none 0 hb0 (yY _ _ 1 0 ⟨#[]⟩ (by unfold Rng;omega) (by unfold Rng;omega) (by decide)) (fun _ h=>h.elim));have x0:=(Go.Joins.cell_of_block hG0 (j * 5)).trans (Array.getElem?_eq_getElem (show j * 5<C.size by omega));have x1:=(Go.Joins.cell_of_block hG0 (j * 5+1)).trans (Array.getElem?_eq_getElem (show j * 5+1<C.size by omega))
 have x2:=(Go.Joins.cell_of_block hG0 (j * 5+2)).trans (Array.getElem?_eq_getElem (show j * 5+2<C.size by omega));have x3:=(Go.Joins.cell_of_block hG0 (j * 5+3)).trans (Array.getElem?_eq_getElem (show j * 5+3<C.size by omega));have x4:=(Go.Joins.cell_of_block hG0 (j * 5+4)).trans (Array.getElem?_eq_getElem (show j * 5+4<C.size by omega));have xf:=fun i=>Go.Joins.unfrozen_of_block hG0 i;have h5:=bz w0 G (j * 5) (.int .i64 1) (.int .i64 0) (.string ⟨#[]⟩) (.slice none 0 0) (.slice none 0 0);have hz5:=bK w0 G (j * 5) (.int .i64 1) (.int .i64 0) (.string ⟨#[]⟩) (.slice none 0 0) (.slice none 0 0);clear hs hb0 hc3 HST hG0;refine bG ?_;simp only[atR];show wpQuiet _ _ _ _ [_,_,_,_,_,_,_] _;try simp only[acR,Act.put]
 repeat(go_big_quiet_step (fail))
 refine wpQuiet_nil ?_;clear s0 s1 q3;refine ah rfl (fun K hK=> ?_)
 go_simp
 refine hK _ _ (.inr (aj.refl _ _ _)) ?_;clear hK K;refine ah rfl (fun K hK=> ?_)
 go_simp
 refine hK _ _ (.inr (aj.refl _ _ _)) ?_;clear hK K;refine ah rfl (fun K hK=> ?_)
 go_simp
 refine hK _ (cI w0 G (j * 5) (.int .i64 1) (.int .i64 0) (.string ⟨#[]⟩) (.slice none 0 0) (.slice none 0 0)) (.inr ⟨by omega,fun b hb hg hh=>h5 b hg⟩) ?_;clear hK K x0 x1 x2 x3 x4 xf h5 hz5;change Hid (∃F',Own F w F'∧OAt (cI w0 G (j * 5) (.int .i64 1) (.int .i64 0) (.string ⟨#[]⟩) (.slice none 0 0) (.slice none 0 0)) F' (bO t j jB) g o∧Mut F g o w (cI w0 G (j * 5) (.int .i64 1) (.int .i64 0) (.string ⟨#[]⟩) (.slice none 0 0) (.slice none 0 0)))at HFIN;generalize cI w0 G (j * 5) (.int .i64 1) (.int .i64 0) (.string ⟨#[]⟩) (.slice none 0 0) (.slice none 0 0)=w6 at *;refine aQ ?_;go_wp2_with fail
 go_end0
 exact⟨rfl,HFIN.out⟩
theorem fT {b:Nat}: ∀(vs:List Value) (o:Nat) (w:World),(∀x,x≠b→(w.setCells b o vs).heap[x]? =w.heap[x]?)∧(w.setCells b o vs).heap.size=w.heap.size∧(w.setCells b o vs).os=w.os∧(w.setCells b o vs).tape=w.tape∧(w.setCells b o vs).output=w.output
 | [],o,w=>⟨fun _ _=>rfl,rfl,rfl,rfl,rfl⟩
 |v::r,o,w=>by
  obtain⟨h1,h2,h3,h4,h5⟩:=fT r (o+1) (w.setCell ⟨b,o,none⟩ v);refine⟨fun x hx=>(h1 x hx).trans (heap_setCell_other _ ⟨b,o,none⟩ x _ hx),h2.trans (by simp),h3,h4,h5⟩
def AQ (ty:TypeId)(w w':World)(G:Nat)(sz:Nat)(xs:List Value):Prop:= ∃C':Array Value,w'.heap[G]? =some (.cells C' ty (0,0))∧C'.size=sz∧C'.toList.take xs.length=xs∧(∀b,b≠G→w'.heap[b]? =w.heap[b]?)∧w'.heap.size=w.heap.size∧w'.os=w.os∧w'.tape=w.tape∧w'.output=w.output
theorem pj {w:World}{G:Nat}{ty:TypeId}{C:Array Value}(h:w.heap[G]? =some (.cells C ty (0,0)))(a z:Nat)(news zs:List Value)(hz:z=a+news.length)(hl:a+news.length+zs.length≤C.size):
  AQ ty w ((w.drew.setCells G a news).setCells G z zs) G C.size (C.toList.take a++news):=by
 subst hz;obtain⟨C1,h1,s1,k1⟩:=ei (w:=w.drew) news a C h (by omega);obtain⟨C2,h2,s2,k2⟩:=ei zs (a+news.length) C1 h1 (by omega);obtain⟨p1,p2,p3,p4,p5⟩:=fT (b:=G) news a w.drew;obtain⟨q1,q2,q3,q4,q5⟩:=fT (b:=G) zs (a+news.length) (w.drew.setCells G a news);refine⟨C2,h2,s2.trans s1,?_,fun b hb=>(q1 b hb).trans (p1 b hb),q2.trans p2,q3.trans p3,q4.trans p4,q5.trans p5⟩;have hta:(C.toList.take a).length=a:=by rw[List.length_take,Array.length_toList];omega
 apply List.ext_getElem?;intro m;rw[List.length_append,hta];by_cases hm:m<a+news.length
 ·rw[List.getElem?_take_of_lt hm,Array.getElem?_toList,k2 m,if_neg (by omega),k1 m];by_cases hma:m<a
  ·rw[if_neg (by omega),List.getElem?_append_left (by omega),List.getElem?_take_of_lt hma,Array.getElem?_toList]
  ·rw[if_pos (by omega),List.getElem?_append_right (by omega),hta]
 ·rw[List.getElem?_eq_none (by rw[List.length_take];omega),List.getElem?_eq_none (by rw[List.length_append];omega)]
theorem OV.one {w:World}{F:Nat→Prop}{t:VT}{c0 c1 c2 c3 c4:Value}(h:OV w F t (.agg #[c0,c1,c2,c3,c4])):c0.oneCell'=true∧c1.oneCell'=true∧c2.oneCell'=true∧c3.oneCell'=true∧c4.oneCell'=true:=by
 obtain⟨A,c,A',c',xs,hag,-⟩:=h.shape;injection hag with hag;injection hag with hag
 injection hag with z0 hag;injection hag with z1 hag;injection hag with z2 hag;injection hag with z3 hag;injection hag with z4 hag
 subst z0 z1 z2 z3 z4;exact⟨rfl,rfl,rfl,rfl,rfl⟩
theorem OVs.one {w:World}: ∀ {l:List VT} {F:Nat→Prop} {xs:List Value},OVs w F l xs→ ∀v∈xs,v.oneCell'=true
 | [],F,xs,h,v,hv=>by unfold OVs at h;subst h;cases hv
 |t::r,F,xs,h,v,hv=>by
  unfold OVs at h;obtain⟨c0,c1,c2,c3,c4,ys,F1,F2,rfl,h1,h2,-⟩:=h;obtain⟨e0,e1,e2,e3,e4⟩:=h1.one;simp only[List.mem_cons]at hv;rcases hv with rfl|rfl|rfl|rfl|rfl|hv
  ·exact e0
  ·exact e1
  ·exact e2
  ·exact e3
  ·exact e4
  ·exact OVs.one h2 v hv
theorem OVs.erase {w:World}: ∀ {l:List VT} {F:Nat→Prop} {xs:List Value} (j:Nat),OVs w F l xs→j<l.length→OVs w F (l.eraseIdx j) (xs.take (j * 5)++(xs.drop ((j+1) * 5)))
 | [],F,xs,j,h,hj=>absurd hj (by simp)
 |t::r,F,xs,0,h,hj=>by
  unfold OVs at h;obtain⟨c0,c1,c2,c3,c4,ys,F1,F2,rfl,h1,h2,h3,h4,h5⟩:=h;simp only[Nat.zero_mul,List.take_zero,List.nil_append,List.eraseIdx_zero,List.tail_cons,Nat.zero_add,Nat.one_mul,List.drop_succ_cons,List.drop_zero]
  exact h2.imp h4
 |t::r,F,xs,j+1,h,hj=>by
  unfold OVs at h;obtain⟨c0,c1,c2,c3,c4,ys,F1,F2,rfl,h1,h2,h3,h4,h5⟩:=h;have:=OVs.erase j h2 (by simpa using hj);rw[show(j+1) * 5=j * 5+5 by omega]at this;rw[show(j+1) * 5=j * 5+5 by omega,show(j+1+1) * 5=j * 5+5+5 by omega];simp only[List.eraseIdx_cons_succ,List.take_succ_cons,List.drop_succ_cons,List.cons_append];unfold OVs;exact⟨c0,c1,c2,c3,c4,_,F1,F2,rfl,h1,this,h3,h4,h5⟩
theorem OVs.front {w:World}: ∀ {l:List VT} {F:Nat→Prop} {xs:List Value} (n:Nat),OVs w F l xs→n≤l.length→OVs w F (l.take n) (xs.take (n * 5))
 |l,F,xs,0,h,hn=>by simp only[Nat.zero_mul,List.take_zero];exact jY _ _
 | [],F,xs,n+1,h,hj=>absurd hj (by simp)
 |t::r,F,xs,n+1,h,hj=>by
  unfold OVs at h;obtain⟨c0,c1,c2,c3,c4,ys,F1,F2,rfl,h1,h2,h3,h4,h5⟩:=h;have:=OVs.front n h2 (by simpa using hj);rw[show(n+1) * 5=n * 5+5 by omega];simp only[List.take_succ_cons];unfold OVs;exact⟨c0,c1,c2,c3,c4,_,F1,F2,rfl,h1,this,h3,h4,h5⟩
theorem uR (ns:List ByteArray)(j:Nat):(ns.eraseIdx j).map Value.string=(ns.map Value.string).take j++(ns.map Value.string).drop (j+1):=by
 rw[List.eraseIdx_eq_take_drop_succ,List.map_append,List.map_take,List.map_drop]
def nC :VT→Nat→VT
 | .mk k i s l ns,j=> .mk k i s (l.eraseIdx j) (ns.eraseIdx j)
def ml :VT→Nat→VT
 | .mk k i s l ns,n=> .mk k i s (l.take n) ns
theorem ve (F:Nat→Prop)(t:VT)(g o:Nat)(j:Nat)(hj:j<t.items.length)(hk:t.kind=7)(hnl:t.names.length=t.items.length)(rest:Value)(w:World)(h:OAt w F t g o):
  Calls Tryz.prog 131 #[.agg #[.pointer (some ⟨g,o,none⟩),.int .i64 j,rest]] w fun e w'=>e= .returned (.tuple #[])∧ ∃F',Own F w F'∧OAt w' F' (nC t j) g o∧Mut F g o w w':=by
 have hneg:decide ((j:Int)<0)=false:=decide_eq_false (by omega);have hgl:=h.lt;obtain⟨C,ty,A,c,A',c',hg,g0,g1,g2,g3,g4,hv,hFg,hlt⟩:=h
 cases t with
 |mk k i s l ns=>
 simp only[VT.kind,VT.num,VT.text,VT.items,VT.names]at *;subst hk;unfold OV at hv;obtain⟨A1,c1,A1',c1',xs,hag,h1,h2,h3,h4,h5,h6,h7,h8,h9,h10,h11,h12⟩:=hv;injection hag with hag;injection hag with hag
 injection hag with y0 hag;injection hag with y1 hag;injection hag with y2 hag;injection hag with y3 hag;injection hag with y4 hag
 injection y3 with e1 _ e3
 injection y4 with e4 _ e6
 subst e1 e3 e4 e6;have hone:=h12.one;obtain⟨hxl,h8⟩:=h8;rcases h8 with ⟨-,h⟩|⟨G,cap,cur,hv,-,hh,hn,hm,hsz,htk⟩
 ·omega
 injection hv with e1 e2 e3
 subst e1 e3;obtain⟨hnl',h7⟩:=h7;rcases h7 with ⟨-,h⟩|⟨GN,capN,curN,hvN,-,hhN,hnN,hmN,hszN,htkN⟩
 ·omega
 injection hvN with e1 e2 e3
 subst e1 e3;have hFG:=h10 _ rfl;have hFN:=h9 _ rfl;have hGN:G≠GN:=h11 _ _ rfl rfl;simp only at hFG hFN;have hGs:=hlt _ hFG;have hNs:=hlt _ hFN;have hgG:g≠G:=fun e=>hFg (e▸hFG);have hgN:g≠GN:=fun e=>hFg (e▸hFN);have HONE:=hid hone;have H12:=hid h12;have HG:=hid hg;have HH:=hid hh;have HHN:=hid hhN;have HTK:=hid htk;have HC:=hid (And.intro g0 (And.intro g1 (And.intro g2 (And.intro g3 g4))));have HR:=hid (And.intro h1 (And.intro h2 (And.intro h3 h6)));have hc0:=(Go.Joins.cell_of_block hg o).trans g0;have HF:=hid (And.intro hFg (And.intro hlt (And.intro h9 (And.intro h10 h11))));have hlen:l.length≤140737488351232:=by omega
 rw[Nat.mul_one]at hszN htkN;have hjn:j<ns.length:=by omega
 have HTKN:=hid htkN
 have hlN:((curN.toList.drop (j+1)).take (ns.length - (j+1))).length=ns.length - (j+1):=by
  rw[List.length_take,List.length_drop,show curN.toList.length=c' from(Array.length_toList).trans hszN];omega
 have hsz2:cur.toList.length=c * 5:=by rw[Array.length_toList];exact hsz
 have hlV:((cur.toList.drop ((j+1) * 5)).take ((l.length - (j+1)) * 5)).length=(l.length - (j+1)) * 5:=by
  rw[List.length_take,List.length_drop,hsz2];omega
 have HNL:=hid hnl;clear hnl;clear hone h12 hg hh hhN htk htkN g0 g1 g2 g3 g4 h1 h2 h3 h6 hFg hlt h9 h10 h11;go_enter Tryz.func131,Tryz.ntmps131;go_wp2_with fail;refine au (aj GN GN) (aj.refl _ _) (aj.trans _ _) [15] (.pure [0,1,2,3,4,5,6,7,8,9,10,11] (.step 12 (.step 13 (.step 14 (.step 15 (.tail [])))))) (by kernel_rfl) (by kernel_rfl) (fun _ d _ _ _ h=>by cases d<;>exact h) ?_;have hz0:(w.alloc (.cells #[.pointer (some ⟨g,o,none⟩),.int .i64 j,rest] 108)).drew.heap.size=w.heap.size+1:=by simp
 have hb0:Below w.heap.size w (w.alloc (.cells #[.pointer (some ⟨g,o,none⟩),.int .i64 j,rest] 108)).drew:=(ae _).drew;have hs:(w.alloc (.cells #[.pointer (some ⟨g,o,none⟩),.int .i64 j,rest] 108)).drew.heap[w.heap.size]? =some (.cells #[.pointer (some ⟨g,o,none⟩),.int .i64 j,rest] 108 (0,0)):=heap_alloc_new w _;generalize (w.alloc (.cells #[.pointer (some ⟨g,o,none⟩),.int .i64 j,rest] 108)).drew=w0 at *;have hg0:=(hb0.block g hgl).trans HG.out;have s0: ∀p:af (aj GN GN) w0,p.u.cell? ⟨w.heap.size,0,none⟩=some (.pointer (some ⟨g,o,none⟩)):=fun p=>(World.cell?_of_block (a:=⟨w.heap.size,0,none⟩) (p.h.2 w.heap.size (by omega) (by omega) (by omega))).trans (Go.Joins.cell_of_block hs 0);have s1: ∀p:af (aj GN GN) w0,p.u.cell? ⟨w.heap.size,1,none⟩=some (.int .i64 j):=fun p=>(World.cell?_of_block (a:=⟨w.heap.size,1,none⟩) (p.h.2 w.heap.size (by omega) (by omega) (by omega))).trans (Go.Joins.cell_of_block hs 1);have q4: ∀p:af (aj GN GN) w0,p.u.cell? ⟨g,o+4,none⟩=some (.slice (some ⟨GN,0,none⟩) ns.length c'):=fun p=>(World.cell?_of_block (a:=⟨g,o+4,none⟩) (p.h.2 g (by omega) hgN hgN)).trans ((Go.Joins.cell_of_block hg0 (o+4)).trans HC.out.2.2.2.2);refine bG ?_;simp only[atR];show wpQuiet _ _ _ _ [_,_,_,_,_,_,_,_,_,_,_,_] _;try simp only[acR,Act.put]
 repeat(go_big_quiet_step (fail))
 refine wpQuiet_nil ?_;clear s0 s1 q4;have HB0:=hid hb0;have HS:=hid hs;have HG0:=hid hg0
 have hoN: ∀v∈(curN.toList.drop (j+1)).take (ns.length - (j+1)),v.oneCell'=true:=fun v hv=>by
  rw[←List.drop_take,HTKN.out]at hv;obtain⟨_,_,rfl⟩:=List.mem_map.1 (List.mem_of_mem_drop hv);rfl
 have HDN:=hid (sQ GN ns.length c' j (j+1) curN w0 ((hb0.block GN hNs).trans HHN.out) hszN hnN hmN h5 (by omega) (by omega) hoN);have HRN:=hid (pj ((hb0.block GN hNs).trans HHN.out) j (j+(ns.length - (j+1))) ((curN.toList.drop (j+1)).take (ns.length - (j+1))) (gU (ns.length - (j+(ns.length - (j+1))))) (by rw[hlN]) (by rw[hlN,je];omega));clear hb0 hs hg0 hoN;refine ah rfl (fun K hK=> ?_)
 go_simp
 refine HDN.out.mono ?_;rintro e w1 ⟨rfl,hw1⟩;obtain⟨CN,hCN,hsN,htN,hoN,hzN,hosN,htpN,houN⟩:=HRN.out;rw[←hw1]at hCN hoN hzN hosN htpN houN;refine hK _ _ (.inr ⟨by omega,fun b _ hb _=>hoN b hb⟩) ?_;clear hK K HDN HRN hw1;have HN1:=hid (And.intro hCN (And.intro hsN (And.intro htN (And.intro hoN (And.intro hosN (And.intro htpN houN))))));have hg1:=(hoN g hgN).trans HG0.out;have hd4:=(Go.Joins.cell_of_block hg1 (o+4)).trans HC.out.2.2.2.2;have hf4:=Go.Joins.unfrozen_of_block hg1 (o+4);have HG1:=hid hg1;have HZ1:=hid hzN;clear hCN hsN htN hoN hosN htpN houN hg1;refine ah rfl (fun K hK=> ?_)
 go_simp
 refine hK _ _ (.inr (aj.refl _ _ _)) ?_;clear hK K;refine ah rfl (fun K hK=> ?_)
 go_simp
 refine hK _ _ (.inr (aj.refl _ _ _)) ?_;clear hK K;refine ah rfl (fun K hK=> ?_)
 go_simp
 refine hK _ _ (.inl (by decide)) ?_;clear hK K;refine aQ ?_;obtain⟨X4,hX4⟩: ∃X4,X4=Value.slice (some ⟨GN,0,none⟩) (j+(ns.length - (j+1))) c':=⟨_,rfl⟩;rw[←hX4];have HX4:=hid hX4;have hgW:(w1.setCell ⟨g,o+4,none⟩ X4).heap[g]? =some (.cells (C.setIfInBounds (o+4) X4) ty (0,0)):=Go.Joins.block_setCell (i:=o+4) HG1.out X4;have hoW: ∀b,b≠g→(w1.setCell ⟨g,o+4,none⟩ X4).heap[b]? =w1.heap[b]? :=fun b hb=>heap_setCell_other _ ⟨g,o+4,none⟩ b _ hb;have hzW:(w1.setCell ⟨g,o+4,none⟩ X4).heap.size=w1.heap.size:=by simp
 have hrW:(w1.setCell ⟨g,o+4,none⟩ X4).os=w1.os∧(w1.setCell ⟨g,o+4,none⟩ X4).tape=w1.tape∧(w1.setCell ⟨g,o+4,none⟩ X4).output=w1.output:=⟨rfl,rfl,rfl⟩;generalize w1.setCell ⟨g,o+4,none⟩ X4=w2 at *;clear hX4 hd4 hf4;have HX4':=HX4;have HRW:=hid hrW;go_wp2_with fail;refine au (aj G G) (aj.refl _ _) (aj.trans _ _) [15] (.pure [0,1,2,3,4,5,6,7,8,9,10,11] (.step 12 (.step 13 (.step 14 (.step 15 (.tail [])))))) (by kernel_rfl) (by kernel_rfl) (fun _ d _ _ _ h=>by cases d<;>exact h) ?_;have hspot:w2.drew.heap[w.heap.size]? =some (.cells #[.pointer (some ⟨g,o,none⟩),.int .i64 j,rest] 108 (0,0)):=(hoW _ (by omega)).trans ((HN1.out.2.2.2.1 _ (by omega)).trans HS.out);have hgD:w2.drew.heap[g]? =some (.cells (C.setIfInBounds (o+4) X4) ty (0,0)):=hgW;have hoD: ∀b,b≠g→w2.drew.heap[b]? =w1.heap[b]? :=hoW;have hzD:w2.drew.heap.size=w1.heap.size:=hzW;have hrD:Hid (w2.drew.os=w1.os∧w2.drew.tape=w1.tape∧w2.drew.output=w1.output):=hid hrW;clear hgW hoW hzW HRW hrW;generalize w2.drew=w3 at *;have s0: ∀p:af (aj G G) w3,p.u.cell? ⟨w.heap.size,0,none⟩=some (.pointer (some ⟨g,o,none⟩)):=fun p=>(World.cell?_of_block (a:=⟨w.heap.size,0,none⟩) (p.h.2 w.heap.size (by have:=HZ1.out;omega) (by omega) (by omega))).trans (Go.Joins.cell_of_block hspot 0);have s1: ∀p:af (aj G G) w3,p.u.cell? ⟨w.heap.size,1,none⟩=some (.int .i64 j):=fun p=>(World.cell?_of_block (a:=⟨w.heap.size,1,none⟩) (p.h.2 w.heap.size (by have:=HZ1.out;omega) (by omega) (by omega))).trans (Go.Joins.cell_of_block hspot 1)
 have hg3:(C.setIfInBounds (o+4) X4)[o+3]? =some (.slice (some ⟨G,0,none⟩) l.length c):=by
  rw[Array.getElem?_setIfInBounds,if_neg (by omega)];exact HC.out.2.2.2.1
 have q3: ∀p:af (aj G G) w3,p.u.cell? ⟨g,o+3,none⟩=some (.slice (some ⟨G,0,none⟩) l.length c):=fun p=>(World.cell?_of_block (a:=⟨g,o+3,none⟩) (p.h.2 g (by have:=HZ1.out;omega) hgG hgG)).trans ((Go.Joins.cell_of_block hgD (o+3)).trans hg3);have HSP:=hid hspot;have HGD:=hid hgD;have HOD:=hid hoD;have HG3:=hid hg3;clear hspot hgD hoD hg3;refine bG ?_;simp only[atR];show wpQuiet _ _ _ _ [_,_,_,_,_,_,_,_,_,_,_,_] _;try simp only[acR,Act.put]
 repeat(go_big_quiet_step (fail))
 refine wpQuiet_nil ?_;clear s0 s1 q3;have hG3:w3.heap[G]? =some (.cells cur 25 (0,0)):=(HOD.out G (by omega)).trans ((HN1.out.2.2.2.1 G hGN).trans ((HB0.out.block G hGs).trans HH.out))
 have hoV: ∀v∈(cur.toList.drop ((j+1) * 5)).take ((l.length - (j+1)) * 5),v.oneCell'=true:=fun v hv=>by
  rw[show(l.length - (j+1)) * 5=l.length * 5 - (j+1) * 5 by omega,←List.drop_take,HTK.out]at hv;exact HONE.out v (List.mem_of_mem_drop hv)
 have HDV:=hid (mM G l.length c j (j+1) cur w3 hG3 hsz hn hm h4 (by omega) (by omega) hoV);have hRV:=pj hG3 (j * 5) ((j+(l.length - (j+1))) * 5) ((cur.toList.drop ((j+1) * 5)).take ((l.length - (j+1)) * 5)) (eE (l.length - (j+(l.length - (j+1))))) (by rw[hlV];omega) (by rw[hlV,fV];omega);have HRV:=hid hRV;clear hoV hRV hG3;refine ah rfl (fun K hK=> ?_)
 go_simp
 refine HDV.out.mono ?_;rintro e w4 ⟨rfl,hw4⟩;obtain⟨CV,hCV,hsV,htV,hoV,hzV,hosV,htpV,houV⟩:=HRV.out;rw[←hw4]at hCV hoV hzV hosV htpV houV;refine hK _ _ (.inr ⟨by omega,fun b _ hb _=>hoV b hb⟩) ?_;clear hK K HDV HRV hw4;have HV4:=hid (And.intro hCV (And.intro hsV (And.intro htV (And.intro hoV (And.intro hosV (And.intro htpV houV))))));have hg4:=(hoV g hgG).trans HGD.out;have hd3:=(Go.Joins.cell_of_block hg4 (o+3)).trans HG3.out;have hf3:=Go.Joins.unfrozen_of_block hg4 (o+3);have HG4:=hid hg4;have HZ4:=hid hzV;clear hCV hsV htV hoV hosV htpV houV hg4;refine ah rfl (fun K hK=> ?_)
 go_simp
 refine hK _ _ (.inr (aj.refl _ _ _)) ?_;clear hK K;refine ah rfl (fun K hK=> ?_)
 go_simp
 refine hK _ _ (.inr (aj.refl _ _ _)) ?_;clear hK K;refine ah rfl (fun K hK=> ?_)
 go_simp
 refine hK _ _ (.inl (by decide)) ?_;clear hK K;refine aQ ?_;obtain⟨X3,hX3⟩: ∃X3,X3=Value.slice (some ⟨G,0,none⟩) (j+(l.length - (j+1))) c:=⟨_,rfl⟩;rw[←hX3];have HX3:=hid hX3;clear hX3 hd3 hf3;have hgW:(w4.setCell ⟨g,o+3,none⟩ X3).heap[g]? =some (.cells ((C.setIfInBounds (o+4) X4).setIfInBounds (o+3) X3) ty (0,0)):=Go.Joins.block_setCell (i:=o+3) HG4.out X3;have hoW: ∀b,b≠g→(w4.setCell ⟨g,o+3,none⟩ X3).heap[b]? =w4.heap[b]? :=fun b hb=>heap_setCell_other _ ⟨g,o+3,none⟩ b _ hb;have hzW:(w4.setCell ⟨g,o+3,none⟩ X3).heap.size=w4.heap.size:=by simp
 have hrW:(w4.setCell ⟨g,o+3,none⟩ X3).os=w4.os∧(w4.setCell ⟨g,o+3,none⟩ X3).tape=w4.tape∧(w4.setCell ⟨g,o+3,none⟩ X3).output=w4.output:=⟨rfl,rfl,rfl⟩
 have hfin: ∃F',Own F w F'∧OAt (w4.setCell ⟨g,o+3,none⟩ X3) F' (nC (.mk 7 i s l ns) j) g o∧Mut F g o w (w4.setCell ⟨g,o+3,none⟩ X3):=by
  generalize w4.setCell ⟨g,o+3,none⟩ X3=w5 at *;obtain⟨hFg,hlt,h9,h10,h11⟩:=HF.out;obtain⟨h1,h2,h3,h6⟩:=HR.out;obtain⟨g0,g1,g2,g3,g4⟩:=HC.out;obtain⟨n1,n2,n3,n4,n5,n6,n7⟩:=HN1.out;obtain⟨v1,v2,v3,v4,v5,v6,v7⟩:=HV4.out;have hoth: ∀b,b<w.heap.size→b≠g→b≠G→b≠GN→w5.heap[b]? =w.heap[b]? :=fun b hb x1 x2 x3=>(hoW b x1).trans ((v4 b x2).trans ((HOD.out b x1).trans ((n4 b x3).trans (HB0.out.block b hb))));have hsz5:w5.heap.size=w.heap.size+1:=by rw[hzW,HZ4.out,hzD,HZ1.out,hz0]
  have hlj:(l.eraseIdx j).length=j+(l.length - (j+1)):=by rw[List.length_eraseIdx_of_lt hj];omega
  have hnj:(ns.eraseIdx j).length=j+(ns.length - (j+1)):=by rw[List.length_eraseIdx_of_lt hjn];omega
  have hCo:o+4<C.size:=(Array.getElem?_eq_some_iff.1 g4).1;have hNames:w5.heap[GN]? =some (.cells CN 9 (0,0)):=(hoW GN (by omega)).trans ((v4 GN (by omega)).trans ((HOD.out GN (by omega)).trans n1));have hItems:w5.heap[G]? =some (.cells CV 25 (0,0)):=(hoW G (by omega)).trans v1
  have hxsN:CN.toList.take (ns.eraseIdx j).length=(ns.eraseIdx j).map Value.string:=by
   have e:curN.toList.take j++(curN.toList.drop (j+1)).take (ns.length - (j+1))=(ns.eraseIdx j).map Value.string:=by
    rw[uR,←HTKN.out,List.take_take,List.drop_take,Nat.min_eq_left (by omega)]
   have hl:(curN.toList.take j++(curN.toList.drop (j+1)).take (ns.length - (j+1))).length=(ns.eraseIdx j).length:=by rw[e,List.length_map]
   rw[hl]at n3;rw[n3,e]
  have hxsV:CV.toList.take ((l.eraseIdx j).length * 5)=xs.take (j * 5)++xs.drop ((j+1) * 5):=by
   have e:cur.toList.take (j * 5)++(cur.toList.drop ((j+1) * 5)).take ((l.length - (j+1)) * 5)=xs.take (j * 5)++xs.drop ((j+1) * 5):=by
    rw[←HTK.out,List.take_take,List.drop_take,Nat.min_eq_left (by omega),show(l.length - (j+1)) * 5=l.length * 5 - (j+1) * 5 by omega]
   have hl:(cur.toList.take (j * 5)++(cur.toList.drop ((j+1) * 5)).take ((l.length - (j+1)) * 5)).length=(l.eraseIdx j).length * 5:=by rw[List.length_append,hlV,List.length_take,hsz2,hlj];omega
   rw[hl]at v3;rw[v3,e]
  have hov:OVs w5 (Out F (some ⟨G,0,none⟩) (some ⟨GN,0,none⟩)) (l.eraseIdx j) (xs.take (j * 5)++xs.drop ((j+1) * 5)):=
   (OVs.erase j H12.out hj).keep fun b hb=>hoth b (hlt b hb.1) (fun e=>hFg (e▸hb.1)) (fun e=>hb.2.1 _ rfl e.symm) (fun e=>hb.2.2 _ rfl e.symm)
  refine⟨F,fun b hb=> .inl hb,?_,?_⟩
  ·refine⟨_,ty,some ⟨G,0,none⟩,c,some ⟨GN,0,none⟩,c',hgW,?_,?_,?_,?_,?_,?_,hFg,fun b hb=>by have:=hlt b hb;omega⟩
   ·rw[Array.getElem?_setIfInBounds,if_neg (by omega),Array.getElem?_setIfInBounds,if_neg (by omega)];exact g0
   ·rw[Array.getElem?_setIfInBounds,if_neg (by omega),Array.getElem?_setIfInBounds,if_neg (by omega)];exact g1
   ·rw[Array.getElem?_setIfInBounds,if_neg (by omega),Array.getElem?_setIfInBounds,if_neg (by omega)];exact g2
   ·rw[Array.getElem?_setIfInBounds,if_pos rfl,if_pos (by rw[Array.size_setIfInBounds];omega),HX3.out];show some (Value.slice _ _ _)=some (Value.slice _ (l.eraseIdx j).length _);rw[hlj]
   ·rw[Array.getElem?_setIfInBounds,if_neg (by omega),Array.getElem?_setIfInBounds,if_pos rfl,if_pos hCo,HX4.out];show some (Value.slice _ _ _)=some (Value.slice _ (ns.eraseIdx j).length _);rw[hnj]
   ·refine OV.mk h1 h2 h3 (by rw[hlj];omega) (by rw[hnj];omega) (fun x hx=>h6 x (List.mem_of_mem_eraseIdx hx)) ?_ ?_ h9 h10 h11 hov
    ·exact⟨by rw[List.length_map,Nat.mul_one],.inr ⟨GN,c',CN,rfl,Nat.zero_le _,hNames,by rw[hnj];omega,hmN,by rw[n2,hszN,Nat.mul_one],by rw[Nat.mul_one];exact hxsN⟩⟩
    ·refine⟨?_,.inr ⟨G,c,CV,rfl,Nat.zero_le _,hItems,by rw[hlj];omega,hm,by rw[v2,hsz],hxsV⟩⟩;rw[List.length_append,List.length_take,List.length_drop,hxl,hlj];omega
  ·refine⟨by omega,fun b hb hnF hne=>hoth b hb hne (fun e=>hnF (e▸hFG)) (fun e=>hnF (e▸hFN)),fun C2 ty2 fz hC2=> ?_,?_,?_,?_⟩
   ·have e:=HG.out.symm.trans hC2;injection e with e
    injection e with e1 e2 e3
    subst e1 e2 e3;refine⟨_,hgW,by simp,fun m hm'=> ?_⟩;rw[Array.getElem?_setIfInBounds,if_neg (by omega),Array.getElem?_setIfInBounds,if_neg (by omega)]
   ·exact hrW.1.trans (v5.trans (hrD.out.1.trans (n5.trans HB0.out.os)))
   ·exact hrW.2.1.trans (v6.trans (hrD.out.2.1.trans (n6.trans HB0.out.tape)))
   ·exact hrW.2.2.trans (v7.trans (hrD.out.2.2.trans (n7.trans HB0.out.output)))
 have HFIN:=hid hfin;clear hfin hgW hoW hzW hrW;generalize w4.setCell ⟨g,o+3,none⟩ X3=w5 at *;go_wp2_with fail
 go_end0
 exact⟨rfl,HFIN.out⟩
end Go.Proofs.YtgbopnlpaabelaaGreatDoor
