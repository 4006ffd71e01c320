/- The message that comes next, by the program. (Written by mkmgv.py.) -/
import Derived.Test.YtgfidiocmiolpaaGreatKMgO
import Derived.Test.YtgfidiocmiolpaaGreatKMgL
import Derived.Test.YtgfidiocmiolpaaGreatKEnM
set_option maxHeartbeats 64000000
set_option maxRecDepth 100000
set_option linter.unusedVariables false
set_option linter.unusedSimpArgs false
namespace Go.Proofs.YtgfidiocmiolpaaGreat
open Lib (hid)
open Go.RowKit Go.Joins
def tW (m:aQ)(st2:Option (List UInt8))(s:Nat)(w:World)(q:Ending)(w':World):Prop:=
 ∃EA ec SA sc,q= .returned (.agg #[.int .i64 m.kind,.int .i64 m.frm,.int .i64 m.tgt,.int .i64 m.term,.int .i64 m.index,.int .i64 m.logTerm,.int .i64 m.commit,.int .i64 m.round,.bool m.ok,.slice EA m.ents.length ec,.slice SA m.snap.length sc])∧aT w' (vT w.heap.size w') m EA ec SA sc∧cm w' s st2∧aJ w w' s
def qF :Prop:= ∀(s:Nat) (st:Option (List UInt8)) (W:World),cm W s st→Calls Tryz.prog 72 #[.pointer (some ⟨s,0,none⟩)] W (vE s st W)
theorem cN {x:Int}(h:0≤x∧x≤1099511627776):Rng x:=by unfold Rng;omega
theorem dA.fin {w w5 w7:World}{s:Nat}{n:Nat→Int}{cs:Array Value}{st:Option (List UInt8)}{m:aQ}{b:Bool}{EA:Option Addr}{ec:Nat}{SA:Option Addr}{sc:Nat}(h:dA w w5 s cs st)
  (hn: ∀i,0≤n i∧n i≤1099511627776) (hm:m=⟨n 0,n 1,n 2,n 3,n 4,n 5,n 6,n 7,b,m.ents,m.snap⟩)
  (he:cp w5 (fun b=>w.heap.size+3≤b∧b<w5.heap.size) EA m.ents) (hec:m.ents.length≤ec) (hen:EA=none→ec=0) (he8:m.ents.length≤8)
  (hb:cd w5 (fun b=>w.heap.size+3≤b∧b<w5.heap.size) SA m.snap) (hsc:m.snap.length≤sc) (hsn:SA=none→sc=0) (hs6:sc≤9223372036854775807) (hs8:m.snap.length≤65536)
  (ho:aJ w5 w7 (w.heap.size+1)) (hz:w7.heap.size=w5.heap.size):
  tW m st s w (.returned (.agg #[.int .i64 (n 0),.int .i64 (n 1),.int .i64 (n 2),.int .i64 (n 3),.int .i64 (n 4),.int .i64 (n 5),.int .i64 (n 6),.int .i64 (n 7),.bool b,.slice EA m.ents.length ec,.slice SA m.snap.length sc])) w7:=by
 have hk: ∀b,(w.heap.size+3≤b∧b<w5.heap.size)→w7.heap[b]? =w5.heap[b]? :=bL ho fun b hb=>⟨hb.2,by have:=hb.1;omega⟩;have hN: ∀b,(w.heap.size+3≤b∧b<w5.heap.size)→vT w.heap.size w7 b:=fun b hb=>⟨by have:=hb.1;omega,by rw[hz];exact hb.2⟩;have s0:=h.s0;refine⟨EA,ec,SA,sc,?_,⟨cJ.imp cU (cJ.keep cU he hk) hN,hec,hen,by omega,(hb.keep hk).imp hN,hsc,hsn,hs6,by omega,?_,?_,?_,?_,?_,?_,?_,?_⟩,h.src.of (ke ho h.src.lt (by omega)),lP h.only ho (by omega)⟩
 ·rw[hm]
 all_goals(rw[hm];exact cN (hn _))
theorem fP (w:World)(S:Nat→Prop)(A:Option Addr):cd w S A []:=fun h=>absurd h (by simp)
theorem iB (w:World)(S:Nat→Prop)(A:Option Addr):cp w S A []:=fun h=>absurd h (by simp)
theorem tp (s:Nat)(st:Option (List UInt8))(w:World)(hs:cm w s st)(hre:bi (rdM st).1.kind=true→qF):Calls Tryz.prog 32 #[.pointer (some ⟨s,0,none⟩)] w (tW (rdM st).1 (rdM st).2 s w):=by
 obtain⟨w1,hw1⟩: ∃W,W=((w.alloc (.cells #[.pointer (some ⟨s,0,none⟩)] 59)).alloc (.cells #[.int .i64 0,.int .i64 0,.int .i64 0,.int .i64 0,.int .i64 0,.int .i64 0,.int .i64 0,.int .i64 0,.bool false,.slice none 0 0,.slice none 0 0] 25)).alloc (.cells #[.int .i64 0,.int .i64 0,.int .i64 0,.int .i64 0,.int .i64 0,.int .i64 0,.int .i64 0,.int .i64 0,.bool false,.slice none 0 0,.slice none 0 0] 25):=⟨_,rfl⟩;have H1:=hid (show dA w w1 s (ev (aB st 0).1 (.bool false) (.slice none 0 0) (.slice none 0 0)) (aB st 0).2 by rw[hw1];exact dA.start hs);have HR0:=hid (mQ st);have HRE:Hid (bi ((aB st 8).1 0)=true→qF):=hid (by rw[mQ]at hre;exact hre);have HSR:=hid (mS st 8);have hmf: ∀(fn:Fn) (first cap:Array Value) (w:World),(Instr.makeFunc fn first cap).run Tryz.prog w= .ok (.func fn first cap) w:=fun _ _ _ _=>rfl;clear hs hre;go_enter Tryz.func32,Tryz.ntmps32;go_wp2_with fail;rw[←hw1];clear hw1;refine(kj (w.heap.size+2) w1).mono ?_;rintro e w2 ⟨rfl,hb⟩;have H2:=hid (H1.out.below hb);clear hb H1;unfold j8;go_wp2_with fail
 go_loopw [10] (fun i wr=> ∃j:Nat,i= .int .i64 j∧j≤3∧Hid (dA w wr s (ev (aB st j).1 (.bool false) (.slice none 0 0) (.slice none 0 0)) (aB st j).2)) (fun i _=>3 - (intOf i).toNat)
 case atStart=>exact⟨0,rfl,by omega,H2⟩
 case round=>
  clear H2;obtain⟨j,rfl,hj,HI⟩:=hrel;by_cases hlt:j<3
  ·have hix:=rq (w.heap.size+2) j hlt wr;have y0:wr.cell? ⟨w.heap.size,0,none⟩=some (.pointer (some ⟨s,0,none⟩)):=cell_of_block HI.out.var 0;have HB:=hid (mC s (aB st j).2 wr HI.out.src)
   have HRJ:Hid (aB st (j+1)=(upd (aB st j).1 j ((av (aB st j).2).1:Int),(av (aB st j).2).2)):=hid (by
    show(upd (aB st j).1 j ((eV j ((aB st j).1 0) (aB st j).2).1:Int),(eV j ((aB st j).1 0) (aB st j).2).2)=_;unfold eV
    rw[if_pos hlt])
   go_wp2_with fail;refine HB.out.mono ?_;rintro e w3 ⟨rfl,hs3,ho3⟩;have HI3:=hid (HI.out.call ho3 hs3);obtain⟨v,hv⟩: ∃v:Int,v=((av (aB st j).2).1:Int):=⟨_,rfl⟩;rw[←hv]at HRJ ⊢;have HCU:=hid (gR (aB st j).1 j v (.bool false) (.slice none 0 0) (.slice none 0 0) (by omega));have HJ:=hid hlt;clear y0 hix HB hs3 ho3 hv HI;go_wp2_with(refine am (by rfl) 3 _ _ rfl rfl (w.heap.size+2) j rfl (.int .i64 v) #[.int .i64 v] rfl rfl _ (ev (upd (aB st j).1 j v) (.bool false) (.slice none 0 0) (.slice none 0 0)) 25 HI3.out.box (by have:=HJ.out;show j+1≤11;omega) (by kernel_rfl) (by simp[Value.oneCell']) HCU.out ?_;intro w6 h6 ho6 hz6;have HI6:=hid (HI3.out.store h6 ho6);clear h6 ho6 hz6)
   go_roundw
   case rel=>exact⟨j+1,by go_num,by omega,hid (by rw[HRJ.out];exact HI6.out)⟩
   case measure=>simp[intOf];omega
  ·obtain rfl:j=3:=by omega
   clear hj hlt;have y0:wr.cell? ⟨w.heap.size,0,none⟩=some (.pointer (some ⟨s,0,none⟩)):=cell_of_block HI.out.var 0;have HC:=hid (iq s (aB st 3).2 1099511627776 wr HI.out.src (by omega));go_wp2_with fail;refine HC.out.mono ?_;rintro e w3 ⟨rfl,hs3,ho3⟩;have HI3:=hid (HI.out.call ho3 hs3);obtain⟨v,hv⟩: ∃v:Int,v=((aj 1099511627776 (aB st 3).2).1:Int):=⟨_,rfl⟩;rw[←hv];have HCU:=hid (gR (aB st 3).1 3 v (.bool false) (.slice none 0 0) (.slice none 0 0) (by omega));have H4:Hid (aB st 4=(upd (aB st 3).1 3 v,(aj 1099511627776 (aB st 3).2).2)):=hid (by rw[hv];rfl);clear y0 HC hs3 ho3 hv HI;go_wp2_with(refine am (by rfl) 3 _ _ rfl rfl (w.heap.size+2) 3 rfl (.int .i64 v) #[.int .i64 v] rfl rfl _ (ev (upd (aB st 3).1 3 v) (.bool false) (.slice none 0 0) (.slice none 0 0)) 25 HI3.out.box (by show 3+1≤11;omega) (by kernel_rfl) (by simp[Value.oneCell']) HCU.out ?_;intro w6 h6 ho6 hz6;have HI6:Hid (dA w w6 s (ev (aB st 4).1 (.bool false) (.slice none 0 0) (.slice none 0 0)) (aB st 4).2):=hid (by rw[H4.out];exact HI3.out.store h6 ho6);have y0:w6.cell? ⟨w.heap.size+2,0,none⟩=some (.int .i64 ((aB st 4).1 0)):=cell_of_block HI6.out.box 0;clear h6 ho6 hz6);clear HI3 HCU H4;obtain⟨k,hk⟩: ∃k,k=(aB st 4).1 0:=⟨_,rfl⟩;rw[←hk];refine(eK k _).mono ?_;rintro e w7 ⟨rfl,rfl⟩;have HE:=hid (lL w s st (aM k) w7 HI6.out (by rw[hk]));have HK8:Hid (k=(aB st 8).1 0):=hid (by rw[hk,show(aB st 4).1 0=(aB st 1).1 0 from fx st 3,show(aB st 8).1 0=(aB st 1).1 0 from fx st 7]);clear y0 hk;go_wp2_with fail;refine HE.out.mono ?_
   rintro e w8 ⟨rfl,h8⟩;have H8:=hid h8;clear h8 HE HI6;obtain⟨n,hn⟩: ∃n,n=(aB st 8).1:=⟨_,rfl⟩;obtain⟨st8,hst8⟩: ∃x,x=(aB st 8).2:=⟨_,rfl⟩;have HM:Hid (rdM st=mw (n,st8)):=hid (by rw[HR0.out,hn,hst8]);have hk8:=HK8.out;rw[←hn]at H8 HSR hk8 HRE;rw[←hk8]at HRE;clear HK8;rw[←hst8]at H8;clear hn hst8 HR0;have HH1:=hid (ch (aM k) 16);have HH2:=hid (ch (aM k) 32);have HH3:=hid (ch (aM k) 64);rw[qT]at HH1;rw[kN]at HH2;rw[ku]at HH3;have HOO:=hid (And.intro (rA k) (mM k));obtain⟨b1,hb1⟩: ∃b,b=hOk k:=⟨_,rfl⟩;obtain⟨b2,hb2⟩: ∃b,b=bi k:=⟨_,rfl⟩;obtain⟨b3,hb3⟩: ∃b,b=bw k:=⟨_,rfl⟩;rw[←hb1]at HH1 HOO;rw[←hb2]at HH2 HOO HRE;rw[←hb3]at HH3 HOO;have HB123:Hid (hOk (n 0)=b1∧bi (n 0)=b2∧bw (n 0)=b3):=hid (by rw[←hk8];exact⟨hb1.symm,hb2.symm,hb3.symm⟩);clear hb1 hb2 hb3 hk8;obtain⟨L,hL⟩: ∃L,L=aM k:=⟨_,rfl⟩;rw[←hL]at HH1 HH2 HH3 ⊢;clear hL
   cases b1 with
   |true=>
    obtain rfl:b2=false:=(HOO.out.1 rfl).1;obtain rfl:b3=false:=(HOO.out.1 rfl).2;go_wp2_with fail;refine(HH1.out _).mono ?_;rintro e w9 ⟨rfl,rfl⟩;have y0:w9.cell? ⟨w.heap.size,0,none⟩=some (.pointer (some ⟨s,0,none⟩)):=cell_of_block H8.out.var 0;have HC:=hid (om s st8 w9 H8.out.src);go_wp2_with fail;refine HC.out.mono ?_;rintro e w10 ⟨rfl,hs3,ho3⟩;have H10:=hid (H8.out.call ho3 hs3)
    have HE:Hid (rdM st=(⟨n 0,n 1,n 2,n 3,n 4,n 5,n 6,n 7,(fQ st8).1,[],[]⟩,(fQ st8).2)):=hid (by
     rw[HM.out];unfold mw bH;dsimp only;rw[HB123.out.1,HB123.out.2.1,HB123.out.2.2];rfl)
    obtain⟨x,hx⟩: ∃x,x=(fQ st8).1:=⟨_,rfl⟩;obtain⟨st9,hst9⟩: ∃x,x=(fQ st8).2:=⟨_,rfl⟩;rw[←hx]at HE ⊢;rw[←hst9]at HE H10;clear hx hst9 hs3 ho3 y0 HC H8;go_wp2_with(refine am (by rfl) 4 _ _ rfl rfl (w.heap.size+2) 8 rfl (.bool x) #[.bool x] rfl rfl _ #[.int .i64 (n 0),.int .i64 (n 1),.int .i64 (n 2),.int .i64 (n 3),.int .i64 (n 4),.int .i64 (n 5),.int .i64 (n 6),.int .i64 (n 7),.bool x,.slice none 0 0,.slice none 0 0] 25 H10.out.box (by show 8+1≤11;omega) (by kernel_rfl) (by simp[Value.oneCell']) rfl ?_;intro w6 h6 ho6 hz6;have HI6:=hid (H10.out.store h6 ho6);clear h6 ho6 hz6);refine(HH2.out _).mono ?_;rintro e w11 ⟨rfl,rfl⟩;go_wp2_with fail;refine(HH3.out _).mono ?_;rintro e w12 ⟨rfl,rfl⟩;go_wp2_with(first|(refine ap (by rfl) _ rfl (w.heap.size+2) rfl _ _ HI6.out.box rfl ?_;simp only[acR,Act.put])|(refine am (by rfl) 25 _ _ rfl rfl (w.heap.size+1) 0 rfl _ #[.int .i64 (n 0),.int .i64 (n 1),.int .i64 (n 2),.int .i64 (n 3),.int .i64 (n 4),.int .i64 (n 5),.int .i64 (n 6),.int .i64 (n 7),.bool x,.slice none 0 0,.slice none 0 0] rfl rfl _ #[.int .i64 (n 0),.int .i64 (n 1),.int .i64 (n 2),.int .i64 (n 3),.int .i64 (n 4),.int .i64 (n 5),.int .i64 (n 6),.int .i64 (n 7),.bool x,.slice none 0 0,.slice none 0 0] 25 HI6.out.res (by simp) (by kernel_rfl) (by simp[Value.oneCell']) (by kernel_rfl) ?_;intro w7 hk ho hz;have HK7:=hid hk;have HO7:=hid (And.intro ho hz);clear hk ho hz));refine bodyPost_ret (results_cell_row rfl _ _ (w.heap.size+1) 25 _ (0,0) _ rfl HK7.out Tryz.underlying25 rfl (by kernel_rfl)) rfl ?_
    rw[HE.out]
    exact dA.fin (m:=⟨n 0,n 1,n 2,n 3,n 4,n 5,n 6,n 7,x,[],[]⟩) HI6.out HSR.out rfl (iB _ _ _) (Nat.zero_le _) (fun _=>rfl) (Nat.zero_le _) (fP _ _ _) (Nat.zero_le _) (fun _=>rfl) (Nat.zero_le _) (Nat.zero_le _) HO7.out.1 HO7.out.2
   |false=>
    go_wp2_with fail;refine(HH1.out _).mono ?_;rintro e w9 ⟨rfl,rfl⟩
    cases b2 with
    |true=>
     obtain rfl:b3=false:=HOO.out.2 rfl;go_wp2_with fail;refine(HH2.out _).mono ?_;rintro e w10 ⟨rfl,rfl⟩;have y0:w10.cell? ⟨w.heap.size,0,none⟩=some (.pointer (some ⟨s,0,none⟩)):=cell_of_block H8.out.var 0;have HC:=hid (HRE.out (by first|rfl|exact trivial) s st8 w10 H8.out.src);go_wp2_with fail;refine HC.out.mono ?_;rintro e w11 ⟨A,c,rfl,he,hnil,hc,hs3,ho3⟩;have H10:=hid (H8.out.call ho3 hs3)
     have HE:Hid (rdM st=(⟨n 0,n 1,n 2,n 3,n 4,n 5,n 6,n 7,false,(gk st8).1,[]⟩,(gk st8).2)):=hid (by
      rw[HM.out];unfold mw bH;dsimp only;rw[HB123.out.1,HB123.out.2.1,HB123.out.2.2];rfl)
     have HL8:=hid (uk st8);have HEN:Hid (cp w11 (fun b=>w.heap.size+3≤b∧b<w11.heap.size) A (gk st8).1∧(gk st8).1.length≤c∧(A=none→c=0)):=hid ⟨cJ.imp cU he fun b hb=>⟨by have:=hb.1;have:=H8.out.lt;omega,hb.2⟩,hc,hnil⟩;obtain⟨x,hx⟩: ∃x,x=(gk st8).1:=⟨_,rfl⟩;obtain⟨st9,hst9⟩: ∃x,x=(gk st8).2:=⟨_,rfl⟩;rw[←hx]at HE HL8 HEN ⊢;rw[←hst9]at HE H10;clear hx hst9 hs3 ho3 y0 HC H8 he hnil hc;go_wp2_with(refine am (by rfl) 22 _ _ rfl rfl (w.heap.size+2) 9 rfl (.slice A x.length c) #[.slice A x.length c] rfl rfl _ #[.int .i64 (n 0),.int .i64 (n 1),.int .i64 (n 2),.int .i64 (n 3),.int .i64 (n 4),.int .i64 (n 5),.int .i64 (n 6),.int .i64 (n 7),.bool false,.slice A x.length c,.slice none 0 0] 25 H10.out.box (by show 9+1≤11;omega) (by kernel_rfl) (by simp[Value.oneCell']) rfl ?_;intro w6 h6 ho6 hz6;have HI6:=hid (H10.out.store h6 ho6);have HEN6:=hid (And.intro (cJ.imp cU (cJ.keep cU HEN.out.1 (bL ho6 fun b hb=>⟨hb.2,by have:=hb.1;omega⟩)) (S':=fun b=>w.heap.size+3≤b∧b<w6.heap.size) fun b hb=>⟨hb.1,by rw[hz6];exact hb.2⟩) HEN.out.2);clear h6 ho6 hz6);refine(HH3.out _).mono ?_;rintro e w12 ⟨rfl,rfl⟩;go_wp2_with(first|(refine ap (by rfl) _ rfl (w.heap.size+2) rfl _ _ HI6.out.box rfl ?_;simp only[acR,Act.put])|(refine am (by rfl) 25 _ _ rfl rfl (w.heap.size+1) 0 rfl _ #[.int .i64 (n 0),.int .i64 (n 1),.int .i64 (n 2),.int .i64 (n 3),.int .i64 (n 4),.int .i64 (n 5),.int .i64 (n 6),.int .i64 (n 7),.bool false,.slice A x.length c,.slice none 0 0] rfl rfl _ #[.int .i64 (n 0),.int .i64 (n 1),.int .i64 (n 2),.int .i64 (n 3),.int .i64 (n 4),.int .i64 (n 5),.int .i64 (n 6),.int .i64 (n 7),.bool false,.slice A x.length c,.slice none 0 0] 25 HI6.out.res (by simp) (by kernel_rfl) (by simp[Value.oneCell']) (by kernel_rfl) ?_;intro w7 hk ho hz;have HK7:=hid hk;have HO7:=hid (And.intro ho hz);clear hk ho hz))
     refine bodyPost_ret (results_cell_row rfl _ _ (w.heap.size+1) 25 _ (0,0) _ rfl HK7.out Tryz.underlying25 rfl (by kernel_rfl)) rfl ?_;rw[HE.out]
     exact dA.fin (m:=⟨n 0,n 1,n 2,n 3,n 4,n 5,n 6,n 7,false,x,[]⟩) HI6.out HSR.out rfl HEN6.out.1 HEN6.out.2.1 HEN6.out.2.2 HL8.out (fP _ _ _) (Nat.zero_le _) (fun _=>rfl) (Nat.zero_le _) (Nat.zero_le _) HO7.out.1 HO7.out.2
    |false=>
     go_wp2_with fail;refine(HH2.out _).mono ?_;rintro e w10 ⟨rfl,rfl⟩
     cases b3 with
     |false=>
      have HE:Hid (rdM st=(⟨n 0,n 1,n 2,n 3,n 4,n 5,n 6,n 7,false,[],[]⟩,st8)):=hid (by
       rw[HM.out];unfold mw bH;dsimp only;rw[HB123.out.1,HB123.out.2.1,HB123.out.2.2];rfl)
      go_wp2_with fail;refine(HH3.out _).mono ?_;rintro e w11 ⟨rfl,rfl⟩;have HI6:Hid (dA w w11 s #[.int .i64 (n 0),.int .i64 (n 1),.int .i64 (n 2),.int .i64 (n 3),.int .i64 (n 4),.int .i64 (n 5),.int .i64 (n 6),.int .i64 (n 7),.bool false,.slice none 0 0,.slice none 0 0] st8):=hid H8.out;go_wp2_with(first|(refine ap (by rfl) _ rfl (w.heap.size+2) rfl _ _ HI6.out.box rfl ?_;simp only[acR,Act.put])|(refine am (by rfl) 25 _ _ rfl rfl (w.heap.size+1) 0 rfl _ #[.int .i64 (n 0),.int .i64 (n 1),.int .i64 (n 2),.int .i64 (n 3),.int .i64 (n 4),.int .i64 (n 5),.int .i64 (n 6),.int .i64 (n 7),.bool false,.slice none 0 0,.slice none 0 0] rfl rfl _ #[.int .i64 (n 0),.int .i64 (n 1),.int .i64 (n 2),.int .i64 (n 3),.int .i64 (n 4),.int .i64 (n 5),.int .i64 (n 6),.int .i64 (n 7),.bool false,.slice none 0 0,.slice none 0 0] 25 HI6.out.res (by simp) (by kernel_rfl) (by simp[Value.oneCell']) (by kernel_rfl) ?_;intro w7 hk ho hz;have HK7:=hid hk;have HO7:=hid (And.intro ho hz);clear hk ho hz));refine bodyPost_ret (results_cell_row rfl _ _ (w.heap.size+1) 25 _ (0,0) _ rfl HK7.out Tryz.underlying25 rfl (by kernel_rfl)) rfl ?_;rw[HE.out]
      exact dA.fin (m:=⟨n 0,n 1,n 2,n 3,n 4,n 5,n 6,n 7,false,[],[]⟩) HI6.out HSR.out rfl (iB _ _ _) (Nat.zero_le _) (fun _=>rfl) (Nat.zero_le _) (fP _ _ _) (Nat.zero_le _) (fun _=>rfl) (Nat.zero_le _) (Nat.zero_le _) HO7.out.1 HO7.out.2
     |true=>
      go_wp2_with fail;refine(HH3.out _).mono ?_;rintro e w11 ⟨rfl,rfl⟩;have y0:w11.cell? ⟨w.heap.size,0,none⟩=some (.pointer (some ⟨s,0,none⟩)):=cell_of_block H8.out.var 0;have HC:=hid (sy s st8 65536 w11 H8.out.src (by omega))
      have HE:Hid (rdM st=(⟨n 0,n 1,n 2,n 3,n 4,n 5,n 6,n 7,false,[],(bd 65536 st8).1⟩,(bd 65536 st8).2)):=hid (by
       rw[HM.out];unfold mw bH;dsimp only;rw[HB123.out.1,HB123.out.2.1,HB123.out.2.2];rfl)
      have HL8:=hid (rY 65536 st8 (by omega));go_wp2_with fail;refine HC.out.mono ?_;rintro e w12 ⟨rfl,hs3,ho3⟩;have H10:=hid (H8.out.call ho3 hs3);obtain⟨x,hx⟩: ∃x,x=(bd 65536 st8).1:=⟨_,rfl⟩;obtain⟨st9,hst9⟩: ∃x,x=(bd 65536 st8).2:=⟨_,rfl⟩;rw[←hx]at HE ⊢;rw[←hst9]at HE H10;have hlx:x.length≤65536:=by rw[hx];exact HL8.out
      obtain⟨A,c,w13,hcv,hb13,hr1,hr2,hr3,hz13⟩:=te x (by omega) w12;have H13:=hid (H10.out.below hb13);have HSN:Hid (cd w13 (fun b=>w.heap.size+3≤b∧b<w13.heap.size) A x∧x.length≤c∧(A=none→c=0)∧c≤9223372036854775807∧x.length≤65536):=hid ⟨hr3.imp fun b hb=>⟨by have:=H10.out.lt;omega,by omega⟩,hr1,hr2.2,hr2.1,hlx⟩;clear hx hst9 hs3 ho3 y0 HC H8 HL8 hlx hb13 hz13 hr1 hr2 hr3;go_wp2_with(first|(refine am (by rfl) 23 _ _ rfl rfl (w.heap.size+2) 10 rfl (.slice A x.length c) #[.slice A x.length c] rfl rfl _ #[.int .i64 (n 0),.int .i64 (n 1),.int .i64 (n 2),.int .i64 (n 3),.int .i64 (n 4),.int .i64 (n 5),.int .i64 (n 6),.int .i64 (n 7),.bool false,.slice none 0 0,.slice A x.length c] 25 H13.out.box (by show 10+1≤11;omega) (by kernel_rfl) (by simp[Value.oneCell']) rfl ?_;intro w6 h6 ho6 hz6;have HI6:=hid (H13.out.store h6 ho6);have HSN6:=hid (And.intro ((HSN.out.1.keep (bL ho6 fun b hb=>⟨hb.2,by have:=hb.1;omega⟩)).imp (S':=fun b=>w.heap.size+3≤b∧b<w6.heap.size) fun b hb=>⟨hb.1,by rw[hz6];exact hb.2⟩) HSN.out.2);clear h6 ho6 hz6)|(refine ap (by rfl) _ rfl (w.heap.size+2) rfl _ _ HI6.out.box rfl ?_;simp only[acR,Act.put])|(refine am (by rfl) 25 _ _ rfl rfl (w.heap.size+1) 0 rfl _ #[.int .i64 (n 0),.int .i64 (n 1),.int .i64 (n 2),.int .i64 (n 3),.int .i64 (n 4),.int .i64 (n 5),.int .i64 (n 6),.int .i64 (n 7),.bool false,.slice none 0 0,.slice A x.length c] rfl rfl _ #[.int .i64 (n 0),.int .i64 (n 1),.int .i64 (n 2),.int .i64 (n 3),.int .i64 (n 4),.int .i64 (n 5),.int .i64 (n 6),.int .i64 (n 7),.bool false,.slice none 0 0,.slice A x.length c] 25 HI6.out.res (by simp) (by kernel_rfl) (by simp[Value.oneCell']) (by kernel_rfl) ?_;intro w7 hk ho hz;have HK7:=hid hk;have HO7:=hid (And.intro ho hz);clear hk ho hz))
      refine bodyPost_ret (results_cell_row rfl _ _ (w.heap.size+1) 25 _ (0,0) _ rfl HK7.out Tryz.underlying25 rfl (by kernel_rfl)) rfl ?_;rw[HE.out];exact dA.fin (m:=⟨n 0,n 1,n 2,n 3,n 4,n 5,n 6,n 7,false,[],x⟩) HI6.out HSR.out rfl (iB _ _ _) (Nat.zero_le _) (fun _=>rfl) (Nat.zero_le _) HSN6.out.1 HSN6.out.2.1 HSN6.out.2.2.1 HSN6.out.2.2.2.1 HSN6.out.2.2.2.2 HO7.out.1 HO7.out.2
def cw :aQ:=⟨0,0,0,0,0,0,0,0,false,[],[]⟩
def gO (l:List UInt8):Int:=if fp (rdM (some l)).2=0∧bK (rdM (some l)).1=true then 0 else 10
def gK (l:List UInt8):aQ:=if fp (rdM (some l)).2=0∧bK (rdM (some l)).1=true then(rdM (some l)).1 else cw
def wV (m:aQ)(c:Int)(w:World)(q:Ending)(w':World):Prop:= ∃EA ec SA sc,q= .returned (.tuple #[.agg #[.int .i64 m.kind,.int .i64 m.frm,.int .i64 m.tgt,.int .i64 m.term,.int .i64 m.index,.int .i64 m.logTerm,.int .i64 m.commit,.int .i64 m.round,.bool m.ok,.slice EA m.ents.length ec,.slice SA m.snap.length sc],.int .i64 c])∧aT w' (vT w.heap.size w') m EA ec SA sc∧Below w.heap.size w w'
theorem k9 (w:World)(S:Nat→Prop):aT w S cw none 0 none 0:=
 ⟨iB _ _ _,Nat.le_refl _,fun _=>rfl,Nat.zero_le _,fP _ _ _,Nat.le_refl _,fun _=>rfl,Nat.zero_le _,Nat.zero_le _,cN (by decide),cN (by decide),cN (by decide),cN (by decide),cN (by decide),cN (by decide),cN (by decide),cN (by decide)⟩
theorem d8 {fn:Func}{p u:Tmp}(h:fn.results= #[.cell p 25,.tmp u])(tmps:Array Value)(w:World)(g:Nat)(t:TypeId)(cs:Array Value)(fr:Nat×Nat)
  (hp:tmps.getD p undef= .pointer (some ⟨g,0,none⟩)) (hg:w.heap[g]? =some (.cells cs t fr)) (hn:cs.size=11):
  (results fn tmps).run Tryz.prog w= .ok (.tuple #[.agg cs,tmps.getD u undef]) w:=by
 rw[results_cell_tmp h,hp];have e:(asAddr (.pointer (some ⟨g,0,none⟩))).run Tryz.prog w= .ok ⟨g,0,none⟩ w:=by simp[asAddr]
 rw[e];simp only[Result.andThen];rw[run_loadVar_row w g t 25 cs fr _ hg Tryz.underlying25 rfl (by rw[hn];kernel_rfl)]
theorem jz (v:Value)(l:List UInt8)(w:World)(hr:Rd w w.heap.size v l)(hl:l.length≤9223372036854775807)(hre:bi (rdM (some l)).1.kind=true→qF)(hsm: ∀e∈(rdM (some l)).1.ents,SmE e):Calls Tryz.prog 14 #[v] w (wV (gK l) (gO l) w):=by
 obtain⟨A,cap,hv,-⟩:=id hr;obtain⟨w0,hw0⟩: ∃W,W=w.alloc (.cells #[.int .i64 0,.int .i64 0,.int .i64 0,.int .i64 0,.int .i64 0,.int .i64 0,.int .i64 0,.int .i64 0,.bool false,.slice none 0 0,.slice none 0 0] 25):=⟨_,rfl⟩;have hz0:w0.heap[w.heap.size]? =some (.cells #[.int .i64 0,.int .i64 0,.int .i64 0,.int .i64 0,.int .i64 0,.int .i64 0,.int .i64 0,.int .i64 0,.bool false,.slice none 0 0,.slice none 0 0] 25 (0,0)):=by rw[hw0];exact heap_alloc_new w _
 have hb0:Below w.heap.size w w0:=by rw[hw0];exact ae _
 have hsz0:w0.heap.size=w.heap.size+1:=by rw[hw0];simp
 have hc:(convert 23 9 v).run Tryz.prog w0= .ok (.string ⟨l.toArray⟩) w0:=(hr.keep hb0).strY;have HC:=hid hc;have HB0:=hid hb0;have HZ0:=hid hz0;have HSZ:=hid hsz0;have HL:=hid hl;clear hb0 hr hz0 hsz0 hc hv hl;obtain⟨M,hM⟩: ∃M,M=(rdM (some l)).1:=⟨_,rfl⟩;obtain⟨st2,hst2⟩: ∃s,s=(rdM (some l)).2:=⟨_,rfl⟩;have HSM:Hid (∀e∈M.ents,SmE e):=hid (by rw[hM];exact hsm);have HRE:=hid hre;clear hsm hre;have HDEF:Hid (gO l=(if fp st2=0∧bK M=true then 0 else 10)∧gK l=if fp st2=0∧bK M=true then M else cw):=hid (by rw[hM,hst2];exact⟨rfl,rfl⟩);go_enter Tryz.func14,Tryz.ntmps14;go_wp2_with fail;rw[←hw0];clear hw0;refine(un v _ _ HC.out).mono ?_;rintro q w1 ⟨rfl,hs1,hb1⟩;have hsl:cm w1 w0.heap.size (some l):=⟨hs1,HL.out⟩;have HC1:=hid (tp w0.heap.size (some l) w1 hsl HRE.out);have HX1:Hid (Below w.heap.size w w1∧w1.heap[w.heap.size]? =some (.cells #[.int .i64 0,.int .i64 0,.int .i64 0,.int .i64 0,.int .i64 0,.int .i64 0,.int .i64 0,.int .i64 0,.bool false,.slice none 0 0,.slice none 0 0] 25 (0,0))∧w0.heap.size<w1.heap.size):=hid ⟨HB0.out.trans (hb1.mono (by have:=HSZ.out;omega)),(hb1.block _ (by have:=HSZ.out;omega)).trans HZ0.out,hsl.lt⟩;clear hs1 hb1 hsl HC HB0 HZ0 HL;go_wp2_with fail;refine HC1.out.mono ?_;rintro q w2 hrd;rw[←hM,←hst2]at hrd;clear hM hst2;obtain⟨EA,ec,SA,sc,rfl,hat,hs2,ho2⟩:=hrd;obtain⟨w3,hw3⟩: ∃W,W=w2.alloc (.cells #[.int .i64 M.kind,.int .i64 M.frm,.int .i64 M.tgt,.int .i64 M.term,.int .i64 M.index,.int .i64 M.logTerm,.int .i64 M.commit,.int .i64 M.round,.bool M.ok,.slice EA M.ents.length ec,.slice SA M.snap.length sc] 25):=⟨_,rfl⟩
 have hb3:Below w2.heap.size w2 w3:=by rw[hw3];exact ae _
 have HK3:Hid (bx w3 w2.heap.size M EA ec SA sc):=hid (by rw[hw3];exact heap_alloc_new w2 _);have hgl:=HX1.out.2.2;have hsz:=ho2.size;have hss:=HSZ.out;have hsz3:w3.heap.size=w2.heap.size+1:=by rw[hw3];simp
 have hbw:Below w.heap.size w1 w2:=⟨ho2.os,ho2.tape,ho2.output,ho2.size,fun k hk=>ho2.block k (by have:=HX1.out.1.size;omega) (by rintro⟨⟩;omega)⟩
 have HX3:Hid (aT w3 (fun b=>w1.heap.size≤b∧b<w2.heap.size) M EA ec SA sc∧cm w3 w0.heap.size st2∧Below w.heap.size w w3∧w3.heap[w.heap.size]? =some (.cells #[.int .i64 0,.int .i64 0,.int .i64 0,.int .i64 0,.int .i64 0,.int .i64 0,.int .i64 0,.int .i64 0,.bool false,.slice none 0 0,.slice none 0 0] 25 (0,0))∧w.heap.size<w1.heap.size∧w1.heap.size≤w2.heap.size∧w3.heap.size=w2.heap.size+1):=hid
  ⟨hat.keep fun b hb=>hb3.block b hb.2,hs2.of (hb3.block _ (by omega)),(HX1.out.1.trans hbw).trans (hb3.mono (by have:=HX1.out.1.size;omega)),(hb3.block _ (by omega)).trans ((ho2.block _ (by omega) (by intro e;injection e;omega)).trans HX1.out.2.1),by omega,hsz,hsz3⟩
 clear hs2 ho2 hat hb3 hgl hsz hss hsz3 hbw HX1 HC1;go_wp2_with fail;rw[←hw3];clear hw3;refine(uz _ _ _ HX3.out.2.1).mono ?_;rintro q u ⟨rfl,hw⟩;subst hw;obtain⟨x,hx⟩: ∃x,x=fp st2:=⟨_,rfl⟩;rw[←hx];rw[←hx]at HDEF;clear hx;by_cases h0:x=0
 ·have HMY:=hid (iE _ M EA ec SA sc w3 (fun b hb=>by have:=HX3.out.2.2.2.2.2.2;have:=hb.2;omega) HX3.out.1 HSM.out);have HD2:Hid (gO l=(if bK M=true then 0 else 10)∧gK l=if bK M=true then M else cw):=hid (by have h:=HDEF.out;simp only[h0,true_and]at h;exact h);clear HDEF;subst h0;go_wp2_with(refine ap (by rfl) _ rfl w2.heap.size rfl _ _ HK3.out rfl ?_;simp only[acR,Act.put]);refine HMY.out.mono ?_;rintro q w4 ⟨rfl,hb⟩;have HK4:=hid (HK3.out.below hb)
  have HX4:Hid (aT w4 (fun b=>w1.heap.size≤b∧b<w2.heap.size) M EA ec SA sc∧Below w.heap.size w w4∧w4.heap[w.heap.size]? =some (.cells #[.int .i64 0,.int .i64 0,.int .i64 0,.int .i64 0,.int .i64 0,.int .i64 0,.int .i64 0,.int .i64 0,.bool false,.slice none 0 0,.slice none 0 0] 25 (0,0))∧w.heap.size<w1.heap.size∧w2.heap.size+1≤w4.heap.size):=hid (by
   obtain⟨h1,h2,h3,h4,h5,h6,h7⟩:=HX3.out
   exact⟨h1.keep fun b hb'=>hb.block b (by have:=hb'.2;omega),h3.trans (hb.mono h3.size),(hb.block _ (by omega)).trans h4,h5,by have:=hb.size;omega⟩)
  clear hb HMY HK3 HX3
  cases hm:bK M with
  |false=>
   have HF:Hid (gO l=10∧gK l=cw):=hid (by
    rw[HD2.out.1,HD2.out.2,hm];exact⟨rfl,rfl⟩)
   clear hm HD2;go_wp2_with(refine am (by rfl) 25 _ _ rfl rfl w.heap.size 0 rfl _ #[.int .i64 0,.int .i64 0,.int .i64 0,.int .i64 0,.int .i64 0,.int .i64 0,.int .i64 0,.int .i64 0,.bool false,.slice none 0 0,.slice none 0 0] rfl rfl _ #[.int .i64 0,.int .i64 0,.int .i64 0,.int .i64 0,.int .i64 0,.int .i64 0,.int .i64 0,.int .i64 0,.bool false,.slice none 0 0,.slice none 0 0] 25 HX4.out.2.2.1 (by simp) (by kernel_rfl) (by simp[Value.oneCell']) (by kernel_rfl) ?_;intro w6 hk ho hz;have HK6:=hid hk;have HO6:=hid (And.intro ho hz);clear hk ho hz);refine bodyPost_ret (d8 rfl _ _ w.heap.size _ _ _ rfl HK6.out rfl) rfl ?_;rw[HF.out.1,HF.out.2]
   exact⟨none,0,none,0,rfl,k9 _ _,fX HX4.out.2.1 HO6.out.1 HX4.out.2.1.size⟩
  |true=>
   have HF:Hid (gO l=0∧gK l=M):=hid (by
    rw[HD2.out.1,HD2.out.2,hm];exact⟨rfl,rfl⟩)
   clear hm HD2;go_wp2_with(first|(refine ap (by rfl) _ rfl w2.heap.size rfl _ _ HK4.out rfl ?_;simp only[acR,Act.put])|(refine am (by rfl) 25 _ _ rfl rfl w.heap.size 0 rfl _ #[.int .i64 M.kind,.int .i64 M.frm,.int .i64 M.tgt,.int .i64 M.term,.int .i64 M.index,.int .i64 M.logTerm,.int .i64 M.commit,.int .i64 M.round,.bool M.ok,.slice EA M.ents.length ec,.slice SA M.snap.length sc] rfl rfl _ #[.int .i64 M.kind,.int .i64 M.frm,.int .i64 M.tgt,.int .i64 M.term,.int .i64 M.index,.int .i64 M.logTerm,.int .i64 M.commit,.int .i64 M.round,.bool M.ok,.slice EA M.ents.length ec,.slice SA M.snap.length sc] 25 HX4.out.2.2.1 (by simp) (by kernel_rfl) (by simp[Value.oneCell']) (by kernel_rfl) ?_;intro w6 hk ho hz;have HK6:=hid hk;have HO6:=hid (And.intro ho hz);clear hk ho hz));refine bodyPost_ret (d8 rfl _ _ w.heap.size _ _ _ rfl HK6.out rfl) rfl ?_;rw[HF.out.1,HF.out.2];have hx:=HX4.out;have hz6:=HO6.out.2;obtain⟨-,q2,-,q4,q5⟩:=HX4.out;have q6:=q2.size;exact⟨EA,ec,SA,sc,rfl,(hx.1.keep (bL HO6.out.1 fun b hb=>⟨by have:=hb.2;omega,by have:=hb.1;omega⟩)).imp fun b hb=>⟨by have:=hb.1;omega,by have:=hb.2;omega⟩,fX hx.2.1 HO6.out.1 (by omega)⟩
 ·have h1:(x == 0)=false:=beq_false_of_ne h0;have h2:(x != 0)=true:=by simp[h0]
  have HF:Hid (gO l=10∧gK l=cw):=hid (by
   have hn: ¬(x=0∧bK M=true):=fun h=>h0 h.1
   rw[HDEF.out.1,HDEF.out.2,if_neg hn,if_neg hn];exact⟨rfl,rfl⟩)
  clear HDEF;go_wp2_with(refine am (by rfl) 25 _ _ rfl rfl w.heap.size 0 rfl _ #[.int .i64 0,.int .i64 0,.int .i64 0,.int .i64 0,.int .i64 0,.int .i64 0,.int .i64 0,.int .i64 0,.bool false,.slice none 0 0,.slice none 0 0] rfl rfl _ #[.int .i64 0,.int .i64 0,.int .i64 0,.int .i64 0,.int .i64 0,.int .i64 0,.int .i64 0,.int .i64 0,.bool false,.slice none 0 0,.slice none 0 0] 25 HX3.out.2.2.2.1 (by simp) (by kernel_rfl) (by simp[Value.oneCell']) (by kernel_rfl) ?_;intro w6 hk ho hz;have HK6:=hid hk;have HO6:=hid (And.intro ho hz);clear hk ho hz);refine bodyPost_ret (d8 rfl _ _ w.heap.size _ _ _ rfl HK6.out rfl) rfl ?_;rw[HF.out.1,HF.out.2];exact⟨none,0,none,0,rfl,k9 _ _,fX HX3.out.2.2.1 HO6.out.1 HX3.out.2.2.1.size⟩
end Go.Proofs.YtgfidiocmiolpaaGreat
/- Which messages may be, and which are too large, by the document. -/
namespace Go.Proofs.YtgfidiocmiolpaaGreat
open Lib (hid)
open Go.RowKit
theorem dT (x:Int)(c:Bool)(w:World):Calls Tryz.prog 24 #[.int .i64 x,.bool c] w fun e w'=>e= .returned (.bool (cC x c))∧w'=w:=by
 unfold cC;by_cases h0:0≤x;rotate_left
 ·have d1:decide (x≥0)=false:=decide_eq_false h0;rw[decide_eq_false h0];go_enter Tryz.func24,Tryz.ntmps24;go_wp2_with fail;go_ret;exact⟨rfl,rfl⟩
 have d1:decide (x≥0)=true:=decide_eq_true h0;by_cases h1:x≤1099511627776;rotate_left
 ·have d2:decide (x≤1099511627776)=false:=decide_eq_false h1
  have e:(decide (0≤x) && decide (x≤if c=true then 1099511627776 else 0))=false:=by
   rw[decide_eq_true h0];cases c<;>simp<;>omega
  rw[e];clear h0 h1 e;go_enter Tryz.func24,Tryz.ntmps24;go_wp2_with fail;go_ret;exact⟨rfl,rfl⟩
 have d2:decide (x≤1099511627776)=true:=decide_eq_true h1;cases c
 ·have e:(decide (0≤x) && decide (x≤if false=true then 1099511627776 else 0))=(x == 0):=by
   rw[decide_eq_true h0,Bool.eq_iff_iff];simp;omega
  rw[e];clear h0 h1 e;go_enter Tryz.func24,Tryz.ntmps24;go_wp2_with fail;go_ret;exact⟨rfl,rfl⟩
 ·have e:(decide (0≤x) && decide (x≤if true=true then 1099511627776 else 0))=true:=by
   rw[decide_eq_true h0];simpa using h1
  rw[e];clear h0 h1 e;go_enter Tryz.func24,Tryz.ntmps24;go_wp2_with fail;go_ret;exact⟨rfl,rfl⟩
theorem gn {fn:Func}{p u:Tmp}(h:fn.results= #[.cell p 51,.tmp u])(tmps:Array Value)(w:World)(g:Nat)(t:TypeId)(cs:Array Value)(fr:Nat×Nat)
  (hp:tmps.getD p undef= .pointer (some ⟨g,0,none⟩)) (hg:w.heap[g]? =some (.cells cs t fr)) (hn:cs.size=7):
  (results fn tmps).run Tryz.prog w= .ok (.tuple #[.agg cs,tmps.getD u undef]) w:=by
 rw[results_cell_tmp h,hp];have e:(asAddr (.pointer (some ⟨g,0,none⟩))).run Tryz.prog w= .ok ⟨g,0,none⟩ w:=by simp[asAddr]
 rw[e];simp only[Result.andThen];rw[run_loadVar_row w g t 51 cs fr _ hg Tryz.underlying51 rfl (by rw[hn];kernel_rfl)]
theorem qx (k:Int)(w:World):Calls Tryz.prog 23 #[.int .i64 k] w fun e w'=>e= .returned (.tuple #[.agg #[.bool (bf k),.bool (dq k),.bool (aV k),.bool (bs k),.bool (hOk k),.bool (bi k),.bool (bw k)],.bool (eq k)])∧Below w.heap.size w w':=by
 rcases eZ k with rfl|rfl|rfl|rfl|rfl|⟨hk,h1,h2,h3,h4,h5⟩
 iterate 5
  ·go_enter Tryz.func23,Tryz.ntmps23;go_wp2_with fail;refine bodyPost_ret (gn rfl _ _ w.heap.size 51 _ (0,0) rfl (heap_alloc_new w _) rfl) rfl ?_;exact⟨rfl,ae _⟩
 have e1:(k == 1)=false:=beq_false_of_ne h1;have e2:(k == 2)=false:=beq_false_of_ne h2;have e3:(k == 3)=false:=beq_false_of_ne h3;have e4:(k == 4)=false:=beq_false_of_ne h4;have e5:(k == 5)=false:=beq_false_of_ne h5
 have HH:Hid (bf k=false∧dq k=false∧aV k=false∧bs k=false∧hOk k=false∧bi k=false∧bw k=false):=hid (by
  unfold bf dq aV bs hOk bi bw;rw[decide_eq_false h1,decide_eq_false h2,decide_eq_false h3,decide_eq_false h4,decide_eq_false h5]
  decide)
 rw[HH.out.1,HH.out.2.1,HH.out.2.2.1,HH.out.2.2.2.1,HH.out.2.2.2.2.1,HH.out.2.2.2.2.2.1,HH.out.2.2.2.2.2.2,hk];clear h1 h2 h3 h4 h5 HH hk;go_enter Tryz.func23,Tryz.ntmps23;go_wp2_with fail;refine bodyPost_ret (gn rfl _ _ w.heap.size 51 _ (0,0) rfl (heap_alloc_new w _) rfl) rfl ?_;exact⟨rfl,ae _⟩
def ij (m:aQ):Bool:=((m.ents.take 20).any fi) || decide (20<m.ents.length) || decide (131072<m.snap.length)
theorem kC {w:World}{S:Nat→Prop}{m:aQ}{EA:Option Addr}{ec:Nat}{SA:Option Addr}{sc:Nat}(h:aT w S m EA ec SA sc)(hl:ij m=false):(∀e∈m.ents,SmE e)∧m.ents.length≤20∧m.snap.length≤131072:=by
 unfold ij at hl;simp only[Bool.or_eq_false_iff,decide_eq_false_iff_not,Nat.not_lt]at hl;obtain⟨⟨h1,h2⟩,h3⟩:=hl;refine⟨fun e he=> ?_,h2,h3⟩;rw[List.take_of_length_le h2]at h1;obtain⟨i,hi,rfl⟩:=List.getElem_of_mem he;obtain⟨b,off,cs,-,-,-,-,hx⟩:=cp.at h.ents i hi;have:=List.any_eq_false.1 h1 _ (List.getElem_mem hi);exact(r9 hx (by simpa using this)).1
theorem fD (S:Nat→Prop)(m:aQ)(EA:Option Addr)(ec:Nat)(SA:Option Addr)(sc:Nat)(w:World)(hS: ∀b,S b→b<w.heap.size)(h:aT w S m EA ec SA sc):
  Calls Tryz.prog 7 #[.agg #[.int .i64 m.kind,.int .i64 m.frm,.int .i64 m.tgt,.int .i64 m.term,.int .i64 m.index,.int .i64 m.logTerm,.int .i64 m.commit,.int .i64 m.round,.bool m.ok,.slice EA m.ents.length ec,.slice SA m.snap.length sc]] w fun r w'=>r= .returned (.bool (ij m))∧Below w.heap.size w w':=by
 obtain⟨w1,hw1⟩: ∃W,W=w.alloc (.cells #[.int .i64 m.kind,.int .i64 m.frm,.int .i64 m.tgt,.int .i64 m.term,.int .i64 m.index,.int .i64 m.logTerm,.int .i64 m.commit,.int .i64 m.round,.bool m.ok,.slice EA m.ents.length ec,.slice SA m.snap.length sc] 25):=⟨_,rfl⟩;have hb1:Below w.heap.size w w1:=by rw[hw1];exact ae _
 have HB1:=hid hb1;have HK1:Hid (bx w1 w.heap.size m EA ec SA sc):=hid (by rw[hw1];exact heap_alloc_new w _);have HA:=hid h;have HS:=hid hS;obtain⟨r,hr⟩: ∃r,r=ij m:=⟨_,rfl⟩;rw[←hr];have HR:Hid (r=(((m.ents.take 20).any fi) || decide (20<m.ents.length) || decide (131072<m.snap.length))):=hid hr;obtain⟨n,hn⟩: ∃n,n=m.ents.length:=⟨_,rfl⟩;have HN:=hid hn;have hnl:n≤567493904640:=by have:=h.elen;omega
 clear hr hb1 h hS hn;go_enter Tryz.func7,Tryz.ntmps7;go_wp2_with fail;rw[←hw1];clear hw1
 go_loopw [3] (fun i wr=> ∃j:Nat,i= .int .i64 j∧j≤n∧j≤20∧Hid (∀i (h:i<m.ents.length),i<j→fi m.ents[i]=false)∧Hid (Below w.heap.size w wr)∧Hid (bx wr w.heap.size m EA ec SA sc)) (fun i _=>n - (intOf i).toNat)
 case atStart=>exact⟨0,rfl,by omega,by omega,hid fun i _ h=>absurd h (by omega),HB1,HK1⟩
 case round=>
  clear HB1 HK1;obtain⟨j,rfl,hj,h20,HM,HB,HK⟩:=hrel;have z9:=HK.out.g9;rw[←HN.out]at z9;by_cases hgo:j<n∧j<20
  ·have hjl:j<m.ents.length:=by have:=HN.out;omega
   obtain⟨b,off,cs,hA,hb,hrg,hcz,he⟩:=cp.at (HA.out.below HS.out HB.out).ents j hjl;obtain⟨IA,ic,IA',ic',DA,dc,DA',dc',LA,lc,hcs,hat⟩:=he.at;have hcs':cs= [.int .i64 m.ents[j].term,.int .i64 m.ents[j].kind,.string m.ents[j].coll,.string m.ents[j].to,.int .i64 m.ents[j].id.kind,.int .i64 m.ents[j].id.num,.string m.ents[j].id.text,.slice IA m.ents[j].id.items.length ic,.slice IA' m.ents[j].id.names.length ic',.int .i64 m.ents[j].doc.kind,.int .i64 m.ents[j].doc.num,.string m.ents[j].doc.text,.slice DA m.ents[j].doc.items.length dc,.slice DA' m.ents[j].doc.names.length dc',.slice LA m.ents[j].dels.length lc,.int .i64 m.ents[j].session,.int .i64 m.ents[j].number]:=by have:=congrArg Array.toList hcs;simpa using this
   subst hcs';have HL:=hid (nK S m.ents[j] _ wr (fun b hb=>Nat.lt_of_lt_of_le (HS.out b hb) HB.out.size) hat.l);have HRG:=hid hrg;obtain⟨b',off',rfl,rfl⟩: ∃b' off',b'=b∧off'=off:=⟨_,_,rfl,rfl⟩;subst hA;have hlt:=hgo.1;have hl20:=hgo.2;have d1:decide ((j:Int)<(n:Int))=true:=decide_eq_true (by omega);have d2:decide ((j:Int)<20)=true:=decide_eq_true (by omega);clear hcs he hcz hat hrg hb hgo;go_wp2_with(refine bD (by rfl) 46 _ rfl b' (off'+j * 17) rfl _ _ HRG.out Tryz.underlying46 rfl (by kernel_rfl) ?_;simp only[acR,Act.put]);refine HL.out.mono ?_;rintro q w3 ⟨rfl,hb⟩;have HB3:=hid (HB.out.trans (hb.mono HB.out.size));have HK3:=hid (HK.out.below hb);clear hb HL HRG z9 HB HK;cases hlg:fi m.ents[j]
   ·have HLG:=hid hlg;clear hlg;go_wp2_with fail
    go_roundw
    case rel=>exact⟨j+1,by go_num,by omega,by omega,hid fun i hi hij=>by
     by_cases e:i=j
     ·subst e;exact HLG.out
     ·exact HM.out i hi (by omega),HB3,HK3⟩
    case measure=>simp[intOf];omega
   ·have HE:Hid (r=true):=hid (by
     rw[HR.out,List.any_eq_true.2 ⟨m.ents[j],List.mem_iff_getElem.2 ⟨j,by simp;omega,by simp⟩,hlg⟩];rfl)
    clear hlg;go_wp2_with fail;go_ret;exact⟨by rw[HE.out]<;>rfl,HB3.out⟩
  ·have HF:Hid ((m.ents.take 20).any fi=false):=hid (List.any_eq_false.2 fun e he=>by
    obtain⟨i,hi,rfl⟩:=List.getElem_of_mem he;simp only[List.length_take]at hi;rw[List.getElem_take,HM.out i (by omega) (by have:=HN.out;omega)]
    decide)
   have z10:=HK.out.g10;obtain⟨k,hk⟩: ∃k,k=m.snap.length:=⟨_,rfl⟩;rw[←hk]at z10;have HR2:Hid (r=(decide (20<n) || decide (131072<k))):=hid (by rw[HR.out,HF.out,HN.out,hk];rfl);clear hk HR;by_cases hlt:j<n
   ·have d1:decide ((j:Int)<(n:Int))=true:=decide_eq_true (by omega);have d2:decide ((j:Int)<20)=false:=decide_eq_false (by omega);by_cases hb20:20<n
    ·have d3:decide ((n:Int)>20)=true:=decide_eq_true (by omega);have HE:Hid (r=true):=hid (by rw[HR2.out,decide_eq_true hb20];rfl);go_wp2_with fail;go_ret;exact⟨by rw[HE.out]<;>rfl,HB.out⟩
    ·exact absurd hgo (by omega)
   ·have d1:decide ((j:Int)<(n:Int))=false:=decide_eq_false (by omega);by_cases hb20:20<n
    ·exact absurd hlt (by omega)
    ·have d3:decide ((n:Int)>20)=false:=decide_eq_false (by omega);by_cases hk:131072<k
     ·have d4:decide ((k:Int)>131072)=true:=decide_eq_true (by omega);have HE:Hid (r=true):=hid (by rw[HR2.out,decide_eq_true hk];simp);clear hk;go_wp2_with fail;go_ret;exact⟨by rw[HE.out]<;>rfl,HB.out⟩
     ·have d4:decide ((k:Int)>131072)=false:=decide_eq_false (by omega);have HE:Hid (r=false):=hid (by rw[HR2.out,decide_eq_false hb20,decide_eq_false hk];rfl);clear hk;go_wp2_with fail;go_ret;exact⟨by rw[HE.out]<;>rfl,HB.out⟩
end Go.Proofs.YtgfidiocmiolpaaGreat
