/- The message that comes next, by the program. (Written by mkmgv.py.) -/
import Derived.Test.YtgfidiocmiolpaaGreatKMgP
import Derived.Test.YtgfidiocmiolpaaGreatKMgN
import Derived.Test.YtgfidiocmiolpaaGreatKEnM
set_option maxHeartbeats 64000000
set_option maxRecDepth 100000
set_option linter.unusedVariables false
set_option linter.unusedSimpArgs false
namespace Go.Proofs.YtgfidiocmiolpaaGreat
open Lib (hid)
open Go.RowKit Go.Joins
theorem yd :RdI rdE fj:=⟨by rw[pn],fun l e r hl h=>(sZ hl h).1⟩
theorem rh :SmE cY:=by
 refine⟨?_,?_,?_,?_,fun _=>⟨fun d hd=>absurd hd List.not_mem_nil,fun d hd=>absurd hd List.not_mem_nil⟩⟩
 ·exact Nat.le_trans (show av ap≤8 by decide) (by omega)
 ·exact Nat.le_trans (show av ap≤8 by decide) (by omega)
 ·exact Nat.le_trans (show bt ap≤8 by decide) (by omega)
 ·exact Nat.le_trans (show bt ap≤8 by decide) (by omega)
theorem yx {st:Option (List UInt8)}(hl:iD st):SmE (rdE st).1:=by
 rw[fP];have h:=px hl;unfold fU
 split
 ·exact rh
 ·split
  ·exact h
  ·exact rh
theorem tw {st:Option (List UInt8)}(hl:iD st): ∀k,(∀e∈(cB st k).1,SmE e)∧iD (cB st k).2
 |0=>⟨fun e he=>absurd he List.not_mem_nil,hl⟩
 |k+1=>by
  obtain⟨h1,h2⟩:=tw hl k;refine⟨fun e he=> ?_,h2.step yd⟩;unfold cB at he;rcases List.mem_append.1 he with he|he
  ·exact h1 e he
  ·rw[List.mem_singleton.1 he];exact yx h2
theorem sK {st:Option (List UInt8)}(hl:iD st): ∀e∈(rdM st).1.ents,SmE e:=by
 have hcc:RdI (ae 1099511627776) grp:=dq (m:=1099511627776) (by omega);have h1:=((hl.step eW).step eW).step eW;have h2:=h1.step hcc;have h3:=(((h2.step (ck (b:=bw (ak st).1) (z:=0) hcc)).step (ck (b:=dG (ak st).1) (z:=0) hcc)).step (ck (b:=aY (ak st).1) (z:=0) hcc)).step (ck (b:=bI (ak st).1) (z:=0) hcc);have h4:=h3.step (ck (b:=hOk (ak st).1) (z:=false) vD);show ∀e∈(bG (bJ (ak st).1) [] gd _).1,SmE e;unfold bG
 split
 ·exact(tw (h4.step (dq (m:=8) (by omega))) _).1
 ·exact fun e he=>absurd he List.not_mem_nil
def wO (m:bM)(st2:Option (List UInt8))(s:Nat)(w:World)(q:Ending)(w':World):Prop:=
 ∃EA ec SA sc,q= .returned (.agg #[.int .i64 m.kind,.int .i64 m.frm,.int .i64 m.tgt,.int .i64 m.term,.int .i64 m.index,.int .i64 m.logTerm,.int .i64 m.commit,.int .i64 m.round,.bool m.ok,.slice EA m.ents.length ec,.slice SA m.snap.length sc])∧bF w' (dB w.heap.size w') m EA ec SA sc∧aN w' s st2∧au w w' s
def pB :Prop:= ∀(s:Nat) (st:Option (List UInt8)) (W:World),aN W s st→Calls Tryz.prog 72 #[.pointer (some ⟨s,0,none⟩)] W (pf s st W)
theorem dF {x:Int}(h:0≤x∧x≤1099511627776):Rng x:=by unfold Rng;omega
theorem eM.fin {w w5 w7:World}{s:Nat}{n:Nat→Int}{cs:Array Value}{st:Option (List UInt8)}{m:bM}{b:Bool}{EA:Option Addr}{ec:Nat}{SA:Option Addr}{sc:Nat}(h:eM w w5 s cs st)
  (hn: ∀i,0≤n i∧n i≤1099511627776) (hm:m=⟨n 0,n 1,n 2,n 3,n 4,n 5,n 6,n 7,b,m.ents,m.snap⟩)
  (he:dZ w5 (fun b=>w.heap.size+3≤b∧b<w5.heap.size) EA m.ents) (hec:m.ents.length≤ec) (hen:EA=none→ec=0) (he8:m.ents.length≤8)
  (hb:cS w5 (fun b=>w.heap.size+3≤b∧b<w5.heap.size) SA m.snap) (hsc:m.snap.length≤sc) (hsn:SA=none→sc=0) (hs6:sc≤9223372036854775807) (hs8:m.snap.length≤65536)
  (ho:au w5 w7 (w.heap.size+1)) (hz:w7.heap.size=w5.heap.size):
  wO m st s w (.returned (.agg #[.int .i64 (n 0),.int .i64 (n 1),.int .i64 (n 2),.int .i64 (n 3),.int .i64 (n 4),.int .i64 (n 5),.int .i64 (n 6),.int .i64 (n 7),.bool b,.slice EA m.ents.length ec,.slice SA m.snap.length sc])) w7:=by
 have hk: ∀b,(w.heap.size+3≤b∧b<w5.heap.size)→w7.heap[b]? =w5.heap[b]? :=ch ho fun b hb=>⟨hb.2,by have:=hb.1;omega⟩;have hN: ∀b,(w.heap.size+3≤b∧b<w5.heap.size)→dB w.heap.size w7 b:=fun b hb=>⟨by have:=hb.1;omega,by rw[hz];exact hb.2⟩;have s0:=h.s0;refine⟨EA,ec,SA,sc,?_,⟨dC.imp dj (dC.keep dj he hk) hN,hec,hen,by omega,(hb.keep hk).imp hN,hsc,hsn,hs6,by omega,?_,?_,?_,?_,?_,?_,?_,?_⟩,h.src.of (mm ho h.src.lt (by omega)),eF h.only ho (by omega)⟩
 ·rw[hm]
 all_goals(rw[hm];exact dF (hn _))
theorem eO (w:World)(S:Nat→Prop)(A:Option Addr):cS w S A []:=fun h=>absurd h (by simp)
theorem gi (w:World)(S:Nat→Prop)(A:Option Addr):dZ w S A []:=fun h=>absurd h (by simp)
theorem ul (s:Nat)(st:Option (List UInt8))(w:World)(hs:aN w s st)(hre:bJ (rdM st).1.kind=true→pB):Calls Tryz.prog 32 #[.pointer (some ⟨s,0,none⟩)] w (wO (rdM st).1 (rdM st).2 s w):=by
 obtain⟨w1,hw1⟩: ∃W,W=((w.alloc (.cells #[.pointer (some ⟨s,0,none⟩)] 59)).alloc (.cells #[.int .i64 0,.int .i64 0,.int .i64 0,.int .i64 0,.int .i64 0,.int .i64 0,.int .i64 0,.int .i64 0,.bool false,.slice none 0 0,.slice none 0 0] 25)).alloc (.cells #[.int .i64 0,.int .i64 0,.int .i64 0,.int .i64 0,.int .i64 0,.int .i64 0,.int .i64 0,.int .i64 0,.bool false,.slice none 0 0,.slice none 0 0] 25):=⟨_,rfl⟩;have H1:=hid (show eM w w1 s (aR (ai st 0).1 (.bool false) (.slice none 0 0) (.slice none 0 0)) (ai st 0).2 by rw[hw1];exact eM.start hs);have HR0:=hid (kN st);have HRE:Hid (bJ ((ai st 8).1 0)=true→pB):=hid (by rw[kN]at hre;exact hre);have HSR:=hid (kL st 8);have hmf: ∀(fn:Fn) (first cap:Array Value) (w:World),(Instr.makeFunc fn first cap).run Tryz.prog w= .ok (.func fn first cap) w:=fun _ _ _ _=>rfl;clear hs hre;go_enter Tryz.func32,Tryz.ntmps32;go_wp2_with fail;rw[←hw1];clear hw1;refine(mV (w.heap.size+2) w1).mono ?_;rintro e w2 ⟨rfl,hb⟩;have H2:=hid (H1.out.below hb);clear hb H1;unfold mw;go_wp2_with fail
 go_loopw [10] (fun i wr=> ∃j:Nat,i= .int .i64 j∧j≤3∧Hid (eM w wr s (aR (ai st j).1 (.bool false) (.slice none 0 0) (.slice none 0 0)) (ai st j).2)) (fun i _=>3 - (intOf i).toNat)
 case atStart=>exact⟨0,rfl,by omega,H2⟩
 case round=>
  clear H2;obtain⟨j,rfl,hj,HI⟩:=hrel;by_cases hlt:j<3
  ·have hix:=tn (w.heap.size+2) j hlt wr;have y0:wr.cell? ⟨w.heap.size,0,none⟩=some (.pointer (some ⟨s,0,none⟩)):=cell_of_block HI.out.var 0;have HB:=hid (ft s (ai st j).2 wr HI.out.src)
   have HRJ:Hid (ai st (j+1)=(upd (ai st j).1 j ((ak (ai st j).2).1:Int),(ak (ai st j).2).2)):=hid (by
    show(upd (ai st j).1 j ((gE j ((ai st j).1 0) (ai st j).2).1:Int),(gE j ((ai st j).1 0) (ai st j).2).2)=_;unfold gE
    rw[if_pos hlt])
   go_wp2_with fail;refine HB.out.mono ?_;rintro e w3 ⟨rfl,hs3,ho3⟩;have HI3:=hid (HI.out.call ho3 hs3);obtain⟨v,hv⟩: ∃v:Int,v=((ak (ai st j).2).1:Int):=⟨_,rfl⟩;rw[←hv]at HRJ ⊢;have HCU:=hid (bN (ai st j).1 j v (.bool false) (.slice none 0 0) (.slice none 0 0) (by omega));have HJ:=hid hlt;clear y0 hix HB hs3 ho3 hv HI;go_wp2_with(refine ah (by rfl) 3 _ _ rfl rfl (w.heap.size+2) j rfl (.int .i64 v) #[.int .i64 v] rfl rfl _ (aR (upd (ai st j).1 j v) (.bool false) (.slice none 0 0) (.slice none 0 0)) 25 HI3.out.box (by have:=HJ.out;show j+1≤11;omega) (by kernel_rfl) (by simp[Value.oneCell']) HCU.out ?_;intro w6 h6 ho6 hz6;have HI6:=hid (HI3.out.store h6 ho6);clear h6 ho6 hz6)
   go_roundw
   case rel=>exact⟨j+1,by go_num,by omega,hid (by rw[HRJ.out];exact HI6.out)⟩
   case measure=>simp[intOf];omega
  ·obtain rfl:j=3:=by omega
   clear hj hlt;have y0:wr.cell? ⟨w.heap.size,0,none⟩=some (.pointer (some ⟨s,0,none⟩)):=cell_of_block HI.out.var 0;have HC:=hid (cD s (ai st 3).2 1099511627776 wr HI.out.src (by omega));go_wp2_with fail;refine HC.out.mono ?_;rintro e w3 ⟨rfl,hs3,ho3⟩;have HI3:=hid (HI.out.call ho3 hs3);obtain⟨v,hv⟩: ∃v:Int,v=((ae 1099511627776 (ai st 3).2).1:Int):=⟨_,rfl⟩;rw[←hv];have HCU:=hid (bN (ai st 3).1 3 v (.bool false) (.slice none 0 0) (.slice none 0 0) (by omega));have H4:Hid (ai st 4=(upd (ai st 3).1 3 v,(ae 1099511627776 (ai st 3).2).2)):=hid (by rw[hv];rfl);clear y0 HC hs3 ho3 hv HI;go_wp2_with(refine ah (by rfl) 3 _ _ rfl rfl (w.heap.size+2) 3 rfl (.int .i64 v) #[.int .i64 v] rfl rfl _ (aR (upd (ai st 3).1 3 v) (.bool false) (.slice none 0 0) (.slice none 0 0)) 25 HI3.out.box (by show 3+1≤11;omega) (by kernel_rfl) (by simp[Value.oneCell']) HCU.out ?_;intro w6 h6 ho6 hz6;have HI6:Hid (eM w w6 s (aR (ai st 4).1 (.bool false) (.slice none 0 0) (.slice none 0 0)) (ai st 4).2):=hid (by rw[H4.out];exact HI3.out.store h6 ho6);have y0:w6.cell? ⟨w.heap.size+2,0,none⟩=some (.int .i64 ((ai st 4).1 0)):=cell_of_block HI6.out.box 0;clear h6 ho6 hz6);clear HI3 HCU H4;obtain⟨k,hk⟩: ∃k,k=(ai st 4).1 0:=⟨_,rfl⟩;rw[←hk];refine(gS k _).mono ?_;rintro e w7 ⟨rfl,rfl⟩;have HE:=hid (nF w s st (bl k) w7 HI6.out (by rw[hk]));have HK8:Hid (k=(ai st 8).1 0):=hid (by rw[hk,show(ai st 4).1 0=(ai st 1).1 0 from bq st 3,show(ai st 8).1 0=(ai st 1).1 0 from bq st 7]);clear y0 hk;go_wp2_with fail;refine HE.out.mono ?_
   rintro e w8 ⟨rfl,h8⟩;have H8:=hid h8;clear h8 HE HI6;obtain⟨n,hn⟩: ∃n,n=(ai st 8).1:=⟨_,rfl⟩;obtain⟨st8,hst8⟩: ∃x,x=(ai st 8).2:=⟨_,rfl⟩;have HM:Hid (rdM st=fQ (n,st8)):=hid (by rw[HR0.out,hn,hst8]);have hk8:=HK8.out;rw[←hn]at H8 HSR hk8 HRE;rw[←hk8]at HRE;clear HK8;rw[←hst8]at H8;clear hn hst8 HR0;have HH1:=hid (dm (bl k) 16);have HH2:=hid (dm (bl k) 32);have HH3:=hid (dm (bl k) 64);rw[sO]at HH1;rw[mG]at HH2;rw[mz]at HH3;have HOO:=hid (And.intro (tI k) (o0 k));obtain⟨b1,hb1⟩: ∃b,b=hOk k:=⟨_,rfl⟩;obtain⟨b2,hb2⟩: ∃b,b=bJ k:=⟨_,rfl⟩;obtain⟨b3,hb3⟩: ∃b,b=bZ k:=⟨_,rfl⟩;rw[←hb1]at HH1 HOO;rw[←hb2]at HH2 HOO HRE;rw[←hb3]at HH3 HOO;have HB123:Hid (hOk (n 0)=b1∧bJ (n 0)=b2∧bZ (n 0)=b3):=hid (by rw[←hk8];exact⟨hb1.symm,hb2.symm,hb3.symm⟩);clear hb1 hb2 hb3 hk8;obtain⟨L,hL⟩: ∃L,L=bl k:=⟨_,rfl⟩;rw[←hL]at HH1 HH2 HH3 ⊢;clear hL
   cases b1 with
   |true=>
    obtain rfl:b2=false:=(HOO.out.1 rfl).1;obtain rfl:b3=false:=(HOO.out.1 rfl).2;go_wp2_with fail;refine(HH1.out _).mono ?_;rintro e w9 ⟨rfl,rfl⟩;have y0:w9.cell? ⟨w.heap.size,0,none⟩=some (.pointer (some ⟨s,0,none⟩)):=cell_of_block H8.out.var 0;have HC:=hid (qU s st8 w9 H8.out.src);go_wp2_with fail;refine HC.out.mono ?_;rintro e w10 ⟨rfl,hs3,ho3⟩;have H10:=hid (H8.out.call ho3 hs3)
    have HE:Hid (rdM st=(⟨n 0,n 1,n 2,n 3,n 4,n 5,n 6,n 7,(fh st8).1,[],[]⟩,(fh st8).2)):=hid (by
     rw[HM.out];unfold fQ bG;dsimp only;rw[HB123.out.1,HB123.out.2.1,HB123.out.2.2];rfl)
    obtain⟨x,hx⟩: ∃x,x=(fh st8).1:=⟨_,rfl⟩;obtain⟨st9,hst9⟩: ∃x,x=(fh st8).2:=⟨_,rfl⟩;rw[←hx]at HE ⊢;rw[←hst9]at HE H10;clear hx hst9 hs3 ho3 y0 HC H8;go_wp2_with(refine ah (by rfl) 4 _ _ rfl rfl (w.heap.size+2) 8 rfl (.bool x) #[.bool x] rfl rfl _ #[.int .i64 (n 0),.int .i64 (n 1),.int .i64 (n 2),.int .i64 (n 3),.int .i64 (n 4),.int .i64 (n 5),.int .i64 (n 6),.int .i64 (n 7),.bool x,.slice none 0 0,.slice none 0 0] 25 H10.out.box (by show 8+1≤11;omega) (by kernel_rfl) (by simp[Value.oneCell']) rfl ?_;intro w6 h6 ho6 hz6;have HI6:=hid (H10.out.store h6 ho6);clear h6 ho6 hz6);refine(HH2.out _).mono ?_;rintro e w11 ⟨rfl,rfl⟩;go_wp2_with fail;refine(HH3.out _).mono ?_;rintro e w12 ⟨rfl,rfl⟩;go_wp2_with(first|(refine aw (by rfl) _ rfl (w.heap.size+2) rfl _ _ HI6.out.box rfl ?_;simp only[acR,Act.put])|(refine ah (by rfl) 25 _ _ rfl rfl (w.heap.size+1) 0 rfl _ #[.int .i64 (n 0),.int .i64 (n 1),.int .i64 (n 2),.int .i64 (n 3),.int .i64 (n 4),.int .i64 (n 5),.int .i64 (n 6),.int .i64 (n 7),.bool x,.slice none 0 0,.slice none 0 0] rfl rfl _ #[.int .i64 (n 0),.int .i64 (n 1),.int .i64 (n 2),.int .i64 (n 3),.int .i64 (n 4),.int .i64 (n 5),.int .i64 (n 6),.int .i64 (n 7),.bool x,.slice none 0 0,.slice none 0 0] 25 HI6.out.res (by simp) (by kernel_rfl) (by simp[Value.oneCell']) (by kernel_rfl) ?_;intro w7 hk ho hz;have HK7:=hid hk;have HO7:=hid (And.intro ho hz);clear hk ho hz));refine bodyPost_ret (results_cell_row rfl _ _ (w.heap.size+1) 25 _ (0,0) _ rfl HK7.out Tryz.underlying25 rfl (by kernel_rfl)) rfl ?_
    rw[HE.out]
    exact eM.fin (m:=⟨n 0,n 1,n 2,n 3,n 4,n 5,n 6,n 7,x,[],[]⟩) HI6.out HSR.out rfl (gi _ _ _) (Nat.zero_le _) (fun _=>rfl) (Nat.zero_le _) (eO _ _ _) (Nat.zero_le _) (fun _=>rfl) (Nat.zero_le _) (Nat.zero_le _) HO7.out.1 HO7.out.2
   |false=>
    go_wp2_with fail;refine(HH1.out _).mono ?_;rintro e w9 ⟨rfl,rfl⟩
    cases b2 with
    |true=>
     obtain rfl:b3=false:=HOO.out.2 rfl;go_wp2_with fail;refine(HH2.out _).mono ?_;rintro e w10 ⟨rfl,rfl⟩;have y0:w10.cell? ⟨w.heap.size,0,none⟩=some (.pointer (some ⟨s,0,none⟩)):=cell_of_block H8.out.var 0;have HC:=hid (HRE.out (by first|rfl|exact trivial) s st8 w10 H8.out.src);go_wp2_with fail;refine HC.out.mono ?_;rintro e w11 ⟨A,c,rfl,he,hnil,hc,hs3,ho3⟩;have H10:=hid (H8.out.call ho3 hs3)
     have HE:Hid (rdM st=(⟨n 0,n 1,n 2,n 3,n 4,n 5,n 6,n 7,false,(gd st8).1,[]⟩,(gd st8).2)):=hid (by
      rw[HM.out];unfold fQ bG;dsimp only;rw[HB123.out.1,HB123.out.2.1,HB123.out.2.2];rfl)
     have HL8:=hid (wD st8);have HEN:Hid (dZ w11 (fun b=>w.heap.size+3≤b∧b<w11.heap.size) A (gd st8).1∧(gd st8).1.length≤c∧(A=none→c=0)):=hid ⟨dC.imp dj he fun b hb=>⟨by have:=hb.1;have:=H8.out.lt;omega,hb.2⟩,hc,hnil⟩;obtain⟨x,hx⟩: ∃x,x=(gd st8).1:=⟨_,rfl⟩;obtain⟨st9,hst9⟩: ∃x,x=(gd st8).2:=⟨_,rfl⟩;rw[←hx]at HE HL8 HEN ⊢;rw[←hst9]at HE H10;clear hx hst9 hs3 ho3 y0 HC H8 he hnil hc;go_wp2_with(refine ah (by rfl) 22 _ _ rfl rfl (w.heap.size+2) 9 rfl (.slice A x.length c) #[.slice A x.length c] rfl rfl _ #[.int .i64 (n 0),.int .i64 (n 1),.int .i64 (n 2),.int .i64 (n 3),.int .i64 (n 4),.int .i64 (n 5),.int .i64 (n 6),.int .i64 (n 7),.bool false,.slice A x.length c,.slice none 0 0] 25 H10.out.box (by show 9+1≤11;omega) (by kernel_rfl) (by simp[Value.oneCell']) rfl ?_;intro w6 h6 ho6 hz6;have HI6:=hid (H10.out.store h6 ho6);have HEN6:=hid (And.intro (dC.imp dj (dC.keep dj HEN.out.1 (ch ho6 fun b hb=>⟨hb.2,by have:=hb.1;omega⟩)) (S':=fun b=>w.heap.size+3≤b∧b<w6.heap.size) fun b hb=>⟨hb.1,by rw[hz6];exact hb.2⟩) HEN.out.2);clear h6 ho6 hz6);refine(HH3.out _).mono ?_;rintro e w12 ⟨rfl,rfl⟩;go_wp2_with(first|(refine aw (by rfl) _ rfl (w.heap.size+2) rfl _ _ HI6.out.box rfl ?_;simp only[acR,Act.put])|(refine ah (by rfl) 25 _ _ rfl rfl (w.heap.size+1) 0 rfl _ #[.int .i64 (n 0),.int .i64 (n 1),.int .i64 (n 2),.int .i64 (n 3),.int .i64 (n 4),.int .i64 (n 5),.int .i64 (n 6),.int .i64 (n 7),.bool false,.slice A x.length c,.slice none 0 0] rfl rfl _ #[.int .i64 (n 0),.int .i64 (n 1),.int .i64 (n 2),.int .i64 (n 3),.int .i64 (n 4),.int .i64 (n 5),.int .i64 (n 6),.int .i64 (n 7),.bool false,.slice A x.length c,.slice none 0 0] 25 HI6.out.res (by simp) (by kernel_rfl) (by simp[Value.oneCell']) (by kernel_rfl) ?_;intro w7 hk ho hz;have HK7:=hid hk;have HO7:=hid (And.intro ho hz);clear hk ho hz))
     refine bodyPost_ret (results_cell_row rfl _ _ (w.heap.size+1) 25 _ (0,0) _ rfl HK7.out Tryz.underlying25 rfl (by kernel_rfl)) rfl ?_;rw[HE.out]
     exact eM.fin (m:=⟨n 0,n 1,n 2,n 3,n 4,n 5,n 6,n 7,false,x,[]⟩) HI6.out HSR.out rfl HEN6.out.1 HEN6.out.2.1 HEN6.out.2.2 HL8.out (eO _ _ _) (Nat.zero_le _) (fun _=>rfl) (Nat.zero_le _) (Nat.zero_le _) HO7.out.1 HO7.out.2
    |false=>
     go_wp2_with fail;refine(HH2.out _).mono ?_;rintro e w10 ⟨rfl,rfl⟩
     cases b3 with
     |false=>
      have HE:Hid (rdM st=(⟨n 0,n 1,n 2,n 3,n 4,n 5,n 6,n 7,false,[],[]⟩,st8)):=hid (by
       rw[HM.out];unfold fQ bG;dsimp only;rw[HB123.out.1,HB123.out.2.1,HB123.out.2.2];rfl)
      go_wp2_with fail;refine(HH3.out _).mono ?_;rintro e w11 ⟨rfl,rfl⟩;have HI6:Hid (eM w w11 s #[.int .i64 (n 0),.int .i64 (n 1),.int .i64 (n 2),.int .i64 (n 3),.int .i64 (n 4),.int .i64 (n 5),.int .i64 (n 6),.int .i64 (n 7),.bool false,.slice none 0 0,.slice none 0 0] st8):=hid H8.out;go_wp2_with(first|(refine aw (by rfl) _ rfl (w.heap.size+2) rfl _ _ HI6.out.box rfl ?_;simp only[acR,Act.put])|(refine ah (by rfl) 25 _ _ rfl rfl (w.heap.size+1) 0 rfl _ #[.int .i64 (n 0),.int .i64 (n 1),.int .i64 (n 2),.int .i64 (n 3),.int .i64 (n 4),.int .i64 (n 5),.int .i64 (n 6),.int .i64 (n 7),.bool false,.slice none 0 0,.slice none 0 0] rfl rfl _ #[.int .i64 (n 0),.int .i64 (n 1),.int .i64 (n 2),.int .i64 (n 3),.int .i64 (n 4),.int .i64 (n 5),.int .i64 (n 6),.int .i64 (n 7),.bool false,.slice none 0 0,.slice none 0 0] 25 HI6.out.res (by simp) (by kernel_rfl) (by simp[Value.oneCell']) (by kernel_rfl) ?_;intro w7 hk ho hz;have HK7:=hid hk;have HO7:=hid (And.intro ho hz);clear hk ho hz));refine bodyPost_ret (results_cell_row rfl _ _ (w.heap.size+1) 25 _ (0,0) _ rfl HK7.out Tryz.underlying25 rfl (by kernel_rfl)) rfl ?_;rw[HE.out]
      exact eM.fin (m:=⟨n 0,n 1,n 2,n 3,n 4,n 5,n 6,n 7,false,[],[]⟩) HI6.out HSR.out rfl (gi _ _ _) (Nat.zero_le _) (fun _=>rfl) (Nat.zero_le _) (eO _ _ _) (Nat.zero_le _) (fun _=>rfl) (Nat.zero_le _) (Nat.zero_le _) HO7.out.1 HO7.out.2
     |true=>
      go_wp2_with fail;refine(HH3.out _).mono ?_;rintro e w11 ⟨rfl,rfl⟩;have y0:w11.cell? ⟨w.heap.size,0,none⟩=some (.pointer (some ⟨s,0,none⟩)):=cell_of_block H8.out.var 0;have HC:=hid (dr s st8 65536 w11 H8.out.src (by omega))
      have HE:Hid (rdM st=(⟨n 0,n 1,n 2,n 3,n 4,n 5,n 6,n 7,false,[],(am 65536 st8).1⟩,(am 65536 st8).2)):=hid (by
       rw[HM.out];unfold fQ bG;dsimp only;rw[HB123.out.1,HB123.out.2.1,HB123.out.2.2];rfl)
      have HL8:=hid (bD 65536 st8 (by omega));go_wp2_with fail;refine HC.out.mono ?_;rintro e w12 ⟨rfl,hs3,ho3⟩;have H10:=hid (H8.out.call ho3 hs3);obtain⟨x,hx⟩: ∃x,x=(am 65536 st8).1:=⟨_,rfl⟩;obtain⟨st9,hst9⟩: ∃x,x=(am 65536 st8).2:=⟨_,rfl⟩;rw[←hx]at HE ⊢;rw[←hst9]at HE H10;have hlx:x.length≤65536:=by rw[hx];exact HL8.out
      obtain⟨A,c,w13,hcv,hb13,hr1,hr2,hr3,hz13⟩:=oE x (by omega) w12;have H13:=hid (H10.out.below hb13);have HSN:Hid (cS w13 (fun b=>w.heap.size+3≤b∧b<w13.heap.size) A x∧x.length≤c∧(A=none→c=0)∧c≤9223372036854775807∧x.length≤65536):=hid ⟨hr3.imp fun b hb=>⟨by have:=H10.out.lt;omega,by omega⟩,hr1,hr2.2,hr2.1,hlx⟩;clear hx hst9 hs3 ho3 y0 HC H8 HL8 hlx hb13 hz13 hr1 hr2 hr3;go_wp2_with(first|(refine ah (by rfl) 23 _ _ rfl rfl (w.heap.size+2) 10 rfl (.slice A x.length c) #[.slice A x.length c] rfl rfl _ #[.int .i64 (n 0),.int .i64 (n 1),.int .i64 (n 2),.int .i64 (n 3),.int .i64 (n 4),.int .i64 (n 5),.int .i64 (n 6),.int .i64 (n 7),.bool false,.slice none 0 0,.slice A x.length c] 25 H13.out.box (by show 10+1≤11;omega) (by kernel_rfl) (by simp[Value.oneCell']) rfl ?_;intro w6 h6 ho6 hz6;have HI6:=hid (H13.out.store h6 ho6);have HSN6:=hid (And.intro ((HSN.out.1.keep (ch ho6 fun b hb=>⟨hb.2,by have:=hb.1;omega⟩)).imp (S':=fun b=>w.heap.size+3≤b∧b<w6.heap.size) fun b hb=>⟨hb.1,by rw[hz6];exact hb.2⟩) HSN.out.2);clear h6 ho6 hz6)|(refine aw (by rfl) _ rfl (w.heap.size+2) rfl _ _ HI6.out.box rfl ?_;simp only[acR,Act.put])|(refine ah (by rfl) 25 _ _ rfl rfl (w.heap.size+1) 0 rfl _ #[.int .i64 (n 0),.int .i64 (n 1),.int .i64 (n 2),.int .i64 (n 3),.int .i64 (n 4),.int .i64 (n 5),.int .i64 (n 6),.int .i64 (n 7),.bool false,.slice none 0 0,.slice A x.length c] rfl rfl _ #[.int .i64 (n 0),.int .i64 (n 1),.int .i64 (n 2),.int .i64 (n 3),.int .i64 (n 4),.int .i64 (n 5),.int .i64 (n 6),.int .i64 (n 7),.bool false,.slice none 0 0,.slice A x.length c] 25 HI6.out.res (by simp) (by kernel_rfl) (by simp[Value.oneCell']) (by kernel_rfl) ?_;intro w7 hk ho hz;have HK7:=hid hk;have HO7:=hid (And.intro ho hz);clear hk ho hz))
      refine bodyPost_ret (results_cell_row rfl _ _ (w.heap.size+1) 25 _ (0,0) _ rfl HK7.out Tryz.underlying25 rfl (by kernel_rfl)) rfl ?_;rw[HE.out];exact eM.fin (m:=⟨n 0,n 1,n 2,n 3,n 4,n 5,n 6,n 7,false,[],x⟩) HI6.out HSR.out rfl (gi _ _ _) (Nat.zero_le _) (fun _=>rfl) (Nat.zero_le _) HSN6.out.1 HSN6.out.2.1 HSN6.out.2.2.1 HSN6.out.2.2.2.1 HSN6.out.2.2.2.2 HO7.out.1 HO7.out.2
theorem tK :pB:=fun s st W h=>nI s st W h
def cM :bM:=⟨0,0,0,0,0,0,0,0,false,[],[]⟩
def dp (l:List UInt8):Int:=if bX (rdM (some l)).2=0∧cx (rdM (some l)).1=true then 0 else 10
def cG (l:List UInt8):bM:=if bX (rdM (some l)).2=0∧cx (rdM (some l)).1=true then(rdM (some l)).1 else cM
def yq (m:bM)(c:Int)(w:World)(q:Ending)(w':World):Prop:= ∃EA ec SA sc,q= .returned (.tuple #[.agg #[.int .i64 m.kind,.int .i64 m.frm,.int .i64 m.tgt,.int .i64 m.term,.int .i64 m.index,.int .i64 m.logTerm,.int .i64 m.commit,.int .i64 m.round,.bool m.ok,.slice EA m.ents.length ec,.slice SA m.snap.length sc],.int .i64 c])∧bF w' (dB w.heap.size w') m EA ec SA sc∧Below w.heap.size w w'
theorem kq (w:World)(S:Nat→Prop):bF w S cM none 0 none 0:=
 ⟨gi _ _ _,Nat.le_refl _,fun _=>rfl,Nat.zero_le _,eO _ _ _,Nat.le_refl _,fun _=>rfl,Nat.zero_le _,Nat.zero_le _,dF (by decide),dF (by decide),dF (by decide),dF (by decide),dF (by decide),dF (by decide),dF (by decide),dF (by decide)⟩
theorem aC {fn:Func}{p u:Tmp}(h:fn.results= #[.cell p 25,.tmp u])(tmps:Array Value)(w:World)(g:Nat)(t:TypeId)(cs:Array Value)(fr:Nat×Nat)
  (hp:tmps.getD p undef= .pointer (some ⟨g,0,none⟩)) (hg:w.heap[g]? =some (.cells cs t fr)) (hn:cs.size=11):
  (results fn tmps).run Tryz.prog w= .ok (.tuple #[.agg cs,tmps.getD u undef]) w:=by
 rw[results_cell_tmp h,hp];have e:(asAddr (.pointer (some ⟨g,0,none⟩))).run Tryz.prog w= .ok ⟨g,0,none⟩ w:=by simp[asAddr]
 rw[e];simp only[Result.andThen];rw[run_loadVar_row w g t 25 cs fr _ hg Tryz.underlying25 rfl (by rw[hn];kernel_rfl)]
theorem i7 (v:Value)(l:List UInt8)(w:World)(hr:Rd w w.heap.size v l)(hl:l.length≤9223372036854775807)(hre:bJ (rdM (some l)).1.kind=true→pB)(hsm: ∀e∈(rdM (some l)).1.ents,SmE e):Calls Tryz.prog 14 #[v] w (yq (cG l) (dp l) w):=by
 obtain⟨A,cap,hv,-⟩:=id hr;obtain⟨w0,hw0⟩: ∃W,W=w.alloc (.cells #[.int .i64 0,.int .i64 0,.int .i64 0,.int .i64 0,.int .i64 0,.int .i64 0,.int .i64 0,.int .i64 0,.bool false,.slice none 0 0,.slice none 0 0] 25):=⟨_,rfl⟩;have hz0:w0.heap[w.heap.size]? =some (.cells #[.int .i64 0,.int .i64 0,.int .i64 0,.int .i64 0,.int .i64 0,.int .i64 0,.int .i64 0,.int .i64 0,.bool false,.slice none 0 0,.slice none 0 0] 25 (0,0)):=by rw[hw0];exact heap_alloc_new w _
 have hb0:Below w.heap.size w w0:=by rw[hw0];exact af _
 have hsz0:w0.heap.size=w.heap.size+1:=by rw[hw0];simp
 have hc:(convert 23 9 v).run Tryz.prog w0= .ok (.string ⟨l.toArray⟩) w0:=(hr.keep hb0).strY;have HC:=hid hc;have HB0:=hid hb0;have HZ0:=hid hz0;have HSZ:=hid hsz0;have HL:=hid hl;clear hb0 hr hz0 hsz0 hc hv hl;obtain⟨M,hM⟩: ∃M,M=(rdM (some l)).1:=⟨_,rfl⟩;obtain⟨st2,hst2⟩: ∃s,s=(rdM (some l)).2:=⟨_,rfl⟩;have HSM:Hid (∀e∈M.ents,SmE e):=hid (by rw[hM];exact hsm);have HRE:=hid hre;clear hsm hre;have HDEF:Hid (dp l=(if bX st2=0∧cx M=true then 0 else 10)∧cG l=if bX st2=0∧cx M=true then M else cM):=hid (by rw[hM,hst2];exact⟨rfl,rfl⟩);go_enter Tryz.func14,Tryz.ntmps14;go_wp2_with fail;rw[←hw0];clear hw0;refine(vF v _ _ HC.out).mono ?_;rintro q w1 ⟨rfl,hs1,hb1⟩;have hsl:aN w1 w0.heap.size (some l):=⟨hs1,HL.out⟩;have HC1:=hid (ul w0.heap.size (some l) w1 hsl HRE.out);have HX1:Hid (Below w.heap.size w w1∧w1.heap[w.heap.size]? =some (.cells #[.int .i64 0,.int .i64 0,.int .i64 0,.int .i64 0,.int .i64 0,.int .i64 0,.int .i64 0,.int .i64 0,.bool false,.slice none 0 0,.slice none 0 0] 25 (0,0))∧w0.heap.size<w1.heap.size):=hid ⟨HB0.out.trans (hb1.mono (by have:=HSZ.out;omega)),(hb1.block _ (by have:=HSZ.out;omega)).trans HZ0.out,hsl.lt⟩;clear hs1 hb1 hsl HC HB0 HZ0 HL;go_wp2_with fail;refine HC1.out.mono ?_;rintro q w2 hrd;rw[←hM,←hst2]at hrd;clear hM hst2;obtain⟨EA,ec,SA,sc,rfl,hat,hs2,ho2⟩:=hrd;obtain⟨w3,hw3⟩: ∃W,W=w2.alloc (.cells #[.int .i64 M.kind,.int .i64 M.frm,.int .i64 M.tgt,.int .i64 M.term,.int .i64 M.index,.int .i64 M.logTerm,.int .i64 M.commit,.int .i64 M.round,.bool M.ok,.slice EA M.ents.length ec,.slice SA M.snap.length sc] 25):=⟨_,rfl⟩
 have hb3:Below w2.heap.size w2 w3:=by rw[hw3];exact af _
 have HK3:Hid (ct w3 w2.heap.size M EA ec SA sc):=hid (by rw[hw3];exact heap_alloc_new w2 _);have hgl:=HX1.out.2.2;have hsz:=ho2.size;have hss:=HSZ.out;have hsz3:w3.heap.size=w2.heap.size+1:=by rw[hw3];simp
 have hbw:Below w.heap.size w1 w2:=⟨ho2.os,ho2.tape,ho2.output,ho2.size,fun k hk=>ho2.block k (by have:=HX1.out.1.size;omega) (by rintro⟨⟩;omega)⟩
 have HX3:Hid (bF w3 (fun b=>w1.heap.size≤b∧b<w2.heap.size) M EA ec SA sc∧aN w3 w0.heap.size st2∧Below w.heap.size w w3∧w3.heap[w.heap.size]? =some (.cells #[.int .i64 0,.int .i64 0,.int .i64 0,.int .i64 0,.int .i64 0,.int .i64 0,.int .i64 0,.int .i64 0,.bool false,.slice none 0 0,.slice none 0 0] 25 (0,0))∧w.heap.size<w1.heap.size∧w1.heap.size≤w2.heap.size∧w3.heap.size=w2.heap.size+1):=hid
  ⟨hat.keep fun b hb=>hb3.block b hb.2,hs2.of (hb3.block _ (by omega)),(HX1.out.1.trans hbw).trans (hb3.mono (by have:=HX1.out.1.size;omega)),(hb3.block _ (by omega)).trans ((ho2.block _ (by omega) (by intro e;injection e;omega)).trans HX1.out.2.1),by omega,hsz,hsz3⟩
 clear hs2 ho2 hat hb3 hgl hsz hss hsz3 hbw HX1 HC1;go_wp2_with fail;rw[←hw3];clear hw3;refine(wk _ _ _ HX3.out.2.1).mono ?_;rintro q u ⟨rfl,hw⟩;subst hw;obtain⟨x,hx⟩: ∃x,x=bX st2:=⟨_,rfl⟩;rw[←hx];rw[←hx]at HDEF;clear hx;by_cases h0:x=0
 ·have HMY:=hid (m6 _ M EA ec SA sc w3 (fun b hb=>by have:=HX3.out.2.2.2.2.2.2;have:=hb.2;omega) HX3.out.1 HSM.out);have HD2:Hid (dp l=(if cx M=true then 0 else 10)∧cG l=if cx M=true then M else cM):=hid (by have h:=HDEF.out;simp only[h0,true_and]at h;exact h);clear HDEF;subst h0;go_wp2_with(refine aw (by rfl) _ rfl w2.heap.size rfl _ _ HK3.out rfl ?_;simp only[acR,Act.put]);refine HMY.out.mono ?_;rintro q w4 ⟨rfl,hb⟩;have HK4:=hid (HK3.out.below hb)
  have HX4:Hid (bF w4 (fun b=>w1.heap.size≤b∧b<w2.heap.size) M EA ec SA sc∧Below w.heap.size w w4∧w4.heap[w.heap.size]? =some (.cells #[.int .i64 0,.int .i64 0,.int .i64 0,.int .i64 0,.int .i64 0,.int .i64 0,.int .i64 0,.int .i64 0,.bool false,.slice none 0 0,.slice none 0 0] 25 (0,0))∧w.heap.size<w1.heap.size∧w2.heap.size+1≤w4.heap.size):=hid (by
   obtain⟨h1,h2,h3,h4,h5,h6,h7⟩:=HX3.out
   exact⟨h1.keep fun b hb'=>hb.block b (by have:=hb'.2;omega),h3.trans (hb.mono h3.size),(hb.block _ (by omega)).trans h4,h5,by have:=hb.size;omega⟩)
  clear hb HMY HK3 HX3
  cases hm:cx M with
  |false=>
   have HF:Hid (dp l=10∧cG l=cM):=hid (by
    rw[HD2.out.1,HD2.out.2,hm];exact⟨rfl,rfl⟩)
   clear hm HD2;go_wp2_with(refine ah (by rfl) 25 _ _ rfl rfl w.heap.size 0 rfl _ #[.int .i64 0,.int .i64 0,.int .i64 0,.int .i64 0,.int .i64 0,.int .i64 0,.int .i64 0,.int .i64 0,.bool false,.slice none 0 0,.slice none 0 0] rfl rfl _ #[.int .i64 0,.int .i64 0,.int .i64 0,.int .i64 0,.int .i64 0,.int .i64 0,.int .i64 0,.int .i64 0,.bool false,.slice none 0 0,.slice none 0 0] 25 HX4.out.2.2.1 (by simp) (by kernel_rfl) (by simp[Value.oneCell']) (by kernel_rfl) ?_;intro w6 hk ho hz;have HK6:=hid hk;have HO6:=hid (And.intro ho hz);clear hk ho hz);refine bodyPost_ret (aC rfl _ _ w.heap.size _ _ _ rfl HK6.out rfl) rfl ?_;rw[HF.out.1,HF.out.2]
   exact⟨none,0,none,0,rfl,kq _ _,fN HX4.out.2.1 HO6.out.1 HX4.out.2.1.size⟩
  |true=>
   have HF:Hid (dp l=0∧cG l=M):=hid (by
    rw[HD2.out.1,HD2.out.2,hm];exact⟨rfl,rfl⟩)
   clear hm HD2;go_wp2_with(first|(refine aw (by rfl) _ rfl w2.heap.size rfl _ _ HK4.out rfl ?_;simp only[acR,Act.put])|(refine ah (by rfl) 25 _ _ rfl rfl w.heap.size 0 rfl _ #[.int .i64 M.kind,.int .i64 M.frm,.int .i64 M.tgt,.int .i64 M.term,.int .i64 M.index,.int .i64 M.logTerm,.int .i64 M.commit,.int .i64 M.round,.bool M.ok,.slice EA M.ents.length ec,.slice SA M.snap.length sc] rfl rfl _ #[.int .i64 M.kind,.int .i64 M.frm,.int .i64 M.tgt,.int .i64 M.term,.int .i64 M.index,.int .i64 M.logTerm,.int .i64 M.commit,.int .i64 M.round,.bool M.ok,.slice EA M.ents.length ec,.slice SA M.snap.length sc] 25 HX4.out.2.2.1 (by simp) (by kernel_rfl) (by simp[Value.oneCell']) (by kernel_rfl) ?_;intro w6 hk ho hz;have HK6:=hid hk;have HO6:=hid (And.intro ho hz);clear hk ho hz));refine bodyPost_ret (aC rfl _ _ w.heap.size _ _ _ rfl HK6.out rfl) rfl ?_;rw[HF.out.1,HF.out.2];have hx:=HX4.out;have hz6:=HO6.out.2;obtain⟨-,q2,-,q4,q5⟩:=HX4.out;have q6:=q2.size;exact⟨EA,ec,SA,sc,rfl,(hx.1.keep (ch HO6.out.1 fun b hb=>⟨by have:=hb.2;omega,by have:=hb.1;omega⟩)).imp fun b hb=>⟨by have:=hb.1;omega,by have:=hb.2;omega⟩,fN hx.2.1 HO6.out.1 (by omega)⟩
 ·have h1:(x == 0)=false:=beq_false_of_ne h0;have h2:(x != 0)=true:=by simp[h0]
  have HF:Hid (dp l=10∧cG l=cM):=hid (by
   have hn: ¬(x=0∧cx M=true):=fun h=>h0 h.1
   rw[HDEF.out.1,HDEF.out.2,if_neg hn,if_neg hn];exact⟨rfl,rfl⟩)
  clear HDEF;go_wp2_with(refine ah (by rfl) 25 _ _ rfl rfl w.heap.size 0 rfl _ #[.int .i64 0,.int .i64 0,.int .i64 0,.int .i64 0,.int .i64 0,.int .i64 0,.int .i64 0,.int .i64 0,.bool false,.slice none 0 0,.slice none 0 0] rfl rfl _ #[.int .i64 0,.int .i64 0,.int .i64 0,.int .i64 0,.int .i64 0,.int .i64 0,.int .i64 0,.int .i64 0,.bool false,.slice none 0 0,.slice none 0 0] 25 HX3.out.2.2.2.1 (by simp) (by kernel_rfl) (by simp[Value.oneCell']) (by kernel_rfl) ?_;intro w6 hk ho hz;have HK6:=hid hk;have HO6:=hid (And.intro ho hz);clear hk ho hz);refine bodyPost_ret (aC rfl _ _ w.heap.size _ _ _ rfl HK6.out rfl) rfl ?_;rw[HF.out.1,HF.out.2];exact⟨none,0,none,0,rfl,kq _ _,fN HX3.out.2.2.1 HO6.out.1 HX3.out.2.2.1.size⟩
theorem ry (v:Value)(l:List UInt8)(w:World)(hr:Rd w w.heap.size v l)(hl:l.length≤9223372036854775807):Calls Tryz.prog 14 #[v] w (yq (cG l) (dp l) w):=
 i7 v l w hr hl (fun _=>tK) (sK (fun r hr=>by injection hr with hr;rw[←hr];exact hl))
end Go.Proofs.YtgfidiocmiolpaaGreat
/- Which messages may be, and which are too large, by the document. -/
namespace Go.Proofs.YtgfidiocmiolpaaGreat
open Lib (hid)
open Go.RowKit
theorem fH (x:Int)(c:Bool)(w:World):Calls Tryz.prog 24 #[.int .i64 x,.bool c] w fun e w'=>e= .returned (.bool (dT x c))∧w'=w:=by
 unfold dT;by_cases h0:0≤x;rotate_left
 ·have d1:decide (x≥0)=false:=decide_eq_false h0;rw[decide_eq_false h0];go_enter Tryz.func24,Tryz.ntmps24;go_wp2_with fail;go_ret;exact⟨rfl,rfl⟩
 have d1:decide (x≥0)=true:=decide_eq_true h0;by_cases h1:x≤1099511627776;rotate_left
 ·have d2:decide (x≤1099511627776)=false:=decide_eq_false h1
  have e:(decide (0≤x) && decide (x≤if c=true then 1099511627776 else 0))=false:=by
   rw[decide_eq_true h0];cases c<;>simp<;>omega
  rw[e];clear h0 h1 e;go_enter Tryz.func24,Tryz.ntmps24;go_wp2_with fail;go_ret;exact⟨rfl,rfl⟩
 have d2:decide (x≤1099511627776)=true:=decide_eq_true h1;cases c
 ·have e:(decide (0≤x) && decide (x≤if false=true then 1099511627776 else 0))=(x == 0):=by
   rw[decide_eq_true h0,Bool.eq_iff_iff];simp;omega
  rw[e];clear h0 h1 e;go_enter Tryz.func24,Tryz.ntmps24;go_wp2_with fail;go_ret;exact⟨rfl,rfl⟩
 ·have e:(decide (0≤x) && decide (x≤if true=true then 1099511627776 else 0))=true:=by
   rw[decide_eq_true h0];simpa using h1
  rw[e];clear h0 h1 e;go_enter Tryz.func24,Tryz.ntmps24;go_wp2_with fail;go_ret;exact⟨rfl,rfl⟩
theorem iV {fn:Func}{p u:Tmp}(h:fn.results= #[.cell p 51,.tmp u])(tmps:Array Value)(w:World)(g:Nat)(t:TypeId)(cs:Array Value)(fr:Nat×Nat)
  (hp:tmps.getD p undef= .pointer (some ⟨g,0,none⟩)) (hg:w.heap[g]? =some (.cells cs t fr)) (hn:cs.size=7):
  (results fn tmps).run Tryz.prog w= .ok (.tuple #[.agg cs,tmps.getD u undef]) w:=by
 rw[results_cell_tmp h,hp];have e:(asAddr (.pointer (some ⟨g,0,none⟩))).run Tryz.prog w= .ok ⟨g,0,none⟩ w:=by simp[asAddr]
 rw[e];simp only[Result.andThen];rw[run_loadVar_row w g t 51 cs fr _ hg Tryz.underlying51 rfl (by rw[hn];kernel_rfl)]
theorem nw (k:Int)(w:World):Calls Tryz.prog 23 #[.int .i64 k] w fun e w'=>e= .returned (.tuple #[.agg #[.bool (bw k),.bool (dG k),.bool (aY k),.bool (bI k),.bool (hOk k),.bool (bJ k),.bool (bZ k)],.bool (fS k)])∧Below w.heap.size w w':=by
 rcases gR k with rfl|rfl|rfl|rfl|rfl|⟨hk,h1,h2,h3,h4,h5⟩
 iterate 5
  ·go_enter Tryz.func23,Tryz.ntmps23;go_wp2_with fail;refine bodyPost_ret (iV rfl _ _ w.heap.size 51 _ (0,0) rfl (heap_alloc_new w _) rfl) rfl ?_;exact⟨rfl,af _⟩
 have e1:(k == 1)=false:=beq_false_of_ne h1;have e2:(k == 2)=false:=beq_false_of_ne h2;have e3:(k == 3)=false:=beq_false_of_ne h3;have e4:(k == 4)=false:=beq_false_of_ne h4;have e5:(k == 5)=false:=beq_false_of_ne h5
 have HH:Hid (bw k=false∧dG k=false∧aY k=false∧bI k=false∧hOk k=false∧bJ k=false∧bZ k=false):=hid (by
  unfold bw dG aY bI hOk bJ bZ;rw[decide_eq_false h1,decide_eq_false h2,decide_eq_false h3,decide_eq_false h4,decide_eq_false h5]
  decide)
 rw[HH.out.1,HH.out.2.1,HH.out.2.2.1,HH.out.2.2.2.1,HH.out.2.2.2.2.1,HH.out.2.2.2.2.2.1,HH.out.2.2.2.2.2.2,hk];clear h1 h2 h3 h4 h5 HH hk;go_enter Tryz.func23,Tryz.ntmps23;go_wp2_with fail;refine bodyPost_ret (iV rfl _ _ w.heap.size 51 _ (0,0) rfl (heap_alloc_new w _) rfl) rfl ?_;exact⟨rfl,af _⟩
end Go.Proofs.YtgfidiocmiolpaaGreat
