/- A value copied is owned. -/
import Derived.Test.YtgbopnlpaabelaaGreatDoorKRefO
import Derived.Test.YtgbopnlpaabelaaGreatDoorKMath
import Derived.Test.YtgbopnlpaabelaaGreatDoorKValF
import Derived.Deep.MidRow
set_option maxHeartbeats 64000000
set_option maxRecDepth 100000
set_option linter.unusedVariables false
set_option linter.unusedSimpArgs false
namespace Go.Proofs.YtgbopnlpaabelaaGreatDoor
open Lib (hid)
open Go.RowKit
def Iv (m n:Nat):Nat→Prop:=fun b=>m≤b∧b<n
def OVA (w:World)(F:Nat→Prop)(A:Option Addr)(c:Nat)(l:List VT):Prop:= ∃xs,w.ownsRow 0 25 5 (.slice A l.length c) l.length xs∧(∀a,A=some a→F a.block)∧OVs w (fun b=>F b∧ ∀a,A=some a→a.block≠b) l xs
def ONS (w:World)(F:Nat→Prop)(A:Option Addr)(c:Nat)(ns:List ByteArray):Prop:=w.ownsRow 0 9 1 (.slice A ns.length c) ns.length (ns.map Value.string)∧(∀a,A=some a→F a.block)∧ ∀s∈ns,s.size≤140737488351232
theorem OVA.keep {w w':World}{F:Nat→Prop}{A:Option Addr}{c:Nat}{l:List VT}(h:OVA w F A c l)(hk: ∀b,F b→w'.heap[b]? =w.heap[b]?):OVA w' F A c l:=by
 obtain⟨xs,h1,h2,h3⟩:=h;exact⟨xs,cf h1 fun a ha=>hk _ (h2 a ha),h2,h3.keep fun b hb=>hk b hb.1⟩
theorem OVA.imp {w:World}{F F':Nat→Prop}{A:Option Addr}{c:Nat}{l:List VT}(h:OVA w F A c l)(hF: ∀b,F b→F' b):OVA w F' A c l:=by
 obtain⟨xs,h1,h2,h3⟩:=h;exact⟨xs,h1,fun a ha=>hF _ (h2 a ha),h3.imp fun b hb=>⟨hF b hb.1,hb.2⟩⟩
theorem ONS.keep {w w':World}{F:Nat→Prop}{A:Option Addr}{c:Nat}{l:List ByteArray}(h:ONS w F A c l)(hk: ∀b,F b→w'.heap[b]? =w.heap[b]?):ONS w' F A c l:=
 ⟨cf h.1 fun a ha=>hk _ (h.2.1 a ha),h.2⟩
theorem ONS.imp {w:World}{F F':Nat→Prop}{A:Option Addr}{c:Nat}{l:List ByteArray}(h:ONS w F A c l)(hF: ∀b,F b→F' b):ONS w F' A c l:=⟨h.1,fun a ha=>hF _ (h.2.1 a ha),h.2.2⟩
theorem Aj (w:World)(F:Nat→Prop):OVA w F none 0 []:=⟨[],World.ownsRow_nil _ _ _ _,fun _ h=>(by cases h),jG _ _⟩
theorem Ad (w:World)(F:Nat→Prop):ONS w F none 0 []:=⟨World.ownsRow_nil _ _ _ _,fun _ h=>(by cases h),fun _ h=>absurd h (by simp)⟩
theorem tt {w:World}{B:Nat}{v:Value}{ns:List ByteArray}(h:w.ownsRow B 9 1 v ns.length (ns.map Value.string))(hs: ∀s∈ns,s.size≤140737488351232): ∃A c,v= .slice A ns.length c∧ONS w (Iv B w.heap.size) A c ns:=by
 obtain⟨h1,h2⟩:=h;rcases h2 with ⟨rfl,h2⟩|⟨g,cap,cur,rfl,hg,hh,r⟩
 ·exact⟨none,0,by rw[h2],⟨h1,.inl ⟨by rw[h2],h2⟩⟩,fun _ h=>(by cases h),hs⟩
 ·exact⟨_,_,rfl,⟨h1,.inr ⟨g,cap,cur,rfl,Nat.zero_le _,hh,r⟩⟩,fun a ha=>(by cases ha;exact⟨hg,(Array.getElem?_eq_some_iff.1 hh).1⟩),hs⟩
theorem ol (S:Nat→Prop)(A:Option Addr)(c:Nat)(ns:List ByteArray)(w:World)(h:ai w S A ns)(hl:ns.length≤8796093021952):
  Calls Tryz.prog 83 #[.slice A ns.length c] w fun e w'=> ∃A' c',e= .returned (.slice A' ns.length c')∧ONS w' (Iv w.heap.size w'.heap.size) A' c' ns∧Below w.heap.size w w':=by
 rcases ns with _|⟨n0,r⟩
 ·go_enter Tryz.func83,Tryz.ntmps83;go_wp2_with(at_builtin;go_must (refine ew rfl _ _ rfl rfl A c rfl ?_));go_ret;exact⟨none,0,rfl,Ad _ _,Below.refl _ _⟩
 ·obtain⟨b,off,rfl,hb,hc⟩:=h (by simp);generalize hns:n0::r=ns at *;obtain⟨i0,hi,hz0,hz1,hz2⟩:=info_parts Tryz.infoStr;have HL:=hid hl;have HC:=hid hc;clear hl hc h
  have hnw: ∀j u,(ns.map Value.string)[j]? =some u→w.cell? ((⟨b,off,none⟩:Addr).add j)=some u:=by
   intro j u hj;have hjl:j<ns.length:=by have:=(List.getElem?_eq_some_iff.1 hj).1;simpa using this
   rw[jL,(HC.out j hjl).1];simpa[List.getElem?_map,List.getElem?_eq_getElem hjl]using hj
  have HNW:=hid hnw;clear hnw;go_enter Tryz.func83,Tryz.ntmps83;go_wp2_with(at_builtin;go_must (refine wpList_append_own _ rfl _ _ 23 rfl w.heap.size 9 i0 (.string ⟨#[]⟩) 1 16 Tryz.underlying23 hi hz0 hz1 hz2 rfl (by decide) _ 0 [] rfl (World.ownsRow_nil _ _ _ _) ⟨b,off,none⟩ ns.length c (ns.map Value.string) rfl ?d0 HNW.out ?d1 ?d2 ?d3 ?d4 ?_));case d0=>simp
  case d1=>intro u hu;obtain⟨_,_,rfl⟩:=List.mem_map.1 hu;rfl
  case d2=>have:=HL.out;unfold maxLen;omega
  case d3=>have:=HL.out;omega
  case d4=>exact Nat.le_refl _
  intro v' w' hown hg _;obtain⟨A',c',rfl,hst⟩:=tt hown (fun s hs=>by obtain⟨i,hi,rfl⟩:=List.mem_iff_getElem.1 hs;exact(HC.out i hi).2);have HST:=hid hst;have HB:=hid (dD (B:=w.heap.size) hg (Nat.le_refl _) (fun k hk=>by cases hk));clear hown hg hst;go_wp2_with fail;go_ret;exact⟨_,_,rfl,HST.out,HB.out⟩
def oG (w:World)(G:Nat)(l:List VT)(f:Nat→Value)(j:Nat):Prop:= ∃Fs:Nat→Nat→Prop,(∀i i' b,i≠i'→Fs i b→Fs i' b→False)∧(∀i b,Fs i b→G<b∧b<w.heap.size)∧
 ∀i (h:i<l.length),i<j→OV w (Fs i) l[i] (.agg #[f (i * 5),f (i * 5+1),f (i * 5+2),f (i * 5+3),f (i * 5+4)])
theorem oG.next {w w3:World}{G j:Nat}{l:List VT}{f:Nat→Value}{v0 v1 v2 v3 v4:Value}(h:oG w G l f j)(hj:j<l.length)(hs:w.heap.size≤w3.heap.size)(hG:G<w.heap.size)(hb: ∀b,b<w.heap.size→b≠G→w3.heap[b]? =w.heap[b]?)
  (hx:OV w3 (Iv w.heap.size w3.heap.size) l[j] (.agg #[v0,v1,v2,v3,v4])):oG (fI w3 G (j * 5) v0 v1 v2 v3 v4) G l (mv f (j * 5) v0 v1 v2 v3 v4) (j+1):=by
 obtain⟨Fs,k1,k2,k3⟩:=h;refine⟨fun i b=>(i=j∧Iv w.heap.size w3.heap.size b)∨(i<j∧Fs i b),?_,?_,fun i hi hij=> ?_⟩
 ·rintro i i' b hne (⟨h1,h2⟩|⟨h1,h2⟩) (⟨h3,h4⟩|⟨h3,h4⟩)
  ·omega
  ·have:=(k2 _ _ h4).2;have:=h2.1;omega
  ·have:=(k2 _ _ h2).2;have:=h4.1;omega
  ·exact k1 i i' b hne h2 h4
 ·rintro i b (⟨h1,h2⟩|⟨h1,h2⟩)
  ·have:=h2.1;have:=h2.2;rw[dZ];omega
  ·have:=k2 _ _ h2;rw[dZ];omega
 ·have hkeep: ∀ {S:Nat→Prop} {t:VT} {v:Value},(∀b,S b→b≠G)→OV w3 S t v→OV (fI w3 G (j * 5) v0 v1 v2 v3 v4) S t v:=fun hS hv=>hv.keep fun b hb=>eJ v0 v1 v2 v3 v4 (hS b hb);by_cases e:i=j
  ·subst e;obtain⟨e0,e1,e2,e3,e4⟩:=rO f (i * 5) v0 v1 v2 v3 v4;rw[e0,e1,e2,e3,e4];exact(hkeep (fun b hb=>by have:=hb.1;omega) hx).imp fun b hb=> .inl ⟨rfl,hb⟩
  ·rw[dP (by omega),dP (by omega),dP (by omega),dP (by omega),dP (by omega)];have h1:=k3 i hi (by omega);have h2:=h1.keep (w':=w3) fun b hb'=>hb b (k2 _ _ hb').2 (by have:=(k2 _ _ hb').1;omega);exact(hkeep (fun b hb=>by have:=(k2 _ _ hb).1;omega) h2).imp fun b hb=> .inr ⟨by omega,hb⟩
theorem rs {w:World}{G:Nat}{l:List VT}{f:Nat→Value}(hr:w.rowIs G 25 (l.length * 5) f)(hp:oG w G l f l.length)(hl:l.length≤1759218604390):OVA w (fun b=>G≤b∧b<w.heap.size) (some ⟨G,0,none⟩) l.length l:=by
 obtain⟨cur,hh,hsz,hc⟩:=hr;obtain⟨Fs,k1,k2,k3⟩:=hp;have hG:=(Array.getElem?_eq_some_iff.1 hh).1;have hlen:cur.toList.length=l.length * 5:=by simpa using hsz
 refine⟨cur.toList,⟨hlen,.inr ⟨G,l.length,cur,rfl,Nat.zero_le _,hh,Nat.le_refl _,by unfold maxLen;omega,hsz,by rw[←hlen,List.take_length]⟩⟩,fun a ha=>(by cases ha;exact⟨Nat.le_refl _,hG⟩),?_⟩;refine OVs.of Fs hlen k1 (fun j b hb=>⟨⟨by have:=(k2 _ _ hb).1;omega,(k2 _ _ hb).2⟩,fun a ha=>(by cases ha;have:=(k2 _ _ hb).1;show G≠b;omega)⟩) fun j hj=> ?_;have hcc: ∀i,i<l.length * 5→cur.toList[i]? =some (f i):=fun i hi=>by rw[Array.getElem?_toList];exact hc i hi
 exact⟨_,_,_,_,_,hcc _ (by omega),hcc _ (by omega),hcc _ (by omega),hcc _ (by omega),hcc _ (by omega),k3 j hj hj⟩
def pH (n:Nat):Prop:= ∀(S:Nat→Prop) (t:VT) (v:Value) (w:World),ac t≤n→(∀b,S b→b<w.heap.size)→LV w S t v→
 Calls Tryz.prog 44 #[v] w fun e w'=> ∃v',e= .returned v'∧OV w' (Iv w.heap.size w'.heap.size) t v'∧Below w.heap.size w w'
theorem Aa {n:Nat}(hcl:pH n)(S:Nat→Prop)(A:Option Addr)(c:Nat)(l:List VT)(w:World)(hd:aK l≤n)(hS: ∀b,S b→b<w.heap.size)(h:LVA w S A l)(hl:l.length≤1759218604390):
  Calls Tryz.prog 82 #[.slice A l.length c,.func (.func 44) #[] #[]] w fun e w'=> ∃A' c',e= .returned (.slice A' l.length c')∧OVA w' (Iv w.heap.size w'.heap.size) A' c' l∧Below w.heap.size w w':=by
 by_cases hl0:l.length=0
 ·have hnil:=List.eq_nil_of_length_eq_zero hl0;subst hnil;go_enter Tryz.func82,Tryz.ntmps82;go_wp2_with fail;go_ret;exact⟨none,0,rfl,Aj _ _,Below.refl _ _⟩
 ·obtain⟨b,off,rfl,hb,hls⟩:=h (by omega);obtain⟨i0,hi,hz0,hz1,hz2⟩:=info_parts Tryz.infoVal;have HL:=hid hl;have HLS:=hid hls;have hne:((l.length:Int) == 0)=false:=by simp;intro h;simp[h]at hl0
  have hlb:l.length≤4611686018427387904:=by omega
  have hcf: ∀(args:Array Value) (W:World),(callFunc 44 args).run Tryz.prog W= .ok (.enter 44 args) W:=jE;clear h hls hl;go_enter Tryz.func82,Tryz.ntmps82;go_wp2_with(at_make;go_must (refine wpList_make_full _ rfl _ _ 22 rfl w.heap.size 25 i0 _ 5 Tryz.underlying22 hi hz0 hz1 .i64 .i64 _ _ l.length rfl rfl rfl rfl ?b0 ?b1 ?b2 ?_));case b0=>have:=HL.out;rw[hz2];omega
  case b1=>have:=HL.out;unfold maxLen;omega
  case b2=>exact Nat.le_refl _
  intro w1 hown hg;obtain⟨f0,hrow⟩:=lu hown (v:= .slice none 0 0);have hb1:Below w.heap.size w w1:=dD hg (Nat.le_refl _) (fun k hk=>by cases hk);have HROW:=hid hrow;have HB1:=hid hb1;clear hown hg hrow hb1;obtain⟨G,hG⟩: ∃G,G=w.heap.size:=⟨_,rfl⟩;rw[←hG]at HROW ⊢;have HG:=hid hG;clear hG;go_wp2_with fail;have hGlt:=HROW.out.lt
  go_loopw [16] (fun i wr=> ∃(j:Nat) (f:Nat→Value),i= .int .i64 j∧j≤l.length∧Hid (wr.rowIs G 25 (l.length * 5) f∧oG wr G l f j∧Below w.heap.size w wr)) (fun i _=>l.length - (intOf i).toNat)
  case atStart=>exact⟨0,f0,rfl,Nat.zero_le _,HROW.out,⟨fun _ _=>False,fun _ _ _ _ h _=>h,fun _ _ h=>h.elim,fun i _ h=>absurd h (by omega)⟩,HB1.out⟩
  case round=>
   obtain⟨j,f,rfl,hj,HI⟩:=hrel;by_cases hlt:j<l.length
   ·obtain⟨c0,c1,c2,c3,c4,h0,h1,h2,h3,h4,hx⟩:=HLS.out.at j hlt;obtain⟨A2,e2,A3,e3,hag,-⟩:=hx.shape;injection hag with hag;injection hag with hag
    injection hag with y0 hag;injection hag with y1 hag;injection hag with y2 hag;injection hag with y3 hag;injection hag with y4 hag
    subst y0 y1 y2 y3 y4;have hw: ∀o,wr.cell? ⟨b,o,none⟩=w.cell? ⟨b,o,none⟩:=fun o=>HI.out.2.2.cell (p:=⟨b,o,none⟩) (hS b hb);rw[←hw]at h0 h1 h2 h3 h4;have hS1:=ct hS HI.out.2.2;have hS2: ∀b,S b→b<(wr.alloc (.cells #[.int .i64 l[j].kind,.int .i64 l[j].num,.string l[j].text,.slice A2 l[j].items.length e2,.slice A3 l[j].names.length e3] 25)).heap.size:=de hS1 _;have IH:=hid (hcl S l[j] _ _ (Nat.le_trans (cj (List.getElem_mem hlt)) hd) hS2 ((hx.below hS HI.out.2.2).alloc hS1 _));have hGr:=HI.out.1.lt;clear hx hw hS1 hS2;go_wp2_with fail;refine IH.out.mono ?_;rintro e w3 ⟨v',rfl,hv,hb3⟩;obtain⟨A4,e4,A5,e5,xs4,rfl,-⟩:=hv.shape;have hb3':Below wr.heap.size wr w3:=am (ae _) hb3;have hrow3:w3.rowIs G 25 (l.length * 5) f:=HI.out.1.of_block (hb3'.block G hGr);have hpart:=HI.out.2.1.next hlt hb3'.size hGr (fun b hb _=>hb3'.block b hb) (hv.imp fun b hb=>⟨Nat.le_trans (by simp) hb.1,hb.2⟩)
    have HF:Hid ((fI w3 G (j * 5) (.int .i64 l[j].kind) (.int .i64 l[j].num) (.string l[j].text) (.slice A4 l[j].items.length e4) (.slice A5 l[j].names.length e5)).rowIs G 25 (l.length * 5) _∧oG _ G l _ (j+1)∧Below w.heap.size w (fI w3 G (j * 5) (.int .i64 l[j].kind) (.int .i64 l[j].num) (.string l[j].text) (.slice A4 l[j].items.length e4) (.slice A5 l[j].names.length e5))):=
     hid ⟨qz hrow3 _ _ _ _ _,hpart,eN _ _ _ _ _ (HI.out.2.2.trans (hb3'.mono HI.out.2.2.size)) (by have:=HG.out;omega)⟩
    have m0:=hrow3.cell (i:=j * 5) (by omega);have m1:=hrow3.cell (i:=j * 5+1) (by omega);have m2:=hrow3.cell (i:=j * 5+2) (by omega);have m3:=hrow3.cell (i:=j * 5+3) (by omega);have m4:=hrow3.cell (i:=j * 5+4) (by omega);have n0:=hrow3.frozen (j * 5);have n1:=hrow3.frozen (j * 5+1);have n2:=hrow3.frozen (j * 5+2);have n3:=hrow3.frozen (j * 5+3);have n4:=hrow3.frozen (j * 5+4);have hlb2:=HL.out;clear hv hb3 hb3' hrow3 hpart IH h0 h1 h2 h3 h4;go_wp2_with fail
    go_roundw
    case rel=>exact⟨j+1,_,by go_num,by omega,HF.out⟩
    case measure=>simp[intOf];omega
   ·go_wp2_with fail;go_ret;obtain rfl:j=l.length:=by omega
    exact⟨some ⟨G,0,none⟩,l.length,rfl,(rs HI.out.1 HI.out.2.1 HL.out).imp fun b hb=>⟨by have:=hb.1;have:=HG.out;omega,hb.2⟩,HI.out.2.2⟩
theorem tF {n:Nat}(hcl:pH n):pH (n+1):=by
 intro S t v w hd hS h;have HLEN:=hid h.lens;obtain⟨A,c,A',c',rfl,k1,k2,k3,k4,k5,k6,k7⟩:=h.shape;clear h
 cases t with
 |mk k i s l ns=>
 simp only[VT.kind,VT.num,VT.text,VT.items,VT.names]at *;have HK:=hid (And.intro k1 (And.intro k2 k3));have hdl:aK l≤n:=by rw[aN]at hd;omega
 have hb0:Below w.heap.size w ((w.alloc (.cells #[.int .i64 k,.int .i64 i,.string s,.slice A l.length c,.slice A' ns.length c'] 25)).alloc (.cells #[.int .i64 0,.int .i64 0,.string ⟨#[]⟩,.slice none 0 0,.slice none 0 0] 25)):=(ae _).alloc (by simp) _;have hX:Box ((w.alloc (.cells #[.int .i64 k,.int .i64 i,.string s,.slice A l.length c,.slice A' ns.length c'] 25)).alloc (.cells #[.int .i64 0,.int .i64 0,.string ⟨#[]⟩,.slice none 0 0,.slice none 0 0] 25)) w.heap.size (.int .i64 k) (.int .i64 i) (.string s) (.slice A l.length c) (.slice A' ns.length c'):=(Box.new _ _ _ _ _).alloc _
 have hY:Box ((w.alloc (.cells #[.int .i64 k,.int .i64 i,.string s,.slice A l.length c,.slice A' ns.length c'] 25)).alloc (.cells #[.int .i64 0,.int .i64 0,.string ⟨#[]⟩,.slice none 0 0,.slice none 0 0] 25)) (w.heap.size+1) (.int .i64 0) (.int .i64 0) (.string ⟨#[]⟩) (.slice none 0 0) (.slice none 0 0):=by
  have:=Box.new (w:=(w.alloc (.cells #[.int .i64 k,.int .i64 i,.string s,.slice A l.length c,.slice A' ns.length c'] 25))) (.int .i64 0) (.int .i64 0) (.string ⟨#[]⟩) (.slice none 0 0) (.slice none 0 0);simpa using this
 have HA:=hid (Aa hcl S A c l _ hdl (ct hS hb0) (k7.keep fun b hb=>hb0.block b (hS b hb)) HLEN.out.1);have K6:=hid k6;have HB0:=hid hb0;have HX:=hid hX;have HY:=hid hY;clear k1 k2 k3 k4 k5 k6 k7 hb0 hX hY;go_enter Tryz.func44,Tryz.ntmps44;go_wp2_with fail;refine HA.out.mono ?_;rintro e w1 ⟨A2,c2,rfl,hla,hb1⟩;have hx:=HX.out.call hb1;have HX1:=hid hx;have HY1:=hid (HY.out.call hb1);have HB1:=hid (am HB0.out hb1);have HLA:=hid hla;have x3:=hx.c3;have x4:=hx.c4;have xf:=hx.free 3;clear hx hla hb1 HA HX HY;go_wp2_with fail;obtain⟨h,hh⟩: ∃h,h=w.heap.size:=⟨_,rfl⟩;rw[←hh]at HX1 HY1 x3 x4 xf ⊢;have HH:=hid hh;clear hh;obtain⟨W1,hW1⟩: ∃W1:World,W1=w1.setCell ⟨h,3,none⟩ (.slice A2 l.length c2):=⟨_,rfl⟩;rw[←hW1];have sz1:W1.heap.size=w1.heap.size:=by rw[hW1];simp[World.setCell]
 have bk1: ∀b,b≠h→W1.heap[b]? =w1.heap[b]? :=fun b hb=>by rw[hW1];exact Below.heap_setCell _ _ _ _ hb
 have BX1:=HX1.out.set3 (.slice A2 l.length c2);rw[←hW1]at BX1;have BY1:=HY1.out.far (p:=⟨h,3,none⟩) (by simp) (.slice A2 l.length c2);rw[←hW1]at BY1;have bw1:Below w.heap.size w W1:=by rw[hW1];exact HB1.out.setCell (by have:=HH.out;simp;omega) _
 have hw1s:h+1<w1.heap.size:=HY1.out.lt;have hz1:h+2≤W1.heap.size:=by rw[sz1];omega
 have hla1:OVA W1 (Iv (h+2) W1.heap.size) A2 c2 l:=by
  have e:=HH.out;refine(OVA.keep (w':=W1) HLA.out (fun b hb=>bk1 b (by have:=hb.1;simp at this;omega))).imp fun b hb=>⟨by have:=hb.1;simp at this;omega,by rw[sz1];exact hb.2⟩
 have HN:=hid (ol S A' c' ns W1 (K6.out.keep fun b hb=>bw1.block b (hS b hb)) HLEN.out.2);have BX1:=hid BX1;have BY1:=hid BY1;have HBW1:=hid bw1;have HLA1:=hid hla1;clear hW1 sz1 bk1 bw1 hla1 HX1 HY1 HB1 HLA x3 x4 xf K6 HB0 hw1s;refine HN.out.mono ?_;rintro e w2 ⟨A3,c3,rfl,hst,hb2⟩;have BX2:=hid (BX1.out.call hb2);have BY2:=hid (BY1.out.call hb2);have HBW2:=hid (am HBW1.out hb2);have hla2:OVA w2 (Iv (h+2) W1.heap.size) A2 c2 l:=OVA.keep (w':=w2) HLA1.out (fun b hb=>hb2.block b hb.2);have hst2:ONS w2 (Iv W1.heap.size w2.heap.size) A3 c3 ns:=hst;have HLA2:=hid hla2;have HST2:=hid hst2;have y0:=BX2.out.c0;have y1:=BX2.out.c1;have y2:=BX2.out.c2;have y3:=BX2.out.c3;have y4:=BX2.out.c4;have yf:=BX2.out.free 4;have z0:=BY2.out.c0;have z1:=BY2.out.c1;have z2:=BY2.out.c2;have z3:=BY2.out.c3;have z4:=BY2.out.c4;have zf0:=BY2.out.free 0;have zf1:=BY2.out.free 1;have zf2:=BY2.out.free 2;have zf3:=BY2.out.free 3;have zf4:=BY2.out.free 4;obtain⟨W2,hW2⟩: ∃W2:World,W2=w2.setCell ⟨h,4,none⟩ (.slice A3 ns.length c3):=⟨_,rfl⟩;have BX3:=BX2.out.set4 (.slice A3 ns.length c3);rw[←hW2]at BX3;have BY3:=BY2.out.far (p:=⟨h,4,none⟩) (by simp) (.slice A3 ns.length c3);rw[←hW2]at BY3;have HBW3:Hid (Below w.heap.size w W2):=hid (by rw[hW2];exact HBW2.out.setCell (by have:=HH.out;simp;omega) _);have sz2:W2.heap.size=w2.heap.size:=by rw[hW2];simp[World.setCell]
 have bk2: ∀b,b≠h→W2.heap[b]? =w2.heap[b]? :=fun b hb=>by rw[hW2];exact Below.heap_setCell _ _ _ _ hb
 have HLA3:Hid (OVA W2 (Iv (h+2) W1.heap.size) A2 c2 l):=hid (OVA.keep (w':=W2) HLA2.out (fun b hb=>bk2 b (by have:=hb.1;omega)));have HST3:Hid (ONS W2 (Iv W1.heap.size W2.heap.size) A3 c3 ns):=hid ((ONS.keep (w':=W2) HST2.out (fun b hb=>bk2 b (by have:=hb.1;omega))).imp fun b hb=>⟨hb.1,by rw[sz2];exact hb.2⟩);have hz2:W1.heap.size≤W2.heap.size:=by rw[sz2];exact hb2.size
 have BX3:=hid BX3;have BY3:=hid BY3;have EW:=hid hW2;clear hst hb2 hla2 hst2 BX1 BY1 HBW1 HLA1 BX2 BY2 HBW2 HLA2 HST2 hW2 sz2 bk2 HN;clear hcl hd hdl;go_wp2_with fail;rw[←EW.out]
 (try simp only[Exit.inBlock,Exit.then])
 have FIN:=((((BY3.out.set0 (.int .i64 k)).set1 (.int .i64 i)).set2 (.string s)).set3 (.slice A2 l.length c2)).set4 (.slice A3 ns.length c3);have hk: ∀b,h+2≤b→(fI W2 (h+1) 0 (.int .i64 k) (.int .i64 i) (.string s) (.slice A2 l.length c2) (.slice A3 ns.length c3)).heap[b]? =W2.heap[b]? :=fun b hb=>eJ _ _ _ _ _ (by omega);have hla:=OVA.keep HLA3.out fun b hb=>hk b hb.1;have hst:=ONS.keep HST3.out fun b hb=>hk b (by have:=hb.1;omega);have hbw:=eN (p:=0) (.int .i64 k) (.int .i64 i) (.string s) (.slice A2 l.length c2) (.slice A3 ns.length c3) HBW3.out (G:=h+1) (by have:=HH.out;omega);refine bodyPost_ret (results_cell_row rfl _ _ (h+1) 25 _ (0,0) _ rfl FIN Tryz.underlying25 rfl (by kernel_rfl)) rfl ?_;obtain⟨xs,y1,y2,y3⟩:=hla;have hh:=HH.out;have hsz:=Nat.le_of_eq (dZ W2 (h+1) 0 (.int .i64 k) (.int .i64 i) (.string s) (.slice A2 l.length c2) (.slice A3 ns.length c3)).symm;refine⟨_,rfl,OV.mk HK.out.1 HK.out.2.1 HK.out.2.2 HLEN.out.1 HLEN.out.2 hst.2.2 hst.1 y1 (fun a ha=> ?_) (fun a ha=> ?_) (fun a a' ha ha'=> ?_) (y3.imp fun b hb=> ?_),hbw⟩
 ·have:=hst.2.1 a ha;exact⟨by have:=this.1;omega,Nat.lt_of_lt_of_le this.2 hsz⟩
 ·have:=y2 a ha;exact⟨by have:=this.1;omega,Nat.lt_of_lt_of_le (Nat.lt_of_lt_of_le this.2 hz2) hsz⟩
 ·have k1:=(y2 a ha).2;have k2:=(hst.2.1 a' ha').1;omega
 ·have k1:=hb.1.1;have k2:=hb.1.2;exact⟨⟨by omega,Nat.lt_of_lt_of_le (Nat.lt_of_lt_of_le k2 hz2) hsz⟩,hb.2,fun a ha=>by have:=(hst.2.1 a ha).1;omega⟩
theorem yj : ∀n,pH n
 |0=>fun S t v w hd _ _=>by cases t;rw[aN]at hd;omega
 |n+1=>tF (yj n)
theorem kJ (S:Nat→Prop)(t:VT)(v:Value)(w:World)(hS: ∀b,S b→b<w.heap.size)(h:LV w S t v):
  Calls Tryz.prog 44 #[v] w fun e w'=> ∃v',e= .returned v'∧OV w' (Iv w.heap.size w'.heap.size) t v'∧Below w.heap.size w w':=yj (ac t) S t v w (Nat.le_refl _) hS h
def cM :Array Value→Nat→List Value→Array Value
 |C,_,[]=>C
 |C,o,v::r=>cM (C.setIfInBounds o v) (o+1) r
theorem fS {w:World}{b:Nat}{ty:TypeId}{fz:Nat×Nat}: ∀(vs:List Value) (o:Nat) (C:Array Value),w.heap[b]? =some (.cells C ty fz)→(w.setCells b o vs).heap[b]? =some (.cells (cM C o vs) ty fz):=by
 intro vs
 induction vs generalizing w with
 |nil=>exact fun o C h=>h
 |cons v r ih=>exact fun o C h=>ih (o+1) _ (Go.Joins.block_setCell (i:=o) h v)
theorem dK (b:Nat): ∀(vs:List Value) (o:Nat) (w:World),(w.setCells b o vs).os=w.os∧(w.setCells b o vs).tape=w.tape∧(w.setCells b o vs).output=w.output∧(w.setCells b o vs).heap.size=w.heap.size∧ ∀k,k≠b→(w.setCells b o vs).heap[k]? =w.heap[k]?
 | [],o,w=>⟨rfl,rfl,rfl,rfl,fun _ _=>rfl⟩
 |v::r,o,w=>by
  obtain⟨h1,h2,h3,h4,h5⟩:=dK b r (o+1) (w.setCell ⟨b,o,none⟩ v);exact⟨h1,h2,h3,h4.trans (by simp),fun k hk=>(h5 k hk).trans (heap_setCell_other _ ⟨b,o,none⟩ k _ hk)⟩
theorem fH (w:World)(b o:Nat)(ty:TypeId)(v:Value)(cells:Array Value)(hc:v.cells=cells)(ht:w.there b o cells.size)(hi:(Tryz.prog.info? ty).map (·.size)=some cells.size)(h1:cells.all (·.oneCell')=true):
  (storeVar ty ⟨b,o,none⟩ v).run Tryz.prog w= .ok () (w.setCells b o cells.toList):=by
 have:=run_storeCells_cells (P:=Tryz.prog) b o cells.toList 0 w (fun j hj=>by simpa using(ht j (by simpa using hj)).1) (fun j hj=>by simpa using(ht j (by simpa using hj)).2)
  (fun v hv=>(Array.all_eq_true_iff_forall_mem.1 h1) v (by simpa using hv))
 cases hq:Tryz.prog.info? ty with
 |none=>simp[hq]at hi
 |some i=>
  have hs:cells.size=i.size:=by simp[hq]at hi;omega
  simp only[Nat.add_zero]at this;simp[storeVar,sizeOf,typeInfo,hq,hc,hs,this]
theorem aS {ops:Array Oper}{rest:List Oper}{o:Oper}{a:Act}{w:World}{Q:Exit→Act→World→Prop}(hw:Region.wanted o (yielded ops a.tmps)=true)(ty:TypeId)(x y:Operand)(ho:o.op= .store ty x y)(hd:o.dst=none)
  (g off:Nat) (hx:a.eval x= .pointer (some ⟨g,off,none⟩)) (v:Value) (cells:Array Value) (hy:a.eval y=v) (hc:v.cells=cells) (C C':Array Value) (t:TypeId) (hg:w.heap[g]? =some (.cells C t (0,0))) (hn:off+cells.size≤C.size)
  (hi:(Tryz.prog.info? ty).map (·.size)=some cells.size) (h1:cells.all (·.oneCell')=true) (hC:cM C off cells.toList=C')
  (h: ∀w',w'.heap[g]? =some (.cells C' t (0,0))→bZ w w' g→w'.heap.size=w.heap.size→wpList Tryz.prog ops Q rest a w'):wpList Tryz.prog ops Q (o::rest) a w:=
 wpList_step fun K hK=>by
  rw[hw,if_pos rfl]
  have ht:w.there g off cells.size:=fun j hj=>⟨by
   rw[Go.Joins.cell_of_block hg (off+j),Array.getElem?_eq_getElem (by omega)];rfl,Go.Joins.unfrozen_of_block hg _⟩
  have e:=fH w g off ty v cells hc ht hi h1
  have hK':K (a.put o.dst undef) (w.setCells g off cells.toList):=by
   rw[hd];refine hK _ _ (h _ ?_ ?_ ?_)
   ·rw[←hC];exact fS _ _ _ hg
   ·obtain⟨q1,q2,q3,q4,q5⟩:=dK g cells.toList off w;exact⟨q1,q2,q3,by rw[q4];exact Nat.le_refl _,fun b _ hb=>q5 b (by intro e;apply hb;rw[e])⟩
   ·exact(dK g cells.toList off w).2.2.2.1
  unfold Oper.wp execOp;simp only[ho,hx,hy,Instr.storeAt,Instr.sureAddr,Sem.run_bind,Sem.run_pure,Result.andThen_ok,e];exact hK'
theorem gG {ops:Array Oper}{rest:List Oper}{o:Oper}{a:Act}{w:World}{Q:Exit→Act→World→Prop}(hw:Region.wanted o (yielded ops a.tmps)=true)(ty:TypeId)(x:Operand)(ho:o.op= .load ty x)
  (g off:Nat) (hx:a.eval x= .pointer (some ⟨g,off,none⟩)) (cs:List Value) (d:TypeDesc) (hc:w.rangeAt g off cs) (hu:Tryz.prog.underlying ty=some d) (hd:d.isRow=true) (hi:(Tryz.prog.info? ty).map (·.size)=some cs.length)
  (h:wpList Tryz.prog ops Q rest (a.put o.dst (.agg cs.toArray)) w):wpList Tryz.prog ops Q (o::rest) a w:=
 wpList_step fun K hK=>by
  rw[hw,if_pos rfl];exact wp_load_mid ty x ho g off hx cs d hc hu hd hi (hK _ _ h)
theorem gu : ∀(vs:List Value) (o:Nat) (C:Array Value),(cM C o vs).size=C.size
 | [],_,_=>rfl
 |v::r,o,C=>by unfold cM;rw[gu r (o+1)];simp
theorem sA (a:Array Value)(i j:Nat)(v:Value):(a.setIfInBounds i v)[j]? =if i=j then(if j<a.size then some v else none)else a[j]? :=by
 rw[Array.getElem?_setIfInBounds];by_cases h:i=j
 ·subst h;simp
 ·rw[if_neg h,if_neg h]
theorem eb : ∀(vs:List Value) (o:Nat) (C:Array Value) (j:Nat),(j<o∨o+vs.length≤j)→(cM C o vs)[j]? =C[j]?
 | [],_,_,_,_=>rfl
 |v::r,o,C,j,h=>by
  unfold cM;simp only[List.length_cons]at h;rw[eb r (o+1) _ j (by omega),sA,if_neg (by omega)]
theorem jj : ∀(vs:List Value) (o:Nat) (C:Array Value) (j:Nat),o+vs.length≤C.size→j<vs.length→(cM C o vs)[o+j]? =vs[j]?
 | [],_,_,_,_,h=>absurd h (by simp)
 |v::r,o,C,0,h,_=>by
  unfold cM;simp only[List.length_cons]at h;rw[eb r (o+1) _ _ (by omega),sA,if_pos (by omega),if_pos (by omega)]
  rfl
 |v::r,o,C,j+1,h,hj=>by
  unfold cM;simp only[List.length_cons]at h hj;have:=jj r (o+1) (C.setIfInBounds o v) j (by simp;omega) (by omega);rw[show o+(j+1)=o+1+j by omega,this];rfl
structure gO {α:Type}(L:World→(Nat→Prop)→α→Array Value→Prop)(m:Nat):Prop where
 size: ∀ {w S x c},L w S x c→c.size=m
 keep: ∀ {w w' S x c},L w S x c→(∀b,S b→w'.heap[b]? =w.heap[b]?)→L w' S x c
 imp: ∀ {w} {S S':Nat→Prop} {x c},L w S x c→(∀b,S b→S' b)→L w S' x c
def bJ {α:Type}(L:World→(Nat→Prop)→α→Array Value→Prop)(m:Nat)(w:World)(S:Nat→Prop)(A:Option Addr)(l:List α):Prop:=
 0<l.length→ ∃b off,A=some ⟨b,off,none⟩∧S b∧ ∀i (h:i<l.length),∃cs:Array Value,(∀j v,cs[j]? =some v→w.cell? ⟨b,off+i * m+j,none⟩=some v)∧L w S l[i] cs
def fF {α:Type}(L:World→(Nat→Prop)→α→Array Value→Prop)(m:Nat)(T:Nat→Prop)(ty:TypeId)(w:World)(G:Nat)(l:List α)(j:Nat):Prop:=
 ∃cur:Array Value,w.heap[G]? =some (.cells cur ty (0,0))∧cur.size=l.length * m∧ ∀i (h:i<l.length),i<j→ ∃c:Array Value,(∀k v,c[k]? =some v→cur[i * m+k]? =some v)∧L w (fun b=>b<w.heap.size∧b≠G∧T b) l[i] c
section
variable {α :Type} {L:World→(Nat→Prop)→α→Array Value→Prop} {m:Nat} {T:Nat→Prop} {ty:TypeId} {w w':World} {G:Nat} {l:List α} {j:Nat}
theorem fF.lt (h:fF L m T ty w G l j):G<w.heap.size:=by
 obtain⟨cur,h1,-⟩:=h;exact(Array.getElem?_eq_some_iff.1 h1).1
theorem fF.call (hL:gO L m)(h:fF L m T ty w G l j)(hb:Below w.heap.size w w'):fF L m T ty w' G l j:=by
 have hg:=h.lt;obtain⟨cur,h1,h2,h3⟩:=h;refine⟨cur,(hb.block G hg).trans h1,h2,fun i hi hij=> ?_⟩;obtain⟨c,h4,h5⟩:=h3 i hi hij;exact⟨c,h4,hL.imp (hL.keep h5 fun b hb'=>hb.block b hb'.1) fun b hb'=>⟨Nat.lt_of_lt_of_le hb'.1 hb.size,hb'.2⟩⟩
theorem fF.store (hL:gO L m)(h:fF L m T ty w G l j)(hj:j<l.length){c cur:Array Value}(hcur:w.heap[G]? =some (.cells cur ty (0,0)))(hx:L w (fun b=>b<w.heap.size∧b≠G∧T b) l[j] c)
  (h':w'.heap[G]? =some (.cells (cM cur (j * m) c.toList) ty (0,0))) (ho:bZ w w' G) (hz:w'.heap.size=w.heap.size):fF L m T ty w' G l (j+1):=by
 obtain⟨cur',h1,h2,h3⟩:=h;rw[h1]at hcur;injection hcur with hcur
 injection hcur with hcur
 subst hcur;have hcz:=hL.size hx
 have hin:j * m+c.toList.length≤cur'.size:=by
  rw[h2,Array.length_toList,hcz,←Nat.succ_mul];exact Nat.mul_le_mul_right _ hj
 have kp: ∀x c,L w (fun b=>b<w.heap.size∧b≠G∧T b) x c→L w' (fun b=>b<w'.heap.size∧b≠G∧T b) x c:=fun x c h=>hL.imp (hL.keep h fun b hb=>ho.block b hb.1 (by intro e;injection e with e;exact hb.2.1 e)) fun b hb=>⟨by rw[hz];exact hb.1,hb.2⟩;refine⟨_,h',by rw[gu];exact h2,fun i hi hij=> ?_⟩;by_cases e:i=j
 ·subst e;refine⟨c,fun k v hv=> ?_,kp _ _ hx⟩;have hk:k<c.toList.length:=by simpa using(Array.getElem?_eq_some_iff.1 hv).1
  rw[jj _ _ _ _ hin hk];simpa using hv
 ·obtain⟨c',h4,h5⟩:=h3 i hi (by omega);refine⟨c',fun k v hv=> ?_,kp _ _ h5⟩;have hk:k<m:=by have:=(Array.getElem?_eq_some_iff.1 hv).1;have:=hL.size h5;omega
  have hlt:i * m+m≤j * m:=by rw[←Nat.succ_mul];exact Nat.mul_le_mul_right _ (by omega)
  rw[eb _ _ _ _ (.inl (by omega))];exact h4 k v hv
theorem fF.rows (hL:gO L m)(h:fF L m T ty w G l l.length):bJ L m w (fun b=>b<w.heap.size∧(T b∨b=G)) (some ⟨G,0,none⟩) l:=fun hp=>by
 have hg:=h.lt;obtain⟨cur,h1,h2,h3⟩:=h;refine⟨G,0,rfl,⟨hg,.inr rfl⟩,fun i hi=> ?_⟩;obtain⟨c,h4,h5⟩:=h3 i hi hi;refine⟨c,fun k v hv=> ?_,hL.imp h5 fun b hb=>⟨hb.1,.inl hb.2.2⟩⟩;rw[Nat.zero_add,Go.Joins.cell_of_block h1 (i * m+k)];exact h4 k v hv
theorem fF.made {B n:Nat}{xs:List Value}(h:w.ownsRow B ty m (.slice (some ⟨G,0,none⟩) n n) n xs)(hn:n=l.length):fF L m T ty w G l 0:=by
 subst hn;rcases h.2 with ⟨h1,_⟩|⟨g,cap,cur,hv,hg,hh,h1,h2,h3,_⟩
 ·cases h1
 ·injection hv with e1 e2 e3
  injection e1 with e1
  injection e1 with e1
  subst e1;subst e3;exact⟨cur,hh,h3,fun i _ hi=>absurd hi (by omega)⟩
theorem bJ.keep (hL:gO L m){S:Nat→Prop}{A:Option Addr}(h:bJ L m w S A l)(hk: ∀b,S b→w'.heap[b]? =w.heap[b]?):bJ L m w' S A l:=fun hp=>by
 obtain⟨b,off,hA,hb,hc⟩:=h hp;refine⟨b,off,hA,hb,fun i hi=> ?_⟩;obtain⟨cs,h1,h2⟩:=hc i hi;exact⟨cs,fun j v hv=>(World.cell?_of_block (a:=⟨b,off+i * m+j,none⟩) (hk b hb)).trans (h1 j v hv),hL.keep h2 hk⟩
theorem bJ.imp (hL:gO L m){S S':Nat→Prop}{A:Option Addr}(h:bJ L m w S A l)(hS: ∀b,S b→S' b):bJ L m w S' A l:=fun hp=>by
 obtain⟨b,off,hA,hb,hc⟩:=h hp;refine⟨b,off,hA,hS b hb,fun i hi=> ?_⟩;obtain⟨cs,h1,h2⟩:=hc i hi;exact⟨cs,h1,hL.imp h2 hS⟩
end
theorem lQ {ops:Array Oper}{rest:List Oper}{o:Oper}{a:Act}{w:World}{Q:Exit→Act→World→Prop}(hw:Region.wanted o (yielded ops a.tmps)=true)(x:Operand)(ho:o.op= .load 25 x)
  (g off:Nat) (hx:a.eval x= .pointer (some ⟨g,off,none⟩)) (C:Array Value) (t:TypeId) (fr:Nat×Nat) (hg:w.heap[g]? =some (.cells C t fr)) (cs:List Value) (hcs:(C.extract off (off+5)).toList=cs) (hn:cs.length=5)
  (h:wpList Tryz.prog ops Q rest (a.put o.dst (.agg cs.toArray)) w):wpList Tryz.prog ops Q (o::rest) a w:=
 wpList_step fun K hK=>by
  rw[hw,if_pos rfl];exact wp_load_mid 25 x ho g off hx cs _ (by rw[←hcs];exact World.rangeAt_of_block hg off 5) Tryz.underlying25 rfl (by rw[hn];kernel_rfl) (hK _ _ h)
theorem aJ {B:Nat}{a w w':World}{g:Nat}(hB:B≤a.heap.size)(h:Below B a w)(ho:bZ w w' g)(hz:w'.heap.size=w.heap.size)(hg:B≤g):Below B a w':=
 ⟨ho.os.trans h.os,ho.tape.trans h.tape,ho.output.trans h.output,by rw[hz];exact h.size,fun b hb=>(ho.block b (Nat.lt_of_lt_of_le hb (Nat.le_trans hB h.size)) (by intro e;injection e;omega)).trans (h.block b hb)⟩
theorem cr {w w':World}{g:Nat}{S:Nat→Prop}(ho:bZ w w' g)(hS: ∀b,S b→b<w.heap.size∧b≠g): ∀b,S b→w'.heap[b]? =w.heap[b]? :=fun b hb=>ho.block b (hS b hb).1 (by intro e;injection e with e;exact(hS b hb).2 e)
theorem mm {w w':World}{g p:Nat}{ob:Obj}(ho:bZ w w' g)(h:w.heap[p]? =some ob)(hne:p≠g):w'.heap[p]? =some ob:=(ho.block p (Array.getElem?_eq_some_iff.1 h).1 (by intro e;injection e with e;exact hne e)).trans h
def Bn (cs:Array Value)(w:World)(e:Ending)(w':World):Prop:=e= .returned (.agg cs)∧Below w.heap.size w w'
theorem kP (A:Option Addr)(n c:Nat)(w:World):Calls Tryz.prog 106 #[.slice A n c] w (Bn #[.int .i64 2,.slice A n c,.int .i64 0,.int .i64 0,.string ⟨#[]⟩,.slice none 0 0,.slice none 0 0,.int .i64 0] w):=by
 go_enter Tryz.func106,Tryz.ntmps106;go_wp2_with fail;refine bodyPost_ret (results_cell_row rfl _ _ w.heap.size 58 _ (0,0) _ rfl (heap_alloc_new w _) Tryz.underlying58 rfl (by kernel_rfl)) rfl ?_;exact⟨rfl,(Below.refl _ _).alloc (Nat.le_refl _) _⟩
theorem ee (A:Option Addr)(n c:Nat)(k i:Int)(s:ByteArray)(VA:Option Addr)(vn vc:Nat)(VA':Option Addr)(vn' vc':Nat)(w:World):
  Calls Tryz.prog 109 #[.slice A n c,.agg #[.int .i64 k,.int .i64 i,.string s,.slice VA vn vc,.slice VA' vn' vc']] w (Bn #[.int .i64 1,.slice A n c,.int .i64 k,.int .i64 i,.string s,.slice VA vn vc,.slice VA' vn' vc',.int .i64 0] w):=by
 obtain⟨w1,hw1⟩: ∃W,W=w.alloc (.cells #[.int .i64 k,.int .i64 i,.string s,.slice VA vn vc,.slice VA' vn' vc'] 25):=⟨_,rfl⟩;have hx:Box w1 w.heap.size (.int .i64 k) (.int .i64 i) (.string s) (.slice VA vn vc) (.slice VA' vn' vc'):=by rw[hw1];exact Box.new ..
 have HB:=hid (show Below w.heap.size w w1 by rw[hw1];exact(Below.refl _ _).alloc (Nat.le_refl _) _);have y0:=hx.c0;have y1:=hx.c1;have y2:=hx.c2;have y3:=hx.c3;have y4:=hx.c4;go_enter Tryz.func109,Tryz.ntmps109;go_wp2_with fail;rw[←hw1];have hz:w1.heap.size=w.heap.size+1:=by rw[hw1];simp
 have hn:=heap_alloc_new w1 (.cells #[.int .i64 1,.slice A n c,.int .i64 k,.int .i64 i,.string s,.slice VA vn vc,.slice VA' vn' vc',.int .i64 0] 58);rw[hz]at hn;refine bodyPost_ret (results_cell_row rfl _ _ (w.heap.size+1) 58 _ (0,0) _ rfl hn Tryz.underlying58 rfl (by kernel_rfl)) rfl ?_;exact⟨rfl,HB.out.alloc HB.out.size _⟩
theorem cB (A:Option Addr)(n c:Nat)(w:World):Calls Tryz.prog 147 #[.slice A n c] w fun e w'=>e= .returned (.tuple #[.slice A n c,.int .i64 0])∧w=w':=by
 go_enter Tryz.func147,Tryz.ntmps147;go_wp2_with fail
 go_ret2
 exact⟨rfl,rfl⟩
end Go.Proofs.YtgbopnlpaabelaaGreatDoor
/- Statements whose order Go leaves open, walked as they stand in the text: the same rule with a check that is soon done for long ones. -/
namespace Go.Proofs.YtgbopnlpaabelaaGreatDoor
open Go.RowKit Go.Sort
def Bm (md:Region.Mode)(i:Nat)(p:Oper):Bool:=p.after.toList.any fun e=>Region.binds md e && Nat.ble i e.on
def mo (md:Region.Mode)(ops:Array Oper):Nat→List Oper→Bool
 |_,[]=>true
 |i,o::r=>(o.after.toList.all fun e=> !Region.binds md e || Nat.blt e.on i) && (r.all (Bm md i) || (aF o && r.all fun p=>(p.after.toList.any fun e=>Region.binds md e && Nat.beq e.on i) || o.apart ops p)) && mo md ops (i+1) r
structure kV (listed:Array Bool)(n i:Nat):Prop where
 sz:listed.size=n
 at_: ∀k,k<n→listed[k]? =some (decide (k<i))
theorem kV.step {listed:Array Bool}{n i:Nat}(h:kV listed n i)(hi:i<n):kV (listed.setIfInBounds i true) n (i+1):=by
 refine⟨by simp[h.sz],fun k hk=> ?_⟩;by_cases hki:i=k
 ·subst hki;simp[h.sz,hi]
 ·rw[Array.getElem?_setIfInBounds_ne hki,h.at_ k hk]
  congr 1
  simp only[decide_eq_decide];omega
theorem kV.getD {listed:Array Bool}{n i:Nat}(h:kV listed n i)(k:Nat)(x:Bool):listed.getD k x=if k<n then decide (k<i)else x:=by
 rw[Array.getD_eq_getD_getElem?];by_cases hk:k<n
 ·rw[h.at_ k hk,if_pos hk];rfl
 ·rw[if_neg hk,Array.getElem?_eq_none (by rw[h.sz];omega)];rfl
section
variable {P :Program} {ops:Array Oper} {Q:Exit→Act→World→Prop} {md:Region.Mode} {β:World→Nat}
theorem qR {i:Nat}{oi:Oper}{v:Value}(hi:ops[i]? =some oi)(f:Nat)(listed:Array Bool)(a:Act)(w:World)(hr:i∈Region.ready md ops listed)(ho: ∀j∈Region.ready md ops listed,j=i)
  (hy:YieldsIf P ops (fun u=>Below (β w) w u) oi v a) (H:qI β P md ops Q f (listed.setIfInBounds i true) (a.put oi.dst v) w):qI β P md ops Q (f+1) listed a w:=
 ⟨fun h=>absurd hr (by rw[h];exact List.not_mem_nil),fun j hj=>by
  obtain rfl:=ho j hj
  exact hy.wpOp hi (Below.refl _ _) ⟨Below.refl _ _,H⟩⟩
theorem ea (hβ:lC β)(hsel:Region.noSelect ops=true)(hQ: ∀c d v a w,Q (.panic c) (Act.put a d v) w→Q (.panic c) a w):
  ∀(r:List Oper) (i:Nat) (listed:Array Bool) (a:Act) (w:World),r=ops.toList.drop i→i≤ops.size→kV listed ops.size i→mo md ops i r=true→br β P ops Q r a w→qI β P md ops Q r.length listed a w
 | [],i,listed,a,w,hr,hi,hf,hB,h=>by
  have hlen:ops.size≤i:=by
   have:=congrArg List.length hr;simp at this;omega
  refine⟨?_,h⟩;refine List.eq_nil_iff_forall_not_mem.2 fun j hj=> ?_;obtain⟨h1,o,h2,-⟩:=mem_ready.1 hj;have hjn:=(Array.getElem?_eq_some_iff.1 h2).1;rw[hf.getD,if_pos hjn]at h1
  simp at h1;omega
 |o::r,i,listed,a,w,hr,hi,hf,hB,h=>by
  have hin:i<ops.size:=by
   have:=congrArg List.length hr;simp at this;omega
  have hoi:ops[i]? =some o:=by
   have:=congrArg (fun l=>l[0]?) hr;simp at this;exact this.symm
  have hr':r=ops.toList.drop (i+1):=by
   have:=congrArg List.tail hr;simpa using this
  have hat: ∀j oj,ops[j]? =some oj→i<j→oj∈r:=fun j oj hj hij=>by
   rw[hr'];refine List.mem_iff_getElem?.2 ⟨j - (i+1),?_⟩;rw[List.getElem?_drop];have:i+1+(j - (i+1))=j:=by omega
   rw[this];simpa using hj
  unfold mo at hB;simp only[Bool.and_eq_true]at hB;obtain⟨⟨hE,hk⟩,hB'⟩:=hB
  have hrd:i∈Region.ready md ops listed:=by
   refine mem_ready.2 ⟨by rw[hf.getD,if_pos hin];simp,o,hoi,fun e he hb=> ?_⟩;have:=List.all_eq_true.1 hE e (by simpa using he);rw[hb]at this;simp at this;have h3:e.on<i:=by simpa[Nat.blt_eq]using this
   rw[hf.getD,if_pos (by omega)];simpa using h3
  have hun: ∀j oj,ops[j]? =some oj→j≠i→listed.getD j true=false→i<j:=fun j oj hj hne hu=>by
   rw[hf.getD,if_pos (Array.getElem?_eq_some_iff.1 hj).1]at hu;simp at hu;omega
  have hF:=hf.step hin;unfold br at h;simp only[Bool.or_eq_true]at hk;rcases hk with hk|hk
  ·have hone: ∀j∈Region.ready md ops listed,j=i:=fun j hj=>by
    obtain⟨h1,oj,h2,h3⟩:=mem_ready.1 hj;refine Classical.byContradiction fun hne=> ?_;have hm:=hat j oj h2 (hun j oj h2 hne h1);have hl:=List.all_eq_true.1 hk oj hm;unfold Bm at hl;obtain⟨e,he,hb⟩:=List.any_eq_true.1 hl;simp only[Bool.and_eq_true,Nat.ble_eq]at hb;have:=h3 e (by simpa using he) hb.1;rw[hf.getD]at this
    split at this
    ·simp at this;omega
    ·cases this
   by_cases hw:Region.wanted o (yielded ops a.tmps)=true
   ·by_cases hp:aF o=true
    ·rw[if_pos hw,if_pos hp]at h;obtain⟨v,h1,h2⟩:=h;exact qR hoi _ listed a w hrd hone (eY hp hw h1) (ea hβ hsel hQ r (i+1) _ _ w hr' (by omega) hF hB' h2)
    ·rw[if_pos hw,if_neg hp]at h;refine⟨fun h0=>absurd hrd (by rw[h0];exact List.not_mem_nil),fun j hj=> ?_⟩;obtain rfl:=hone j hj;unfold wpOp;simp only[hoi];rw[if_pos hw];exact .inl (Oper.wp_mono (fun a' w' h'=>⟨h'.1,ea hβ hsel hQ r (j+1) _ a' w' hr' (by omega) hF hB' h'.2⟩) h)
   ·rw[if_neg hw]at h;exact qR hoi _ listed a w hrd hone (.inr ⟨by simpa using hw,rfl⟩) (ea hβ hsel hQ r (i+1) _ _ w hr' (by omega) hF hB' h)
  ·simp only[Bool.and_eq_true]at hk;obtain⟨hp,hk⟩:=hk
   have hfree: ∀j oj,ops[j]? =some oj→j≠i→listed.getD j true=false→(∀e∈oj.after,Region.binds md e=true→e.on≠i)→o.apart ops oj=true:=fun j oj hj hne hu hno=>by
    have hl:=List.all_eq_true.1 hk oj (hat j oj hj (hun j oj hj hne hu));simp only[Bool.or_eq_true]at hl;rcases hl with hl|hl
    ·obtain⟨e,he,hb⟩:=List.any_eq_true.1 hl;simp only[Bool.and_eq_true]at hb;exact absurd (Nat.eq_of_beq_eq_true hb.2) (hno e (by simpa using he) hb.1)
    ·exact hl
   by_cases hw:Region.wanted o (yielded ops a.tmps)=true
   ·rw[if_pos hw,if_pos hp]at h;obtain⟨v,h1,h2⟩:=h;exact gq hβ hoi hsel hQ _ listed a w hfree hrd (eY hp hw h1) (ea hβ hsel hQ r (i+1) _ _ w hr' (by omega) hF hB' h2)
   ·rw[if_neg hw]at h;exact gq hβ hoi hsel hQ _ listed a w hfree hrd (.inr ⟨by simpa using hw,rfl⟩) (ea hβ hsel hQ r (i+1) _ _ w hr' (by omega) hF hB' h)
def yl (ops:List Oper):Bool:=Region.noSelect ops.toArray && mo .any ops.toArray 0 ops
theorem tr (hβ:lC β){l:List Oper}{id:Nat}{a:Act}{w:World}(hm:P.follows .mixedOrders=true)(hB:yl l=true)(hQ: ∀c d v a w,Q (.panic c) (Act.put a d v) w→Q (.panic c) a w)
  (h:br β P l.toArray Q l a w.drew):(Code.region id l.toArray true).wp P Q a w:=by
 unfold yl at hB;simp only[Bool.and_eq_true]at hB;refine wp_region_any hm (io (β:=β) _ _ _ _ ?_);have:=ea (md:= .any) (ops:=l.toArray) hβ hB.1 hQ l 0 (Array.replicate l.toArray.size false) a w.drew (by simp) (Nat.zero_le _) ⟨by simp,fun k hk=>by simp at hk;simp[hk]⟩ hB.2 h;simpa using this
theorem cX {l:List Oper}{id:Nat}{a:Act}{w:World}(hm:P.follows .mixedOrders=true)(hB:yl l=true)(hQ: ∀c d v a w,Q (.panic c) (Act.put a d v) w→Q (.panic c) a w)
  (h:br (fun w=>w.heap.size) P l.toArray Q l a w.drew):(Code.region id l.toArray true).wp P Q a w:=tr nk hm hB hQ h
end
end Go.Proofs.YtgbopnlpaabelaaGreatDoor
/- The order of two values that may be, as the document's answer has it. -/
namespace Go.Proofs.YtgbopnlpaabelaaGreatDoor
open Lib (hid)
open Go.RowKit
theorem yy {w:World}{S:Nat→Prop}{a b:VT}{va vb:Value}(hS: ∀b,S b→b<w.heap.size)(ha:LV w S a va)(hb:LV w S b vb):
  ∃A ca A' ca' B cb B' cb',va= .agg #[.int .i64 a.kind,.int .i64 a.num,.string a.text,.slice A a.items.length ca,.slice A' a.names.length ca']∧vb= .agg #[.int .i64 b.kind,.int .i64 b.num,.string b.text,.slice B b.items.length cb,.slice B' b.names.length cb']∧
   (a.items.length≤140737488351232∧a.names.length≤140737488351232∧b.items.length≤140737488351232∧b.names.length≤140737488351232)∧LVA w S A a.items∧ai w S A' a.names∧LVA w S B b.items∧ai w S B' b.names∧
   Vr ((w.alloc (.cells #[.int .i64 a.kind,.int .i64 a.num,.string a.text,.slice A a.items.length ca,.slice A' a.names.length ca'] 25)).alloc (.cells #[.int .i64 b.kind,.int .i64 b.num,.string b.text,.slice B b.items.length cb,.slice B' b.names.length cb'] 25)) S w.heap.size a A ca A' ca'∧
   Vr ((w.alloc (.cells #[.int .i64 a.kind,.int .i64 a.num,.string a.text,.slice A a.items.length ca,.slice A' a.names.length ca'] 25)).alloc (.cells #[.int .i64 b.kind,.int .i64 b.num,.string b.text,.slice B b.items.length cb,.slice B' b.names.length cb'] 25)) S (w.heap.size+1) b B cb B' cb'∧
   Below w.heap.size w ((w.alloc (.cells #[.int .i64 a.kind,.int .i64 a.num,.string a.text,.slice A a.items.length ca,.slice A' a.names.length ca'] 25)).alloc (.cells #[.int .i64 b.kind,.int .i64 b.num,.string b.text,.slice B b.items.length cb,.slice B' b.names.length cb'] 25)):=by
 obtain⟨A,ca,A',ca',rfl,-,-,-,a4,a5,a6,a7⟩:=ha.shape;obtain⟨B,cb,B',cb',rfl,-,-,-,b4,b5,b6,b7⟩:=hb.shape;refine⟨A,ca,A',ca',B,cb,B',cb',rfl,rfl,⟨a4,a5,b4,b5⟩,a7,a6,b7,b6,(Vr.new hS ha).alloc _,?_,(ae _).alloc (by simp) _⟩;have h:=Vr.new (de hS (.cells #[.int .i64 a.kind,.int .i64 a.num,.string a.text,.slice A a.items.length ca,.slice A' a.names.length ca'] 25)) (hb.alloc hS (.cells #[.int .i64 a.kind,.int .i64 a.num,.string a.text,.slice A a.items.length ca,.slice A' a.names.length ca'] 25));have e:(w.alloc (.cells #[.int .i64 a.kind,.int .i64 a.num,.string a.text,.slice A a.items.length ca,.slice A' a.names.length ca'] 25)).heap.size=w.heap.size+1:=by simp
 rw[e]at h;exact h
theorem rQ {ns:List ByteArray}(h: ∀x y (_:x<ns.length) (_:y<ns.length),x<y→ns[x]≠ns[y]):ns.Nodup:=List.pairwise_iff_getElem.2 fun x y hx hy hxy=>h x y hx hy hxy
theorem wy {ns:List ByteArray}{x y:Nat}(hx:x<ns.length)(hy:y<ns.length)(hxy:x<y)(h:ns[x]=ns[y]): ¬ns.Nodup:=fun hn=>List.pairwise_iff_getElem.1 hn x y hx hy hxy h
theorem wU (S:Nat→Prop)(A:Option Addr)(c:Nat)(ns:List ByteArray)(w:World)(hS: ∀b,S b→b<w.heap.size)(h:ai w S A ns)(hl:ns.length≤140737488351232):
  Calls Tryz.prog 89 #[.slice A ns.length c] w fun e w'=>(∃r:Bool,e= .returned (.bool r)∧(r=true↔ ¬ns.Nodup))∧Below w.heap.size w w':=by
 have HH:=hid h;clear h;go_enter Tryz.func89,Tryz.ntmps89;go_wp2_with fail
 go_loopw [3,4] (fun i k wr=> ∃j:Nat,i= .int .i64 j∧j≤ns.length∧Hid (∀x y (_:x<ns.length) (_:y<ns.length),x<y→y<j→ns[x]≠ns[y])∧Hid (Below w.heap.size w wr)) (fun i _ _=>ns.length - (intOf i).toNat)
 case atStart=>exact⟨0,rfl,Nat.zero_le _,hid (fun _ _ _ _ _ h=>absurd h (Nat.not_lt_zero _)),hid (Below.refl _ _)⟩
 case round=>
  obtain⟨j,rfl,hj,HD,HB⟩:=hrel;by_cases hlt:j<ns.length
  ·obtain⟨p,o,rfl,hp,hc⟩:=HH.out (by omega);have HC:=hid hc;have HP:=hid (hS p hp);clear hc hp;go_wp2_with fail
   go_loopw [4] (fun k wr=> ∃m:Nat,k= .int .i64 m∧m≤j∧Hid (∀x (_:x<ns.length),x<m→ns[x]≠ns[j])∧Hid (Below w.heap.size w wr)) (fun k _=>j - (intOf k).toNat)
   case atStart=>exact⟨0,rfl,Nat.zero_le _,hid (fun _ _ h=>absurd h (Nat.not_lt_zero _)),HB⟩
   case round=>
    rename_i wr;obtain⟨m,rfl,hm,HE,HB⟩:=hrel;by_cases hmj:m<j
    ·have hml:m<ns.length:=by omega
     have t1:wr.cell? ⟨p,o+j,none⟩=some (.string ns[j]):=(HB.out.cell (p:=⟨p,o+j,none⟩) HP.out).trans (HC.out j hlt).1;have t2:wr.cell? ⟨p,o+m,none⟩=some (.string ns[m]):=(HB.out.cell (p:=⟨p,o+m,none⟩) HP.out).trans (HC.out m hml).1;have hp2:p<wr.heap.size:=Nat.lt_of_lt_of_le HP.out HB.out.size;obtain⟨sa,hsa⟩: ∃sa,sa=ns[j]:=⟨_,rfl⟩;obtain⟨sb,hsb⟩: ∃sb,sb=ns[m]:=⟨_,rfl⟩;rw[←hsa]at t1;rw[←hsb]at t2;have HSA:=hid hsa;have HSB:=hid hsb;clear hsa hsb;by_cases hs:sa.toList=sb.toList
     ·have es:(sa.toList == sb.toList)=true:=by simpa using hs
      have HF:Hid (¬ns.Nodup):=hid (wy hml hlt hmj (by rw[←HSA.out,←HSB.out];exact(toList_inj hs).symm));clear hs;go_wp2_with fail;try simp only[List.append_eq,List.cons_append,List.nil_append]
      refine cX (by kernel_rfl) (by kernel_rfl) (fun _ d _ _ _ h=>by cases d<;>exact h) ?_;have u1:=aa (B:=wr.heap.size) (w:=wr.drew) t1 hp2;have u2:=aa (B:=wr.heap.size) (w:=wr.drew) t2 hp2;first|with_reducible refine ak ?_ |with_reducible refine ag ?_ |refine ak ?_ |refine ag ?_
      simp only[List.takeWhile,List.dropWhile,aF,Nat.reduceBNe];repeat(go_big_quiet_step (fail))
      first|with_reducible refine wpQuiet_nil ?_ |refine wpQuiet_nil ?_
      unfold br;clear u1 u2 t1 t2;go_wp2_with fail;go_ret;exact⟨⟨_,rfl,⟨fun _=>HF.out,fun _=>rfl⟩⟩,HB.out.drew⟩
     ·have es:(sa.toList == sb.toList)=false:=by simpa using hs
      have HNE:Hid (ns[m]≠ns[j]):=hid (fun h=>hs (by rw[HSA.out,HSB.out,h]));clear hs;go_wp2_with fail;try simp only[List.append_eq,List.cons_append,List.nil_append]
      refine cX (by kernel_rfl) (by kernel_rfl) (fun _ d _ _ _ h=>by cases d<;>exact h) ?_;have u1:=aa (B:=wr.heap.size) (w:=wr.drew) t1 hp2;have u2:=aa (B:=wr.heap.size) (w:=wr.drew) t2 hp2;first|with_reducible refine ak ?_ |with_reducible refine ag ?_ |refine ak ?_ |refine ag ?_
      simp only[List.takeWhile,List.dropWhile,aF,Nat.reduceBNe];repeat(go_big_quiet_step (fail))
      first|with_reducible refine wpQuiet_nil ?_ |refine wpQuiet_nil ?_
      unfold br;clear u1 u2 t1 t2;go_wp2_with fail
      go_roundw
      case rel=>exact⟨m+1,by go_num,by omega,hid (fun x hx hxm=>by
       by_cases e:x=m
       ·subst e;exact HNE.out
       ·exact HE.out x hx (by omega)),hid HB.out.drew⟩
      case measure=>simp[intOf];omega
    ·go_wp2_with fail
     go_roundw
     case rel=>exact⟨j+1,by go_num,by omega,hid (fun x y hx hy hxy hyj=>by
      by_cases e:y=j
      ·subst e;exact HE.out x hx (by omega)
      ·exact HD.out x y hx hy hxy (by omega)),HB⟩
     case measure=>simp[intOf];omega
  ·have HF:Hid (ns.Nodup):=hid (rQ fun x y hx hy hxy=>HD.out x y hx hy hxy (by omega));go_wp2_with fail;go_ret;exact⟨⟨_,rfl,⟨fun h=>(by cases h),fun h=>absurd HF.out h⟩⟩,HB.out⟩
end Go.Proofs.YtgbopnlpaabelaaGreatDoor
