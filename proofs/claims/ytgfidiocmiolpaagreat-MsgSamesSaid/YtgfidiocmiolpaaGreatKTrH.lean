/- A value that is owned: its rows are blocks of their own, and no block serves twice. -/
import Derived.Test.YtgfidiocmiolpaaGreatKCodP
import Derived.Test.YtgfidiocmiolpaaGreatKCodG
import Derived.Test.YtgfidiocmiolpaaGreatKFive
import Derived.Test.YtgfidiocmiolpaaGreatKLook
import Derived.Test.YtgfidiocmiolpaaGreatKRefM
import Derived.Maps.AppendAt
set_option maxHeartbeats 64000000
set_option maxRecDepth 100000
set_option linter.unusedVariables false
set_option linter.unusedSimpArgs false
namespace Go.Proofs.YtgfidiocmiolpaaGreat
open Go.RowKit
def Out (F:Nat→Prop)(A A':Option Addr):Nat→Prop:=fun b=>F b∧(∀a,A=some a→a.block≠b)∧(∀a,A'=some a→a.block≠b)
mutual
def OV (w:World):(Nat→Prop)→VT→Value→Prop
 |F,.mk k i s l ns,v=> ∃A c A' c' xs,v= .agg #[.int .i64 k,.int .i64 i,.string s,.slice A l.length c,.slice A' ns.length c']∧Rng k∧Rng i∧s.size≤140737488351232∧
   l.length≤1759218604390∧ns.length≤8796093021952∧(∀s∈ns,s.size≤140737488351232)∧
   w.ownsRow 0 9 1 (.slice A' ns.length c') ns.length (ns.map Value.string)∧w.ownsRow 0 43 5 (.slice A l.length c) l.length xs∧
   (∀a,A'=some a→F a.block)∧(∀a,A=some a→F a.block)∧(∀a a',A=some a→A'=some a'→a.block≠a'.block)∧OVs w (Out F A A') l xs
def OVs (w:World):(Nat→Prop)→List VT→List Value→Prop
 |_,[],xs=>xs= []
 |F,t::r,xs=> ∃c0 c1 c2 c3 c4 ys F1 F2,xs=c0::c1::c2::c3::c4::ys∧OV w F1 t (.agg #[c0,c1,c2,c3,c4])∧OVs w F2 r ys∧(∀b,F1 b→F b)∧(∀b,F2 b→F b)∧(∀b,F1 b→F2 b→False)
end
theorem Out.imp {F F':Nat→Prop}{A A':Option Addr}(h: ∀b,F b→F' b): ∀b,Out F A A' b→Out F' A A' b:=fun b hb=>⟨h b hb.1,hb.2⟩
theorem OVs.imp {w:World}{F F':Nat→Prop}(hF: ∀b,F b→F' b){l:List VT}{xs:List Value}(h:OVs w F l xs):OVs w F' l xs:=by
 cases l with
 |nil=>unfold OVs at h ⊢;exact h
 |cons t r=>
  unfold OVs at h ⊢;obtain⟨c0,c1,c2,c3,c4,ys,F1,F2,h0,h1,h2,h3,h4,h5⟩:=h;exact⟨c0,c1,c2,c3,c4,ys,F1,F2,h0,h1,h2,fun b hb=>hF b (h3 b hb),fun b hb=>hF b (h4 b hb),h5⟩
theorem OV.imp {w:World}{F F':Nat→Prop}(hF: ∀b,F b→F' b){t:VT}{v:Value}(h:OV w F t v):OV w F' t v:=by
 cases t with
 |mk k i s l ns=>
  unfold OV at h ⊢;obtain⟨A,c,A',c',xs,h0,h1,h2,h3,h4,h5,h6,h7,h8,h9,h10,h11,h12⟩:=h;exact⟨A,c,A',c',xs,h0,h1,h2,h3,h4,h5,h6,h7,h8,fun a ha=>hF _ (h9 a ha),fun a ha=>hF _ (h10 a ha),h11,h12.imp (Out.imp hF)⟩
theorem iQ {w w':World}{B:Nat}{e:TypeId}{size n c:Nat}{A:Option Addr}{xs:List Value}(h:w.ownsRow B e size (.slice A n c) n xs)(hk: ∀a,A=some a→w'.heap[a.block]? =w.heap[a.block]?):w'.ownsRow B e size (.slice A n c) n xs:=by
 refine⟨h.1,?_⟩;rcases h.2 with h2|⟨g,cap,cur,hv,hg,hh,hr⟩
 ·exact .inl h2
 ·injection hv with e1 e2 e3
  subst e1;exact .inr ⟨g,cap,cur,by rw[e3],hg,(hk _ rfl).trans hh,hr⟩
mutual
theorem OV.keep {w w':World}: ∀ {F:Nat→Prop} {t:VT} {v:Value},(∀b,F b→w'.heap[b]? =w.heap[b]?)→OV w F t v→OV w' F t v
 |F,.mk k i s l ns,v,hk,h=>by
  unfold OV at h ⊢;obtain⟨A,c,A',c',xs,h0,h1,h2,h3,h4,h5,h6,h7,h8,h9,h10,h11,h12⟩:=h;exact⟨A,c,A',c',xs,h0,h1,h2,h3,h4,h5,h6,iQ h7 fun a ha=>hk _ (h9 a ha),iQ h8 fun a ha=>hk _ (h10 a ha),h9,h10,h11,OVs.keep (fun b hb=>hk b hb.1) h12⟩
theorem OVs.keep {w w':World}: ∀ {F:Nat→Prop} {l:List VT} {xs:List Value},(∀b,F b→w'.heap[b]? =w.heap[b]?)→OVs w F l xs→OVs w' F l xs
 |F,[],xs,hk,h=>by unfold OVs at h ⊢;exact h
 |F,t::r,xs,hk,h=>by
  unfold OVs at h ⊢;obtain⟨c0,c1,c2,c3,c4,ys,F1,F2,h0,h1,h2,h3,h4,h5⟩:=h;exact⟨c0,c1,c2,c3,c4,ys,F1,F2,h0,OV.keep (fun b hb=>hk b (h3 b hb)) h1,OVs.keep (fun b hb=>hk b (h4 b hb)) h2,h3,h4,h5⟩
end
theorem OVs.of {w:World}: ∀ {l:List VT} {F:Nat→Prop} {xs:List Value} (Fs:Nat→Nat→Prop),xs.length=l.length * 5→(∀i j b,i≠j→Fs i b→Fs j b→False)→(∀j b,Fs j b→F b)→
  (∀j (hj:j<l.length),∃c0 c1 c2 c3 c4,xs[j * 5]? =some c0∧xs[j * 5+1]? =some c1∧xs[j * 5+2]? =some c2∧xs[j * 5+3]? =some c3∧xs[j * 5+4]? =some c4∧OV w (Fs j) l[j] (.agg #[c0,c1,c2,c3,c4]))→OVs w F l xs
 | [],F,xs,Fs,hl,_,_,_=>by unfold OVs;exact List.eq_nil_of_length_eq_zero (by simpa using hl)
 |t::r,F,xs,Fs,hl,k1,k2,k3=>by
  obtain⟨c0,c1,c2,c3,c4,e0,e1,e2,e3,e4,e5⟩:=k3 0 (by simp)
  match xs,hl with
  |a0::a1::a2::a3::a4::ys,hl=>
   simp at e0 e1 e2 e3 e4;subst e0 e1 e2 e3 e4;unfold OVs;refine⟨_,_,_,_,_,ys,Fs 0,fun b=> ∃j,Fs (j+1) b,rfl,e5,OVs.of (fun j=>Fs (j+1)) (by simp at hl;omega) (fun i j b hij=>k1 _ _ b (by omega)) (fun j b hb=>⟨j,hb⟩) (fun j hj=> ?_),fun b hb=>k2 0 b hb,fun b ⟨j,hb⟩=>k2 _ b hb,fun b hb ⟨j,hb'⟩=>k1 0 (j+1) b (by omega) hb hb'⟩;obtain⟨d0,d1,d2,d3,d4,g0,g1,g2,g3,g4,g5⟩:=k3 (j+1) (by simpa using hj);have hs:(j+1) * 5=j * 5+5:=by omega
   rw[hs]at g0 g1 g2 g3 g4
   exact⟨d0,d1,d2,d3,d4,g0,g1,g2,g3,g4,g5⟩
  | [],hl=>simp at hl
  | [_],hl=>simp at hl;omega
  | [_,_],hl=>simp at hl;omega
  | [_,_,_],hl=>simp at hl;omega
  | [_,_,_,_],hl=>simp at hl;omega
mutual
theorem OV.lv {w:World}: ∀ {F:Nat→Prop} {t:VT} {v:Value},OV w F t v→LV w F t v
 |F,.mk k i s l ns,v,h=>by
  unfold OV at h;obtain⟨A,c,A',c',xs,h0,h1,h2,h3,h4,h5,h6,h7,h8,h9,h10,h11,h12⟩:=h;rw[h0];refine LV.mk h1 h2 h3 h4 h5 (fun hp=> ?_) (fun hp=> ?_)
  ·rcases h7.2 with ⟨-,h⟩|⟨g,cap,cur,hv,-⟩
   ·omega
   ·injection hv with e1 e2 e3
    subst e1;refine⟨g,0,rfl,h9 _ rfl,fun j hj=>⟨?_,h6 _ (List.getElem_mem hj)⟩⟩;have:=h7.cells (g:=g) rfl j (.string ns[j]) (by simp[List.getElem?_map,List.getElem?_eq_getElem hj]);rw[m9]at this;exact this
  ·rcases h8.2 with ⟨-,h⟩|⟨g,cap,cur,hv,-⟩
   ·omega
   ·injection hv with e1 e2 e3
    subst e1;refine⟨g,0,rfl,h10 _ rfl,OVs.lvs (fun b hb=>hb.1) h12 fun j v hj=> ?_⟩;have:=h8.cells (g:=g) rfl j v hj;rw[m9]at this;exact this
theorem OVs.lvs {w:World}{S:Nat→Prop}{g:Nat}: ∀ {F:Nat→Prop} {l:List VT} {xs:List Value} {off:Nat},(∀b,F b→S b)→OVs w F l xs→(∀i v,xs[i]? =some v→w.cell? ⟨g,off+i,none⟩=some v)→LVs w S g off l
 |F,[],xs,off,hS,h,hc=>by unfold LVs;trivial
 |F,t::r,xs,off,hS,h,hc=>by
  unfold OVs at h;obtain⟨c0,c1,c2,c3,c4,ys,F1,F2,rfl,h1,h2,h3,h4,h5⟩:=h;unfold LVs;refine⟨⟨c0,c1,c2,c3,c4,hc 0 c0 rfl,hc 1 c1 rfl,hc 2 c2 rfl,hc 3 c3 rfl,hc 4 c4 rfl,(OV.lv h1).imp fun b hb=>hS b (h3 b hb)⟩,OVs.lvs (fun b hb=>hS b (h4 b hb)) h2 fun i v hi=> ?_⟩;have:=hc (i+5) v hi;rw[show off+(i+5)=off+5+i by omega]at this;exact this
end
theorem OV.shape {w:World}{F:Nat→Prop}{t:VT}{v:Value}(h:OV w F t v): ∃A c A' c' xs,v= .agg #[.int .i64 t.kind,.int .i64 t.num,.string t.text,.slice A t.items.length c,.slice A' t.names.length c']∧
  w.ownsRow 0 9 1 (.slice A' t.names.length c') t.names.length (t.names.map Value.string)∧w.ownsRow 0 43 5 (.slice A t.items.length c) t.items.length xs∧
  (∀a,A'=some a→F a.block)∧(∀a,A=some a→F a.block)∧(∀a a',A=some a→A'=some a'→a.block≠a'.block)∧OVs w (Out F A A') t.items xs:=by
 cases t with
 |mk k i s l ns=>
  unfold OV at h;obtain⟨A,c,A',c',xs,h0,h1,h2,h3,h4,h5,h6,h7,h8,h9,h10,h11,h12⟩:=h;exact⟨A,c,A',c',xs,h0,h7,h8,h9,h10,h11,h12⟩
theorem OV.mk {w:World}{F:Nat→Prop}{k i:Int}{s:ByteArray}{l:List VT}{ns:List ByteArray}{A A':Option Addr}{c c':Nat}{xs:List Value}(h1:Rng k)(h2:Rng i)(h3:s.size≤140737488351232)(h4:l.length≤1759218604390)(h5:ns.length≤8796093021952)(h6: ∀s∈ns,s.size≤140737488351232)
  (h7:w.ownsRow 0 9 1 (.slice A' ns.length c') ns.length (ns.map Value.string)) (h8:w.ownsRow 0 43 5 (.slice A l.length c) l.length xs)
  (h9: ∀a,A'=some a→F a.block) (h10: ∀a,A=some a→F a.block) (h11: ∀a a',A=some a→A'=some a'→a.block≠a'.block) (h12:OVs w (Out F A A') l xs):
  OV w F (.mk k i s l ns) (.agg #[.int .i64 k,.int .i64 i,.string s,.slice A l.length c,.slice A' ns.length c']):=by
 unfold OV;exact⟨A,c,A',c',xs,rfl,h1,h2,h3,h4,h5,h6,h7,h8,h9,h10,h11,h12⟩
theorem vR (w:World)(F:Nat→Prop):OVs w F [] []:=by unfold OVs;rfl
open Lib (hid)
def Iv (m n:Nat):Nat→Prop:=fun b=>m≤b∧b<n
def OVA (w:World)(F:Nat→Prop)(A:Option Addr)(c:Nat)(l:List VT):Prop:= ∃xs,w.ownsRow 0 43 5 (.slice A l.length c) l.length xs∧(∀a,A=some a→F a.block)∧OVs w (fun b=>F b∧ ∀a,A=some a→a.block≠b) l xs
def ONS (w:World)(F:Nat→Prop)(A:Option Addr)(c:Nat)(ns:List ByteArray):Prop:=w.ownsRow 0 9 1 (.slice A ns.length c) ns.length (ns.map Value.string)∧(∀a,A=some a→F a.block)∧ ∀s∈ns,s.size≤140737488351232
theorem OVA.keep {w w':World}{F:Nat→Prop}{A:Option Addr}{c:Nat}{l:List VT}(h:OVA w F A c l)(hk: ∀b,F b→w'.heap[b]? =w.heap[b]?):OVA w' F A c l:=by
 obtain⟨xs,h1,h2,h3⟩:=h;exact⟨xs,iQ h1 fun a ha=>hk _ (h2 a ha),h2,h3.keep fun b hb=>hk b hb.1⟩
theorem OVA.imp {w:World}{F F':Nat→Prop}{A:Option Addr}{c:Nat}{l:List VT}(h:OVA w F A c l)(hF: ∀b,F b→F' b):OVA w F' A c l:=by
 obtain⟨xs,h1,h2,h3⟩:=h;exact⟨xs,h1,fun a ha=>hF _ (h2 a ha),h3.imp fun b hb=>⟨hF b hb.1,hb.2⟩⟩
theorem ONS.keep {w w':World}{F:Nat→Prop}{A:Option Addr}{c:Nat}{l:List ByteArray}(h:ONS w F A c l)(hk: ∀b,F b→w'.heap[b]? =w.heap[b]?):ONS w' F A c l:=
 ⟨iQ h.1 fun a ha=>hk _ (h.2.1 a ha),h.2⟩
theorem ONS.imp {w:World}{F F':Nat→Prop}{A:Option Addr}{c:Nat}{l:List ByteArray}(h:ONS w F A c l)(hF: ∀b,F b→F' b):ONS w F' A c l:=⟨h.1,fun a ha=>hF _ (h.2.1 a ha),h.2.2⟩
theorem vP (w:World)(F:Nat→Prop):OVA w F none 0 []:=⟨[],World.ownsRow_nil _ _ _ _,fun _ h=>(by cases h),vR _ _⟩
theorem vv (w:World)(F:Nat→Prop):ONS w F none 0 []:=⟨World.ownsRow_nil _ _ _ _,fun _ h=>(by cases h),fun _ h=>absurd h (by simp)⟩
theorem pU {w:World}{B:Nat}{v:Value}{ns:List ByteArray}(h:w.ownsRow B 9 1 v ns.length (ns.map Value.string))(hs: ∀s∈ns,s.size≤140737488351232): ∃A c,v= .slice A ns.length c∧ONS w (Iv B w.heap.size) A c ns:=by
 obtain⟨h1,h2⟩:=h;rcases h2 with ⟨rfl,h2⟩|⟨g,cap,cur,rfl,hg,hh,r⟩
 ·exact⟨none,0,by rw[h2],⟨h1,.inl ⟨by rw[h2],h2⟩⟩,fun _ h=>(by cases h),hs⟩
 ·exact⟨_,_,rfl,⟨h1,.inr ⟨g,cap,cur,rfl,Nat.zero_le _,hh,r⟩⟩,fun a ha=>(by cases ha;exact⟨hg,(Array.getElem?_eq_some_iff.1 hh).1⟩),hs⟩
theorem lE (S:Nat→Prop)(A:Option Addr)(c:Nat)(ns:List ByteArray)(w:World)(h:au w S A ns)(hl:ns.length≤8796093021952):
  Calls Tryz.prog 96 #[.slice A ns.length c] w fun e w'=> ∃A' c',e= .returned (.slice A' ns.length c')∧ONS w' (Iv w.heap.size w'.heap.size) A' c' ns∧Below w.heap.size w w':=by
 rcases ns with _|⟨n0,r⟩
 ·go_enter Tryz.func96,Tryz.ntmps96;go_wp2_with(at_builtin;go_must (refine fJ rfl _ _ rfl rfl A c rfl ?_));go_ret;exact⟨none,0,rfl,vv _ _,Below.refl _ _⟩
 ·obtain⟨b,off,rfl,hb,hc⟩:=h (by simp);generalize hns:n0::r=ns at *;obtain⟨i0,hi,hz0,hz1,hz2⟩:=info_parts Tryz.infoStr;have HL:=hid hl;have HC:=hid hc;clear hl hc h
  have hnw: ∀j u,(ns.map Value.string)[j]? =some u→w.cell? ((⟨b,off,none⟩:Addr).add j)=some u:=by
   intro j u hj;have hjl:j<ns.length:=by have:=(List.getElem?_eq_some_iff.1 hj).1;simpa using this
   rw[m9,(HC.out j hjl).1];simpa[List.getElem?_map,List.getElem?_eq_getElem hjl]using hj
  have HNW:=hid hnw;clear hnw;go_enter Tryz.func96,Tryz.ntmps96;go_wp2_with(at_builtin;go_must (refine wpList_append_own _ rfl _ _ 41 rfl w.heap.size 9 i0 (.string ⟨#[]⟩) 1 16 Tryz.underlying41 hi hz0 hz1 hz2 rfl (by decide) _ 0 [] rfl (World.ownsRow_nil _ _ _ _) ⟨b,off,none⟩ ns.length c (ns.map Value.string) rfl ?d0 HNW.out ?d1 ?d2 ?d3 ?d4 ?_));case d0=>simp
  case d1=>intro u hu;obtain⟨_,_,rfl⟩:=List.mem_map.1 hu;rfl
  case d2=>have:=HL.out;unfold maxLen;omega
  case d3=>have:=HL.out;omega
  case d4=>exact Nat.le_refl _
  intro v' w' hown hg _;obtain⟨A',c',rfl,hst⟩:=pU hown (fun s hs=>by obtain⟨i,hi,rfl⟩:=List.mem_iff_getElem.1 hs;exact(HC.out i hi).2);have HST:=hid hst;have HB:=hid (cP (B:=w.heap.size) hg (Nat.le_refl _) (fun k hk=>by cases hk));clear hown hg hst;go_wp2_with fail;go_ret;exact⟨_,_,rfl,HST.out,HB.out⟩
def l5 (w:World)(G:Nat)(l:List VT)(f:Nat→Value)(j:Nat):Prop:= ∃Fs:Nat→Nat→Prop,(∀i i' b,i≠i'→Fs i b→Fs i' b→False)∧(∀i b,Fs i b→G<b∧b<w.heap.size)∧
 ∀i (h:i<l.length),i<j→OV w (Fs i) l[i] (.agg #[f (i * 5),f (i * 5+1),f (i * 5+2),f (i * 5+3),f (i * 5+4)])
theorem l5.next {w w3:World}{G j:Nat}{l:List VT}{f:Nat→Value}{v0 v1 v2 v3 v4:Value}(h:l5 w G l f j)(hj:j<l.length)(hs:w.heap.size≤w3.heap.size)(hG:G<w.heap.size)(hb: ∀b,b<w.heap.size→b≠G→w3.heap[b]? =w.heap[b]?)
  (hx:OV w3 (Iv w.heap.size w3.heap.size) l[j] (.agg #[v0,v1,v2,v3,v4])):l5 (jO w3 G (j * 5) v0 v1 v2 v3 v4) G l (lx f (j * 5) v0 v1 v2 v3 v4) (j+1):=by
 obtain⟨Fs,k1,k2,k3⟩:=h;refine⟨fun i b=>(i=j∧Iv w.heap.size w3.heap.size b)∨(i<j∧Fs i b),?_,?_,fun i hi hij=> ?_⟩
 ·rintro i i' b hne (⟨h1,h2⟩|⟨h1,h2⟩) (⟨h3,h4⟩|⟨h3,h4⟩)
  ·omega
  ·have:=(k2 _ _ h4).2;have:=h2.1;omega
  ·have:=(k2 _ _ h2).2;have:=h4.1;omega
  ·exact k1 i i' b hne h2 h4
 ·rintro i b (⟨h1,h2⟩|⟨h1,h2⟩)
  ·have:=h2.1;have:=h2.2;rw[i5];omega
  ·have:=k2 _ _ h2;rw[i5];omega
 ·have hkeep: ∀ {S:Nat→Prop} {t:VT} {v:Value},(∀b,S b→b≠G)→OV w3 S t v→OV (jO w3 G (j * 5) v0 v1 v2 v3 v4) S t v:=fun hS hv=>hv.keep fun b hb=>kQ v0 v1 v2 v3 v4 (hS b hb);by_cases e:i=j
  ·subst e;obtain⟨e0,e1,e2,e3,e4⟩:=us f (i * 5) v0 v1 v2 v3 v4;rw[e0,e1,e2,e3,e4];exact(hkeep (fun b hb=>by have:=hb.1;omega) hx).imp fun b hb=> .inl ⟨rfl,hb⟩
  ·rw[fK (by omega),fK (by omega),fK (by omega),fK (by omega),fK (by omega)];have h1:=k3 i hi (by omega);have h2:=h1.keep (w':=w3) fun b hb'=>hb b (k2 _ _ hb').2 (by have:=(k2 _ _ hb').1;omega);exact(hkeep (fun b hb=>by have:=(k2 _ _ hb).1;omega) h2).imp fun b hb=> .inr ⟨by omega,hb⟩
theorem pn {w:World}{G:Nat}{l:List VT}{f:Nat→Value}(hr:w.rowIs G 43 (l.length * 5) f)(hp:l5 w G l f l.length)(hl:l.length≤1759218604390):OVA w (fun b=>G≤b∧b<w.heap.size) (some ⟨G,0,none⟩) l.length l:=by
 obtain⟨cur,hh,hsz,hc⟩:=hr;obtain⟨Fs,k1,k2,k3⟩:=hp;have hG:=(Array.getElem?_eq_some_iff.1 hh).1;have hlen:cur.toList.length=l.length * 5:=by simpa using hsz
 refine⟨cur.toList,⟨hlen,.inr ⟨G,l.length,cur,rfl,Nat.zero_le _,hh,Nat.le_refl _,by unfold maxLen;omega,hsz,by rw[←hlen,List.take_length]⟩⟩,fun a ha=>(by cases ha;exact⟨Nat.le_refl _,hG⟩),?_⟩;refine OVs.of Fs hlen k1 (fun j b hb=>⟨⟨by have:=(k2 _ _ hb).1;omega,(k2 _ _ hb).2⟩,fun a ha=>(by cases ha;have:=(k2 _ _ hb).1;show G≠b;omega)⟩) fun j hj=> ?_;have hcc: ∀i,i<l.length * 5→cur.toList[i]? =some (f i):=fun i hi=>by rw[Array.getElem?_toList];exact hc i hi
 exact⟨_,_,_,_,_,hcc _ (by omega),hcc _ (by omega),hcc _ (by omega),hcc _ (by omega),hcc _ (by omega),k3 j hj hj⟩
def nN (n:Nat):Prop:= ∀(S:Nat→Prop) (t:VT) (v:Value) (w:World),ao t≤n→(∀b,S b→b<w.heap.size)→LV w S t v→
 Calls Tryz.prog 59 #[v] w fun e w'=> ∃v',e= .returned v'∧OV w' (Iv w.heap.size w'.heap.size) t v'∧Below w.heap.size w w'
theorem vJ {n:Nat}(hcl:nN n)(S:Nat→Prop)(A:Option Addr)(c:Nat)(l:List VT)(w:World)(hd:aN l≤n)(hS: ∀b,S b→b<w.heap.size)(h:LVA w S A l)(hl:l.length≤1759218604390):
  Calls Tryz.prog 95 #[.slice A l.length c,.func (.func 59) #[] #[]] w fun e w'=> ∃A' c',e= .returned (.slice A' l.length c')∧OVA w' (Iv w.heap.size w'.heap.size) A' c' l∧Below w.heap.size w w':=by
 by_cases hl0:l.length=0
 ·have hnil:=List.eq_nil_of_length_eq_zero hl0;subst hnil;go_enter Tryz.func95,Tryz.ntmps95;go_wp2_with fail;go_ret;exact⟨none,0,rfl,vP _ _,Below.refl _ _⟩
 ·obtain⟨b,off,rfl,hb,hls⟩:=h (by omega);obtain⟨i0,hi,hz0,hz1,hz2⟩:=info_parts Tryz.infoVal;have HL:=hid hl;have HLS:=hid hls;have hne:((l.length:Int) == 0)=false:=by simp;intro h;simp[h]at hl0
  have hlb:l.length≤4611686018427387904:=by omega
  have hcf: ∀(args:Array Value) (W:World),(callFunc 59 args).run Tryz.prog W= .ok (.enter 59 args) W:=nF;clear h hls hl;go_enter Tryz.func95,Tryz.ntmps95;go_wp2_with(at_make;go_must (refine wpList_make_full _ rfl _ _ 40 rfl w.heap.size 43 i0 _ 5 Tryz.underlying40 hi hz0 hz1 .i64 .i64 _ _ l.length rfl rfl rfl rfl ?b0 ?b1 ?b2 ?_));case b0=>have:=HL.out;rw[hz2];omega
  case b1=>have:=HL.out;unfold maxLen;omega
  case b2=>exact Nat.le_refl _
  intro w1 hown hg;obtain⟨f0,hrow⟩:=nW hown (v:= .slice none 0 0);have hb1:Below w.heap.size w w1:=cP hg (Nat.le_refl _) (fun k hk=>by cases hk);have HROW:=hid hrow;have HB1:=hid hb1;clear hown hg hrow hb1;obtain⟨G,hG⟩: ∃G,G=w.heap.size:=⟨_,rfl⟩;rw[←hG]at HROW ⊢;have HG:=hid hG;clear hG;go_wp2_with fail;have hGlt:=HROW.out.lt
  go_loopw [16] (fun i wr=> ∃(j:Nat) (f:Nat→Value),i= .int .i64 j∧j≤l.length∧Hid (wr.rowIs G 43 (l.length * 5) f∧l5 wr G l f j∧Below w.heap.size w wr)) (fun i _=>l.length - (intOf i).toNat)
  case atStart=>exact⟨0,f0,rfl,Nat.zero_le _,HROW.out,⟨fun _ _=>False,fun _ _ _ _ h _=>h,fun _ _ h=>h.elim,fun i _ h=>absurd h (by omega)⟩,HB1.out⟩
  case round=>
   obtain⟨j,f,rfl,hj,HI⟩:=hrel;by_cases hlt:j<l.length
   ·obtain⟨c0,c1,c2,c3,c4,h0,h1,h2,h3,h4,hx⟩:=HLS.out.at j hlt;obtain⟨A2,e2,A3,e3,hag,-⟩:=hx.shape;injection hag with hag;injection hag with hag
    injection hag with y0 hag;injection hag with y1 hag;injection hag with y2 hag;injection hag with y3 hag;injection hag with y4 hag
    subst y0 y1 y2 y3 y4;have hw: ∀o,wr.cell? ⟨b,o,none⟩=w.cell? ⟨b,o,none⟩:=fun o=>HI.out.2.2.cell (p:=⟨b,o,none⟩) (hS b hb);rw[←hw]at h0 h1 h2 h3 h4;have hS1:=cy hS HI.out.2.2;have hS2: ∀b,S b→b<(wr.alloc (.cells #[.int .i64 l[j].kind,.int .i64 l[j].num,.string l[j].text,.slice A2 l[j].items.length e2,.slice A3 l[j].names.length e3] 43)).heap.size:=dS hS1 _;have IH:=hid (hcl S l[j] _ _ (Nat.le_trans (bz (List.getElem_mem hlt)) hd) hS2 ((hx.below hS HI.out.2.2).alloc hS1 _));have hGr:=HI.out.1.lt;clear hx hw hS1 hS2;go_wp2_with fail;refine IH.out.mono ?_;rintro e w3 ⟨v',rfl,hv,hb3⟩;obtain⟨A4,e4,A5,e5,xs4,rfl,-⟩:=hv.shape;have hb3':Below wr.heap.size wr w3:=aw (ae _) hb3;have hrow3:w3.rowIs G 43 (l.length * 5) f:=HI.out.1.of_block (hb3'.block G hGr);have hpart:=HI.out.2.1.next hlt hb3'.size hGr (fun b hb _=>hb3'.block b hb) (hv.imp fun b hb=>⟨Nat.le_trans (by simp) hb.1,hb.2⟩)
    have HF:Hid ((jO w3 G (j * 5) (.int .i64 l[j].kind) (.int .i64 l[j].num) (.string l[j].text) (.slice A4 l[j].items.length e4) (.slice A5 l[j].names.length e5)).rowIs G 43 (l.length * 5) _∧l5 _ G l _ (j+1)∧Below w.heap.size w (jO w3 G (j * 5) (.int .i64 l[j].kind) (.int .i64 l[j].num) (.string l[j].text) (.slice A4 l[j].items.length e4) (.slice A5 l[j].names.length e5))):=
     hid ⟨uT hrow3 _ _ _ _ _,hpart,ks _ _ _ _ _ (HI.out.2.2.trans (hb3'.mono HI.out.2.2.size)) (by have:=HG.out;omega)⟩
    have m0:=hrow3.cell (i:=j * 5) (by omega);have m1:=hrow3.cell (i:=j * 5+1) (by omega);have m2:=hrow3.cell (i:=j * 5+2) (by omega);have m3:=hrow3.cell (i:=j * 5+3) (by omega);have m4:=hrow3.cell (i:=j * 5+4) (by omega);have n0:=hrow3.frozen (j * 5);have n1:=hrow3.frozen (j * 5+1);have n2:=hrow3.frozen (j * 5+2);have n3:=hrow3.frozen (j * 5+3);have n4:=hrow3.frozen (j * 5+4);have hlb2:=HL.out;clear hv hb3 hb3' hrow3 hpart IH h0 h1 h2 h3 h4;go_wp2_with fail
    go_roundw
    case rel=>exact⟨j+1,_,by go_num,by omega,HF.out⟩
    case measure=>simp[intOf];omega
   ·go_wp2_with fail;go_ret;obtain rfl:j=l.length:=by omega
    exact⟨some ⟨G,0,none⟩,l.length,rfl,(pn HI.out.1 HI.out.2.1 HL.out).imp fun b hb=>⟨by have:=hb.1;have:=HG.out;omega,hb.2⟩,HI.out.2.2⟩
theorem qy {n:Nat}(hcl:nN n):nN (n+1):=by
 intro S t v w hd hS h;have HLEN:=hid h.lens;obtain⟨A,c,A',c',rfl,k1,k2,k3,k4,k5,k6,k7⟩:=h.shape;clear h
 cases t with
 |mk k i s l ns=>
 simp only[VT.kind,VT.num,VT.text,VT.items,VT.names]at *;have HK:=hid (And.intro k1 (And.intro k2 k3));have hdl:aN l≤n:=by rw[aH]at hd;omega
 have hb0:Below w.heap.size w ((w.alloc (.cells #[.int .i64 k,.int .i64 i,.string s,.slice A l.length c,.slice A' ns.length c'] 43)).alloc (.cells #[.int .i64 0,.int .i64 0,.string ⟨#[]⟩,.slice none 0 0,.slice none 0 0] 43)):=(ae _).alloc (by simp) _;have hX:Box ((w.alloc (.cells #[.int .i64 k,.int .i64 i,.string s,.slice A l.length c,.slice A' ns.length c'] 43)).alloc (.cells #[.int .i64 0,.int .i64 0,.string ⟨#[]⟩,.slice none 0 0,.slice none 0 0] 43)) w.heap.size (.int .i64 k) (.int .i64 i) (.string s) (.slice A l.length c) (.slice A' ns.length c'):=(Box.new _ _ _ _ _).alloc _
 have hY:Box ((w.alloc (.cells #[.int .i64 k,.int .i64 i,.string s,.slice A l.length c,.slice A' ns.length c'] 43)).alloc (.cells #[.int .i64 0,.int .i64 0,.string ⟨#[]⟩,.slice none 0 0,.slice none 0 0] 43)) (w.heap.size+1) (.int .i64 0) (.int .i64 0) (.string ⟨#[]⟩) (.slice none 0 0) (.slice none 0 0):=by
  have:=Box.new (w:=(w.alloc (.cells #[.int .i64 k,.int .i64 i,.string s,.slice A l.length c,.slice A' ns.length c'] 43))) (.int .i64 0) (.int .i64 0) (.string ⟨#[]⟩) (.slice none 0 0) (.slice none 0 0);simpa using this
 have HA:=hid (vJ hcl S A c l _ hdl (cy hS hb0) (k7.keep fun b hb=>hb0.block b (hS b hb)) HLEN.out.1);have K6:=hid k6;have HB0:=hid hb0;have HX:=hid hX;have HY:=hid hY;clear k1 k2 k3 k4 k5 k6 k7 hb0 hX hY;go_enter Tryz.func59,Tryz.ntmps59;go_wp2_with fail;refine HA.out.mono ?_;rintro e w1 ⟨A2,c2,rfl,hla,hb1⟩;have hx:=HX.out.call hb1;have HX1:=hid hx;have HY1:=hid (HY.out.call hb1);have HB1:=hid (aw HB0.out hb1);have HLA:=hid hla;have x3:=hx.c3;have x4:=hx.c4;have xf:=hx.free 3;clear hx hla hb1 HA HX HY;go_wp2_with fail;obtain⟨h,hh⟩: ∃h,h=w.heap.size:=⟨_,rfl⟩;rw[←hh]at HX1 HY1 x3 x4 xf ⊢;have HH:=hid hh;clear hh;obtain⟨W1,hW1⟩: ∃W1:World,W1=w1.setCell ⟨h,3,none⟩ (.slice A2 l.length c2):=⟨_,rfl⟩;rw[←hW1];have sz1:W1.heap.size=w1.heap.size:=by rw[hW1];simp[World.setCell]
 have bk1: ∀b,b≠h→W1.heap[b]? =w1.heap[b]? :=fun b hb=>by rw[hW1];exact Below.heap_setCell _ _ _ _ hb
 have BX1:=HX1.out.set3 (.slice A2 l.length c2);rw[←hW1]at BX1;have BY1:=HY1.out.far (p:=⟨h,3,none⟩) (by simp) (.slice A2 l.length c2);rw[←hW1]at BY1;have bw1:Below w.heap.size w W1:=by rw[hW1];exact HB1.out.setCell (by have:=HH.out;simp;omega) _
 have hw1s:h+1<w1.heap.size:=HY1.out.lt;have hz1:h+2≤W1.heap.size:=by rw[sz1];omega
 have hla1:OVA W1 (Iv (h+2) W1.heap.size) A2 c2 l:=by
  have e:=HH.out;refine(OVA.keep (w':=W1) HLA.out (fun b hb=>bk1 b (by have:=hb.1;simp at this;omega))).imp fun b hb=>⟨by have:=hb.1;simp at this;omega,by rw[sz1];exact hb.2⟩
 have HN:=hid (lE S A' c' ns W1 (K6.out.keep fun b hb=>bw1.block b (hS b hb)) HLEN.out.2);have BX1:=hid BX1;have BY1:=hid BY1;have HBW1:=hid bw1;have HLA1:=hid hla1;clear hW1 sz1 bk1 bw1 hla1 HX1 HY1 HB1 HLA x3 x4 xf K6 HB0 hw1s;refine HN.out.mono ?_;rintro e w2 ⟨A3,c3,rfl,hst,hb2⟩;have BX2:=hid (BX1.out.call hb2);have BY2:=hid (BY1.out.call hb2);have HBW2:=hid (aw HBW1.out hb2);have hla2:OVA w2 (Iv (h+2) W1.heap.size) A2 c2 l:=OVA.keep (w':=w2) HLA1.out (fun b hb=>hb2.block b hb.2);have hst2:ONS w2 (Iv W1.heap.size w2.heap.size) A3 c3 ns:=hst;have HLA2:=hid hla2;have HST2:=hid hst2;have y0:=BX2.out.c0;have y1:=BX2.out.c1;have y2:=BX2.out.c2;have y3:=BX2.out.c3;have y4:=BX2.out.c4;have yf:=BX2.out.free 4;have z0:=BY2.out.c0;have z1:=BY2.out.c1;have z2:=BY2.out.c2;have z3:=BY2.out.c3;have z4:=BY2.out.c4;have zf0:=BY2.out.free 0;have zf1:=BY2.out.free 1;have zf2:=BY2.out.free 2;have zf3:=BY2.out.free 3;have zf4:=BY2.out.free 4;obtain⟨W2,hW2⟩: ∃W2:World,W2=w2.setCell ⟨h,4,none⟩ (.slice A3 ns.length c3):=⟨_,rfl⟩;have BX3:=BX2.out.set4 (.slice A3 ns.length c3);rw[←hW2]at BX3;have BY3:=BY2.out.far (p:=⟨h,4,none⟩) (by simp) (.slice A3 ns.length c3);rw[←hW2]at BY3;have HBW3:Hid (Below w.heap.size w W2):=hid (by rw[hW2];exact HBW2.out.setCell (by have:=HH.out;simp;omega) _);have sz2:W2.heap.size=w2.heap.size:=by rw[hW2];simp[World.setCell]
 have bk2: ∀b,b≠h→W2.heap[b]? =w2.heap[b]? :=fun b hb=>by rw[hW2];exact Below.heap_setCell _ _ _ _ hb
 have HLA3:Hid (OVA W2 (Iv (h+2) W1.heap.size) A2 c2 l):=hid (OVA.keep (w':=W2) HLA2.out (fun b hb=>bk2 b (by have:=hb.1;omega)));have HST3:Hid (ONS W2 (Iv W1.heap.size W2.heap.size) A3 c3 ns):=hid ((ONS.keep (w':=W2) HST2.out (fun b hb=>bk2 b (by have:=hb.1;omega))).imp fun b hb=>⟨hb.1,by rw[sz2];exact hb.2⟩);have hz2:W1.heap.size≤W2.heap.size:=by rw[sz2];exact hb2.size
 have BX3:=hid BX3;have BY3:=hid BY3;have EW:=hid hW2;clear hst hb2 hla2 hst2 BX1 BY1 HBW1 HLA1 BX2 BY2 HBW2 HLA2 HST2 hW2 sz2 bk2 HN;clear hcl hd hdl;go_wp2_with fail;rw[←EW.out]
 (try simp only[Exit.inBlock,Exit.then])
 have FIN:=((((BY3.out.set0 (.int .i64 k)).set1 (.int .i64 i)).set2 (.string s)).set3 (.slice A2 l.length c2)).set4 (.slice A3 ns.length c3);have hk: ∀b,h+2≤b→(jO W2 (h+1) 0 (.int .i64 k) (.int .i64 i) (.string s) (.slice A2 l.length c2) (.slice A3 ns.length c3)).heap[b]? =W2.heap[b]? :=fun b hb=>kQ _ _ _ _ _ (by omega);have hla:=OVA.keep HLA3.out fun b hb=>hk b hb.1;have hst:=ONS.keep HST3.out fun b hb=>hk b (by have:=hb.1;omega);have hbw:=ks (p:=0) (.int .i64 k) (.int .i64 i) (.string s) (.slice A2 l.length c2) (.slice A3 ns.length c3) HBW3.out (G:=h+1) (by have:=HH.out;omega);refine bodyPost_ret (results_cell_row rfl _ _ (h+1) 43 _ (0,0) _ rfl FIN Tryz.underlying43 rfl (by kernel_rfl)) rfl ?_;obtain⟨xs,y1,y2,y3⟩:=hla;have hh:=HH.out;have hsz:=Nat.le_of_eq (i5 W2 (h+1) 0 (.int .i64 k) (.int .i64 i) (.string s) (.slice A2 l.length c2) (.slice A3 ns.length c3)).symm;refine⟨_,rfl,OV.mk HK.out.1 HK.out.2.1 HK.out.2.2 HLEN.out.1 HLEN.out.2 hst.2.2 hst.1 y1 (fun a ha=> ?_) (fun a ha=> ?_) (fun a a' ha ha'=> ?_) (y3.imp fun b hb=> ?_),hbw⟩
 ·have:=hst.2.1 a ha;exact⟨by have:=this.1;omega,Nat.lt_of_lt_of_le this.2 hsz⟩
 ·have:=y2 a ha;exact⟨by have:=this.1;omega,Nat.lt_of_lt_of_le (Nat.lt_of_lt_of_le this.2 hz2) hsz⟩
 ·have k1:=(y2 a ha).2;have k2:=(hst.2.1 a' ha').1;omega
 ·have k1:=hb.1.1;have k2:=hb.1.2;exact⟨⟨by omega,Nat.lt_of_lt_of_le (Nat.lt_of_lt_of_le k2 hz2) hsz⟩,hb.2,fun a ha=>by have:=(hst.2.1 a ha).1;omega⟩
theorem tR : ∀n,nN n
 |0=>fun S t v w hd _ _=>by cases t;rw[aH]at hd;omega
 |n+1=>qy (tR n)
theorem i7 (S:Nat→Prop)(t:VT)(v:Value)(w:World)(hS: ∀b,S b→b<w.heap.size)(h:LV w S t v):
  Calls Tryz.prog 59 #[v] w fun e w'=> ∃v',e= .returned v'∧OV w' (Iv w.heap.size w'.heap.size) t v'∧Below w.heap.size w w':=tR (ao t) S t v w (Nat.le_refl _) hS h
theorem gM {α:Type}(a:Array α)(i j:Nat)(v:α):(a.setIfInBounds i v)[j]? =if i=j then(if j<a.size then some v else none)else a[j]? :=by
 rw[Array.getElem?_setIfInBounds];by_cases h:i=j
 ·subst h;simp
 ·rw[if_neg h,if_neg h]
def rdD (st:Option (List UInt8)):aR×Option (List UInt8):=
 if(av st).1=1 then(⟨1,(dU (av st).2).1,(jy (dU (av st).2).2).1,0⟩,(jy (dU (av st).2).2).2)
 else if(av st).1=3 then(⟨3,(dU (av st).2).1,jD,((aj 999 (dU (av st).2).2).1:Nat)⟩,(aj 999 (dU (av st).2).2).2)
 else(⟨(av st).1,(dU (av st).2).1,jD,0⟩,(dU (av st).2).2)
theorem tB (S:Nat→Prop)(d:aR)(cs:Array Value)(w:World)(hS: ∀b,S b→b<w.heap.size)(h:eb w S d cs)(hd:ao d.val≤4611686018427387903):
  Calls Tryz.prog 154 #[.agg cs] w fun e w'=>e= .returned (.bool (bS d))∧Below w.heap.size w w':=by
 obtain⟨PA,pc,VA,vc,VA',vc',rfl,hv,hp,hpc,hpn,hk,hn,hpl⟩:=h;obtain⟨w1,hw1⟩: ∃W,W=w.alloc (.cells #[.int .i64 d.kind,.slice PA d.path.length pc,.int .i64 d.val.kind,.int .i64 d.val.num,.string d.val.text,.slice VA d.val.items.length vc,.slice VA' d.val.names.length vc',.int .i64 d.num] 114):=⟨_,rfl⟩;have hbk:w1.heap[w.heap.size]? =some (.cells #[.int .i64 d.kind,.slice PA d.path.length pc,.int .i64 d.val.kind,.int .i64 d.val.num,.string d.val.text,.slice VA d.val.items.length vc,.slice VA' d.val.names.length vc',.int .i64 d.num] 114 (0,0)):=by rw[hw1];exact heap_alloc_new w _
 have hb1:Below w.heap.size w w1:=by rw[hw1];exact(Below.refl _ _).alloc (Nat.le_refl _) _
 have y0:=Go.Joins.cell_of_block hbk 0;have y1:=Go.Joins.cell_of_block hbk 1;have y2:=Go.Joins.cell_of_block hbk 2;have y3:=Go.Joins.cell_of_block hbk 3;have y4:=Go.Joins.cell_of_block hbk 4;have y5:=Go.Joins.cell_of_block hbk 5;have y6:=Go.Joins.cell_of_block hbk 6;have y7:=Go.Joins.cell_of_block hbk 7;have hS1: ∀b,S b→b<w1.heap.size:=fun b hb=>Nat.lt_of_lt_of_le (hS b hb) hb1.size;have hv1:=hv.keep fun b hb=>hb1.block b (hS b hb);have HMA:=hid (ve PA pc d.path w1 S (hp.keep fun b hb=>hb1.block b (hS b hb)) (by omega));have HCK:=hid (eY S d.val _ w1 hS1 hv1 hd);have HNO:=hid (lf S d.val _ w1 hS1 hv1);have HBK:=hid hbk;have HB1:=hid hb1;have HW1:=hid hw1;have HS:=hid hS;obtain⟨r,hr⟩: ∃r,r=bS d:=⟨_,rfl⟩;have HR:=hid hr;rw[←hr];clear hbk hb1 hS1 hv1 hv hp hpc hpn hk hn hpl hd hS hr;go_enter Tryz.func154,Tryz.ntmps154;go_wp2_with fail;rw[←hw1];clear hw1;refine HMA.out.mono ?_;rintro e w2 ⟨rfl,rfl⟩;clear HMA;cases hmp:ga d.path
 ·go_wp2_with fail;go_ret;exact⟨by rw[HR.out];unfold bS;rw[hmp];rfl,HB1.out⟩
 have HMP:=hid hmp;clear hmp;obtain⟨k,hk⟩: ∃k,k=d.kind:=⟨_,rfl⟩;rw[←hk]at y0;have HK:=hid hk.symm;clear hk;by_cases k1:k=1
 ·subst k1;go_wp2_with fail;refine HCK.out.mono ?_;rintro e w3 ⟨rfl,hb3⟩;have HB3:=hid (HB1.out.trans (hb3.mono HB1.out.size));have HBK3:=(hb3.block _ (Array.getElem?_eq_some_iff.1 HBK.out).1).trans HBK.out;have z7:=Go.Joins.cell_of_block HBK3 7;obtain⟨b1,d1⟩: ∃b,(aX d.val == 0)=b:=⟨_,rfl⟩;obtain⟨b2,d2⟩: ∃b,(d.num == 0)=b:=⟨_,rfl⟩
  have HE:Hid (bS d=(b1 && b2)):=hid (by
   rw[←d1,←d2];unfold bS;rw[HMP.out,HK.out];rw[Bool.eq_iff_iff]
   simp)
  clear hb3 HBK3 HCK;cases b1<;>cases b2
  all_goals
   go_wp2_with fail;go_ret;exact⟨by rw[HR.out,HE.out];rfl,HB3.out⟩
 have e1:=beq_false_of_ne k1;by_cases k2:k=2
 ·subst k2;go_wp2_with fail;refine HNO.out.mono ?_;rintro e w3 ⟨rfl,hb3⟩;have HB3:=hid (HB1.out.trans (hb3.mono HB1.out.size));have HBK3:=(hb3.block _ (Array.getElem?_eq_some_iff.1 HBK.out).1).trans HBK.out;have z7:=Go.Joins.cell_of_block HBK3 7;obtain⟨b1,d1⟩: ∃b,bm d.val=b:=⟨_,rfl⟩;obtain⟨b2,d2⟩: ∃b,(d.num == 0)=b:=⟨_,rfl⟩
  have HE:Hid (bS d=(b1 && b2)):=hid (by
   rw[←d1,←d2];unfold bS;rw[HMP.out,HK.out];rw[Bool.eq_iff_iff]
   simp)
  clear hb3 HBK3 HNO;cases b1<;>cases b2
  all_goals
   go_wp2_with fail;go_ret;exact⟨by rw[HR.out,HE.out];rfl,HB3.out⟩
 have e2:=beq_false_of_ne k2;by_cases k3:k=3
 ·subst k3;go_wp2_with fail;refine HNO.out.mono ?_;rintro e w3 ⟨rfl,hb3⟩;have HB3:=hid (HB1.out.trans (hb3.mono HB1.out.size));have HBK3:=(hb3.block _ (Array.getElem?_eq_some_iff.1 HBK.out).1).trans HBK.out;have z7:=Go.Joins.cell_of_block HBK3 7;obtain⟨b1,d1⟩: ∃b,bm d.val=b:=⟨_,rfl⟩;obtain⟨b2,d2⟩: ∃b,decide (d.num≥0)=b:=⟨_,rfl⟩;obtain⟨b3,d3⟩: ∃b,decide (d.num≤999)=b:=⟨_,rfl⟩
  have HE:Hid (bS d=(b1 && (b2 && b3))):=hid (by
   rw[←d1,←d2,←d3];unfold bS;rw[HMP.out,HK.out];rw[Bool.eq_iff_iff]
   simp)
  clear hb3 HBK3 HNO;cases b1<;>cases b2<;>cases b3
  all_goals
   go_wp2_with fail;go_ret;exact⟨by rw[HR.out,HE.out];rfl,HB3.out⟩
 have e3:=beq_false_of_ne k3
 have HN:Hid (bS d=false):=hid (by
  unfold bS;rw[HK.out]
  simp[k1,k2,k3])
 clear k1 k2 k3;go_wp2_with fail;go_ret;exact⟨by rw[HR.out,HN.out];rfl,HB1.out⟩
theorem kY {α:Type}{p:α→Bool}{l:List α}(h: ∀j (h:j<l.length),p l[j]=true):l.all p=true:=by
 rw[List.all_eq_true];intro x hx;obtain⟨j,hj,rfl⟩:=List.mem_iff_getElem.1 hx;exact h j hj
theorem mJ {α:Type}{p:α→Bool}{l:List α}{j:Nat}(hj:j<l.length)(h:p l[j]=false):l.all p=false:=by
 rw[List.all_eq_false];exact⟨l[j],List.getElem_mem hj,by rw[h];simp⟩
theorem m6 (S:Nat→Prop)(d:aR)(cs:Array Value)(w:World)(hS: ∀b,S b→b<w.heap.size)(h:eb w S d cs)(hd:ao d.val≤4611686018427387903):
  Calls Tryz.prog 153 #[.agg cs] w fun e w'=>e= .returned (.bool (!bS d))∧Below w.heap.size w w':=by
 obtain⟨PA,pc,VA,vc,VA',vc',rfl,hv,hp,hpc,hpn,hk,hn,hpl⟩:=id h;obtain⟨w1,hw1⟩: ∃W,W=w.alloc (.cells #[.int .i64 d.kind,.slice PA d.path.length pc,.int .i64 d.val.kind,.int .i64 d.val.num,.string d.val.text,.slice VA d.val.items.length vc,.slice VA' d.val.names.length vc',.int .i64 d.num] 114):=⟨_,rfl⟩;have hbk:w1.heap[w.heap.size]? =some (.cells #[.int .i64 d.kind,.slice PA d.path.length pc,.int .i64 d.val.kind,.int .i64 d.val.num,.string d.val.text,.slice VA d.val.items.length vc,.slice VA' d.val.names.length vc',.int .i64 d.num] 114 (0,0)):=by rw[hw1];exact heap_alloc_new w _
 have hb1:Below w.heap.size w w1:=by rw[hw1];exact(Below.refl _ _).alloc (Nat.le_refl _) _
 have y0:=Go.Joins.cell_of_block hbk 0;have y1:=Go.Joins.cell_of_block hbk 1;have y2:=Go.Joins.cell_of_block hbk 2;have y3:=Go.Joins.cell_of_block hbk 3;have y4:=Go.Joins.cell_of_block hbk 4;have y5:=Go.Joins.cell_of_block hbk 5;have y6:=Go.Joins.cell_of_block hbk 6;have y7:=Go.Joins.cell_of_block hbk 7;have HM:=hid (tB S d _ w1 (fun b hb=>Nat.lt_of_lt_of_le (hS b hb) hb1.size) (h.below hS hb1) hd);have HB1:=hid hb1;clear hbk hb1 h hv hp hpc hpn hk hn hpl hS hd;go_enter Tryz.func153,Tryz.ntmps153;go_wp2_with fail;rw[←hw1];refine HM.out.mono ?_;rintro e w2 ⟨rfl,hb2⟩;have HB2:=hid (HB1.out.trans (hb2.mono HB1.out.size));clear hb2;clear HM;go_wp2_with fail;go_ret;exact⟨rfl,HB2.out⟩
theorem tI (S:Nat→Prop)(A:Option Addr)(c:Nat)(l:List aR)(w:World)(hS: ∀b,S b→b<w.heap.size)(h:bk w S A l)(hn:l.length≤140737488351232)(hd:eo l):
  Calls Tryz.prog 175 #[.slice A l.length c,.func (.func 153) #[] #[]] w fun e w'=>(∃i:Int,e= .returned (.int .i64 i)∧decide (0≤i)=(!(l.all bS)))∧Below w.heap.size w w':=by
 have H:=hid h;have HS:=hid hS;have HD:=hid hd;have HN:=hid hn;clear h hS hd;go_enter Tryz.func175,Tryz.ntmps175;go_wp2_with fail
 go_loopw [8] (fun i wr=> ∃k:Nat,i= .int .i64 k∧k≤l.length∧Hid (Below w.heap.size w wr)∧Hid (∀j (h:j<l.length),j<k→bS l[j]=true)) (fun i _=>l.length - (intOf i).toNat)
 case atStart=>exact⟨0,rfl,by omega,hid (Below.refl _ _),hid fun j _ h=>absurd h (by omega)⟩
 case round=>
  obtain⟨k,rfl,hk,HB,HJ⟩:=hrel;by_cases hlt:k<l.length
  ·have hS2: ∀b,S b→b<wr.heap.size:=fun b hb=>Nat.lt_of_lt_of_le (HS.out b hb) HB.out.size;obtain⟨bp,off,PA,pc,VA,vc,VA',vc',rfl,hpS,ho,x0,x1,x2,x3,x4,x5,x6,x7⟩:=(H.out.below HS.out HB.out).cells k hlt;have HC:=hid (m6 S l[k] _ wr hS2 ho (HD.out _ (List.getElem_mem hlt)));clear ho hS2 hpS;go_wp2_with fail;refine HC.out.mono ?_;rintro e u ⟨rfl,hb⟩;have HB2:=hid (HB.out.trans (hb.mono HB.out.size));clear hb HC x0 x1 x2 x3 x4 x5 x6 x7;cases hm:bS l[k]
   ·have HM:=hid hm;clear hm;go_wp2_with fail;go_ret;exact⟨⟨k,rfl,by rw[mJ hlt HM.out];simp⟩,HB2.out⟩
   ·have HM:=hid hm;clear hm;go_wp2_with fail
    go_roundw
    case rel=>exact⟨k+1,by go_num,by omega,HB2,hid fun j h hjk=>by
     by_cases e:j=k
     ·subst e;exact HM.out
     ·exact HJ.out j h (by omega)⟩
    case measure=>simp[intOf];omega
  ·go_wp2_with fail;go_ret;exact⟨⟨-1,rfl,by rw[kY fun j h=>HJ.out j h (by omega)];rfl⟩,HB.out⟩
theorem tq (S:Nat→Prop)(A:Option Addr)(c:Nat)(l:List aR)(w:World)(hS: ∀b,S b→b<w.heap.size)(h:bk w S A l)(hn:l.length≤140737488351232)(hd:eo l):
  Calls Tryz.prog 152 #[.slice A l.length c,.func (.func 153) #[] #[]] w fun e w'=>e= .returned (.bool (!(l.all bS)))∧Below w.heap.size w w':=by
 have HC:=hid (tI S A c l w hS h hn hd);clear h hS hd;go_enter Tryz.func152,Tryz.ntmps152;go_wp2_with fail;refine HC.out.mono ?_;rintro e u ⟨⟨i,rfl,hi⟩,hb⟩;have HI:=hid hi;have HB:=hid hb;clear hi hb HC;go_wp2_with fail;go_ret;exact⟨aE HI.out,HB.out⟩
theorem nS (S:Nat→Prop)(A:Option Addr)(c:Nat)(l:List aR)(w:World)(hS: ∀b,S b→b<w.heap.size)(h:bk w S A l)(hn:l.length≤140737488351232)(hd:eo l):
  Calls Tryz.prog 136 #[.slice A l.length c] w fun e w'=>e= .returned (.int .i64 (bo l))∧Below w.heap.size w w':=by
 have HC:=hid (tq S A c l w hS h hn hd);clear h hS hd;obtain⟨r,hr⟩: ∃r,r=bo l:=⟨_,rfl⟩;have HR:=hid hr;rw[←hr];clear hr;go_enter Tryz.func136,Tryz.ntmps136;by_cases h64:64<l.length
 ·have d1:decide ((l.length:Int)>64)=true:=decide_eq_true (by omega);go_wp2_with fail;go_ret;exact⟨by rw[HR.out];unfold bo;rw[if_pos h64];rfl,Below.refl _ _⟩
 ·have d1:decide ((l.length:Int)>64)=false:=decide_eq_false (by omega);have H64:=hid h64;clear h64;go_wp2_with fail;refine HC.out.mono ?_;rintro e u ⟨rfl,hb⟩;have HB:=hid hb;clear hb HC;cases ha:l.all bS
  ·have HA:=hid ha;clear ha;go_wp2_with fail;go_ret;exact⟨by rw[HR.out];unfold bo;rw[if_neg H64.out,HA.out];rfl,HB.out⟩
  ·have HA:=hid ha;clear ha;go_wp2_with fail;go_ret;exact⟨by rw[HR.out];unfold bo;rw[if_neg H64.out,HA.out];rfl,HB.out⟩
def i8 (st:Option (List UInt8)):Nat→List aR×Option (List UInt8)
  |0=>([],st)
  |k+1=>((i8 st k).1++[(rdD (i8 st k).2).1],(rdD (i8 st k).2).2)
def uC (st:Option (List UInt8)):List aR×Option (List UInt8):=match(i8 (aj 64 st).2 (aj 64 st).1).2 with
  |none=>([],none)
  |some r=>if bo (i8 (aj 64 st).2 (aj 64 st).1).1=0 then((i8 (aj 64 st).2 (aj 64 st).1).1,some r)else([],none)
theorem rP {st:Option (List UInt8)}{r:List UInt8}(h:(i8 (aj 64 st).2 (aj 64 st).1).2=some r):uC st=if bo (i8 (aj 64 st).2 (aj 64 st).1).1=0 then((i8 (aj 64 st).2 (aj 64 st).1).1,some r)else([],none):=by unfold uC;rw[h]
theorem th {t:VT}{r:Bool}(h:r=true↔t= .mk 0 0 ⟨#[]⟩ [] []):r=bm t:=by rw[Bool.eq_iff_iff,h,ej]
theorem sH (S:Nat→Prop)(d:aR)(cs:Array Value)(w:World)(hS: ∀b,S b→b<w.heap.size)(h:eb w S d cs)(hd:ao d.val≤4611686018427387903):
  Calls Tryz.prog 111 #[.agg cs] w fun e w'=>e= .returned (.bool (bS d))∧Below w.heap.size w w':=by
 obtain⟨PA,pc,VA,vc,VA',vc',rfl,hv,hp,hpc,hpn,hk,hn,hpl⟩:=h;obtain⟨w1,hw1⟩: ∃W,W=w.alloc (.cells #[.int .i64 d.kind,.slice PA d.path.length pc,.int .i64 d.val.kind,.int .i64 d.val.num,.string d.val.text,.slice VA d.val.items.length vc,.slice VA' d.val.names.length vc',.int .i64 d.num] 114):=⟨_,rfl⟩;have hbk:w1.heap[w.heap.size]? =some (.cells #[.int .i64 d.kind,.slice PA d.path.length pc,.int .i64 d.val.kind,.int .i64 d.val.num,.string d.val.text,.slice VA d.val.items.length vc,.slice VA' d.val.names.length vc',.int .i64 d.num] 114 (0,0)):=by rw[hw1];exact heap_alloc_new w _
 have hb1:Below w.heap.size w w1:=by rw[hw1];exact(Below.refl _ _).alloc (Nat.le_refl _) _
 have y0:=Go.Joins.cell_of_block hbk 0;have y1:=Go.Joins.cell_of_block hbk 1;have y2:=Go.Joins.cell_of_block hbk 2;have y3:=Go.Joins.cell_of_block hbk 3;have y4:=Go.Joins.cell_of_block hbk 4;have y5:=Go.Joins.cell_of_block hbk 5;have y6:=Go.Joins.cell_of_block hbk 6;have y7:=Go.Joins.cell_of_block hbk 7;have hS1: ∀b,S b→b<w1.heap.size:=fun b hb=>Nat.lt_of_lt_of_le (hS b hb) hb1.size;have hv1:=hv.keep fun b hb=>hb1.block b (hS b hb);have HMA:=hid (sV PA pc d.path w1 S (hp.keep fun b hb=>hb1.block b (hS b hb)) (by omega));have HNO:=hid (ei S (ao d.val) d.val (.mk 0 0 ⟨#[]⟩ [] []) _ (.agg #[.int .i64 0,.int .i64 0,.string ⟨#[]⟩,.slice none 0 0,.slice none 0 0]) _ (Nat.le_refl _) hS1 hv1 (rx _ _));have HD:=hid hd;have HV:=hid hv1;have HBK:=hid hbk;have HB1:=hid hb1;have HW1:=hid hw1;have HS:=hid hS;obtain⟨r,hr⟩: ∃r,r=bS d:=⟨_,rfl⟩;have HR:=hid hr;rw[←hr];clear hbk hb1 hS1 hv1 hv hp hpc hpn hk hn hpl hd hS hr;go_enter Tryz.func111,Tryz.ntmps111;go_wp2_with fail;rw[←hw1];clear hw1;refine HMA.out.mono ?_;rintro e w2 ⟨rfl,rfl⟩;clear HMA;cases hmp:ga d.path
 ·go_wp2_with fail;go_ret;exact⟨by rw[HR.out];unfold bS;rw[hmp];rfl,HB1.out⟩
 have HMP:=hid hmp;clear hmp;obtain⟨k,hk⟩: ∃k,k=d.kind:=⟨_,rfl⟩;rw[←hk]at y0;have HK:=hid hk.symm;clear hk;go_wp2_with fail;refine HNO.out.mono ?_;rintro e w3 ⟨⟨rn,rfl,hrn⟩,hb3⟩;obtain rfl:=th hrn;have HB3:=hid (HB1.out.trans (hb3.mono HB1.out.size));have hk3:=(hb3.block _ (Array.getElem?_eq_some_iff.1 HBK.out).1).trans HBK.out;have HV3:=hid (HV.out.keep fun b hb=>hb3.block b (Nat.lt_of_lt_of_le (HS.out b hb) HB1.out.size));have HBK3:=hid hk3;have x0:=Go.Joins.cell_of_block hk3 0;have x1:=Go.Joins.cell_of_block hk3 1;have x2:=Go.Joins.cell_of_block hk3 2;have x3:=Go.Joins.cell_of_block hk3 3;have x4:=Go.Joins.cell_of_block hk3 4;have x5:=Go.Joins.cell_of_block hk3 5;have x6:=Go.Joins.cell_of_block hk3 6;have x7:=Go.Joins.cell_of_block hk3 7;rw[HK.out]at x0;clear hb3 hk3 HNO hrn y0 y1 y2 y3 y4 y5 y6 y7 HV HBK;by_cases k1:k=1
 ·subst k1;have HCK:=hid (il S d.val _ w3 HD.out (fun b hb=>Nat.lt_of_lt_of_le (HS.out b hb) HB3.out.size) HV3.out);go_wp2_with fail;refine HCK.out.mono ?_;rintro e w4 ⟨rfl,hb4⟩;have HB4:=hid (HB3.out.trans (hb4.mono HB3.out.size));have HBK4:=(hb4.block _ (Array.getElem?_eq_some_iff.1 HBK3.out).1).trans HBK3.out;have z7:=Go.Joins.cell_of_block HBK4 7;obtain⟨b1,d1⟩: ∃b,(aX d.val == 0)=b:=⟨_,rfl⟩;obtain⟨b2,d2⟩: ∃b,(d.num == 0)=b:=⟨_,rfl⟩
  have HE:Hid (bS d=(b1 && b2)):=hid (by
   rw[←d1,←d2];unfold bS;rw[HMP.out,HK.out];rw[Bool.eq_iff_iff]
   simp)
  clear hb4 HBK4 HCK;cases b1<;>cases b2
  all_goals
   go_wp2_with fail;go_ret;exact⟨by rw[HR.out,HE.out];rfl,HB4.out⟩
 have e1:=beq_false_of_ne k1;by_cases k2:k=2
 ·subst k2;obtain⟨b1,d1⟩: ∃b,bm d.val=b:=⟨_,rfl⟩;obtain⟨b2,d2⟩: ∃b,(d.num == 0)=b:=⟨_,rfl⟩
  have HE:Hid (bS d=(b1 && b2)):=hid (by
   rw[←d1,←d2];unfold bS;rw[HMP.out,HK.out];rw[Bool.eq_iff_iff]
   simp)
  rw[d1];cases b1<;>cases b2
  all_goals
   go_wp2_with fail;go_ret;exact⟨by rw[HR.out,HE.out];rfl,HB3.out⟩
 have e2:=beq_false_of_ne k2;by_cases k3:k=3
 ·subst k3;obtain⟨b1,d1⟩: ∃b,bm d.val=b:=⟨_,rfl⟩;obtain⟨b2,d2⟩: ∃b,decide (d.num≥0)=b:=⟨_,rfl⟩;obtain⟨b3,d3⟩: ∃b,decide (d.num≤999)=b:=⟨_,rfl⟩
  have HE:Hid (bS d=(b1 && (b2 && b3))):=hid (by
   rw[←d1,←d2,←d3];unfold bS;rw[HMP.out,HK.out];rw[Bool.eq_iff_iff]
   simp)
  rw[d1];cases b1<;>cases b2<;>cases b3
  all_goals
   go_wp2_with fail;go_ret;exact⟨by rw[HR.out,HE.out];rfl,HB3.out⟩
 have e3:=beq_false_of_ne k3
 have HN:Hid (bS d=false):=hid (by
  unfold bS;rw[HK.out]
  simp[k1,k2,k3])
 clear k1 k2 k3;go_wp2_with fail;go_ret;exact⟨by rw[HR.out,HN.out];rfl,HB3.out⟩
end Go.Proofs.YtgfidiocmiolpaaGreat
