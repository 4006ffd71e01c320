/- Setting, dropping, cutting at a path: what stays, what may be, how deep. Plain. -/
import Derived.Test.YtgbopnlpaabelaaGreatDoorKTsD
import Derived.Test.YtgbopnlpaabelaaGreatDoorKSpJ
import Derived.Test.YtgbopnlpaabelaaGreatDoorKRefM
import Derived.Test.YtgbopnlpaabelaaGreatDoorKDlD
import Derived.Test.YtgbopnlpaabelaaGreatDoorKSpM
import Derived.Test.YtgbopnlpaabelaaGreatDoorKTrI
import Derived.Test.YtgbopnlpaabelaaGreatDoorKTrA
import Derived.Test.YtgbopnlpaabelaaGreatDoorKTrX
set_option maxHeartbeats 64000000
set_option maxRecDepth 100000
set_option linter.unusedVariables false
set_option linter.unusedSimpArgs false
namespace Go.Proofs.YtgbopnlpaabelaaGreatDoor
def gd (p q:List ByteArray):Prop:= ¬p <+: q∧ ¬q <+: p
theorem qo {q:List ByteArray}: ¬gd [] q:=fun h=>h.1 List.nil_prefix
theorem rH {p:List ByteArray}: ¬gd p []:=fun h=>h.2 List.nil_prefix
theorem pX {s:ByteArray}{r r':List ByteArray}(h:gd (s::r) (s::r')):gd r r':=
 ⟨fun k=>h.1 (List.cons_prefix_cons.2 ⟨rfl,k⟩),fun k=>h.2 (List.cons_prefix_cons.2 ⟨rfl,k⟩)⟩
theorem mn {s s':ByteArray}{r':List ByteArray}(h:gd [s] (s'::r')):s'≠s:=fun e=>by
 subst e;exact qo (pX h)
theorem rh (s s':ByteArray)(x:VT):ar (lX s x) s'=if s=s' then some x else none:=by
 rw[eV rfl];show cd [s] [x] s'=_;unfold cd
 split
 ·rfl
 ·rfl
theorem sq (x:VT): ∀ {r q:List ByteArray},gd r q→aV (al r x) q=none
 | [],_,h=>absurd h qo
 |_::_,[],h=>absurd h rH
 |s::r,s'::r',h=>by
  show aV (lX s (al r x)) (s'::r')=none;rw[aI,rh]
  split
  ·rename_i e;subst e;exact sq x (pX h)
  ·rfl
theorem oD {t:VT}{s:ByteArray}(h:0≤ab t s)(hj:(ab t s).toNat<t.items.length):ar t s=some t.items[(ab t s).toNat]:=by
 unfold ar;rw[if_neg (by omega),List.getElem?_eq_getElem hj]
theorem jI {t:VT}{s:ByteArray}(h:ab t s<0):ar t s=none:=by
 unfold ar;rw[if_pos h]
/-! ### what stays -/
theorem kD {fin:VT→List ByteArray→Int×VT}(hfin: ∀t s r s' r',ao t=true→(ab t s<0∨r= [])→gd (s::r) (s'::r')→aV (fin t (s::r)).2 (s'::r')=aV t (s'::r')):
  ∀(p:List ByteArray) (t:VT) (q:List ByteArray),ao t=true→gd p q→aV (goT fin t p).2 q=aV t q
 | [],_,_,_,h=>absurd h qo
 |_::_,_,[],_,h=>absurd h rH
 |s::r,t,s'::r',hm,h=>by
  by_cases he:ab t s<0∨r= []
  ·rw[bX he];exact hfin _ _ _ _ _ hm he h
  ·have h0:0≤ab t s:=Int.not_lt.1 fun k=>he (.inl k);have hr:r≠[]:=fun k=>he (.inr k);have hj:=aP (bT hm) h0;rw[eL h0 hr hj];show aV (bS _ _ _) (s'::r')=_;rw[aI,aI];by_cases e:s'=s
   ·subst e;rw[eT _ h0 hj,oD h0 hj];exact kD hfin r _ r' (cl hm hj) (pX h)
   ·rw[dB _ e h0]
theorem uc (t:VT)(s:ByteArray)(r:List ByteArray)(s':ByteArray)(r':List ByteArray)(hm:ao t=true)(he:ab t s<0∨r= [])(hf:gd (s::r) (s'::r')):aV (bh t (s::r)).2 (s'::r')=aV t (s'::r'):=by
 rw[bf];show aV (if _ then _ else _) _=_;by_cases hn:ab t s<0
 ·rw[if_pos hn]
 ·rw[if_neg hn];have h0:0≤ab t s:=Int.not_lt.1 hn;obtain rfl:=he.resolve_left hn;have hne:=mn hf;by_cases h7:t.kind=7
  ·rw[if_pos h7,aI,aI,rP h7 hne h0]
  ·rw[if_neg h7,aI,aI,dB _ hne h0]
theorem vt (n:Int)(t:VT)(s:ByteArray)(r:List ByteArray)(s':ByteArray)(r':List ByteArray)(hm:ao t=true)(he:ab t s<0∨r= [])(hf:gd (s::r) (s'::r')):aV (bD n t (s::r)).2 (s'::r')=aV t (s'::r'):=by
 rw[bF]
 split
 ·rfl
 ·show aV (if _ then _ else _) _=_;by_cases hn:ab t s<0
  ·rw[if_pos hn]
  ·rw[if_neg hn];have h0:0≤ab t s:=Int.not_lt.1 hn;obtain rfl:=he.resolve_left hn;have hne:=mn hf;have hj:=aP (bT hm) h0;rw[List.getElem?_eq_getElem hj];show aV (bS _ _ _) _=_;rw[aI,aI,dB _ hne h0]
theorem wI (x:VT)(t:VT)(s:ByteArray)(r:List ByteArray)(s':ByteArray)(r':List ByteArray)(hm:ao t=true)(he:ab t s<0∨r= [])(hf:gd (s::r) (s'::r')):aV (bz x t (s::r)).2 (s'::r')=aV t (s'::r'):=by
 rw[cg];by_cases hn:ab t s<0
 ·rw[if_neg (by omega)];by_cases h7:t.kind=7
  ·rw[if_pos h7];show aV (eW (gp t s) (al r x)) _=_;rw[aI,aI];by_cases e:s'=s
   ·subst e;rw[eQ _ h7 (cu hm h7) hn,jI hn];exact sq x (pX hf)
   ·rw[fx _ h7 (cu hm h7) e]
  ·rw[if_neg h7]
   split
   ·rename_i hk;obtain⟨h6,hx⟩:=hk;unfold fv at hx;rw[Bool.and_eq_true,decide_eq_true_eq,decide_eq_true_eq]at hx;obtain rfl:r= []:=List.eq_nil_of_length_eq_zero hx.2;show aV (eW t x) _=_;rw[aI,aI,lR _ h6 hx.1 (mn hf)]
   ·rfl
 ·have h0:0≤ab t s:=Int.not_lt.1 hn;rw[if_pos h0];obtain rfl:=he.resolve_left hn;show aV (bS _ _ _) _=_;rw[aI,aI,dB _ (mn hf) h0]
/-! ### what may be -/
def dR (p:List ByteArray):Prop:= ∀z∈p,bH z.data.toList=true
theorem ff {fin:VT→List ByteArray→Int×VT}(hfin: ∀t s r,ao t=true→(ab t s<0∨r= [])→dR (s::r)→ao (fin t (s::r)).2=true∧(fin t (s::r)).2.kind=t.kind):
  ∀(p:List ByteArray) (t:VT),ao t=true→dR p→ao (goT fin t p).2=true∧(goT fin t p).2.kind=t.kind
 | [],t,hm,_=>by unfold goT;exact⟨hm,rfl⟩
 |s::r,t,hm,hk=>by
  by_cases he:ab t s<0∨r= []
  ·rw[bX he];exact hfin _ _ _ hm he hk
  ·have h0:0≤ab t s:=Int.not_lt.1 fun k=>he (.inl k);have hr:r≠[]:=fun k=>he (.inr k);have hj:=aP (bT hm) h0;rw[eL h0 hr hj];exact⟨jB _ hm (ff hfin r _ (cl hm hj) fun z hz=>hk z (by simp[hz])).1,ez _ _ _⟩
theorem iG (t:VT)(s:ByteArray)(r:List ByteArray)(hm:ao t=true)(he:ab t s<0∨r= [])(hk:dR (s::r)):ao (bh t (s::r)).2=true∧(bh t (s::r)).2.kind=t.kind:=by
 rw[bf];show ao (if _ then _ else _)=true∧VT.kind (if _ then _ else _)=_;by_cases hn:ab t s<0
 ·rw[if_pos hn];exact⟨hm,rfl⟩
 ·rw[if_neg hn];have h0:0≤ab t s:=Int.not_lt.1 hn;by_cases h7:t.kind=7
  ·rw[if_pos h7];exact⟨uy h7 hm (aP (bT hm) h0),iM _ _⟩
  ·rw[if_neg h7];exact⟨jB _ hm yU,ez _ _ _⟩
theorem yT {x:VT}(n:Int)(h:ao x=true):ao (gB x n)=true:=by
 unfold gB
 split
 ·rename_i hk;exact xm _ hk.1 h
 ·exact h
theorem jS (n:Int)(t:VT)(s:ByteArray)(r:List ByteArray)(hm:ao t=true)(he:ab t s<0∨r= [])(hk:dR (s::r)):ao (bD n t (s::r)).2=true∧(bD n t (s::r)).2.kind=t.kind:=by
 rw[bF]
 split
 ·exact⟨hm,rfl⟩
 ·show ao (if _ then _ else _)=true∧VT.kind (if _ then _ else _)=_;by_cases hn:ab t s<0
  ·rw[if_pos hn];exact⟨hm,rfl⟩
  ·rw[if_neg hn];have h0:0≤ab t s:=Int.not_lt.1 hn;have hj:=aP (bT hm) h0;rw[List.getElem?_eq_getElem hj];exact⟨jB _ hm (yT n (cl hm hj)),ez _ _ _⟩
theorem mj (x:VT)(hx:ao x=true)(t:VT)(s:ByteArray)(r:List ByteArray)(hm:ao t=true)(he:ab t s<0∨r= [])(hk:dR (s::r)):ao (bz x t (s::r)).2=true∧(bz x t (s::r)).2.kind=t.kind:=by
 rw[cg];by_cases hn:ab t s<0
 ·rw[if_neg (by omega)];by_cases h7:t.kind=7
  ·rw[if_pos h7];exact⟨pP h7 hm (mx hx fun z hz=>hk z (by simp[hz])) (hk s (by simp)) hn,iE _ _ _⟩
  ·rw[if_neg h7]
   split
   ·rename_i h6;exact⟨zD h6.1 hm hx,kA _ _⟩
   ·exact⟨hm,rfl⟩
 ·have h0:0≤ab t s:=Int.not_lt.1 hn;rw[if_pos h0];exact⟨jB _ hm hx,ez _ _ _⟩
/-! ### the codes -/
theorem gi {fin:VT→List ByteArray→Int×VT}{c:Int→Prop}(h0:c 0)(hfin: ∀t s r,c (fin t (s::r)).1): ∀(p:List ByteArray) (t:VT),c (goT fin t p).1
 | [],t=>by unfold goT;exact h0
 |s::r,t=>by
  unfold goT
  split
  ·exact hfin _ _ _
  ·split
   ·exact h0
   ·exact gi h0 hfin r _
theorem oC (t:VT)(s:ByteArray)(r:List ByteArray):(bh t (s::r)).1=0:=rfl
theorem rd {n:Int}(hn:0≤n)(t:VT)(s:ByteArray)(r:List ByteArray):(bD n t (s::r)).1=0:=by
 rw[bF,if_neg (by omega)]
theorem yb (x t:VT)(s:ByteArray)(r:List ByteArray):(bz x t (s::r)).1=0∨(bz x t (s::r)).1=40:=by
 rw[cg]
 split
 ·exact .inl rfl
 ·split
  ·exact .inl rfl
  ·split
   ·exact .inl rfl
   ·exact .inr rfl
/-! ### how deep -/
theorem nf {N:Nat}: ∀ {l:List VT},(∀x∈l,ac x≤N)→aK l≤N
 | [],_=>by unfold aK;omega
 |x::l,h=>by
  unfold aK;have h1:=h x (by simp);have h2:=nf (N:=N) (l:=l) fun y hy=>h y (by simp[hy]);omega
theorem gh {t:VT}{N:Nat}(h: ∀x∈t.items,ac x≤N):ac t≤N+1:=by
 cases t with
 |mk k i s l ns=>
  rw[aN];have:=nf (l:=l) h;omega
theorem cE {t x:VT}(h:x∈t.items):ac x+1≤ac t:=by
 cases t with
 |mk k i s l ns=>
  rw[aN];have:=cj (l:=l) h;omega
theorem fo (t:VT):1≤ac t:=by
 cases t with
 |mk k i s l ns=>rw[aN];omega
theorem iL {t u:VT}{j K:Nat}(h:ac u≤ac t - 1+K):ac (bS t j u)≤ac t+K:=by
 have h0:=fo t
 have:=gh (t:=bS t j u) (N:=ac t - 1+K) fun x hx=>by
  rw[dq]at hx;rcases uQ hx with hx|rfl
  ·have:=cE hx;omega
  ·exact h
 omega
theorem iP {fin:VT→List ByteArray→Int×VT}{K L:Nat}(hfin: ∀t s r,r.length≤L→ac (fin t (s::r)).2≤ac t+K): ∀(p:List ByteArray) (t:VT),p.length≤L+1→ac (goT fin t p).2≤ac t+K
 | [],t,_=>by unfold goT;exact Nat.le_add_right _ _
 |s::r,t,hl=>by
  rw[List.length_cons]at hl;unfold goT
  split
  ·exact hfin _ _ _ (by omega)
  ·split
   ·exact Nat.le_add_right _ _
   ·rename_i y hy;have hm:y∈t.items:=List.mem_of_getElem? hy;have h1:=iP hfin r y (by omega);have h2:=cE hm;exact iL (by omega)
theorem tN :ac ka=1:=by kernel_rfl
theorem sW (t:VT)(s:ByteArray)(r:List ByteArray):ac (bh t (s::r)).2≤ac t+1:=by
 rw[bf];show ac (if _ then _ else _)≤_
 split
 ·omega
 ·split
  ·have h0:=fo t
   have:=gh (t:=nZ t (ab t s).toNat) (N:=ac t - 1) fun x hx=>by
    cases t with
    |mk k i z l ns=>
     have:=cE (t:= .mk k i z l ns) (List.mem_of_mem_eraseIdx hx);omega
   omega
  ·refine iL ?_;rw[tN];omega
theorem td (x:VT)(n:Int):ac (gB x n)≤ac x:=by
 unfold gB
 split
 ·have h0:=fo x
  have:=gh (t:=nQ x n.toNat) (N:=ac x - 1) fun y hy=>by
   cases x with
   |mk k i z l ns=>
    have:=cE (t:= .mk k i z l ns) (List.mem_of_mem_take hy);omega
  omega
 ·omega
theorem vC (n:Int)(t:VT)(s:ByteArray)(r:List ByteArray):ac (bD n t (s::r)).2≤ac t+1:=by
 rw[bF]
 split
 ·exact Nat.le_add_right _ _
 ·show ac (if _ then _ else _)≤_
  split
  ·omega
  ·split
   ·omega
   ·rename_i y hy;have h1:=td y n;have h2:=cE (List.mem_of_getElem? hy);exact iL (by omega)
theorem uY (s:ByteArray)(x:VT):ac (lX s x)≤ac x+1:=gh fun y hy=>by
 have hy':y∈[x]:=hy;rw[List.mem_singleton.1 hy'];omega
theorem nP (x:VT): ∀r:List ByteArray,ac (al r x)≤ac x+r.length
 | []=>Nat.le_refl _
 |s::r=>by
  have h1:=uY s (al r x);have h2:=nP x r;show ac (lX s (al r x))≤_;rw[List.length_cons];omega
theorem oR {t u:VT}{K:Nat}(hi:t.items=t.items)(h:ac u≤ac t - 1+K):ac (eW t u)≤ac t+K:=by
 have h0:=fo t
 have:=gh (t:=eW t u) (N:=ac t - 1+K) fun x hx=>by
  cases t with
  |mk k i z l ns=>
   rcases List.mem_append.1 hx with hx|hx
   ·have:=cE (t:= .mk k i z l ns) hx;omega
   ·rw[List.mem_singleton.1 hx];exact h
 omega
theorem tf (t:VT)(s:ByteArray):ac (gp t s)=ac t:=by
 cases t with
 |mk k i z l ns=>show ac (.mk k i z l (ns++[s]))=_;rw[aN,aN]
theorem wN (x:VT)(L:Nat)(t:VT)(s:ByteArray)(r:List ByteArray)(hr:r.length≤L):ac (bz x t (s::r)).2≤ac t+(ac x+L):=by
 rw[cg]
 split
 ·exact iL (by omega)
 ·split
  ·have h1:=nP x r;have:=oR (t:=gp t s) (u:=al r x) (K:=ac x+L) rfl (by omega);rw[tf]at this;exact this
  ·split
   ·exact oR rfl (by omega)
   ·exact Nat.le_add_right _ _
theorem eG {p:List ByteArray}(h:ce p=true):dR p:=by
 unfold ce at h;simp only[Bool.and_eq_true,List.all_eq_true]at h;exact h.2
theorem zu {p:List ByteArray}(h:ce p=true):p.length≤8:=by
 unfold ce at h;simp only[Bool.and_eq_true,decide_eq_true_eq]at h;exact h.1.2
theorem er {fin:VT→List ByteArray→Int×VT}{t:VT}{p:List ByteArray}(hw:dN t p=0)(h:(goT fin t p).1=0):bl fin t p=(0,(goT fin t p).2):=by
 unfold bl;rw[if_pos hw,if_pos h]
section
variable {t :VT} {p q:List ByteArray} (hw:dN t p=0) (hv:dN t q=0) (h1:kn p q=false) (h2:kn q p=false)
include hw hv h1 h2
end
theorem fk {t u:VT}{k:Nat}(h:t.items[k]? =some u):bS t k u=t:=by
 cases t with
 |mk kd i s l ns=>
  show VT.mk kd i s (l.set k u) ns=_;have h':l[k]? =some u:=h;obtain⟨hk,e⟩:=List.getElem?_eq_some_iff.1 h';rw[←e,List.set_getElem_self]
theorem qX {x:VT}: ∀(p:List ByteArray) (t:VT),aV t p=some x→goT (bz x) t p=(0,t)
 | [],t,_=>by unfold goT;rfl
 |s::r,t,h=>by
  rw[aI]at h
  cases hi:ar t s with
  |none=>rw[hi]at h;cases h
  |some u=>
   rw[hi]at h;have hu:aV u r=some x:=h;unfold ar at hi
   split at hi
   ·cases hi
   ·rename_i hn;have h0:0≤ab t s:=Int.not_lt.1 hn;have hj:(ab t s).toNat<t.items.length:=(List.getElem?_eq_some_iff.1 hi).1;have hje:t.items[(ab t s).toNat]=u:=(List.getElem?_eq_some_iff.1 hi).2;by_cases hr:r= []
    ·subst hr;unfold aV at hu;injection hu with hu
     subst hu;rw[bX (.inr rfl),cg,if_pos h0,fk hi]
    ·rw[eL h0 hr hj,hje,qX r u hu];show((0:Int),bS t _ u)=_;rw[fk hi]
theorem rS (x:VT): ∀r:List ByteArray,aV (al r x) r=some x
 | []=>by unfold aV;rfl
 |s::r=>by
  show aV (lX s (al r x)) (s::r)=_;rw[aI,rh,if_pos rfl];exact rS x r
theorem uM (x:VT): ∀(p:List ByteArray) (t:VT),p≠[]→ao t=true→(goT (bz x) t p).1=0→aV (goT (bz x) t p).2 p=some x
 | [],_,hp,_,_=>absurd rfl hp
 |s::r,t,_,hm,hc=>by
  by_cases he:ab t s<0∨r= []
  ·rw[bX he,cg]at hc ⊢;by_cases hn:ab t s<0
   ·rw[if_neg (by omega)]at hc ⊢;by_cases h7:t.kind=7
    ·rw[if_pos h7];show aV (eW (gp t s) (al r x)) _=_;rw[aI,eQ _ h7 (cu hm h7) hn];exact rS x r
    ·rw[if_neg h7]at hc ⊢;by_cases h6:t.kind=6∧fv t s r=true
     ·rw[if_pos h6];obtain⟨h6,hx⟩:=h6;unfold fv at hx;rw[Bool.and_eq_true,decide_eq_true_eq,decide_eq_true_eq]at hx;obtain rfl:r= []:=List.eq_nil_of_length_eq_zero hx.2;show aV (eW t x) _=_;rw[aI,mP _ h6 hx.1];show aV x []=_;unfold aV;rfl
     ·rw[if_neg h6]at hc;cases hc
   ·have h0:0≤ab t s:=Int.not_lt.1 hn;obtain rfl:=he.resolve_left hn;rw[if_pos h0];show aV (bS _ _ _) _=_;rw[aI,eT _ h0 (aP (bT hm) h0)];show aV x []=_;unfold aV;rfl
  ·have h0:0≤ab t s:=Int.not_lt.1 fun k=>he (.inl k);have hr:r≠[]:=fun k=>he (.inr k);have hj:=aP (bT hm) h0;rw[eL h0 hr hj]at hc ⊢;show aV (bS _ _ _) _=_;rw[aI,eT _ h0 hj];exact uM x r _ hr (cl hm hj) hc
end Go.Proofs.YtgbopnlpaabelaaGreatDoor
/- Lengths behind a Set: plain; and what the law asks of one. -/
namespace Go.Proofs.YtgbopnlpaabelaaGreatDoor
open Go.RowKit
theorem iD {K:Nat}{t y:VT}{j:Nat}(h:aR K t=true)(hy:aR K y=true):aR K (bS t j y)=true:=by
 obtain⟨h1,h2,h3⟩:=(bj t).1 h
 cases t with
 |mk k i s l ns=>
  refine(bj _).2 ⟨by show(l.set j y).length≤K;rw[List.length_set];exact h1,h2,fun x hx=> ?_⟩;rcases List.mem_or_eq_of_mem_set (show x∈l.set j y from hx)with hx|rfl
  ·exact h3 x hx
  ·exact hy
theorem wj {K:Nat}{t y:VT}(h:aR K t=true)(hy:aR (K+1) y=true):aR (K+1) (eW t y)=true:=by
 obtain⟨h1,h2,h3⟩:=(bj t).1 h
 cases t with
 |mk k i s l ns=>
  simp only[VT.items,VT.names]at h1 h2 h3;refine(bj _).2 ⟨by show(l++[y]).length≤K+1;simp;omega,by show ns.length≤K+1;omega,fun x hx=> ?_⟩;rcases List.mem_append.1 (show x∈l++[y] from hx)with hx|hx
  ·exact bR (by omega) x (h3 x hx)
  ·rw[List.mem_singleton.1 hx];exact hy
theorem sB {K:Nat}{t y:VT}{s:ByteArray}(h:aR K t=true)(hy:aR (K+1) y=true):aR (K+1) (eW (gp t s) y)=true:=by
 obtain⟨h1,h2,h3⟩:=(bj t).1 h
 cases t with
 |mk k i x l ns=>
  simp only[VT.items,VT.names]at h1 h2 h3;refine(bj _).2 ⟨by show(l++[y]).length≤K+1;simp;omega,by show(ns++[s]).length≤K+1;simp;omega,fun x hx=> ?_⟩;rcases List.mem_append.1 (show x∈l++[y] from hx)with hx|hx
  ·exact bR (by omega) x (h3 x hx)
  ·rw[List.mem_singleton.1 hx];exact hy
theorem oS {K:Nat}{x:VT}(hK:1≤K)(hx:aR K x=true): ∀r:List ByteArray,aR K (al r x)=true
 | []=>hx
 |s::r=>by
  show aR K (lX s (al r x))=true;refine(bj _).2 ⟨hK,hK,fun y hy=> ?_⟩;rw[List.mem_singleton.1 (show y∈[al r x] from hy)];exact oS hK hx r
theorem rt {K:Nat}{x:VT}(hx:aR K x=true): ∀(p:List ByteArray) (t:VT),ao t=true→aR K t=true→aR (K+1) (goT (bz x) t p).2=true
 | [],t,_,h=>by unfold goT;exact bR (by omega) t h
 |s::r,t,hm,h=>by
  have hx1:=bR (Nat.le_succ K) x hx;have ht1:=bR (Nat.le_succ K) t h;by_cases he:ab t s<0∨r= []
  ·rw[bX he,cg];by_cases h0:0≤ab t s
   ·rw[if_pos h0];exact iD ht1 hx1
   ·rw[if_neg h0];by_cases h7:t.kind=7
    ·rw[if_pos h7];exact sB h (oS (by omega) hx1 r)
    ·rw[if_neg h7];by_cases h6:t.kind=6∧fv t s r=true
     ·rw[if_pos h6];exact wj h hx1
     ·rw[if_neg h6];exact ht1
  ·have h0:0≤ab t s:=Int.not_lt.1 fun k=>he (.inl k);have hr:r≠[]:=fun k=>he (.inr k);have hj:=aP (bT hm) h0;rw[eL h0 hr hj];exact iD ht1 (rt hx r _ (cl hm hj) (((bj t).1 h).2.2 _ (List.getElem_mem hj)))
end Go.Proofs.YtgbopnlpaabelaaGreatDoor
/- Changes done one behind the other: plain. -/
namespace Go.Proofs.YtgbopnlpaabelaaGreatDoor
def doD (d:au)(t:VT):Int×VT:=if d.kind=1 then(if ao d.val=true then bl (bz d.val) t d.path else(20,aT))else if d.kind=2 then bl bh t d.path else bl (bD d.num) t d.path
def doL :List au→VT→Int×VT
 | [],t=>(0,t)
 |d::r,t=>if(doD d t).1=0 then doL r (doD d t).2 else((doD d t).1,aT)
def aQ (l:List au)(t:VT):Int×VT:=if cO l≠0 then(cO l,aT)else if cS t=true then doL l t else(20,aT)
theorem qy : ∀(l:List au) (d:au) (t:VT),doL (l++[d]) t=if(doL l t).1=0 then(if(doD d (doL l t).2).1=0 then doD d (doL l t).2 else((doD d (doL l t).2).1,aT))else doL l t
 | [],d,t=>by
  show(if _ then doL [] _ else _)=_;unfold doL;by_cases h:(doD d t).1=0
  ·rw[if_pos h,if_pos rfl,if_pos h,←h]
  ·rw[if_neg h,if_pos rfl,if_neg h]
 |a::l,d,t=>by
  show(if _ then doL (l++[d]) _ else _)=if(if _ then doL l _ else _).1=0 then _ else(if _ then doL l _ else _)
  by_cases h:(doD a t).1=0
  ·simp only[doL];simp only[if_pos h];exact qy l d _
  ·simp only[doL];simp only[if_neg h]
theorem zS {l r:List au}{t:VT}(h:(doL l t).1≠0):doL (l++r) t=((doL l t).1,aT):=by
 induction l generalizing t with
 |nil=>exact absurd rfl h
 |cons a l ih=>
  simp only[List.cons_append,doL]at h ⊢;by_cases h0:(doD a t).1=0
  ·rw[if_pos h0]at h ⊢;rw[if_pos h0];exact ih h
  ·rw[if_neg h0,if_neg h0]
theorem bB {t:VT}:cS t=true↔ao t=true∧t.kind=7:=by
 unfold cS;rw[Bool.and_eq_true,decide_eq_true_eq];exact And.comm
theorem jW {t:VT}{p:List ByteArray}(ht:cS t=true)(hp:ce p=true):dN t p=0:=by
 unfold dN;rw[ht,hp];rfl
theorem mH {d:au}(h:co d=true)(hz:aA d.val≤9223372036854775807)(hk:d.kind=1):ao d.val=true∧ac d.val≤8∧aA d.val≤4096:=by
 unfold co at h;rw[Bool.and_eq_true,if_pos hk,Bool.and_eq_true,decide_eq_true_eq]at h;exact(jt hz).1 h.2.1
theorem fm {d:au}(h:co d=true):d.kind=1∨d.kind=2∨(d.kind=3∧0≤d.num∧d.num≤999):=by
 unfold co at h;rw[Bool.and_eq_true]at h;have h2:=h.2
 split at h2
 ·omega
 split at h2
 ·omega
 split at h2
 ·simp only[Bool.and_eq_true,decide_eq_true_eq]at h2;exact .inr (.inr ⟨by omega,h2.2.1,h2.2.2⟩)
 ·cases h2
theorem ur {d:au}{t:VT}(hk:d.kind=1)(hm:ao d.val=true):doD d t=bl (bz d.val) t d.path:=by unfold doD;rw[if_pos hk,if_pos hm]
theorem rT {d:au}{t:VT}(hk:d.kind=2):doD d t=bl bh t d.path:=by unfold doD;rw[if_neg (by omega),if_pos hk]
theorem uO {d:au}{t:VT}(hk:d.kind=3):doD d t=bl (bD d.num) t d.path:=by unfold doD;rw[if_neg (by omega),if_neg (by omega)]
theorem ze {K:Nat}{t:VT}{j:Nat}(h:aR K t=true):aR K (nZ t j)=true:=by
 obtain⟨h1,h2,h3⟩:=(bj t).1 h
 cases t with
 |mk k i s l ns=>
  simp only[VT.items,VT.names]at h1 h2 h3;refine(bj _).2 ⟨?_,?_,fun x hx=>h3 x (List.mem_of_mem_eraseIdx (show x∈l.eraseIdx j from hx))⟩
  ·show(l.eraseIdx j).length≤K;have:=List.length_eraseIdx_le l j;omega
  ·show(ns.eraseIdx j).length≤K;have:=List.length_eraseIdx_le ns j;omega
theorem tY {K n:Nat}{t:VT}(h:aR K t=true):aR K (nQ t n)=true:=by
 obtain⟨h1,h2,h3⟩:=(bj t).1 h
 cases t with
 |mk k i s l ns=>
  simp only[VT.items,VT.names]at h1 h2 h3;refine(bj _).2 ⟨?_,h2,fun x hx=>h3 x (List.mem_of_mem_take (show x∈l.take n from hx))⟩;show(l.take n).length≤K;rw[List.length_take];omega
theorem vd {K:Nat}{x:VT}{n:Int}(h:aR K x=true):aR K (gB x n)=true:=by
 unfold gB
 split
 ·exact tY h
 ·exact h
theorem qe {K:Nat}{fin:VT→List ByteArray→Int×VT}(hfin: ∀t s r,aR K t=true→aR K (fin t (s::r)).2=true): ∀(p:List ByteArray) (t:VT),ao t=true→aR K t=true→aR K (goT fin t p).2=true
 | [],t,_,h=>by unfold goT;exact h
 |s::r,t,hm,h=>by
  by_cases he:ab t s<0∨r= []
  ·rw[bX he];exact hfin _ _ _ h
  ·have h0:0≤ab t s:=Int.not_lt.1 fun k=>he (.inl k);have hr:r≠[]:=fun k=>he (.inr k);have hj:=aP (bT hm) h0;rw[eL h0 hr hj];exact iD h (qe hfin r _ (cl hm hj) (((bj t).1 h).2.2 _ (List.getElem_mem hj)))
theorem vS (K:Nat):aR K ka=true:=(bj _).2 ⟨Nat.zero_le _,Nat.zero_le _,fun _ h=>absurd h (List.not_mem_nil)⟩
theorem vi {K:Nat}(t:VT)(s:ByteArray)(r:List ByteArray)(h:aR K t=true):aR K (bh t (s::r)).2=true:=by
 rw[bf];show aR K (if _ then _ else _)=true
 split
 ·exact h
 split
 ·exact ze h
 ·exact iD h (vS K)
theorem yt {K:Nat}(n:Int)(t:VT)(s:ByteArray)(r:List ByteArray)(h:aR K t=true):aR K (bD n t (s::r)).2=true:=by
 rw[bF]
 split
 ·exact h
 show aR K (if _ then _ else _)=true
 split
 ·exact h
 ·split
  ·exact h
  ·rename_i x hx;exact iD h (vd (((bj t).1 h).2.2 _ (List.mem_of_getElem? hx)))
structure gQ (K D:Nat)(t:VT):Prop where
 doc:cS t=true
 lens:aR K t=true
 deep:ac t≤D
theorem gQ.mono {K D K' D':Nat}{t:VT}(h:gQ K D t)(h1:K≤K')(h2:D≤D'):gQ K' D' t:=⟨h.doc,bR h1 t h.lens,Nat.le_trans h.deep h2⟩
theorem iy {d:au}{t:VT}{K D:Nat}(hd:co d=true)(hz:aA d.val≤9223372036854775807)(hlx:aR K d.val=true)(h:gQ K D t):
  (∃R,doD d t=(0,R)∧gQ (K+1) (D+16) R∧(d.kind=1→R=(goT (bz d.val) t d.path).2∧(goT (bz d.val) t d.path).1=0)∧(d.kind=2→R=(goT bh t d.path).2)∧(d.kind=3→R=(goT (bD d.num) t d.path).2))∨(doD d t=(40,aT)∧d.kind=1∧(goT (bz d.val) t d.path).1≠0):=by
 obtain⟨hm,hk⟩:=bB.1 h.doc;have hp:=dI hd;have hw:=jW h.doc hp;have hp8:=zu hp;rcases fm hd with e|e|⟨e,hn,-⟩
 ·obtain⟨hx,hx8,-⟩:=mH hd hz e;rw[ur e hx];obtain⟨m1,m2⟩:=ff (mj d.val hx) d.path t hm (eG hp);have hdp:=iP (L:=8) (fun t s r hr=>wN d.val 8 t s r hr) d.path t (by omega);have hdd:=h.deep;rcases gi (c:=fun x=>x=0∨x=40) (.inl rfl) (yb d.val) d.path t with hc|hc
  ·exact .inl ⟨_,er hw hc,⟨bB.2 ⟨m1,m2.trans hk⟩,rt hlx d.path t hm h.lens,by omega⟩,fun _=>⟨rfl,hc⟩,fun e'=>by omega,fun e'=>by omega⟩
  ·refine .inr ⟨?_,e,by rw[hc];decide⟩;unfold bl;rw[if_pos hw,if_neg (by rw[hc];decide),hc]
 ·rw[rT e];obtain⟨m1,m2⟩:=ff iG d.path t hm (eG hp);have hdp:=iP (L:=8) (fun t s r _=>sW t s r) d.path t (by omega);have hdd:=h.deep;exact .inl ⟨_,er hw (gi (c:=fun x=>x=0) rfl oC d.path t),⟨bB.2 ⟨m1,m2.trans hk⟩,bR (Nat.le_succ K) _ (qe vi d.path t hm h.lens),by omega⟩,fun e'=>by omega,fun _=>rfl,fun e'=>by omega⟩
 ·rw[uO e];obtain⟨m1,m2⟩:=ff (jS d.num) d.path t hm (eG hp);have hdp:=iP (L:=8) (fun t s r _=>vC d.num t s r) d.path t (by omega);have hdd:=h.deep;exact .inl ⟨_,er hw (gi (c:=fun x=>x=0) rfl (rd hn) d.path t),⟨bB.2 ⟨m1,m2.trans hk⟩,bR (Nat.le_succ K) _ (qe (yt d.num) d.path t hm h.lens),by omega⟩,fun e'=>by omega,fun e'=>by omega,fun _=>rfl⟩
theorem ml : ∀(l:List au) (t:VT) (K D:Nat),(∀d∈l,co d=true∧aA d.val≤9223372036854775807∧aR K d.val=true)→gQ K D t→(∃R,doL l t=(0,R)∧gQ (K+l.length) (D+16 * l.length) R)∨doL l t=(40,aT)
 | [],t,K,D,_,h=> .inl ⟨t,rfl,h⟩
 |d::r,t,K,D,hl,h=>by
  obtain⟨h1,h2,h3⟩:=hl d (by simp);rcases iy h1 h2 h3 h with ⟨R,e,hR,-⟩|⟨e,-⟩
  ·have ih:=ml r R (K+1) (D+16) (fun x hx=>⟨(hl x (by simp[hx])).1,(hl x (by simp[hx])).2.1,bR (Nat.le_succ K) _ (hl x (by simp[hx])).2.2⟩) hR;have e2:doL (d::r) t=doL r R:=by simp only[doL];rw[e];rfl
   rw[e2];rcases ih with ⟨R2,a,b⟩|a
   ·exact .inl ⟨R2,a,b.mono (by simp only[List.length_cons];omega) (by simp only[List.length_cons];omega)⟩
   ·exact .inr a
  ·refine .inr ?_;simp only[doL];rw[e];rfl
end Go.Proofs.YtgbopnlpaabelaaGreatDoor
/- A copy of a list of changes, by the program. -/
namespace Go.Proofs.YtgbopnlpaabelaaGreatDoor
open Lib (hid)
open Go.RowKit
theorem fE :gO cQ 8 where
 size:=fun h=>by obtain⟨PA,pc,VA,vc,VA',vc',rfl,-⟩:=h;rfl
 keep:=fun h hk=>h.keep hk
 imp:=fun h hS=>h.imp hS
def gH (w:World)(S:Nat→Prop)(d:au)(cs:Array Value):Prop:=cQ w S d cs∧ ∀PA n pc,cs[1]? =some (.slice PA n pc)→pc≤maxLen
theorem eu :gO gH 8 where
 size:=fun h=>fE.size h.1
 keep:=fun h hk=>⟨h.1.keep hk,h.2⟩
 imp:=fun h hS=>⟨h.1.imp hS,h.2⟩
theorem qh {w:World}{S:Nat→Prop}{A:Option Addr}{l:List au}(h:bJ gH 8 w S A l):dl w S A l:=fun hp=>by
 obtain⟨b,off,hA,hS,hc⟩:=h hp
 exact⟨b,off,hA,hS,fun i hi=>by
  obtain⟨cs,h1,h2⟩:=hc i hi
  exact⟨cs,h1,h2.1⟩⟩
theorem lU :eE 64:=fun _ _=>by simp[callFunc,go_sem,Tryz.func64,Tryz.f64]
theorem lT {ops:Array Oper}{rest:List Oper}{o:Oper}{a:Act}{w:World}{Q:Exit→Act→World→Prop}(hw:Region.wanted o (yielded ops a.tmps)=true)(x:Operand)(ho:o.op= .load 58 x)
  (g:Nat) (hx:a.eval x= .pointer (some ⟨g,0,none⟩)) (cs:Array Value) (fr:Nat×Nat) (hg:w.heap[g]? =some (.cells cs 58 fr)) (hn:cs.size=8)
  (h:wpList Tryz.prog ops Q rest (a.put o.dst (.agg cs)) w):wpList Tryz.prog ops Q (o::rest) a w:=
 wpList_step fun K hK=>by
  rw[hw,if_pos rfl];exact wp_load_row 58 x ho g hx 58 cs fr _ hg Tryz.underlying58 rfl (by rw[hn];kernel_rfl) (hK _ _ h)
theorem qi (S:Nat→Prop)(d:au)(cs:Array Value)(w:World)(hS: ∀b,S b→b<w.heap.size)(h:cQ w S d cs):
  Calls Tryz.prog 64 #[.agg cs] w fun e w'=> ∃cs',e= .returned (.agg cs')∧gH w' (New w.heap.size w') d cs'∧Below w.heap.size w w':=by
 obtain⟨PA,pc,VA,vc,VA',vc',rfl,hv,hp,hpc,hpn,rk,rn,hpl⟩:=h;obtain⟨w2,hw2⟩: ∃W,W=(w.alloc (.cells #[.int .i64 d.kind,.slice PA d.path.length pc,.int .i64 d.val.kind,.int .i64 d.val.num,.string d.val.text,.slice VA d.val.items.length vc,.slice VA' d.val.names.length vc',.int .i64 d.num] 58)).alloc (.cells #[.int .i64 0,.slice none 0 0,.int .i64 0,.int .i64 0,.string ⟨#[]⟩,.slice none 0 0,.slice none 0 0,.int .i64 0] 58):=⟨_,rfl⟩;have hz1:(w.alloc (.cells #[.int .i64 d.kind,.slice PA d.path.length pc,.int .i64 d.val.kind,.int .i64 d.val.num,.string d.val.text,.slice VA d.val.items.length vc,.slice VA' d.val.names.length vc',.int .i64 d.num] 58)).heap.size=w.heap.size+1:=by simp
 have hz2:w2.heap.size=w.heap.size+2:=by rw[hw2];simp
 have hbb:w2.heap[w.heap.size+1]? =some (.cells #[.int .i64 0,.slice none 0 0,.int .i64 0,.int .i64 0,.string ⟨#[]⟩,.slice none 0 0,.slice none 0 0,.int .i64 0] 58 (0,0)):=by rw[hw2,←hz1];exact heap_alloc_new _ _
 have hba:w2.heap[w.heap.size]? =some (.cells #[.int .i64 d.kind,.slice PA d.path.length pc,.int .i64 d.val.kind,.int .i64 d.val.num,.string d.val.text,.slice VA d.val.items.length vc,.slice VA' d.val.names.length vc',.int .i64 d.num] 58 (0,0)):=by rw[hw2,Below.heap_alloc _ _ _ (by omega)];exact heap_alloc_new _ _
 have h02:Below w.heap.size w w2:=by rw[hw2];exact(ae _).alloc (by omega) _
 have HB2:=hid h02;have HK2:=hid hba;have HZ2:=hid hbb;have HZS:=hid hz2;have HS:=hid hS;have HV:=hid hv;have HR:=hid (And.intro rk (And.intro rn hpl));have HC:=hid (sE S PA pc d.path w2 (hp.keep fun b hb=>h02.block b (hS b hb)) (fun b hb=>Nat.lt_of_lt_of_le (hS b hb) h02.size) hpn hpl)
 have HSZ:Hid (∀s∈d.path,s.size≤140737488351232):=hid fun s hs=>by
  obtain⟨i,hi,rfl⟩:=List.mem_iff_getElem.1 hs;obtain⟨_,_,_,_,hc⟩:=hp (by omega);exact(hc i hi).2
 clear h02 hba hbb hS hz1 hz2 hv hp hpc hpn rk rn hpl;go_enter Tryz.func64,Tryz.ntmps64;go_wp2_with fail;rw[←hw2];clear hw2;refine HC.out.mono ?_;rintro q w3 ⟨v3,rfl,hv3,hb⟩;obtain⟨QA,qc,rfl,hP0,hP1⟩:=wO hv3
 have hqm:qc≤maxLen:=by
  rcases hv3.2 with ⟨e,h0⟩|⟨g,cap,cur,e,-,-,-,hm,-⟩
  ·injection e with e1 e2 e3
   rw[e3];exact Nat.zero_le _
  ·injection e with e1 e2 e3
   rw[e3];exact hm
 have HB3:=hid (HB2.out.trans (hb.mono HB2.out.size));have HK3:=hid ((hb.block _ (Array.getElem?_eq_some_iff.1 HK2.out).1).trans HK2.out);have HZ3:=hid ((hb.block _ (Array.getElem?_eq_some_iff.1 HZ2.out).1).trans HZ2.out);have HZW3:Hid (w.heap.size+2≤w3.heap.size):=hid (by have:=hb.size;have:=HZS.out;omega)
 have HP3:Hid (ai w3 (fun b=>w.heap.size+2≤b∧b<w3.heap.size) QA d.path∧d.path.length≤qc∧(QA=none→qc=0)∧qc≤maxLen):=hid (by
  obtain⟨PC,pe,e,h1,h2⟩:=hv3.opens HSZ.out;injection e with e1 e2 e3
  subst e1 e3
  exact⟨h2.imp fun b hb=>⟨by have:=hb.1;have:=HZS.out;omega,hb.2⟩,h1,hP0,hqm⟩)
 have HCV:=hid (fun W h=>kJ S d.val (.agg #[.int .i64 d.val.kind,.int .i64 d.val.num,.string d.val.text,.slice VA d.val.items.length vc,.slice VA' d.val.names.length vc']) W (fun b hb=>Nat.lt_of_lt_of_le (HS.out b hb) (h:Below w.heap.size w W).size) (HV.out.keep fun b hb=>h.block b (HS.out b hb)));clear hv3 hb HC HK2 HZ2 hP0 hP1 hqm;go_wp2_with(first|(refine aS (by rfl) 23 _ _ rfl rfl w.heap.size 1 rfl _ #[.slice QA d.path.length qc] rfl rfl _ #[.int .i64 d.kind,.slice QA d.path.length qc,.int .i64 d.val.kind,.int .i64 d.val.num,.string d.val.text,.slice VA d.val.items.length vc,.slice VA' d.val.names.length vc',.int .i64 d.num] 58 HK3.out (by simp) (by kernel_rfl) (by simp[Value.oneCell']) (by kernel_rfl) ?_;intro w4 hk ho hz;have HK4:=hid hk;have HO4:=hid (And.intro ho hz);clear hk ho hz)|(refine lQ (by rfl) _ rfl w.heap.size 2 rfl _ _ _ HK4.out [.int .i64 d.val.kind,.int .i64 d.val.num,.string d.val.text,.slice VA d.val.items.length vc,.slice VA' d.val.names.length vc'] rfl rfl ?_;simp only[acR,Act.put]));have HB4:=hid (aJ (Nat.le_refl _) HB3.out HO4.out.1 HO4.out.2 (Nat.le_refl _));refine(HCV.out _ HB4.out).mono ?_;rintro q w5 ⟨v,rfl,hov,hb⟩;have HB5:=hid (HB4.out.trans (hb.mono HB4.out.size));have HK5:=hid ((hb.block _ (Array.getElem?_eq_some_iff.1 HK4.out).1).trans HK4.out)
 have HZ5:Hid (w5.heap[w.heap.size+1]? =some (.cells #[.int .i64 0,.slice none 0 0,.int .i64 0,.int .i64 0,.string ⟨#[]⟩,.slice none 0 0,.slice none 0 0,.int .i64 0] 58 (0,0))):=hid (by
  have h1:=mm HO4.out.1 HZ3.out (by omega)
  exact(hb.block _ (Array.getElem?_eq_some_iff.1 h1).1).trans h1)
 have HP5:Hid (ai w5 (fun b=>w.heap.size+2≤b∧b<w5.heap.size) QA d.path):=hid (((HP3.out.1.keep (cr HO4.out.1 fun b hb=>by
  have h1:=hb.1
  exact⟨hb.2,by omega⟩)).keep fun b hb'=>hb.block b (by rw[HO4.out.2];exact hb'.2)).imp fun b hb'=>⟨hb'.1,Nat.lt_of_lt_of_le hb'.2 (by rw[←HO4.out.2];exact hb.size)⟩)
 have HV5:Hid (LV w5 (fun b=>w.heap.size+2≤b∧b<w5.heap.size) d.val v):=hid (hov.lv.imp fun b hb'=>⟨by have h1:=hb'.1;have:=HZW3.out;have:=HO4.out.2;omega,hb'.2⟩);obtain⟨WA,wc,WA',wc',rfl,-⟩:=hov.lv.shape;have HZW5:Hid (w.heap.size+2≤w5.heap.size):=hid (by have:=hb.size;have:=HZW3.out;have:=HO4.out.2;omega);clear hov hb HCV HZ3 HK3;go_wp2_with(first|(refine aS (by rfl) 25 _ _ rfl rfl w.heap.size 2 rfl _ #[.int .i64 d.val.kind,.int .i64 d.val.num,.string d.val.text,.slice WA d.val.items.length wc,.slice WA' d.val.names.length wc'] rfl rfl _ #[.int .i64 d.kind,.slice QA d.path.length qc,.int .i64 d.val.kind,.int .i64 d.val.num,.string d.val.text,.slice WA d.val.items.length wc,.slice WA' d.val.names.length wc',.int .i64 d.num] 58 HK5.out (by simp) (by kernel_rfl) (by simp[Value.oneCell']) (by kernel_rfl) ?_;intro w6 hk ho hz;have HK6:=hid hk;have HO6:=hid (And.intro ho hz);have HZ6:=hid (mm HO6.out.1 HZ5.out (by omega));clear hk ho hz)|(refine lT (by rfl) _ rfl w.heap.size rfl _ _ HK6.out rfl ?_;simp only[acR,Act.put])|(refine aS (by rfl) 58 _ _ rfl rfl (w.heap.size+1) 0 rfl _ #[.int .i64 d.kind,.slice QA d.path.length qc,.int .i64 d.val.kind,.int .i64 d.val.num,.string d.val.text,.slice WA d.val.items.length wc,.slice WA' d.val.names.length wc',.int .i64 d.num] rfl rfl _ #[.int .i64 d.kind,.slice QA d.path.length qc,.int .i64 d.val.kind,.int .i64 d.val.num,.string d.val.text,.slice WA d.val.items.length wc,.slice WA' d.val.names.length wc',.int .i64 d.num] 58 HZ6.out (by simp) (by kernel_rfl) (by simp[Value.oneCell']) (by kernel_rfl) ?_;intro w7 hk ho hz;have HK7:=hid hk;have HO7:=hid (And.intro ho hz);clear hk ho hz))
 have HB6:=hid (aJ (Nat.le_refl _) HB5.out HO6.out.1 HO6.out.2 (Nat.le_refl _));have HB7:=hid (aJ (Nat.le_refl _) HB6.out HO7.out.1 HO7.out.2 (by omega));refine bodyPost_ret (results_cell_row rfl _ _ (w.heap.size+1) 58 _ (0,0) _ rfl HK7.out Tryz.underlying58 rfl (by kernel_rfl)) rfl ?_;have hf: ∀b,w.heap.size+2≤b∧b<w5.heap.size→w7.heap[b]? =w5.heap[b]? :=fun b hb=>(cr HO7.out.1 (S:=fun b=>w.heap.size+2≤b∧b<w5.heap.size) (fun b h=>⟨by rw[HO6.out.2];exact h.2,by have:=h.1;omega⟩) b hb).trans (cr HO6.out.1 (S:=fun b=>w.heap.size+2≤b∧b<w5.heap.size) (fun b h=>⟨h.2,by have:=h.1;omega⟩) b hb);have hz:w7.heap.size=w5.heap.size:=HO7.out.2.trans HO6.out.2
 exact⟨_,rfl,⟨⟨QA,qc,WA,wc,WA',wc',rfl,(HV5.out.keep hf).imp fun b hb=>⟨by have:=hb.1;omega,by rw[hz];exact hb.2⟩,(HP5.out.keep hf).imp fun b hb=>⟨by have:=hb.1;omega,by rw[hz];exact hb.2⟩,HP3.out.2.1,HP3.out.2.2.1,HR.out⟩,fun PA n pc h=>by
  have h:some (Value.slice QA d.path.length qc)=some (.slice PA n pc):=h;injection h with h
  injection h with _ _ h
  rw[←h]
  exact HP3.out.2.2.2⟩,HB7.out⟩
theorem xg (S:Nat→Prop)(A:Option Addr)(c:Nat)(l:List au)(w:World)(hS: ∀b,S b→b<w.heap.size)(h:dl w S A l)(hl:l.length≤1172812402961):
  Calls Tryz.prog 63 #[.slice A l.length c,.func (.func 64) #[] #[]] w fun e w'=> ∃A' c',e= .returned (.slice A' l.length c')∧(A'=none→c'=0)∧l.length≤c'∧bJ gH 8 w' (fun b=>b<w'.heap.size∧w.heap.size≤b) A' l∧Below w.heap.size w w':=by
 by_cases hl0:l.length=0
 ·have hnil:=List.eq_nil_of_length_eq_zero hl0;subst hnil;go_enter Tryz.func63,Tryz.ntmps63;go_wp2_with fail;go_ret;exact⟨none,0,rfl,fun _=>rfl,Nat.le_refl _,fun h=>absurd h (by simp),Below.refl _ _⟩
 ·obtain⟨b,off,rfl,hb,hls⟩:=h (by omega);obtain⟨i0,hi,hz0,hz1,hz2⟩:=info_parts Tryz.infoDlt;have HL:=hid hl;have HLS:=hid hls;have hne:((l.length:Int) == 0)=false:=by simp;intro h;simp[h]at hl0
  have hlb:l.length≤4611686018427387904:=by omega
  have hcf: ∀(args:Array Value) (W:World),(callFunc 64 args).run Tryz.prog W= .ok (.enter 64 args) W:=lU;clear h hls hl;go_enter Tryz.func63,Tryz.ntmps63;go_wp2_with(at_make;go_must (refine wpList_make_full _ rfl _ _ 32 rfl w.heap.size 58 i0 _ 8 Tryz.underlying32 hi hz0 hz1 .i64 .i64 _ _ l.length rfl rfl rfl rfl ?b0 ?b1 ?b2 ?_));case b0=>have:=HL.out;rw[hz2];omega
  case b1=>have:=HL.out;unfold maxLen;omega
  case b2=>exact Nat.le_refl _
  intro w1 hown hg;have hb1:Below w.heap.size w w1:=dD hg (Nat.le_refl _) (fun k hk=>by cases hk);have HROW:Hid (fF gH 8 (fun b=>w.heap.size≤b) 58 w1 w.heap.size l 0):=hid (fF.made hown rfl);have HB1:=hid hb1;clear hown hg hb1;obtain⟨G,hG⟩: ∃G,G=w.heap.size:=⟨_,rfl⟩;rw[←hG]at HROW ⊢;have HG:=hid hG;clear hG;go_wp2_with fail
  go_loopw [16] (fun i wr=> ∃j:Nat,i= .int .i64 j∧j≤l.length∧Hid (fF gH 8 (fun b=>G≤b) 58 wr G l j)∧Hid (Below w.heap.size w wr)) (fun i _=>l.length - (intOf i).toNat)
  case atStart=>exact⟨0,rfl,Nat.zero_le _,HROW,HB1⟩
  case round=>
   clear HROW HB1;obtain⟨j,rfl,hj,HI,HB⟩:=hrel;by_cases hlt:j<l.length
   ·obtain⟨cs,hcs,hx⟩:=HLS.out j hlt;have hsh:=hx;obtain⟨PA,pc,VA,vc,VA',vc',rfl,-⟩:=hsh;have hrg:wr.rangeAt b (off+j * 8) [.int .i64 l[j].kind,.slice PA l[j].path.length pc,.int .i64 l[j].val.kind,.int .i64 l[j].val.num,.string l[j].val.text,.slice VA l[j].val.items.length vc,.slice VA' l[j].val.names.length vc',.int .i64 l[j].num]:=fun k v hv=>(HB.out.cell (p:=⟨b,off+j * 8+k,none⟩) (hS b hb)).trans (hcs k v (by simpa using hv));obtain⟨w2,hw2⟩: ∃W,W=wr.alloc (.cells #[.int .i64 l[j].kind,.slice PA l[j].path.length pc,.int .i64 l[j].val.kind,.int .i64 l[j].val.num,.string l[j].val.text,.slice VA l[j].val.items.length vc,.slice VA' l[j].val.names.length vc',.int .i64 l[j].num] 58):=⟨_,rfl⟩;have hb2:Below wr.heap.size wr w2:=by rw[hw2];exact ae _
    have HB2:=hid (HB.out.trans (hb2.mono HB.out.size));have HI2:=hid (HI.out.call eu hb2);have HRG:=hid hrg;have HX:=hid (qi S l[j] _ w2 (fun b hb=>Nat.lt_of_lt_of_le (hS b hb) HB2.out.size) (hx.keep fun b hb=>HB2.out.block b (hS b hb)));clear hx hcs hrg hb2 HI;go_wp2_with(refine gG (by rfl) 58 _ rfl b (off+j * 8) rfl _ _ HRG.out Tryz.underlying58 rfl (by kernel_rfl) ?_;simp only[acR,Act.put]);rw[←hw2];clear hw2;refine HX.out.mono ?_;rintro e w3 ⟨cs',rfl,hd,hb3⟩;have HB3:=hid (HB2.out.trans (hb3.mono HB2.out.size));have HI3:=hid (HI2.out.call eu hb3);have HGB:Hid (G<w2.heap.size):=hid HI2.out.lt;have hd':gH w3 (fun b=>b<w3.heap.size∧b≠G∧G≤b) l[j] cs':=eu.imp hd fun b hb=>⟨hb.2,by have:=hb.1;have:=HGB.out;omega,by have:=hb.1;have:=HGB.out;omega⟩;obtain⟨cur,hcur,hcz,-⟩:=id HI3.out;have hnx:=fun w' h1 h2 h3=>HI3.out.store (w':=w') eu hlt hcur hd' h1 h2 h3;have HNX:=hid hnx;have HCUR:=hid hcur;obtain⟨PA2,pc2,VA2,vc2,VA3,vc3,rfl,-⟩:=hd.1;have hcb:j * 8+8≤cur.size:=by rw[hcz];omega
    clear hd' hb3 hnx hcur HX HI2;go_wp2_with(refine aS (by rfl) 58 _ _ rfl rfl G (j * 8) rfl _ #[.int .i64 l[j].kind,.slice PA2 l[j].path.length pc2,.int .i64 l[j].val.kind,.int .i64 l[j].val.num,.string l[j].val.text,.slice VA2 l[j].val.items.length vc2,.slice VA3 l[j].val.names.length vc3,.int .i64 l[j].num] rfl rfl _ _ 58 HCUR.out hcb (by kernel_rfl) (by simp[Value.oneCell']) rfl ?_;intro w4 hk ho hz;have HI4:=hid (HNX.out w4 hk ho hz);have HB4:=hid (aJ (Nat.le_refl _) HB3.out ho hz (by have:=HG.out;omega));clear hk ho hz)
    go_roundw
    case rel=>exact⟨j+1,by go_num,by omega,HI4,HB4⟩
    case measure=>simp[intOf];omega
   ·go_wp2_with fail;go_ret;obtain rfl:j=l.length:=by omega
    exact⟨some ⟨G,0,none⟩,l.length,rfl,(fun h=>by cases h),Nat.le_refl _,(HI.out.rows eu).imp eu fun b hb=>⟨hb.1,by have:=HG.out;have:=hb.2;omega⟩,HB.out⟩
theorem qU (S:Nat→Prop)(A:Option Addr)(c:Nat)(l:List au)(w:World)(hS: ∀b,S b→b<w.heap.size)(h:dl w S A l)(hl:l.length≤1172812402961):
  Calls Tryz.prog 34 #[.slice A l.length c] w fun e w'=> ∃A' c',e= .returned (.slice A' l.length c')∧(A'=none→c'=0)∧l.length≤c'∧bJ gH 8 w' (fun b=>b<w'.heap.size∧w.heap.size≤b) A' l∧Below w.heap.size w w':=by
 have HC:=hid (xg S A c l w hS h hl);clear h;go_enter Tryz.func34,Tryz.ntmps34;go_wp2_with fail;refine HC.out.mono ?_;rintro e w1 ⟨A',c',rfl,h⟩;go_wp2_with fail;go_ret;exact⟨A',c',rfl,h⟩
theorem zM (S:Nat→Prop)(t:VT)(v:Value)(d:au)(PA:Option Addr)(pc:Nat)(VA:Option Addr)(vc:Nat)(VA':Option Addr)(vc':Nat)(w:World)(hS: ∀b,S b→b<w.heap.size)(h:LV w S t v)(hd:ac t≤4611686018427387903)(hsm:eC t)
  (ho:cQ w S d #[.int .i64 d.kind,.slice PA d.path.length pc,.int .i64 d.val.kind,.int .i64 d.val.num,.string d.val.text,.slice VA d.val.items.length vc,.slice VA' d.val.names.length vc',.int .i64 d.num]) (hm:co d=true) (h63:pc≤9223372036854775807) (hdd:ac d.val≤4611686018427387903):
  Calls Tryz.prog 45 #[v,.agg #[.int .i64 d.kind,.slice PA d.path.length pc,.int .i64 d.val.kind,.int .i64 d.val.num,.string d.val.text,.slice VA d.val.items.length vc,.slice VA' d.val.names.length vc',.int .i64 d.num]] w (ej (doD d t) w):=by
 obtain⟨A0,c0,A0',c0',rfl,-,-,-,v1,hb0⟩:=bY hS h;have hV:=h;obtain⟨PA1,pc1,VA1,vc1,VA2,vc2,he,hx,hps,hpc,hpn,hrk,hrn,hpl⟩:=ho;simp only[Array.mk.injEq,List.cons.injEq,Value.slice.injEq,true_and,and_true]at he;obtain⟨⟨rfl,rfl⟩,⟨rfl,rfl⟩,⟨rfl,rfl⟩⟩:=he;have hkk:=fm hm;have hz1:(w.alloc (.cells #[.int .i64 t.kind,.int .i64 t.num,.string t.text,.slice A0 t.items.length c0,.slice A0' t.names.length c0'] 25)).heap.size=w.heap.size+1:=by simp
 have hz2:((w.alloc (.cells #[.int .i64 t.kind,.int .i64 t.num,.string t.text,.slice A0 t.items.length c0,.slice A0' t.names.length c0'] 25)).alloc (.cells #[.int .i64 d.kind,.slice PA d.path.length pc,.int .i64 d.val.kind,.int .i64 d.val.num,.string d.val.text,.slice VA d.val.items.length vc,.slice VA' d.val.names.length vc',.int .i64 d.num] 58)).heap.size=w.heap.size+2:=by simp
 have hz3:(((w.alloc (.cells #[.int .i64 t.kind,.int .i64 t.num,.string t.text,.slice A0 t.items.length c0,.slice A0' t.names.length c0'] 25)).alloc (.cells #[.int .i64 d.kind,.slice PA d.path.length pc,.int .i64 d.val.kind,.int .i64 d.val.num,.string d.val.text,.slice VA d.val.items.length vc,.slice VA' d.val.names.length vc',.int .i64 d.num] 58)).alloc (.cells #[.int .i64 0,.int .i64 0,.string ⟨#[]⟩,.slice none 0 0,.slice none 0 0] 25)).heap.size=w.heap.size+3:=by simp
 have hB:Below w.heap.size w (((w.alloc (.cells #[.int .i64 t.kind,.int .i64 t.num,.string t.text,.slice A0 t.items.length c0,.slice A0' t.names.length c0'] 25)).alloc (.cells #[.int .i64 d.kind,.slice PA d.path.length pc,.int .i64 d.val.kind,.int .i64 d.val.num,.string d.val.text,.slice VA d.val.items.length vc,.slice VA' d.val.names.length vc',.int .i64 d.num] 58)).alloc (.cells #[.int .i64 0,.int .i64 0,.string ⟨#[]⟩,.slice none 0 0,.slice none 0 0] 25)):=(hb0.alloc (by omega) _).alloc (by omega) _;have hX:=((v1.x.alloc (.cells #[.int .i64 d.kind,.slice PA d.path.length pc,.int .i64 d.val.kind,.int .i64 d.val.num,.string d.val.text,.slice VA d.val.items.length vc,.slice VA' d.val.names.length vc',.int .i64 d.num] 58)).alloc (.cells #[.int .i64 0,.int .i64 0,.string ⟨#[]⟩,.slice none 0 0,.slice none 0 0] 25))
 have hD:eD (((w.alloc (.cells #[.int .i64 t.kind,.int .i64 t.num,.string t.text,.slice A0 t.items.length c0,.slice A0' t.names.length c0'] 25)).alloc (.cells #[.int .i64 d.kind,.slice PA d.path.length pc,.int .i64 d.val.kind,.int .i64 d.val.num,.string d.val.text,.slice VA d.val.items.length vc,.slice VA' d.val.names.length vc',.int .i64 d.num] 58)).alloc (.cells #[.int .i64 0,.int .i64 0,.string ⟨#[]⟩,.slice none 0 0,.slice none 0 0] 25)) (w.heap.size+1) (.int .i64 d.kind) (.slice PA d.path.length pc) (.int .i64 d.val.kind) (.int .i64 d.val.num) (.string d.val.text) (.slice VA d.val.items.length vc) (.slice VA' d.val.names.length vc') (.int .i64 d.num):=by
  have h:=eD.new (w.alloc (.cells #[.int .i64 t.kind,.int .i64 t.num,.string t.text,.slice A0 t.items.length c0,.slice A0' t.names.length c0'] 25)) (.int .i64 d.kind) (.slice PA d.path.length pc) (.int .i64 d.val.kind) (.int .i64 d.val.num) (.string d.val.text) (.slice VA d.val.items.length vc) (.slice VA' d.val.names.length vc') (.int .i64 d.num);rw[hz1]at h;exact h.alloc _
 have hR:Box (((w.alloc (.cells #[.int .i64 t.kind,.int .i64 t.num,.string t.text,.slice A0 t.items.length c0,.slice A0' t.names.length c0'] 25)).alloc (.cells #[.int .i64 d.kind,.slice PA d.path.length pc,.int .i64 d.val.kind,.int .i64 d.val.num,.string d.val.text,.slice VA d.val.items.length vc,.slice VA' d.val.names.length vc',.int .i64 d.num] 58)).alloc (.cells #[.int .i64 0,.int .i64 0,.string ⟨#[]⟩,.slice none 0 0,.slice none 0 0] 25)) (w.heap.size+2) (.int .i64 0) (.int .i64 0) (.string ⟨#[]⟩) (.slice none 0 0) (.slice none 0 0):=by
  have h:=Box.new (w:=(w.alloc (.cells #[.int .i64 t.kind,.int .i64 t.num,.string t.text,.slice A0 t.items.length c0,.slice A0' t.names.length c0'] 25)).alloc (.cells #[.int .i64 d.kind,.slice PA d.path.length pc,.int .i64 d.val.kind,.int .i64 d.val.num,.string d.val.text,.slice VA d.val.items.length vc,.slice VA' d.val.names.length vc',.int .i64 d.num] 58)) (.int .i64 0) (.int .i64 0) (.string ⟨#[]⟩) (.slice none 0 0) (.slice none 0 0);rw[hz2]at h;exact h
 go_enter Tryz.func45,Tryz.ntmps45;obtain⟨W,hW⟩: ∃W,W=((w.alloc (.cells #[.int .i64 t.kind,.int .i64 t.num,.string t.text,.slice A0 t.items.length c0,.slice A0' t.names.length c0'] 25)).alloc (.cells #[.int .i64 d.kind,.slice PA d.path.length pc,.int .i64 d.val.kind,.int .i64 d.val.num,.string d.val.text,.slice VA d.val.items.length vc,.slice VA' d.val.names.length vc',.int .i64 d.num] 58)).alloc (.cells #[.int .i64 0,.int .i64 0,.string ⟨#[]⟩,.slice none 0 0,.slice none 0 0] 25):=⟨_,rfl⟩;rw[←hW]at hB hX hD hR hz3;have HCS:Hid (∀p:ao d.val=true,True):=hid fun _=>trivial;have h1:=hV.keep (w':=W) fun b hb=>hB.block b (hS b hb);have h2:=hx.keep (w':=W) fun b hb=>hB.block b (hS b hb);have h3:=hps.keep (w':=W) fun b hb=>hB.block b (hS b hb);have hSW: ∀b,S b→b<W.heap.size:=fun b hb=>by have:=hS b hb;omega
 have HC1:=hid (yx S t _ PA pc d.path d.val _ W hSW h1 hd hsm h3 (by omega) hpc h63 h2 hdd);have HC2:=hid (sP S t _ PA pc d.path W hSW h1 hd h3 (by omega) hpc h63);have HC3:=hid (wx d.num ⟨by have:=hrn;unfold Rng at this;omega,by have:=hrn;unfold Rng at this;omega⟩ S t _ PA pc d.path W hSW h1 hd h3 (by omega) hpc h63);have HB:=hid hB;have HR:=hid hR;have HK1:Hid (d.kind=1→doD d t=(if ao d.val=true then bl (bz d.val) t d.path else(20,aT))):=hid fun e=>by unfold doD;rw[if_pos e]
 have HK2:Hid (d.kind=2→doD d t=bl bh t d.path):=hid fun e=>rT e;have HK3:Hid (d.kind=3→doD d t=bl (bD d.num) t d.path):=hid fun e=>uO e;have q0:=hX.c0;have q1:=hX.c1;have q2:=hX.c2;have q3:=hX.c3;have q4:=hX.c4;have z0:=hD.g0;have z1:=hD.g1;have z2:=hD.g2;have z3:=hD.g3;have z4:=hD.g4;have z5:=hD.g5;have z6:=hD.g6;have z7:=hD.g7;obtain⟨res,hres⟩: ∃r,r=doD d t:=⟨_,rfl⟩;rw[←hres]at HK1 HK2 HK3 ⊢;clear h hV hx hps hpc hpn hrk hrn h1 h2 h3 hd hsm hm hdd v1 hb0 hz1 hz2 hB hX hD hR HCS hSW hS h63 hpl hres;rcases hkk with hkk|hkk|⟨hkk,-,-⟩
 ·have HE:=hid (HK1.out hkk);rw[hkk]at hW z0 ⊢;clear hkk HK1 HK2 HK3 HC2 HC3;go_wp2_with fail;rw[←hW];clear hW;go_wp2_with fail;refine HC1.out.mono ?_;rintro e w5 ⟨v',rfl,hv,hb5⟩;obtain⟨B,k,B',k',rfl,-⟩:=hv.shape;have HB5:=hid (HB.out.trans (hb5.mono (show w.heap.size≤W.heap.size by omega)));have HR5:=hid (HR.out.call hb5);have HV5:=hid (hv.imp (S':=Iv (w.heap.size+2+1) w5.heap.size) fun b hb=>⟨by have:=hb.1;omega,hb.2⟩);have rf:=fun i=>HR5.out.free i;have r0:=HR5.out.c0;have r1:=HR5.out.c1;have r2:=HR5.out.c2;have r3:=HR5.out.c3;have r4:=HR5.out.c4;have hEE:=HE.out;clear hv hb5 HC1 HB HE HR;rw[←hEE]at HV5 ⊢;obtain⟨x,u⟩:=res;simp only at *;have HEND:=hid (cC (res:=(x,u)) 2 HB5.out HV5.out rfl);have HBOX:=hid (aZ (c0:= .int .i64 u.kind) (c1:= .int .i64 u.num) (c2:= .string u.text) (c3:= .slice B u.items.length k) (c4:= .slice B' u.names.length k') HR5.out);clear HV5 HB5 hEE q0 q1 q2 q3 q4 z0 z1 z2 z3 z4 z5 z6 z7 hz3;go_wp2_with fail;refine bodyPost_ret (aq rfl _ _ (w.heap.size+2) 25 _ (0,0) rfl HBOX.out (by kernel_rfl)) rfl ?_;exact HEND.out
 ·have HE:=hid (HK2.out hkk);rw[hkk]at hW z0 ⊢;clear hkk HK1 HK2 HK3 HC1 HC3;go_wp2_with fail;rw[←hW];clear hW;go_wp2_with fail;refine HC2.out.mono ?_;rintro e w5 ⟨v',rfl,hv,hb5⟩;obtain⟨B,k,B',k',rfl,-⟩:=hv.shape;have HB5:=hid (HB.out.trans (hb5.mono (show w.heap.size≤W.heap.size by omega)));have HR5:=hid (HR.out.call hb5);have HV5:=hid (hv.imp (S':=Iv (w.heap.size+2+1) w5.heap.size) fun b hb=>⟨by have:=hb.1;omega,hb.2⟩);have rf:=fun i=>HR5.out.free i;have r0:=HR5.out.c0;have r1:=HR5.out.c1;have r2:=HR5.out.c2;have r3:=HR5.out.c3;have r4:=HR5.out.c4;have hEE:=HE.out;clear hv hb5 HC2 HB HE HR;rw[←hEE]at HV5 ⊢;obtain⟨x,u⟩:=res;simp only at *;have HEND:=hid (cC (res:=(x,u)) 2 HB5.out HV5.out rfl);have HBOX:=hid (aZ (c0:= .int .i64 u.kind) (c1:= .int .i64 u.num) (c2:= .string u.text) (c3:= .slice B u.items.length k) (c4:= .slice B' u.names.length k') HR5.out);clear HV5 HB5 hEE q0 q1 q2 q3 q4 z0 z1 z2 z3 z4 z5 z6 z7 hz3;go_wp2_with fail;refine bodyPost_ret (aq rfl _ _ (w.heap.size+2) 25 _ (0,0) rfl HBOX.out (by kernel_rfl)) rfl ?_;exact HEND.out
 ·have HE:=hid (HK3.out hkk);rw[hkk]at hW z0 ⊢;clear hkk HK1 HK2 HK3 HC1 HC2;go_wp2_with fail;rw[←hW];clear hW;go_wp2_with fail;refine HC3.out.mono ?_;rintro e w5 ⟨v',rfl,hv,hb5⟩;obtain⟨B,k,B',k',rfl,-⟩:=hv.shape;have HB5:=hid (HB.out.trans (hb5.mono (show w.heap.size≤W.heap.size by omega)));have HR5:=hid (HR.out.call hb5);have HV5:=hid (hv.imp (S':=Iv (w.heap.size+2+1) w5.heap.size) fun b hb=>⟨by have:=hb.1;omega,hb.2⟩);have rf:=fun i=>HR5.out.free i;have r0:=HR5.out.c0;have r1:=HR5.out.c1;have r2:=HR5.out.c2;have r3:=HR5.out.c3;have r4:=HR5.out.c4;have hEE:=HE.out;clear hv hb5 HC3 HB HE HR;rw[←hEE]at HV5 ⊢;obtain⟨x,u⟩:=res;simp only at *;have HEND:=hid (cC (res:=(x,u)) 2 HB5.out HV5.out rfl);have HBOX:=hid (aZ (c0:= .int .i64 u.kind) (c1:= .int .i64 u.num) (c2:= .string u.text) (c3:= .slice B u.items.length k) (c4:= .slice B' u.names.length k') HR5.out);clear HV5 HB5 hEE q0 q1 q2 q3 q4 z0 z1 z2 z3 z4 z5 z6 z7 hz3;go_wp2_with fail;refine bodyPost_ret (aq rfl _ _ (w.heap.size+2) 25 _ (0,0) rfl HBOX.out (by kernel_rfl)) rfl ?_;exact HEND.out
theorem wH (S:Nat→Prop)(A:Option Addr)(c:Nat)(l:List au)(w:World)(hS: ∀b,S b→b<w.heap.size)(h:dl w S A l)(hn:l.length≤140737488351232)(hd:l.length≤64→gC l):
  Calls Tryz.prog 42 #[.slice A l.length c] w fun e w'=>e= .returned (.int .i64 (cO l))∧Below w.heap.size w w':=by
 by_cases h64:64<l.length
 ·have hr:cO l=3:=by unfold cO;rw[if_pos h64]
  rw[hr];have d1:decide ((l.length:Int)>64)=true:=decide_eq_true (by omega);clear h hS hd hr;go_enter Tryz.func42,Tryz.ntmps42;go_wp2_with fail;go_ret;exact⟨rfl,Below.refl _ _⟩
 ·exact rX S A c l w hS h hn (hd (by omega))
end Go.Proofs.YtgbopnlpaabelaaGreatDoor
