/- Whether a value may be, and how deep it is. -/
import Derived.Test.YtgfidiocmiolpaaGreatKValB
import Derived.Test.YtgfidiocmiolpaaGreatKMath
import Derived.Deep.RegionWith
import Derived.Outline
import Derived.Deep.QuietTactic
import Derived.BigQuiet
set_option maxHeartbeats 64000000
set_option maxRecDepth 100000
set_option linter.unusedVariables false
set_option linter.unusedSimpArgs false
namespace Go.Proofs.YtgfidiocmiolpaaGreat
open Lib (hid)
open Go.RowKit
theorem qI :dp 146:=fun _ _=>by simp[callFunc,go_sem,Tryz.func146,Tryz.f146]
theorem nh :dp 148:=fun _ _=>by simp[callFunc,go_sem,Tryz.func148,Tryz.f148]
def pD :VT→Nat→Unit→Unit×Bool:=fun x _ st=>(st,lp x)
mutual
theorem oB : ∀(t:VT) (d:Nat) (st:Unit),(cR pD t d st).2=ba t
 | .mk k i s l ns,d,st=>by
  unfold ba;by_cases h:lp (.mk k i s l ns)=true
  ·rw[ir (f:=pD) (t:= .mk k i s l ns) (d:=d) (st:=st) h,h,Bool.true_and];exact mg l _ _
  ·rw[kO (f:=pD) (by simpa[pD]using h)];simp[h]
theorem mg : ∀(l:List VT) (d:Nat) (st:Unit),(dD pD l d st).2=dE l
 | [],d,st=>by rw[gw];unfold dE;rfl
 |t::r,d,st=>by
  unfold dE;have h:=oB t d st;by_cases hm:ba t=true
  ·rw[iT (by rw[h,hm]),hm,Bool.true_and];exact mg r _ _
  ·rw[kP (by rw[h];simpa using hm)];simp[hm]
end
theorem tF (S:Nat→Prop)(x:VT)(v:Value)(W:World)(lvl:Nat)(hS: ∀b,S b→b<W.heap.size)(h:LV W S x v):Calls Tryz.prog 146 #[v,.int .i64 lvl] W fun e w'=>e= .returned (.bool (lp x))∧Below W.heap.size W w':=by
 have HV:=hid h;obtain⟨A,c,A',c',rfl,-,-,-,-,-,-,-⟩:=h.shape;have HC:=hid (tU S x _ _ (dS hS _) (h.alloc hS (.cells #[.int .i64 x.kind,.int .i64 x.num,.string x.text,.slice A x.items.length c,.slice A' x.names.length c'] 43)));clear h;go_enter Tryz.func146,Tryz.ntmps146;go_wp2_with fail;refine HC.out.mono ?_;rintro e w' ⟨rfl,hb⟩;have HB:=hid (aw (ae _) hb);clear hb HC;go_wp2_with fail;go_ret;exact⟨rfl,HB.out⟩
theorem mY (S:Nat→Prop)(t:VT)(v:Value)(w:World)(hS: ∀b,S b→b<w.heap.size)(h:LV w S t v)(hd:ao t≤4611686018427387903):Calls Tryz.prog 131 #[v] w fun e w'=>e= .returned (.bool (ba t))∧Below w.heap.size w w':=by
 have HV:=hid h;obtain⟨A,c,A',c',rfl,-,-,-,-,-,-,-⟩:=h.shape
 have hs:rF 146 #[] S w.heap.size (fun _ _=>True) pD 4611686018427387904:=fun x v W lvl st hg hv _ _=>
  (tF S x v W lvl (fun b hb=>Nat.lt_trans (hS b hb) hg) hv).mono fun e w' ⟨he,hb⟩=>⟨he,trivial,aJ.ofBelow hb⟩
 have HC:=hid (kE 146 #[] S w.heap.size (fun _ _=>True) pD 4611686018427387904 qI hS (Nat.le_refl _) (fun _ _ _ _ _=>trivial) hs (ao t) t _ (w.alloc (.cells #[.int .i64 t.kind,.int .i64 t.num,.string t.text,.slice A t.items.length c,.slice A' t.names.length c'] 43)) 1 () (Nat.le_refl _)
  (h.alloc hS _) (by simp) (by omega) trivial)
 have HR:=hid (oB t 1 ());clear h hs;go_enter Tryz.func131,Tryz.ntmps131;go_wp2_with fail;refine HC.out.mono ?_;rintro e w' ⟨rfl,-,hb⟩;have HB:=hid ((ae (w:=w) _).trans (hb.below (by simp) (Nat.le_refl _)));rw[HR.out];clear hb HC;go_wp2_with fail;go_ret;exact⟨rfl,HB.out⟩
/-! ### depth -/
def pI :VT→Nat→Nat→Nat×Bool:=fun _ lvl st=>(max st lvl,true)
mutual
theorem oz : ∀(t:VT) (d:Nat) (st:Nat),cR pI t d st=(max st (d+ao t - 1),true)
 | .mk k i s l ns,d,st=>by
  rw[ir (f:=pI) rfl,aH];show dD pI l (d+1) (max st d)=_;rw[mh l];by_cases h:aN l=0
  ·rw[if_pos h,h];congr 1
  ·rw[if_neg h];congr 1;omega
theorem mh : ∀(l:List VT) (d:Nat) (st:Nat),dD pI l d st=(if aN l=0 then st else max st (d+aN l - 1),true)
 | [],d,st=>by rw[gw];unfold aN;rfl
 |t::r,d,st=>by
  have h:=oz t d st;have ht:1≤ao t:=by cases t;rw[aH];omega
  rw[iT (by rw[h]),h,mh r]
  conv=>rhs;unfold aN
  show(if aN r=0 then max st (d+ao t - 1)else max (max st (d+ao t - 1)) (d+aN r - 1),true)=(if max (ao t) (aN r)=0 then st else max st (d+max (ao t) (aN r) - 1),true)
  congr 1
  split<;>split<;>omega
end
def cG (w:World)(g:Nat)(v:Value):Prop:=w.heap[g]? =some (.cells #[v] 3 (0,0))
theorem cG.cell {w:World}{g:Nat}{v:Value}(h:cG w g v):w.cell? ⟨g,0,none⟩=some v:=Go.Joins.cell_of_block h 0
theorem cG.free {w:World}{g:Nat}{v:Value}(h:cG w g v):w.frozen? ⟨g,0,none⟩=false:=Go.Joins.unfrozen_of_block h 0
theorem cG.set {w:World}{g:Nat}{v:Value}(h:cG w g v)(u:Value):cG (w.setCell ⟨g,0,none⟩ u) g u:=Go.Joins.block_setCell (i:=0) h u
theorem cG.alloc {w:World}{g:Nat}{v:Value}(h:cG w g v)(hg:g<w.heap.size)(o:Obj):cG (w.alloc o) g v:=(Below.heap_alloc w o g hg).trans h
theorem uU (S:Nat→Prop)(g:Nat)(x:VT)(v:Value)(W:World)(lvl st:Nat)(hg:g<W.heap.size)(h:LV W S x v)(hl:lvl≤4611686018427387904)(hc:cG W g (.int .i64 st)):
  Calls Tryz.prog 148 #[v,.int .i64 lvl,.pointer (some ⟨g,0,none⟩)] W fun e w'=>e= .returned (.bool true)∧cG w' g (.int .i64 ((max st lvl:Nat):Int))∧aJ W w' g:=by
 obtain⟨A,c,A',c',rfl,-,-,-,-,-,-,-⟩:=h.shape;have HC:=hid hc;have c0:=hc.cell;have f0:=hc.free;clear h hc;go_enter Tryz.func148,Tryz.ntmps148;go_wp2_with fail
 all_goals
  go_ret;refine⟨rfl,?_,((aJ.refl W g).set _ _).alloc _⟩;have e:=(HC.out.set (.int .i64 ((max st lvl:Nat):Int))).alloc (by simpa[World.setCell]using hg) (.cells #[.int .i64 x.kind,.int .i64 x.num,.string x.text,.slice A x.items.length c,.slice A' x.names.length c'] 43)
 ·have h:st<lvl:=by assumption
  rwa[Nat.max_eq_right (by omega)]at e ⊢
 ·have h: ¬st<lvl:=by assumption
  rwa[Nat.max_eq_left (by omega)]at e ⊢
theorem sd (S:Nat→Prop)(t:VT)(v:Value)(w:World)(hS: ∀b,S b→b<w.heap.size)(h:LV w S t v)(hd:ao t≤4611686018427387903):Calls Tryz.prog 132 #[v] w fun e w'=>e= .returned (.int .i64 (ao t))∧Below w.heap.size w w':=by
 obtain⟨A,c,A',c',rfl,-,-,-,-,-,-,-⟩:=h.shape;obtain⟨o,ho⟩: ∃o:Obj,o= .cells #[.int .i64 t.kind,.int .i64 t.num,.string t.text,.slice A t.items.length c,.slice A' t.names.length c'] 43:=⟨_,rfl⟩;obtain⟨w2,hw2⟩: ∃w2:World,w2=(w.alloc o).alloc (.cells #[.int .i64 0] 3):=⟨_,rfl⟩;have hsz:w2.heap.size=w.heap.size+2:=by rw[hw2];simp
 have hb2:Below w.heap.size w w2:=by rw[hw2];exact((ae o).alloc (by simp) _)
 have hs:rF 148 #[.pointer (some ⟨w.heap.size+1,0,none⟩)] S (w.heap.size+1) (fun W st=>cG W (w.heap.size+1) (.int .i64 ((st:Nat):Int))) pI 4611686018427387904:=fun x v W lvl st hg hv hl hc=>
  (uU S _ x v W lvl st hg hv hl hc).mono fun e w' ⟨he,hb,ho⟩=>⟨he,hb,ho⟩
 have hc0:cG w2 (w.heap.size+1) (.int .i64 ((0:Nat):Int)):=by
  have:=heap_alloc_new (w.alloc o) (.cells #[.int .i64 0] 3);rw[hw2];unfold cG;simpa using this
 have HC:=hid (kE 148 #[.pointer (some ⟨w.heap.size+1,0,none⟩)] S (w.heap.size+1) (fun W st=>cG W (w.heap.size+1) (.int .i64 ((st:Nat):Int))) pI 4611686018427387904 nh (fun b hb=>Nat.lt_succ_of_lt (hS b hb)) (Nat.le_refl _) (fun _ _ _ he hi=>he.trans hi) hs (ao t) t _ w2 1 0 (Nat.le_refl _)
  (h.below hS hb2) (by omega) (by omega) hc0)
 have hr:=oz t 1 0;have ht:1≤ao t:=by cases t;rw[aH];omega
 have hr1:(cR pI t 1 0).1=ao t:=by rw[hr];show max 0 (1+ao t - 1)=_;omega
 rw[hr1]at HC;have HB:=hid hb2;subst ho hw2;clear h hs hr hr1 ht hc0 hb2 hsz;go_enter Tryz.func132,Tryz.ntmps132;go_wp2_with fail;refine HC.out.mono ?_;rintro e w' ⟨rfl,hc,ho⟩;have c0:=hc.cell;have HB2:=hid (HB.out.trans (ho.below (B:=w.heap.size) (by simp;omega) (by omega)));clear hc ho HC HB;go_wp2_with fail;go_ret;exact⟨rfl,HB2.out⟩
theorem aq.slice {w:World}{B:Nat}{v:Value}{l:List UInt8}(h:aq w B v l): ∃A c,v= .slice A l.length c:=by
 rcases h.2 with ⟨rfl,h2⟩|⟨g,cap,cur,rfl,_⟩
 ·exact⟨none,0,by rw[h2]⟩
 ·exact⟨_,_,rfl⟩
theorem dM (a b:Int):wrap64 (wrap64 a+b)=wrap64 (a+b):=by unfold wrap64;omega
theorem jB (a b:Int):wrap64 (a+wrap64 b)=wrap64 (a+b):=by unfold wrap64;omega
theorem bC {a:Int}(h1: -9223372036854775808≤a)(h2:a≤9223372036854775807):wrap64 a=a:=by unfold wrap64;omega
theorem jp (n:Nat)(w:World)(hn:n≤4611686018427387904):Calls Tryz.prog 173 #[.int .i64 n] w fun e w'=>e= .returned (.int .i64 ((grp n).length))∧Below w.heap.size w w':=by
 go_enter Tryz.func173,Tryz.ntmps173;go_wp2_with fail;refine(gu n _ (by omega)).mono ?_;rintro e w1 (⟨_,_,v,rfl,hv,hb⟩|⟨h,_⟩);rotate_left
 ·omega
 obtain⟨A,c,rfl⟩:=hv.slice;have HB:=hid hb;clear hv hb;go_wp2_with fail;go_ret;exact⟨rfl,HB.out⟩
def tsz (s:ByteArray):Nat:=(grp s.size).length+s.size
theorem lN (s:ByteArray)(w:World)(hs:s.size≤140737488351232):Calls Tryz.prog 172 #[.string s] w fun e w'=>e= .returned (.int .i64 (tsz s))∧Below w.heap.size w w':=by
 have hg:=(al s.size).1;go_enter Tryz.func172,Tryz.ntmps172;go_wp2_with fail;refine(jp s.size _ (by omega)).mono ?_;rintro e w1 ⟨rfl,hb⟩;have HB:=hid hb;clear hb;go_wp2_with fail;go_ret;exact⟨aG (by unfold tsz;omega),HB.out⟩
def dC (ns:List ByteArray):Nat:=(ns.map tsz).sum
def cB (k i:Int)(s:ByteArray)(n:Nat)(ns:List ByteArray):Nat:=
 if k=2 then 2 else if k=3 then 1+(grp (zig i)).length else if k=4∨k=5 then 1+tsz s
 else if k=6 then 1+(grp n).length else if k=7 then 1+(grp n).length+dC ns else 1
def nv :VT→Nat
 | .mk k i s l ns=>cB k i s l.length ns
theorem rV (ns:List ByteArray)(k:Nat)(hk:k<ns.length):dC (ns.take (k+1))=dC (ns.take k)+tsz ns[k]:=by
 unfold dC;rw[List.take_add_one,List.getElem?_eq_getElem hk,List.map_append,List.sum_append];simp
theorem tM (ns:List ByteArray)(k:Nat)(hk:ns.length≤k):dC (ns.take k)=dC ns:=by rw[List.take_of_length_le hk]
theorem j9 (s:ByteArray)(h:s.size≤140737488351232):tsz s≤140737488351300:=by have:=(al s.size).1;unfold tsz;omega
section
variable (i :Int) (s:ByteArray) (A A':Option Addr) (n c c':Nat) (ns:List ByteArray) (w:World)
set_option maxHeartbeats 1000000
theorem xn (k:Int)(hk: ¬(2≤k∧k≤7)):Calls Tryz.prog 150 #[.agg #[.int .i64 k,.int .i64 i,.string s,.slice A n c,.slice A' ns.length c']] w fun e w'=>e= .returned (.int .i64 (wrap64 (cB k i s n ns)))∧Below w.heap.size w w':=by
 have e0:cB k i s n ns=1:=by
  unfold cB;rw[if_neg (by omega),if_neg (by omega),if_neg (by omega),if_neg (by omega),if_neg (by omega)]
 rw[e0];have b2:(k == 2)=false:=by simp;omega
 have b3:(k == 3)=false:=by simp;omega
 have b4:(k == 4)=false:=by simp;omega
 have b5:(k == 5)=false:=by simp;omega
 have b6:(k == 6)=false:=by simp;omega
 have b7:(k == 7)=false:=by simp;omega
 clear e0 hk;go_enter Tryz.func150,Tryz.ntmps150;go_wp2_with fail;go_ret;exact⟨aG (by rw[bC (by decide) (by decide)];rfl),ae _⟩
theorem xh :Calls Tryz.prog 150 #[.agg #[.int .i64 2,.int .i64 i,.string s,.slice A n c,.slice A' ns.length c']] w fun e w'=>e= .returned (.int .i64 (wrap64 (cB 2 i s n ns)))∧Below w.heap.size w w':=by
 go_enter Tryz.func150,Tryz.ntmps150;go_wp2_with fail;go_ret;exact⟨aG (by unfold cB;rw[if_pos rfl,bC (by decide) (by decide)];rfl),ae _⟩
theorem xe (hi:Rng i):Calls Tryz.prog 150 #[.agg #[.int .i64 3,.int .i64 i,.string s,.slice A n c,.slice A' ns.length c']] w fun e w'=>e= .returned (.int .i64 (wrap64 (cB 3 i s n ns)))∧Below w.heap.size w w':=by
 have hg:=(al (zig i)).1;go_enter Tryz.func150,Tryz.ntmps150;go_wp2_with fail;refine(rM i _ hi.1 hi.2).mono ?_;rintro e w1 ⟨v,rfl,hv,hb⟩;obtain⟨A2,c2,rfl⟩:=hv.slice;have HB:=hid (aw (ae _) hb);clear hv hb;go_wp2_with fail;go_ret;exact⟨aG (by unfold cB;simp;rw[bC (by omega) (by omega)]),HB.out⟩
theorem wS (k:Int)(hk:k=4∨k=5)(hs:s.size≤140737488351232):Calls Tryz.prog 150 #[.agg #[.int .i64 k,.int .i64 i,.string s,.slice A n c,.slice A' ns.length c']] w fun e w'=>e= .returned (.int .i64 (wrap64 (cB k i s n ns)))∧Below w.heap.size w w':=by
 have hg:=j9 s hs;have HS:=hid hs;clear hs;have e0:cB k i s n ns=1+tsz s:=by unfold cB;rw[if_neg (by omega),if_neg (by omega),if_pos hk]
 rw[e0];clear e0;rcases hk with rfl|rfl
 all_goals
  go_enter Tryz.func150,Tryz.ntmps150;go_wp2_with fail;refine(lN s _ HS.out).mono ?_;rintro e w1 ⟨rfl,hb⟩;have HB:=hid (aw (ae _) hb);clear hb;go_wp2_with fail;go_ret;exact⟨aG (by rw[bC (by omega) (by omega)];omega),HB.out⟩
theorem xa (hn:n≤140737488351232):Calls Tryz.prog 150 #[.agg #[.int .i64 6,.int .i64 i,.string s,.slice A n c,.slice A' ns.length c']] w fun e w'=>e= .returned (.int .i64 (wrap64 (cB 6 i s n ns)))∧Below w.heap.size w w':=by
 have hg:=(al n).1;go_enter Tryz.func150,Tryz.ntmps150;go_wp2_with fail;refine(jp n _ (by omega)).mono ?_;rintro e w1 ⟨rfl,hb⟩;have HB:=hid (aw (ae _) hb);clear hb;go_wp2_with fail;go_ret;exact⟨aG (by unfold cB;simp;rw[bC (by omega) (by omega)]),HB.out⟩
theorem wZ (S:Nat→Prop)(hS: ∀b,S b→b<w.heap.size)(hN:au w S A' ns)(hl:ns.length≤140737488351232)(hn:n≤140737488351232):
  Calls Tryz.prog 150 #[.agg #[.int .i64 7,.int .i64 i,.string s,.slice A n c,.slice A' ns.length c']] w fun e w'=>e= .returned (.int .i64 (wrap64 (cB 7 i s n ns)))∧Below w.heap.size w w':=by
 have hg:=(al n).1;have e0:cB 7 i s n ns=1+(grp n).length+dC ns:=by unfold cB;simp
 have HE:=hid e0;clear e0;generalize cB 7 i s n ns=R at *;have HN:=hid hN;have HL:=hid hl;clear hN;go_enter Tryz.func150,Tryz.ntmps150;go_wp2_with fail;refine(jp n _ (by omega)).mono ?_;rintro e w1 ⟨rfl,hb⟩;have hcell: ∀q,w1.cell? ⟨w.heap.size,q,none⟩=(w.alloc (.cells #[.int .i64 7,.int .i64 i,.string s,.slice A n c,.slice A' ns.length c'] 43)).cell? ⟨w.heap.size,q,none⟩:=fun q=>hb.cell (p:=⟨w.heap.size,q,none⟩) (by simp);have k4:=hcell 4;simp at k4;have HB:=hid (aw (ae _) hb);clear hb hcell;go_wp2_with fail
 go_loopw [3,41] (fun tot j wr=> ∃k:Nat,j= .int .i64 k∧k≤ns.length∧tot= .int .i64 (wrap64 ((1+(grp n).length+dC (ns.take k):Nat):Int))∧Hid (Below w.heap.size w wr)) (fun _ j _=>ns.length - (intOf j).toNat)
 case atStart=>exact⟨0,rfl,Nat.zero_le _,by rw[bC (by simp[dC];omega) (by simp[dC];omega)];simp[dC],HB.out⟩
 case round=>
  obtain⟨k,rfl,hk,rfl,HI⟩:=hrel;by_cases hlt:k<ns.length
  ·obtain⟨b,off,rfl,hb,hcells⟩:=HN.out (by omega);obtain⟨hc0,hsz⟩:=hcells k hlt;have hcx:wr.cell? ⟨b,off+k,none⟩=some (.string ns[k]):=(HI.out.cell (p:=⟨b,off+k,none⟩) (hS b hb)).trans hc0;have hst:=rV ns k hlt;generalize hgs:ns[k]=s1 at *;have HSZ:=hid hsz;have HST:=hid hst;clear hcells hc0 hsz hst;generalize hR:1+(grp n).length+dC (ns.take k)=T at *;go_wp2_with fail;refine(lN s1 _ HSZ.out).mono ?_;rintro e w2 ⟨rfl,hb2⟩;have HB2:=hid (HI.out.trans (hb2.mono HI.out.size));clear hb2 HI;go_wp2_with fail
   go_roundw
   case rel=>exact⟨k+1,by go_num,by omega,by
    have e1:1+(grp n).length+dC (ns.take (k+1))=T+tsz s1:=by rw[HST.out];omega
    rw[e1,dM];congr 2,HB2⟩
   case measure=>simp[intOf];omega
  ·have e1:=tM ns k (by omega);rw[e1,←HE.out];go_wp2_with fail;go_ret;exact⟨rfl,HI.out⟩
end
theorem vC (S:Nat→Prop)(t:VT)(v:Value)(w:World)(hS: ∀b,S b→b<w.heap.size)(h:LV w S t v):Calls Tryz.prog 150 #[v] w fun e w'=>e= .returned (.int .i64 (wrap64 (nv t)))∧Below w.heap.size w w':=by
 obtain⟨A,c,A',c',rfl,-,h2,h3,h4,h5,h6,-⟩:=h.shape
 cases t with
 |mk k i s l ns=>
 show Calls Tryz.prog 150 #[.agg #[.int .i64 k,.int .i64 i,.string s,.slice A l.length c,.slice A' ns.length c']] w fun e w'=>e= .returned (.int .i64 (wrap64 (cB k i s l.length ns)))∧Below w.heap.size w w';by_cases hk:2≤k∧k≤7
 ·obtain rfl|rfl|hk|rfl|rfl:k=2∨k=3∨(k=4∨k=5)∨k=6∨k=7:=by omega
  ·exact xh _ _ _ _ _ _ _ _ _
  ·exact xe _ _ _ _ _ _ _ _ _ h2
  ·exact wS _ _ _ _ _ _ _ _ _ k hk h3
  ·exact xa _ _ _ _ _ _ _ _ _ h4
  ·exact wZ _ _ _ _ _ _ _ _ _ S hS h6 h5 h4
 ·exact xn _ _ _ _ _ _ _ _ _ k hk
theorem LV.drew {w:World}{S:Nat→Prop}{t:VT}{v:Value}(h:LV w S t v):LV w.drew S t v:=LV.keep (w:=w) (w':=w.drew) (fun _ _=>rfl) h
theorem oX :dp 149:=fun _ _=>by simp[callFunc,go_sem,Tryz.func149,Tryz.f149]
theorem vU (x:Int):IntKind.i64.wrap x=wrap64 x:=by rw[IntKind.wrap_i64];unfold wrap64;rfl
def pm :VT→Nat→Int→Int×Bool:=fun x _ st=>(wrap64 (st+wrap64 (nv x)),true)
mutual
def aK :VT→Nat
 | .mk k i s l ns=>cB k i s l.length ns+bG l
def bG :List VT→Nat
 | []=>0
 |t::r=>aK t+bG r
end
mutual
theorem oG : ∀(t:VT) (d:Nat) (st:Int),cR pm t d (wrap64 st)=(wrap64 (st+aK t),true)
 | .mk k i s l ns,d,st=>by
  rw[ir (f:=pm) rfl];show dD pm l (d+1) (wrap64 (wrap64 st+wrap64 (cB k i s l.length ns)))=_;rw[jB,dM,mr l];unfold aK
  congr 2;omega
theorem mr : ∀(l:List VT) (d:Nat) (st:Int),dD pm l d (wrap64 st)=(wrap64 (st+bG l),true)
 | [],d,st=>by rw[gw];unfold bG;simp
 |t::r,d,st=>by
  have h:=oG t d st;rw[iT (by rw[h]),h];show dD pm r d (wrap64 (st+aK t))=_;rw[mr r]
  conv=>rhs;unfold bG
  congr 2;omega
end
theorem tX (S:Nat→Prop)(g:Nat)(x:VT)(v:Value)(W:World)(lvl:Nat)(st:Int)(hS: ∀b,S b→b<g)(hg:g<W.heap.size)(h:LV W S x v)(hc:cG W g (.int .i64 (wrap64 st))):
  Calls Tryz.prog 149 #[v,.int .i64 lvl,.pointer (some ⟨g,0,none⟩)] W fun e w'=>e= .returned (.bool true)∧cG w' g (.int .i64 (wrap64 (st+wrap64 (nv x))))∧aJ W w' g:=by
 have HV:=hid h;obtain⟨A,c,A',c',rfl,-,-,-,-,-,-,-⟩:=h.shape;obtain⟨o,ho⟩: ∃o:Obj,o= .cells #[.int .i64 x.kind,.int .i64 x.num,.string x.text,.slice A x.items.length c,.slice A' x.names.length c'] 43:=⟨_,rfl⟩;have HO:=hid ho;have HC:=hid hc;have c0:=hc.cell;have f0:=hc.free;have hc2:=hc.alloc hg o;have C0:Hid ((W.alloc o).drew.cell? ⟨g,0,none⟩=some (.int .i64 (wrap64 st))):=hc2.cell;have F0:Hid ((W.alloc o).drew.frozen? ⟨g,0,none⟩=false):=hc2.free
 have HG:Hid (g<(W.alloc o).drew.heap.size):=by
  show g<(W.alloc o).heap.size;simp;omega
 have HC2:Hid (cG (W.alloc o).drew g (.int .i64 (wrap64 st))):=hc2;have HON:Hid (aJ W (W.alloc o).drew g):=aJ.ofBelow ((ae o).drew);have HW:=hid (vC S x _ (W.alloc o).drew (fun b hb=>by have:=hS b hb;simp;omega) (h.alloc (fun b hb=>Nat.lt_trans (hS b hb) hg) o).drew);clear h hc hc2;subst ho;go_enter Tryz.func149,Tryz.ntmps149;go_wp2_with fail
 go_region_with (go_at_call 150;refine HW.out.mono ?_;rintro e w1 ⟨rfl,hb⟩;have c1:=(hb.cell (p:=⟨g,0,none⟩) HG.out).trans C0.out;have f1:=(World.frozen?_of_block (a:=⟨g,0,none⟩) (hb.block g HG.out)).trans F0.out)
 all_goals
  have hcw:cG w1 g _:=(hb.block g HG.out).trans HC2.out;have how:aJ W w1 g:=HON.out.trans (aJ.ofBelow hb);have HF:=hid (And.intro (hcw.set (.int .i64 (wrap64 (st+wrap64 (nv x))))) (how.set 0 (.int .i64 (wrap64 (st+wrap64 (nv x))))));have e:IntKind.i64.wrap (wrap64 st+wrap64 (nv x))=wrap64 (st+wrap64 (nv x)):=(vU _).trans (dM _ _);rw[e];clear hcw how hb HW HON HC2 HG C0 F0 HV HC c0 f0 e c1 f1;go_wp2;go_ret;exact⟨rfl,HF.out⟩
theorem u6 (S:Nat→Prop)(t:VT)(v:Value)(w:World)(hS: ∀b,S b→b<w.heap.size)(h:LV w S t v)(hd:ao t≤4611686018427387903):Calls Tryz.prog 133 #[v] w fun e w'=>e= .returned (.int .i64 (wrap64 (aK t)))∧Below w.heap.size w w':=by
 obtain⟨A,c,A',c',rfl,-,-,-,-,-,-,-⟩:=h.shape;obtain⟨o,ho⟩: ∃o:Obj,o= .cells #[.int .i64 t.kind,.int .i64 t.num,.string t.text,.slice A t.items.length c,.slice A' t.names.length c'] 43:=⟨_,rfl⟩;obtain⟨w2,hw2⟩: ∃w2:World,w2=(w.alloc o).alloc (.cells #[.int .i64 0] 3):=⟨_,rfl⟩;have hsz:w2.heap.size=w.heap.size+2:=by rw[hw2];simp
 have hb2:Below w.heap.size w w2:=by rw[hw2];exact((ae o).alloc (by simp) _)
 have hs:rF 149 #[.pointer (some ⟨w.heap.size+1,0,none⟩)] S (w.heap.size+1) (fun W st=> ∃st0,st=wrap64 st0∧cG W (w.heap.size+1) (.int .i64 (wrap64 st0))) pm 4611686018427387904:=by
  rintro x v W lvl _ hg hv hl ⟨st,rfl,hc⟩;refine(tX S _ x v W lvl st (fun b hb=>Nat.lt_succ_of_lt (hS b hb)) hg hv hc).mono fun e w' ⟨he,hb,ho⟩=>⟨he,⟨st+wrap64 (nv x),?_,hb⟩,ho⟩;show wrap64 (wrap64 st+wrap64 (nv x))=_;exact dM _ _
 have hc0:cG w2 (w.heap.size+1) (.int .i64 (wrap64 0)):=by
  have:=heap_alloc_new (w.alloc o) (.cells #[.int .i64 0] 3);rw[hw2,bC (by decide) (by decide)];unfold cG;simpa using this
 have HC:=hid (kE 149 #[.pointer (some ⟨w.heap.size+1,0,none⟩)] S (w.heap.size+1) (fun W st=> ∃st0,st=wrap64 st0∧cG W (w.heap.size+1) (.int .i64 (wrap64 st0))) pm 4611686018427387904 oX (fun b hb=>Nat.lt_succ_of_lt (hS b hb)) (Nat.le_refl _) (fun _ _ _ he ⟨st0,hi,hc⟩=>⟨st0,hi,he.trans hc⟩) hs (ao t) t _ w2 1 (wrap64 0) (Nat.le_refl _)
  (h.below hS hb2) (by omega) (by omega) ⟨0,rfl,hc0⟩)
 have hr:=oG t 1 0;have hr1:(cR pm t 1 (wrap64 0)).1=wrap64 (aK t):=by rw[hr];show wrap64 (0+(aK t:Int))=_;rw[Int.zero_add]
 rw[hr1]at HC;have HB:=hid hb2;subst ho hw2;clear h hs hr hr1 hc0 hb2 hsz;go_enter Tryz.func133,Tryz.ntmps133;go_wp2_with fail;refine HC.out.mono ?_;rintro e w' ⟨rfl,⟨st0,hst,hc⟩,ho⟩;rw[←hst]at hc;have c0:=hc.cell;have HB2:=hid (HB.out.trans (ho.below (B:=w.heap.size) (by simp;omega) (by omega)));clear hc ho HC HB hst;go_wp2_with fail;go_ret;exact⟨rfl,HB2.out⟩
def Box (w:World)(g:Nat)(a b c d e:Value):Prop:=w.heap[g]? =some (.cells #[a,b,c,d,e] 43 (0,0))
theorem Box.c0 {w:World}{g:Nat}{a b c d e:Value}(h:Box w g a b c d e):w.cell? ⟨g,0,none⟩=some a:=Go.Joins.cell_of_block h 0
theorem Box.c1 {w:World}{g:Nat}{a b c d e:Value}(h:Box w g a b c d e):w.cell? ⟨g,1,none⟩=some b:=Go.Joins.cell_of_block h 1
theorem Box.c2 {w:World}{g:Nat}{a b c d e:Value}(h:Box w g a b c d e):w.cell? ⟨g,2,none⟩=some c:=Go.Joins.cell_of_block h 2
theorem Box.c3 {w:World}{g:Nat}{a b c d e:Value}(h:Box w g a b c d e):w.cell? ⟨g,3,none⟩=some d:=Go.Joins.cell_of_block h 3
theorem Box.c4 {w:World}{g:Nat}{a b c d e:Value}(h:Box w g a b c d e):w.cell? ⟨g,4,none⟩=some e:=Go.Joins.cell_of_block h 4
theorem Box.free {w:World}{g:Nat}{a b c d e:Value}(h:Box w g a b c d e)(i:Nat):w.frozen? ⟨g,i,none⟩=false:=Go.Joins.unfrozen_of_block h i
theorem Box.lt {w:World}{g:Nat}{a b c d e:Value}(h:Box w g a b c d e):g<w.heap.size:=(Array.getElem?_eq_some_iff.1 h).1
theorem Box.new {w:World}(a b c d e:Value):Box (w.alloc (.cells #[a,b,c,d,e] 43)) w.heap.size a b c d e:=heap_alloc_new w _
theorem Box.below {w w':World}{g B:Nat}{a b c d e:Value}(h:Box w g a b c d e)(hb:Below B w w')(hg:g<B):Box w' g a b c d e:=(hb.block g hg).trans h
theorem Box.call {w w':World}{g:Nat}{a b c d e:Value}(h:Box w g a b c d e)(hb:Below w.heap.size w w'):Box w' g a b c d e:=h.below hb h.lt
theorem Box.alloc {w:World}{g:Nat}{a b c d e:Value}(h:Box w g a b c d e)(o:Obj):Box (w.alloc o) g a b c d e:=(Below.heap_alloc w o g h.lt).trans h
def aX (t:VT):Int:=if ba t then(if 8<(ao t:Int)then 21 else if 4096<wrap64 (aK t)then 22 else 0)else 20
section
variable (S :Nat→Prop) (t:VT) (v:Value) (w:World)
set_option maxHeartbeats 400000
theorem eY (hS: ∀b,S b→b<w.heap.size)(h:LV w S t v)(hd:ao t≤4611686018427387903):Calls Tryz.prog 116 #[v] w fun e w'=>e= .returned (.int .i64 (aX t))∧Below w.heap.size w w':=by
 have HV:=hid h;obtain⟨A,c,A',c',rfl,-,-,-,-,-,-,-⟩:=h.shape;have HX:=hid (Box.new (w:=w) (.int .i64 t.kind) (.int .i64 t.num) (.string t.text) (.slice A t.items.length c) (.slice A' t.names.length c'));have HM:=hid (mY S t _ _ (dS hS _) (h.alloc hS (.cells #[.int .i64 t.kind,.int .i64 t.num,.string t.text,.slice A t.items.length c,.slice A' t.names.length c'] 43)) hd);have HD:=hid hd;have HE:Hid (aX t=if ba t then(if 8<(ao t:Int)then 21 else if 4096<wrap64 (aK t)then 22 else 0)else 20):=rfl;generalize aX t=R at *;clear h hd;generalize hm:ba t=m at *;clear hm;go_enter Tryz.func116,Tryz.ntmps116;go_wp2_with fail;refine HM.out.mono ?_;rintro e w1 ⟨rfl,hb⟩;have HB1:=hid (aw (ae _) hb);have hx:=HX.out.call hb;have HX1:=hid hx;have k0:=hx.c0;have k1:=hx.c1;have k2:=hx.c2;have k3:=hx.c3;have k4:=hx.c4;clear hx hb HM HX;cases m
 ·go_wp2_with fail;go_ret;rw[HE.out];exact⟨rfl,HB1.out⟩
 ·go_wp2_with fail;refine(sd S t _ w1 (cy hS HB1.out) (HV.out.below hS HB1.out) HD.out).mono ?_;rintro e w2 ⟨rfl,hb⟩;have HB2:=hid (aw HB1.out hb);have hx:=HX1.out.call hb;clear k0 k1 k2 k3 k4;have k0:=hx.c0;have k1:=hx.c1;have k2:=hx.c2;have k3:=hx.c3;have k4:=hx.c4;clear hx hb HB1 HX1;by_cases h8:8<(ao t:Int)
  ·have e1:R=21:=by rw[HE.out,if_pos trivial,if_pos h8]
   go_wp2_with fail;go_ret;rw[e1];exact⟨rfl,HB2.out⟩
  ·have HE2:Hid (R=if 4096<wrap64 (aK t)then 22 else 0):=hid (by rw[HE.out,if_pos trivial,if_neg h8]);clear HE;go_wp2_with fail;refine(u6 S t _ w2 (cy hS HB2.out) (HV.out.below hS HB2.out) HD.out).mono ?_;rintro e w3 ⟨rfl,hb⟩;have HB3:=hid (aw HB2.out hb);clear k0 k1 k2 k3 k4 hb HB2 HV;generalize wrap64 (aK t)=z at *;by_cases hz:4096<z
   ·have e1:R=22:=by rw[HE2.out,if_pos hz]
    go_wp2_with fail;go_ret;rw[e1];exact⟨rfl,HB3.out⟩
   ·have e1:R=0:=by rw[HE2.out,if_neg hz]
    go_wp2_with fail;go_ret;rw[e1];exact⟨rfl,HB3.out⟩
end
theorem mq (s:ByteArray)(w:World)(hs:s.size≤9223372036854775807):Calls Tryz.prog 119 #[.string s] w fun e w'=>e= .returned (.bool (bP s.data.toList))∧w=w':=by
 have HS:=hid hs;clear hs;go_enter Tryz.func119,Tryz.ntmps119;go_wp2
 go_loopw [3] (fun i wr=> ∃k:Nat,i= .int .i64 k∧k≤s.size∧wr=w∧ ∀j (h:j<s.size),j<k→s[j].toNat≠46) (fun i _=>s.size - (intOf i).toNat)
 case atStart=>exact⟨0,rfl,by omega,rfl,fun j _ h=>absurd h (by omega)⟩
 case round=>
  obtain⟨k,rfl,hk,rfl,hj⟩:=hrel;have HJ:=hid hj;have hs:=HS.out;clear hj;by_cases hlt:k<s.size
  ·by_cases hb:s[k].toNat=46
   ·go_wp2;go_ret;exact⟨aE (cQ fun h=>h.2.2.2 k hlt hb),rfl⟩
   ·go_wp2
    go_roundw
    case rel=>exact⟨k+1,by go_num,by omega,trivial,fun j h hjk=>by
     by_cases e:j=k
     ·subst e;exact hb
     ·exact HJ.out j h (by omega)⟩
    case measure=>simp[intOf];omega
  ·obtain rfl:k=s.size:=by omega
   clear hlt hk;by_cases h1:1≤s.size
   ·by_cases h2:s.size≤32
    ·by_cases h3:s[0].toNat=36
     ·go_wp2;go_ret;exact⟨aE (cQ fun h=>h.2.2.1 h1 h3),rfl⟩
     ·go_wp2;go_ret;exact⟨aE (((bne_iff_ne).2 fun h=>h3 (by omega)).trans (l9 ⟨h1,h2,fun _=>h3,fun i h=>HJ.out i h h⟩)),rfl⟩
    ·go_wp2;go_ret;exact⟨aE (cQ fun h=>h2 h.2.1),rfl⟩
   ·go_wp2;go_ret;exact⟨aE (cQ fun h=>h1 h.1),rfl⟩
def ga (ns:List ByteArray):Bool:=decide (1≤ns.length) && decide (ns.length≤8) && ns.all fun s=>bP s.data.toList
theorem rX (s:ByteArray)(w:World)(hs:s.size≤9223372036854775807):Calls Tryz.prog 198 #[.string s] w fun e w'=>e= .returned (.bool (!bP s.data.toList))∧w=w':=by
 have HS:=hid hs;clear hs;go_enter Tryz.func198,Tryz.ntmps198;go_wp2_with fail;refine(nT s _ HS.out).mono ?_;rintro e u ⟨rfl,rfl⟩;go_wp2_with fail;go_ret;exact⟨rfl,rfl⟩
def wD (ns:List ByteArray)(w:World)(e:Ending)(w':World):Prop:= ∃i:Int,e= .returned (.int .i64 i)∧decide (0≤i)=(!(ns.all fun s=>bP s.data.toList))∧w=w'
theorem od {ns:List ByteArray}(h: ∀j (h:j<ns.length),bP ns[j].data.toList=true):(ns.all fun s=>bP s.data.toList)=true:=by
 rw[List.all_eq_true];intro x hx;obtain⟨j,hj,rfl⟩:=List.mem_iff_getElem.1 hx;exact h j hj
theorem rh {ns:List ByteArray}{j:Nat}(hj:j<ns.length)(h:bP ns[j].data.toList=false):(ns.all fun s=>bP s.data.toList)=false:=by
 rw[List.all_eq_false];exact⟨ns[j],List.getElem_mem hj,by rw[h];simp⟩
theorem pW (A:Option Addr)(c:Nat)(ns:List ByteArray)(w:World)(S:Nat→Prop)(h:au w S A ns)(hn:ns.length≤140737488351232):Calls Tryz.prog 213 #[.slice A ns.length c,.func (.func 198) #[] #[]] w (wD ns w):=by
 have HS:=hid h;have HN:=hid hn;clear h;go_enter Tryz.func213,Tryz.ntmps213;go_wp2_with fail
 go_loopw [8] (fun i wr=> ∃k:Nat,i= .int .i64 k∧k≤ns.length∧wr=w∧Hid (∀j (h:j<ns.length),j<k→bP ns[j].data.toList=true)) (fun i _=>ns.length - (intOf i).toNat)
 case atStart=>exact⟨0,rfl,by omega,rfl,fun j _ h=>absurd h (by omega)⟩
 case round=>
  obtain⟨k,rfl,hk,rfl,HJ⟩:=hrel;by_cases hlt:k<ns.length
  ·obtain⟨p,o,rfl,-,hc⟩:=HS.out (by omega);have hck:=(hc k hlt).1;have Hz:=hid (hc k hlt).2;clear hc;go_wp2_with fail;refine(rX _ _ (by have:=Hz.out;omega)).mono ?_;rintro e u ⟨rfl,rfl⟩;cases hb:bP ns[k].data.toList
   ·go_wp2_with fail;go_ret;exact⟨k,rfl,by rw[rh hlt hb];simp,rfl⟩
   ·have Hb:=hid hb;go_wp2_with fail
    go_roundw
    case rel=>exact⟨k+1,by go_num,by omega,trivial,fun j h hjk=>by
     by_cases e:j=k
     ·subst e;exact Hb.out
     ·exact HJ.out j h (by omega)⟩
    case measure=>simp[intOf];omega
  ·go_wp2_with fail;go_ret;exact⟨-1,rfl,by rw[od fun j h=>HJ.out j h (by omega)];rfl,rfl⟩
theorem sq (A:Option Addr)(c:Nat)(ns:List ByteArray)(w:World)(S:Nat→Prop)(h:au w S A ns)(hn:ns.length≤140737488351232):Calls Tryz.prog 197 #[.slice A ns.length c,.func (.func 198) #[] #[]] w fun e w'=>e= .returned (.bool (!(ns.all fun s=>bP s.data.toList)))∧w=w':=by
 go_enter Tryz.func197,Tryz.ntmps197;go_wp2_with fail;refine(pW A c ns _ S h hn).mono ?_;rintro e u ⟨i,rfl,hi,rfl⟩;have HI:=hid hi;clear hi;go_wp2_with fail;go_ret;exact⟨aE HI.out,rfl⟩
theorem ve (A:Option Addr)(c:Nat)(ns:List ByteArray)(w:World)(S:Nat→Prop)(h:au w S A ns)(hn:ns.length≤140737488351232):Calls Tryz.prog 176 #[.slice A ns.length c] w fun e w'=>e= .returned (.bool (ga ns))∧w=w':=by
 by_cases h0:ns.length=0
 ·obtain rfl:=List.eq_nil_of_length_eq_zero h0;go_enter Tryz.func176,Tryz.ntmps176;go_wp2_with fail;go_ret;exact⟨aE rfl,rfl⟩
 ·by_cases h8:ns.length≤8
  ·have e0:((ns.length:Int) == 0)=false:=beq_eq_false_iff_ne.2 (by omega);have e8:decide ((8:Int)<(ns.length:Int))=false:=by simp;omega
   go_enter Tryz.func176,Tryz.ntmps176;go_wp2_with fail;refine(sq A c ns _ S h hn).mono ?_;rintro e u ⟨rfl,rfl⟩;go_wp2_with fail;go_ret;exact⟨aE (by unfold ga;rw[decide_eq_true (by omega:1≤ns.length),decide_eq_true h8];simp),rfl⟩
  ·have e8:decide ((8:Int)<(ns.length:Int))=true:=by simp;omega
   go_enter Tryz.func176,Tryz.ntmps176;go_wp2_with fail;go_ret;exact⟨aE (by unfold ga;simp[h8]),rfl⟩
theorem sV (A:Option Addr)(c:Nat)(ns:List ByteArray)(w:World)(S:Nat→Prop)(h:au w S A ns)(hn:ns.length≤140737488351232):Calls Tryz.prog 129 #[.slice A ns.length c] w fun e w'=>e= .returned (.bool (ga ns))∧w=w':=by
 have HS:=hid h;have HN:=hid hn;clear h;go_enter Tryz.func129,Tryz.ntmps129;go_wp2_with fail
 go_loopw [3] (fun i wr=> ∃k:Nat,i= .int .i64 k∧k≤ns.length∧wr=w∧Hid (∀j (h:j<ns.length),j<k→bP ns[j].data.toList=true)) (fun i _=>ns.length - (intOf i).toNat)
 case atStart=>exact⟨0,rfl,by omega,rfl,fun j _ h=>absurd h (by omega)⟩
 case round=>
  obtain⟨k,rfl,hk,rfl,HJ⟩:=hrel;by_cases hlt:k<ns.length
  ·obtain⟨p,o,rfl,-,hc⟩:=HS.out (by omega);have hck:=(hc k hlt).1;have Hz:=hid (hc k hlt).2;clear hc;go_wp2_with fail;refine(mq _ _ (by have:=Hz.out;omega)).mono ?_;rintro e u ⟨rfl,rfl⟩;cases hb:bP ns[k].data.toList
   ·go_wp2_with fail;go_ret;exact⟨aE (by unfold ga;rw[rh hlt hb];simp),rfl⟩
   ·have Hb:=hid hb;go_wp2_with fail
    go_roundw
    case rel=>exact⟨k+1,by go_num,by omega,trivial,fun j h hjk=>by
     by_cases e:j=k
     ·subst e;exact Hb.out
     ·exact HJ.out j h (by omega)⟩
    case measure=>simp[intOf];omega
  ·obtain rfl:k=ns.length:=by omega
   clear hlt hk;have HA:=hid (od fun j h=>HJ.out j h h);go_wp2_with fail
   all_goals
    go_ret;exact⟨aE (by unfold ga;rw[HA.out,Bool.and_true,Bool.eq_iff_iff];simp only[Bool.and_eq_true,decide_eq_true_eq,Bool.false_eq_true,false_iff];omega),rfl⟩
/-! ### beginnings -/
def dK (a b:List ByteArray):Bool:=decide (a.length≤b.length) && decide (b.take a.length=a)
theorem kz {a b:List ByteArray}(j:Nat)(h:j<a.length)(hb: ∀h':j<b.length,a[j]≠b[j]):dK a b=false:=by
 unfold dK;by_cases hl:a.length≤b.length
 ·have hj:j<b.length:=by omega
  have: ¬b.take a.length=a:=fun he=>hb hj (by
   have h1:(b.take a.length)[j]? =a[j]? :=by rw[he]
   rw[List.getElem?_take_of_lt h,List.getElem?_eq_getElem h,List.getElem?_eq_getElem hj]at h1
   injection h1 with h1;exact h1.symm)
  simp[this]
 ·simp[hl]
theorem rR {a b:List ByteArray}(hl:a.length≤b.length)(h: ∀j (h:j<a.length) (h':j<b.length),a[j]=b[j]):dK a b=true:=by
 unfold dK;rw[decide_eq_true hl,Bool.true_and,decide_eq_true_eq];refine List.ext_getElem (by simp;omega) fun j h1 h2=> ?_;rw[List.getElem_take];exact(h j h2 (by omega)).symm
theorem du {B:Nat}{a w:World}(h:Below B a w)(n:Nat):Below B a (w.drewN n):=h.trans ⟨rfl,rfl,rfl,Nat.le_refl _,fun _ _=>rfl⟩
theorem bB (s t:ByteArray):(s.toList == t.toList)=decide (s=t):=by
 rw[Bool.eq_iff_iff];simp only[beq_iff_eq,decide_eq_true_eq];constructor
 ·intro h;rw[ByteArray.toList_eq,ByteArray.toList_eq]at h;cases s;cases t;simp at h;rw[h]
 ·intro h;rw[h]
theorem gi (A B:Option Addr)(c d:Nat)(a b:List ByteArray)(w:World)(S T:Nat→Prop)(h:au w S A a)(k:au w T B b)(hS: ∀b,S b→b<w.heap.size)(hT: ∀b,T b→b<w.heap.size)(hn:a.length≤140737488351232)(hm:b.length≤140737488351232):
  Calls Tryz.prog 122 #[.slice A a.length c,.slice B b.length d] w fun e w'=>e= .returned (.bool (dK a b))∧Below w.heap.size w w':=by
 have HS:=hid h;have HT:=hid k;have HN:=hid hn;clear h k;go_enter Tryz.func122,Tryz.ntmps122;go_wp2_with fail
 go_loopw [5] (fun i wr=> ∃k:Nat,i= .int .i64 k∧k≤a.length∧Hid (Below w.heap.size w wr)∧Hid (k≤b.length∧ ∀j (h:j<a.length) (h':j<b.length),j<k→a[j]=b[j])) (fun i _=>a.length - (intOf i).toNat)
 case atStart=>exact⟨0,rfl,by omega,Below.refl _ _,by omega,fun j _ _ h=>absurd h (by omega)⟩
 case round=>
  obtain⟨k,rfl,hk,HB,HJ⟩:=hrel;by_cases hlt:k<a.length
  ·by_cases hkb:k<b.length
   ·obtain⟨p,o,rfl,hp,hc⟩:=HS.out (by omega);obtain⟨q,r,rfl,hq,hd⟩:=HT.out (by omega);have hck:=(HB.out.cell (p:=⟨p,o+k,none⟩) (hS p hp)).trans (hc k hlt).1;have hdk:=(HB.out.cell (p:=⟨q,r+k,none⟩) (hT q hq)).trans (hd k hkb).1;clear hc hd;have e1:decide (b.length≤k)=false:=by simp;omega
    by_cases he:a[k]=b[k]
    ·have e2:(a[k].toList == b[k].toList)=true:=by rw[bB];exact decide_eq_true he
     have HE:=hid he;clear he;go_wp2
     go_quiet (fail)
     go_wp2
     go_roundw
     case rel=>exact⟨k+1,by go_num,by omega,du HB.out _,by omega,fun j h h' hjk=>by
      by_cases e:j=k
      ·subst e;exact HE.out
      ·exact HJ.out.2 j h h' (by omega)⟩
     case measure=>simp[intOf];omega
    ·have e2:(a[k].toList == b[k].toList)=false:=by rw[bB];exact decide_eq_false he
     have HE:=hid he;clear he;go_wp2
     go_quiet (fail)
     go_wp2;go_ret;exact⟨aE (kz k hlt fun _=>HE.out).symm,du HB.out _⟩
   ·have e1:decide (b.length≤k)=true:=by simp;omega
    go_wp2
    go_quiet (fail)
    go_wp2;go_ret;exact⟨aE (kz k hlt fun h=>absurd h hkb).symm,du HB.out _⟩
  ·obtain rfl:k=a.length:=by omega
   clear hlt hk;go_wp2_with fail;go_ret;exact⟨aE (rR HJ.out.1 fun j h h'=>HJ.out.2 j h h' h).symm,HB.out⟩
theorem uV {a b:List ByteArray}(h:a.length=b.length):dK a b=decide (a=b):=by
 unfold dK;rw[decide_eq_true (by omega),Bool.true_and,List.take_of_length_le (by omega)];exact decide_eq_decide.2 ⟨Eq.symm,Eq.symm⟩
theorem sT (A B:Option Addr)(c d n:Nat)(a b:List ByteArray)(w:World)(S T:Nat→Prop)(h:au w S A a)(k:au w T B b)(hS: ∀b,S b→b<w.heap.size)(hT: ∀b,T b→b<w.heap.size)(hn:a.length≤140737488351232)(hab:a.length=b.length)(hnn:n=b.length):
  Calls Tryz.prog 180 #[.slice A a.length c,.slice B n d] w fun e w'=>e= .returned (.bool (decide (a=b)))∧Below w.heap.size w w':=by
 have HS:=hid h;have HT:=hid k;have HN:=hid hn;have HA:=hid hab;have HE:=hid (hnn.trans hab.symm);obtain rfl:n=a.length:=HE.out;clear h k hab hnn HE;go_enter Tryz.func180,Tryz.ntmps180;go_wp2_with fail
 go_loopw [13] (fun i wr=> ∃k:Nat,i= .int .i64 k∧k≤a.length∧Hid (Below w.heap.size w wr)∧Hid (∀j (h:j<a.length) (h':j<b.length),j<k→a[j]=b[j])) (fun i _=>a.length - (intOf i).toNat)
 case atStart=>exact⟨0,rfl,by omega,Below.refl _ _,fun j _ _ h=>absurd h (by omega)⟩
 case round=>
  obtain⟨k,rfl,hk,HB,HJ⟩:=hrel;by_cases hlt:k<a.length
  ·have hkb:k<b.length:=by have:=HA.out;omega
   obtain⟨p,o,rfl,hp,hc⟩:=HS.out (by omega);obtain⟨q,r,rfl,hq,hd⟩:=HT.out (by omega);have hck:=(HB.out.cell (p:=⟨p,o+k,none⟩) (hS p hp)).trans (hc k hlt).1;have hdk:=(HB.out.cell (p:=⟨q,r+k,none⟩) (hT q hq)).trans (hd k hkb).1;clear hc hd;by_cases he:a[k]=b[k]
   ·have e2:(a[k].toList == b[k].toList)=true:=by rw[bB];exact decide_eq_true he
    have HE:=hid he;clear he;go_wp2
    go_quiet (fail)
    go_wp2
    go_roundw
    case rel=>exact⟨k+1,by go_num,by omega,du HB.out _,fun j h h' hjk=>by
     by_cases e:j=k
     ·subst e;exact HE.out
     ·exact HJ.out j h h' (by omega)⟩
    case measure=>simp[intOf];omega
   ·have e2:(a[k].toList == b[k].toList)=false:=by rw[bB];exact decide_eq_false he
    have HE:=hid he;clear he;go_wp2
    go_quiet (fail)
    go_wp2;go_ret;exact⟨aE (decide_eq_false fun h=>HE.out (by subst h;rfl)).symm,du HB.out _⟩
  ·obtain rfl:k=a.length:=by omega
   clear hlt hk;go_wp2_with fail;go_ret;exact⟨aE (decide_eq_true (List.ext_getElem HA.out fun j h h'=>HJ.out j h h' h)).symm,HB.out⟩
theorem gS (A B:Option Addr)(c d:Nat)(a b:List ByteArray)(w:World)(S T:Nat→Prop)(h:au w S A a)(k:au w T B b)(hS: ∀b,S b→b<w.heap.size)(hT: ∀b,T b→b<w.heap.size)(hn:a.length≤140737488351232)(hm:b.length≤140737488351232)(hd:b.length≤d):
  Calls Tryz.prog 157 #[.slice A a.length c,.slice B b.length d] w fun e w'=>e= .returned (.bool (dK a b))∧Below w.heap.size w w':=by
 by_cases hl:a.length≤b.length
 ·have el:decide (a.length≤b.length)=true:=by simpa using hl
  have ht:(b.take a.length).length=a.length:=by simp;omega
  have HT:=hid ht;clear ht;have HK:=hid (k.take a.length);go_enter Tryz.func157,Tryz.ntmps157;go_wp2_with fail;refine(sT A B c d a.length a (b.take a.length) _ S T h HK.out hS hT hn HT.out.symm HT.out.symm).mono ?_;rintro e w1 ⟨rfl,hb⟩;have HB:=hid hb;clear hb;go_wp2_with fail;go_ret;exact⟨aE (by unfold dK;rw[el,Bool.true_and];exact decide_eq_decide.2 ⟨Eq.symm,Eq.symm⟩),HB.out⟩
 ·have el:decide (a.length≤b.length)=false:=by simpa using hl
  go_enter Tryz.func157,Tryz.ntmps157;go_wp2_with fail;go_ret;exact⟨aE (by unfold dK;rw[el];rfl),Below.refl _ _⟩
theorem uI (A B:Option Addr)(c d:Nat)(a b:List ByteArray)(w:World)(S T:Nat→Prop)(h:au w S A a)(k:au w T B b)(hS: ∀b,S b→b<w.heap.size)(hT: ∀b,T b→b<w.heap.size)(hn:a.length≤140737488351232)(hm:b.length≤140737488351232)(hc:a.length≤c)(hd:b.length≤d):
  Calls Tryz.prog 159 #[.slice A a.length c,.slice B b.length d] w fun e w'=>e= .returned (.bool (dK a b || dK b a))∧Below w.heap.size w w':=by
 have HS:=hid h;have HT:=hid k;clear h k;go_enter Tryz.func159,Tryz.ntmps159;go_wp2_with fail;refine(gS A B c d a b _ S T HS.out HT.out hS hT hn hm hd).mono ?_;rintro e w1 ⟨rfl,hb⟩;have HB:=hid hb;clear hb;cases hx:dK a b
 ·go_wp2_with fail;refine(gS B A d c b a _ T S (HT.out.keep fun b hb=>HB.out.block b (hT b hb)) (HS.out.keep fun b hb=>HB.out.block b (hS b hb)) (fun b hb=>Nat.lt_of_lt_of_le (hT b hb) HB.out.size) (fun b hb=>Nat.lt_of_lt_of_le (hS b hb) HB.out.size) hm hn hc).mono ?_;rintro e w2 ⟨rfl,hb⟩;have HB2:=hid (cr HB.out hb);clear hb;go_wp2_with fail;go_ret;exact⟨aE (by rw[hx,Bool.false_or]),HB2.out⟩
 ·go_wp2_with fail;go_ret;exact⟨aE (by rw[hx,Bool.true_or]),HB.out⟩
theorem qq (A B:Option Addr)(c d:Nat)(a b:List ByteArray)(w:World)(S T:Nat→Prop)(h:au w S A a)(k:au w T B b)(hS: ∀b,S b→b<w.heap.size)(hT: ∀b,T b→b<w.heap.size)(hn:a.length≤140737488351232)(hm:b.length≤140737488351232):
  Calls Tryz.prog 94 #[.slice A a.length c,.slice B b.length d] w fun e w'=>e= .returned (.bool (decide (a=b)))∧Below w.heap.size w w':=by
 by_cases hl:a.length=b.length
 ·have HL:=hid hl;have el:((a.length:Int) == (b.length:Int))=true:=beq_iff_eq.2 (by omega);clear hl;go_enter Tryz.func94,Tryz.ntmps94;go_wp2_with fail;refine(gi A B c d a b _ S T h k hS hT hn hm).mono ?_;rintro e w1 ⟨rfl,hb⟩;have HB:=hid hb;clear hb;go_wp2_with fail;go_ret;exact⟨aE (uV HL.out),HB.out⟩
 ·have HL:=hid hl;have el:((a.length:Int) == (b.length:Int))=false:=beq_eq_false_iff_ne.2 (by omega);clear hl;go_enter Tryz.func94,Tryz.ntmps94;go_wp2_with fail;go_ret;exact⟨aE (decide_eq_false fun h=>HL.out (by rw[h])).symm,Below.refl _ _⟩
def bm (t:VT):Bool:=decide (t.kind=0) && decide (t.num=0) && decide (t.text.toList= []) && decide (t.items.length=0) && decide (t.names.length=0)
theorem ej (t:VT):bm t=true↔t= .mk 0 0 ⟨#[]⟩ [] []:=by
  obtain⟨k,i,s,l,ns⟩:=t;unfold bm VT.kind VT.num VT.text VT.items VT.names;simp only[Bool.and_eq_true,decide_eq_true_eq,VT.mk.injEq];constructor
  · rintro⟨⟨⟨⟨h1,h2⟩,h3⟩,h4⟩,h5⟩
    refine⟨h1,h2,?_,List.eq_nil_of_length_eq_zero h4,List.eq_nil_of_length_eq_zero h5⟩;rw[ByteArray.toList_eq]at h3;obtain⟨⟨x⟩⟩:=s;simp at h3;rw[h3]
  · rintro⟨h1,h2,h3,h4,h5⟩
    subst h3 h4 h5;exact⟨⟨⟨⟨h1,h2⟩,by simp[ByteArray.toList_eq]⟩,rfl⟩,rfl⟩
def idN :ByteArray:=⟨#[95,105,100]⟩
def bO (a b:List ByteArray):Bool:=dK a b || dK b a
def bI :List (List ByteArray)→List (List ByteArray)→Bool
  |_,[]=>false
  |ahead,p::r=>(ahead.any fun q=>bO p q) || bI (ahead++[p]) r
def ore (x y:Int):Int:=if x=0 then y else x
def dG (a b:Int):Int:=if a<b then -1 else if b<a then 1 else 0
def b8 (x y:List UInt8):Int:=if Op.bytesLess x y=true then -1 else if x=y then 0 else 1
def Tri (x y z:Int):Prop:=x≤0→y≤0→z≤0∧(z<0↔x<0∨y<0)
theorem et (x y:Int):ore x y=0↔x=0∧y=0:=by unfold ore;split<;>omega
theorem vN {x y z x' y' z':Int}(h:Tri x y z)(h':x=0→y=0→Tri x' y' z'):Tri (ore x x') (ore y y') (ore z z'):=by
 unfold Tri ore at *;intro hx hy;by_cases x0:x=0
 ·by_cases y0:y=0
  ·have h1:=h (by omega) (by omega);have z0:z=0:=by omega
   rw[if_pos x0]at hx ⊢;rw[if_pos y0]at hy ⊢;rw[if_pos z0];exact h' x0 y0 hx hy
  ·rw[if_neg y0]at hy ⊢;have h1:=h (by omega) (by omega);have z0:z≠0:=by omega
   rw[if_neg z0,if_pos x0];rw[if_pos x0]at hx;omega
 ·rw[if_neg x0]at hx ⊢;by_cases y0:y=0
  ·have h1:=h (by omega) (by omega);have z0:z≠0:=by omega
   rw[if_pos y0]at hy ⊢;rw[if_neg z0];omega
  ·rw[if_neg y0]at hy ⊢;have h1:=h (by omega) (by omega);have z0:z≠0:=by omega
   rw[if_neg z0];omega
theorem uv :Tri 0 0 0:=by unfold Tri;omega
theorem iU (a b:Int):dG a b=0↔a=b:=by unfold dG;split<;>first|omega|(split<;>omega)
theorem cK : ∀x:List UInt8,Op.bytesLess x x=false
 | []=>rfl
 |a::x=>by simp[Op.bytesLess,cK x]
theorem kD : ∀x y:List UInt8,Op.bytesLess x y=true∨x=y∨Op.bytesLess y x=true
 | [],[]=>by simp
 | [],b::y=>by simp[Op.bytesLess]
 |a::x,[]=>by simp[Op.bytesLess]
 |a::x,b::y=>by
  simp only[Op.bytesLess,Bool.or_eq_true,Bool.and_eq_true,decide_eq_true_eq,beq_iff_eq,List.cons.injEq];rcases Nat.lt_trichotomy a.toNat b.toNat with h|h|h
  ·exact .inl (.inl (UInt8.lt_iff_toNat_lt.2 h))
  ·have e:a=b:=UInt8.toNat_inj.1 h;subst e;rcases kD x y with h|h|h
   ·exact .inl (.inr ⟨rfl,h⟩)
   ·exact .inr (.inl ⟨rfl,h⟩)
   ·exact .inr (.inr (.inr ⟨rfl,h⟩))
  ·exact .inr (.inr (.inl (UInt8.lt_iff_toNat_lt.2 h)))
theorem ik : ∀x y z:List UInt8,Op.bytesLess x y=true→Op.bytesLess y z=true→Op.bytesLess x z=true
 |_,_,[],_,h=>by rename_i y _;cases y<;>simp[Op.bytesLess]at h
 |_,[],c::z,h,_=>by rename_i x _;cases x<;>simp[Op.bytesLess]at h
 | [],b::y,c::z,_,_=>by simp[Op.bytesLess]
 |a::x,b::y,c::z,h,h'=>by
  simp only[Op.bytesLess,Bool.or_eq_true,Bool.and_eq_true,decide_eq_true_eq,beq_iff_eq]at h h' ⊢;rcases h with h|⟨h,h1⟩
  ·rcases h' with h'|⟨h',h1'⟩
   ·rw[UInt8.lt_iff_toNat_lt]at *;left;omega
   ·subst h';exact .inl h
  ·subst h;rcases h' with h'|⟨h',h1'⟩
   ·exact .inl h'
   ·exact .inr ⟨h',ik x y z h1 h1'⟩
theorem kU (x y:List UInt8)(h:Op.bytesLess x y=true):Op.bytesLess y x=false:=by
 rw[←Bool.not_eq_true];intro h2;have:=ik x y x h h2;rw[cK]at this;cases this
theorem lm (x y:List UInt8):b8 y x= -(b8 x y):=by
 unfold b8;rcases kD x y with h|h|h
 ·have h2:=kU x y h;have hne: ¬y=x:=by rintro rfl;rw[cK]at h;cases h
  rw[if_neg (by rw[h2];exact Bool.false_ne_true),if_neg hne,if_pos h];rfl
 ·subst h;rw[if_neg (by rw[cK];exact Bool.false_ne_true),if_pos rfl];rfl
 ·have h2:=kU y x h;have hne: ¬x=y:=by rintro rfl;rw[cK]at h;cases h
  rw[if_pos h,if_neg (by rw[h2];exact Bool.false_ne_true),if_neg hne]
theorem dw (x y:List UInt8):b8 x y=0↔x=y:=by
 unfold b8;constructor
 ·intro h;by_cases h1:Op.bytesLess x y=true
  ·rw[if_pos h1]at h;cases h
  ·rw[if_neg h1]at h;by_cases h2:x=y
   ·exact h2
   ·rw[if_neg h2]at h;cases h
 ·rintro rfl;rw[if_neg (by rw[cK];exact Bool.false_ne_true),if_pos rfl]
theorem nA (x y:List UInt8):b8 x y≤0↔Op.bytesLess x y=true∨x=y:=by
 unfold b8;by_cases h1:Op.bytesLess x y=true
 ·rw[if_pos h1];simp[h1]
 ·rw[if_neg h1];by_cases h2:x=y
  ·rw[if_pos h2];simp[h2]
  ·rw[if_neg h2];simp[h1,h2]
theorem nq (x y:List UInt8):b8 x y<0↔Op.bytesLess x y=true:=by
 unfold b8;by_cases h1:Op.bytesLess x y=true
 ·rw[if_pos h1];simp[h1]
 ·rw[if_neg h1];by_cases h2:x=y
  ·rw[if_pos h2];simp[h1]
  ·rw[if_neg h2];simp[h1]
theorem uy (a b c:List UInt8):Tri (b8 a b) (b8 b c) (b8 a c):=by
 unfold Tri;rw[nA,nA,nA,nq,nq,nq];rintro(h|rfl) (h'|rfl)
 ·have:=ik _ _ _ h h';simp[this,h]
 ·simp[h]
 ·simp[h']
 ·simp[cK]
mutual
def eA :VT→VT→Int
 | .mk k i s l ns,.mk k' i' s' l' ns'=>ore (ore (dG k k') (ore (dG i i') (b8 s.toList s'.toList))) (bX (decide (k=7)) l ns l' ns')
def bX (doc:Bool):List VT→List ByteArray→List VT→List ByteArray→Int
 | [],_,[],_=>0
 | [],_,_::_,_=> -1
 |_::_,_,[],_=>1
 |x::l,ns,y::l',ns'=>ore (if doc then b8 (ns.headD ⟨#[]⟩).toList (ns'.headD ⟨#[]⟩).toList else 0) (ore (eA x y) (bX doc l ns.tail l' ns'.tail))
end
theorem uR {x y x' y':Int}(h:x'= -x)(h2:x=0→y'= -y):ore x' y'= -(ore x y):=by
 unfold ore;by_cases h0:x=0
 ·rw[if_pos h0,if_pos (by omega),h2 h0]
 ·rw[if_neg h0,if_neg (by omega),h]
theorem rG (k i:Int)(s:ByteArray)(l:List VT)(ns:List ByteArray)(k' i':Int)(s':ByteArray)(l':List VT)(ns':List ByteArray):
  eA (.mk k i s l ns) (.mk k' i' s' l' ns')=ore (ore (dG k k') (ore (dG i i') (b8 s.toList s'.toList))) (bX (decide (k=7)) l ns l' ns'):=by
 conv=>lhs;unfold eA
theorem toList_inj {a b:ByteArray}(h:a.toList=b.toList):a=b:=by rw[ByteArray.toList_eq,ByteArray.toList_eq]at h;exact kM h
theorem vV (k i:Int)(s:ByteArray)(l:List VT)(ns:List ByteArray):ba (.mk k i s l ns)=(aL k i s l.length ns && dE l):=by conv=>lhs;unfold ba lp
theorem l8 (x:VT)(l:List VT):dE (x::l)=(ba x && dE l):=by conv=>lhs;unfold dE
theorem cl {x:VT}: ∀ {l:List VT},dE l=true→x∈l→ba x=true
 | [],_,h=>by cases h
 |t::r,h,hx=>by
  rw[l8,Bool.and_eq_true]at h;rcases List.mem_cons.1 hx with rfl|hx
  ·exact h.1
  ·exact cl h.2 hx
theorem dQ {k i:Int}{s:ByteArray}{l:List VT}{ns:List ByteArray}(h:ba (.mk k i s l ns)=true):(k=7→ns.length=l.length)∧(k≠7→ns= [])∧dE l=true:=by
 rw[vV,Bool.and_eq_true]at h;have h1:=h.1;refine⟨fun hk=> ?_,fun hk=> ?_,h.2⟩
 ·subst hk;simp[aL]at h1;exact h1.1.2
 ·unfold aL at h1;by_cases k1:k=1
  ·simp[k1]at h1;exact h1.2.2
  by_cases k2:k=2
  ·simp[k2]at h1;exact h1.2.2
  by_cases k3:k=3
  ·simp[k3]at h1;exact h1.2.2
  by_cases k4:k=4∨k=5
  ·rw[if_neg k1,if_neg k2,if_neg k3,if_pos k4]at h1;simp at h1;exact h1.2.2
  by_cases k6:k=6
  ·simp[k6]at h1;exact h1.2
  simp[k1,k2,k3,k4,k6,hk]at h1
mutual
theorem mE : ∀a b:VT,ba a=true→ba b=true→(eA a b=0↔a=b)
 | .mk k i s l ns,.mk k' i' s' l' ns',ha,hb=>by
  obtain⟨a1,a2,a3⟩:=dQ ha;obtain⟨b1,b2,b3⟩:=dQ hb;rw[rG,et,et,et,iU,iU,dw];constructor
  ·rintro⟨⟨rfl,rfl,hs⟩,h⟩;rw[toList_inj hs];by_cases h7:k=7
   ·rw[decide_eq_true h7]at h;obtain⟨rfl,hn⟩:=(fg true l l' ns ns' a3 b3 (fun _=>a1 h7) (fun _=>b1 h7)).1 h;rw[hn rfl]
   ·rw[decide_eq_false h7]at h;obtain⟨rfl,_⟩:=(fg false l l' ns ns' a3 b3 (fun h=>by cases h) (fun h=>by cases h)).1 h;rw[a2 h7,b2 h7]
  ·intro h;injection h with h1 h2 h3 h4 h5
   subst h1 h2 h3 h4 h5;exact⟨⟨rfl,rfl,rfl⟩,(fg _ l l ns ns a3 a3 (fun h=>a1 (of_decide_eq_true h)) (fun h=>a1 (of_decide_eq_true h))).2 ⟨rfl,fun _=>rfl⟩⟩
theorem fg (d:Bool): ∀(l l':List VT) (ns ns':List ByteArray),dE l=true→dE l'=true→(d=true→ns.length=l.length)→(d=true→ns'.length=l'.length)→(bX d l ns l' ns'=0↔l=l'∧(d=true→ns=ns'))
 | [],[],ns,ns',_,_,hn,hn'=>by
  unfold bX;simp only[true_and,true_iff];intro hd
  rw[List.eq_nil_of_length_eq_zero (hn hd),List.eq_nil_of_length_eq_zero (hn' hd)]
 | [],y::l',ns,ns',_,_,_,_=>by unfold bX;simp
 |x::l,[],ns,ns',_,_,_,_=>by unfold bX;simp
 |x::l,y::l',ns,ns',ha,hb,hn,hn'=>by
  rw[l8,Bool.and_eq_true]at ha hb
  conv=>lhs;unfold bX
  rw[et,et,mE x y ha.1 hb.1,fg d l l' _ _ ha.2 hb.2 (fun h=>by have:=hn h;simp at this ⊢;omega) (fun h=>by have:=hn' h;simp at this ⊢;omega)];constructor
  ·rintro⟨h1,rfl,rfl,h2⟩;refine⟨rfl,fun hd=> ?_⟩;rw[if_pos hd,dw]at h1;have hl:=hn hd;have hl':=hn' hd;rcases ns with _|⟨n,ns⟩
   ·cases hl
   rcases ns' with _|⟨n',ns'⟩
   ·cases hl'
   have:=h2 hd;simp only[List.tail_cons]at this;simp only[List.headD_cons]at h1;rw[toList_inj h1,this]
  ·rintro⟨h,h2⟩;injection h with h3 h4
   subst h3 h4;refine⟨?_,rfl,rfl,fun hd=>by rw[h2 hd]⟩;cases d
   ·rfl
   ·rw[h2 rfl];exact(dw _ _).2 rfl
end
end Go.Proofs.YtgfidiocmiolpaaGreat
