/- Which steps are a path, call by call. -/
import Derived.Test.YtgbopnlpaabelaaGreatDoorKValF
import Derived.Test.YtgbopnlpaabelaaGreatDoorKMath
import Derived.Outline
import Derived.Deep.QuietTactic
import Derived.BigQuiet
set_option maxHeartbeats 64000000
set_option maxRecDepth 100000
set_option linter.unusedVariables false
set_option linter.unusedSimpArgs false
namespace Go.Proofs.YtgbopnlpaabelaaGreatDoor
open Lib (hid)
open Go.RowKit
def ce (ns:List ByteArray):Bool:=decide (1≤ns.length) && decide (ns.length≤8) && ns.all fun s=>bH s.data.toList
theorem wG (s:ByteArray)(w:World)(hs:s.size≤9223372036854775807):Calls Tryz.prog 158 #[.string s] w fun e w'=>e= .returned (.bool (!bH s.data.toList))∧w=w':=by
 have HS:=hid hs;clear hs;go_enter Tryz.func158,Tryz.ntmps158;go_wp2_with fail;refine(qS s _ HS.out).mono ?_;rintro e u ⟨rfl,rfl⟩;go_wp2_with fail;go_ret;exact⟨rfl,rfl⟩
def Bd (ns:List ByteArray)(w:World)(e:Ending)(w':World):Prop:= ∃i:Int,e= .returned (.int .i64 i)∧decide (0≤i)=(!(ns.all fun s=>bH s.data.toList))∧w=w'
theorem qv {ns:List ByteArray}(h: ∀j (h:j<ns.length),bH ns[j].data.toList=true):(ns.all fun s=>bH s.data.toList)=true:=by
 rw[List.all_eq_true];intro x hx;obtain⟨j,hj,rfl⟩:=List.mem_iff_getElem.1 hx;exact h j hj
theorem uW {ns:List ByteArray}{j:Nat}(hj:j<ns.length)(h:bH ns[j].data.toList=false):(ns.all fun s=>bH s.data.toList)=false:=by
 rw[List.all_eq_false];exact⟨ns[j],List.getElem_mem hj,by rw[h];simp⟩
theorem tB (A:Option Addr)(c:Nat)(ns:List ByteArray)(w:World)(S:Nat→Prop)(h:ai w S A ns)(hn:ns.length≤140737488351232):Calls Tryz.prog 174 #[.slice A ns.length c,.func (.func 158) #[] #[]] w (Bd ns w):=by
 have HS:=hid h;have HN:=hid hn;clear h;go_enter Tryz.func174,Tryz.ntmps174;go_wp2_with fail
 go_loopw [8] (fun i wr=> ∃k:Nat,i= .int .i64 k∧k≤ns.length∧wr=w∧Hid (∀j (h:j<ns.length),j<k→bH ns[j].data.toList=true)) (fun i _=>ns.length - (intOf i).toNat)
 case atStart=>exact⟨0,rfl,by omega,rfl,fun j _ h=>absurd h (by omega)⟩
 case round=>
  obtain⟨k,rfl,hk,rfl,HJ⟩:=hrel;by_cases hlt:k<ns.length
  ·obtain⟨p,o,rfl,-,hc⟩:=HS.out (by omega);have hck:=(hc k hlt).1;have Hz:=hid (hc k hlt).2;clear hc;go_wp2_with fail;refine(wG _ _ (by have:=Hz.out;omega)).mono ?_;rintro e u ⟨rfl,rfl⟩;cases hb:bH ns[k].data.toList
   ·go_wp2_with fail;go_ret;exact⟨k,rfl,by rw[uW hlt hb];simp,rfl⟩
   ·have Hb:=hid hb;go_wp2_with fail
    go_roundw
    case rel=>exact⟨k+1,by go_num,by omega,trivial,fun j h hjk=>by
     by_cases e:j=k
     ·subst e;exact Hb.out
     ·exact HJ.out j h (by omega)⟩
    case measure=>simp[intOf];omega
  ·go_wp2_with fail;go_ret;exact⟨-1,rfl,by rw[qv fun j h=>HJ.out j h (by omega)];rfl,rfl⟩
theorem wF (A:Option Addr)(c:Nat)(ns:List ByteArray)(w:World)(S:Nat→Prop)(h:ai w S A ns)(hn:ns.length≤140737488351232):Calls Tryz.prog 157 #[.slice A ns.length c,.func (.func 158) #[] #[]] w fun e w'=>e= .returned (.bool (!(ns.all fun s=>bH s.data.toList)))∧w=w':=by
 go_enter Tryz.func157,Tryz.ntmps157;go_wp2_with fail;refine(tB A c ns _ S h hn).mono ?_;rintro e u ⟨i,rfl,hi,rfl⟩;have HI:=hid hi;clear hi;go_wp2_with fail;go_ret;exact⟨aM HI.out,rfl⟩
theorem gU (A:Option Addr)(c:Nat)(ns:List ByteArray)(w:World)(S:Nat→Prop)(h:ai w S A ns)(hn:ns.length≤140737488351232):Calls Tryz.prog 124 #[.slice A ns.length c] w fun e w'=>e= .returned (.bool (ce ns))∧w=w':=by
 by_cases h0:ns.length=0
 ·obtain rfl:=List.eq_nil_of_length_eq_zero h0;go_enter Tryz.func124,Tryz.ntmps124;go_wp2_with fail;go_ret;exact⟨aM rfl,rfl⟩
 ·by_cases h8:ns.length≤8
  ·have e0:((ns.length:Int) == 0)=false:=beq_eq_false_iff_ne.2 (by omega);have e8:decide ((8:Int)<(ns.length:Int))=false:=by simp;omega
   go_enter Tryz.func124,Tryz.ntmps124;go_wp2_with fail;refine(wF A c ns _ S h hn).mono ?_;rintro e u ⟨rfl,rfl⟩;go_wp2_with fail;go_ret;exact⟨aM (by unfold ce;rw[decide_eq_true (by omega:1≤ns.length),decide_eq_true h8];simp),rfl⟩
  ·have e8:decide ((8:Int)<(ns.length:Int))=true:=by simp;omega
   go_enter Tryz.func124,Tryz.ntmps124;go_wp2_with fail;go_ret;exact⟨aM (by unfold ce;simp[h8]),rfl⟩
theorem oL (A:Option Addr)(c:Nat)(ns:List ByteArray)(w:World)(S:Nat→Prop)(h:ai w S A ns)(hn:ns.length≤140737488351232):Calls Tryz.prog 51 #[.slice A ns.length c] w fun e w'=>e= .returned (.bool (ce ns))∧w=w':=by
 have HS:=hid h;have HN:=hid hn;clear h;go_enter Tryz.func51,Tryz.ntmps51;go_wp2_with fail
 go_loopw [3] (fun i wr=> ∃k:Nat,i= .int .i64 k∧k≤ns.length∧wr=w∧Hid (∀j (h:j<ns.length),j<k→bH ns[j].data.toList=true)) (fun i _=>ns.length - (intOf i).toNat)
 case atStart=>exact⟨0,rfl,by omega,rfl,fun j _ h=>absurd h (by omega)⟩
 case round=>
  obtain⟨k,rfl,hk,rfl,HJ⟩:=hrel;by_cases hlt:k<ns.length
  ·obtain⟨p,o,rfl,-,hc⟩:=HS.out (by omega);have hck:=(hc k hlt).1;have Hz:=hid (hc k hlt).2;clear hc;go_wp2_with fail;refine(px _ _ (by have:=Hz.out;omega)).mono ?_;rintro e u ⟨rfl,rfl⟩;cases hb:bH ns[k].data.toList
   ·go_wp2_with fail;go_ret;exact⟨aM (by unfold ce;rw[uW hlt hb];simp),rfl⟩
   ·have Hb:=hid hb;go_wp2_with fail
    go_roundw
    case rel=>exact⟨k+1,by go_num,by omega,trivial,fun j h hjk=>by
     by_cases e:j=k
     ·subst e;exact Hb.out
     ·exact HJ.out j h (by omega)⟩
    case measure=>simp[intOf];omega
  ·obtain rfl:k=ns.length:=by omega
   clear hlt hk;have HA:=hid (qv fun j h=>HJ.out j h h);go_wp2_with fail
   all_goals
    go_ret;exact⟨aM (by unfold ce;rw[HA.out,Bool.and_true,Bool.eq_iff_iff];simp only[Bool.and_eq_true,decide_eq_true_eq,Bool.false_eq_true,false_iff];omega),rfl⟩
/-! ### beginnings -/
def kn (a b:List ByteArray):Bool:=decide (a.length≤b.length) && decide (b.take a.length=a)
theorem iv {B:Nat}{a w:World}(h:Below B a w)(n:Nat):Below B a (w.drewN n):=h.trans ⟨rfl,rfl,rfl,Nat.le_refl _,fun _ _=>rfl⟩
theorem eO (s t:ByteArray):(s.toList == t.toList)=decide (s=t):=by
 rw[Bool.eq_iff_iff];simp only[beq_iff_eq,decide_eq_true_eq];constructor
 ·intro h;rw[ByteArray.toList_eq,ByteArray.toList_eq]at h;cases s;cases t;simp at h;rw[h]
 ·intro h;rw[h]
theorem wR (A B:Option Addr)(c d n:Nat)(a b:List ByteArray)(w:World)(S T:Nat→Prop)(h:ai w S A a)(k:ai w T B b)(hS: ∀b,S b→b<w.heap.size)(hT: ∀b,T b→b<w.heap.size)(hn:a.length≤140737488351232)(hab:a.length=b.length)(hnn:n=b.length):
  Calls Tryz.prog 169 #[.slice A a.length c,.slice B n d] w fun e w'=>e= .returned (.bool (decide (a=b)))∧Below w.heap.size w w':=by
 have HS:=hid h;have HT:=hid k;have HN:=hid hn;have HA:=hid hab;have HE:=hid (hnn.trans hab.symm);obtain rfl:n=a.length:=HE.out;clear h k hab hnn HE;go_enter Tryz.func169,Tryz.ntmps169;go_wp2_with fail
 go_loopw [13] (fun i wr=> ∃k:Nat,i= .int .i64 k∧k≤a.length∧Hid (Below w.heap.size w wr)∧Hid (∀j (h:j<a.length) (h':j<b.length),j<k→a[j]=b[j])) (fun i _=>a.length - (intOf i).toNat)
 case atStart=>exact⟨0,rfl,by omega,Below.refl _ _,fun j _ _ h=>absurd h (by omega)⟩
 case round=>
  obtain⟨k,rfl,hk,HB,HJ⟩:=hrel;by_cases hlt:k<a.length
  ·have hkb:k<b.length:=by have:=HA.out;omega
   obtain⟨p,o,rfl,hp,hc⟩:=HS.out (by omega);obtain⟨q,r,rfl,hq,hd⟩:=HT.out (by omega);have hck:=(HB.out.cell (p:=⟨p,o+k,none⟩) (hS p hp)).trans (hc k hlt).1;have hdk:=(HB.out.cell (p:=⟨q,r+k,none⟩) (hT q hq)).trans (hd k hkb).1;clear hc hd;by_cases he:a[k]=b[k]
   ·have e2:(a[k].toList == b[k].toList)=true:=by rw[eO];exact decide_eq_true he
    have HE:=hid he;clear he;go_wp2
    go_quiet (fail)
    go_wp2
    go_roundw
    case rel=>exact⟨k+1,by go_num,by omega,iv HB.out _,fun j h h' hjk=>by
     by_cases e:j=k
     ·subst e;exact HE.out
     ·exact HJ.out j h h' (by omega)⟩
    case measure=>simp[intOf];omega
   ·have e2:(a[k].toList == b[k].toList)=false:=by rw[eO];exact decide_eq_false he
    have HE:=hid he;clear he;go_wp2
    go_quiet (fail)
    go_wp2;go_ret;exact⟨aM (decide_eq_false fun h=>HE.out (by subst h;rfl)).symm,iv HB.out _⟩
  ·obtain rfl:k=a.length:=by omega
   clear hlt hk;go_wp2_with fail;go_ret;exact⟨aM (decide_eq_true (List.ext_getElem HA.out fun j h h'=>HJ.out j h h' h)).symm,HB.out⟩
theorem ng (A B:Option Addr)(c d:Nat)(a b:List ByteArray)(w:World)(S T:Nat→Prop)(h:ai w S A a)(k:ai w T B b)(hS: ∀b,S b→b<w.heap.size)(hT: ∀b,T b→b<w.heap.size)(hn:a.length≤140737488351232)(hm:b.length≤140737488351232)(hd:b.length≤d):
  Calls Tryz.prog 145 #[.slice A a.length c,.slice B b.length d] w fun e w'=>e= .returned (.bool (kn a b))∧Below w.heap.size w w':=by
 by_cases hl:a.length≤b.length
 ·have el:decide (a.length≤b.length)=true:=by simpa using hl
  have ht:(b.take a.length).length=a.length:=by simp;omega
  have HT:=hid ht;clear ht;have HK:=hid (k.take a.length);go_enter Tryz.func145,Tryz.ntmps145;go_wp2_with fail;refine(wR A B c d a.length a (b.take a.length) _ S T h HK.out hS hT hn HT.out.symm HT.out.symm).mono ?_;rintro e w1 ⟨rfl,hb⟩;have HB:=hid hb;clear hb;go_wp2_with fail;go_ret;exact⟨aM (by unfold kn;rw[el,Bool.true_and];exact decide_eq_decide.2 ⟨Eq.symm,Eq.symm⟩),HB.out⟩
 ·have el:decide (a.length≤b.length)=false:=by simpa using hl
  go_enter Tryz.func145,Tryz.ntmps145;go_wp2_with fail;go_ret;exact⟨aM (by unfold kn;rw[el];rfl),Below.refl _ _⟩
theorem yg (A B:Option Addr)(c d:Nat)(a b:List ByteArray)(w:World)(S T:Nat→Prop)(h:ai w S A a)(k:ai w T B b)(hS: ∀b,S b→b<w.heap.size)(hT: ∀b,T b→b<w.heap.size)(hn:a.length≤140737488351232)(hm:b.length≤140737488351232)(hc:a.length≤c)(hd:b.length≤d):
  Calls Tryz.prog 105 #[.slice A a.length c,.slice B b.length d] w fun e w'=>e= .returned (.bool (kn a b || kn b a))∧Below w.heap.size w w':=by
 have HS:=hid h;have HT:=hid k;clear h k;go_enter Tryz.func105,Tryz.ntmps105;go_wp2_with fail;refine(ng A B c d a b _ S T HS.out HT.out hS hT hn hm hd).mono ?_;rintro e w1 ⟨rfl,hb⟩;have HB:=hid hb;clear hb;cases hx:kn a b
 ·go_wp2_with fail;refine(ng B A d c b a _ T S (HT.out.keep fun b hb=>HB.out.block b (hT b hb)) (HS.out.keep fun b hb=>HB.out.block b (hS b hb)) (fun b hb=>Nat.lt_of_lt_of_le (hT b hb) HB.out.size) (fun b hb=>Nat.lt_of_lt_of_le (hS b hb) HB.out.size) hm hn hc).mono ?_;rintro e w2 ⟨rfl,hb⟩;have HB2:=hid (nL HB.out hb);clear hb;go_wp2_with fail;go_ret;exact⟨aM (by rw[hx,Bool.false_or]),HB2.out⟩
 ·go_wp2_with fail;go_ret;exact⟨aM (by rw[hx,Bool.true_or]),HB.out⟩
structure OpT where
  kind:Int
  path:List ByteArray
  val:VT
  to:List ByteArray
structure bg where
  rep:Bool
  doc:VT
  ops:List OpT
def dO (t:VT):Bool:=decide (t.kind=0) && decide (t.num=0) && decide (t.text.toList= []) && decide (t.items.length=0) && decide (t.names.length=0)
theorem gj (t:VT):dO t=true↔t= .mk 0 0 ⟨#[]⟩ [] []:=by
  obtain⟨k,i,s,l,ns⟩:=t;unfold dO VT.kind VT.num VT.text VT.items VT.names;simp only[Bool.and_eq_true,decide_eq_true_eq,VT.mk.injEq];constructor
  · rintro⟨⟨⟨⟨h1,h2⟩,h3⟩,h4⟩,h5⟩
    refine⟨h1,h2,?_,List.eq_nil_of_length_eq_zero h4,List.eq_nil_of_length_eq_zero h5⟩;rw[ByteArray.toList_eq]at h3;obtain⟨⟨x⟩⟩:=s;simp at h3;rw[h3]
  · rintro⟨h1,h2,h3,h4,h5⟩
    subst h3 h4 h5;exact⟨⟨⟨⟨h1,h2⟩,by simp[ByteArray.toList_eq]⟩,rfl⟩,rfl⟩
def bc (o:OpT):Bool:=ce o.path &&
  (if o.kind=3 then decide (o.val.kind=3) && decide (az o.val=0) && decide (o.to.length=0)
   else if o.kind=1∨o.kind=4∨o.kind=5∨o.kind=7∨o.kind=8 then decide (az o.val=0) && decide (o.to.length=0)
   else if o.kind=2 then dO o.val && decide (o.to.length=0)
   else if o.kind=6 then dO o.val && ce o.to else false)
def bk (o:OpT):List (List ByteArray):=if o.kind=6 then [o.path,o.to]else [o.path]
def aD (l:List OpT):List (List ByteArray):=l.flatMap bk
def idN :ByteArray:=⟨#[95,105,100]⟩
def bO (s:bg):Bool:=if s.rep then decide (s.ops.length=0) && decide (s.doc.kind=7) && decide (az s.doc=0)else dO s.doc && decide (0<s.ops.length) && decide (s.ops.length≤16) && s.ops.all bc
def cW (s:bg):Bool:=(s.doc.names.any fun x=>decide (x=idN)) || (aD s.ops).any fun p=>decide (p.head? =some idN)
def cK (a b:List ByteArray):Bool:=kn a b || kn b a
def cm :List (List ByteArray)→List (List ByteArray)→Bool
  |_,[]=>false
  |ahead,p::r=>(ahead.any fun q=>cK p q) || cm (ahead++[p]) r
def bU (s:bg):Int:=if bO s then(if cW s then 70 else if cm [] (aD s.ops)then 71 else 0)else 72
theorem jU (o:OpT)(l:List OpT):aD (o::l)=bk o++aD l:=rfl
theorem jA (o:OpT):(bk o).length≤2∧1≤(bk o).length:=by unfold bk;split<;>simp
theorem ju (l:List OpT):(aD l).length≤2 * l.length:=by
  induction l with
  |nil=>simp[aD]
  |cons o l ih=>rw[jU,List.length_append,List.length_cons];have:=(jA o).1;omega
theorem iz {o:OpT}(h:bc o=true): ∀p∈bk o,ce p=true:=by
  unfold bc at h;rw[Bool.and_eq_true]at h;intro p hp;unfold bk at hp;by_cases h6:o.kind=6
  · rw[if_pos h6]at hp
    have h2:=h.2;rw[h6]at h2;simp at h2;rcases List.mem_cons.1 hp with rfl|hp
    · exact h.1
    · rw[List.mem_singleton.1 hp];exact h2.2
  · rw[if_neg h6]at hp
    rw[List.mem_singleton.1 hp];exact h.1
theorem nu {l:List OpT}(h:l.all bc=true): ∀p∈aD l,ce p=true:=by
  intro p hp;obtain⟨o,ho,hp⟩:=List.mem_flatMap.1 hp;exact iz (List.all_eq_true.1 h o ho) p hp
def ore (x y:Int):Int:=if x=0 then y else x
def eo (a b:Int):Int:=if a<b then -1 else if b<a then 1 else 0
def fU (x y:List UInt8):Int:=if Op.bytesLess x y=true then -1 else if x=y then 0 else 1
theorem yz (x y:Int):ore x y=0↔x=0∧y=0:=by unfold ore;split<;>omega
theorem wD (a b:Int):eo a b=0↔a=b:=by unfold eo;split<;>first|omega|(split<;>omega)
mutual
def gM :VT→VT→Int
 | .mk k i s l ns,.mk k' i' s' l' ns'=>ore (ore (eo k k') (ore (eo i i') (fU s.toList s'.toList))) (dE (decide (k=7)) l ns l' ns')
def dE (doc:Bool):List VT→List ByteArray→List VT→List ByteArray→Int
 | [],_,[],_=>0
 | [],_,_::_,_=> -1
 |_::_,_,[],_=>1
 |x::l,ns,y::l',ns'=>ore (if doc then fU (ns.headD ⟨#[]⟩).toList (ns'.headD ⟨#[]⟩).toList else 0) (ore (gM x y) (dE doc l ns.tail l' ns'.tail))
end
theorem Ae (k i:Int)(s:ByteArray)(l:List VT)(ns:List ByteArray)(k' i':Int)(s':ByteArray)(l':List VT)(ns':List ByteArray):
  gM (.mk k i s l ns) (.mk k' i' s' l' ns')=ore (ore (eo k k') (ore (eo i i') (fU s.toList s'.toList))) (dE (decide (k=7)) l ns l' ns'):=by
 conv=>lhs;unfold gM
theorem toList_inj {a b:ByteArray}(h:a.toList=b.toList):a=b:=by rw[ByteArray.toList_eq,ByteArray.toList_eq]at h;exact mz h
theorem AG (k i:Int)(s:ByteArray)(l:List VT)(ns:List ByteArray):ao (.mk k i s l ns)=(aU k i s l.length ns && gk l):=by conv=>lhs;unfold ao nB
theorem vh (x:VT)(l:List VT):gk (x::l)=(ao x && gk l):=by conv=>lhs;unfold gk
theorem eh {x:VT}: ∀ {l:List VT},gk l=true→x∈l→ao x=true
 | [],_,h=>by cases h
 |t::r,h,hx=>by
  rw[vh,Bool.and_eq_true]at h;rcases List.mem_cons.1 hx with rfl|hx
  ·exact h.1
  ·exact eh h.2 hx
theorem ey {k i:Int}{s:ByteArray}{l:List VT}{ns:List ByteArray}(h:ao (.mk k i s l ns)=true):(k=7→ns.length=l.length)∧(k≠7→ns= [])∧gk l=true:=by
 rw[AG,Bool.and_eq_true]at h;have h1:=h.1;refine⟨fun hk=> ?_,fun hk=> ?_,h.2⟩
 ·subst hk;simp[aU]at h1;exact h1.1.2
 ·unfold aU at h1;by_cases k1:k=1
  ·simp[k1]at h1;exact h1.2.2
  by_cases k2:k=2
  ·simp[k2]at h1;exact h1.2.2
  by_cases k3:k=3
  ·simp[k3]at h1;exact h1.2.2
  by_cases k4:k=4∨k=5
  ·rw[if_neg k1,if_neg k2,if_neg k3,if_pos k4]at h1;simp at h1;exact h1.2.2
  by_cases k6:k=6
  ·simp[k6]at h1;exact h1.2
  simp[k1,k2,k3,k4,k6,hk]at h1
theorem mJ (x:Int)(w:World):Calls Tryz.prog 182 #[.int .i64 x] w fun e w'=>e= .returned (.bool false)∧w=w':=by
 go_enter Tryz.func182,Tryz.ntmps182;go_wp2;go_ret;exact⟨rfl,rfl⟩
theorem xY (x:ByteArray)(w:World):Calls Tryz.prog 183 #[.string x] w fun e w'=>e= .returned (.bool false)∧w=w':=by
 go_enter Tryz.func183,Tryz.ntmps183;go_wp2;go_ret;exact⟨rfl,rfl⟩
theorem jJ (a b:Int)(w:World):Calls Tryz.prog 177 #[.int .i64 a,.int .i64 b] w fun e w'=>e= .returned (.int .i64 (eo a b))∧w=w':=by
 have e1:a<b→eo a b= -1:=fun h=>by unfold eo;rw[if_pos h]
 have e2: ¬a<b→b<a→eo a b=1:=fun h h2=>by unfold eo;rw[if_neg h,if_pos h2]
 have e3: ¬a<b→ ¬b<a→eo a b=0:=fun h h2=>by unfold eo;rw[if_neg h,if_neg h2]
 generalize eo a b=R at *;have E1:=hid e1;have E2:=hid e2;have E3:=hid e3;clear e1 e2 e3;by_cases h1:a<b
 ·go_enter Tryz.func177,Tryz.ntmps177;go_wp2_with(go_at_call 182;refine(mJ _ _).mono ?_;rintro e w' ⟨rfl,rfl⟩);go_ret;exact⟨aH (E1.out h1).symm,rfl⟩
 ·by_cases h2:b<a
  ·go_enter Tryz.func177,Tryz.ntmps177;go_wp2_with(go_at_call 182;refine(mJ _ _).mono ?_;rintro e w' ⟨rfl,rfl⟩);go_ret;exact⟨aH (E2.out h1 h2).symm,rfl⟩
  ·go_enter Tryz.func177,Tryz.ntmps177;go_wp2_with(go_at_call 182;refine(mJ _ _).mono ?_;rintro e w' ⟨rfl,rfl⟩);go_ret;exact⟨aH (E3.out h1 h2).symm,rfl⟩
theorem mX (a b:ByteArray)(w:World):Calls Tryz.prog 178 #[.string a,.string b] w fun e w'=>e= .returned (.int .i64 (fU a.toList b.toList))∧w=w':=by
 have e1:Op.bytesLess a.toList b.toList=true→fU a.toList b.toList= -1:=fun h=>by unfold fU;rw[if_pos h]
 have e2:Op.bytesLess a.toList b.toList=false→(!a.toList == b.toList)=true→fU a.toList b.toList=1:=fun h h2=>by unfold fU;rw[if_neg (by rw[h];exact Bool.false_ne_true),if_neg (by simpa using h2)]
 have e3:Op.bytesLess a.toList b.toList=false→(!a.toList == b.toList)=false→fU a.toList b.toList=0:=fun h h2=>by unfold fU;rw[if_neg (by rw[h];exact Bool.false_ne_true),if_pos (by simpa using h2)]
 generalize fU a.toList b.toList=R at *;have E1:=hid e1;have E2:=hid e2;have E3:=hid e3;clear e1 e2 e3;go_enter Tryz.func178,Tryz.ntmps178;go_wp2_with(go_at_call 183;refine(xY _ _).mono ?_;rintro e w' ⟨rfl,rfl⟩)
 ·go_ret;exact⟨aH (E1.out (by assumption)).symm,rfl⟩
 ·go_ret;exact⟨aH (E2.out (by assumption) (by assumption)).symm,rfl⟩
 ·go_ret;exact⟨aH (E3.out (by assumption) (by assumption)).symm,rfl⟩
theorem AC (b:Nat)(c:Nat)(x y z:Int)(w:World)(h0:w.cell? ⟨b,0,none⟩=some (.int .i64 x))(h1:w.cell? ⟨b,1,none⟩=some (.int .i64 y))(h2:w.cell? ⟨b,2,none⟩=some (.int .i64 z)):
  Calls Tryz.prog 176 #[.slice (some ⟨b,0,none⟩) 3 c] w fun e w'=>e= .returned (.int .i64 (ore x (ore y z)))∧w=w':=by
 have H0:=hid h0;have H1:=hid h1;have H2:=hid h2
 have HE:Hid (∀R,R=ore x (ore y z)→(x≠0→R=x)∧(x=0→y≠0→R=y)∧(x=0→y=0→R=z)):=by
  rintro R rfl;unfold ore;refine⟨fun h=>by rw[if_neg h],fun h h'=>by rw[if_pos h,if_neg h'],fun h h'=>by rw[if_pos h,if_pos h']⟩
 obtain⟨R,hR⟩: ∃R,R=ore x (ore y z):=⟨_,rfl⟩;rw[←hR];have HF:=hid (HE.out R hR);clear HE hR h0 h1 h2;go_enter Tryz.func176,Tryz.ntmps176;go_wp2_with fail
 go_loopw [8] (fun i wr=> ∃k:Nat,i= .int .i64 k∧k≤3∧wr=w∧(0<k→x=0)∧(1<k→y=0)∧(2<k→z=0)) (fun i _=>3 - (intOf i).toNat)
 case atStart=>exact⟨0,rfl,by omega,rfl,fun h=>absurd h (by omega),fun h=>absurd h (by omega),fun h=>absurd h (by omega)⟩
 case round=>
  obtain⟨k,rfl,hk,rfl,k1,k2,k3⟩:=hrel;obtain rfl|rfl|rfl|rfl:k=0∨k=1∨k=2∨k=3:=by omega
  ·have g0:=H0.out;by_cases hx:x=0
   ·go_wp2_with fail
    go_roundw
    case rel=>exact⟨1,rfl,by omega,trivial,fun _=>hx,fun h=>absurd h (by omega),fun h=>absurd h (by omega)⟩
    case measure=>simp[intOf]
   ·go_wp2_with fail;go_ret;exact⟨aH (HF.out.1 hx).symm,rfl⟩
  ·have g0:=H1.out;have hx:=k1 (by omega);by_cases hy:y=0
   ·go_wp2_with fail
    go_roundw
    case rel=>exact⟨2,rfl,by omega,trivial,fun _=>hx,fun _=>hy,fun h=>absurd h (by omega)⟩
    case measure=>simp[intOf]
   ·go_wp2_with fail;go_ret;exact⟨aH (HF.out.2.1 hx hy).symm,rfl⟩
  ·have g0:=H2.out;have hx:=k1 (by omega);have hy:=k2 (by omega);by_cases hz:z=0
   ·go_wp2_with fail
    go_roundw
    case rel=>exact⟨3,rfl,by omega,trivial,fun _=>hx,fun _=>hy,fun _=>hz⟩
    case measure=>simp[intOf]
   ·go_wp2_with fail;go_ret;exact⟨aH (HF.out.2.2 hx hy).symm,rfl⟩
  ·have hx:=k1 (by omega);have hy:=k2 (by omega);have hz:=k3 (by omega);go_wp2_with fail;go_ret;exact⟨aH (by rw[HF.out.2.2 hx hy,hz]),rfl⟩
end Go.Proofs.YtgbopnlpaabelaaGreatDoor
