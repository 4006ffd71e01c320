/- Which steps are a path, call by call. -/
import Derived.Test.YtgbopnlpaabelaaGreatDoorKValF
import Derived.Test.YtgbopnlpaabelaaGreatDoorKMath
import Derived.Outline
import Derived.Deep.QuietTactic
import Derived.BigQuiet
set_option maxHeartbeats 64000000
set_option maxRecDepth 100000
set_option linter.unusedVariables false
set_option linter.unusedSimpArgs false
namespace Go.Proofs.YtgbopnlpaabelaaGreatDoor
open Lib (hid)
open Go.RowKit
def cn (ns:List ByteArray):Bool:=decide (1≤ns.length) && decide (ns.length≤8) && ns.all fun s=>bI s.data.toList
theorem wj (s:ByteArray)(w:World)(hs:s.size≤9223372036854775807):Calls Tryz.prog 158 #[.string s] w fun e w'=>e= .returned (.bool (!bI s.data.toList))∧w=w':=by
 have HS:=hid hs;clear hs;go_enter Tryz.func158,Tryz.ntmps158;go_wp2_with fail;refine(qw s _ HS.out).mono ?_;rintro e u ⟨rfl,rfl⟩;go_wp2_with fail;go_ret;exact⟨rfl,rfl⟩
def AG (ns:List ByteArray)(w:World)(e:Ending)(w':World):Prop:= ∃i:Int,e= .returned (.int .i64 i)∧decide (0≤i)=(!(ns.all fun s=>bI s.data.toList))∧w=w'
theorem yL {ns:List ByteArray}(h: ∀j (h:j<ns.length),bI ns[j].data.toList=true):(ns.all fun s=>bI s.data.toList)=true:=by
 rw[List.all_eq_true];intro x hx;obtain⟨j,hj,rfl⟩:=List.mem_iff_getElem.1 hx;exact h j hj
theorem zO {ns:List ByteArray}{j:Nat}(hj:j<ns.length)(h:bI ns[j].data.toList=false):(ns.all fun s=>bI s.data.toList)=false:=by
 rw[List.all_eq_false];exact⟨ns[j],List.getElem_mem hj,by rw[h];simp⟩
theorem tF (A:Option Addr)(c:Nat)(ns:List ByteArray)(w:World)(S:Nat→Prop)(h:ai w S A ns)(hn:ns.length≤140737488351232):Calls Tryz.prog 174 #[.slice A ns.length c,.func (.func 158) #[] #[]] w (AG ns w):=by
 have HS:=hid h;have HN:=hid hn;clear h;go_enter Tryz.func174,Tryz.ntmps174;go_wp2_with fail
 go_loopw [8] (fun i wr=> ∃k:Nat,i= .int .i64 k∧k≤ns.length∧wr=w∧Hid (∀j (h:j<ns.length),j<k→bI ns[j].data.toList=true)) (fun i _=>ns.length - (intOf i).toNat)
 case atStart=>exact⟨0,rfl,by omega,rfl,fun j _ h=>absurd h (by omega)⟩
 case round=>
  obtain⟨k,rfl,hk,rfl,HJ⟩:=hrel;by_cases hlt:k<ns.length
  ·obtain⟨p,o,rfl,-,hc⟩:=HS.out (by omega);have hck:=(hc k hlt).1;have Hz:=hid (hc k hlt).2;clear hc;go_wp2_with fail;refine(wj _ _ (by have:=Hz.out;omega)).mono ?_;rintro e u ⟨rfl,rfl⟩;cases hb:bI ns[k].data.toList
   ·go_wp2_with fail;go_ret;exact⟨k,rfl,by rw[zO hlt hb];simp,rfl⟩
   ·have Hb:=hid hb;go_wp2_with fail
    go_roundw
    case rel=>exact⟨k+1,by go_num,by omega,trivial,fun j h hjk=>by
     by_cases e:j=k
     ·subst e;exact Hb.out
     ·exact HJ.out j h (by omega)⟩
    case measure=>simp[intOf];omega
  ·go_wp2_with fail;go_ret;exact⟨-1,rfl,by rw[yL fun j h=>HJ.out j h (by omega)];rfl,rfl⟩
theorem uI (A:Option Addr)(c:Nat)(ns:List ByteArray)(w:World)(S:Nat→Prop)(h:ai w S A ns)(hn:ns.length≤140737488351232):Calls Tryz.prog 157 #[.slice A ns.length c,.func (.func 158) #[] #[]] w fun e w'=>e= .returned (.bool (!(ns.all fun s=>bI s.data.toList)))∧w=w':=by
 go_enter Tryz.func157,Tryz.ntmps157;go_wp2_with fail;refine(tF A c ns _ S h hn).mono ?_;rintro e u ⟨i,rfl,hi,rfl⟩;have HI:=hid hi;clear hi;go_wp2_with fail;go_ret;exact⟨aN HI.out,rfl⟩
theorem gM (A:Option Addr)(c:Nat)(ns:List ByteArray)(w:World)(S:Nat→Prop)(h:ai w S A ns)(hn:ns.length≤140737488351232):Calls Tryz.prog 124 #[.slice A ns.length c] w fun e w'=>e= .returned (.bool (cn ns))∧w=w':=by
 by_cases h0:ns.length=0
 ·obtain rfl:=List.eq_nil_of_length_eq_zero h0;go_enter Tryz.func124,Tryz.ntmps124;go_wp2_with fail;go_ret;exact⟨aN rfl,rfl⟩
 ·by_cases h8:ns.length≤8
  ·have e0:((ns.length:Int) == 0)=false:=beq_eq_false_iff_ne.2 (by omega);have e8:decide ((8:Int)<(ns.length:Int))=false:=by simp;omega
   go_enter Tryz.func124,Tryz.ntmps124;go_wp2_with fail;refine(uI A c ns _ S h hn).mono ?_;rintro e u ⟨rfl,rfl⟩;go_wp2_with fail;go_ret;exact⟨aN (by unfold cn;rw[decide_eq_true (by omega:1≤ns.length),decide_eq_true h8];simp),rfl⟩
  ·have e8:decide ((8:Int)<(ns.length:Int))=true:=by simp;omega
   go_enter Tryz.func124,Tryz.ntmps124;go_wp2_with fail;go_ret;exact⟨aN (by unfold cn;simp[h8]),rfl⟩
/-! ### beginnings -/
def jF (a b:List ByteArray):Bool:=decide (a.length≤b.length) && decide (b.take a.length=a)
theorem iq {B:Nat}{a w:World}(h:Below B a w)(n:Nat):Below B a (w.drewN n):=h.trans ⟨rfl,rfl,rfl,Nat.le_refl _,fun _ _=>rfl⟩
theorem fb (s t:ByteArray):(s.toList == t.toList)=decide (s=t):=by
 rw[Bool.eq_iff_iff];simp only[beq_iff_eq,decide_eq_true_eq];constructor
 ·intro h;rw[ByteArray.toList_eq,ByteArray.toList_eq]at h;cases s;cases t;simp at h;rw[h]
 ·intro h;rw[h]
theorem vD (A B:Option Addr)(c d n:Nat)(a b:List ByteArray)(w:World)(S T:Nat→Prop)(h:ai w S A a)(k:ai w T B b)(hS: ∀b,S b→b<w.heap.size)(hT: ∀b,T b→b<w.heap.size)(hn:a.length≤140737488351232)(hab:a.length=b.length)(hnn:n=b.length):
  Calls Tryz.prog 169 #[.slice A a.length c,.slice B n d] w fun e w'=>e= .returned (.bool (decide (a=b)))∧Below w.heap.size w w':=by
 have HS:=hid h;have HT:=hid k;have HN:=hid hn;have HA:=hid hab;have HE:=hid (hnn.trans hab.symm);obtain rfl:n=a.length:=HE.out;clear h k hab hnn HE;go_enter Tryz.func169,Tryz.ntmps169;go_wp2_with fail
 go_loopw [13] (fun i wr=> ∃k:Nat,i= .int .i64 k∧k≤a.length∧Hid (Below w.heap.size w wr)∧Hid (∀j (h:j<a.length) (h':j<b.length),j<k→a[j]=b[j])) (fun i _=>a.length - (intOf i).toNat)
 case atStart=>exact⟨0,rfl,by omega,Below.refl _ _,fun j _ _ h=>absurd h (by omega)⟩
 case round=>
  obtain⟨k,rfl,hk,HB,HJ⟩:=hrel;by_cases hlt:k<a.length
  ·have hkb:k<b.length:=by have:=HA.out;omega
   obtain⟨p,o,rfl,hp,hc⟩:=HS.out (by omega);obtain⟨q,r,rfl,hq,hd⟩:=HT.out (by omega);have hck:=(HB.out.cell (p:=⟨p,o+k,none⟩) (hS p hp)).trans (hc k hlt).1;have hdk:=(HB.out.cell (p:=⟨q,r+k,none⟩) (hT q hq)).trans (hd k hkb).1;clear hc hd;by_cases he:a[k]=b[k]
   ·have e2:(a[k].toList == b[k].toList)=true:=by rw[fb];exact decide_eq_true he
    have HE:=hid he;clear he;go_wp2
    go_quiet (fail)
    go_wp2
    go_roundw
    case rel=>exact⟨k+1,by go_num,by omega,iq HB.out _,fun j h h' hjk=>by
     by_cases e:j=k
     ·subst e;exact HE.out
     ·exact HJ.out j h h' (by omega)⟩
    case measure=>simp[intOf];omega
   ·have e2:(a[k].toList == b[k].toList)=false:=by rw[fb];exact decide_eq_false he
    have HE:=hid he;clear he;go_wp2
    go_quiet (fail)
    go_wp2;go_ret;exact⟨aN (decide_eq_false fun h=>HE.out (by subst h;rfl)).symm,iq HB.out _⟩
  ·obtain rfl:k=a.length:=by omega
   clear hlt hk;go_wp2_with fail;go_ret;exact⟨aN (decide_eq_true (List.ext_getElem HA.out fun j h h'=>HJ.out j h h' h)).symm,HB.out⟩
theorem nj (A B:Option Addr)(c d:Nat)(a b:List ByteArray)(w:World)(S T:Nat→Prop)(h:ai w S A a)(k:ai w T B b)(hS: ∀b,S b→b<w.heap.size)(hT: ∀b,T b→b<w.heap.size)(hn:a.length≤140737488351232)(hm:b.length≤140737488351232)(hd:b.length≤d):
  Calls Tryz.prog 145 #[.slice A a.length c,.slice B b.length d] w fun e w'=>e= .returned (.bool (jF a b))∧Below w.heap.size w w':=by
 by_cases hl:a.length≤b.length
 ·have el:decide (a.length≤b.length)=true:=by simpa using hl
  have ht:(b.take a.length).length=a.length:=by simp;omega
  have HT:=hid ht;clear ht;have HK:=hid (k.take a.length);go_enter Tryz.func145,Tryz.ntmps145;go_wp2_with fail;refine(vD A B c d a.length a (b.take a.length) _ S T h HK.out hS hT hn HT.out.symm HT.out.symm).mono ?_;rintro e w1 ⟨rfl,hb⟩;have HB:=hid hb;clear hb;go_wp2_with fail;go_ret;exact⟨aN (by unfold jF;rw[el,Bool.true_and];exact decide_eq_decide.2 ⟨Eq.symm,Eq.symm⟩),HB.out⟩
 ·have el:decide (a.length≤b.length)=false:=by simpa using hl
  go_enter Tryz.func145,Tryz.ntmps145;go_wp2_with fail;go_ret;exact⟨aN (by unfold jF;rw[el];rfl),Below.refl _ _⟩
theorem yd (A B:Option Addr)(c d:Nat)(a b:List ByteArray)(w:World)(S T:Nat→Prop)(h:ai w S A a)(k:ai w T B b)(hS: ∀b,S b→b<w.heap.size)(hT: ∀b,T b→b<w.heap.size)(hn:a.length≤140737488351232)(hm:b.length≤140737488351232)(hc:a.length≤c)(hd:b.length≤d):
  Calls Tryz.prog 105 #[.slice A a.length c,.slice B b.length d] w fun e w'=>e= .returned (.bool (jF a b || jF b a))∧Below w.heap.size w w':=by
 have HS:=hid h;have HT:=hid k;clear h k;go_enter Tryz.func105,Tryz.ntmps105;go_wp2_with fail;refine(nj A B c d a b _ S T HS.out HT.out hS hT hn hm hd).mono ?_;rintro e w1 ⟨rfl,hb⟩;have HB:=hid hb;clear hb;cases hx:jF a b
 ·go_wp2_with fail;refine(nj B A d c b a _ T S (HT.out.keep fun b hb=>HB.out.block b (hT b hb)) (HS.out.keep fun b hb=>HB.out.block b (hS b hb)) (fun b hb=>Nat.lt_of_lt_of_le (hT b hb) HB.out.size) (fun b hb=>Nat.lt_of_lt_of_le (hS b hb) HB.out.size) hm hn hc).mono ?_;rintro e w2 ⟨rfl,hb⟩;have HB2:=hid (mu HB.out hb);clear hb;go_wp2_with fail;go_ret;exact⟨aN (by rw[hx,Bool.false_or]),HB2.out⟩
 ·go_wp2_with fail;go_ret;exact⟨aN (by rw[hx,Bool.true_or]),HB.out⟩
structure OpT where
  kind:Int
  path:List ByteArray
  val:VT
  to:List ByteArray
structure ba where
  rep:Bool
  doc:VT
  ops:List OpT
def eO (t:VT):Bool:=decide (t.kind=0) && decide (t.num=0) && decide (t.text.toList= []) && decide (t.items.length=0) && decide (t.names.length=0)
theorem ku (t:VT):eO t=true↔t= .mk 0 0 ⟨#[]⟩ [] []:=by
  obtain⟨k,i,s,l,ns⟩:=t;unfold eO VT.kind VT.num VT.text VT.items VT.names;simp only[Bool.and_eq_true,decide_eq_true_eq,VT.mk.injEq];constructor
  · rintro⟨⟨⟨⟨h1,h2⟩,h3⟩,h4⟩,h5⟩
    refine⟨h1,h2,?_,List.eq_nil_of_length_eq_zero h4,List.eq_nil_of_length_eq_zero h5⟩;rw[ByteArray.toList_eq]at h3;obtain⟨⟨x⟩⟩:=s;simp at h3;rw[h3]
  · rintro⟨h1,h2,h3,h4,h5⟩
    subst h3 h4 h5;exact⟨⟨⟨⟨h1,h2⟩,by simp[ByteArray.toList_eq]⟩,rfl⟩,rfl⟩
def co (o:OpT):Bool:=cn o.path &&
  (if o.kind=3 then decide (o.val.kind=3) && decide (aG o.val=0) && decide (o.to.length=0)
   else if o.kind=1∨o.kind=4∨o.kind=5∨o.kind=7∨o.kind=8 then decide (aG o.val=0) && decide (o.to.length=0)
   else if o.kind=2 then eO o.val && decide (o.to.length=0)
   else if o.kind=6 then eO o.val && cn o.to else false)
def dD (o:OpT):List (List ByteArray):=if o.kind=6 then [o.path,o.to]else [o.path]
def bU (l:List OpT):List (List ByteArray):=l.flatMap dD
def idN :ByteArray:=⟨#[95,105,100]⟩
def cB (s:ba):Bool:=if s.rep then decide (s.ops.length=0) && decide (s.doc.kind=7) && decide (aG s.doc=0)else eO s.doc && decide (0<s.ops.length) && decide (s.ops.length≤16) && s.ops.all co
def dN (s:ba):Bool:=(s.doc.names.any fun x=>decide (x=idN)) || (bU s.ops).any fun p=>decide (p.head? =some idN)
def dh (a b:List ByteArray):Bool:=jF a b || jF b a
def dg :List (List ByteArray)→List (List ByteArray)→Bool
  |_,[]=>false
  |ahead,p::r=>(ahead.any fun q=>dh p q) || dg (ahead++[p]) r
def bX (s:ba):Int:=if cB s then(if dN s then 70 else if dg [] (bU s.ops)then 71 else 0)else 72
theorem pw (o:OpT)(l:List OpT):bU (o::l)=dD o++bU l:=rfl
theorem qp {o:OpT}(h:co o=true): ∀p∈dD o,cn p=true:=by
  unfold co at h;rw[Bool.and_eq_true]at h;intro p hp;unfold dD at hp;by_cases h6:o.kind=6
  · rw[if_pos h6]at hp
    have h2:=h.2;rw[h6]at h2;simp at h2;rcases List.mem_cons.1 hp with rfl|hp
    · exact h.1
    · rw[List.mem_singleton.1 hp];exact h2.2
  · rw[if_neg h6]at hp
    rw[List.mem_singleton.1 hp];exact h.1
theorem mj {l:List OpT}(h:l.all co=true): ∀p∈bU l,cn p=true:=by
  intro p hp;obtain⟨o,ho,hp⟩:=List.mem_flatMap.1 hp;exact qp (List.all_eq_true.1 h o ho) p hp
def ore (x y:Int):Int:=if x=0 then y else x
def ee (a b:Int):Int:=if a<b then -1 else if b<a then 1 else 0
def fw (x y:List UInt8):Int:=if Op.bytesLess x y=true then -1 else if x=y then 0 else 1
theorem gh (x y:Int):ore x y=0↔x=0∧y=0:=by unfold ore;split<;>omega
theorem kN (a b:Int):ee a b=0↔a=b:=by unfold ee;split<;>first|omega|(split<;>omega)
theorem lf : ∀x:List UInt8,Op.bytesLess x x=false
 | []=>rfl
 |a::x=>by simp[Op.bytesLess,lf x]
theorem ko (x y:List UInt8):fw x y=0↔x=y:=by
 unfold fw;constructor
 ·intro h;by_cases h1:Op.bytesLess x y=true
  ·rw[if_pos h1]at h;cases h
  ·rw[if_neg h1]at h;by_cases h2:x=y
   ·exact h2
   ·rw[if_neg h2]at h;cases h
 ·rintro rfl;rw[if_neg (by rw[lf];exact Bool.false_ne_true),if_pos rfl]
mutual
def gi :VT→VT→Int
 | .mk k i s l ns,.mk k' i' s' l' ns'=>ore (ore (ee k k') (ore (ee i i') (fw s.toList s'.toList))) (cH (decide (k=7)) l ns l' ns')
def cH (doc:Bool):List VT→List ByteArray→List VT→List ByteArray→Int
 | [],_,[],_=>0
 | [],_,_::_,_=> -1
 |_::_,_,[],_=>1
 |x::l,ns,y::l',ns'=>ore (if doc then fw (ns.headD ⟨#[]⟩).toList (ns'.headD ⟨#[]⟩).toList else 0) (ore (gi x y) (cH doc l ns.tail l' ns'.tail))
end
theorem tL (k i:Int)(s:ByteArray)(l:List VT)(ns:List ByteArray)(k' i':Int)(s':ByteArray)(l':List VT)(ns':List ByteArray):
  gi (.mk k i s l ns) (.mk k' i' s' l' ns')=ore (ore (ee k k') (ore (ee i i') (fw s.toList s'.toList))) (cH (decide (k=7)) l ns l' ns'):=by
 conv=>lhs;unfold gi
theorem toList_inj {a b:ByteArray}(h:a.toList=b.toList):a=b:=by rw[ByteArray.toList_eq,ByteArray.toList_eq]at h;exact nw h
theorem yT (k i:Int)(s:ByteArray)(l:List VT)(ns:List ByteArray):ao (.mk k i s l ns)=(aV k i s l.length ns && fE l):=by conv=>lhs;unfold ao lW
theorem oA (x:VT)(l:List VT):fE (x::l)=(ao x && fE l):=by conv=>lhs;unfold fE
theorem eg {x:VT}: ∀ {l:List VT},fE l=true→x∈l→ao x=true
 | [],_,h=>by cases h
 |t::r,h,hx=>by
  rw[oA,Bool.and_eq_true]at h;rcases List.mem_cons.1 hx with rfl|hx
  ·exact h.1
  ·exact eg h.2 hx
theorem dE {k i:Int}{s:ByteArray}{l:List VT}{ns:List ByteArray}(h:ao (.mk k i s l ns)=true):(k=7→ns.length=l.length)∧(k≠7→ns= [])∧fE l=true:=by
 rw[yT,Bool.and_eq_true]at h;have h1:=h.1;refine⟨fun hk=> ?_,fun hk=> ?_,h.2⟩
 ·subst hk;simp[aV]at h1;exact h1.1.2
 ·unfold aV at h1;by_cases k1:k=1
  ·simp[k1]at h1;exact h1.2.2
  by_cases k2:k=2
  ·simp[k2]at h1;exact h1.2.2
  by_cases k3:k=3
  ·simp[k3]at h1;exact h1.2.2
  by_cases k4:k=4∨k=5
  ·rw[if_neg k1,if_neg k2,if_neg k3,if_pos k4]at h1;simp at h1;exact h1.2.2
  by_cases k6:k=6
  ·simp[k6]at h1;exact h1.2
  simp[k1,k2,k3,k4,k6,hk]at h1
mutual
theorem nU : ∀a b:VT,ao a=true→ao b=true→(gi a b=0↔a=b)
 | .mk k i s l ns,.mk k' i' s' l' ns',ha,hb=>by
  obtain⟨a1,a2,a3⟩:=dE ha;obtain⟨b1,b2,b3⟩:=dE hb;rw[tL,gh,gh,gh,kN,kN,ko];constructor
  ·rintro⟨⟨rfl,rfl,hs⟩,h⟩;rw[toList_inj hs];by_cases h7:k=7
   ·rw[decide_eq_true h7]at h;obtain⟨rfl,hn⟩:=(gp true l l' ns ns' a3 b3 (fun _=>a1 h7) (fun _=>b1 h7)).1 h;rw[hn rfl]
   ·rw[decide_eq_false h7]at h;obtain⟨rfl,_⟩:=(gp false l l' ns ns' a3 b3 (fun h=>by cases h) (fun h=>by cases h)).1 h;rw[a2 h7,b2 h7]
  ·intro h;injection h with h1 h2 h3 h4 h5
   subst h1 h2 h3 h4 h5;exact⟨⟨rfl,rfl,rfl⟩,(gp _ l l ns ns a3 a3 (fun h=>a1 (of_decide_eq_true h)) (fun h=>a1 (of_decide_eq_true h))).2 ⟨rfl,fun _=>rfl⟩⟩
theorem gp (d:Bool): ∀(l l':List VT) (ns ns':List ByteArray),fE l=true→fE l'=true→(d=true→ns.length=l.length)→(d=true→ns'.length=l'.length)→(cH d l ns l' ns'=0↔l=l'∧(d=true→ns=ns'))
 | [],[],ns,ns',_,_,hn,hn'=>by
  unfold cH;simp only[true_and,true_iff];intro hd
  rw[List.eq_nil_of_length_eq_zero (hn hd),List.eq_nil_of_length_eq_zero (hn' hd)]
 | [],y::l',ns,ns',_,_,_,_=>by unfold cH;simp
 |x::l,[],ns,ns',_,_,_,_=>by unfold cH;simp
 |x::l,y::l',ns,ns',ha,hb,hn,hn'=>by
  rw[oA,Bool.and_eq_true]at ha hb
  conv=>lhs;unfold cH
  rw[gh,gh,nU x y ha.1 hb.1,gp d l l' _ _ ha.2 hb.2 (fun h=>by have:=hn h;simp at this ⊢;omega) (fun h=>by have:=hn' h;simp at this ⊢;omega)];constructor
  ·rintro⟨h1,rfl,rfl,h2⟩;refine⟨rfl,fun hd=> ?_⟩;rw[if_pos hd,ko]at h1;have hl:=hn hd;have hl':=hn' hd;rcases ns with _|⟨n,ns⟩
   ·cases hl
   rcases ns' with _|⟨n',ns'⟩
   ·cases hl'
   have:=h2 hd;simp only[List.tail_cons]at this;simp only[List.headD_cons]at h1;rw[toList_inj h1,this]
  ·rintro⟨h,h2⟩;injection h with h3 h4
   subst h3 h4;refine⟨?_,rfl,rfl,fun hd=>by rw[h2 hd]⟩;cases d
   ·rfl
   ·rw[h2 rfl];exact(ko _ _).2 rfl
end
theorem mN (x:Int)(w:World):Calls Tryz.prog 182 #[.int .i64 x] w fun e w'=>e= .returned (.bool false)∧w=w':=by
 go_enter Tryz.func182,Tryz.ntmps182;go_wp2;go_ret;exact⟨rfl,rfl⟩
theorem xN (x:ByteArray)(w:World):Calls Tryz.prog 183 #[.string x] w fun e w'=>e= .returned (.bool false)∧w=w':=by
 go_enter Tryz.func183,Tryz.ntmps183;go_wp2;go_ret;exact⟨rfl,rfl⟩
theorem jT (a b:Int)(w:World):Calls Tryz.prog 177 #[.int .i64 a,.int .i64 b] w fun e w'=>e= .returned (.int .i64 (ee a b))∧w=w':=by
 have e1:a<b→ee a b= -1:=fun h=>by unfold ee;rw[if_pos h]
 have e2: ¬a<b→b<a→ee a b=1:=fun h h2=>by unfold ee;rw[if_neg h,if_pos h2]
 have e3: ¬a<b→ ¬b<a→ee a b=0:=fun h h2=>by unfold ee;rw[if_neg h,if_neg h2]
 generalize ee a b=R at *;have E1:=hid e1;have E2:=hid e2;have E3:=hid e3;clear e1 e2 e3;by_cases h1:a<b
 ·go_enter Tryz.func177,Tryz.ntmps177;go_wp2_with(go_at_call 182;refine(mN _ _).mono ?_;rintro e w' ⟨rfl,rfl⟩);go_ret;exact⟨aH (E1.out h1).symm,rfl⟩
 ·by_cases h2:b<a
  ·go_enter Tryz.func177,Tryz.ntmps177;go_wp2_with(go_at_call 182;refine(mN _ _).mono ?_;rintro e w' ⟨rfl,rfl⟩);go_ret;exact⟨aH (E2.out h1 h2).symm,rfl⟩
  ·go_enter Tryz.func177,Tryz.ntmps177;go_wp2_with(go_at_call 182;refine(mN _ _).mono ?_;rintro e w' ⟨rfl,rfl⟩);go_ret;exact⟨aH (E3.out h1 h2).symm,rfl⟩
theorem lY (a b:ByteArray)(w:World):Calls Tryz.prog 178 #[.string a,.string b] w fun e w'=>e= .returned (.int .i64 (fw a.toList b.toList))∧w=w':=by
 have e1:Op.bytesLess a.toList b.toList=true→fw a.toList b.toList= -1:=fun h=>by unfold fw;rw[if_pos h]
 have e2:Op.bytesLess a.toList b.toList=false→(!a.toList == b.toList)=true→fw a.toList b.toList=1:=fun h h2=>by unfold fw;rw[if_neg (by rw[h];exact Bool.false_ne_true),if_neg (by simpa using h2)]
 have e3:Op.bytesLess a.toList b.toList=false→(!a.toList == b.toList)=false→fw a.toList b.toList=0:=fun h h2=>by unfold fw;rw[if_neg (by rw[h];exact Bool.false_ne_true),if_pos (by simpa using h2)]
 generalize fw a.toList b.toList=R at *;have E1:=hid e1;have E2:=hid e2;have E3:=hid e3;clear e1 e2 e3;go_enter Tryz.func178,Tryz.ntmps178;go_wp2_with(go_at_call 183;refine(xN _ _).mono ?_;rintro e w' ⟨rfl,rfl⟩)
 ·go_ret;exact⟨aH (E1.out (by assumption)).symm,rfl⟩
 ·go_ret;exact⟨aH (E2.out (by assumption) (by assumption)).symm,rfl⟩
 ·go_ret;exact⟨aH (E3.out (by assumption) (by assumption)).symm,rfl⟩
theorem yX (b:Nat)(c:Nat)(x y z:Int)(w:World)(h0:w.cell? ⟨b,0,none⟩=some (.int .i64 x))(h1:w.cell? ⟨b,1,none⟩=some (.int .i64 y))(h2:w.cell? ⟨b,2,none⟩=some (.int .i64 z)):
  Calls Tryz.prog 176 #[.slice (some ⟨b,0,none⟩) 3 c] w fun e w'=>e= .returned (.int .i64 (ore x (ore y z)))∧w=w':=by
 have H0:=hid h0;have H1:=hid h1;have H2:=hid h2
 have HE:Hid (∀R,R=ore x (ore y z)→(x≠0→R=x)∧(x=0→y≠0→R=y)∧(x=0→y=0→R=z)):=by
  rintro R rfl;unfold ore;refine⟨fun h=>by rw[if_neg h],fun h h'=>by rw[if_pos h,if_neg h'],fun h h'=>by rw[if_pos h,if_pos h']⟩
 obtain⟨R,hR⟩: ∃R,R=ore x (ore y z):=⟨_,rfl⟩;rw[←hR];have HF:=hid (HE.out R hR);clear HE hR h0 h1 h2;go_enter Tryz.func176,Tryz.ntmps176;go_wp2_with fail
 go_loopw [8] (fun i wr=> ∃k:Nat,i= .int .i64 k∧k≤3∧wr=w∧(0<k→x=0)∧(1<k→y=0)∧(2<k→z=0)) (fun i _=>3 - (intOf i).toNat)
 case atStart=>exact⟨0,rfl,by omega,rfl,fun h=>absurd h (by omega),fun h=>absurd h (by omega),fun h=>absurd h (by omega)⟩
 case round=>
  obtain⟨k,rfl,hk,rfl,k1,k2,k3⟩:=hrel;obtain rfl|rfl|rfl|rfl:k=0∨k=1∨k=2∨k=3:=by omega
  ·have g0:=H0.out;by_cases hx:x=0
   ·go_wp2_with fail
    go_roundw
    case rel=>exact⟨1,rfl,by omega,trivial,fun _=>hx,fun h=>absurd h (by omega),fun h=>absurd h (by omega)⟩
    case measure=>simp[intOf]
   ·go_wp2_with fail;go_ret;exact⟨aH (HF.out.1 hx).symm,rfl⟩
  ·have g0:=H1.out;have hx:=k1 (by omega);by_cases hy:y=0
   ·go_wp2_with fail
    go_roundw
    case rel=>exact⟨2,rfl,by omega,trivial,fun _=>hx,fun _=>hy,fun h=>absurd h (by omega)⟩
    case measure=>simp[intOf]
   ·go_wp2_with fail;go_ret;exact⟨aH (HF.out.2.1 hx hy).symm,rfl⟩
  ·have g0:=H2.out;have hx:=k1 (by omega);have hy:=k2 (by omega);by_cases hz:z=0
   ·go_wp2_with fail
    go_roundw
    case rel=>exact⟨3,rfl,by omega,trivial,fun _=>hx,fun _=>hy,fun _=>hz⟩
    case measure=>simp[intOf]
   ·go_wp2_with fail;go_ret;exact⟨aH (HF.out.2.2 hx hy).symm,rfl⟩
  ·have hx:=k1 (by omega);have hy:=k2 (by omega);have hz:=k3 (by omega);go_wp2_with fail;go_ret;exact⟨aH (by rw[HF.out.2.2 hx hy,hz]),rfl⟩
end Go.Proofs.YtgbopnlpaabelaaGreatDoor
