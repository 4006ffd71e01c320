/- The code of a value, and the value that bytes begin with. No conditions on the program. -/
import Derived.Test.YtgfidiocmiolpaaGreatKValM
import Derived.Test.YtgfidiocmiolpaaGreatKRefZ
import Derived.Test.YtgfidiocmiolpaaGreatKValO
import Derived.Lib.OthersKept
import Derived.Laws.AppendOwnNone
import Derived.Outline
set_option maxHeartbeats 64000000
set_option maxRecDepth 100000
set_option linter.unusedVariables false
set_option linter.unusedSimpArgs false
namespace Go.Proofs.YtgfidiocmiolpaaGreat
open Go.RowKit
def eS :ByteArray:=⟨#[]⟩
mutual
def fe :VT→List UInt8
 | .mk k i s l ns=>UInt8.ofNat k.toNat::((if k=2 then [UInt8.ofNat i.toNat]else if k=3 then grp (zig i)else if k=4∨k=5 then txt s else if k=6∨k=7 then grp l.length else [])++ff (decide (k=7)) ns l)
def ff :Bool→List ByteArray→List VT→List UInt8
 |_,_,[]=>[]
 |d,ns,t::r=>(if d then txt (ns.headD eS)else [])++fe t++ff d ns.tail r
end
def fb (k i:Int)(s:ByteArray)(n:Nat):List UInt8:=UInt8.ofNat k.toNat::(if k=2 then [UInt8.ofNat i.toNat]else if k=3 then grp (zig i)else if k=4∨k=5 then txt s else if k=6∨k=7 then grp n else [])
theorem cP (t:VT):fe t=fb t.kind t.num t.text t.items.length++ff (decide (t.kind=7)) t.names t.items:=by
 cases t;unfold fe fb;rfl
theorem nT (d:Bool){ns:List ByteArray}{l:List VT}{j:Nat}(h:j<l.length)(hn:d=true→j<ns.length):
  ff d (ns.drop j) (l.drop j)=(if d then txt (ns.getD j eS)else [])++fe l[j]++ff d (ns.drop (j+1)) (l.drop (j+1)):=by
 rw[List.drop_eq_getElem_cons h];conv=>lhs;unfold ff
 rw[List.tail_drop];cases d
 ·rfl
 ·have hj:=hn rfl;have e:(ns.drop j).headD eS=ns.getD j eS:=by rw[List.drop_eq_getElem_cons hj];simp[hj]
  rw[e]
theorem cj (d:Bool)(ns:List ByteArray):ff d ns []= []:=by unfold ff;rfl
/-! ### what bytes begin with -/
def bB (f:List UInt8→Option (VT×List UInt8))(d:Bool):Nat→List UInt8→Option (List VT×List ByteArray×List UInt8)
 |0,l=>some ([],[],l)
 |n+1,l=>
  match(if d then am 32 (some l)else([],some l))with
  |(_,none)=>none
  |(nm,some l1)=>
   match f l1 with
   |none=>none
   |some (t,l2)=>
    match bB f d n l2 with
    |none=>none
    |some (ts,ns,l3)=>some (t::ts,(if d then fZ nm::ns else ns),l3)
def rdW :Nat→List UInt8→Option (VT×List UInt8)
 |0,_=>none
 |d+1,l=>
  match ak (some l)with
  |(_,none)=>none
  |(k,some r)=>
   if k=2 then(match ak (some r)with|(i,some r')=>some (.mk 2 i eS [] [],r')|(_,none)=>none)
   else if k=3 then(match ef (some r)with|(i,some r')=>some (.mk 3 i eS [] [],r')|(_,none)=>none)
   else if k=4∨k=5 then(match am 4096 (some r)with|(x,some r')=>some (.mk k 0 (fZ x) [] [],r')|(_,none)=>none)
   else if k=6∨k=7 then
    (match ae 4096 (some r)with
    |(_,none)=>none
    |(n,some r')=>match bB (rdW d) (decide (k=7)) n r' with
     |none=>none
     |some (ts,ns,r'')=>some (.mk k 0 eS ts ns,r''))
   else some (.mk k 0 eS [] [],r)
/-! ### numbers read are numbers put -/
theorem qR : ∀(l:List UInt8) (i acc:Nat),(bS i acc l).2≠0→i≤9∧ ∃n m,0<m∧m≤l.length∧bS i acc l=(acc+n * 128 ^ i,i+m)∧l.take m=iJ (9 - i) n∧n<2 * 128 ^ (9 - i)∧(0<i→0<n)
 | [],i,acc,h=>absurd (by simp[bS]) h
 |b::r,i,acc,h=>by
  have hb:=UInt8.toNat_lt b;unfold bS at h ⊢;by_cases h10:10≤i
  ·rw[if_pos h10]at h;exact absurd rfl h
  rw[if_neg h10]at h ⊢;by_cases h9:i=9∧1<b.toNat
  ·rw[if_pos h9]at h;exact absurd rfl h
  rw[if_neg h9]at h ⊢;by_cases hs:b.toNat<128
  ·rw[if_pos hs]at h ⊢;by_cases hz:b.toNat=0∧0<i
   ·rw[if_pos hz]at h;exact absurd rfl h
   rw[if_neg hz];refine⟨by omega,b.toNat,1,by omega,by simp,rfl,?_,?_,fun hi=>by omega⟩
   ·have e:UInt8.ofNat b.toNat=b:=by simp
    cases hf:9 - i with
    |zero=>simp[iJ,e]
    |succ f=>rw[iJ,if_pos hs,e];simp
   ·by_cases hi:i=9
    ·subst hi;have:b.toNat≤1:=by omega
     simp;omega
    ·have:(128:Nat) ^ 1≤128 ^ (9 - i):=Nat.pow_le_pow_right (by omega) (by omega);omega
  ·rw[if_neg hs]at h ⊢;obtain⟨hi,n,m,hm0,hm,he,ht,hn,hp⟩:=qR r (i+1) _ h;have hn0:=hp (by omega);refine⟨by omega,b.toNat - 128+128 * n,m+1,by omega,by simp;omega,?_,?_,?_,fun _=>by omega⟩
   ·rw[he,Prod.mk.injEq];refine⟨?_,by omega⟩;have e3:(128:Nat) ^ (i+1)=128 * 128 ^ i:=by rw[Nat.pow_succ];omega
    rw[e3,Nat.add_mul,←Nat.mul_assoc,Nat.add_assoc,Nat.mul_comm 128 n]
   ·obtain⟨f,hf⟩: ∃f,9 - i=f+1:=⟨8 - i,by omega⟩;have hf2:9 - (i+1)=f:=by omega
    rw[hf2]at ht;rw[hf,iJ,if_neg (by omega),List.take_succ_cons,ht]
    congr 1
    ·have:(b.toNat - 128+128 * n) % 128+128=b.toNat:=by omega
     rw[this];simp
    ·congr 1;omega
   ·obtain⟨f,hf⟩: ∃f,9 - i=f+1:=⟨8 - i,by omega⟩;have hf2:9 - (i+1)=f:=by omega
    rw[hf2]at hn;rw[hf,Nat.pow_succ];omega
theorem tm {most:Nat}{l r:List UInt8}{n:Nat}(h:rdN most (some l)=(n,some r)):l=grp n++r∧n≤most∧n<18446744073709551616:=by
 simp only[rdN]at h
 split at h
 ·cases h
 ·next hc=>
  obtain⟨-,x,m,hm0,hm,he,ht,hx,-⟩:=qR l 0 0 (fun h0=>hc (.inl h0));rw[he]at h hc;simp only[Nat.pow_zero,Nat.mul_one,Nat.zero_add]at h hc ht hx;injection h with h1 h2
  injection h2 with h2
  subst h1;have e9:(128:Nat) ^ 9=9223372036854775808:=by decide
  have hlt:x<18446744073709551616:=by simp at hx;omega
  refine⟨?_,by omega,hlt⟩;rw[xR x hlt,←ht,←h2,List.take_append_drop]
theorem eA {l r:List UInt8}{k:Nat}(h:ak (some l)=(k,some r)):l=UInt8.ofNat k::r∧k<256:=by
 match l with
 | []=>cases h
 |b::r'=>
  simp only[ak]at h;injection h with h1 h2
  injection h2 with h2
  subst h1 h2;exact⟨by simp,UInt8.toNat_lt b⟩
theorem xD (n:Nat):zig (zag n)=n:=by unfold zig zag;split<;>split<;>omega
theorem tH (n:Nat)(h:n<18446744073709551616): -9223372036854775808≤zag n∧zag n≤9223372036854775807:=by unfold zag;split<;>omega
theorem oc {l r:List UInt8}{x:Int}(h:ef (some l)=(x,some r)):l=grp (zig x)++r∧ -9223372036854775808≤x∧x≤9223372036854775807:=by
 unfold ef at h;injection h with h1 h2
 obtain⟨n,hn⟩: ∃n,n=(rdN 18446744073709551615 (some l)).1:=⟨_,rfl⟩;obtain⟨e,-,hl⟩:=tm (n:=n) (r:=r) (l:=l) (most:=18446744073709551615) (by rw[hn,←h2]);rw[←hn]at h1;subst h1;exact⟨by rw[xD];exact e,tH n hl⟩
theorem dx {m:Nat}{l r:List UInt8}{n:Nat}(hm:m≤4611686018427387904)(h:ae (m:Int) (some l)=(n,some r)):l=grp n++r∧n≤m:=by
 unfold ae at h;rw[if_neg (by omega)]at h;have e:mc (m:Int)=m:=by unfold mc;rw[if_pos (by omega)];omega
 rw[e]at h;obtain⟨h1,h2,-⟩:=tm h;exact⟨h1,h2⟩
theorem eB {m:Nat}{l r:List UInt8}{x:List UInt8}(hm:m≤4611686018427387904)(h:am (m:Int) (some l)=(x,some r)):l=txt (fZ x)++r∧x.length≤m:=by
 unfold am at h;have hc: ∀n r',ae (m:Int) (some l)=(n,some r')→l=grp n++r'∧n≤m:=fun n r'=>dx hm;obtain⟨⟨n,st⟩,hn⟩: ∃p,p=ae (m:Int) (some l):=⟨_,rfl⟩;rw[←hn]at h hc
 cases st with
 |none=>
  simp only at h
  split at h<;>cases h
 |some r'=>
  obtain⟨h1,h2⟩:=hc n r' rfl;simp only at h;by_cases h0:n=0
  ·rw[if_pos h0]at h;injection h with e1 e2
   injection e2 with e2
   subst e1 e2 h0;refine⟨?_,by simp⟩;rw[h1];unfold txt;rw[gm,oy];simp
  ·rw[if_neg h0]at h
   split at h
   ·cases h
   ·next hl=>
    injection h with e1 e2
    injection e2 with e2
    subst e1 e2;have hx:(r'.take n).length=n:=by simp;omega
    refine⟨?_,by omega⟩;rw[h1];unfold txt;rw[gm,oy,hx,List.append_assoc,List.take_append_drop]
/-! ### there and back -/
theorem yJ {k:Nat}(h:k<256):UInt8.ofNat ((k:Int)).toNat=UInt8.ofNat k:=by simp
theorem lw {f:List UInt8→Option (VT×List UInt8)}(d:Bool): ∀(n:Nat) (l:List UInt8) (ts:List VT) (ns:List ByteArray) (r:List UInt8),
  (∀t l r,f l=some (t,r)→bE t=true→fe t++r=l)→bB f d n l=some (ts,ns,r)→dw ts=true→ff d ns ts++r=l∧ts.length=n∧(if d then ns.length=n else ns= [])
 |0,l,ts,ns,r,hf,h,hm=>by
  simp only[bB,Option.some.injEq,Prod.mk.injEq]at h;obtain⟨rfl,rfl,rfl⟩:=h;rw[cj];refine⟨rfl,rfl,?_⟩
  cases d<;>rfl
 |n+1,l,ts,ns,r,hf,h,hm=>by
  unfold bB at h
  have hnm: ∀nm l1,(if d then am 32 (some l)else([],some l))=(nm,some l1)→l=(if d then txt (fZ nm)else [])++l1:=by
   intro nm l1 he
   cases d with
   |false=>simp only[Bool.false_eq_true,if_false]at he ⊢;injection he with e1 e2;injection e2 with e2
   |true=>simp only[if_true]at he ⊢;exact(eB (m:=32) (by decide) he).1
  obtain⟨⟨nm,st⟩,hp⟩: ∃p,p=(if d then am 32 (some l)else([],some l)):=⟨_,rfl⟩;rw[←hp]at h hnm
  cases st with
  |none=>cases h
  |some l1=>
   have hl:=hnm nm l1 rfl;simp only at h
   cases hf1:f l1 with
   |none=>rw[hf1]at h;cases h
   |some x=>
    obtain⟨t,l2⟩:=x;rw[hf1]at h;simp only at h
    cases hf2:bB f d n l2 with
    |none=>rw[hf2]at h;cases h
    |some y=>
     obtain⟨ts',ns',l3⟩:=y;rw[hf2]at h;simp only[Option.some.injEq,Prod.mk.injEq]at h;obtain⟨rfl,rfl,rfl⟩:=h;have hm2:bE t=true∧dw ts'=true:=by unfold dw at hm;simpa using hm
     obtain⟨h1,h2,h3⟩:=lw d n l2 ts' ns' l3 hf hf2 hm2.2;have h4:=hf t l1 l2 hf1 hm2.1;refine⟨?_,by simp[h2],?_⟩
     ·unfold ff
      cases d with
      |false=>simp only[Bool.false_eq_true,if_false]at hl h3 ⊢;subst h3;rw[hl,←h4,←h1];simp
      |true=>simp only[if_true]at hl ⊢;rw[hl,←h4,←h1];simp
     ·cases d with
      |false=>simp only[Bool.false_eq_true,if_false]at h3 ⊢;exact h3
      |true=>simp only[if_true]at h3 ⊢;simp[h3]
theorem lO (t:VT):bE t=(bf t.kind t.num t.text t.items.length t.names && dw t.items):=by cases t;unfold bE;rfl
theorem ph : ∀(d:Nat) (t:VT) (l r:List UInt8),rdW d l=some (t,r)→bE t=true→fe t++r=l
 |0,t,l,r,h,_=>by cases h
 |d+1,t,l,r,h,hm=>by
  unfold rdW at h;obtain⟨⟨k,st⟩,hp⟩: ∃p,p=ak (some l):=⟨_,rfl⟩;rw[←hp]at h
  cases st with
  |none=>cases h
  |some r1=>
   obtain⟨hl,hk⟩:=eA hp.symm;have h0:=yJ hk;simp only at h;by_cases h2:k=2
   ·subst h2;rw[if_pos rfl]at h;obtain⟨⟨i,st⟩,hp⟩: ∃p,p=ak (some r1):=⟨_,rfl⟩;rw[←hp]at h
    cases st with
    |none=>cases h
    |some r2=>
     obtain⟨hl2,hi⟩:=eA hp.symm;simp only[Option.some.injEq,Prod.mk.injEq]at h;obtain⟨rfl,rfl⟩:=h;rw[cP,hl,hl2];unfold fb;simp[cj,VT.kind,VT.num,VT.items]
   rw[if_neg h2]at h;by_cases h3:k=3
   ·subst h3;rw[if_pos rfl]at h;obtain⟨⟨i,st⟩,hp⟩: ∃p,p=ef (some r1):=⟨_,rfl⟩;rw[←hp]at h
    cases st with
    |none=>cases h
    |some r2=>
     obtain⟨hl2,-⟩:=oc hp.symm;simp only[Option.some.injEq,Prod.mk.injEq]at h;obtain⟨rfl,rfl⟩:=h;rw[cP,hl,hl2];unfold fb;simp[cj,VT.kind,VT.num,VT.items]
   rw[if_neg h3]at h;by_cases h45:k=4∨k=5
   ·rw[if_pos h45]at h;obtain⟨⟨x,st⟩,hp⟩: ∃p,p=am 4096 (some r1):=⟨_,rfl⟩;rw[←hp]at h
    cases st with
    |none=>cases h
    |some r2=>
     obtain⟨hl2,-⟩:=eB (m:=4096) (by decide) hp.symm;simp only[Option.some.injEq,Prod.mk.injEq]at h;obtain⟨rfl,rfl⟩:=h;have hk2: ¬(k:Int)=2:=by omega
     have hk3: ¬(k:Int)=3:=by omega
     have hk45:(k:Int)=4∨(k:Int)=5:=by omega
     rw[cP,hl,hl2];unfold fb;simp only[VT.kind,VT.num,VT.items,VT.text,VT.names,cj,hk2,hk3,hk45,h0,if_false,if_true];simp
   rw[if_neg h45]at h;by_cases h67:k=6∨k=7
   ·rw[if_pos h67]at h;obtain⟨⟨n,st⟩,hp⟩: ∃p,p=ae 4096 (some r1):=⟨_,rfl⟩;rw[←hp]at h
    cases st with
    |none=>cases h
    |some r2=>
     obtain⟨hl2,-⟩:=dx (m:=4096) (by decide) hp.symm;simp only at h
     cases hi:bB (rdW d) (decide (k=7)) n r2 with
     |none=>rw[hi]at h;cases h
     |some y=>
      obtain⟨ts,ns,r3⟩:=y;rw[hi]at h;simp only[Option.some.injEq,Prod.mk.injEq]at h;obtain⟨rfl,rfl⟩:=h;have hml:dw ts=true:=by rw[lO,Bool.and_eq_true]at hm;exact hm.2
      obtain⟨e1,e2,-⟩:=lw (decide (k=7)) n r2 ts ns r3 (fun t l r=>ph d t l r) hi hml;have hk2: ¬(k:Int)=2:=by omega
      have hk3: ¬(k:Int)=3:=by omega
      have hk45: ¬((k:Int)=4∨(k:Int)=5):=by omega
      have hk67:(k:Int)=6∨(k:Int)=7:=by omega
      have hk7:decide ((k:Int)=7)=decide (k=7):=by rw[decide_eq_decide];omega
      rw[cP,hl,hl2,←e1];unfold fb;simp only[VT.kind,VT.num,VT.items,VT.text,VT.names,hk2,hk3,hk45,hk67,h0,e2,if_false,if_true];simp
      congr 1
   ·rw[if_neg h67]at h;simp only[Option.some.injEq,Prod.mk.injEq]at h;obtain⟨rfl,rfl⟩:=h;have hk2: ¬(k:Int)=2:=by omega
    have hk3: ¬(k:Int)=3:=by omega
    have hk45: ¬((k:Int)=4∨(k:Int)=5):=by omega
    have hk67: ¬((k:Int)=6∨(k:Int)=7):=by omega
    rw[cP,hl];unfold fb;simp only[VT.kind,VT.num,VT.items,VT.text,VT.names,cj,hk2,hk3,hk45,hk67,h0,if_false,if_true];simp
/-! ### a code is read -/
mutual
def pW :VT→Prop
 | .mk _ i _ l _=>Rng i∧vn l
def vn :List VT→Prop
 | []=>True
 |t::r=>pW t∧vn r
end
theorem iQ {s:ByteArray}(h:s.toList= []):s=eS:=by
 rw[ByteArray.toList_eq]at h;rw[←xS s,h];rfl
theorem uV {t:VT}(h:bE t=true):bf t.kind t.num t.text t.items.length t.names=true∧dw t.items=true:=by
 rw[lO,Bool.and_eq_true]at h;exact h
theorem wJ {t:VT}(h:bE t=true):t= .mk 1 0 eS [] []∨(∃i,(i=0∨i=1)∧t= .mk 2 i eS [] [])∨(∃i,t= .mk 3 i eS [] [])∨(∃k s,(k=4∨k=5)∧t= .mk k 0 s [] [])∨
  (∃l,dw l=true∧t= .mk 6 0 eS l [])∨ ∃l ns,dw l=true∧ns.length=l.length∧bU ns=true∧t= .mk 7 0 eS l ns:=by
 obtain⟨hf,hl⟩:=uV h
 cases t with
 |mk k i s l ns=>
  simp only[VT.kind,VT.num,VT.text,VT.items,VT.names]at hf hl;unfold bf at hf;by_cases h1:k=1
  ·rw[if_pos h1]at hf;simp only[Bool.and_eq_true,decide_eq_true_eq,beq_iff_eq]at hf;obtain⟨⟨h2,h3⟩,h4,h5⟩:=hf;rw[List.eq_nil_of_length_eq_zero h4,List.eq_nil_of_length_eq_zero h5,iQ h3,h2,h1];exact .inl rfl
  rw[if_neg h1]at hf;by_cases h1:k=2
  ·rw[if_pos h1]at hf;simp only[Bool.and_eq_true,Bool.or_eq_true,decide_eq_true_eq,beq_iff_eq]at hf;obtain⟨⟨h2,h3⟩,h4,h5⟩:=hf;rw[List.eq_nil_of_length_eq_zero h4,List.eq_nil_of_length_eq_zero h5,iQ h3,h1];exact .inr (.inl ⟨i,h2,rfl⟩)
  rw[if_neg h1]at hf;by_cases h1:k=3
  ·rw[if_pos h1]at hf;simp only[Bool.and_eq_true,decide_eq_true_eq,beq_iff_eq]at hf;obtain⟨h3,h4,h5⟩:=hf;rw[List.eq_nil_of_length_eq_zero h4,List.eq_nil_of_length_eq_zero h5,iQ h3,h1];exact .inr (.inr (.inl ⟨i,rfl⟩))
  rw[if_neg h1]at hf;by_cases h1:k=4∨k=5
  ·rw[if_pos h1]at hf;simp only[Bool.and_eq_true,decide_eq_true_eq,beq_iff_eq]at hf;obtain⟨h3,h4,h5⟩:=hf;rw[List.eq_nil_of_length_eq_zero h4,List.eq_nil_of_length_eq_zero h5,h3];exact .inr (.inr (.inr (.inl ⟨k,s,h1,rfl⟩)))
  rw[if_neg h1]at hf;by_cases h1:k=6
  ·rw[if_pos h1]at hf;simp only[Bool.and_eq_true,decide_eq_true_eq,beq_iff_eq]at hf;obtain⟨⟨h2,h3⟩,h5⟩:=hf;rw[List.eq_nil_of_length_eq_zero h5,iQ h3,h2,h1];exact .inr (.inr (.inr (.inr (.inl ⟨l,hl,rfl⟩))))
  rw[if_neg h1]at hf;by_cases h1:k=7
  ·rw[if_pos h1]at hf;simp only[Bool.and_eq_true,decide_eq_true_eq,beq_iff_eq]at hf;obtain⟨⟨⟨h2,h3⟩,h5⟩,h6⟩:=hf;rw[iQ h3,h2,h1];exact .inr (.inr (.inr (.inr (.inr ⟨l,ns,hl,h5,h6,rfl⟩))))
  rw[if_neg h1]at hf;cases hf
theorem ne (s:ByteArray):(txt s).length=tsz s:=by unfold txt tsz;rw[List.length_append];rfl
mutual
theorem kH : ∀(t:VT),bE t=true→(fe t).length=bt t
 | .mk k i s l ns,h=>by
  have hsh:=wJ h;rcases hsh with e|⟨x,hx,e⟩|⟨x,e⟩|⟨k',s',hk,e⟩|⟨l',hl,e⟩|⟨l',ns',hl,hn,hdn,e⟩
  ·injection e with e1 e2 e3 e4 e5
   subst e1 e2 e3 e4 e5;rfl
  ·injection e with e1 e2 e3 e4 e5
   subst e1 e2 e3 e4 e5;rcases hx with rfl|rfl<;>rfl
  ·injection e with e1 e2 e3 e4 e5
   subst e1 e2 e3 e4 e5;rw[cP];unfold fb bt eq;simp[VT.kind,VT.num,VT.items,VT.names,cj,dD];omega
  ·injection e with e1 e2 e3 e4 e5
   subst e1 e2 e3 e4 e5;rw[cP];unfold fb bt eq;rcases hk with rfl|rfl<;>(simp[VT.kind,VT.num,VT.items,VT.names,VT.text,cj,dD,ne];omega)
  ·injection e with e1 e2 e3 e4 e5
   subst e1 e2 e3 e4 e5;have h1:=kh false [] l hl (fun h=>by cases h);rw[cP];unfold fb bt eq;simp[VT.kind,VT.num,VT.items,VT.names,VT.text,h1];omega
  ·injection e with e1 e2 e3 e4 e5
   subst e1 e2 e3 e4 e5;have h1:=kh true ns l hl (fun _=>hn);rw[cP];unfold fb bt eq;simp[VT.kind,VT.num,VT.items,VT.names,VT.text,h1];omega
theorem kh : ∀(d:Bool) (ns:List ByteArray) (l:List VT),dw l=true→(d=true→ns.length=l.length)→(ff d ns l).length=(if d then gb ns else 0)+eh l
 |d,ns,[],_,hn=>by
  rw[cj,dD]
  cases d with
  |false=>rfl
  |true=>have:ns= []:=List.eq_nil_of_length_eq_zero (hn rfl);subst this;rfl
 |d,ns,t::r,h,hn=>by
  have h2:bE t=true∧dw r=true:=by unfold dw at h;simpa using h
  have h3:=kH t h2.1
  cases d with
  |false=>
   have h4:=kh false ns.tail r h2.2 (fun h=>by cases h);unfold ff eh
   simp only[Bool.false_eq_true,if_false,List.nil_append,List.length_append,h3,h4];omega
  |true=>
   match ns,hn with
   | [],hn=>have:=hn rfl;simp at this
   |n::ns,hn=>
    have h4:=kh true ns r h2.2 (fun _=>by have:=hn rfl;simpa using this);unfold ff eh;simp only[if_true,List.headD_cons,List.tail_cons,List.length_append,h3,h4,ne];have:gb (n::ns)=tsz n+gb ns:=by unfold gb;simp
    rw[this];omega
end
theorem iF {t:VT}(hs:bt t≤9223372036854775807):bh t=0↔bE t=true∧av t≤8∧bt t≤4096:=by
 have hw:wrap64 (bt t)=bt t:=by unfold wrap64;omega
 unfold bh;rw[hw]
 cases hm:bE t with
 |false=>simp
 |true=>
  simp only[if_true,true_and];constructor
  ·intro h
   split at h
   ·omega
   ·split at h
    ·omega
    ·constructor<;>omega
  ·rintro⟨h1,h2⟩;rw[if_neg (by omega),if_neg (by omega)]
structure yQ (t:VT):Prop where
 may:bE t=true
 depth:av t≤8
 size:bt t≤4096
theorem iq {f:List UInt8→Option (VT×List UInt8)}{P:VT→Prop}(d:Bool)(hf: ∀t l r,f l=some (t,r)→P t∧r.length≤l.length): ∀(n:Nat) (l:List UInt8) (ts:List VT) (ns:List ByteArray) (r:List UInt8),
  bB f d n l=some (ts,ns,r)→(∀t∈ts,P t)∧r.length≤l.length∧ts.length=n
 |0,l,ts,ns,r,h=>by
  simp only[bB,Option.some.injEq,Prod.mk.injEq]at h;obtain⟨rfl,rfl,rfl⟩:=h
  exact⟨(fun t ht=>by cases ht),Nat.le_refl _,rfl⟩
 |n+1,l,ts,ns,r,h=>by
  unfold bB at h
  have hnm: ∀nm l1,(if d then am 32 (some l)else([],some l))=(nm,some l1)→l1.length≤l.length:=by
   intro nm l1 he
   cases d with
   |false=>simp only[Bool.false_eq_true,if_false]at he;injection he with e1 e2;injection e2 with e2;rw[e2];exact Nat.le_refl _
   |true=>simp only[if_true]at he;rw[(eB (m:=32) (by decide) he).1];simp
  obtain⟨⟨nm,st⟩,hp⟩: ∃p,p=(if d then am 32 (some l)else([],some l)):=⟨_,rfl⟩;rw[←hp]at h hnm
  cases st with
  |none=>cases h
  |some l1=>
   have hl:=hnm nm l1 rfl;simp only at h
   cases hf1:f l1 with
   |none=>rw[hf1]at h;cases h
   |some x=>
    obtain⟨t,l2⟩:=x;rw[hf1]at h;simp only at h
    cases hf2:bB f d n l2 with
    |none=>rw[hf2]at h;cases h
    |some y=>
     obtain⟨ts',ns',l3⟩:=y;rw[hf2]at h;simp only[Option.some.injEq,Prod.mk.injEq]at h;obtain⟨rfl,rfl,rfl⟩:=h;obtain⟨h1,h2,h3⟩:=iq d hf n l2 ts' ns' l3 hf2;obtain⟨h4,h5⟩:=hf t l1 l2 hf1;refine⟨fun u hu=> ?_,by omega,by simp[h3]⟩;rcases List.mem_cons.1 hu with rfl|hu
     ·exact h4
     ·exact h1 u hu
theorem uI {l:List VT}{d:Nat}(h: ∀t∈l,av t≤d):bz l≤d:=by
 induction l with
 |nil=>unfold bz;omega
 |cons a r ih=>
  unfold bz;have h1:=h a (List.mem_cons_self ..);have h2:=ih fun t ht=>h t (List.mem_cons_of_mem _ ht);omega
theorem xI {l:List VT}(h: ∀t∈l,pW t):vn l:=by
 induction l with
 |nil=>unfold vn;trivial
 |cons a r ih=>unfold vn;exact⟨h a (List.mem_cons_self ..),ih fun t ht=>h t (List.mem_cons_of_mem _ ht)⟩
theorem uB {k:Nat}(h:k<256):Rng (k:Int):=by unfold Rng;omega
theorem i6 : ∀(d:Nat) (t:VT) (l r:List UInt8),rdW d l=some (t,r)→(av t≤d∧pW t)∧r.length≤l.length
 |0,t,l,r,h=>by cases h
 |d+1,t,l,r,h=>by
  unfold rdW at h;obtain⟨⟨k,st⟩,hp⟩: ∃p,p=ak (some l):=⟨_,rfl⟩;rw[←hp]at h
  cases st with
  |none=>cases h
  |some r1=>
   obtain⟨hl,hk⟩:=eA hp.symm;have hlen:r1.length≤l.length:=by rw[hl];simp
   have leaf: ∀(k i:Int) (s:ByteArray),Rng i→av (.mk k i s [] [])≤d+1∧pW (.mk k i s [] []):=fun k i s hi=>⟨by rw[bu];unfold bz;omega,by unfold pW;exact⟨hi,by unfold vn;trivial⟩⟩;simp only at h;by_cases h2:k=2
   ·rw[if_pos h2]at h;obtain⟨⟨i,st⟩,hp⟩: ∃p,p=ak (some r1):=⟨_,rfl⟩;rw[←hp]at h
    cases st with
    |none=>cases h
    |some r2=>
     obtain⟨hl2,hi⟩:=eA hp.symm;simp only[Option.some.injEq,Prod.mk.injEq]at h;obtain⟨rfl,rfl⟩:=h;exact⟨leaf _ _ _ (uB hi),by rw[hl2]at hlen;simp at hlen;omega⟩
   rw[if_neg h2]at h;by_cases h3:k=3
   ·rw[if_pos h3]at h;obtain⟨⟨i,st⟩,hp⟩: ∃p,p=ef (some r1):=⟨_,rfl⟩;rw[←hp]at h
    cases st with
    |none=>cases h
    |some r2=>
     obtain⟨hl2,hi⟩:=oc hp.symm;simp only[Option.some.injEq,Prod.mk.injEq]at h;obtain⟨rfl,rfl⟩:=h;exact⟨leaf _ _ _ hi,by rw[hl2]at hlen;simp at hlen;omega⟩
   rw[if_neg h3]at h;by_cases h45:k=4∨k=5
   ·rw[if_pos h45]at h;obtain⟨⟨x,st⟩,hp⟩: ∃p,p=am 4096 (some r1):=⟨_,rfl⟩;rw[←hp]at h
    cases st with
    |none=>cases h
    |some r2=>
     obtain⟨hl2,-⟩:=eB (m:=4096) (by decide) hp.symm;simp only[Option.some.injEq,Prod.mk.injEq]at h;obtain⟨rfl,rfl⟩:=h;exact⟨leaf _ _ _ (by unfold Rng;omega),by rw[hl2]at hlen;simp at hlen;omega⟩
   rw[if_neg h45]at h;by_cases h67:k=6∨k=7
   ·rw[if_pos h67]at h;obtain⟨⟨n,st⟩,hp⟩: ∃p,p=ae 4096 (some r1):=⟨_,rfl⟩;rw[←hp]at h
    cases st with
    |none=>cases h
    |some r2=>
     obtain⟨hl2,-⟩:=dx (m:=4096) (by decide) hp.symm;simp only at h
     cases hi:bB (rdW d) (decide (k=7)) n r2 with
     |none=>rw[hi]at h;cases h
     |some y=>
      obtain⟨ts,ns,r3⟩:=y;rw[hi]at h;simp only[Option.some.injEq,Prod.mk.injEq]at h;obtain⟨rfl,rfl⟩:=h;obtain⟨h1,h2,-⟩:=iq (P:=fun t=>av t≤d∧pW t) (decide (k=7)) (fun t l r=>i6 d t l r) n r2 ts ns r3 hi;refine⟨⟨by rw[bu];have:=uI (d:=d) fun t ht=>(h1 t ht).1;omega,by unfold pW;exact⟨by unfold Rng;omega,xI fun t ht=>(h1 t ht).2⟩⟩,?_⟩;rw[hl2]at hlen;simp at hlen;omega
   ·rw[if_neg h67]at h;simp only[Option.some.injEq,Prod.mk.injEq]at h;obtain⟨rfl,rfl⟩:=h;exact⟨leaf _ _ _ (by unfold Rng;omega),hlen⟩
def gw (l:List UInt8):Option (VT×List UInt8):=match rdW 8 l with
 |some (t,r)=>if bh t=0 then some (t,r)else none
 |none=>none
theorem nf {d:Nat}{t:VT}{l r:List UInt8}(h:rdW d l=some (t,r))(hm:bE t=true):bt t+r.length=l.length:=by
 have h1:=ph d t l r h hm;rw[←h1,List.length_append,kH t hm]
theorem jT {l r:List UInt8}{t:VT}(h:gw l=some (t,r))(hl:l.length≤9223372036854775807):yQ t∧pW t∧l=fe t++r∧rdW 8 l=some (t,r)∧bh t=0:=by
 unfold gw at h
 cases hr:rdW 8 l with
 |none=>rw[hr]at h;cases h
 |some y=>
  obtain⟨u,r'⟩:=y;rw[hr]at h;simp only at h
  split at h
  ·next hc=>
   simp only[Option.some.injEq,Prod.mk.injEq]at h;obtain⟨rfl,rfl⟩:=h
   have hm:bE u=true:=by
    unfold bh at hc
    cases hmm:bE u with
    |true=>rfl
    |false=>rw[hmm]at hc;simp at hc
   have hsz:=nf hr hm;obtain⟨h1,h2,h3⟩:=(iF (t:=u) (by omega)).1 hc;exact⟨⟨h1,h2,h3⟩,(i6 8 u l r' hr).1.2,(ph 8 u l r' hr hm).symm,rfl,hc⟩
  ·cases h
open Lib (hid)
theorem Rd.conv {w:World}{B n cap:Nat}{A:Option Addr}{l:List UInt8}(h:Rd w B (.slice A l.length cap) l)(hn:n≤l.length)(c:Nat):
  (convert 23 9 (.slice A n c)).run Tryz.prog w= .ok (.string ⟨(l.take n).toArray⟩) w:=by
 obtain⟨A',cap',hv,_,_,h1⟩:=h;injection hv with hA _ _
 subst hA;rcases Nat.eq_zero_or_pos n with rfl|hp
 ·rcases A with _|a
  ·rw[run_convert_bytes_nil w 23 5 Tryz.underlying23 Tryz.underlying5 0 c 9 Tryz.underlying9];rfl
  ·exact run_convert_bytes_back w 23 9 5 a c [] Tryz.underlying23 Tryz.underlying5 Tryz.underlying9 (fun j hj=>absurd hj (by simp))
 ·obtain⟨b,off,rfl,_,hcell⟩:=h1 (by omega);rw[run_convert_bytes_arg w 23 5 Tryz.underlying23 Tryz.underlying5 b off n c ((l.take n).map fun b=>(b.toNat:Int)) (by simp;omega) ?_ 9 Tryz.underlying9,lI];intro i hi;rw[hcell i (by omega)];have hi2:i<l.length:=by omega
  simp[List.getElem?_map,List.getElem?_eq_getElem hi2,List.getD,List.getElem?_take,hi]
theorem Rd.cutAny {w:World}{B cap k:Nat}{A:Option Addr}{l:List UInt8}(h:Rd w B (.slice A l.length cap) l)(hk:k≤l.length):
  Rd w B (.slice (if cap=k then A else A.map (·.add k)) (l.length - k) (cap - k)) (l.drop k):=by
 obtain⟨A',cap',hv,hc,hm,h1⟩:=h;injection hv with hA _ hcap
 subst hA;subst hcap;refine⟨_,_,by rw[List.length_drop],by rw[List.length_drop];omega,⟨by omega,fun h=> ?_⟩,fun hl=> ?_⟩
 ·split at h
  ·omega
  ·rcases A with _|a
   ·have:=hm.2 rfl;omega
   ·cases h
 ·rw[List.length_drop]at hl;obtain⟨b,off,rfl,hB,hcell⟩:=h1 (by omega);rw[if_neg (by omega)];refine⟨b,off+k,by simp only[Option.map_some,Addr.add];split<;>simp_all,hB,fun i hi=> ?_⟩;rw[List.length_drop]at hi;have:=hcell (k+i) (by omega);rw[List.getElem_drop,Nat.add_assoc];exact this
set_option maxRecDepth 1000000 in
theorem cF (g B:Nat)(n:Int)(st:Option (List UInt8))(w:World)(h:RS w g B st)(hg:B≤g)(hn:n≤9223372036854775807):
  Calls Tryz.prog 39 #[.pointer (some ⟨g,0,none⟩),.int .i64 n] w fun e w'=>e= .returned (.string ⟨(am n st).1.toArray⟩)∧RS w' g B (am n st).2∧au w w' g:=by
 have H:=hid h
 obtain⟨A0,n0,c0,b0,hv⟩: ∃A n c b,w.heap[g]? =some (.cells #[.slice A n c,.bool b] 69 (0,0)):=by
  rcases st with _|l
  ·obtain⟨A,n,c,hu⟩:=h;exact⟨_,_,_,_,hu⟩
  ·obtain⟨v,hv,A,c,rfl,_⟩:=h;exact⟨_,_,_,_,hv⟩
 obtain⟨k0,k1,e0,e1⟩:=ej hv;obtain⟨m,st',hr⟩: ∃m st',ae n st=(m,st'):=⟨_,_,rfl⟩;have HN:=hid hn;have HR:=hid hr
 have hm0:st'=none→m=0:=fun h0=>by
  have h1:(ae n st).2=none:=by rw[hr];exact h0
  have h2:(ae n st).1=0:=by
   unfold ae at h1 ⊢
   split at h1
   ·next hc=>rw[if_pos hc]
   ·next hc=>rw[if_neg hc];exact mh _ _ h1
  rw[hr]at h2;exact h2
 clear hv h hn;rcases st' with _|r
 ·have hm:=hm0 rfl;subst hm;have HT:Hid (am n st=([],none)):=by show am n st=([],none);unfold am;rw[hr,if_pos rfl]
  clear hr hm0;go_enter Tryz.func39,Tryz.ntmps39;go_wp2_with fail;refine(aS g B n st _ H.out hg HN.out).mono ?_;rw[HR.out];rintro e w1 ⟨rfl,⟨Au,nu,cu,hu⟩,ho⟩;obtain⟨d0,d1,f0,f1⟩:=ej hu;have HU:=hid hu;clear hu k0 k1 e0 e1;go_wp2_with fail;go_ret;rw[HT.out];exact⟨rfl,⟨_,_,_,fF (fE HU.out)⟩,(ho.set _ _).set _ _⟩
 ·by_cases hl:r.length<m
  ·have HT:Hid (am n st=([],none)):=by
    show am n st=([],none);unfold am;rw[hr,if_neg (by omega)];show(if r.length<m then _ else _)=_;rw[if_pos hl]
   clear hr hm0;go_enter Tryz.func39,Tryz.ntmps39;go_wp2_with fail;refine(aS g B n st _ H.out hg HN.out).mono ?_;rw[HR.out];rintro e w1 ⟨rfl,⟨v,hu,A,cap,rfl,_⟩,ho⟩;obtain⟨d0,d1,f0,f1⟩:=ej hu;have HU:=hid hu;clear hu k0 k1 e0 e1;go_wp2_with fail;go_ret;rw[HT.out];exact⟨rfl,⟨_,_,_,fF (fE HU.out)⟩,(ho.set _ _).set _ _⟩
  ·have HT:Hid (am n st=(r.take m,some (r.drop m))):=by
    show am n st=(r.take m,some (r.drop m));unfold am;rw[hr];by_cases h0:m=0
    ·subst h0;rw[if_pos rfl];simp
    ·rw[if_neg h0];show(if r.length<m then _ else _)=_;rw[if_neg hl]
   have hml:m≤r.length:=by omega
   clear hr hm0;go_enter Tryz.func39,Tryz.ntmps39;go_wp2_with fail;refine(aS g B n st _ H.out hg HN.out).mono ?_;rw[HR.out];rintro e w1 ⟨rfl,⟨v,hu,hrd⟩,ho⟩;obtain⟨d0,d1,f0,f1⟩:=ej hu;have HRD:=hid hrd;have HU:=hid hu;obtain⟨A,cap,rfl,hcap,hmax,_⟩:=hrd;have hmax1:=hmax.1;have hcv:=HRD.out.conv hml;have HCut:=hid (HRD.out.cutAny hml);clear hu k0 k1 e0 e1 hmax;by_cases hck:cap=m
   ·subst hck;have HLL:Hid (r.length - cap=0):=by show r.length - cap=0;omega
    go_wp2_with fail;go_ret;rw[HT.out];exact⟨rfl,⟨_,fE HU.out,(by have h1:=HLL.out;simpa[h1]using HCut.out:Rd w1 B _ (r.drop cap)).keep ((Below.refl _ _).setCell hg _)⟩,ho.set _ _⟩
   ·go_wp2_with fail;go_ret;rw[HT.out];exact⟨rfl,⟨_,fE HU.out,(by simpa[hck]using HCut.out:Rd w1 B _ (r.drop m)).keep ((Below.refl _ _).setCell hg _)⟩,ho.set _ _⟩
theorem tG (b off i:Nat):((⟨b,off,none⟩:Addr).add i)=⟨b,off+i,none⟩:=by
 unfold Addr.add
 split
 ·next h=>simp[h]
 ·rfl
abbrev K8 (w w':World):Prop:=Lib.OthersKept 5 Option.none w w'
theorem aA.kind {w:World}{B:Nat}{v:Value}{l:List UInt8}(h:aA w B v l): ∀g,v.ownBlock=some g→ ∃c fz,w.heap[g]? =some (.cells c 5 fz):=by
 intro g hg;rcases h.2 with ⟨rfl,-⟩|⟨g',cap,cur,rfl,-,hh,-⟩
 ·cases hg
 ·obtain rfl:g'=g:=by simpa[Value.ownBlock]using hg
  exact⟨cur,_,hh⟩
theorem aA.rd {w:World}{B:Nat}{v:Value}{l:List UInt8}(h:aA w B v l):Rd w w.heap.size v l:=by
 have hc:=fun g hg=>World.ownsRow.cells (g:=g) h hg;have hlt:=World.ownsRow.lt h;rcases h.2 with ⟨rfl,h0⟩|⟨g,cap,cur,rfl,hB,hh,hcap,hm,-⟩
 ·have hl:l= []:=List.eq_nil_of_length_eq_zero h0;subst hl;exact⟨none,0,rfl,Nat.le_refl _,⟨by omega,fun _=>rfl⟩,fun h=>absurd h (by simp)⟩
 ·refine⟨some ⟨g,0,none⟩,cap,rfl,hcap,⟨by unfold maxLen at hm;omega,fun h=>by cases h⟩,fun hp=>⟨g,0,rfl,(hlt g rfl).2,fun i hi=> ?_⟩⟩;have h1:=hc g rfl i (.int .u8 (l[i].toNat:Int)) (by simp[aJ,hi]);rw[tG]at h1;exact h1
theorem Rd.one {w:World}(b:UInt8){x:Int}(hx:x=(b.toNat:Int)):Rd (w.alloc (.cells #[.int .u8 x] 5)) (w.heap.size+1) (.slice (some ⟨w.heap.size,0,none⟩) 1 1) [b]:=by
 subst hx;refine⟨some ⟨w.heap.size,0,none⟩,1,rfl,Nat.le_refl _,⟨by omega,fun h=>by cases h⟩,fun _=>⟨w.heap.size,0,rfl,by omega,fun i hi=> ?_⟩⟩;obtain rfl:i=0:=by simpa using hi
 exact Go.Joins.cell_of_block (heap_alloc_new w _) 0
theorem Rd.one' {w:World}{g:Nat}(hg:g=w.heap.size)(b:UInt8){x:Int}(hx:x=(b.toNat:Int)):Rd (w.alloc (.cells #[.int .u8 x] 5)) (w.heap.size+1) (.slice (some ⟨g,0,none⟩) 1 1) [b]:=by
 subst hg;exact Rd.one b hx
theorem ar {w:World}{ops:Array Oper}{rest:List Oper}{o:Oper}{a:Act}{Q:Exit→Act→World→Prop}(hgd:o.guard=none)(s x:Operand)
  (ho:o.op= .call { callee:= .builtin .append,args:= #[s,x],argTypes:= #[23,23] }) (B:Nat) (v:Value) (l:List UInt8) (hs:a.eval s=v) (hown:aA w B v l)
  (D:Nat) (vx:Value) (m:List UInt8) (hx:a.eval x=vx) (hrd:Rd w D vx m) (hB:B≤w.heap.size) (hl:l.length+m.length≤140737488355328)
  (K: ∀v' w',aA w' B v' (l++m)→w.grownBy w' v.ownBlock→wpList Tryz.prog ops Q rest (a.put o.dst v') w'):wpList Tryz.prog ops Q (o::rest) a w:=by
 obtain⟨i0,hi,hz0,hz1,hz2⟩:=info_parts Tryz.infoU8;obtain⟨A,cap,rfl,hcap,⟨hc2,hA⟩,hc⟩:=hrd
 cases A with
 |none=>
  have hm:m= []:=by
   match m,hc with
   | [],_=>rfl
   |b::r,hc=>obtain⟨_,_,h,_⟩:=hc (by simp);cases h
  subst hm;obtain rfl:=hA rfl;refine wpList_append_own_none hgd s x 23 ho B 5 i0 1 Tryz.underlying23 hi v l.length (aJ l) hs hown hx ?_
  exact K v w (by rw[List.append_nil];exact hown) ⟨rfl,rfl,rfl,Nat.le_refl _,fun _ _ _=>rfl⟩
 |some ad=>
  refine wpList_append_own _ hgd s x 23 ho B 5 i0 (.int .u8 0) 1 1 Tryz.underlying23 hi hz0 hz1 hz2 rfl (by decide) v l.length (aJ l) hs hown ad m.length cap (aJ m) hx (by simp[aJ]) ?_ (gC m) (by unfold maxLen;omega) (by omega) hB ?_
  ·intro j u hj;have hjl:j<m.length:=by have:=(List.getElem?_eq_some_iff.1 hj).1;simpa[aJ]using this
   obtain⟨b,off,hAd,-,hcell⟩:=hc (by omega);injection hAd with hAd
   subst hAd;rw[tG,hcell j hjl];simpa[aJ,List.getElem?_map,List.getElem?_eq_getElem hjl]using hj
  ·intro v' w' h1 h2 _;exact K v' w' (by unfold aA;rw[List.length_append,eu];exact h1) h2
def iX (B:Nat)(l:List UInt8)(w:World)(e:Ending)(w':World):Prop:= ∃v',e= .returned v'∧aA w' B v' l∧Below B w w'∧K8 w w'
theorem aI {w w':World}(h:Below w.heap.size w w'):K8 w w':=fun k o hk _ _=>(h.block k (Array.getElem?_eq_some_iff.1 hk).1).trans hk
theorem aH {w w':World}{B:Nat}{v:Value}{l:List UInt8}(h:aA w B v l)(hg:w.grownBy w' v.ownBlock):K8 w w':=(Lib.OthersKept.refl _ _ _).grown hg h.kind
theorem aF {a w w':World}{B:Nat}{v:Value}{l:List UInt8}(hb:Below B a w)(h:aA w B v l)(hB:B≤w.heap.size)(hg:w.grownBy w' v.ownBlock):Below B a w':=hb.grown hg hB (fun k hk=>(World.ownsRow.lt h k hk).1)
theorem Box.k8 {w w':World}{g:Nat}{a b c d e:Value}(h:Box w g a b c d e)(hk:K8 w w'):Box w' g a b c d e:=hk g _ h (fun h=>by cases h) (fun c fz h=>by injection h with _ h;exact absurd h (by decide))
def hU (t:VT):Prop:= ∀(S:Nat→Prop) (v bv:Value) (B:Nat) (l:List UInt8) (w:World),(∀x,S x→x<B)→B≤w.heap.size→LV w S t v→aA w B bv l→l.length+(fe t).length≤140737488355328→
 Calls Tryz.prog 160 #[bv,v] w (iX B (l++fe t) w)
theorem qH {w u:World}{B:Nat}{S:Nat→Prop}{A:Option Addr}{l:List VT}(hS: ∀b,S b→b<B)(h:LVA w S A l)(hb:Below B w u)(j:Nat)(hj:j<l.length):
  ∃p o A2 e2 A3 e3,A=some ⟨p,o,none⟩∧u.cell? ⟨p,o+j * 5,none⟩=some (.int .i64 l[j].kind)∧u.cell? ⟨p,o+j * 5+1,none⟩=some (.int .i64 l[j].num)∧u.cell? ⟨p,o+j * 5+2,none⟩=some (.string l[j].text)∧
   u.cell? ⟨p,o+j * 5+3,none⟩=some (.slice A2 l[j].items.length e2)∧u.cell? ⟨p,o+j * 5+4,none⟩=some (.slice A3 l[j].names.length e3)∧
   LV u S l[j] (.agg #[.int .i64 l[j].kind,.int .i64 l[j].num,.string l[j].text,.slice A2 l[j].items.length e2,.slice A3 l[j].names.length e3]):=by
 obtain⟨p,o,hA,hp,hv⟩:=h (by omega);obtain⟨c0,c1,c2,c3,c4,h0,h1,h2,h3,h4,hx⟩:=hv.at j hj;obtain⟨A2,e2,A3,e3,hag,-⟩:=hx.shape;injection hag with hag;injection hag with hag
 injection hag with y0 hag;injection hag with y1 hag;injection hag with y2 hag;injection hag with y3 hag;injection hag with y4 hag
 subst y0 y1 y2 y3 y4;have hk: ∀o,u.cell? ⟨p,o,none⟩=w.cell? ⟨p,o,none⟩:=fun o=>hb.cell (p:=⟨p,o,none⟩) (hS p hp);exact⟨p,o,A2,e2,A3,e3,hA,(hk _).trans h0,(hk _).trans h1,(hk _).trans h2,(hk _).trans h3,(hk _).trans h4,hx.keep fun b hb'=>hb.block b (hS b hb')⟩
theorem wh {w u:World}{B:Nat}{S:Nat→Prop}{A:Option Addr}{ns:List ByteArray}(hS: ∀b,S b→b<B)(h:aD w S A ns)(hb:Below B w u)(j:Nat)(hj:j<ns.length):
  ∃p o,A=some ⟨p,o,none⟩∧p<B∧u.cell? ⟨p,o+j,none⟩=some (.string ns[j])∧ns[j].size≤140737488351232:=by
 obtain⟨p,o,hA,hp,hc⟩:=h (by omega);exact⟨p,o,hA,hS p hp,(hb.cell (p:=⟨p,o+j,none⟩) (hS p hp)).trans (hc j hj).1,(hc j hj).2⟩
theorem vo (num:Int)(txs:ByteArray)(its:List VT)(nms:List ByteArray)(ih: ∀x∈its,hU x)(S:Nat→Prop)(v bv:Value)(B:Nat)(l:List UInt8)(w:World)(hS: ∀x,S x→x<B)(hB:B≤w.heap.size)(h:LV w S (.mk 6 num txs its nms) v)(hown:aA w B bv l)
  (hlen:l.length+(grp its.length++ff false nms its).length≤140737488355328):
  Calls Tryz.prog 181 #[bv,v] w (iX B (l++(grp its.length++ff false nms its)) w):=by
 obtain⟨A,c,A',c',rfl,-,-,-,hl1,-,hN,hA⟩:=h.shape;simp only[VT.kind,VT.num,VT.text,VT.items,VT.names]at *;have HX:=hid (Box.new (w:=w) (.int .i64 6) (.int .i64 num) (.string txs) (.slice A its.length c) (.slice A' nms.length c'));have HB0:=hid (af (w:=w) (.cells #[.int .i64 6,.int .i64 num,.string txs,.slice A its.length c,.slice A' nms.length c'] 43));have HO:=hid (aA.below hown HB0.out);have HA:=hid hA;have HLEN:=hid hlen;obtain⟨full,hfull⟩: ∃full,full=grp its.length++ff false nms its:=⟨_,rfl⟩;have HF:=hid hfull;rw[←hfull]at HLEN ⊢;clear h hA hown hlen hfull;go_enter Tryz.func181,Tryz.ntmps181;have k3:=HX.out.c3;go_wp2_with fail;refine(ji its.length _ (by omega)).mono ?_;rintro e w1 (⟨_,_,x,rfl,hx,hb⟩|⟨h,_⟩);rotate_left
 ·omega
 rw[Int.toNat_natCast]at hx;have HR:=hid hx.rd;have hb1:=aE HB0.out hb;have HB1:=hid (hb1.mono hB);have HK1:=hid (aI hb1);have HO1:=hid (HO.out.below hb);have HX1:=hid (HX.out.call hb);have hz1:=Nat.le_trans hB hb1.size;have hg:=ay its.length;have hgl:l.length+(grp its.length).length≤140737488355328:=by have h1:=HLEN.out;rw[HF.out,List.length_append]at h1;omega
 clear hb hb1 hx k3 HB0 HO HX;go_wp2_with(at_builtin;go_must (refine ar rfl _ _ rfl B _ l rfl HO1.out w1.heap.size x (grp its.length) rfl HR.out hz1 hgl ?_));intro v2 w2 hv2 hg2;have HB2:=hid (aF HB1.out HO1.out hz1 hg2);have HK2:=hid (HK1.out.trans (aH HO1.out hg2));have HX2:=hid (HX1.out.k8 (aH HO1.out hg2));have HO2:=hid hv2;have k3:=HX2.out.c3;clear hg2 hv2 HB1 HK1 HX1 HO1 HR;go_wp2_with fail
 go_loopw [0,22] (fun b i wr=> ∃(j:Nat) (X:List UInt8),i= .int .i64 j∧j≤its.length∧Hid (aA wr B b (l++X))∧Hid (X++ff false (nms.drop j) (its.drop j)=full)∧Hid (Below B w wr)∧Hid (K8 w wr)∧Hid (Box wr w.heap.size (.int .i64 6) (.int .i64 num) (.string txs) (.slice A its.length c) (.slice A' nms.length c'))) (fun _ i _=>its.length - (intOf i).toNat)
 case atStart=>exact⟨0,grp its.length,rfl,Nat.zero_le _,HO2,HF.out.symm,HB2,HK2,HX2⟩
 case round=>
  obtain⟨j,X,rfl,hj,HO,HE,HB,HK,HX⟩:=hrel;clear HX2 HK2 HB2 HO2 k3;by_cases hlt:j<its.length
  ·obtain⟨p,o,A2,e2,A3,e3,rfl,h0,h1,h2,h3,h4,hx⟩:=qH hS HA.out HB.out j hlt;have k0:wr.cell? ⟨w.heap.size,0,none⟩=some (.int .i64 6):=HX.out.c0;have hwl:w.heap.size<wr.heap.size:=HX.out.lt;have HV:=hid hx;clear hx;go_wp2_with fail;have hbx:=af (w:=wr) (.cells #[.int .i64 its[j].kind,.int .i64 its[j].num,.string its[j].text,.slice A2 its[j].items.length e2,.slice A3 its[j].names.length e3] 43);have hBz:B≤wr.heap.size:=Nat.le_trans hB HB.out.size
   have HE2:Hid (X++fe its[j]++ff false (nms.drop (j+1)) (its.drop (j+1))=full):=hid (by
    have h1:=HE.out;rw[nT false hlt (fun h=>by cases h)]at h1
    simpa using h1)
   have HLE:Hid ((l++X).length+(fe its[j]).length≤140737488355328):=hid (by
    have h1:=HLEN.out;rw[←HE2.out]at h1
    simp only[List.length_append]at h1 ⊢;omega)
   have HC:=hid (ih its[j] (List.getElem_mem hlt) S _ _ B (l++X) _ hS (Nat.le_trans hBz hbx.size) (HV.out.keep fun b hb=>(hbx.mono hBz).block b (hS b hb)) (aA.below HO.out hbx) HLE.out);have HBx:=hid (HB.out.trans (hbx.mono hBz));have HKx:=hid (HK.out.trans (aI hbx));have HXx:=hid (HX.out.call hbx);clear hbx h0 h1 h2 h3 h4 k0;refine HC.out.mono ?_;rintro e w3 ⟨v3,rfl,hv3,hb3,hk3⟩;have HO3:Hid (aA w3 B v3 (l++(X++fe its[j]))):=hid (by rw[←List.append_assoc];exact hv3);have HB3:=hid (HBx.out.trans hb3);have HK3:=hid (HKx.out.trans hk3);have HX3:=hid (HXx.out.k8 hk3);clear hv3 hb3 hk3 HC HE HO HB HK HX;go_wp2_with fail
   go_roundw
   case rel=>exact⟨j+1,X++fe its[j],by go_num,by omega,HO3,HE2,HB3,HK3,HX3⟩
   case measure=>simp[intOf];omega
  ·obtain rfl:j=its.length:=by omega
   go_wp2_with fail;go_ret;exact⟨_,rfl,by have h1:=HE.out;rw[List.drop_of_length_le (Nat.le_refl _),cj,List.append_nil]at h1;rw[←h1];exact HO.out,HB.out,HK.out⟩
end Go.Proofs.YtgfidiocmiolpaaGreat
