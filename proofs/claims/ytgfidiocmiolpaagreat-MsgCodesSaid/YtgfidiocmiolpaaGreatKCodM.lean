/- The code of a value, and the value that bytes begin with. No conditions on the program. -/
import Derived.Test.YtgfidiocmiolpaaGreatKValM
import Derived.Test.YtgfidiocmiolpaaGreatKRefM
import Derived.Test.YtgfidiocmiolpaaGreatKLook
import Derived.Lib.OthersKept
import Derived.Laws.AppendOwnNone
import Derived.Outline
set_option maxHeartbeats 64000000
set_option maxRecDepth 100000
set_option linter.unusedVariables false
set_option linter.unusedSimpArgs false
namespace Go.Proofs.YtgfidiocmiolpaaGreat
open Go.RowKit
def eS :ByteArray:=⟨#[]⟩
mutual
def bX :VT→List UInt8
 | .mk k i s l ns=>UInt8.ofNat k.toNat::((if k=2 then [UInt8.ofNat i.toNat]else if k=3 then grp (zig i)else if k=4∨k=5 then txt s else if k=6∨k=7 then grp l.length else [])++ct (decide (k=7)) ns l)
def ct :Bool→List ByteArray→List VT→List UInt8
 |_,_,[]=>[]
 |d,ns,t::r=>(if d then txt (ns.headD eS)else [])++bX t++ct d ns.tail r
end
def cS (k i:Int)(s:ByteArray)(n:Nat):List UInt8:=UInt8.ofNat k.toNat::(if k=2 then [UInt8.ofNat i.toNat]else if k=3 then grp (zig i)else if k=4∨k=5 then txt s else if k=6∨k=7 then grp n else [])
theorem bs (t:VT):bX t=cS t.kind t.num t.text t.items.length++ct (decide (t.kind=7)) t.names t.items:=by
 cases t;unfold bX cS;rfl
theorem jw (d:Bool){ns:List ByteArray}{l:List VT}{j:Nat}(h:j<l.length)(hn:d=true→j<ns.length):
  ct d (ns.drop j) (l.drop j)=(if d then txt (ns.getD j eS)else [])++bX l[j]++ct d (ns.drop (j+1)) (l.drop (j+1)):=by
 rw[List.drop_eq_getElem_cons h];conv=>lhs;unfold ct
 rw[List.tail_drop];cases d
 ·rfl
 ·have hj:=hn rfl;have e:(ns.drop j).headD eS=ns.getD j eS:=by rw[List.drop_eq_getElem_cons hj];simp[hj]
  rw[e]
theorem aQ (d:Bool)(ns:List ByteArray):ct d ns []= []:=by unfold ct;rfl
/-! ### what bytes begin with -/
def bg (f:List UInt8→Option (VT×List UInt8))(d:Bool):Nat→List UInt8→Option (List VT×List ByteArray×List UInt8)
 |0,l=>some ([],[],l)
 |n+1,l=>
  match(if d then ar 32 (some l)else([],some l))with
  |(_,none)=>none
  |(nm,some l1)=>
   match f l1 with
   |none=>none
   |some (t,l2)=>
    match bg f d n l2 with
    |none=>none
    |some (ts,ns,l3)=>some (t::ts,(if d then iz nm::ns else ns),l3)
def rdW :Nat→List UInt8→Option (VT×List UInt8)
 |0,_=>none
 |d+1,l=>
  match al (some l)with
  |(_,none)=>none
  |(k,some r)=>
   if k=2 then(match al (some r)with|(i,some r')=>some (.mk 2 i eS [] [],r')|(_,none)=>none)
   else if k=3 then(match fp (some r)with|(i,some r')=>some (.mk 3 i eS [] [],r')|(_,none)=>none)
   else if k=4∨k=5 then(match ar 4096 (some r)with|(x,some r')=>some (.mk k 0 (iz x) [] [],r')|(_,none)=>none)
   else if k=6∨k=7 then
    (match ah 4096 (some r)with
    |(_,none)=>none
    |(n,some r')=>match bg (rdW d) (decide (k=7)) n r' with
     |none=>none
     |some (ts,ns,r'')=>some (.mk k 0 eS ts ns,r''))
   else some (.mk k 0 eS [] [],r)
/-! ### numbers read are numbers put -/
theorem rJ : ∀(l:List UInt8) (i acc:Nat),(cF i acc l).2≠0→i≤9∧ ∃n m,0<m∧m≤l.length∧cF i acc l=(acc+n * 128 ^ i,i+m)∧l.take m=gk (9 - i) n∧n<2 * 128 ^ (9 - i)∧(0<i→0<n)
 | [],i,acc,h=>absurd (by simp[cF]) h
 |b::r,i,acc,h=>by
  have hb:=UInt8.toNat_lt b;unfold cF at h ⊢;by_cases h10:10≤i
  ·rw[if_pos h10]at h;exact absurd rfl h
  rw[if_neg h10]at h ⊢;by_cases h9:i=9∧1<b.toNat
  ·rw[if_pos h9]at h;exact absurd rfl h
  rw[if_neg h9]at h ⊢;by_cases hs:b.toNat<128
  ·rw[if_pos hs]at h ⊢;by_cases hz:b.toNat=0∧0<i
   ·rw[if_pos hz]at h;exact absurd rfl h
   rw[if_neg hz];refine⟨by omega,b.toNat,1,by omega,by simp,rfl,?_,?_,fun hi=>by omega⟩
   ·have e:UInt8.ofNat b.toNat=b:=by simp
    cases hf:9 - i with
    |zero=>simp[gk,e]
    |succ f=>rw[gk,if_pos hs,e];simp
   ·by_cases hi:i=9
    ·subst hi;have:b.toNat≤1:=by omega
     simp;omega
    ·have:(128:Nat) ^ 1≤128 ^ (9 - i):=Nat.pow_le_pow_right (by omega) (by omega);omega
  ·rw[if_neg hs]at h ⊢;obtain⟨hi,n,m,hm0,hm,he,ht,hn,hp⟩:=rJ r (i+1) _ h;have hn0:=hp (by omega);refine⟨by omega,b.toNat - 128+128 * n,m+1,by omega,by simp;omega,?_,?_,?_,fun _=>by omega⟩
   ·rw[he,Prod.mk.injEq];refine⟨?_,by omega⟩;have e3:(128:Nat) ^ (i+1)=128 * 128 ^ i:=by rw[Nat.pow_succ];omega
    rw[e3,Nat.add_mul,←Nat.mul_assoc,Nat.add_assoc,Nat.mul_comm 128 n]
   ·obtain⟨f,hf⟩: ∃f,9 - i=f+1:=⟨8 - i,by omega⟩;have hf2:9 - (i+1)=f:=by omega
    rw[hf2]at ht;rw[hf,gk,if_neg (by omega),List.take_succ_cons,ht]
    congr 1
    ·have:(b.toNat - 128+128 * n) % 128+128=b.toNat:=by omega
     rw[this];simp
    ·congr 1;omega
   ·obtain⟨f,hf⟩: ∃f,9 - i=f+1:=⟨8 - i,by omega⟩;have hf2:9 - (i+1)=f:=by omega
    rw[hf2]at hn;rw[hf,Nat.pow_succ];omega
theorem ue {most:Nat}{l r:List UInt8}{n:Nat}(h:rdN most (some l)=(n,some r)):l=grp n++r∧n≤most∧n<18446744073709551616:=by
 simp only[rdN]at h
 split at h
 ·cases h
 ·next hc=>
  obtain⟨-,x,m,hm0,hm,he,ht,hx,-⟩:=rJ l 0 0 (fun h0=>hc (.inl h0));rw[he]at h hc;simp only[Nat.pow_zero,Nat.mul_one,Nat.zero_add]at h hc ht hx;injection h with h1 h2
  injection h2 with h2
  subst h1;have e9:(128:Nat) ^ 9=9223372036854775808:=by decide
  have hlt:x<18446744073709551616:=by simp at hx;omega
  refine⟨?_,by omega,hlt⟩;rw[tT x hlt,←ht,←h2,List.take_append_drop]
theorem eh {l r:List UInt8}{k:Nat}(h:al (some l)=(k,some r)):l=UInt8.ofNat k::r∧k<256:=by
 match l with
 | []=>cases h
 |b::r'=>
  simp only[al]at h;injection h with h1 h2
  injection h2 with h2
  subst h1 h2;exact⟨by simp,UInt8.toNat_lt b⟩
theorem zn (n:Nat):zig (zag n)=n:=by unfold zig zag;split<;>split<;>omega
theorem tM (n:Nat)(h:n<18446744073709551616): -9223372036854775808≤zag n∧zag n≤9223372036854775807:=by unfold zag;split<;>omega
theorem nX {l r:List UInt8}{x:Int}(h:fp (some l)=(x,some r)):l=grp (zig x)++r∧ -9223372036854775808≤x∧x≤9223372036854775807:=by
 unfold fp at h;injection h with h1 h2
 obtain⟨n,hn⟩: ∃n,n=(rdN 18446744073709551615 (some l)).1:=⟨_,rfl⟩;obtain⟨e,-,hl⟩:=ue (n:=n) (r:=r) (l:=l) (most:=18446744073709551615) (by rw[hn,←h2]);rw[←hn]at h1;subst h1;exact⟨by rw[zn];exact e,tM n hl⟩
theorem dP {m:Nat}{l r:List UInt8}{n:Nat}(hm:m≤4611686018427387904)(h:ah (m:Int) (some l)=(n,some r)):l=grp n++r∧n≤m:=by
 unfold ah at h;rw[if_neg (by omega)]at h;have e:mc (m:Int)=m:=by unfold mc;rw[if_pos (by omega)];omega
 rw[e]at h;obtain⟨h1,h2,-⟩:=ue h;exact⟨h1,h2⟩
theorem eP {m:Nat}{l r:List UInt8}{x:List UInt8}(hm:m≤4611686018427387904)(h:ar (m:Int) (some l)=(x,some r)):l=txt (iz x)++r∧x.length≤m:=by
 unfold ar at h;have hc: ∀n r',ah (m:Int) (some l)=(n,some r')→l=grp n++r'∧n≤m:=fun n r'=>dP hm;obtain⟨⟨n,st⟩,hn⟩: ∃p,p=ah (m:Int) (some l):=⟨_,rfl⟩;rw[←hn]at h hc
 cases st with
 |none=>
  simp only at h
  split at h<;>cases h
 |some r'=>
  obtain⟨h1,h2⟩:=hc n r' rfl;simp only at h;by_cases h0:n=0
  ·rw[if_pos h0]at h;injection h with e1 e2
   injection e2 with e2
   subst e1 e2 h0;refine⟨?_,by simp⟩;rw[h1];unfold txt;rw[jd,oe];simp
  ·rw[if_neg h0]at h
   split at h
   ·cases h
   ·next hl=>
    injection h with e1 e2
    injection e2 with e2
    subst e1 e2;have hx:(r'.take n).length=n:=by simp;omega
    refine⟨?_,by omega⟩;rw[h1];unfold txt;rw[jd,oe,hx,List.append_assoc,List.take_append_drop]
/-! ### there and back -/
theorem zM {k:Nat}(h:k<256):UInt8.ofNat ((k:Int)).toNat=UInt8.ofNat k:=by simp
theorem lh {f:List UInt8→Option (VT×List UInt8)}(d:Bool): ∀(n:Nat) (l:List UInt8) (ts:List VT) (ns:List ByteArray) (r:List UInt8),
  (∀t l r,f l=some (t,r)→bq t=true→bX t++r=l)→bg f d n l=some (ts,ns,r)→dh ts=true→ct d ns ts++r=l∧ts.length=n∧(if d then ns.length=n else ns= [])
 |0,l,ts,ns,r,hf,h,hm=>by
  simp only[bg,Option.some.injEq,Prod.mk.injEq]at h;obtain⟨rfl,rfl,rfl⟩:=h;rw[aQ];refine⟨rfl,rfl,?_⟩
  cases d<;>rfl
 |n+1,l,ts,ns,r,hf,h,hm=>by
  unfold bg at h
  have hnm: ∀nm l1,(if d then ar 32 (some l)else([],some l))=(nm,some l1)→l=(if d then txt (iz nm)else [])++l1:=by
   intro nm l1 he
   cases d with
   |false=>simp only[Bool.false_eq_true,if_false]at he ⊢;injection he with e1 e2;injection e2 with e2
   |true=>simp only[if_true]at he ⊢;exact(eP (m:=32) (by decide) he).1
  obtain⟨⟨nm,st⟩,hp⟩: ∃p,p=(if d then ar 32 (some l)else([],some l)):=⟨_,rfl⟩;rw[←hp]at h hnm
  cases st with
  |none=>cases h
  |some l1=>
   have hl:=hnm nm l1 rfl;simp only at h
   cases hf1:f l1 with
   |none=>rw[hf1]at h;cases h
   |some x=>
    obtain⟨t,l2⟩:=x;rw[hf1]at h;simp only at h
    cases hf2:bg f d n l2 with
    |none=>rw[hf2]at h;cases h
    |some y=>
     obtain⟨ts',ns',l3⟩:=y;rw[hf2]at h;simp only[Option.some.injEq,Prod.mk.injEq]at h;obtain⟨rfl,rfl,rfl⟩:=h;have hm2:bq t=true∧dh ts'=true:=by unfold dh at hm;simpa using hm
     obtain⟨h1,h2,h3⟩:=lh d n l2 ts' ns' l3 hf hf2 hm2.2;have h4:=hf t l1 l2 hf1 hm2.1;refine⟨?_,by simp[h2],?_⟩
     ·unfold ct
      cases d with
      |false=>simp only[Bool.false_eq_true,if_false]at hl h3 ⊢;subst h3;rw[hl,←h4,←h1];simp
      |true=>simp only[if_true]at hl ⊢;rw[hl,←h4,←h1];simp
     ·cases d with
      |false=>simp only[Bool.false_eq_true,if_false]at h3 ⊢;exact h3
      |true=>simp only[if_true]at h3 ⊢;simp[h3]
theorem pC (t:VT):bq t=(bi t.kind t.num t.text t.items.length t.names && dh t.items):=by cases t;unfold bq;rfl
theorem pu : ∀(d:Nat) (t:VT) (l r:List UInt8),rdW d l=some (t,r)→bq t=true→bX t++r=l
 |0,t,l,r,h,_=>by cases h
 |d+1,t,l,r,h,hm=>by
  unfold rdW at h;obtain⟨⟨k,st⟩,hp⟩: ∃p,p=al (some l):=⟨_,rfl⟩;rw[←hp]at h
  cases st with
  |none=>cases h
  |some r1=>
   obtain⟨hl,hk⟩:=eh hp.symm;have h0:=zM hk;simp only at h;by_cases h2:k=2
   ·subst h2;rw[if_pos rfl]at h;obtain⟨⟨i,st⟩,hp⟩: ∃p,p=al (some r1):=⟨_,rfl⟩;rw[←hp]at h
    cases st with
    |none=>cases h
    |some r2=>
     obtain⟨hl2,hi⟩:=eh hp.symm;simp only[Option.some.injEq,Prod.mk.injEq]at h;obtain⟨rfl,rfl⟩:=h;rw[bs,hl,hl2];unfold cS;simp[aQ,VT.kind,VT.num,VT.items]
   rw[if_neg h2]at h;by_cases h3:k=3
   ·subst h3;rw[if_pos rfl]at h;obtain⟨⟨i,st⟩,hp⟩: ∃p,p=fp (some r1):=⟨_,rfl⟩;rw[←hp]at h
    cases st with
    |none=>cases h
    |some r2=>
     obtain⟨hl2,-⟩:=nX hp.symm;simp only[Option.some.injEq,Prod.mk.injEq]at h;obtain⟨rfl,rfl⟩:=h;rw[bs,hl,hl2];unfold cS;simp[aQ,VT.kind,VT.num,VT.items]
   rw[if_neg h3]at h;by_cases h45:k=4∨k=5
   ·rw[if_pos h45]at h;obtain⟨⟨x,st⟩,hp⟩: ∃p,p=ar 4096 (some r1):=⟨_,rfl⟩;rw[←hp]at h
    cases st with
    |none=>cases h
    |some r2=>
     obtain⟨hl2,-⟩:=eP (m:=4096) (by decide) hp.symm;simp only[Option.some.injEq,Prod.mk.injEq]at h;obtain⟨rfl,rfl⟩:=h;have hk2: ¬(k:Int)=2:=by omega
     have hk3: ¬(k:Int)=3:=by omega
     have hk45:(k:Int)=4∨(k:Int)=5:=by omega
     rw[bs,hl,hl2];unfold cS;simp only[VT.kind,VT.num,VT.items,VT.text,VT.names,aQ,hk2,hk3,hk45,h0,if_false,if_true];simp
   rw[if_neg h45]at h;by_cases h67:k=6∨k=7
   ·rw[if_pos h67]at h;obtain⟨⟨n,st⟩,hp⟩: ∃p,p=ah 4096 (some r1):=⟨_,rfl⟩;rw[←hp]at h
    cases st with
    |none=>cases h
    |some r2=>
     obtain⟨hl2,-⟩:=dP (m:=4096) (by decide) hp.symm;simp only at h
     cases hi:bg (rdW d) (decide (k=7)) n r2 with
     |none=>rw[hi]at h;cases h
     |some y=>
      obtain⟨ts,ns,r3⟩:=y;rw[hi]at h;simp only[Option.some.injEq,Prod.mk.injEq]at h;obtain⟨rfl,rfl⟩:=h;have hml:dh ts=true:=by rw[pC,Bool.and_eq_true]at hm;exact hm.2
      obtain⟨e1,e2,-⟩:=lh (decide (k=7)) n r2 ts ns r3 (fun t l r=>pu d t l r) hi hml;have hk2: ¬(k:Int)=2:=by omega
      have hk3: ¬(k:Int)=3:=by omega
      have hk45: ¬((k:Int)=4∨(k:Int)=5):=by omega
      have hk67:(k:Int)=6∨(k:Int)=7:=by omega
      have hk7:decide ((k:Int)=7)=decide (k=7):=by rw[decide_eq_decide];omega
      rw[bs,hl,hl2,←e1];unfold cS;simp only[VT.kind,VT.num,VT.items,VT.text,VT.names,hk2,hk3,hk45,hk67,h0,e2,if_false,if_true];simp
      congr 1
   ·rw[if_neg h67]at h;simp only[Option.some.injEq,Prod.mk.injEq]at h;obtain⟨rfl,rfl⟩:=h;have hk2: ¬(k:Int)=2:=by omega
    have hk3: ¬(k:Int)=3:=by omega
    have hk45: ¬((k:Int)=4∨(k:Int)=5):=by omega
    have hk67: ¬((k:Int)=6∨(k:Int)=7):=by omega
    rw[bs,hl];unfold cS;simp only[VT.kind,VT.num,VT.items,VT.text,VT.names,aQ,hk2,hk3,hk45,hk67,h0,if_false,if_true];simp
/-! ### a code is read -/
theorem qf {most n:Nat}(r:List UInt8)(h:n≤most)(hn:n<18446744073709551616):rdN most (some (grp n++r))=(n,some r):=by
 have hg:=(ak n).2;simp only[rdN,xm n r hn];rw[if_neg (by omega),List.drop_left]
theorem fo (b:UInt8)(r:List UInt8):al (some (b::r))=(b.toNat,some r):=rfl
theorem sy {x:Int}(r:List UInt8)(h1: -9223372036854775808≤x)(h2:x≤9223372036854775807):fp (some (grp (zig x)++r))=(x,some r):=by
 have hz:=sH x h1 h2;unfold fp;rw[qf (most:=18446744073709551615) r (by omega) hz,zo]
theorem bQ {m n:Nat}(r:List UInt8)(h:n≤m)(hm:m≤4611686018427387904):ah (m:Int) (some (grp n++r))=(n,some r):=by
 unfold ah;have e:mc (m:Int)=m:=by unfold mc;rw[if_pos (by omega)];omega
 rw[if_neg (by omega),e];exact qf r h (by omega)
theorem fj {m:Nat}{s:ByteArray}(r:List UInt8)(h:s.size≤m)(hm:m≤4611686018427387904):ar (m:Int) (some (txt s++r))=(s.data.toList,some r):=by
 unfold ar txt;have hl:s.data.toList.length=s.size:=rfl;rw[List.append_assoc,bQ _ h hm];simp only;by_cases h0:s.size=0
 ·rw[if_pos h0];have:s.data.toList= []:=List.eq_nil_of_length_eq_zero (by omega);rw[this];rfl
 ·rw[if_neg h0,if_neg (by rw[List.length_append];omega),←hl,List.take_left,List.drop_left]
mutual
def gj :VT→Prop
 | .mk _ i _ l _=>Rng i∧rN l
def rN :List VT→Prop
 | []=>True
 |t::r=>gj t∧rN r
end
theorem wJ (t:VT):1≤aM t:=by
 cases t with
 |mk k i s l ns=>
  unfold aM dE;have:=(ak (zig i)).2
  repeat' split
  all_goals omega
theorem kB : ∀l:List VT,l.length≤cq l
 | []=>by simp
 |t::r=>by
  have:=wJ t;have:=kB r;unfold cq;simp;omega
theorem iV {s:ByteArray}(h:s.toList= []):s=eS:=by
 rw[ByteArray.toList_eq]at h;rw[←lE s,h];rfl
theorem vj {t:VT}(h:bq t=true):bi t.kind t.num t.text t.items.length t.names=true∧dh t.items=true:=by
 rw[pC,Bool.and_eq_true]at h;exact h
theorem pM {t:VT}(h:bq t=true):t= .mk 1 0 eS [] []∨(∃i,(i=0∨i=1)∧t= .mk 2 i eS [] [])∨(∃i,t= .mk 3 i eS [] [])∨(∃k s,(k=4∨k=5)∧t= .mk k 0 s [] [])∨
  (∃l,dh l=true∧t= .mk 6 0 eS l [])∨ ∃l ns,dh l=true∧ns.length=l.length∧bB ns=true∧t= .mk 7 0 eS l ns:=by
 obtain⟨hf,hl⟩:=vj h
 cases t with
 |mk k i s l ns=>
  simp only[VT.kind,VT.num,VT.text,VT.items,VT.names]at hf hl;unfold bi at hf;by_cases h1:k=1
  ·rw[if_pos h1]at hf;simp only[Bool.and_eq_true,decide_eq_true_eq,beq_iff_eq]at hf;obtain⟨⟨h2,h3⟩,h4,h5⟩:=hf;rw[List.eq_nil_of_length_eq_zero h4,List.eq_nil_of_length_eq_zero h5,iV h3,h2,h1];exact .inl rfl
  rw[if_neg h1]at hf;by_cases h1:k=2
  ·rw[if_pos h1]at hf;simp only[Bool.and_eq_true,Bool.or_eq_true,decide_eq_true_eq,beq_iff_eq]at hf;obtain⟨⟨h2,h3⟩,h4,h5⟩:=hf;rw[List.eq_nil_of_length_eq_zero h4,List.eq_nil_of_length_eq_zero h5,iV h3,h1];exact .inr (.inl ⟨i,h2,rfl⟩)
  rw[if_neg h1]at hf;by_cases h1:k=3
  ·rw[if_pos h1]at hf;simp only[Bool.and_eq_true,decide_eq_true_eq,beq_iff_eq]at hf;obtain⟨h3,h4,h5⟩:=hf;rw[List.eq_nil_of_length_eq_zero h4,List.eq_nil_of_length_eq_zero h5,iV h3,h1];exact .inr (.inr (.inl ⟨i,rfl⟩))
  rw[if_neg h1]at hf;by_cases h1:k=4∨k=5
  ·rw[if_pos h1]at hf;simp only[Bool.and_eq_true,decide_eq_true_eq,beq_iff_eq]at hf;obtain⟨h3,h4,h5⟩:=hf;rw[List.eq_nil_of_length_eq_zero h4,List.eq_nil_of_length_eq_zero h5,h3];exact .inr (.inr (.inr (.inl ⟨k,s,h1,rfl⟩)))
  rw[if_neg h1]at hf;by_cases h1:k=6
  ·rw[if_pos h1]at hf;simp only[Bool.and_eq_true,decide_eq_true_eq,beq_iff_eq]at hf;obtain⟨⟨h2,h3⟩,h5⟩:=hf;rw[List.eq_nil_of_length_eq_zero h5,iV h3,h2,h1];exact .inr (.inr (.inr (.inr (.inl ⟨l,hl,rfl⟩))))
  rw[if_neg h1]at hf;by_cases h1:k=7
  ·rw[if_pos h1]at hf;simp only[Bool.and_eq_true,decide_eq_true_eq,beq_iff_eq]at hf;obtain⟨⟨⟨h2,h3⟩,h5⟩,h6⟩:=hf;rw[iV h3,h2,h1];exact .inr (.inr (.inr (.inr (.inr ⟨l,ns,hl,h5,h6,rfl⟩))))
  rw[if_neg h1]at hf;cases hf
theorem fC {f:List UInt8→Option (VT×List UInt8)}(d:Bool): ∀(ts:List VT) (ns:List ByteArray) (r:List UInt8),
  (∀t∈ts,∀r,f (bX t++r)=some (t,r))→(if d then ns.length=ts.length∧ ∀s∈ns,s.size≤32 else ns= [])→bg f d ts.length (ct d ns ts++r)=some (ts,ns,r)
 | [],ns,r,hf,hn=>by
  rw[aQ]
  have:ns= []:=by
   cases d
   ·exact hn
   ·simp only[if_true]at hn;exact List.eq_nil_of_length_eq_zero hn.1
  subst this;rfl
 |t::ts,ns,r,hf,hn=>by
  cases d with
  |false=>
   simp only[Bool.false_eq_true,if_false]at hn;subst hn;unfold ct;simp only[List.length_cons,bg,Bool.false_eq_true,if_false,List.nil_append,List.append_assoc];rw[hf t (List.mem_cons_self ..)];simp only;have h2:=fC false ts [] r (fun t ht=>hf t (List.mem_cons_of_mem _ ht)) rfl;simp only[List.tail_nil]
   rw[h2]
  |true=>
   simp only[if_true]at hn
   match ns,hn with
   |n::ns,hn=>
    unfold ct;simp only[List.length_cons,bg,if_true,List.append_assoc,List.headD_cons,List.tail_cons];have hn0:=fj (m:=32) (s:=n) (bX t++(ct true ns ts++r)) (hn.2 n (List.mem_cons_self ..)) (by decide);have hn1:ar 32 (some (txt n++(bX t++(ct true ns ts++r))))=(n.data.toList,some (bX t++(ct true ns ts++r))):=hn0;rw[hn1];simp only;rw[hf t (List.mem_cons_self ..)];simp only;rw[fC true ts ns r (fun t ht=>hf t (List.mem_cons_of_mem _ ht)) ⟨by simpa using hn.1,fun s hs=>hn.2 s (List.mem_cons_of_mem _ hs)⟩];simp only[lE]
theorem mE : ∀ {l:List VT},rN l→ ∀t∈l,gj t
 |a::r,h,t,ht=>by
  unfold rN at h;rcases List.mem_cons.1 ht with rfl|ht
  ·exact h.1
  ·exact mE h.2 t ht
theorem kE : ∀ {l:List VT} {t:VT},t∈l→aM t≤cq l
 |a::r,t,ht=>by
  unfold cq;rcases List.mem_cons.1 ht with rfl|ht
  ·omega
  ·have:=kE ht;omega
theorem oY : ∀ {ns:List ByteArray},bB ns=true→ ∀s∈ns,s.size≤32
 |a::r,h,s,hs=>by
  unfold bB at h;simp only[Bool.and_eq_true]at h;rcases List.mem_cons.1 hs with rfl|hs
  ·exact((gG s).1 h.1.1).2.1
  ·exact oY h.2 s hs
theorem nd : ∀(d:Nat) (t:VT) (r:List UInt8),bq t=true→gj t→ap t≤d→aM t≤4096→rdW d (bX t++r)=some (t,r)
 |0,t,r,_,_,hd,_=>by cases t;rw[aL]at hd;omega
 |d+1,t,r,hm,hr,hd,hs=>by
  rcases pM hm with rfl|⟨i,hi,rfl⟩|⟨i,rfl⟩|⟨k,s,hk,rfl⟩|⟨l,hl,rfl⟩|⟨l,ns,hl,hn,hdn,rfl⟩
  ·rfl
  ·rcases hi with rfl|rfl<;>rfl
  ·rw[bs];unfold cS gj at *;simp only[VT.kind,VT.num,VT.items,VT.names,VT.text,aQ,List.append_nil];show rdW (d+1) (3::(grp (zig i)++r))=_;unfold rdW;rw[fo];simp only[show(3:UInt8).toNat=3 from rfl];rw[sy r hr.1.1 hr.1.2];simp
  ·have hsz:s.size≤4096:=by
    unfold aM dE at hs;have:tsz s=(grp s.size).length+s.size:=rfl;rcases hk with rfl|rfl<;>simp at hs<;>omega
   have ht:=fj (m:=4096) (s:=s) r hsz (by decide);rw[bs];rcases hk with rfl|rfl
   ·show rdW (d+1) (4::((txt s++[])++r))=_;rw[List.append_nil];unfold rdW;rw[fo];simp only[show(4:UInt8).toNat=4 from rfl];have ht':ar 4096 (some (txt s++r))=(s.data.toList,some r):=ht;rw[ht'];simp[lE]
   ·show rdW (d+1) (5::((txt s++[])++r))=_;rw[List.append_nil];unfold rdW;rw[fo];simp only[show(5:UInt8).toNat=5 from rfl];have ht':ar 4096 (some (txt s++r))=(s.data.toList,some r):=ht;rw[ht'];simp[lE]
  ·have hsl:cq l≤4096:=by unfold aM at hs;omega
   have hll:=kB l;rw[aL]at hd;unfold gj at hr;have hc:ah 4096 (some (grp l.length++(ct false [] l++r)))=(l.length,some (ct false [] l++r)):=bQ (m:=4096) _ (by omega) (by decide);have hi:=fC (f:=rdW d) false l [] r (fun t ht r=>nd d t r (cA hl ht) (mE hr.2 t ht) (by have:=bU ht;omega) (by have:=kE ht;omega)) rfl;rw[bs];show rdW (d+1) (6::((grp l.length++ct false [] l)++r))=_;rw[List.append_assoc];unfold rdW;rw[fo];simp only[show(6:UInt8).toNat=6 from rfl];rw[hc];simp[hi]
  ·have hsl:cq l≤4096:=by unfold aM at hs;omega
   have hll:=kB l;rw[aL]at hd;unfold gj at hr;have hc:ah 4096 (some (grp l.length++(ct true ns l++r)))=(l.length,some (ct true ns l++r)):=bQ (m:=4096) _ (by omega) (by decide);have hi:=fC (f:=rdW d) true l ns r (fun t ht r=>nd d t r (cA hl ht) (mE hr.2 t ht) (by have:=bU ht;omega) (by have:=kE ht;omega)) ⟨hn,oY hdn⟩;rw[bs];show rdW (d+1) (7::((grp l.length++ct true ns l)++r))=_;rw[List.append_assoc];unfold rdW;rw[fo];simp only[show(7:UInt8).toNat=7 from rfl];rw[hc];simp[hi]
theorem nG (s:ByteArray):(txt s).length=tsz s:=by unfold txt tsz;rw[List.length_append];rfl
mutual
theorem jl : ∀(t:VT),bq t=true→(bX t).length=aM t
 | .mk k i s l ns,h=>by
  have hsh:=pM h;rcases hsh with e|⟨x,hx,e⟩|⟨x,e⟩|⟨k',s',hk,e⟩|⟨l',hl,e⟩|⟨l',ns',hl,hn,hdn,e⟩
  ·injection e with e1 e2 e3 e4 e5
   subst e1 e2 e3 e4 e5;rfl
  ·injection e with e1 e2 e3 e4 e5
   subst e1 e2 e3 e4 e5;rcases hx with rfl|rfl<;>rfl
  ·injection e with e1 e2 e3 e4 e5
   subst e1 e2 e3 e4 e5;rw[bs];unfold cS aM dE;simp[VT.kind,VT.num,VT.items,VT.names,aQ,dA];omega
  ·injection e with e1 e2 e3 e4 e5
   subst e1 e2 e3 e4 e5;rw[bs];unfold cS aM dE;rcases hk with rfl|rfl<;>(simp[VT.kind,VT.num,VT.items,VT.names,VT.text,aQ,dA,nG];omega)
  ·injection e with e1 e2 e3 e4 e5
   subst e1 e2 e3 e4 e5;have h1:=kg false [] l hl (fun h=>by cases h);rw[bs];unfold cS aM dE;simp[VT.kind,VT.num,VT.items,VT.names,VT.text,h1];omega
  ·injection e with e1 e2 e3 e4 e5
   subst e1 e2 e3 e4 e5;have h1:=kg true ns l hl (fun _=>hn);rw[bs];unfold cS aM dE;simp[VT.kind,VT.num,VT.items,VT.names,VT.text,h1];omega
theorem kg : ∀(d:Bool) (ns:List ByteArray) (l:List VT),dh l=true→(d=true→ns.length=l.length)→(ct d ns l).length=(if d then eB ns else 0)+cq l
 |d,ns,[],_,hn=>by
  rw[aQ,dA]
  cases d with
  |false=>rfl
  |true=>have:ns= []:=List.eq_nil_of_length_eq_zero (hn rfl);subst this;rfl
 |d,ns,t::r,h,hn=>by
  have h2:bq t=true∧dh r=true:=by unfold dh at h;simpa using h
  have h3:=jl t h2.1
  cases d with
  |false=>
   have h4:=kg false ns.tail r h2.2 (fun h=>by cases h);unfold ct cq
   simp only[Bool.false_eq_true,if_false,List.nil_append,List.length_append,h3,h4];omega
  |true=>
   match ns,hn with
   | [],hn=>have:=hn rfl;simp at this
   |n::ns,hn=>
    have h4:=kg true ns r h2.2 (fun _=>by have:=hn rfl;simpa using this);unfold ct cq;simp only[if_true,List.headD_cons,List.tail_cons,List.length_append,h3,h4,nG];have:eB (n::ns)=tsz n+eB ns:=by unfold eB;simp
    rw[this];omega
end
theorem ej {t:VT}(hs:aM t≤9223372036854775807):ba t=0↔bq t=true∧ap t≤8∧aM t≤4096:=by
 have hw:wrap64 (aM t)=aM t:=by unfold wrap64;omega
 unfold ba;rw[hw]
 cases hm:bq t with
 |false=>simp
 |true=>
  simp only[if_true,true_and];constructor
  ·intro h
   split at h
   ·omega
   ·split at h
    ·omega
    ·constructor<;>omega
  ·rintro⟨h1,h2⟩;rw[if_neg (by omega),if_neg (by omega)]
structure zA (t:VT):Prop where
 may:bq t=true
 depth:ap t≤8
 size:aM t≤4096
theorem il {f:List UInt8→Option (VT×List UInt8)}{P:VT→Prop}(d:Bool)(hf: ∀t l r,f l=some (t,r)→P t∧r.length≤l.length): ∀(n:Nat) (l:List UInt8) (ts:List VT) (ns:List ByteArray) (r:List UInt8),
  bg f d n l=some (ts,ns,r)→(∀t∈ts,P t)∧r.length≤l.length∧ts.length=n
 |0,l,ts,ns,r,h=>by
  simp only[bg,Option.some.injEq,Prod.mk.injEq]at h;obtain⟨rfl,rfl,rfl⟩:=h
  exact⟨(fun t ht=>by cases ht),Nat.le_refl _,rfl⟩
 |n+1,l,ts,ns,r,h=>by
  unfold bg at h
  have hnm: ∀nm l1,(if d then ar 32 (some l)else([],some l))=(nm,some l1)→l1.length≤l.length:=by
   intro nm l1 he
   cases d with
   |false=>simp only[Bool.false_eq_true,if_false]at he;injection he with e1 e2;injection e2 with e2;rw[e2];exact Nat.le_refl _
   |true=>simp only[if_true]at he;rw[(eP (m:=32) (by decide) he).1];simp
  obtain⟨⟨nm,st⟩,hp⟩: ∃p,p=(if d then ar 32 (some l)else([],some l)):=⟨_,rfl⟩;rw[←hp]at h hnm
  cases st with
  |none=>cases h
  |some l1=>
   have hl:=hnm nm l1 rfl;simp only at h
   cases hf1:f l1 with
   |none=>rw[hf1]at h;cases h
   |some x=>
    obtain⟨t,l2⟩:=x;rw[hf1]at h;simp only at h
    cases hf2:bg f d n l2 with
    |none=>rw[hf2]at h;cases h
    |some y=>
     obtain⟨ts',ns',l3⟩:=y;rw[hf2]at h;simp only[Option.some.injEq,Prod.mk.injEq]at h;obtain⟨rfl,rfl,rfl⟩:=h;obtain⟨h1,h2,h3⟩:=il d hf n l2 ts' ns' l3 hf2;obtain⟨h4,h5⟩:=hf t l1 l2 hf1;refine⟨fun u hu=> ?_,by omega,by simp[h3]⟩;rcases List.mem_cons.1 hu with rfl|hu
     ·exact h4
     ·exact h1 u hu
theorem vF {l:List VT}{d:Nat}(h: ∀t∈l,ap t≤d):bd l≤d:=by
 induction l with
 |nil=>unfold bd;omega
 |cons a r ih=>
  unfold bd;have h1:=h a (List.mem_cons_self ..);have h2:=ih fun t ht=>h t (List.mem_cons_of_mem _ ht);omega
theorem uu {l:List VT}(h: ∀t∈l,gj t):rN l:=by
 induction l with
 |nil=>unfold rN;trivial
 |cons a r ih=>unfold rN;exact⟨h a (List.mem_cons_self ..),ih fun t ht=>h t (List.mem_cons_of_mem _ ht)⟩
theorem wD {k:Nat}(h:k<256):Rng (k:Int):=by unfold Rng;omega
theorem iD : ∀(d:Nat) (t:VT) (l r:List UInt8),rdW d l=some (t,r)→(ap t≤d∧gj t)∧r.length≤l.length
 |0,t,l,r,h=>by cases h
 |d+1,t,l,r,h=>by
  unfold rdW at h;obtain⟨⟨k,st⟩,hp⟩: ∃p,p=al (some l):=⟨_,rfl⟩;rw[←hp]at h
  cases st with
  |none=>cases h
  |some r1=>
   obtain⟨hl,hk⟩:=eh hp.symm;have hlen:r1.length≤l.length:=by rw[hl];simp
   have leaf: ∀(k i:Int) (s:ByteArray),Rng i→ap (.mk k i s [] [])≤d+1∧gj (.mk k i s [] []):=fun k i s hi=>⟨by rw[aL];unfold bd;omega,by unfold gj;exact⟨hi,by unfold rN;trivial⟩⟩;simp only at h;by_cases h2:k=2
   ·rw[if_pos h2]at h;obtain⟨⟨i,st⟩,hp⟩: ∃p,p=al (some r1):=⟨_,rfl⟩;rw[←hp]at h
    cases st with
    |none=>cases h
    |some r2=>
     obtain⟨hl2,hi⟩:=eh hp.symm;simp only[Option.some.injEq,Prod.mk.injEq]at h;obtain⟨rfl,rfl⟩:=h;exact⟨leaf _ _ _ (wD hi),by rw[hl2]at hlen;simp at hlen;omega⟩
   rw[if_neg h2]at h;by_cases h3:k=3
   ·rw[if_pos h3]at h;obtain⟨⟨i,st⟩,hp⟩: ∃p,p=fp (some r1):=⟨_,rfl⟩;rw[←hp]at h
    cases st with
    |none=>cases h
    |some r2=>
     obtain⟨hl2,hi⟩:=nX hp.symm;simp only[Option.some.injEq,Prod.mk.injEq]at h;obtain⟨rfl,rfl⟩:=h;exact⟨leaf _ _ _ hi,by rw[hl2]at hlen;simp at hlen;omega⟩
   rw[if_neg h3]at h;by_cases h45:k=4∨k=5
   ·rw[if_pos h45]at h;obtain⟨⟨x,st⟩,hp⟩: ∃p,p=ar 4096 (some r1):=⟨_,rfl⟩;rw[←hp]at h
    cases st with
    |none=>cases h
    |some r2=>
     obtain⟨hl2,-⟩:=eP (m:=4096) (by decide) hp.symm;simp only[Option.some.injEq,Prod.mk.injEq]at h;obtain⟨rfl,rfl⟩:=h;exact⟨leaf _ _ _ (by unfold Rng;omega),by rw[hl2]at hlen;simp at hlen;omega⟩
   rw[if_neg h45]at h;by_cases h67:k=6∨k=7
   ·rw[if_pos h67]at h;obtain⟨⟨n,st⟩,hp⟩: ∃p,p=ah 4096 (some r1):=⟨_,rfl⟩;rw[←hp]at h
    cases st with
    |none=>cases h
    |some r2=>
     obtain⟨hl2,-⟩:=dP (m:=4096) (by decide) hp.symm;simp only at h
     cases hi:bg (rdW d) (decide (k=7)) n r2 with
     |none=>rw[hi]at h;cases h
     |some y=>
      obtain⟨ts,ns,r3⟩:=y;rw[hi]at h;simp only[Option.some.injEq,Prod.mk.injEq]at h;obtain⟨rfl,rfl⟩:=h;obtain⟨h1,h2,-⟩:=il (P:=fun t=>ap t≤d∧gj t) (decide (k=7)) (fun t l r=>iD d t l r) n r2 ts ns r3 hi;refine⟨⟨by rw[aL];have:=vF (d:=d) fun t ht=>(h1 t ht).1;omega,by unfold gj;exact⟨by unfold Rng;omega,uu fun t ht=>(h1 t ht).2⟩⟩,?_⟩;rw[hl2]at hlen;simp at hlen;omega
   ·rw[if_neg h67]at h;simp only[Option.some.injEq,Prod.mk.injEq]at h;obtain⟨rfl,rfl⟩:=h;exact⟨leaf _ _ _ (by unfold Rng;omega),hlen⟩
def fU (l:List UInt8):Option (VT×List UInt8):=match rdW 8 l with
 |some (t,r)=>if ba t=0 then some (t,r)else none
 |none=>none
theorem lV {d:Nat}{t:VT}{l r:List UInt8}(h:rdW d l=some (t,r))(hm:bq t=true):aM t+r.length=l.length:=by
 have h1:=pu d t l r h hm;rw[←h1,List.length_append,jl t hm]
theorem jH {l r:List UInt8}{t:VT}(h:fU l=some (t,r))(hl:l.length≤9223372036854775807):zA t∧gj t∧l=bX t++r∧rdW 8 l=some (t,r)∧ba t=0:=by
 unfold fU at h
 cases hr:rdW 8 l with
 |none=>rw[hr]at h;cases h
 |some y=>
  obtain⟨u,r'⟩:=y;rw[hr]at h;simp only at h
  split at h
  ·next hc=>
   simp only[Option.some.injEq,Prod.mk.injEq]at h;obtain⟨rfl,rfl⟩:=h
   have hm:bq u=true:=by
    unfold ba at hc
    cases hmm:bq u with
    |true=>rfl
    |false=>rw[hmm]at hc;simp at hc
   have hsz:=lV hr hm;obtain⟨h1,h2,h3⟩:=(ej (t:=u) (by omega)).1 hc;exact⟨⟨h1,h2,h3⟩,(iD 8 u l r' hr).1.2,(pu 8 u l r' hr hm).symm,rfl,hc⟩
  ·cases h
theorem r8 {t:VT}(h:zA t)(hr:gj t)(r:List UInt8):fU (bX t++r)=some (t,r):=by
 unfold fU;rw[nd 8 t r h.may hr h.depth h.size];simp only;rw[if_pos ((ej (by have:=h.size;omega)).2 ⟨h.may,h.depth,h.size⟩)]
open Lib (hid)
theorem Rd.conv {w:World}{B n cap:Nat}{A:Option Addr}{l:List UInt8}(h:Rd w B (.slice A l.length cap) l)(hn:n≤l.length)(c:Nat):
  (convert 23 9 (.slice A n c)).run Tryz.prog w= .ok (.string ⟨(l.take n).toArray⟩) w:=by
 obtain⟨A',cap',hv,_,_,h1⟩:=h;injection hv with hA _ _
 subst hA;rcases Nat.eq_zero_or_pos n with rfl|hp
 ·rcases A with _|a
  ·rw[run_convert_bytes_nil w 23 5 Tryz.underlying23 Tryz.underlying5 0 c 9 Tryz.underlying9];rfl
  ·exact run_convert_bytes_back w 23 9 5 a c [] Tryz.underlying23 Tryz.underlying5 Tryz.underlying9 (fun j hj=>absurd hj (by simp))
 ·obtain⟨b,off,rfl,_,hcell⟩:=h1 (by omega);rw[run_convert_bytes_arg w 23 5 Tryz.underlying23 Tryz.underlying5 b off n c ((l.take n).map fun b=>(b.toNat:Int)) (by simp;omega) ?_ 9 Tryz.underlying9,lC];intro i hi;rw[hcell i (by omega)];have hi2:i<l.length:=by omega
  simp[List.getElem?_map,List.getElem?_eq_getElem hi2,List.getD,List.getElem?_take,hi]
theorem uf (b off i:Nat):((⟨b,off,none⟩:Addr).add i)=⟨b,off+i,none⟩:=by
 unfold Addr.add
 split
 ·next h=>simp[h]
 ·rfl
abbrev K8 (w w':World):Prop:=Lib.OthersKept 5 Option.none w w'
theorem ao.kind {w:World}{B:Nat}{v:Value}{l:List UInt8}(h:ao w B v l): ∀g,v.ownBlock=some g→ ∃c fz,w.heap[g]? =some (.cells c 5 fz):=by
 intro g hg;rcases h.2 with ⟨rfl,-⟩|⟨g',cap,cur,rfl,-,hh,-⟩
 ·cases hg
 ·obtain rfl:g'=g:=by simpa[Value.ownBlock]using hg
  exact⟨cur,_,hh⟩
theorem ao.rd {w:World}{B:Nat}{v:Value}{l:List UInt8}(h:ao w B v l):Rd w w.heap.size v l:=by
 have hc:=fun g hg=>World.ownsRow.cells (g:=g) h hg;have hlt:=World.ownsRow.lt h;rcases h.2 with ⟨rfl,h0⟩|⟨g,cap,cur,rfl,hB,hh,hcap,hm,-⟩
 ·have hl:l= []:=List.eq_nil_of_length_eq_zero h0;subst hl;exact⟨none,0,rfl,Nat.le_refl _,⟨by omega,fun _=>rfl⟩,fun h=>absurd h (by simp)⟩
 ·refine⟨some ⟨g,0,none⟩,cap,rfl,hcap,⟨by unfold maxLen at hm;omega,fun h=>by cases h⟩,fun hp=>⟨g,0,rfl,(hlt g rfl).2,fun i hi=> ?_⟩⟩;have h1:=hc g rfl i (.int .u8 (l[i].toNat:Int)) (by simp[aF,hi]);rw[uf]at h1;exact h1
theorem Rd.one {w:World}(b:UInt8){x:Int}(hx:x=(b.toNat:Int)):Rd (w.alloc (.cells #[.int .u8 x] 5)) (w.heap.size+1) (.slice (some ⟨w.heap.size,0,none⟩) 1 1) [b]:=by
 subst hx;refine⟨some ⟨w.heap.size,0,none⟩,1,rfl,Nat.le_refl _,⟨by omega,fun h=>by cases h⟩,fun _=>⟨w.heap.size,0,rfl,by omega,fun i hi=> ?_⟩⟩;obtain rfl:i=0:=by simpa using hi
 exact Go.Joins.cell_of_block (heap_alloc_new w _) 0
theorem Rd.one' {w:World}{g:Nat}(hg:g=w.heap.size)(b:UInt8){x:Int}(hx:x=(b.toNat:Int)):Rd (w.alloc (.cells #[.int .u8 x] 5)) (w.heap.size+1) (.slice (some ⟨g,0,none⟩) 1 1) [b]:=by
 subst hg;exact Rd.one b hx
theorem af {w:World}{ops:Array Oper}{rest:List Oper}{o:Oper}{a:Act}{Q:Exit→Act→World→Prop}(hgd:o.guard=none)(s x:Operand)
  (ho:o.op= .call { callee:= .builtin .append,args:= #[s,x],argTypes:= #[23,23] }) (B:Nat) (v:Value) (l:List UInt8) (hs:a.eval s=v) (hown:ao w B v l)
  (D:Nat) (vx:Value) (m:List UInt8) (hx:a.eval x=vx) (hrd:Rd w D vx m) (hB:B≤w.heap.size) (hl:l.length+m.length≤140737488355328)
  (K: ∀v' w',ao w' B v' (l++m)→w.grownBy w' v.ownBlock→wpList Tryz.prog ops Q rest (a.put o.dst v') w'):wpList Tryz.prog ops Q (o::rest) a w:=by
 obtain⟨i0,hi,hz0,hz1,hz2⟩:=info_parts Tryz.infoU8;obtain⟨A,cap,rfl,hcap,⟨hc2,hA⟩,hc⟩:=hrd
 cases A with
 |none=>
  have hm:m= []:=by
   match m,hc with
   | [],_=>rfl
   |b::r,hc=>obtain⟨_,_,h,_⟩:=hc (by simp);cases h
  subst hm;obtain rfl:=hA rfl;refine wpList_append_own_none hgd s x 23 ho B 5 i0 1 Tryz.underlying23 hi v l.length (aF l) hs hown hx ?_
  exact K v w (by rw[List.append_nil];exact hown) ⟨rfl,rfl,rfl,Nat.le_refl _,fun _ _ _=>rfl⟩
 |some ad=>
  refine wpList_append_own _ hgd s x 23 ho B 5 i0 (.int .u8 0) 1 1 Tryz.underlying23 hi hz0 hz1 hz2 rfl (by decide) v l.length (aF l) hs hown ad m.length cap (aF m) hx (by simp[aF]) ?_ (fY m) (by unfold maxLen;omega) (by omega) hB ?_
  ·intro j u hj;have hjl:j<m.length:=by have:=(List.getElem?_eq_some_iff.1 hj).1;simpa[aF]using this
   obtain⟨b,off,hAd,-,hcell⟩:=hc (by omega);injection hAd with hAd
   subst hAd;rw[uf,hcell j hjl];simpa[aF,List.getElem?_map,List.getElem?_eq_getElem hjl]using hj
  ·intro v' w' h1 h2 _;exact K v' w' (by unfold ao;rw[List.length_append,d9];exact h1) h2
def iR (B:Nat)(l:List UInt8)(w:World)(e:Ending)(w':World):Prop:= ∃v',e= .returned v'∧ao w' B v' l∧Below B w w'∧K8 w w'
theorem ax {w w':World}(h:Below w.heap.size w w'):K8 w w':=fun k o hk _ _=>(h.block k (Array.getElem?_eq_some_iff.1 hk).1).trans hk
theorem au {w w':World}{B:Nat}{v:Value}{l:List UInt8}(h:ao w B v l)(hg:w.grownBy w' v.ownBlock):K8 w w':=(Lib.OthersKept.refl _ _ _).grown hg h.kind
theorem aq {a w w':World}{B:Nat}{v:Value}{l:List UInt8}(hb:Below B a w)(h:ao w B v l)(hB:B≤w.heap.size)(hg:w.grownBy w' v.ownBlock):Below B a w':=hb.grown hg hB (fun k hk=>(World.ownsRow.lt h k hk).1)
theorem Box.k8 {w w':World}{g:Nat}{a b c d e:Value}(h:Box w g a b c d e)(hk:K8 w w'):Box w' g a b c d e:=hk g _ h (fun h=>by cases h) (fun c fz h=>by injection h with _ h;exact absurd h (by decide))
def gM (t:VT):Prop:= ∀(S:Nat→Prop) (v bv:Value) (B:Nat) (l:List UInt8) (w:World),(∀x,S x→x<B)→B≤w.heap.size→LV w S t v→ao w B bv l→l.length+(bX t).length≤140737488355328→
 Calls Tryz.prog 160 #[bv,v] w (iR B (l++bX t) w)
theorem iS {w u:World}{B:Nat}{S:Nat→Prop}{A:Option Addr}{l:List VT}(hS: ∀b,S b→b<B)(h:LVA w S A l)(hb:Below B w u)(j:Nat)(hj:j<l.length):
  ∃p o A2 e2 A3 e3,A=some ⟨p,o,none⟩∧u.cell? ⟨p,o+j * 5,none⟩=some (.int .i64 l[j].kind)∧u.cell? ⟨p,o+j * 5+1,none⟩=some (.int .i64 l[j].num)∧u.cell? ⟨p,o+j * 5+2,none⟩=some (.string l[j].text)∧
   u.cell? ⟨p,o+j * 5+3,none⟩=some (.slice A2 l[j].items.length e2)∧u.cell? ⟨p,o+j * 5+4,none⟩=some (.slice A3 l[j].names.length e3)∧
   LV u S l[j] (.agg #[.int .i64 l[j].kind,.int .i64 l[j].num,.string l[j].text,.slice A2 l[j].items.length e2,.slice A3 l[j].names.length e3]):=by
 obtain⟨p,o,hA,hp,hv⟩:=h (by omega);obtain⟨c0,c1,c2,c3,c4,h0,h1,h2,h3,h4,hx⟩:=hv.at j hj;obtain⟨A2,e2,A3,e3,hag,-⟩:=hx.shape;injection hag with hag;injection hag with hag
 injection hag with y0 hag;injection hag with y1 hag;injection hag with y2 hag;injection hag with y3 hag;injection hag with y4 hag
 subst y0 y1 y2 y3 y4;have hk: ∀o,u.cell? ⟨p,o,none⟩=w.cell? ⟨p,o,none⟩:=fun o=>hb.cell (p:=⟨p,o,none⟩) (hS p hp);exact⟨p,o,A2,e2,A3,e3,hA,(hk _).trans h0,(hk _).trans h1,(hk _).trans h2,(hk _).trans h3,(hk _).trans h4,hx.keep fun b hb'=>hb.block b (hS b hb')⟩
theorem qV {w u:World}{B:Nat}{S:Nat→Prop}{A:Option Addr}{ns:List ByteArray}(hS: ∀b,S b→b<B)(h:aA w S A ns)(hb:Below B w u)(j:Nat)(hj:j<ns.length):
  ∃p o,A=some ⟨p,o,none⟩∧p<B∧u.cell? ⟨p,o+j,none⟩=some (.string ns[j])∧ns[j].size≤140737488351232:=by
 obtain⟨p,o,hA,hp,hc⟩:=h (by omega);exact⟨p,o,hA,hS p hp,(hb.cell (p:=⟨p,o+j,none⟩) (hS p hp)).trans (hc j hj).1,(hc j hj).2⟩
theorem vv (num:Int)(txs:ByteArray)(its:List VT)(nms:List ByteArray)(ih: ∀x∈its,gM x)(S:Nat→Prop)(v bv:Value)(B:Nat)(l:List UInt8)(w:World)(hS: ∀x,S x→x<B)(hB:B≤w.heap.size)(h:LV w S (.mk 6 num txs its nms) v)(hown:ao w B bv l)
  (hlen:l.length+(grp its.length++ct false nms its).length≤140737488355328):
  Calls Tryz.prog 181 #[bv,v] w (iR B (l++(grp its.length++ct false nms its)) w):=by
 obtain⟨A,c,A',c',rfl,-,-,-,hl1,-,hN,hA⟩:=h.shape;simp only[VT.kind,VT.num,VT.text,VT.items,VT.names]at *;have HX:=hid (Box.new (w:=w) (.int .i64 6) (.int .i64 num) (.string txs) (.slice A its.length c) (.slice A' nms.length c'));have HB0:=hid (ac (w:=w) (.cells #[.int .i64 6,.int .i64 num,.string txs,.slice A its.length c,.slice A' nms.length c'] 43));have HO:=hid (ao.below hown HB0.out);have HA:=hid hA;have HLEN:=hid hlen;obtain⟨full,hfull⟩: ∃full,full=grp its.length++ct false nms its:=⟨_,rfl⟩;have HF:=hid hfull;rw[←hfull]at HLEN ⊢;clear h hA hown hlen hfull;go_enter Tryz.func181,Tryz.ntmps181;have k3:=HX.out.c3;go_wp2_with fail;refine(ji its.length _ (by omega)).mono ?_;rintro e w1 (⟨_,_,x,rfl,hx,hb⟩|⟨h,_⟩);rotate_left
 ·omega
 rw[Int.toNat_natCast]at hx;have HR:=hid hx.rd;have hb1:=aB HB0.out hb;have HB1:=hid (hb1.mono hB);have HK1:=hid (ax hb1);have HO1:=hid (HO.out.below hb);have HX1:=hid (HX.out.call hb);have hz1:=Nat.le_trans hB hb1.size;have hg:=ak its.length;have hgl:l.length+(grp its.length).length≤140737488355328:=by have h1:=HLEN.out;rw[HF.out,List.length_append]at h1;omega
 clear hb hb1 hx k3 HB0 HO HX;go_wp2_with(at_builtin;go_must (refine af rfl _ _ rfl B _ l rfl HO1.out w1.heap.size x (grp its.length) rfl HR.out hz1 hgl ?_));intro v2 w2 hv2 hg2;have HB2:=hid (aq HB1.out HO1.out hz1 hg2);have HK2:=hid (HK1.out.trans (au HO1.out hg2));have HX2:=hid (HX1.out.k8 (au HO1.out hg2));have HO2:=hid hv2;have k3:=HX2.out.c3;clear hg2 hv2 HB1 HK1 HX1 HO1 HR;go_wp2_with fail
 go_loopw [0,22] (fun b i wr=> ∃(j:Nat) (X:List UInt8),i= .int .i64 j∧j≤its.length∧Hid (ao wr B b (l++X))∧Hid (X++ct false (nms.drop j) (its.drop j)=full)∧Hid (Below B w wr)∧Hid (K8 w wr)∧Hid (Box wr w.heap.size (.int .i64 6) (.int .i64 num) (.string txs) (.slice A its.length c) (.slice A' nms.length c'))) (fun _ i _=>its.length - (intOf i).toNat)
 case atStart=>exact⟨0,grp its.length,rfl,Nat.zero_le _,HO2,HF.out.symm,HB2,HK2,HX2⟩
 case round=>
  obtain⟨j,X,rfl,hj,HO,HE,HB,HK,HX⟩:=hrel;clear HX2 HK2 HB2 HO2 k3;by_cases hlt:j<its.length
  ·obtain⟨p,o,A2,e2,A3,e3,rfl,h0,h1,h2,h3,h4,hx⟩:=iS hS HA.out HB.out j hlt;have k0:wr.cell? ⟨w.heap.size,0,none⟩=some (.int .i64 6):=HX.out.c0;have hwl:w.heap.size<wr.heap.size:=HX.out.lt;have HV:=hid hx;clear hx;go_wp2_with fail;have hbx:=ac (w:=wr) (.cells #[.int .i64 its[j].kind,.int .i64 its[j].num,.string its[j].text,.slice A2 its[j].items.length e2,.slice A3 its[j].names.length e3] 43);have hBz:B≤wr.heap.size:=Nat.le_trans hB HB.out.size
   have HE2:Hid (X++bX its[j]++ct false (nms.drop (j+1)) (its.drop (j+1))=full):=hid (by
    have h1:=HE.out;rw[jw false hlt (fun h=>by cases h)]at h1
    simpa using h1)
   have HLE:Hid ((l++X).length+(bX its[j]).length≤140737488355328):=hid (by
    have h1:=HLEN.out;rw[←HE2.out]at h1
    simp only[List.length_append]at h1 ⊢;omega)
   have HC:=hid (ih its[j] (List.getElem_mem hlt) S _ _ B (l++X) _ hS (Nat.le_trans hBz hbx.size) (HV.out.keep fun b hb=>(hbx.mono hBz).block b (hS b hb)) (ao.below HO.out hbx) HLE.out);have HBx:=hid (HB.out.trans (hbx.mono hBz));have HKx:=hid (HK.out.trans (ax hbx));have HXx:=hid (HX.out.call hbx);clear hbx h0 h1 h2 h3 h4 k0;refine HC.out.mono ?_;rintro e w3 ⟨v3,rfl,hv3,hb3,hk3⟩;have HO3:Hid (ao w3 B v3 (l++(X++bX its[j]))):=hid (by rw[←List.append_assoc];exact hv3);have HB3:=hid (HBx.out.trans hb3);have HK3:=hid (HKx.out.trans hk3);have HX3:=hid (HXx.out.k8 hk3);clear hv3 hb3 hk3 HC HE HO HB HK HX;go_wp2_with fail
   go_roundw
   case rel=>exact⟨j+1,X++bX its[j],by go_num,by omega,HO3,HE2,HB3,HK3,HX3⟩
   case measure=>simp[intOf];omega
  ·obtain rfl:j=its.length:=by omega
   go_wp2_with fail;go_ret;exact⟨_,rfl,by have h1:=HE.out;rw[List.drop_of_length_le (Nat.le_refl _),aQ,List.append_nil]at h1;rw[←h1];exact HO.out,HB.out,HK.out⟩
end Go.Proofs.YtgfidiocmiolpaaGreat
