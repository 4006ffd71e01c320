/- Plain facts, without conditions on the program: a count as groups of 7 bits, such groups read back, and the zigzag of a number of 64 bits. -/
import Derived.Below
import Derived.OrdersHeld
import Derived.Lib.QuietBelow
import Derived.BigQuiet
import Derived.Test.YtgfidiocmiolpaaGreatRows
import Derived.WalkKit
import Derived.WalkSpells
import Derived.WalkLawsBesides
import Derived.Lib.Hide
import Derived.Lib.AppendStr
import Derived.Lib.SmallJoins
import Derived.Laws.BitsAllLaws
import Derived.Laws.BytesArg
import Derived.Laws.DeepNot64
set_option maxHeartbeats 64000000
set_option maxRecDepth 100000
set_option linter.unusedVariables false
set_option linter.unusedSimpArgs false
namespace Go.Proofs.YtgfidiocmiolpaaGreat
def gk :Nat→Nat→List UInt8
  |0,n=>[UInt8.ofNat n]
  |f+1,n=>if n<128 then [UInt8.ofNat n]else UInt8.ofNat (n % 128+128)::gk f (n / 128)
def grp (n:Nat):List UInt8:=gk 10 n
theorem kF : ∀(f n:Nat),n<128 ^ (f+1)→gk (f+1) n=gk f n
  |0,n,h=>by
    have h':n<128:=by simpa using h
    simp[gk,h']
  |f+1,n,h=>by
    have h2:n / 128<128 ^ (f+1):=by
      rw[Nat.pow_succ]at h;exact Nat.div_lt_of_lt_mul (by omega)
    rw[gk]
    conv=>rhs;rw[gk]
    rw[kF f (n / 128) h2]
theorem od (n:Nat)(h:n<128):grp n= [UInt8.ofNat n]:=by
  unfold grp;rw[gk,if_pos h]
theorem ov (n:Nat)(h:128≤n)(hn:n<18446744073709551616):grp n=UInt8.ofNat (n % 128+128)::grp (n / 128):=by
  unfold grp;rw[gk,if_neg (by omega),kF 9 (n / 128)];have:(128:Nat) ^ 10=1180591620717411303424:=by decide
  omega
theorem li : ∀f n,(gk f n).length≤f+1∧1≤(gk f n).length
  |0,n=>by simp[gk]
  |f+1,n=>by
    rw[gk]
    split
    · simp
    · have:=li f (n / 128)
      simp only[List.length_cons];omega
theorem ak (n:Nat):(grp n).length≤11∧1≤(grp n).length:=li 10 n
def aF (l:List UInt8):List Value:=l.map fun b=>Value.int .u8 b.toNat
theorem d9 (a b:List UInt8):aF (a++b)=aF a++aF b:=by simp[aF]
theorem th (b:UInt8):aF [b]= [Value.int .u8 b.toNat]:=rfl
theorem fY (l:List UInt8): ∀u∈aF l,u.oneCell'=true:=by
  intro u hu;simp only[aF,List.mem_map]at hu;obtain⟨b,_,rfl⟩:=hu;rfl
def zig (x:Int):Nat:=if x<0 then(-2 * x - 1).toNat else(2 * x).toNat
def zag (n:Nat):Int:=if n % 2=1 then -((n / 2:Nat):Int) - 1 else((n / 2:Nat):Int)
theorem zo (x:Int):zag (zig x)=x:=by
  unfold zag zig;split<;>split<;>omega
theorem sH (x:Int)(h1: -9223372036854775808≤x)(h2:x≤9223372036854775807):zig x<18446744073709551616:=by
  unfold zig;split<;>omega
def cF :Nat→Nat→List UInt8→Nat×Nat
  |_,_,[]=>(0,0)
  |i,acc,b::r=>
    if 10≤i then(0,0)
    else if i=9∧1<b.toNat then(0,0)
    else if b.toNat<128 then(if b.toNat=0∧0<i then(0,0)else(acc+b.toNat * 128 ^ i,i+1))
    else cF (i+1) (acc+(b.toNat - 128) * 128 ^ i) r
theorem kh : ∀(l:List UInt8) (i acc:Nat),(cF i acc l).2≤i+l.length∧(cF i acc l).2≤10
  | [],i,acc=>by simp[cF]
  |b::r,i,acc=>by
    unfold cF;have:=kh r (i+1) (acc+(b.toNat - 128) * 128 ^ i);simp only[List.length_cons]
    repeat' split
    all_goals(first|omega|(simp;done)|(simp;omega))
theorem br (n:Nat)(h:n<256):(UInt8.ofNat n).toNat=n:=by
  simp[UInt8.toNat_ofNat',Nat.mod_eq_of_lt h]
theorem oN : ∀(f n i acc:Nat) (r:List UInt8),f+i=9→n<2 * 128 ^ f→(0<i→0<n)→cF i acc (gk f n++r)=(acc+n * 128 ^ i,i+(gk f n).length)
  |0,n,i,acc,r,hi,hn,hz=>by
    have hn':n<2:=by simpa using hn
    obtain rfl:i=9:=by omega
    have hb:(UInt8.ofNat n).toNat=n:=br n (by omega);have:=hz (by omega);simp only[gk,List.cons_append,List.nil_append,cF,hb];rw[if_neg (by omega),if_neg (by omega),if_pos (by omega),if_neg (by omega)]
    rfl
  |f+1,n,i,acc,r,hi,hn,hz=>by
    rw[gk]
    split
    · next hs=>
      have hb:(UInt8.ofNat n).toNat=n:=br n (by omega);simp only[List.cons_append,List.nil_append,cF,hb];rw[if_neg (by omega),if_neg (by omega),if_pos (by omega),if_neg (by omega)];rfl
    · next hs=>
      have hb:(UInt8.ofNat (n % 128+128)).toNat=n % 128+128:=br _ (by omega)
      have hn2:n / 128<2 * 128 ^ f:=by
        have e:(128:Nat) ^ (f+1)=128 * 128 ^ f:=by rw[Nat.pow_succ];omega
        rw[e]at hn;exact Nat.div_lt_of_lt_mul (by rw[←Nat.mul_assoc,Nat.mul_comm 128 2,Nat.mul_assoc];exact hn)
      simp only[List.cons_append,cF,hb];rw[if_neg (by omega),if_neg (by omega),if_neg (by omega),oN f (n / 128) (i+1) _ r (by omega) hn2 (by omega)]
      have e2:acc+(n % 128+128 - 128) * 128 ^ i+n / 128 * 128 ^ (i+1)=acc+n * 128 ^ i:=by
        have e3:(128:Nat) ^ (i+1)=128 * 128 ^ i:=by rw[Nat.pow_succ];omega
        rw[e3,Nat.add_sub_cancel,←Nat.mul_assoc,Nat.add_assoc,←Nat.add_mul]
        congr 2
        omega
      rw[e2];simp only[List.length_cons,Prod.mk.injEq,true_and];omega
theorem tT (n:Nat)(h:n<18446744073709551616):grp n=gk 9 n:=by
  unfold grp;apply kF;have:(128:Nat) ^ 10=1180591620717411303424:=by decide
  omega
theorem xm (n:Nat)(r:List UInt8)(h:n<18446744073709551616):cF 0 0 (grp n++r)=(n,(grp n).length):=by
  rw[tT n h,oN 9 n 0 0 r rfl (by have:(128:Nat) ^ 9=9223372036854775808:=by decide
                                 omega) (by omega)]
  simp
theorem tQ : ∀(l:List UInt8) (i acc:Nat),acc<128 ^ i→i≤9→(cF i acc l).1<18446744073709551616
  | [],i,acc,_,_=>by simp[cF]
  |b::r,i,acc,h,hi=>by
    have hb:=UInt8.toNat_lt b
    have hstep: ∀c,c<128→acc+c * 128 ^ i<128 ^ (i+1):=by
      intro c hc;have e3:(128:Nat) ^ (i+1)=128 * 128 ^ i:=by rw[Nat.pow_succ];omega
      have:c * 128 ^ i≤127 * 128 ^ i:=Nat.mul_le_mul_right _ (by omega);omega
    have hp: ∀j,j≤9→(128:Nat) ^ j≤9223372036854775808:=by
      intro j hj;have:(128:Nat) ^ j≤128 ^ 9:=Nat.pow_le_pow_right (by omega) hj;have e9:(128:Nat) ^ 9=9223372036854775808:=by decide
      omega
    unfold cF
    split
    · simp
    · split
      · simp
      · next h9=>
        split
        · next hs=>
          split
          · simp
          · by_cases e:i=9
            · subst e
              have e9:(128:Nat) ^ 9=9223372036854775808:=by decide
              have:b.toNat≤1:=by omega
              have:b.toNat * 128 ^ 9≤1 * 128 ^ 9:=Nat.mul_le_mul_right _ this;simp only[];omega
            · have:=hstep b.toNat (by omega)
              have:=hp (i+1) (by omega);simp only[];omega
        · next hs=>
          have hne:i≠9:=by omega
          exact tQ r (i+1) _ (hstep _ (by omega)) (by omega)
end Go.Proofs.YtgfidiocmiolpaaGreat
/- Statements whose order Go leaves open, and that hold calls which lay new memory: one walk in an order of one's choice serves all. -/
namespace Go.Proofs.YtgfidiocmiolpaaGreat
open Go.RowKit Go.Sort
def am (o:Oper):Bool:=
  match o.op with
  | .move _| .assign _| .pick .. | .load .. | .binOp .. | .unOp .. | .slice .. | .fieldAddr .. | .field .. | .indexAddr .. | .index .. | .extract .. | .nilCheck _| .makeFunc .. =>true
  | .convert s d _=>s != d
  | .call c=>match c.callee with
    | .builtin .len| .builtin .cap| .builtin .min| .builtin .max=>true
    |_=>false
  |_=>false
theorem gy {α:Type}{P:Program}{w w':World}{s:Sem α}{f:α→Value}{n:Next}(h:(do pure (Next.value (f (←s))):Sem Next).run P w= .ok n w'): ∃v,n= .value v:=by
  simp only[Sem.run_bind]at h
  cases hs:s.run P w with
  |ok x w1=>rw[hs]at h;simp[Result.andThen,Sem.run_pure]at h;exact⟨_,h.1.symm⟩
  |halt x w1=>rw[hs]at h;simp[Result.andThen]at h
def VO (s:Sem Next):Prop:= ∀(P:Program) (w:World) (n:Next) (w':World),s.run P w= .ok n w'→ ∃v,n= .value v
theorem pN (v:Value):VO (pure (.value v)):=fun P w n w' h=>by simp only[Sem.run_pure,Result.ok.injEq]at h;exact⟨v,h.1.symm⟩
theorem lI {α:Type}{s:Sem α}{f:α→Sem Next}(h: ∀a,VO (f a)):VO (s >>= f):=fun P w n w' hr=>by
  rw[Sem.run_bind]at hr
  cases hs:s.run P w with
  |ok x w1=>rw[hs]at hr;exact h x P w1 n w' hr
  |halt x w1=>rw[hs]at hr;simp[Result.andThen]at hr
theorem zP :VO (runtimePanic .nilDeref):=lI fun p P w n w' h=>by cases h
theorem lW {P:Program}{ρ:Operand→Value}{o:Oper}{w w':World}{n:Next}(hp:am o=true)(h:(execOp ρ o).run P w= .ok n w'): ∃v,n= .value v:=by
  obtain⟨dst,op,ty,pos,after,guard⟩:=o;unfold am at hp;unfold execOp at h;cases op<;>simp only[Bool.false_eq_true]at hp<;>simp only[]at h
  case call c=>
    cases hc:c.callee with
    |value f=>simp[hc]at hp
    |invoke r m=>simp[hc]at hp
    |builtin b=>
      cases b<;>simp[hc]at hp
      all_goals
        simp only[resolve,hc,Sem.run_bind,Sem.run_pure,Result.andThen_ok,invoke,builtin]at h;exact gy (f:=fun x=>x) (by simpa only[Sem.run_bind,Sem.run_pure]using h)
  case pick c a b=>exact gy (f:=fun t:Bool=>if t then ρ a else ρ b) h
  case makeFunc fn first captured=>simp[Instr.makeFunc,Sem.run_pure,Sem.run_bind]at h;exact⟨_,h.1.symm⟩
  case move x=>simp[Sem.run_pure]at h;exact⟨_,h.1.symm⟩
  case assign x=>simp[Sem.run_pure]at h;exact⟨_,h.1.symm⟩
  case nilCheck x=> 
    have hv:VO (execOp ρ ⟨dst,.nilCheck x,ty,pos,after,guard⟩):=by
      unfold execOp;simp only[]
      repeat' split
      all_goals first
        |exact zP
        |exact pN _
        |skip
      refine lI fun p=>lI fun q=> ?_
      split
      · exact lI fun _=>pN _
      · exact pN _
    exact hv P w n w' (by unfold execOp;exact h)
  all_goals exact gy (f:=fun x=>x) h
structure ry (B:Nat)(w:World) where
  u:World
  h:Below B w u
instance (B :Nat) (w:World):Inhabited (ry B w):=⟨⟨w,Below.refl B w⟩⟩
abbrev CR (B:Nat)(w:World):World→Prop:=fun u=> ∃p:ry B w,u=p.u
theorem rj {B:Nat}{w u:World}(h:Below B w u):CR B w u:=⟨⟨u,h⟩,rfl⟩
theorem bu {a b c:World}(h:Below a.heap.size a b)(k:Below b.heap.size b c):Below a.heap.size a c:=h.trans (k.mono h.size)
def ls (β:World→Nat):Prop:= ∀w w',Below (β w) w w'→β w≤β w'
theorem me :ls fun w=>w.heap.size:=fun _ _ h=>h.size
theorem s9 {β:World→Nat}(hβ:ls β){a b c:World}(h:Below (β a) a b)(k:Below (β b) b c):Below (β a) a c:=h.trans (k.mono (hβ a b h))
section
variable {P :Program} {ops:Array Oper} {Q:Exit→Act→World→Prop} {md:Region.Mode} {β:World→Nat}
def rR (β:World→Nat)(P:Program)(md:Region.Mode)(ops:Array Oper)(Q:Exit→Act→World→Prop):Nat→Array Bool→Act→World→Prop
  |0,listed,a,w=>Region.ready md ops listed= []∧Q .normal a w
  |f+1,listed,a,w=>(Region.ready md ops listed= []→Q .normal a w)∧
    ∀i∈Region.ready md ops listed,wpOp P ops Q i (fun a' w'=>Below (β w) w w'∧rR β P md ops Q f (listed.setIfInBounds i true) a' w') a w
theorem iJ : ∀(f:Nat) (listed:Array Bool) (a:Act) (w:World),rR β P md ops Q f listed a w→wpAny P md ops Q f listed a w
  |0,_,_,_,h=>h
  |f+1,_,_,_,h=>⟨h.1,fun i hi=>wpOp_mono (fun a' w' h'=>iJ f _ a' w' h'.2) (h.2 i hi)⟩
theorem pw (hβ:ls β){o:Oper}{v:Value}{a:Act}{w w':World}(hb:Below (β w) w w')(h:YieldsIf P ops (fun u=>Below (β w) w u) o v a):
    YieldsIf P ops (fun u=>Below (β w') w' u) o v a:=
  h.imp (fun⟨h1,h2⟩=>⟨h1,fun u hu=>h2 u (s9 hβ hb hu)⟩) id
theorem gY (hβ:ls β){i:Nat}{oi:Oper}{v:Value}(hi:ops[i]? =some oi)(hsel:Region.noSelect ops=true)(hQ: ∀c d v a w,Q (.panic c) (Act.put a d v) w→Q (.panic c) a w):
    ∀(f:Nat) (listed:Array Bool) (a:Act) (w:World),
      (∀j oj,ops[j]? =some oj→j≠i→listed.getD j true=false→(∀e∈oj.after,Region.binds md e=true→e.on≠i)→oi.apart ops oj=true)→
      i∈Region.ready md ops listed→YieldsIf P ops (fun u=>Below (β w) w u) oi v a→
      rR β P md ops Q f (listed.setIfInBounds i true) (a.put oi.dst v) w→rR β P md ops Q (f+1) listed a w:=by
  intro f
  induction f with
  |zero=>
    intro listed a w _ hr hy H;refine⟨fun h=>absurd hr (by rw[h];exact List.not_mem_nil),fun j hj=> ?_⟩;by_cases hji:j=i
    · subst hji;exact hy.wpOp hi (Below.refl _ _) ⟨Below.refl _ _,H⟩
    · exact absurd (ready_mono hj hji) (by rw[H.1];exact List.not_mem_nil)
  |succ f ih=>
    intro listed a w hfree hr hy H;refine⟨fun h=>absurd hr (by rw[h];exact List.not_mem_nil),fun j hj=> ?_⟩;by_cases hji:j=i
    · subst hji;exact hy.wpOp hi (Below.refl _ _) ⟨Below.refl _ _,H⟩
    · obtain⟨hjun,oj,hoj,hall⟩:=mem_ready.1 hj
      have hnot: ∀e∈oj.after,Region.binds md e=true→e.on≠i:=by
        intro e he hb heq;have h1:=hall e he hb;have h0:=(mem_ready.1 hr).1;rw[heq]at h1;rcases Nat.lt_or_ge i listed.size with h'|h'
        · simp[h']at h0 h1;rw[h0]at h1;cases h1
        · simp[Array.getElem?_eq_none h']at h1
      have h2:=wpOp_putIf (S:=fun u=>Below (β w) w u) hoj (hfree j oj hoj hji hjun hnot) (fun cs b=>Region.noSelect_spec hsel i oi cs b hi) (fun cs b=>Region.noSelect_spec hsel j oj cs b hoj)
        (fun c a w=>hQ c oi.dst v a w) hy (H.2 j (ready_mono hj hji))
      refine wpOp_mono (fun a' w' h3=>⟨h3.2.1,ih (listed.setIfInBounds j true) a' w' ?_ (ready_mono hr (Ne.symm hji)) (pw hβ h3.2.1 h3.1) ?_⟩) h2
      · intro k ok hk hki hun hno
        refine hfree k ok hk hki ?_ hno;by_cases hjk:j=k
        · subst hjk;exact hjun
        · rw[getD_set_ne true hjk]at hun;exact hun
      · rw[Array.setIfInBounds_comm _ _ hji]
        exact h3.2.2
def nt (md:Region.Mode)(ops:Array Oper):List Nat→Array Bool→Bool
  | [],listed=>(Region.ready md ops listed).isEmpty
  |i::r,listed=>
    match ops[i]? with
    |none=>false
    |some o=>(Region.ready md ops listed).contains i && (if am o then Region.free md ops listed i else Region.ready md ops listed == [i]) && nt md ops r (listed.setIfInBounds i true)
def yp (ops:Array Oper)(ord:List Nat):Bool:=Region.noSelect ops && ord.length == ops.size && nt .any ops ord (Array.replicate ops.size false)
def aI (β:World→Nat)(P:Program)(ops:Array Oper)(Q:Exit→Act→World→Prop):List Oper→Act→World→Prop
  | [],a,w=>Q .normal a w
  |o::rest,a,w=>
    if Region.wanted o (yielded ops a.tmps)then
      (if am o then o.quiet P a (CR (β w) w) (fun a'=>aI β P ops Q rest a' w)
       else o.wp P a w (fun a' w'=>Below (β w) w w'∧aI β P ops Q rest a' w') Q)
    else aI β P ops Q rest (a.put o.dst undef) w
def dC (ops:Array Oper)(ord:List Nat):List Oper:=ord.filterMap fun i=>ops[i]?
theorem atR :(∀(ops:Array Oper) (ord:List Nat),dC ops ord=ord.filterMap fun i=>ops[i]?)∧(∀(α:Type) (f:Nat→Option α) (a:Nat) (l:List Nat),List.filterMap f (a::l)=match f a with|none=>List.filterMap f l|some b=>b::List.filterMap f l)∧(∀(α:Type) (f:Nat→Option α),List.filterMap f []= [])∧(∀(α:Type) (l:List α) (i:Nat),l.toArray[i]? =l[i]?)∧(∀(α:Type) (o:α) (l:List α) (i:Nat),(o::l)[i+1]? =l[i]?)∧ ∀(α:Type) (o:α) (l:List α),(o::l)[0]? =some o:=⟨fun _ _=>rfl,fun _ f a l=>by rw[List.filterMap_cons];cases f a<;>rfl,fun _ _=>rfl,fun _ _ _=>List.getElem?_toArray,fun _ _ _ _=>List.getElem?_cons_succ,fun _ _ _=>List.getElem?_cons_zero⟩
theorem acR :(∀(α:Type) (l:List α) (i:Nat) (h:i<l.toArray.size),l.toArray[i]=l[i]'(by simpa using h))∧(∀(α:Type) (v:α) (l:List α) (i:Nat) (h:i+1<(v::l).length),(v::l)[i+1]=l[i]'(Nat.lt_of_succ_lt_succ h))∧(∀(α:Type) (v:α) (l:List α) (h:0<(v::l).length),(v::l)[0]=v)∧(∀(α:Type) (l:List α) (i:Nat) (v:α),l.toArray.setIfInBounds i v=(l.set i v).toArray)∧(∀(α:Type) (x:α) (l:List α) (i:Nat) (v:α),(x::l).set (i+1) v=x::l.set i v)∧ ∀(α:Type) (x:α) (l:List α) (v:α),(x::l).set 0 v=v::l:=⟨fun _ _ _ _=>rfl,fun _ _ _ _ _=>rfl,fun _ _ _ _=>rfl,fun _ _ _ _=>by simp,fun _ _ _ _ _=>rfl,fun _ _ _ _=>rfl⟩
theorem fy {o:Oper}{v:Value}{a:Act}{w:World}(hp:am o=true)(hw:Region.wanted o (yielded ops a.tmps)=true)(h: ∀u,CR (β w) w u→o.quietAt P a (CR (β w) w) u v):
    YieldsIf P ops (fun u=>Below (β w) w u) o v a:=by
  refine .inl ⟨hw,fun u hu=> ?_⟩;have h1:=h u (rj hu);unfold Oper.quietAt at h1
  cases hr:(execOp a.eval o).run P u with
  |halt x u'=>rw[hr]at h1;exact absurd h1 (by simp[Oper.quietUpon])
  |ok n u'=>
    obtain⟨x,rfl⟩:=lW hp hr;rw[hr]at h1;obtain⟨rfl,rfl⟩:=h1;rfl
theorem fh (hβ:ls β)(hsel:Region.noSelect ops=true)(hQ: ∀c d v a w,Q (.panic c) (Act.put a d v) w→Q (.panic c) a w):
    ∀(ord:List Nat) (listed:Array Bool) (a:Act) (w:World),nt md ops ord listed=true→aI β P ops Q (dC ops ord) a w→rR β P md ops Q ord.length listed a w
  | [],listed,a,w,hB,h=>⟨by simpa[nt]using hB,h⟩
  |i::r,listed,a,w,hB,h=>by
    unfold nt at hB
    cases ho:ops[i]? with
    |none=>rw[ho]at hB;simp at hB
    |some o=>
      rw[ho]at hB;simp only[Bool.and_eq_true]at hB;obtain⟨⟨hr,hk⟩,hB'⟩:=hB;have hr':i∈Region.ready md ops listed:=by simpa using hr
      have e:dC ops (i::r)=o::dC ops r:=by simp[dC,ho]
      rw[e]at h;unfold aI at h;by_cases hp:am o=true
      · rw[if_pos hp]at hk
        by_cases hw:Region.wanted o (yielded ops a.tmps)=true
        · rw[if_pos hw,if_pos hp]at h
          obtain⟨v,h1,h2⟩:=h;exact gY hβ ho hsel hQ _ listed a w (Region.free_spec ho hk) hr' (fy hp hw h1) (fh hβ hsel hQ r _ _ w hB' h2)
        · rw[if_neg hw]at h
          exact gY hβ ho hsel hQ _ listed a w (Region.free_spec ho hk) hr' (.inr ⟨by simpa using hw,rfl⟩) (fh hβ hsel hQ r _ _ w hB' h)
      · rw[if_neg hp]at hk
        have hk':Region.ready md ops listed= [i]:=by simpa using hk
        refine⟨fun h0=>absurd hr' (by rw[h0];exact List.not_mem_nil),fun j hj=> ?_⟩;rw[hk']at hj;obtain rfl:j=i:=by simpa using hj
        unfold wpOp;simp only[ho];by_cases hw:Region.wanted o (yielded ops a.tmps)=true
        · rw[if_pos hw,if_neg hp]at h
          rw[if_pos hw];exact .inl (Oper.wp_mono (fun a' w' h'=>⟨h'.1,fh hβ hsel hQ r _ a' w' hB' h'.2⟩) h)
        · rw[if_neg hw]at h
          rw[if_neg hw];exact⟨Below.refl _ _,fh hβ hsel hQ r _ _ w hB' h⟩
theorem sq (hβ:ls β){id:Nat}{a:Act}{w:World}(ord:List Nat)(hm:P.follows .mixedOrders=true)(hB:yp ops ord=true)(hQ: ∀c d v a w,Q (.panic c) (Act.put a d v) w→Q (.panic c) a w)
    (h:aI β P ops Q (dC ops ord) a w.drew):(Code.region id ops true).wp P Q a w:=by
  unfold yp at hB;simp only[Bool.and_eq_true,beq_iff_eq]at hB;refine wp_region_any hm (iJ (β:=β) _ _ _ _ ?_);have:=fh (md:= .any) hβ hB.1.1 hQ ord _ a w.drew hB.2 h;rw[hB.1.2]at this;exact this
theorem aw {id:Nat}{a:Act}{w:World}(ord:List Nat)(hm:P.follows .mixedOrders=true)(hB:yp ops ord=true)(hQ: ∀c d v a w,Q (.panic c) (Act.put a d v) w→Q (.panic c) a w)
    (h:aI (fun w=>w.heap.size) P ops Q (dC ops ord) a w.drew):(Code.region id ops true).wp P Q a w:=sq me ord hm hB hQ h
theorem pP {a:Act}{w:World}: ∀(seg rest:List Oper) (a:Act),seg.all am=true→wpQuiet P ops (CR (β w) w) (fun a'=>aI β P ops Q rest a' w) seg a→aI β P ops Q (seg++rest) a w
  | [],rest,a,_,h=>h
  |o::seg,rest,a,hp,h=>by
    simp only[List.all_cons,Bool.and_eq_true]at hp;rw[List.cons_append];unfold aI;unfold wpQuiet at h;by_cases hw:Region.wanted o (yielded ops a.tmps)=true
    · rw[if_pos hw]at h
      rw[if_pos hw,if_pos hp.1];obtain⟨v,h1,h2⟩:=h;exact⟨v,h1,pP (a:=a) seg rest _ hp.2 h2⟩
    · rw[if_neg hw]at h
      rw[if_neg hw];exact pP (a:=a) seg rest _ hp.2 h
theorem jA (l:List Oper):(l.takeWhile am).all am=true:=by
  induction l with
  |nil=>rfl
  |cons o l ih=>
    rw[List.takeWhile_cons]
    split
    · next h=>simp only[List.all_cons,Bool.and_eq_true];exact⟨h,ih⟩
    · rfl
theorem k9 {l:List Oper}{a:Act}{w:World}(h:wpQuiet P ops (CR (β w) w) (fun a'=>aI β P ops Q (l.dropWhile am) a' w) (l.takeWhile am) a):aI β P ops Q l a w:=by
  have:=pP (a:=a) _ (l.dropWhile am) a (jA l) h;rwa[List.takeWhile_append_dropWhile]at this
theorem ae {l:List Oper}{a:Act}{w:World}(h:wpQuiet P ops (CR w.heap.size w) (fun a'=>aI (fun w=>w.heap.size) P ops Q (l.dropWhile am) a' w) (l.takeWhile am) a):aI (fun w=>w.heap.size) P ops Q l a w:=k9 h
theorem ab {B:Nat}{l:List Oper}{a:Act}{w:World}(h:wpQuiet P ops (CR B w) (fun a'=>aI (fun _=>B) P ops Q (l.dropWhile am) a' w) (l.takeWhile am) a):aI (fun _=>B) P ops Q l a w:=k9 h
theorem lu {o:Oper}{rest:List Oper}{a:Act}{w:World}(hp:am o=false)
    (h: ∀K:Act→World→Prop,(∀a' w',Below (β w) w w'→aI β P ops Q rest a' w'→K a' w')→if Region.wanted o (yielded ops a.tmps)=true then o.wp P a w K Q else K (a.put o.dst undef) w):aI β P ops Q (o::rest) a w:=by
  have h1:=h (fun a' w'=>Below (β w) w w'∧aI β P ops Q rest a' w') (fun a' w' h1 h2=>⟨h1,h2⟩);unfold aI;by_cases hw:Region.wanted o (yielded ops a.tmps)=true
  · rw[if_pos hw]at h1
    rw[if_pos hw,if_neg (by rw[hp];exact Bool.false_ne_true)];exact h1
  · rw[if_neg hw]at h1
    rw[if_neg hw];exact h1.2
theorem aj {o:Oper}{rest:List Oper}{a:Act}{w:World}(hp:am o=false)
    (h: ∀K:Act→World→Prop,(∀a' w',Below w.heap.size w w'→aI (fun w=>w.heap.size) P ops Q rest a' w'→K a' w')→if Region.wanted o (yielded ops a.tmps)=true then o.wp P a w K Q else K (a.put o.dst undef) w):aI (fun w=>w.heap.size) P ops Q (o::rest) a w:=lu hp h
theorem ai {B:Nat}{o:Oper}{rest:List Oper}{a:Act}{w:World}(hp:am o=false)
    (h: ∀K:Act→World→Prop,(∀a' w',Below B w w'→aI (fun _=>B) P ops Q rest a' w'→K a' w')→if Region.wanted o (yielded ops a.tmps)=true then o.wp P a w K Q else K (a.put o.dst undef) w):aI (fun _=>B) P ops Q (o::rest) a w:=lu hp h
end
theorem aY {w w':World}(h:Below w.drew.heap.size w.drew w'):Below w.heap.size w w':=⟨h.os,h.tape,h.output,h.size,h.block⟩
theorem aa {B:Nat}{w:World}{a:Addr}{v:Value}(h:w.cell? a=some v)(hB:a.block<B): ∀p:ry B w,p.u.cell? a=some v:=fun p=>(p.h.cell hB).trans h
end Go.Proofs.YtgfidiocmiolpaaGreat
/- Lists of texts that lie in memory, and which texts may be names. -/
namespace Go.Proofs.YtgfidiocmiolpaaGreat
open Lib (hid)
open Go.RowKit
theorem add_at (b off i:Nat):((⟨b,off,none⟩:Addr).add i)=⟨b,off+i,none⟩:=by
 unfold Addr.add
 split
 ·next h=>simp[h]
 ·rfl
theorem oR (s:ByteArray)(k:Nat)(h:k<s.size):s.data.toList.drop k=s[k]::s.data.toList.drop (k+1):=List.drop_eq_getElem_cons (by simpa using h)
def iz (l:List UInt8):ByteArray:=⟨l.toArray⟩
theorem oe (l:List UInt8):(iz l).data.toList=l:=rfl
theorem lE (s:ByteArray):iz s.data.toList=s:=rfl
theorem jd (l:List UInt8):(iz l).size=l.length:=rfl
/-! ### names -/
def cD (l:List UInt8):Bool:=decide (1≤l.length∧l.length≤32) && l.head? != some 36 && !(l.contains 46)
def aA (w:World)(S:Nat→Prop)(A:Option Addr)(ns:List ByteArray):Prop:=
 0<ns.length→ ∃b off,A=some ⟨b,off,none⟩∧S b∧ ∀i (h:i<ns.length),w.cell? ⟨b,off+i,none⟩=some (.string ns[i])∧ns[i].size≤140737488351232
theorem aA.keep {w w':World}{S:Nat→Prop}{A:Option Addr}{ns:List ByteArray}(h:aA w S A ns)(hk: ∀b,S b→w'.heap[b]? =w.heap[b]?):aA w' S A ns:=by
 intro hp;obtain⟨b,off,hA,hS,hc⟩:=h hp;exact⟨b,off,hA,hS,fun i hi=>⟨(World.cell?_of_block (a:=⟨b,off+i,none⟩) (hk b hS)).trans (hc i hi).1,(hc i hi).2⟩⟩
theorem aA.imp {w:World}{S S':Nat→Prop}{A:Option Addr}{ns:List ByteArray}(h:aA w S A ns)(hS: ∀b,S b→S' b):aA w S' A ns:=by
 intro hp;obtain⟨b,off,hA,hb,hc⟩:=h hp;exact⟨b,off,hA,hS b hb,hc⟩
theorem aA.nil {w:World}{S:Nat→Prop}{A:Option Addr}:aA w S A []:=fun h=>absurd h (by simp)
theorem aA.take {w:World}{S:Nat→Prop}{A:Option Addr}{ns:List ByteArray}(h:aA w S A ns)(k:Nat):aA w S A (ns.take k):=by
 intro hp;obtain⟨b,off,hA,hS,hc⟩:=h (by simp at hp;omega)
 exact⟨b,off,hA,hS,fun i hi=>by
  have:=hc i (by simp at hi;omega)
  simpa using this⟩
theorem gG (s:ByteArray):cD s.data.toList=true↔1≤s.size∧s.size≤32∧(∀h:0<s.size,s[0].toNat≠36)∧ ∀i (h:i<s.size),s[i].toNat≠46:=by
 have hl:s.data.toList.length=s.size:=rfl;have hg: ∀i (h:i<s.size),s[i]=s.data.toList[i]'(by rw[hl];exact h):=fun i h=>rfl;have hu: ∀(b c:UInt8),b.toNat=c.toNat↔b=c:=fun b c=>⟨fun h=>UInt8.toNat_inj.1 h,fun h=>by rw[h]⟩;unfold cD;simp only[Bool.and_eq_true,decide_eq_true_eq,Bool.not_eq_true',bne_iff_ne,ne_eq,hl]
 have h1:(s.data.toList.contains 46=false)↔ ∀i (h:i<s.size),s[i].toNat≠46:=by
  rw[←Bool.not_eq_true,List.contains_iff_mem,List.mem_iff_getElem];constructor
  ·intro h i hi he;exact h ⟨i,by rw[hl];exact hi,by rw[←hg i hi];exact(hu _ 46).1 he⟩
  ·rintro h ⟨i,hi,he⟩;exact h i (by rw[←hl];exact hi) (by rw[hg i (by rw[←hl];exact hi),he];rfl)
 have h2:(¬s.data.toList.head? =some 36)↔ ∀h:0<s.size,s[0].toNat≠36:=by
  rw[List.head?_eq_getElem?];constructor
  ·intro h hp he;apply h;rw[List.getElem?_eq_getElem (by rw[hl];exact hp),←hg 0 hp];exact congrArg some ((hu _ 36).1 he)
  ·intro h he;obtain⟨hp,he⟩:=List.getElem?_eq_some_iff.1 he;exact h (by rw[←hl];exact hp) (by rw[hg 0 (by rw[←hl];exact hp),he];rfl)
 rw[h1,h2];constructor
 ·rintro⟨⟨⟨a,b⟩,c⟩,d⟩;exact⟨a,b,c,d⟩
 ·rintro⟨a,b,c,d⟩;exact⟨⟨⟨a,b⟩,c⟩,d⟩
theorem aJ {a b:Bool}(h:a=b):Ending.returned (.bool a)= .returned (.bool b):=by rw[h]
theorem dN {s:ByteArray}(h: ¬(1≤s.size∧s.size≤32∧(∀h:0<s.size,s[0].toNat≠36)∧ ∀i (h:i<s.size),s[i].toNat≠46)):false=cD s.data.toList:=by
 rw[←gG]at h;simpa using h
theorem oq {s:ByteArray}(h:1≤s.size∧s.size≤32∧(∀h:0<s.size,s[0].toNat≠36)∧ ∀i (h:i<s.size),s[i].toNat≠46):true=cD s.data.toList:=((gG s).2 h).symm
theorem bK {s:ByteArray}:s.toList= []↔s.size=0:=by
 rw[ByteArray.toList_eq];show s.data.toList= []↔s.data.toList.length=0;exact List.length_eq_zero_iff.symm
theorem cJ {s:ByteArray}:s.toList.isEmpty=true↔s.size=0:=by rw[List.isEmpty_iff,bK]
theorem qn (s:ByteArray)(w:World)(hs:s.size≤9223372036854775807):Calls Tryz.prog 193 #[.string s] w fun e w'=>e= .returned (.bool (cD s.data.toList))∧w=w':=by
 have HS:=hid hs;clear hs;go_enter Tryz.func193,Tryz.ntmps193;go_wp2
 ·have h0:=bK.1 (by assumption:s.toList= []);go_ret;exact⟨aJ (dN fun h=>by omega),rfl⟩
 ·rename_i h0 h1 h2 h3;go_ret;refine⟨aJ (dN fun h=> ?_),rfl⟩;rcases h3 with (h3|h3)|h3
  ·rw[cJ]at h3;omega
  ·omega
  ·exact h.2.2.1 h2 (by have h4:((s[0].toNat:Int))=36:=eq_of_beq h3;omega)
 ·have h2:0<s.size:=by assumption
  have h3:(s.toList.isEmpty=false∧(s.size:Int)≤32)∧(((s[0]'h2).toNat:Int) == 36)=false:=by assumption
  have H0:=hid (show 1≤s.size∧s.size≤32∧(∀h:0<s.size,s[0].toNat≠36) from⟨h2,by omega,fun h he=>by have:=h3.2;rw[he]at this;simp at this⟩)
  go_loopw [18] (fun i wr=> ∃k:Nat,i= .int .i64 k∧k≤s.size∧wr=w∧ ∀j (h:j<s.size),j<k→s[j].toNat≠46) (fun i _=>s.size - (intOf i).toNat)
  case atStart=>exact⟨0,rfl,by omega,rfl,fun j _ h=>absurd h (by omega)⟩
  case round=>
   obtain⟨k,rfl,hk,rfl,hj⟩:=hrel;have HJ:=hid hj;clear hj;by_cases hlt:k<s.size
   ·by_cases hb:s[k].toNat=46
    ·go_wp2;go_ret;exact⟨aJ (dN fun h=>h.2.2.2 k hlt hb),rfl⟩
    ·go_wp2
     go_roundw
     case rel=>exact⟨k+1,by go_num,by omega,trivial,fun j h hjk=>by
      by_cases e:j=k
      ·subst e;exact hb
      ·exact HJ.out j h (by omega)⟩
     case measure=>simp[intOf];omega
   ·go_wp2;go_ret;exact⟨aJ (oq ⟨H0.out.1,H0.out.2.1,H0.out.2.2,fun i h=>HJ.out i h (by omega)⟩),rfl⟩
 ·have h0:=mt bK.2 (by assumption: ¬s.toList= []);omega
 ·go_ret;exact⟨aJ (dN fun h=>by omega),rfl⟩
end Go.Proofs.YtgfidiocmiolpaaGreat
/- Values within values, as trees: what the order, the depth, the size and the looks of a tree are. -/
namespace Go.Proofs.YtgfidiocmiolpaaGreat
inductive VT where
 |mk (k i:Int) (s:ByteArray) (l:List VT) (ns:List ByteArray):VT
namespace VT
def kind :VT→Int|mk k _ _ _ _=>k
def num :VT→Int|mk _ i _ _ _=>i
def text :VT→ByteArray|mk _ _ s _ _=>s
def items :VT→List VT|mk _ _ _ l _=>l
def names :VT→List ByteArray|mk _ _ _ _ ns=>ns
end VT
/-! ### how many, up to a bound -/
mutual
def bM :Nat→VT→Nat
 |d,.mk _ _ _ l ns=>if 40<d then 1048576 else cP d (1+ns.length) l
def cP :Nat→Nat→List VT→Nat
 |_,n,[]=>n
 |d,n,t::r=>if n<65536 then cP d (n+bM (d+1) t) r else n
end
def du (t:VT):Bool:=decide (3000<bM 0 t)
/-! ### how deep -/
mutual
def ap :VT→Nat
 | .mk _ _ _ l _=>bd l+1
def bd :List VT→Nat
 | []=>0
 |t::r=>max (ap t) (bd r)
end
/-! ### a walk from above: a state, and whether it goes on -/
mutual
def dM {σ:Type}(f:VT→Nat→σ→σ×Bool):VT→Nat→σ→σ×Bool
 | .mk k i s l ns,d,st=>if(f (.mk k i s l ns) d st).2 then eF f l (d+1) (f (.mk k i s l ns) d st).1 else((f (.mk k i s l ns) d st).1,false)
def eF {σ:Type}(f:VT→Nat→σ→σ×Bool):List VT→Nat→σ→σ×Bool
 | [],_,st=>(st,true)
 |t::r,d,st=>if(dM f t d st).2 then eF f r d (dM f t d st).1 else((dM f t d st).1,false)
end
/-! ### names -/
def bB :List ByteArray→Bool
 | []=>true
 |s::r=>cD s.data.toList && !((r.map fun x=>x.data.toList).contains s.data.toList) && bB r
/-! ### may it be -/
def bi (k i:Int)(s:ByteArray)(n:Nat)(ns:List ByteArray):Bool:=
 if k=1 then decide (i=0) && decide (s.toList= []) && (n == 0 && ns.length == 0)
 else if k=2 then(decide (i=0) || decide (i=1)) && decide (s.toList= []) && (n == 0 && ns.length == 0)
 else if k=3 then decide (s.toList= []) && (n == 0 && ns.length == 0)
 else if k=4∨k=5 then decide (i=0) && (n == 0 && ns.length == 0)
 else if k=6 then decide (i=0) && decide (s.toList= []) && ns.length == 0
 else if k=7 then decide (i=0) && decide (s.toList= []) && ns.length == n && bB ns
 else false
def lR :VT→Bool
 | .mk k i s l ns=>bi k i s l.length ns
mutual
def bq :VT→Bool
 | .mk k i s l ns=>lR (.mk k i s l ns) && dh l
def dh :List VT→Bool
 | []=>true
 |t::r=>bq t && dh r
end
end Go.Proofs.YtgfidiocmiolpaaGreat
/- What each function of the package that lays numbers, counts and texts as bytes does, call by call. -/
namespace Go.Proofs.YtgfidiocmiolpaaGreat
open Lib (hid)
open Go.RowKit
theorem Tryz.infoU8 :(Tryz.prog.info? 5).map (fun i=>(i.zero,i.size,i.bytes))=some (some (.int .u8 0),1,1):=by kernel_rfl
theorem yU :IntKind.u64.max=18446744073709551615:=by decide
theorem zp (a:Nat)(ha:a<18446744073709551616):18446744073709551615 ^^^ a=18446744073709551615 - a:=by
 have h:(BitVec.allOnes 64 ^^^ BitVec.ofNat 64 a)= ~~~ (BitVec.ofNat 64 a):=by
  rw[BitVec.allOnes_xor]
 have h2:=congrArg BitVec.toNat h;rw[BitVec.toNat_xor,BitVec.toNat_allOnes,BitVec.toNat_not,BitVec.toNat_ofNat,Nat.mod_eq_of_lt ha]at h2;exact h2
theorem yw (x:Int)(h1: -9223372036854775808≤x)(h2:x<0):
  bits .xor .u64 IntKind.u64.max (IntKind.u64.wrap (IntKind.u64.wrap x * 2))=(zig x:Int):=by
 have e:IntKind.u64.wrap (IntKind.u64.wrap x * 2)=((2 * x+18446744073709551616).toNat:Int):=by
  rw[IntKind.wrap_u64,IntKind.wrap_u64];omega
 have hm:IntKind.u64.max=((18446744073709551615:Nat):Int):=yU;rw[e,hm,u64_xor_nat _ _ (by omega) (by omega),zp _ (by omega)];unfold zig;rw[if_pos h2];omega
theorem wX (x:Int)(h1:0≤x)(h2:x≤9223372036854775807):
  IntKind.u64.wrap (IntKind.u64.wrap x * 2)=(zig x:Int):=by
 rw[IntKind.wrap_u64,IntKind.wrap_u64];unfold zig;rw[if_neg (by omega)];omega
theorem lF {a b:Int}(h:a=b):Ending.returned (.int .u64 a)= .returned (.int .u64 b):=by rw[h]
theorem aH {a b:Int}(h:a=b):Ending.returned (.int .i64 a)= .returned (.int .i64 b):=by rw[h]
theorem xe (x:Int)(w:World)(h1: -9223372036854775808≤x)(h2:x≤9223372036854775807):
  Calls Tryz.prog 194 #[.int .i64 x] w fun e w'=>e= .returned (.int .u64 (zig x))∧w=w':=by
 have H1:=hid h1;have H2:=hid h2;clear h1 h2;go_enter Tryz.func194,Tryz.ntmps194;go_wp2
 ·have hx:x<0:=by assumption
  go_ret;exact⟨lF (yw x H1.out hx),rfl⟩
 ·have hx:0≤x:=by assumption
  go_ret;exact⟨lF (wX x hx H2.out),rfl⟩
theorem rv (n:Nat)(hn:n<18446744073709551616)(h:((n:Int) % 2 == 1)=false):wrap64 ((n:Int) / 2)=zag n:=by
 have h': ¬n % 2=1:=by simp at h;omega
 unfold zag wrap64;rw[if_neg h'];omega
theorem sB (n:Nat)(hn:n<18446744073709551616)(h:((n:Int) % 2 == 1)=true):bits .xor .i64 (-1) (wrap64 ((n:Int) / 2))=zag n:=by
 have h':n % 2=1:=by simp at h;omega
 have e:wrap64 ((n:Int) / 2)=((n / 2:Nat):Int):=by unfold wrap64;omega
 rw[e,i64_not _ (by omega)];unfold zag;rw[if_pos h'];omega
theorem tm (n:Nat)(w:World)(hn:n<18446744073709551616):
  Calls Tryz.prog 210 #[.int .u64 n] w fun e w'=>e= .returned (.int .i64 (zag n))∧w=w':=by
 have H1:=hid hn;clear hn;go_enter Tryz.func210,Tryz.ntmps210;go_wp2
 ·have hx:((n:Int) % 2 == 1)=true:=by assumption
  go_ret;exact⟨aH (sB n H1.out hx),rfl⟩
 ·have hx:((n:Int) % 2 == 1)=false:=by assumption
  go_ret;exact⟨aH (rv n H1.out hx),rfl⟩
def ao (w:World)(B:Nat)(v:Value)(l:List UInt8):Prop:=w.ownsRow B 5 1 v l.length (aF l)
theorem yB (n:Nat):bits .or .u8 ((n:Int) % 128) 128=((UInt8.ofNat (n % 128+128)).toNat:Int):=by
 rw[br _ (by omega)];have e:((n:Int) % 128)=((n % 128:Nat):Int):=by omega
 rw[e];have h2:(128:Int)=((128:Nat):Int):=rfl;rw[h2,u8_or_nat _ _ (by omega) (by omega),Nat.or_comm,nat_join 7 128 (n % 128) (by decide) (by simp;omega)];omega
theorem jg {w1:World}{B:Nat}{v':Value}{l:List UInt8}{b:UInt8}{u:Int}(hu:u=(b.toNat:Int))
  (h:w1.ownsRow B 5 1 v' (l.length+1) (aF l++[Value.int .u8 u])):ao w1 B v' (l++[b]):=by
 subst hu;unfold ao;rw[d9,th,List.length_append];exact h
theorem jh {B:Nat}{w wr w1:World}{v:Value}{l:List UInt8}{o:Obj}(hb:Below B w wr)(hB:B≤w.heap.size)(hown:ao wr B v l)(hg:(wr.alloc o).grownBy w1 v.ownBlock):Below B w w1:=
 (hb.alloc (Nat.le_trans hB hb.size) o).grown hg (by have:=hb.size;simp;omega) (fun k hk=>(hown.lt k hk).1)
theorem tX (m:Nat)(h:m<128):(m:Int)=((UInt8.ofNat m).toNat:Int):=by
 rw[br _ (by omega)]
set_option maxRecDepth 1000000 in
theorem mj (B:Nat)(v:Value)(xs:List UInt8)(n:Nat)(w:World)(hn:n<18446744073709551616)(hown:ao w B v xs)(hB:B≤w.heap.size)(hx:xs.length≤140737488355300):
  Calls Tryz.prog 102 #[v,.int .u64 n] w fun e w'=> ∃v',e= .returned v'∧ao w' B v' (xs++grp n)∧Below B w w':=by
 obtain⟨i0,hi,hz0,hz1,hz2⟩:=info_parts Tryz.infoU8;have HN:=hid hn;have HX:=hid hx;clear hn hx;go_enter Tryz.func102,Tryz.ntmps102;go_wp2
 go_loopw [0,1] (fun v1 n1 wr=> ∃(m:Nat) (acc:List UInt8),n1= .int .u64 m∧Hid (m<18446744073709551616∧acc++grp m=grp n)∧ao wr B v1 (xs++acc)∧Below B w wr) (fun _ n1 _=>(intOf n1).toNat)
 case atStart=>exact⟨n,[],rfl,⟨HN.out,rfl⟩,by simpa using hown,Below.refl _ _⟩
 case round=>
  obtain⟨m,acc,rfl,HM,hown1,hbel⟩:=hrel
  have hal:acc.length≤11:=by
   have h1:=congrArg List.length HM.out.2;have:=(ak n).1;simp at h1;omega
  have hsz:=hbel.size;by_cases hm:128≤m
  ·have hown2:wr.ownsRow B 5 1 _ (xs++acc).length (aF (xs++acc)):=hown1;go_wp2_with(at_builtin;go_must (refine wpList_append_own _ rfl _ _ 23 rfl B 5 i0 (.int .u8 0) 1 1 Tryz.underlying23 hi hz0 hz1 hz2 rfl (by decide) _ _ _ rfl (hown2.alloc _) ⟨wr.heap.size,0,none⟩ 1 1 [.int .u8 (bits .or .u8 ((m:Int) % 128) 128)] rfl rfl ?c1 ?c2 ?c3 ?c4 ?c5 ?_));case c1=>exact cell_one_new _ _ _
   case c2=>intro u hu;simp at hu;subst hu;rfl
   case c3=>have:=HX.out;rw[List.length_append];unfold maxLen;omega
   case c4=>have:=HX.out;rw[List.length_append];omega
   case c5=>simp;omega
   intro v2 w2 hown3 hg _;have hb2:=jh hbel hB hown1 hg;have hs2:=jg (l:=xs++acc) (yB m) (by rw[List.length_append];exact hown3);clear hown3 hg hown2 hown1;go_wp2
   go_roundw
   case rel=>exact⟨m / 128,acc++[UInt8.ofNat (m % 128+128)],by go_num,⟨by have:=HM.out.1;omega,by
    rw[List.append_assoc,List.singleton_append,←ov m hm HM.out.1];exact HM.out.2⟩,by rw[←List.append_assoc];exact hs2,hb2⟩
   case measure=>simp[intOf];omega
  ·have hown2:wr.ownsRow B 5 1 _ (xs++acc).length (aF (xs++acc)):=hown1;have hm':m<128:=by omega
   go_wp2_with(at_builtin;go_must (refine wpList_append_own _ rfl _ _ 23 rfl B 5 i0 (.int .u8 0) 1 1 Tryz.underlying23 hi hz0 hz1 hz2 rfl (by decide) _ _ _ rfl (hown2.alloc _) ⟨wr.heap.size,0,none⟩ 1 1 [.int .u8 (m:Int)] rfl rfl ?d1 ?d2 ?d3 ?d4 ?d5 ?_));case d1=>exact cell_one_new _ _ _
   case d2=>intro u hu;simp at hu;subst hu;rfl
   case d3=>have:=HX.out;rw[List.length_append];unfold maxLen;omega
   case d4=>have:=HX.out;rw[List.length_append];omega
   case d5=>simp;omega
   intro v2 w2 hown3 hg _;have hb2:=jh hbel hB hown1 hg;have hs2:=jg (l:=xs++acc) (tX m hm') (by rw[List.length_append];exact hown3);clear hown3 hg hown2 hown1;go_wp2;go_ret;exact⟨_,rfl,by rw[←HM.out.2,od m hm',←List.append_assoc];exact hs2,hb2⟩
theorem ao.below {w w':World}{B:Nat}{v:Value}{l:List UInt8}(h:ao w B v l)(hb:Below w.heap.size w w'):ao w' B v l:=by
 obtain⟨h1,h2⟩:=h;refine⟨h1,?_⟩;rcases h2 with h2|⟨g,cap,cur,hv,hg,hh,r⟩
 ·exact Or.inl h2
 ·refine Or.inr ⟨g,cap,cur,hv,hg,?_,r⟩;have hlt:g<w.heap.size:=(Array.getElem?_eq_some_iff.1 hh).1;rw[hb.block g hlt];exact hh
theorem ao.base {w:World}{B B':Nat}{v:Value}{l:List UInt8}(h:ao w B v l)(hb:B'≤B):ao w B' v l:=Go.Joins.ownsRow_le h hb
theorem lC (l:List UInt8):strOfNums (l.map fun b=>(b.toNat:Int))=⟨l.toArray⟩:=by
 unfold strOfNums
 congr 2
 rw[List.map_map]
 conv=>rhs;rw[←List.map_id l]
 apply List.map_congr_left;intro b _;simp
def gw (l:List UInt8)(w:World)(e:Ending)(w':World):Prop:= ∃v,e= .returned v∧ao w' w.heap.size v l∧Below w.heap.size w w'
theorem ur (x:Int)(w:World)(h1: -9223372036854775808≤x)(h2:x≤9223372036854775807):
  Calls Tryz.prog 171 #[.int .i64 x] w (gw (grp (zig x)) w):=by
 have HZ:=hid (sH x h1 h2);have H1:=hid h1;have H2:=hid h2;clear h1 h2;go_enter Tryz.func171,Tryz.ntmps171;go_wp2_with fail;refine(xe x _ H1.out H2.out).mono ?_;rintro e w' ⟨rfl,rfl⟩;go_wp2_with fail;refine(mj w.heap.size _ [] _ _ HZ.out (World.ownsRow_nil _ _ _ _) (Nat.le_refl _) (by simp)).mono ?_;rintro e w1 ⟨v,rfl,hv,hb⟩;go_wp2_with fail;go_ret;exact⟨_,rfl,by simpa using hv,hb⟩
def Aa (n:Int)(w:World)(e:Ending)(w':World):Prop:=
 (0≤n∧n≤4611686018427387904∧ ∃v,e= .returned (.tuple #[v,.int .i64 0])∧ao w' w.heap.size v (grp n.toNat)∧Below w.heap.size w w')∨
 ((n<0∨4611686018427387904<n)∧e= .returned (.tuple #[.slice none 0 0,.int .i64 1])∧w=w')
theorem ji (n:Int)(w:World)(h2:n≤9223372036854775807):Calls Tryz.prog 100 #[.int .i64 n] w (Aa n w):=by
 have H2:=hid h2;clear h2;by_cases h0:n<0
 ·go_enter Tryz.func100,Tryz.ntmps100;go_wp2_with fail
  go_ret2
  exact .inr ⟨.inl h0,rfl,rfl⟩
 ·by_cases h3:4611686018427387904<n
  ·go_enter Tryz.func100,Tryz.ntmps100;go_wp2_with fail
   go_ret2
   exact .inr ⟨.inr h3,rfl,rfl⟩
  ·obtain⟨m,rfl⟩:=Int.eq_ofNat_of_zero_le (by omega:0≤n);have hb:m≤4611686018427387904:=by omega
   go_enter Tryz.func100,Tryz.ntmps100;go_wp2_with fail;refine(mj w.heap.size _ [] m _ (by omega) (World.ownsRow_nil _ _ _ _) (Nat.le_refl _) (by simp)).mono ?_;rintro e w1 ⟨v,rfl,hv,hb⟩;go_wp2_with fail
   go_ret2
   exact .inl ⟨by omega,by omega,v,rfl,by simpa using hv,hb⟩
def txt (s:ByteArray):List UInt8:=grp s.size++s.data.toList
theorem nM {w w1 w2:World}(h:Below w.heap.size w w1)(h2:Below w1.heap.size w1 w2):Below w.heap.size w w2:=h.trans (h2.mono h.size)
theorem mf {B:Nat}{w w1:World}{row:Option Nat}(hg:w.grownBy w1 row)(hB:B≤w.heap.size)(hr: ∀k,row=some k→B≤k):Below B w w1:=(Below.refl _ _).grown hg hB hr
set_option maxRecDepth 1000000 in
theorem ge (s:ByteArray)(w:World)(hs:s.size≤140737488351232):
  Calls Tryz.prog 67 #[.string s] w (gw (txt s) w):=by
 obtain⟨i0,hi,hz0,hz1,hz2⟩:=info_parts Tryz.infoU8;have HS:=hid hs;have hs':(s.size:Int)≤9223372036854775000:=by omega
 clear hs;go_enter Tryz.func67,Tryz.ntmps67;go_wp2_with(at_make;go_must (refine wpList_make_own _ rfl _ _ 23 rfl w.heap.size 5 i0 (.int .u8 0) 1 Tryz.underlying23 hi hz0 hz1 _ _ _ (10+s.size) rfl rfl ?b0 ?b1 ?b2 ?b3 ?_));case b0=>omega
 case b1=>have:=HS.out;rw[hz2];omega
 case b2=>have:=HS.out;unfold maxLen;omega
 case b3=>exact Nat.le_refl _
 intro w1 hown hg;have hb1:Below w.heap.size w w1:=mf hg (Nat.le_refl _) (fun k hk=>by cases hk);have hsz1:=hb1.size;clear hg;go_wp2_with fail;refine(mj w.heap.size _ [] s.size _ (by omega) hown hsz1 (by simp)).mono ?_;rintro e w2 ⟨v,rfl,hv,hb⟩;have hb2:Below w.heap.size w w2:=hb1.trans hb;have hsz2:=hb2.size;have hgl:=ak s.size;rw[List.nil_append]at hv;have hv':w2.ownsRow w.heap.size 5 1 v (grp s.size).length (aF (grp s.size)):=hv;go_wp2_with(at_builtin;go_must (refine Lib.wpList_append_own_string _ rfl _ _ 23 9 rfl w.heap.size 5 i0 Tryz.underlying23 Tryz.underlying9 hi hz0 hz1 hz2 _ _ _ rfl hv' s rfl ?c0 ?c1 ?c2 ?_));case c0=>have:=HS.out;unfold maxLen;omega
 case c1=>have:=HS.out;omega
 case c2=>exact hsz2
 intro v3 w3 hown3 hg3 _;have hb3:Below w.heap.size w w3:=hb2.grown hg3 hsz2 (fun k hk=>(hv'.lt k hk).1)
 have hfin:ao w3 w.heap.size v3 (txt s):=by
  unfold ao txt;rw[d9,List.length_append];exact hown3
 clear hown3 hg3 hv hv';go_wp2_with fail;go_ret;exact⟨_,rfl,hfin,hb3⟩
theorem qQ (m:Nat)(h:m<18446744073709551616):IntKind.u64.wrap ((m:Int) / 128)=((m / 128:Nat):Int):=by rw[IntKind.wrap_u64];omega
set_option maxRecDepth 1000000 in
theorem ln (n:Nat)(w:World)(hn:n<18446744073709551616):
  Calls Tryz.prog 75 #[.int .u64 n] w (gw (grp n) w):=by
 obtain⟨i0,hi,hz0,hz1,hz2⟩:=info_parts Tryz.infoU8;have HN:=hid hn;clear hn;go_enter Tryz.func75,Tryz.ntmps75;go_wp2
 go_loopw [0,3] (fun n1 v1 wr=> ∃(m:Nat) (acc:List UInt8),n1= .int .u64 m∧Hid (m<18446744073709551616∧acc++grp m=grp n)∧ao wr w.heap.size v1 acc∧Below w.heap.size w wr) (fun n1 _ _=>(intOf n1).toNat)
 case atStart=>exact⟨n,[],rfl,⟨HN.out,rfl⟩,World.ownsRow_nil _ _ _ _,Below.refl _ _⟩
 case round=>
  obtain⟨m,acc,rfl,HM,hown1,hbel⟩:=hrel
  have hal:acc.length≤11:=by
   have h1:=congrArg List.length HM.out.2;have:=(ak n).1;simp at h1;omega
  have hsz:=hbel.size;have hown2:wr.ownsRow w.heap.size 5 1 _ acc.length (aF acc):=hown1;by_cases hm:128≤m
  ·go_wp2_with(at_builtin;go_must (refine wpList_append_own _ rfl _ _ 23 rfl w.heap.size 5 i0 (.int .u8 0) 1 1 Tryz.underlying23 hi hz0 hz1 hz2 rfl (by decide) _ _ _ rfl (hown2.alloc _) ⟨wr.heap.size,0,none⟩ 1 1 [.int .u8 ((m:Int) % 128+128)] rfl rfl ?c1 ?c2 ?c3 ?c4 ?c5 ?_));case c1=>exact cell_one_new _ _ _
   case c2=>intro u hu;simp at hu;subst hu;rfl
   case c3=>unfold maxLen;omega
   case c4=>omega
   case c5=>simp;omega
   intro v2 w2 hown3 hg _;have hb2:=jh hbel (Nat.le_refl _) hown1 hg;have hs2:=jg (l:=acc) (b:=UInt8.ofNat (m % 128+128)) (by rw[br _ (by omega)];omega) hown3;clear hown3 hg hown2 hown1;go_wp2
   go_roundw
   case rel=>exact⟨m / 128,acc++[UInt8.ofNat (m % 128+128)],by rw[qQ m HM.out.1],⟨by have:=HM.out.1;omega,by
    rw[List.append_assoc,List.singleton_append,←ov m hm HM.out.1];exact HM.out.2⟩,hs2,hb2⟩
   case measure=>simp only[intOf,qQ m HM.out.1];omega
  ·have hm':m<128:=by omega
   go_wp2_with(at_builtin;go_must (refine wpList_append_own _ rfl _ _ 23 rfl w.heap.size 5 i0 (.int .u8 0) 1 1 Tryz.underlying23 hi hz0 hz1 hz2 rfl (by decide) _ _ _ rfl (hown2.alloc _) ⟨wr.heap.size,0,none⟩ 1 1 [.int .u8 (m:Int)] rfl rfl ?d1 ?d2 ?d3 ?d4 ?d5 ?_));case d1=>exact cell_one_new _ _ _
   case d2=>intro u hu;simp at hu;subst hu;rfl
   case d3=>unfold maxLen;omega
   case d4=>omega
   case d5=>simp;omega
   intro v2 w2 hown3 hg _;have hb2:=jh hbel (Nat.le_refl _) hown1 hg;have hs2:=jg (l:=acc) (tX m hm') hown3;clear hown3 hg hown2 hown1;go_wp2;go_ret;exact⟨_,rfl,by rw[←HM.out.2,od m hm'];exact hs2,hb2⟩
theorem xD (x:Int)(w:World)(h1: -9223372036854775808≤x)(h2:x≤9223372036854775807):
  Calls Tryz.prog 127 #[.int .i64 x] w fun e w'=>e= .returned (.int .u64 (zig x))∧w=w':=by
 by_cases hx:0≤x
 ·go_enter Tryz.func127,Tryz.ntmps127;go_wp2;go_ret;exact⟨lF (by unfold zig;split<;>omega),rfl⟩
 ·go_enter Tryz.func127,Tryz.ntmps127;go_wp2;go_ret;exact⟨lF (by unfold zig;split<;>omega),rfl⟩
theorem qS (x:Int)(w:World)(h1: -9223372036854775808≤x)(h2:x≤9223372036854775807):
  Calls Tryz.prog 109 #[.int .i64 x] w (gw (grp (zig x)) w):=by
 have HZ:=hid (sH x h1 h2);have H1:=hid h1;have H2:=hid h2;clear h1 h2;go_enter Tryz.func109,Tryz.ntmps109;go_wp2_with fail;refine(xD x _ H1.out H2.out).mono ?_;rintro e w' ⟨rfl,rfl⟩;go_wp2_with fail;refine(ln _ _ HZ.out).mono ?_;rintro e w1 ⟨v,rfl,hv,hb⟩;go_wp2_with fail;go_ret;exact⟨_,rfl,hv,hb⟩
theorem bH (n:Nat)(w:World)(h:n≤9223372036854775807):
  Calls Tryz.prog 34 #[.int .i64 n] w (gw (grp n) w):=by
 go_enter Tryz.func34,Tryz.ntmps34;go_wp2_with fail;refine(ln _ _ (by omega)).mono ?_;rintro e w1 ⟨v,rfl,hv,hb⟩;go_wp2_with fail;go_ret;exact⟨_,rfl,hv,hb⟩
def Rng (x:Int):Prop:= -9223372036854775808≤x∧x≤9223372036854775807
mutual
def LV (w:World)(S:Nat→Prop):VT→Value→Prop
 | .mk k i s l ns,v=> ∃A c A' c',v= .agg #[.int .i64 k,.int .i64 i,.string s,.slice A l.length c,.slice A' ns.length c']∧Rng k∧Rng i∧s.size≤140737488351232∧
   l.length≤1759218604390∧ns.length≤8796093021952∧aA w S A' ns∧(0<l.length→ ∃b off,A=some ⟨b,off,none⟩∧S b∧LVs w S b off l)
def LVs (w:World)(S:Nat→Prop)(b:Nat):Nat→List VT→Prop
 |_,[]=>True
 |off,t::r=>(∃c0 c1 c2 c3 c4,w.cell? ⟨b,off,none⟩=some c0∧w.cell? ⟨b,off+1,none⟩=some c1∧w.cell? ⟨b,off+2,none⟩=some c2∧w.cell? ⟨b,off+3,none⟩=some c3∧w.cell? ⟨b,off+4,none⟩=some c4∧
   LV w S t (.agg #[c0,c1,c2,c3,c4]))∧LVs w S b (off+5) r
end
def LVA (w:World)(S:Nat→Prop)(A:Option Addr)(l:List VT):Prop:=0<l.length→ ∃b off,A=some ⟨b,off,none⟩∧S b∧LVs w S b off l
mutual
theorem LV.keep {w w':World}{S:Nat→Prop}(hk: ∀b,S b→w'.heap[b]? =w.heap[b]?): ∀ {t:VT} {v:Value},LV w S t v→LV w' S t v
 | .mk k i s l ns,v,h=>by
  unfold LV at h ⊢;obtain⟨A,c,A',c',hv,h1,h2,h3,h4,h5,h6,h7⟩:=h;refine⟨A,c,A',c',hv,h1,h2,h3,h4,h5,h6.keep hk,fun hp=> ?_⟩;obtain⟨b,off,hA,hS,hl⟩:=h7 hp;exact⟨b,off,hA,hS,LVs.keep hk hS hl⟩
theorem LVs.keep {w w':World}{S:Nat→Prop}(hk: ∀b,S b→w'.heap[b]? =w.heap[b]?){b:Nat}(hb:S b): ∀ {l:List VT} {off:Nat},LVs w S b off l→LVs w' S b off l
 | [],_,_=>by unfold LVs;trivial
 |t::r,off,h=>by
  unfold LVs at h ⊢;obtain⟨⟨c0,c1,c2,c3,c4,h0,h1,h2,h3,h4,hv⟩,hr⟩:=h;have e: ∀o,w'.cell? ⟨b,o,none⟩=w.cell? ⟨b,o,none⟩:=fun o=>World.cell?_of_block (a:=⟨b,o,none⟩) (hk b hb);exact⟨⟨c0,c1,c2,c3,c4,(e _).trans h0,(e _).trans h1,(e _).trans h2,(e _).trans h3,(e _).trans h4,LV.keep hk hv⟩,LVs.keep hk hb hr⟩
end
mutual
theorem LV.imp {w:World}{S S':Nat→Prop}(hS: ∀b,S b→S' b): ∀ {t:VT} {v:Value},LV w S t v→LV w S' t v
 | .mk k i s l ns,v,h=>by
  unfold LV at h ⊢;obtain⟨A,c,A',c',hv,h1,h2,h3,h4,h5,h6,h7⟩:=h;refine⟨A,c,A',c',hv,h1,h2,h3,h4,h5,h6.imp hS,fun hp=> ?_⟩;obtain⟨b,off,hA,hb,hl⟩:=h7 hp;exact⟨b,off,hA,hS b hb,LVs.imp hS hl⟩
theorem LVs.imp {w:World}{S S':Nat→Prop}(hS: ∀b,S b→S' b){b:Nat}: ∀ {l:List VT} {off:Nat},LVs w S b off l→LVs w S' b off l
 | [],_,_=>by unfold LVs;trivial
 |t::r,off,h=>by
  unfold LVs at h ⊢;obtain⟨⟨c0,c1,c2,c3,c4,h0,h1,h2,h3,h4,hv⟩,hr⟩:=h;exact⟨⟨c0,c1,c2,c3,c4,h0,h1,h2,h3,h4,LV.imp hS hv⟩,LVs.imp hS hr⟩
end
theorem LVA.keep {w w':World}{S:Nat→Prop}{A:Option Addr}{l:List VT}(h:LVA w S A l)(hk: ∀b,S b→w'.heap[b]? =w.heap[b]?):LVA w' S A l:=by
 intro hp;obtain⟨b,off,hA,hS,hl⟩:=h hp;exact⟨b,off,hA,hS,LVs.keep hk hS hl⟩
theorem LV.shape {w:World}{S:Nat→Prop}{t:VT}{v:Value}(h:LV w S t v): ∃A c A' c',v= .agg #[.int .i64 t.kind,.int .i64 t.num,.string t.text,.slice A t.items.length c,.slice A' t.names.length c']∧Rng t.kind∧Rng t.num∧t.text.size≤140737488351232∧
  t.items.length≤140737488351232∧t.names.length≤140737488351232∧aA w S A' t.names∧LVA w S A t.items:=by
 cases t with
 |mk k i s l ns=>
  unfold LV at h;obtain⟨A,c,A',c',hv,h1,h2,h3,h4,h5,h6,h7⟩:=h;exact⟨A,c,A',c',hv,h1,h2,h3,Nat.le_trans h4 (by decide),Nat.le_trans h5 (by decide),h6,h7⟩
theorem LV.mk {w:World}{S:Nat→Prop}{k i:Int}{s:ByteArray}{l:List VT}{ns:List ByteArray}{A A':Option Addr}{c c':Nat}(h1:Rng k)(h2:Rng i)(h3:s.size≤140737488351232)(h4:l.length≤1759218604390)(h5:ns.length≤8796093021952)
  (h6:aA w S A' ns) (h7:LVA w S A l):LV w S (.mk k i s l ns) (.agg #[.int .i64 k,.int .i64 i,.string s,.slice A l.length c,.slice A' ns.length c']):=by
 unfold LV;exact⟨A,c,A',c',rfl,h1,h2,h3,h4,h5,h6,h7⟩
theorem LVs.at {w:World}{S:Nat→Prop}{b:Nat}: ∀ {l:List VT} {off:Nat},LVs w S b off l→ ∀j (h:j<l.length),∃c0 c1 c2 c3 c4,w.cell? ⟨b,off+j * 5,none⟩=some c0∧w.cell? ⟨b,off+j * 5+1,none⟩=some c1∧w.cell? ⟨b,off+j * 5+2,none⟩=some c2∧w.cell? ⟨b,off+j * 5+3,none⟩=some c3∧w.cell? ⟨b,off+j * 5+4,none⟩=some c4∧LV w S l[j] (.agg #[c0,c1,c2,c3,c4])
 | [],_,_,j,h=>absurd h (by simp)
 |t::r,off,h,0,_=>by unfold LVs at h;simpa using h.1
 |t::r,off,h,j+1,hj=>by
  unfold LVs at h;have:=LVs.at h.2 j (by simpa using hj);have e:off+5+j * 5=off+(j+1) * 5:=by omega
  rw[e]at this;simpa using this
theorem bR (m n:Nat):((m:Int) == (n:Int))=(m == n):=by rw[Bool.eq_iff_iff];simp;omega
theorem bt (m:Nat):((m:Int) == 0)=(m == 0):=bR m 0
theorem ac {w:World}(o:Obj):Below w.heap.size w (w.alloc o):=(Below.refl _ _).alloc (Nat.le_refl _) o
theorem eZ (a b d:Value)(A A':Option Addr)(n c m c':Nat)(w:World):Calls Tryz.prog 169 #[.agg #[a,b,d,.slice A n c,.slice A' m c']] w fun e w'=>e= .returned (.bool (n == 0 && m == 0))∧Below w.heap.size w w':=by
 go_enter Tryz.func169,Tryz.ntmps169;go_wp2
 all_goals
  go_ret;refine⟨?_,ac _⟩
  simp_all [bt]
end Go.Proofs.YtgfidiocmiolpaaGreat
