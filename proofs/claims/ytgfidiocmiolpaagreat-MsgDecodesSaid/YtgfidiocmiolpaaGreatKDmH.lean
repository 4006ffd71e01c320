/- The document's reading of a list of changes. -/
import Derived.Test.YtgfidiocmiolpaaGreatKDlU
import Derived.Test.YtgfidiocmiolpaaGreatKRdC
import Derived.Test.YtgfidiocmiolpaaGreatKRegR
import Derived.Test.YtgfidiocmiolpaaGreatKDlV
import Derived.Test.YtgfidiocmiolpaaGreatKEnC
set_option maxHeartbeats 64000000
set_option maxRecDepth 100000
set_option linter.unusedVariables false
set_option linter.unusedSimpArgs false
namespace Go.Proofs.YtgfidiocmiolpaaGreat
open Lib (hid)
open Go.RowKit
def gI (g:Nat)(a b:World):Prop:=b.heap[g]? =a.heap[g]?
theorem gI.refl (g:Nat)(w:World):gI g w w:=rfl
theorem gI.trans (g:Nat)(a b c:World)(x:gI g a b)(y:gI g b c):gI g a c:=Eq.trans y x
instance (g :Nat) (w:World):Inhabited (bW (gI g) w):=⟨⟨w,gI.refl g w⟩⟩
theorem ow {s:Option (List UInt8)}{k:Nat}{d:aU}(h:d∈(bL s k).1): ∀m,k≤m→d∈(bL s m).1
 |0,hm=>by
  obtain rfl:k=0:=by omega
  exact h
 |m+1,hm=>by
  by_cases hk:k=m+1
  ·rw[←hk];exact h
  ·exact List.mem_append_left _ (ow h m (by omega))
theorem wg {st:Option (List UInt8)}{k:Nat}{d:aU}(h:d∈(bL (ae 64 st).2 k).1)(hk:k≤(ae 64 st).1)(hm:cl d=false):cU st=([],none):=by
 have h1:=ow h _ hk
 cases hs:(bL (ae 64 st).2 (ae 64 st).1).2 with
 |none=>exact fD hs
 |some r=>
  rw[ie hs,if_neg];intro hc;unfold bK at hc
  split at hc
  ·cases hc
  ·split at hc
   ·rename_i ha;have:=List.all_eq_true.1 ha d h1;rw[hm]at this;cases this
   ·cases hc
theorem qD {st:Option (List UInt8)}{k:Nat}(h:(bL (ae 64 st).2 k).2=none)(hk:k≤(ae 64 st).1):cU st=([],none):=fD (lh h _ hk)
structure jD (st:Option (List UInt8))(k:Nat)(sk:Option (List UInt8))(lk:List aU):Prop where
 len:lk.length=k
 bad:sk=none→cU st=([],none)
 good: ∀r,sk=some r→bL (ae 64 st).2 k=(lk,some r)∧ ∀d∈lk,cl d=true
theorem jD.first (st:Option (List UInt8)):jD st 0 (ae 64 st).2 []:=⟨rfl,fun h=>qD (k:=0) h (Nat.zero_le _),fun r h=>⟨by show([],_)=_;rw[h],fun d hd=>absurd hd List.not_mem_nil⟩⟩
theorem jD.next {st:Option (List UInt8)}{k:Nat}{r0:List UInt8}{lk:List aU}{d:aU}{s5 s6:Option (List UInt8)}(h:jD st k (some r0) lk)(hk:k+1≤(ae 64 st).1)(h5:s5=none→(rdD (some r0)).2=none)(h6: ∀r,s5=some r→rdD (some r0)=(d,some r))(hs:s6=if cl d=true then s5 else none):jD st (k+1) s6 (lk++[d]):=by
 obtain⟨hl,-,hg⟩:=h;obtain⟨hg1,hg2⟩:=hg r0 rfl;have hn:(bL (ae 64 st).2 (k+1))=((bL (ae 64 st).2 k).1++[(rdD (bL (ae 64 st).2 k).2).1],(rdD (bL (ae 64 st).2 k).2).2):=rfl;rw[hg1]at hn;simp only at hn;refine⟨by simp[hl],fun e=> ?_,fun r e=> ?_⟩
 ·cases h5':s5 with
  |none=>exact qD (k:=k+1) (by rw[hn];exact h5 h5') hk
  |some r5=>
   have hd:=h6 r5 h5';by_cases hm:cl d=true
   ·rw[if_pos hm,h5']at hs;rw[hs]at e;cases e
   ·exact wg (k:=k+1) (d:=d) (by rw[hn,hd];simp) hk (by simpa using hm)
 ·by_cases hm:cl d=true
  ·rw[if_pos hm]at hs;have hd:=h6 r (hs▸e)
   exact⟨by rw[hn,hd],fun x hx=>by
    rcases List.mem_append.1 hx with hx|hx
    ·exact hg2 x hx
    ·rw[List.mem_singleton.1 hx];exact hm⟩
  ·rw[if_neg hm]at hs;rw[hs]at e;cases e
theorem jD.end {st:Option (List UInt8)}{r:List UInt8}{lk:List aU}{k:Nat}(h:jD st k (some r) lk)(hk:k=(ae 64 st).1)(h64:k≤64):cU st=(lk,some r):=by
 obtain⟨h1,h2⟩:=h.good r rfl;rw[hk]at h1;rw[ie (by rw[h1]),h1]
 have hc:bK lk=0:=by
  unfold bK;rw[if_neg (by have:=h.len;omega),if_pos (List.all_eq_true.2 h2)]
 simp only;rw[if_pos hc]
theorem bx.nilc {w0 w:World}{A:Option Addr}{c:Nat}{l:List aU}(h:bx w0 w A c l):A=none→c=0:=fun hA=>by
 obtain⟨xs,S,hown,-⟩:=h;rcases hown.2 with ⟨h0,-⟩|⟨g,cap,cur,h1,-⟩
 ·injection h0
 ·subst hA;injection h1 with h1
  cases h1
def kj (g BB:Nat)(st:Option (List UInt8))(w:World)(e:Ending)(w':World):Prop:=
 ∃A c,e= .returned (.slice A (cU st).1.length c)∧bQ w' (dB w.heap.size w') A (cU st).1∧RS w' g BB (cU st).2∧au w w' g∧(cU st).1.length≤c∧(A=none→c=0)
theorem fq {w wr w5 w7:World}{g BB k c c7 p:Nat}{A:Option Addr}{sk:Option (List UInt8)}{lk:List aU}{d:aU}{cs xs:List Value}{S S2:Nat→Prop}{v7:Value}(hlen:lk.length=k)(hB:BB≤g)(hg:g<w.heap.size)(hw:au w wr g)(hr:bx w wr A c lk)(ho5:au wr w5 g)(hs5:RS w5 g BB sk)(hop:em w5 S2 d cs.toArray)(hS2: ∀b,S2 b→wr.heap.size≤b∧b<w5.heap.size)
  (hl:dO (w5.alloc (.cells cs.toArray 114)) S lk xs) (hS: ∀b,S b→w.heap.size≤b∧b<(w5.alloc (.cells cs.toArray 114)).heap.size∧ ∀p,(Value.slice A k c).ownBlock=some p→b≠p)
  (hv:v7= .slice (some ⟨p,0,none⟩) (k+1) c7) (hown:w7.ownsRow w.heap.size 114 8 v7 (k+1) (xs++cs)) (hb:(w5.alloc (.cells cs.toArray 114)).grownBy w7 (Value.slice A k c).ownBlock) (hat:v7.ownBlock=(Value.slice A k c).ownBlock∨v7.ownBlock=some (w5.alloc (.cells cs.toArray 114)).heap.size):
  bx w w7 (some ⟨p,0,none⟩) c7 (lk++[d])∧RS w7 g BB sk∧au w w7 g:=by
 have hpo: ∀p,(Value.slice A k c).ownBlock=some p→w.heap.size≤p∧p<wr.heap.size:=by
  have h:=hr.own;rw[hlen]at h;exact h
 have hz5:=ho5.size;have hzw:=hw.size;have hz6:(w5.alloc (.cells cs.toArray 114)).heap.size=w5.heap.size+1:=by simp
 have k6: ∀b,b<w5.heap.size→(w5.alloc (.cells cs.toArray 114)).heap[b]? =w5.heap[b]? :=fun b hb=>Below.heap_alloc w5 _ b hb;have k7: ∀b,b<w5.heap.size→(∀p,(Value.slice A k c).ownBlock=some p→b≠p)→w7.heap[b]? =w5.heap[b]? :=fun b hb' hn=>(hb.block b (by omega) (fun e=>hn b e.symm rfl)).trans (k6 b hb');subst hv;refine⟨?_,?_,?_⟩
 ·refine bx.push (S2:=S2) hlen.symm hb ?_ hown hl (hop.keep fun b hb'=>k6 b (hS2 b hb').2) hS ?_
  ·exact hat.imp id fun h=>⟨_,Nat.le_refl _,h⟩
  ·intro b hb';have h1:=(hS2 b hb').1;have h2:=(hS2 b hb').2;exact⟨by omega,by omega,fun q hq e=>by have:=(hpo q hq).2;omega⟩
 ·exact hs5.keep (k7 g (by omega) fun q hq e=>by have:=(hpo q hq).1;omega) ⟨hb.os,hb.tape,hb.output,by have:=hb.size;omega,fun b hb'=>k7 b (by omega) fun q hq e=>by have:=(hpo q hq).1;omega⟩
 ·refine⟨hb.os.trans ((ho5.os).trans hw.os),hb.tape.trans ((ho5.tape).trans hw.tape),hb.output.trans ((ho5.output).trans hw.output),by have:=hb.size;omega,fun b hb' hne=> ?_⟩;exact(k7 b (by omega) fun q hq e=>by have:=(hpo q hq).1;omega).trans ((ho5.block b (by omega) hne).trans (hw.block b hb' hne))
theorem j0 (w:World)(cs:List Value)(t:TypeId){g:Nat}(hg:g=w.heap.size): ∀j u,cs[j]? =some u→(w.alloc (.cells cs.toArray t)).cell? ((⟨g,0,none⟩:Addr).add j)=some u:=by subst hg;exact gU w cs t
structure mE (wr wj:World)(g BB g6:Nat)(kd:Nat)(s3:Option (List UInt8))(j:Nat)(A:Option Addr)(c:Nat):Prop where
 only:au wr wj g
 src:RS wj g BB (rdK s3 j).2
 box:bC wj g6 (.int .i64 kd) (.slice A j c) (.int .i64 0) (.int .i64 0) (.string ⟨#[]⟩) (.slice none 0 0) (.slice none 0 0) (.int .i64 0)
 row:wj.ownsRow (g6+1) 9 1 (.slice A j c) j ((rdK s3 j).1.map Value.string)
 far:wr.heap.size≤g6
theorem gM {w w':World}{g BB:Nat}{st:Option (List UInt8)}(h:RS w g BB st)(hB:BB≤g)(ho:w'.os=w.os∧w'.tape=w.tape∧w'.output=w.output)(hz:w.heap.size≤w'.heap.size)(hk: ∀b,b≤g→w'.heap[b]? =w.heap[b]?):RS w' g BB st:=
 h.keep (hk g (Nat.le_refl _)) ⟨ho.1,ho.2.1,ho.2.2,hz,fun b hb=>hk b (by omega)⟩
theorem mE.next {wr wj w5 w7:World}{g BB g6 kd j c c7:Nat}{A A7:Option Addr}{s3:Option (List UInt8)}{sx:ByteArray}(hB:BB≤g)(hg:g<wr.heap.size)(h:mE wr wj g BB g6 kd s3 j A c)(ho5:au wj w5 g)(hs5:RS w5 g BB (am 32 (rdK s3 j).2).2)(hsx:sx=⟨(am 32 (rdK s3 j).2).1.toArray⟩)
  (hown:w7.ownsRow (g6+1) 9 1 (.slice A7 (j+1) c7) (j+1) ((rdK s3 j).1.map Value.string++[.string sx])) (hb:(w5.alloc (.cells #[.string sx] 9)).grownBy w7 (Value.slice A j c).ownBlock):
  mE wr (w7.setCell ⟨g6,1,none⟩ (.slice A7 (j+1) c7)) g BB g6 kd s3 (j+1) A7 c7:=by
 have hlo: ∀q,(Value.slice A j c).ownBlock=some q→g6+1≤q∧q<wj.heap.size:=fun q hq=>World.ownsRow.lt h.row q hq;have hfar:=h.far;have hz1:=h.only.size;have hz2:=ho5.size;have hz3:(w5.alloc (.cells #[.string sx] 9)).heap.size=w5.heap.size+1:=by simp
 have hz4:=hb.size;have hg6:=h.box.lt;have k7: ∀b,b<w5.heap.size→b≤g6→w7.heap[b]? =w5.heap[b]? :=fun b hb' hle=>(hb.block b (by omega) (fun e=>by have:=(hlo b e.symm).1;omega)).trans (Below.heap_alloc w5 _ b hb');have ks: ∀b,b≠g6→(w7.setCell ⟨g6,1,none⟩ (.slice A7 (j+1) c7)).heap[b]? =w7.heap[b]? :=fun b hb'=>heap_setCell_other _ ⟨g6,1,none⟩ b _ hb';have hzs:(w7.setCell ⟨g6,1,none⟩ (.slice A7 (j+1) c7)).heap.size=w7.heap.size:=by simp
 refine⟨⟨hb.os.trans (ho5.os.trans h.only.os),hb.tape.trans (ho5.tape.trans h.only.tape),hb.output.trans (ho5.output.trans h.only.output),by rw[hzs];omega,fun b hb' hne=> ?_⟩,?_,?_,?_,hfar⟩
 ·exact(ks b (by omega)).trans ((k7 b (by omega) (by omega)).trans ((ho5.block b (by omega) hne).trans (h.only.block b hb' hne)))
 ·exact gM hs5 hB ⟨hb.os,hb.tape,hb.output⟩ (by rw[hzs];omega) fun b hb'=>(ks b (by omega)).trans (k7 b (by omega) (by omega))
 ·have h1:bC w7 g6 (.int .i64 kd) (.slice A j c) (.int .i64 0) (.int .i64 0) (.string ⟨#[]⟩) (.slice none 0 0) (.slice none 0 0) (.int .i64 0):=(k7 g6 (by omega) (Nat.le_refl _)).trans ((ho5.block g6 hg6 (by rintro⟨⟩;omega)).trans h.box);exact h1.set1 _
 ·have h2:(rdK s3 (j+1)).1.map Value.string=(rdK s3 j).1.map Value.string++[.string sx]:=by
   show((rdK s3 j).1++[_]).map Value.string=_;rw[List.map_append,hsx];rfl
  rw[h2];exact aM hown fun q hq=>ks q (by have:=(World.ownsRow.lt hown q hq).1;omega)
theorem r8 (g BB:Nat)(st:Option (List UInt8))(w:World)(hs:RS w g BB st)(hB:BB≤g):Calls Tryz.prog 81 #[.pointer (some ⟨g,0,none⟩)] w (kj g BB st w):=by
 obtain⟨i0,hi,hz0,hz1,hz2⟩:=info_parts Tryz.infoDlt;obtain⟨i1,hj,hy0,hy1,hy2⟩:=info_parts Tryz.infoStr;have h64:(ae 64 st).1≤64:=aZ 64 st (by omega);have HC:=hid (aS g BB 64 st w hs hB (by omega));have HG:=hid hs.lt;have HBB:=hid hB;obtain⟨n,hn⟩: ∃n,n=(ae 64 st).1:=⟨_,rfl⟩;have HN:=hid hn;rw[←hn]at h64 HC;clear hs hn hB;go_enter Tryz.func81,Tryz.ntmps81;go_wp2_with fail;refine HC.out.mono ?_;rintro e w1 ⟨rfl,hs1,ho1⟩;have h0:Hid (∃sk,∃lk:List aU,jD st 0 sk lk∧RS w1 g BB sk∧au w w1 g∧bx w w1 none 0 lk):=hid ⟨_,[],jD.first st,hs1,ho1,bx.nil _ _⟩;clear hs1 ho1 HC;go_wp2_with fail
 go_loopw [4,5] (fun v i wr=> ∃(k:Nat) (A:Option Addr) (c:Nat),i= .int .i64 k∧k≤n∧v= .slice A k c∧Hid (∃sk,∃lk:List aU,jD st k sk lk∧RS wr g BB sk∧au w wr g∧bx w wr A c lk)) (fun _ i _=>n - (intOf i).toNat)
 case atStart=>exact⟨0,none,0,rfl,by omega,rfl,h0⟩
 case round=>
  obtain⟨wo,hwo⟩: ∃W,W=wr:=⟨_,rfl⟩;subst hwo;obtain⟨k,A,c,rfl,hk,rfl,HH⟩:=hrel;obtain⟨sk,lk,hinv,hsk,how,hrow⟩:=HH.out;have HI:=hid hinv;have HSK:=hid hsk;have HOW:=hid how;have HRW:=hid hrow;have b1:=bY hsk;clear HH hinv hsk how hrow;by_cases hlt:k<n
  ·have d1:decide ((k:Int)<(n:Int))=true:=decide_eq_true (by omega)
   cases sk with
   |none=>
    go_wp2_with fail;go_ret;unfold kj;rw[HI.out.bad rfl]
    exact⟨none,0,rfl,fun h=>absurd h (by simp),HSK.out,HOW.out,by simp,fun _=>rfl⟩
   |some r0=>
    have HBY:=hid (cV g BB (some r0) wo HSK.out HBB.out);go_wp2_with fail;refine HBY.out.mono ?_;rintro e w5 ⟨rfl,hs5,ho5⟩;obtain⟨kd,hkd⟩: ∃kd,kd=(ak (some r0)).1:=⟨_,rfl⟩;obtain⟨s2,hs2⟩: ∃s,s=(ak (some r0)).2:=⟨_,rfl⟩;rw[←hkd];rw[←hs2]at hs5;have hk256:kd<256:=by rw[hkd];exact gp _
    have HKD:=hid (And.intro hkd hs2);have HK256:=hid hk256;obtain⟨X,hX⟩: ∃X:Obj,X= .cells #[.int .i64 kd,.slice none 0 0,.int .i64 0,.int .i64 0,.string ⟨#[]⟩,.slice none 0 0,.slice none 0 0,.int .i64 0] 114:=⟨_,rfl⟩;have hgl:=HG.out;have hzr:=HOW.out.size;have hz5:=ho5.size;have hb6:bC (w5.alloc X) w5.heap.size (.int .i64 kd) (.slice none 0 0) (.int .i64 0) (.int .i64 0) (.string ⟨#[]⟩) (.slice none 0 0) (.slice none 0 0) (.int .i64 0):=by rw[hX];exact bC.new w5 _ _ _ _ _ _ _ _
    have ho6:au wo (w5.alloc X) g:=ho5.alloc X;have hs6:RS (w5.alloc X) g BB s2:=gM hs5 HBB.out ⟨rfl,rfl,rfl⟩ (by simp) fun b hb=>Below.heap_alloc w5 X b (by omega);have HCT:=hid (aS g BB 8 s2 (w5.alloc X) hs6 HBB.out (by omega));rw[hX]at HCT;have HX:=hid hX;have HQ6:=hid (And.intro hb6 (And.intro ho6 hz5));clear hs5 ho5 hkd hs2 hX hb6 ho6 hs6 HBY hk256 b1;go_wp2_with fail;refine HCT.out.mono ?_;rintro e w7 ⟨rfl,hs7,ho7⟩;rw[←HX.out]at ho7;obtain⟨n8,hn8⟩: ∃m,m=(ae 8 s2).1:=⟨_,rfl⟩;obtain⟨s3,hs3⟩: ∃s,s=(ae 8 s2).2:=⟨_,rfl⟩;have h8:n8≤8:=by rw[hn8];exact aZ 8 s2 (by omega)
    rw[←hn8];rw[←hs3]at hs7;have HN8:=hid (And.intro hn8 hs3);obtain⟨g6,hg6⟩: ∃q,q=w5.heap.size:=⟨_,rfl⟩;have hj0:mE wo w7 g BB g6 kd s3 0 none 0:=⟨HQ6.out.2.1.trans ho7,hs7,by rw[hg6];exact(ho7.block _ (by simp) (by rintro⟨⟩;omega)).trans HQ6.out.1,World.ownsRow_nil _ _ _ _,by rw[hg6];exact HQ6.out.2.2⟩;rw[←hg6];have HJ0:Hid (∃(A:Option Addr) (c:Nat),mE wo w7 g BB g6 kd s3 0 A c):=hid ⟨none,0,hj0⟩;clear hs7 ho7 hn8 hs3 hj0 HCT HQ6 HX hg6 hz5;go_wp2_with fail
    go_loopw [8] (fun i wj=> ∃j:Nat,i= .int .i64 j∧j≤n8∧Hid (∃(A:Option Addr) (c:Nat),mE wo wj g BB g6 kd s3 j A c)) (fun i _=>n8 - (intOf i).toNat)
    case atStart=>exact⟨0,rfl,by omega,HJ0⟩
    case round=>
     obtain⟨j,rfl,hjn,HJ⟩:=hrel;obtain⟨PA,pc,hpj⟩:=HJ.out;have HP:=hid hpj;have b1:=bY hpj.src;obtain⟨s4,hs4⟩: ∃s,s=(rdK s3 j).2:=⟨_,rfl⟩;rw[←hs4]at b1;have HS4:=hid hs4;clear HJ HJ0 hs4;by_cases hend:n8≤j∨s4=none;rotate_left
     ·have hjl:j<n8:=by omega
      cases s4 with
      |none=>exact absurd (.inr rfl) hend
      |some r4=>
      have d2:decide ((j:Int)<(n8:Int))=true:=decide_eq_true (by omega);obtain⟨wd,hwd⟩: ∃W,W=wr.drew:=⟨_,rfl⟩
      have hpd:mE wo wd g BB g6 kd s3 j PA pc:=by
       rw[hwd];exact⟨⟨hpj.only.os,hpj.only.tape,hpj.only.output,hpj.only.size,hpj.only.block⟩,gM hpj.src HBB.out ⟨rfl,rfl,rfl⟩ (Nat.le_refl _) fun _ _=>rfl,hpj.box,hpj.row,hpj.far⟩
      have y1: ∀p:bW (gI g6) wd,p.u.cell? ⟨g6,1,none⟩=some (.slice PA j pc):=fun p=>(World.cell?_of_block (a:=⟨g6,1,none⟩) p.h).trans hpd.box.g1;have HT:=hid (cF g BB 32 (rdK s3 j).2 wd hpd.src HBB.out (by omega));have HPD:=hid hpd;clear hpj hpd hend HP;go_wp2_with fail;refine bm (gI g6) (gI.refl g6) (gI.trans g6) [7] (.pure [0,1,2] (.step 3 (.step 4 (.step 5 (.free [6] (.tail [7])))))) (by kernel_rfl) (by kernel_rfl) (fun _ d _ _ _ h=>by cases d<;>exact h) ?_;rw[←hwd];clear hwd b1;refine dg ?_;simp only[atR];show wpQuiet _ _ _ _ [_,_,_] _;try simp only[acR,Act.put]
      repeat(go_big_quiet_step (fail))
      refine wpQuiet_nil ?_;clear y1;refine aT rfl (fun K hK=> ?_)
      go_simp
      refine HT.out.mono ?_;rintro e wt ⟨rfl,hst,hot⟩;have hg6l:=HPD.out.box.lt;have hfar:=HPD.out.far;refine hK _ _ (.inr (show gI g6 wd wt from hot.block g6 hg6l (by rintro⟨⟩;omega))) ?_;clear hK K;obtain⟨sx,hsx⟩: ∃sx:ByteArray,sx=⟨(am 32 (rdK s3 j).2).1.toArray⟩:=⟨_,rfl⟩;rw[←hsx];have HTX:=hid (And.intro hst (And.intro hot hsx));have hztd:=hot.size;clear hst hsx HT;refine aT rfl (fun K hK=> ?_)
      go_simp
      refine hK _ _ (.inr (show gI g6 wt (wt.alloc _) from Below.heap_alloc wt _ g6 (by omega))) ?_;clear hK K
      have hrow5:(wt.alloc (.cells #[.string sx] 9)).ownsRow (g6+1) 9 1 (.slice PA j pc) j ((rdK s3 j).1.map Value.string):=aM HPD.out.row fun q hq=>by
       have:=World.ownsRow.lt HPD.out.row q hq;exact(Below.heap_alloc wt _ q (by omega)).trans (hot.block q this.2 (by rintro⟨⟩;omega))
      refine aT rfl (fun K hK=> ?_);refine bo _ _ _ 41 rfl (g6+1) 9 i1 (.string ⟨#[]⟩) 1 16 Tryz.underlying41 hj hy0 hy1 hy2 rfl (by decide) _ j _ rfl hrow5 ⟨wt.heap.size,0,none⟩ 1 1 [.string sx] rfl rfl (cell_one_new _ _ _) (by simp[Value.oneCell']) (by unfold maxLen;omega) (by omega) (by simp;omega) ?_;intro v9 w9 hv9 hg9 hw9;obtain⟨A9,c9,rfl,-,-⟩:=ol hv9;have hlo: ∀q,(Value.slice PA j pc).ownBlock=some q→g6+1≤q∧q<wd.heap.size:=fun q hq=>World.ownsRow.lt HPD.out.row q hq;refine hK _ _ (.inr (show gI g6 (wt.alloc _) w9 from hg9.block g6 (by simp;omega) (fun e=>by have:=(hlo g6 e.symm).1;omega))) ?_;clear hK K;have HNX:=hid (HPD.out.next (A7:=A9) (c7:=c9) HBB.out (by omega) HTX.out.2.1 HTX.out.1 HTX.out.2.2 hv9 hg9);have hb9:bC w9 g6 (.int .i64 kd) (.slice PA j pc) (.int .i64 0) (.int .i64 0) (.string ⟨#[]⟩) (.slice none 0 0) (.slice none 0 0) (.int .i64 0):=(hg9.block g6 (by simp;omega) (fun e=>by have:=(hlo g6 e.symm).1;omega)).trans ((Below.heap_alloc wt _ g6 (by omega)).trans ((hot.block g6 hg6l (by rintro⟨⟩;omega)).trans HPD.out.box));have zf:=fun i=>hb9.free i;have z1:=hb9.g1;clear hv9 hg9 hw9 hlo hot hrow5 hb9 hztd hg6l hfar;refine dK ?_;simp only[atR];show wpQuiet _ _ _ _ [_] _;try simp only[acR,Act.put]
      repeat(go_big_quiet_step (fail))
      refine wpQuiet_nil ?_;refine dJ rfl (fun K hK=> ?_)
      go_simp
      refine hK _ _ ?_;clear hK K;refine dt ?_;clear zf z1;go_wp2_with fail
      go_roundw
      case rel=>exact⟨j+1,by go_num,by omega,hid ⟨A9,c9,HNX.out⟩⟩
      case measure=>simp[intOf];omega
     ·-- the path is read, or the source is bad
      have HEND:=hid hend;obtain⟨sb,hsb⟩: ∃b,b=s4.isNone:=⟨_,rfl⟩;rw[←hsb]at b1;have HSB:=hid hsb
      have hcond:(decide ((j:Int)<(n8:Int)) && !sb)=false:=by
       rcases hend with h|h
       ·rw[decide_eq_false (by omega)];rfl
       ·rw[hsb,h];simp
      have hrow':=hpj.row;have hcA:PA=none→pc=0:=pX hrow';have hPl:(rdK s3 j).1.length=j:=kE s3 j;have hrow2:wr.ownsRow (g6+1) 9 1 (.slice PA (rdK s3 j).1.length pc) (rdK s3 j).1.length ((rdK s3 j).1.map Value.string):=by rw[hPl];exact hrow'
      have hso:=qP hrow2 (nD s3 j);clear hrow2;obtain⟨hpc,hst⟩:=hso;obtain⟨P,hP⟩: ∃P,P=(rdK s3 j).1:=⟨_,rfl⟩;rw[←hP]at hst hPl hpc;have hPj:j=P.length:=hPl.symm;have hsrc:=hpj.src;rw[←HS4.out]at hsrc;have hq:bC wr g6 (.int .i64 kd) (.slice PA P.length pc) (.int .i64 0) (.int .i64 0) (.string ⟨#[]⟩) (.slice none 0 0) (.slice none 0 0) (.int .i64 0):=by rw[hPl];exact hpj.box
      have hon:=hpj.only;have hfar:=hpj.far;have hj8:P.length≤8:=by omega
      have HPP:=hid (And.intro hP (And.intro hPj hcA));have HST:=hid hst;have HSR:=hid hsrc;have HQ:=hid hq;have HON:=hid (And.intro hon hfar);have HPC:=hid (And.intro hpc hj8);have y0:=hq.g0;clear hpj HP hend hsb hrow' hst hP hPl hsrc hon hcA hpc hPj hq;have hout:True:=trivial;by_cases hjl:j<n8
      focus
       have hsn:s4=none:=HEND.out.resolve_left (by omega);have hbt:sb=true:=by rw[HSB.out,hsn];rfl
       rw[hbt]at b1;have d2:decide ((j:Int)<(n8:Int))=true:=decide_eq_true (by omega);clear hsn hbt hcond hout
      rotate_left
      focus
       have d2:decide ((j:Int)<(n8:Int))=false:=decide_eq_false (by omega);clear hcond hout
      all_goals
       have HRP:Hid ((s4=none→(bj s2).2=none)∧(s4≠none→bj s2=(P,s4))):=hid (by
        have hk:=HN8.out;refine⟨fun e=> ?_,fun e=> ?_⟩
        ·unfold bj;rw[←hk.1,←hk.2];exact kl (k:=j) (by rw[←HS4.out];exact e) n8 hjn
        ·have hjn8:n8=j:=by
          rcases HEND.out with h|h
          ·omega
          ·exact absurd h e
         unfold bj
         rw[←hk.1,←hk.2,hjn8,HPP.out.1,HS4.out])
       have HKD2:Hid (ak (some r0)=(kd,s2)):=hid (by rw[HKD.out.1,HKD.out.2]);clear hj8;by_cases h1k:kd=1
       ·subst h1k;have HV:=hid (gV g BB s4 wr HSR.out HBB.out);have d5:(((1:Nat):Int) == 1)=true:=rfl;go_wp2_with fail;refine HV.out.mono ?_;rintro e w8 ⟨v8,rfl,hs8,ho8,hv8⟩;obtain⟨t,ht⟩: ∃t,t=(aQ s4).1:=⟨_,rfl⟩;obtain⟨s5,hs5⟩: ∃s,s=(aQ s4).2:=⟨_,rfl⟩;rw[←ht]at hv8;rw[←hs5]at hs8;have htd:av t≤8:=by rw[ht];exact jQ _
        obtain⟨VA,vc,VA',vc',rfl,-⟩:=hv8.shape;have HRV:Hid (aQ s4=(t,s5)):=hid (by rw[ht,hs5]);have hzz:=ho8.size;have hg6l:=HQ.out.lt;have hk0:wo.heap.size≤g6:=HON.out.2;have hgl0:g<wo.heap.size:=by have:=HOW.out.size;have:=HG.out;omega
        have hq8:=HQ.out.only ho8 (by omega);obtain⟨wv,hwv⟩: ∃W,W=cX w8 g6 2 (.int .i64 t.kind) (.int .i64 t.num) (.string t.text) (.slice VA t.items.length vc) (.slice VA' t.names.length vc'):=⟨_,rfl⟩;have kv: ∀b,b≠g6→wv.heap[b]? =w8.heap[b]? :=fun b hb=>by rw[hwv];exact bi _ _ _ _ _ _ _ _ b hb
        have zv:wv.heap.size=w8.heap.size:=by rw[hwv];exact cK _ _ _ _ _ _ _ _
        have hq9:bC (cX w8 g6 2 (.int .i64 t.kind) (.int .i64 t.num) (.string t.text) (.slice VA t.items.length vc) (.slice VA' t.names.length vc')) g6 (.int .i64 1) (.slice PA P.length pc) (.int .i64 t.kind) (.int .i64 t.num) (.string t.text) (.slice VA t.items.length vc) (.slice VA' t.names.length vc') (.int .i64 0):=((((hq8.set2 (.int .i64 t.kind)).set3 (.int .i64 t.num)).set4 (.string t.text)).set5 (.slice VA t.items.length vc)).set6 (.slice VA' t.names.length vc');have HQV:Hid (bC wv g6 (.int .i64 1) (.slice PA P.length pc) (.int .i64 t.kind) (.int .i64 t.num) (.string t.text) (.slice VA t.items.length vc) (.slice VA' t.names.length vc') (.int .i64 0)):=hid (by rw[hwv];exact hq9);have hr5:=eE w8 g6 2 (.int .i64 t.kind) (.int .i64 t.num) (.string t.text) (.slice VA t.items.length vc) (.slice VA' t.names.length vc');rw[←hwv]at hr5;have HSV:Hid (RS wv g BB s5):=hid (gM hs8 HBB.out hr5 (by omega) fun b hb=>kv b (by omega))
        have HOV:Hid (au wo wv g):=hid (by
         have h:=HON.out.1.trans ho8
         exact⟨hr5.1.trans h.os,hr5.2.1.trans h.tape,hr5.2.2.trans h.output,by rw[zv];exact h.size,fun b hb hne=>(kv b (by omega)).trans (h.block b hb hne)⟩)
        obtain⟨S2,hS2⟩: ∃S2:Nat→Prop,S2=fun b=>g6+1≤b∧b<wv.heap.size:=⟨_,rfl⟩;have hst9:aD wv S2 PA P:=(HST.out.keep fun b hb=>(kv b (by omega)).trans (ho8.block b hb.2 (by rintro⟨⟩;omega))).imp fun b hb=>by rw[hS2];exact⟨hb.1,by rw[zv];omega⟩
        have hv9:LV wv S2 t (.agg #[.int .i64 t.kind,.int .i64 t.num,.string t.text,.slice VA t.items.length vc,.slice VA' t.names.length vc']):=(hv8.keep fun b hb=>kv b (by have:=hb.1;omega)).imp fun b hb=>by rw[hS2];exact⟨by have:=hb.1;omega,by rw[zv];exact hb.2⟩
        have HD2:Hid (em wv S2 ⟨1,P,t,0⟩ #[.int .i64 1,.slice PA P.length pc,.int .i64 t.kind,.int .i64 t.num,.string t.text,.slice VA t.items.length vc,.slice VA' t.names.length vc',.int .i64 0]∧ ∀b,S2 b→wo.heap.size≤b∧b<wv.heap.size):=hid ⟨⟨PA,pc,VA,vc,VA',vc',rfl,hv9,hst9,HPC.out.1,HPP.out.2.2,jF (k:=1) (by decide) (by decide),jF (k:=0) (by decide) (by decide),by have:=HPC.out.2;show P.length≤_;omega⟩,fun b hb=>by rw[hS2]at hb;exact⟨by have:=hb.1;omega,hb.2⟩⟩;have HDD:Hid (av (aU.mk 1 P t 0).val≤4611686018427387903):=hid (by show av t≤_;omega)
        have H5:Hid (s5=none→(rdD (some r0)).2=none):=hid (fun e=>by
         unfold rdD;rw[HKD2.out];simp only[if_true];show(aQ (bj s2).2).2=none;by_cases h4:s4=none
         ·rw[HRP.out.1 h4];exact p8
         ·rw[HRP.out.2 h4];show(aQ s4).2=none;rw[HRV.out]
          exact e)
        have H6:Hid (∀r,s5=some r→rdD (some r0)=(⟨1,P,t,0⟩,some r)):=hid (fun r e=>by
         have h4:s4≠none:=fun h4=>by
          have h:=HRV.out;rw[h4]at h;have h9:(aQ none).2=s5:=by rw[h]
          rw[p8,e]at h9;cases h9
         unfold rdD;rw[HKD2.out];simp only[if_true];rw[HRP.out.2 h4];simp only
         rw[HRV.out,e])
        have q8f:=fun i=>hq8.free i;have u2:=hq8.g2;have u3:=hq8.g3;have u4:=hq8.g4;have u5:=hq8.g5;have u6:=hq8.g6;have y0:=hq9.g0;have y1:=hq9.g1;have y2:=hq9.g2;have y3:=hq9.g3;have y4:=hq9.g4;have y5:=hq9.g5;have y6:=hq9.g6;have y7:=hq9.g7;simp only[cX]at y0 y1 y2 y3 y4 y5 y6 y7;have hgg:g≠g6:=by omega
        clear hs8 ho8 hv8 ht hs5 htd hzz hg6l hq8 hq9 kv zv hr5 hst9 hv9 hS2 HV HQ HST HSR HON HPC;have HMY:=hid (jx _ ⟨1,P,t,0⟩ _ wv (fun b hb=>(HD2.out.2 b hb).2) HD2.out.1 HDD.out);have HFI:=hid (fun(s6:Option (List UInt8)) (hs6:s6=if cl ⟨1,P,t,0⟩=true then s5 else none)=>HI.out.next (d:=⟨1,P,t,0⟩) (by have:=HN.out;omega) H5.out H6.out hs6);obtain⟨my,hmy⟩: ∃b,b=cl ⟨1,P,t,0⟩:=⟨_,rfl⟩;rw[←hmy]at HMY HFI;have HLN:=hid HI.out.len;clear hmy;rw[hwv]at HMY;have HWV:=hid hwv;clear hwv;go_wp2_with fail;refine HMY.out.mono ?_;rintro e wm ⟨rfl,hbm⟩;rw[←HWV.out]at hbm;have hqm:=HQV.out.call hbm;have hsm:RS wm g BB s5:=gM HSV.out HBB.out ⟨hbm.os,hbm.tape,hbm.output⟩ hbm.size fun b hb=>hbm.block b (by have:=HSV.out.lt;omega);have hom:au wo wm g:=HOV.out.trans ⟨hbm.os,hbm.tape,hbm.output,hbm.size,fun b hb _=>hbm.block b hb⟩;have hdm:=HD2.out.1.keep (w':=wm) fun b hb=>hbm.block b (HD2.out.2 b hb).2;have hzm:=hbm.size;have HS2:=hid (show ∀b,S2 b→wo.heap.size≤b∧b<wm.heap.size from fun b hb=>⟨(HD2.out.2 b hb).1,Nat.lt_of_lt_of_le (HD2.out.2 b hb).2 hzm⟩);clear hbm HMY HQV HSV HOV hzm y0 y1 y2 y3 y4 y5 y6 y7 HD2 HWV
        cases my with
        |true=>
         have h6:=HFI.out s5 (by simp);have z0:=hqm.g0;have z1:=hqm.g1;have z2:=hqm.g2;have z3:=hqm.g3;have z4:=hqm.g4;have z5:=hqm.g5;have z6:=hqm.g6;have z7:=hqm.g7;have h1c:=hdm.oneL;have hrow:=(HRW.out.only hom HG.out).alloc (.cells (List.toArray [.int .i64 1,.slice PA P.length pc,.int .i64 t.kind,.int .i64 t.num,.string t.text,.slice VA t.items.length vc,.slice VA' t.names.length vc',.int .i64 0]) 114);obtain⟨xs,S,r1,r2,r3⟩:=hrow;rw[HLN.out]at r1 r3;have HX:=hid (fun(w7:World) (v7:Value) (p c7:Nat) (e7:v7= .slice (some ⟨p,0,none⟩) (k+1) c7)=>fq (w7:=w7) (v7:=v7) (p:=p) (c7:=c7) HLN.out HBB.out HG.out HOW.out HRW.out hom hsm hdm HS2.out r2 r3 e7);have HR1:=hid r1;have H1C:=hid h1c;have hz7:w.heap.size≤wm.heap.size:=by have:=hom.size;have:=HOW.out.size;omega
         have HF6:=hid h6;clear h1c r1 r2 r3 h6 hqm hsm hom hdm HS2;go_wp2_with(at_builtin;refine wpList_append_own_at _ rfl _ _ 44 rfl w.heap.size 114 i0 _ 8 120 Tryz.underlying44 hi hz0 hz1 hz2 rfl (by decide) _ k _ rfl HR1.out ⟨wm.heap.size,0,none⟩ 1 1 _ rfl rfl (gU wm _ _) H1C.out (by unfold maxLen;omega) (by omega) (by simp;omega) ?_;intro v7 w7 hown7 hg7 hnil7 hat7;obtain⟨p,c7,rfl⟩:=gf hown7 (by omega);have HX7:=hid (HX.out w7 _ p c7 rfl hown7 hg7 hat7);clear hown7 hg7 hnil7 hat7);try go_wp2_with fail
         go_roundw
         case rel=>exact⟨k+1,some ⟨p,0,none⟩,c7,by go_num,by omega,rfl,hid ⟨s5,_,HF6.out,HX7.out.2.1,HX7.out.2.2,HX7.out.1⟩⟩
         case measure=>simp[intOf];omega
        |false=>
         have h6:=HFI.out none (by simp);have b1:=bY hsm;have b2:=cw hsm;obtain⟨ws,hws⟩: ∃W,W=wm.setCell ⟨g,1,none⟩ (.bool true):=⟨_,rfl⟩;have hqs:bC ws g6 (.int .i64 1) (.slice PA P.length pc) (.int .i64 t.kind) (.int .i64 t.num) (.string t.text) (.slice VA t.items.length vc) (.slice VA' t.names.length vc') (.int .i64 0):=by rw[hws];exact hqm.other g 1 (.bool true) (by omega)
         have hss:RS ws g BB none:=by rw[hws];exact iR hsm
         have hos:au wo ws g:=by rw[hws];exact hom.trans iY
         have hzs:ws.heap.size=wm.heap.size:=by rw[hws];simp
         have hds:=hdm.keep (w':=ws) fun b hb=>by rw[hws];exact heap_setCell_other wm ⟨g,1,none⟩ b _ (show b≠g by have:=(HS2.out b hb).1;omega)
         replace HS2:=hid (show ∀b,S2 b→wo.heap.size≤b∧b<ws.heap.size from fun b hb=>⟨(HS2.out b hb).1,by rw[hzs];exact(HS2.out b hb).2⟩);clear hqm hsm hom hdm hzs;have z0:=hqs.g0;have z1:=hqs.g1;have z2:=hqs.g2;have z3:=hqs.g3;have z4:=hqs.g4;have z5:=hqs.g5;have z6:=hqs.g6;have z7:=hqs.g7;have h1c:=hds.oneL;have hrow:=(HRW.out.only hos HG.out).alloc (.cells (List.toArray [.int .i64 1,.slice PA P.length pc,.int .i64 t.kind,.int .i64 t.num,.string t.text,.slice VA t.items.length vc,.slice VA' t.names.length vc',.int .i64 0]) 114);obtain⟨xs,S,r1,r2,r3⟩:=hrow;rw[HLN.out]at r1 r3;have HX:=hid (fun(w7:World) (v7:Value) (p c7:Nat) (e7:v7= .slice (some ⟨p,0,none⟩) (k+1) c7)=>fq (w7:=w7) (v7:=v7) (p:=p) (c7:=c7) HLN.out HBB.out HG.out HOW.out HRW.out hos hss hds HS2.out r2 r3 e7);have HR1:=hid r1;have H1C:=hid h1c;have hz7:w.heap.size≤ws.heap.size:=by have:=hos.size;have:=HOW.out.size;omega
         have HF6:=hid h6;clear h1c r1 r2 r3 h6 hqs hss hos hds HS2;rw[hws]at z0 z1 z2 z3 z4 z5 z6 z7 HX HR1;have HWS:=hid hws;clear hws;go_wp2_with(at_builtin;refine wpList_append_own_at _ rfl _ _ 44 rfl w.heap.size 114 i0 _ 8 120 Tryz.underlying44 hi hz0 hz1 hz2 rfl (by decide) _ k _ rfl HR1.out ⟨wm.heap.size,0,none⟩ 1 1 _ rfl rfl (j0 _ _ _ (by simp)) H1C.out (by unfold maxLen;omega) (by omega) (by simp;have h:=hz7;rw[HWS.out]at h;simp at h;omega) ?_;intro v7 w7 hown7 hg7 hnil7 hat7;obtain⟨p,c7,rfl⟩:=gf hown7 (by omega);have HX7:=hid (HX.out w7 _ p c7 rfl hown7 hg7 hat7);clear hown7 hg7 hnil7 hat7);try go_wp2_with fail
         go_roundw
         case rel=>exact⟨k+1,some ⟨p,0,none⟩,c7,by go_num,by omega,rfl,hid ⟨none,_,HF6.out,HX7.out.2.1,HX7.out.2.2,HX7.out.1⟩⟩
         case measure=>simp[intOf];omega
       by_cases h3k:kd=3
       ·subst h3k;have HV:=hid (aS g BB 999 s4 wr HSR.out HBB.out (by omega));have d5:(((3:Nat):Int) == 1)=false:=rfl;have d6:(((3:Nat):Int) == 3)=true:=rfl;go_wp2_with fail;refine HV.out.mono ?_;rintro e w8 ⟨rfl,hs8,ho8⟩;have hm9:(ae 999 s4).1≤999:=aZ 999 s4 (by omega);obtain⟨m,hm⟩: ∃m,m=(ae 999 s4).1:=⟨_,rfl⟩;obtain⟨s5,hs5⟩: ∃s,s=(ae 999 s4).2:=⟨_,rfl⟩;rw[←hm]at hm9 ⊢;rw[←hs5]at hs8;have HRV:Hid (ae 999 s4=(m,s5)):=hid (by rw[hm,hs5]);have hzz:=ho8.size;have hg6l:=HQ.out.lt;have hk0:wo.heap.size≤g6:=HON.out.2;have hgl0:g<wo.heap.size:=by have:=HOW.out.size;have:=HG.out;omega
        have hq8:=HQ.out.only ho8 (by omega);obtain⟨wv,hwv⟩: ∃W,W=w8.setCell ⟨g6,7,none⟩ (.int .i64 m):=⟨_,rfl⟩;have kv: ∀b,b≠g6→wv.heap[b]? =w8.heap[b]? :=fun b hb=>by rw[hwv];exact heap_setCell_other _ ⟨g6,7,none⟩ b _ hb
        have zv:wv.heap.size=w8.heap.size:=by rw[hwv];simp
        have hq9:=hq8.set7 (.int .i64 m);have HQV:Hid (bC wv g6 (.int .i64 3) (.slice PA P.length pc) (.int .i64 0) (.int .i64 0) (.string ⟨#[]⟩) (.slice none 0 0) (.slice none 0 0) (.int .i64 m)):=hid (by rw[hwv];exact hq9);have hr5:wv.os=w8.os∧wv.tape=w8.tape∧wv.output=w8.output:=by rw[hwv];exact⟨rfl,rfl,rfl⟩
        have HSV:Hid (RS wv g BB s5):=hid (gM hs8 HBB.out hr5 (by omega) fun b hb=>kv b (by omega))
        have HOV:Hid (au wo wv g):=hid (by
         have h:=HON.out.1.trans ho8
         exact⟨hr5.1.trans h.os,hr5.2.1.trans h.tape,hr5.2.2.trans h.output,by rw[zv];exact h.size,fun b hb hne=>(kv b (by omega)).trans (h.block b hb hne)⟩)
        obtain⟨S2,hS2⟩: ∃S2:Nat→Prop,S2=fun b=>g6+1≤b∧b<wv.heap.size:=⟨_,rfl⟩;have hst9:aD wv S2 PA P:=(HST.out.keep fun b hb=>(kv b (by omega)).trans (ho8.block b hb.2 (by rintro⟨⟩;omega))).imp fun b hb=>by rw[hS2];exact⟨hb.1,by rw[zv];omega⟩
        have HD2:Hid (em wv S2 ⟨3,P,ap,(m:Nat)⟩ #[.int .i64 3,.slice PA P.length pc,.int .i64 0,.int .i64 0,.string ⟨#[]⟩,.slice none 0 0,.slice none 0 0,.int .i64 m]∧ ∀b,S2 b→wo.heap.size≤b∧b<wv.heap.size):=hid ⟨⟨PA,pc,none,0,none,0,rfl,eU _ _ _ _ _ (by unfold Rng;omega) (by unfold Rng;omega) (by decide),hst9,HPC.out.1,HPP.out.2.2,jF (k:=3) (by decide) (by decide),(by unfold Rng;show(_:Int)≤((m:Nat):Int)∧((m:Nat):Int)≤_;omega),by have:=HPC.out.2;show P.length≤_;omega⟩,fun b hb=>by rw[hS2]at hb;exact⟨by have:=hb.1;omega,hb.2⟩⟩;have HDD:Hid (av (aU.mk 3 P ap (m:Nat)).val≤4611686018427387903):=hid (Nat.le_trans (show av ap≤8 by decide) (by omega))
        have H5:Hid (s5=none→(rdD (some r0)).2=none):=hid (fun e=>by
         unfold rdD;rw[HKD2.out];simp only[show ¬((3:Nat)=1) by decide,if_false,if_true];show(ae 999 (bj s2).2).2=none;by_cases h4:s4=none
         ·rw[HRP.out.1 h4];rfl
         ·rw[HRP.out.2 h4];show(ae 999 s4).2=none;rw[HRV.out]
          exact e)
        have H6:Hid (∀r,s5=some r→rdD (some r0)=(⟨3,P,ap,(m:Nat)⟩,some r)):=hid (fun r e=>by
         have h4:s4≠none:=fun h4=>by
          have h:=HRV.out;rw[h4]at h;have h9:(ae 999 none).2=s5:=by rw[h]
          rw[show(ae 999 none).2=none from rfl,e]at h9;cases h9
         unfold rdD;rw[HKD2.out];simp only[show ¬((3:Nat)=1) by decide,if_false,if_true];rw[HRP.out.2 h4];simp only
         rw[HRV.out,e])
        have q8f:=fun i=>hq8.free i;have u7:=hq8.g7;have y0:=hq9.g0;have y1:=hq9.g1;have y2:=hq9.g2;have y3:=hq9.g3;have y4:=hq9.g4;have y5:=hq9.g5;have y6:=hq9.g6;have y7:=hq9.g7;have hgg:g≠g6:=by omega
        clear hs8 ho8 hm hs5 hzz hg6l hq8 hq9 kv zv hr5 hst9 hS2 HV HQ HST HSR HON HPC hm9;have HMY:=hid (jx _ ⟨3,P,ap,(m:Nat)⟩ _ wv (fun b hb=>(HD2.out.2 b hb).2) HD2.out.1 HDD.out);have HFI:=hid (fun(s6:Option (List UInt8)) (hs6:s6=if cl ⟨3,P,ap,(m:Nat)⟩=true then s5 else none)=>HI.out.next (d:=⟨3,P,ap,(m:Nat)⟩) (by have:=HN.out;omega) H5.out H6.out hs6);obtain⟨my,hmy⟩: ∃b,b=cl ⟨3,P,ap,(m:Nat)⟩:=⟨_,rfl⟩;rw[←hmy]at HMY HFI;have HLN:=hid HI.out.len;clear hmy;rw[hwv]at HMY;have HWV:=hid hwv;clear hwv;go_wp2_with fail;refine HMY.out.mono ?_;rintro e wm ⟨rfl,hbm⟩;rw[←HWV.out]at hbm;have hqm:=HQV.out.call hbm;have hsm:RS wm g BB s5:=gM HSV.out HBB.out ⟨hbm.os,hbm.tape,hbm.output⟩ hbm.size fun b hb=>hbm.block b (by have:=HSV.out.lt;omega);have hom:au wo wm g:=HOV.out.trans ⟨hbm.os,hbm.tape,hbm.output,hbm.size,fun b hb _=>hbm.block b hb⟩;have hdm:=HD2.out.1.keep (w':=wm) fun b hb=>hbm.block b (HD2.out.2 b hb).2;have hzm:=hbm.size;have HS2:=hid (show ∀b,S2 b→wo.heap.size≤b∧b<wm.heap.size from fun b hb=>⟨(HD2.out.2 b hb).1,Nat.lt_of_lt_of_le (HD2.out.2 b hb).2 hzm⟩);clear hbm HMY HQV HSV HOV hzm y0 y1 y2 y3 y4 y5 y6 y7 HD2 HWV
        cases my with
        |true=>
         have h6:=HFI.out s5 (by simp);have z0:=hqm.g0;have z1:=hqm.g1;have z2:=hqm.g2;have z3:=hqm.g3;have z4:=hqm.g4;have z5:=hqm.g5;have z6:=hqm.g6;have z7:=hqm.g7;have h1c:=hdm.oneL;have hrow:=(HRW.out.only hom HG.out).alloc (.cells (List.toArray [.int .i64 3,.slice PA P.length pc,.int .i64 0,.int .i64 0,.string ⟨#[]⟩,.slice none 0 0,.slice none 0 0,.int .i64 m]) 114);obtain⟨xs,S,r1,r2,r3⟩:=hrow;rw[HLN.out]at r1 r3;have HX:=hid (fun(w7:World) (v7:Value) (p c7:Nat) (e7:v7= .slice (some ⟨p,0,none⟩) (k+1) c7)=>fq (w7:=w7) (v7:=v7) (p:=p) (c7:=c7) HLN.out HBB.out HG.out HOW.out HRW.out hom hsm hdm HS2.out r2 r3 e7);have HR1:=hid r1;have H1C:=hid h1c;have hz7:w.heap.size≤wm.heap.size:=by have:=hom.size;have:=HOW.out.size;omega
         have HF6:=hid h6;clear h1c r1 r2 r3 h6 hqm hsm hom hdm HS2;go_wp2_with(at_builtin;refine wpList_append_own_at _ rfl _ _ 44 rfl w.heap.size 114 i0 _ 8 120 Tryz.underlying44 hi hz0 hz1 hz2 rfl (by decide) _ k _ rfl HR1.out ⟨wm.heap.size,0,none⟩ 1 1 _ rfl rfl (gU wm _ _) H1C.out (by unfold maxLen;omega) (by omega) (by simp;omega) ?_;intro v7 w7 hown7 hg7 hnil7 hat7;obtain⟨p,c7,rfl⟩:=gf hown7 (by omega);have HX7:=hid (HX.out w7 _ p c7 rfl hown7 hg7 hat7);clear hown7 hg7 hnil7 hat7);try go_wp2_with fail
         go_roundw
         case rel=>exact⟨k+1,some ⟨p,0,none⟩,c7,by go_num,by omega,rfl,hid ⟨s5,_,HF6.out,HX7.out.2.1,HX7.out.2.2,HX7.out.1⟩⟩
         case measure=>simp[intOf];omega
        |false=>
         have h6:=HFI.out none (by simp);have b1:=bY hsm;have b2:=cw hsm;obtain⟨ws,hws⟩: ∃W,W=wm.setCell ⟨g,1,none⟩ (.bool true):=⟨_,rfl⟩;have hqs:bC ws g6 (.int .i64 3) (.slice PA P.length pc) (.int .i64 0) (.int .i64 0) (.string ⟨#[]⟩) (.slice none 0 0) (.slice none 0 0) (.int .i64 m):=by rw[hws];exact hqm.other g 1 (.bool true) (by omega)
         have hss:RS ws g BB none:=by rw[hws];exact iR hsm
         have hos:au wo ws g:=by rw[hws];exact hom.trans iY
         have hzs:ws.heap.size=wm.heap.size:=by rw[hws];simp
         have hds:=hdm.keep (w':=ws) fun b hb=>by rw[hws];exact heap_setCell_other wm ⟨g,1,none⟩ b _ (show b≠g by have:=(HS2.out b hb).1;omega)
         replace HS2:=hid (show ∀b,S2 b→wo.heap.size≤b∧b<ws.heap.size from fun b hb=>⟨(HS2.out b hb).1,by rw[hzs];exact(HS2.out b hb).2⟩);clear hqm hsm hom hdm hzs;have z0:=hqs.g0;have z1:=hqs.g1;have z2:=hqs.g2;have z3:=hqs.g3;have z4:=hqs.g4;have z5:=hqs.g5;have z6:=hqs.g6;have z7:=hqs.g7;have h1c:=hds.oneL;have hrow:=(HRW.out.only hos HG.out).alloc (.cells (List.toArray [.int .i64 3,.slice PA P.length pc,.int .i64 0,.int .i64 0,.string ⟨#[]⟩,.slice none 0 0,.slice none 0 0,.int .i64 m]) 114);obtain⟨xs,S,r1,r2,r3⟩:=hrow;rw[HLN.out]at r1 r3;have HX:=hid (fun(w7:World) (v7:Value) (p c7:Nat) (e7:v7= .slice (some ⟨p,0,none⟩) (k+1) c7)=>fq (w7:=w7) (v7:=v7) (p:=p) (c7:=c7) HLN.out HBB.out HG.out HOW.out HRW.out hos hss hds HS2.out r2 r3 e7);have HR1:=hid r1;have H1C:=hid h1c;have hz7:w.heap.size≤ws.heap.size:=by have:=hos.size;have:=HOW.out.size;omega
         have HF6:=hid h6;clear h1c r1 r2 r3 h6 hqs hss hos hds HS2;rw[hws]at z0 z1 z2 z3 z4 z5 z6 z7 HX HR1;have HWS:=hid hws;clear hws;go_wp2_with(at_builtin;refine wpList_append_own_at _ rfl _ _ 44 rfl w.heap.size 114 i0 _ 8 120 Tryz.underlying44 hi hz0 hz1 hz2 rfl (by decide) _ k _ rfl HR1.out ⟨wm.heap.size,0,none⟩ 1 1 _ rfl rfl (j0 _ _ _ (by simp)) H1C.out (by unfold maxLen;omega) (by omega) (by simp;have h:=hz7;rw[HWS.out]at h;simp at h;omega) ?_;intro v7 w7 hown7 hg7 hnil7 hat7;obtain⟨p,c7,rfl⟩:=gf hown7 (by omega);have HX7:=hid (HX.out w7 _ p c7 rfl hown7 hg7 hat7);clear hown7 hg7 hnil7 hat7);try go_wp2_with fail
         go_roundw
         case rel=>exact⟨k+1,some ⟨p,0,none⟩,c7,by go_num,by omega,rfl,hid ⟨none,_,HF6.out,HX7.out.2.1,HX7.out.2.2,HX7.out.1⟩⟩
         case measure=>simp[intOf];omega
       ·have d5:((kd:Int) == 1)=false:=beq_eq_false_iff_ne.2 (by omega);have d6:((kd:Int) == 3)=false:=beq_eq_false_iff_ne.2 (by omega);have HK13:=hid (And.intro h1k h3k);have hg6l:=HQ.out.lt;have hk0:wo.heap.size≤g6:=HON.out.2;have hgl0:g<wo.heap.size:=by have:=HOW.out.size;have:=HG.out;omega
        obtain⟨wv,hwv⟩: ∃W,W=wr:=⟨_,rfl⟩;obtain⟨s5,hs5⟩: ∃s,s=s4:=⟨_,rfl⟩;have HS54:=hid hs5;have HQV:Hid (bC wv g6 (.int .i64 kd) (.slice PA P.length pc) (.int .i64 0) (.int .i64 0) (.string ⟨#[]⟩) (.slice none 0 0) (.slice none 0 0) (.int .i64 0)):=hid (by rw[hwv];exact HQ.out);have HSV:Hid (RS wv g BB s5):=hid (by rw[hwv,hs5];exact HSR.out);have HOV:Hid (au wo wv g):=hid (by rw[hwv];exact HON.out.1);obtain⟨S2,hS2⟩: ∃S2:Nat→Prop,S2=fun b=>g6+1≤b∧b<wv.heap.size:=⟨_,rfl⟩;have hst9:aD wv S2 PA P:=by rw[hS2,hwv];exact HST.out
        have HD2:Hid (em wv S2 ⟨(kd:Nat),P,ap,0⟩ #[.int .i64 kd,.slice PA P.length pc,.int .i64 0,.int .i64 0,.string ⟨#[]⟩,.slice none 0 0,.slice none 0 0,.int .i64 0]∧ ∀b,S2 b→wo.heap.size≤b∧b<wv.heap.size):=hid ⟨⟨PA,pc,none,0,none,0,rfl,eU _ _ _ _ _ (by unfold Rng;omega) (by unfold Rng;omega) (by decide),hst9,HPC.out.1,HPP.out.2.2,jF (k:=(kd:Int)) (by omega) (by have:=HK256.out;omega),jF (k:=0) (by decide) (by decide),by have:=HPC.out.2;show P.length≤_;omega⟩,fun b hb=>by rw[hS2]at hb;exact⟨by have:=hb.1;omega,hb.2⟩⟩;have HDD:Hid (av (aU.mk (kd:Nat) P ap 0).val≤4611686018427387903):=hid (Nat.le_trans (show av ap≤8 by decide) (by omega))
        have H5:Hid (s5=none→(rdD (some r0)).2=none):=hid (fun e=>by
         unfold rdD;rw[HKD2.out];simp only;rw[if_neg HK13.out.1,if_neg HK13.out.2]
         exact HRP.out.1 (HS54.out▸e))
        have H6:Hid (∀r,s5=some r→rdD (some r0)=(⟨(kd:Nat),P,ap,0⟩,some r)):=hid (fun r e=>by
         have h4:s4=some r:=HS54.out▸e;unfold rdD;rw[HKD2.out];simp only
         rw[if_neg HK13.out.1,if_neg HK13.out.2,HRP.out.2 (by rw[h4];simp),h4])
        have hq9:=HQ.out;have y0:=hq9.g0;have y1:=hq9.g1;have y2:=hq9.g2;have y3:=hq9.g3;have y4:=hq9.g4;have y5:=hq9.g5;have y6:=hq9.g6;have y7:=hq9.g7;have hgg:g≠g6:=by omega
        clear hs5 hg6l hq9 hst9 hS2 HQ HST HSR HON HPC h1k h3k;have HMY:=hid (jx _ ⟨(kd:Nat),P,ap,0⟩ _ wv (fun b hb=>(HD2.out.2 b hb).2) HD2.out.1 HDD.out);have HFI:=hid (fun(s6:Option (List UInt8)) (hs6:s6=if cl ⟨(kd:Nat),P,ap,0⟩=true then s5 else none)=>HI.out.next (d:=⟨(kd:Nat),P,ap,0⟩) (by have:=HN.out;omega) H5.out H6.out hs6);obtain⟨my,hmy⟩: ∃b,b=cl ⟨(kd:Nat),P,ap,0⟩:=⟨_,rfl⟩;rw[←hmy]at HMY HFI;have HLN:=hid HI.out.len;clear hmy;rw[hwv]at HMY;have HWV:=hid hwv;clear hwv;go_wp2_with fail;refine HMY.out.mono ?_;rintro e wm ⟨rfl,hbm⟩;rw[←HWV.out]at hbm;have hqm:=HQV.out.call hbm;have hsm:RS wm g BB s5:=gM HSV.out HBB.out ⟨hbm.os,hbm.tape,hbm.output⟩ hbm.size fun b hb=>hbm.block b (by have:=HSV.out.lt;omega);have hom:au wo wm g:=HOV.out.trans ⟨hbm.os,hbm.tape,hbm.output,hbm.size,fun b hb _=>hbm.block b hb⟩;have hdm:=HD2.out.1.keep (w':=wm) fun b hb=>hbm.block b (HD2.out.2 b hb).2;have hzm:=hbm.size;have HS2:=hid (show ∀b,S2 b→wo.heap.size≤b∧b<wm.heap.size from fun b hb=>⟨(HD2.out.2 b hb).1,Nat.lt_of_lt_of_le (HD2.out.2 b hb).2 hzm⟩);clear hbm HMY HQV HSV HOV hzm y0 y1 y2 y3 y4 y5 y6 y7 HD2 HWV
        cases my with
        |true=>
         have h6:=HFI.out s5 (by simp);have z0:=hqm.g0;have z1:=hqm.g1;have z2:=hqm.g2;have z3:=hqm.g3;have z4:=hqm.g4;have z5:=hqm.g5;have z6:=hqm.g6;have z7:=hqm.g7;have h1c:=hdm.oneL;have hrow:=(HRW.out.only hom HG.out).alloc (.cells (List.toArray [.int .i64 kd,.slice PA P.length pc,.int .i64 0,.int .i64 0,.string ⟨#[]⟩,.slice none 0 0,.slice none 0 0,.int .i64 0]) 114);obtain⟨xs,S,r1,r2,r3⟩:=hrow;rw[HLN.out]at r1 r3;have HX:=hid (fun(w7:World) (v7:Value) (p c7:Nat) (e7:v7= .slice (some ⟨p,0,none⟩) (k+1) c7)=>fq (w7:=w7) (v7:=v7) (p:=p) (c7:=c7) HLN.out HBB.out HG.out HOW.out HRW.out hom hsm hdm HS2.out r2 r3 e7);have HR1:=hid r1;have H1C:=hid h1c;have hz7:w.heap.size≤wm.heap.size:=by have:=hom.size;have:=HOW.out.size;omega
         have HF6:=hid h6;clear h1c r1 r2 r3 h6 hqm hsm hom hdm HS2;go_wp2_with(at_builtin;refine wpList_append_own_at _ rfl _ _ 44 rfl w.heap.size 114 i0 _ 8 120 Tryz.underlying44 hi hz0 hz1 hz2 rfl (by decide) _ k _ rfl HR1.out ⟨wm.heap.size,0,none⟩ 1 1 _ rfl rfl (gU wm _ _) H1C.out (by unfold maxLen;omega) (by omega) (by simp;omega) ?_;intro v7 w7 hown7 hg7 hnil7 hat7;obtain⟨p,c7,rfl⟩:=gf hown7 (by omega);have HX7:=hid (HX.out w7 _ p c7 rfl hown7 hg7 hat7);clear hown7 hg7 hnil7 hat7);try go_wp2_with fail
         go_roundw
         case rel=>exact⟨k+1,some ⟨p,0,none⟩,c7,by go_num,by omega,rfl,hid ⟨s5,_,HF6.out,HX7.out.2.1,HX7.out.2.2,HX7.out.1⟩⟩
         case measure=>simp[intOf];omega
        |false=>
         have h6:=HFI.out none (by simp);have b1:=bY hsm;have b2:=cw hsm;obtain⟨ws,hws⟩: ∃W,W=wm.setCell ⟨g,1,none⟩ (.bool true):=⟨_,rfl⟩;have hqs:bC ws g6 (.int .i64 kd) (.slice PA P.length pc) (.int .i64 0) (.int .i64 0) (.string ⟨#[]⟩) (.slice none 0 0) (.slice none 0 0) (.int .i64 0):=by rw[hws];exact hqm.other g 1 (.bool true) (by omega)
         have hss:RS ws g BB none:=by rw[hws];exact iR hsm
         have hos:au wo ws g:=by rw[hws];exact hom.trans iY
         have hzs:ws.heap.size=wm.heap.size:=by rw[hws];simp
         have hds:=hdm.keep (w':=ws) fun b hb=>by rw[hws];exact heap_setCell_other wm ⟨g,1,none⟩ b _ (show b≠g by have:=(HS2.out b hb).1;omega)
         replace HS2:=hid (show ∀b,S2 b→wo.heap.size≤b∧b<ws.heap.size from fun b hb=>⟨(HS2.out b hb).1,by rw[hzs];exact(HS2.out b hb).2⟩);clear hqm hsm hom hdm hzs;have z0:=hqs.g0;have z1:=hqs.g1;have z2:=hqs.g2;have z3:=hqs.g3;have z4:=hqs.g4;have z5:=hqs.g5;have z6:=hqs.g6;have z7:=hqs.g7;have h1c:=hds.oneL;have hrow:=(HRW.out.only hos HG.out).alloc (.cells (List.toArray [.int .i64 kd,.slice PA P.length pc,.int .i64 0,.int .i64 0,.string ⟨#[]⟩,.slice none 0 0,.slice none 0 0,.int .i64 0]) 114);obtain⟨xs,S,r1,r2,r3⟩:=hrow;rw[HLN.out]at r1 r3;have HX:=hid (fun(w7:World) (v7:Value) (p c7:Nat) (e7:v7= .slice (some ⟨p,0,none⟩) (k+1) c7)=>fq (w7:=w7) (v7:=v7) (p:=p) (c7:=c7) HLN.out HBB.out HG.out HOW.out HRW.out hos hss hds HS2.out r2 r3 e7);have HR1:=hid r1;have H1C:=hid h1c;have hz7:w.heap.size≤ws.heap.size:=by have:=hos.size;have:=HOW.out.size;omega
         have HF6:=hid h6;clear h1c r1 r2 r3 h6 hqs hss hos hds HS2;rw[hws]at z0 z1 z2 z3 z4 z5 z6 z7 HX HR1;have HWS:=hid hws;clear hws;go_wp2_with(at_builtin;refine wpList_append_own_at _ rfl _ _ 44 rfl w.heap.size 114 i0 _ 8 120 Tryz.underlying44 hi hz0 hz1 hz2 rfl (by decide) _ k _ rfl HR1.out ⟨wm.heap.size,0,none⟩ 1 1 _ rfl rfl (j0 _ _ _ (by simp)) H1C.out (by unfold maxLen;omega) (by omega) (by simp;have h:=hz7;rw[HWS.out]at h;simp at h;omega) ?_;intro v7 w7 hown7 hg7 hnil7 hat7;obtain⟨p,c7,rfl⟩:=gf hown7 (by omega);have HX7:=hid (HX.out w7 _ p c7 rfl hown7 hg7 hat7);clear hown7 hg7 hnil7 hat7);try go_wp2_with fail
         go_roundw
         case rel=>exact⟨k+1,some ⟨p,0,none⟩,c7,by go_num,by omega,rfl,hid ⟨none,_,HF6.out,HX7.out.2.1,HX7.out.2.2,HX7.out.1⟩⟩
         case measure=>simp[intOf];omega
  ·have hke:k=n:=by omega
   have d1:decide ((k:Int)<(n:Int))=false:=decide_eq_false (by omega)
   cases sk with
   |none=>
    go_wp2_with fail;go_ret;unfold kj;rw[HI.out.bad rfl]
    exact⟨none,0,rfl,fun h=>absurd h (by simp),HSK.out,HOW.out,by simp,fun _=>rfl⟩
   |some r=>
    have HE:=hid (HI.out.end (hke.trans HN.out) (by omega));have HLN:=hid HI.out.len;clear hke;go_wp2_with fail;go_ret;unfold kj;rw[HE.out,HLN.out];exact⟨A,c,rfl,HRW.out.rows,HSK.out,HOW.out,by rw[←HLN.out];exact HRW.out.cap,HRW.out.nilc⟩
end Go.Proofs.YtgfidiocmiolpaaGreat
