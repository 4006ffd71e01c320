/- Are two messages the same: by the program. -/
import Derived.Test.YtgfidiocmiolpaaGreatKMgN
import Derived.Test.YtgfidiocmiolpaaGreatKCodS
import Derived.Test.YtgfidiocmiolpaaGreatKRefM
import Derived.Test.YtgfidiocmiolpaaGreatKEnC
import Derived.Test.YtgfidiocmiolpaaGreatKDlH
import Derived.Test.YtgfidiocmiolpaaGreatKEnR
import Derived.Test.YtgfidiocmiolpaaGreatKLook
import Derived.Test.YtgfidiocmiolpaaGreatKRegR
import Derived.Test.YtgfidiocmiolpaaGreatKEnM
import Derived.Test.YtgfidiocmiolpaaGreatKDlV
import Derived.Test.YtgfidiocmiolpaaGreatKCodA
import Derived.Maps.AppendAt
set_option maxHeartbeats 64000000
set_option maxRecDepth 100000
set_option linter.unusedVariables false
set_option linter.unusedSimpArgs false
namespace Go.Proofs.YtgfidiocmiolpaaGreat
open Lib (hid)
open Go.RowKit Go.Joins
def uC (a b:bw):Bool:=decide (j0 a=0) && decide (lB a=lB b)
theorem vS (a b:bw)(EA:Option Addr)(ec:Nat)(SA:Option Addr)(sc:Nat)(FA:Option Addr)(fc:Nat)(TA:Option Addr)(tc:Nat)(w:World)(h:bI w (fun b=>b<w.heap.size) a EA ec SA sc)(k:bI w (fun b=>b<w.heap.size) b FA fc TA tc)(ha: ∀e∈a.ents,SmE e)(hb: ∀e∈b.ents,SmE e)(hpa:cC a=true→lm a EA ec)(hpb:cC b=true→lm b FA fc):
  Calls Tryz.prog 17 #[.agg #[.int .i64 a.kind,.int .i64 a.frm,.int .i64 a.tgt,.int .i64 a.term,.int .i64 a.index,.int .i64 a.logTerm,.int .i64 a.commit,.int .i64 a.round,.bool a.ok,.slice EA a.ents.length ec,.slice SA a.snap.length sc],.agg #[.int .i64 b.kind,.int .i64 b.frm,.int .i64 b.tgt,.int .i64 b.term,.int .i64 b.index,.int .i64 b.logTerm,.int .i64 b.commit,.int .i64 b.round,.bool b.ok,.slice FA b.ents.length fc,.slice TA b.snap.length tc]] w fun q w'=>q= .returned (.bool (uC a b))∧Below w.heap.size w w':=by
 obtain⟨w1,hw1⟩: ∃W,W=w.alloc (.cells #[.int .i64 a.kind,.int .i64 a.frm,.int .i64 a.tgt,.int .i64 a.term,.int .i64 a.index,.int .i64 a.logTerm,.int .i64 a.commit,.int .i64 a.round,.bool a.ok,.slice EA a.ents.length ec,.slice SA a.snap.length sc] 25):=⟨_,rfl⟩;obtain⟨w2,hw2⟩: ∃W,W=w1.alloc (.cells #[.int .i64 b.kind,.int .i64 b.frm,.int .i64 b.tgt,.int .i64 b.term,.int .i64 b.index,.int .i64 b.logTerm,.int .i64 b.commit,.int .i64 b.round,.bool b.ok,.slice FA b.ents.length fc,.slice TA b.snap.length tc] 25):=⟨_,rfl⟩;have hb1:Below w.heap.size w w1:=by rw[hw1];exact ac _
 have hb2:Below w1.heap.size w1 w2:=by rw[hw2];exact ac _
 have hz1:w1.heap.size=w.heap.size+1:=by rw[hw1];simp
 have HK1:Hid (bV w2 w.heap.size a EA ec SA sc):=hid ((hb2.block _ (by omega)).trans (by rw[hw1];exact heap_alloc_new w _));have HK2:Hid (bV w2 (w.heap.size+1) b FA fc TA tc):=hid (by rw[←hz1,hw2];exact heap_alloc_new w1 _);have HB2:Hid (Below w.heap.size w w2):=hid (hb1.trans (hb2.mono (by omega)));have HEA:=hid (fun(u:World) (hu:Below w.heap.size w u)=>fi a EA ec SA sc u (h.up hu) ha hpa);have HEB:=hid (fun(u:World) (hu:Below w.heap.size w u)=>fi b FA fc TA tc u (k.up hu) hb hpb);have HZ1:=hid hz1;have HZ2:Hid (w.heap.size+1<w2.heap.size):=hid (by rw[hw2];simp;omega);clear hb1 hb2 hz1 h k ha hb hpa hpb;go_enter Tryz.func17,Tryz.ntmps17;go_wp2_with fail;rw[←hw1,←hw2];clear hw1 hw2;go_wp2_with(refine aC (by rfl) _ rfl w.heap.size rfl _ _ HK1.out rfl ?_;simp only[acR,Act.put]);refine(HEA.out _ HB2.out).mono ?_;rintro q w3 ⟨v,rfl,ho,hb⟩;have HO3:=hid ho;have HB3:=hid (HB2.out.trans (hb.mono HB2.out.size));have HK3:=hid (HK2.out.below hb);clear ho hb HK2 HK1 HEA;go_wp2_with(refine aC (by rfl) _ rfl (w.heap.size+1) rfl _ _ HK3.out rfl ?_;simp only[acR,Act.put]);refine(HEB.out _ HB3.out).mono ?_;rintro q w4 ⟨v2,rfl,ho,hb⟩;have HO4:=hid (And.intro (HO3.out.below hb) ho);have HB4:=hid (HB3.out.trans (hb.mono HB3.out.size));clear ho hb HO3 HB3 HEB;by_cases h0:j0 a=0
 ·have HE:=hid h0;rw[h0];go_wp2_with fail;refine(p8 _ _ _ _ _ _ _ HO4.out.1.rdY HO4.out.2.rdY).mono ?_;rintro q u ⟨rfl,hw⟩;subst hw;go_wp2_with fail;go_ret;exact⟨by unfold uC;rw[HE.out];rfl,HB4.out⟩
 ·have h1:(j0 a == 0)=false:=beq_false_of_ne h0;have HE:=hid h0;go_wp2_with fail;go_ret;exact⟨by unfold uC;rw[decide_eq_false HE.out];rfl,HB4.out⟩
def gB (st:Option (List UInt8)):Bool×Option (List UInt8):=(decide ((al st).1=1),if 1<(al st).1 then none else(al st).2)
theorem nj {a b c:World}{g:Nat}(h:az a b g)(k:az b c g):az a c g:=
 ⟨k.os.trans h.os,k.tape.trans h.tape,k.output.trans h.output,Nat.le_trans h.size k.size,fun i hi hg=>(k.block i (Nat.lt_of_lt_of_le hi h.size) hg).trans (h.block i hi hg)⟩
theorem qu (g:Nat)(st:Option (List UInt8))(w:World)(h:aK w g st):
  Calls Tryz.prog 71 #[.pointer (some ⟨g,0,none⟩)] w fun e w'=>e= .returned (.bool (gB st).1)∧aK w' g (gB st).2∧az w w' g:=by
 have HB:=hid (eU g st w h);obtain⟨n,hn⟩: ∃n:Nat,n=(al st).1:=⟨_,rfl⟩;have HE:Hid (gB st=(decide (n=1),if 1<n then none else(al st).2)):=hid (by rw[hn];rfl);rw[←hn]at HB;clear h hn;go_enter Tryz.func71,Tryz.ntmps71;go_wp2_with fail;refine HB.out.mono ?_;rintro e w1 ⟨rfl,hs,ho⟩;have HS:=hid hs;have HO:=hid ho;clear hs ho HB;by_cases h1:1<n
 ·have HC:=hid (ex g _ w1 HS.out);go_wp2_with fail;refine HC.out.mono ?_;rintro e w2 ⟨rfl,hs2,ho2⟩;have HS2:=hid hs2;have HO2:=hid (nj HO.out ho2);clear hs2 ho2 HC;go_wp2_with fail;go_ret;refine⟨?_,?_,HO2.out⟩
  ·rw[HE.out];show Ending.returned (Value.bool ((n:Int) == 1))=Ending.returned (Value.bool (decide (n=1)));rw[show((n:Int) == 1)=decide (n=1) from by rw[Bool.eq_iff_iff];simp;omega]
  ·rw[HE.out];simp only[h1,if_true];exact HS2.out
 ·go_wp2_with fail;go_ret;refine⟨?_,?_,HO.out⟩
  ·rw[HE.out];show Ending.returned (Value.bool ((n:Int) == 1))=Ending.returned (Value.bool (decide (n=1)));rw[show((n:Int) == 1)=decide (n=1) from by rw[Bool.eq_iff_iff];simp;omega]
  ·rw[HE.out];simp only[h1,if_false];exact HS.out
structure lA (g k:Nat)(w w':World):Prop where
 os:w'.os=w.os
 tape:w'.tape=w.tape
 output:w'.output=w.output
 size:w.heap.size≤w'.heap.size
 block: ∀b,b<w.heap.size→b≠g→b≠k→w'.heap[b]? =w.heap[b]?
theorem lA.trans {g k:Nat}{a b c:World}(h:lA g k a b)(i:lA g k b c):lA g k a c:=⟨i.os.trans h.os,i.tape.trans h.tape,i.output.trans h.output,Nat.le_trans h.size i.size,fun x hx h1 h2=>(i.block x (Nat.lt_of_lt_of_le hx h.size) h1 h2).trans (h.block x hx h1 h2)⟩
theorem lA.one {g k:Nat}{a b:World}(h:az a b g):lA g k a b:=⟨h.os,h.tape,h.output,h.size,fun x hx h1 _=>h.block x hx (by intro e;injection e with e;exact h1 e)⟩
theorem lA.two {g k:Nat}{a b:World}(h:az a b k):lA g k a b:=⟨h.os,h.tape,h.output,h.size,fun x hx _ h2=>h.block x hx (by intro e;injection e with e;exact h2 e)⟩
theorem nC {w w':World}{g p:Nat}(ho:az w w' g)(h:p<w.heap.size)(hne:p≠g):w'.heap[p]? =w.heap[p]? :=ho.block p h (by intro e;injection e with e;exact hne e)
theorem tG (g i V s:Nat)(t:TypeId)(cs:Array Value)(st:Option (List UInt8))(w:World)(hb:w.heap[g]? =some (.cells cs 25 (0,0)))(hi:i<cs.size)(hv:w.heap[V]? =some (.cells #[.pointer (some ⟨s,0,none⟩)] t (0,0)))(hs:aK w s st)(hgs:g≠s):
  Calls Tryz.prog 70 #[.pointer (some ⟨g,i,none⟩),.pointer (some ⟨V,0,none⟩)] w fun e w'=>e= .returned (.tuple #[])∧w'.heap[g]? =some (.cells (cs.setIfInBounds i (.int .i64 (ah 1099511627776 st).1)) 25 (0,0))∧aK w' s (ah 1099511627776 st).2∧lA g s w w':=by
 have y0:w.cell? ⟨V,0,none⟩=some (.pointer (some ⟨s,0,none⟩)):=Go.Joins.cell_of_block hv 0;have HC:=hid (cy s st 1099511627776 w hs (by omega));have HG:=hid (And.intro hb (And.intro hi hgs));clear hb hi hv hs hgs;go_enter Tryz.func70,Tryz.ntmps70;go_wp2_with fail;refine HC.out.mono ?_;rintro e w1 ⟨rfl,hs1,ho1⟩;obtain⟨n,hn⟩: ∃n:Int,n=((ah 1099511627776 st).1:Int):=⟨_,rfl⟩;rw[←hn];have HN:=hid hn;clear hn;have hg1:w1.heap[g]? =some (.cells cs 25 (0,0)):=cX ho1 HG.out.1 HG.out.2.2;have HG1:=hid hg1;have HS1:=hid hs1;have HO1:=hid ho1;clear y0 HC hs1 ho1 hg1;go_wp2_with(refine av (by rfl) 3 _ _ rfl rfl g i rfl (.int .i64 n) #[.int .i64 n] rfl rfl cs (cs.setIfInBounds i (.int .i64 n)) 25 HG1.out (by have:=HG.out.2.1;simp;omega) (by kernel_rfl) (by simp[Value.oneCell']) rfl ?_;intro w6 h6 ho6 hz6;have H6:=hid h6;have HS6:=hid (aK.of HS1.out (nC ho6 HS1.out.lt (fun e=>HG.out.2.2 e.symm)));have HO6:=hid ((lA.two HO1.out).trans (lA.one (k:=s) ho6));clear h6 ho6 hz6)
 go_end0
 exact⟨rfl,by rw[←HN.out];exact H6.out,HS6.out,HO6.out⟩
end Go.Proofs.YtgfidiocmiolpaaGreat
/- Rows of a call's own of any things, while they grow by appends. -/
namespace Go.Proofs.YtgfidiocmiolpaaGreat
open Go.RowKit
def ThC {α:Type}(L:World→(Nat→Prop)→α→Array Value→Prop)(w:World)(S:Nat→Prop):List α→List Value→Prop
 | [],xs=>xs= []
 |o::l,xs=> ∃c r,xs=c++r∧L w S o c.toArray∧ThC L w S l r
section
variable {α :Type} {L:World→(Nat→Prop)→α→Array Value→Prop} {m:Nat} {w w':World} {S S':Nat→Prop}
theorem ThC.len1 (hL:kq L m){o:α}{cs:List Value}(h:L w S o cs.toArray):cs.length=m:=by
 have:=hL.size h;simpa using this
theorem ThC.keep (hL:kq L m)(hk: ∀b,S b→w'.heap[b]? =w.heap[b]?): ∀ {l:List α} {xs:List Value},ThC L w S l xs→ThC L w' S l xs
 | [],_,h=>h
 |_::_,_,h=>by obtain⟨c,r,h0,h1,h2⟩:=h;exact⟨c,r,h0,hL.keep h1 hk,ThC.keep hL hk h2⟩
theorem ThC.imp (hL:kq L m)(hS: ∀b,S b→S' b): ∀ {l:List α} {xs:List Value},ThC L w S l xs→ThC L w S' l xs
 | [],_,h=>h
 |_::_,_,h=>by obtain⟨c,r,h0,h1,h2⟩:=h;exact⟨c,r,h0,hL.imp h1 hS,ThC.imp hL hS h2⟩
theorem ThC.push {o:α}{cs:List Value}(ho:L w S o cs.toArray): ∀ {l:List α} {xs:List Value},ThC L w S l xs→ThC L w S (l++[o]) (xs++cs)
 | [],xs,h=>by have h:xs= []:=h;subst h;exact⟨cs,[],by simp,ho,rfl⟩
 |p::l,xs,h=>by
  obtain⟨c,r,rfl,h1,h2⟩:=h;exact⟨c,r++cs,by rw[List.append_assoc],h1,ThC.push ho h2⟩
theorem ThC.at (hL:kq L m): ∀ {l:List α} {xs:List Value},ThC L w S l xs→ ∀i (hi:i<l.length),∃cs:List Value,L w S l[i] cs.toArray∧ ∀j,j<m→xs[i * m+j]? =cs[j]?
 | [],_,_,i,hi=>absurd hi (by simp)
 |o::l,xs,h,i,hi=>by
  obtain⟨c,r,rfl,h1,h2⟩:=h;have hc:=ThC.len1 hL h1
  cases i with
  |zero=>
   refine⟨c,h1,fun j hj=> ?_⟩;rw[List.getElem?_append_left (by omega)]
   congr 1;omega
  |succ i=>
   obtain⟨cs,h3,h4⟩:=ThC.at hL h2 i (by simpa using hi);refine⟨cs,h3,fun j hj=> ?_⟩;have e:(i+1) * m=i * m+m:=Nat.succ_mul i m;rw[List.getElem?_append_right (by omega),hc,←h4 j hj]
   congr 1;omega
theorem ThC.rows (hL:kq L m){B:Nat}{t:TypeId}{A:Option Addr}{c n:Nat}{l:List α}{xs:List Value}(h:ThC L w S l xs)(ho:w.ownsRow B t m (.slice A n c) n xs)(hn:n=l.length)(hS: ∀b,S b→S' b)(hrow: ∀p,(Value.slice A n c).ownBlock=some p→S' p):dG L m w S' A l:=fun hp=>by
 subst hn;rcases ho.2 with ⟨-,h0⟩|⟨g,cap,cur,e,hB,hh,hr⟩
 ·omega
 ·injection e with e1 e2 e3
  subst e1 e3;refine⟨g,0,rfl,hrow g rfl,fun i hi=> ?_⟩;obtain⟨cs,h4,h5⟩:=ThC.at hL h i hi;refine⟨cs.toArray,fun j v hv=> ?_,hL.imp h4 hS⟩;have hv':cs[j]? =some v:=by simpa using hv
  have hj:j<m:=by have:=(List.getElem?_eq_some_iff.1 hv').1;have:=ThC.len1 hL h4;omega
  have h6:=ho.cells (g:=g) rfl (i * m+j) v (by rw[h5 j hj];exact hv');rw[add_at,Nat.zero_add]at h6;rw[Nat.zero_add];exact h6
end
def cY {α:Type}(L:World→(Nat→Prop)→α→Array Value→Prop)(m:Nat)(t:TypeId)(w0:World)(w:World)(A:Option Addr)(c:Nat)(l:List α):Prop:=
 ∃xs,∃S:Nat→Prop,w.ownsRow w0.heap.size t m (.slice A l.length c) l.length xs∧ThC L w S l xs∧ ∀b,S b→w0.heap.size≤b∧b<w.heap.size∧ ∀p,(Value.slice A l.length c).ownBlock=some p→b≠p
section
variable {α :Type} {L:World→(Nat→Prop)→α→Array Value→Prop} {m:Nat} {t:TypeId} {w0 w w':World} {A:Option Addr} {c:Nat} {l:List α}
theorem cY.nil (w0 w:World):cY L m t w0 w none 0 ([]:List α):=⟨[],fun _=>False,World.ownsRow_nil _ _ _ _,rfl,fun _ h=>h.elim⟩
theorem cY.still (hL:kq L m)(h:cY L m t w0 w A c l)(hk: ∀b,w0.heap.size≤b→b<w.heap.size→w'.heap[b]? =w.heap[b]?)(hz:w.heap.size≤w'.heap.size):cY L m t w0 w' A c l:=by
 obtain⟨xs,S,h1,h2,h3⟩:=h;refine⟨xs,S,⟨h1.1,h1.2.imp id ?_⟩,ThC.keep hL (fun b hb=>hk b (h3 b hb).1 (h3 b hb).2.1) h2,fun b hb=>⟨(h3 b hb).1,Nat.lt_of_lt_of_le (h3 b hb).2.1 hz,(h3 b hb).2.2⟩⟩;rintro⟨q,cap,cur,e,hB,hh,hr⟩;exact⟨q,cap,cur,e,hB,(hk q hB (Array.getElem?_eq_some_iff.1 hh).1).trans hh,hr⟩
theorem cY.only (hL:kq L m){g:Nat}(h:cY L m t w0 w A c l)(ho:az w w' g)(hg:g<w0.heap.size):cY L m t w0 w' A c l:=
 h.still hL (fun b h1 h2=>ho.block b h2 (by rintro⟨⟩;omega)) ho.size
theorem cY.alloc (hL:kq L m)(h:cY L m t w0 w A c l)(o:Obj):cY L m t w0 (w.alloc o) A c l:=
 h.still hL (fun b _ h2=>Below.heap_alloc w o b h2) (by simp)
theorem cY.rows (hL:kq L m)(h:cY L m t w0 w A c l):dG L m w (eW w0.heap.size w) A l:=by
 obtain⟨xs,S,h1,h2,h3⟩:=h;exact ThC.rows hL h2 h1 rfl (fun b hb=>⟨(h3 b hb).1,(h3 b hb).2.1⟩) (fun p hp=>World.ownsRow.lt h1 p hp)
theorem cY.cap (h:cY L m t w0 w A c l):l.length≤c:=by
 obtain⟨xs,S,h1,-⟩:=h;rcases h1.2 with ⟨e,h0⟩|⟨g,cap,cur,e,-,-,hc,-⟩
 ·omega
 ·injection e with _ _ e;omega
theorem cY.own (h:cY L m t w0 w A c l): ∀p,(Value.slice A l.length c).ownBlock=some p→w0.heap.size≤p∧p<w.heap.size:=by
 obtain⟨xs,S,h1,-⟩:=h;exact fun p hp=>World.ownsRow.lt h1 p hp
theorem cY.none' (h:cY L m t w0 w A c l):A=none→c=0∧l= []:=by
 rintro rfl;obtain⟨xs,S,h1,-⟩:=h;rcases h1.2 with ⟨e,h0⟩|⟨g,cap,cur,e,-⟩
 ·injection e with e1 e2 e3
  exact⟨e3,List.eq_nil_of_length_eq_zero e2⟩
 ·injection e with e1 e2 e3
  cases e1
theorem cY.push (hL:kq L m){W:World}{p cap n:Nat}{xs cs:List Value}{S S2:Nat→Prop}{o:α}(hn:n=l.length)
  (hb:w.grownBy W (Value.slice A n c).ownBlock) (hw:j8 w (.slice A n c) (.slice (some ⟨p,0,none⟩) (n+1) cap)) (hown:W.ownsRow w0.heap.size t m (.slice (some ⟨p,0,none⟩) (n+1) cap) (n+1) (xs++cs)) (hl:ThC L w S l xs) (hone:L w S2 o cs.toArray)
  (hS: ∀b,S b→w0.heap.size≤b∧b<w.heap.size∧ ∀p,(Value.slice A n c).ownBlock=some p→b≠p) (hS2: ∀b,S2 b→w0.heap.size≤b∧b<w.heap.size∧ ∀p,(Value.slice A n c).ownBlock=some p→b≠p):
  cY L m t w0 W (some ⟨p,0,none⟩) cap (l++[o]):=by
 subst hn;have hlen:(l++[o]).length=l.length+1:=by simp
 have hk: ∀b,b<w.heap.size→(∀p,(Value.slice A l.length c).ownBlock=some p→b≠p)→W.heap[b]? =w.heap[b]? :=fun b h1 h3=>hb.block b h1 (fun e=>h3 b e.symm rfl);refine⟨xs++cs,fun b=>S b∨S2 b,by rw[hlen];exact hown,ThC.push (hL.imp (hL.keep hone fun b hb'=>hk b (hS2 b hb').2.1 (hS2 b hb').2.2) fun b h=> .inr h) (ThC.imp hL (fun b h=> .inl h) (ThC.keep hL (fun b hb'=>hk b (hS b hb').2.1 (hS b hb').2.2) hl)),?_⟩;intro b hb';have hc:w0.heap.size≤b∧b<w.heap.size∧ ∀p,(Value.slice A l.length c).ownBlock=some p→b≠p:=hb'.elim (hS b) (hS2 b);refine⟨hc.1,Nat.lt_of_lt_of_le hc.2.1 hb.size,fun q hq=> ?_⟩;have hq:p=q:=by simpa[Value.ownBlock]using hq
 subst hq;rcases hw with hw|⟨q,hq,e⟩
 ·exact hc.2.2 p hw.symm
 ·injection e with e
  have e:p=q:=e;omega
theorem zk (hL:kq L m){wr w5 w7:World}{k c7 p:Nat}{x:α}{cs xs:List Value}{S:Nat→Prop}{v7:Value}(hk:l.length=k)(hzw:w0.heap.size≤wr.heap.size)(hr:cY L m t w0 wr A c l)(hz5:wr.heap.size≤w5.heap.size)(hop:L w5 (eW wr.heap.size w5) x cs.toArray)
  (hl:ThC L (w5.alloc (.cells cs.toArray t)) S l xs) (hS: ∀b,S b→w0.heap.size≤b∧b<(w5.alloc (.cells cs.toArray t)).heap.size∧ ∀p,(Value.slice A k c).ownBlock=some p→b≠p)
  (hv:v7= .slice (some ⟨p,0,none⟩) (k+1) c7) (hown:w7.ownsRow w0.heap.size t m v7 (k+1) (xs++cs)) (hb:(w5.alloc (.cells cs.toArray t)).grownBy w7 (Value.slice A k c).ownBlock) (hat:v7.ownBlock=(Value.slice A k c).ownBlock∨v7.ownBlock=some (w5.alloc (.cells cs.toArray t)).heap.size):
  cY L m t w0 w7 (some ⟨p,0,none⟩) c7 (l++[x])∧w7.os=w5.os∧w7.tape=w5.tape∧w7.output=w5.output∧w5.heap.size≤w7.heap.size∧ ∀b,b<w0.heap.size→w7.heap[b]? =w5.heap[b]? :=by
 have hpo: ∀p,(Value.slice A k c).ownBlock=some p→w0.heap.size≤p∧p<wr.heap.size:=by
  have h:=hr.own;rw[hk]at h;exact h
 have hz6:(w5.alloc (.cells cs.toArray t)).heap.size=w5.heap.size+1:=by simp
 have k6: ∀b,b<w5.heap.size→(w5.alloc (.cells cs.toArray t)).heap[b]? =w5.heap[b]? :=fun b hb=>Below.heap_alloc w5 _ b hb;have k7: ∀b,b<w5.heap.size→(∀p,(Value.slice A k c).ownBlock=some p→b≠p)→w7.heap[b]? =w5.heap[b]? :=fun b hb' hn=>(hb.block b (by omega) (fun e=>hn b e.symm rfl)).trans (k6 b hb');subst hv;refine⟨?_,hb.os,hb.tape,hb.output,by have:=hb.size;omega,fun b hb'=>k7 b (by omega) fun q hq e=>by have:=(hpo q hq).1;omega⟩;refine cY.push (S2:=eW wr.heap.size w5) hL hk.symm hb ?_ hown hl (hL.keep hop fun b hb'=>k6 b hb'.2) hS ?_
 ·exact hat.imp id fun h=>⟨_,Nat.le_refl _,h⟩
 ·intro b hb';have h1:wr.heap.size≤b:=hb'.1;have h2:b<w5.heap.size:=hb'.2;exact⟨by omega,by omega,fun q hq e=>by have:=(hpo q hq).2;omega⟩
end
theorem vz (w:World)(cs:List Value)(t:TypeId): ∀j u,cs[j]? =some u→(w.alloc (.cells cs.toArray t)).cell? ((⟨w.heap.size,0,none⟩:Addr).add j)=some u:=fun j u h=>by
 rw[add_at,Nat.zero_add];exact(Go.Joins.cell_of_block (heap_alloc_new w _) j).trans (by simpa using h)
open Lib (hid)
theorem Tryz.infoEnt :(Tryz.prog.info? 46).map (fun i=>(i.zero,i.size,i.bytes))=some (some (.agg #[.int .i64 0,.int .i64 0,.string ⟨#[]⟩,.string ⟨#[]⟩,.int .i64 0,.int .i64 0,.string ⟨#[]⟩,.slice none 0 0,.slice none 0 0,.int .i64 0,.int .i64 0,.string ⟨#[]⟩,.slice none 0 0,.slice none 0 0,.slice none 0 0,.int .i64 0,.int .i64 0]),17,248):=by kernel_rfl
def gi (st:Option (List UInt8)):Nat→List bh×Option (List UInt8)
 |0=>([],st)
 |k+1=>((gi st k).1++[(rdE (gi st k).2).1],(rdE (gi st k).2).2)
theorem gD (st:Option (List UInt8)): ∀k,(gi st k).1.length=k
 |0=>rfl
 |k+1=>by simp[gi,gD st k]
def gW (st:Option (List UInt8)):List bh×Option (List UInt8):=gi (ah 8 st).2 (ah 8 st).1
theorem xo (st:Option (List UInt8)):(gW st).1.length≤8:=by
 have:=b8 8 st (by omega);unfold gW;rw[gD];omega
def pG (g:Nat)(st:Option (List UInt8))(w:World)(e:Ending)(w':World):Prop:=
 ∃A c,e= .returned (.slice A (gW st).1.length c)∧dm w' (eW w.heap.size w') A (gW st).1∧(A=none→c=0)∧(gW st).1.length≤c∧aK w' g (gW st).2∧az w w' g
theorem dr.oneL {w:World}{S:Nat→Prop}{e:bh}{cs:List Value}(h:dr w S e cs.toArray): ∀u∈cs,u.oneCell'=true:=by
 obtain⟨IA,ic,IA',ic',DA,dc,DA',dc',LA,lc,h1,-⟩:=h;simp only[Array.mk.injEq]at h1;subst h1;intro u hu;simp only[List.mem_cons,List.not_mem_nil,or_false]at hu;rcases hu with rfl|rfl|rfl|rfl|rfl|rfl|rfl|rfl|rfl|rfl|rfl|rfl|rfl|rfl|rfl|rfl|rfl<;>rfl
theorem nV (g:Nat)(st:Option (List UInt8))(w:World)(hs:aK w g st):Calls Tryz.prog 72 #[.pointer (some ⟨g,0,none⟩)] w (pG g st w):=by
 obtain⟨i0,hi,hz0,hz1,hz2⟩:=info_parts Tryz.infoEnt;have h16:(ah 8 st).1≤8:=b8 8 st (by omega);have HC:=hid (cy g st 8 w hs (by omega));have HG:=hid hs.lt;obtain⟨n,hn⟩: ∃n,n=(ah 8 st).1:=⟨_,rfl⟩;obtain⟨s1,hs1'⟩: ∃s1,s1=(ah 8 st).2:=⟨_,rfl⟩;have HN:Hid (gW st=gi s1 n):=hid (by rw[hn,hs1'];rfl);rw[←hn]at h16 HC;rw[←hs1']at HC;clear hs hn hs1';go_enter Tryz.func72,Tryz.ntmps72;go_wp2_with fail;refine HC.out.mono ?_;rintro e w1 ⟨rfl,hs1,ho1⟩;have h0:Hid (aK w1 g (gi s1 0).2∧az w w1 g):=hid ⟨hs1,ho1⟩;clear hs1 ho1 HC;go_wp2_with fail
 go_loopw [3,6] (fun v i wr=> ∃(k:Nat) (A:Option Addr) (c:Nat),i= .int .i64 k∧k≤n∧v= .slice A k c∧Hid (aK wr g (gi s1 k).2∧az w wr g)∧Hid (cY dr 17 46 w wr A c (gi s1 k).1)) (fun _ i _=>n - (intOf i).toNat)
 case atStart=>exact⟨0,none,0,rfl,by omega,rfl,h0,hid (cY.nil _ _)⟩
 case round=>
  obtain⟨k,A,c,rfl,hk,rfl,HH,HR⟩:=hrel;by_cases hlt:k<n
  ·have d1:decide ((k:Int)<(n:Int))=true:=decide_eq_true (by omega);have HT:=hid (vY g (gi s1 k).2 wr HH.out.1);have hk16:k<8:=by omega
   go_wp2_with fail;refine HT.out.mono ?_;rintro e w5 ⟨cs,rfl,hop,hs5,ho5⟩;obtain⟨IA,ic,IA',ic',DA,dc,DA',dc',LA,lc,rfl,-⟩:=id hop;obtain⟨o,hob⟩: ∃o,o=(rdE (gi s1 k).2).1:=⟨_,rfl⟩;rw[←hob]at hop ⊢;have h1c: ∀u∈([.int .i64 o.term,.int .i64 o.kind,.string o.coll,.string o.to,.int .i64 o.id.kind,.int .i64 o.id.num,.string o.id.text,.slice IA o.id.items.length ic,.slice IA' o.id.names.length ic',.int .i64 o.doc.kind,.int .i64 o.doc.num,.string o.doc.text,.slice DA o.doc.items.length dc,.slice DA' o.doc.names.length dc',.slice LA o.dels.length lc,.int .i64 o.session,.int .i64 o.number]:List Value),u.oneCell'=true:=dr.oneL (cs:=[.int .i64 o.term,.int .i64 o.kind,.string o.coll,.string o.to,.int .i64 o.id.kind,.int .i64 o.id.num,.string o.id.text,.slice IA o.id.items.length ic,.slice IA' o.id.names.length ic',.int .i64 o.doc.kind,.int .i64 o.doc.num,.string o.doc.text,.slice DA o.doc.items.length dc,.slice DA' o.doc.names.length dc',.slice LA o.dels.length lc,.int .i64 o.session,.int .i64 o.number]) hop;have hrow:=((HR.out.only eb ho5 HG.out).alloc eb (.cells (List.toArray [.int .i64 o.term,.int .i64 o.kind,.string o.coll,.string o.to,.int .i64 o.id.kind,.int .i64 o.id.num,.string o.id.text,.slice IA o.id.items.length ic,.slice IA' o.id.names.length ic',.int .i64 o.doc.kind,.int .i64 o.doc.num,.string o.doc.text,.slice DA o.doc.items.length dc,.slice DA' o.doc.names.length dc',.slice LA o.dels.length lc,.int .i64 o.session,.int .i64 o.number]) 46));obtain⟨xs,S,r1,r2,r3⟩:=hrow;rw[gD]at r1 r3
   have hz5:w.heap.size≤wr.heap.size∧wr.heap.size≤w5.heap.size:=⟨HH.out.2.size,ho5.size⟩;have HX:=hid (fun(w7:World) (v7:Value) (p c7:Nat) (e7:v7= .slice (some ⟨p,0,none⟩) (k+1) c7)=>zk eb (w7:=w7) (v7:=v7) (p:=p) (c7:=c7) (gD s1 k) hz5.1 HR.out hz5.2 hop r2 r3 e7);have HR1:=hid r1;have H1C:=hid h1c;have HS5:Hid (aK w5 g (gi s1 (k+1)).2∧az w w5 g∧(gi s1 (k+1)).1=(gi s1 k).1++[o]):=hid ⟨hs5,HH.out.2.trans ho5,by rw[hob];rfl⟩;have HZ5:Hid (w.heap.size≤w5.heap.size):=hid (by omega);clear hs5 ho5 hop h1c r1 r2 r3 HT hob hz5 HH HR;go_wp2_with(at_builtin;refine wpList_append_own_at _ rfl _ _ 22 rfl w.heap.size 46 i0 _ 17 248 Tryz.underlying22 hi hz0 hz1 hz2 rfl (by decide) _ k _ rfl HR1.out ⟨w5.heap.size,0,none⟩ 1 1 _ rfl rfl (vz w5 _ _) H1C.out (by unfold maxLen;omega) (by omega) (by have:=HZ5.out;simp;omega) ?_;intro v7 w7 hown7 hg7 hnil7 hat7;obtain⟨p,c7,rfl⟩:=tU hown7 (by omega);have HX7:=hid (HX.out w7 _ p c7 rfl hown7 hg7 hat7);clear hown7 hg7 hnil7 hat7)
   have HI7:Hid (aK w7 g (gi s1 (k+1)).2∧az w w7 g):=hid (by
    have h5:=HS5.out;obtain⟨h1,h2,h3,h4,h6,h7⟩:=HX7.out
    exact⟨h5.1.of (h7 g HG.out),h2.trans h5.2.1.os,h3.trans h5.2.1.tape,h4.trans h5.2.1.output,Nat.le_trans h5.2.1.size h6,fun b hb hne=>(h7 b hb).trans (h5.2.1.block b hb hne)⟩)
   have HR7:Hid (cY dr 17 46 w w7 (some ⟨p,0,none⟩) c7 (gi s1 (k+1)).1):=hid (by rw[HS5.out.2.2];exact HX7.out.1);clear HX7 HX HS5 HR1 H1C HZ5;go_wp2_with fail
   go_roundw
   case rel=>exact⟨k+1,some ⟨p,0,none⟩,c7,by go_num,by omega,rfl,HI7,HR7⟩
   case measure=>simp[intOf];omega
  ·obtain rfl:k=n:=by omega
   have d1:decide ((k:Int)<(k:Int))=false:=decide_eq_false (by omega);go_wp2_with fail;go_ret;unfold pG;have hr:=HR.out;have hn':=hr.none';have hrw:=hr.rows eb;have hcap:=hr.cap;rw[gD]at hcap;rw[HN.out,gD];exact⟨A,c,rfl,hrw,fun h=>(hn' h).1,hcap,HH.out.1,HH.out.2⟩
theorem i5 {B:Nat}{a b c:World}(h:Below B a b)(k:az b c B)(hB:B≤b.heap.size):Below B a c:=⟨k.os.trans h.os,k.tape.trans h.tape,k.output.trans h.output,Nat.le_trans h.size k.size,fun i hi=>(k.block i (by omega) (by intro e;injection e;omega)).trans (h.block i hi)⟩
end Go.Proofs.YtgfidiocmiolpaaGreat
/- Statements whose order Go leaves open, walked as they stand in the text, with a relation of one's choice for what must stay. -/
namespace Go.Proofs.YtgfidiocmiolpaaGreat
open Go.RowKit Go.Sort
section
variable {P :Program} {ops:Array Oper} {Q:Exit→Act→World→Prop} {md:Region.Mode} {R:World→World→Prop}
def dZ (R:World→World→Prop)(P:Program)(ops:Array Oper)(Q:Exit→Act→World→Prop):List Oper→Act→World→Prop
  | [],a,w=>Q .normal a w
  |o::rest,a,w=>
    if Region.wanted o (yielded ops a.tmps)then
      (if am o then o.quiet P a (CRR R w) (fun a'=>dZ R P ops Q rest a' w)
       else o.wp P a w (fun a' w'=>R w w'∧dZ R P ops Q rest a' w') Q)
    else dZ R P ops Q rest (a.put o.dst undef) w
theorem qz (hrr: ∀w,R w w){i:Nat}{oi:Oper}{v:Value}(hi:ops[i]? =some oi)(f:Nat)(listed:Array Bool)(a:Act)(w:World)(hr:i∈Region.ready md ops listed)(ho: ∀j∈Region.ready md ops listed,j=i)
    (hy:YieldsIf P ops (fun u=>R w u) oi v a) (H:ke R [] P md ops Q f (listed.setIfInBounds i true) (a.put oi.dst v) w):ke R [] P md ops Q (f+1) listed a w:=
  ⟨fun h=>absurd hr (by rw[h];exact List.not_mem_nil),fun j hj=>by
    obtain rfl:=ho j hj
    exact hy.wpOp hi (hrr _) ⟨.inr (hrr _),H⟩⟩
theorem et (hrr: ∀w,R w w)(htr: ∀a b c,R a b→R b c→R a c)(hsel:Region.noSelect ops=true)(hQ: ∀c d v a w,Q (.panic c) (Act.put a d v) w→Q (.panic c) a w):
    ∀(r:List Oper) (i:Nat) (listed:Array Bool) (a:Act) (w:World),r=ops.toList.drop i→i≤ops.size→jU listed ops.size i→jj md ops i r=true→dZ R P ops Q r a w→ke R [] P md ops Q r.length listed a w
  | [],i,listed,a,w,hr,hi,hf,hB,h=>by
    have hlen:ops.size≤i:=by
      have:=congrArg List.length hr;simp at this;omega
    refine⟨?_,h⟩;refine List.eq_nil_iff_forall_not_mem.2 fun j hj=> ?_;obtain⟨h1,o,h2,-⟩:=mem_ready.1 hj;have hjn:=(Array.getElem?_eq_some_iff.1 h2).1;rw[hf.getD,if_pos hjn]at h1
    simp at h1;omega
  |o::r,i,listed,a,w,hr,hi,hf,hB,h=>by
    have hin:i<ops.size:=by
      have:=congrArg List.length hr;simp at this;omega
    have hoi:ops[i]? =some o:=by
      have:=congrArg (fun l=>l[0]?) hr;simp at this;exact this.symm
    have hr':r=ops.toList.drop (i+1):=by
      have:=congrArg List.tail hr;simpa using this
    have hat: ∀j oj,ops[j]? =some oj→i<j→oj∈r:=fun j oj hj hij=>by
      rw[hr'];refine List.mem_iff_getElem?.2 ⟨j - (i+1),?_⟩;rw[List.getElem?_drop];have:i+1+(j - (i+1))=j:=by omega
      rw[this];simpa using hj
    unfold jj at hB;simp only[Bool.and_eq_true]at hB;obtain⟨⟨hE,hk⟩,hB'⟩:=hB
    have hrd:i∈Region.ready md ops listed:=by
      refine mem_ready.2 ⟨by rw[hf.getD,if_pos hin];simp,o,hoi,fun e he hb=> ?_⟩;have:=List.all_eq_true.1 hE e (by simpa using he);rw[hb]at this;simp at this;have h3:e.on<i:=by simpa[Nat.blt_eq]using this
      rw[hf.getD,if_pos (by omega)];simpa using h3
    have hun: ∀j oj,ops[j]? =some oj→j≠i→listed.getD j true=false→i<j:=fun j oj hj hne hu=>by
      rw[hf.getD,if_pos (Array.getElem?_eq_some_iff.1 hj).1]at hu;simp at hu;omega
    have hF:=hf.step hin;unfold dZ at h;simp only[Bool.or_eq_true]at hk;rcases hk with hk|hk
    · have hone: ∀j∈Region.ready md ops listed,j=i:=fun j hj=>by
        obtain⟨h1,oj,h2,h3⟩:=mem_ready.1 hj;refine Classical.byContradiction fun hne=> ?_;have hm:=hat j oj h2 (hun j oj h2 hne h1);have hl:=List.all_eq_true.1 hk oj hm;unfold zF at hl;obtain⟨e,he,hb⟩:=List.any_eq_true.1 hl;simp only[Bool.and_eq_true,Nat.ble_eq]at hb;have:=h3 e (by simpa using he) hb.1;rw[hf.getD]at this
        split at this
        · simp at this;omega
        · cases this
      by_cases hw:Region.wanted o (yielded ops a.tmps)=true
      · by_cases hp:am o=true
        · rw[if_pos hw,if_pos hp]at h
          obtain⟨v,h1,h2⟩:=h;exact qz hrr hoi _ listed a w hrd hone (pg hp hw h1) (et hrr htr hsel hQ r (i+1) _ _ w hr' (by omega) hF hB' h2)
        · rw[if_pos hw,if_neg hp]at h
          refine⟨fun h0=>absurd hrd (by rw[h0];exact List.not_mem_nil),fun j hj=> ?_⟩;obtain rfl:=hone j hj;unfold wpOp;simp only[hoi];rw[if_pos hw];exact .inl (Oper.wp_mono (fun a' w' h'=>⟨.inr h'.1,et hrr htr hsel hQ r (j+1) _ a' w' hr' (by omega) hF hB' h'.2⟩) h)
      · rw[if_neg hw]at h
        exact qz hrr hoi _ listed a w hrd hone (.inr ⟨by simpa using hw,rfl⟩) (et hrr htr hsel hQ r (i+1) _ _ w hr' (by omega) hF hB' h)
    · simp only[Bool.and_eq_true]at hk
      obtain⟨hp,hk⟩:=hk
      have hfree: ∀j oj,ops[j]? =some oj→j≠i→listed.getD j true=false→(∀e∈oj.after,Region.binds md e=true→e.on≠i)→o.apart ops oj=true:=fun j oj hj hne hu hno=>by
        have hl:=List.all_eq_true.1 hk oj (hat j oj hj (hun j oj hj hne hu));simp only[Bool.or_eq_true]at hl;rcases hl with hl|hl
        · obtain⟨e,he,hb⟩:=List.any_eq_true.1 hl
          simp only[Bool.and_eq_true]at hb;exact absurd (Nat.eq_of_beq_eq_true hb.2) (hno e (by simpa using he) hb.1)
        · exact hl
      have hT0:(iB md ops [] i=true∧ ∀a b,R a b→R a b)∨ ∀a b,R a b:= .inl ⟨rfl,fun _ _ h=>h⟩;by_cases hw:Region.wanted o (yielded ops a.tmps)=true
      · rw[if_pos hw,if_pos hp]at h
        obtain⟨v,h1,h2⟩:=h;exact gX hrr R hrr htr hoi hT0 hsel hQ _ listed a w hfree hrd (pg hp hw h1) (et hrr htr hsel hQ r (i+1) _ _ w hr' (by omega) hF hB' h2)
      · rw[if_neg hw]at h
        exact gX hrr R hrr htr hoi hT0 hsel hQ _ listed a w hfree hrd (.inr ⟨by simpa using hw,rfl⟩) (et hrr htr hsel hQ r (i+1) _ _ w hr' (by omega) hF hB' h)
theorem nu (R:World→World→Prop)(hrr: ∀w,R w w)(htr: ∀a b c,R a b→R b c→R a c){l:List Oper}{id:Nat}{a:Act}{w:World}(hm:P.follows .mixedOrders=true)(hB:qB l=true)(hQ: ∀c d v a w,Q (.panic c) (Act.put a d v) w→Q (.panic c) a w)
    (h:dZ R P l.toArray Q l a w.drew):(Code.region id l.toArray true).wp P Q a w:=by
  unfold qB at hB;simp only[Bool.and_eq_true]at hB;refine wp_region_any hm (iL (R:=R) (T:=[]) _ _ _ _ ?_);have:=et (md:= .any) (ops:=l.toArray) hrr htr hB.1 hQ l 0 (Array.replicate l.toArray.size false) a w.drew (by simp) (Nat.zero_le _) ⟨by simp,fun k hk=>by simp at hk;simp[hk]⟩ hB.2 h;simpa using this
theorem nf {w:World}: ∀(seg rest:List Oper) (a:Act),seg.all am=true→wpQuiet P ops (CRR R w) (fun a'=>dZ R P ops Q rest a' w) seg a→dZ R P ops Q (seg++rest) a w
  | [],rest,a,_,h=>h
  |o::seg,rest,a,hp,h=>by
    simp only[List.all_cons,Bool.and_eq_true]at hp;rw[List.cons_append];unfold dZ;unfold wpQuiet at h;by_cases hw:Region.wanted o (yielded ops a.tmps)=true
    · rw[if_pos hw]at h
      rw[if_pos hw,if_pos hp.1];obtain⟨v,h1,h2⟩:=h;exact⟨v,h1,nf seg rest _ hp.2 h2⟩
    · rw[if_neg hw]at h
      rw[if_neg hw];exact nf seg rest _ hp.2 h
theorem jm {l:List Oper}{a:Act}{w:World}(h:wpQuiet P ops (CRR R w) (fun a'=>dZ R P ops Q (l.dropWhile am) a' w) (l.takeWhile am) a):dZ R P ops Q l a w:=by
  have:=nf _ (l.dropWhile am) a (jA l) h;rwa[List.takeWhile_append_dropWhile]at this
theorem jp {o:Oper}{rest:List Oper}{a:Act}{w:World}(hp:am o=false)
    (h: ∀K:Act→World→Prop,(∀a' w',R w w'→dZ R P ops Q rest a' w'→K a' w')→if Region.wanted o (yielded ops a.tmps)=true then o.wp P a w K Q else K (a.put o.dst undef) w):dZ R P ops Q (o::rest) a w:=by
  have h1:=h (fun a' w'=>R w w'∧dZ R P ops Q rest a' w') (fun a' w' h1 h2=>⟨h1,h2⟩);unfold dZ;by_cases hw:Region.wanted o (yielded ops a.tmps)=true
  · rw[if_pos hw]at h1
    rw[if_pos hw,if_neg (by rw[hp];exact Bool.false_ne_true)];exact h1
  · rw[if_neg hw]at h1
    rw[if_neg hw];exact h1.2
end
def ea (g:Nat)(w w':World):Prop:=w.heap.size≤w'.heap.size∧ ∀b,b<w.heap.size→b≠g→w'.heap[b]? =w.heap[b]?
theorem ea.refl (g:Nat)(w:World):ea g w w:=⟨Nat.le_refl _,fun _ _ _=>rfl⟩
theorem ea.trans (g:Nat)(a b c:World)(h:ea g a b)(k:ea g b c):ea g a c:=⟨Nat.le_trans h.1 k.1,fun i hi hg=>(k.2 i (Nat.lt_of_lt_of_le hi h.1) hg).trans (h.2 i hi hg)⟩
theorem ea.of {g:Nat}{w w':World}(h:Below w.heap.size w w'):ea g w w':=⟨h.size,fun b hb _=>h.block b hb⟩
instance (g :Nat) (w:World):Inhabited (cl (ea g) w):=⟨⟨w,ea.refl g w⟩⟩
end Go.Proofs.YtgfidiocmiolpaaGreat
/- The lives of layer 13. -/
namespace Go.Proofs.YtgfidiocmiolpaaGreat
open Go.RowKit
theorem ao.convG {w:World}{B g:Nat}{v:Value}{l:List UInt8}(h:Rd w B v l)(hB:B≤w.heap.size)(hg:B≤g): ∀p:cl (ea g) w,(convert 23 9 v).run Tryz.prog p.u= .ok (.string ⟨l.toArray⟩) p.u:=fun p=>by
 obtain⟨A,cap,h1,h2,h3,h4⟩:=h;refine Rd.strY (B:=B) ⟨A,cap,h1,h2,h3,fun hl=> ?_⟩;obtain⟨b,off,e,hb,hc⟩:=h4 hl;exact⟨b,off,e,hb,fun i hi=>(World.cell?_of_block (p.h.2 b (by omega) (by omega))).trans (hc i hi)⟩
open Lib (hid)
theorem vD {w w':World}{g:Nat}{ob:Obj}(h:w.heap[g]? =some ob)(hb:Below w.heap.size w w'):w'.heap[g]? =some ob:=(hb.block g (Array.getElem?_eq_some_iff.1 h).1).trans h
theorem uq {w w':World}{g:Nat}{cs:Array Value}{fr:Nat×Nat}(h:w.heap[g]? =some (.cells cs 114 fr))(hk:K8 w w'):w'.heap[g]? =some (.cells cs 114 fr):=hk g _ h (fun h=>by cases h) (fun c fz h=>by injection h with _ h;exact absurd h (by decide))
theorem sk {d:aS}(h:cr d=true):d.kind=1∨d.kind=2∨(d.kind=3∧0≤d.num∧d.num≤999):=by
 unfold cr at h;rw[Bool.and_eq_true]at h;have h2:=h.2
 split at h2
 ·omega
 split at h2
 ·omega
 split at h2
 ·simp only[Bool.and_eq_true,decide_eq_true_eq]at h2;exact .inr (.inr ⟨by omega,h2.2.1,h2.2.2⟩)
 ·cases h2
theorem sO {d:aS}(h:cr d=true)(hk:d.kind=1):ba d.val=0:=by
 unfold cr at h;rw[Bool.and_eq_true,if_pos hk,Bool.and_eq_true,decide_eq_true_eq]at h;exact h.2.1
theorem qr {p:List ByteArray}(h:iy p=true):p.length≤8:=((lP p).1 h).2.1
theorem zb (n:Nat):0<(grp n).length:=(ak n).2
theorem sd (S:Nat→Prop)(A:Option Addr)(c:Nat)(l:List aS)(w:World)(hS: ∀b,S b→b<w.heap.size)(h:bD w S A l)(hz:eI l)(hc:bG l=0):
  Calls Tryz.prog 78 #[.slice A l.length c] w (gw (bF l) w):=by
 obtain⟨h64,hm⟩:=cM hc;have HL:=hid h;have HS:=hid hS;have HD:=hid (And.intro hm hz);have HCN:=hid (bH l.length w (by omega))
 have HSM:Hid (∀k,(((l.take k).map aV).flatten).length≤134400000):=hid fun k=>by
  have h1:=fE (l:=l.take k) fun o ho=>⟨hm o (List.mem_of_mem_take ho),hz o (List.mem_of_mem_take ho)⟩;rw[List.length_take]at h1;omega
 have hfin:bF l=grp l.length++(l.map aV).flatten:=by unfold bF;rw[if_pos hc]
 have HF:=hid hfin;clear h hS hz hc hm hfin;go_enter Tryz.func78,Tryz.ntmps78;go_wp2_with fail;refine HCN.out.mono ?_;rintro e w1 ⟨v1,rfl,hv1,hb1⟩;have h0:Hid (ao w1 w.heap.size v1 (grp l.length++((l.take 0).map aV).flatten)∧Below w.heap.size w w1):=hid ⟨by simpa using hv1,hb1⟩;clear hv1 hb1 HCN;go_wp2_with fail
 go_loopw [3,4] (fun v0 i wr=> ∃k:Nat,i= .int .i64 k∧k≤l.length∧Hid (ao wr w.heap.size v0 (grp l.length++((l.take k).map aV).flatten)∧Below w.heap.size w wr)) (fun _ i _=>l.length - (intOf i).toNat)
 case atStart=>exact⟨0,rfl,by omega,h0⟩
 case round=>
  obtain⟨k,rfl,hk,HH⟩:=hrel;by_cases hlt:k<l.length
  ·have d1:decide ((k:Int)<(l.length:Int))=true:=decide_eq_true (by omega);obtain⟨p,off,PA,pc,VA,vc,VA',vc',rfl,hpS,ho,x0,x1,x2,x3,x4,x5,x6,x7⟩:=HL.out.cells k hlt;have hp:=HH.out.2.block p (HS.out p hpS);have z0:=(World.cell?_of_block (a:=⟨p,off+k * 8,none⟩) hp).trans x0;have z1:=(World.cell?_of_block (a:=⟨p,off+k * 8+1,none⟩) hp).trans x1;have z2:=(World.cell?_of_block (a:=⟨p,off+k * 8+2,none⟩) hp).trans x2;have z3:=(World.cell?_of_block (a:=⟨p,off+k * 8+3,none⟩) hp).trans x3;have z4:=(World.cell?_of_block (a:=⟨p,off+k * 8+4,none⟩) hp).trans x4;have z5:=(World.cell?_of_block (a:=⟨p,off+k * 8+5,none⟩) hp).trans x5;have z6:=(World.cell?_of_block (a:=⟨p,off+k * 8+6,none⟩) hp).trans x6;have z7:=(World.cell?_of_block (a:=⟨p,off+k * 8+7,none⟩) hp).trans x7;have HOK:=hid ho;have hmay:=HD.out.1 _ (List.getElem_mem hlt);have HMAY:=hid hmay;obtain⟨kd,hkd⟩: ∃kd,kd=l[k].kind:=⟨_,rfl⟩;have hkr:kd=1∨kd=2∨(kd=3∧0≤l[k].num∧l[k].num≤999):=by rw[hkd];exact sk hmay
   rw[←hkd]at z0;obtain⟨acc,hacc⟩: ∃acc,acc=grp l.length++((l.take k).map aV).flatten:=⟨_,rfl⟩;rw[←hacc]at HH
   have hal:acc.length≤134500000:=by
    have h1:=HSM.out k;have h2:=(ak l.length).1;rw[hacc];simp only[List.length_append];omega
   have HAL:=hid hal;obtain⟨ob,hob⟩: ∃ob:Obj,ob= .cells #[.int .i64 kd,.slice PA l[k].path.length pc,.int .i64 l[k].val.kind,.int .i64 l[k].val.num,.string l[k].val.text,.slice VA l[k].val.items.length vc,.slice VA' l[k].val.names.length vc',.int .i64 l[k].num] 114:=⟨_,rfl⟩;have HOB:=hid hob;obtain⟨w4,hw4⟩: ∃W,W=(wr.alloc ob).drew:=⟨_,rfl⟩;have HW4:=hid hw4
   have HX4:Hid (ao w4 w.heap.size u3 acc∧Below w.heap.size w w4∧w4.heap[wr.heap.size]? =some ob):=hid (by
    rw[hw4]
    exact⟨(show ao (wr.alloc ob) _ _ _ from HH.out.1.below ((Below.refl _ _).alloc (Nat.le_refl _) _)),(HH.out.2.alloc HH.out.2.size _).drew,heap_alloc_new wr ob⟩)
   have HOP:Hid (∀W,Below w.heap.size w W→aA W S PA l[k].path∧LV W S l[k].val (.agg #[.int .i64 l[k].val.kind,.int .i64 l[k].val.num,.string l[k].val.text,.slice VA l[k].val.items.length vc,.slice VA' l[k].val.names.length vc'])):=hid fun W hW=>by
    obtain⟨PA1,pc1,VA1,vc1,VA2,vc2,he,hv2,hp2,-⟩:=HOK.out;simp only[Array.mk.injEq,List.cons.injEq,Value.slice.injEq,true_and,and_true]at he;obtain⟨⟨rfl,rfl⟩,⟨rfl,rfl⟩,⟨rfl,rfl⟩⟩:=he;exact⟨hp2.keep fun b hb=>hW.block b (HS.out b hb),hv2.keep fun b hb=>hW.block b (HS.out b hb)⟩
   have HKD:=hid (And.intro hkd hkr);have HACC:=hid hacc;have HNM:=hid (jO hmay);have hpl8:l[k].path.length≤8:=qr (jf hmay);rw[hob]at HX4;clear x0 x1 x2 x3 x4 x5 x6 x7 hp hmay hacc hal hkd hkr hob ho;go_wp2_with fail;try simp only[←HOB.out]
   have q0:=bA (w:=w4) (i:=0) HX4.out.2.2 (by decide) rfl;have q1:=bA (w:=w4) (i:=1) HX4.out.2.2 (by decide) rfl;refine bj K8 (fun w=>Lib.OthersKept.refl _ _ _) (fun a b c h k=>h.trans k) [] (.pure [0,1,2,3,6,7,8] (.step 4 (.step 5 (.step 9 (.step 10 (.free [11] (.tail []))))))) (by kernel_rfl) (by kernel_rfl) (fun _ d _ _ _ h=>by cases d<;>exact h) ?_;rw[←HW4.out];clear hw4;refine cW ?_;simp only[atR];show wpQuiet _ _ _ _ [_,_,_,_,_,_,_] _;try simp only[acR,Act.put]at *
   repeat(go_big_quiet_step (fail))
   refine wpQuiet_nil ?_;clear q0 q1;refine aZ rfl (fun K hK=> ?_)
   go_simp
   refine hK _ _ (.inr ((Lib.OthersKept.refl _ _ _).alloc _)) ?_;clear hK K;obtain⟨kb,hkb⟩: ∃kb,kb=UInt8.ofNat kd.toNat:=⟨_,rfl⟩
   have hkx:kd % 256=(kb.toNat:Int):=by
    have h1:=HKD.out.2;rw[hkb,br _ (by omega)];omega
   have HKB:=hid hkb;have HKX:=hid hkx;have hB4:wr.heap.size<w4.heap.size:=(Array.getElem?_eq_some_iff.1 HX4.out.2.2).1;have hoA:ao (w4.alloc (.cells #[.int .u8 (kd % 256)] 5)) w.heap.size u3 acc:=HX4.out.1.below ((Below.refl _ _).alloc (Nat.le_refl _) _);have hbA:Below w.heap.size w (w4.alloc (.cells #[.int .u8 (kd % 256)] 5)):=HX4.out.2.1.alloc HX4.out.2.1.size _;have hkA:K8 w4 (w4.alloc (.cells #[.int .u8 (kd % 256)] 5)):=(Lib.OthersKept.refl _ _ _).alloc _;clear hkb hkx hB4;refine dt rfl rfl (fun K hK=> ?_);refine aE _ _ rfl w.heap.size u3 acc rfl hoA (w4.heap.size+1) _ [kb] rfl (Rd.one' rfl kb HKX.out) (by simp) hbA.size (by have:=HAL.out;simp;omega) (fun v5 w5 hv5 hg5=> ?_);refine hK _ _ (.inr (au hoA hg5)) ?_;clear hK K;have HX5:Hid (ao w5 w.heap.size v5 (acc++[kb])∧Below w.heap.size w w5∧K8 w4 w5):=hid ⟨hv5,aq hbA hoA hbA.size hg5,hkA.trans (au hoA hg5)⟩;clear hv5 hg5 hoA hbA hkA;simp only[acR,Act.put];have HC:=hid (bH l[k].path.length w5 (by omega));refine aZ rfl (fun K hK=> ?_)
   go_simp
   refine HC.out.mono ?_;rintro e w6 ⟨v6,rfl,hv6,hb6⟩
   go_simp
   refine hK _ _ (.inr (ax hb6)) ?_;clear hK K HC;have hoB:ao w6 w.heap.size v5 (acc++[kb]):=HX5.out.1.below hb6;have hbB:Below w.heap.size w w6:=HX5.out.2.1.trans (hb6.mono HX5.out.2.1.size);have hgl:=(ak l[k].path.length).1;refine dt rfl rfl (fun K hK=> ?_);refine aE _ _ rfl w.heap.size v5 (acc++[kb]) rfl hoB w6.heap.size _ (grp l[k].path.length) rfl hv6.rd (zb _) hbB.size (by have:=HAL.out;simp;omega) (fun v7 w7 hv7 hg7=> ?_);refine hK _ _ (.inr (au hoB hg7)) ?_;clear hK K;have hk7:K8 w4 w7:=(HX5.out.2.2.trans (ax hb6)).trans (au hoB hg7);have HX7:Hid (ao w7 w.heap.size v7 (acc++[kb]++grp l[k].path.length++((l[k].path.take 0).map txt).flatten)∧Below w.heap.size w w7∧w7.heap[wr.heap.size]? =some (.cells #[.int .i64 kd,.slice PA l[k].path.length pc,.int .i64 l[k].val.kind,.int .i64 l[k].val.num,.string l[k].val.text,.slice VA l[k].val.items.length vc,.slice VA' l[k].val.names.length vc',.int .i64 l[k].num] 114 (0,0))):=hid ⟨by simpa using hv7,aq hbB hoB hbB.size hg7,uq HX4.out.2.2 hk7⟩;clear hv7 hg7 hoB hbB hk7 hv6 hb6 HX5 HX4 hgl;simp only[acR,Act.put];refine cU ?_;simp only[atR];show wpQuiet _ _ _ _ [_] _;try simp only[acR,Act.put]at *
   repeat(go_big_quiet_step (fail))
   refine wpQuiet_nil ?_;refine cE ?_;clear z0 z1 z2 z3 z4 z5 z6 z7;obtain⟨g5,hg5⟩: ∃g,g=wr.heap.size:=⟨_,rfl⟩;rw[←hg5]at HX7 ⊢;clear hg5 HW4 HOB;go_wp2_with fail
   go_loopw [3,6] (fun v0 i wj=> ∃j:Nat,i= .int .i64 j∧j≤l[k].path.length∧Hid (ao wj w.heap.size v0 (acc++[kb]++grp l[k].path.length++((l[k].path.take j).map txt).flatten)∧Below w.heap.size w wj∧wj.heap[g5]? =some (.cells #[.int .i64 kd,.slice PA l[k].path.length pc,.int .i64 l[k].val.kind,.int .i64 l[k].val.num,.string l[k].val.text,.slice VA l[k].val.items.length vc,.slice VA' l[k].val.names.length vc',.int .i64 l[k].num] 114 (0,0)))) (fun _ i _=>l[k].path.length - (intOf i).toNat)
   case atStart=>exact⟨0,rfl,by omega,HX7⟩
   case round=>
    obtain⟨j,rfl,hj,HJ⟩:=hrel;have r1:wr.cell? ⟨g5,1,none⟩=some (.slice PA l[k].path.length pc):=Go.Joins.cell_of_block HJ.out.2.2 1;by_cases hjl:j<l[k].path.length
    ·have d2:decide ((j:Int)<(l[k].path.length:Int))=true:=decide_eq_true (by omega);obtain⟨b,boff,hPA,hbS,hcells⟩:=(HOP.out wr HJ.out.2.1).1 (by omega);rw[hPA]at r1;clear hPA;have hcj:=(hcells j hjl).1;have hsz:=HNM.out.2 _ (List.getElem_mem hjl);obtain⟨s,hs⟩: ∃s,s=l[k].path[j]:=⟨_,rfl⟩;rw[←hs]at hcj hsz;have HSX:=hid hs;have HT:=hid (dV s wr (by omega));have HTL:=hid (gR hsz);have hfl:=em (p:=l[k].path.take j) fun s hs=>HNM.out.2 s (List.mem_of_mem_take hs);rw[List.length_take]at hfl
     have hcl:(acc++[kb]++grp l[k].path.length++((l[k].path.take j).map txt).flatten).length≤134600000:=by
      have h1:=(ak l[k].path.length).1;have h3:=HAL.out;simp only[List.length_append,List.length_cons,List.length_nil];omega
     have HCL:=hid hcl;have HSZ:=hid HJ.out.2.1.size;clear hcells hsz hs hbS hfl hcl;go_wp2_with fail;refine HT.out.mono ?_;rintro e w8 ⟨v8,rfl,hv8,hb8⟩;have HV8:=hid hv8;have HO8:=hid (HJ.out.1.below hb8);have HB8:=hid hb8;clear hv8 hb8 HT hcj r1;go_wp2_with(at_builtin;go_must (refine af rfl _ _ rfl w.heap.size _ (acc++[kb]++grp l[k].path.length++((l[k].path.take j).map txt).flatten) rfl HO8.out w8.heap.size _ (txt s) rfl HV8.out.rd (Nat.le_trans HSZ.out HB8.out.size) (by have:=HCL.out;have:=HTL.out;omega) ?_));intro v9 w9 hv9 hg9
     have HX:Hid (ao w9 w.heap.size v9 (acc++[kb]++grp l[k].path.length++((l[k].path.take (j+1)).map txt).flatten)∧Below w.heap.size w w9∧w9.heap[g5]? =some (.cells #[.int .i64 kd,.slice PA l[k].path.length pc,.int .i64 l[k].val.kind,.int .i64 l[k].val.num,.string l[k].val.text,.slice VA l[k].val.items.length vc,.slice VA' l[k].val.names.length vc',.int .i64 l[k].num] 114 (0,0))):=hid ⟨by
      have h1:((l[k].path.take (j+1)).map txt).flatten=((l[k].path.take j).map txt).flatten++txt s:=by
       rw[List.take_add_one,List.getElem?_eq_getElem hjl,List.map_append,List.flatten_append,←HSX.out];exact congrArg _ (List.append_nil _)
      rw[h1]
      simpa[List.append_assoc,List.map_take]using hv9,aq (aB HJ.out.2.1 HB8.out) HO8.out (Nat.le_trans HSZ.out HB8.out.size) hg9,uq (vD HJ.out.2.2 HB8.out) (au HO8.out hg9)⟩
     clear hv9 hg9;go_wp2_with fail
     go_roundw
     case rel=>exact⟨j+1,by go_num,by omega,HX⟩
     case measure=>simp[intOf];omega
    ·have hje:j=l[k].path.length:=by omega
     have d2:decide ((j:Int)<(l[k].path.length:Int))=false:=decide_eq_false (by omega)
     have HJ2:Hid (ao wr w.heap.size u3 (acc++[kb]++cg l[k].path)∧Below w.heap.size w wr∧wr.heap[g5]? =some (.cells #[.int .i64 kd,.slice PA l[k].path.length pc,.int .i64 l[k].val.kind,.int .i64 l[k].val.num,.string l[k].val.text,.slice VA l[k].val.items.length vc,.slice VA' l[k].val.names.length vc',.int .i64 l[k].num] 114 (0,0))):=hid ⟨by
      have h9:=HJ.out.1;rw[hje,List.take_length]at h9;unfold cg
      simpa[List.append_assoc]using h9,HJ.out.2⟩
     have HN:Hid (grp l.length++((l.take (k+1)).map aV).flatten=acc++[kb]++cg l[k].path++(if kd=1 then cp l[k].val else if kd=3 then grp l[k].num.toNat else [])):=hid (by
      have h1:((l.take (k+1)).map aV).flatten=((l.take k).map aV).flatten++aV l[k]:=by
       rw[List.take_add_one,List.getElem?_eq_getElem hlt,List.map_append,List.flatten_append];exact congrArg _ (List.append_nil _)
      rw[h1,HACC.out,HKB.out,HKD.out.1];unfold aV
      simp only[List.append_assoc])
     have HL7:Hid ((acc++[kb]++cg l[k].path).length≤140000000):=hid (by have:=HAL.out;have:=kX HNM.out;simp;omega);have r0:wr.cell? ⟨g5,0,none⟩=some (.int .i64 kd):=Go.Joins.cell_of_block HJ.out.2.2 0;have r2:=Go.Joins.cell_of_block HJ.out.2.2 2;have r3:=Go.Joins.cell_of_block HJ.out.2.2 3;have r4:=Go.Joins.cell_of_block HJ.out.2.2 4;have r5:=Go.Joins.cell_of_block HJ.out.2.2 5;have r6:=Go.Joins.cell_of_block HJ.out.2.2 6;have r7:=Go.Joins.cell_of_block HJ.out.2.2 7;clear HJ hje;by_cases h1k:kd=1
     ·have hv:=HMAY.out;have HC:=hid (nH S l[k].val _ wr (fun b hb=>Nat.lt_of_lt_of_le (HS.out b hb) HJ2.out.2.1.size) (HOP.out wr HJ2.out.2.1).2 (HD.out.2 _ (List.getElem_mem hlt)) (sO hv (HKD.out.1▸h1k)));have HK1:=hid h1k;have d3:(kd == 1)=true:=by rw[h1k];rfl
      clear h1k hv;go_wp2_with fail;refine HC.out.mono ?_;rintro e w8 ⟨v8,rfl,hv8,hb8⟩;have HX8:Hid (ao w8 w.heap.size u3 (acc++[kb]++cg l[k].path)∧Below w.heap.size w w8∧Rd w8 w8.heap.size v8 (cp l[k].val)):=hid ⟨HJ2.out.1.below hb8,HJ2.out.2.1.trans (hb8.mono HJ2.out.2.1.size),hv8.rd⟩;clear hv8 hb8 HC r0 r1 r2 r3 r4 r5 r6 r7;go_wp2_with(at_builtin;go_must (refine af rfl _ _ rfl w.heap.size _ (acc++[kb]++cg l[k].path) rfl HX8.out.1 w8.heap.size v8 (cp l[k].val) rfl HX8.out.2.2 HX8.out.2.1.size (by have:=HL7.out;have:=fq (t:=l[k].val) (HD.out.2 _ (List.getElem_mem hlt));omega) ?_));intro v9 w9 hv9 hg9;have HX9:Hid (ao w9 w.heap.size v9 (grp l.length++((l.take (k+1)).map aV).flatten)∧Below w.heap.size w w9):=hid ⟨by rw[HN.out,if_pos HK1.out];simpa[List.append_assoc]using hv9,aq HX8.out.2.1 HX8.out.1 HX8.out.2.1.size hg9⟩;clear hv9 hg9;go_wp2_with fail
      go_roundw
      case rel=>exact⟨k+1,by go_num,by omega,HX9⟩
      case measure=>simp[intOf];omega
     have d3:(kd == 1)=false:=by simpa using h1k
     have HK1:=hid h1k;clear h1k;by_cases h3k:kd=3
     ·have d4:(kd == 3)=true:=by rw[h3k];rfl
      have HK3:=hid h3k;have hn9:0≤l[k].num∧l[k].num≤999:=by have:=HKD.out.2;omega
      obtain⟨n,hnn⟩: ∃n:Nat,l[k].num=n:=⟨l[k].num.toNat,by omega⟩;have HNN:=hid hnn;rw[hnn]at r7;have hn99:n≤999:=by omega
      have HC:=hid (bH n wr (by omega));clear h3k hn9 hnn;go_wp2_with fail;refine HC.out.mono ?_;rintro e w8 ⟨v8,rfl,hv8,hb8⟩;have HX8:Hid (ao w8 w.heap.size u3 (acc++[kb]++cg l[k].path)∧Below w.heap.size w w8∧Rd w8 w8.heap.size v8 (grp n)):=hid ⟨HJ2.out.1.below hb8,HJ2.out.2.1.trans (hb8.mono HJ2.out.2.1.size),hv8.rd⟩;clear hv8 hb8 HC r0 r1 r2 r3 r4 r5 r6 r7;go_wp2_with(at_builtin;go_must (refine af rfl _ _ rfl w.heap.size _ (acc++[kb]++cg l[k].path) rfl HX8.out.1 w8.heap.size v8 (grp n) rfl HX8.out.2.2 HX8.out.2.1.size (by have:=HL7.out;have:=(ak n).1;omega) ?_));intro v9 w9 hv9 hg9;have HX9:Hid (ao w9 w.heap.size v9 (grp l.length++((l.take (k+1)).map aV).flatten)∧Below w.heap.size w w9):=hid ⟨by rw[HN.out,if_neg HK1.out,if_pos HK3.out,HNN.out,Int.toNat_natCast];simpa[List.append_assoc]using hv9,aq HX8.out.2.1 HX8.out.1 HX8.out.2.1.size hg9⟩;clear hv9 hg9;go_wp2_with fail
      go_roundw
      case rel=>exact⟨k+1,by go_num,by omega,HX9⟩
      case measure=>simp[intOf];omega
     ·have d4:(kd == 3)=false:=by simpa using h3k
      have HX9:Hid (ao wr w.heap.size u3 (grp l.length++((l.take (k+1)).map aV).flatten)∧Below w.heap.size w wr):=hid ⟨by rw[HN.out,if_neg HK1.out,if_neg h3k,List.append_nil];exact HJ2.out.1,HJ2.out.2.1⟩;clear h3k;go_wp2_with fail
      go_roundw
      case rel=>exact⟨k+1,by go_num,by omega,HX9⟩
      case measure=>simp[intOf];omega
  ·have hke:k=l.length:=by omega
   have d1:decide ((k:Int)<(l.length:Int))=false:=decide_eq_false (by omega)
   have HE:Hid (ao wr w.heap.size u3 (bF l)):=hid (by
    have h9:=HH.out.1;rw[hke,List.take_length]at h9;rw[HF.out]
    exact h9)
   clear hke;go_wp2_with fail;go_ret;exact⟨_,rfl,HE.out,HH.out.2⟩
end Go.Proofs.YtgfidiocmiolpaaGreat
