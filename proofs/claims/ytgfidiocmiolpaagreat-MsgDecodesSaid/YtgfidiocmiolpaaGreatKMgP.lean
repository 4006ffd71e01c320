/- Are two messages the same: by the program. -/
import Derived.Test.YtgfidiocmiolpaaGreatKMgN
import Derived.Test.YtgfidiocmiolpaaGreatKCodS
import Derived.Test.YtgfidiocmiolpaaGreatKRefZ
import Derived.Test.YtgfidiocmiolpaaGreatKEnC
import Derived.Test.YtgfidiocmiolpaaGreatKDlU
import Derived.Test.YtgfidiocmiolpaaGreatKEnR
import Derived.Test.YtgfidiocmiolpaaGreatKVr
import Derived.Test.YtgfidiocmiolpaaGreatKRegR
import Derived.Test.YtgfidiocmiolpaaGreatKEnM
import Derived.Test.YtgfidiocmiolpaaGreatKMgE
import Derived.Test.YtgfidiocmiolpaaGreatKDlV
import Derived.Test.YtgfidiocmiolpaaGreatKCodG
import Derived.Test.YtgfidiocmiolpaaGreatKValB
import Derived.Maps.AppendAt
set_option maxHeartbeats 64000000
set_option maxRecDepth 100000
set_option linter.unusedVariables false
set_option linter.unusedSimpArgs false
namespace Go.Proofs.YtgfidiocmiolpaaGreat
open Lib (hid)
open Go.RowKit Go.Joins
def te (a b:bM):Bool:=decide (ld a=0) && decide (mD a=mD b)
theorem uN (a b:bM)(EA:Option Addr)(ec:Nat)(SA:Option Addr)(sc:Nat)(FA:Option Addr)(fc:Nat)(TA:Option Addr)(tc:Nat)(w:World)(h:bF w (fun b=>b<w.heap.size) a EA ec SA sc)(k:bF w (fun b=>b<w.heap.size) b FA fc TA tc)(ha: ∀e∈a.ents,SmE e)(hb: ∀e∈b.ents,SmE e)(hpa:cx a=true→lB a EA ec)(hpb:cx b=true→lB b FA fc):
  Calls Tryz.prog 17 #[.agg #[.int .i64 a.kind,.int .i64 a.frm,.int .i64 a.tgt,.int .i64 a.term,.int .i64 a.index,.int .i64 a.logTerm,.int .i64 a.commit,.int .i64 a.round,.bool a.ok,.slice EA a.ents.length ec,.slice SA a.snap.length sc],.agg #[.int .i64 b.kind,.int .i64 b.frm,.int .i64 b.tgt,.int .i64 b.term,.int .i64 b.index,.int .i64 b.logTerm,.int .i64 b.commit,.int .i64 b.round,.bool b.ok,.slice FA b.ents.length fc,.slice TA b.snap.length tc]] w fun q w'=>q= .returned (.bool (te a b))∧Below w.heap.size w w':=by
 obtain⟨w1,hw1⟩: ∃W,W=w.alloc (.cells #[.int .i64 a.kind,.int .i64 a.frm,.int .i64 a.tgt,.int .i64 a.term,.int .i64 a.index,.int .i64 a.logTerm,.int .i64 a.commit,.int .i64 a.round,.bool a.ok,.slice EA a.ents.length ec,.slice SA a.snap.length sc] 25):=⟨_,rfl⟩;obtain⟨w2,hw2⟩: ∃W,W=w1.alloc (.cells #[.int .i64 b.kind,.int .i64 b.frm,.int .i64 b.tgt,.int .i64 b.term,.int .i64 b.index,.int .i64 b.logTerm,.int .i64 b.commit,.int .i64 b.round,.bool b.ok,.slice FA b.ents.length fc,.slice TA b.snap.length tc] 25):=⟨_,rfl⟩;have hb1:Below w.heap.size w w1:=by rw[hw1];exact af _
 have hb2:Below w1.heap.size w1 w2:=by rw[hw2];exact af _
 have hz1:w1.heap.size=w.heap.size+1:=by rw[hw1];simp
 have HK1:Hid (ct w2 w.heap.size a EA ec SA sc):=hid ((hb2.block _ (by omega)).trans (by rw[hw1];exact heap_alloc_new w _));have HK2:Hid (ct w2 (w.heap.size+1) b FA fc TA tc):=hid (by rw[←hz1,hw2];exact heap_alloc_new w1 _);have HB2:Hid (Below w.heap.size w w2):=hid (hb1.trans (hb2.mono (by omega)));have HEA:=hid (fun(u:World) (hu:Below w.heap.size w u)=>fL a EA ec SA sc u (h.up hu) ha hpa);have HEB:=hid (fun(u:World) (hu:Below w.heap.size w u)=>fL b FA fc TA tc u (k.up hu) hb hpb);have HZ1:=hid hz1;have HZ2:Hid (w.heap.size+1<w2.heap.size):=hid (by rw[hw2];simp;omega);clear hb1 hb2 hz1 h k ha hb hpa hpb;go_enter Tryz.func17,Tryz.ntmps17;go_wp2_with fail;rw[←hw1,←hw2];clear hw1 hw2;go_wp2_with(refine aw (by rfl) _ rfl w.heap.size rfl _ _ HK1.out rfl ?_;simp only[acR,Act.put]);refine(HEA.out _ HB2.out).mono ?_;rintro q w3 ⟨v,rfl,ho,hb⟩;have HO3:=hid ho;have HB3:=hid (HB2.out.trans (hb.mono HB2.out.size));have HK3:=hid (HK2.out.below hb);clear ho hb HK2 HK1 HEA;go_wp2_with(refine aw (by rfl) _ rfl (w.heap.size+1) rfl _ _ HK3.out rfl ?_;simp only[acR,Act.put]);refine(HEB.out _ HB3.out).mono ?_;rintro q w4 ⟨v2,rfl,ho,hb⟩;have HO4:=hid (And.intro (HO3.out.below hb) ho);have HB4:=hid (HB3.out.trans (hb.mono HB3.out.size));clear ho hb HO3 HB3 HEB;by_cases h0:ld a=0
 ·have HE:=hid h0;rw[h0];go_wp2_with fail;refine(qe _ _ _ _ _ _ _ HO4.out.1.rdY HO4.out.2.rdY).mono ?_;rintro q u ⟨rfl,hw⟩;subst hw;go_wp2_with fail;go_ret;exact⟨by unfold te;rw[HE.out];rfl,HB4.out⟩
 ·have h1:(ld a == 0)=false:=beq_false_of_ne h0;have HE:=hid h0;go_wp2_with fail;go_ret;exact⟨by unfold te;rw[decide_eq_false HE.out];rfl,HB4.out⟩
def fh (st:Option (List UInt8)):Bool×Option (List UInt8):=(decide ((ak st).1=1),if 1<(ak st).1 then none else(ak st).2)
theorem mn {a b c:World}{g:Nat}(h:au a b g)(k:au b c g):au a c g:=
 ⟨k.os.trans h.os,k.tape.trans h.tape,k.output.trans h.output,Nat.le_trans h.size k.size,fun i hi hg=>(k.block i (Nat.lt_of_lt_of_le hi h.size) hg).trans (h.block i hi hg)⟩
theorem qU (g:Nat)(st:Option (List UInt8))(w:World)(h:aN w g st):
  Calls Tryz.prog 71 #[.pointer (some ⟨g,0,none⟩)] w fun e w'=>e= .returned (.bool (fh st).1)∧aN w' g (fh st).2∧au w w' g:=by
 have HB:=hid (ft g st w h);obtain⟨n,hn⟩: ∃n:Nat,n=(ak st).1:=⟨_,rfl⟩;have HE:Hid (fh st=(decide (n=1),if 1<n then none else(ak st).2)):=hid (by rw[hn];rfl);rw[←hn]at HB;clear h hn;go_enter Tryz.func71,Tryz.ntmps71;go_wp2_with fail;refine HB.out.mono ?_;rintro e w1 ⟨rfl,hs,ho⟩;have HS:=hid hs;have HO:=hid ho;clear hs ho HB;by_cases h1:1<n
 ·have HC:=hid (eI g _ w1 HS.out);go_wp2_with fail;refine HC.out.mono ?_;rintro e w2 ⟨rfl,hs2,ho2⟩;have HS2:=hid hs2;have HO2:=hid (mn HO.out ho2);clear hs2 ho2 HC;go_wp2_with fail;go_ret;refine⟨?_,?_,HO2.out⟩
  ·rw[HE.out];show Ending.returned (Value.bool ((n:Int) == 1))=Ending.returned (Value.bool (decide (n=1)));rw[show((n:Int) == 1)=decide (n=1) from by rw[Bool.eq_iff_iff];simp;omega]
  ·rw[HE.out];simp only[h1,if_true];exact HS2.out
 ·go_wp2_with fail;go_ret;refine⟨?_,?_,HO.out⟩
  ·rw[HE.out];show Ending.returned (Value.bool ((n:Int) == 1))=Ending.returned (Value.bool (decide (n=1)));rw[show((n:Int) == 1)=decide (n=1) from by rw[Bool.eq_iff_iff];simp;omega]
  ·rw[HE.out];simp only[h1,if_false];exact HS.out
structure lJ (g k:Nat)(w w':World):Prop where
 os:w'.os=w.os
 tape:w'.tape=w.tape
 output:w'.output=w.output
 size:w.heap.size≤w'.heap.size
 block: ∀b,b<w.heap.size→b≠g→b≠k→w'.heap[b]? =w.heap[b]?
theorem lJ.trans {g k:Nat}{a b c:World}(h:lJ g k a b)(i:lJ g k b c):lJ g k a c:=⟨i.os.trans h.os,i.tape.trans h.tape,i.output.trans h.output,Nat.le_trans h.size i.size,fun x hx h1 h2=>(i.block x (Nat.lt_of_lt_of_le hx h.size) h1 h2).trans (h.block x hx h1 h2)⟩
theorem lJ.one {g k:Nat}{a b:World}(h:au a b g):lJ g k a b:=⟨h.os,h.tape,h.output,h.size,fun x hx h1 _=>h.block x hx (by intro e;injection e with e;exact h1 e)⟩
theorem lJ.two {g k:Nat}{a b:World}(h:au a b k):lJ g k a b:=⟨h.os,h.tape,h.output,h.size,fun x hx _ h2=>h.block x hx (by intro e;injection e with e;exact h2 e)⟩
theorem mm {w w':World}{g p:Nat}(ho:au w w' g)(h:p<w.heap.size)(hne:p≠g):w'.heap[p]? =w.heap[p]? :=ho.block p h (by intro e;injection e with e;exact hne e)
theorem rL (g i V s:Nat)(t:TypeId)(cs:Array Value)(st:Option (List UInt8))(w:World)(hb:w.heap[g]? =some (.cells cs 25 (0,0)))(hi:i<cs.size)(hv:w.heap[V]? =some (.cells #[.pointer (some ⟨s,0,none⟩)] t (0,0)))(hs:aN w s st)(hgs:g≠s):
  Calls Tryz.prog 70 #[.pointer (some ⟨g,i,none⟩),.pointer (some ⟨V,0,none⟩)] w fun e w'=>e= .returned (.tuple #[])∧w'.heap[g]? =some (.cells (cs.setIfInBounds i (.int .i64 (ae 1099511627776 st).1)) 25 (0,0))∧aN w' s (ae 1099511627776 st).2∧lJ g s w w':=by
 have y0:w.cell? ⟨V,0,none⟩=some (.pointer (some ⟨s,0,none⟩)):=Go.Joins.cell_of_block hv 0;have HC:=hid (cD s st 1099511627776 w hs (by omega));have HG:=hid (And.intro hb (And.intro hi hgs));clear hb hi hv hs hgs;go_enter Tryz.func70,Tryz.ntmps70;go_wp2_with fail;refine HC.out.mono ?_;rintro e w1 ⟨rfl,hs1,ho1⟩;obtain⟨n,hn⟩: ∃n:Int,n=((ae 1099511627776 st).1:Int):=⟨_,rfl⟩;rw[←hn];have HN:=hid hn;clear hn;have hg1:w1.heap[g]? =some (.cells cs 25 (0,0)):=bP ho1 HG.out.1 HG.out.2.2;have HG1:=hid hg1;have HS1:=hid hs1;have HO1:=hid ho1;clear y0 HC hs1 ho1 hg1;go_wp2_with(refine ah (by rfl) 3 _ _ rfl rfl g i rfl (.int .i64 n) #[.int .i64 n] rfl rfl cs (cs.setIfInBounds i (.int .i64 n)) 25 HG1.out (by have:=HG.out.2.1;simp;omega) (by kernel_rfl) (by simp[Value.oneCell']) rfl ?_;intro w6 h6 ho6 hz6;have H6:=hid h6;have HS6:=hid (aN.of HS1.out (mm ho6 HS1.out.lt (fun e=>HG.out.2.2 e.symm)));have HO6:=hid ((lJ.two HO1.out).trans (lJ.one (k:=s) ho6));clear h6 ho6 hz6)
 go_end0
 exact⟨rfl,by rw[←HN.out];exact H6.out,HS6.out,HO6.out⟩
end Go.Proofs.YtgfidiocmiolpaaGreat
/- Rows of a call's own of any things, while they grow by appends. -/
namespace Go.Proofs.YtgfidiocmiolpaaGreat
open Go.RowKit
def ThC {α:Type}(L:World→(Nat→Prop)→α→Array Value→Prop)(w:World)(S:Nat→Prop):List α→List Value→Prop
 | [],xs=>xs= []
 |o::l,xs=> ∃c r,xs=c++r∧L w S o c.toArray∧ThC L w S l r
section
variable {α :Type} {L:World→(Nat→Prop)→α→Array Value→Prop} {m:Nat} {w w':World} {S S':Nat→Prop}
theorem ThC.len1 (hL:jB L m){o:α}{cs:List Value}(h:L w S o cs.toArray):cs.length=m:=by
 have:=hL.size h;simpa using this
theorem ThC.keep (hL:jB L m)(hk: ∀b,S b→w'.heap[b]? =w.heap[b]?): ∀ {l:List α} {xs:List Value},ThC L w S l xs→ThC L w' S l xs
 | [],_,h=>h
 |_::_,_,h=>by obtain⟨c,r,h0,h1,h2⟩:=h;exact⟨c,r,h0,hL.keep h1 hk,ThC.keep hL hk h2⟩
theorem ThC.imp (hL:jB L m)(hS: ∀b,S b→S' b): ∀ {l:List α} {xs:List Value},ThC L w S l xs→ThC L w S' l xs
 | [],_,h=>h
 |_::_,_,h=>by obtain⟨c,r,h0,h1,h2⟩:=h;exact⟨c,r,h0,hL.imp h1 hS,ThC.imp hL hS h2⟩
theorem ThC.push {o:α}{cs:List Value}(ho:L w S o cs.toArray): ∀ {l:List α} {xs:List Value},ThC L w S l xs→ThC L w S (l++[o]) (xs++cs)
 | [],xs,h=>by have h:xs= []:=h;subst h;exact⟨cs,[],by simp,ho,rfl⟩
 |p::l,xs,h=>by
  obtain⟨c,r,rfl,h1,h2⟩:=h;exact⟨c,r++cs,by rw[List.append_assoc],h1,ThC.push ho h2⟩
theorem ThC.at (hL:jB L m): ∀ {l:List α} {xs:List Value},ThC L w S l xs→ ∀i (hi:i<l.length),∃cs:List Value,L w S l[i] cs.toArray∧ ∀j,j<m→xs[i * m+j]? =cs[j]?
 | [],_,_,i,hi=>absurd hi (by simp)
 |o::l,xs,h,i,hi=>by
  obtain⟨c,r,rfl,h1,h2⟩:=h;have hc:=ThC.len1 hL h1
  cases i with
  |zero=>
   refine⟨c,h1,fun j hj=> ?_⟩;rw[List.getElem?_append_left (by omega)]
   congr 1;omega
  |succ i=>
   obtain⟨cs,h3,h4⟩:=ThC.at hL h2 i (by simpa using hi);refine⟨cs,h3,fun j hj=> ?_⟩;have e:(i+1) * m=i * m+m:=Nat.succ_mul i m;rw[List.getElem?_append_right (by omega),hc,←h4 j hj]
   congr 1;omega
theorem ThC.rows (hL:jB L m){B:Nat}{t:TypeId}{A:Option Addr}{c n:Nat}{l:List α}{xs:List Value}(h:ThC L w S l xs)(ho:w.ownsRow B t m (.slice A n c) n xs)(hn:n=l.length)(hS: ∀b,S b→S' b)(hrow: ∀p,(Value.slice A n c).ownBlock=some p→S' p):dC L m w S' A l:=fun hp=>by
 subst hn;rcases ho.2 with ⟨-,h0⟩|⟨g,cap,cur,e,hB,hh,hr⟩
 ·omega
 ·injection e with e1 e2 e3
  subst e1 e3;refine⟨g,0,rfl,hrow g rfl,fun i hi=> ?_⟩;obtain⟨cs,h4,h5⟩:=ThC.at hL h i hi;refine⟨cs.toArray,fun j v hv=> ?_,hL.imp h4 hS⟩;have hv':cs[j]? =some v:=by simpa using hv
  have hj:j<m:=by have:=(List.getElem?_eq_some_iff.1 hv').1;have:=ThC.len1 hL h4;omega
  have h6:=ho.cells (g:=g) rfl (i * m+j) v (by rw[h5 j hj];exact hv');rw[add_at,Nat.zero_add]at h6;rw[Nat.zero_add];exact h6
end
def cd {α:Type}(L:World→(Nat→Prop)→α→Array Value→Prop)(m:Nat)(t:TypeId)(w0:World)(w:World)(A:Option Addr)(c:Nat)(l:List α):Prop:=
 ∃xs,∃S:Nat→Prop,w.ownsRow w0.heap.size t m (.slice A l.length c) l.length xs∧ThC L w S l xs∧ ∀b,S b→w0.heap.size≤b∧b<w.heap.size∧ ∀p,(Value.slice A l.length c).ownBlock=some p→b≠p
section
variable {α :Type} {L:World→(Nat→Prop)→α→Array Value→Prop} {m:Nat} {t:TypeId} {w0 w w':World} {A:Option Addr} {c:Nat} {l:List α}
theorem cd.nil (w0 w:World):cd L m t w0 w none 0 ([]:List α):=⟨[],fun _=>False,World.ownsRow_nil _ _ _ _,rfl,fun _ h=>h.elim⟩
theorem cd.still (hL:jB L m)(h:cd L m t w0 w A c l)(hk: ∀b,w0.heap.size≤b→b<w.heap.size→w'.heap[b]? =w.heap[b]?)(hz:w.heap.size≤w'.heap.size):cd L m t w0 w' A c l:=by
 obtain⟨xs,S,h1,h2,h3⟩:=h;refine⟨xs,S,⟨h1.1,h1.2.imp id ?_⟩,ThC.keep hL (fun b hb=>hk b (h3 b hb).1 (h3 b hb).2.1) h2,fun b hb=>⟨(h3 b hb).1,Nat.lt_of_lt_of_le (h3 b hb).2.1 hz,(h3 b hb).2.2⟩⟩;rintro⟨q,cap,cur,e,hB,hh,hr⟩;exact⟨q,cap,cur,e,hB,(hk q hB (Array.getElem?_eq_some_iff.1 hh).1).trans hh,hr⟩
theorem cd.only (hL:jB L m){g:Nat}(h:cd L m t w0 w A c l)(ho:au w w' g)(hg:g<w0.heap.size):cd L m t w0 w' A c l:=
 h.still hL (fun b h1 h2=>ho.block b h2 (by rintro⟨⟩;omega)) ho.size
theorem cd.below (hL:jB L m)(h:cd L m t w0 w A c l)(hb:Below w.heap.size w w'):cd L m t w0 w' A c l:=
 h.still hL (fun b _ h2=>hb.block b h2) hb.size
theorem cd.alloc (hL:jB L m)(h:cd L m t w0 w A c l)(o:Obj):cd L m t w0 (w.alloc o) A c l:=
 h.still hL (fun b _ h2=>Below.heap_alloc w o b h2) (by simp)
theorem cd.rows (hL:jB L m)(h:cd L m t w0 w A c l):dC L m w (dB w0.heap.size w) A l:=by
 obtain⟨xs,S,h1,h2,h3⟩:=h;exact ThC.rows hL h2 h1 rfl (fun b hb=>⟨(h3 b hb).1,(h3 b hb).2.1⟩) (fun p hp=>World.ownsRow.lt h1 p hp)
theorem cd.cap (h:cd L m t w0 w A c l):l.length≤c:=by
 obtain⟨xs,S,h1,-⟩:=h;rcases h1.2 with ⟨e,h0⟩|⟨g,cap,cur,e,-,-,hc,-⟩
 ·omega
 ·injection e with _ _ e;omega
theorem cd.own (h:cd L m t w0 w A c l): ∀p,(Value.slice A l.length c).ownBlock=some p→w0.heap.size≤p∧p<w.heap.size:=by
 obtain⟨xs,S,h1,-⟩:=h;exact fun p hp=>World.ownsRow.lt h1 p hp
theorem cd.none' (h:cd L m t w0 w A c l):A=none→c=0∧l= []:=by
 rintro rfl;obtain⟨xs,S,h1,-⟩:=h;rcases h1.2 with ⟨e,h0⟩|⟨g,cap,cur,e,-⟩
 ·injection e with e1 e2 e3
  exact⟨e3,List.eq_nil_of_length_eq_zero e2⟩
 ·injection e with e1 e2 e3
  cases e1
theorem cd.push (hL:jB L m){W:World}{p cap n:Nat}{xs cs:List Value}{S S2:Nat→Prop}{o:α}(hn:n=l.length)
  (hb:w.grownBy W (Value.slice A n c).ownBlock) (hw:jd w (.slice A n c) (.slice (some ⟨p,0,none⟩) (n+1) cap)) (hown:W.ownsRow w0.heap.size t m (.slice (some ⟨p,0,none⟩) (n+1) cap) (n+1) (xs++cs)) (hl:ThC L w S l xs) (hone:L w S2 o cs.toArray)
  (hS: ∀b,S b→w0.heap.size≤b∧b<w.heap.size∧ ∀p,(Value.slice A n c).ownBlock=some p→b≠p) (hS2: ∀b,S2 b→w0.heap.size≤b∧b<w.heap.size∧ ∀p,(Value.slice A n c).ownBlock=some p→b≠p):
  cd L m t w0 W (some ⟨p,0,none⟩) cap (l++[o]):=by
 subst hn;have hlen:(l++[o]).length=l.length+1:=by simp
 have hk: ∀b,b<w.heap.size→(∀p,(Value.slice A l.length c).ownBlock=some p→b≠p)→W.heap[b]? =w.heap[b]? :=fun b h1 h3=>hb.block b h1 (fun e=>h3 b e.symm rfl);refine⟨xs++cs,fun b=>S b∨S2 b,by rw[hlen];exact hown,ThC.push (hL.imp (hL.keep hone fun b hb'=>hk b (hS2 b hb').2.1 (hS2 b hb').2.2) fun b h=> .inr h) (ThC.imp hL (fun b h=> .inl h) (ThC.keep hL (fun b hb'=>hk b (hS b hb').2.1 (hS b hb').2.2) hl)),?_⟩;intro b hb';have hc:w0.heap.size≤b∧b<w.heap.size∧ ∀p,(Value.slice A l.length c).ownBlock=some p→b≠p:=hb'.elim (hS b) (hS2 b);refine⟨hc.1,Nat.lt_of_lt_of_le hc.2.1 hb.size,fun q hq=> ?_⟩;have hq:p=q:=by simpa[Value.ownBlock]using hq
 subst hq;rcases hw with hw|⟨q,hq,e⟩
 ·exact hc.2.2 p hw.symm
 ·injection e with e
  have e:p=q:=e;omega
theorem xZ (hL:jB L m){wr w5 w7:World}{k c7 p:Nat}{x:α}{cs xs:List Value}{S:Nat→Prop}{v7:Value}(hk:l.length=k)(hzw:w0.heap.size≤wr.heap.size)(hr:cd L m t w0 wr A c l)(hz5:wr.heap.size≤w5.heap.size)(hop:L w5 (dB wr.heap.size w5) x cs.toArray)
  (hl:ThC L (w5.alloc (.cells cs.toArray t)) S l xs) (hS: ∀b,S b→w0.heap.size≤b∧b<(w5.alloc (.cells cs.toArray t)).heap.size∧ ∀p,(Value.slice A k c).ownBlock=some p→b≠p)
  (hv:v7= .slice (some ⟨p,0,none⟩) (k+1) c7) (hown:w7.ownsRow w0.heap.size t m v7 (k+1) (xs++cs)) (hb:(w5.alloc (.cells cs.toArray t)).grownBy w7 (Value.slice A k c).ownBlock) (hat:v7.ownBlock=(Value.slice A k c).ownBlock∨v7.ownBlock=some (w5.alloc (.cells cs.toArray t)).heap.size):
  cd L m t w0 w7 (some ⟨p,0,none⟩) c7 (l++[x])∧w7.os=w5.os∧w7.tape=w5.tape∧w7.output=w5.output∧w5.heap.size≤w7.heap.size∧ ∀b,b<w0.heap.size→w7.heap[b]? =w5.heap[b]? :=by
 have hpo: ∀p,(Value.slice A k c).ownBlock=some p→w0.heap.size≤p∧p<wr.heap.size:=by
  have h:=hr.own;rw[hk]at h;exact h
 have hz6:(w5.alloc (.cells cs.toArray t)).heap.size=w5.heap.size+1:=by simp
 have k6: ∀b,b<w5.heap.size→(w5.alloc (.cells cs.toArray t)).heap[b]? =w5.heap[b]? :=fun b hb=>Below.heap_alloc w5 _ b hb;have k7: ∀b,b<w5.heap.size→(∀p,(Value.slice A k c).ownBlock=some p→b≠p)→w7.heap[b]? =w5.heap[b]? :=fun b hb' hn=>(hb.block b (by omega) (fun e=>hn b e.symm rfl)).trans (k6 b hb');subst hv;refine⟨?_,hb.os,hb.tape,hb.output,by have:=hb.size;omega,fun b hb'=>k7 b (by omega) fun q hq e=>by have:=(hpo q hq).1;omega⟩;refine cd.push (S2:=dB wr.heap.size w5) hL hk.symm hb ?_ hown hl (hL.keep hop fun b hb'=>k6 b hb'.2) hS ?_
 ·exact hat.imp id fun h=>⟨_,Nat.le_refl _,h⟩
 ·intro b hb';have h1:wr.heap.size≤b:=hb'.1;have h2:b<w5.heap.size:=hb'.2;exact⟨by omega,by omega,fun q hq e=>by have:=(hpo q hq).2;omega⟩
end
theorem oF (w:World)(cs:List Value)(t:TypeId): ∀j u,cs[j]? =some u→(w.alloc (.cells cs.toArray t)).cell? ((⟨w.heap.size,0,none⟩:Addr).add j)=some u:=fun j u h=>by
 rw[add_at,Nat.zero_add];exact(Go.Joins.cell_of_block (heap_alloc_new w _) j).trans (by simpa using h)
open Lib (hid)
theorem Tryz.infoEnt :(Tryz.prog.info? 46).map (fun i=>(i.zero,i.size,i.bytes))=some (some (.agg #[.int .i64 0,.int .i64 0,.string ⟨#[]⟩,.string ⟨#[]⟩,.int .i64 0,.int .i64 0,.string ⟨#[]⟩,.slice none 0 0,.slice none 0 0,.int .i64 0,.int .i64 0,.string ⟨#[]⟩,.slice none 0 0,.slice none 0 0,.slice none 0 0,.int .i64 0,.int .i64 0]),17,248):=by kernel_rfl
def cB (st:Option (List UInt8)):Nat→List bA×Option (List UInt8)
 |0=>([],st)
 |k+1=>((cB st k).1++[(rdE (cB st k).2).1],(rdE (cB st k).2).2)
theorem eZ (st:Option (List UInt8)): ∀k,(cB st k).1.length=k
 |0=>rfl
 |k+1=>by simp[cB,eZ st k]
def gd (st:Option (List UInt8)):List bA×Option (List UInt8):=cB (ae 8 st).2 (ae 8 st).1
theorem wD (st:Option (List UInt8)):(gd st).1.length≤8:=by
 have:=aZ 8 st (by omega);unfold gd;rw[eZ];omega
def pf (g:Nat)(st:Option (List UInt8))(w:World)(e:Ending)(w':World):Prop:=
 ∃A c,e= .returned (.slice A (gd st).1.length c)∧dZ w' (dB w.heap.size w') A (gd st).1∧(A=none→c=0)∧(gd st).1.length≤c∧aN w' g (gd st).2∧au w w' g
theorem db.oneL {w:World}{S:Nat→Prop}{e:bA}{cs:List Value}(h:db w S e cs.toArray): ∀u∈cs,u.oneCell'=true:=by
 obtain⟨IA,ic,IA',ic',DA,dc,DA',dc',LA,lc,h1,-⟩:=h;simp only[Array.mk.injEq]at h1;subst h1;intro u hu;simp only[List.mem_cons,List.not_mem_nil,or_false]at hu;rcases hu with rfl|rfl|rfl|rfl|rfl|rfl|rfl|rfl|rfl|rfl|rfl|rfl|rfl|rfl|rfl|rfl|rfl<;>rfl
theorem nI (g:Nat)(st:Option (List UInt8))(w:World)(hs:aN w g st):Calls Tryz.prog 72 #[.pointer (some ⟨g,0,none⟩)] w (pf g st w):=by
 obtain⟨i0,hi,hz0,hz1,hz2⟩:=info_parts Tryz.infoEnt;have h16:(ae 8 st).1≤8:=aZ 8 st (by omega);have HC:=hid (cD g st 8 w hs (by omega));have HG:=hid hs.lt;obtain⟨n,hn⟩: ∃n,n=(ae 8 st).1:=⟨_,rfl⟩;obtain⟨s1,hs1'⟩: ∃s1,s1=(ae 8 st).2:=⟨_,rfl⟩;have HN:Hid (gd st=cB s1 n):=hid (by rw[hn,hs1'];rfl);rw[←hn]at h16 HC;rw[←hs1']at HC;clear hs hn hs1';go_enter Tryz.func72,Tryz.ntmps72;go_wp2_with fail;refine HC.out.mono ?_;rintro e w1 ⟨rfl,hs1,ho1⟩;have h0:Hid (aN w1 g (cB s1 0).2∧au w w1 g):=hid ⟨hs1,ho1⟩;clear hs1 ho1 HC;go_wp2_with fail
 go_loopw [3,6] (fun v i wr=> ∃(k:Nat) (A:Option Addr) (c:Nat),i= .int .i64 k∧k≤n∧v= .slice A k c∧Hid (aN wr g (cB s1 k).2∧au w wr g)∧Hid (cd db 17 46 w wr A c (cB s1 k).1)) (fun _ i _=>n - (intOf i).toNat)
 case atStart=>exact⟨0,none,0,rfl,by omega,rfl,h0,hid (cd.nil _ _)⟩
 case round=>
  obtain⟨k,A,c,rfl,hk,rfl,HH,HR⟩:=hrel;by_cases hlt:k<n
  ·have d1:decide ((k:Int)<(n:Int))=true:=decide_eq_true (by omega);have HT:=hid (ud g (cB s1 k).2 wr HH.out.1);have hk16:k<8:=by omega
   go_wp2_with fail;refine HT.out.mono ?_;rintro e w5 ⟨cs,rfl,hop,hs5,ho5⟩;obtain⟨IA,ic,IA',ic',DA,dc,DA',dc',LA,lc,rfl,-⟩:=id hop;obtain⟨o,hob⟩: ∃o,o=(rdE (cB s1 k).2).1:=⟨_,rfl⟩;rw[←hob]at hop ⊢;have h1c: ∀u∈([.int .i64 o.term,.int .i64 o.kind,.string o.coll,.string o.to,.int .i64 o.id.kind,.int .i64 o.id.num,.string o.id.text,.slice IA o.id.items.length ic,.slice IA' o.id.names.length ic',.int .i64 o.doc.kind,.int .i64 o.doc.num,.string o.doc.text,.slice DA o.doc.items.length dc,.slice DA' o.doc.names.length dc',.slice LA o.dels.length lc,.int .i64 o.session,.int .i64 o.number]:List Value),u.oneCell'=true:=db.oneL (cs:=[.int .i64 o.term,.int .i64 o.kind,.string o.coll,.string o.to,.int .i64 o.id.kind,.int .i64 o.id.num,.string o.id.text,.slice IA o.id.items.length ic,.slice IA' o.id.names.length ic',.int .i64 o.doc.kind,.int .i64 o.doc.num,.string o.doc.text,.slice DA o.doc.items.length dc,.slice DA' o.doc.names.length dc',.slice LA o.dels.length lc,.int .i64 o.session,.int .i64 o.number]) hop;have hrow:=((HR.out.only dj ho5 HG.out).alloc dj (.cells (List.toArray [.int .i64 o.term,.int .i64 o.kind,.string o.coll,.string o.to,.int .i64 o.id.kind,.int .i64 o.id.num,.string o.id.text,.slice IA o.id.items.length ic,.slice IA' o.id.names.length ic',.int .i64 o.doc.kind,.int .i64 o.doc.num,.string o.doc.text,.slice DA o.doc.items.length dc,.slice DA' o.doc.names.length dc',.slice LA o.dels.length lc,.int .i64 o.session,.int .i64 o.number]) 46));obtain⟨xs,S,r1,r2,r3⟩:=hrow;rw[eZ]at r1 r3
   have hz5:w.heap.size≤wr.heap.size∧wr.heap.size≤w5.heap.size:=⟨HH.out.2.size,ho5.size⟩;have HX:=hid (fun(w7:World) (v7:Value) (p c7:Nat) (e7:v7= .slice (some ⟨p,0,none⟩) (k+1) c7)=>xZ dj (w7:=w7) (v7:=v7) (p:=p) (c7:=c7) (eZ s1 k) hz5.1 HR.out hz5.2 hop r2 r3 e7);have HR1:=hid r1;have H1C:=hid h1c;have HS5:Hid (aN w5 g (cB s1 (k+1)).2∧au w w5 g∧(cB s1 (k+1)).1=(cB s1 k).1++[o]):=hid ⟨hs5,HH.out.2.trans ho5,by rw[hob];rfl⟩;have HZ5:Hid (w.heap.size≤w5.heap.size):=hid (by omega);clear hs5 ho5 hop h1c r1 r2 r3 HT hob hz5 HH HR;go_wp2_with(at_builtin;refine wpList_append_own_at _ rfl _ _ 22 rfl w.heap.size 46 i0 _ 17 248 Tryz.underlying22 hi hz0 hz1 hz2 rfl (by decide) _ k _ rfl HR1.out ⟨w5.heap.size,0,none⟩ 1 1 _ rfl rfl (oF w5 _ _) H1C.out (by unfold maxLen;omega) (by omega) (by have:=HZ5.out;simp;omega) ?_;intro v7 w7 hown7 hg7 hnil7 hat7;obtain⟨p,c7,rfl⟩:=gf hown7 (by omega);have HX7:=hid (HX.out w7 _ p c7 rfl hown7 hg7 hat7);clear hown7 hg7 hnil7 hat7)
   have HI7:Hid (aN w7 g (cB s1 (k+1)).2∧au w w7 g):=hid (by
    have h5:=HS5.out;obtain⟨h1,h2,h3,h4,h6,h7⟩:=HX7.out
    exact⟨h5.1.of (h7 g HG.out),h2.trans h5.2.1.os,h3.trans h5.2.1.tape,h4.trans h5.2.1.output,Nat.le_trans h5.2.1.size h6,fun b hb hne=>(h7 b hb).trans (h5.2.1.block b hb hne)⟩)
   have HR7:Hid (cd db 17 46 w w7 (some ⟨p,0,none⟩) c7 (cB s1 (k+1)).1):=hid (by rw[HS5.out.2.2];exact HX7.out.1);clear HX7 HX HS5 HR1 H1C HZ5;go_wp2_with fail
   go_roundw
   case rel=>exact⟨k+1,some ⟨p,0,none⟩,c7,by go_num,by omega,rfl,HI7,HR7⟩
   case measure=>simp[intOf];omega
  ·obtain rfl:k=n:=by omega
   have d1:decide ((k:Int)<(k:Int))=false:=decide_eq_false (by omega);go_wp2_with fail;go_ret;unfold pf;have hr:=HR.out;have hn':=hr.none';have hrw:=hr.rows dj;have hcap:=hr.cap;rw[eZ]at hcap;rw[HN.out,eZ];exact⟨A,c,rfl,hrw,fun h=>(hn' h).1,hcap,HH.out.1,HH.out.2⟩
theorem fN {B:Nat}{a b c:World}(h:Below B a b)(k:au b c B)(hB:B≤b.heap.size):Below B a c:=⟨k.os.trans h.os,k.tape.trans h.tape,k.output.trans h.output,Nat.le_trans h.size k.size,fun i hi=>(k.block i (by omega) (by intro e;injection e;omega)).trans (h.block i hi)⟩
end Go.Proofs.YtgfidiocmiolpaaGreat
/- Statements whose order Go leaves open, walked as they stand in the text, with a relation of one's choice for what must stay. -/
namespace Go.Proofs.YtgfidiocmiolpaaGreat
open Go.RowKit Go.Sort
section
variable {P :Program} {ops:Array Oper} {Q:Exit→Act→World→Prop} {md:Region.Mode} {R:World→World→Prop}
def eo (R:World→World→Prop)(P:Program)(ops:Array Oper)(Q:Exit→Act→World→Prop):List Oper→Act→World→Prop
  | [],a,w=>Q .normal a w
  |o::rest,a,w=>
    if Region.wanted o (yielded ops a.tmps)then
      (if ao o then o.quiet P a (CRR R w) (fun a'=>eo R P ops Q rest a' w)
       else o.wp P a w (fun a' w'=>R w w'∧eo R P ops Q rest a' w') Q)
    else eo R P ops Q rest (a.put o.dst undef) w
theorem qh (hrr: ∀w,R w w){i:Nat}{oi:Oper}{v:Value}(hi:ops[i]? =some oi)(f:Nat)(listed:Array Bool)(a:Act)(w:World)(hr:i∈Region.ready md ops listed)(ho: ∀j∈Region.ready md ops listed,j=i)
    (hy:YieldsIf P ops (fun u=>R w u) oi v a) (H:kB R [] P md ops Q f (listed.setIfInBounds i true) (a.put oi.dst v) w):kB R [] P md ops Q (f+1) listed a w:=
  ⟨fun h=>absurd hr (by rw[h];exact List.not_mem_nil),fun j hj=>by
    obtain rfl:=ho j hj
    exact hy.wpOp hi (hrr _) ⟨.inr (hrr _),H⟩⟩
theorem eL (hrr: ∀w,R w w)(htr: ∀a b c,R a b→R b c→R a c)(hsel:Region.noSelect ops=true)(hQ: ∀c d v a w,Q (.panic c) (Act.put a d v) w→Q (.panic c) a w):
    ∀(r:List Oper) (i:Nat) (listed:Array Bool) (a:Act) (w:World),r=ops.toList.drop i→i≤ops.size→jX listed ops.size i→jm md ops i r=true→eo R P ops Q r a w→kB R [] P md ops Q r.length listed a w
  | [],i,listed,a,w,hr,hi,hf,hB,h=>by
    have hlen:ops.size≤i:=by
      have:=congrArg List.length hr;simp at this;omega
    refine⟨?_,h⟩;refine List.eq_nil_iff_forall_not_mem.2 fun j hj=> ?_;obtain⟨h1,o,h2,-⟩:=mem_ready.1 hj;have hjn:=(Array.getElem?_eq_some_iff.1 h2).1;rw[hf.getD,if_pos hjn]at h1
    simp at h1;omega
  |o::r,i,listed,a,w,hr,hi,hf,hB,h=>by
    have hin:i<ops.size:=by
      have:=congrArg List.length hr;simp at this;omega
    have hoi:ops[i]? =some o:=by
      have:=congrArg (fun l=>l[0]?) hr;simp at this;exact this.symm
    have hr':r=ops.toList.drop (i+1):=by
      have:=congrArg List.tail hr;simpa using this
    have hat: ∀j oj,ops[j]? =some oj→i<j→oj∈r:=fun j oj hj hij=>by
      rw[hr'];refine List.mem_iff_getElem?.2 ⟨j - (i+1),?_⟩;rw[List.getElem?_drop];have:i+1+(j - (i+1))=j:=by omega
      rw[this];simpa using hj
    unfold jm at hB;simp only[Bool.and_eq_true]at hB;obtain⟨⟨hE,hk⟩,hB'⟩:=hB
    have hrd:i∈Region.ready md ops listed:=by
      refine mem_ready.2 ⟨by rw[hf.getD,if_pos hin];simp,o,hoi,fun e he hb=> ?_⟩;have:=List.all_eq_true.1 hE e (by simpa using he);rw[hb]at this;simp at this;have h3:e.on<i:=by simpa[Nat.blt_eq]using this
      rw[hf.getD,if_pos (by omega)];simpa using h3
    have hun: ∀j oj,ops[j]? =some oj→j≠i→listed.getD j true=false→i<j:=fun j oj hj hne hu=>by
      rw[hf.getD,if_pos (Array.getElem?_eq_some_iff.1 hj).1]at hu;simp at hu;omega
    have hF:=hf.step hin;unfold eo at h;simp only[Bool.or_eq_true]at hk;rcases hk with hk|hk
    · have hone: ∀j∈Region.ready md ops listed,j=i:=fun j hj=>by
        obtain⟨h1,oj,h2,h3⟩:=mem_ready.1 hj;refine Classical.byContradiction fun hne=> ?_;have hm:=hat j oj h2 (hun j oj h2 hne h1);have hl:=List.all_eq_true.1 hk oj hm;unfold yF at hl;obtain⟨e,he,hb⟩:=List.any_eq_true.1 hl;simp only[Bool.and_eq_true,Nat.ble_eq]at hb;have:=h3 e (by simpa using he) hb.1;rw[hf.getD]at this
        split at this
        · simp at this;omega
        · cases this
      by_cases hw:Region.wanted o (yielded ops a.tmps)=true
      · by_cases hp:ao o=true
        · rw[if_pos hw,if_pos hp]at h
          obtain⟨v,h1,h2⟩:=h;exact qh hrr hoi _ listed a w hrd hone (pR hp hw h1) (eL hrr htr hsel hQ r (i+1) _ _ w hr' (by omega) hF hB' h2)
        · rw[if_pos hw,if_neg hp]at h
          refine⟨fun h0=>absurd hrd (by rw[h0];exact List.not_mem_nil),fun j hj=> ?_⟩;obtain rfl:=hone j hj;unfold wpOp;simp only[hoi];rw[if_pos hw];exact .inl (Oper.wp_mono (fun a' w' h'=>⟨.inr h'.1,eL hrr htr hsel hQ r (j+1) _ a' w' hr' (by omega) hF hB' h'.2⟩) h)
      · rw[if_neg hw]at h
        exact qh hrr hoi _ listed a w hrd hone (.inr ⟨by simpa using hw,rfl⟩) (eL hrr htr hsel hQ r (i+1) _ _ w hr' (by omega) hF hB' h)
    · simp only[Bool.and_eq_true]at hk
      obtain⟨hp,hk⟩:=hk
      have hfree: ∀j oj,ops[j]? =some oj→j≠i→listed.getD j true=false→(∀e∈oj.after,Region.binds md e=true→e.on≠i)→o.apart ops oj=true:=fun j oj hj hne hu hno=>by
        have hl:=List.all_eq_true.1 hk oj (hat j oj hj (hun j oj hj hne hu));simp only[Bool.or_eq_true]at hl;rcases hl with hl|hl
        · obtain⟨e,he,hb⟩:=List.any_eq_true.1 hl
          simp only[Bool.and_eq_true]at hb;exact absurd (Nat.eq_of_beq_eq_true hb.2) (hno e (by simpa using he) hb.1)
        · exact hl
      have hT0:(iU md ops [] i=true∧ ∀a b,R a b→R a b)∨ ∀a b,R a b:= .inl ⟨rfl,fun _ _ h=>h⟩;by_cases hw:Region.wanted o (yielded ops a.tmps)=true
      · rw[if_pos hw,if_pos hp]at h
        obtain⟨v,h1,h2⟩:=h;exact iG hrr R hrr htr hoi hT0 hsel hQ _ listed a w hfree hrd (pR hp hw h1) (eL hrr htr hsel hQ r (i+1) _ _ w hr' (by omega) hF hB' h2)
      · rw[if_neg hw]at h
        exact iG hrr R hrr htr hoi hT0 hsel hQ _ listed a w hfree hrd (.inr ⟨by simpa using hw,rfl⟩) (eL hrr htr hsel hQ r (i+1) _ _ w hr' (by omega) hF hB' h)
theorem nc (R:World→World→Prop)(hrr: ∀w,R w w)(htr: ∀a b c,R a b→R b c→R a c){l:List Oper}{id:Nat}{a:Act}{w:World}(hm:P.follows .mixedOrders=true)(hB:qr l=true)(hQ: ∀c d v a w,Q (.panic c) (Act.put a d v) w→Q (.panic c) a w)
    (h:eo R P l.toArray Q l a w.drew):(Code.region id l.toArray true).wp P Q a w:=by
  unfold qr at hB;simp only[Bool.and_eq_true]at hB;refine wp_region_any hm (iO (R:=R) (T:=[]) _ _ _ _ ?_);have:=eL (md:= .any) (ops:=l.toArray) hrr htr hB.1 hQ l 0 (Array.replicate l.toArray.size false) a w.drew (by simp) (Nat.zero_le _) ⟨by simp,fun k hk=>by simp at hk;simp[hk]⟩ hB.2 h;simpa using this
theorem nd {w:World}: ∀(seg rest:List Oper) (a:Act),seg.all ao=true→wpQuiet P ops (CRR R w) (fun a'=>eo R P ops Q rest a' w) seg a→eo R P ops Q (seg++rest) a w
  | [],rest,a,_,h=>h
  |o::seg,rest,a,hp,h=>by
    simp only[List.all_cons,Bool.and_eq_true]at hp;rw[List.cons_append];unfold eo;unfold wpQuiet at h;by_cases hw:Region.wanted o (yielded ops a.tmps)=true
    · rw[if_pos hw]at h
      rw[if_pos hw,if_pos hp.1];obtain⟨v,h1,h2⟩:=h;exact⟨v,h1,nd seg rest _ hp.2 h2⟩
    · rw[if_neg hw]at h
      rw[if_neg hw];exact nd seg rest _ hp.2 h
theorem jp {l:List Oper}{a:Act}{w:World}(h:wpQuiet P ops (CRR R w) (fun a'=>eo R P ops Q (l.dropWhile ao) a' w) (l.takeWhile ao) a):eo R P ops Q l a w:=by
  have:=nd _ (l.dropWhile ao) a (jL l) h;rwa[List.takeWhile_append_dropWhile]at this
theorem jl {o:Oper}{rest:List Oper}{a:Act}{w:World}(hp:ao o=false)
    (h: ∀K:Act→World→Prop,(∀a' w',R w w'→eo R P ops Q rest a' w'→K a' w')→if Region.wanted o (yielded ops a.tmps)=true then o.wp P a w K Q else K (a.put o.dst undef) w):eo R P ops Q (o::rest) a w:=by
  have h1:=h (fun a' w'=>R w w'∧eo R P ops Q rest a' w') (fun a' w' h1 h2=>⟨h1,h2⟩);unfold eo;by_cases hw:Region.wanted o (yielded ops a.tmps)=true
  · rw[if_pos hw]at h1
    rw[if_pos hw,if_neg (by rw[hp];exact Bool.false_ne_true)];exact h1
  · rw[if_neg hw]at h1
    rw[if_neg hw];exact h1.2
end
def et (g:Nat)(w w':World):Prop:=w.heap.size≤w'.heap.size∧ ∀b,b<w.heap.size→b≠g→w'.heap[b]? =w.heap[b]?
theorem et.refl (g:Nat)(w:World):et g w w:=⟨Nat.le_refl _,fun _ _ _=>rfl⟩
theorem et.trans (g:Nat)(a b c:World)(h:et g a b)(k:et g b c):et g a c:=⟨Nat.le_trans h.1 k.1,fun i hi hg=>(k.2 i (Nat.lt_of_lt_of_le hi h.1) hg).trans (h.2 i hi hg)⟩
theorem et.of {g:Nat}{w w':World}(h:Below w.heap.size w w'):et g w w':=⟨h.size,fun b hb _=>h.block b hb⟩
instance (g :Nat) (w:World):Inhabited (bW (et g) w):=⟨⟨w,et.refl g w⟩⟩
end Go.Proofs.YtgfidiocmiolpaaGreat
/- The lives of layer 13. -/
namespace Go.Proofs.YtgfidiocmiolpaaGreat
open Go.RowKit
theorem aA.convG {w:World}{B g:Nat}{v:Value}{l:List UInt8}(h:Rd w B v l)(hB:B≤w.heap.size)(hg:B≤g): ∀p:bW (et g) w,(convert 23 9 v).run Tryz.prog p.u= .ok (.string ⟨l.toArray⟩) p.u:=fun p=>by
 obtain⟨A,cap,h1,h2,h3,h4⟩:=h;refine Rd.strY (B:=B) ⟨A,cap,h1,h2,h3,fun hl=> ?_⟩;obtain⟨b,off,e,hb,hc⟩:=h4 hl;exact⟨b,off,e,hb,fun i hi=>(World.cell?_of_block (p.h.2 b (by omega) (by omega))).trans (hc i hi)⟩
end Go.Proofs.YtgfidiocmiolpaaGreat
/- The message that comes next, plain: a message's code is read back, and what was read has that code. -/
namespace Go.Proofs.YtgfidiocmiolpaaGreat
def rdM (st:Option (List UInt8)):bM×Option (List UInt8):=
 let k:=ak st;let f:=ak k.2;let t:=ak f.2;let e:=ae 1099511627776 t.2;let i:=bG (bw k.1) 0 (ae 1099511627776) e.2;let l:=bG (dG k.1) 0 (ae 1099511627776) i.2;let c:=bG (aY k.1) 0 (ae 1099511627776) l.2;let r:=bG (bI k.1) 0 (ae 1099511627776) c.2;let o:=bG (hOk k.1) false fh r.2;let n:=bG (bJ k.1) [] gd o.2;let s:=bG (bZ k.1) [] (am 65536) n.2
 (⟨k.1,f.1,t.1,e.1,i.1,l.1,c.1,r.1,o.1,n.1,s.1⟩,s.2)
theorem pn :rdE none=(cY,none):=by kernel_rfl
theorem pi : ∀k,(cB none k).2=none
 |0=>rfl
 |k+1=>by unfold cB;dsimp only;rw[pi k,pn]
theorem xW :(gd none).2=none:=by unfold gd;rw[jO];exact pi _
theorem r7 (l:List bA)(e:bA):dL (l++[e])=dL l++fj e:=by unfold dL;simp
theorem qp : ∀(k:Nat) (l:List UInt8) (es:List bA) (r:List UInt8),l.length≤9223372036854775807→cB (some l) k=(es,some r)→l=dL es++r∧es.length=k∧ ∀e∈es,bT e=true
 |0,l,es,r,_,h=>by
  injection h with h1 h2
  injection h2 with h2
  subst h1 h2
  exact⟨rfl,rfl,fun e he=>absurd he List.not_mem_nil⟩
 |k+1,l,es,r,hl,h=>by
  unfold cB at h;injection h with h1 h2
  cases hs:(cB (some l) k).2 with
  |none=>rw[hs,pn]at h2;cases h2
  |some r'=>
   obtain⟨i1,i2,i3⟩:=qp k l (cB (some l) k).1 r' hl (Prod.ext rfl hs);rw[hs]at h1 h2;have hl':r'.length≤9223372036854775807:=by have:=congrArg List.length i1;rw[List.length_append]at this;omega
   obtain⟨j1,j2⟩:=sZ hl' (show rdE (some r')=((rdE (some r')).1,some r) from Prod.ext rfl h2);rw[←h1];refine⟨?_,by rw[List.length_append,i2];rfl,fun e he=> ?_⟩
   ·rw[r7,List.append_assoc,←j1];exact i1
   ·rcases List.mem_append.1 he with he|he
    ·exact i3 e he
    ·rw[List.mem_singleton.1 he];exact j2
theorem vV :RdI gd jg:=⟨xW,fun l es r hl h=>by
 unfold gd at h
 cases hs:(ae 8 (some l)).2 with
 |none=>rw[hs]at h;have:=pi (ae 8 (some l)).1;rw[h]at this;cases this
 |some r'=>
  have c:=(dx (m:=8) (by omega) (show ae 8 (some l)=((ae 8 (some l)).1,some r') from Prod.ext rfl hs)).1;rw[hs]at h;have hl':r'.length≤9223372036854775807:=by have:=congrArg List.length c;rw[List.length_append]at this;omega
  obtain⟨i1,i2,-⟩:=qp _ r' es r hl' h;unfold jg;rw[i2,List.append_assoc,←i1]
  exact c⟩
theorem vU :RdI (am 65536) fun s=>txt ⟨s.toArray⟩:=⟨iZ 65536,fun l x r _ h=>(eB (m:=65536) (by omega) h).1⟩
theorem vD :RdI fh fun b=>[if b then 1 else 0]:=⟨rfl,fun l b r _ h=>by
 unfold fh at h;injection h with h1 h2
 by_cases hlt:1<(ak (some l)).1
 ·rw[if_pos hlt]at h2;cases h2
 ·rw[if_neg hlt]at h2;have e:=(eA (show ak (some l)=((ak (some l)).1,some r) from Prod.ext rfl h2)).1;rw[e,←h1];generalize (ak (some l)).1=n at *;obtain rfl|rfl:n=0∨n=1:=by omega
  ·rfl
  ·rfl⟩
theorem ov (k:Int):cT (bl k) 1=bw k:=nW k
theorem tb (k:Int):cT (bl k) 2=dG k:=td k
theorem mj (k:Int):cT (bl k) 4=aY k:=nh k
theorem oG (k:Int):cT (bl k) 8=bI k:=oA k
theorem xw (m:bM):jH m= [UInt8.ofNat m.kind.toNat]++([UInt8.ofNat m.frm.toNat]++([UInt8.ofNat m.tgt.toNat]++(grp m.term.toNat++((if bw m.kind=true then grp m.index.toNat else [])++((if dG m.kind=true then grp m.logTerm.toNat else [])++((if aY m.kind=true then grp m.commit.toNat else [])++((if bI m.kind=true then grp m.round.toNat else [])++
  ((if hOk m.kind=true then [if m.ok then 1 else 0]else [])++((if bJ m.kind=true then jg m.ents else [])++(if bZ m.kind=true then txt ⟨m.snap.toArray⟩else [])))))))))):=by
 unfold jH ei fT;rw[ov,tb,mj,oG];simp
theorem xQ {l r:List UInt8}{m:bM}(hl:l.length≤9223372036854775807)(h:rdM (some l)=(m,some r)):l=jH m++r:=by
 unfold rdM at h;dsimp only at h;have hcc:RdI (ae 1099511627776) grp:=dq (m:=1099511627776) (by omega);generalize hK:ak (some l)=k at h;generalize hG:ak k.2=g at h;generalize hT:ak g.2=t at h;generalize hE:ae 1099511627776 t.2=e at h;generalize hI:bG (bw k.1) 0 (ae 1099511627776) e.2=i at h;generalize hL:bG (dG k.1) 0 (ae 1099511627776) i.2=lt at h;generalize hC:bG (aY k.1) 0 (ae 1099511627776) lt.2=c at h;generalize hR:bG (bI k.1) 0 (ae 1099511627776) c.2=rd at h;generalize hO:bG (hOk k.1) false fh rd.2=o at h;generalize hN:bG (bJ k.1) [] gd o.2=n at h;generalize hS:bG (bZ k.1) [] (am 65536) n.2=s at h;injection h with he hr
 obtain⟨la,ea,ca⟩:=(ck (b:=bZ k.1) (z:=[]) vU).back (st:=n.2) (r:=r) (by rw[hS];exact hr);obtain⟨l9,e9,c9⟩:=(ck (b:=bJ k.1) (z:=[]) vV).back (st:=o.2) (r:=la) (by rw[hN];exact ea);obtain⟨l8,e8,c8⟩:=(ck (b:=hOk k.1) (z:=false) vD).back (st:=rd.2) (r:=l9) (by rw[hO];exact e9);obtain⟨l7,e7,c7⟩:=(ck (b:=bI k.1) (z:=0) hcc).back (st:=c.2) (r:=l8) (by rw[hR];exact e8);obtain⟨l6,e6,c6⟩:=(ck (b:=aY k.1) (z:=0) hcc).back (st:=lt.2) (r:=l7) (by rw[hC];exact e7);obtain⟨l5,e5,c5⟩:=(ck (b:=dG k.1) (z:=0) hcc).back (st:=i.2) (r:=l6) (by rw[hL];exact e6);obtain⟨l4,e4,c4⟩:=(ck (b:=bw k.1) (z:=0) hcc).back (st:=e.2) (r:=l5) (by rw[hI];exact e5);obtain⟨l3,e3,c3⟩:=hcc.back (st:=t.2) (r:=l4) (by rw[hE];exact e4);obtain⟨l2,e2,c2⟩:=eW.back (st:=g.2) (r:=l3) (by rw[hT];exact e3);obtain⟨l1,e1,c1⟩:=eW.back (st:=k.2) (r:=l2) (by rw[hG];exact e2);obtain⟨l0,e0,c0⟩:=eW.back (st:=some l) (r:=l1) (by rw[hK];exact e1);injection e0 with e0
 subst e0;rw[hK]at c0;rw[hG]at c1;rw[hT]at c2;rw[hE]at c3;rw[hI]at c4;rw[hL]at c5;rw[hC]at c6;rw[hR]at c7;rw[hO]at c8;rw[hN]at c9;rw[hS]at ca;have f0:=c0 hl;have g1:l1.length≤9223372036854775807:=by have:=congrArg List.length f0;rw[List.length_append]at this;omega
 have f1:=c1 g1;have g2:l2.length≤9223372036854775807:=by have:=congrArg List.length f1;rw[List.length_append]at this;omega
 have f2:=c2 g2;have g3:l3.length≤9223372036854775807:=by have:=congrArg List.length f2;rw[List.length_append]at this;omega
 have f3:=c3 g3;have g4:l4.length≤9223372036854775807:=by have:=congrArg List.length f3;rw[List.length_append]at this;omega
 have f4:=c4 g4;have g5:l5.length≤9223372036854775807:=by have:=congrArg List.length f4;rw[List.length_append]at this;omega
 have f5:=c5 g5;have g6:l6.length≤9223372036854775807:=by have:=congrArg List.length f5;rw[List.length_append]at this;omega
 have f6:=c6 g6;have g7:l7.length≤9223372036854775807:=by have:=congrArg List.length f6;rw[List.length_append]at this;omega
 have f7:=c7 g7;have g8:l8.length≤9223372036854775807:=by have:=congrArg List.length f7;rw[List.length_append]at this;omega
 have f8:=c8 g8;have g9:l9.length≤9223372036854775807:=by have:=congrArg List.length f8;rw[List.length_append]at this;omega
 have f9:=c9 g9;have ga:la.length≤9223372036854775807:=by have:=congrArg List.length f9;rw[List.length_append]at this;omega
 have fa:=ca ga;rw[←he,xw];simp only[Int.toNat_natCast,List.append_assoc];rw[←fa,←f9,←f8,←f7,←f6,←f5,←f4,←f3,←f2,←f1,←f0]
end Go.Proofs.YtgfidiocmiolpaaGreat
/- A message while it is read: its box, the variable that holds the source, and the source. -/
namespace Go.Proofs.YtgfidiocmiolpaaGreat
open Go.RowKit Go.Joins
def aR (n:Nat→Int)(o E S:Value):Array Value:= #[.int .i64 (n 0),.int .i64 (n 1),.int .i64 (n 2),.int .i64 (n 3),.int .i64 (n 4),.int .i64 (n 5),.int .i64 (n 6),.int .i64 (n 7),o,E,S]
def upd (n:Nat→Int)(i:Nat)(v:Int):Nat→Int:=fun j=>if j=i then v else n j
theorem xj (n:Nat→Int)(i:Nat)(v:Int)(j:Nat)(h: ¬j=i):upd n i v j=n j:=if_neg h
theorem bN (n:Nat→Int)(i:Nat)(v:Int)(o E S:Value)(hi:i<8):(aR n o E S).setIfInBounds i (.int .i64 v)=aR (upd n i v) o E S:=by
 obtain rfl|rfl|rfl|rfl|rfl|rfl|rfl|rfl:i=0∨i=1∨i=2∨i=3∨i=4∨i=5∨i=6∨i=7:=by omega
 all_goals rfl
def gE (j:Nat)(k:Int)(st:Option (List UInt8)):Nat×Option (List UInt8):=
 if j<3 then ak st else if j=3 then ae 1099511627776 st else bG (cT (bl k) ((2 ^ (j - 4):Nat):Int)) 0 (ae 1099511627776) st
def ai (st:Option (List UInt8)):Nat→(Nat→Int)×Option (List UInt8)
 |0=>(fun _=>0,st)
 |j+1=>(upd (ai st j).1 j ((gE j ((ai st j).1 0) (ai st j).2).1:Int),(gE j ((ai st j).1 0) (ai st j).2).2)
theorem gF (st:Option (List UInt8))(j:Nat):ai st (j+1)=(upd (ai st j).1 j ((gE j ((ai st j).1 0) (ai st j).2).1:Int),(gE j ((ai st j).1 0) (ai st j).2).2):=rfl
theorem mB (st:Option (List UInt8))(j:Nat): ∀i,j≤i→(ai st j).1 i=0:=by
 induction j with
 |zero=>exact fun _ _=>rfl
 |succ j ih=>
  intro i h;rw[gF st j];dsimp only;rw[xj _ _ _ _ (show ¬i=j by omega)];exact ih i (by omega)
theorem bq (st:Option (List UInt8))(j:Nat):(ai st (j+1)).1 0=(ai st 1).1 0:=by
 induction j with
 |zero=>exact Eq.refl _
 |succ j ih=>
  rw[gF st (j+1)];dsimp only;rw[xj _ _ _ _ (show ¬0=j+1 by omega)];exact ih
def fQ (p:(Nat→Int)×Option (List UInt8)):bM×Option (List UInt8):=
 let o:=bG (hOk (p.1 0)) false fh p.2;let n:=bG (bJ (p.1 0)) [] gd o.2;let s:=bG (bZ (p.1 0)) [] (am 65536) n.2
 (⟨p.1 0,p.1 1,p.1 2,p.1 3,p.1 4,p.1 5,p.1 6,p.1 7,o.1,n.1,s.1⟩,s.2)
theorem kN (st:Option (List UInt8)):rdM st=fQ (ai st 8):=by
 have e:ai st 8=(upd (upd (upd (upd (upd (upd (upd (upd (fun _=>0) 0 (ak st).1) 1 (ak (ak st).2).1) 2 (ak (ak (ak st).2).2).1) 3 (ae 1099511627776 (ak (ak (ak st).2).2).2).1)
   4 (bG (cT (bl (ak st).1) 1) 0 (ae 1099511627776) (ae 1099511627776 (ak (ak (ak st).2).2).2).2).1)
   5 (bG (cT (bl (ak st).1) 2) 0 (ae 1099511627776) (bG (cT (bl (ak st).1) 1) 0 (ae 1099511627776) (ae 1099511627776 (ak (ak (ak st).2).2).2).2).2).1)
   6 (bG (cT (bl (ak st).1) 4) 0 (ae 1099511627776) (bG (cT (bl (ak st).1) 2) 0 (ae 1099511627776) (bG (cT (bl (ak st).1) 1) 0 (ae 1099511627776) (ae 1099511627776 (ak (ak (ak st).2).2).2).2).2).2).1)
   7 (bG (cT (bl (ak st).1) 8) 0 (ae 1099511627776) (bG (cT (bl (ak st).1) 4) 0 (ae 1099511627776) (bG (cT (bl (ak st).1) 2) 0 (ae 1099511627776) (bG (cT (bl (ak st).1) 1) 0 (ae 1099511627776) (ae 1099511627776 (ak (ak (ak st).2).2).2).2).2).2).2).1,
   (bG (cT (bl (ak st).1) 8) 0 (ae 1099511627776) (bG (cT (bl (ak st).1) 4) 0 (ae 1099511627776) (bG (cT (bl (ak st).1) 2) 0 (ae 1099511627776) (bG (cT (bl (ak st).1) 1) 0 (ae 1099511627776) (ae 1099511627776 (ak (ak (ak st).2).2).2).2).2).2).2).2):=rfl
 rw[e];rw[ov,tb,mj,oG];rfl
structure eM (w0 w:World)(s:Nat)(cs:Array Value)(st:Option (List UInt8)):Prop where
 var:w.heap[w0.heap.size]? =some (.cells #[.pointer (some ⟨s,0,none⟩)] 59 (0,0))
 res:w.heap[w0.heap.size+1]? =some (.cells #[.int .i64 0,.int .i64 0,.int .i64 0,.int .i64 0,.int .i64 0,.int .i64 0,.int .i64 0,.int .i64 0,.bool false,.slice none 0 0,.slice none 0 0] 25 (0,0))
 box:w.heap[w0.heap.size+2]? =some (.cells cs 25 (0,0))
 src:aN w s st
 only:au w0 w s
 s0:s<w0.heap.size
section
variable {w0 w w':World} {s:Nat} {cs cs':Array Value} {st st':Option (List UInt8)}
theorem eM.lt (h:eM w0 w s cs st):w0.heap.size+2<w.heap.size:=(Array.getElem?_eq_some_iff.1 h.box).1
theorem eM.call (h:eM w0 w s cs st)(ho:au w w' s)(hs:aN w' s st'):eM w0 w' s cs st':=
 have h3:=h.s0
 ⟨bP ho h.var (by omega),bP ho h.res (by omega),bP ho h.box (by omega),hs,mn h.only ho,h3⟩
theorem eM.below (h:eM w0 w s cs st)(hb:Below w.heap.size w w'):eM w0 w' s cs st:=
 h.call (au.ofBelow hb) (h.src.of (hb.block s h.src.lt))
theorem eM.store (h:eM w0 w s cs st)(hg:w'.heap[w0.heap.size+2]? =some (.cells cs' 25 (0,0)))(ho:au w w' (w0.heap.size+2)):eM w0 w' s cs' st:=
 have h3:=h.s0
 ⟨bP ho h.var (by omega),bP ho h.res (by omega),hg,h.src.of (mm ho h.src.lt (by omega)),eF h.only ho (by omega),h3⟩
theorem eM.but (h:eM w0 w s cs st)(hg:w'.heap[w0.heap.size+2]? =some (.cells cs' 25 (0,0)))(hs:aN w' s st')(ho:lJ (w0.heap.size+2) s w w'):eM w0 w' s cs' st':=
 have h3:=h.s0;have hl:=h.lt
 ⟨(ho.block _ (by omega) (by omega) (by omega)).trans h.var,(ho.block _ (by omega) (by omega) (by omega)).trans h.res,hg,hs,⟨ho.os.trans h.only.os,ho.tape.trans h.only.tape,ho.output.trans h.only.output,Nat.le_trans h.only.size ho.size,fun b hb hne=>(ho.block b (Nat.lt_of_lt_of_le hb h.only.size) (by omega) (by intro e;apply hne;rw[e])).trans (h.only.block b hb hne)⟩,h3⟩
theorem eM.start (hs:aN w s st):eM w (((w.alloc (.cells #[.pointer (some ⟨s,0,none⟩)] 59)).alloc (.cells #[.int .i64 0,.int .i64 0,.int .i64 0,.int .i64 0,.int .i64 0,.int .i64 0,.int .i64 0,.int .i64 0,.bool false,.slice none 0 0,.slice none 0 0] 25)).alloc (.cells #[.int .i64 0,.int .i64 0,.int .i64 0,.int .i64 0,.int .i64 0,.int .i64 0,.int .i64 0,.int .i64 0,.bool false,.slice none 0 0,.slice none 0 0] 25)) s (aR (ai st 0).1 (.bool false) (.slice none 0 0) (.slice none 0 0)) (ai st 0).2:=by
 have hz1:(w.alloc (.cells #[.pointer (some ⟨s,0,none⟩)] 59)).heap.size=w.heap.size+1:=by simp
 have hz2:((w.alloc (.cells #[.pointer (some ⟨s,0,none⟩)] 59)).alloc (.cells #[.int .i64 0,.int .i64 0,.int .i64 0,.int .i64 0,.int .i64 0,.int .i64 0,.int .i64 0,.int .i64 0,.bool false,.slice none 0 0,.slice none 0 0] 25)).heap.size=w.heap.size+2:=by simp
 refine⟨?_,?_,?_,((hs.alloc _).alloc _).alloc _,(((au.refl w s).alloc _).alloc _).alloc _,hs.lt⟩
 ·rw[Below.heap_alloc _ _ _ (by omega),Below.heap_alloc _ _ _ (by omega)];exact heap_alloc_new _ _
 ·rw[Below.heap_alloc _ _ _ (by omega),←hz1];exact heap_alloc_new _ _
 ·rw[←hz2];exact heap_alloc_new _ _
end
theorem oE (l:List UInt8)(hl:l.length≤140737488351232)(w:World): ∃A c w2,(convert 9 23 (.string ⟨l.toArray⟩)).run Tryz.prog w= .ok (.slice A l.length c) w2∧Below w.heap.size w w2∧l.length≤c∧(c≤9223372036854775807∧(A=none→c=0))∧cS w2 (fun b=>b=w.heap.size) A l∧w2.heap.size=w.heap.size+1:=by
 have hsz:(⟨l.toArray⟩:ByteArray).size=l.length:=by simp[ByteArray.size]
 have hg:=grownCap_ge w l.length 0 5;have hg2:=grownCap_le_maxLen w l.length 0 5 (by unfold maxLen;omega);unfold maxLen at hg2;have hrun:=Lib.run_convert_string_bytes w 9 23 5 ⟨l.toArray⟩ Tryz.underlying9 Tryz.underlying23 Tryz.underlying5;rw[hsz]at hrun;refine⟨_,_,_,hrun,Go.Joins.below_bytesWorld _ _ _ _ (Nat.le_refl _),hg,⟨by omega,fun h=>by cases h⟩,fun hp=>⟨w.heap.size,0,rfl,rfl,fun i hi=> ?_⟩,Lib.bytesWorld_size _ _ _⟩;rw[Nat.zero_add,Lib.bytesWorld_cell w _ _ i (by rw[hsz];exact hi)]
 congr 2
 simp[List.getD,List.getElem?_eq_getElem hi]
theorem pS :ey 70:=fun _ _=>by simp[callFunc,go_sem,Tryz.func70,Tryz.f70]
theorem nF (w0:World)(s:Nat)(st:Option (List UInt8))(L:Int)(w:World)(h:eM w0 w s (aR (ai st 4).1 (.bool false) (.slice none 0 0) (.slice none 0 0)) (ai st 4).2)(hL:L=bl ((ai st 4).1 0)):
  Calls Tryz.prog 63 #[.int .i64 L,.pointer (some ⟨w0.heap.size+2,0,none⟩),.func (.func 70) #[] #[.pointer (some ⟨w0.heap.size,0,none⟩)]] w fun e w'=>e= .returned (.tuple #[])∧eM w0 w' s (aR (ai st 8).1 (.bool false) (.slice none 0 0) (.slice none 0 0)) (ai st 8).2:=by
 have hk: ∀j,(ai st (4+j)).1 0=(ai st 4).1 0:=fun j=>by
  rw[show 4+j=(3+j)+1 by omega,bq st (3+j),show 4=3+1 from rfl,bq st 3]
 have hr: ∀j,j<4→gE (4+j) ((ai st (4+j)).1 0)=bG (cT L ((2 ^ j:Nat):Int)) 0 (ae 1099511627776):=fun j hj=>by
  rw[hk j,hL];unfold gE;funext x;rw[if_neg (by omega),if_neg (by omega),show 4+j - 4=j by omega]
 have hno0: ∀j,(ai st (4+j)).1 (4+j)=0:=fun j=>mB st (4+j) (4+j) (Nat.le_refl _);have hs1: ∀j,ai st (4+(j+1))=(upd (ai st (4+j)).1 (4+j) ((gE (4+j) ((ai st (4+j)).1 0) (ai st (4+j)).2).1:Int),(gE (4+j) ((ai st (4+j)).1 0) (ai st (4+j)).2).2):=fun j=>gF st (4+j);refine nS 70 #[.pointer (some ⟨w0.heap.size,0,none⟩)] pS (w0.heap.size+2) L (fun j u=>eM w0 u s (aR (ai st (4+j)).1 (.bool false) (.slice none 0 0) (.slice none 0 0)) (ai st (4+j)).2) w (fun j u u' hu hb=>hu.below hb) (fun j u hj hx hu=> ?_) (fun j u hj hx hu=> ?_) h
 ·rw[hs1,hr j hj];unfold bG;rw[hx]
  have e:upd (ai st (4+j)).1 (4+j) ((0:Nat):Int)=(ai st (4+j)).1:=by
   funext i;unfold upd
   split
   ·next hi=>rw[hi,hno0 j];rfl
   ·rfl
  simp only[Bool.false_eq_true,if_false];rw[e];exact hu
 ·refine(rL (w0.heap.size+2) (4+j) w0.heap.size s 59 _ _ u hu.box (by show 4+j<11;omega) hu.var hu.src (by have:=hu.s0;omega)).mono ?_;rintro e u' ⟨rfl,h1,h2,h3⟩;refine⟨rfl,?_⟩;rw[hs1,hr j hj];unfold bG;rw[hx];simp only[if_true];rw[bN _ _ _ _ _ _ (by omega)]at h1;exact hu.but h1 h2 h3
theorem xl (j:Nat)(k:Int)(st:Option (List UInt8)):(gE j k st).1≤1099511627776:=by
 have h1:=kJ st;have h2:=aZ 1099511627776 st (by omega);unfold gE
 split
 ·omega
 ·split
  ·omega
  ·unfold bG
   split
   ·omega
   ·show 0≤_;omega
theorem kL (st:Option (List UInt8)): ∀j i,0≤(ai st j).1 i∧(ai st j).1 i≤1099511627776
 |0,i=>⟨Int.le_refl _,by show(0:Int)≤_;omega⟩
 |j+1,i=>by
  have h:=xl j ((ai st j).1 0) (ai st j).2;show 0≤upd (ai st j).1 j _ i∧upd (ai st j).1 j _ i≤_;unfold upd
  split
  ·omega
  ·exact kL st j i
end Go.Proofs.YtgfidiocmiolpaaGreat
