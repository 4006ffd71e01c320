/- Copies: of a row of entries, of a message, by the program. -/
import Derived.Test.YtgfidiocmiolpaaGreatKEnM
import Derived.Test.YtgfidiocmiolpaaGreatKRegR
import Derived.Test.YtgfidiocmiolpaaGreatKEnC
import Derived.Test.YtgfidiocmiolpaaGreatKDlV
import Derived.Test.YtgfidiocmiolpaaGreatKCodG
set_option maxHeartbeats 64000000
set_option maxRecDepth 100000
set_option linter.unusedVariables false
set_option linter.unusedSimpArgs false
namespace Go.Proofs.YtgfidiocmiolpaaGreat
open Lib (hid)
open Go.RowKit
def xk (l:List bA)(w:World)(e:Ending)(w':World):Prop:= ∃A' c',e= .returned (.slice A' l.length c')∧(A'=none→c'=0)∧l.length≤c'∧dZ w' (fun b=>b<w'.heap.size∧w.heap.size≤b) A' l∧Below w.heap.size w w'
theorem tO (A:Option Addr)(c:Nat)(w:World):Calls Tryz.prog 27 #[.slice A 0 c,.func (.func 28) #[] #[]] w (xk [] w):=by
 go_enter Tryz.func27,Tryz.ntmps27;go_wp2_with fail;go_ret;exact⟨none,0,rfl,fun _=>rfl,Nat.le_refl _,fun h=>absurd h (by simp),Below.refl _ _⟩
theorem rJ (S:Nat→Prop)(m:bM)(EA:Option Addr)(ec:Nat)(SA:Option Addr)(sc:Nat)(w:World)(hS: ∀b,S b→b<w.heap.size)(h:bF w S m EA ec SA sc)(hce: ∀W,(∀b,S b→b<W.heap.size)→dZ W S EA m.ents→Calls Tryz.prog 27 #[.slice EA m.ents.length ec,.func (.func 28) #[] #[]] W (xk m.ents W)):
  Calls Tryz.prog 12 #[.agg #[.int .i64 m.kind,.int .i64 m.frm,.int .i64 m.tgt,.int .i64 m.term,.int .i64 m.index,.int .i64 m.logTerm,.int .i64 m.commit,.int .i64 m.round,.bool m.ok,.slice EA m.ents.length ec,.slice SA m.snap.length sc]] w fun r w'=> ∃GA gc TA tc,r= .returned (.agg #[.int .i64 m.kind,.int .i64 m.frm,.int .i64 m.tgt,.int .i64 m.term,.int .i64 m.index,.int .i64 m.logTerm,.int .i64 m.commit,.int .i64 m.round,.bool m.ok,.slice GA m.ents.length gc,.slice TA m.snap.length tc])∧bF w' (fun b=>b<w'.heap.size∧w.heap.size≤b) m GA gc TA tc∧Below w.heap.size w w':=by
 obtain⟨w2,hw2⟩: ∃W,W=(w.alloc (.cells #[.int .i64 m.kind,.int .i64 m.frm,.int .i64 m.tgt,.int .i64 m.term,.int .i64 m.index,.int .i64 m.logTerm,.int .i64 m.commit,.int .i64 m.round,.bool m.ok,.slice EA m.ents.length ec,.slice SA m.snap.length sc] 25)).alloc (.cells #[.int .i64 0,.int .i64 0,.int .i64 0,.int .i64 0,.int .i64 0,.int .i64 0,.int .i64 0,.int .i64 0,.bool false,.slice none 0 0,.slice none 0 0] 25):=⟨_,rfl⟩;have hz1:(w.alloc (.cells #[.int .i64 m.kind,.int .i64 m.frm,.int .i64 m.tgt,.int .i64 m.term,.int .i64 m.index,.int .i64 m.logTerm,.int .i64 m.commit,.int .i64 m.round,.bool m.ok,.slice EA m.ents.length ec,.slice SA m.snap.length sc] 25)).heap.size=w.heap.size+1:=by simp
 have hz2:w2.heap.size=w.heap.size+2:=by rw[hw2];simp
 have hbb:w2.heap[w.heap.size+1]? =some (.cells #[.int .i64 0,.int .i64 0,.int .i64 0,.int .i64 0,.int .i64 0,.int .i64 0,.int .i64 0,.int .i64 0,.bool false,.slice none 0 0,.slice none 0 0] 25 (0,0)):=by rw[hw2,←hz1];exact heap_alloc_new _ _
 have hba:ct w2 w.heap.size m EA ec SA sc:=by unfold ct;rw[hw2,Below.heap_alloc _ _ _ (by omega)];exact heap_alloc_new _ _
 have h02:Below w.heap.size w w2:=by rw[hw2];exact(af _).alloc (by omega) _
 have HB2:=hid h02;have HK2:=hid hba;have HZ2:=hid hbb;have HZS:=hid hz2;have HS:=hid hS;have HA:=hid h;have HC:=hid (hce w2 (fun b hb=>Nat.lt_of_lt_of_le (hS b hb) h02.size) (h.below hS h02).ents);clear h02 hba hbb hS hz1 hz2 h hce;go_enter Tryz.func12,Tryz.ntmps12;go_wp2_with fail;rw[←hw2];clear hw2;refine HC.out.mono ?_;rintro q w3 ⟨GA,gc,rfl,hg0,hg1,hge,hb⟩;have HB3:=hid (HB2.out.trans (hb.mono HB2.out.size));have HK3:=hid (HK2.out.below hb);have HZ3:=hid ((hb.block _ (Array.getElem?_eq_some_iff.1 HZ2.out).1).trans HZ2.out);have HZW3:Hid (w.heap.size+2≤w3.heap.size):=hid (by have:=hb.size;have:=HZS.out;omega);have HG3:Hid (dZ w3 (fun b=>w.heap.size+2≤b∧b<w3.heap.size) GA m.ents):=hid (dC.imp dj hge fun b hb'=>⟨by have:=hb'.2;have:=HZS.out;omega,hb'.1⟩);have HGC:=hid (And.intro hg0 hg1);have HCB:=hid (fun W (hW:Below w.heap.size w W)=>sQ (.slice SA m.snap.length sc) m.snap W (((HA.out.below HS.out hW).snap.rd (fun b hb=>Nat.lt_of_lt_of_le (HS.out b hb) hW.size) HA.out.scap HA.out.s63 HA.out.snil)) HA.out.slen);clear hge hb HC HK2 HZ2 hg0 hg1;go_wp2_with(refine ah (by rfl) 22 _ _ rfl rfl w.heap.size 9 rfl _ #[.slice GA m.ents.length gc] rfl rfl _ #[.int .i64 m.kind,.int .i64 m.frm,.int .i64 m.tgt,.int .i64 m.term,.int .i64 m.index,.int .i64 m.logTerm,.int .i64 m.commit,.int .i64 m.round,.bool m.ok,.slice GA m.ents.length gc,.slice SA m.snap.length sc] 25 HK3.out (by simp) (by kernel_rfl) (by simp[Value.oneCell']) (by kernel_rfl) ?_;intro w4 hk ho hz;have HK4:Hid (ct w4 w.heap.size m GA gc SA sc):=hid hk;have HO4:=hid (And.intro ho hz);clear hk ho hz;have y10:=HK4.out.g10)
 have HB4:=hid (jW (Nat.le_refl _) HB3.out HO4.out.1 HO4.out.2 (Nat.le_refl _));refine(HCB.out _ HB4.out).mono ?_;rintro q w5 ⟨v5,rfl,ho5,hb⟩;obtain⟨TA,tc,rfl,ht1,ht2,ht3,ht4⟩:=yw ho5;clear y10;have HB5:=hid (HB4.out.trans (hb.mono HB4.out.size));have HK5:=hid (HK4.out.below hb)
 have HZ5:Hid (w5.heap[w.heap.size+1]? =some (.cells #[.int .i64 0,.int .i64 0,.int .i64 0,.int .i64 0,.int .i64 0,.int .i64 0,.int .i64 0,.int .i64 0,.bool false,.slice none 0 0,.slice none 0 0] 25 (0,0))):=hid (by
  have h1:=bP HO4.out.1 HZ3.out (by omega)
  exact(hb.block _ (Array.getElem?_eq_some_iff.1 h1).1).trans h1)
 have HG5:Hid (dZ w5 (fun b=>w.heap.size+2≤b∧b<w5.heap.size) GA m.ents):=hid (dC.imp dj (dC.keep dj (dC.keep dj HG3.out (ch HO4.out.1 fun b hb=>⟨hb.2,by have:=hb.1;omega⟩)) fun b hb'=>hb.block b (by rw[HO4.out.2];exact hb'.2)) fun b hb'=>⟨hb'.1,Nat.lt_of_lt_of_le hb'.2 (by rw[←HO4.out.2];exact hb.size)⟩);have HT5:Hid (cS w5 (fun b=>w.heap.size+2≤b∧b<w5.heap.size) TA m.snap):=hid (ht4.imp fun b hb'=>⟨by have:=hb'.2;have:=HZW3.out;have:=HO4.out.2;omega,hb'.1⟩);have HTC:=hid (And.intro ht1 (And.intro ht2 ht3));clear ho5 hb ht1 ht2 ht3 ht4 HCB HZ3 HK3;go_wp2_with(first|(refine ah (by rfl) 23 _ _ rfl rfl w.heap.size 10 rfl _ #[.slice TA m.snap.length tc] rfl rfl _ #[.int .i64 m.kind,.int .i64 m.frm,.int .i64 m.tgt,.int .i64 m.term,.int .i64 m.index,.int .i64 m.logTerm,.int .i64 m.commit,.int .i64 m.round,.bool m.ok,.slice GA m.ents.length gc,.slice TA m.snap.length tc] 25 HK5.out (by simp) (by kernel_rfl) (by simp[Value.oneCell']) (by kernel_rfl) ?_;intro w6 hk ho hz;have HK6:Hid (ct w6 w.heap.size m GA gc TA tc):=hid hk;have HO6:=hid (And.intro ho hz);have HZ6:=hid (bP HO6.out.1 HZ5.out (by omega));clear hk ho hz)|(refine aw (by rfl) _ rfl w.heap.size rfl _ _ HK6.out rfl ?_;simp only[acR,Act.put])|(refine ah (by rfl) 25 _ _ rfl rfl (w.heap.size+1) 0 rfl _ #[.int .i64 m.kind,.int .i64 m.frm,.int .i64 m.tgt,.int .i64 m.term,.int .i64 m.index,.int .i64 m.logTerm,.int .i64 m.commit,.int .i64 m.round,.bool m.ok,.slice GA m.ents.length gc,.slice TA m.snap.length tc] rfl rfl _ #[.int .i64 m.kind,.int .i64 m.frm,.int .i64 m.tgt,.int .i64 m.term,.int .i64 m.index,.int .i64 m.logTerm,.int .i64 m.commit,.int .i64 m.round,.bool m.ok,.slice GA m.ents.length gc,.slice TA m.snap.length tc] 25 HZ6.out (by simp) (by kernel_rfl) (by simp[Value.oneCell']) (by kernel_rfl) ?_;intro w7 hk ho hz;have HK7:=hid hk;have HO7:=hid (And.intro ho hz);clear hk ho hz))
 have HB6:=hid (jW (Nat.le_refl _) HB5.out HO6.out.1 HO6.out.2 (Nat.le_refl _));have HB7:=hid (jW (Nat.le_refl _) HB6.out HO7.out.1 HO7.out.2 (by omega));refine bodyPost_ret (results_cell_row rfl _ _ (w.heap.size+1) 25 _ (0,0) _ rfl HK7.out Tryz.underlying25 rfl (by kernel_rfl)) rfl ?_;have hf: ∀b,w.heap.size+2≤b∧b<w5.heap.size→w7.heap[b]? =w5.heap[b]? :=fun b hb=>(ch HO7.out.1 (S:=fun b=>w.heap.size+2≤b∧b<w5.heap.size) (fun b h=>⟨by rw[HO6.out.2];exact h.2,by have:=h.1;omega⟩) b hb).trans (ch HO6.out.1 (S:=fun b=>w.heap.size+2≤b∧b<w5.heap.size) (fun b h=>⟨h.2,by have:=h.1;omega⟩) b hb);have hz:w7.heap.size=w5.heap.size:=HO7.out.2.trans HO6.out.2;refine⟨GA,gc,TA,tc,rfl,?_,HB7.out⟩
 exact { HA.out with
  ents:=dC.imp dj (dC.keep dj HG5.out hf) fun b hb=>⟨by rw[hz];exact hb.2,by have:=hb.1;omega⟩
  ecap:=HGC.out.2
  enil:=HGC.out.1
  snap:=(HT5.out.keep hf).imp fun b hb=>⟨by rw[hz];exact hb.2,by have:=hb.1;omega⟩
  scap:=HTC.out.1
  s63:=HTC.out.2.1
  snil:=HTC.out.2.2 }
theorem jj {w w':World}{g:Nat}{e:bA}{IA:Option Addr}{ic:Nat}{IA':Option Addr}{ic':Nat}{DA:Option Addr}{dc:Nat}{DA':Option Addr}{dc':Nat}{LA:Option Addr}{lc:Nat}(h:bs w g e IA ic IA' ic' DA dc DA' dc' LA lc)(hk:K8 w w'):bs w' g e IA ic IA' ic' DA dc DA' dc' LA lc:=
  hk g _ h (fun h=>by cases h) (fun c fz h=>by injection h with _ h;exact absurd h (by decide))
structure vH (e:bA):Prop where
  coll:(txt e.coll).length≤1011
  to:(txt e.to).length≤1011
  cz:e.coll.size≤1000
  tz:e.to.size≤1000
  id:(fg e.id).length≤4096
  doc:(fg e.doc).length≤4096
  dels:bn e.kind=true→bK e.dels=0∧(dR e.dels).length≤134500000
theorem oW {e:bA}(hm:bT e=true)(hd:SmE e):vH e:=by
  have m:=(mu e).1 hm
  have hc:e.coll.size≤1000:=by
    have h:=m.coll
    split at h
    · have:=(lf h).2;omega
    · omega
  have ht:e.to.size≤1000:=by
    have h:=m.to
    split at h
    · have:=(lf h.1).2;omega
    · omega
  refine⟨jv hc,jv ht,hc,ht,gQ hd.idz,gQ hd.docz,fun hk=> ?_⟩;have h:=m.dels;rw[if_pos hk]at h;unfold fi at h;simp only[Bool.and_eq_true,decide_eq_true_eq]at h;obtain⟨h64,hmm⟩:=fO h.1.1;refine⟨h.1.1,?_⟩;have h3:=iB (l:=e.dels) fun o ho=>⟨hmm o ho,(hd.dels h64).2 o ho⟩;have h4:=(ay e.dels.length).1;unfold dR;rw[if_pos h.1.1,List.length_append];omega
theorem Rd.upE {w:World}{B B':Nat}{v:Value}{l:List UInt8}(h:Rd w B v l)(hB:B≤B'):Rd w B' v l:=by
  obtain⟨A,cap,h1,h2,h3,h4⟩:=h;exact⟨A,cap,h1,h2,h3,fun hl=>by obtain⟨b,off,e,hb,hc⟩:=h4 hl;exact⟨b,off,e,by omega,hc⟩⟩
theorem vj {z T c:Nat}{wA:World}(hT:T≤1099511627776)(hn:iI wA z [T]):Calls Tryz.prog 62 #[.slice none 0 0,.slice (some ⟨z,0,none⟩) 1 c] wA fun q w'=> ∃v',q= .returned v'∧aA w' wA.heap.size v' (grp T)∧Below wA.heap.size wA w':=
  (eR wA.heap.size z c [T] (.slice none 0 0) [] wA (World.ownsRow_nil _ _ _ _) (Nat.le_refl _) hn (by intro k hk;simp at hk;omega) (by simp)).mono fun q w' ⟨v',h1,h2,h3,_⟩=>⟨v',h1,by unfold iP at h2;simpa using h2,h3⟩
theorem xx {B:Nat}{a w w':World}(h:Below B a w)(hb:Below B w w'):Below B a w':=h.trans hb
theorem un {B Z N:Nat}{v:Value}{l:List UInt8}{w4:World}(h:aA w4 B v l)(hB:B≤w4.heap.size)(hZ:Z≤255)(hN:N≤1099511627776)(hl:l.length≤100):
    Calls Tryz.prog 62 #[v,.slice (some ⟨w4.heap.size,0,none⟩) 2 2] (w4.alloc (.cells #[.int .i64 (Z:Int),.int .i64 (N:Int)] 3)) fun q w'=> ∃v',q= .returned v'∧aA w' B v' (l++(grp Z++grp N))∧Below B w4 w'∧K8 w4 w':=by
  have hb0:Below w4.heap.size w4 (w4.alloc (.cells #[.int .i64 (Z:Int),.int .i64 (N:Int)] 3)):=af _;refine(eR B w4.heap.size 2 [Z,N] v l (w4.alloc (.cells #[.int .i64 (Z:Int),.int .i64 (N:Int)] 3)) (h.below hb0) (Nat.le_trans hB hb0.size) (iI.new w4 [Z,N]) (by intro k hk;simp at hk;omega) (by simp;omega)).mono ?_;rintro q w' ⟨v',h1,h2,h3,h4⟩;exact⟨v',h1,by unfold iP at h2;simpa using h2,(hb0.mono hB).trans h3,(aI hb0).trans h4⟩
theorem xf (S:Nat→Prop)(e:bA)(cs:Array Value)(w:World)(hS: ∀b,S b→b<w.heap.size)(h:db w S e cs)(hd:SmE e)(hm:bT e=true):
    Calls Tryz.prog 123 #[.agg cs] w (kr (fj e) w):=by
  obtain⟨IA,ic,IA',ic',DA,dc,DA',dc',LA,lc,rfl,hat⟩:=h.at;have hsh:=oW hm hd;have hmm:=(mu e).1 hm;obtain⟨T,hT⟩: ∃n:Nat,e.term=n:=⟨e.term.toNat,by have:=hmm.t0;omega⟩;obtain⟨kb,hkb⟩: ∃kb,kb=UInt8.ofNat e.kind.toNat:=⟨_,rfl⟩;obtain⟨Z,hZ⟩: ∃n:Nat,e.session=n:=⟨e.session.toNat,by have:=hmm.s0;omega⟩;obtain⟨N,hN⟩: ∃n:Nat,e.number=n:=⟨e.number.toNat,by have:=hmm.n0;omega⟩
  have hkx:e.kind % 256=(kb.toNat:Int):=by
    have h1:=hmm.k1;have h2:=hmm.k7;rw[hkb,dy _ (by omega)];omega
  have HKX:=hid hkx;have HTN:Hid (T≤1099511627776∧Z≤255∧N≤1099511627776):=hid ⟨by have:=hmm.t1;omega,by have:=hmm.s1;omega,by have:=hmm.n1;omega⟩
  have HCE:Hid (fj e=grp T++([kb]++(grp Z++(grp N++((if ba e.kind then txt e.coll else [])++((if cC e.kind then txt e.to else [])++((if cr e.kind then fg e.id else [])++((if bO e.kind then fg e.doc else [])++(if bn e.kind then dR e.dels else []))))))))):=hid (by
    unfold fj;rw[hT,hZ,hN,hkb];rfl)
  have HKH:Hid (vH e):=hid hsh;have HT:=hid hT;have HZ:=hid hZ;have HNN:=hid hN;obtain⟨w1,hw1⟩: ∃W,W=w.alloc (.cells #[.int .i64 e.term,.int .i64 e.kind,.string e.coll,.string e.to,.int .i64 e.id.kind,.int .i64 e.id.num,.string e.id.text,.slice IA e.id.items.length ic,.slice IA' e.id.names.length ic',.int .i64 e.doc.kind,.int .i64 e.doc.num,.string e.doc.text,.slice DA e.doc.items.length dc,.slice DA' e.doc.names.length dc',.slice LA e.dels.length lc,.int .i64 e.session,.int .i64 e.number] 46):=⟨_,rfl⟩;have hbk:bs w1 w.heap.size e IA ic IA' ic' DA dc DA' dc' LA lc:=by rw[hw1];exact heap_alloc_new w _
  have hb1:Below w.heap.size w w1:=by rw[hw1];exact af _
  obtain⟨w2,hw2⟩: ∃W,W=w1.drew:=⟨_,rfl⟩;have HK2:Hid (bs w2 w.heap.size e IA ic IA' ic' DA dc DA' dc' LA lc):=hid (by rw[hw2];exact hbk);have HB2:Hid (Below w.heap.size w w2):=hid (by rw[hw2];exact hb1.drew);have HS:=hid hS;have HA:=hid hat;have HD:=hid hd;have HW2:=hid hw2;have q0:=de (w:=w2) (g:=w.heap.size) (i:=0) HK2.out (by decide) rfl;have q1:=de (w:=w2) (g:=w.heap.size) (i:=1) HK2.out (by decide) rfl;rw[hT]at q0;clear hb1 hbk hS h hat hd hm hsh hmm hT hkb hZ hN hkx hw2;go_enter Tryz.func123,Tryz.ntmps123;go_wp2_with fail;rw[←hw1];clear hw1;refine bm K8 (fun w=>Lib.OthersKept.refl _ _ _) (fun a b c h k=>h.trans k) [] (.pure [0,1,4,5,6] (.fork 2 (.fork 3 (.step 7 (.step 8 (.free [9] (.tail [])))) 7 (.step 3 (.step 8 (.free [9] (.tail []))))) 7 (.step 2 (.step 3 (.step 8 (.free [9] (.tail []))))))) (by kernel_rfl) (by kernel_rfl) (fun _ d _ _ _ h=>by cases d<;>exact h) ?_;rw[←HW2.out];refine dg ?_;simp only[atR];show wpQuiet _ _ _ _ [_,_,_,_,_] _;repeat(go_big_quiet_step (fail))
  refine wpQuiet_nil ?_;clear q0 q1;have hBX: ∀W o,Below w.heap.size w W→bs W w.heap.size e IA ic IA' ic' DA dc DA' dc' LA lc→Below w.heap.size w (W.alloc o)∧bs (W.alloc o) w.heap.size e IA ic IA' ic' DA dc DA' dc' LA lc:=fun W o h1 h2=>⟨h1.alloc h1.size o,h2.below (af o)⟩;have HBX:=hid hBX;clear hBX;have HTC:=hid (fun(z c:Nat) (W:World) (h:iI W z [T])=>vj (c:=c) HTN.out.1 h);refine jo rfl rfl (fun K hK=> ?_) (fun K hK=> ?_)
  focus
    go_simp
    refine hK _ _ (.inr ((Lib.OthersKept.refl _ _ _).alloc _)) ?_;clear hK K;obtain⟨wA,hwA⟩: ∃W,W=w2.alloc (.cells #[.int .i64 (T:Int)] 3):=⟨_,rfl⟩;rw[←hwA];have HwA:=hid (show Below w.heap.size w wA∧bs wA w.heap.size e IA ic IA' ic' DA dc DA' dc' LA lc∧iI wA w2.heap.size [T]∧True by rw[hwA];exact⟨(HBX.out _ _ HB2.out HK2.out).1,(HBX.out _ _ HB2.out HK2.out).2,iI.new w2 [T],trivial⟩);clear hwA;refine jo rfl rfl (fun K hK=> ?_) (fun K hK=> ?_)
    focus
      go_simp
      refine(HTC.out _ _ wA HwA.out.2.2.1).mono ?_;rintro q w3 ⟨v3,rfl,hv3,hb3⟩
      go_simp
      refine hK _ _ (.inr (aI hb3)) ?_;clear hK K;have HX2:Hid (aA w3 w.heap.size v3 (grp T)∧Below w.heap.size w w3∧bs w3 w.heap.size e IA ic IA' ic' DA dc DA' dc' LA lc):=hid ⟨hv3.base HwA.out.1.size,HwA.out.1.trans (hb3.mono HwA.out.1.size),HwA.out.2.1.below hb3⟩;clear hv3 hb3 HwA;try simp only[acR,Act.put]
      refine aT rfl (fun K hK=> ?_)
      go_simp
      refine hK _ _ (.inr ((Lib.OthersKept.refl _ _ _).alloc _)) ?_;clear hK K;obtain⟨w5,hw5⟩: ∃W,W=w3.alloc (.cells #[.int .u8 (e.kind % 256)] 5):=⟨_,rfl⟩;rw[←hw5]
      have HX3:Hid (aA w5 w.heap.size v3 (grp T)∧Below w.heap.size w w5∧bs w5 w.heap.size e IA ic IA' ic' DA dc DA' dc' LA lc∧Rd w5 w5.heap.size (.slice (some ⟨w3.heap.size,0,none⟩) 1 1) [kb]):=hid (by
        have h1:=HBX.out w3 (.cells #[.int .u8 (e.kind % 256)] 5) HX2.out.2.1 HX2.out.2.2;rw[hw5]
        exact⟨HX2.out.1.below (af _),h1.1,h1.2,(Rd.one' rfl kb HKX.out).upE (by simp)⟩)
      clear hw5 HX2;try simp only[acR,Act.put]
      refine fB rfl rfl (fun K hK=> ?_);refine cA _ _ rfl w.heap.size v3 (grp T) rfl HX3.out.1 w5.heap.size _ [kb] rfl HX3.out.2.2.2 (by simp) HX3.out.2.1.size (by have:=(ay T).1;simp;omega) (fun v4 w4 hv4 hg4=> ?_);refine hK _ _ (.inr (aH HX3.out.1 hg4)) ?_;clear hK K;have HX4:Hid (aA w4 w.heap.size v4 (grp T++[kb])∧Below w.heap.size w w4∧bs w4 w.heap.size e IA ic IA' ic' DA dc DA' dc' LA lc):=hid ⟨hv4,aF HX3.out.2.1 HX3.out.1 HX3.out.2.1.size hg4,jj HX3.out.2.2.1 (aH HX3.out.1 hg4)⟩;clear hv4 hg4 HX3;try simp only[acR,Act.put]
      refine dK ?_;simp only[atR];show wpQuiet _ _ _ _ [_] _;repeat(go_big_quiet_step (fail))
      refine wpQuiet_nil ?_;refine dt ?_
    rotate_left
    focus
      go_simp
      refine hK _ _ (.inr ((Lib.OthersKept.refl _ _ _).alloc _)) ?_;clear hK K;obtain⟨wB,hwB⟩: ∃W,W=wA.alloc (.cells #[.int .u8 (e.kind % 256)] 5):=⟨_,rfl⟩;rw[←hwB]
      have HwB:=hid (show Below w.heap.size w wB∧bs wB w.heap.size e IA ic IA' ic' DA dc DA' dc' LA lc∧iI wB w2.heap.size [T]∧Rd wB wB.heap.size (.slice (some ⟨wA.heap.size,0,none⟩) 1 1) [kb] by
        have h1:=HBX.out wA (.cells #[.int .u8 (e.kind % 256)] 5) HwA.out.1 HwA.out.2.1;rw[hwB]
        exact⟨h1.1,h1.2,HwA.out.2.2.1.k8 (aI (af _)),(Rd.one' rfl kb HKX.out).upE (by simp)⟩)
      clear hwB HwA;try simp only[acR,Act.put]
      refine aT rfl (fun K hK=> ?_)
      go_simp
      refine(HTC.out _ _ wB HwB.out.2.2.1).mono ?_;rintro q w3 ⟨v3,rfl,hv3,hb3⟩
      go_simp
      refine hK _ _ (.inr (aI hb3)) ?_;clear hK K;have HX3:Hid (aA w3 w.heap.size v3 (grp T)∧Below w.heap.size w w3∧bs w3 w.heap.size e IA ic IA' ic' DA dc DA' dc' LA lc∧Rd w3 w3.heap.size (.slice (some ⟨wA.heap.size,0,none⟩) 1 1) [kb]):=hid ⟨hv3.base HwB.out.1.size,HwB.out.1.trans (hb3.mono HwB.out.1.size),HwB.out.2.1.below hb3,(HwB.out.2.2.2.keep hb3).upE hb3.size⟩;clear hv3 hb3 HwB;try simp only[acR,Act.put]
      refine fB rfl rfl (fun K hK=> ?_);refine cA _ _ rfl w.heap.size v3 (grp T) rfl HX3.out.1 w3.heap.size _ [kb] rfl HX3.out.2.2.2 (by simp) HX3.out.2.1.size (by have:=(ay T).1;simp;omega) (fun v4 w4 hv4 hg4=> ?_);refine hK _ _ (.inr (aH HX3.out.1 hg4)) ?_;clear hK K;have HX4:Hid (aA w4 w.heap.size v4 (grp T++[kb])∧Below w.heap.size w w4∧bs w4 w.heap.size e IA ic IA' ic' DA dc DA' dc' LA lc):=hid ⟨hv4,aF HX3.out.2.1 HX3.out.1 HX3.out.2.1.size hg4,jj HX3.out.2.2.1 (aH HX3.out.1 hg4)⟩;clear hv4 hg4 HX3;try simp only[acR,Act.put]
      refine dK ?_;simp only[atR];show wpQuiet _ _ _ _ [_] _;repeat(go_big_quiet_step (fail))
      refine wpQuiet_nil ?_;refine dt ?_
    rotate_left
  rotate_left 2
  focus
    go_simp
    refine hK _ _ (.inr ((Lib.OthersKept.refl _ _ _).alloc _)) ?_;clear hK K;obtain⟨wA,hwA⟩: ∃W,W=w2.alloc (.cells #[.int .u8 (e.kind % 256)] 5):=⟨_,rfl⟩;rw[←hwA]
    have HwA:=hid (show Below w.heap.size w wA∧bs wA w.heap.size e IA ic IA' ic' DA dc DA' dc' LA lc∧Rd wA wA.heap.size (.slice (some ⟨w2.heap.size,0,none⟩) 1 1) [kb] by
      have h1:=HBX.out w2 (.cells #[.int .u8 (e.kind % 256)] 5) HB2.out HK2.out;rw[hwA]
      exact⟨h1.1,h1.2,(Rd.one' rfl kb HKX.out).upE (by simp)⟩)
    clear hwA;try simp only[acR,Act.put]
    refine aT rfl (fun K hK=> ?_)
    go_simp
    refine hK _ _ (.inr ((Lib.OthersKept.refl _ _ _).alloc _)) ?_;clear hK K;obtain⟨wB,hwB⟩: ∃W,W=wA.alloc (.cells #[.int .i64 (T:Int)] 3):=⟨_,rfl⟩;rw[←hwB]
    have HwB:=hid (show Below w.heap.size w wB∧bs wB w.heap.size e IA ic IA' ic' DA dc DA' dc' LA lc∧iI wB wA.heap.size [T]∧Rd wB wB.heap.size (.slice (some ⟨w2.heap.size,0,none⟩) 1 1) [kb] by
      have h1:=HBX.out wA (.cells #[.int .i64 (T:Int)] 3) HwA.out.1 HwA.out.2.1;rw[hwB]
      exact⟨h1.1,h1.2,iI.new wA [T],(HwA.out.2.2.keep (af _)).upE (by simp)⟩)
    clear hwB HwA;try simp only[acR,Act.put]
    refine aT rfl (fun K hK=> ?_)
    go_simp
    refine(HTC.out _ _ wB HwB.out.2.2.1).mono ?_;rintro q w3 ⟨v3,rfl,hv3,hb3⟩
    go_simp
    refine hK _ _ (.inr (aI hb3)) ?_;clear hK K;have HX3:Hid (aA w3 w.heap.size v3 (grp T)∧Below w.heap.size w w3∧bs w3 w.heap.size e IA ic IA' ic' DA dc DA' dc' LA lc∧Rd w3 w3.heap.size (.slice (some ⟨w2.heap.size,0,none⟩) 1 1) [kb]):=hid ⟨hv3.base HwB.out.1.size,HwB.out.1.trans (hb3.mono HwB.out.1.size),HwB.out.2.1.below hb3,(HwB.out.2.2.2.keep hb3).upE hb3.size⟩;clear hv3 hb3 HwB;try simp only[acR,Act.put]
    refine fB rfl rfl (fun K hK=> ?_);refine cA _ _ rfl w.heap.size v3 (grp T) rfl HX3.out.1 w3.heap.size _ [kb] rfl HX3.out.2.2.2 (by simp) HX3.out.2.1.size (by have:=(ay T).1;simp;omega) (fun v4 w4 hv4 hg4=> ?_);refine hK _ _ (.inr (aH HX3.out.1 hg4)) ?_;clear hK K;have HX4:Hid (aA w4 w.heap.size v4 (grp T++[kb])∧Below w.heap.size w w4∧bs w4 w.heap.size e IA ic IA' ic' DA dc DA' dc' LA lc):=hid ⟨hv4,aF HX3.out.2.1 HX3.out.1 HX3.out.2.1.size hg4,jj HX3.out.2.2.1 (aH HX3.out.1 hg4)⟩;clear hv4 hg4 HX3;try simp only[acR,Act.put]
    refine dK ?_;simp only[atR];show wpQuiet _ _ _ _ [_] _;repeat(go_big_quiet_step (fail))
    refine wpQuiet_nil ?_;refine dt ?_
  rotate_left
  all_goals
    have y15:=HX4.out.2.2.g15;have y16:=HX4.out.2.2.g16;rw[HZ.out]at y15;rw[HNN.out]at y16;have HP:=hid (un HX4.out.1 HX4.out.2.1.size HTN.out.2.1 HTN.out.2.2 (by have:=(ay T).1;simp;omega));go_wp2_with fail;refine HP.out.mono ?_;rintro q w6 ⟨v6,rfl,hv6,hb6,hk6⟩;have HX6:Hid (aA w6 w.heap.size v6 (grp T++[kb]++(grp Z++grp N))∧Below w.heap.size w w6∧bs w6 w.heap.size e IA ic IA' ic' DA dc DA' dc' LA lc):=hid ⟨hv6,xx HX4.out.2.1 hb6,jj HX4.out.2.2 hk6⟩;clear hv6 hb6 hk6 HP HX4 y15 y16;have hal:(grp T++[kb]++(grp Z++grp N)).length≤100:=by have:=(ay T).1;have:=(ay Z).1;have:=(ay N).1;simp;omega
    obtain⟨acc6,hacc⟩: ∃acc,acc=grp T++[kb]++(grp Z++grp N):=⟨_,rfl⟩;have HA6:=hid hacc;rw[←hacc]at HX6 hal;have HL6:=hid hal;clear hacc hal;have y1:=HX6.out.2.2.g1;go_wp2_with fail;refine(jf e.kind _).mono ?_;rintro q u ⟨rfl,hw⟩;replace hw:=hw.symm;subst hw;clear y1;have HX:Hid (aA w6 w.heap.size v6 acc6∧Below w.heap.size w w6∧bs w6 w.heap.size e IA ic IA' ic' DA dc DA' dc' LA lc∧acc6.length≤100):=hid ⟨HX6.out.1,HX6.out.2.1,HX6.out.2.2,HL6.out⟩;clear HX6 HL6;have HF1:=(aG.mk:aG (ba e.kind));have HF2:=(aG.mk:aG (cC e.kind));have HF3:=(aG.mk:aG (cr e.kind));have HF4:=(aG.mk:aG (bO e.kind));have HF5:=(aG.mk:aG (bn e.kind));rcases fo e.kind with ⟨c1,c2,c3,c4,c5⟩|⟨c1,c2,c3,c4,c5⟩|⟨c1,c2,c3,c4,c5⟩|⟨c1,c2,c3,c4,c5⟩|⟨c1,c2,c3,c4,c5⟩|⟨c1,c2,c3,c4,c5⟩
    all_goals
      have C:=hid (And.intro c1 (And.intro c2 (And.intro c3 (And.intro c4 c5))));rw[c1]at HF1;rw[c2]at HF2;rw[c3]at HF3;rw[c4]at HF4;rw[c5]at HF5;clear c1 c2 c3 c4 c5
    all_goals
      go_wp2_with fail;refine(eb e.kind _).mono ?_;rintro q u ⟨rfl,hw⟩;replace hw:=hw.symm;subst hw;rw[C.out.1]
    all_goals first
      |(have _g:aG true:=HF1
        have y2:=HX.out.2.2.1.g2;go_wp2_with fail;refine(gK e.coll _ (by have:=HKH.out.cz;omega)).mono ?_;rintro q wn ⟨x,rfl,hx,hb⟩;have HY:Hid (aA wn w.heap.size _ acc6∧Below w.heap.size w wn∧bs wn w.heap.size e IA ic IA' ic' DA dc DA' dc' LA lc∧Rd wn wn.heap.size x (txt e.coll)):=hid ⟨HX.out.1.below hb,HX.out.2.1.trans (hb.mono HX.out.2.1.size),HX.out.2.2.1.below hb,hx.rd⟩;have HLP:=hid HX.out.2.2.2;clear hx hb HX y2;go_wp2_with(at_builtin;go_must (refine ar rfl _ _ rfl w.heap.size _ acc6 rfl HY.out.1 wn.heap.size x (txt e.coll) rfl HY.out.2.2.2 HY.out.2.1.size (by have:=HLP.out;have:=(HKH.out.coll);omega) ?_));intro vm wm hv hg;obtain⟨ac1,hac⟩: ∃a,a=acc6++txt e.coll:=⟨_,rfl⟩;have HX:Hid (aA wm w.heap.size vm ac1∧Below w.heap.size w wm∧bs wm w.heap.size e IA ic IA' ic' DA dc DA' dc' LA lc∧ac1.length≤2000):=hid ⟨by rw[hac];exact hv,aF HY.out.2.1 HY.out.1 HY.out.2.1.size hg,jj HY.out.2.2.1 (aH HY.out.1 hg),by rw[hac,List.length_append];have:=HLP.out;have:=(HKH.out.coll);omega⟩;have HC1:Hid (ac1=acc6++if ba e.kind=true then txt e.coll else []):=hid (by rw[hac,if_pos C.out.1])
        clear hv hg hac HY HLP)
      |(have _g:aG false:=HF1
        obtain⟨ac1,hac⟩: ∃a,a=acc6:=⟨_,rfl⟩;have HC1:Hid (ac1=acc6++if ba e.kind=true then txt e.coll else []):=hid (by rw[hac,C.out.1];simp);have HX:=hid (show _∧_∧_∧ac1.length≤2000 from⟨HX.out.1,HX.out.2.1,HX.out.2.2.1,by rw[hac];have:=HX.out.2.2.2;omega⟩);rw[←hac]at HX
        clear hac)
    all_goals
      go_wp2_with fail;refine(fY e.kind _).mono ?_;rintro q u ⟨rfl,hw⟩;replace hw:=hw.symm;subst hw;rw[C.out.2.1]
    all_goals first
      |(have _g:aG true:=HF2
        have y3:=HX.out.2.2.1.g3;go_wp2_with fail;refine(gK e.to _ (by have:=HKH.out.tz;omega)).mono ?_;rintro q wn ⟨x,rfl,hx,hb⟩;have HY:Hid (aA wn w.heap.size _ ac1∧Below w.heap.size w wn∧bs wn w.heap.size e IA ic IA' ic' DA dc DA' dc' LA lc∧Rd wn wn.heap.size x (txt e.to)):=hid ⟨HX.out.1.below hb,HX.out.2.1.trans (hb.mono HX.out.2.1.size),HX.out.2.2.1.below hb,hx.rd⟩;have HLP:=hid HX.out.2.2.2;clear hx hb HX y3;go_wp2_with(at_builtin;go_must (refine ar rfl _ _ rfl w.heap.size _ ac1 rfl HY.out.1 wn.heap.size x (txt e.to) rfl HY.out.2.2.2 HY.out.2.1.size (by have:=HLP.out;have:=(HKH.out.to);omega) ?_));intro vm wm hv hg;obtain⟨ac2,hac⟩: ∃a,a=ac1++txt e.to:=⟨_,rfl⟩;have HX:Hid (aA wm w.heap.size vm ac2∧Below w.heap.size w wm∧bs wm w.heap.size e IA ic IA' ic' DA dc DA' dc' LA lc∧ac2.length≤4000):=hid ⟨by rw[hac];exact hv,aF HY.out.2.1 HY.out.1 HY.out.2.1.size hg,jj HY.out.2.2.1 (aH HY.out.1 hg),by rw[hac,List.length_append];have:=HLP.out;have:=(HKH.out.to);omega⟩;have HC2:Hid (ac2=ac1++if cC e.kind=true then txt e.to else []):=hid (by rw[hac,if_pos C.out.2.1])
        clear hv hg hac HY HLP)
      |(have _g:aG false:=HF2
        obtain⟨ac2,hac⟩: ∃a,a=ac1:=⟨_,rfl⟩;have HC2:Hid (ac2=ac1++if cC e.kind=true then txt e.to else []):=hid (by rw[hac,C.out.2.1];simp);have HX:=hid (show _∧_∧_∧ac2.length≤4000 from⟨HX.out.1,HX.out.2.1,HX.out.2.2.1,by rw[hac];have:=HX.out.2.2.2;omega⟩);rw[←hac]at HX
        clear hac)
    all_goals
      go_wp2_with fail;refine(fX e.kind _).mono ?_;rintro q u ⟨rfl,hw⟩;replace hw:=hw.symm;subst hw;rw[C.out.2.2.1]
    all_goals first
      |(have _g:aG true:=HF3
        have y4:=HX.out.2.2.1.g4;have y5:=HX.out.2.2.1.g5;have y6:=HX.out.2.2.1.g6;have y7:=HX.out.2.2.1.g7;have y8:=HX.out.2.2.1.g8;go_wp2_with fail;refine(od S e.id _ _ _ _ (fun b hb=>Nat.lt_of_lt_of_le (HS.out b hb) HX.out.2.1.size) (HA.out.below HS.out HX.out.2.1).id HD.out.idd HD.out.idz (by have:=HX.out.2.2.2;omega) HX.out.1.rd).mono ?_;rintro q wm ⟨vm,rfl,hv,hb⟩;have HLP:=hid HX.out.2.2.2;obtain⟨ac3,hac⟩: ∃a,a=ac2++fg e.id:=⟨_,rfl⟩;have HX:Hid (aA wm w.heap.size vm ac3∧Below w.heap.size w wm∧bs wm w.heap.size e IA ic IA' ic' DA dc DA' dc' LA lc∧ac3.length≤9000):=hid ⟨by rw[hac];exact hv.base HX.out.2.1.size,HX.out.2.1.trans (hb.mono HX.out.2.1.size),HX.out.2.2.1.below hb,by rw[hac,List.length_append];have:=HLP.out;have:=(HKH.out.id);omega⟩;have HC3:Hid (ac3=ac2++if cr e.kind=true then fg e.id else []):=hid (by rw[hac,if_pos C.out.2.2.1])
        clear hv hb hac HLP y4 y5 y6 y7 y8)
      |(have _g:aG false:=HF3
        obtain⟨ac3,hac⟩: ∃a,a=ac2:=⟨_,rfl⟩;have HC3:Hid (ac3=ac2++if cr e.kind=true then fg e.id else []):=hid (by rw[hac,C.out.2.2.1];simp);have HX:=hid (show _∧_∧_∧ac3.length≤9000 from⟨HX.out.1,HX.out.2.1,HX.out.2.2.1,by rw[hac];have:=HX.out.2.2.2;omega⟩);rw[←hac]at HX
        clear hac)
    all_goals
      go_wp2_with fail;refine(eP e.kind _).mono ?_;rintro q u ⟨rfl,hw⟩;replace hw:=hw.symm;subst hw;rw[C.out.2.2.2.1]
    all_goals first
      |(have _g:aG true:=HF4
        have y9:=HX.out.2.2.1.g9;have y10:=HX.out.2.2.1.g10;have y11:=HX.out.2.2.1.g11;have y12:=HX.out.2.2.1.g12;have y13:=HX.out.2.2.1.g13;go_wp2_with fail;refine(od S e.doc _ _ _ _ (fun b hb=>Nat.lt_of_lt_of_le (HS.out b hb) HX.out.2.1.size) (HA.out.below HS.out HX.out.2.1).doc HD.out.docd HD.out.docz (by have:=HX.out.2.2.2;omega) HX.out.1.rd).mono ?_;rintro q wm ⟨vm,rfl,hv,hb⟩;have HLP:=hid HX.out.2.2.2;obtain⟨ac4,hac⟩: ∃a,a=ac3++fg e.doc:=⟨_,rfl⟩;have HX:Hid (aA wm w.heap.size vm ac4∧Below w.heap.size w wm∧bs wm w.heap.size e IA ic IA' ic' DA dc DA' dc' LA lc∧ac4.length≤15000):=hid ⟨by rw[hac];exact hv.base HX.out.2.1.size,HX.out.2.1.trans (hb.mono HX.out.2.1.size),HX.out.2.2.1.below hb,by rw[hac,List.length_append];have:=HLP.out;have:=(HKH.out.doc);omega⟩;have HC4:Hid (ac4=ac3++if bO e.kind=true then fg e.doc else []):=hid (by rw[hac,if_pos C.out.2.2.2.1])
        clear hv hb hac HLP y9 y10 y11 y12 y13)
      |(have _g:aG false:=HF4
        obtain⟨ac4,hac⟩: ∃a,a=ac3:=⟨_,rfl⟩;have HC4:Hid (ac4=ac3++if bO e.kind=true then fg e.doc else []):=hid (by rw[hac,C.out.2.2.2.1];simp);have HX:=hid (show _∧_∧_∧ac4.length≤15000 from⟨HX.out.1,HX.out.2.1,HX.out.2.2.1,by rw[hac];have:=HX.out.2.2.2;omega⟩);rw[←hac]at HX
        clear hac)
    all_goals
      go_wp2_with fail;refine(ee e.kind _).mono ?_;rintro q u ⟨rfl,hw⟩;replace hw:=hw.symm;subst hw;rw[C.out.2.2.2.2]
    all_goals first
      |(have _g:aG true:=HF5
        have y14:=HX.out.2.2.1.g14;go_wp2_with fail;refine(uM S LA lc e.dels _ _ _ (fun b hb=>Nat.lt_of_lt_of_le (HS.out b hb) HX.out.2.1.size) (HA.out.below HS.out HX.out.2.1).dels (by have:=HA.out.len;omega) HD.out.dels HX.out.1.rd (by have:=HX.out.2.2.2;omega)).mono ?_;rintro q wm ⟨vm,rfl,hv,hb⟩;have HLP:=hid HX.out.2.2.2;obtain⟨ac5,hac⟩: ∃a,a=ac4++dR e.dels:=⟨_,rfl⟩;have HX:Hid (aA wm w.heap.size vm ac5∧Below w.heap.size w wm∧bs wm w.heap.size e IA ic IA' ic' DA dc DA' dc' LA lc∧ac5.length≤135000000):=hid ⟨by rw[hac];exact hv.base HX.out.2.1.size,HX.out.2.1.trans (hb.mono HX.out.2.1.size),HX.out.2.2.1.below hb,by rw[hac,List.length_append];have:=HLP.out;have:=(HKH.out.dels C.out.2.2.2.2 |>.2);omega⟩;have HC5:Hid (ac5=ac4++if bn e.kind=true then dR e.dels else []):=hid (by rw[hac,if_pos C.out.2.2.2.2])
        clear hv hb hac HLP y14)
      |(have _g:aG false:=HF5
        obtain⟨ac5,hac⟩: ∃a,a=ac4:=⟨_,rfl⟩;have HC5:Hid (ac5=ac4++if bn e.kind=true then dR e.dels else []):=hid (by rw[hac,C.out.2.2.2.2];simp);have HX:=hid (show _∧_∧_∧ac5.length≤135000000 from⟨HX.out.1,HX.out.2.1,HX.out.2.2.1,by rw[hac];have:=HX.out.2.2.2;omega⟩);rw[←hac]at HX
        clear hac)
    all_goals
      go_wp2_with fail;go_ret;refine⟨_,rfl,?_,HX.out.2.1⟩;have hfin:fj e=ac5:=by rw[HCE.out,HC5.out,HC4.out,HC3.out,HC2.out,HC1.out,HA6.out];simp[List.append_assoc]
      rw[hfin];exact HX.out.1
end Go.Proofs.YtgfidiocmiolpaaGreat
