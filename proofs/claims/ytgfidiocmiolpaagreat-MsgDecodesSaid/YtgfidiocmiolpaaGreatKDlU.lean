/- The program's reading of a list of changes. -/
import Derived.Test.YtgfidiocmiolpaaGreatKDlA
import Derived.Test.YtgfidiocmiolpaaGreatKCodS
import Derived.Test.YtgfidiocmiolpaaGreatKCodX
import Derived.Test.YtgfidiocmiolpaaGreatKVr
import Derived.Test.YtgfidiocmiolpaaGreatKRefZ
import Derived.Test.YtgfidiocmiolpaaGreatKCodG
import Derived.Test.YtgfidiocmiolpaaGreatKRegR
import Derived.Test.YtgfidiocmiolpaaGreatKCodM
import Derived.Test.YtgfidiocmiolpaaGreatKValM
import Derived.Maps.AppendAt
set_option maxHeartbeats 64000000
set_option maxRecDepth 100000
set_option linter.unusedVariables false
set_option linter.unusedSimpArgs false
namespace Go.Proofs.YtgfidiocmiolpaaGreat
open Lib (hid)
open Go.RowKit
def bL (st:Option (List UInt8)):Nat→List aU×Option (List UInt8)
  |0=>([],st)
  |k+1=>((bL st k).1++[(rdD (bL st k).2).1],(rdD (bL st k).2).2)
theorem je (st:Option (List UInt8)): ∀k,(bL st k).1.length=k
  |0=>rfl
  |k+1=>by simp[bL,je st k]
theorem pq :(rdD none).2=none:=by
  unfold rdD;rw[ug];simp only[show ¬((0:Nat)=1) by decide,show ¬((0:Nat)=3) by decide,if_false];exact kP
theorem lh {s:Option (List UInt8)}{k:Nat}(h:(bL s k).2=none): ∀m,k≤m→(bL s m).2=none
  |0,hm=>by obtain rfl:k=0:=by omega
            exact h
  |m+1,hm=>by
    by_cases hk:k=m+1
    · rw[←hk];exact h
    · have h1:=lh h m (by omega)
      show(rdD (bL s m).2).2=none;rw[h1];exact pq
theorem jQ (st:Option (List UInt8)):av (aQ st).1≤8:=by
  rcases st with _|l
  · decide
  · rw[ez]
    cases hr:gw l with
    |none=>decide
    |some p=>
      obtain⟨t,r⟩:=p;unfold gw at hr
      cases hw:rdW 8 l with
      |none=>rw[hw]at hr;simp at hr
      |some q=>
        obtain⟨u,r'⟩:=q;rw[hw]at hr;have hd:=(i6 8 u l r' hw).1.1;simp only[]at hr
        split at hr
        · simp only[Option.some.injEq,Prod.mk.injEq]at hr
          rw[hr.1]at hd;exact hd
        · simp at hr
theorem tP (st:Option (List UInt8)):av (rdD st).1.val≤8:=by
  unfold rdD
  split
  · exact jQ _
  split
  · show av ap≤8;decide
  · show av ap≤8;decide
theorem j5 (st:Option (List UInt8)): ∀k,eT (bL st k).1
  |0,d,hd=>absurd hd (by simp[bL])
  |k+1,d,hd=>by
    simp only[bL,List.mem_append,List.mem_singleton]at hd;rcases hd with hd|rfl
    · exact j5 st k d hd
    · have:=tP (bL st k).2
      omega
def cU (st:Option (List UInt8)):List aU×Option (List UInt8):=match(bL (ae 64 st).2 (ae 64 st).1).2 with
  |none=>([],none)
  |some r=>if bK (bL (ae 64 st).2 (ae 64 st).1).1=0 then((bL (ae 64 st).2 (ae 64 st).1).1,some r)else([],none)
theorem fD {st:Option (List UInt8)}(h:(bL (ae 64 st).2 (ae 64 st).1).2=none):cU st=([],none):=by unfold cU;rw[h]
theorem ie {st:Option (List UInt8)}{r:List UInt8}(h:(bL (ae 64 st).2 (ae 64 st).1).2=some r):cU st=if bK (bL (ae 64 st).2 (ae 64 st).1).1=0 then((bL (ae 64 st).2 (ae 64 st).1).1,some r)else([],none):=by unfold cU;rw[h]
def lT (g:Nat)(st:Option (List UInt8))(w:World)(e:Ending)(w':World):Prop:=
  ∃A c,e= .returned (.slice A (cU st).1.length c)∧bQ w' (dB w.heap.size w') A (cU st).1∧(A=none→c=0∧(cU st).1= [])∧(cU st).1.length≤c∧aN w' g (cU st).2∧au w w' g
theorem ue {w wr w5 w7:World}{g k c c7 p:Nat}{A:Option Addr}{s1:Option (List UInt8)}{cs xs:List Value}{S:Nat→Prop}{v7:Value}(hg:g<w.heap.size)(hw:au w wr g)(hr:bx w wr A c (bL s1 k).1)(ho5:au wr w5 g)(hs5:aN w5 g (rdD (bL s1 k).2).2)(hop:em w5 (dB wr.heap.size w5) (rdD (bL s1 k).2).1 cs.toArray)
    (hl:dO (w5.alloc (.cells cs.toArray 114)) S (bL s1 k).1 xs) (hS: ∀b,S b→w.heap.size≤b∧b<(w5.alloc (.cells cs.toArray 114)).heap.size∧ ∀p,(Value.slice A k c).ownBlock=some p→b≠p)
    (hv:v7= .slice (some ⟨p,0,none⟩) (k+1) c7) (hown:w7.ownsRow w.heap.size 114 8 v7 (k+1) (xs++cs)) (hb:(w5.alloc (.cells cs.toArray 114)).grownBy w7 (Value.slice A k c).ownBlock) (hat:v7.ownBlock=(Value.slice A k c).ownBlock∨v7.ownBlock=some (w5.alloc (.cells cs.toArray 114)).heap.size):
    bx w w7 (some ⟨p,0,none⟩) c7 (bL s1 (k+1)).1∧aN w7 g (bL s1 (k+1)).2∧au w w7 g:=by
  have hlen:(bL s1 k).1.length=k:=je s1 k
  have hpo: ∀p,(Value.slice A k c).ownBlock=some p→w.heap.size≤p∧p<wr.heap.size:=by
    have h:=hr.own;rw[hlen]at h;exact h
  have hz5:=ho5.size;have hzw:=hw.size;have hz6:(w5.alloc (.cells cs.toArray 114)).heap.size=w5.heap.size+1:=by simp
  have k6: ∀b,b<w5.heap.size→(w5.alloc (.cells cs.toArray 114)).heap[b]? =w5.heap[b]? :=fun b hb=>Below.heap_alloc w5 _ b hb;have k7: ∀b,b<w5.heap.size→(∀p,(Value.slice A k c).ownBlock=some p→b≠p)→w7.heap[b]? =w5.heap[b]? :=fun b hb' hn=>(hb.block b (by omega) (fun e=>hn b e.symm rfl)).trans (k6 b hb');subst hv;refine⟨?_,?_,?_⟩
  · refine bx.push (S2:=dB wr.heap.size w5) hlen.symm hb ?_ hown hl (hop.keep fun b hb'=>k6 b hb'.2) hS ?_
    · exact hat.imp id fun h=>⟨_,Nat.le_refl _,h⟩
    · intro b hb'
      have h1:wr.heap.size≤b:=hb'.1;have h2:b<w5.heap.size:=hb'.2;exact⟨by omega,by omega,fun q hq e=>by have:=(hpo q hq).2;omega⟩
  · exact hs5.of (k7 g (by omega) fun q hq e=>by have:=(hpo q hq).1;omega)
  · refine⟨hb.os.trans ((ho5.os).trans hw.os),hb.tape.trans ((ho5.tape).trans hw.tape),hb.output.trans ((ho5.output).trans hw.output),by have:=hb.size;omega,fun b hb' hne=> ?_⟩
    exact(k7 b (by omega) fun q hq e=>by have:=(hpo q hq).1;omega).trans ((ho5.block b (by omega) hne).trans (hw.block b hb' hne))
theorem bx.none' {w0 w:World}{A:Option Addr}{c:Nat}{l:List aU}(h:bx w0 w A c l):A=none→c=0∧l= []:=by
  rintro rfl;obtain⟨xs,S,h1,-⟩:=h;rcases h1.2 with ⟨e,h0⟩|⟨g,cap,cur,e,-⟩
  · injection e with e1 e2 e3
    exact⟨e3,List.eq_nil_of_length_eq_zero e2⟩
  · injection e with e1 e2 e3
    cases e1
theorem su (g:Nat)(st:Option (List UInt8))(w:World)(hs:aN w g st):Calls Tryz.prog 143 #[.pointer (some ⟨g,0,none⟩)] w (lT g st w):=by
  obtain⟨i0,hi,hz0,hz1,hz2⟩:=info_parts Tryz.infoDlt;have h16:(ae 64 st).1≤64:=aZ 64 st (by omega);have HC:=hid (cD g st 64 w hs (by omega));have HG:=hid hs.lt;obtain⟨n,hn⟩: ∃n,n=(ae 64 st).1:=⟨_,rfl⟩;have HN:=hid hn;rw[←hn]at h16 HC;clear hs hn;go_enter Tryz.func143,Tryz.ntmps143;go_wp2_with fail;refine HC.out.mono ?_;rintro e w1 ⟨rfl,hs1,ho1⟩;obtain⟨s1,hs1'⟩: ∃s1,s1=(ae 64 st).2:=⟨_,rfl⟩;rw[←hs1']at hs1;have HS1:=hid hs1';have h0:Hid (aN w1 g (bL s1 0).2∧au w w1 g):=hid ⟨hs1,ho1⟩;clear hs1 ho1 hs1' HC;go_wp2_with fail
  go_loopw [3,6] (fun v i wr=> ∃(k:Nat) (A:Option Addr) (c:Nat),i= .int .i64 k∧k≤n∧v= .slice A k c∧Hid (k=0∨(bL s1 k).2≠none)∧Hid (aN wr g (bL s1 k).2∧au w wr g)∧Hid (bx w wr A c (bL s1 k).1)) (fun _ i _=>n - (intOf i).toNat)
  case atStart=>exact⟨0,none,0,rfl,by omega,rfl,hid (.inl rfl),h0,hid (bx.nil _ _)⟩
  case round=>
    obtain⟨k,A,c,rfl,hk,rfl,HNN,HH,HR⟩:=hrel;by_cases hlt:k<n
    · have d1:decide ((k:Int)<(n:Int))=true:=decide_eq_true (by omega)
      have HT:=hid (tU g (bL s1 k).2 wr HH.out.1);have hk16:k<64:=by omega
      go_wp2_with fail;refine HT.out.mono ?_;rintro e w5 ⟨cs,rfl,hop,hs5,ho5⟩;obtain⟨PA,pc,VA,vc,VA',vc',rfl,-⟩:=id hop;have h1c:=hop.oneL;have hrow:=(HR.out.only ho5 HG.out).alloc (.cells (List.toArray [.int .i64 (rdD (bL s1 k).2).1.kind,.slice PA (rdD (bL s1 k).2).1.path.length pc,.int .i64 (rdD (bL s1 k).2).1.val.kind,.int .i64 (rdD (bL s1 k).2).1.val.num,.string (rdD (bL s1 k).2).1.val.text,.slice VA (rdD (bL s1 k).2).1.val.items.length vc,.slice VA' (rdD (bL s1 k).2).1.val.names.length vc',.int .i64 (rdD (bL s1 k).2).1.num]) 114);obtain⟨xs,S,r1,r2,r3⟩:=hrow;rw[je]at r1 r3;have HX:=hid (fun(w7:World) (v7:Value) (p c7:Nat) (e7:v7= .slice (some ⟨p,0,none⟩) (k+1) c7)=>ue (w7:=w7) (v7:=v7) (p:=p) (c7:=c7) HG.out HH.out.2 HR.out ho5 hs5 hop r2 r3 e7);have HR1:=hid r1;have H1C:=hid h1c;have hz5:w.heap.size≤w5.heap.size:=by have:=ho5.size;have:=HH.out.2.size;omega
      obtain⟨o,hob⟩: ∃o,o=(rdD (bL s1 k).2).1:=⟨_,rfl⟩;rw[←hob]at HX HR1 H1C ⊢;clear hs5 ho5 hop h1c r1 r2 r3 HT hob;go_wp2_with(at_builtin;refine wpList_append_own_at _ rfl _ _ 44 rfl w.heap.size 114 i0 _ 8 120 Tryz.underlying44 hi hz0 hz1 hz2 rfl (by decide) _ k _ rfl HR1.out ⟨w5.heap.size,0,none⟩ 1 1 _ rfl rfl (gU w5 _ _) H1C.out (by unfold maxLen;omega) (by omega) (by simp;omega) ?_;intro v7 w7 hown7 hg7 hnil7 hat7;obtain⟨p,c7,rfl⟩:=gf hown7 (by omega);have HX7:=hid (HX.out w7 _ p c7 rfl hown7 hg7 hat7);clear hown7 hg7 hnil7 hat7);obtain⟨st2,hst2⟩: ∃s,s=(bL s1 (k+1)).2:=⟨_,rfl⟩;have HX8:=HX7;rw[←hst2]at HX8;have HST:=hid hst2;clear hst2
      cases st2 with
      |none=>
        have HB:=hid (jh g _ HX8.out.2.1);go_wp2_with fail;refine HB.out.mono ?_;rintro e w8 ⟨rfl,rfl⟩;go_wp2_with fail;go_ret;unfold lT;rw[fD (by rw[←HS1.out,←HN.out];exact lh HST.out.symm n (by omega))]
        exact⟨none,0,rfl,fun h=>absurd h (by simp),fun _=>⟨rfl,rfl⟩,Nat.le_refl _,HX8.out.2.1,HX8.out.2.2⟩
      |some r=>
        have HB:=hid (kQ g r _ HX8.out.2.1);go_wp2_with fail;refine HB.out.mono ?_;rintro e w8 ⟨rfl,rfl⟩;go_wp2_with fail
        go_roundw
        case rel=>exact⟨k+1,some ⟨p,0,none⟩,c7,by go_num,by omega,rfl,hid (.inr (by rw[←HST.out];simp)),hid ⟨HX7.out.2.1,HX7.out.2.2⟩,hid HX7.out.1⟩
        case measure=>simp[intOf];omega
    · have hke:k=n:=by omega
      have d1:decide ((k:Int)<(n:Int))=false:=decide_eq_false (by omega);obtain⟨l,hl⟩: ∃l,l=(bL s1 k).1:=⟨_,rfl⟩;obtain⟨st2,hst2⟩: ∃s,s=(bL s1 k).2:=⟨_,rfl⟩;have hlk:l.length=k:=by rw[hl];exact je s1 k
      have hsm:eT l:=by rw[hl];exact j5 s1 k
      rw[←hl]at HR;rw[←hst2]at HH HNN;have HLS:Hid (l=(bL (ae 64 st).2 (ae 64 st).1).1∧st2=(bL (ae 64 st).2 (ae 64 st).1).2):=hid (by rw[←HS1.out,←HN.out,←hke];exact⟨hl,hst2⟩);have HRW:=hid HR.out.rows;have HRC:=hid HR.out.cap;have HRN:=hid HR.out.none';have HK:=hid (ls (dB w.heap.size wr) A c l wr (fun b hb=>hb.2) HRW.out (by omega) hsm);rw[←hlk];clear hl hst2 hke hsm HR hk;subst hlk;go_wp2_with fail;refine HK.out.mono ?_;rintro e w4 ⟨rfl,hb4⟩;have HS4:=hid (HH.out.1.of (hb4.block g HH.out.1.lt));have HO4:Hid (au w w4 g):=hid (HH.out.2.trans ⟨hb4.os,hb4.tape,hb4.output,hb4.size,fun b hb _=>hb4.block b hb⟩);have HW4:Hid (bQ w4 (dB w.heap.size w4) A l):=hid ((HRW.out.keep fun b hb=>hb4.block b hb.2).imp fun b hb=>⟨hb.1,Nat.lt_of_lt_of_le hb.2 hb4.size⟩);obtain⟨x,hx⟩: ∃x,x=bK l:=⟨_,rfl⟩;rw[←hx];have HXX:=hid hx;clear hb4 hx HK HRW;by_cases h0':x=0
      · subst h0'
        have hend:Hid (cU st=(l,st2)):=hid (by
          cases st2 with
          |none=>
            have hl0:l.length=0:=HNN.out.resolve_right (fun h=>h rfl)
            rw[fD HLS.out.2.symm,List.eq_nil_of_length_eq_zero hl0]
          |some r=>rw[ie HLS.out.2.symm,←HLS.out.1,if_pos HXX.out.symm])
        go_wp2_with fail;go_ret;unfold lT;rw[hend.out];exact⟨A,c,rfl,HW4.out,HRN.out,HRC.out,HS4.out,HO4.out⟩
      · have h1:(x == 0)=false:=beq_false_of_ne h0'
        have h2:(x != 0)=true:=by simp[h0']
        go_wp2_with fail;refine(eI g st2 _ HS4.out).mono ?_;rintro e w5 ⟨rfl,hs5,ho5⟩;have HX5:=hid (And.intro hs5 (HO4.out.trans ho5));clear hs5 ho5;go_wp2_with fail;go_ret;unfold lT
        have e0:cU st=([],none):=by
          cases st2 with
          |none=>exact fD HLS.out.2.symm
          |some r=>rw[ie HLS.out.2.symm,←HLS.out.1,if_neg (by rw[←HXX.out];exact h0')]
        rw[e0];exact⟨none,0,rfl,fun h=>absurd h (by simp),fun _=>⟨rfl,rfl⟩,Nat.le_refl _,HX5.out.1,HX5.out.2⟩
theorem tR {t:VT}{r:Bool}(h:r=true↔t= .mk 0 0 ⟨#[]⟩ [] []):r=b8 t:=by rw[Bool.eq_iff_iff,h,nV]
theorem jx (S:Nat→Prop)(d:aU)(cs:Array Value)(w:World)(hS: ∀b,S b→b<w.heap.size)(h:em w S d cs)(hd:av d.val≤4611686018427387903):
  Calls Tryz.prog 111 #[.agg cs] w fun e w'=>e= .returned (.bool (cl d))∧Below w.heap.size w w':=by
 obtain⟨PA,pc,VA,vc,VA',vc',rfl,hv,hp,hpc,hpn,hk,hn,hpl⟩:=h;obtain⟨w1,hw1⟩: ∃W,W=w.alloc (.cells #[.int .i64 d.kind,.slice PA d.path.length pc,.int .i64 d.val.kind,.int .i64 d.val.num,.string d.val.text,.slice VA d.val.items.length vc,.slice VA' d.val.names.length vc',.int .i64 d.num] 114):=⟨_,rfl⟩;have hbk:w1.heap[w.heap.size]? =some (.cells #[.int .i64 d.kind,.slice PA d.path.length pc,.int .i64 d.val.kind,.int .i64 d.val.num,.string d.val.text,.slice VA d.val.items.length vc,.slice VA' d.val.names.length vc',.int .i64 d.num] 114 (0,0)):=by rw[hw1];exact heap_alloc_new w _
 have hb1:Below w.heap.size w w1:=by rw[hw1];exact(Below.refl _ _).alloc (Nat.le_refl _) _
 have y0:=Go.Joins.cell_of_block hbk 0;have y1:=Go.Joins.cell_of_block hbk 1;have y2:=Go.Joins.cell_of_block hbk 2;have y3:=Go.Joins.cell_of_block hbk 3;have y4:=Go.Joins.cell_of_block hbk 4;have y5:=Go.Joins.cell_of_block hbk 5;have y6:=Go.Joins.cell_of_block hbk 6;have y7:=Go.Joins.cell_of_block hbk 7;have hS1: ∀b,S b→b<w1.heap.size:=fun b hb=>Nat.lt_of_lt_of_le (hS b hb) hb1.size;have hv1:=hv.keep fun b hb=>hb1.block b (hS b hb);have HMA:=hid (uK PA pc d.path w1 S (hp.keep fun b hb=>hb1.block b (hS b hb)) (by omega));have HNO:=hid (gn S (av d.val) d.val (.mk 0 0 ⟨#[]⟩ [] []) _ (.agg #[.int .i64 0,.int .i64 0,.string ⟨#[]⟩,.slice none 0 0,.slice none 0 0]) _ (Nat.le_refl _) hS1 hv1 (gj _ _));have HD:=hid hd;have HV:=hid hv1;have HBK:=hid hbk;have HB1:=hid hb1;have HW1:=hid hw1;have HS:=hid hS;obtain⟨r,hr⟩: ∃r,r=cl d:=⟨_,rfl⟩;have HR:=hid hr;rw[←hr];clear hbk hb1 hS1 hv1 hv hp hpc hpn hk hn hpl hd hS hr;go_enter Tryz.func111,Tryz.ntmps111;go_wp2_with fail;rw[←hw1];clear hw1;refine HMA.out.mono ?_;rintro e w2 ⟨rfl,rfl⟩;clear HMA;cases hmp:jC d.path
 ·go_wp2_with fail;go_ret;exact⟨by rw[HR.out];unfold cl;rw[hmp];rfl,HB1.out⟩
 have HMP:=hid hmp;clear hmp;obtain⟨k,hk⟩: ∃k,k=d.kind:=⟨_,rfl⟩;rw[←hk]at y0;have HK:=hid hk.symm;clear hk;go_wp2_with fail;refine HNO.out.mono ?_;rintro e w3 ⟨⟨rn,rfl,hrn⟩,hb3⟩;obtain rfl:=tR hrn;have HB3:=hid (HB1.out.trans (hb3.mono HB1.out.size));have hk3:=(hb3.block _ (Array.getElem?_eq_some_iff.1 HBK.out).1).trans HBK.out;have HV3:=hid (HV.out.keep fun b hb=>hb3.block b (Nat.lt_of_lt_of_le (HS.out b hb) HB1.out.size));have HBK3:=hid hk3;have x0:=Go.Joins.cell_of_block hk3 0;have x1:=Go.Joins.cell_of_block hk3 1;have x2:=Go.Joins.cell_of_block hk3 2;have x3:=Go.Joins.cell_of_block hk3 3;have x4:=Go.Joins.cell_of_block hk3 4;have x5:=Go.Joins.cell_of_block hk3 5;have x6:=Go.Joins.cell_of_block hk3 6;have x7:=Go.Joins.cell_of_block hk3 7;rw[HK.out]at x0;clear hb3 hk3 HNO hrn y0 y1 y2 y3 y4 y5 y6 y7 HV HBK;by_cases k1:k=1
 ·subst k1;have HCK:=hid (iz S d.val _ w3 HD.out (fun b hb=>Nat.lt_of_lt_of_le (HS.out b hb) HB3.out.size) HV3.out);go_wp2_with fail;refine HCK.out.mono ?_;rintro e w4 ⟨rfl,hb4⟩;have HB4:=hid (HB3.out.trans (hb4.mono HB3.out.size));have HBK4:=(hb4.block _ (Array.getElem?_eq_some_iff.1 HBK3.out).1).trans HBK3.out;have z7:=Go.Joins.cell_of_block HBK4 7;obtain⟨b1,d1⟩: ∃b,(bh d.val == 0)=b:=⟨_,rfl⟩;obtain⟨b2,d2⟩: ∃b,(d.num == 0)=b:=⟨_,rfl⟩
  have HE:Hid (cl d=(b1 && b2)):=hid (by
   rw[←d1,←d2];unfold cl;rw[HMP.out,HK.out];rw[Bool.eq_iff_iff]
   simp)
  clear hb4 HBK4 HCK;cases b1<;>cases b2
  all_goals
   go_wp2_with fail;go_ret;exact⟨by rw[HR.out,HE.out];rfl,HB4.out⟩
 have e1:=beq_false_of_ne k1;by_cases k2:k=2
 ·subst k2;obtain⟨b1,d1⟩: ∃b,b8 d.val=b:=⟨_,rfl⟩;obtain⟨b2,d2⟩: ∃b,(d.num == 0)=b:=⟨_,rfl⟩
  have HE:Hid (cl d=(b1 && b2)):=hid (by
   rw[←d1,←d2];unfold cl;rw[HMP.out,HK.out];rw[Bool.eq_iff_iff]
   simp)
  rw[d1];cases b1<;>cases b2
  all_goals
   go_wp2_with fail;go_ret;exact⟨by rw[HR.out,HE.out];rfl,HB3.out⟩
 have e2:=beq_false_of_ne k2;by_cases k3:k=3
 ·subst k3;obtain⟨b1,d1⟩: ∃b,b8 d.val=b:=⟨_,rfl⟩;obtain⟨b2,d2⟩: ∃b,decide (d.num≥0)=b:=⟨_,rfl⟩;obtain⟨b3,d3⟩: ∃b,decide (d.num≤999)=b:=⟨_,rfl⟩
  have HE:Hid (cl d=(b1 && (b2 && b3))):=hid (by
   rw[←d1,←d2,←d3];unfold cl;rw[HMP.out,HK.out];rw[Bool.eq_iff_iff]
   simp)
  rw[d1];cases b1<;>cases b2<;>cases b3
  all_goals
   go_wp2_with fail;go_ret;exact⟨by rw[HR.out,HE.out];rfl,HB3.out⟩
 have e3:=beq_false_of_ne k3
 have HN:Hid (cl d=false):=hid (by
  unfold cl;rw[HK.out]
  simp[k1,k2,k3])
 clear k1 k2 k3;go_wp2_with fail;go_ret;exact⟨by rw[HR.out,HN.out];rfl,HB3.out⟩
theorem rp (S:Nat→Prop)(A:Option Addr)(c:Nat)(l:List aU)(w:World)(hS: ∀b,S b→b<w.heap.size)(h:bQ w S A l)(hn:l.length≤140737488351232)(hd:eT l):
  Calls Tryz.prog 92 #[.slice A l.length c] w fun e w'=>e= .returned (.int .i64 (bK l))∧Below w.heap.size w w':=by
 have H:=hid h;have HS:=hid hS;have HD:=hid hd;obtain⟨r,hr⟩: ∃r,r=bK l:=⟨_,rfl⟩;have HR:=hid hr;rw[←hr];obtain⟨n,hn'⟩: ∃n,n=l.length:=⟨_,rfl⟩;have HN:=hid hn';rw[←hn']at hn ⊢;clear h hS hr hn' hd;go_enter Tryz.func92,Tryz.ntmps92;by_cases h64:64<n
 ·have d1:decide ((n:Int)>64)=true:=decide_eq_true (by omega);go_wp2_with fail;go_ret;exact⟨by rw[HR.out];unfold bK;rw[if_pos (by have:=HN.out;omega)];rfl,Below.refl _ _⟩
 have d1:decide ((n:Int)>64)=false:=decide_eq_false (by omega);have H64:Hid (¬64<l.length):=hid (by have:=HN.out;omega);go_wp2_with fail
 go_loopw [3] (fun i wr=> ∃k:Nat,i= .int .i64 k∧k≤n∧Hid (Below w.heap.size w wr)∧Hid (∀j (h:j<l.length),j<k→cl l[j]=true)) (fun i _=>n - (intOf i).toNat)
 case atStart=>exact⟨0,rfl,by omega,hid (Below.refl _ _),hid fun j _ h=>absurd h (by omega)⟩
 case round=>
  obtain⟨k,rfl,hk,HB,HJ⟩:=hrel;by_cases hlt:k<n
  ·have d2:decide ((k:Int)<(n:Int))=true:=decide_eq_true (by omega);have hkl:k<l.length:=by have:=HN.out;omega
   have hS2: ∀b,S b→b<wr.heap.size:=fun b hb=>Nat.lt_of_lt_of_le (HS.out b hb) HB.out.size;obtain⟨p,off,PA,pc,VA,vc,VA',vc',rfl,hpS,ho,x0,x1,x2,x3,x4,x5,x6,x7⟩:=(H.out.below HS.out HB.out).cells k hkl;have HC:=hid (jx S l[k] _ wr hS2 ho (HD.out _ (List.getElem_mem hkl)));clear ho hS2 hpS;go_wp2_with fail;refine HC.out.mono ?_;rintro e u ⟨rfl,hb⟩;have HB2:=hid (HB.out.trans (hb.mono HB.out.size));clear hb HC x0 x1 x2 x3 x4 x5 x6 x7;cases hm:cl l[k]
   ·have HM:=hid hm;clear hm;go_wp2_with fail;go_ret;exact⟨by rw[HR.out];unfold bK;rw[if_neg H64.out,oV hkl HM.out];rfl,HB2.out⟩
   ·have HM:=hid hm;clear hm;go_wp2_with fail
    go_roundw
    case rel=>exact⟨k+1,by go_num,by omega,HB2,hid fun j h hjk=>by
     by_cases e:j=k
     ·subst e;exact HM.out
     ·exact HJ.out j h (by omega)⟩
    case measure=>simp[intOf];omega
  ·have d2:decide ((k:Int)<(n:Int))=false:=decide_eq_false (by omega);have HA:Hid (l.all cl=true):=hid (lZ fun j h=>HJ.out j h (by have:=HN.out;omega));go_wp2_with fail;go_ret;exact⟨by rw[HR.out];unfold bK;rw[if_neg H64.out,HA.out];rfl,HB.out⟩
def bV (d:aU):List UInt8:=[UInt8.ofNat d.kind.toNat]++dX d.path++(if d.kind=1 then fg d.val else if d.kind=3 then grp d.num.toNat else [])
theorem jz {w w':World}{g:Nat}{cs:Array Value}{fr:Nat×Nat}(hg:w.heap[g]? =some (.cells cs 114 fr))(h:K8 w w'):w'.heap[g]? =some (.cells cs 114 fr):=h g _ hg (fun h=>by cases h) (fun c fz h=>by injection h with _ h;exact absurd h (by decide))
theorem rM (S:Nat→Prop)(d:aU)(cs:Array Value)(B:Nat)(v:Value)(l:List UInt8)(w:World)(hSB: ∀b,S b→b<B)(ho:em w S d cs)(hm:cl d=true)(hd:av d.val≤4611686018427387903)(hz:bt d.val≤9223372036854775807)(hp:kz d.path)(h:aA w B v l)(hB:B≤w.heap.size)(hl:l.length≤140737470000000):
  Calls Tryz.prog 161 #[v,.agg cs] w (iX B (l++bV d) w):=by
 obtain⟨PA,pc,VA,vc,VA',vc',rfl,hv,hpa,hpc,hpn,hk,hkn,hpl⟩:=ho;obtain⟨w1,hw1⟩: ∃W,W=w.alloc (.cells #[.int .i64 d.kind,.slice PA d.path.length pc,.int .i64 d.val.kind,.int .i64 d.val.num,.string d.val.text,.slice VA d.val.items.length vc,.slice VA' d.val.names.length vc',.int .i64 d.num] 114):=⟨_,rfl⟩;have hbk:w1.heap[w.heap.size]? =some (.cells #[.int .i64 d.kind,.slice PA d.path.length pc,.int .i64 d.val.kind,.int .i64 d.val.num,.string d.val.text,.slice VA d.val.items.length vc,.slice VA' d.val.names.length vc',.int .i64 d.num] 114 (0,0)):=by rw[hw1];exact heap_alloc_new w _
 have hb1:Below w.heap.size w w1:=by rw[hw1];exact(Below.refl _ _).alloc (Nat.le_refl _) _
 have hin: ∀W,Below B w W→LV W S d.val (.agg #[.int .i64 d.val.kind,.int .i64 d.val.num,.string d.val.text,.slice VA d.val.items.length vc,.slice VA' d.val.names.length vc'])∧aD W S PA d.path:=fun W hW=>
  ⟨hv.keep fun b hb=>hW.block b (hSB b hb),hpa.keep fun b hb=>hW.block b (hSB b hb)⟩
 obtain⟨i0,hi,hz0,hz1,hz2⟩:=info_parts Tryz.infoU8;have HO1:=hid (h.below hb1);obtain⟨Av,cv,rfl⟩:=h.slice;obtain⟨m,hmm⟩: ∃m,m=l.length:=⟨_,rfl⟩;rw[←hmm]at HO1 ⊢;have HM:=hid hmm;have HB1:=hid hb1;have HBK:=hid hbk;have HW1:=hid hw1;have HIN:=hid hin;have HSB:=hid hSB;have HPP:=hid hp;have HD:=hid (And.intro hd hz);have HL:=hid hl;have HB:=hid hB
 have hkk:d.kind=1∨d.kind=2∨(d.kind=3∧0≤d.num∧d.num≤999):=by
  unfold cl at hm;rw[Bool.and_eq_true]at hm;have h2:=hm.2
  split at h2
  ·omega
  split at h2
  ·omega
  split at h2
  ·simp only[Bool.and_eq_true,decide_eq_true_eq]at h2;exact .inr (.inr ⟨by omega,h2.2.1,h2.2.2⟩)
  ·cases h2
 clear hv hpa hpc hpn hk hkn hpl hSB hin h hB hl hmm hd hz hp hm;go_enter Tryz.func161,Tryz.ntmps161;rcases hkk with hkk|hkk|hkk
 ·have HKE:=hid hkk;have hbk:=HBK.out;rw[hkk]at hbk hw1 ⊢;clear hkk;have HBKK:=hid hbk;go_wp2_with fail;first|rw[←hw1]|skip
  clear hw1;have q0:=de (i:=0) (show w1.drew.heap[w.heap.size]? =_ from HBKK.out) (by decide) rfl;have q1:=de (i:=1) (show w1.drew.heap[w.heap.size]? =_ from HBKK.out) (by decide) rfl;refine bm K8 (fun w=>Lib.OthersKept.refl _ _ _) (fun a b c h k=>h.trans k) [] (.pure [0,1,2,3,6,7] (.step 4 (.step 5 (.step 8 (.free [9] (.tail [])))))) (by kernel_rfl) (by kernel_rfl) (fun _ d _ _ _ h=>by cases d<;>exact h) ?_;generalize hw2:w1.drew=w2 at *
  have HW2:Hid (Below w.heap.size w w2∧aA w2 B (.slice Av m cv) l∧K8 w w2∧w.heap.size<w2.heap.size):=hid (by
   rw[←hw2]
   exact⟨HB1.out.drew,HO1.out,(aI HB1.out).drew,(Array.getElem?_eq_some_iff.1 HBKK.out).1⟩)
  have HBK2:=hid ((show w2.heap[w.heap.size]? =w1.heap[w.heap.size]? from by rw[←hw2];rfl).trans HBKK.out);clear hw2 hbk;refine dg ?_;simp only[atR];show wpQuiet _ _ _ _ [_,_,_,_,_,_] _;try simp only[acR,Act.put]at *
  repeat(go_big_quiet_step (fail))
  refine wpQuiet_nil ?_;clear q0 q1;refine aT rfl (fun K hK=> ?_)
  go_simp
  refine hK _ _ (.inr ((Lib.OthersKept.refl _ _ _).alloc _)) ?_;clear hK K;have hml:m≤140737470000000:=by rw[HM.out];exact HL.out
  have hB2:B≤w2.heap.size:=Nat.le_trans HB.out HW2.out.1.size;have HOA:Hid (∀X:Obj,aA (w2.alloc X) B (.slice Av m cv) l):=hid fun X=>HW2.out.2.1.below ((Below.refl _ _).alloc (Nat.le_refl _) _);have hrow: ∀X:Obj,(w2.alloc X).ownsRow B 5 1 (.slice Av m cv) m (aJ l):=fun X=>by have h9:=HOA.out X;unfold aA at h9;rw[←HM.out]at h9;exact h9
  refine aT rfl (fun K hK=> ?_);refine bo _ _ _ 23 rfl B 5 i0 (.int .u8 0) 1 1 Tryz.underlying23 hi hz0 hz1 hz2 rfl (by decide) _ m (aJ l) rfl (hrow _) ⟨w2.heap.size,0,none⟩ 1 1 [.int .u8 1] rfl rfl (cell_one_new _ _ _) (by simp[Value.oneCell']) (by unfold maxLen;omega) (by omega) (by simp;omega) ?_;intro v4 w4 hv4 hg4 hwh4;have hk5:K8 (w2.alloc (.cells #[.int .u8 1] 5)) w4:=aH (HOA.out _) hg4;refine hK _ _ (.inr hk5) ?_;clear hK K;have HX4:Hid (aA w4 B v4 (l++[1])∧Below B w w4∧K8 w w4):=hid ⟨by unfold aA;rw[List.length_append,←HM.out,show aJ (l++[1])=aJ l++[.int .u8 1] from by unfold aJ;rw[List.map_append];rfl];exact hv4,aF ((HW2.out.1.mono HB.out).alloc hB2 _) (HOA.out _) (by simp;omega) hg4,(HW2.out.2.2.1.alloc _).trans hk5⟩;have HBK4:=hid (jz (w:=w2.alloc (.cells #[.int .u8 1] 5)) ((Below.heap_alloc w2 _ _ HW2.out.2.2.2).trans HBK2.out) hk5);have HC:=hid (ip S PA pc d.path B v4 (l++[1]) w4 HSB.out (HIN.out w4 HX4.out.2.1).2 HPP.out HX4.out.1 (Nat.le_trans HB.out HX4.out.2.1.size) (by have:=HM.out;simp;omega));clear hv4 hg4 hwh4 hrow hk5 hB2;refine aT rfl (fun K hK=> ?_)
  go_simp
  refine HC.out.mono ?_;rintro e w5 ⟨v5,rfl,hv5,hb5,hk5⟩
  go_simp
  refine hK _ _ (.inr hk5) ?_;clear hK K;have HX5:Hid (aA w5 B v5 (l++[1]++dX d.path)∧Below B w w5∧K8 w w5):=hid ⟨hv5,HX4.out.2.1.trans hb5,HX4.out.2.2.trans hk5⟩;have HBK5:=hid (jz HBK4.out hk5);refine dK ?_;simp only[atR];show wpQuiet _ _ _ _ [_] _;try simp only[acR,Act.put]at *
  repeat(go_big_quiet_step (fail))
  refine wpQuiet_nil ?_;refine dt ?_;have r0:w5.cell? ⟨w.heap.size,0,none⟩=some (.int .i64 1):=Go.Joins.cell_of_block HBK5.out 0;have r1:w5.cell? ⟨w.heap.size,2,none⟩=some (.int .i64 d.val.kind):=Go.Joins.cell_of_block HBK5.out 2;have r2:w5.cell? ⟨w.heap.size,3,none⟩=some (.int .i64 d.val.num):=Go.Joins.cell_of_block HBK5.out 3;have r3:w5.cell? ⟨w.heap.size,4,none⟩=some (.string d.val.text):=Go.Joins.cell_of_block HBK5.out 4;have r4:w5.cell? ⟨w.heap.size,5,none⟩=some (.slice VA d.val.items.length vc):=Go.Joins.cell_of_block HBK5.out 5;have r5:w5.cell? ⟨w.heap.size,6,none⟩=some (.slice VA' d.val.names.length vc'):=Go.Joins.cell_of_block HBK5.out 6;have r6:w5.cell? ⟨w.heap.size,7,none⟩=some (.int .i64 d.num):=Go.Joins.cell_of_block HBK5.out 7
  have hL5:Hid ((l++[1]++dX d.path).length≤140737480000000):=hid (by
   have h1:=(ay d.path.length).1;have h2:=fu HPP.out.2;have h3:=HPP.out.1;have h4:=HL.out;unfold dX;simp only[List.length_append,List.length_cons,List.length_nil]
   omega)
  have HC6:=hid (qt S d.val _ w5 (fun b hb=>Nat.lt_of_lt_of_le (HSB.out b hb) (Nat.le_trans HB.out HX5.out.2.1.size)) (HIN.out w5 HX5.out.2.1).1 HD.out.1 HD.out.2);go_wp2_with fail;refine HC6.out.mono ?_;rintro e w6 ⟨v6,rfl,hv6,hb6⟩;have HB6:Hid (Below B w w6):=hid (HX5.out.2.1.trans (hb6.mono (Nat.le_trans HB.out HX5.out.2.1.size)));have HK6:Hid (K8 w w6):=hid (HX5.out.2.2.trans (aI hb6));have HO6:Hid (aA w6 B v5 (l++[1]++dX d.path)):=hid (HX5.out.1.below hb6);have HV6:=hid hv6;have HZZ:=hid HD.out.2;clear hv6 hb6 HC6 r0 r1 r2 r3 r4 r5 r6;go_wp2_with(at_builtin;go_must (refine ar rfl _ _ rfl B _ (l++[1]++dX d.path) rfl HO6.out w6.heap.size _ (fg d.val) rfl HV6.out.rd (Nat.le_trans HB.out HB6.out.size) (by have:=hL5.out;have:=gQ (t:=d.val) HZZ.out;omega) ?_));intro v7 w7 hv7 hg7;have hfin:bV d= [1]++dX d.path++fg d.val:=by unfold bV;rw[HKE.out];simp
  have HX:Hid (aA w7 B v7 (l++bV d)∧Below B w w7∧K8 w w7):=hid ⟨by rw[hfin];simpa[List.append_assoc]using hv7,aF HB6.out HO6.out (Nat.le_trans HB.out HB6.out.size) hg7,HK6.out.trans (aH HO6.out hg7)⟩;clear hv7 hg7 hfin;go_wp2_with fail;go_ret;exact⟨_,rfl,HX.out⟩
 ·have HKE:=hid hkk;have hbk:=HBK.out;rw[hkk]at hbk hw1 ⊢;clear hkk;have HBKK:=hid hbk;go_wp2_with fail;first|rw[←hw1]|skip
  clear hw1;have q0:=de (i:=0) (show w1.drew.heap[w.heap.size]? =_ from HBKK.out) (by decide) rfl;have q1:=de (i:=1) (show w1.drew.heap[w.heap.size]? =_ from HBKK.out) (by decide) rfl;refine bm K8 (fun w=>Lib.OthersKept.refl _ _ _) (fun a b c h k=>h.trans k) [] (.pure [0,1,2,3,6,7] (.step 4 (.step 5 (.step 8 (.free [9] (.tail [])))))) (by kernel_rfl) (by kernel_rfl) (fun _ d _ _ _ h=>by cases d<;>exact h) ?_;generalize hw2:w1.drew=w2 at *
  have HW2:Hid (Below w.heap.size w w2∧aA w2 B (.slice Av m cv) l∧K8 w w2∧w.heap.size<w2.heap.size):=hid (by
   rw[←hw2]
   exact⟨HB1.out.drew,HO1.out,(aI HB1.out).drew,(Array.getElem?_eq_some_iff.1 HBKK.out).1⟩)
  have HBK2:=hid ((show w2.heap[w.heap.size]? =w1.heap[w.heap.size]? from by rw[←hw2];rfl).trans HBKK.out);clear hw2 hbk;refine dg ?_;simp only[atR];show wpQuiet _ _ _ _ [_,_,_,_,_,_] _;try simp only[acR,Act.put]at *
  repeat(go_big_quiet_step (fail))
  refine wpQuiet_nil ?_;clear q0 q1;refine aT rfl (fun K hK=> ?_)
  go_simp
  refine hK _ _ (.inr ((Lib.OthersKept.refl _ _ _).alloc _)) ?_;clear hK K;have hml:m≤140737470000000:=by rw[HM.out];exact HL.out
  have hB2:B≤w2.heap.size:=Nat.le_trans HB.out HW2.out.1.size;have HOA:Hid (∀X:Obj,aA (w2.alloc X) B (.slice Av m cv) l):=hid fun X=>HW2.out.2.1.below ((Below.refl _ _).alloc (Nat.le_refl _) _);have hrow: ∀X:Obj,(w2.alloc X).ownsRow B 5 1 (.slice Av m cv) m (aJ l):=fun X=>by have h9:=HOA.out X;unfold aA at h9;rw[←HM.out]at h9;exact h9
  refine aT rfl (fun K hK=> ?_);refine bo _ _ _ 23 rfl B 5 i0 (.int .u8 0) 1 1 Tryz.underlying23 hi hz0 hz1 hz2 rfl (by decide) _ m (aJ l) rfl (hrow _) ⟨w2.heap.size,0,none⟩ 1 1 [.int .u8 2] rfl rfl (cell_one_new _ _ _) (by simp[Value.oneCell']) (by unfold maxLen;omega) (by omega) (by simp;omega) ?_;intro v4 w4 hv4 hg4 hwh4;have hk5:K8 (w2.alloc (.cells #[.int .u8 2] 5)) w4:=aH (HOA.out _) hg4;refine hK _ _ (.inr hk5) ?_;clear hK K;have HX4:Hid (aA w4 B v4 (l++[2])∧Below B w w4∧K8 w w4):=hid ⟨by unfold aA;rw[List.length_append,←HM.out,show aJ (l++[2])=aJ l++[.int .u8 2] from by unfold aJ;rw[List.map_append];rfl];exact hv4,aF ((HW2.out.1.mono HB.out).alloc hB2 _) (HOA.out _) (by simp;omega) hg4,(HW2.out.2.2.1.alloc _).trans hk5⟩;have HBK4:=hid (jz (w:=w2.alloc (.cells #[.int .u8 2] 5)) ((Below.heap_alloc w2 _ _ HW2.out.2.2.2).trans HBK2.out) hk5);have HC:=hid (ip S PA pc d.path B v4 (l++[2]) w4 HSB.out (HIN.out w4 HX4.out.2.1).2 HPP.out HX4.out.1 (Nat.le_trans HB.out HX4.out.2.1.size) (by have:=HM.out;simp;omega));clear hv4 hg4 hwh4 hrow hk5 hB2;refine aT rfl (fun K hK=> ?_)
  go_simp
  refine HC.out.mono ?_;rintro e w5 ⟨v5,rfl,hv5,hb5,hk5⟩
  go_simp
  refine hK _ _ (.inr hk5) ?_;clear hK K;have HX5:Hid (aA w5 B v5 (l++[2]++dX d.path)∧Below B w w5∧K8 w w5):=hid ⟨hv5,HX4.out.2.1.trans hb5,HX4.out.2.2.trans hk5⟩;have HBK5:=hid (jz HBK4.out hk5);refine dK ?_;simp only[atR];show wpQuiet _ _ _ _ [_] _;try simp only[acR,Act.put]at *
  repeat(go_big_quiet_step (fail))
  refine wpQuiet_nil ?_;refine dt ?_;have r0:w5.cell? ⟨w.heap.size,0,none⟩=some (.int .i64 2):=Go.Joins.cell_of_block HBK5.out 0;have r1:w5.cell? ⟨w.heap.size,2,none⟩=some (.int .i64 d.val.kind):=Go.Joins.cell_of_block HBK5.out 2;have r2:w5.cell? ⟨w.heap.size,3,none⟩=some (.int .i64 d.val.num):=Go.Joins.cell_of_block HBK5.out 3;have r3:w5.cell? ⟨w.heap.size,4,none⟩=some (.string d.val.text):=Go.Joins.cell_of_block HBK5.out 4;have r4:w5.cell? ⟨w.heap.size,5,none⟩=some (.slice VA d.val.items.length vc):=Go.Joins.cell_of_block HBK5.out 5;have r5:w5.cell? ⟨w.heap.size,6,none⟩=some (.slice VA' d.val.names.length vc'):=Go.Joins.cell_of_block HBK5.out 6;have r6:w5.cell? ⟨w.heap.size,7,none⟩=some (.int .i64 d.num):=Go.Joins.cell_of_block HBK5.out 7
  have hL5:Hid ((l++[2]++dX d.path).length≤140737480000000):=hid (by
   have h1:=(ay d.path.length).1;have h2:=fu HPP.out.2;have h3:=HPP.out.1;have h4:=HL.out;unfold dX;simp only[List.length_append,List.length_cons,List.length_nil]
   omega)
  go_wp2_with fail;go_ret;have hfin:bV d= [2]++dX d.path:=by unfold bV;rw[HKE.out];simp
  rw[hfin,←List.append_assoc];exact⟨_,rfl,HX5.out⟩
 ·have HKE:=hid hkk;obtain⟨nn,hnn⟩: ∃nn:Nat,d.num=(nn:Int):=⟨d.num.toNat,by omega⟩;have hn9:nn≤999:=by omega
  have HNN:=hid hnn;have hk3:=hkk.1;have hbk:=HBK.out;rw[hk3,hnn]at hbk hw1 ⊢;clear hkk hk3 hnn;have HBKK:=hid hbk;go_wp2_with fail;first|rw[←hw1]|skip
  clear hw1;have q0:=de (i:=0) (show w1.drew.heap[w.heap.size]? =_ from HBKK.out) (by decide) rfl;have q1:=de (i:=1) (show w1.drew.heap[w.heap.size]? =_ from HBKK.out) (by decide) rfl;refine bm K8 (fun w=>Lib.OthersKept.refl _ _ _) (fun a b c h k=>h.trans k) [] (.pure [0,1,2,3,6,7] (.step 4 (.step 5 (.step 8 (.free [9] (.tail [])))))) (by kernel_rfl) (by kernel_rfl) (fun _ d _ _ _ h=>by cases d<;>exact h) ?_;generalize hw2:w1.drew=w2 at *
  have HW2:Hid (Below w.heap.size w w2∧aA w2 B (.slice Av m cv) l∧K8 w w2∧w.heap.size<w2.heap.size):=hid (by
   rw[←hw2]
   exact⟨HB1.out.drew,HO1.out,(aI HB1.out).drew,(Array.getElem?_eq_some_iff.1 HBKK.out).1⟩)
  have HBK2:=hid ((show w2.heap[w.heap.size]? =w1.heap[w.heap.size]? from by rw[←hw2];rfl).trans HBKK.out);clear hw2 hbk;refine dg ?_;simp only[atR];show wpQuiet _ _ _ _ [_,_,_,_,_,_] _;try simp only[acR,Act.put]at *
  repeat(go_big_quiet_step (fail))
  refine wpQuiet_nil ?_;clear q0 q1;refine aT rfl (fun K hK=> ?_)
  go_simp
  refine hK _ _ (.inr ((Lib.OthersKept.refl _ _ _).alloc _)) ?_;clear hK K;have hml:m≤140737470000000:=by rw[HM.out];exact HL.out
  have hB2:B≤w2.heap.size:=Nat.le_trans HB.out HW2.out.1.size;have HOA:Hid (∀X:Obj,aA (w2.alloc X) B (.slice Av m cv) l):=hid fun X=>HW2.out.2.1.below ((Below.refl _ _).alloc (Nat.le_refl _) _);have hrow: ∀X:Obj,(w2.alloc X).ownsRow B 5 1 (.slice Av m cv) m (aJ l):=fun X=>by have h9:=HOA.out X;unfold aA at h9;rw[←HM.out]at h9;exact h9
  refine aT rfl (fun K hK=> ?_);refine bo _ _ _ 23 rfl B 5 i0 (.int .u8 0) 1 1 Tryz.underlying23 hi hz0 hz1 hz2 rfl (by decide) _ m (aJ l) rfl (hrow _) ⟨w2.heap.size,0,none⟩ 1 1 [.int .u8 3] rfl rfl (cell_one_new _ _ _) (by simp[Value.oneCell']) (by unfold maxLen;omega) (by omega) (by simp;omega) ?_;intro v4 w4 hv4 hg4 hwh4;have hk5:K8 (w2.alloc (.cells #[.int .u8 3] 5)) w4:=aH (HOA.out _) hg4;refine hK _ _ (.inr hk5) ?_;clear hK K;have HX4:Hid (aA w4 B v4 (l++[3])∧Below B w w4∧K8 w w4):=hid ⟨by unfold aA;rw[List.length_append,←HM.out,show aJ (l++[3])=aJ l++[.int .u8 3] from by unfold aJ;rw[List.map_append];rfl];exact hv4,aF ((HW2.out.1.mono HB.out).alloc hB2 _) (HOA.out _) (by simp;omega) hg4,(HW2.out.2.2.1.alloc _).trans hk5⟩;have HBK4:=hid (jz (w:=w2.alloc (.cells #[.int .u8 3] 5)) ((Below.heap_alloc w2 _ _ HW2.out.2.2.2).trans HBK2.out) hk5);have HC:=hid (ip S PA pc d.path B v4 (l++[3]) w4 HSB.out (HIN.out w4 HX4.out.2.1).2 HPP.out HX4.out.1 (Nat.le_trans HB.out HX4.out.2.1.size) (by have:=HM.out;simp;omega));clear hv4 hg4 hwh4 hrow hk5 hB2;refine aT rfl (fun K hK=> ?_)
  go_simp
  refine HC.out.mono ?_;rintro e w5 ⟨v5,rfl,hv5,hb5,hk5⟩
  go_simp
  refine hK _ _ (.inr hk5) ?_;clear hK K;have HX5:Hid (aA w5 B v5 (l++[3]++dX d.path)∧Below B w w5∧K8 w w5):=hid ⟨hv5,HX4.out.2.1.trans hb5,HX4.out.2.2.trans hk5⟩;have HBK5:=hid (jz HBK4.out hk5);refine dK ?_;simp only[atR];show wpQuiet _ _ _ _ [_] _;try simp only[acR,Act.put]at *
  repeat(go_big_quiet_step (fail))
  refine wpQuiet_nil ?_;refine dt ?_;have r0:w5.cell? ⟨w.heap.size,0,none⟩=some (.int .i64 3):=Go.Joins.cell_of_block HBK5.out 0;have r1:w5.cell? ⟨w.heap.size,2,none⟩=some (.int .i64 d.val.kind):=Go.Joins.cell_of_block HBK5.out 2;have r2:w5.cell? ⟨w.heap.size,3,none⟩=some (.int .i64 d.val.num):=Go.Joins.cell_of_block HBK5.out 3;have r3:w5.cell? ⟨w.heap.size,4,none⟩=some (.string d.val.text):=Go.Joins.cell_of_block HBK5.out 4;have r4:w5.cell? ⟨w.heap.size,5,none⟩=some (.slice VA d.val.items.length vc):=Go.Joins.cell_of_block HBK5.out 5;have r5:w5.cell? ⟨w.heap.size,6,none⟩=some (.slice VA' d.val.names.length vc'):=Go.Joins.cell_of_block HBK5.out 6;have r6:w5.cell? ⟨w.heap.size,7,none⟩=some (.int .i64 (nn:Int)):=Go.Joins.cell_of_block HBK5.out 7
  have hL5:Hid ((l++[3]++dX d.path).length≤140737480000000):=hid (by
   have h1:=(ay d.path.length).1;have h2:=fu HPP.out.2;have h3:=HPP.out.1;have h4:=HL.out;unfold dX;simp only[List.length_append,List.length_cons,List.length_nil]
   omega)
  have HC6:=hid (fJ B nn v5 (l++[3]++dX d.path) w5 HX5.out.1 (Nat.le_trans HB.out HX5.out.2.1.size) (by omega) (by have:=hL5.out;omega));go_wp2_with fail;refine HC6.out.mono ?_;rintro e w6 ⟨v6,rfl,hv6,hb6,hk6⟩;have hfin:bV d= [3]++dX d.path++grp nn:=by unfold bV;rw[HKE.out.1,HNN.out];simp
  have HX6:Hid (aA w6 B v6 (l++bV d)∧Below B w w6∧K8 w w6):=hid ⟨by rw[hfin,←List.append_assoc,←List.append_assoc];exact hv6,HX5.out.2.1.trans hb6,HX5.out.2.2.trans hk6⟩;clear hfin hv6 hb6 hk6;go_wp2_with fail;go_ret;exact⟨_,rfl,HX6.out⟩
end Go.Proofs.YtgfidiocmiolpaaGreat
/- A list's code is read back: plain. -/
namespace Go.Proofs.YtgfidiocmiolpaaGreat
def dR (l:List aU):List UInt8:=if bK l=0 then grp l.length++(l.map bV).flatten else []
theorem mJ {d:aU}(h:cl d=true):kz d.path:=xE (k9 h)
theorem pE {d:aU}(h:cl d=true)(hz:bt d.val≤9223372036854775807):(bV d).length≤2100000:=by
 have h1:=qg (mJ h);have h3:=gQ hz;have h4:=(ay d.num.toNat).1;unfold bV;rw[List.length_append,List.length_append]
 split
 ·simp;omega
 split
 ·simp;omega
 ·simp;omega
theorem iB : ∀ {l:List aU},(∀d∈l,cl d=true∧bt d.val≤9223372036854775807)→((l.map bV).flatten).length≤2100000 * l.length
 | [],_=>by simp
 |a::r,h=>by
  have h1:=pE (h a (by simp)).1 (h a (by simp)).2;have h2:=iB (l:=r) fun o ho=>h o (List.mem_cons_of_mem _ ho);simp only[List.map_cons,List.flatten_cons,List.length_append,List.length_cons];omega
theorem fO {l:List aU}(h:bK l=0):l.length≤64∧ ∀d∈l,cl d=true:=by
 unfold bK at h;by_cases h1:64<l.length
 ·rw[if_pos h1]at h;omega
 ·rw[if_neg h1]at h;by_cases h2:l.all cl=true
  ·exact⟨by omega,fun d hd=>List.all_eq_true.1 h2 d hd⟩
  ·rw[if_neg h2]at h;omega
def iy (l:List aU):Prop:= ∀d∈l,bt d.val≤9223372036854775807
/-! ### what lies at one step -/
def jI (t:VT)(s:ByteArray):Option VT:=if cq t s<0 then none else t.items[(cq t s).toNat]?
theorem uT (t:VT)(s:ByteArray)(r:List ByteArray):i9 t (s::r)=(jI t s).bind fun u=>i9 u r:=by
  conv=>lhs;unfold i9
  unfold jI
  split
  · rfl
  · cases t.items[(cq t s).toNat]? <;>rfl
def lm :List ByteArray→List VT→ByteArray→Option VT
  |a::r,x::l,s=>if a=s then some x else lm r l s
  |_,_,_=>none
theorem kS (s:ByteArray): ∀(l:List ByteArray) (k:Nat),nmI k l s=if nmI 0 l s<0 then -1 else nmI 0 l s+k
  | [],k=>by unfold nmI;simp
  |a::r,k=>by
    unfold nmI;by_cases h:a=s
    · rw[if_pos h,if_pos h];simp
    · rw[if_neg h,if_neg h]
      have h1:=kS s r (k+1);have h2:=kS s r 1;have h3:=(lX (s:=s) (l:=r) (k:=0)).1;rw[h1];show _=if nmI (0+1) r s<0 then(-1:Int)else nmI (0+1) r s+k
      rw[show 0+1=1 from rfl,h2]
      split<;>split<;>omega
theorem jM (s:ByteArray): ∀(ns:List ByteArray) (l:List VT),(if nmI 0 ns s<0 then none else l[(nmI 0 ns s).toNat]?)=lm ns l s
  | [],l=>by unfold nmI lm;simp
  |a::r,l=>by
    by_cases h:a=s
    · have e:nmI 0 (a::r) s=0:=by unfold nmI;rw[if_pos h];rfl
      rw[e]
      cases l with
      |nil=>unfold lm;simp
      |cons x l=>unfold lm;simp[h]
    · have e:nmI 0 (a::r) s=nmI 1 r s:=by conv=>lhs;unfold nmI
                                          rw[if_neg h]
      have e2:=kS s r 1;have ih:=jM s r;rw[e,e2];have h3:=(lX (s:=s) (l:=r) (k:=0)).1
      cases l with
      |nil=>
        unfold lm
        split<;>simp
      |cons x l=>
        unfold lm;rw[if_neg h,←ih l];by_cases hn:nmI 0 r s<0
        · rw[if_pos hn,if_pos hn];rfl
        · rw[if_neg hn,if_neg hn,if_neg (by omega)]
          have:(nmI 0 r s+((1:Nat):Int)).toNat=(nmI 0 r s).toNat+1:=by omega
          rw[this,List.getElem?_cons_succ]
theorem wu {t:VT}(h:t.kind=7)(s:ByteArray):jI t s=lm t.names t.items s:=by
  unfold jI;rw[jV h];exact jM s t.names t.items
theorem qu (t:VT):bE t=true↔bf t.kind t.num t.text t.items.length t.names=true∧ ∀x∈t.items,bE x=true:=by
  rw[mA,Bool.and_eq_true];refine and_congr_right fun _=>⟨fun h x hx=>dS h hx,fun h=>mg fun j hj=>h _ (List.getElem_mem hj)⟩
structure bA where
 term:Int
 kind:Int
 coll:ByteArray
 to:ByteArray
 id:VT
 doc:VT
 dels:List aU
 session:Int
 number:Int
def ba (k:Int):Bool:=decide (2≤k) && decide (k≤7)
def cC (k:Int):Bool:=decide (k=7)
def cr (k:Int):Bool:=decide (2≤k) && decide (k≤4)
def bO (k:Int):Bool:=decide (k=2)
def bn (k:Int):Bool:=decide (k=3)
def b9 (s:ByteArray):Bool:=decide (1≤s.size) && decide (s.size≤32) && s.data.toList.all fun b=>decide (b≠36) && decide (b≠0)
def dU (v id:VT):Bool:=decide (v.kind=7) && decide (bh v=0) && (match jI v idN with
 |some x=>decide (gA x id=0)
 |none=>false)
def fi (l:List aU):Bool:=decide (bK l=0) && ev l && !kW l [idN]
def cY :bA:=⟨0,0,⟨#[]⟩,⟨#[]⟩,ap,ap,[],0,0⟩
def bT (e:bA):Bool:=
 (decide (1≤e.kind) && decide (e.kind≤7)) && (decide (0≤e.term) && decide (e.term≤1099511627776)) && (decide (0≤e.session) && decide (e.session≤255)) && (decide (0≤e.number) && decide (e.number≤1099511627776)) &&
 (if ba e.kind then b9 e.coll else decide (e.coll.size=0)) && (if cC e.kind then b9 e.to && decide (e.to≠e.coll)else decide (e.to.size=0)) &&
 (if cr e.kind then decide (bh e.id=0)else b8 e.id) && (if bO e.kind then dU e.doc e.id else b8 e.doc) && (if bn e.kind then fi e.dels else decide (e.dels.length=0)) &&
 (if e.kind=1 then decide (e.session=0) && decide (e.number=0)else true)
def fj (e:bA):List UInt8:=
 grp e.term.toNat++([UInt8.ofNat e.kind.toNat]++(grp e.session.toNat++(grp e.number.toNat++((if ba e.kind then txt e.coll else [])++((if cC e.kind then txt e.to else [])++((if cr e.kind then fg e.id else [])++
  ((if bO e.kind then fg e.doc else [])++(if bn e.kind then dR e.dels else []))))))))
def bG {α:Type}(b:Bool)(z:α)(f:Option (List UInt8)→α×Option (List UInt8))(st:Option (List UInt8)):α×Option (List UInt8):=if b then f st else(z,st)
def fG (n:Int)(st:Option (List UInt8)):ByteArray×Option (List UInt8):=(⟨(am n st).1.toArray⟩,(am n st).2)
def fd (st:Option (List UInt8)):bA×Option (List UInt8):=
 let a:=ae 1099511627776 st;let k:=ak a.2;let s:=ae 255 k.2;let n:=ae 1099511627776 s.2;let c:=bG (ba k.1) ⟨#[]⟩ (fG 32) n.2;let t:=bG (cC k.1) ⟨#[]⟩ (fG 32) c.2;let i:=bG (cr k.1) ap aQ t.2;let d:=bG (bO k.1) ap aQ i.2;let l:=bG (bn k.1) [] cU d.2
 (⟨a.1,k.1,c.1,t.1,i.1,d.1,l.1,s.1,n.1⟩,l.2)
def rdE (st:Option (List UInt8)):bA×Option (List UInt8):=match(fd st).2 with
 |none=>(cY,none)
 |some r=>if bT (fd st).1=true then((fd st).1,some r)else(cY,none)
structure zE (e:bA):Prop where
 k1:1≤e.kind
 k7:e.kind≤7
 t0:0≤e.term
 t1:e.term≤1099511627776
 s0:0≤e.session
 s1:e.session≤255
 n0:0≤e.number
 n1:e.number≤1099511627776
 coll:if ba e.kind=true then b9 e.coll=true else e.coll.size=0
 to:if cC e.kind=true then b9 e.to=true∧e.to≠e.coll else e.to.size=0
 id:if cr e.kind=true then bh e.id=0 else b8 e.id=true
 doc:if bO e.kind=true then dU e.doc e.id=true else b8 e.doc=true
 dels:if bn e.kind=true then fi e.dels=true else e.dels.length=0
 noop:e.kind=1→e.session=0∧e.number=0
theorem xm {c:Bool}{a b:Bool}:(if c=true then a else b)=true↔if c=true then a=true else b=true:=by cases c<;>simp
theorem mu (e:bA):bT e=true↔zE e:=by
 unfold bT;simp only[Bool.and_eq_true,decide_eq_true_eq,xm];constructor
 ·rintro⟨⟨⟨⟨⟨⟨⟨⟨⟨⟨a,b⟩,c,d⟩,f,g⟩,h,i⟩,j⟩,k⟩,l⟩,m⟩,n⟩,o⟩;refine⟨a,b,c,d,f,g,h,i,j,k,l,m,n,fun hk=> ?_⟩;rw[if_pos hk]at o;simpa using o
 ·intro h;refine⟨⟨⟨⟨⟨⟨⟨⟨⟨⟨h.k1,h.k7⟩,h.t0,h.t1⟩,h.s0,h.s1⟩,h.n0,h.n1⟩,h.coll⟩,h.to⟩,h.id⟩,h.doc⟩,h.dels⟩,?_⟩;by_cases hk:e.kind=1
  ·rw[if_pos hk];simpa using h.noop hk
  ·rw[if_neg hk]
theorem lf {s:ByteArray}(h:b9 s=true):1≤s.size∧s.size≤32:=by
 unfold b9 at h;simp only[Bool.and_eq_true,decide_eq_true_eq]at h;exact h.1
theorem gt {α:Type}{p:α×Option (List UInt8)}(h:p.2≠none): ∃r,p=(p.1,some r):=by
 obtain⟨a,o⟩:=p
 cases o with
 |none=>exact absurd rfl h
 |some r=>exact⟨r,rfl⟩
theorem tB : ∀(k:Nat) (l:List UInt8) (p:List ByteArray) (r:List UInt8),rdK (some l) k=(p,some r)→l=(p.map txt).flatten++r∧p.length=k
 |0,l,p,r,h=>by
  injection h with h1 h2
  injection h2 with h2
  subst h1 h2
  exact⟨rfl,rfl⟩
 |k+1,l,p,r,h=>by
  have hk:(rdK (some l) k).2≠none:=fun hn=>by
   have:=kl hn (k+1) (by omega);rw[h]at this;cases this
  obtain⟨r1,e1⟩:=gt hk;obtain⟨i1,i2⟩:=tB k l _ r1 e1;unfold rdK at h;rw[e1]at h;dsimp only at h;injection h with h1 h2
  obtain⟨j1,-⟩:=eB (m:=32) (l:=r1) (r:=r) (x:=(am 32 (some r1)).1) (by omega) (Prod.ext rfl h2);refine⟨?_,by rw[←h1];simp[kE]⟩
  conv=>lhs;rw[i1,j1]
  rw[←h1,List.map_append,List.flatten_append,List.append_assoc];simp[fZ]
theorem ml {l r:List UInt8}{p:List ByteArray}(h:bj (some l)=(p,some r)):l=dX p++r:=by
 unfold bj at h
 have hc:(ae 8 (some l)).2≠none:=fun hn=>by
  have h0:(rdK (ae 8 (some l)).2 0).2=none:=hn;have:=kl h0 (ae 8 (some l)).1 (by omega);rw[h]at this;cases this
 obtain⟨r1,e1⟩:=gt hc;rw[e1]at h;obtain⟨i1,-⟩:=dx (m:=8) (by omega) e1;obtain⟨j1,j2⟩:=tB _ _ _ _ h;unfold dX;rw[j2,List.append_assoc,←j1];exact i1
theorem oU {l r:List UInt8}{t:VT}(hl:l.length≤9223372036854775807)(h:aQ (some l)=(t,some r)):l=fg t++r∧bh t=0:=by
 rw[ez]at h
 cases hs:gw l with
 |none=>rw[hs]at h;injection h with h1 h2;cases h2
 |some q=>
  obtain⟨t',r'⟩:=q;rw[hs]at h;injection h with h1 h2
  injection h2 with h2
  subst h1 h2;obtain⟨-,-,e,-,hc⟩:=jT hs hl;exact⟨by unfold fg;rw[if_pos hc];exact e,hc⟩
theorem xF {l r:List UInt8}{d:aU}(hl:l.length≤9223372036854775807)(h:rdD (some l)=(d,some r))(hm:cl d=true):l=bV d++r:=by
 have hb:(ak (some l)).2≠none:=fun hn=>by
  have:=kP;unfold rdD at h;rw[hn]at h
  split at h
  ·injection h with h1 h2
   rw[this]at h2;cases h2
  ·split at h
   ·injection h with h1 h2
    rw[this]at h2;have h3:ae 999 none=(0,none):=by unfold ae;split<;>rfl
    rw[h3]at h2;cases h2
   ·injection h with h1 h2
    rw[this]at h2;cases h2
 obtain⟨r1,e1⟩:=gt hb;obtain⟨i1,i2⟩:=eA e1;have hl1:r1.length≤l.length:=by rw[i1];simp
 obtain⟨k,ek⟩: ∃k,k=(ak (some l)).1:=⟨_,rfl⟩;rw[←ek]at e1 i1 i2
 have hp:(bj (some r1)).2≠none:=fun hn=>by
  unfold rdD at h;rw[e1]at h;dsimp only at h;rw[hn]at h
  split at h
  ·injection h with h1 h2
   cases h2
  ·split at h
   ·injection h with h1 h2
    have h3:ae 999 none=(0,none):=by unfold ae;split<;>rfl
    rw[h3]at h2;cases h2
   ·injection h with h1 h2
    cases h2
 obtain⟨r2,e2⟩:=gt hp;obtain⟨p,ep⟩: ∃p,p=(bj (some r1)).1:=⟨_,rfl⟩;rw[←ep]at e2;have j1:=ml e2;have hl2:r2.length≤r1.length:=by rw[j1];simp
 unfold rdD at h;rw[e1]at h;dsimp only at h;rw[e2]at h;dsimp only at h;have hcons:l= [UInt8.ofNat k]++(dX p++r2):=by rw[i1,j1];rfl
 by_cases k1:k=1
 ·subst k1;rw[if_pos rfl]at h;injection h with h1 h2
  obtain⟨q,-⟩:=oU (l:=r2) (r:=r) (t:=(aQ (some r2)).1) (by omega) (Prod.ext rfl h2);rw[←h1];unfold bV;dsimp only;rw[if_pos rfl,hcons]
  conv=>lhs;rw[q]
  simp
 ·rw[if_neg k1]at h;by_cases k3:k=3
  ·subst k3;rw[if_pos rfl]at h;injection h with h1 h2
   obtain⟨q,-⟩:=dx (m:=999) (l:=r2) (r:=r) (n:=(ae 999 (some r2)).1) (by omega) (Prod.ext rfl h2);rw[←h1];unfold bV;dsimp only;rw[if_neg (by omega),if_pos rfl,hcons]
   conv=>lhs;rw[q]
   simp
  ·rw[if_neg k3]at h;injection h with h1 h2
   injection h2 with h2
   subst h2;rw[←h1];unfold bV;dsimp only;rw[if_neg (by omega),if_neg (by omega),hcons];simp
theorem ro : ∀(k:Nat) (l:List UInt8) (ds:List aU) (r:List UInt8),l.length≤9223372036854775807→bL (some l) k=(ds,some r)→(∀d∈ds,cl d=true)→l=(ds.map bV).flatten++r∧ds.length=k
 |0,l,ds,r,_,h,_=>by
  injection h with h1 h2
  injection h2 with h2
  subst h1 h2
  exact⟨rfl,rfl⟩
 |k+1,l,ds,r,hl,h,hm=>by
  unfold bL at h;injection h with h1 h2
  have hk:(bL (some l) k).2≠none:=fun hn=>by
   rw[hn,pq]at h2;cases h2
  obtain⟨r1,e1⟩:=gt hk;obtain⟨i1,i2⟩:=ro k l _ r1 hl e1 (fun d hd=>hm d (by rw[←h1];exact List.mem_append_left _ hd));have hl1:r1.length≤l.length:=by rw[i1,List.length_append];omega
  rw[e1]at h1 h2;dsimp only at h1 h2;have j1:=xF (l:=r1) (r:=r) (d:=(rdD (some r1)).1) (by omega) (Prod.ext rfl h2) (hm _ (by rw[←h1];simp));refine⟨?_,by rw[←h1];simp[i2]⟩
  conv=>lhs;rw[i1,j1]
  rw[←h1,List.map_append,List.flatten_append,List.append_assoc];simp
theorem xo {l r:List UInt8}{ds:List aU}(hl:l.length≤9223372036854775807)(h:cU (some l)=(ds,some r)):l=dR ds++r∧bK ds=0:=by
 cases e:(bL (ae 64 (some l)).2 (ae 64 (some l)).1).2 with
 |none=>rw[fD e]at h;injection h with h1 h2;cases h2
 |some r1=>
  rw[ie e]at h;by_cases hc:bK (bL (ae 64 (some l)).2 (ae 64 (some l)).1).1=0
  ·rw[if_pos hc]at h;injection h with h1 h2
   injection h2 with h2
   subst h2;rw[h1]at hc
   have hcn:(ae 64 (some l)).2≠none:=fun hn=>by
    rw[hn]at e
    have: ∀k,(bL none k).2=none:=fun k=>by
     induction k with
     |zero=>rfl
     |succ k ih=>unfold bL;dsimp only;rw[ih];exact pq
    rw[this]at e;cases e
   obtain⟨r2,e2⟩:=gt hcn;obtain⟨i1,-⟩:=dx (m:=64) (by omega) e2;have hl2:r2.length≤l.length:=by rw[i1,List.length_append];omega
   rw[e2]at e h1;dsimp only at e h1;obtain⟨j1,j2⟩:=ro _ r2 ds r1 (by omega) (Prod.ext h1 e) (fO hc).2;refine⟨?_,hc⟩;unfold dR;rw[if_pos hc,List.append_assoc,←j1,j2];exact i1
  ·rw[if_neg hc]at h;injection h with h1 h2
   cases h2
end Go.Proofs.YtgfidiocmiolpaaGreat
