/- Which messages may be, by the document. -/
import Derived.Test.YtgfidiocmiolpaaGreatKMgV
import Derived.Test.YtgfidiocmiolpaaGreatKCodX
import Derived.Test.YtgfidiocmiolpaaGreatKCodM
set_option maxHeartbeats 64000000
set_option maxRecDepth 100000
set_option linter.unusedVariables false
set_option linter.unusedSimpArgs false
namespace Go.Proofs.YtgfidiocmiolpaaGreat
open Lib (hid)
open Go.RowKit
theorem qj {m:bM}(h:fS m.kind=false):cx m=false:=by unfold cx;rw[h];rfl
theorem kc {m:bM}(h:iS m=false):cx m=false:=by unfold cx;rw[h];simp
theorem tC {m:bM}(h: ¬(1≤m.term∧m.term≤1099511627776)):cx m=false:=by
  unfold cx;by_cases h1:1≤m.term
  · rw[decide_eq_false (p:=m.term≤1099511627776) (fun h2=>h ⟨h1,h2⟩)];simp
  · rw[decide_eq_false h1];simp
theorem lS {m:bM}(h:dW m=false):cx m=false:=by unfold cx;rw[h];simp
theorem km {m:bM}(h: ¬(0≤m.frm∧m.frm≤6)∨ ¬(0≤m.tgt∧m.tgt≤6)∨m.frm=m.tgt):iS m=false:=by
  unfold iS iW;rw[Bool.eq_false_iff];intro hh;simp only[Bool.and_eq_true,decide_eq_true_eq]at hh;omega
theorem xH {m:bM}(h1:fS m.kind=true)(h2:0≤m.frm∧m.frm≤6)(h3:0≤m.tgt∧m.tgt≤6)(h4: ¬m.frm=m.tgt)(h5:1≤m.term∧m.term≤1099511627776)(h6:dW m=true):cx m=ky m:=by
  have ha:iS m=true:=by
    unfold iS iW;simp only[Bool.and_eq_true,decide_eq_true_eq];omega
  unfold cx;rw[h1,ha,decide_eq_true h5.1,decide_eq_true h5.2,h6];rfl
theorem gG (S:Nat→Prop)(m:bM)(EA:Option Addr)(ec:Nat)(SA:Option Addr)(sc:Nat)(w:World)(hS: ∀b,S b→b<w.heap.size)(h:bF w S m EA ec SA sc)(hd: ∀e∈m.ents,SmE e):
    Calls Tryz.prog 10 #[.agg #[.int .i64 m.kind,.int .i64 m.frm,.int .i64 m.tgt,.int .i64 m.term,.int .i64 m.index,.int .i64 m.logTerm,.int .i64 m.commit,.int .i64 m.round,.bool m.ok,.slice EA m.ents.length ec,.slice SA m.snap.length sc]] w fun r w'=>r= .returned (.bool (cx m))∧Below w.heap.size w w':=by
  obtain⟨w1,hw1⟩: ∃W,W=w.alloc (.cells #[.int .i64 m.kind,.int .i64 m.frm,.int .i64 m.tgt,.int .i64 m.term,.int .i64 m.index,.int .i64 m.logTerm,.int .i64 m.commit,.int .i64 m.round,.bool m.ok,.slice EA m.ents.length ec,.slice SA m.snap.length sc] 25):=⟨_,rfl⟩;have hb1:Below w.heap.size w w1:=by rw[hw1];exact af _
  have HB1:=hid hb1;have HK1:Hid (ct w1 w.heap.size m EA ec SA sc):=hid (by rw[hw1];exact heap_alloc_new w _);have HA:=hid h;have HS:=hid hS;have HD:=hid hd;obtain⟨r,hr⟩: ∃r,r=cx m:=⟨_,rfl⟩;rw[←hr];have HR:=hid hr;clear hr hb1 h hS hd;go_enter Tryz.func10,Tryz.ntmps10;go_wp2_with fail;rw[←hw1];clear hw1;refine(nw m.kind w1).mono ?_;rintro q w2 ⟨rfl,hb⟩;have HB2:=hid (HB1.out.trans (hb.mono HB1.out.size));have HK2:=hid (HK1.out.below hb);clear hb HB1 HK1;obtain⟨w3,hw3⟩: ∃W,W=w2.alloc (.cells #[.bool (bw m.kind),.bool (dG m.kind),.bool (aY m.kind),.bool (bI m.kind),.bool (hOk m.kind),.bool (bJ m.kind),.bool (bZ m.kind)] 51):=⟨_,rfl⟩;have hb3:Below w2.heap.size w2 w3:=by rw[hw3];exact af _
  have HB3:=hid (HB2.out.trans (hb3.mono HB2.out.size));have HK3:=hid (HK2.out.below hb3);obtain⟨g,hg⟩: ∃g,g=w2.heap.size:=⟨_,rfl⟩;have HH3:Hid (w3.heap[g]? =some (.cells #[.bool (bw m.kind),.bool (dG m.kind),.bool (aY m.kind),.bool (bI m.kind),.bool (hOk m.kind),.bool (bJ m.kind),.bool (bZ m.kind)] 51 (0,0))):=hid (by rw[hw3,hg];exact heap_alloc_new w2 _);have HGL:Hid (g<w3.heap.size):=hid (by rw[hw3,hg];simp);have y1:(w2.alloc (.cells #[.bool (bw m.kind),.bool (dG m.kind),.bool (aY m.kind),.bool (bI m.kind),.bool (hOk m.kind),.bool (bJ m.kind),.bool (bZ m.kind)] 51)).cell? ⟨w.heap.size,1,none⟩=some (.int .i64 m.frm):=by rw[←hw3];exact HK3.out.g1
  have y2:(w2.alloc (.cells #[.bool (bw m.kind),.bool (dG m.kind),.bool (aY m.kind),.bool (bI m.kind),.bool (hOk m.kind),.bool (bJ m.kind),.bool (bZ m.kind)] 51)).cell? ⟨w.heap.size,2,none⟩=some (.int .i64 m.tgt):=by rw[←hw3];exact HK3.out.g2
  have y3:(w2.alloc (.cells #[.bool (bw m.kind),.bool (dG m.kind),.bool (aY m.kind),.bool (bI m.kind),.bool (hOk m.kind),.bool (bJ m.kind),.bool (bZ m.kind)] 51)).cell? ⟨w.heap.size,3,none⟩=some (.int .i64 m.term):=by rw[←hw3];exact HK3.out.g3
  have y4:(w2.alloc (.cells #[.bool (bw m.kind),.bool (dG m.kind),.bool (aY m.kind),.bool (bI m.kind),.bool (hOk m.kind),.bool (bJ m.kind),.bool (bZ m.kind)] 51)).cell? ⟨w.heap.size,4,none⟩=some (.int .i64 m.index):=by rw[←hw3];exact HK3.out.g4
  have x0:(w2.alloc (.cells #[.bool (bw m.kind),.bool (dG m.kind),.bool (aY m.kind),.bool (bI m.kind),.bool (hOk m.kind),.bool (bJ m.kind),.bool (bZ m.kind)] 51)).cell? ⟨w2.heap.size,0,none⟩=some (.bool (bw m.kind)):=Go.Joins.cell_of_block (heap_alloc_new w2 _) 0;clear hb3;have HB4:Hid (Below w.heap.size w (w2.alloc (.cells #[.bool (bw m.kind),.bool (dG m.kind),.bool (aY m.kind),.bool (bI m.kind),.bool (hOk m.kind),.bool (bJ m.kind),.bool (bZ m.kind)] 51))):=hid (by rw[←hw3];exact HB3.out);cases hkn:fS m.kind
  · have HE:Hid (r=false):=hid (HR.out.trans (qj hkn))
    go_wp2_with fail;go_ret;exact⟨by rw[HE.out]<;>rfl,HB4.out⟩
  have HKN:=hid hkn;clear hkn;by_cases c:m.frm<0
  · have d0:decide (m.frm<0)=true:=decide_eq_true c
    have HE:Hid (r=false):=hid (HR.out.trans (kc (km (.inl (by omega)))));clear c;go_wp2_with fail;go_ret;exact⟨by rw[HE.out]<;>rfl,HB4.out⟩
  have d0:decide (m.frm<0)=false:=decide_eq_false c;have C0:=hid c;clear c;by_cases c:m.frm>6
  · have d1:decide (m.frm>6)=true:=decide_eq_true c
    have HE:Hid (r=false):=hid (HR.out.trans (kc (km (.inl (by omega)))));clear c;go_wp2_with fail;go_ret;exact⟨by rw[HE.out]<;>rfl,HB4.out⟩
  have d1:decide (m.frm>6)=false:=decide_eq_false c;have C1:=hid c;clear c;by_cases c:m.tgt<0
  · have d2:decide (m.tgt<0)=true:=decide_eq_true c
    have HE:Hid (r=false):=hid (HR.out.trans (kc (km (.inr (.inl (by omega))))));clear c;go_wp2_with fail;go_ret;exact⟨by rw[HE.out]<;>rfl,HB4.out⟩
  have d2:decide (m.tgt<0)=false:=decide_eq_false c;have C2:=hid c;clear c;by_cases c:m.tgt>6
  · have d3:decide (m.tgt>6)=true:=decide_eq_true c
    have HE:Hid (r=false):=hid (HR.out.trans (kc (km (.inr (.inl (by omega))))));clear c;go_wp2_with fail;go_ret;exact⟨by rw[HE.out]<;>rfl,HB4.out⟩
  have d3:decide (m.tgt>6)=false:=decide_eq_false c;have C3:=hid c;clear c;by_cases c:m.frm=m.tgt
  · have d4:(m.frm == m.tgt)=true:=beq_iff_eq.2 c
    have HE:Hid (r=false):=hid (HR.out.trans (kc (km (.inr (.inr c)))));clear c;go_wp2_with fail;go_ret;exact⟨by rw[HE.out]<;>rfl,HB4.out⟩
  have d4:(m.frm == m.tgt)=false:=beq_false_of_ne c;have C4:=hid c;clear c;by_cases c:m.term<1
  · have d5:decide (m.term<1)=true:=decide_eq_true c
    have HE:Hid (r=false):=hid (HR.out.trans (tC (by omega)));clear c;go_wp2_with fail;go_ret;exact⟨by rw[HE.out]<;>rfl,HB4.out⟩
  have d5:decide (m.term<1)=false:=decide_eq_false c;have C5:=hid c;clear c;by_cases c:m.term>1099511627776
  · have d6:decide (m.term>1099511627776)=true:=decide_eq_true c
    have HE:Hid (r=false):=hid (HR.out.trans (tC (by omega)));clear c;go_wp2_with fail;go_ret;exact⟨by rw[HE.out]<;>rfl,HB4.out⟩
  have d6:decide (m.term>1099511627776)=false:=decide_eq_false c;have C6:=hid c;clear c;have HYES:=hid (fun h6=>HR.out.trans (xH HKN.out (by have:=C0.out;have:=C1.out;omega) (by have:=C2.out;have:=C3.out;omega) C4.out (by have:=C5.out;have:=C6.out;omega) h6));go_wp2_with fail;rw[←hw3,←hg];clear hw3 hg y1 y2 y3 y4 x0 d0 d1 d2 d3 d4 d5 d6 C0 C1 C2 C3 C4 C5 C6 HB4 HB2 HK2;refine(fH m.index (bw m.kind) w3).mono ?_;rintro q u ⟨rfl,hw⟩;replace hw:=hw.symm;subst hw;have z5:=HK3.out.g5;have v1:w3.cell? ⟨g,1,none⟩=some (.bool (dG m.kind)):=Go.Joins.cell_of_block HH3.out 1;cases c0:dT m.index (bw m.kind)
  · have HE:Hid (r=false):=hid (HR.out.trans (lS (by unfold dW;rw[c0];simp)))
    go_wp2_with fail;go_ret;exact⟨by rw[HE.out]<;>rfl,HB3.out⟩
  have N0:=hid c0;clear c0;go_wp2_with fail;refine(fH m.logTerm (dG m.kind) w3).mono ?_;rintro q u ⟨rfl,hw⟩;replace hw:=hw.symm;subst hw;have z6:=HK3.out.g6;have v2:w3.cell? ⟨g,2,none⟩=some (.bool (aY m.kind)):=Go.Joins.cell_of_block HH3.out 2;cases c1:dT m.logTerm (dG m.kind)
  · have HE:Hid (r=false):=hid (HR.out.trans (lS (by unfold dW;rw[c1];simp)))
    go_wp2_with fail;go_ret;exact⟨by rw[HE.out]<;>rfl,HB3.out⟩
  have N1:=hid c1;clear c1;go_wp2_with fail;refine(fH m.commit (aY m.kind) w3).mono ?_;rintro q u ⟨rfl,hw⟩;replace hw:=hw.symm;subst hw;have z7:=HK3.out.g7;have v3:w3.cell? ⟨g,3,none⟩=some (.bool (bI m.kind)):=Go.Joins.cell_of_block HH3.out 3;cases c2:dT m.commit (aY m.kind)
  · have HE:Hid (r=false):=hid (HR.out.trans (lS (by unfold dW;rw[c2];simp)))
    go_wp2_with fail;go_ret;exact⟨by rw[HE.out]<;>rfl,HB3.out⟩
  have N2:=hid c2;clear c2;go_wp2_with fail;refine(fH m.round (bI m.kind) w3).mono ?_;rintro q u ⟨rfl,hw⟩;replace hw:=hw.symm;subst hw;have z8:=HK3.out.g8;have v4:w3.cell? ⟨g,4,none⟩=some (.bool (hOk m.kind)):=Go.Joins.cell_of_block HH3.out 4;have z9:=HK3.out.g9;have v5:w3.cell? ⟨g,5,none⟩=some (.bool (bJ m.kind)):=Go.Joins.cell_of_block HH3.out 5;cases c3:dT m.round (bI m.kind)
  · have HE:Hid (r=false):=hid (HR.out.trans (lS (by unfold dW;rw[c3];simp)))
    go_wp2_with fail;go_ret;exact⟨by rw[HE.out]<;>rfl,HB3.out⟩
  have N3:=hid c3;clear c3;have HE0:Hid (r=ky m):=hid (HYES.out (by unfold dW;rw[N0.out,N1.out,N2.out,N3.out];rfl));clear HYES N0 N1 N2 N3 z5 z6 z7 v1 v2 v3;have HR2:Hid (r=((hOk m.kind || !m.ok) && decide (m.ents.length≤if bJ m.kind then 8 else 0) && decide (m.snap.length≤if bZ m.kind then 65536 else 0) && (!bZ m.kind || decide (0<m.snap.length)) && m.ents.all bT)):=HE0;obtain⟨co,hco⟩: ∃c,c=hOk m.kind:=⟨_,rfl⟩;obtain⟨ce,hce⟩: ∃c,c=bJ m.kind:=⟨_,rfl⟩;obtain⟨cn,hcn⟩: ∃c,c=bZ m.kind:=⟨_,rfl⟩;obtain⟨mo,hmo⟩: ∃c,c=m.ok:=⟨_,rfl⟩;obtain⟨n1,hn1⟩: ∃c,c=m.ents.length:=⟨_,rfl⟩;obtain⟨n2,hn2⟩: ∃c,c=m.snap.length:=⟨_,rfl⟩;have HN1:=hid hn1;have HMB:Hid (∀W,ct W w.heap.size m EA ec SA sc→W.cell? ⟨w.heap.size,9,none⟩=some (.slice EA n1 ec)∧W.cell? ⟨w.heap.size,10,none⟩=some (.slice SA n2 sc)):=hid fun W hW=>by rw[hn1,hn2];exact⟨hW.g9,hW.g10⟩
  rw[←hco,←hce,←hcn,←hmo,←hn1,←hn2]at HR2;rw[←hmo]at z8;rw[←hco]at v4;rw[←hn1]at z9;rw[←hce]at v5;rw[←hcn]at HH3;clear hco hce hcn hmo hn1 hn2 HE0;have a1:(mo=true∧co=false)∨mo=false∨(mo=true∧co=true):=by cases mo<;>cases co<;>simp
  rcases a1 with ⟨rfl,rfl⟩|rfl|⟨rfl,rfl⟩
  · have HE:Hid (r=false):=hid (by rw[HR2.out];rfl)
    go_wp2_with fail;go_ret;exact⟨by rw[HE.out]<;>rfl,HB3.out⟩
  all_goals(
    have HR3:Hid (r=(decide (n1≤if ce then 8 else 0) && decide (n2≤if cn then 65536 else 0) && (!cn || decide (0<n2)) && m.ents.all bT)):=hid (by rw[HR2.out];simp);clear HR2
    have a2:(n1=0)∨((∃k,n1=k+1)∧ce=false)∨((∃k,n1=k+1)∧ce=true∧8<n1)∨((∃k,n1=k+1)∧ce=true∧n1≤8):=by
      cases n1
      · exact .inl rfl
      · cases ce
        · exact .inr (.inl ⟨⟨_,rfl⟩,rfl⟩)
        · next k=>by_cases h:8<k+1
                  · exact .inr (.inr (.inl ⟨⟨_,rfl⟩,rfl,h⟩))
                  · exact .inr (.inr (.inr ⟨⟨_,rfl⟩,rfl,by omega⟩))
    rcases a2 with h0|⟨⟨k,rfl⟩,rfl⟩|⟨⟨k,rfl⟩,rfl,h8⟩|⟨⟨k,rfl⟩,rfl,h8⟩
    rotate_left
    · have HE:Hid (r=false):=hid (by rw[HR3.out];rfl)
      go_wp2_with fail;go_ret;exact⟨by rw[HE.out]<;>rfl,HB3.out⟩
    · have HE:Hid (r=false):=hid (by rw[HR3.out,decide_eq_false (p:=k+1≤if true=true then 8 else 0) (by simp;omega)];rfl)
      have g1:(8:Int)<(k:Int)+1:=by omega
      have g2: ¬((k:Int)+1≤8):=by omega
      clear h8;go_wp2_with fail;go_ret;exact⟨by rw[HE.out]<;>rfl,HB3.out⟩
    rotate_left
    · subst h0
      have HR4:Hid (r=(decide (n2≤if cn then 65536 else 0) && (!cn || decide (0<n2)) && m.ents.all bT)):=hid (by rw[HR3.out];simp);clear HR3;go_wp2_with fail;obtain⟨nn,hnn⟩: ∃n,n=m.ents.length:=⟨_,rfl⟩;have HNN:=hid hnn;have HMB2:Hid (∀W,ct W w.heap.size m EA ec SA sc→W.cell? ⟨w.heap.size,9,none⟩=some (.slice EA nn ec)∧W.cell? ⟨w.heap.size,10,none⟩=some (.slice SA n2 sc)):=hid fun W hW=>⟨by rw[hnn];exact hW.g9,(HMB.out W hW).2⟩;have hnl:nn≤567493904640:=by have:=HA.out.elen;omega
      clear hnn z8 z9 v4 v5 HMB HN1
      go_loopw [5] (fun i wr=> ∃j:Nat,i= .int .i64 j∧j≤nn∧Hid (∀i (h:i<m.ents.length),i<j→bT m.ents[i]=true)∧Hid (Below w.heap.size w wr)∧Hid (ct wr w.heap.size m EA ec SA sc)∧Hid (g<wr.heap.size)∧Hid (wr.heap[g]? =some (.cells #[.bool (bw m.kind),.bool (dG m.kind),.bool (aY m.kind),.bool (bI m.kind),.bool (hOk m.kind),.bool (bJ m.kind),.bool cn] 51 (0,0)))) (fun i _=>nn - (intOf i).toNat)
      case atStart=>exact⟨0,rfl,by omega,hid fun i _ h=>absurd h (by omega),HB3,HK3,HGL,HH3⟩
      case round=>
        clear HB3 HK3 HGL HH3;obtain⟨j,rfl,hj,HM,HB,HK,HG,HH⟩:=hrel;have z9:=(HMB2.out _ HK.out).1;by_cases hlt:j<nn
        · have dl:decide ((j:Int)<(nn:Int))=true:=decide_eq_true (by omega)
          have hjl:j<m.ents.length:=by have:=HNN.out;omega
          obtain⟨b,off,cs,hA,hb,hrg,hcz,he⟩:=dZ.at (HA.out.below HS.out HB.out).ents j hjl;obtain⟨IA,ic,IA',ic',DA,dc,DA',dc',LA,lc,hcs,hat⟩:=he.at;have hcs':cs= [.int .i64 m.ents[j].term,.int .i64 m.ents[j].kind,.string m.ents[j].coll,.string m.ents[j].to,.int .i64 m.ents[j].id.kind,.int .i64 m.ents[j].id.num,.string m.ents[j].id.text,.slice IA m.ents[j].id.items.length ic,.slice IA' m.ents[j].id.names.length ic',.int .i64 m.ents[j].doc.kind,.int .i64 m.ents[j].doc.num,.string m.ents[j].doc.text,.slice DA m.ents[j].doc.items.length dc,.slice DA' m.ents[j].doc.names.length dc',.slice LA m.ents[j].dels.length lc,.int .i64 m.ents[j].session,.int .i64 m.ents[j].number]:=by have:=congrArg Array.toList hcs;simpa using this
          subst hcs';have HL:=hid (dP S m.ents[j] _ wr (fun b hb=>Nat.lt_of_lt_of_le (HS.out b hb) HB.out.size) hat.l (HD.out _ (List.getElem_mem hjl)));have HRG:=hid hrg;obtain⟨b',off',rfl,rfl⟩: ∃b' off',b'=b∧off'=off:=⟨_,_,rfl,rfl⟩;subst hA;clear hcs he hcz hat hrg hb;go_wp2_with(refine ex (by rfl) 46 _ rfl b' (off'+j * 17) rfl _ _ HRG.out Tryz.underlying46 rfl (by kernel_rfl) ?_;simp only[acR,Act.put]);refine HL.out.mono ?_;rintro q w5 ⟨rfl,hb⟩;have HB5:=hid (HB.out.trans (hb.mono HB.out.size));have HK5:=hid (HK.out.below hb);have HH5:=hid ((hb.block g HG.out).trans HH.out);have HG5:=hid (Nat.lt_of_lt_of_le HG.out hb.size);clear hb HL HRG z9 HB HK HH HG;cases hme:bT m.ents[j]
          · have HE:Hid (r=false):=hid (by
              rw[HR4.out,show m.ents.all bT=false from by
                rw[Bool.eq_false_iff];intro hh;rw[List.all_eq_true.1 hh _ (List.getElem_mem hjl)]at hme;cases hme]
              simp)
            clear hme;go_wp2_with fail;go_ret;exact⟨by rw[HE.out]<;>rfl,HB5.out⟩
          · have HME:=hid hme
            clear hme;go_wp2_with fail
            go_roundw
            case rel=>exact⟨j+1,by go_num,by omega,hid fun i hi hij=>by
              by_cases e:i=j
              · subst e;exact HME.out
              · exact HM.out i hi (by omega),HB5,HK5,HG5,HH5⟩
            case measure=>simp[intOf];omega
        · have dl:decide ((j:Int)<(nn:Int))=false:=decide_eq_false (by omega)
          have HR5:Hid (r=(decide (n2≤if cn then 65536 else 0) && (!cn || decide (0<n2)))):=hid (by
            rw[HR4.out,show m.ents.all bT=true from List.all_eq_true.2 fun e he=>by
              obtain⟨i,hi,rfl⟩:=List.getElem_of_mem he
              exact HM.out i hi (by have:=HNN.out;omega)]
            simp)
          clear HR4;have z10:=(HMB2.out _ HK.out).2;have v6:wr.cell? ⟨g,6,none⟩=some (.bool cn):=Go.Joins.cell_of_block HH.out 6
          cases n2 with
          |zero=>
            cases cn
            · have HE:Hid (r=true):=hid (by rw[HR5.out];rfl)
              go_wp2_with fail;go_ret;exact⟨by rw[HE.out]<;>rfl,HB.out⟩
            · have HE:Hid (r=false):=hid (by rw[HR5.out];rfl)
              go_wp2_with fail;go_ret
              exact⟨by rw[HE.out]<;>rfl,HB.out⟩
          |succ k2=>
            cases cn
            · have HE:Hid (r=false):=hid (by rw[HR5.out];rfl)
              go_wp2_with fail;go_ret;exact⟨by rw[HE.out]<;>rfl,HB.out⟩
            · by_cases hk:k2+1≤65536
              · have g1:(k2:Int)+1≤65536:=by omega
                have HE:Hid (r=true):=hid (by rw[HR5.out,decide_eq_true (p:=k2+1≤if true=true then 65536 else 0) (by simpa using hk)];simp);clear hk;go_wp2_with fail;go_ret;exact⟨by rw[HE.out]<;>first|rfl|simp[g1],HB.out⟩
              · have g1: ¬((k2:Int)+1≤65536):=by omega
                have HE:Hid (r=false):=hid (by rw[HR5.out,decide_eq_false (p:=k2+1≤if true=true then 65536 else 0) (by simpa using hk)];rfl);clear hk;go_wp2_with fail;go_ret;exact⟨by rw[HE.out]<;>first|rfl|simp[g1],HB.out⟩
    · have HR4:Hid (r=(decide (n2≤if cn then 65536 else 0) && (!cn || decide (0<n2)) && m.ents.all bT)):=hid (by rw[HR3.out,decide_eq_true (p:=k+1≤if true=true then 8 else 0) (by simpa using h8)];rfl)
      have g1: ¬((8:Int)<(k:Int)+1):=by omega
      have g2:(k:Int)+1≤8:=by omega
      clear HR3;go_wp2_with fail;clear g1 g2;obtain⟨nn,hnn⟩: ∃n,n=m.ents.length:=⟨_,rfl⟩;have HNN:=hid hnn;have HMB2:Hid (∀W,ct W w.heap.size m EA ec SA sc→W.cell? ⟨w.heap.size,9,none⟩=some (.slice EA nn ec)∧W.cell? ⟨w.heap.size,10,none⟩=some (.slice SA n2 sc)):=hid fun W hW=>⟨by rw[hnn];exact hW.g9,(HMB.out W hW).2⟩;have hnl:nn≤567493904640:=by have:=HA.out.elen;omega
      clear hnn z8 z9 v4 v5 HMB HN1
      go_loopw [5] (fun i wr=> ∃j:Nat,i= .int .i64 j∧j≤nn∧Hid (∀i (h:i<m.ents.length),i<j→bT m.ents[i]=true)∧Hid (Below w.heap.size w wr)∧Hid (ct wr w.heap.size m EA ec SA sc)∧Hid (g<wr.heap.size)∧Hid (wr.heap[g]? =some (.cells #[.bool (bw m.kind),.bool (dG m.kind),.bool (aY m.kind),.bool (bI m.kind),.bool (hOk m.kind),.bool (bJ m.kind),.bool cn] 51 (0,0)))) (fun i _=>nn - (intOf i).toNat)
      case atStart=>exact⟨0,rfl,by omega,hid fun i _ h=>absurd h (by omega),HB3,HK3,HGL,HH3⟩
      case round=>
        clear HB3 HK3 HGL HH3;obtain⟨j,rfl,hj,HM,HB,HK,HG,HH⟩:=hrel;have z9:=(HMB2.out _ HK.out).1;by_cases hlt:j<nn
        · have dl:decide ((j:Int)<(nn:Int))=true:=decide_eq_true (by omega)
          have hjl:j<m.ents.length:=by have:=HNN.out;omega
          obtain⟨b,off,cs,hA,hb,hrg,hcz,he⟩:=dZ.at (HA.out.below HS.out HB.out).ents j hjl;obtain⟨IA,ic,IA',ic',DA,dc,DA',dc',LA,lc,hcs,hat⟩:=he.at;have hcs':cs= [.int .i64 m.ents[j].term,.int .i64 m.ents[j].kind,.string m.ents[j].coll,.string m.ents[j].to,.int .i64 m.ents[j].id.kind,.int .i64 m.ents[j].id.num,.string m.ents[j].id.text,.slice IA m.ents[j].id.items.length ic,.slice IA' m.ents[j].id.names.length ic',.int .i64 m.ents[j].doc.kind,.int .i64 m.ents[j].doc.num,.string m.ents[j].doc.text,.slice DA m.ents[j].doc.items.length dc,.slice DA' m.ents[j].doc.names.length dc',.slice LA m.ents[j].dels.length lc,.int .i64 m.ents[j].session,.int .i64 m.ents[j].number]:=by have:=congrArg Array.toList hcs;simpa using this
          subst hcs';have HL:=hid (dP S m.ents[j] _ wr (fun b hb=>Nat.lt_of_lt_of_le (HS.out b hb) HB.out.size) hat.l (HD.out _ (List.getElem_mem hjl)));have HRG:=hid hrg;obtain⟨b',off',rfl,rfl⟩: ∃b' off',b'=b∧off'=off:=⟨_,_,rfl,rfl⟩;subst hA;clear hcs he hcz hat hrg hb;go_wp2_with(refine ex (by rfl) 46 _ rfl b' (off'+j * 17) rfl _ _ HRG.out Tryz.underlying46 rfl (by kernel_rfl) ?_;simp only[acR,Act.put]);refine HL.out.mono ?_;rintro q w5 ⟨rfl,hb⟩;have HB5:=hid (HB.out.trans (hb.mono HB.out.size));have HK5:=hid (HK.out.below hb);have HH5:=hid ((hb.block g HG.out).trans HH.out);have HG5:=hid (Nat.lt_of_lt_of_le HG.out hb.size);clear hb HL HRG z9 HB HK HH HG;cases hme:bT m.ents[j]
          · have HE:Hid (r=false):=hid (by
              rw[HR4.out,show m.ents.all bT=false from by
                rw[Bool.eq_false_iff];intro hh;rw[List.all_eq_true.1 hh _ (List.getElem_mem hjl)]at hme;cases hme]
              simp)
            clear hme;go_wp2_with fail;go_ret;exact⟨by rw[HE.out]<;>rfl,HB5.out⟩
          · have HME:=hid hme
            clear hme;go_wp2_with fail
            go_roundw
            case rel=>exact⟨j+1,by go_num,by omega,hid fun i hi hij=>by
              by_cases e:i=j
              · subst e;exact HME.out
              · exact HM.out i hi (by omega),HB5,HK5,HG5,HH5⟩
            case measure=>simp[intOf];omega
        · have dl:decide ((j:Int)<(nn:Int))=false:=decide_eq_false (by omega)
          have HR5:Hid (r=(decide (n2≤if cn then 65536 else 0) && (!cn || decide (0<n2)))):=hid (by
            rw[HR4.out,show m.ents.all bT=true from List.all_eq_true.2 fun e he=>by
              obtain⟨i,hi,rfl⟩:=List.getElem_of_mem he
              exact HM.out i hi (by have:=HNN.out;omega)]
            simp)
          clear HR4;have z10:=(HMB2.out _ HK.out).2;have v6:wr.cell? ⟨g,6,none⟩=some (.bool cn):=Go.Joins.cell_of_block HH.out 6
          cases n2 with
          |zero=>
            cases cn
            · have HE:Hid (r=true):=hid (by rw[HR5.out];rfl)
              go_wp2_with fail;go_ret;exact⟨by rw[HE.out]<;>rfl,HB.out⟩
            · have HE:Hid (r=false):=hid (by rw[HR5.out];rfl)
              go_wp2_with fail;go_ret
              exact⟨by rw[HE.out]<;>rfl,HB.out⟩
          |succ k2=>
            cases cn
            · have HE:Hid (r=false):=hid (by rw[HR5.out];rfl)
              go_wp2_with fail;go_ret;exact⟨by rw[HE.out]<;>rfl,HB.out⟩
            · by_cases hk:k2+1≤65536
              · have g1:(k2:Int)+1≤65536:=by omega
                have HE:Hid (r=true):=hid (by rw[HR5.out,decide_eq_true (p:=k2+1≤if true=true then 65536 else 0) (by simpa using hk)];simp);clear hk;go_wp2_with fail;go_ret;exact⟨by rw[HE.out]<;>first|rfl|simp[g1],HB.out⟩
              · have g1: ¬((k2:Int)+1≤65536):=by omega
                have HE:Hid (r=false):=hid (by rw[HR5.out,decide_eq_false (p:=k2+1≤if true=true then 65536 else 0) (by simpa using hk)];rfl);clear hk;go_wp2_with fail;go_ret
                exact⟨by rw[HE.out]<;>first|rfl|simp[g1],HB.out⟩)
theorem bY {w:World}{g B:Nat}{st:Option (List UInt8)}(h:RS w g B st):w.cell? ⟨g,1,none⟩=some (.bool st.isNone):=by
 cases st with
 |none=>obtain⟨A,n,c,h⟩:=h;exact Go.Joins.cell_of_block h 1
 |some l=>obtain⟨v,h,_⟩:=h;exact Go.Joins.cell_of_block h 1
theorem cw {w:World}{g B:Nat}{st:Option (List UInt8)}(h:RS w g B st):w.frozen? ⟨g,1,none⟩=false:=by
 cases st with
 |none=>obtain⟨A,n,c,h⟩:=h;exact Go.Joins.unfrozen_of_block h 1
 |some l=>obtain⟨v,h,_⟩:=h;exact Go.Joins.unfrozen_of_block h 1
theorem iR {w:World}{g B:Nat}{st:Option (List UInt8)}(h:RS w g B st):RS (w.setCell ⟨g,1,none⟩ (.bool true)) g B none:=by
 cases st with
 |none=>obtain⟨A,n,c,h⟩:=h;exact⟨A,n,c,fF h⟩
 |some l=>
  obtain⟨v,h,hr⟩:=h;obtain⟨A,cap,hv,-⟩:=hr;subst hv;exact⟨A,l.length,cap,fF h⟩
theorem RS.only {w w':World}{g BB:Nat}{st:Option (List UInt8)}(h:RS w g BB st)(hb: ∀b,b<w.heap.size→b=g∨b<BB→w'.heap[b]? =w.heap[b]?)(hB:BB≤w.heap.size)(ho:w'.os=w.os)(ht:w'.tape=w.tape)(hot:w'.output=w.output)(hz:w.heap.size≤w'.heap.size):RS w' g BB st:=
 h.keep (hb g h.lt (.inl rfl)) ⟨ho,ht,hot,hz,fun b hb'=>hb b (by omega) (.inr hb')⟩
theorem iY {w:World}{g i:Nat}{u:Value}:au w (w.setCell ⟨g,i,none⟩ u) g:=⟨rfl,rfl,rfl,by simp,fun b _ hb=>heap_setCell_other w ⟨g,i,none⟩ b u (fun e=>hb (by rw[e]))⟩
theorem nk {w:World}{g:Nat}(o:Obj):au w (w.alloc o) g:=⟨rfl,rfl,rfl,by simp,fun b hb _=>Below.heap_alloc w o b hb⟩
def za (d g BB:Nat)(st:Option (List UInt8))(w:World)(e:Ending)(w':World):Prop:=
 ∃v t st',e= .returned v∧RS w' g BB st'∧au w w' g∧LV w' (dB w.heap.size w') t v∧Rel d 0 st t st'
def tx (d:Nat):Prop:= ∀(g BB:Nat) (st:Option (List UInt8)) (w:World),RS w g BB st→BB≤g→
 Calls Tryz.prog 110 #[.pointer (some ⟨g,0,none⟩),.int .i64 d] w (za d g BB st w)
structure MR (w w':World)(g BB:Nat)(st:Option (List UInt8)):Prop where
 rb:Box w' w.heap.size (.int .i64 0) (.int .i64 0) (.string ⟨#[]⟩) (.slice none 0 0) (.slice none 0 0)
 src:RS w' g BB st
 only:au w w' g
 size:w.heap.size+1≤w'.heap.size
theorem MR.first {w:World}{g BB:Nat}{st:Option (List UInt8)}(h:RS w g BB st)(hg:BB≤g):MR w (w.alloc (.cells #[.int .i64 0,.int .i64 0,.string ⟨#[]⟩,.slice none 0 0,.slice none 0 0] 43)) g BB st:=
 ⟨Box.new _ _ _ _ _,h.only (fun b hb _=>Below.heap_alloc w _ b hb) (by have:=h.lt;omega) rfl rfl rfl (by simp),nk _,by simp⟩
theorem MR.call {w w1 w2:World}{g BB:Nat}{st st':Option (List UInt8)}(h:MR w w1 g BB st)(hs:RS w2 g BB st')(ho:au w1 w2 g)(hg:g<w.heap.size):MR w w2 g BB st':=
 ⟨cR h.rb ho (by omega),hs,h.only.trans ho,Nat.le_trans h.size ho.size⟩
theorem MR.alloc {w w1:World}{g BB:Nat}{st:Option (List UInt8)}(h:MR w w1 g BB st)(o:Obj)(hg:BB≤g)(hgl:g<w.heap.size):MR w (w1.alloc o) g BB st:=
 ⟨h.rb.alloc o,h.src.only (fun b hb _=>Below.heap_alloc w1 o b hb) (by have:=h.src.lt;omega) rfl rfl rfl (by simp),h.only.trans (nk o),by simp;have:=h.size;omega⟩
theorem MR.set {w w1:World}{g BB vb i:Nat}{u:Value}{st:Option (List UInt8)}(h:MR w w1 g BB st)(hv:w.heap.size+1≤vb)(hg:BB≤g)(hgl:g<w.heap.size):MR w (w1.setCell ⟨vb,i,none⟩ u) g BB st:=by
 have hk: ∀b,b≠vb→(w1.setCell ⟨vb,i,none⟩ u).heap[b]? =w1.heap[b]? :=fun b hb=>heap_setCell_other _ ⟨vb,i,none⟩ b _ hb;refine⟨(hk _ (by omega)).trans h.rb,h.src.only (fun b hb hb'=>hk b (by omega)) (by have:=h.src.lt;omega) rfl rfl rfl (by simp),⟨h.only.os,h.only.tape,h.only.output,by simp;exact h.only.size,fun b hb hbg=>(hk b (by omega)).trans (h.only.block b hb hbg)⟩,by simp;exact h.size⟩
theorem MR.spoil {w w1:World}{g BB:Nat}{st:Option (List UInt8)}(h:MR w w1 g BB st)(hgl:g<w.heap.size):MR w (w1.setCell ⟨g,1,none⟩ (.bool true)) g BB none:=
 h.call (iR h.src) iY hgl
theorem MR.fars {w w1 w2:World}{g BB vb:Nat}{st st':Option (List UInt8)}(h:MR w w1 g BB st)(hs:RS w2 g BB st')(ho:Far vb g w1 w2)(hg:g<w.heap.size)(hv:w.heap.size+1≤vb):MR w w2 g BB st':=by
 have hz:=h.size;refine⟨(ho.block _ (by omega) (by omega)).trans h.rb,hs,⟨ho.os.trans h.only.os,ho.tape.trans h.only.tape,ho.output.trans h.only.output,Nat.le_trans h.only.size ho.size,fun b hb hbg=>(ho.block b (by omega) (fun e=>hbg (by rw[e]))).trans (h.only.block b hb hbg)⟩,Nat.le_trans hz ho.size⟩
theorem ew {w w4:World}{d g BB:Nat}{st st':Option (List UInt8)}{S:Nat→Prop}{t:VT}{c0 c1 c2 c3 c4:Value}(h:MR w w4 g BB st')(hB:BB≤g)(hg:g<w.heap.size)
  (hv:LV w4 S t (.agg #[c0,c1,c2,c3,c4])) (hS: ∀b,S b→w.heap.size+1≤b∧b<w4.heap.size) (hr:Rel d 0 st t st'):
  za d g BB st w (.returned (.agg #[c0,c1,c2,c3,c4])) (cX w4 w.heap.size 0 c0 c1 c2 c3 c4):=by
 have hr5:=eE w4 w.heap.size 0 c0 c1 c2 c3 c4;have hsz:=cK w4 w.heap.size 0 c0 c1 c2 c3 c4;have hz:=h.size;refine⟨_,t,st',rfl,?_,⟨hr5.1.trans h.only.os,hr5.2.1.trans h.only.tape,hr5.2.2.trans h.only.output,by rw[hsz];omega,fun b hb hbg=> ?_⟩,?_,hr⟩
 ·exact h.src.only (fun b hb hb'=>bi _ _ _ _ _ _ _ _ b (by omega)) (by omega) hr5.1 hr5.2.1 hr5.2.2 (by rw[hsz];exact Nat.le_refl _)
 ·rw[bi _ _ _ _ _ _ _ _ b (by omega)];exact h.only.block b hb hbg
 ·refine(hv.keep (w':=_) fun b hb=>bi _ _ _ _ _ _ _ _ b (by have:=hS b hb;omega)).imp fun b hb=> ?_;have:=hS b hb;exact⟨by omega,by rw[hsz];omega⟩
theorem xa (d:Nat)(least:Int){st:Option (List UInt8)}(h:(ak st).2=none)(t:VT):Rel (d+1) least st t none:=by
 intro l u r e hu;subst e;obtain⟨⟨k,s⟩,hp⟩: ∃p,p=ak (some l):=⟨_,rfl⟩;rw[←hp]at h;simp only at h;subst h;unfold rdW at hu;rw[←hp]at hu;cases hu
theorem wf {k i:Int}{s:ByteArray}{l:List VT}{ns:List ByteArray}(h:k<1∨7<k):bE (.mk k i s l ns)=false:=by
 rw[lO]
 have:bf k i s l.length ns=false:=by
  unfold bf;rw[if_neg (by omega),if_neg (by omega),if_neg (by omega),if_neg (by omega),if_neg (by omega),if_neg (by omega)]
 simp only[VT.kind,VT.num,VT.text,VT.items,VT.names];rw[this,Bool.false_and]
theorem qM (d:Nat)(least:Int){st:Option (List UInt8)}{k:Nat}(h:(ak st).1=k)(hk:k<1∨7<k)(t:VT):Rel (d+1) least st t none:=by
 intro l u r e hu;subst e;obtain⟨⟨i,s⟩,hp⟩: ∃p,p=ak (some l):=⟨_,rfl⟩;rw[←hp]at h;simp only at h;subst h
 cases s with
 |none=>
  unfold rdW at hu;rw[←hp]at hu
  cases hu
 |some r1=>
  rw[oX d i (by omega) (by omega) (by omega) (by omega) (by omega) (by omega) hp.symm]at hu;simp only[Option.some.injEq,Prod.mk.injEq]at hu;obtain⟨rfl,-⟩:=hu;exact .inl (wf (by omega))
theorem PV.item {g vb B:Nat}{k:Int}{ts:List VT}{ns:List ByteArray}{VI VN:Value}{S:Nat→Prop}{w w4:World}{xs:List Value}{p cap:Nat}{t:VT}{c0 c1 c2 c3 c4:Value}
  (hpv:PV w B vb k ts ns VI VN S) (hown:w.ownsRow B 43 5 VI ts.length xs)
  (hitems: ∀j (h:j<ts.length),∃c0 c1 c2 c3 c4,(xs.drop (j * 5)).take 5= [c0,c1,c2,c3,c4]∧LV w S ts[j] (.agg #[c0,c1,c2,c3,c4]))
  (hg:g<vb) (hsz:w.heap.size≤w4.heap.size)
  (hold: ∀b,b<w.heap.size→b≠g→b≠vb→some b≠VI.ownBlock→w4.heap[b]? =w.heap[b]?)
  (hp:VI.ownBlock=some p∨w.heap.size≤p)
  (hown4:w4.ownsRow B 43 5 (.slice (some ⟨p,0,none⟩) (ts.length+1) cap) (ts.length+1) (xs++[c0,c1,c2,c3,c4]))
  (hbox:Box w4 vb (.int .i64 k) (.int .i64 0) (.string eS) (.slice (some ⟨p,0,none⟩) (ts.length+1) cap) VN)
  (ht:LV w4 (fun b=>w.heap.size≤b∧b<w4.heap.size∧b≠p) t (.agg #[c0,c1,c2,c3,c4])) (hB:B≤w.heap.size):
  PV w4 B vb k (ts++[t]) ns (.slice (some ⟨p,0,none⟩) (ts.length+1) cap) VN (fun b=>S b∨(w.heap.size≤b∧b<w4.heap.size∧b≠p)):=by
 have hvb:=hpv.vb;have hVN: ∀q,VN.ownBlock=some q→B≤q∧q<w.heap.size:=fun q hq=>World.ownsRow.lt hpv.names q hq;have hap: ∀q,VN.ownBlock=some q→VI.ownBlock≠some q:=fun q hq=>oo hown hpv.names q hq
 have hSk: ∀b,S b→w4.heap[b]? =w.heap[b]? :=fun b hb=>by
  obtain⟨h1,h2,h3,h4⟩:=hpv.new b hb;exact hold b h2 (by omega) (by omega) h3
 refine⟨hbox,?_,?_,hpv.small,?_,hvb⟩
 ·exact pC.more hown hitems hSk (fun _ h=> .inl h) hown4 (ht.imp fun _ h=> .inr h)
 ·refine aM hpv.names fun q hq=> ?_;have:=hVN q hq;exact hold q this.2 (by omega) (by omega) (fun e=>hap q hq e.symm)
 ·rintro b (hb|⟨h1,h2,h3⟩)
  ·obtain⟨h1,h2,h3,h4⟩:=hpv.new b hb;refine⟨h1,by omega,fun e=> ?_,h4⟩;obtain rfl:b=p:=by simpa[Value.ownBlock]using e
   rcases hp with hp|hp
   ·exact h3 hp.symm
   ·omega
  ·refine⟨by omega,h2,fun e=>h3 (by cases e;rfl),fun e=> ?_⟩;have:=hVN b e.symm;omega
end Go.Proofs.YtgfidiocmiolpaaGreat
