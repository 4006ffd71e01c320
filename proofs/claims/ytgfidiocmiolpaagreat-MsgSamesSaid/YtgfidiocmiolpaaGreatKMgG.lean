/- Which messages may be, by the document. -/
import Derived.Test.YtgfidiocmiolpaaGreatKMgV
import Derived.Test.YtgfidiocmiolpaaGreatKTrH
import Derived.Test.YtgfidiocmiolpaaGreatKFive
import Derived.Test.YtgfidiocmiolpaaGreatKCodP
import Derived.Test.YtgfidiocmiolpaaGreatKRefM
import Derived.Test.YtgfidiocmiolpaaGreatKCodG
import Derived.Test.YtgfidiocmiolpaaGreatKDlV
import Derived.Test.YtgfidiocmiolpaaGreatKCpA
import Derived.Test.YtgfidiocmiolpaaGreatKEnV
import Derived.Test.YtgfidiocmiolpaaGreatKEnM
import Derived.Test.YtgfidiocmiolpaaGreatKMgO
set_option maxHeartbeats 64000000
set_option maxRecDepth 100000
set_option linter.unusedVariables false
set_option linter.unusedSimpArgs false
namespace Go.Proofs.YtgfidiocmiolpaaGreat
open Lib (hid)
open Go.RowKit
theorem uX {m:aQ}(h:eq m.kind=false):bK m=false:=by unfold bK;rw[h];rfl
theorem iD {m:aQ}(h:fY m=false):bK m=false:=by unfold bK;rw[h];simp
theorem ro {m:aQ}(h: ¬(1≤m.term∧m.term≤1099511627776)):bK m=false:=by
  unfold bK;by_cases h1:1≤m.term
  · rw[decide_eq_false (p:=m.term≤1099511627776) (fun h2=>h ⟨h1,h2⟩)];simp
  · rw[decide_eq_false h1];simp
theorem jV {m:aQ}(h:cI m=false):bK m=false:=by unfold bK;rw[h];simp
theorem iH {m:aQ}(h: ¬(0≤m.frm∧m.frm≤6)∨ ¬(0≤m.tgt∧m.tgt≤6)∨m.frm=m.tgt):fY m=false:=by
  unfold fY gb;rw[Bool.eq_false_iff];intro hh;simp only[Bool.and_eq_true,decide_eq_true_eq]at hh;omega
theorem vO {m:aQ}(h1:eq m.kind=true)(h2:0≤m.frm∧m.frm≤6)(h3:0≤m.tgt∧m.tgt≤6)(h4: ¬m.frm=m.tgt)(h5:1≤m.term∧m.term≤1099511627776)(h6:cI m=true):bK m=gQ m:=by
  have ha:fY m=true:=by
    unfold fY gb;simp only[Bool.and_eq_true,decide_eq_true_eq];omega
  unfold bK;rw[h1,ha,decide_eq_true h5.1,decide_eq_true h5.2,h6];rfl
theorem ie (S:Nat→Prop)(m:aQ)(EA:Option Addr)(ec:Nat)(SA:Option Addr)(sc:Nat)(w:World)(hS: ∀b,S b→b<w.heap.size)(h:aT w S m EA ec SA sc)(hd: ∀e∈m.ents,SmE e):
    Calls Tryz.prog 10 #[.agg #[.int .i64 m.kind,.int .i64 m.frm,.int .i64 m.tgt,.int .i64 m.term,.int .i64 m.index,.int .i64 m.logTerm,.int .i64 m.commit,.int .i64 m.round,.bool m.ok,.slice EA m.ents.length ec,.slice SA m.snap.length sc]] w fun r w'=>r= .returned (.bool (bK m))∧Below w.heap.size w w':=by
  obtain⟨w1,hw1⟩: ∃W,W=w.alloc (.cells #[.int .i64 m.kind,.int .i64 m.frm,.int .i64 m.tgt,.int .i64 m.term,.int .i64 m.index,.int .i64 m.logTerm,.int .i64 m.commit,.int .i64 m.round,.bool m.ok,.slice EA m.ents.length ec,.slice SA m.snap.length sc] 25):=⟨_,rfl⟩;have hb1:Below w.heap.size w w1:=by rw[hw1];exact ae _
  have HB1:=hid hb1;have HK1:Hid (bx w1 w.heap.size m EA ec SA sc):=hid (by rw[hw1];exact heap_alloc_new w _);have HA:=hid h;have HS:=hid hS;have HD:=hid hd;obtain⟨r,hr⟩: ∃r,r=bK m:=⟨_,rfl⟩;rw[←hr];have HR:=hid hr;clear hr hb1 h hS hd;go_enter Tryz.func10,Tryz.ntmps10;go_wp2_with fail;rw[←hw1];clear hw1;refine(qx m.kind w1).mono ?_;rintro q w2 ⟨rfl,hb⟩;have HB2:=hid (HB1.out.trans (hb.mono HB1.out.size));have HK2:=hid (HK1.out.below hb);clear hb HB1 HK1;obtain⟨w3,hw3⟩: ∃W,W=w2.alloc (.cells #[.bool (bf m.kind),.bool (dq m.kind),.bool (aV m.kind),.bool (bs m.kind),.bool (hOk m.kind),.bool (bi m.kind),.bool (bw m.kind)] 51):=⟨_,rfl⟩;have hb3:Below w2.heap.size w2 w3:=by rw[hw3];exact ae _
  have HB3:=hid (HB2.out.trans (hb3.mono HB2.out.size));have HK3:=hid (HK2.out.below hb3);obtain⟨g,hg⟩: ∃g,g=w2.heap.size:=⟨_,rfl⟩;have HH3:Hid (w3.heap[g]? =some (.cells #[.bool (bf m.kind),.bool (dq m.kind),.bool (aV m.kind),.bool (bs m.kind),.bool (hOk m.kind),.bool (bi m.kind),.bool (bw m.kind)] 51 (0,0))):=hid (by rw[hw3,hg];exact heap_alloc_new w2 _);have HGL:Hid (g<w3.heap.size):=hid (by rw[hw3,hg];simp);have y1:(w2.alloc (.cells #[.bool (bf m.kind),.bool (dq m.kind),.bool (aV m.kind),.bool (bs m.kind),.bool (hOk m.kind),.bool (bi m.kind),.bool (bw m.kind)] 51)).cell? ⟨w.heap.size,1,none⟩=some (.int .i64 m.frm):=by rw[←hw3];exact HK3.out.g1
  have y2:(w2.alloc (.cells #[.bool (bf m.kind),.bool (dq m.kind),.bool (aV m.kind),.bool (bs m.kind),.bool (hOk m.kind),.bool (bi m.kind),.bool (bw m.kind)] 51)).cell? ⟨w.heap.size,2,none⟩=some (.int .i64 m.tgt):=by rw[←hw3];exact HK3.out.g2
  have y3:(w2.alloc (.cells #[.bool (bf m.kind),.bool (dq m.kind),.bool (aV m.kind),.bool (bs m.kind),.bool (hOk m.kind),.bool (bi m.kind),.bool (bw m.kind)] 51)).cell? ⟨w.heap.size,3,none⟩=some (.int .i64 m.term):=by rw[←hw3];exact HK3.out.g3
  have y4:(w2.alloc (.cells #[.bool (bf m.kind),.bool (dq m.kind),.bool (aV m.kind),.bool (bs m.kind),.bool (hOk m.kind),.bool (bi m.kind),.bool (bw m.kind)] 51)).cell? ⟨w.heap.size,4,none⟩=some (.int .i64 m.index):=by rw[←hw3];exact HK3.out.g4
  have x0:(w2.alloc (.cells #[.bool (bf m.kind),.bool (dq m.kind),.bool (aV m.kind),.bool (bs m.kind),.bool (hOk m.kind),.bool (bi m.kind),.bool (bw m.kind)] 51)).cell? ⟨w2.heap.size,0,none⟩=some (.bool (bf m.kind)):=Go.Joins.cell_of_block (heap_alloc_new w2 _) 0;clear hb3;have HB4:Hid (Below w.heap.size w (w2.alloc (.cells #[.bool (bf m.kind),.bool (dq m.kind),.bool (aV m.kind),.bool (bs m.kind),.bool (hOk m.kind),.bool (bi m.kind),.bool (bw m.kind)] 51))):=hid (by rw[←hw3];exact HB3.out);cases hkn:eq m.kind
  · have HE:Hid (r=false):=hid (HR.out.trans (uX hkn))
    go_wp2_with fail;go_ret;exact⟨by rw[HE.out]<;>rfl,HB4.out⟩
  have HKN:=hid hkn;clear hkn;by_cases c:m.frm<0
  · have d0:decide (m.frm<0)=true:=decide_eq_true c
    have HE:Hid (r=false):=hid (HR.out.trans (iD (iH (.inl (by omega)))));clear c;go_wp2_with fail;go_ret;exact⟨by rw[HE.out]<;>rfl,HB4.out⟩
  have d0:decide (m.frm<0)=false:=decide_eq_false c;have C0:=hid c;clear c;by_cases c:m.frm>6
  · have d1:decide (m.frm>6)=true:=decide_eq_true c
    have HE:Hid (r=false):=hid (HR.out.trans (iD (iH (.inl (by omega)))));clear c;go_wp2_with fail;go_ret;exact⟨by rw[HE.out]<;>rfl,HB4.out⟩
  have d1:decide (m.frm>6)=false:=decide_eq_false c;have C1:=hid c;clear c;by_cases c:m.tgt<0
  · have d2:decide (m.tgt<0)=true:=decide_eq_true c
    have HE:Hid (r=false):=hid (HR.out.trans (iD (iH (.inr (.inl (by omega))))));clear c;go_wp2_with fail;go_ret;exact⟨by rw[HE.out]<;>rfl,HB4.out⟩
  have d2:decide (m.tgt<0)=false:=decide_eq_false c;have C2:=hid c;clear c;by_cases c:m.tgt>6
  · have d3:decide (m.tgt>6)=true:=decide_eq_true c
    have HE:Hid (r=false):=hid (HR.out.trans (iD (iH (.inr (.inl (by omega))))));clear c;go_wp2_with fail;go_ret;exact⟨by rw[HE.out]<;>rfl,HB4.out⟩
  have d3:decide (m.tgt>6)=false:=decide_eq_false c;have C3:=hid c;clear c;by_cases c:m.frm=m.tgt
  · have d4:(m.frm == m.tgt)=true:=beq_iff_eq.2 c
    have HE:Hid (r=false):=hid (HR.out.trans (iD (iH (.inr (.inr c)))));clear c;go_wp2_with fail;go_ret;exact⟨by rw[HE.out]<;>rfl,HB4.out⟩
  have d4:(m.frm == m.tgt)=false:=beq_false_of_ne c;have C4:=hid c;clear c;by_cases c:m.term<1
  · have d5:decide (m.term<1)=true:=decide_eq_true c
    have HE:Hid (r=false):=hid (HR.out.trans (ro (by omega)));clear c;go_wp2_with fail;go_ret;exact⟨by rw[HE.out]<;>rfl,HB4.out⟩
  have d5:decide (m.term<1)=false:=decide_eq_false c;have C5:=hid c;clear c;by_cases c:m.term>1099511627776
  · have d6:decide (m.term>1099511627776)=true:=decide_eq_true c
    have HE:Hid (r=false):=hid (HR.out.trans (ro (by omega)));clear c;go_wp2_with fail;go_ret;exact⟨by rw[HE.out]<;>rfl,HB4.out⟩
  have d6:decide (m.term>1099511627776)=false:=decide_eq_false c;have C6:=hid c;clear c;have HYES:=hid (fun h6=>HR.out.trans (vO HKN.out (by have:=C0.out;have:=C1.out;omega) (by have:=C2.out;have:=C3.out;omega) C4.out (by have:=C5.out;have:=C6.out;omega) h6));go_wp2_with fail;rw[←hw3,←hg];clear hw3 hg y1 y2 y3 y4 x0 d0 d1 d2 d3 d4 d5 d6 C0 C1 C2 C3 C4 C5 C6 HB4 HB2 HK2;refine(dT m.index (bf m.kind) w3).mono ?_;rintro q u ⟨rfl,hw⟩;replace hw:=hw.symm;subst hw;have z5:=HK3.out.g5;have v1:w3.cell? ⟨g,1,none⟩=some (.bool (dq m.kind)):=Go.Joins.cell_of_block HH3.out 1;cases c0:cC m.index (bf m.kind)
  · have HE:Hid (r=false):=hid (HR.out.trans (jV (by unfold cI;rw[c0];simp)))
    go_wp2_with fail;go_ret;exact⟨by rw[HE.out]<;>rfl,HB3.out⟩
  have N0:=hid c0;clear c0;go_wp2_with fail;refine(dT m.logTerm (dq m.kind) w3).mono ?_;rintro q u ⟨rfl,hw⟩;replace hw:=hw.symm;subst hw;have z6:=HK3.out.g6;have v2:w3.cell? ⟨g,2,none⟩=some (.bool (aV m.kind)):=Go.Joins.cell_of_block HH3.out 2;cases c1:cC m.logTerm (dq m.kind)
  · have HE:Hid (r=false):=hid (HR.out.trans (jV (by unfold cI;rw[c1];simp)))
    go_wp2_with fail;go_ret;exact⟨by rw[HE.out]<;>rfl,HB3.out⟩
  have N1:=hid c1;clear c1;go_wp2_with fail;refine(dT m.commit (aV m.kind) w3).mono ?_;rintro q u ⟨rfl,hw⟩;replace hw:=hw.symm;subst hw;have z7:=HK3.out.g7;have v3:w3.cell? ⟨g,3,none⟩=some (.bool (bs m.kind)):=Go.Joins.cell_of_block HH3.out 3;cases c2:cC m.commit (aV m.kind)
  · have HE:Hid (r=false):=hid (HR.out.trans (jV (by unfold cI;rw[c2];simp)))
    go_wp2_with fail;go_ret;exact⟨by rw[HE.out]<;>rfl,HB3.out⟩
  have N2:=hid c2;clear c2;go_wp2_with fail;refine(dT m.round (bs m.kind) w3).mono ?_;rintro q u ⟨rfl,hw⟩;replace hw:=hw.symm;subst hw;have z8:=HK3.out.g8;have v4:w3.cell? ⟨g,4,none⟩=some (.bool (hOk m.kind)):=Go.Joins.cell_of_block HH3.out 4;have z9:=HK3.out.g9;have v5:w3.cell? ⟨g,5,none⟩=some (.bool (bi m.kind)):=Go.Joins.cell_of_block HH3.out 5;cases c3:cC m.round (bs m.kind)
  · have HE:Hid (r=false):=hid (HR.out.trans (jV (by unfold cI;rw[c3];simp)))
    go_wp2_with fail;go_ret;exact⟨by rw[HE.out]<;>rfl,HB3.out⟩
  have N3:=hid c3;clear c3;have HE0:Hid (r=gQ m):=hid (HYES.out (by unfold cI;rw[N0.out,N1.out,N2.out,N3.out];rfl));clear HYES N0 N1 N2 N3 z5 z6 z7 v1 v2 v3;have HR2:Hid (r=((hOk m.kind || !m.ok) && decide (m.ents.length≤if bi m.kind then 8 else 0) && decide (m.snap.length≤if bw m.kind then 65536 else 0) && (!bw m.kind || decide (0<m.snap.length)) && m.ents.all bJ)):=HE0;obtain⟨co,hco⟩: ∃c,c=hOk m.kind:=⟨_,rfl⟩;obtain⟨ce,hce⟩: ∃c,c=bi m.kind:=⟨_,rfl⟩;obtain⟨cn,hcn⟩: ∃c,c=bw m.kind:=⟨_,rfl⟩;obtain⟨mo,hmo⟩: ∃c,c=m.ok:=⟨_,rfl⟩;obtain⟨n1,hn1⟩: ∃c,c=m.ents.length:=⟨_,rfl⟩;obtain⟨n2,hn2⟩: ∃c,c=m.snap.length:=⟨_,rfl⟩;have HN1:=hid hn1;have HMB:Hid (∀W,bx W w.heap.size m EA ec SA sc→W.cell? ⟨w.heap.size,9,none⟩=some (.slice EA n1 ec)∧W.cell? ⟨w.heap.size,10,none⟩=some (.slice SA n2 sc)):=hid fun W hW=>by rw[hn1,hn2];exact⟨hW.g9,hW.g10⟩
  rw[←hco,←hce,←hcn,←hmo,←hn1,←hn2]at HR2;rw[←hmo]at z8;rw[←hco]at v4;rw[←hn1]at z9;rw[←hce]at v5;rw[←hcn]at HH3;clear hco hce hcn hmo hn1 hn2 HE0;have a1:(mo=true∧co=false)∨mo=false∨(mo=true∧co=true):=by cases mo<;>cases co<;>simp
  rcases a1 with ⟨rfl,rfl⟩|rfl|⟨rfl,rfl⟩
  · have HE:Hid (r=false):=hid (by rw[HR2.out];rfl)
    go_wp2_with fail;go_ret;exact⟨by rw[HE.out]<;>rfl,HB3.out⟩
  all_goals(
    have HR3:Hid (r=(decide (n1≤if ce then 8 else 0) && decide (n2≤if cn then 65536 else 0) && (!cn || decide (0<n2)) && m.ents.all bJ)):=hid (by rw[HR2.out];simp);clear HR2
    have a2:(n1=0)∨((∃k,n1=k+1)∧ce=false)∨((∃k,n1=k+1)∧ce=true∧8<n1)∨((∃k,n1=k+1)∧ce=true∧n1≤8):=by
      cases n1
      · exact .inl rfl
      · cases ce
        · exact .inr (.inl ⟨⟨_,rfl⟩,rfl⟩)
        · next k=>by_cases h:8<k+1
                  · exact .inr (.inr (.inl ⟨⟨_,rfl⟩,rfl,h⟩))
                  · exact .inr (.inr (.inr ⟨⟨_,rfl⟩,rfl,by omega⟩))
    rcases a2 with h0|⟨⟨k,rfl⟩,rfl⟩|⟨⟨k,rfl⟩,rfl,h8⟩|⟨⟨k,rfl⟩,rfl,h8⟩
    rotate_left
    · have HE:Hid (r=false):=hid (by rw[HR3.out];rfl)
      go_wp2_with fail;go_ret;exact⟨by rw[HE.out]<;>rfl,HB3.out⟩
    · have HE:Hid (r=false):=hid (by rw[HR3.out,decide_eq_false (p:=k+1≤if true=true then 8 else 0) (by simp;omega)];rfl)
      have g1:(8:Int)<(k:Int)+1:=by omega
      have g2: ¬((k:Int)+1≤8):=by omega
      clear h8;go_wp2_with fail;go_ret;exact⟨by rw[HE.out]<;>rfl,HB3.out⟩
    rotate_left
    · subst h0
      have HR4:Hid (r=(decide (n2≤if cn then 65536 else 0) && (!cn || decide (0<n2)) && m.ents.all bJ)):=hid (by rw[HR3.out];simp);clear HR3;go_wp2_with fail;obtain⟨nn,hnn⟩: ∃n,n=m.ents.length:=⟨_,rfl⟩;have HNN:=hid hnn;have HMB2:Hid (∀W,bx W w.heap.size m EA ec SA sc→W.cell? ⟨w.heap.size,9,none⟩=some (.slice EA nn ec)∧W.cell? ⟨w.heap.size,10,none⟩=some (.slice SA n2 sc)):=hid fun W hW=>⟨by rw[hnn];exact hW.g9,(HMB.out W hW).2⟩;have hnl:nn≤567493904640:=by have:=HA.out.elen;omega
      clear hnn z8 z9 v4 v5 HMB HN1
      go_loopw [5] (fun i wr=> ∃j:Nat,i= .int .i64 j∧j≤nn∧Hid (∀i (h:i<m.ents.length),i<j→bJ m.ents[i]=true)∧Hid (Below w.heap.size w wr)∧Hid (bx wr w.heap.size m EA ec SA sc)∧Hid (g<wr.heap.size)∧Hid (wr.heap[g]? =some (.cells #[.bool (bf m.kind),.bool (dq m.kind),.bool (aV m.kind),.bool (bs m.kind),.bool (hOk m.kind),.bool (bi m.kind),.bool cn] 51 (0,0)))) (fun i _=>nn - (intOf i).toNat)
      case atStart=>exact⟨0,rfl,by omega,hid fun i _ h=>absurd h (by omega),HB3,HK3,HGL,HH3⟩
      case round=>
        clear HB3 HK3 HGL HH3;obtain⟨j,rfl,hj,HM,HB,HK,HG,HH⟩:=hrel;have z9:=(HMB2.out _ HK.out).1;by_cases hlt:j<nn
        · have dl:decide ((j:Int)<(nn:Int))=true:=decide_eq_true (by omega)
          have hjl:j<m.ents.length:=by have:=HNN.out;omega
          obtain⟨b,off,cs,hA,hb,hrg,hcz,he⟩:=cp.at (HA.out.below HS.out HB.out).ents j hjl;obtain⟨IA,ic,IA',ic',DA,dc,DA',dc',LA,lc,hcs,hat⟩:=he.at;have hcs':cs= [.int .i64 m.ents[j].term,.int .i64 m.ents[j].kind,.string m.ents[j].coll,.string m.ents[j].to,.int .i64 m.ents[j].id.kind,.int .i64 m.ents[j].id.num,.string m.ents[j].id.text,.slice IA m.ents[j].id.items.length ic,.slice IA' m.ents[j].id.names.length ic',.int .i64 m.ents[j].doc.kind,.int .i64 m.ents[j].doc.num,.string m.ents[j].doc.text,.slice DA m.ents[j].doc.items.length dc,.slice DA' m.ents[j].doc.names.length dc',.slice LA m.ents[j].dels.length lc,.int .i64 m.ents[j].session,.int .i64 m.ents[j].number]:=by have:=congrArg Array.toList hcs;simpa using this
          subst hcs';have HL:=hid (kn S m.ents[j] _ wr (fun b hb=>Nat.lt_of_lt_of_le (HS.out b hb) HB.out.size) hat.l (HD.out _ (List.getElem_mem hjl)));have HRG:=hid hrg;obtain⟨b',off',rfl,rfl⟩: ∃b' off',b'=b∧off'=off:=⟨_,_,rfl,rfl⟩;subst hA;clear hcs he hcz hat hrg hb;go_wp2_with(refine bD (by rfl) 46 _ rfl b' (off'+j * 17) rfl _ _ HRG.out Tryz.underlying46 rfl (by kernel_rfl) ?_;simp only[acR,Act.put]);refine HL.out.mono ?_;rintro q w5 ⟨rfl,hb⟩;have HB5:=hid (HB.out.trans (hb.mono HB.out.size));have HK5:=hid (HK.out.below hb);have HH5:=hid ((hb.block g HG.out).trans HH.out);have HG5:=hid (Nat.lt_of_lt_of_le HG.out hb.size);clear hb HL HRG z9 HB HK HH HG;cases hme:bJ m.ents[j]
          · have HE:Hid (r=false):=hid (by
              rw[HR4.out,show m.ents.all bJ=false from by
                rw[Bool.eq_false_iff];intro hh;rw[List.all_eq_true.1 hh _ (List.getElem_mem hjl)]at hme;cases hme]
              simp)
            clear hme;go_wp2_with fail;go_ret;exact⟨by rw[HE.out]<;>rfl,HB5.out⟩
          · have HME:=hid hme
            clear hme;go_wp2_with fail
            go_roundw
            case rel=>exact⟨j+1,by go_num,by omega,hid fun i hi hij=>by
              by_cases e:i=j
              · subst e;exact HME.out
              · exact HM.out i hi (by omega),HB5,HK5,HG5,HH5⟩
            case measure=>simp[intOf];omega
        · have dl:decide ((j:Int)<(nn:Int))=false:=decide_eq_false (by omega)
          have HR5:Hid (r=(decide (n2≤if cn then 65536 else 0) && (!cn || decide (0<n2)))):=hid (by
            rw[HR4.out,show m.ents.all bJ=true from List.all_eq_true.2 fun e he=>by
              obtain⟨i,hi,rfl⟩:=List.getElem_of_mem he
              exact HM.out i hi (by have:=HNN.out;omega)]
            simp)
          clear HR4;have z10:=(HMB2.out _ HK.out).2;have v6:wr.cell? ⟨g,6,none⟩=some (.bool cn):=Go.Joins.cell_of_block HH.out 6
          cases n2 with
          |zero=>
            cases cn
            · have HE:Hid (r=true):=hid (by rw[HR5.out];rfl)
              go_wp2_with fail;go_ret;exact⟨by rw[HE.out]<;>rfl,HB.out⟩
            · have HE:Hid (r=false):=hid (by rw[HR5.out];rfl)
              go_wp2_with fail;go_ret
              exact⟨by rw[HE.out]<;>rfl,HB.out⟩
          |succ k2=>
            cases cn
            · have HE:Hid (r=false):=hid (by rw[HR5.out];rfl)
              go_wp2_with fail;go_ret;exact⟨by rw[HE.out]<;>rfl,HB.out⟩
            · by_cases hk:k2+1≤65536
              · have g1:(k2:Int)+1≤65536:=by omega
                have HE:Hid (r=true):=hid (by rw[HR5.out,decide_eq_true (p:=k2+1≤if true=true then 65536 else 0) (by simpa using hk)];simp);clear hk;go_wp2_with fail;go_ret;exact⟨by rw[HE.out]<;>first|rfl|simp[g1],HB.out⟩
              · have g1: ¬((k2:Int)+1≤65536):=by omega
                have HE:Hid (r=false):=hid (by rw[HR5.out,decide_eq_false (p:=k2+1≤if true=true then 65536 else 0) (by simpa using hk)];rfl);clear hk;go_wp2_with fail;go_ret;exact⟨by rw[HE.out]<;>first|rfl|simp[g1],HB.out⟩
    · have HR4:Hid (r=(decide (n2≤if cn then 65536 else 0) && (!cn || decide (0<n2)) && m.ents.all bJ)):=hid (by rw[HR3.out,decide_eq_true (p:=k+1≤if true=true then 8 else 0) (by simpa using h8)];rfl)
      have g1: ¬((8:Int)<(k:Int)+1):=by omega
      have g2:(k:Int)+1≤8:=by omega
      clear HR3;go_wp2_with fail;clear g1 g2;obtain⟨nn,hnn⟩: ∃n,n=m.ents.length:=⟨_,rfl⟩;have HNN:=hid hnn;have HMB2:Hid (∀W,bx W w.heap.size m EA ec SA sc→W.cell? ⟨w.heap.size,9,none⟩=some (.slice EA nn ec)∧W.cell? ⟨w.heap.size,10,none⟩=some (.slice SA n2 sc)):=hid fun W hW=>⟨by rw[hnn];exact hW.g9,(HMB.out W hW).2⟩;have hnl:nn≤567493904640:=by have:=HA.out.elen;omega
      clear hnn z8 z9 v4 v5 HMB HN1
      go_loopw [5] (fun i wr=> ∃j:Nat,i= .int .i64 j∧j≤nn∧Hid (∀i (h:i<m.ents.length),i<j→bJ m.ents[i]=true)∧Hid (Below w.heap.size w wr)∧Hid (bx wr w.heap.size m EA ec SA sc)∧Hid (g<wr.heap.size)∧Hid (wr.heap[g]? =some (.cells #[.bool (bf m.kind),.bool (dq m.kind),.bool (aV m.kind),.bool (bs m.kind),.bool (hOk m.kind),.bool (bi m.kind),.bool cn] 51 (0,0)))) (fun i _=>nn - (intOf i).toNat)
      case atStart=>exact⟨0,rfl,by omega,hid fun i _ h=>absurd h (by omega),HB3,HK3,HGL,HH3⟩
      case round=>
        clear HB3 HK3 HGL HH3;obtain⟨j,rfl,hj,HM,HB,HK,HG,HH⟩:=hrel;have z9:=(HMB2.out _ HK.out).1;by_cases hlt:j<nn
        · have dl:decide ((j:Int)<(nn:Int))=true:=decide_eq_true (by omega)
          have hjl:j<m.ents.length:=by have:=HNN.out;omega
          obtain⟨b,off,cs,hA,hb,hrg,hcz,he⟩:=cp.at (HA.out.below HS.out HB.out).ents j hjl;obtain⟨IA,ic,IA',ic',DA,dc,DA',dc',LA,lc,hcs,hat⟩:=he.at;have hcs':cs= [.int .i64 m.ents[j].term,.int .i64 m.ents[j].kind,.string m.ents[j].coll,.string m.ents[j].to,.int .i64 m.ents[j].id.kind,.int .i64 m.ents[j].id.num,.string m.ents[j].id.text,.slice IA m.ents[j].id.items.length ic,.slice IA' m.ents[j].id.names.length ic',.int .i64 m.ents[j].doc.kind,.int .i64 m.ents[j].doc.num,.string m.ents[j].doc.text,.slice DA m.ents[j].doc.items.length dc,.slice DA' m.ents[j].doc.names.length dc',.slice LA m.ents[j].dels.length lc,.int .i64 m.ents[j].session,.int .i64 m.ents[j].number]:=by have:=congrArg Array.toList hcs;simpa using this
          subst hcs';have HL:=hid (kn S m.ents[j] _ wr (fun b hb=>Nat.lt_of_lt_of_le (HS.out b hb) HB.out.size) hat.l (HD.out _ (List.getElem_mem hjl)));have HRG:=hid hrg;obtain⟨b',off',rfl,rfl⟩: ∃b' off',b'=b∧off'=off:=⟨_,_,rfl,rfl⟩;subst hA;clear hcs he hcz hat hrg hb;go_wp2_with(refine bD (by rfl) 46 _ rfl b' (off'+j * 17) rfl _ _ HRG.out Tryz.underlying46 rfl (by kernel_rfl) ?_;simp only[acR,Act.put]);refine HL.out.mono ?_;rintro q w5 ⟨rfl,hb⟩;have HB5:=hid (HB.out.trans (hb.mono HB.out.size));have HK5:=hid (HK.out.below hb);have HH5:=hid ((hb.block g HG.out).trans HH.out);have HG5:=hid (Nat.lt_of_lt_of_le HG.out hb.size);clear hb HL HRG z9 HB HK HH HG;cases hme:bJ m.ents[j]
          · have HE:Hid (r=false):=hid (by
              rw[HR4.out,show m.ents.all bJ=false from by
                rw[Bool.eq_false_iff];intro hh;rw[List.all_eq_true.1 hh _ (List.getElem_mem hjl)]at hme;cases hme]
              simp)
            clear hme;go_wp2_with fail;go_ret;exact⟨by rw[HE.out]<;>rfl,HB5.out⟩
          · have HME:=hid hme
            clear hme;go_wp2_with fail
            go_roundw
            case rel=>exact⟨j+1,by go_num,by omega,hid fun i hi hij=>by
              by_cases e:i=j
              · subst e;exact HME.out
              · exact HM.out i hi (by omega),HB5,HK5,HG5,HH5⟩
            case measure=>simp[intOf];omega
        · have dl:decide ((j:Int)<(nn:Int))=false:=decide_eq_false (by omega)
          have HR5:Hid (r=(decide (n2≤if cn then 65536 else 0) && (!cn || decide (0<n2)))):=hid (by
            rw[HR4.out,show m.ents.all bJ=true from List.all_eq_true.2 fun e he=>by
              obtain⟨i,hi,rfl⟩:=List.getElem_of_mem he
              exact HM.out i hi (by have:=HNN.out;omega)]
            simp)
          clear HR4;have z10:=(HMB2.out _ HK.out).2;have v6:wr.cell? ⟨g,6,none⟩=some (.bool cn):=Go.Joins.cell_of_block HH.out 6
          cases n2 with
          |zero=>
            cases cn
            · have HE:Hid (r=true):=hid (by rw[HR5.out];rfl)
              go_wp2_with fail;go_ret;exact⟨by rw[HE.out]<;>rfl,HB.out⟩
            · have HE:Hid (r=false):=hid (by rw[HR5.out];rfl)
              go_wp2_with fail;go_ret
              exact⟨by rw[HE.out]<;>rfl,HB.out⟩
          |succ k2=>
            cases cn
            · have HE:Hid (r=false):=hid (by rw[HR5.out];rfl)
              go_wp2_with fail;go_ret;exact⟨by rw[HE.out]<;>rfl,HB.out⟩
            · by_cases hk:k2+1≤65536
              · have g1:(k2:Int)+1≤65536:=by omega
                have HE:Hid (r=true):=hid (by rw[HR5.out,decide_eq_true (p:=k2+1≤if true=true then 65536 else 0) (by simpa using hk)];simp);clear hk;go_wp2_with fail;go_ret;exact⟨by rw[HE.out]<;>first|rfl|simp[g1],HB.out⟩
              · have g1: ¬((k2:Int)+1≤65536):=by omega
                have HE:Hid (r=false):=hid (by rw[HR5.out,decide_eq_false (p:=k2+1≤if true=true then 65536 else 0) (by simpa using hk)];rfl);clear hk;go_wp2_with fail;go_ret
                exact⟨by rw[HE.out]<;>first|rfl|simp[g1],HB.out⟩)
def qZ (g:Nat)(a b:World):Prop:=b.heap[g]? =a.heap[g]?
theorem qZ.refl (g:Nat)(w:World):qZ g w w:=rfl
instance (g :Nat) (w:World):Inhabited (cW (qZ g) w):=⟨⟨w,qZ.refl g w⟩⟩
end Go.Proofs.YtgfidiocmiolpaaGreat
/- A message from its code, by the document. (Written by mkmgz.py.) -/
namespace Go.Proofs.YtgfidiocmiolpaaGreat
open Lib (hid)
open Go.RowKit Go.Joins
section
variable {w0 W W':World} {r gH:Nat} {o:Obj} {cs cs':Array Value} {st st':Option (List UInt8)}
end
theorem vq {l:List UInt8}(h:fp (rdM (some l)).2≠0):gK l=cw∧gO l=10:=by
  have hn: ¬(fp (rdM (some l)).2=0∧bK (rdM (some l)).1=true):=fun h'=>h h'.1;exact⟨if_neg hn,if_neg hn⟩
theorem vH {l:List UInt8}(h0:fp (rdM (some l)).2=0)(h:bK (rdM (some l)).1=true):gK l=(rdM (some l)).1∧gO l=0:=⟨if_pos ⟨h0,h⟩,if_pos ⟨h0,h⟩⟩
def wI (r:Nat)(w w':World):Prop:=w'.heap[r]? =w.heap[r]?
instance stayM_inh (r:Nat) (w:World):Inhabited (cW (wI r) w):=⟨⟨w,rfl⟩⟩
theorem aQ.same {a b:aQ}(h0:a.kind=b.kind)(h1:a.frm=b.frm)(h2:a.tgt=b.tgt)(h3:a.term=b.term)(h4:a.index=b.index)(h5:a.logTerm=b.logTerm)(h6:a.commit=b.commit)(h7:a.round=b.round)(h8:a.ok=b.ok)(h9:a.ents=b.ents)(h10:a.snap=b.snap):a=b:=by
 cases a;cases b;simp only at *;subst h0 h1 h2 h3 h4 h5 h6 h7 h8 h9 h10;rfl
theorem cS {a b:aQ}(h: ¬a=b):(false=true)↔a=b:=⟨fun h=>(by cases h),fun h'=>absurd h' h⟩
theorem kv {w:World}{b o:Nat}{cs:List Value}(h:w.rangeAt b o cs)(hb:b<w.heap.size): ∀u,CR w.heap.size w u→u.rangeAt b o cs:=fun v ⟨p,hp⟩=>by
 rw[hp];exact fun j u hu=>(World.cell?_of_block (a:=⟨b,o+j,none⟩) (p.h.block b hb)).trans (h j u hu)
theorem eB {P:Program}{ops:Array Oper}{C:World→Prop}{Q:Act→Prop}{rest:List Oper}{o:Oper}{a:Act}(hP:P=Tryz.prog)(hw:Region.wanted o (yielded ops a.tmps)=true)(x:Operand)(ho:o.op= .load 46 x)
  (g off:Nat) (hx:a.eval x= .pointer (some ⟨g,off,none⟩)) (cs:List Value) (hg: ∀u,C u→u.rangeAt g off cs) (hn:cs.length=17)
  (h:wpQuiet P ops C Q rest (a.put o.dst (.agg cs.toArray))):wpQuiet P ops C Q (o::rest) a:=by
 subst hP;unfold wpQuiet;rw[if_pos hw];refine⟨.agg cs.toArray,fun u hu=> ?_,h⟩;have e:=run_loadVar_mid (P:=Tryz.prog) u g off 46 cs _ (hg u hu) Tryz.underlying46 rfl (by rw[hn];kernel_rfl);unfold Oper.quietAt execOp;simp only[ho,hx,Instr.loadAt,Instr.sureAddr,Sem.run_bind,Sem.run_pure,Result.andThen_ok,e];exact⟨rfl,rfl⟩
theorem lb (S:Nat→Prop)(a:aQ)(es:List aU)(sn:List UInt8)(EA:Option Addr)(ec:Nat)(SA:Option Addr)(sc:Nat)(FA:Option Addr)(fc:Nat)(TA:Option Addr)(tc:Nat)(w:World)(n nb:Nat)(hn:n=a.ents.length)(hnb:nb=es.length)(hS: ∀b,S b→b<w.heap.size)(ha:aT w S a EA ec SA sc)(hb:aT w S { a with ents:=es,snap:=sn } FA fc TA tc):
  Calls Tryz.prog 11 #[.agg #[.int .i64 a.kind,.int .i64 a.frm,.int .i64 a.tgt,.int .i64 a.term,.int .i64 a.index,.int .i64 a.logTerm,.int .i64 a.commit,.int .i64 a.round,.bool a.ok,.slice EA n ec,.slice SA a.snap.length sc],.agg #[.int .i64 a.kind,.int .i64 a.frm,.int .i64 a.tgt,.int .i64 a.term,.int .i64 a.index,.int .i64 a.logTerm,.int .i64 a.commit,.int .i64 a.round,.bool a.ok,.slice FA nb fc,.slice TA sn.length tc]] w fun e w'=>(∃r:Bool,e= .returned (.bool r)∧(r=true↔a.ents=es∧a.snap=sn))∧Below w.heap.size w w':=by
 obtain⟨w2,hw2⟩: ∃W,W=((w.alloc (.cells #[.int .i64 a.kind,.int .i64 a.frm,.int .i64 a.tgt,.int .i64 a.term,.int .i64 a.index,.int .i64 a.logTerm,.int .i64 a.commit,.int .i64 a.round,.bool a.ok,.slice EA n ec,.slice SA a.snap.length sc] 25)).alloc (.cells #[.int .i64 a.kind,.int .i64 a.frm,.int .i64 a.tgt,.int .i64 a.term,.int .i64 a.index,.int .i64 a.logTerm,.int .i64 a.commit,.int .i64 a.round,.bool a.ok,.slice FA nb fc,.slice TA sn.length tc] 25)):=⟨_,rfl⟩;have hz1:(w.alloc (.cells #[.int .i64 a.kind,.int .i64 a.frm,.int .i64 a.tgt,.int .i64 a.term,.int .i64 a.index,.int .i64 a.logTerm,.int .i64 a.commit,.int .i64 a.round,.bool a.ok,.slice EA n ec,.slice SA a.snap.length sc] 25)).heap.size=w.heap.size+1:=by simp
 have hbb:w2.heap[w.heap.size+1]? =some (.cells #[.int .i64 a.kind,.int .i64 a.frm,.int .i64 a.tgt,.int .i64 a.term,.int .i64 a.index,.int .i64 a.logTerm,.int .i64 a.commit,.int .i64 a.round,.bool a.ok,.slice FA nb fc,.slice TA sn.length tc] 25 (0,0)):=by rw[hw2,←hz1];exact heap_alloc_new _ _
 have hba:w2.heap[w.heap.size]? =some (.cells #[.int .i64 a.kind,.int .i64 a.frm,.int .i64 a.tgt,.int .i64 a.term,.int .i64 a.index,.int .i64 a.logTerm,.int .i64 a.commit,.int .i64 a.round,.bool a.ok,.slice EA n ec,.slice SA a.snap.length sc] 25 (0,0)):=by rw[hw2,Below.heap_alloc _ _ _ (by omega)];exact heap_alloc_new _ _
 have h02:Below w.heap.size w w2:=by rw[hw2];exact(ae _).alloc (by omega) _
 have HB2:=hid h02;have HKA2:Hid (w2.heap[w.heap.size]? =some (.cells #[.int .i64 a.kind,.int .i64 a.frm,.int .i64 a.tgt,.int .i64 a.term,.int .i64 a.index,.int .i64 a.logTerm,.int .i64 a.commit,.int .i64 a.round,.bool a.ok,.slice EA n ec,.slice SA a.snap.length sc] 25 (0,0))):=hid hba;have HKB2:Hid (w2.heap[w.heap.size+1]? =some (.cells #[.int .i64 a.kind,.int .i64 a.frm,.int .i64 a.tgt,.int .i64 a.term,.int .i64 a.index,.int .i64 a.logTerm,.int .i64 a.commit,.int .i64 a.round,.bool a.ok,.slice FA nb fc,.slice TA sn.length tc] 25 (0,0))):=hid hbb;have HS:=hid hS;have HA:=hid ha;have HBB:=hid hb;obtain⟨sa,hsa⟩: ∃x:ByteArray,x=⟨a.snap.toArray⟩:=⟨_,rfl⟩;obtain⟨sb,hsb⟩: ∃x:ByteArray,x=⟨sn.toArray⟩:=⟨_,rfl⟩
 have hcA:(convert 23 9 (.slice SA a.snap.length sc)).run Tryz.prog ((w.alloc (.cells #[.int .i64 a.kind,.int .i64 a.frm,.int .i64 a.tgt,.int .i64 a.term,.int .i64 a.index,.int .i64 a.logTerm,.int .i64 a.commit,.int .i64 a.round,.bool a.ok,.slice EA n ec,.slice SA a.snap.length sc] 25)).alloc (.cells #[.int .i64 a.kind,.int .i64 a.frm,.int .i64 a.tgt,.int .i64 a.term,.int .i64 a.index,.int .i64 a.logTerm,.int .i64 a.commit,.int .i64 a.round,.bool a.ok,.slice FA nb fc,.slice TA sn.length tc] 25))= .ok (.string sa) ((w.alloc (.cells #[.int .i64 a.kind,.int .i64 a.frm,.int .i64 a.tgt,.int .i64 a.term,.int .i64 a.index,.int .i64 a.logTerm,.int .i64 a.commit,.int .i64 a.round,.bool a.ok,.slice EA n ec,.slice SA a.snap.length sc] 25)).alloc (.cells #[.int .i64 a.kind,.int .i64 a.frm,.int .i64 a.tgt,.int .i64 a.term,.int .i64 a.index,.int .i64 a.logTerm,.int .i64 a.commit,.int .i64 a.round,.bool a.ok,.slice FA nb fc,.slice TA sn.length tc] 25)):=by
  rw[←hw2,hsa];exact Rd.strY (((ha.below hS h02).snap).rd (fun b hb=>Nat.lt_of_lt_of_le (hS b hb) h02.size) ha.scap ha.s63 ha.snil)
 have hcB:(convert 23 9 (.slice TA sn.length tc)).run Tryz.prog ((w.alloc (.cells #[.int .i64 a.kind,.int .i64 a.frm,.int .i64 a.tgt,.int .i64 a.term,.int .i64 a.index,.int .i64 a.logTerm,.int .i64 a.commit,.int .i64 a.round,.bool a.ok,.slice EA n ec,.slice SA a.snap.length sc] 25)).alloc (.cells #[.int .i64 a.kind,.int .i64 a.frm,.int .i64 a.tgt,.int .i64 a.term,.int .i64 a.index,.int .i64 a.logTerm,.int .i64 a.commit,.int .i64 a.round,.bool a.ok,.slice FA nb fc,.slice TA sn.length tc] 25))= .ok (.string sb) ((w.alloc (.cells #[.int .i64 a.kind,.int .i64 a.frm,.int .i64 a.tgt,.int .i64 a.term,.int .i64 a.index,.int .i64 a.logTerm,.int .i64 a.commit,.int .i64 a.round,.bool a.ok,.slice EA n ec,.slice SA a.snap.length sc] 25)).alloc (.cells #[.int .i64 a.kind,.int .i64 a.frm,.int .i64 a.tgt,.int .i64 a.term,.int .i64 a.index,.int .i64 a.logTerm,.int .i64 a.commit,.int .i64 a.round,.bool a.ok,.slice FA nb fc,.slice TA sn.length tc] 25)):=by
  rw[←hw2,hsb];exact Rd.strY (((hb.below hS h02).snap).rd (fun b hb=>Nat.lt_of_lt_of_le (hS b hb) h02.size) hb.scap hb.s63 hb.snil)
 have HSS:Hid (sa=sb↔a.snap=sn):=hid (by
  rw[hsa,hsb]
  exact⟨fun h=>by injection h with h;exact Array.toList_inj.2 h |> fun e=>by simpa using e,fun h=>by rw[h]⟩)
 have HN:=hid hn;have HNB:=hid hnb;clear ha hb hS h02 hba hbb hz1 hsa hsb hn hnb;have hne:Hid (n≠nb→ ¬a.ents=es):=hid fun h e=>h (by rw[HN.out,HNB.out,e]);by_cases qlen:n=nb
 case neg=>
  have g1:((n:Int) == (nb:Int))=false:=beq_false_of_ne (by omega);have g2:((n:Int) != (nb:Int))=true:=bne_iff_ne.2 (by omega);have g3: ¬(n:Int)=(nb:Int):=by omega
  have HNE:=hid (hne.out qlen);clear qlen hne;go_enter Tryz.func11,Tryz.ntmps11;go_wp2_with fail;rw[←hw2];go_ret;exact⟨⟨false,rfl,fun h=>(by cases h),fun h=>absurd h.1 HNE.out⟩,HB2.out⟩
 subst qlen;clear hne;have Qlen:Hid (a.ents.length=es.length):=hid (by rw[←HN.out,←HNB.out]);go_enter Tryz.func11,Tryz.ntmps11;by_cases qsn:sa=sb
 case neg=>
  have g1:(sa.toList == sb.toList)=false:=by rw[bB];exact decide_eq_false qsn
  go_wp2_with fail;rw[←hw2];go_ret;exact⟨⟨false,rfl,fun h=>(by cases h),fun h=>absurd (HSS.out.2 h.2) qsn⟩,HB2.out⟩
 have Qsn:Hid (a.snap=sn):=hid (HSS.out.1 qsn);have dsn:(sa.toList == sb.toList)=true:=by rw[bB];exact decide_eq_true qsn
 clear qsn;go_wp2_with fail;try rw[←hw2]
 clear hw2 hcA hcB HSS dsn;have hnl:n≤567493904640:=by have:=HA.out.elen;have:=HN.out;omega
 go_loopw [5] (fun i wr=> ∃j:Nat,i= .int .i64 j∧j≤n∧Hid (∀k (h:k<a.ents.length) (h':k<es.length),k<j→a.ents[k]=es[k])∧Hid (Below w.heap.size w wr)∧Hid (wr.heap[w.heap.size]? =some (.cells #[.int .i64 a.kind,.int .i64 a.frm,.int .i64 a.tgt,.int .i64 a.term,.int .i64 a.index,.int .i64 a.logTerm,.int .i64 a.commit,.int .i64 a.round,.bool a.ok,.slice EA n ec,.slice SA a.snap.length sc] 25 (0,0)))∧Hid (wr.heap[w.heap.size+1]? =some (.cells #[.int .i64 a.kind,.int .i64 a.frm,.int .i64 a.tgt,.int .i64 a.term,.int .i64 a.index,.int .i64 a.logTerm,.int .i64 a.commit,.int .i64 a.round,.bool a.ok,.slice FA n fc,.slice TA sn.length tc] 25 (0,0)))) (fun i _=>n - (intOf i).toNat)
 case atStart=>exact⟨0,rfl,by omega,hid fun i _ _ h=>absurd h (by omega),HB2,HKA2,HKB2⟩
 case round=>
  clear HB2 HKA2 HKB2;obtain⟨j,rfl,hj,HM,HB,HKA,HKB⟩:=hrel;have y9:wr.cell? ⟨w.heap.size,9,none⟩=some (.slice EA n ec):=cell_of_block HKA.out 9;by_cases hlt:j<n
  ·have hla:j<a.ents.length:=by have:=HN.out;omega
   have hlb:j<es.length:=by have:=HN.out;have:=Qlen.out;omega
   have d1:decide ((j:Int)<(n:Int))=true:=decide_eq_true (by omega);obtain⟨p,off,ca,hA,hp,hrg,hcz,he⟩:=cp.at (HA.out.below HS.out HB.out).ents j hla;obtain⟨q,ofg,cb,hB,hq,hrh,hcy,hf⟩:=cp.at (HBB.out.below HS.out HB.out).ents j hlb;have hzA:=(cZ.at he);obtain⟨r0,ra,r1,rb,r2,rc,r3,rd,r4,re,hca,hat⟩:=hzA;obtain⟨s0,sa0,s1,sb0,s2,sc0,s3,sd0,s4,se0,hcb,hbt⟩:=cZ.at hf;obtain⟨x,hx⟩: ∃x,x=a.ents[j]:=⟨_,rfl⟩;obtain⟨y,hy⟩: ∃y,y=es[j]:=⟨_,rfl⟩;rw[←hx]at he hca hat;rw[←hy]at hf hcb hbt
   have hca':ca= [.int .i64 x.term,.int .i64 x.kind,.string x.coll,.string x.to,.int .i64 x.id.kind,.int .i64 x.id.num,.string x.id.text,.slice r0 x.id.items.length ra,.slice r1 x.id.names.length rb,.int .i64 x.doc.kind,.int .i64 x.doc.num,.string x.doc.text,.slice r2 x.doc.items.length rc,.slice r3 x.doc.names.length rd,.slice r4 x.dels.length re,.int .i64 x.session,.int .i64 x.number]:=by
    have:=congrArg Array.toList hca;simpa using this
   have hcb':cb= [.int .i64 y.term,.int .i64 y.kind,.string y.coll,.string y.to,.int .i64 y.id.kind,.int .i64 y.id.num,.string y.id.text,.slice s0 y.id.items.length sa0,.slice s1 y.id.names.length sb0,.int .i64 y.doc.kind,.int .i64 y.doc.num,.string y.doc.text,.slice s2 y.doc.items.length sc0,.slice s3 y.doc.names.length sd0,.slice s4 y.dels.length se0,.int .i64 y.session,.int .i64 y.number]:=by
    have:=congrArg Array.toList hcb;simpa using this
   subst hca' hcb';have HXY:=hid (show a.ents[j]? =some x∧es[j]? =some y from⟨by rw[hx];exact List.getElem?_eq_getElem hla,by rw[hy];exact List.getElem?_eq_getElem hlb⟩);have hpl:p<wr.heap.size:=Nat.lt_of_lt_of_le (HS.out p hp) HB.out.size;have hql:q<wr.heap.size:=Nat.lt_of_lt_of_le (HS.out q hq) HB.out.size;have HC:=hid (oV S x y _ _ wr.drew (fun b hb=>Nat.lt_of_lt_of_le (HS.out b hb) HB.out.size) (cZ.keep he fun _ _=>rfl) (cZ.keep hf fun _ _=>rfl));have HLL:=hid (And.intro hla hlb);obtain⟨p',off',rfl,rfl⟩: ∃p' off',p'=p∧off'=off:=⟨_,_,rfl,rfl⟩;obtain⟨q',ofg',rfl,rfl⟩: ∃q' ofg',q'=q∧ofg'=ofg:=⟨_,_,rfl,rfl⟩;have hjb:j<es.length:=hlb;have z9:wr.cell? ⟨w.heap.size+1,9,none⟩=some (.slice FA n fc):=cell_of_block HKB.out 9;rw[hA]at y9;rw[hB]at z9;have hdr:Below wr.heap.size wr wr.drew:=(Below.refl _ _).drew;have HB3:=hid (HB.out.trans (hdr.mono HB.out.size));have HKAL:Hid (w.heap.size<wr.heap.size):=hid (Array.getElem?_eq_some_iff.1 HKA.out).1;have HKA3:=hid ((hdr.block _ HKAL.out).trans HKA.out);have HKBL:Hid (w.heap.size+1<wr.heap.size):=hid (Array.getElem?_eq_some_iff.1 HKB.out).1;have HKB3:=hid ((hdr.block _ HKBL.out).trans HKB.out);have HAL:=hid (And.intro HKAL.out HKBL.out);have HRG:=hid (And.intro hrg hrh);have HPQ:=hid (And.intro hpl hql);have w9:wr.drew.cell? ⟨w.heap.size,9,none⟩=some (.slice (some ⟨p',off',none⟩) n ec):=y9;have v9:wr.drew.cell? ⟨w.heap.size+1,9,none⟩=some (.slice (some ⟨q',ofg',none⟩) n fc):=z9;have W9:=hid (And.intro w9 v9);clear w9 v9 hA hB hp hq hcz hcy he hf hat hbt hca hcb hx hy hrg hrh hla hlb hpl hql hdr z9 HB HKA HKB hjb
   go_wp2_with fail;refine ar [0,1,2,3,4,5,6,7,8,9,10,11] (by kernel_rfl) (by kernel_rfl) (fun _ d _ _ _ h=>by cases d<;>exact h) ?_;simp only[atR];have t0:=aa (B:=wr.heap.size) (w:=wr.drew) W9.out.1 HAL.out.1;have t1:=aa (B:=wr.heap.size) (w:=wr.drew) W9.out.2 HAL.out.2;have LA:=kv (w:=wr.drew) HRG.out.1 HPQ.out.1;have LB:=kv (w:=wr.drew) HRG.out.2 HPQ.out.2;first|with_reducible refine ac ?_ |with_reducible refine ab ?_ |refine ac ?_ |refine ab ?_
   simp only[List.takeWhile,List.dropWhile,ai,Nat.reduceBNe];repeat(first|(refine eB rfl (by rfl) _ rfl p' (off'+j * 17) rfl _ LA rfl ?_;simp only[acR,Act.put])|(refine eB rfl (by rfl) _ rfl q' (ofg'+j * 17) rfl _ LB rfl ?_;simp only[acR,Act.put])|go_big_quiet_step (fail))
   first|with_reducible refine wpQuiet_nil ?_ |refine wpQuiet_nil ?_
   clear t0 t1 LA LB;first|with_reducible refine ah ?_ (fun K hK=> ?_)|with_reducible refine af ?_ (fun K hK=> ?_)|refine ah ?_ (fun K hK=> ?_)|refine af ?_ (fun K hK=> ?_)
   ·rfl
   go_simp
   refine(HC.out).mono ?_;rintro e w8 ⟨⟨r,rfl,hr⟩,hb⟩;refine hK _ _ (hb) ?_;clear hK K;try simp only[Act.put]
   have HB8:Hid (Below w.heap.size w w8):=hid (HB3.out.trans (hb.mono HB3.out.size));have HKA8:=hid ((hb.block _ (by have:=HKAL.out;exact this)).trans HKA3.out);have HKB8:=hid ((hb.block _ (by have:=HKBL.out;exact this)).trans HKB3.out);have HQ:=hid hr;clear hb hr HB3 HKA3 HKB3 HRG HPQ W9 HC y9;first|with_reducible refine ac ?_ |with_reducible refine ab ?_ |refine ac ?_ |refine ab ?_
   simp only[List.takeWhile,List.dropWhile,ai,Nat.reduceBNe];repeat(go_big_quiet_step (fail))
   first|with_reducible refine wpQuiet_nil ?_ |refine wpQuiet_nil ?_
   unfold aF
   cases r with
   |true=>
    have HEQ:Hid (x=y):=hid (HQ.out.1 rfl);go_wp2_with fail
    go_roundw
    case rel=>exact⟨j+1,by go_num,by omega,hid fun k h h' hk=>by
     by_cases e:k=j
     ·subst e;have h1:=HXY.out.1;have h2:=HXY.out.2;rw[List.getElem?_eq_getElem h]at h1;rw[List.getElem?_eq_getElem h']at h2;rw[Option.some.inj h1,Option.some.inj h2];exact HEQ.out
     ·exact HM.out k h h' (by omega),HB8,HKA8,HKB8⟩
    case measure=>simp[intOf];omega
   |false=>
    have HNE:Hid (¬x=y):=hid fun h=>by have:=HQ.out.2 h;cases this
    go_wp2_with fail;go_ret;exact⟨⟨false,rfl,fun h=>(by cases h),fun h=>absurd (by have h1:=HXY.out.1;rw[h.1,HXY.out.2]at h1;exact(Option.some.inj h1).symm) HNE.out⟩,HB8.out⟩
  ·have d1:decide ((j:Int)<(n:Int))=false:=decide_eq_false (by omega);have HEN:Hid (a.ents=es):=hid (List.ext_getElem Qlen.out fun k h h'=>HM.out k h h' (by have:=HN.out;omega));go_wp2_with fail;go_ret;exact⟨⟨true,rfl,fun _=>⟨HEN.out,Qsn.out⟩,fun _=>rfl⟩,HB.out⟩
end Go.Proofs.YtgfidiocmiolpaaGreat
