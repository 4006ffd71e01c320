/- The order of two values that may be, as the program has it. -/
import Derived.Test.YtgbopnlpaabelaaGreatDoorKPathA
set_option maxHeartbeats 64000000
set_option maxRecDepth 100000
set_option linter.unusedVariables false
set_option linter.unusedSimpArgs false
namespace Go.Proofs.YtgbopnlpaabelaaGreatDoor
open Lib (hid)
open Go.RowKit
theorem oh {w w':World}(h:Below w.heap.size w w'):Below w.drew.heap.size w.drew w':=⟨h.os,h.tape,h.output,h.size,h.block⟩
theorem tL (a b:VT):gM a b=ore (ore (eo a.kind b.kind) (ore (eo a.num b.num) (fU a.text.toList b.text.toList))) (dE (decide (a.kind=7)) a.items a.names b.items b.names):=by
 cases a;cases b;exact Ae _ _ _ _ _ _ _ _ _ _
theorem Box.drew {w:World}{g:Nat}{a b c d e:Value}(h:Box w g a b c d e):Box w.drew g a b c d e:=h
theorem fg {w:World}{g:Nat}{a b c d e:Value}(h:Hid (Box w g a b c d e)):Hid (Box w.drew g a b c d e):=hid h.out.drew
theorem aG {w:World}{a:Addr}{v:Value}(h:Hid (w.cell? a=some v)):Hid (w.drew.cell? a=some v):=hid h.out
theorem fO {w:World}{b:Nat}(h:Hid (b<w.heap.size)):Hid (b<w.drew.heap.size):=hid h.out
theorem jQ {w:World}{S:Nat→Prop}(h:Hid (∀b,S b→b<w.heap.size)):Hid (∀b,S b→b<w.drew.heap.size):=hid h.out
theorem iR {t:VT}(h:ao t=true):gk t.items=true:=by cases t;exact(ey h).2.2
theorem nz {l l':List VT}{j:Nat}(d:Bool)(ns ns':List ByteArray)(h:j<l.length)(h':j<l'.length):
  dE d (l.drop j) (ns.drop j) (l'.drop j) (ns'.drop j)=ore (if d=true then fU ((ns.drop j).headD ⟨#[]⟩).toList ((ns'.drop j).headD ⟨#[]⟩).toList else 0) (ore (gM l[j] l'[j]) (dE d (l.drop (j+1)) (ns.drop (j+1)) (l'.drop (j+1)) (ns'.drop (j+1)))):=by
 rw[List.drop_eq_getElem_cons h,List.drop_eq_getElem_cons h']
 conv=>lhs;unfold dE
 rw[List.tail_drop,List.tail_drop]
theorem vW (d:Bool)(l l':List VT)(ns ns':List ByteArray):dE d (l.drop (min l.length l'.length)) (ns.drop (min l.length l'.length)) (l'.drop (min l.length l'.length)) (ns'.drop (min l.length l'.length))=eo l.length l'.length:=by
 rcases Nat.lt_trichotomy l.length l'.length with h|h|h
 ·rw[Nat.min_eq_left (by omega),List.drop_eq_nil_of_le (Nat.le_refl _),List.drop_eq_getElem_cons h];unfold dE eo;rw[if_pos (by omega)]
 ·rw[Nat.min_eq_left (by omega),List.drop_eq_nil_of_le (Nat.le_refl _),List.drop_eq_nil_of_le (by omega:l'.length≤l.length)];unfold dE eo;rw[if_neg (by omega),if_neg (by omega)]
 ·rw[Nat.min_eq_right (by omega),List.drop_eq_nil_of_le (Nat.le_refl l'.length),List.drop_eq_getElem_cons h];unfold dE eo;rw[if_neg (by omega),if_pos (by omega)]
theorem vJ (S:Nat→Prop): ∀(n:Nat) (a b:VT) (va vb:Value) (w:World),ac a≤n→ao a=true→ao b=true→(∀b,S b→b<w.heap.size)→LV w S a va→LV w S b vb→
  Calls Tryz.prog 170 #[va,vb] w fun e w'=>e= .returned (.int .i64 (gM a b))∧Below w.heap.size w w':=by
 intro n
 induction n with
 |zero=>intro a b va vb w hd;cases a;rw[aN]at hd;omega
 |succ n ih=>
  intro a b va vb w hd hma hmb hS ha hb;obtain⟨A,ca,A',ca',rfl,a1,a2,a3,a4,a5,a6,a7⟩:=ha.shape;obtain⟨B,cb,B',cb',rfl,b1,b2,b3,b4,b5,b6,b7⟩:=hb.shape;have hX2:Box ((w.alloc (.cells #[.int .i64 a.kind,.int .i64 a.num,.string a.text,.slice A a.items.length ca,.slice A' a.names.length ca'] 25)).alloc (.cells #[.int .i64 b.kind,.int .i64 b.num,.string b.text,.slice B b.items.length cb,.slice B' b.names.length cb'] 25)) w.heap.size (.int .i64 a.kind) (.int .i64 a.num) (.string a.text) (.slice A a.items.length ca) (.slice A' a.names.length ca'):=(Box.new _ _ _ _ _).alloc _
  have hX3:Box ((w.alloc (.cells #[.int .i64 a.kind,.int .i64 a.num,.string a.text,.slice A a.items.length ca,.slice A' a.names.length ca'] 25)).alloc (.cells #[.int .i64 b.kind,.int .i64 b.num,.string b.text,.slice B b.items.length cb,.slice B' b.names.length cb'] 25)) (w.heap.size+1) (.int .i64 b.kind) (.int .i64 b.num) (.string b.text) (.slice B b.items.length cb) (.slice B' b.names.length cb'):=by
   have:=Box.new (w:=(w.alloc (.cells #[.int .i64 a.kind,.int .i64 a.num,.string a.text,.slice A a.items.length ca,.slice A' a.names.length ca'] 25))) (.int .i64 b.kind) (.int .i64 b.num) (.string b.text) (.slice B b.items.length cb) (.slice B' b.names.length cb');simpa using this
  have hB0:Below w.heap.size w ((w.alloc (.cells #[.int .i64 a.kind,.int .i64 a.num,.string a.text,.slice A a.items.length ca,.slice A' a.names.length ca'] 25)).alloc (.cells #[.int .i64 b.kind,.int .i64 b.num,.string b.text,.slice B b.items.length cb,.slice B' b.names.length cb'] 25)):=(ae _).alloc (by simp) _;have X2:=hid hX2;have X3:=hid hX3;have HB0:=hid hB0;have A7:=hid a7;have B7:=hid b7;have A6:=hid a6;have B6:=hid b6;have A4:=hid a4;have B4:=hid b4;have HR:=hid (tL a b);generalize gM a b=R at *;clear ha hb hX2 hX3 hB0 a1 a2 a3 a4 a5 a6 a7 b1 b2 b3 b4 b5 b6 b7;go_enter Tryz.func170,Tryz.ntmps170;go_wp2_with fail;obtain⟨w1,hw1⟩: ∃w1:World,w1=((w.alloc (.cells #[.int .i64 a.kind,.int .i64 a.num,.string a.text,.slice A a.items.length ca,.slice A' a.names.length ca'] 25)).alloc (.cells #[.int .i64 b.kind,.int .i64 b.num,.string b.text,.slice B b.items.length cb,.slice B' b.names.length cb'] 25)):=⟨_,rfl⟩;rw[←hw1]at X2 X3 HB0 ⊢;have SZ1:Hid (w1.heap.size=w.heap.size+2):=hid (by rw[hw1];simp);clear hw1;refine bq [0,1,2,3,5,6,7,8,10,11,12,13,4,9,14,15,16,17] (by kernel_rfl) (by kernel_rfl) (fun _ d _ _ _ h=>by cases d<;>exact h) ?_;simp only[atR];have q0:=aa (B:=w1.heap.size) (w:=w1.drew) X2.out.c0 (by have:=SZ1.out;simp;omega);have q1:=aa (B:=w1.heap.size) (w:=w1.drew) X2.out.c1 (by have:=SZ1.out;simp;omega);have q2:=aa (B:=w1.heap.size) (w:=w1.drew) X2.out.c2 (by have:=SZ1.out;simp;omega);have r0:=aa (B:=w1.heap.size) (w:=w1.drew) X3.out.c0 (by have:=SZ1.out;simp;omega);have r1:=aa (B:=w1.heap.size) (w:=w1.drew) X3.out.c1 (by have:=SZ1.out;simp;omega)
  have r2:=aa (B:=w1.heap.size) (w:=w1.drew) X3.out.c2 (by have:=SZ1.out;simp;omega);first|with_reducible refine ak ?_ |with_reducible refine ag ?_ |refine ak ?_ |refine ag ?_
  simp only[List.takeWhile,List.dropWhile,aF,Nat.reduceBNe];repeat(go_big_quiet_step (fail))
  first|with_reducible refine wpQuiet_nil ?_ |refine wpQuiet_nil ?_
  first|with_reducible refine aL ?_ (fun K hK=> ?_)|with_reducible refine aC ?_ (fun K hK=> ?_)|refine aL ?_ (fun K hK=> ?_)|refine aC ?_ (fun K hK=> ?_)
  ·rfl
  go_simp
  refine(jJ _ _ _).mono ?_;rintro e u ⟨rfl,rfl⟩;refine hK _ _ (Below.refl _ _) ?_;clear hK K;try simp only[Act.put]
  first|with_reducible refine ak ?_ |with_reducible refine ag ?_ |refine ak ?_ |refine ag ?_
  simp only[List.takeWhile,List.dropWhile,aF,Nat.reduceBNe];repeat(go_big_quiet_step (fail))
  first|with_reducible refine wpQuiet_nil ?_ |refine wpQuiet_nil ?_
  first|with_reducible refine aL ?_ (fun K hK=> ?_)|with_reducible refine aC ?_ (fun K hK=> ?_)|refine aL ?_ (fun K hK=> ?_)|refine aC ?_ (fun K hK=> ?_)
  ·rfl
  go_simp
  refine(jJ _ _ _).mono ?_;rintro e u ⟨rfl,rfl⟩;refine hK _ _ (Below.refl _ _) ?_;clear hK K;try simp only[Act.put]
  first|with_reducible refine ak ?_ |with_reducible refine ag ?_ |refine ak ?_ |refine ag ?_
  simp only[List.takeWhile,List.dropWhile,aF,Nat.reduceBNe];repeat(go_big_quiet_step (fail))
  first|with_reducible refine wpQuiet_nil ?_ |refine wpQuiet_nil ?_
  first|with_reducible refine aL ?_ (fun K hK=> ?_)|with_reducible refine aC ?_ (fun K hK=> ?_)|refine aL ?_ (fun K hK=> ?_)|refine aC ?_ (fun K hK=> ?_)
  ·rfl
  go_simp
  refine(mX _ _ _).mono ?_;rintro e u ⟨rfl,rfl⟩;refine hK _ _ (Below.refl _ _) ?_;clear hK K;try simp only[Act.put]
  first|refine aL rfl (fun K hK=> ?_)|refine aC rfl (fun K hK=> ?_)
  go_simp
  refine hK _ _ (oh (ae _).drew) ?_;clear hK K;try simp only[Act.put]
  first|with_reducible refine ak ?_ |with_reducible refine ag ?_ |refine ak ?_ |refine ag ?_
  simp only[List.takeWhile,List.dropWhile,aF,Nat.reduceBNe];repeat(go_big_quiet_step (fail))
  first|with_reducible refine wpQuiet_nil ?_ |refine wpQuiet_nil ?_
  first|with_reducible refine aL ?_ (fun K hK=> ?_)|with_reducible refine aC ?_ (fun K hK=> ?_)|refine aL ?_ (fun K hK=> ?_)|refine aC ?_ (fun K hK=> ?_)
  ·rfl
  go_simp
  refine(AC w1.heap.size 3 (eo a.kind b.kind) (eo a.num b.num) (fU a.text.toList b.text.toList) _ (by simp) (by simp) (by simp)).mono ?_;rintro e u ⟨rfl,rfl⟩;refine hK _ _ (Below.refl _ _) ?_;clear hK K;try simp only[Act.put]
  first|with_reducible refine ak ?_ |with_reducible refine ag ?_ |refine ak ?_ |refine ag ?_
  simp only[List.takeWhile,List.dropWhile,aF,Nat.reduceBNe];repeat(go_big_quiet_step (fail))
  first|with_reducible refine wpQuiet_nil ?_ |refine wpQuiet_nil ?_
  unfold br;obtain⟨w2,hw2⟩: ∃w2:World,w2=(w1.alloc (.cells #[.int .i64 (eo a.kind b.kind),.int .i64 (eo a.num b.num),.int .i64 (fU a.text.toList b.text.toList)] 3)).drew:=⟨_,rfl⟩;rw[←hw2];have hb2:Below w1.heap.size w1 w2:=by rw[hw2];exact(ae _).drew
  have X2':=hid (X2.out.call hb2);have X3':=hid (X3.out.call hb2);have HB2:=hid (am HB0.out hb2);have k3:=X2'.out.c3;have k3':=X3'.out.c3;clear q0 q1 q2 r0 r1 r2 X2 X3 HB0 hb2 hw2 SZ1;have HK:Hid (ore (eo a.kind b.kind) (ore (eo a.num b.num) (fU a.text.toList b.text.toList))=0→a.kind=b.kind):=hid (fun h=>(wD _ _).1 ((yz _ _).1 h).1);generalize ore (eo a.kind b.kind) (ore (eo a.num b.num) (fU a.text.toList b.text.toList))=X at *;by_cases hX:X=0
  ·subst hX;have NA:Hid (a.kind=7→a.names.length=a.items.length):=hid (fun h=>by cases a;exact(ey hma).1 h);have NB:Hid (a.kind=7→b.names.length=b.items.length):=hid (fun h=>by have hk:=HK.out rfl;cases b;exact(ey hmb).1 (hk.symm.trans h));have HM:Hid (∀j,j<min a.items.length b.items.length→j<a.items.length∧j<b.items.length):=hid (fun j h=>by omega);have HE:Hid (dE (decide (a.kind=7)) (a.items.drop (min a.items.length b.items.length)) (a.names.drop (min a.items.length b.items.length)) (b.items.drop (min a.items.length b.items.length)) (b.names.drop (min a.items.length b.items.length))=eo a.items.length b.items.length):=hid (vW _ _ _ _ _);have HR0:Hid (dE (decide (a.kind=7)) a.items a.names b.items b.names=R):=hid (by rw[HR.out];simp[ore]);have HML:Hid (min a.items.length b.items.length≤140737488351232):=hid (by have:=A4.out;omega);have HM1:a.items.length≤b.items.length→min a.items.length b.items.length=a.items.length:=fun h=>by omega
   have HM2: ¬a.items.length≤b.items.length→min a.items.length b.items.length=b.items.length:=fun h=>by omega
   have HM3:=hid HM1;have HM4:=hid HM2;clear HR HM1 HM2;generalize min a.items.length b.items.length=m at *;by_cases hlen:a.items.length≤b.items.length
   ·obtain rfl:m=a.items.length:=HM3.out hlen;go_wp2_with fail;clear k3 k3' HM3 HM4
    go_loopw [5,34] (fun cc i wr=> ∃j:Nat,cc= .int .i64 0∧i= .int .i64 j∧j≤a.items.length∧Hid (dE (decide (a.kind=7)) (a.items.drop j) (a.names.drop j) (b.items.drop j) (b.names.drop j)=R∧Below w.heap.size w wr∧
     Box wr w.heap.size (.int .i64 a.kind) (.int .i64 a.num) (.string a.text) (.slice A a.items.length ca) (.slice A' a.names.length ca')∧Box wr (w.heap.size+1) (.int .i64 b.kind) (.int .i64 b.num) (.string b.text) (.slice B b.items.length cb) (.slice B' b.names.length cb'))) (fun _ i _=>a.items.length - (intOf i).toNat)
    case atStart=>
     exact⟨0,rfl,rfl,Nat.zero_le _,by simpa using HR0.out,HB2.out,X2'.out,X3'.out⟩
    case round=>
     obtain⟨j,rfl,rfl,hj,HI⟩:=hrel;have hml:=HML.out;by_cases hlt:j<a.items.length
     ·obtain⟨ja,jb⟩:=HM.out j hlt;have hla:=A4.out;have hlb:=B4.out;obtain⟨pa,oa,rfl,hpa,hva⟩:=A7.out (by omega);obtain⟨pb,ob,rfl,hpb,hvb⟩:=B7.out (by omega);obtain⟨c0,c1,c2,c3,c4,h0,h1,h2,h3,h4,hxa⟩:=hva.at j ja;obtain⟨d0,d1,d2,d3,d4,g0,g1,g2,g3,g4,hxb⟩:=hvb.at j jb;obtain⟨A2,e2,A3,e3,hag,-⟩:=hxa.shape;injection hag with hag;injection hag with hag
      injection hag with y0 hag;injection hag with y1 hag;injection hag with y2 hag;injection hag with y3 hag;injection hag with y4 hag
      subst y0 y1 y2 y3 y4;obtain⟨B2,f2,B3,f3,hbg,-⟩:=hxb.shape;injection hbg with hbg;injection hbg with hbg
      injection hbg with y0 hbg;injection hbg with y1 hbg;injection hbg with y2 hbg;injection hbg with y3 hbg;injection hbg with y4 hbg
      subst y0 y1 y2 y3 y4;have hka: ∀o,wr.cell? ⟨pa,o,none⟩=w.cell? ⟨pa,o,none⟩:=fun o=>HI.out.2.1.cell (p:=⟨pa,o,none⟩) (hS pa hpa);have hkb: ∀o,wr.cell? ⟨pb,o,none⟩=w.cell? ⟨pb,o,none⟩:=fun o=>HI.out.2.1.cell (p:=⟨pb,o,none⟩) (hS pb hpb);rw[←hka]at h0 h1 h2 h3 h4;rw[←hkb]at g0 g1 g2 g3 g4;have hxa:=hid (hxa.below hS HI.out.2.1);have hxb:=hid (hxb.below hS HI.out.2.1);have h0:=hid h0;have h1:=hid h1;have h2:=hid h2;have h3:=hid h3;have h4:=hid h4;have g0:=hid g0;have g1:=hid g1;have g2:=hid g2;have g3:=hid g3;have g4:=hid g4;have hba:Hid (pa<wr.heap.size):=hid (Nat.lt_of_lt_of_le (hS pa hpa) HI.out.2.1.size);have hbb:Hid (pb<wr.heap.size):=hid (Nat.lt_of_lt_of_le (hS pb hpb) HI.out.2.1.size);have x2:=hid HI.out.2.2.1;have x3:=hid HI.out.2.2.2;have HBW:=hid HI.out.2.1
      have HDJ:Hid (ac a.items[j]≤n):=hid (by
       have hdp:=cj (List.getElem_mem ja);have hdt:ac a=aK a.items+1:=by cases a;exact aN _ _ _ _ _
       omega)
      have HMJ:=hid (eh (iR hma) (List.getElem_mem ja));have HMJ':=hid (eh (iR hmb) (List.getElem_mem jb));have HSJ:Hid (∀b,S b→b<wr.drew.heap.size):=hid (fun b hb=>Nat.lt_of_lt_of_le (hS b hb) HI.out.2.1.size);have RR:=hid (nz (decide (a.kind=7)) a.names b.names ja jb);have RR:Hid (R=_):=hid (HI.out.1.symm.trans RR.out);clear hva hvb hka hkb HI;have k0:=x2.out.c0;by_cases h7:a.kind=7
      ·obtain⟨na,hna⟩: ∃na,na=a.names.length:=⟨_,rfl⟩;have e7:a.names.length=a.items.length:=NA.out h7;have f7:b.names.length=b.items.length:=NB.out h7;have ia:j<a.names.length:=by omega
       have ib:j<b.names.length:=by omega
       clear e7 f7 hna na;obtain⟨ua,va,rfl,hua,hsa⟩:=A6.out (by omega);obtain⟨ub,vb,rfl,hub,hsb⟩:=B6.out (by omega);have t1:wr.cell? ⟨ua,va+j,none⟩=some (.string a.names[j]):=(HBW.out.cell (p:=⟨ua,va+j,none⟩) (hS ua hua)).trans (hsa j ia).1;have t2:wr.cell? ⟨ub,vb+j,none⟩=some (.string b.names[j]):=(HBW.out.cell (p:=⟨ub,vb+j,none⟩) (hS ub hub)).trans (hsb j ib).1
       have RR:Hid (R=ore (fU a.names[j].toList b.names[j].toList) (ore (gM a.items[j] b.items[j]) (dE (decide (a.kind=7)) (a.items.drop (j+1)) (a.names.drop (j+1)) (b.items.drop (j+1)) (b.names.drop (j+1))))):=hid (by
        rw[RR.out,if_pos (by simpa using h7),List.drop_eq_getElem_cons ia,List.drop_eq_getElem_cons ib]
        simp only[List.headD_cons])
       have hub1:ua<wr.heap.size:=Nat.lt_of_lt_of_le (hS ua hua) HBW.out.size;have hub2:ub<wr.heap.size:=Nat.lt_of_lt_of_le (hS ub hub) HBW.out.size;have b7:(a.kind == 7)=true:=by simp[h7]
       clear h7;generalize a.names[j]=sa at *;generalize b.names[j]=sb at *;go_wp2_with fail;refine bq [0,1,2,3,4,5,6,7,8,9,10,11] (by kernel_rfl) (by kernel_rfl) (fun _ d _ _ _ h=>by cases d<;>exact h) ?_;simp only[atR];have q4:=aa (B:=wr.heap.size) (w:=wr.drew) x2.out.c4 x2.out.lt;have q4':=aa (B:=wr.heap.size) (w:=wr.drew) x3.out.c4 x3.out.lt;have u1:=aa (B:=wr.heap.size) (w:=wr.drew) t1 hub1;have u2:=aa (B:=wr.heap.size) (w:=wr.drew) t2 hub2;first|with_reducible refine ak ?_ |with_reducible refine ag ?_ |refine ak ?_ |refine ag ?_
       simp only[List.takeWhile,List.dropWhile,aF,Nat.reduceBNe];repeat(go_big_quiet_step (fail))
       first|with_reducible refine wpQuiet_nil ?_ |refine wpQuiet_nil ?_
       first|with_reducible refine aL ?_ (fun K hK=> ?_)|with_reducible refine aC ?_ (fun K hK=> ?_)|refine aL ?_ (fun K hK=> ?_)|refine aC ?_ (fun K hK=> ?_)
       ·rfl
       go_simp
       refine(mX _ _ _).mono ?_;rintro e u ⟨rfl,rfl⟩;refine hK _ _ (Below.refl _ _) ?_;clear hK K;try simp only[Act.put]
       first|with_reducible refine ak ?_ |with_reducible refine ag ?_ |refine ak ?_ |refine ag ?_
       simp only[List.takeWhile,List.dropWhile,aF,Nat.reduceBNe];repeat(go_big_quiet_step (fail))
       first|with_reducible refine wpQuiet_nil ?_ |refine wpQuiet_nil ?_
       unfold br;clear q4 q4' u1 u2 t1 t2 hsa hsb hub1 hub2 k0;have x2:=fg x2;have x3:=fg x3;have h0:=aG h0;have h1:=aG h1;have h2:=aG h2;have h3:=aG h3;have h4:=aG h4;have g0:=aG g0;have g1:=aG g1;have g2:=aG g2;have g3:=aG g3;have g4:=aG g4;have hba:=fO hba;have hbb:=fO hbb;have hxa:=hid hxa.out.drew;have hxb:=hid hxb.out.drew;have HBW:=hid HBW.out.drew;have HSJ:=jQ HSJ;generalize wr.drew=wq at *;generalize fU sa.toList sb.toList=D at *;by_cases hD:D=0
       ·subst hD;go_wp2_with fail;refine bq [0,1,2,3,4,5,6,7,8,9,10,11] (by kernel_rfl) (by kernel_rfl) (fun _ d _ _ _ h=>by cases d<;>exact h) ?_;simp only[atR];have q3:=aa (B:=wq.heap.size) (w:=wq.drew) x2.out.c3 x2.out.lt;have q3':=aa (B:=wq.heap.size) (w:=wq.drew) x3.out.c3 x3.out.lt;have p0:=aa (B:=wq.heap.size) (w:=wq.drew) h0.out hba.out;have p1:=aa (B:=wq.heap.size) (w:=wq.drew) h1.out hba.out;have p2:=aa (B:=wq.heap.size) (w:=wq.drew) h2.out hba.out;have p3:=aa (B:=wq.heap.size) (w:=wq.drew) h3.out hba.out;have p4:=aa (B:=wq.heap.size) (w:=wq.drew) h4.out hba.out;have s0:=aa (B:=wq.heap.size) (w:=wq.drew) g0.out hbb.out;have s1:=aa (B:=wq.heap.size) (w:=wq.drew) g1.out hbb.out;have s2:=aa (B:=wq.heap.size) (w:=wq.drew) g2.out hbb.out;have s3:=aa (B:=wq.heap.size) (w:=wq.drew) g3.out hbb.out;have s4:=aa (B:=wq.heap.size) (w:=wq.drew) g4.out hbb.out;first|with_reducible refine ak ?_ |with_reducible refine ag ?_ |refine ak ?_ |refine ag ?_
        simp only[List.takeWhile,List.dropWhile,aF,Nat.reduceBNe];repeat(go_big_quiet_step (fail))
        first|with_reducible refine wpQuiet_nil ?_ |refine wpQuiet_nil ?_
        first|with_reducible refine aL ?_ (fun K hK=> ?_)|with_reducible refine aC ?_ (fun K hK=> ?_)|refine aL ?_ (fun K hK=> ?_)|refine aC ?_ (fun K hK=> ?_)
        ·rfl
        go_simp
        refine(ih a.items[j] b.items[j] _ _ wq.drew HDJ.out HMJ.out HMJ'.out HSJ.out hxa.out.drew hxb.out.drew).mono ?_;rintro e w4 ⟨rfl,hb⟩;refine hK _ _ hb ?_;clear hK K;try simp only[Act.put]
        first|with_reducible refine ak ?_ |with_reducible refine ag ?_ |refine ak ?_ |refine ag ?_
        simp only[List.takeWhile,List.dropWhile,aF,Nat.reduceBNe];repeat(go_big_quiet_step (fail))
        first|with_reducible refine wpQuiet_nil ?_ |refine wpQuiet_nil ?_
        unfold br;have HB4:=hid (am HBW.out (aO hb));have x2':=hid (x2.out.call (aO hb));have x3':=hid (x3.out.call (aO hb));clear q3 q3' p0 p1 p2 p3 p4 s0 s1 s2 s3 s4 hb x2 x3 h0 h1 h2 h3 h4 g0 g1 g2 g3 g4 hba hbb hxa hxb HDJ HMJ HMJ' HSJ HBW;generalize gM a.items[j] b.items[j]=C at *;by_cases hC:C=0
        ·subst hC;have HN:Hid (dE (decide (a.kind=7)) (a.items.drop (j+1)) (a.names.drop (j+1)) (b.items.drop (j+1)) (b.names.drop (j+1))=R):=hid (by rw[RR.out];simp[ore]);go_wp2_with fail
         go_roundw
         case rel=>exact⟨j+1,rfl,by go_num,by omega,HN.out,HB4.out,x2'.out,x3'.out⟩
         case measure=>simp[intOf];omega
        ·have HN:Hid (R=C):=hid (by rw[RR.out];simp[ore,hC]);go_wp2_with fail;go_ret;exact⟨aH HN.out.symm,HB4.out⟩
       ·have HN:Hid (R=D):=hid (by rw[RR.out];simp[ore,hD]);go_wp2_with fail;go_ret;exact⟨aH HN.out.symm,HBW.out⟩
      ·have RR:Hid (R=ore 0 (ore (gM a.items[j] b.items[j]) (dE (decide (a.kind=7)) (a.items.drop (j+1)) (a.names.drop (j+1)) (b.items.drop (j+1)) (b.names.drop (j+1))))):=hid (by rw[RR.out,if_neg (by simpa using h7)]);have b7:(a.kind == 7)=false:=by simp[h7]
       go_wp2_with fail;clear k0;refine bq [0,1,2,3,4,5,6,7,8,9,10,11] (by kernel_rfl) (by kernel_rfl) (fun _ d _ _ _ h=>by cases d<;>exact h) ?_;simp only[atR];have q3:=aa (B:=wr.heap.size) (w:=wr.drew) x2.out.c3 x2.out.lt;have q3':=aa (B:=wr.heap.size) (w:=wr.drew) x3.out.c3 x3.out.lt;have p0:=aa (B:=wr.heap.size) (w:=wr.drew) h0.out hba.out;have p1:=aa (B:=wr.heap.size) (w:=wr.drew) h1.out hba.out;have p2:=aa (B:=wr.heap.size) (w:=wr.drew) h2.out hba.out;have p3:=aa (B:=wr.heap.size) (w:=wr.drew) h3.out hba.out;have p4:=aa (B:=wr.heap.size) (w:=wr.drew) h4.out hba.out;have s0:=aa (B:=wr.heap.size) (w:=wr.drew) g0.out hbb.out;have s1:=aa (B:=wr.heap.size) (w:=wr.drew) g1.out hbb.out;have s2:=aa (B:=wr.heap.size) (w:=wr.drew) g2.out hbb.out;have s3:=aa (B:=wr.heap.size) (w:=wr.drew) g3.out hbb.out;have s4:=aa (B:=wr.heap.size) (w:=wr.drew) g4.out hbb.out;first|with_reducible refine ak ?_ |with_reducible refine ag ?_ |refine ak ?_ |refine ag ?_
       simp only[List.takeWhile,List.dropWhile,aF,Nat.reduceBNe];repeat(go_big_quiet_step (fail))
       first|with_reducible refine wpQuiet_nil ?_ |refine wpQuiet_nil ?_
       first|with_reducible refine aL ?_ (fun K hK=> ?_)|with_reducible refine aC ?_ (fun K hK=> ?_)|refine aL ?_ (fun K hK=> ?_)|refine aC ?_ (fun K hK=> ?_)
       ·rfl
       go_simp
       refine(ih a.items[j] b.items[j] _ _ wr.drew HDJ.out HMJ.out HMJ'.out HSJ.out hxa.out.drew hxb.out.drew).mono ?_;rintro e w4 ⟨rfl,hb⟩;refine hK _ _ hb ?_;clear hK K;try simp only[Act.put]
       first|with_reducible refine ak ?_ |with_reducible refine ag ?_ |refine ak ?_ |refine ag ?_
       simp only[List.takeWhile,List.dropWhile,aF,Nat.reduceBNe];repeat(go_big_quiet_step (fail))
       first|with_reducible refine wpQuiet_nil ?_ |refine wpQuiet_nil ?_
       unfold br;have HB4:=hid (am HBW.out (aO hb));have x2':=hid (x2.out.call (aO hb));have x3':=hid (x3.out.call (aO hb));clear q3 q3' p0 p1 p2 p3 p4 s0 s1 s2 s3 s4 hb x2 x3 h0 h1 h2 h3 h4 g0 g1 g2 g3 g4 hba hbb hxa hxb HDJ HMJ HMJ' HSJ HBW;generalize gM a.items[j] b.items[j]=C at *;by_cases hC:C=0
       ·subst hC;have HN:Hid (dE (decide (a.kind=7)) (a.items.drop (j+1)) (a.names.drop (j+1)) (b.items.drop (j+1)) (b.names.drop (j+1))=R):=hid (by rw[RR.out];simp[ore]);go_wp2_with fail
        go_roundw
        case rel=>exact⟨j+1,rfl,by go_num,by omega,HN.out,HB4.out,x2'.out,x3'.out⟩
        case measure=>simp[intOf];omega
       ·have HN:Hid (R=C):=hid (by rw[RR.out];simp[ore,hC]);go_wp2_with fail;go_ret;exact⟨aH HN.out.symm,HB4.out⟩
     ·obtain rfl:j=a.items.length:=by omega
      have k3:=HI.out.2.2.1.c3;have k3':=HI.out.2.2.2.c3;have HE2:=hid (HI.out.1.symm.trans HE.out);have HBW:=hid HI.out.2.1;clear HI;go_wp2_with(go_at_call 177;refine(jJ _ _ _).mono ?_;rintro e w' ⟨rfl,rfl⟩);go_ret;exact⟨aH HE2.out.symm,HBW.out⟩
   ·obtain rfl:m=b.items.length:=HM4.out hlen;go_wp2_with fail;clear k3 k3' HM3 HM4
    go_loopw [5,34] (fun cc i wr=> ∃j:Nat,cc= .int .i64 0∧i= .int .i64 j∧j≤b.items.length∧Hid (dE (decide (a.kind=7)) (a.items.drop j) (a.names.drop j) (b.items.drop j) (b.names.drop j)=R∧Below w.heap.size w wr∧
     Box wr w.heap.size (.int .i64 a.kind) (.int .i64 a.num) (.string a.text) (.slice A a.items.length ca) (.slice A' a.names.length ca')∧Box wr (w.heap.size+1) (.int .i64 b.kind) (.int .i64 b.num) (.string b.text) (.slice B b.items.length cb) (.slice B' b.names.length cb'))) (fun _ i _=>b.items.length - (intOf i).toNat)
    case atStart=>
     exact⟨0,rfl,rfl,Nat.zero_le _,by simpa using HR0.out,HB2.out,X2'.out,X3'.out⟩
    case round=>
     obtain⟨j,rfl,rfl,hj,HI⟩:=hrel;have hml:=HML.out;by_cases hlt:j<b.items.length
     ·obtain⟨ja,jb⟩:=HM.out j hlt;have hla:=A4.out;have hlb:=B4.out;obtain⟨pa,oa,rfl,hpa,hva⟩:=A7.out (by omega);obtain⟨pb,ob,rfl,hpb,hvb⟩:=B7.out (by omega);obtain⟨c0,c1,c2,c3,c4,h0,h1,h2,h3,h4,hxa⟩:=hva.at j ja;obtain⟨d0,d1,d2,d3,d4,g0,g1,g2,g3,g4,hxb⟩:=hvb.at j jb;obtain⟨A2,e2,A3,e3,hag,-⟩:=hxa.shape;injection hag with hag;injection hag with hag
      injection hag with y0 hag;injection hag with y1 hag;injection hag with y2 hag;injection hag with y3 hag;injection hag with y4 hag
      subst y0 y1 y2 y3 y4;obtain⟨B2,f2,B3,f3,hbg,-⟩:=hxb.shape;injection hbg with hbg;injection hbg with hbg
      injection hbg with y0 hbg;injection hbg with y1 hbg;injection hbg with y2 hbg;injection hbg with y3 hbg;injection hbg with y4 hbg
      subst y0 y1 y2 y3 y4;have hka: ∀o,wr.cell? ⟨pa,o,none⟩=w.cell? ⟨pa,o,none⟩:=fun o=>HI.out.2.1.cell (p:=⟨pa,o,none⟩) (hS pa hpa);have hkb: ∀o,wr.cell? ⟨pb,o,none⟩=w.cell? ⟨pb,o,none⟩:=fun o=>HI.out.2.1.cell (p:=⟨pb,o,none⟩) (hS pb hpb);rw[←hka]at h0 h1 h2 h3 h4;rw[←hkb]at g0 g1 g2 g3 g4;have hxa:=hid (hxa.below hS HI.out.2.1);have hxb:=hid (hxb.below hS HI.out.2.1);have h0:=hid h0;have h1:=hid h1;have h2:=hid h2;have h3:=hid h3;have h4:=hid h4;have g0:=hid g0;have g1:=hid g1;have g2:=hid g2;have g3:=hid g3;have g4:=hid g4;have hba:Hid (pa<wr.heap.size):=hid (Nat.lt_of_lt_of_le (hS pa hpa) HI.out.2.1.size);have hbb:Hid (pb<wr.heap.size):=hid (Nat.lt_of_lt_of_le (hS pb hpb) HI.out.2.1.size);have x2:=hid HI.out.2.2.1;have x3:=hid HI.out.2.2.2;have HBW:=hid HI.out.2.1
      have HDJ:Hid (ac a.items[j]≤n):=hid (by
       have hdp:=cj (List.getElem_mem ja);have hdt:ac a=aK a.items+1:=by cases a;exact aN _ _ _ _ _
       omega)
      have HMJ:=hid (eh (iR hma) (List.getElem_mem ja));have HMJ':=hid (eh (iR hmb) (List.getElem_mem jb));have HSJ:Hid (∀b,S b→b<wr.drew.heap.size):=hid (fun b hb=>Nat.lt_of_lt_of_le (hS b hb) HI.out.2.1.size);have RR:=hid (nz (decide (a.kind=7)) a.names b.names ja jb);have RR:Hid (R=_):=hid (HI.out.1.symm.trans RR.out);clear hva hvb hka hkb HI;have k0:=x2.out.c0;by_cases h7:a.kind=7
      ·obtain⟨na,hna⟩: ∃na,na=a.names.length:=⟨_,rfl⟩;have e7:a.names.length=a.items.length:=NA.out h7;have f7:b.names.length=b.items.length:=NB.out h7;have ia:j<a.names.length:=by omega
       have ib:j<b.names.length:=by omega
       clear e7 f7 hna na;obtain⟨ua,va,rfl,hua,hsa⟩:=A6.out (by omega);obtain⟨ub,vb,rfl,hub,hsb⟩:=B6.out (by omega);have t1:wr.cell? ⟨ua,va+j,none⟩=some (.string a.names[j]):=(HBW.out.cell (p:=⟨ua,va+j,none⟩) (hS ua hua)).trans (hsa j ia).1;have t2:wr.cell? ⟨ub,vb+j,none⟩=some (.string b.names[j]):=(HBW.out.cell (p:=⟨ub,vb+j,none⟩) (hS ub hub)).trans (hsb j ib).1
       have RR:Hid (R=ore (fU a.names[j].toList b.names[j].toList) (ore (gM a.items[j] b.items[j]) (dE (decide (a.kind=7)) (a.items.drop (j+1)) (a.names.drop (j+1)) (b.items.drop (j+1)) (b.names.drop (j+1))))):=hid (by
        rw[RR.out,if_pos (by simpa using h7),List.drop_eq_getElem_cons ia,List.drop_eq_getElem_cons ib]
        simp only[List.headD_cons])
       have hub1:ua<wr.heap.size:=Nat.lt_of_lt_of_le (hS ua hua) HBW.out.size;have hub2:ub<wr.heap.size:=Nat.lt_of_lt_of_le (hS ub hub) HBW.out.size;have b7:(a.kind == 7)=true:=by simp[h7]
       clear h7;generalize a.names[j]=sa at *;generalize b.names[j]=sb at *;go_wp2_with fail;refine bq [0,1,2,3,4,5,6,7,8,9,10,11] (by kernel_rfl) (by kernel_rfl) (fun _ d _ _ _ h=>by cases d<;>exact h) ?_;simp only[atR];have q4:=aa (B:=wr.heap.size) (w:=wr.drew) x2.out.c4 x2.out.lt;have q4':=aa (B:=wr.heap.size) (w:=wr.drew) x3.out.c4 x3.out.lt;have u1:=aa (B:=wr.heap.size) (w:=wr.drew) t1 hub1;have u2:=aa (B:=wr.heap.size) (w:=wr.drew) t2 hub2;first|with_reducible refine ak ?_ |with_reducible refine ag ?_ |refine ak ?_ |refine ag ?_
       simp only[List.takeWhile,List.dropWhile,aF,Nat.reduceBNe];repeat(go_big_quiet_step (fail))
       first|with_reducible refine wpQuiet_nil ?_ |refine wpQuiet_nil ?_
       first|with_reducible refine aL ?_ (fun K hK=> ?_)|with_reducible refine aC ?_ (fun K hK=> ?_)|refine aL ?_ (fun K hK=> ?_)|refine aC ?_ (fun K hK=> ?_)
       ·rfl
       go_simp
       refine(mX _ _ _).mono ?_;rintro e u ⟨rfl,rfl⟩;refine hK _ _ (Below.refl _ _) ?_;clear hK K;try simp only[Act.put]
       first|with_reducible refine ak ?_ |with_reducible refine ag ?_ |refine ak ?_ |refine ag ?_
       simp only[List.takeWhile,List.dropWhile,aF,Nat.reduceBNe];repeat(go_big_quiet_step (fail))
       first|with_reducible refine wpQuiet_nil ?_ |refine wpQuiet_nil ?_
       unfold br;clear q4 q4' u1 u2 t1 t2 hsa hsb hub1 hub2 k0;have x2:=fg x2;have x3:=fg x3;have h0:=aG h0;have h1:=aG h1;have h2:=aG h2;have h3:=aG h3;have h4:=aG h4;have g0:=aG g0;have g1:=aG g1;have g2:=aG g2;have g3:=aG g3;have g4:=aG g4;have hba:=fO hba;have hbb:=fO hbb;have hxa:=hid hxa.out.drew;have hxb:=hid hxb.out.drew;have HBW:=hid HBW.out.drew;have HSJ:=jQ HSJ;generalize wr.drew=wq at *;generalize fU sa.toList sb.toList=D at *;by_cases hD:D=0
       ·subst hD;go_wp2_with fail;refine bq [0,1,2,3,4,5,6,7,8,9,10,11] (by kernel_rfl) (by kernel_rfl) (fun _ d _ _ _ h=>by cases d<;>exact h) ?_;simp only[atR];have q3:=aa (B:=wq.heap.size) (w:=wq.drew) x2.out.c3 x2.out.lt;have q3':=aa (B:=wq.heap.size) (w:=wq.drew) x3.out.c3 x3.out.lt;have p0:=aa (B:=wq.heap.size) (w:=wq.drew) h0.out hba.out;have p1:=aa (B:=wq.heap.size) (w:=wq.drew) h1.out hba.out;have p2:=aa (B:=wq.heap.size) (w:=wq.drew) h2.out hba.out;have p3:=aa (B:=wq.heap.size) (w:=wq.drew) h3.out hba.out;have p4:=aa (B:=wq.heap.size) (w:=wq.drew) h4.out hba.out;have s0:=aa (B:=wq.heap.size) (w:=wq.drew) g0.out hbb.out;have s1:=aa (B:=wq.heap.size) (w:=wq.drew) g1.out hbb.out;have s2:=aa (B:=wq.heap.size) (w:=wq.drew) g2.out hbb.out;have s3:=aa (B:=wq.heap.size) (w:=wq.drew) g3.out hbb.out;have s4:=aa (B:=wq.heap.size) (w:=wq.drew) g4.out hbb.out;first|with_reducible refine ak ?_ |with_reducible refine ag ?_ |refine ak ?_ |refine ag ?_
        simp only[List.takeWhile,List.dropWhile,aF,Nat.reduceBNe];repeat(go_big_quiet_step (fail))
        first|with_reducible refine wpQuiet_nil ?_ |refine wpQuiet_nil ?_
        first|with_reducible refine aL ?_ (fun K hK=> ?_)|with_reducible refine aC ?_ (fun K hK=> ?_)|refine aL ?_ (fun K hK=> ?_)|refine aC ?_ (fun K hK=> ?_)
        ·rfl
        go_simp
        refine(ih a.items[j] b.items[j] _ _ wq.drew HDJ.out HMJ.out HMJ'.out HSJ.out hxa.out.drew hxb.out.drew).mono ?_;rintro e w4 ⟨rfl,hb⟩;refine hK _ _ hb ?_;clear hK K;try simp only[Act.put]
        first|with_reducible refine ak ?_ |with_reducible refine ag ?_ |refine ak ?_ |refine ag ?_
        simp only[List.takeWhile,List.dropWhile,aF,Nat.reduceBNe];repeat(go_big_quiet_step (fail))
        first|with_reducible refine wpQuiet_nil ?_ |refine wpQuiet_nil ?_
        unfold br;have HB4:=hid (am HBW.out (aO hb));have x2':=hid (x2.out.call (aO hb));have x3':=hid (x3.out.call (aO hb));clear q3 q3' p0 p1 p2 p3 p4 s0 s1 s2 s3 s4 hb x2 x3 h0 h1 h2 h3 h4 g0 g1 g2 g3 g4 hba hbb hxa hxb HDJ HMJ HMJ' HSJ HBW;generalize gM a.items[j] b.items[j]=C at *;by_cases hC:C=0
        ·subst hC;have HN:Hid (dE (decide (a.kind=7)) (a.items.drop (j+1)) (a.names.drop (j+1)) (b.items.drop (j+1)) (b.names.drop (j+1))=R):=hid (by rw[RR.out];simp[ore]);go_wp2_with fail
         go_roundw
         case rel=>exact⟨j+1,rfl,by go_num,by omega,HN.out,HB4.out,x2'.out,x3'.out⟩
         case measure=>simp[intOf];omega
        ·have HN:Hid (R=C):=hid (by rw[RR.out];simp[ore,hC]);go_wp2_with fail;go_ret;exact⟨aH HN.out.symm,HB4.out⟩
       ·have HN:Hid (R=D):=hid (by rw[RR.out];simp[ore,hD]);go_wp2_with fail;go_ret;exact⟨aH HN.out.symm,HBW.out⟩
      ·have RR:Hid (R=ore 0 (ore (gM a.items[j] b.items[j]) (dE (decide (a.kind=7)) (a.items.drop (j+1)) (a.names.drop (j+1)) (b.items.drop (j+1)) (b.names.drop (j+1))))):=hid (by rw[RR.out,if_neg (by simpa using h7)]);have b7:(a.kind == 7)=false:=by simp[h7]
       go_wp2_with fail;clear k0;refine bq [0,1,2,3,4,5,6,7,8,9,10,11] (by kernel_rfl) (by kernel_rfl) (fun _ d _ _ _ h=>by cases d<;>exact h) ?_;simp only[atR];have q3:=aa (B:=wr.heap.size) (w:=wr.drew) x2.out.c3 x2.out.lt;have q3':=aa (B:=wr.heap.size) (w:=wr.drew) x3.out.c3 x3.out.lt;have p0:=aa (B:=wr.heap.size) (w:=wr.drew) h0.out hba.out;have p1:=aa (B:=wr.heap.size) (w:=wr.drew) h1.out hba.out;have p2:=aa (B:=wr.heap.size) (w:=wr.drew) h2.out hba.out;have p3:=aa (B:=wr.heap.size) (w:=wr.drew) h3.out hba.out;have p4:=aa (B:=wr.heap.size) (w:=wr.drew) h4.out hba.out;have s0:=aa (B:=wr.heap.size) (w:=wr.drew) g0.out hbb.out;have s1:=aa (B:=wr.heap.size) (w:=wr.drew) g1.out hbb.out;have s2:=aa (B:=wr.heap.size) (w:=wr.drew) g2.out hbb.out;have s3:=aa (B:=wr.heap.size) (w:=wr.drew) g3.out hbb.out;have s4:=aa (B:=wr.heap.size) (w:=wr.drew) g4.out hbb.out;first|with_reducible refine ak ?_ |with_reducible refine ag ?_ |refine ak ?_ |refine ag ?_
       simp only[List.takeWhile,List.dropWhile,aF,Nat.reduceBNe];repeat(go_big_quiet_step (fail))
       first|with_reducible refine wpQuiet_nil ?_ |refine wpQuiet_nil ?_
       first|with_reducible refine aL ?_ (fun K hK=> ?_)|with_reducible refine aC ?_ (fun K hK=> ?_)|refine aL ?_ (fun K hK=> ?_)|refine aC ?_ (fun K hK=> ?_)
       ·rfl
       go_simp
       refine(ih a.items[j] b.items[j] _ _ wr.drew HDJ.out HMJ.out HMJ'.out HSJ.out hxa.out.drew hxb.out.drew).mono ?_;rintro e w4 ⟨rfl,hb⟩;refine hK _ _ hb ?_;clear hK K;try simp only[Act.put]
       first|with_reducible refine ak ?_ |with_reducible refine ag ?_ |refine ak ?_ |refine ag ?_
       simp only[List.takeWhile,List.dropWhile,aF,Nat.reduceBNe];repeat(go_big_quiet_step (fail))
       first|with_reducible refine wpQuiet_nil ?_ |refine wpQuiet_nil ?_
       unfold br;have HB4:=hid (am HBW.out (aO hb));have x2':=hid (x2.out.call (aO hb));have x3':=hid (x3.out.call (aO hb));clear q3 q3' p0 p1 p2 p3 p4 s0 s1 s2 s3 s4 hb x2 x3 h0 h1 h2 h3 h4 g0 g1 g2 g3 g4 hba hbb hxa hxb HDJ HMJ HMJ' HSJ HBW;generalize gM a.items[j] b.items[j]=C at *;by_cases hC:C=0
       ·subst hC;have HN:Hid (dE (decide (a.kind=7)) (a.items.drop (j+1)) (a.names.drop (j+1)) (b.items.drop (j+1)) (b.names.drop (j+1))=R):=hid (by rw[RR.out];simp[ore]);go_wp2_with fail
        go_roundw
        case rel=>exact⟨j+1,rfl,by go_num,by omega,HN.out,HB4.out,x2'.out,x3'.out⟩
        case measure=>simp[intOf];omega
       ·have HN:Hid (R=C):=hid (by rw[RR.out];simp[ore,hC]);go_wp2_with fail;go_ret;exact⟨aH HN.out.symm,HB4.out⟩
     ·obtain rfl:j=b.items.length:=by omega
      have k3:=HI.out.2.2.1.c3;have k3':=HI.out.2.2.2.c3;have HE2:=hid (HI.out.1.symm.trans HE.out);have HBW:=hid HI.out.2.1;clear HI;go_wp2_with(go_at_call 177;refine(jJ _ _ _).mono ?_;rintro e w' ⟨rfl,rfl⟩);go_ret;exact⟨aH HE2.out.symm,HBW.out⟩
  ·have HF:Hid (R=X):=hid (by rw[HR.out];unfold ore;rw[if_neg hX]);go_wp2_with fail;go_ret;exact⟨aH HF.out.symm,HB2.out⟩
def fK (a b:VT):Int:=if ao a=true∧ao b=true then gM a b else if ao b=true then -1 else if ao a=true then 1 else 0
theorem lw (S:Nat→Prop)(a b:VT)(va vb:Value)(w:World)(hS: ∀b,S b→b<w.heap.size)(ha:LV w S a va)(hb:LV w S b vb)(hda:ac a≤4611686018427387903)(hdb:ac b≤4611686018427387903):
  Calls Tryz.prog 146 #[va,vb] w fun e w'=>e= .returned (.int .i64 (fK a b))∧Below w.heap.size w w':=by
 have HVA:=hid ha;have HVB:=hid hb;obtain⟨A,ca,A',ca',rfl,-,-,-,-,-,-,-⟩:=ha.shape;obtain⟨B,cb,B',cb',rfl,-,-,-,-,-,-,-⟩:=hb.shape;have hX2:Box ((w.alloc (.cells #[.int .i64 a.kind,.int .i64 a.num,.string a.text,.slice A a.items.length ca,.slice A' a.names.length ca'] 25)).alloc (.cells #[.int .i64 b.kind,.int .i64 b.num,.string b.text,.slice B b.items.length cb,.slice B' b.names.length cb'] 25)) w.heap.size (.int .i64 a.kind) (.int .i64 a.num) (.string a.text) (.slice A a.items.length ca) (.slice A' a.names.length ca'):=(Box.new _ _ _ _ _).alloc _
 have hX3:Box ((w.alloc (.cells #[.int .i64 a.kind,.int .i64 a.num,.string a.text,.slice A a.items.length ca,.slice A' a.names.length ca'] 25)).alloc (.cells #[.int .i64 b.kind,.int .i64 b.num,.string b.text,.slice B b.items.length cb,.slice B' b.names.length cb'] 25)) (w.heap.size+1) (.int .i64 b.kind) (.int .i64 b.num) (.string b.text) (.slice B b.items.length cb) (.slice B' b.names.length cb'):=by
  have:=Box.new (w:=(w.alloc (.cells #[.int .i64 a.kind,.int .i64 a.num,.string a.text,.slice A a.items.length ca,.slice A' a.names.length ca'] 25))) (.int .i64 b.kind) (.int .i64 b.num) (.string b.text) (.slice B b.items.length cb) (.slice B' b.names.length cb');simpa using this
 have hB0:Below w.heap.size w ((w.alloc (.cells #[.int .i64 a.kind,.int .i64 a.num,.string a.text,.slice A a.items.length ca,.slice A' a.names.length ca'] 25)).alloc (.cells #[.int .i64 b.kind,.int .i64 b.num,.string b.text,.slice B b.items.length cb,.slice B' b.names.length cb'] 25)):=(ae _).alloc (by simp) _;have X2:=hid hX2;have X3:=hid hX3;have HB0:=hid hB0;have HDA:=hid hda;have HDB:=hid hdb;have HR:Hid (fK a b=if ao a=true∧ao b=true then gM a b else if ao b=true then -1 else if ao a=true then 1 else 0):=hid rfl;have MA:Hid (∀m,ao a=m→ao a=m):=hid fun _ h=>h;generalize fK a b=R at *;clear ha hb hX2 hX3 hB0 hda hdb MA;go_enter Tryz.func146,Tryz.ntmps146;go_wp2_with fail;obtain⟨w1,hw1⟩: ∃w1:World,w1=((w.alloc (.cells #[.int .i64 a.kind,.int .i64 a.num,.string a.text,.slice A a.items.length ca,.slice A' a.names.length ca'] 25)).alloc (.cells #[.int .i64 b.kind,.int .i64 b.num,.string b.text,.slice B b.items.length cb,.slice B' b.names.length cb'] 25)):=⟨_,rfl⟩;rw[←hw1]at X2 X3 HB0 ⊢;have SZ1:Hid (w1.heap.size=w.heap.size+2):=hid (by rw[hw1];simp);clear hw1;refine bq [0,2,1,3,4,5] (by kernel_rfl) (by kernel_rfl) (fun _ d _ _ _ h=>by cases d<;>exact h) ?_;simp only[atR];have q0:=aa (B:=w1.heap.size) (w:=w1.drew) X2.out.c0 (by have:=SZ1.out;simp;omega);have q1:=aa (B:=w1.heap.size) (w:=w1.drew) X2.out.c1 (by have:=SZ1.out;simp;omega);have q2:=aa (B:=w1.heap.size) (w:=w1.drew) X2.out.c2 (by have:=SZ1.out;simp;omega);have q3:=aa (B:=w1.heap.size) (w:=w1.drew) X2.out.c3 (by have:=SZ1.out;simp;omega)
 have q4:=aa (B:=w1.heap.size) (w:=w1.drew) X2.out.c4 (by have:=SZ1.out;simp;omega);have r0:=aa (B:=w1.heap.size) (w:=w1.drew) X3.out.c0 (by have:=SZ1.out;simp;omega);have r1:=aa (B:=w1.heap.size) (w:=w1.drew) X3.out.c1 (by have:=SZ1.out;simp;omega);have r2:=aa (B:=w1.heap.size) (w:=w1.drew) X3.out.c2 (by have:=SZ1.out;simp;omega);have r3:=aa (B:=w1.heap.size) (w:=w1.drew) X3.out.c3 (by have:=SZ1.out;simp;omega);have r4:=aa (B:=w1.heap.size) (w:=w1.drew) X3.out.c4 (by have:=SZ1.out;simp;omega);first|with_reducible refine ak ?_ |with_reducible refine ag ?_ |refine ak ?_ |refine ag ?_
 simp only[List.takeWhile,List.dropWhile,aF,Nat.reduceBNe];repeat(go_big_quiet_step (fail))
 first|with_reducible refine wpQuiet_nil ?_ |refine wpQuiet_nil ?_
 have hS1:Hid (∀b,S b→b<w1.drew.heap.size):=hid (ct hS HB0.out.drew);first|with_reducible refine aL ?_ (fun K hK=> ?_)|with_reducible refine aC ?_ (fun K hK=> ?_)|refine aL ?_ (fun K hK=> ?_)|refine aC ?_ (fun K hK=> ?_)
 ·rfl
 go_simp
 refine(iQ S a _ _ hS1.out (HVA.out.below hS HB0.out.drew) HDA.out).mono ?_;rintro e w2 ⟨rfl,hb⟩;refine hK _ _ hb ?_;clear hK K;try simp only[Act.put]
 have HB2:=hid (am HB0.out (aO hb));have X2':=hid (X2.out.call (aO hb));have X3':=hid (X3.out.call (aO hb));clear hb;first|with_reducible refine ak ?_ |with_reducible refine ag ?_ |refine ak ?_ |refine ag ?_
 simp only[List.takeWhile,List.dropWhile,aF,Nat.reduceBNe];repeat(go_big_quiet_step (fail))
 first|with_reducible refine wpQuiet_nil ?_ |refine wpQuiet_nil ?_
 first|with_reducible refine aL ?_ (fun K hK=> ?_)|with_reducible refine aC ?_ (fun K hK=> ?_)|refine aL ?_ (fun K hK=> ?_)|refine aC ?_ (fun K hK=> ?_)
 ·rfl
 go_simp
 refine(iQ S b _ _ (ct hS HB2.out) (HVB.out.below hS HB2.out) HDB.out).mono ?_;rintro e w3 ⟨rfl,hb⟩;refine hK _ _ hb ?_;clear hK K;try simp only[Act.put]
 have HB3:=hid (am HB2.out hb);have X2:=hid (X2'.out.call hb);have X3:=hid (X3'.out.call hb);clear hb HB2 X2' X3' hS1 HB0 SZ1 q0 q1 q2 q3 q4 r0 r1 r2 r3 r4;first|with_reducible refine ak ?_ |with_reducible refine ag ?_ |refine ak ?_ |refine ag ?_
 simp only[List.takeWhile,List.dropWhile,aF,Nat.reduceBNe];repeat(go_big_quiet_step (fail))
 first|with_reducible refine wpQuiet_nil ?_ |refine wpQuiet_nil ?_
 unfold br;by_cases hma:ao a=true
 ·by_cases hmb:ao b=true
  ·have HF:Hid (R=gM a b):=hid (by rw[HR.out,if_pos ⟨hma,hmb⟩]);have HO:=hid (vJ S (ac a) a b _ _ w3 (Nat.le_refl _) hma hmb (ct hS HB3.out) (HVA.out.below hS HB3.out) (HVB.out.below hS HB3.out));have k0:=X2.out.c0;have k1:=X2.out.c1;have k2:=X2.out.c2;have k3:=X2.out.c3;have k4:=X2.out.c4;have g0:=X3.out.c0;have g1:=X3.out.c1;have g2:=X3.out.c2;have g3:=X3.out.c3;have g4:=X3.out.c4;clear HR;go_wp2_with fail;refine HO.out.mono ?_;rintro e w4 ⟨rfl,hb⟩;have HB4:=hid (am HB3.out hb);clear hb HO k0 k1 k2 k3 k4 g0 g1 g2 g3 g4;go_wp2_with fail;go_ret;exact⟨aH HF.out.symm,HB4.out⟩
  ·have HF:Hid (R=1):=hid (by rw[HR.out,if_neg (fun h=>hmb h.2),if_neg hmb,if_pos hma]);clear HR;go_wp2_with fail;go_ret;exact⟨aH HF.out.symm,HB3.out⟩
 ·by_cases hmb:ao b=true
  ·have HF:Hid (R= -1):=hid (by rw[HR.out,if_neg (fun h=>hma h.1),if_pos hmb]);clear HR;go_wp2_with fail;go_ret;exact⟨aH HF.out.symm,HB3.out⟩
  ·have HF:Hid (R=0):=hid (by rw[HR.out,if_neg (fun h=>hma h.1),if_neg hmb,if_neg hma]);clear HR;go_wp2_with fail;go_ret;exact⟨aH HF.out.symm,HB3.out⟩
theorem qK (S:Nat→Prop)(a b:VT)(va vb:Value)(w:World)(hS: ∀b,S b→b<w.heap.size)(ha:LV w S a va)(hb:LV w S b vb)(hda:ac a≤4611686018427387903)(hdb:ac b≤4611686018427387903):
  Calls Tryz.prog 108 #[va,vb] w fun e w'=>e= .returned (.bool (fK a b == 0))∧Below w.heap.size w w':=by
 have HVA:=hid ha;have HVB:=hid hb;obtain⟨A,ca,A',ca',rfl,-,-,-,-,-,-,-⟩:=ha.shape;obtain⟨B,cb,B',cb',rfl,-,-,-,-,-,-,-⟩:=hb.shape;have hB0:Below w.heap.size w ((w.alloc (.cells #[.int .i64 a.kind,.int .i64 a.num,.string a.text,.slice A a.items.length ca,.slice A' a.names.length ca'] 25)).alloc (.cells #[.int .i64 b.kind,.int .i64 b.num,.string b.text,.slice B b.items.length cb,.slice B' b.names.length cb'] 25)):=(ae _).alloc (by simp) _;have HC:=hid (lw S a b _ _ _ (ct hS hB0) (ha.below hS hB0) (hb.below hS hB0) hda hdb);have HB0:=hid hB0;clear ha hb hda hdb hB0;go_enter Tryz.func108,Tryz.ntmps108;go_wp2_with fail;refine HC.out.mono ?_;rintro e w2 ⟨rfl,hb⟩;have HB2:=hid (am HB0.out hb);clear hb HC HB0;go_wp2_with fail;go_ret;exact⟨rfl,HB2.out⟩
theorem gt {w u:World}{S:Nat→Prop}{A:Option Addr}{l:List VT}(hS: ∀b,S b→b<w.heap.size)(h:LVA w S A l)(hb:Below w.heap.size w u)(j:Nat)(hj:j<l.length):
  ∃p o A2 e2 A3 e3,A=some ⟨p,o,none⟩∧p<w.heap.size∧u.cell? ⟨p,o+j * 5,none⟩=some (.int .i64 l[j].kind)∧u.cell? ⟨p,o+j * 5+1,none⟩=some (.int .i64 l[j].num)∧u.cell? ⟨p,o+j * 5+2,none⟩=some (.string l[j].text)∧
   u.cell? ⟨p,o+j * 5+3,none⟩=some (.slice A2 l[j].items.length e2)∧u.cell? ⟨p,o+j * 5+4,none⟩=some (.slice A3 l[j].names.length e3)∧
   LV u S l[j] (.agg #[.int .i64 l[j].kind,.int .i64 l[j].num,.string l[j].text,.slice A2 l[j].items.length e2,.slice A3 l[j].names.length e3]):=by
 obtain⟨p,o,hA,hp,hv⟩:=h (by omega);obtain⟨c0,c1,c2,c3,c4,h0,h1,h2,h3,h4,hx⟩:=hv.at j hj;obtain⟨A2,e2,A3,e3,hag,-⟩:=hx.shape;injection hag with hag;injection hag with hag
 injection hag with y0 hag;injection hag with y1 hag;injection hag with y2 hag;injection hag with y3 hag;injection hag with y4 hag
 subst y0 y1 y2 y3 y4;have hk: ∀o,u.cell? ⟨p,o,none⟩=w.cell? ⟨p,o,none⟩:=fun o=>hb.cell (p:=⟨p,o,none⟩) (hS p hp);exact⟨p,o,A2,e2,A3,e3,hA,hS p hp,(hk _).trans h0,(hk _).trans h1,(hk _).trans h2,(hk _).trans h3,(hk _).trans h4,hx.below hS hb⟩
theorem mg {w u:World}{S:Nat→Prop}{A:Option Addr}{ns:List ByteArray}(hS: ∀b,S b→b<w.heap.size)(h:ai w S A ns)(hb:Below w.heap.size w u)(j:Nat)(hj:j<ns.length):
  ∃p o,A=some ⟨p,o,none⟩∧p<w.heap.size∧u.cell? ⟨p,o+j,none⟩=some (.string ns[j])∧ns[j].size≤140737488351232:=by
 obtain⟨p,o,hA,hp,hc⟩:=h (by omega);exact⟨p,o,hA,hS p hp,(hb.cell (p:=⟨p,o+j,none⟩) (hS p hp)).trans (hc j hj).1,(hc j hj).2⟩
theorem qk {w:World}{S:Nat→Prop}{A:Option Addr}{l:List VT}(h:LVA w S A l){t:VT}(ht:t∈l): ∃v,LV w S t v:=by
 obtain⟨j,hj,rfl⟩:=List.mem_iff_getElem.1 ht;obtain⟨p,o,hA,hp,hv⟩:=h (by omega);obtain⟨c0,c1,c2,c3,c4,-,-,-,-,-,hx⟩:=hv.at j hj;exact⟨_,hx⟩
/-! ### how many -/
theorem iO (d:Nat)(t:VT)(h:d≤40):bG d t=cG d (1+t.names.length) t.items:=by
 cases t;unfold bG;rw[if_neg (by omega)];rfl
theorem fN (d:Nat)(t:VT)(h:40<d):bG d t=1048576:=by cases t;unfold bG;exact if_pos h
theorem pm (d M:Nat): ∀(l:List VT) (n:Nat),n≤M+65536→(∀t∈l,bG (d+1) t≤M)→cG d n l≤M+65536
 | [],n,hn,_=>by unfold cG;exact hn
 |t::r,n,hn,h=>by
  unfold cG
  split
  ·exact pm d M r _ (by have:=h t (List.mem_cons_self ..);omega) (fun t ht=>h t (List.mem_cons_of_mem _ ht))
  ·exact hn
theorem zG {w:World}{S:Nat→Prop}: ∀(k d:Nat) (t:VT) (v:Value),d+k=41→LV w S t v→bG d t≤8796093021953+65536 * k:=by
 intro k
 induction k with
 |zero=>intro d t v hd h;rw[fN d t (by omega)];omega
 |succ k ih=>
  intro d t v hd h
  cases t with
  |mk kd i s l ns=>
   unfold LV at h;obtain⟨A,c,A',c',hv,h1,h2,h3,h4,h5,h6,h7⟩:=h;have e:=iO d (.mk kd i s l ns) (by omega)
   have hb:=pm d (8796093021953+65536 * k) l (1+ns.length) (by omega) (fun t ht=>by
    obtain⟨v,hv⟩:=qk h7 ht
    exact ih (d+1) t v (by omega) hv)
   refine Nat.le_trans (Nat.le_of_eq e) (Nat.le_trans hb ?_);rw[Nat.mul_add,Nat.add_assoc];exact Nat.le_refl _
theorem lO {l:List VT}{j:Nat}(d n:Nat)(h:j<l.length):cG d n (l.drop j)=if n<65536 then cG d (n+bG (d+1) l[j]) (l.drop (j+1))else n:=by
 rw[List.drop_eq_getElem_cons h];conv=>lhs;unfold cG
theorem jz (d n:Nat):cG d n []=n:=by unfold cG;rfl
theorem kH (d:Nat): ∀(l:List VT) (n:Nat),n≤cG d n l
 | [],n=>by rw[jz];omega
 |t::r,n=>by
  unfold cG
  split
  ·have:=kH d r (n+bG (d+1) t);omega
  ·omega
theorem nW (d:Nat): ∀(l:List VT) (n:Nat) {t:VT},t∈l→3000<bG (d+1) t→3000<cG d n l
 |a::r,n,t,ht,h=>by
  unfold cG
  split
  ·rcases List.mem_cons.1 ht with rfl|ht
   ·have:=kH d r (n+bG (d+1) t);omega
   ·exact nW d r _ ht h
  ·omega
theorem oO : ∀(l:List VT) (k:Nat),k<aK l→ ∃t∈l,k<ac t
 | [],k,h=>by unfold aK at h;omega
 |a::r,k,h=>by
  unfold aK at h;by_cases h1:k<ac a
  ·exact⟨a,List.mem_cons_self ..,h1⟩
  ·obtain⟨t,ht,hk⟩:=oO r k (by omega);exact⟨t,List.mem_cons_of_mem _ ht,hk⟩
theorem sf : ∀(k d:Nat) (t:VT),d+k=41→k<ac t→3000<bG d t:=by
 intro k
 induction k with
 |zero=>intro d t hd _;rw[fN d t (by omega)];omega
 |succ k ih=>
  intro d t hd h;rw[iO d t (by omega)];have ht:ac t=aK t.items+1:=by cases t;exact aN _ _ _ _ _
  obtain⟨x,hx,hk⟩:=oO t.items k (by omega);exact nW d _ _ hx (ih (d+1) x (by omega) hk)
theorem gP {t:VT}(h:di t=false):ac t≤41:=by
 refine Classical.byContradiction fun hn=> ?_;have:=sf 41 0 t rfl (by omega);unfold di at h;simp at h;omega
end Go.Proofs.YtgbopnlpaabelaaGreatDoor
