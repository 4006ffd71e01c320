/- The bytes of a message's code while they are put: the message's box, and the variable that holds them. -/
import Derived.Test.YtgfidiocmiolpaaGreatKEnV
import Derived.Test.YtgfidiocmiolpaaGreatKCodG
import Derived.Test.YtgfidiocmiolpaaGreatKDlV
set_option maxHeartbeats 64000000
set_option maxRecDepth 100000
set_option linter.unusedVariables false
set_option linter.unusedSimpArgs false
namespace Go.Proofs.YtgfidiocmiolpaaGreat
open Go.RowKit Go.Joins
structure PSt (w0 w:World)(g:Nat)(m:aQ)(EA:Option Addr)(ec:Nat)(SA:Option Addr)(sc:Nat)(l:List UInt8):Prop where
 b:Below g w0 w
 k:bx w g m EA ec SA sc
 h:hU w (g+2) (g+1) l
 z:g+2≤w.heap.size
section
variable {w0 w w':World} {g:Nat} {m:aQ} {EA:Option Addr} {ec:Nat} {SA:Option Addr} {sc:Nat} {l l':List UInt8}
theorem hU.below {B V:Nat}(h:hU w B V l)(hb:Below w.heap.size w w'):hU w' B V l:=by
 obtain⟨v,h1,h2⟩:=h;exact⟨v,(hb.block V (Array.getElem?_eq_some_iff.1 h1).1).trans h1,h2.below hb⟩
theorem PSt.call (h:PSt w0 w g m EA ec SA sc l)(hb:Below w.heap.size w w'):PSt w0 w' g m EA ec SA sc l:=
 ⟨h.b.trans (hb.mono (by have:=h.z;omega)),h.k.below hb,h.h.below hb,Nat.le_trans h.z hb.size⟩
theorem PSt.put (h:PSt w0 w g m EA ec SA sc l)(hh:hU w' (g+2) (g+1) l')(ho:gW (g+2) (g+1) w w'):PSt w0 w' g m EA ec SA sc l':=
 ⟨⟨ho.os.trans h.b.os,ho.tape.trans h.b.tape,ho.output.trans h.b.output,Nat.le_trans h.b.size ho.size,fun x hx=>(ho.block x (by omega) (by omega)).trans (h.b.block x hx)⟩,(ho.block g (by omega) (by omega)).trans h.k,hh,Nat.le_trans h.z ho.size⟩
theorem PSt.store {w1 w2:World}{v:Value}(h:PSt w0 w g m EA ec SA sc l)(hb:Below (g+2) w w1)(hv:aq w1 (g+2) v l')(ho:aJ w1 w2 (g+1))(hs:w2.heap[g+1]? =some (.cells #[v] 23 (0,0))):PSt w0 w2 g m EA ec SA sc l':=by
 have hz:=h.z;refine h.put ⟨v,hs,hv.other (by omega) ho⟩ ((gW.of hb).trans (gW.only ho (by have:=hb.size;omega)))
theorem PSt.start (m:aQ)(EA:Option Addr)(ec:Nat)(SA:Option Addr)(sc:Nat)(w:World):PSt w ((w.alloc (.cells #[.int .i64 m.kind,.int .i64 m.frm,.int .i64 m.tgt,.int .i64 m.term,.int .i64 m.index,.int .i64 m.logTerm,.int .i64 m.commit,.int .i64 m.round,.bool m.ok,.slice EA m.ents.length ec,.slice SA m.snap.length sc] 25)).alloc (.cells #[.slice none 0 0] 23)) w.heap.size m EA ec SA sc []:=by
 have hz1:(w.alloc (.cells #[.int .i64 m.kind,.int .i64 m.frm,.int .i64 m.tgt,.int .i64 m.term,.int .i64 m.index,.int .i64 m.logTerm,.int .i64 m.commit,.int .i64 m.round,.bool m.ok,.slice EA m.ents.length ec,.slice SA m.snap.length sc] 25)).heap.size=w.heap.size+1:=by simp
 have hz2:((w.alloc (.cells #[.int .i64 m.kind,.int .i64 m.frm,.int .i64 m.tgt,.int .i64 m.term,.int .i64 m.index,.int .i64 m.logTerm,.int .i64 m.commit,.int .i64 m.round,.bool m.ok,.slice EA m.ents.length ec,.slice SA m.snap.length sc] 25)).alloc (.cells #[.slice none 0 0] 23)).heap.size=w.heap.size+2:=by simp
 refine⟨(ae _).alloc (by omega) _,?_,⟨.slice none 0 0,?_,World.ownsRow_nil _ _ _ _⟩,by omega⟩
 ·unfold bx;rw[Below.heap_alloc _ _ _ (by omega)];exact heap_alloc_new _ _
 ·rw[←hz1];exact heap_alloc_new _ _
theorem PSt.var (h:PSt w0 w g m EA ec SA sc l): ∃A c,w.heap[g+1]? =some (.cells #[.slice A l.length c] 23 (0,0))∧aq w (g+2) (.slice A l.length c) l:=by
 obtain⟨v,h1,h2⟩:=h.h;obtain⟨A,c,rfl⟩:=h2.slice;exact⟨A,c,h1,h2⟩
def cV (l:Int)(m:aQ)(j:Nat):List UInt8:=
 (if decide (0<j) && bZ l 1 then grp m.index.toNat else [])++((if decide (1<j) && bZ l 2 then grp m.logTerm.toNat else [])++((if decide (2<j) && bZ l 4 then grp m.commit.toNat else [])++(if decide (3<j) && bZ l 8 then grp m.round.toNat else [])))
theorem oP :dp 64:=fun _ _=>by simp[callFunc,go_sem,Tryz.func64,Tryz.f64]
end
def em (m:aQ)(j:Nat):Int:=if j=0 then m.index else if j=1 then m.logTerm else if j=2 then m.commit else m.round
theorem ug (l:Int)(m:aQ)(j:Nat)(hj:j<4)(h:bZ l ((2 ^ j:Nat):Int)=false):cV l m (j+1)=cV l m j:=by
 obtain rfl|rfl|rfl|rfl:j=0∨j=1∨j=2∨j=3:=by omega
 ·have h':bZ l 1=false:=h;simp[cV,h']
 ·have h':bZ l 2=false:=h;simp[cV,h']
 ·have h':bZ l 4=false:=h;simp[cV,h']
 ·have h':bZ l 8=false:=h;simp[cV,h']
theorem tx (l:Int)(m:aQ)(j:Nat)(hj:j<4)(h:bZ l ((2 ^ j:Nat):Int)=true):cV l m (j+1)=cV l m j++grp (em m j).toNat:=by
 obtain rfl|rfl|rfl|rfl:j=0∨j=1∨j=2∨j=3:=by omega
 ·have h':bZ l 1=true:=h;simp[cV,h',em]
 ·have h':bZ l 2=true:=h;simp[cV,h',em]
 ·have h':bZ l 4=true:=h;simp[cV,h',em]
 ·have h':bZ l 8=true:=h;simp[cV,h',em]
theorem qS (l:Int)(m:aQ):cV l m 0= []:=by simp[cV]
theorem mG (l:Int)(m:aQ)(j:Nat):(cV l m j).length≤44:=by
 have h1:=(al m.index.toNat).1;have h2:=(al m.logTerm.toNat).1;have h3:=(al m.commit.toNat).1;have h4:=(al m.round.toNat).1;unfold cV;simp only[List.length_append]
 repeat' split
 all_goals try simp only[List.length_nil]
 all_goals omega
theorem nM (w0:World)(g:Nat)(m:aQ)(EA:Option Addr)(ec:Nat)(SA:Option Addr)(sc:Nat)(l:Int)(b:List UInt8)(w:World)(h:PSt w0 w g m EA ec SA sc b)
  (hn: ∀j,j<4→bZ l ((2 ^ j:Nat):Int)=true→0≤em m j∧em m j≤4611686018427387904) (hl:b.length≤1000):
  Calls Tryz.prog 63 #[.int .i64 l,.pointer (some ⟨g,0,none⟩),.func (.func 64) #[] #[.pointer (some ⟨g+1,0,none⟩)]] w fun e w'=>e= .returned (.tuple #[])∧PSt w0 w' g m EA ec SA sc (b++cV l m 4):=by
 refine mX 64 #[.pointer (some ⟨g+1,0,none⟩)] oP g l (fun j u=>PSt w0 u g m EA ec SA sc (b++cV l m j)) w (fun j u u' hu hb=>hu.call hb) (fun j u hj hx hu=>by rw[ug l m j hj hx];exact hu) (fun j u hj hx hu=> ?_) (by rw[qS,List.append_nil];exact h);have hnn:=hn j hj hx
 have hcell:(#[.int .i64 m.kind,.int .i64 m.frm,.int .i64 m.tgt,.int .i64 m.term,.int .i64 m.index,.int .i64 m.logTerm,.int .i64 m.commit,.int .i64 m.round,.bool m.ok,.slice EA m.ents.length ec,.slice SA m.snap.length sc]:Array Value)[4+j]? =some (.int .i64 ((em m j).toNat:Int)):=by
  have e:((em m j).toNat:Int)=em m j:=by omega
  rw[e];obtain rfl|rfl|rfl|rfl:j=0∨j=1∨j=2∨j=3:=by omega
  all_goals rfl
 have hlen:=mG l m j;refine(sJ (g+2) (g+1) g (4+j) (em m j).toNat 25 _ (b++cV l m j) u (by decide) hu.k hcell hu.h (by omega) hu.z (by omega) (by rw[List.length_append];omega)).mono ?_;rintro e u' ⟨rfl,h1,h2⟩;refine⟨rfl,?_⟩;rw[tx l m j hj hx,←List.append_assoc];exact hu.put h1 h2
open Lib (hid)
def ea (m:aQ)(j:Nat):List UInt8:=[UInt8.ofNat m.kind.toNat,UInt8.ofNat m.frm.toNat,UInt8.ofNat m.tgt.toNat].take j
theorem sK (m:aQ)(EA:Option Addr)(ec:Nat)(SA:Option Addr)(sc:Nat)(hk:0≤m.kind∧m.kind≤255)(hf:0≤m.frm∧m.frm≤255)(ht:0≤m.tgt∧m.tgt≤255)(j:Nat)(hj:j<3):
  ∃(n:Int) (kb:UInt8),(#[.int .i64 m.kind,.int .i64 m.frm,.int .i64 m.tgt,.int .i64 m.term,.int .i64 m.index,.int .i64 m.logTerm,.int .i64 m.commit,.int .i64 m.round,.bool m.ok,.slice EA m.ents.length ec,.slice SA m.snap.length sc]:Array Value)[j]? =some (.int .i64 n)∧n % 256=(kb.toNat:Int)∧ea m (j+1)=ea m j++[kb]:=by
 obtain rfl|rfl|rfl:j=0∨j=1∨j=2:=by omega
 ·exact⟨m.kind,UInt8.ofNat m.kind.toNat,rfl,by rw[bA _ (by omega)];omega,rfl⟩
 ·exact⟨m.frm,UInt8.ofNat m.frm.toNat,rfl,by rw[bA _ (by omega)];omega,rfl⟩
 ·exact⟨m.tgt,UInt8.ofNat m.tgt.toNat,rfl,by rw[bA _ (by omega)];omega,rfl⟩
theorem rq (g j:Nat)(hj:j<3)(w:World):(Instr.index 93 (.agg #[.pointer (some ⟨g,0,none⟩),.pointer (some ⟨g,1,none⟩),.pointer (some ⟨g,2,none⟩)]) (.int .i64 (j:Int))).run Tryz.prog w= .ok (.pointer (some ⟨g,j,none⟩)) w:=by
 obtain rfl|rfl|rfl:j=0∨j=1∨j=2:=by omega
 ·exact wC _ _ _ w
 ·exact wG _ _ _ w
 ·exact wL _ _ _ w
def K9 (g:Nat)(w w':World):Prop:=K8 w w'∧Below g w w'
instance k9_inh (g:Nat) (w:World):Inhabited (cW (K9 g) w):=⟨⟨w,⟨Lib.OthersKept.refl _ _ _,Below.refl _ _⟩⟩⟩
def fT (m:aQ):List UInt8:=ea m 3++grp m.term.toNat++cV (aM m.kind) m 4++((if hOk m.kind then [if m.ok then 1 else 0]else [])++((if bi m.kind then fG m.ents else [])++(if bw m.kind then txt ⟨m.snap.toArray⟩else [])))
theorem rA (k:Int):hOk k=true→bi k=false∧bw k=false:=by
 unfold hOk bi bw;simp only[Bool.or_eq_true,decide_eq_true_eq,decide_eq_false_iff_not];omega
theorem mM (k:Int):bi k=true→bw k=false:=by
 unfold bi bw;simp only[decide_eq_true_eq,decide_eq_false_iff_not];omega
def jH (m:aQ)(EA:Option Addr)(ec:Nat):Prop:=bi m.kind=true→ ∀(N B:Nat) (v:Value) (l:List UInt8) (W:World),N≤B→cp W (fun b=>b<N) EA m.ents→aq W B v l→B≤W.heap.size→l.length≤100→Calls Tryz.prog 66 #[v,.slice EA m.ents.length ec] W (gg B (l++fG m.ents) W)
theorem sI (m:aQ)(EA:Option Addr)(ec:Nat)(hsm: ∀e∈m.ents,SmE e)(hmay: ∀e∈m.ents,bJ e=true)(hn8:m.ents.length≤8)(hfl:(cj m.ents).length≤2000000000):jH m EA ec:=fun _ N B v l W hN hp ho hB hl=>
 jK (fun b=>b<N) EA ec m.ents B v l W (fun b hb=>Nat.lt_of_lt_of_le hb hN) hp hn8 hmay hsm ho hB (by omega)
theorem tD (m:aQ)(EA:Option Addr)(ec:Nat)(SA:Option Addr)(sc:Nat)(w:World)(hk:0≤m.kind∧m.kind≤255)(hf:0≤m.frm∧m.frm≤255)(ht:0≤m.tgt∧m.tgt≤255)(T:Nat)(hT:m.term=T)(hT1:T≤1099511627776)(hn: ∀j,j<4→bZ (aM m.kind) ((2 ^ j:Nat):Int)=true→0≤em m j∧em m j≤4611686018427387904)
  (h:aT w (fun b=>b<w.heap.size) m EA ec SA sc) (hpe:jH m EA ec) (hsl:m.snap.length≤65536):
  Calls Tryz.prog 30 #[.agg #[.int .i64 m.kind,.int .i64 m.frm,.int .i64 m.tgt,.int .i64 m.term,.int .i64 m.index,.int .i64 m.logTerm,.int .i64 m.commit,.int .i64 m.round,.bool m.ok,.slice EA m.ents.length ec,.slice SA m.snap.length sc]] w (iN (fT m) w):=by
 have HAT:=hid h;have HPE:Hid (bi m.kind=true→ ∀(N B:Nat) (v:Value) (l:List UInt8) (W:World),N≤B→cp W (fun b=>b<N) EA m.ents→aq W B v l→B≤W.heap.size→l.length≤100→Calls Tryz.prog 66 #[v,.slice EA m.ents.length ec] W (gg B (l++fG m.ents) W)):=hid hpe;have HSL:=hid hsl;clear h hpe hsl;have HOO:=hid (And.intro (rA m.kind) (mM m.kind));obtain⟨g,hg⟩: ∃g,g=w.heap.size:=⟨_,rfl⟩;have hz1:(w.alloc (.cells #[.int .i64 m.kind,.int .i64 m.frm,.int .i64 m.tgt,.int .i64 m.term,.int .i64 m.index,.int .i64 m.logTerm,.int .i64 m.commit,.int .i64 m.round,.bool m.ok,.slice EA m.ents.length ec,.slice SA m.snap.length sc] 25)).heap.size=g+1:=by rw[hg];simp
 obtain⟨w1,hw1⟩: ∃W,W=(w.alloc (.cells #[.int .i64 m.kind,.int .i64 m.frm,.int .i64 m.tgt,.int .i64 m.term,.int .i64 m.index,.int .i64 m.logTerm,.int .i64 m.commit,.int .i64 m.round,.bool m.ok,.slice EA m.ents.length ec,.slice SA m.snap.length sc] 25)).alloc (.cells #[.slice none 0 0] 23):=⟨_,rfl⟩;have h0:PSt w w1 g m EA ec SA sc (ea m 0):=by rw[hw1,hg];exact PSt.start m EA ec SA sc w
 have H1:=hid h0;have HN:=hid (sK m EA ec SA sc hk hf ht);have HG:=hid hg;have HT:=hid (And.intro hT hT1);have HNUM:=hid hn;have hmf: ∀(fn:Fn) (first cap:Array Value) (w:World),(Instr.makeFunc fn first cap).run Tryz.prog w= .ok (.func fn first cap) w:=fun _ _ _ _=>rfl;clear h0 hk hf ht hT hT1 hn;go_enter Tryz.func30,Tryz.ntmps30;go_wp2_with fail;rw[←hw1];try rw[hz1]
 try rw[←hg]
 clear hw1 hz1 hg;refine(kj g w1).mono ?_;rintro e w2 ⟨rfl,hb⟩;have H2:=hid (H1.out.call hb);clear hb H1;unfold j8;go_wp2_with fail
 go_loopw [9] (fun i wr=> ∃j:Nat,i= .int .i64 j∧j≤3∧Hid (PSt w wr g m EA ec SA sc (ea m j))) (fun i _=>3 - (intOf i).toNat)
 case atStart=>exact⟨0,rfl,by omega,H2⟩
 case round=>
  clear H2;obtain⟨j,rfl,hj,HI⟩:=hrel;by_cases hlt:j<3
  ·have hix:=rq g j hlt wr;obtain⟨n,kb,hcell,hkb,hnx⟩:=HN.out j hlt;obtain⟨wd,hwd⟩: ∃W,W=wr.drew:=⟨_,rfl⟩;have hpd:PSt w wd g m EA ec SA sc (ea m j):=HI.out.call (by rw[hwd];exact(Below.refl _ _).drew);obtain⟨A,c,hv,ho⟩:=hpd.var;have x1:=b9 (w:=wd) (i:=0) hv (by decide) rfl;have x2:=b9 (w:=wd) (i:=j) hpd.k (by decide) hcell;have HP:=hid hpd;have HV:=hid (And.intro hv ho);have HX:=hid (And.intro hkb hnx);have hlen:(ea m j).length≤3:=by unfold ea;rw[List.length_take];simp;omega
   have HL:=hid hlen;clear hpd hv ho hcell hkb hnx HI hlen;go_wp2_with fail;refine bT K8 (fun _=>Lib.OthersKept.refl _ _ _) (fun _ _ _ h k=>h.trans k) [7] (.pure [0,1,2,3,4] (.step 5 (.step 6 (.tail [7])))) (by kernel_rfl) (by kernel_rfl) (fun _ d _ _ _ h=>by cases d<;>exact h) ?_;rw[←hwd];clear hwd hix;refine eH ?_;simp only[atR];show wpQuiet _ _ _ _ [_,_,_,_,_] _;try simp only[acR,Act.put]at *
   repeat(go_big_quiet_step (fail))
   first|with_reducible refine wpQuiet_nil ?_ |refine wpQuiet_nil ?_
   clear x1 x2;refine bu rfl (fun K hK=> ?_)
   go_simp
   have hba:=ae (w:=wd) (.cells #[.int .u8 (n % 256)] 5);refine hK _ _ (.inr (az hba)) ?_;clear hK K;have HO5:=hid (HV.out.2.below hba);have HBA:=hid hba;have HR5:=hid (Rd.one' (w:=wd) rfl kb HX.out.1);clear hba;obtain⟨w5,hw5⟩: ∃W,W=wd.alloc (.cells #[.int .u8 (n % 256)] 5):=⟨_,rfl⟩;rw[←hw5]at HO5 HBA HR5 ⊢;clear hw5;try simp only[acR,Act.put]
   refine jh rfl rfl (fun K hK=> ?_);refine bM _ _ rfl (g+2) _ (ea m j) rfl HO5.out (wd.heap.size+1) _ [kb] rfl HR5.out (by simp) (Nat.le_trans HP.out.z HBA.out.size) (by have:=HL.out;simp;omega) (fun v4 w4 hv4 hg4=> ?_);refine hK _ _ (.inr (aA HO5.out hg4)) ?_;clear hK K;have HB4:=hid (ax (HBA.out.mono HP.out.z) HO5.out (Nat.le_trans HP.out.z HBA.out.size) hg4);have hv3:=((az HBA.out).trans (aA HO5.out hg4)) (g+1) _ HV.out.1 (fun h=>by cases h) (fun c fz h=>by injection h with _ h;exact absurd h (by decide));have HV3:=hid hv3;obtain⟨A',c',hs⟩:=hv4.slice;have hcl:v4.cells= #[v4]:=by rw[hs];rfl
   have hoc:(#[v4]:Array Value).all (·.oneCell')=true:=by rw[hs];simp[Value.oneCell']
   have HO4:=hid hv4;clear hv4 hg4 hv3 hs HO5 HBA HR5 HV;refine j1 rfl (fun K hK=> ?_);rw[if_pos (dX rfl)];refine fo 23 _ _ rfl rfl (g+1) 0 rfl v4 #[v4] rfl hcl _ #[v4] 23 HV3.out (by simp) (by kernel_rfl) hoc rfl (fun w6 h6 ho6 hz6=> ?_);refine hK _ _ ?_;clear hK K;have HI6:Hid (PSt w w6 g m EA ec SA sc (ea m (j+1))):=hid (by rw[HX.out.2];exact HP.out.store HB4.out HO4.out ho6 h6);clear h6 ho6 hz6 hcl hoc HO4 HB4 HV3 HP HX HL;refine eJ ?_;go_wp2_with fail
   go_roundw
   case rel=>exact⟨j+1,by go_num,by omega,HI6⟩
   case measure=>simp[intOf];omega
  ·obtain rfl:j=3:=by omega
   clear hj hlt HN;obtain⟨A,c,hv,ho⟩:=HI.out.var;have y0:wr.cell? ⟨g+1,0,none⟩=some (.slice A (ea m 3).length c):=Go.Joins.cell_of_block hv 0;have y1:=HI.out.k.g3;rw[HT.out.1]at y1;have HC:=hid (dY (g+2) T _ (ea m 3) wr ho HI.out.z (by have:=HT.out.2;omega) (by show(3:Nat)≤_;omega));have HV:=hid hv;clear hv ho;go_wp2_with fail;refine HC.out.mono ?_;rintro e w3 ⟨v3,rfl,hv3,hb3,hk3⟩;have h3:=hk3 (g+1) _ HV.out (fun h=>by cases h) (fun c fz h=>by injection h with _ h;exact absurd h (by decide));obtain⟨A',c',hs⟩:=hv3.slice;have hcl:v3.cells= #[v3]:=by rw[hs];rfl
   have hoc:(#[v3]:Array Value).all (·.oneCell')=true:=by rw[hs];simp[Value.oneCell']
   have H3:=hid h3;have HO3:=hid hv3;have HB3:=hid hb3;clear hv3 hb3 hk3 h3 hs y0 y1 HC HV;go_wp2_with(refine am (by rfl) 23 _ _ rfl rfl (g+1) 0 rfl v3 #[v3] rfl hcl _ #[v3] 23 H3.out (by simp) (by kernel_rfl) hoc rfl ?_;intro w6 h6 ho6 hz6;have HI6:Hid (PSt w w6 g m EA ec SA sc (ea m 3++grp T)):=hid (HI.out.store HB3.out HO3.out ho6 h6);have y2:=HI6.out.k.g0;clear h6 ho6 hz6);clear hcl hoc H3 HO3 HB3 HI;refine(eK m.kind _).mono ?_;rintro e w7 ⟨rfl,rfl⟩;clear y2;have HE:=hid (nM w g m EA ec SA sc (aM m.kind) (ea m 3++grp T) w7 HI6.out HNUM.out (by have:=(al T).1;rw[List.length_append];show 3+_≤_;omega));go_wp2_with fail;refine HE.out.mono ?_;rintro e w8 ⟨rfl,h8⟩;have H8:=hid h8;clear h8 HE HI6 HNUM;obtain⟨pre,hpre⟩: ∃pre,pre=ea m 3++grp T++cV (aM m.kind) m 4:=⟨_,rfl⟩;rw[←hpre]at H8;have HPRE:=hid hpre;clear hpre;have hpl:pre.length≤100:=by rw[HPRE.out,List.length_append,List.length_append];have:=(al T).1;have:=mG (aM m.kind) m 4;show 3+_+_≤_;omega
   have HPL:=hid hpl;clear hpl;have HH1:=hid (ch (aM m.kind) 16);have HH2:=hid (ch (aM m.kind) 32);have HH3:=hid (ch (aM m.kind) 64);rw[qT]at HH1;rw[kN]at HH2;rw[ku]at HH3
   have hcm:fT m=pre++((if hOk m.kind then [if m.ok then 1 else 0]else [])++((if bi m.kind then fG m.ents else [])++(if bw m.kind then txt ⟨m.snap.toArray⟩else []))):=by
    unfold fT;rw[HPRE.out,HT.out.1];rfl
   obtain⟨b1,hb1⟩: ∃b,b=hOk m.kind:=⟨_,rfl⟩;obtain⟨b2,hb2⟩: ∃b,b=bi m.kind:=⟨_,rfl⟩;obtain⟨b3,hb3⟩: ∃b,b=bw m.kind:=⟨_,rfl⟩;rw[←hb1]at HH1 HOO hcm;rw[←hb2]at HH2 HOO hcm HPE;rw[←hb3]at HH3 HOO hcm;have HCM:=hid hcm;clear hb1 hb2 hb3 hcm;obtain⟨L,hL⟩: ∃L,L=aM m.kind:=⟨_,rfl⟩;rw[←hL]at HH1 HH2 HH3 ⊢;clear hL
   cases b1 with
   |false=>
    go_wp2_with fail;refine(HH1.out w8).mono ?_;rintro e w9 ⟨rfl,rfl⟩
    cases b2 with
    |false=>
     go_wp2_with fail;refine(HH2.out w9).mono ?_;rintro e w10 ⟨rfl,rfl⟩
     cases b3 with
     |false=>
      go_wp2_with fail;refine(HH3.out w10).mono ?_;rintro e w11 ⟨rfl,rfl⟩;obtain⟨A,c,hv,ho⟩:=H8.out.var;have y0:=Go.Joins.cell_of_block hv 0;have y0':w11.cell? ⟨g+1,0,none⟩=some (.slice A (pre).length c):=y0;have HO:=hid ho;clear hv ho y0;go_wp2_with fail;go_ret
      exact⟨_,rfl,by rw[HCM.out,←HG.out];simpa using HO.out.base (Nat.le_add_right g 2),by rw[←HG.out];exact H8.out.b⟩
     |true=>
      go_wp2_with fail;refine(HH3.out w10).mono ?_;rintro e w11 ⟨rfl,rfl⟩;obtain⟨wd,hwd⟩: ∃W,W=w11.drew:=⟨_,rfl⟩;have hpd:PSt w wd g m EA ec SA sc pre:=H8.out.call (by rw[hwd];exact(Below.refl _ _).drew);obtain⟨A,c,hv,ho⟩:=hpd.var;have x1: ∀p:cW (K9 g) wd,p.u.cell? ⟨g+1,0,none⟩=some (.slice A pre.length c):=fun p=>b9 (w:=wd) (i:=0) hv (by decide) rfl ⟨p.u,p.h.1⟩;have x2: ∀p:cW (K9 g) wd,p.u.cell? ⟨g,10,none⟩=some (.slice SA m.snap.length sc):=fun p=>b9 (w:=wd) (i:=10) hpd.k (by decide) rfl ⟨p.u,p.h.1⟩
      have x3: ∀p:cW (K9 g) wd,(convert 23 9 (.slice SA m.snap.length sc)).run Tryz.prog p.u= .ok (.string ⟨m.snap.toArray⟩) p.u:=fun p=>by
       have hat:=HAT.out;rw[←HG.out]at hat;exact Rd.strY ((hat.snap.keep fun b hb=>(p.h.2.block b hb).trans (hpd.b.block b hb)).rd (fun b hb=>hb) hat.scap hat.s63 hat.snil)
      have HP:=hid hpd;have HV:=hid (And.intro hv ho);obtain⟨sx,hsx⟩: ∃sx:ByteArray,sx=⟨m.snap.toArray⟩:=⟨_,rfl⟩;have hss:sx.size≤65536:=by rw[hsx];show m.snap.toArray.size≤_;rw[List.size_toArray];exact HSL.out
      have HTX:=hid (er sx wd (by omega));have HSS:=hid hss;rw[←hsx]at x3 HCM;clear hpd hv ho hsx hss;go_wp2_with fail;refine bT (K9 g) (fun _=>⟨Lib.OthersKept.refl _ _ _,Below.refl _ _⟩) (fun _ _ _ h k=>⟨h.1.trans k.1,h.2.trans k.2⟩) [6] (.pure [0,1,2,3] (.step 4 (.step 5 (.tail [6])))) (by kernel_rfl) (by kernel_rfl) (fun _ d _ _ _ h=>by cases d<;>exact h) ?_;rw[←hwd];clear hwd;refine eH ?_;simp only[atR];show wpQuiet _ _ _ _ [_,_,_,_] _;try simp only[acR,Act.put]at *
      repeat(go_big_quiet_step (fail))
      first|with_reducible refine wpQuiet_nil ?_ |refine wpQuiet_nil ?_
      clear x1 x2 x3;refine bu rfl (fun K hK=> ?_)
      go_simp
      refine HTX.out.mono ?_;rintro e w5 ⟨v5,rfl,hv5,hb5⟩;refine hK _ _ (.inr ⟨az hb5,hb5.mono (by have:=HP.out.z;omega)⟩) ?_;clear hK K HTX;have HO5:=hid (HV.out.2.below hb5);have HBA:=hid hb5;have HR5:=hid hv5;clear hv5 hb5;try simp only[acR,Act.put]
      refine jh rfl rfl (fun K hK=> ?_);refine bM _ _ rfl (g+2) _ pre rfl HO5.out w5.heap.size _ (txt sx) rfl HR5.out.rd (by unfold txt;have:=(al sx.size).2;rw[List.length_append];omega) (Nat.le_trans HP.out.z HBA.out.size) (by have h1:=HPL.out;have h2:=HSS.out;have h3:=jZ sx;have h4:=(al sx.size).1;unfold txt;rw[List.length_append];have h5:sx.data.toList.length=sx.size:=rfl;omega) (fun v4 w4 hv4 hg4=> ?_);have hb4:=ax (HBA.out.mono HP.out.z) HO5.out (Nat.le_trans HP.out.z HBA.out.size) hg4;refine hK _ _ (.inr ⟨aA HO5.out hg4,ax (Below.refl _ _) (HO5.out.base (Nat.le_add_right g 2)) (by have:=HP.out.z;have:=HBA.out.size;omega) hg4⟩) ?_;clear hK K;have HB4:=hid hb4;have hv3:=((az HBA.out).trans (aA HO5.out hg4)) (g+1) _ HV.out.1 (fun h=>by cases h) (fun c fz h=>by injection h with _ h;exact absurd h (by decide));have HV3:=hid hv3;obtain⟨A',c',hs⟩:=hv4.slice;have hcl:v4.cells= #[v4]:=by rw[hs];rfl
      have hoc:(#[v4]:Array Value).all (·.oneCell')=true:=by rw[hs];simp[Value.oneCell']
      have HO4:=hid hv4;clear hb4 hv4 hg4 hv3 hs HO5 HBA HR5 HV;refine j1 rfl (fun K hK=> ?_);rw[if_pos (dX rfl)];refine fo 23 _ _ rfl rfl (g+1) 0 rfl v4 #[v4] rfl hcl _ #[v4] 23 HV3.out (by simp) (by kernel_rfl) hoc rfl (fun w6 h6 ho6 hz6=> ?_);refine hK _ _ ?_;clear hK K;have HI6:Hid (PSt w w6 g m EA ec SA sc (pre++txt sx)):=hid (HP.out.store HB4.out HO4.out ho6 h6);clear h6 ho6 hz6 hcl hoc HO4 HB4 HV3 HP HSS;refine eJ ?_;obtain⟨A,c,hv,ho⟩:=HI6.out.var;have y0:=Go.Joins.cell_of_block hv 0;have y0':w6.cell? ⟨g+1,0,none⟩=some (.slice A (pre++txt sx).length c):=y0;have HO:=hid ho;clear hv ho y0;go_wp2_with fail;go_ret
      exact⟨_,rfl,by rw[HCM.out,←HG.out];simpa using HO.out.base (Nat.le_add_right g 2),by rw[←HG.out];exact HI6.out.b⟩
    |true=>
     obtain rfl:b3=false:=HOO.out.2 rfl;obtain⟨A,c,hv,ho⟩:=H8.out.var;have y0:w9.cell? ⟨g+1,0,none⟩=some (.slice A pre.length c):=Go.Joins.cell_of_block hv 0;have y1:=H8.out.k.g9;have HC:=hid (HPE.out rfl g (g+2) _ pre w9 (by omega) (cJ.keep cU (by rw[HG.out];exact HAT.out.ents) (fun b hb=>H8.out.b.block b hb)) ho H8.out.z (by have:=HPL.out;omega));have HV:=hid hv;clear hv ho;go_wp2_with fail;refine(HH2.out w9).mono ?_;rintro e w10 ⟨rfl,rfl⟩;go_wp2_with fail;refine HC.out.mono ?_;rintro e w3 ⟨v3,rfl,hv3,hb3,hk3⟩;have h3:=hk3 (g+1) _ HV.out (fun h=>by cases h) (fun c fz h=>by injection h with _ h;exact absurd h (by decide));obtain⟨A',c',hs⟩:=hv3.slice;have hcl:v3.cells= #[v3]:=by rw[hs];rfl
     have hoc:(#[v3]:Array Value).all (·.oneCell')=true:=by rw[hs];simp[Value.oneCell']
     have H3:=hid h3;have HO3:=hid hv3;have HB3:=hid hb3;clear hv3 hb3 hk3 h3 hs y0 y1 HC HV;go_wp2_with(refine am (by rfl) 23 _ _ rfl rfl (g+1) 0 rfl v3 #[v3] rfl hcl _ #[v3] 23 H3.out (by simp) (by kernel_rfl) hoc rfl ?_;intro w6 h6 ho6 hz6;have HI6:Hid (PSt w w6 g m EA ec SA sc (pre++fG m.ents)):=hid (H8.out.store HB3.out HO3.out ho6 h6);clear h6 ho6 hz6);refine(HH3.out _).mono ?_;rintro e w11 ⟨rfl,rfl⟩;obtain⟨A,c,hv,ho⟩:=HI6.out.var;have y0:=Go.Joins.cell_of_block hv 0;have y0':w11.cell? ⟨g+1,0,none⟩=some (.slice A (pre++fG m.ents).length c):=y0;have HO:=hid ho;clear hv ho y0;go_wp2_with fail;go_ret
     exact⟨_,rfl,by rw[HCM.out,←HG.out];simpa using HO.out.base (Nat.le_add_right g 2),by rw[←HG.out];exact HI6.out.b⟩
   |true=>
    obtain rfl:b2=false:=(HOO.out.1 rfl).1;obtain rfl:b3=false:=(HOO.out.1 rfl).2;go_wp2_with fail;refine(HH1.out w8).mono ?_;rintro e w9 ⟨rfl,rfl⟩;obtain⟨x,hx⟩: ∃x:Int,x=if m.ok then 1 else 0:=⟨_,rfl⟩
    obtain⟨kb,hkb⟩: ∃kb:UInt8,kb=if m.ok then 1 else 0:=⟨_,rfl⟩
    have hxk:x=(kb.toNat:Int):=by rw[hx,hkb];cases m.ok<;>rfl
    obtain⟨wd,hwd⟩: ∃W,W=w9.drew:=⟨_,rfl⟩;have hpd:PSt w wd g m EA ec SA sc pre:=H8.out.call (by rw[hwd];exact(Below.refl _ _).drew);obtain⟨A,c,hv,ho⟩:=hpd.var;have x1:=b9 (w:=wd) (i:=0) hv (by decide) rfl;have x2:=b9 (w:=wd) (i:=8) hpd.k (by decide) rfl;have HP:=hid hpd;have HV:=hid (And.intro hv ho);have HX:=hid hxk;have HMK:=hid (pf m.ok wd);rw[←hx]at HMK;rw[←hkb]at HCM;clear hpd hv ho hx hkb hxk;go_wp2_with fail;refine bT K8 (fun _=>Lib.OthersKept.refl _ _ _) (fun _ _ _ h k=>h.trans k) [6] (.pure [0,1,2] (.step 3 (.step 4 (.step 5 (.tail [6]))))) (by kernel_rfl) (by kernel_rfl) (fun _ d _ _ _ h=>by cases d<;>exact h) ?_;rw[←hwd];clear hwd;refine eH ?_;simp only[atR];show wpQuiet _ _ _ _ [_,_,_] _;try simp only[acR,Act.put]at *
    repeat(go_big_quiet_step (fail))
    first|with_reducible refine wpQuiet_nil ?_ |refine wpQuiet_nil ?_
    clear x1 x2;refine bu rfl (fun K hK=> ?_)
    go_simp
    refine HMK.out.mono ?_;rintro e w4 ⟨rfl,hw4⟩;rw[hw4];clear hw4;refine hK _ _ (.inr (Lib.OthersKept.refl _ _ _)) ?_;clear hK K HMK;refine bu rfl (fun K hK=> ?_)
    go_simp
    have hba:=ae (w:=wd) (.cells #[.int .u8 x] 5);refine hK _ _ (.inr (az hba)) ?_;clear hK K;have HO5:=hid (HV.out.2.below hba);have HBA:=hid hba;have HR5:=hid (Rd.one' (w:=wd) rfl kb HX.out);clear hba;obtain⟨w5,hw5⟩: ∃W,W=wd.alloc (.cells #[.int .u8 x] 5):=⟨_,rfl⟩;rw[←hw5]at HO5 HBA HR5 ⊢;clear hw5;try simp only[acR,Act.put]
    refine jh rfl rfl (fun K hK=> ?_);refine bM _ _ rfl (g+2) _ pre rfl HO5.out (wd.heap.size+1) _ [kb] rfl HR5.out (by simp) (Nat.le_trans HP.out.z HBA.out.size) (by have:=HPL.out;simp;omega) (fun v4 w4 hv4 hg4=> ?_);refine hK _ _ (.inr (aA HO5.out hg4)) ?_;clear hK K;have HB4:=hid (ax (HBA.out.mono HP.out.z) HO5.out (Nat.le_trans HP.out.z HBA.out.size) hg4);have hv3:=((az HBA.out).trans (aA HO5.out hg4)) (g+1) _ HV.out.1 (fun h=>by cases h) (fun c fz h=>by injection h with _ h;exact absurd h (by decide));have HV3:=hid hv3;obtain⟨A',c',hs⟩:=hv4.slice;have hcl:v4.cells= #[v4]:=by rw[hs];rfl
    have hoc:(#[v4]:Array Value).all (·.oneCell')=true:=by rw[hs];simp[Value.oneCell']
    have HO4:=hid hv4;clear hv4 hg4 hv3 hs HO5 HBA HR5 HV;refine j1 rfl (fun K hK=> ?_);rw[if_pos (dX rfl)];refine fo 23 _ _ rfl rfl (g+1) 0 rfl v4 #[v4] rfl hcl _ #[v4] 23 HV3.out (by simp) (by kernel_rfl) hoc rfl (fun w6 h6 ho6 hz6=> ?_);refine hK _ _ ?_;clear hK K;have HI6:Hid (PSt w w6 g m EA ec SA sc (pre++[kb])):=hid (HP.out.store HB4.out HO4.out ho6 h6);clear h6 ho6 hz6 hcl hoc HO4 HB4 HV3 HP HX;refine eJ ?_;go_wp2_with fail;refine(HH2.out _).mono ?_;rintro e w10 ⟨rfl,rfl⟩;go_wp2_with fail;refine(HH3.out _).mono ?_;rintro e w11 ⟨rfl,rfl⟩;obtain⟨A,c,hv,ho⟩:=HI6.out.var;have y0:=Go.Joins.cell_of_block hv 0;have y0':w11.cell? ⟨g+1,0,none⟩=some (.slice A (pre++[kb]).length c):=y0;have HO:=hid ho;clear hv ho y0;go_wp2_with fail;go_ret;exact⟨_,rfl,by rw[HCM.out,←HG.out];simpa using HO.out.base (Nat.le_add_right g 2),by rw[←HG.out];exact HI6.out.b⟩
end Go.Proofs.YtgfidiocmiolpaaGreat
/- Which messages may be, by the program: what is no number. -/
namespace Go.Proofs.YtgfidiocmiolpaaGreat
open Lib (hid)
open Go.RowKit
theorem jR :dp 49:=fun _ _=>by simp[callFunc,go_sem,Tryz.func49,Tryz.f49]
theorem nD (S:Nat→Prop)(e:aU)(cs:Array Value)(w:World)(hS: ∀b,S b→b<w.heap.size)(h:cZ w S e cs)(hd:SmE e):
  Calls Tryz.prog 49 #[.agg cs] w fun r w'=>r= .returned (.bool (!bJ e))∧Below w.heap.size w w':=by
 obtain⟨IA,ic,IA',ic',DA,dc,DA',dc',LA,lc,rfl,hat⟩:=h.at;obtain⟨w1,hw1⟩: ∃W,W=w.alloc (.cells #[.int .i64 e.term,.int .i64 e.kind,.string e.coll,.string e.to,.int .i64 e.id.kind,.int .i64 e.id.num,.string e.id.text,.slice IA e.id.items.length ic,.slice IA' e.id.names.length ic',.int .i64 e.doc.kind,.int .i64 e.doc.num,.string e.doc.text,.slice DA e.doc.items.length dc,.slice DA' e.doc.names.length dc',.slice LA e.dels.length lc,.int .i64 e.session,.int .i64 e.number] 46):=⟨_,rfl⟩;have hb1:Below w.heap.size w w1:=by rw[hw1];exact ae _
 have HK:Hid (aS (w.alloc (.cells #[.int .i64 e.term,.int .i64 e.kind,.string e.coll,.string e.to,.int .i64 e.id.kind,.int .i64 e.id.num,.string e.id.text,.slice IA e.id.items.length ic,.slice IA' e.id.names.length ic',.int .i64 e.doc.kind,.int .i64 e.doc.num,.string e.doc.text,.slice DA e.doc.items.length dc,.slice DA' e.doc.names.length dc',.slice LA e.dels.length lc,.int .i64 e.session,.int .i64 e.number] 46)) w.heap.size e IA ic IA' ic' DA dc DA' dc' LA lc):=hid (heap_alloc_new w _);have HM:=hid (ov S e _ w1 (fun b hb=>Nat.lt_of_lt_of_le (hS b hb) hb1.size) (hat.below hS hb1).l hd);have HB:=hid hb1;clear hb1 h hat;go_enter Tryz.func49,Tryz.ntmps49;go_wp2_with(refine bh (by rfl) _ rfl w.heap.size rfl _ _ HK.out rfl ?_;simp only[acR,Act.put]);rw[←hw1];clear hw1 HK;refine HM.out.mono ?_;rintro q w2 ⟨rfl,hb⟩;have HB2:=hid (HB.out.trans (hb.mono HB.out.size));clear hb HM;go_wp2_with fail;go_ret;exact⟨rfl,HB2.out⟩
theorem uS (S:Nat→Prop)(A:Option Addr)(c:Nat)(l:List aU)(w:World)(hS: ∀b,S b→b<w.heap.size)(h:cp w S A l)(hn:l.length≤567493904640)(hd: ∀e∈l,SmE e):
  Calls Tryz.prog 83 #[.slice A l.length c,.func (.func 49) #[] #[]] w fun e w'=>(∃i:Int,e= .returned (.int .i64 i)∧decide (0≤i)=(l.any fun d=> !bJ d))∧Below w.heap.size w w':=by
 have H:=hid h;have HS:=hid hS;have HD:=hid hd;have hcf: ∀(args:Array Value) (W:World),(callFunc 49 args).run Tryz.prog W= .ok (.enter 49 args) W:=jR;clear h hS hd;go_enter Tryz.func83,Tryz.ntmps83;go_wp2_with fail
 go_loopw [8] (fun i wr=> ∃k:Nat,i= .int .i64 k∧k≤l.length∧Hid (Below w.heap.size w wr)∧Hid (∀j (h:j<l.length),j<k→bJ l[j]=true)) (fun i _=>l.length - (intOf i).toNat)
 case atStart=>exact⟨0,rfl,by omega,hid (Below.refl _ _),hid fun j _ h=>absurd h (by omega)⟩
 case round=>
  obtain⟨k,rfl,hk,HB,HJ⟩:=hrel;by_cases hlt:k<l.length
  ·obtain⟨b,off,cs,hA,hb,hrg,hcz,he⟩:=cp.at (cJ.keep cU H.out fun b hb=>HB.out.block b (HS.out b hb)) k hlt;obtain⟨IA,ic,IA',ic',DA,dc,DA',dc',LA,lc,hcs,hat⟩:=he.at;have hcs':cs= [.int .i64 l[k].term,.int .i64 l[k].kind,.string l[k].coll,.string l[k].to,.int .i64 l[k].id.kind,.int .i64 l[k].id.num,.string l[k].id.text,.slice IA l[k].id.items.length ic,.slice IA' l[k].id.names.length ic',.int .i64 l[k].doc.kind,.int .i64 l[k].doc.num,.string l[k].doc.text,.slice DA l[k].doc.items.length dc,.slice DA' l[k].doc.names.length dc',.slice LA l[k].dels.length lc,.int .i64 l[k].session,.int .i64 l[k].number]:=by have:=congrArg Array.toList hcs;simpa using this
   subst hcs';have HC:=hid (nD S l[k] _ wr (fun b hb=>Nat.lt_of_lt_of_le (HS.out b hb) HB.out.size) hat.l (HD.out _ (List.getElem_mem hlt)));have HRG:=hid hrg;obtain⟨b',off',rfl,rfl⟩: ∃b' off',b'=b∧off'=off:=⟨_,_,rfl,rfl⟩;subst hA;clear hcs he hcz hat hrg hb;go_wp2_with(refine bD (by rfl) 46 _ rfl b' (off'+k * 17) rfl _ _ HRG.out Tryz.underlying46 rfl (by kernel_rfl) ?_;simp only[acR,Act.put]);refine HC.out.mono ?_;rintro q u ⟨rfl,hb⟩;have HB2:=hid (HB.out.trans (hb.mono HB.out.size));clear hb HC HRG;cases hm:bJ l[k]
   ·have HM:=hid hm;clear hm;go_wp2_with fail;go_ret;exact⟨⟨k,rfl,by rw[List.any_eq_true.2 ⟨l[k],List.getElem_mem hlt,by rw[HM.out];rfl⟩];simp⟩,HB2.out⟩
   ·have HM:=hid hm;clear hm;go_wp2_with fail
    go_roundw
    case rel=>exact⟨k+1,by go_num,by omega,HB2,hid fun j h hjk=>by
     by_cases e:j=k
     ·subst e;exact HM.out
     ·exact HJ.out j h (by omega)⟩
    case measure=>simp[intOf];omega
  ·go_wp2_with fail;go_ret;refine⟨⟨-1,rfl,?_⟩,HB.out⟩
   rw[show(l.any fun d=> !bJ d)=false from List.any_eq_false.2 fun x hx=>by
    obtain⟨j,hj,rfl⟩:=List.mem_iff_getElem.1 hx
    simp[HJ.out j hj (by omega)]]
   rfl
theorem rL : ∀l:List aU,(l.any fun d=> !bJ d)= !l.all bJ
 | []=>rfl
 |a::r=>by rw[List.any_cons,List.all_cons,rL r,Bool.not_and]
theorem rS (S:Nat→Prop)(A:Option Addr)(c:Nat)(l:List aU)(w:World)(hS: ∀b,S b→b<w.heap.size)(h:cp w S A l)(hn:l.length≤567493904640)(hd: ∀e∈l,SmE e):
  Calls Tryz.prog 48 #[.slice A l.length c,.func (.func 49) #[] #[]] w fun e w'=>e= .returned (.bool (!l.all bJ))∧Below w.heap.size w w':=by
 have HC:=hid (uS S A c l w hS h hn hd);have HX:=hid (rL l);clear h hS hd;go_enter Tryz.func48,Tryz.ntmps48;go_wp2_with fail;refine HC.out.mono ?_;rintro e u ⟨⟨i,rfl,hi⟩,hb⟩;rw[HX.out]at hi;have HI:=hid hi;have HB:=hid hb;clear hi hb HC HX;go_wp2_with fail;go_ret;exact⟨aE HI.out,HB.out⟩
theorem rC (n:Nat)(c:Bool)(k:Nat):decide ((n:Int)≤if c=true then(k:Int)else 0)=decide (n≤if c then k else 0):=by
 cases c<;>(rw[Bool.eq_iff_iff];simp)
theorem ow (S:Nat→Prop)(m:aQ)(EA:Option Addr)(ec:Nat)(SA:Option Addr)(sc:Nat)(w:World)(hS: ∀b,S b→b<w.heap.size)(h:aT w S m EA ec SA sc)(hd: ∀e∈m.ents,SmE e):
  Calls Tryz.prog 22 #[.int .i64 (aM m.kind),.agg #[.int .i64 m.kind,.int .i64 m.frm,.int .i64 m.tgt,.int .i64 m.term,.int .i64 m.index,.int .i64 m.logTerm,.int .i64 m.commit,.int .i64 m.round,.bool m.ok,.slice EA m.ents.length ec,.slice SA m.snap.length sc]] w fun r w'=>r= .returned (.bool (gQ m))∧Below w.heap.size w w':=by
 obtain⟨w1,hw1⟩: ∃W,W=w.alloc (.cells #[.int .i64 m.kind,.int .i64 m.frm,.int .i64 m.tgt,.int .i64 m.term,.int .i64 m.index,.int .i64 m.logTerm,.int .i64 m.commit,.int .i64 m.round,.bool m.ok,.slice EA m.ents.length ec,.slice SA m.snap.length sc] 25):=⟨_,rfl⟩;have hb1:Below w.heap.size w w1:=by rw[hw1];exact ae _
 have HB1:=hid hb1;have HK1:Hid (bx w1 w.heap.size m EA ec SA sc):=hid (by rw[hw1];exact heap_alloc_new w _);have HCE:=hid (fun W (hW:Below w.heap.size w W)=>rS S EA ec m.ents W (fun b hb=>Nat.lt_of_lt_of_le (hS b hb) hW.size) (h.below hS hW).ents h.elen hd);have HX:=hid (And.intro (rC m.ents.length (bi m.kind) 8) (rC m.snap.length (bw m.kind) 65536));obtain⟨r,hr⟩: ∃r,r=gQ m:=⟨_,rfl⟩;rw[←hr];have HR:Hid (r=((hOk m.kind || !m.ok) && decide (m.ents.length≤if bi m.kind then 8 else 0) && decide (m.snap.length≤if bw m.kind then 65536 else 0) && (!bw m.kind || decide (0<m.snap.length)) && m.ents.all bJ)):=hid hr;clear hr hb1 h hd;obtain⟨l,hl⟩: ∃l,l=aM m.kind:=⟨_,rfl⟩;rw[←hl];have HBI:Hid ((bits .and .i64 l 16 != 0)=hOk m.kind∧(bits .and .i64 l 32 != 0)=bi m.kind∧(bits .and .i64 l 64 != 0)=bw m.kind):=hid (by rw[hl];exact⟨qT _,kN _,ku _⟩);clear hl;go_enter Tryz.func22,Tryz.ntmps22;go_wp2_with fail;rw[←hw1];clear hw1;try simp only[List.append_eq,List.cons_append,List.nil_append]
 refine bV (by kernel_rfl) (by kernel_rfl) (fun _ d _ _ _ h=>by cases d<;>exact h) ?_;have hdr:Below w1.heap.size w1 w1.drew:=(Below.refl _ _).drew;have HB:=hid (HB1.out.trans (hdr.mono HB1.out.size));have HK:=hid (HK1.out.below hdr);clear hdr HB1 HK1;generalize w1.drew=w3 at *;first|with_reducible refine ac ?_ |with_reducible refine ab ?_ |refine ac ?_ |refine ab ?_
 simp only[List.takeWhile,List.dropWhile,ai,Nat.reduceBNe];repeat(go_big_quiet_step (fail))
 first|with_reducible refine wpQuiet_nil ?_ |refine wpQuiet_nil ?_
 first|with_reducible refine ah ?_ (fun K hK=> ?_)|with_reducible refine af ?_ (fun K hK=> ?_)|refine ah ?_ (fun K hK=> ?_)|refine af ?_ (fun K hK=> ?_)
 ·rfl
 go_simp
 refine(ch l 16 w3).mono ?_;rintro q u ⟨rfl,hw⟩;refine hK _ _ (hw▸Below.refl _ _) ?_;clear hK K;try simp only[Act.put]
 replace hw:=hw.symm;subst hw;rw[HBI.out.1];obtain⟨c1,hc1⟩: ∃c,c=hOk m.kind:=⟨_,rfl⟩;obtain⟨mo,hmo⟩: ∃c,c=m.ok:=⟨_,rfl⟩;obtain⟨n1,hn1⟩: ∃c,c=m.ents.length:=⟨_,rfl⟩;obtain⟨n2,hn2⟩: ∃c,c=m.snap.length:=⟨_,rfl⟩;obtain⟨ce,hce⟩: ∃c,c=bi m.kind:=⟨_,rfl⟩;obtain⟨cs,hcs⟩: ∃c,c=bw m.kind:=⟨_,rfl⟩;have u8:=aa (B:=w3.heap.size) (w:=w3) HK.out.g8 HK.out.lt;have u9:=aa (B:=w3.heap.size) (w:=w3) HK.out.g9 HK.out.lt;have u10:=aa (B:=w3.heap.size) (w:=w3) HK.out.g10 HK.out.lt;rw[←hmo]at u8;rw[←hn1]at u9 HX HCE;rw[←hn2]at u10 HX;rw[←hce,←hcs]at HX;rw[←hc1,←hmo,←hn1,←hn2,←hce,←hcs]at HR;rw[←hc1];rw[←hce,←hcs]at HBI;clear hc1 hmo hn1 hn2 hce hcs;have a1:(c1=false∧mo=true)∨c1=true∨(c1=false∧mo=false):=by cases c1<;>cases mo<;>simp
 rcases a1 with ⟨rfl,rfl⟩|rfl|⟨rfl,rfl⟩
 ·have HE:Hid (r=false):=hid (by rw[HR.out];simp);clear u9 u10;first|with_reducible refine ac ?_ |with_reducible refine ab ?_ |refine ac ?_ |refine ab ?_
  simp only[List.takeWhile,List.dropWhile,ai,Nat.reduceBNe];repeat(go_big_quiet_step (fail))
  first|with_reducible refine wpQuiet_nil ?_ |refine wpQuiet_nil ?_
  first|with_reducible refine ah ?_ (fun K hK=> ?_)|with_reducible refine af ?_ (fun K hK=> ?_)|refine ah ?_ (fun K hK=> ?_)|refine af ?_ (fun K hK=> ?_)
  ·rfl
  go_simp
  refine hK _ _ (Below.refl _ _) ?_;clear hK K;try simp only[Act.put]
  first|with_reducible refine ac ?_ |with_reducible refine ab ?_ |refine ac ?_ |refine ab ?_
  simp only[List.takeWhile,List.dropWhile,ai,Nat.reduceBNe];repeat(go_big_quiet_step (fail))
  first|with_reducible refine wpQuiet_nil ?_ |refine wpQuiet_nil ?_
  first|with_reducible refine ah ?_ (fun K hK=> ?_)|with_reducible refine af ?_ (fun K hK=> ?_)|refine ah ?_ (fun K hK=> ?_)|refine af ?_ (fun K hK=> ?_)
  ·rfl
  go_simp
  refine hK _ _ (Below.refl _ _) ?_;clear hK K;try simp only[Act.put]
  first|with_reducible refine ac ?_ |with_reducible refine ab ?_ |refine ac ?_ |refine ab ?_
  simp only[List.takeWhile,List.dropWhile,ai,Nat.reduceBNe];repeat(go_big_quiet_step (fail))
  first|with_reducible refine wpQuiet_nil ?_ |refine wpQuiet_nil ?_
  first|with_reducible refine ah ?_ (fun K hK=> ?_)|with_reducible refine af ?_ (fun K hK=> ?_)|refine ah ?_ (fun K hK=> ?_)|refine af ?_ (fun K hK=> ?_)
  ·rfl
  go_simp
  refine hK _ _ (Below.refl _ _) ?_;clear hK K;try simp only[Act.put]
  first|with_reducible refine ac ?_ |with_reducible refine ab ?_ |refine ac ?_ |refine ab ?_
  simp only[List.takeWhile,List.dropWhile,ai,Nat.reduceBNe];repeat(go_big_quiet_step (fail))
  first|with_reducible refine wpQuiet_nil ?_ |refine wpQuiet_nil ?_
  first|with_reducible refine ah ?_ (fun K hK=> ?_)|with_reducible refine af ?_ (fun K hK=> ?_)|refine ah ?_ (fun K hK=> ?_)|refine af ?_ (fun K hK=> ?_)
  ·rfl
  go_simp
  refine hK _ _ (Below.refl _ _) ?_;clear hK K;try simp only[Act.put]
  first|with_reducible refine ac ?_ |with_reducible refine ab ?_ |refine ac ?_ |refine ab ?_
  simp only[List.takeWhile,List.dropWhile,ai,Nat.reduceBNe];repeat(go_big_quiet_step (fail))
  first|with_reducible refine wpQuiet_nil ?_ |refine wpQuiet_nil ?_
  unfold aF;go_wp2_with fail;go_ret;exact⟨by rw[HE.out]<;>rfl,HB.out⟩
 all_goals(
  have HR2:Hid (r=(decide (n1≤if ce then 8 else 0) && decide (n2≤if cs then 65536 else 0) && (!cs || decide (0<n2)) && m.ents.all bJ)):=hid (by rw[HR.out];simp);clear HR;first|with_reducible refine ac ?_ |with_reducible refine ab ?_ |refine ac ?_ |refine ab ?_
  simp only[List.takeWhile,List.dropWhile,ai,Nat.reduceBNe];repeat(go_big_quiet_step (fail))
  first|with_reducible refine wpQuiet_nil ?_ |refine wpQuiet_nil ?_
  first|with_reducible refine ah ?_ (fun K hK=> ?_)|with_reducible refine af ?_ (fun K hK=> ?_)|refine ah ?_ (fun K hK=> ?_)|refine af ?_ (fun K hK=> ?_)
  ·rfl
  go_simp
  refine(eh l 32 8 w3).mono ?_;rintro q u ⟨rfl,hw⟩;refine hK _ _ (hw▸Below.refl _ _) ?_;clear hK K;try simp only[Act.put]
  replace hw:=hw.symm;subst hw;rw[HBI.out.2.1];obtain⟨l1,hl1⟩: ∃x:Int,x=if ce=true then 8 else 0:=⟨_,rfl⟩
  rw[←hl1];have HL1:Hid (decide ((n1:Int)≤l1)=decide (n1≤if ce then 8 else 0)):=hid (by rw[hl1];exact HX.out.1);clear hl1;by_cases b1:(n1:Int)≤l1;rotate_left
  ·have d1:decide ((n1:Int)≤l1)=false:=decide_eq_false b1;have HE:Hid (r=false):=hid (by rw[HR2.out,←HL1.out,d1];rfl);clear b1;first|with_reducible refine ac ?_ |with_reducible refine ab ?_ |refine ac ?_ |refine ab ?_
   simp only[List.takeWhile,List.dropWhile,ai,Nat.reduceBNe];repeat(go_big_quiet_step (fail))
   first|with_reducible refine wpQuiet_nil ?_ |refine wpQuiet_nil ?_
   first|with_reducible refine ah ?_ (fun K hK=> ?_)|with_reducible refine af ?_ (fun K hK=> ?_)|refine ah ?_ (fun K hK=> ?_)|refine af ?_ (fun K hK=> ?_)
   ·rfl
   go_simp
   refine hK _ _ (Below.refl _ _) ?_;clear hK K;try simp only[Act.put]
   first|with_reducible refine ac ?_ |with_reducible refine ab ?_ |refine ac ?_ |refine ab ?_
   simp only[List.takeWhile,List.dropWhile,ai,Nat.reduceBNe];repeat(go_big_quiet_step (fail))
   first|with_reducible refine wpQuiet_nil ?_ |refine wpQuiet_nil ?_
   first|with_reducible refine ah ?_ (fun K hK=> ?_)|with_reducible refine af ?_ (fun K hK=> ?_)|refine ah ?_ (fun K hK=> ?_)|refine af ?_ (fun K hK=> ?_)
   ·rfl
   go_simp
   refine hK _ _ (Below.refl _ _) ?_;clear hK K;try simp only[Act.put]
   first|with_reducible refine ac ?_ |with_reducible refine ab ?_ |refine ac ?_ |refine ab ?_
   simp only[List.takeWhile,List.dropWhile,ai,Nat.reduceBNe];repeat(go_big_quiet_step (fail))
   first|with_reducible refine wpQuiet_nil ?_ |refine wpQuiet_nil ?_
   first|with_reducible refine ah ?_ (fun K hK=> ?_)|with_reducible refine af ?_ (fun K hK=> ?_)|refine ah ?_ (fun K hK=> ?_)|refine af ?_ (fun K hK=> ?_)
   ·rfl
   go_simp
   refine hK _ _ (Below.refl _ _) ?_;clear hK K;try simp only[Act.put]
   first|with_reducible refine ac ?_ |with_reducible refine ab ?_ |refine ac ?_ |refine ab ?_
   simp only[List.takeWhile,List.dropWhile,ai,Nat.reduceBNe];repeat(go_big_quiet_step (fail))
   first|with_reducible refine wpQuiet_nil ?_ |refine wpQuiet_nil ?_
   unfold aF;go_wp2_with fail;go_ret;exact⟨by rw[HE.out]<;>rfl,HB.out⟩
  have d1:decide ((n1:Int)≤l1)=true:=decide_eq_true b1;have HR3:Hid (r=(decide (n2≤if cs then 65536 else 0) && (!cs || decide (0<n2)) && m.ents.all bJ)):=hid (by rw[HR2.out,←HL1.out,d1];rfl);clear b1 HR2 HL1;first|with_reducible refine ac ?_ |with_reducible refine ab ?_ |refine ac ?_ |refine ab ?_
  simp only[List.takeWhile,List.dropWhile,ai,Nat.reduceBNe];repeat(go_big_quiet_step (fail))
  first|with_reducible refine wpQuiet_nil ?_ |refine wpQuiet_nil ?_
  clear d1;first|with_reducible refine ah ?_ (fun K hK=> ?_)|with_reducible refine af ?_ (fun K hK=> ?_)|refine ah ?_ (fun K hK=> ?_)|refine af ?_ (fun K hK=> ?_)
  ·rfl
  go_simp
  refine(eh l 64 65536 w3).mono ?_;rintro q u ⟨rfl,hw⟩;refine hK _ _ (hw▸Below.refl _ _) ?_;clear hK K;try simp only[Act.put]
  replace hw:=hw.symm;subst hw;rw[HBI.out.2.2];obtain⟨l2,hl2⟩: ∃x:Int,x=if cs=true then 65536 else 0:=⟨_,rfl⟩
  rw[←hl2];have HL2:Hid (decide ((n2:Int)≤l2)=decide (n2≤if cs then 65536 else 0)):=hid (by rw[hl2];exact HX.out.2);clear hl2;by_cases b2:(n2:Int)≤l2;rotate_left
  ·have d2:decide ((n2:Int)≤l2)=false:=decide_eq_false b2;have HE:Hid (r=false):=hid (by rw[HR3.out,←HL2.out,d2];rfl);clear b2;first|with_reducible refine ac ?_ |with_reducible refine ab ?_ |refine ac ?_ |refine ab ?_
   simp only[List.takeWhile,List.dropWhile,ai,Nat.reduceBNe];repeat(go_big_quiet_step (fail))
   first|with_reducible refine wpQuiet_nil ?_ |refine wpQuiet_nil ?_
   first|with_reducible refine ah ?_ (fun K hK=> ?_)|with_reducible refine af ?_ (fun K hK=> ?_)|refine ah ?_ (fun K hK=> ?_)|refine af ?_ (fun K hK=> ?_)
   ·rfl
   go_simp
   refine hK _ _ (Below.refl _ _) ?_;clear hK K;try simp only[Act.put]
   first|with_reducible refine ac ?_ |with_reducible refine ab ?_ |refine ac ?_ |refine ab ?_
   simp only[List.takeWhile,List.dropWhile,ai,Nat.reduceBNe];repeat(go_big_quiet_step (fail))
   first|with_reducible refine wpQuiet_nil ?_ |refine wpQuiet_nil ?_
   first|with_reducible refine ah ?_ (fun K hK=> ?_)|with_reducible refine af ?_ (fun K hK=> ?_)|refine ah ?_ (fun K hK=> ?_)|refine af ?_ (fun K hK=> ?_)
   ·rfl
   go_simp
   refine hK _ _ (Below.refl _ _) ?_;clear hK K;try simp only[Act.put]
   first|with_reducible refine ac ?_ |with_reducible refine ab ?_ |refine ac ?_ |refine ab ?_
   simp only[List.takeWhile,List.dropWhile,ai,Nat.reduceBNe];repeat(go_big_quiet_step (fail))
   first|with_reducible refine wpQuiet_nil ?_ |refine wpQuiet_nil ?_
   unfold aF;go_wp2_with fail;go_ret;exact⟨by rw[HE.out]<;>rfl,HB.out⟩
  have d2:decide ((n2:Int)≤l2)=true:=decide_eq_true b2;have HR4:Hid (r=((!cs || decide (0<n2)) && m.ents.all bJ)):=hid (by rw[HR3.out,←HL2.out,d2];rfl);clear b2 HR3 HL2;first|with_reducible refine ac ?_ |with_reducible refine ab ?_ |refine ac ?_ |refine ab ?_
  simp only[List.takeWhile,List.dropWhile,ai,Nat.reduceBNe];repeat(go_big_quiet_step (fail))
  first|with_reducible refine wpQuiet_nil ?_ |refine wpQuiet_nil ?_
  clear d2;first|with_reducible refine ah ?_ (fun K hK=> ?_)|with_reducible refine af ?_ (fun K hK=> ?_)|refine ah ?_ (fun K hK=> ?_)|refine af ?_ (fun K hK=> ?_)
  ·rfl
  go_simp
  refine(ch l 64 w3).mono ?_;rintro q u ⟨rfl,hw⟩;refine hK _ _ (hw▸Below.refl _ _) ?_;clear hK K;try simp only[Act.put]
  replace hw:=hw.symm;subst hw;rw[HBI.out.2.2]
  have a2:(cs=true∧n2=0)∨cs=false∨(cs=true∧ ∃k,n2=k+1):=by
   cases cs
   ·simp
   ·cases n2
    ·simp
    ·next k=>exact .inr (.inr ⟨rfl,k,rfl⟩)
  rcases a2 with ⟨rfl,rfl⟩|rfl|⟨rfl,k,rfl⟩
  ·have HE:Hid (r=false):=hid (by rw[HR4.out];rfl);first|with_reducible refine ac ?_ |with_reducible refine ab ?_ |refine ac ?_ |refine ab ?_
   simp only[List.takeWhile,List.dropWhile,ai,Nat.reduceBNe];repeat(go_big_quiet_step (fail))
   first|with_reducible refine wpQuiet_nil ?_ |refine wpQuiet_nil ?_
   first|with_reducible refine ah ?_ (fun K hK=> ?_)|with_reducible refine af ?_ (fun K hK=> ?_)|refine ah ?_ (fun K hK=> ?_)|refine af ?_ (fun K hK=> ?_)
   ·rfl
   go_simp
   refine hK _ _ (Below.refl _ _) ?_;clear hK K;try simp only[Act.put]
   first|with_reducible refine ac ?_ |with_reducible refine ab ?_ |refine ac ?_ |refine ab ?_
   simp only[List.takeWhile,List.dropWhile,ai,Nat.reduceBNe];repeat(go_big_quiet_step (fail))
   first|with_reducible refine wpQuiet_nil ?_ |refine wpQuiet_nil ?_
   unfold aF;go_wp2_with fail;go_ret;exact⟨by rw[HE.out]<;>rfl,HB.out⟩
  all_goals(
   have HE:Hid (r=m.ents.all bJ):=hid (by rw[HR4.out];simp);clear HR4;first|with_reducible refine ac ?_ |with_reducible refine ab ?_ |refine ac ?_ |refine ab ?_
   simp only[List.takeWhile,List.dropWhile,ai,Nat.reduceBNe];repeat(go_big_quiet_step (fail))
   first|with_reducible refine wpQuiet_nil ?_ |refine wpQuiet_nil ?_
   clear u8 u9 u10;first|with_reducible refine ah ?_ (fun K hK=> ?_)|with_reducible refine af ?_ (fun K hK=> ?_)|refine ah ?_ (fun K hK=> ?_)|refine af ?_ (fun K hK=> ?_)
   ·rfl
   go_simp
   refine(HCE.out w3 HB.out).mono ?_;rintro q w4 ⟨rfl,hb⟩;refine hK _ _ (hb) ?_;clear hK K;try simp only[Act.put]
   have HB4:=hid (HB.out.trans (hb.mono HB.out.size));clear hb;rw[←HE.out];first|with_reducible refine ac ?_ |with_reducible refine ab ?_ |refine ac ?_ |refine ab ?_
   simp only[List.takeWhile,List.dropWhile,ai,Nat.reduceBNe];repeat(go_big_quiet_step (fail))
   first|with_reducible refine wpQuiet_nil ?_ |refine wpQuiet_nil ?_
   unfold aF;go_wp2_with fail;go_ret
   exact⟨by cases r<;>rfl,HB4.out⟩))
theorem iE (S:Nat→Prop)(m:aQ)(EA:Option Addr)(ec:Nat)(SA:Option Addr)(sc:Nat)(w:World)(hS: ∀b,S b→b<w.heap.size)(h:aT w S m EA ec SA sc)(hd: ∀e∈m.ents,SmE e):
  Calls Tryz.prog 9 #[.agg #[.int .i64 m.kind,.int .i64 m.frm,.int .i64 m.tgt,.int .i64 m.term,.int .i64 m.index,.int .i64 m.logTerm,.int .i64 m.commit,.int .i64 m.round,.bool m.ok,.slice EA m.ents.length ec,.slice SA m.snap.length sc]] w fun r w'=>r= .returned (.bool (bK m))∧Below w.heap.size w w':=by
 obtain⟨w1,hw1⟩: ∃W,W=w.alloc (.cells #[.int .i64 m.kind,.int .i64 m.frm,.int .i64 m.tgt,.int .i64 m.term,.int .i64 m.index,.int .i64 m.logTerm,.int .i64 m.commit,.int .i64 m.round,.bool m.ok,.slice EA m.ents.length ec,.slice SA m.snap.length sc] 25):=⟨_,rfl⟩;have hb1:Below w.heap.size w w1:=by rw[hw1];exact ae _
 have HB1:=hid hb1;have HK1:Hid (bx w1 w.heap.size m EA ec SA sc):=hid (by rw[hw1];exact heap_alloc_new w _);have HA:=hid h;have HS:=hid hS;have HD:=hid hd;obtain⟨r,hr⟩: ∃r,r=bK m:=⟨_,rfl⟩;rw[←hr];have HR:Hid (r=(eq m.kind && fY m && decide (1≤m.term) && decide (m.term≤1099511627776) && cI m && gQ m)):=hid hr;clear hr hb1 h hd hS;go_enter Tryz.func9,Tryz.ntmps9;go_wp2_with fail;rw[←hw1];clear hw1;refine(eK m.kind w1).mono ?_;rintro q u ⟨rfl,hw⟩;replace hw:=hw.symm;subst hw;cases h1:eq m.kind
 ·have HE:Hid (r=false):=hid (by rw[HR.out,h1];rfl);go_wp2_with fail;go_ret;exact⟨by rw[HE.out]<;>rfl,HB1.out⟩
 have H1:=hid h1;clear h1;go_wp2_with(refine ap (by rfl) _ rfl w.heap.size rfl _ _ HK1.out rfl ?_;simp only[acR,Act.put]);refine(sL m EA ec SA sc w1).mono ?_;rintro q w2 ⟨rfl,hb⟩;have HB2:=hid (HB1.out.trans (hb.mono HB1.out.size));have HK2:=hid (HK1.out.below hb);clear hb HB1 HK1;cases h2:fY m
 ·have HE:Hid (r=false):=hid (by rw[HR.out,h2];simp);go_wp2_with fail;go_ret;exact⟨by rw[HE.out]<;>rfl,HB2.out⟩
 have H2:=hid h2;clear h2;have y3:=HK2.out.g3;by_cases t1:1≤m.term;rotate_left
 ·have d1:decide (m.term≥1)=false:=decide_eq_false t1;have HE:Hid (r=false):=hid (by rw[HR.out,decide_eq_false t1];simp);clear t1;go_wp2_with fail;go_ret;exact⟨by rw[HE.out]<;>rfl,HB2.out⟩
 have d1:decide (m.term≥1)=true:=decide_eq_true t1;by_cases t2:m.term≤1099511627776;rotate_left
 ·have d2:decide (m.term≤1099511627776)=false:=decide_eq_false t2;have HE:Hid (r=false):=hid (by rw[HR.out,decide_eq_false t2];simp);clear t2 t1;go_wp2_with fail;go_ret;exact⟨by rw[HE.out]<;>rfl,HB2.out⟩
 have d2:decide (m.term≤1099511627776)=true:=decide_eq_true t2;have HR2:Hid (r=(cI m && gQ m)):=hid (by rw[HR.out,H1.out,H2.out,decide_eq_true t1,decide_eq_true t2];rfl);clear t1 t2 HR;go_wp2_with(refine ap (by rfl) _ rfl w.heap.size rfl _ _ HK2.out rfl ?_;simp only[acR,Act.put]);refine(ly m EA ec SA sc w2).mono ?_;rintro q w3 ⟨rfl,hb⟩;have HB3:=hid (HB2.out.trans (hb.mono HB2.out.size));have HK3:=hid (HK2.out.below hb);clear hb HB2 HK2 y3 d1 d2;cases h3:cI m
 ·have HE:Hid (r=false):=hid (by rw[HR2.out,h3];rfl);go_wp2_with fail;go_ret;exact⟨by rw[HE.out]<;>rfl,HB3.out⟩
 have HE:Hid (r=gQ m):=hid (by rw[HR2.out,h3];rfl);clear h3 HR2;go_wp2_with(refine ap (by rfl) _ rfl w.heap.size rfl _ _ HK3.out rfl ?_;simp only[acR,Act.put]);refine(ow S m EA ec SA sc w3 (fun b hb=>Nat.lt_of_lt_of_le (HS.out b hb) HB3.out.size) (HA.out.below HS.out HB3.out) HD.out).mono ?_;rintro q w4 ⟨rfl,hb⟩;have HB4:=hid (HB3.out.trans (hb.mono HB3.out.size));clear hb;rw[←HE.out];go_wp2_with fail;go_ret;exact⟨rfl,HB4.out⟩
end Go.Proofs.YtgfidiocmiolpaaGreat
