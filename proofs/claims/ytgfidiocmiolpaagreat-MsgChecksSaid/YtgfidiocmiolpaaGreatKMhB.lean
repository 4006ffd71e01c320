/- The lives of layer 22. (Written by mkmhb.py.) -/
import Derived.Test.YtgfidiocmiolpaaGreatKMgG
import Derived.Test.YtgfidiocmiolpaaGreatKEnT
import Derived.Test.YtgfidiocmiolpaaGreatKMgO
import Derived.Test.YtgfidiocmiolpaaGreatKMgV
import Derived.Test.YtgfidiocmiolpaaGreatKLook
import Derived.Test.YtgfidiocmiolpaaGreatKRefM
import Derived.Test.YtgfidiocmiolpaaGreatKEnM
import Derived.Deep.Slices
import Derived.SizedLaws
import Derived.ProofKit
import Derived.OpenShut
import Derived.ChangeOld
set_option maxHeartbeats 64000000
set_option maxRecDepth 100000
set_option linter.unusedVariables false
set_option linter.unusedSimpArgs false
namespace Go.Proofs.YtgfidiocmiolpaaGreat
open Lib (hid)
open Go.RowKit Go.Joins
def mL :aQ:=⟨2,1,2,3,0,0,0,0,true,[],[]⟩
def cL :List UInt8:=[2,1,2,3,1]
theorem mL_may :bK mL=true:=by decide +kernel
theorem mL_enc :lD mL=cL:=by decide +kernel
theorem mL_err :jP mL=0:=by decide +kernel
theorem mZ_err :jP cw=1:=by decide +kernel
theorem cL_read :rdM (some cL)=(mL,some []):=by kernel_rfl
theorem cL_dec :gK cL=mL∧gO cL=0:=by
 have h:=vH (l:=cL) (by rw[cL_read];rfl) (by rw[cL_read];exact mL_may);rw[cL_read]at h;exact h
theorem nil_read :rdM (some [])=(cw,none):=by kernel_rfl
theorem nil_dec :gK []=cw∧gO []=10:=vq (by decide +kernel)
theorem mL_same :iy mL mL=true:=by decide +kernel
theorem mL_at (w:World)(S:Nat→Prop):aT w S mL none 0 none 0:=
 ⟨iB _ _ _,Nat.le_refl _,fun _=>rfl,Nat.zero_le _,fP _ _ _,Nat.le_refl _,fun _=>rfl,Nat.zero_le _,Nat.zero_le _,cN (by decide),cN (by decide),cN (by decide),cN (by decide),cN (by decide),cN (by decide),cN (by decide),cN (by decide)⟩
theorem smL0 : ∀e∈mL.ents,SmE e:=fun e h=>absurd h List.not_mem_nil
theorem smZ0 : ∀e∈cw.ents,SmE e:=fun e h=>absurd h List.not_mem_nil
theorem putsL {EA:Option Addr}{ec:Nat}:bK mL=true→jH mL EA ec:=fun _ h=>absurd h (by decide +kernel)
theorem putsZ {EA:Option Addr}{ec:Nat}:bK cw=true→jH cw EA ec:=fun _ h=>absurd h (by decide +kernel)
theorem rd_nil (w:World)(B:Nat):Rd w B (.slice none 0 0) []:=⟨none,0,rfl,Nat.le_refl _,⟨by omega,fun _=>rfl⟩,fun h=>absurd h (by simp)⟩
theorem wpQuiet_load_msg {P:Program}{ops:Array Oper}{C:World→Prop}{Q:Act→Prop}{rest:List Oper}{o:Oper}{a:Act}(hP:P=Tryz.prog)(hw:Region.wanted o (yielded ops a.tmps)=true)(x:Operand)(ho:o.op= .load 25 x)
  (g:Nat) (hx:a.eval x= .pointer (some ⟨g,0,none⟩)) (cs:Array Value) (hg: ∀u,C u→u.heap[g]? =some (.cells cs 25 (0,0))) (hn:cs.size=11)
  (h:wpQuiet P ops C Q rest (a.put o.dst (.agg cs))):wpQuiet P ops C Q (o::rest) a:=by
 subst hP;unfold wpQuiet;rw[if_pos hw];refine⟨.agg cs,fun u hu=> ?_,h⟩;have e:=run_loadVar_row (P:=Tryz.prog) u g 25 25 cs (0,0) _ (hg u hu) Tryz.underlying25 rfl (by rw[hn];kernel_rfl);unfold Oper.quietAt execOp;simp only[ho,hx,Instr.loadAt,Instr.sureAddr,Sem.run_bind,Sem.run_pure,Result.andThen_ok,e];exact⟨rfl,rfl⟩
theorem same_selfM {w:World}{m:aQ}{EA:Option Addr}{ec:Nat}{SA:Option Addr}{sc:Nat}{FA:Option Addr}{fc:Nat}{TA:Option Addr}{tc:Nat}(ha:aT w (fun b=>b<w.heap.size) m EA ec SA sc)(hb:aT w (fun b=>b<w.heap.size) m FA fc TA tc):
  Calls Tryz.prog 11 #[.agg #[.int .i64 m.kind,.int .i64 m.frm,.int .i64 m.tgt,.int .i64 m.term,.int .i64 m.index,.int .i64 m.logTerm,.int .i64 m.commit,.int .i64 m.round,.bool m.ok,.slice EA m.ents.length ec,.slice SA m.snap.length sc],.agg #[.int .i64 m.kind,.int .i64 m.frm,.int .i64 m.tgt,.int .i64 m.term,.int .i64 m.index,.int .i64 m.logTerm,.int .i64 m.commit,.int .i64 m.round,.bool m.ok,.slice FA m.ents.length fc,.slice TA m.snap.length tc]] w fun q w'=>q= .returned (.bool true)∧Below w.heap.size w w':=
 (lb (fun b=>b<w.heap.size) m m.ents m.snap EA ec SA sc FA fc TA tc w m.ents.length m.ents.length rfl rfl (fun _ h=>h) ha hb).mono fun q w' ⟨⟨r,h1,h2⟩,h3⟩=>⟨by rw[h1,h2.2 ⟨rfl,rfl⟩],h3⟩
structure T22 (w u:World)(g a x:Nat)(XA:Option Addr)(xc:Nat)(YA:Option Addr)(yc:Nat):Prop where
 b:Below w.heap.size w u
 mb:u.heap[a]? =some (.cells #[.int .i64 2,.int .i64 1,.int .i64 2,.int .i64 3,.int .i64 0,.int .i64 0,.int .i64 0,.int .i64 0,.bool true,.slice none 0 0,.slice none 0 0] 25 (0,0))
 xb:u.heap[x]? =some (.cells #[.int .i64 2,.int .i64 1,.int .i64 2,.int .i64 3,.int .i64 0,.int .i64 0,.int .i64 0,.int .i64 0,.bool true,.slice XA 0 xc,.slice YA 0 yc] 25 (0,0))
 e:aT u (fun b=>b<u.heap.size) mL XA xc YA yc
 ag:a<g
 xg:x<g
section
variable {w u u':World} {g a x:Nat} {XA:Option Addr} {xc:Nat} {YA:Option Addr} {yc:Nat}
theorem T22.call (h:T22 w u g a x XA xc YA yc)(hb:Below u.heap.size u u'):T22 w u' g a x XA xc YA yc:=
 ⟨h.b.trans (hb.mono h.b.size),(hb.block a (Array.getElem?_eq_some_iff.1 h.mb).1).trans h.mb,(hb.block x (Array.getElem?_eq_some_iff.1 h.xb).1).trans h.xb,h.e.up hb,h.ag,h.xg⟩
theorem T22.mbox (h:T22 w u g a x XA xc YA yc): ∀v,CRR (dd g) u v→v.heap[a]? =some (.cells #[.int .i64 2,.int .i64 1,.int .i64 2,.int .i64 3,.int .i64 0,.int .i64 0,.int .i64 0,.int .i64 0,.bool true,.slice none 0 0,.slice none 0 0] 25 (0,0)):=fun v ⟨p,hp⟩=>by
 rw[hp];exact(p.h.2 a (Array.getElem?_eq_some_iff.1 h.mb).1 (Nat.ne_of_lt h.ag)).trans h.mb
theorem T22.xbox (h:T22 w u g a x XA xc YA yc): ∀v,CRR (dd g) u v→v.heap[x]? =some (.cells #[.int .i64 2,.int .i64 1,.int .i64 2,.int .i64 3,.int .i64 0,.int .i64 0,.int .i64 0,.int .i64 0,.bool true,.slice XA 0 xc,.slice YA 0 yc] 25 (0,0)):=fun v ⟨p,hp⟩=>by
 rw[hp];exact(p.h.2 x (Array.getElem?_eq_some_iff.1 h.xb).1 (Nat.ne_of_lt h.xg)).trans h.xb
end
theorem lives22_any (w:World):Calls Tryz.prog 8 #[] w fun e w'=>e= .returned (.bool true)∧Below w.heap.size w w':=by
 obtain⟨w1,hw1⟩: ∃W,W=w.alloc (.cells #[.int .i64 2,.int .i64 1,.int .i64 2,.int .i64 3,.int .i64 0,.int .i64 0,.int .i64 0,.int .i64 0,.bool true,.slice none 0 0,.slice none 0 0] 25):=⟨_,rfl⟩;have hb1:Below w.heap.size w w1:=by rw[hw1];exact ae _
 have HX1:Hid (Below w.heap.size w w1∧w1.heap[w.heap.size]? =some (.cells #[.int .i64 2,.int .i64 1,.int .i64 2,.int .i64 3,.int .i64 0,.int .i64 0,.int .i64 0,.int .i64 0,.bool true,.slice none 0 0,.slice none 0 0] 25 (0,0))):=hid ⟨hb1,by rw[hw1];exact heap_alloc_new w _⟩;have HE1:=hid (eD mL none 0 none 0 w1 (mL_at _ _) smL0 putsL);clear hb1;go_enter Tryz.func8,Tryz.ntmps8;go_wp2_with(rw[←hw1];refine ap (by rfl) _ rfl w.heap.size rfl _ _ HX1.out.2 rfl ?_;simp only[acR,Act.put]);try rw[←hw1]
 clear hw1;refine HE1.out.mono ?_;rintro q w2 ⟨v1,rfl,ho2,hb2⟩;rw[mL_err];rw[mL_enc]at ho2;have HX2:Hid (Below w.heap.size w w2∧w2.heap[w.heap.size]? =some (.cells #[.int .i64 2,.int .i64 1,.int .i64 2,.int .i64 3,.int .i64 0,.int .i64 0,.int .i64 0,.int .i64 0,.bool true,.slice none 0 0,.slice none 0 0] 25 (0,0))∧Rd w2 w2.heap.size v1 cL):=hid ⟨HX1.out.1.trans (hb2.mono HX1.out.1.size),(hb2.block _ (Array.getElem?_eq_some_iff.1 HX1.out.2).1).trans HX1.out.2,ho2.rdY⟩;have HD:=hid (jz v1 cL w2 ho2.rdY (by decide) (fun h=>by rw[cL_read]at h;exact absurd h (by decide +kernel)) (by rw[cL_read];exact smL0));rw[cL_dec.1,cL_dec.2]at HD;clear ho2 hb2 HE1 HX1;go_wp2_with fail;refine HD.out.mono ?_;rintro q w3 ⟨XA,xc,YA,yc,rfl,hat,hb3⟩;obtain⟨w4,hw4⟩: ∃W,W=w3.alloc (.cells #[.int .i64 mL.kind,.int .i64 mL.frm,.int .i64 mL.tgt,.int .i64 mL.term,.int .i64 mL.index,.int .i64 mL.logTerm,.int .i64 mL.commit,.int .i64 mL.round,.bool mL.ok,.slice XA mL.ents.length xc,.slice YA mL.snap.length yc] 25):=⟨_,rfl⟩;obtain⟨x,hx⟩: ∃x,x=w3.heap.size:=⟨_,rfl⟩;have hb4:Below w3.heap.size w3 w4:=by rw[hw4];exact ae _
 have HX4:Hid (Below w.heap.size w w4∧w4.heap[w.heap.size]? =some (.cells #[.int .i64 2,.int .i64 1,.int .i64 2,.int .i64 3,.int .i64 0,.int .i64 0,.int .i64 0,.int .i64 0,.bool true,.slice none 0 0,.slice none 0 0] 25 (0,0))∧Rd w4 w4.heap.size v1 cL∧w4.heap[x]? =some (.cells #[.int .i64 2,.int .i64 1,.int .i64 2,.int .i64 3,.int .i64 0,.int .i64 0,.int .i64 0,.int .i64 0,.bool true,.slice XA 0 xc,.slice YA 0 yc] 25 (0,0))∧aT w4 (fun b=>b<w4.heap.size) mL XA xc YA yc):=hid (by
  have hlt:=(Array.getElem?_eq_some_iff.1 HX2.out.2.1).1;have hz:=hb3.size;have hz4:=hb4.size
  exact⟨(HX2.out.1.trans (hb3.mono HX2.out.1.size)).trans (hb4.mono (by have:=HX2.out.1.size;omega)),(hb4.block _ (by omega)).trans ((hb3.block _ hlt).trans HX2.out.2.1),((HX2.out.2.2.keep hb3).keep (hb4.mono hz)).upE (by omega),by rw[hw4,hx];exact heap_alloc_new w3 _,(hat.imp fun b hb=>hb.2).up hb4⟩)
 have HE2:=hid (eD cw none 0 none 0 w4 (k9 _ _) smZ0 putsZ);clear hat hb3 hb4 HX2 HD;go_wp2_with fail;rw[←hw4];try rw[←hx]
 clear hw4 hx;refine HE2.out.mono ?_;rintro q w5 ⟨v2,rfl,-,hb5⟩;rw[mZ_err]
 have HX5:Hid (Below w.heap.size w w5∧w5.heap[w.heap.size]? =some (.cells #[.int .i64 2,.int .i64 1,.int .i64 2,.int .i64 3,.int .i64 0,.int .i64 0,.int .i64 0,.int .i64 0,.bool true,.slice none 0 0,.slice none 0 0] 25 (0,0))∧Rd w5 w5.heap.size v1 cL∧w5.heap[x]? =some (.cells #[.int .i64 2,.int .i64 1,.int .i64 2,.int .i64 3,.int .i64 0,.int .i64 0,.int .i64 0,.int .i64 0,.bool true,.slice XA 0 xc,.slice YA 0 yc] 25 (0,0))∧aT w5 (fun b=>b<w5.heap.size) mL XA xc YA yc):=hid (by
  obtain⟨h1,h2,h3,h4,h5⟩:=HX4.out
  exact⟨h1.trans (hb5.mono h1.size),(hb5.block _ (Array.getElem?_eq_some_iff.1 h2).1).trans h2,(h3.keep hb5).upE hb5.size,(hb5.block _ (Array.getElem?_eq_some_iff.1 h4).1).trans h4,h5.up hb5⟩)
 have HD2:=hid (jz (.slice none 0 0) [] w5 (rd_nil _ _) (by decide) (fun h=>by rw[nil_read]at h;exact absurd h (by decide +kernel)) (by rw[nil_read];exact smZ0));rw[nil_dec.1,nil_dec.2]at HD2;clear hb5 HX4 HE2;go_wp2_with fail;refine HD2.out.mono ?_;rintro q w6 ⟨ZA,zc,UA,uc,rfl,-,hb6⟩;obtain⟨w7,hw7⟩: ∃W,W=w6.alloc (.cells #[.int .i64 cw.kind,.int .i64 cw.frm,.int .i64 cw.tgt,.int .i64 cw.term,.int .i64 cw.index,.int .i64 cw.logTerm,.int .i64 cw.commit,.int .i64 cw.round,.bool cw.ok,.slice ZA cw.ents.length zc,.slice UA cw.snap.length uc] 25):=⟨_,rfl⟩;have hb7:Below w6.heap.size w6 w7:=by rw[hw7];exact ae _
 have HX7:Hid (Below w.heap.size w w7∧w7.heap[w.heap.size]? =some (.cells #[.int .i64 2,.int .i64 1,.int .i64 2,.int .i64 3,.int .i64 0,.int .i64 0,.int .i64 0,.int .i64 0,.bool true,.slice none 0 0,.slice none 0 0] 25 (0,0))∧Rd w7 w7.heap.size v1 cL∧w7.heap[x]? =some (.cells #[.int .i64 2,.int .i64 1,.int .i64 2,.int .i64 3,.int .i64 0,.int .i64 0,.int .i64 0,.int .i64 0,.bool true,.slice XA 0 xc,.slice YA 0 yc] 25 (0,0))∧aT w7 (fun b=>b<w7.heap.size) mL XA xc YA yc):=hid (by
  obtain⟨h1,h2,h3,h4,h5⟩:=HX5.out;have hz:=hb6.size;have hz7:=hb7.size;have l2:=(Array.getElem?_eq_some_iff.1 h2).1;have l4:=(Array.getElem?_eq_some_iff.1 h4).1
  exact⟨(h1.trans (hb6.mono h1.size)).trans (hb7.mono (by have:=h1.size;omega)),(hb7.block _ (by omega)).trans ((hb6.block _ l2).trans h2),((h3.keep hb6).keep (hb7.mono hz)).upE (by omega),(hb7.block _ (by omega)).trans ((hb6.block _ l4).trans h4),(h5.up hb6).up hb7⟩)
 clear hb6 hb7 HX5 HD2;go_wp2_with fail;rw[←hw7];clear hw7;obtain⟨g,hg⟩: ∃g,g=w7.heap.size:=⟨_,rfl⟩;try simp only[List.append_eq,List.cons_append,List.nil_append]
 refine kw (dd g) (dd.refl g) (dd.trans g) (by kernel_rfl) (by kernel_rfl) (fun _ d _ _ _ h=>by cases d<;>exact h) ?_
 have T:Hid (T22 w w7.drew g w.heap.size x XA xc YA yc):=hid (by
  obtain⟨h1,h2,h3,h4,h5⟩:=HX7.out
  exact⟨h1.drew,h2,h4,h5.keep fun _ _=>rfl,by rw[hg];exact(Array.getElem?_eq_some_iff.1 h2).1,by rw[hg];exact(Array.getElem?_eq_some_iff.1 h4).1⟩)
 have HR:Hid (Rd w7.drew g v1 cL∧g≤w7.drew.heap.size):=hid ⟨by rw[hg];exact HX7.out.2.2.1.keep ((Below.refl _ _).drew),by rw[hg];exact Nat.le_refl _⟩;clear HX7 hg;generalize w7.drew=u0 at *;have f1: ∀p:cW (dd g) u0,(convert 23 9 v1).run Tryz.prog p.u= .ok (.string ⟨#[2,1,2,3,1]⟩) p.u:=aq.convG (g:=g) HR.out.1 HR.out.2 (Nat.le_refl g);have HQ:=hid T.out.mbox;have HY:=hid T.out.xbox;refine gA ?_;simp only[List.takeWhile,List.dropWhile,ai,Nat.reduceBNe];repeat(first|(refine wpQuiet_load_msg rfl (by rfl) _ rfl x rfl _ HY.out rfl ?_;simp only[acR,Act.put])|(refine wpQuiet_load_msg rfl (by rfl) _ rfl w.heap.size rfl _ HQ.out rfl ?_;simp only[acR,Act.put])|go_big_quiet_step (fail))
 first|with_reducible refine wpQuiet_nil ?_ |refine wpQuiet_nil ?_
 clear f1 HR HQ HY;refine gG rfl (fun K hK=> ?_)
 go_simp
 refine(same_selfM T.out.e (mL_at u0 _)).mono ?_;rintro q u1 ⟨rfl,hb⟩;refine hK _ _ (dd.of hb) ?_;clear hK K;try simp only[Act.put]
 have T:=hid (T.out.call hb);clear hb;have HQ:=hid T.out.mbox;refine gA ?_;simp only[List.takeWhile,List.dropWhile,ai,Nat.reduceBNe];repeat(first|(refine wpQuiet_load_msg rfl (by rfl) _ rfl w.heap.size rfl _ HQ.out rfl ?_;simp only[acR,Act.put])|go_big_quiet_step (fail))
 first|with_reducible refine wpQuiet_nil ?_ |refine wpQuiet_nil ?_
 clear HQ;refine gG rfl (fun K hK=> ?_)
 go_simp
 refine(iE (fun b=>b<u1.heap.size) mL none 0 none 0 u1 (fun b hb=>hb) (mL_at _ _) smL0).mono ?_;rintro q u2 ⟨rfl,hb⟩;refine hK _ _ (dd.of hb) ?_;clear hK K;try simp only[Act.put]
 rw[mL_may];have T:=hid (T.out.call hb);clear hb;have HQ:=hid T.out.mbox;refine gA ?_;simp only[List.takeWhile,List.dropWhile,ai,Nat.reduceBNe];repeat(first|(refine wpQuiet_load_msg rfl (by rfl) _ rfl w.heap.size rfl _ HQ.out rfl ?_;simp only[acR,Act.put])|go_big_quiet_step (fail))
 first|with_reducible refine wpQuiet_nil ?_ |refine wpQuiet_nil ?_
 clear HQ;refine gG rfl (fun K hK=> ?_)
 go_simp
 refine(kh (fun b=>b<u2.heap.size) mL none 0 none 0 u2 (fun b hb=>hb) (mL_at _ _) (fun W _ _=>l7 none 0 W)).mono ?_;rintro q u3 ⟨GA,gc,TA,tc,rfl,hcl,hb⟩;refine hK _ _ (dd.of hb) ?_;clear hK K;try simp only[Act.put]
 have T:=hid (T.out.call hb);have HCL:=hid (hcl.imp fun b hb=>hb.1);clear hb hcl;refine gG rfl (fun K hK=> ?_)
 go_simp
 refine(ma mL mL none 0 none 0 GA gc TA tc u3 (mL_at _ _) HCL.out smL0 smL0 putsL putsL).mono ?_;rintro q u4 ⟨rfl,hb⟩;refine hK _ _ (dd.of hb) ?_;clear hK K;try simp only[Act.put]
 rw[mL_same];have T:=hid (T.out.call hb);clear hb HCL;refine gA ?_;simp only[List.takeWhile,List.dropWhile,ai,Nat.reduceBNe];repeat(go_big_quiet_step (fail))
 first|with_reducible refine wpQuiet_nil ?_ |refine wpQuiet_nil ?_
 unfold da;have HF:=hid T.out.b;clear T;go_wp2_with fail;go_ret;exact⟨rfl,HF.out⟩
end Go.Proofs.YtgfidiocmiolpaaGreat
/- What the laws of layer 22 have in common. -/
namespace Go.Proofs.YtgfidiocmiolpaaGreat
open Go.RowKit
theorem fine_msg {w:World}{S:Nat→Prop}{m:aQ}{EA:Option Addr}{ec:Nat}{SA:Option Addr}{sc:Nat}(h:aT w S m EA ec SA sc)(hd: ∀e∈m.ents,SmE e)(hm:bK m=true): ∀e∈m.ents,gP e:=fun e he=>by
 have hme:=(fw hm).may e he;have hde:=hd e he;obtain⟨i,hi,rfl⟩:=List.getElem_of_mem he;obtain⟨b,off,cs,-,-,-,-,hx⟩:=cp.at h.ents i hi;exact ue hx hde hme
theorem bx.later {w:World}{g:Nat}{m:aQ}{EA:Option Addr}{ec:Nat}{SA:Option Addr}{sc:Nat}(h:bx w g m EA ec SA sc): ∀u,CR w.heap.size w u→u.heap[g]? =some (.cells #[.int .i64 m.kind,.int .i64 m.frm,.int .i64 m.tgt,.int .i64 m.term,.int .i64 m.index,.int .i64 m.logTerm,.int .i64 m.commit,.int .i64 m.round,.bool m.ok,.slice EA m.ents.length ec,.slice SA m.snap.length sc] 25 (0,0)):=fun u ⟨p,hp⟩=>by
 rw[hp];exact(p.h.block g h.lt).trans h
theorem encM_may {m:aQ}(hm:bK m=true):lD m=fT m∧jP m=0:=⟨by unfold lD;rw[if_pos hm],by unfold jP;rw[if_pos hm]⟩
theorem sameM_iff {a b:aQ}(ha:bK a=true)(hb:bK b=true)(fa: ∀e∈a.ents,gP e)(fb: ∀e∈b.ents,gP e):iy a b=true↔a=b:=by
 unfold iy;rw[(encM_may ha).1,(encM_may ha).2,(encM_may hb).1];simp only[Bool.and_eq_true,decide_eq_true_eq];exact⟨fun h=>r8 ha hb fa fb h.2,fun h=>⟨trivial,by rw[h]⟩⟩
end Go.Proofs.YtgfidiocmiolpaaGreat
/- Bytes that came in. -/
namespace Go.Proofs.YtgfidiocmiolpaaGreat.OpenB
open Go.ChangeShapes Go.WideShapes Go.ChangeAt Go.RowKit Go.Joins Go.Deep
section
variable {H :Type} {enc:TypeId×Value→H} {W:World} {sp:Nat→Bool}
theorem add_at (b off i:Nat):((⟨b,off,none⟩:Addr).add i)=⟨b,off+i,none⟩:=by
 unfold Addr.add
 split
 ·next h=>simp[h]
 ·rfl
theorem open_bytes {fuel:Nat}{A:Option Addr}{len cap:Nat}{x:DataW H×List MemPlace}(h:DataW.trod enc Tryz.prog W 0 sp true fuel 23 [.slice A len cap]=some x):
  (∃l:List UInt8,len=l.length∧Rd W W.heap.size (.slice A l.length cap) l)∧(len=0∨ ∃es rs,x.1= .slice es rs∧es.length=len):=by
 rcases open_ints Tryz.underlying23 Tryz.underlying5 (by kernel_rfl) h with ⟨hcs,_⟩|⟨a,len',cap',zs,hcs,_,hl,hm,hz,hxx,hcell,hwf⟩
 ·simp only[List.cons.injEq,Value.slice.injEq,and_true]at hcs;obtain⟨rfl,rfl,rfl⟩:=hcs;exact⟨⟨[],rfl,none,0,rfl,by simp,⟨by decide,fun _=>rfl⟩,fun h=>absurd h (by simp)⟩,.inl rfl⟩
 ·simp only[List.cons.injEq,Value.slice.injEq,and_true]at hcs;obtain⟨rfl,rfl,rfl⟩:=hcs;have hzl:len≤zs.length:=by rw[hz];split<;>omega
  have hlen:len=((zs.take len).map fun z=>UInt8.ofNat z.toNat).length:=by simp;omega
  refine⟨⟨(zs.take len).map fun z=>UInt8.ofNat z.toNat,hlen,some a,cap,rfl,by rw[←hlen];exact hl,⟨by unfold maxLen at hm;omega,fun h=>by cases h⟩,fun hp=> ?_⟩,.inr ⟨_,_,by rw[hxx],by simp[lits];omega⟩⟩;rw[←hlen]at hp;obtain⟨b,off,spot⟩:=a;have h0:=hcell 0 (by omega);obtain rfl:spot=none:=by simpa[Addr.add]using World.cell?_spot h0
  refine⟨b,off,rfl,?_,fun i hi=> ?_⟩
  ·rw[add_at]at h0;exact World.block_lt_of_cell? W _ h0
  ·rw[←hlen]at hi;have hi2:i<zs.length:=by omega
   have h1:=hcell i hi2;rw[add_at]at h1;rw[h1];have hb:=bounds_u8 (hwf zs[i] (List.getElem_mem hi2));have e:zs.getD i 0=zs[i]:=by simp[List.getD,List.getElem?_eq_getElem hi2]
   rw[e];simp only[List.getElem_map,List.getElem_take];rw[bA _ (by omega)]
   congr 2
   omega
end
end Go.Proofs.YtgfidiocmiolpaaGreat.OpenB
/- A message that came in. -/
namespace Go.Proofs.YtgfidiocmiolpaaGreat
open Go.ChangeShapes Go.WideShapes Go.RowKit Go.Joins Go.Deep OpenB
theorem cellsMsg :Tryz.prog.cellsOf 25=11:=by kernel_rfl
theorem cellsBool22 :Tryz.prog.cellsOf 4=1:=by kernel_rfl
theorem cellsBytes22 :Tryz.prog.cellsOf 23=1:=by kernel_rfl
theorem fieldsMsg : ∃f0 f1 f2 f3 f4 f5 f6 f7 f8 f9 f10:Field,Tryz.prog.underlying 25=some (.struct #[f0,f1,f2,f3,f4,f5,f6,f7,f8,f9,f10])∧(f0.type=3∧f1.type=3∧f2.type=3∧f3.type=3∧f4.type=3∧f5.type=3∧f6.type=3∧f7.type=3∧f8.type=4∧f9.type=22∧f10.type=23)∧(f0.offset=0∧f1.offset=1∧f2.offset=2∧f3.offset=3∧f4.offset=4∧f5.offset=5∧f6.offset=6∧f7.offset=7∧f8.offset=8∧f9.offset=9∧f10.offset=10):=
 ⟨_,_,_,_,_,_,_,_,_,_,_,Tryz.underlying25,⟨rfl,rfl,rfl,rfl,rfl,rfl,rfl,rfl,rfl,rfl,rfl⟩,⟨rfl,rfl,rfl,rfl,rfl,rfl,rfl,rfl,rfl,rfl,rfl⟩⟩
section
variable {H :Type} {enc:TypeId×Value→H} {W:World} {sp:Nat→Bool}
theorem open_bytesAt {fuel:Nat}{cs:List Value}{x:DataW H×List MemPlace}(h:DataW.trod enc Tryz.prog W 0 sp true fuel 23 cs=some x)(hw: ∀n∈x.1.weights Tryz.prog 23,n≤reachBytes):
  ∃A c,∃l:List UInt8,cs= [.slice A l.length c]∧l.length≤c∧c≤9223372036854775807∧(A=none→c=0)∧l.length≤140737488351232∧cd W (fun b=>b<W.heap.size) A l:=by
 have hc: ∃A n c,cs= [.slice A n c]:=by
  rcases DataW.trod_slice Tryz.underlying23 h with ⟨e3,-⟩|⟨a,len,cap,elems,rest,m,hm,e3,-⟩
  ·exact⟨_,_,_,e3⟩
  ·exact⟨_,_,_,e3⟩
 obtain⟨A,n,c,rfl⟩:=hc;obtain⟨⟨l,rfl,A',c',hv,h1,⟨h2,h3⟩,h4⟩,hshape⟩:=open_bytes h;injection hv with e1 e2 e3
 subst e1 e3;refine⟨A,c,l,rfl,h1,h2,h3,?_,h4⟩;rcases hshape with h0|⟨es,rs,hd,hes⟩
 ·omega
 ·rw[hd]at hw;simp only[DataW.weights,Tryz.underlying23]at hw;have:=hw _ (List.mem_cons_self ..);have hb:Tryz.prog.bytesOf 5=1:=by kernel_rfl
  rw[hb]at this;simp only[reachBytes]at this;omega
theorem open_msg {fuel:Nat}{cs:List Value}{x:DataW H×List MemPlace}(h:DataW.trod enc Tryz.prog W 0 sp true fuel 25 cs=some x)(hw: ∀n∈x.1.weights Tryz.prog 25,n≤reachBytes):
  ∃(m:aQ) (EA:Option Addr) (ec:Nat) (SA:Option Addr) (sc:Nat),cs= [.int .i64 m.kind,.int .i64 m.frm,.int .i64 m.tgt,.int .i64 m.term,.int .i64 m.index,.int .i64 m.logTerm,.int .i64 m.commit,.int .i64 m.round,.bool m.ok,.slice EA m.ents.length ec,.slice SA m.snap.length sc]∧aT W (fun b=>b<W.heap.size) m EA ec SA sc:=by
 obtain⟨f0,f1,f2,f3,f4,f5,f6,f7,f8,f9,f10,hu,⟨t0,t1,t2,t3,t4,t5,t6,t7,t8,t9,t10⟩,⟨o0,o1,o2,o3,o4,o5,o6,o7,o8,o9,o10⟩⟩:=fieldsMsg;obtain⟨xs,n,hfu,hx,hlen,hxl,hg⟩:=DataW.trod_struct hu h;rw[cellsMsg]at hlen
 match cs,hlen with
 | [c0,c1,c2,c3,c4,c5,c6,c7,c8,c9,c10],_=>
  match xs,hxl with
  | [y0,y1,y2,y3,y4,y5,y6,y7,y8,y9,y10],_=>
   have g0:=hg 0 f0 rfl;have g1:=hg 1 f1 rfl;have g2:=hg 2 f2 rfl;have g3:=hg 3 f3 rfl;have g4:=hg 4 f4 rfl;have g5:=hg 5 f5 rfl;have g6:=hg 6 f6 rfl;have g7:=hg 7 f7 rfl;have g8:=hg 8 f8 rfl;have g9:=hg 9 f9 rfl;have g10:=hg 10 f10 rfl;rw[t0,o0,cX]at g0;rw[t1,o1,cX]at g1;rw[t2,o2,cX]at g2;rw[t3,o3,cX]at g3;rw[t4,o4,cX]at g4;rw[t5,o5,cX]at g5;rw[t6,o6,cX]at g6;rw[t7,o7,cX]at g7;rw[t8,o8,cellsBool22]at g8;rw[t9,o9,rT]at g9;rw[t10,o10,cellsBytes22]at g10;have hws:=hw;rw[hx]at hws;simp only[DataW.weights,hu,List.map_cons,List.map_nil,t0,t1,t2,t3,t4,t5,t6,t7,t8,t9,t10]at hws;simp only[DataW.weightsEach,List.mem_append]at hws;obtain⟨a0,e0,-,w0⟩:=DataW.trod_int Tryz.underlying3 g0;obtain⟨a1,e1,-,w1⟩:=DataW.trod_int Tryz.underlying3 g1;obtain⟨a2,e2,-,w2⟩:=DataW.trod_int Tryz.underlying3 g2;obtain⟨a3,e3,-,w3⟩:=DataW.trod_int Tryz.underlying3 g3;obtain⟨a4,e4,-,w4⟩:=DataW.trod_int Tryz.underlying3 g4;obtain⟨a5,e5,-,w5⟩:=DataW.trod_int Tryz.underlying3 g5;obtain⟨a6,e6,-,w6⟩:=DataW.trod_int Tryz.underlying3 g6;obtain⟨a7,e7,-,w7⟩:=DataW.trod_int Tryz.underlying3 g7;obtain⟨a8,e8,-⟩:=DataW.trod_bool Tryz.underlying4 g8;obtain⟨EA,ec,es,e9,q1,q2,q3,q4⟩:=sE g9 (fun n hn=>hws n (by simp[hn]));obtain⟨SA,sc,sl,e10,p1,p2,p3,p4,p5⟩:=open_bytesAt g10 (fun n hn=>hws n (by simp[hn]));simp at e0 e1 e2 e3 e4 e5 e6 e7 e8 e9 e10;subst e0 e1 e2 e3 e4 e5 e6 e7 e8 e9 e10;exact⟨⟨a0,a1,a2,a3,a4,a5,a6,a7,a8,es,sl⟩,EA,ec,SA,sc,rfl,⟨q4,q2,fun h=>(q1 h).1,q3,p5,p1,p3,p2,p4,in64_of_wf w0,in64_of_wf w1,in64_of_wf w2,in64_of_wf w3,in64_of_wf w4,in64_of_wf w5,in64_of_wf w6,in64_of_wf w7⟩⟩
end
end Go.Proofs.YtgfidiocmiolpaaGreat
