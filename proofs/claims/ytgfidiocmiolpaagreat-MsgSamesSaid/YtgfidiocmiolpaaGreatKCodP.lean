/- How long a code is; which values are whole; what is read of bytes. No conditions on the program. -/
import Derived.Test.YtgfidiocmiolpaaGreatKRefM
import Derived.Test.YtgfidiocmiolpaaGreatKMath
import Derived.Test.YtgfidiocmiolpaaGreatKValO
import Derived.Lib.OthersKept
import Derived.Laws.AppendOwnNone
import Derived.Outline
import Derived.Deep.OwnRows
import Derived.Deep.Slices
import Derived.SliceStrings
import Derived.SizedLaws
import Derived.Lib.SmallJoins
import Derived.Laws.OwnMore
import Derived.Laws.AppendOwn
set_option maxHeartbeats 64000000
set_option maxRecDepth 100000
set_option linter.unusedVariables false
set_option linter.unusedSimpArgs false
namespace Go.Proofs.YtgfidiocmiolpaaGreat
open Go.RowKit
theorem kS (s:ByteArray):(txt s).length=tsz s:=by unfold txt tsz;rw[List.length_append];rfl
mutual
theorem jU : ∀(t:VT),ba t=true→(de t).length=aK t
 | .mk k i s l ns,h=>by
  have hsh:=qU h;rcases hsh with e|⟨x,hx,e⟩|⟨x,e⟩|⟨k',s',hk,e⟩|⟨l',hl,e⟩|⟨l',ns',hl,hn,hdn,e⟩
  ·injection e with e1 e2 e3 e4 e5
   subst e1 e2 e3 e4 e5;rfl
  ·injection e with e1 e2 e3 e4 e5
   subst e1 e2 e3 e4 e5;rcases hx with rfl|rfl<;>rfl
  ·injection e with e1 e2 e3 e4 e5
   subst e1 e2 e3 e4 e5;rw[cg];unfold eu aK cB;simp[VT.kind,VT.num,VT.items,VT.names,bN,cx];omega
  ·injection e with e1 e2 e3 e4 e5
   subst e1 e2 e3 e4 e5;rw[cg];unfold eu aK cB;rcases hk with rfl|rfl<;>(simp[VT.kind,VT.num,VT.items,VT.names,VT.text,bN,cx,kS];omega)
  ·injection e with e1 e2 e3 e4 e5
   subst e1 e2 e3 e4 e5;have h1:=iG false [] l hl (fun h=>by cases h);rw[cg];unfold eu aK cB;simp[VT.kind,VT.num,VT.items,VT.names,VT.text,h1];omega
  ·injection e with e1 e2 e3 e4 e5
   subst e1 e2 e3 e4 e5;have h1:=iG true ns l hl (fun _=>hn);rw[cg];unfold eu aK cB;simp[VT.kind,VT.num,VT.items,VT.names,VT.text,h1];omega
theorem iG : ∀(d:Bool) (ns:List ByteArray) (l:List VT),dE l=true→(d=true→ns.length=l.length)→(ct d ns l).length=(if d then dC ns else 0)+bG l
 |d,ns,[],_,hn=>by
  rw[bN,cx]
  cases d with
  |false=>rfl
  |true=>have:ns= []:=List.eq_nil_of_length_eq_zero (hn rfl);subst this;rfl
 |d,ns,t::r,h,hn=>by
  have h2:ba t=true∧dE r=true:=by unfold dE at h;simpa using h
  have h3:=jU t h2.1
  cases d with
  |false=>
   have h4:=iG false ns.tail r h2.2 (fun h=>by cases h);unfold ct bG
   simp only[Bool.false_eq_true,if_false,List.nil_append,List.length_append,h3,h4];omega
  |true=>
   match ns,hn with
   | [],hn=>have:=hn rfl;simp at this
   |n::ns,hn=>
    have h4:=iG true ns r h2.2 (fun _=>by have:=hn rfl;simpa using this);unfold ct bG;simp only[if_true,List.headD_cons,List.tail_cons,List.length_append,h3,h4,kS];have:dC (n::ns)=tsz n+dC ns:=by unfold dC;simp
    rw[this];omega
end
theorem ew {t:VT}(hs:aK t≤9223372036854775807):aX t=0↔ba t=true∧ao t≤8∧aK t≤4096:=by
 have hw:wrap64 (aK t)=aK t:=by unfold wrap64;omega
 unfold aX;rw[hw]
 cases hm:ba t with
 |false=>simp
 |true=>
  simp only[if_true,true_and];constructor
  ·intro h
   split at h
   ·omega
   ·split at h
    ·omega
    ·constructor<;>omega
  ·rintro⟨h1,h2⟩;rw[if_neg (by omega),if_neg (by omega)]
structure wQ (t:VT):Prop where
 may:ba t=true
 depth:ao t≤8
 size:aK t≤4096
theorem vM {l:List VT}(h: ∀t∈l,gI t):pA l:=by
 induction l with
 |nil=>unfold pA;trivial
 |cons a r ih=>unfold pA;exact⟨h a (List.mem_cons_self ..),ih fun t ht=>h t (List.mem_cons_of_mem _ ht)⟩
def rp (l:List UInt8):Option (VT×List UInt8):=match rdW 8 l with
 |some (t,r)=>if aX t=0 then some (t,r)else none
 |none=>none
theorem pC {t:VT}(h:wQ t)(hr:gI t)(r:List UInt8):rp (de t++r)=some (t,r):=by
 unfold rp;rw[lk 8 t r h.may hr h.depth h.size];simp only;rw[if_pos ((ew (by have:=h.size;omega)).2 ⟨h.may,h.depth,h.size⟩)]
open Lib (hid)
theorem Rd.conv {w:World}{B n cap:Nat}{A:Option Addr}{l:List UInt8}(h:Rd w B (.slice A l.length cap) l)(hn:n≤l.length)(c:Nat):
  (convert 23 9 (.slice A n c)).run Tryz.prog w= .ok (.string ⟨(l.take n).toArray⟩) w:=by
 obtain⟨A',cap',hv,_,_,h1⟩:=h;injection hv with hA _ _
 subst hA;rcases Nat.eq_zero_or_pos n with rfl|hp
 ·rcases A with _|a
  ·rw[run_convert_bytes_nil w 23 5 Tryz.underlying23 Tryz.underlying5 0 c 9 Tryz.underlying9];rfl
  ·exact run_convert_bytes_back w 23 9 5 a c [] Tryz.underlying23 Tryz.underlying5 Tryz.underlying9 (fun j hj=>absurd hj (by simp))
 ·obtain⟨b,off,rfl,_,hcell⟩:=h1 (by omega);rw[run_convert_bytes_arg w 23 5 Tryz.underlying23 Tryz.underlying5 b off n c ((l.take n).map fun b=>(b.toNat:Int)) (by simp;omega) ?_ 9 Tryz.underlying9,jL];intro i hi;rw[hcell i (by omega)];have hi2:i<l.length:=by omega
  simp[List.getElem?_map,List.getElem?_eq_getElem hi2,List.getD,List.getElem?_take,hi]
theorem rK (b off i:Nat):((⟨b,off,none⟩:Addr).add i)=⟨b,off+i,none⟩:=by
 unfold Addr.add
 split
 ·next h=>simp[h]
 ·rfl
abbrev K8 (w w':World):Prop:=Lib.OthersKept 5 Option.none w w'
theorem aq.kind {w:World}{B:Nat}{v:Value}{l:List UInt8}(h:aq w B v l): ∀g,v.ownBlock=some g→ ∃c fz,w.heap[g]? =some (.cells c 5 fz):=by
 intro g hg;rcases h.2 with ⟨rfl,-⟩|⟨g',cap,cur,rfl,-,hh,-⟩
 ·cases hg
 ·obtain rfl:g'=g:=by simpa[Value.ownBlock]using hg
  exact⟨cur,_,hh⟩
theorem aq.rd {w:World}{B:Nat}{v:Value}{l:List UInt8}(h:aq w B v l):Rd w w.heap.size v l:=by
 have hc:=fun g hg=>World.ownsRow.cells (g:=g) h hg;have hlt:=World.ownsRow.lt h;rcases h.2 with ⟨rfl,h0⟩|⟨g,cap,cur,rfl,hB,hh,hcap,hm,-⟩
 ·have hl:l= []:=List.eq_nil_of_length_eq_zero h0;subst hl;exact⟨none,0,rfl,Nat.le_refl _,⟨by omega,fun _=>rfl⟩,fun h=>absurd h (by simp)⟩
 ·refine⟨some ⟨g,0,none⟩,cap,rfl,hcap,⟨by unfold maxLen at hm;omega,fun h=>by cases h⟩,fun hp=>⟨g,0,rfl,(hlt g rfl).2,fun i hi=> ?_⟩⟩;have h1:=hc g rfl i (.int .u8 (l[i].toNat:Int)) (by simp[aC,hi]);rw[rK]at h1;exact h1
theorem Rd.one {w:World}(b:UInt8){x:Int}(hx:x=(b.toNat:Int)):Rd (w.alloc (.cells #[.int .u8 x] 5)) (w.heap.size+1) (.slice (some ⟨w.heap.size,0,none⟩) 1 1) [b]:=by
 subst hx;refine⟨some ⟨w.heap.size,0,none⟩,1,rfl,Nat.le_refl _,⟨by omega,fun h=>by cases h⟩,fun _=>⟨w.heap.size,0,rfl,by omega,fun i hi=> ?_⟩⟩;obtain rfl:i=0:=by simpa using hi
 exact Go.Joins.cell_of_block (heap_alloc_new w _) 0
theorem Rd.one' {w:World}{g:Nat}(hg:g=w.heap.size)(b:UInt8){x:Int}(hx:x=(b.toNat:Int)):Rd (w.alloc (.cells #[.int .u8 x] 5)) (w.heap.size+1) (.slice (some ⟨g,0,none⟩) 1 1) [b]:=by
 subst hg;exact Rd.one b hx
theorem ak {w:World}{ops:Array Oper}{rest:List Oper}{o:Oper}{a:Act}{Q:Exit→Act→World→Prop}(hgd:o.guard=none)(s x:Operand)
  (ho:o.op= .call { callee:= .builtin .append,args:= #[s,x],argTypes:= #[23,23] }) (B:Nat) (v:Value) (l:List UInt8) (hs:a.eval s=v) (hown:aq w B v l)
  (D:Nat) (vx:Value) (m:List UInt8) (hx:a.eval x=vx) (hrd:Rd w D vx m) (hB:B≤w.heap.size) (hl:l.length+m.length≤140737488355328)
  (K: ∀v' w',aq w' B v' (l++m)→w.grownBy w' v.ownBlock→wpList Tryz.prog ops Q rest (a.put o.dst v') w'):wpList Tryz.prog ops Q (o::rest) a w:=by
 obtain⟨i0,hi,hz0,hz1,hz2⟩:=info_parts Tryz.infoU8;obtain⟨A,cap,rfl,hcap,⟨hc2,hA⟩,hc⟩:=hrd
 cases A with
 |none=>
  have hm:m= []:=by
   match m,hc with
   | [],_=>rfl
   |b::r,hc=>obtain⟨_,_,h,_⟩:=hc (by simp);cases h
  subst hm;obtain rfl:=hA rfl;refine wpList_append_own_none hgd s x 23 ho B 5 i0 1 Tryz.underlying23 hi v l.length (aC l) hs hown hx ?_
  exact K v w (by rw[List.append_nil];exact hown) ⟨rfl,rfl,rfl,Nat.le_refl _,fun _ _ _=>rfl⟩
 |some ad=>
  refine wpList_append_own _ hgd s x 23 ho B 5 i0 (.int .u8 0) 1 1 Tryz.underlying23 hi hz0 hz1 hz2 rfl (by decide) v l.length (aC l) hs hown ad m.length cap (aC m) hx (by simp[aC]) ?_ (ey m) (by unfold maxLen;omega) (by omega) hB ?_
  ·intro j u hj;have hjl:j<m.length:=by have:=(List.getElem?_eq_some_iff.1 hj).1;simpa[aC]using this
   obtain⟨b,off,hAd,-,hcell⟩:=hc (by omega);injection hAd with hAd
   subst hAd;rw[rK,hcell j hjl];simpa[aC,List.getElem?_map,List.getElem?_eq_getElem hjl]using hj
  ·intro v' w' h1 h2 _;exact K v' w' (by unfold aq;rw[List.length_append,df];exact h1) h2
def gg (B:Nat)(l:List UInt8)(w:World)(e:Ending)(w':World):Prop:= ∃v',e= .returned v'∧aq w' B v' l∧Below B w w'∧K8 w w'
theorem az {w w':World}(h:Below w.heap.size w w'):K8 w w':=fun k o hk _ _=>(h.block k (Array.getElem?_eq_some_iff.1 hk).1).trans hk
theorem aA {w w':World}{B:Nat}{v:Value}{l:List UInt8}(h:aq w B v l)(hg:w.grownBy w' v.ownBlock):K8 w w':=(Lib.OthersKept.refl _ _ _).grown hg h.kind
theorem ax {a w w':World}{B:Nat}{v:Value}{l:List UInt8}(hb:Below B a w)(h:aq w B v l)(hB:B≤w.heap.size)(hg:w.grownBy w' v.ownBlock):Below B a w':=hb.grown hg hB (fun k hk=>(World.ownsRow.lt h k hk).1)
theorem Box.k8 {w w':World}{g:Nat}{a b c d e:Value}(h:Box w g a b c d e)(hk:K8 w w'):Box w' g a b c d e:=hk g _ h (fun h=>by cases h) (fun c fz h=>by injection h with _ h;exact absurd h (by decide))
def eQ (t:VT):Prop:= ∀(S:Nat→Prop) (v bv:Value) (B:Nat) (l:List UInt8) (w:World),(∀x,S x→x<B)→B≤w.heap.size→LV w S t v→aq w B bv l→l.length+(de t).length≤140737488355328→
 Calls Tryz.prog 160 #[bv,v] w (gg B (l++de t) w)
theorem ou {w u:World}{B:Nat}{S:Nat→Prop}{A:Option Addr}{l:List VT}(hS: ∀b,S b→b<B)(h:LVA w S A l)(hb:Below B w u)(j:Nat)(hj:j<l.length):
  ∃p o A2 e2 A3 e3,A=some ⟨p,o,none⟩∧u.cell? ⟨p,o+j * 5,none⟩=some (.int .i64 l[j].kind)∧u.cell? ⟨p,o+j * 5+1,none⟩=some (.int .i64 l[j].num)∧u.cell? ⟨p,o+j * 5+2,none⟩=some (.string l[j].text)∧
   u.cell? ⟨p,o+j * 5+3,none⟩=some (.slice A2 l[j].items.length e2)∧u.cell? ⟨p,o+j * 5+4,none⟩=some (.slice A3 l[j].names.length e3)∧
   LV u S l[j] (.agg #[.int .i64 l[j].kind,.int .i64 l[j].num,.string l[j].text,.slice A2 l[j].items.length e2,.slice A3 l[j].names.length e3]):=by
 obtain⟨p,o,hA,hp,hv⟩:=h (by omega);obtain⟨c0,c1,c2,c3,c4,h0,h1,h2,h3,h4,hx⟩:=hv.at j hj;obtain⟨A2,e2,A3,e3,hag,-⟩:=hx.shape;injection hag with hag;injection hag with hag
 injection hag with y0 hag;injection hag with y1 hag;injection hag with y2 hag;injection hag with y3 hag;injection hag with y4 hag
 subst y0 y1 y2 y3 y4;have hk: ∀o,u.cell? ⟨p,o,none⟩=w.cell? ⟨p,o,none⟩:=fun o=>hb.cell (p:=⟨p,o,none⟩) (hS p hp);exact⟨p,o,A2,e2,A3,e3,hA,(hk _).trans h0,(hk _).trans h1,(hk _).trans h2,(hk _).trans h3,(hk _).trans h4,hx.keep fun b hb'=>hb.block b (hS b hb')⟩
theorem tK {w u:World}{B:Nat}{S:Nat→Prop}{A:Option Addr}{ns:List ByteArray}(hS: ∀b,S b→b<B)(h:au w S A ns)(hb:Below B w u)(j:Nat)(hj:j<ns.length):
  ∃p o,A=some ⟨p,o,none⟩∧p<B∧u.cell? ⟨p,o+j,none⟩=some (.string ns[j])∧ns[j].size≤140737488351232:=by
 obtain⟨p,o,hA,hp,hc⟩:=h (by omega);exact⟨p,o,hA,hS p hp,(hb.cell (p:=⟨p,o+j,none⟩) (hS p hp)).trans (hc j hj).1,(hc j hj).2⟩
theorem tg (num:Int)(txs:ByteArray)(its:List VT)(nms:List ByteArray)(ih: ∀x∈its,eQ x)(S:Nat→Prop)(v bv:Value)(B:Nat)(l:List UInt8)(w:World)(hS: ∀x,S x→x<B)(hB:B≤w.heap.size)(h:LV w S (.mk 6 num txs its nms) v)(hown:aq w B bv l)
  (hlen:l.length+(grp its.length++ct false nms its).length≤140737488355328):
  Calls Tryz.prog 181 #[bv,v] w (gg B (l++(grp its.length++ct false nms its)) w):=by
 obtain⟨A,c,A',c',rfl,-,-,-,hl1,-,hN,hA⟩:=h.shape;simp only[VT.kind,VT.num,VT.text,VT.items,VT.names]at *;have HX:=hid (Box.new (w:=w) (.int .i64 6) (.int .i64 num) (.string txs) (.slice A its.length c) (.slice A' nms.length c'));have HB0:=hid (ae (w:=w) (.cells #[.int .i64 6,.int .i64 num,.string txs,.slice A its.length c,.slice A' nms.length c'] 43));have HO:=hid (aq.below hown HB0.out);have HA:=hid hA;have HLEN:=hid hlen;obtain⟨full,hfull⟩: ∃full,full=grp its.length++ct false nms its:=⟨_,rfl⟩;have HF:=hid hfull;rw[←hfull]at HLEN ⊢;clear h hA hown hlen hfull;go_enter Tryz.func181,Tryz.ntmps181;have k3:=HX.out.c3;go_wp2_with fail;refine(gu its.length _ (by omega)).mono ?_;rintro e w1 (⟨_,_,x,rfl,hx,hb⟩|⟨h,_⟩);rotate_left
 ·omega
 rw[Int.toNat_natCast]at hx;have HR:=hid hx.rd;have hb1:=aw HB0.out hb;have HB1:=hid (hb1.mono hB);have HK1:=hid (az hb1);have HO1:=hid (HO.out.below hb);have HX1:=hid (HX.out.call hb);have hz1:=Nat.le_trans hB hb1.size;have hg:=al its.length;have hgl:l.length+(grp its.length).length≤140737488355328:=by have h1:=HLEN.out;rw[HF.out,List.length_append]at h1;omega
 clear hb hb1 hx k3 HB0 HO HX;go_wp2_with(at_builtin;go_must (refine ak rfl _ _ rfl B _ l rfl HO1.out w1.heap.size x (grp its.length) rfl HR.out hz1 hgl ?_));intro v2 w2 hv2 hg2;have HB2:=hid (ax HB1.out HO1.out hz1 hg2);have HK2:=hid (HK1.out.trans (aA HO1.out hg2));have HX2:=hid (HX1.out.k8 (aA HO1.out hg2));have HO2:=hid hv2;have k3:=HX2.out.c3;clear hg2 hv2 HB1 HK1 HX1 HO1 HR;go_wp2_with fail
 go_loopw [0,22] (fun b i wr=> ∃(j:Nat) (X:List UInt8),i= .int .i64 j∧j≤its.length∧Hid (aq wr B b (l++X))∧Hid (X++ct false (nms.drop j) (its.drop j)=full)∧Hid (Below B w wr)∧Hid (K8 w wr)∧Hid (Box wr w.heap.size (.int .i64 6) (.int .i64 num) (.string txs) (.slice A its.length c) (.slice A' nms.length c'))) (fun _ i _=>its.length - (intOf i).toNat)
 case atStart=>exact⟨0,grp its.length,rfl,Nat.zero_le _,HO2,HF.out.symm,HB2,HK2,HX2⟩
 case round=>
  obtain⟨j,X,rfl,hj,HO,HE,HB,HK,HX⟩:=hrel;clear HX2 HK2 HB2 HO2 k3;by_cases hlt:j<its.length
  ·obtain⟨p,o,A2,e2,A3,e3,rfl,h0,h1,h2,h3,h4,hx⟩:=ou hS HA.out HB.out j hlt;have k0:wr.cell? ⟨w.heap.size,0,none⟩=some (.int .i64 6):=HX.out.c0;have hwl:w.heap.size<wr.heap.size:=HX.out.lt;have HV:=hid hx;clear hx;go_wp2_with fail;have hbx:=ae (w:=wr) (.cells #[.int .i64 its[j].kind,.int .i64 its[j].num,.string its[j].text,.slice A2 its[j].items.length e2,.slice A3 its[j].names.length e3] 43);have hBz:B≤wr.heap.size:=Nat.le_trans hB HB.out.size
   have HE2:Hid (X++de its[j]++ct false (nms.drop (j+1)) (its.drop (j+1))=full):=hid (by
    have h1:=HE.out;rw[me false hlt (fun h=>by cases h)]at h1
    simpa using h1)
   have HLE:Hid ((l++X).length+(de its[j]).length≤140737488355328):=hid (by
    have h1:=HLEN.out;rw[←HE2.out]at h1
    simp only[List.length_append]at h1 ⊢;omega)
   have HC:=hid (ih its[j] (List.getElem_mem hlt) S _ _ B (l++X) _ hS (Nat.le_trans hBz hbx.size) (HV.out.keep fun b hb=>(hbx.mono hBz).block b (hS b hb)) (aq.below HO.out hbx) HLE.out);have HBx:=hid (HB.out.trans (hbx.mono hBz));have HKx:=hid (HK.out.trans (az hbx));have HXx:=hid (HX.out.call hbx);clear hbx h0 h1 h2 h3 h4 k0;refine HC.out.mono ?_;rintro e w3 ⟨v3,rfl,hv3,hb3,hk3⟩;have HO3:Hid (aq w3 B v3 (l++(X++de its[j]))):=hid (by rw[←List.append_assoc];exact hv3);have HB3:=hid (HBx.out.trans hb3);have HK3:=hid (HKx.out.trans hk3);have HX3:=hid (HXx.out.k8 hk3);clear hv3 hb3 hk3 HC HE HO HB HK HX;go_wp2_with fail
   go_roundw
   case rel=>exact⟨j+1,X++de its[j],by go_num,by omega,HO3,HE2,HB3,HK3,HX3⟩
   case measure=>simp[intOf];omega
  ·obtain rfl:j=its.length:=by omega
   go_wp2_with fail;go_ret;exact⟨_,rfl,by have h1:=HE.out;rw[List.drop_of_length_le (Nat.le_refl _),bN,List.append_nil]at h1;rw[←h1];exact HO.out,HB.out,HK.out⟩
end Go.Proofs.YtgfidiocmiolpaaGreat
/- Statements whose order Go leaves open, where two operations that do more than yield may come in either order: a walk along a tree of orders, with a relation of one's choice for what must stay while something that only yields is waited for. -/
namespace Go.Proofs.YtgfidiocmiolpaaGreat
open Go.RowKit Go.Sort
structure cW (R:World→World→Prop)(w:World) where
 u:World
 h:R w u
abbrev CRR (R:World→World→Prop)(w:World):World→Prop:=fun u=> ∃p:cW R w,u=p.u
inductive OT where
 |tail (l:List Nat):OT
 |pure (l:List Nat) (t:OT):OT
 |free (l:List Nat) (t:OT):OT
 |step (i:Nat) (t:OT):OT
 |fork (i:Nat) (a:OT) (j:Nat) (b:OT):OT
section
variable {P :Program} {ops:Array Oper} {Q:Exit→Act→World→Prop} {md:Region.Mode} {R:World→World→Prop} {T:List Nat}
def iA (R:World→World→Prop)(T:List Nat)(P:Program)(md:Region.Mode)(ops:Array Oper)(Q:Exit→Act→World→Prop):Nat→Array Bool→Act→World→Prop
 |0,listed,a,w=>Region.ready md ops listed= []∧Q .normal a w
 |f+1,listed,a,w=>(Region.ready md ops listed= []→Q .normal a w)∧
   ∀i∈Region.ready md ops listed,wpOp P ops Q i (fun a' w'=>(i∈T∨R w w')∧iA R T P md ops Q f (listed.setIfInBounds i true) a' w') a w
theorem fR : ∀(f:Nat) (listed:Array Bool) (a:Act) (w:World),iA R T P md ops Q f listed a w→wpAny P md ops Q f listed a w
 |0,_,_,_,h=>h
 |f+1,_,_,_,h=>⟨h.1,fun i hi=>wpOp_mono (fun a' w' h'=>fR f _ a' w' h'.2) (h.2 i hi)⟩
def gj (md:Region.Mode)(ops:Array Oper)(T:List Nat)(i:Nat):Bool:=T.all fun j=>match ops[j]? with
 |none=>true
 |some o=>o.after.toList.any fun e=>Region.binds md e && Nat.beq e.on i
theorem fq (hrr: ∀w,R w w)(R2:World→World→Prop)(hrr2: ∀w,R2 w w)(htr: ∀a b c,R2 a b→R2 b c→R2 a c){i:Nat}{oi:Oper}{v:Value}(hi:ops[i]? =some oi)(hT0:(gj md ops T i=true∧ ∀a b,R a b→R2 a b)∨ ∀a b,R2 a b)(hsel:Region.noSelect ops=true)(hQ: ∀c d v a w,Q (.panic c) (Act.put a d v) w→Q (.panic c) a w):
  ∀(f:Nat) (listed:Array Bool) (a:Act) (w:World),
   (∀j oj,ops[j]? =some oj→j≠i→listed.getD j true=false→(∀e∈oj.after,Region.binds md e=true→e.on≠i)→oi.apart ops oj=true)→
   i∈Region.ready md ops listed→YieldsIf P ops (fun u=>R2 w u) oi v a→
   iA R T P md ops Q f (listed.setIfInBounds i true) (a.put oi.dst v) w→iA R T P md ops Q (f+1) listed a w:=by
 intro f
 induction f with
 |zero=>
  intro listed a w _ hr hy H;refine⟨fun h=>absurd hr (by rw[h];exact List.not_mem_nil),fun j hj=> ?_⟩;by_cases hji:j=i
  ·subst hji;exact hy.wpOp hi (hrr2 _) ⟨.inr (hrr _),H⟩
  ·exact absurd (ready_mono hj hji) (by rw[H.1];exact List.not_mem_nil)
 |succ f ih=>
  intro listed a w hfree hr hy H;refine⟨fun h=>absurd hr (by rw[h];exact List.not_mem_nil),fun j hj=> ?_⟩;by_cases hji:j=i
  ·subst hji;exact hy.wpOp hi (hrr2 _) ⟨.inr (hrr _),H⟩
  ·obtain⟨hjun,oj,hoj,hall⟩:=mem_ready.1 hj
   have hnot: ∀e∈oj.after,Region.binds md e=true→e.on≠i:=by
    intro e he hb heq;have h1:=hall e he hb;have h0:=(mem_ready.1 hr).1;rw[heq]at h1;rcases Nat.lt_or_ge i listed.size with h'|h'
    ·simp[h']at h0 h1;rw[h0]at h1;cases h1
    ·simp[Array.getElem?_eq_none h']at h1
   have hjT:gj md ops T i=true→j∉T:=by
    intro hT hm;have h1:=List.all_eq_true.1 hT j hm;rw[hoj]at h1;obtain⟨e,he,hb⟩:=List.any_eq_true.1 h1;simp only[Bool.and_eq_true]at hb;exact hnot e (by simpa using he) hb.1 (Nat.eq_of_beq_eq_true hb.2)
   have h2:=wpOp_putIf (S:=fun u=>R2 w u) hoj (hfree j oj hoj hji hjun hnot) (fun cs b=>Region.noSelect_spec hsel i oi cs b hi) (fun cs b=>Region.noSelect_spec hsel j oj cs b hoj)
    (fun c a w=>hQ c oi.dst v a w) hy (H.2 j (ready_mono hj hji))
   refine wpOp_mono (fun a' w' h3=> ?_) h2
   have hR:R2 w w':=by
    rcases hT0 with ⟨hT,himp⟩|hall
    ·exact himp _ _ (h3.2.1.resolve_left (hjT hT))
    ·exact hall _ _
   refine⟨h3.2.1,ih (listed.setIfInBounds j true) a' w' ?_ (ready_mono hr (Ne.symm hji)) (h3.1.imp (fun⟨h1,h2⟩=>⟨h1,fun u hu=>h2 u (htr _ _ _ hR hu)⟩) id) ?_⟩
   ·intro k ok hk hki hun hno;refine hfree k ok hk hki ?_ hno;by_cases hjk:j=k
    ·subst hjk;exact hjun
    ·rw[getD_set_ne true hjk]at hun;exact hun
   ·rw[Array.setIfInBounds_comm _ _ hji];exact h3.2.2
/-! ### the tree, checked -/
def ii (md:Region.Mode)(ops:Array Oper)(T:List Nat):Nat→List Nat→Array Bool→Bool
 |0,[],listed=>(Region.ready md ops listed).isEmpty
 |f+1,i::r,listed=>(ops[i]?).isSome && Region.ready md ops listed == [i] && T.contains i && ii md ops T f r (listed.setIfInBounds i true)
 |_,_,_=>false
def ka (all:Bool)(md:Region.Mode)(ops:Array Oper)(T:List Nat):List Nat→Array Bool→Bool
 | [],_=>true
 |i::r,listed=>match ops[i]? with
  |none=>false
  |some o=>ai o && (Region.ready md ops listed).contains i && Region.free md ops listed i && (all || gj md ops T i) && ka all md ops T r (listed.setIfInBounds i true)
def kF (l:List Nat)(listed:Array Bool):Array Bool:=l.foldl (fun x i=>x.setIfInBounds i true) listed
def ls (md:Region.Mode)(ops:Array Oper)(T:List Nat):Nat→OT→Array Bool→Bool
 |f,.tail l,listed=>ii md ops T f l listed
 |f,.pure l t,listed=>l.length≤f && ka false md ops T l listed && ls md ops T (f - l.length) t (kF l listed)
 |f,.free l t,listed=>l.length≤f && ka true md ops T l listed && ls md ops T (f - l.length) t (kF l listed)
 |f,.step i t,listed=>1≤f && (ops[i]?).isSome && Region.ready md ops listed == [i] && ls md ops T (f - 1) t (listed.setIfInBounds i true)
 |f,.fork i a j b,listed=>1≤f && (ops[i]?).isSome && (ops[j]?).isSome && Region.ready md ops listed == [i,j] && ls md ops T (f - 1) a (listed.setIfInBounds i true) && ls md ops T (f - 1) b (listed.setIfInBounds j true)
/-! ### the walk -/
def dH (P:Program)(ops:Array Oper)(Q:Exit→Act→World→Prop)(o:Oper)(K:Act→World→Prop)(a:Act)(w:World):Prop:=
 if Region.wanted o (yielded ops a.tmps)then o.wp P a w K Q else K (a.put o.dst undef) w
def nG (P:Program)(ops:Array Oper)(Q:Exit→Act→World→Prop):List Oper→Act→World→Prop
 | [],a,w=>Q .normal a w
 |o::r,a,w=>dH P ops Q o (nG P ops Q r) a w
abbrev kZ :World→World→Prop:=fun _ _=>True
instance (w :World):Inhabited (cW kZ w):=⟨⟨w,trivial⟩⟩
def ez (R:World→World→Prop)(T:List Nat)(P:Program)(ops:Array Oper)(Q:Exit→Act→World→Prop):OT→Act→World→Prop
 | .tail l,a,w=>nG P ops Q (cD ops l) a w
 | .pure l t,a,w=>wpQuiet P ops (CRR R w) (fun a'=>ez R T P ops Q t a' w) (cD ops l) a
 | .free l t,a,w=>wpQuiet P ops (CRR kZ w) (fun a'=>ez R T P ops Q t a' w) (cD ops l) a
 | .step i t,a,w=> ∀o,ops[i]? =some o→dH P ops Q o (fun a' w'=>(i∈T∨R w w')∧ez R T P ops Q t a' w') a w
 | .fork i x j y,a,w=>(∀o,ops[i]? =some o→dH P ops Q o (fun a' w'=>(i∈T∨R w w')∧ez R T P ops Q x a' w') a w)∧(∀o,ops[j]? =some o→dH P ops Q o (fun a' w'=>(j∈T∨R w w')∧ez R T P ops Q y a' w') a w)
theorem fy {i:Nat}{o:Oper}{K:Act→World→Prop}{a:Act}{w:World}(ho:ops[i]? =some o)(h:dH P ops Q o K a w):wpOp P ops Q i K a w:=by
 unfold wpOp dH at *;simp only[ho]
 split
 ·next hw=>rw[if_pos hw]at h;exact .inl h
 ·next hw=>rw[if_neg hw]at h;exact h
theorem gr {o:Oper}{K K':Act→World→Prop}{a:Act}{w:World}(hk: ∀a w,K a w→K' a w)(h:dH P ops Q o K a w):dH P ops Q o K' a w:=by
 unfold dH at *
 split
 ·next hw=>rw[if_pos hw]at h;exact Oper.wp_mono hk h
 ·next hw=>rw[if_neg hw]at h;exact hk _ _ h
theorem fZ {i:Nat}{r:List Nat}{o:Oper}(h:ops[i]? =some o):cD ops (i::r)=o::cD ops r:=by simp[cD,h]
theorem lQ {i:Nat}{o:Oper}{f:Nat}{listed:Array Bool}{a:Act}{w:World}(ho:ops[i]? =some o)(hr:Region.ready md ops listed= [i])
  (h:dH P ops Q o (fun a' w'=>(i∈T∨R w w')∧iA R T P md ops Q f (listed.setIfInBounds i true) a' w') a w):iA R T P md ops Q (f+1) listed a w:=
 ⟨(fun h0=>by rw[hr]at h0;cases h0),fun j hj=>by
  rw[hr]at hj;obtain rfl:j=i:=by simpa using hj
  exact fy ho h⟩
theorem lS : ∀(f:Nat) (l:List Nat) (listed:Array Bool) (a:Act) (w:World),ii md ops T f l listed=true→nG P ops Q (cD ops l) a w→iA R T P md ops Q f listed a w
 |0,[],listed,a,w,hB,h=>⟨by unfold ii at hB;simpa using hB,h⟩
 |0,i::r,listed,a,w,hB,h=>by unfold ii at hB;cases hB
 |f+1,[],listed,a,w,hB,h=>by unfold ii at hB;cases hB
 |f+1,i::r,listed,a,w,hB,h=>by
  unfold ii at hB;simp only[Bool.and_eq_true,beq_iff_eq]at hB;obtain⟨⟨⟨h1,h2⟩,h3⟩,h4⟩:=hB;obtain⟨o,ho⟩:=Option.isSome_iff_exists.1 h1;rw[fZ ho]at h;exact lQ ho h2 (gr (fun a' w' h'=>⟨.inl (by simpa using h3),lS f r _ a' w' h4 h'⟩) h)
theorem ng {o:Oper}{v:Value}{a:Act}{w:World}(hp:ai o=true)(hw:Region.wanted o (yielded ops a.tmps)=true)(h: ∀u,CRR R w u→o.quietAt P a (CRR R w) u v):
  YieldsIf P ops (fun u=>R w u) o v a:=by
 refine .inl ⟨hw,fun u hu=> ?_⟩;have h1:=h u ⟨⟨u,hu⟩,rfl⟩;unfold Oper.quietAt at h1
 cases hr:(execOp a.eval o).run P u with
 |halt x u'=>rw[hr]at h1;exact absurd h1 (by simp[Oper.quietUpon])
 |ok n u'=>
  obtain⟨x,rfl⟩:=le hp hr;rw[hr]at h1;obtain⟨rfl,rfl⟩:=h1;rfl
theorem gv (hrr: ∀w,R w w)(R2:World→World→Prop)(all:Bool)(hrr2: ∀w,R2 w w)(htr: ∀a b c,R2 a b→R2 b c→R2 a c)(h2:if all then ∀a b,R2 a b else ∀a b,R a b→R2 a b)(hsel:Region.noSelect ops=true)(hQ: ∀c d v a w,Q (.panic c) (Act.put a d v) w→Q (.panic c) a w)(f:Nat){w:World}{K:Act→Prop}:
  ∀(l:List Nat) (listed:Array Bool) (a:Act),ka all md ops T l listed=true→(∀a',K a'→iA R T P md ops Q f (kF l listed) a' w)→wpQuiet P ops (CRR R2 w) K (cD ops l) a→iA R T P md ops Q (l.length+f) listed a w
 | [],listed,a,_,hK,h=>by
  have h1:=hK a h
  simpa[kF]using h1
 |i::r,listed,a,hB,hK,h=>by
  unfold ka at hB
  cases ho:ops[i]? with
  |none=>rw[ho]at hB;cases hB
  |some o=>
   rw[ho]at hB;simp only[Bool.and_eq_true]at hB;obtain⟨⟨⟨⟨hp,hr⟩,hk⟩,hT⟩,hB'⟩:=hB;rw[fZ ho]at h
   have hT':(gj md ops T i=true∧ ∀a b,R a b→R2 a b)∨ ∀a b,R2 a b:=by
    cases all with
    |true=>exact .inr (by simpa using h2)
    |false=>exact .inl ⟨by simpa using hT,by simpa using h2⟩
   have e:(i::r).length+f=(r.length+f)+1:=by simp;omega
   rw[e];unfold wpQuiet at h;have hK': ∀a',K a'→iA R T P md ops Q f (kF r (listed.setIfInBounds i true)) a' w:=fun a' h'=>hK a' h';by_cases hw:Region.wanted o (yielded ops a.tmps)=true
   ·rw[if_pos hw]at h;obtain⟨v,h1,h3⟩:=h;exact fq hrr R2 hrr2 htr ho hT' hsel hQ _ listed a w (Region.free_spec ho hk) (by simpa using hr) (ng hp hw h1) (gv hrr R2 all hrr2 htr h2 hsel hQ f r _ _ hB' hK' h3)
   ·rw[if_neg hw]at h;exact fq hrr R2 hrr2 htr ho hT' hsel hQ _ listed a w (Region.free_spec ho hk) (by simpa using hr) (.inr ⟨by simpa using hw,rfl⟩) (gv hrr R2 all hrr2 htr h2 hsel hQ f r _ _ hB' hK' h)
theorem dO (hrr: ∀w,R w w)(htr: ∀a b c,R a b→R b c→R a c)(hsel:Region.noSelect ops=true)(hQ: ∀c d v a w,Q (.panic c) (Act.put a d v) w→Q (.panic c) a w):
  ∀(t:OT) (f:Nat) (listed:Array Bool) (a:Act) (w:World),ls md ops T f t listed=true→ez R T P ops Q t a w→iA R T P md ops Q f listed a w
 | .tail l,f,listed,a,w,hB,h=>lS f l listed a w hB h
 | .pure l t,f,listed,a,w,hB,h=>by
  unfold ls at hB;simp only[Bool.and_eq_true,decide_eq_true_eq]at hB;obtain⟨⟨h1,h2⟩,h3⟩:=hB;have e:f=l.length+(f - l.length):=by omega
  rw[e]
  exact gv hrr R false hrr htr (by simp) hsel hQ _ l listed a h2 (fun a' h'=>dO hrr htr hsel hQ t _ _ a' w h3 h') h
 | .free l t,f,listed,a,w,hB,h=>by
  unfold ls at hB;simp only[Bool.and_eq_true,decide_eq_true_eq]at hB;obtain⟨⟨h1,h2⟩,h3⟩:=hB;have e:f=l.length+(f - l.length):=by omega
  rw[e]
  exact gv hrr kZ true (fun _=>trivial) (fun _ _ _ _ _=>trivial) (by simp[kZ]) hsel hQ _ l listed a h2 (fun a' h'=>dO hrr htr hsel hQ t _ _ a' w h3 h') h
 | .step i t,f,listed,a,w,hB,h=>by
  unfold ls at hB;simp only[Bool.and_eq_true,decide_eq_true_eq,beq_iff_eq]at hB;obtain⟨⟨⟨h1,h2⟩,h3⟩,h4⟩:=hB;obtain⟨o,ho⟩:=Option.isSome_iff_exists.1 h2;have e:f=(f - 1)+1:=by omega
  rw[e]
  exact lQ ho h3 (gr (fun a' w' h'=>⟨h'.1,dO hrr htr hsel hQ t _ _ a' w' h4 h'.2⟩) (h o ho))
 | .fork i x j y,f,listed,a,w,hB,h=>by
  unfold ls at hB;simp only[Bool.and_eq_true,decide_eq_true_eq,beq_iff_eq]at hB;obtain⟨⟨⟨⟨⟨h1,h2⟩,h3⟩,h4⟩,h5⟩,h6⟩:=hB;obtain⟨o,ho⟩:=Option.isSome_iff_exists.1 h2;obtain⟨o',ho'⟩:=Option.isSome_iff_exists.1 h3;have e:f=(f - 1)+1:=by omega
  rw[e];refine⟨(fun h0=>by rw[h4]at h0;cases h0),fun k hk=> ?_⟩;rw[h4]at hk;rcases List.mem_cons.1 hk with rfl|hk
  ·exact fy ho (gr (fun a' w' h'=>⟨h'.1,dO hrr htr hsel hQ x _ _ a' w' h5 h'.2⟩) (h.1 o ho))
  ·obtain rfl:k=j:=by simpa using hk
   exact fy ho' (gr (fun a' w' h'=>⟨h'.1,dO hrr htr hsel hQ y _ _ a' w' h6 h'.2⟩) (h.2 o' ho'))
def vX (ops:Array Oper)(T:List Nat)(t:OT):Bool:=Region.noSelect ops && ls .any ops T ops.size t (Array.replicate ops.size false)
theorem bT (R:World→World→Prop)(hrr: ∀w,R w w)(htr: ∀a b c,R a b→R b c→R a c)(T:List Nat)(t:OT){id:Nat}{a:Act}{w:World}(hm:P.follows .mixedOrders=true)(hB:vX ops T t=true)
  (hQ: ∀c d v a w,Q (.panic c) (Act.put a d v) w→Q (.panic c) a w) (h:ez R T P ops Q t a w.drew):(Code.region id ops true).wp P Q a w:=by
 unfold vX at hB;simp only[Bool.and_eq_true]at hB;exact wp_region_any hm (fR (R:=R) (T:=T) _ _ _ _ (dO hrr htr hB.1 hQ t _ _ a w.drew hB.2 h))
/-! ### nodes, one at a time -/
theorem eH {l:List Nat}{t:OT}{a:Act}{w:World}(h:wpQuiet P ops (CRR R w) (fun a'=>ez R T P ops Q t a' w) (cD ops l) a):ez R T P ops Q (.pure l t) a w:=h
theorem gD {l:List Nat}{t:OT}{a:Act}{w:World}(h:wpQuiet P ops (CRR kZ w) (fun a'=>ez R T P ops Q t a' w) (cD ops l) a):ez R T P ops Q (.free l t) a w:=h
theorem wt {i:Nat}{o:Oper}{t:OT}{a:Act}{w:World}
  (h: ∀K:Act→World→Prop,(∀a' w',(i∈T∨R w w')→ez R T P ops Q t a' w'→K a' w')→if Region.wanted o (yielded ops a.tmps)=true then o.wp P a w K Q else K (a.put o.dst undef) w):
  dH P ops Q o (fun a' w'=>(i∈T∨R w w')∧ez R T P ops Q t a' w') a w:=h _ fun _ _ h1 h2=>⟨h1,h2⟩
theorem bu {i:Nat}{o:Oper}{t:OT}{a:Act}{w:World}(ho:ops[i]? =some o)
  (h: ∀K:Act→World→Prop,(∀a' w',(i∈T∨R w w')→ez R T P ops Q t a' w'→K a' w')→if Region.wanted o (yielded ops a.tmps)=true then o.wp P a w K Q else K (a.put o.dst undef) w):
  ez R T P ops Q (.step i t) a w:=fun o' ho'=>by
 rw[ho]at ho';injection ho' with e
 subst e;exact wt h
theorem rm {i j:Nat}{o o':Oper}{x y:OT}{a:Act}{w:World}(ho:ops[i]? =some o)(ho':ops[j]? =some o')
  (h: ∀K:Act→World→Prop,(∀a' w',(i∈T∨R w w')→ez R T P ops Q x a' w'→K a' w')→if Region.wanted o (yielded ops a.tmps)=true then o.wp P a w K Q else K (a.put o.dst undef) w)
  (h': ∀K:Act→World→Prop,(∀a' w',(j∈T∨R w w')→ez R T P ops Q y a' w'→K a' w')→if Region.wanted o' (yielded ops a.tmps)=true then o'.wp P a w K Q else K (a.put o'.dst undef) w):
  ez R T P ops Q (.fork i x j y) a w:=⟨bu (t:=x) ho h,bu (t:=y) ho' h'⟩
theorem dX {o:Oper}{f:Nat→Option Bool}(hg:o.guard=none):Region.wanted o f=true:=by unfold Region.wanted;rw[hg]
theorem jh {i:Nat}{o:Oper}{t:OT}{a:Act}{w:World}(ho:ops[i]? =some o)(hg:o.guard=none)
  (h: ∀K:Act→World→Prop,(∀a' w',(i∈T∨R w w')→ez R T P ops Q t a' w'→K a' w')→o.wp P a w K Q):
  ez R T P ops Q (.step i t) a w:=bu ho fun K hK=>by rw[if_pos (dX hg)];exact h K hK
theorem j1 {i:Nat}{o:Oper}{l:List Nat}{a:Act}{w:World}(ho:ops[i]? =some o)
  (h: ∀K:Act→World→Prop,(∀a' w',ez R T P ops Q (.tail l) a' w'→K a' w')→if Region.wanted o (yielded ops a.tmps)=true then o.wp P a w K Q else K (a.put o.dst undef) w):
  ez R T P ops Q (.tail (i::l)) a w:=by
 show nG P ops Q (cD ops (i::l)) a w;rw[fZ ho];exact h _ fun _ _ h1=>h1
theorem eJ {a:Act}{w:World}(h:Q .normal a w):ez R T P ops Q (.tail []) a w:=h
end
end Go.Proofs.YtgfidiocmiolpaaGreat
/- Values made, and copied. -/
namespace Go.Proofs.YtgfidiocmiolpaaGreat
open Lib (hid)
open Go.RowKit
theorem Tryz.infoStr :(Tryz.prog.info? 9).map (fun i=>(i.zero,i.size,i.bytes))=some (some (.string ⟨#[]⟩),1,16):=by kernel_rfl
theorem Tryz.infoVal :(Tryz.prog.info? 43).map (fun i=>(i.zero,i.size,i.bytes))=some (some (.agg #[.int .i64 0,.int .i64 0,.string ⟨#[]⟩,.slice none 0 0,.slice none 0 0]),5,80):=by kernel_rfl
theorem pj (w:World)(S:Nat→Prop)(A:Option Addr):au w S A []:=fun h=>absurd h (by simp)
theorem rj (w:World)(S:Nat→Prop)(A:Option Addr):LVA w S A []:=fun h=>absurd h (by simp)
theorem vA (w:World)(S:Nat→Prop)(k i:Int)(s:ByteArray)(hk:Rng k)(hi:Rng i)(hs:s.size≤140737488351232):
  LV w S (.mk k i s [] []) (.agg #[.int .i64 k,.int .i64 i,.string s,.slice none 0 0,.slice none 0 0]):=LV.mk hk hi hs (by simp) (by simp) (pj _ _ _) (rj _ _ _)
section
set_option maxHeartbeats 400000
variable (w :World)
end
/-! ### names copied -/
def New (B:Nat)(w:World):Nat→Prop:=fun b=>B≤b∧b<w.heap.size
theorem gV (A:Option Addr)(c:Nat)(w:World)(ty:TypeId):(Builtin.append_ #[41,41] ty #[.slice none 0 0,.slice A 0 c]).run Tryz.prog w= .ok (.slice none 0 0) w:=by
 obtain⟨i0,hi,-,-,-⟩:=info_parts Tryz.infoStr;cases A<;>simp[Builtin.append_,run_underlying Tryz.underlying41,sizeOf,typeInfo,hi,Builtin.lenOf,Builtin.firstCells,loadCells,loadCellsFrom]
theorem m9 (b off i:Nat):((⟨b,off,none⟩:Addr).add i)=⟨b,off+i,none⟩:=by
 unfold Addr.add
 split
 ·next h=>simp[h]
 ·rfl
theorem fJ {w:World}{ops:Array Oper}{rest:List Oper}{o:Oper}{a:Act}{Q:Exit→Act→World→Prop}(hgd:o.guard=none)(s x:Operand)
  (ho:o.op= .call { callee:= .builtin .append,args:= #[s,x],argTypes:= #[41,41] }) (hs:a.eval s= .slice none 0 0) (A:Option Addr) (c:Nat) (hx:a.eval x= .slice A 0 c)
  (h:wpList Tryz.prog ops Q rest (a.put o.dst (.slice none 0 0)) w):wpList Tryz.prog ops Q (o::rest) a w:=by
 refine wpList_plain hgd fun K hK=> ?_;have hrun:=gV A c w o.type;unfold Oper.wp;simp[execOp,ho,resolve,invoke,builtin,hs,hx,hrun,Result.andThen];exact hK _ _ h
theorem nW {w:World}{G n:Nat}{v:Value}{xs:List Value}{B:Nat}(h:w.ownsRow B 43 5 (.slice (some ⟨G,0,none⟩) n n) n xs): ∃f,w.rowIs G 43 (n * 5) f:=by
 rcases h.2 with ⟨h1,_⟩|⟨g,cap,cur,hv,hg,hh,h1,h2,h3,_⟩
 ·cases h1
 ·injection hv with e1 e2 e3
  injection e1 with e1
  injection e1 with e1
  subst e1;subst e3;exact⟨fun i=>cur[i]?.getD undef,cur,hh,h3,fun i hi=>by show cur[i]? =some (cur[i]?.getD undef);rw[Array.getElem?_eq_getElem (by omega)];rfl⟩
def lx (f:Nat→Value)(p:Nat)(v0 v1 v2 v3 v4:Value):Nat→Value:=fun i=>if i=p+4 then v4 else if i=p+3 then v3 else if i=p+2 then v2 else if i=p+1 then v1 else if i=p then v0 else f i
def jO (w:World)(G p:Nat)(v0 v1 v2 v3 v4:Value):World:=((((w.setCell ⟨G,p,none⟩ v0).setCell ⟨G,p+1,none⟩ v1).setCell ⟨G,p+2,none⟩ v2).setCell ⟨G,p+3,none⟩ v3).setCell ⟨G,p+4,none⟩ v4
theorem uT {w:World}{G n p:Nat}{f:Nat→Value}(hr:w.rowIs G 43 n f)(v0 v1 v2 v3 v4:Value):(jO w G p v0 v1 v2 v3 v4).rowIs G 43 n (lx f p v0 v1 v2 v3 v4):=
 ((((hr.set p v0).set (p+1) v1).set (p+2) v2).set (p+3) v3).set (p+4) v4
theorem i5 (w:World)(G p:Nat)(v0 v1 v2 v3 v4:Value):(jO w G p v0 v1 v2 v3 v4).heap.size=w.heap.size:=by simp[jO,World.setCell]
theorem kQ {w:World}{G p b:Nat}(v0 v1 v2 v3 v4:Value)(h:b≠G):(jO w G p v0 v1 v2 v3 v4).heap[b]? =w.heap[b]? :=by
 unfold jO;rw[Below.heap_setCell _ _ _ _ h,Below.heap_setCell _ _ _ _ h,Below.heap_setCell _ _ _ _ h,Below.heap_setCell _ _ _ _ h,Below.heap_setCell _ _ _ _ h]
theorem ks {B:Nat}{a w:World}{G p:Nat}(v0 v1 v2 v3 v4:Value)(h:Below B a w)(hG:B≤G):Below B a (jO w G p v0 v1 v2 v3 v4):=by
 unfold jO;exact((((h.setCell hG _).setCell hG _).setCell hG _).setCell hG _).setCell hG _
theorem fK {f:Nat→Value}{p i:Nat}{v0 v1 v2 v3 v4:Value}(h:i<p):lx f p v0 v1 v2 v3 v4 i=f i:=by
 unfold lx;rw[if_neg (by omega),if_neg (by omega),if_neg (by omega),if_neg (by omega),if_neg (by omega)]
theorem us (f:Nat→Value)(p:Nat)(v0 v1 v2 v3 v4:Value):lx f p v0 v1 v2 v3 v4 p=v0∧lx f p v0 v1 v2 v3 v4 (p+1)=v1∧lx f p v0 v1 v2 v3 v4 (p+2)=v2∧lx f p v0 v1 v2 v3 v4 (p+3)=v3∧lx f p v0 v1 v2 v3 v4 (p+4)=v4:=by
 unfold lx;refine⟨?_,?_,?_,?_,?_⟩
 ·rw[if_neg (by omega),if_neg (by omega),if_neg (by omega),if_neg (by omega),if_pos rfl]
 ·rw[if_neg (by omega),if_neg (by omega),if_neg (by omega),if_pos rfl]
 ·rw[if_neg (by omega),if_neg (by omega),if_pos rfl]
 ·rw[if_neg (by omega),if_pos rfl]
 ·rw[if_pos rfl]
theorem nF :dp 59:=fun _ _=>by simp[callFunc,go_sem,Tryz.func59,Tryz.f59]
theorem Box.set0 {w:World}{g:Nat}{a b c d e:Value}(h:Box w g a b c d e)(u:Value):Box (w.setCell ⟨g,0,none⟩ u) g u b c d e:=Go.Joins.block_setCell (i:=0) h u
theorem Box.set1 {w:World}{g:Nat}{a b c d e:Value}(h:Box w g a b c d e)(u:Value):Box (w.setCell ⟨g,1,none⟩ u) g a u c d e:=Go.Joins.block_setCell (i:=1) h u
theorem Box.set2 {w:World}{g:Nat}{a b c d e:Value}(h:Box w g a b c d e)(u:Value):Box (w.setCell ⟨g,2,none⟩ u) g a b u d e:=Go.Joins.block_setCell (i:=2) h u
theorem Box.set3 {w:World}{g:Nat}{a b c d e:Value}(h:Box w g a b c d e)(u:Value):Box (w.setCell ⟨g,3,none⟩ u) g a b c u e:=Go.Joins.block_setCell (i:=3) h u
theorem Box.set4 {w:World}{g:Nat}{a b c d e:Value}(h:Box w g a b c d e)(u:Value):Box (w.setCell ⟨g,4,none⟩ u) g a b c d u:=Go.Joins.block_setCell (i:=4) h u
theorem Box.far {w:World}{g:Nat}{a b c d e:Value}(h:Box w g a b c d e){p:Addr}(hne:g≠p.block)(u:Value):Box (w.setCell p u) g a b c d e:=(Below.heap_setCell w p u g hne).trans h
end Go.Proofs.YtgfidiocmiolpaaGreat
/- A slice of texts that came in, read. -/
namespace Go.Proofs.YtgfidiocmiolpaaGreat
open Go.ChangeShapes Go.WideShapes Go.RowKit Go.Joins Go.Deep
theorem fN :Tryz.prog.cellsOf 9=1:=by kernel_rfl
theorem tG :Tryz.prog.bytesOf 9=16:=by kernel_rfl
section
variable {H :Type} {enc:TypeId×Value→H} {W:World} {sp:Nat→Bool}
theorem cO {P:Program}{e:TypeId}: ∀ {l:List (DataW H)} {d:DataW H},d∈l→ ∀n∈d.weights P e,n∈DataW.weightsAll P e l
 |a::r,d,hd,n,hn=>by
  unfold DataW.weightsAll;rw[List.mem_append];rcases List.mem_cons.1 hd with rfl|hd
  ·exact .inl hn
  ·exact .inr (cO hd n hn)
theorem ju {fuel:Nat}{cs:List Value}{x:DataW H×List MemPlace}(h:DataW.trod enc Tryz.prog W 0 sp true fuel 41 cs=some x)(hw: ∀n∈x.1.weights Tryz.prog 41,n≤reachBytes):
  ∃A c,∃ns:List ByteArray,cs= [.slice A ns.length c]∧ns.length≤c∧(A=none→c=0)∧ns.length≤8796093021952∧au W (fun b=>b<W.heap.size) A ns:=by
 rcases open_strings Tryz.underlying41 Tryz.underlying9 fN h with ⟨rfl,_⟩|⟨a,len,cap,ss,rfl,-,hl,hm,hsl,hx,hc,hs⟩
 ·exact⟨none,0,[],rfl,by simp,fun _=>rfl,by simp,fun h=>absurd h (by simp)⟩
 ·have hle:len≤ss.length:=by rw[hsl];split<;>omega
  have hlen:(ss.take len).length=len:=by simp;omega
  have hws:=hw;rw[hx]at hws;simp only[DataW.weights,Tryz.underlying41]at hws
  have h1:len≤8796093021952:=by
   have h1:=hws _ (List.mem_cons_self ..);rw[tG]at h1;simp only[strs,List.length_map,hlen,reachBytes]at h1;omega
  refine⟨some a,cap,ss.take len,by rw[hlen],by rw[hlen];exact hl,(fun h=>by cases h),by rw[hlen];exact h1,fun hp=> ?_⟩;rw[hlen]at hp;obtain⟨b,off,spot⟩:=a;have h0:=hc 0 (by omega);obtain rfl:spot=none:=by simpa[Addr.add]using World.cell?_spot h0
  refine⟨b,off,rfl,?_,fun i hi=> ?_⟩
  ·rw[add_at]at h0;exact World.block_lt_of_cell? W _ h0
  ·rw[hlen]at hi;have hi2:i<ss.length:=by omega
   have h2:=hc i hi2;rw[add_at]at h2;refine⟨?_,?_⟩
   ·rw[h2];simp[List.getD,List.getElem?_eq_getElem hi2]
   ·have hmem:((.lit (.string ((ss.take len)[i]'(by omega)).data.toList):DataW H))∈strs (H:=H) (ss.take len):=by
     unfold strs;exact List.mem_map.2 ⟨_,List.getElem_mem _,rfl⟩
    have h3:=hws ((ss.take len)[i]'(by omega)).data.toList.length (List.mem_cons_of_mem _ (List.mem_append_left _ (cO hmem _ (by simp[DataW.weights]))));simpa[reachBytes]using h3
theorem qt {fuel:Nat}{cs:List Value}{x:DataW H×List MemPlace}(h:DataW.trod enc Tryz.prog W 0 sp true fuel 41 cs=some x)(hw: ∀n∈x.1.weights Tryz.prog 41,n≤reachBytes):
  ∃A c,∃ns:List ByteArray,cs= [.slice A ns.length c]∧ns.length≤8796093021952∧au W (fun b=>b<W.heap.size) A ns:=by
 obtain⟨A,c,ns,h1,-,-,h2,h3⟩:=ju h hw;exact⟨A,c,ns,h1,h2,h3⟩
end
theorem gh :Tryz.prog.cellsOf 43=5:=by kernel_rfl
theorem cX :Tryz.prog.cellsOf 3=1:=by kernel_rfl
theorem ta :Tryz.prog.cellsOf 40=1:=by kernel_rfl
theorem mV :Tryz.prog.cellsOf 41=1:=by kernel_rfl
theorem uq :Tryz.prog.bytesOf 43=80:=by kernel_rfl
theorem sX : ∃f0 f1 f2 f3 f4:Field,Tryz.prog.underlying 43=some (.struct #[f0,f1,f2,f3,f4])∧f0.type=3∧f1.type=3∧f2.type=9∧f3.type=40∧f4.type=41∧f0.offset=0∧f1.offset=1∧f2.offset=2∧f3.offset=3∧f4.offset=4:=
 ⟨_,_,_,_,_,Tryz.underlying43,rfl,rfl,rfl,rfl,rfl,rfl,rfl,rfl,rfl,rfl⟩
theorem LVs.intro {w:World}{S:Nat→Prop}{b:Nat}: ∀ {l:List VT} {off:Nat},(∀j (h:j<l.length),∃c0 c1 c2 c3 c4,w.cell? ⟨b,off+j * 5,none⟩=some c0∧w.cell? ⟨b,off+j * 5+1,none⟩=some c1∧w.cell? ⟨b,off+j * 5+2,none⟩=some c2∧
  w.cell? ⟨b,off+j * 5+3,none⟩=some c3∧w.cell? ⟨b,off+j * 5+4,none⟩=some c4∧LV w S l[j] (.agg #[c0,c1,c2,c3,c4]))→LVs w S b off l
 | [],_,_=>by unfold LVs;trivial
 |t::r,off,h=>by
  unfold LVs;have h0:=h 0 (by simp);simp only[Nat.zero_mul,Nat.add_zero]at h0;refine⟨h0,LVs.intro fun j hj=> ?_⟩;have:=h (j+1) (by simpa using hj);have e:off+(j+1) * 5=off+5+j * 5:=by omega
  rw[e]at this;simpa using this
section
variable {H :Type} {enc:TypeId×Value→H} {W:World} {sp:Nat→Bool}
theorem gF {k:Int}(h:(Lit.int .i64 k).wf=true):Rng k:=in64_of_wf h
theorem ky : ∀(fuel:Nat) (cs:List Value) (x:DataW H×List MemPlace),DataW.trod enc Tryz.prog W 0 sp true fuel 43 cs=some x→(∀n∈x.1.weights Tryz.prog 43,n≤reachBytes)→
  ∃t,LV W (fun b=>b<W.heap.size) t (.agg cs.toArray):=by
 intro fuel
 induction fuel using Nat.strongRecOn with
 |_ fuel ih=>
  intro cs x h hw;obtain⟨f0,f1,f2,f3,f4,hu,t0,t1,t2,t3,t4,o0,o1,o2,o3,o4⟩:=sX;obtain⟨xs,n,hfu,hx,hlen,hxl,hg⟩:=DataW.trod_struct hu h;rw[gh]at hlen
  match cs,hlen with
  | [c0,c1,c2,c3,c4],_=>
   match xs,hxl with
   | [y0,y1,y2,y3,y4],_=>
    have g0:=hg 0 f0 rfl;have g1:=hg 1 f1 rfl;have g2:=hg 2 f2 rfl;have g3:=hg 3 f3 rfl;have g4:=hg 4 f4 rfl;rw[t0,o0,cX]at g0;rw[t1,o1,cX]at g1;rw[t2,o2,fN]at g2;rw[t3,o3,ta]at g3;rw[t4,o4,mV]at g4;have hws:=hw;rw[hx]at hws;simp only[DataW.weights,hu,List.map_cons,List.map_nil,t0,t1,t2,t3,t4]at hws;obtain⟨k,e0,-,w0⟩:=DataW.trod_int Tryz.underlying3 g0;obtain⟨i,e1,-,w1⟩:=DataW.trod_int Tryz.underlying3 g1;obtain⟨s,e2,x2,w2⟩:=DataW.trod_string Tryz.underlying9 g2;simp at e0 e1 e2;subst e0 e1 e2
    have hs:s.size≤140737488351232:=by
     have:=hws s.data.toList.length (by rw[DataW.weightsEach,DataW.weightsEach,DataW.weightsEach];refine List.mem_append_right _ (List.mem_append_right _ (List.mem_append_left _ ?_));rw[x2];simp[DataW.weights]);simpa[reachBytes]using this
    obtain⟨A',c',ns,e4,hn4,hns⟩:=qt g4 (fun n hn=>hws n (by rw[DataW.weightsEach,DataW.weightsEach,DataW.weightsEach,DataW.weightsEach,DataW.weightsEach];exact List.mem_append_right _ (List.mem_append_right _ (List.mem_append_right _ (List.mem_append_right _ (List.mem_append_left _ hn))))));simp at e4;subst e4;have hw3: ∀n∈y3.1.weights Tryz.prog 40,n≤reachBytes:=fun n hn=>hws n (by rw[DataW.weightsEach,DataW.weightsEach,DataW.weightsEach,DataW.weightsEach];exact List.mem_append_right _ (List.mem_append_right _ (List.mem_append_right _ (List.mem_append_left _ hn))));rcases DataW.trod_slice Tryz.underlying40 g3 with ⟨e3,-⟩|⟨a,len,cap,elems,rest,m,hm,e3,x3,-,hlc,-,hel,hat,-,-⟩
    ·simp at e3;subst e3;exact⟨.mk k i s [] ns,LV.mk (gF w0) (gF w1) hs (by simp) hn4 hns (fun h=>absurd h (by simp))⟩
    ·simp at e3;subst e3;simp at x3;rw[x3]at hw3;simp only[DataW.weights,Tryz.underlying40]at hw3
     have hl:len≤1759218604390:=by
      have h1:=hw3 _ (List.mem_cons_self ..);rw[uq]at h1;simp only[List.length_map,hel,reachBytes]at h1;omega
     have hT: ∀j,∃t:VT,j<len→ ∃c0 c1 c2 c3 c4,W.cell? (a.add (j * 5))=some c0∧W.cell? ((a.add (j * 5)).add 1)=some c1∧W.cell? ((a.add (j * 5)).add 2)=some c2∧W.cell? ((a.add (j * 5)).add 3)=some c3∧W.cell? ((a.add (j * 5)).add 4)=some c4∧
       LV W (fun b=>b<W.heap.size) t (.agg #[c0,c1,c2,c3,c4]):=by
      intro j;by_cases hj:j<len
      ·have h1:=hat j hj;rw[gh,List.getElem?_eq_getElem (by omega)]at h1;obtain⟨cs',hc,ht⟩:=Option.bind_eq_some_iff.1 h1;obtain⟨-,hcl,hcat⟩:=World.cells?_some hc;obtain⟨t,htv⟩:=ih m (by omega) cs' _ ht (fun n hn=>hw3 n (List.mem_cons_of_mem _ (List.mem_append_left _ (cO (List.mem_map.2 ⟨_,List.getElem_mem (by omega),rfl⟩) n hn))))
       match cs',hcl with
       | [u0,u1,u2,u3,u4],_=>
        refine⟨t,fun _=>⟨u0,u1,u2,u3,u4,?_,?_,?_,?_,?_,htv⟩⟩
        ·simpa[Addr.add]using hcat 0 (by omega)
        ·simpa using hcat 1 (by omega)
        ·simpa using hcat 2 (by omega)
        ·simpa using hcat 3 (by omega)
        ·simpa using hcat 4 (by omega)
      ·exact⟨.mk 0 0 ⟨#[]⟩ [] [],fun h=>absurd h hj⟩
     obtain⟨T,hT⟩:=Classical.skolem.1 hT;have hlm:((List.range len).map T).length=len:=by simp
     refine⟨.mk k i s ((List.range len).map T) ns,?_⟩;have:=LV.mk (w:=W) (S:=fun b=>b<W.heap.size) (k:=k) (i:=i) (s:=s) (l:=(List.range len).map T) (ns:=ns) (A:=some a) (A':=A') (c:=cap) (c':=c') (gF w0) (gF w1) hs (by rw[hlm];exact hl) hn4 hns ?_
     ·rw[hlm]at this;exact this
     ·intro hp;rw[hlm]at hp;obtain⟨b,off,spot⟩:=a;obtain⟨q0,q1,q2,q3,q4,h0,-⟩:=hT 0 hp;obtain rfl:spot=none:=by simpa[Addr.add]using World.cell?_spot h0
      refine⟨b,off,rfl,?_,LVs.intro fun j hj=> ?_⟩
      ·rw[add_at]at h0;exact World.block_lt_of_cell? W _ h0
      ·rw[hlm]at hj;obtain⟨q0,q1,q2,q3,q4,h0,h1,h2,h3,h4,hv⟩:=hT j hj;simp only[add_at]at h0 h1 h2 h3 h4;exact⟨q0,q1,q2,q3,q4,h0,h1,h2,h3,h4,by simpa using hv⟩
end
end Go.Proofs.YtgfidiocmiolpaaGreat
/- append, and where the new row lies. -/
namespace Go.Proofs.YtgfidiocmiolpaaGreat
open Go
variable {P :Program} (w:World)
def ox (w:World)(v v':Value):Prop:=v'.ownBlock=v.ownBlock∨ ∃q,w.heap.size≤q∧v'.ownBlock=some q
theorem jn (base:Nat)(t ty e:TypeId)(i:TypeInfo)(z:Value)(size bytes:Nat)(ht:P.underlying t=some (.slice e))(hi:P.info? e=some i)(hz:i.zero=some z)
  (hsize:i.size=size) (hby:i.bytes=bytes) (hzs:z.cells.size=size) (hsz:0<size)
  (v:Value) (n:Nat) (xs:List Value) (hown:w.ownsRow base e size v n xs)
  (a:Addr) (m c:Nat) (news:List Value) (hl:news.length=m * size) (hnews: ∀j u,news[j]? =some u→w.cell? (a.add j)=some u) (h1: ∀u∈news,u.oneCell'=true)
  (h63:n+m≤maxLen) (hbytes:(n+m) * bytes≤140737488355328) (hbase:base≤w.heap.size):
  ∃v' w',(Builtin.append_ #[t,t] ty #[v,.slice (some a) m c]).run P w= .ok v' w'∧w'.ownsRow base e size v' (n+m) (xs++news)∧w.grownBy w' v.ownBlock∧ox w v v':=by
 obtain⟨v',w',hr,h2,h3,h4⟩:=run_append_own (P:=P) w base t ty e i z size bytes ht hi hz hsize hby hzs hsz v n xs hown a m c news hl hnews h1 h63 hbytes hbase;refine⟨v',w',hr,h2,h3,?_⟩;subst hsize
 subst hby
 have hsmall:n+m≤9223372036854775807:=by simp only[maxLen]at h63;omega
 rcases hown.2 with ⟨rfl,rfl⟩|⟨g,cap,cur,rfl,hbg,hg,hnc,hcm,hcs,htake⟩
 ·by_cases hm:m=0
  ·exact .inl (by rw[h4.2 ⟨rfl,hm⟩])
  ·have hr2:=run_append_nil (P:=P) w t ty e i z ht hi hz a m c news hl hnews (by omega) (by omega) (by have hb:=hbytes;simp only[Nat.zero_add]at hb;omega);rw[hr]at hr2;simp only[Result.ok.injEq]at hr2;exact .inr ⟨w.heap.size,Nat.le_refl _,by rw[hr2.1];rfl⟩
 ·by_cases hroom:n+m≤cap
  ·obtain⟨w2,hr2,-⟩:=run_append_fits (P:=P) w base t ty e i i.size ht hi rfl g n cap xs hown a m c news hl hnews h1 hroom;rw[hr]at hr2;simp only[Result.ok.injEq]at hr2;exact .inl (by rw[hr2.1];rfl)
  ·have holds: ∀j u,xs[j]? =some u→w.cell? ((⟨g,0,none⟩:Addr).add j)=some u:=hown.cells (g:=g) rfl;have hr2:=run_append_grow (P:=P) w t ty e i z ht hi hz ⟨g,0,none⟩ n cap xs hown.1 holds a m c news hl hnews (by omega) (by omega) (growslice_fits (by omega) hbytes);rw[hr]at hr2;simp only[Result.ok.injEq]at hr2;exact .inr ⟨w.heap.size,Nat.le_refl _,by rw[hr2.1];rfl⟩
theorem dg {o:Oper}{a:Act}{K:Act→World→Prop}{Q:Exit→Act→World→Prop}(s x:Operand)(t:TypeId)
  (ho:o.op= .call { callee:= .builtin .append,args:= #[s,x],argTypes:= #[t,t] })
  (base:Nat) (e:TypeId) (i:TypeInfo) (z:Value) (size bytes:Nat) (ht:P.underlying t=some (.slice e)) (hi:P.info? e=some i) (hz:i.zero=some z)
  (hsize:i.size=size) (hby:i.bytes=bytes) (hzs:z.cells.size=size) (hsz:0<size)
  (v:Value) (n:Nat) (xs:List Value) (hs:a.eval s=v) (hown:w.ownsRow base e size v n xs)
  (ad:Addr) (m c:Nat) (news:List Value) (hx:a.eval x= .slice (some ad) m c) (hl:news.length=m * size) (hnews: ∀j u,news[j]? =some u→w.cell? (ad.add j)=some u) (h1: ∀u∈news,u.oneCell'=true)
  (h63:n+m≤maxLen) (hbytes:(n+m) * bytes≤140737488355328) (hbase:base≤w.heap.size)
  (h: ∀v' w',w'.ownsRow base e size v' (n+m) (xs++news)→w.grownBy w' v.ownBlock→ox w v v'→K (a.put o.dst v') w'):o.wp P a w K Q:=by
 obtain⟨v',w',hr,h2,h3,h4⟩:=jn (P:=P) w base t o.type e i z size bytes ht hi hz hsize hby hzs hsz v n xs hown ad m c news hl hnews h1 h63 hbytes hbase;unfold Oper.wp execOp;simp only[ho,resolve,invoke,builtin,Sem.run_bind,Sem.run_pure,Result.andThen_ok,List.map_toArray,List.map_cons,List.map_nil,hs,hx,hr];exact h v' w' h2 h3 h4
end Go.Proofs.YtgfidiocmiolpaaGreat
