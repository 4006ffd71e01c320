/- What an update changes, plain: a replacement's changes too may be, are free, and leave the id. -/
import Derived.Test.YtgbopnlpaabelaaGreatDoorKPathT
import Derived.Test.YtgbopnlpaabelaaGreatDoorKSpD
set_option maxHeartbeats 64000000
set_option maxRecDepth 100000
set_option linter.unusedVariables false
set_option linter.unusedSimpArgs false
namespace Go.Proofs.YtgbopnlpaabelaaGreatDoor
open Go.RowKit
theorem jv : ∀ {ns:List ByteArray},bu ns=true→ns.Nodup∧ ∀n∈ns,bH n.data.toList=true
 | [],_=>⟨List.Pairwise.nil,fun _ h=>by cases h⟩
 |a::r,h=>by
  unfold bu at h;simp only[Bool.and_eq_true]at h;obtain⟨⟨h1,h2⟩,h3⟩:=h;have ih:=jv h3;refine⟨List.nodup_cons.2 ⟨fun hm=> ?_,ih.1⟩,fun n hn=> ?_⟩
  ·have:(r.map fun x=>x.data.toList).contains a.data.toList=true:=List.contains_iff_mem.2 (List.mem_map.2 ⟨a,hm,rfl⟩);rw[this]at h2;cases h2
  ·rcases List.mem_cons.1 hn with rfl|hn
   ·exact h1
   ·exact ih.2 n hn
theorem dX {t:VT}(h:bv t)(hk:t.kind=7):t.names.Nodup∧(∀n∈t.names,bH n.data.toList=true)∧t.names.length=t.items.length:=by
 have hf:=((bP t).1 h.1).1;unfold aU at hf;rw[hk]at hf;simp at hf;exact⟨(jv hf.2).1,(jv hf.2).2,hf.1.2⟩
theorem qF {n:ByteArray}(h:bH n.data.toList=true):ce [n]=true:=by unfold ce;simp[h]
theorem zw {a b:ByteArray}(h:a≠b):cK [a] [b]=false:=by
 cases hm:cK [a] [b]with
 |false=>rfl
 |true=>
  rcases mB.1 hm with k|k
  ·rw[List.cons_prefix_cons]at k;exact absurd k.1 h
  ·rw[List.cons_prefix_cons]at k;exact absurd k.1.symm h
theorem wg {ns:List ByteArray}(h:ns.Nodup):(ns.map fun n=>[n]).Pairwise (fun q p=>cK p q=false):=by
 rw[List.pairwise_map];exact h.imp fun hab=>zw (fun e=>hab e.symm)
def uH (v d:VT):List ByteArray:=v.names.filter fun n=> !decide (n=idN) && !(d.names.any fun x=>decide (x=n))
def zg (v d:VT):List (ByteArray×VT):=(d.names.zip d.items).filter fun q=>ep v q.1 q.2
theorem oN (v d:VT):nJ v d=(uH v d).map fun n=>fe [n]:=rfl
theorem sg (v d:VT):uI v d=(zg v d).map fun q=>ec [q.1] q.2:=rfl
theorem nS {v d:VT}(h:d.names.length=d.items.length):((zg v d).map (·.1)).Sublist d.names:=by
 have h1:((zg v d).map (·.1)).Sublist ((d.names.zip d.items).map (·.1)):=List.Sublist.map _ List.filter_sublist;rwa[List.map_fst_zip (by omega)]at h1
theorem jh (v d:VT):gT (cT v d)=(uH v d++(zg v d).map (·.1)).map fun n=>[n]:=by
 unfold gT cT;rw[oN,sg,List.map_append,List.map_map,List.map_map,List.map_append,List.map_map];rfl
theorem kR {v d:VT}{n:ByteArray}(h:n∈uH v d):n∈v.names∧n≠idN∧n∉d.names:=by
 obtain⟨h1,h2⟩:=List.mem_filter.1 h;simp at h2;exact⟨h1,h2.1,fun hm=>h2.2 n hm rfl⟩
theorem pY {v d:VT}(hv:bv v)(kv:v.kind=7)(hd:bv d)(kd:d.kind=7):lJ (cT v d)=true∧ ∀x∈cT v d,ck x:=by
 obtain⟨v1,v2,v3⟩:=dX hv kv;obtain⟨d1,d2,d3⟩:=dX hd kd;have hs:=nS (v:=v) d3;refine⟨?_,fun x hx=> ?_⟩
 ·unfold lJ;rw[jh];have:=(fj _).2 (wg (ns:=uH v d++(zg v d).map (·.1)) (List.nodup_append.2 ⟨v1.sublist List.filter_sublist,d1.sublist hs,fun a ha b hb e=>(kR ha).2.2 (hs.subset (e▸hb))⟩));rw[this];rfl
 ·unfold cT at hx;rcases List.mem_append.1 hx with hx|hx
  ·obtain⟨n,hn,rfl⟩:=List.mem_map.1 (oN v d▸hx);exact kX (qF (v2 n (kR hn).1))
  ·obtain⟨q,hq,rfl⟩:=List.mem_map.1 (sg v d▸hx);have hz:=List.of_mem_zip ((List.mem_filter.1 hq).1);exact ks (qF (d2 q.1 hz.1)) (fq hd hz.2)
theorem tn {v d:VT}(hd:idN∉d.names)(d3:d.names.length=d.items.length): ∀x∈cT v d,x.path.head? ≠some idN:=by
 intro x hx;have hp:x.path∈gT (cT v d):=List.mem_map.2 ⟨x,hx,rfl⟩;rw[jh]at hp;obtain⟨n,hn,e⟩:=List.mem_map.1 hp;rw[←e];intro h;injection h with h
 subst h;rcases List.mem_append.1 hn with hn|hn
 ·exact(kR hn).2.1 rfl
 ·exact hd ((nS d3).subset hn)
theorem rv {s:bg}(h:cW s=false):idN∉s.doc.names∧ ∀p∈aD s.ops,p.head? ≠some idN:=by
 unfold cW at h;rw[Bool.or_eq_false_iff,List.any_eq_false,List.any_eq_false]at h;exact⟨fun hm=>h.1 idN hm (decide_eq_true rfl),fun p hp e=>h.2 p hp (decide_eq_true e)⟩
structure xD (s:bg):Prop where
 check:bU s=0
 ops: ∀o∈s.ops,aA o.val≤9223372036854775807
 doc:aA s.doc≤9223372036854775807
theorem gZ {s:bg}(h:bU s=0):bO s=true∧cW s=false∧cm [] (aD s.ops)=false:=by
 unfold bU at h
 split at h
 ·rename_i h1
  split at h
  ·cases h
  ·rename_i h2
   split at h
   ·cases h
   ·rename_i h3;exact⟨h1,by simpa using h2,by simpa using h3⟩
 ·cases h
theorem ny {s:bg}(h:bO s=true)(hr:s.rep=true):s.ops= []∧s.doc.kind=7∧az s.doc=0:=by
 unfold bO at h;rw[if_pos hr]at h;simp only[Bool.and_eq_true,decide_eq_true_eq]at h;exact⟨List.eq_nil_of_length_eq_zero h.1.1,h.1.2,h.2⟩
theorem kT {s:bg}(h:bO s=true)(hr:s.rep=false):s.doc=aT∧0<s.ops.length∧s.ops.length≤16∧ ∀o∈s.ops,bc o=true:=by
 unfold bO at h;rw[hr]at h;simp only[Bool.false_eq_true,if_false,Bool.and_eq_true,decide_eq_true_eq]at h;exact⟨(gj _).1 h.1.1.1,h.1.1.2,h.1.2,fun o ho=>List.all_eq_true.1 h.2 o ho⟩
theorem iU {v:VT}(h:dh v=true)(hz:aA v≤9223372036854775807):bv v∧v.kind=7∧(ar v idN).isSome=true:=by
 unfold dh at h;simp only[Bool.and_eq_true,decide_eq_true_eq]at h;exact⟨dz h.1.2 hz,h.1.1,h.2⟩
theorem jV {v:VT}{s:bg}{l:List au}(hv:dh v=true)(hz:aA v≤9223372036854775807)(hs:xD s)(h:ay v s=(0,l)):
  l.length≤64∧(∀d∈l,ck d)∧lJ l=true∧ ∀d∈l,d.path.head? ≠some idN:=by
 obtain⟨wv,kv,-⟩:=iU hv hz;obtain⟨c1,c2,c3⟩:=gZ hs.check;unfold ay at h;rw[hv,if_neg (by simp),if_neg (by rw[hs.check];simp)]at h
 split at h
 ·rename_i h1;injection h with h _;exact absurd h h1
 split at h
 ·injection h with h _;cases h
 rename_i h64;rw[h]at h64;refine⟨by simpa using h64,?_⟩;obtain⟨t1,t2⟩:=rv c2;unfold gb at h
 cases hr:s.rep with
 |true=>
  rw[hr,if_pos rfl]at h;injection h with _ h
  subst h;obtain⟨-,f2,f3⟩:=ny c1 hr;have wd:=dz f3 hs.doc;have:=pY wv kv wd f2
  exact⟨this.2,this.1,tn t1 (dX wd f2).2.2⟩
 |false=>
  rw[hr,if_neg (by simp)]at h;obtain⟨-,-,-,f4⟩:=kT c1 hr;have:=lG wv (fun o ho=>⟨f4 o ho,hs.ops o ho⟩) h;refine⟨this.2,?_,fun d hd e=> ?_⟩
  ·unfold lJ;rw[(fj _).2 (dj.free ((fj _).1 c3) this.1)];rfl
  ·obtain⟨p,hp,k⟩:=this.1.mem d hd;have hn:p≠[]:=gA (nu (List.all_eq_true.2 f4) p hp)
   cases p with
   |nil=>exact hn rfl
   |cons a p=>
    obtain⟨q,e2⟩:=k;rw[←e2]at e;exact t2 _ hp e
theorem jd {l:List au}(h:l.length≤64)(hf: ∀d∈l,ck d):cO l=0:=by
 unfold cO;rw[if_neg (by omega),if_pos (List.all_eq_true.2 fun d hd=>(hf d hd).1)]
theorem OpR.back {P:Nat→Prop}{r:Int×List au}{w w2 w':World}{e:Ending}(h:OpR P r w2 e w')(hb:Below w.heap.size w w2)(hP: ∀b,P b→b<w.heap.size):OpR P r w e w':=by
 obtain⟨A,c,h1,h2,h3,h4,h5⟩:=h;refine⟨A,c,h1,h2.imp fun b hb'=> ?_,h3,h4,hb.trans (h5.mono hb.size)⟩;rcases hb' with k|k
 ·exact .inl ⟨k.1,hP b k.1⟩
 ·exact .inr ⟨Nat.le_trans hb.size k.1,k.2⟩
theorem vH {w:World}{S:Nat→Prop}{d:au}{cs:Array Value}(h:cQ w S d cs): ∀u∈cs,u.oneCell'=true:=by
 obtain⟨PA,pc,VA,vc,VA',vc',rfl,-⟩:=h;intro u hu;simp only[List.mem_toArray,List.mem_cons,List.not_mem_nil,or_false]at hu;rcases hu with rfl|rfl|rfl|rfl|rfl|rfl|rfl|rfl<;>rfl
theorem nN {w:World}{S:Nat→Prop}: ∀ {l:List au} {ys:List Value},ThC cQ w S l ys→ ∀u∈ys,u.oneCell'=true
 | [],ys,h,u,hu=>by have h:ys= []:=h;subst h;cases hu
 |d::l,ys,h,u,hu=>by
  obtain⟨c,r,rfl,h1,h2⟩:=h;rcases List.mem_append.1 hu with hu|hu
  ·exact vH h1 u (by simpa using hu)
  ·exact nN h2 u hu
theorem jl {S:Nat→Prop}{w2 w7 w8:World}{A:Option Addr}{c:Nat}{r r2:List au}{xs ys:List Value}{S1:Nat→Prop}{v8:Value}(hz:w2.heap.size≤w7.heap.size)
  (hown:w8.ownsRow w2.heap.size 58 8 v8 (r.length+r2.length) (xs++ys)) (hg:w7.grownBy w8 (Value.slice A r.length c).ownBlock) (hat:v8.ownBlock=(Value.slice A r.length c).ownBlock∨v8.ownBlock=some w7.heap.size)
  (hrow: ∀p,(Value.slice A r.length c).ownBlock=some p→w2.heap.size≤p∧p<w7.heap.size) (hl:ThC cQ w7 S1 r xs) (hS1: ∀b,S1 b→kj S w2 w7 (.slice A r.length c) b) {S2:Nat→Prop} (h2:ThC cQ w7 S2 r2 ys) (hS2: ∀b,S2 b→kj S w2 w7 (.slice A r.length c) b):
  (∃A8 c8,v8= .slice A8 (r++r2).length c8∧bw cQ 8 58 S w2 w8 A8 c8 (r++r2))∧Below w2.heap.size w7 w8:=by
 refine⟨?_,⟨hg.os,hg.tape,hg.output,hg.size,fun b hb=>hg.block b (by omega) fun e=>by have:=(hrow b e.symm).1;omega⟩⟩;rcases hown.2 with ⟨e,h0⟩|⟨p,cap8,cur,e,-⟩
 ·have e1:r= []:=List.eq_nil_of_length_eq_zero (by omega);have e2:r2= []:=List.eq_nil_of_length_eq_zero (by omega);subst e1 e2;exact⟨none,0,e,bw.nil _ _⟩
 ·exact⟨_,cap8,by rw[e,List.length_append],bw.push fE rfl rfl e hg hat hown hl h2 hz hS1 hS2 hrow⟩
structure tA (t d:VT):Prop where
 kt:t.kind=7
 lt:t.names.length=t.items.length
 ld:d.names.length=d.items.length
 nt:t.names.length≤100000
 nd:d.names.length≤100000
 dt: ∀y∈t.items,ac y≤4611686018427387903
 dd: ∀y∈d.items,ac y≤4611686018427387903
def qw (P:Nat→Prop)(l:List au)(w:World)(e:Ending)(w':World):Prop:=
 ∃A c,e= .returned (.slice A l.length c)∧dl w' (fun b=>(P b∧b<w.heap.size)∨New w.heap.size w' b) A l∧(A=none→c=0∧l= [])∧l.length≤c∧Below w.heap.size w w'
theorem qw.back {P:Nat→Prop}{l:List au}{w w2 w':World}{e:Ending}(h:qw P l w2 e w')(hb:Below w.heap.size w w2)(hP: ∀b,P b→b<w.heap.size):qw P l w e w':=by
 obtain⟨A,c,h1,h2,h3,h4,h5⟩:=h;refine⟨A,c,h1,h2.imp fun b hb'=> ?_,h3,h4,hb.trans (h5.mono hb.size)⟩;rcases hb' with k|k
 ·exact .inl ⟨k.1,hP b k.1⟩
 ·exact .inr ⟨Nat.le_trans hb.size k.1,k.2⟩
def ky (d:VT)(n:ByteArray):Bool:= !decide (n=idN) && !(d.names.any fun x=>decide (x=n))
def dk (t d:VT)(j:Nat):List au:=((t.names.take j).filter (ky d)).map fun n=>fe [n]
def dL (t d:VT)(j:Nat):List au:=(((d.names.zip d.items).take j).filter fun q=>ep t q.1 q.2).map fun q=>ec [q.1] q.2
theorem ry (t d:VT):dk t d t.names.length=nJ t d:=by unfold dk nJ;rw[List.take_length];rfl
theorem tR (t d:VT)(h:d.names.length=d.items.length):dL t d d.names.length=uI t d:=by
 unfold dL uI;rw[List.take_of_length_le (by rw[List.length_zip];omega)]
theorem qV {t d:VT}{j:Nat}(hj:j<t.names.length)(h:ky d t.names[j]=true):dk t d (j+1)=dk t d j++[fe [t.names[j]]]:=by
 unfold dk;rw[List.take_succ_eq_append_getElem hj,List.filter_append,List.map_append];simp[h]
theorem mE {t d:VT}{j:Nat}(hj:j<t.names.length)(h:ky d t.names[j]=false):dk t d (j+1)=dk t d j:=by
 unfold dk;rw[List.take_succ_eq_append_getElem hj,List.filter_append,List.map_append];simp[h]
theorem ui {t d:VT}{j:Nat}(hj:j<d.names.length)(hi:j<d.items.length)(h:ep t d.names[j] d.items[j]=true):dL t d (j+1)=dL t d j++[ec [d.names[j]] d.items[j]]:=by
 unfold dL;rw[List.take_succ_eq_append_getElem (by rw[List.length_zip];omega),List.filter_append,List.map_append];simp[h]
theorem wL {t d:VT}{j:Nat}{nm:ByteArray}{Y:VT}(hj:j<d.names.length)(hi:j<d.items.length)(hn:nm=d.names[j])(hY:Y=d.items[j])(h:ep t d.names[j] d.items[j]=true):dL t d (j+1)=dL t d j++[ec [nm] Y]:=by
 rw[hn,hY];exact ui hj hi h
theorem vg {t d:VT}{j:Nat}(hj:j<d.names.length)(hi:j<d.items.length)(h:ep t d.names[j] d.items[j]=false):dL t d (j+1)=dL t d j:=by
 unfold dL;rw[List.take_succ_eq_append_getElem (by rw[List.length_zip];omega),List.filter_append,List.map_append];simp[h]
theorem lA (t d:VT)(j:Nat):(dk t d j).length≤j:=by
 unfold dk;rw[List.length_map];exact Nat.le_trans (List.length_filter_le _ _) (by rw[List.length_take];omega)
theorem uh (t d:VT)(j:Nat):(dL t d j).length≤j:=by
 unfold dL;rw[List.length_map];exact Nat.le_trans (List.length_filter_le _ _) (by rw[List.length_take];omega)
theorem wK {t:VT}{n:ByteArray}{x:VT}(kt:t.kind=7)(h:nmI 0 t.names n<0):ep t n x=true:=by
 unfold ep ar;rw[bL kt,if_pos h]
theorem wQ {t:VT}{n:ByteArray}{x:VT}{k:Nat}(kt:t.kind=7)(h:nmI 0 t.names n=(k:Int))(hk:k<t.items.length):ep t n x= !(fK t.items[k] x == 0):=by
 unfold ep ar;rw[bL kt,h,if_neg (by omega)];simp[List.getElem?_eq_getElem hk]
theorem Ao {nm:ByteArray}:nm.toList= [95,105,100]↔nm=⟨#[95,105,100]⟩:=⟨fun h=>by
  rw[ByteArray.toList_eq]at h
  cases nm with
  |mk a=>
   cases a with
   |mk l=>
    have h:l= [95,105,100]:=h;subst h
    rfl,fun h=>by rw[h,ByteArray.toList_eq]⟩
theorem gl {w:World}{S:Nat→Prop}{g:Nat}{n:ByteArray}(hg:w.heap[g]? =some (.cells #[.string n] 9 (0,0)))(hS:S g)(hn:n.size≤140737488351232):ai w S (some ⟨g,0,none⟩) [n]:=fun _=>
 ⟨g,0,rfl,hS,fun i hi=>by
  obtain rfl:i=0:=by simpa using hi
  exact⟨Go.Joins.cell_of_block hg 0,hn⟩⟩
theorem xj (S:Nat→Prop)(t d:VT)(v x:Value)(w:World)(hS: ∀b,S b→b<w.heap.size)(h:LV w S t v)(hx:LV w S d x)(hok:tA t d):
  Calls Tryz.prog 60 #[v,x] w (qw S (cT t d) w):=by
 have hv:=h;have hxx:=hx;obtain⟨A0,c0,A0',c0',rfl,-,-,-,-,-,htn,hti⟩:=h.shape;obtain⟨B0,e0,B0',e0',rfl,-,-,-,-,-,hdn,hdi⟩:=hx.shape;obtain⟨w2,hw2⟩: ∃W,W=(w.alloc (.cells #[.int .i64 t.kind,.int .i64 t.num,.string t.text,.slice A0 t.items.length c0,.slice A0' t.names.length c0'] 25)).alloc (.cells #[.int .i64 d.kind,.int .i64 d.num,.string d.text,.slice B0 d.items.length e0,.slice B0' d.names.length e0'] 25):=⟨_,rfl⟩;have hz1:(w.alloc (.cells #[.int .i64 t.kind,.int .i64 t.num,.string t.text,.slice A0 t.items.length c0,.slice A0' t.names.length c0'] 25)).heap.size=w.heap.size+1:=by simp
 have hvb:w2.heap[w.heap.size]? =some (.cells #[.int .i64 t.kind,.int .i64 t.num,.string t.text,.slice A0 t.items.length c0,.slice A0' t.names.length c0'] 25 (0,0)):=by rw[hw2,Below.heap_alloc _ _ _ (by omega)];exact heap_alloc_new w _
 have hxb:w2.heap[w.heap.size+1]? =some (.cells #[.int .i64 d.kind,.int .i64 d.num,.string d.text,.slice B0 d.items.length e0,.slice B0' d.names.length e0'] 25 (0,0)):=by rw[hw2,←hz1];exact heap_alloc_new _ _
 have hb2:Below w.heap.size w w2:=by rw[hw2];exact((Below.refl _ _).alloc (Nat.le_refl _) _).alloc (by omega) _
 have hz2:w2.heap.size=w.heap.size+2:=by rw[hw2];simp
 have hk2: ∀b,S b→w2.heap[b]? =w.heap[b]? :=fun b hb=>hb2.block b (hS b hb);have HS:=Lib.hid (fun b (hb:S b)=>(⟨hS b hb,by have:=hS b hb;omega⟩:b<w.heap.size∧b<w2.heap.size));have HB2:=Lib.hid hb2;have HZ2:=Lib.hid hz2;have HTN:=Lib.hid (htn.keep hk2);have HTI:=Lib.hid (km (hti.keep hk2));have HDN:=Lib.hid (hdn.keep hk2);have HDI:=Lib.hid (km (hdi.keep hk2));have HK:=Lib.hid (And.intro hvb hxb);have HOK:=Lib.hid hok;obtain⟨i0,hi,hi0,hi1,hi2⟩:=info_parts Tryz.infoDlt;have f4:=Go.Joins.cell_of_block hvb 4;obtain⟨n,hn⟩: ∃n,n=t.names.length:=⟨_,rfl⟩;have HNN:=Lib.hid hn;have hn9:n≤100000:=by rw[hn];exact hok.nt
 clear hz1 hb2 hz2 hk2 hS hv h hx hxx htn hti hdn hdi hok hvb hxb hn;go_enter Tryz.func60,Tryz.ntmps60;go_wp2_with fail;rw[←hw2];clear hw2;go_wp2_with fail;clear f4;rw[←HNN.out]
 go_loopw [5,14] (fun l i wr=> ∃(j:Nat) (A:Option Addr) (c:Nat) (r:List au),l= .slice A r.length c∧i= .int .i64 j∧j≤n∧Hid (r=dk t d j)∧Hid (bw cQ 8 58 S w2 wr A c r)∧Hid (Below w2.heap.size w2 wr)) (fun _ i _=>n - (intOf i).toNat)
 case atStart=>exact⟨0,none,0,[],rfl,rfl,Nat.zero_le _,Lib.hid rfl,Lib.hid (bw.nil _ _),Lib.hid (Below.refl _ _)⟩
 case round=>
  obtain⟨j,A,c,r,rfl,rfl,hj,HG,HR,HB⟩:=hrel;by_cases hlt:j<n
  ·have hjt:j<t.names.length:=by rw[←HNN.out];exact hlt
   obtain⟨bn,on,rfl,hbn,hcn⟩:=HTN.out (by omega);obtain⟨hc1,hc2⟩:=hcn j hjt;obtain⟨nm,hnm⟩: ∃s,s=t.names[j]:=⟨_,rfl⟩;rw[←hnm]at hc1 hc2;have x0:=(HB.out.cell (p:=⟨bn,on+j,none⟩) (HS.out bn hbn).2).trans hc1;have HNM:=Lib.hid (And.intro hjt (And.intro hnm hc2));have g4:=(HB.out.cell (p:=⟨w.heap.size+1,4,none⟩) (by show w.heap.size+1<w2.heap.size;have:=HZ2.out;omega)).trans (Go.Joins.cell_of_block HK.out.2 4);have HCT:=Lib.hid (pi B0' e0' d.names nm wr S (HDN.out.keep fun b hb=>HB.out.block b (HS.out b hb).2) (by have:=HOK.out.nd;omega));clear hbn hcn hc1 hc2 hnm;by_cases hid:nm=⟨#[95,105,100]⟩
   ·have HGN:Hid (ky d nm=false):=Lib.hid (by unfold ky;rw[decide_eq_true (show nm=idN from hid)];rfl);have dd:(!decide (nm=⟨#[95,105,100]⟩))=false:=by simp[hid]
    have HG2:Hid (r=dk t d (j+1)):=Lib.hid (by rw[mE HNM.out.1 (by rw[←HNM.out.2.1];exact HGN.out)];exact HG.out);clear HCT;subst hid;go_wp2_with fail
    go_roundw
    case rel=>exact⟨j+1,A,c,r,rfl,by go_num,by omega,HG2,HR,HB⟩
    case measure=>simp[intOf];omega
   ·have dd:(!decide (nm=⟨#[95,105,100]⟩))=true:=by simp[hid]
    have HID:Hid (¬nm=idN):=Lib.hid hid;have hid2: ¬nm.toList= [95,105,100]:=fun h=>hid (Ao.1 h);clear dd hid;go_wp2_with fail;refine HCT.out.mono ?_;rintro e wc ⟨rfl,hwc⟩;subst hwc
    cases hct:(d.names.any fun x=>decide (x=nm))with
    |true=>
     have HGN:Hid (ky d nm=false):=Lib.hid (by unfold ky;rw[hct];simp);have HG2:Hid (r=dk t d (j+1)):=Lib.hid (by rw[mE HNM.out.1 (by rw[←HNM.out.2.1];exact HGN.out)];exact HG.out);clear hct HCT;go_wp2_with fail
     go_roundw
     case rel=>exact⟨j+1,A,c,r,rfl,by go_num,by omega,HG2,HR,HB⟩
     case measure=>simp[intOf];omega
    |false=>
     have HGN:Hid (ky d nm=true):=Lib.hid (by unfold ky;rw[hct,decide_eq_false HID.out];rfl);have HG2:Hid (r++[fe [nm]]=dk t d (j+1)):=Lib.hid (by rw[qV HNM.out.1 (by rw[←HNM.out.2.1];exact HGN.out),←HNM.out.2.1,←HG.out]);have hid3:(!(nm.toList == [95,105,100]))=true:=by simpa using hid2
     clear hct HCT x0 g4;go_wp2_with fail;clear hid2 hid3;obtain⟨wn,hwn⟩: ∃W,W=wr:=⟨_,rfl⟩;obtain⟨ws,hws⟩: ∃W,W=wr.alloc (.cells #[.string nm] 9):=⟨_,rfl⟩;have hsb:ws.heap[wn.heap.size]? =some (.cells #[.string nm] 9 (0,0)):=by rw[hws,hwn];exact heap_alloc_new wr _
     have hbs:Below wr.heap.size wr ws:=by rw[hws];exact(Below.refl _ _).alloc (Nat.le_refl _) _
     have hzs:ws.heap.size=wn.heap.size+1:=by rw[hws,hwn];simp
     rw[←hws,←hwn];have HWN:=Lib.hid hwn;clear hws hwn;refine(kP (some ⟨wn.heap.size,0,none⟩) 1 1 ws).mono ?_;rintro e w5 ⟨rfl,hb5⟩;have HB5:Hid (Below w2.heap.size w2 w5):=Lib.hid (HB.out.trans ((hbs.trans (hb5.mono hbs.size)).mono HB.out.size));have HZ5:Hid (wn.heap.size<w5.heap.size):=Lib.hid (by have:=hb5.size;omega);have HS5:=Lib.hid ((hb5.block _ (by omega)).trans hsb);have HR5:=Lib.hid ((HR.out.below fE HB.out.size hbs).below fE (by have:=HB.out.size;have:=hbs.size;omega) hb5);have HPO:Hid (∀p,(Value.slice A r.length c).ownBlock=some p→p<wn.heap.size):=Lib.hid fun p hp=>by have:=(HR.out.own p hp).2;rw[HWN.out];exact this
     have HWL:Hid (w2.heap.size≤wn.heap.size):=Lib.hid (by rw[HWN.out];exact HB.out.size);clear hsb hbs hzs hb5;obtain⟨w6,hw6⟩: ∃W,W=w5.alloc (.cells #[.int .i64 2,.slice (some ⟨wn.heap.size,0,none⟩) 1 1,.int .i64 0,.int .i64 0,.string ⟨#[]⟩,.slice none 0 0,.slice none 0 0,.int .i64 0] 58):=⟨_,rfl⟩;have hb6:Below w5.heap.size w5 w6:=by rw[hw6];exact(Below.refl _ _).alloc (Nat.le_refl _) _
     have HB6:Hid (Below w2.heap.size w2 w6):=Lib.hid (HB5.out.trans (hb6.mono HB5.out.size));have HZ6:=Lib.hid HB6.out.size;have HR6:=Lib.hid (HR5.out.below fE HB5.out.size hb6);have HLI:Hid (cQ w6 (fun b=>(S b∧b<w2.heap.size)∨b=wn.heap.size) (fe [nm]) #[.int .i64 2,.slice (some ⟨wn.heap.size,0,none⟩) 1 1,.int .i64 0,.int .i64 0,.string ⟨#[]⟩,.slice none 0 0,.slice none 0 0,.int .i64 0]):=Lib.hid (ln (p:=[nm]) (gl ((hb6.block _ HZ5.out).trans HS5.out) (.inr rfl) HNM.out.2.2) (by simp) (Nat.le_refl _) (by simp))
     have HS2:Hid (∀b,((S b∧b<w2.heap.size)∨b=wn.heap.size)→kj S w2 w6 (.slice A r.length c) b):=Lib.hid fun b hb=>by
      rcases hb with k|rfl
      ·exact .inl k
      ·exact .inr ⟨HWL.out,by have:=HZ5.out;have:=hb6.size;omega,fun p hp e=>by have:=HPO.out p hp;omega⟩
     have HL2:Hid (r.length≤100000):=Lib.hid (by have:=lA t d j;have:=HOK.out.nt;have:=HNN.out;rw[HG.out];omega);obtain⟨xs,S1,g1,g2,g3⟩:=HR6.out;have HXS:=Lib.hid (And.intro g1 (And.intro g2 g3));clear g1 g2 g3 hb6;rw[hw6]at HXS HB6 HZ6 HR6 HLI HS2;clear hw6
     have HNEXT:Hid (∀v8 w8,w8.ownsRow w2.heap.size 58 8 v8 (r.length+1) (xs++[.int .i64 2,.slice (some ⟨wn.heap.size,0,none⟩) 1 1,.int .i64 0,.int .i64 0,.string ⟨#[]⟩,.slice none 0 0,.slice none 0 0,.int .i64 0])→(w5.alloc (.cells #[.int .i64 2,.slice (some ⟨wn.heap.size,0,none⟩) 1 1,.int .i64 0,.int .i64 0,.string ⟨#[]⟩,.slice none 0 0,.slice none 0 0,.int .i64 0] 58)).grownBy w8 (Value.slice A r.length c).ownBlock→(v8.ownBlock=(Value.slice A r.length c).ownBlock∨v8.ownBlock=some (w5.alloc (.cells #[.int .i64 2,.slice (some ⟨wn.heap.size,0,none⟩) 1 1,.int .i64 0,.int .i64 0,.string ⟨#[]⟩,.slice none 0 0,.slice none 0 0,.int .i64 0] 58)).heap.size)→(∃A8 c8,v8= .slice A8 (r++[fe [nm]]).length c8∧bw cQ 8 58 S w2 w8 A8 c8 (r++[fe [nm]]))∧Below w2.heap.size w2 w8):=Lib.hid fun v8 w8 h1 h2 h3=>by
      have hq:=jl (S:=S) (r2:=[fe [nm]]) HZ6.out h1 h2 h3 HR6.out.own HXS.out.2.1 HXS.out.2.2 (S2:=fun b=>(S b∧b<w2.heap.size)∨b=wn.heap.size) ⟨[.int .i64 2,.slice (some ⟨wn.heap.size,0,none⟩) 1 1,.int .i64 0,.int .i64 0,.string ⟨#[]⟩,.slice none 0 0,.slice none 0 0,.int .i64 0],[],rfl,HLI.out,rfl⟩ HS2.out;exact⟨hq.1,HB6.out.trans (hq.2.mono (Nat.le_refl _))⟩
     have hone: ∀u∈([.int .i64 2,.slice (some ⟨wn.heap.size,0,none⟩) 1 1,.int .i64 0,.int .i64 0,.string ⟨#[]⟩,.slice none 0 0,.slice none 0 0,.int .i64 0]:List Value),u.oneCell'=true:=by
      intro u hu;simp only[List.mem_cons,List.not_mem_nil,or_false]at hu;rcases hu with rfl|rfl|rfl|rfl|rfl|rfl|rfl|rfl<;>rfl
     have HONE:=Lib.hid hone;clear hone;go_wp2_with(at_builtin;refine wpList_append_own_at _ rfl _ _ 32 rfl w2.heap.size 58 i0 _ 8 120 Tryz.underlying32 hi hi0 hi1 hi2 rfl (by decide) _ r.length xs rfl HXS.out.1 ⟨w5.heap.size,0,none⟩ 1 1 [.int .i64 2,.slice (some ⟨wn.heap.size,0,none⟩) 1 1,.int .i64 0,.int .i64 0,.string ⟨#[]⟩,.slice none 0 0,.slice none 0 0,.int .i64 0] rfl rfl (oI w5 [.int .i64 2,.slice (some ⟨wn.heap.size,0,none⟩) 1 1,.int .i64 0,.int .i64 0,.string ⟨#[]⟩,.slice none 0 0,.slice none 0 0,.int .i64 0] 58) HONE.out (by have:=HL2.out;unfold maxLen;omega) (by have:=HL2.out;omega) HZ6.out ?_;intro v8 w8 hown8 hg8 hnil8 hat8;have HW:=Lib.hid (HNEXT.out v8 w8 hown8 hg8 hat8);clear hown8 hg8 hnil8 hat8 HNEXT;obtain⟨⟨A8,c8,rfl,hr8⟩,hb8⟩:=HW.out;have HR8:=Lib.hid hr8;have HB8:=Lib.hid hb8;clear HW hr8 hb8)
     go_roundw
     case rel=>exact⟨j+1,A8,c8,r++[fe [nm]],by rw[List.length_append];rfl,by go_num,by omega,HG2,HR8,HB8⟩
     case measure=>simp[intOf];omega
  ·obtain rfl:j=n:=by omega
   obtain⟨r0,hr0⟩: ∃r0,r0=r:=⟨_,rfl⟩;have HR0:Hid (r0=nJ t d):=Lib.hid (by rw[hr0,HG.out,HNN.out,ry]);have HRL:Hid (r0.length≤100000):=Lib.hid (by have:=lA t d j;have:=HOK.out.nt;have:=HNN.out;rw[hr0,HG.out];omega);rw[←hr0]at HR ⊢;clear hr0 HG;obtain⟨m,hm⟩: ∃m,m=d.names.length:=⟨_,rfl⟩;have HMM:=Lib.hid hm;have hm9:m≤100000:=by rw[hm];exact HOK.out.nd
   have g4:=(HB.out.cell (p:=⟨w.heap.size+1,4,none⟩) (by show w.heap.size+1<w2.heap.size;have:=HZ2.out;omega)).trans (Go.Joins.cell_of_block HK.out.2 4);rw[←hm]at g4;clear hm;go_wp2_with fail;clear g4;obtain⟨wq,hwq⟩: ∃W,W=wr:=⟨_,rfl⟩;rw[←hwq]at HR HB ⊢;clear hwq
   go_loopw [5,37] (fun l i wr=> ∃(k:Nat) (A:Option Addr) (c:Nat) (r:List au),l= .slice A r.length c∧i= .int .i64 k∧k≤m∧Hid (r=r0++dL t d k)∧Hid (bw cQ 8 58 S w2 wr A c r)∧Hid (Below w2.heap.size w2 wr)) (fun _ i _=>m - (intOf i).toNat)
   case atStart=>exact⟨0,A,c,r0,rfl,rfl,Nat.zero_le _,Lib.hid (by unfold dL;simp),HR,HB⟩
   case round=>
    clear HR HB hj hlt;obtain⟨k,A,c,r,rfl,rfl,hk,HG,HR,HB⟩:=hrel;by_cases hlt:k<m
    ·have hjt:k<d.names.length:=by rw[←HMM.out];exact hlt
     have hji:k<d.items.length:=by rw[←HOK.out.ld];exact hjt
     obtain⟨bn,on,rfl,hbn,hcn⟩:=HDN.out (by omega);obtain⟨hc1,hc2⟩:=hcn k hjt;obtain⟨nm,hnm⟩: ∃s,s=d.names[k]:=⟨_,rfl⟩;rw[←hnm]at hc1 hc2;obtain⟨Y,hY⟩: ∃Y,Y=d.items[k]:=⟨_,rfl⟩;have x0:=(HB.out.cell (p:=⟨bn,on+k,none⟩) (HS.out bn hbn).2).trans hc1;obtain⟨bi,oi,rfl,hbi,hci⟩:=HDI.out (by omega);obtain⟨cs,hcs,hlv⟩:=hci k hji;rw[←hY]at hlv;obtain⟨YA,yc,YA',yc',e,-⟩:=LV.shape (show LV w2 S Y (.agg cs) from hlv);injection e with e
     subst e;have hlv:LV wr S Y (.agg #[.int .i64 Y.kind,.int .i64 Y.num,.string Y.text,.slice YA Y.items.length yc,.slice YA' Y.names.length yc']):=LV.keep (fun b hb=>HB.out.block b (HS.out b hb).2) (show LV w2 S Y _ from hlv);have kz:=fun(b i:Nat) (hb:b<w2.heap.size)=>World.cell?_of_block (a:=⟨b,i,none⟩) (HB.out.block b hb);have i0':=(kz bi _ (HS.out bi hbi).2).trans (hcs 0 _ rfl);have i1':=(kz bi _ (HS.out bi hbi).2).trans (hcs 1 _ rfl);have i2':=(kz bi _ (HS.out bi hbi).2).trans (hcs 2 _ rfl);have i3':=(kz bi _ (HS.out bi hbi).2).trans (hcs 3 _ rfl);have i4':=(kz bi _ (HS.out bi hbi).2).trans (hcs 4 _ rfl);rw[Nat.add_zero]at i0';have t4:=(kz w.heap.size 4 (by have:=HZ2.out;omega)).trans (Go.Joins.cell_of_block HK.out.1 4);have t3:=(kz w.heap.size 3 (by have:=HZ2.out;omega)).trans (Go.Joins.cell_of_block HK.out.1 3);have g3:=(kz (w.heap.size+1) 3 (by have:=HZ2.out;omega)).trans (Go.Joins.cell_of_block HK.out.2 3);have HNM:=Lib.hid (And.intro hjt (And.intro hnm (And.intro hc2 (And.intro hji hY))));have HY:=Lib.hid hlv;have HIX:=Lib.hid (lD A0' c0' t.names nm wr S (HTN.out.keep fun b hb=>HB.out.block b (HS.out b hb).2) (by have:=HOK.out.nt;omega));have HBI:Hid (bi<wr.heap.size):=Lib.hid (Nat.lt_of_lt_of_le (HS.out bi hbi).2 HB.out.size);have hlti:k<d.items.length:=hji;clear hbn hcn hc1 hc2 hnm hY hbi hci hcs hlv kz;go_wp2_with fail;refine HIX.out.mono ?_;rintro e wc ⟨rfl,hwc⟩;subst hwc;clear HIX x0 t4;go_wp2_with fail;obtain⟨ax,hax⟩: ∃z,z=nmI 0 t.names nm:=⟨_,rfl⟩;rw[←hax];have HAX:=Lib.hid hax
     clear hax;have HG3:=Lib.hid (And.intro g3 (And.intro i0' (And.intro i1' (And.intro i2' (And.intro i3' i4')))));by_cases hneg:ax<0
     focus
      have dn:decide (ax<0)=true:=decide_eq_true hneg;have HOT:Hid (ep t d.names[k] d.items[k]=true):=Lib.hid (wK HOK.out.kt (by rw[←HNM.out.2.1,←HAX.out];exact hneg));clear hneg t3 g3 i0' i1' i2' i3' i4';refine bq [0,1,2,3,4,5,6,7,8,9,10,11,12,13,14,15] (by kernel_rfl) (by kernel_rfl) (fun _ d _ _ _ h=>by cases d<;>exact h) ?_;simp only[atR];first|with_reducible refine ak ?_ |with_reducible refine ag ?_ |refine ak ?_ |refine ag ?_
      simp only[List.takeWhile,List.dropWhile,aF,Nat.reduceBNe];repeat(go_big_quiet_step (fail))
      first|with_reducible refine wpQuiet_nil ?_ |refine wpQuiet_nil ?_
      first|with_reducible refine aL ?_ (fun K hK=> ?_)|with_reducible refine aC ?_ (fun K hK=> ?_)|refine aL ?_ (fun K hK=> ?_)|refine aC ?_ (fun K hK=> ?_)
      ·rfl
      go_simp
      refine hK _ _ (Below.refl _ _) ?_;clear hK K;try simp only[Act.put]
      first|with_reducible refine ak ?_ |with_reducible refine ag ?_ |refine ak ?_ |refine ag ?_
      simp only[List.takeWhile,List.dropWhile,aF,Nat.reduceBNe];repeat(go_big_quiet_step (fail))
      first|with_reducible refine wpQuiet_nil ?_ |refine wpQuiet_nil ?_
      unfold br;obtain⟨w4,hw4⟩: ∃W,W=wr.drew:=⟨_,rfl⟩;have HB4:Hid (Below wr.heap.size wr w4):=Lib.hid (by rw[hw4];exact(Below.refl _ _).drew);rw[←hw4];clear hw4 dn
     rotate_left
     focus
      obtain⟨q,rfl⟩: ∃q:Nat,ax=(q:Int):=⟨ax.toNat,by omega⟩;have hqt:q<t.names.length:=by have:=(im (s:=nm) (l:=t.names) (k:=0)).2;rw[←HAX.out]at this;omega
      have hqi:q<t.items.length:=by rw[←HOK.out.lt];exact hqt
      have dn:decide ((q:Int)<0)=false:=decide_eq_false (by omega);obtain⟨bt,ot,rfl,hbt,hct⟩:=HTI.out (by omega);obtain⟨cs,hcs,hlv⟩:=hct q hqi;obtain⟨Z,hZ⟩: ∃Z,Z=t.items[q]:=⟨_,rfl⟩;rw[←hZ]at hlv;obtain⟨ZA,zc,ZA',zc',e,-⟩:=LV.shape (show LV w2 S Z (.agg cs) from hlv);injection e with e
      subst e;have hlv:LV wr S Z (.agg #[.int .i64 Z.kind,.int .i64 Z.num,.string Z.text,.slice ZA Z.items.length zc,.slice ZA' Z.names.length zc']):=LV.keep (fun b hb=>HB.out.block b (HS.out b hb).2) (show LV w2 S Z _ from hlv);have HSM:=Lib.hid (qK S Z Y _ _ wr.drew (fun b hb=>Nat.lt_of_lt_of_le (HS.out b hb).2 HB.out.size) hlv.drew HY.out.drew (by rw[hZ];exact HOK.out.dt _ (List.getElem_mem hqi)) (by rw[HNM.out.2.2.2.2];exact HOK.out.dd _ (List.getElem_mem hlti)));have kz:=fun(b i:Nat) (hb:b<w2.heap.size)=>World.cell?_of_block (a:=⟨b,i,none⟩) (HB.out.block b hb);have hbtw:bt<wr.heap.size:=Nat.lt_of_lt_of_le (HS.out bt hbt).2 HB.out.size;have hbiw:=HBI.out;have hw0:w.heap.size<wr.heap.size:=by have:=HZ2.out;have:=HB.out.size;omega
      have hw1:w.heap.size+1<wr.heap.size:=by have:=HZ2.out;have:=HB.out.size;omega
      have u0:=(kz bt _ (HS.out bt hbt).2).trans (hcs 0 _ rfl);rw[Nat.add_zero]at u0;have u1:=(kz bt _ (HS.out bt hbt).2).trans (hcs 1 _ rfl);have u2:=(kz bt _ (HS.out bt hbt).2).trans (hcs 2 _ rfl);have u3:=(kz bt _ (HS.out bt hbt).2).trans (hcs 3 _ rfl);have u4:=(kz bt _ (HS.out bt hbt).2).trans (hcs 4 _ rfl);have HOE:Hid (ep t d.names[k] d.items[k]= !(fK Z Y == 0)):=Lib.hid (by rw[hZ,HNM.out.2.2.2.2];exact wQ HOK.out.kt (by rw[←HNM.out.2.1];exact HAX.out.symm) hqi);have c0':=aa (B:=wr.heap.size) (w:=wr.drew) u0 hbtw;have c1':=aa (B:=wr.heap.size) (w:=wr.drew) u1 hbtw;have c2':=aa (B:=wr.heap.size) (w:=wr.drew) u2 hbtw;have c3':=aa (B:=wr.heap.size) (w:=wr.drew) u3 hbtw;have c4':=aa (B:=wr.heap.size) (w:=wr.drew) u4 hbtw;have d0:=aa (B:=wr.heap.size) (w:=wr.drew) i0' hbiw;have d1:=aa (B:=wr.heap.size) (w:=wr.drew) i1' hbiw;have d2:=aa (B:=wr.heap.size) (w:=wr.drew) i2' hbiw;have d3:=aa (B:=wr.heap.size) (w:=wr.drew) i3' hbiw;have d4:=aa (B:=wr.heap.size) (w:=wr.drew) i4' hbiw;have e3:=aa (B:=wr.heap.size) (w:=wr.drew) t3 hw0;have f3:=aa (B:=wr.heap.size) (w:=wr.drew) g3 hw1;clear hneg t3 g3 i0' i1' i2' i3' i4' u0 u1 u2 u3 u4 hbt hct hcs hZ hlv kz hqt;refine bq [0,1,2,3,4,5,6,7,8,9,10,11,12,13,14,15] (by kernel_rfl) (by kernel_rfl) (fun _ d _ _ _ h=>by cases d<;>exact h) ?_;simp only[atR];first|with_reducible refine ak ?_ |with_reducible refine ag ?_ |refine ak ?_ |refine ag ?_
      simp only[List.takeWhile,List.dropWhile,aF,Nat.reduceBNe];repeat(go_big_quiet_step (fail))
      first|with_reducible refine wpQuiet_nil ?_ |refine wpQuiet_nil ?_
      clear c0' c1' c2' c3' c4' d0 d1 d2 d3 d4 e3 f3;first|with_reducible refine aL ?_ (fun K hK=> ?_)|with_reducible refine aC ?_ (fun K hK=> ?_)|refine aL ?_ (fun K hK=> ?_)|refine aC ?_ (fun K hK=> ?_)
      ·rfl
      go_simp
      refine(HSM.out).mono ?_;rintro e w4 ⟨rfl,hb⟩;refine hK _ _ hb ?_;clear hK K;try simp only[Act.put]
      have HB4:Hid (Below wr.heap.size wr w4):=Lib.hid ((Below.refl _ _).drew.trans hb);clear hb HSM hbtw hbiw hw0 hw1;first|with_reducible refine ak ?_ |with_reducible refine ag ?_ |refine ak ?_ |refine ag ?_
      simp only[List.takeWhile,List.dropWhile,aF,Nat.reduceBNe];repeat(go_big_quiet_step (fail))
      first|with_reducible refine wpQuiet_nil ?_ |refine wpQuiet_nil ?_
      unfold br;cases hsm:fK Z Y == 0;rotate_left
      ·have HGN:Hid (ep t d.names[k] d.items[k]=false):=Lib.hid (by rw[HOE.out,hsm];rfl);have HG2:Hid (r=r0++dL t d (k+1)):=Lib.hid (by rw[vg HNM.out.1 HNM.out.2.2.2.1 HGN.out];exact HG.out);have HR4:=Lib.hid (HR.out.below fE HB.out.size HB4.out);have HB24:=Lib.hid (HB.out.trans (HB4.out.mono HB.out.size));clear hsm;go_wp2_with fail
       go_roundw
       case rel=>exact⟨k+1,A,c,r,rfl,by go_num,by omega,HG2,HR4,HB24⟩
       case measure=>simp[intOf];omega
      have HOT:Hid (ep t d.names[k] d.items[k]=true):=Lib.hid (by rw[HOE.out,hsm];rfl);clear hsm dn hqi
     all_goals
      have HG2:Hid (r++[ec [nm] Y]=r0++dL t d (k+1)):=Lib.hid (by
       have q1:=wL HNM.out.1 HNM.out.2.2.2.1 HNM.out.2.1 HNM.out.2.2.2.2 HOT.out
       rw[q1,←List.append_assoc,←HG.out])
      obtain⟨wn,hwn⟩: ∃W,W=w4:=⟨_,rfl⟩;obtain⟨ws,hws⟩: ∃W,W=w4.alloc (.cells #[.string nm] 9):=⟨_,rfl⟩;have hsb:ws.heap[wn.heap.size]? =some (.cells #[.string nm] 9 (0,0)):=by rw[hws,hwn];exact heap_alloc_new w4 _
      have hbs:Below w4.heap.size w4 ws:=by rw[hws];exact(Below.refl _ _).alloc (Nat.le_refl _) _
      have hzs:ws.heap.size=wn.heap.size+1:=by rw[hws,hwn];simp
      have hwrs:Below wr.heap.size wr ws:=HB4.out.trans (hbs.mono HB4.out.size);have hw1:w.heap.size+1<wr.heap.size:=by have:=HZ2.out;have:=HB.out.size;omega
      have kz:=fun(b i:Nat) (hb:b<wr.heap.size)=>World.cell?_of_block (a:=⟨b,i,none⟩) (hwrs.block b hb);have v3:=(kz (w.heap.size+1) 3 hw1).trans HG3.out.1;have v4:=(kz bi _ HBI.out).trans HG3.out.2.1;have v5:=(kz bi _ HBI.out).trans HG3.out.2.2.1;have v6:=(kz bi _ HBI.out).trans HG3.out.2.2.2.1;have v7:=(kz bi _ HBI.out).trans HG3.out.2.2.2.2.1;have v8:=(kz bi _ HBI.out).trans HG3.out.2.2.2.2.2;have HLV:=Lib.hid (HY.out.keep fun b hb=>hwrs.block b (Nat.lt_of_lt_of_le (HS.out b hb).2 HB.out.size));have HSB:=Lib.hid (And.intro hsb (And.intro hbs (And.intro hzs hwrs)));have HWN:=Lib.hid hwn;clear kz hsb hbs hzs hwrs hwn;rw[hws]at v3 v4 v5 v6 v7 v8;go_wp2_with fail;rw[←hws];clear hws v3 v4 v5 v6 v7 v8;rw[←HWN.out];refine(ee (some ⟨wn.heap.size,0,none⟩) 1 1 Y.kind Y.num Y.text YA Y.items.length yc YA' Y.names.length yc' ws).mono ?_;rintro e w5 ⟨rfl,hb5⟩;have HB5:Hid (Below w2.heap.size w2 w5):=Lib.hid (HB.out.trans ((HSB.out.2.2.2.trans (hb5.mono HSB.out.2.2.2.size)).mono HB.out.size));have HZ5:Hid (wn.heap.size<w5.heap.size):=Lib.hid (by have:=hb5.size;have:=HSB.out.2.2.1;omega);have HS5:=Lib.hid ((hb5.block _ (by have:=HSB.out.2.2.1;omega)).trans HSB.out.1);have HR5:=Lib.hid ((HR.out.below fE HB.out.size HSB.out.2.2.2).below fE (by have:=HB.out.size;have:=HSB.out.2.2.2.size;omega) hb5);have HPO:Hid (∀p,(Value.slice A r.length c).ownBlock=some p→p<wn.heap.size):=Lib.hid fun p hp=>by have:=(HR.out.own p hp).2;have:=HB4.out.size;rw[HWN.out];omega
      have HWL:Hid (w2.heap.size≤wn.heap.size):=Lib.hid (by rw[HWN.out];exact Nat.le_trans HB.out.size HB4.out.size);have HLV5:=Lib.hid (HLV.out.keep fun b hb=>hb5.block b (Nat.lt_of_lt_of_le (HS.out b hb).2 (Nat.le_trans HB.out.size HSB.out.2.2.2.size)));clear hb5;obtain⟨w6,hw6⟩: ∃W,W=w5.alloc (.cells #[.int .i64 1,.slice (some ⟨wn.heap.size,0,none⟩) 1 1,.int .i64 Y.kind,.int .i64 Y.num,.string Y.text,.slice YA Y.items.length yc,.slice YA' Y.names.length yc',.int .i64 0] 58):=⟨_,rfl⟩;have hb6:Below w5.heap.size w5 w6:=by rw[hw6];exact(Below.refl _ _).alloc (Nat.le_refl _) _
      have HB6:Hid (Below w2.heap.size w2 w6):=Lib.hid (HB5.out.trans (hb6.mono HB5.out.size));have HZ6:=Lib.hid HB6.out.size;have HR6:=Lib.hid (HR5.out.below fE HB5.out.size hb6);have HLI:Hid (cQ w6 (fun b=>(S b∧b<w2.heap.size)∨b=wn.heap.size) (ec [nm] Y) #[.int .i64 1,.slice (some ⟨wn.heap.size,0,none⟩) 1 1,.int .i64 Y.kind,.int .i64 Y.num,.string Y.text,.slice YA Y.items.length yc,.slice YA' Y.names.length yc',.int .i64 0]):=Lib.hid (em (p:=[nm]) (gl ((hb6.block _ HZ5.out).trans HS5.out) (.inr rfl) HNM.out.2.2.1) (by simp) (Nat.le_refl _) (by simp) ((HLV5.out.keep fun b hb=>hb6.block b (Nat.lt_of_lt_of_le (HS.out b hb).2 HB5.out.size)).imp fun b hb=> .inl ⟨hb,(HS.out b hb).2⟩))
      have HS2:Hid (∀b,((S b∧b<w2.heap.size)∨b=wn.heap.size)→kj S w2 w6 (.slice A r.length c) b):=Lib.hid fun b hb=>by
       rcases hb with h|rfl
       ·exact .inl h
       ·exact .inr ⟨HWL.out,by have:=HZ5.out;have:=hb6.size;omega,fun p hp e=>by have:=HPO.out p hp;omega⟩
      have HL2:Hid (r.length≤200000):=Lib.hid (by have:=uh t d k;have:=HOK.out.nd;have:=HMM.out;have:=HRL.out;rw[HG.out,List.length_append];omega);obtain⟨xs,S1,g1,g2,g3⟩:=HR6.out;have HXS:=Lib.hid (And.intro g1 (And.intro g2 g3));clear g1 g2 g3 hb6;rw[hw6]at HXS HB6 HZ6 HR6 HLI HS2;clear hw6
      have HNEXT:Hid (∀v8 w8,w8.ownsRow w2.heap.size 58 8 v8 (r.length+1) (xs++[.int .i64 1,.slice (some ⟨wn.heap.size,0,none⟩) 1 1,.int .i64 Y.kind,.int .i64 Y.num,.string Y.text,.slice YA Y.items.length yc,.slice YA' Y.names.length yc',.int .i64 0])→(w5.alloc (.cells #[.int .i64 1,.slice (some ⟨wn.heap.size,0,none⟩) 1 1,.int .i64 Y.kind,.int .i64 Y.num,.string Y.text,.slice YA Y.items.length yc,.slice YA' Y.names.length yc',.int .i64 0] 58)).grownBy w8 (Value.slice A r.length c).ownBlock→(v8.ownBlock=(Value.slice A r.length c).ownBlock∨v8.ownBlock=some (w5.alloc (.cells #[.int .i64 1,.slice (some ⟨wn.heap.size,0,none⟩) 1 1,.int .i64 Y.kind,.int .i64 Y.num,.string Y.text,.slice YA Y.items.length yc,.slice YA' Y.names.length yc',.int .i64 0] 58)).heap.size)→(∃A8 c8,v8= .slice A8 (r++[ec [nm] Y]).length c8∧bw cQ 8 58 S w2 w8 A8 c8 (r++[ec [nm] Y]))∧Below w2.heap.size w2 w8):=Lib.hid fun v8 w8 h1 h2 h3=>by
       have hq:=jl (S:=S) (r2:=[ec [nm] Y]) HZ6.out h1 h2 h3 HR6.out.own HXS.out.2.1 HXS.out.2.2 (S2:=fun b=>(S b∧b<w2.heap.size)∨b=wn.heap.size) ⟨[.int .i64 1,.slice (some ⟨wn.heap.size,0,none⟩) 1 1,.int .i64 Y.kind,.int .i64 Y.num,.string Y.text,.slice YA Y.items.length yc,.slice YA' Y.names.length yc',.int .i64 0],[],rfl,HLI.out,rfl⟩ HS2.out;exact⟨hq.1,HB6.out.trans (hq.2.mono (Nat.le_refl _))⟩
      have hone: ∀u∈([.int .i64 1,.slice (some ⟨wn.heap.size,0,none⟩) 1 1,.int .i64 Y.kind,.int .i64 Y.num,.string Y.text,.slice YA Y.items.length yc,.slice YA' Y.names.length yc',.int .i64 0]:List Value),u.oneCell'=true:=by
       intro u hu;simp only[List.mem_cons,List.not_mem_nil,or_false]at hu;rcases hu with rfl|rfl|rfl|rfl|rfl|rfl|rfl|rfl<;>rfl
      have HONE:=Lib.hid hone;clear hone;go_wp2_with(at_builtin;refine wpList_append_own_at _ rfl _ _ 32 rfl w2.heap.size 58 i0 _ 8 120 Tryz.underlying32 hi hi0 hi1 hi2 rfl (by decide) _ r.length xs rfl HXS.out.1 ⟨w5.heap.size,0,none⟩ 1 1 [.int .i64 1,.slice (some ⟨wn.heap.size,0,none⟩) 1 1,.int .i64 Y.kind,.int .i64 Y.num,.string Y.text,.slice YA Y.items.length yc,.slice YA' Y.names.length yc',.int .i64 0] rfl rfl (oI w5 [.int .i64 1,.slice (some ⟨wn.heap.size,0,none⟩) 1 1,.int .i64 Y.kind,.int .i64 Y.num,.string Y.text,.slice YA Y.items.length yc,.slice YA' Y.names.length yc',.int .i64 0] 58) HONE.out (by have:=HL2.out;unfold maxLen;omega) (by have:=HL2.out;omega) HZ6.out ?_;intro v8 w8 hown8 hg8 hnil8 hat8;have HW:=Lib.hid (HNEXT.out v8 w8 hown8 hg8 hat8);clear hown8 hg8 hnil8 hat8 HNEXT;obtain⟨⟨A8,c8,rfl,hr8⟩,hb8⟩:=HW.out;have HR8:=Lib.hid hr8;have HB8:=Lib.hid hb8;clear HW hr8 hb8)
      go_roundw
      case rel=>exact⟨k+1,A8,c8,r++[ec [nm] Y],by rw[List.length_append];rfl,by go_num,by omega,HG2,HR8,HB8⟩
      case measure=>simp[intOf];omega
    ·obtain rfl:k=m:=by omega
     go_wp2_with fail;go_ret;have he:r=cT t d:=by rw[HG.out,HR0.out,HMM.out,tR t d HOK.out.ld];rfl
     rw[←he];exact qw.back ⟨A,c,rfl,HR.out.rows fE,HR.out.none',HR.out.cap,HB.out⟩ HB2.out fun b hb=>(HS.out b hb).1
end Go.Proofs.YtgbopnlpaabelaaGreatDoor
