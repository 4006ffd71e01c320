/- Entries in memory. -/
import Derived.Test.YtgfidiocmiolpaaGreatKCpA
import Derived.Laws.Rows
set_option maxHeartbeats 64000000
set_option maxRecDepth 100000
set_option linter.unusedVariables false
set_option linter.unusedSimpArgs false
namespace Go.Proofs.YtgfidiocmiolpaaGreat
open Go.RowKit
def cZ (w:World)(S:Nat→Prop)(e:aU)(cs:Array Value):Prop:=
 ∃(IA:Option Addr) (ic:Nat) (IA':Option Addr) (ic':Nat) (DA:Option Addr) (dc:Nat) (DA':Option Addr) (dc':Nat) (LA:Option Addr) (lc:Nat),
  cs= #[.int .i64 e.term,.int .i64 e.kind,.string e.coll,.string e.to,.int .i64 e.id.kind,.int .i64 e.id.num,.string e.id.text,.slice IA e.id.items.length ic,.slice IA' e.id.names.length ic',.int .i64 e.doc.kind,.int .i64 e.doc.num,.string e.doc.text,.slice DA e.doc.items.length dc,.slice DA' e.doc.names.length dc',.slice LA e.dels.length lc,.int .i64 e.session,.int .i64 e.number]∧LV w S e.id (.agg #[.int .i64 e.id.kind,.int .i64 e.id.num,.string e.id.text,.slice IA e.id.items.length ic,.slice IA' e.id.names.length ic'])∧LV w S e.doc (.agg #[.int .i64 e.doc.kind,.int .i64 e.doc.num,.string e.doc.text,.slice DA e.doc.items.length dc,.slice DA' e.doc.names.length dc'])∧bk w S LA e.dels∧e.dels.length≤lc∧(LA=none→lc=0)∧e.dels.length≤1172812402961∧
  Rng e.term∧Rng e.kind∧Rng e.session∧Rng e.number∧e.coll.size≤140737488351232∧e.to.size≤140737488351232
theorem cZ.keep {w w':World}{S:Nat→Prop}{e:aU}{cs:Array Value}(h:cZ w S e cs)(hk: ∀b,S b→w'.heap[b]? =w.heap[b]?):cZ w' S e cs:=by
 obtain⟨IA,ic,IA',ic',DA,dc,DA',dc',LA,lc,h1,h2,h3,h4,h5⟩:=h;exact⟨IA,ic,IA',ic',DA,dc,DA',dc',LA,lc,h1,h2.keep hk,h3.keep hk,h4.keep hk,h5⟩
theorem cZ.imp {w:World}{S S':Nat→Prop}{e:aU}{cs:Array Value}(h:cZ w S e cs)(hS: ∀b,S b→S' b):cZ w S' e cs:=by
 obtain⟨IA,ic,IA',ic',DA,dc,DA',dc',LA,lc,h1,h2,h3,h4,h5⟩:=h;exact⟨IA,ic,IA',ic',DA,dc,DA',dc',LA,lc,h1,h2.imp hS,h3.imp hS,h4.imp hS,h5⟩
structure SmE (e:aU):Prop where
 idd:ao e.id≤4611686018427387903
 docd:ao e.doc≤4611686018427387903
 idz:aK e.id≤9223372036854775807
 docz:aK e.doc≤9223372036854775807
 dels:e.dels.length≤64→eo e.dels∧fu e.dels
def aS (w:World)(g:Nat)(e:aU)(IA:Option Addr)(ic:Nat)(IA':Option Addr)(ic':Nat)(DA:Option Addr)(dc:Nat)(DA':Option Addr)(dc':Nat)(LA:Option Addr)(lc:Nat):Prop:=
 w.heap[g]? =some (.cells #[.int .i64 e.term,.int .i64 e.kind,.string e.coll,.string e.to,.int .i64 e.id.kind,.int .i64 e.id.num,.string e.id.text,.slice IA e.id.items.length ic,.slice IA' e.id.names.length ic',.int .i64 e.doc.kind,.int .i64 e.doc.num,.string e.doc.text,.slice DA e.doc.items.length dc,.slice DA' e.doc.names.length dc',.slice LA e.dels.length lc,.int .i64 e.session,.int .i64 e.number] 46 (0,0))
section
variable {w w':World} {g:Nat} {e:aU} {IA:Option Addr} {ic:Nat} {IA':Option Addr} {ic':Nat} {DA:Option Addr} {dc:Nat} {DA':Option Addr} {dc':Nat} {LA:Option Addr} {lc:Nat}
theorem aS.lt (h:aS w g e IA ic IA' ic' DA dc DA' dc' LA lc):g<w.heap.size:=(Array.getElem?_eq_some_iff.1 h).1
theorem aS.below (h:aS w g e IA ic IA' ic' DA dc DA' dc' LA lc)(hb:Below w.heap.size w w'):aS w' g e IA ic IA' ic' DA dc DA' dc' LA lc:=(hb.block g h.lt).trans h
theorem aS.g1 (h:aS w g e IA ic IA' ic' DA dc DA' dc' LA lc):w.cell? ⟨g,1,none⟩=some (.int .i64 e.kind):=Go.Joins.cell_of_block h 1
theorem aS.g2 (h:aS w g e IA ic IA' ic' DA dc DA' dc' LA lc):w.cell? ⟨g,2,none⟩=some (.string e.coll):=Go.Joins.cell_of_block h 2
theorem aS.g3 (h:aS w g e IA ic IA' ic' DA dc DA' dc' LA lc):w.cell? ⟨g,3,none⟩=some (.string e.to):=Go.Joins.cell_of_block h 3
theorem aS.g4 (h:aS w g e IA ic IA' ic' DA dc DA' dc' LA lc):w.cell? ⟨g,4,none⟩=some (.int .i64 e.id.kind):=Go.Joins.cell_of_block h 4
theorem aS.g5 (h:aS w g e IA ic IA' ic' DA dc DA' dc' LA lc):w.cell? ⟨g,5,none⟩=some (.int .i64 e.id.num):=Go.Joins.cell_of_block h 5
theorem aS.g6 (h:aS w g e IA ic IA' ic' DA dc DA' dc' LA lc):w.cell? ⟨g,6,none⟩=some (.string e.id.text):=Go.Joins.cell_of_block h 6
theorem aS.g7 (h:aS w g e IA ic IA' ic' DA dc DA' dc' LA lc):w.cell? ⟨g,7,none⟩=some (.slice IA e.id.items.length ic):=Go.Joins.cell_of_block h 7
theorem aS.g8 (h:aS w g e IA ic IA' ic' DA dc DA' dc' LA lc):w.cell? ⟨g,8,none⟩=some (.slice IA' e.id.names.length ic'):=Go.Joins.cell_of_block h 8
theorem aS.g9 (h:aS w g e IA ic IA' ic' DA dc DA' dc' LA lc):w.cell? ⟨g,9,none⟩=some (.int .i64 e.doc.kind):=Go.Joins.cell_of_block h 9
theorem aS.g10 (h:aS w g e IA ic IA' ic' DA dc DA' dc' LA lc):w.cell? ⟨g,10,none⟩=some (.int .i64 e.doc.num):=Go.Joins.cell_of_block h 10
theorem aS.g11 (h:aS w g e IA ic IA' ic' DA dc DA' dc' LA lc):w.cell? ⟨g,11,none⟩=some (.string e.doc.text):=Go.Joins.cell_of_block h 11
theorem aS.g12 (h:aS w g e IA ic IA' ic' DA dc DA' dc' LA lc):w.cell? ⟨g,12,none⟩=some (.slice DA e.doc.items.length dc):=Go.Joins.cell_of_block h 12
theorem aS.g13 (h:aS w g e IA ic IA' ic' DA dc DA' dc' LA lc):w.cell? ⟨g,13,none⟩=some (.slice DA' e.doc.names.length dc'):=Go.Joins.cell_of_block h 13
theorem aS.g14 (h:aS w g e IA ic IA' ic' DA dc DA' dc' LA lc):w.cell? ⟨g,14,none⟩=some (.slice LA e.dels.length lc):=Go.Joins.cell_of_block h 14
theorem aS.g15 (h:aS w g e IA ic IA' ic' DA dc DA' dc' LA lc):w.cell? ⟨g,15,none⟩=some (.int .i64 e.session):=Go.Joins.cell_of_block h 15
theorem aS.g16 (h:aS w g e IA ic IA' ic' DA dc DA' dc' LA lc):w.cell? ⟨g,16,none⟩=some (.int .i64 e.number):=Go.Joins.cell_of_block h 16
end
structure eE (w:World)(S:Nat→Prop)(e:aU)(IA:Option Addr)(ic:Nat)(IA':Option Addr)(ic':Nat)(DA:Option Addr)(dc:Nat)(DA':Option Addr)(dc':Nat)(LA:Option Addr)(lc:Nat):Prop where
 id:LV w S e.id (.agg #[.int .i64 e.id.kind,.int .i64 e.id.num,.string e.id.text,.slice IA e.id.items.length ic,.slice IA' e.id.names.length ic'])
 doc:LV w S e.doc (.agg #[.int .i64 e.doc.kind,.int .i64 e.doc.num,.string e.doc.text,.slice DA e.doc.items.length dc,.slice DA' e.doc.names.length dc'])
 dels:bk w S LA e.dels
 cap:e.dels.length≤lc
 nil:LA=none→lc=0
 len:e.dels.length≤1172812402961
 rt:Rng e.term
 rk:Rng e.kind
 rs:Rng e.session
 rn:Rng e.number
 cz:e.coll.size≤140737488351232
 tz:e.to.size≤140737488351232
theorem eE.l {w:World}{S:Nat→Prop}{e:aU}{IA:Option Addr}{ic:Nat}{IA':Option Addr}{ic':Nat}{DA:Option Addr}{dc:Nat}{DA':Option Addr}{dc':Nat}{LA:Option Addr}{lc:Nat}(h:eE w S e IA ic IA' ic' DA dc DA' dc' LA lc):cZ w S e #[.int .i64 e.term,.int .i64 e.kind,.string e.coll,.string e.to,.int .i64 e.id.kind,.int .i64 e.id.num,.string e.id.text,.slice IA e.id.items.length ic,.slice IA' e.id.names.length ic',.int .i64 e.doc.kind,.int .i64 e.doc.num,.string e.doc.text,.slice DA e.doc.items.length dc,.slice DA' e.doc.names.length dc',.slice LA e.dels.length lc,.int .i64 e.session,.int .i64 e.number]:=
 ⟨IA,ic,IA',ic',DA,dc,DA',dc',LA,lc,rfl,h.id,h.doc,h.dels,h.cap,h.nil,h.len,h.rt,h.rk,h.rs,h.rn,h.cz,h.tz⟩
theorem cZ.at {w:World}{S:Nat→Prop}{e:aU}{cs:Array Value}(h:cZ w S e cs): ∃IA ic IA' ic' DA dc DA' dc' LA lc,cs= #[.int .i64 e.term,.int .i64 e.kind,.string e.coll,.string e.to,.int .i64 e.id.kind,.int .i64 e.id.num,.string e.id.text,.slice IA e.id.items.length ic,.slice IA' e.id.names.length ic',.int .i64 e.doc.kind,.int .i64 e.doc.num,.string e.doc.text,.slice DA e.doc.items.length dc,.slice DA' e.doc.names.length dc',.slice LA e.dels.length lc,.int .i64 e.session,.int .i64 e.number]∧eE w S e IA ic IA' ic' DA dc DA' dc' LA lc:=by
 obtain⟨IA,ic,IA',ic',DA,dc,DA',dc',LA,lc,h1,h2,h3,h4,h5,h6,h7,h8,h9,h10,h11,h12,h13⟩:=h;exact⟨IA,ic,IA',ic',DA,dc,DA',dc',LA,lc,h1,h2,h3,h4,h5,h6,h7,h8,h9,h10,h11,h12,h13⟩
theorem eE.keep {w w':World}{S:Nat→Prop}{e:aU}{IA:Option Addr}{ic:Nat}{IA':Option Addr}{ic':Nat}{DA:Option Addr}{dc:Nat}{DA':Option Addr}{dc':Nat}{LA:Option Addr}{lc:Nat}(h:eE w S e IA ic IA' ic' DA dc DA' dc' LA lc)(hk: ∀b,S b→w'.heap[b]? =w.heap[b]?):eE w' S e IA ic IA' ic' DA dc DA' dc' LA lc:=
 ⟨h.id.keep hk,h.doc.keep hk,h.dels.keep hk,h.cap,h.nil,h.len,h.rt,h.rk,h.rs,h.rn,h.cz,h.tz⟩
theorem eE.below {w w':World}{S:Nat→Prop}{e:aU}{IA:Option Addr}{ic:Nat}{IA':Option Addr}{ic':Nat}{DA:Option Addr}{dc:Nat}{DA':Option Addr}{dc':Nat}{LA:Option Addr}{lc:Nat}{B:Nat}(h:eE w S e IA ic IA' ic' DA dc DA' dc' LA lc)(hS: ∀b,S b→b<B)(hb:Below B w w'):eE w' S e IA ic IA' ic' DA dc DA' dc' LA lc:=h.keep fun b hb'=>hb.block b (hS b hb')
theorem bh {ops:Array Oper}{rest:List Oper}{o:Oper}{a:Act}{w:World}{Q:Exit→Act→World→Prop}(hw:Region.wanted o (yielded ops a.tmps)=true)(x:Operand)(ho:o.op= .load 46 x)
  (g:Nat) (hx:a.eval x= .pointer (some ⟨g,0,none⟩)) (cs:Array Value) (fr:Nat×Nat) (hg:w.heap[g]? =some (.cells cs 46 fr)) (hn:cs.size=17)
  (h:wpList Tryz.prog ops Q rest (a.put o.dst (.agg cs)) w):wpList Tryz.prog ops Q (o::rest) a w:=
 wpList_step fun K hK=>by
  rw[hw,if_pos rfl];exact wp_load_row 46 x ho g hx 46 cs fr _ hg Tryz.underlying46 rfl (by rw[hn];kernel_rfl) (hK _ _ h)
end Go.Proofs.YtgfidiocmiolpaaGreat
/- Entries that came in. -/
namespace Go.Proofs.YtgfidiocmiolpaaGreat
open Go.ChangeShapes Go.WideShapes Go.RowKit Go.Joins Go.Deep
theorem nY :Tryz.prog.cellsOf 46=17:=by kernel_rfl
theorem sS : ∃f0 f1 f2 f3 f4 f5 f6 f7 f8:Field,Tryz.prog.underlying 46=some (.struct #[f0,f1,f2,f3,f4,f5,f6,f7,f8])∧(f0.type=3∧f1.type=3∧f2.type=9∧f3.type=9∧f4.type=43∧f5.type=43∧f6.type=44∧f7.type=3∧f8.type=3)∧(f0.offset=0∧f1.offset=1∧f2.offset=2∧f3.offset=3∧f4.offset=4∧f5.offset=9∧f6.offset=14∧f7.offset=15∧f8.offset=16):=
 ⟨_,_,_,_,_,_,_,_,_,Tryz.underlying46,⟨rfl,rfl,rfl,rfl,rfl,rfl,rfl,rfl,rfl⟩,⟨rfl,rfl,rfl,rfl,rfl,rfl,rfl,rfl,rfl⟩⟩
section
variable {H :Type} {enc:TypeId×Value→H} {W:World} {sp:Nat→Bool}
theorem tP {fuel:Nat}{cs:List Value}{x:DataW H×List MemPlace}(h:DataW.trod enc Tryz.prog W 0 sp true fuel 46 cs=some x)(hw: ∀n∈x.1.weights Tryz.prog 46,n≤reachBytes):
  ∃e:aU,cZ W (fun b=>b<W.heap.size) e cs.toArray:=by
 obtain⟨f0,f1,f2,f3,f4,f5,f6,f7,f8,hu,⟨t0,t1,t2,t3,t4,t5,t6,t7,t8⟩,⟨o0,o1,o2,o3,o4,o5,o6,o7,o8⟩⟩:=sS;obtain⟨xs,n,hfu,hx,hlen,hxl,hg⟩:=DataW.trod_struct hu h;rw[nY]at hlen
 match cs,hlen with
 | [c0,c1,c2,c3,c4,c5,c6,c7,c8,c9,c10,c11,c12,c13,c14,c15,c16],_=>
  match xs,hxl with
  | [y0,y1,y2,y3,y4,y5,y6,y7,y8],_=>
   have g0:=hg 0 f0 rfl;have g1:=hg 1 f1 rfl;have g2:=hg 2 f2 rfl;have g3:=hg 3 f3 rfl;have g4:=hg 4 f4 rfl;have g5:=hg 5 f5 rfl;have g6:=hg 6 f6 rfl;have g7:=hg 7 f7 rfl;have g8:=hg 8 f8 rfl;rw[t0,o0,cX]at g0;rw[t1,o1,cX]at g1;rw[t2,o2,fN]at g2;rw[t3,o3,fN]at g3;rw[t4,o4,gh]at g4;rw[t5,o5,gh]at g5;rw[t6,o6,pr]at g6;rw[t7,o7,cX]at g7;rw[t8,o8,cX]at g8;have hws:=hw;rw[hx]at hws;simp only[DataW.weights,hu,List.map_cons,List.map_nil,t0,t1,t2,t3,t4,t5,t6,t7,t8]at hws;simp only[DataW.weightsEach,List.mem_append]at hws;obtain⟨a0,e0,-,w0⟩:=DataW.trod_int Tryz.underlying3 g0;obtain⟨a1,e1,-,w1⟩:=DataW.trod_int Tryz.underlying3 g1;obtain⟨a2,e2,x2,w2⟩:=DataW.trod_string Tryz.underlying9 g2;obtain⟨a3,e3,x3,w3⟩:=DataW.trod_string Tryz.underlying9 g3;obtain⟨a7,e7,-,w7⟩:=DataW.trod_int Tryz.underlying3 g7;obtain⟨a8,e8,-,w8⟩:=DataW.trod_int Tryz.underlying3 g8;simp at e0 e1 e2 e3 e7 e8;subst e0 e1 e2 e3 e7 e8
   have hs2:a2.size≤140737488351232:=by
    have:=hws a2.data.toList.length (.inr (.inr (.inl (by rw[x2];simp[DataW.weights]))));simpa[reachBytes]using this
   have hs3:a3.size≤140737488351232:=by
    have:=hws a3.data.toList.length (.inr (.inr (.inr (.inl (by rw[x3];simp[DataW.weights])))));simpa[reachBytes]using this
   obtain⟨ti,hti⟩:=ky _ _ _ g4 (fun n hn=>hws n (.inr (.inr (.inr (.inr (.inl hn))))));obtain⟨td,htd⟩:=ky _ _ _ g5 (fun n hn=>hws n (.inr (.inr (.inr (.inr (.inr (.inl hn)))))));obtain⟨LA,lc,ds,e6,q1,q2,q3,q4,-⟩:=s7 g6 (fun n hn=>hws n (.inr (.inr (.inr (.inr (.inr (.inr (.inl hn))))))));simp at e6;subst e6;obtain⟨IA,ic,IA',ic',hvi,-⟩:=hti.shape;obtain⟨DA,dc,DA',dc',hvd,-⟩:=htd.shape;simp at hvi hvd;obtain⟨rfl,rfl,rfl,rfl,rfl⟩:=hvi;obtain⟨rfl,rfl,rfl,rfl,rfl⟩:=hvd;exact⟨⟨a0,a1,a2,a3,ti,td,ds,a7,a8⟩,IA,ic,IA',ic',DA,dc,DA',dc',LA,lc,rfl,hti,htd,q4,q2,fun h=>(q1 h).1,q3,in64_of_wf w0,in64_of_wf w1,in64_of_wf w7,in64_of_wf w8,hs2,hs3⟩
end
theorem cU :pG cZ 17 where
 size:=fun h=>by obtain⟨IA,ic,IA',ic',DA,dc,DA',dc',LA,lc,rfl,-⟩:=h;rfl
 keep:=fun h hk=>h.keep hk
 imp:=fun h hS=>h.imp hS
abbrev cp (w:World)(S:Nat→Prop)(A:Option Addr)(l:List aU):Prop:=cJ cZ 17 w S A l
theorem rT :Tryz.prog.cellsOf 22=1:=by kernel_rfl
theorem uN :Tryz.prog.bytesOf 46=248:=by kernel_rfl
def wR :aU:=⟨0,0,⟨#[]⟩,⟨#[]⟩,.mk 0 0 ⟨#[]⟩ [] [],.mk 0 0 ⟨#[]⟩ [] [],[],0,0⟩
section
variable {H :Type} {enc:TypeId×Value→H} {W:World} {sp:Nat→Bool}
theorem sE {fuel:Nat}{cs:List Value}{x:DataW H×List MemPlace}(h:DataW.trod enc Tryz.prog W 0 sp true fuel 22 cs=some x)(hw: ∀n∈x.1.weights Tryz.prog 22,n≤reachBytes):
  ∃A c,∃es:List aU,cs= [.slice A es.length c]∧(A=none→c=0∧es= [])∧es.length≤c∧es.length≤567493904640∧cp W (fun b=>b<W.heap.size) A es:=by
 rcases DataW.trod_slice Tryz.underlying22 h with ⟨e3,-⟩|⟨a,len,cap,elems,rest,m,hm,e3,x3,-,hlc,-,hel,hat,-,-⟩
 ·exact⟨none,0,[],e3,fun _=>⟨rfl,rfl⟩,by simp,by simp,fun h=>absurd h (by simp)⟩
 ·have hws:=hw;rw[x3]at hws;simp only[DataW.weights,Tryz.underlying22]at hws
  have hl:len≤567493904640:=by
   have h1:=hws _ (List.mem_cons_self ..);rw[uN]at h1;simp only[List.length_map,hel,reachBytes]at h1;omega
  have hT: ∀j,∃o:aU,j<len→ ∃cs:Array Value,(∀i v,cs[i]? =some v→W.cell? ((a.add (j * 17)).add i)=some v)∧cZ W (fun b=>b<W.heap.size) o cs:=by
   intro j;by_cases hj:j<len
   ·have h1:=hat j hj;rw[nY,List.getElem?_eq_getElem (by omega)]at h1;obtain⟨cs',hc,ht⟩:=Option.bind_eq_some_iff.1 h1;obtain⟨-,hcl,hcat⟩:=World.cells?_some hc;obtain⟨o,ho⟩:=tP ht (fun n hn=>hws n (List.mem_cons_of_mem _ (List.mem_append_left _ (cO (List.mem_map.2 ⟨_,List.getElem_mem (by omega),rfl⟩) n hn))));refine⟨o,fun _=>⟨cs'.toArray,fun i v hv=> ?_,ho⟩⟩;have hi:=(Array.getElem?_eq_some_iff.1 hv).1;have hi':i<cs'.length:=by simpa using hi
    rw[hcat i (by omega)];simpa using hv
   ·exact⟨wR,fun h=>absurd h hj⟩
  obtain⟨T,hT⟩:=Classical.skolem.1 hT;have hlm:((List.range len).map T).length=len:=by simp
  by_cases hp0:0<len
  ·obtain⟨b,off,spot⟩:=a;obtain⟨cs0,h0,hok0⟩:=hT 0 hp0;have hz:=cU.size hok0;have h00:=h0 0 cs0[0] (Array.getElem?_eq_getElem (by omega));obtain rfl:spot=none:=by simpa[Addr.add]using World.cell?_spot h00
   refine⟨some ⟨b,off,none⟩,cap,(List.range len).map T,by rw[hlm];exact e3,(fun h=>by cases h),by omega,by omega,fun hp=> ?_⟩;refine⟨b,off,rfl,?_,fun j hj=> ?_⟩
   ·rw[cA,cA]at h00;exact World.block_lt_of_cell? W _ h00
   ·rw[hlm]at hj;obtain⟨cs,h0,h1⟩:=hT j hj;refine⟨cs,fun i v hv=> ?_,by simpa using h1⟩;have:=h0 i v hv;rw[cA,cA]at this;exact this
  ·have hl0:len=0:=by omega
   subst hl0;exact⟨some a,cap,[],by simpa using e3,(fun h=>by cases h),by simp,by simp,fun h=>absurd h (by simp)⟩
end
theorem cp.at {w:World}{S:Nat→Prop}{A:Option Addr}{l:List aU}(h:cp w S A l)(k:Nat)(hk:k<l.length):
  ∃b off cs,A=some ⟨b,off,none⟩∧S b∧w.rangeAt b (off+k * 17) cs∧cs.length=17∧cZ w S l[k] cs.toArray:=by
 obtain⟨b,off,hA,hb,hc⟩:=h (by omega);obtain⟨cs,h1,h2⟩:=hc k hk;exact⟨b,off,cs.toList,hA,hb,fun j v hv=>h1 j v (by simpa using hv),by simpa using cU.size h2,by simpa using h2⟩
end Go.Proofs.YtgfidiocmiolpaaGreat
