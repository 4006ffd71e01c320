/- Whether each of a list of texts may be a name, and none is there twice. -/
import Derived.Test.YtgfidiocmiolpaaGreatKMath
import Derived.Maps.OwnSet
import Derived.StringKeys
import Derived.Laws.IdiomStrings
import Derived.Lib.ConvBytes
import Derived.BigQuiet
import Derived.Deep.QuietTactic
set_option maxHeartbeats 64000000
set_option maxRecDepth 100000
set_option linter.unusedVariables false
set_option linter.unusedSimpArgs false
namespace Go.Proofs.YtgfidiocmiolpaaGreat
open Lib (hid)
open Go.RowKit Go.Maps
theorem kM {a b:ByteArray}(h:a.data.toList=b.data.toList):a=b:=by
 rw[←Go.Joins.bytes_eta a,←Go.Joins.bytes_eta b,h]
theorem ef : ∀ {l:List ByteArray},aZ l=true↔(∀s∈l,bP s.data.toList=true)∧l.Nodup
 | []=>by simp[aZ]
 |s::r=>by
  simp only[aZ,Bool.and_eq_true,Bool.not_eq_true',ef (l:=r),List.mem_cons,forall_eq_or_imp,List.nodup_cons]
  have e:((r.map fun x=>x.data.toList).contains s.data.toList=false)↔s∉r:=by
   rw[←Bool.not_eq_true,List.contains_iff_mem,List.mem_map];constructor
   ·intro h hs;exact h ⟨s,hs,rfl⟩
   ·rintro h ⟨a,ha,he⟩;rw[kM he]at ha;exact h ha
  rw[e];constructor
  ·rintro⟨⟨a,b⟩,c,d⟩;exact⟨⟨a,c⟩,b,d⟩
  ·rintro⟨⟨a,c⟩,b,d⟩;exact⟨⟨a,b⟩,c,d⟩
def lB (s:ByteArray):Lit:= .string s.data.toList
def SdS (ns:List ByteArray)(k:Nat):DataW Unit:=setOf (.agg []) ((ns.take k).map lB)
theorem vi (ns:List ByteArray):SdS ns 0= .map []:=by simp[SdS,setOf]
theorem vQ (ns:List ByteArray)(k:Nat)(hk:k<ns.length):SdS ns (k+1)=(SdS ns k).put (lB ns[k]) (.agg []):=by
 unfold SdS;rw[List.take_add_one,List.getElem?_eq_getElem hk,List.map_append];exact setOf_snoc _ _ _
theorem vG (x:ByteArray)(l:List ByteArray):(l.map lB).any (fun y:Lit=>y.sameKey (lB x))=true↔x∈l:=by
 rw[List.any_map,List.any_eq_true];constructor
 ·rintro⟨y,hy,h⟩;have h2:y.data.toList=x.data.toList:=by simpa[lB,Lit.sameKey]using h
  rw[←kM h2];exact hy
 ·intro h;exact⟨x,h,by simp[lB,Lit.sameKey]⟩
theorem vz (ns:List ByteArray)(k:Nat)(x:ByteArray):Maps.has (SdS ns k) (lB x)=true↔x∈ns.take k:=by
 unfold SdS;rw[has_setOf _ _ _ (fun y hy=>by obtain⟨_,_,rfl⟩:=List.mem_map.1 hy;trivial),vG]
theorem wF :Keyed Tryz.prog 9:=string_keyed Tryz.underlying9
theorem wU (w:World):(zeroValue 183).run Tryz.prog w= .ok (.agg #[]) w:=by kernel_rfl
def qX (ns:List ByteArray)(k:Nat):Prop:=(∀i (h:i<ns.length),i<k→bP ns[i].data.toList=true)∧(ns.take k).Nodup
theorem uP {ns:List ByteArray}{k:Nat}(h:qX ns k)(hk:ns.length≤k):aZ ns=true:=by
 rw[ef];refine⟨fun s hs=> ?_,by have:=h.2;rwa[List.take_of_length_le hk]at this⟩;obtain⟨i,hi,rfl⟩:=List.mem_iff_getElem.1 hs;exact h.1 i hi (by omega)
theorem rU {ns:List ByteArray}{k:Nat}(h:qX ns k)(hk:k<ns.length)(h1:bP ns[k].data.toList=true)(h2:ns[k]∉ns.take k):qX ns (k+1):=by
 refine⟨fun i hi hik=> ?_,?_⟩
 ·by_cases e:i=k
  ·subst e;exact h1
  ·exact h.1 i hi (by omega)
 ·rw[List.take_add_one,List.getElem?_eq_getElem hk,List.nodup_append];refine⟨h.2,by simp,fun a ha b hb e=> ?_⟩;simp at hb;subst e;subst hb;exact h2 ha
theorem tZ {ns:List ByteArray}{k:Nat}(hk:k<ns.length)(h:bP ns[k].data.toList=false):false=aZ ns:=by
 symm;rw[←Bool.not_eq_true,ef];intro hh;rw[hh.1 _ (List.getElem_mem hk)]at h;cases h
theorem tv {ns:List ByteArray}{k:Nat}(hk:k<ns.length)(h:ns[k]∈ns.take k):false=aZ ns:=by
 symm;rw[←Bool.not_eq_true,ef];intro hh;obtain⟨i,hi,he⟩:=List.mem_iff_getElem.1 h;simp at hi;rw[List.getElem_take]at he;have:=(List.nodup_iff_pairwise_ne.1 hh.2);rw[List.pairwise_iff_getElem]at this;exact this i k (by omega) hk (by omega) he
theorem nE (S:Nat→Prop)(A:Option Addr)(c:Nat)(ns:List ByteArray)(w:World)(hS: ∀b,S b→b<w.heap.size)(h:au w S A ns)(hl:ns.length≤140737488351232):
  Calls Tryz.prog 170 #[.slice A ns.length c] w fun e w'=>e= .returned (.bool (aZ ns))∧Below w.heap.size w w':=by
 have hmm:= @run_makeMap Tryz.prog;have HH:=hid h;have HL:=hid hl;clear h hl;go_enter Tryz.func170,Tryz.ntmps170;go_wp2
 go_loopw [11] (fun i wr=> ∃k:Nat,k≤ns.length∧i= .int .i64 k∧wr.ownsMap Tryz.prog 9 unitElem w.heap.size k (SdS ns k)∧Hid (qX ns k∧Below w.heap.size w wr)) (fun i _=>ns.length - (intOf i).toNat)
 case atStart=>exact⟨0,Nat.zero_le _,rfl,by rw[vi];exact World.ownsMap_made _ _ _ _,⟨fun i _ h=>absurd h (by omega),by simp⟩,ae _⟩
 case round=>
  obtain⟨k,hk,rfl,hown,HI⟩:=hrel;by_cases hlt:k<ns.length
  ·obtain⟨b,off,rfl,hb,hcells⟩:=HH.out (by omega);obtain⟨hc0,hsz⟩:=hcells k hlt;have hcx:wr.cell? ⟨b,off+k,none⟩=some (.string ns[k]):=(HI.out.2.cell (p:=⟨b,off+k,none⟩) (hS b hb)).trans hc0;have hkey:keyOf Tryz.prog 9 (.string ns[k])=some (lB ns[k]):=Go.WideMaps.keyOf_string_mk Tryz.underlying9 (by unfold maxLen;omega);have HSZ:=hid hsz;have hHas:=vz ns k ns[k];have HBZ:=hid HI.out.2.size;clear hcells hc0 hsz;generalize hgs:ns[k]=s at *;have hlb:=HL.out
   go_wp2_with(first
    |(at_lookup;refine wpList_lookup_own_unit _ rfl _ _ 182 rfl 9 183 wF Tryz.underlying182 (wU _) w.heap.size k _ rfl hown _ _ rfl hkey ?_)
    |(go_at_call 193;refine(nT _ _ (by have:=HSZ.out;omega)).mono ?_;rintro e w' ⟨rfl,rfl⟩)
    |(at_mapUpdate;refine wpList_mapUpdate_own _ rfl _ _ _ 182 rfl 9 183 wF Tryz.underlying182 (unitElem (H:=Unit)) w.heap.size k _ rfl (hown.alloc _) (by have:=HL.out;unfold maxLen;omega) _ _ _ rfl rfl hkey _ [] unitElem_mk ?_;intro w1 hown1 hgrow1)
    |fail)
   ·have ht:Maps.has (SdS ns k) (lB s)=true:=by assumption
    go_ret;exact⟨aE (tv hlt (by rw[hgs];exact hHas.1 ht)),HI.out.2.alloc HBZ.out _⟩
   ·have hn:(!bP s.data.toList)=true:=by assumption
    go_ret;exact⟨aE (tZ hlt (by rw[hgs];simpa using hn)),HI.out.2.alloc HBZ.out _⟩
   ·have ht: ¬Maps.has (SdS ns k) (lB s)=true:=by assumption
    have hn:(!bP s.data.toList)=false:=by assumption
    have hb1:Below w.heap.size w w1:=(HI.out.2.alloc HBZ.out _).grown hgrow1 (by have:=HBZ.out;simp;omega) (fun j hj=>by cases hj;exact Nat.le_refl _);have hfin:=vQ ns k hlt;rw[hgs]at hfin
    go_roundw
    case rel=>exact⟨k+1,by omega,by go_num,by rw[hfin];exact hown1,rU HI.out.1 hlt (by rw[hgs];simpa using hn) (by rw[hgs];exact fun h=>ht (hHas.2 h)),hb1⟩
    case measure=>simp[intOf];omega
  ·go_wp2;go_ret;exact⟨aE (uP HI.out.1 (by omega)).symm,HI.out.2⟩
end Go.Proofs.YtgfidiocmiolpaaGreat
/- Which values may be: a value's own fields. -/
namespace Go.Proofs.YtgfidiocmiolpaaGreat
open Lib (hid)
open Go.RowKit
theorem LV.alloc {w:World}{S:Nat→Prop}{t:VT}{v:Value}(h:LV w S t v)(hS: ∀b,S b→b<w.heap.size)(o:Obj):LV (w.alloc o) S t v:=h.keep fun b hb=>Below.heap_alloc w o b (hS b hb)
theorem LV.below {w w':World}{S:Nat→Prop}{t:VT}{v:Value}(h:LV w S t v)(hS: ∀b,S b→b<w.heap.size)(hb:Below w.heap.size w w'):LV w' S t v:=h.keep fun b h=>hb.block b (hS b h)
theorem au.below {w w':World}{S:Nat→Prop}{A:Option Addr}{ns:List ByteArray}(h:au w S A ns)(hS: ∀b,S b→b<w.heap.size)(hb:Below w.heap.size w w'):au w' S A ns:=h.keep fun b h=>hb.block b (hS b h)
theorem dS {w:World}{S:Nat→Prop}(hS: ∀b,S b→b<w.heap.size)(o:Obj): ∀b,S b→b<(w.alloc o).heap.size:=fun b hb=>by have:=hS b hb;simp;omega
theorem cy {w w':World}{S:Nat→Prop}(hS: ∀b,S b→b<w.heap.size)(hb:Below w.heap.size w w'): ∀b,S b→b<w'.heap.size:=fun b h=>Nat.lt_of_lt_of_le (hS b h) hb.size
theorem aw {w w1 w2:World}(h:Below w.heap.size w w1)(h2:Below w1.heap.size w1 w2):Below w.heap.size w w2:=h.trans (h2.mono h.size)
theorem cM {a b:Bool}(h:a=b):Ending.returned (.bool a)= .returned (.bool b):=by rw[h]
theorem wT (i:Int)(s:ByteArray)(A A':Option Addr)(n c c':Nat)(ns:List ByteArray)(w:World):
  Calls Tryz.prog 147 #[.agg #[.int .i64 1,.int .i64 i,.string s,.slice A n c,.slice A' ns.length c']] w fun e w'=>e= .returned (.bool (aL 1 i s n ns))∧Below w.heap.size w w':=by
 have e0:aL 1 i s n ns=aL 1 i s n ns:=rfl
 conv at e0=>rhs;unfold aL
 simp only[Int.reduceEq,if_true,if_false,or_true,true_or,or_false,false_or]at e0;rw[e0];clear e0;go_enter Tryz.func147,Tryz.ntmps147;go_wp2_with(go_at_call 169;refine(dR _ _ _ _ _ _ _ _ _ _).mono ?_;rintro e w' ⟨rfl,hb⟩)
 all_goals
  go_ret
  first
   |exact⟨rfl,aw (ae _) hb⟩
   |exact⟨rfl,ae _⟩
   |exact⟨cM (by simp_all [aY,br]<;>(intros;omega)),aw (ae _) hb⟩
   |exact⟨cM (by simp_all [aY,br]<;>(intros;omega)),ae _⟩
theorem wN (i:Int)(s:ByteArray)(A A':Option Addr)(n c c':Nat)(ns:List ByteArray)(w:World):
  Calls Tryz.prog 147 #[.agg #[.int .i64 2,.int .i64 i,.string s,.slice A n c,.slice A' ns.length c']] w fun e w'=>e= .returned (.bool (aL 2 i s n ns))∧Below w.heap.size w w':=by
 have e0:aL 2 i s n ns=aL 2 i s n ns:=rfl
 conv at e0=>rhs;unfold aL
 simp only[Int.reduceEq,if_true,if_false,or_true,true_or,or_false,false_or]at e0;rw[e0];clear e0;go_enter Tryz.func147,Tryz.ntmps147;go_wp2_with(go_at_call 169;refine(dR _ _ _ _ _ _ _ _ _ _).mono ?_;rintro e w' ⟨rfl,hb⟩)
 all_goals
  go_ret
  first
   |exact⟨rfl,aw (ae _) hb⟩
   |exact⟨rfl,ae _⟩
   |exact⟨cM (by simp_all [aY,br]<;>(intros;omega)),aw (ae _) hb⟩
   |exact⟨cM (by simp_all [aY,br]<;>(intros;omega)),ae _⟩
theorem wP (i:Int)(s:ByteArray)(A A':Option Addr)(n c c':Nat)(ns:List ByteArray)(w:World):
  Calls Tryz.prog 147 #[.agg #[.int .i64 3,.int .i64 i,.string s,.slice A n c,.slice A' ns.length c']] w fun e w'=>e= .returned (.bool (aL 3 i s n ns))∧Below w.heap.size w w':=by
 have e0:aL 3 i s n ns=aL 3 i s n ns:=rfl
 conv at e0=>rhs;unfold aL
 simp only[Int.reduceEq,if_true,if_false,or_true,true_or,or_false,false_or]at e0;rw[e0];clear e0;go_enter Tryz.func147,Tryz.ntmps147;go_wp2_with(go_at_call 169;refine(dR _ _ _ _ _ _ _ _ _ _).mono ?_;rintro e w' ⟨rfl,hb⟩)
 all_goals
  go_ret
  first
   |exact⟨rfl,aw (ae _) hb⟩
   |exact⟨rfl,ae _⟩
   |exact⟨cM (by simp_all [aY,br]<;>(intros;omega)),aw (ae _) hb⟩
   |exact⟨cM (by simp_all [aY,br]<;>(intros;omega)),ae _⟩
theorem wY (i:Int)(s:ByteArray)(A A':Option Addr)(n c c':Nat)(ns:List ByteArray)(w:World):
  Calls Tryz.prog 147 #[.agg #[.int .i64 4,.int .i64 i,.string s,.slice A n c,.slice A' ns.length c']] w fun e w'=>e= .returned (.bool (aL 4 i s n ns))∧Below w.heap.size w w':=by
 have e0:aL 4 i s n ns=aL 4 i s n ns:=rfl
 conv at e0=>rhs;unfold aL
 simp only[Int.reduceEq,if_true,if_false,or_true,true_or,or_false,false_or]at e0;rw[e0];clear e0;go_enter Tryz.func147,Tryz.ntmps147;go_wp2_with(go_at_call 169;refine(dR _ _ _ _ _ _ _ _ _ _).mono ?_;rintro e w' ⟨rfl,hb⟩)
 all_goals
  go_ret
  first
   |exact⟨rfl,aw (ae _) hb⟩
   |exact⟨rfl,ae _⟩
   |exact⟨cM (by simp_all [aY,br]<;>(intros;omega)),aw (ae _) hb⟩
   |exact⟨cM (by simp_all [aY,br]<;>(intros;omega)),ae _⟩
theorem wM (i:Int)(s:ByteArray)(A A':Option Addr)(n c c':Nat)(ns:List ByteArray)(w:World):
  Calls Tryz.prog 147 #[.agg #[.int .i64 5,.int .i64 i,.string s,.slice A n c,.slice A' ns.length c']] w fun e w'=>e= .returned (.bool (aL 5 i s n ns))∧Below w.heap.size w w':=by
 have e0:aL 5 i s n ns=aL 5 i s n ns:=rfl
 conv at e0=>rhs;unfold aL
 simp only[Int.reduceEq,if_true,if_false,or_true,true_or,or_false,false_or]at e0;rw[e0];clear e0;go_enter Tryz.func147,Tryz.ntmps147;go_wp2_with(go_at_call 169;refine(dR _ _ _ _ _ _ _ _ _ _).mono ?_;rintro e w' ⟨rfl,hb⟩)
 all_goals
  go_ret
  first
   |exact⟨rfl,aw (ae _) hb⟩
   |exact⟨rfl,ae _⟩
   |exact⟨cM (by simp_all [aY,br]<;>(intros;omega)),aw (ae _) hb⟩
   |exact⟨cM (by simp_all [aY,br]<;>(intros;omega)),ae _⟩
theorem wK (i:Int)(s:ByteArray)(A A':Option Addr)(n c c':Nat)(ns:List ByteArray)(w:World):
  Calls Tryz.prog 147 #[.agg #[.int .i64 6,.int .i64 i,.string s,.slice A n c,.slice A' ns.length c']] w fun e w'=>e= .returned (.bool (aL 6 i s n ns))∧Below w.heap.size w w':=by
 have e0:aL 6 i s n ns=aL 6 i s n ns:=rfl
 conv at e0=>rhs;unfold aL
 simp only[Int.reduceEq,if_true,if_false,or_true,true_or,or_false,false_or]at e0;rw[e0];clear e0;go_enter Tryz.func147,Tryz.ntmps147;go_wp2_with(go_at_call 169;refine(dR _ _ _ _ _ _ _ _ _ _).mono ?_;rintro e w' ⟨rfl,hb⟩)
 all_goals
  go_ret
  first
   |exact⟨rfl,aw (ae _) hb⟩
   |exact⟨rfl,ae _⟩
   |exact⟨cM (by simp_all [aY,br]<;>(intros;omega)),aw (ae _) hb⟩
   |exact⟨cM (by simp_all [aY,br]<;>(intros;omega)),ae _⟩
theorem wJ (i:Int)(s:ByteArray)(A A':Option Addr)(n c c':Nat)(ns:List ByteArray)(w:World)(S:Nat→Prop)(hS: ∀b,S b→b<w.heap.size)(hN:au w S A' ns)(hl:ns.length≤140737488351232):
  Calls Tryz.prog 147 #[.agg #[.int .i64 7,.int .i64 i,.string s,.slice A n c,.slice A' ns.length c']] w fun e w'=>e= .returned (.bool (aL 7 i s n ns))∧Below w.heap.size w w':=by
 have e0:aL 7 i s n ns=aL 7 i s n ns:=rfl
 conv at e0=>rhs;unfold aL
 simp only[Int.reduceEq,if_true,if_false,or_true,true_or,or_false,false_or]at e0;rw[e0];clear e0;have HN:=hid (hN.below hS (ae (.cells #[.int .i64 7,.int .i64 i,.string s,.slice A n c,.slice A' ns.length c'] 43)));clear hN;go_enter Tryz.func147,Tryz.ntmps147;go_wp2_with(go_at_call 170;refine(nE S _ _ _ _ (dS hS _) (by simp_all;exact HN.out) hl).mono ?_;rintro e w' ⟨rfl,hb⟩)
 all_goals
  go_ret
  first
   |exact⟨rfl,aw (ae _) hb⟩
   |exact⟨rfl,ae _⟩
   |exact⟨cM (by simp_all [aY,br]<;>(intros;omega)),aw (ae _) hb⟩
   |exact⟨cM (by simp_all [aY,br]<;>(intros;omega)),ae _⟩
theorem wE (k i:Int)(s:ByteArray)(A A':Option Addr)(n c c':Nat)(ns:List ByteArray)(w:World)(hk: ¬(1≤k∧k≤7)):
  Calls Tryz.prog 147 #[.agg #[.int .i64 k,.int .i64 i,.string s,.slice A n c,.slice A' ns.length c']] w fun e w'=>e= .returned (.bool (aL k i s n ns))∧Below w.heap.size w w':=by
 have e0:aL k i s n ns=false:=by
  unfold aL;rw[if_neg (by omega),if_neg (by omega),if_neg (by omega),if_neg (by omega),if_neg (by omega),if_neg (by omega)]
 rw[e0];have b1:(k == 1)=false:=by simp;omega
 have b2:(k == 2)=false:=by simp;omega
 have b3:(k == 3)=false:=by simp;omega
 have b4:(k == 4)=false:=by simp;omega
 have b5:(k == 5)=false:=by simp;omega
 have b6:(k == 6)=false:=by simp;omega
 have b7:(k == 7)=false:=by simp;omega
 clear e0 hk;go_enter Tryz.func147,Tryz.ntmps147;go_wp2_with fail;go_ret;exact⟨rfl,ae _⟩
theorem tU (S:Nat→Prop)(t:VT)(v:Value)(w:World)(hS: ∀b,S b→b<w.heap.size)(h:LV w S t v):Calls Tryz.prog 147 #[v] w fun e w'=>e= .returned (.bool (lp t))∧Below w.heap.size w w':=by
 obtain⟨A,c,A',c',rfl,-,-,-,-,h5,h6,-⟩:=h.shape
 cases t with
 |mk k i s l ns=>
 show Calls Tryz.prog 147 #[.agg #[.int .i64 k,.int .i64 i,.string s,.slice A l.length c,.slice A' ns.length c']] w fun e w'=>e= .returned (.bool (aL k i s l.length ns))∧Below w.heap.size w w';by_cases hk:1≤k∧k≤7
 ·obtain rfl|rfl|rfl|rfl|rfl|rfl|rfl:k=1∨k=2∨k=3∨k=4∨k=5∨k=6∨k=7:=by omega
  ·exact wT _ _ _ _ _ _ _ _ _
  ·exact wN _ _ _ _ _ _ _ _ _
  ·exact wP _ _ _ _ _ _ _ _ _
  ·exact wY _ _ _ _ _ _ _ _ _
  ·exact wM _ _ _ _ _ _ _ _ _
  ·exact wK _ _ _ _ _ _ _ _ _
  ·exact wJ _ _ _ _ _ _ _ _ _ S hS h6 h5
 ·exact wE _ _ _ _ _ _ _ _ _ _ hk
theorem tS (s:ByteArray)(w1:World): ∃cap w2,(convert 9 23 (.string s)).run Tryz.prog w1= .ok (.slice (some ⟨w1.heap.size,0,none⟩) s.size cap) w2∧Below w1.heap.size w1 w2∧
  (∀j u,(aC s.data.toList)[j]? =some u→w2.cell? ((⟨w1.heap.size,0,none⟩:Addr).add j)=some u):=by
 refine⟨_,_,Lib.run_convert_string_bytes w1 9 23 5 s Tryz.underlying9 Tryz.underlying23 Tryz.underlying5,Go.Joins.below_bytesWorld _ _ _ _ (Nat.le_refl _),?_⟩;intro j u hu
 have hj:j<s.size:=by
  have:=(List.getElem?_eq_some_iff.1 hu).1;simpa[aC]using this
 have e:((⟨w1.heap.size,0,none⟩:Addr).add j)=⟨w1.heap.size,j,none⟩:=by unfold Addr.add;split<;>simp_all
 rw[e,Lib.bytesWorld_cell w1 _ s j hj];have hj':j<s.data.toList.length:=by simpa using hj
 simp only[aC,List.getElem?_map,List.getElem?_eq_getElem hj',Option.map_some,List.getD,Option.getD_some]at hu ⊢;exact hu
set_option maxRecDepth 1000000 in
theorem iW (s:ByteArray)(w:World)(hs:s.size≤140737488351232):
  Calls Tryz.prog 76 #[.string s] w (iN (txt s) w):=by
 obtain⟨i0,hi,hz0,hz1,hz2⟩:=info_parts Tryz.infoU8;have HS:=hid hs;clear hs;go_enter Tryz.func76,Tryz.ntmps76;go_wp2_with fail;refine(im s.size _ (by have:=HS.out;omega)).mono ?_;rintro e w1 ⟨v,rfl,hv,hb1⟩;obtain⟨cap,w2,hrun,hb2,hc2⟩:=tS s w1;have hv2:=hv.below hb2;have hb3:=lM hb1 hb2;have hsz:=hb3.size;have hgl:=al s.size;have hv':w2.ownsRow w.heap.size 5 1 v (grp s.size).length (aC (grp s.size)):=hv2;have HC:=hid hc2;clear hc2 hb1 hb2 hv hv2;go_wp2_with(at_builtin;go_must (refine wpList_append_own _ rfl _ _ 23 rfl w.heap.size 5 i0 (.int .u8 0) 1 1 Tryz.underlying23 hi hz0 hz1 hz2 rfl (by decide) _ _ _ rfl hv' ⟨w1.heap.size,0,none⟩ s.size cap (aC s.data.toList) rfl ?c0 ?c1 ?c2 ?c3 ?c4 ?c5 ?_));case c0=>simp[aC]
 case c1=>exact HC.out
 case c2=>exact ey _
 case c3=>have:=HS.out;unfold maxLen;omega
 case c4=>have:=HS.out;omega
 case c5=>exact hsz
 intro v3 w3 hown3 hg3 _;have hb4:Below w.heap.size w w3:=hb3.grown hg3 hsz (fun k hk=>(hv'.lt k hk).1)
 have hfin:aq w3 w.heap.size v3 (txt s):=by
  unfold aq txt;rw[df,List.length_append];have e:s.data.toList.length=s.size:=by simp
  rw[e];exact hown3
 clear hown3 hg3 hv' hrun;go_wp2_with fail;go_ret;exact⟨_,rfl,hfin,hb4⟩
/-! Sources. -/
def Src (w:World)(g:Nat)(s:ByteArray)(b:Bool):Prop:=w.heap[g]? =some (.cells #[.string s,.bool b] 102 (0,0))
theorem Src.lt {w:World}{g:Nat}{s:ByteArray}{b:Bool}(h:Src w g s b):g<w.heap.size:=(Array.getElem?_eq_some_iff.1 h).1
theorem Src.rest {w:World}{g:Nat}{s:ByteArray}{b:Bool}(h:Src w g s b):w.cell? ⟨g,0,none⟩=some (.string s):=Go.Joins.cell_of_block h 0
theorem Src.bad {w:World}{g:Nat}{s:ByteArray}{b:Bool}(h:Src w g s b):w.cell? ⟨g,1,none⟩=some (.bool b):=Go.Joins.cell_of_block h 1
theorem Src.free {w:World}{g:Nat}{s:ByteArray}{b:Bool}(h:Src w g s b)(i:Nat):w.frozen? ⟨g,i,none⟩=false:=Go.Joins.unfrozen_of_block h i
theorem iK (g:Nat)(s:ByteArray)(b:Bool)(w:World)(h:Src w g s b):Calls Tryz.prog 74 #[.pointer (some ⟨g,0,none⟩)] w fun e w'=>e= .returned (.bool b)∧w=w':=by
 have h1:=h.bad;clear h;go_enter Tryz.func74,Tryz.ntmps74;go_wp2;go_ret;exact⟨rfl,rfl⟩
abbrev aJ (w w':World)(g:Nat):Prop:=w.grownBy w' (some g)
theorem Src.set0 {w:World}{g:Nat}{s t:ByteArray}{b:Bool}(h:Src w g s b):Src (w.setCell ⟨g,0,none⟩ (.string t)) g t b:=Go.Joins.block_setCell (i:=0) h (.string t)
theorem Src.set1 {w:World}{g:Nat}{s:ByteArray}{b c:Bool}(h:Src w g s b):Src (w.setCell ⟨g,1,none⟩ (.bool c)) g s c:=Go.Joins.block_setCell (i:=1) h (.bool c)
theorem aJ.refl (w:World)(g:Nat):aJ w w g:=World.grownBy.refl w _
theorem aJ.set {a w:World}{g:Nat}(h:aJ a w g)(i:Nat)(u:Value):aJ a (w.setCell ⟨g,i,none⟩ u) g:=
 ⟨h.os,h.tape,h.output,by simpa[World.setCell]using h.size,fun k hk hne=>(Below.heap_setCell w _ u k (by rintro rfl;exact hne rfl)).trans (h.block k hk hne)⟩
theorem aJ.alloc {a w:World}{g:Nat}(h:aJ a w g)(o:Obj):aJ a (w.alloc o) g:=
 ⟨h.os,h.tape,h.output,Nat.le_trans h.size (by simp),fun k hk hne=>(Below.heap_alloc w o k (Nat.lt_of_lt_of_le hk h.size)).trans (h.block k hk hne)⟩
theorem aJ.trans {a b c:World}{g:Nat}(h:aJ a b g)(k:aJ b c g):aJ a c g:=
 ⟨k.os.trans h.os,k.tape.trans h.tape,k.output.trans h.output,Nat.le_trans h.size k.size,fun i hi hne=>(k.block i (Nat.lt_of_lt_of_le hi h.size) hne).trans (h.block i hi hne)⟩
theorem aJ.setNew {a w:World}{g:Nat}(h:aJ a w g){p:Addr}(hp:a.heap.size≤p.block)(u:Value):aJ a (w.setCell p u) g:=
 ⟨h.os,h.tape,h.output,by simpa[World.setCell]using h.size,fun k hk hne=>(Below.heap_setCell w _ u k (by omega)).trans (h.block k hk hne)⟩
theorem aJ.below {a w:World}{g B:Nat}(h:aJ a w g)(hB:B≤a.heap.size)(hg:B≤g):Below B a w:=
 ⟨h.os,h.tape,h.output,h.size,fun k hk=>h.block k (by omega) (by rintro⟨⟩;omega)⟩
theorem aJ.ofBelow {a w:World}{g:Nat}(h:Below a.heap.size a w):aJ a w g:=⟨h.os,h.tape,h.output,h.size,fun k hk _=>h.block k hk⟩
theorem jg (g:Nat)(s:ByteArray)(b:Bool)(w:World)(h:Src w g s b):Calls Tryz.prog 105 #[.pointer (some ⟨g,0,none⟩)] w fun e w'=>e= .returned (.tuple #[])∧Src w' g ByteArray.empty true∧aJ w w' g:=by
 have h1:=h.bad;have h0:=h.rest;have f0:=h.free 0;have f1:=h.free 1;have H:=hid h;clear h;go_enter Tryz.func105,Tryz.ntmps105;go_wp2
 go_end0
 exact⟨rfl,H.out.set0.set1,((aJ.refl w g).set _ _).set _ _⟩
theorem ot (g:Nat)(s:ByteArray)(b:Bool)(w:World)(h:Src w g s b):Calls Tryz.prog 33 #[.pointer (some ⟨g,0,none⟩)] w fun e w'=>e= .returned (.int .i64 (if b || !s.toList.isEmpty then 10 else 0))∧w=w':=by
 have h0:=h.rest;have H:=hid h;clear h;cases b
 ·cases hs:s.toList.isEmpty
  ·have hs2:s.toList≠[]:=by intro hh;simp[hh]at hs
   go_enter Tryz.func33,Tryz.ntmps33;go_wp2_with(go_at_call 74;refine(iK g s _ _ H.out).mono ?_;rintro e w' ⟨rfl,rfl⟩);go_ret;exact⟨rfl,rfl⟩
  ·go_enter Tryz.func33,Tryz.ntmps33;go_wp2_with(go_at_call 74;refine(iK g s _ _ H.out).mono ?_;rintro e w' ⟨rfl,rfl⟩);go_ret;exact⟨rfl,rfl⟩
 ·go_enter Tryz.func33,Tryz.ntmps33;go_wp2_with(go_at_call 74;refine(iK g s _ _ H.out).mono ?_;rintro e w' ⟨rfl,rfl⟩);go_ret;exact⟨rfl,rfl⟩
theorem un (v:Value)(s:ByteArray)(w:World)(hc:(convert 23 9 v).run Tryz.prog w= .ok (.string s) w):
  Calls Tryz.prog 31 #[v] w fun e w'=>e= .returned (.pointer (some ⟨w.heap.size,0,none⟩))∧Src w' w.heap.size s false∧Below w.heap.size w w':=by
 go_enter Tryz.func31,Tryz.ntmps31;go_wp2_with fail;go_ret;exact⟨rfl,heap_alloc_new w _,(Below.refl _ _).alloc (Nat.le_refl _) _⟩
theorem ll (fv:Value)(g:Nat)(s:ByteArray)(w:World)(h:Src w g s true):Calls Tryz.prog 103 #[.pointer (some ⟨g,0,none⟩),fv] w fun e w'=>e= .returned (.tuple #[])∧w=w':=by
 have H:=hid h;clear h;go_enter Tryz.func103,Tryz.ntmps103;go_wp2_with(go_at_call 74;refine(iK _ _ _ _ H.out).mono ?_;rintro e w' ⟨rfl,rfl⟩);refine bodyPost_ret (results_none rfl _ _ _) rfl ?_;exact⟨rfl,rfl⟩
def dp (k:Nat):Prop:= ∀(args:Array Value) (W:World),(callFunc k args).run Tryz.prog W= .ok (.enter k args) W
theorem jC :dp 104:=fun _ _=>by simp[callFunc,go_sem,Tryz.func104,Tryz.f104]
theorem jw :dp 108:=fun _ _=>by simp[callFunc,go_sem,Tryz.func108,Tryz.f108]
theorem lI :dp 124:=fun _ _=>by simp[callFunc,go_sem,Tryz.func124,Tryz.f124]
def wO (w1 w':World)(g:Nat)(s:ByteArray)(n:Nat):Prop:=aJ w1 w' g∧(n=0→Src w' g ByteArray.empty true)∧(0<n→Src w' g (s.extract n s.size) false)
theorem eW (k:Nat)(caps:Array Value)(g:Nat)(s:ByteArray)(n:Nat)(w:World)(R:World→Prop)(h:Src w g s false)(hn:n≤s.size)(hs:(s.size:Int)≤9223372036854775807)(hcf0:dp k)
  (hk:Calls Tryz.prog k (#[.string s]++caps) w fun e w'=>e= .returned (.int .i64 n)∧Src w' g s false∧R w'):
  Calls Tryz.prog 103 #[.pointer (some ⟨g,0,none⟩),.func (.func k) #[] caps] w fun e w'=>e= .returned (.tuple #[])∧ ∃w1,R w1∧wO w1 w' g s n:=by
 have h0:=h.rest;have H:=hid h;have HK:=hid hk;have hcf: ∀(args:Array Value) (W:World),(callFunc k args).run Tryz.prog W= .ok (.enter k args) W:=hcf0;clear h hk hcf0;go_enter Tryz.func103,Tryz.ntmps103;go_wp2_with(go_at_call 74;refine(iK g s _ _ H.out).mono ?_;rintro e w' ⟨rfl,rfl⟩);refine HK.out.mono ?_;rintro e w1 ⟨rfl,hsrc,hR⟩;have h1:=hsrc.rest;have f1:=hsrc.free 0;have HS:=hid hsrc;clear hsrc H HK hcf h0;by_cases hz:n=0
 ·subst hz;go_wp2_with(go_at_call 105;refine(jg g s _ _ HS.out).mono ?_;rintro e w2 ⟨rfl,hs2,ho2⟩);refine bodyPost_ret (results_none rfl _ _ _) rfl ?_;exact⟨rfl,_,hR,ho2,fun _=>hs2,fun h=>absurd h (by omega)⟩
 ·have hz2:((n:Int) == 0)=false:=by simp;omega
  go_wp2
  go_end0
  exact⟨rfl,_,hR,(aJ.refl _ g).set _ _,fun h=>absurd h hz,fun _=>HS.out.set0⟩
def nJ (s:ByteArray)(k acc:Nat):Prop:=acc<128 ^ k∧cu k acc (s.data.toList.drop k)=cu 0 0 s.data.toList
theorem wi (k:Nat):(2:Nat) ^ (7 * k)=128 ^ k:=by rw[Nat.pow_mul]
theorem rE (k:Nat)(h:k≤9):(128:Nat) ^ k≤9223372036854775808:=by
 have:(128:Nat) ^ k≤128 ^ 9:=Nat.pow_le_pow_right (by omega) h;have e9:(128:Nat) ^ 9=9223372036854775808:=by decide
 omega
theorem qE (c k:Nat)(hc:c<128)(h:k≤9)(h9:k=9→c≤1):c * 128 ^ k≤9223372036854775808:=by
 by_cases e:k=9
 ·subst e;have:=h9 rfl;have e9:(128:Nat) ^ 9=9223372036854775808:=by decide
  have:c * 128 ^ 9≤1 * 128 ^ 9:=Nat.mul_le_mul_right _ (by omega);omega
 ·have h2:=rE (k+1) (by omega);have e3:(128:Nat) ^ (k+1)=128 * 128 ^ k:=by rw[Nat.pow_succ];omega
  have:c * 128 ^ k≤128 * 128 ^ k:=Nat.mul_le_mul_right _ (by omega);omega
theorem vh (acc b k:Nat)(hacc:acc<128 ^ k)(h:k≤9)(h9:k=9→b % 128≤1):
  bits .or .u64 (acc:Int) (IntKind.u64.wrap ((b:Int) % 128 * 2 ^ (7 * k)))=((acc+b % 128 * 128 ^ k:Nat):Int):=by
 have hm:=qE (b % 128) k (by omega) h h9;have hp:=rE k h
 have e:IntKind.u64.wrap ((b:Int) % 128 * 2 ^ (7 * k))=((b % 128 * 128 ^ k:Nat):Int):=by
  have e1:((b:Int) % 128 * 2 ^ (7 * k))=((b % 128 * 128 ^ k:Nat):Int):=by
   rw[←wi];simp
  rw[e1,IntKind.wrap_u64];omega
 rw[e,u64_or_nat _ _ (by omega) (by omega),Nat.or_comm,nat_join (7 * k) _ _ (by rw[wi];exact Nat.mul_mod_left _ _) (by rw[wi];exact hacc)];omega
theorem uK {X Y:Int}{p q:Nat}(h1:X=(p:Int))(h2:Y=(q:Int)):
  Ending.returned (.tuple #[.int .u64 X,.int .i64 Y])= .returned (.tuple #[.int .u64 p,.int .i64 q]):=by rw[h1,h2]
theorem iJ (s:ByteArray)(k:Nat)(hk:k<s.size):s.data.toList.drop k=s[k]::s.data.toList.drop (k+1):=by
 rw[List.drop_eq_getElem_cons (by simpa using hk)];rfl
theorem wH {s:ByteArray}{k acc:Nat}(HG:nJ s k acc)(h10:k≤10)(hn: ¬(k<s.size∧k<10))(hle:k≤s.size):cu 0 0 s.data.toList=(0,0):=by
 rw[←HG.2];by_cases h:k<s.size
 ·rw[iJ s k h,cu,if_pos (by omega)]
 ·rw[List.drop_eq_nil_of_le (by simp;omega),cu]
theorem xk {s:ByteArray}{k acc:Nat}(HG:nJ s k acc)(hk:k<s.size)(h10:k<10)(h9:k=9)(hb:1<s[k].toNat):cu 0 0 s.data.toList=(0,0):=by
 rw[←HG.2,iJ s k hk,cu,if_neg (by omega),if_pos ⟨h9,hb⟩]
theorem ww {s:ByteArray}{k acc:Nat}(HG:nJ s k acc)(hk:k<s.size)(h10:k<10)(h0:0<k)(hb:s[k].toNat=0):cu 0 0 s.data.toList=(0,0):=by
 rw[←HG.2,iJ s k hk,cu,if_neg (by omega),if_neg (by omega),if_pos (by omega),if_pos ⟨hb,h0⟩]
theorem nt {s:ByteArray}{k acc:Nat}(HG:nJ s k acc)(hk:k<s.size)(h10:k<10)(h9:k=9→s[k].toNat≤1)(hb:s[k].toNat<128)(hz:s[k].toNat=0→ ¬0<k):
  bits .or .u64 (acc:Int) (IntKind.u64.wrap ((s[k].toNat:Int) % 128 * 2 ^ (7 * k)))=((cu 0 0 s.data.toList).1:Int)∧(k:Int)+1=((cu 0 0 s.data.toList).2:Int):=by
 rw[vh acc s[k].toNat k HG.1 (by omega) (by omega)];rw[←HG.2,iJ s k hk,cu,if_neg (by omega),if_neg (by omega),if_pos (by omega),if_neg (by omega)];rw[Nat.mod_eq_of_lt hb];exact⟨rfl,by simp⟩
theorem rN {s:ByteArray}{k acc:Nat}(HG:nJ s k acc)(hk:k<s.size)(h9:k=9)(hb:s[k].toNat≤1)(hz: ¬s[k].toNat=0):
  bits .or .u64 (acc:Int) ((s[k].toNat:Int) % 128 * 9223372036854775808)=((cu 0 0 s.data.toList).1:Int)∧(10:Int)=((cu 0 0 s.data.toList).2:Int):=by
 have h:=nt HG hk (by omega) (fun _=>hb) (by omega) (fun h=>absurd h hz)
 have e:IntKind.u64.wrap ((s[k].toNat:Int) % 128 * 2 ^ (7 * k))=(s[k].toNat:Int) % 128 * 9223372036854775808:=by
  have e1:(2:Int) ^ (7 * k)=9223372036854775808:=by rw[h9];rfl
  rw[e1,IntKind.wrap_u64];omega
 rw[e]at h;refine⟨h.1,?_⟩;rw[←h.2,h9];rfl
theorem qY {s:ByteArray}{k acc:Nat}(HG:nJ s k acc)(hk:k<s.size)(h0: ¬0<k)(hb:s[k].toNat=0):
  bits .or .u64 (acc:Int) (IntKind.u64.wrap 0)=((cu 0 0 s.data.toList).1:Int)∧(k:Int)+1=((cu 0 0 s.data.toList).2:Int):=by
 have h:=nt HG hk (by omega) (by omega) (by omega) (fun _=>h0);have e:((s[k].toNat:Int) % 128 * 2 ^ (7 * k))=0:=by rw[hb];simp
 rw[e]at h;exact h
theorem we {s:ByteArray}{k acc:Nat}(HG:nJ s k acc)(hk:k<s.size)(h10:k<10)(h9:k≠9)(hb:128≤s[k].toNat):
  ∃acc':Nat,bits .or .u64 (acc:Int) (IntKind.u64.wrap ((s[k].toNat:Int) % 128 * 2 ^ (7 * k)))=(acc':Int)∧nJ s (k+1) acc':=by
 have hlt:=UInt8.toNat_lt s[k];refine⟨_,vh acc s[k].toNat k HG.1 (by omega) (by omega),?_,?_⟩
 ·have e3:(128:Nat) ^ (k+1)=128 * 128 ^ k:=by rw[Nat.pow_succ];omega
  have:s[k].toNat % 128 * 128 ^ k≤127 * 128 ^ k:=Nat.mul_le_mul_right _ (by omega);have:=HG.1;omega
 ·rw[←HG.2,iJ s k hk]
  conv=>rhs;rw[cu,if_neg (by omega),if_neg (by omega),if_neg (by omega)]
  have e:s[k].toNat % 128=s[k].toNat - 128:=by omega
  rw[e]
set_option maxRecDepth 1000000 in
theorem vj (s:ByteArray)(w:World)(hs:(s.size:Int)≤9223372036854775807):
  Calls Tryz.prog 125 #[.string s] w fun e w'=>e= .returned (.tuple #[.int .u64 (cu 0 0 s.data.toList).1,.int .i64 (cu 0 0 s.data.toList).2])∧w=w':=by
 by_cases h10:10<s.size
 all_goals
  go_enter Tryz.func125,Tryz.ntmps125;go_wp2
  go_loop [4,10] (fun n i=> ∃(k acc:Nat),n= .int .u64 acc∧i= .int .i64 k∧k≤10∧k≤s.size∧nJ s k acc) (fun _ i=>10 - (intOf i).toNat)
  case atStart=>exact⟨0,0,rfl,rfl,by omega,by omega,by simp,by simp⟩
  case round=>
   obtain⟨k,acc,rfl,rfl,hL1,hL2,HG⟩:=hrel;by_cases hlt:k<s.size∧k<10
   ·obtain⟨hlt1,hlt2⟩:=hlt;go_wp2
    all_goals first
     |(go_ret2;exact⟨by rw[xk HG hlt1 hlt2 (by omega) (by omega)];rfl,rfl⟩)
     |(go_ret2;exact⟨by rw[ww HG hlt1 hlt2 (by omega) (by omega)];rfl,rfl⟩)
     |(go_ret2;exact⟨uK (nt HG hlt1 hlt2 (by omega) (by omega) (by omega)).1 (nt HG hlt1 hlt2 (by omega) (by omega) (by omega)).2,rfl⟩)
     |(go_ret2;exact⟨uK (rN HG hlt1 (by omega) (by omega) (by omega)).1 (rN HG hlt1 (by omega) (by omega) (by omega)).2,rfl⟩)
     |(go_ret2;exact⟨uK (qY HG hlt1 (by omega) (by omega)).1 (qY HG hlt1 (by omega) (by omega)).2,rfl⟩)
     |skip
    obtain⟨acc',ha1,ha2⟩:=we HG hlt1 hlt2 (by omega) (by omega)
    go_round
    case rel=>exact⟨k+1,acc',by rw[ha1],by go_num,by omega,by omega,ha2⟩
    case measure=>simp[intOf];omega
   ·have hz:=wH HG hL1 hlt hL2;have HZ:=hid hz;clear hz;go_wp2
    go_ret2
    exact⟨by rw[HZ.out];rfl,rfl⟩
def fF (s:ByteArray)(most:Nat):Nat×Nat:=if(cu 0 0 s.data.toList).2=0∨most<(cu 0 0 s.data.toList).1 then(0,0)else cu 0 0 s.data.toList
theorem qD (s:ByteArray)(most:Nat):(fF s most).2≤s.size:=by
 unfold fF;have:=(iI s.data.toList 0 0).1
 split
 ·exact Nat.zero_le _
 ·simpa using this
theorem mZ (s:ByteArray)(w:World)(x sz:Nat)(hs:(s.size:Int)≤9223372036854775807)(h:cu 0 0 s.data.toList=(x,sz)):
  Calls Tryz.prog 125 #[.string s] w fun e w'=>e= .returned (.tuple #[.int .u64 x,.int .i64 sz])∧w=w':=by
 have:=vj s w hs;rw[h]at this;exact this
def aO (w:World)(B:Nat)(v:Value):Prop:=w.cell? ⟨B,0,none⟩=some v∧w.frozen? ⟨B,0,none⟩=false∧B<w.heap.size
theorem aO.lt {w:World}{B:Nat}{v:Value}(h:aO w B v):B<w.heap.size:=h.2.2
theorem aO.new (w:World)(v:Value)(t:TypeId):aO (w.alloc (.cells #[v] t)) w.heap.size v:=by
 have hb:(w.alloc (.cells #[v] t)).heap[w.heap.size]? =some (.cells #[v] t (0,0)):=heap_alloc_new w _;exact⟨Go.Joins.cell_of_block hb 0,Go.Joins.unfrozen_of_block hb 0,by simp⟩
theorem aO.of {w w':World}{B:Nat}{v:Value}(h:aO w B v)(he:w'.heap[B]? =w.heap[B]?)(hs:w.heap.size≤w'.heap.size):aO w' B v:=
 ⟨(World.cell?_of_block (a:=⟨B,0,none⟩) he).trans h.1,(World.frozen?_of_block (a:=⟨B,0,none⟩) he).trans h.2.1,Nat.lt_of_lt_of_le h.2.2 hs⟩
theorem aO.alloc {w:World}{B:Nat}{v:Value}(h:aO w B v)(o:Obj):aO (w.alloc o) B v:=h.of (Below.heap_alloc w o B h.lt) (by simp)
theorem aO.only {w w':World}{B g:Nat}{v:Value}(h:aO w B v)(ho:aJ w w' g)(hne:B≠g):aO w' B v:=h.of (ho.block B h.lt (by rintro⟨⟩;exact hne rfl)) ho.size
theorem aO.set {w:World}{B:Nat}{v:Value}(h:aO w B v)(u:Value):aO (w.setCell ⟨B,0,none⟩ u) B u:=
 ⟨World.cell?_setCell_same _ _ _ h.1,(World.frozen?_setCell _ _ _ _).trans h.2.1,by simpa[World.setCell]using h.2.2⟩
theorem aO.far {w:World}{B:Nat}{v:Value}(h:aO w B v){p:Addr}(hne:B≠p.block)(u:Value):aO (w.setCell p u) B v:=h.of (Below.heap_setCell w p u B hne) (by simp[World.setCell])
theorem Src.alloc {w:World}{g:Nat}{s:ByteArray}{b:Bool}(h:Src w g s b)(o:Obj):Src (w.alloc o) g s b:=(Below.heap_alloc w o g h.lt).trans h
theorem Src.far {w:World}{g:Nat}{s:ByteArray}{b:Bool}(h:Src w g s b){p:Addr}(hne:g≠p.block)(u:Value):Src (w.setCell p u) g s b:=(Below.heap_setCell w p u g hne).trans h
/-! groups -/
theorem oU (s:ByteArray)(w:World)(Bm Bn:Nat)(most:Nat)(hs:(s.size:Int)≤9223372036854775807)(hm:aO w Bm (.int .u64 most))(hn:aO w Bn (.int .u64 0)):
  Calls Tryz.prog 124 #[.string s,.pointer (some ⟨Bm,0,none⟩),.pointer (some ⟨Bn,0,none⟩)] w fun e w'=>e= .returned (.int .i64 (fF s most).2)∧aO w' Bn (.int .u64 (fF s most).1)∧(w'=w∨ ∃u,w'=w.setCell ⟨Bn,0,none⟩ u):=by
 obtain⟨x,sz,hg⟩: ∃x sz,cu 0 0 s.data.toList=(x,sz):=⟨_,_,rfl⟩;have hr:fF s most=if sz=0∨most<x then(0,0)else(x,sz):=by unfold fF;rw[hg]
 have HG:=hid hg;have HR:=hid hr;have HN:=hid hn;have c1:=hm.1;have c2:=hn.1;have f2:=hn.2.1;clear hg hr hm hn;by_cases h0:sz=0
 ·go_enter Tryz.func124,Tryz.ntmps124;go_wp2_with(go_at_call 125;refine(mZ s _ x sz hs HG.out).mono ?_;rintro e w' ⟨rfl,rfl⟩);go_ret;have e:=HR.out;rw[if_pos (Or.inl h0)]at e;exact⟨by rw[e];rfl,by rw[e];exact HN.out,.inl rfl⟩
 ·have hz2:((sz:Int) == 0)=false:=by simp;omega
  by_cases h1:most<x
  ·go_enter Tryz.func124,Tryz.ntmps124;go_wp2_with(go_at_call 125;refine(mZ s _ x sz hs HG.out).mono ?_;rintro e w' ⟨rfl,rfl⟩);go_ret;have e:=HR.out;rw[if_pos (Or.inr h1)]at e;exact⟨by rw[e];rfl,by rw[e];exact HN.out,.inl rfl⟩
  ·go_enter Tryz.func124,Tryz.ntmps124;go_wp2_with(go_at_call 125;refine(mZ s _ x sz hs HG.out).mono ?_;rintro e w' ⟨rfl,rfl⟩);go_ret;have e:=HR.out;rw[if_neg (by omega)]at e;exact⟨by rw[e];rfl,by rw[e];exact HN.out.set _,.inr ⟨_,rfl⟩⟩
def vZ (w w':World)(g:Nat)(s:ByteArray)(n:Nat):Prop:=aJ w w' g∧(n=0→Src w' g ByteArray.empty true)∧(0<n→Src w' g (s.extract n s.size) false)
theorem oN (g:Nat)(s:ByteArray)(most:Nat)(w:World)(h:Src w g s false)(hs:(s.size:Int)≤9223372036854775807):
  Calls Tryz.prog 106 #[.pointer (some ⟨g,0,none⟩),.int .u64 most] w fun e w'=>e= .returned (.int .u64 (fF s most).1)∧vZ w w' g s (fF s most).2:=by
 have HM:aO ((w.alloc (.cells #[.int .u64 most] 106)).alloc (.cells #[.int .u64 0] 106)) w.heap.size (.int .u64 most):=(aO.new w _ _).alloc _
 have HN:aO ((w.alloc (.cells #[.int .u64 most] 106)).alloc (.cells #[.int .u64 0] 106)) (w.heap.size+1) (.int .u64 0):=by
  have:=aO.new (w.alloc (.cells #[.int .u64 most] 106)) (.int .u64 0) 106;simpa using this
 have HS:Src ((w.alloc (.cells #[.int .u64 most] 106)).alloc (.cells #[.int .u64 0] 106)) g s false:=(h.alloc _).alloc _;have hlt:=h.lt;have HM:=hid HM;have HN:=hid HN;have HS:=hid HS;clear h;go_enter Tryz.func106,Tryz.ntmps106;go_wp2_with fail;refine(eW 124 #[.pointer (some ⟨w.heap.size,0,none⟩),.pointer (some ⟨w.heap.size+1,0,none⟩)] g s (fF s most).2 _ (fun w1=>aO w1 (w.heap.size+1) (.int .u64 (fF s most).1)∧aJ w w1 g) HS.out (qD s most) hs lI ?_).mono ?_
 ·refine(oU s _ w.heap.size (w.heap.size+1) most hs HM.out HN.out).mono ?_;rintro e w' ⟨rfl,h1,h2⟩;refine⟨rfl,?_,h1,?_⟩
  ·rcases h2 with rfl|⟨u,rfl⟩
   ·exact HS.out
   ·exact HS.out.far (by simp;omega) u
  ·have ho:aJ w ((w.alloc (.cells #[.int .u64 most] 106)).alloc (.cells #[.int .u64 0] 106)) g:=((aJ.refl w g).alloc _).alloc _;rcases h2 with rfl|⟨u,rfl⟩
   ·exact ho
   ·exact ho.setNew (by simp) u
 ·rintro e w' ⟨rfl,w1,⟨hn,ho⟩,hmv⟩;have hn':=hn.only hmv.1 (by omega);have hc:=hn'.1;have HF:vZ w w' g s (fF s most).2:=⟨ho.trans hmv.1,hmv.2.1,hmv.2.2⟩;have HF:=hid HF;clear hn hn' hmv ho;go_wp2_with fail;go_ret;exact⟨rfl,HF.out⟩
theorem pX (g:Nat)(s:ByteArray)(M:Int)(w:World)(h:Src w g s true):
  Calls Tryz.prog 106 #[.pointer (some ⟨g,0,none⟩),.int .u64 M] w fun e w'=>e= .returned (.int .u64 0)∧aJ w w' g∧Src w' g s true:=by
 have HS:Src ((w.alloc (.cells #[.int .u64 M] 106)).alloc (.cells #[.int .u64 0] 106)) g s true:=(h.alloc _).alloc _;have HS:=hid HS;clear h;go_enter Tryz.func106,Tryz.ntmps106;go_wp2_with(go_at_call 103;refine(ll _ g s _ HS.out).mono ?_;rintro e w' ⟨rfl,rfl⟩);go_ret;exact⟨rfl,((aJ.refl w g).alloc _).alloc _,HS.out⟩
/-! Sources by what they have left: none, if they are bad. -/
def cm (w:World)(g:Nat):Option (List UInt8)→Prop
 |none=>Src w g ByteArray.empty true
 |some l=>Src w g ⟨l.toArray⟩ false∧l.length≤9223372036854775807
theorem cm.lt {w:World}{g:Nat}{st:Option (List UInt8)}(h:cm w g st):g<w.heap.size:=by
 cases st with
 |none=>exact Src.lt h
 |some l=>exact Src.lt h.1
theorem cm.of {w w':World}{g:Nat}{st:Option (List UInt8)}(h:cm w g st)(he:w'.heap[g]? =w.heap[g]?):cm w' g st:=by
 cases st with
 |none=>exact he.trans h
 |some l=>exact⟨he.trans h.1,h.2⟩
theorem cm.alloc {w:World}{g:Nat}{st:Option (List UInt8)}(h:cm w g st)(o:Obj):cm (w.alloc o) g st:=h.of (Below.heap_alloc w o g h.lt)
def rdN (most:Nat):Option (List UInt8)→Nat×Option (List UInt8)
 |none=>(0,none)
 |some l=>if(cu 0 0 l).2=0∨most<(cu 0 0 l).1 then(0,none)else((cu 0 0 l).1,some (l.drop (cu 0 0 l).2))
def av :Option (List UInt8)→Nat×Option (List UInt8)
 |none=>(0,none)
 |some []=>(0,none)
 |some (b::r)=>(b.toNat,some r)
def uE (st:Option (List UInt8)):Int×Option (List UInt8):=(zag (rdN 18446744073709551615 st).1,(rdN 18446744073709551615 st).2)
def mc (n:Int):Nat:=if n≤4611686018427387904 then n.toNat else 4611686018427387904
def aj (n:Int)(st:Option (List UInt8)):Nat×Option (List UInt8):=if n<0 then(0,none)else rdN (mc n) st
def bd (n:Int)(st:Option (List UInt8)):List UInt8×Option (List UInt8):=
 if(aj n st).1=0 then([],(aj n st).2)
 else match(aj n st).2 with
  |none=>([],none)
  |some r=>if r.length<(aj n st).1 then([],none)else(r.take (aj n st).1,some (r.drop (aj n st).1))
theorem fB (l:List UInt8)(n:Nat):(⟨l.toArray⟩:ByteArray).extract n (⟨l.toArray⟩:ByteArray).size=⟨(l.drop n).toArray⟩:=by
 have h:=Lib.extract_data (⟨l.toArray⟩:ByteArray) n (⟨l.toArray⟩:ByteArray).size
 have e:((⟨l.toArray⟩:ByteArray).extract n (⟨l.toArray⟩:ByteArray).size).data.toList=l.drop n:=by
  rw[h];have e2:(⟨l.toArray⟩:ByteArray).size=l.length:=by simp[ByteArray.size]
  rw[e2];exact List.take_of_length_le (by simp)
 rw[←Go.Joins.bytes_eta ((⟨l.toArray⟩:ByteArray).extract n _),e]
theorem dj (l:List UInt8):(⟨l.toArray⟩:ByteArray).size=l.length:=by simp[ByteArray.size]
theorem lj (g:Nat)(st:Option (List UInt8))(M:Int)(most:Nat)(w:World)(h:cm w g st)(hM:M=(most:Int)):
  Calls Tryz.prog 106 #[.pointer (some ⟨g,0,none⟩),.int .u64 M] w fun e w'=>e= .returned (.int .u64 (rdN most st).1)∧cm w' g (rdN most st).2∧aJ w w' g:=by
 subst hM
 cases st with
 |none=>exact(pX g _ _ w h).mono fun e w' ⟨he,ho,hs⟩=>⟨he,hs,ho⟩
 |some l=>
  refine(oN g _ most w h.1 (by rw[dj];have:=h.2;omega)).mono fun e w' ⟨he,ho,h0,h1⟩=> ?_;have hl:=h.2;unfold fF at he h0 h1;simp only[rdN]
  split
  ·next hc=>rw[if_pos hc]at he h0;exact⟨he,h0 rfl,ho⟩
  ·next hc=>
   rw[if_neg hc]at he h1;refine⟨he,⟨?_,?_⟩,ho⟩
   ·rw[←fB];exact h1 (by simp at hc ⊢;omega)
   ·simp;omega
theorem bz {x:VT}: ∀ {l:List VT},x∈l→ao x≤aN l
 | [],h=>by cases h
 |t::r,h=>by
  unfold aN;rcases List.mem_cons.1 h with rfl|h
  ·omega
  ·have:=bz h;omega
theorem aH (k i:Int)(s:ByteArray)(l:List VT)(ns:List ByteArray):ao (.mk k i s l ns)=aN l+1:=by unfold ao;rfl
theorem kO {σ:Type}{f:VT→Nat→σ→σ×Bool}{t:VT}{d:Nat}{st:σ}(h:(f t d st).2=false):cR f t d st=((f t d st).1,false):=by
 cases t;unfold cR;rw[if_neg (by rw[h];exact Bool.false_ne_true)]
theorem ir {σ:Type}{f:VT→Nat→σ→σ×Bool}{t:VT}{d:Nat}{st:σ}(h:(f t d st).2=true):cR f t d st=dD f t.items (d+1) (f t d st).1:=by
 cases t;unfold cR;rw[if_pos h];rfl
theorem kP {σ:Type}{f:VT→Nat→σ→σ×Bool}{t:VT}{r:List VT}{d:Nat}{st:σ}(h:(cR f t d st).2=false):dD f (t::r) d st=((cR f t d st).1,false):=by
 unfold dD;rw[if_neg (by rw[h];exact Bool.false_ne_true)]
theorem iT {σ:Type}{f:VT→Nat→σ→σ×Bool}{t:VT}{r:List VT}{d:Nat}{st:σ}(h:(cR f t d st).2=true):dD f (t::r) d st=dD f r d (cR f t d st).1:=by
 conv=>lhs;unfold dD
 rw[if_pos h]
theorem gw {σ:Type}{f:VT→Nat→σ→σ×Bool}{d:Nat}{st:σ}:dD f [] d st=(st,true):=by unfold dD;rfl
def rF {σ:Type}(k:Nat)(caps:Array Value)(S:Nat→Prop)(g:Nat)(Inv:World→σ→Prop)(f:VT→Nat→σ→σ×Bool)(top:Nat):Prop:=
 ∀(x:VT) (v:Value) (W:World) (lvl:Nat) (st:σ),g<W.heap.size→LV W S x v→lvl≤top→Inv W st→
  Calls Tryz.prog k (#[v,.int .i64 lvl]++caps) W fun e w'=>e= .returned (.bool (f x lvl st).2)∧Inv w' (f x lvl st).1∧aJ W w' g
theorem aJ.blk {w w':World}{g b:Nat}(h:aJ w w' g)(hb:b<w.heap.size)(hne:b≠g):w'.heap[b]? =w.heap[b]? :=h.block b hb (by rintro⟨⟩;exact hne rfl)
theorem kE {σ:Type}(k:Nat)(caps:Array Value)(S:Nat→Prop)(g:Nat)(Inv:World→σ→Prop)(f:VT→Nat→σ→σ×Bool)(top:Nat)(hcf0:dp k)(hSg: ∀b,S b→b<g)(htop:top≤4611686018427387904)
  (hInv: ∀W W' st,W'.heap[g]? =W.heap[g]? →Inv W st→Inv W' st) (hsee:rF k caps S g Inv f top):
  ∀(n:Nat) (t:VT) (v:Value) (w:World) (lvl:Nat) (st:σ),ao t≤n→LV w S t v→g<w.heap.size→lvl+ao t≤top→Inv w st→
   Calls Tryz.prog 145 #[v,.int .i64 lvl,.func (.func k) #[] caps] w fun e w'=>e= .returned (.bool (cR f t lvl st).2)∧Inv w' (cR f t lvl st).1∧aJ w w' g:=by
 intro n
 induction n with
 |zero=>intro t v w lvl st hd;cases t;rw[aH]at hd;omega
 |succ n ih=>
  intro t v w lvl st hd hv hg hlv hst;have hcf: ∀(args:Array Value) (W:World),(callFunc k args).run Tryz.prog W= .ok (.enter k args) W:=hcf0;have HV:=hid hv;obtain⟨A,c,A',c',rfl,-,-,-,hll,-,-,hit⟩:=hv.shape;have HIT:=hid hit;have HLL:=hid hll;have hlv2:lvl≤4611686018427387904:=by omega
  obtain⟨o,ho⟩: ∃o:Obj,o= .cells #[.int .i64 t.kind,.int .i64 t.num,.string t.text,.slice A t.items.length c,.slice A' t.names.length c'] 43:=⟨_,rfl⟩;have hI1:Inv (w.alloc o) st:=hInv _ _ _ (Below.heap_alloc w o g hg) hst;have hV1:LV (w.alloc o) S t _:=HV.out.alloc (fun b h=>Nat.lt_trans (hSg b h) hg) o;have SEE:=hid (hsee t _ (w.alloc o) lvl st (by simp;omega) hV1 (by omega) hI1);have HO:=hid ho;clear hv hit hll hst hI1 hV1 hsee hcf0;subst ho;generalize hR:cR f t lvl st=R;have HR:=hid hR;clear hR;go_enter Tryz.func145,Tryz.ntmps145;go_wp2_with fail;refine SEE.out.mono ?_;rintro e w1 ⟨rfl,hinv1,honly1⟩;have honly:aJ w w1 g:=((aJ.refl w g).alloc _).trans honly1;by_cases hf:(f t lvl st).2=true
  ·have hbx:w1.cell? ⟨w.heap.size,3,none⟩=some (.slice A t.items.length c):=by
    rw[World.cell?_of_block (a:=⟨w.heap.size,3,none⟩) (honly1.blk (b:=w.heap.size) (by simp) (by omega))];simp
   have HIN:=hid hinv1;have HON:=hid honly;have hsz:=honly.size;have HR1:Hid (dD f t.items (lvl+1) (f t lvl st).1=R):=by rw[←ir hf];exact HR
   clear HR;clear hinv1 honly1 honly SEE HO HV hlv2;go_wp2_with fail;clear hf;generalize (f t lvl st).1=st1 at *
   go_loopw [17] (fun i wr=> ∃(j:Nat) (sj:σ),i= .int .i64 j∧j≤t.items.length∧Hid (dD f (t.items.drop j) (lvl+1) sj=R∧Inv wr sj∧aJ w wr g)) (fun i _=>t.items.length - (intOf i).toNat)
   case atStart=>exact⟨0,st1,rfl,Nat.zero_le _,HR1.out,HIN.out,HON.out⟩
   case round=>
    obtain⟨j,sj,rfl,hj,HI⟩:=hrel;have hlb:=HLL.out;by_cases hlt:j<t.items.length
    ·obtain⟨b,off,rfl,hb,hl⟩:=HIT.out (by omega);obtain⟨c0,c1,c2,c3,c4,h0,h1,h2,h3,h4,hx⟩:=hl.at j hlt;obtain⟨A2,e2,A3,e3,hag,-⟩:=hx.shape;injection hag with hag
     injection hag with hag
     injection hag with g0 hag;injection hag with g1 hag;injection hag with g2 hag;injection hag with g3 hag;injection hag with g4 hag
     subst g0 g1 g2 g3 g4;have hbg:=hSg b hb;have hk:=HI.out.2.2.blk (b:=b) (by omega) (by omega);have hw: ∀o,wr.cell? ⟨b,o,none⟩=w.cell? ⟨b,o,none⟩:=fun o=>World.cell?_of_block (a:=⟨b,o,none⟩) hk;rw[←hw]at h0 h1 h2 h3 h4;have hx1:LV wr S t.items[j] (.agg #[.int .i64 t.items[j].kind,.int .i64 t.items[j].num,.string t.items[j].text,.slice A2 t.items[j].items.length e2,.slice A3 t.items[j].names.length e3]):=hx.keep fun b' hb'=>HI.out.2.2.blk (by have:=hSg b' hb';omega) (by have:=hSg b' hb';omega);have hgr:=Nat.lt_of_lt_of_le hg HI.out.2.2.size;have hx2:LV (wr.alloc (.cells #[.int .i64 t.items[j].kind,.int .i64 t.items[j].num,.string t.items[j].text,.slice A2 t.items[j].items.length e2,.slice A3 t.items[j].names.length e3] 43)) S t.items[j] (.agg #[.int .i64 t.items[j].kind,.int .i64 t.items[j].num,.string t.items[j].text,.slice A2 t.items[j].items.length e2,.slice A3 t.items[j].names.length e3]):=hx1.alloc (fun b' hb'=>Nat.lt_trans (hSg b' hb') hgr) _;have hdp:=bz (List.getElem_mem hlt);have hdt:ao t=aN t.items+1:=by cases t;exact aH _ _ _ _ _
     have IH:=hid (ih t.items[j] _ _ (lvl+1) sj (by omega) hx2 (by simp;omega) (by omega) (hInv _ _ _ (Below.heap_alloc wr _ g hgr) HI.out.2.1));have hdr:t.items.drop j=t.items[j]::t.items.drop (j+1):=List.drop_eq_getElem_cons hlt;have HDR:=hid hdr;have hcl:((lvl+1:Nat):Int)=(lvl:Int)+1:=by omega
     rw[hcl]at IH;clear hl hx hx1 hx2 hdr hdp hdt hcl hw hk;go_wp2_with fail;refine IH.out.mono ?_;rintro e w2 ⟨rfl,hinv2,honly2⟩;have hon2:aJ w w2 g:=(HI.out.2.2.alloc _).trans honly2;by_cases hf2:(cR f t.items[j] (lvl+1) sj).2=true
     ·have HI2:Hid (dD f (t.items.drop (j+1)) (lvl+1) (cR f t.items[j] (lvl+1) sj).1=R∧Inv w2 (cR f t.items[j] (lvl+1) sj).1∧aJ w w2 g):=by
       refine⟨?_,hinv2,hon2⟩;rw[←HI.out.1,HDR.out,iT hf2]
      clear hinv2 honly2 hon2 IH HI HDR;go_wp2_with fail
      go_roundw
      case rel=>exact⟨j+1,_,by go_num,by omega,HI2⟩
      case measure=>simp[intOf];omega
     ·have hfin:R=((cR f t.items[j] (lvl+1) sj).1,false):=by
       rw[←HI.out.1,HDR.out,kP (by simpa using hf2)]
      have HI2:=hid (And.intro hinv2 hon2);have HF:=hid hfin;clear hinv2 honly2 hon2 IH HI HDR hfin;go_wp2_with fail;go_ret;rw[HF.out];exact⟨rfl,HI2.out⟩
    ·have hfin:R=(sj,true):=by
      rw[←HI.out.1,List.drop_eq_nil_of_le (by omega),gw]
     have HF:=hid hfin;clear hfin;go_wp2_with fail;go_ret;rw[HF.out];exact⟨rfl,HI.out.2⟩
  ·have HF:Hid (R=((f t lvl st).1,false)):=by rw[←kO (by simpa using hf)];exact HR.out.symm
   have HI2:=hid (And.intro hinv1 honly);clear hinv1 honly1 honly SEE HO HV;go_wp2_with fail;go_ret;rw[HF.out];exact⟨rfl,HI2.out⟩
end Go.Proofs.YtgfidiocmiolpaaGreat
