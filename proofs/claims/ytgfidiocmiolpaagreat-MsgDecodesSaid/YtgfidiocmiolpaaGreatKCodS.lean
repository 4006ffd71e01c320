/- The decoder's parts: the closure that reads an item with its name. -/
import Derived.Test.YtgfidiocmiolpaaGreatKRegR
import Derived.Test.YtgfidiocmiolpaaGreatKRefZ
import Derived.Test.YtgfidiocmiolpaaGreatKMath
set_option maxHeartbeats 64000000
set_option maxRecDepth 100000
set_option linter.unusedVariables false
set_option linter.unusedSimpArgs false
namespace Go.Proofs.YtgfidiocmiolpaaGreat
open Lib (hid)
open Go.RowKit
def im (vb bb D:Nat)(w w':World):Prop:=w'.heap[vb]? =w.heap[vb]? ∧w'.heap[bb]? =w.heap[bb]? ∧w'.heap[D]? =w.heap[D]?
theorem im.refl (vb bb D:Nat)(w:World):im vb bb D w w:=⟨rfl,rfl,rfl⟩
theorem im.trans {vb bb D:Nat}{a b c:World}(h:im vb bb D a b)(k:im vb bb D b c):im vb bb D a c:=⟨k.1.trans h.1,k.2.1.trans h.2.1,k.2.2.trans h.2.2⟩
instance (vb bb D:Nat) (w:World):Inhabited (bW (im vb bb D) w):=⟨⟨w,im.refl vb bb D w⟩⟩
theorem aZ (n:Nat)(st:Option (List UInt8))(h:n≤4611686018427387904):(ae (n:Int) st).1≤n:=by
 unfold ae;rw[if_neg (by omega)];refine Nat.le_trans (sD _ _) ?_;unfold mc
 split<;>omega
theorem bD (n:Nat)(st:Option (List UInt8))(h:n≤4611686018427387904):(am (n:Int) st).1.length≤n:=by
 have h1:=aZ n st h;unfold am
 split
 ·simp
 ·split
  ·simp
  ·split
   ·simp
   ·simp;omega
def pZ (d g vb B:Nat)(k:Int)(least:Int)(st:Option (List UInt8))(ts:List VT)(ns:List ByteArray)(w:World)(e:Ending)(w':World):Prop:=
 ∃t st' VI VN S,e= .returned (.tuple #[])∧PV w' B vb k (ts++[t]) (ns++[⟨(am 32 st).1.toArray⟩]) VI VN S∧aN w' g st'∧Far vb g w w'∧Rel d least (am 32 st).2 t st'
theorem kC.named {d g vb B:Nat}{k least:Int}{st:Option (List UInt8)}{ts:List VT}{ns:List ByteArray}{w w1 w':World}{e:Ending}(hf:Far vb g w w1)
  (h:kC d g vb B k least (am 32 st).2 ts (ns++[⟨(am 32 st).1.toArray⟩]) w1 e w'):pZ d g vb B k least st ts ns w e w':=by
 obtain⟨t,st',VI,VN,S,h1,h2,h3,h4,h5⟩:=h;exact⟨t,st',VI,VN,S,h1,h2,h3,hf.trans h4,h5⟩
theorem oo {w:World}{B:Nat}{VI VN:Value}{n m:Nat}{xs ys:List Value}(h:w.ownsRow B 43 5 VI n xs)(k:w.ownsRow B 9 1 VN m ys)(q:Nat)(hq:VN.ownBlock=some q):VI.ownBlock≠some q:=by
 intro hq';rcases h.2 with ⟨rfl,-⟩|⟨g1,cap1,cur1,rfl,-,h1,-⟩
 ·simp[Value.ownBlock]at hq'
 ·rcases k.2 with ⟨rfl,-⟩|⟨g2,cap2,cur2,rfl,-,h2,-⟩
  ·simp[Value.ownBlock]at hq
  ·simp only[Value.ownBlock,Option.some.injEq]at hq hq';subst hq hq';rw[h1]at h2;simp at h2
theorem PV.named {g vb B:Nat}{k:Int}{ts:List VT}{ns:List ByteArray}{VI VN:Value}{S:Nat→Prop}{w w4:World}{p cap:Nat}{nm:ByteArray}(hpv:PV w B vb k ts ns VI VN S)(hg:g<vb)(hsz:w.heap.size≤w4.heap.size)
  (hold: ∀b,b<w.heap.size→b≠g→b≠vb→some b≠VN.ownBlock→w4.heap[b]? =w.heap[b]?) (hp:VN.ownBlock=some p∨w.heap.size≤p)
  (hown4:w4.ownsRow B 9 1 (.slice (some ⟨p,0,none⟩) (ns.length+1) cap) (ns.length+1) (ns.map Value.string++[.string nm]))
  (hbox:Box w4 vb (.int .i64 k) (.int .i64 0) (.string eS) VI (.slice (some ⟨p,0,none⟩) (ns.length+1) cap)) (hnm:nm.size≤140737488351232):PV w4 B vb k ts (ns++[nm]) VI (.slice (some ⟨p,0,none⟩) (ns.length+1) cap) S:=by
 have hvb:=hpv.vb;obtain⟨xs,hown,hitems⟩:=hpv.items;refine⟨hbox,?_,?_,?_,?_,hvb⟩
 ·refine hpv.items.keep (fun q hq=> ?_) fun b hb=> ?_
  ·have:=World.ownsRow.lt hown q hq;exact hold q this.2 (by omega) (by omega) fun e=>oo hown hpv.names q e.symm hq
  ·obtain⟨h1,h2,h3,h4⟩:=hpv.new b hb;exact hold b h2 (by omega) (by omega) h4
 ·simpa using hown4
 ·intro s hs;rcases List.mem_append.1 hs with hs|hs
  ·exact hpv.small s hs
  ·rw[List.mem_singleton.1 hs];exact hnm
 ·intro b hb;obtain⟨h1,h2,h3,h4⟩:=hpv.new b hb;refine⟨h1,by omega,h3,fun e=> ?_⟩;obtain rfl:b=p:=by simpa[Value.ownBlock]using e
  rcases hp with hp|hp
  ·exact h4 hp.symm
  ·omega
theorem ui (d:Nat)(hok:oZ d)(D g vb bb B:Nat)(k:Int)(least:Int)(st0:Option (List UInt8))(ts:List VT)(ns0:List ByteArray)(VI VN0:Value)(S:Nat→Prop)(w0:World)(hpv0:PV w0 B vb k ts ns0 VI VN0 S)(hpb0:PB w0 bb D)(hd0:Dec w0 D g least (8 - (d:Int)))(hs0:aN w0 g st0)
  (hDg:D≠g) (hbg:bb≠g) (hvg:vb≠g) (hlt:g<vb∧D<vb∧bb<vb) (hB0:B≤w0.heap.size) (hts:ts.length≤100000) (hns:ns0.length≤100000):
  Calls Tryz.prog 187 #[.pointer (some ⟨vb,0,none⟩),.pointer (some ⟨bb,0,none⟩)] w0 (pZ d g vb B k least st0 ts ns0 w0):=by
 have hVb:=hpv0.vb
 obtain⟨AN,cN,hVN⟩: ∃A c,VN0= .slice A ns0.length c:=by
  rcases hpv0.names.2 with ⟨rfl,h0⟩|⟨q,cap,cur,rfl,_⟩
  ·exact⟨none,0,by rw[h0]⟩
  ·exact⟨_,_,rfl⟩
 subst hVN;have k4: ∀p:bW (im vb bb D) w0.drew,p.u.cell? ⟨vb,4,none⟩=some (.slice AN ns0.length cN):=fun p=>(World.cell?_of_block (a:=⟨vb,4,none⟩) p.h.1).trans hpv0.box.c4;have kb: ∀p:bW (im vb bb D) w0.drew,p.u.cell? ⟨bb,0,none⟩=some (.pointer (some ⟨D,0,none⟩)):=fun p=>(World.cell?_of_block (a:=⟨bb,0,none⟩) p.h.2.1).trans (Go.Joins.cell_of_block hpb0 0);have kd: ∀p:bW (im vb bb D) w0.drew,p.u.cell? ⟨D,0,none⟩=some (.pointer (some ⟨g,0,none⟩)):=fun p=>(World.cell?_of_block (a:=⟨D,0,none⟩) p.h.2.2).trans (Go.Joins.cell_of_block hd0 0);have HPV0:=hid hpv0;go_enter Tryz.func187,Tryz.ntmps187;refine wp_seq ?_;refine bm (im vb bb D) (im.refl vb bb D) (fun _ _ _ h k=>h.trans k) [10] (.pure [0,1,2,3,4,5] (.step 6 (.step 7 (.step 8 (.free [9] (.tail [10])))))) (by kernel_rfl) (by kernel_rfl) (fun _ d _ _ _ h=>by cases d<;>exact h) ?_;refine dg ?_;simp only[atR];show wpQuiet _ _ _ _ [_,_,_,_,_,_] _;repeat(go_big_quiet_step (fail))
 refine wpQuiet_nil ?_;refine aT rfl (fun K hK=> ?_)
 go_simp
 refine(dr g st0 32 w0.drew (hs0.of rfl) (by omega)).mono ?_;rintro e w1 ⟨rfl,hs1,ho1⟩;have hB1:w0.heap.size≤w1.heap.size:=ho1.size;have hf1: ∀b,b<w0.heap.size→b≠g→w1.heap[b]? =w0.heap[b]? :=fun b hb hbg=>ho1.block b hb (fun e=>hbg (by cases e;rfl));refine hK _ _ (.inr ⟨hf1 vb (by omega) hvg,hf1 bb (by omega) hbg,hf1 D (by omega) hDg⟩) ?_;clear hK K;have hlen:=bD 32 st0 (by omega)
 have hlen2:(⟨(am 32 st0).1.toArray⟩:ByteArray).size≤140737488351232:=by
  show(am 32 st0).1.toArray.size≤_;rw[List.size_toArray];exact Nat.le_trans hlen (by omega)
 generalize hnm:(⟨(am 32 st0).1.toArray⟩:ByteArray)=nm at hlen2 ⊢;refine aT rfl (fun K hK=> ?_)
 go_simp
 have hvl:vb<w1.heap.size:=by omega
 have hbl:bb<w1.heap.size:=by omega
 have hDl:D<w1.heap.size:=by omega
 refine hK _ _ (.inr ⟨Below.heap_alloc w1 _ vb hvl,Below.heap_alloc w1 _ bb hbl,Below.heap_alloc w1 _ D hDl⟩) ?_;clear hK K;have hc1:=heap_alloc_new w1 (.cells #[.string nm] 9);have hc2: ∀b,b<w1.heap.size→(w1.alloc (.cells #[.string nm] 9)).heap[b]? =w1.heap[b]? :=Below.heap_alloc w1 _;have hc3:(w1.alloc (.cells #[.string nm] 9)).heap.size=w1.heap.size+1:=by simp
 have hc4:(w1.alloc (.cells #[.string nm] 9)).os=w0.os∧(w1.alloc (.cells #[.string nm] 9)).tape=w0.tape∧(w1.alloc (.cells #[.string nm] 9)).output=w0.output:=⟨ho1.os,ho1.tape,ho1.output⟩;generalize w1.alloc (.cells #[.string nm] 9)=wc at hc1 hc2 hc3 hc4 ⊢;have hnlt: ∀q,(Value.slice AN ns0.length cN).ownBlock=some q→B≤q∧q<w0.heap.size:=fun q hq=>World.ownsRow.lt hpv0.names q hq
 have hown1:=aM hpv0.names (w':=wc) fun q hq=>by
  have:=hnlt q hq;exact(hc2 q (by omega)).trans (hf1 q (by omega) (by omega))
 refine fB rfl rfl (fun K hK=> ?_);obtain⟨i0,hi,hi0,hi1,hi2⟩:=info_parts Tryz.infoStr;refine bo _ _ _ 41 rfl B 9 i0 _ 1 16 Tryz.underlying41 hi hi0 hi1 hi2 rfl (by decide) _ ns0.length (ns0.map Value.string) rfl hown1 ⟨w1.heap.size,0,none⟩ 1 1 [.string nm] rfl rfl ?_ ?_ (by unfold maxLen;omega) (by omega) (by omega) ?_
 ·intro j u hj;rw[add_at,Nat.zero_add];exact(Go.Joins.cell_of_block hc1 j).trans (by simpa using hj)
 ·intro u hu;simp only[List.mem_cons,List.not_mem_nil,or_false]at hu;rcases hu with rfl
  rfl
 intro v2 w2 hown2 hg2 hmv
 obtain⟨p,cap,rfl,hpB⟩: ∃p cap,v2= .slice (some ⟨p,0,none⟩) (ns0.length+1) cap∧B≤p:=by
  rcases hown2.2 with ⟨-,h0⟩|⟨p,cap,cur,h1,h2,-⟩
  ·omega
  ·exact⟨p,cap,h1,h2⟩
 have hpw:(Value.slice AN ns0.length cN).ownBlock=some p∨wc.heap.size≤p:=by
  rcases hmv with h|⟨q,h1,h2⟩
  ·exact .inl h.symm
  ·simp only[Value.ownBlock,Option.some.injEq]at h2;subst h2;exact .inr h1
 have hg2': ∀b,b<w0.heap.size→b≠g→some b≠(Value.slice AN ns0.length cN).ownBlock→w2.heap[b]? =w0.heap[b]? :=fun b hb hbg hne=>(hg2.block b (by omega) hne).trans ((hc2 b (by omega)).trans (hf1 b hb hbg))
 have hvno: ∀b,b<B→some b≠(Value.slice AN ns0.length cN).ownBlock:=fun b hb he=>by
  have:=(hnlt b he.symm).1;omega
 have hlow: ∀b,b<B→w2.heap[b]? =wc.heap[b]? :=fun b hb=>hg2.block b (by omega) (hvno b hb);refine hK _ _ (.inr ⟨hlow vb hVb,hlow bb (by omega),hlow D (by omega)⟩) ?_;clear hK K;have hwz:wc.heap.size≤w2.heap.size:=hg2.size;have hbx2:Box w2 vb (.int .i64 k) (.int .i64 0) (.string eS) VI (.slice AN ns0.length cN):=(hg2' vb (by omega) hvg (hvno vb hVb)).trans hpv0.box;have hs2:aN w2 g (am 32 st0).2:=hs1.of ((hlow g (by omega)).trans (hc2 g (by omega)));have hb2:PB w2 bb D:=(hg2' bb (by omega) hbg (hvno bb (by omega))).trans hpb0;have hd2:Dec w2 D g least (8 - (d:Int)):=(hg2' D (by omega) hDg (hvno D (by omega))).trans hd0;have ho2:w2.os=w0.os∧w2.tape=w0.tape∧w2.output=w0.output:=⟨hg2.os.trans hc4.1,hg2.tape.trans hc4.2.1,hg2.output.trans hc4.2.2⟩;have hpq:(Value.slice AN ns0.length cN).ownBlock=some p∨w0.heap.size≤p:=hpw.imp id fun h=>by omega
 have hz2:w0.heap.size≤w2.heap.size:=by omega
 have H2:=hid (And.intro hown2 (And.intro hg2' (And.intro hs2 (And.intro hb2 (And.intro hd2 ho2)))));clear hown2 hg2' hs2 hb2 hd2 ho2 hlow hpw hown1 hc1 hc2 hc3 hc4 hwz hg2 hmv hf1 hs1 ho1;refine dK ?_;simp only[atR];show wpQuiet _ _ _ _ [_] _;simp only[acR,Act.put];clear k4 kb kd;repeat(go_big_quiet_step (fail))
 refine wpQuiet_nil ?_;have b4:=hbx2.c4;have f4:=hbx2.free 4;refine dJ rfl (fun K hK=> ?_)
 go_simp
 refine hK _ _ ?_;clear hK K b4 f4;refine dt ?_;obtain⟨hown2,hg2',hs2,hb2,hd2,ho2⟩:=H2.out;have hvp:vb≠p:=by omega
 have hs3: ∀b,b≠vb→(w2.setCell ⟨vb,4,none⟩ (.slice (some ⟨p,0,none⟩) (ns0.length+1) cap)).heap[b]? =w2.heap[b]? :=fun b hb=>heap_setCell_other w2 ⟨vb,4,none⟩ b _ hb;have hz3:(w2.setCell ⟨vb,4,none⟩ (.slice (some ⟨p,0,none⟩) (ns0.length+1) cap)).heap.size=w2.heap.size:=by simp
 have hpv:PV (w2.setCell ⟨vb,4,none⟩ (.slice (some ⟨p,0,none⟩) (ns0.length+1) cap)) B vb k ts (ns0++[nm]) VI (.slice (some ⟨p,0,none⟩) (ns0.length+1) cap) S:=
  HPV0.out.named hlt.1 (by omega) (fun b hb hbg hbv hbN=>(hs3 b hbv).trans (hg2' b hb hbg hbN)) hpq (aM hown2 fun q hq=>hs3 q (by simp only[Value.ownBlock,Option.some.injEq]at hq;subst hq;exact fun e=>hvp e.symm)) (hbx2.set4 _) hlen2
 have hs:aN (w2.setCell ⟨vb,4,none⟩ (.slice (some ⟨p,0,none⟩) (ns0.length+1) cap)) g (am 32 st0).2:=hs2.of (hs3 g (by omega));have hpb:PB (w2.setCell ⟨vb,4,none⟩ (.slice (some ⟨p,0,none⟩) (ns0.length+1) cap)) bb D:=(hs3 bb (by omega)).trans hb2;have hd:Dec (w2.setCell ⟨vb,4,none⟩ (.slice (some ⟨p,0,none⟩) (ns0.length+1) cap)) D g least (8 - (d:Int)):=(hs3 D (by omega)).trans hd2;have hfar:Far vb g w0 (w2.setCell ⟨vb,4,none⟩ (.slice (some ⟨p,0,none⟩) (ns0.length+1) cap)):=⟨ho2.1,ho2.2.1,ho2.2.2,by omega,fun b hb hbg=>(hs3 b (by omega)).trans (hg2' b (by omega) hbg (hvno b (by omega)))⟩;have hB:B≤(w2.setCell ⟨vb,4,none⟩ (.slice (some ⟨p,0,none⟩) (ns0.length+1) cap)).heap.size:=by omega
 have HB:=hid (And.intro hpv (And.intro hs (And.intro hpb (And.intro hd (And.intro hfar hB)))));clear hpv hs hpb hd hfar hB hs3 hz3 hown2 hg2' hs2 hb2 hd2 ho2 hbx2 hpq hz2 H2 hvno hnlt;generalize w2.setCell ⟨vb,4,none⟩ (.slice (some ⟨p,0,none⟩) (ns0.length+1) cap)=w at HB ⊢;obtain⟨hpv,hs,hpb,hd,hfar0,hB⟩:=HB.out;clear HB
 have hfin: ∀w4,kC d g vb B k least (am 32 st0).2 ts (ns0++[nm]) w (.returned (.tuple #[])) w4→pZ d g vb B k least st0 ts ns0 w0 (.returned (.tuple #[])) w4:=fun w4 h=>by
  rw[←hnm]at h;exact h.named hfar0
 have HFIN:=hid hfin;clear hfin hfar0 hnm hlen hlen2 HPV0 hpv0 hs0 hpb0 hd0 hB0 hB1 hvl hbl hDl;generalize ns0++[nm]=ns at hpv HFIN ⊢;generalize (Value.slice (some ⟨p,0,none⟩) (ns0.length+1) cap)=VN at hpv ⊢;show Code.wp _ _ _ _ _;obtain⟨xs,hown,hitems⟩:=hpv.items
 obtain⟨AI,cI,hVI⟩: ∃A c,VI= .slice A ts.length c:=by
  rcases hown.2 with ⟨rfl,h0⟩|⟨q,cap,cur,rfl,_⟩
  ·exact⟨none,0,by rw[h0]⟩
  ·exact⟨_,_,rfl⟩
 subst hVI;have HPV:=hid hpv;have k3: ∀p:bW (du vb bb) w.drew,p.u.cell? ⟨vb,3,none⟩=some (.slice AI ts.length cI):=fun p=>(eC.1 p 3).trans hpv.box.c3;have kb: ∀p:bW (du vb bb) w.drew,p.u.cell? ⟨bb,0,none⟩=some (.pointer (some ⟨D,0,none⟩)):=fun p=>(eC.2 p 0).trans (Go.Joins.cell_of_block hpb 0);have K3:=hid k3;have KB:=hid kb;refine bm (du vb bb) (du.refl vb bb) (fun _ _ _ h k=>h.trans k) [8,10] (.pure [0,1,2,4] (.fork 3 (.step 5 (.step 6 (.free [7,9] (.fork 8 (.tail [10]) 10 (.tail [8]))))) 5 (.step 3 (.step 6 (.free [7,9] (.fork 8 (.tail [10]) 10 (.tail [8]))))))) (by kernel_rfl) (by kernel_rfl) (fun _ d _ _ _ h=>by cases d<;>exact h) ?_;refine dg ?_;simp only[atR];show wpQuiet _ _ _ _ [_,_,_,_] _;repeat(go_big_quiet_step (fail))
 refine wpQuiet_nil ?_;refine jo rfl rfl (fun K hK=> ?_) (fun K hK=> ?_)
 focus
  go_simp
  refine(hok D g least (am 32 st0).2 w.drew hd (hs.of rfl) hDg).mono ?_;rintro e w1 ⟨v,t,st',rfl,hs1,ho1,hv1,hrel⟩;obtain⟨T3,d3,T4,d4,rfl,-⟩:=hv1.shape;have hvb:w1.heap[vb]? =w.heap[vb]? :=ho1.block vb (Nat.lt_of_lt_of_le hVb hB) (by rintro⟨⟩;exact hvg rfl);have hbb:w1.heap[bb]? =w.heap[bb]? :=ho1.block bb hpb.lt (by rintro⟨⟩;exact hbg rfl);refine hK _ _ (.inr ⟨hvb,hbb⟩) ?_;clear hK K;refine aT rfl (fun K hK=> ?_)
  go_simp
  have hz1:w.heap.size≤w1.heap.size:=ho1.size;have hvl:vb<w1.heap.size:=by omega
  have hbl:bb<w1.heap.size:=by omega
  refine hK _ _ (.inr ⟨Below.heap_alloc w1 _ vb hvl,Below.heap_alloc w1 _ bb hbl⟩) ?_;clear hK K;have hc1:=heap_alloc_new w1 (.cells #[.int .i64 0,.int .i64 0,.string ⟨#[]⟩,.slice none 0 0,.slice none 0 0] 43);have hc2: ∀b,b<w1.heap.size→(w1.alloc (.cells #[.int .i64 0,.int .i64 0,.string ⟨#[]⟩,.slice none 0 0,.slice none 0 0] 43)).heap[b]? =w1.heap[b]? :=Below.heap_alloc w1 _;have hc3:(w1.alloc (.cells #[.int .i64 0,.int .i64 0,.string ⟨#[]⟩,.slice none 0 0,.slice none 0 0] 43)).heap.size=w1.heap.size+1:=by simp
  have hc4:(w1.alloc (.cells #[.int .i64 0,.int .i64 0,.string ⟨#[]⟩,.slice none 0 0,.slice none 0 0] 43)).os=w.os∧(w1.alloc (.cells #[.int .i64 0,.int .i64 0,.string ⟨#[]⟩,.slice none 0 0,.slice none 0 0] 43)).tape=w.tape∧(w1.alloc (.cells #[.int .i64 0,.int .i64 0,.string ⟨#[]⟩,.slice none 0 0,.slice none 0 0] 43)).output=w.output:=⟨ho1.os,ho1.tape,ho1.output⟩;generalize w1.alloc (.cells #[.int .i64 0,.int .i64 0,.string ⟨#[]⟩,.slice none 0 0,.slice none 0 0] 43)=wc at hc1 hc2 hc3 hc4 ⊢;have hzw:w.heap.size≤wc.heap.size:=by omega
  have hfar: ∀b,b<w.heap.size→b≠g→wc.heap[b]? =w.heap[b]? :=fun b hb hbg=>(hc2 b (by omega)).trans (ho1.block b hb (fun e=>hbg (by cases e;rfl)));have hLV:=(hv1.keep (w':=wc) fun b hb=>hc2 b hb.2).imp (S':=dB w.heap.size wc) fun b hb=>⟨hb.1,by have:=hb.2;omega⟩;have hsc:aN wc g st':=hs1.of (hc2 g (by omega));have hvc:wc.heap[vb]? =w.heap[vb]? :=(hc2 vb hvl).trans hvb;have hbc:wc.heap[bb]? =w.heap[bb]? :=(hc2 bb hbl).trans hbb;clear hc2 hc3 hvb hbb hvl hbl hz1 hv1 hs1;generalize w1.heap.size=z at hc1 ⊢;clear ho1 w1
 rotate_left
 focus
  go_simp
  have hz0:(w.alloc (.cells #[.int .i64 0,.int .i64 0,.string ⟨#[]⟩,.slice none 0 0,.slice none 0 0] 43)).drew.heap.size=w.heap.size+1:=by show(w.alloc _).heap.size=_;simp
  have hvl:vb<w.heap.size:=by omega
  have hbl:bb<w.heap.size:=by omega
  refine hK _ _ (.inr ⟨Below.heap_alloc w _ vb hvl,Below.heap_alloc w _ bb hbl⟩) ?_;clear hK K;have hc1:((w.alloc (.cells #[.int .i64 0,.int .i64 0,.string ⟨#[]⟩,.slice none 0 0,.slice none 0 0] 43)).drew).heap[w.heap.size]? =some (.cells #[.int .i64 0,.int .i64 0,.string ⟨#[]⟩,.slice none 0 0,.slice none 0 0] 43):=heap_alloc_new w (.cells #[.int .i64 0,.int .i64 0,.string ⟨#[]⟩,.slice none 0 0,.slice none 0 0] 43);have hc2: ∀b,b<w.heap.size→(w.alloc (.cells #[.int .i64 0,.int .i64 0,.string ⟨#[]⟩,.slice none 0 0,.slice none 0 0] 43)).drew.heap[b]? =w.heap[b]? :=Below.heap_alloc w _;have hc4:(w.alloc (.cells #[.int .i64 0,.int .i64 0,.string ⟨#[]⟩,.slice none 0 0,.slice none 0 0] 43)).drew.os=w.os∧(w.alloc (.cells #[.int .i64 0,.int .i64 0,.string ⟨#[]⟩,.slice none 0 0,.slice none 0 0] 43)).drew.tape=w.tape∧(w.alloc (.cells #[.int .i64 0,.int .i64 0,.string ⟨#[]⟩,.slice none 0 0,.slice none 0 0] 43)).drew.output=w.output:=⟨rfl,rfl,rfl⟩;generalize (w.alloc (.cells #[.int .i64 0,.int .i64 0,.string ⟨#[]⟩,.slice none 0 0,.slice none 0 0] 43)).drew=wa at hz0 hc1 hc2 hc4 ⊢;have hgl:g<w.heap.size:=by omega
  have hDl:D<w.heap.size:=by omega
  have kb2:wa.cell? ⟨bb,0,none⟩=some (.pointer (some ⟨D,0,none⟩)):=(World.cell?_of_block (a:=⟨bb,0,none⟩) (hc2 bb hbl)).trans (Go.Joins.cell_of_block hpb 0);refine aT rfl (fun K hK=> ?_)
  go_simp
  refine(hok D g least (am 32 st0).2 wa ((hc2 D hDl).trans hd) (hs.of (hc2 g hgl)) hDg).mono ?_;rintro e wc ⟨v,t,st',rfl,hsc,ho1,hv1,hrel⟩;obtain⟨T3,d3,T4,d4,rfl,-⟩:=hv1.shape;have hvb:wc.heap[vb]? =wa.heap[vb]? :=ho1.block vb (by omega) (by rintro⟨⟩;exact hvg rfl);have hbb:wc.heap[bb]? =wa.heap[bb]? :=ho1.block bb (by omega) (by rintro⟨⟩;exact hbg rfl);refine hK _ _ (.inr ⟨hvb,hbb⟩) ?_;clear hK K;have hzs:wa.heap.size≤wc.heap.size:=ho1.size;have hzw:w.heap.size≤wc.heap.size:=by omega
  replace hc4:wc.os=w.os∧wc.tape=w.tape∧wc.output=w.output:=⟨ho1.os.trans hc4.1,ho1.tape.trans hc4.2.1,ho1.output.trans hc4.2.2⟩;have hfar: ∀b,b<w.heap.size→b≠g→wc.heap[b]? =w.heap[b]? :=fun b hb hbg=>(ho1.block b (by omega) (fun e=>hbg (by cases e;rfl))).trans (hc2 b hb);have hLV:=hv1.imp (S':=dB w.heap.size wc) fun b hb=>⟨by have:=hb.1;omega,hb.2⟩;have hvc:wc.heap[vb]? =w.heap[vb]? :=hvb.trans (hc2 vb hvl);have hbc:wc.heap[bb]? =w.heap[bb]? :=hbb.trans (hc2 bb hbl);replace hc1:=(ho1.block w.heap.size (by omega) (by rintro⟨⟩;omega)).trans hc1;clear hc2 hz0 hvb hbb hvl hbl hv1 hzs kb2 hgl hDl;generalize w.heap.size=z at hc1 ⊢;clear ho1 wa
 all_goals
  refine fB rfl rfl (fun K hK=> ?_);obtain⟨i0,hi,hi0,hi1,hi2⟩:=info_parts Tryz.infoVal;have hAIlt: ∀q,(Value.slice AI ts.length cI).ownBlock=some q→B≤q∧q<w.heap.size:=fun q hq=>World.ownsRow.lt hown q hq;have hown1:=aM hown (w':=wc) fun q hq=>hfar q (hAIlt q hq).2 (by have:=(hAIlt q hq).1;omega);refine bo _ _ _ 40 rfl B 43 i0 _ 5 80 Tryz.underlying40 hi hi0 hi1 hi2 rfl (by decide) _ ts.length xs rfl hown1 ⟨z,0,none⟩ 1 1 [.int .i64 0,.int .i64 0,.string ⟨#[]⟩,.slice none 0 0,.slice none 0 0] rfl rfl ?_ ?_ (by unfold maxLen;omega) (by omega) (by omega) ?_
  ·intro j u hj;rw[add_at,Nat.zero_add];exact(Go.Joins.cell_of_block hc1 j).trans (by simpa using hj)
  ·intro u hu;simp only[List.mem_cons,List.not_mem_nil,or_false]at hu;rcases hu with rfl|rfl|rfl|rfl|rfl<;>rfl
  intro v2 w2 hown2 hg2 hmv
  obtain⟨p,cap,rfl,hpB⟩: ∃p cap,v2= .slice (some ⟨p,0,none⟩) (ts.length+1) cap∧B≤p:=by
   rcases hown2.2 with ⟨-,h0⟩|⟨p,cap,cur,h1,h2,-⟩
   ·omega
   ·exact⟨p,cap,h1,h2⟩
  have hg2': ∀b,b<wc.heap.size→some b≠(Value.slice AI ts.length cI).ownBlock→w2.heap[b]? =wc.heap[b]? :=fun b hb hne=>hg2.block b hb hne
  have hpw:(Value.slice AI ts.length cI).ownBlock=some p∨wc.heap.size≤p:=by
   rcases hmv with h|⟨q,h1,h2⟩
   ·exact .inl h.symm
   ·simp only[Value.ownBlock,Option.some.injEq]at h2;subst h2;exact .inr h1
  have hwz:wc.heap.size≤w2.heap.size:=hg2.size
  have hvno: ∀b,b<B→some b≠(Value.slice AI ts.length cI).ownBlock:=fun b hb he=>by
   have:=(hAIlt b he.symm).1;omega
  have hvb2:w2.heap[vb]? =wc.heap[vb]? :=hg2' vb (by omega) (hvno vb hVb);have hbb2:w2.heap[bb]? =wc.heap[bb]? :=hg2' bb (by omega) (hvno bb (by omega));refine hK _ _ (.inr ⟨hvb2,hbb2⟩) ?_;clear hK K;have hvp:vb≠p:=by omega
  have hend: ∀w4:World,(∀b,b≠p→b≠vb→w4.heap[b]? =w2.heap[b]?)→w4.os=w2.os→w4.tape=w2.tape→w4.output=w2.output→w4.heap.size=w2.heap.size→
    w4.ownsRow B 43 5 (.slice (some ⟨p,0,none⟩) (ts.length+1) cap) (ts.length+1) (xs++[.int .i64 t.kind,.int .i64 t.num,.string t.text,.slice T3 t.items.length d3,.slice T4 t.names.length d4])→
    Box w4 vb (.int .i64 k) (.int .i64 0) (.string eS) (.slice (some ⟨p,0,none⟩) (ts.length+1) cap) VN→kC d g vb B k least (am 32 st0).2 ts ns w (.returned (.tuple #[])) w4:=by
   intro w4 hf h1 h2 h3 h4 h5 h6;refine qz (xs:=xs) HPV.out hown hitems hlt.1 (h1.trans (hg2.os.trans hc4.1)) (h2.trans (hg2.tape.trans hc4.2.1)) (h3.trans (hg2.output.trans hc4.2.2)) (by omega) ?_ ?_ h5 h6 ?_ ?_ hrel hB
   ·intro b hb hbg hbv hbI
    have hbp:b≠p:=by
     rintro rfl;rcases hpw with h|h
     ·exact hbI h.symm
     ·omega
    rw[hf b hbp hbv,hg2' b (by omega) hbI];exact hfar b hb hbg
   ·rcases hpw with h|h
    ·exact .inl h
    ·exact .inr (by omega)
   ·have hnp: ∀b,dB w.heap.size wc b→b≠p:=by
     rintro b ⟨hb1,hb2⟩ rfl;rcases hpw with h|h
     ·have:=hAIlt b h;omega
     ·omega
    refine(hLV.keep (w':=w4) fun b hb=> ?_).imp fun b hb=>⟨hb.1,?_,hnp b hb⟩
    ·have hb1:w.heap.size≤b:=hb.1;rw[hf b (hnp b hb) (by omega),hg2' b hb.2 (fun e=>by have:=hAIlt b e.symm;omega)]
    ·have:=hb.2;omega
   ·refine hsc.of ?_;rw[hf g (by omega) (by omega),hg2' g (by omega) (hvno g (by omega))]
  have HEND:=hid hend;have HOWN:=hid hown2;have HBX:=hid (show Box w2 vb (.int .i64 k) (.int .i64 0) (.string eS) (.slice AI ts.length cI) VN from(hvb2.trans hvc).trans hpv.box);refine dK ?_;simp only[atR];show wpQuiet _ _ _ _ [_,_] _;simp only[acR,Act.put];have hlt1:(ts.length:Int)<(ts.length:Int)+1:=by omega
  have hxl:xs.length=ts.length * 5:=hown.1;clear hend hown2 hown1 hg2' hvb2 hbb2 hg2 hmv K3 KB k3 kb hLV hsc hvc hbc hc1 hc4 hfar hpw hwz hzw hAIlt hvno hitems;repeat(go_big_quiet_step (fail))
  refine wpQuiet_nil ?_;refine jo rfl rfl (fun K hK=> ?_) (fun K hK=> ?_)
  ·have hcell:=fun i (hi:i<(ts.length+1) * 5)=>World.ownsRow.cellAt HOWN.out i hi;have q0:w2.cell? ⟨p,ts.length * 5,none⟩=some (.int .i64 0):=(hcell _ (by omega)).trans (by rw[←hxl,List.getElem?_append_right (Nat.le_refl _)];simp);have q1:w2.cell? ⟨p,ts.length * 5+1,none⟩=some (.int .i64 0):=(hcell _ (by omega)).trans (by rw[←hxl,List.getElem?_append_right (by omega)];simp);have q2:w2.cell? ⟨p,ts.length * 5+2,none⟩=some (.string ⟨#[]⟩):=(hcell _ (by omega)).trans (by rw[←hxl,List.getElem?_append_right (by omega)];simp);have q3:w2.cell? ⟨p,ts.length * 5+3,none⟩=some (.slice none 0 0):=(hcell _ (by omega)).trans (by rw[←hxl,List.getElem?_append_right (by omega)];simp);have q4:w2.cell? ⟨p,ts.length * 5+4,none⟩=some (.slice none 0 0):=(hcell _ (by omega)).trans (by rw[←hxl,List.getElem?_append_right (by omega)];simp);have hfz:=fun i=>World.ownsRow.frozenAt HOWN.out i;clear hcell
   go_simp
   refine hK _ (cX w2 p (ts.length * 5) _ _ _ _ _) (.inl (by decide)) ?_;have HO3:=hid (ir (.int .i64 t.kind) (.int .i64 t.num) (.string t.text) (.slice T3 t.items.length d3) (.slice T4 t.names.length d4) HOWN.out hxl);have h30:=bi w2 p (ts.length * 5) (.int .i64 t.kind) (.int .i64 t.num) (.string t.text) (.slice T3 t.items.length d3) (.slice T4 t.names.length d4);have h31:=cK w2 p (ts.length * 5) (.int .i64 t.kind) (.int .i64 t.num) (.string t.text) (.slice T3 t.items.length d3) (.slice T4 t.names.length d4);have h32:(cX w2 p (ts.length * 5) (.int .i64 t.kind) (.int .i64 t.num) (.string t.text) (.slice T3 t.items.length d3) (.slice T4 t.names.length d4)).os=w2.os:=rfl;have h33:(cX w2 p (ts.length * 5) (.int .i64 t.kind) (.int .i64 t.num) (.string t.text) (.slice T3 t.items.length d3) (.slice T4 t.names.length d4)).tape=w2.tape:=rfl;have h34:(cX w2 p (ts.length * 5) (.int .i64 t.kind) (.int .i64 t.num) (.string t.text) (.slice T3 t.items.length d3) (.slice T4 t.names.length d4)).output=w2.output:=rfl;clear hK K q0 q1 q2 q3 q4 hfz;change Hid (World.ownsRow (cX w2 p (ts.length * 5) (.int .i64 t.kind) (.int .i64 t.num) (.string t.text) (.slice T3 t.items.length d3) (.slice T4 t.names.length d4)) _ _ _ _ _ _)at HO3;generalize cX w2 p (ts.length * 5) (.int .i64 t.kind) (.int .i64 t.num) (.string t.text) (.slice T3 t.items.length d3) (.slice T4 t.names.length d4)=w3 at HO3 h30 h31 h32 h33 h34 ⊢;have HB3:=hid (show Box w3 vb (.int .i64 k) (.int .i64 0) (.string eS) (.slice AI ts.length cI) VN from(h30 vb hvp).trans HBX.out)
   have b3:=HB3.out.c3;have f3:=HB3.out.free 3;refine dJ rfl (fun K hK=> ?_)
   go_simp
   refine hK _ _ ?_;clear hK K;refine dt ?_
   go_end0
   exact HFIN.out _ (HEND.out _ (fun b hb1 hb2=>(heap_setCell_other w3 ⟨vb,3,none⟩ b _ hb2).trans (h30 b hb1)) h32 h33 h34 (by simp[h31]) (aM HO3.out fun q hq=>heap_setCell_other w3 ⟨vb,3,none⟩ q _ (by simp only[Value.ownBlock,Option.some.injEq]at hq;subst hq;exact fun e=>hvp e.symm)) (HB3.out.set3 _))
  ·have b3:=HBX.out.c3;have f3:=HBX.out.free 3
   go_simp
   refine hK _ _ (.inl (by decide)) ?_;clear hK K b3 f3;have h30: ∀b,b≠vb→(w2.setCell ⟨vb,3,none⟩ (.slice (some ⟨p,0,none⟩) (ts.length+1) cap)).heap[b]? =w2.heap[b]? :=fun b hb=>heap_setCell_other w2 ⟨vb,3,none⟩ b _ hb;have h31:(w2.setCell ⟨vb,3,none⟩ (.slice (some ⟨p,0,none⟩) (ts.length+1) cap)).heap.size=w2.heap.size:=by simp
   have h32:(w2.setCell ⟨vb,3,none⟩ (.slice (some ⟨p,0,none⟩) (ts.length+1) cap)).os=w2.os:=rfl;have h33:(w2.setCell ⟨vb,3,none⟩ (.slice (some ⟨p,0,none⟩) (ts.length+1) cap)).tape=w2.tape:=rfl;have h34:(w2.setCell ⟨vb,3,none⟩ (.slice (some ⟨p,0,none⟩) (ts.length+1) cap)).output=w2.output:=rfl;have HB3:=hid (HBX.out.set3 (.slice (some ⟨p,0,none⟩) (ts.length+1) cap));generalize w2.setCell ⟨vb,3,none⟩ (.slice (some ⟨p,0,none⟩) (ts.length+1) cap)=w3 at HB3 h30 h31 h32 h33 h34 ⊢;have HO2:=hid (aM HOWN.out (w':=w3) fun q hq=>h30 q (by simp only[Value.ownBlock,Option.some.injEq]at hq;subst hq;exact fun e=>hvp e.symm));have hcell:=fun i (hi:i<(ts.length+1) * 5)=>World.ownsRow.cellAt HO2.out i hi;have q0:w3.cell? ⟨p,ts.length * 5,none⟩=some (.int .i64 0):=(hcell _ (by omega)).trans (by rw[←hxl,List.getElem?_append_right (Nat.le_refl _)];simp);have q1:w3.cell? ⟨p,ts.length * 5+1,none⟩=some (.int .i64 0):=(hcell _ (by omega)).trans (by rw[←hxl,List.getElem?_append_right (by omega)];simp);have q2:w3.cell? ⟨p,ts.length * 5+2,none⟩=some (.string ⟨#[]⟩):=(hcell _ (by omega)).trans (by rw[←hxl,List.getElem?_append_right (by omega)];simp);have q3:w3.cell? ⟨p,ts.length * 5+3,none⟩=some (.slice none 0 0):=(hcell _ (by omega)).trans (by rw[←hxl,List.getElem?_append_right (by omega)];simp);have q4:w3.cell? ⟨p,ts.length * 5+4,none⟩=some (.slice none 0 0):=(hcell _ (by omega)).trans (by rw[←hxl,List.getElem?_append_right (by omega)];simp);have hfz:=fun i=>World.ownsRow.frozenAt HO2.out i;clear hcell
   refine dJ rfl (fun K hK=> ?_)
   go_simp
   refine hK _ (cX w3 p (ts.length * 5) _ _ _ _ _) ?_;clear hK K q0 q1 q2 q3 q4 hfz;refine dt ?_
   go_end0
   exact HFIN.out _ (HEND.out (cX w3 p (ts.length * 5) _ _ _ _ _) (fun b hb1 hb2=>(bi w3 p _ _ _ _ _ _ b hb1).trans (h30 b hb2)) h32 h33 h34 ((cK w3 p _ _ _ _ _ _).trans h31) (ir (.int .i64 t.kind) (.int .i64 t.num) (.string t.text) (.slice T3 t.items.length d3) (.slice T4 t.names.length d4) HO2.out hxl) (show Box _ vb _ _ _ _ _ from(bi w3 p _ _ _ _ _ _ vb hvp).trans HB3.out))
def gY (dd:Bool)(st:Option (List UInt8)):List UInt8×Option (List UInt8):=if dd then am 32 st else([],st)
def xK (dd:Bool)(d:Nat)(least:Int)(st:Option (List UInt8))(t:VT)(st':Option (List UInt8)):Prop:=Rel d least (gY dd st).2 t st'
def j4 (dd:Bool)(d:Nat)(least:Int)(n:Nat)(st:Option (List UInt8))(ts:List VT)(ns:List ByteArray):Option (List UInt8)→Prop
 |some r'=> ∃l,st=some l∧bB (rdW d) dd n l=some (ts,ns,r')
 |none=> ∀l us ms r,st=some l→bB (rdW d) dd n l=some (us,ms,r)→dw us=false∨(r.length:Int)<least
def Pre (dd:Bool)(d:Nat)(l:List UInt8)(ts:List VT)(ns:List ByteArray)(r:List UInt8):Prop:=
 ∀m,bB (rdW d) dd (ts.length+m) l=(bB (rdW d) dd m r).map fun p=>(ts++p.1,ns++p.2.1,p.2.2)
theorem Pre.zero (dd:Bool)(d:Nat)(l:List UInt8):Pre dd d l [] [] l:=fun m=>by
 simp only[List.length_nil,Nat.zero_add,List.nil_append];cases bB (rdW d) dd m l<;>rfl
theorem li {dd:Bool}{f:List UInt8→Option (VT×List UInt8)}{m:Nat}{l r r2:List UInt8}{nm:List UInt8}{t:VT}(h1:gY dd (some l)=(nm,some r))(h2:f r=some (t,r2)):
  bB f dd (m+1) l=(bB f dd m r2).map fun p=>(t::p.1,(if dd then fZ nm::p.2.1 else p.2.1),p.2.2):=by
 unfold gY at h1
 conv=>lhs;unfold bB
 rw[h1];simp only[h2];cases bB f dd m r2<;>rfl
def lC (dd:Bool)(ns:List ByteArray)(nm:List UInt8):List ByteArray:=if dd then ns++[fZ nm]else ns
theorem Pre.step {dd:Bool}{d:Nat}{l r r2 nm r1:List UInt8}{ts:List VT}{ns:List ByteArray}{t:VT}(h:Pre dd d l ts ns r)(h1:gY dd (some r)=(nm,some r1))(h2:rdW d r1=some (t,r2)):Pre dd d l (ts++[t]) (lC dd ns nm) r2:=fun m=>by
 have e:(ts++[t]).length+m=ts.length+(m+1):=by simp;omega
 rw[e,h (m+1),li h1 h2]
 cases bB (rdW d) dd m r2 with
 |none=>rfl
 |some p=>cases dd<;>simp[lC]
theorem lF : ∀(a b:List VT),dw (a++b)=(dw a && dw b)
 | [],b=>by
  have e:dw []=true:=by unfold dw;rfl
  rw[e];simp
 |x::a,b=>by rw[List.cons_append,gX,lF a b,gX,Bool.and_assoc]
theorem Pre.all {dd:Bool}{d:Nat}{least:Int}{l r:List UInt8}{ts:List VT}{ns:List ByteArray}(h:Pre dd d l ts ns r):j4 dd d least ts.length (some l) ts ns (some r):=by
 refine⟨l,rfl,?_⟩;have:=h 0;rw[Nat.add_zero]at this;rw[this];simp[bB]
theorem jJ {dd:Bool}{d m:Nat}{l r:List UInt8}{us:List VT}{ms:List ByteArray}(h:bB (rdW d) dd m l=some (us,ms,r)):r.length≤l.length:=
 (iq (P:=fun _=>True) dd (fun t l r h=>⟨trivial,(i6 d t l r h).2⟩) m l us ms r h).2.1
theorem Pre.least {dd:Bool}{d n:Nat}{least:Int}{l r:List UInt8}{ts ts':List VT}{ns ns':List ByteArray}(h:Pre dd d l ts ns r)(hn:ts.length≤n)(hr:(r.length:Int)<least):j4 dd d least n (some l) ts' ns' none:=by
 intro l' us ms r' hl hi;cases hl;obtain⟨m,rfl⟩:=Nat.exists_eq_add_of_le hn;rw[h m]at hi
 cases hm:bB (rdW d) dd m r with
 |none=>rw[hm]at hi;cases hi
 |some p=>
  obtain⟨a,b,c⟩:=p;rw[hm]at hi;simp only[Option.map_some,Option.some.injEq,Prod.mk.injEq]at hi;have:=jJ hm;refine .inr ?_;rw[←hi.2.2];omega
theorem Pre.bad {dd:Bool}{d n:Nat}{least:Int}{l r:List UInt8}{ts ts':List VT}{ns ns':List ByteArray}{t:VT}(h:Pre dd d l ts ns r)(hn:ts.length<n)(hr:xK dd d least (some r) t none):j4 dd d least n (some l) ts' ns' none:=by
 intro l' us ms r' hl hi;cases hl;obtain⟨m,rfl⟩: ∃m,n=ts.length+(m+1):=⟨n - ts.length - 1,by omega⟩;rw[h (m+1)]at hi
 cases hm:bB (rdW d) dd (m+1) r with
 |none=>rw[hm]at hi;cases hi
 |some p=>
  obtain⟨a,b,c⟩:=p;rw[hm]at hi;simp only[Option.map_some,Option.some.injEq,Prod.mk.injEq]at hi;obtain⟨rfl,-,rfl⟩:=hi;obtain⟨nm,s1,h1⟩: ∃nm s1,gY dd (some r)=(nm,s1):=⟨_,_,rfl⟩
  cases s1 with
  |none=>
   unfold gY at h1;unfold bB at hm;rw[h1]at hm
   cases hm
  |some r1=>
   cases hw:rdW d r1 with
   |none=>
    unfold gY at h1;unfold bB at hm;rw[h1]at hm;simp only[hw]at hm
    cases hm
   |some q=>
    obtain⟨u,r2⟩:=q;rw[li h1 hw]at hm
    cases hk:bB (rdW d) dd m r2 with
    |none=>rw[hk]at hm;cases hm
    |some q2=>
     obtain⟨a2,b2,c2⟩:=q2;rw[hk]at hm;simp only[Option.map_some,Option.some.injEq,Prod.mk.injEq]at hm;obtain⟨rfl,-,rfl⟩:=hm;rcases hr r1 u r2 (by rw[h1]) hw with h3|h3
     ·refine .inl ?_;rw[lF,gX,h3];simp
     ·have:=jJ hk;exact .inr (by omega)
theorem j4.none {dd:Bool}{d n:Nat}{least:Int}{ts:List VT}{ns:List ByteArray}:j4 dd d least n none ts ns none:=fun _ _ _ _ h=>by cases h
def qy (dd:Bool)(d g vb B:Nat)(k:Int)(least:Int)(st:Option (List UInt8))(ts:List VT)(ns:List ByteArray)(w:World)(e:Ending)(w':World):Prop:=
 ∃t st' VI VN S,e= .returned (.tuple #[])∧PV w' B vb k (ts++[t]) (lC dd ns (gY dd st).1) VI VN S∧aN w' g st'∧Far vb g w w'∧xK dd d least st t st'
theorem kC.g {d g vb B:Nat}{k:Int}{least:Int}{st:Option (List UInt8)}{ts:List VT}{ns:List ByteArray}{w:World}{e:Ending}{w':World}(h:kC d g vb B k least st ts ns w e w'):qy false d g vb B k least st ts ns w e w':=h
theorem pZ.g {d g vb B:Nat}{k:Int}{least:Int}{st:Option (List UInt8)}{ts:List VT}{ns:List ByteArray}{w:World}{e:Ending}{w':World}(h:pZ d g vb B k least st ts ns w e w'):qy true d g vb B k least st ts ns w e w':=h
def yz (dd:Bool)(d g vb B:Nat)(k:Int)(least:Int)(st:Option (List UInt8))(w:World)(e:Ending)(w':World):Prop:=
 ∃ts ns st' VI VN S,e= .returned (.tuple #[])∧PV w' B vb k ts ns VI VN S∧(ts.length≤5000∧ns.length≤5000)∧aN w' g st'∧Far vb g w w'∧j4 dd d least (ae 4096 st).1 (ae 4096 st).2 ts ns st'
theorem PV.named0 {g vb B:Nat}{k:Int}{VI VN:Value}{S:Nat→Prop}{ts:List VT}{ns:List ByteArray}{w w':World}(hpv:PV w B vb k ts ns VI VN S)(ho:au w w' g)(hvg:vb≠g)(hg:g<vb):PV w' B vb k ts ns VI VN S:=by
 have hvb:=hpv.vb;obtain⟨xs,hown,hitems⟩:=hpv.items;have hb:=hpv.box.lt;have hk: ∀b,b<w.heap.size→b≠g→w'.heap[b]? =w.heap[b]? :=fun b h1 h2=>ho.block b h1 (fun e=>h2 (by cases e;rfl));refine⟨(hk vb hb hvg).trans hpv.box,hpv.items.keep (fun q hq=> ?_) (fun b hb=> ?_),aM hpv.names fun q hq=> ?_,hpv.small,fun b hb=> ?_,hvb⟩
 ·have:=World.ownsRow.lt hown q hq;exact hk q this.2 (by omega)
 ·obtain⟨h1,h2,-⟩:=hpv.new b hb;exact hk b h2 (by omega)
 ·have:=World.ownsRow.lt hpv.names q hq;exact hk q this.2 (by omega)
 ·obtain⟨h1,h2,h3,h4⟩:=hpv.new b hb;exact⟨h1,Nat.lt_of_lt_of_le h2 ho.size,h3,h4⟩
theorem pD (n:Int)(st:Option (List UInt8))(h:(ae n st).2=none):(ae n st).1=0:=by
 unfold ae at h ⊢
 split
 ·rfl
 ·rename_i h0;rw[if_neg h0]at h;exact mh _ _ h
def fV :Option (List UInt8)→Nat
 |some l=>l.length
 |none=>0
theorem j9 (g:Nat)(st:Option (List UInt8))(w:World)(h:aN w g st):Calls Tryz.prog 162 #[.pointer (some ⟨g,0,none⟩)] w fun e w'=>e= .returned (.int .i64 (fV st))∧w=w':=by
 rcases st with _|l
 ·exact sv g w h
 ·exact tL g l w h
theorem jh (g:Nat)(w:World)(h:aN w g none):Calls Tryz.prog 74 #[.pointer (some ⟨g,0,none⟩)] w fun e w'=>e= .returned (.bool true)∧w=w':=mO g none w h
theorem kQ (g:Nat)(l:List UInt8)(w:World)(h:aN w g (some l)):Calls Tryz.prog 74 #[.pointer (some ⟨g,0,none⟩)] w fun e w'=>e= .returned (.bool false)∧w=w':=mO g (some l) w h
theorem eI (g:Nat)(st:Option (List UInt8))(w:World)(h:aN w g st):Calls Tryz.prog 105 #[.pointer (some ⟨g,0,none⟩)] w fun e w'=>e= .returned (.tuple #[])∧aN w' g none∧au w w' g:=by
 obtain⟨s,b,h'⟩: ∃s b,Src w g s b:=by
  rcases st with _|l
  ·exact⟨_,_,h⟩
  ·exact⟨_,_,h.1⟩
 exact kK g s b w h'
theorem fM (dd:Bool)(ns:List ByteArray)(nm:List UInt8):(lC dd ns nm).length≤ns.length+1:=by unfold lC;split<;>simp
theorem nX (dd:Bool)(f d D g vb bb B:Nat)(k:Int)(least:Int)(st:Option (List UInt8))(VI VN:Value)(S:Nat→Prop)(w:World)
  (hitem: ∀(st:Option (List UInt8)) (ts:List VT) (ns:List ByteArray) (VI VN:Value) (S:Nat→Prop) (w:World),PV w B vb k ts ns VI VN S→PB w bb D→Dec w D g least (8 - (d:Int))→aN w g st→B≤w.heap.size→ts.length≤100000→ns.length≤100000→
   Calls Tryz.prog f #[.pointer (some ⟨vb,0,none⟩),.pointer (some ⟨bb,0,none⟩)] w (qy dd d g vb B k least st ts ns w))
  (hpv:PV w B vb k [] [] VI VN S) (hpb:PB w bb D) (hd:Dec w D g least (8 - (d:Int))) (hs:aN w g st)
  (hDg:D≠g) (hbg:bb≠g) (hvg:vb≠g) (hlt:g<vb∧D<vb∧bb<vb) (hB:B≤w.heap.size) (hcf0:ey f):
  Calls Tryz.prog 185 #[.pointer (some ⟨D,0,none⟩),.func (.func f) #[] #[.pointer (some ⟨vb,0,none⟩),.pointer (some ⟨bb,0,none⟩)]] w (yz dd d g vb B k least st w):=by
 have hcn:=aZ 4096 st (by omega);have hcf: ∀(args:Array Value) (W:World),(callFunc f args).run Tryz.prog W= .ok (.enter f args) W:=hcf0;have HI:=hid hitem;have HPV:=hid hpv;have HPB:=hid hpb;have HD:=hid hd;have HS:=hid hs;have d0:w.cell? ⟨D,0,none⟩=some (.pointer (some ⟨g,0,none⟩)):=Go.Joins.cell_of_block hd 0;have hVb:=hpv.vb;clear hitem hpv hpb hd hs hcf0;go_enter Tryz.func185,Tryz.ntmps185;go_wp2_with(go_at_call 69;refine(cD g st 4096 w HS.out (by omega)).mono ?_;rintro e w1 ⟨rfl,hs1,ho1⟩);have hf1:Far vb g w w1:=Far.ofOnly ho1 (by omega);have hd1:Dec w1 D g least (8 - (d:Int)):=(hf1.block D hlt.2.1 hDg).trans HD.out;have hpb1:PB w1 bb D:=(hf1.block bb hlt.2.2 hbg).trans HPB.out;have hpv1:PV w1 B vb k [] [] VI VN S:=HPV.out.named0 ho1 hvg hlt.1;obtain⟨n,hn⟩: ∃n,n=(ae 4096 st).1:=⟨_,rfl⟩;obtain⟨st1,hst1⟩: ∃st1,st1=(ae 4096 st).2:=⟨_,rfl⟩;have hz1:st1=none→n=0:=by rintro rfl;rw[hn];exact pD _ _ hst1.symm
 have HN:=hid hn;have HST:=hid hst1;have hcn':n≤4096:=by rw[hn];exact hcn
 rw[←hst1]at hs1;rw[←hn];have H1:=hid (And.intro hpv1 (And.intro hs1 (And.intro hf1 (And.intro hpb1 hd1))));have hB1:B≤w1.heap.size:=Nat.le_trans hB hf1.size;clear hn hst1 hcn hs1 hf1 hpb1 hd1 hpv1 ho1 d0 HS HPV HPB HD
 go_loopw [9] (fun i wr=> ∃(j:Nat) (ts:List VT) (ns:List ByteArray) (r:Option (List UInt8)) (VI VN:Value) (S:Nat→Prop),i= .int .i64 j∧j=ts.length∧j≤n∧ns.length≤j∧
   Hid (PV wr B vb k ts ns VI VN S)∧Hid (aN wr g r)∧Hid (Far vb g w wr)∧Hid (PB wr bb D∧Dec wr D g least (8 - (d:Int))∧B≤wr.heap.size)∧
   Hid (n=0∧r=st1∧ts= []∧ns= []∨ ∃l0 l,st1=some l0∧r=some l∧Pre dd d l0 ts ns l)) (fun i _=>n - (intOf i).toNat)
 case atStart=>
  obtain⟨h1,h2,h3,h4,h5⟩:=H1.out;refine⟨0,[],[],st1,VI,VN,S,rfl,rfl,by omega,by simp,h1,h2,h3,⟨h4,h5,hB1⟩,?_⟩
  cases hh:st1 with
  |none=>exact .inl ⟨hz1 hh,rfl,rfl,rfl⟩
  |some l0=>exact .inr ⟨l0,l0,rfl,rfl,Pre.zero _ _ _⟩
 case round=>
  obtain⟨j,ts,ns,r,VI,VN,S,rfl,hj,hjn,hnl,HP,HS,HF,HPD,HR⟩:=hrel;by_cases hlast:j=n
  ·have hlt1: ¬((j:Int)<(n:Int)):=by omega
   have hlt2:decide ((j:Int)<(n:Int))=false:=decide_eq_false hlt1;go_wp2_with fail
   go_end0
   refine⟨ts,ns,r,VI,VN,S,rfl,HP.out,⟨by omega,by omega⟩,HS.out,HF.out,?_⟩;rw[←HN.out,←HST.out];rcases HR.out with ⟨h0,rfl,rfl,rfl⟩|⟨l0,l,hl0,rfl,hpre⟩
   ·rw[h0]
    cases r with
    |none=>exact fun _ _ _ _ h=>by cases h
    |some l0=>exact⟨l0,rfl,rfl⟩
   ·rw[hl0,←hlast,hj];exact hpre.all
  ·have hlt1:(j:Int)<(n:Int):=by omega
   have hlt2:decide ((j:Int)<(n:Int))=true:=decide_eq_true hlt1;rcases HR.out with ⟨h0,-⟩|⟨l0,l,hl0,rfl,hpre⟩
   ·omega
   go_wp2_with fail;refine(HI.out (some l) ts ns VI VN S wr HP.out HPD.out.1 HPD.out.2.1 HS.out HPD.out.2.2 (by omega) (by omega)).mono ?_;rintro e w2 ⟨t,st',VI2,VN2,S2,rfl,hp2,hs2,hf2,hrel2⟩;have hDl:D<w2.heap.size:=Nat.lt_of_lt_of_le HPD.out.2.1.lt hf2.size;have hd2:Dec w2 D g least (8 - (d:Int)):=(hf2.block D hlt.2.1 hDg).trans HPD.out.2.1;have hb2:PB w2 bb D:=(hf2.block bb hlt.2.2 hbg).trans HPD.out.1;have hB2:B≤w2.heap.size:=Nat.le_trans HPD.out.2.2 hf2.size;have d0:w2.cell? ⟨D,0,none⟩=some (.pointer (some ⟨g,0,none⟩)):=Go.Joins.cell_of_block hd2 0;have d1:w2.cell? ⟨D,1,none⟩=some (.int .i64 least):=Go.Joins.cell_of_block hd2 1;have HP2:=hid hp2;have HS2:=hid hs2;have HF2:=hid (HF.out.trans hf2);have HPD2:=hid (And.intro hb2 (And.intro hd2 hB2));have HREL:=hid hrel2;have HPRE:=hid hpre;clear hp2 hs2 hf2 hd2 hb2 hrel2 hpre HP HS HF HPD HR;have hod:au w2 w2.drew g:=⟨rfl,rfl,rfl,Nat.le_refl _,fun _ _ _=>rfl⟩;go_wp2_with fail;by_cases hl:(fV st':Int)<least
   ·have hl2:decide ((fV st':Int)<least)=true:=decide_eq_true hl;refine aB [0,1,2,3,5,6,7,8,4,9] (by kernel_rfl) (by kernel_rfl) (fun _ d _ _ _ h=>by cases d<;>exact h) ?_;simp only[atR];have c0:=aa (B:=w2.heap.size) (w:=w2.drew) d0 hDl;have c1:=aa (B:=w2.heap.size) (w:=w2.drew) d1 hDl;first|with_reducible refine ac ?_ |with_reducible refine ab ?_ |refine ac ?_ |refine ab ?_
    simp only[List.takeWhile,List.dropWhile,ao,Nat.reduceBNe];repeat(go_big_quiet_step (fail))
    first|with_reducible refine wpQuiet_nil ?_ |refine wpQuiet_nil ?_
    first|with_reducible refine al ?_ (fun K hK=> ?_)|with_reducible refine aj ?_ (fun K hK=> ?_)|refine al ?_ (fun K hK=> ?_)|refine aj ?_ (fun K hK=> ?_)
    ·rfl
    go_simp
    refine(j9 g _ w2.drew (HS2.out.of rfl)).mono ?_;rintro e u ⟨rfl,rfl⟩;refine hK _ _ (Below.refl _ _) ?_;clear hK K;try simp only[Act.put]
    first|with_reducible refine ac ?_ |with_reducible refine ab ?_ |refine ac ?_ |refine ab ?_
    simp only[List.takeWhile,List.dropWhile,ao,Nat.reduceBNe];repeat(go_big_quiet_step (fail))
    first|with_reducible refine wpQuiet_nil ?_ |refine wpQuiet_nil ?_
    unfold aO;clear c0 c1;have d2:w2.drew.cell? ⟨D,0,none⟩=some (.pointer (some ⟨g,0,none⟩)):=d0;go_wp2_with(go_at_call 105;refine(eI g _ w2.drew (HS2.out.of rfl)).mono ?_;rintro e w3 ⟨rfl,hs3,ho3⟩;have d3:w3.cell? ⟨D,0,none⟩=some (.pointer (some ⟨g,0,none⟩)):=(World.cell?_of_block (a:=⟨D,0,none⟩) (ho3.block D hDl (by rintro⟨⟩;exact hDg rfl))).trans d2;have HS3:=hid hs3;have HO3:=hid ho3;have hDl3:D<w3.heap.size:=Nat.lt_of_lt_of_le hDl ho3.size;clear hs3 ho3 d0 d1 d2 hod)
    go_must (refine(jh g _ HS3.out).mono ?_;rintro e w4 ⟨rfl,rfl⟩)
    go_wp2_with fail;refine bodyPost_ret (results_none rfl _ _ _) rfl ?_;have ho3:=HO3.out;have hod:au w2 w2.drew g:=⟨rfl,rfl,rfl,Nat.le_refl _,fun _ _ _=>rfl⟩;refine⟨_,_,none,VI2,VN2,S2,rfl,(HP2.out.named0 hod hvg hlt.1).named0 ho3 hvg hlt.1,⟨by simp;omega,by have:=fM dd ns (gY dd (some l)).1;omega⟩,HS3.out,(HF2.out.drew).trans (Far.ofOnly ho3 (by have:=HP2.out.vb;have:=HPD2.out.2.2;simp;omega)),?_⟩;rw[←HN.out,←HST.out,hl0];rcases st' with _|r2
    ·exact HPRE.out.bad (by omega) HREL.out
    ·obtain⟨lx,hx1,hx2⟩:=HREL.out;refine(HPRE.out.step (nm:=(gY dd (some l)).1) (r1:=lx) (by rw[←hx1]) hx2).least (by simp;omega) hl
   ·have hl2:decide ((fV st':Int)<least)=false:=decide_eq_false hl;rcases st' with _|r2
    ·skip;refine aB [0,1,2,3,5,6,7,8,4,9] (by kernel_rfl) (by kernel_rfl) (fun _ d _ _ _ h=>by cases d<;>exact h) ?_;simp only[atR];have c0:=aa (B:=w2.heap.size) (w:=w2.drew) d0 hDl;have c1:=aa (B:=w2.heap.size) (w:=w2.drew) d1 hDl;first|with_reducible refine ac ?_ |with_reducible refine ab ?_ |refine ac ?_ |refine ab ?_
     simp only[List.takeWhile,List.dropWhile,ao,Nat.reduceBNe];repeat(go_big_quiet_step (fail))
     first|with_reducible refine wpQuiet_nil ?_ |refine wpQuiet_nil ?_
     first|with_reducible refine al ?_ (fun K hK=> ?_)|with_reducible refine aj ?_ (fun K hK=> ?_)|refine al ?_ (fun K hK=> ?_)|refine aj ?_ (fun K hK=> ?_)
     ·rfl
     go_simp
     refine(j9 g _ w2.drew (HS2.out.of rfl)).mono ?_;rintro e u ⟨rfl,rfl⟩;refine hK _ _ (Below.refl _ _) ?_;clear hK K;try simp only[Act.put]
     first|with_reducible refine ac ?_ |with_reducible refine ab ?_ |refine ac ?_ |refine ab ?_
     simp only[List.takeWhile,List.dropWhile,ao,Nat.reduceBNe];repeat(go_big_quiet_step (fail))
     first|with_reducible refine wpQuiet_nil ?_ |refine wpQuiet_nil ?_
     unfold aO;clear c0 c1;have d2:w2.drew.cell? ⟨D,0,none⟩=some (.pointer (some ⟨g,0,none⟩)):=d0;go_wp2_with(go_at_call 74;refine(jh g w2.drew (HS2.out.of rfl)).mono ?_;rintro e w4 ⟨rfl,rfl⟩);refine bodyPost_ret (results_none rfl _ _ _) rfl ?_;refine⟨_,_,none,VI2,VN2,S2,rfl,HP2.out.named0 hod hvg hlt.1,⟨by simp;omega,by have:=fM dd ns (gY dd (some l)).1;omega⟩,HS2.out.of rfl,HF2.out.drew,?_⟩;rw[←HN.out,←HST.out,hl0];exact HPRE.out.bad (by omega) HREL.out
    ·skip;refine aB [0,1,2,3,5,6,7,8,4,9] (by kernel_rfl) (by kernel_rfl) (fun _ d _ _ _ h=>by cases d<;>exact h) ?_;simp only[atR];have c0:=aa (B:=w2.heap.size) (w:=w2.drew) d0 hDl;have c1:=aa (B:=w2.heap.size) (w:=w2.drew) d1 hDl;first|with_reducible refine ac ?_ |with_reducible refine ab ?_ |refine ac ?_ |refine ab ?_
     simp only[List.takeWhile,List.dropWhile,ao,Nat.reduceBNe];repeat(go_big_quiet_step (fail))
     first|with_reducible refine wpQuiet_nil ?_ |refine wpQuiet_nil ?_
     first|with_reducible refine al ?_ (fun K hK=> ?_)|with_reducible refine aj ?_ (fun K hK=> ?_)|refine al ?_ (fun K hK=> ?_)|refine aj ?_ (fun K hK=> ?_)
     ·rfl
     go_simp
     refine(j9 g _ w2.drew (HS2.out.of rfl)).mono ?_;rintro e u ⟨rfl,rfl⟩;refine hK _ _ (Below.refl _ _) ?_;clear hK K;try simp only[Act.put]
     first|with_reducible refine ac ?_ |with_reducible refine ab ?_ |refine ac ?_ |refine ab ?_
     simp only[List.takeWhile,List.dropWhile,ao,Nat.reduceBNe];repeat(go_big_quiet_step (fail))
     first|with_reducible refine wpQuiet_nil ?_ |refine wpQuiet_nil ?_
     unfold aO;clear c0 c1;have d2:w2.drew.cell? ⟨D,0,none⟩=some (.pointer (some ⟨g,0,none⟩)):=d0;go_wp2_with(go_at_call 74;refine(kQ g r2 w2.drew (HS2.out.of rfl)).mono ?_;rintro e w4 ⟨rfl,rfl⟩)
     go_roundw
     case rel=>
      obtain⟨lx,hx1,hx2⟩:=HREL.out;refine⟨j+1,_,_,some r2,VI2,VN2,S2,by go_num,by simp[hj],by omega,?_,HP2.out.named0 hod hvg hlt.1,HS2.out.of rfl,HF2.out.drew,⟨HPD2.out.1,HPD2.out.2.1,HPD2.out.2.2⟩,.inr ⟨l0,r2,hl0,rfl,HPRE.out.step (nm:=(gY dd (some l)).1) (r1:=lx) (by rw[←hx1]) hx2⟩⟩;have:=fM dd ns (gY dd (some l)).1;omega
     case measure=>simp[intOf];omega
end Go.Proofs.YtgfidiocmiolpaaGreat
