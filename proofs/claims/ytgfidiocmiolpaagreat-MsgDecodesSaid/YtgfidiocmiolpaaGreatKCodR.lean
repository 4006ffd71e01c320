/- The decoder's parts: the closure that reads an item. -/
import Derived.Test.YtgfidiocmiolpaaGreatKRegR
import Derived.Test.YtgfidiocmiolpaaGreatKCodS
import Derived.Test.YtgfidiocmiolpaaGreatKRefZ
set_option maxHeartbeats 64000000
set_option maxRecDepth 100000
set_option linter.unusedVariables false
set_option linter.unusedSimpArgs false
namespace Go.Proofs.YtgfidiocmiolpaaGreat
open Lib (hid)
open Go.RowKit
theorem tV (d:Nat)(hok:oZ d)(D g vb bb B:Nat)(k:Int)(least:Int)(st:Option (List UInt8))(ts:List VT)(ns:List ByteArray)(VI VN:Value)(S:Nat→Prop)(w:World)(hpv:PV w B vb k ts ns VI VN S)(hpb:PB w bb D)(hd:Dec w D g least (8 - (d:Int)))(hs:aN w g st)
  (hDg:D≠g) (hbg:bb≠g) (hvg:vb≠g) (hlt:g<vb∧D<vb∧bb<vb) (hB:B≤w.heap.size) (hts:ts.length≤100000):
  Calls Tryz.prog 186 #[.pointer (some ⟨vb,0,none⟩),.pointer (some ⟨bb,0,none⟩)] w (kC d g vb B k least st ts ns w):=by
 obtain⟨xs,hown,hitems⟩:=hpv.items
 obtain⟨AI,cI,hVI⟩: ∃A c,VI= .slice A ts.length c:=by
  rcases hown.2 with ⟨rfl,h0⟩|⟨q,cap,cur,rfl,_⟩
  ·exact⟨none,0,by rw[h0]⟩
  ·exact⟨_,_,rfl⟩
 subst hVI;have HPV:=hid hpv;have k3: ∀p:bW (du vb bb) w.drew,p.u.cell? ⟨vb,3,none⟩=some (.slice AI ts.length cI):=fun p=>(eC.1 p 3).trans hpv.box.c3;have kb: ∀p:bW (du vb bb) w.drew,p.u.cell? ⟨bb,0,none⟩=some (.pointer (some ⟨D,0,none⟩)):=fun p=>(eC.2 p 0).trans (Go.Joins.cell_of_block hpb 0);have K3:=hid k3;have KB:=hid kb;have hVb:=hpv.vb;go_enter Tryz.func186,Tryz.ntmps186;refine bm (du vb bb) (du.refl vb bb) (fun _ _ _ h k=>h.trans k) [8,10] (.pure [0,1,2,4] (.fork 3 (.step 5 (.step 6 (.free [7,9] (.fork 8 (.tail [10]) 10 (.tail [8]))))) 5 (.step 3 (.step 6 (.free [7,9] (.fork 8 (.tail [10]) 10 (.tail [8]))))))) (by kernel_rfl) (by kernel_rfl) (fun _ d _ _ _ h=>by cases d<;>exact h) ?_;refine dg ?_;simp only[atR];show wpQuiet _ _ _ _ [_,_,_,_] _;repeat(go_big_quiet_step (fail))
 refine wpQuiet_nil ?_;refine jo rfl rfl (fun K hK=> ?_) (fun K hK=> ?_)
 focus
  go_simp
  refine(hok D g least st w.drew hd (hs.of rfl) hDg).mono ?_;rintro e w1 ⟨v,t,st',rfl,hs1,ho1,hv1,hrel⟩;obtain⟨T3,d3,T4,d4,rfl,-⟩:=hv1.shape;have hvb:w1.heap[vb]? =w.heap[vb]? :=ho1.block vb (Nat.lt_of_lt_of_le hVb hB) (by rintro⟨⟩;exact hvg rfl);have hbb:w1.heap[bb]? =w.heap[bb]? :=ho1.block bb hpb.lt (by rintro⟨⟩;exact hbg rfl);refine hK _ _ (.inr ⟨hvb,hbb⟩) ?_;clear hK K;refine aT rfl (fun K hK=> ?_)
  go_simp
  have hz1:w.heap.size≤w1.heap.size:=ho1.size;have hvl:vb<w1.heap.size:=by omega
  have hbl:bb<w1.heap.size:=by omega
  refine hK _ _ (.inr ⟨Below.heap_alloc w1 _ vb hvl,Below.heap_alloc w1 _ bb hbl⟩) ?_;clear hK K;have hc1:=heap_alloc_new w1 (.cells #[.int .i64 0,.int .i64 0,.string ⟨#[]⟩,.slice none 0 0,.slice none 0 0] 43);have hc2: ∀b,b<w1.heap.size→(w1.alloc (.cells #[.int .i64 0,.int .i64 0,.string ⟨#[]⟩,.slice none 0 0,.slice none 0 0] 43)).heap[b]? =w1.heap[b]? :=Below.heap_alloc w1 _;have hc3:(w1.alloc (.cells #[.int .i64 0,.int .i64 0,.string ⟨#[]⟩,.slice none 0 0,.slice none 0 0] 43)).heap.size=w1.heap.size+1:=by simp
  have hc4:(w1.alloc (.cells #[.int .i64 0,.int .i64 0,.string ⟨#[]⟩,.slice none 0 0,.slice none 0 0] 43)).os=w.os∧(w1.alloc (.cells #[.int .i64 0,.int .i64 0,.string ⟨#[]⟩,.slice none 0 0,.slice none 0 0] 43)).tape=w.tape∧(w1.alloc (.cells #[.int .i64 0,.int .i64 0,.string ⟨#[]⟩,.slice none 0 0,.slice none 0 0] 43)).output=w.output:=⟨ho1.os,ho1.tape,ho1.output⟩;generalize w1.alloc (.cells #[.int .i64 0,.int .i64 0,.string ⟨#[]⟩,.slice none 0 0,.slice none 0 0] 43)=wc at hc1 hc2 hc3 hc4 ⊢;have hzw:w.heap.size≤wc.heap.size:=by omega
  have hfar: ∀b,b<w.heap.size→b≠g→wc.heap[b]? =w.heap[b]? :=fun b hb hbg=>(hc2 b (by omega)).trans (ho1.block b hb (fun e=>hbg (by cases e;rfl)));have hLV:=(hv1.keep (w':=wc) fun b hb=>hc2 b hb.2).imp (S':=dB w.heap.size wc) fun b hb=>⟨hb.1,by have:=hb.2;omega⟩;have hsc:aN wc g st':=hs1.of (hc2 g (by omega));have hvc:wc.heap[vb]? =w.heap[vb]? :=(hc2 vb hvl).trans hvb;have hbc:wc.heap[bb]? =w.heap[bb]? :=(hc2 bb hbl).trans hbb;clear hc2 hc3 hvb hbb hvl hbl hz1 hv1 hs1;generalize w1.heap.size=z at hc1 ⊢;clear ho1 w1
 rotate_left
 focus
  go_simp
  have hz0:(w.alloc (.cells #[.int .i64 0,.int .i64 0,.string ⟨#[]⟩,.slice none 0 0,.slice none 0 0] 43)).drew.heap.size=w.heap.size+1:=by show(w.alloc _).heap.size=_;simp
  have hvl:vb<w.heap.size:=by omega
  have hbl:bb<w.heap.size:=by omega
  refine hK _ _ (.inr ⟨Below.heap_alloc w _ vb hvl,Below.heap_alloc w _ bb hbl⟩) ?_;clear hK K;have hc1:((w.alloc (.cells #[.int .i64 0,.int .i64 0,.string ⟨#[]⟩,.slice none 0 0,.slice none 0 0] 43)).drew).heap[w.heap.size]? =some (.cells #[.int .i64 0,.int .i64 0,.string ⟨#[]⟩,.slice none 0 0,.slice none 0 0] 43):=heap_alloc_new w (.cells #[.int .i64 0,.int .i64 0,.string ⟨#[]⟩,.slice none 0 0,.slice none 0 0] 43);have hc2: ∀b,b<w.heap.size→(w.alloc (.cells #[.int .i64 0,.int .i64 0,.string ⟨#[]⟩,.slice none 0 0,.slice none 0 0] 43)).drew.heap[b]? =w.heap[b]? :=Below.heap_alloc w _;have hc4:(w.alloc (.cells #[.int .i64 0,.int .i64 0,.string ⟨#[]⟩,.slice none 0 0,.slice none 0 0] 43)).drew.os=w.os∧(w.alloc (.cells #[.int .i64 0,.int .i64 0,.string ⟨#[]⟩,.slice none 0 0,.slice none 0 0] 43)).drew.tape=w.tape∧(w.alloc (.cells #[.int .i64 0,.int .i64 0,.string ⟨#[]⟩,.slice none 0 0,.slice none 0 0] 43)).drew.output=w.output:=⟨rfl,rfl,rfl⟩;generalize (w.alloc (.cells #[.int .i64 0,.int .i64 0,.string ⟨#[]⟩,.slice none 0 0,.slice none 0 0] 43)).drew=wa at hz0 hc1 hc2 hc4 ⊢;have hgl:g<w.heap.size:=by omega
  have hDl:D<w.heap.size:=by omega
  have kb2:wa.cell? ⟨bb,0,none⟩=some (.pointer (some ⟨D,0,none⟩)):=(World.cell?_of_block (a:=⟨bb,0,none⟩) (hc2 bb hbl)).trans (Go.Joins.cell_of_block hpb 0);refine aT rfl (fun K hK=> ?_)
  go_simp
  refine(hok D g least st wa ((hc2 D hDl).trans hd) (hs.of (hc2 g hgl)) hDg).mono ?_;rintro e wc ⟨v,t,st',rfl,hsc,ho1,hv1,hrel⟩;obtain⟨T3,d3,T4,d4,rfl,-⟩:=hv1.shape;have hvb:wc.heap[vb]? =wa.heap[vb]? :=ho1.block vb (by omega) (by rintro⟨⟩;exact hvg rfl);have hbb:wc.heap[bb]? =wa.heap[bb]? :=ho1.block bb (by omega) (by rintro⟨⟩;exact hbg rfl);refine hK _ _ (.inr ⟨hvb,hbb⟩) ?_;clear hK K;have hzs:wa.heap.size≤wc.heap.size:=ho1.size;have hzw:w.heap.size≤wc.heap.size:=by omega
  replace hc4:wc.os=w.os∧wc.tape=w.tape∧wc.output=w.output:=⟨ho1.os.trans hc4.1,ho1.tape.trans hc4.2.1,ho1.output.trans hc4.2.2⟩;have hfar: ∀b,b<w.heap.size→b≠g→wc.heap[b]? =w.heap[b]? :=fun b hb hbg=>(ho1.block b (by omega) (fun e=>hbg (by cases e;rfl))).trans (hc2 b hb);have hLV:=hv1.imp (S':=dB w.heap.size wc) fun b hb=>⟨by have:=hb.1;omega,hb.2⟩;have hvc:wc.heap[vb]? =w.heap[vb]? :=hvb.trans (hc2 vb hvl);have hbc:wc.heap[bb]? =w.heap[bb]? :=hbb.trans (hc2 bb hbl);replace hc1:=(ho1.block w.heap.size (by omega) (by rintro⟨⟩;omega)).trans hc1;clear hc2 hz0 hvb hbb hvl hbl hv1 hzs kb2 hgl hDl;generalize w.heap.size=z at hc1 ⊢;clear ho1 wa
 all_goals
  refine fB rfl rfl (fun K hK=> ?_);obtain⟨i0,hi,hi0,hi1,hi2⟩:=info_parts Tryz.infoVal;have hAIlt: ∀q,(Value.slice AI ts.length cI).ownBlock=some q→B≤q∧q<w.heap.size:=fun q hq=>World.ownsRow.lt hown q hq;have hown1:=aM hown (w':=wc) fun q hq=>hfar q (hAIlt q hq).2 (by have:=(hAIlt q hq).1;omega);refine bo _ _ _ 40 rfl B 43 i0 _ 5 80 Tryz.underlying40 hi hi0 hi1 hi2 rfl (by decide) _ ts.length xs rfl hown1 ⟨z,0,none⟩ 1 1 [.int .i64 0,.int .i64 0,.string ⟨#[]⟩,.slice none 0 0,.slice none 0 0] rfl rfl ?_ ?_ (by unfold maxLen;omega) (by omega) (by omega) ?_
  ·intro j u hj;rw[add_at,Nat.zero_add];exact(Go.Joins.cell_of_block hc1 j).trans (by simpa using hj)
  ·intro u hu;simp only[List.mem_cons,List.not_mem_nil,or_false]at hu;rcases hu with rfl|rfl|rfl|rfl|rfl<;>rfl
  intro v2 w2 hown2 hg2 hmv
  obtain⟨p,cap,rfl,hpB⟩: ∃p cap,v2= .slice (some ⟨p,0,none⟩) (ts.length+1) cap∧B≤p:=by
   rcases hown2.2 with ⟨-,h0⟩|⟨p,cap,cur,h1,h2,-⟩
   ·omega
   ·exact⟨p,cap,h1,h2⟩
  have hg2': ∀b,b<wc.heap.size→some b≠(Value.slice AI ts.length cI).ownBlock→w2.heap[b]? =wc.heap[b]? :=fun b hb hne=>hg2.block b hb hne
  have hpw:(Value.slice AI ts.length cI).ownBlock=some p∨wc.heap.size≤p:=by
   rcases hmv with h|⟨q,h1,h2⟩
   ·exact .inl h.symm
   ·simp only[Value.ownBlock,Option.some.injEq]at h2;subst h2;exact .inr h1
  have hwz:wc.heap.size≤w2.heap.size:=hg2.size
  have hvno: ∀b,b<B→some b≠(Value.slice AI ts.length cI).ownBlock:=fun b hb he=>by
   have:=(hAIlt b he.symm).1;omega
  have hvb2:w2.heap[vb]? =wc.heap[vb]? :=hg2' vb (by omega) (hvno vb hVb);have hbb2:w2.heap[bb]? =wc.heap[bb]? :=hg2' bb (by omega) (hvno bb (by omega));refine hK _ _ (.inr ⟨hvb2,hbb2⟩) ?_;clear hK K;have hvp:vb≠p:=by omega
  have hend: ∀w4:World,(∀b,b≠p→b≠vb→w4.heap[b]? =w2.heap[b]?)→w4.os=w2.os→w4.tape=w2.tape→w4.output=w2.output→w4.heap.size=w2.heap.size→
    w4.ownsRow B 43 5 (.slice (some ⟨p,0,none⟩) (ts.length+1) cap) (ts.length+1) (xs++[.int .i64 t.kind,.int .i64 t.num,.string t.text,.slice T3 t.items.length d3,.slice T4 t.names.length d4])→
    Box w4 vb (.int .i64 k) (.int .i64 0) (.string eS) (.slice (some ⟨p,0,none⟩) (ts.length+1) cap) VN→kC d g vb B k least st ts ns w (.returned (.tuple #[])) w4:=by
   intro w4 hf h1 h2 h3 h4 h5 h6;refine qz (xs:=xs) HPV.out hown hitems hlt.1 (h1.trans (hg2.os.trans hc4.1)) (h2.trans (hg2.tape.trans hc4.2.1)) (h3.trans (hg2.output.trans hc4.2.2)) (by omega) ?_ ?_ h5 h6 ?_ ?_ hrel hB
   ·intro b hb hbg hbv hbI
    have hbp:b≠p:=by
     rintro rfl;rcases hpw with h|h
     ·exact hbI h.symm
     ·omega
    rw[hf b hbp hbv,hg2' b (by omega) hbI];exact hfar b hb hbg
   ·rcases hpw with h|h
    ·exact .inl h
    ·exact .inr (by omega)
   ·have hnp: ∀b,dB w.heap.size wc b→b≠p:=by
     rintro b ⟨hb1,hb2⟩ rfl;rcases hpw with h|h
     ·have:=hAIlt b h;omega
     ·omega
    refine(hLV.keep (w':=w4) fun b hb=> ?_).imp fun b hb=>⟨hb.1,?_,hnp b hb⟩
    ·have hb1:w.heap.size≤b:=hb.1;rw[hf b (hnp b hb) (by omega),hg2' b hb.2 (fun e=>by have:=hAIlt b e.symm;omega)]
    ·have:=hb.2;omega
   ·refine hsc.of ?_;rw[hf g (by omega) (by omega),hg2' g (by omega) (hvno g (by omega))]
  have HEND:=hid hend;have HOWN:=hid hown2;have HBX:=hid (show Box w2 vb (.int .i64 k) (.int .i64 0) (.string eS) (.slice AI ts.length cI) VN from(hvb2.trans hvc).trans hpv.box);refine dK ?_;simp only[atR];show wpQuiet _ _ _ _ [_,_] _;simp only[acR,Act.put];have hlt1:(ts.length:Int)<(ts.length:Int)+1:=by omega
  have hxl:xs.length=ts.length * 5:=hown.1;clear hend hown2 hown1 hg2' hvb2 hbb2 hg2 hmv K3 KB k3 kb hLV hsc hvc hbc hc1 hc4 hfar hpw hwz hzw hAIlt hvno hitems;repeat(go_big_quiet_step (fail))
  refine wpQuiet_nil ?_;refine jo rfl rfl (fun K hK=> ?_) (fun K hK=> ?_)
  ·have hcell:=fun i (hi:i<(ts.length+1) * 5)=>World.ownsRow.cellAt HOWN.out i hi;have q0:w2.cell? ⟨p,ts.length * 5,none⟩=some (.int .i64 0):=(hcell _ (by omega)).trans (by rw[←hxl,List.getElem?_append_right (Nat.le_refl _)];simp);have q1:w2.cell? ⟨p,ts.length * 5+1,none⟩=some (.int .i64 0):=(hcell _ (by omega)).trans (by rw[←hxl,List.getElem?_append_right (by omega)];simp);have q2:w2.cell? ⟨p,ts.length * 5+2,none⟩=some (.string ⟨#[]⟩):=(hcell _ (by omega)).trans (by rw[←hxl,List.getElem?_append_right (by omega)];simp);have q3:w2.cell? ⟨p,ts.length * 5+3,none⟩=some (.slice none 0 0):=(hcell _ (by omega)).trans (by rw[←hxl,List.getElem?_append_right (by omega)];simp);have q4:w2.cell? ⟨p,ts.length * 5+4,none⟩=some (.slice none 0 0):=(hcell _ (by omega)).trans (by rw[←hxl,List.getElem?_append_right (by omega)];simp);have hfz:=fun i=>World.ownsRow.frozenAt HOWN.out i;clear hcell
   go_simp
   refine hK _ (cX w2 p (ts.length * 5) _ _ _ _ _) (.inl (by decide)) ?_;have HO3:=hid (ir (.int .i64 t.kind) (.int .i64 t.num) (.string t.text) (.slice T3 t.items.length d3) (.slice T4 t.names.length d4) HOWN.out hxl);have h30:=bi w2 p (ts.length * 5) (.int .i64 t.kind) (.int .i64 t.num) (.string t.text) (.slice T3 t.items.length d3) (.slice T4 t.names.length d4);have h31:=cK w2 p (ts.length * 5) (.int .i64 t.kind) (.int .i64 t.num) (.string t.text) (.slice T3 t.items.length d3) (.slice T4 t.names.length d4);have h32:(cX w2 p (ts.length * 5) (.int .i64 t.kind) (.int .i64 t.num) (.string t.text) (.slice T3 t.items.length d3) (.slice T4 t.names.length d4)).os=w2.os:=rfl;have h33:(cX w2 p (ts.length * 5) (.int .i64 t.kind) (.int .i64 t.num) (.string t.text) (.slice T3 t.items.length d3) (.slice T4 t.names.length d4)).tape=w2.tape:=rfl;have h34:(cX w2 p (ts.length * 5) (.int .i64 t.kind) (.int .i64 t.num) (.string t.text) (.slice T3 t.items.length d3) (.slice T4 t.names.length d4)).output=w2.output:=rfl;clear hK K q0 q1 q2 q3 q4 hfz;change Hid (World.ownsRow (cX w2 p (ts.length * 5) (.int .i64 t.kind) (.int .i64 t.num) (.string t.text) (.slice T3 t.items.length d3) (.slice T4 t.names.length d4)) _ _ _ _ _ _)at HO3;generalize cX w2 p (ts.length * 5) (.int .i64 t.kind) (.int .i64 t.num) (.string t.text) (.slice T3 t.items.length d3) (.slice T4 t.names.length d4)=w3 at HO3 h30 h31 h32 h33 h34 ⊢;have HB3:=hid (show Box w3 vb (.int .i64 k) (.int .i64 0) (.string eS) (.slice AI ts.length cI) VN from(h30 vb hvp).trans HBX.out)
   have b3:=HB3.out.c3;have f3:=HB3.out.free 3;refine dJ rfl (fun K hK=> ?_)
   go_simp
   refine hK _ _ ?_;clear hK K;refine dt ?_
   go_end0
   exact HEND.out _ (fun b hb1 hb2=>(heap_setCell_other w3 ⟨vb,3,none⟩ b _ hb2).trans (h30 b hb1)) h32 h33 h34 (by simp[h31]) (aM HO3.out fun q hq=>heap_setCell_other w3 ⟨vb,3,none⟩ q _ (by simp only[Value.ownBlock,Option.some.injEq]at hq;subst hq;exact fun e=>hvp e.symm)) (HB3.out.set3 _)
  ·have b3:=HBX.out.c3;have f3:=HBX.out.free 3
   go_simp
   refine hK _ _ (.inl (by decide)) ?_;clear hK K b3 f3;have h30: ∀b,b≠vb→(w2.setCell ⟨vb,3,none⟩ (.slice (some ⟨p,0,none⟩) (ts.length+1) cap)).heap[b]? =w2.heap[b]? :=fun b hb=>heap_setCell_other w2 ⟨vb,3,none⟩ b _ hb;have h31:(w2.setCell ⟨vb,3,none⟩ (.slice (some ⟨p,0,none⟩) (ts.length+1) cap)).heap.size=w2.heap.size:=by simp
   have h32:(w2.setCell ⟨vb,3,none⟩ (.slice (some ⟨p,0,none⟩) (ts.length+1) cap)).os=w2.os:=rfl;have h33:(w2.setCell ⟨vb,3,none⟩ (.slice (some ⟨p,0,none⟩) (ts.length+1) cap)).tape=w2.tape:=rfl;have h34:(w2.setCell ⟨vb,3,none⟩ (.slice (some ⟨p,0,none⟩) (ts.length+1) cap)).output=w2.output:=rfl;have HB3:=hid (HBX.out.set3 (.slice (some ⟨p,0,none⟩) (ts.length+1) cap));generalize w2.setCell ⟨vb,3,none⟩ (.slice (some ⟨p,0,none⟩) (ts.length+1) cap)=w3 at HB3 h30 h31 h32 h33 h34 ⊢;have HO2:=hid (aM HOWN.out (w':=w3) fun q hq=>h30 q (by simp only[Value.ownBlock,Option.some.injEq]at hq;subst hq;exact fun e=>hvp e.symm));have hcell:=fun i (hi:i<(ts.length+1) * 5)=>World.ownsRow.cellAt HO2.out i hi;have q0:w3.cell? ⟨p,ts.length * 5,none⟩=some (.int .i64 0):=(hcell _ (by omega)).trans (by rw[←hxl,List.getElem?_append_right (Nat.le_refl _)];simp);have q1:w3.cell? ⟨p,ts.length * 5+1,none⟩=some (.int .i64 0):=(hcell _ (by omega)).trans (by rw[←hxl,List.getElem?_append_right (by omega)];simp);have q2:w3.cell? ⟨p,ts.length * 5+2,none⟩=some (.string ⟨#[]⟩):=(hcell _ (by omega)).trans (by rw[←hxl,List.getElem?_append_right (by omega)];simp);have q3:w3.cell? ⟨p,ts.length * 5+3,none⟩=some (.slice none 0 0):=(hcell _ (by omega)).trans (by rw[←hxl,List.getElem?_append_right (by omega)];simp);have q4:w3.cell? ⟨p,ts.length * 5+4,none⟩=some (.slice none 0 0):=(hcell _ (by omega)).trans (by rw[←hxl,List.getElem?_append_right (by omega)];simp);have hfz:=fun i=>World.ownsRow.frozenAt HO2.out i;clear hcell
   refine dJ rfl (fun K hK=> ?_)
   go_simp
   refine hK _ (cX w3 p (ts.length * 5) _ _ _ _ _) ?_;clear hK K q0 q1 q2 q3 q4 hfz;refine dt ?_
   go_end0
   exact HEND.out (cX w3 p (ts.length * 5) _ _ _ _ _) (fun b hb1 hb2=>(bi w3 p _ _ _ _ _ _ b hb1).trans (h30 b hb2)) h32 h33 h34 ((cK w3 p _ _ _ _ _ _).trans h31) (ir (.int .i64 t.kind) (.int .i64 t.num) (.string t.text) (.slice T3 t.items.length d3) (.slice T4 t.names.length d4) HO2.out hxl) (show Box _ vb _ _ _ _ _ from(bi w3 p _ _ _ _ _ _ vb hvp).trans HB3.out)
theorem gp (st:Option (List UInt8)):(ak st).1<256:=by
  rcases st with _|_|⟨b,r⟩
  · simp[ak]
  · simp[ak]
  · exact UInt8.toNat_lt b
theorem oS (st:Option (List UInt8)):Rng (ef st).1:=by
  have h:=pK 18446744073709551615 st;unfold ef;exact tH _ h
theorem gh {st:Option (List UInt8)}{k:Nat}(h:(ak st).1=k)(hk:k≠0): ∃l,st=some l∧ ∃r,ak (some l)=(k,some r):=by
  rcases st with _|_|⟨b,r⟩
  · exact absurd h (by simp only[ak];omega)
  · exact absurd h (by simp only[ak];omega)
  · exact⟨_,rfl,r,by rw[←h];rfl⟩
theorem xM (d:Nat){l r:List UInt8}(h:ak (some l)=(2,some r)):rdW (d+1) l=match ak (some r)with|(i,some r')=>some (.mk 2 i eS [] [],r')|(_,none)=>none:=by
  unfold rdW;rw[h];simp only;rfl
theorem tX (d:Nat){l r:List UInt8}(h:ak (some l)=(3,some r)):rdW (d+1) l=match ef (some r)with|(i,some r')=>some (.mk 3 i eS [] [],r')|(_,none)=>none:=by
  unfold rdW;rw[h];simp only;rfl
theorem wW (d k:Nat)(hk:k=4∨k=5){l r:List UInt8}(h:ak (some l)=(k,some r)):rdW (d+1) l=match am 4096 (some r)with|(x,some r')=>some (.mk k 0 (fZ x) [] [],r')|(_,none)=>none:=by
  unfold rdW;rw[h];simp only;rw[if_neg (by omega),if_neg (by omega),if_pos hk];rfl
theorem uA (d k:Nat)(hk:k=6∨k=7){l r:List UInt8}(h:ak (some l)=(k,some r)):rdW (d+1) l=match ae 4096 (some r)with
        |(_,none)=>none
        |(n,some r')=>match bB (rdW d) (decide (k=7)) n r' with
          |none=>none
          |some (ts,ns,r'')=>some (.mk k 0 eS ts ns,r''):=by
  unfold rdW;rw[h];simp only;rw[if_neg (by omega),if_neg (by omega),if_neg (by omega),if_pos hk];rfl
theorem oX (d k:Nat)(h2:k≠2)(h3:k≠3)(h4:k≠4)(h5:k≠5)(h6:k≠6)(h7:k≠7){l r:List UInt8}(h:ak (some l)=(k,some r)):rdW (d+1) l=some (.mk k 0 eS [] [],r):=by
  unfold rdW;rw[h];simp only;rw[if_neg h2,if_neg h3,if_neg (by omega),if_neg (by omega)]
theorem ta (d:Nat)(least:Int){st:Option (List UInt8)}(h:(ak st).1=2):Rel (d+1) least st (.mk 2 (ak (ak st).2).1 eS [] []) (ak (ak st).2).2:=by
  obtain⟨l,rfl,r,hr⟩:=gh h (by omega);have hw:=xM d hr;rw[hr];obtain⟨⟨i,s⟩,hp⟩: ∃p,p=ak (some r):=⟨_,rfl⟩;rw[←hp]at hw ⊢
  cases s with
  |none=>intro l' u r' e hu;cases e;rw[hw]at hu;cases hu
  |some r'=>exact⟨l,rfl,hw⟩
theorem oC (d:Nat)(least:Int){st:Option (List UInt8)}(h:(ak st).1=3):Rel (d+1) least st (.mk 3 (ef (ak st).2).1 eS [] []) (ef (ak st).2).2:=by
  obtain⟨l,rfl,r,hr⟩:=gh h (by omega);have hw:=tX d hr;rw[hr];obtain⟨⟨i,s⟩,hp⟩: ∃p,p=ef (some r):=⟨_,rfl⟩;rw[←hp]at hw ⊢
  cases s with
  |none=>intro l' u r' e hu;cases e;rw[hw]at hu;cases hu
  |some r'=>exact⟨l,rfl,hw⟩
theorem kI (d k:Nat)(hk:k=4∨k=5)(least:Int){st:Option (List UInt8)}(h:(ak st).1=k):Rel (d+1) least st (.mk k 0 (fZ (am 4096 (ak st).2).1) [] []) (am 4096 (ak st).2).2:=by
  obtain⟨l,rfl,r,hr⟩:=gh h (by omega);have hw:=wW d k hk hr;rw[hr];obtain⟨⟨i,s⟩,hp⟩: ∃p,p=am 4096 (some r):=⟨_,rfl⟩;rw[←hp]at hw ⊢
  cases s with
  |none=>intro l' u r' e hu;cases e;rw[hw]at hu;cases hu
  |some r'=>exact⟨l,rfl,hw⟩
theorem ot (d:Nat)(least:Int){st:Option (List UInt8)}{k:Nat}(h:(ak st).1=k)(h2:k≠2)(h3:k≠3)(h4:k≠4)(h5:k≠5)(h6:k≠6)(h7:k≠7):Rel (d+1) least st (.mk k 0 eS [] []) (ak st).2:=by
  rcases st with _|l
  · intro l' u r' e;cases e
  · obtain⟨⟨i,s⟩,hp⟩: ∃p,p=ak (some l):=⟨_,rfl⟩
    rw[←hp]at h ⊢;simp only at h;subst h
    cases s with
    |none=>
      intro l' u r' e hu;cases e;unfold rdW at hu;rw[←hp]at hu
      cases hu
    |some r=>exact⟨l,rfl,oX d i h2 h3 h4 h5 h6 h7 hp.symm⟩
theorem rK {k i:Int}{s:ByteArray}{l:List VT}{ns:List ByteArray}(h:dw l=false):bE (.mk k i s l ns)=false:=by
  rw[lO];simp only[VT.items];rw[h,Bool.and_false]
theorem go (d k:Nat)(hk:k=6∨k=7)(least:Int){st st':Option (List UInt8)}{ts:List VT}{ns:List ByteArray}(h:(ak st).1=k)
    (hi:j4 (decide (k=7)) d least (ae 4096 (ak st).2).1 (ae 4096 (ak st).2).2 ts ns st'):Rel (d+1) least st (.mk k 0 eS ts ns) st':=by
  obtain⟨l,rfl,r,hr⟩:=gh h (by omega);have hw:=uA d k hk hr;rw[hr]at hi;obtain⟨⟨n,s⟩,hp⟩: ∃p,p=ae 4096 (some r):=⟨_,rfl⟩;simp only at hi;rw[←hp]at hw hi
  cases st' with
  |none=>
    intro l' u r' e hu;cases e;rw[hw]at hu
    cases s with
    |none=>cases hu
    |some r2=>
      simp only at hu
      cases hq:bB (rdW d) (decide (k=7)) n r2 with
      |none=>rw[hq]at hu;cases hu
      |some p=>
        obtain⟨us,ms,r3⟩:=p;rw[hq]at hu;simp only[Option.some.injEq,Prod.mk.injEq]at hu;obtain⟨rfl,rfl⟩:=hu;rcases hi r2 us ms r3 rfl hq with h1|h1
        · exact .inl (rK h1)
        · exact .inr h1
  |some r'=>
    obtain⟨l2,h1,h2⟩:=hi;simp only at h1;subst h1;refine⟨l,rfl,?_⟩;rw[hw];simp only;rw[h2]
theorem fA {w:World}{B:Nat}{S:Nat→Prop}{v:Value}{ts:List VT}(h:pC w B S v ts)(hS: ∀b,S b→B≤b∧b<w.heap.size): ∃A c,v= .slice A ts.length c∧LVA w (New B w) A ts:=by
  obtain⟨xs,h1,h2⟩:=h;rcases h1.2 with ⟨rfl,h3⟩|⟨g,cap,cur,rfl,hg,hh,r⟩
  · exact⟨none,0,by rw[h3],fun hp=>absurd hp (by omega)⟩
  · refine⟨_,_,rfl,fun hp=>⟨g,0,rfl,⟨hg,(Array.getElem?_eq_some_iff.1 hh).1⟩,LVs.intro fun j hj=> ?_⟩⟩
    obtain⟨c0,c1,c2,c3,c4,e,hx⟩:=h2 j hj
    have hc: ∀i (u:Value),[c0,c1,c2,c3,c4][i]? =some u→w.cell? ⟨g,0+j * 5+i,none⟩=some u:=by
      intro i u hu;have h':w.ownsRow B 43 5 (.slice (some ⟨g,0,none⟩) ts.length cap) ts.length xs:=h1;have hi:i<5:=by have:=(List.getElem?_eq_some_iff.1 hu).1;simpa using this
      have:=h'.cells (g:=g) rfl (j * 5+i) u (by
        rw[←e,List.getElem?_take,if_pos hi,List.getElem?_drop]at hu
        exact hu)
      rw[tr,Nat.zero_add]at this;rw[Nat.zero_add];exact this
    exact⟨c0,c1,c2,c3,c4,hc 0 c0 rfl,hc 1 c1 rfl,hc 2 c2 rfl,hc 3 c3 rfl,hc 4 c4 rfl,hx.imp hS⟩
theorem Dec.set {w:World}{D g:Nat}{least lv:Int}(h:Dec w D g least lv)(x:Int):Dec (w.setCell ⟨D,2,none⟩ (.int .i64 x)) D g least x:=Go.Joins.block_setCell (i:=2) h _
theorem Dec.c0 {w:World}{D g:Nat}{least lv:Int}(h:Dec w D g least lv):w.cell? ⟨D,0,none⟩=some (.pointer (some ⟨g,0,none⟩)):=Go.Joins.cell_of_block h 0
theorem Dec.c2 {w:World}{D g:Nat}{least lv:Int}(h:Dec w D g least lv):w.cell? ⟨D,2,none⟩=some (.int .i64 lv):=Go.Joins.cell_of_block h 2
theorem Dec.alloc {w:World}{D g:Nat}{least lv:Int}(h:Dec w D g least lv)(o:Obj):Dec (w.alloc o) D g least lv:=(Below.heap_alloc w o D h.lt).trans h
structure Mid (w w':World)(D g:Nat)(least lv:Int)(st:Option (List UInt8)):Prop where
 dec:Dec w' D g least lv
 pb:PB w' w.heap.size D
 rb:Box w' (w.heap.size+1) (.int .i64 0) (.int .i64 0) (.string ⟨#[]⟩) (.slice none 0 0) (.slice none 0 0)
 src:aN w' g st
 os:w'.os=w.os
 tape:w'.tape=w.tape
 output:w'.output=w.output
 far: ∀b,b<w.heap.size→b≠g→b≠D→w'.heap[b]? =w.heap[b]?
 size:w.heap.size+2≤w'.heap.size
theorem Mid.first {w:World}{D g:Nat}{least lv lv':Int}{st:Option (List UInt8)}(hd:Dec w D g least lv)(hs:aN w g st)(hDg:D≠g):
  Mid w (((w.setCell ⟨D,2,none⟩ (.int .i64 lv')).alloc (.cells #[.pointer (some ⟨D,0,none⟩)] 176)).alloc (.cells #[.int .i64 0,.int .i64 0,.string ⟨#[]⟩,.slice none 0 0,.slice none 0 0] 43)) D g least lv' st:=by
 have hz:(w.setCell ⟨D,2,none⟩ (.int .i64 lv')).heap.size=w.heap.size:=by simp
 have hz2:((w.setCell ⟨D,2,none⟩ (.int .i64 lv')).alloc (.cells #[.pointer (some ⟨D,0,none⟩)] 176)).heap.size=w.heap.size+1:=by simp
 have hk: ∀b,b<w.heap.size→b≠D→(((w.setCell ⟨D,2,none⟩ (.int .i64 lv')).alloc (.cells #[.pointer (some ⟨D,0,none⟩)] 176)).alloc (.cells #[.int .i64 0,.int .i64 0,.string ⟨#[]⟩,.slice none 0 0,.slice none 0 0] 43)).heap[b]? =w.heap[b]? :=fun b hb hbD=>by
  rw[Below.heap_alloc _ _ b (by omega),Below.heap_alloc _ _ b (by omega),heap_setCell_other _ ⟨D,2,none⟩ b _ hbD]
 refine⟨((hd.set lv').alloc _).alloc _,?_,?_,hs.of (hk g hs.lt (fun e=>hDg e.symm)),rfl,rfl,rfl,fun b hb _ hbD=>hk b hb hbD,by simp⟩
 ·have h:=heap_alloc_new (w.setCell ⟨D,2,none⟩ (.int .i64 lv')) (.cells #[.pointer (some ⟨D,0,none⟩)] 176);rw[hz]at h;exact(Below.heap_alloc _ _ _ (by omega)).trans h
 ·have h:=Box.new (w:=(w.setCell ⟨D,2,none⟩ (.int .i64 lv')).alloc (.cells #[.pointer (some ⟨D,0,none⟩)] 176)) (.int .i64 0) (.int .i64 0) (.string ⟨#[]⟩) (.slice none 0 0) (.slice none 0 0);rw[hz2]at h;exact h
theorem Mid.call {w w1 w2:World}{D g:Nat}{least lv:Int}{st st':Option (List UInt8)}(h:Mid w w1 D g least lv st)(hs:aN w2 g st')(ho:au w1 w2 g)(hDg:D≠g)(hg:g<w.heap.size):Mid w w2 D g least lv st':=by
 have hz:=h.size;have hk: ∀b,b<w1.heap.size→b≠g→w2.heap[b]? =w1.heap[b]? :=fun b hb hbg=>ho.block b hb (fun e=>hbg (by cases e;rfl))
 exact⟨(hk D h.dec.lt hDg).trans h.dec,(hk _ (by omega) (by omega)).trans h.pb,(hk _ (by omega) (by omega)).trans h.rb,hs,ho.os.trans h.os,ho.tape.trans h.tape,ho.output.trans h.output,
  fun b hb hbg hbD=>(hk b (by omega) hbg).trans (h.far b hb hbg hbD),Nat.le_trans hz ho.size⟩
theorem Mid.fars {w w1 w2:World}{D g vb:Nat}{least lv:Int}{st st':Option (List UInt8)}(h:Mid w w1 D g least lv st)(hs:aN w2 g st')(ho:Far vb g w1 w2)(hDg:D≠g)(hD:D<w.heap.size)(hg:g<w.heap.size)(hv:w.heap.size+2≤vb):Mid w w2 D g least lv st':=by
 have hz:=h.size
 exact⟨(ho.block D (by omega) hDg).trans h.dec,(ho.block _ (by omega) (by omega)).trans h.pb,(ho.block _ (by omega) (by omega)).trans h.rb,hs,ho.os.trans h.os,ho.tape.trans h.tape,ho.output.trans h.output,
  fun b hb hbg hbD=>(ho.block b (by omega) hbg).trans (h.far b hb hbg hbD),Nat.le_trans hz ho.size⟩
theorem Mid.alloc {w w1:World}{D g:Nat}{least lv:Int}{st:Option (List UInt8)}(h:Mid w w1 D g least lv st)(o:Obj):Mid w (w1.alloc o) D g least lv st:=by
 have hz:=h.size
 exact⟨h.dec.alloc o,(Below.heap_alloc w1 o _ (by omega)).trans h.pb,(Below.heap_alloc w1 o _ (by omega)).trans h.rb,h.src.of (Below.heap_alloc w1 o g h.src.lt),h.os,h.tape,h.output,
  fun b hb hbg hbD=>(Below.heap_alloc w1 o b (by omega)).trans (h.far b hb hbg hbD),by simp;omega⟩
theorem Mid.set {w w1:World}{D g vb i:Nat}{u:Value}{least lv:Int}{st:Option (List UInt8)}(h:Mid w w1 D g least lv st)(hv:w.heap.size+2≤vb)(hD:D<w.heap.size)(hg:g<w.heap.size):Mid w (w1.setCell ⟨vb,i,none⟩ u) D g least lv st:=by
 have hk: ∀b,b≠vb→(w1.setCell ⟨vb,i,none⟩ u).heap[b]? =w1.heap[b]? :=fun b hb=>heap_setCell_other _ ⟨vb,i,none⟩ b _ hb
 exact⟨(hk D (by omega)).trans h.dec,(hk _ (by omega)).trans h.pb,(hk _ (by omega)).trans h.rb,h.src.of (hk g (by omega)),h.os,h.tape,h.output,
  fun b hb hbg hbD=>(hk b (by omega)).trans (h.far b hb hbg hbD),by simp;exact h.size⟩
theorem gO {w w4:World}{d D g:Nat}{least lv lv':Int}{st st':Option (List UInt8)}{S:Nat→Prop}{t:VT}{c0 c1 c2 c3 c4:Value}(hd:Dec w D g least lv)(h:Mid w w4 D g least lv' st')(hDg:D≠g)(hg:g<w.heap.size)
  (hv:LV w4 S t (.agg #[c0,c1,c2,c3,c4])) (hS: ∀b,S b→w.heap.size+2≤b∧b<w4.heap.size) (hrel:Rel d least st t st'):
  zh d g least st w (.returned (.agg #[c0,c1,c2,c3,c4])) (cX (w4.setCell ⟨D,2,none⟩ (.int .i64 lv)) (w.heap.size+1) 0 c0 c1 c2 c3 c4):=by
 have hDl:=hd.lt;have hz:=h.size;have hr:=eE (w4.setCell ⟨D,2,none⟩ (.int .i64 lv)) (w.heap.size+1) 0 c0 c1 c2 c3 c4
 have hk: ∀b,b≠D→b≠w.heap.size+1→(cX (w4.setCell ⟨D,2,none⟩ (.int .i64 lv)) (w.heap.size+1) 0 c0 c1 c2 c3 c4).heap[b]? =w4.heap[b]? :=fun b h1 h2=>by
  rw[bi _ _ _ _ _ _ _ _ b h2,heap_setCell_other _ ⟨D,2,none⟩ b _ h1]
 have hD:(cX (w4.setCell ⟨D,2,none⟩ (.int .i64 lv)) (w.heap.size+1) 0 c0 c1 c2 c3 c4).heap[D]? =w.heap[D]? :=by
  rw[bi _ _ _ _ _ _ _ _ D (by omega)];exact(h.dec.set lv).trans (show w.heap[D]? =_ from hd).symm
 have hsz:(cX (w4.setCell ⟨D,2,none⟩ (.int .i64 lv)) (w.heap.size+1) 0 c0 c1 c2 c3 c4).heap.size=w4.heap.size:=by rw[cK];simp
 refine⟨_,t,st',rfl,h.src.of (hk g (fun e=>hDg e.symm) (by omega)),⟨hr.1.trans h.os,hr.2.1.trans h.tape,hr.2.2.trans h.output,by rw[hsz];omega,fun b hb hbg=> ?_⟩,?_,hrel⟩
 ·by_cases hbD:b=D
  ·subst hbD;exact hD
  ·exact(hk b hbD (by omega)).trans (h.far b hb (fun e=>hbg (by rw[e])) hbD)
 ·refine(hv.keep (w':=_) fun b hb=> ?_).imp fun b hb=> ?_
  ·have:=hS b hb;exact hk b (by omega) (by omega)
  ·have:=hS b hb;exact⟨by omega,by rw[hsz];omega⟩
theorem po :ey 186:=fun _ _=>by simp[callFunc,go_sem,Tryz.func186,Tryz.f186]
theorem pu :ey 187:=fun _ _=>by simp[callFunc,go_sem,Tryz.func187,Tryz.f187]
theorem xr (d:Nat)(hd8:d<8)(hok:oZ d):oZ (d+1):=by
 intro D g least st w hd hs hDg;have hDl:=hd.lt;have hgl:=hs.lt;obtain⟨lv,hlv⟩: ∃lv:Int,lv=8 - ((d+1:Nat):Int):=⟨_,rfl⟩;rw[←hlv]at hd;have HD:=hid hd;have hlv0:0≤lv:=by omega
 have hlv7:lv≤7:=by omega
 have hlv1: ¬lv+1>8:=by omega
 have hlv2:decide (lv+1>8)=false:=decide_eq_false hlv1;have HLV:=hid hlv;have HM3:=hid (Mid.first (lv':=lv+1) hd hs hDg);clear hlv hs;have hd2:=(hd.alloc (.cells #[.pointer (some ⟨D,0,none⟩)] 176)).alloc (.cells #[.int .i64 0,.int .i64 0,.string ⟨#[]⟩,.slice none 0 0,.slice none 0 0] 43);have e0:=HM3.out.dec.c0;have e2:=HM3.out.dec.c2;have d0:=hd2.c0;have d2:=hd2.c2;have df:=fun i=>Go.Joins.unfrozen_of_block hd2 i;clear hd2 hd;go_enter Tryz.func163,Tryz.ntmps163;go_wp2_with fail;obtain⟨kk,hkk⟩: ∃kk:Int,kk=((ak st).1:Int):=⟨_,rfl⟩;obtain⟨st1,hst1⟩: ∃st1,st1=(ak st).2:=⟨_,rfl⟩;refine(ft g st _ HM3.out.src).mono ?_;rintro e w1 ⟨rfl,hs1,ho1⟩;rw[←hst1]at hs1;rw[←hkk];have hm1:=HM3.out.call hs1 ho1 hDg hgl;have HKK:=hid hkk;have HST:=hid hst1;clear ho1 hs1 HM3 e0 e2 d0 d2 df hkk hst1;by_cases h2:kk=2
 ·subst h2;have hm2:=hm1.alloc (.cells #[.int .i64 2,.int .i64 0,.string ⟨#[]⟩,.slice none 0 0,.slice none 0 0] 43);have hbx:Box (w1.alloc (.cells #[.int .i64 2,.int .i64 0,.string ⟨#[]⟩,.slice none 0 0,.slice none 0 0] 43)) w1.heap.size _ _ _ _ _:=Box.new _ _ _ _ _;have hz1:=hm1.size;have p0:(w1.alloc (.cells #[.int .i64 2,.int .i64 0,.string ⟨#[]⟩,.slice none 0 0,.slice none 0 0] 43)).cell? ⟨w.heap.size,0,none⟩=some (.pointer (some ⟨D,0,none⟩)):=Go.Joins.cell_of_block hm2.pb 0;have e0:=hm2.dec.c0;have e2:=hm2.dec.c2;have df:=fun i=>Go.Joins.unfrozen_of_block hm2.dec i;have rf:=fun i=>hm2.rb.free i;have r0:=hm2.rb.c0;have r1:=hm2.rb.c1;have r2:=hm2.rb.c2;have r3:=hm2.rb.c3;have r4:=hm2.rb.c4;have HM2:=hid hm2;have HBX:=hid hbx;clear hm1 hm2 hbx;go_wp2_with fail;clear p0 e0 e2 df rf r0 r1 r2 r3 r4;refine(ft g st1 _ HM2.out.src).mono ?_;rintro e w3 ⟨rfl,hs3,ho3⟩;have hm3:=HM2.out.call hs3 ho3 hDg hgl;have hb3:=cR HBX.out ho3 (by omega);have p0:(w3).cell? ⟨w.heap.size,0,none⟩=some (.pointer (some ⟨D,0,none⟩)):=Go.Joins.cell_of_block hm3.pb 0;have e0:=hm3.dec.c0;have e2:=hm3.dec.c2;have df:=fun i=>Go.Joins.unfrozen_of_block hm3.dec i;have rf:=fun i=>hm3.rb.free i;have r0:=hm3.rb.c0;have r1:=hm3.rb.c1;have r2:=hm3.rb.c2;have r3:=hm3.rb.c3;have r4:=hm3.rb.c4;have v0:=hb3.c0;have v1:=hb3.c1;have v2:=hb3.c2;have v3:=hb3.c3;have v4:=hb3.c4;have vf:=fun i=>hb3.free i;have n1:w1.heap.size≠D:=by omega
  have n2:w1.heap.size≠w.heap.size+1:=by omega
  have n3:w1.heap.size≠w.heap.size:=by omega
  obtain⟨x,hx⟩: ∃x,x=(ak st1).1:=⟨_,rfl⟩;obtain⟨st3,hst3⟩: ∃st3,st3=(ak st1).2:=⟨_,rfl⟩;rw[←hx];rw[←hst3]at hm3 hs3;have HM3:=hid hm3;have HB3:=hid hb3;have HX:=hid (And.intro hx hst3);clear hm3 hb3 hx hst3 hs3 ho3;go_wp2_with fail;have hm4:=HM3.out.set (vb:=w1.heap.size) (i:=1) (u:= .int .i64 x) (by omega) hDl hgl;refine bodyPost_ret (results_cell_row rfl _ _ (w.heap.size+1) 43 _ (0,0) _ rfl (bd (hm4.rb.other D 2 _ (by omega))) Tryz.underlying43 rfl (by kernel_rfl)) rfl ?_;refine gO (t:= .mk 2 x eS [] []) HD.out hm4 hDg hgl (LV.mk (S:=fun _=>False) (by unfold Rng;omega) (by obtain⟨rfl,-⟩:=HX.out;have:=gp st1;unfold Rng;omega) (by decide) (by simp) (by simp) (cO _ _ _) (dM _ _ _)) (fun _ h=>h.elim) ?_;have h:=HST.out;subst h;obtain⟨rfl,rfl⟩:=HX.out;exact ta d least (by have:=HKK.out;omega)
 by_cases h3:kk=3
 ·subst h3;have hm2:=hm1.alloc (.cells #[.int .i64 3,.int .i64 0,.string ⟨#[]⟩,.slice none 0 0,.slice none 0 0] 43);have hbx:Box (w1.alloc (.cells #[.int .i64 3,.int .i64 0,.string ⟨#[]⟩,.slice none 0 0,.slice none 0 0] 43)) w1.heap.size _ _ _ _ _:=Box.new _ _ _ _ _;have hz1:=hm1.size;have p0:(w1.alloc (.cells #[.int .i64 3,.int .i64 0,.string ⟨#[]⟩,.slice none 0 0,.slice none 0 0] 43)).cell? ⟨w.heap.size,0,none⟩=some (.pointer (some ⟨D,0,none⟩)):=Go.Joins.cell_of_block hm2.pb 0;have e0:=hm2.dec.c0;have e2:=hm2.dec.c2;have df:=fun i=>Go.Joins.unfrozen_of_block hm2.dec i;have rf:=fun i=>hm2.rb.free i;have r0:=hm2.rb.c0;have r1:=hm2.rb.c1;have r2:=hm2.rb.c2;have r3:=hm2.rb.c3;have r4:=hm2.rb.c4;have HM2:=hid hm2;have HBX:=hid hbx;clear hm1 hm2 hbx;go_wp2_with fail;clear p0 e0 e2 df rf r0 r1 r2 r3 r4;refine(wM g st1 _ HM2.out.src).mono ?_;rintro e w3 ⟨rfl,hs3,ho3⟩;have hm3:=HM2.out.call hs3 ho3 hDg hgl;have hb3:=cR HBX.out ho3 (by omega);have p0:(w3).cell? ⟨w.heap.size,0,none⟩=some (.pointer (some ⟨D,0,none⟩)):=Go.Joins.cell_of_block hm3.pb 0;have e0:=hm3.dec.c0;have e2:=hm3.dec.c2;have df:=fun i=>Go.Joins.unfrozen_of_block hm3.dec i;have rf:=fun i=>hm3.rb.free i;have r0:=hm3.rb.c0;have r1:=hm3.rb.c1;have r2:=hm3.rb.c2;have r3:=hm3.rb.c3;have r4:=hm3.rb.c4;have v0:=hb3.c0;have v1:=hb3.c1;have v2:=hb3.c2;have v3:=hb3.c3;have v4:=hb3.c4;have vf:=fun i=>hb3.free i;have n1:w1.heap.size≠D:=by omega
  have n2:w1.heap.size≠w.heap.size+1:=by omega
  have n3:w1.heap.size≠w.heap.size:=by omega
  obtain⟨x,hx⟩: ∃x,x=(ef st1).1:=⟨_,rfl⟩;obtain⟨st3,hst3⟩: ∃st3,st3=(ef st1).2:=⟨_,rfl⟩;rw[←hx];rw[←hst3]at hm3 hs3;have HM3:=hid hm3;have HB3:=hid hb3;have HX:=hid (And.intro hx hst3);clear hm3 hb3 hx hst3 hs3 ho3;go_wp2_with fail;have hm4:=HM3.out.set (vb:=w1.heap.size) (i:=1) (u:= .int .i64 x) (by omega) hDl hgl;refine bodyPost_ret (results_cell_row rfl _ _ (w.heap.size+1) 43 _ (0,0) _ rfl (bd (hm4.rb.other D 2 _ (by omega))) Tryz.underlying43 rfl (by kernel_rfl)) rfl ?_;refine gO (t:= .mk 3 x eS [] []) HD.out hm4 hDg hgl (LV.mk (S:=fun _=>False) (by unfold Rng;omega) (by obtain⟨rfl,-⟩:=HX.out;exact oS st1) (by decide) (by simp) (by simp) (cO _ _ _) (dM _ _ _)) (fun _ h=>h.elim) ?_;have h:=HST.out;subst h;obtain⟨rfl,rfl⟩:=HX.out;exact oC d least (by have:=HKK.out;omega)
 by_cases h4:kk=4
 ·subst h4;have hm2:=hm1.alloc (.cells #[.int .i64 4,.int .i64 0,.string ⟨#[]⟩,.slice none 0 0,.slice none 0 0] 43);have hbx:Box (w1.alloc (.cells #[.int .i64 4,.int .i64 0,.string ⟨#[]⟩,.slice none 0 0,.slice none 0 0] 43)) w1.heap.size _ _ _ _ _:=Box.new _ _ _ _ _;have hz1:=hm1.size;have p0:(w1.alloc (.cells #[.int .i64 4,.int .i64 0,.string ⟨#[]⟩,.slice none 0 0,.slice none 0 0] 43)).cell? ⟨w.heap.size,0,none⟩=some (.pointer (some ⟨D,0,none⟩)):=Go.Joins.cell_of_block hm2.pb 0;have e0:=hm2.dec.c0;have e2:=hm2.dec.c2;have df:=fun i=>Go.Joins.unfrozen_of_block hm2.dec i;have rf:=fun i=>hm2.rb.free i;have r0:=hm2.rb.c0;have r1:=hm2.rb.c1;have r2:=hm2.rb.c2;have r3:=hm2.rb.c3;have r4:=hm2.rb.c4;have HM2:=hid hm2;have HBX:=hid hbx;clear hm1 hm2 hbx;go_wp2_with fail;clear p0 e0 e2 df rf r0 r1 r2 r3 r4;refine(dr g st1 4096 _ HM2.out.src (by omega)).mono ?_;rintro e w3 ⟨rfl,hs3,ho3⟩;have hm3:=HM2.out.call hs3 ho3 hDg hgl;have hb3:=cR HBX.out ho3 (by omega);have p0:(w3).cell? ⟨w.heap.size,0,none⟩=some (.pointer (some ⟨D,0,none⟩)):=Go.Joins.cell_of_block hm3.pb 0;have e0:=hm3.dec.c0;have e2:=hm3.dec.c2;have df:=fun i=>Go.Joins.unfrozen_of_block hm3.dec i;have rf:=fun i=>hm3.rb.free i;have r0:=hm3.rb.c0;have r1:=hm3.rb.c1;have r2:=hm3.rb.c2;have r3:=hm3.rb.c3;have r4:=hm3.rb.c4;have v0:=hb3.c0;have v1:=hb3.c1;have v2:=hb3.c2;have v3:=hb3.c3;have v4:=hb3.c4;have vf:=fun i=>hb3.free i;have n1:w1.heap.size≠D:=by omega
  have n2:w1.heap.size≠w.heap.size+1:=by omega
  have n3:w1.heap.size≠w.heap.size:=by omega
  obtain⟨x,hx⟩: ∃x,x=(am 4096 st1).1:=⟨_,rfl⟩;obtain⟨st3,hst3⟩: ∃st3,st3=(am 4096 st1).2:=⟨_,rfl⟩;rw[←hx];rw[←hst3]at hm3 hs3;have HM3:=hid hm3;have HB3:=hid hb3;have HX:=hid (And.intro hx hst3);clear hm3 hb3 hx hst3 hs3 ho3;go_wp2_with fail;have hm4:=HM3.out.set (vb:=w1.heap.size) (i:=2) (u:= .string ⟨x.toArray⟩) (by omega) hDl hgl;refine bodyPost_ret (results_cell_row rfl _ _ (w.heap.size+1) 43 _ (0,0) _ rfl (bd (hm4.rb.other D 2 _ (by omega))) Tryz.underlying43 rfl (by kernel_rfl)) rfl ?_;refine gO (t:= .mk 4 0 (fZ x) [] []) HD.out hm4 hDg hgl (LV.mk (S:=fun _=>False) (by unfold Rng;omega) (by unfold Rng;omega) (by obtain⟨rfl,-⟩:=HX.out;have:(am 4096 st1).1.length≤4096:=bD 4096 st1 (by omega);have e:(fZ (am 4096 st1).1).size=(am 4096 st1).1.length:=gm _;show(fZ (am 4096 st1).1).size≤_;omega) (by simp) (by simp) (cO _ _ _) (dM _ _ _)) (fun _ h=>h.elim) ?_;have h:=HST.out;subst h;obtain⟨rfl,rfl⟩:=HX.out;exact kI d 4 (by omega) least (by have:=HKK.out;omega)
 by_cases h5:kk=5
 ·subst h5;have hm2:=hm1.alloc (.cells #[.int .i64 5,.int .i64 0,.string ⟨#[]⟩,.slice none 0 0,.slice none 0 0] 43);have hbx:Box (w1.alloc (.cells #[.int .i64 5,.int .i64 0,.string ⟨#[]⟩,.slice none 0 0,.slice none 0 0] 43)) w1.heap.size _ _ _ _ _:=Box.new _ _ _ _ _;have hz1:=hm1.size;have p0:(w1.alloc (.cells #[.int .i64 5,.int .i64 0,.string ⟨#[]⟩,.slice none 0 0,.slice none 0 0] 43)).cell? ⟨w.heap.size,0,none⟩=some (.pointer (some ⟨D,0,none⟩)):=Go.Joins.cell_of_block hm2.pb 0;have e0:=hm2.dec.c0;have e2:=hm2.dec.c2;have df:=fun i=>Go.Joins.unfrozen_of_block hm2.dec i;have rf:=fun i=>hm2.rb.free i;have r0:=hm2.rb.c0;have r1:=hm2.rb.c1;have r2:=hm2.rb.c2;have r3:=hm2.rb.c3;have r4:=hm2.rb.c4;have HM2:=hid hm2;have HBX:=hid hbx;clear hm1 hm2 hbx;go_wp2_with fail;clear p0 e0 e2 df rf r0 r1 r2 r3 r4;refine(dr g st1 4096 _ HM2.out.src (by omega)).mono ?_;rintro e w3 ⟨rfl,hs3,ho3⟩;have hm3:=HM2.out.call hs3 ho3 hDg hgl;have hb3:=cR HBX.out ho3 (by omega);have p0:(w3).cell? ⟨w.heap.size,0,none⟩=some (.pointer (some ⟨D,0,none⟩)):=Go.Joins.cell_of_block hm3.pb 0;have e0:=hm3.dec.c0;have e2:=hm3.dec.c2;have df:=fun i=>Go.Joins.unfrozen_of_block hm3.dec i;have rf:=fun i=>hm3.rb.free i;have r0:=hm3.rb.c0;have r1:=hm3.rb.c1;have r2:=hm3.rb.c2;have r3:=hm3.rb.c3;have r4:=hm3.rb.c4;have v0:=hb3.c0;have v1:=hb3.c1;have v2:=hb3.c2;have v3:=hb3.c3;have v4:=hb3.c4;have vf:=fun i=>hb3.free i;have n1:w1.heap.size≠D:=by omega
  have n2:w1.heap.size≠w.heap.size+1:=by omega
  have n3:w1.heap.size≠w.heap.size:=by omega
  obtain⟨x,hx⟩: ∃x,x=(am 4096 st1).1:=⟨_,rfl⟩;obtain⟨st3,hst3⟩: ∃st3,st3=(am 4096 st1).2:=⟨_,rfl⟩;rw[←hx];rw[←hst3]at hm3 hs3;have HM3:=hid hm3;have HB3:=hid hb3;have HX:=hid (And.intro hx hst3);clear hm3 hb3 hx hst3 hs3 ho3;go_wp2_with fail;have hm4:=HM3.out.set (vb:=w1.heap.size) (i:=2) (u:= .string ⟨x.toArray⟩) (by omega) hDl hgl;refine bodyPost_ret (results_cell_row rfl _ _ (w.heap.size+1) 43 _ (0,0) _ rfl (bd (hm4.rb.other D 2 _ (by omega))) Tryz.underlying43 rfl (by kernel_rfl)) rfl ?_;refine gO (t:= .mk 5 0 (fZ x) [] []) HD.out hm4 hDg hgl (LV.mk (S:=fun _=>False) (by unfold Rng;omega) (by unfold Rng;omega) (by obtain⟨rfl,-⟩:=HX.out;have:(am 4096 st1).1.length≤4096:=bD 4096 st1 (by omega);have e:(fZ (am 4096 st1).1).size=(am 4096 st1).1.length:=gm _;show(fZ (am 4096 st1).1).size≤_;omega) (by simp) (by simp) (cO _ _ _) (dM _ _ _)) (fun _ h=>h.elim) ?_;have h:=HST.out;subst h;obtain⟨rfl,rfl⟩:=HX.out;exact kI d 5 (by omega) least (by have:=HKK.out;omega)
 by_cases h6:kk=6
 ·subst h6;have hm2:=hm1.alloc (.cells #[.int .i64 6,.int .i64 0,.string ⟨#[]⟩,.slice none 0 0,.slice none 0 0] 43);have hbx:Box (w1.alloc (.cells #[.int .i64 6,.int .i64 0,.string ⟨#[]⟩,.slice none 0 0,.slice none 0 0] 43)) w1.heap.size _ _ _ _ _:=Box.new _ _ _ _ _;have hz1:=hm1.size;have p0:(w1.alloc (.cells #[.int .i64 6,.int .i64 0,.string ⟨#[]⟩,.slice none 0 0,.slice none 0 0] 43)).cell? ⟨w.heap.size,0,none⟩=some (.pointer (some ⟨D,0,none⟩)):=Go.Joins.cell_of_block hm2.pb 0;have e0:=hm2.dec.c0;have e2:=hm2.dec.c2;have df:=fun i=>Go.Joins.unfrozen_of_block hm2.dec i;have rf:=fun i=>hm2.rb.free i;have r0:=hm2.rb.c0;have r1:=hm2.rb.c1;have r2:=hm2.rb.c2;have r3:=hm2.rb.c3;have r4:=hm2.rb.c4;have HM2:=hid hm2;have HBX:=hid hbx;clear hm1 hm2 hbx;go_wp2_with fail;clear p0 e0 e2 df rf r0 r1 r2 r3 r4;have hlv8:lv+1=8 - (d:Int):=by have:=HLV.out;omega
  have hdec:Dec (w1.alloc (.cells #[.int .i64 6,.int .i64 0,.string ⟨#[]⟩,.slice none 0 0,.slice none 0 0] 43)) D g least (8 - (d:Int)):=by rw[←hlv8];exact HM2.out.dec
  have hz2:(w1.alloc (.cells #[.int .i64 6,.int .i64 0,.string ⟨#[]⟩,.slice none 0 0,.slice none 0 0] 43)).heap.size=w1.heap.size+1:=by simp
  have hpv:PV (w1.alloc (.cells #[.int .i64 6,.int .i64 0,.string ⟨#[]⟩,.slice none 0 0,.slice none 0 0] 43)) (w1.heap.size+1) w1.heap.size 6 [] [] (.slice none 0 0) (.slice none 0 0) (fun _=>False):=
   ⟨HBX.out,⟨[],⟨rfl,.inl ⟨rfl,rfl⟩⟩,fun j hj=>absurd hj (by simp)⟩,⟨rfl,.inl ⟨rfl,rfl⟩⟩,(fun s hs=>by cases hs),fun _ h=>h.elim,by omega⟩
  have hlt:g<w1.heap.size∧D<w1.heap.size∧w.heap.size<w1.heap.size:=⟨by omega,by omega,by omega⟩
  have hit: ∀(st:Option (List UInt8)) (ts:List VT) (ns:List ByteArray) (VI VN:Value) (S:Nat→Prop) (w':World),PV w' (w1.heap.size+1) w1.heap.size 6 ts ns VI VN S→PB w' w.heap.size D→Dec w' D g least (8 - (d:Int))→aN w' g st→w1.heap.size+1≤w'.heap.size→ts.length≤100000→ns.length≤100000→
    Calls Tryz.prog 186 #[.pointer (some ⟨w1.heap.size,0,none⟩),.pointer (some ⟨w.heap.size,0,none⟩)] w' (qy false d g w1.heap.size (w1.heap.size+1) 6 least st ts ns w'):=by
   intro st ts ns VI VN S w' h1 h2 h3 h4 h5 h6 h7;have h8:=tV d hok D g w1.heap.size w.heap.size (w1.heap.size+1) 6 least st ts ns VI VN S w' h1 h2 h3 h4 hDg (by omega) (by omega) hlt h5 h6;exact h8.mono fun _ _ h=>h.g
  have hc:=nX false 186 d D g w1.heap.size w.heap.size (w1.heap.size+1) 6 least st1 _ _ _ _ hit hpv HM2.out.pb hdec HM2.out.src hDg (by omega) (by omega) hlt (by omega) po;clear hit hpv hdec;refine hc.mono ?_;clear hc;rintro e w3 ⟨ts,ns,st3,VI,VN,S,rfl,hpv3,⟨hlts,hlns⟩,hs3,hf3,hrel⟩;have hm3:=HM2.out.fars hs3 hf3 hDg hDl hgl hz1;obtain⟨AI,cI,rfl,hla⟩:=fA hpv3.items (fun b hb=>⟨(hpv3.new b hb).1,(hpv3.new b hb).2.1⟩);obtain⟨AN,cN,rfl,hst⟩:=eK hpv3.names hpv3.small;have hb3:=hpv3.box;have p0:(w3).cell? ⟨w.heap.size,0,none⟩=some (.pointer (some ⟨D,0,none⟩)):=Go.Joins.cell_of_block hm3.pb 0;have e0:=hm3.dec.c0;have e2:=hm3.dec.c2;have df:=fun i=>Go.Joins.unfrozen_of_block hm3.dec i;have rf:=fun i=>hm3.rb.free i;have r0:=hm3.rb.c0;have r1:=hm3.rb.c1;have r2:=hm3.rb.c2;have r3:=hm3.rb.c3;have r4:=hm3.rb.c4;have v0:=hb3.c0;have v1:=hb3.c1;have v2:=hb3.c2;have v3:=hb3.c3;have v4:=hb3.c4;have vf:=fun i=>hb3.free i;have n1:w1.heap.size≠D:=by omega
  have n2:w1.heap.size≠w.heap.size+1:=by omega
  have n3:w1.heap.size≠w.heap.size:=by omega
  have HM3:=hid hm3;have HB3:=hid hb3;have HLA:=hid hla;have HSA:=hid hst;have HREL:=hid hrel;clear hm3 hb3 hrel hs3 hf3 hla hst hpv3 hlt hz2 hlv8;go_wp2_with fail;refine bodyPost_ret (results_cell_row rfl _ _ (w.heap.size+1) 43 _ (0,0) _ rfl (bd (HM3.out.rb.other D 2 _ (by omega))) Tryz.underlying43 rfl (by kernel_rfl)) rfl ?_;refine gO (t:= .mk 6 0 eS ts ns) HD.out HM3.out hDg hgl (LV.mk (S:=New (w1.heap.size+1) w3) (by unfold Rng;omega) (by unfold Rng;omega) (by decide) (by omega) (by omega) HSA.out HLA.out) (fun b hb=>⟨by have:=hb.1;omega,hb.2⟩) ?_;have h:=HST.out;subst h;exact go d 6 (by omega) least (by have:=HKK.out;omega) HREL.out
 by_cases h7:kk=7
 ·subst h7;have hm2:=hm1.alloc (.cells #[.int .i64 7,.int .i64 0,.string ⟨#[]⟩,.slice none 0 0,.slice none 0 0] 43);have hbx:Box (w1.alloc (.cells #[.int .i64 7,.int .i64 0,.string ⟨#[]⟩,.slice none 0 0,.slice none 0 0] 43)) w1.heap.size _ _ _ _ _:=Box.new _ _ _ _ _;have hz1:=hm1.size;have p0:(w1.alloc (.cells #[.int .i64 7,.int .i64 0,.string ⟨#[]⟩,.slice none 0 0,.slice none 0 0] 43)).cell? ⟨w.heap.size,0,none⟩=some (.pointer (some ⟨D,0,none⟩)):=Go.Joins.cell_of_block hm2.pb 0;have e0:=hm2.dec.c0;have e2:=hm2.dec.c2;have df:=fun i=>Go.Joins.unfrozen_of_block hm2.dec i;have rf:=fun i=>hm2.rb.free i;have r0:=hm2.rb.c0;have r1:=hm2.rb.c1;have r2:=hm2.rb.c2;have r3:=hm2.rb.c3;have r4:=hm2.rb.c4;have HM2:=hid hm2;have HBX:=hid hbx;clear hm1 hm2 hbx;go_wp2_with fail;clear p0 e0 e2 df rf r0 r1 r2 r3 r4;have hlv8:lv+1=8 - (d:Int):=by have:=HLV.out;omega
  have hdec:Dec (w1.alloc (.cells #[.int .i64 7,.int .i64 0,.string ⟨#[]⟩,.slice none 0 0,.slice none 0 0] 43)) D g least (8 - (d:Int)):=by rw[←hlv8];exact HM2.out.dec
  have hz2:(w1.alloc (.cells #[.int .i64 7,.int .i64 0,.string ⟨#[]⟩,.slice none 0 0,.slice none 0 0] 43)).heap.size=w1.heap.size+1:=by simp
  have hpv:PV (w1.alloc (.cells #[.int .i64 7,.int .i64 0,.string ⟨#[]⟩,.slice none 0 0,.slice none 0 0] 43)) (w1.heap.size+1) w1.heap.size 7 [] [] (.slice none 0 0) (.slice none 0 0) (fun _=>False):=
   ⟨HBX.out,⟨[],⟨rfl,.inl ⟨rfl,rfl⟩⟩,fun j hj=>absurd hj (by simp)⟩,⟨rfl,.inl ⟨rfl,rfl⟩⟩,(fun s hs=>by cases hs),fun _ h=>h.elim,by omega⟩
  have hlt:g<w1.heap.size∧D<w1.heap.size∧w.heap.size<w1.heap.size:=⟨by omega,by omega,by omega⟩
  have hit: ∀(st:Option (List UInt8)) (ts:List VT) (ns:List ByteArray) (VI VN:Value) (S:Nat→Prop) (w':World),PV w' (w1.heap.size+1) w1.heap.size 7 ts ns VI VN S→PB w' w.heap.size D→Dec w' D g least (8 - (d:Int))→aN w' g st→w1.heap.size+1≤w'.heap.size→ts.length≤100000→ns.length≤100000→
    Calls Tryz.prog 187 #[.pointer (some ⟨w1.heap.size,0,none⟩),.pointer (some ⟨w.heap.size,0,none⟩)] w' (qy true d g w1.heap.size (w1.heap.size+1) 7 least st ts ns w'):=by
   intro st ts ns VI VN S w' h1 h2 h3 h4 h5 h6 h7;have h8:=ui d hok D g w1.heap.size w.heap.size (w1.heap.size+1) 7 least st ts ns VI VN S w' h1 h2 h3 h4 hDg (by omega) (by omega) hlt h5 h6 h7;exact h8.mono fun _ _ h=>h.g
  have hc:=nX true 187 d D g w1.heap.size w.heap.size (w1.heap.size+1) 7 least st1 _ _ _ _ hit hpv HM2.out.pb hdec HM2.out.src hDg (by omega) (by omega) hlt (by omega) pu;clear hit hpv hdec;refine hc.mono ?_;clear hc;rintro e w3 ⟨ts,ns,st3,VI,VN,S,rfl,hpv3,⟨hlts,hlns⟩,hs3,hf3,hrel⟩;have hm3:=HM2.out.fars hs3 hf3 hDg hDl hgl hz1;obtain⟨AI,cI,rfl,hla⟩:=fA hpv3.items (fun b hb=>⟨(hpv3.new b hb).1,(hpv3.new b hb).2.1⟩);obtain⟨AN,cN,rfl,hst⟩:=eK hpv3.names hpv3.small;have hb3:=hpv3.box;have p0:(w3).cell? ⟨w.heap.size,0,none⟩=some (.pointer (some ⟨D,0,none⟩)):=Go.Joins.cell_of_block hm3.pb 0;have e0:=hm3.dec.c0;have e2:=hm3.dec.c2;have df:=fun i=>Go.Joins.unfrozen_of_block hm3.dec i;have rf:=fun i=>hm3.rb.free i;have r0:=hm3.rb.c0;have r1:=hm3.rb.c1;have r2:=hm3.rb.c2;have r3:=hm3.rb.c3;have r4:=hm3.rb.c4;have v0:=hb3.c0;have v1:=hb3.c1;have v2:=hb3.c2;have v3:=hb3.c3;have v4:=hb3.c4;have vf:=fun i=>hb3.free i;have n1:w1.heap.size≠D:=by omega
  have n2:w1.heap.size≠w.heap.size+1:=by omega
  have n3:w1.heap.size≠w.heap.size:=by omega
  have HM3:=hid hm3;have HB3:=hid hb3;have HLA:=hid hla;have HSA:=hid hst;have HREL:=hid hrel;clear hm3 hb3 hrel hs3 hf3 hla hst hpv3 hlt hz2 hlv8;go_wp2_with fail;refine bodyPost_ret (results_cell_row rfl _ _ (w.heap.size+1) 43 _ (0,0) _ rfl (bd (HM3.out.rb.other D 2 _ (by omega))) Tryz.underlying43 rfl (by kernel_rfl)) rfl ?_;refine gO (t:= .mk 7 0 eS ts ns) HD.out HM3.out hDg hgl (LV.mk (S:=New (w1.heap.size+1) w3) (by unfold Rng;omega) (by unfold Rng;omega) (by decide) (by omega) (by omega) HSA.out HLA.out) (fun b hb=>⟨by have:=hb.1;omega,hb.2⟩) ?_;have h:=HST.out;subst h;exact go d 7 (by omega) least (by have:=HKK.out;omega) HREL.out
 have b2:=beq_false_of_ne h2;have b3:=beq_false_of_ne h3;have b4:=beq_false_of_ne h4;have b5:=beq_false_of_ne h5;have b6:=beq_false_of_ne h6;have b7:=beq_false_of_ne h7;have hm2:=hm1.alloc (.cells #[.int .i64 kk,.int .i64 0,.string ⟨#[]⟩,.slice none 0 0,.slice none 0 0] 43);have p0:(w1.alloc (.cells #[.int .i64 kk,.int .i64 0,.string ⟨#[]⟩,.slice none 0 0,.slice none 0 0] 43)).cell? ⟨w.heap.size,0,none⟩=some (.pointer (some ⟨D,0,none⟩)):=Go.Joins.cell_of_block hm2.pb 0;have e0:=hm2.dec.c0;have e2:=hm2.dec.c2;have df:=fun i=>Go.Joins.unfrozen_of_block hm2.dec i;have rf:=fun i=>hm2.rb.free i;have r0:=hm2.rb.c0;have r1:=hm2.rb.c1;have r2:=hm2.rb.c2;have r3:=hm2.rb.c3;have r4:=hm2.rb.c4;have hz1:=hm1.size;have HM2:=hid hm2;clear hm1 hm2;go_wp2_with fail;refine bodyPost_ret (results_cell_row rfl _ _ (w.heap.size+1) 43 _ (0,0) _ rfl (bd (HM2.out.rb.other D 2 _ (by omega))) Tryz.underlying43 rfl (by kernel_rfl)) rfl ?_;refine gO (t:= .mk kk 0 eS [] []) HD.out HM2.out hDg hgl (LV.mk (S:=fun _=>False) (by have:=HKK.out;have:=gp st;unfold Rng;omega) (by unfold Rng;omega) (by decide) (by simp) (by simp) (cO _ _ _) (dM _ _ _)) (fun _ h=>h.elim) ?_;have h:=HST.out;subst h;have h:=HKK.out;subst h;exact ot d least rfl (by omega) (by omega) (by omega) (by omega) (by omega) (by omega)
theorem vE :oZ 0:=by
 intro D g least st w hd hs hDg;have hDl:=hd.lt;have hgl:=hs.lt;have HD:=hid hd;have hm0:=Mid.first (lv':=9) hd hs hDg;have HM3:=hid hm0;clear hs;have hd2:=(hd.alloc (.cells #[.pointer (some ⟨D,0,none⟩)] 176)).alloc (.cells #[.int .i64 0,.int .i64 0,.string ⟨#[]⟩,.slice none 0 0,.slice none 0 0] 43);have e0:=hm0.dec.c0;have e2:=hm0.dec.c2;have d0:=hd2.c0;have d2:((w.alloc (.cells #[.pointer (some ⟨D,0,none⟩)] 176)).alloc (.cells #[.int .i64 0,.int .i64 0,.string ⟨#[]⟩,.slice none 0 0,.slice none 0 0] 43)).cell? ⟨D,2,none⟩=some (.int .i64 8):=hd2.c2;have df:=fun i=>Go.Joins.unfrozen_of_block hd2 i;clear hd2 hd hm0;go_enter Tryz.func163,Tryz.ntmps163;go_wp2_with fail;clear e0 e2 d0 d2 df;refine(eI g st _ HM3.out.src).mono ?_;rintro e w0 ⟨rfl,hs0,ho0⟩;have hm1:=HM3.out.call hs0 ho0 hDg hgl;clear HM3 ho0 hs0;have p0:(w0).cell? ⟨w.heap.size,0,none⟩=some (.pointer (some ⟨D,0,none⟩)):=Go.Joins.cell_of_block hm1.pb 0;have e0:=hm1.dec.c0;have e2:=hm1.dec.c2;have df:=fun i=>Go.Joins.unfrozen_of_block hm1.dec i;have rf:=fun i=>hm1.rb.free i;have r0:=hm1.rb.c0;have r1:=hm1.rb.c1;have r2:=hm1.rb.c2;have r3:=hm1.rb.c3;have r4:=hm1.rb.c4;have HM1:=hid hm1;clear hm1;go_wp2_with fail;clear p0 e0 e2 df rf r0 r1 r2 r3 r4;refine(ft g none _ HM1.out.src).mono ?_;rintro e w1 ⟨rfl,hs1,ho1⟩;have hm1:=HM1.out.call hs1 ho1 hDg hgl;have hz:(((ak none).1:Nat):Int)=0:=rfl;rw[hz];clear hz HM1 ho1 hs1;have hm2:=hm1.alloc (.cells #[.int .i64 0,.int .i64 0,.string ⟨#[]⟩,.slice none 0 0,.slice none 0 0] 43);have p0:(w1.alloc (.cells #[.int .i64 0,.int .i64 0,.string ⟨#[]⟩,.slice none 0 0,.slice none 0 0] 43)).cell? ⟨w.heap.size,0,none⟩=some (.pointer (some ⟨D,0,none⟩)):=Go.Joins.cell_of_block hm2.pb 0
 have e0:=hm2.dec.c0;have e2:=hm2.dec.c2;have df:=fun i=>Go.Joins.unfrozen_of_block hm2.dec i;have rf:=fun i=>hm2.rb.free i;have r0:=hm2.rb.c0;have r1:=hm2.rb.c1;have r2:=hm2.rb.c2;have r3:=hm2.rb.c3;have r4:=hm2.rb.c4;have hz1:=hm1.size;have HM2:=hid hm2;clear hm1 hm2;go_wp2_with fail;refine bodyPost_ret (results_cell_row rfl _ _ (w.heap.size+1) 43 _ (0,0) _ rfl (bd (HM2.out.rb.other D 2 _ (by omega))) Tryz.underlying43 rfl (by kernel_rfl)) rfl ?_;refine gO (t:= .mk 0 0 eS [] []) HD.out HM2.out hDg hgl (LV.mk (S:=fun _=>False) (by unfold Rng;omega) (by unfold Rng;omega) (by decide) (by simp) (by simp) (cO _ _ _) (dM _ _ _)) (fun _ h=>h.elim) ?_;intro l u r _ hu;cases hu
theorem tt : ∀d:Nat,d≤8→oZ d
 |0,_=>vE
 |d+1,h=>xr d (by omega) (tt d (by omega))
end Go.Proofs.YtgfidiocmiolpaaGreat
