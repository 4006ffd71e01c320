/- The lives of layer 8. -/
import Derived.Test.YtgbopnlpaabelaaGreatDoorKUpCd
import Derived.Test.YtgbopnlpaabelaaGreatDoorKRefM
import Derived.Test.YtgbopnlpaabelaaGreatDoorKSpD
import Derived.Test.YtgbopnlpaabelaaGreatDoorKSpM
import Derived.Test.YtgbopnlpaabelaaGreatDoorKOpenDl
import Derived.Test.YtgbopnlpaabelaaGreatDoorKPathT
import Derived.Test.YtgbopnlpaabelaaGreatDoorCards
import Derived.Test.YtgbopnlpaabelaaGreatDoorTie
import Derived.WalkKit
import Derived.ProofKit
import Derived.OpenShut
import Derived.Deep.DeepHandedRow
import Derived.Lib.LaidTab
import Derived.Stop.LaidErr
set_option maxHeartbeats 64000000
set_option maxRecDepth 100000
set_option linter.unusedVariables false
set_option linter.unusedSimpArgs false
namespace Go.Proofs.YtgbopnlpaabelaaGreatDoor
open Lib (hid)
open Go.RowKit
theorem nH (w:World):Calls Tryz.prog 29 #[] w fun e w'=> ∃v,e= .returned v∧LV w' (New w.heap.size w') ne v∧Below w.heap.size w w':=by
 obtain⟨w3,hw3⟩: ∃W,W=((w.alloc (.cells #[.int .i64 0,.int .i64 0,.string ⟨#[]⟩,.slice none 0 0,.slice none 0 0] 25)).alloc (.cells #[.string ⟨#[95,105,100]⟩] 9)).alloc (.cells #[.int .i64 3,.int .i64 1,.string ⟨#[]⟩,.slice none 0 0,.slice none 0 0] 25):=⟨_,rfl⟩;have hz1:(w.alloc (.cells #[.int .i64 0,.int .i64 0,.string ⟨#[]⟩,.slice none 0 0,.slice none 0 0] 25)).heap.size=w.heap.size+1:=by simp
 have hz2:((w.alloc (.cells #[.int .i64 0,.int .i64 0,.string ⟨#[]⟩,.slice none 0 0,.slice none 0 0] 25)).alloc (.cells #[.string ⟨#[95,105,100]⟩] 9)).heap.size=w.heap.size+2:=by simp
 have hz3:w3.heap.size=w.heap.size+3:=by rw[hw3];simp
 have h0:w3.heap[w.heap.size]? =some (.cells #[.int .i64 0,.int .i64 0,.string ⟨#[]⟩,.slice none 0 0,.slice none 0 0] 25 (0,0)):=by rw[hw3,Below.heap_alloc _ _ _ (by omega),Below.heap_alloc _ _ _ (by omega)];exact heap_alloc_new w _
 have h1:w3.heap[w.heap.size+1]? =some (.cells #[.string ⟨#[95,105,100]⟩] 9 (0,0)):=by rw[hw3,Below.heap_alloc _ _ _ (by omega),←hz1];exact heap_alloc_new _ _
 have h2:w3.heap[w.heap.size+2]? =some (.cells #[.int .i64 3,.int .i64 1,.string ⟨#[]⟩,.slice none 0 0,.slice none 0 0] 25 (0,0)):=by rw[hw3,←hz2];exact heap_alloc_new _ _
 have hb:Below w.heap.size w w3:=by rw[hw3];exact(((Below.refl _ _).alloc (Nat.le_refl _) _).alloc (by omega) _).alloc (by omega) _
 have H0:=hid h0;have H1:=hid (And.intro h1 (And.intro h2 (And.intro hb hz3)));clear h0 h1 h2 hb hz1 hz2 hz3;go_enter Tryz.func29,Tryz.ntmps29;go_wp2_with(rw[←hw3];refine aS (by rfl) 25 _ _ rfl rfl w.heap.size 0 rfl _ #[.int .i64 7,.int .i64 0,.string ⟨#[]⟩,.slice (some ⟨w.heap.size+2,0,none⟩) 1 1,.slice (some ⟨w.heap.size+1,0,none⟩) 1 1] rfl rfl _ #[.int .i64 7,.int .i64 0,.string ⟨#[]⟩,.slice (some ⟨w.heap.size+2,0,none⟩) 1 1,.slice (some ⟨w.heap.size+1,0,none⟩) 1 1] 25 H0.out (by simp) (by kernel_rfl) (by simp[Value.oneCell']) (by kernel_rfl) ?_;intro w9 hk ho hz;have HK9:=hid hk;have HO9:=hid (And.intro ho hz);clear hk ho hz);refine bodyPost_ret (results_cell_row rfl _ _ w.heap.size 25 _ (0,0) _ rfl HK9.out Tryz.underlying25 rfl (by kernel_rfl)) rfl ?_;have hk1:=mm HO9.out.1 H1.out.1 (by omega);have hk2:=mm HO9.out.1 H1.out.2.1 (by omega);refine⟨_,rfl,?_,aJ (Nat.le_refl _) H1.out.2.2.1 HO9.out.1 HO9.out.2 (Nat.le_refl _)⟩;have hz9:w9.heap.size=w.heap.size+3:=by rw[HO9.out.2];exact H1.out.2.2.2
 exact LV.mk (k:=7) (i:=0) (s:=⟨#[]⟩) (l:=[.mk 3 1 ⟨#[]⟩ [] []]) (ns:=[⟨#[95,105,100]⟩]) (by unfold Rng;omega) (by unfold Rng;omega) (by decide) (by decide) (by decide) (gl hk1 ⟨by omega,by omega⟩ (by decide)) (pI hk2 ⟨by omega,by omega⟩ (fi _ _ 3 1 ⟨#[]⟩ (by unfold Rng;omega) (by unfold Rng;omega) (by decide)))
theorem vz (w:World)(S:Nat→Prop):cw w S ⟨false,aT,[]⟩ #[.bool false,.int .i64 0,.int .i64 0,.string ⟨#[]⟩,.slice none 0 0,.slice none 0 0,.slice none 0 0]:=⟨none,0,none,0,none,0,rfl,ic w S,fun h=>absurd h (by simp),Nat.le_refl _,by simp⟩
theorem pL {t:VT}(h1:ac t≤1000000)(h2:aA t≤9223372036854775807):th t lH:=
 ⟨h1,h2,⟨by decide,fun o ho=>(by rw[List.mem_singleton.1 ho];decide)⟩,fun o ho=>(by rw[List.mem_singleton.1 ho];decide),by decide⟩
theorem zW {t:VT}(h1:ac t≤1000000)(h2:aA t≤9223372036854775807):th t ⟨false,aT,[]⟩:=
 ⟨h1,h2,⟨by decide,fun o ho=>(by cases ho)⟩,fun o ho=>(by cases ho),by decide⟩
theorem dS (w:World)(htab:Lib.TabIs Tryz.prog w "internal/strconv.uint64pow10" .u64 Lib.pow10Tab):Calls Tryz.prog 11 #[] w fun e w'=>e= .returned (.bool true)∧Below w.heap.size w w':=by
 obtain⟨w4,hw4⟩: ∃W,W=(((w.alloc (.cells #[.int .i64 4,.int .i64 0,.string ⟨#[120]⟩,.slice none 0 0,.slice none 0 0] 25)).alloc (.cells #[.string ⟨#[108]⟩] 9)).alloc (.cells #[.int .i64 4,.slice (some ⟨w.heap.size+1,0,none⟩) 1 1,.int .i64 4,.int .i64 0,.string ⟨#[120]⟩,.slice none 0 0,.slice none 0 0,.slice none 0 0] 51)).alloc (.cells #[.bool false,.int .i64 0,.int .i64 0,.string ⟨#[]⟩,.slice none 0 0,.slice none 0 0,.slice (some ⟨w.heap.size+2,0,none⟩) 1 1] 28):=⟨_,rfl⟩;have hz1:(w.alloc (.cells #[.int .i64 4,.int .i64 0,.string ⟨#[120]⟩,.slice none 0 0,.slice none 0 0] 25)).heap.size=w.heap.size+1:=by simp
 have hz2:((w.alloc (.cells #[.int .i64 4,.int .i64 0,.string ⟨#[120]⟩,.slice none 0 0,.slice none 0 0] 25)).alloc (.cells #[.string ⟨#[108]⟩] 9)).heap.size=w.heap.size+2:=by simp
 have hz3:(((w.alloc (.cells #[.int .i64 4,.int .i64 0,.string ⟨#[120]⟩,.slice none 0 0,.slice none 0 0] 25)).alloc (.cells #[.string ⟨#[108]⟩] 9)).alloc (.cells #[.int .i64 4,.slice (some ⟨w.heap.size+1,0,none⟩) 1 1,.int .i64 4,.int .i64 0,.string ⟨#[120]⟩,.slice none 0 0,.slice none 0 0,.slice none 0 0] 51)).heap.size=w.heap.size+3:=by simp
 have hz4:w4.heap.size=w.heap.size+4:=by rw[hw4];simp
 have h1:w4.heap[w.heap.size+1]? =some (.cells #[.string ⟨#[108]⟩] 9 (0,0)):=by rw[hw4,Below.heap_alloc _ _ _ (by omega),Below.heap_alloc _ _ _ (by omega),←hz1];exact heap_alloc_new _ _
 have h2:w4.heap[w.heap.size+2]? =some (.cells #[.int .i64 4,.slice (some ⟨w.heap.size+1,0,none⟩) 1 1,.int .i64 4,.int .i64 0,.string ⟨#[120]⟩,.slice none 0 0,.slice none 0 0,.slice none 0 0] 51 (0,0)):=by rw[hw4,Below.heap_alloc _ _ _ (by omega),←hz2];exact heap_alloc_new _ _
 have h3:w4.heap[w.heap.size+3]? =some (.cells #[.bool false,.int .i64 0,.int .i64 0,.string ⟨#[]⟩,.slice none 0 0,.slice none 0 0,.slice (some ⟨w.heap.size+2,0,none⟩) 1 1] 28 (0,0)):=by rw[hw4,←hz3];exact heap_alloc_new _ _
 have hb:Below w.heap.size w w4:=by rw[hw4];exact((((Below.refl _ _).alloc (Nat.le_refl _) _).alloc (by omega) _).alloc (by omega) _).alloc (by omega) _
 obtain⟨wd,hwd⟩: ∃W,W=w4.drew:=⟨_,rfl⟩;have hbd:Below w.heap.size w wd:=by rw[hwd];exact hb.drew
 have hzd:wd.heap.size=w.heap.size+4:=by rw[hwd];exact hz4
 have hh: ∀b:Nat,wd.heap[b]? =w4.heap[b]? :=fun b=>by rw[hwd];rfl
 have HW:Hid (∀W,Below wd.heap.size wd W→(∀b,(b=w.heap.size+1∨b=w.heap.size+2)→b<W.heap.size)∧cw W (fun b=>b=w.heap.size+1∨b=w.heap.size+2) lH #[.bool false,.int .i64 0,.int .i64 0,.string ⟨#[]⟩,.slice none 0 0,.slice none 0 0,.slice (some ⟨w.heap.size+2,0,none⟩) 1 1]∧lM W lH.ops #[.bool false,.int .i64 0,.int .i64 0,.string ⟨#[]⟩,.slice none 0 0,.slice none 0 0,.slice (some ⟨w.heap.size+2,0,none⟩) 1 1]∧Lib.TabIs Tryz.prog W "internal/strconv.uint64pow10" .u64 Lib.pow10Tab∧Below w.heap.size w W∧W.heap[w.heap.size+3]? =some (.cells #[.bool false,.int .i64 0,.int .i64 0,.string ⟨#[]⟩,.slice none 0 0,.slice none 0 0,.slice (some ⟨w.heap.size+2,0,none⟩) 1 1] 28 (0,0))):=hid fun W hW=>by
  have g1:=((hW.block _ (by omega)).trans (hh _)).trans h1;have g2:=((hW.block _ (by omega)).trans (hh _)).trans h2;have g3:=((hW.block _ (by omega)).trans (hh _)).trans h3;have hwW:Below w.heap.size w W:=hbd.trans (hW.mono hbd.size);have hz:=hW.size;refine⟨fun b hb=>by omega,⟨none,0,none,0,some ⟨w.heap.size+2,0,none⟩,1,rfl,ic _ _,fun _=>⟨_,0,rfl,.inr rfl,fun i hi=> ?_⟩,by decide,by decide⟩,fun OA n c e k hk b off hA PA m pc hc=> ?_,Lib.tabBelow_of_tabIs htab W hwW,hwW,g3⟩
  ·obtain rfl:i=0:=by have:i<1:=hi;omega
   refine⟨#[.int .i64 4,.slice (some ⟨w.heap.size+1,0,none⟩) 1 1,.int .i64 4,.int .i64 0,.string ⟨#[120]⟩,.slice none 0 0,.slice none 0 0,.slice none 0 0],fun j v hv=> ?_,⟨some ⟨w.heap.size+1,0,none⟩,1,.int .i64 4,.int .i64 0,.string ⟨#[120]⟩,.slice none 0 0,.slice none 0 0,none,0,rfl,fi _ _ 4 0 ⟨#[120]⟩ (by unfold Rng;omega) (by unfold Rng;omega) (by decide),gl g1 (.inl rfl) (by decide),fun h=>absurd h (Nat.lt_irrefl 0),Nat.le_refl 1,Nat.le_refl 0,?_,(by show 1≤8796093021952;decide),(by show 0≤8796093021952;decide)⟩⟩
   ·rw[show 0+0 * 8+j=j by omega];exact(Go.Joins.cell_of_block g2 j).trans hv
   ·show Rng 4;unfold Rng;omega
  ·have e:some (Value.slice (some ⟨w.heap.size+2,0,none⟩) 1 1)=some (.slice OA n c):=e;injection e with e
   injection e with e1 e2 e3
   rw[hA]at e1;injection e1 with e1
   injection e1 with e1 e2'
   subst e1 e2';have hk:k<1:=hk;obtain rfl:k=0:=by omega
   have hcc:=Go.Joins.cell_of_block g2 1;rw[show 0+0 * 8+1=1 by omega]at hc;rw[hcc]at hc;have hc:some (Value.slice (some ⟨w.heap.size+1,0,none⟩) 1 1)=some (.slice PA m pc):=hc;injection hc with hc
   injection hc with _ _ hc
   omega
 obtain⟨V,hV⟩: ∃V,V=v8:=⟨_,rfl⟩;obtain⟨U,hU⟩: ∃U,U=w8:=⟨_,rfl⟩
 have HA1:Hid (∀W v,Below wd.heap.size wd W→LV W (ba wd.heap.size W) ne v→Calls Tryz.prog 18 #[v,.agg #[.bool false,.int .i64 0,.int .i64 0,.string ⟨#[]⟩,.slice none 0 0,.slice none 0 0,.slice (some ⟨w.heap.size+2,0,none⟩) 1 1]] W fun e w'=> ∃x A c,e= .returned (.tuple #[x,.slice A 1 c,.int .i64 0])∧LV w' (New W.heap.size w') V x∧Below W.heap.size W w'):=hid fun W v hW hl=>by
  obtain⟨g1,g2,g3,g4,g5,g6⟩:=HW.out W hW;refine(fp (fun b=>(b=w.heap.size+1∨b=w.heap.size+2)∨ba wd.heap.size W b) ne v lH _ W (fun b hb=>hb.elim (g1 b) (fun k=>k.2)) (hl.imp fun b hb=> .inr hb) (cw.imp8 g2 fun b hb=> .inl hb) g3 (pL (by decide) (by decide)) g4).mono fun e w' ⟨x,A,c,h1,h2,h3,h4,h5,h6⟩=> ?_;rw[qG]at h1 h2;rw[hV];exact⟨x,A,c,h1,h2,h6⟩
 have HA2:Hid (∀W v,Below wd.heap.size wd W→LV W (ba wd.heap.size W) V v→Calls Tryz.prog 18 #[v,.agg #[.bool false,.int .i64 0,.int .i64 0,.string ⟨#[]⟩,.slice none 0 0,.slice none 0 0,.slice (some ⟨w.heap.size+2,0,none⟩) 1 1]] W fun e w'=> ∃x A c,e= .returned (.tuple #[x,.slice A 1 c,.int .i64 0])∧LV w' (New W.heap.size w') U x∧bJ gH 8 w' (ba W.heap.size w') A [⟨1,[lN,⟨#[49]⟩],xV,0⟩]∧Below W.heap.size W w'):=hid fun W v hW hl=>by
  obtain⟨g1,g2,g3,g4,g5,g6⟩:=HW.out W hW;rw[hV]at hl;refine(fp (fun b=>(b=w.heap.size+1∨b=w.heap.size+2)∨ba wd.heap.size W b) v8 v lH _ W (fun b hb=>hb.elim (g1 b) (fun k=>k.2)) (hl.imp fun b hb=> .inr hb) (cw.imp8 g2 fun b hb=> .inl hb) g3 (pL (by decide) (by decide)) g4).mono fun e w' ⟨x,A,c,h1,h2,h3,h4,h5,h6⟩=> ?_;rw[xy]at h1 h2 h3;rw[hU];exact⟨x,A,c,h1,h2,h3,h6⟩
 have HUP:Hid (∀W,Below wd.heap.size wd W→Calls Tryz.prog 24 #[.agg #[.int .i64 3,.int .i64 1,.string ⟨#[]⟩,.slice none 0 0,.slice none 0 0],.agg #[.bool false,.int .i64 0,.int .i64 0,.string ⟨#[]⟩,.slice none 0 0,.slice none 0 0,.slice (some ⟨w.heap.size+2,0,none⟩) 1 1]] W fun e w'=> ∃x,e= .returned (.tuple #[x,.int .i64 0])∧LV w' (New W.heap.size w') V x∧Below W.heap.size W w'):=hid fun W hW=>by
  obtain⟨g1,g2,g3,g4,g5,g6⟩:=HW.out W hW;refine(rc (fun b=>b=w.heap.size+1∨b=w.heap.size+2) (.mk 3 1 ⟨#[]⟩ [] []) _ lH _ W g1 (fi _ _ 3 1 ⟨#[]⟩ (by unfold Rng;omega) (by unfold Rng;omega) (by decide)) g2 g3 (pL (by decide) (by decide)) g4).mono fun e w' ⟨x,h1,h2,h3⟩=> ?_;rw[show zJ (.mk 3 1 ⟨#[]⟩ [] [])=ne from rfl,qG]at h1 h2;rw[hV];exact⟨x,h1,h2,h3⟩
 have HCH:Hid (∀W v,Below wd.heap.size wd W→LV W (ba wd.heap.size W) ne v→Calls Tryz.prog 12 #[v,.agg #[.bool false,.int .i64 0,.int .i64 0,.string ⟨#[]⟩,.slice none 0 0,.slice none 0 0,.slice none 0 0]] W fun e w'=> ∃A c,e= .returned (.tuple #[.slice A 0 c,.int .i64 72])∧Below W.heap.size W w'):=hid fun W v hW hl=>by
  obtain⟨g1,g2,g3,g4,g5,g6⟩:=HW.out W hW;refine(kq (ba wd.heap.size W) ne v ⟨false,aT,[]⟩ _ W (fun b hb=>hb.2) hl (vz W _) (fun OA n c e k hk=>absurd hk (Nat.not_lt_zero _)) (zW (by decide) (by decide)) g4).mono fun e w' ⟨A,c,h1,h2,h3,h4,h5⟩=> ?_;rw[yw]at h1;exact⟨A,c,h1,h5⟩
 have HVU:=hid (And.intro hV hU);have HZD:=hid hzd;clear htab hz1 hz2 hz3 hz4 h1 h2 h3 hb hbd hzd hh hV hU;go_enter Tryz.func11,Tryz.ntmps11;go_wp2_with fail;rw[←hw4];clear hw4;have hs3:w.heap.size+3<wd.heap.size:=by have:=HZD.out;omega
 have y0:=fun q:af (aE wd.heap.size) wd=>(World.cell?_of_block (a:=⟨w.heap.size+3,0,none⟩) (q.h.block _ hs3)).trans (Go.Joins.cell_of_block (HW.out wd (Below.refl _ _)).2.2.2.2.2 0);have y1:=fun q:af (aE wd.heap.size) wd=>(World.cell?_of_block (a:=⟨w.heap.size+3,1,none⟩) (q.h.block _ hs3)).trans (Go.Joins.cell_of_block (HW.out wd (Below.refl _ _)).2.2.2.2.2 1);have y2:=fun q:af (aE wd.heap.size) wd=>(World.cell?_of_block (a:=⟨w.heap.size+3,2,none⟩) (q.h.block _ hs3)).trans (Go.Joins.cell_of_block (HW.out wd (Below.refl _ _)).2.2.2.2.2 2);have y3:=fun q:af (aE wd.heap.size) wd=>(World.cell?_of_block (a:=⟨w.heap.size+3,3,none⟩) (q.h.block _ hs3)).trans (Go.Joins.cell_of_block (HW.out wd (Below.refl _ _)).2.2.2.2.2 3);have y4:=fun q:af (aE wd.heap.size) wd=>(World.cell?_of_block (a:=⟨w.heap.size+3,4,none⟩) (q.h.block _ hs3)).trans (Go.Joins.cell_of_block (HW.out wd (Below.refl _ _)).2.2.2.2.2 4);have y5:=fun q:af (aE wd.heap.size) wd=>(World.cell?_of_block (a:=⟨w.heap.size+3,5,none⟩) (q.h.block _ hs3)).trans (Go.Joins.cell_of_block (HW.out wd (Below.refl _ _)).2.2.2.2.2 5);have y6:=fun q:af (aE wd.heap.size) wd=>(World.cell?_of_block (a:=⟨w.heap.size+3,6,none⟩) (q.h.block _ hs3)).trans (Go.Joins.cell_of_block (HW.out wd (Below.refl _ _)).2.2.2.2.2 6);clear hs3;refine av (aE wd.heap.size) (aE.refl _) (aE.trans _) [8,9,10] (.pure [1] (.fork 0 (.fork 2 (.free [3,4,5,6] (.step 7 (.tail [8,9,10]))) 7 (.step 2 (.free [3,4,5,6] (.tail [8,9,10])))) 7 (.step 0 (.step 2 (.free [3,4,5,6] (.tail [8,9,10])))))) (by kernel_rfl) (by kernel_rfl) (fun _ d _ _ _ h=>by cases d<;>exact h) ?_
 rw[←hwd];clear hwd;refine bN ?_;simp only[atR];show wpQuiet _ _ _ _ [_] _;try simp only[acR,Act.put]
 repeat(go_big_quiet_step (fail))
 refine wpQuiet_nil ?_;clear y0 y1 y2 y3 y4 y5 y6;have HB:Hid (Below wd.heap.size wd wd):=hid (Below.refl _ _);refine iW rfl rfl (fun K hK=> ?_) (fun K hK=> ?_)
 focus
  go_simp
  refine(nH wd).mono ?_;rintro e u1 ⟨v1,rfl,hv1,hst⟩;refine hK _ _ (.inr (hst.mono HB.out.size)) ?_;clear hK K;have HV1:Hid (LV u1 (ba wd.heap.size u1) ne v1):=hid (hv1.imp fun b hb=>⟨Nat.le_trans HB.out.size hb.1,hb.2⟩);replace HB:=hid (HB.out.trans (hst.mono HB.out.size));clear hv1;clear hst;refine iW rfl rfl (fun K hK=> ?_) (fun K hK=> ?_)
  focus
   go_simp
   refine(HA1.out u1 _ HB.out HV1.out).mono ?_;rintro e u2 ⟨v5,A5,c5,rfl,hv5,hst⟩;obtain⟨PA,Pc,PA',Pc',rfl,-⟩:=hv5.shape;refine hK _ _ (.inr (hst.mono HB.out.size)) ?_;clear hK K HV1;have HV:Hid (LV u2 (fun b=>ba wd.heap.size u2 b) V (.agg #[.int .i64 V.kind,.int .i64 V.num,.string V.text,.slice PA V.items.length Pc,.slice PA' V.names.length Pc'])):=hid (hv5.imp fun b hb=>⟨Nat.le_trans HB.out.size hb.1,hb.2⟩);replace HB:=hid (HB.out.trans (hst.mono HB.out.size));clear hv5;clear hst;refine bm ?_;simp only[atR];show wpQuiet _ _ _ _ [_,_,_,_] _;try simp only[acR,Act.put]
   repeat(go_big_quiet_step (fail))
   refine wpQuiet_nil ?_;refine ah rfl (fun K hK=> ?_)
   go_simp
   obtain⟨gV,hgV⟩: ∃g,g=u2.heap.size:=⟨_,rfl⟩;obtain⟨u3,hu⟩: ∃W,W=u2.alloc (.cells #[.int .i64 0,.int .i64 0,.string ⟨#[]⟩,.slice none 0 0,.slice none 0 0] 25):=⟨_,rfl⟩;have hst:Below u2.heap.size u2 u3:=by rw[hu];exact(Below.refl _ _).alloc (Nat.le_refl _) _
   have HGR:Hid (Kp wd u3 gV #[.int .i64 0,.int .i64 0,.string ⟨#[]⟩,.slice none 0 0,.slice none 0 0] 25):=hid ⟨by rw[hu,hgV];exact heap_alloc_new u2 _,by rw[hgV];exact HB.out.size,by rw[hu,hgV];simp⟩;have HVL:Hid (∀b,ba wd.heap.size u2 b→b≠gV):=hid (fun b hb=>by have:=hb.2;omega);rw[←hu,←hgV];refine hK _ _ (.inr (hst.mono HB.out.size)) ?_;clear hK K;replace HB:=hid (HB.out.trans (hst.mono HB.out.size));replace HV:Hid (LV u3 (fun b=>ba wd.heap.size u3 b∧b≠gV) V (.agg #[.int .i64 V.kind,.int .i64 V.num,.string V.text,.slice PA V.items.length Pc,.slice PA' V.names.length Pc'])):=hid ((HV.out.keep fun b hb=>hst.block b hb.2).imp fun b hb=>⟨⟨hb.1,Nat.lt_of_lt_of_le hb.2 hst.size⟩,HVL.out b hb⟩);clear hst HVL hu hgV;refine aw rfl (fun K hK=> ?_);rw[if_pos (bd rfl)];refine bV 25 _ _ rfl rfl gV 0 rfl _ #[.int .i64 V.kind,.int .i64 V.num,.string V.text,.slice PA V.items.length Pc,.slice PA' V.names.length Pc'] rfl rfl _ #[.int .i64 V.kind,.int .i64 V.num,.string V.text,.slice PA V.items.length Pc,.slice PA' V.names.length Pc'] 25 HGR.out.cel (by simp) (by kernel_rfl) (by simp[Value.oneCell']) (by kernel_rfl) (fun w5 h9 ho9 hz9=> ?_);refine hK _ _ ?_;clear hK K;have HX3:Hid (Box w5 gV (.int .i64 V.kind) (.int .i64 V.num) (.string V.text) (.slice PA V.items.length Pc) (.slice PA' V.names.length Pc')):=hid h9;have HL3:Hid (LV w5 (fun b=>ba wd.heap.size w5 b) V (.agg #[.int .i64 V.kind,.int .i64 V.num,.string V.text,.slice PA V.items.length Pc,.slice PA' V.names.length Pc'])):=hid ((LV.keep (cr (S:=fun b=>ba wd.heap.size u3 b∧b≠gV) ho9 fun b hb=>⟨hb.1.2,hb.2⟩) HV.out).imp fun b hb=>⟨hb.1.1,by rw[hz9];exact hb.1.2⟩)
   have HB5:Hid (Below wd.heap.size wd w5):=hid (aJ (Nat.le_refl _) HB.out ho9 hz9 HGR.out.lo);clear h9 ho9 hz9 HB HV HGR;refine aw rfl (fun K hK=> ?_)
   go_simp
   refine hK _ _ ?_;clear hK K;refine aw rfl (fun K hK=> ?_)
   go_simp
   refine hK _ _ ?_;clear hK K;refine aX ?_
  rotate_left
  focus
   go_simp
   obtain⟨gV,hgV⟩: ∃g,g=u1.heap.size:=⟨_,rfl⟩;obtain⟨u2,hu⟩: ∃W,W=u1.alloc (.cells #[.int .i64 0,.int .i64 0,.string ⟨#[]⟩,.slice none 0 0,.slice none 0 0] 25):=⟨_,rfl⟩;have hst:Below u1.heap.size u1 u2:=by rw[hu];exact(Below.refl _ _).alloc (Nat.le_refl _) _
   have HGR:Hid (Kp wd u2 gV #[.int .i64 0,.int .i64 0,.string ⟨#[]⟩,.slice none 0 0,.slice none 0 0] 25):=hid ⟨by rw[hu,hgV];exact heap_alloc_new u1 _,by rw[hgV];exact HB.out.size,by rw[hu,hgV];simp⟩;rw[←hu,←hgV];refine hK _ _ (.inr (hst.mono HB.out.size)) ?_;clear hK K;replace HB:=hid (HB.out.trans (hst.mono HB.out.size));have HV1':Hid (LV u2 (ba wd.heap.size u2) ne v1):=hid ((HV1.out.keep fun b hb=>hst.block b hb.2).imp fun b hb=>⟨hb.1,Nat.lt_of_lt_of_le hb.2 hst.size⟩);clear hst hu hgV HV1;have HV1:=HV1';clear HV1';refine ah rfl (fun K hK=> ?_)
   go_simp
   refine(HA1.out u2 _ HB.out HV1.out).mono ?_;rintro e u3 ⟨v5,A5,c5,rfl,hv5,hst⟩;obtain⟨PA,Pc,PA',Pc',rfl,-⟩:=hv5.shape;refine hK _ _ (.inr (hst.mono HB.out.size)) ?_;clear hK K HV1;have HV:Hid (LV u3 (fun b=>ba wd.heap.size u3 b∧b≠gV) V (.agg #[.int .i64 V.kind,.int .i64 V.num,.string V.text,.slice PA V.items.length Pc,.slice PA' V.names.length Pc'])):=hid (hv5.imp fun b hb=>⟨⟨Nat.le_trans HB.out.size hb.1,hb.2⟩,by have:=HGR.out.lt;have:=hb.1;omega⟩);replace HB:=hid (HB.out.trans (hst.mono HB.out.size));clear hv5;replace HGR:=hid (HGR.out.next hst);clear hst;refine bm ?_;simp only[atR];show wpQuiet _ _ _ _ [_,_,_,_] _;try simp only[acR,Act.put]
   repeat(go_big_quiet_step (fail))
   refine wpQuiet_nil ?_;refine aw rfl (fun K hK=> ?_);rw[if_pos (bd rfl)];refine bV 25 _ _ rfl rfl gV 0 rfl _ #[.int .i64 V.kind,.int .i64 V.num,.string V.text,.slice PA V.items.length Pc,.slice PA' V.names.length Pc'] rfl rfl _ #[.int .i64 V.kind,.int .i64 V.num,.string V.text,.slice PA V.items.length Pc,.slice PA' V.names.length Pc'] 25 HGR.out.cel (by simp) (by kernel_rfl) (by simp[Value.oneCell']) (by kernel_rfl) (fun w5 h9 ho9 hz9=> ?_);refine hK _ _ ?_;clear hK K;have HX3:Hid (Box w5 gV (.int .i64 V.kind) (.int .i64 V.num) (.string V.text) (.slice PA V.items.length Pc) (.slice PA' V.names.length Pc')):=hid h9;have HL3:Hid (LV w5 (fun b=>ba wd.heap.size w5 b) V (.agg #[.int .i64 V.kind,.int .i64 V.num,.string V.text,.slice PA V.items.length Pc,.slice PA' V.names.length Pc'])):=hid ((LV.keep (cr (S:=fun b=>ba wd.heap.size u3 b∧b≠gV) ho9 fun b hb=>⟨hb.1.2,hb.2⟩) HV.out).imp fun b hb=>⟨hb.1.1,by rw[hz9];exact hb.1.2⟩);have HB5:Hid (Below wd.heap.size wd w5):=hid (aJ (Nat.le_refl _) HB.out ho9 hz9 HGR.out.lo);clear h9 ho9 hz9 HB HV HGR;refine aw rfl (fun K hK=> ?_)
   go_simp
   refine hK _ _ ?_;clear hK K;refine aw rfl (fun K hK=> ?_)
   go_simp
   refine hK _ _ ?_;clear hK K;refine aX ?_
  rotate_left
 rotate_left 2
 focus
  go_simp
  obtain⟨gV,hgV⟩: ∃g,g=wd.heap.size:=⟨_,rfl⟩;obtain⟨u1,hu⟩: ∃W,W=wd.alloc (.cells #[.int .i64 0,.int .i64 0,.string ⟨#[]⟩,.slice none 0 0,.slice none 0 0] 25):=⟨_,rfl⟩;have hst:Below wd.heap.size wd u1:=by rw[hu];exact(Below.refl _ _).alloc (Nat.le_refl _) _
  have HGR:Hid (Kp wd u1 gV #[.int .i64 0,.int .i64 0,.string ⟨#[]⟩,.slice none 0 0,.slice none 0 0] 25):=hid ⟨by rw[hu,hgV];exact heap_alloc_new wd _,by rw[hgV];exact HB.out.size,by rw[hu,hgV];simp⟩;rw[←hu,←hgV];refine hK _ _ (.inr (hst.mono HB.out.size)) ?_;clear hK K;replace HB:=hid (HB.out.trans (hst.mono HB.out.size));clear hst hu hgV;refine ah rfl (fun K hK=> ?_)
  go_simp
  refine(nH u1).mono ?_;rintro e u2 ⟨v1,rfl,hv1,hst⟩;refine hK _ _ (.inr (hst.mono HB.out.size)) ?_;clear hK K;have HV1:Hid (LV u2 (ba wd.heap.size u2) ne v1):=hid (hv1.imp fun b hb=>⟨Nat.le_trans HB.out.size hb.1,hb.2⟩);replace HB:=hid (HB.out.trans (hst.mono HB.out.size));clear hv1;replace HGR:=hid (HGR.out.next hst);clear hst;refine ah rfl (fun K hK=> ?_)
  go_simp
  refine(HA1.out u2 _ HB.out HV1.out).mono ?_;rintro e u3 ⟨v5,A5,c5,rfl,hv5,hst⟩;obtain⟨PA,Pc,PA',Pc',rfl,-⟩:=hv5.shape;refine hK _ _ (.inr (hst.mono HB.out.size)) ?_;clear hK K HV1;have HV:Hid (LV u3 (fun b=>ba wd.heap.size u3 b∧b≠gV) V (.agg #[.int .i64 V.kind,.int .i64 V.num,.string V.text,.slice PA V.items.length Pc,.slice PA' V.names.length Pc'])):=hid (hv5.imp fun b hb=>⟨⟨Nat.le_trans HB.out.size hb.1,hb.2⟩,by have:=HGR.out.lt;have:=hb.1;omega⟩);replace HB:=hid (HB.out.trans (hst.mono HB.out.size));clear hv5;replace HGR:=hid (HGR.out.next hst);clear hst;refine bm ?_;simp only[atR];show wpQuiet _ _ _ _ [_,_,_,_] _;try simp only[acR,Act.put]
  repeat(go_big_quiet_step (fail))
  refine wpQuiet_nil ?_;refine aw rfl (fun K hK=> ?_);rw[if_pos (bd rfl)];refine bV 25 _ _ rfl rfl gV 0 rfl _ #[.int .i64 V.kind,.int .i64 V.num,.string V.text,.slice PA V.items.length Pc,.slice PA' V.names.length Pc'] rfl rfl _ #[.int .i64 V.kind,.int .i64 V.num,.string V.text,.slice PA V.items.length Pc,.slice PA' V.names.length Pc'] 25 HGR.out.cel (by simp) (by kernel_rfl) (by simp[Value.oneCell']) (by kernel_rfl) (fun w5 h9 ho9 hz9=> ?_);refine hK _ _ ?_;clear hK K;have HX3:Hid (Box w5 gV (.int .i64 V.kind) (.int .i64 V.num) (.string V.text) (.slice PA V.items.length Pc) (.slice PA' V.names.length Pc')):=hid h9;have HL3:Hid (LV w5 (fun b=>ba wd.heap.size w5 b) V (.agg #[.int .i64 V.kind,.int .i64 V.num,.string V.text,.slice PA V.items.length Pc,.slice PA' V.names.length Pc'])):=hid ((LV.keep (cr (S:=fun b=>ba wd.heap.size u3 b∧b≠gV) ho9 fun b hb=>⟨hb.1.2,hb.2⟩) HV.out).imp fun b hb=>⟨hb.1.1,by rw[hz9];exact hb.1.2⟩);have HB5:Hid (Below wd.heap.size wd w5):=hid (aJ (Nat.le_refl _) HB.out ho9 hz9 HGR.out.lo);clear h9 ho9 hz9 HB HV HGR;refine aw rfl (fun K hK=> ?_)
  go_simp
  refine hK _ _ ?_;clear hK K;refine aw rfl (fun K hK=> ?_)
  go_simp
  refine hK _ _ ?_;clear hK K;refine aX ?_
 rotate_left
 all_goals
  have x0:=HX3.out.c0;have x1:=HX3.out.c1;have x2:=HX3.out.c2;have x3:=HX3.out.c3;have x4:=HX3.out.c4;have HSX:=hid (HW.out w5 HB5.out).2.2.2.2.2;have y0:=Go.Joins.cell_of_block HSX.out 0;have y1:=Go.Joins.cell_of_block HSX.out 1;have y2:=Go.Joins.cell_of_block HSX.out 2;have y3:=Go.Joins.cell_of_block HSX.out 3;have y4:=Go.Joins.cell_of_block HSX.out 4;have y5:=Go.Joins.cell_of_block HSX.out 5;have y6:=Go.Joins.cell_of_block HSX.out 6;have HCA:=hid (HA2.out w5 _ HB5.out HL3.out);go_wp2_with fail;refine HCA.out.mono ?_;rintro e w6 ⟨v6,A7,c7,rfl,hv6,hr6,hb6⟩;obtain⟨QA,Qc,QA',Qc',rfl,-⟩:=hv6.shape;have HB6:Hid (Below wd.heap.size wd w6):=hid (HB5.out.trans (hb6.mono HB5.out.size));have HL6:Hid (LV w6 (ba wd.heap.size w6) U (.agg #[.int .i64 U.kind,.int .i64 U.num,.string U.text,.slice QA U.items.length Qc,.slice QA' U.names.length Qc'])):=hid (hv6.imp fun b hb=>⟨Nat.le_trans HB5.out.size hb.1,hb.2⟩);have HM6:Hid (bJ gH 8 w6 (ba wd.heap.size w6) A7 [⟨1,[lN,⟨#[49]⟩],xV,0⟩]):=hid (bJ.imp eu hr6 fun b hb=>⟨Nat.le_trans HB5.out.size hb.1,hb.2⟩);have HX36:=hid (HX3.out.call hb6);have HL36:Hid (LV w6 (ba wd.heap.size w6) V (.agg #[.int .i64 V.kind,.int .i64 V.num,.string V.text,.slice PA V.items.length Pc,.slice PA' V.names.length Pc'])):=hid ((HL3.out.keep fun b hb=>hb6.block b hb.2).imp fun b hb=>⟨hb.1,Nat.lt_of_lt_of_le hb.2 hb6.size⟩);clear hv6 hr6 hb6 HCA x0 x1 x2 x3 x4 y0 y1 y2 y3 y4 y5 y6 HX3 HL3 HSX HB5;obtain⟨w7,hw7⟩: ∃W,W=w6.alloc (.cells #[.int .i64 U.kind,.int .i64 U.num,.string U.text,.slice QA U.items.length Qc,.slice QA' U.names.length Qc'] 25):=⟨_,rfl⟩
  have hx6:Box w7 w6.heap.size (.int .i64 U.kind) (.int .i64 U.num) (.string U.text) (.slice QA U.items.length Qc) (.slice QA' U.names.length Qc'):=by rw[hw7];exact Box.new ..
  have hb7:Below w6.heap.size w6 w7:=by rw[hw7];exact ae _
  obtain⟨g6,hg6⟩: ∃g,g=w6.heap.size:=⟨_,rfl⟩;rw[←hg6]at hx6;have HX6:=hid hx6;have HB7:Hid (Below wd.heap.size wd w7):=hid (HB6.out.trans (hb7.mono HB6.out.size));have HL67:Hid (LV w7 (ba wd.heap.size w7) U (.agg #[.int .i64 U.kind,.int .i64 U.num,.string U.text,.slice QA U.items.length Qc,.slice QA' U.names.length Qc'])):=hid ((HL6.out.keep fun b hb=>hb7.block b hb.2).imp fun b hb=>⟨hb.1,Nat.lt_of_lt_of_le hb.2 hb7.size⟩);have HM7:Hid (bJ gH 8 w7 (ba wd.heap.size w7) A7 [⟨1,[lN,⟨#[49]⟩],xV,0⟩]):=hid (bJ.imp eu (bJ.keep eu HM6.out fun b hb=>hb7.block b hb.2) fun b hb=>⟨hb.1,Nat.lt_of_lt_of_le hb.2 hb7.size⟩);have HX37:=hid (HX36.out.call hb7);have HL37:Hid (LV w7 (ba wd.heap.size w7) V (.agg #[.int .i64 V.kind,.int .i64 V.num,.string V.text,.slice PA V.items.length Pc,.slice PA' V.names.length Pc'])):=hid ((HL36.out.keep fun b hb=>hb7.block b hb.2).imp fun b hb=>⟨hb.1,Nat.lt_of_lt_of_le hb.2 hb7.size⟩);have HSX:=hid (HW.out w7 HB7.out).2.2.2.2.2;have y0:=Go.Joins.cell_of_block HSX.out 0;have y1:=Go.Joins.cell_of_block HSX.out 1;have y2:=Go.Joins.cell_of_block HSX.out 2;have y3:=Go.Joins.cell_of_block HSX.out 3;have y4:=Go.Joins.cell_of_block HSX.out 4;have y5:=Go.Joins.cell_of_block HSX.out 5;have y6:=Go.Joins.cell_of_block HSX.out 6;have HCA:=hid (HUP.out w7 HB7.out);rw[hw7]at y0 y1 y2 y3 y4 y5 y6;clear hx6 hb7 HX36 HL36 HM6 HL6 HB6;go_wp2_with fail;rw[←hw7,←hg6];clear hw7 hg6;refine HCA.out.mono ?_;rintro e w8 ⟨v9,rfl,hv9,hb8⟩;obtain⟨RA,Rc,RA',Rc',rfl,-⟩:=hv9.shape;have HB8:Hid (Below wd.heap.size wd w8):=hid (HB7.out.trans (hb8.mono HB7.out.size))
  have HL9:Hid (LV w8 (ba wd.heap.size w8) V (.agg #[.int .i64 V.kind,.int .i64 V.num,.string V.text,.slice RA V.items.length Rc,.slice RA' V.names.length Rc'])):=hid (hv9.imp fun b hb=>⟨Nat.le_trans HB7.out.size hb.1,hb.2⟩);have HX38:=hid (HX37.out.call hb8);have HX68:=hid (HX6.out.call hb8);have HL38:Hid (LV w8 (ba wd.heap.size w8) V (.agg #[.int .i64 V.kind,.int .i64 V.num,.string V.text,.slice PA V.items.length Pc,.slice PA' V.names.length Pc'])):=hid ((HL37.out.keep fun b hb=>hb8.block b hb.2).imp fun b hb=>⟨hb.1,Nat.lt_of_lt_of_le hb.2 hb8.size⟩);have HL68:Hid (LV w8 (ba wd.heap.size w8) U (.agg #[.int .i64 U.kind,.int .i64 U.num,.string U.text,.slice QA U.items.length Qc,.slice QA' U.names.length Qc'])):=hid ((HL67.out.keep fun b hb=>hb8.block b hb.2).imp fun b hb=>⟨hb.1,Nat.lt_of_lt_of_le hb.2 hb8.size⟩);have HM8:Hid (bJ gH 8 w8 (ba wd.heap.size w8) A7 [⟨1,[lN,⟨#[49]⟩],xV,0⟩]):=hid (bJ.imp eu (bJ.keep eu HM7.out fun b hb=>hb8.block b hb.2) fun b hb=>⟨hb.1,Nat.lt_of_lt_of_le hb.2 hb8.size⟩);clear hv9 hb8 HCA y0 y1 y2 y3 y4 y5 y6 HX37 HX6 HL37 HL67 HM7 HSX HB7;obtain⟨w9,hw9⟩: ∃W,W=w8.alloc (.cells #[.int .i64 V.kind,.int .i64 V.num,.string V.text,.slice RA V.items.length Rc,.slice RA' V.names.length Rc'] 25):=⟨_,rfl⟩;have hx9:Box w9 w8.heap.size (.int .i64 V.kind) (.int .i64 V.num) (.string V.text) (.slice RA V.items.length Rc) (.slice RA' V.names.length Rc'):=by rw[hw9];exact Box.new ..
  have hb9:Below w8.heap.size w8 w9:=by rw[hw9];exact ae _
  obtain⟨g9,hg9⟩: ∃g,g=w8.heap.size:=⟨_,rfl⟩;rw[←hg9]at hx9;have HX9:=hid hx9;have HB9:Hid (Below wd.heap.size wd w9):=hid (HB8.out.trans (hb9.mono HB8.out.size))
  have HKP:Hid (∀W,Below w9.heap.size w9 W→Box W gV (.int .i64 V.kind) (.int .i64 V.num) (.string V.text) (.slice PA V.items.length Pc) (.slice PA' V.names.length Pc')∧Box W g6 (.int .i64 U.kind) (.int .i64 U.num) (.string U.text) (.slice QA U.items.length Qc) (.slice QA' U.names.length Qc')∧Box W g9 (.int .i64 V.kind) (.int .i64 V.num) (.string V.text) (.slice RA V.items.length Rc) (.slice RA' V.names.length Rc')∧LV W (ba wd.heap.size W) V (.agg #[.int .i64 V.kind,.int .i64 V.num,.string V.text,.slice PA V.items.length Pc,.slice PA' V.names.length Pc'])∧LV W (ba wd.heap.size W) U (.agg #[.int .i64 U.kind,.int .i64 U.num,.string U.text,.slice QA U.items.length Qc,.slice QA' U.names.length Qc'])∧LV W (ba wd.heap.size W) V (.agg #[.int .i64 V.kind,.int .i64 V.num,.string V.text,.slice RA V.items.length Rc,.slice RA' V.names.length Rc'])∧bJ gH 8 W (ba wd.heap.size W) A7 [⟨1,[lN,⟨#[49]⟩],xV,0⟩]∧Below wd.heap.size wd W∧Below w.heap.size w W):=hid fun W hW=>by
   have h8:Below w8.heap.size w8 W:=hb9.trans (hW.mono hb9.size);have hdW:=HB8.out.trans (h8.mono HB8.out.size);exact⟨HX38.out.call h8,HX68.out.call h8,HX9.out.call hW,(HL38.out.keep fun b hb=>h8.block b hb.2).imp fun b hb=>⟨hb.1,Nat.lt_of_lt_of_le hb.2 h8.size⟩,(HL68.out.keep fun b hb=>h8.block b hb.2).imp fun b hb=>⟨hb.1,Nat.lt_of_lt_of_le hb.2 h8.size⟩,(HL9.out.keep fun b hb=>h8.block b hb.2).imp fun b hb=>⟨hb.1,Nat.lt_of_lt_of_le hb.2 h8.size⟩,bJ.imp eu (bJ.keep eu HM8.out fun b hb=>h8.block b hb.2) fun b hb=>⟨hb.1,Nat.lt_of_lt_of_le hb.2 h8.size⟩,hdW,(HW.out W hdW).2.2.2.2.1⟩
  clear hx9 hb9 HX38 HX68 HX9 HL38 HL68 HL9 HM8 HB8;go_wp2_with fail;rw[←hw9,←hg9];clear hw9 hg9;refine(nH w9).mono ?_;rintro e w10 ⟨v10,rfl,hv10,hb10⟩;have HCA:=hid (HCH.out w10 v10 (HKP.out w10 hb10).2.2.2.2.2.2.2.1 (hv10.imp fun b hb=>⟨Nat.le_trans HB9.out.size hb.1,hb.2⟩));have HB10:=hid hb10;clear hv10 hb10;go_wp2_with fail;refine HCA.out.mono ?_;rintro e w11 ⟨A11,c11,rfl,hb11⟩;have HB11:Hid (Below w9.heap.size w9 w11):=hid (HB10.out.trans (hb11.mono HB10.out.size));clear hb11 HCA HB10;obtain⟨k1,k2,k3,k4,k5,k6,k7,k8,k9⟩:=HKP.out w11 HB11.out;obtain⟨b7,o7,rfl,hS7,hcs7⟩:=k7 (by simp);obtain⟨cs7,d1,d2⟩:=hcs7 0 (by simp);obtain⟨TA,Tc,VA,vc,VA',vc',rfl,-,hpa,-⟩:=d2.1;obtain⟨bp,op,rfl,hSp,hcp⟩:=hpa (by simp);have m1:=d1 1 _ rfl;have m2:=(hcp 1 (by simp)).1;rw[show o7+0 * 8+1=o7+1 by omega]at m1;have HM:=hid (And.intro m1 (And.intro m2 (And.intro hS7.2 hSp.2)));have z0:=k2.c0;have z1:=k2.c1;have z2:=k2.c2;have z3:=k2.c3;have z4:=k2.c4;clear k1 k2 k3 k4 k5 k6 k7 k8 k9 hS7 hcs7 d1 d2 hpa hSp hcp m2;go_wp2_with fail;clear m1 z0 z1 z2 z3 z4;obtain⟨w12,hw12⟩: ∃W,W=w11.alloc (.cells #[.string ⟨#[108]⟩,.string ⟨#[49]⟩] 9):=⟨_,rfl⟩;have hn12:w12.heap[w11.heap.size]? =some (.cells #[.string ⟨#[108]⟩,.string ⟨#[49]⟩] 9 (0,0)):=by rw[hw12];exact heap_alloc_new w11 _
  have hb12:Below w11.heap.size w11 w12:=by rw[hw12];exact(Below.refl _ _).alloc (Nat.le_refl _) _
  have hb1112:=hid hb12;have HB12:Hid (Below w9.heap.size w9 w12):=hid (HB11.out.trans (hb12.mono HB11.out.size));have hz12:w11.heap.size<w12.heap.size:=by rw[hw12];simp
  rw[←hw12];clear hw12
  have HG:Hid (Calls Tryz.prog 22 #[.agg #[.int .i64 U.kind,.int .i64 U.num,.string U.text,.slice QA U.items.length Qc,.slice QA' U.names.length Qc'],.slice (some ⟨w11.heap.size,0,none⟩) 2 2] w12 fun e w'=> ∃TA' Tc' TB Tc2,e= .returned (.tuple #[.agg #[.int .i64 4,.int .i64 0,.string ⟨#[120]⟩,.slice TA' 0 Tc',.slice TB 0 Tc2],.bool true])∧Below w12.heap.size w12 w'):=hid (by
   have hu:=(HKP.out w12 HB12.out).2.2.2.2.1
   have hst:ai w12 (ba wd.heap.size w12) (some ⟨w11.heap.size,0,none⟩) [lN,⟨#[49]⟩]:=fun _=>⟨_,0,rfl,⟨Nat.le_trans HB9.out.size HB11.out.size,hz12⟩,fun i hi=>by
    have hi:i<2:=hi;rcases i with _|_|i
    ·exact⟨Go.Joins.cell_of_block hn12 0,(by show lN.size≤140737488351232;decide)⟩
    ·exact⟨Go.Joins.cell_of_block hn12 1,(by show(⟨#[49]⟩:ByteArray).size≤140737488351232;decide)⟩
    ·omega⟩
   refine(iB (ba wd.heap.size w12) U _ (some ⟨w11.heap.size,0,none⟩) 2 [lN,⟨#[49]⟩] w12 (fun b hb=>hb.2) hu (by rw[HVU.out.2];kernel_rfl) hst (by decide)).mono fun e w' ⟨x,h1,h2,h3⟩=> ?_;have e1:okT U [lN,⟨#[49]⟩]=true:=by unfold okT;rw[HVU.out.2,ym];rfl
   have e2:ko U [lN,⟨#[49]⟩]=xV:=by unfold ko;rw[HVU.out.2,ym];rfl
   rw[e1]at h1;rw[e2]at h2;obtain⟨A,c,A',c',e3,-⟩:=h2.shape;have e4:x= .agg #[.int .i64 4,.int .i64 0,.string ⟨#[120]⟩,.slice A 0 c,.slice A' 0 c']:=e3
   exact⟨A,c,A',c',by rw[h1,e4],h3⟩)
  clear hn12 hb12 hz12;refine HG.out.mono ?_;rintro e w13 ⟨TA',Tc',TB,Tc2,rfl,hb13⟩;obtain⟨w14,hw14⟩: ∃W,W=w13.alloc (.cells #[.int .i64 4,.int .i64 0,.string ⟨#[120]⟩,.slice TA' 0 Tc',.slice TB 0 Tc2] 25):=⟨_,rfl⟩;have hB14:Below w9.heap.size w9 w14:=by rw[hw14];exact(HB12.out.trans (hb13.mono HB12.out.size)).alloc (by have:=HB12.out.size;have:=hb13.size;omega) _
  have hB1114:Below w11.heap.size w11 w14:=by rw[hw14];exact((hb1112.out.trans (hb13.mono hb1112.out.size))).alloc (by have:=hb1112.out.size;have:=hb13.size;omega) _
  obtain⟨k1,k2,k3,k4,k5,k6,k7,k8,k9⟩:=HKP.out w14 hB14;have m1:=(World.cell?_of_block (a:=⟨b7,o7+1,none⟩) (hB1114.block _ HM.out.2.2.1)).trans HM.out.1;have m2:w14.cell? ⟨bp,op+1,none⟩=some (.string ⟨#[49]⟩):=(World.cell?_of_block (a:=⟨bp,op+1,none⟩) (hB1114.block _ HM.out.2.2.2)).trans HM.out.2.1;have x0:=k1.c0;have x1:=k1.c1;have x2:=k1.c2;have x3:=k1.c3;have x4:=k1.c4;have z0:=k3.c0;have z1:=k3.c1;have z2:=k3.c2;have z3:=k3.c3;have z4:=k3.c4;have HSM:=hid (iI (ba wd.heap.size w14) (ac V) V V _ _ w14 (Nat.le_refl _) (fun b hb=>hb.2) k6 k4);have HEND:=hid k9;rw[hw14]at m1 m2 x0 x1 x2 x3 x4 z0 z1 z2 z3 z4;clear k1 k2 k3 k4 k5 k6 k7 k8 k9 hB14 hB1114 hb13 HG;go_wp2_with fail;rw[←hw14];clear hw14 m1 m2 x0 x1 x2 x3 x4 z0 z1 z2 z3 z4;refine HSM.out.mono ?_;rintro e w15 ⟨⟨r,rfl,hr⟩,hb15⟩;obtain rfl:r=true:=hr.2 trivial;have HB15:=hid (HEND.out.trans (hb15.mono HEND.out.size));clear hb15 hr HSM;go_wp2_with fail;go_ret;exact⟨rfl,HB15.out⟩
end Go.Proofs.YtgbopnlpaabelaaGreatDoor
/- The rows' tables: what they list holds. -/
namespace Go.Proofs.YtgbopnlpaabelaaGreatDoor
open Go.ChangeShapes Go.WideShapes Go.ChangeAt Go.RowKit
theorem BK :Tryz.prog.globalNamed "internal/strconv.uint64pow10" =some 0:=by kernel_rfl
theorem xR :(Tryz.prog.globals[0]?).map (·.type)=some 172:=by kernel_rfl
theorem sD :Tryz.prog.cellsOf 172=20:=by kernel_rfl
theorem zQ :Tryz.prog.cellsOf 128=1:=by kernel_rfl
theorem Bo {W:World}(h:laidMetH Tryz.prog Rows.updateReplacesRow.laid W):Lib.TabIs Tryz.prog W "internal/strconv.uint64pow10" .u64 Lib.pow10Tab:=by
 have h1:laidMet Tryz.prog [("math/bits.deBruijn32tab",Rows.laid_math_bits_deBruijn32tab),("math/bits.deBruijn64tab",Rows.laid_math_bits_deBruijn64tab),("internal/strconv.uint64pow10",Rows.laid_internal_strconv_uint64pow10)] W:=h;have h2:laidMet Tryz.prog [("internal/strconv.uint64pow10",Lib.tabData .u64 Lib.pow10Tab)] W:=h1.tail.tail;exact Lib.tabIs_of_head (rest:=[]) BK xR Tryz.underlying172 Tryz.underlying128 zQ sD h2
def my :DataW Unit→Array Value
 | .agg l=>(l.filterMap fun x=>match x with
  | .lit (.int k z)=>some (Value.int k z)
  |_=>none).toArray
 |_=> #[]
def sF (c:Array Value):Obj→Obj
 | .cells _ t frozen=> .cells c t frozen
 |o=>o
noncomputable def pk (os:Os):World:=
 { World.holding Tryz.prog os ⟨#[], #[],[]⟩with heap:=(((World.holding Tryz.prog os ⟨#[], #[],[]⟩).heap.modify 0 (sF (my Rows.laid_internal_strconv_uint64pow10))).modify 1 (sF (my Rows.laid_math_bits_deBruijn32tab))).modify 2 (sF (my Rows.laid_math_bits_deBruijn64tab)) }
end Go.Proofs.YtgbopnlpaabelaaGreatDoor
/- An update that came in, and the room of its operators' paths. -/
namespace Go.Proofs.YtgbopnlpaabelaaGreatDoor
open Go.ChangeShapes Go.WideShapes Go.RowKit Go.Joins Go.Deep
section
variable {H :Type} {enc:TypeId×Value→H} {W:World} {sp:Nat→Bool}
theorem po {fuel:Nat}{cs:List Value}{x:DataW H×List MemPlace}(h:DataW.trod enc Tryz.prog W 0 sp true fuel 51 cs=some x)(hw: ∀n∈x.1.weights Tryz.prog 51,n≤reachBytes):
  ∃o:OpT,OpL W (fun b=>b<W.heap.size) o cs.toArray∧ ∀PA n pc,cs.toArray[1]? =some (.slice PA n pc)→pc≤9223372036854775807:=by
 obtain⟨f0,f1,f2,f3,hu,t0,t1,t2,t3,o0,o1,o2,o3⟩:=vk;obtain⟨xs,n,hfu,hx,hlen,hxl,hg⟩:=DataW.trod_struct hu h;rw[yL]at hlen
 match cs,hlen with
 | [c0,c1,c2,c3,c4,c5,c6,c7],_=>
  match xs,hxl with
  | [y0,y1,y2,y3],_=>
   have g0:=hg 0 f0 rfl;have g1:=hg 1 f1 rfl;have g2:=hg 2 f2 rfl;have g3:=hg 3 f3 rfl;rw[t0,o0,tj]at g0;rw[t1,o1,lf]at g1;rw[t2,o2,mM]at g2;rw[t3,o3,lf]at g3;have hws:=hw;rw[hx]at hws;simp only[DataW.weights,hu,List.map_cons,List.map_nil,t0,t1,t2,t3]at hws;obtain⟨k,e0,-,w0⟩:=DataW.trod_int Tryz.underlying3 g0;simp at e0;subst e0;have hw1: ∀n∈y1.1.weights Tryz.prog 23,n≤reachBytes:=fun n hn=>hws n (by rw[DataW.weightsEach,DataW.weightsEach];exact List.mem_append_right _ (List.mem_append_left _ hn));have hw2: ∀n∈y2.1.weights Tryz.prog 25,n≤reachBytes:=fun n hn=>hws n (by rw[DataW.weightsEach,DataW.weightsEach,DataW.weightsEach];exact List.mem_append_right _ (List.mem_append_right _ (List.mem_append_left _ hn)));have hw3: ∀n∈y3.1.weights Tryz.prog 23,n≤reachBytes:=fun n hn=>hws n (by rw[DataW.weightsEach,DataW.weightsEach,DataW.weightsEach,DataW.weightsEach];exact List.mem_append_right _ (List.mem_append_right _ (List.mem_append_right _ (List.mem_append_left _ hn))));obtain⟨PA,pc,ps,e1,hpc,-,h63,hpn,hps⟩:=su g1 hw1;obtain⟨TA,tc,ts,e3,htc,-,htn,hts⟩:=iw g3 hw3;obtain⟨t,ht⟩:=qN _ _ _ g2 hw2;simp at e1 e3;subst e1 e3;refine⟨⟨k,ps,t,ts⟩,⟨PA,pc,c2,c3,c4,c5,c6,TA,tc,rfl,ht,hps,hts,hpc,htc,in64_of_wf w0,hpn,htn⟩,fun PA' n' pc' e=> ?_⟩;have e:some (Value.slice PA ps.length pc)=some (.slice PA' n' pc'):=e;injection e with e
   injection e with _ _ e
   omega
end
end Go.Proofs.YtgbopnlpaabelaaGreatDoor
/- A value in a box, as it stands in later worlds. -/
namespace Go.Proofs.YtgbopnlpaabelaaGreatDoor
open Go.RowKit
structure KV (W:World)(g:Nat)(T:VT)(A:Option Addr)(c:Nat)(A':Option Addr)(c':Nat):Prop where
 box:Box W g (.int .i64 T.kind) (.int .i64 T.num) (.string T.text) (.slice A T.items.length c) (.slice A' T.names.length c')
 val:LV W (fun b=>b<W.heap.size) T (.agg #[.int .i64 T.kind,.int .i64 T.num,.string T.text,.slice A T.items.length c,.slice A' T.names.length c'])
theorem KV.next {W W':World}{g:Nat}{T:VT}{A:Option Addr}{c:Nat}{A':Option Addr}{c':Nat}(h:KV W g T A c A' c')(hb:Below W.heap.size W W'):KV W' g T A c A' c':=
 ⟨h.box.call hb,(h.val.keep fun b h'=>hb.block b h').imp fun b h'=>Nat.lt_of_lt_of_le h' hb.size⟩
theorem KV.new {W:World}{S:Nat→Prop}{T:VT}{A:Option Addr}{c:Nat}{A':Option Addr}{c':Nat}(hS: ∀b,S b→b<W.heap.size)(h:LV W S T (.agg #[.int .i64 T.kind,.int .i64 T.num,.string T.text,.slice A T.items.length c,.slice A' T.names.length c'])):
  KV (W.alloc (.cells #[.int .i64 T.kind,.int .i64 T.num,.string T.text,.slice A T.items.length c,.slice A' T.names.length c'] 25)) W.heap.size T A c A' c':=
 ⟨Box.new ..,(h.keep fun b hb=>Below.heap_alloc W _ b (hS b hb)).imp fun b hb=>by
  have:=hS b hb;simp
  omega⟩
theorem df (W:World)(o:Obj):Below W.heap.size W (W.alloc o):=(Below.refl _ _).alloc (Nat.le_refl _) _
end Go.Proofs.YtgbopnlpaabelaaGreatDoor
