/- The document's own code of a value. -/
import Derived.Test.YtgfidiocmiolpaaGreatKCodG
import Derived.Test.YtgfidiocmiolpaaGreatKValB
import Derived.Test.YtgfidiocmiolpaaGreatKRegR
import Derived.Test.YtgfidiocmiolpaaGreatKLook
import Derived.Test.YtgfidiocmiolpaaGreatKCodX
import Derived.Test.YtgfidiocmiolpaaGreatKCodM
set_option maxHeartbeats 64000000
set_option maxRecDepth 100000
set_option linter.unusedVariables false
set_option linter.unusedSimpArgs false
namespace Go.Proofs.YtgfidiocmiolpaaGreat
open Lib (hid)
open Go.RowKit
def iP (t:VT):Prop:= ∀(S:Nat→Prop) (v:Value) (w:World),(∀x,S x→x<w.heap.size)→LV w S t v→(bX t).length≤140737488351232→Calls Tryz.prog 77 #[v] w (gw (bX t) w)
theorem gr {w:World}{b:UInt8}{k:Int}(hk:(b.toNat:Int)=k){B:Nat}(hB:B≤w.heap.size):ao (w.alloc (.cells #[.int .u8 k] 5)) B (.slice (some ⟨w.heap.size,0,none⟩) 1 1) [b]:=
 ⟨rfl,.inr ⟨w.heap.size,1, #[.int .u8 k],rfl,hB,heap_alloc_new w _,Nat.le_refl _,by decide,rfl,by simp[aF,hk]⟩⟩
theorem A8  :iP (.mk 1 0 eS [] []):=by
 intro S v w hS h hlen
 have he:bX (.mk 1 0 eS [] [])= [1]:=by
  rw[bs];unfold cS;simp[VT.kind,VT.num,VT.text,VT.items,VT.names,aQ]
 rw[he]at hlen ⊢;obtain⟨A,c,A',c',rfl,-,hri,hrs,hl1,-,hN,hA⟩:=h.shape;simp only[VT.kind,VT.num,VT.text,VT.items,VT.names,List.length_nil]at *;have HX:=hid (Box.new (w:=w) (.int .i64 1) (.int .i64 0) (.string eS) (.slice A 0 c) (.slice A' 0 c'));have hb0:=ac (w:=w) (.cells #[.int .i64 1,.int .i64 0,.string eS,.slice A 0 c,.slice A' 0 c'] 43);have hz0:(w.alloc (.cells #[.int .i64 1,.int .i64 0,.string eS,.slice A 0 c,.slice A' 0 c'] 43)).heap.size=w.heap.size+1:=by simp
 have ho1:ao ((w.alloc (.cells #[.int .i64 1,.int .i64 0,.string eS,.slice A 0 c,.slice A' 0 c'] 43)).alloc (.cells #[.int .u8 1] 5)) w.heap.size (.slice (some ⟨w.heap.size+1,0,none⟩) 1 1) [1]:=by
  have h:=gr (w:=w.alloc (.cells #[.int .i64 1,.int .i64 0,.string eS,.slice A 0 c,.slice A' 0 c'] 43)) (b:=1) (k:=1) rfl (B:=w.heap.size) (by omega);rw[hz0]at h;exact h
 have hb1:=bu hb0 (ac (w:=w.alloc (.cells #[.int .i64 1,.int .i64 0,.string eS,.slice A 0 c,.slice A' 0 c'] 43)) (.cells #[.int .u8 1] 5));have HO1:=hid ho1;have HX1:=hid (HX.out.call (ac (.cells #[.int .u8 1] 5)));have HB1:=hid hb1;have hz1:=hb1.size;have hz1':((w.alloc (.cells #[.int .i64 1,.int .i64 0,.string eS,.slice A 0 c,.slice A' 0 c'] 43)).alloc (.cells #[.int .u8 1] 5)).heap.size=w.heap.size+2:=by simp
 have HLEN:=hid hlen;have HRI:=hid hri;have HRS:=hid hrs;have HA:=hid hA;have HN:=hid hN;have HL1:=hid hl1;have k0:=HX1.out.c0;have k1:=HX1.out.c1;have k2:=HX1.out.c2;have k3:=HX1.out.c3;have k4:=HX1.out.c4;have q0:=HX.out.c0;clear hb0 hb1 ho1 hlen he h hri hrs hA hN HX hl1;go_enter Tryz.func77,Tryz.ntmps77;have HB4:=HB1;have HX4:=HX1;have HO4:=HO1;obtain⟨full,hfull⟩: ∃full:List UInt8,full= [1]:=⟨_,rfl⟩;have HF:=hid hfull;rw[←hfull]at HLEN ⊢;clear hfull;go_wp2_with fail
 go_loopw [3,4] (fun b i wr=> ∃(j:Nat) (X:List UInt8),i= .int .i64 j∧j≤([]:List VT).length∧Hid (ao wr w.heap.size b X)∧Hid (X++ct false (([]:List ByteArray).drop j) (([]:List VT).drop j)=full)∧Hid (Below w.heap.size w wr)∧Hid (Box wr w.heap.size (.int .i64 1) (.int .i64 0) (.string eS) (.slice A 0 c) (.slice A' 0 c'))) (fun _ i _=>([]:List VT).length - (intOf i).toNat)
 case atStart=>exact⟨0,[1],rfl,Nat.zero_le _,HO4,hid (by rw[HF.out];simp[aQ]),HB4,HX4⟩
 case round=>
  obtain⟨j,X,rfl,hj,HO,HE,HB,HX⟩:=hrel;clear HX4 HB4 HO4 k0 k3 k4;have k0:=HX.out.c0;have k3:=HX.out.c3;have k4:=HX.out.c4;by_cases hlt:j<([]:List VT).length
  ·exact absurd hlt (by simp)
  ·obtain rfl:j=([]:List VT).length:=by omega
   go_wp2_with fail;go_ret;exact⟨_,rfl,by have h1:=HE.out;rw[List.drop_of_length_le (Nat.le_refl _),aQ,List.append_nil]at h1;have h2:=HO.out;rw[h1]at h2;first|exact h2|(rw[HF.out]at h2;exact h2),HB.out⟩
theorem Ac  :iP (.mk 2 0 eS [] []):=by
 intro S v w hS h hlen
 have he:bX (.mk 2 0 eS [] [])= [2,0]:=by
  rw[bs];unfold cS;simp[VT.kind,VT.num,VT.text,VT.items,VT.names,aQ]
 rw[he]at hlen ⊢;obtain⟨A,c,A',c',rfl,-,hri,hrs,hl1,-,hN,hA⟩:=h.shape;simp only[VT.kind,VT.num,VT.text,VT.items,VT.names,List.length_nil]at *;have HX:=hid (Box.new (w:=w) (.int .i64 2) (.int .i64 0) (.string eS) (.slice A 0 c) (.slice A' 0 c'));have hb0:=ac (w:=w) (.cells #[.int .i64 2,.int .i64 0,.string eS,.slice A 0 c,.slice A' 0 c'] 43);have hz0:(w.alloc (.cells #[.int .i64 2,.int .i64 0,.string eS,.slice A 0 c,.slice A' 0 c'] 43)).heap.size=w.heap.size+1:=by simp
 have ho1:ao ((w.alloc (.cells #[.int .i64 2,.int .i64 0,.string eS,.slice A 0 c,.slice A' 0 c'] 43)).alloc (.cells #[.int .u8 2] 5)) w.heap.size (.slice (some ⟨w.heap.size+1,0,none⟩) 1 1) [2]:=by
  have h:=gr (w:=w.alloc (.cells #[.int .i64 2,.int .i64 0,.string eS,.slice A 0 c,.slice A' 0 c'] 43)) (b:=2) (k:=2) rfl (B:=w.heap.size) (by omega);rw[hz0]at h;exact h
 have hb1:=bu hb0 (ac (w:=w.alloc (.cells #[.int .i64 2,.int .i64 0,.string eS,.slice A 0 c,.slice A' 0 c'] 43)) (.cells #[.int .u8 2] 5));have HO1:=hid ho1;have HX1:=hid (HX.out.call (ac (.cells #[.int .u8 2] 5)));have HB1:=hid hb1;have hz1:=hb1.size;have hz1':((w.alloc (.cells #[.int .i64 2,.int .i64 0,.string eS,.slice A 0 c,.slice A' 0 c'] 43)).alloc (.cells #[.int .u8 2] 5)).heap.size=w.heap.size+2:=by simp
 have HLEN:=hid hlen;have HRI:=hid hri;have HRS:=hid hrs;have HA:=hid hA;have HN:=hid hN;have HL1:=hid hl1;have k0:=HX1.out.c0;have k1:=HX1.out.c1;have k2:=HX1.out.c2;have k3:=HX1.out.c3;have k4:=HX1.out.c4;have q0:=HX.out.c0;clear hb0 hb1 ho1 hlen he h hri hrs hA hN HX hl1;go_enter Tryz.func77,Tryz.ntmps77;have hb2:=ac (w:=((w.alloc (.cells #[.int .i64 2,.int .i64 0,.string eS,.slice A 0 c,.slice A' 0 c'] 43)).alloc (.cells #[.int .u8 2] 5))) (.cells #[.int .u8 0] 5);have HO2:=hid (ao.below HO1.out hb2);have HB2:=hid (HB1.out.trans (hb2.mono hz1));have hz2:=HB2.out.size;clear hb2;go_wp2_with(at_builtin;go_must (refine af rfl _ _ rfl w.heap.size _ [2] rfl HO2.out _ (.slice (some ⟨w.heap.size+2,0,none⟩) 1 1) [0] rfl (Rd.one' (by simp) 0 rfl) hz2 (by simp) ?_));intro v2 w2 hv2 hg2;have hb2:=aq HB2.out HO2.out hz2 hg2;go_wp2_with fail;go_ret;exact⟨_,rfl,hv2,hb2⟩
theorem zX  :iP (.mk 2 1 eS [] []):=by
 intro S v w hS h hlen
 have he:bX (.mk 2 1 eS [] [])= [2,1]:=by
  rw[bs];unfold cS;simp[VT.kind,VT.num,VT.text,VT.items,VT.names,aQ]
 rw[he]at hlen ⊢;obtain⟨A,c,A',c',rfl,-,hri,hrs,hl1,-,hN,hA⟩:=h.shape;simp only[VT.kind,VT.num,VT.text,VT.items,VT.names,List.length_nil]at *;have HX:=hid (Box.new (w:=w) (.int .i64 2) (.int .i64 1) (.string eS) (.slice A 0 c) (.slice A' 0 c'));have hb0:=ac (w:=w) (.cells #[.int .i64 2,.int .i64 1,.string eS,.slice A 0 c,.slice A' 0 c'] 43);have hz0:(w.alloc (.cells #[.int .i64 2,.int .i64 1,.string eS,.slice A 0 c,.slice A' 0 c'] 43)).heap.size=w.heap.size+1:=by simp
 have ho1:ao ((w.alloc (.cells #[.int .i64 2,.int .i64 1,.string eS,.slice A 0 c,.slice A' 0 c'] 43)).alloc (.cells #[.int .u8 2] 5)) w.heap.size (.slice (some ⟨w.heap.size+1,0,none⟩) 1 1) [2]:=by
  have h:=gr (w:=w.alloc (.cells #[.int .i64 2,.int .i64 1,.string eS,.slice A 0 c,.slice A' 0 c'] 43)) (b:=2) (k:=2) rfl (B:=w.heap.size) (by omega);rw[hz0]at h;exact h
 have hb1:=bu hb0 (ac (w:=w.alloc (.cells #[.int .i64 2,.int .i64 1,.string eS,.slice A 0 c,.slice A' 0 c'] 43)) (.cells #[.int .u8 2] 5));have HO1:=hid ho1;have HX1:=hid (HX.out.call (ac (.cells #[.int .u8 2] 5)));have HB1:=hid hb1;have hz1:=hb1.size;have hz1':((w.alloc (.cells #[.int .i64 2,.int .i64 1,.string eS,.slice A 0 c,.slice A' 0 c'] 43)).alloc (.cells #[.int .u8 2] 5)).heap.size=w.heap.size+2:=by simp
 have HLEN:=hid hlen;have HRI:=hid hri;have HRS:=hid hrs;have HA:=hid hA;have HN:=hid hN;have HL1:=hid hl1;have k0:=HX1.out.c0;have k1:=HX1.out.c1;have k2:=HX1.out.c2;have k3:=HX1.out.c3;have k4:=HX1.out.c4;have q0:=HX.out.c0;clear hb0 hb1 ho1 hlen he h hri hrs hA hN HX hl1;go_enter Tryz.func77,Tryz.ntmps77;have hb2:=ac (w:=((w.alloc (.cells #[.int .i64 2,.int .i64 1,.string eS,.slice A 0 c,.slice A' 0 c'] 43)).alloc (.cells #[.int .u8 2] 5))) (.cells #[.int .u8 1] 5);have HO2:=hid (ao.below HO1.out hb2);have HB2:=hid (HB1.out.trans (hb2.mono hz1));have hz2:=HB2.out.size;clear hb2;go_wp2_with(at_builtin;go_must (refine af rfl _ _ rfl w.heap.size _ [2] rfl HO2.out _ (.slice (some ⟨w.heap.size+2,0,none⟩) 1 1) [1] rfl (Rd.one' (by simp) 1 rfl) hz2 (by simp) ?_));intro v2 w2 hv2 hg2;have hb2:=aq HB2.out HO2.out hz2 hg2;go_wp2_with fail;go_ret;exact⟨_,rfl,hv2,hb2⟩
theorem Bc (i:Int):iP (.mk 3 i eS [] []):=by
 intro S v w hS h hlen
 have he:bX (.mk 3 i eS [] [])=3::grp (zig i):=by
  rw[bs];unfold cS;simp[VT.kind,VT.num,VT.text,VT.items,VT.names,aQ]
 rw[he]at hlen ⊢;obtain⟨A,c,A',c',rfl,-,hri,hrs,hl1,-,hN,hA⟩:=h.shape;simp only[VT.kind,VT.num,VT.text,VT.items,VT.names,List.length_nil]at *;have HX:=hid (Box.new (w:=w) (.int .i64 3) (.int .i64 i) (.string eS) (.slice A 0 c) (.slice A' 0 c'));have hb0:=ac (w:=w) (.cells #[.int .i64 3,.int .i64 i,.string eS,.slice A 0 c,.slice A' 0 c'] 43);have hz0:(w.alloc (.cells #[.int .i64 3,.int .i64 i,.string eS,.slice A 0 c,.slice A' 0 c'] 43)).heap.size=w.heap.size+1:=by simp
 have ho1:ao ((w.alloc (.cells #[.int .i64 3,.int .i64 i,.string eS,.slice A 0 c,.slice A' 0 c'] 43)).alloc (.cells #[.int .u8 3] 5)) w.heap.size (.slice (some ⟨w.heap.size+1,0,none⟩) 1 1) [3]:=by
  have h:=gr (w:=w.alloc (.cells #[.int .i64 3,.int .i64 i,.string eS,.slice A 0 c,.slice A' 0 c'] 43)) (b:=3) (k:=3) rfl (B:=w.heap.size) (by omega);rw[hz0]at h;exact h
 have hb1:=bu hb0 (ac (w:=w.alloc (.cells #[.int .i64 3,.int .i64 i,.string eS,.slice A 0 c,.slice A' 0 c'] 43)) (.cells #[.int .u8 3] 5));have HO1:=hid ho1;have HX1:=hid (HX.out.call (ac (.cells #[.int .u8 3] 5)));have HB1:=hid hb1;have hz1:=hb1.size;have hz1':((w.alloc (.cells #[.int .i64 3,.int .i64 i,.string eS,.slice A 0 c,.slice A' 0 c'] 43)).alloc (.cells #[.int .u8 3] 5)).heap.size=w.heap.size+2:=by simp
 have HLEN:=hid hlen;have HRI:=hid hri;have HRS:=hid hrs;have HA:=hid hA;have HN:=hid hN;have HL1:=hid hl1;have k0:=HX1.out.c0;have k1:=HX1.out.c1;have k2:=HX1.out.c2;have k3:=HX1.out.c3;have k4:=HX1.out.c4;have q0:=HX.out.c0;clear hb0 hb1 ho1 hlen he h hri hrs hA hN HX hl1;go_enter Tryz.func77,Tryz.ntmps77;go_wp2_with fail;refine(qS i _ HRI.out.1 HRI.out.2).mono ?_;rintro e w3 ⟨x,rfl,hx,hb⟩;have HR:=hid hx.rd;have HO3:=hid (ao.below HO1.out hb);have HB3:=hid (HB1.out.trans (hb.mono hz1));have hz3:=HB3.out.size;clear hx hb k0 k1 k2 k3 k4 q0;go_wp2_with(at_builtin;go_must (refine af rfl _ _ rfl w.heap.size _ [3] rfl HO3.out w3.heap.size x (grp (zig i)) rfl HR.out hz3 (by have h:=HLEN.out;simp only[List.length_cons,List.length_append,List.length_nil]at h ⊢;omega) ?_));intro v4 w4 hv4 hg4;have hb4:=aq HB3.out HO3.out hz3 hg4;go_wp2_with fail;go_ret;exact⟨_,rfl,hv4,hb4⟩
theorem AY (s:ByteArray):iP (.mk 4 0 s [] []):=by
 intro S v w hS h hlen
 have he:bX (.mk 4 0 s [] [])=4::txt s:=by
  rw[bs];unfold cS;simp[VT.kind,VT.num,VT.text,VT.items,VT.names,aQ]
 rw[he]at hlen ⊢;obtain⟨A,c,A',c',rfl,-,hri,hrs,hl1,-,hN,hA⟩:=h.shape;simp only[VT.kind,VT.num,VT.text,VT.items,VT.names,List.length_nil]at *;have HX:=hid (Box.new (w:=w) (.int .i64 4) (.int .i64 0) (.string s) (.slice A 0 c) (.slice A' 0 c'));have hb0:=ac (w:=w) (.cells #[.int .i64 4,.int .i64 0,.string s,.slice A 0 c,.slice A' 0 c'] 43);have hz0:(w.alloc (.cells #[.int .i64 4,.int .i64 0,.string s,.slice A 0 c,.slice A' 0 c'] 43)).heap.size=w.heap.size+1:=by simp
 have ho1:ao ((w.alloc (.cells #[.int .i64 4,.int .i64 0,.string s,.slice A 0 c,.slice A' 0 c'] 43)).alloc (.cells #[.int .u8 4] 5)) w.heap.size (.slice (some ⟨w.heap.size+1,0,none⟩) 1 1) [4]:=by
  have h:=gr (w:=w.alloc (.cells #[.int .i64 4,.int .i64 0,.string s,.slice A 0 c,.slice A' 0 c'] 43)) (b:=4) (k:=4) rfl (B:=w.heap.size) (by omega);rw[hz0]at h;exact h
 have hb1:=bu hb0 (ac (w:=w.alloc (.cells #[.int .i64 4,.int .i64 0,.string s,.slice A 0 c,.slice A' 0 c'] 43)) (.cells #[.int .u8 4] 5));have HO1:=hid ho1;have HX1:=hid (HX.out.call (ac (.cells #[.int .u8 4] 5)));have HB1:=hid hb1;have hz1:=hb1.size;have hz1':((w.alloc (.cells #[.int .i64 4,.int .i64 0,.string s,.slice A 0 c,.slice A' 0 c'] 43)).alloc (.cells #[.int .u8 4] 5)).heap.size=w.heap.size+2:=by simp
 have HLEN:=hid hlen;have HRI:=hid hri;have HRS:=hid hrs;have HA:=hid hA;have HN:=hid hN;have HL1:=hid hl1;have k0:=HX1.out.c0;have k1:=HX1.out.c1;have k2:=HX1.out.c2;have k3:=HX1.out.c3;have k4:=HX1.out.c4;have q0:=HX.out.c0;clear hb0 hb1 ho1 hlen he h hri hrs hA hN HX hl1;go_enter Tryz.func77,Tryz.ntmps77;go_wp2_with fail;refine(dV s _ HRS.out).mono ?_;rintro e w3 ⟨x,rfl,hx,hb⟩;have HR:=hid hx.rd;have HO3:=hid (ao.below HO1.out hb);have HB3:=hid (HB1.out.trans (hb.mono hz1));have hz3:=HB3.out.size;clear hx hb k0 k1 k2 k3 k4 q0;go_wp2_with(at_builtin;go_must (refine af rfl _ _ rfl w.heap.size _ [4] rfl HO3.out w3.heap.size x (txt s) rfl HR.out hz3 (by have h:=HLEN.out;simp only[List.length_cons,List.length_append,List.length_nil]at h ⊢;omega) ?_));intro v4 w4 hv4 hg4;have hb4:=aq HB3.out HO3.out hz3 hg4;go_wp2_with fail;go_ret;exact⟨_,rfl,hv4,hb4⟩
theorem AS (s:ByteArray):iP (.mk 5 0 s [] []):=by
 intro S v w hS h hlen
 have he:bX (.mk 5 0 s [] [])=5::txt s:=by
  rw[bs];unfold cS;simp[VT.kind,VT.num,VT.text,VT.items,VT.names,aQ]
 rw[he]at hlen ⊢;obtain⟨A,c,A',c',rfl,-,hri,hrs,hl1,-,hN,hA⟩:=h.shape;simp only[VT.kind,VT.num,VT.text,VT.items,VT.names,List.length_nil]at *;have HX:=hid (Box.new (w:=w) (.int .i64 5) (.int .i64 0) (.string s) (.slice A 0 c) (.slice A' 0 c'));have hb0:=ac (w:=w) (.cells #[.int .i64 5,.int .i64 0,.string s,.slice A 0 c,.slice A' 0 c'] 43);have hz0:(w.alloc (.cells #[.int .i64 5,.int .i64 0,.string s,.slice A 0 c,.slice A' 0 c'] 43)).heap.size=w.heap.size+1:=by simp
 have ho1:ao ((w.alloc (.cells #[.int .i64 5,.int .i64 0,.string s,.slice A 0 c,.slice A' 0 c'] 43)).alloc (.cells #[.int .u8 5] 5)) w.heap.size (.slice (some ⟨w.heap.size+1,0,none⟩) 1 1) [5]:=by
  have h:=gr (w:=w.alloc (.cells #[.int .i64 5,.int .i64 0,.string s,.slice A 0 c,.slice A' 0 c'] 43)) (b:=5) (k:=5) rfl (B:=w.heap.size) (by omega);rw[hz0]at h;exact h
 have hb1:=bu hb0 (ac (w:=w.alloc (.cells #[.int .i64 5,.int .i64 0,.string s,.slice A 0 c,.slice A' 0 c'] 43)) (.cells #[.int .u8 5] 5));have HO1:=hid ho1;have HX1:=hid (HX.out.call (ac (.cells #[.int .u8 5] 5)));have HB1:=hid hb1;have hz1:=hb1.size;have hz1':((w.alloc (.cells #[.int .i64 5,.int .i64 0,.string s,.slice A 0 c,.slice A' 0 c'] 43)).alloc (.cells #[.int .u8 5] 5)).heap.size=w.heap.size+2:=by simp
 have HLEN:=hid hlen;have HRI:=hid hri;have HRS:=hid hrs;have HA:=hid hA;have HN:=hid hN;have HL1:=hid hl1;have k0:=HX1.out.c0;have k1:=HX1.out.c1;have k2:=HX1.out.c2;have k3:=HX1.out.c3;have k4:=HX1.out.c4;have q0:=HX.out.c0;clear hb0 hb1 ho1 hlen he h hri hrs hA hN HX hl1;go_enter Tryz.func77,Tryz.ntmps77;go_wp2_with fail;refine(dV s _ HRS.out).mono ?_;rintro e w3 ⟨x,rfl,hx,hb⟩;have HR:=hid hx.rd;have HO3:=hid (ao.below HO1.out hb);have HB3:=hid (HB1.out.trans (hb.mono hz1));have hz3:=HB3.out.size;clear hx hb k0 k1 k2 k3 k4 q0;go_wp2_with(at_builtin;go_must (refine af rfl _ _ rfl w.heap.size _ [5] rfl HO3.out w3.heap.size x (txt s) rfl HR.out hz3 (by have h:=HLEN.out;simp only[List.length_cons,List.length_append,List.length_nil]at h ⊢;omega) ?_));intro v4 w4 hv4 hg4;have hb4:=aq HB3.out HO3.out hz3 hg4;go_wp2_with fail;go_ret;exact⟨_,rfl,hv4,hb4⟩
theorem Ba (its:List VT)(ih: ∀x∈its,iP x):iP (.mk 6 0 eS its []):=by
 intro S v w hS h hlen
 have he:bX (.mk 6 0 eS its [])=6::(grp its.length++ct false [] its):=by
  rw[bs];unfold cS;simp[VT.kind,VT.num,VT.text,VT.items,VT.names,aQ]
 rw[he]at hlen ⊢;obtain⟨A,c,A',c',rfl,-,hri,hrs,hl1,-,hN,hA⟩:=h.shape;simp only[VT.kind,VT.num,VT.text,VT.items,VT.names,List.length_nil]at *;have HX:=hid (Box.new (w:=w) (.int .i64 6) (.int .i64 0) (.string eS) (.slice A its.length c) (.slice A' 0 c'));have hb0:=ac (w:=w) (.cells #[.int .i64 6,.int .i64 0,.string eS,.slice A its.length c,.slice A' 0 c'] 43);have hz0:(w.alloc (.cells #[.int .i64 6,.int .i64 0,.string eS,.slice A its.length c,.slice A' 0 c'] 43)).heap.size=w.heap.size+1:=by simp
 have ho1:ao ((w.alloc (.cells #[.int .i64 6,.int .i64 0,.string eS,.slice A its.length c,.slice A' 0 c'] 43)).alloc (.cells #[.int .u8 6] 5)) w.heap.size (.slice (some ⟨w.heap.size+1,0,none⟩) 1 1) [6]:=by
  have h:=gr (w:=w.alloc (.cells #[.int .i64 6,.int .i64 0,.string eS,.slice A its.length c,.slice A' 0 c'] 43)) (b:=6) (k:=6) rfl (B:=w.heap.size) (by omega);rw[hz0]at h;exact h
 have hb1:=bu hb0 (ac (w:=w.alloc (.cells #[.int .i64 6,.int .i64 0,.string eS,.slice A its.length c,.slice A' 0 c'] 43)) (.cells #[.int .u8 6] 5));have HO1:=hid ho1;have HX1:=hid (HX.out.call (ac (.cells #[.int .u8 6] 5)));have HB1:=hid hb1;have hz1:=hb1.size;have hz1':((w.alloc (.cells #[.int .i64 6,.int .i64 0,.string eS,.slice A its.length c,.slice A' 0 c'] 43)).alloc (.cells #[.int .u8 6] 5)).heap.size=w.heap.size+2:=by simp
 have HLEN:=hid hlen;have HRI:=hid hri;have HRS:=hid hrs;have HA:=hid hA;have HN:=hid hN;have HL1:=hid hl1;have HIH:=hid ih;clear ih;have k0:=HX1.out.c0;have k1:=HX1.out.c1;have k2:=HX1.out.c2;have k3:=HX1.out.c3;have k4:=HX1.out.c4;have q0:=HX.out.c0;clear hb0 hb1 ho1 hlen he h hri hrs hA hN HX hl1;go_enter Tryz.func77,Tryz.ntmps77;go_wp2_with fail;refine(bH its.length _ (by have:=HL1.out;omega)).mono ?_;rintro e w1 ⟨x,rfl,hx,hb⟩;have HR:=hid hx.rd;have HO2:=hid (ao.below HO1.out hb);have HB2:=hid (HB1.out.trans (hb.mono hz1));have HX2:=hid (HX1.out.call hb);have hz2:=HB2.out.size;clear hx hb k0 k1 k2 k3 k4 q0;go_wp2_with(at_builtin;go_must (refine af rfl _ _ rfl w.heap.size _ [6] rfl HO2.out w1.heap.size x (grp its.length) rfl HR.out hz2 (by have h:=HLEN.out;simp only[List.length_cons,List.length_append,List.length_nil]at h ⊢;omega) ?_));intro v4 w4 hv4 hg4;have HB4:=hid (aq HB2.out HO2.out hz2 hg4);have HX4:=hid (HX2.out.k8 (au HO2.out hg4));have HO4:=hid hv4;have k0:=HX4.out.c0;have k3:=HX4.out.c3;have k4:=HX4.out.c4;clear hv4 hg4 HB2 HX2 HO2 HR HB1 HX1 HO1;obtain⟨full,hfull⟩: ∃full:List UInt8,full=6::(grp its.length++ct false [] its):=⟨_,rfl⟩;have HF:=hid hfull;rw[←hfull]at HLEN ⊢;clear hfull;go_wp2_with fail
 go_loopw [3,4] (fun b i wr=> ∃(j:Nat) (X:List UInt8),i= .int .i64 j∧j≤its.length∧Hid (ao wr w.heap.size b X)∧Hid (X++ct false (([]:List ByteArray).drop j) (its.drop j)=full)∧Hid (Below w.heap.size w wr)∧Hid (Box wr w.heap.size (.int .i64 6) (.int .i64 0) (.string eS) (.slice A its.length c) (.slice A' 0 c'))) (fun _ i _=>its.length - (intOf i).toNat)
 case atStart=>exact⟨0,6::grp its.length,rfl,Nat.zero_le _,HO4,hid (by rw[HF.out];simp[aQ]),HB4,HX4⟩
 case round=>
  obtain⟨j,X,rfl,hj,HO,HE,HB,HX⟩:=hrel;clear HX4 HB4 HO4 k0 k3 k4;have k0:=HX.out.c0;have k3:=HX.out.c3;have k4:=HX.out.c4;by_cases hlt:j<its.length
  ·obtain⟨p,o,A2,e2,A3,e3,rfl,h0,h1,h2,h3,h4,hx⟩:=iS hS HA.out HB.out j hlt;have hwl:w.heap.size<wr.heap.size:=HX.out.lt;have HV:=hid hx;have hBz:w.heap.size≤wr.heap.size:=HB.out.size;clear hx
   have HE2:Hid (X++(bX its[j]++ct false (([]:List ByteArray).drop (j+1)) (its.drop (j+1)))=full):=hid (by
    have h1:=HE.out;rw[jw false hlt (fun h=>by cases h)]at h1
    simpa using h1)
   have HLE1:Hid (X.length+(bX its[j]).length≤140737488355328∧(bX its[j]).length≤140737488351232):=hid (by
    have h1:=HLEN.out;rw[←HE2.out]at h1
    simp only[List.length_append]at h1 ⊢;omega)
   have HC:=hid (HIH.out its[j] (List.getElem_mem hlt) S _ wr (fun b hb=>Nat.lt_of_lt_of_le (hS b hb) hBz) HV.out HLE1.out.2);go_wp2_with fail;refine HC.out.mono ?_;rintro e w7 ⟨x7,rfl,hx7,hb7⟩;have HR7:=hid hx7.rd;have HO7:=hid (ao.below HO.out hb7);have HB7:=hid (HB.out.trans (hb7.mono hBz));have HX7:=hid (HX.out.call hb7);have hz7:=HB7.out.size;clear hx7 hb7 HB HO HX HC HV h0 h1 h2 h3 h4 k0 k3 k4;go_wp2_with(at_builtin;go_must (refine af rfl _ _ rfl w.heap.size _ X rfl HO7.out w7.heap.size x7 (bX its[j]) rfl HR7.out hz7 HLE1.out.1 ?_));intro v8 w8 hv8 hg8;have HB8:=hid (aq HB7.out HO7.out hz7 hg8);have HX8:=hid (HX7.out.k8 (au HO7.out hg8));have HO8:=hid hv8;clear hv8 hg8 HB7 HX7 HO7 HR7;have hL1:=HL1.out;go_wp2_with fail
   go_roundw
   case rel=>exact⟨j+1,X++bX its[j],by go_num,by omega,HO8,hid (by have h:=HE2.out;simpa using h),HB8,HX8⟩
   case measure=>simp[intOf];omega
  ·obtain rfl:j=its.length:=by omega
   go_wp2_with fail;go_ret;exact⟨_,rfl,by have h1:=HE.out;rw[List.drop_of_length_le (Nat.le_refl _),aQ,List.append_nil]at h1;have h2:=HO.out;rw[h1]at h2;first|exact h2|(rw[HF.out]at h2;exact h2),HB.out⟩
theorem AW (its:List VT)(ns:List ByteArray)(hn:ns.length=its.length)(ih: ∀x∈its,iP x):iP (.mk 7 0 eS its ns):=by
 intro S v w hS h hlen
 have he:bX (.mk 7 0 eS its ns)=7::(grp its.length++ct true ns its):=by
  rw[bs];unfold cS;simp[VT.kind,VT.num,VT.text,VT.items,VT.names,aQ]
 rw[he]at hlen ⊢;obtain⟨A,c,A',c',rfl,-,hri,hrs,hl1,-,hN,hA⟩:=h.shape;simp only[VT.kind,VT.num,VT.text,VT.items,VT.names,List.length_nil]at *;have HX:=hid (Box.new (w:=w) (.int .i64 7) (.int .i64 0) (.string eS) (.slice A its.length c) (.slice A' ns.length c'));have hb0:=ac (w:=w) (.cells #[.int .i64 7,.int .i64 0,.string eS,.slice A its.length c,.slice A' ns.length c'] 43);have hz0:(w.alloc (.cells #[.int .i64 7,.int .i64 0,.string eS,.slice A its.length c,.slice A' ns.length c'] 43)).heap.size=w.heap.size+1:=by simp
 have ho1:ao ((w.alloc (.cells #[.int .i64 7,.int .i64 0,.string eS,.slice A its.length c,.slice A' ns.length c'] 43)).alloc (.cells #[.int .u8 7] 5)) w.heap.size (.slice (some ⟨w.heap.size+1,0,none⟩) 1 1) [7]:=by
  have h:=gr (w:=w.alloc (.cells #[.int .i64 7,.int .i64 0,.string eS,.slice A its.length c,.slice A' ns.length c'] 43)) (b:=7) (k:=7) rfl (B:=w.heap.size) (by omega);rw[hz0]at h;exact h
 have hb1:=bu hb0 (ac (w:=w.alloc (.cells #[.int .i64 7,.int .i64 0,.string eS,.slice A its.length c,.slice A' ns.length c'] 43)) (.cells #[.int .u8 7] 5));have HO1:=hid ho1;have HX1:=hid (HX.out.call (ac (.cells #[.int .u8 7] 5)));have HB1:=hid hb1;have hz1:=hb1.size;have hz1':((w.alloc (.cells #[.int .i64 7,.int .i64 0,.string eS,.slice A its.length c,.slice A' ns.length c'] 43)).alloc (.cells #[.int .u8 7] 5)).heap.size=w.heap.size+2:=by simp
 have HLEN:=hid hlen;have HRI:=hid hri;have HRS:=hid hrs;have HA:=hid hA;have HN:=hid hN;have HL1:=hid hl1;have HIH:=hid ih;have HNL:=hid hn;clear ih hn;have k0:=HX1.out.c0;have k1:=HX1.out.c1;have k2:=HX1.out.c2;have k3:=HX1.out.c3;have k4:=HX1.out.c4;have q0:=HX.out.c0;clear hb0 hb1 ho1 hlen he h hri hrs hA hN HX hl1;go_enter Tryz.func77,Tryz.ntmps77;go_wp2_with fail;refine(bH its.length _ (by have:=HL1.out;omega)).mono ?_;rintro e w1 ⟨x,rfl,hx,hb⟩;have HR:=hid hx.rd;have HO2:=hid (ao.below HO1.out hb);have HB2:=hid (HB1.out.trans (hb.mono hz1));have HX2:=hid (HX1.out.call hb);have hz2:=HB2.out.size;clear hx hb k0 k1 k2 k3 k4 q0;go_wp2_with(at_builtin;go_must (refine af rfl _ _ rfl w.heap.size _ [7] rfl HO2.out w1.heap.size x (grp its.length) rfl HR.out hz2 (by have h:=HLEN.out;simp only[List.length_cons,List.length_append,List.length_nil]at h ⊢;omega) ?_));intro v4 w4 hv4 hg4;have HB4:=hid (aq HB2.out HO2.out hz2 hg4);have HX4:=hid (HX2.out.k8 (au HO2.out hg4));have HO4:=hid hv4;have k0:=HX4.out.c0;have k3:=HX4.out.c3;have k4:=HX4.out.c4;clear hv4 hg4 HB2 HX2 HO2 HR HB1 HX1 HO1;obtain⟨full,hfull⟩: ∃full:List UInt8,full=7::(grp its.length++ct true ns its):=⟨_,rfl⟩;have HF:=hid hfull;rw[←hfull]at HLEN ⊢;clear hfull;go_wp2_with fail
 go_loopw [3,4] (fun b i wr=> ∃(j:Nat) (X:List UInt8),i= .int .i64 j∧j≤its.length∧Hid (ao wr w.heap.size b X)∧Hid (X++ct true (ns.drop j) (its.drop j)=full)∧Hid (Below w.heap.size w wr)∧Hid (Box wr w.heap.size (.int .i64 7) (.int .i64 0) (.string eS) (.slice A its.length c) (.slice A' ns.length c'))) (fun _ i _=>its.length - (intOf i).toNat)
 case atStart=>exact⟨0,7::grp its.length,rfl,Nat.zero_le _,HO4,hid (by rw[HF.out];simp[aQ]),HB4,HX4⟩
 case round=>
  obtain⟨j,X,rfl,hj,HO,HE,HB,HX⟩:=hrel;clear HX4 HB4 HO4 k0 k3 k4;have k0:=HX.out.c0;have k3:=HX.out.c3;have k4:=HX.out.c4;by_cases hlt:j<its.length
  ·obtain⟨p,o,A2,e2,A3,e3,rfl,h0,h1,h2,h3,h4,hx⟩:=iS hS HA.out HB.out j hlt;have hwl:w.heap.size<wr.heap.size:=HX.out.lt;have HV:=hid hx;have hBz:w.heap.size≤wr.heap.size:=HB.out.size;clear hx;obtain⟨p',o',rfl,hpB,t1,hts⟩:=qV hS HN.out HB.out j (by rw[HNL.out];exact hlt);have k4:wr.cell? ⟨w.heap.size,4,none⟩=some (.slice (some ⟨p',o',none⟩) ns.length c'):=HX.out.c4;have hjn:j<ns.length:=by rw[HNL.out];exact hlt
   obtain⟨sn,hsn⟩: ∃s,s=ns[j]:=⟨_,rfl⟩;rw[←hsn]at t1 hts;have HSN:=hid hsn;have HTS:=hid hts
   have HE2:Hid (X++(txt sn++(bX its[j]++ct true (ns.drop (j+1)) (its.drop (j+1))))=full):=hid (by
    have h1:=HE.out;rw[jw true hlt (fun _=>hjn)]at h1;have h2:ns.getD j eS=sn:=by rw[HSN.out];simp[hjn]
    rw[h2]at h1
    simpa using h1)
   have HLE1:Hid (X.length+(txt sn).length≤140737488355328∧(X++txt sn).length+(bX its[j]).length≤140737488355328∧(bX its[j]).length≤140737488351232):=hid (by
    have h1:=HLEN.out;rw[←HE2.out]at h1
    simp only[List.length_append]at h1 ⊢;omega)
   clear hts hsn;go_wp2_with fail;refine(dV sn _ HTS.out).mono ?_;rintro e w5 ⟨x5,rfl,hx5,hb5⟩;have HR5:=hid hx5.rd;have HO5:=hid (ao.below HO.out hb5);have HB5:=hid (HB.out.trans (hb5.mono hBz));have HX5:=hid (HX.out.call hb5);have hz5:=HB5.out.size;clear hx5 hb5 HB HO HX h0 h1 h2 h3 h4 k0 k3 k4 t1;go_wp2_with(at_builtin;go_must (refine af rfl _ _ rfl w.heap.size _ X rfl HO5.out w5.heap.size x5 (txt sn) rfl HR5.out hz5 HLE1.out.1 ?_));intro v6 w6 hv6 hg6;have HB6:=hid (aq HB5.out HO5.out hz5 hg6);have HX6:=hid (HX5.out.k8 (au HO5.out hg6));have HO6:=hid hv6;have hz6:=HB6.out.size;have hwl6:w.heap.size<w6.heap.size:=HX6.out.lt;clear hv6 hg6 HB5 HX5 HO5 HR5;obtain⟨p2,o2,A5,e5,A6,e6,hpe,h0,h1,h2,h3,h4,hx⟩:=iS hS HA.out HB6.out j hlt;injection hpe with hpe
   injection hpe with hp1 hp2
   subst hp1 hp2;have HV6:=hid hx;have k0:=HX6.out.c0;have k3:=HX6.out.c3;have k4:=HX6.out.c4;clear hx HV;have HC:=hid (HIH.out its[j] (List.getElem_mem hlt) S _ w6 (fun b hb=>Nat.lt_of_lt_of_le (hS b hb) hz6) HV6.out HLE1.out.2.2);go_wp2_with fail;refine HC.out.mono ?_;rintro e w7 ⟨x7,rfl,hx7,hb7⟩;have HR7:=hid hx7.rd;have HO7:=hid (ao.below HO6.out hb7);have HB7:=hid (HB6.out.trans (hb7.mono hz6));have HX7:=hid (HX6.out.call hb7);have hz7:=HB7.out.size;clear hx7 hb7 HB6 HO6 HX6 HC h0 h1 h2 h3 h4 k0 k3 k4;go_wp2_with(at_builtin;go_must (refine af rfl _ _ rfl w.heap.size _ (X++txt sn) rfl HO7.out w7.heap.size x7 (bX its[j]) rfl HR7.out hz7 HLE1.out.2.1 ?_));intro v8 w8 hv8 hg8;have HB8:=hid (aq HB7.out HO7.out hz7 hg8);have HX8:=hid (HX7.out.k8 (au HO7.out hg8));have HO8:=hid hv8;clear hv8 hg8 HB7 HX7 HO7 HR7;have hL1:=HL1.out;go_wp2_with fail
   go_roundw
   case rel=>exact⟨j+1,X++(txt sn++bX its[j]),by go_num,by omega,HO8,hid (by have h:=HE2.out;simpa using h),HB8,HX8⟩
   case measure=>simp[intOf];omega
  ·obtain rfl:j=its.length:=by omega
   go_wp2_with fail;go_ret;exact⟨_,rfl,by have h1:=HE.out;rw[List.drop_of_length_le (Nat.le_refl _),aQ,List.append_nil]at h1;have h2:=HO.out;rw[h1]at h2;first|exact h2|(rw[HF.out]at h2;exact h2),HB.out⟩
theorem sI : ∀(n:Nat) (t:VT),ap t≤n→bq t=true→iP t
 |0,t,hd,_=>by cases t;rw[aL]at hd;omega
 |n+1,t,hd,hm=>by
  rcases pM hm with rfl|⟨i,hi,rfl⟩|⟨i,rfl⟩|⟨k,s,hk,rfl⟩|⟨l,hl,rfl⟩|⟨l,ns,hl,hn,hdn,rfl⟩
  ·exact A8
  ·rcases hi with rfl|rfl
   ·exact Ac
   ·exact zX
  ·exact Bc i
  ·rcases hk with rfl|rfl
   ·exact AY s
   ·exact AS s
  ·rw[aL]at hd;exact Ba l fun x hx=>sI n x (by have:=bU hx;omega) (cA hl hx)
  ·rw[aL]at hd;exact AW l ns hn fun x hx=>sI n x (by have:=bU hx;omega) (cA hl hx)
theorem za {p:List ByteArray}(h:iy p=true):ku p:=by
 obtain⟨-,h8,h2⟩:=(lP p).1 h;refine⟨by omega,fun s hs=> ?_⟩;have:=((gG s).1 (h2 s hs)).2.1;omega
theorem kX {p:List ByteArray}(h:ku p):(cg p).length≤1012000:=by
 have h1:=(ak p.length).1;have h2:=em h.2;have h3:=h.1;unfold cg;rw[List.length_append];omega
theorem yh (g:Nat)(st:Option (List UInt8))(w:World)(h:aK w g st):Calls Tryz.prog 33 #[.pointer (some ⟨g,0,none⟩)] w fun e w'=>e= .returned (.int .i64 (hU st))∧w=w':=by
 rcases st with _|l
 ·exact si g w h
 ·exact wT g l w h
theorem rY (a b:List UInt8):aF (a++b)=aF a++aF b:=by unfold aF;rw[List.map_append]
theorem aE {w:World}{o:Oper}{a:Act}{K:Act→World→Prop}{Q:Exit→Act→World→Prop}(s x:Operand)
  (ho:o.op= .call { callee:= .builtin .append,args:= #[s,x],argTypes:= #[23,23] }) (B:Nat) (v:Value) (l:List UInt8) (hs:a.eval s=v) (hown:ao w B v l)
  (D:Nat) (vx:Value) (m:List UInt8) (hx:a.eval x=vx) (hrd:Rd w D vx m) (hp:0<m.length) (hB:B≤w.heap.size) (hl:l.length+m.length≤140737488355328)
  (K': ∀v' w',ao w' B v' (l++m)→w.grownBy w' v.ownBlock→K (a.put o.dst v') w'):o.wp Tryz.prog a w K Q:=by
 obtain⟨i0,hi,hz0,hz1,hz2⟩:=info_parts Tryz.infoU8;obtain⟨A,cap,rfl,hcap,-,hc⟩:=hrd;obtain⟨b,off,rfl,-,hcell⟩:=hc hp;refine ck _ s x 23 ho B 5 i0 (.int .u8 0) 1 1 Tryz.underlying23 hi hz0 hz1 hz2 rfl (by decide) v l.length (aF l) hs hown ⟨b,off,none⟩ m.length cap (aF m) hx (by simp[aF]) (fun j u hj=> ?_) (fun u hu=> ?_) (by unfold maxLen;omega) (by omega) hB fun v' w' h1 h2 _=>K' v' w' (by unfold ao;rw[List.length_append,rY];exact h1) h2
 ·have hj':=(List.getElem?_eq_some_iff.1 hj);obtain⟨hlt,he⟩:=hj';have hlm:j<m.length:=by simpa[aF]using hlt
  have:=hcell j hlm;simp only[aF,List.getElem_map]at he;rw[←he];rw[show(Addr.add ⟨b,off,none⟩ j:Addr)=⟨b,off+j,none⟩ from by cases j<;>simp[Addr.add]];exact this
 ·obtain⟨y,-,rfl⟩:=List.mem_map.1 hu;rfl
theorem nH (S:Nat→Prop)(t:VT)(v:Value)(w:World)(hS: ∀b,S b→b<w.heap.size)(h:LV w S t v)(hz:aM t≤9223372036854775807)(hc:ba t=0):Calls Tryz.prog 77 #[v] w (gw (cp t) w):=by
 obtain⟨h1,h2,h3⟩:=(ej hz).1 hc;have he:cp t=bX t:=by unfold cp;rw[if_pos hc]
 rw[he];exact sI _ t (Nat.le_refl _) h1 S v w hS h (by rw[jl t h1];omega)
def rdK (st:Option (List UInt8)):Nat→List ByteArray×Option (List UInt8)
 |0=>([],st)
 |k+1=>((rdK st k).1++[⟨(ar 32 (rdK st k).2).1.toArray⟩],(ar 32 (rdK st k).2).2)
theorem lH (st:Option (List UInt8)): ∀k,(rdK st k).1.length=k
 |0=>rfl
 |k+1=>by simp[rdK,lH st k]
def bo (st:Option (List UInt8)):List ByteArray×Option (List UInt8):=rdK (ah 8 st).2 (ah 8 st).1
theorem pt (g:Nat)(st:Option (List UInt8))(w:World)(hs:aK w g st):
  Calls Tryz.prog 188 #[.pointer (some ⟨g,0,none⟩)] w fun e w'=> ∃A c,e= .returned (.slice A (bo st).1.length c)∧w'.ownsRow w.heap.size 9 1 (.slice A (bo st).1.length c) (bo st).1.length ((bo st).1.map Value.string)∧aK w' g (bo st).2∧az w w' g:=by
 obtain⟨i0,hi,hz0,hz1,hz2⟩:=info_parts Tryz.infoStr;have h8:(ah 8 st).1≤8:=b8 8 st (by omega);have HC:=hid (cy g st 8 w hs (by omega));have HG:=hid hs.lt;obtain⟨n,hn⟩: ∃n,n=(ah 8 st).1:=⟨_,rfl⟩;have HN:=hid hn;rw[←hn]at h8 HC;clear hs hn;go_enter Tryz.func188,Tryz.ntmps188;go_wp2_with fail;refine HC.out.mono ?_;rintro e w1 ⟨rfl,hs1,ho1⟩;obtain⟨s1,hs1'⟩: ∃s1,s1=(ah 8 st).2:=⟨_,rfl⟩;rw[←hs1']at hs1;have HS1:=hid hs1';have h0:Hid (aK w1 g (rdK s1 0).2∧az w w1 g):=hid ⟨hs1,ho1⟩;clear hs1 ho1 hs1' HC;go_wp2_with fail
 go_loopw [3,6] (fun v i wr=> ∃(k:Nat) (A:Option Addr) (c:Nat),i= .int .i64 k∧k≤n∧v= .slice A k c∧Hid (aK wr g (rdK s1 k).2∧az w wr g)∧Hid (wr.ownsRow w.heap.size 9 1 (.slice A k c) k ((rdK s1 k).1.map Value.string))) (fun _ i _=>n - (intOf i).toNat)
 case atStart=>exact⟨0,none,0,rfl,by omega,rfl,h0,hid (World.ownsRow_nil _ _ _ _)⟩
 case round=>
  obtain⟨k,A,c,rfl,hk,rfl,HH,HR⟩:=hrel;by_cases hlt:k<n
  ·have d1:decide ((k:Int)<(n:Int))=true:=decide_eq_true (by omega);have HT:=hid (db g (rdK s1 k).2 32 wr HH.out.1 (by omega));go_wp2_with fail;refine HT.out.mono ?_;rintro e w5 ⟨rfl,hs5,ho5⟩;obtain⟨sx,hsx⟩: ∃sx:ByteArray,sx=⟨(ar 32 (rdK s1 k).2).1.toArray⟩:=⟨_,rfl⟩;rw[←hsx];have hw5:az w w5 g:=HH.out.2.trans ho5;have hlo: ∀q,(Value.slice A k c).ownBlock=some q→w.heap.size≤q∧q<wr.heap.size:=fun q hq=>World.ownsRow.lt HR.out q hq;have hg5:=HG.out
   have hrow: ∀X:Obj,(w5.alloc X).ownsRow w.heap.size 9 1 (.slice A k c) k ((rdK s1 k).1.map Value.string):=fun X=>bz HR.out fun q hq=>by
    have:=hlo q hq;exact(Below.heap_alloc w5 _ _ (by have:=ho5.size;omega)).trans (ho5.block q this.2 (by rintro⟨⟩;omega))
   have HX5:Hid (aK w5 g (rdK s1 (k+1)).2∧az w w5 g∧ ∀q,(Value.slice A k c).ownBlock=some q→w.heap.size≤q):=hid ⟨hs5,hw5,fun q hq=>(hlo q hq).1⟩;have HSX:=hid hsx;have HROW:=hid hrow;have hsz5:=hw5.size;have hkn:k≤8:=by omega
   clear hs5 ho5 hw5 hlo hsx HT hrow;go_wp2_with(at_builtin;refine wpList_append_own _ rfl _ _ 41 rfl w.heap.size 9 i0 (.string ⟨#[]⟩) 1 16 Tryz.underlying41 hi hz0 hz1 hz2 rfl (by decide) _ k _ rfl (HROW.out _) ⟨w5.heap.size,0,none⟩ 1 1 [.string sx] rfl rfl (cell_one_new _ _ _) (by simp[Value.oneCell']) (by unfold maxLen;omega) (by omega) (by simp;omega) ?_;intro v6 w6 hown6 hg6 hnil6;obtain⟨A6,c6,rfl⟩:=wK hown6;have HX6:Hid (aK w6 g (rdK s1 (k+1)).2∧az w w6 g):=hid ⟨HX5.out.1.of ((hg6.block g (by simp;omega) (fun e=>by have:=HX5.out.2.2 g e.symm;omega)).trans (Below.heap_alloc w5 _ g (by omega))),⟨hg6.os.trans HX5.out.2.1.os,hg6.tape.trans HX5.out.2.1.tape,hg6.output.trans HX5.out.2.1.output,Nat.le_trans hsz5 (Nat.le_trans (by simp) hg6.size),fun q hq hne=>(hg6.block q (by simp;omega) (fun e=>by have:=HX5.out.2.2 q e.symm;omega)).trans ((Below.heap_alloc w5 _ q (by omega)).trans (HX5.out.2.1.block q hq hne))⟩⟩;have HR6:=hid hown6;clear hown6 hg6 hnil6);try go_wp2_with fail
   go_roundw
   case rel=>exact⟨k+1,A6,c6,by go_num,by omega,rfl,HX6,hid (by have h9:=HR6.out;rw[HSX.out]at h9;unfold rdK;rw[List.map_append];exact h9)⟩
   case measure=>simp[intOf];omega
  ·have hke:k=n:=by omega
   have d1:decide ((k:Int)<(n:Int))=false:=decide_eq_false (by omega);have HE:Hid (bo st=rdK s1 k):=hid (by unfold bo;rw[←HS1.out,←HN.out,hke]);clear hke;go_wp2_with fail;go_ret;rw[HE.out,lH];exact⟨A,c,rfl,HR.out,HH.out.1,HH.out.2⟩
theorem qT (st:Option (List UInt8)): ∀k,∀x∈(rdK st k).1,x.size≤140737488351232
  |0,x,hx=>by simp[rdK]at hx
  |k+1,x,hx=>by
    simp only[rdK,List.mem_append,List.mem_singleton]at hx;rcases hx with hx|rfl
    · exact qT st k x hx
    · have:=de 32 (rdK st k).2 (by omega)
      show(ar 32 (rdK st k).2).1.toArray.size≤_;simp only[List.size_toArray];have h2:(ar 32 (rdK st k).2).1.length≤32:=this;omega
theorem qC (st:Option (List UInt8)):(bo st).1.length≤8:=by
  unfold bo;rw[lH];exact b8 8 st (by omega)
def aO :VT:= .mk 0 0 ⟨#[]⟩ [] []
theorem rI {k:Int}(h0:0≤k)(h:k<256):Rng k:=by unfold Rng;omega
theorem xG {w:World}{B:Nat}{A:Option Addr}{c:Nat}{l:List ByteArray}(h:w.ownsRow B 9 1 (.slice A l.length c) l.length (l.map Value.string))(hs: ∀s∈l,s.size≤140737488351232):l.length≤c∧aA w (fun b=>B≤b∧b<w.heap.size) A l:=by
  obtain⟨A',c',e,h1,h2⟩:=zO.opens (v:= .slice A l.length c) h hs;injection e with e1 e2 e3
  subst e1 e3;exact⟨h1,h2⟩
theorem lq (n:Int):(ar n none).2=none:=by
  have h:ah n none=(0,none):=by unfold ah;split<;>rfl
  unfold ar;rw[h];rfl
theorem mK {st:Option (List UInt8)}{k:Nat}(h:(rdK st k).2=none): ∀m,k≤m→(rdK st m).2=none
  |0,hm=>by obtain rfl:k=0:=by omega
            exact h
  |m+1,hm=>by
    by_cases hk:k=m+1
    · rw[←hk];exact h
    · have h1:=mK h m (by omega)
      show(ar 32 (rdK st m).2).2=none;rw[h1];exact lq 32
theorem uN :al none=(0,none):=rfl
theorem kU :(bo none).2=none:=by
  unfold bo;have h:ah 8 none=(0,none):=by unfold ah;split<;>rfl
  rw[h];rfl
structure aS where
 kind:Int
 path:List ByteArray
 val:VT
 num:Int
def cr (d:aS):Bool:=iy d.path && (if d.kind=1 then decide (ba d.val=0) && decide (d.num=0)else if d.kind=2 then bO d.val && decide (d.num=0)else if d.kind=3 then bO d.val && (decide (0≤d.num) && decide (d.num≤999))else false)
def bG (l:List aS):Int:=if 64<l.length then 3 else if l.all cr then 0 else 1
def eX (l:List aS):List (List ByteArray):=l.map (·.path)
def d8 (l:List aS):Bool:= !cu [] (eX l)
def kN (l:List aS)(p:List ByteArray):Bool:=l.any fun d=>cB d.path p
theorem jf {d:aS}(h:cr d=true):iy d.path=true:=by
 unfold cr at h;rw[Bool.and_eq_true]at h;exact h.1
def ee (w:World)(S:Nat→Prop)(d:aS)(cs:Array Value):Prop:=
 ∃(PA:Option Addr) (pc:Nat) (VA:Option Addr) (vc:Nat) (VA':Option Addr) (vc':Nat),cs= #[.int .i64 d.kind,.slice PA d.path.length pc,.int .i64 d.val.kind,.int .i64 d.val.num,.string d.val.text,.slice VA d.val.items.length vc,.slice VA' d.val.names.length vc',.int .i64 d.num]∧
  LV w S d.val (.agg #[.int .i64 d.val.kind,.int .i64 d.val.num,.string d.val.text,.slice VA d.val.items.length vc,.slice VA' d.val.names.length vc'])∧aA w S PA d.path∧d.path.length≤pc∧(PA=none→pc=0)∧Rng d.kind∧Rng d.num∧d.path.length≤8796093021952
theorem ee.keep {w w':World}{S:Nat→Prop}{d:aS}{cs:Array Value}(h:ee w S d cs)(hk: ∀b,S b→w'.heap[b]? =w.heap[b]?):ee w' S d cs:=by
 obtain⟨PA,pc,VA,vc,VA',vc',h1,h2,h3,h4⟩:=h;exact⟨PA,pc,VA,vc,VA',vc',h1,h2.keep hk,h3.keep hk,h4⟩
theorem ee.imp {w:World}{S S':Nat→Prop}{d:aS}{cs:Array Value}(h:ee w S d cs)(hS: ∀b,S b→S' b):ee w S' d cs:=by
 obtain⟨PA,pc,VA,vc,VA',vc',h1,h2,h3,h4⟩:=h;exact⟨PA,pc,VA,vc,VA',vc',h1,h2.imp hS,h3.imp hS,h4⟩
theorem ee.below {w w':World}{S:Nat→Prop}{d:aS}{cs:Array Value}{B:Nat}(h:ee w S d cs)(hS: ∀b,S b→b<B)(hb:Below B w w'):ee w' S d cs:=h.keep fun b hb'=>hb.block b (hS b hb')
theorem ee.size {w:World}{S:Nat→Prop}{d:aS}{cs:Array Value}(h:ee w S d cs):cs.size=8:=by
 obtain⟨PA,pc,VA,vc,VA',vc',rfl,-⟩:=h;rfl
def bD (w:World)(S:Nat→Prop)(A:Option Addr)(l:List aS):Prop:=
 0<l.length→ ∃b off,A=some ⟨b,off,none⟩∧S b∧ ∀i (h:i<l.length),∃cs:Array Value,(∀j v,cs[j]? =some v→w.cell? ⟨b,off+i * 8+j,none⟩=some v)∧ee w S l[i] cs
theorem bD.keep {w w':World}{S:Nat→Prop}{A:Option Addr}{l:List aS}(h:bD w S A l)(hk: ∀b,S b→w'.heap[b]? =w.heap[b]?):bD w' S A l:=fun hp=>by
 obtain⟨b,off,hA,hb,hc⟩:=h hp;refine⟨b,off,hA,hb,fun i hi=> ?_⟩;obtain⟨cs,h1,h2⟩:=hc i hi;exact⟨cs,fun j v hv=>(World.cell?_of_block (a:=⟨b,off+i * 8+j,none⟩) (hk b hb)).trans (h1 j v hv),h2.keep hk⟩
theorem bD.imp {w:World}{S S':Nat→Prop}{A:Option Addr}{l:List aS}(h:bD w S A l)(hS: ∀b,S b→S' b):bD w S' A l:=fun hp=>by
 obtain⟨b,off,hA,hb,hc⟩:=h hp;refine⟨b,off,hA,hS b hb,fun i hi=> ?_⟩;obtain⟨cs,h1,h2⟩:=hc i hi;exact⟨cs,h1,h2.imp hS⟩
theorem bD.below {w w':World}{S:Nat→Prop}{A:Option Addr}{l:List aS}{B:Nat}(h:bD w S A l)(hS: ∀b,S b→b<B)(hb:Below B w w'):bD w' S A l:=h.keep fun b hb'=>hb.block b (hS b hb')
theorem bD.cells {w:World}{S:Nat→Prop}{A:Option Addr}{l:List aS}(h:bD w S A l)(k:Nat)(hk:k<l.length):
  ∃b off PA pc VA vc VA' vc',A=some ⟨b,off,none⟩∧S b∧ee w S l[k] #[.int .i64 l[k].kind,.slice PA l[k].path.length pc,.int .i64 l[k].val.kind,.int .i64 l[k].val.num,.string l[k].val.text,.slice VA l[k].val.items.length vc,.slice VA' l[k].val.names.length vc',.int .i64 l[k].num]∧
   w.cell? ⟨b,off+k * 8,none⟩=some (.int .i64 l[k].kind)∧w.cell? ⟨b,off+k * 8+1,none⟩=some (.slice PA l[k].path.length pc)∧w.cell? ⟨b,off+k * 8+2,none⟩=some (.int .i64 l[k].val.kind)∧w.cell? ⟨b,off+k * 8+3,none⟩=some (.int .i64 l[k].val.num)∧w.cell? ⟨b,off+k * 8+4,none⟩=some (.string l[k].val.text)∧
   w.cell? ⟨b,off+k * 8+5,none⟩=some (.slice VA l[k].val.items.length vc)∧w.cell? ⟨b,off+k * 8+6,none⟩=some (.slice VA' l[k].val.names.length vc')∧w.cell? ⟨b,off+k * 8+7,none⟩=some (.int .i64 l[k].num):=by
 obtain⟨b,off,hA,hb,hc⟩:=h (by omega);obtain⟨cs,h1,h2⟩:=hc k hk;obtain⟨PA,pc,VA,vc,VA',vc',e,-⟩:=id h2;subst e;exact⟨b,off,PA,pc,VA,vc,VA',vc',hA,hb,h2,h1 0 _ rfl,h1 1 _ rfl,h1 2 _ rfl,h1 3 _ rfl,h1 4 _ rfl,h1 5 _ rfl,h1 6 _ rfl,h1 7 _ rfl⟩
def eo (l:List aS):Prop:= ∀d∈l,ap d.val≤4611686018427387903
def bJ (w:World)(p:Nat)(c0 c1 c2 c3 c4 c5 c6 c7:Value):Prop:=w.heap[p]? =some (.cells #[c0,c1,c2,c3,c4,c5,c6,c7] 114 (0,0))
def fT (w:World)(p:Nat)(c0 c1 c2 c3 c4 c5 c6 c7:Value):World:=(((((((w.setCell ⟨p,0,none⟩ c0).setCell ⟨p,1,none⟩ c1).setCell ⟨p,2,none⟩ c2).setCell ⟨p,3,none⟩ c3).setCell ⟨p,4,none⟩ c4).setCell ⟨p,5,none⟩ c5).setCell ⟨p,6,none⟩ c6).setCell ⟨p,7,none⟩ c7
section
variable {w w':World} {p:Nat} {c0 c1 c2 c3 c4 c5 c6 c7:Value}
theorem bJ.g0 (h:bJ w p c0 c1 c2 c3 c4 c5 c6 c7):w.cell? ⟨p,0,none⟩=some c0:=Go.Joins.cell_of_block h 0
theorem bJ.g1 (h:bJ w p c0 c1 c2 c3 c4 c5 c6 c7):w.cell? ⟨p,1,none⟩=some c1:=Go.Joins.cell_of_block h 1
theorem bJ.g2 (h:bJ w p c0 c1 c2 c3 c4 c5 c6 c7):w.cell? ⟨p,2,none⟩=some c2:=Go.Joins.cell_of_block h 2
theorem bJ.g3 (h:bJ w p c0 c1 c2 c3 c4 c5 c6 c7):w.cell? ⟨p,3,none⟩=some c3:=Go.Joins.cell_of_block h 3
theorem bJ.g4 (h:bJ w p c0 c1 c2 c3 c4 c5 c6 c7):w.cell? ⟨p,4,none⟩=some c4:=Go.Joins.cell_of_block h 4
theorem bJ.g5 (h:bJ w p c0 c1 c2 c3 c4 c5 c6 c7):w.cell? ⟨p,5,none⟩=some c5:=Go.Joins.cell_of_block h 5
theorem bJ.g6 (h:bJ w p c0 c1 c2 c3 c4 c5 c6 c7):w.cell? ⟨p,6,none⟩=some c6:=Go.Joins.cell_of_block h 6
theorem bJ.g7 (h:bJ w p c0 c1 c2 c3 c4 c5 c6 c7):w.cell? ⟨p,7,none⟩=some c7:=Go.Joins.cell_of_block h 7
theorem bJ.set0 (h:bJ w p c0 c1 c2 c3 c4 c5 c6 c7)(u:Value):bJ (w.setCell ⟨p,0,none⟩ u) p u c1 c2 c3 c4 c5 c6 c7:=Go.Joins.block_setCell (i:=0) h u
theorem bJ.set1 (h:bJ w p c0 c1 c2 c3 c4 c5 c6 c7)(u:Value):bJ (w.setCell ⟨p,1,none⟩ u) p c0 u c2 c3 c4 c5 c6 c7:=Go.Joins.block_setCell (i:=1) h u
theorem bJ.set2 (h:bJ w p c0 c1 c2 c3 c4 c5 c6 c7)(u:Value):bJ (w.setCell ⟨p,2,none⟩ u) p c0 c1 u c3 c4 c5 c6 c7:=Go.Joins.block_setCell (i:=2) h u
theorem bJ.set3 (h:bJ w p c0 c1 c2 c3 c4 c5 c6 c7)(u:Value):bJ (w.setCell ⟨p,3,none⟩ u) p c0 c1 c2 u c4 c5 c6 c7:=Go.Joins.block_setCell (i:=3) h u
theorem bJ.set4 (h:bJ w p c0 c1 c2 c3 c4 c5 c6 c7)(u:Value):bJ (w.setCell ⟨p,4,none⟩ u) p c0 c1 c2 c3 u c5 c6 c7:=Go.Joins.block_setCell (i:=4) h u
theorem bJ.set5 (h:bJ w p c0 c1 c2 c3 c4 c5 c6 c7)(u:Value):bJ (w.setCell ⟨p,5,none⟩ u) p c0 c1 c2 c3 c4 u c6 c7:=Go.Joins.block_setCell (i:=5) h u
theorem bJ.set6 (h:bJ w p c0 c1 c2 c3 c4 c5 c6 c7)(u:Value):bJ (w.setCell ⟨p,6,none⟩ u) p c0 c1 c2 c3 c4 c5 u c7:=Go.Joins.block_setCell (i:=6) h u
theorem bJ.set7 (h:bJ w p c0 c1 c2 c3 c4 c5 c6 c7)(u:Value):bJ (w.setCell ⟨p,7,none⟩ u) p c0 c1 c2 c3 c4 c5 c6 u:=Go.Joins.block_setCell (i:=7) h u
theorem bJ.free (h:bJ w p c0 c1 c2 c3 c4 c5 c6 c7)(i:Nat):w.frozen? ⟨p,i,none⟩=false:=Go.Joins.unfrozen_of_block h i
theorem bJ.lt (h:bJ w p c0 c1 c2 c3 c4 c5 c6 c7):p<w.heap.size:=(Array.getElem?_eq_some_iff.1 h).1
theorem bJ.new (w:World)(c0 c1 c2 c3 c4 c5 c6 c7:Value):bJ (w.alloc (.cells #[c0,c1,c2,c3,c4,c5,c6,c7] 114)) w.heap.size c0 c1 c2 c3 c4 c5 c6 c7:=heap_alloc_new w _
theorem bJ.alloc (h:bJ w p c0 c1 c2 c3 c4 c5 c6 c7)(o:Obj):bJ (w.alloc o) p c0 c1 c2 c3 c4 c5 c6 c7:=(Below.heap_alloc w o p h.lt).trans h
theorem bJ.only {g:Nat}(h:bJ w p c0 c1 c2 c3 c4 c5 c6 c7)(ho:az w w' g)(hne:p≠g):bJ w' p c0 c1 c2 c3 c4 c5 c6 c7:=(ho.block p h.lt (by rintro⟨⟩;exact hne rfl)).trans h
theorem bJ.other (h:bJ w p c0 c1 c2 c3 c4 c5 c6 c7)(D i:Nat)(u:Value)(hne:p≠D):bJ (w.setCell ⟨D,i,none⟩ u) p c0 c1 c2 c3 c4 c5 c6 c7:=(heap_setCell_other _ ⟨D,i,none⟩ p _ hne).trans h
theorem jI {d0 d1 d2 d3 d4 d5 d6 d7:Value}(h:bJ w p c0 c1 c2 c3 c4 c5 c6 c7):bJ (fT w p d0 d1 d2 d3 d4 d5 d6 d7) p d0 d1 d2 d3 d4 d5 d6 d7:=(((((((h.set0 d0).set1 d1).set2 d2).set3 d3).set4 d4).set5 d5).set6 d6).set7 d7
theorem iq (b:Nat)(h:b≠p):(fT w p c0 c1 c2 c3 c4 c5 c6 c7).heap[b]? =w.heap[b]? :=by
 unfold fT;rw[heap_setCell_other _ ⟨p,_,none⟩ b _ h,heap_setCell_other _ ⟨p,_,none⟩ b _ h,heap_setCell_other _ ⟨p,_,none⟩ b _ h,heap_setCell_other _ ⟨p,_,none⟩ b _ h,heap_setCell_other _ ⟨p,_,none⟩ b _ h,heap_setCell_other _ ⟨p,_,none⟩ b _ h,heap_setCell_other _ ⟨p,_,none⟩ b _ h,heap_setCell_other _ ⟨p,_,none⟩ b _ h]
theorem rH :(fT w p c0 c1 c2 c3 c4 c5 c6 c7).heap.size=w.heap.size:=by simp[fT]
theorem iI :(fT w p c0 c1 c2 c3 c4 c5 c6 c7).os=w.os∧(fT w p c0 c1 c2 c3 c4 c5 c6 c7).tape=w.tape∧(fT w p c0 c1 c2 c3 c4 c5 c6 c7).output=w.output:=by
 have h: ∀(w:World) (a:Addr) (u:Value),(w.setCell a u).os=w.os∧(w.setCell a u).tape=w.tape∧(w.setCell a u).output=w.output:=fun _ _ _=>⟨rfl,rfl,rfl⟩;unfold fT;refine⟨?_,?_,?_⟩
 ·rw[(h _ _ _).1,(h _ _ _).1,(h _ _ _).1,(h _ _ _).1,(h _ _ _).1,(h _ _ _).1,(h _ _ _).1,(h _ _ _).1]
 ·rw[(h _ _ _).2.1,(h _ _ _).2.1,(h _ _ _).2.1,(h _ _ _).2.1,(h _ _ _).2.1,(h _ _ _).2.1,(h _ _ _).2.1,(h _ _ _).2.1]
 ·rw[(h _ _ _).2.2,(h _ _ _).2.2,(h _ _ _).2.2,(h _ _ _).2.2,(h _ _ _).2.2,(h _ _ _).2.2,(h _ _ _).2.2,(h _ _ _).2.2]
end
theorem aS.same {a b:aS}(h0:a.kind=b.kind)(h1:a.num=b.num)(h2:a.path=b.path)(h3:a.val=b.val):a=b:=by
 cases a;cases b;simp only at h0 h1 h2 h3;subst h0 h1 h2 h3;rfl
end Go.Proofs.YtgfidiocmiolpaaGreat
