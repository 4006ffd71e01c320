/- The code of each kind of value, put behind bytes of the call's own. -/
import Derived.Test.YtgfidiocmiolpaaGreatKCodX
import Derived.Test.YtgfidiocmiolpaaGreatKCodM
import Derived.Test.YtgfidiocmiolpaaGreatKRegR
import Derived.Laws.AppendOwnNone
import Derived.Lib.AppendZerosOnto
import Derived.Lib.AppendZeros
import Derived.Lib.SliceRun
set_option maxHeartbeats 64000000
set_option maxRecDepth 100000
set_option linter.unusedVariables false
set_option linter.unusedSimpArgs false
namespace Go.Proofs.YtgfidiocmiolpaaGreat
open Lib (hid)
open Go.RowKit
theorem AR  :gM (.mk 1 0 eS [] []):=by
 intro S v bv B l w hS hB h hown hlen
 have he:bX (.mk 1 0 eS [] [])= [1]:=by
  rw[bs];unfold cS;simp[VT.kind,VT.num,VT.text,VT.items,VT.names,aQ]
 rw[he]at hlen ⊢;obtain⟨A,c,A',c',rfl,-,hri,hrs,hl1,-,hN,hA⟩:=h.shape;simp only[VT.kind,VT.num,VT.text,VT.items,VT.names,List.length_nil]at *;have HX:=hid (Box.new (w:=w) (.int .i64 1) (.int .i64 0) (.string eS) (.slice A 0 c) (.slice A' 0 c'));have hb0:=ac (w:=w) (.cells #[.int .i64 1,.int .i64 0,.string eS,.slice A 0 c,.slice A' 0 c'] 43);have HO:=hid (ao.below hown hb0);have hb1:=bu hb0 (ac (w:=w.alloc (.cells #[.int .i64 1,.int .i64 0,.string eS,.slice A 0 c,.slice A' 0 c'] 43)) (.cells #[.int .u8 1] 5));have HB1:=hid (hb1.mono hB);have HO1:=hid (ao.below HO.out (ac (w:=w.alloc (.cells #[.int .i64 1,.int .i64 0,.string eS,.slice A 0 c,.slice A' 0 c'] 43)) (.cells #[.int .u8 1] 5)));have HK1:=hid (ax hb1);have HX1:=hid (HX.out.call (ac (.cells #[.int .u8 1] 5)));have HV0:=hid (h.keep (fun b hb=>(hb0.mono hB).block b (hS b hb)));have hz1:=Nat.le_trans hB hb1.size;have HLEN:=hid hlen;have k0:=HX.out.c0;have hl0:l.length+1≤140737488355328:=by simp only[List.length_cons,List.length_append,List.length_nil]at hlen;omega
 clear hb0 hb1 hown hlen HO HX he h;go_enter Tryz.func160,Tryz.ntmps160;go_wp2_with(at_builtin;go_must (refine af rfl _ _ rfl B _ l rfl HO1.out _ (.slice (some ⟨w.heap.size+1,0,none⟩) 1 1) [1] rfl (Rd.one' (by simp) 1 rfl) hz1 hl0 ?_));intro v2 w2 hv2 hg2;have HB2:=hid (aq HB1.out HO1.out hz1 hg2);have hk2:=au HO1.out hg2;have HK2:=hid (HK1.out.trans hk2);have HX2:=hid (HX1.out.k8 hk2);have HO2:=hid hv2;have hz2:B≤w2.heap.size:=Nat.le_trans hB HB2.out.size;have k0:=HX2.out.c0;clear hg2 hv2 HB1 HK1 HX1 HO1 hk2;go_wp2_with fail;go_ret;exact⟨_,rfl,HO2.out,HB2.out,HK2.out⟩
theorem zW  :gM (.mk 2 0 eS [] []):=by
 intro S v bv B l w hS hB h hown hlen
 have he:bX (.mk 2 0 eS [] [])= [2,0]:=by
  rw[bs];unfold cS;simp[VT.kind,VT.num,VT.text,VT.items,VT.names,aQ]
 rw[he]at hlen ⊢;obtain⟨A,c,A',c',rfl,-,hri,hrs,hl1,-,hN,hA⟩:=h.shape;simp only[VT.kind,VT.num,VT.text,VT.items,VT.names,List.length_nil]at *;have HX:=hid (Box.new (w:=w) (.int .i64 2) (.int .i64 0) (.string eS) (.slice A 0 c) (.slice A' 0 c'));have hb0:=ac (w:=w) (.cells #[.int .i64 2,.int .i64 0,.string eS,.slice A 0 c,.slice A' 0 c'] 43);have HO:=hid (ao.below hown hb0);have hb1:=bu hb0 (ac (w:=w.alloc (.cells #[.int .i64 2,.int .i64 0,.string eS,.slice A 0 c,.slice A' 0 c'] 43)) (.cells #[.int .u8 2] 5));have HB1:=hid (hb1.mono hB);have HO1:=hid (ao.below HO.out (ac (w:=w.alloc (.cells #[.int .i64 2,.int .i64 0,.string eS,.slice A 0 c,.slice A' 0 c'] 43)) (.cells #[.int .u8 2] 5)));have HK1:=hid (ax hb1);have HX1:=hid (HX.out.call (ac (.cells #[.int .u8 2] 5)));have HV0:=hid (h.keep (fun b hb=>(hb0.mono hB).block b (hS b hb)));have hz1:=Nat.le_trans hB hb1.size;have HLEN:=hid hlen;have k0:=HX.out.c0;have hl0:l.length+1≤140737488355328:=by simp only[List.length_cons,List.length_append,List.length_nil]at hlen;omega
 clear hb0 hb1 hown hlen HO HX he h;go_enter Tryz.func160,Tryz.ntmps160;go_wp2_with(at_builtin;go_must (refine af rfl _ _ rfl B _ l rfl HO1.out _ (.slice (some ⟨w.heap.size+1,0,none⟩) 1 1) [2] rfl (Rd.one' (by simp) 2 rfl) hz1 hl0 ?_));intro v2 w2 hv2 hg2;have HB2:=hid (aq HB1.out HO1.out hz1 hg2);have hk2:=au HO1.out hg2;have HK2:=hid (HK1.out.trans hk2);have HX2:=hid (HX1.out.k8 hk2);have HO2:=hid hv2;have hz2:B≤w2.heap.size:=Nat.le_trans hB HB2.out.size;have k0:=HX2.out.c0;clear hg2 hv2 HB1 HK1 HX1 HO1 hk2;have k1:=HX2.out.c1;have HOa:=hid (ao.below HO2.out (ac (.cells #[.int .u8 0] 5)));have HBa:=hid (HB2.out.trans ((ac (.cells #[.int .u8 0] 5)).mono hz2));have HKa:=hid (HK2.out.trans (ax (ac (.cells #[.int .u8 0] 5))));have hza:=HBa.out.size;go_wp2_with(at_builtin;go_must (refine af rfl _ _ rfl B _ (l++[2]) rfl HOa.out _ (.slice (some ⟨w2.heap.size,0,none⟩) 1 1) [0] rfl (Rd.one' rfl 0 rfl) (Nat.le_trans hB hza) (by have h:=HLEN.out;simp only[List.length_cons,List.length_append,List.length_nil]at h ⊢;omega) ?_));intro v3 w3 hv3 hg3;have HB3:=hid (aq HBa.out HOa.out (Nat.le_trans hB hza) hg3);have HK3:=hid (HKa.out.trans (au HOa.out hg3));have HO3:Hid (ao w3 B v3 (l++[2,0])):=hid (by simpa using hv3);clear hv3 hg3;go_wp2_with fail;go_ret;exact⟨_,rfl,HO3.out,HB3.out,HK3.out⟩
theorem zZ  :gM (.mk 2 1 eS [] []):=by
 intro S v bv B l w hS hB h hown hlen
 have he:bX (.mk 2 1 eS [] [])= [2,1]:=by
  rw[bs];unfold cS;simp[VT.kind,VT.num,VT.text,VT.items,VT.names,aQ]
 rw[he]at hlen ⊢;obtain⟨A,c,A',c',rfl,-,hri,hrs,hl1,-,hN,hA⟩:=h.shape;simp only[VT.kind,VT.num,VT.text,VT.items,VT.names,List.length_nil]at *;have HX:=hid (Box.new (w:=w) (.int .i64 2) (.int .i64 1) (.string eS) (.slice A 0 c) (.slice A' 0 c'));have hb0:=ac (w:=w) (.cells #[.int .i64 2,.int .i64 1,.string eS,.slice A 0 c,.slice A' 0 c'] 43);have HO:=hid (ao.below hown hb0);have hb1:=bu hb0 (ac (w:=w.alloc (.cells #[.int .i64 2,.int .i64 1,.string eS,.slice A 0 c,.slice A' 0 c'] 43)) (.cells #[.int .u8 2] 5));have HB1:=hid (hb1.mono hB);have HO1:=hid (ao.below HO.out (ac (w:=w.alloc (.cells #[.int .i64 2,.int .i64 1,.string eS,.slice A 0 c,.slice A' 0 c'] 43)) (.cells #[.int .u8 2] 5)));have HK1:=hid (ax hb1);have HX1:=hid (HX.out.call (ac (.cells #[.int .u8 2] 5)));have HV0:=hid (h.keep (fun b hb=>(hb0.mono hB).block b (hS b hb)));have hz1:=Nat.le_trans hB hb1.size;have HLEN:=hid hlen;have k0:=HX.out.c0;have hl0:l.length+1≤140737488355328:=by simp only[List.length_cons,List.length_append,List.length_nil]at hlen;omega
 clear hb0 hb1 hown hlen HO HX he h;go_enter Tryz.func160,Tryz.ntmps160;go_wp2_with(at_builtin;go_must (refine af rfl _ _ rfl B _ l rfl HO1.out _ (.slice (some ⟨w.heap.size+1,0,none⟩) 1 1) [2] rfl (Rd.one' (by simp) 2 rfl) hz1 hl0 ?_));intro v2 w2 hv2 hg2;have HB2:=hid (aq HB1.out HO1.out hz1 hg2);have hk2:=au HO1.out hg2;have HK2:=hid (HK1.out.trans hk2);have HX2:=hid (HX1.out.k8 hk2);have HO2:=hid hv2;have hz2:B≤w2.heap.size:=Nat.le_trans hB HB2.out.size;have k0:=HX2.out.c0;clear hg2 hv2 HB1 HK1 HX1 HO1 hk2;have k1:=HX2.out.c1;have HOa:=hid (ao.below HO2.out (ac (.cells #[.int .u8 1] 5)));have HBa:=hid (HB2.out.trans ((ac (.cells #[.int .u8 1] 5)).mono hz2));have HKa:=hid (HK2.out.trans (ax (ac (.cells #[.int .u8 1] 5))));have hza:=HBa.out.size;go_wp2_with(at_builtin;go_must (refine af rfl _ _ rfl B _ (l++[2]) rfl HOa.out _ (.slice (some ⟨w2.heap.size,0,none⟩) 1 1) [1] rfl (Rd.one' rfl 1 rfl) (Nat.le_trans hB hza) (by have h:=HLEN.out;simp only[List.length_cons,List.length_append,List.length_nil]at h ⊢;omega) ?_));intro v3 w3 hv3 hg3;have HB3:=hid (aq HBa.out HOa.out (Nat.le_trans hB hza) hg3);have HK3:=hid (HKa.out.trans (au HOa.out hg3));have HO3:Hid (ao w3 B v3 (l++[2,1])):=hid (by simpa using hv3);clear hv3 hg3;go_wp2_with fail;go_ret;exact⟨_,rfl,HO3.out,HB3.out,HK3.out⟩
theorem AK (i:Int):gM (.mk 3 i eS [] []):=by
 intro S v bv B l w hS hB h hown hlen
 have he:bX (.mk 3 i eS [] [])=3::grp (zig i):=by
  rw[bs];unfold cS;simp[VT.kind,VT.num,VT.text,VT.items,VT.names,aQ]
 rw[he]at hlen ⊢;obtain⟨A,c,A',c',rfl,-,hri,hrs,hl1,-,hN,hA⟩:=h.shape;simp only[VT.kind,VT.num,VT.text,VT.items,VT.names,List.length_nil]at *;have HX:=hid (Box.new (w:=w) (.int .i64 3) (.int .i64 i) (.string eS) (.slice A 0 c) (.slice A' 0 c'));have hb0:=ac (w:=w) (.cells #[.int .i64 3,.int .i64 i,.string eS,.slice A 0 c,.slice A' 0 c'] 43);have HO:=hid (ao.below hown hb0);have hb1:=bu hb0 (ac (w:=w.alloc (.cells #[.int .i64 3,.int .i64 i,.string eS,.slice A 0 c,.slice A' 0 c'] 43)) (.cells #[.int .u8 3] 5));have HB1:=hid (hb1.mono hB);have HO1:=hid (ao.below HO.out (ac (w:=w.alloc (.cells #[.int .i64 3,.int .i64 i,.string eS,.slice A 0 c,.slice A' 0 c'] 43)) (.cells #[.int .u8 3] 5)));have HK1:=hid (ax hb1);have HX1:=hid (HX.out.call (ac (.cells #[.int .u8 3] 5)));have HV0:=hid (h.keep (fun b hb=>(hb0.mono hB).block b (hS b hb)));have hz1:=Nat.le_trans hB hb1.size;have HLEN:=hid hlen;have k0:=HX.out.c0;have hl0:l.length+1≤140737488355328:=by simp only[List.length_cons,List.length_append,List.length_nil]at hlen;omega
 clear hb0 hb1 hown hlen HO HX he h;have HRI:=hid hri;go_enter Tryz.func160,Tryz.ntmps160;go_wp2_with(at_builtin;go_must (refine af rfl _ _ rfl B _ l rfl HO1.out _ (.slice (some ⟨w.heap.size+1,0,none⟩) 1 1) [3] rfl (Rd.one' (by simp) 3 rfl) hz1 hl0 ?_));intro v2 w2 hv2 hg2;have HB2:=hid (aq HB1.out HO1.out hz1 hg2);have hk2:=au HO1.out hg2;have HK2:=hid (HK1.out.trans hk2);have HX2:=hid (HX1.out.k8 hk2);have HO2:=hid hv2;have hz2:B≤w2.heap.size:=Nat.le_trans hB HB2.out.size;have k0:=HX2.out.c0;clear hg2 hv2 HB1 HK1 HX1 HO1 hk2;have k:=HX2.out.c1;go_wp2_with fail;refine(ur i _ HRI.out.1 HRI.out.2).mono ?_;rintro e w3 ⟨x,rfl,hx,hb⟩;have HR:=hid hx.rd;have HOa:=hid (ao.below HO2.out hb);have HBa:=hid (HB2.out.trans (hb.mono hz2));have HKa:=hid (HK2.out.trans (ax hb));have hza:=Nat.le_trans hB HBa.out.size;clear hx hb k k0;go_wp2_with(at_builtin;go_must (refine af rfl _ _ rfl B _ (l++[3]) rfl HOa.out w3.heap.size x (grp (zig i)) rfl HR.out hza (by have h:=HLEN.out;simp only[List.length_cons,List.length_append,List.length_nil]at h ⊢;omega) ?_));intro v4 w4 hv4 hg4;have HB4:=hid (aq HBa.out HOa.out hza hg4);have HK4:=hid (HKa.out.trans (au HOa.out hg4));have HO4:Hid (ao w4 B v4 (l++3::grp (zig i))):=hid (by simpa using hv4);clear hv4 hg4;go_wp2_with fail;go_ret;exact⟨_,rfl,HO4.out,HB4.out,HK4.out⟩
theorem AZ (s:ByteArray):gM (.mk 4 0 s [] []):=by
 intro S v bv B l w hS hB h hown hlen
 have he:bX (.mk 4 0 s [] [])=4::txt s:=by
  rw[bs];unfold cS;simp[VT.kind,VT.num,VT.text,VT.items,VT.names,aQ]
 rw[he]at hlen ⊢;obtain⟨A,c,A',c',rfl,-,hri,hrs,hl1,-,hN,hA⟩:=h.shape;simp only[VT.kind,VT.num,VT.text,VT.items,VT.names,List.length_nil]at *;have HX:=hid (Box.new (w:=w) (.int .i64 4) (.int .i64 0) (.string s) (.slice A 0 c) (.slice A' 0 c'));have hb0:=ac (w:=w) (.cells #[.int .i64 4,.int .i64 0,.string s,.slice A 0 c,.slice A' 0 c'] 43);have HO:=hid (ao.below hown hb0);have hb1:=bu hb0 (ac (w:=w.alloc (.cells #[.int .i64 4,.int .i64 0,.string s,.slice A 0 c,.slice A' 0 c'] 43)) (.cells #[.int .u8 4] 5));have HB1:=hid (hb1.mono hB);have HO1:=hid (ao.below HO.out (ac (w:=w.alloc (.cells #[.int .i64 4,.int .i64 0,.string s,.slice A 0 c,.slice A' 0 c'] 43)) (.cells #[.int .u8 4] 5)));have HK1:=hid (ax hb1);have HX1:=hid (HX.out.call (ac (.cells #[.int .u8 4] 5)));have HV0:=hid (h.keep (fun b hb=>(hb0.mono hB).block b (hS b hb)));have hz1:=Nat.le_trans hB hb1.size;have HLEN:=hid hlen;have k0:=HX.out.c0;have hl0:l.length+1≤140737488355328:=by simp only[List.length_cons,List.length_append,List.length_nil]at hlen;omega
 clear hb0 hb1 hown hlen HO HX he h;have HRS:=hid hrs;go_enter Tryz.func160,Tryz.ntmps160;go_wp2_with(at_builtin;go_must (refine af rfl _ _ rfl B _ l rfl HO1.out _ (.slice (some ⟨w.heap.size+1,0,none⟩) 1 1) [4] rfl (Rd.one' (by simp) 4 rfl) hz1 hl0 ?_));intro v2 w2 hv2 hg2;have HB2:=hid (aq HB1.out HO1.out hz1 hg2);have hk2:=au HO1.out hg2;have HK2:=hid (HK1.out.trans hk2);have HX2:=hid (HX1.out.k8 hk2);have HO2:=hid hv2;have hz2:B≤w2.heap.size:=Nat.le_trans hB HB2.out.size;have k0:=HX2.out.c0;clear hg2 hv2 HB1 HK1 HX1 HO1 hk2;have k:=HX2.out.c2;go_wp2_with fail;refine(ge s _ HRS.out).mono ?_;rintro e w3 ⟨x,rfl,hx,hb⟩;have HR:=hid hx.rd;have HOa:=hid (ao.below HO2.out hb);have HBa:=hid (HB2.out.trans (hb.mono hz2));have HKa:=hid (HK2.out.trans (ax hb));have hza:=Nat.le_trans hB HBa.out.size;clear hx hb k k0;go_wp2_with(at_builtin;go_must (refine af rfl _ _ rfl B _ (l++[4]) rfl HOa.out w3.heap.size x (txt s) rfl HR.out hza (by have h:=HLEN.out;simp only[List.length_cons,List.length_append,List.length_nil]at h ⊢;omega) ?_));intro v4 w4 hv4 hg4;have HB4:=hid (aq HBa.out HOa.out hza hg4);have HK4:=hid (HKa.out.trans (au HOa.out hg4));have HO4:Hid (ao w4 B v4 (l++4::txt s)):=hid (by simpa using hv4);clear hv4 hg4;go_wp2_with fail;go_ret;exact⟨_,rfl,HO4.out,HB4.out,HK4.out⟩
theorem AH (s:ByteArray):gM (.mk 5 0 s [] []):=by
 intro S v bv B l w hS hB h hown hlen
 have he:bX (.mk 5 0 s [] [])=5::txt s:=by
  rw[bs];unfold cS;simp[VT.kind,VT.num,VT.text,VT.items,VT.names,aQ]
 rw[he]at hlen ⊢;obtain⟨A,c,A',c',rfl,-,hri,hrs,hl1,-,hN,hA⟩:=h.shape;simp only[VT.kind,VT.num,VT.text,VT.items,VT.names,List.length_nil]at *;have HX:=hid (Box.new (w:=w) (.int .i64 5) (.int .i64 0) (.string s) (.slice A 0 c) (.slice A' 0 c'));have hb0:=ac (w:=w) (.cells #[.int .i64 5,.int .i64 0,.string s,.slice A 0 c,.slice A' 0 c'] 43);have HO:=hid (ao.below hown hb0);have hb1:=bu hb0 (ac (w:=w.alloc (.cells #[.int .i64 5,.int .i64 0,.string s,.slice A 0 c,.slice A' 0 c'] 43)) (.cells #[.int .u8 5] 5));have HB1:=hid (hb1.mono hB);have HO1:=hid (ao.below HO.out (ac (w:=w.alloc (.cells #[.int .i64 5,.int .i64 0,.string s,.slice A 0 c,.slice A' 0 c'] 43)) (.cells #[.int .u8 5] 5)));have HK1:=hid (ax hb1);have HX1:=hid (HX.out.call (ac (.cells #[.int .u8 5] 5)));have HV0:=hid (h.keep (fun b hb=>(hb0.mono hB).block b (hS b hb)));have hz1:=Nat.le_trans hB hb1.size;have HLEN:=hid hlen;have k0:=HX.out.c0;have hl0:l.length+1≤140737488355328:=by simp only[List.length_cons,List.length_append,List.length_nil]at hlen;omega
 clear hb0 hb1 hown hlen HO HX he h;have HRS:=hid hrs;go_enter Tryz.func160,Tryz.ntmps160;go_wp2_with(at_builtin;go_must (refine af rfl _ _ rfl B _ l rfl HO1.out _ (.slice (some ⟨w.heap.size+1,0,none⟩) 1 1) [5] rfl (Rd.one' (by simp) 5 rfl) hz1 hl0 ?_));intro v2 w2 hv2 hg2;have HB2:=hid (aq HB1.out HO1.out hz1 hg2);have hk2:=au HO1.out hg2;have HK2:=hid (HK1.out.trans hk2);have HX2:=hid (HX1.out.k8 hk2);have HO2:=hid hv2;have hz2:B≤w2.heap.size:=Nat.le_trans hB HB2.out.size;have k0:=HX2.out.c0;clear hg2 hv2 HB1 HK1 HX1 HO1 hk2;have k:=HX2.out.c2;go_wp2_with fail;refine(ge s _ HRS.out).mono ?_;rintro e w3 ⟨x,rfl,hx,hb⟩;have HR:=hid hx.rd;have HOa:=hid (ao.below HO2.out hb);have HBa:=hid (HB2.out.trans (hb.mono hz2));have HKa:=hid (HK2.out.trans (ax hb));have hza:=Nat.le_trans hB HBa.out.size;clear hx hb k k0;go_wp2_with(at_builtin;go_must (refine af rfl _ _ rfl B _ (l++[5]) rfl HOa.out w3.heap.size x (txt s) rfl HR.out hza (by have h:=HLEN.out;simp only[List.length_cons,List.length_append,List.length_nil]at h ⊢;omega) ?_));intro v4 w4 hv4 hg4;have HB4:=hid (aq HBa.out HOa.out hza hg4);have HK4:=hid (HKa.out.trans (au HOa.out hg4));have HO4:Hid (ao w4 B v4 (l++5::txt s)):=hid (by simpa using hv4);clear hv4 hg4;go_wp2_with fail;go_ret;exact⟨_,rfl,HO4.out,HB4.out,HK4.out⟩
theorem AP (its:List VT)(ih: ∀x∈its,gM x):gM (.mk 6 0 eS its []):=by
 intro S v bv B l w hS hB h hown hlen
 have he:bX (.mk 6 0 eS its [])=6::(grp its.length++ct false [] its):=by
  rw[bs];unfold cS;simp[VT.kind,VT.num,VT.text,VT.items,VT.names,aQ]
 rw[he]at hlen ⊢;obtain⟨A,c,A',c',rfl,-,hri,hrs,hl1,-,hN,hA⟩:=h.shape;simp only[VT.kind,VT.num,VT.text,VT.items,VT.names,List.length_nil]at *;have HX:=hid (Box.new (w:=w) (.int .i64 6) (.int .i64 0) (.string eS) (.slice A its.length c) (.slice A' 0 c'));have hb0:=ac (w:=w) (.cells #[.int .i64 6,.int .i64 0,.string eS,.slice A its.length c,.slice A' 0 c'] 43);have HO:=hid (ao.below hown hb0);have hb1:=bu hb0 (ac (w:=w.alloc (.cells #[.int .i64 6,.int .i64 0,.string eS,.slice A its.length c,.slice A' 0 c'] 43)) (.cells #[.int .u8 6] 5));have HB1:=hid (hb1.mono hB);have HO1:=hid (ao.below HO.out (ac (w:=w.alloc (.cells #[.int .i64 6,.int .i64 0,.string eS,.slice A its.length c,.slice A' 0 c'] 43)) (.cells #[.int .u8 6] 5)));have HK1:=hid (ax hb1);have HX1:=hid (HX.out.call (ac (.cells #[.int .u8 6] 5)));have HV0:=hid (h.keep (fun b hb=>(hb0.mono hB).block b (hS b hb)));have hz1:=Nat.le_trans hB hb1.size;have HLEN:=hid hlen;have k0:=HX.out.c0;have hl0:l.length+1≤140737488355328:=by simp only[List.length_cons,List.length_append,List.length_nil]at hlen;omega
 clear hb0 hb1 hown hlen HO HX he h;have HIH:=hid ih;clear ih hN hA;go_enter Tryz.func160,Tryz.ntmps160;go_wp2_with(at_builtin;go_must (refine af rfl _ _ rfl B _ l rfl HO1.out _ (.slice (some ⟨w.heap.size+1,0,none⟩) 1 1) [6] rfl (Rd.one' (by simp) 6 rfl) hz1 hl0 ?_));intro v2 w2 hv2 hg2;have HB2:=hid (aq HB1.out HO1.out hz1 hg2);have hk2:=au HO1.out hg2;have HK2:=hid (HK1.out.trans hk2);have HX2:=hid (HX1.out.k8 hk2);have HO2:=hid hv2;have hz2:B≤w2.heap.size:=Nat.le_trans hB HB2.out.size;have k0:=HX2.out.c0;clear hg2 hv2 HB1 HK1 HX1 HO1 hk2;have k1:=HX2.out.c1;have k2:=HX2.out.c2;have k3:=HX2.out.c3;have k4:=HX2.out.c4
 have HV2:Hid (LV w2 S _ _):=hid (HV0.out.keep fun b hb=>by
  have h1:=(HB2.out.block b (hS b hb)).trans (((ac (w:=w) (.cells #[.int .i64 6,.int .i64 0,.string eS,.slice A its.length c,.slice A' 0 c'] 43)).mono hB).block b (hS b hb)).symm
  exact h1)
 go_wp2_with fail;refine(vv 0 eS its [] HIH.out S _ _ B (l++[6]) _ hS hz2 HV2.out HO2.out (by have h:=HLEN.out;simp only[List.length_cons,List.length_append,List.length_nil]at h ⊢;omega)).mono ?_;rintro e w3 ⟨x,rfl,hx,hb,hk⟩;have HO3:Hid (ao w3 B x (l++6::(grp its.length++ct false [] its))):=hid (by simpa using hx);have HB3:=hid (HB2.out.trans hb);have HK3:=hid (HK2.out.trans hk);clear hx hb hk;go_wp2_with fail;go_ret;exact⟨_,rfl,HO3.out,HB3.out,HK3.out⟩
theorem AT (its:List VT)(ns:List ByteArray)(hn:ns.length=its.length)(ih: ∀x∈its,gM x):gM (.mk 7 0 eS its ns):=by
 intro S v bv B l w hS hB h hown hlen
 have he:bX (.mk 7 0 eS its ns)=7::(grp its.length++ct true ns its):=by
  rw[bs];unfold cS;simp[VT.kind,VT.num,VT.text,VT.items,VT.names,aQ]
 rw[he]at hlen ⊢;obtain⟨A,c,A',c',rfl,-,hri,hrs,hl1,-,hN,hA⟩:=h.shape;simp only[VT.kind,VT.num,VT.text,VT.items,VT.names,List.length_nil]at *;have HX:=hid (Box.new (w:=w) (.int .i64 7) (.int .i64 0) (.string eS) (.slice A its.length c) (.slice A' ns.length c'));have hb0:=ac (w:=w) (.cells #[.int .i64 7,.int .i64 0,.string eS,.slice A its.length c,.slice A' ns.length c'] 43);have HO:=hid (ao.below hown hb0);have hb1:=bu hb0 (ac (w:=w.alloc (.cells #[.int .i64 7,.int .i64 0,.string eS,.slice A its.length c,.slice A' ns.length c'] 43)) (.cells #[.int .u8 7] 5));have HB1:=hid (hb1.mono hB);have HO1:=hid (ao.below HO.out (ac (w:=w.alloc (.cells #[.int .i64 7,.int .i64 0,.string eS,.slice A its.length c,.slice A' ns.length c'] 43)) (.cells #[.int .u8 7] 5)));have HK1:=hid (ax hb1);have HX1:=hid (HX.out.call (ac (.cells #[.int .u8 7] 5)));have HV0:=hid (h.keep (fun b hb=>(hb0.mono hB).block b (hS b hb)));have hz1:=Nat.le_trans hB hb1.size;have HLEN:=hid hlen;have k0:=HX.out.c0;have hl0:l.length+1≤140737488355328:=by simp only[List.length_cons,List.length_append,List.length_nil]at hlen;omega
 clear hb0 hb1 hown hlen HO HX he h;have HN7:=hid hn;clear hn;have HIH:=hid ih;clear ih hN hA;go_enter Tryz.func160,Tryz.ntmps160;go_wp2_with(at_builtin;go_must (refine af rfl _ _ rfl B _ l rfl HO1.out _ (.slice (some ⟨w.heap.size+1,0,none⟩) 1 1) [7] rfl (Rd.one' (by simp) 7 rfl) hz1 hl0 ?_));intro v2 w2 hv2 hg2;have HB2:=hid (aq HB1.out HO1.out hz1 hg2);have hk2:=au HO1.out hg2;have HK2:=hid (HK1.out.trans hk2);have HX2:=hid (HX1.out.k8 hk2);have HO2:=hid hv2;have hz2:B≤w2.heap.size:=Nat.le_trans hB HB2.out.size;have k0:=HX2.out.c0;clear hg2 hv2 HB1 HK1 HX1 HO1 hk2;have k1:=HX2.out.c1;have k2:=HX2.out.c2;have k3:=HX2.out.c3;have k4:=HX2.out.c4
 have HV2:Hid (LV w2 S _ _):=hid (HV0.out.keep fun b hb=>by
  have h1:=(HB2.out.block b (hS b hb)).trans (((ac (w:=w) (.cells #[.int .i64 7,.int .i64 0,.string eS,.slice A its.length c,.slice A' ns.length c'] 43)).mono hB).block b (hS b hb)).symm
  exact h1)
 go_wp2_with fail;refine(vg 0 eS its ns HN7.out HIH.out S _ _ B (l++[7]) _ hS hz2 HV2.out HO2.out (by have h:=HLEN.out;simp only[List.length_cons,List.length_append,List.length_nil]at h ⊢;omega)).mono ?_;rintro e w3 ⟨x,rfl,hx,hb,hk⟩;have HO3:Hid (ao w3 B x (l++7::(grp its.length++ct true ns its))):=hid (by simpa using hx);have HB3:=hid (HB2.out.trans hb);have HK3:=hid (HK2.out.trans hk);clear hx hb hk;go_wp2_with fail;go_ret;exact⟨_,rfl,HO3.out,HB3.out,HK3.out⟩
theorem pQ : ∀(n:Nat) (t:VT),ap t≤n→bq t=true→gM t
 |0,t,hd,_=>by cases t;rw[aL]at hd;omega
 |n+1,t,hd,hm=>by
  rcases pM hm with rfl|⟨i,hi,rfl⟩|⟨i,rfl⟩|⟨k,s,hk,rfl⟩|⟨l,hl,rfl⟩|⟨l,ns,hl,hn,hdn,rfl⟩
  ·exact AR
  ·rcases hi with rfl|rfl
   ·exact zW
   ·exact zZ
  ·exact AK i
  ·rcases hk with rfl|rfl
   ·exact AZ s
   ·exact AH s
  ·rw[aL]at hd;exact AP l fun x hx=>pQ n x (by have:=bU hx;omega) (cA hl hx)
  ·rw[aL]at hd;exact AT l ns hn fun x hx=>pQ n x (by have:=bU hx;omega) (cA hl hx)
theorem sC :cq []=0:=by unfold cq;rfl
theorem uB : ∀(ns:List ByteArray),(∀s∈ns,s.size≤140737488351232)→eB ns≤ns.length * 140737488351300
 | [],_=>by simp[eB]
 |a::r,h=>by
  have h1:=mJ a (h a (List.mem_cons_self ..));have h2:=uB r fun s hs=>h s (List.mem_cons_of_mem _ hs);have e:eB (a::r)=tsz a+eB r:=by unfold eB;simp
  rw[e];simp only[List.length_cons];omega
theorem zI (k i:Int)(s:ByteArray)(n:Nat)(ns:List ByteArray)(hs:s.size≤140737488351232)(h: ∀s∈ns,s.size≤140737488351232):dE k i s n ns≤(1+ns.length) * 281474976710656:=by
 have h1:=mJ s hs;have h2:=uB ns h;have h3:=(ak (zig i)).1;have h4:=(ak n).1;unfold dE
 repeat' split
 all_goals omega
theorem ro (d:Nat): ∀(l:List VT) (n:Nat),(∀t∈l,bM (d+1) t≤60000→aM t≤bM (d+1) t * 281474976710656)→cP d n l≤60000→cq l+n * 281474976710656≤cP d n l * 281474976710656
 | [],n,_,_=>by rw[jE,sC];omega
 |t::r,n,h,hn=>by
  unfold cP at hn ⊢;unfold cq;by_cases hlt:n<65536
  ·rw[if_pos hlt]at hn ⊢;have h1:=kC d r (n+bM (d+1) t);have h2:=h t (List.mem_cons_self ..) (by omega);have h3:=ro d r (n+bM (d+1) t) (fun t ht=>h t (List.mem_cons_of_mem _ ht)) hn;omega
  ·rw[if_neg hlt]at hn;omega
theorem tV {w:World}{S:Nat→Prop}: ∀(k d:Nat) (t:VT) (v:Value),d+k=41→LV w S t v→bM d t≤60000→aM t≤bM d t * 281474976710656
 |0,d,t,v,hd,_,hn=>by rw[gq d t (by omega)]at hn;omega
 |k+1,d,t,v,hd,h,hn=>by
  obtain⟨A,c,A',c',-,-,-,hts,-,-,hst,hla⟩:=h.shape;rw[je d t (by omega)]at hn ⊢
  have h1:=ro d t.items (1+t.names.length) (fun u hu hun=>by
   obtain⟨v,hv⟩:=lG hla hu
   exact tV k (d+1) u v (by omega) hv hun) hn
  have h2:=zI t.kind t.num t.text t.items.length t.names hts (fun s hs=>by
   obtain⟨i,hi,rfl⟩:=List.getElem_of_mem hs;obtain⟨b,off,-,-,hc⟩:=hst (by omega)
   exact(hc i hi).2)
  have e:aM t=dE t.kind t.num t.text t.items.length t.names+cq t.items:=by cases t;unfold aM;rfl
  omega
theorem jK {w:World}{S:Nat→Prop}{t:VT}{v:Value}(h:LV w S t v)(hl:du t=false):aM t≤9223372036854775807:=by
 have h1:bM 0 t≤3000:=by unfold du at hl;simpa using hl
 have:=tV 41 0 t v rfl h (by omega);omega
theorem pf {w:World}{S:Nat→Prop}: ∀(n:Nat) (t:VT) (v:Value),ap t≤n→LV w S t v→gj t
 |0,t,v,hd,_=>by cases t;rw[aL]at hd;omega
 |n+1,.mk k i s l ns,v,hd,h=>by
  obtain⟨A,c,A',c',-,-,hi,-,-,-,-,hla⟩:=h.shape;rw[aL]at hd;unfold gj
  exact⟨hi,uu fun t ht=>by
   obtain⟨v,hv⟩:=lG hla ht
   exact pf n t v (by have:=bU ht;omega) hv⟩
def cp (t:VT):List UInt8:=if ba t=0 then bX t else []
theorem fq {t:VT}(hz:aM t≤9223372036854775807):(cp t).length≤4096:=by
 unfold cp
 split
 ·next h=>
  obtain⟨h1,-,h3⟩:=(ej hz).1 h;rw[jl t h1];exact h3
 ·simp
theorem qF (S:Nat→Prop)(t:VT)(v:Value)(w:World)(hS: ∀b,S b→b<w.heap.size)(h:LV w S t v)(hd:ap t≤4611686018427387903)(hz:aM t≤9223372036854775807):
  Calls Tryz.prog 183 #[v] w fun e w'=> ∃v',e= .returned (.tuple #[v',.int .i64 (ba t)])∧ao w' w.heap.size v' (cp t)∧Below w.heap.size w w':=by
 obtain⟨A,c,A',c',rfl,-⟩:=h.shape;have HX:=hid (Box.new (w:=w) (.int .i64 t.kind) (.int .i64 t.num) (.string t.text) (.slice A t.items.length c) (.slice A' t.names.length c'));have hb0:=ac (w:=w) (.cells #[.int .i64 t.kind,.int .i64 t.num,.string t.text,.slice A t.items.length c,.slice A' t.names.length c'] 43);have HC:=hid (fN S t _ _ (fun b hb=>Nat.lt_of_lt_of_le (hS b hb) hb0.size) (h.keep (w':=w.alloc (.cells #[.int .i64 t.kind,.int .i64 t.num,.string t.text,.slice A t.items.length c,.slice A' t.names.length c'] 43)) fun b hb=>hb0.block b (hS b hb)) hd);have HB0:=hid hb0;have HV:=hid h;clear h hb0;go_enter Tryz.func183,Tryz.ntmps183;go_wp2_with fail;refine HC.out.mono ?_;rintro e w1 ⟨rfl,hb⟩;have hb1:=aB HB0.out hb;have hx:=HX.out.call hb;have hv:=HV.out.keep (w':=w1) fun b hb=>hb1.block b (hS b hb);have hz1:=hb1.size;have HB1:=hid hb1;have HX1:=hid hx;have HV1:=hid hv;clear hb hb1 hx hv HB0 HX HV HC;obtain⟨x,hx⟩: ∃x,x=ba t:=⟨_,rfl⟩;rw[←hx];have HE:=hid hx;clear hx;by_cases h0:x=0
 ·subst h0;have hch:=(ej hz).1 HE.out.symm;have v0:=HX1.out.c0;have v1:=HX1.out.c1;have v2:=HX1.out.c2;have v3:=HX1.out.c3;have v4:=HX1.out.c4;have HP:=hid (pQ (ap t) t (Nat.le_refl _) hch.1 S _ (.slice none 0 0) w.heap.size [] w1 hS hz1 HV1.out ⟨rfl,.inl ⟨rfl,rfl⟩⟩ (by have:=jl t hch.1;have:=hch.2.2;simp;omega));have HCH:=hid hch;clear hch;go_wp2_with fail;refine HP.out.mono ?_;rintro e w2 ⟨v',rfl,hv',hb2,-⟩;go_wp2_with fail
  go_ret2
  refine⟨v',(by rw[←HE.out];rfl),?_,HB1.out.trans hb2⟩;unfold cp;rw[if_pos HE.out.symm];exact hv'
 ·have h1:(x == 0)=false:=beq_false_of_ne h0;have h2:(x != 0)=true:=by simp[h0]
  go_wp2_with fail
  go_ret2
  refine⟨_,(by rw[←HE.out];rfl),?_,HB1.out⟩;unfold cp;rw[if_neg (fun h=>h0 (HE.out.trans h))];exact⟨rfl,.inl ⟨rfl,rfl⟩⟩
theorem oL (S:Nat→Prop)(t:VT)(v:Value)(bv:Value)(l:List UInt8)(w:World)(hS: ∀b,S b→b<w.heap.size)(h:LV w S t v)(hd:ap t≤4611686018427387903)(hz:aM t≤9223372036854775807)(hl:l.length≤140737488351232)(hr:Rd w w.heap.size bv l):
  Calls Tryz.prog 140 #[bv,v] w fun e w'=> ∃v',e= .returned v'∧ao w' w.heap.size v' (l++cp t)∧Below w.heap.size w w':=by
 obtain⟨A,c,A',c',rfl,-⟩:=h.shape;have HX:=hid (Box.new (w:=w) (.int .i64 t.kind) (.int .i64 t.num) (.string t.text) (.slice A t.items.length c) (.slice A' t.names.length c'));have hb0:=ac (w:=w) (.cells #[.int .i64 t.kind,.int .i64 t.num,.string t.text,.slice A t.items.length c,.slice A' t.names.length c'] 43);have HR:=hid (hr.keep hb0);have HB0:=hid hb0;have HV:=hid h;have hz0:=hb0.size;clear h hb0 hr;go_enter Tryz.func140,Tryz.ntmps140;go_wp2_with(at_builtin;go_must (refine af rfl _ _ rfl w.heap.size (.slice none 0 0) [] rfl ⟨rfl,.inl ⟨rfl,rfl⟩⟩ w.heap.size bv l rfl HR.out hz0 (by simp;omega) ?_));intro v1 w1 hv1 hg1;have hown0:ao (w.alloc (.cells #[.int .i64 t.kind,.int .i64 t.num,.string t.text,.slice A t.items.length c,.slice A' t.names.length c'] 43)) w.heap.size (.slice none 0 0) []:=⟨rfl,.inl ⟨rfl,rfl⟩⟩;have hb1:=aq HB0.out hown0 hz0 hg1;have hx:=HX.out.k8 (au hown0 hg1);have hz1:=hb1.size;have hv:=HV.out.keep (w':=w1) fun b hb=>hb1.block b (hS b hb);have HO1:=hid hv1;have HB1:=hid hb1;have HX1:=hid hx;have HC:=hid (fN S t _ w1 (fun b hb=>Nat.lt_of_lt_of_le (hS b hb) hz1) hv hd);have v0:=hx.c0;have v1':=hx.c1;have v2:=hx.c2;have v3:=hx.c3;have v4:=hx.c4;clear hown0 hb1 hx hv1 hg1 hv HX HB0 HR;go_wp2_with fail;refine HC.out.mono ?_;rintro e w2 ⟨rfl,hb⟩;have hb2:=HB1.out.trans (hb.mono hz1);have hx2:=HX1.out.call hb;have hv2:=HV.out.keep (w':=w2) fun b hb=>hb2.block b (hS b hb);have hz2:=hb2.size;have HO2:=hid (HO1.out.below hb);have HB2:=hid hb2;have HX2:=hid hx2;have HV2:=hid hv2
 clear hb hb2 hx2 hv2 HB1 HX1 HV HC HO1 v0 v1' v2 v3 v4;obtain⟨x,hx⟩: ∃x,x=ba t:=⟨_,rfl⟩;rw[←hx];have HE:=hid hx;clear hx;by_cases h0:x=0
 ·subst h0;have hch:=(ej hz).1 HE.out.symm;have v0:=HX2.out.c0;have v1':=HX2.out.c1;have v2:=HX2.out.c2;have v3:=HX2.out.c3;have v4:=HX2.out.c4;have HP:=hid (pQ (ap t) t (Nat.le_refl _) hch.1 S _ v1 w.heap.size l w2 hS hz2 HV2.out HO2.out (by have:=jl t hch.1;have:=hch.2.2;omega));have HCH:=hid hch;clear hch;go_wp2_with fail;refine HP.out.mono ?_;rintro e w3 ⟨v',rfl,hv',hb3,-⟩;go_wp2_with fail;go_ret;refine⟨v',rfl,?_,HB2.out.trans hb3⟩;unfold cp;rw[if_pos HE.out.symm];exact hv'
 ·have h1:(x == 0)=false:=beq_false_of_ne h0;have h2:(x != 0)=true:=by simp[h0]
  go_wp2_with fail;go_ret;refine⟨_,rfl,?_,HB2.out⟩;unfold cp;rw[if_neg (fun h=>h0 (HE.out.trans h)),List.append_nil];exact HO2.out
instance k8_inh (w:World):Inhabited (cl K8 w):=⟨⟨w,Lib.OthersKept.refl _ _ _⟩⟩
theorem bA {w:World}{g i:Nat}{v:Value}{cs:Array Value}{t:TypeId}{fr:Nat×Nat}(hg:w.heap[g]? =some (.cells cs t fr))(ht:t≠5)(hc:cs[i]? =some v): ∀p:cl K8 w,p.u.cell? ⟨g,i,none⟩=some v:=fun p=>by
 have h1:=p.h g _ hg (fun h=>by cases h) (fun c fz h=>by injection h with _ h;exact ht h);rw[Go.Joins.cell_of_block h1 i,hc]
def iE (ns:List Nat):List UInt8:=(ns.map grp).flatten
theorem uD (ns:List Nat)(k:Nat)(h:k<ns.length):iE (ns.take (k+1))=iE (ns.take k)++grp ns[k]:=by
 unfold iE;rw[List.take_succ_eq_append_getElem h,List.map_append,List.flatten_append];simp
theorem rA : ∀ns:List Nat,(iE ns).length≤11 * ns.length
 | []=>by simp[iE]
 |n::r=>by
  have h:=rA r;have:=(ak n).1;unfold iE at *;rw[List.map_cons,List.flatten_cons,List.length_append,List.length_cons];omega
theorem nO (ns:List Nat)(k:Nat):(iE (ns.take k)).length≤11 * ns.length:=by
 have h:=rA (ns.take k);have:(ns.take k).length≤ns.length:=by rw[List.length_take];omega
 omega
def ix (w:World)(g:Nat)(ns:List Nat):Prop:=w.heap[g]? =some (.cells (ns.map fun n:Nat=>Value.int .i64 (n:Int)).toArray 3 (0,0))
theorem ix.k8 {w w':World}{g:Nat}{ns:List Nat}(h:ix w g ns)(hk:K8 w w'):ix w' g ns:=hk g _ h (fun h=>by cases h) (fun c fz h=>by injection h with _ h;exact absurd h (by decide))
theorem ix.cell {w:World}{g:Nat}{ns:List Nat}(h:ix w g ns)(i:Nat)(hi:i<ns.length):w.cell? ⟨g,i,none⟩=some (.int .i64 (ns[i]:Int)):=by
 rw[Go.Joins.cell_of_block h i];simp[hi]
theorem ix.new (w:World)(ns:List Nat):ix (w.alloc (.cells (ns.map fun n:Nat=>Value.int .i64 (n:Int)).toArray 3)) w.heap.size ns:=heap_alloc_new w _
theorem eL (B g c:Nat)(ns:List Nat)(v:Value)(l:List UInt8)(w:World)(h:ao w B v l)(hB:B≤w.heap.size)(hg:ix w g ns)(hn: ∀n∈ns,n≤4611686018427387904)(hl:l.length+11 * ns.length≤140737488350000):
  Calls Tryz.prog 62 #[v,.slice (some ⟨g,0,none⟩) ns.length c] w (iR B (l++iE ns) w):=by
 have HH:=hid h;have hlen:ns.length≤140737488350000:=by omega
 have HL:=hid hl;have HB:=hid hB;have HG:=hid hg;have HN:=hid hn;clear h hl hB hg hn;go_enter Tryz.func62,Tryz.ntmps62;go_wp2_with fail
 go_loopw [0,11] (fun b i wr=> ∃k:Nat,i= .int .i64 k∧k≤ns.length∧Hid (ao wr B b (l++iE (ns.take k)))∧Hid (Below B w wr)∧Hid (K8 w wr)) (fun _ i _=>ns.length - (intOf i).toNat)
 case atStart=>exact⟨0,rfl,by omega,hid (by simpa[iE]using HH.out),hid (Below.refl _ _),hid (Lib.OthersKept.refl _ _ _)⟩
 case round=>
  obtain⟨k,rfl,hk,HO,HW,HK⟩:=hrel;by_cases hlt:k<ns.length
  ·have hcell:=(HG.out.k8 HK.out).cell k hlt;have hnk:=HN.out ns[k] (List.getElem_mem hlt);have hgt:=uD ns k hlt;have hgl:=nO ns k;obtain⟨n,hn⟩: ∃n,n=ns[k]:=⟨_,rfl⟩;rw[←hn]at hcell hnk hgt;obtain⟨y,hy⟩: ∃y,y=iE (ns.take k):=⟨_,rfl⟩;rw[←hy]at HO hgt hgl;have HGT:=hid hgt;have HGL:=hid hgl;clear hn hy hgt hgl;go_wp2_with fail;refine(ji (n:Int) _ (by omega)).mono ?_;rintro e w1 hc
   obtain⟨v1,rfl,hv1,hb1⟩: ∃v,e= .returned (.tuple #[v,.int .i64 0])∧ao w1 wr.heap.size v (grp n)∧Below wr.heap.size wr w1:=by
    rcases hc with ⟨-,-,v,h1,h2,h3⟩|⟨h,-⟩
    ·exact⟨v,h1,by simpa using h2,h3⟩
    ·omega
   have hz:=HW.out.size;have HV1:=hid hv1;have HB1:=hid hb1;have HO1:=hid (HO.out.below hb1);have HZ:=hid (Nat.le_trans HB.out (Nat.le_trans hz hb1.size));have HK1:=hid (HK.out.trans (ax hb1));have HW1:=hid (HW.out.trans (hb1.mono (Nat.le_trans HB.out hz)));clear hc hv1 hb1 hz;go_wp2_with(at_builtin;go_must (refine af rfl _ _ rfl B _ (l++y) rfl HO1.out w1.heap.size _ (grp n) rfl HV1.out.rd HZ.out (by have h1:=HL.out;have h2:=(ak n).1;have h3:=HGL.out;rw[List.length_append];omega) ?_));intro v2 w2 hv2 hg2;have HV2:=hid (show ao w2 B v2 (l++(y++grp n)) by first|exact hv2|(rw[←List.append_assoc];exact hv2));have HB2:=hid (aq HW1.out HO1.out HZ.out hg2);have HK2:=hid (HK1.out.trans (au HO1.out hg2));clear hv2 hg2;go_wp2_with fail
   go_roundw
   case rel=>exact⟨k+1,by go_num,by omega,hid (by rw[HGT.out];exact HV2.out),HB2,HK2⟩
   case measure=>simp[intOf];omega
  ·have hk2:k=ns.length:=by omega
   subst hk2;rw[List.take_length]at HO;clear HG HN;go_wp2_with fail;go_ret;exact⟨_,rfl,HO.out,HW.out,HK.out⟩
theorem fu (B n:Nat)(v:Value)(l:List UInt8)(w:World)(h:ao w B v l)(hB:B≤w.heap.size)(hn:n≤4611686018427387904)(hl:l.length≤140737488300000):
  Calls Tryz.prog 62 #[v,.slice (some ⟨w.heap.size,0,none⟩) 1 1] (w.alloc (.cells #[.int .i64 (n:Int)] 3)) (iR B (l++grp n) w):=by
 have hb0:Below w.heap.size w (w.alloc (.cells #[.int .i64 (n:Int)] 3)):=(Below.refl _ _).alloc (Nat.le_refl _) _;have hp:=eL B w.heap.size 1 [n] v l (w.alloc (.cells #[.int .i64 (n:Int)] 3)) (h.below hb0) (Nat.le_trans hB hb0.size) (ix.new w [n]) (by intro k hk;simp at hk;omega) (by simp;omega);refine hp.mono ?_;rintro e w' ⟨v',rfl,h1,h2,h3⟩;have e:iE [n]=grp n:=by unfold iE;simp
 rw[e]at h1;exact⟨v',rfl,h1,(hb0.mono hB).trans h2,(ax hb0).trans h3⟩
def cg (p:List ByteArray):List UInt8:=grp p.length++(p.map txt).flatten
def ku (p:List ByteArray):Prop:=p.length≤1000∧ ∀s∈p,s.size≤1000
theorem gR {s:ByteArray}(h:s.size≤1000):(txt s).length≤1011:=by
 unfold txt;have h1:=(ak s.size).1;simp[List.length_append];omega
theorem em : ∀ {p:List ByteArray},(∀s∈p,s.size≤1000)→((p.map txt).flatten).length≤1011 * p.length
 | [],_=>by simp
 |a::r,h=>by
  have h1:=gR (h a (by simp));have h2:=em (p:=r) fun s hs=>h s (List.mem_cons_of_mem _ hs);simp only[List.map_cons,List.flatten_cons,List.length_append,List.length_cons];omega
theorem io (S:Nat→Prop)(A:Option Addr)(c:Nat)(p:List ByteArray)(B:Nat)(v:Value)(l:List UInt8)(w:World)(hS: ∀b,S b→b<B)(hp:aA w S A p)(hok:ku p)(h:ao w B v l)(hB:B≤w.heap.size)(hl:l.length≤140737480000000):
  Calls Tryz.prog 182 #[v,.slice A p.length c] w (iR B (l++cg p) w):=by
 have HP:=hid hp;have HS:=hid hS;have HOK:=hid hok;have HL:=hid hl;have HB:=hid hB;have HC:=hid (fu B p.length v l w h hB (by have:=hok.1;omega) (by omega));obtain⟨Av,cv,rfl⟩:=h.slice;obtain⟨m,hm⟩: ∃m,m=l.length:=⟨_,rfl⟩;rw[←hm]at HC ⊢;have hpn:=hok.1;clear h hp hS hok hl hB hm;go_enter Tryz.func182,Tryz.ntmps182;go_wp2_with fail;refine HC.out.mono ?_;rintro e w1 ⟨v1,rfl,hv1,hb1,hk1⟩;have h0:Hid (ao w1 B v1 (l++grp p.length++((p.take 0).map txt).flatten)∧Below B w w1∧K8 w w1):=hid ⟨by simpa using hv1,hb1,hk1⟩;clear hv1 hb1 hk1 HC;go_wp2_with fail
 go_loopw [0,14] (fun v0 i wr=> ∃k:Nat,i= .int .i64 k∧k≤p.length∧Hid (ao wr B v0 (l++grp p.length++((p.take k).map txt).flatten)∧Below B w wr∧K8 w wr)) (fun _ i _=>p.length - (intOf i).toNat)
 case atStart=>exact⟨0,rfl,by omega,h0⟩
 case round=>
  rename_i v0 _;obtain⟨k,rfl,hk,HH⟩:=hrel;by_cases hlt:k<p.length
  ·obtain⟨b,off,rfl,hb,hc⟩:=HP.out (by omega);have hck:=(World.cell?_of_block (a:=⟨b,off+k,none⟩) (HH.out.2.1.block b (HS.out b hb))).trans (hc k hlt).1;have hsz:=HOK.out.2 _ (List.getElem_mem hlt);have HT:=hid (ge p[k] wr (by omega));obtain⟨s,hs⟩: ∃s,s=p[k]:=⟨_,rfl⟩;rw[←hs]at hck HT hsz;have HSX:=hid hs;have HTL:=hid (gR hsz);obtain⟨Av,cv,hvv⟩:=HH.out.1.slice;have HAV:=hid hvv;have hfl:=em (p:=p.take k) fun s hs=>HOK.out.2 s (List.mem_of_mem_take hs);rw[List.length_take]at hfl
   have hcl:(l++grp p.length++((p.take k).map txt).flatten).length≤140737482000000:=by
    have h1:=(ak p.length).1;have h2:=HL.out;have h3:=HOK.out.1;simp only[List.length_append];omega
   have HCL:=hid hcl;clear hc hsz hs hb hvv hfl hcl;go_wp2_with fail;refine HT.out.mono ?_;rintro e w5 ⟨v5,rfl,hv5,hb5⟩;have HV5:=hid hv5;have HO5:=hid (HH.out.1.below hb5);have HB5:=hid hb5;have hBs:B≤wr.heap.size:=Nat.le_trans HB.out HH.out.2.1.size;have HBS:=hid hBs;obtain⟨A5,c5,rfl⟩:=hv5.slice;obtain⟨m5,hm5⟩: ∃m,m=(txt s).length:=⟨_,rfl⟩;rw[←hm5]at HV5 ⊢;clear hv5 hb5 HT hm5 hck hBs;go_wp2_with(at_builtin;go_must (refine af rfl _ _ rfl B _ (l++grp p.length++((p.take k).map txt).flatten) rfl HO5.out w5.heap.size _ (txt s) rfl HV5.out.rd (Nat.le_trans HBS.out HB5.out.size) (by have:=HCL.out;have:=HTL.out;omega) ?_));intro v6 w6 hv6 hg6
   have HX:Hid (ao w6 B v6 (l++grp p.length++((p.take (k+1)).map txt).flatten)∧Below B w w6∧K8 w w6):=hid ⟨by
    rw[show l++grp p.length++((p.take (k+1)).map txt).flatten=l++(grp p.length++((List.take k (List.map txt p)).flatten++txt s)) from by rw[List.take_add_one,List.getElem?_eq_getElem hlt,←HSX.out];simp[List.map_take]]
    exact hv6,aq (HH.out.2.1.trans (HB5.out.mono HBS.out)) HO5.out (Nat.le_trans HBS.out HB5.out.size) hg6,(HH.out.2.2.trans (ax HB5.out)).trans (au HO5.out hg6)⟩
   clear hv6 hg6;go_wp2_with fail
   go_roundw
   case rel=>exact⟨k+1,by go_num,by omega,HX⟩
   case measure=>simp[intOf];omega
  ·obtain rfl:k=p.length:=by omega
   go_wp2_with fail;go_ret;obtain⟨h1,h2,h3⟩:=HH.out;refine⟨_,rfl,?_,h2,h3⟩;rw[List.take_length]at h1;unfold cg;rw[←List.append_assoc];exact h1
end Go.Proofs.YtgfidiocmiolpaaGreat
