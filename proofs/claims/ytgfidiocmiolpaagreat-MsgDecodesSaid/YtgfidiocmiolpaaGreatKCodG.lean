/- The code of each kind of value, put behind bytes of the call's own. -/
import Derived.Test.YtgfidiocmiolpaaGreatKCodX
import Derived.Test.YtgfidiocmiolpaaGreatKCodM
import Derived.Test.YtgfidiocmiolpaaGreatKRegR
import Derived.Test.YtgfidiocmiolpaaGreatKVr
import Derived.Test.YtgfidiocmiolpaaGreatKValB
import Derived.Test.YtgfidiocmiolpaaGreatKMath
import Derived.Laws.AppendOwnNone
import Derived.Lib.AppendZerosOnto
import Derived.Lib.AppendZeros
import Derived.Lib.SliceRun
import Derived.Deep.Slices
import Derived.SliceStrings
import Derived.SizedLaws
import Derived.Lib.SmallJoins
set_option maxHeartbeats 64000000
set_option maxRecDepth 100000
set_option linter.unusedVariables false
set_option linter.unusedSimpArgs false
namespace Go.Proofs.YtgfidiocmiolpaaGreat
open Lib (hid)
open Go.RowKit
theorem zp  :hU (.mk 1 0 eS [] []):=by
 intro S v bv B l w hS hB h hown hlen
 have he:fe (.mk 1 0 eS [] [])= [1]:=by
  rw[cP];unfold fb;simp[VT.kind,VT.num,VT.text,VT.items,VT.names,cj]
 rw[he]at hlen ⊢;obtain⟨A,c,A',c',rfl,-,hri,hrs,hl1,-,hN,hA⟩:=h.shape;simp only[VT.kind,VT.num,VT.text,VT.items,VT.names,List.length_nil]at *;have HX:=hid (Box.new (w:=w) (.int .i64 1) (.int .i64 0) (.string eS) (.slice A 0 c) (.slice A' 0 c'));have hb0:=af (w:=w) (.cells #[.int .i64 1,.int .i64 0,.string eS,.slice A 0 c,.slice A' 0 c'] 43);have HO:=hid (aA.below hown hb0);have hb1:=dz hb0 (af (w:=w.alloc (.cells #[.int .i64 1,.int .i64 0,.string eS,.slice A 0 c,.slice A' 0 c'] 43)) (.cells #[.int .u8 1] 5));have HB1:=hid (hb1.mono hB);have HO1:=hid (aA.below HO.out (af (w:=w.alloc (.cells #[.int .i64 1,.int .i64 0,.string eS,.slice A 0 c,.slice A' 0 c'] 43)) (.cells #[.int .u8 1] 5)));have HK1:=hid (aI hb1);have HX1:=hid (HX.out.call (af (.cells #[.int .u8 1] 5)));have HV0:=hid (h.keep (fun b hb=>(hb0.mono hB).block b (hS b hb)));have hz1:=Nat.le_trans hB hb1.size;have HLEN:=hid hlen;have k0:=HX.out.c0;have hl0:l.length+1≤140737488355328:=by simp only[List.length_cons,List.length_append,List.length_nil]at hlen;omega
 clear hb0 hb1 hown hlen HO HX he h;go_enter Tryz.func160,Tryz.ntmps160;go_wp2_with(at_builtin;go_must (refine ar rfl _ _ rfl B _ l rfl HO1.out _ (.slice (some ⟨w.heap.size+1,0,none⟩) 1 1) [1] rfl (Rd.one' (by simp) 1 rfl) hz1 hl0 ?_));intro v2 w2 hv2 hg2;have HB2:=hid (aF HB1.out HO1.out hz1 hg2);have hk2:=aH HO1.out hg2;have HK2:=hid (HK1.out.trans hk2);have HX2:=hid (HX1.out.k8 hk2);have HO2:=hid hv2;have hz2:B≤w2.heap.size:=Nat.le_trans hB HB2.out.size;have k0:=HX2.out.c0;clear hg2 hv2 HB1 HK1 HX1 HO1 hk2;go_wp2_with fail;go_ret;exact⟨_,rfl,HO2.out,HB2.out,HK2.out⟩
theorem yE  :hU (.mk 2 0 eS [] []):=by
 intro S v bv B l w hS hB h hown hlen
 have he:fe (.mk 2 0 eS [] [])= [2,0]:=by
  rw[cP];unfold fb;simp[VT.kind,VT.num,VT.text,VT.items,VT.names,cj]
 rw[he]at hlen ⊢;obtain⟨A,c,A',c',rfl,-,hri,hrs,hl1,-,hN,hA⟩:=h.shape;simp only[VT.kind,VT.num,VT.text,VT.items,VT.names,List.length_nil]at *;have HX:=hid (Box.new (w:=w) (.int .i64 2) (.int .i64 0) (.string eS) (.slice A 0 c) (.slice A' 0 c'));have hb0:=af (w:=w) (.cells #[.int .i64 2,.int .i64 0,.string eS,.slice A 0 c,.slice A' 0 c'] 43);have HO:=hid (aA.below hown hb0);have hb1:=dz hb0 (af (w:=w.alloc (.cells #[.int .i64 2,.int .i64 0,.string eS,.slice A 0 c,.slice A' 0 c'] 43)) (.cells #[.int .u8 2] 5));have HB1:=hid (hb1.mono hB);have HO1:=hid (aA.below HO.out (af (w:=w.alloc (.cells #[.int .i64 2,.int .i64 0,.string eS,.slice A 0 c,.slice A' 0 c'] 43)) (.cells #[.int .u8 2] 5)));have HK1:=hid (aI hb1);have HX1:=hid (HX.out.call (af (.cells #[.int .u8 2] 5)));have HV0:=hid (h.keep (fun b hb=>(hb0.mono hB).block b (hS b hb)));have hz1:=Nat.le_trans hB hb1.size;have HLEN:=hid hlen;have k0:=HX.out.c0;have hl0:l.length+1≤140737488355328:=by simp only[List.length_cons,List.length_append,List.length_nil]at hlen;omega
 clear hb0 hb1 hown hlen HO HX he h;go_enter Tryz.func160,Tryz.ntmps160;go_wp2_with(at_builtin;go_must (refine ar rfl _ _ rfl B _ l rfl HO1.out _ (.slice (some ⟨w.heap.size+1,0,none⟩) 1 1) [2] rfl (Rd.one' (by simp) 2 rfl) hz1 hl0 ?_));intro v2 w2 hv2 hg2;have HB2:=hid (aF HB1.out HO1.out hz1 hg2);have hk2:=aH HO1.out hg2;have HK2:=hid (HK1.out.trans hk2);have HX2:=hid (HX1.out.k8 hk2);have HO2:=hid hv2;have hz2:B≤w2.heap.size:=Nat.le_trans hB HB2.out.size;have k0:=HX2.out.c0;clear hg2 hv2 HB1 HK1 HX1 HO1 hk2;have k1:=HX2.out.c1;have HOa:=hid (aA.below HO2.out (af (.cells #[.int .u8 0] 5)));have HBa:=hid (HB2.out.trans ((af (.cells #[.int .u8 0] 5)).mono hz2));have HKa:=hid (HK2.out.trans (aI (af (.cells #[.int .u8 0] 5))));have hza:=HBa.out.size;go_wp2_with(at_builtin;go_must (refine ar rfl _ _ rfl B _ (l++[2]) rfl HOa.out _ (.slice (some ⟨w2.heap.size,0,none⟩) 1 1) [0] rfl (Rd.one' rfl 0 rfl) (Nat.le_trans hB hza) (by have h:=HLEN.out;simp only[List.length_cons,List.length_append,List.length_nil]at h ⊢;omega) ?_));intro v3 w3 hv3 hg3;have HB3:=hid (aF HBa.out HOa.out (Nat.le_trans hB hza) hg3);have HK3:=hid (HKa.out.trans (aH HOa.out hg3));have HO3:Hid (aA w3 B v3 (l++[2,0])):=hid (by simpa using hv3);clear hv3 hg3;go_wp2_with fail;go_ret;exact⟨_,rfl,HO3.out,HB3.out,HK3.out⟩
theorem yK  :hU (.mk 2 1 eS [] []):=by
 intro S v bv B l w hS hB h hown hlen
 have he:fe (.mk 2 1 eS [] [])= [2,1]:=by
  rw[cP];unfold fb;simp[VT.kind,VT.num,VT.text,VT.items,VT.names,cj]
 rw[he]at hlen ⊢;obtain⟨A,c,A',c',rfl,-,hri,hrs,hl1,-,hN,hA⟩:=h.shape;simp only[VT.kind,VT.num,VT.text,VT.items,VT.names,List.length_nil]at *;have HX:=hid (Box.new (w:=w) (.int .i64 2) (.int .i64 1) (.string eS) (.slice A 0 c) (.slice A' 0 c'));have hb0:=af (w:=w) (.cells #[.int .i64 2,.int .i64 1,.string eS,.slice A 0 c,.slice A' 0 c'] 43);have HO:=hid (aA.below hown hb0);have hb1:=dz hb0 (af (w:=w.alloc (.cells #[.int .i64 2,.int .i64 1,.string eS,.slice A 0 c,.slice A' 0 c'] 43)) (.cells #[.int .u8 2] 5));have HB1:=hid (hb1.mono hB);have HO1:=hid (aA.below HO.out (af (w:=w.alloc (.cells #[.int .i64 2,.int .i64 1,.string eS,.slice A 0 c,.slice A' 0 c'] 43)) (.cells #[.int .u8 2] 5)));have HK1:=hid (aI hb1);have HX1:=hid (HX.out.call (af (.cells #[.int .u8 2] 5)));have HV0:=hid (h.keep (fun b hb=>(hb0.mono hB).block b (hS b hb)));have hz1:=Nat.le_trans hB hb1.size;have HLEN:=hid hlen;have k0:=HX.out.c0;have hl0:l.length+1≤140737488355328:=by simp only[List.length_cons,List.length_append,List.length_nil]at hlen;omega
 clear hb0 hb1 hown hlen HO HX he h;go_enter Tryz.func160,Tryz.ntmps160;go_wp2_with(at_builtin;go_must (refine ar rfl _ _ rfl B _ l rfl HO1.out _ (.slice (some ⟨w.heap.size+1,0,none⟩) 1 1) [2] rfl (Rd.one' (by simp) 2 rfl) hz1 hl0 ?_));intro v2 w2 hv2 hg2;have HB2:=hid (aF HB1.out HO1.out hz1 hg2);have hk2:=aH HO1.out hg2;have HK2:=hid (HK1.out.trans hk2);have HX2:=hid (HX1.out.k8 hk2);have HO2:=hid hv2;have hz2:B≤w2.heap.size:=Nat.le_trans hB HB2.out.size;have k0:=HX2.out.c0;clear hg2 hv2 HB1 HK1 HX1 HO1 hk2;have k1:=HX2.out.c1;have HOa:=hid (aA.below HO2.out (af (.cells #[.int .u8 1] 5)));have HBa:=hid (HB2.out.trans ((af (.cells #[.int .u8 1] 5)).mono hz2));have HKa:=hid (HK2.out.trans (aI (af (.cells #[.int .u8 1] 5))));have hza:=HBa.out.size;go_wp2_with(at_builtin;go_must (refine ar rfl _ _ rfl B _ (l++[2]) rfl HOa.out _ (.slice (some ⟨w2.heap.size,0,none⟩) 1 1) [1] rfl (Rd.one' rfl 1 rfl) (Nat.le_trans hB hza) (by have h:=HLEN.out;simp only[List.length_cons,List.length_append,List.length_nil]at h ⊢;omega) ?_));intro v3 w3 hv3 hg3;have HB3:=hid (aF HBa.out HOa.out (Nat.le_trans hB hza) hg3);have HK3:=hid (HKa.out.trans (aH HOa.out hg3));have HO3:Hid (aA w3 B v3 (l++[2,1])):=hid (by simpa using hv3);clear hv3 hg3;go_wp2_with fail;go_ret;exact⟨_,rfl,HO3.out,HB3.out,HK3.out⟩
theorem zy (i:Int):hU (.mk 3 i eS [] []):=by
 intro S v bv B l w hS hB h hown hlen
 have he:fe (.mk 3 i eS [] [])=3::grp (zig i):=by
  rw[cP];unfold fb;simp[VT.kind,VT.num,VT.text,VT.items,VT.names,cj]
 rw[he]at hlen ⊢;obtain⟨A,c,A',c',rfl,-,hri,hrs,hl1,-,hN,hA⟩:=h.shape;simp only[VT.kind,VT.num,VT.text,VT.items,VT.names,List.length_nil]at *;have HX:=hid (Box.new (w:=w) (.int .i64 3) (.int .i64 i) (.string eS) (.slice A 0 c) (.slice A' 0 c'));have hb0:=af (w:=w) (.cells #[.int .i64 3,.int .i64 i,.string eS,.slice A 0 c,.slice A' 0 c'] 43);have HO:=hid (aA.below hown hb0);have hb1:=dz hb0 (af (w:=w.alloc (.cells #[.int .i64 3,.int .i64 i,.string eS,.slice A 0 c,.slice A' 0 c'] 43)) (.cells #[.int .u8 3] 5));have HB1:=hid (hb1.mono hB);have HO1:=hid (aA.below HO.out (af (w:=w.alloc (.cells #[.int .i64 3,.int .i64 i,.string eS,.slice A 0 c,.slice A' 0 c'] 43)) (.cells #[.int .u8 3] 5)));have HK1:=hid (aI hb1);have HX1:=hid (HX.out.call (af (.cells #[.int .u8 3] 5)));have HV0:=hid (h.keep (fun b hb=>(hb0.mono hB).block b (hS b hb)));have hz1:=Nat.le_trans hB hb1.size;have HLEN:=hid hlen;have k0:=HX.out.c0;have hl0:l.length+1≤140737488355328:=by simp only[List.length_cons,List.length_append,List.length_nil]at hlen;omega
 clear hb0 hb1 hown hlen HO HX he h;have HRI:=hid hri;go_enter Tryz.func160,Tryz.ntmps160;go_wp2_with(at_builtin;go_must (refine ar rfl _ _ rfl B _ l rfl HO1.out _ (.slice (some ⟨w.heap.size+1,0,none⟩) 1 1) [3] rfl (Rd.one' (by simp) 3 rfl) hz1 hl0 ?_));intro v2 w2 hv2 hg2;have HB2:=hid (aF HB1.out HO1.out hz1 hg2);have hk2:=aH HO1.out hg2;have HK2:=hid (HK1.out.trans hk2);have HX2:=hid (HX1.out.k8 hk2);have HO2:=hid hv2;have hz2:B≤w2.heap.size:=Nat.le_trans hB HB2.out.size;have k0:=HX2.out.c0;clear hg2 hv2 HB1 HK1 HX1 HO1 hk2;have k:=HX2.out.c1;go_wp2_with fail;refine(s8 i _ HRI.out.1 HRI.out.2).mono ?_;rintro e w3 ⟨x,rfl,hx,hb⟩;have HR:=hid hx.rd;have HOa:=hid (aA.below HO2.out hb);have HBa:=hid (HB2.out.trans (hb.mono hz2));have HKa:=hid (HK2.out.trans (aI hb));have hza:=Nat.le_trans hB HBa.out.size;clear hx hb k k0;go_wp2_with(at_builtin;go_must (refine ar rfl _ _ rfl B _ (l++[3]) rfl HOa.out w3.heap.size x (grp (zig i)) rfl HR.out hza (by have h:=HLEN.out;simp only[List.length_cons,List.length_append,List.length_nil]at h ⊢;omega) ?_));intro v4 w4 hv4 hg4;have HB4:=hid (aF HBa.out HOa.out hza hg4);have HK4:=hid (HKa.out.trans (aH HOa.out hg4));have HO4:Hid (aA w4 B v4 (l++3::grp (zig i))):=hid (by simpa using hv4);clear hv4 hg4;go_wp2_with fail;go_ret;exact⟨_,rfl,HO4.out,HB4.out,HK4.out⟩
theorem zn (s:ByteArray):hU (.mk 4 0 s [] []):=by
 intro S v bv B l w hS hB h hown hlen
 have he:fe (.mk 4 0 s [] [])=4::txt s:=by
  rw[cP];unfold fb;simp[VT.kind,VT.num,VT.text,VT.items,VT.names,cj]
 rw[he]at hlen ⊢;obtain⟨A,c,A',c',rfl,-,hri,hrs,hl1,-,hN,hA⟩:=h.shape;simp only[VT.kind,VT.num,VT.text,VT.items,VT.names,List.length_nil]at *;have HX:=hid (Box.new (w:=w) (.int .i64 4) (.int .i64 0) (.string s) (.slice A 0 c) (.slice A' 0 c'));have hb0:=af (w:=w) (.cells #[.int .i64 4,.int .i64 0,.string s,.slice A 0 c,.slice A' 0 c'] 43);have HO:=hid (aA.below hown hb0);have hb1:=dz hb0 (af (w:=w.alloc (.cells #[.int .i64 4,.int .i64 0,.string s,.slice A 0 c,.slice A' 0 c'] 43)) (.cells #[.int .u8 4] 5));have HB1:=hid (hb1.mono hB);have HO1:=hid (aA.below HO.out (af (w:=w.alloc (.cells #[.int .i64 4,.int .i64 0,.string s,.slice A 0 c,.slice A' 0 c'] 43)) (.cells #[.int .u8 4] 5)));have HK1:=hid (aI hb1);have HX1:=hid (HX.out.call (af (.cells #[.int .u8 4] 5)));have HV0:=hid (h.keep (fun b hb=>(hb0.mono hB).block b (hS b hb)));have hz1:=Nat.le_trans hB hb1.size;have HLEN:=hid hlen;have k0:=HX.out.c0;have hl0:l.length+1≤140737488355328:=by simp only[List.length_cons,List.length_append,List.length_nil]at hlen;omega
 clear hb0 hb1 hown hlen HO HX he h;have HRS:=hid hrs;go_enter Tryz.func160,Tryz.ntmps160;go_wp2_with(at_builtin;go_must (refine ar rfl _ _ rfl B _ l rfl HO1.out _ (.slice (some ⟨w.heap.size+1,0,none⟩) 1 1) [4] rfl (Rd.one' (by simp) 4 rfl) hz1 hl0 ?_));intro v2 w2 hv2 hg2;have HB2:=hid (aF HB1.out HO1.out hz1 hg2);have hk2:=aH HO1.out hg2;have HK2:=hid (HK1.out.trans hk2);have HX2:=hid (HX1.out.k8 hk2);have HO2:=hid hv2;have hz2:B≤w2.heap.size:=Nat.le_trans hB HB2.out.size;have k0:=HX2.out.c0;clear hg2 hv2 HB1 HK1 HX1 HO1 hk2;have k:=HX2.out.c2;go_wp2_with fail;refine(gK s _ HRS.out).mono ?_;rintro e w3 ⟨x,rfl,hx,hb⟩;have HR:=hid hx.rd;have HOa:=hid (aA.below HO2.out hb);have HBa:=hid (HB2.out.trans (hb.mono hz2));have HKa:=hid (HK2.out.trans (aI hb));have hza:=Nat.le_trans hB HBa.out.size;clear hx hb k k0;go_wp2_with(at_builtin;go_must (refine ar rfl _ _ rfl B _ (l++[4]) rfl HOa.out w3.heap.size x (txt s) rfl HR.out hza (by have h:=HLEN.out;simp only[List.length_cons,List.length_append,List.length_nil]at h ⊢;omega) ?_));intro v4 w4 hv4 hg4;have HB4:=hid (aF HBa.out HOa.out hza hg4);have HK4:=hid (HKa.out.trans (aH HOa.out hg4));have HO4:Hid (aA w4 B v4 (l++4::txt s)):=hid (by simpa using hv4);clear hv4 hg4;go_wp2_with fail;go_ret;exact⟨_,rfl,HO4.out,HB4.out,HK4.out⟩
theorem zz (s:ByteArray):hU (.mk 5 0 s [] []):=by
 intro S v bv B l w hS hB h hown hlen
 have he:fe (.mk 5 0 s [] [])=5::txt s:=by
  rw[cP];unfold fb;simp[VT.kind,VT.num,VT.text,VT.items,VT.names,cj]
 rw[he]at hlen ⊢;obtain⟨A,c,A',c',rfl,-,hri,hrs,hl1,-,hN,hA⟩:=h.shape;simp only[VT.kind,VT.num,VT.text,VT.items,VT.names,List.length_nil]at *;have HX:=hid (Box.new (w:=w) (.int .i64 5) (.int .i64 0) (.string s) (.slice A 0 c) (.slice A' 0 c'));have hb0:=af (w:=w) (.cells #[.int .i64 5,.int .i64 0,.string s,.slice A 0 c,.slice A' 0 c'] 43);have HO:=hid (aA.below hown hb0);have hb1:=dz hb0 (af (w:=w.alloc (.cells #[.int .i64 5,.int .i64 0,.string s,.slice A 0 c,.slice A' 0 c'] 43)) (.cells #[.int .u8 5] 5));have HB1:=hid (hb1.mono hB);have HO1:=hid (aA.below HO.out (af (w:=w.alloc (.cells #[.int .i64 5,.int .i64 0,.string s,.slice A 0 c,.slice A' 0 c'] 43)) (.cells #[.int .u8 5] 5)));have HK1:=hid (aI hb1);have HX1:=hid (HX.out.call (af (.cells #[.int .u8 5] 5)));have HV0:=hid (h.keep (fun b hb=>(hb0.mono hB).block b (hS b hb)));have hz1:=Nat.le_trans hB hb1.size;have HLEN:=hid hlen;have k0:=HX.out.c0;have hl0:l.length+1≤140737488355328:=by simp only[List.length_cons,List.length_append,List.length_nil]at hlen;omega
 clear hb0 hb1 hown hlen HO HX he h;have HRS:=hid hrs;go_enter Tryz.func160,Tryz.ntmps160;go_wp2_with(at_builtin;go_must (refine ar rfl _ _ rfl B _ l rfl HO1.out _ (.slice (some ⟨w.heap.size+1,0,none⟩) 1 1) [5] rfl (Rd.one' (by simp) 5 rfl) hz1 hl0 ?_));intro v2 w2 hv2 hg2;have HB2:=hid (aF HB1.out HO1.out hz1 hg2);have hk2:=aH HO1.out hg2;have HK2:=hid (HK1.out.trans hk2);have HX2:=hid (HX1.out.k8 hk2);have HO2:=hid hv2;have hz2:B≤w2.heap.size:=Nat.le_trans hB HB2.out.size;have k0:=HX2.out.c0;clear hg2 hv2 HB1 HK1 HX1 HO1 hk2;have k:=HX2.out.c2;go_wp2_with fail;refine(gK s _ HRS.out).mono ?_;rintro e w3 ⟨x,rfl,hx,hb⟩;have HR:=hid hx.rd;have HOa:=hid (aA.below HO2.out hb);have HBa:=hid (HB2.out.trans (hb.mono hz2));have HKa:=hid (HK2.out.trans (aI hb));have hza:=Nat.le_trans hB HBa.out.size;clear hx hb k k0;go_wp2_with(at_builtin;go_must (refine ar rfl _ _ rfl B _ (l++[5]) rfl HOa.out w3.heap.size x (txt s) rfl HR.out hza (by have h:=HLEN.out;simp only[List.length_cons,List.length_append,List.length_nil]at h ⊢;omega) ?_));intro v4 w4 hv4 hg4;have HB4:=hid (aF HBa.out HOa.out hza hg4);have HK4:=hid (HKa.out.trans (aH HOa.out hg4));have HO4:Hid (aA w4 B v4 (l++5::txt s)):=hid (by simpa using hv4);clear hv4 hg4;go_wp2_with fail;go_ret;exact⟨_,rfl,HO4.out,HB4.out,HK4.out⟩
theorem zq (its:List VT)(ih: ∀x∈its,hU x):hU (.mk 6 0 eS its []):=by
 intro S v bv B l w hS hB h hown hlen
 have he:fe (.mk 6 0 eS its [])=6::(grp its.length++ff false [] its):=by
  rw[cP];unfold fb;simp[VT.kind,VT.num,VT.text,VT.items,VT.names,cj]
 rw[he]at hlen ⊢;obtain⟨A,c,A',c',rfl,-,hri,hrs,hl1,-,hN,hA⟩:=h.shape;simp only[VT.kind,VT.num,VT.text,VT.items,VT.names,List.length_nil]at *;have HX:=hid (Box.new (w:=w) (.int .i64 6) (.int .i64 0) (.string eS) (.slice A its.length c) (.slice A' 0 c'));have hb0:=af (w:=w) (.cells #[.int .i64 6,.int .i64 0,.string eS,.slice A its.length c,.slice A' 0 c'] 43);have HO:=hid (aA.below hown hb0);have hb1:=dz hb0 (af (w:=w.alloc (.cells #[.int .i64 6,.int .i64 0,.string eS,.slice A its.length c,.slice A' 0 c'] 43)) (.cells #[.int .u8 6] 5));have HB1:=hid (hb1.mono hB);have HO1:=hid (aA.below HO.out (af (w:=w.alloc (.cells #[.int .i64 6,.int .i64 0,.string eS,.slice A its.length c,.slice A' 0 c'] 43)) (.cells #[.int .u8 6] 5)));have HK1:=hid (aI hb1);have HX1:=hid (HX.out.call (af (.cells #[.int .u8 6] 5)));have HV0:=hid (h.keep (fun b hb=>(hb0.mono hB).block b (hS b hb)));have hz1:=Nat.le_trans hB hb1.size;have HLEN:=hid hlen;have k0:=HX.out.c0;have hl0:l.length+1≤140737488355328:=by simp only[List.length_cons,List.length_append,List.length_nil]at hlen;omega
 clear hb0 hb1 hown hlen HO HX he h;have HIH:=hid ih;clear ih hN hA;go_enter Tryz.func160,Tryz.ntmps160;go_wp2_with(at_builtin;go_must (refine ar rfl _ _ rfl B _ l rfl HO1.out _ (.slice (some ⟨w.heap.size+1,0,none⟩) 1 1) [6] rfl (Rd.one' (by simp) 6 rfl) hz1 hl0 ?_));intro v2 w2 hv2 hg2;have HB2:=hid (aF HB1.out HO1.out hz1 hg2);have hk2:=aH HO1.out hg2;have HK2:=hid (HK1.out.trans hk2);have HX2:=hid (HX1.out.k8 hk2);have HO2:=hid hv2;have hz2:B≤w2.heap.size:=Nat.le_trans hB HB2.out.size;have k0:=HX2.out.c0;clear hg2 hv2 HB1 HK1 HX1 HO1 hk2;have k1:=HX2.out.c1;have k2:=HX2.out.c2;have k3:=HX2.out.c3;have k4:=HX2.out.c4
 have HV2:Hid (LV w2 S _ _):=hid (HV0.out.keep fun b hb=>by
  have h1:=(HB2.out.block b (hS b hb)).trans (((af (w:=w) (.cells #[.int .i64 6,.int .i64 0,.string eS,.slice A its.length c,.slice A' 0 c'] 43)).mono hB).block b (hS b hb)).symm
  exact h1)
 go_wp2_with fail;refine(vo 0 eS its [] HIH.out S _ _ B (l++[6]) _ hS hz2 HV2.out HO2.out (by have h:=HLEN.out;simp only[List.length_cons,List.length_append,List.length_nil]at h ⊢;omega)).mono ?_;rintro e w3 ⟨x,rfl,hx,hb,hk⟩;have HO3:Hid (aA w3 B x (l++6::(grp its.length++ff false [] its))):=hid (by simpa using hx);have HB3:=hid (HB2.out.trans hb);have HK3:=hid (HK2.out.trans hk);clear hx hb hk;go_wp2_with fail;go_ret;exact⟨_,rfl,HO3.out,HB3.out,HK3.out⟩
theorem zC (its:List VT)(ns:List ByteArray)(hn:ns.length=its.length)(ih: ∀x∈its,hU x):hU (.mk 7 0 eS its ns):=by
 intro S v bv B l w hS hB h hown hlen
 have he:fe (.mk 7 0 eS its ns)=7::(grp its.length++ff true ns its):=by
  rw[cP];unfold fb;simp[VT.kind,VT.num,VT.text,VT.items,VT.names,cj]
 rw[he]at hlen ⊢;obtain⟨A,c,A',c',rfl,-,hri,hrs,hl1,-,hN,hA⟩:=h.shape;simp only[VT.kind,VT.num,VT.text,VT.items,VT.names,List.length_nil]at *;have HX:=hid (Box.new (w:=w) (.int .i64 7) (.int .i64 0) (.string eS) (.slice A its.length c) (.slice A' ns.length c'));have hb0:=af (w:=w) (.cells #[.int .i64 7,.int .i64 0,.string eS,.slice A its.length c,.slice A' ns.length c'] 43);have HO:=hid (aA.below hown hb0);have hb1:=dz hb0 (af (w:=w.alloc (.cells #[.int .i64 7,.int .i64 0,.string eS,.slice A its.length c,.slice A' ns.length c'] 43)) (.cells #[.int .u8 7] 5));have HB1:=hid (hb1.mono hB);have HO1:=hid (aA.below HO.out (af (w:=w.alloc (.cells #[.int .i64 7,.int .i64 0,.string eS,.slice A its.length c,.slice A' ns.length c'] 43)) (.cells #[.int .u8 7] 5)));have HK1:=hid (aI hb1);have HX1:=hid (HX.out.call (af (.cells #[.int .u8 7] 5)));have HV0:=hid (h.keep (fun b hb=>(hb0.mono hB).block b (hS b hb)));have hz1:=Nat.le_trans hB hb1.size;have HLEN:=hid hlen;have k0:=HX.out.c0;have hl0:l.length+1≤140737488355328:=by simp only[List.length_cons,List.length_append,List.length_nil]at hlen;omega
 clear hb0 hb1 hown hlen HO HX he h;have HN7:=hid hn;clear hn;have HIH:=hid ih;clear ih hN hA;go_enter Tryz.func160,Tryz.ntmps160;go_wp2_with(at_builtin;go_must (refine ar rfl _ _ rfl B _ l rfl HO1.out _ (.slice (some ⟨w.heap.size+1,0,none⟩) 1 1) [7] rfl (Rd.one' (by simp) 7 rfl) hz1 hl0 ?_));intro v2 w2 hv2 hg2;have HB2:=hid (aF HB1.out HO1.out hz1 hg2);have hk2:=aH HO1.out hg2;have HK2:=hid (HK1.out.trans hk2);have HX2:=hid (HX1.out.k8 hk2);have HO2:=hid hv2;have hz2:B≤w2.heap.size:=Nat.le_trans hB HB2.out.size;have k0:=HX2.out.c0;clear hg2 hv2 HB1 HK1 HX1 HO1 hk2;have k1:=HX2.out.c1;have k2:=HX2.out.c2;have k3:=HX2.out.c3;have k4:=HX2.out.c4
 have HV2:Hid (LV w2 S _ _):=hid (HV0.out.keep fun b hb=>by
  have h1:=(HB2.out.block b (hS b hb)).trans (((af (w:=w) (.cells #[.int .i64 7,.int .i64 0,.string eS,.slice A its.length c,.slice A' ns.length c'] 43)).mono hB).block b (hS b hb)).symm
  exact h1)
 go_wp2_with fail;refine(uU 0 eS its ns HN7.out HIH.out S _ _ B (l++[7]) _ hS hz2 HV2.out HO2.out (by have h:=HLEN.out;simp only[List.length_cons,List.length_append,List.length_nil]at h ⊢;omega)).mono ?_;rintro e w3 ⟨x,rfl,hx,hb,hk⟩;have HO3:Hid (aA w3 B x (l++7::(grp its.length++ff true ns its))):=hid (by simpa using hx);have HB3:=hid (HB2.out.trans hb);have HK3:=hid (HK2.out.trans hk);clear hx hb hk;go_wp2_with fail;go_ret;exact⟨_,rfl,HO3.out,HB3.out,HK3.out⟩
theorem pG : ∀(n:Nat) (t:VT),av t≤n→bE t=true→hU t
 |0,t,hd,_=>by cases t;rw[bu]at hd;omega
 |n+1,t,hd,hm=>by
  rcases wJ hm with rfl|⟨i,hi,rfl⟩|⟨i,rfl⟩|⟨k,s,hk,rfl⟩|⟨l,hl,rfl⟩|⟨l,ns,hl,hn,hdn,rfl⟩
  ·exact zp
  ·rcases hi with rfl|rfl
   ·exact yE
   ·exact yK
  ·exact zy i
  ·rcases hk with rfl|rfl
   ·exact zn s
   ·exact zz s
  ·rw[bu]at hd;exact zq l fun x hx=>pG n x (by have:=dh hx;omega) (dS hl hx)
  ·rw[bu]at hd;exact zC l ns hn fun x hx=>pG n x (by have:=dh hx;omega) (dS hl hx)
def fg (t:VT):List UInt8:=if bh t=0 then fe t else []
theorem gQ {t:VT}(hz:bt t≤9223372036854775807):(fg t).length≤4096:=by
 unfold fg
 split
 ·next h=>
  obtain⟨h1,-,h3⟩:=(iF hz).1 h;rw[kH t h1];exact h3
 ·simp
theorem qt (S:Nat→Prop)(t:VT)(v:Value)(w:World)(hS: ∀b,S b→b<w.heap.size)(h:LV w S t v)(hd:av t≤4611686018427387903)(hz:bt t≤9223372036854775807):
  Calls Tryz.prog 183 #[v] w fun e w'=> ∃v',e= .returned (.tuple #[v',.int .i64 (bh t)])∧aA w' w.heap.size v' (fg t)∧Below w.heap.size w w':=by
 obtain⟨A,c,A',c',rfl,-⟩:=h.shape;have HX:=hid (Box.new (w:=w) (.int .i64 t.kind) (.int .i64 t.num) (.string t.text) (.slice A t.items.length c) (.slice A' t.names.length c'));have hb0:=af (w:=w) (.cells #[.int .i64 t.kind,.int .i64 t.num,.string t.text,.slice A t.items.length c,.slice A' t.names.length c'] 43);have HC:=hid (gk S t _ _ (fun b hb=>Nat.lt_of_lt_of_le (hS b hb) hb0.size) (h.keep (w':=w.alloc (.cells #[.int .i64 t.kind,.int .i64 t.num,.string t.text,.slice A t.items.length c,.slice A' t.names.length c'] 43)) fun b hb=>hb0.block b (hS b hb)) hd);have HB0:=hid hb0;have HV:=hid h;clear h hb0;go_enter Tryz.func183,Tryz.ntmps183;go_wp2_with fail;refine HC.out.mono ?_;rintro e w1 ⟨rfl,hb⟩;have hb1:=aE HB0.out hb;have hx:=HX.out.call hb;have hv:=HV.out.keep (w':=w1) fun b hb=>hb1.block b (hS b hb);have hz1:=hb1.size;have HB1:=hid hb1;have HX1:=hid hx;have HV1:=hid hv;clear hb hb1 hx hv HB0 HX HV HC;obtain⟨x,hx⟩: ∃x,x=bh t:=⟨_,rfl⟩;rw[←hx];have HE:=hid hx;clear hx;by_cases h0:x=0
 ·subst h0;have hch:=(iF hz).1 HE.out.symm;have v0:=HX1.out.c0;have v1:=HX1.out.c1;have v2:=HX1.out.c2;have v3:=HX1.out.c3;have v4:=HX1.out.c4;have HP:=hid (pG (av t) t (Nat.le_refl _) hch.1 S _ (.slice none 0 0) w.heap.size [] w1 hS hz1 HV1.out ⟨rfl,.inl ⟨rfl,rfl⟩⟩ (by have:=kH t hch.1;have:=hch.2.2;simp;omega));have HCH:=hid hch;clear hch;go_wp2_with fail;refine HP.out.mono ?_;rintro e w2 ⟨v',rfl,hv',hb2,-⟩;go_wp2_with fail
  go_ret2
  refine⟨v',(by rw[←HE.out];rfl),?_,HB1.out.trans hb2⟩;unfold fg;rw[if_pos HE.out.symm];exact hv'
 ·have h1:(x == 0)=false:=beq_false_of_ne h0;have h2:(x != 0)=true:=by simp[h0]
  go_wp2_with fail
  go_ret2
  refine⟨_,(by rw[←HE.out];rfl),?_,HB1.out⟩;unfold fg;rw[if_neg (fun h=>h0 (HE.out.trans h))];exact⟨rfl,.inl ⟨rfl,rfl⟩⟩
theorem od (S:Nat→Prop)(t:VT)(v:Value)(bv:Value)(l:List UInt8)(w:World)(hS: ∀b,S b→b<w.heap.size)(h:LV w S t v)(hd:av t≤4611686018427387903)(hz:bt t≤9223372036854775807)(hl:l.length≤140737488351232)(hr:Rd w w.heap.size bv l):
  Calls Tryz.prog 140 #[bv,v] w fun e w'=> ∃v',e= .returned v'∧aA w' w.heap.size v' (l++fg t)∧Below w.heap.size w w':=by
 obtain⟨A,c,A',c',rfl,-⟩:=h.shape;have HX:=hid (Box.new (w:=w) (.int .i64 t.kind) (.int .i64 t.num) (.string t.text) (.slice A t.items.length c) (.slice A' t.names.length c'));have hb0:=af (w:=w) (.cells #[.int .i64 t.kind,.int .i64 t.num,.string t.text,.slice A t.items.length c,.slice A' t.names.length c'] 43);have HR:=hid (hr.keep hb0);have HB0:=hid hb0;have HV:=hid h;have hz0:=hb0.size;clear h hb0 hr;go_enter Tryz.func140,Tryz.ntmps140;go_wp2_with(at_builtin;go_must (refine ar rfl _ _ rfl w.heap.size (.slice none 0 0) [] rfl ⟨rfl,.inl ⟨rfl,rfl⟩⟩ w.heap.size bv l rfl HR.out hz0 (by simp;omega) ?_));intro v1 w1 hv1 hg1;have hown0:aA (w.alloc (.cells #[.int .i64 t.kind,.int .i64 t.num,.string t.text,.slice A t.items.length c,.slice A' t.names.length c'] 43)) w.heap.size (.slice none 0 0) []:=⟨rfl,.inl ⟨rfl,rfl⟩⟩;have hb1:=aF HB0.out hown0 hz0 hg1;have hx:=HX.out.k8 (aH hown0 hg1);have hz1:=hb1.size;have hv:=HV.out.keep (w':=w1) fun b hb=>hb1.block b (hS b hb);have HO1:=hid hv1;have HB1:=hid hb1;have HX1:=hid hx;have HC:=hid (gk S t _ w1 (fun b hb=>Nat.lt_of_lt_of_le (hS b hb) hz1) hv hd);have v0:=hx.c0;have v1':=hx.c1;have v2:=hx.c2;have v3:=hx.c3;have v4:=hx.c4;clear hown0 hb1 hx hv1 hg1 hv HX HB0 HR;go_wp2_with fail;refine HC.out.mono ?_;rintro e w2 ⟨rfl,hb⟩;have hb2:=HB1.out.trans (hb.mono hz1);have hx2:=HX1.out.call hb;have hv2:=HV.out.keep (w':=w2) fun b hb=>hb2.block b (hS b hb);have hz2:=hb2.size;have HO2:=hid (HO1.out.below hb);have HB2:=hid hb2;have HX2:=hid hx2;have HV2:=hid hv2
 clear hb hb2 hx2 hv2 HB1 HX1 HV HC HO1 v0 v1' v2 v3 v4;obtain⟨x,hx⟩: ∃x,x=bh t:=⟨_,rfl⟩;rw[←hx];have HE:=hid hx;clear hx;by_cases h0:x=0
 ·subst h0;have hch:=(iF hz).1 HE.out.symm;have v0:=HX2.out.c0;have v1':=HX2.out.c1;have v2:=HX2.out.c2;have v3:=HX2.out.c3;have v4:=HX2.out.c4;have HP:=hid (pG (av t) t (Nat.le_refl _) hch.1 S _ v1 w.heap.size l w2 hS hz2 HV2.out HO2.out (by have:=kH t hch.1;have:=hch.2.2;omega));have HCH:=hid hch;clear hch;go_wp2_with fail;refine HP.out.mono ?_;rintro e w3 ⟨v',rfl,hv',hb3,-⟩;go_wp2_with fail;go_ret;refine⟨v',rfl,?_,HB2.out.trans hb3⟩;unfold fg;rw[if_pos HE.out.symm];exact hv'
 ·have h1:(x == 0)=false:=beq_false_of_ne h0;have h2:(x != 0)=true:=by simp[h0]
  go_wp2_with fail;go_ret;refine⟨_,rfl,?_,HB2.out⟩;unfold fg;rw[if_neg (fun h=>h0 (HE.out.trans h)),List.append_nil];exact HO2.out
instance k8_inh (w:World):Inhabited (bW K8 w):=⟨⟨w,Lib.OthersKept.refl _ _ _⟩⟩
theorem de {w:World}{g i:Nat}{v:Value}{cs:Array Value}{t:TypeId}{fr:Nat×Nat}(hg:w.heap[g]? =some (.cells cs t fr))(ht:t≠5)(hc:cs[i]? =some v): ∀p:bW K8 w,p.u.cell? ⟨g,i,none⟩=some v:=fun p=>by
 have h1:=p.h g _ hg (fun h=>by cases h) (fun c fz h=>by injection h with _ h;exact ht h);rw[Go.Joins.cell_of_block h1 i,hc]
def iP (ns:List Nat):List UInt8:=(ns.map grp).flatten
theorem uP (ns:List Nat)(k:Nat)(h:k<ns.length):iP (ns.take (k+1))=iP (ns.take k)++grp ns[k]:=by
 unfold iP;rw[List.take_succ_eq_append_getElem h,List.map_append,List.flatten_append];simp
theorem ru : ∀ns:List Nat,(iP ns).length≤11 * ns.length
 | []=>by simp[iP]
 |n::r=>by
  have h:=ru r;have:=(ay n).1;unfold iP at *;rw[List.map_cons,List.flatten_cons,List.length_append,List.length_cons];omega
theorem nQ (ns:List Nat)(k:Nat):(iP (ns.take k)).length≤11 * ns.length:=by
 have h:=ru (ns.take k);have:(ns.take k).length≤ns.length:=by rw[List.length_take];omega
 omega
def iI (w:World)(g:Nat)(ns:List Nat):Prop:=w.heap[g]? =some (.cells (ns.map fun n:Nat=>Value.int .i64 (n:Int)).toArray 3 (0,0))
theorem iI.k8 {w w':World}{g:Nat}{ns:List Nat}(h:iI w g ns)(hk:K8 w w'):iI w' g ns:=hk g _ h (fun h=>by cases h) (fun c fz h=>by injection h with _ h;exact absurd h (by decide))
theorem iI.cell {w:World}{g:Nat}{ns:List Nat}(h:iI w g ns)(i:Nat)(hi:i<ns.length):w.cell? ⟨g,i,none⟩=some (.int .i64 (ns[i]:Int)):=by
 rw[Go.Joins.cell_of_block h i];simp[hi]
theorem iI.new (w:World)(ns:List Nat):iI (w.alloc (.cells (ns.map fun n:Nat=>Value.int .i64 (n:Int)).toArray 3)) w.heap.size ns:=heap_alloc_new w _
theorem eR (B g c:Nat)(ns:List Nat)(v:Value)(l:List UInt8)(w:World)(h:aA w B v l)(hB:B≤w.heap.size)(hg:iI w g ns)(hn: ∀n∈ns,n≤4611686018427387904)(hl:l.length+11 * ns.length≤140737488350000):
  Calls Tryz.prog 62 #[v,.slice (some ⟨g,0,none⟩) ns.length c] w (iX B (l++iP ns) w):=by
 have HH:=hid h;have hlen:ns.length≤140737488350000:=by omega
 have HL:=hid hl;have HB:=hid hB;have HG:=hid hg;have HN:=hid hn;clear h hl hB hg hn;go_enter Tryz.func62,Tryz.ntmps62;go_wp2_with fail
 go_loopw [0,11] (fun b i wr=> ∃k:Nat,i= .int .i64 k∧k≤ns.length∧Hid (aA wr B b (l++iP (ns.take k)))∧Hid (Below B w wr)∧Hid (K8 w wr)) (fun _ i _=>ns.length - (intOf i).toNat)
 case atStart=>exact⟨0,rfl,by omega,hid (by simpa[iP]using HH.out),hid (Below.refl _ _),hid (Lib.OthersKept.refl _ _ _)⟩
 case round=>
  obtain⟨k,rfl,hk,HO,HW,HK⟩:=hrel;by_cases hlt:k<ns.length
  ·have hcell:=(HG.out.k8 HK.out).cell k hlt;have hnk:=HN.out ns[k] (List.getElem_mem hlt);have hgt:=uP ns k hlt;have hgl:=nQ ns k;obtain⟨n,hn⟩: ∃n,n=ns[k]:=⟨_,rfl⟩;rw[←hn]at hcell hnk hgt;obtain⟨y,hy⟩: ∃y,y=iP (ns.take k):=⟨_,rfl⟩;rw[←hy]at HO hgt hgl;have HGT:=hid hgt;have HGL:=hid hgl;clear hn hy hgt hgl;go_wp2_with fail;refine(ji (n:Int) _ (by omega)).mono ?_;rintro e w1 hc
   obtain⟨v1,rfl,hv1,hb1⟩: ∃v,e= .returned (.tuple #[v,.int .i64 0])∧aA w1 wr.heap.size v (grp n)∧Below wr.heap.size wr w1:=by
    rcases hc with ⟨-,-,v,h1,h2,h3⟩|⟨h,-⟩
    ·exact⟨v,h1,by simpa using h2,h3⟩
    ·omega
   have hz:=HW.out.size;have HV1:=hid hv1;have HB1:=hid hb1;have HO1:=hid (HO.out.below hb1);have HZ:=hid (Nat.le_trans HB.out (Nat.le_trans hz hb1.size));have HK1:=hid (HK.out.trans (aI hb1));have HW1:=hid (HW.out.trans (hb1.mono (Nat.le_trans HB.out hz)));clear hc hv1 hb1 hz;go_wp2_with(at_builtin;go_must (refine ar rfl _ _ rfl B _ (l++y) rfl HO1.out w1.heap.size _ (grp n) rfl HV1.out.rd HZ.out (by have h1:=HL.out;have h2:=(ay n).1;have h3:=HGL.out;rw[List.length_append];omega) ?_));intro v2 w2 hv2 hg2;have HV2:=hid (show aA w2 B v2 (l++(y++grp n)) by first|exact hv2|(rw[←List.append_assoc];exact hv2));have HB2:=hid (aF HW1.out HO1.out HZ.out hg2);have HK2:=hid (HK1.out.trans (aH HO1.out hg2));clear hv2 hg2;go_wp2_with fail
   go_roundw
   case rel=>exact⟨k+1,by go_num,by omega,hid (by rw[HGT.out];exact HV2.out),HB2,HK2⟩
   case measure=>simp[intOf];omega
  ·have hk2:k=ns.length:=by omega
   subst hk2;rw[List.take_length]at HO;clear HG HN;go_wp2_with fail;go_ret;exact⟨_,rfl,HO.out,HW.out,HK.out⟩
theorem fJ (B n:Nat)(v:Value)(l:List UInt8)(w:World)(h:aA w B v l)(hB:B≤w.heap.size)(hn:n≤4611686018427387904)(hl:l.length≤140737488300000):
  Calls Tryz.prog 62 #[v,.slice (some ⟨w.heap.size,0,none⟩) 1 1] (w.alloc (.cells #[.int .i64 (n:Int)] 3)) (iX B (l++grp n) w):=by
 have hb0:Below w.heap.size w (w.alloc (.cells #[.int .i64 (n:Int)] 3)):=(Below.refl _ _).alloc (Nat.le_refl _) _;have hp:=eR B w.heap.size 1 [n] v l (w.alloc (.cells #[.int .i64 (n:Int)] 3)) (h.below hb0) (Nat.le_trans hB hb0.size) (iI.new w [n]) (by intro k hk;simp at hk;omega) (by simp;omega);refine hp.mono ?_;rintro e w' ⟨v',rfl,h1,h2,h3⟩;have e:iP [n]=grp n:=by unfold iP;simp
 rw[e]at h1;exact⟨v',rfl,h1,(hb0.mono hB).trans h2,(aI hb0).trans h3⟩
def dX (p:List ByteArray):List UInt8:=grp p.length++(p.map txt).flatten
def kz (p:List ByteArray):Prop:=p.length≤1000∧ ∀s∈p,s.size≤1000
theorem jv {s:ByteArray}(h:s.size≤1000):(txt s).length≤1011:=by
 unfold txt;have h1:=(ay s.size).1;simp[List.length_append];omega
theorem fu : ∀ {p:List ByteArray},(∀s∈p,s.size≤1000)→((p.map txt).flatten).length≤1011 * p.length
 | [],_=>by simp
 |a::r,h=>by
  have h1:=jv (h a (by simp));have h2:=fu (p:=r) fun s hs=>h s (List.mem_cons_of_mem _ hs);simp only[List.map_cons,List.flatten_cons,List.length_append,List.length_cons];omega
theorem ip (S:Nat→Prop)(A:Option Addr)(c:Nat)(p:List ByteArray)(B:Nat)(v:Value)(l:List UInt8)(w:World)(hS: ∀b,S b→b<B)(hp:aD w S A p)(hok:kz p)(h:aA w B v l)(hB:B≤w.heap.size)(hl:l.length≤140737480000000):
  Calls Tryz.prog 182 #[v,.slice A p.length c] w (iX B (l++dX p) w):=by
 have HP:=hid hp;have HS:=hid hS;have HOK:=hid hok;have HL:=hid hl;have HB:=hid hB;have HC:=hid (fJ B p.length v l w h hB (by have:=hok.1;omega) (by omega));obtain⟨Av,cv,rfl⟩:=h.slice;obtain⟨m,hm⟩: ∃m,m=l.length:=⟨_,rfl⟩;rw[←hm]at HC ⊢;have hpn:=hok.1;clear h hp hS hok hl hB hm;go_enter Tryz.func182,Tryz.ntmps182;go_wp2_with fail;refine HC.out.mono ?_;rintro e w1 ⟨v1,rfl,hv1,hb1,hk1⟩;have h0:Hid (aA w1 B v1 (l++grp p.length++((p.take 0).map txt).flatten)∧Below B w w1∧K8 w w1):=hid ⟨by simpa using hv1,hb1,hk1⟩;clear hv1 hb1 hk1 HC;go_wp2_with fail
 go_loopw [0,14] (fun v0 i wr=> ∃k:Nat,i= .int .i64 k∧k≤p.length∧Hid (aA wr B v0 (l++grp p.length++((p.take k).map txt).flatten)∧Below B w wr∧K8 w wr)) (fun _ i _=>p.length - (intOf i).toNat)
 case atStart=>exact⟨0,rfl,by omega,h0⟩
 case round=>
  rename_i v0 _;obtain⟨k,rfl,hk,HH⟩:=hrel;by_cases hlt:k<p.length
  ·obtain⟨b,off,rfl,hb,hc⟩:=HP.out (by omega);have hck:=(World.cell?_of_block (a:=⟨b,off+k,none⟩) (HH.out.2.1.block b (HS.out b hb))).trans (hc k hlt).1;have hsz:=HOK.out.2 _ (List.getElem_mem hlt);have HT:=hid (gK p[k] wr (by omega));obtain⟨s,hs⟩: ∃s,s=p[k]:=⟨_,rfl⟩;rw[←hs]at hck HT hsz;have HSX:=hid hs;have HTL:=hid (jv hsz);obtain⟨Av,cv,hvv⟩:=HH.out.1.slice;have HAV:=hid hvv;have hfl:=fu (p:=p.take k) fun s hs=>HOK.out.2 s (List.mem_of_mem_take hs);rw[List.length_take]at hfl
   have hcl:(l++grp p.length++((p.take k).map txt).flatten).length≤140737482000000:=by
    have h1:=(ay p.length).1;have h2:=HL.out;have h3:=HOK.out.1;simp only[List.length_append];omega
   have HCL:=hid hcl;clear hc hsz hs hb hvv hfl hcl;go_wp2_with fail;refine HT.out.mono ?_;rintro e w5 ⟨v5,rfl,hv5,hb5⟩;have HV5:=hid hv5;have HO5:=hid (HH.out.1.below hb5);have HB5:=hid hb5;have hBs:B≤wr.heap.size:=Nat.le_trans HB.out HH.out.2.1.size;have HBS:=hid hBs;obtain⟨A5,c5,rfl⟩:=hv5.slice;obtain⟨m5,hm5⟩: ∃m,m=(txt s).length:=⟨_,rfl⟩;rw[←hm5]at HV5 ⊢;clear hv5 hb5 HT hm5 hck hBs;go_wp2_with(at_builtin;go_must (refine ar rfl _ _ rfl B _ (l++grp p.length++((p.take k).map txt).flatten) rfl HO5.out w5.heap.size _ (txt s) rfl HV5.out.rd (Nat.le_trans HBS.out HB5.out.size) (by have:=HCL.out;have:=HTL.out;omega) ?_));intro v6 w6 hv6 hg6
   have HX:Hid (aA w6 B v6 (l++grp p.length++((p.take (k+1)).map txt).flatten)∧Below B w w6∧K8 w w6):=hid ⟨by
    rw[show l++grp p.length++((p.take (k+1)).map txt).flatten=l++(grp p.length++((List.take k (List.map txt p)).flatten++txt s)) from by rw[List.take_add_one,List.getElem?_eq_getElem hlt,←HSX.out];simp[List.map_take]]
    exact hv6,aF (HH.out.2.1.trans (HB5.out.mono HBS.out)) HO5.out (Nat.le_trans HBS.out HB5.out.size) hg6,(HH.out.2.2.trans (aI HB5.out)).trans (aH HO5.out hg6)⟩
   clear hv6 hg6;go_wp2_with fail
   go_roundw
   case rel=>exact⟨k+1,by go_num,by omega,HX⟩
   case measure=>simp[intOf];omega
  ·obtain rfl:k=p.length:=by omega
   go_wp2_with fail;go_ret;obtain⟨h1,h2,h3⟩:=HH.out;refine⟨_,rfl,?_,h2,h3⟩;rw[List.take_length]at h1;unfold dX;rw[←List.append_assoc];exact h1
theorem xE {p:List ByteArray}(h:jC p=true):kz p:=by
 obtain⟨-,h8,h2⟩:=(vQ p).1 h;refine⟨by omega,fun s hs=> ?_⟩;have:=((lg s).1 (h2 s hs)).2.1;omega
theorem qg {p:List ByteArray}(h:kz p):(dX p).length≤1012000:=by
 have h1:=(ay p.length).1;have h2:=fu h.2;have h3:=h.1;unfold dX;rw[List.length_append];omega
theorem wk (g:Nat)(st:Option (List UInt8))(w:World)(h:aN w g st):Calls Tryz.prog 33 #[.pointer (some ⟨g,0,none⟩)] w fun e w'=>e= .returned (.int .i64 (bX st))∧w=w':=by
 rcases st with _|l
 ·exact sJ g w h
 ·exact ux g l w h
theorem sl (a b:List UInt8):aJ (a++b)=aJ a++aJ b:=by unfold aJ;rw[List.map_append]
theorem cA {w:World}{o:Oper}{a:Act}{K:Act→World→Prop}{Q:Exit→Act→World→Prop}(s x:Operand)
  (ho:o.op= .call { callee:= .builtin .append,args:= #[s,x],argTypes:= #[23,23] }) (B:Nat) (v:Value) (l:List UInt8) (hs:a.eval s=v) (hown:aA w B v l)
  (D:Nat) (vx:Value) (m:List UInt8) (hx:a.eval x=vx) (hrd:Rd w D vx m) (hp:0<m.length) (hB:B≤w.heap.size) (hl:l.length+m.length≤140737488355328)
  (K': ∀v' w',aA w' B v' (l++m)→w.grownBy w' v.ownBlock→K (a.put o.dst v') w'):o.wp Tryz.prog a w K Q:=by
 obtain⟨i0,hi,hz0,hz1,hz2⟩:=info_parts Tryz.infoU8;obtain⟨A,cap,rfl,hcap,-,hc⟩:=hrd;obtain⟨b,off,rfl,-,hcell⟩:=hc hp;refine bo _ s x 23 ho B 5 i0 (.int .u8 0) 1 1 Tryz.underlying23 hi hz0 hz1 hz2 rfl (by decide) v l.length (aJ l) hs hown ⟨b,off,none⟩ m.length cap (aJ m) hx (by simp[aJ]) (fun j u hj=> ?_) (fun u hu=> ?_) (by unfold maxLen;omega) (by omega) hB fun v' w' h1 h2 _=>K' v' w' (by unfold aA;rw[List.length_append,sl];exact h1) h2
 ·have hj':=(List.getElem?_eq_some_iff.1 hj);obtain⟨hlt,he⟩:=hj';have hlm:j<m.length:=by simpa[aJ]using hlt
  have:=hcell j hlm;simp only[aJ,List.getElem_map]at he;rw[←he];rw[show(Addr.add ⟨b,off,none⟩ j:Addr)=⟨b,off+j,none⟩ from by cases j<;>simp[Addr.add]];exact this
 ·obtain⟨y,-,rfl⟩:=List.mem_map.1 hu;rfl
def rdK (st:Option (List UInt8)):Nat→List ByteArray×Option (List UInt8)
 |0=>([],st)
 |k+1=>((rdK st k).1++[⟨(am 32 (rdK st k).2).1.toArray⟩],(am 32 (rdK st k).2).2)
theorem kE (st:Option (List UInt8)): ∀k,(rdK st k).1.length=k
 |0=>rfl
 |k+1=>by simp[rdK,kE st k]
def bj (st:Option (List UInt8)):List ByteArray×Option (List UInt8):=rdK (ae 8 st).2 (ae 8 st).1
theorem pA (g:Nat)(st:Option (List UInt8))(w:World)(hs:aN w g st):
  Calls Tryz.prog 188 #[.pointer (some ⟨g,0,none⟩)] w fun e w'=> ∃A c,e= .returned (.slice A (bj st).1.length c)∧w'.ownsRow w.heap.size 9 1 (.slice A (bj st).1.length c) (bj st).1.length ((bj st).1.map Value.string)∧aN w' g (bj st).2∧au w w' g:=by
 obtain⟨i0,hi,hz0,hz1,hz2⟩:=info_parts Tryz.infoStr;have h8:(ae 8 st).1≤8:=aZ 8 st (by omega);have HC:=hid (cD g st 8 w hs (by omega));have HG:=hid hs.lt;obtain⟨n,hn⟩: ∃n,n=(ae 8 st).1:=⟨_,rfl⟩;have HN:=hid hn;rw[←hn]at h8 HC;clear hs hn;go_enter Tryz.func188,Tryz.ntmps188;go_wp2_with fail;refine HC.out.mono ?_;rintro e w1 ⟨rfl,hs1,ho1⟩;obtain⟨s1,hs1'⟩: ∃s1,s1=(ae 8 st).2:=⟨_,rfl⟩;rw[←hs1']at hs1;have HS1:=hid hs1';have h0:Hid (aN w1 g (rdK s1 0).2∧au w w1 g):=hid ⟨hs1,ho1⟩;clear hs1 ho1 hs1' HC;go_wp2_with fail
 go_loopw [3,6] (fun v i wr=> ∃(k:Nat) (A:Option Addr) (c:Nat),i= .int .i64 k∧k≤n∧v= .slice A k c∧Hid (aN wr g (rdK s1 k).2∧au w wr g)∧Hid (wr.ownsRow w.heap.size 9 1 (.slice A k c) k ((rdK s1 k).1.map Value.string))) (fun _ i _=>n - (intOf i).toNat)
 case atStart=>exact⟨0,none,0,rfl,by omega,rfl,h0,hid (World.ownsRow_nil _ _ _ _)⟩
 case round=>
  obtain⟨k,A,c,rfl,hk,rfl,HH,HR⟩:=hrel;by_cases hlt:k<n
  ·have d1:decide ((k:Int)<(n:Int))=true:=decide_eq_true (by omega);have HT:=hid (dr g (rdK s1 k).2 32 wr HH.out.1 (by omega));go_wp2_with fail;refine HT.out.mono ?_;rintro e w5 ⟨rfl,hs5,ho5⟩;obtain⟨sx,hsx⟩: ∃sx:ByteArray,sx=⟨(am 32 (rdK s1 k).2).1.toArray⟩:=⟨_,rfl⟩;rw[←hsx];have hw5:au w w5 g:=HH.out.2.trans ho5;have hlo: ∀q,(Value.slice A k c).ownBlock=some q→w.heap.size≤q∧q<wr.heap.size:=fun q hq=>World.ownsRow.lt HR.out q hq;have hg5:=HG.out
   have hrow: ∀X:Obj,(w5.alloc X).ownsRow w.heap.size 9 1 (.slice A k c) k ((rdK s1 k).1.map Value.string):=fun X=>aM HR.out fun q hq=>by
    have:=hlo q hq;exact(Below.heap_alloc w5 _ _ (by have:=ho5.size;omega)).trans (ho5.block q this.2 (by rintro⟨⟩;omega))
   have HX5:Hid (aN w5 g (rdK s1 (k+1)).2∧au w w5 g∧ ∀q,(Value.slice A k c).ownBlock=some q→w.heap.size≤q):=hid ⟨hs5,hw5,fun q hq=>(hlo q hq).1⟩;have HSX:=hid hsx;have HROW:=hid hrow;have hsz5:=hw5.size;have hkn:k≤8:=by omega
   clear hs5 ho5 hw5 hlo hsx HT hrow;go_wp2_with(at_builtin;refine wpList_append_own _ rfl _ _ 41 rfl w.heap.size 9 i0 (.string ⟨#[]⟩) 1 16 Tryz.underlying41 hi hz0 hz1 hz2 rfl (by decide) _ k _ rfl (HROW.out _) ⟨w5.heap.size,0,none⟩ 1 1 [.string sx] rfl rfl (cell_one_new _ _ _) (by simp[Value.oneCell']) (by unfold maxLen;omega) (by omega) (by simp;omega) ?_;intro v6 w6 hown6 hg6 hnil6;obtain⟨A6,c6,rfl⟩:=uY hown6;have HX6:Hid (aN w6 g (rdK s1 (k+1)).2∧au w w6 g):=hid ⟨HX5.out.1.of ((hg6.block g (by simp;omega) (fun e=>by have:=HX5.out.2.2 g e.symm;omega)).trans (Below.heap_alloc w5 _ g (by omega))),⟨hg6.os.trans HX5.out.2.1.os,hg6.tape.trans HX5.out.2.1.tape,hg6.output.trans HX5.out.2.1.output,Nat.le_trans hsz5 (Nat.le_trans (by simp) hg6.size),fun q hq hne=>(hg6.block q (by simp;omega) (fun e=>by have:=HX5.out.2.2 q e.symm;omega)).trans ((Below.heap_alloc w5 _ q (by omega)).trans (HX5.out.2.1.block q hq hne))⟩⟩;have HR6:=hid hown6;clear hown6 hg6 hnil6);try go_wp2_with fail
   go_roundw
   case rel=>exact⟨k+1,A6,c6,by go_num,by omega,rfl,HX6,hid (by have h9:=HR6.out;rw[HSX.out]at h9;unfold rdK;rw[List.map_append];exact h9)⟩
   case measure=>simp[intOf];omega
  ·have hke:k=n:=by omega
   have d1:decide ((k:Int)<(n:Int))=false:=decide_eq_false (by omega);have HE:Hid (bj st=rdK s1 k):=hid (by unfold bj;rw[←HS1.out,←HN.out,hke]);clear hke;go_wp2_with fail;go_ret;rw[HE.out,kE];exact⟨A,c,rfl,HR.out,HH.out.1,HH.out.2⟩
theorem nD (st:Option (List UInt8)): ∀k,∀x∈(rdK st k).1,x.size≤140737488351232
  |0,x,hx=>by simp[rdK]at hx
  |k+1,x,hx=>by
    simp only[rdK,List.mem_append,List.mem_singleton]at hx;rcases hx with hx|rfl
    · exact nD st k x hx
    · have:=bD 32 (rdK st k).2 (by omega)
      show(am 32 (rdK st k).2).1.toArray.size≤_;simp only[List.size_toArray];have h2:(am 32 (rdK st k).2).1.length≤32:=this;omega
theorem qK (st:Option (List UInt8)):(bj st).1.length≤8:=by
  unfold bj;rw[kE];exact aZ 8 st (by omega)
def ap :VT:= .mk 0 0 ⟨#[]⟩ [] []
theorem jF {k:Int}(h0:0≤k)(h:k<256):Rng k:=by unfold Rng;omega
theorem qP {w:World}{B:Nat}{A:Option Addr}{c:Nat}{l:List ByteArray}(h:w.ownsRow B 9 1 (.slice A l.length c) l.length (l.map Value.string))(hs: ∀s∈l,s.size≤140737488351232):l.length≤c∧aD w (fun b=>B≤b∧b<w.heap.size) A l:=by
  obtain⟨A',c',e,h1,h2⟩:=yD.opens (v:= .slice A l.length c) h hs;injection e with e1 e2 e3
  subst e1 e3;exact⟨h1,h2⟩
theorem iZ (n:Int):(am n none).2=none:=by
  have h:ae n none=(0,none):=by unfold ae;split<;>rfl
  unfold am;rw[h];rfl
theorem kl {st:Option (List UInt8)}{k:Nat}(h:(rdK st k).2=none): ∀m,k≤m→(rdK st m).2=none
  |0,hm=>by obtain rfl:k=0:=by omega
            exact h
  |m+1,hm=>by
    by_cases hk:k=m+1
    · rw[←hk];exact h
    · have h1:=kl h m (by omega)
      show(am 32 (rdK st m).2).2=none;rw[h1];exact iZ 32
theorem ug :ak none=(0,none):=rfl
theorem kP :(bj none).2=none:=by
  unfold bj;have h:ae 8 none=(0,none):=by unfold ae;split<;>rfl
  rw[h];rfl
theorem p8 :(aQ none).2=none:=rfl
end Go.Proofs.YtgfidiocmiolpaaGreat
