/- What strings.ContainsAny tells of any bytes and two letters. -/
import Derived.Test.YtgfidiocmiolpaaGreatKMath
import Derived.Test.YtgfidiocmiolpaaGreatKFive
import Derived.Test.YtgfidiocmiolpaaGreatKValM
import Derived.Test.YtgfidiocmiolpaaGreatKShelf
import Derived.Test.YtgfidiocmiolpaaGreatKEnE
import Derived.Test.YtgfidiocmiolpaaGreatKDlN
import Derived.Test.YtgfidiocmiolpaaGreatKLook
import Derived.Test.YtgfidiocmiolpaaGreatKCpA
import Derived.Laws.RangeAny
import Derived.WalkMore
import Derived.BigQuiet
import Derived.Deep.OwnRows
set_option maxHeartbeats 64000000
set_option maxRecDepth 100000
set_option linter.unusedVariables false
set_option linter.unusedSimpArgs false
namespace Go.Proofs.YtgfidiocmiolpaaGreat
open Lib (hid)
open Go.RowKit
theorem oo (s:ByteArray)(k:Nat)(h:k<s.size)(ha:128≤(s[k]'h).toNat): ∀j,j<(Utf8.decode s k).2→ ∃h':k+j<s.size,128≤(s[k+j]'h').toNat:=by
 intro j hj;have g: ∀i (h:i<s.size),s.get! i=s[i]:=fun i h=>by simp[ByteArray.get!,getElem!_pos,h];rfl
 have c: ∀n,(decide (k+n<s.size) && (s.get! (k+n)).toNat / 64 == 2)=true→ ∃h':k+n<s.size,128≤(s[k+n]'h').toNat:=fun n hn=>by
  simp only[Bool.and_eq_true,decide_eq_true_eq,beq_iff_eq]at hn;refine⟨hn.1,?_⟩;rw[←g _ hn.1];omega
 rcases Nat.eq_zero_or_pos j with rfl|hp
 ·exact⟨h,ha⟩
 have g0:=g k h;simp only[Utf8.decode,Nat.add_zero,g0]at hj;rw[if_neg (by omega)]at hj
 split at hj
 ·next hc=>
  rw[Bool.and_eq_true]at hc
  split at hj
  ·obtain rfl:j=1:=by simp only at hj;omega
   exact c 1 hc.2
  ·simp only at hj;omega
 split at hj
 ·next hc=>
  rw[Bool.and_eq_true,Bool.and_eq_true]at hc
  split at hj
  ·simp only at hj;obtain rfl|rfl:j=1∨j=2:=by omega
   ·exact c 1 hc.1.2
   ·exact c 2 hc.2
  ·simp only at hj;omega
 split at hj
 ·next hc=>
  rw[Bool.and_eq_true,Bool.and_eq_true,Bool.and_eq_true]at hc
  split at hj
  ·simp only at hj;obtain rfl|rfl|rfl:j=1∨j=2∨j=3:=by omega
   ·exact c 1 hc.1.1.2
   ·exact c 2 hc.1.2
   ·exact c 3 hc.2
  ·simp only at hj;omega
 ·simp only at hj;omega
def jM (l:List UInt8):Bool:=l.any fun b=>decide (b=36) || decide (b=0)
theorem vn (b:UInt8)(l cs:List UInt8):Lib.indexAny (b::l) cs=if cs.contains b=true then 0 else if(Lib.indexAny l cs == -1)=true then -1 else Lib.indexAny l cs+1:=by
 conv=>lhs;unfold Lib.indexAny
theorem lU : ∀l:List UInt8,decide (0≤Lib.indexAny l [36,0])=jM l
 | []=>rfl
 |b::l=>by
  have ih:=lU l;have hg:=Lib.indexAny_ge [36,0] l
  have hc:([36,0]:List UInt8).contains b=(decide (b=36) || decide (b=0)):=by
   by_cases h1:b=36<;>by_cases h2:b=0<;>simp[List.contains_eq_mem,h1,h2]
  unfold jM at ih ⊢;rw[List.any_cons,←ih,←hc,vn];by_cases h:([36,0]:List UInt8).contains b=true
  ·rw[if_pos h,h];rfl
  ·rw[if_neg h];rw[Bool.not_eq_true]at h;rw[h,Bool.false_or];generalize Lib.indexAny l [36,0]=z at hg;by_cases h2:z= -1
   ·subst h2;rfl
   ·rw[if_neg (by simpa using h2)];exact decide_eq_decide.2 (by omega)
theorem qo {r:Int}(h1:128≤r): ∃n:Nat,(Utf8.encode r).size=n∧2≤n∧n≤4∧ ∀(h:1<(Utf8.encode r).size),n=2→128≤((Utf8.encode r)[1]'h).toNat:=by
 obtain⟨c,hc⟩: ∃c,c=(if Utf8.valid r=true then r.toNat else Utf8.runeError):=⟨_,rfl⟩
 have hc1:128≤c:=by
  rw[hc]
  split
  ·omega
  ·decide
 have e:Utf8.encode r=if c<0x80 then⟨#[UInt8.ofNat c]⟩else if c<0x800 then⟨#[UInt8.ofNat (0xC0+c / 64),UInt8.ofNat (0x80+c % 64)]⟩
   else if c<0x10000 then⟨#[UInt8.ofNat (0xE0+c / 4096),UInt8.ofNat (0x80+c / 64 % 64),UInt8.ofNat (0x80+c % 64)]⟩
   else⟨#[UInt8.ofNat (0xF0+c / 262144),UInt8.ofNat (0x80+c / 4096 % 64),UInt8.ofNat (0x80+c / 64 % 64),UInt8.ofNat (0x80+c % 64)]⟩:=by
  rw[hc];rfl
 rw[if_neg (by omega)]at e
 split at e
 ·refine⟨2,by rw[e];rfl,by omega,by omega,fun h _=> ?_⟩
  have:(Utf8.encode r)[1]'h=UInt8.ofNat (0x80+c % 64):=by
   have key: ∀(x:ByteArray) (h:1<x.size),x=⟨#[UInt8.ofNat (0xC0+c / 64),UInt8.ofNat (0x80+c % 64)]⟩→x[1]'h=UInt8.ofNat (0x80+c % 64):=fun x h hx=>by subst hx;rfl
   exact key _ h e
  rw[this,UInt8.toNat_ofNat'];have:=Nat.mod_lt c (show 64>0 by decide);rw[Nat.mod_eq_of_lt (by omega)];omega
 split at e
 ·exact⟨3,by rw[e];rfl,by omega,by omega,fun h hn=>by omega⟩
 ·exact⟨4,by rw[e];rfl,by omega,by omega,fun h hn=>by omega⟩
theorem pp (r:Int)(w:World)(h:128≤r)(h2:r≤2147483647):Calls Tryz.prog 165 #[.string ⟨#[36,0]⟩,.int .i32 r] w fun e w'=>e= .returned (.int .i64 (-1))∧Below w.heap.size w w':=by
 have d1: ¬(r<128):=by omega
 have d0:(0:Int)≤r:=by omega
 by_cases he:r=65533
 ·subst he;clear h h2 d1 d0;go_enter Tryz.func165,Tryz.ntmps165;go_wp2_with fail
  go_loopw [5,6] (fun _ _ wx=> ∃i:Nat,i≤2∧wx=w.iter ⟨#[36,0]⟩ i) (fun _ _ wx=>2 - wx.iterPos w.heap.size)
  case atStart=>exact⟨0,by omega,rfl⟩
  case round=>
   obtain⟨i,hi,rfl⟩:=hrel;by_cases h2:i=2
   ·subst h2;have hnx: ∀ty,(Instr.next (.pointer (some ⟨w.heap.size,0,none⟩)) true ty).run Tryz.prog (w.iter ⟨#[36,0]⟩ 2)=_:=fun ty=>run_next_end w ⟨#[36,0]⟩ 2 ty (by decide);go_wp2_with fail;go_ret;exact⟨rfl,pF _ _ _⟩
   ·have hb: ∃x:UInt8,∃hl:i<(⟨#[36,0]⟩:ByteArray).size,(⟨#[36,0]⟩:ByteArray)[i]'hl=x∧x.toNat<128:=by
     obtain rfl|rfl:i=0∨i=1:=by omega
     ·exact⟨36,by decide,rfl,by decide⟩
     ·exact⟨0,by decide,rfl,by decide⟩
    obtain⟨x,hl,hx,hx1⟩:=hb;have hnx: ∀ty,(Instr.next (.pointer (some ⟨w.heap.size,0,none⟩)) true ty).run Tryz.prog (w.iter ⟨#[36,0]⟩ i)=_:=fun ty=>run_next_ascii w ⟨#[36,0]⟩ i ty hl (by rw[hx];exact hx1);rw[hx]at hnx;have hne:((x.toNat:Int) == 65533)=false:=beq_eq_false_iff_ne.2 (by omega);clear hx hl;go_wp2_with fail
    go_roundw
    case rel=>exact⟨i+1,by omega,rfl⟩
    case measure=>simp;omega
 ·have he':(r == 65533)=false:=beq_eq_false_iff_ne.2 he;have HV:=hid (fun W=>Tryz.utf8_ValidRune r W);obtain⟨b,hb⟩: ∃b,Lib.validRune r=b:=⟨_,rfl⟩;rw[hb]at HV;clear hb he;obtain⟨n,hn,n2,n4,hq⟩:=qo (r:=r) h;obtain⟨rs,hrs⟩: ∃rs,rs=Utf8.encode r:=⟨_,rfl⟩;rw[←hrs]at hn hq;have hcv: ∀W,(convert 21 9 (.int .i32 r)).run Tryz.prog W= .ok (.string rs) W:=fun W=>by rw[hrs];exact run_convert_int_string W 21 9 .i32 r (by kernel_rfl) Tryz.underlying9
  clear hrs;go_enter Tryz.func165,Tryz.ntmps165;go_wp2_with fail;refine(HV.out _).mono ?_;rintro e w' ⟨rfl,rfl⟩;cases b
  ·go_wp2_with fail;go_ret;exact⟨rfl,Below.refl _ _⟩
  ·go_wp2_with fail
   go_step3
   go_wp2_with fail;rename_i K HK;have HKK:=hid HK;clear HK
   go_loopw [9] (fun v wr=>v= .int .i64 ((n:Int) - 1)∧wr=w') (fun _ _=>0)
   case atStart=>exact⟨rfl,rfl⟩
   case round=>
    obtain⟨rfl,rfl⟩:=hrel;by_cases hn2:n=2
    ·subst hn2;have hq1:=hq (by omega) rfl
     have hix:((((⟨#[36,0]⟩:ByteArray)[1]'(by decide)).toNat:Int) != ((rs[1]'(by omega)).toNat:Int))=true:=by
      have h0:(((⟨#[36,0]⟩:ByteArray)[1]'(by decide)).toNat:Int)=0:=rfl;rw[h0];exact bne_iff_ne.2 (by omega)
     have hl1:(1:Nat)<rs.size:=by omega
     go_wp2_with fail
     go_step3
     go_wp2_with fail
     go_quiet (fail)
     clear HKK;go_wp2_with fail;have hw2:IntKind.i64.wrap 2=2:=by decide
     have hsl: ∀W,(Instr.slice 9 (.string ⟨#[36,0]⟩) (some (.int .i64 2)) none none).run Tryz.prog W= .ok (.string ⟨#[]⟩) W:=fun W=>by kernel_rfl
     have hsl': ∀W,(Instr.slice 9 (.string ⟨#[36,0]⟩) (some (.int .i64 (IntKind.i64.wrap 2))) none none).run Tryz.prog W= .ok (.string ⟨#[]⟩) W:=fun W=>by rw[hw2];exact hsl W
     refine wp_region_quiet_lit (by kernel_rfl) (by kernel_rfl) ?_;repeat(go_big_quiet_step (fail))
     refine wpQuiet_step (fun K hK=> ?_)
     go_simp
     refine⟨_,fun a=>(Tryz.strings_IndexByte _ _ _).mono fun e w' h=>⟨h.1,a,h.2⟩,hK _ ?_⟩;clear hK K;repeat(go_big_quiet_step (fail))
     refine wpQuiet_nil ?_;intro _ hw';obtain⟨nr,hw''⟩:=hw';subst hw'';have hz: ∀b,Lib.indexByte (⟨#[]⟩:ByteArray).data.toList b= -1:=fun b=>rfl;simp only[hz];go_wp2_with fail;rw[Exit.noGoto_ret];go_ret;exact⟨rfl,du (Below.refl _ _) _⟩
    ·have hd: ¬((n:Int) - 1<2):=by omega
     go_wp2_with fail;refine HKK.out _ _ ?_;clear HKK;go_wp2_with fail;rw[Exit.noGoto_ret];go_ret;exact⟨rfl,Below.refl _ _⟩
def NoB (s:ByteArray)(k:Nat):Prop:= ∀j (h:j<s.size),j<k→s[j]≠36∧s[j]≠0
theorem ld {s:ByteArray}(h:NoB s s.size):jM s.data.toList=false:=by
 unfold jM;refine List.any_eq_false.2 fun b hb=> ?_;obtain⟨j,hj,rfl⟩:=List.getElem_of_mem hb;have hj':j<s.size:=by simpa using hj
 have h1:=h j hj' hj';have e:s.data.toList[j]=s[j]:=rfl;rw[e];simp[h1.1,h1.2]
theorem jj {s:ByteArray}{k:Nat}(hk:k<s.size)(h:s[k]=36∨s[k]=0):jM s.data.toList=true:=by
 unfold jM;refine List.any_eq_true.2 ⟨s[k],?_,?_⟩
 ·have e:s.data.toList[k]'(by simpa using hk)=s[k]:=rfl;rw[←e];exact List.getElem_mem _
 ·rcases h with h|h<;>simp[h]
theorem vK (x:UInt8):decide (0≤Lib.indexByte ([36,0]:List UInt8) x)=(decide (x=36) || decide (x=0)):=by
 rw[←Lib.contains_iff_indexByte];by_cases h1:x=36<;>by_cases h2:x=0<;>simp[List.contains_eq_mem,h1,h2]
theorem nC (s:ByteArray)(w:World)(hs:s.size≤8):Calls Tryz.prog 144 #[.string s,.string ⟨#[36,0]⟩] w fun e w'=>(∃i:Int,e= .returned (.int .i64 i)∧decide (0≤i)=jM s.data.toList)∧Below w.heap.size w w':=by
 have HU:=hid (fun W=>Tryz.strings_shouldUseASCIISet (s.size:Int) W);have h8:decide ((8:Int)<(s.size:Int))=false:=decide_eq_false (by omega);rw[h8]at HU;have HS:=hid hs;clear h8 hs;go_enter Tryz.func144,Tryz.ntmps144;go_wp2_with fail;refine(HU.out _).mono ?_;rintro e w' ⟨rfl,hw⟩;subst hw;clear HU;go_wp2_with fail
 go_loopw [9,10] (fun _ _ wr=> ∃k:Nat,k≤s.size∧wr.heap[w'.heap.size]? =some (.stringIter s k)∧Hid (Below w'.heap.size w' wr)∧Hid (NoB s k)) (fun _ _ wr=>s.size - wr.iterPos w'.heap.size)
 case atStart=>exact⟨0,by omega,World.iter_heap _ _ _,(Below.refl _ _).alloc (Nat.le_refl _) _,fun j _ h=>absurd h (by omega)⟩
 case round=>
  obtain⟨k,hk,hit,HB,HN⟩:=hrel;by_cases hp:k<s.size
  ·have hnx: ∀ty,(Instr.next (.pointer (some ⟨w'.heap.size,0,none⟩)) true ty).run Tryz.prog wr=_:=fun ty=>Lib.run_next_any_at wr w'.heap.size s k ty hit hp;by_cases ha:s[k].toNat<128
   ·rw[decode_ascii s k hp ha]at hnx;have hit2:=Lib.iterAt_heap wr w'.heap.size s k (k+1) hit;have HB2:=hid (Lib.below_iterAt HB.out (k:=w'.heap.size) (Nat.le_refl _) s (k+1));obtain⟨W,hW⟩: ∃W,W=wr.iterAt w'.heap.size s (k+1):=⟨_,rfl⟩;rw[←hW]at hnx hit2 HB2;obtain⟨x,hx⟩: ∃x,x=s[k]:=⟨_,rfl⟩;rw[←hx]at hnx ha;have HC:=hid (Tryz.strings_IndexRune_ascii ⟨#[36,0]⟩ (x.toNat:Int) W (by omega) (by omega));have hbk:((x.toNat:Int)).toNat.toUInt8=x:=by simp
    rw[hbk,show(⟨#[36,0]⟩:ByteArray).data.toList= [36,0] from rfl]at HC;obtain⟨z,hz⟩: ∃z,z=Lib.indexByte ([36,0]:List UInt8) x:=⟨_,rfl⟩;rw[←hz]at HC;have HZ:Hid (decide (0≤z)=(decide (x=36) || decide (x=0))):=hid (by rw[hz];exact vK x);have HX:=hid hx;have HIT:=hid hit;have HIT2:=hid hit2;clear hW HB hit hz hbk hx hit2;by_cases h0:0≤z
    ·go_wp2_with fail;refine HC.out.mono ?_;rintro e w2 ⟨rfl,hw⟩;subst hw;go_wp2_with fail;go_ret;refine⟨⟨_,rfl,?_⟩,HB2.out⟩;rw[jj hp (by have:=HZ.out;rw[decide_eq_true h0]at this;rw[←HX.out];simpa using this.symm)];exact decide_eq_true (by omega)
    ·go_wp2_with fail;refine HC.out.mono ?_;rintro e w2 ⟨rfl,hw⟩;subst hw;go_wp2_with fail
     go_roundw
     case rel=>exact⟨k+1,by omega,HIT2.out,HB2,fun j hj hjk=>by
      by_cases e:j=k
      ·subst e;have:=HZ.out;rw[decide_eq_false (by omega)]at this;rw[←HX.out];simpa using this.symm
      ·exact HN.out j hj (by omega)⟩
     case measure=>
      have e1: ∀(V:World) q,V.heap[w'.heap.size]? =some (.stringIter s q)→V.iterPos w'.heap.size=q:=fun V q h=>by unfold World.iterPos;rw[h]
      rw[e1 _ _ HIT2.out,e1 _ _ HIT.out];omega
   ·have hd:=decode_high s k hp (by omega);have HSK:=hid (oo s k hp (by omega));have hle:=decode_le s k;obtain⟨r,hr⟩: ∃r,r=(Utf8.decode s k).1:=⟨_,rfl⟩;obtain⟨m,hm⟩: ∃m,m=(Utf8.decode s k).2:=⟨_,rfl⟩;rw[←hr,←hm]at hnx hd;rw[←hr]at hle;rw[←hm]at HSK;have hit2:=Lib.iterAt_heap wr w'.heap.size s k (k+m) hit;have HB2:=hid (Lib.below_iterAt HB.out (k:=w'.heap.size) (Nat.le_refl _) s (k+m));obtain⟨W,hW⟩: ∃W,W=wr.iterAt w'.heap.size s (k+m):=⟨_,rfl⟩;rw[←hW]at hnx hit2 HB2;have HC:=hid (pp (r:Int) W (by omega) (by omega));have HD:=hid hd;have HIT:=hid hit;have HIT2:=hid hit2;clear hW HB hit hr hm hd hle hit2;go_wp2_with fail;refine HC.out.mono ?_;rintro e w2 ⟨rfl,hb⟩;have HIT3:Hid (w2.heap[w'.heap.size]? =some (.stringIter s (k+m))):=hid ((hb.block _ (Array.getElem?_eq_some_iff.1 HIT2.out).1).trans HIT2.out);have HB3:=hid (HB2.out.trans (hb.mono HB2.out.size));clear hb;go_wp2_with fail
    go_roundw
    case rel=>exact⟨k+m,by
     have h1:=HD.out.2;obtain⟨h2,-⟩:=HSK.out (m - 1) (by omega)
     omega,HIT3.out,HB3,fun j hj hjk=>by
      by_cases e:j<k
      ·exact HN.out j hj e
      ·obtain⟨h2,h3⟩:=HSK.out (j - k) (by omega);have e2:s[j]=s[k+(j - k)]:=by congr 1;omega
       rw[e2]
       refine⟨fun e=> ?_,fun e=> ?_⟩<;>rw[e]at h3<;>exact absurd h3 (by decide)⟩
    case measure=>
     have e1: ∀(V:World) q,V.heap[w'.heap.size]? =some (.stringIter s q)→V.iterPos w'.heap.size=q:=fun V q h=>by unfold World.iterPos;rw[h]
     rw[e1 _ _ HIT3.out,e1 _ _ HIT.out];have:=HD.out.2;omega
  ·have hnx: ∀ty,(Instr.next (.pointer (some ⟨w'.heap.size,0,none⟩)) true ty).run Tryz.prog wr=_:=fun ty=>Lib.run_next_end_at wr w'.heap.size s k ty hit hp;have HE:Hid (k=s.size):=hid (by omega);clear hp;go_wp2_with fail;go_ret;exact⟨⟨_,rfl,by rw[ld (HE.out▸HN.out)];rfl⟩,HB.out⟩
theorem po (s:ByteArray)(w:World)(hs:s.size≤32):Calls Tryz.prog 130 #[.string s,.string ⟨#[36,0]⟩] w fun e w'=>e= .returned (.bool (jM s.data.toList))∧Below w.heap.size w w':=by
 have HI:Hid (Calls Tryz.prog 144 #[.string s,.string ⟨#[36,0]⟩] w fun e w'=>(∃i:Int,e= .returned (.int .i64 i)∧decide (0≤i)=jM s.data.toList)∧Below w.heap.size w w'):=hid (by
  by_cases h8:s.size≤8
  ·exact nC s w h8
  ·refine(Tryz.strings_IndexAny_long (fun w=>by kernel_rfl) s ⟨#[36,0]⟩ w (by decide) (by omega) (by omega) (by decide) (fun j b hb=> ?_)).mono fun e w' h=>⟨⟨_,h.1,lU _⟩,by rw[h.2];exact((Below.refl _ _).alloc (Nat.le_refl _) _).alloc (by simp) _⟩
   match j,hb with
   |0,hb=>injection hb with hb;subst hb;decide
   |1,hb=>injection hb with hb;subst hb;decide
   |j+2,hb=>simp at hb)
 clear hs;go_enter Tryz.func130,Tryz.ntmps130;go_wp2_with fail;refine HI.out.mono ?_;rintro e w' ⟨⟨i,rfl,hi⟩,hb⟩;have HJ:=hid (And.intro hi hb);clear hi hb HI;go_wp2_with fail;go_ret;exact⟨by rw[←HJ.out.1];rfl,HJ.out.2⟩
theorem mz (s:ByteArray):bn s=(decide (1≤s.size) && decide (s.size≤32) && !jM s.data.toList):=by
 unfold bn jM
 congr 1
 induction s.data.toList with
 |nil=>rfl
 |cons b l ih=>
  rw[List.all_cons,List.any_cons,ih];by_cases h1:b=36<;>by_cases h2:b=0<;>simp[h1,h2]
def dP (k:Int):Int:=if k=2 then 13 else if k=3 then 21 else if k=4 then 5 else if k=5∨k=6 then 1 else if k=7 then 3 else 0
def cE (k:Int):Bool:=decide (1≤k) && decide (k≤7)
theorem iL {k:Int}(h1:1≤k)(h7:k≤7):k=1∨k=2∨k=3∨k=4∨k=5∨k=6∨k=7:=by omega
theorem mH {k:Int}(h: ¬(1≤k∧k≤7)):dP k=0:=by
 unfold dP;rw[if_neg (by omega),if_neg (by omega),if_neg (by omega),if_neg (by omega),if_neg (by omega)]
theorem sN {k:Int}(h: ¬(1≤k∧k≤7)):cE k=false:=by
 unfold cE;by_cases h1:1≤k
 ·rw[decide_eq_true h1,decide_eq_false (by omega)];rfl
 ·rw[decide_eq_false h1];rfl
theorem mN (s:ByteArray)(w:World):Calls Tryz.prog 115 #[.string s] w fun e w'=>e= .returned (.bool (bn s))∧Below w.heap.size w w':=by
 have HR:=hid (mz s);obtain⟨r,hr⟩: ∃r,r=bn s:=⟨_,rfl⟩;rw[←hr]at HR ⊢;clear hr;by_cases h0:s.size=0
 ·have e0:s.toList= []:=bj.2 h0;go_enter Tryz.func115,Tryz.ntmps115;go_wp2_with fail;go_ret;exact⟨by rw[HR.out,h0];rfl,Below.refl _ _⟩
 ·have hne:s.toList≠[]:=fun h=>h0 (bj.1 h);have e1:s.toList.isEmpty=false:=by rw[←Bool.not_eq_true,bR];exact h0
  by_cases h32:s.size≤32
  ·have d1:decide ((s.size:Int)≤32)=true:=decide_eq_true (by omega);have HC:=hid (fun W=>po s W h32);have HE:Hid (r= !jM s.data.toList):=hid (by rw[HR.out,decide_eq_true (by omega),decide_eq_true h32];rfl);have hi:(s.size:Int)≤32:=by omega
   clear h0 h32 HR;go_enter Tryz.func115,Tryz.ntmps115;go_wp2_with fail;refine(HC.out _).mono ?_;rintro e w1 ⟨rfl,hb⟩;have HB:=hid hb;clear hb HC;go_wp2_with fail;go_ret;exact⟨by rw[HE.out];rfl,HB.out⟩
  ·have d1:decide ((s.size:Int)≤32)=false:=decide_eq_false (by omega);have hi:(32:Int)<(s.size:Int):=by omega
   have HE:Hid (r=false):=hid (by rw[HR.out,decide_eq_false h32,Bool.and_false,Bool.false_and]);clear h0 h32 HR;go_enter Tryz.func115,Tryz.ntmps115;go_wp2_with fail;go_ret;exact⟨by rw[HE.out];rfl,Below.refl _ _⟩
theorem oW (s:ByteArray)(w:World)(hs:s.size≤140737488351232):Calls Tryz.prog 52 #[.string s] w fun e w'=>e= .returned (.bool (bn s))∧w'=w:=by
 have HR:=hid (mz s);obtain⟨r,hr⟩: ∃r,r=bn s:=⟨_,rfl⟩;rw[←hr]at HR ⊢;have HS:=hid hs;clear hr hs;go_enter Tryz.func52,Tryz.ntmps52;go_wp2_with fail
 go_loopw [3] (fun v wr=> ∃k:Nat,v= .int .i64 k∧k≤s.size∧wr=w∧Hid (NoB s k)) (fun v _=>s.size - (intOf v).toNat)
 case atStart=>exact⟨0,rfl,by omega,rfl,fun j _ h=>absurd h (by omega)⟩
 case round=>
  obtain⟨k,rfl,hk,rfl,HN⟩:=hrel;by_cases hp:k<s.size
  ·have hpz:(k:Int)<(s.size:Int):=by omega
   obtain⟨x,hx⟩: ∃x,x=s[k]:=⟨_,rfl⟩;have HX:=hid hx;by_cases h36:x=36
   ·have e1:(s[k].toNat:Int)=36:=by rw[←hx,h36];rfl
    have HE:Hid (r=false):=hid (by rw[HR.out,jj hp (.inl (by rw[←hx];exact h36))];simp);clear hx h36;go_wp2_with fail;go_ret;exact⟨by rw[HE.out];rfl,rfl⟩
   ·have e1:((s[k].toNat:Int) == 36)=false:=beq_eq_false_iff_ne.2 fun h=>h36 (by
     rw[hx];apply UInt8.toNat_inj.1;have:s[k].toNat=36:=by omega
     rw[this];rfl)
    by_cases h0:x=0
    ·have e2:(s[k].toNat:Int)=0:=by rw[←hx,h0];rfl
     have HE:Hid (r=false):=hid (by rw[HR.out,jj hp (.inr (by rw[←hx];exact h0))];simp);clear hx h36 h0;go_wp2_with fail;go_ret;exact⟨by rw[HE.out];rfl,rfl⟩
    ·have e2:((s[k].toNat:Int) == 0)=false:=beq_eq_false_iff_ne.2 fun h=>h0 (by
      rw[hx];apply UInt8.toNat_inj.1;have:s[k].toNat=0:=by omega
      rw[this];rfl)
     have HXX:=hid (And.intro h36 h0);have hsz:=HS.out;clear hx h36 h0;go_wp2_with fail
     go_roundw
     case rel=>exact⟨k+1,by go_num,by omega,by first|rfl|trivial,fun j hj hjk=>by
      by_cases e:j=k
      ·subst e;rw[←HX.out];exact HXX.out
      ·exact HN.out j hj (by omega)⟩
     case measure=>simp[intOf];omega
  ·have hpz: ¬((k:Int)<(s.size:Int)):=by omega
   have HA:Hid (r=(decide (1≤s.size) && decide (s.size≤32))):=hid (by
    have hk2:k=s.size:=by omega
    rw[HR.out,ld (hk2▸HN.out)];simp)
   have d0:decide ((1:Int)≤(s.size:Int))=decide (1≤s.size):=decide_eq_decide.2 (by omega);have d1:decide ((s.size:Int)≤32)=decide (s.size≤32):=decide_eq_decide.2 (by omega);by_cases h1:1≤s.size
   ·go_wp2_with fail;go_ret;exact⟨by rw[HA.out,decide_eq_true h1];simp,rfl⟩
   ·go_wp2_with fail;go_ret;exact⟨by rw[HA.out,decide_eq_false h1];rfl,rfl⟩
theorem fU (n m:Int)(w:World):Calls Tryz.prog 112 #[.int .i64 n,.int .i64 m] w fun e w'=>e= .returned (.bool (decide (0≤n) && decide (n≤m)))∧w'=w:=by
 by_cases h:0≤n
 ·go_enter Tryz.func112,Tryz.ntmps112;go_wp2_with fail;go_ret;exact⟨by simp[h],rfl⟩
 ·have h':n<0:=by omega
  go_enter Tryz.func112,Tryz.ntmps112;go_wp2_with fail;go_ret;exact⟨by rw[decide_eq_false (by omega)];rfl,rfl⟩
theorem jr (k:Int)(w:World):Calls Tryz.prog 84 #[.int .i64 k] w fun e w'=>e= .returned (.tuple #[.int .i64 (dP k),.bool (cE k)])∧w'=w:=by
 by_cases hk:1≤k∧k≤7
 ·rcases iL hk.1 hk.2 with rfl|rfl|rfl|rfl|rfl|rfl|rfl
  all_goals
   clear hk;go_enter Tryz.func84,Tryz.ntmps84;go_wp2_with fail
   go_ret2
   exact⟨rfl,rfl⟩
 ·rw[mH hk,sN hk];have n1:(k == 1)=false:=beq_eq_false_iff_ne.2 (by omega);have n2:(k == 2)=false:=beq_eq_false_iff_ne.2 (by omega);have n3:(k == 3)=false:=beq_eq_false_iff_ne.2 (by omega);have n4:(k == 4)=false:=beq_eq_false_iff_ne.2 (by omega);have n5:(k == 5)=false:=beq_eq_false_iff_ne.2 (by omega);have n6:(k == 6)=false:=beq_eq_false_iff_ne.2 (by omega);have n7:(k == 7)=false:=beq_eq_false_iff_ne.2 (by omega);clear hk;go_enter Tryz.func84,Tryz.ntmps84;go_wp2_with fail
  go_ret2
  exact⟨rfl,rfl⟩
theorem iC {fn:Func}{a b c d e:Tmp}(h:fn.results= #[.tmp a,.tmp b,.tmp c,.tmp d,.tmp e])(tmps:Array Value)(P:Program)(w:World):
  (results fn tmps).run P w= .ok (.tuple #[tmps.getD a undef,tmps.getD b undef,tmps.getD c undef,tmps.getD d undef,tmps.getD e undef]) w:=by
 simp[results,h]
theorem qK (k:Int)(w:World):Calls Tryz.prog 51 #[.int .i64 k] w fun e w'=>e= .returned (.tuple #[.bool (aP k),.bool (bW k),.bool (bY k),.bool (bt k),.bool (aW k)])∧w'=w:=by
 by_cases hk:2≤k∧k≤7
 ·rcases iL (by omega) hk.2 with rfl|rfl|rfl|rfl|rfl|rfl|rfl
  ·omega
  all_goals
   clear hk;go_enter Tryz.func51,Tryz.ntmps51;go_wp2_with fail;refine bodyPost_ret (iC rfl _ _ _) rfl ?_;exact⟨rfl,rfl⟩
 ·have h1:aP k=false:=by
   unfold aP;by_cases h2:2≤k
   ·rw[decide_eq_true h2,decide_eq_false (by omega)];rfl
   ·rw[decide_eq_false h2];rfl
  have h2:bW k=false:=by unfold bW;exact decide_eq_false (by omega)
  have h3:bY k=false:=by
   unfold bY;by_cases h2:2≤k
   ·rw[decide_eq_true h2,decide_eq_false (by omega)];rfl
   ·rw[decide_eq_false h2];rfl
  have h4:bt k=false:=by unfold bt;exact decide_eq_false (by omega)
  have h5:aW k=false:=by unfold aW;exact decide_eq_false (by omega)
  rw[h1,h2,h3,h4,h5];have n2:(k == 2)=false:=beq_eq_false_iff_ne.2 (by omega);have n3:(k == 3)=false:=beq_eq_false_iff_ne.2 (by omega);have n4:(k == 4)=false:=beq_eq_false_iff_ne.2 (by omega);have n5:(k == 5)=false:=beq_eq_false_iff_ne.2 (by omega);have n6:(k == 6)=false:=beq_eq_false_iff_ne.2 (by omega);have n7:(k == 7)=false:=beq_eq_false_iff_ne.2 (by omega);clear hk h1 h2 h3 h4 h5;go_enter Tryz.func51,Tryz.ntmps51;go_wp2_with fail;refine bodyPost_ret (iC rfl _ _ _) rfl ?_;exact⟨rfl,rfl⟩
theorem fV (l f:Nat)(hl:l=0∨l=1∨l=3∨l=5∨l=13∨l=21)(hf:f=1∨f=2∨f=4∨f=8∨f=16)(w:World):
  Calls Tryz.prog 113 #[.int .i64 (l:Int),.int .i64 (f:Int)] w fun e w'=>e= .returned (.bool (decide (Nat.land l f≠0)))∧w'=w:=by
 have hb:bits .and .i64 (l:Int) (f:Int)=((Nat.land l f:Nat):Int):=by
  rcases hl with rfl|rfl|rfl|rfl|rfl|rfl<;>rcases hf with rfl|rfl|rfl|rfl|rfl<;>decide +kernel
 obtain⟨z,hz⟩: ∃z,z=Nat.land l f:=⟨_,rfl⟩;rw[←hz]at hb ⊢;clear hl hf hz;by_cases h:z=0
 ·have hb0:bits .and .i64 (l:Int) (f:Int)=0:=by rw[hb,h];rfl
  go_enter Tryz.func113,Tryz.ntmps113;go_wp2_with fail;go_ret;exact⟨by simp[h,hb0],rfl⟩
 ·have hb0: ¬(bits .and .i64 (l:Int) (f:Int)=0):=by rw[hb];omega
  go_enter Tryz.func113,Tryz.ntmps113;go_wp2_with fail;go_ret;exact⟨by simp[h,hb0],rfl⟩
theorem eT (k:Int): ∃l:Nat,dP k=l∧(l=0∨l=1∨l=3∨l=5∨l=13∨l=21)∧aP k=decide (Nat.land l 1≠0)∧bW k=decide (Nat.land l 2≠0)∧bY k=decide (Nat.land l 4≠0)∧bt k=decide (Nat.land l 8≠0)∧aW k=decide (Nat.land l 16≠0):=by
 by_cases hk:1≤k∧k≤7
 ·rcases iL hk.1 hk.2 with rfl|rfl|rfl|rfl|rfl|rfl|rfl
  ·exact⟨0,by decide⟩
  ·exact⟨13,by decide⟩
  ·exact⟨21,by decide⟩
  ·exact⟨5,by decide⟩
  ·exact⟨1,by decide⟩
  ·exact⟨1,by decide⟩
  ·exact⟨3,by decide⟩
 ·refine⟨0,mH hk,.inl rfl,?_,?_,?_,?_,?_⟩
  ·unfold aP;by_cases h2:2≤k
   ·rw[decide_eq_true h2,decide_eq_false (by omega)];rfl
   ·rw[decide_eq_false h2];rfl
  ·unfold bW;exact decide_eq_false (by omega)
  ·unfold bY;by_cases h2:2≤k
   ·rw[decide_eq_true h2,decide_eq_false (by omega)];rfl
   ·rw[decide_eq_false h2];rfl
  ·unfold bt;exact decide_eq_false (by omega)
  ·unfold aW;exact decide_eq_false (by omega)
theorem je (k:Int)(w:World):Calls Tryz.prog 113 #[.int .i64 (dP k),.int .i64 1] w fun e w'=>e= .returned (.bool (aP k))∧w'=w:=by
 obtain⟨l,e,h,h1,h2,h3,h4,h5⟩:=eT k;rw[e,h1];exact fV l 1 h (by decide) w
theorem nd (k:Int)(w:World):Calls Tryz.prog 113 #[.int .i64 (dP k),.int .i64 2] w fun e w'=>e= .returned (.bool (bW k))∧w'=w:=by
 obtain⟨l,e,h,h1,h2,h3,h4,h5⟩:=eT k;rw[e,h2];exact fV l 2 h (by decide) w
theorem nz (k:Int)(w:World):Calls Tryz.prog 113 #[.int .i64 (dP k),.int .i64 4] w fun e w'=>e= .returned (.bool (bY k))∧w'=w:=by
 obtain⟨l,e,h,h1,h2,h3,h4,h5⟩:=eT k;rw[e,h3];exact fV l 4 h (by decide) w
theorem kA (k:Int)(w:World):Calls Tryz.prog 113 #[.int .i64 (dP k),.int .i64 8] w fun e w'=>e= .returned (.bool (bt k))∧w'=w:=by
 obtain⟨l,e,h,h1,h2,h3,h4,h5⟩:=eT k;rw[e,h4];exact fV l 8 h (by decide) w
theorem jf (k:Int)(w:World):Calls Tryz.prog 113 #[.int .i64 (dP k),.int .i64 16] w fun e w'=>e= .returned (.bool (aW k))∧w'=w:=by
 obtain⟨l,e,h,h1,h2,h3,h4,h5⟩:=eT k;rw[e,h5];exact fV l 16 h (by decide) w
theorem oJ {l:List aR}{i k:Nat}(hi:i<l.length)(hk:k<i)(h:bO l[i].path (l[k]'(by omega)).path=true):db l=false:=by
 unfold db;rw[r7 (ps:=dN l) (i:=i) (k:=k) (by simpa[dN]using hi) hk (by simpa[dN]using h)];rfl
theorem sD {l:List aR}(h: ∀i (hi:i<l.length) k (hk:k<i),bO l[i].path (l[k]'(by omega)).path=false):db l=true:=by
 unfold db
 rw[qw (ps:=dN l) fun i hi k hk=>by
  have:=h i (by simpa[dN]using hi) k hk
  simpa[dN]using this]
 rfl
theorem bk.path {w:World}{S:Nat→Prop}{A:Option Addr}{l:List aR}(h:bk w S A l)(k:Nat)(hk:k<l.length): ∃b off PA pc,A=some ⟨b,off,none⟩∧S b∧au w S PA l[k].path∧l[k].path.length≤pc∧l[k].path.length≤8796093021952∧w.cell? ⟨b,off+k * 8+1,none⟩=some (.slice PA l[k].path.length pc):=by
 obtain⟨b,off,PA,pc,VA,vc,VA',vc',hA,hb,hd,-,x1,-⟩:=h.cells k hk;obtain⟨PB,pd,VB,vd,VB',vd',e,-,q1,q2,q3,-,-,q4⟩:=hd;simp only[Array.mk.injEq,List.cons.injEq,Value.slice.injEq,and_true,true_and]at e;obtain⟨⟨rfl,rfl⟩,⟨rfl,rfl⟩,rfl,rfl⟩:=e;exact⟨b,off,PA,pc,hA,hb,q1,q2,q4,x1⟩
theorem pB (S:Nat→Prop)(A:Option Addr)(c:Nat)(l:List aR)(w:World)(hS: ∀b,S b→b<w.heap.size)(h:bk w S A l)(hn:l.length≤140737488351232):
  Calls Tryz.prog 93 #[.slice A l.length c] w fun e w'=>e= .returned (.bool (db l))∧Below w.heap.size w w':=by
 have H:=hid h;have HS:=hid hS;obtain⟨r,hr⟩: ∃r,r=db l:=⟨_,rfl⟩;have HR:=hid hr;rw[←hr];obtain⟨n,hn'⟩: ∃n,n=l.length:=⟨_,rfl⟩;have HN:=hid hn';rw[←hn']at hn ⊢;clear h hS hr hn';go_enter Tryz.func93,Tryz.ntmps93;go_wp2_with fail
 go_loopw [3,4] (fun i i4 wr=> ∃a:Nat,i= .int .i64 a∧a≤n∧Hid (Below w.heap.size w wr)∧Hid (∀i' (h:i'<l.length),i'<a→ ∀k' (hk:k'<i'),bO l[i'].path (l[k']'(by omega)).path=false)) (fun i _ _=>n - (intOf i).toNat)
 case atStart=>exact⟨0,rfl,by omega,hid (Below.refl _ _),hid fun j _ h=>absurd h (by omega)⟩
 case round=>
  obtain⟨a,rfl,ha,HB,HM⟩:=hrel;by_cases hlt:a<n
  ·have d2:decide ((a:Int)<(n:Int))=true:=decide_eq_true (by omega);have hla:a<l.length:=by have:=HN.out;omega
   go_wp2_with fail
   go_loopw [4] (fun i wq=> ∃m:Nat,i= .int .i64 m∧m≤a∧Hid (Below w.heap.size w wq)∧Hid (∀k' (hk:k'<a),k'<m→bO l[a].path (l[k']'(by omega)).path=false)) (fun i _=>a - (intOf i).toNat)
   case atStart=>exact⟨0,rfl,by omega,HB,hid fun j _ h=>absurd h (by omega)⟩
   case round=>
    obtain⟨m,rfl,hm,HB,HM2⟩:=hrel;by_cases hma:m<a
    ·have d3:decide ((m:Int)<(a:Int))=true:=decide_eq_true (by omega);have hlm:m<l.length:=by omega
     have hkS: ∀b,S b→wr.drew.heap[b]? =w.heap[b]? :=fun b hb=>HB.out.block b (HS.out b hb);have hSd: ∀b,S b→b<wr.drew.heap.size:=fun b hb=>Nat.lt_of_lt_of_le (HS.out b hb) HB.out.size;obtain⟨rb,roff,A1,c1,rfl,hrb,h1,h2,h3,hca⟩:=(H.out.below HS.out HB.out).path a hla;obtain⟨rb',roff',A2,c2,he,hrb',k1,k2,k3,hcm⟩:=(H.out.below HS.out HB.out).path m hlm;injection he with he
     injection he with he1 he2
     subst he1 he2;have h1:au wr.drew S A1 l[a].path:=h1;have k1:au wr.drew S A2 l[m].path:=k1;have HG1:=hid (gi A1 A2 c1 c2 l[a].path l[m].path wr.drew S S h1 k1 hSd hSd (by omega) (by omega))
     have HG2:Hid (∀W,Below wr.drew.heap.size wr.drew W→Calls Tryz.prog 122 #[.slice A2 l[m].path.length c2,.slice A1 l[a].path.length c1] W fun e w'=>e= .returned (.bool (dK l[m].path l[a].path))∧Below W.heap.size W w'):=hid fun W hW=>
      gi A2 A1 c2 c1 l[m].path l[a].path W S S (k1.keep fun b hb=>hW.block b (hSd b hb)) (h1.keep fun b hb=>hW.block b (hSd b hb)) (fun b hb=>Nat.lt_of_lt_of_le (hSd b hb) hW.size) (fun b hb=>Nat.lt_of_lt_of_le (hSd b hb) hW.size) (by omega) (by omega)
     have hp2:rb<wr.heap.size:=Nat.lt_of_lt_of_le (HS.out rb hrb) HB.out.size;obtain⟨na,hna⟩: ∃n,n=l[a].path.length:=⟨_,rfl⟩;obtain⟨nm,hnm⟩: ∃n,n=l[m].path.length:=⟨_,rfl⟩;obtain⟨b1,hb1⟩: ∃b,b=dK l[a].path l[m].path:=⟨_,rfl⟩;obtain⟨b2,hb2⟩: ∃b,b=dK l[m].path l[a].path:=⟨_,rfl⟩;have HMT:Hid (bO l[a].path l[m].path=(b1 || b2)):=hid (by unfold bO;rw[hb1,hb2]);rw[←hna,←hnm]at HG1 HG2;rw[←hb1]at HG1;rw[←hb2]at HG2;rw[←hna]at hca;rw[←hnm]at hcm;have hmn:m<n:=by omega
     have dl1:decide ((a:Int)<(n:Int))=true:=decide_eq_true (by omega);have dl2:decide ((m:Int)<(n:Int))=true:=decide_eq_true (by omega);clear h1 h2 h3 k1 k2 k3 hkS hSd hna hnm hb1 hb2 hrb hrb';go_wp2_with fail;refine ar [0,1,2,3,4,5,6,7,8,9,10,11,12,13,14,15,16,17,18,19,20,21,22,23] (by kernel_rfl) (by kernel_rfl) (fun _ d _ _ _ h=>by cases d<;>exact h) ?_;simp only[atR];have u1:=aa (B:=wr.heap.size) (w:=wr.drew) hca hp2;have u2:=aa (B:=wr.heap.size) (w:=wr.drew) hcm hp2;first|with_reducible refine ac ?_ |with_reducible refine ab ?_ |refine ac ?_ |refine ab ?_
     simp only[List.takeWhile,List.dropWhile,ai,Nat.reduceBNe];repeat(go_big_quiet_step (fail))
     first|with_reducible refine wpQuiet_nil ?_ |refine wpQuiet_nil ?_
     clear u1 u2;first|with_reducible refine ah ?_ (fun K hK=> ?_)|with_reducible refine af ?_ (fun K hK=> ?_)|refine ah ?_ (fun K hK=> ?_)|refine af ?_ (fun K hK=> ?_)
     ·rfl
     go_simp
     refine(HG1.out).mono ?_;rintro e w8 ⟨rfl,hb⟩;refine hK _ _ hb ?_;clear hK K;try simp only[Act.put]
     have hs8:=hb.size;have t3:=(World.cell?_of_block (a:=⟨rb,roff+a * 8+1,none⟩) (hb.block rb hp2)).trans hca;have t4:=(World.cell?_of_block (a:=⟨rb,roff+m * 8+1,none⟩) (hb.block rb hp2)).trans hcm;have hp3:rb<w8.heap.size:=by have:wr.drew.heap.size=wr.heap.size:=rfl;omega
     have HB8:Hid (Below w.heap.size w w8):=hid (HB.out.trans ((show Below wr.heap.size wr w8 from(Below.refl _ _).drew.trans hb).mono HB.out.size));have HG3:=hid (HG2.out w8 hb);clear hca hcm hp2 hb HG1 HG2 hs8;cases b1
     ·have u1:=aa (B:=w8.heap.size) (w:=w8) t3 hp3;have u2:=aa (B:=w8.heap.size) (w:=w8) t4 hp3;first|with_reducible refine ac ?_ |with_reducible refine ab ?_ |refine ac ?_ |refine ab ?_
      simp only[List.takeWhile,List.dropWhile,ai,Nat.reduceBNe];repeat(go_big_quiet_step (fail))
      first|with_reducible refine wpQuiet_nil ?_ |refine wpQuiet_nil ?_
      clear u1 u2;first|with_reducible refine ah ?_ (fun K hK=> ?_)|with_reducible refine af ?_ (fun K hK=> ?_)|refine ah ?_ (fun K hK=> ?_)|refine af ?_ (fun K hK=> ?_)
      ·rfl
      go_simp
      refine(HG3.out).mono ?_;rintro e w9 ⟨rfl,hb⟩;refine hK _ _ hb ?_;clear hK K;try simp only[Act.put]
      have HB9:Hid (Below w.heap.size w w9):=hid (HB8.out.trans (hb.mono HB8.out.size));clear hb HG3 t3 t4;first|with_reducible refine ac ?_ |with_reducible refine ab ?_ |refine ac ?_ |refine ab ?_
      simp only[List.takeWhile,List.dropWhile,ai,Nat.reduceBNe];repeat(go_big_quiet_step (fail))
      first|with_reducible refine wpQuiet_nil ?_ |refine wpQuiet_nil ?_
      unfold aF;cases b2
      ·have HMF:Hid (bO l[a].path l[m].path=false):=hid (by rw[HMT.out];rfl);go_wp2_with fail
       go_roundw
       case rel=>exact⟨m+1,by go_num,by omega,HB9,hid fun k' hk hk2=>by
        by_cases e:k'=m
        ·subst e;exact HMF.out
        ·exact HM2.out k' hk (by omega)⟩
       case measure=>simp[intOf];omega
      ·have HE:Hid (db l=false):=hid (oJ hla hma (by rw[HMT.out];rfl));go_wp2_with fail;go_ret;exact⟨by rw[HR.out,HE.out];rfl,HB9.out⟩
     ·have HE:Hid (db l=false):=hid (oJ hla hma (by rw[HMT.out];rfl));first|with_reducible refine ac ?_ |with_reducible refine ab ?_ |refine ac ?_ |refine ab ?_
      simp only[List.takeWhile,List.dropWhile,ai,Nat.reduceBNe];repeat(go_big_quiet_step (fail))
      first|with_reducible refine wpQuiet_nil ?_ |refine wpQuiet_nil ?_
      first|refine ah rfl (fun K hK=> ?_)|refine af rfl (fun K hK=> ?_)
      go_simp
      refine hK _ _ (Below.refl _ _) ?_;clear hK K;try simp only[Act.put]
      first|with_reducible refine ac ?_ |with_reducible refine ab ?_ |refine ac ?_ |refine ab ?_
      simp only[List.takeWhile,List.dropWhile,ai,Nat.reduceBNe];repeat(go_big_quiet_step (fail))
      first|with_reducible refine wpQuiet_nil ?_ |refine wpQuiet_nil ?_
      unfold aF;go_wp2_with fail;go_ret;exact⟨by rw[HR.out,HE.out];rfl,HB8.out⟩
    ·have d3:decide ((m:Int)<(a:Int))=false:=decide_eq_false (by omega);go_wp2_with fail
     go_roundw
     case rel=>exact⟨a+1,by go_num,by omega,HB,hid fun i' h hi k' hk=>by
      by_cases e:i'=a
      ·subst e;exact HM2.out k' hk (by omega)
      ·exact HM.out i' h (by omega) k' hk⟩
     case measure=>simp[intOf];omega
  ·have d2:decide ((a:Int)<(n:Int))=false:=decide_eq_false (by omega);have HE:Hid (db l=true):=hid (sD fun i hi k hk=>HM.out i hi (by have:=HN.out;omega) k hk);go_wp2_with fail;go_ret;exact⟨by rw[HR.out,HE.out];rfl,HB.out⟩
end Go.Proofs.YtgfidiocmiolpaaGreat
/- Whether a list of changes is free, by the program: its paths, sorted. -/
namespace Go.Proofs.YtgfidiocmiolpaaGreat
open Go.RowKit Go.Sort
structure jt (w:World)(S:Nat→Prop) where
 A:Option Addr
 c:Nat
 p:List ByteArray
 at':au w S A p
 cap:p.length≤c
 len:p.length≤8796093021952
instance (w :World) (S:Nat→Prop):Inhabited (jt w S):=⟨⟨none,0,[],fun h=>absurd h (by simp),by simp,by simp⟩⟩
def hI {w:World}{S:Nat→Prop}(x:jt w S):Value:= .slice x.A x.p.length x.c
def cfP {w:World}{S:Nat→Prop}(x y:jt w S):Int:=bQ x.p y.p
theorem uO {w:World}{S:Nat→Prop}:Go.Proofs.OneCell (hI (w:=w) (S:=S)):=fun _=>rfl
theorem vS {w:World}{S:Nat→Prop}:SWO (Go.Proofs.ltOf (cfP (w:=w) (S:=S))) where
 irrefl x:=by
  have:bQ x.p x.p=0:=(jo _ _).2 rfl;simp[Go.Proofs.ltOf,cfP,this]
 trans x y z h1 h2:=by
  have k1:bQ x.p y.p<0:=of_decide_eq_true h1;have k2:bQ y.p z.p<0:=of_decide_eq_true h2;have h:=ki x.p y.p z.p (by omega) (by omega);exact decide_eq_true (show bQ x.p z.p<0 from h.2.2 (.inl k1))
 ntrans x y z h1 h2:=by
  have k1: ¬bQ x.p y.p<0:=of_decide_eq_false h1;have k2: ¬bQ y.p z.p<0:=of_decide_eq_false h2;have e1:=eX x.p y.p;have e2:=eX y.p z.p;have e3:=eX x.p z.p;have h:=ki z.p y.p x.p (by omega) (by omega);exact decide_eq_false (show ¬bQ x.p z.p<0 by omega)
theorem sk {α:Type}[Inhabited α](enc:α→Value)(W:World)(blk off n:Nat)(dk:Array α)(os:Array Obj)(a:Addr)(h1:a.block≠blk)(h2:a.block<W.heap.size):(Go.Proofs.sortWorld enc W blk off n dk os).cell? a=W.cell? a:=by
 unfold Go.Proofs.sortWorld;rw[cell?_grow _ _ _ (by rw[size_putRow];exact h2),cell?_putRow_other enc _ blk off dk a (.inl h1)];rfl
theorem pS {α:Type}[Inhabited α](enc:α→Value)(W:World)(blk off n:Nat)(dk:Array α)(os:Array Obj)(b:Nat)(h1:b≠blk)(h2:b<W.heap.size):(Go.Proofs.sortWorld enc W blk off n dk os).heap[b]? =W.heap[b]? :=by
 unfold Go.Proofs.sortWorld;rw[heap_grow_old _ _ (by rw[size_putRow];exact h2)];unfold putRow mapBlock;show(W.heap.modify blk _)[b]? =_;rw[Array.getElem?_modify,if_neg (fun h=>h1 h.symm)]
theorem j6 {w W:World}{S:Nat→Prop}{A:Option Addr}{p:List ByteArray}(h:au w S A p)(hk: ∀a:Addr,S a.block→W.cell? a=w.cell? a):au W S A p:=fun hp=>by
 obtain⟨b,off,hA,hb,hc⟩:=h hp;exact⟨b,off,hA,hb,fun i hi=>⟨(hk ⟨b,off+i,none⟩ hb).trans (hc i hi).1,(hc i hi).2⟩⟩
theorem ul {w W:World}{S:Nat→Prop}{g n:Nat}(hS: ∀b,S b→b<w.heap.size)(hg:w.heap.size≤g)(hW:Below w.heap.size w W):Go.Proofs.CmpLays1 Tryz.prog 156 #[] (hI (w:=w) (S:=S)) cfP g 0 n W:=
 Go.Proofs.CmpReads.lays fun m os dk _ x y=>by
  have hk: ∀a:Addr,S a.block→(Go.Proofs.sortWorld (hI (w:=w) (S:=S)) W g 0 m dk os).cell? a=w.cell? a:=fun a ha=>by
   have h1:=hS _ ha;have h2:=hW.size;rw[sk _ _ _ _ _ _ _ a (by omega) (by omega)];exact hW.cell (p:=a) h1
  exact(sf x.A y.A x.c y.c x.p y.p _ S (j6 x.at' hk) (j6 y.at' hk) (by have:=x.len;omega) (by have:=y.len;omega)).mono fun e w' ⟨h1,h2⟩=>⟨h1,0,h2.symm⟩
theorem kR {w:World}{S:Nat→Prop}{l:List aR}{d d':Array (jt w S)}(hd:d.toList.map (·.p)=dN l)(hp:PermIn 0 d.size d d')(hs:SortedIn (Go.Proofs.ltOf cfP) 0 d.size d'):
  d'.size=l.length∧(db l=true↔ ∀i (h:i+1<d'.size),dK (d'[i]'(by omega)).p d'[i+1].p=false):=by
 obtain⟨h1,-,h3⟩:=hp
 have hdl:d.size=l.length:=by
  have:=congrArg List.length hd;simpa[dN]using this
 have e1:d.extract 0 d.size=d:=by simp
 have e2:d'.extract 0 d.size=d':=by rw[←h1];simp
 rw[e1,e2]at h3;have h4:bI [] (d'.toList.map (·.p))=bI [] (dN l):=by rw[←hd];exact sg (h3.map _)
 refine⟨by omega,?_⟩
 have h5:=ph (ps:=d'.toList.map (·.p)) fun i j hi hj hij=>by
  simp only[List.length_map,Array.length_toList]at hi hj;have h6:=hs i j (Nat.zero_le _) hij (by omega);rw[getElem!_pos d' i hi,getElem!_pos d' j hj]at h6;have k6: ¬bQ d'[j].p d'[i].p<0:=of_decide_eq_false h6;simp only[List.getElem_map,Array.getElem_toList];rw[eX];omega
 rw[h4]at h5;unfold db;rw[Bool.not_eq_true',h5];simp only[List.length_map,Array.length_toList,List.getElem_map,Array.getElem_toList]
open Lib (hid)
def j7 (w:World)(S:Nat→Prop)(wr:World)(n k:Nat)(l:List aR):Prop:= ∃cur:Array Value,wr.heap[w.heap.size]? =some (.cells cur 41 (0,0))∧cur.size=n∧ ∀j (h:j<l.length),j<k→ ∃x:jt w S,x.p=l[j].path∧cur[j]? =some (hI x)
theorem Tryz.infoStrs' :(Tryz.prog.info? 41).map (fun i=>(i.zero,i.size,i.bytes))=some (some (.slice none 0 0),1,24):=by kernel_rfl
theorem j7.call {w:World}{S:Nat→Prop}{wr W:World}{n k:Nat}{l:List aR}(h:j7 w S wr n k l)(hb:Below wr.heap.size wr W):j7 w S W n k l:=by
 obtain⟨cur,h1,h2⟩:=h;exact⟨cur,(hb.block _ (Array.getElem?_eq_some_iff.1 h1).1).trans h1,h2⟩
theorem j7.push {w:World}{S:Nat→Prop}{wr:World}{n k:Nat}{l:List aR}(h:j7 w S wr n k l)(hk:k<n)(x:jt w S)(hkl:k<l.length)(hx:x.p=l[k].path):j7 w S (wr.setCell ⟨w.heap.size,k,none⟩ (hI x)) n (k+1) l:=by
 obtain⟨cur,h1,h2,h3⟩:=h;refine⟨cur.setIfInBounds k (hI x),Go.Joins.block_setCell (i:=k) h1 _,by simpa using h2,fun j hj hjk=> ?_⟩;by_cases e:j=k
 ·subst e;exact⟨x,hx,by rw[gM,if_pos rfl,if_pos (by omega)]⟩
 ·obtain⟨y,h4,h5⟩:=h3 j hj (by omega);exact⟨y,h4,by rw[gM,if_neg (fun h=>e h.symm)];exact h5⟩
theorem j7.all {w:World}{S:Nat→Prop}{wr:World}{n:Nat}{l:List aR}(h:j7 w S wr n n l)(hn:n=l.length): ∃d:Array (jt w S),d.size=n∧d.toList.map (·.p)=dN l∧Holds hI wr w.heap.size 0 d:=by
 obtain⟨cur,h1,h2,h3⟩:=h;have hx: ∀j:Fin n,∃x:jt w S,x.p=(l[j.val]'(by omega)).path∧cur[j.val]? =some (hI x):=fun j=>h3 j.val (by omega) j.isLt;obtain⟨f,hf⟩:=Classical.axiomOfChoice hx;have hs:(Array.ofFn f).size=n:=by simp
 refine⟨Array.ofFn f,hs,?_,fun j hj=> ?_⟩
 ·refine List.ext_getElem (by simp[dN,hn]) fun i hi hi'=> ?_;simp only[List.length_map,Array.length_toList,Array.size_ofFn]at hi;simp only[List.getElem_map,Array.getElem_toList,Array.getElem_ofFn,dN];exact(hf ⟨i,hi⟩).1
 ·rw[hs]at hj;refine⟨?_,Go.Joins.unfrozen_of_block h1 _⟩;rw[Nat.zero_add,Go.Joins.cell_of_block h1 j,getElem!_pos _ j (by rw[hs];exact hj),Array.getElem_ofFn];exact(hf ⟨j,hj⟩).2
theorem qk {w W:World}{α:Type}[Inhabited α](enc:α→Value)(m:Nat)(dk:Array α)(os:Array Obj)(hW:Below w.heap.size w W):Below w.heap.size w (Go.Proofs.sortWorld enc W w.heap.size 0 m dk os):=
 hW.trans ⟨rfl,rfl,rfl,by unfold Go.Proofs.sortWorld grow;simp[size_putRow],fun b hb=>pS enc W w.heap.size 0 m dk os b (by omega) (by have:=hW.size;omega)⟩
theorem qu (S:Nat→Prop)(A:Option Addr)(c:Nat)(l:List aR)(w:World)(hS: ∀b,S b→b<w.heap.size)(h:bk w S A l)(hl:l.length≤1099511627776):
  Calls Tryz.prog 137 #[.slice A l.length c] w fun e w'=>e= .returned (.bool (db l))∧Below w.heap.size w w':=by
 obtain⟨i0,hi,hz0,hz1,hz2⟩:=info_parts Tryz.infoStrs';have H:=hid h;have HS:=hid hS;obtain⟨r,hr⟩: ∃r,r=db l:=⟨_,rfl⟩;have HR:=hid hr;rw[←hr];obtain⟨n,hn⟩: ∃n,n=l.length:=⟨_,rfl⟩;have HN:=hid hn;rw[←hn]at hl ⊢;clear h hS hr hn;go_enter Tryz.func137,Tryz.ntmps137;go_wp2_with(refine wpList_make_row _ rfl _ _ 157 rfl 41 i0 _ Tryz.underlying157 hi hz0 hz1 rfl .i64 .i64 n rfl rfl (by rw[hz2];omega) (by omega) ?_);have hw1:j7 w S (w.alloc (.cells (madeCells #[.slice none 0 0] n) 41)) n 0 l:=⟨_,heap_alloc_new w _,by rw[size_madeCells],fun j _ h=>absurd h (by omega)⟩;have hb1:Below w.heap.size w (w.alloc (.cells (madeCells #[.slice none 0 0] n) 41)):=ae _;have HR1:=hid hw1;have HB1:=hid hb1;clear hw1 hb1
 go_loopw [12] (fun i wr=> ∃k:Nat,i= .int .i64 k∧k≤n∧Hid (Below w.heap.size w wr)∧Hid (j7 w S wr n k l)) (fun i _=>n - (intOf i).toNat)
 case atStart=>exact⟨0,rfl,by omega,HB1,HR1⟩
 case round=>
  clear HB1 HR1;obtain⟨k,rfl,hk,HB,HRW⟩:=hrel;by_cases hlt:k<n
  ·have d1:decide ((k:Int)<(n:Int))=true:=decide_eq_true (by omega);have hkl:k<l.length:=by have:=HN.out;omega
   obtain⟨bp,off,PA,pc,VA,vc,VA',vc',rfl,hbp,hd,y0,y1,y2,y3,y4,y5,y6,y7⟩:=H.out.cells k hkl
   obtain⟨q1,q2,q4⟩:au w S PA l[k].path∧l[k].path.length≤pc∧l[k].path.length≤8796093021952:=by
    obtain⟨P1,p1,V1,v1,V1',v1',e,q0,q1,q2,-,-,-,q4⟩:=hd;simp only[Array.mk.injEq,List.cons.injEq,Value.slice.injEq,and_true,true_and]at e;obtain⟨⟨rfl,rfl⟩,⟨rfl,rfl⟩,rfl,rfl⟩:=e;exact⟨q1,q2,q4⟩
   have hbl:=HS.out bp hbp;have x0:=(HB.out.cell (p:=⟨bp,off+k * 8,none⟩) hbl).trans y0;have x1:=(HB.out.cell (p:=⟨bp,off+k * 8+1,none⟩) hbl).trans y1;have x2:=(HB.out.cell (p:=⟨bp,off+k * 8+2,none⟩) hbl).trans y2;have x3:=(HB.out.cell (p:=⟨bp,off+k * 8+3,none⟩) hbl).trans y3;have x4:=(HB.out.cell (p:=⟨bp,off+k * 8+4,none⟩) hbl).trans y4;have x5:=(HB.out.cell (p:=⟨bp,off+k * 8+5,none⟩) hbl).trans y5;have x6:=(HB.out.cell (p:=⟨bp,off+k * 8+6,none⟩) hbl).trans y6;have x7:=(HB.out.cell (p:=⟨bp,off+k * 8+7,none⟩) hbl).trans y7;have hbx:Below wr.heap.size wr (wr.alloc (.cells #[.int .i64 l[k].kind,.slice PA l[k].path.length pc,.int .i64 l[k].val.kind,.int .i64 l[k].val.num,.string l[k].val.text,.slice VA l[k].val.items.length vc,.slice VA' l[k].val.names.length vc',.int .i64 l[k].num] 114)):=ae _;have hR4:=HRW.out.call hbx
   obtain⟨u1,z1⟩: ∃u,(wr.alloc (.cells #[.int .i64 l[k].kind,.slice PA l[k].path.length pc,.int .i64 l[k].val.kind,.int .i64 l[k].val.num,.string l[k].val.text,.slice VA l[k].val.items.length vc,.slice VA' l[k].val.names.length vc',.int .i64 l[k].num] 114)).cell? ⟨w.heap.size,k,none⟩=some u:=by
    obtain⟨cur,h1,h2,-⟩:=hR4;exact⟨cur[k]'(by omega),by rw[Go.Joins.cell_of_block h1 k];exact Array.getElem?_eq_getElem (by omega)⟩
   have zf: ∀i,(wr.alloc (.cells #[.int .i64 l[k].kind,.slice PA l[k].path.length pc,.int .i64 l[k].val.kind,.int .i64 l[k].val.num,.string l[k].val.text,.slice VA l[k].val.items.length vc,.slice VA' l[k].val.names.length vc',.int .i64 l[k].num] 114)).frozen? ⟨w.heap.size,i,none⟩=false:=fun i=>by
    obtain⟨cur,h1,-⟩:=hR4;exact Go.Joins.unfrozen_of_block h1 i
   have HR5:=hid (show j7 w S ((wr.alloc (.cells #[.int .i64 l[k].kind,.slice PA l[k].path.length pc,.int .i64 l[k].val.kind,.int .i64 l[k].val.num,.string l[k].val.text,.slice VA l[k].val.items.length vc,.slice VA' l[k].val.names.length vc',.int .i64 l[k].num] 114)).setCell ⟨w.heap.size,k,none⟩ (.slice PA l[k].path.length pc)) n (k+1) l from hR4.push hlt ⟨PA,pc,l[k].path,q1,q2,q4⟩ hkl rfl);have HB5:=hid (sP (p:=w.heap.size) (i:=k) (u:= .slice PA l[k].path.length pc) (HB.out.trans (hbx.mono HB.out.size)) (Nat.le_refl _));clear hd q1 q2 q4 hbx hR4 y0 y1 y2 y3 y4 y5 y6 y7 hbp;go_wp2_with fail
   go_roundw
   case rel=>exact⟨k+1,by go_num,by omega,HB5,HR5⟩
   case measure=>simp[intOf];omega
  ·obtain rfl:k=n:=by omega
   have d1:decide ((k:Int)<(k:Int))=false:=decide_eq_false (by omega);obtain⟨d,hd1,hd2,hd3⟩:=HRW.out.all HN.out;have eg: ∀args w,(callFunc 156 args).run Tryz.prog w= .ok (.enter 156 args) w:=enters_of Tryz.func156 (by kernel_rfl) rfl;have hsz:d.size<4611686018427387904:=by omega
   have hblk:w.heap.size<wr.heap.size:=by
    obtain⟨cur,h1,-⟩:=HRW.out;exact(Array.getElem?_eq_some_iff.1 h1).1
   have HC:=hid (Tryz.slices_SortFunc (hI (w:=w) (S:=S)) uO cfP vS 156 #[] w.heap.size 0 k d wr eg (ul HS.out (Nat.le_refl _) HB.out) hd3 hblk hsz);rw[hd1]at HC;have HD2:=hid hd2;have HD3:=hid hd3;have HD1:=hid hd1;have HBK:=hid hblk;clear hd1 hd2 hd3 eg hsz hblk hlt HRW;go_wp2_with fail;refine HC.out.mono ?_;rintro e w2 ⟨rfl,d',m,os,hp,hs,rfl⟩;obtain⟨hz',hfree⟩:=kR HD2.out (by rw[HD1.out];exact hp) (by rw[HD1.out];exact hs);have hb2:=qk (hI (w:=w) (S:=S)) m d' os HB.out;have hh2:=holds_sortWorld (hI (w:=w) (S:=S)) wr w.heap.size 0 m d d' os HBK.out HD3.out (by rw[hz',HD1.out,HN.out]);have hk2:w.heap.size<(Go.Proofs.sortWorld (hI (w:=w) (S:=S)) wr w.heap.size 0 m d' os).heap.size:=lt_sortWorld (hI (w:=w) (S:=S)) wr w.heap.size 0 m d' os HBK.out;generalize Go.Proofs.sortWorld (hI (w:=w) (S:=S)) wr w.heap.size 0 m d' os=w2 at *;have HDN:Hid (d'.size=k):=hid (by rw[hz',HN.out]);have HFR:=hid hfree;have HB2:=hid hb2;have HH2:=hid hh2;have HK2:=hid hk2;clear hp hs hz' hfree hb2 hh2 hk2 HC HD2 HD3 HB HBK;go_wp2_with fail
   go_loopw [6] (fun i wq=> ∃j:Nat,i= .int .i64 ((j:Int)+1)∧j≤k∧Hid (Below w2.heap.size w2 wq)∧Hid (∀i (h:i+1<d'.size),i<j→dK (d'[i]'(by omega)).p d'[i+1].p=false)) (fun i _=>k - (intOf i).toNat)
   case atStart=>exact⟨0,rfl,by omega,hid (Below.refl _ _),hid fun j _ h=>absurd h (by omega)⟩
   case round=>
    obtain⟨j,rfl,hj,HBq,HJ⟩:=hrel;by_cases hlt:j+1<k
    ·have d2:decide ((j:Int)+1<(k:Int))=true:=decide_eq_true (by omega);have hj1:j<d'.size:=by have:=HDN.out;omega
     have hj2:j+1<d'.size:=by have:=HDN.out;omega
     have c1:=(HH2.out j hj1).1;have c2:=(HH2.out (j+1) hj2).1;rw[Nat.zero_add,getElem!_pos d' j hj1]at c1;rw[Nat.zero_add,getElem!_pos d' (j+1) hj2]at c2;have t1:=(HBq.out.cell (p:=⟨w.heap.size,j,none⟩) HK2.out).trans c1;have t2:=(HBq.out.cell (p:=⟨w.heap.size,j+1,none⟩) HK2.out).trans c2;obtain⟨x,hx⟩: ∃x,x=d'[j]:=⟨_,rfl⟩;obtain⟨y,hy⟩: ∃y,y=d'[j+1]:=⟨_,rfl⟩;rw[←hx]at t1;rw[←hy]at t2;unfold hI at t1 t2;have hBw:Below w.heap.size w wr.drew:=(HB2.out.trans (HBq.out.mono HB2.out.size)).drew;have HG:=hid (gS x.A y.A x.c y.c x.p y.p wr.drew S S (x.at'.keep fun b hb=>hBw.block b (HS.out b hb)) (y.at'.keep fun b hb=>hBw.block b (HS.out b hb)) (fun b hb=>Nat.lt_of_lt_of_le (HS.out b hb) hBw.size) (fun b hb=>Nat.lt_of_lt_of_le (HS.out b hb) hBw.size) (by have:=x.len;omega) (by have:=y.len;omega) y.cap);obtain⟨nx,hnx⟩: ∃n,n=x.p.length:=⟨_,rfl⟩;obtain⟨ny,hny⟩: ∃n,n=y.p.length:=⟨_,rfl⟩;obtain⟨b1,hb1⟩: ∃b,b=dK x.p y.p:=⟨_,rfl⟩;obtain⟨xA,hxA⟩: ∃n,n=x.A:=⟨_,rfl⟩;obtain⟨yA,hyA⟩: ∃n,n=y.A:=⟨_,rfl⟩;obtain⟨xc,hxc⟩: ∃n,n=x.c:=⟨_,rfl⟩;obtain⟨yc,hyc⟩: ∃n,n=y.c:=⟨_,rfl⟩;rw[←hnx,←hxA,←hxc]at HG t1;rw[←hny,←hyA,←hyc]at HG t2;rw[←hb1]at HG;have HBG:Hid (dK (d'[j]'hj1).p d'[j+1].p=b1):=hid (by rw[hb1,hx,hy]);have hp2:w.heap.size<wr.heap.size:=Nat.lt_of_lt_of_le HK2.out HBq.out.size;clear c1 c2 hx hy hBw hnx hny hb1 hxA hyA hxc hyc;go_wp2_with fail;refine ar [0,1,2,3,4,5,6,7,8,9] (by kernel_rfl) (by kernel_rfl) (fun _ d _ _ _ h=>by cases d<;>exact h) ?_;simp only[atR];have u1:=aa (B:=wr.heap.size) (w:=wr.drew) t1 hp2
     have u2:=aa (B:=wr.heap.size) (w:=wr.drew) t2 hp2;first|with_reducible refine ac ?_ |with_reducible refine ab ?_ |refine ac ?_ |refine ab ?_
     simp only[List.takeWhile,List.dropWhile,ai,Nat.reduceBNe];repeat(go_big_quiet_step (fail))
     first|with_reducible refine wpQuiet_nil ?_ |refine wpQuiet_nil ?_
     clear u1 u2;first|with_reducible refine ah ?_ (fun K hK=> ?_)|with_reducible refine af ?_ (fun K hK=> ?_)|refine ah ?_ (fun K hK=> ?_)|refine af ?_ (fun K hK=> ?_)
     ·rfl
     go_simp
     refine(HG.out).mono ?_;rintro e w8 ⟨rfl,hb⟩;refine hK _ _ hb ?_;clear hK K;try simp only[Act.put]
     have HB8:Hid (Below w2.heap.size w2 w8):=hid (HBq.out.trans ((show Below wr.heap.size wr w8 from(Below.refl _ _).drew.trans hb).mono HBq.out.size));clear hb HG t1 t2 hp2;first|with_reducible refine ac ?_ |with_reducible refine ab ?_ |refine ac ?_ |refine ab ?_
     simp only[List.takeWhile,List.dropWhile,ai,Nat.reduceBNe];repeat(go_big_quiet_step (fail))
     first|with_reducible refine wpQuiet_nil ?_ |refine wpQuiet_nil ?_
     unfold aF;cases b1
     ·go_wp2_with fail
      go_roundw
      case rel=>exact⟨j+1,by go_num,by omega,HB8,hid fun i h hij=>by
       by_cases e:i=j
       ·subst e;exact HBG.out
       ·exact HJ.out i h (by omega)⟩
      case measure=>simp[intOf];omega
     ·have HE:Hid (db l=false):=hid (by
       cases hf:db l
       ·rfl
       ·have:=HFR.out.1 hf j hj2;rw[HBG.out]at this
        cases this)
      go_wp2_with fail;go_ret;exact⟨by rw[HR.out,HE.out];rfl,HB2.out.trans (HB8.out.mono HB2.out.size)⟩
    ·have d2:decide ((j:Int)+1<(k:Int))=false:=decide_eq_false (by omega);have HE:Hid (db l=true):=hid (HFR.out.2 fun i h=>HJ.out i h (by have:=HDN.out;omega));go_wp2_with fail;go_ret;exact⟨by rw[HR.out,HE.out];rfl,HB2.out.trans (HBq.out.mono HB2.out.size)⟩
end Go.Proofs.YtgfidiocmiolpaaGreat
