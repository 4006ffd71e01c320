/- What Go's library does at this program's numbers, out of contracts that are proved once. No conditions beside each one's own. -/
import Derived.Shelf.Small.Utf8
import Derived.Shelf.Small.Bits
import Derived.Shelf.Small.Strs
import Derived.Shelf.Strconv.Itoa0
import Derived.Shelf.Strings.Search1
import Derived.Shelf.Strings.Runes
import Derived.Shelf.Strings.IndexAny
import Derived.Shelf.Strings.AsciiSet
import Derived.Shelf.Strings.IndexAnyAll
import Derived.Ground.Names2Prog
import Derived.Shelf.Slices.Clone
import Derived.Shelf.Slices.SearchI
import Derived.Ground.SlgnProg
import Derived.Shelf.SlicesE.Clone
import Derived.Ground.SlsfProg
import Derived.Shelf.SlSortCmp.Insertion
import Derived.Shelf.SlSortCmp.SiftDown1
import Derived.Shelf.SlSortCmp.HeapSort1
import Derived.Shelf.SlSortCmp.Insertion1
import Derived.Shelf.SlSortCmp.Median1
import Derived.Shelf.SlSortCmp.Pivot1
import Derived.Shelf.SlSortCmp.ReverseRange1
import Derived.Shelf.SlSortCmp.PartialInsertion1
import Derived.Shelf.SlSortCmp.PartitionEqual1
import Derived.Shelf.SlSortCmp.Partition1
import Derived.Shelf.SlSortCmp.Pdq1
import Derived.Shelf.SlSortCmp.Whole1
import Derived.Test.YtgfidiocmiolpaaGreatProg
set_option maxHeartbeats 64000000
set_option maxRecDepth 100000
set_option linter.unusedVariables false
set_option linter.unusedSimpArgs false
namespace Go.Proofs
open Go.Shelf
def Tryz.lays119_ren :Go.Shelf.Ren:=⟨fun|119=>190|n=>n,fun|21=>21|4=>4|n=>n,fun|n=>n⟩
theorem Tryz.lays119 :Go.Proofs.Lays.n119 Tryz.prog Tryz.lays119_ren:= {
  mixed:=by kernel_rfl
  f119:=Tryz.func190.trans (congrArg some (by kernel_rfl))
  t4:=Tryz.underlying4
  a4:=Tryz.isAgg4
  z4:=Tryz.sizeOf4
  v4:=Tryz.zeroValue4
  t21:=Tryz.underlying21
  a21:=Tryz.isAgg21
  z21:=Tryz.sizeOf21
  v21:=Tryz.zeroValue21 }
theorem Tryz.utf8_ValidRune (r:Int)(w:World):
    Calls Tryz.prog 190 #[.int .i32 r] w fun e w'=>e= .returned (.bool (Lib.validRune r))∧w'=w:=Any.utf8_ValidRune Tryz.lays119 r w
def Tryz.lays137_ren :Go.Shelf.Ren:=⟨fun|137=>189|217=>211|266=>219|n=>n,fun|9=>9|5=>5|3=>3|n=>n,fun|n=>n⟩
theorem Tryz.lays137 :Go.Proofs.Lays.n137 Tryz.prog Tryz.lays137_ren:= {
  mixed:=by kernel_rfl
  f137:=Tryz.func189.trans (congrArg some (by kernel_rfl))
  f217:=Tryz.func211.trans (congrArg some (by kernel_rfl))
  f266:=Tryz.func219.trans (congrArg some (by kernel_rfl))
  t3:=Tryz.underlying3
  a3:=Tryz.isAgg3
  z3:=Tryz.sizeOf3
  v3:=Tryz.zeroValue3
  t5:=Tryz.underlying5
  a5:=Tryz.isAgg5
  z5:=Tryz.sizeOf5
  v5:=Tryz.zeroValue5
  t9:=Tryz.underlying9
  a9:=Tryz.isAgg9
  z9:=Tryz.sizeOf9
  v9:=Tryz.zeroValue9 }
open Go.RowKit in
theorem Tryz.strings_IndexByte (s:ByteArray)(c:Int)(w:World):
    Calls Tryz.prog 189 #[.string s,.int .u8 c] w fun e w'=>e= .returned (.int .i64 (Lib.indexByte s.data.toList c.toNat.toUInt8))∧w'=w:=Any.strings_IndexByte Tryz.lays137 s c w
def Tryz.lays152_ren :Go.Shelf.Ren:=⟨fun|152=>165|137=>189|119=>190|224=>191|225=>192|217=>211|266=>219|n=>n,fun|9=>9|21=>21|3=>3|4=>4|5=>5|0=>0|46=>141|n=>n,fun|n=>n⟩
theorem Tryz.lays152 :Go.Proofs.Lays.n152 Tryz.prog Tryz.lays152_ren:= {
  mixed:=by kernel_rfl
  f119:=Tryz.func190.trans (congrArg some (by kernel_rfl))
  f137:=Tryz.func189.trans (congrArg some (by kernel_rfl))
  f152:=Tryz.func165.trans (congrArg some (by kernel_rfl))
  f217:=Tryz.func211.trans (congrArg some (by kernel_rfl))
  f224:=Tryz.func191.trans (congrArg some (by kernel_rfl))
  f225:=Tryz.func192.trans (congrArg some (by kernel_rfl))
  f266:=Tryz.func219.trans (congrArg some (by kernel_rfl))
  t0:=Tryz.underlying0
  a0:=Tryz.isAgg0
  z0:=Tryz.sizeOf0
  v0:=Tryz.zeroValue0
  t3:=Tryz.underlying3
  a3:=Tryz.isAgg3
  z3:=Tryz.sizeOf3
  v3:=Tryz.zeroValue3
  t4:=Tryz.underlying4
  a4:=Tryz.isAgg4
  z4:=Tryz.sizeOf4
  v4:=Tryz.zeroValue4
  t5:=Tryz.underlying5
  a5:=Tryz.isAgg5
  z5:=Tryz.sizeOf5
  v5:=Tryz.zeroValue5
  t9:=Tryz.underlying9
  a9:=Tryz.isAgg9
  z9:=Tryz.sizeOf9
  v9:=Tryz.zeroValue9
  t21:=Tryz.underlying21
  a21:=Tryz.isAgg21
  z21:=Tryz.sizeOf21
  v21:=Tryz.zeroValue21
  t46:=Tryz.underlying141
  a46:=Tryz.isAgg141
  z46:=Tryz.sizeOf141
  v46:=Tryz.zeroValue141 }
open Go.RowKit Go.Lib in
theorem Tryz.strings_IndexRune_ascii (s:ByteArray)(r:Int)(w:World)(h0:0≤r)(h1:r<128):
    Calls Tryz.prog 165 #[.string s,.int .i32 r] w fun e w'=>e= .returned (.int .i64 (Lib.indexByte s.data.toList r.toNat.toUInt8))∧w'=w:=Any.strings_IndexRune_ascii Tryz.lays152 s r w h0 h1
def Tryz.lays226_ren :Go.Shelf.Ren:=⟨fun|226=>166|n=>n,fun|3=>3|4=>4|n=>n,fun|n=>n⟩
theorem Tryz.lays226 :Go.Proofs.Lays.n226 Tryz.prog Tryz.lays226_ren:= {
  mixed:=by kernel_rfl
  f226:=Tryz.func166.trans (congrArg some (by kernel_rfl))
  t3:=Tryz.underlying3
  a3:=Tryz.isAgg3
  z3:=Tryz.sizeOf3
  v3:=Tryz.zeroValue3
  t4:=Tryz.underlying4
  a4:=Tryz.isAgg4
  z4:=Tryz.sizeOf4
  v4:=Tryz.zeroValue4 }
open Go.RowKit Go.Lib in
theorem Tryz.strings_shouldUseASCIISet (n:Int)(w:World):
    Calls Tryz.prog 166 #[.int .i64 n] w fun e w'=>e= .returned (.bool (decide (8<n)))∧w'=w:=Any.strings_shouldUseASCIISet Tryz.lays226 n w
def Tryz.lays153_ren :Go.Shelf.Ren:=⟨fun|153=>144|152=>165|226=>166|227=>167|228=>168|137=>189|119=>190|224=>191|225=>192|217=>211|266=>219|n=>n,fun|9=>9|3=>3|4=>4|5=>5|21=>21|117=>168|116=>167|0=>0|46=>141|124=>181|n=>n,fun|n=>n⟩
theorem Tryz.lays153 :Go.Proofs.Lays.n153 Tryz.prog Tryz.lays153_ren:= {
  mixed:=by kernel_rfl
  f119:=Tryz.func190.trans (congrArg some (by kernel_rfl))
  f137:=Tryz.func189.trans (congrArg some (by kernel_rfl))
  f152:=Tryz.func165.trans (congrArg some (by kernel_rfl))
  f153:=Tryz.func144.trans (congrArg some (by kernel_rfl))
  f217:=Tryz.func211.trans (congrArg some (by kernel_rfl))
  f224:=Tryz.func191.trans (congrArg some (by kernel_rfl))
  f225:=Tryz.func192.trans (congrArg some (by kernel_rfl))
  f226:=Tryz.func166.trans (congrArg some (by kernel_rfl))
  f227:=Tryz.func167.trans (congrArg some (by kernel_rfl))
  f228:=Tryz.func168.trans (congrArg some (by kernel_rfl))
  f266:=Tryz.func219.trans (congrArg some (by kernel_rfl))
  t0:=Tryz.underlying0
  a0:=Tryz.isAgg0
  z0:=Tryz.sizeOf0
  v0:=Tryz.zeroValue0
  t3:=Tryz.underlying3
  a3:=Tryz.isAgg3
  z3:=Tryz.sizeOf3
  v3:=Tryz.zeroValue3
  t4:=Tryz.underlying4
  a4:=Tryz.isAgg4
  z4:=Tryz.sizeOf4
  v4:=Tryz.zeroValue4
  t5:=Tryz.underlying5
  a5:=Tryz.isAgg5
  z5:=Tryz.sizeOf5
  v5:=Tryz.zeroValue5
  t9:=Tryz.underlying9
  a9:=Tryz.isAgg9
  z9:=Tryz.sizeOf9
  v9:=Tryz.zeroValue9
  t21:=Tryz.underlying21
  a21:=Tryz.isAgg21
  z21:=Tryz.sizeOf21
  v21:=Tryz.zeroValue21
  t46:=Tryz.underlying141
  a46:=Tryz.isAgg141
  z46:=Tryz.sizeOf141
  v46:=Tryz.zeroValue141
  t116:=Tryz.underlying167
  a116:=Tryz.isAgg167
  z116:=Tryz.sizeOf167
  t117:=Tryz.underlying168
  a117:=Tryz.isAgg168
  z117:=Tryz.sizeOf168
  v117:=Tryz.zeroValue168
  t124:=Tryz.underlying181
  a124:=Tryz.isAgg181
  z124:=Tryz.sizeOf181
  v124:=Tryz.zeroValue181 }
open Go.RowKit Go.Lib in
theorem Tryz.strings_IndexAny_long (hv116: ∀w,(zeroValue 167).run Tryz.prog w= .ok (.agg (Array.replicate 256 (.bool false))) w)(s chars:ByteArray)(w:World)(h2:2≤chars.size)(h8:8<s.size)(hs:s.size<4294967281)(hcs:chars.size<4294967281)(hascii: ∀(j:Nat) b,chars.data.toList[j]? =some b→b.toNat<128):
    Calls Tryz.prog 144 #[.string s,.string chars] w fun e w'=>e= .returned (.int .i64 (Lib.indexAny s.data.toList chars.data.toList))∧w'=((w.alloc (.cells (Lib.setCells chars.data.toList) 167)).alloc (.cells (Lib.setCells chars.data.toList) 167)):=Any.strings_IndexAny_long Tryz.lays153 hv116 (by kernel_rfl) s chars w h2 h8 hs hcs hascii
open Go.RowKit Go.Lib in
def Tryz.laysSlF6_f155_ren :Go.Shelf.Ren:=⟨fun|6=>155|15=>178|14=>177|28=>207|29=>208|20=>199|21=>200|22=>201|23=>202|24=>203|25=>204|26=>205|27=>206|46=>214|47=>215|48=>216|49=>217|50=>218|57=>220|n=>n,fun|22=>157|24=>41|25=>159|3=>3|39=>141|0=>0|53=>197|55=>106|4=>4|46=>190|45=>189|50=>194|5=>5|9=>9|66=>200|70=>78|76=>204|77=>205|n=>n,fun|n=>n⟩
theorem Tryz.laysSlF6_f155 :Go.Proofs.SlLaysF.n6 Tryz.prog Tryz.laysSlF6_f155_ren:= {
  mixed:=by kernel_rfl
  f6:=⟨Tryz.f155.name,by decide,Tryz.func155.trans (congrArg some (by kernel_rfl))⟩
  f14:=⟨Tryz.f177.name,by decide,Tryz.func177.trans (congrArg some (by kernel_rfl))⟩
  f15:=Tryz.func178.trans (congrArg some (by kernel_rfl))
  f20:=⟨Tryz.f199.name,by decide,Tryz.func199.trans (congrArg some (by kernel_rfl))⟩
  f21:=⟨Tryz.f200.name,by decide,Tryz.func200.trans (congrArg some (by kernel_rfl))⟩
  f22:=⟨Tryz.f201.name,by decide,Tryz.func201.trans (congrArg some (by kernel_rfl))⟩
  f23:=⟨Tryz.f202.name,by decide,Tryz.func202.trans (congrArg some (by kernel_rfl))⟩
  f24:=⟨Tryz.f203.name,by decide,Tryz.func203.trans (congrArg some (by kernel_rfl))⟩
  f25:=⟨Tryz.f204.name,by decide,Tryz.func204.trans (congrArg some (by kernel_rfl))⟩
  f26:=⟨Tryz.f205.name,by decide,Tryz.func205.trans (congrArg some (by kernel_rfl))⟩
  f27:=⟨Tryz.f206.name,by decide,Tryz.func206.trans (congrArg some (by kernel_rfl))⟩
  f28:=Tryz.func207.trans (congrArg some (by kernel_rfl))
  f29:=Tryz.func208.trans (congrArg some (by kernel_rfl))
  f46:=⟨Tryz.f214.name,by decide,Tryz.func214.trans (congrArg some (by kernel_rfl))⟩
  f47:=Tryz.func215.trans (congrArg some (by kernel_rfl))
  f48:=Tryz.func216.trans (congrArg some (by kernel_rfl))
  f49:=⟨Tryz.f217.name,by decide,Tryz.func217.trans (congrArg some (by kernel_rfl))⟩
  f50:=⟨Tryz.f218.name,by decide,Tryz.func218.trans (congrArg some (by kernel_rfl))⟩
  f57:=⟨Tryz.f220.name,by decide,Tryz.func220.trans (congrArg some (by kernel_rfl))⟩
  t0:=Tryz.underlying0
  a0:=Tryz.isAgg0
  z0:=Tryz.sizeOf0
  v0:=Tryz.zeroValue0
  t3:=Tryz.underlying3
  a3:=Tryz.isAgg3
  z3:=Tryz.sizeOf3
  v3:=Tryz.zeroValue3
  t4:=Tryz.underlying4
  a4:=Tryz.isAgg4
  z4:=Tryz.sizeOf4
  v4:=Tryz.zeroValue4
  t5:=Tryz.underlying5
  a5:=Tryz.isAgg5
  z5:=Tryz.sizeOf5
  v5:=Tryz.zeroValue5
  t9:=Tryz.underlying9
  a9:=Tryz.isAgg9
  z9:=Tryz.sizeOf9
  v9:=Tryz.zeroValue9
  t22:=Tryz.underlying157
  a22:=Tryz.isAgg157
  z22:=Tryz.sizeOf157
  v22:=Tryz.zeroValue157
  a24:=Tryz.isAgg41
  z24:=Tryz.sizeOf41
  t25:=Tryz.underlying159
  a25:=Tryz.isAgg159
  z25:=Tryz.sizeOf159
  v25:=Tryz.zeroValue159
  t39:=Tryz.underlying141
  a39:=Tryz.isAgg141
  z39:=Tryz.sizeOf141
  v39:=Tryz.zeroValue141
  t45:=Tryz.underlying189
  a45:=Tryz.isAgg189
  z45:=Tryz.sizeOf189
  v45:=Tryz.zeroValue189
  t46:=Tryz.underlying190
  a46:=Tryz.isAgg190
  z46:=Tryz.sizeOf190
  v46:=Tryz.zeroValue190
  t50:=Tryz.underlying194
  a50:=Tryz.isAgg194
  z50:=Tryz.sizeOf194
  v50:=Tryz.zeroValue194
  t53:=Tryz.underlying197
  a53:=Tryz.isAgg197
  z53:=Tryz.sizeOf197
  v53:=Tryz.zeroValue197
  t55:=Tryz.underlying106
  a55:=Tryz.isAgg106
  z55:=Tryz.sizeOf106
  v55:=Tryz.zeroValue106
  t66:=Tryz.underlying200
  a66:=Tryz.isAgg200
  z66:=Tryz.sizeOf200
  v66:=Tryz.zeroValue200
  t70:=Tryz.underlying78
  a70:=Tryz.isAgg78
  z70:=Tryz.sizeOf78
  v70:=Tryz.zeroValue78
  t76:=Tryz.underlying204
  a76:=Tryz.isAgg204
  z76:=Tryz.sizeOf204
  v76:=Tryz.zeroValue204
  t77:=Tryz.underlying205
  a77:=Tryz.isAgg205
  z77:=Tryz.sizeOf205
  v77:=Tryz.zeroValue205 }
open Go.RowKit Go.Lib Go.Sort in
theorem Tryz.slices_SortFunc {α:Type}[Inhabited α](enc:α→Value)(h1:OneCell enc)(cf:α→α→Int)(hO:SWO (ltOf cf))(g:Nat)(cb:Array Value)(blk off cap:Nat)(d:Array α)(w:World)(eg: ∀args w,(callFunc g args).run Tryz.prog w= .ok (.enter g args) w)(hcmp:CmpLays1 Tryz.prog g cb enc cf blk off d.size w)(hH:Holds enc w blk off d)(hblk:blk<w.heap.size)(hsz:d.size<4611686018427387904):
    Calls Tryz.prog 155 #[.slice (some ⟨blk,off,none⟩) d.size cap,.func (.func g) #[] cb] w fun e w'=>
      e= .returned (.tuple #[])∧ ∃d' n os,PermIn 0 d.size d d'∧SortedIn (ltOf cf) 0 d.size d'∧w'=sortWorld enc w blk off n d' os:=Any.slices_SortFunc Tryz.laysSlF6_f155 enc h1 cf hO g cb blk off cap d w eg hcmp hH hblk hsz
end Go.Proofs
