/- What Go's library does at this program's numbers, out of contracts that are proved once. No conditions beside each one's own. -/
import Derived.Shelf.Strconv.Itoa0
import Derived.Shelf.Strconv.Itoa1
import Derived.Shelf.LaysM
import Derived.Shelf.Strconv.Itoa2
import Derived.Shelf.Strconv.Itoa3
import Derived.Ground.Names2Prog
import Derived.Shelf.Slices.Clone
import Derived.Shelf.Slices.SearchI
import Derived.Shelf.Slices.Delete
import Derived.Shelf.Slices.Cells
import Derived.Shelf.Slices.Empties
import Derived.Ground.SlgnProg
import Derived.Shelf.SlicesE.Clone
import Derived.Test.YtgbopnlpaabelaaGreatDoorProg
set_option maxHeartbeats 64000000
set_option maxRecDepth 100000
set_option linter.unusedVariables false
set_option linter.unusedSimpArgs false
namespace Go.Proofs
open Go.Shelf
def Tryz.laysM171_ren :Go.Shelf.Ren:=⟨fun|171=>151|243=>172|246=>180|283=>184|284=>185|285=>186|286=>187|129=>189|317=>188|318=>190|319=>191|320=>192|337=>193|338=>194|n=>n,fun|3=>3|9=>9|2=>2|4=>4|171=>166|0=>0|53=>128|37=>101|5=>5|173=>169|212=>172|51=>173|20=>20|213=>174|46=>160|232=>177|233=>178|n=>n,fun|17=>0|18=>1|19=>2|n=>n⟩
theorem Tryz.laysM171 :Go.Proofs.LaysM.n171 Tryz.prog Tryz.laysM171_ren:= {
  mixed:=by kernel_rfl
  f129:=Tryz.func189.trans (congrArg some (by kernel_rfl))
  f171:=Tryz.func151.trans (congrArg some (by kernel_rfl))
  f243:=Tryz.func172.trans (congrArg some (by kernel_rfl))
  f246:=Tryz.func180.trans (congrArg some (by kernel_rfl))
  f283:=Tryz.func184.trans (congrArg some (by kernel_rfl))
  f284:=Tryz.func185.trans (congrArg some (by kernel_rfl))
  f285:=Tryz.func186.trans (congrArg some (by kernel_rfl))
  f286:=Tryz.func187.trans (congrArg some (by kernel_rfl))
  f317:=Tryz.func188.trans (congrArg some (by kernel_rfl))
  f318:=Tryz.func190.trans (congrArg some (by kernel_rfl))
  f319:=Tryz.func191.trans (congrArg some (by kernel_rfl))
  f320:=Tryz.func192.trans (congrArg some (by kernel_rfl))
  f337:=Tryz.func193.trans (congrArg some (by kernel_rfl))
  f338:=Tryz.func194.trans (congrArg some (by kernel_rfl))
  t0:=Tryz.underlying0
  a0:=Tryz.isAgg0
  z0:=Tryz.sizeOf0
  v0:=Tryz.zeroValue0
  t2:=Tryz.underlying2
  a2:=Tryz.isAgg2
  z2:=Tryz.sizeOf2
  v2:=Tryz.zeroValue2
  t3:=Tryz.underlying3
  a3:=Tryz.isAgg3
  z3:=Tryz.sizeOf3
  v3:=Tryz.zeroValue3
  t4:=Tryz.underlying4
  a4:=Tryz.isAgg4
  z4:=Tryz.sizeOf4
  v4:=Tryz.zeroValue4
  t5:=Tryz.underlying5
  a5:=Tryz.isAgg5
  z5:=Tryz.sizeOf5
  v5:=Tryz.zeroValue5
  t9:=Tryz.underlying9
  a9:=Tryz.isAgg9
  z9:=Tryz.sizeOf9
  v9:=Tryz.zeroValue9
  t20:=Tryz.underlying20
  a20:=Tryz.isAgg20
  z20:=Tryz.sizeOf20
  v20:=Tryz.zeroValue20
  t37:=Tryz.underlying101
  a37:=Tryz.isAgg101
  z37:=Tryz.sizeOf101
  v37:=Tryz.zeroValue101
  t46:=Tryz.underlying160
  a46:=Tryz.isAgg160
  z46:=Tryz.sizeOf160
  v46:=Tryz.zeroValue160
  t51:=Tryz.underlying173
  a51:=Tryz.isAgg173
  z51:=Tryz.sizeOf173
  v51:=Tryz.zeroValue173
  t53:=Tryz.underlying128
  a53:=Tryz.isAgg128
  z53:=Tryz.sizeOf128
  v53:=Tryz.zeroValue128
  t171:=Tryz.underlying166
  a171:=Tryz.isAgg166
  z171:=Tryz.sizeOf166
  v171:=Tryz.zeroValue166
  t173:=Tryz.underlying169
  a173:=Tryz.isAgg169
  z173:=Tryz.sizeOf169
  v173:=Tryz.zeroValue169
  t212:=Tryz.underlying172
  a212:=Tryz.isAgg172
  z212:=Tryz.sizeOf172
  v212:=Tryz.zeroValue172
  t213:=Tryz.underlying174
  a213:=Tryz.isAgg174
  z213:=Tryz.sizeOf174
  t232:=Tryz.underlying177
  a232:=Tryz.isAgg177
  z232:=Tryz.sizeOf177
  v232:=Tryz.zeroValue177
  t233:=Tryz.underlying178
  a233:=Tryz.isAgg178
  z233:=Tryz.sizeOf178
  v233:=Tryz.zeroValue178
  g17:=by kernel_rfl
  g18:=by kernel_rfl
  g19:=by kernel_rfl
  i0:=by kernel_rfl
  i2:=by kernel_rfl
  i3:=by kernel_rfl
  i4:=by kernel_rfl
  i5:=by kernel_rfl
  i9:=by kernel_rfl
  i20:=by kernel_rfl
  i37:=by kernel_rfl
  i46:=by kernel_rfl
  i51:=by kernel_rfl
  i53:=by kernel_rfl
  i171:=by kernel_rfl
  i173:=by kernel_rfl
  i212:=by kernel_rfl
  i232:=by kernel_rfl
  i233:=by kernel_rfl
  m17:=by kernel_rfl
  m18:=by kernel_rfl
  m19:=by kernel_rfl }
open Go.RowKit Go.Sort Go.Lib in
theorem Tryz.strconv_Itoa (n:Int)(h0: -9223372036854775808≤n)(h1:n≤9223372036854775807)(w:World)(htab:Lib.TabIs Tryz.prog w "internal/strconv.uint64pow10" .u64 Lib.pow10Tab):
    Calls Tryz.prog 151 #[.int .i64 n] w fun e w'=>e= .returned (.string ⟨(Lib.itoa n).toArray⟩)∧ ∃k os,w'=grow (w.drewN k) os:=Any.strconv_Itoa Tryz.laysM171 n h0 h1 w htab
end Go.Proofs
