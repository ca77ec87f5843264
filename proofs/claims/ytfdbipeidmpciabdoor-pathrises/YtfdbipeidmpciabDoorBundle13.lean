/- Bundled: PrefL SuffL CutL SplitL AtoiL ItoaL ParseW ParseX PathsK RisesK. What each says stands ahead of it. -/
import Derived.Shelf.Small.Wraps
import Derived.Shelf.Strings.Cut
import Derived.Shelf.Strings.Split
import Derived.Shelf.Strconv.AtoiAll
import Derived.Shelf.Strconv.Itoa3
import Derived.Test.YtfdbipeidmpciabDoorBundle11
import Derived.Test.YtfdbipeidmpciabDoorBundle12
import Derived.Lib.AppendIntMem
/-
  DERIVED: THE SHELF's CONTRACTS AT THIS DUMP, IN PLAIN WORDS (tools/lay-plain.mjs out of 'YtfdbipeidmpciabDoorPrefL.lean', which tools/lay-shelf.mjs wrote): THE SAME DECLARATIONS UNDER THE SAME NAMES: 'import', 'namespace', 'open', 'def', 'theorem' AND NOTHING ELSE: no command of the shelf's: FOR A HAND-IN. Each laying: the table of numbers ('.._ren') and one theorem, a field a fact of the dump's own or the kernel's comparison; each contract: ONE APPLICATION.
-/
namespace Go.Proofs
open Go.Shelf
def Tryd.lays103_ren:Go.Shelf.Ren:=⟨fun|103=>18|210=>25|206=>30|n=>n,fun|9=>9|4=>4|24=>54|3=>3|n=>n,fun|n=>n⟩
theorem Tryd.lays103:Go.Proofs.Lays.n103 Tryd.prog Tryd.lays103_ren:={
 mixed:=by kernel_rfl
 f103:=Tryd.func18.trans (congrArg some (by kernel_rfl))
 f206:=Tryd.func30.trans (congrArg some (by kernel_rfl))
 f210:=Tryd.func25.trans (congrArg some (by kernel_rfl))
 t3:=Tryd.underlying3
 a3:=Tryd.isAgg3
 z3:=Tryd.sizeOf3
 v3:=Tryd.zeroValue3
 t4:=Tryd.underlying4
 a4:=Tryd.isAgg4
 z4:=Tryd.sizeOf4
 v4:=Tryd.zeroValue4
 t9:=Tryd.underlying9
 a9:=Tryd.isAgg9
 z9:=Tryd.sizeOf9
 v9:=Tryd.zeroValue9
 t24:=Tryd.underlying54
 a24:=Tryd.isAgg54
 z24:=Tryd.sizeOf54
 v24:=Tryd.zeroValue54 }
open Go.RowKit in
/-- strings.CutPrefix: "CutPrefix returns s without the provided leading prefix string and reports whether it found the prefix. If s doesn't start with prefix, CutPrefix returns s, false. If prefix is the empty string, CutPrefix returns s, true.": IT RETURNS '(Lib.trimPrefix s p, Lib.hasPrefix s p)'; the world is as it was. (LAID: no walk: one application.) -/
theorem Tryd.strings_CutPrefix (s p:ByteArray)(w:World) :
 Calls Tryd.prog 18 #[.string s,.string p] w fun e w'=>e=.returned (.tuple #[.string ⟨(Lib.trimPrefix s.data.toList p.data.toList).toArray⟩,.bool (Lib.hasPrefix s.data.toList p.data.toList)])∧w'=w:=Any.strings_CutPrefix Tryd.lays103 s p w
end Go.Proofs
/-
  DERIVED: THE SHELF's CONTRACTS AT THIS DUMP, IN PLAIN WORDS (tools/lay-plain.mjs out of 'YtfdbipeidmpciabDoorSuffL.lean', which tools/lay-shelf.mjs wrote): THE SAME DECLARATIONS UNDER THE SAME NAMES: 'import', 'namespace', 'open', 'def', 'theorem' AND NOTHING ELSE: no command of the shelf's: FOR A HAND-IN. Each laying: the table of numbers ('.._ren') and one theorem, a field a fact of the dump's own or the kernel's comparison; each contract: ONE APPLICATION.
-/
namespace Go.Proofs
open Go.Shelf
def Tryd.lays104_ren:Go.Shelf.Ren:=⟨fun|104=>35|211=>43|207=>54|n=>n,fun|9=>9|4=>4|24=>54|3=>3|n=>n,fun|n=>n⟩
theorem Tryd.lays104:Go.Proofs.Lays.n104 Tryd.prog Tryd.lays104_ren:={
 mixed:=by kernel_rfl
 f104:=Tryd.func35.trans (congrArg some (by kernel_rfl))
 f207:=Tryd.func54.trans (congrArg some (by kernel_rfl))
 f211:=Tryd.func43.trans (congrArg some (by kernel_rfl))
 t3:=Tryd.underlying3
 a3:=Tryd.isAgg3
 z3:=Tryd.sizeOf3
 v3:=Tryd.zeroValue3
 t4:=Tryd.underlying4
 a4:=Tryd.isAgg4
 z4:=Tryd.sizeOf4
 v4:=Tryd.zeroValue4
 t9:=Tryd.underlying9
 a9:=Tryd.isAgg9
 z9:=Tryd.sizeOf9
 v9:=Tryd.zeroValue9
 t24:=Tryd.underlying54
 a24:=Tryd.isAgg54
 z24:=Tryd.sizeOf54
 v24:=Tryd.zeroValue54 }
open Go.RowKit in
/-- strings.CutSuffix: "CutSuffix returns s without the provided ending suffix string and reports whether it found the suffix. If s doesn't end with suffix, CutSuffix returns s, false. If suffix is the empty string, CutSuffix returns s, true.": IT RETURNS '(Lib.trimSuffix s p, Lib.hasSuffix s p)'; the world is as it was. (LAID: no walk: one application.) -/
theorem Tryd.strings_CutSuffix (s p:ByteArray)(w:World)(hs:s.size≤9223372036854775807) :
 Calls Tryd.prog 35 #[.string s,.string p] w fun e w'=>e=.returned (.tuple #[.string ⟨(Lib.trimSuffix s.data.toList p.data.toList).toArray⟩,.bool (Lib.hasSuffix s.data.toList p.data.toList)])∧w'=w:=Any.strings_CutSuffix Tryd.lays104 s p w hs
end Go.Proofs
/-
  DERIVED: THE SHELF's CONTRACTS AT THIS DUMP, IN PLAIN WORDS (tools/lay-plain.mjs out of 'YtfdbipeidmpciabDoorCutL.lean', which tools/lay-shelf.mjs wrote): THE SAME DECLARATIONS UNDER THE SAME NAMES: 'import', 'namespace', 'open', 'def', 'theorem' AND NOTHING ELSE: no command of the shelf's: FOR A HAND-IN. Each laying: the table of numbers ('.._ren') and one theorem, a field a fact of the dump's own or the kernel's comparison; each contract: ONE APPLICATION.
-/
namespace Go.Proofs
open Go.Shelf
def Tryd.lays145_ren:Go.Shelf.Ren:=⟨fun|145=>27|220=>34|219=>42|217=>50|225=>51|224=>52|267=>53|266=>61|314=>62|n=>n,fun|9=>9|4=>4|59=>67|3=>3|5=>5|46=>87|146=>101|51=>100|n=>n,fun|1=>0|n=>n⟩
theorem Tryd.lays145:Go.Proofs.Lays.n145 Tryd.prog Tryd.lays145_ren:={
 mixed:=by kernel_rfl
 f145:=Tryd.func27.trans (congrArg some (by kernel_rfl))
 f217:=Tryd.func50.trans (congrArg some (by kernel_rfl))
 f219:=Tryd.func42.trans (congrArg some (by kernel_rfl))
 f220:=Tryd.func34.trans (congrArg some (by kernel_rfl))
 f224:=Tryd.func52.trans (congrArg some (by kernel_rfl))
 f225:=Tryd.func51.trans (congrArg some (by kernel_rfl))
 f266:=Tryd.func61.trans (congrArg some (by kernel_rfl))
 f267:=Tryd.func53.trans (congrArg some (by kernel_rfl))
 f314:=Tryd.func62.trans (congrArg some (by kernel_rfl))
 t3:=Tryd.underlying3
 a3:=Tryd.isAgg3
 z3:=Tryd.sizeOf3
 v3:=Tryd.zeroValue3
 t4:=Tryd.underlying4
 a4:=Tryd.isAgg4
 z4:=Tryd.sizeOf4
 v4:=Tryd.zeroValue4
 t5:=Tryd.underlying5
 a5:=Tryd.isAgg5
 z5:=Tryd.sizeOf5
 v5:=Tryd.zeroValue5
 t9:=Tryd.underlying9
 a9:=Tryd.isAgg9
 z9:=Tryd.sizeOf9
 v9:=Tryd.zeroValue9
 t46:=Tryd.underlying87
 a46:=Tryd.isAgg87
 z46:=Tryd.sizeOf87
 v46:=Tryd.zeroValue87
 t51:=Tryd.underlying100
 a51:=Tryd.isAgg100
 z51:=Tryd.sizeOf100
 v51:=Tryd.zeroValue100
 t59:=Tryd.underlying67
 a59:=Tryd.isAgg67
 z59:=Tryd.sizeOf67
 v59:=Tryd.zeroValue67
 t146:=Tryd.underlying101
 a146:=Tryd.isAgg101
 z146:=Tryd.sizeOf101
 v146:=Tryd.zeroValue101
 g1:=by kernel_rfl }
open Go.RowKit Go.Lib in
/-- strings.Cut: "Cut slices s around the first instance of sep, returning the text before and after sep. The found result reports whether sep appears in s. If sep does not appear in s, cut returns s, "", false.": IT RETURNS 'Lib.cut s sep'; the world is as it was but for the count of draws. (LAID: no walk: one application.) -/
theorem Tryd.strings_Cut (s sep:ByteArray)(m:Int)(w:World)(hs:s.size<4294967281)(hm:w.cell? ⟨0,0,none⟩=some (.int .i64 m)) :
 Calls Tryd.prog 27 #[.string s,.string sep] w fun e w'=>e=.returned (.tuple #[.string ⟨(Lib.cut s.data.toList sep.data.toList).1.toArray⟩,.string ⟨(Lib.cut s.data.toList sep.data.toList).2.1.toArray⟩,.bool (Lib.cut s.data.toList sep.data.toList).2.2])∧∃ n,w'=w.drewN n:=Any.strings_Cut Tryd.lays145 s sep m w hs hm
end Go.Proofs
/-
  DERIVED: THE SHELF's CONTRACTS AT THIS DUMP, IN PLAIN WORDS (tools/lay-plain.mjs out of 'YtfdbipeidmpciabDoorSplitL.lean', which tools/lay-shelf.mjs wrote): THE SAME DECLARATIONS UNDER THE SAME NAMES: 'import', 'namespace', 'open', 'def', 'theorem' AND NOTHING ELSE: no command of the shelf's: FOR A HAND-IN. Each laying: the table of numbers ('.._ren') and one theorem, a field a fact of the dump's own or the kernel's comparison; each contract: ONE APPLICATION.
-/
namespace Go.Proofs
open Go.Shelf
def Tryd.lays146_ren:Go.Shelf.Ren:=⟨fun|146=>19|221=>26|268=>31|138=>32|143=>33|195=>39|197=>40|218=>41|219=>42|260=>49|217=>50|225=>51|224=>52|267=>53|266=>61|314=>62|n=>n,fun|9=>9|31=>56|3=>3|4=>4|0=>0|105=>81|21=>21|5=>5|46=>87|119=>96|139=>99|138=>98|146=>101|51=>100|n=>n,fun|1=>0|3=>1|4=>2|n=>n⟩
theorem Tryd.lays146:Go.Proofs.Lays.n146 Tryd.prog Tryd.lays146_ren:={
 mixed:=by kernel_rfl
 f138:=Tryd.func32.trans (congrArg some (by kernel_rfl))
 f143:=Tryd.func33.trans (congrArg some (by kernel_rfl))
 f146:=Tryd.func19.trans (congrArg some (by kernel_rfl))
 f195:=Tryd.func39.trans (congrArg some (by kernel_rfl))
 f197:=Tryd.func40.trans (congrArg some (by kernel_rfl))
 f217:=Tryd.func50.trans (congrArg some (by kernel_rfl))
 f218:=Tryd.func41.trans (congrArg some (by kernel_rfl))
 f219:=Tryd.func42.trans (congrArg some (by kernel_rfl))
 f221:=Tryd.func26.trans (congrArg some (by kernel_rfl))
 f224:=Tryd.func52.trans (congrArg some (by kernel_rfl))
 f225:=Tryd.func51.trans (congrArg some (by kernel_rfl))
 f260:=Tryd.func49.trans (congrArg some (by kernel_rfl))
 f266:=Tryd.func61.trans (congrArg some (by kernel_rfl))
 f267:=Tryd.func53.trans (congrArg some (by kernel_rfl))
 f268:=Tryd.func31.trans (congrArg some (by kernel_rfl))
 f314:=Tryd.func62.trans (congrArg some (by kernel_rfl))
 t0:=Tryd.underlying0
 a0:=Tryd.isAgg0
 z0:=Tryd.sizeOf0
 v0:=Tryd.zeroValue0
 t3:=Tryd.underlying3
 a3:=Tryd.isAgg3
 z3:=Tryd.sizeOf3
 v3:=Tryd.zeroValue3
 t4:=Tryd.underlying4
 a4:=Tryd.isAgg4
 z4:=Tryd.sizeOf4
 v4:=Tryd.zeroValue4
 t5:=Tryd.underlying5
 a5:=Tryd.isAgg5
 z5:=Tryd.sizeOf5
 v5:=Tryd.zeroValue5
 t9:=Tryd.underlying9
 a9:=Tryd.isAgg9
 z9:=Tryd.sizeOf9
 v9:=Tryd.zeroValue9
 t21:=Tryd.underlying21
 a21:=Tryd.isAgg21
 z21:=Tryd.sizeOf21
 v21:=Tryd.zeroValue21
 t31:=Tryd.underlying56
 a31:=Tryd.isAgg56
 z31:=Tryd.sizeOf56
 v31:=Tryd.zeroValue56
 t46:=Tryd.underlying87
 a46:=Tryd.isAgg87
 z46:=Tryd.sizeOf87
 v46:=Tryd.zeroValue87
 t51:=Tryd.underlying100
 a51:=Tryd.isAgg100
 z51:=Tryd.sizeOf100
 v51:=Tryd.zeroValue100
 t105:=Tryd.underlying81
 a105:=Tryd.isAgg81
 z105:=Tryd.sizeOf81
 v105:=Tryd.zeroValue81
 t119:=Tryd.underlying96
 a119:=Tryd.isAgg96
 z119:=Tryd.sizeOf96
 t138:=Tryd.underlying98
 a138:=Tryd.isAgg98
 z138:=Tryd.sizeOf98
 v138:=Tryd.zeroValue98
 t139:=Tryd.underlying99
 a139:=Tryd.isAgg99
 z139:=Tryd.sizeOf99
 v139:=Tryd.zeroValue99
 t146:=Tryd.underlying101
 a146:=Tryd.isAgg101
 z146:=Tryd.sizeOf101
 v146:=Tryd.zeroValue101
 g1:=by kernel_rfl
 g3:=by kernel_rfl
 g4:=by kernel_rfl }
open Go.RowKit Go.Lib in
/-- strings.Split. (LAID: no walk: one application.) -/
theorem Tryd.strings_Split (s sep:ByteArray)(m:Int)(w:World)(hs:s.size<4294967281)(hm:w.cell? ⟨0,0,none⟩=some (.int .i64 m))(h1:1≤sep.size) :
 Calls Tryd.prog 19 #[.string s,.string sep] w fun e w' =>
  e=.returned (.slice (some ⟨w.heap.size,0,none⟩) (Lib.countB s sep+1) (Lib.countB s sep+1))∧w'=w.alloc (.cells ((Lib.splitB sep 0 (Lib.countB s sep) s).map Value.string).toArray 9):=Any.strings_Split Tryd.lays146 (by kernel_rfl) s sep m w hs hm h1
end Go.Proofs
/-
  DERIVED: THE SHELF's CONTRACTS AT THIS DUMP, IN PLAIN WORDS (tools/lay-plain.mjs out of 'YtfdbipeidmpciabDoorAtoiL.lean', which tools/lay-shelf.mjs wrote): THE SAME DECLARATIONS UNDER THE SAME NAMES: 'import', 'namespace', 'open', 'def', 'theorem' AND NOTHING ELSE: no command of the shelf's: FOR A HAND-IN. Each laying: the table of numbers ('.._ren') and one theorem, a field a fact of the dump's own or the kernel's comparison; each contract: ONE APPLICATION.
-/
namespace Go.Proofs
open Go.Shelf
def Tryd.laysC172_ren:Go.Shelf.Ren:=⟨fun|172=>36|244=>44|245=>45|247=>55|279=>56|280=>57|281=>58|282=>59|287=>63|316=>64|171=>37|205=>65|321=>70|322=>71|243=>46|246=>60|283=>66|284=>67|285=>68|286=>69|129=>73|317=>72|318=>74|319=>75|320=>76|337=>77|338=>78|n=>n,fun|9=>9|3=>3|75=>76|76=>77|4=>4|5=>5|167=>88|37=>89|0=>0|85=>90|2=>2|168=>92|53=>103|175=>104|46=>87|210=>108|127=>116|145=>119|143=>117|21=>21|171=>110|173=>113|212=>121|51=>100|20=>20|213=>122|232=>126|233=>127|80=>128|n=>n,fun|15=>3|16=>4|17=>5|18=>6|19=>7|n=>n⟩
theorem Tryd.laysC172:Go.Proofs.LaysC.n172 Tryd.prog Tryd.laysC172_ren:={
 mixed:=by kernel_rfl
 f129:=Tryd.func73.trans (congrArg some (by kernel_rfl))
 f171:=Tryd.func37.trans (congrArg some (by kernel_rfl))
 f172:=Tryd.func36.trans (congrArg some (by kernel_rfl))
 f205:=Tryd.func65.trans (congrArg some (by kernel_rfl))
 f243:=Tryd.func46.trans (congrArg some (by kernel_rfl))
 f244:=Tryd.func44.trans (congrArg some (by kernel_rfl))
 f245:=Tryd.func45.trans (congrArg some (by kernel_rfl))
 f246:=Tryd.func60.trans (congrArg some (by kernel_rfl))
 f247:=Tryd.func55.trans (congrArg some (by kernel_rfl))
 f279:=Tryd.func56.trans (congrArg some (by kernel_rfl))
 f280:=Tryd.func57.trans (congrArg some (by kernel_rfl))
 f281:=Tryd.func58.trans (congrArg some (by kernel_rfl))
 f282:=Tryd.func59.trans (congrArg some (by kernel_rfl))
 f283:=Tryd.func66.trans (congrArg some (by kernel_rfl))
 f284:=Tryd.func67.trans (congrArg some (by kernel_rfl))
 f285:=Tryd.func68.trans (congrArg some (by kernel_rfl))
 f286:=Tryd.func69.trans (congrArg some (by kernel_rfl))
 f287:=Tryd.func63.trans (congrArg some (by kernel_rfl))
 f316:=Tryd.func64.trans (congrArg some (by kernel_rfl))
 f317:=Tryd.func72.trans (congrArg some (by kernel_rfl))
 f318:=Tryd.func74.trans (congrArg some (by kernel_rfl))
 f319:=Tryd.func75.trans (congrArg some (by kernel_rfl))
 f320:=Tryd.func76.trans (congrArg some (by kernel_rfl))
 f321:=Tryd.func70.trans (congrArg some (by kernel_rfl))
 f322:=Tryd.func71.trans (congrArg some (by kernel_rfl))
 f337:=Tryd.func77.trans (congrArg some (by kernel_rfl))
 f338:=Tryd.func78.trans (congrArg some (by kernel_rfl))
 t0:=Tryd.underlying0
 a0:=Tryd.isAgg0
 z0:=Tryd.sizeOf0
 v0:=Tryd.zeroValue0
 t2:=Tryd.underlying2
 a2:=Tryd.isAgg2
 z2:=Tryd.sizeOf2
 v2:=Tryd.zeroValue2
 t3:=Tryd.underlying3
 a3:=Tryd.isAgg3
 z3:=Tryd.sizeOf3
 v3:=Tryd.zeroValue3
 t4:=Tryd.underlying4
 a4:=Tryd.isAgg4
 z4:=Tryd.sizeOf4
 v4:=Tryd.zeroValue4
 t5:=Tryd.underlying5
 a5:=Tryd.isAgg5
 z5:=Tryd.sizeOf5
 v5:=Tryd.zeroValue5
 t9:=Tryd.underlying9
 a9:=Tryd.isAgg9
 z9:=Tryd.sizeOf9
 v9:=Tryd.zeroValue9
 t20:=Tryd.underlying20
 a20:=Tryd.isAgg20
 z20:=Tryd.sizeOf20
 v20:=Tryd.zeroValue20
 t21:=Tryd.underlying21
 a21:=Tryd.isAgg21
 z21:=Tryd.sizeOf21
 v21:=Tryd.zeroValue21
 t37:=Tryd.underlying89
 a37:=Tryd.isAgg89
 z37:=Tryd.sizeOf89
 v37:=Tryd.zeroValue89
 t46:=Tryd.underlying87
 a46:=Tryd.isAgg87
 z46:=Tryd.sizeOf87
 v46:=Tryd.zeroValue87
 t51:=Tryd.underlying100
 a51:=Tryd.isAgg100
 z51:=Tryd.sizeOf100
 v51:=Tryd.zeroValue100
 t53:=Tryd.underlying103
 a53:=Tryd.isAgg103
 z53:=Tryd.sizeOf103
 v53:=Tryd.zeroValue103
 t75:=Tryd.underlying76
 a75:=Tryd.isAgg76
 z75:=Tryd.sizeOf76
 v75:=Tryd.zeroValue76
 t76:=Tryd.underlying77
 a76:=Tryd.isAgg77
 z76:=Tryd.sizeOf77
 v76:=Tryd.zeroValue77
 t85:=Tryd.underlying90
 a85:=Tryd.isAgg90
 z85:=Tryd.sizeOf90
 v85:=Tryd.zeroValue90
 t127:=Tryd.underlying116
 a127:=Tryd.isAgg116
 z127:=Tryd.sizeOf116
 v127:=Tryd.zeroValue116
 t143:=Tryd.underlying117
 a143:=Tryd.isAgg117
 z143:=Tryd.sizeOf117
 v143:=Tryd.zeroValue117
 t145:=Tryd.underlying119
 a145:=Tryd.isAgg119
 z145:=Tryd.sizeOf119
 v145:=Tryd.zeroValue119
 t167:=Tryd.underlying88
 a167:=Tryd.isAgg88
 z167:=Tryd.sizeOf88
 v167:=Tryd.zeroValue88
 t168:=Tryd.underlying92
 a168:=Tryd.isAgg92
 z168:=Tryd.sizeOf92
 v168:=Tryd.zeroValue92
 t171:=Tryd.underlying110
 a171:=Tryd.isAgg110
 z171:=Tryd.sizeOf110
 v171:=Tryd.zeroValue110
 t173:=Tryd.underlying113
 a173:=Tryd.isAgg113
 z173:=Tryd.sizeOf113
 v173:=Tryd.zeroValue113
 t175:=Tryd.underlying104
 a175:=Tryd.isAgg104
 z175:=Tryd.sizeOf104
 v175:=Tryd.zeroValue104
 t210:=Tryd.underlying108
 a210:=Tryd.isAgg108
 z210:=Tryd.sizeOf108
 v210:=Tryd.zeroValue108
 t212:=Tryd.underlying121
 a212:=Tryd.isAgg121
 z212:=Tryd.sizeOf121
 v212:=Tryd.zeroValue121
 t213:=Tryd.underlying122
 a213:=Tryd.isAgg122
 z213:=Tryd.sizeOf122
 t232:=Tryd.underlying126
 a232:=Tryd.isAgg126
 z232:=Tryd.sizeOf126
 v232:=Tryd.zeroValue126
 t233:=Tryd.underlying127
 a233:=Tryd.isAgg127
 z233:=Tryd.sizeOf127
 v233:=Tryd.zeroValue127
 g15:=by kernel_rfl
 g16:=by kernel_rfl
 g17:=by kernel_rfl
 g18:=by kernel_rfl
 g19:=by kernel_rfl
 t80:=Tryd.underlying128
 a80:=Tryd.isAgg128
 z80:=Tryd.sizeOf128
 v80:=Tryd.zeroValue128
 i0:=by kernel_rfl
 i2:=by kernel_rfl
 i3:=by kernel_rfl
 i4:=by kernel_rfl
 i5:=by kernel_rfl
 i9:=by kernel_rfl
 i20:=by kernel_rfl
 i21:=by kernel_rfl
 i37:=by kernel_rfl
 i46:=by kernel_rfl
 i51:=by kernel_rfl
 i53:=by kernel_rfl
 i75:=by kernel_rfl
 i76:=by kernel_rfl
 i80:=by kernel_rfl
 i85:=by kernel_rfl
 i127:=by kernel_rfl
 i143:=by kernel_rfl
 i145:=by kernel_rfl
 i167:=by kernel_rfl
 i168:=by kernel_rfl
 i171:=by kernel_rfl
 i173:=by kernel_rfl
 i175:=by kernel_rfl
 i210:=by kernel_rfl
 i212:=by kernel_rfl
 i232:=by kernel_rfl
 i233:=by kernel_rfl
 m15:=by kernel_rfl
 m16:=by kernel_rfl
 m17:=by kernel_rfl
 m18:=by kernel_rfl
 m19:=by kernel_rfl
 c0:=by kernel_rfl
 c2:=by kernel_rfl
 c3:=by kernel_rfl
 c4:=by kernel_rfl
 c5:=by kernel_rfl
 c9:=by kernel_rfl
 c20:=by kernel_rfl
 c21:=by kernel_rfl
 c37:=by kernel_rfl
 c46:=by kernel_rfl
 c51:=by kernel_rfl
 c53:=by kernel_rfl
 c75:=by kernel_rfl
 c76:=by kernel_rfl
 c80:=by kernel_rfl
 c85:=by kernel_rfl
 c127:=by kernel_rfl
 c143:=by kernel_rfl
 c145:=by kernel_rfl
 c167:=by kernel_rfl
 c168:=by kernel_rfl
 c171:=by kernel_rfl
 c173:=by kernel_rfl
 c175:=by kernel_rfl
 c210:=by kernel_rfl
 c212:=by kernel_rfl
 c213:=by kernel_rfl
 c232:=by kernel_rfl
 c233:=by kernel_rfl }
open Go.RowKit in
/-- strconv.Atoi, AT EVERY STRING THAT SPELLS AN int ('Lib.atoiAll .. = .ok v'; of whatever length: leading zeros count): v, AND NO ERROR. The world: as it was, or with the one new row that '[]byte(..)' lays. (LAID: no walk: one application.) -/
theorem Tryd.strconv_Atoi_ok (s:ByteArray)(hmax:s.size≤9223372036854775806)(v:Int)(h:Lib.atoiAll s.data.toList=.ok v)(w:World) :
 Calls Tryd.prog 36 #[.string s] w fun e w'=>e=.returned (.tuple #[.int .i64 v,.nilIface])∧(w'=w∨∃ t,w'=Lib.bytesWorld w 5 t):=Any.strconv_Atoi_ok Tryd.laysC172 s hmax v h w
open Go.RowKit in
/-- strconv.Atoi, AT EVERY STRING THAT IS NO DECIMAL NUMERAL ('.syntax'): 0, AND AN ERROR THAT IS NOT nil: a *NumError in a new block N: {Func: "Atoi", Num: s's bytes, Err: what the variable ErrSyntax holds}. Of what was there nothing has turned. (LAID: no walk: one application.) -/
theorem Tryd.strconv_Atoi_syntax (s:ByteArray)(hlim:s.size≤281474976710656)(h:Lib.atoiAll s.data.toList=.«syntax»)(ev:Value)(w:World)(hv:w.cell? ⟨3,0,none⟩=some ev)(hev:ev=.nilIface∨∃ te pe,ev=.iface te pe) :
 Calls Tryd.prog 36 #[.string s] w fun e w'=>∃ N,e=.returned (.tuple #[.int .i64 (0),.iface 92 (.pointer (some ⟨N,0,none⟩))])∧w.heap.size≤N∧w'.heap[N]?=some (.cells #[.string ⟨#[65,116,111,105]⟩,.string s,ev] 108 (0,0))∧Below w.heap.size w w':=Any.strconv_Atoi_syntax Tryd.laysC172 s hlim h ev w hv hev
open Go.RowKit in
/-- strconv.Atoi, AT EVERY NUMERAL THAT NO int HOLDS ('.range'): THE GREATEST OR THE LEAST int, BY THE SIGN ('Lib.atoiSat'), AND AN ERROR THAT IS NOT nil: a *NumError in a new block N: {Func: "Atoi", Num: s's bytes, Err: what the variable ErrRange holds}. Of what was there nothing has turned. (LAID: no walk: one application.) -/
theorem Tryd.strconv_Atoi_range (s:ByteArray)(hlim:s.size≤281474976710656)(h:Lib.atoiAll s.data.toList=.range)(ev:Value)(w:World)(hv:w.cell? ⟨4,0,none⟩=some ev)(hev:ev=.nilIface∨∃ te pe,ev=.iface te pe) :
 Calls Tryd.prog 36 #[.string s] w fun e w'=>∃ N,e=.returned (.tuple #[.int .i64 (Lib.atoiSat s.data.toList),.iface 92 (.pointer (some ⟨N,0,none⟩))])∧w.heap.size≤N∧w'.heap[N]?=some (.cells #[.string ⟨#[65,116,111,105]⟩,.string s,ev] 108 (0,0))∧Below w.heap.size w w':=Any.strconv_Atoi_range Tryd.laysC172 s hlim h ev w hv hev
end Go.Proofs
/-
  DERIVED: THE SHELF's CONTRACTS AT THIS DUMP, IN PLAIN WORDS (tools/lay-plain.mjs out of 'YtfdbipeidmpciabDoorItoaL.lean', which tools/lay-shelf.mjs wrote): THE SAME DECLARATIONS UNDER THE SAME NAMES: 'import', 'namespace', 'open', 'def', 'theorem' AND NOTHING ELSE: no command of the shelf's: FOR A HAND-IN. Each laying: the table of numbers ('.._ren') and one theorem, a field a fact of the dump's own or the kernel's comparison; each contract: ONE APPLICATION.
-/
namespace Go.Proofs
open Go.Shelf
def Tryd.laysM171_ren:Go.Shelf.Ren:=⟨fun|171=>37|243=>46|246=>60|283=>66|284=>67|285=>68|286=>69|129=>73|317=>72|318=>74|319=>75|320=>76|337=>77|338=>78|n=>n,fun|3=>3|9=>9|2=>2|4=>4|171=>110|0=>0|53=>103|37=>89|5=>5|173=>113|212=>121|51=>100|20=>20|213=>122|46=>87|232=>126|233=>127|n=>n,fun|17=>5|18=>6|19=>7|n=>n⟩
theorem Tryd.laysM171:Go.Proofs.LaysM.n171 Tryd.prog Tryd.laysM171_ren:={
 mixed:=by kernel_rfl
 f129:=Tryd.func73.trans (congrArg some (by kernel_rfl))
 f171:=Tryd.func37.trans (congrArg some (by kernel_rfl))
 f243:=Tryd.func46.trans (congrArg some (by kernel_rfl))
 f246:=Tryd.func60.trans (congrArg some (by kernel_rfl))
 f283:=Tryd.func66.trans (congrArg some (by kernel_rfl))
 f284:=Tryd.func67.trans (congrArg some (by kernel_rfl))
 f285:=Tryd.func68.trans (congrArg some (by kernel_rfl))
 f286:=Tryd.func69.trans (congrArg some (by kernel_rfl))
 f317:=Tryd.func72.trans (congrArg some (by kernel_rfl))
 f318:=Tryd.func74.trans (congrArg some (by kernel_rfl))
 f319:=Tryd.func75.trans (congrArg some (by kernel_rfl))
 f320:=Tryd.func76.trans (congrArg some (by kernel_rfl))
 f337:=Tryd.func77.trans (congrArg some (by kernel_rfl))
 f338:=Tryd.func78.trans (congrArg some (by kernel_rfl))
 t0:=Tryd.underlying0
 a0:=Tryd.isAgg0
 z0:=Tryd.sizeOf0
 v0:=Tryd.zeroValue0
 t2:=Tryd.underlying2
 a2:=Tryd.isAgg2
 z2:=Tryd.sizeOf2
 v2:=Tryd.zeroValue2
 t3:=Tryd.underlying3
 a3:=Tryd.isAgg3
 z3:=Tryd.sizeOf3
 v3:=Tryd.zeroValue3
 t4:=Tryd.underlying4
 a4:=Tryd.isAgg4
 z4:=Tryd.sizeOf4
 v4:=Tryd.zeroValue4
 t5:=Tryd.underlying5
 a5:=Tryd.isAgg5
 z5:=Tryd.sizeOf5
 v5:=Tryd.zeroValue5
 t9:=Tryd.underlying9
 a9:=Tryd.isAgg9
 z9:=Tryd.sizeOf9
 v9:=Tryd.zeroValue9
 t20:=Tryd.underlying20
 a20:=Tryd.isAgg20
 z20:=Tryd.sizeOf20
 v20:=Tryd.zeroValue20
 t37:=Tryd.underlying89
 a37:=Tryd.isAgg89
 z37:=Tryd.sizeOf89
 v37:=Tryd.zeroValue89
 t46:=Tryd.underlying87
 a46:=Tryd.isAgg87
 z46:=Tryd.sizeOf87
 v46:=Tryd.zeroValue87
 t51:=Tryd.underlying100
 a51:=Tryd.isAgg100
 z51:=Tryd.sizeOf100
 v51:=Tryd.zeroValue100
 t53:=Tryd.underlying103
 a53:=Tryd.isAgg103
 z53:=Tryd.sizeOf103
 v53:=Tryd.zeroValue103
 t171:=Tryd.underlying110
 a171:=Tryd.isAgg110
 z171:=Tryd.sizeOf110
 v171:=Tryd.zeroValue110
 t173:=Tryd.underlying113
 a173:=Tryd.isAgg113
 z173:=Tryd.sizeOf113
 v173:=Tryd.zeroValue113
 t212:=Tryd.underlying121
 a212:=Tryd.isAgg121
 z212:=Tryd.sizeOf121
 v212:=Tryd.zeroValue121
 t213:=Tryd.underlying122
 a213:=Tryd.isAgg122
 z213:=Tryd.sizeOf122
 t232:=Tryd.underlying126
 a232:=Tryd.isAgg126
 z232:=Tryd.sizeOf126
 v232:=Tryd.zeroValue126
 t233:=Tryd.underlying127
 a233:=Tryd.isAgg127
 z233:=Tryd.sizeOf127
 v233:=Tryd.zeroValue127
 g17:=by kernel_rfl
 g18:=by kernel_rfl
 g19:=by kernel_rfl
 i0:=by kernel_rfl
 i2:=by kernel_rfl
 i3:=by kernel_rfl
 i4:=by kernel_rfl
 i5:=by kernel_rfl
 i9:=by kernel_rfl
 i20:=by kernel_rfl
 i37:=by kernel_rfl
 i46:=by kernel_rfl
 i51:=by kernel_rfl
 i53:=by kernel_rfl
 i171:=by kernel_rfl
 i173:=by kernel_rfl
 i212:=by kernel_rfl
 i232:=by kernel_rfl
 i233:=by kernel_rfl
 m17:=by kernel_rfl
 m18:=by kernel_rfl
 m19:=by kernel_rfl }
open Go.RowKit Go.Sort Go.Lib in
/-- strconv.Itoa: "Itoa is equivalent to FormatInt(int64(i), 10).": i's DECIMAL NUMERAL ('Lib.itoa': a '-' where i is negative, then the digits), FOR EVERY int. The world behind the call: the world before it, new blocks behind the heap (the library's 'var a [24]byte'), draws. (LAID: no walk: one application.) -/
theorem Tryd.strconv_Itoa (n : Int) (h0 : -9223372036854775808 ≤ n) (h1 : n ≤ 9223372036854775807) (w : World) (htab : Lib.TabIs Tryd.prog w "internal/strconv.uint64pow10" .u64 Lib.pow10Tab) :
 Calls Tryd.prog 37 #[.int .i64 n] w fun e w'=>e=.returned (.string ⟨(Lib.itoa n).toArray⟩)∧∃ k os,w'=grow (w.drewN k) os:=Any.strconv_Itoa Tryd.laysM171 n h0 h1 w htab
end Go.Proofs
namespace Go.Proofs.YtfdbipeidmpciabDoor
open Go.ChangeShapes Go.WideShapes Go.ChangeAt Go.RowKit
set_option maxRecDepth 100000
section
attribute [local go_sem] qc
structure ze (w:World):Prop where
 max:∃ m,w.cell? ⟨0,0,none⟩=some (.int .i64 m)
 syn:∃ ev,w.cell? ⟨3,0,none⟩=some ev∧(ev=.nilIface∨∃ te pe,ev=.iface te pe)
 rng:∃ ev,w.cell? ⟨4,0,none⟩=some ev∧(ev=.nilIface∨∃ te pe,ev=.iface te pe)
 tab : Lib.TabIs Tryd.prog w "internal/strconv.uint64pow10" .u64 Lib.pow10Tab
theorem zK {P:Program}{w w':World}{name:String}{k:IntKind}{zs:List Int}(h:Lib.TabIs P w name k zs)(hb:Below w.heap.size w w'):Lib.TabIs P w' name k zs:=by
 unfold Lib.TabIs World.var? at h ⊢
 cases hg:P.globalNamed name with
 | none=>simp[hg]at h
 | some g =>
   simp only[hg,Option.bind_some]at h ⊢
   have hlt:g<w.heap.size:=by
    rcases Nat.lt_or_ge g w.heap.size with h'|h'
    · exact h'
    · simp[Array.getElem?_eq_none h']at h
   rw[hb.block g hlt];exact h
theorem ze.later {w w':World}(h:ze w)(hb:Below w.heap.size w w'):ze w':=by
 obtain ⟨⟨m,hm⟩,⟨e1,h1,k1⟩,⟨e2,h2,k2⟩,ht⟩:=h;refine ⟨⟨m,?_⟩,⟨e1,?_,k1⟩,⟨e2,?_,k2⟩,zK ht hb⟩
 · rw[hb.cell (World.block_lt_of_cell? w _ hm)];exact hm
 · rw[hb.cell (World.block_lt_of_cell? w _ h1)];exact h1
 · rw[hb.cell (World.block_lt_of_cell? w _ h2)];exact h2
set_option maxHeartbeats 2000000 in
theorem yy (s:ByteArray)(w:World)(hE:ze w)(hs:s.size≤2500) :
 Calls Tryd.prog 28 #[.string s] w fun e w'=>e=.returned (.tuple #[.int .i64 ((qx s.data.toList).getD 0),.bool (qx s.data.toList).isSome])∧Below w.heap.size w w':=by
 obtain ⟨hm,⟨e1,h1,k1⟩,⟨e2,h2,k2⟩,ht⟩:=hE;obtain ⟨D,hD⟩:∃ D:List UInt8,Lib.trimSuffix s.data.toList [93]=D:=⟨_,rfl⟩;obtain ⟨C,hC⟩:∃ C,Lib.hasSuffix s.data.toList [93]=C:=⟨_,rfl⟩
 have HIR:Hid (qx s.data.toList=match Lib.atoiAll D with|.ok n=>if C=true∧n≠0∧Lib.itoa n=D then some n else none|_=>none):=by
  show _=_
  unfold qx;rw[hD,hC];cases Lib.atoiAll D<;>rfl
 have hDl:D.length≤2500:=by
  rw[←hD];unfold Lib.trimSuffix;have:s.data.toList.length=s.size:=by rw[Array.length_toList];rfl
  split
  · rw[List.length_take];omega
  · omega
 have hDs:(⟨D.toArray⟩:ByteArray).size≤2500:=by show D.toArray.size≤2500;simpa using hDl
 have HCS:Hid _:=Tryd.strings_CutSuffix s ⟨#[93]⟩ w (by omega)
 rw[show (⟨#[93]⟩:ByteArray).data.toList=[93] from rfl,hD,hC]at HCS
 have hDd:(⟨D.toArray⟩:ByteArray).data.toList=D:=by simp
 have HIT:Hid (∀ n:Int,-9223372036854775808≤n→n≤9223372036854775807→∀ W,Below w.heap.size w W→Calls Tryd.prog 37 #[.int .i64 n] W fun e w'=>e=.returned (.string ⟨(Lib.itoa n).toArray⟩)∧Below w.heap.size w w'):=by
  intro n g0 g1 W hW;refine (Tryd.strconv_Itoa n g0 g1 W (zK ht hW)).mono ?_;rintro e w' ⟨rfl,k,os,rfl⟩;exact ⟨rfl,hW.trans ((Lib.below_grow _ W (nR9 _) k os).mono hW.size)⟩
 cases hat:Lib.atoiAll D with
 | ok n =>
   obtain ⟨n0,n1⟩:=Lib.atoiAll_bounds hat
   have HA:Hid (Calls Tryd.prog 36 #[.string ⟨D.toArray⟩] w fun e w'=>e=.returned (.tuple #[.int .i64 n,.nilIface])∧Below w.heap.size w w'):=by
    refine (Tryd.strconv_Atoi_ok ⟨D.toArray⟩ (by omega) n (by rw[hDd];exact hat) w).mono ?_
    rintro e w' ⟨rfl,hw⟩
    rcases hw with rfl|⟨t,rfl⟩
    · exact ⟨rfl,Below.refl _ _⟩
    · exact ⟨rfl,Lib.bytesWorld_below _ _ _⟩
   have HI2:Hid (∀ W,Below w.heap.size w W→Calls Tryd.prog 37 #[.int .i64 n] W fun e w'=>e=.returned (.string ⟨(Lib.itoa n).toArray⟩)∧Below w.heap.size w w'):=HIT.out n n0 n1
   rw[hat]at HIR
   have HIR2:Hid (qx s.data.toList=if C=true∧n≠0∧Lib.itoa n=D then some n else none):=HIR.out
   clear HIR hat hD hC hm h1 k1 h2 k2 ht hDl hDs hDd HIT hs;cases C with
   | false =>
     have HE:Hid (qx s.data.toList=none):=by show _=_;rw[HIR2.out];simp
     clear HIR2
     go_enter Tryd.func28,Tryd.ntmps28
     go_wp2_with fail;refine (Calls.mono HCS.out ?_);rintro e w1 ⟨rfl,rfl⟩;go_wp2_with fail;refine (Calls.mono HA.out ?_);rintro e w2 ⟨rfl,hb2⟩;go_wp2_with fail
     go_ret2
     exact ⟨by rw[HE.out];rfl,hb2⟩
   | true =>
     by_cases hn:n=0
     · have HE : Hid (qx s.data.toList = none) := by show _ = _;rw[HIR2.out];simp[hn]
       clear HIR2
       go_enter Tryd.func28,Tryd.ntmps28
       go_wp2_with fail;refine (Calls.mono HCS.out ?_);rintro e w1 ⟨rfl,rfl⟩;go_wp2_with fail;refine (Calls.mono HA.out ?_);rintro e w2 ⟨rfl,hb2⟩;go_wp2_with fail
       go_ret2
       exact ⟨by rw[HE.out];rfl,hb2⟩
     · by_cases hi : Lib.itoa n = D
       · have HE : Hid (qx s.data.toList = some n) := by show _ = _;rw[HIR2.out];simp[hn, hi]
         rw[hi]at HI2
         clear HIR2 hi
         go_enter Tryd.func28,Tryd.ntmps28
         go_wp2_with fail;refine (Calls.mono HCS.out ?_);rintro e w1 ⟨rfl,rfl⟩;go_wp2_with fail;refine (Calls.mono HA.out ?_);rintro e w2 ⟨rfl,hb2⟩;go_wp2_with fail;refine (Calls.mono (HI2.out _ hb2) ?_);rintro e w3 ⟨rfl,hb3⟩;go_wp2_with fail
         go_ret2
         exact ⟨by rw[HE.out];rfl,hb3⟩
       · have HE : Hid (qx s.data.toList = none) := by show _ = _;rw[HIR2.out];simp[hi]
         obtain ⟨I,hI⟩:∃ I,Lib.itoa n=I:=⟨_,rfl⟩;rw[hI]at HI2 hi
         have hid:(I==D)=false:=by simpa using hi
         clear HIR2 hI
         go_enter Tryd.func28,Tryd.ntmps28
         go_wp2_with fail;refine (Calls.mono HCS.out ?_);rintro e w1 ⟨rfl,rfl⟩;go_wp2_with fail;refine (Calls.mono HA.out ?_);rintro e w2 ⟨rfl,hb2⟩;go_wp2_with fail;refine (Calls.mono (HI2.out _ hb2) ?_);rintro e w3 ⟨rfl,hb3⟩;go_wp2_with fail
         go_ret2
         exact ⟨by rw[HE.out];rfl,hb3⟩
 | «syntax» =>
   have HA:Hid (Calls Tryd.prog 36 #[.string ⟨D.toArray⟩] w fun e w'=>∃ N,e=.returned (.tuple #[.int .i64 0,.iface 92 (.pointer (some ⟨N,0,none⟩))])∧Below w.heap.size w w'):=by
    refine (Tryd.strconv_Atoi_syntax ⟨D.toArray⟩ (by omega) (by rw[hDd];exact hat) e1 w h1 k1).mono ?_
    rintro e w' ⟨N,rfl,_,_,hb⟩;exact ⟨N,rfl,hb⟩
   have HE:Hid (qx s.data.toList=none):=by show _=_;rw[HIR.out,hat]
   clear HIR hat hD hC hm h1 k1 h2 k2 ht hDl hDs hDd HIT hs;cases C <;>
   · go_enter Tryd.func28, Tryd.ntmps28
     go_wp2_with fail;refine (Calls.mono HCS.out ?_);rintro e w1 ⟨rfl,rfl⟩;go_wp2_with fail;refine (Calls.mono HA.out ?_);rintro e w2 ⟨N,rfl,hb2⟩;go_wp2_with fail
     go_ret2
     exact ⟨by rw[HE.out];rfl,hb2⟩
 | range =>
   have HA:Hid (Calls Tryd.prog 36 #[.string ⟨D.toArray⟩] w fun e w'=>∃ N,e=.returned (.tuple #[.int .i64 (Lib.atoiSat D),.iface 92 (.pointer (some ⟨N,0,none⟩))])∧Below w.heap.size w w'):=by
    refine (Tryd.strconv_Atoi_range ⟨D.toArray⟩ (by omega) (by rw[hDd];exact hat) e2 w h2 k2).mono ?_
    rintro e w' ⟨N,rfl,_,_,hb⟩;rw[hDd];exact ⟨N,rfl,hb⟩
   have HE:Hid (qx s.data.toList=none):=by show _=_;rw[HIR.out,hat]
   clear HIR hat hD hC hm h1 k1 h2 k2 ht hDl hDs hDd HIT hs;cases C <;>
   · go_enter Tryd.func28, Tryd.ntmps28
     go_wp2_with fail;refine (Calls.mono HCS.out ?_);rintro e w1 ⟨rfl,rfl⟩;go_wp2_with fail;refine (Calls.mono HA.out ?_);rintro e w2 ⟨N,rfl,hb2⟩;go_wp2_with fail
     go_ret2
     exact ⟨by rw[HE.out];rfl,hb2⟩
theorem y5 {p:List UInt8}{A B:List UInt8}{F:Bool}(h:Lib.cut p [91]=(A,B,F)):A.length≤p.length∧B.length≤p.length:=by
 rcases jY 91 p with ⟨_,hc⟩|⟨a,b,rfl,_,hc⟩
 · rw[h]at hc
   simp only[Prod.mk.injEq]at hc
   rw[hc.1,hc.2.1];simp
 · rw[h]at hc
   simp only[Prod.mk.injEq]at hc
   rw[hc.1,hc.2.1];simp;omega
theorem qI (w:World)(n:Nat):Below w.heap.size w (w.drewN n):=by
 induction n with
 | zero=>exact Below.refl _ _
 | succ n ih=>exact ih.drew
set_option maxHeartbeats 2000000 in
theorem yT (s:ByteArray)(w:World)(hE:ze w)(hs:s.size≤2500) :
 Calls Tryd.prog 20 #[.string s] w fun e w'=>∃ nm n,e=.returned (.tuple #[.agg #[.string nm,.int .i64 n],.bool (qT s.data.toList).isSome])∧(∀ st,qT s.data.toList=some st→nm=⟨st.1.toArray⟩∧n=st.2)∧Below w.heap.size w w':=by
 have hb1:=Below.alloc1 w (.cells #[.string ⟨#[]⟩,.int .i64 0] 37);have hx1:=heap_alloc_new w (.cells #[.string ⟨#[]⟩,.int .i64 0] 37);obtain ⟨m,hm⟩:=(hE.later hb1).max;obtain ⟨A,B,F,hcut⟩:∃ A B F,Lib.cut s.data.toList [91]=(A,B,F):=⟨_,_,_,rfl⟩;have hlen:s.data.toList.length=s.size:=by rw[Array.length_toList];rfl
 have hAB:=y5 hcut;have HC:Hid _:=Tryd.strings_Cut s ⟨#[91]⟩ m _ (by omega) hm
 rw[show (⟨#[91]⟩:ByteArray).data.toList=[91] from rfl,hcut]at HC
 have HS:Hid (qT s.data.toList=if A=[] then none else if F=false then some (if A=[35] then [] else A,0) else (qx B).map fun n=>(if A=[35] then [] else A,n)):=by
  show _=_
  unfold qT;rw[hcut]
 have hBs:(⟨B.toArray⟩:ByteArray).size≤2500:=by show B.toArray.size≤2500;simp;omega
 have hBd:(⟨B.toArray⟩:ByteArray).data.toList=B:=by simp
 have HRI:Hid (∀ W,Below w.heap.size w W→Calls Tryd.prog 28 #[.string ⟨B.toArray⟩] W fun e w'=>e=.returned (.tuple #[.int .i64 ((qx B).getD 0),.bool (qx B).isSome])∧Below W.heap.size W w'):=by
  intro W hW;have:=yy ⟨B.toArray⟩ W (hE.later hW) hBs;rw[hBd]at this
  exact this
 have hAl:∀ c:List UInt8,(⟨A.toArray⟩:ByteArray).toList=c↔A=c:=by
  intro c;rw[ByteArray.toList_eq]
 clear hE hm hs hlen hAB hBs hBd hcut
 by_cases hA:A=[]
 · have HE : Hid (qT s.data.toList = none) := by show _ = _;rw[HS.out, if_pos hA]
   clear HS HRI hAl;subst hA
   go_enter Tryd.func20,Tryd.ntmps20
   go_wp2_with fail;refine (Calls.mono HC.out ?_);rintro e w2 ⟨rfl,k,rfl⟩;have hb2:=qI (w.alloc (.cells #[.string ⟨#[]⟩,.int .i64 0] 37)) k
   generalize (w.alloc (.cells #[.string ⟨#[]⟩,.int .i64 0] 37)).drewN k=w2 at *
   have hx2:=(hb2.block _ (qh hx1)).trans hx1;have hB2:Below w.heap.size w w2:=hb1.trans (hb2.mono hb1.size);have p0:w2.cell? ⟨w.heap.size,0,none⟩=some (.string ⟨#[]⟩):=by rw[cH9 hx2];rfl
   have p1:w2.cell? ⟨w.heap.size,1,none⟩=some (.int .i64 0):=by rw[cH9 hx2];rfl
   have f0:w2.frozen? ⟨w.heap.size,0,none⟩=false:=fH9 hx2 0;have f1:w2.frozen? ⟨w.heap.size,1,none⟩=false:=fH9 hx2 1;clear hb1 hx1 hb2 HC;clear hx2;go_wp2_with fail;refine bodyPost_ret (v:=.tuple #[.agg #[.string ⟨#[]⟩,.int .i64 0],.bool false]) (by simp[results,Tryd.results20,go_sem,qc,p0,p1,World.cell?_setCell_other]) rfl ?_
   refine ⟨⟨#[]⟩,0,by rw[HE.out];rfl,(by intro st h;rw[HE.out]at h;cases h),?_⟩
   exact (hB2.setCell (p:=⟨w.heap.size,0,none⟩) (nR9 _) _).setCell (p:=⟨w.heap.size,1,none⟩) (nR9 _) _
 · obtain ⟨nm, hnm⟩ : ∃ nm, (if A = [35] then [] else A) = nm := ⟨_, rfl⟩
   cases F with
   | false =>
     have HE:Hid (qT s.data.toList=some (nm,0)):=by show _=_;rw[HS.out,if_neg hA,if_pos rfl,hnm]
     clear HS HRI
     by_cases h35:A=[35]
     · have hN : nm = [] := by rw[←hnm, if_pos h35]
       clear hnm hA hAl;subst h35 hN
       go_enter Tryd.func20,Tryd.ntmps20
       go_wp2_with fail;refine (Calls.mono HC.out ?_);rintro e w2 ⟨rfl,k,rfl⟩;have hb2:=qI (w.alloc (.cells #[.string ⟨#[]⟩,.int .i64 0] 37)) k
       generalize (w.alloc (.cells #[.string ⟨#[]⟩,.int .i64 0] 37)).drewN k=w2 at *
       have hx2:=(hb2.block _ (qh hx1)).trans hx1;have hB2:Below w.heap.size w w2:=hb1.trans (hb2.mono hb1.size);have p0:w2.cell? ⟨w.heap.size,0,none⟩=some (.string ⟨#[]⟩):=by rw[cH9 hx2];rfl
       have p1:w2.cell? ⟨w.heap.size,1,none⟩=some (.int .i64 0):=by rw[cH9 hx2];rfl
       have f0:w2.frozen? ⟨w.heap.size,0,none⟩=false:=fH9 hx2 0;have f1:w2.frozen? ⟨w.heap.size,1,none⟩=false:=fH9 hx2 1;clear hb1 hx1 hb2 HC;clear hx2;go_wp2_with fail;refine bodyPost_ret (v:=.tuple #[.agg #[.string ⟨#[]⟩,.int .i64 0],.bool true]) (by simp[results,Tryd.results20,go_sem,qc,p0,p1,World.cell?_setCell_other]) rfl ?_
       refine ⟨⟨#[]⟩,0,by rw[HE.out];rfl,(by intro st h;rw[HE.out]at h;cases h;exact ⟨rfl,rfl⟩),?_⟩
       exact (hB2.setCell (p:=⟨w.heap.size,0,none⟩) (nR9 _) _).setCell (p:=⟨w.heap.size,1,none⟩) (nR9 _) _
     · have h351 : (A == [35]) = false := by simpa using h35
       have hAe:A.isEmpty=false:=by simpa using hA
       have hN:nm=A:=by rw[←hnm,if_neg h35]
       clear hnm hAl;subst hN
       go_enter Tryd.func20,Tryd.ntmps20
       go_wp2_with fail;refine (Calls.mono HC.out ?_);rintro e w2 ⟨rfl,k,rfl⟩;have hb2:=qI (w.alloc (.cells #[.string ⟨#[]⟩,.int .i64 0] 37)) k
       generalize (w.alloc (.cells #[.string ⟨#[]⟩,.int .i64 0] 37)).drewN k=w2 at *
       have hx2:=(hb2.block _ (qh hx1)).trans hx1;have hB2:Below w.heap.size w w2:=hb1.trans (hb2.mono hb1.size);have p0:w2.cell? ⟨w.heap.size,0,none⟩=some (.string ⟨#[]⟩):=by rw[cH9 hx2];rfl
       have p1:w2.cell? ⟨w.heap.size,1,none⟩=some (.int .i64 0):=by rw[cH9 hx2];rfl
       have f0:w2.frozen? ⟨w.heap.size,0,none⟩=false:=fH9 hx2 0;have f1:w2.frozen? ⟨w.heap.size,1,none⟩=false:=fH9 hx2 1;clear hb1 hx1 hb2 HC;clear hx2;go_wp2_with fail;refine bodyPost_ret (v:=.tuple #[.agg #[.string ⟨nm.toArray⟩,.int .i64 0],.bool true]) (by simp[results,Tryd.results20,go_sem,qc,p0,p1,World.cell?_setCell_other]) rfl ?_
       refine ⟨⟨nm.toArray⟩,0,by rw[HE.out];rfl,(by intro st h;rw[HE.out]at h;cases h;exact ⟨rfl,rfl⟩),?_⟩
       exact (hB2.setCell (p:=⟨w.heap.size,0,none⟩) (nR9 _) _).setCell (p:=⟨w.heap.size,1,none⟩) (nR9 _) _
   | true =>
     have HE:Hid (qT s.data.toList=(qx B).map fun n=>(nm,n)):=by show _=_;rw[HS.out,if_neg hA,if_neg (by simp),hnm]
     obtain ⟨q,hq⟩:∃ q,qx B=q:=⟨_,rfl⟩;rw[hq]at HE HRI
     have HE2:Hid ((qT s.data.toList).isSome=q.isSome∧∀ st,qT s.data.toList=some st→nm=st.1∧q.getD 0=st.2):=by
      refine ⟨by rw[HE.out];cases q<;>rfl,fun st h=>?_⟩
      rw[HE.out]at h
      cases q with
      | none=>cases h
      | some n=>cases h;exact ⟨rfl,rfl⟩
     obtain ⟨n,hn⟩:∃ n,q.getD 0=n:=⟨_,rfl⟩;obtain ⟨t,ht⟩:∃ t,q.isSome=t:=⟨_,rfl⟩;rw[hn,ht]at HRI HE2
     clear HS HE hq hn ht
     by_cases h35:A=[35]
     · have hN : nm = [] := by rw[←hnm, if_pos h35]
       clear hnm hA hAl;subst h35 hN
       go_enter Tryd.func20,Tryd.ntmps20
       go_wp2_with fail;refine (Calls.mono HC.out ?_);rintro e w2 ⟨rfl,k,rfl⟩;have hb2:=qI (w.alloc (.cells #[.string ⟨#[]⟩,.int .i64 0] 37)) k
       generalize (w.alloc (.cells #[.string ⟨#[]⟩,.int .i64 0] 37)).drewN k=w2 at *
       have hx2:=(hb2.block _ (qh hx1)).trans hx1;have hB2:Below w.heap.size w w2:=hb1.trans (hb2.mono hb1.size);have p0:w2.cell? ⟨w.heap.size,0,none⟩=some (.string ⟨#[]⟩):=by rw[cH9 hx2];rfl
       have p1:w2.cell? ⟨w.heap.size,1,none⟩=some (.int .i64 0):=by rw[cH9 hx2];rfl
       have f0:w2.frozen? ⟨w.heap.size,0,none⟩=false:=fH9 hx2 0;have f1:w2.frozen? ⟨w.heap.size,1,none⟩=false:=fH9 hx2 1;clear hb1 hx1 hb2 HC;go_wp2_with fail;refine (Calls.mono (HRI.out _ hB2) ?_);rintro e w3 ⟨rfl,hb3⟩;have hx3:=(hb3.block _ (qh hx2)).trans hx2;have hB3:Below w.heap.size w w3:=hB2.trans (hb3.mono hB2.size);clear p0 p1 f0 f1;have p0:w3.cell? ⟨w.heap.size,0,none⟩=some (.string ⟨#[]⟩):=by rw[cH9 hx3];rfl
       have p1:w3.cell? ⟨w.heap.size,1,none⟩=some (.int .i64 0):=by rw[cH9 hx3];rfl
       have f0:w3.frozen? ⟨w.heap.size,0,none⟩=false:=fH9 hx3 0;have f1:w3.frozen? ⟨w.heap.size,1,none⟩=false:=fH9 hx3 1;clear hx2 hx3 HRI;go_wp2_with fail;refine bodyPost_ret (v:=.tuple #[.agg #[.string ⟨#[]⟩,.int .i64 n],.bool t]) (by simp[results,Tryd.results20,go_sem,qc,p0,p1,World.cell?_setCell_other]) rfl ?_
       refine ⟨⟨#[]⟩,n,by rw[HE2.out.1],(by intro st h;obtain ⟨g1,g2⟩:=HE2.out.2 st h;exact ⟨by rw[←g1],g2⟩),?_⟩
       exact (hB3.setCell (p:=⟨w.heap.size,0,none⟩) (nR9 _) _).setCell (p:=⟨w.heap.size,1,none⟩) (nR9 _) _
     · have h351 : (A == [35]) = false := by simpa using h35
       have hAe:A.isEmpty=false:=by simpa using hA
       have hN:nm=A:=by rw[←hnm,if_neg h35]
       clear hnm hAl;subst hN
       go_enter Tryd.func20,Tryd.ntmps20
       go_wp2_with fail;refine (Calls.mono HC.out ?_);rintro e w2 ⟨rfl,k,rfl⟩;have hb2:=qI (w.alloc (.cells #[.string ⟨#[]⟩,.int .i64 0] 37)) k
       generalize (w.alloc (.cells #[.string ⟨#[]⟩,.int .i64 0] 37)).drewN k=w2 at *
       have hx2:=(hb2.block _ (qh hx1)).trans hx1;have hB2:Below w.heap.size w w2:=hb1.trans (hb2.mono hb1.size);have p0:w2.cell? ⟨w.heap.size,0,none⟩=some (.string ⟨#[]⟩):=by rw[cH9 hx2];rfl
       have p1:w2.cell? ⟨w.heap.size,1,none⟩=some (.int .i64 0):=by rw[cH9 hx2];rfl
       have f0:w2.frozen? ⟨w.heap.size,0,none⟩=false:=fH9 hx2 0;have f1:w2.frozen? ⟨w.heap.size,1,none⟩=false:=fH9 hx2 1;clear hb1 hx1 hb2 HC;go_wp2_with fail;refine (Calls.mono (HRI.out _ hB2) ?_);rintro e w3 ⟨rfl,hb3⟩;have hx3:=(hb3.block _ (qh hx2)).trans hx2;have hB3:Below w.heap.size w w3:=hB2.trans (hb3.mono hB2.size);clear p0 p1 f0 f1;have p0:w3.cell? ⟨w.heap.size,0,none⟩=some (.string ⟨#[]⟩):=by rw[cH9 hx3];rfl
       have p1:w3.cell? ⟨w.heap.size,1,none⟩=some (.int .i64 0):=by rw[cH9 hx3];rfl
       have f0:w3.frozen? ⟨w.heap.size,0,none⟩=false:=fH9 hx3 0;have f1:w3.frozen? ⟨w.heap.size,1,none⟩=false:=fH9 hx3 1;clear hx2 hx3 HRI;go_wp2_with fail;refine bodyPost_ret (v:=.tuple #[.agg #[.string ⟨nm.toArray⟩,.int .i64 n],.bool t]) (by simp[results,Tryd.results20,go_sem,qc,p0,p1,World.cell?_setCell_other]) rfl ?_
       refine ⟨⟨nm.toArray⟩,n,by rw[HE2.out.1],(by intro st h;obtain ⟨g1,g2⟩:=HE2.out.2 st h;exact ⟨by rw[←g1],g2⟩),?_⟩
       exact (hB3.setCell (p:=⟨w.heap.size,0,none⟩) (nR9 _) _).setCell (p:=⟨w.heap.size,1,none⟩) (nR9 _) _
end
section
attribute [local go_sem] qc
def asS (l:List PStep):List St:=l.map fun p=>⟨⟨p.1.toArray⟩,p.2⟩
theorem q8 (l:List PStep):(asS l).length=l.length:=List.length_map _
theorem xS (l:List UInt8):qz ⟨l.toArray⟩=xF l:=by
 unfold qz xF;have:(⟨l.toArray⟩:ByteArray).size=l.length:=by show l.toArray.size=_;simp
 rw[this]
theorem yA (a b:List UInt8):(⟨a.toArray⟩:ByteArray)=⟨b.toArray⟩↔a=b:=by
 constructor
 · intro h;have:=congrArg (fun x:ByteArray=>x.data.toList) h
   simpa using this
 · intro h;rw[h]
theorem xZ (p:PStep):qq ⟨⟨p.1.toArray⟩,p.2⟩=xM p:=by
 unfold qq xM;simp only;rw[xS]
 have e1:decide ((⟨p.1.toArray⟩:ByteArray)=⟨#[]⟩)=decide (p.1=[]):=by
  rw[decide_eq_decide];exact yA p.1 []
 have e2:decide ((⟨p.1.toArray⟩:ByteArray)=⟨#[42]⟩)=decide (p.1=[42]):=by
  rw[decide_eq_decide];exact yA p.1 [42]
 rw[e1,e2]
theorem xV (l:List PStep):qu (asS l)=yH l:=by
 unfold qu yH;rw[q8]
 congr 1
 unfold asS;rw[List.all_map]
 congr 1
 funext p
 exact xZ p
def stepCells:List St→List Value
 | []=>[]
 | s::l=>.string s.name::.int .i64 s.n::stepCells l
theorem qH (l:List St):(stepCells l).length=l.length*2:=by
 induction l with
 | nil=>rfl
 | cons s l ih=>simp[stepCells,ih];omega
theorem q7 (l m:List St):stepCells (l++m)=stepCells l++stepCells m:=by
 induction l with
 | nil=>rfl
 | cons s l ih=>simp[stepCells,ih]
theorem zo (l:List St):∀ i s,l[i]?=some s→(stepCells l)[i*2]?=some (.string s.name)∧(stepCells l)[i*2+1]?=some (.int .i64 s.n):=by
 induction l with
 | nil=>intro i s h;simp at h
 | cons y l ih =>
   intro i s h;cases i with
   | zero=>simp at h;subst h;simp[stepCells]
   | succ i =>
     have:=ih i s (by simpa using h)
     rw[show (i+1)*2=i*2+2 by omega]
     simpa[stepCells] using this
def qJ (B:Nat)(w:World)(v:Value)(l:List St):Prop:=w.ownsRow B 37 2 v l.length (stepCells l)
theorem qJ.shape {B:Nat}{w:World}{v:Value}{l:List St}(h:qJ B w v l):∃ a c,v=.slice a l.length c∧l.length≤c∧c≤maxLen:=by
 rcases h.2 with ⟨rfl,h0⟩|⟨g,cap,cur,rfl,hg,hh,hc,hm,hs,ht⟩
 · exact ⟨none,0,by rw[h0],by omega,nZ9 _⟩
 · exact ⟨_,cap,rfl,hc,hm⟩
theorem qJ.steps {B:Nat}{w:World}{v:Value}{l:List St}(h:qJ B w v l):qj (fun b=>B≤b) w v l:=by
 rcases h.2 with ⟨rfl,h0⟩|⟨g,cap,cur,rfl,hg,hh,hc,hm,hs,ht⟩
 · have : l = [] := List.eq_nil_of_length_eq_zero h0;subst this;exact ⟨none,0,rfl,nR9 _,nZ9 _,fun h=>absurd rfl h⟩
 · refine ⟨_, cap, rfl, hc, hm, fun _ => ⟨g, 0, rfl, hg, fun i x hx => ?_⟩⟩
   have hi:=qe hx;obtain ⟨g0,g1⟩:=zo l i x hx;rw[Nat.zero_add];exact ⟨by rw[World.ownsRow.cellAt h (i*2) (by omega)];exact g0,by rw[World.ownsRow.cellAt h (i*2+1) (by omega)];exact g1⟩
theorem qJ.lt {B:Nat}{w:World}{v:Value}{l:List St}(h:qJ B w v l):∀ k,v.ownBlock=some k→B≤k∧k<w.heap.size:=fun k hk=>World.ownsRow.lt h k hk
theorem qJ.later {B:Nat}{w w':World}{v:Value}{l:List St}(h:qJ B w v l)(hb:Below w.heap.size w w'):qJ B w' v l:=qA h hb
theorem stepInfo:(Tryd.prog.info? 37).map (fun i=>(i.zero,i.size,i.bytes))=some (some (.agg #[.string ⟨#[]⟩,.int .i64 0]),2,24):=by kernel_rfl
theorem jR (w:World)(a b:Value)(e:TypeId):∀ (j:Nat)(u:Value),([a,b]:List Value)[j]?=some u→(w.alloc (.cells #[a,b] e)).cell? ((⟨w.heap.size,0,none⟩:Addr).add j)=some u:=by
 intro j u hj
 match j,hj with
 | 0,hj|1,hj=>simp at hj;subst hj;simp[Addr.add]
theorem xq {p:List UInt8}{st:PStep}(h:qT p=some st):st.1.length≤p.length:=by
 unfold qT at h
 obtain ⟨A,B,F,hcut⟩:∃ A B F,Lib.cut p [91]=(A,B,F):=⟨_,_,_,rfl⟩;have:=(y5 hcut).1;rw[hcut]at h
 simp only at h
 have key:∀ n,((if A=[35] then ([]:List UInt8) else A,(n:Int)):PStep).1.length≤p.length:=by
  intro n;simp only
  split
  · simp
  · exact this
 split at h
 · cases h
 · split at h
   · cases h;exact key 0
   · cases hi : qx B with
     | none=>rw[hi]at h;cases h
     | some n=>rw[hi]at h;cases h;exact key n
theorem jr {ps:List (List UInt8)}{k:Nat}{p:List UInt8}(hk:ps[k]?=some p)(h:qT p=none):stepsR (ps.drop k)=none:=by
 have hl:=qe hk
 have e:ps.drop k=p::ps.drop (k+1):=by
  rw[List.drop_eq_getElem_cons hl];congr 1;simpa[hl] using hk
 rw[e,stepsR,h]
theorem js {ps:List (List UInt8)}{k:Nat}{p:List UInt8}{s:PStep}(hk:ps[k]?=some p)(h:qT p=some s):stepsR (ps.drop k)=(stepsR (ps.drop (k+1))).map (fun l=>s::l):=by
 have hl:=qe hk
 have e:ps.drop k=p::ps.drop (k+1):=by
  rw[List.drop_eq_getElem_cons hl];congr 1;simpa[hl] using hk
 rw[e,stepsR,h];cases stepsR (ps.drop (k+1))<;>rfl
theorem yl (s:ByteArray):s.data.toList.length=s.size:=by rw[Array.length_toList];rfl
def qP (s:ByteArray):Int:=if (zg s.data.toList).isSome then 0 else 1
def qQ (s:ByteArray):List St:=asS ((zg s.data.toList).getD [])
theorem le_sum_mem:∀ {l:List Nat}{x:Nat},x∈l→x≤l.sum:=by
 intro l
 induction l with
 | nil=>intro x h;simp at h
 | cons y l ih =>
   intro x h;rw[List.mem_cons]at h
   rw[List.sum_cons]
   rcases h with rfl|h
   · omega
   · have:=ih h;omega
theorem j9 {R p:List UInt8}(h:p∈Lib.split R [47]):p.length≤R.length:=by
 have:=(jK 47 _ R (nR9 _)).1;have h2:=congrArg List.length this;rw[List.length_flatten,List.map_map]at h2
 have h3:(47::p).length∈(Lib.split R [47]).map (List.length ∘ fun p=>47::p):=List.mem_map.2 ⟨p,h,rfl⟩
 have h4:=le_sum_mem h3;rw[h2]at h4
 simp at h4
 exact h4
set_option maxHeartbeats 2000000 in
theorem jH (s:ByteArray)(w:World)(hE:ze w)(hs:s.size≤maxLen) :
 Calls Tryd.prog 12 #[.string s] w fun e w'=>∃ v,e=.returned (.tuple #[v,.int .i64 (qP s)])∧qj (fun b=>w.heap.size≤b) w' v (qQ s)∧Below w.heap.size w w':=by
 unfold maxLen at hs
 have HPL:Hid (zg s.data.toList=if s.data.toList.length≤2500∧Lib.hasPrefix s.data.toList [47]=true then (match stepsR (Lib.split (Lib.trimPrefix s.data.toList [47]) [47]) with|none=>none|some l=>if yH l=true then some l else none) else none):=by
  show _=_
  unfold zg
  split<;>rename_i h
  · cases stepsR (Lib.split (Lib.trimPrefix s.data.toList [47]) [47])<;>rfl
  · rfl
 have HNO:Hid (zg s.data.toList=none→qP s=1∧qQ s=[]):=by
  intro h;unfold qP qQ;rw[h];exact ⟨rfl,rfl⟩
 have hlen:=yl s
 by_cases h25:2500<s.size
 · have HE2 : Hid (qP s = 1 ∧ qQ s = []) := HNO.out (by rw[HPL.out, if_neg (by rw[hlen];omega)])
   have h25i:(2500:Int)<(s.size:Int):=by omega
   clear HPL HNO
   go_enter Tryd.func12,Tryd.ntmps12
   go_wp2_with fail
   go_ret2
   exact ⟨_,by rw[HE2.out.1];rfl,by rw[HE2.out.2];exact ⟨none,0,rfl,nR9 _,nZ9 _,fun h=>absurd rfl h⟩,Below.refl _ _⟩
 · have h25i : ¬ (2500 : Int) < (s.size : Int) := by omega
   obtain ⟨R,hR⟩:∃ R,Lib.trimPrefix s.data.toList [47]=R:=⟨_,rfl⟩;obtain ⟨C,hC⟩:∃ C,Lib.hasPrefix s.data.toList [47]=C:=⟨_,rfl⟩;have HCP:Hid _:=Tryd.strings_CutPrefix s ⟨#[47]⟩ w;rw[show (⟨#[47]⟩:ByteArray).data.toList=[47] from rfl,hR,hC]at HCP
   rw[hR,hC,hlen]at HPL
   have hRl:R.length≤2500:=by
    rw[←hR];unfold Lib.trimPrefix
    split
    · rw[List.length_drop];omega
    · omega
   clear hR hC;cases C with
   | false =>
     have HE2:Hid (qP s=1∧qQ s=[]):=HNO.out (by rw[HPL.out,if_neg (by simp)])
     clear HPL HNO
     go_enter Tryd.func12,Tryd.ntmps12
     go_wp2_with fail;refine (Calls.mono HCP.out ?_);rintro e w1 ⟨rfl,rfl⟩;go_wp2_with fail
     go_ret2
     exact ⟨_,by rw[HE2.out.1];rfl,by rw[HE2.out.2];exact ⟨none,0,rfl,nR9 _,nZ9 _,fun h=>absurd rfl h⟩,Below.refl _ _⟩
   | true =>
     have HP2:Hid (zg s.data.toList=match stepsR (Lib.split R [47]) with|none=>none|some l=>if yH l=true then some l else none):=by show _=_;rw[HPL.out,if_pos ⟨by omega,rfl⟩]
     obtain ⟨m,hm⟩:=hE.max;have hRs:(⟨R.toArray⟩:ByteArray).size=R.length:=by show R.toArray.size=_;simp
     have HSP:Hid _:=Tryd.strings_Split ⟨R.toArray⟩ ⟨#[47]⟩ m w (by omega) hm (by decide)
     obtain ⟨P,hP⟩:∃ P,Lib.splitB ⟨#[47]⟩ 0 (Lib.countB ⟨R.toArray⟩ ⟨#[47]⟩) ⟨R.toArray⟩=P:=⟨_,rfl⟩;have hPl:P.length=Lib.countB ⟨R.toArray⟩ ⟨#[47]⟩+1:=by rw[←hP];exact Lib.splitB_all ⟨#[47]⟩ (by decide) 0 _ _ rfl
     have hPd:P.map (·.data.toList)=Lib.split R [47]:=by
      rw[←hP,Lib.splitB_data];unfold Lib.split;have e1:(⟨R.toArray⟩:ByteArray).data.toList=R:=by simp
      have e2:(⟨#[47]⟩:ByteArray).data.toList=[47]:=rfl;rw[e1,e2]
     have hcl:=Lib.countB_le ⟨#[47]⟩ (by decide) _ ⟨R.toArray⟩ (nR9 _)
     rw[hP,←hPl]at HSP
     have HEE:Hid (ze w):=hE;have HPD:Hid (P.map (·.data.toList)=Lib.split R [47]):=hPd
     have HPS:Hid (∀ p∈P,p.size≤2500):=by
      intro p hp;have h1:p.data.toList∈Lib.split R [47]:=by rw[←hPd];exact List.mem_map.2 ⟨p,hp,rfl⟩
      have:=j9 h1;rw[yl]at this
      omega
     have hPn:P.length≤2501:=by omega
     obtain ⟨i0,hi,hz0,hzz1,hz2⟩:=info_parts stepInfo;have hb2:=Below.alloc1 w (.cells (P.map Value.string).toArray 9);have hx2:=heap_alloc_new w (.cells (P.map Value.string).toArray 9);have hz2w:(w.alloc (.cells (P.map Value.string).toArray 9)).heap.size=w.heap.size+1:=by simp
     clear hE hm hP hPl hPd hcl HPL hRs
     go_enter Tryd.func12,Tryd.ntmps12
     go_wp2_with fail;refine (Calls.mono HCP.out ?_);rintro e w1 ⟨rfl,rfl⟩;go_wp2_with fail;refine (Calls.mono HSP.out ?_);rintro e w2 ⟨rfl,rfl⟩;go_wp2_with fail
     generalize w1.alloc (.cells (P.map Value.string).toArray 9)=W2 at *
     have HZ2:Hid (W2.heap.size=w1.heap.size+1):=hz2w;have hle2:w1.heap.size≤W2.heap.size:=by omega
     clear hz2w HCP HSP
     go_loopg [24,6] P.length (fun g j o wr=>∃ (k:Nat) (acc:List PStep),k+g=P.length∧j=.int .i64 (k:Int)∧acc.length=k∧qJ W2.heap.size wr o (asS acc)∧Below W2.heap.size W2 wr∧stepsR (Lib.split R [47])=(stepsR ((Lib.split R [47]).drop k)).map (fun l=>acc++l)∧∀ x∈acc,x.1.length≤2500)
     case atStart => exact ⟨0,[],by omega,rfl,rfl,World.ownsRow_nil _ _ _ _,Below.refl _ _,by rw[List.drop_zero];cases stepsR (Lib.split R [47])<;>rfl,by simp⟩
     case round =>
      obtain ⟨k,acc,hk,rfl,hal,hSR,hB,hGot,hshort⟩:=hrel;have hBw:Below w1.heap.size w1 wr:=hb2.trans (hB.mono hle2);have hxr:=(hB.block _ (qh hx2)).trans hx2;have hszr:=hB.size;obtain ⟨ra,rc,rfl,hrl,hrm⟩:=hSR.shape;rw[q8,hal]at hSR hrl ⊢
      have HSR:Hid (qJ W2.heap.size wr (.slice ra k rc) (asS acc)):=hSR;have HGot:Hid _:=hGot;have HSH:Hid (∀ x∈acc,x.1.length≤2500):=hshort;have HAL:Hid (acc.length=k):=hal;clear hSR hGot hshort hal
      by_cases hkl:k<P.length
      · obtain ⟨p, hp⟩ : ∃ p, P[k]? = some p := ⟨P[k], by simp[hkl]⟩
        have hpL:(Lib.split R [47])[k]?=some p.data.toList:=by rw[←HPD.out,List.getElem?_map,hp];rfl
        have hps:=HPS.out p (List.mem_of_getElem? hp)
        have e1:wr.cell? ⟨w1.heap.size,k,none⟩=some (.string p):=by
         rw[cH9 hxr];simp[hp]
        have HRS:Hid _:=yT p wr (HEE.out.later hBw) hps;have hkli:(k:Int)<(P.length:Int):=by omega
        cases hst:qT p.data.toList with
        | none =>
          rw[hst]at HRS
          have HE2:Hid (qP s=1∧qQ s=[]):=HNO.out (by rw[HP2.out,HGot.out,jr hpL hst];rfl)
          clear hst hpL hp hxr;go_wp2_with fail;refine (Calls.mono HRS.out ?_);rintro e w3 ⟨nm,n,rfl,_,hb3⟩;go_wp2_with fail
          go_ret2
          refine ⟨_,by rw[HE2.out.1];rfl,by rw[HE2.out.2];exact ⟨none,0,rfl,nR9 _,nZ9 _,fun h=>absurd rfl h⟩,?_⟩
          exact (hBw.trans (hb3.mono hBw.size)).alloc (Nat.le_trans hBw.size hb3.size) _
        | some st =>
          have hsn:=xq hst;rw[yl]at hsn
          have HG2:Hid (stepsR (Lib.split R [47])=(stepsR ((Lib.split R [47]).drop (k+1))).map (fun l=>(acc++[st])++l)):=by
           show _=_
           rw[HGot.out,js hpL hst];cases stepsR ((Lib.split R [47]).drop (k+1)) with
           | none=>rfl
           | some l=>simp
          have HRS2:Hid (Calls Tryd.prog 20 #[.string p] wr fun e w'=>e=.returned (.tuple #[.agg #[.string ⟨st.1.toArray⟩,.int .i64 st.2],.bool true])∧Below wr.heap.size wr w'):=by
           refine (Calls.mono HRS.out ?_);rintro e w' ⟨nm,n,rfl,h1,hb⟩;obtain ⟨rfl,rfl⟩:=h1 st hst;rw[hst];exact ⟨rfl,hb⟩
          clear hst hpL hp hxr HRS;go_wp2_with fail;refine (Calls.mono HRS2.out ?_);rintro e w3 ⟨rfl,hb3⟩;have hB3:Below W2.heap.size W2 w3:=hB.trans (hb3.mono hszr);have hB4:Below W2.heap.size W2 (w3.alloc (.cells #[.string ⟨st.1.toArray⟩,.int .i64 st.2] 37)):=hB3.alloc hB3.size _;have hS4:qJ W2.heap.size (w3.alloc (.cells #[.string ⟨st.1.toArray⟩,.int .i64 st.2] 37)) (.slice ra k rc) (asS acc):=(HSR.out.later hb3).later (Below.alloc1 _ _)
          have hown4:(w3.alloc (.cells #[.string ⟨st.1.toArray⟩,.int .i64 st.2] 37)).ownsRow W2.heap.size 37 2 (.slice ra k rc) k (stepCells (asS acc)):=by
           have:=hS4;unfold qJ at this
           rw[q8,HAL.out]at this
           exact this
          have hs4:=hB3.size;go_wp2_with (at_builtin;refine wpList_append_own_at _ rfl _ _ 25 rfl W2.heap.size 37 i0 _ 2 24 Tryd.underlying25 hi hz0 hzz1 hz2 rfl (by decide) _ _ _ rfl (hown4.alloc _) ⟨w3.heap.size+1,0,none⟩ 1 1 [.string ⟨st.1.toArray⟩,.int .i64 st.2] ?qc0 ?qc1 ?qc2 ?qc3 ?qc4 ?qc5 ?qc6 ?_)
          case qc0 => first|rfl|simp[go_sem]
          case qc1 => rfl
          case qc2 => have:=jR (w3.alloc (.cells #[.string ⟨st.1.toArray⟩,.int .i64 st.2] 37)) (.string ⟨st.1.toArray⟩) (.int .i64 st.2) 37;rw[World.size_alloc]at this;exact this
          case qc3 => intro z hz;simp at hz;rcases hz with rfl|rfl<;>rfl
          case qc4 => unfold maxLen;omega
          case qc5 => omega
          case qc6 => simp;omega
          intro v' w6 hown6 hgr6 _ _;obtain ⟨ja,jl,jc,rfl⟩:=qR hown6
          have hS6:qJ W2.heap.size w6 (.slice ja jl jc) (asS (acc++[st])):=by
           unfold qJ;rw[show asS (acc++[st])=asS acc++[⟨⟨st.1.toArray⟩,st.2⟩] by simp[asS],q7,List.length_append,q8,HAL.out]
           exact hown6
          have hB6:Below W2.heap.size W2 w6:=(hB4.alloc hB4.size _).grown hgr6 (by simp;omega) (fun z hz=>(hS4.lt z hz).1)
          clear hown6 hown4 hS4;go_wp2_with fail
          go_roundg (P.length-(k+1))
          case measure => omega
          case rel =>
           refine ⟨k+1,acc++[st],by omega,by go_num,by rw[List.length_append,HAL.out];rfl,hS6,hB6,HG2.out,fun x hx=>?_⟩
           rw[List.mem_append,List.mem_singleton]at hx
           rcases hx with hx|rfl
           · exact HSH.out x hx
           · omega
      · have hkk : k = P.length := by omega
        have hkli:¬ ((k:Int)<(P.length:Int)):=by omega
        have HG2:Hid (stepsR (Lib.split R [47])=some acc):=by
         show _=_
         have hdl:(Lib.split R [47]).length≤k:=by rw[←HPD.out,List.length_map];omega
         rw[HGot.out,List.drop_of_length_le hdl];simp[stepsR]
        have hSt:=HSR.out.steps;clear hkk
        have HPG:Hid _:=yD _ (.slice ra k rc) (asS acc) wr hSt (by
         intro x hx;obtain ⟨q,hq,rfl⟩:=List.mem_map.1 hx;have:=HSH.out q hq
         show q.1.toArray.size≤maxLen
         unfold maxLen;simp;omega)
        rw[xV]at HPG
        cases hpl:yH acc with
        | false =>
          rw[hpl]at HPG
          have HE2:Hid (qP s=1∧qQ s=[]):=HNO.out (by rw[HP2.out,HG2.out];simp[hpl])
          clear hpl;go_wp2_with fail;refine (Calls.mono HPG.out ?_);rintro e w3 ⟨rfl,hb3⟩;go_wp2_with fail
          go_ret2
          exact ⟨_,by rw[HE2.out.1];rfl,by rw[HE2.out.2];exact ⟨none,0,rfl,nR9 _,nZ9 _,fun h=>absurd rfl h⟩,hBw.trans (hb3.mono hBw.size)⟩
        | true =>
          rw[hpl]at HPG
          have HE2:Hid (qP s=0∧qQ s=asS acc):=by
           have:zg s.data.toList=some acc:=by rw[HP2.out,HG2.out];simp[hpl]
           unfold qP qQ;rw[this];exact ⟨rfl,rfl⟩
          clear hpl;go_wp2_with fail;refine (Calls.mono HPG.out ?_);rintro e w3 ⟨rfl,hb3⟩;go_wp2_with fail
          go_ret2
          exact ⟨_,by rw[HE2.out.1];rfl,by rw[HE2.out.2];exact (hSt.later hb3).carry fun b hb=>⟨by omega,rfl⟩,hBw.trans (hb3.mono hBw.size)⟩
end
section
attribute [local go_sem] qc
theorem paths_list:zg [47,97,47,42,91,50,93,47,35]=some [([97],0),([42],2),([],0)]:=by decide +kernel
theorem paths_parse:qP ⟨#[47,97,47,42,91,50,93,47,35]⟩=0∧qQ ⟨#[47,97,47,42,91,50,93,47,35]⟩=[⟨⟨#[97]⟩,0⟩,⟨⟨#[42]⟩,2⟩,⟨⟨#[]⟩,0⟩]:=by
 have e:(⟨#[47,97,47,42,91,50,93,47,35]⟩:ByteArray).data.toList=[47,97,47,42,91,50,93,47,35]:=rfl;unfold qP qQ;rw[e,paths_list];exact ⟨rfl,rfl⟩
theorem zt (w:World)(hE:ze w):Calls Tryd.prog 7 #[] w fun e w'=>e=.returned (.bool true)∧Below w.heap.size w w':=by
 have HP:Hid (Calls Tryd.prog 12 #[.string ⟨#[47,97,47,42,91,50,93,47,35]⟩] w fun e w'=>∃ v,e=.returned (.tuple #[v,.int .i64 0])∧qj (fun b=>w.heap.size≤b) w' v [⟨⟨#[97]⟩,0⟩,⟨⟨#[42]⟩,2⟩,⟨⟨#[]⟩,0⟩]∧Below w.heap.size w w'):=by
  have:=jH ⟨#[47,97,47,42,91,50,93,47,35]⟩ w hE (by decide)
  rw[paths_parse.1,paths_parse.2]at this
  exact this
 clear hE
 go_enter Tryd.func7,Tryd.ntmps7
 go_wp2_with fail;refine (Calls.mono HP.out ?_);rintro e w2 ⟨v,rfl,hS,hb⟩;obtain ⟨b,o,cap,rfl,_,_,e0,e1⟩:=hS.at (i:=1) (x:=⟨⟨#[42]⟩,2⟩) rfl
 obtain ⟨b',o',cap',hv,_,_,g0,g1⟩:=hS.at (i:=2) (x:=⟨⟨#[]⟩,0⟩) rfl
 injection hv with hv1 _ hv2
 injection hv1 with hv1
 injection hv1 with hv3 hv4
 subst hv3 hv4 hv2;clear hS HP;simp only[List.length_cons,List.length_nil,Nat.one_mul]at *
 go_wp2_with fail;go_ret;exact ⟨rfl,hb⟩
end
section
attribute [local go_sem] qc
theorem yL {ns:List Nd}{m:Nat}(h:m<ns.length):1≤dp ns m:=by
 unfold dp;rw[depF,if_pos (by omega)]
 omega
theorem jM {ns:List Nd}(hg:qg ns=true){m:Nat}{x:Nd}(hx:ns[m]?=some x):(x.parent=-1∧dp ns m=1)∨∃ q:Nat,x.parent=(q:Int)∧q<m∧dp ns m=dp ns q+1:=by
 rcases (qo hg hx).par with ⟨rfl,hp⟩|⟨q,_,_,hp,hq,_⟩
 · exact Or.inl ⟨hp,zO hg hx hp⟩
 · exact Or.inr ⟨q,hp,hq,zD hg hx hp hq⟩
theorem jJ (ns:List Nd)(l:List St):(zc ns l=1∧q6 ns l=[])∨(zc ns l=0∧qg ns=true∧qu l=true∧q6 ns l=qZ ns l):=by
 unfold zc q6;cases hg:qg ns with
 | false=>exact Or.inl ⟨rfl,rfl⟩
 | true =>
   cases hp:qu l with
   | false=>exact Or.inl ⟨rfl,rfl⟩
   | true=>exact Or.inr ⟨rfl,rfl,rfl,rfl⟩
set_option maxHeartbeats 2000000 in
theorem yx (S:Nat→Prop)(vd vl:Value)(ns:List Nd)(l:List St)(w:World)(hD:zj S w vd ns)(hL:qj S w vl l)(hn:qB l)(hE:ze w) :
 Calls Tryd.prog 3 #[.agg #[vd],vl] w fun e w'=>e=.returned (.bool true)∧Below w.heap.size w w':=by
 have hb1:=Below.alloc1 w (.cells #[vd] 24);have hx1:=heap_alloc_new w (.cells #[vd] 24);have HS:Hid _:=qS S vd vl ns l _ (hD.later hb1) (hL.later hb1) hn;have HPA:Hid (∀ W,Below w.heap.size w W→Calls Tryd.prog 7 #[] W fun e w'=>e=.returned (.bool true)∧Below W.heap.size W w'):=fun W h=>zt W (hE.later h)
 have HD:Hid (zj S w vd ns):=hD;obtain ⟨na,nc,rfl,hnl,hnm⟩:=hD.nodes.shape;obtain ⟨la,lc,rfl,hll,hlm⟩:=hL.shape;unfold maxLen at hnm hlm
 clear hD hL hn hE
 rcases jJ ns l with ⟨h1,h2⟩|⟨h1,hg,hp,h2⟩
 · rw[h1, h2]at HS
   clear h1 h2
   go_enter Tryd.func3,Tryd.ntmps3
   go_wp2_with fail;refine (Calls.mono HS.out ?_);rintro e w2 ⟨v,rfl,hI,hb2⟩;have hB2:Below w.heap.size w w2:=hb1.trans (hb2.mono hb1.size);obtain ⟨va,vc,rfl,_,_⟩:=hI.shape;clear hI HS;go_wp2_with fail;refine (Calls.mono (HPA.out _ hB2) ?_);rintro e w3 ⟨rfl,hb3⟩;go_wp2_with fail;go_ret;exact ⟨rfl,hB2.trans (hb3.mono hB2.size)⟩
 · rw[h1, h2]at HS
   have hpl:=hp;simp only[qu,Bool.and_eq_true,decide_eq_true_eq]at hpl
   have HLev:Hid (Lev ns l.length (qZ ns l)):=yj hg (by intro e;rw[e]at hpl;simp at hpl)
   have h80:ns.length≤80:=by
    have:=hg;simp only[qg,Bool.and_eq_true,decide_eq_true_eq]at this
    exact this.1.1
   have hl5:l.length≤5:=hpl.1.2;have HG:Hid (qg ns=true):=hg;obtain ⟨X,hX⟩:∃ X,qZ ns l=X:=⟨_,rfl⟩;rw[hX]at HS HLev
   have hXl:X.length≤80:=Nat.le_trans (zP hg HLev.out) h80;have HRise:Hid (X.Pairwise (fun u v=>u<v)):=HLev.out.rises hg
   clear h1 h2 hp hpl hg hX
   go_enter Tryd.func3,Tryd.ntmps3
   go_wp2_with fail;refine (Calls.mono HS.out ?_);rintro e w2 ⟨v,rfl,hI,hb2⟩;have hB2:Below w.heap.size w w2:=hb1.trans (hb2.mono hb1.size);have hx2:=(hb2.block _ (qh hx1)).trans hx1;obtain ⟨va,vc,rfl,hvl,hvm⟩:=hI.shape;have HI2:Hid (qm (fun b=>(w.alloc (.cells #[.slice na ns.length nc] 24)).heap.size≤b) w2 (.slice va X.length vc) X):=hI
   clear hI HS hb1 hx1 hb2;go_wp2_with fail;refine (Calls.mono (HPA.out _ hB2) ?_);rintro e w3 ⟨rfl,hb3⟩;have hB3:Below w.heap.size w w3:=hB2.trans (hb3.mono hB2.size);have hx3:=(hb3.block _ (qh hx2)).trans hx2;have HI3:Hid (qm (fun b=>(w.alloc (.cells #[.slice na ns.length nc] 24)).heap.size≤b) w3 (.slice va X.length vc) X):=HI2.out.later hb3
   have d3:w3.cell? ⟨w.heap.size,0,none⟩=some (.slice na ns.length nc):=by rw[cH9 hx3];rfl
   unfold maxLen at hvm
   clear HI2 hb3 hx2 hB2 HPA hx3;go_wp2_with fail
   go_loopg [31] X.length (fun g j wr=>∃ (i:Nat),i+g=X.length∧j=.int .i64 (i:Int)∧wr=w3)
   case atStart => exact ⟨0,by omega,rfl,rfl⟩
   case round =>
    obtain ⟨i,hi,rfl,hwr⟩:=hrel;subst hwr
    by_cases hil:i<X.length
    · obtain ⟨u, hu⟩ : ∃ u, X[i]? = some u := ⟨X[i], by simp[hil]⟩
      obtain ⟨m,x,rfl,hx,hdp⟩:=HLev.out.mem u (List.mem_of_getElem? hu);have hm:=qe hx;obtain ⟨xb,xo,xc,hxv,_,hxbw,e1⟩:=HI3.out.at hu
      injection hxv with hxa _ hxc
      subst hxa hxc;have hili:(i:Int)<(X.length:Int):=by omega
      have hm0:¬ ((m:Int)<0):=by omega
      have hmi:¬ ((ns.length:Int)≤(m:Int)):=by omega
      have HDP:Hid (dp ns m=l.length):=hdp;have HNN:=HD.out.nodes.later hB3;obtain ⟨nb,no,ncap,_,_,hnv,_,_,_,hnb,_⟩:=HNN.at hx
      injection hnv with hna _ hnc
      subst hna hnc;have HN3:Hid (qr S wr (.slice (some ⟨nb,no,none⟩) ns.length nc) ns):=HNN
      by_cases hi0:i=0
      · have hi0i : ¬ ((0 : Int) < (i : Int)) := by omega
        clear hi0 hu hx;go_wp2_with fail
        go_loopg [10,9] (m+1) (fun g k d wz=>∃ (kk:Int) (dd:Nat),(kk+1).toNat=g∧k=.int .i64 kk∧d=.int .i64 (dd:Int)∧wz=wr∧((kk=-1∧dd=l.length)∨∃ q:Nat,kk=(q:Int)∧q<ns.length∧dd+dp ns q=l.length))
        case atStart => exact ⟨(m:Int),0,by omega,rfl,rfl,rfl,Or.inr ⟨m,rfl,hm,by rw[HDP.out];omega⟩⟩
        case round =>
         obtain ⟨kk,dd,hg,rfl,rfl,hwz,hor⟩:=hrel;subst hwz
         rcases hor with ⟨rfl,hdl⟩|⟨q,rfl,hq,hdq⟩
         · have hdl2 : ((dd : Int) != (l.length : Int)) = false := by simp[hdl]
           clear hdl hg;go_wp2_with fail
           go_roundg (X.length-(i+1))
           case measure => omega
           case rel => exact ⟨i+1,by omega,by go_num,rfl⟩
         · obtain ⟨y, hy⟩ : ∃ y, ns[q]? = some y := ⟨ns[q], by simp[hq]⟩
           obtain ⟨b,o,cap,yva,yvk,hv,_,_,_,hbw,c0,c1,c2,c3,c4,_,_⟩:=HN3.out.at hy
           injection hv with hv1 _ hv2
           injection hv1 with hv1
           injection hv1 with hv3 hv4
           subst hv3 hv4 hv2;have hup:=jM HG.out hy;have hpos:=yL hq;have hq0:¬ ((q:Int)<0):=by omega
           have hq0':(0:Int)≤(q:Int):=by omega
           have hqi:(q:Int)<(ns.length:Int):=by omega
           have hdd:(dd:Int)+1<9223372036854775808:=by omega
           clear c0 c1 c2 c4 hy;go_wp2_with fail
           rcases hup with ⟨hpp,hd1⟩|⟨q2,hpp,hq2,hd1⟩
           · rw[hpp]
             go_roundg 0
             case measure => omega
             case rel => exact ⟨-1,dd+1,by omega,rfl,by go_num,rfl,Or.inl ⟨rfl,by omega⟩⟩
           · rw[hpp]
             go_roundg (q2+1)
             case measure => omega
             case rel => exact ⟨(q2:Int),dd+1,by omega,rfl,by go_num,rfl,Or.inr ⟨q2,rfl,by omega,by omega⟩⟩
      · have hi0i : (0 : Int) < (i : Int) := by omega
        obtain ⟨u0,hu0⟩:∃ u,X[i-1]?=some u:=⟨X[i-1]'(by omega),by simp⟩
        have hlt0:u0<(m:Int):=by
         have h1:=List.pairwise_iff_getElem.1 HRise.out (i-1) i (by omega) hil (by omega)
         have h2:=hu0;have h3:=hu;rw[List.getElem?_eq_getElem (by omega)]at h2 h3
         rw[←Option.some.inj h2,←Option.some.inj h3];exact h1
        obtain ⟨xb2,xo2,xc2,hxv2,_,_,e2⟩:=HI3.out.at hu0
        injection hxv2 with hxa2 _ hxc2
        injection hxa2 with hxa2
        injection hxa2 with hxa3 hxa4
        subst hxa3 hxa4 hxc2;have hsub:((i:Int)-1).toNat=i-1:=by omega
        have hsub2:¬ ((m:Int)≤u0):=by omega
        clear hi0 hu hx hu0;go_wp2_with fail
        go_loopg [10,9] (m+1) (fun g k d wz=>∃ (kk:Int) (dd:Nat),(kk+1).toNat=g∧k=.int .i64 kk∧d=.int .i64 (dd:Int)∧wz=wr∧((kk=-1∧dd=l.length)∨∃ q:Nat,kk=(q:Int)∧q<ns.length∧dd+dp ns q=l.length))
        case atStart => exact ⟨(m:Int),0,by omega,rfl,rfl,rfl,Or.inr ⟨m,rfl,hm,by rw[HDP.out];omega⟩⟩
        case round =>
         obtain ⟨kk,dd,hg,rfl,rfl,hwz,hor⟩:=hrel;subst hwz
         rcases hor with ⟨rfl,hdl⟩|⟨q,rfl,hq,hdq⟩
         · have hdl2 : ((dd : Int) != (l.length : Int)) = false := by simp[hdl]
           clear hdl hg;go_wp2_with fail
           go_roundg (X.length-(i+1))
           case measure => omega
           case rel => exact ⟨i+1,by omega,by go_num,rfl⟩
         · obtain ⟨y, hy⟩ : ∃ y, ns[q]? = some y := ⟨ns[q], by simp[hq]⟩
           obtain ⟨b,o,cap,yva,yvk,hv,_,_,_,hbw,c0,c1,c2,c3,c4,_,_⟩:=HN3.out.at hy
           injection hv with hv1 _ hv2
           injection hv1 with hv1
           injection hv1 with hv3 hv4
           subst hv3 hv4 hv2;have hup:=jM HG.out hy;have hpos:=yL hq;have hq0:¬ ((q:Int)<0):=by omega
           have hq0':(0:Int)≤(q:Int):=by omega
           have hqi:(q:Int)<(ns.length:Int):=by omega
           have hdd:(dd:Int)+1<9223372036854775808:=by omega
           clear c0 c1 c2 c4 hy;go_wp2_with fail
           rcases hup with ⟨hpp,hd1⟩|⟨q2,hpp,hq2,hd1⟩
           · rw[hpp]
             go_roundg 0
             case measure => omega
             case rel => exact ⟨-1,dd+1,by omega,rfl,by go_num,rfl,Or.inl ⟨rfl,by omega⟩⟩
           · rw[hpp]
             go_roundg (q2+1)
             case measure => omega
             case rel => exact ⟨(q2:Int),dd+1,by omega,rfl,by go_num,rfl,Or.inr ⟨q2,rfl,by omega,by omega⟩⟩
    · have hili : ¬ ((i : Int) < (X.length : Int)) := by omega
      go_wp2_with fail;go_ret;exact ⟨rfl,hB3⟩
end
end Go.Proofs.YtfdbipeidmpciabDoor
