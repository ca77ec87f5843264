/- Bundled: PrefL SuffL CutL SplitL AtoiL ItoaL ParseW ParseX PathsK. What each says stands ahead of it. -/
import Derived.Shelf.Small.Wraps
import Derived.Shelf.Strings.Cut
import Derived.Shelf.Strings.Split
import Derived.Shelf.Strconv.AtoiAll
import Derived.Shelf.Strconv.Itoa3
import Derived.Test.YtfdbipeidmpciaaGreatDoorBundle11
import Derived.Test.YtfdbipeidmpciaaGreatDoorBundle19
import Derived.Lib.AppendIntMem
/-
  DERIVED: THE SHELF's CONTRACTS AT THIS DUMP, IN PLAIN WORDS (tools/lay-plain.mjs out of 'YtfdbipeidmpciaaGreatDoorPrefL.lean', which tools/lay-shelf.mjs wrote): THE SAME DECLARATIONS UNDER THE SAME NAMES: 'import', 'namespace', 'open', 'def', 'theorem' AND NOTHING ELSE: no command of the shelf's: FOR A HAND-IN. Each laying: the table of numbers ('.._ren') and one theorem, a field a fact of the dump's own or the kernel's comparison; each contract: ONE APPLICATION.
-/
namespace Go.Proofs
open Go.Shelf
def Tryz.lays103_ren:Go.Shelf.Ren:=⟨fun|103=>29|210=>43|206=>54|n=>n,fun|9=>9|4=>4|24=>63|3=>3|n=>n,fun|n=>n⟩
theorem Tryz.lays103:Go.Proofs.Lays.n103 Tryz.prog Tryz.lays103_ren:={
 mixed:=by kernel_rfl
 f103:=Tryz.func29.trans (congrArg some (by kernel_rfl))
 f206:=Tryz.func54.trans (congrArg some (by kernel_rfl))
 f210:=Tryz.func43.trans (congrArg some (by kernel_rfl))
 t3:=Tryz.underlying3
 a3:=Tryz.isAgg3
 z3:=Tryz.sizeOf3
 v3:=Tryz.zeroValue3
 t4:=Tryz.underlying4
 a4:=Tryz.isAgg4
 z4:=Tryz.sizeOf4
 v4:=Tryz.zeroValue4
 t9:=Tryz.underlying9
 a9:=Tryz.isAgg9
 z9:=Tryz.sizeOf9
 v9:=Tryz.zeroValue9
 t24:=Tryz.underlying63
 a24:=Tryz.isAgg63
 z24:=Tryz.sizeOf63
 v24:=Tryz.zeroValue63 }
open Go.RowKit in
/-- strings.CutPrefix: "CutPrefix returns s without the provided leading prefix string and reports whether it found the prefix. If s doesn't start with prefix, CutPrefix returns s, false. If prefix is the empty string, CutPrefix returns s, true.": IT RETURNS '(Lib.trimPrefix s p, Lib.hasPrefix s p)'; the world is as it was. (LAID: no walk: one application.) -/
theorem Tryz.strings_CutPrefix (s p:ByteArray)(w:World) :
 Calls Tryz.prog 29 #[.string s,.string p] w fun e w'=>e=.returned (.tuple #[.string ⟨(Lib.trimPrefix s.data.toList p.data.toList).toArray⟩,.bool (Lib.hasPrefix s.data.toList p.data.toList)])∧w'=w:=Any.strings_CutPrefix Tryz.lays103 s p w
end Go.Proofs
/-
  DERIVED: THE SHELF's CONTRACTS AT THIS DUMP, IN PLAIN WORDS (tools/lay-plain.mjs out of 'YtfdbipeidmpciaaGreatDoorSuffL.lean', which tools/lay-shelf.mjs wrote): THE SAME DECLARATIONS UNDER THE SAME NAMES: 'import', 'namespace', 'open', 'def', 'theorem' AND NOTHING ELSE: no command of the shelf's: FOR A HAND-IN. Each laying: the table of numbers ('.._ren') and one theorem, a field a fact of the dump's own or the kernel's comparison; each contract: ONE APPLICATION.
-/
namespace Go.Proofs
open Go.Shelf
def Tryz.lays104_ren:Go.Shelf.Ren:=⟨fun|104=>59|211=>71|207=>84|n=>n,fun|9=>9|4=>4|24=>63|3=>3|n=>n,fun|n=>n⟩
theorem Tryz.lays104:Go.Proofs.Lays.n104 Tryz.prog Tryz.lays104_ren:={
 mixed:=by kernel_rfl
 f104:=Tryz.func59.trans (congrArg some (by kernel_rfl))
 f207:=Tryz.func84.trans (congrArg some (by kernel_rfl))
 f211:=Tryz.func71.trans (congrArg some (by kernel_rfl))
 t3:=Tryz.underlying3
 a3:=Tryz.isAgg3
 z3:=Tryz.sizeOf3
 v3:=Tryz.zeroValue3
 t4:=Tryz.underlying4
 a4:=Tryz.isAgg4
 z4:=Tryz.sizeOf4
 v4:=Tryz.zeroValue4
 t9:=Tryz.underlying9
 a9:=Tryz.isAgg9
 z9:=Tryz.sizeOf9
 v9:=Tryz.zeroValue9
 t24:=Tryz.underlying63
 a24:=Tryz.isAgg63
 z24:=Tryz.sizeOf63
 v24:=Tryz.zeroValue63 }
open Go.RowKit in
/-- strings.CutSuffix: "CutSuffix returns s without the provided ending suffix string and reports whether it found the suffix. If s doesn't end with suffix, CutSuffix returns s, false. If suffix is the empty string, CutSuffix returns s, true.": IT RETURNS '(Lib.trimSuffix s p, Lib.hasSuffix s p)'; the world is as it was. (LAID: no walk: one application.) -/
theorem Tryz.strings_CutSuffix (s p:ByteArray)(w:World)(hs:s.size≤9223372036854775807) :
 Calls Tryz.prog 59 #[.string s,.string p] w fun e w'=>e=.returned (.tuple #[.string ⟨(Lib.trimSuffix s.data.toList p.data.toList).toArray⟩,.bool (Lib.hasSuffix s.data.toList p.data.toList)])∧w'=w:=Any.strings_CutSuffix Tryz.lays104 s p w hs
end Go.Proofs
/-
  DERIVED: THE SHELF's CONTRACTS AT THIS DUMP, IN PLAIN WORDS (tools/lay-plain.mjs out of 'YtfdbipeidmpciaaGreatDoorCutL.lean', which tools/lay-shelf.mjs wrote): THE SAME DECLARATIONS UNDER THE SAME NAMES: 'import', 'namespace', 'open', 'def', 'theorem' AND NOTHING ELSE: no command of the shelf's: FOR A HAND-IN. Each laying: the table of numbers ('.._ren') and one theorem, a field a fact of the dump's own or the kernel's comparison; each contract: ONE APPLICATION.
-/
namespace Go.Proofs
open Go.Shelf
def Tryz.lays145_ren:Go.Shelf.Ren:=⟨fun|145=>45|220=>58|219=>70|217=>82|225=>81|224=>80|267=>83|266=>91|314=>92|n=>n,fun|9=>9|4=>4|59=>83|3=>3|5=>5|46=>109|146=>123|51=>122|n=>n,fun|1=>2|n=>n⟩
theorem Tryz.lays145:Go.Proofs.Lays.n145 Tryz.prog Tryz.lays145_ren:={
 mixed:=by kernel_rfl
 f145:=Tryz.func45.trans (congrArg some (by kernel_rfl))
 f217:=Tryz.func82.trans (congrArg some (by kernel_rfl))
 f219:=Tryz.func70.trans (congrArg some (by kernel_rfl))
 f220:=Tryz.func58.trans (congrArg some (by kernel_rfl))
 f224:=Tryz.func80.trans (congrArg some (by kernel_rfl))
 f225:=Tryz.func81.trans (congrArg some (by kernel_rfl))
 f266:=Tryz.func91.trans (congrArg some (by kernel_rfl))
 f267:=Tryz.func83.trans (congrArg some (by kernel_rfl))
 f314:=Tryz.func92.trans (congrArg some (by kernel_rfl))
 t3:=Tryz.underlying3
 a3:=Tryz.isAgg3
 z3:=Tryz.sizeOf3
 v3:=Tryz.zeroValue3
 t4:=Tryz.underlying4
 a4:=Tryz.isAgg4
 z4:=Tryz.sizeOf4
 v4:=Tryz.zeroValue4
 t5:=Tryz.underlying5
 a5:=Tryz.isAgg5
 z5:=Tryz.sizeOf5
 v5:=Tryz.zeroValue5
 t9:=Tryz.underlying9
 a9:=Tryz.isAgg9
 z9:=Tryz.sizeOf9
 v9:=Tryz.zeroValue9
 t46:=Tryz.underlying109
 a46:=Tryz.isAgg109
 z46:=Tryz.sizeOf109
 v46:=Tryz.zeroValue109
 t51:=Tryz.underlying122
 a51:=Tryz.isAgg122
 z51:=Tryz.sizeOf122
 v51:=Tryz.zeroValue122
 t59:=Tryz.underlying83
 a59:=Tryz.isAgg83
 z59:=Tryz.sizeOf83
 v59:=Tryz.zeroValue83
 t146:=Tryz.underlying123
 a146:=Tryz.isAgg123
 z146:=Tryz.sizeOf123
 v146:=Tryz.zeroValue123
 g1:=by kernel_rfl }
open Go.RowKit Go.Lib in
/-- strings.Cut: "Cut slices s around the first instance of sep, returning the text before and after sep. The found result reports whether sep appears in s. If sep does not appear in s, cut returns s, "", false.": IT RETURNS 'Lib.cut s sep'; the world is as it was but for the count of draws. (LAID: no walk: one application.) -/
theorem Tryz.strings_Cut (s sep:ByteArray)(m:Int)(w:World)(hs:s.size<4294967281)(hm:w.cell? ⟨2,0,none⟩=some (.int .i64 m)) :
 Calls Tryz.prog 45 #[.string s,.string sep] w fun e w'=>e=.returned (.tuple #[.string ⟨(Lib.cut s.data.toList sep.data.toList).1.toArray⟩,.string ⟨(Lib.cut s.data.toList sep.data.toList).2.1.toArray⟩,.bool (Lib.cut s.data.toList sep.data.toList).2.2])∧∃ n,w'=w.drewN n:=Any.strings_Cut Tryz.lays145 s sep m w hs hm
end Go.Proofs
/-
  DERIVED: THE SHELF's CONTRACTS AT THIS DUMP, IN PLAIN WORDS (tools/lay-plain.mjs out of 'YtfdbipeidmpciaaGreatDoorSplitL.lean', which tools/lay-shelf.mjs wrote): THE SAME DECLARATIONS UNDER THE SAME NAMES: 'import', 'namespace', 'open', 'def', 'theorem' AND NOTHING ELSE: no command of the shelf's: FOR A HAND-IN. Each laying: the table of numbers ('.._ren') and one theorem, a field a fact of the dump's own or the kernel's comparison; each contract: ONE APPLICATION.
-/
namespace Go.Proofs
open Go.Shelf
def Tryz.lays146_ren:Go.Shelf.Ren:=⟨fun|146=>30|221=>44|268=>55|138=>56|143=>57|195=>68|197=>51|218=>69|219=>70|260=>65|217=>82|225=>81|224=>80|267=>83|266=>91|314=>92|n=>n,fun|9=>9|31=>65|3=>3|4=>4|0=>0|105=>91|21=>21|5=>5|46=>109|119=>108|139=>112|138=>111|146=>123|51=>122|n=>n,fun|1=>2|3=>0|4=>1|n=>n⟩
theorem Tryz.lays146:Go.Proofs.Lays.n146 Tryz.prog Tryz.lays146_ren:={
 mixed:=by kernel_rfl
 f138:=Tryz.func56.trans (congrArg some (by kernel_rfl))
 f143:=Tryz.func57.trans (congrArg some (by kernel_rfl))
 f146:=Tryz.func30.trans (congrArg some (by kernel_rfl))
 f195:=Tryz.func68.trans (congrArg some (by kernel_rfl))
 f197:=Tryz.func51.trans (congrArg some (by kernel_rfl))
 f217:=Tryz.func82.trans (congrArg some (by kernel_rfl))
 f218:=Tryz.func69.trans (congrArg some (by kernel_rfl))
 f219:=Tryz.func70.trans (congrArg some (by kernel_rfl))
 f221:=Tryz.func44.trans (congrArg some (by kernel_rfl))
 f224:=Tryz.func80.trans (congrArg some (by kernel_rfl))
 f225:=Tryz.func81.trans (congrArg some (by kernel_rfl))
 f260:=Tryz.func65.trans (congrArg some (by kernel_rfl))
 f266:=Tryz.func91.trans (congrArg some (by kernel_rfl))
 f267:=Tryz.func83.trans (congrArg some (by kernel_rfl))
 f268:=Tryz.func55.trans (congrArg some (by kernel_rfl))
 f314:=Tryz.func92.trans (congrArg some (by kernel_rfl))
 t0:=Tryz.underlying0
 a0:=Tryz.isAgg0
 z0:=Tryz.sizeOf0
 v0:=Tryz.zeroValue0
 t3:=Tryz.underlying3
 a3:=Tryz.isAgg3
 z3:=Tryz.sizeOf3
 v3:=Tryz.zeroValue3
 t4:=Tryz.underlying4
 a4:=Tryz.isAgg4
 z4:=Tryz.sizeOf4
 v4:=Tryz.zeroValue4
 t5:=Tryz.underlying5
 a5:=Tryz.isAgg5
 z5:=Tryz.sizeOf5
 v5:=Tryz.zeroValue5
 t9:=Tryz.underlying9
 a9:=Tryz.isAgg9
 z9:=Tryz.sizeOf9
 v9:=Tryz.zeroValue9
 t21:=Tryz.underlying21
 a21:=Tryz.isAgg21
 z21:=Tryz.sizeOf21
 v21:=Tryz.zeroValue21
 t31:=Tryz.underlying65
 a31:=Tryz.isAgg65
 z31:=Tryz.sizeOf65
 v31:=Tryz.zeroValue65
 t46:=Tryz.underlying109
 a46:=Tryz.isAgg109
 z46:=Tryz.sizeOf109
 v46:=Tryz.zeroValue109
 t51:=Tryz.underlying122
 a51:=Tryz.isAgg122
 z51:=Tryz.sizeOf122
 v51:=Tryz.zeroValue122
 t105:=Tryz.underlying91
 a105:=Tryz.isAgg91
 z105:=Tryz.sizeOf91
 v105:=Tryz.zeroValue91
 t119:=Tryz.underlying108
 a119:=Tryz.isAgg108
 z119:=Tryz.sizeOf108
 t138:=Tryz.underlying111
 a138:=Tryz.isAgg111
 z138:=Tryz.sizeOf111
 v138:=Tryz.zeroValue111
 t139:=Tryz.underlying112
 a139:=Tryz.isAgg112
 z139:=Tryz.sizeOf112
 v139:=Tryz.zeroValue112
 t146:=Tryz.underlying123
 a146:=Tryz.isAgg123
 z146:=Tryz.sizeOf123
 v146:=Tryz.zeroValue123
 g1:=by kernel_rfl
 g3:=by kernel_rfl
 g4:=by kernel_rfl }
open Go.RowKit Go.Lib in
/-- strings.Split. (LAID: no walk: one application.) -/
theorem Tryz.strings_Split (s sep:ByteArray)(m:Int)(w:World)(hs:s.size<4294967281)(hm:w.cell? ⟨2,0,none⟩=some (.int .i64 m))(h1:1≤sep.size) :
 Calls Tryz.prog 30 #[.string s,.string sep] w fun e w' =>
  e=.returned (.slice (some ⟨w.heap.size,0,none⟩) (Lib.countB s sep+1) (Lib.countB s sep+1))∧w'=w.alloc (.cells ((Lib.splitB sep 0 (Lib.countB s sep) s).map Value.string).toArray 9):=Any.strings_Split Tryz.lays146 (by kernel_rfl) s sep m w hs hm h1
end Go.Proofs
/-
  DERIVED: THE SHELF's CONTRACTS AT THIS DUMP, IN PLAIN WORDS (tools/lay-plain.mjs out of 'YtfdbipeidmpciaaGreatDoorAtoiL.lean', which tools/lay-shelf.mjs wrote): THE SAME DECLARATIONS UNDER THE SAME NAMES: 'import', 'namespace', 'open', 'def', 'theorem' AND NOTHING ELSE: no command of the shelf's: FOR A HAND-IN. Each laying: the table of numbers ('.._ren') and one theorem, a field a fact of the dump's own or the kernel's comparison; each contract: ONE APPLICATION.
-/
namespace Go.Proofs
open Go.Shelf
def Tryz.laysC172_ren:Go.Shelf.Ren:=⟨fun|172=>60|244=>72|245=>73|247=>85|279=>86|280=>87|281=>88|282=>89|287=>93|316=>94|171=>61|205=>95|321=>100|322=>101|243=>74|246=>90|283=>96|284=>97|285=>98|286=>99|129=>103|317=>102|318=>104|319=>105|320=>106|337=>107|338=>108|n=>n,fun|9=>9|3=>3|75=>98|76=>99|4=>4|5=>5|167=>115|37=>107|0=>0|85=>116|2=>2|168=>118|53=>125|175=>126|46=>109|210=>130|127=>138|145=>141|143=>139|21=>21|171=>132|173=>135|212=>143|51=>122|20=>20|213=>144|232=>148|233=>149|80=>150|n=>n,fun|15=>3|16=>4|17=>5|18=>6|19=>7|n=>n⟩
theorem Tryz.laysC172:Go.Proofs.LaysC.n172 Tryz.prog Tryz.laysC172_ren:={
 mixed:=by kernel_rfl
 f129:=Tryz.func103.trans (congrArg some (by kernel_rfl))
 f171:=Tryz.func61.trans (congrArg some (by kernel_rfl))
 f172:=Tryz.func60.trans (congrArg some (by kernel_rfl))
 f205:=Tryz.func95.trans (congrArg some (by kernel_rfl))
 f243:=Tryz.func74.trans (congrArg some (by kernel_rfl))
 f244:=Tryz.func72.trans (congrArg some (by kernel_rfl))
 f245:=Tryz.func73.trans (congrArg some (by kernel_rfl))
 f246:=Tryz.func90.trans (congrArg some (by kernel_rfl))
 f247:=Tryz.func85.trans (congrArg some (by kernel_rfl))
 f279:=Tryz.func86.trans (congrArg some (by kernel_rfl))
 f280:=Tryz.func87.trans (congrArg some (by kernel_rfl))
 f281:=Tryz.func88.trans (congrArg some (by kernel_rfl))
 f282:=Tryz.func89.trans (congrArg some (by kernel_rfl))
 f283:=Tryz.func96.trans (congrArg some (by kernel_rfl))
 f284:=Tryz.func97.trans (congrArg some (by kernel_rfl))
 f285:=Tryz.func98.trans (congrArg some (by kernel_rfl))
 f286:=Tryz.func99.trans (congrArg some (by kernel_rfl))
 f287:=Tryz.func93.trans (congrArg some (by kernel_rfl))
 f316:=Tryz.func94.trans (congrArg some (by kernel_rfl))
 f317:=Tryz.func102.trans (congrArg some (by kernel_rfl))
 f318:=Tryz.func104.trans (congrArg some (by kernel_rfl))
 f319:=Tryz.func105.trans (congrArg some (by kernel_rfl))
 f320:=Tryz.func106.trans (congrArg some (by kernel_rfl))
 f321:=Tryz.func100.trans (congrArg some (by kernel_rfl))
 f322:=Tryz.func101.trans (congrArg some (by kernel_rfl))
 f337:=Tryz.func107.trans (congrArg some (by kernel_rfl))
 f338:=Tryz.func108.trans (congrArg some (by kernel_rfl))
 t0:=Tryz.underlying0
 a0:=Tryz.isAgg0
 z0:=Tryz.sizeOf0
 v0:=Tryz.zeroValue0
 t2:=Tryz.underlying2
 a2:=Tryz.isAgg2
 z2:=Tryz.sizeOf2
 v2:=Tryz.zeroValue2
 t3:=Tryz.underlying3
 a3:=Tryz.isAgg3
 z3:=Tryz.sizeOf3
 v3:=Tryz.zeroValue3
 t4:=Tryz.underlying4
 a4:=Tryz.isAgg4
 z4:=Tryz.sizeOf4
 v4:=Tryz.zeroValue4
 t5:=Tryz.underlying5
 a5:=Tryz.isAgg5
 z5:=Tryz.sizeOf5
 v5:=Tryz.zeroValue5
 t9:=Tryz.underlying9
 a9:=Tryz.isAgg9
 z9:=Tryz.sizeOf9
 v9:=Tryz.zeroValue9
 t20:=Tryz.underlying20
 a20:=Tryz.isAgg20
 z20:=Tryz.sizeOf20
 v20:=Tryz.zeroValue20
 t21:=Tryz.underlying21
 a21:=Tryz.isAgg21
 z21:=Tryz.sizeOf21
 v21:=Tryz.zeroValue21
 t37:=Tryz.underlying107
 a37:=Tryz.isAgg107
 z37:=Tryz.sizeOf107
 v37:=Tryz.zeroValue107
 t46:=Tryz.underlying109
 a46:=Tryz.isAgg109
 z46:=Tryz.sizeOf109
 v46:=Tryz.zeroValue109
 t51:=Tryz.underlying122
 a51:=Tryz.isAgg122
 z51:=Tryz.sizeOf122
 v51:=Tryz.zeroValue122
 t53:=Tryz.underlying125
 a53:=Tryz.isAgg125
 z53:=Tryz.sizeOf125
 v53:=Tryz.zeroValue125
 t75:=Tryz.underlying98
 a75:=Tryz.isAgg98
 z75:=Tryz.sizeOf98
 v75:=Tryz.zeroValue98
 t76:=Tryz.underlying99
 a76:=Tryz.isAgg99
 z76:=Tryz.sizeOf99
 v76:=Tryz.zeroValue99
 t85:=Tryz.underlying116
 a85:=Tryz.isAgg116
 z85:=Tryz.sizeOf116
 v85:=Tryz.zeroValue116
 t127:=Tryz.underlying138
 a127:=Tryz.isAgg138
 z127:=Tryz.sizeOf138
 v127:=Tryz.zeroValue138
 t143:=Tryz.underlying139
 a143:=Tryz.isAgg139
 z143:=Tryz.sizeOf139
 v143:=Tryz.zeroValue139
 t145:=Tryz.underlying141
 a145:=Tryz.isAgg141
 z145:=Tryz.sizeOf141
 v145:=Tryz.zeroValue141
 t167:=Tryz.underlying115
 a167:=Tryz.isAgg115
 z167:=Tryz.sizeOf115
 v167:=Tryz.zeroValue115
 t168:=Tryz.underlying118
 a168:=Tryz.isAgg118
 z168:=Tryz.sizeOf118
 v168:=Tryz.zeroValue118
 t171:=Tryz.underlying132
 a171:=Tryz.isAgg132
 z171:=Tryz.sizeOf132
 v171:=Tryz.zeroValue132
 t173:=Tryz.underlying135
 a173:=Tryz.isAgg135
 z173:=Tryz.sizeOf135
 v173:=Tryz.zeroValue135
 t175:=Tryz.underlying126
 a175:=Tryz.isAgg126
 z175:=Tryz.sizeOf126
 v175:=Tryz.zeroValue126
 t210:=Tryz.underlying130
 a210:=Tryz.isAgg130
 z210:=Tryz.sizeOf130
 v210:=Tryz.zeroValue130
 t212:=Tryz.underlying143
 a212:=Tryz.isAgg143
 z212:=Tryz.sizeOf143
 v212:=Tryz.zeroValue143
 t213:=Tryz.underlying144
 a213:=Tryz.isAgg144
 z213:=Tryz.sizeOf144
 t232:=Tryz.underlying148
 a232:=Tryz.isAgg148
 z232:=Tryz.sizeOf148
 v232:=Tryz.zeroValue148
 t233:=Tryz.underlying149
 a233:=Tryz.isAgg149
 z233:=Tryz.sizeOf149
 v233:=Tryz.zeroValue149
 g15:=by kernel_rfl
 g16:=by kernel_rfl
 g17:=by kernel_rfl
 g18:=by kernel_rfl
 g19:=by kernel_rfl
 t80:=Tryz.underlying150
 a80:=Tryz.isAgg150
 z80:=Tryz.sizeOf150
 v80:=Tryz.zeroValue150
 i0:=by kernel_rfl
 i2:=by kernel_rfl
 i3:=by kernel_rfl
 i4:=by kernel_rfl
 i5:=by kernel_rfl
 i9:=by kernel_rfl
 i20:=by kernel_rfl
 i21:=by kernel_rfl
 i37:=by kernel_rfl
 i46:=by kernel_rfl
 i51:=by kernel_rfl
 i53:=by kernel_rfl
 i75:=by kernel_rfl
 i76:=by kernel_rfl
 i80:=by kernel_rfl
 i85:=by kernel_rfl
 i127:=by kernel_rfl
 i143:=by kernel_rfl
 i145:=by kernel_rfl
 i167:=by kernel_rfl
 i168:=by kernel_rfl
 i171:=by kernel_rfl
 i173:=by kernel_rfl
 i175:=by kernel_rfl
 i210:=by kernel_rfl
 i212:=by kernel_rfl
 i232:=by kernel_rfl
 i233:=by kernel_rfl
 m15:=by kernel_rfl
 m16:=by kernel_rfl
 m17:=by kernel_rfl
 m18:=by kernel_rfl
 m19:=by kernel_rfl
 c0:=by kernel_rfl
 c2:=by kernel_rfl
 c3:=by kernel_rfl
 c4:=by kernel_rfl
 c5:=by kernel_rfl
 c9:=by kernel_rfl
 c20:=by kernel_rfl
 c21:=by kernel_rfl
 c37:=by kernel_rfl
 c46:=by kernel_rfl
 c51:=by kernel_rfl
 c53:=by kernel_rfl
 c75:=by kernel_rfl
 c76:=by kernel_rfl
 c80:=by kernel_rfl
 c85:=by kernel_rfl
 c127:=by kernel_rfl
 c143:=by kernel_rfl
 c145:=by kernel_rfl
 c167:=by kernel_rfl
 c168:=by kernel_rfl
 c171:=by kernel_rfl
 c173:=by kernel_rfl
 c175:=by kernel_rfl
 c210:=by kernel_rfl
 c212:=by kernel_rfl
 c213:=by kernel_rfl
 c232:=by kernel_rfl
 c233:=by kernel_rfl }
open Go.RowKit in
/-- strconv.Atoi, AT EVERY STRING THAT SPELLS AN int ('Lib.atoiAll .. = .ok v'; of whatever length: leading zeros count): v, AND NO ERROR. The world: as it was, or with the one new row that '[]byte(..)' lays. (LAID: no walk: one application.) -/
theorem Tryz.strconv_Atoi_ok (s:ByteArray)(hmax:s.size≤9223372036854775806)(v:Int)(h:Lib.atoiAll s.data.toList=.ok v)(w:World) :
 Calls Tryz.prog 60 #[.string s] w fun e w'=>e=.returned (.tuple #[.int .i64 v,.nilIface])∧(w'=w∨∃ t,w'=Lib.bytesWorld w 5 t):=Any.strconv_Atoi_ok Tryz.laysC172 s hmax v h w
open Go.RowKit in
/-- strconv.Atoi, AT EVERY STRING THAT IS NO DECIMAL NUMERAL ('.syntax'): 0, AND AN ERROR THAT IS NOT nil: a *NumError in a new block N: {Func: "Atoi", Num: s's bytes, Err: what the variable ErrSyntax holds}. Of what was there nothing has turned. (LAID: no walk: one application.) -/
theorem Tryz.strconv_Atoi_syntax (s:ByteArray)(hlim:s.size≤281474976710656)(h:Lib.atoiAll s.data.toList=.«syntax»)(ev:Value)(w:World)(hv:w.cell? ⟨3,0,none⟩=some ev)(hev:ev=.nilIface∨∃ te pe,ev=.iface te pe) :
 Calls Tryz.prog 60 #[.string s] w fun e w'=>∃ N,e=.returned (.tuple #[.int .i64 (0),.iface 118 (.pointer (some ⟨N,0,none⟩))])∧w.heap.size≤N∧w'.heap[N]?=some (.cells #[.string ⟨#[65,116,111,105]⟩,.string s,ev] 130 (0,0))∧Below w.heap.size w w':=Any.strconv_Atoi_syntax Tryz.laysC172 s hlim h ev w hv hev
open Go.RowKit in
/-- strconv.Atoi, AT EVERY NUMERAL THAT NO int HOLDS ('.range'): THE GREATEST OR THE LEAST int, BY THE SIGN ('Lib.atoiSat'), AND AN ERROR THAT IS NOT nil: a *NumError in a new block N: {Func: "Atoi", Num: s's bytes, Err: what the variable ErrRange holds}. Of what was there nothing has turned. (LAID: no walk: one application.) -/
theorem Tryz.strconv_Atoi_range (s:ByteArray)(hlim:s.size≤281474976710656)(h:Lib.atoiAll s.data.toList=.range)(ev:Value)(w:World)(hv:w.cell? ⟨4,0,none⟩=some ev)(hev:ev=.nilIface∨∃ te pe,ev=.iface te pe) :
 Calls Tryz.prog 60 #[.string s] w fun e w'=>∃ N,e=.returned (.tuple #[.int .i64 (Lib.atoiSat s.data.toList),.iface 118 (.pointer (some ⟨N,0,none⟩))])∧w.heap.size≤N∧w'.heap[N]?=some (.cells #[.string ⟨#[65,116,111,105]⟩,.string s,ev] 130 (0,0))∧Below w.heap.size w w':=Any.strconv_Atoi_range Tryz.laysC172 s hlim h ev w hv hev
end Go.Proofs
/-
  DERIVED: THE SHELF's CONTRACTS AT THIS DUMP, IN PLAIN WORDS (tools/lay-plain.mjs out of 'YtfdbipeidmpciaaGreatDoorItoaL.lean', which tools/lay-shelf.mjs wrote): THE SAME DECLARATIONS UNDER THE SAME NAMES: 'import', 'namespace', 'open', 'def', 'theorem' AND NOTHING ELSE: no command of the shelf's: FOR A HAND-IN. Each laying: the table of numbers ('.._ren') and one theorem, a field a fact of the dump's own or the kernel's comparison; each contract: ONE APPLICATION.
-/
namespace Go.Proofs
open Go.Shelf
def Tryz.laysM171_ren:Go.Shelf.Ren:=⟨fun|171=>61|243=>74|246=>90|283=>96|284=>97|285=>98|286=>99|129=>103|317=>102|318=>104|319=>105|320=>106|337=>107|338=>108|n=>n,fun|3=>3|9=>9|2=>2|4=>4|171=>132|0=>0|53=>125|37=>107|5=>5|173=>135|212=>143|51=>122|20=>20|213=>144|46=>109|232=>148|233=>149|n=>n,fun|17=>5|18=>6|19=>7|n=>n⟩
theorem Tryz.laysM171:Go.Proofs.LaysM.n171 Tryz.prog Tryz.laysM171_ren:={
 mixed:=by kernel_rfl
 f129:=Tryz.func103.trans (congrArg some (by kernel_rfl))
 f171:=Tryz.func61.trans (congrArg some (by kernel_rfl))
 f243:=Tryz.func74.trans (congrArg some (by kernel_rfl))
 f246:=Tryz.func90.trans (congrArg some (by kernel_rfl))
 f283:=Tryz.func96.trans (congrArg some (by kernel_rfl))
 f284:=Tryz.func97.trans (congrArg some (by kernel_rfl))
 f285:=Tryz.func98.trans (congrArg some (by kernel_rfl))
 f286:=Tryz.func99.trans (congrArg some (by kernel_rfl))
 f317:=Tryz.func102.trans (congrArg some (by kernel_rfl))
 f318:=Tryz.func104.trans (congrArg some (by kernel_rfl))
 f319:=Tryz.func105.trans (congrArg some (by kernel_rfl))
 f320:=Tryz.func106.trans (congrArg some (by kernel_rfl))
 f337:=Tryz.func107.trans (congrArg some (by kernel_rfl))
 f338:=Tryz.func108.trans (congrArg some (by kernel_rfl))
 t0:=Tryz.underlying0
 a0:=Tryz.isAgg0
 z0:=Tryz.sizeOf0
 v0:=Tryz.zeroValue0
 t2:=Tryz.underlying2
 a2:=Tryz.isAgg2
 z2:=Tryz.sizeOf2
 v2:=Tryz.zeroValue2
 t3:=Tryz.underlying3
 a3:=Tryz.isAgg3
 z3:=Tryz.sizeOf3
 v3:=Tryz.zeroValue3
 t4:=Tryz.underlying4
 a4:=Tryz.isAgg4
 z4:=Tryz.sizeOf4
 v4:=Tryz.zeroValue4
 t5:=Tryz.underlying5
 a5:=Tryz.isAgg5
 z5:=Tryz.sizeOf5
 v5:=Tryz.zeroValue5
 t9:=Tryz.underlying9
 a9:=Tryz.isAgg9
 z9:=Tryz.sizeOf9
 v9:=Tryz.zeroValue9
 t20:=Tryz.underlying20
 a20:=Tryz.isAgg20
 z20:=Tryz.sizeOf20
 v20:=Tryz.zeroValue20
 t37:=Tryz.underlying107
 a37:=Tryz.isAgg107
 z37:=Tryz.sizeOf107
 v37:=Tryz.zeroValue107
 t46:=Tryz.underlying109
 a46:=Tryz.isAgg109
 z46:=Tryz.sizeOf109
 v46:=Tryz.zeroValue109
 t51:=Tryz.underlying122
 a51:=Tryz.isAgg122
 z51:=Tryz.sizeOf122
 v51:=Tryz.zeroValue122
 t53:=Tryz.underlying125
 a53:=Tryz.isAgg125
 z53:=Tryz.sizeOf125
 v53:=Tryz.zeroValue125
 t171:=Tryz.underlying132
 a171:=Tryz.isAgg132
 z171:=Tryz.sizeOf132
 v171:=Tryz.zeroValue132
 t173:=Tryz.underlying135
 a173:=Tryz.isAgg135
 z173:=Tryz.sizeOf135
 v173:=Tryz.zeroValue135
 t212:=Tryz.underlying143
 a212:=Tryz.isAgg143
 z212:=Tryz.sizeOf143
 v212:=Tryz.zeroValue143
 t213:=Tryz.underlying144
 a213:=Tryz.isAgg144
 z213:=Tryz.sizeOf144
 t232:=Tryz.underlying148
 a232:=Tryz.isAgg148
 z232:=Tryz.sizeOf148
 v232:=Tryz.zeroValue148
 t233:=Tryz.underlying149
 a233:=Tryz.isAgg149
 z233:=Tryz.sizeOf149
 v233:=Tryz.zeroValue149
 g17:=by kernel_rfl
 g18:=by kernel_rfl
 g19:=by kernel_rfl
 i0:=by kernel_rfl
 i2:=by kernel_rfl
 i3:=by kernel_rfl
 i4:=by kernel_rfl
 i5:=by kernel_rfl
 i9:=by kernel_rfl
 i20:=by kernel_rfl
 i37:=by kernel_rfl
 i46:=by kernel_rfl
 i51:=by kernel_rfl
 i53:=by kernel_rfl
 i171:=by kernel_rfl
 i173:=by kernel_rfl
 i212:=by kernel_rfl
 i232:=by kernel_rfl
 i233:=by kernel_rfl
 m17:=by kernel_rfl
 m18:=by kernel_rfl
 m19:=by kernel_rfl }
open Go.RowKit Go.Sort Go.Lib in
/-- strconv.Itoa: "Itoa is equivalent to FormatInt(int64(i), 10).": i's DECIMAL NUMERAL ('Lib.itoa': a '-' where i is negative, then the digits), FOR EVERY int. The world behind the call: the world before it, new blocks behind the heap (the library's 'var a [24]byte'), draws. (LAID: no walk: one application.) -/
theorem Tryz.strconv_Itoa (n : Int) (h0 : -9223372036854775808 ≤ n) (h1 : n ≤ 9223372036854775807) (w : World) (htab : Lib.TabIs Tryz.prog w "internal/strconv.uint64pow10" .u64 Lib.pow10Tab) :
 Calls Tryz.prog 61 #[.int .i64 n] w fun e w'=>e=.returned (.string ⟨(Lib.itoa n).toArray⟩)∧∃ k os,w'=grow (w.drewN k) os:=Any.strconv_Itoa Tryz.laysM171 n h0 h1 w htab
end Go.Proofs
namespace Go.Proofs.YtfdbipeidmpciaaGreatDoor
open Go.ChangeShapes Go.WideShapes Go.ChangeAt Go.RowKit
set_option maxRecDepth 100000
section
attribute [local go_sem] qf
structure yy (w:World):Prop where
 max:∃ m,w.cell? ⟨2,0,none⟩=some (.int .i64 m)
 syn:∃ ev,w.cell? ⟨3,0,none⟩=some ev∧(ev=.nilIface∨∃ te pe,ev=.iface te pe)
 rng:∃ ev,w.cell? ⟨4,0,none⟩=some ev∧(ev=.nilIface∨∃ te pe,ev=.iface te pe)
 tab : Lib.TabIs Tryz.prog w "internal/strconv.uint64pow10" .u64 Lib.pow10Tab
theorem yM {P:Program}{w w':World}{name:String}{k:IntKind}{zs:List Int}(h:Lib.TabIs P w name k zs)(hb:Below w.heap.size w w'):Lib.TabIs P w' name k zs:=by
 unfold Lib.TabIs World.var? at h ⊢
 cases hg:P.globalNamed name with
 | none=>simp[hg]at h
 | some g =>
   simp only[hg,Option.bind_some]at h ⊢
   have hlt:g<w.heap.size:=by
    rcases Nat.lt_or_ge g w.heap.size with h'|h'
    · exact h'
    · simp[Array.getElem?_eq_none h']at h
   rw[hb.block g hlt];exact h
theorem yy.later {w w':World}(h:yy w)(hb:Below w.heap.size w w'):yy w':=by
 obtain ⟨⟨m,hm⟩,⟨e1,h1,k1⟩,⟨e2,h2,k2⟩,ht⟩:=h;refine ⟨⟨m,?_⟩,⟨e1,?_,k1⟩,⟨e2,?_,k2⟩,yM ht hb⟩
 · rw[hb.cell (World.block_lt_of_cell? w _ hm)];exact hm
 · rw[hb.cell (World.block_lt_of_cell? w _ h1)];exact h1
 · rw[hb.cell (World.block_lt_of_cell? w _ h2)];exact h2
set_option maxHeartbeats 2000000 in
theorem jt (s:ByteArray)(w:World)(hE:yy w)(hs:s.size≤2500) :
 Calls Tryz.prog 46 #[.string s] w fun e w'=>e=.returned (.tuple #[.int .i64 ((qR s.data.toList).getD 0),.bool (qR s.data.toList).isSome])∧Below w.heap.size w w':=by
 obtain ⟨hm,⟨e1,h1,k1⟩,⟨e2,h2,k2⟩,ht⟩:=hE;obtain ⟨D,hD⟩:∃ D:List UInt8,Lib.trimSuffix s.data.toList [93]=D:=⟨_,rfl⟩;obtain ⟨C,hC⟩:∃ C,Lib.hasSuffix s.data.toList [93]=C:=⟨_,rfl⟩
 have HIR:Hid (qR s.data.toList=match Lib.atoiAll D with|.ok n=>if C=true∧n≠0∧Lib.itoa n=D then some n else none|_=>none):=by
  show _=_
  unfold qR;rw[hD,hC];cases Lib.atoiAll D<;>rfl
 have hDl:D.length≤2500:=by
  rw[←hD];unfold Lib.trimSuffix;have:s.data.toList.length=s.size:=by rw[Array.length_toList];rfl
  split
  · rw[List.length_take];omega
  · omega
 have hDs:(⟨D.toArray⟩:ByteArray).size≤2500:=by show D.toArray.size≤2500;simpa using hDl
 have HCS:Hid _:=Tryz.strings_CutSuffix s ⟨#[93]⟩ w (by omega)
 rw[show (⟨#[93]⟩:ByteArray).data.toList=[93] from rfl,hD,hC]at HCS
 have hDd:(⟨D.toArray⟩:ByteArray).data.toList=D:=by simp
 have HIT:Hid (∀ n:Int,-9223372036854775808≤n→n≤9223372036854775807→∀ W,Below w.heap.size w W→Calls Tryz.prog 61 #[.int .i64 n] W fun e w'=>e=.returned (.string ⟨(Lib.itoa n).toArray⟩)∧Below w.heap.size w w'):=by
  intro n g0 g1 W hW;refine (Tryz.strconv_Itoa n g0 g1 W (yM ht hW)).mono ?_;rintro e w' ⟨rfl,k,os,rfl⟩;exact ⟨rfl,hW.trans ((Lib.below_grow _ W (nR9 _) k os).mono hW.size)⟩
 cases hat:Lib.atoiAll D with
 | ok n =>
   obtain ⟨n0,n1⟩:=Lib.atoiAll_bounds hat
   have HA:Hid (Calls Tryz.prog 60 #[.string ⟨D.toArray⟩] w fun e w'=>e=.returned (.tuple #[.int .i64 n,.nilIface])∧Below w.heap.size w w'):=by
    refine (Tryz.strconv_Atoi_ok ⟨D.toArray⟩ (by omega) n (by rw[hDd];exact hat) w).mono ?_
    rintro e w' ⟨rfl,hw⟩
    rcases hw with rfl|⟨t,rfl⟩
    · exact ⟨rfl,Below.refl _ _⟩
    · exact ⟨rfl,Lib.bytesWorld_below _ _ _⟩
   have HI2:Hid (∀ W,Below w.heap.size w W→Calls Tryz.prog 61 #[.int .i64 n] W fun e w'=>e=.returned (.string ⟨(Lib.itoa n).toArray⟩)∧Below w.heap.size w w'):=HIT.out n n0 n1
   rw[hat]at HIR
   have HIR2:Hid (qR s.data.toList=if C=true∧n≠0∧Lib.itoa n=D then some n else none):=HIR.out
   clear HIR hat hD hC hm h1 k1 h2 k2 ht hDl hDs hDd HIT hs;cases C with
   | false =>
     have HE:Hid (qR s.data.toList=none):=by show _=_;rw[HIR2.out];simp
     clear HIR2
     go_enter Tryz.func46,Tryz.ntmps46
     go_wp2_with fail;refine (Calls.mono HCS.out ?_);rintro e w1 ⟨rfl,rfl⟩;go_wp2_with fail;refine (Calls.mono HA.out ?_);rintro e w2 ⟨rfl,hb2⟩;go_wp2_with fail
     go_ret2
     exact ⟨by rw[HE.out];rfl,hb2⟩
   | true =>
     by_cases hn:n=0
     · have HE : Hid (qR s.data.toList = none) := by show _ = _;rw[HIR2.out];simp[hn]
       clear HIR2
       go_enter Tryz.func46,Tryz.ntmps46
       go_wp2_with fail;refine (Calls.mono HCS.out ?_);rintro e w1 ⟨rfl,rfl⟩;go_wp2_with fail;refine (Calls.mono HA.out ?_);rintro e w2 ⟨rfl,hb2⟩;go_wp2_with fail
       go_ret2
       exact ⟨by rw[HE.out];rfl,hb2⟩
     · by_cases hi : Lib.itoa n = D
       · have HE : Hid (qR s.data.toList = some n) := by show _ = _;rw[HIR2.out];simp[hn, hi]
         rw[hi]at HI2
         clear HIR2 hi
         go_enter Tryz.func46,Tryz.ntmps46
         go_wp2_with fail;refine (Calls.mono HCS.out ?_);rintro e w1 ⟨rfl,rfl⟩;go_wp2_with fail;refine (Calls.mono HA.out ?_);rintro e w2 ⟨rfl,hb2⟩;go_wp2_with fail;refine (Calls.mono (HI2.out _ hb2) ?_);rintro e w3 ⟨rfl,hb3⟩;go_wp2_with fail
         go_ret2
         exact ⟨by rw[HE.out];rfl,hb3⟩
       · have HE : Hid (qR s.data.toList = none) := by show _ = _;rw[HIR2.out];simp[hi]
         obtain ⟨I,hI⟩:∃ I,Lib.itoa n=I:=⟨_,rfl⟩;rw[hI]at HI2 hi
         have hid:(I==D)=false:=by simpa using hi
         clear HIR2 hI
         go_enter Tryz.func46,Tryz.ntmps46
         go_wp2_with fail;refine (Calls.mono HCS.out ?_);rintro e w1 ⟨rfl,rfl⟩;go_wp2_with fail;refine (Calls.mono HA.out ?_);rintro e w2 ⟨rfl,hb2⟩;go_wp2_with fail;refine (Calls.mono (HI2.out _ hb2) ?_);rintro e w3 ⟨rfl,hb3⟩;go_wp2_with fail
         go_ret2
         exact ⟨by rw[HE.out];rfl,hb3⟩
 | «syntax» =>
   have HA:Hid (Calls Tryz.prog 60 #[.string ⟨D.toArray⟩] w fun e w'=>∃ N,e=.returned (.tuple #[.int .i64 0,.iface 118 (.pointer (some ⟨N,0,none⟩))])∧Below w.heap.size w w'):=by
    refine (Tryz.strconv_Atoi_syntax ⟨D.toArray⟩ (by omega) (by rw[hDd];exact hat) e1 w h1 k1).mono ?_
    rintro e w' ⟨N,rfl,_,_,hb⟩;exact ⟨N,rfl,hb⟩
   have HE:Hid (qR s.data.toList=none):=by show _=_;rw[HIR.out,hat]
   clear HIR hat hD hC hm h1 k1 h2 k2 ht hDl hDs hDd HIT hs;cases C <;>
   · go_enter Tryz.func46, Tryz.ntmps46
     go_wp2_with fail;refine (Calls.mono HCS.out ?_);rintro e w1 ⟨rfl,rfl⟩;go_wp2_with fail;refine (Calls.mono HA.out ?_);rintro e w2 ⟨N,rfl,hb2⟩;go_wp2_with fail
     go_ret2
     exact ⟨by rw[HE.out];rfl,hb2⟩
 | range =>
   have HA:Hid (Calls Tryz.prog 60 #[.string ⟨D.toArray⟩] w fun e w'=>∃ N,e=.returned (.tuple #[.int .i64 (Lib.atoiSat D),.iface 118 (.pointer (some ⟨N,0,none⟩))])∧Below w.heap.size w w'):=by
    refine (Tryz.strconv_Atoi_range ⟨D.toArray⟩ (by omega) (by rw[hDd];exact hat) e2 w h2 k2).mono ?_
    rintro e w' ⟨N,rfl,_,_,hb⟩;rw[hDd];exact ⟨N,rfl,hb⟩
   have HE:Hid (qR s.data.toList=none):=by show _=_;rw[HIR.out,hat]
   clear HIR hat hD hC hm h1 k1 h2 k2 ht hDl hDs hDd HIT hs;cases C <;>
   · go_enter Tryz.func46, Tryz.ntmps46
     go_wp2_with fail;refine (Calls.mono HCS.out ?_);rintro e w1 ⟨rfl,rfl⟩;go_wp2_with fail;refine (Calls.mono HA.out ?_);rintro e w2 ⟨N,rfl,hb2⟩;go_wp2_with fail
     go_ret2
     exact ⟨by rw[HE.out];rfl,hb2⟩
theorem xd {p:List UInt8}{A B:List UInt8}{F:Bool}(h:Lib.cut p [91]=(A,B,F)):A.length≤p.length∧B.length≤p.length:=by
 rcases Qs 91 p with ⟨_,hc⟩|⟨a,b,rfl,_,hc⟩
 · rw[h]at hc
   simp only[Prod.mk.injEq]at hc
   rw[hc.1,hc.2.1];simp
 · rw[h]at hc
   simp only[Prod.mk.injEq]at hc
   rw[hc.1,hc.2.1];simp;omega
theorem zi (w:World)(n:Nat):Below w.heap.size w (w.drewN n):=by
 induction n with
 | zero=>exact Below.refl _ _
 | succ n ih=>exact ih.drew
set_option maxHeartbeats 2000000 in
theorem jZ (s:ByteArray)(w:World)(hE:yy w)(hs:s.size≤2500) :
 Calls Tryz.prog 31 #[.string s] w fun e w'=>∃ nm n,e=.returned (.tuple #[.agg #[.string nm,.int .i64 n],.bool (zv s.data.toList).isSome])∧(∀ st,zv s.data.toList=some st→nm=⟨st.1.toArray⟩∧n=st.2)∧Below w.heap.size w w':=by
 have hb1:=Below.alloc1 w (.cells #[.string ⟨#[]⟩,.int .i64 0] 42);have hx1:=heap_alloc_new w (.cells #[.string ⟨#[]⟩,.int .i64 0] 42);obtain ⟨m,hm⟩:=(hE.later hb1).max;obtain ⟨A,B,F,hcut⟩:∃ A B F,Lib.cut s.data.toList [91]=(A,B,F):=⟨_,_,_,rfl⟩;have hlen:s.data.toList.length=s.size:=by rw[Array.length_toList];rfl
 have hAB:=xd hcut;have HC:Hid _:=Tryz.strings_Cut s ⟨#[91]⟩ m _ (by omega) hm
 rw[show (⟨#[91]⟩:ByteArray).data.toList=[91] from rfl,hcut]at HC
 have HS:Hid (zv s.data.toList=if A=[] then none else if F=false then some (if A=[35] then [] else A,0) else (qR B).map fun n=>(if A=[35] then [] else A,n)):=by
  show _=_
  unfold zv;rw[hcut]
 have hBs:(⟨B.toArray⟩:ByteArray).size≤2500:=by show B.toArray.size≤2500;simp;omega
 have hBd:(⟨B.toArray⟩:ByteArray).data.toList=B:=by simp
 have HRI:Hid (∀ W,Below w.heap.size w W→Calls Tryz.prog 46 #[.string ⟨B.toArray⟩] W fun e w'=>e=.returned (.tuple #[.int .i64 ((qR B).getD 0),.bool (qR B).isSome])∧Below W.heap.size W w'):=by
  intro W hW;have:=jt ⟨B.toArray⟩ W (hE.later hW) hBs;rw[hBd]at this
  exact this
 have hAl:∀ c:List UInt8,(⟨A.toArray⟩:ByteArray).toList=c↔A=c:=by
  intro c;rw[ByteArray.toList_eq]
 clear hE hm hs hlen hAB hBs hBd hcut
 by_cases hA:A=[]
 · have HE : Hid (zv s.data.toList = none) := by show _ = _;rw[HS.out, if_pos hA]
   clear HS HRI hAl;subst hA
   go_enter Tryz.func31,Tryz.ntmps31
   go_wp2_with fail;refine (Calls.mono HC.out ?_);rintro e w2 ⟨rfl,k,rfl⟩;have hb2:=zi (w.alloc (.cells #[.string ⟨#[]⟩,.int .i64 0] 42)) k
   generalize (w.alloc (.cells #[.string ⟨#[]⟩,.int .i64 0] 42)).drewN k=w2 at *
   have hx2:=(hb2.block _ (qe hx1)).trans hx1;have hB2:Below w.heap.size w w2:=hb1.trans (hb2.mono hb1.size);have p0:w2.cell? ⟨w.heap.size,0,none⟩=some (.string ⟨#[]⟩):=by rw[cH9 hx2];rfl
   have p1:w2.cell? ⟨w.heap.size,1,none⟩=some (.int .i64 0):=by rw[cH9 hx2];rfl
   have f0:w2.frozen? ⟨w.heap.size,0,none⟩=false:=fH9 hx2 0;have f1:w2.frozen? ⟨w.heap.size,1,none⟩=false:=fH9 hx2 1;clear hb1 hx1 hb2 HC;clear hx2;go_wp2_with fail;refine bodyPost_ret (v:=.tuple #[.agg #[.string ⟨#[]⟩,.int .i64 0],.bool false]) (by simp[results,Tryz.results31,go_sem,qf,p0,p1,World.cell?_setCell_other]) rfl ?_
   refine ⟨⟨#[]⟩,0,by rw[HE.out];rfl,(by intro st h;rw[HE.out]at h;cases h),?_⟩
   exact (hB2.setCell (p:=⟨w.heap.size,0,none⟩) (nR9 _) _).setCell (p:=⟨w.heap.size,1,none⟩) (nR9 _) _
 · obtain ⟨nm, hnm⟩ : ∃ nm, (if A = [35] then [] else A) = nm := ⟨_, rfl⟩
   cases F with
   | false =>
     have HE:Hid (zv s.data.toList=some (nm,0)):=by show _=_;rw[HS.out,if_neg hA,if_pos rfl,hnm]
     clear HS HRI
     by_cases h35:A=[35]
     · have hN : nm = [] := by rw[←hnm, if_pos h35]
       clear hnm hA hAl;subst h35 hN
       go_enter Tryz.func31,Tryz.ntmps31
       go_wp2_with fail;refine (Calls.mono HC.out ?_);rintro e w2 ⟨rfl,k,rfl⟩;have hb2:=zi (w.alloc (.cells #[.string ⟨#[]⟩,.int .i64 0] 42)) k
       generalize (w.alloc (.cells #[.string ⟨#[]⟩,.int .i64 0] 42)).drewN k=w2 at *
       have hx2:=(hb2.block _ (qe hx1)).trans hx1;have hB2:Below w.heap.size w w2:=hb1.trans (hb2.mono hb1.size);have p0:w2.cell? ⟨w.heap.size,0,none⟩=some (.string ⟨#[]⟩):=by rw[cH9 hx2];rfl
       have p1:w2.cell? ⟨w.heap.size,1,none⟩=some (.int .i64 0):=by rw[cH9 hx2];rfl
       have f0:w2.frozen? ⟨w.heap.size,0,none⟩=false:=fH9 hx2 0;have f1:w2.frozen? ⟨w.heap.size,1,none⟩=false:=fH9 hx2 1;clear hb1 hx1 hb2 HC;clear hx2;go_wp2_with fail;refine bodyPost_ret (v:=.tuple #[.agg #[.string ⟨#[]⟩,.int .i64 0],.bool true]) (by simp[results,Tryz.results31,go_sem,qf,p0,p1,World.cell?_setCell_other]) rfl ?_
       refine ⟨⟨#[]⟩,0,by rw[HE.out];rfl,(by intro st h;rw[HE.out]at h;cases h;exact ⟨rfl,rfl⟩),?_⟩
       exact (hB2.setCell (p:=⟨w.heap.size,0,none⟩) (nR9 _) _).setCell (p:=⟨w.heap.size,1,none⟩) (nR9 _) _
     · have h351 : (A == [35]) = false := by simpa using h35
       have hAe:A.isEmpty=false:=by simpa using hA
       have hN:nm=A:=by rw[←hnm,if_neg h35]
       clear hnm hAl;subst hN
       go_enter Tryz.func31,Tryz.ntmps31
       go_wp2_with fail;refine (Calls.mono HC.out ?_);rintro e w2 ⟨rfl,k,rfl⟩;have hb2:=zi (w.alloc (.cells #[.string ⟨#[]⟩,.int .i64 0] 42)) k
       generalize (w.alloc (.cells #[.string ⟨#[]⟩,.int .i64 0] 42)).drewN k=w2 at *
       have hx2:=(hb2.block _ (qe hx1)).trans hx1;have hB2:Below w.heap.size w w2:=hb1.trans (hb2.mono hb1.size);have p0:w2.cell? ⟨w.heap.size,0,none⟩=some (.string ⟨#[]⟩):=by rw[cH9 hx2];rfl
       have p1:w2.cell? ⟨w.heap.size,1,none⟩=some (.int .i64 0):=by rw[cH9 hx2];rfl
       have f0:w2.frozen? ⟨w.heap.size,0,none⟩=false:=fH9 hx2 0;have f1:w2.frozen? ⟨w.heap.size,1,none⟩=false:=fH9 hx2 1;clear hb1 hx1 hb2 HC;clear hx2;go_wp2_with fail;refine bodyPost_ret (v:=.tuple #[.agg #[.string ⟨nm.toArray⟩,.int .i64 0],.bool true]) (by simp[results,Tryz.results31,go_sem,qf,p0,p1,World.cell?_setCell_other]) rfl ?_
       refine ⟨⟨nm.toArray⟩,0,by rw[HE.out];rfl,(by intro st h;rw[HE.out]at h;cases h;exact ⟨rfl,rfl⟩),?_⟩
       exact (hB2.setCell (p:=⟨w.heap.size,0,none⟩) (nR9 _) _).setCell (p:=⟨w.heap.size,1,none⟩) (nR9 _) _
   | true =>
     have HE:Hid (zv s.data.toList=(qR B).map fun n=>(nm,n)):=by show _=_;rw[HS.out,if_neg hA,if_neg (by simp),hnm]
     obtain ⟨q,hq⟩:∃ q,qR B=q:=⟨_,rfl⟩;rw[hq]at HE HRI
     have HE2:Hid ((zv s.data.toList).isSome=q.isSome∧∀ st,zv s.data.toList=some st→nm=st.1∧q.getD 0=st.2):=by
      refine ⟨by rw[HE.out];cases q<;>rfl,fun st h=>?_⟩
      rw[HE.out]at h
      cases q with
      | none=>cases h
      | some n=>cases h;exact ⟨rfl,rfl⟩
     obtain ⟨n,hn⟩:∃ n,q.getD 0=n:=⟨_,rfl⟩;obtain ⟨t,ht⟩:∃ t,q.isSome=t:=⟨_,rfl⟩;rw[hn,ht]at HRI HE2
     clear HS HE hq hn ht
     by_cases h35:A=[35]
     · have hN : nm = [] := by rw[←hnm, if_pos h35]
       clear hnm hA hAl;subst h35 hN
       go_enter Tryz.func31,Tryz.ntmps31
       go_wp2_with fail;refine (Calls.mono HC.out ?_);rintro e w2 ⟨rfl,k,rfl⟩;have hb2:=zi (w.alloc (.cells #[.string ⟨#[]⟩,.int .i64 0] 42)) k
       generalize (w.alloc (.cells #[.string ⟨#[]⟩,.int .i64 0] 42)).drewN k=w2 at *
       have hx2:=(hb2.block _ (qe hx1)).trans hx1;have hB2:Below w.heap.size w w2:=hb1.trans (hb2.mono hb1.size);have p0:w2.cell? ⟨w.heap.size,0,none⟩=some (.string ⟨#[]⟩):=by rw[cH9 hx2];rfl
       have p1:w2.cell? ⟨w.heap.size,1,none⟩=some (.int .i64 0):=by rw[cH9 hx2];rfl
       have f0:w2.frozen? ⟨w.heap.size,0,none⟩=false:=fH9 hx2 0;have f1:w2.frozen? ⟨w.heap.size,1,none⟩=false:=fH9 hx2 1;clear hb1 hx1 hb2 HC;go_wp2_with fail;refine (Calls.mono (HRI.out _ hB2) ?_);rintro e w3 ⟨rfl,hb3⟩;have hx3:=(hb3.block _ (qe hx2)).trans hx2;have hB3:Below w.heap.size w w3:=hB2.trans (hb3.mono hB2.size);clear p0 p1 f0 f1;have p0:w3.cell? ⟨w.heap.size,0,none⟩=some (.string ⟨#[]⟩):=by rw[cH9 hx3];rfl
       have p1:w3.cell? ⟨w.heap.size,1,none⟩=some (.int .i64 0):=by rw[cH9 hx3];rfl
       have f0:w3.frozen? ⟨w.heap.size,0,none⟩=false:=fH9 hx3 0;have f1:w3.frozen? ⟨w.heap.size,1,none⟩=false:=fH9 hx3 1;clear hx2 hx3 HRI;go_wp2_with fail;refine bodyPost_ret (v:=.tuple #[.agg #[.string ⟨#[]⟩,.int .i64 n],.bool t]) (by simp[results,Tryz.results31,go_sem,qf,p0,p1,World.cell?_setCell_other]) rfl ?_
       refine ⟨⟨#[]⟩,n,by rw[HE2.out.1],(by intro st h;obtain ⟨g1,g2⟩:=HE2.out.2 st h;exact ⟨by rw[←g1],g2⟩),?_⟩
       exact (hB3.setCell (p:=⟨w.heap.size,0,none⟩) (nR9 _) _).setCell (p:=⟨w.heap.size,1,none⟩) (nR9 _) _
     · have h351 : (A == [35]) = false := by simpa using h35
       have hAe:A.isEmpty=false:=by simpa using hA
       have hN:nm=A:=by rw[←hnm,if_neg h35]
       clear hnm hAl;subst hN
       go_enter Tryz.func31,Tryz.ntmps31
       go_wp2_with fail;refine (Calls.mono HC.out ?_);rintro e w2 ⟨rfl,k,rfl⟩;have hb2:=zi (w.alloc (.cells #[.string ⟨#[]⟩,.int .i64 0] 42)) k
       generalize (w.alloc (.cells #[.string ⟨#[]⟩,.int .i64 0] 42)).drewN k=w2 at *
       have hx2:=(hb2.block _ (qe hx1)).trans hx1;have hB2:Below w.heap.size w w2:=hb1.trans (hb2.mono hb1.size);have p0:w2.cell? ⟨w.heap.size,0,none⟩=some (.string ⟨#[]⟩):=by rw[cH9 hx2];rfl
       have p1:w2.cell? ⟨w.heap.size,1,none⟩=some (.int .i64 0):=by rw[cH9 hx2];rfl
       have f0:w2.frozen? ⟨w.heap.size,0,none⟩=false:=fH9 hx2 0;have f1:w2.frozen? ⟨w.heap.size,1,none⟩=false:=fH9 hx2 1;clear hb1 hx1 hb2 HC;go_wp2_with fail;refine (Calls.mono (HRI.out _ hB2) ?_);rintro e w3 ⟨rfl,hb3⟩;have hx3:=(hb3.block _ (qe hx2)).trans hx2;have hB3:Below w.heap.size w w3:=hB2.trans (hb3.mono hB2.size);clear p0 p1 f0 f1;have p0:w3.cell? ⟨w.heap.size,0,none⟩=some (.string ⟨#[]⟩):=by rw[cH9 hx3];rfl
       have p1:w3.cell? ⟨w.heap.size,1,none⟩=some (.int .i64 0):=by rw[cH9 hx3];rfl
       have f0:w3.frozen? ⟨w.heap.size,0,none⟩=false:=fH9 hx3 0;have f1:w3.frozen? ⟨w.heap.size,1,none⟩=false:=fH9 hx3 1;clear hx2 hx3 HRI;go_wp2_with fail;refine bodyPost_ret (v:=.tuple #[.agg #[.string ⟨nm.toArray⟩,.int .i64 n],.bool t]) (by simp[results,Tryz.results31,go_sem,qf,p0,p1,World.cell?_setCell_other]) rfl ?_
       refine ⟨⟨nm.toArray⟩,n,by rw[HE2.out.1],(by intro st h;obtain ⟨g1,g2⟩:=HE2.out.2 st h;exact ⟨by rw[←g1],g2⟩),?_⟩
       exact (hB3.setCell (p:=⟨w.heap.size,0,none⟩) (nR9 _) _).setCell (p:=⟨w.heap.size,1,none⟩) (nR9 _) _
end
section
attribute [local go_sem] qf
def asS (l:List PStep):List St:=l.map fun p=>⟨⟨p.1.toArray⟩,p.2⟩
theorem zI (l:List PStep):(asS l).length=l.length:=List.length_map _
theorem Zr (l:List UInt8):qB ⟨l.toArray⟩=Q8 l:=by
 unfold qB Q8;have:(⟨l.toArray⟩:ByteArray).size=l.length:=by show l.toArray.size=_;simp
 rw[this]
theorem jA (a b:List UInt8):(⟨a.toArray⟩:ByteArray)=⟨b.toArray⟩↔a=b:=by
 constructor
 · intro h;have:=congrArg (fun x:ByteArray=>x.data.toList) h
   simpa using this
 · intro h;rw[h]
theorem ZA (p:PStep):qv ⟨⟨p.1.toArray⟩,p.2⟩=Zg p:=by
 unfold qv Zg;simp only;rw[Zr]
 have e1:decide ((⟨p.1.toArray⟩:ByteArray)=⟨#[]⟩)=decide (p.1=[]):=by
  rw[decide_eq_decide];exact jA p.1 []
 have e2:decide ((⟨p.1.toArray⟩:ByteArray)=⟨#[42]⟩)=decide (p.1=[42]):=by
  rw[decide_eq_decide];exact jA p.1 [42]
 rw[e1,e2]
theorem Zv (l:List PStep):qE (asS l)=jK l:=by
 unfold qE jK;rw[zI]
 congr 1
 unfold asS;rw[List.all_map]
 congr 1
 funext p
 exact ZA p
def stepCells:List St→List Value
 | []=>[]
 | s::l=>.string s.name::.int .i64 s.n::stepCells l
theorem zH (l:List St):(stepCells l).length=l.length*2:=by
 induction l with
 | nil=>rfl
 | cons s l ih=>simp[stepCells,ih];omega
theorem yF (l m:List St):stepCells (l++m)=stepCells l++stepCells m:=by
 induction l with
 | nil=>rfl
 | cons s l ih=>simp[stepCells,ih]
theorem z8 (l:List St):∀ i s,l[i]?=some s→(stepCells l)[i*2]?=some (.string s.name)∧(stepCells l)[i*2+1]?=some (.int .i64 s.n):=by
 induction l with
 | nil=>intro i s h;simp at h
 | cons y l ih =>
   intro i s h;cases i with
   | zero=>simp at h;subst h;simp[stepCells]
   | succ i =>
     have:=ih i s (by simpa using h)
     rw[show (i+1)*2=i*2+2 by omega]
     simpa[stepCells] using this
def zN (B:Nat)(w:World)(v:Value)(l:List St):Prop:=w.ownsRow B 42 2 v l.length (stepCells l)
theorem zN.shape {B:Nat}{w:World}{v:Value}{l:List St}(h:zN B w v l):∃ a c,v=.slice a l.length c∧l.length≤c∧c≤maxLen:=by
 rcases h.2 with ⟨rfl,h0⟩|⟨g,cap,cur,rfl,hg,hh,hc,hm,hs,ht⟩
 · exact ⟨none,0,by rw[h0],by omega,nZ9 _⟩
 · exact ⟨_,cap,rfl,hc,hm⟩
theorem zN.steps {B:Nat}{w:World}{v:Value}{l:List St}(h:zN B w v l):qy (fun b=>B≤b) w v l:=by
 rcases h.2 with ⟨rfl,h0⟩|⟨g,cap,cur,rfl,hg,hh,hc,hm,hs,ht⟩
 · have : l = [] := List.eq_nil_of_length_eq_zero h0;subst this;exact ⟨none,0,rfl,nR9 _,nZ9 _,fun h=>absurd rfl h⟩
 · refine ⟨_, cap, rfl, hc, hm, fun _ => ⟨g, 0, rfl, hg, fun i x hx => ?_⟩⟩
   have hi:=qk hx;obtain ⟨g0,g1⟩:=z8 l i x hx;rw[Nat.zero_add];exact ⟨by rw[World.ownsRow.cellAt h (i*2) (by omega)];exact g0,by rw[World.ownsRow.cellAt h (i*2+1) (by omega)];exact g1⟩
theorem zN.lt {B:Nat}{w:World}{v:Value}{l:List St}(h:zN B w v l):∀ k,v.ownBlock=some k→B≤k∧k<w.heap.size:=fun k hk=>World.ownsRow.lt h k hk
theorem zN.later {B:Nat}{w w':World}{v:Value}{l:List St}(h:zN B w v l)(hb:Below w.heap.size w w'):zN B w' v l:=qA h hb
theorem stepInfo:(Tryz.prog.info? 42).map (fun i=>(i.zero,i.size,i.bytes))=some (some (.agg #[.string ⟨#[]⟩,.int .i64 0]),2,24):=by kernel_rfl
theorem Zt (w:World)(a b:Value)(e:TypeId):∀ (j:Nat)(u:Value),([a,b]:List Value)[j]?=some u→(w.alloc (.cells #[a,b] e)).cell? ((⟨w.heap.size,0,none⟩:Addr).add j)=some u:=by
 intro j u hj
 match j,hj with
 | 0,hj|1,hj=>simp at hj;subst hj;simp[Addr.add]
theorem QQ {p:List UInt8}{st:PStep}(h:zv p=some st):st.1.length≤p.length:=by
 unfold zv at h
 obtain ⟨A,B,F,hcut⟩:∃ A B F,Lib.cut p [91]=(A,B,F):=⟨_,_,_,rfl⟩;have:=(xd hcut).1;rw[hcut]at h
 simp only at h
 have key:∀ n,((if A=[35] then ([]:List UInt8) else A,(n:Int)):PStep).1.length≤p.length:=by
  intro n;simp only
  split
  · simp
  · exact this
 split at h
 · cases h
 · split at h
   · cases h;exact key 0
   · cases hi : qR B with
     | none=>rw[hi]at h;cases h
     | some n=>rw[hi]at h;cases h;exact key n
theorem xI {ps:List (List UInt8)}{k:Nat}{p:List UInt8}(hk:ps[k]?=some p)(h:zv p=none):stepsR (ps.drop k)=none:=by
 have hl:=qk hk
 have e:ps.drop k=p::ps.drop (k+1):=by
  rw[List.drop_eq_getElem_cons hl];congr 1;simpa[hl] using hk
 rw[e,stepsR,h]
theorem xJ {ps:List (List UInt8)}{k:Nat}{p:List UInt8}{s:PStep}(hk:ps[k]?=some p)(h:zv p=some s):stepsR (ps.drop k)=(stepsR (ps.drop (k+1))).map (fun l=>s::l):=by
 have hl:=qk hk
 have e:ps.drop k=p::ps.drop (k+1):=by
  rw[List.drop_eq_getElem_cons hl];congr 1;simpa[hl] using hk
 rw[e,stepsR,h];cases stepsR (ps.drop (k+1))<;>rfl
theorem ji (s:ByteArray):s.data.toList.length=s.size:=by rw[Array.length_toList];rfl
def zr (s:ByteArray):Int:=if (zW s.data.toList).isSome then 0 else 1
def zt (s:ByteArray):List St:=asS ((zW s.data.toList).getD [])
theorem le_sum_mem:∀ {l:List Nat}{x:Nat},x∈l→x≤l.sum:=by
 intro l
 induction l with
 | nil=>intro x h;simp at h
 | cons y l ih =>
   intro x h;rw[List.mem_cons]at h
   rw[List.sum_cons]
   rcases h with rfl|h
   · omega
   · have:=ih h;omega
theorem QI {R p:List UInt8}(h:p∈Lib.split R [47]):p.length≤R.length:=by
 have:=(Qf 47 _ R (nR9 _)).1;have h2:=congrArg List.length this;rw[List.length_flatten,List.map_map]at h2
 have h3:(47::p).length∈(Lib.split R [47]).map (List.length ∘ fun p=>47::p):=List.mem_map.2 ⟨p,h,rfl⟩
 have h4:=le_sum_mem h3;rw[h2]at h4
 simp at h4
 exact h4
set_option maxHeartbeats 2000000 in
theorem x8 (s:ByteArray)(w:World)(hE:yy w)(hs:s.size≤maxLen) :
 Calls Tryz.prog 19 #[.string s] w fun e w'=>∃ v,e=.returned (.tuple #[v,.int .i64 (zr s)])∧qy (fun b=>w.heap.size≤b) w' v (zt s)∧Below w.heap.size w w':=by
 unfold maxLen at hs
 have HPL:Hid (zW s.data.toList=if s.data.toList.length≤2500∧Lib.hasPrefix s.data.toList [47]=true then (match stepsR (Lib.split (Lib.trimPrefix s.data.toList [47]) [47]) with|none=>none|some l=>if jK l=true then some l else none) else none):=by
  show _=_
  unfold zW
  split<;>rename_i h
  · cases stepsR (Lib.split (Lib.trimPrefix s.data.toList [47]) [47])<;>rfl
  · rfl
 have HNO:Hid (zW s.data.toList=none→zr s=1∧zt s=[]):=by
  intro h;unfold zr zt;rw[h];exact ⟨rfl,rfl⟩
 have hlen:=ji s
 by_cases h25:2500<s.size
 · have HE2 : Hid (zr s = 1 ∧ zt s = []) := HNO.out (by rw[HPL.out, if_neg (by rw[hlen];omega)])
   have h25i:(2500:Int)<(s.size:Int):=by omega
   clear HPL HNO
   go_enter Tryz.func19,Tryz.ntmps19
   go_wp2_with fail
   go_ret2
   exact ⟨_,by rw[HE2.out.1];rfl,by rw[HE2.out.2];exact ⟨none,0,rfl,nR9 _,nZ9 _,fun h=>absurd rfl h⟩,Below.refl _ _⟩
 · have h25i : ¬ (2500 : Int) < (s.size : Int) := by omega
   obtain ⟨R,hR⟩:∃ R,Lib.trimPrefix s.data.toList [47]=R:=⟨_,rfl⟩;obtain ⟨C,hC⟩:∃ C,Lib.hasPrefix s.data.toList [47]=C:=⟨_,rfl⟩;have HCP:Hid _:=Tryz.strings_CutPrefix s ⟨#[47]⟩ w;rw[show (⟨#[47]⟩:ByteArray).data.toList=[47] from rfl,hR,hC]at HCP
   rw[hR,hC,hlen]at HPL
   have hRl:R.length≤2500:=by
    rw[←hR];unfold Lib.trimPrefix
    split
    · rw[List.length_drop];omega
    · omega
   clear hR hC;cases C with
   | false =>
     have HE2:Hid (zr s=1∧zt s=[]):=HNO.out (by rw[HPL.out,if_neg (by simp)])
     clear HPL HNO
     go_enter Tryz.func19,Tryz.ntmps19
     go_wp2_with fail;refine (Calls.mono HCP.out ?_);rintro e w1 ⟨rfl,rfl⟩;go_wp2_with fail
     go_ret2
     exact ⟨_,by rw[HE2.out.1];rfl,by rw[HE2.out.2];exact ⟨none,0,rfl,nR9 _,nZ9 _,fun h=>absurd rfl h⟩,Below.refl _ _⟩
   | true =>
     have HP2:Hid (zW s.data.toList=match stepsR (Lib.split R [47]) with|none=>none|some l=>if jK l=true then some l else none):=by show _=_;rw[HPL.out,if_pos ⟨by omega,rfl⟩]
     obtain ⟨m,hm⟩:=hE.max;have hRs:(⟨R.toArray⟩:ByteArray).size=R.length:=by show R.toArray.size=_;simp
     have HSP:Hid _:=Tryz.strings_Split ⟨R.toArray⟩ ⟨#[47]⟩ m w (by omega) hm (by decide)
     obtain ⟨P,hP⟩:∃ P,Lib.splitB ⟨#[47]⟩ 0 (Lib.countB ⟨R.toArray⟩ ⟨#[47]⟩) ⟨R.toArray⟩=P:=⟨_,rfl⟩;have hPl:P.length=Lib.countB ⟨R.toArray⟩ ⟨#[47]⟩+1:=by rw[←hP];exact Lib.splitB_all ⟨#[47]⟩ (by decide) 0 _ _ rfl
     have hPd:P.map (·.data.toList)=Lib.split R [47]:=by
      rw[←hP,Lib.splitB_data];unfold Lib.split;have e1:(⟨R.toArray⟩:ByteArray).data.toList=R:=by simp
      have e2:(⟨#[47]⟩:ByteArray).data.toList=[47]:=rfl;rw[e1,e2]
     have hcl:=Lib.countB_le ⟨#[47]⟩ (by decide) _ ⟨R.toArray⟩ (nR9 _)
     rw[hP,←hPl]at HSP
     have HEE:Hid (yy w):=hE;have HPD:Hid (P.map (·.data.toList)=Lib.split R [47]):=hPd
     have HPS:Hid (∀ p∈P,p.size≤2500):=by
      intro p hp;have h1:p.data.toList∈Lib.split R [47]:=by rw[←hPd];exact List.mem_map.2 ⟨p,hp,rfl⟩
      have:=QI h1;rw[ji]at this
      omega
     have hPn:P.length≤2501:=by omega
     obtain ⟨i0,hi,hz0,hzz1,hz2⟩:=info_parts stepInfo;have hb2:=Below.alloc1 w (.cells (P.map Value.string).toArray 9);have hx2:=heap_alloc_new w (.cells (P.map Value.string).toArray 9);have hz2w:(w.alloc (.cells (P.map Value.string).toArray 9)).heap.size=w.heap.size+1:=by simp
     clear hE hm hP hPl hPd hcl HPL hRs
     go_enter Tryz.func19,Tryz.ntmps19
     go_wp2_with fail;refine (Calls.mono HCP.out ?_);rintro e w1 ⟨rfl,rfl⟩;go_wp2_with fail;refine (Calls.mono HSP.out ?_);rintro e w2 ⟨rfl,rfl⟩;go_wp2_with fail
     generalize w1.alloc (.cells (P.map Value.string).toArray 9)=W2 at *
     have HZ2:Hid (W2.heap.size=w1.heap.size+1):=hz2w;have hle2:w1.heap.size≤W2.heap.size:=by omega
     clear hz2w HCP HSP
     go_loopg [24,6] P.length (fun g j o wr=>∃ (k:Nat) (acc:List PStep),k+g=P.length∧j=.int .i64 (k:Int)∧acc.length=k∧zN W2.heap.size wr o (asS acc)∧Below W2.heap.size W2 wr∧stepsR (Lib.split R [47])=(stepsR ((Lib.split R [47]).drop k)).map (fun l=>acc++l)∧∀ x∈acc,x.1.length≤2500)
     case atStart => exact ⟨0,[],by omega,rfl,rfl,World.ownsRow_nil _ _ _ _,Below.refl _ _,by rw[List.drop_zero];cases stepsR (Lib.split R [47])<;>rfl,by simp⟩
     case round =>
      obtain ⟨k,acc,hk,rfl,hal,hSR,hB,hGot,hshort⟩:=hrel;have hBw:Below w1.heap.size w1 wr:=hb2.trans (hB.mono hle2);have hxr:=(hB.block _ (qe hx2)).trans hx2;have hszr:=hB.size;obtain ⟨ra,rc,rfl,hrl,hrm⟩:=hSR.shape;rw[zI,hal]at hSR hrl ⊢
      have HSR:Hid (zN W2.heap.size wr (.slice ra k rc) (asS acc)):=hSR;have HGot:Hid _:=hGot;have HSH:Hid (∀ x∈acc,x.1.length≤2500):=hshort;have HAL:Hid (acc.length=k):=hal;clear hSR hGot hshort hal
      by_cases hkl:k<P.length
      · obtain ⟨p, hp⟩ : ∃ p, P[k]? = some p := ⟨P[k], by simp[hkl]⟩
        have hpL:(Lib.split R [47])[k]?=some p.data.toList:=by rw[←HPD.out,List.getElem?_map,hp];rfl
        have hps:=HPS.out p (List.mem_of_getElem? hp)
        have e1:wr.cell? ⟨w1.heap.size,k,none⟩=some (.string p):=by
         rw[cH9 hxr];simp[hp]
        have HRS:Hid _:=jZ p wr (HEE.out.later hBw) hps;have hkli:(k:Int)<(P.length:Int):=by omega
        cases hst:zv p.data.toList with
        | none =>
          rw[hst]at HRS
          have HE2:Hid (zr s=1∧zt s=[]):=HNO.out (by rw[HP2.out,HGot.out,xI hpL hst];rfl)
          clear hst hpL hp hxr;go_wp2_with fail;refine (Calls.mono HRS.out ?_);rintro e w3 ⟨nm,n,rfl,_,hb3⟩;go_wp2_with fail
          go_ret2
          refine ⟨_,by rw[HE2.out.1];rfl,by rw[HE2.out.2];exact ⟨none,0,rfl,nR9 _,nZ9 _,fun h=>absurd rfl h⟩,?_⟩
          exact (hBw.trans (hb3.mono hBw.size)).alloc (Nat.le_trans hBw.size hb3.size) _
        | some st =>
          have hsn:=QQ hst;rw[ji]at hsn
          have HG2:Hid (stepsR (Lib.split R [47])=(stepsR ((Lib.split R [47]).drop (k+1))).map (fun l=>(acc++[st])++l)):=by
           show _=_
           rw[HGot.out,xJ hpL hst];cases stepsR ((Lib.split R [47]).drop (k+1)) with
           | none=>rfl
           | some l=>simp
          have HRS2:Hid (Calls Tryz.prog 31 #[.string p] wr fun e w'=>e=.returned (.tuple #[.agg #[.string ⟨st.1.toArray⟩,.int .i64 st.2],.bool true])∧Below wr.heap.size wr w'):=by
           refine (Calls.mono HRS.out ?_);rintro e w' ⟨nm,n,rfl,h1,hb⟩;obtain ⟨rfl,rfl⟩:=h1 st hst;rw[hst];exact ⟨rfl,hb⟩
          clear hst hpL hp hxr HRS;go_wp2_with fail;refine (Calls.mono HRS2.out ?_);rintro e w3 ⟨rfl,hb3⟩;have hB3:Below W2.heap.size W2 w3:=hB.trans (hb3.mono hszr);have hB4:Below W2.heap.size W2 (w3.alloc (.cells #[.string ⟨st.1.toArray⟩,.int .i64 st.2] 42)):=hB3.alloc hB3.size _;have hS4:zN W2.heap.size (w3.alloc (.cells #[.string ⟨st.1.toArray⟩,.int .i64 st.2] 42)) (.slice ra k rc) (asS acc):=(HSR.out.later hb3).later (Below.alloc1 _ _)
          have hown4:(w3.alloc (.cells #[.string ⟨st.1.toArray⟩,.int .i64 st.2] 42)).ownsRow W2.heap.size 42 2 (.slice ra k rc) k (stepCells (asS acc)):=by
           have:=hS4;unfold zN at this
           rw[zI,HAL.out]at this
           exact this
          have hs4:=hB3.size;go_wp2_with (at_builtin;refine wpList_append_own_at _ rfl _ _ 25 rfl W2.heap.size 42 i0 _ 2 24 Tryz.underlying25 hi hz0 hzz1 hz2 rfl (by decide) _ _ _ rfl (hown4.alloc _) ⟨w3.heap.size+1,0,none⟩ 1 1 [.string ⟨st.1.toArray⟩,.int .i64 st.2] ?qc0 ?qc1 ?qc2 ?qc3 ?qc4 ?qc5 ?qc6 ?_)
          case qc0 => first|rfl|simp[go_sem]
          case qc1 => rfl
          case qc2 => have:=Zt (w3.alloc (.cells #[.string ⟨st.1.toArray⟩,.int .i64 st.2] 42)) (.string ⟨st.1.toArray⟩) (.int .i64 st.2) 42;rw[World.size_alloc]at this;exact this
          case qc3 => intro z hz;simp at hz;rcases hz with rfl|rfl<;>rfl
          case qc4 => unfold maxLen;omega
          case qc5 => omega
          case qc6 => simp;omega
          intro v' w6 hown6 hgr6 _ _;obtain ⟨ja,jl,jc,rfl⟩:=qq hown6
          have hS6:zN W2.heap.size w6 (.slice ja jl jc) (asS (acc++[st])):=by
           unfold zN;rw[show asS (acc++[st])=asS acc++[⟨⟨st.1.toArray⟩,st.2⟩] by simp[asS],yF,List.length_append,zI,HAL.out]
           exact hown6
          have hB6:Below W2.heap.size W2 w6:=(hB4.alloc hB4.size _).grown hgr6 (by simp;omega) (fun z hz=>(hS4.lt z hz).1)
          clear hown6 hown4 hS4;go_wp2_with fail
          go_roundg (P.length-(k+1))
          case measure => omega
          case rel =>
           refine ⟨k+1,acc++[st],by omega,by go_num,by rw[List.length_append,HAL.out];rfl,hS6,hB6,HG2.out,fun x hx=>?_⟩
           rw[List.mem_append,List.mem_singleton]at hx
           rcases hx with hx|rfl
           · exact HSH.out x hx
           · omega
      · have hkk : k = P.length := by omega
        have hkli:¬ ((k:Int)<(P.length:Int)):=by omega
        have HG2:Hid (stepsR (Lib.split R [47])=some acc):=by
         show _=_
         have hdl:(Lib.split R [47]).length≤k:=by rw[←HPD.out,List.length_map];omega
         rw[HGot.out,List.drop_of_length_le hdl];simp[stepsR]
        have hSt:=HSR.out.steps;clear hkk
        have HPG:Hid _:=yA _ (.slice ra k rc) (asS acc) wr hSt (by
         intro x hx;obtain ⟨q,hq,rfl⟩:=List.mem_map.1 hx;have:=HSH.out q hq
         show q.1.toArray.size≤maxLen
         unfold maxLen;simp;omega)
        rw[Zv]at HPG
        cases hpl:jK acc with
        | false =>
          rw[hpl]at HPG
          have HE2:Hid (zr s=1∧zt s=[]):=HNO.out (by rw[HP2.out,HG2.out];simp[hpl])
          clear hpl;go_wp2_with fail;refine (Calls.mono HPG.out ?_);rintro e w3 ⟨rfl,hb3⟩;go_wp2_with fail
          go_ret2
          exact ⟨_,by rw[HE2.out.1];rfl,by rw[HE2.out.2];exact ⟨none,0,rfl,nR9 _,nZ9 _,fun h=>absurd rfl h⟩,hBw.trans (hb3.mono hBw.size)⟩
        | true =>
          rw[hpl]at HPG
          have HE2:Hid (zr s=0∧zt s=asS acc):=by
           have:zW s.data.toList=some acc:=by rw[HP2.out,HG2.out];simp[hpl]
           unfold zr zt;rw[this];exact ⟨rfl,rfl⟩
          clear hpl;go_wp2_with fail;refine (Calls.mono HPG.out ?_);rintro e w3 ⟨rfl,hb3⟩;go_wp2_with fail
          go_ret2
          exact ⟨_,by rw[HE2.out.1];rfl,by rw[HE2.out.2];exact (hSt.later hb3).carry fun b hb=>⟨by omega,rfl⟩,hBw.trans (hb3.mono hBw.size)⟩
end
section
attribute [local go_sem] qf
theorem paths_list:zW [47,97,47,42,91,50,93,47,35]=some [([97],0),([42],2),([],0)]:=by decide +kernel
theorem paths_parse:zr ⟨#[47,97,47,42,91,50,93,47,35]⟩=0∧zt ⟨#[47,97,47,42,91,50,93,47,35]⟩=[⟨⟨#[97]⟩,0⟩,⟨⟨#[42]⟩,2⟩,⟨⟨#[]⟩,0⟩]:=by
 have e:(⟨#[47,97,47,42,91,50,93,47,35]⟩:ByteArray).data.toList=[47,97,47,42,91,50,93,47,35]:=rfl;unfold zr zt;rw[e,paths_list];exact ⟨rfl,rfl⟩
end
end Go.Proofs.YtfdbipeidmpciaaGreatDoor
