/- Bundled: CutL PrefL SuffL SplitL AtoiL ItoaL TrpL TrsL HasL ParseW ParseX IndL RefPlain SpnL MeantP SelectP. What each says stands ahead of it. -/
import Derived.Shelf.Strings.Cut
import Derived.Ground.Names2Prog
import Derived.Shelf.Small.Wraps
import Derived.Shelf.Strings.Split
import Derived.Shelf.Strconv.AtoiAll
import Derived.Shelf.Strconv.Itoa3
import Derived.Test.YtfplhcicbbhljaaGreatDoorBundle20
import Derived.Test.YtfplhcicbbhljaaGreatDoorBundle21
import Derived.Lib.AppendIntMem
/-
  DERIVED: THE SHELF's CONTRACTS AT THIS DUMP, IN PLAIN WORDS (tools/lay-plain.mjs out of 'YtfplhcicbbhljaaGreatDoorCutL.lean', which tools/lay-shelf.mjs wrote): THE SAME DECLARATIONS UNDER THE SAME NAMES: 'import', 'namespace', 'open', 'def', 'theorem' AND NOTHING ELSE: no command of the shelf's: FOR A HAND-IN. Each laying: the table of numbers ('.._ren') and one theorem, a field a fact of the dump's own or the kernel's comparison; each contract: ONE APPLICATION.
-/
namespace Go.Proofs
open Go.Shelf
def Tryz.lays145_ren:Go.Shelf.Ren:=⟨fun|145=>9|220=>23|219=>48|217=>36|225=>81|224=>82|267=>83|266=>64|314=>119|n=>n,fun|9=>9|4=>4|59=>33|3=>3|5=>5|46=>131|146=>170|51=>169|n=>n,fun|1=>1|n=>n⟩
theorem Tryz.lays145:Go.Proofs.Lays.n145 Tryz.prog Tryz.lays145_ren:={
 mixed:=by kernel_rfl
 f145:=Tryz.func9.trans (congrArg some (by kernel_rfl))
 f217:=Tryz.func36.trans (congrArg some (by kernel_rfl))
 f219:=Tryz.func48.trans (congrArg some (by kernel_rfl))
 f220:=Tryz.func23.trans (congrArg some (by kernel_rfl))
 f224:=Tryz.func82.trans (congrArg some (by kernel_rfl))
 f225:=Tryz.func81.trans (congrArg some (by kernel_rfl))
 f266:=Tryz.func64.trans (congrArg some (by kernel_rfl))
 f267:=Tryz.func83.trans (congrArg some (by kernel_rfl))
 f314:=Tryz.func119.trans (congrArg some (by kernel_rfl))
 t3:=Tryz.underlying3
 a3:=Tryz.isAgg3
 z3:=Tryz.sizeOf3
 v3:=Tryz.zeroValue3
 t4:=Tryz.underlying4
 a4:=Tryz.isAgg4
 z4:=Tryz.sizeOf4
 v4:=Tryz.zeroValue4
 t5:=Tryz.underlying5
 a5:=Tryz.isAgg5
 z5:=Tryz.sizeOf5
 v5:=Tryz.zeroValue5
 t9:=Tryz.underlying9
 a9:=Tryz.isAgg9
 z9:=Tryz.sizeOf9
 v9:=Tryz.zeroValue9
 t46:=Tryz.underlying131
 a46:=Tryz.isAgg131
 z46:=Tryz.sizeOf131
 v46:=Tryz.zeroValue131
 t51:=Tryz.underlying169
 a51:=Tryz.isAgg169
 z51:=Tryz.sizeOf169
 v51:=Tryz.zeroValue169
 t59:=Tryz.underlying33
 a59:=Tryz.isAgg33
 z59:=Tryz.sizeOf33
 v59:=Tryz.zeroValue33
 t146:=Tryz.underlying170
 a146:=Tryz.isAgg170
 z146:=Tryz.sizeOf170
 v146:=Tryz.zeroValue170
 g1:=by kernel_rfl }
open Go.RowKit Go.Lib in
/-- strings.Cut: "Cut slices s around the first instance of sep, returning the text before and after sep. The found result reports whether sep appears in s. If sep does not appear in s, cut returns s, "", false.": IT RETURNS 'Lib.cut s sep'; the world is as it was but for the count of draws. (LAID: no walk: one application.) -/
theorem Tryz.strings_Cut (s sep:ByteArray)(m:Int)(w:World)(hs:s.size<4294967281)(hm:w.cell? ⟨1,0,none⟩=some (.int .i64 m)) :
 Calls Tryz.prog 9 #[.string s,.string sep] w fun e w'=>e=.returned (.tuple #[.string ⟨(Lib.cut s.data.toList sep.data.toList).1.toArray⟩,.string ⟨(Lib.cut s.data.toList sep.data.toList).2.1.toArray⟩,.bool (Lib.cut s.data.toList sep.data.toList).2.2])∧∃ n,w'=w.drewN n:=Any.strings_Cut Tryz.lays145 s sep m w hs hm
end Go.Proofs
/-
  DERIVED: LAID BY THE SHELF's lay-shelf.mjs AT THE DUMP 'toys/ytfplhcicbbhljaagreatdoor/ytfplhcicbbhljaagreatdoor.cut.gsa' (alias 'Tryz'): THE LIBRARY CONTRACTS THAT ARE PROVED ONCE, OVER ANY PROGRAM AND ANY NUMBERING, AS THEOREMS OF THIS PROGRAM: WITHOUT A WALK: 'shelf_lay' reads the table of numbers off the bodies and has the kernel compare each body; then each contract is ONE APPLICATION. EACH COMMAND STANDS UNDER 'shelf_try': one that errs is rolled back and told in the build's print ('SHELF: NOT LAID: <name>: ..'); THE MODULE's LAST ROW OF PRINT COUNTS THEM ('SHELF: n LAID, m NOT LAID'): READ IT: a contract that is not laid is not there to be used.
-/
namespace Go.Proofs
open Go.Shelf
shelf_try shelf_lay Lays.n103 Nm 103 at Tryz as Tryz.lays103
shelf_try open Go.RowKit in
theorem Tryz.strings_CutPrefix (s p:ByteArray)(w:World) :
 Calls Tryz.prog 24 #[.string s,.string p] w fun e w'=>e=.returned (.tuple #[.string ⟨(Lib.trimPrefix s.data.toList p.data.toList).toArray⟩,.bool (Lib.hasPrefix s.data.toList p.data.toList)])∧w'=w:=Any.strings_CutPrefix Tryz.lays103 s p w
shelf_try #print axioms Tryz.strings_CutPrefix
shelf_tried
end Go.Proofs
/-
  DERIVED: LAID BY THE SHELF's lay-shelf.mjs AT THE DUMP 'toys/ytfplhcicbbhljaagreatdoor/ytfplhcicbbhljaagreatdoor.cut.gsa' (alias 'Tryz'): THE LIBRARY CONTRACTS THAT ARE PROVED ONCE, OVER ANY PROGRAM AND ANY NUMBERING, AS THEOREMS OF THIS PROGRAM: WITHOUT A WALK: 'shelf_lay' reads the table of numbers off the bodies and has the kernel compare each body; then each contract is ONE APPLICATION. EACH COMMAND STANDS UNDER 'shelf_try': one that errs is rolled back and told in the build's print ('SHELF: NOT LAID: <name>: ..'); THE MODULE's LAST ROW OF PRINT COUNTS THEM ('SHELF: n LAID, m NOT LAID'): READ IT: a contract that is not laid is not there to be used.
-/
namespace Go.Proofs
open Go.Shelf
shelf_try shelf_lay Lays.n104 Nm 104 at Tryz as Tryz.lays104
shelf_try open Go.RowKit in
theorem Tryz.strings_CutSuffix (s p:ByteArray)(w:World)(hs:s.size≤9223372036854775807) :
 Calls Tryz.prog 85 #[.string s,.string p] w fun e w'=>e=.returned (.tuple #[.string ⟨(Lib.trimSuffix s.data.toList p.data.toList).toArray⟩,.bool (Lib.hasSuffix s.data.toList p.data.toList)])∧w'=w:=Any.strings_CutSuffix Tryz.lays104 s p w hs
shelf_try #print axioms Tryz.strings_CutSuffix
shelf_tried
end Go.Proofs
/-
  DERIVED: THE SHELF's CONTRACTS AT THIS DUMP, IN PLAIN WORDS (tools/lay-plain.mjs out of 'YtfplhcicbbhljaaGreatDoorSplitL.lean', which tools/lay-shelf.mjs wrote): THE SAME DECLARATIONS UNDER THE SAME NAMES: 'import', 'namespace', 'open', 'def', 'theorem' AND NOTHING ELSE: no command of the shelf's: FOR A HAND-IN. Each laying: the table of numbers ('.._ren') and one theorem, a field a fact of the dump's own or the kernel's comparison; each contract: ONE APPLICATION.
-/
namespace Go.Proofs
open Go.Shelf
def Tryz.lays146_ren:Go.Shelf.Ren:=⟨fun|146=>25|221=>31|268=>59|138=>60|143=>61|195=>94|197=>95|218=>96|219=>48|260=>130|217=>36|225=>81|224=>82|267=>83|266=>64|314=>119|n=>n,fun|9=>9|31=>41|3=>3|4=>4|0=>0|105=>141|21=>21|5=>5|46=>131|119=>212|139=>215|138=>214|146=>170|51=>169|n=>n,fun|1=>1|3=>3|4=>4|n=>n⟩
theorem Tryz.lays146:Go.Proofs.Lays.n146 Tryz.prog Tryz.lays146_ren:={
 mixed:=by kernel_rfl
 f138:=Tryz.func60.trans (congrArg some (by kernel_rfl))
 f143:=Tryz.func61.trans (congrArg some (by kernel_rfl))
 f146:=Tryz.func25.trans (congrArg some (by kernel_rfl))
 f195:=Tryz.func94.trans (congrArg some (by kernel_rfl))
 f197:=Tryz.func95.trans (congrArg some (by kernel_rfl))
 f217:=Tryz.func36.trans (congrArg some (by kernel_rfl))
 f218:=Tryz.func96.trans (congrArg some (by kernel_rfl))
 f219:=Tryz.func48.trans (congrArg some (by kernel_rfl))
 f221:=Tryz.func31.trans (congrArg some (by kernel_rfl))
 f224:=Tryz.func82.trans (congrArg some (by kernel_rfl))
 f225:=Tryz.func81.trans (congrArg some (by kernel_rfl))
 f260:=Tryz.func130.trans (congrArg some (by kernel_rfl))
 f266:=Tryz.func64.trans (congrArg some (by kernel_rfl))
 f267:=Tryz.func83.trans (congrArg some (by kernel_rfl))
 f268:=Tryz.func59.trans (congrArg some (by kernel_rfl))
 f314:=Tryz.func119.trans (congrArg some (by kernel_rfl))
 t0:=Tryz.underlying0
 a0:=Tryz.isAgg0
 z0:=Tryz.sizeOf0
 v0:=Tryz.zeroValue0
 t3:=Tryz.underlying3
 a3:=Tryz.isAgg3
 z3:=Tryz.sizeOf3
 v3:=Tryz.zeroValue3
 t4:=Tryz.underlying4
 a4:=Tryz.isAgg4
 z4:=Tryz.sizeOf4
 v4:=Tryz.zeroValue4
 t5:=Tryz.underlying5
 a5:=Tryz.isAgg5
 z5:=Tryz.sizeOf5
 v5:=Tryz.zeroValue5
 t9:=Tryz.underlying9
 a9:=Tryz.isAgg9
 z9:=Tryz.sizeOf9
 v9:=Tryz.zeroValue9
 t21:=Tryz.underlying21
 a21:=Tryz.isAgg21
 z21:=Tryz.sizeOf21
 v21:=Tryz.zeroValue21
 t31:=Tryz.underlying41
 a31:=Tryz.isAgg41
 z31:=Tryz.sizeOf41
 v31:=Tryz.zeroValue41
 t46:=Tryz.underlying131
 a46:=Tryz.isAgg131
 z46:=Tryz.sizeOf131
 v46:=Tryz.zeroValue131
 t51:=Tryz.underlying169
 a51:=Tryz.isAgg169
 z51:=Tryz.sizeOf169
 v51:=Tryz.zeroValue169
 t105:=Tryz.underlying141
 a105:=Tryz.isAgg141
 z105:=Tryz.sizeOf141
 v105:=Tryz.zeroValue141
 t119:=Tryz.underlying212
 a119:=Tryz.isAgg212
 z119:=Tryz.sizeOf212
 t138:=Tryz.underlying214
 a138:=Tryz.isAgg214
 z138:=Tryz.sizeOf214
 v138:=Tryz.zeroValue214
 t139:=Tryz.underlying215
 a139:=Tryz.isAgg215
 z139:=Tryz.sizeOf215
 v139:=Tryz.zeroValue215
 t146:=Tryz.underlying170
 a146:=Tryz.isAgg170
 z146:=Tryz.sizeOf170
 v146:=Tryz.zeroValue170
 g1:=by kernel_rfl
 g3:=by kernel_rfl
 g4:=by kernel_rfl }
open Go.RowKit Go.Lib in
/-- strings.Split. (LAID: no walk: one application.) -/
theorem Tryz.strings_Split (s sep:ByteArray)(m:Int)(w:World)(hs:s.size<4294967281)(hm:w.cell? ⟨1,0,none⟩=some (.int .i64 m))(h1:1≤sep.size) :
 Calls Tryz.prog 25 #[.string s,.string sep] w fun e w' =>
  e=.returned (.slice (some ⟨w.heap.size,0,none⟩) (Lib.countB s sep+1) (Lib.countB s sep+1))∧w'=w.alloc (.cells ((Lib.splitB sep 0 (Lib.countB s sep) s).map Value.string).toArray 9):=Any.strings_Split Tryz.lays146 (by kernel_rfl) s sep m w hs hm h1
end Go.Proofs
/-
  DERIVED: THE SHELF's CONTRACTS AT THIS DUMP, IN PLAIN WORDS (tools/lay-plain.mjs out of 'YtfplhcicbbhljaaGreatDoorAtoiL.lean', which tools/lay-shelf.mjs wrote): THE SAME DECLARATIONS UNDER THE SAME NAMES: 'import', 'namespace', 'open', 'def', 'theorem' AND NOTHING ELSE: no command of the shelf's: FOR A HAND-IN. Each laying: the table of numbers ('.._ren') and one theorem, a field a fact of the dump's own or the kernel's comparison; each contract: ONE APPLICATION.
-/
namespace Go.Proofs
open Go.Shelf
def Tryz.laysC172_ren:Go.Shelf.Ren:=⟨fun|172=>86|244=>121|245=>122|247=>163|279=>164|280=>165|281=>166|282=>167|287=>203|316=>58|171=>87|205=>204|321=>222|322=>223|243=>123|246=>168|283=>205|284=>206|285=>207|286=>208|129=>225|317=>224|318=>226|319=>227|320=>228|337=>242|338=>243|n=>n,fun|9=>9|3=>3|75=>133|76=>134|4=>4|5=>5|167=>199|37=>109|0=>0|85=>200|2=>2|168=>202|53=>237|175=>238|46=>131|210=>241|127=>140|145=>262|143=>260|21=>21|171=>243|173=>246|212=>264|51=>169|20=>20|213=>265|232=>282|233=>283|80=>105|n=>n,fun|15=>5|16=>6|17=>7|18=>8|19=>9|n=>n⟩
theorem Tryz.laysC172:Go.Proofs.LaysC.n172 Tryz.prog Tryz.laysC172_ren:={
 mixed:=by kernel_rfl
 f129:=Tryz.func225.trans (congrArg some (by kernel_rfl))
 f171:=Tryz.func87.trans (congrArg some (by kernel_rfl))
 f172:=Tryz.func86.trans (congrArg some (by kernel_rfl))
 f205:=Tryz.func204.trans (congrArg some (by kernel_rfl))
 f243:=Tryz.func123.trans (congrArg some (by kernel_rfl))
 f244:=Tryz.func121.trans (congrArg some (by kernel_rfl))
 f245:=Tryz.func122.trans (congrArg some (by kernel_rfl))
 f246:=Tryz.func168.trans (congrArg some (by kernel_rfl))
 f247:=Tryz.func163.trans (congrArg some (by kernel_rfl))
 f279:=Tryz.func164.trans (congrArg some (by kernel_rfl))
 f280:=Tryz.func165.trans (congrArg some (by kernel_rfl))
 f281:=Tryz.func166.trans (congrArg some (by kernel_rfl))
 f282:=Tryz.func167.trans (congrArg some (by kernel_rfl))
 f283:=Tryz.func205.trans (congrArg some (by kernel_rfl))
 f284:=Tryz.func206.trans (congrArg some (by kernel_rfl))
 f285:=Tryz.func207.trans (congrArg some (by kernel_rfl))
 f286:=Tryz.func208.trans (congrArg some (by kernel_rfl))
 f287:=Tryz.func203.trans (congrArg some (by kernel_rfl))
 f316:=Tryz.func58.trans (congrArg some (by kernel_rfl))
 f317:=Tryz.func224.trans (congrArg some (by kernel_rfl))
 f318:=Tryz.func226.trans (congrArg some (by kernel_rfl))
 f319:=Tryz.func227.trans (congrArg some (by kernel_rfl))
 f320:=Tryz.func228.trans (congrArg some (by kernel_rfl))
 f321:=Tryz.func222.trans (congrArg some (by kernel_rfl))
 f322:=Tryz.func223.trans (congrArg some (by kernel_rfl))
 f337:=Tryz.func242.trans (congrArg some (by kernel_rfl))
 f338:=Tryz.func243.trans (congrArg some (by kernel_rfl))
 t0:=Tryz.underlying0
 a0:=Tryz.isAgg0
 z0:=Tryz.sizeOf0
 v0:=Tryz.zeroValue0
 t2:=Tryz.underlying2
 a2:=Tryz.isAgg2
 z2:=Tryz.sizeOf2
 v2:=Tryz.zeroValue2
 t3:=Tryz.underlying3
 a3:=Tryz.isAgg3
 z3:=Tryz.sizeOf3
 v3:=Tryz.zeroValue3
 t4:=Tryz.underlying4
 a4:=Tryz.isAgg4
 z4:=Tryz.sizeOf4
 v4:=Tryz.zeroValue4
 t5:=Tryz.underlying5
 a5:=Tryz.isAgg5
 z5:=Tryz.sizeOf5
 v5:=Tryz.zeroValue5
 t9:=Tryz.underlying9
 a9:=Tryz.isAgg9
 z9:=Tryz.sizeOf9
 v9:=Tryz.zeroValue9
 t20:=Tryz.underlying20
 a20:=Tryz.isAgg20
 z20:=Tryz.sizeOf20
 v20:=Tryz.zeroValue20
 t21:=Tryz.underlying21
 a21:=Tryz.isAgg21
 z21:=Tryz.sizeOf21
 v21:=Tryz.zeroValue21
 t37:=Tryz.underlying109
 a37:=Tryz.isAgg109
 z37:=Tryz.sizeOf109
 v37:=Tryz.zeroValue109
 t46:=Tryz.underlying131
 a46:=Tryz.isAgg131
 z46:=Tryz.sizeOf131
 v46:=Tryz.zeroValue131
 t51:=Tryz.underlying169
 a51:=Tryz.isAgg169
 z51:=Tryz.sizeOf169
 v51:=Tryz.zeroValue169
 t53:=Tryz.underlying237
 a53:=Tryz.isAgg237
 z53:=Tryz.sizeOf237
 v53:=Tryz.zeroValue237
 t75:=Tryz.underlying133
 a75:=Tryz.isAgg133
 z75:=Tryz.sizeOf133
 v75:=Tryz.zeroValue133
 t76:=Tryz.underlying134
 a76:=Tryz.isAgg134
 z76:=Tryz.sizeOf134
 v76:=Tryz.zeroValue134
 t85:=Tryz.underlying200
 a85:=Tryz.isAgg200
 z85:=Tryz.sizeOf200
 v85:=Tryz.zeroValue200
 t127:=Tryz.underlying140
 a127:=Tryz.isAgg140
 z127:=Tryz.sizeOf140
 v127:=Tryz.zeroValue140
 t143:=Tryz.underlying260
 a143:=Tryz.isAgg260
 z143:=Tryz.sizeOf260
 v143:=Tryz.zeroValue260
 t145:=Tryz.underlying262
 a145:=Tryz.isAgg262
 z145:=Tryz.sizeOf262
 v145:=Tryz.zeroValue262
 t167:=Tryz.underlying199
 a167:=Tryz.isAgg199
 z167:=Tryz.sizeOf199
 v167:=Tryz.zeroValue199
 t168:=Tryz.underlying202
 a168:=Tryz.isAgg202
 z168:=Tryz.sizeOf202
 v168:=Tryz.zeroValue202
 t171:=Tryz.underlying243
 a171:=Tryz.isAgg243
 z171:=Tryz.sizeOf243
 v171:=Tryz.zeroValue243
 t173:=Tryz.underlying246
 a173:=Tryz.isAgg246
 z173:=Tryz.sizeOf246
 v173:=Tryz.zeroValue246
 t175:=Tryz.underlying238
 a175:=Tryz.isAgg238
 z175:=Tryz.sizeOf238
 v175:=Tryz.zeroValue238
 t210:=Tryz.underlying241
 a210:=Tryz.isAgg241
 z210:=Tryz.sizeOf241
 v210:=Tryz.zeroValue241
 t212:=Tryz.underlying264
 a212:=Tryz.isAgg264
 z212:=Tryz.sizeOf264
 v212:=Tryz.zeroValue264
 t213:=Tryz.underlying265
 a213:=Tryz.isAgg265
 z213:=Tryz.sizeOf265
 t232:=Tryz.underlying282
 a232:=Tryz.isAgg282
 z232:=Tryz.sizeOf282
 v232:=Tryz.zeroValue282
 t233:=Tryz.underlying283
 a233:=Tryz.isAgg283
 z233:=Tryz.sizeOf283
 v233:=Tryz.zeroValue283
 g15:=by kernel_rfl
 g16:=by kernel_rfl
 g17:=by kernel_rfl
 g18:=by kernel_rfl
 g19:=by kernel_rfl
 t80:=Tryz.underlying105
 a80:=Tryz.isAgg105
 z80:=Tryz.sizeOf105
 v80:=Tryz.zeroValue105
 i0:=by kernel_rfl
 i2:=by kernel_rfl
 i3:=by kernel_rfl
 i4:=by kernel_rfl
 i5:=by kernel_rfl
 i9:=by kernel_rfl
 i20:=by kernel_rfl
 i21:=by kernel_rfl
 i37:=by kernel_rfl
 i46:=by kernel_rfl
 i51:=by kernel_rfl
 i53:=by kernel_rfl
 i75:=by kernel_rfl
 i76:=by kernel_rfl
 i80:=by kernel_rfl
 i85:=by kernel_rfl
 i127:=by kernel_rfl
 i143:=by kernel_rfl
 i145:=by kernel_rfl
 i167:=by kernel_rfl
 i168:=by kernel_rfl
 i171:=by kernel_rfl
 i173:=by kernel_rfl
 i175:=by kernel_rfl
 i210:=by kernel_rfl
 i212:=by kernel_rfl
 i232:=by kernel_rfl
 i233:=by kernel_rfl
 m15:=by kernel_rfl
 m16:=by kernel_rfl
 m17:=by kernel_rfl
 m18:=by kernel_rfl
 m19:=by kernel_rfl
 c0:=by kernel_rfl
 c2:=by kernel_rfl
 c3:=by kernel_rfl
 c4:=by kernel_rfl
 c5:=by kernel_rfl
 c9:=by kernel_rfl
 c20:=by kernel_rfl
 c21:=by kernel_rfl
 c37:=by kernel_rfl
 c46:=by kernel_rfl
 c51:=by kernel_rfl
 c53:=by kernel_rfl
 c75:=by kernel_rfl
 c76:=by kernel_rfl
 c80:=by kernel_rfl
 c85:=by kernel_rfl
 c127:=by kernel_rfl
 c143:=by kernel_rfl
 c145:=by kernel_rfl
 c167:=by kernel_rfl
 c168:=by kernel_rfl
 c171:=by kernel_rfl
 c173:=by kernel_rfl
 c175:=by kernel_rfl
 c210:=by kernel_rfl
 c212:=by kernel_rfl
 c213:=by kernel_rfl
 c232:=by kernel_rfl
 c233:=by kernel_rfl }
open Go.RowKit in
/-- strconv.Atoi, AT EVERY STRING THAT SPELLS AN int ('Lib.atoiAll .. = .ok v'; of whatever length: leading zeros count): v, AND NO ERROR. The world: as it was, or with the one new row that '[]byte(..)' lays. (LAID: no walk: one application.) -/
theorem Tryz.strconv_Atoi_ok (s:ByteArray)(hmax:s.size≤9223372036854775806)(v:Int)(h:Lib.atoiAll s.data.toList=.ok v)(w:World) :
 Calls Tryz.prog 86 #[.string s] w fun e w'=>e=.returned (.tuple #[.int .i64 v,.nilIface])∧(w'=w∨∃ t,w'=Lib.bytesWorld w 5 t):=Any.strconv_Atoi_ok Tryz.laysC172 s hmax v h w
open Go.RowKit in
/-- strconv.Atoi, AT EVERY STRING THAT IS NO DECIMAL NUMERAL ('.syntax'): 0, AND AN ERROR THAT IS NOT nil: a *NumError in a new block N: {Func: "Atoi", Num: s's bytes, Err: what the variable ErrSyntax holds}. Of what was there nothing has turned. (LAID: no walk: one application.) -/
theorem Tryz.strconv_Atoi_syntax (s:ByteArray)(hlim:s.size≤281474976710656)(h:Lib.atoiAll s.data.toList=.«syntax»)(ev:Value)(w:World)(hv:w.cell? ⟨5,0,none⟩=some ev)(hev:ev=.nilIface∨∃ te pe,ev=.iface te pe) :
 Calls Tryz.prog 86 #[.string s] w fun e w'=>∃ N,e=.returned (.tuple #[.int .i64 (0),.iface 202 (.pointer (some ⟨N,0,none⟩))])∧w.heap.size≤N∧w'.heap[N]?=some (.cells #[.string ⟨#[65,116,111,105]⟩,.string s,ev] 241 (0,0))∧Below w.heap.size w w':=Any.strconv_Atoi_syntax Tryz.laysC172 s hlim h ev w hv hev
open Go.RowKit in
/-- strconv.Atoi, AT EVERY NUMERAL THAT NO int HOLDS ('.range'): THE GREATEST OR THE LEAST int, BY THE SIGN ('Lib.atoiSat'), AND AN ERROR THAT IS NOT nil: a *NumError in a new block N: {Func: "Atoi", Num: s's bytes, Err: what the variable ErrRange holds}. Of what was there nothing has turned. (LAID: no walk: one application.) -/
theorem Tryz.strconv_Atoi_range (s:ByteArray)(hlim:s.size≤281474976710656)(h:Lib.atoiAll s.data.toList=.range)(ev:Value)(w:World)(hv:w.cell? ⟨6,0,none⟩=some ev)(hev:ev=.nilIface∨∃ te pe,ev=.iface te pe) :
 Calls Tryz.prog 86 #[.string s] w fun e w'=>∃ N,e=.returned (.tuple #[.int .i64 (Lib.atoiSat s.data.toList),.iface 202 (.pointer (some ⟨N,0,none⟩))])∧w.heap.size≤N∧w'.heap[N]?=some (.cells #[.string ⟨#[65,116,111,105]⟩,.string s,ev] 241 (0,0))∧Below w.heap.size w w':=Any.strconv_Atoi_range Tryz.laysC172 s hlim h ev w hv hev
end Go.Proofs
/-
  DERIVED: THE SHELF's CONTRACTS AT THIS DUMP, IN PLAIN WORDS (tools/lay-plain.mjs out of 'YtfplhcicbbhljaaGreatDoorItoaL.lean', which tools/lay-shelf.mjs wrote): THE SAME DECLARATIONS UNDER THE SAME NAMES: 'import', 'namespace', 'open', 'def', 'theorem' AND NOTHING ELSE: no command of the shelf's: FOR A HAND-IN. Each laying: the table of numbers ('.._ren') and one theorem, a field a fact of the dump's own or the kernel's comparison; each contract: ONE APPLICATION.
-/
namespace Go.Proofs
open Go.Shelf
def Tryz.laysM171_ren:Go.Shelf.Ren:=⟨fun|171=>87|243=>123|246=>168|283=>205|284=>206|285=>207|286=>208|129=>225|317=>224|318=>226|319=>227|320=>228|337=>242|338=>243|n=>n,fun|3=>3|9=>9|2=>2|4=>4|171=>243|0=>0|53=>237|37=>109|5=>5|173=>246|212=>264|51=>169|20=>20|213=>265|46=>131|232=>282|233=>283|n=>n,fun|17=>7|18=>8|19=>9|n=>n⟩
theorem Tryz.laysM171:Go.Proofs.LaysM.n171 Tryz.prog Tryz.laysM171_ren:={
 mixed:=by kernel_rfl
 f129:=Tryz.func225.trans (congrArg some (by kernel_rfl))
 f171:=Tryz.func87.trans (congrArg some (by kernel_rfl))
 f243:=Tryz.func123.trans (congrArg some (by kernel_rfl))
 f246:=Tryz.func168.trans (congrArg some (by kernel_rfl))
 f283:=Tryz.func205.trans (congrArg some (by kernel_rfl))
 f284:=Tryz.func206.trans (congrArg some (by kernel_rfl))
 f285:=Tryz.func207.trans (congrArg some (by kernel_rfl))
 f286:=Tryz.func208.trans (congrArg some (by kernel_rfl))
 f317:=Tryz.func224.trans (congrArg some (by kernel_rfl))
 f318:=Tryz.func226.trans (congrArg some (by kernel_rfl))
 f319:=Tryz.func227.trans (congrArg some (by kernel_rfl))
 f320:=Tryz.func228.trans (congrArg some (by kernel_rfl))
 f337:=Tryz.func242.trans (congrArg some (by kernel_rfl))
 f338:=Tryz.func243.trans (congrArg some (by kernel_rfl))
 t0:=Tryz.underlying0
 a0:=Tryz.isAgg0
 z0:=Tryz.sizeOf0
 v0:=Tryz.zeroValue0
 t2:=Tryz.underlying2
 a2:=Tryz.isAgg2
 z2:=Tryz.sizeOf2
 v2:=Tryz.zeroValue2
 t3:=Tryz.underlying3
 a3:=Tryz.isAgg3
 z3:=Tryz.sizeOf3
 v3:=Tryz.zeroValue3
 t4:=Tryz.underlying4
 a4:=Tryz.isAgg4
 z4:=Tryz.sizeOf4
 v4:=Tryz.zeroValue4
 t5:=Tryz.underlying5
 a5:=Tryz.isAgg5
 z5:=Tryz.sizeOf5
 v5:=Tryz.zeroValue5
 t9:=Tryz.underlying9
 a9:=Tryz.isAgg9
 z9:=Tryz.sizeOf9
 v9:=Tryz.zeroValue9
 t20:=Tryz.underlying20
 a20:=Tryz.isAgg20
 z20:=Tryz.sizeOf20
 v20:=Tryz.zeroValue20
 t37:=Tryz.underlying109
 a37:=Tryz.isAgg109
 z37:=Tryz.sizeOf109
 v37:=Tryz.zeroValue109
 t46:=Tryz.underlying131
 a46:=Tryz.isAgg131
 z46:=Tryz.sizeOf131
 v46:=Tryz.zeroValue131
 t51:=Tryz.underlying169
 a51:=Tryz.isAgg169
 z51:=Tryz.sizeOf169
 v51:=Tryz.zeroValue169
 t53:=Tryz.underlying237
 a53:=Tryz.isAgg237
 z53:=Tryz.sizeOf237
 v53:=Tryz.zeroValue237
 t171:=Tryz.underlying243
 a171:=Tryz.isAgg243
 z171:=Tryz.sizeOf243
 v171:=Tryz.zeroValue243
 t173:=Tryz.underlying246
 a173:=Tryz.isAgg246
 z173:=Tryz.sizeOf246
 v173:=Tryz.zeroValue246
 t212:=Tryz.underlying264
 a212:=Tryz.isAgg264
 z212:=Tryz.sizeOf264
 v212:=Tryz.zeroValue264
 t213:=Tryz.underlying265
 a213:=Tryz.isAgg265
 z213:=Tryz.sizeOf265
 t232:=Tryz.underlying282
 a232:=Tryz.isAgg282
 z232:=Tryz.sizeOf282
 v232:=Tryz.zeroValue282
 t233:=Tryz.underlying283
 a233:=Tryz.isAgg283
 z233:=Tryz.sizeOf283
 v233:=Tryz.zeroValue283
 g17:=by kernel_rfl
 g18:=by kernel_rfl
 g19:=by kernel_rfl
 i0:=by kernel_rfl
 i2:=by kernel_rfl
 i3:=by kernel_rfl
 i4:=by kernel_rfl
 i5:=by kernel_rfl
 i9:=by kernel_rfl
 i20:=by kernel_rfl
 i37:=by kernel_rfl
 i46:=by kernel_rfl
 i51:=by kernel_rfl
 i53:=by kernel_rfl
 i171:=by kernel_rfl
 i173:=by kernel_rfl
 i212:=by kernel_rfl
 i232:=by kernel_rfl
 i233:=by kernel_rfl
 m17:=by kernel_rfl
 m18:=by kernel_rfl
 m19:=by kernel_rfl }
open Go.RowKit Go.Sort Go.Lib in
/-- strconv.Itoa: "Itoa is equivalent to FormatInt(int64(i), 10).": i's DECIMAL NUMERAL ('Lib.itoa': a '-' where i is negative, then the digits), FOR EVERY int. The world behind the call: the world before it, new blocks behind the heap (the library's 'var a [24]byte'), draws. (LAID: no walk: one application.) -/
theorem Tryz.strconv_Itoa (n : Int) (h0 : -9223372036854775808 ≤ n) (h1 : n ≤ 9223372036854775807) (w : World) (htab : Lib.TabIs Tryz.prog w "internal/strconv.uint64pow10" .u64 Lib.pow10Tab) :
 Calls Tryz.prog 87 #[.int .i64 n] w fun e w'=>e=.returned (.string ⟨(Lib.itoa n).toArray⟩)∧∃ k os,w'=grow (w.drewN k) os:=Any.strconv_Itoa Tryz.laysM171 n h0 h1 w htab
end Go.Proofs
/-
  DERIVED: LAID BY THE SHELF's lay-shelf.mjs AT THE DUMP 'toys/ytfplhcicbbhljaagreatdoor/ytfplhcicbbhljaagreatdoor.cut.gsa' (alias 'Tryz'): THE LIBRARY CONTRACTS THAT ARE PROVED ONCE, OVER ANY PROGRAM AND ANY NUMBERING, AS THEOREMS OF THIS PROGRAM: WITHOUT A WALK: 'shelf_lay' reads the table of numbers off the bodies and has the kernel compare each body; then each contract is ONE APPLICATION. EACH COMMAND STANDS UNDER 'shelf_try': one that errs is rolled back and told in the build's print ('SHELF: NOT LAID: <name>: ..'); THE MODULE's LAST ROW OF PRINT COUNTS THEM ('SHELF: n LAID, m NOT LAID'): READ IT: a contract that is not laid is not there to be used.
-/
namespace Go.Proofs
open Go.Shelf
shelf_try shelf_lay Lays.n101 Nm 101 at Tryz as Tryz.lays101
shelf_try open Go.RowKit Go.Lib in
theorem Tryz.strings_TrimPrefix (s p:ByteArray)(w:World) :
 Calls Tryz.prog 103 #[.string s,.string p] w fun e w'=>e=.returned (.string ⟨(Lib.trimPrefix s.data.toList p.data.toList).toArray⟩)∧w'=w:=Any.strings_TrimPrefix Tryz.lays101 s p w
shelf_try #print axioms Tryz.strings_TrimPrefix
shelf_tried
end Go.Proofs
/-
  DERIVED: LAID BY THE SHELF's lay-shelf.mjs AT THE DUMP 'toys/ytfplhcicbbhljaagreatdoor/ytfplhcicbbhljaagreatdoor.cut.gsa' (alias 'Tryz'): THE LIBRARY CONTRACTS THAT ARE PROVED ONCE, OVER ANY PROGRAM AND ANY NUMBERING, AS THEOREMS OF THIS PROGRAM: WITHOUT A WALK: 'shelf_lay' reads the table of numbers off the bodies and has the kernel compare each body; then each contract is ONE APPLICATION. EACH COMMAND STANDS UNDER 'shelf_try': one that errs is rolled back and told in the build's print ('SHELF: NOT LAID: <name>: ..'); THE MODULE's LAST ROW OF PRINT COUNTS THEM ('SHELF: n LAID, m NOT LAID'): READ IT: a contract that is not laid is not there to be used.
-/
namespace Go.Proofs
open Go.Shelf
shelf_try shelf_lay Lays.n102 Nm 102 at Tryz as Tryz.lays102
shelf_try open Go.RowKit Go.Lib in
theorem Tryz.strings_TrimSuffix (s p:ByteArray)(w:World)(hs:s.size≤9223372036854775807) :
 Calls Tryz.prog 68 #[.string s,.string p] w fun e w'=>e=.returned (.string ⟨(Lib.trimSuffix s.data.toList p.data.toList).toArray⟩)∧w'=w:=Any.strings_TrimSuffix Tryz.lays102 s p w hs
shelf_try #print axioms Tryz.strings_TrimSuffix
shelf_tried
end Go.Proofs
/-
  DERIVED: LAID BY THE SHELF's lay-shelf.mjs AT THE DUMP 'toys/ytfplhcicbbhljaagreatdoor/ytfplhcicbbhljaagreatdoor.cut.gsa' (alias 'Tryz'): THE LIBRARY CONTRACTS THAT ARE PROVED ONCE, OVER ANY PROGRAM AND ANY NUMBERING, AS THEOREMS OF THIS PROGRAM: WITHOUT A WALK: 'shelf_lay' reads the table of numbers off the bodies and has the kernel compare each body; then each contract is ONE APPLICATION. EACH COMMAND STANDS UNDER 'shelf_try': one that errs is rolled back and told in the build's print ('SHELF: NOT LAID: <name>: ..'); THE MODULE's LAST ROW OF PRINT COUNTS THEM ('SHELF: n LAID, m NOT LAID'): READ IT: a contract that is not laid is not there to be used.
-/
namespace Go.Proofs
open Go.Shelf
shelf_try shelf_lay Lays.n99 Nm 99 at Tryz as Tryz.lays99
shelf_try open Go.RowKit Go.Lib in
theorem Tryz.strings_HasPrefix (s p:ByteArray)(w:World) :
 Calls Tryz.prog 66 #[.string s,.string p] w fun e w'=>e=.returned (.bool (Lib.hasPrefix s.data.toList p.data.toList))∧w'=w:=Any.strings_HasPrefix Tryz.lays99 s p w
shelf_try #print axioms Tryz.strings_HasPrefix
shelf_tried
end Go.Proofs
namespace Go.Proofs.YtfplhcicbbhljaaGreatDoor
open Go.ChangeShapes Go.WideShapes Go.ChangeAt Go.RowKit
set_option maxRecDepth 100000
section
attribute [local go_sem] qd
structure XI (w:World):Prop where
 max:∃ m,w.cell? ⟨1,0,none⟩=some (.int .i64 m)
 syn:∃ ev,w.cell? ⟨5,0,none⟩=some ev∧(ev=.nilIface∨∃ te pe,ev=.iface te pe)
 rng:∃ ev,w.cell? ⟨6,0,none⟩=some ev∧(ev=.nilIface∨∃ te pe,ev=.iface te pe)
 tab : Lib.TabIs Tryz.prog w "internal/strconv.uint64pow10" .u64 Lib.pow10Tab
theorem Yj {P:Program}{w w':World}{name:String}{k:IntKind}{zs:List Int}(h:Lib.TabIs P w name k zs)(hb:Below w.heap.size w w'):Lib.TabIs P w' name k zs:=by
 unfold Lib.TabIs World.var? at h ⊢
 cases hg:P.globalNamed name with
 | none=>simp[hg]at h
 | some g =>
   simp only[hg,Option.bind_some]at h ⊢
   have hlt:g<w.heap.size:=by
    rcases Nat.lt_or_ge g w.heap.size with h'|h'
    · exact h'
    · simp[Array.getElem?_eq_none h']at h
   rw[hb.block g hlt];exact h
theorem XI.later {w w':World}(h:XI w)(hb:Below w.heap.size w w'):XI w':=by
 obtain ⟨⟨m,hm⟩,⟨e1,h1,k1⟩,⟨e2,h2,k2⟩,ht⟩:=h;refine ⟨⟨m,?_⟩,⟨e1,?_,k1⟩,⟨e2,?_,k2⟩,Yj ht hb⟩
 · rw[hb.cell (World.block_lt_of_cell? w _ hm)];exact hm
 · rw[hb.cell (World.block_lt_of_cell? w _ h1)];exact h1
 · rw[hb.cell (World.block_lt_of_cell? w _ h2)];exact h2
set_option maxHeartbeats 2000000 in
theorem JU (s:ByteArray)(w:World)(hE:XI w)(hs:s.size≤2500) :
 Calls Tryz.prog 50 #[.string s] w fun e w'=>e=.returned (.tuple #[.int .i64 ((zB s.data.toList).getD 0),.bool (zB s.data.toList).isSome])∧Below w.heap.size w w':=by
 obtain ⟨hm,⟨e1,h1,k1⟩,⟨e2,h2,k2⟩,ht⟩:=hE;obtain ⟨D,hD⟩:∃ D:List UInt8,Lib.trimSuffix s.data.toList [93]=D:=⟨_,rfl⟩;obtain ⟨C,hC⟩:∃ C,Lib.hasSuffix s.data.toList [93]=C:=⟨_,rfl⟩
 have HIR:Hid (zB s.data.toList=match Lib.atoiAll D with|.ok n=>if C=true∧n≠0∧Lib.itoa n=D then some n else none|_=>none):=by
  show _=_
  unfold zB;rw[hD,hC];cases Lib.atoiAll D<;>rfl
 have hDl:D.length≤2500:=by
  rw[←hD];unfold Lib.trimSuffix;have:s.data.toList.length=s.size:=by rw[Array.length_toList];rfl
  split
  · rw[List.length_take];omega
  · omega
 have hDs:(⟨D.toArray⟩:ByteArray).size≤2500:=by show D.toArray.size≤2500;simpa using hDl
 have HCS:Hid _:=Tryz.strings_CutSuffix s ⟨#[93]⟩ w (by omega)
 rw[show (⟨#[93]⟩:ByteArray).data.toList=[93] from rfl,hD,hC]at HCS
 have hDd:(⟨D.toArray⟩:ByteArray).data.toList=D:=by simp
 have HIT:Hid (∀ n:Int,-9223372036854775808≤n→n≤9223372036854775807→∀ W,Below w.heap.size w W→Calls Tryz.prog 87 #[.int .i64 n] W fun e w'=>e=.returned (.string ⟨(Lib.itoa n).toArray⟩)∧Below w.heap.size w w'):=by
  intro n g0 g1 W hW;refine (Tryz.strconv_Itoa n g0 g1 W (Yj ht hW)).mono ?_;rintro e w' ⟨rfl,k,os,rfl⟩;exact ⟨rfl,hW.trans ((Lib.below_grow _ W (nR9 _) k os).mono hW.size)⟩
 cases hat:Lib.atoiAll D with
 | ok n =>
   obtain ⟨n0,n1⟩:=Lib.atoiAll_bounds hat
   have HA:Hid (Calls Tryz.prog 86 #[.string ⟨D.toArray⟩] w fun e w'=>e=.returned (.tuple #[.int .i64 n,.nilIface])∧Below w.heap.size w w'):=by
    refine (Tryz.strconv_Atoi_ok ⟨D.toArray⟩ (by omega) n (by rw[hDd];exact hat) w).mono ?_
    rintro e w' ⟨rfl,hw⟩
    rcases hw with rfl|⟨t,rfl⟩
    · exact ⟨rfl,Below.refl _ _⟩
    · exact ⟨rfl,Lib.bytesWorld_below _ _ _⟩
   have HI2:Hid (∀ W,Below w.heap.size w W→Calls Tryz.prog 87 #[.int .i64 n] W fun e w'=>e=.returned (.string ⟨(Lib.itoa n).toArray⟩)∧Below w.heap.size w w'):=HIT.out n n0 n1
   rw[hat]at HIR
   have HIR2:Hid (zB s.data.toList=if C=true∧n≠0∧Lib.itoa n=D then some n else none):=HIR.out
   clear HIR hat hD hC hm h1 k1 h2 k2 ht hDl hDs hDd HIT hs;cases C with
   | false =>
     have HE:Hid (zB s.data.toList=none):=by show _=_;rw[HIR2.out];simp
     clear HIR2
     go_enter Tryz.func50,Tryz.ntmps50
     go_wp2_with fail;refine (Calls.mono HCS.out ?_);rintro e w1 ⟨rfl,rfl⟩;go_wp2_with fail;refine (Calls.mono HA.out ?_);rintro e w2 ⟨rfl,hb2⟩;go_wp2_with fail
     go_ret2
     exact ⟨by rw[HE.out];rfl,hb2⟩
   | true =>
     by_cases hn:n=0
     · have HE : Hid (zB s.data.toList = none) := by show _ = _;rw[HIR2.out];simp[hn]
       clear HIR2
       go_enter Tryz.func50,Tryz.ntmps50
       go_wp2_with fail;refine (Calls.mono HCS.out ?_);rintro e w1 ⟨rfl,rfl⟩;go_wp2_with fail;refine (Calls.mono HA.out ?_);rintro e w2 ⟨rfl,hb2⟩;go_wp2_with fail
       go_ret2
       exact ⟨by rw[HE.out];rfl,hb2⟩
     · by_cases hi : Lib.itoa n = D
       · have HE : Hid (zB s.data.toList = some n) := by show _ = _;rw[HIR2.out];simp[hn, hi]
         rw[hi]at HI2
         clear HIR2 hi
         go_enter Tryz.func50,Tryz.ntmps50
         go_wp2_with fail;refine (Calls.mono HCS.out ?_);rintro e w1 ⟨rfl,rfl⟩;go_wp2_with fail;refine (Calls.mono HA.out ?_);rintro e w2 ⟨rfl,hb2⟩;go_wp2_with fail;refine (Calls.mono (HI2.out _ hb2) ?_);rintro e w3 ⟨rfl,hb3⟩;go_wp2_with fail
         go_ret2
         exact ⟨by rw[HE.out];rfl,hb3⟩
       · have HE : Hid (zB s.data.toList = none) := by show _ = _;rw[HIR2.out];simp[hi]
         obtain ⟨I,hI⟩:∃ I,Lib.itoa n=I:=⟨_,rfl⟩;rw[hI]at HI2 hi
         have hid:(I==D)=false:=by simpa using hi
         clear HIR2 hI
         go_enter Tryz.func50,Tryz.ntmps50
         go_wp2_with fail;refine (Calls.mono HCS.out ?_);rintro e w1 ⟨rfl,rfl⟩;go_wp2_with fail;refine (Calls.mono HA.out ?_);rintro e w2 ⟨rfl,hb2⟩;go_wp2_with fail;refine (Calls.mono (HI2.out _ hb2) ?_);rintro e w3 ⟨rfl,hb3⟩;go_wp2_with fail
         go_ret2
         exact ⟨by rw[HE.out];rfl,hb3⟩
 | «syntax» =>
   have HA:Hid (Calls Tryz.prog 86 #[.string ⟨D.toArray⟩] w fun e w'=>∃ N,e=.returned (.tuple #[.int .i64 0,.iface 202 (.pointer (some ⟨N,0,none⟩))])∧Below w.heap.size w w'):=by
    refine (Tryz.strconv_Atoi_syntax ⟨D.toArray⟩ (by omega) (by rw[hDd];exact hat) e1 w h1 k1).mono ?_
    rintro e w' ⟨N,rfl,_,_,hb⟩;exact ⟨N,rfl,hb⟩
   have HE:Hid (zB s.data.toList=none):=by show _=_;rw[HIR.out,hat]
   clear HIR hat hD hC hm h1 k1 h2 k2 ht hDl hDs hDd HIT hs;cases C <;>
   · go_enter Tryz.func50, Tryz.ntmps50
     go_wp2_with fail;refine (Calls.mono HCS.out ?_);rintro e w1 ⟨rfl,rfl⟩;go_wp2_with fail;refine (Calls.mono HA.out ?_);rintro e w2 ⟨N,rfl,hb2⟩;go_wp2_with fail
     go_ret2
     exact ⟨by rw[HE.out];rfl,hb2⟩
 | range =>
   have HA:Hid (Calls Tryz.prog 86 #[.string ⟨D.toArray⟩] w fun e w'=>∃ N,e=.returned (.tuple #[.int .i64 (Lib.atoiSat D),.iface 202 (.pointer (some ⟨N,0,none⟩))])∧Below w.heap.size w w'):=by
    refine (Tryz.strconv_Atoi_range ⟨D.toArray⟩ (by omega) (by rw[hDd];exact hat) e2 w h2 k2).mono ?_
    rintro e w' ⟨N,rfl,_,_,hb⟩;rw[hDd];exact ⟨N,rfl,hb⟩
   have HE:Hid (zB s.data.toList=none):=by show _=_;rw[HIR.out,hat]
   clear HIR hat hD hC hm h1 k1 h2 k2 ht hDl hDs hDd HIT hs;cases C <;>
   · go_enter Tryz.func50, Tryz.ntmps50
     go_wp2_with fail;refine (Calls.mono HCS.out ?_);rintro e w1 ⟨rfl,rfl⟩;go_wp2_with fail;refine (Calls.mono HA.out ?_);rintro e w2 ⟨N,rfl,hb2⟩;go_wp2_with fail
     go_ret2
     exact ⟨by rw[HE.out];rfl,hb2⟩
theorem KS {p:List UInt8}{A B:List UInt8}{F:Bool}(h:Lib.cut p [91]=(A,B,F)):A.length≤p.length∧B.length≤p.length:=by
 rcases ZX 91 p with ⟨_,hc⟩|⟨a,b,rfl,_,hc⟩
 · rw[h]at hc
   simp only[Prod.mk.injEq]at hc
   rw[hc.1,hc.2.1];simp
 · rw[h]at hc
   simp only[Prod.mk.injEq]at hc
   rw[hc.1,hc.2.1];simp;omega
theorem zQ (w:World)(n:Nat):Below w.heap.size w (w.drewN n):=by
 induction n with
 | zero=>exact Below.refl _ _
 | succ n ih=>exact ih.drew
set_option maxHeartbeats 2000000 in
theorem Kc (s:ByteArray)(w:World)(hE:XI w)(hs:s.size≤2500) :
 Calls Tryz.prog 26 #[.string s] w fun e w'=>∃ nm n,e=.returned (.tuple #[.agg #[.string nm,.int .i64 n],.bool (yW s.data.toList).isSome])∧(∀ st,yW s.data.toList=some st→nm=⟨st.1.toArray⟩∧n=st.2)∧Below w.heap.size w w':=by
 have hb1:=Below.alloc1 w (.cells #[.string ⟨#[]⟩,.int .i64 0] 50);have hx1:=heap_alloc_new w (.cells #[.string ⟨#[]⟩,.int .i64 0] 50);obtain ⟨m,hm⟩:=(hE.later hb1).max;obtain ⟨A,B,F,hcut⟩:∃ A B F,Lib.cut s.data.toList [91]=(A,B,F):=⟨_,_,_,rfl⟩;have hlen:s.data.toList.length=s.size:=by rw[Array.length_toList];rfl
 have hAB:=KS hcut;have HC:Hid _:=Tryz.strings_Cut s ⟨#[91]⟩ m _ (by omega) hm
 rw[show (⟨#[91]⟩:ByteArray).data.toList=[91] from rfl,hcut]at HC
 have HS:Hid (yW s.data.toList=if A=[] then none else if F=false then some (if A=[35] then [] else A,0) else (zB B).map fun n=>(if A=[35] then [] else A,n)):=by
  show _=_
  unfold yW;rw[hcut]
 have hBs:(⟨B.toArray⟩:ByteArray).size≤2500:=by show B.toArray.size≤2500;simp;omega
 have hBd:(⟨B.toArray⟩:ByteArray).data.toList=B:=by simp
 have HRI:Hid (∀ W,Below w.heap.size w W→Calls Tryz.prog 50 #[.string ⟨B.toArray⟩] W fun e w'=>e=.returned (.tuple #[.int .i64 ((zB B).getD 0),.bool (zB B).isSome])∧Below W.heap.size W w'):=by
  intro W hW;have:=JU ⟨B.toArray⟩ W (hE.later hW) hBs;rw[hBd]at this
  exact this
 have hAl:∀ c:List UInt8,(⟨A.toArray⟩:ByteArray).toList=c↔A=c:=by
  intro c;rw[ByteArray.toList_eq]
 clear hE hm hs hlen hAB hBs hBd hcut
 by_cases hA:A=[]
 · have HE : Hid (yW s.data.toList = none) := by show _ = _;rw[HS.out, if_pos hA]
   clear HS HRI hAl;subst hA
   go_enter Tryz.func26,Tryz.ntmps26
   go_wp2_with fail;refine (Calls.mono HC.out ?_);rintro e w2 ⟨rfl,k,rfl⟩;have hb2:=zQ (w.alloc (.cells #[.string ⟨#[]⟩,.int .i64 0] 50)) k
   generalize (w.alloc (.cells #[.string ⟨#[]⟩,.int .i64 0] 50)).drewN k=w2 at *
   have hx2:=(hb2.block _ (qh hx1)).trans hx1;have hB2:Below w.heap.size w w2:=hb1.trans (hb2.mono hb1.size);have p0:w2.cell? ⟨w.heap.size,0,none⟩=some (.string ⟨#[]⟩):=by rw[cH9 hx2];rfl
   have p1:w2.cell? ⟨w.heap.size,1,none⟩=some (.int .i64 0):=by rw[cH9 hx2];rfl
   have f0:w2.frozen? ⟨w.heap.size,0,none⟩=false:=fH9 hx2 0;have f1:w2.frozen? ⟨w.heap.size,1,none⟩=false:=fH9 hx2 1;clear hb1 hx1 hb2 HC;clear hx2;go_wp2_with fail;refine bodyPost_ret (v:=.tuple #[.agg #[.string ⟨#[]⟩,.int .i64 0],.bool false]) (by simp[results,Tryz.results26,go_sem,qd,p0,p1,World.cell?_setCell_other]) rfl ?_
   refine ⟨⟨#[]⟩,0,by rw[HE.out];rfl,(by intro st h;rw[HE.out]at h;cases h),?_⟩
   exact (hB2.setCell (p:=⟨w.heap.size,0,none⟩) (nR9 _) _).setCell (p:=⟨w.heap.size,1,none⟩) (nR9 _) _
 · obtain ⟨nm, hnm⟩ : ∃ nm, (if A = [35] then [] else A) = nm := ⟨_, rfl⟩
   cases F with
   | false =>
     have HE:Hid (yW s.data.toList=some (nm,0)):=by show _=_;rw[HS.out,if_neg hA,if_pos rfl,hnm]
     clear HS HRI
     by_cases h35:A=[35]
     · have hN : nm = [] := by rw[←hnm, if_pos h35]
       clear hnm hA hAl;subst h35 hN
       go_enter Tryz.func26,Tryz.ntmps26
       go_wp2_with fail;refine (Calls.mono HC.out ?_);rintro e w2 ⟨rfl,k,rfl⟩;have hb2:=zQ (w.alloc (.cells #[.string ⟨#[]⟩,.int .i64 0] 50)) k
       generalize (w.alloc (.cells #[.string ⟨#[]⟩,.int .i64 0] 50)).drewN k=w2 at *
       have hx2:=(hb2.block _ (qh hx1)).trans hx1;have hB2:Below w.heap.size w w2:=hb1.trans (hb2.mono hb1.size);have p0:w2.cell? ⟨w.heap.size,0,none⟩=some (.string ⟨#[]⟩):=by rw[cH9 hx2];rfl
       have p1:w2.cell? ⟨w.heap.size,1,none⟩=some (.int .i64 0):=by rw[cH9 hx2];rfl
       have f0:w2.frozen? ⟨w.heap.size,0,none⟩=false:=fH9 hx2 0;have f1:w2.frozen? ⟨w.heap.size,1,none⟩=false:=fH9 hx2 1;clear hb1 hx1 hb2 HC;clear hx2;go_wp2_with fail;refine bodyPost_ret (v:=.tuple #[.agg #[.string ⟨#[]⟩,.int .i64 0],.bool true]) (by simp[results,Tryz.results26,go_sem,qd,p0,p1,World.cell?_setCell_other]) rfl ?_
       refine ⟨⟨#[]⟩,0,by rw[HE.out];rfl,(by intro st h;rw[HE.out]at h;cases h;exact ⟨rfl,rfl⟩),?_⟩
       exact (hB2.setCell (p:=⟨w.heap.size,0,none⟩) (nR9 _) _).setCell (p:=⟨w.heap.size,1,none⟩) (nR9 _) _
     · have h351 : (A == [35]) = false := by simpa using h35
       have hAe:A.isEmpty=false:=by simpa using hA
       have hN:nm=A:=by rw[←hnm,if_neg h35]
       clear hnm hAl;subst hN
       go_enter Tryz.func26,Tryz.ntmps26
       go_wp2_with fail;refine (Calls.mono HC.out ?_);rintro e w2 ⟨rfl,k,rfl⟩;have hb2:=zQ (w.alloc (.cells #[.string ⟨#[]⟩,.int .i64 0] 50)) k
       generalize (w.alloc (.cells #[.string ⟨#[]⟩,.int .i64 0] 50)).drewN k=w2 at *
       have hx2:=(hb2.block _ (qh hx1)).trans hx1;have hB2:Below w.heap.size w w2:=hb1.trans (hb2.mono hb1.size);have p0:w2.cell? ⟨w.heap.size,0,none⟩=some (.string ⟨#[]⟩):=by rw[cH9 hx2];rfl
       have p1:w2.cell? ⟨w.heap.size,1,none⟩=some (.int .i64 0):=by rw[cH9 hx2];rfl
       have f0:w2.frozen? ⟨w.heap.size,0,none⟩=false:=fH9 hx2 0;have f1:w2.frozen? ⟨w.heap.size,1,none⟩=false:=fH9 hx2 1;clear hb1 hx1 hb2 HC;clear hx2;go_wp2_with fail;refine bodyPost_ret (v:=.tuple #[.agg #[.string ⟨nm.toArray⟩,.int .i64 0],.bool true]) (by simp[results,Tryz.results26,go_sem,qd,p0,p1,World.cell?_setCell_other]) rfl ?_
       refine ⟨⟨nm.toArray⟩,0,by rw[HE.out];rfl,(by intro st h;rw[HE.out]at h;cases h;exact ⟨rfl,rfl⟩),?_⟩
       exact (hB2.setCell (p:=⟨w.heap.size,0,none⟩) (nR9 _) _).setCell (p:=⟨w.heap.size,1,none⟩) (nR9 _) _
   | true =>
     have HE:Hid (yW s.data.toList=(zB B).map fun n=>(nm,n)):=by show _=_;rw[HS.out,if_neg hA,if_neg (by simp),hnm]
     obtain ⟨q,hq⟩:∃ q,zB B=q:=⟨_,rfl⟩;rw[hq]at HE HRI
     have HE2:Hid ((yW s.data.toList).isSome=q.isSome∧∀ st,yW s.data.toList=some st→nm=st.1∧q.getD 0=st.2):=by
      refine ⟨by rw[HE.out];cases q<;>rfl,fun st h=>?_⟩
      rw[HE.out]at h
      cases q with
      | none=>cases h
      | some n=>cases h;exact ⟨rfl,rfl⟩
     obtain ⟨n,hn⟩:∃ n,q.getD 0=n:=⟨_,rfl⟩;obtain ⟨t,ht⟩:∃ t,q.isSome=t:=⟨_,rfl⟩;rw[hn,ht]at HRI HE2
     clear HS HE hq hn ht
     by_cases h35:A=[35]
     · have hN : nm = [] := by rw[←hnm, if_pos h35]
       clear hnm hA hAl;subst h35 hN
       go_enter Tryz.func26,Tryz.ntmps26
       go_wp2_with fail;refine (Calls.mono HC.out ?_);rintro e w2 ⟨rfl,k,rfl⟩;have hb2:=zQ (w.alloc (.cells #[.string ⟨#[]⟩,.int .i64 0] 50)) k
       generalize (w.alloc (.cells #[.string ⟨#[]⟩,.int .i64 0] 50)).drewN k=w2 at *
       have hx2:=(hb2.block _ (qh hx1)).trans hx1;have hB2:Below w.heap.size w w2:=hb1.trans (hb2.mono hb1.size);have p0:w2.cell? ⟨w.heap.size,0,none⟩=some (.string ⟨#[]⟩):=by rw[cH9 hx2];rfl
       have p1:w2.cell? ⟨w.heap.size,1,none⟩=some (.int .i64 0):=by rw[cH9 hx2];rfl
       have f0:w2.frozen? ⟨w.heap.size,0,none⟩=false:=fH9 hx2 0;have f1:w2.frozen? ⟨w.heap.size,1,none⟩=false:=fH9 hx2 1;clear hb1 hx1 hb2 HC;go_wp2_with fail;refine (Calls.mono (HRI.out _ hB2) ?_);rintro e w3 ⟨rfl,hb3⟩;have hx3:=(hb3.block _ (qh hx2)).trans hx2;have hB3:Below w.heap.size w w3:=hB2.trans (hb3.mono hB2.size);clear p0 p1 f0 f1;have p0:w3.cell? ⟨w.heap.size,0,none⟩=some (.string ⟨#[]⟩):=by rw[cH9 hx3];rfl
       have p1:w3.cell? ⟨w.heap.size,1,none⟩=some (.int .i64 0):=by rw[cH9 hx3];rfl
       have f0:w3.frozen? ⟨w.heap.size,0,none⟩=false:=fH9 hx3 0;have f1:w3.frozen? ⟨w.heap.size,1,none⟩=false:=fH9 hx3 1;clear hx2 hx3 HRI;go_wp2_with fail;refine bodyPost_ret (v:=.tuple #[.agg #[.string ⟨#[]⟩,.int .i64 n],.bool t]) (by simp[results,Tryz.results26,go_sem,qd,p0,p1,World.cell?_setCell_other]) rfl ?_
       refine ⟨⟨#[]⟩,n,by rw[HE2.out.1],(by intro st h;obtain ⟨g1,g2⟩:=HE2.out.2 st h;exact ⟨by rw[←g1],g2⟩),?_⟩
       exact (hB3.setCell (p:=⟨w.heap.size,0,none⟩) (nR9 _) _).setCell (p:=⟨w.heap.size,1,none⟩) (nR9 _) _
     · have h351 : (A == [35]) = false := by simpa using h35
       have hAe:A.isEmpty=false:=by simpa using hA
       have hN:nm=A:=by rw[←hnm,if_neg h35]
       clear hnm hAl;subst hN
       go_enter Tryz.func26,Tryz.ntmps26
       go_wp2_with fail;refine (Calls.mono HC.out ?_);rintro e w2 ⟨rfl,k,rfl⟩;have hb2:=zQ (w.alloc (.cells #[.string ⟨#[]⟩,.int .i64 0] 50)) k
       generalize (w.alloc (.cells #[.string ⟨#[]⟩,.int .i64 0] 50)).drewN k=w2 at *
       have hx2:=(hb2.block _ (qh hx1)).trans hx1;have hB2:Below w.heap.size w w2:=hb1.trans (hb2.mono hb1.size);have p0:w2.cell? ⟨w.heap.size,0,none⟩=some (.string ⟨#[]⟩):=by rw[cH9 hx2];rfl
       have p1:w2.cell? ⟨w.heap.size,1,none⟩=some (.int .i64 0):=by rw[cH9 hx2];rfl
       have f0:w2.frozen? ⟨w.heap.size,0,none⟩=false:=fH9 hx2 0;have f1:w2.frozen? ⟨w.heap.size,1,none⟩=false:=fH9 hx2 1;clear hb1 hx1 hb2 HC;go_wp2_with fail;refine (Calls.mono (HRI.out _ hB2) ?_);rintro e w3 ⟨rfl,hb3⟩;have hx3:=(hb3.block _ (qh hx2)).trans hx2;have hB3:Below w.heap.size w w3:=hB2.trans (hb3.mono hB2.size);clear p0 p1 f0 f1;have p0:w3.cell? ⟨w.heap.size,0,none⟩=some (.string ⟨#[]⟩):=by rw[cH9 hx3];rfl
       have p1:w3.cell? ⟨w.heap.size,1,none⟩=some (.int .i64 0):=by rw[cH9 hx3];rfl
       have f0:w3.frozen? ⟨w.heap.size,0,none⟩=false:=fH9 hx3 0;have f1:w3.frozen? ⟨w.heap.size,1,none⟩=false:=fH9 hx3 1;clear hx2 hx3 HRI;go_wp2_with fail;refine bodyPost_ret (v:=.tuple #[.agg #[.string ⟨nm.toArray⟩,.int .i64 n],.bool t]) (by simp[results,Tryz.results26,go_sem,qd,p0,p1,World.cell?_setCell_other]) rfl ?_
       refine ⟨⟨nm.toArray⟩,n,by rw[HE2.out.1],(by intro st h;obtain ⟨g1,g2⟩:=HE2.out.2 st h;exact ⟨by rw[←g1],g2⟩),?_⟩
       exact (hB3.setCell (p:=⟨w.heap.size,0,none⟩) (nR9 _) _).setCell (p:=⟨w.heap.size,1,none⟩) (nR9 _) _
end
section
attribute [local go_sem] qd
def asS (l:List PStep):List St:=l.map fun p=>⟨⟨p.1.toArray⟩,p.2⟩
theorem zI (l:List PStep):(asS l).length=l.length:=List.length_map _
theorem qeW (l:List UInt8):qM ⟨l.toArray⟩=Y8 l:=by
 unfold qM Y8;have:(⟨l.toArray⟩:ByteArray).size=l.length:=by show l.toArray.size=_;simp
 rw[this]
theorem Xe (a b:List UInt8):(⟨a.toArray⟩:ByteArray)=⟨b.toArray⟩↔a=b:=by
 constructor
 · intro h;have:=congrArg (fun x:ByteArray=>x.data.toList) h
   simpa using this
 · intro h;rw[h]
theorem qfd (p:PStep):zg ⟨⟨p.1.toArray⟩,p.2⟩=xj p:=by
 unfold zg xj;simp only;rw[qeW]
 have e1:decide ((⟨p.1.toArray⟩:ByteArray)=⟨#[]⟩)=decide (p.1=[]):=by
  rw[decide_eq_decide];exact Xe p.1 []
 have e2:decide ((⟨p.1.toArray⟩:ByteArray)=⟨#[42]⟩)=decide (p.1=[42]):=by
  rw[decide_eq_decide];exact Xe p.1 [42]
 rw[e1,e2]
theorem X6 (l:List PStep):yj (asS l)=jf l:=by
 unfold yj jf;rw[zI]
 congr 1
 unfold asS;rw[List.all_map]
 congr 1
 funext p
 exact qfd p
def stepCells:List St→List Value
 | []=>[]
 | s::l=>.string s.name::.int .i64 s.n::stepCells l
theorem yF (l m:List St):stepCells (l++m)=stepCells l++stepCells m:=by
 induction l with
 | nil=>rfl
 | cons s l ih=>simp[stepCells,ih]
theorem J0 (l:List St):∀ i s,l[i]?=some s→(stepCells l)[i*2]?=some (.string s.name)∧(stepCells l)[i*2+1]?=some (.int .i64 s.n):=by
 induction l with
 | nil=>intro i s h;simp at h
 | cons y l ih =>
   intro i s h;cases i with
   | zero=>simp at h;subst h;simp[stepCells]
   | succ i =>
     have:=ih i s (by simpa using h)
     rw[show (i+1)*2=i*2+2 by omega]
     simpa[stepCells] using this
def yY (B:Nat)(w:World)(v:Value)(l:List St):Prop:=w.ownsRow B 50 2 v l.length (stepCells l)
theorem yY.shape {B:Nat}{w:World}{v:Value}{l:List St}(h:yY B w v l):∃ a c,v=.slice a l.length c∧l.length≤c∧c≤maxLen:=by
 rcases h.2 with ⟨rfl,h0⟩|⟨g,cap,cur,rfl,hg,hh,hc,hm,hs,ht⟩
 · exact ⟨none,0,by rw[h0],by omega,nZ9 _⟩
 · exact ⟨_,cap,rfl,hc,hm⟩
theorem yY.steps {B:Nat}{w:World}{v:Value}{l:List St}(h:yY B w v l):qC (fun b=>B≤b) w v l:=by
 rcases h.2 with ⟨rfl,h0⟩|⟨g,cap,cur,rfl,hg,hh,hc,hm,hs,ht⟩
 · have : l = [] := List.eq_nil_of_length_eq_zero h0;subst this;exact ⟨none,0,rfl,nR9 _,nZ9 _,fun h=>absurd rfl h⟩
 · refine ⟨_, cap, rfl, hc, hm, fun _ => ⟨g, 0, rfl, hg, fun i x hx => ?_⟩⟩
   have hi:=qj hx;obtain ⟨g0,g1⟩:=J0 l i x hx;rw[Nat.zero_add];exact ⟨by rw[World.ownsRow.cellAt h (i*2) (by omega)];exact g0,by rw[World.ownsRow.cellAt h (i*2+1) (by omega)];exact g1⟩
theorem yY.lt {B:Nat}{w:World}{v:Value}{l:List St}(h:yY B w v l):∀ k,v.ownBlock=some k→B≤k∧k<w.heap.size:=fun k hk=>World.ownsRow.lt h k hk
theorem yY.later {B:Nat}{w w':World}{v:Value}{l:List St}(h:yY B w v l)(hb:Below w.heap.size w w'):yY B w' v l:=qq h hb
theorem stepInfo:(Tryz.prog.info? 50).map (fun i=>(i.zero,i.size,i.bytes))=some (some (.agg #[.string ⟨#[]⟩,.int .i64 0]),2,24):=by kernel_rfl
theorem Yx (w:World)(a b:Value)(e:TypeId):∀ (j:Nat)(u:Value),([a,b]:List Value)[j]?=some u→(w.alloc (.cells #[a,b] e)).cell? ((⟨w.heap.size,0,none⟩:Addr).add j)=some u:=by
 intro j u hj
 match j,hj with
 | 0,hj|1,hj=>simp at hj;subst hj;simp[Addr.add]
theorem qcG {p:List UInt8}{st:PStep}(h:yW p=some st):st.1.length≤p.length:=by
 unfold yW at h
 obtain ⟨A,B,F,hcut⟩:∃ A B F,Lib.cut p [91]=(A,B,F):=⟨_,_,_,rfl⟩;have:=(KS hcut).1;rw[hcut]at h
 simp only at h
 have key:∀ n,((if A=[35] then ([]:List UInt8) else A,(n:Int)):PStep).1.length≤p.length:=by
  intro n;simp only
  split
  · simp
  · exact this
 split at h
 · cases h
 · split at h
   · cases h;exact key 0
   · cases hi : zB B with
     | none=>rw[hi]at h;cases h
     | some n=>rw[hi]at h;cases h;exact key n
theorem VO {ps:List (List UInt8)}{k:Nat}{p:List UInt8}(hk:ps[k]?=some p)(h:yW p=none):stepsR (ps.drop k)=none:=by
 have hl:=qj hk
 have e:ps.drop k=p::ps.drop (k+1):=by
  rw[List.drop_eq_getElem_cons hl];congr 1;simpa[hl] using hk
 rw[e,stepsR,h]
theorem VP {ps:List (List UInt8)}{k:Nat}{p:List UInt8}{s:PStep}(hk:ps[k]?=some p)(h:yW p=some s):stepsR (ps.drop k)=(stepsR (ps.drop (k+1))).map (fun l=>s::l):=by
 have hl:=qj hk
 have e:ps.drop k=p::ps.drop (k+1):=by
  rw[List.drop_eq_getElem_cons hl];congr 1;simpa[hl] using hk
 rw[e,stepsR,h];cases stepsR (ps.drop (k+1))<;>rfl
theorem zv (s:ByteArray):s.data.toList.length=s.size:=by rw[Array.length_toList];rfl
def zz (s:ByteArray):Int:=if (yR s.data.toList).isSome then 0 else 1
def yd (s:ByteArray):List St:=asS ((yR s.data.toList).getD [])
theorem le_sum_mem:∀ {l:List Nat}{x:Nat},x∈l→x≤l.sum:=by
 intro l
 induction l with
 | nil=>intro x h;simp at h
 | cons y l ih =>
   intro x h;rw[List.mem_cons]at h
   rw[List.sum_cons]
   rcases h with rfl|h
   · omega
   · have:=ih h;omega
theorem qcs {R p:List UInt8}(h:p∈Lib.split R [47]):p.length≤R.length:=by
 have:=(Jo 47 _ R (nR9 _)).1;have h2:=congrArg List.length this;rw[List.length_flatten,List.map_map]at h2
 have h3:(47::p).length∈(Lib.split R [47]).map (List.length ∘ fun p=>47::p):=List.mem_map.2 ⟨p,h,rfl⟩
 have h4:=le_sum_mem h3;rw[h2]at h4
 simp at h4
 exact h4
set_option maxHeartbeats 2000000 in
theorem qaJ (s:ByteArray)(w:World)(hE:XI w)(hs:s.size≤maxLen) :
 Calls Tryz.prog 11 #[.string s] w fun e w'=>∃ v,e=.returned (.tuple #[v,.int .i64 (zz s)])∧qC (fun b=>w.heap.size≤b) w' v (yd s)∧Below w.heap.size w w':=by
 unfold maxLen at hs
 have HPL:Hid (yR s.data.toList=if s.data.toList.length≤2500∧Lib.hasPrefix s.data.toList [47]=true then (match stepsR (Lib.split (Lib.trimPrefix s.data.toList [47]) [47]) with|none=>none|some l=>if jf l=true then some l else none) else none):=by
  show _=_
  unfold yR
  split<;>rename_i h
  · cases stepsR (Lib.split (Lib.trimPrefix s.data.toList [47]) [47])<;>rfl
  · rfl
 have HNO:Hid (yR s.data.toList=none→zz s=1∧yd s=[]):=by
  intro h;unfold zz yd;rw[h];exact ⟨rfl,rfl⟩
 have hlen:=zv s
 by_cases h25:2500<s.size
 · have HE2 : Hid (zz s = 1 ∧ yd s = []) := HNO.out (by rw[HPL.out, if_neg (by rw[hlen];omega)])
   have h25i:(2500:Int)<(s.size:Int):=by omega
   clear HPL HNO
   go_enter Tryz.func11,Tryz.ntmps11
   go_wp2_with fail
   go_ret2
   exact ⟨_,by rw[HE2.out.1];rfl,by rw[HE2.out.2];exact ⟨none,0,rfl,nR9 _,nZ9 _,fun h=>absurd rfl h⟩,Below.refl _ _⟩
 · have h25i : ¬ (2500 : Int) < (s.size : Int) := by omega
   obtain ⟨R,hR⟩:∃ R,Lib.trimPrefix s.data.toList [47]=R:=⟨_,rfl⟩;obtain ⟨C,hC⟩:∃ C,Lib.hasPrefix s.data.toList [47]=C:=⟨_,rfl⟩;have HCP:Hid _:=Tryz.strings_CutPrefix s ⟨#[47]⟩ w;rw[show (⟨#[47]⟩:ByteArray).data.toList=[47] from rfl,hR,hC]at HCP
   rw[hR,hC,hlen]at HPL
   have hRl:R.length≤2500:=by
    rw[←hR];unfold Lib.trimPrefix
    split
    · rw[List.length_drop];omega
    · omega
   clear hR hC;cases C with
   | false =>
     have HE2:Hid (zz s=1∧yd s=[]):=HNO.out (by rw[HPL.out,if_neg (by simp)])
     clear HPL HNO
     go_enter Tryz.func11,Tryz.ntmps11
     go_wp2_with fail;refine (Calls.mono HCP.out ?_);rintro e w1 ⟨rfl,rfl⟩;go_wp2_with fail
     go_ret2
     exact ⟨_,by rw[HE2.out.1];rfl,by rw[HE2.out.2];exact ⟨none,0,rfl,nR9 _,nZ9 _,fun h=>absurd rfl h⟩,Below.refl _ _⟩
   | true =>
     have HP2:Hid (yR s.data.toList=match stepsR (Lib.split R [47]) with|none=>none|some l=>if jf l=true then some l else none):=by show _=_;rw[HPL.out,if_pos ⟨by omega,rfl⟩]
     obtain ⟨m,hm⟩:=hE.max;have hRs:(⟨R.toArray⟩:ByteArray).size=R.length:=by show R.toArray.size=_;simp
     have HSP:Hid _:=Tryz.strings_Split ⟨R.toArray⟩ ⟨#[47]⟩ m w (by omega) hm (by decide)
     obtain ⟨P,hP⟩:∃ P,Lib.splitB ⟨#[47]⟩ 0 (Lib.countB ⟨R.toArray⟩ ⟨#[47]⟩) ⟨R.toArray⟩=P:=⟨_,rfl⟩;have hPl:P.length=Lib.countB ⟨R.toArray⟩ ⟨#[47]⟩+1:=by rw[←hP];exact Lib.splitB_all ⟨#[47]⟩ (by decide) 0 _ _ rfl
     have hPd:P.map (·.data.toList)=Lib.split R [47]:=by
      rw[←hP,Lib.splitB_data];unfold Lib.split;have e1:(⟨R.toArray⟩:ByteArray).data.toList=R:=by simp
      have e2:(⟨#[47]⟩:ByteArray).data.toList=[47]:=rfl;rw[e1,e2]
     have hcl:=Lib.countB_le ⟨#[47]⟩ (by decide) _ ⟨R.toArray⟩ (nR9 _)
     rw[hP,←hPl]at HSP
     have HEE:Hid (XI w):=hE;have HPD:Hid (P.map (·.data.toList)=Lib.split R [47]):=hPd
     have HPS:Hid (∀ p∈P,p.size≤2500):=by
      intro p hp;have h1:p.data.toList∈Lib.split R [47]:=by rw[←hPd];exact List.mem_map.2 ⟨p,hp,rfl⟩
      have:=qcs h1;rw[zv]at this
      omega
     have hPn:P.length≤2501:=by omega
     obtain ⟨i0,hi,hz0,hzz1,hz2⟩:=info_parts stepInfo;have hb2:=Below.alloc1 w (.cells (P.map Value.string).toArray 9);have hx2:=heap_alloc_new w (.cells (P.map Value.string).toArray 9);have hz2w:(w.alloc (.cells (P.map Value.string).toArray 9)).heap.size=w.heap.size+1:=by simp
     clear hE hm hP hPl hPd hcl HPL hRs
     go_enter Tryz.func11,Tryz.ntmps11
     go_wp2_with fail;refine (Calls.mono HCP.out ?_);rintro e w1 ⟨rfl,rfl⟩;go_wp2_with fail;refine (Calls.mono HSP.out ?_);rintro e w2 ⟨rfl,rfl⟩;go_wp2_with fail
     generalize w1.alloc (.cells (P.map Value.string).toArray 9)=W2 at *
     have HZ2:Hid (W2.heap.size=w1.heap.size+1):=hz2w;have hle2:w1.heap.size≤W2.heap.size:=by omega
     clear hz2w HCP HSP
     go_loopg [24,6] P.length (fun g j o wr=>∃ (k:Nat) (acc:List PStep),k+g=P.length∧j=.int .i64 (k:Int)∧acc.length=k∧yY W2.heap.size wr o (asS acc)∧Below W2.heap.size W2 wr∧stepsR (Lib.split R [47])=(stepsR ((Lib.split R [47]).drop k)).map (fun l=>acc++l)∧∀ x∈acc,x.1.length≤2500)
     case atStart => exact ⟨0,[],by omega,rfl,rfl,World.ownsRow_nil _ _ _ _,Below.refl _ _,by rw[List.drop_zero];cases stepsR (Lib.split R [47])<;>rfl,by simp⟩
     case round =>
      obtain ⟨k,acc,hk,rfl,hal,hSR,hB,hGot,hshort⟩:=hrel;have hBw:Below w1.heap.size w1 wr:=hb2.trans (hB.mono hle2);have hxr:=(hB.block _ (qh hx2)).trans hx2;have hszr:=hB.size;obtain ⟨ra,rc,rfl,hrl,hrm⟩:=hSR.shape;rw[zI,hal]at hSR hrl ⊢
      have HSR:Hid (yY W2.heap.size wr (.slice ra k rc) (asS acc)):=hSR;have HGot:Hid _:=hGot;have HSH:Hid (∀ x∈acc,x.1.length≤2500):=hshort;have HAL:Hid (acc.length=k):=hal;clear hSR hGot hshort hal
      by_cases hkl:k<P.length
      · obtain ⟨p, hp⟩ : ∃ p, P[k]? = some p := ⟨P[k], by simp[hkl]⟩
        have hpL:(Lib.split R [47])[k]?=some p.data.toList:=by rw[←HPD.out,List.getElem?_map,hp];rfl
        have hps:=HPS.out p (List.mem_of_getElem? hp)
        have e1:wr.cell? ⟨w1.heap.size,k,none⟩=some (.string p):=by
         rw[cH9 hxr];simp[hp]
        have HRS:Hid _:=Kc p wr (HEE.out.later hBw) hps;have hkli:(k:Int)<(P.length:Int):=by omega
        cases hst:yW p.data.toList with
        | none =>
          rw[hst]at HRS
          have HE2:Hid (zz s=1∧yd s=[]):=HNO.out (by rw[HP2.out,HGot.out,VO hpL hst];rfl)
          clear hst hpL hp hxr;go_wp2_with fail;refine (Calls.mono HRS.out ?_);rintro e w3 ⟨nm,n,rfl,_,hb3⟩;go_wp2_with fail
          go_ret2
          refine ⟨_,by rw[HE2.out.1];rfl,by rw[HE2.out.2];exact ⟨none,0,rfl,nR9 _,nZ9 _,fun h=>absurd rfl h⟩,?_⟩
          exact (hBw.trans (hb3.mono hBw.size)).alloc (Nat.le_trans hBw.size hb3.size) _
        | some st =>
          have hsn:=qcG hst;rw[zv]at hsn
          have HG2:Hid (stepsR (Lib.split R [47])=(stepsR ((Lib.split R [47]).drop (k+1))).map (fun l=>(acc++[st])++l)):=by
           show _=_
           rw[HGot.out,VP hpL hst];cases stepsR ((Lib.split R [47]).drop (k+1)) with
           | none=>rfl
           | some l=>simp
          have HRS2:Hid (Calls Tryz.prog 26 #[.string p] wr fun e w'=>e=.returned (.tuple #[.agg #[.string ⟨st.1.toArray⟩,.int .i64 st.2],.bool true])∧Below wr.heap.size wr w'):=by
           refine (Calls.mono HRS.out ?_);rintro e w' ⟨nm,n,rfl,h1,hb⟩;obtain ⟨rfl,rfl⟩:=h1 st hst;rw[hst];exact ⟨rfl,hb⟩
          clear hst hpL hp hxr HRS;go_wp2_with fail;refine (Calls.mono HRS2.out ?_);rintro e w3 ⟨rfl,hb3⟩;have hB3:Below W2.heap.size W2 w3:=hB.trans (hb3.mono hszr);have hB4:Below W2.heap.size W2 (w3.alloc (.cells #[.string ⟨st.1.toArray⟩,.int .i64 st.2] 50)):=hB3.alloc hB3.size _;have hS4:yY W2.heap.size (w3.alloc (.cells #[.string ⟨st.1.toArray⟩,.int .i64 st.2] 50)) (.slice ra k rc) (asS acc):=(HSR.out.later hb3).later (Below.alloc1 _ _)
          have hown4:(w3.alloc (.cells #[.string ⟨st.1.toArray⟩,.int .i64 st.2] 50)).ownsRow W2.heap.size 50 2 (.slice ra k rc) k (stepCells (asS acc)):=by
           have:=hS4;unfold yY at this
           rw[zI,HAL.out]at this
           exact this
          have hs4:=hB3.size;go_wp2_with (at_builtin;refine wpList_append_own_at _ rfl _ _ 25 rfl W2.heap.size 50 i0 _ 2 24 Tryz.underlying25 hi hz0 hzz1 hz2 rfl (by decide) _ _ _ rfl (hown4.alloc _) ⟨w3.heap.size+1,0,none⟩ 1 1 [.string ⟨st.1.toArray⟩,.int .i64 st.2] ?qc0 ?qc1 ?qc2 ?qc3 ?qc4 ?qc5 ?qc6 ?_)
          case qc0 => first|rfl|simp[go_sem]
          case qc1 => rfl
          case qc2 => have:=Yx (w3.alloc (.cells #[.string ⟨st.1.toArray⟩,.int .i64 st.2] 50)) (.string ⟨st.1.toArray⟩) (.int .i64 st.2) 50;rw[World.size_alloc]at this;exact this
          case qc3 => intro z hz;simp at hz;rcases hz with rfl|rfl<;>rfl
          case qc4 => unfold maxLen;omega
          case qc5 => omega
          case qc6 => simp;omega
          intro v' w6 hown6 hgr6 _ _;obtain ⟨ja,jl,jc,rfl⟩:=qQ hown6
          have hS6:yY W2.heap.size w6 (.slice ja jl jc) (asS (acc++[st])):=by
           unfold yY;rw[show asS (acc++[st])=asS acc++[⟨⟨st.1.toArray⟩,st.2⟩] by simp[asS],yF,List.length_append,zI,HAL.out]
           exact hown6
          have hB6:Below W2.heap.size W2 w6:=(hB4.alloc hB4.size _).grown hgr6 (by simp;omega) (fun z hz=>(hS4.lt z hz).1)
          clear hown6 hown4 hS4;go_wp2_with fail
          go_roundg (P.length-(k+1))
          case measure => omega
          case rel =>
           refine ⟨k+1,acc++[st],by omega,by go_num,by rw[List.length_append,HAL.out];rfl,hS6,hB6,HG2.out,fun x hx=>?_⟩
           rw[List.mem_append,List.mem_singleton]at hx
           rcases hx with hx|rfl
           · exact HSH.out x hx
           · omega
      · have hkk : k = P.length := by omega
        have hkli:¬ ((k:Int)<(P.length:Int)):=by omega
        have HG2:Hid (stepsR (Lib.split R [47])=some acc):=by
         show _=_
         have hdl:(Lib.split R [47]).length≤k:=by rw[←HPD.out,List.length_map];omega
         rw[HGot.out,List.drop_of_length_le hdl];simp[stepsR]
        have hSt:=HSR.out.steps;clear hkk
        have HPG:Hid _:=Xj _ (.slice ra k rc) (asS acc) wr hSt (by
         intro x hx;obtain ⟨q,hq,rfl⟩:=List.mem_map.1 hx;have:=HSH.out q hq
         show q.1.toArray.size≤maxLen
         unfold maxLen;simp;omega)
        rw[X6]at HPG
        cases hpl:jf acc with
        | false =>
          rw[hpl]at HPG
          have HE2:Hid (zz s=1∧yd s=[]):=HNO.out (by rw[HP2.out,HG2.out];simp[hpl])
          clear hpl;go_wp2_with fail;refine (Calls.mono HPG.out ?_);rintro e w3 ⟨rfl,hb3⟩;go_wp2_with fail
          go_ret2
          exact ⟨_,by rw[HE2.out.1];rfl,by rw[HE2.out.2];exact ⟨none,0,rfl,nR9 _,nZ9 _,fun h=>absurd rfl h⟩,hBw.trans (hb3.mono hBw.size)⟩
        | true =>
          rw[hpl]at HPG
          have HE2:Hid (zz s=0∧yd s=asS acc):=by
           have:yR s.data.toList=some acc:=by rw[HP2.out,HG2.out];simp[hpl]
           unfold zz yd;rw[this];exact ⟨rfl,rfl⟩
          clear hpl;go_wp2_with fail;refine (Calls.mono HPG.out ?_);rintro e w3 ⟨rfl,hb3⟩;go_wp2_with fail
          go_ret2
          exact ⟨_,by rw[HE2.out.1];rfl,by rw[HE2.out.2];exact (hSt.later hb3).carry fun b hb=>⟨by omega,rfl⟩,hBw.trans (hb3.mono hBw.size)⟩
end
end Go.Proofs.YtfplhcicbbhljaaGreatDoor
/-
  DERIVED: THE SHELF's CONTRACTS AT THIS DUMP, IN PLAIN WORDS (tools/lay-plain.mjs out of 'YtfplhcicbbhljaaGreatDoorIndL.lean', which tools/lay-shelf.mjs wrote): THE SAME DECLARATIONS UNDER THE SAME NAMES: 'import', 'namespace', 'open', 'def', 'theorem' AND NOTHING ELSE: no command of the shelf's: FOR A HAND-IN. Each laying: the table of numbers ('.._ren') and one theorem, a field a fact of the dump's own or the kernel's comparison; each contract: ONE APPLICATION.
-/
namespace Go.Proofs
open Go.Shelf
def Tryz.lays143_ren:Go.Shelf.Ren:=⟨fun|143=>61|219=>48|217=>36|225=>81|224=>82|267=>83|266=>64|314=>119|n=>n,fun|9=>9|3=>3|4=>4|5=>5|46=>131|146=>170|51=>169|n=>n,fun|1=>1|n=>n⟩
theorem Tryz.lays143:Go.Proofs.Lays.n143 Tryz.prog Tryz.lays143_ren:={
 mixed:=by kernel_rfl
 f143:=Tryz.func61.trans (congrArg some (by kernel_rfl))
 f217:=Tryz.func36.trans (congrArg some (by kernel_rfl))
 f219:=Tryz.func48.trans (congrArg some (by kernel_rfl))
 f224:=Tryz.func82.trans (congrArg some (by kernel_rfl))
 f225:=Tryz.func81.trans (congrArg some (by kernel_rfl))
 f266:=Tryz.func64.trans (congrArg some (by kernel_rfl))
 f267:=Tryz.func83.trans (congrArg some (by kernel_rfl))
 f314:=Tryz.func119.trans (congrArg some (by kernel_rfl))
 t3:=Tryz.underlying3
 a3:=Tryz.isAgg3
 z3:=Tryz.sizeOf3
 v3:=Tryz.zeroValue3
 t4:=Tryz.underlying4
 a4:=Tryz.isAgg4
 z4:=Tryz.sizeOf4
 v4:=Tryz.zeroValue4
 t5:=Tryz.underlying5
 a5:=Tryz.isAgg5
 z5:=Tryz.sizeOf5
 v5:=Tryz.zeroValue5
 t9:=Tryz.underlying9
 a9:=Tryz.isAgg9
 z9:=Tryz.sizeOf9
 v9:=Tryz.zeroValue9
 t46:=Tryz.underlying131
 a46:=Tryz.isAgg131
 z46:=Tryz.sizeOf131
 v46:=Tryz.zeroValue131
 t51:=Tryz.underlying169
 a51:=Tryz.isAgg169
 z51:=Tryz.sizeOf169
 v51:=Tryz.zeroValue169
 t146:=Tryz.underlying170
 a146:=Tryz.isAgg170
 z146:=Tryz.sizeOf170
 v146:=Tryz.zeroValue170
 g1:=by kernel_rfl }
open Go.RowKit Go.Lib in
/-- strings.Index: "Index returns the index of the first instance of substr in s, or -1 if substr is not present in s.": IT RETURNS 'Lib.index s substr'; the world is as it was. (LAID: no walk: one application.) -/
theorem Tryz.strings_Index (s sub:ByteArray)(m:Int)(w:World)(hs:s.size<4294967281)(hm:w.cell? ⟨1,0,none⟩=some (.int .i64 m)) :
 Calls Tryz.prog 61 #[.string s,.string sub] w fun e w'=>e=.returned (.int .i64 (Lib.index s.data.toList sub.data.toList))∧w'=w:=Any.strings_Index Tryz.lays143 s sub m w hs hm
end Go.Proofs
namespace Go.Proofs.YtfplhcicbbhljaaGreatDoor
open Go.ChangeShapes Go.WideShapes Go.ChangeAt Go.RowKit
set_option maxRecDepth 100000
theorem QJ (c:UInt8)(w:World) :
 Calls Tryz.prog 63 #[.int .u8 (c.toNat:Int)] w fun e w'=>e=.returned (.bool (sign c))∧w'=w:=by
 by_cases h10:c.toNat=10
 · have hb : ((c.toNat : Int) == 10) = true := by simp;omega
   have HS:Hid (sign c=true):=by show _=_;simp[sign,h10]
   clear h10
   go_enter Tryz.func63,Tryz.ntmps63
   go_wp2;go_ret;exact ⟨by rw[HS.out];rfl,rfl⟩
 · have hb : ((c.toNat : Int) == 10) = false := by simp;omega
   by_cases ha:(32:Int)≤(c.toNat:Int)
   · by_cases hb' : (c.toNat : Int) < 127
     · have HS : Hid (sign c = true) := by show _ = _;simp[sign, h10];omega
       clear h10
       go_enter Tryz.func63,Tryz.ntmps63
       go_wp2;go_ret;exact ⟨by rw[HS.out];rfl,rfl⟩
     · have HS : Hid (sign c = false) := by show _ = _;simp[sign, h10];omega
       clear h10
       go_enter Tryz.func63,Tryz.ntmps63
       go_wp2;go_ret;exact ⟨by rw[HS.out];rfl,rfl⟩
   · have HS : Hid (sign c = false) := by show _ = _;simp[sign, h10];omega
     clear h10
     go_enter Tryz.func63,Tryz.ntmps63
     go_wp2;go_ret;exact ⟨by rw[HS.out];rfl,rfl⟩
theorem QD (s:ByteArray)(w:World)(hs:s.size≤maxLen) :
 Calls Tryz.prog 35 #[.string s] w fun e w'=>e=.returned (.bool (qN s))∧Below w.heap.size w w':=by
 unfold maxLen at hs
 have hcv:=Lib.run_convert_string_bytes (P:=Tryz.prog) w 9 109 5 s (u:=.string) Tryz.underlying9 Tryz.underlying109 Tryz.underlying5;have hbw:Below w.heap.size w (Lib.bytesWorld w 5 s):=⟨rfl,rfl,rfl,by rw[Lib.bytesWorld_size];omega,fun k hk=>Lib.bytesWorld_at_old w _ s k hk⟩
 have hcell:Hid (∀ k (h:k<s.size),(Lib.bytesWorld w 5 s).cell? ⟨w.heap.size,k,none⟩=some (.int .u8 (s[k].toNat:Int))):=by
  intro k h;rw[Lib.bytesWorld_cell w _ s k h];simp[List.getD,h];rfl
 generalize Lib.bytesWorld w 5 s=W at hcv hbw hcell
 generalize grownCap w s.size 0 5=cap at hcv
 have HB:Hid (Below w.heap.size w W):=hbw;clear hbw
 go_enter Tryz.func35,Tryz.ntmps35
 go_wp2
 go_loop [8] (fun i=>∃ k:Nat,k≤s.size∧i=.int .i64 k∧(s.data.toList.take k).all sign=true) (fun i=>s.size-(intOf i).toNat)
 case atStart => exact ⟨0,Nat.zero_le _,rfl,by simp⟩
 case round =>
  obtain ⟨k,hk,rfl,hall⟩:=hrel;have HA:Hid ((s.data.toList.take k).all sign=true):=hall;clear hall
  by_cases hlt:k<s.size
  · have hc := hcell.out k hlt;go_wp2_with fail;refine (QJ s[k] W).mono ?_;rintro e W' ⟨rfl,rfl⟩
    by_cases hp:sign s[k]=true
    · go_wp2;exact ⟨⟨k+1,by omega,by go_num,Zp hlt HA.out hp⟩,by simp[intOf];omega⟩
    · have hp' : sign s[k] = false := by simpa using hp
      go_wp2;go_ret;exact ⟨by simp[qN,Qs hlt hp'],HB⟩
  · have HT:Hid (s.data.toList.all sign=true):=by
     have:=HA.out;rw[List.take_of_length_le (by simp;omega)]at this
     exact this
    by_cases h40:s.size≤40
    · go_wp2;go_ret;exact ⟨by simp[qN,HT.out,h40];omega,HB⟩
    · go_wp2;go_ret;exact ⟨by simp[qN,h40];omega,HB⟩
end Go.Proofs.YtfplhcicbbhljaaGreatDoor
/-
  DERIVED: THE SHELF's CONTRACTS AT THIS DUMP, IN PLAIN WORDS (tools/lay-plain.mjs out of 'YtfplhcicbbhljaaGreatDoorSpnL.lean', which tools/lay-shelf.mjs wrote): THE SAME DECLARATIONS UNDER THE SAME NAMES: 'import', 'namespace', 'open', 'def', 'theorem' AND NOTHING ELSE: no command of the shelf's: FOR A HAND-IN. Each laying: the table of numbers ('.._ren') and one theorem, a field a fact of the dump's own or the kernel's comparison; each contract: ONE APPLICATION.
-/
namespace Go.Proofs
open Go.Shelf
def Tryz.lays147_ren:Go.Shelf.Ren:=⟨fun|147=>14|221=>31|268=>59|138=>60|143=>61|195=>94|197=>95|218=>96|219=>48|260=>130|217=>36|225=>81|224=>82|267=>83|266=>64|314=>119|n=>n,fun|9=>9|3=>3|31=>41|4=>4|0=>0|105=>141|21=>21|5=>5|46=>131|119=>212|139=>215|138=>214|146=>170|51=>169|n=>n,fun|1=>1|3=>3|4=>4|n=>n⟩
theorem Tryz.lays147:Go.Proofs.Lays.n147 Tryz.prog Tryz.lays147_ren:={
 mixed:=by kernel_rfl
 f138:=Tryz.func60.trans (congrArg some (by kernel_rfl))
 f143:=Tryz.func61.trans (congrArg some (by kernel_rfl))
 f147:=Tryz.func14.trans (congrArg some (by kernel_rfl))
 f195:=Tryz.func94.trans (congrArg some (by kernel_rfl))
 f197:=Tryz.func95.trans (congrArg some (by kernel_rfl))
 f217:=Tryz.func36.trans (congrArg some (by kernel_rfl))
 f218:=Tryz.func96.trans (congrArg some (by kernel_rfl))
 f219:=Tryz.func48.trans (congrArg some (by kernel_rfl))
 f221:=Tryz.func31.trans (congrArg some (by kernel_rfl))
 f224:=Tryz.func82.trans (congrArg some (by kernel_rfl))
 f225:=Tryz.func81.trans (congrArg some (by kernel_rfl))
 f260:=Tryz.func130.trans (congrArg some (by kernel_rfl))
 f266:=Tryz.func64.trans (congrArg some (by kernel_rfl))
 f267:=Tryz.func83.trans (congrArg some (by kernel_rfl))
 f268:=Tryz.func59.trans (congrArg some (by kernel_rfl))
 f314:=Tryz.func119.trans (congrArg some (by kernel_rfl))
 t0:=Tryz.underlying0
 a0:=Tryz.isAgg0
 z0:=Tryz.sizeOf0
 v0:=Tryz.zeroValue0
 t3:=Tryz.underlying3
 a3:=Tryz.isAgg3
 z3:=Tryz.sizeOf3
 v3:=Tryz.zeroValue3
 t4:=Tryz.underlying4
 a4:=Tryz.isAgg4
 z4:=Tryz.sizeOf4
 v4:=Tryz.zeroValue4
 t5:=Tryz.underlying5
 a5:=Tryz.isAgg5
 z5:=Tryz.sizeOf5
 v5:=Tryz.zeroValue5
 t9:=Tryz.underlying9
 a9:=Tryz.isAgg9
 z9:=Tryz.sizeOf9
 v9:=Tryz.zeroValue9
 t21:=Tryz.underlying21
 a21:=Tryz.isAgg21
 z21:=Tryz.sizeOf21
 v21:=Tryz.zeroValue21
 t31:=Tryz.underlying41
 a31:=Tryz.isAgg41
 z31:=Tryz.sizeOf41
 v31:=Tryz.zeroValue41
 t46:=Tryz.underlying131
 a46:=Tryz.isAgg131
 z46:=Tryz.sizeOf131
 v46:=Tryz.zeroValue131
 t51:=Tryz.underlying169
 a51:=Tryz.isAgg169
 z51:=Tryz.sizeOf169
 v51:=Tryz.zeroValue169
 t105:=Tryz.underlying141
 a105:=Tryz.isAgg141
 z105:=Tryz.sizeOf141
 v105:=Tryz.zeroValue141
 t119:=Tryz.underlying212
 a119:=Tryz.isAgg212
 z119:=Tryz.sizeOf212
 t138:=Tryz.underlying214
 a138:=Tryz.isAgg214
 z138:=Tryz.sizeOf214
 v138:=Tryz.zeroValue214
 t139:=Tryz.underlying215
 a139:=Tryz.isAgg215
 z139:=Tryz.sizeOf215
 v139:=Tryz.zeroValue215
 t146:=Tryz.underlying170
 a146:=Tryz.isAgg170
 z146:=Tryz.sizeOf170
 v146:=Tryz.zeroValue170
 g1:=by kernel_rfl
 g3:=by kernel_rfl
 g4:=by kernel_rfl }
open Go.RowKit Go.Lib in
/-- strings.SplitN, n > 0. (LAID: no walk: one application.) -/
theorem Tryz.strings_SplitN (s sep:ByteArray)(n:Nat)(m:Int)(w:World)(hs:s.size<4294967281)(hm:w.cell? ⟨1,0,none⟩=some (.int .i64 m))(h1:1≤sep.size)(hn:1≤n)(hn63:n≤9223372036854775807) :
 Calls Tryz.prog 14 #[.string s,.string sep,.int .i64 n] w fun e w' =>
  e=.returned (.slice (some ⟨w.heap.size,0,none⟩) (Lib.splitB sep 0 (min n (s.size+1)-1) s).length (min n (s.size+1)))∧w'=w.alloc (.cells (Lib.cellsOf (Lib.splitB sep 0 (min n (s.size+1)-1) s) (min n (s.size+1))) 9):=Any.strings_SplitN Tryz.lays147 (by kernel_rfl) s sep n m w hs hm h1 hn hn63
end Go.Proofs
namespace Go.Proofs.YtfplhcicbbhljaaGreatDoor
open Go.ChangeShapes Go.WideShapes Go.ChangeAt Go.RowKit
set_option maxRecDepth 100000
section
attribute [local go_sem] qd
theorem qbX {ns:List Nd}{l:List Int}{k m:Nat}{x:Nd}(hk:l[k]?=some (m:Int))(hx:ns[m]?=some x)(name:ByteArray) :
 Ym ns (l.take (k+1)) name=Ym ns (l.take k) name++(if Zv x name then [(m:Int)] else []):=by
 have hl:=qj hk;have e:l[k]=(m:Int):=by simpa[hl] using hk
 unfold Ym;rw[List.take_succ_eq_append_getElem hl,List.filter_append,e,List.filter_cons,qbW hx];rfl
theorem KZ (ns:List Nd)(l:List Int)(name:ByteArray):(Ym ns l name).length≤l.length:=List.length_filter_le _ _
set_option maxHeartbeats 1000000 in
theorem Y7 (S:Nat→Prop)(vn vs:Value)(ns:List Nd)(l:List Int)(s:St)(w:World)(hN:qB S w vn ns)(hI:zr S w vs l)(hin:∀ u∈l,0≤u∧u<ns.length)(hs0:0≤s.n)(hl:l.length≤1048576) :
 Calls Tryz.prog 141 #[vn,vs,.agg #[.string s.name,.int .i64 s.n]] w fun e w'=>∃ v,e=.returned v∧zr (fun b=>w.heap.size≤b) w' v (ym ns l s)∧Below w.heap.size w w':=by
 have hb1:=Below.alloc1 w (.cells #[.string s.name,.int .i64 s.n] 50);have hx1:=heap_alloc_new w (.cells #[.string s.name,.int .i64 s.n] 50);have hz1:(w.alloc (.cells #[.string s.name,.int .i64 s.n] 50)).heap.size=w.heap.size+1:=by simp
 obtain ⟨na,nc,rfl,hnl,hnm⟩:=hN.shape;obtain ⟨sa,sc,rfl,hsl,hsm⟩:=hI.shape;unfold maxLen at hnm hsm
 obtain ⟨i0,hi,hz0,hzz1,hz2⟩:=info_parts intInfoR;have HN:Hid (qB S w (.slice na ns.length nc) ns):=hN;have HI:Hid (zr S w (.slice sa l.length sc) l):=hI;have HIN:Hid (∀ u∈l,0≤u∧u<ns.length):=hin;have HM:Hid (ym ns l s=if s.n=0 then Ym ns l s.name else ((Ym ns l s.name).drop (s.n.toNat-1)).take 1):=rfl
 have HLN:Hid (ns.length=ns.length):=rfl;clear hN hI hin
 go_enter Tryz.func141,Tryz.ntmps141
 go_wp2_with fail
 generalize w.alloc (.cells #[.string s.name,.int .i64 s.n] 50)=W1 at *
 have HZ1:Hid (W1.heap.size=w.heap.size+1):=hz1;have hle1:w.heap.size≤W1.heap.size:=by omega
 clear hz1
 go_loopg [12,7] l.length (fun g i o wr=>∃ (k:Nat),k+g=l.length∧i=.int .i64 (k:Int)∧qZ W1.heap.size wr o (Ym ns (l.take k) s.name)∧Below W1.heap.size W1 wr)
 case atStart => exact ⟨0,by omega,rfl,qZ.nil _ _,Below.refl _ _⟩
 case round =>
  obtain ⟨k,hk,rfl,hR,hB⟩:=hrel;have hsz:=hB.size;have hBw:Below w.heap.size w wr:=hb1.trans (hB.mono hle1);have hxr:=(hB.block _ (qh hx1)).trans hx1
  by_cases hil:k<l.length
  · obtain ⟨u, hu⟩ : ∃ u, l[k]? = some u := ⟨l[k], by simp[hil]⟩
    have hur:=HIN.out u (List.mem_of_getElem? hu);obtain ⟨m,rfl⟩:∃ m:Nat,u=(m:Int):=⟨u.toNat,by omega⟩
    obtain ⟨x,hx⟩:∃ x,ns[m]?=some x:=⟨ns[m]'(by omega),by simp⟩
    obtain ⟨ib,io,ic,hiv,_,hib,e1⟩:=(HI.out.later hBw).at hu
    injection hiv with hia _ hic
    subst hia hic;obtain ⟨b,o,cap,va,vk,hv,_,_,hSb,hbw,c0,c1,c2,c3,c4,hAt,hKi⟩:=(HN.out.later hBw).at hx
    injection hv with hv1 _ hv2
    subst hv1 hv2;obtain ⟨aa,ac,rfl⟩:=hAt.shape;obtain ⟨ka,kc,rfl,_,_⟩:=hKi.shape;have HSN:Hid _:=qbX hu hx s.name;have HF:Hid (∀ W,Calls Tryz.prog 183 #[.agg #[.bool x.text,.string x.s,.slice aa x.attrs.length ac,.int .i64 x.parent,.slice ka x.kids.length kc],.string s.name] W fun e w'=>e=.returned (.bool (Zv x s.name))∧Below W.heap.size W w'):=fun W=>qdp x _ _ _ _ _ _ s.name W
    have hili:(k:Int)<(l.length:Int):=by omega
    have hmi:(m:Int)<(ns.length:Int):=by omega
    have d0:wr.cell? ⟨w.heap.size,0,none⟩=some (.string s.name):=by rw[cH9 hxr];rfl
    have hlen:=KZ ns (l.take k) s.name;rw[List.length_take]at hlen
    have hlen2:(Ym ns (l.take k) s.name).length≤1048576:=by omega
    obtain ⟨us,hus⟩:∃ us,Ym ns (l.take k) s.name=us:=⟨_,rfl⟩;rw[hus]at hR HSN hlen2
    obtain ⟨ra,rc,rfl,_,_⟩:=hR.shape;have HR:Hid (qZ W1.heap.size wr (.slice ra us.length rc) us):=hR
    have HC:Hid (∀ W,Below wr.heap.size wr W→Below wr.heap.size wr W∧W.cell? ⟨b,o+m*5,none⟩=some (.bool x.text)∧W.cell? ⟨b,o+m*5+1,none⟩=some (.string x.s)∧W.cell? ⟨b,o+m*5+2,none⟩=some (.slice aa x.attrs.length ac)∧W.cell? ⟨b,o+m*5+3,none⟩=some (.int .i64 x.parent)∧W.cell? ⟨b,o+m*5+4,none⟩=some (.slice ka x.kids.length kc)∧W.cell? ⟨w.heap.size,0,none⟩=some (.string s.name)):=by
     intro W h;refine ⟨h,?_,?_,?_,?_,?_,?_⟩
     · rw[h.cell (p:=⟨b,o+m*5,none⟩) hbw];exact c0
     · rw[h.cell (p:=⟨b,o+m*5+1,none⟩) hbw];exact c1
     · rw[h.cell (p:=⟨b,o+m*5+2,none⟩) hbw];exact c2
     · rw[h.cell (p:=⟨b,o+m*5+3,none⟩) hbw];exact c3
     · rw[h.cell (p:=⟨b,o+m*5+4,none⟩) hbw];exact c4
     · rw[h.cell (p:=⟨w.heap.size,0,none⟩) (qh hxr)];exact d0
    have hbn:Below wr.heap.size wr wr.drew:=(Below.refl _ _).drew;clear hu hx hAt hKi hus hR hlen hxr hur;cases hq:Zv x s.name with
    | true =>
      rw[hq]at HF HSN
      clear hq;go_wp2_with fail
      go_region_held3 (fun W:World=>Below wr.heap.size wr W∧W.cell? ⟨b,o+m*5,none⟩=some (.bool x.text)∧W.cell? ⟨b,o+m*5+1,none⟩=some (.string x.s)∧W.cell? ⟨b,o+m*5+2,none⟩=some (.slice aa x.attrs.length ac)∧W.cell? ⟨b,o+m*5+3,none⟩=some (.int .i64 x.parent)∧W.cell? ⟨b,o+m*5+4,none⟩=some (.slice ka x.kids.length kc)∧W.cell? ⟨w.heap.size,0,none⟩=some (.string s.name))
       (with_reducible exact HC.out _ hbn)
       (first|(go_at_call 183;refine (Calls.mono (HF.out _) ?_);rintro e w3 ⟨rfl,hb3⟩;have hbn:=hbn.trans (hb3.mono hbn.size)))
      have hR3:qZ W1.heap.size w3 (.slice ra us.length rc) us:=HR.out.later hbn;have hs3:=hbn.size;have hB3:Below W1.heap.size W1 w3:=hB.trans (hbn.mono hsz);have hown3:w3.ownsRow W1.heap.size 3 1 (.slice ra us.length rc) us.length (qr us):=hR3;clear c0 c1 c2 c3 c4;go_wp2_with (at_builtin;refine wpList_append_own_at _ rfl _ _ 88 rfl W1.heap.size 3 i0 _ 1 8 Tryz.underlying88 hi hz0 hzz1 hz2 rfl (by decide) _ _ _ rfl (hown3.alloc _) ⟨w3.heap.size,0,none⟩ 1 1 [.int .i64 (m:Int)] rfl ?qc1 ?qc2 ?qc3 ?qc4 ?qc5 ?qc6 ?_)
      case qc1 => rfl
      case qc2 => exact Yw _ _ _
      case qc3 => intro z hz;simp at hz;subst hz;rfl
      case qc4 => unfold maxLen;omega
      case qc5 => omega
      case qc6 => simp;omega
      intro v' w4 hown4 hgr4 _ _;obtain ⟨ja,jl,jc,rfl⟩:=qQ hown4
      have hR4:qZ W1.heap.size w4 (.slice ja jl jc) (us++[(m:Int)]):=by
       unfold qZ;rw[zy,List.length_append];exact hown4
      have hB4:Below W1.heap.size W1 w4:=(hB3.alloc (by omega) _).grown hgr4 (by simp;omega) (fun z hz=>(hR3.lt z hz).1)
      clear hown4 hown3 hR3;go_wp2_with fail
      go_roundg (l.length-(k+1))
      case measure => omega
      case rel => exact ⟨k+1,by omega,by go_num,by rw[HSN.out];exact hR4,hB4⟩
    | false =>
      rw[hq]at HF HSN
      clear hq;go_wp2_with fail
      go_region_held3 (fun W:World=>Below wr.heap.size wr W∧W.cell? ⟨b,o+m*5,none⟩=some (.bool x.text)∧W.cell? ⟨b,o+m*5+1,none⟩=some (.string x.s)∧W.cell? ⟨b,o+m*5+2,none⟩=some (.slice aa x.attrs.length ac)∧W.cell? ⟨b,o+m*5+3,none⟩=some (.int .i64 x.parent)∧W.cell? ⟨b,o+m*5+4,none⟩=some (.slice ka x.kids.length kc)∧W.cell? ⟨w.heap.size,0,none⟩=some (.string s.name))
       (with_reducible exact HC.out _ hbn)
       (first|(go_at_call 183;refine (Calls.mono (HF.out _) ?_);rintro e w3 ⟨rfl,hb3⟩;have hbn:=hbn.trans (hb3.mono hbn.size)))
      have hR3:qZ W1.heap.size w3 (.slice ra us.length rc) us:=HR.out.later hbn;have hB3:Below W1.heap.size W1 w3:=hB.trans (hbn.mono hsz);clear c0 c1 c2 c3 c4;go_wp2_with fail
      go_roundg (l.length-(k+1))
      case measure => omega
      case rel => exact ⟨k+1,by omega,by go_num,by rw[HSN.out];simpa using hR3,hB3⟩
  · have hkk : k = l.length := by omega
    subst hkk;rw[List.take_length]at hR
    have hili:¬ ((l.length:Int)<(l.length:Int)):=by omega
    have d1:wr.cell? ⟨w.heap.size,1,none⟩=some (.int .i64 s.n):=by rw[cH9 hxr];rfl
    have hlen:=KZ ns l s.name;obtain ⟨us,hus⟩:∃ us,Ym ns l s.name=us:=⟨_,rfl⟩;rw[hus]at hR HM hlen
    obtain ⟨ra,rc,rfl,hrc,hrm⟩:=hR.shape;have HRI:Hid (zr (fun b=>W1.heap.size≤b) wr (.slice ra us.length rc) us):=hR.ints
    clear hus hR
    by_cases hn0:s.n=0
    · have HE : Hid (ym ns l s = us) := by show _ = _;rw[HM.out, if_pos hn0]
      have hne:(s.n==0)=true:=by simp[hn0]
      clear HM hn0;go_wp2_with fail;go_ret;exact ⟨_,rfl,by rw[HE.out];exact HRI.out.carry fun b hb=>⟨by omega,rfl⟩,hBw⟩
    · have hne : (s.n == 0) = false := by simp[hn0]
      obtain ⟨m,hm⟩:∃ m:Nat,s.n=((m+1:Nat):Int):=⟨s.n.toNat-1,by omega⟩
      have HE:Hid (ym ns l s=(us.drop m).take 1):=by show _=_;rw[HM.out,if_neg hn0,hm];simp
      rw[hm]at d1 hne
      clear HM hn0 hm
      by_cases hgt:us.length<m+1
      · have hgi : (us.length : Int) < ((m + 1 : Nat) : Int) := by omega
        have HE2:Hid (ym ns l s=[]):=by show _=_;rw[HE.out,List.drop_of_length_le (by omega)];rfl
        clear HE;go_wp2_with fail;go_ret;exact ⟨_,rfl,by rw[HE2.out];exact zr.nil,hBw⟩
      · have hgi : ¬ (us.length : Int) < ((m + 1 : Nat) : Int) := by omega
        obtain ⟨y,hy⟩:∃ y,us[m]?=some y:=⟨us[m]'(by omega),by simp⟩
        have HE2:Hid (ym ns l s=[y]):=by
         show _=_
         rw[HE.out,List.drop_eq_getElem_cons (by omega)]
         have:us[m]'(by omega)=y:=by
          have:=hy;rw[List.getElem?_eq_getElem (by omega)]at this
          exact Option.some.inj this
         rw[this];rfl
        obtain ⟨rb,ro,rc2,hrv,hrS,hrb,e1⟩:=HRI.out.at hy
        injection hrv with hra _ hrc2
        subst hra hrc2;have HY:Hid (wr.cell? ⟨rb,ro+m,none⟩=some (.int .i64 y)):=e1;clear HE hy e1;unfold maxLen at hrm
        have hmc:m+1≤rc:=by omega
        go_wp2_with fail;go_ret;refine ⟨_,rfl,?_,hBw⟩;rw[HE2.out];refine ⟨some ⟨rb,ro+m,none⟩,rc-m,rfl,by simp;omega,by unfold maxLen;omega,fun _=>⟨rb,ro+m,rfl,by omega,fun i x hx=>?_⟩⟩
        match i,hx with
        | 0,hx=>simp at hx;subst hx;exact HY.out
end
section
attribute [local go_sem] qd
theorem Z6 {P:Program}{w:World}(base:Nat)(t ty e:TypeId)(i:TypeInfo)(size c:Nat)(ht:P.underlying t=some (.slice e))(hi:P.info? e=some i)
 (v:Value) (n:Nat) (xs:List Value) (hown:w.ownsRow base e size v n xs) :
 (Builtin.append_ #[t,t] ty #[v,.slice none 0 c]).run P w=.ok v w:=by
 rcases hown.2 with ⟨rfl,rfl⟩|⟨g,cap,cur,rfl,_,_,hnc,_⟩
 · simp[Builtin.append_,run_underlying ht,sizeOf,typeInfo,hi,Builtin.lenOf,Builtin.firstCells]
 · simp[Builtin.append_,run_underlying ht,sizeOf,typeInfo,hi,Builtin.lenOf,Builtin.firstCells,hnc,storeCells]
theorem qcH {ops:Array Oper}{o:Oper}{a:Act}{w:World}{K:Act→World→Prop}{Q:Exit→Act→World→Prop}{E:Prop}
 (hg:o.guard=none) (s x:Operand) (hop:o.op=Op.call { callee:=Callee.builtin Builtin.append,args:=#[s,x],argTypes:=#[88,88] })
 (B:Nat) (v:Value) (l:List Int) (hs:a.eval s=v) (hown:qZ B w v l) (S:Nat→Prop) (u:Value) (m:List Int) (hx:a.eval x=u) (hm:zr S w u m) (hn:l.length+m.length≤1048576) (hB:B≤w.heap.size)
 (hK:∀ v' w',qZ B w' v' (l++m)→w.grownBy w' v.ownBlock→K (a.put o.dst v') w') :
 if Region.wanted o (yielded ops a.tmps)=true then Oper.wp Tryz.prog o a w K Q else E:=by
 have hw:Region.wanted o (yielded ops a.tmps)=true:=by simp[Region.wanted,hg]
 rw[if_pos hw];obtain ⟨i0,hi,hz0,hz1,hz2⟩:=info_parts intInfoR;obtain ⟨ua,uc,rfl,_,_⟩:=hm.shape;cases ua with
 | none =>
   have hm0:m=[]:=by
    obtain ⟨a',cap,h1,_,_,h4⟩:=hm
    apply Classical.byContradiction
    intro hne;obtain ⟨b,o,ha,_⟩:=h4 hne;rw[ha]at h1
    cases h1
   subst hm0;have hr:=Z6 (P:=Tryz.prog) (w:=w) B 88 o.type 3 i0 1 uc Tryz.underlying88 hi v l.length (qr l) hown;unfold Oper.wp;simp[execOp,hop,resolve,invoke,builtin,hs,hx,hr,Result.andThen];exact hK v w (by rw[List.append_nil];exact hown) (World.grownBy.refl _ _)
 | some ad =>
   obtain ⟨v',w',hr,h2,h3,_,h5⟩:=run_append_own_at (P:=Tryz.prog) w B 88 o.type 3 i0 _ 1 8 Tryz.underlying88 hi hz0 hz1 hz2 rfl (by decide) v l.length (qr l) hown ad m.length uc (qr m) (by rw[zN];omega) hm.cells (zR m) (by unfold maxLen;omega) (by omega) hB
   unfold Oper.wp;simp[execOp,hop,resolve,invoke,builtin,hs,hx,hr,Result.andThen];refine hK v' w' ?_ h3;unfold qZ;rw[zy,List.length_append];exact h2
theorem qaF {ns:List Nd}{here:List Int}{k:Nat}{u:Int}(hk:here[k]?=some u)(s:St):ZE ns (here.take (k+1)) s=ZE ns (here.take k) s++ym ns (Y1 ns u) s:=by
 have hl:=qj hk;have e:here[k]=u:=by simpa[hl] using hk
 unfold ZE;rw[List.take_succ_eq_append_getElem hl,List.flatMap_append,e];simp
theorem Yu {ns:List Nd}(hg:qG ns=true){d:Nat}{l:List Int}(h:Lev ns d l):l.length≤ns.length:=by
 have hr:=h.rises hg
 have hm:∀ u∈l,0≤u∧u<ns.length:=fun u hu=>by
  obtain ⟨k,x,rfl,hx,_⟩:=h.mem u hu;have:=qj hx;omega
 clear h
 have key:∀ (l:List Int) (a:Int),l.Pairwise (fun u v=>u<v)→(∀ u∈l,a≤u∧u<ns.length)→a≤ns.length→(l.length:Int)≤ns.length-a:=by
  intro l
  induction l with
  | nil=>intro a _ _ h;simp;omega
  | cons x l ih =>
    intro a hp hm ha;rw[List.pairwise_cons]at hp
    have hx:=hm x List.mem_cons_self;have:=ih (x+1) hp.2 (fun u hu=>⟨by have:=hp.1 u hu;omega,(hm u (List.mem_cons_of_mem _ hu)).2⟩) (by omega)
    simp;omega
 have:=key l 0 hr hm (by omega)
 omega
theorem qby {ns:List Nd}(hg:qG ns=true){m:Nat}{x:Nd}(hx:ns[m]?=some x):∀ u∈x.kids,0≤u∧u<ns.length:=by
 intro u hu;obtain ⟨k,_,rfl,_,h,_⟩:=(y7 hg hx).kids u hu;omega
set_option maxHeartbeats 2000000 in
theorem qaX (S:Nat→Prop)(vd vl:Value)(ns:List Nd)(l:List St)(w:World)(hD:Yk S w vd ns)(hL:qC S w vl l)(hn:xn l) :
 Calls Tryz.prog 108 #[.agg #[vd],vl] w fun e w'=>∃ v,e=.returned (.tuple #[v,.int .i64 (ZM ns l)])∧zr (fun b=>w.heap.size≤b) w' v (QL ns l)∧Below w.heap.size w w':=by
 have hb1:=Below.alloc1 w (.cells #[vd] 60);have hx1:=heap_alloc_new w (.cells #[vd] 60);have hz1:(w.alloc (.cells #[vd] 60)).heap.size=w.heap.size+1:=by simp
 have HG:Hid _:=(hD.later hb1).good;have HD:Hid (Yk S w vd ns):=hD;have HL:Hid (qC S w vl l):=hL;have HPG:Hid (∀ W,Below w.heap.size w W→Calls Tryz.prog 27 #[vl] W fun e w'=>e=.returned (.bool (yj l))∧Below W.heap.size W w'):=fun W h=>Xj S vl l W (hL.later h) hn
 have HSD:Hid (QL ns l=if qG ns&&yj l then VK ns l else []):=rfl
 have HSE:Hid (ZM ns l=if qG ns&&yj l then 0 else 1):=rfl
 obtain ⟨na,nc,rfl,hnl,hnm⟩:=hD.nodes.shape;obtain ⟨la,lc,rfl,hll,hlm⟩:=hL.shape;unfold maxLen at hnm hlm
 clear hD hL hn
 go_enter Tryz.func108,Tryz.ntmps108
 go_wp2_with fail;refine (Calls.mono HG.out ?_);rintro e w2 ⟨rfl,hb2⟩;have hx2:=(hb2.block _ (qh hx1)).trans hx1;have hB2:Below w.heap.size w w2:=hb1.trans (hb2.mono hb1.size);have hz2:w.heap.size<w2.heap.size:=qh hx2;have d2:w2.cell? ⟨w.heap.size,0,none⟩=some (.slice na ns.length nc):=by rw[cH9 hx2];rfl
 clear HG hb1 hx1 hz1 hb2;obtain ⟨q,hq⟩:∃ q,qG ns=q:=⟨_,rfl⟩;rw[hq];cases q with
 | false =>
   have HSD2:Hid (QL ns l=[]):=by show _=_;rw[HSD.out,hq];rfl
   have HSE2:Hid (ZM ns l=1):=by show _=_;rw[HSE.out,hq];rfl
   clear HSD HSE hq;go_wp2_with fail
   go_ret2
   exact ⟨_,by rw[HSE2.out];rfl,by rw[HSD2.out];exact zr.nil,hB2⟩
 | true =>
   have HGD:Hid (qG ns=true):=hq;have HSD2:Hid (QL ns l=if yj l then VK ns l else []):=by show _=_;rw[HSD.out,hq];rfl
   have HSE2:Hid (ZM ns l=if yj l then 0 else 1):=by show _=_;rw[HSE.out,hq];rfl
   have h80:ns.length≤80:=by
    simp only[qG,Bool.and_eq_true,decide_eq_true_eq]at hq
    exact hq.1.1
   clear HSD HSE hq;go_wp2_with fail;refine (Calls.mono (HPG.out _ hB2) ?_);rintro e w3 ⟨rfl,hb3⟩;have hx3:=(hb3.block _ (qh hx2)).trans hx2;have hB3:Below w.heap.size w w3:=hB2.trans (hb3.mono hB2.size);have hz3:w.heap.size<w3.heap.size:=qh hx3;have d3:w3.cell? ⟨w.heap.size,0,none⟩=some (.slice na ns.length nc):=by rw[cH9 hx3];rfl
   clear hx2 hB2 hz2 d2 hb3;obtain ⟨q2,hq2⟩:∃ q,yj l=q:=⟨_,rfl⟩;rw[hq2];cases q2 with
   | false =>
     have HSD3:Hid (QL ns l=[]):=by show _=_;rw[HSD2.out,hq2];rfl
     have HSE3:Hid (ZM ns l=1):=by show _=_;rw[HSE2.out,hq2];rfl
     clear HSD2 HSE2 hq2;go_wp2_with fail
     go_ret2
     exact ⟨_,by rw[HSE3.out];rfl,by rw[HSD3.out];exact zr.nil,hB3⟩
   | true =>
     have HSD3:Hid (QL ns l=VK ns l):=by show _=_;rw[HSD2.out,hq2];rfl
     have HSE3:Hid (ZM ns l=0):=by show _=_;rw[HSE2.out,hq2];rfl
     have hpl:=hq2;simp only[yj,Bool.and_eq_true,decide_eq_true_eq]at hpl
     have HST:Hid (∀ s∈l,0≤s.n):=by
      intro s hs;have:=List.all_eq_true.1 hpl.2 s hs;simp only[zg,Bool.and_eq_true,decide_eq_true_eq]at this
      exact this.1.1
     have hl1:1≤l.length:=hpl.1.1;have hl5:l.length≤5:=hpl.1.2;clear HSD2 HSE2 hq2 hpl;obtain ⟨s0,hs0⟩:∃ s,l[0]?=some s:=⟨l[0]'(by omega),by simp⟩
     obtain ⟨lb,lo,lc2,hlv,_,hlb,e0,e1⟩:=(HL.out.later hB3).at hs0
     injection hlv with hla _ hlc2
     subst hla hlc2
     have HL0:Hid (∃ r,l=s0::r):=by
      cases l with
      | nil=>simp at hs0
      | cons a r=>simp at hs0;subst hs0;exact ⟨r,rfl⟩
     have hbn:Below w3.heap.size w3 w3.drew:=(Below.refl _ _).drew
     have HC:Hid (∀ W,Below w3.heap.size w3 W→Below w3.heap.size w3 W∧W.cell? ⟨w.heap.size,0,none⟩=some (.slice na ns.length nc)∧W.cell? ⟨lb,lo,none⟩=some (.string s0.name)∧W.cell? ⟨lb,lo+1,none⟩=some (.int .i64 s0.n)):=by
      intro W h;refine ⟨h,?_,?_,?_⟩
      · rw[h.cell (p:=⟨w.heap.size,0,none⟩) hz3];exact d3
      · rw[h.cell (p:=⟨lb,lo,none⟩) hlb];simpa using e0
      · rw[h.cell (p:=⟨lb,lo+1,none⟩) hlb];simpa using e1
     have hba:Below w3.heap.size w3 (w3.alloc (.cells #[.int .i64 0] 3)).drew:=((Below.refl _ w3).alloc (nR9 _) _).drew
     have HM:Hid (Calls Tryz.prog 141 #[.slice na ns.length nc,.slice (some ⟨w3.heap.size,0,none⟩) 1 1,.agg #[.string s0.name,.int .i64 s0.n]] (w3.alloc (.cells #[.int .i64 0] 3)).drew fun e w'=>∃ v,e=.returned v∧zr (fun b=>w.heap.size<b) w' v (ym ns [0] s0)∧Below w3.heap.size w3 w'):=by
      have hW:Below w.heap.size w (w3.alloc (.cells #[.int .i64 0] 3)).drew:=hB3.trans (hba.mono hB3.size);have hN:=((HD.out.nodes.later hW).carry (S':=fun b=>S b∨b=w3.heap.size) fun b hb=>⟨Or.inl hb,rfl⟩)
      have hI:zr (fun b=>S b∨b=w3.heap.size) (w3.alloc (.cells #[.int .i64 0] 3)).drew (.slice (some ⟨w3.heap.size,0,none⟩) 1 1) [0]:=by
       refine ⟨_,1,rfl,nR9 _,by unfold maxLen;omega,fun _=>⟨w3.heap.size,0,rfl,Or.inr rfl,fun i x hx=>?_⟩⟩
       match i,hx with
       | 0,hx=>simp at hx;subst hx;exact (by simp:(w3.alloc (.cells #[.int .i64 0] 3)).cell? ⟨w3.heap.size,0+0,none⟩=some (.int .i64 0))
      refine (Y7 _ _ _ ns [0] s0 _ hN hI (fun u hu=>?_) (HST.out s0 (List.mem_of_getElem? hs0)) (by simp)).mono ?_
      · rw[List.mem_singleton]at hu
        obtain ⟨x,hx,_⟩:=YU HGD.out;have:=qj hx;omega
      · rintro e w' ⟨v, rfl, hI', hb'⟩;have hsz:(w3.alloc (.cells #[.int .i64 0] 3)).drew.heap.size=w3.heap.size+1:=by show (w3.alloc (.cells #[.int .i64 0] 3)).heap.size=_;simp
        rw[hsz]at hI' hb'
        refine ⟨v,rfl,hI'.carry fun b hb=>⟨by omega,rfl⟩,?_⟩
        exact hba.trans (hb'.mono (by omega))
     have hl1i:(0:Int)<(l.length:Int):=by omega
     have hl0:0<l.length:=by omega
     have hlne:¬ l=[]:=by intro e;rw[e]at hl0;simp at hl0
     clear e0 e1 hs0;go_wp2_with fail
     go_region_held3 (fun W:World=>Below w3.heap.size w3 W∧W.cell? ⟨w.heap.size,0,none⟩=some (.slice na ns.length nc)∧W.cell? ⟨lb,lo,none⟩=some (.string s0.name)∧W.cell? ⟨lb,lo+1,none⟩=some (.int .i64 s0.n))
      (first
       | with_reducible exact HC.out _ hbn
       | with_reducible exact HC.out _ hba)
      (first|(go_at_call 141;refine (Calls.mono HM.out ?_);rintro e w4 ⟨v4,rfl,hI4,hbm⟩;obtain ⟨va4,vc4,rfl,_,_⟩:=hI4.shape;have hbn:=hbm))
     have hBw4:Below w.heap.size w w4:=hB3.trans (hbn.mono hB3.size);obtain ⟨H0,hH0⟩:∃ H0,ym ns [0] s0=H0:=⟨_,rfl⟩;have HH0:Hid (Lev ns 1 H0):=by show Lev ns 1 H0;rw[←hH0];exact Ve HGD.out s0
     have HSP:Hid (VK ns l=Yq ns (l.drop 1) H0):=by
      obtain ⟨r,rfl⟩:=HL0.out
      show Yq ns r (ym ns [0] s0)=_
      rw[hH0];rfl
     rw[hH0]at hI4 ⊢
     have HI4:Hid (zr (fun b=>w.heap.size<b) w4 (.slice va4 H0.length vc4) H0):=hI4
     have hb4:=hbn;have HLR:Hid ((l.drop 1).length=l.length-1):=List.length_drop;have HC4:Hid (∀ W,Below w3.heap.size w3 W→W.cell? ⟨w.heap.size,0,none⟩=some (.slice na ns.length nc)):=fun W h=>(HC.out W h).2.1
     clear hH0 HM HC hbm hI4 hba;go_wp2_with fail
     all_goals
      go_loopg [30,6] (l.length-1) (fun g j h wr=>∃ (i:Nat) (X:List Int),i+g=l.length-1∧j=.int .i64 (i:Int)∧X=Yq ns ((l.drop 1).take i) H0∧zr (fun b=>w.heap.size<b) wr h X∧Below w3.heap.size w3 wr)
      case atStart => exact ⟨0,H0,by omega,rfl,rfl,HI4.out,hb4⟩
      case round =>
       rename World=>wo
       obtain ⟨i,X,hi,rfl,hX,hIX,hBX⟩:=hrel;have hBwr:Below w.heap.size w wo:=hB3.trans (hBX.mono hB3.size)
       by_cases hil:i<l.length-1
       · first
         | (exfalso;omega)
         | (obtain ⟨s, hs⟩ : ∃ s, l[i + 1]? = some s := ⟨l[i + 1]'(by omega), by simp⟩
            have HLev:Hid (Lev ns (1+i) X):=by
             have:=qbB HGD.out ((l.drop 1).take i) 1 H0 HH0.out;rw[List.length_take,HLR.out,Nat.min_eq_left (by omega),←hX]at this
             exact this
            have HXN:Hid (Yq ns ((l.drop 1).take (i+1)) H0=ZE ns X s):=by
             have e:(l.drop 1).take (i+1)=(l.drop 1).take i++[s]:=by
              rw[List.take_succ_eq_append_getElem (by rw[HLR.out];exact hil)]
              congr 2
              have:=hs;rw[List.getElem?_eq_getElem (by omega)]at this
              have:=Option.some.inj this;rw[List.getElem_drop];rw[←this]
              congr 1
              omega
             show _=_
             rw[e,qcC,←hX]
            obtain ⟨lb2,lo2,lc2,hlv,_,hlb2,e0,e1⟩:=(HL.out.later hBwr).at hs
            injection hlv with hla _ hlc2
            injection hla with hla
            injection hla with hla1 hla2
            subst hla1 hla2 hlc2;have e0':wo.cell? ⟨lb,lo+2+i*2,none⟩=some (.string s.name):=by rw[show lo+2+i*2=lo+(i+1)*2 by omega];exact e0
            have e1':wo.cell? ⟨lb,lo+2+i*2+1,none⟩=some (.int .i64 s.n):=by rw[show lo+2+i*2=lo+(i+1)*2 by omega];exact e1
            have hsn:=HST.out s (List.mem_of_getElem? hs);have hXl:X.length≤80:=Nat.le_trans (Yu HGD.out HLev.out) h80;obtain ⟨xa,xc,rfl,hxl,hxm⟩:=hIX.shape;unfold maxLen at hxm
            have HIX:Hid (zr (fun b=>w.heap.size<b) wo (.slice xa X.length xc) X):=hIX
            have hili:(i:Int)<((l.length-1:Nat):Int):=by omega
            have hb5:=Below.alloc1 wo (.cells #[.string s.name,.int .i64 s.n] 50);have hx5:=heap_alloc_new wo (.cells #[.string s.name,.int .i64 s.n] 50);have hz5:(wo.alloc (.cells #[.string s.name,.int .i64 s.n] 50)).heap.size=wo.heap.size+1:=by simp
            clear e0 e1 hs hX hIX;go_wp2_with fail
            generalize wo.alloc (.cells #[.string s.name,.int .i64 s.n] 50)=W5 at *
            have HZ5:Hid (W5.heap.size=wo.heap.size+1):=hz5;have hle5:wo.heap.size≤W5.heap.size:=by omega
            clear hz5
            go_loopg [36,9] X.length (fun g k o wr=>∃ (kk:Nat) (Y:List Int),kk+g=X.length∧k=.int .i64 (kk:Int)∧Y=ZE ns (X.take kk) s∧qZ W5.heap.size wr o Y∧Below W5.heap.size W5 wr)
            case atStart => exact ⟨0,[],by omega,rfl,rfl,qZ.nil _ _,Below.refl _ _⟩
            case round =>
             obtain ⟨kk,Y,hkk,rfl,hY,hIY,hBY⟩:=hrel;have hB5:Below wo.heap.size wo wr:=hb5.trans (hBY.mono hle5);have hBwx:Below w.heap.size w wr:=hBwr.trans (hB5.mono hBwr.size);have hB3x:Below w3.heap.size w3 wr:=hBX.trans (hB5.mono hBX.size);have hszx:=hBY.size
             by_cases hkl:kk<X.length
             · obtain ⟨u, hu⟩ : ∃ u, X[kk]? = some u := ⟨X[kk], by simp[hkl]⟩
               obtain ⟨m,x,rfl,hx,_⟩:=HLev.out.mem u (List.mem_of_getElem? hu);have hmn:=qj hx;obtain ⟨xb,xo,xc2,hxv,_,hxbw,e2⟩:=(HIX.out.later hB5).at hu
               injection hxv with hxa _ hxc2
               subst hxa hxc2;obtain ⟨b,o,cap,va,vk,hv,_,_,hSb,hbw,c0,c1,c2,c3,c4,hAt,hKi⟩:=(HD.out.nodes.later hBwx).at hx
               injection hv with hv1 _ hv2
               subst hv1 hv2;obtain ⟨ka,kc,rfl,hkl2,hkm⟩:=hKi.shape
               have HYN:Hid (ZE ns (X.take (kk+1)) s=Y++ym ns x.kids s):=by
                show _=_
                rw[qaF hu,←hY,j8 hx]
               have HYL:Hid (Y.length+(ym ns x.kids s).length≤80):=by
                show _≤_
                rw[←List.length_append,←HYN.out];exact Nat.le_trans (Yu HGD.out (Vd HGD.out (HLev.out.sub (List.take_sublist _ _)) s)) h80
               have hkidl:x.kids.length≤80:=by
                have:=(YS HD.out HGD.out m x hx).2.1;have h1:=qby HGD.out hx
                have h2:x.kids.length≤ns.length:=Yu HGD.out (d:=dp ns m+1) ⟨fun u hu=>by
                 obtain ⟨k,y,rfl,hjk,_,_,hy,hp⟩:=(y7 HGD.out hx).kids u hu;exact ⟨k,y,rfl,hy,qdk HGD.out hy hp hjk⟩,(y7 HGD.out hx).row⟩
                omega
               have HMC:Hid (∀ W,Below wr.heap.size wr W→Calls Tryz.prog 141 #[.slice (some ⟨b,o,none⟩) ns.length nc,.slice ka x.kids.length kc,.agg #[.string s.name,.int .i64 s.n]] W fun e w'=>∃ v,e=.returned v∧zr (fun b=>W.heap.size≤b) w' v (ym ns x.kids s)∧Below W.heap.size W w'):=by
                intro W h;exact Y7 S _ _ ns x.kids s W ((HD.out.nodes.later hBwx).later h) (hKi.later h) (qby HGD.out hx) hsn (by omega)
               have hbW5:b<W5.heap.size:=by
                have h1:=HD.out.here b hSb;have h2:=hBwr.size;have h3:=hb5.size;omega
               have hB35:Below w3.heap.size w3 W5:=hBX.trans (hb5.mono hBX.size);have c4':W5.cell? ⟨b,o+m*5+4,none⟩=some (.slice ka x.kids.length kc):=by rw[←hBY.cell (p:=⟨b,o+m*5+4,none⟩) hbW5];exact c4
               have HC:Hid (∀ W,Below W5.heap.size W5 W→Below W5.heap.size W5 W∧W.cell? ⟨w.heap.size,0,none⟩=some (.slice (some ⟨b,o,none⟩) ns.length nc)∧W.cell? ⟨b,o+m*5+4,none⟩=some (.slice ka x.kids.length kc)∧W.cell? ⟨wo.heap.size,0,none⟩=some (.string s.name)∧W.cell? ⟨wo.heap.size,1,none⟩=some (.int .i64 s.n)):=by
                intro W h;have h5:=(h.block _ (qh hx5)).trans hx5;refine ⟨h,HC4.out W (hB35.trans (h.mono hB35.size)),?_,?_,?_⟩
                · rw[h.cell (p:=⟨b,o+m*5+4,none⟩) hbW5];exact c4'
                · rw[cH9 h5];rfl
                · rw[cH9 h5];rfl
               obtain ⟨ya,yc,rfl,_,_⟩:=hIY.shape;have HIY:Hid (qZ W5.heap.size wr (.slice ya Y.length yc) Y):=hIY;have hkli:(kk:Int)<(X.length:Int):=by omega
               have hmi:(m:Int)<(ns.length:Int):=by omega
               have hbx:Below wr.heap.size wr wr.drew:=(Below.refl _ _).drew;have hbn:Below W5.heap.size W5 wr.drew:=hBY.drew;obtain ⟨Z,hZ⟩:∃ Z,ym ns x.kids s=Z:=⟨_,rfl⟩;rw[hZ]at HMC HYN HYL
               clear hu hx hY hIY hKi hAt c0 c1 c2 c3 hZ c4';go_wp2_with fail
               go_region_held3 (fun W:World=>Below W5.heap.size W5 W∧W.cell? ⟨w.heap.size,0,none⟩=some (.slice (some ⟨b,o,none⟩) ns.length nc)∧W.cell? ⟨b,o+m*5+4,none⟩=some (.slice ka x.kids.length kc)∧W.cell? ⟨wo.heap.size,0,none⟩=some (.string s.name)∧W.cell? ⟨wo.heap.size,1,none⟩=some (.int .i64 s.n))
                (with_reducible exact HC.out _ hbn)
                (first
                 | (go_at_call 141;refine (Calls.mono (HMC.out _ hbx) ?_);rintro e w7 ⟨v7,rfl,hI7,hb7⟩;obtain ⟨va7,vc7,rfl,_,_⟩:=hI7.shape;have hbx:=hbx.trans (hb7.mono hbx.size);have hbn:=hBY.trans (hbx.mono hszx))
                 | (refine qcH (by rfl) (.tmp 40) (.tmp 50) (by rfl) W5.heap.size (.slice ya Y.length yc) Y (by simp[Act.eval]) (HIY.out.later hbx) _ (.slice va7 Z.length vc7) Z (by simp[Act.eval]) hI7 (by have:=HYL.out;omega) hbn.size ?_;intro v8 w8 hR8 hg8;obtain ⟨va8,vc8,rfl,_,_⟩:=hR8.shape;have hbn:=hbn.grown hg8 hbn.size (fun z hz=>(HIY.out.lt z hz).1)))
               clear c4;go_wp2_with fail
               go_roundg (X.length-(kk+1))
               case measure => omega
               case rel => exact ⟨kk+1,Y++Z,by omega,by go_num,HYN.out.symm,by rw[List.length_append]at hR8;exact hR8,hbn⟩
             · have hkk2 : kk = X.length := by omega
               subst hkk2;rw[List.take_length]at hY
               have hkli:¬ ((X.length:Int)<(X.length:Int)):=by omega
               obtain ⟨ya,yc,rfl,_,_⟩:=hIY.shape;have hR:=hIY.ints;have hY2:Yq ns ((l.drop 1).take (i+1)) H0=Y:=by rw[HXN.out,hY]
               have HY2:Hid (Yq ns ((l.drop 1).take (i+1)) H0=Y):=hY2
               have h5w:w.heap.size<W5.heap.size:=by
                have h1:=hBwr.size;have h2:=HZ5.out;omega
               clear hIY hY hY2;go_wp2_with fail
               go_roundg (l.length-1-(i+1))
               case measure => omega
               case rel => exact ⟨i+1,Y,by omega,by go_num,HY2.out.symm,hR.carry fun b hb=>⟨by omega,rfl⟩,hB3x⟩)
       · have hili : ¬ ((i : Int) < ((l.length - 1 : Nat) : Int)) := by omega
         obtain ⟨xa,xc,rfl,hxl,hxm⟩:=hIX.shape
         have hXe:VK ns l=X:=by
          rw[HSP.out,hX,List.take_of_length_le (by rw[HLR.out];omega)]
         have HX:Hid (VK ns l=X):=hXe;clear hX hXe;go_wp2_with fail
         go_ret2
         exact ⟨_,by rw[HSE3.out];rfl,by rw[HSD3.out,HX.out];exact hIX.carry fun b hb=>⟨by omega,rfl⟩,hBwr⟩
end
end Go.Proofs.YtfplhcicbbhljaaGreatDoor
