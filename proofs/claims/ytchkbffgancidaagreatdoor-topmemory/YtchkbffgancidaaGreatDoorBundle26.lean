/- Bundled: LineM LineK. What each says stands ahead of it. -/
import Derived.Test.YtchkbffgancidaaGreatDoorBundle20
import Derived.Test.YtchkbffgancidaaGreatDoorBundle25
namespace Go.Proofs.YtchkbffgancidaaGreatDoor
open Go.RowKit
set_option maxRecDepth 100000
def wordsL:List (List UInt8):=[[102,105,114,115,116],[108,97,115,116],[98,101,102,111,114,101],[97,102,116,101,114],[100,101,108,101,116,101],[114,101,112,108,97,99,101],[118,97,108,117,101],[114,101,110,97,109,101],[115,101,116],[100,114,111,112]]
def kindAt:List (List UInt8)→Int→List UInt8→Int
 | [],_,_=>0
 | x::r,k,w=>if x=w then k else kindAt r (k+1) w
def yH (w:List UInt8):Int:=kindAt wordsL 1 w
def noOp:Opn:=⟨0,0,[],⟨#[]⟩,⟨#[]⟩⟩
def qq (k:Int)(said:List UInt8):Opn × Int :=
 if k=1∨k=2∨k=3∨k=4∨k=6 then (⟨k,0,(qN said).1,⟨#[]⟩,⟨#[]⟩⟩,(qN said).2)
 else if k=7 then (⟨k,0,[],⟨#[]⟩,qc (zI said).1⟩,(zI said).2)
 else if k=8∨k=10 then (⟨k,0,[],qc said,⟨#[]⟩⟩,0)
 else if k=9 then
  (if (Lib.cut said [61]).2.2 then (⟨k,0,[],qc (Lib.cut said [61]).1,qc (zI (Lib.cut said [61]).2.1).1⟩,(zI (Lib.cut said [61]).2.1).2) else (⟨k,0,[],⟨#[]⟩,⟨#[]⟩⟩,1))
 else (⟨k,0,[],⟨#[]⟩,⟨#[]⟩⟩,0)
def q9 (s:List UInt8):List UInt8:=(Lib.cut s [32]).1
def zv (s:List UInt8):List UInt8:=(Lib.cut s [32]).2.1
def zD (s:List UInt8):List UInt8:=(Lib.cut (zv s) [32]).1
def zR (s:List UInt8):List UInt8:=(Lib.cut (zv s) [32]).2.1
def Zg (s:List UInt8):Bool:=(Lib.cut (zv s) [32]).2.2
def qT (s:List UInt8):Opn × List St × Int :=
 if 2500<s.length then (noOp,[],1)
 else if decide (yH (q9 s)=0)||(Zg s==decide (yH (q9 s)=5)) then (noOp,[],1)
 else if yE (qc (zD s))≠0 then (noOp,[],yE (qc (zD s)))
 else if (qq (yH (q9 s)) (zR s)).2≠0 then (noOp,[],(qq (yH (q9 s)) (zR s)).2)
 else ((qq (yH (q9 s)) (zR s)).1,yb (qc (zD s)),0)
theorem jD (c:UInt8)(p:List UInt8):(Lib.cut p [c]).1.length≤p.length∧(Lib.cut p [c]).2.1.length≤p.length:=by
 rcases JJ c p with ⟨_,hc⟩|⟨a,b,rfl,_,hc⟩
 · rw[hc];simp
 · rw[hc];simp;omega
theorem Vu (w:List UInt8):0≤yH w∧yH w≤10:=by
 have key:∀ (l:List (List UInt8)) (k:Int),0≤k→0≤kindAt l k w∧kindAt l k w≤k+l.length:=by
  intro l
  induction l with
  | nil=>intro k hk;simp[kindAt];omega
  | cons x r ih =>
    intro k hk;unfold kindAt
    split
    · simp;omega
    · have:=ih (k+1) (by omega);simp only[List.length_cons];omega
 have h:=key wordsL 1 (by omega)
 have e:wordsL.length=10:=rfl;unfold yH;refine ⟨h.1,?_⟩
 have key2:∀ (l:List (List UInt8)) (k:Int),0≤k→kindAt l k w=0∨kindAt l k w<k+l.length:=by
  intro l
  induction l with
  | nil=>intro k _;exact Or.inl rfl
  | cons x r ih =>
    intro k hk;unfold kindAt
    split
    · right;simp;omega
    · rcases ih (k + 1) (by omega) with h | h
      · exact Or.inl h
      · right;simp only[List.length_cons];omega
 rcases key2 wordsL 1 (by omega) with h|h<;>omega
end Go.Proofs.YtchkbffgancidaaGreatDoor
namespace Go.Proofs.YtchkbffgancidaaGreatDoor
open Go.ChangeShapes Go.WideShapes Go.ChangeAt Go.RowKit
set_option maxRecDepth 100000
section
attribute [local go_sem] qd
def JA (w:World):Prop:=w.cell? ⟨0,0,none⟩=some (.string ⟨#[102,105,114,115,116]⟩)∧w.cell? ⟨0,1,none⟩=some (.string ⟨#[108,97,115,116]⟩)∧w.cell? ⟨0,2,none⟩=some (.string ⟨#[98,101,102,111,114,101]⟩)∧w.cell? ⟨0,3,none⟩=some (.string ⟨#[97,102,116,101,114]⟩)∧w.cell? ⟨0,4,none⟩=some (.string ⟨#[100,101,108,101,116,101]⟩)∧w.cell? ⟨0,5,none⟩=some (.string ⟨#[114,101,112,108,97,99,101]⟩)∧w.cell? ⟨0,6,none⟩=some (.string ⟨#[118,97,108,117,101]⟩)∧w.cell? ⟨0,7,none⟩=some (.string ⟨#[114,101,110,97,109,101]⟩)∧w.cell? ⟨0,8,none⟩=some (.string ⟨#[115,101,116]⟩)∧w.cell? ⟨0,9,none⟩=some (.string ⟨#[100,114,111,112]⟩)
structure yU (w:World):Prop where
 marks:qO w
 path:Xi w
 words:JA w
theorem JA.later {w w':World}(h:JA w)(hb:Below w.heap.size w w'):JA w':=by
 obtain ⟨h0,h1,h2,h3,h4,h5,h6,h7,h8,h9⟩:=h;have hl:=World.block_lt_of_cell? w _ h0;exact ⟨(hb.cell (p:=⟨0,0,none⟩) hl).trans h0,(hb.cell (p:=⟨0,1,none⟩) hl).trans h1,(hb.cell (p:=⟨0,2,none⟩) hl).trans h2,(hb.cell (p:=⟨0,3,none⟩) hl).trans h3,(hb.cell (p:=⟨0,4,none⟩) hl).trans h4,(hb.cell (p:=⟨0,5,none⟩) hl).trans h5,(hb.cell (p:=⟨0,6,none⟩) hl).trans h6,(hb.cell (p:=⟨0,7,none⟩) hl).trans h7,(hb.cell (p:=⟨0,8,none⟩) hl).trans h8,(hb.cell (p:=⟨0,9,none⟩) hl).trans h9⟩
theorem yU.later {w w':World}(h:yU w)(hb:Below w.heap.size w w'):yU w':=⟨h.marks.later hb h.marks.lt,h.path.later hb,h.words.later hb⟩
theorem qcj (k:Nat)(b:ByteArray)(h:(#[.string ⟨#[102,105,114,115,116]⟩,.string ⟨#[108,97,115,116]⟩,.string ⟨#[98,101,102,111,114,101]⟩,.string ⟨#[97,102,116,101,114]⟩,.string ⟨#[100,101,108,101,116,101]⟩,.string ⟨#[114,101,112,108,97,99,101]⟩,.string ⟨#[118,97,108,117,101]⟩,.string ⟨#[114,101,110,97,109,101]⟩,.string ⟨#[115,101,116]⟩,.string ⟨#[100,114,111,112]⟩]:Array Value)[k]?=some (.string b))(hk:k<10)(w:World) :
 (Instr.index 161 (.agg #[.string ⟨#[102,105,114,115,116]⟩,.string ⟨#[108,97,115,116]⟩,.string ⟨#[98,101,102,111,114,101]⟩,.string ⟨#[97,102,116,101,114]⟩,.string ⟨#[100,101,108,101,116,101]⟩,.string ⟨#[114,101,112,108,97,99,101]⟩,.string ⟨#[118,97,108,117,101]⟩,.string ⟨#[114,101,110,97,109,101]⟩,.string ⟨#[115,101,116]⟩,.string ⟨#[100,114,111,112]⟩]) (.int .i64 (k:Int))).run Tryz.prog w=.ok (.string b) w:=by
 rcases (by omega:k=0∨k=1∨k=2∨k=3∨k=4∨k=5∨k=6∨k=7∨k=8∨k=9) with rfl|rfl|rfl|rfl|rfl|rfl|rfl|rfl|rfl|rfl<;>(cases h;rfl)
theorem qd5 (k:Nat)(x:List UInt8)(h:wordsL[k]?=some x):(#[.string ⟨#[102,105,114,115,116]⟩,.string ⟨#[108,97,115,116]⟩,.string ⟨#[98,101,102,111,114,101]⟩,.string ⟨#[97,102,116,101,114]⟩,.string ⟨#[100,101,108,101,116,101]⟩,.string ⟨#[114,101,112,108,97,99,101]⟩,.string ⟨#[118,97,108,117,101]⟩,.string ⟨#[114,101,110,97,109,101]⟩,.string ⟨#[115,101,116]⟩,.string ⟨#[100,114,111,112]⟩]:Array Value)[k]?=some (.string (qc x)):=by
 have hk:=qh h;have hk2:k<10:=hk
 rcases (by omega:k=0∨k=1∨k=2∨k=3∨k=4∨k=5∨k=6∨k=7∨k=8∨k=9) with rfl|rfl|rfl|rfl|rfl|rfl|rfl|rfl|rfl|rfl<;>(cases h;rfl)
set_option maxHeartbeats 1000000 in
theorem Vt (wd:ByteArray)(w:World)(hW:JA w) :
 Calls Tryz.prog 55 #[.string wd] w fun e w'=>e=.returned (.int .i64 (yH wd.data.toList))∧w'=w:=by
 obtain ⟨h0,h1,h2,h3,h4,h5,h6,h7,h8,h9⟩:=hW
 go_enter Tryz.func55,Tryz.ntmps55
 go_wp2_with fail;clear h0 h1 h2 h3 h4 h5 h6 h7 h8 h9
 go_loopg [6] 10 (fun g i wr=>∃ k:Nat,k+g=10∧i=.int .i64 k∧kindAt (wordsL.drop k) (k+1) wd.data.toList=yH wd.data.toList∧wr=w)
 case atStart => exact ⟨0,by omega,rfl,rfl,rfl⟩
 case round =>
  obtain ⟨k,hk,rfl,hkd,rfl⟩:=hrel;have HKD:Hid _:=hkd;clear hkd
  by_cases hlt:k<10
  · have hlti : (k : Int) < 10 := by omega
    obtain ⟨x,hx⟩:∃ x,wordsL[k]?=some x:=⟨wordsL[k]'(by show k<10;omega),by simp⟩
    have hix:=qcj k (qc x) (qd5 k x hx) hlt
    have hdr:wordsL.drop k=x::wordsL.drop (k+1):=by
     rw[List.drop_eq_getElem_cons (by show k<10;omega)];congr 1
     have hk10:k<wordsL.length:=hlt
     simpa[hk10] using hx
    rw[hdr]at HKD
    have hwr:IntKind.i64.wrap (1+(k:Int))=(k:Int)+1:=by rw[IntWalk.i64_in _ (by omega)];omega
    have hq:((qc x).toList==wd.toList)=decide (x=wd.data.toList):=by
     rw[yM,ByteArray.toList_eq]
     by_cases h:x=wd.data.toList<;>simp[h]
    clear hx hdr
    by_cases hxe:x=wd.data.toList
    · have hqt : ((qc x).toList == wd.toList) = true := by rw[hq];simpa using hxe
      have HE:Hid (yH wd.data.toList=(k:Int)+1):=by
       show _=_
       rw[←HKD.out,kindAt,if_pos hxe]
      clear hq hxe;go_wp2_with fail;go_ret;exact ⟨by rw[HE.out];rfl,rfl⟩
    · have hqt : ((qc x).toList == wd.toList) = false := by rw[hq];simpa using hxe
      have HE:Hid (kindAt (wordsL.drop (k+1)) ((k:Int)+1+1) wd.data.toList=yH wd.data.toList):=by
       show _=_
       rw[←HKD.out,kindAt,if_neg hxe]
      clear hq hxe;go_wp2_with fail
      go_roundg (10-(k+1))
      case measure => omega
      case rel => exact ⟨k+1,by omega,by go_num,by have:=HE.out;simpa using this,rfl⟩
  · have hlti : ¬ ((k : Int) < 10) := by omega
    have HE:Hid (yH wd.data.toList=0):=by
     show _=_
     rw[←HKD.out,List.drop_eq_nil_of_le (by show 10≤k;omega)]
     rfl
    go_wp2_with fail;go_ret;exact ⟨by rw[HE.out];rfl,rfl⟩
end
end Go.Proofs.YtchkbffgancidaaGreatDoor
