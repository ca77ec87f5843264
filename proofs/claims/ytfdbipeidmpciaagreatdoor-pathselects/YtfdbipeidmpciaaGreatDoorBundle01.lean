/- Bundled: Clone Own Ahead Names. What each says stands ahead of it. -/
import Derived.Test.YtfdbipeidmpciaaGreatDoorBundle00
import Derived.Test.YtfdbipeidmpciaaGreatDoorChecked
import Derived.Lib.SliceRun
import Derived.Deep.LoopGhost
namespace Go.Proofs.YtfdbipeidmpciaaGreatDoor
open Go.ChangeShapes Go.WideShapes Go.ChangeAt Go.RowKit
set_option maxRecDepth 100000
theorem attrInfo:(Tryz.prog.info? 62).map (fun i=>(i.zero,i.size,i.bytes))=some (some (.agg #[.string ⟨#[]⟩,.string ⟨#[]⟩]),2,32):=by kernel_rfl
theorem Qr (S:Nat→Prop)(v:Value)(l:List (ByteArray × ByteArray))(w:World)(h:qh S w v l)(hl:l.length≤4398046511104) :
 Calls Tryz.prog 34 #[v] w fun e w'=>∃ v',e=.returned v'∧qh (qP w.heap.size 62 w') w' v' l∧Below w.heap.size w w':=by
 obtain ⟨a,cap,rfl,h2,h3,h4⟩:=h;obtain ⟨i0,hi,hz0,hz1,hz2⟩:=info_parts attrInfo;have q27:∀ (w:World) (a:Option Addr) (n c n' c':Nat),(binOp .eql 36 (.slice a n c) (.slice none n' c')).run Tryz.prog w=.ok (.bool a.isNone) w:=fun w a n c n' c'=>Lib.run_eql_slice_nil w _ _ a n c n' c' Tryz.underlying36
 cases a with
 | none =>
   have hn:l=[]:=by
    apply Classical.byContradiction;intro hne
    obtain ⟨b,o,ha,_⟩:=h4 hne;cases ha
   subst hn
   go_enter Tryz.func34,Tryz.ntmps34
   go_wp2;go_ret;exact ⟨_,rfl,⟨none,0,rfl,Nat.le_refl _,Nat.zero_le _,fun hne=>absurd rfl hne⟩,Below.refl _ _⟩
 | some ad =>
   have hcells:∀ j u,(attrCells l)[j]?=some u→w.cell? (ad.add j)=some u:=by
    by_cases hne:l=[]
    · subst hne;intro j u hj;simp[attrCells]at hj
    · obtain ⟨b, o, ha, _, hc⟩ := h4 hne;cases ha;intro j u hj;rw[Addr.add_lit];exact qh.cells hc j u hj
   have A:Hid (∀ j u,(attrCells l)[j]?=some u→w.cell? (ad.add j)=some u):=hcells;clear hcells h4
   go_enter Tryz.func34,Tryz.ntmps34
   go_wp2_with (at_builtin;refine wpList_append_own _ rfl _ _ 36 rfl w.heap.size 62 i0 _ 2 32 Tryz.underlying36 hi hz0 hz1 hz2 rfl (by decide) _ _ _ rfl (World.ownsRow_made w #[] 0 (Nat.le_refl _) (Nat.zero_le _) (by simp)) ad l.length cap (attrCells l) rfl ?qc1 ?qc2 ?qc3 ?qc4 ?qc5 ?qc6 ?_)
   case qc1 => exact qX l
   case qc2 =>
    intro j u hj;exact Lib.cell?_alloc_some _ (A.out j u hj)
   case qc3 => exact zz l
   case qc4 => unfold maxLen;omega
   case qc5 => omega
   case qc6 => simp
   intro v' w1 hown hgrow hnil;go_wp2;go_ret;refine ⟨v',rfl,qh.of_owns (by simpa using hown),?_⟩
   exact ((Below.refl _ w).alloc (Nat.le_refl _) _).grown hgrow (by simp) (by intro k hk;simp[Value.ownBlock]at hk;omega)
section
theorem qh.shape {S:Nat→Prop}{w:World}{v:Value}{l:List (ByteArray × ByteArray)}(h:qh S w v l):∃ a cap,v=.slice a l.length cap :=
 ⟨_,_,h.choose_spec.choose_spec.1⟩
attribute [local go_sem] qf
end
def ahead:List Tr→Nat
 | []=>0
 | t::r=>if t.text then ahead r+1 else 0
def qG (c:UInt8):Bool:=97≤c.toNat&&c.toNat≤122
def zl (c:UInt8):Bool:=c.toNat==10||(32≤c.toNat&&c.toNat≤126)
def qB (s:ByteArray):Bool:=decide (1≤s.size)&&decide (s.size≤8)&&s.data.toList.all qG
def qU (s:ByteArray):Bool:=decide (s.size≤40)&&s.data.toList.all zl
theorem QT (s:ByteArray)(k:Nat)(h:k<s.size):s.data.toList.take (k+1)=s.data.toList.take k++[s[k]]:=by
 rw[List.take_succ_eq_append_getElem (by simpa using h)];rfl
theorem yl {p:UInt8→Bool}{s:ByteArray}{k:Nat}(h:k<s.size)(ha:(s.data.toList.take k).all p=true)(hp:p s[k]=true):(s.data.toList.take (k+1)).all p=true:=by
 rw[QT s k h,List.all_append,ha];simp[hp]
theorem zO {p:UInt8→Bool}{s:ByteArray}{k:Nat}(h:k<s.size)(hp:p s[k]=false):s.data.toList.all p=false:=by
 rw[List.all_eq_false];exact ⟨s[k],by show s.data[k]∈_;simp,by simp[hp]⟩
theorem qZ (s:ByteArray)(w:World)(hs:s.size≤maxLen) :
 Calls Tryz.prog 27 #[.string s] w fun e w'=>e=.returned (.bool (qB s))∧w'=w:=by
 unfold maxLen at hs
 by_cases h1:s.size<1
 · go_enter Tryz.func27, Tryz.ntmps27
   go_wp2;go_ret;exact ⟨by simp[qB];omega,rfl⟩
 by_cases h8:8<s.size
 · have h1' : 1 ≤ s.size := by omega
   go_enter Tryz.func27,Tryz.ntmps27
   go_wp2;go_ret;exact ⟨by simp[qB];omega,rfl⟩
 have h1':1≤s.size:=by omega
 have h8':s.size≤8:=by omega
 clear h1 h8
 go_enter Tryz.func27,Tryz.ntmps27
 go_wp2
 go_loop [14] (fun i=>∃ k:Nat,k≤s.size∧i=.int .i64 k∧(s.data.toList.take k).all qG=true) (fun i=>s.size-(intOf i).toNat)
 case atStart => exact ⟨0,Nat.zero_le _,rfl,by simp⟩
 case round =>
  obtain ⟨k,hk,rfl,hall⟩:=hrel;have HA:Hid ((s.data.toList.take k).all qG=true):=hall;clear hall
  by_cases hlt:k<s.size
  · by_cases ha : (s[k].toNat : Int) < 97
    · have HP : Hid (qG s[k] = false) := by show _ = _;simp[qG];omega
      go_wp2;go_ret;exact ⟨by simp[qB,zO hlt HP.out],rfl⟩
    · by_cases hb : 122 < (s[k].toNat : Int)
      · have HP : Hid (qG s[k] = false) := by show _ = _;simp[qG];omega
        go_wp2;go_ret;exact ⟨by simp[qB,zO hlt HP.out],rfl⟩
      · have HP : Hid (qG s[k] = true) := by show _ = _;simp[qG];omega
        go_wp2;exact ⟨⟨k+1,by omega,by go_num,yl hlt HA.out HP.out⟩,by simp[intOf];omega⟩
  · go_wp2;go_ret;have:=HA.out;rw[List.take_of_length_le (by simp;omega)]at this
    exact ⟨by simp[qB,this,h1',h8'],rfl⟩
theorem q6 (s:ByteArray)(w:World)(hs:s.size≤maxLen) :
 Calls Tryz.prog 75 #[.string s] w fun e w'=>e=.returned (.bool (qU s))∧w'=w:=by
 unfold maxLen at hs
 by_cases h8:40<s.size
 · go_enter Tryz.func75, Tryz.ntmps75
   go_wp2;go_ret;exact ⟨by simp[qU];omega,rfl⟩
 have h8':s.size≤40:=by omega
 clear h8
 go_enter Tryz.func75,Tryz.ntmps75
 go_wp2
 go_loop [9] (fun i=>∃ k:Nat,k≤s.size∧i=.int .i64 k∧(s.data.toList.take k).all zl=true) (fun i=>s.size-(intOf i).toNat)
 case atStart => exact ⟨0,Nat.zero_le _,rfl,by simp⟩
 case round =>
  obtain ⟨k,hk,rfl,hall⟩:=hrel;have HA:Hid ((s.data.toList.take k).all zl=true):=hall;clear hall
  by_cases hlt:k<s.size
  · by_cases h10 : s[k].toNat = 10
    · have HP : Hid (zl s[k] = true) := by show _ = _;simp[zl, h10]
      have hb:((s[k].toNat:Int) != 10)=false:=by simp;omega
      clear h10;go_wp2;exact ⟨⟨k+1,by omega,by go_num,yl hlt HA.out HP.out⟩,by simp[intOf];omega⟩
    · have hb : ((s[k].toNat : Int) != 10) = true := by simp;omega
      by_cases ha:(s[k].toNat:Int)<32
      · have HP : Hid (zl s[k] = false) := by show _ = _;simp[zl, h10];omega
        clear h10;go_wp2;go_ret;exact ⟨by simp[qU,zO hlt HP.out],rfl⟩
      · by_cases hb' : 126 < (s[k].toNat : Int)
        · have HP : Hid (zl s[k] = false) := by show _ = _;simp[zl, h10];omega
          clear h10;go_wp2;go_ret;exact ⟨by simp[qU,zO hlt HP.out],rfl⟩
        · have HP : Hid (zl s[k] = true) := by show _ = _;simp[zl, h10];omega
          clear h10;go_wp2;exact ⟨⟨k+1,by omega,by go_num,yl hlt HA.out HP.out⟩,by simp[intOf];omega⟩
  · go_wp2;go_ret;have:=HA.out;rw[List.take_of_length_le (by simp;omega)]at this
    exact ⟨by simp[qU,this,h8'],rfl⟩
end Go.Proofs.YtfdbipeidmpciaaGreatDoor
