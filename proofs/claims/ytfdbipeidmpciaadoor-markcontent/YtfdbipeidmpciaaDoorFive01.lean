/- Bundled: Names Ahead. What each says stands ahead of it. -/
import Derived.Test.YtfdbipeidmpciaaDoorFive00
import Derived.Test.YtfdbipeidmpciaaDoorChecked
namespace Go.Proofs.YtfdbipeidmpciaaDoor
open Go.ChangeShapes Go.WideShapes Go.ChangeAt Go.RowKit
set_option maxRecDepth 100000
def ql (c:UInt8):Bool:=97≤c.toNat&&c.toNat≤122
def sign (c:UInt8):Bool:=c.toNat==10||(32≤c.toNat&&c.toNat≤126)
def qN (s:ByteArray):Bool:=decide (1≤s.size)&&decide (s.size≤8)&&s.data.toList.all ql
def qO (s:ByteArray):Bool:=decide (s.size≤40)&&s.data.toList.all sign
theorem JT (s:ByteArray)(k:Nat)(h:k<s.size):s.data.toList.take (k+1)=s.data.toList.take k++[s[k]]:=by
 rw[List.take_succ_eq_append_getElem (by simpa using h)];rfl
theorem jG {p:UInt8→Bool}{s:ByteArray}{k:Nat}(h:k<s.size)(ha:(s.data.toList.take k).all p=true)(hp:p s[k]=true):(s.data.toList.take (k+1)).all p=true:=by
 rw[JT s k h,List.all_append,ha];simp[hp]
theorem yL {p:UInt8→Bool}{s:ByteArray}{k:Nat}(h:k<s.size)(hp:p s[k]=false):s.data.toList.all p=false:=by
 rw[List.all_eq_false];exact ⟨s[k],by show s.data[k]∈_;simp,by simp[hp]⟩
theorem zv (s:ByteArray)(w:World)(hs:s.size≤maxLen) :
 Calls Tryd.prog 13 #[.string s] w fun e w'=>e=.returned (.bool (qN s))∧w'=w:=by
 unfold maxLen at hs
 by_cases h1:s.size<1
 · go_enter Tryd.func13, Tryd.ntmps13
   go_wp2;go_ret;exact ⟨by simp[qN];omega,rfl⟩
 by_cases h8:8<s.size
 · have h1' : 1 ≤ s.size := by omega
   go_enter Tryd.func13,Tryd.ntmps13
   go_wp2;go_ret;exact ⟨by simp[qN];omega,rfl⟩
 have h1':1≤s.size:=by omega
 have h8':s.size≤8:=by omega
 clear h1 h8
 go_enter Tryd.func13,Tryd.ntmps13
 go_wp2
 go_loop [14] (fun i=>∃ k:Nat,k≤s.size∧i=.int .i64 k∧(s.data.toList.take k).all ql=true) (fun i=>s.size-(intOf i).toNat)
 case atStart => exact ⟨0,Nat.zero_le _,rfl,by simp⟩
 case round =>
  obtain ⟨k,hk,rfl,hall⟩:=hrel;have HA:Hid ((s.data.toList.take k).all ql=true):=hall;clear hall
  by_cases hlt:k<s.size
  · by_cases ha : (s[k].toNat : Int) < 97
    · have HP : Hid (ql s[k] = false) := by show _ = _;simp[ql];omega
      go_wp2;go_ret;exact ⟨by simp[qN,yL hlt HP.out],rfl⟩
    · by_cases hb : 122 < (s[k].toNat : Int)
      · have HP : Hid (ql s[k] = false) := by show _ = _;simp[ql];omega
        go_wp2;go_ret;exact ⟨by simp[qN,yL hlt HP.out],rfl⟩
      · have HP : Hid (ql s[k] = true) := by show _ = _;simp[ql];omega
        go_wp2;exact ⟨⟨k+1,by omega,by go_num,jG hlt HA.out HP.out⟩,by simp[intOf];omega⟩
  · go_wp2;go_ret;have:=HA.out;rw[List.take_of_length_le (by simp;omega)]at this
    exact ⟨by simp[qN,this,h1',h8'],rfl⟩
theorem zk (s:ByteArray)(w:World)(hs:s.size≤maxLen) :
 Calls Tryd.prog 15 #[.string s] w fun e w'=>e=.returned (.bool (qO s))∧w'=w:=by
 unfold maxLen at hs
 by_cases h8:40<s.size
 · go_enter Tryd.func15, Tryd.ntmps15
   go_wp2;go_ret;exact ⟨by simp[qO];omega,rfl⟩
 have h8':s.size≤40:=by omega
 clear h8
 go_enter Tryd.func15,Tryd.ntmps15
 go_wp2
 go_loop [9] (fun i=>∃ k:Nat,k≤s.size∧i=.int .i64 k∧(s.data.toList.take k).all sign=true) (fun i=>s.size-(intOf i).toNat)
 case atStart => exact ⟨0,Nat.zero_le _,rfl,by simp⟩
 case round =>
  obtain ⟨k,hk,rfl,hall⟩:=hrel;have HA:Hid ((s.data.toList.take k).all sign=true):=hall;clear hall
  by_cases hlt:k<s.size
  · by_cases h10 : s[k].toNat = 10
    · have HP : Hid (sign s[k] = true) := by show _ = _;simp[sign, h10]
      have hb:((s[k].toNat:Int) != 10)=false:=by simp;omega
      clear h10;go_wp2;exact ⟨⟨k+1,by omega,by go_num,jG hlt HA.out HP.out⟩,by simp[intOf];omega⟩
    · have hb : ((s[k].toNat : Int) != 10) = true := by simp;omega
      by_cases ha:(s[k].toNat:Int)<32
      · have HP : Hid (sign s[k] = false) := by show _ = _;simp[sign, h10];omega
        clear h10;go_wp2;go_ret;exact ⟨by simp[qO,yL hlt HP.out],rfl⟩
      · by_cases hb' : 126 < (s[k].toNat : Int)
        · have HP : Hid (sign s[k] = false) := by show _ = _;simp[sign, h10];omega
          clear h10;go_wp2;go_ret;exact ⟨by simp[qO,yL hlt HP.out],rfl⟩
        · have HP : Hid (sign s[k] = true) := by show _ = _;simp[sign, h10];omega
          clear h10;go_wp2;exact ⟨⟨k+1,by omega,by go_num,jG hlt HA.out HP.out⟩,by simp[intOf];omega⟩
  · go_wp2;go_ret;have:=HA.out;rw[List.take_of_length_le (by simp;omega)]at this
    exact ⟨by simp[qO,this,h8'],rfl⟩
def ahead:List Tr→Nat
 | []=>0
 | t::r=>if t.text then ahead r+1 else 0
end Go.Proofs.YtfdbipeidmpciaaDoor
