/- Bundled: Names Ahead. What each says stands ahead of it. -/
import Derived.Test.YtfplhcicbbhljaaGreatDoorBundle00
import Derived.Test.YtfplhcicbbhljaaGreatDoorChecked
namespace Go.Proofs.YtfplhcicbbhljaaGreatDoor
open Go.ChangeShapes Go.WideShapes Go.ChangeAt Go.RowKit
set_option maxRecDepth 100000
def qg (c:UInt8):Bool:=97≤c.toNat&&c.toNat≤122
def sign (c:UInt8):Bool:=c.toNat==10||(32≤c.toNat&&c.toNat≤126)
def qM (s:ByteArray):Bool:=decide (1≤s.size)&&decide (s.size≤8)&&s.data.toList.all qg
def qN (s:ByteArray):Bool:=decide (s.size≤40)&&s.data.toList.all sign
theorem qcM (s:ByteArray)(k:Nat)(h:k<s.size):s.data.toList.take (k+1)=s.data.toList.take k++[s[k]]:=by
 rw[List.take_succ_eq_append_getElem (by simpa using h)];rfl
theorem Zp {p:UInt8→Bool}{s:ByteArray}{k:Nat}(h:k<s.size)(ha:(s.data.toList.take k).all p=true)(hp:p s[k]=true):(s.data.toList.take (k+1)).all p=true:=by
 rw[qcM s k h,List.all_append,ha];simp[hp]
theorem Qs {p:UInt8→Bool}{s:ByteArray}{k:Nat}(h:k<s.size)(hp:p s[k]=false):s.data.toList.all p=false:=by
 rw[List.all_eq_false];exact ⟨s[k],by show s.data[k]∈_;simp,by simp[hp]⟩
theorem yD (s:ByteArray)(w:World)(hs:s.size≤maxLen) :
 Calls Tryz.prog 88 #[.string s] w fun e w'=>e=.returned (.bool (qM s))∧w'=w:=by
 unfold maxLen at hs
 by_cases h1:s.size<1
 · go_enter Tryz.func88, Tryz.ntmps88
   go_wp2;go_ret;exact ⟨by simp[qM];omega,rfl⟩
 by_cases h8:8<s.size
 · have h1' : 1 ≤ s.size := by omega
   go_enter Tryz.func88,Tryz.ntmps88
   go_wp2;go_ret;exact ⟨by simp[qM];omega,rfl⟩
 have h1':1≤s.size:=by omega
 have h8':s.size≤8:=by omega
 clear h1 h8
 go_enter Tryz.func88,Tryz.ntmps88
 go_wp2
 go_loop [14] (fun i=>∃ k:Nat,k≤s.size∧i=.int .i64 k∧(s.data.toList.take k).all qg=true) (fun i=>s.size-(intOf i).toNat)
 case atStart => exact ⟨0,Nat.zero_le _,rfl,by simp⟩
 case round =>
  obtain ⟨k,hk,rfl,hall⟩:=hrel;have HA:Hid ((s.data.toList.take k).all qg=true):=hall;clear hall
  by_cases hlt:k<s.size
  · by_cases ha : (s[k].toNat : Int) < 97
    · have HP : Hid (qg s[k] = false) := by show _ = _;simp[qg];omega
      go_wp2;go_ret;exact ⟨by simp[qM,Qs hlt HP.out],rfl⟩
    · by_cases hb : 122 < (s[k].toNat : Int)
      · have HP : Hid (qg s[k] = false) := by show _ = _;simp[qg];omega
        go_wp2;go_ret;exact ⟨by simp[qM,Qs hlt HP.out],rfl⟩
      · have HP : Hid (qg s[k] = true) := by show _ = _;simp[qg];omega
        go_wp2;exact ⟨⟨k+1,by omega,by go_num,Zp hlt HA.out HP.out⟩,by simp[intOf];omega⟩
  · go_wp2;go_ret;have:=HA.out;rw[List.take_of_length_le (by simp;omega)]at this
    exact ⟨by simp[qM,this,h1',h8'],rfl⟩
theorem yp (s:ByteArray)(w:World)(hs:s.size≤maxLen) :
 Calls Tryz.prog 57 #[.string s] w fun e w'=>e=.returned (.bool (qN s))∧w'=w:=by
 unfold maxLen at hs
 by_cases h8:40<s.size
 · go_enter Tryz.func57, Tryz.ntmps57
   go_wp2;go_ret;exact ⟨by simp[qN];omega,rfl⟩
 have h8':s.size≤40:=by omega
 clear h8
 go_enter Tryz.func57,Tryz.ntmps57
 go_wp2
 go_loop [9] (fun i=>∃ k:Nat,k≤s.size∧i=.int .i64 k∧(s.data.toList.take k).all sign=true) (fun i=>s.size-(intOf i).toNat)
 case atStart => exact ⟨0,Nat.zero_le _,rfl,by simp⟩
 case round =>
  obtain ⟨k,hk,rfl,hall⟩:=hrel;have HA:Hid ((s.data.toList.take k).all sign=true):=hall;clear hall
  by_cases hlt:k<s.size
  · by_cases h10 : s[k].toNat = 10
    · have HP : Hid (sign s[k] = true) := by show _ = _;simp[sign, h10]
      have hb:((s[k].toNat:Int) != 10)=false:=by simp;omega
      clear h10;go_wp2;exact ⟨⟨k+1,by omega,by go_num,Zp hlt HA.out HP.out⟩,by simp[intOf];omega⟩
    · have hb : ((s[k].toNat : Int) != 10) = true := by simp;omega
      by_cases ha:(s[k].toNat:Int)<32
      · have HP : Hid (sign s[k] = false) := by show _ = _;simp[sign, h10];omega
        clear h10;go_wp2;go_ret;exact ⟨by simp[qN,Qs hlt HP.out],rfl⟩
      · by_cases hb' : 126 < (s[k].toNat : Int)
        · have HP : Hid (sign s[k] = false) := by show _ = _;simp[sign, h10];omega
          clear h10;go_wp2;go_ret;exact ⟨by simp[qN,Qs hlt HP.out],rfl⟩
        · have HP : Hid (sign s[k] = true) := by show _ = _;simp[sign, h10];omega
          clear h10;go_wp2;exact ⟨⟨k+1,by omega,by go_num,Zp hlt HA.out HP.out⟩,by simp[intOf];omega⟩
  · go_wp2;go_ret;have:=HA.out;rw[List.take_of_length_le (by simp;omega)]at this
    exact ⟨by simp[qN,this,h8'],rfl⟩
def ahead:List Tr→Nat
 | []=>0
 | t::r=>if t.text then ahead r+1 else 0
theorem Kt (ts:List Tr):ahead ts≤ts.length:=by
 induction ts with
 | nil=>simp[ahead]
 | cons t r ih=>unfold ahead;split<;>simp<;>omega
theorem qbE {k:IntKind}{a b:Int}(h:a=b):Ending.returned (.int k a)=.returned (.int k b):=by rw[h]
theorem J7 (S:Nat→Prop)(n:Nat)(v:Value)(ts:List Tr)(w:World)(h:qb S w (n+1) v ts) :
 Calls Tryz.prog 196 #[v] w fun e w'=>e=.returned (.int .i64 (ahead ts))∧w'=w:=by
 obtain ⟨a,cap,rfl,h2,h3,h4⟩:=h;unfold maxLen at h3
 go_enter Tryz.func196,Tryz.ntmps196
 go_wp2
 go_loop [6] (fun i=>∃ k:Nat,k≤ts.length∧i=.int .i64 k∧ahead ts=k+ahead (ts.drop k)) (fun i=>ts.length-(intOf i).toNat)
 case atStart => exact ⟨0,Nat.zero_le _,rfl,by simp⟩
 case round =>
  obtain ⟨k,hk,rfl,hrest⟩:=hrel;have HR:Hid (ahead ts=k+ahead (ts.drop k)):=hrest;clear hrest
  by_cases hlt:k<ts.length
  · have hne : ts ≠ [] := by intro e;subst e;simp at hlt
    obtain ⟨b,o,rfl,hs,hc⟩:=h4 hne;obtain ⟨t,ht⟩:∃ t,ts[k]?=some t:=⟨ts[k],by simp[hlt]⟩
    have HT:Hid (ts[k]?=some t):=ht;obtain ⟨va,vk,c0,c1,c2,c3,_,_⟩:=hc k t ht
    have hd:ts.drop k=t::ts.drop (k+1):=by
     rw[List.drop_eq_getElem_cons hlt];congr 1;simpa[hlt] using ht
    have HD:Hid (ahead (ts.drop k)=if t.text then ahead (ts.drop (k+1))+1 else 0):=by rw[hd];rfl
    clear hd ht hc h4 c1 c2 c3;go_wp2
    · go_ret;exact ⟨qbE (by have:=HR.out;have:=HD.out;simp_all),rfl⟩
    · refine ⟨⟨k + 1, by omega, by go_num, ?_⟩, by simp[intOf];omega⟩
      have h1:=HR.out;have h2:=HD.out;rw[if_pos (by simpa using ‹(!t.text)=false›)]at h2
      omega
  · go_wp2;go_ret;exact ⟨qbE (by have:=HR.out;have:=Kt ts;rw[List.drop_of_length_le (by omega)]at *;simp[ahead]at *;omega),rfl⟩
end Go.Proofs.YtfplhcicbbhljaaGreatDoor
