/- topiaryref.printed and IsPlain, for every text: the same as tree.Plain. Condition: texts of at most 2^63 letters, which every text has. -/
import Derived.Test.YtfdbipeidmpciaaGreatDoorBundle01
import Derived.Lib.ConvBytes
namespace Go.Proofs.YtfdbipeidmpciaaGreatDoor
open Go.ChangeShapes Go.WideShapes Go.ChangeAt Go.RowKit
set_option maxRecDepth 100000
theorem xz (c:UInt8)(w:World) :
 Calls Tryz.prog 77 #[.int .u8 (c.toNat:Int)] w fun e w'=>e=.returned (.bool (zl c))∧w'=w:=by
 by_cases h10:c.toNat=10
 · have hb : ((c.toNat : Int) == 10) = true := by simp;omega
   have HS:Hid (zl c=true):=by show _=_;simp[zl,h10]
   clear h10
   go_enter Tryz.func77,Tryz.ntmps77
   go_wp2;go_ret;exact ⟨by rw[HS.out];rfl,rfl⟩
 · have hb : ((c.toNat : Int) == 10) = false := by simp;omega
   by_cases ha:(32:Int)≤(c.toNat:Int)
   · by_cases hb' : (c.toNat : Int) < 127
     · have HS : Hid (zl c = true) := by show _ = _;simp[zl, h10];omega
       clear h10
       go_enter Tryz.func77,Tryz.ntmps77
       go_wp2;go_ret;exact ⟨by rw[HS.out];rfl,rfl⟩
     · have HS : Hid (zl c = false) := by show _ = _;simp[zl, h10];omega
       clear h10
       go_enter Tryz.func77,Tryz.ntmps77
       go_wp2;go_ret;exact ⟨by rw[HS.out];rfl,rfl⟩
   · have HS : Hid (zl c = false) := by show _ = _;simp[zl, h10];omega
     clear h10
     go_enter Tryz.func77,Tryz.ntmps77
     go_wp2;go_ret;exact ⟨by rw[HS.out];rfl,rfl⟩
theorem yJ (s:ByteArray)(w:World)(hs:s.size≤maxLen) :
 Calls Tryz.prog 63 #[.string s] w fun e w'=>e=.returned (.bool (qU s))∧Below w.heap.size w w':=by
 unfold maxLen at hs
 have hcv:=Lib.run_convert_string_bytes (P:=Tryz.prog) w 9 107 5 s (u:=.string) Tryz.underlying9 Tryz.underlying107 Tryz.underlying5;have hbw:Below w.heap.size w (Lib.bytesWorld w 5 s):=⟨rfl,rfl,rfl,by rw[Lib.bytesWorld_size];omega,fun k hk=>Lib.bytesWorld_at_old w _ s k hk⟩
 have hcell:Hid (∀ k (h:k<s.size),(Lib.bytesWorld w 5 s).cell? ⟨w.heap.size,k,none⟩=some (.int .u8 (s[k].toNat:Int))):=by
  intro k h;rw[Lib.bytesWorld_cell w _ s k h];simp[List.getD,h];rfl
 generalize Lib.bytesWorld w 5 s=W at hcv hbw hcell
 generalize grownCap w s.size 0 5=cap at hcv
 have HB:Hid (Below w.heap.size w W):=hbw;clear hbw
 go_enter Tryz.func63,Tryz.ntmps63
 go_wp2
 go_loop [8] (fun i=>∃ k:Nat,k≤s.size∧i=.int .i64 k∧(s.data.toList.take k).all zl=true) (fun i=>s.size-(intOf i).toNat)
 case atStart => exact ⟨0,Nat.zero_le _,rfl,by simp⟩
 case round =>
  obtain ⟨k,hk,rfl,hall⟩:=hrel;have HA:Hid ((s.data.toList.take k).all zl=true):=hall;clear hall
  by_cases hlt:k<s.size
  · have hc := hcell.out k hlt;go_wp2_with fail;refine (xz s[k] W).mono ?_;rintro e W' ⟨rfl,rfl⟩
    by_cases hp:zl s[k]=true
    · go_wp2;exact ⟨⟨k+1,by omega,by go_num,yl hlt HA.out hp⟩,by simp[intOf];omega⟩
    · have hp' : zl s[k] = false := by simpa using hp
      go_wp2;go_ret;exact ⟨by simp[qU,zO hlt hp'],HB⟩
  · have HT:Hid (s.data.toList.all zl=true):=by
     have:=HA.out;rw[List.take_of_length_le (by simp;omega)]at this
     exact this
    by_cases h40:s.size≤40
    · go_wp2;go_ret;exact ⟨by simp[qU,HT.out,h40];omega,HB⟩
    · go_wp2;go_ret;exact ⟨by simp[qU,h40];omega,HB⟩
end Go.Proofs.YtfdbipeidmpciaaGreatDoor
