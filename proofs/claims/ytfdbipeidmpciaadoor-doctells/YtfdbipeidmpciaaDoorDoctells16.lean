/- topiaryref.printed and IsPlain, for every text: the same as tree.Plain. Condition: texts of at most 2^63 letters, which every text has. -/
import Derived.Test.YtfdbipeidmpciaaDoorFive01
import Derived.Deep.LoopGhost
import Derived.Lib.ConvBytes
namespace Go.Proofs.YtfdbipeidmpciaaDoor
open Go.ChangeShapes Go.WideShapes Go.ChangeAt Go.RowKit
set_option maxRecDepth 100000
theorem ZZ (c:UInt8)(w:World) :
 Calls Tryd.prog 54 #[.int .u8 (c.toNat:Int)] w fun e w'=>e=.returned (.bool (sign c))∧w'=w:=by
 by_cases h10:c.toNat=10
 · have hb : ((c.toNat : Int) == 10) = true := by simp;omega
   have HS:Hid (sign c=true):=by show _=_;simp[sign,h10]
   clear h10
   go_enter Tryd.func54,Tryd.ntmps54
   go_wp2;go_ret;exact ⟨by rw[HS.out];rfl,rfl⟩
 · have hb : ((c.toNat : Int) == 10) = false := by simp;omega
   by_cases ha:(32:Int)≤(c.toNat:Int)
   · by_cases hb' : (c.toNat : Int) < 127
     · have HS : Hid (sign c = true) := by show _ = _;simp[sign, h10];omega
       clear h10
       go_enter Tryd.func54,Tryd.ntmps54
       go_wp2;go_ret;exact ⟨by rw[HS.out];rfl,rfl⟩
     · have HS : Hid (sign c = false) := by show _ = _;simp[sign, h10];omega
       clear h10
       go_enter Tryd.func54,Tryd.ntmps54
       go_wp2;go_ret;exact ⟨by rw[HS.out];rfl,rfl⟩
   · have HS : Hid (sign c = false) := by show _ = _;simp[sign, h10];omega
     clear h10
     go_enter Tryd.func54,Tryd.ntmps54
     go_wp2;go_ret;exact ⟨by rw[HS.out];rfl,rfl⟩
theorem xh (s:ByteArray)(w:World)(hs:s.size≤maxLen) :
 Calls Tryd.prog 16 #[.string s] w fun e w'=>e=.returned (.bool (qO s))∧Below w.heap.size w w':=by
 unfold maxLen at hs
 have hcv:=Lib.run_convert_string_bytes (P:=Tryd.prog) w 9 66 5 s (u:=.string) Tryd.underlying9 Tryd.underlying66 Tryd.underlying5;have hbw:Below w.heap.size w (Lib.bytesWorld w 5 s):=⟨rfl,rfl,rfl,by rw[Lib.bytesWorld_size];omega,fun k hk=>Lib.bytesWorld_at_old w _ s k hk⟩
 have hcell:Hid (∀ k (h:k<s.size),(Lib.bytesWorld w 5 s).cell? ⟨w.heap.size,k,none⟩=some (.int .u8 (s[k].toNat:Int))):=by
  intro k h;rw[Lib.bytesWorld_cell w _ s k h];simp[List.getD,h];rfl
 generalize Lib.bytesWorld w 5 s=W at hcv hbw hcell
 generalize grownCap w s.size 0 5=cap at hcv
 have HB:Hid (Below w.heap.size w W):=hbw;clear hbw
 go_enter Tryd.func16,Tryd.ntmps16
 go_wp2
 go_loop [8] (fun i=>∃ k:Nat,k≤s.size∧i=.int .i64 k∧(s.data.toList.take k).all sign=true) (fun i=>s.size-(intOf i).toNat)
 case atStart => exact ⟨0,Nat.zero_le _,rfl,by simp⟩
 case round =>
  obtain ⟨k,hk,rfl,hall⟩:=hrel;have HA:Hid ((s.data.toList.take k).all sign=true):=hall;clear hall
  by_cases hlt:k<s.size
  · have hc := hcell.out k hlt;go_wp2_with fail;refine (ZZ s[k] W).mono ?_;rintro e W' ⟨rfl,rfl⟩
    by_cases hp:sign s[k]=true
    · go_wp2;exact ⟨⟨k+1,by omega,by go_num,jG hlt HA.out hp⟩,by simp[intOf];omega⟩
    · have hp' : sign s[k] = false := by simpa using hp
      go_wp2;go_ret;exact ⟨by simp[qO,yL hlt hp'],HB⟩
  · have HT:Hid (s.data.toList.all sign=true):=by
     have:=HA.out;rw[List.take_of_length_le (by simp;omega)]at this
     exact this
    by_cases h40:s.size≤40
    · go_wp2;go_ret;exact ⟨by simp[qO,HT.out,h40];omega,HB⟩
    · go_wp2;go_ret;exact ⟨by simp[qO,h40];omega,HB⟩
end Go.Proofs.YtfdbipeidmpciaaDoor
