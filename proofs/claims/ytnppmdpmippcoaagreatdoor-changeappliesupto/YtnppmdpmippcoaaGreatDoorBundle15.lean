/- (*change.bench).place: in whose list of kids a node stands, and where. No condition. -/
import Derived.Test.YtnppmdpmippcoaaGreatDoorBundle13
import Derived.Test.YtnppmdpmippcoaaGreatDoorBundle14
namespace Go.Proofs.YtnppmdpmippcoaaGreatDoor
open Go.ChangeShapes Go.WideShapes Go.ChangeAt Go.RowKit
set_option maxRecDepth 100000
section
attribute [local go_sem] qD
theorem KU (S:Nat→Prop)(v:Value)(l:List Int)(x:Int)(w:World)(h:zM S w v l) :
 Calls Tryz.prog 118 #[v,.int .i64 x] w fun e w'=>e=.returned (.int .i64 (Lib.idxOf l x))∧w'=w:=by
 obtain ⟨a,cap,rfl,hl,hm,hc⟩:=h;cases l with
 | nil=>exact Tryz.slices_Index_int_empty a cap x w
 | cons y r =>
   obtain ⟨b,o,rfl,_,hcs⟩:=hc (by simp)
   have hlen:(y::r).length≤9223372036854775807:=by unfold maxLen at hm;omega
   have:=Tryz.slices_Index_int b o (y::r).length cap (y::r) x w (nR9 _) hlen (fun j hj=>by
    rw[hcs j ((y::r).getD j 0) (by rw[List.getD_eq_getElem?_getD,List.getElem?_eq_getElem hj];rfl)])
   rwa [List.take_length]at this
set_option maxHeartbeats 1000000 in
theorem xK (B:Nat)(T:Nat→Prop)(N bb n p:Nat)(v:Value)(ns:List Nd)(ms:List Rw)(x y:Nd)(w:World)(hX:Bx B T N bb w v ns ms)(hx:ns[n]?=some x)(hp:x.parent=(p:Int))(hy:ns[p]?=some y) :
 Calls Tryz.prog 94 #[.pointer (some ⟨bb,0,none⟩),.int .i64 (n:Int)] w fun e w'=>e=.returned (.tuple #[.int .i64 (p:Int),.int .i64 (Lib.idxOf y.kids (n:Int))])∧Below w.heap.size w w':=by
 obtain ⟨r,hr,hR⟩:=hX.2.2.get hx;obtain ⟨q,hq,hQ⟩:=hX.2.2.get hy;obtain ⟨g,cap,rfl,hcl,hcm,hgB,hgl,_,_,_,k3,_,_⟩:=hX.2.2.at hr
 obtain ⟨g',cap',hv',_,_,_,_,_,_,_,_,m4,_⟩:=hX.2.2.at hq
 injection hv' with hv1 hv2 hv3
 injection hv1 with hv1
 injection hv1 with hv1 _ _
 subst hv1 hv3;clear hv2;have hnl:n<ns.length:=(List.getElem?_eq_some_iff.1 hx).1;have hpl:p<ns.length:=(List.getElem?_eq_some_iff.1 hy).1
 have HI:Hid (∀ W,W=w→Calls Tryz.prog 118 #[q.vk,.int .i64 (n:Int)] W fun e w'=>e=.returned (.int .i64 (Lib.idxOf y.kids (n:Int)))∧w'=W):=by
  rintro W rfl;exact KU _ _ _ _ _ hQ.kids.ints
 have b0:w.cell? ⟨bb,0,none⟩=some (.slice (some ⟨g,0,none⟩) ns.length cap):=by rw[cH9 hX.1];rfl
 have hni:(n:Int)<(ns.length:Int):=by omega
 have hpi:(p:Int)<(ns.length:Int):=by omega
 rw[hR.par,hp]at k3
 clear hX hR hr hx hQ hq hy hp;unfold maxLen at hcm
 go_enter Tryz.func94,Tryz.ntmps94
 go_wp2_with fail;refine (HI.out _ rfl).mono ?_;rintro e w1 ⟨rfl,rfl⟩;go_wp2_with fail
 go_returns
 exact ⟨rfl,Below.refl _ _⟩
end
end Go.Proofs.YtnppmdpmippcoaaGreatDoor
