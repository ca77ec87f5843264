/- topiarytop.TopGood says true. Condition: the variables hold what their texts lay; lines of a size that can be read. -/
import Derived.Test.YtecdgplkelnmhaaGreatDoorBundle39
namespace Go.Proofs.YtecdgplkelnmhaaGreatDoor
open Go.ChangeShapes Go.WideShapes Go.ChangeAt Go.RowKit
set_option maxRecDepth 100000
section
attribute [local go_sem] qd
theorem X2 (w:World)(S0:Nat→Prop)(l:List Ac):XK 7 w S0 l:=by
 intro S sb i a vd vs W _ _ hB hsb hSw hSt hN hg hstr;obtain ⟨da,dc,rfl,_,_⟩:=hN.shape;obtain ⟨sa,sc,rfl,_,_⟩:=hstr.shape
 generalize (yq a (zb (l.take i)).1 (zb (l.take i)).2).1=rep
 have hb1:Below W.heap.size W (((W.alloc (.cells #[.slice da (zb (l.take i)).1.length dc] 28)).alloc (.cells #[.int .i64 a.kind,.slice sa a.lines.length sc] 31)).alloc (.cells #[.int .i64 rep.1,.int .i64 rep.2.1,.string rep.2.2] 34)):=((Below.alloc1 W _).alloc (by simp) _).alloc (by simp;omega) _
 have HD:Hid _:=QA S sb _ _ _ (hSt.later hb1);have hg1:=hSt.good
 generalize (zb (l.take (i+1))).1=ns1 at *
 have HG:Hid (∀ (S:Nat→Prop) (v:Value) (W:World),qt S W v ns1→(∀ b,S b→b<W.heap.size)→Calls Tryz.prog 8 #[.agg #[v]] W fun e w'=>e=.returned (.bool true)∧Below W.heap.size W w'):=by
  intro S v W h1 h2;have:=ZT S v ns1 W h1 h2 (xx hg1).1 (xx hg1).2;rw[hg1]at this
  exact this
 clear hSt hN hg hstr hg1 hB
 go_enter Tryz.func7,Tryz.ntmps7
 go_wp2_with fail;refine Calls.mono HD.out ?_;rintro e w2 ⟨v2,rfl,hN2,hb2⟩;obtain ⟨a2,c2,rfl,_,_⟩:=hN2.shape;have HG2:Hid _:=HG.out _ _ w2 hN2.bounded (fun b hb=>hb.2)
 have hB2:=hb1.trans (hb2.mono hb1.size);clear hN2 hb2 HD HG;go_wp2_with fail;refine Calls.mono HG2.out ?_;rintro e w3 ⟨rfl,hb3⟩;go_wp2_with fail;go_ret;exact ⟨rfl,hB2.trans (hb3.mono hB2.size)⟩
theorem VB (S0:Nat→Prop)(vl:Value)(l:List Ac)(w:World)(hL:QL S0 w vl l)(hS0:∀ b,S0 b→b<w.heap.size)(hz:ZK l)(hE:yx w) :
 Calls Tryz.prog 3 #[vl] w fun e w'=>e=.returned (.bool true)∧Below w.heap.size w w':=by
 have HP:Hid _:=Ji 7 (fun _ _=>rfl) S0 vl l w hL hS0 hz hE (X2 w S0 l)
 obtain ⟨la,lc,rfl,_,_⟩:=hL.shape;clear hL hS0 hz hE
 go_enter Tryz.func3,Tryz.ntmps3
 go_wp2_with fail;refine Calls.mono HP.out ?_;rintro e w1 ⟨sb,S,rfl,_,_,_,hb1⟩;go_wp2_with fail;go_ret;exact ⟨rfl,hb1⟩
end
end Go.Proofs.YtecdgplkelnmhaaGreatDoor
