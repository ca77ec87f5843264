/- topiaryref.meant: the map from places to signs, and how the parts of a text lie. No condition. -/
import Derived.Test.YtkbhckhbgalaoaaGreatDoorBundle22
import Derived.Test.YtkbhckhbgalaoaaGreatDoorBundle24
import Derived.Test.YtkbhckhbgalaoaaGreatDoorBundle25
namespace Go.Proofs.YtkbhckhbgalaoaaGreatDoor
open Go.ChangeShapes Go.WideShapes Go.ChangeAt Go.RowKit Go.Maps
set_option maxRecDepth 100000
def yh (w:World):Prop:=∃ m:Int,w.cell? ⟨1,0,none⟩=some (.int .i64 m)
theorem yh.later {w w':World}(h:yh w)(hb:Below w.heap.size w w'):yh w':=by
 obtain ⟨m,hm⟩:=h;exact ⟨m,by rw[hb.cell (World.block_lt_of_cell? w _ hm)];exact hm⟩
theorem jN {w:World}{b n:Nat}{D:DataW Unit}(h:w.ownsMap Tryz.prog 3 (plainElem Tryz.prog 9) b n D)(hn:n<20)(k:Int)(hk:(Lit.int .i64 k).wf=true)(l:List UInt8)(hl:l.length≤2) :
 ∃ w',(Instr.mapUpdate 71 (.map (some b)) (.int .i64 k) (.string ⟨l.toArray⟩)).run Tryz.prog w=.ok () w'∧w'.ownsMap Tryz.prog 3 (plainElem Tryz.prog 9) b (n+1) (JK D k l)∧w.grownBy w' (some b) :=
 h.update (int_keyed Tryz.underlying3) Tryz.underlying71 (by unfold maxLen;omega) (keyOf_int_mk Tryz.underlying3 hk) (plainElem_string Tryz.underlying9 (by unfold maxLen;show l.length≤_;omega))
theorem Xu (w:World):(zeroValue 9).run Tryz.prog w=.ok (.string ⟨#[]⟩) w:=by kernel_rfl
def signD:DataW Unit:=JK (JK (JK (JK (.map []) 0 [60]) 4 [62]) 8 [38]) 13 [34]
theorem Xe (k:Int)(h:k=0∨k=4∨k=8∨k=13)(z:DataW Unit):signD.atKey (.int .i64 k) z=.lit (.string [jm k]):=by
 rcases h with rfl|rfl|rfl|rfl<;>rfl
theorem Yh (w:World)(k:Int)(h:k=0∨k=4∨k=8∨k=13):∃ w1 w2 w3 w4:World,
 (Instr.mapUpdate 71 (.map (some w.heap.size)) (.int .i64 0) (.string ⟨#[60]⟩)).run Tryz.prog (w.alloc (.map #[] 0))=.ok () w1 ∧
 (Instr.mapUpdate 71 (.map (some w.heap.size)) (.int .i64 4) (.string ⟨#[62]⟩)).run Tryz.prog w1=.ok () w2 ∧
 (Instr.mapUpdate 71 (.map (some w.heap.size)) (.int .i64 8) (.string ⟨#[38]⟩)).run Tryz.prog w2=.ok () w3 ∧
 (Instr.mapUpdate 71 (.map (some w.heap.size)) (.int .i64 13) (.string ⟨#[34]⟩)).run Tryz.prog w3=.ok () w4 ∧
 (Instr.lookup 71 (.map (some w.heap.size)) (.int .i64 k) false).run Tryz.prog w4=.ok (.string (qa [jm k])) w4∧Below w.heap.size w w4:=by
 have m0:(w.alloc (.map #[] 0)).ownsMap Tryz.prog 3 (plainElem Tryz.prog 9) w.heap.size 0 (.map []:DataW Unit):=World.ownsMap_made _ _ _ _;have b0:Below w.heap.size w (w.alloc (.map #[] 0)):=(Below.refl _ _).alloc (nR9 _) _;obtain ⟨w1,r1,m1,g1⟩:=jN m0 (by omega) 0 (by rfl) [60] (by decide)
 have b1:=b0.grown g1 b0.size (fun j hj=>by cases hj;exact nR9 _)
 obtain ⟨w2,r2,m2,g2⟩:=jN m1 (by omega) 4 (by rfl) [62] (by decide)
 have b2:=b1.grown g2 b1.size (fun j hj=>by cases hj;exact nR9 _)
 obtain ⟨w3,r3,m3,g3⟩:=jN m2 (by omega) 8 (by rfl) [38] (by decide)
 have b3:=b2.grown g3 b2.size (fun j hj=>by cases hj;exact nR9 _)
 obtain ⟨w4,r4,m4,g4⟩:=jN m3 (by omega) 13 (by rfl) [34] (by decide)
 have b4:=b3.grown g4 b3.size (fun j hj=>by cases hj;exact nR9 _)
 have hD:=Xe k h (.lit (.string []))
 obtain ⟨v,ps,hrun,hv⟩:=m4.lookup (int_keyed Tryz.underlying3) Tryz.underlying71 (Xu w4) (plainElem_string Tryz.underlying9 (s:=⟨#[]⟩) (by unfold maxLen;show 0≤_;omega)) (keyOf_int_mk Tryz.underlying3 (a:=k) (by
  rcases h with rfl|rfl|rfl|rfl<;>rfl))
 obtain ⟨s,rfl,hc,_⟩:=plainElem_string_inv Tryz.underlying9 hv
 have e:s=qa [jm k]:=by
  have h3:signD.atKey (.int .i64 k) (.lit (.string []))=.lit (.string s.data.toList):=congrArg Prod.fst hc;rw[hD]at h3
  injection h3 with h3
  injection h3 with h3
  exact yr h3.symm
 subst e;exact ⟨w1,w2,w3,w4,r1,r2,r3,r4,hrun,b4⟩
theorem Xm (u:List UInt8):(⟨#[32]⟩:ByteArray)++qa (u++[59])++(⟨#[32]⟩:ByteArray)=qa (32::(u++[59,32])):=by
 apply yr
 simp[qa]
theorem Ji (t u r:List UInt8)(h:t=u++59::r):((38::t).drop 1).take (u.length+2-1)=u++[59]:=by
 rw[h,List.drop_succ_cons,List.drop_zero,show u++59::r=(u++[59])++r by simp,List.take_left' (by simp)]
theorem JW (t u r:List UInt8)(h:t=u++59::r):(38::t).drop (u.length+2)=r:=by
 rw[h,show 38::(u++59::r)=(38::(u++[59]))++r by simp,List.drop_left' (by simp)]
theorem Y7 {t:List UInt8}(hd:t.dropWhile qh=[]):Lib.indexByte (38::t) 59=-1:=by
 rw[zB,show (fun x:UInt8=>decide (x≠59))=qh from rfl,List.dropWhile_cons,if_pos (by decide),hd]
theorem Xc {t u r:List UInt8}{x:UInt8}(hd:t.dropWhile qh=x::r)(hu:t.takeWhile qh=u):Lib.indexByte (38::t) 59=((u.length+1:Nat):Int):=by
 rw[zB,show (fun x:UInt8=>decide (x≠59))=qh from rfl,List.dropWhile_cons,if_pos (by decide),hd,List.takeWhile_cons,if_pos (by decide),hu]
 rfl
theorem Xn {t u r:List UInt8}{x:UInt8}(hd:t.dropWhile qh=x::r)(hu:t.takeWhile qh=u):qX t=if q7 u<0 then none else some (jm (q7 u),r):=by
 unfold qX;rw[hd,hu,Ya]
 by_cases h:q7 u<0
 · rw[if_pos h,if_pos h]
 · rw[if_neg h,if_neg h]
theorem four_bytes:(⟨#[32,108,116,59,32,103,116,59,32,97,109,112,59,32,113,117,111,116,59,32]⟩:ByteArray)=qa fourL:=rfl
theorem Jv (u:List UInt8)(hu:u.all qh=true)(w:World)(hm:yh w) :
 Calls Tryz.prog 45 #[.string ⟨#[32,108,116,59,32,103,116,59,32,97,109,112,59,32,113,117,111,116,59,32]⟩,.string (qa (32::(u++[59,32])))] w fun e w'=>e=.returned (.int .i64 (q7 u))∧w'=w:=by
 obtain ⟨mx,hm⟩:=hm;have h:=Tryz.strings_Index (qa fourL) (qa (32::(u++[59,32]))) mx w (by decide) hm
 rw[qY,qY,Zr hu]at h
 rw[four_bytes];exact h
theorem YN (w:World)(hm:yh w) :
 Calls Tryz.prog 45 #[.string ⟨#[32,108,116,59,32,103,116,59,32,97,109,112,59,32,113,117,111,116,59,32]⟩,.string ⟨#[32,32]⟩] w fun e w'=>e=.returned (.int .i64 (-1))∧w'=w:=by
 obtain ⟨mx,hm⟩:=hm;exact Tryz.strings_Index ⟨#[32,108,116,59,32,103,116,59,32,97,109,112,59,32,113,117,111,116,59,32]⟩ ⟨#[32,32]⟩ mx w (by decide) hm
theorem Jj {t r:List UInt8}{x:UInt8}(hd:t.dropWhile qh=x::r)(hl:t.length≤1048576):∃ (u:List UInt8)(k:Nat),u.all qh=true∧Lib.indexByte (38::t) 59=(k:Int)∧t.length=k+r.length∧0<k∧k≤1048576 ∧
 (qa (38::t)).extract 1 (max ((k:Int)+1) 1).toNat=qa (u++[59])∧(qa (38::t)).extract (k+1) (k+r.length+1)=qa r ∧
 qX t=if q7 u<0 then none else some (jm (q7 u),r):=by
 have hx59:x=59:=yA hd;subst hx59;obtain ⟨u,hu⟩:∃ u,t.takeWhile qh=u:=⟨_,rfl⟩;have ht:t=u++59::r:=by rw[←hu,←hd];exact (List.takeWhile_append_dropWhile).symm
 have hlt:t.length=u.length+1+r.length:=by rw[ht];simp;omega
 have e1:((38::t).drop 1).take (u.length+1+1-1)=u++[59]:=Ji t u r ht;have e2:(38::t).drop (u.length+1+1)=r:=JW t u r ht;have f1:((u.length+1:Nat):Int)+1=((u.length+1+1:Nat):Int):=rfl;refine ⟨u,u.length+1,by rw[←hu];exact List.all_takeWhile,Xc hd hu,hlt,by omega,by omega,?_,?_,Xn hd hu⟩
 · rw[f1,Int.max_eq_left (by omega),Int.toNat_natCast,qB,e1]
 · rw[qB,e2,List.take_of_length_le (by omega)]
end Go.Proofs.YtkbhckhbgalaoaaGreatDoor
