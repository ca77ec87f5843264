/- topiaryref.meant: the map from places to signs, and how the parts of a text lie. No condition. -/
import Derived.Test.YtfplhcicbbhljaaGreatDoorBundle24
import Derived.Test.YtfplhcicbbhljaaGreatDoorBundle25
import Derived.Test.YtfplhcicbbhljaaGreatDoorBundle22
namespace Go.Proofs.YtfplhcicbbhljaaGreatDoor
open Go.ChangeShapes Go.WideShapes Go.ChangeAt Go.RowKit Go.Maps
set_option maxRecDepth 100000
def xH (w:World):Prop:=∃ m:Int,w.cell? ⟨1,0,none⟩=some (.int .i64 m)
theorem xH.later {w w':World}(h:xH w)(hb:Below w.heap.size w w'):xH w':=by
 obtain ⟨m,hm⟩:=h;exact ⟨m,by rw[hb.cell (World.block_lt_of_cell? w _ hm)];exact hm⟩
theorem ZN {w:World}{b n:Nat}{D:DataW Unit}(h:w.ownsMap Tryz.prog 3 (plainElem Tryz.prog 9) b n D)(hn:n<20)(k:Int)(hk:(Lit.int .i64 k).wf=true)(l:List UInt8)(hl:l.length≤2) :
 ∃ w',(Instr.mapUpdate 107 (.map (some b)) (.int .i64 k) (.string ⟨l.toArray⟩)).run Tryz.prog w=.ok () w'∧w'.ownsMap Tryz.prog 3 (plainElem Tryz.prog 9) b (n+1) (qdW D k l)∧w.grownBy w' (some b) :=
 h.update (int_keyed Tryz.underlying3) Tryz.underlying107 (by unfold maxLen;omega) (keyOf_int_mk Tryz.underlying3 hk) (plainElem_string Tryz.underlying9 (by unfold maxLen;show l.length≤_;omega))
theorem qfI (w:World):(zeroValue 9).run Tryz.prog w=.ok (.string ⟨#[]⟩) w:=by kernel_rfl
def signD:DataW Unit:=qdW (qdW (qdW (qdW (.map []) 0 [60]) 4 [62]) 8 [38]) 13 [34]
theorem qfc (k:Int)(h:k=0∨k=4∨k=8∨k=13)(z:DataW Unit):signD.atKey (.int .i64 k) z=.lit (.string [Q4 k]):=by
 rcases h with rfl|rfl|rfl|rfl<;>rfl
theorem qaY (w:World)(k:Int)(h:k=0∨k=4∨k=8∨k=13):∃ w1 w2 w3 w4:World,
 (Instr.mapUpdate 107 (.map (some w.heap.size)) (.int .i64 0) (.string ⟨#[60]⟩)).run Tryz.prog (w.alloc (.map #[] 0))=.ok () w1 ∧
 (Instr.mapUpdate 107 (.map (some w.heap.size)) (.int .i64 4) (.string ⟨#[62]⟩)).run Tryz.prog w1=.ok () w2 ∧
 (Instr.mapUpdate 107 (.map (some w.heap.size)) (.int .i64 8) (.string ⟨#[38]⟩)).run Tryz.prog w2=.ok () w3 ∧
 (Instr.mapUpdate 107 (.map (some w.heap.size)) (.int .i64 13) (.string ⟨#[34]⟩)).run Tryz.prog w3=.ok () w4 ∧
 (Instr.lookup 107 (.map (some w.heap.size)) (.int .i64 k) false).run Tryz.prog w4=.ok (.string (qa [Q4 k])) w4∧Below w.heap.size w w4:=by
 have m0:(w.alloc (.map #[] 0)).ownsMap Tryz.prog 3 (plainElem Tryz.prog 9) w.heap.size 0 (.map []:DataW Unit):=World.ownsMap_made _ _ _ _;have b0:Below w.heap.size w (w.alloc (.map #[] 0)):=(Below.refl _ _).alloc (nR9 _) _;obtain ⟨w1,r1,m1,g1⟩:=ZN m0 (by omega) 0 (by rfl) [60] (by decide)
 have b1:=b0.grown g1 b0.size (fun j hj=>by cases hj;exact nR9 _)
 obtain ⟨w2,r2,m2,g2⟩:=ZN m1 (by omega) 4 (by rfl) [62] (by decide)
 have b2:=b1.grown g2 b1.size (fun j hj=>by cases hj;exact nR9 _)
 obtain ⟨w3,r3,m3,g3⟩:=ZN m2 (by omega) 8 (by rfl) [38] (by decide)
 have b3:=b2.grown g3 b2.size (fun j hj=>by cases hj;exact nR9 _)
 obtain ⟨w4,r4,m4,g4⟩:=ZN m3 (by omega) 13 (by rfl) [34] (by decide)
 have b4:=b3.grown g4 b3.size (fun j hj=>by cases hj;exact nR9 _)
 have hD:=qfc k h (.lit (.string []))
 obtain ⟨v,ps,hrun,hv⟩:=m4.lookup (int_keyed Tryz.underlying3) Tryz.underlying107 (qfI w4) (plainElem_string Tryz.underlying9 (s:=⟨#[]⟩) (by unfold maxLen;show 0≤_;omega)) (keyOf_int_mk Tryz.underlying3 (a:=k) (by
  rcases h with rfl|rfl|rfl|rfl<;>rfl))
 obtain ⟨s,rfl,hc,_⟩:=plainElem_string_inv Tryz.underlying9 hv
 have e:s=qa [Q4 k]:=by
  have h3:signD.atKey (.int .i64 k) (.lit (.string []))=.lit (.string s.data.toList):=congrArg Prod.fst hc;rw[hD]at h3
  injection h3 with h3
  injection h3 with h3
  exact xr h3.symm
 subst e;exact ⟨w1,w2,w3,w4,r1,r2,r3,r4,hrun,b4⟩
theorem qfm (u:List UInt8):(⟨#[32]⟩:ByteArray)++qa (u++[59])++(⟨#[32]⟩:ByteArray)=qa (32::(u++[59,32])):=by
 apply xr
 simp[qa]
theorem qcT (t u r:List UInt8)(h:t=u++59::r):((38::t).drop 1).take (u.length+2-1)=u++[59]:=by
 rw[h,List.drop_succ_cons,List.drop_zero,show u++59::r=(u++[59])++r by simp,List.take_left' (by simp)]
theorem qer (t u r:List UInt8)(h:t=u++59::r):(38::t).drop (u.length+2)=r:=by
 rw[h,show 38::(u++59::r)=(38::(u++[59]))++r by simp,List.drop_left' (by simp)]
theorem qcE {t:List UInt8}(hd:t.dropWhile qy=[]):Lib.indexByte (38::t) 59=-1:=by
 rw[y8,show (fun x:UInt8=>decide (x≠59))=qy from rfl,List.dropWhile_cons,if_pos (by decide),hd]
theorem qfa {t u r:List UInt8}{x:UInt8}(hd:t.dropWhile qy=x::r)(hu:t.takeWhile qy=u):Lib.indexByte (38::t) 59=((u.length+1:Nat):Int):=by
 rw[y8,show (fun x:UInt8=>decide (x≠59))=qy from rfl,List.dropWhile_cons,if_pos (by decide),hd,List.takeWhile_cons,if_pos (by decide),hu]
 rfl
theorem qfn {t u r:List UInt8}{x:UInt8}(hd:t.dropWhile qy=x::r)(hu:t.takeWhile qy=u):yl t=if yr u<0 then none else some (Q4 (yr u),r):=by
 unfold yl;rw[hd,hu,qaN]
 by_cases h:yr u<0
 · rw[if_pos h,if_pos h]
 · rw[if_neg h,if_neg h]
theorem four_bytes:(⟨#[32,108,116,59,32,103,116,59,32,97,109,112,59,32,113,117,111,116,59,32]⟩:ByteArray)=qa fourL:=rfl
theorem qdr (u:List UInt8)(hu:u.all qy=true)(w:World)(hm:xH w) :
 Calls Tryz.prog 61 #[.string ⟨#[32,108,116,59,32,103,116,59,32,97,109,112,59,32,113,117,111,116,59,32]⟩,.string (qa (32::(u++[59,32])))] w fun e w'=>e=.returned (.int .i64 (yr u))∧w'=w:=by
 obtain ⟨mx,hm⟩:=hm;have h:=Tryz.strings_Index (qa fourL) (qa (32::(u++[59,32]))) mx w (by decide) hm
 rw[zA,zA,K5 hu]at h
 rw[four_bytes];exact h
theorem qb0 (w:World)(hm:xH w) :
 Calls Tryz.prog 61 #[.string ⟨#[32,108,116,59,32,103,116,59,32,97,109,112,59,32,113,117,111,116,59,32]⟩,.string ⟨#[32,32]⟩] w fun e w'=>e=.returned (.int .i64 (-1))∧w'=w:=by
 obtain ⟨mx,hm⟩:=hm;exact Tryz.strings_Index ⟨#[32,108,116,59,32,103,116,59,32,97,109,112,59,32,113,117,111,116,59,32]⟩ ⟨#[32,32]⟩ mx w (by decide) hm
theorem qcU {t r:List UInt8}{x:UInt8}(hd:t.dropWhile qy=x::r)(hl:t.length≤1048576):∃ (u:List UInt8)(k:Nat),u.all qy=true∧Lib.indexByte (38::t) 59=(k:Int)∧t.length=k+r.length∧0<k∧k≤1048576 ∧
 (qa (38::t)).extract 1 (max ((k:Int)+1) 1).toNat=qa (u++[59])∧(qa (38::t)).extract (k+1) (k+r.length+1)=qa r ∧
 yl t=if yr u<0 then none else some (Q4 (yr u),r):=by
 have hx59:x=59:=xO hd;subst hx59;obtain ⟨u,hu⟩:∃ u,t.takeWhile qy=u:=⟨_,rfl⟩;have ht:t=u++59::r:=by rw[←hu,←hd];exact (List.takeWhile_append_dropWhile).symm
 have hlt:t.length=u.length+1+r.length:=by rw[ht];simp;omega
 have e1:((38::t).drop 1).take (u.length+1+1-1)=u++[59]:=qcT t u r ht;have e2:(38::t).drop (u.length+1+1)=r:=qer t u r ht;have f1:((u.length+1:Nat):Int)+1=((u.length+1+1:Nat):Int):=rfl;refine ⟨u,u.length+1,by rw[←hu];exact List.all_takeWhile,qfa hd hu,hlt,by omega,by omega,?_,?_,qfn hd hu⟩
 · rw[f1,Int.max_eq_left (by omega),Int.toNat_natCast,qU,e1]
 · rw[qU,e2,List.take_of_length_le (by omega)]
end Go.Proofs.YtfplhcicbbhljaaGreatDoor
