/- Paths as texts: what two ways of reading answer, on plain lists: each undoes the telling. No condition. -/
import Derived.Test.YtchkbffgancidaaGreatDoorBundle02
import Derived.Lib.SplitLaws
import Derived.Lib.AtoiAll
import Derived.Lib.ItoaNum
namespace Go.Proofs.YtchkbffgancidaaGreatDoor
open Go
set_option maxRecDepth 100000
theorem qal (c:UInt8):∀ (a b:List UInt8),c∉a→Lib.index (a++c::b) [c]=((a.length:Nat):Int):=by
 intro a b h;rw[Lib.index_one]
 induction a with
 | nil=>simp[Lib.indexByte]
 | cons x a ih =>
   simp only[List.mem_cons,not_or]at h
   rw[List.cons_append,Lib.indexByte,ih h.2];have:¬ (x==c)=true:=by simpa using fun e=>h.1 e.symm
   rw[if_neg this,if_neg (by simp)]
   simp
theorem Ko (c:UInt8):∀ (a:List UInt8),c∉a→Lib.index a [c]=-1:=by
 intro a h;rw[Lib.index_one]
 induction a with
 | nil=>rfl
 | cons x a ih =>
   simp only[List.mem_cons,not_or]at h
   rw[Lib.indexByte,ih h.2];have:¬ (x==c)=true:=by simpa using fun e=>h.1 e.symm
   rw[if_neg this];rfl
theorem qdq {c:UInt8}{a b:List UInt8}(h:c∉a):Lib.cut (a++c::b) [c]=(a,b,true):=by
 unfold Lib.cut;rw[qal c a b h,if_pos (by omega),Int.toNat_natCast]
 simp[List.drop_append]
theorem qb4 {c:UInt8}{a:List UInt8}(h:c∉a):Lib.cut a [c]=(a,[],false):=by
 unfold Lib.cut;rw[Ko c a h,if_neg (by omega)]
theorem JJ (c:UInt8)(p:List UInt8):(c∉p∧Lib.cut p [c]=(p,[],false))∨∃ a b,p=a++c::b∧c∉a∧Lib.cut p [c]=(a,b,true):=by
 by_cases h:c∈p
 · obtain ⟨a, b, e, hn⟩ := List.eq_append_cons_of_mem h;exact Or.inr ⟨a,b,e,hn,by rw[e];exact qdq hn⟩
 · exact Or.inl ⟨h,qb4 h⟩
theorem Y0 {c:UInt8}{a:List UInt8}(h:c∉a):Lib.split a [c]=[a]:=by
 unfold Lib.split;rw[Lib.count_miss (Ko c a h)];rfl
theorem qbw {c:UInt8}{a b:List UInt8}(h:c∉a):Lib.split (a++c::b) [c]=a::Lib.split b [c]:=by
 have hi:=qal c a b h;unfold Lib.split;rw[Lib.count_hit (by simp) hi]
 have hd:(a++c::b).drop (a.length+[c].length)=b:=by simp[List.drop_append]
 rw[hd,Nat.add_comm 1,Lib.splitK,hi,if_neg (by simp),Int.toNat_natCast,hd]
 simp
theorem VX (c:UInt8):∀ (n:Nat)(s:List UInt8),s.length≤n→((Lib.split s [c]).map fun p=>c::p).flatten=c::s∧∀ p∈Lib.split s [c],c∉p:=by
 intro n
 induction n with
 | zero =>
   intro s hs;have:s=[]:=List.eq_nil_of_length_eq_zero (by omega)
   subst this;rw[Y0 (by simp)]
   simp
 | succ n ih =>
   intro s hs
   by_cases h:c∈s
   · obtain ⟨a, b, rfl, hn⟩ := List.eq_append_cons_of_mem h;simp only[List.length_append,List.length_cons]at hs
     obtain ⟨i1,i2⟩:=ih b (by omega)
     rw[qbw hn];refine ⟨by rw[List.map_cons,List.flatten_cons,i1];simp,fun p hp=>?_⟩
     rw[List.mem_cons]at hp
     rcases hp with rfl|hp
     · exact hn
     · exact i2 p hp
   · rw[Y0 h];refine ⟨by simp,fun p hp=>?_⟩
     rw[List.mem_singleton]at hp
     subst hp;exact h
abbrev PStep:=List UInt8 × Int
def qcw (l:List UInt8):Bool:=decide (1≤l.length)&&decide (l.length≤8)&&l.all qH
def qcU (s:PStep):Bool:=decide (0≤s.2)&&decide (s.2≤99)&&(decide (s.1=[])||decide (s.1=[42])||qcw s.1)
def YS (l:List PStep):Bool:=decide (1≤l.length)&&decide (l.length≤5)&&l.all qcU
/-! path's way -/
def zX (s:List UInt8):Option Int :=
 match Lib.atoiAll (Lib.trimSuffix s [93]) with
 | .ok n=>if Lib.hasSuffix s [93]=true∧n≠0∧Lib.itoa n=Lib.trimSuffix s [93] then some n else none
 | _=>none
def jQ (p:List UInt8):Option PStep :=
 match Lib.cut p [91] with
 | (a,b,f)=>if a=[] then none else if f=false then some (if a=[35] then [] else a,0) else (zX b).map fun n=>(if a=[35] then [] else a,n)
def stepsR:List (List UInt8)→Option (List PStep)
 | []=>some []
 | p :: ps => match jQ p with
   | none=>none
   | some s => match stepsR ps with
     | none=>none
     | some l=>some (s::l)
def xJ (s:List UInt8):Option (List PStep) :=
 if s.length≤2500∧Lib.hasPrefix s [47]=true then
  match stepsR (Lib.split (Lib.trimPrefix s [47]) [47]) with
  | none=>none
  | some l=>if YS l=true then some l else none
 else none
/-! the document's own way: byte by byte -/
end Go.Proofs.YtchkbffgancidaaGreatDoor
