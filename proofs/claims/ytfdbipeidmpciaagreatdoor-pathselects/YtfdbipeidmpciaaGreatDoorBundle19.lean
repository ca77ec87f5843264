/- Paths as texts: what two ways of reading answer, on plain lists: each undoes the telling. No condition. -/
import Derived.Test.YtfdbipeidmpciaaGreatDoorBundle01
import Derived.Lib.SplitLaws
import Derived.Lib.AtoiAll
import Derived.Lib.ItoaNum
namespace Go.Proofs.YtfdbipeidmpciaaGreatDoor
open Go
set_option maxRecDepth 100000
theorem Qm (c:UInt8):∀ (a b:List UInt8),c∉a→Lib.index (a++c::b) [c]=((a.length:Nat):Int):=by
 intro a b h;rw[Lib.index_one]
 induction a with
 | nil=>simp[Lib.indexByte]
 | cons x a ih =>
   simp only[List.mem_cons,not_or]at h
   rw[List.cons_append,Lib.indexByte,ih h.2];have:¬ (x==c)=true:=by simpa using fun e=>h.1 e.symm
   rw[if_neg this,if_neg (by simp)]
   simp
theorem xj (c:UInt8):∀ (a:List UInt8),c∉a→Lib.index a [c]=-1:=by
 intro a h;rw[Lib.index_one]
 induction a with
 | nil=>rfl
 | cons x a ih =>
   simp only[List.mem_cons,not_or]at h
   rw[Lib.indexByte,ih h.2];have:¬ (x==c)=true:=by simpa using fun e=>h.1 e.symm
   rw[if_neg this];rfl
theorem Zl {c:UInt8}{a b:List UInt8}(h:c∉a):Lib.cut (a++c::b) [c]=(a,b,true):=by
 unfold Lib.cut;rw[Qm c a b h,if_pos (by omega),Int.toNat_natCast]
 simp[List.drop_append]
theorem QX {c:UInt8}{a:List UInt8}(h:c∉a):Lib.cut a [c]=(a,[],false):=by
 unfold Lib.cut;rw[xj c a h,if_neg (by omega)]
theorem Qs (c:UInt8)(p:List UInt8):(c∉p∧Lib.cut p [c]=(p,[],false))∨∃ a b,p=a++c::b∧c∉a∧Lib.cut p [c]=(a,b,true):=by
 by_cases h:c∈p
 · obtain ⟨a, b, e, hn⟩ := List.eq_append_cons_of_mem h;exact Or.inr ⟨a,b,e,hn,by rw[e];exact Zl hn⟩
 · exact Or.inl ⟨h,QX h⟩
theorem jj {c:UInt8}{a:List UInt8}(h:c∉a):Lib.split a [c]=[a]:=by
 unfold Lib.split;rw[Lib.count_miss (xj c a h)];rfl
theorem QP {c:UInt8}{a b:List UInt8}(h:c∉a):Lib.split (a++c::b) [c]=a::Lib.split b [c]:=by
 have hi:=Qm c a b h;unfold Lib.split;rw[Lib.count_hit (by simp) hi]
 have hd:(a++c::b).drop (a.length+[c].length)=b:=by simp[List.drop_append]
 rw[hd,Nat.add_comm 1,Lib.splitK,hi,if_neg (by simp),Int.toNat_natCast,hd]
 simp
theorem Qf (c:UInt8):∀ (n:Nat)(s:List UInt8),s.length≤n→((Lib.split s [c]).map fun p=>c::p).flatten=c::s∧∀ p∈Lib.split s [c],c∉p:=by
 intro n
 induction n with
 | zero =>
   intro s hs;have:s=[]:=List.eq_nil_of_length_eq_zero (by omega)
   subst this;rw[jj (by simp)]
   simp
 | succ n ih =>
   intro s hs
   by_cases h:c∈s
   · obtain ⟨a, b, rfl, hn⟩ := List.eq_append_cons_of_mem h;simp only[List.length_append,List.length_cons]at hs
     obtain ⟨i1,i2⟩:=ih b (by omega)
     rw[QP hn];refine ⟨by rw[List.map_cons,List.flatten_cons,i1];simp,fun p hp=>?_⟩
     rw[List.mem_cons]at hp
     rcases hp with rfl|hp
     · exact hn
     · exact i2 p hp
   · rw[jj h];refine ⟨by simp,fun p hp=>?_⟩
     rw[List.mem_singleton]at hp
     subst hp;exact h
abbrev PStep:=List UInt8 × Int
def Q8 (l:List UInt8):Bool:=decide (1≤l.length)&&decide (l.length≤8)&&l.all qG
def Zg (s:PStep):Bool:=decide (0≤s.2)&&decide (s.2≤99)&&(decide (s.1=[])||decide (s.1=[42])||Q8 s.1)
def jK (l:List PStep):Bool:=decide (1≤l.length)&&decide (l.length≤5)&&l.all Zg
/-! path's way -/
def qR (s:List UInt8):Option Int :=
 match Lib.atoiAll (Lib.trimSuffix s [93]) with
 | .ok n=>if Lib.hasSuffix s [93]=true∧n≠0∧Lib.itoa n=Lib.trimSuffix s [93] then some n else none
 | _=>none
def zv (p:List UInt8):Option PStep :=
 match Lib.cut p [91] with
 | (a,b,f)=>if a=[] then none else if f=false then some (if a=[35] then [] else a,0) else (qR b).map fun n=>(if a=[35] then [] else a,n)
def stepsR:List (List UInt8)→Option (List PStep)
 | []=>some []
 | p :: ps => match zv p with
   | none=>none
   | some s => match stepsR ps with
     | none=>none
     | some l=>some (s::l)
def zW (s:List UInt8):Option (List PStep) :=
 if s.length≤2500∧Lib.hasPrefix s [47]=true then
  match stepsR (Lib.split (Lib.trimPrefix s [47]) [47]) with
  | none=>none
  | some l=>if jK l=true then some l else none
 else none
/-! the document's own way: byte by byte -/
end Go.Proofs.YtfdbipeidmpciaaGreatDoor
