/- Paths as texts: what two ways of reading answer, on plain lists: each undoes the telling. No condition. -/
import Derived.Test.YtecimajafhoibaaGreatDoorBundle02
import Derived.Lib.SplitLaws
import Derived.Lib.AtoiAll
import Derived.Lib.ItoaNum
namespace Go.Proofs.YtecimajafhoibaaGreatDoor
open Go
set_option maxRecDepth 100000
theorem qaO (c:UInt8):∀ (a b:List UInt8),c∉a→Lib.index (a++c::b) [c]=((a.length:Nat):Int):=by
 intro a b h;rw[Lib.index_one]
 induction a with
 | nil=>simp[Lib.indexByte]
 | cons x a ih =>
   simp only[List.mem_cons,not_or]at h
   rw[List.cons_append,Lib.indexByte,ih h.2];have:¬ (x==c)=true:=by simpa using fun e=>h.1 e.symm
   rw[if_neg this,if_neg (by simp)]
   simp
theorem KM (c:UInt8):∀ (a:List UInt8),c∉a→Lib.index a [c]=-1:=by
 intro a h;rw[Lib.index_one]
 induction a with
 | nil=>rfl
 | cons x a ih =>
   simp only[List.mem_cons,not_or]at h
   rw[Lib.indexByte,ih h.2];have:¬ (x==c)=true:=by simpa using fun e=>h.1 e.symm
   rw[if_neg this];rfl
theorem Yp {c:UInt8}{a b:List UInt8}(h:c∉a):Lib.cut (a++c::b) [c]=(a,b,true):=by
 unfold Lib.cut;rw[qaO c a b h,if_pos (by omega),Int.toNat_natCast]
 simp[List.drop_append]
theorem KE {c:UInt8}{a:List UInt8}(h:c∉a):Lib.cut a [c]=(a,[],false):=by
 unfold Lib.cut;rw[KM c a h,if_neg (by omega)]
theorem J2 (c:UInt8)(p:List UInt8):(c∉p∧Lib.cut p [c]=(p,[],false))∨∃ a b,p=a++c::b∧c∉a∧Lib.cut p [c]=(a,b,true):=by
 by_cases h:c∈p
 · obtain ⟨a, b, e, hn⟩ := List.eq_append_cons_of_mem h;exact Or.inr ⟨a,b,e,hn,by rw[e];exact Yp hn⟩
 · exact Or.inl ⟨h,KE h⟩
theorem Zh {c:UInt8}{a:List UInt8}(h:c∉a):Lib.split a [c]=[a]:=by
 unfold Lib.split;rw[Lib.count_miss (KM c a h)];rfl
theorem Xr {c:UInt8}{a b:List UInt8}(h:c∉a):Lib.split (a++c::b) [c]=a::Lib.split b [c]:=by
 have hi:=qaO c a b h;unfold Lib.split;rw[Lib.count_hit (by simp) hi]
 have hd:(a++c::b).drop (a.length+[c].length)=b:=by simp[List.drop_append]
 rw[hd,Nat.add_comm 1,Lib.splitK,hi,if_neg (by simp),Int.toNat_natCast,hd]
 simp
theorem qap (c:UInt8):∀ (n:Nat)(s:List UInt8),s.length≤n→((Lib.split s [c]).map fun p=>c::p).flatten=c::s∧∀ p∈Lib.split s [c],c∉p:=by
 intro n
 induction n with
 | zero =>
   intro s hs;have:s=[]:=List.eq_nil_of_length_eq_zero (by omega)
   subst this;rw[Zh (by simp)]
   simp
 | succ n ih =>
   intro s hs
   by_cases h:c∈s
   · obtain ⟨a, b, rfl, hn⟩ := List.eq_append_cons_of_mem h;simp only[List.length_append,List.length_cons]at hs
     obtain ⟨i1,i2⟩:=ih b (by omega)
     rw[Xr hn];refine ⟨by rw[List.map_cons,List.flatten_cons,i1];simp,fun p hp=>?_⟩
     rw[List.mem_cons]at hp
     rcases hp with rfl|hp
     · exact hn
     · exact i2 p hp
   · rw[Zh h];refine ⟨by simp,fun p hp=>?_⟩
     rw[List.mem_singleton]at hp
     subst hp;exact h
theorem qao (c:UInt8):∀ (ps:List (List UInt8))(p:List UInt8),(∀ q∈p::ps,c∉q)→Lib.split (p++(ps.map fun q=>c::q).flatten) [c]=p::ps:=by
 intro ps
 induction ps with
 | nil=>intro p h;simp only[List.map_nil,List.flatten_nil,List.append_nil];exact Zh (h p List.mem_cons_self)
 | cons q ps ih =>
   intro p h;rw[List.map_cons,List.flatten_cons,List.cons_append,Xr (h p List.mem_cons_self),ih q (fun r hr=>h r (List.mem_cons_of_mem _ hr))]
abbrev PStep:=List UInt8 × Int
def Yf (l:List UInt8):Bool:=decide (1≤l.length)&&decide (l.length≤8)&&l.all qL
def ZH (s:PStep):Bool:=decide (0≤s.2)&&decide (s.2≤99)&&(decide (s.1=[])||decide (s.1=[42])||Yf s.1)
def QZ (l:List PStep):Bool:=decide (1≤l.length)&&decide (l.length≤5)&&l.all ZH
def QR (s:PStep):List UInt8:=(if s.1=[] then [35] else s.1)++(if s.2=0 then [] else 91::(Lib.itoa s.2++[93]))
def Yg (l:List PStep):List UInt8:=(l.map fun s=>47::QR s).flatten
/-! path's way -/
def zJ (s:List UInt8):Option Int :=
 match Lib.atoiAll (Lib.trimSuffix s [93]) with
 | .ok n=>if Lib.hasSuffix s [93]=true∧n≠0∧Lib.itoa n=Lib.trimSuffix s [93] then some n else none
 | _=>none
def jI (p:List UInt8):Option PStep :=
 match Lib.cut p [91] with
 | (a,b,f)=>if a=[] then none else if f=false then some (if a=[35] then [] else a,0) else (zJ b).map fun n=>(if a=[35] then [] else a,n)
def stepsR:List (List UInt8)→Option (List PStep)
 | []=>some []
 | p :: ps => match jI p with
   | none=>none
   | some s => match stepsR ps with
     | none=>none
     | some l=>some (s::l)
def jM (s:List UInt8):Option (List PStep) :=
 if s.length≤2500∧Lib.hasPrefix s [47]=true then
  match stepsR (Lib.split (Lib.trimPrefix s [47]) [47]) with
  | none=>none
  | some l=>if QZ l=true then some l else none
 else none
theorem itoa_fact:∀ n:Fin 100,0<n.val→(∀ c∈Lib.itoa (n.val:Int),48≤c.toNat∧c.toNat≤57)∧Lib.atoiAll (Lib.itoa (n.val:Int))=.ok (n.val:Int)∧(Lib.itoa (n.val:Int)).head?≠some 48∧Lib.itoa (n.val:Int)≠[] ∧
 (Lib.itoa (n.val:Int)).foldl (fun x c=>min (10*x+(c.toNat-48)) 1000) 0=n.val:=by decide +kernel
theorem Y1 {n:Int}(h0:1≤n)(h1:n≤99):(∀ c∈Lib.itoa n,48≤c.toNat∧c.toNat≤57)∧Lib.atoiAll (Lib.itoa n)=.ok n∧(Lib.itoa n).head?≠some 48∧Lib.itoa n≠[]∧(Lib.itoa n).foldl (fun x c=>min (10*x+(c.toNat-48)) 1000) 0=n.toNat:=by
 obtain ⟨k,rfl⟩:∃ k:Nat,n=(k:Int):=⟨n.toNat,by omega⟩
 exact itoa_fact ⟨k,by omega⟩ (by show 0<k;omega)
theorem KN {n:Int}(h0:1≤n)(h1:n≤99):zJ (Lib.itoa n++[93])=some n:=by
 have hs:Lib.hasSuffix (Lib.itoa n++[93]) [93]=true:=List.isSuffixOf_iff_suffix.2 ⟨_,rfl⟩;have ht:Lib.trimSuffix (Lib.itoa n++[93]) [93]=Lib.itoa n:=by unfold Lib.trimSuffix;rw[if_pos hs];simp
 unfold zJ;rw[ht,(Y1 h0 h1).2.1]
 show (if Lib.hasSuffix (Lib.itoa n++[93]) [93]=true∧n≠0∧Lib.itoa n=Lib.itoa n then some n else none)=some n
 rw[if_pos ⟨hs,by omega,rfl⟩]
theorem j6 {l:List UInt8}(h:Yf l=true):l≠[]∧∀ c∈l,97≤c.toNat∧c.toNat≤122:=by
 simp only[Yf,Bool.and_eq_true,decide_eq_true_eq,List.all_eq_true]at h
 refine ⟨fun e=>by rw[e]at h;simp at h,fun c hc=>?_⟩
 have:=h.2 c hc;simp only[qL,Bool.and_eq_true,decide_eq_true_eq]at this
 exact this
theorem Je {s:PStep}(h:ZH s=true):∃ a,((s.1=[42]∧a=[42])∨(s.1=[]∧a=[35])∨(Yf s.1=true∧a=s.1))∧((s.2=0∧QR s=a)∨(1≤s.2∧s.2≤99∧QR s=a++91::(Lib.itoa s.2++[93]))):=by
 simp only[ZH,Bool.and_eq_true,Bool.or_eq_true,decide_eq_true_eq]at h
 obtain ⟨⟨h0,h1⟩,hn⟩:=h
 have key:∀ a,(if s.1=[] then [35] else s.1)=a→((s.2=0∧QR s=a)∨(1≤s.2∧s.2≤99∧QR s=a++91::(Lib.itoa s.2++[93]))):=by
  intro a ha;unfold QR;rw[ha]
  by_cases hz:s.2=0
  · exact Or.inl ⟨hz,by simp[hz]⟩
  · exact Or.inr ⟨by omega,h1,by rw[if_neg hz]⟩
 rcases hn with (hn|hn)|hn
 · exact ⟨[35],Or.inr (Or.inl ⟨hn,rfl⟩),key _ (by rw[if_pos hn])⟩
 · exact ⟨[42],Or.inl ⟨hn,rfl⟩,key _ (by rw[if_neg (by rw[hn];simp),hn])⟩
 · exact ⟨s.1,Or.inr (Or.inr ⟨hn,rfl⟩),key _ (by rw[if_neg (j6 hn).1])⟩
theorem Xn {s:PStep}{a:List UInt8}(h:(s.1=[42]∧a=[42])∨(s.1=[]∧a=[35])∨(Yf s.1=true∧a=s.1)):(91:UInt8)∉a∧(47:UInt8)∉a∧a≠[]:=by
 rcases h with ⟨_,rfl⟩|⟨_,rfl⟩|⟨hn,rfl⟩
 · decide
 · decide
 · obtain ⟨h1, h2⟩ := j6 hn;refine ⟨fun hm=>?_,fun hm=>?_,h1⟩
   · have:=h2 _ hm;revert this;decide
   · have:=h2 _ hm;revert this;decide
theorem qb2 {s:PStep}(h:ZH s=true):(47:UInt8)∉QR s:=by
 obtain ⟨a,ha,ht⟩:=Je h;obtain ⟨_,h47,_⟩:=Xn ha
 rcases ht with ⟨_,e⟩|⟨h0,h1,e⟩
 · rw[e];exact h47
 · rw[e];simp only[List.mem_append,List.mem_cons,List.not_mem_nil,or_false,not_or];refine ⟨h47,by decide,fun hm=>?_,by decide⟩
   have:=(Y1 h0 h1).1 _ hm
   revert this;decide
theorem qaq {s:PStep}(h:ZH s=true):jI (QR s)=some s:=by
 obtain ⟨a,ha,ht⟩:=Je h;obtain ⟨h91,_,hne⟩:=Xn ha
 have hnm:(if a=[35] then [] else a)=s.1:=by
  rcases ha with ⟨h1,rfl⟩|⟨h1,rfl⟩|⟨hn,rfl⟩
  · rw[h1];rfl
  · rw[h1];rfl
  · rw[if_neg];intro e;have:=(j6 hn).2 35 (by rw[e];exact List.mem_cons_self)
    revert this;decide
 obtain ⟨s1,s2⟩:=s;simp only at hnm ht
 unfold jI
 rcases ht with ⟨h0,e⟩|⟨h0,h1,e⟩
 · rw[e, KE h91]
   show (if a=[] then none else if false=false then some (if a=[35] then [] else a,0) else (zJ []).map fun n=>(if a=[35] then [] else a,n))=some (s1,s2)
   rw[if_neg hne,if_pos rfl,hnm,h0]
 · rw[e, Yp h91];simp only;rw[if_neg hne,if_neg (by simp),KN h0 h1,hnm]
   rfl
theorem stepsR_back:∀ {l:List PStep},l.all ZH=true→stepsR (l.map QR)=some l:=by
 intro l
 induction l with
 | nil=>intro _;rfl
 | cons s l ih =>
   intro h;simp only[List.all_cons,Bool.and_eq_true]at h
   rw[List.map_cons,stepsR,qaq h.1,ih h.2]
theorem K9 {l:List PStep}(h:QZ l=true)(hl:(Yg l).length≤2500):jM (Yg l)=some l:=by
 have h2:=h;simp only[QZ,Bool.and_eq_true,decide_eq_true_eq]at h2
 cases l with
 | nil=>simp at h2
 | cons s r =>
   have e:Yg (s::r)=47::(QR s++((r.map QR).map fun q=>47::q).flatten):=by unfold Yg;rw[List.map_map];rfl
   have hp:Lib.hasPrefix (Yg (s::r)) [47]=true:=by rw[e];rfl
   have ht:Lib.trimPrefix (Yg (s::r)) [47]=QR s++((r.map QR).map fun q=>47::q).flatten:=by unfold Lib.trimPrefix;rw[if_pos hp,e];rfl
   have hall:=h2.2;unfold jM
   rw[if_pos ⟨hl,hp⟩,ht,qao 47 (r.map QR) (QR s) (fun q hq=>by
    rw[←List.map_cons]at hq
    obtain ⟨x,hx,rfl⟩:=List.mem_map.1 hq;exact qb2 (List.all_eq_true.1 hall x hx)),←List.map_cons,stepsR_back hall]
   simp only;rw[if_pos h]
/-! the document's own way: byte by byte -/
end Go.Proofs.YtecimajafhoibaaGreatDoor
