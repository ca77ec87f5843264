/- Paths as texts: what two ways of reading answer, on plain lists: each undoes the telling. No condition. -/
import Derived.Test.YtfdbipeidmpciaaDoorBundle01
import Derived.Lib.SplitLaws
import Derived.Lib.AtoiAll
import Derived.Lib.ItoaNum
namespace Go.Proofs.YtfdbipeidmpciaaDoor
open Go
set_option maxRecDepth 100000
theorem KS (c:UInt8):∀ (a b:List UInt8),c∉a→Lib.index (a++c::b) [c]=((a.length:Nat):Int):=by
 intro a b h;rw[Lib.index_one]
 induction a with
 | nil=>simp[Lib.indexByte]
 | cons x a ih =>
   simp only[List.mem_cons,not_or]at h
   rw[List.cons_append,Lib.indexByte,ih h.2];have:¬ (x==c)=true:=by simpa using fun e=>h.1 e.symm
   rw[if_neg this,if_neg (by simp)]
   simp
theorem JQ (c:UInt8):∀ (a:List UInt8),c∉a→Lib.index a [c]=-1:=by
 intro a h;rw[Lib.index_one]
 induction a with
 | nil=>rfl
 | cons x a ih =>
   simp only[List.mem_cons,not_or]at h
   rw[Lib.indexByte,ih h.2];have:¬ (x==c)=true:=by simpa using fun e=>h.1 e.symm
   rw[if_neg this];rfl
theorem KP {c:UInt8}{a b:List UInt8}(h:c∉a):Lib.cut (a++c::b) [c]=(a,b,true):=by
 unfold Lib.cut;rw[KS c a b h,if_pos (by omega),Int.toNat_natCast]
 simp[List.drop_append]
theorem JL {c:UInt8}{a:List UInt8}(h:c∉a):Lib.cut a [c]=(a,[],false):=by
 unfold Lib.cut;rw[JQ c a h,if_neg (by omega)]
theorem Yb (c:UInt8)(p:List UInt8):(c∉p∧Lib.cut p [c]=(p,[],false))∨∃ a b,p=a++c::b∧c∉a∧Lib.cut p [c]=(a,b,true):=by
 by_cases h:c∈p
 · obtain ⟨a, b, e, hn⟩ := List.eq_append_cons_of_mem h;exact Or.inr ⟨a,b,e,hn,by rw[e];exact KP hn⟩
 · exact Or.inl ⟨h,JL h⟩
theorem xR {c:UInt8}{a:List UInt8}(h:c∉a):Lib.split a [c]=[a]:=by
 unfold Lib.split;rw[Lib.count_miss (JQ c a h)];rfl
theorem Yz {c:UInt8}{a b:List UInt8}(h:c∉a):Lib.split (a++c::b) [c]=a::Lib.split b [c]:=by
 have hi:=KS c a b h;unfold Lib.split;rw[Lib.count_hit (by simp) hi]
 have hd:(a++c::b).drop (a.length+[c].length)=b:=by simp[List.drop_append]
 rw[hd,Nat.add_comm 1,Lib.splitK,hi,if_neg (by simp),Int.toNat_natCast,hd]
 simp
theorem Zz (c:UInt8):∀ (n:Nat)(s:List UInt8),s.length≤n→((Lib.split s [c]).map fun p=>c::p).flatten=c::s∧∀ p∈Lib.split s [c],c∉p:=by
 intro n
 induction n with
 | zero =>
   intro s hs;have:s=[]:=List.eq_nil_of_length_eq_zero (by omega)
   subst this;rw[xR (by simp)]
   simp
 | succ n ih =>
   intro s hs
   by_cases h:c∈s
   · obtain ⟨a, b, rfl, hn⟩ := List.eq_append_cons_of_mem h;simp only[List.length_append,List.length_cons]at hs
     obtain ⟨i1,i2⟩:=ih b (by omega)
     rw[Yz hn];refine ⟨by rw[List.map_cons,List.flatten_cons,i1];simp,fun p hp=>?_⟩
     rw[List.mem_cons]at hp
     rcases hp with rfl|hp
     · exact hn
     · exact i2 p hp
   · rw[xR h];refine ⟨by simp,fun p hp=>?_⟩
     rw[List.mem_singleton]at hp
     subst hp;exact h
theorem Ks (c:UInt8):∀ (ps:List (List UInt8))(p:List UInt8),(∀ q∈p::ps,c∉q)→Lib.split (p++(ps.map fun q=>c::q).flatten) [c]=p::ps:=by
 intro ps
 induction ps with
 | nil=>intro p h;simp only[List.map_nil,List.flatten_nil,List.append_nil];exact xR (h p List.mem_cons_self)
 | cons q ps ih =>
   intro p h;rw[List.map_cons,List.flatten_cons,List.cons_append,Yz (h p List.mem_cons_self),ih q (fun r hr=>h r (List.mem_cons_of_mem _ hr))]
abbrev PStep:=List UInt8 × Int
def Zn (l:List UInt8):Bool:=decide (1≤l.length)&&decide (l.length≤8)&&l.all qh
def yO (s:PStep):Bool:=decide (0≤s.2)&&decide (s.2≤99)&&(decide (s.1=[])||decide (s.1=[42])||Zn s.1)
def yb (l:List PStep):Bool:=decide (1≤l.length)&&decide (l.length≤5)&&l.all yO
def yC (s:PStep):List UInt8:=(if s.1=[] then [35] else s.1)++(if s.2=0 then [] else 91::(Lib.itoa s.2++[93]))
def yq (l:List PStep):List UInt8:=(l.map fun s=>47::yC s).flatten
/-! path's way -/
def qS (s:List UInt8):Option Int :=
 match Lib.atoiAll (Lib.trimSuffix s [93]) with
 | .ok n=>if Lib.hasSuffix s [93]=true∧n≠0∧Lib.itoa n=Lib.trimSuffix s [93] then some n else none
 | _=>none
def zO (p:List UInt8):Option PStep :=
 match Lib.cut p [91] with
 | (a,b,f)=>if a=[] then none else if f=false then some (if a=[35] then [] else a,0) else (qS b).map fun n=>(if a=[35] then [] else a,n)
def stepsR:List (List UInt8)→Option (List PStep)
 | []=>some []
 | p :: ps => match zO p with
   | none=>none
   | some s => match stepsR ps with
     | none=>none
     | some l=>some (s::l)
def zW (s:List UInt8):Option (List PStep) :=
 if s.length≤2500∧Lib.hasPrefix s [47]=true then
  match stepsR (Lib.split (Lib.trimPrefix s [47]) [47]) with
  | none=>none
  | some l=>if yb l=true then some l else none
 else none
theorem V3 {s:List UInt8}(h:Lib.hasSuffix s [93]=true):s=Lib.trimSuffix s [93]++[93]:=by
 have h1:[93] <:+ s:=List.isSuffixOf_iff_suffix.1 h;obtain ⟨t,rfl⟩:=h1;unfold Lib.trimSuffix;rw[if_pos h];simp
theorem Vs {b:List UInt8}{n:Int}(h:qS b=some n):b=Lib.itoa n++[93]∧n≠0:=by
 unfold qS at h
 split at h
 · split at h
   · rename_i hc
     injection h with h
     subst h;exact ⟨by rw[hc.2.2];exact V3 hc.1,hc.2.1⟩
   · cases h
 · cases h
theorem qa1 {p:List UInt8}{s:PStep}(h:zO p=some s)(hs:yO s=true):p=yC s:=by
 unfold zO at h
 rcases Yb 91 p with ⟨hn,hc⟩|⟨a,b,rfl,hn,hc⟩
 · rw[hc]at h
   simp only at h
   by_cases hp:p=[]
   · rw[if_pos hp]at h;cases h
   · rw[if_neg hp]at h
     simp only[if_true,Option.some.injEq]at h
     subst h;unfold yC
     by_cases h35:p=[35]
     · simp[h35]
     · simp[h35,hp]
 · rw[hc]at h
   simp only at h
   by_cases ha:a=[]
   · rw[if_pos ha]at h;cases h
   · rw[if_neg ha, if_neg (by simp)]at h
     cases hi:qS b with
     | none=>rw[hi]at h;cases h
     | some n =>
       rw[hi]at h
       simp only[Option.map_some,Option.some.injEq]at h
       subst h;obtain ⟨e,hn0⟩:=Vs hi;unfold yC
       by_cases h35:a=[35]
       · simp[h35,hn0,e]
       · simp[h35,ha,hn0,e]
theorem stepsR_eq:∀ {ps:List (List UInt8)}{l:List PStep},stepsR ps=some l→l.all yO=true→ps=l.map yC:=by
 intro ps
 induction ps with
 | nil=>intro l h _;simp only[stepsR,Option.some.injEq]at h;subst h;rfl
 | cons p ps ih =>
   intro l h hl;rw[stepsR]at h
   cases h1:zO p with
   | none=>rw[h1]at h;cases h
   | some s =>
     rw[h1]at h
     cases h2:stepsR ps with
     | none=>rw[h2]at h;cases h
     | some m =>
       rw[h2]at h
       simp only[Option.some.injEq]at h
       subst h;simp only[List.all_cons,Bool.and_eq_true]at hl
       rw[qa1 h1 hl.1,ih h2 hl.2];rfl
theorem VS {s:List UInt8}(h:Lib.hasPrefix s [47]=true):s=47::Lib.trimPrefix s [47]:=by
 have h1:[47] <+: s:=List.isPrefixOf_iff_prefix.1 h;obtain ⟨t,rfl⟩:=h1;unfold Lib.trimPrefix;rw[if_pos h];simp
theorem VL {s:List UInt8}{l:List PStep}(h:zW s=some l):s=yq l∧yb l=true∧s.length≤2500:=by
 unfold zW at h
 split at h
 · rename_i hc
   split at h
   · cases h
   · rename_i m hm
     split at h
     · rename_i hp
       injection h with h
       subst h;have hp2:=hp;simp only[yb,Bool.and_eq_true]at hp2
       have e:=stepsR_eq hm hp2.2;have:=(Zz 47 _ (Lib.trimPrefix s [47]) (Nat.le_refl _)).1;rw[e]at this
       refine ⟨?_,hp,hc.1⟩;rw[VS hc.2,←this];unfold yq;rw[List.map_map];rfl
     · cases h
 · cases h
theorem itoa_fact:∀ n:Fin 100,0<n.val→(∀ c∈Lib.itoa (n.val:Int),48≤c.toNat∧c.toNat≤57)∧Lib.atoiAll (Lib.itoa (n.val:Int))=.ok (n.val:Int)∧(Lib.itoa (n.val:Int)).head?≠some 48∧Lib.itoa (n.val:Int)≠[] ∧
 (Lib.itoa (n.val:Int)).foldl (fun x c=>min (10*x+(c.toNat-48)) 1000) 0=n.val:=by decide +kernel
theorem xJ {n:Int}(h0:1≤n)(h1:n≤99):(∀ c∈Lib.itoa n,48≤c.toNat∧c.toNat≤57)∧Lib.atoiAll (Lib.itoa n)=.ok n∧(Lib.itoa n).head?≠some 48∧Lib.itoa n≠[]∧(Lib.itoa n).foldl (fun x c=>min (10*x+(c.toNat-48)) 1000) 0=n.toNat:=by
 obtain ⟨k,rfl⟩:∃ k:Nat,n=(k:Int):=⟨n.toNat,by omega⟩
 exact itoa_fact ⟨k,by omega⟩ (by show 0<k;omega)
theorem JR {n:Int}(h0:1≤n)(h1:n≤99):qS (Lib.itoa n++[93])=some n:=by
 have hs:Lib.hasSuffix (Lib.itoa n++[93]) [93]=true:=List.isSuffixOf_iff_suffix.2 ⟨_,rfl⟩;have ht:Lib.trimSuffix (Lib.itoa n++[93]) [93]=Lib.itoa n:=by unfold Lib.trimSuffix;rw[if_pos hs];simp
 unfold qS;rw[ht,(xJ h0 h1).2.1]
 show (if Lib.hasSuffix (Lib.itoa n++[93]) [93]=true∧n≠0∧Lib.itoa n=Lib.itoa n then some n else none)=some n
 rw[if_pos ⟨hs,by omega,rfl⟩]
theorem jB {l:List UInt8}(h:Zn l=true):l≠[]∧∀ c∈l,97≤c.toNat∧c.toNat≤122:=by
 simp only[Zn,Bool.and_eq_true,decide_eq_true_eq,List.all_eq_true]at h
 refine ⟨fun e=>by rw[e]at h;simp at h,fun c hc=>?_⟩
 have:=h.2 c hc;simp only[qh,Bool.and_eq_true,decide_eq_true_eq]at this
 exact this
theorem xO {s:PStep}(h:yO s=true):∃ a,((s.1=[42]∧a=[42])∨(s.1=[]∧a=[35])∨(Zn s.1=true∧a=s.1))∧((s.2=0∧yC s=a)∨(1≤s.2∧s.2≤99∧yC s=a++91::(Lib.itoa s.2++[93]))):=by
 simp only[yO,Bool.and_eq_true,Bool.or_eq_true,decide_eq_true_eq]at h
 obtain ⟨⟨h0,h1⟩,hn⟩:=h
 have key:∀ a,(if s.1=[] then [35] else s.1)=a→((s.2=0∧yC s=a)∨(1≤s.2∧s.2≤99∧yC s=a++91::(Lib.itoa s.2++[93]))):=by
  intro a ha;unfold yC;rw[ha]
  by_cases hz:s.2=0
  · exact Or.inl ⟨hz,by simp[hz]⟩
  · exact Or.inr ⟨by omega,h1,by rw[if_neg hz]⟩
 rcases hn with (hn|hn)|hn
 · exact ⟨[35],Or.inr (Or.inl ⟨hn,rfl⟩),key _ (by rw[if_pos hn])⟩
 · exact ⟨[42],Or.inl ⟨hn,rfl⟩,key _ (by rw[if_neg (by rw[hn];simp),hn])⟩
 · exact ⟨s.1,Or.inr (Or.inr ⟨hn,rfl⟩),key _ (by rw[if_neg (jB hn).1])⟩
theorem Yr {s:PStep}{a:List UInt8}(h:(s.1=[42]∧a=[42])∨(s.1=[]∧a=[35])∨(Zn s.1=true∧a=s.1)):(91:UInt8)∉a∧(47:UInt8)∉a∧a≠[]:=by
 rcases h with ⟨_,rfl⟩|⟨_,rfl⟩|⟨hn,rfl⟩
 · decide
 · decide
 · obtain ⟨h1, h2⟩ := jB hn;refine ⟨fun hm=>?_,fun hm=>?_,h1⟩
   · have:=h2 _ hm;revert this;decide
   · have:=h2 _ hm;revert this;decide
theorem VU {s:PStep}(h:yO s=true):(47:UInt8)∉yC s:=by
 obtain ⟨a,ha,ht⟩:=xO h;obtain ⟨_,h47,_⟩:=Yr ha
 rcases ht with ⟨_,e⟩|⟨h0,h1,e⟩
 · rw[e];exact h47
 · rw[e];simp only[List.mem_append,List.mem_cons,List.not_mem_nil,or_false,not_or];refine ⟨h47,by decide,fun hm=>?_,by decide⟩
   have:=(xJ h0 h1).1 _ hm
   revert this;decide
theorem Ku {s:PStep}(h:yO s=true):zO (yC s)=some s:=by
 obtain ⟨a,ha,ht⟩:=xO h;obtain ⟨h91,_,hne⟩:=Yr ha
 have hnm:(if a=[35] then [] else a)=s.1:=by
  rcases ha with ⟨h1,rfl⟩|⟨h1,rfl⟩|⟨hn,rfl⟩
  · rw[h1];rfl
  · rw[h1];rfl
  · rw[if_neg];intro e;have:=(jB hn).2 35 (by rw[e];exact List.mem_cons_self)
    revert this;decide
 obtain ⟨s1,s2⟩:=s;simp only at hnm ht
 unfold zO
 rcases ht with ⟨h0,e⟩|⟨h0,h1,e⟩
 · rw[e, JL h91]
   show (if a=[] then none else if false=false then some (if a=[35] then [] else a,0) else (qS []).map fun n=>(if a=[35] then [] else a,n))=some (s1,s2)
   rw[if_neg hne,if_pos rfl,hnm,h0]
 · rw[e, KP h91];simp only;rw[if_neg hne,if_neg (by simp),JR h0 h1,hnm]
   rfl
theorem stepsR_back:∀ {l:List PStep},l.all yO=true→stepsR (l.map yC)=some l:=by
 intro l
 induction l with
 | nil=>intro _;rfl
 | cons s l ih =>
   intro h;simp only[List.all_cons,Bool.and_eq_true]at h
   rw[List.map_cons,stepsR,Ku h.1,ih h.2]
theorem Xb {l:List PStep}(h:yb l=true)(hl:(yq l).length≤2500):zW (yq l)=some l:=by
 have h2:=h;simp only[yb,Bool.and_eq_true,decide_eq_true_eq]at h2
 cases l with
 | nil=>simp at h2
 | cons s r =>
   have e:yq (s::r)=47::(yC s++((r.map yC).map fun q=>47::q).flatten):=by unfold yq;rw[List.map_map];rfl
   have hp:Lib.hasPrefix (yq (s::r)) [47]=true:=by rw[e];rfl
   have ht:Lib.trimPrefix (yq (s::r)) [47]=yC s++((r.map yC).map fun q=>47::q).flatten:=by unfold Lib.trimPrefix;rw[if_pos hp,e];rfl
   have hall:=h2.2;unfold zW
   rw[if_pos ⟨hl,hp⟩,ht,Ks 47 (r.map yC) (yC s) (fun q hq=>by
    rw[←List.map_cons]at hq
    obtain ⟨x,hx,rfl⟩:=List.mem_map.1 hq;exact VU (List.all_eq_true.1 hall x hx)),←List.map_cons,stepsR_back hall]
   simp only;rw[if_pos h]
/-! the document's own way: byte by byte -/
def qA (c:UInt8):Bool:=decide (48≤c.toNat)&&decide (c.toNat≤57)
def zY (ds:List UInt8):Nat:=ds.foldl (fun x c=>min (10*x+(c.toNat-48)) 1000) 0
def zV (r:List UInt8):Option (List UInt8 × List UInt8) :=
 match r with
 | []=>none
 | c::t=>if c=42 then some ([42],t) else if c=35 then some ([],t) else if r.takeWhile qh=[] then none else some (r.takeWhile qh,r.dropWhile qh)
def QP (r:List UInt8):Option (Nat × List UInt8) :=
  match r with
  | []=>some (0,[])
  | c :: t => if c = 91 then
      (if t.takeWhile qA=[]∨(t.takeWhile qA).head?=some 48∨(t.dropWhile qA).head?≠some 93 then none else some (zY (t.takeWhile qA),(t.dropWhile qA).tail))
    else some (0,c::t)
def zo (r:List UInt8):Option (PStep × List UInt8) :=
 match zV r with
 | none=>none
 | some (nm, r1) => match QP r1 with
   | none=>none
   | some (n,r2)=>some ((nm,(n:Int)),r2)
theorem J3 {r:List UInt8}{nm r1:List UInt8}(h:zV r=some (nm,r1)):r=(if nm=[] then [35] else nm)++r1:=by
 cases r with
 | nil=>cases h
 | cons c t =>
   simp only[zV]at h
   split at h
   · rename_i hc
     simp only[Option.some.injEq,Prod.mk.injEq]at h
     rw[←h.1,←h.2,hc];rfl
   · split at h
     · rename_i _ hc
       simp only[Option.some.injEq,Prod.mk.injEq]at h
       rw[←h.1,←h.2,hc];rfl
     · split at h
       · cases h
       · rename_i hne
         simp only[Option.some.injEq,Prod.mk.injEq]at h
         rw[←h.1,←h.2,if_neg hne,List.takeWhile_append_dropWhile]
theorem ZF (p:UInt8→Bool):∀ l:List UInt8,(l.takeWhile p).all p=true:=by
 intro l
 induction l with
 | nil=>rfl
 | cons c l ih =>
   cases h:p c with
   | true=>simp[h]
   | false=>simp[h]
theorem KR {r r2:List UInt8}{n:Nat}(h:QP r=some (n,r2)):(n=0∧r=r2)∨∃ ds,ds≠[]∧ds.all qA=true∧ds.head?≠some 48∧n=zY ds∧r=91::(ds++93::r2):=by
 cases r with
 | nil=>simp only[QP,Option.some.injEq,Prod.mk.injEq]at h;exact Or.inl ⟨h.1.symm,h.2⟩
 | cons c t =>
   simp only[QP]at h
   split at h
   · rename_i hc
     split at h
     · cases h
     · rename_i hn
       simp only[not_or,Decidable.not_not]at hn
       simp only[Option.some.injEq,Prod.mk.injEq]at h
       refine Or.inr ⟨t.takeWhile qA,hn.1,?_,hn.2.1,h.1.symm,?_⟩
       · exact ZF qA t
       · rw[hc, ←h.2]
         congr 1
         have e:t.dropWhile qA=93::(t.dropWhile qA).tail:=by
          cases hd:t.dropWhile qA with
          | nil=>rw[hd]at hn;simp at hn
          | cons x u=>rw[hd]at hn;simp at hn;rw[hn.2.2];rfl
         rw[←e,List.takeWhile_append_dropWhile]
   · simp only[Option.some.injEq,Prod.mk.injEq]at h;exact Or.inl ⟨h.1.symm,h.2⟩
theorem qa3 {r:List UInt8}{s:PStep}{r2:List UInt8}(h:zo r=some (s,r2)):r2.length<r.length:=by
 unfold zo at h
 cases h1:zV r with
 | none=>rw[h1]at h;cases h
 | some q =>
   obtain ⟨nm,r1⟩:=q;rw[h1]at h
   simp only at h
   cases h2:QP r1 with
   | none=>rw[h2]at h;cases h
   | some q2 =>
     obtain ⟨n,r2'⟩:=q2;rw[h2]at h
     simp only[Option.some.injEq,Prod.mk.injEq]at h
     have e:=J3 h1
     have hl:1≤(if nm=[] then [35] else nm).length:=by
      split
      · decide
      · rename_i hne;exact List.length_pos_iff.2 hne
     have:r.length=(if nm=[] then [35] else nm).length+r1.length:=by rw[e,List.length_append]
     rcases KR h2 with ⟨_,e2⟩|⟨ds,_,_,_,_,e2⟩
     · rw[←h.2,←e2];omega
     · rw[e2]at this;simp at this;rw[←h.2];omega
def goT:Nat→List UInt8→Option (List PStep)
  | _,[]=>some []
  | 0,_::_=>none
  | f + 1, c :: r => if c = 47 then (match zo r with
      | none=>none
      | some (s, r2) => match goT f r2 with
        | none=>none
        | some l=>some (s::l)) else none
def ye (s:List UInt8):Option (List PStep) :=
 if s.length≤2500∧s≠[] then
  match goT s.length s with
  | none=>none
  | some l=>if yb l=true then some l else none
 else none
theorem sat_ge:∀ (ds:List UInt8)(x:Nat),10≤x→1≤ds.length→100≤ds.foldl (fun x c=>min (10*x+(c.toNat-48)) 1000) x:=by
 intro ds
 induction ds with
 | nil=>intro x _ h;simp at h
 | cons c ds ih =>
   intro x hx _;rw[List.foldl_cons];cases ds with
   | nil=>simp only[List.foldl_nil];omega
   | cons d ds=>exact ih _ (by omega) (by simp)
theorem digits2:∀ a b:Fin 10,0<a.val→Lib.itoa ((10*a.val+b.val:Nat):Int)=[UInt8.ofNat (48+a.val),UInt8.ofNat (48+b.val)]:=by decide +kernel
theorem digits1:∀ a:Fin 10,0<a.val→Lib.itoa ((a.val:Nat):Int)=[UInt8.ofNat (48+a.val)]:=by decide +kernel
theorem x7 {c:UInt8}(h:qA c=true):∃ a:Fin 10,c=UInt8.ofNat (48+a.val)∧c.toNat-48=a.val:=by
 simp only[qA,Bool.and_eq_true,decide_eq_true_eq]at h
 refine ⟨⟨c.toNat-48,by omega⟩,?_,rfl⟩
 show c=UInt8.ofNat (48+(c.toNat-48))
 rw[show 48+(c.toNat-48)=c.toNat by omega]
 exact (UInt8.ofNat_toNat).symm
theorem qaX {ds:List UInt8}(h0:ds≠[])(hd:ds.all qA=true)(hz:ds.head?≠some 48)(hs:zY ds≤99):ds=Lib.itoa ((zY ds:Nat):Int)∧zY ds≠0:=by
 match ds,h0 with
 | [c], _ =>
   simp only[List.all_cons,List.all_nil,Bool.and_true]at hd
   obtain ⟨a,rfl,ha⟩:=x7 hd
   have hpos:0<a.val:=by
    rcases Nat.eq_zero_or_pos a.val with h|h
    · exact absurd (by rw[h];rfl) hz
    · exact h
   have:zY [UInt8.ofNat (48+a.val)]=a.val:=by unfold zY;simp only[List.foldl_cons,List.foldl_nil];rw[ha];have:=a.isLt;omega
   rw[this,digits1 a hpos];exact ⟨rfl,by omega⟩
 | [c, d], _ =>
   simp only[List.all_cons,List.all_nil,Bool.and_true,Bool.and_eq_true]at hd
   obtain ⟨a,rfl,ha⟩:=x7 hd.1;obtain ⟨b,rfl,hb⟩:=x7 hd.2
   have hpos:0<a.val:=by
    rcases Nat.eq_zero_or_pos a.val with h|h
    · exact absurd (by rw[h];rfl) hz
    · exact h
   have:zY [UInt8.ofNat (48+a.val),UInt8.ofNat (48+b.val)]=10*a.val+b.val:=by
    unfold zY;simp only[List.foldl_cons,List.foldl_nil];rw[ha,hb];have:=a.isLt;have:=b.isLt;omega
   rw[this,digits2 a b hpos];exact ⟨rfl,by omega⟩
 | c :: d :: e :: r, _ =>
   exfalso
   simp only[List.all_cons,Bool.and_eq_true]at hd
   obtain ⟨a,rfl,ha⟩:=x7 hd.1
   have hpos:0<a.val:=by
    rcases Nat.eq_zero_or_pos a.val with h|h
    · exact absurd (by rw[h];rfl) hz
    · exact h
   unfold zY at hs
   simp only[List.foldl_cons]at hs
   rw[ha]at hs
   have:=sat_ge (e::r) (min (10*(min (10*0+a.val) 1000)+(d.toNat-48)) 1000) (by have:=a.isLt;omega) (by simp)
   rw[List.foldl_cons]at this
   omega
theorem qa2 {r r2:List UInt8}{s:PStep}(h:zo r=some (s,r2))(hs:yO s=true):r=yC s++r2:=by
 unfold zo at h
 cases h1:zV r with
 | none=>rw[h1]at h;cases h
 | some q =>
   obtain ⟨nm,r1⟩:=q;rw[h1]at h
   simp only at h
   cases h2:QP r1 with
   | none=>rw[h2]at h;cases h
   | some q2 =>
     obtain ⟨n,r2'⟩:=q2;rw[h2]at h
     simp only[Option.some.injEq,Prod.mk.injEq]at h
     obtain ⟨rfl,rfl⟩:=h;have e:=J3 h1;simp only[yO,Bool.and_eq_true,decide_eq_true_eq]at hs
     rcases KR h2 with ⟨rfl,e2⟩|⟨ds,g1,g2,g3,g4,e2⟩
     · rw[e,e2];simp[yC]
     · obtain ⟨k1, k2⟩ := qaX g1 g2 g3 (by omega)
       have hn:((n:Nat):Int)≠0:=by omega
       rw[e,e2];unfold yC;simp only;rw[if_neg hn,g4,←k1];simp
theorem goT_eq:∀ (f:Nat)(r:List UInt8)(l:List PStep),goT f r=some l→l.all yO=true→r=yq l:=by
 intro f
 induction f with
 | zero =>
   intro r l h _;cases r with
   | nil=>simp only[goT,Option.some.injEq]at h;subst h;rfl
   | cons c r=>cases h
 | succ f ih =>
   intro r l h hl;cases r with
   | nil=>simp only[goT,Option.some.injEq]at h;subst h;rfl
   | cons c r =>
     simp only[goT]at h
     split at h
     · rename_i hc
       cases h1:zo r with
       | none=>rw[h1]at h;cases h
       | some q =>
         obtain ⟨s,r2⟩:=q;rw[h1]at h
         simp only at h
         cases h2:goT f r2 with
         | none=>rw[h2]at h;cases h
         | some m =>
           rw[h2]at h
           simp only[Option.some.injEq]at h
           subst h;simp only[List.all_cons,Bool.and_eq_true]at hl
           rw[hc,qa2 h1 hl.1,ih r2 m h2 hl.2];rfl
     · cases h
theorem xf {p:UInt8→Bool}:∀ (a r:List UInt8),(∀ c∈a,p c=true)→(r=[]∨∃ c t,r=c::t∧p c=false)→(a++r).takeWhile p=a∧(a++r).dropWhile p=r:=by
 intro a
 induction a with
 | nil =>
   intro r _ h
   rcases h with rfl|⟨c,t,rfl,hc⟩
   · exact ⟨rfl,rfl⟩
   · simp[hc]
 | cons x a ih =>
   intro r h1 h2;obtain ⟨i1,i2⟩:=ih r (fun c hc=>h1 c (List.mem_cons_of_mem _ hc)) h2
   have hx:=h1 x List.mem_cons_self;simp[hx,i1,i2]
theorem Kv {s:PStep}(h:yO s=true){rest:List UInt8}(hr:rest=[]∨∃ t,rest=47::t):zo (yC s++rest)=some (s,rest):=by
 obtain ⟨a,ha,ht⟩:=xO h;obtain ⟨s1,s2⟩:=s;simp only at ha ht
 have hN:∀ q:List UInt8,(q=[]∨∃ c t,q=c::t∧qh c=false)→zV (a++q)=some (s1,q):=by
  intro q hq
  rcases ha with ⟨h1,rfl⟩|⟨h1,rfl⟩|⟨hn,rfl⟩
  · rw[h1];rfl
  · rw[h1];rfl
  · obtain ⟨hne, hb⟩ := jB hn;obtain ⟨w1,w2⟩:=xf (p:=qh) a q (fun c hc=>by have:=hb c hc;simp[qh,this.1,this.2]) hq
    cases a with
    | nil=>exact absurd rfl hne
    | cons c t =>
      have hc:=hb c List.mem_cons_self;have h42:c≠42:=by rintro rfl;revert hc;decide
      have h35:c≠35:=by rintro rfl;revert hc;decide
      rw[List.cons_append]at w1 w2 ⊢
      simp only[zV];rw[if_neg h42,if_neg h35,w1,w2,if_neg (by simp)]
 unfold zo
 rcases ht with ⟨h0,e⟩|⟨h0,h1,e⟩
 · rw[e,hN rest (by
    rcases hr with rfl|⟨t,rfl⟩
    · exact Or.inl rfl
    · exact Or.inr ⟨47,t,rfl,by decide⟩)]
   simp only
   have:QP rest=some (0,rest):=by
    rcases hr with rfl|⟨t,rfl⟩
    · rfl
    · simp[QP]
   rw[this,h0];rfl
 · obtain ⟨g1, _, g3, g4, g5⟩ := xJ h0 h1;rw[e,List.append_assoc,List.cons_append,hN _ (Or.inr ⟨91,_,rfl,by decide⟩)]
   simp only;obtain ⟨w1,w2⟩:=xf (p:=qA) (Lib.itoa s2) (93::rest) (fun c hc=>by have:=g1 c hc;simp[qA,this.1,this.2]) (Or.inr ⟨93,rest,rfl,by decide⟩)
   have e3:91::((Lib.itoa s2++[93])++rest)=91::(Lib.itoa s2++93::rest):=by simp
   rw[e3];simp only[QP,if_true];rw[w1,w2,if_neg (by simp[g3,g4])]
   have e4:zY (Lib.itoa s2)=s2.toNat:=g5;simp only[List.tail_cons];rw[e4,Int.toNat_of_nonneg (by omega)]
theorem goT_back:∀ (l:List PStep)(f:Nat),l.all yO=true→(yq l).length≤f→goT f (yq l)=some l:=by
 intro l
 induction l with
 | nil=>intro f _ _;cases f<;>rfl
 | cons s l ih =>
   intro f h hf;simp only[List.all_cons,Bool.and_eq_true]at h
   have e:yq (s::l)=47::(yC s++yq l):=rfl;rw[e]at hf ⊢
   simp only[List.length_cons,List.length_append]at hf
   obtain ⟨f',rfl⟩:∃ f',f=f'+1:=⟨f-1,by omega⟩
   simp only[goT,if_true]
   rw[Kv h.1 (by
    cases l with
    | nil=>exact Or.inl rfl
    | cons t l=>exact Or.inr ⟨_,rfl⟩)]
   simp only;rw[ih f' h.2 (by omega)]
theorem VM {s:List UInt8}{l:List PStep}(h:ye s=some l):s=yq l∧yb l=true∧s.length≤2500:=by
 unfold ye at h
 split at h
 · rename_i hc
   split at h
   · cases h
   · rename_i m hm
     split at h
     · rename_i hp
       injection h with h
       subst h;have hp2:=hp;simp only[yb,Bool.and_eq_true]at hp2
       exact ⟨goT_eq _ _ _ hm hp2.2,hp,hc.1⟩
     · cases h
 · cases h
theorem Xc {l:List PStep}(h:yb l=true)(hl:(yq l).length≤2500):ye (yq l)=some l:=by
 have h2:=h;simp only[yb,Bool.and_eq_true,decide_eq_true_eq]at h2
 unfold ye
 have hne:yq l≠[]:=by
  cases l with
  | nil=>simp at h2
  | cons s r=>exact List.cons_ne_nil _ _
 rw[if_pos ⟨hl,hne⟩,goT_back l _ h2.2 (Nat.le_refl _)];simp only;rw[if_pos h]
theorem Kf (s:List UInt8):zW s=ye s:=by
 cases h1:zW s with
 | some l =>
   obtain ⟨e,hp,hl⟩:=VL h1;rw[e]at hl ⊢
   exact (Xc hp hl).symm
 | none =>
   cases h2:ye s with
   | none=>rfl
   | some l =>
     obtain ⟨e,hp,hl⟩:=VM h2;rw[e]at hl h1
     rw[Xb hp hl]at h1
     cases h1
end Go.Proofs.YtfdbipeidmpciaaDoor
