/- Joined lists of trees as plain functions, and what holds of them. No condition. -/
import Derived.Test.YtfdbipeidmpciaaOne
import Derived.Test.YtfdbipeidmpciaaAhead
namespace Go.Proofs.Ytfdbipeidmpciaa
def sOf (l:List UInt8):ByteArray:=⟨l.toArray⟩
theorem zH (s:ByteArray):sOf s.data.toList=s:=by cases s;simp[sOf]
theorem zm (a b:List UInt8):sOf a++sOf b=sOf (a++b):=by
 apply ByteArray.ext
 simp[sOf,ByteArray.data_append]
theorem qG (s:ByteArray):s.size=s.data.toList.length:=by rw[Array.length_toList];rfl
theorem zf (l:List UInt8):(sOf l).size=l.length:=by rw[qG];simp[sOf]
def jt:List Tr→List Tr
 | []=>[]
 | t :: r =>
   if t.text then
    if t.s.data.toList=[] then jt r
    else match jt r with
     | []=>[t]
     | u::r'=>if u.text then { t with s:=sOf (t.s.data.toList++u.s.data.toList) }::r' else t::u::r'
   else t::jt r
theorem yk (t:Tr)(r:List Tr)(ht:t.text=true):jt (t::r) =
 if t.s.data.toList=[] then jt r
 else match jt r with
  | []=>[t]
  | u::r'=>if u.text then { t with s:=sOf (t.s.data.toList++u.s.data.toList) }::r' else t::u::r':=by
 show (if t.text then _ else _)=_
 rw[if_pos ht]
def qk (p:List Tr):List Tr :=
 match firstNE p with
 | none=>[]
 | some t=>[{ t with s:=sOf (catL p) }]
theorem jH {p:List Tr}{t:Tr}(h:firstNE p=some t):t∈p:=by
 induction p with
 | nil=>simp[firstNE]at h
 | cons u r ih =>
   unfold firstNE at h
   split at h
   · exact List.mem_cons_of_mem _ (ih h)
   · cases h;exact List.mem_cons_self
theorem Qy {q:List Tr}(hq:∀ u r,q=u::r→u.text=false):∀ u r,jt q=u::r→u.text=false:=by
 intro u r h;cases q with
 | nil=>simp[jt]at h
 | cons x q' =>
   have hx:=hq x q' rfl;unfold jt at h
   simp only[hx]at h
   simp at h
   rw[←h.1];exact hx
theorem QN (p q:List Tr)(hp:∀ t∈p,t.text=true)(hq:∀ u r,q=u::r→u.text=false):jt (p++q)=qk p++jt q:=by
 induction p with
 | nil=>simp[qk,firstNE]
 | cons t p' ih =>
   have ih':=ih (fun u hu=>hp u (List.mem_cons_of_mem _ hu))
   have ht:t.text=true:=hp t List.mem_cons_self;rw[List.cons_append];rw[yk t _ ht]
   by_cases hs:t.s.data.toList=[]
   · rw[if_pos hs, ih'];have e1:firstNE (t::p')=firstNE p':=by show (if _ then _ else _)=_;rw[if_pos hs]
     have e2:catL (t::p')=catL p':=by show _++_=_;rw[hs];rfl
     unfold qk;rw[e1,e2]
   · rw[if_neg hs, ih'];have e1:firstNE (t::p')=some t:=by show (if _ then _ else _)=_;rw[if_neg hs]
     have e2:catL (t::p')=t.s.data.toList++catL p':=rfl;have e3:qk (t::p')=[{ t with s:=sOf (t.s.data.toList++catL p') }]:=by unfold qk;rw[e1,e2]
     rw[e3];cases hf:firstNE p' with
     | none =>
       have hc:=(qI p').1 hf;have ej:qk p'=[]:=by unfold qk;rw[hf]
       rw[ej,hc,List.append_nil,zH];simp only[List.nil_append,List.cons_append];cases hj:jt q with
       | nil=>cases t;rfl
       | cons u r=>simp only[Qy hq u r hj];cases t;simp
     | some x =>
       have hx:x.text=true:=hp x (List.mem_cons_of_mem _ (jH hf));have ej:qk p'=[{ x with s:=sOf (catL p') }]:=by unfold qk;rw[hf]
       rw[ej];simp only[List.cons_append,List.nil_append,hx,if_true];simp[sOf]
theorem yT (ts:List Tr):(∀ t∈ts.take (ahead ts),t.text=true)∧(∀ u r,ts.drop (ahead ts)=u::r→u.text=false):=by
 induction ts with
 | nil=>simp[ahead]
 | cons t r ih =>
   unfold ahead
   by_cases ht:t.text=true
   · rw[if_pos ht];refine ⟨fun x hx=>?_,fun u q hu=>ih.2 u q (by simpa using hu)⟩
     simp only[List.take_succ_cons,List.mem_cons]at hx
     rcases hx with rfl|hx
     · exact ht
     · exact ih.1 x hx
   · rw[if_neg ht];refine ⟨by simp,fun u q hu=>?_⟩
     simp at hu
     rw[←hu.1];simpa using ht
theorem jK (ts:List Tr):jt ts=qk (ts.take (ahead ts))++jt (ts.drop (ahead ts)):=by
 have h:=yT ts;have:=QN _ _ h.1 h.2;rw[List.take_append_drop]at this
 exact this
theorem zN (t:Tr)(r:List Tr)(h:t.text=false):jt (t::r)=t::jt r:=by
 show (if t.text then _ else _)=_
 rw[h];rfl
def Small:Nat→List Tr→Prop
 | 0,_=>True
 | n+1,ts=>ts.length≤1048576∧(catL ts).length≤1099511627776∧∀ t∈ts,t.attrs.length≤1048576∧t.s.size≤1099511627776∧Small n t.kids
theorem Small.sub {n:Nat}{a b c:List Tr}(h:Small (n+1) (a++b++c)):Small (n+1) b:=by
 obtain ⟨h1,h2,h3⟩:=h;rw[qx,qx]at h2
 simp only[List.length_append]at h1 h2
 exact ⟨by omega,by omega,fun t ht=>h3 t (by simp[ht])⟩
theorem Small.drop {n k:Nat}{ts:List Tr}(h:Small (n+1) ts):Small (n+1) (ts.drop k) :=
 Small.sub (a:=ts.take k) (c:=[]) (by simpa using h)
theorem Small.take {n k:Nat}{ts:List Tr}(h:Small (n+1) ts):Small (n+1) (ts.take k) :=
 Small.sub (a:=[]) (c:=ts.drop k) (by simpa using h)
theorem xH (ts:List Tr):(jt ts).length≤ts.length:=by
 induction ts with
 | nil=>simp[jt]
 | cons t r ih =>
   unfold jt
   split
   · split
     · simp;omega
     · split
       · simp
       · rename_i u r' hj
         rw[hj]at ih
         split<;>simp at*<;> omega
   · simp;omega
theorem Qc (ts:List Tr):(catL (jt ts)).length≤(catL ts).length:=by
 induction ts with
 | nil=>simp[jt]
 | cons t r ih =>
   unfold jt
   split
   · split
     · simp[catL];omega
     · split
       · simp[catL]
       · rename_i u r' hj
         rw[hj]at ih
         split<;>simp[catL,sOf] at*<;> omega
   · simp[catL];omega
theorem zO {n:Nat}{ts:List Tr}(h:Small (n+1) ts):Small (n+1) (jt ts):=by
 obtain ⟨h1,h2,h3⟩:=h;refine ⟨Nat.le_trans (xH ts) h1,Nat.le_trans (Qc ts) h2,?_⟩;clear h1
 induction ts with
 | nil=>simp[jt]
 | cons t r ih =>
   have hc:(catL (t::r)).length=t.s.data.toList.length+(catL r).length:=by simp[catL]
   have ih':=ih (by omega) (fun x hx=>h3 x (List.mem_cons_of_mem _ hx))
   have ht:=h3 t List.mem_cons_self;intro x hx;unfold jt at hx
   split at hx
   · split at hx
     · exact ih' x hx
     · split at hx
       · simp at hx;subst hx;exact ht
       · rename_i u r' hj
         rw[hj]at ih'
         split at hx
         · rcases List.mem_cons.1 hx with rfl | hx
           · refine ⟨ht.1, ?_, ht.2.2⟩;have hcu:=Qc r;rw[hj]at hcu
             have e:(catL (u::r')).length=u.s.data.toList.length+(catL r').length:=by simp[catL]
             show (t.s.data.toList++u.s.data.toList).toArray.size≤_
             simp only[List.size_toArray,List.length_append];omega
           · exact ih' x (List.mem_cons_of_mem _ hx)
         · rcases List.mem_cons.1 hx with rfl | hx
           · exact ht
           · exact ih' x hx
   · rcases List.mem_cons.1 hx with rfl | hx
     · exact ht
     · exact ih' x hx
end Go.Proofs.Ytfdbipeidmpciaa
