/- What is joined is joined, and what is right is as it was: as plain functions. No condition. -/
import Derived.Test.YtfdbipeidmpciaaJoined
import Derived.Test.YtfdbipeidmpciaaRoom
namespace Go.Proofs.Ytfdbipeidmpciaa
def Clean:List Tr→Prop
 | []=>True
 | t::r=>(t.text=true→t.s.data.toList≠[]∧∀ u r',r=u::r'→u.text=false)∧Clean r
theorem yB (ts:List Tr):Clean (jt ts):=by
 induction ts with
 | nil=>simp[jt,Clean]
 | cons t r ih =>
   by_cases ht:t.text=true
   · rw[yk t r ht]
     split
     · exact ih
     · rename_i hs
       split
       · exact ⟨fun _=>⟨hs,fun u r' h=>by cases h⟩,trivial⟩
       · rename_i u r' hj
         rw[hj]at ih
         split
         · rename_i hu
           refine ⟨fun _=>⟨?_,?_⟩,ih.2⟩
           · show (sOf (t.s.data.toList ++ u.s.data.toList)).data.toList ≠ []
             simp only[sOf,ne_eq,List.append_eq_nil_iff,not_and];intro h;exact absurd h hs
           · exact (ih.1 hu).2
         · rename_i hu
           refine ⟨fun _=>⟨hs,fun x r'' h=>?_⟩,ih⟩
           cases h
           simpa using hu
   · rw[zN t r (by simpa using ht)]
     exact ⟨fun h=>absurd h ht,ih⟩
theorem xv {ts:List Tr}(h:Clean ts):jt ts=ts:=by
 induction ts with
 | nil=>rfl
 | cons t r ih =>
   have ihr:=ih h.2
   by_cases ht:t.text=true
   · rw[yk t r ht, if_neg (h.1 ht).1, ihr];cases r with
     | nil=>rfl
     | cons u r'=>simp[(h.1 ht).2 u r' rfl]
   · rw[zN t r (by simpa using ht),ihr]
theorem Clean.map {ts:List Tr}(f:Tr→Tr)(h1:∀ t,(f t).text=t.text)(h2:∀ t,(f t).s=t.s)(h:Clean ts):Clean (ts.map f):=by
 induction ts with
 | nil=>trivial
 | cons t r ih =>
   refine ⟨fun ht=>?_,ih h.2⟩
   rw[h1]at ht
   rw[h2];refine ⟨(h.1 ht).1,fun u r' hr=>?_⟩
   cases r with
   | nil=>cases hr
   | cons x y =>
     simp only[List.map_cons,List.cons.injEq]at hr
     rw[←hr.1,h1];exact (h.1 ht).2 x y rfl
theorem x6 {ts:List Tr}(h:Clean ts):∀ (i:Nat)(t:Tr),ts[i]?=some t→t.text=true→t.s.data.toList≠[]∧∀ j u,i=j+1→ts[j]?=some u→u.text=false:=by
 induction ts with
 | nil=>intro i t ht;simp at ht
 | cons x r ih =>
   intro i t ht htx;cases i with
   | zero =>
     simp at ht
     subst ht;exact ⟨(h.1 htx).1,fun j u hj=>by omega⟩
   | succ i =>
     have hti:r[i]?=some t:=by simpa using ht
     obtain ⟨h1,h2⟩:=ih h.2 i t hti htx;refine ⟨h1,fun j u hj hu=>?_⟩
     have hji:j=i:=by omega
     subst hji;cases j with
     | zero =>
       simp at hu
       subst hu;cases hxt:x.text with
       | false=>rfl
       | true =>
         cases r with
         | nil=>simp at hti
         | cons y r' =>
           simp at hti
           subst hti;rw[(h.1 hxt).2 y r' rfl]at htx
           cases htx
     | succ j=>exact h2 j u rfl (by simpa using hu)
theorem Qa (n:Nat):∀ t,jk n (jk n t)=jk n t:=by
 induction n with
 | zero=>intro t;cases t;rfl
 | succ n ih =>
   intro t
   show ({ (jk (n+1) t) with kids:=(jt (jk (n+1) t).kids).map (jk n) }:Tr)=jk (n+1) t
   have e:(jk (n+1) t).kids=(jt t.kids).map (jk n):=rfl
   have e2:(jt ((jt t.kids).map (jk n))).map (jk n)=(jt t.kids).map (jk n):=by
    rw[xv ((yB t.kids).map (jk n) (zi n) (jm n)),List.map_map];exact List.map_congr_left (fun x _=>ih x)
   rw[e,e2];rfl
def qv (n:Nat)(ts:List Tr):List Tr:=(jt ts).map (jk n)
theorem j5 (n:Nat)(ts:List Tr):qv n (qv n ts)=qv n ts:=by
 unfold qv;rw[xv ((yB ts).map (jk n) (zi n) (jm n)),List.map_map];exact List.map_congr_left (fun x _=>Qa n x)
theorem j3 (n:Nat)(ts:List Tr):Clean (qv n ts):=(yB ts).map (jk n) (zi n) (jm n)
def Deep:Nat→List Tr→Prop
 | 0,ts=>ts=[]
 | n+1,ts=>∀ t∈ts,Deep n t.kids
theorem qa.deep {S:Nat→Prop}{w:World}:∀ (n:Nat){v:Value}{ts:List Tr},qa S w n v ts→Deep n ts
 | 0,_,_,h=>h.1
 | n + 1, _, ts, h => by
   obtain ⟨a,cap,_,_,_,h4⟩:=h;intro t ht;obtain ⟨i,hi⟩:=List.mem_iff_getElem?.1 ht;obtain ⟨b,o,_,_,hc⟩:=h4 (by intro e;subst e;simp at ht)
   obtain ⟨va,vk,_,_,_,_,_,hk⟩:=hc i t hi;exact qa.deep n hk
def HClean:Nat→List Tr→Prop
 | 0,ts=>ts=[]
 | d+1,ts=>Clean ts∧∀ t∈ts,HClean d t.kids
theorem Qo (f:Int→List Tr→Int)(Q:List Tr→Prop)(hf:∀ room l,0≤f room l→Q l):∀ (l:List Tr)(p:Bool)(room:Int),0≤rl f p room l→0≤room →
 Clean l∧(∀ t r,l=t::r→p=true→t.text=false)∧∀ t∈l,Q t.kids:=by
 intro l
 induction l with
 | nil=>intro p room _ _;exact ⟨trivial,by simp,by simp⟩
 | cons t r ih =>
   intro p room h h0;unfold rl at h
   split at h
   · omega
   · rename_i h1
     split at h
     · omega
     · rename_i h2
       obtain ⟨i1,i2,i3⟩:=ih t.text (f room t.kids) h (by omega)
       simp only[Bool.or_eq_true,Bool.not_eq_true',Bool.and_eq_true,not_or,not_and]at h1
       refine ⟨⟨fun ht=>⟨?_,fun u r' hr=>i2 u r' hr ht⟩,i1⟩,?_,?_⟩
       · have := h1.1;simp only[qt,ht,if_true]at this
         intro hnil;rw[ByteArray.toList_eq,hnil]at this
         simp at this
       · intro x y hxy hp;cases hxy
         simpa using h1.2 hp
       · intro x hx
         rcases List.mem_cons.1 hx with rfl|hx
         · exact hf room _ (by omega)
         · exact i3 x hx
theorem rb_clean:∀ (d:Nat)(room:Int)(l:List Tr),0≤rb d room l→HClean (d+1) l:=by
 intro d
 induction d with
 | zero =>
   intro room l h;unfold rb at h
   split at h
   · rename_i he
     have:l=[]:=by simpa using he
     subst this;exact ⟨trivial,by simp⟩
   · omega
 | succ d ih =>
   intro room l h;unfold rb at h
   split at h
   · rename_i he
     have:l=[]:=by simpa using he
     subst this;exact ⟨trivial,by simp⟩
   · split at h
     · omega
     · obtain ⟨h1, _, h3⟩ := Qo (rb d) (HClean (d + 1)) (fun room l h => ih room l h) l false _ h (by omega)
       exact ⟨h1,h3⟩
theorem join_id:∀ (n d:Nat)(ts:List Tr),HClean d ts→Deep (n+1) ts→qv n ts=ts:=by
 intro n
 induction n with
 | zero =>
   intro d ts h hd;unfold qv;cases d with
   | zero=>rw[h];rfl
   | succ d =>
     rw[xv h.1]
     conv=>rhs;rw[←List.map_id ts]
     refine List.map_congr_left (fun t ht=>?_)
     have:=hd t ht;cases t;simp only[Deep]at this
     subst this;rfl
 | succ n ih =>
   intro d ts h hd;unfold qv;cases d with
   | zero=>rw[h];rfl
   | succ d =>
     rw[xv h.1]
     conv=>rhs;rw[←List.map_id ts]
     refine List.map_congr_left (fun t ht=>?_)
     have e:=ih d t.kids (h.2 t ht) (hd t ht)
     show ({ t with kids:=qv n t.kids }:Tr)=t
     rw[e];cases t;rfl
theorem jh {n:Nat}{ts:List Tr}(h:qU ts=true)(hd:Deep (n+1) ts):qv n ts=ts :=
 join_id n 9 ts (rb_clean 8 80 ts (by simpa[qU] using h)) hd
theorem Small.map {n:Nat}{ts:List Tr}(f:Tr→Tr)(h1:∀ t,(f t).s=t.s)(h2:∀ t,(f t).attrs=t.attrs)(h3:∀ t∈ts,Small n (f t).kids)(h:Small (n+1) ts):Small (n+1) (ts.map f):=by
 obtain ⟨a,b,c⟩:=h
 have e:∀ l:List Tr,catL (l.map f)=catL l:=by
  intro l
  induction l with
  | nil=>rfl
  | cons t r ih=>simp[catL,h1,ih]
 refine ⟨by rw[List.length_map];exact a,by rw[e];exact b,fun t ht=>?_⟩
 obtain ⟨x,hx,rfl⟩:=List.mem_map.1 ht;obtain ⟨c1,c2,_⟩:=c x hx;exact ⟨by rw[h2];exact c1,by rw[h1];exact c2,h3 x hx⟩
theorem jk_small:∀ (n:Nat)(t:Tr),Small n t.kids→Small n (jk n t).kids:=by
 intro n
 induction n with
 | zero=>intro t _;trivial
 | succ n ih =>
   intro t h;have hj:=zO h;exact Small.map (jk n) (jm n) (zd n) (fun x hx=>ih x (hj.2.2 x hx).2.2) hj
theorem j4 {n:Nat}{ts:List Tr}(h:Small (n+1) ts):Small (n+1) (qv n ts):=by
 have hj:=zO h;exact Small.map (jk n) (jm n) (zd n) (fun x hx=>jk_small n x (hj.2.2 x hx).2.2) hj
theorem xr (n:Nat)(f:Tr→Tr)(h:∀ t,cnt n (f t).kids≤cnt n t.kids)(ts:List Tr):cnt (n+1) (ts.map f)≤cnt (n+1) ts:=by
 induction ts with
 | nil=>simp
 | cons t r ih=>rw[List.map_cons,qp,qp];have:=h t;omega
theorem jk_cnt:∀ (n:Nat)(t:Tr),cnt n (jk n t).kids≤cnt n t.kids:=by
 intro n
 induction n with
 | zero=>intro t;simp[cnt]
 | succ n ih =>
   intro t;exact Nat.le_trans (xr n (jk n) ih (jt t.kids)) (yt n t.kids)
theorem Qb (n:Nat)(ts:List Tr):cnt (n+1) (qv n ts)≤cnt (n+1) ts :=
 Nat.le_trans (xr n (jk n) (jk_cnt n) (jt ts)) (yt n ts)
end Go.Proofs.Ytfdbipeidmpciaa
