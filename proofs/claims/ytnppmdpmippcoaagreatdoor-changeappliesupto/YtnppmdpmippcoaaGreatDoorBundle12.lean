/- Bundled: TurnM WrongW BenchW TreeO AgainW RefAg CopyD TreeC SameN SameDR IsDocR. What each says stands ahead of it. -/
import Derived.Test.YtnppmdpmippcoaaGreatDoorBundle11
namespace Go.Proofs.YtnppmdpmippcoaaGreatDoor
open Go.RowKit
set_option maxRecDepth 100000
def yf (l:List Opn)(k:Int)(n:Int):List Opn:=l.filter fun o=>decide (o.kind=k)&&decide (o.target=n)
def qJ (l:List Opn)(k:Int)(n:Int):List Tr:=(yf l k n).flatMap (·.content)
def qP (n:Int)(a:List (ByteArray × ByteArray))(o:Opn):List (ByteArray × ByteArray) :=
 if o.target≠n∨o.kind<9 then a else if o.kind=9 then zJ a o.name o.s else zP a o.name
def turnF:Nat→List Nd→List Opn→Nat→List Tr
 | 0,_,_,_=>[]
 | f + 1, ns, l, n => match ns[n]? with
   | none=>[]
   | some x =>
     let t:Tr:=⟨x.text,
      if x.text then ((yf l 7 n).getLast?.map (·.s)).getD (((yf l 8 n).getLast?.map (·.name)).getD x.s) else ((yf l 8 n).getLast?.map (·.name)).getD x.s,
      l.foldl (qP n) x.attrs,
      if x.text then [] else match (yf l 7 n).getLast? with
       | some o=>[valT o.s]
       | none=>qJ l 1 n++(x.kids.flatMap (fun k=>turnF f ns l k.toNat)++qJ l 2 n)⟩
     qJ l 3 n++((if (yf l 6 n).isEmpty then (if (yf l 5 n).isEmpty then [t] else []) else qJ l 6 n)++qJ l 4 n)
theorem jH {l:List Opn}(h:∀ o∈l,0≤o.target)(k:Int)(n:Nat):yf l k n=ofK l k n:=by
 unfold yf ofK inK;refine List.filter_congr (fun o ho=>?_)
 have:=h o ho
 congr 1
 rw[decide_eq_decide];omega
theorem fold_ren:∀ (L:List Opn)(s:Sg),L.foldl (fun s o=>gOf 8 o s) s={ s with nm:=(L.getLast?.map (·.name)).or s.nm }:=by
 intro L
 induction L with
 | nil=>intro s;simp
 | cons o L ih =>
   intro s;rw[List.foldl_cons,ih];have:gOf 8 o s=Jp o s:=rfl;rw[this];cases L with
   | nil=>simp[Jp]
   | cons p L=>simp[Jp,List.getLast?_cons]
theorem fold_val:∀ (L:List Opn)(s:Sg),L.foldl (fun s o=>gOf 7 o s) s={ s with val:=(L.getLast?.map (·.s)).or s.val }:=by
 intro L
 induction L with
 | nil=>intro s;simp
 | cons o L ih =>
   intro s;rw[List.foldl_cons,ih];have:gOf 7 o s=Zl o s:=rfl;rw[this];cases L with
   | nil=>simp[Zl]
   | cons p L=>simp[Zl,List.getLast?_cons]
theorem fold_set:∀ (L:List Opn)(s:Sg),L.foldl (fun s o=>gOf 9 o s) s={ s with attrs:=L.foldl (fun a o=>zJ a o.name o.s) s.attrs }:=by
 intro L
 induction L with
 | nil=>intro s;rfl
 | cons o L ih=>intro s;rw[List.foldl_cons,ih];rfl
theorem fold_drop:∀ (L:List Opn)(s:Sg),L.foldl (fun s o=>gOf 10 o s) s={ s with attrs:=L.foldl (fun a o=>zP a o.name) s.attrs }:=by
 intro L
 induction L with
 | nil=>intro s;rfl
 | cons o L ih=>intro s;rw[List.foldl_cons,ih];rfl
theorem fold_bef:∀ (L:List Opn)(s:Sg),L.foldl (fun s o=>gOf 3 o s) s={ s with bef:=s.bef++L.flatMap (·.content) }:=by
 intro L
 induction L with
 | nil=>intro s;simp
 | cons o L ih=>intro s;rw[List.foldl_cons,ih];simp[gOf,Qa,List.flatMap_cons]
theorem fold_last:∀ (L:List Opn)(s:Sg),L.foldl (fun s o=>gOf 2 o s) s={ s with last:=s.last++L.flatMap (·.content) }:=by
 intro L
 induction L with
 | nil=>intro s;simp
 | cons o L ih=>intro s;rw[List.foldl_cons,ih];simp[gOf,xv,List.flatMap_cons]
theorem fold_first:∀ (L:List Opn)(s:Sg),L.foldl (fun s o=>gOf 1 o s) s={ s with first:=L.reverse.flatMap (·.content)++s.first }:=by
 intro L
 induction L with
 | nil=>intro s;simp
 | cons o L ih=>intro s;rw[List.foldl_cons,ih];simp[gOf,jE,List.flatMap_append]
theorem fold_aft:∀ (L:List Opn)(s:Sg),L.foldl (fun s o=>gOf 4 o s) s={ s with aft:=L.reverse.flatMap (·.content)++s.aft }:=by
 intro L
 induction L with
 | nil=>intro s;simp
 | cons o L ih=>intro s;rw[List.foldl_cons,ih];simp[gOf,Xq,List.flatMap_append]
theorem fold_rep:∀ (L:List Opn)(s:Sg),L.foldl (fun s o=>gOf 6 o s) s={ s with bef:=s.bef++L.flatMap (·.content),gone:=s.gone||!L.isEmpty }:=by
 intro L
 induction L with
 | nil=>intro s;simp
 | cons o L ih=>intro s;rw[List.foldl_cons,ih];simp[gOf,Xr,jF,Qa,List.flatMap_cons]
theorem fold_gone:∀ (L:List Opn)(s:Sg),L.foldl (fun s o=>gOf 5 o s) s={ s with gone:=s.gone||!L.isEmpty }:=by
 intro L
 induction L with
 | nil=>intro s;simp
 | cons o L ih=>intro s;rw[List.foldl_cons,ih];simp[gOf,jF]
theorem Kt (l:List Opn)(k:Int)(n:Nat):ofK l.reverse k n=(ofK l k n).reverse:=by unfold ofK;rw[List.filter_reverse]
theorem Ky {ns:List Nd}{l:List Opn}{n:Nat}{x:Nd}(hx:ns[n]?=some x):yB ns l n=⟨(ofK l 8 n).getLast?.map (·.name),(ofK l 10 n).foldl (fun a o=>zP a o.name) ((ofK l 9 n).foldl (fun a o=>zJ a o.name o.s) x.attrs),(ofK l 1 n).flatMap (·.content),(ofK l 2 n).flatMap (·.content),(ofK l 3 n).flatMap (·.content)++(ofK l 6 n).flatMap (·.content),(ofK l 4 n).flatMap (·.content),!(ofK l 6 n).isEmpty||!(ofK l 5 n).isEmpty,(ofK l 7 n).getLast?.map (·.s)⟩:=by
 have h0:zk ns n=sg0 x:=by unfold zk;rw[hx]
 have e8:doF 8 (zk ns) l n=(⟨(ofK l 8 n).getLast?.map (·.name),x.attrs,[],[],[],[],false,none⟩:Sg):=(jT 8 n l (zk ns)).trans ((congrArg (fun s=>List.foldl (fun s o=>gOf 8 o s) s (ofK l 8 n)) h0).trans ((fold_ren _ _).trans (by simp[sg0])))
 have e9:doF 9 (doF 8 (zk ns) l) l n=(⟨(ofK l 8 n).getLast?.map (·.name),(ofK l 9 n).foldl (fun a o=>zJ a o.name o.s) x.attrs,[],[],[],[],false,none⟩:Sg):=(jT 9 n l (doF 8 (zk ns) l)).trans ((congrArg (fun s=>List.foldl (fun s o=>gOf 9 o s) s (ofK l 9 n)) e8).trans ((fold_set _ _).trans (rfl)))
 have e10:doF 10 (doF 9 (doF 8 (zk ns) l) l) l n=(⟨(ofK l 8 n).getLast?.map (·.name),(ofK l 10 n).foldl (fun a o=>zP a o.name) ((ofK l 9 n).foldl (fun a o=>zJ a o.name o.s) x.attrs),[],[],[],[],false,none⟩:Sg):=(jT 10 n l (doF 9 (doF 8 (zk ns) l) l)).trans ((congrArg (fun s=>List.foldl (fun s o=>gOf 10 o s) s (ofK l 10 n)) e9).trans ((fold_drop _ _).trans (rfl)))
 have e3:doF 3 (doF 10 (doF 9 (doF 8 (zk ns) l) l) l) l n=(⟨(ofK l 8 n).getLast?.map (·.name),(ofK l 10 n).foldl (fun a o=>zP a o.name) ((ofK l 9 n).foldl (fun a o=>zJ a o.name o.s) x.attrs),[],[],(ofK l 3 n).flatMap (·.content),[],false,none⟩:Sg):=(jT 3 n l (doF 10 (doF 9 (doF 8 (zk ns) l) l) l)).trans ((congrArg (fun s=>List.foldl (fun s o=>gOf 3 o s) s (ofK l 3 n)) e10).trans ((fold_bef _ _).trans (rfl)))
 have e2:doF 2 (doF 3 (doF 10 (doF 9 (doF 8 (zk ns) l) l) l) l) l n=(⟨(ofK l 8 n).getLast?.map (·.name),(ofK l 10 n).foldl (fun a o=>zP a o.name) ((ofK l 9 n).foldl (fun a o=>zJ a o.name o.s) x.attrs),[],(ofK l 2 n).flatMap (·.content),(ofK l 3 n).flatMap (·.content),[],false,none⟩:Sg):=(jT 2 n l (doF 3 (doF 10 (doF 9 (doF 8 (zk ns) l) l) l) l)).trans ((congrArg (fun s=>List.foldl (fun s o=>gOf 2 o s) s (ofK l 2 n)) e3).trans ((fold_last _ _).trans (rfl)))
 have e1:doF 1 (doF 2 (doF 3 (doF 10 (doF 9 (doF 8 (zk ns) l) l) l) l) l) l.reverse n=(⟨(ofK l 8 n).getLast?.map (·.name),(ofK l 10 n).foldl (fun a o=>zP a o.name) ((ofK l 9 n).foldl (fun a o=>zJ a o.name o.s) x.attrs),(ofK l 1 n).flatMap (·.content),(ofK l 2 n).flatMap (·.content),(ofK l 3 n).flatMap (·.content),[],false,none⟩:Sg):=(jT 1 n l.reverse (doF 2 (doF 3 (doF 10 (doF 9 (doF 8 (zk ns) l) l) l) l) l)).trans ((congrArg (fun s=>List.foldl (fun s o=>gOf 1 o s) s (ofK l.reverse 1 n)) e2).trans ((fold_first _ _).trans (by rw[Kt,List.reverse_reverse,List.append_nil])))
 have e4:doF 4 (doF 1 (doF 2 (doF 3 (doF 10 (doF 9 (doF 8 (zk ns) l) l) l) l) l) l.reverse) l.reverse n=(⟨(ofK l 8 n).getLast?.map (·.name),(ofK l 10 n).foldl (fun a o=>zP a o.name) ((ofK l 9 n).foldl (fun a o=>zJ a o.name o.s) x.attrs),(ofK l 1 n).flatMap (·.content),(ofK l 2 n).flatMap (·.content),(ofK l 3 n).flatMap (·.content),(ofK l 4 n).flatMap (·.content),false,none⟩:Sg):=(jT 4 n l.reverse (doF 1 (doF 2 (doF 3 (doF 10 (doF 9 (doF 8 (zk ns) l) l) l) l) l) l.reverse)).trans ((congrArg (fun s=>List.foldl (fun s o=>gOf 4 o s) s (ofK l.reverse 4 n)) e1).trans ((fold_aft _ _).trans (by rw[Kt,List.reverse_reverse,List.append_nil])))
 have e6:doF 6 (doF 4 (doF 1 (doF 2 (doF 3 (doF 10 (doF 9 (doF 8 (zk ns) l) l) l) l) l) l.reverse) l.reverse) l n=(⟨(ofK l 8 n).getLast?.map (·.name),(ofK l 10 n).foldl (fun a o=>zP a o.name) ((ofK l 9 n).foldl (fun a o=>zJ a o.name o.s) x.attrs),(ofK l 1 n).flatMap (·.content),(ofK l 2 n).flatMap (·.content),(ofK l 3 n).flatMap (·.content)++(ofK l 6 n).flatMap (·.content),(ofK l 4 n).flatMap (·.content),!(ofK l 6 n).isEmpty,none⟩:Sg):=(jT 6 n l (doF 4 (doF 1 (doF 2 (doF 3 (doF 10 (doF 9 (doF 8 (zk ns) l) l) l) l) l) l.reverse) l.reverse)).trans ((congrArg (fun s=>List.foldl (fun s o=>gOf 6 o s) s (ofK l 6 n)) e4).trans ((fold_rep _ _).trans (by rw[Bool.false_or])))
 have e5:doF 5 (doF 6 (doF 4 (doF 1 (doF 2 (doF 3 (doF 10 (doF 9 (doF 8 (zk ns) l) l) l) l) l) l.reverse) l.reverse) l) l n=(⟨(ofK l 8 n).getLast?.map (·.name),(ofK l 10 n).foldl (fun a o=>zP a o.name) ((ofK l 9 n).foldl (fun a o=>zJ a o.name o.s) x.attrs),(ofK l 1 n).flatMap (·.content),(ofK l 2 n).flatMap (·.content),(ofK l 3 n).flatMap (·.content)++(ofK l 6 n).flatMap (·.content),(ofK l 4 n).flatMap (·.content),!(ofK l 6 n).isEmpty||!(ofK l 5 n).isEmpty,none⟩:Sg):=(jT 5 n l (doF 6 (doF 4 (doF 1 (doF 2 (doF 3 (doF 10 (doF 9 (doF 8 (zk ns) l) l) l) l) l) l.reverse) l.reverse) l)).trans ((congrArg (fun s=>List.foldl (fun s o=>gOf 5 o s) s (ofK l 5 n)) e6).trans ((fold_gone _ _).trans (rfl)))
 have e7:doF 7 (doF 5 (doF 6 (doF 4 (doF 1 (doF 2 (doF 3 (doF 10 (doF 9 (doF 8 (zk ns) l) l) l) l) l) l.reverse) l.reverse) l) l) l n=(⟨(ofK l 8 n).getLast?.map (·.name),(ofK l 10 n).foldl (fun a o=>zP a o.name) ((ofK l 9 n).foldl (fun a o=>zJ a o.name o.s) x.attrs),(ofK l 1 n).flatMap (·.content),(ofK l 2 n).flatMap (·.content),(ofK l 3 n).flatMap (·.content)++(ofK l 6 n).flatMap (·.content),(ofK l 4 n).flatMap (·.content),!(ofK l 6 n).isEmpty||!(ofK l 5 n).isEmpty,(ofK l 7 n).getLast?.map (·.s)⟩:Sg):=(jT 7 n l (doF 5 (doF 6 (doF 4 (doF 1 (doF 2 (doF 3 (doF 10 (doF 9 (doF 8 (zk ns) l) l) l) l) l) l.reverse) l.reverse) l) l)).trans ((congrArg (fun s=>List.foldl (fun s o=>gOf 7 o s) s (ofK l 7 n)) e5).trans ((fold_val _ _).trans (by simp)))
 exact e7
theorem Zq {a b:ByteArray}:¬ (Op.bytesLess a.toList b.toList=true∧Op.bytesLess b.toList a.toList=true):=by
 rw[bytes_lt,bytes_lt];simp only[decide_eq_true_eq];rintro ⟨h1,h2⟩;exact List.lt_irrefl _ (List.lt_trans h1 h2)
theorem qbT {a b:ByteArray}(h:a≠b):Op.bytesLess a.toList b.toList=true∨Op.bytesLess b.toList a.toList=true:=by
 rw[bytes_lt,bytes_lt];simp only[decide_eq_true_eq]
 by_cases hlt:a.toList<b.toList
 · exact Or.inl hlt
 · right
   have hle:b.toList≤a.toList:=List.not_lt.1 hlt
   rcases List.le_iff_lt_or_eq.1 hle with h4|h4
   · exact h4
   · exact absurd (Qz h4).symm h
theorem Kq {a b c:ByteArray}(h1:Op.bytesLess a.toList b.toList=true)(h2:Op.bytesLess b.toList c.toList=true):Op.bytesLess a.toList c.toList=true:=by
 rw[bytes_lt]at *
 simp only[decide_eq_true_eq]at *
 exact List.lt_trans h1 h2
theorem xH {p q:ByteArray × ByteArray→Bool}{l:List (ByteArray × ByteArray)}(h:∀ a,¬ (p a=true∧q a=true)):(l.filter q).filter p=[]:=by
 rw[List.filter_filter,List.filter_eq_nil_iff];intro a _ h2;simp only[Bool.and_eq_true]at h2
 exact h a h2
theorem jz {p q:ByteArray × ByteArray→Bool}(l:List (ByteArray × ByteArray)):(l.filter q).filter p=(l.filter p).filter q:=by
 rw[List.filter_filter,List.filter_filter];refine List.filter_congr (fun a _=>?_)
 rw[Bool.and_comm]
theorem qbb {l:List (ByteArray × ByteArray)}{a b v:ByteArray}(h:a≠b):zJ (zP l a) b v=zP (zJ l b v) a:=by
 show (l.filter (ltA a)++l.filter (gtA a)).filter (ltA b)++(b,v)::(l.filter (ltA a)++l.filter (gtA a)).filter (gtA b)=(l.filter (ltA b)++(b,v)::l.filter (gtA b)).filter (ltA a)++(l.filter (ltA b)++(b,v)::l.filter (gtA b)).filter (gtA a)
 simp only[List.filter_append]
 rcases qbT h with h1|h1
 · have hb1:ltA a (b,v)=false:=by
    cases hh:ltA a (b,v) with
    | false=>rfl
    | true=>exact absurd ⟨h1,hh⟩ Zq
   have hb2:gtA a (b,v)=true:=h1;have e1:∀ m:List (ByteArray × ByteArray),(m.filter (ltA a)).filter (gtA b)=[]:=fun m=>xH (fun x ⟨p,q⟩=>Zq ⟨h1,Kq p q⟩)
   have e2:(l.filter (gtA b)).filter (ltA a)=[]:=xH (fun x ⟨p,q⟩=>Zq ⟨h1,Kq q p⟩)
   rw[List.filter_cons_of_neg (by simp[hb1]),List.filter_cons_of_pos hb2,e1,e2,List.nil_append,List.append_nil,jz (p:=ltA b) (q:=ltA a),jz (p:=ltA b) (q:=gtA a),jz (p:=gtA b) (q:=gtA a),List.append_assoc]
 · have hb1 : ltA a (b, v) = true := h1
   have hb2:gtA a (b,v)=false:=by
    cases hh:gtA a (b,v) with
    | false=>rfl
    | true=>exact absurd ⟨hh,h1⟩ Zq
   have e1:(l.filter (gtA a)).filter (ltA b)=[]:=xH (fun x ⟨p,q⟩=>Zq ⟨Kq q p,h1⟩)
   have e2:(l.filter (ltA b)).filter (gtA a)=[]:=xH (fun x ⟨p,q⟩=>Zq ⟨Kq p q,h1⟩)
   rw[List.filter_cons_of_pos hb1,List.filter_cons_of_neg (by simp[hb2]),e1,e2,List.append_nil,List.nil_append,jz (p:=ltA b) (q:=ltA a),jz (p:=gtA b) (q:=ltA a),jz (p:=gtA b) (q:=gtA a),List.append_assoc,List.cons_append]
def J0 (a:List (ByteArray × ByteArray))(o:Opn):List (ByteArray × ByteArray):=if o.kind=9 then zJ a o.name o.s else zP a o.name
theorem qaf {o:Opn}:∀ (L:List Opn)(a:List (ByteArray × ByteArray)),(∀ p∈L,o.name≠p.name)→L.foldl (fun a o=>zJ a o.name o.s) (zP a o.name)=zP (L.foldl (fun a o=>zJ a o.name o.s) a) o.name:=by
 intro L
 induction L with
 | nil=>intro a _;rfl
 | cons p L ih =>
   intro a h;rw[List.foldl_cons,List.foldl_cons,qbb (h p List.mem_cons_self),ih _ (fun q hq=>h q (List.mem_cons_of_mem _ hq))]
theorem steps_sorted:∀ (L:List Opn)(a:List (ByteArray × ByteArray)),(∀ o∈L,o.kind=9∨o.kind=10)→L.Pairwise (fun p q=>p.name≠q.name)→L.foldl J0 a=(L.filter fun o=>decide (o.kind=10)).foldl (fun a o=>zP a o.name) ((L.filter fun o=>decide (o.kind=9)).foldl (fun a o=>zJ a o.name o.s) a):=by
 intro L
 induction L with
 | nil=>intro a _ _;rfl
 | cons o L ih =>
   intro a hk hp;rw[List.pairwise_cons]at hp
   rw[List.foldl_cons,ih _ (fun q hq=>hk q (List.mem_cons_of_mem _ hq)) hp.2]
   rcases hk o List.mem_cons_self with h|h
   · rw[List.filter_cons_of_neg (p := fun o : Opn => decide (o.kind = 10)) (by simp[h]), List.filter_cons_of_pos (p := fun o : Opn => decide (o.kind = 9)) (by simp[h]), List.foldl_cons]
     simp[J0,h]
   · rw[List.filter_cons_of_pos (p := fun o : Opn => decide (o.kind = 10)) (by simp[h]), List.filter_cons_of_neg (p := fun o : Opn => decide (o.kind = 9)) (by simp[h]), List.foldl_cons, ←qaf _ _ (fun q hq => hp.1 q (List.mem_filter.1 hq).1)]
     simp[J0,h]
theorem KD {n:Int}:∀ (l:List Opn)(a:List (ByteArray × ByteArray)),(∀ o∈l,1≤o.kind∧o.kind≤10)→l.foldl (qP n) a=(l.filter fun o=>decide (o.target=n)&&(decide (o.kind=9)||decide (o.kind=10))).foldl J0 a:=by
 intro l
 induction l with
 | nil=>intro a _;rfl
 | cons o l ih =>
   intro a h;have ho:=h o List.mem_cons_self;rw[List.foldl_cons,ih _ (fun q hq=>h q (List.mem_cons_of_mem _ hq))]
   by_cases hc:o.target=n∧9≤o.kind
   · rw[List.filter_cons_of_pos (by simp[hc.1];omega), List.foldl_cons]
     congr 1
     unfold qP J0;rw[if_neg (by rintro (h1|h1);exact h1 hc.1;omega)]
   · rw[List.filter_cons_of_neg (by simp;intro h1;omega)]
     congr 1
     unfold qP;rw[if_pos]
     by_cases h1:o.target=n
     · right;have:¬ 9≤o.kind:=fun h2=>hc ⟨h1,h2⟩;omega
     · exact Or.inl h1
theorem Xf {ns:List Nd}{l:List Opn}(hc:qW ns l=0)(n:Nat)(a:List (ByteArray × ByteArray)):l.foldl (qP (n:Int)) a=(ofK l 10 n).foldl (fun a o=>zP a o.name) ((ofK l 9 n).foldl (fun a o=>zJ a o.name o.s) a):=by
 obtain ⟨_,_,hw,hp⟩:=(ym _ _).1 hc;have hk:∀ o∈l,1≤o.kind∧o.kind≤10:=fun o ho=>⟨(jq (hw o ho)).2.1,(jq (hw o ho)).2.2.1⟩
 have hpos:∀ o∈l,0≤o.target:=fun o ho=>(jq (hw o ho)).1.pos
 rw[KD l a hk,steps_sorted]
 · rw[List.filter_filter, List.filter_filter, ←jH hpos, ←jH hpos];unfold yf
   have e:∀ k:Int,(k=9∨k=10)→l.filter (fun o=>decide (o.kind=k)&&(decide (o.target=(n:Int))&&(decide (o.kind=9)||decide (o.kind=10))))=l.filter (fun o=>decide (o.kind=k)&&decide (o.target=(n:Int))):=by
    intro k hk;refine List.filter_congr (fun o _=>?_)
    by_cases h1:o.kind=k
    · have : (decide (o.kind = 9) || decide (o.kind = 10)) = true := by simp;omega
      rw[this,Bool.and_true]
    · simp[h1]
   rw[e 10 (Or.inr rfl),e 9 (Or.inl rfl)]
 · intro o ho;have:=(List.mem_filter.1 ho).2;simp only[Bool.and_eq_true,Bool.or_eq_true,decide_eq_true_eq]at this
   exact this.2
 · rw[List.pairwise_filter];refine hp.imp (fun {p q} h h1 h2=>?_)
   simp only[Bool.and_eq_true,Bool.or_eq_true,decide_eq_true_eq]at h1 h2
   intro e;unfold agB at h
   have:(decide (p.target=q.target))=true:=by simp[h1.1,h2.1]
   rw[this]at h
   rcases h1.2 with a|a<;>rcases h2.2 with b|b<;>simp[a,b,e]at h
theorem Vq {ns:List Nd}{l:List Opn}(hc:qW ns l=0):∀ (f n:Nat),n<ns.length→ns.length≤n+f→turnF f ns l n=plK f ns (yB ns l) (n:Int):=by
 obtain ⟨hg,_,hw,hp⟩:=(ym _ _).1 hc;have hpos:∀ o∈l,0≤o.target:=fun o ho=>(jq (hw o ho)).1.pos
 intro f
 induction f with
 | zero=>intro n h1 h2;omega
 | succ f ih =>
   intro n hn hf;obtain ⟨x,hx⟩:∃ x,ns[n]?=some x:=⟨ns[n],by simp[hn]⟩
   have hfam:=zo hg hx;have hsaid:=Ky (l:=l) hx
   have hkids:x.kids.flatMap (fun k=>turnF f ns l k.toNat)=x.kids.flatMap (plK f ns (yB ns l)):=by
    have:∀ ks:List Int,(∀ u∈ks,∃ k:Nat,u=(k:Int)∧n<k∧k<ns.length)→ks.flatMap (fun k=>turnF f ns l k.toNat)=ks.flatMap (plK f ns (yB ns l)):=by
     intro ks
     induction ks with
     | nil=>intro _;rfl
     | cons u ks ihk =>
       intro h;obtain ⟨k,rfl,h1,h2⟩:=h u List.mem_cons_self;rw[List.flatMap_cons,List.flatMap_cons,ihk (fun v hv=>h v (List.mem_cons_of_mem _ hv)),Int.toNat_natCast,ih k h2 (by omega)]
    exact this x.kids (fun u hu=>by obtain ⟨k,_,e1,e2,e3,_⟩:=hfam.kids u hu;exact ⟨k,e1,e2,e3⟩)
   have notext:x.text=true→∀ k,k=1∨k=2∨k=8→ofK l k n=[]:=by
    intro ht k hk;unfold ofK;rw[List.filter_eq_nil_iff];intro o ho h1;simp only[inK,Bool.and_eq_true,decide_eq_true_eq]at h1
    have:=(jq (hw o ho)).1.elem x (by rw[h1.2];exact hx) (by omega)
    rw[ht]at this
    cases this
   rw[turnF,hx];simp only;rw[jH hpos,jH hpos,jH hpos,jH hpos,Xf hc,hkids];unfold qJ;rw[jH hpos,jH hpos,jH hpos,jH hpos,jH hpos];unfold plK qX xz;rw[Int.toNat_natCast,List.map_append,List.map_append,Qr,Qr];rw[hsaid];simp only;rw[List.append_assoc]
   congr 1
   have body:∀ (b:Bool),(List.map (Sum.elim (fun k=>bodyF (f+1) ns (yB ns l) k) id) (if b=true then [] else [Sum.inl n]))=if b=true then [] else [bodyF (f+1) ns (yB ns l) n]:=by
    intro b;cases b<;>rfl
   rw[body]
   have hb:bodyF (f+1) ns (yB ns l) n=⟨x.text,if x.text then ((ofK l 7 n).getLast?.map (·.s)).getD (((ofK l 8 n).getLast?.map (·.name)).getD x.s) else ((ofK l 8 n).getLast?.map (·.name)).getD x.s,
    (ofK l 10 n).foldl (fun a o=>zP a o.name) ((ofK l 9 n).foldl (fun a o=>zJ a o.name o.s) x.attrs),
    if x.text then [] else match (ofK l 7 n).getLast? with
     | some o=>[valT o.s]
     | none=>(ofK l 1 n).flatMap (·.content)++(x.kids.flatMap (plK f ns (yB ns l))++(ofK l 2 n).flatMap (·.content))⟩:=by
    rw[bodyF,hx];simp only;unfold zF sK;cases ht:x.text with
    | true =>
      simp only[if_true];rw[JG,hsaid];simp only;rw[notext ht 1 (by omega),notext ht 2 (by omega),notext ht 8 (by omega),hfam.text ht]
      simp
    | false =>
      simp only[Bool.false_eq_true,if_false];have hv:(yB ns l n).val=(ofK l 7 n).getLast?.map (·.s):=by rw[hsaid]
      rw[hv];cases (ofK l 7 n).getLast? with
      | none =>
        simp only[Option.map_none];rw[JG,hsaid]
      | some o =>
        simp only[Option.map_some];rw[hsaid];rfl
   rw[hb];cases h6:(ofK l 6 n) with
   | nil =>
     simp only[List.isEmpty_nil,if_true,List.flatMap_nil,List.nil_append,Bool.not_true,Bool.false_or];cases h5:(ofK l 5 n)<;>rfl
   | cons o L=>rfl
theorem Vp {ns:List Nd}{l:List Opn}(hc:qW ns l=0):turnF ns.length ns l 0=[zi ns l]:=by
 have hok:=(ym ns l).1 hc
 have hpos:0<ns.length:=by
  have hg:=hok.1;simp only[qM,Bool.and_eq_true]at hg
  exact Qd hg.1.2
 have hnone:∀ k:Int,k=3∨k=4∨k=5∨k=6→ofK l k 0=[]:=by
  intro k hk;unfold ofK;rw[List.filter_eq_nil_iff];intro o ho hin;simp only[inK,Bool.and_eq_true,decide_eq_true_eq]at hin
  have:=(jq (hok.2.2.1 o ho)).1.root (by rw[hin.1];exact hk)
  exact this hin.2
 obtain ⟨x,hx⟩:∃ x,ns[0]?=some x:=⟨ns[0],by simp[hpos]⟩
 have hs:=Ky (l:=l) hx;rw[hnone 3 (by omega),hnone 4 (by omega),hnone 5 (by omega),hnone 6 (by omega)]at hs
 rw[Vq hc ns.length 0 hpos (by omega)]
 unfold plK qX zi
 show List.map _ _=_
 rw[show ((0:Nat):Int).toNat=0 from rfl,hs]
 simp[zp,xz]
end Go.Proofs.YtnppmdpmippcoaaGreatDoor
namespace Go.Proofs.YtnppmdpmippcoaaGreatDoor
open Go.ChangeShapes Go.WideShapes Go.ChangeAt Go.RowKit
set_option maxRecDepth 100000
section
attribute [local go_sem] qD
theorem JJ (k:Int)(w:World):Calls Tryz.prog 47 #[.int .i64 k] w fun e w'=>e=.returned (.bool (zj k))∧w'=w:=by
 have HP:Hid (zj k=(decide (k=3)||decide (k=4)||decide (k=5)||decide (k=6))):=rfl
 by_cases h3:k=3
 · have HE : Hid (zj k = true) := by show _ = _;rw[HP.out];simp[h3]
   subst h3
   go_enter Tryz.func47,Tryz.ntmps47
   go_wp2;go_ret;exact ⟨by rw[HE.out];rfl,rfl⟩
 by_cases h4:k=4
 · have HE : Hid (zj k = true) := by show _ = _;rw[HP.out];simp[h4]
   subst h4
   go_enter Tryz.func47,Tryz.ntmps47
   go_wp2;go_ret;exact ⟨by rw[HE.out];rfl,rfl⟩
 by_cases h5:k=5
 · have HE : Hid (zj k = true) := by show _ = _;rw[HP.out];simp[h5]
   subst h5
   go_enter Tryz.func47,Tryz.ntmps47
   go_wp2;go_ret;exact ⟨by rw[HE.out];rfl,rfl⟩
 by_cases h6:k=6
 · have HE : Hid (zj k = true) := by show _ = _;rw[HP.out];simp[h6]
   subst h6
   go_enter Tryz.func47,Tryz.ntmps47
   go_wp2;go_ret;exact ⟨by rw[HE.out];rfl,rfl⟩
 have HE:Hid (zj k=false):=by show _=_;rw[HP.out];simp[h3,h4,h5,h6]
 have b3:(k==3)=false:=by simpa using h3
 have b4:(k==4)=false:=by simpa using h4
 have b5:(k==5)=false:=by simpa using h5
 have b6:(k==6)=false:=by simpa using h6
 clear h3 h4 h5 h6 HP
 go_enter Tryz.func47,Tryz.ntmps47
 go_wp2;go_ret;exact ⟨by rw[HE.out];rfl,rfl⟩
theorem Kp (n:Nat):((n:Int)==0)=decide (n=0):=by
 by_cases h:n=0<;>simp[h]
theorem Q2 (a:ByteArray):a.toList.isEmpty=decide (a=⟨#[]⟩):=by
 rw[ByteArray.toList_eq];obtain ⟨d⟩:=a
 by_cases h:d=#[]
 · subst h;simp
 · have h2 : ¬ (⟨d⟩ : ByteArray) = ⟨#[]⟩ := by intro e;injection e with e;exact h e
   simp[h,h2]
theorem QN (S:Nat→Prop)(n:Nat)(ca:Option Addr)(cc:Nat)(o:Opn)(w:World)(hC:qw S w n (.slice ca o.content.length cc) o.content)(hx:TextsN n o.content) :
 Calls Tryz.prog 44 #[.agg #[.int .i64 o.kind,.int .i64 o.target,.slice ca o.content.length cc,.string o.name,.string o.s]] w fun e w'=>e=.returned (.bool (zH o))∧Below w.heap.size w w':=by
 have HP:Hid (Jt o.kind=(decide (o.kind=1)||decide (o.kind=2)||decide (o.kind=3)||decide (o.kind=4)||decide (o.kind=6))):=rfl
 have HC:Hid (∀ W,qw S W n (.slice ca o.content.length cc) o.content→Calls Tryz.prog 79 #[.slice ca o.content.length cc] W fun e w'=>e=.returned (.bool (q9 o.content))∧Below W.heap.size W w'):=fun W hW=>QU S n _ _ W hW hx
 have HO:Hid (zH o=if Jt o.kind then q9 o.content else decide (o.content.length=0)):=rfl
 obtain ⟨k,tg,ct,nm,s⟩:=o;dsimp only at *
 by_cases h1:k=1
 · have HE : Hid (zH ⟨k, tg, ct, nm, s⟩ = q9 ct) := by show _ = _;rw[HO.out, HP.out];simp[h1]
   clear HP HO;subst h1;have hb:=Below.alloc1 w (.cells #[.int .i64 1,.int .i64 tg,.slice ca ct.length cc,.string nm,.string s] 30)
   go_enter Tryz.func44,Tryz.ntmps44
   go_wp2_with fail;refine (HC.out _ (hC.later hb)).mono ?_;rintro e w1 ⟨rfl,hb1⟩;go_wp2_with fail;go_ret;exact ⟨by rw[HE.out];rfl,hb.trans (hb1.mono hb.size)⟩
 by_cases h2:k=2
 · have HE : Hid (zH ⟨k, tg, ct, nm, s⟩ = q9 ct) := by show _ = _;rw[HO.out, HP.out];simp[h2]
   clear HP HO;subst h2;have hb:=Below.alloc1 w (.cells #[.int .i64 2,.int .i64 tg,.slice ca ct.length cc,.string nm,.string s] 30)
   go_enter Tryz.func44,Tryz.ntmps44
   go_wp2_with fail;refine (HC.out _ (hC.later hb)).mono ?_;rintro e w1 ⟨rfl,hb1⟩;go_wp2_with fail;go_ret;exact ⟨by rw[HE.out];rfl,hb.trans (hb1.mono hb.size)⟩
 by_cases h3:k=3
 · have HE : Hid (zH ⟨k, tg, ct, nm, s⟩ = q9 ct) := by show _ = _;rw[HO.out, HP.out];simp[h3]
   clear HP HO;subst h3;have hb:=Below.alloc1 w (.cells #[.int .i64 3,.int .i64 tg,.slice ca ct.length cc,.string nm,.string s] 30)
   go_enter Tryz.func44,Tryz.ntmps44
   go_wp2_with fail;refine (HC.out _ (hC.later hb)).mono ?_;rintro e w1 ⟨rfl,hb1⟩;go_wp2_with fail;go_ret;exact ⟨by rw[HE.out];rfl,hb.trans (hb1.mono hb.size)⟩
 by_cases h4:k=4
 · have HE : Hid (zH ⟨k, tg, ct, nm, s⟩ = q9 ct) := by show _ = _;rw[HO.out, HP.out];simp[h4]
   clear HP HO;subst h4;have hb:=Below.alloc1 w (.cells #[.int .i64 4,.int .i64 tg,.slice ca ct.length cc,.string nm,.string s] 30)
   go_enter Tryz.func44,Tryz.ntmps44
   go_wp2_with fail;refine (HC.out _ (hC.later hb)).mono ?_;rintro e w1 ⟨rfl,hb1⟩;go_wp2_with fail;go_ret;exact ⟨by rw[HE.out];rfl,hb.trans (hb1.mono hb.size)⟩
 by_cases h6:k=6
 · have HE : Hid (zH ⟨k, tg, ct, nm, s⟩ = q9 ct) := by show _ = _;rw[HO.out, HP.out];simp[h6]
   clear HP HO;subst h6;have hb:=Below.alloc1 w (.cells #[.int .i64 6,.int .i64 tg,.slice ca ct.length cc,.string nm,.string s] 30)
   go_enter Tryz.func44,Tryz.ntmps44
   go_wp2_with fail;refine (HC.out _ (hC.later hb)).mono ?_;rintro e w1 ⟨rfl,hb1⟩;go_wp2_with fail;go_ret;exact ⟨by rw[HE.out];rfl,hb.trans (hb1.mono hb.size)⟩
 have HE:Hid (zH ⟨k,tg,ct,nm,s⟩=decide (ct.length=0)):=by show _=_;rw[HO.out,HP.out];simp[h1,h2,h3,h4,h6]
 have b1:(k==1)=false:=by simpa using h1
 have b2:(k==2)=false:=by simpa using h2
 have b3:(k==3)=false:=by simpa using h3
 have b4:(k==4)=false:=by simpa using h4
 have b6:(k==6)=false:=by simpa using h6
 clear HP HO h1 h2 h3 h4 h6;have hb:=Below.alloc1 w (.cells #[.int .i64 k,.int .i64 tg,.slice ca ct.length cc,.string nm,.string s] 30)
 go_enter Tryz.func44,Tryz.ntmps44
 go_wp2_with fail;go_ret;exact ⟨by rw[HE.out,←Kp];rfl,hb⟩
theorem ZU (vc:Value)(o:Opn)(w:World)(hx:o.name.size≤maxLen) :
 Calls Tryz.prog 45 #[.agg #[.int .i64 o.kind,.int .i64 o.target,vc,.string o.name,.string o.s]] w fun e w'=>e=.returned (.bool (yj o))∧Below w.heap.size w w':=by
 have HP:Hid (Ju o.kind=(decide (o.kind=8)||decide (o.kind=9)||decide (o.kind=10))):=rfl
 have HC:Hid (∀ W,Calls Tryz.prog 80 #[.string o.name] W fun e w'=>e=.returned (.bool (zI o.name))∧w'=W):=fun W=>yS _ W hx
 have HO:Hid (yj o=if Ju o.kind then zI o.name else decide (o.name=⟨#[]⟩)):=rfl
 obtain ⟨k,tg,ct,nm,s⟩:=o;dsimp only at *
 by_cases h8:k=8
 · have HE : Hid (yj ⟨k, tg, ct, nm, s⟩ = zI nm) := by show _ = _;rw[HO.out, HP.out];simp[h8]
   clear HP HO;subst h8;have hb:=Below.alloc1 w (.cells #[.int .i64 8,.int .i64 tg,vc,.string nm,.string s] 30)
   go_enter Tryz.func45,Tryz.ntmps45
   go_wp2_with fail;refine (HC.out _).mono ?_;rintro e w1 ⟨rfl,rfl⟩;go_wp2_with fail;go_ret;exact ⟨by rw[HE.out];rfl,hb⟩
 by_cases h9:k=9
 · have HE : Hid (yj ⟨k, tg, ct, nm, s⟩ = zI nm) := by show _ = _;rw[HO.out, HP.out];simp[h9]
   clear HP HO;subst h9;have hb:=Below.alloc1 w (.cells #[.int .i64 9,.int .i64 tg,vc,.string nm,.string s] 30)
   go_enter Tryz.func45,Tryz.ntmps45
   go_wp2_with fail;refine (HC.out _).mono ?_;rintro e w1 ⟨rfl,rfl⟩;go_wp2_with fail;go_ret;exact ⟨by rw[HE.out];rfl,hb⟩
 by_cases h10:k=10
 · have HE : Hid (yj ⟨k, tg, ct, nm, s⟩ = zI nm) := by show _ = _;rw[HO.out, HP.out];simp[h10]
   clear HP HO;subst h10;have hb:=Below.alloc1 w (.cells #[.int .i64 10,.int .i64 tg,vc,.string nm,.string s] 30)
   go_enter Tryz.func45,Tryz.ntmps45
   go_wp2_with fail;refine (HC.out _).mono ?_;rintro e w1 ⟨rfl,rfl⟩;go_wp2_with fail;go_ret;exact ⟨by rw[HE.out];rfl,hb⟩
 have HE:Hid (yj ⟨k,tg,ct,nm,s⟩=decide (nm=⟨#[]⟩)):=by show _=_;rw[HO.out,HP.out];simp[h8,h9,h10]
 have b8:(k==8)=false:=by simpa using h8
 have b9:(k==9)=false:=by simpa using h9
 have b10:(k==10)=false:=by simpa using h10
 clear HP HO h8 h9 h10;have hb:=Below.alloc1 w (.cells #[.int .i64 k,.int .i64 tg,vc,.string nm,.string s] 30)
 go_enter Tryz.func45,Tryz.ntmps45
 go_wp2_with fail;go_ret;exact ⟨by rw[HE.out,←Q2];rfl,hb⟩
theorem XN (vc:Value)(o:Opn)(w:World)(hx:o.s.size≤maxLen) :
 Calls Tryz.prog 46 #[.agg #[.int .i64 o.kind,.int .i64 o.target,vc,.string o.name,.string o.s]] w fun e w'=>e=.returned (.bool (yp o))∧Below w.heap.size w w':=by
 have HP:Hid (Jv o.kind=(decide (o.kind=7)||decide (o.kind=9))):=rfl
 have HC:Hid (∀ W,Calls Tryz.prog 81 #[.string o.s] W fun e w'=>e=.returned (.bool (zx o.s))∧w'=W):=fun W=>yz _ W hx
 have HO:Hid (yp o=if Jv o.kind then zx o.s else decide (o.s=⟨#[]⟩)):=rfl
 obtain ⟨k,tg,ct,nm,s⟩:=o;dsimp only at *
 by_cases h7:k=7
 · have HE : Hid (yp ⟨k, tg, ct, nm, s⟩ = zx s) := by show _ = _;rw[HO.out, HP.out];simp[h7]
   clear HP HO;subst h7;have hb:=Below.alloc1 w (.cells #[.int .i64 7,.int .i64 tg,vc,.string nm,.string s] 30)
   go_enter Tryz.func46,Tryz.ntmps46
   go_wp2_with fail;refine (HC.out _).mono ?_;rintro e w1 ⟨rfl,rfl⟩;go_wp2_with fail;go_ret;exact ⟨by rw[HE.out];rfl,hb⟩
 by_cases h9:k=9
 · have HE : Hid (yp ⟨k, tg, ct, nm, s⟩ = zx s) := by show _ = _;rw[HO.out, HP.out];simp[h9]
   clear HP HO;subst h9;have hb:=Below.alloc1 w (.cells #[.int .i64 9,.int .i64 tg,vc,.string nm,.string s] 30)
   go_enter Tryz.func46,Tryz.ntmps46
   go_wp2_with fail;refine (HC.out _).mono ?_;rintro e w1 ⟨rfl,rfl⟩;go_wp2_with fail;go_ret;exact ⟨by rw[HE.out];rfl,hb⟩
 have HE:Hid (yp ⟨k,tg,ct,nm,s⟩=decide (s=⟨#[]⟩)):=by show _=_;rw[HO.out,HP.out];simp[h7,h9]
 have b7:(k==7)=false:=by simpa using h7
 have b9:(k==9)=false:=by simpa using h9
 clear HP HO h7 h9;have hb:=Below.alloc1 w (.cells #[.int .i64 k,.int .i64 tg,vc,.string nm,.string s] 30)
 go_enter Tryz.func46,Tryz.ntmps46
 go_wp2_with fail;go_ret;exact ⟨by rw[HE.out,←Q2];rfl,hb⟩
theorem yl {w w1:World}{cs:Array Value}{T:TypeId}(h:Below (w.alloc (.cells cs T)).heap.size (w.alloc (.cells cs T)) w1):w1.heap[w.heap.size]?=some (.cells cs T (0,0)):=by
 rw[h.block _ (by simp)];show (w.heap.push _)[w.heap.size]?=_;simp
theorem yk {W:World}{b:Nat}{T:TypeId}{c0 c1 c2 c3 c4:Value}(h:W.heap[b]?=some (.cells #[c0,c1,c2,c3,c4] T (0,0))) :
 W.cell? ⟨b,0,none⟩=some c0∧W.cell? ⟨b,1,none⟩=some c1∧W.cell? ⟨b,2,none⟩=some c2∧W.cell? ⟨b,3,none⟩=some c3∧W.cell? ⟨b,4,none⟩=some c4:=by
 simp[World.cell?,h]
set_option maxHeartbeats 4000000 in
theorem ZY (S:Nat→Prop)(n:Nat)(v:Value)(ca:Option Addr)(cc:Nat)(ns:List Nd)(o:Opn)(w:World)(hN:qK S w v ns)(hC:qw S w n (.slice ca o.content.length cc) o.content)(hx:TextsN n o.content)(hn:o.name.size≤maxLen)(hs:o.s.size≤maxLen) :
 Calls Tryz.prog 20 #[v,.agg #[.int .i64 o.kind,.int .i64 o.target,.slice ca o.content.length cc,.string o.name,.string o.s]] w fun e w'=>e=.returned (.int .i64 (ze ns o))∧Below w.heap.size w w':=by
 have HC:Hid (∀ W,Below w.heap.size w W→Calls Tryz.prog 44 #[.agg #[.int .i64 o.kind,.int .i64 o.target,.slice ca o.content.length cc,.string o.name,.string o.s]] W fun e w'=>e=.returned (.bool (zH o))∧Below W.heap.size W w'):=fun W hW=>QN S n ca cc o W (hC.later hW) hx
 have HM:Hid (∀ W,Calls Tryz.prog 45 #[.agg #[.int .i64 o.kind,.int .i64 o.target,.slice ca o.content.length cc,.string o.name,.string o.s]] W fun e w'=>e=.returned (.bool (yj o))∧Below W.heap.size W w'):=fun W=>ZU _ o W hn
 have HT:Hid (∀ W,Calls Tryz.prog 46 #[.agg #[.int .i64 o.kind,.int .i64 o.target,.slice ca o.content.length cc,.string o.name,.string o.s]] W fun e w'=>e=.returned (.bool (yp o))∧Below W.heap.size W w'):=fun W=>XN _ o W hs
 have HW:Hid (ze ns o=if decide (o.kind<1)||decide (10<o.kind) then 4
  else if decide (o.target<0)||decide ((ns.length:Int)≤o.target) then 3
  else if !(zH o)||!(yj o)||!(yp o) then 1
  else if decide (o.target=0)&&zj o.kind then 6
  else if je ns o.target&&!(zj o.kind)&&!(decide (o.kind=7)) then 4
  else 0):=rfl
 have HX:Hid (∀ i:Nat,je ns (i:Int)=match ns[i]? with
  | some x=>x.text
  | none=>false):=fun i=>rfl
 have hb:=Below.alloc1 w (.cells #[.int .i64 o.kind,.int .i64 o.target,.slice ca o.content.length cc,.string o.name,.string o.s] 30);have HN:Hid (qK S w v ns):=hN;obtain ⟨na,nc,rfl,hnl,hnc,hnodes⟩:=hN;clear hC hx hn hs hnodes
 generalize zH o=bc at *
 generalize yj o=bn at *
 generalize yp o=bt at *
 generalize ze ns o=R at *
 obtain ⟨k,tg,ct,nm,s⟩:=o;dsimp only at *
 by_cases hk1:k<1
 · have HR : Hid (R = 4) := by show _ = _;rw[HW.out];simp[hk1]
   clear HW
   go_enter Tryz.func20,Tryz.ntmps20
   go_wp2_with fail;go_ret;exact ⟨by rw[HR.out];rfl,hb⟩
 by_cases hk2:10<k
 · have HR : Hid (R = 4) := by show _ = _;rw[HW.out];simp[hk2]
   clear HW
   go_enter Tryz.func20,Tryz.ntmps20
   go_wp2_with fail;go_ret;exact ⟨by rw[HR.out];rfl,hb⟩
 by_cases ht1:tg<0
 · have HR : Hid (R = 3) := by show _ = _;rw[HW.out];simp[hk1, hk2, ht1]
   clear HW
   go_enter Tryz.func20,Tryz.ntmps20
   go_wp2_with fail;go_ret;exact ⟨by rw[HR.out];rfl,hb⟩
 by_cases ht2:(ns.length:Int)≤tg
 · have HR : Hid (R = 3) := by show _ = _;rw[HW.out];simp[hk1, hk2, ht2]
   clear HW
   go_enter Tryz.func20,Tryz.ntmps20
   go_wp2_with fail;go_ret;exact ⟨by rw[HR.out];rfl,hb⟩
 have HR:Hid (R=if !bc||!bn||!bt then 1 else if decide (tg=0)&&zj k then 6 else if je ns tg&&!(zj k)&&!(decide (k=7)) then 4 else 0):=by show _=_;rw[HW.out];simp[hk1,hk2,ht1,ht2]
 clear HW;cases bc with
 | false =>
   go_enter Tryz.func20,Tryz.ntmps20
   go_wp2_with fail;refine (HC.out _ hb).mono ?_;rintro e w1 ⟨rfl,hb1⟩;have hB1:=hb.trans (hb1.mono hb.size);have hz1:w.heap.size<w1.heap.size:=by have:=hb1.size;simp at this;omega
   have HB1:Hid (w1.heap[w.heap.size]?=some (.cells #[.int .i64 k,.int .i64 tg,.slice ca ct.length cc,.string nm,.string s] 30 (0,0))):=yl hb1;obtain ⟨x10,x11,x12,x13,x14⟩:=yk HB1.out;go_wp2_with fail;go_ret;exact ⟨by rw[HR.out];rfl,hB1⟩
 | true =>
 cases bn with
 | false =>
   go_enter Tryz.func20,Tryz.ntmps20
   go_wp2_with fail;refine (HC.out _ hb).mono ?_;rintro e w1 ⟨rfl,hb1⟩;have hB1:=hb.trans (hb1.mono hb.size);have hz1:w.heap.size<w1.heap.size:=by have:=hb1.size;simp at this;omega
   have HB1:Hid (w1.heap[w.heap.size]?=some (.cells #[.int .i64 k,.int .i64 tg,.slice ca ct.length cc,.string nm,.string s] 30 (0,0))):=yl hb1;obtain ⟨x10,x11,x12,x13,x14⟩:=yk HB1.out;go_wp2_with fail;refine (HM.out _).mono ?_;rintro e w2 ⟨rfl,hb2⟩;have hB2:=hB1.trans (hb2.mono (by omega))
   have hz2:w.heap.size<w2.heap.size:=by have:=hb2.size;omega
   have HB2:Hid (w2.heap[w.heap.size]?=some (.cells #[.int .i64 k,.int .i64 tg,.slice ca ct.length cc,.string nm,.string s] 30 (0,0))):=(hb2.block _ (by omega)).trans HB1.out
   clear x10 x11 x12 x13 x14;obtain ⟨x20,x21,x22,x23,x24⟩:=yk HB2.out;go_wp2_with fail;go_ret;exact ⟨by rw[HR.out];rfl,hB2⟩
 | true =>
 cases bt with
 | false =>
   go_enter Tryz.func20,Tryz.ntmps20
   go_wp2_with fail;refine (HC.out _ hb).mono ?_;rintro e w1 ⟨rfl,hb1⟩;have hB1:=hb.trans (hb1.mono hb.size);have hz1:w.heap.size<w1.heap.size:=by have:=hb1.size;simp at this;omega
   have HB1:Hid (w1.heap[w.heap.size]?=some (.cells #[.int .i64 k,.int .i64 tg,.slice ca ct.length cc,.string nm,.string s] 30 (0,0))):=yl hb1;obtain ⟨x10,x11,x12,x13,x14⟩:=yk HB1.out;go_wp2_with fail;refine (HM.out _).mono ?_;rintro e w2 ⟨rfl,hb2⟩;have hB2:=hB1.trans (hb2.mono (by omega))
   have hz2:w.heap.size<w2.heap.size:=by have:=hb2.size;omega
   have HB2:Hid (w2.heap[w.heap.size]?=some (.cells #[.int .i64 k,.int .i64 tg,.slice ca ct.length cc,.string nm,.string s] 30 (0,0))):=(hb2.block _ (by omega)).trans HB1.out
   clear x10 x11 x12 x13 x14;obtain ⟨x20,x21,x22,x23,x24⟩:=yk HB2.out;go_wp2_with fail;refine (HT.out _).mono ?_;rintro e w3 ⟨rfl,hb3⟩;have hB3:=hB2.trans (hb3.mono (by omega))
   have hz3:w.heap.size<w3.heap.size:=by have:=hb3.size;omega
   have HB3:Hid (w3.heap[w.heap.size]?=some (.cells #[.int .i64 k,.int .i64 tg,.slice ca ct.length cc,.string nm,.string s] 30 (0,0))):=(hb3.block _ (by omega)).trans HB2.out
   clear x20 x21 x22 x23 x24;obtain ⟨x30,x31,x32,x33,x34⟩:=yk HB3.out;go_wp2_with fail;go_ret;exact ⟨by rw[HR.out];rfl,hB3⟩
 | true =>
 have HR2:Hid (R=if decide (tg=0)&&zj k then 6 else if je ns tg&&!(zj k)&&!(decide (k=7)) then 4 else 0):=by show _=_;rw[HR.out];simp
 clear HR;have HP:Hid (∀ W,Calls Tryz.prog 47 #[.int .i64 k] W fun e w'=>e=.returned (.bool (zj k))∧w'=W):=fun W=>JJ k W
 by_cases h0:tg=0
 · subst h0;obtain ⟨x,hxi⟩:∃ x,ns[0]?=some x:=⟨ns[0]'(by omega),by simp⟩
   have HR3:Hid (R=if zj k then 6 else if x.text&&!(zj k)&&!(decide (k=7)) then 4 else 0):=by
    show _=_
    have e:je ns 0=x.text:=by rw[show (0:Int)=((0:Nat):Int) from rfl,HX.out 0,hxi]
    rw[HR2.out,e];simp
   obtain ⟨b,of,cap,va,vk,hv,_,_,hSb,hbw,c0,c1,c2,c3,c4,hAt,hKi⟩:=HN.out.at hxi
   clear HR2 HX HN c1 c2 c3 c4 hAt hKi hSb hxi
   injection hv with hv1 _ hv2
   subst hv1 hv2;have hL0:¬ ns.length=0:=by omega
   generalize ns.length=L at *
   generalize zj k=pb at *
   cases pb with
   | true =>
     go_enter Tryz.func20,Tryz.ntmps20
     go_wp2_with fail;refine (HC.out _ hb).mono ?_;rintro e w1 ⟨rfl,hb1⟩;have hB1:=hb.trans (hb1.mono hb.size);have hz1:w.heap.size<w1.heap.size:=by have:=hb1.size;simp at this;omega
     have HB1:Hid (w1.heap[w.heap.size]?=some (.cells #[.int .i64 k,.int .i64 0,.slice ca ct.length cc,.string nm,.string s] 30 (0,0))):=yl hb1;obtain ⟨x10,x11,x12,x13,x14⟩:=yk HB1.out;go_wp2_with fail;refine (HM.out _).mono ?_;rintro e w2 ⟨rfl,hb2⟩;have hB2:=hB1.trans (hb2.mono (by omega))
     have hz2:w.heap.size<w2.heap.size:=by have:=hb2.size;omega
     have HB2:Hid (w2.heap[w.heap.size]?=some (.cells #[.int .i64 k,.int .i64 0,.slice ca ct.length cc,.string nm,.string s] 30 (0,0))):=(hb2.block _ (by omega)).trans HB1.out
     clear x10 x11 x12 x13 x14;obtain ⟨x20,x21,x22,x23,x24⟩:=yk HB2.out;go_wp2_with fail;refine (HT.out _).mono ?_;rintro e w3 ⟨rfl,hb3⟩;have hB3:=hB2.trans (hb3.mono (by omega))
     have hz3:w.heap.size<w3.heap.size:=by have:=hb3.size;omega
     have HB3:Hid (w3.heap[w.heap.size]?=some (.cells #[.int .i64 k,.int .i64 0,.slice ca ct.length cc,.string nm,.string s] 30 (0,0))):=(hb3.block _ (by omega)).trans HB2.out
     clear x20 x21 x22 x23 x24;obtain ⟨x30,x31,x32,x33,x34⟩:=yk HB3.out;go_wp2_with fail;refine (HP.out _).mono ?_;rintro e w4 ⟨rfl,rfl⟩;go_wp2_with fail;go_ret;exact ⟨by rw[HR3.out];rfl,hB3⟩
   | false =>
     simp only[Nat.zero_mul,Nat.add_zero]at c0
     have d0:Hid (∀ W,Below w.heap.size w W→W.cell? ⟨b,of,none⟩=some (.bool x.text)):=fun W hW=>(World.cell?_of_block (a:=⟨b,of,none⟩) (hW.block b hbw)).trans c0
     clear c0
     generalize x.text=tx at *
     cases tx with
     | false =>
       go_enter Tryz.func20,Tryz.ntmps20
       go_wp2_with fail;refine (HC.out _ hb).mono ?_;rintro e w1 ⟨rfl,hb1⟩;have hB1:=hb.trans (hb1.mono hb.size);have hz1:w.heap.size<w1.heap.size:=by have:=hb1.size;simp at this;omega
       have HB1:Hid (w1.heap[w.heap.size]?=some (.cells #[.int .i64 k,.int .i64 0,.slice ca ct.length cc,.string nm,.string s] 30 (0,0))):=yl hb1;obtain ⟨x10,x11,x12,x13,x14⟩:=yk HB1.out;go_wp2_with fail;refine (HM.out _).mono ?_;rintro e w2 ⟨rfl,hb2⟩;have hB2:=hB1.trans (hb2.mono (by omega))
       have hz2:w.heap.size<w2.heap.size:=by have:=hb2.size;omega
       have HB2:Hid (w2.heap[w.heap.size]?=some (.cells #[.int .i64 k,.int .i64 0,.slice ca ct.length cc,.string nm,.string s] 30 (0,0))):=(hb2.block _ (by omega)).trans HB1.out
       clear x10 x11 x12 x13 x14;obtain ⟨x20,x21,x22,x23,x24⟩:=yk HB2.out;go_wp2_with fail;refine (HT.out _).mono ?_;rintro e w3 ⟨rfl,hb3⟩;have hB3:=hB2.trans (hb3.mono (by omega))
       have hz3:w.heap.size<w3.heap.size:=by have:=hb3.size;omega
       have HB3:Hid (w3.heap[w.heap.size]?=some (.cells #[.int .i64 k,.int .i64 0,.slice ca ct.length cc,.string nm,.string s] 30 (0,0))):=(hb3.block _ (by omega)).trans HB2.out
       clear x20 x21 x22 x23 x24;obtain ⟨x30,x31,x32,x33,x34⟩:=yk HB3.out;go_wp2_with fail;refine (HP.out _).mono ?_;rintro e w4 ⟨rfl,rfl⟩;have e0:=d0.out _ hB3;go_wp2_with fail;go_ret;exact ⟨by rw[HR3.out];rfl,hB3⟩
     | true =>
       by_cases h7:k=7
       · subst h7
         go_enter Tryz.func20,Tryz.ntmps20
         go_wp2_with fail;refine (HC.out _ hb).mono ?_;rintro e w1 ⟨rfl,hb1⟩;have hB1:=hb.trans (hb1.mono hb.size);have hz1:w.heap.size<w1.heap.size:=by have:=hb1.size;simp at this;omega
         have HB1:Hid (w1.heap[w.heap.size]?=some (.cells #[.int .i64 7,.int .i64 0,.slice ca ct.length cc,.string nm,.string s] 30 (0,0))):=yl hb1;obtain ⟨x10,x11,x12,x13,x14⟩:=yk HB1.out;go_wp2_with fail;refine (HM.out _).mono ?_;rintro e w2 ⟨rfl,hb2⟩;have hB2:=hB1.trans (hb2.mono (by omega))
         have hz2:w.heap.size<w2.heap.size:=by have:=hb2.size;omega
         have HB2:Hid (w2.heap[w.heap.size]?=some (.cells #[.int .i64 7,.int .i64 0,.slice ca ct.length cc,.string nm,.string s] 30 (0,0))):=(hb2.block _ (by omega)).trans HB1.out
         clear x10 x11 x12 x13 x14;obtain ⟨x20,x21,x22,x23,x24⟩:=yk HB2.out;go_wp2_with fail;refine (HT.out _).mono ?_;rintro e w3 ⟨rfl,hb3⟩;have hB3:=hB2.trans (hb3.mono (by omega))
         have hz3:w.heap.size<w3.heap.size:=by have:=hb3.size;omega
         have HB3:Hid (w3.heap[w.heap.size]?=some (.cells #[.int .i64 7,.int .i64 0,.slice ca ct.length cc,.string nm,.string s] 30 (0,0))):=(hb3.block _ (by omega)).trans HB2.out
         clear x20 x21 x22 x23 x24;obtain ⟨x30,x31,x32,x33,x34⟩:=yk HB3.out;go_wp2_with fail;refine (HP.out _).mono ?_;rintro e w4 ⟨rfl,rfl⟩;have e0:=d0.out _ hB3;go_wp2_with fail;refine (HP.out _).mono ?_;rintro e w5 ⟨rfl,rfl⟩;go_wp2_with fail;go_ret;exact ⟨by rw[HR3.out];rfl,hB3⟩
       · have HR4 : Hid (R = 4) := by show _ = _;rw[HR3.out];simp[h7]
         have b7:(k==7)=false:=by simpa using h7
         clear HR3 h7
         go_enter Tryz.func20,Tryz.ntmps20
         go_wp2_with fail;refine (HC.out _ hb).mono ?_;rintro e w1 ⟨rfl,hb1⟩;have hB1:=hb.trans (hb1.mono hb.size);have hz1:w.heap.size<w1.heap.size:=by have:=hb1.size;simp at this;omega
         have HB1:Hid (w1.heap[w.heap.size]?=some (.cells #[.int .i64 k,.int .i64 0,.slice ca ct.length cc,.string nm,.string s] 30 (0,0))):=yl hb1;obtain ⟨x10,x11,x12,x13,x14⟩:=yk HB1.out;go_wp2_with fail;refine (HM.out _).mono ?_;rintro e w2 ⟨rfl,hb2⟩;have hB2:=hB1.trans (hb2.mono (by omega))
         have hz2:w.heap.size<w2.heap.size:=by have:=hb2.size;omega
         have HB2:Hid (w2.heap[w.heap.size]?=some (.cells #[.int .i64 k,.int .i64 0,.slice ca ct.length cc,.string nm,.string s] 30 (0,0))):=(hb2.block _ (by omega)).trans HB1.out
         clear x10 x11 x12 x13 x14;obtain ⟨x20,x21,x22,x23,x24⟩:=yk HB2.out;go_wp2_with fail;refine (HT.out _).mono ?_;rintro e w3 ⟨rfl,hb3⟩;have hB3:=hB2.trans (hb3.mono (by omega))
         have hz3:w.heap.size<w3.heap.size:=by have:=hb3.size;omega
         have HB3:Hid (w3.heap[w.heap.size]?=some (.cells #[.int .i64 k,.int .i64 0,.slice ca ct.length cc,.string nm,.string s] 30 (0,0))):=(hb3.block _ (by omega)).trans HB2.out
         clear x20 x21 x22 x23 x24;obtain ⟨x30,x31,x32,x33,x34⟩:=yk HB3.out;go_wp2_with fail;refine (HP.out _).mono ?_;rintro e w4 ⟨rfl,rfl⟩;have e0:=d0.out _ hB3;go_wp2_with fail;refine (HP.out _).mono ?_;rintro e w5 ⟨rfl,rfl⟩;go_wp2_with fail;go_ret;exact ⟨by rw[HR4.out];rfl,hB3⟩
 · obtain ⟨i, rfl⟩ : ∃ i : Nat, tg = (i : Int) := ⟨tg.toNat, by omega⟩
   have hil:i<ns.length:=by omega
   obtain ⟨x,hxi⟩:∃ x,ns[i]?=some x:=⟨ns[i],by simp[hil]⟩
   have HR3:Hid (R=if x.text&&!(zj k)&&!(decide (k=7)) then 4 else 0):=by
    show _=_
    rw[HR2.out,HX.out i,hxi,decide_eq_false h0];simp
   obtain ⟨b,of,cap,va,vk,hv,_,_,hSb,hbw,c0,c1,c2,c3,c4,hAt,hKi⟩:=HN.out.at hxi
   clear HR2 HX HN c1 c2 c3 c4 hAt hKi hSb hxi
   injection hv with hv1 _ hv2
   subst hv1 hv2;have d0:Hid (∀ W,Below w.heap.size w W→W.cell? ⟨b,of+i*5,none⟩=some (.bool x.text)):=fun W hW=>(World.cell?_of_block (a:=⟨b,of+i*5,none⟩) (hW.block b hbw)).trans c0
   have hi0:((i:Int)==0)=false:=by simpa using h0
   clear c0 h0
   generalize ns.length=L at *
   generalize zj k=pb at *
   generalize x.text=tx at *
   cases tx with
   | false =>
     go_enter Tryz.func20,Tryz.ntmps20
     go_wp2_with fail;refine (HC.out _ hb).mono ?_;rintro e w1 ⟨rfl,hb1⟩;have hB1:=hb.trans (hb1.mono hb.size);have hz1:w.heap.size<w1.heap.size:=by have:=hb1.size;simp at this;omega
     have HB1:Hid (w1.heap[w.heap.size]?=some (.cells #[.int .i64 k,.int .i64 (i:Int),.slice ca ct.length cc,.string nm,.string s] 30 (0,0))):=yl hb1;obtain ⟨x10,x11,x12,x13,x14⟩:=yk HB1.out;go_wp2_with fail;refine (HM.out _).mono ?_;rintro e w2 ⟨rfl,hb2⟩;have hB2:=hB1.trans (hb2.mono (by omega))
     have hz2:w.heap.size<w2.heap.size:=by have:=hb2.size;omega
     have HB2:Hid (w2.heap[w.heap.size]?=some (.cells #[.int .i64 k,.int .i64 (i:Int),.slice ca ct.length cc,.string nm,.string s] 30 (0,0))):=(hb2.block _ (by omega)).trans HB1.out
     clear x10 x11 x12 x13 x14;obtain ⟨x20,x21,x22,x23,x24⟩:=yk HB2.out;go_wp2_with fail;refine (HT.out _).mono ?_;rintro e w3 ⟨rfl,hb3⟩;have hB3:=hB2.trans (hb3.mono (by omega))
     have hz3:w.heap.size<w3.heap.size:=by have:=hb3.size;omega
     have e0:=d0.out _ hB3;have HB3:Hid (w3.heap[w.heap.size]?=some (.cells #[.int .i64 k,.int .i64 (i:Int),.slice ca ct.length cc,.string nm,.string s] 30 (0,0))):=(hb3.block _ (by omega)).trans HB2.out
     clear x20 x21 x22 x23 x24;obtain ⟨x30,x31,x32,x33,x34⟩:=yk HB3.out;go_wp2_with fail;go_ret;exact ⟨by rw[HR3.out];rfl,hB3⟩
   | true =>
     cases pb with
     | true =>
       go_enter Tryz.func20,Tryz.ntmps20
       go_wp2_with fail;refine (HC.out _ hb).mono ?_;rintro e w1 ⟨rfl,hb1⟩;have hB1:=hb.trans (hb1.mono hb.size);have hz1:w.heap.size<w1.heap.size:=by have:=hb1.size;simp at this;omega
       have HB1:Hid (w1.heap[w.heap.size]?=some (.cells #[.int .i64 k,.int .i64 (i:Int),.slice ca ct.length cc,.string nm,.string s] 30 (0,0))):=yl hb1;obtain ⟨x10,x11,x12,x13,x14⟩:=yk HB1.out;go_wp2_with fail;refine (HM.out _).mono ?_;rintro e w2 ⟨rfl,hb2⟩;have hB2:=hB1.trans (hb2.mono (by omega))
       have hz2:w.heap.size<w2.heap.size:=by have:=hb2.size;omega
       have HB2:Hid (w2.heap[w.heap.size]?=some (.cells #[.int .i64 k,.int .i64 (i:Int),.slice ca ct.length cc,.string nm,.string s] 30 (0,0))):=(hb2.block _ (by omega)).trans HB1.out
       clear x10 x11 x12 x13 x14;obtain ⟨x20,x21,x22,x23,x24⟩:=yk HB2.out;go_wp2_with fail;refine (HT.out _).mono ?_;rintro e w3 ⟨rfl,hb3⟩;have hB3:=hB2.trans (hb3.mono (by omega))
       have hz3:w.heap.size<w3.heap.size:=by have:=hb3.size;omega
       have e0:=d0.out _ hB3;have HB3:Hid (w3.heap[w.heap.size]?=some (.cells #[.int .i64 k,.int .i64 (i:Int),.slice ca ct.length cc,.string nm,.string s] 30 (0,0))):=(hb3.block _ (by omega)).trans HB2.out
       clear x20 x21 x22 x23 x24;obtain ⟨x30,x31,x32,x33,x34⟩:=yk HB3.out;go_wp2_with fail;refine (HP.out _).mono ?_;rintro e w5 ⟨rfl,rfl⟩;go_wp2_with fail;go_ret;exact ⟨by rw[HR3.out];rfl,hB3⟩
     | false =>
       by_cases h7:k=7
       · subst h7
         go_enter Tryz.func20,Tryz.ntmps20
         go_wp2_with fail;refine (HC.out _ hb).mono ?_;rintro e w1 ⟨rfl,hb1⟩;have hB1:=hb.trans (hb1.mono hb.size);have hz1:w.heap.size<w1.heap.size:=by have:=hb1.size;simp at this;omega
         have HB1:Hid (w1.heap[w.heap.size]?=some (.cells #[.int .i64 7,.int .i64 (i:Int),.slice ca ct.length cc,.string nm,.string s] 30 (0,0))):=yl hb1;obtain ⟨x10,x11,x12,x13,x14⟩:=yk HB1.out;go_wp2_with fail;refine (HM.out _).mono ?_;rintro e w2 ⟨rfl,hb2⟩;have hB2:=hB1.trans (hb2.mono (by omega))
         have hz2:w.heap.size<w2.heap.size:=by have:=hb2.size;omega
         have HB2:Hid (w2.heap[w.heap.size]?=some (.cells #[.int .i64 7,.int .i64 (i:Int),.slice ca ct.length cc,.string nm,.string s] 30 (0,0))):=(hb2.block _ (by omega)).trans HB1.out
         clear x10 x11 x12 x13 x14;obtain ⟨x20,x21,x22,x23,x24⟩:=yk HB2.out;go_wp2_with fail;refine (HT.out _).mono ?_;rintro e w3 ⟨rfl,hb3⟩;have hB3:=hB2.trans (hb3.mono (by omega))
         have hz3:w.heap.size<w3.heap.size:=by have:=hb3.size;omega
         have e0:=d0.out _ hB3;have HB3:Hid (w3.heap[w.heap.size]?=some (.cells #[.int .i64 7,.int .i64 (i:Int),.slice ca ct.length cc,.string nm,.string s] 30 (0,0))):=(hb3.block _ (by omega)).trans HB2.out
         clear x20 x21 x22 x23 x24;obtain ⟨x30,x31,x32,x33,x34⟩:=yk HB3.out;go_wp2_with fail;refine (HP.out _).mono ?_;rintro e w5 ⟨rfl,rfl⟩;go_wp2_with fail;go_ret;exact ⟨by rw[HR3.out];rfl,hB3⟩
       · have HR4 : Hid (R = 4) := by show _ = _;rw[HR3.out];simp[h7]
         have b7:(k==7)=false:=by simpa using h7
         clear HR3 h7
         go_enter Tryz.func20,Tryz.ntmps20
         go_wp2_with fail;refine (HC.out _ hb).mono ?_;rintro e w1 ⟨rfl,hb1⟩;have hB1:=hb.trans (hb1.mono hb.size);have hz1:w.heap.size<w1.heap.size:=by have:=hb1.size;simp at this;omega
         have HB1:Hid (w1.heap[w.heap.size]?=some (.cells #[.int .i64 k,.int .i64 (i:Int),.slice ca ct.length cc,.string nm,.string s] 30 (0,0))):=yl hb1;obtain ⟨x10,x11,x12,x13,x14⟩:=yk HB1.out;go_wp2_with fail;refine (HM.out _).mono ?_;rintro e w2 ⟨rfl,hb2⟩;have hB2:=hB1.trans (hb2.mono (by omega))
         have hz2:w.heap.size<w2.heap.size:=by have:=hb2.size;omega
         have HB2:Hid (w2.heap[w.heap.size]?=some (.cells #[.int .i64 k,.int .i64 (i:Int),.slice ca ct.length cc,.string nm,.string s] 30 (0,0))):=(hb2.block _ (by omega)).trans HB1.out
         clear x10 x11 x12 x13 x14;obtain ⟨x20,x21,x22,x23,x24⟩:=yk HB2.out;go_wp2_with fail;refine (HT.out _).mono ?_;rintro e w3 ⟨rfl,hb3⟩;have hB3:=hB2.trans (hb3.mono (by omega))
         have hz3:w.heap.size<w3.heap.size:=by have:=hb3.size;omega
         have e0:=d0.out _ hB3;have HB3:Hid (w3.heap[w.heap.size]?=some (.cells #[.int .i64 k,.int .i64 (i:Int),.slice ca ct.length cc,.string nm,.string s] 30 (0,0))):=(hb3.block _ (by omega)).trans HB2.out
         clear x20 x21 x22 x23 x24;obtain ⟨x30,x31,x32,x33,x34⟩:=yk HB3.out;go_wp2_with fail;refine (HP.out _).mono ?_;rintro e w5 ⟨rfl,rfl⟩;go_wp2_with fail;go_ret;exact ⟨by rw[HR4.out];rfl,hB3⟩
end
def js (B:Nat)(w:World)(v:Value)(l:List (ByteArray × ByteArray)):Prop:=w.ownsRow B 79 2 v l.length (attrCells l)
structure ZH (B:Nat) (T:Nat→Prop) (N i:Nat) (w:World) (r:Rw) (x:Nd):Prop where
 text:r.text=x.text
 s:r.s=x.s
 par:r.par=x.parent
 kids:qY B w r.vk x.kids
 own:i<N→js B w r.va x.attrs
 far:N≤i→qC T w r.va x.attrs
structure zq (B:Nat) (T:Nat→Prop) (N:Nat) (w:World) (v:Value) (ns:List Nd) (ms:List Rw):Prop where
 len:ms.length=ns.length
 row:w.ownsRow B 43 5 v ns.length (rawCells ms)
 each:∀ (i:Nat) (r:Rw) (x:Nd),ms[i]?=some r→ns[i]?=some x→ZH B T N i w r x
 kids:∀ (i j:Nat) (r q:Rw) (b:Nat),i≠j→ms[i]?=some r→ms[j]?=some q→r.vk.ownBlock=some b→q.vk.ownBlock≠some b
 attrs:∀ (i j:Nat) (r q:Rw) (b:Nat),i≠j→i<N→j<N→ms[i]?=some r→ms[j]?=some q→r.va.ownBlock=some b→q.va.ownBlock≠some b
 low:∀ b,T b→b<B
 le:B≤w.heap.size
theorem ZH.keep {B:Nat}{T:Nat→Prop}{N i:Nat}{w w':World}{r:Rw}{x:Nd}(h:ZH B T N i w r x)(hlow:∀ b,T b→w'.heap[b]?=w.heap[b]?)(hA:i<N→∀ b,r.va.ownBlock=some b→w'.heap[b]?=w.heap[b]?)(hI:∀ b,r.vk.ownBlock=some b→w'.heap[b]?=w.heap[b]?):ZH B T N i w' r x :=
 ⟨h.text,h.s,h.par,qF h.kids hI,fun hi=>qF (h.own hi) (hA hi),fun hi=>(h.far hi).carry fun b hb=>⟨hb,hlow b hb⟩⟩
theorem zq.get {B:Nat}{T:Nat→Prop}{N:Nat}{w:World}{v:Value}{ns:List Nd}{ms:List Rw}(h:zq B T N w v ns ms){i:Nat}{x:Nd}(hx:ns[i]?=some x):∃ r,ms[i]?=some r∧ZH B T N i w r x:=by
 have hi:i<ns.length:=(List.getElem?_eq_some_iff.1 hx).1;have hr:ms[i]?=some (ms[i]'(by rw[h.len];exact hi)):=by simp[h.len,hi]
 exact ⟨_,hr,h.each i _ x hr hx⟩
theorem zq.get' {B:Nat}{T:Nat→Prop}{N:Nat}{w:World}{v:Value}{ns:List Nd}{ms:List Rw}(h:zq B T N w v ns ms){i:Nat}{r:Rw}(hr:ms[i]?=some r):∃ x,ns[i]?=some x∧ZH B T N i w r x:=by
 have hi:i<ms.length:=(List.getElem?_eq_some_iff.1 hr).1;have hx:ns[i]?=some (ns[i]'(by rw[←h.len];exact hi)):=by simp[←h.len,hi]
 exact ⟨_,hx,h.each i r _ hr hx⟩
theorem zq.keep {B:Nat}{T:Nat→Prop}{N:Nat}{w w':World}{v:Value}{ns:List Nd}{ms:List Rw}(h:zq B T N w v ns ms)(hsz:w.heap.size≤w'.heap.size)(hlow:∀ b,b<B→w'.heap[b]?=w.heap[b]?)(hA:∀ b,qS B 79 w b→w'.heap[b]?=w.heap[b]?)
 (hI:∀ b,qS B 3 w b→w'.heap[b]?=w.heap[b]?) (hN:∀ b,qS B 43 w b→w'.heap[b]?=w.heap[b]?):zq B T N w' v ns ms :=
 ⟨h.len,qF h.row fun b hb=>hN b (qx h.row hb),fun i r x hr hx=>(h.each i r x hr hx).keep (fun b hb=>hlow b (h.low b hb)) (fun hi b hb=>hA b (qx ((h.each i r x hr hx).own hi) hb)) (fun b hb=>hI b (qx (h.each i r x hr hx).kids hb)),
  h.kids,h.attrs,h.low,Nat.le_trans h.le hsz⟩
theorem zq.later {B:Nat}{T:Nat→Prop}{N:Nat}{w w':World}{v:Value}{ns:List Nd}{ms:List Rw}(h:zq B T N w v ns ms)(hb:Below w.heap.size w w'):zq B T N w' v ns ms :=
 h.keep hb.size (fun b hb'=>hb.block b (Nat.lt_of_lt_of_le hb' h.le)) (fun b hs=>hb.block b hs.lt) (fun b hs=>hb.block b hs.lt) (fun b hs=>hb.block b hs.lt)
theorem qV {w:World}{B B':Nat}{e e':TypeId}{b b':Nat}(h:qS B e w b)(h':qS B' e' w b')(hne:e≠e'):b≠b':=by
 intro hb;subst hb;obtain ⟨_,c,fz,hc⟩:=h;obtain ⟨_,c',fz',hc'⟩:=h';rw[hc]at hc'
 injection hc' with hc'
 injection hc' with _ h4 _
 exact hne h4
theorem zq.snoc {B:Nat}{T:Nat→Prop}{N:Nat}{w w':World}{v v':Value}{ns:List Nd}{ms:List Rw}{r:Rw}{x:Nd}(h:zq B T N w v ns ms)
 (hown:w'.ownsRow B 43 5 v' (ns.length+1) (rawCells ms++[.bool r.text,.string r.s,r.va,.int .i64 r.par,r.vk])) (hg:w.grownBy w' v.ownBlock) (hR:ZH B T N ns.length w r x) (hN:N≤ns.length) (hk:r.vk.ownBlock=none):zq B T N w' v' (ns++[x]) (ms++[r]):=by
 have hvB:∀ b,v.ownBlock=some b→B≤b:=fun b hb=>(h.row.lt b hb).1
 have keep:∀ {i:Nat} {r:Rw} {x:Nd},ZH B T N i w r x→ZH B T N i w' r x:=by
  intro i r x hR;refine hR.keep (fun b hb=>hg.block b (Nat.lt_of_lt_of_le (h.low b hb) h.le) (fun e=>by have:=hvB b e.symm;have:=h.low b hb;omega)) (fun hi b hb=>?_) (fun b hb=>?_)
  · have hs := qx (hR.own hi) hb;exact hg.block b hs.lt (qE h.row hs (by decide))
  · have hs := qx hR.kids hb;exact hg.block b hs.lt (qE h.row hs (by decide))
 have last:∀ {i:Nat} {q:Rw},(ms++[r])[i]?=some q→(i<ms.length∧ms[i]?=some q)∨(i=ms.length∧q=r):=by
  intro i q hq
  rcases Nat.lt_or_ge i ms.length with hi|hi
  · rw[List.getElem?_append_left hi]at hq;exact Or.inl ⟨hi,hq⟩
  · rw[List.getElem?_append_right hi]at hq
    have hz:i-ms.length=0:=by
     rcases Nat.eq_zero_or_pos (i-ms.length) with h'|h'
     · exact h'
     · rw[List.getElem?_eq_none (by simp;omega)]at hq;cases hq
    rw[hz]at hq
    simp at hq
    exact Or.inr ⟨by omega,hq.symm⟩
 refine ⟨by simp[h.len],?_,?_,?_,?_,h.low,Nat.le_trans h.le hg.size⟩
 · rw[xf,List.length_append];exact hown
 · intro i q y hq hy
   rcases last hq with ⟨hi,hq'⟩|⟨hi,hqr⟩
   · rw[List.getElem?_append_left (by rw[←h.len];exact hi)]at hy
     exact keep (h.each i q y hq' hy)
   · subst hi hqr;rw[h.len,List.getElem?_append_right (nR9 _)]at hy
     simp at hy
     subst hy;rw[h.len];exact keep hR
 · intro i j p q b hne hp hq hb
   rcases last hp with ⟨hi,hp'⟩|⟨hi,hpr⟩
   · rcases last hq with ⟨hj, hq'⟩ | ⟨hj, hqr⟩
     · exact h.kids i j p q b hne hp' hq' hb
     · rw[hqr,hk];exact fun e=>by cases e
   · rw[hpr,hk]at hb;cases hb
 · intro i j p q b hne hiN hjN hp hq hb
   rcases last hp with ⟨hi,hp'⟩|⟨hi,hpr⟩
   · rcases last hq with ⟨hj, hq'⟩ | ⟨hj, hqr⟩
     · exact h.attrs i j p q b hne hiN hjN hp' hq' hb
     · rw[h.len]at hj;omega
   · rw[h.len]at hi;omega
theorem zq.put {B:Nat}{T:Nat→Prop}{N:Nat}{w w1 w2:World}{v:Value}{ns:List Nd}{ms:List Rw}{i:Nat}{r r':Rw}{x x':Nd}(h:zq B T N w v ns ms)(hr:ms[i]?=some r)(hx:ns[i]?=some x)(hsz:w.heap.size≤w1.heap.size)(hsz2:w2.heap.size=w1.heap.size)
 (hkeep:∀ b,b<w.heap.size→r.vk.ownBlock≠some b→(i<N→r.va.ownBlock≠some b)→w1.heap[b]?=w.heap[b]?)
 (hrow:w2.ownsRow B 43 5 v ns.length (rawCells (ms.set i r'))) (hk2:∀ b,v.ownBlock≠some b→w2.heap[b]?=w1.heap[b]?) (hR:ZH B T N i w1 r' x')
 (hk:∀ b,r'.vk.ownBlock=some b→r.vk.ownBlock=some b∨w.heap.size≤b) (ha:i<N→∀ b,r'.va.ownBlock=some b→r.va.ownBlock=some b∨w.heap.size≤b):zq B T N w2 v (ns.set i x') (ms.set i r'):=by
 have hRi:=h.each i r x hr hx;have hil:i<ns.length:=(List.getElem?_eq_some_iff.1 hx).1;have him:i<ms.length:=by rw[h.len];exact hil
 have vnode:∀ b,v.ownBlock=some b→qS B 43 w b:=fun b hb=>qx h.row hb
 have keepLow:∀ b,b<B→w2.heap[b]?=w.heap[b]?:=fun b hb=>by
  rw[hk2 b (fun e=>by have:=(h.row.lt b e).1;omega)]
  refine hkeep b (Nat.lt_of_lt_of_le hb h.le) (fun e=>?_) (fun hi e=>?_)
  · have:=(qY.lt hRi.kids b e).1;omega
  · have:=((hRi.own hi).lt b e).1;omega
 have new_ne:∀ b,v.ownBlock=some b→b<w.heap.size:=fun b hb=>(vnode b hb).lt
 refine ⟨by simp[h.len],by rw[List.length_set];exact hrow,?_,?_,?_,h.low,?_⟩
 · intro j q y hq hy
   by_cases hj:j=i
   · subst hj;rw[List.getElem?_set_self him]at hq
     rw[List.getElem?_set_self hil]at hy
     injection hq with hq
     injection hy with hy
     subst hq hy;refine hR.keep (fun b hb=>hk2 b (fun e=>by have:=(h.row.lt b e).1;have:=h.low b hb;omega)) (fun hi b hb=>hk2 b (fun e=>?_)) (fun b hb=>hk2 b (fun e=>?_))
     · rcases ha hi b hb with e1 | e1
       · exact qV (qx (hRi.own hi) e1) (vnode b e) (by decide) rfl
       · have:=new_ne b e;omega
     · rcases hk b hb with e1 | e1
       · exact qV (qx hRi.kids e1) (vnode b e) (by decide) rfl
       · have:=new_ne b e;omega
   · rw[List.getElem?_set_ne (fun e => hj e.symm)]at hq hy
     have hq':=h.each j q y hq hy;refine hq'.keep (fun b hb=>keepLow b (h.low b hb)) (fun hjN b hb=>?_) (fun b hb=>?_)
     · have hs := qx (hq'.own hjN) hb;rw[hk2 b (fun e=>qV hs (vnode b e) (by decide) rfl)]
       exact hkeep b hs.lt (fun e=>qV hs (qx hRi.kids e) (by decide) rfl) (fun hi e=>h.attrs i j r q b (fun e=>hj e.symm) hi hjN hr hq e hb)
     · have hs := qx hq'.kids hb;rw[hk2 b (fun e=>qV hs (vnode b e) (by decide) rfl)]
       exact hkeep b hs.lt (fun e=>h.kids i j r q b (fun e=>hj e.symm) hr hq e hb) (fun hi e=>qV hs (qx (hRi.own hi) e) (by decide) rfl)
 · intro j k p q b hne hp hq hb e
   have lt:∀ {m:Nat} {q:Rw},ms[m]?=some q→∀ b,q.vk.ownBlock=some b→b<w.heap.size:=fun hm b hb=>by
    obtain ⟨y,_,hy⟩:=h.get' hm;exact (qY.lt hy.kids b hb).2
   by_cases hj:j=i
   · subst hj;rw[List.getElem?_set_self him]at hp
     injection hp with hp
     subst hp;rw[List.getElem?_set_ne hne]at hq
     rcases hk b hb with e1|e1
     · exact h.kids j k r q b hne hr hq e1 e
     · have:=lt hq b e;omega
   · rw[List.getElem?_set_ne (fun e => hj e.symm)]at hp
     by_cases hki:k=i
     · subst hki;rw[List.getElem?_set_self him]at hq
       injection hq with hq
       subst hq
       rcases hk b e with e1|e1
       · exact h.kids j k p r b hne hp hr hb e1
       · have:=lt hp b hb;omega
     · rw[List.getElem?_set_ne (fun e => hki e.symm)]at hq
       exact h.kids j k p q b hne hp hq hb e
 · intro j k p q b hne hjN hkN hp hq hb e
   have lt:∀ {m:Nat} {q:Rw},m<N→ms[m]?=some q→∀ b,q.va.ownBlock=some b→b<w.heap.size:=fun hmN hm b hb=>by
    obtain ⟨y,_,hy⟩:=h.get' hm;exact ((hy.own hmN).lt b hb).2
   by_cases hj:j=i
   · subst hj;rw[List.getElem?_set_self him]at hp
     injection hp with hp
     subst hp;rw[List.getElem?_set_ne hne]at hq
     rcases ha hjN b hb with e1|e1
     · exact h.attrs j k r q b hne hjN hkN hr hq e1 e
     · have:=lt hkN hq b e;omega
   · rw[List.getElem?_set_ne (fun e => hj e.symm)]at hp
     by_cases hki:k=i
     · subst hki;rw[List.getElem?_set_self him]at hq
       injection hq with hq
       subst hq
       rcases ha hkN b e with e1|e1
       · exact h.attrs j k p r b hne hjN hkN hp hr hb e1
       · have:=lt hjN hp b hb;omega
     · rw[List.getElem?_set_ne (fun e => hki e.symm)]at hq
       exact h.attrs j k p q b hne hjN hkN hp hq hb e
 · rw[hsz2];exact Nat.le_trans h.le hsz
section
attribute [local go_sem] qD
theorem yy {ops:Array Oper}{o:Oper}{a:Act}{w:World}{K:Act→World→Prop}{Q:Exit→Act→World→Prop}{E:Prop}
 (hg:o.guard=none) (x:Operand) (hop:o.op=Op.call { callee:=Callee.builtin Builtin.append,args:=#[.const (.slice none 0 0),x],argTypes:=#[40,40] })
 (S:Nat→Prop) (v:Value) (l:List (ByteArray × ByteArray)) (hx:a.eval x=v) (h:qC S w v l) (hl:l.length≤4398046511104)
 (hK:∀ v' w',qC (qS w.heap.size 79 w') w' v' l→Below w.heap.size w w'→K (a.put o.dst v') w') :
 if Region.wanted o (yielded ops a.tmps)=true then Oper.wp Tryz.prog o a w K Q else E:=by
 have hw:Region.wanted o (yielded ops a.tmps)=true:=by simp[Region.wanted,hg]
 rw[if_pos hw];obtain ⟨i0,hi,hz0,hz1,hz2⟩:=info_parts attrInfo;obtain ⟨ad,cap,rfl,h2,h3,h4⟩:=h;have hs:a.eval (.const (.slice none 0 0))=.slice none 0 0:=rfl;cases ad with
 | none =>
   have hn:l=[]:=by
    apply Classical.byContradiction;intro hne
    obtain ⟨b,o,ha,_⟩:=h4 hne;cases ha
   subst hn
   have hrun:(Builtin.append_ #[40,40] o.type #[.slice none 0 0,.slice none 0 cap]).run Tryz.prog w=.ok (.slice none 0 0) w:=by
    simp[Builtin.append_,run_underlying Tryz.underlying40,sizeOf,typeInfo,hi,Builtin.lenOf,Builtin.firstCells]
   simp only[List.length_nil]at hx
   unfold Oper.wp;simp[execOp,hop,resolve,invoke,builtin,hs,hx,hrun,Result.andThen];exact hK _ _ ⟨none,0,rfl,nR9 _,nZ9 _,fun hne=>absurd rfl hne⟩ (Below.refl _ _)
 | some ad =>
   have hcells:∀ j u,(attrCells l)[j]?=some u→w.cell? (ad.add j)=some u:=by
    by_cases hne:l=[]
    · subst hne;intro j u hj;simp[attrCells]at hj
    · obtain ⟨b, o, ha, _, hc⟩ := h4 hne;cases ha;intro j u hj;rw[Addr.add_lit];exact qC.cells hc j u hj
   obtain ⟨v',w',hrun,r1,r2,_⟩:=run_append_own (P:=Tryz.prog) w w.heap.size 40 o.type 79 i0 _ 2 32 Tryz.underlying40 hi hz0 hz1 hz2 rfl (by decide) (.slice none 0 0) 0 [] (World.ownsRow_nil w _ _ _) ad l.length cap (attrCells l) (zt l) hcells (zW l) (by unfold maxLen;omega) (by omega) (nR9 _)
   unfold Oper.wp;simp[execOp,hop,resolve,invoke,builtin,hs,hx,hrun,Result.andThen];refine hK _ _ (qC.of_owns (by simpa using r1)) ((Below.refl _ w).grown r2 (nR9 _) (fun k hk=>by simp[Value.ownBlock]at hk))
def Qk (f:Nat):Prop:=∀ (S:Nat→Prop)(v:Value)(ns:List Nd)(n:Nat)(w:World),qK S w v ns→(∀ x∈ns,x.attrs.length≤4398046511104)→ns.length≤80→n<ns.length→ns.length≤n+f →
 Calls Tryz.prog 48 #[.agg #[v],.int .i64 (n:Int)] w fun e w'=>∃ va vk,e=.returned (.agg #[.bool (treeF f ns n).text,.string (treeF f ns n).s,va,vk]) ∧
  qC (fun b=>w.heap.size≤b) w' va (treeF f ns n).attrs∧qw (fun b=>w.heap.size≤b) w' f vk (treeF f ns n).kids∧Below w.heap.size w w'
theorem XU (ns:List Nd)(n:Nat):∀ m,m≤n+1→zE ns n m=[]:=by
 intro m
 induction m with
 | zero=>intro _;rfl
 | succ m ih =>
   intro h;rw[zE,ih (by omega),if_neg (by omega)]
   rfl
theorem Vi (ns:List Nd)(n:Nat):∀ m,(zE ns n m).length≤m:=by
 intro m
 induction m with
 | zero=>exact nR9 _
 | succ m ih =>
   rw[zE,List.length_append]
   split
   · simp;exact ih
   · simp;omega
structure GT (w:World) (dv:Value) (b2 M:Nat) (tr:Array Value) (va:Value) (l:List (ByteArray × ByteArray)) (W:World):Prop where
 below:Below w.heap.size w W
 box:W.heap[w.heap.size]?=some (.cells #[dv] 24 (0,0))
 res:W.heap[w.heap.size+1]?=some (.cells #[.bool false,.string ⟨#[]⟩,.slice none 0 0,.slice none 0 0] 56 (0,0))
 tre:W.heap[b2]?=some (.cells tr 56 (0,0))
 lo:w.heap.size+2≤b2
 hi:b2<M
 le:M≤W.heap.size
 att:qC (fun b=>w.heap.size+2≤b∧b≠b2∧b<M) W va l
theorem qbv {w W2 w3:World}{dv:Value}{x:Nd}{a3:Option Addr}{c3':Nat}(hb3:Below w.heap.size w W2)(hbB:Below W2.drew.heap.size W2.drew w3)(HZ2:W2.heap.size=w.heap.size+3)(HD3:W2.heap[w.heap.size]?=some (.cells #[dv] 24 (0,0)))(HX3:W2.heap[w.heap.size+1]?=some (.cells #[.bool false,.string ⟨#[]⟩,.slice none 0 0,.slice none 0 0] 56 (0,0)))(hA3:qC (qS W2.drew.heap.size 79 w3) w3 (.slice a3 x.attrs.length c3') x.attrs) :
 GT w dv w3.heap.size (w3.alloc (.cells #[.bool x.text,.string x.s,.slice a3 x.attrs.length c3',.slice none 0 0] 56)).heap.size #[.bool x.text,.string x.s,.slice a3 x.attrs.length c3',.slice none 0 0] (.slice a3 x.attrs.length c3') x.attrs (w3.alloc (.cells #[.bool x.text,.string x.s,.slice a3 x.attrs.length c3',.slice none 0 0] 56)):=by
 have hB3:Below w.heap.size w w3:=hb3.drew.trans (hbB.mono (by have:=HZ2;show w.heap.size≤W2.heap.size;omega))
 have hs3:W2.heap.size≤w3.heap.size:=hbB.size;have hz:=HZ2;refine ⟨hB3.alloc hB3.size _,?_,?_,heap_alloc_new _ _,by omega,by simp,nR9 _,?_⟩
 · rw[Lib.alloc_old _ _ _ (by omega)];exact (hbB.block _ (by show w.heap.size<W2.heap.size;omega)).trans HD3
 · rw[Lib.alloc_old _ _ _ (by omega)];exact (hbB.block _ (by show w.heap.size+1<W2.heap.size;omega)).trans HX3
 · exact (hA3.later (Below.alloc1 w3 _)).bounded.carry fun b hb=>⟨⟨by have h1:W2.heap.size≤b:=hb.1.1;omega,by have:=hb.1.lt;omega,hb.2⟩,rfl⟩
theorem qbw {w W2 w3:World}{dv:Value}{x:Nd}{a3:Option Addr}{c3':Nat}(HB4:Below w.heap.size w (W2.alloc (.cells #[.bool false,.string ⟨#[]⟩,.slice none 0 0,.slice none 0 0] 56)).drew)(hbA:Below (W2.alloc (.cells #[.bool false,.string ⟨#[]⟩,.slice none 0 0,.slice none 0 0] 56)).drew.heap.size (W2.alloc (.cells #[.bool false,.string ⟨#[]⟩,.slice none 0 0,.slice none 0 0] 56)).drew w3)(HZ2:W2.heap.size=w.heap.size+3)(HD3:W2.heap[w.heap.size]?=some (.cells #[dv] 24 (0,0)))(HX3:W2.heap[w.heap.size+1]?=some (.cells #[.bool false,.string ⟨#[]⟩,.slice none 0 0,.slice none 0 0] 56 (0,0)))(HZ4:w.heap.size+2<(W2.alloc (.cells #[.bool false,.string ⟨#[]⟩,.slice none 0 0,.slice none 0 0] 56)).drew.heap.size)(HZ5:W2.heap.size<(W2.alloc (.cells #[.bool false,.string ⟨#[]⟩,.slice none 0 0,.slice none 0 0] 56)).drew.heap.size)(hV3:w3.heap[W2.heap.size]?=some (.cells #[.bool false,.string ⟨#[]⟩,.slice none 0 0,.slice none 0 0] 56 (0,0)))(hA3:qC (qS (W2.alloc (.cells #[.bool false,.string ⟨#[]⟩,.slice none 0 0,.slice none 0 0] 56)).drew.heap.size 79 w3) w3 (.slice a3 x.attrs.length c3') x.attrs) :
 GT w dv W2.heap.size ((((w3.setCell ⟨W2.heap.size,0,none⟩ (.bool x.text)).setCell ⟨W2.heap.size,1,none⟩ (.string x.s)).setCell ⟨W2.heap.size,2,none⟩ (.slice a3 x.attrs.length c3')).setCell ⟨W2.heap.size,3,none⟩ (.slice none 0 0)).heap.size #[.bool x.text,.string x.s,.slice a3 x.attrs.length c3',.slice none 0 0] (.slice a3 x.attrs.length c3') x.attrs ((((w3.setCell ⟨W2.heap.size,0,none⟩ (.bool x.text)).setCell ⟨W2.heap.size,1,none⟩ (.string x.s)).setCell ⟨W2.heap.size,2,none⟩ (.slice a3 x.attrs.length c3')).setCell ⟨W2.heap.size,3,none⟩ (.slice none 0 0)):=by
 have hB3:Below w.heap.size w w3:=HB4.trans (hbA.mono HB4.size);have hz:=HZ2;have hle:w.heap.size≤W2.heap.size:=by omega
 refine ⟨(((hB3.setCell (p:=⟨W2.heap.size,0,none⟩) hle _).setCell (p:=⟨W2.heap.size,1,none⟩) hle _).setCell (p:=⟨W2.heap.size,2,none⟩) hle _).setCell (p:=⟨W2.heap.size,3,none⟩) hle _,?_,?_,?_,by omega,by have:=qA hV3;simpa using this,nR9 _,?_⟩
 · rw[qd (by omega), qd (by omega), qd (by omega), qd (by omega)]
   exact (hbA.block _ (by have:=HZ4;omega)).trans ((Lib.alloc_old _ _ _ (by omega)).trans HD3)
 · rw[qd (by omega), qd (by omega), qd (by omega), qd (by omega)]
   exact (hbA.block _ (by have:=HZ4;omega)).trans ((Lib.alloc_old _ _ _ (by omega)).trans HX3)
 · simp[World.setCell,Array.getElem?_modify,hV3]
 · refine hA3.bounded.carry fun b hb => ⟨⟨by have h1 : (W2.alloc (.cells #[.bool false, .string ⟨#[]⟩, .slice none 0 0, .slice none 0 0] 56)).drew.heap.size ≤ b := hb.1.1;have := HZ5;omega, by have h1 : (W2.alloc (.cells #[.bool false, .string ⟨#[]⟩, .slice none 0 0, .slice none 0 0] 56)).drew.heap.size ≤ b := hb.1.1;have := HZ5;omega, by have := hb.2;simpa using this⟩, ?_⟩
   have h1:(W2.alloc (.cells #[.bool false,.string ⟨#[]⟩,.slice none 0 0,.slice none 0 0] 56)).drew.heap.size≤b:=hb.1.1;have h2:=HZ5;rw[qd (by omega),qd (by omega),qd (by omega),qd (by omega)]
theorem J3 {w:World}{dv:Value}{b2 M f i:Nat}{c0 c1 c2:Value}{va:Value}{l:List (ByteArray × ByteArray)}{wr w5 w6:World}{ja:Option Addr}{jc:Nat}{us:List Tr}{qs:List (Bool × ByteArray × Value × Value)}{t:Tr}{a5 k5:Option Addr}{d5 e5:Nat}{a6:Option Addr}{n6 c6:Nat}
 (hG:GT w dv b2 M #[c0,c1,c2,.slice ja i jc] va l wr) (hR:zC (fun _=>False) f M wr.drew (.slice ja i jc) us qs) (hi:us.length=i) (hb5:Below wr.drew.heap.size wr.drew w5)
 (hA:qC (fun b=>wr.drew.heap.size≤b) w5 (.slice a5 t.attrs.length d5) t.attrs) (hK:qw (fun b=>wr.drew.heap.size≤b) w5 f (.slice k5 t.kids.length e5) t.kids)
 (hown:w6.ownsRow M 56 4 (.slice a6 n6 c6) (i+1) (quadCells qs++[.bool t.text,.string t.s,.slice a5 t.attrs.length d5,.slice k5 t.kids.length e5]))
 (hgr:(w5.alloc (.cells #[.bool t.text,.string t.s,.slice a5 t.attrs.length d5,.slice k5 t.kids.length e5] 56)).grownBy w6 (Value.slice ja i jc).ownBlock)
 (hat:(Value.slice a6 n6 c6).ownBlock=(Value.slice ja i jc).ownBlock∨(Value.slice a6 n6 c6).ownBlock=some (w5.alloc (.cells #[.bool t.text,.string t.s,.slice a5 t.attrs.length d5,.slice k5 t.kids.length e5] 56)).heap.size) :
 GT w dv b2 M #[c0,c1,c2,.slice a6 n6 c6] va l (w6.setCell ⟨b2,3,none⟩ (.slice a6 n6 c6))∧M≤(w6.setCell ⟨b2,3,none⟩ (.slice a6 n6 c6)).heap.size ∧
  zC (fun _=>False) f M (w6.setCell ⟨b2,3,none⟩ (.slice a6 n6 c6)) (.slice a6 n6 c6) (us++[t]) (qs++[(t.text,t.s,.slice a5 t.attrs.length d5,.slice k5 t.kids.length e5)]):=by
 have hs5:wr.heap.size≤w5.heap.size:=hb5.size;have hMr:=hG.le;have hhi:=hG.hi;have hs6:=hgr.size;simp only[World.size_alloc]at hs6
 have hkeep:∀ b,b<wr.heap.size→b<M→w6.heap[b]?=wr.heap[b]?:=by
  intro b h1 h2;rw[hgr.block b (by simp;omega) (fun e=>by have:=(hR.own.lt b e.symm).1;omega),Lib.alloc_old _ _ _ (by omega)]
  exact hb5.block b h1
 have hB6:Below w.heap.size w w6:=((hG.below.drew.trans (hb5.mono hG.below.size)).alloc (by have:=hG.below.size;omega) _).grown hgr (by simp;have:=hG.below.size;omega) (fun k hk=>by have:=(hR.own.lt k hk).1;have:=hG.lo;omega)
 have hsz:(w6.setCell ⟨b2,3,none⟩ (.slice a6 n6 c6)).heap.size=w6.heap.size:=by simp
 have hlo:=hG.lo;have hres:=qA hG.res;have hbox:=qA hG.box;have htre:=qA hG.tre;refine ⟨⟨hB6.setCell (p:=⟨b2,3,none⟩) (by show w.heap.size≤b2;omega) _,?_,?_,?_,hlo,hhi,by rw[hsz];omega,?_⟩,by rw[hsz];omega,?_⟩
 · rw[qd (by omega),hkeep _ hbox (by omega)];exact hG.box
 · rw[qd (by omega),hkeep _ hres (by omega)];exact hG.res
 · have := (hkeep b2 htre hhi).trans hG.tre;simp[World.setCell,Array.getElem?_modify,this]
 · refine hG.att.bounded.carry fun b hb => ⟨hb.1, ?_⟩
   rw[qd hb.1.2.1,hkeep b hb.2 hb.1.2.2]
 · have hfr := hR.fresh (w' := w5.alloc (.cells #[.bool t.text, .string t.s, .slice a5 t.attrs.length d5, .slice k5 t.kids.length e5] 56)) (nR9 _) hMr;have hG3:=(hR.later hb5).later (Below.alloc1 w5 (.cells #[.bool t.text,.string t.s,.slice a5 t.attrs.length d5,.slice k5 t.kids.length e5] 56))
   have hG4:=hG3.snoc (t:=t) (q:=(t.text,t.s,.slice a5 t.attrs.length d5,.slice k5 t.kids.length e5)) (by rw[hi];exact hown) hgr hat rfl rfl
    ((hA.later (Below.alloc1 w5 _)).bounded.carry (fun b hb=>⟨hfr b ⟨hb.1,hb.2⟩,rfl⟩))
    (qw.carry (fun b hb=>⟨hfr b ⟨hb.1,hb.2⟩,rfl⟩) f (qw.bounded f (qw.later (Below.alloc1 w5 _) f hK)))
   have hne:∀ b,M≤b→b≠b2:=fun b h=>by omega
   refine ⟨hG4.len,qF hG4.own (fun b hb=>qd (hne b (hG4.own.lt b hb).1)),fun j q u hq hu=>?_⟩
   obtain ⟨x1,x2,x3,x4⟩:=hG4.each j q u hq hu
   have carry:∀ b,Oth (fun _=>False) M w6 (.slice a6 n6 c6) b→Oth (fun _=>False) M (w6.setCell ⟨b2,3,none⟩ (.slice a6 n6 c6)) (.slice a6 n6 c6) b∧(w6.setCell ⟨b2,3,none⟩ (.slice a6 n6 c6)).heap[b]?=w6.heap[b]?:=by
    intro b hb;refine ⟨⟨hb.1,by rw[hsz];exact hb.2.1,hb.2.2⟩,qd (hne b ?_)⟩
    rcases hb.1 with h1|h1
    · exact h1.elim
    · exact h1
   exact ⟨x1,x2,x3.carry carry,qw.carry carry f x4⟩
set_option maxHeartbeats 2000000 in
theorem J4 (f:Nat)(ih:Qk f):Qk (f+1):=by
 intro S v ns n w hN hfew h80 hn hf;obtain ⟨x,hx⟩:∃ x,ns[n]?=some x:=⟨ns[n],by simp[hn]⟩
 have HG:Hid (treeF (f+1) ns n=⟨x.text,x.s,x.attrs,(zE ns n ns.length).map fun k=>treeF f ns k.toNat⟩):=by show _=_;rw[treeF,hx]
 have hal:=hfew x (List.mem_of_getElem? hx);obtain ⟨b,o,cap,va,vk,rfl,hlc,hcm,hSb,hbw,c0,c1,c2,c3,c4,hAt,hKi⟩:=hN.at hx
 obtain ⟨aa,ac,rfl⟩:=hAt.shape;obtain ⟨ka,kc,rfl,hkl2,hkm⟩:=hKi.shape;unfold maxLen at hcm hkm
 have hb3:Below w.heap.size w (((w.alloc (.cells #[.slice (some ⟨b,o,none⟩) ns.length cap] 24)).alloc (.cells #[.bool false,.string ⟨#[]⟩,.slice none 0 0,.slice none 0 0] 56)).alloc (.cells #[.bool x.text,.string x.s,.slice aa x.attrs.length ac,.int .i64 x.parent,.slice ka x.kids.length kc] 43)):=((Below.alloc1 w _).alloc (by simp) _).alloc (by simp;omega) _
 have IH:Hid (Qk f):=ih;have hni:(n:Int)<(ns.length:Int):=by omega
 clear ih
 go_enter Tryz.func48,Tryz.ntmps48
 go_wp2_with fail
 have hD3:(((w.alloc (.cells #[.slice (some ⟨b,o,none⟩) ns.length cap] 24)).alloc (.cells #[.bool false,.string ⟨#[]⟩,.slice none 0 0,.slice none 0 0] 56)).alloc (.cells #[.bool x.text,.string x.s,.slice aa x.attrs.length ac,.int .i64 x.parent,.slice ka x.kids.length kc] 43)).heap[w.heap.size]?=some (.cells #[(.slice (some ⟨b,o,none⟩) ns.length cap)] 24 (0,0)):=by
  rw[Lib.alloc_old _ _ _ (by simp;omega),Lib.alloc_old _ _ _ (by simp)];exact heap_alloc_new _ _
 have hX3:(((w.alloc (.cells #[.slice (some ⟨b,o,none⟩) ns.length cap] 24)).alloc (.cells #[.bool false,.string ⟨#[]⟩,.slice none 0 0,.slice none 0 0] 56)).alloc (.cells #[.bool x.text,.string x.s,.slice aa x.attrs.length ac,.int .i64 x.parent,.slice ka x.kids.length kc] 43)).heap[w.heap.size+1]?=some (.cells #[.bool false,.string ⟨#[]⟩,.slice none 0 0,.slice none 0 0] 56 (0,0)):=by
  rw[Lib.alloc_old _ _ _ (by simp)]
  have e:=heap_alloc_new (w.alloc (.cells #[(.slice (some ⟨b,o,none⟩) ns.length cap)] 24)) (.cells #[.bool false,.string ⟨#[]⟩,.slice none 0 0,.slice none 0 0] 56);rw[World.size_alloc]at e
  exact e
 have hY3:(((w.alloc (.cells #[.slice (some ⟨b,o,none⟩) ns.length cap] 24)).alloc (.cells #[.bool false,.string ⟨#[]⟩,.slice none 0 0,.slice none 0 0] 56)).alloc (.cells #[.bool x.text,.string x.s,.slice aa x.attrs.length ac,.int .i64 x.parent,.slice ka x.kids.length kc] 43)).heap[w.heap.size+2]?=some (.cells #[.bool x.text,.string x.s,.slice aa x.attrs.length ac,.int .i64 x.parent,.slice ka x.kids.length kc] 43 (0,0)):=by
  have e:=heap_alloc_new ((w.alloc (.cells #[(.slice (some ⟨b,o,none⟩) ns.length cap)] 24)).alloc (.cells #[.bool false,.string ⟨#[]⟩,.slice none 0 0,.slice none 0 0] 56)) (.cells #[.bool x.text,.string x.s,.slice aa x.attrs.length ac,.int .i64 x.parent,.slice ka x.kids.length kc] 43);rw[World.size_alloc,World.size_alloc]at e
  exact e
 have hZ:(((w.alloc (.cells #[.slice (some ⟨b,o,none⟩) ns.length cap] 24)).alloc (.cells #[.bool false,.string ⟨#[]⟩,.slice none 0 0,.slice none 0 0] 56)).alloc (.cells #[.bool x.text,.string x.s,.slice aa x.attrs.length ac,.int .i64 x.parent,.slice ka x.kids.length kc] 43)).heap.size=w.heap.size+3:=by simp
 generalize ((w.alloc (.cells #[.slice (some ⟨b,o,none⟩) ns.length cap] 24)).alloc (.cells #[.bool false,.string ⟨#[]⟩,.slice none 0 0,.slice none 0 0] 56)).alloc (.cells #[.bool x.text,.string x.s,.slice aa x.attrs.length ac,.int .i64 x.parent,.slice ka x.kids.length kc] 43)=W2 at hb3 hD3 hX3 hY3 hZ ⊢
 have HZ2:Hid (W2.heap.size=w.heap.size+3):=hZ;have hZ3:w.heap.size+2<W2.heap.size:=by omega
 clear hZ;have HAT:Hid (∀ W,Below w.heap.size w W→qC S W (.slice aa x.attrs.length ac) x.attrs):=fun W hW=>hAt.later hW
 have HNN:Hid (qK S w (.slice (some ⟨b,o,none⟩) ns.length cap) ns):=hN
 have HWW:Hid (∀ W':World,W'.heap[w.heap.size+2]?=W2.heap[w.heap.size+2]?→W'.cell? ⟨w.heap.size+2,0,none⟩=some (.bool x.text)∧W'.cell? ⟨w.heap.size+2,1,none⟩=some (.string x.s)∧W'.cell? ⟨w.heap.size+2,2,none⟩=some (.slice aa x.attrs.length ac)):=by
  intro W' h2;rw[hY3]at h2
  exact ⟨by rw[cH9 h2];rfl,by rw[cH9 h2];rfl,by rw[cH9 h2];rfl⟩
 obtain ⟨y0,y1,y2⟩:=HWW.out W2 rfl;have HB4:Hid (Below w.heap.size w (W2.alloc (.cells #[.bool false,.string ⟨#[]⟩,.slice none 0 0,.slice none 0 0] 56)).drew):=(hb3.alloc (by omega) _).drew
 have HZ4:Hid (w.heap.size+2<(W2.alloc (.cells #[.bool false,.string ⟨#[]⟩,.slice none 0 0,.slice none 0 0] 56)).drew.heap.size):=by show w.heap.size+2<(W2.alloc (.cells #[.bool false,.string ⟨#[]⟩,.slice none 0 0,.slice none 0 0] 56)).heap.size;rw[World.size_alloc];omega
 have HZ5:Hid (W2.heap.size<(W2.alloc (.cells #[.bool false,.string ⟨#[]⟩,.slice none 0 0,.slice none 0 0] 56)).drew.heap.size):=by show W2.heap.size<(W2.alloc (.cells #[.bool false,.string ⟨#[]⟩,.slice none 0 0,.slice none 0 0] 56)).heap.size;rw[World.size_alloc];omega
 have HD3:Hid (W2.heap[w.heap.size]?=some (.cells #[(.slice (some ⟨b,o,none⟩) ns.length cap)] 24 (0,0))):=hD3;have HX3:Hid (W2.heap[w.heap.size+1]?=some (.cells #[.bool false,.string ⟨#[]⟩,.slice none 0 0,.slice none 0 0] 56 (0,0))):=hX3;clear c0 c1 c2 c3 c4 hAt hKi hN hx hX3 hD3 hY3
 go_region_held3 (fun W:World=>W.cell? ⟨w.heap.size+2,0,none⟩=some (.bool x.text)∧W.cell? ⟨w.heap.size+2,1,none⟩=some (.string x.s)∧W.cell? ⟨w.heap.size+2,2,none⟩=some (.slice aa x.attrs.length ac))
  (first
   | exact HWW.out w3 (hbB.block _ hZ3)
   | exact HWW.out (w3.alloc (.cells #[.bool false,.string ⟨#[]⟩,.slice none 0 0,.slice none 0 0] 56)) ((Lib.alloc_old _ _ _ (Nat.lt_of_lt_of_le hZ3 hbB.size)).trans (hbB.block _ hZ3))
   | exact HWW.out (w3.alloc (.cells #[.bool x.text,.string x.s,.slice a3 x.attrs.length c3',.slice none 0 0] 56)) ((Lib.alloc_old _ _ _ (Nat.lt_of_lt_of_le hZ3 hbB.size)).trans (hbB.block _ hZ3))
   | exact HWW.out w3 ((hbA.block _ HZ4.out).trans (Lib.alloc_old _ _ _ hZ3))
   | exact HWW.out _ (by rw[qd (Nat.ne_of_lt hZ3),qd (Nat.ne_of_lt hZ3),qd (Nat.ne_of_lt hZ3),qd (Nat.ne_of_lt hZ3)];exact (hbA.block _ HZ4.out).trans (Lib.alloc_old _ _ _ hZ3))
   | exact HWW.out W2.drew rfl
   | exact HWW.out (W2.alloc (.cells #[.bool false,.string ⟨#[]⟩,.slice none 0 0,.slice none 0 0] 56)).drew (Lib.alloc_old _ _ _ hZ3))
  (first
   | (refine yy (by rfl) (.tmp 18) (by rfl) S (.slice aa x.attrs.length ac) x.attrs (by simp[Act.eval]) (HAT.out (W2.alloc (.cells #[.bool false,.string ⟨#[]⟩,.slice none 0 0,.slice none 0 0] 56)).drew HB4.out) hal ?_;intro va3 w3 hA3 hbA;obtain ⟨a3,c3',rfl⟩:=hA3.shape;have hV3:w3.heap[W2.heap.size]?=some (.cells #[.bool false,.string ⟨#[]⟩,.slice none 0 0,.slice none 0 0] 56 (0,0)):=(hbA.block _ HZ5.out).trans (heap_alloc_new _ _);have g0:=cH9 hV3 0;have g1:=cH9 hV3 1;have g2:=cH9 hV3 2;have g3:=cH9 hV3 3;have k0:=fH9 hV3 0;have k1:=fH9 hV3 1;have k2:=fH9 hV3 2;have k3:=fH9 hV3 3;simp at g0 g1 g2 g3)
   | (refine yy (by rfl) (.tmp 18) (by rfl) S (.slice aa x.attrs.length ac) x.attrs (by simp[Act.eval]) (HAT.out W2.drew hb3.drew) hal ?_;intro va3 w3 hA3 hbB;obtain ⟨a3,c3',rfl⟩:=hA3.shape))
 all_goals
  first
   | (have hGS:=qbv (dv:=.slice (some ⟨b,o,none⟩) ns.length cap) (x:=x) hb3 hbB HZ2.out HD3.out HX3.out hA3;generalize w3.alloc (.cells #[.bool x.text,.string x.s,.slice a3 x.attrs.length c3',.slice none 0 0] 56)=W4 at hGS ⊢;generalize w3.heap.size=b2 at hGS ⊢;clear hb3 hbB hA3 HAT HWW HB4 HZ4 HZ5 HX3 HD3 HZ2 hZ3 y0 y1 y2)
   | (have hGS:=qbw (dv:=.slice (some ⟨b,o,none⟩) ns.length cap) (x:=x) HB4.out hbA HZ2.out HD3.out HX3.out HZ4.out HZ5.out hV3 hA3;generalize ((((w3.setCell ⟨W2.heap.size,0,none⟩ (.bool x.text)).setCell ⟨W2.heap.size,1,none⟩ (.string x.s)).setCell ⟨W2.heap.size,2,none⟩ (.slice a3 x.attrs.length c3')).setCell ⟨W2.heap.size,3,none⟩ (.slice none 0 0))=W4 at hGS ⊢;generalize W2.heap.size=b2 at hGS ⊢;clear hb3 hbA hA3 HAT HWW HB4 HZ4 HZ5 HX3 HD3 HZ2 hZ3 y0 y1 y2 hV3 g0 g1 g2 g3 k0 k1 k2 k3)
  have d4:W4.cell? ⟨w.heap.size,0,none⟩=some (.slice (some ⟨b,o,none⟩) ns.length cap):=by rw[cH9 hGS.box];rfl
  have HGS:Hid _:=hGS;have hlo:=hGS.lo;clear hGS;go_wp2_with fail
  go_loopg [7] (ns.length-(n+1)) (fun g j wr=>∃ (i:Nat) (v:Value) (qs:List (Bool × ByteArray × Value × Value)),i+g=ns.length∧n<i∧j=.int .i64 (i:Int)∧GT w (.slice (some ⟨b,o,none⟩) ns.length cap) b2 W4.heap.size #[.bool x.text,.string x.s,.slice a3 x.attrs.length c3',v] (.slice a3 x.attrs.length c3') x.attrs wr∧W4.heap.size≤wr.heap.size∧zC (fun _=>False) f W4.heap.size wr v ((zE ns n i).map fun k=>treeF f ns k.toNat) qs)
  case atStart => exact ⟨n+1,.slice none 0 0,[],by omega,by omega,by go_num,HGS.out,nR9 _,by rw[XU _ _ _ (nR9 _)];exact zC.nil _ _ _ _⟩
  case round =>
   obtain ⟨i,v,qs,hi,hni2,rfl,hG,hWs,hGr⟩:=hrel;have HG4:Hid _:=hG;have hB4:=hG.below;obtain ⟨ja,jc,rfl⟩:=hGr.shape;have HGR:Hid _:=hGr;have d5:wr.cell? ⟨w.heap.size,0,none⟩=some (.slice (some ⟨b,o,none⟩) ns.length cap):=by rw[cH9 HG4.out.box];rfl
   by_cases hil:i<ns.length
   · obtain ⟨y, hy⟩ : ∃ y, ns[i]? = some y := ⟨ns[i], by simp[hil]⟩
     obtain ⟨b',o',cap2,xva,xvk,hv,_,_,_,hbw2,_,_,_,c3,_,_,_⟩:=(HNN.out.later hB4).at hy
     cases hv;have hili:(i:Int)<(ns.length:Int):=by omega
     by_cases hp:y.parent=(n:Int)
     · have hsn:(zE ns n (i+1)).map (fun k=>treeF f ns k.toNat)=(zE ns n i).map (fun k=>treeF f ns k.toNat)++[treeF f ns i]:=by
        rw[zE,if_pos ⟨by omega,by unfold Zv;rw[hy];simp[hp]⟩,List.map_append];rfl
       have HSN:Hid _:=hsn;rw[hp]at c3
       have HCALL:Hid (∀ W,Below w.heap.size w W→Calls Tryz.prog 48 #[.agg #[(.slice (some ⟨b,o,none⟩) ns.length cap)],.int .i64 (i:Int)] W fun e w'=>∃ r,e=.returned r∧∃ va vk,r=.agg #[.bool (treeF f ns i).text,.string (treeF f ns i).s,va,vk] ∧
        qC (fun b=>W.heap.size≤b) w' va (treeF f ns i).attrs∧qw (fun b=>W.heap.size≤b) w' f vk (treeF f ns i).kids∧Below W.heap.size W w'):=by
        intro W hW;refine (IH.out S _ ns i W (HNN.out.later hW) hfew h80 (by omega) (by omega)).mono ?_
        rintro e w' ⟨va,vk,rfl,h1,h2,h3⟩;exact ⟨_,rfl,va,vk,rfl,h1,h2,h3⟩
       have hln:((zE ns n i).map fun k=>treeF f ns k.toNat).length≤80:=by rw[List.length_map];have:=Vi ns n i;omega
       obtain ⟨us,hus⟩:∃ us,(zE ns n i).map (fun k=>treeF f ns k.toNat)=us:=⟨_,rfl⟩
       obtain ⟨t,ht⟩:∃ t,treeF f ns i=t:=⟨_,rfl⟩;rw[hus]at HGR HG4 HSN hln
       rw[ht]at HCALL HSN
       obtain ⟨L,hL⟩:∃ L,us.length=L:=⟨_,rfl⟩;rw[hL]at HGR HG4 hln
       have HLN:Hid (us.length=L):=hL;have hz3:wr.cell? ⟨b2,3,none⟩=some (.slice ja L jc):=by rw[cH9 HG4.out.tre];rfl
       have hf3:wr.frozen? ⟨b2,3,none⟩=false:=fH9 HG4.out.tre 3;have hi20:L≤1048576:=by omega
       have hwrs:=hB4.size;have hb2r:=qA HG4.out.tre;have HGD:Hid (zC (fun _=>False) f W4.heap.size wr.drew (.slice ja L jc) us qs):=HGR.out.later (Below.refl _ wr).drew
       have HCH:Hid (∀ (w5 w6:World) (X:Obj),Below wr.drew.heap.size wr.drew w5→(w5.alloc X).grownBy w6 (Value.slice ja L jc).ownBlock→w6.heap[b2]?=some (.cells #[.bool x.text,.string x.s,.slice a3 x.attrs.length c3',.slice ja L jc] 56 (0,0))):=by
        intro w5 w6 X h5 h6;have h7:b2<w5.heap.size:=Nat.lt_of_lt_of_le hb2r h5.size;rw[h6.block b2 (by simp;omega) (fun e=>by have:=(HGR.out.own.lt b2 e.symm).1;have:=HG4.out.hi;omega),Lib.alloc_old _ _ _ h7]
        exact (h5.block b2 hb2r).trans HG4.out.tre
       clear hG hGr hy hsn hus ht d4 hL hp;go_wp2_with fail
       go_region_law (first
        | (refine zy (by rfl) 48 #[.agg #[(.slice (some ⟨b,o,none⟩) ns.length cap)],.int .i64 (i:Int)] (by go_simp) _ (HCALL.out _ hB4.drew) ?_;intro r5 w5 hR5;obtain ⟨va5,vk5,rfl,hA5,hK5,hb5⟩:=hR5;obtain ⟨a5,c5,rfl⟩:=hA5.shape;obtain ⟨k5,d5,rfl,_,_⟩:=qw.shape f hK5;have z5:w5.cell? ⟨b2,3,none⟩=some (.slice ja L jc):=(hb5.cell (p:=⟨b2,3,none⟩) hb2r).trans hz3;have z5a:(w5.alloc (.cells #[.bool t.text,.string t.s,.slice a5 t.attrs.length c5,.slice k5 t.kids.length d5] 56)).cell? ⟨b2,3,none⟩=some (.slice ja L jc):=Lib.cell?_alloc_some _ z5)
        | (refine xO (by rfl) (.tmp 39) (.tmp 43) (by rfl) W4.heap.size (.slice ja L jc) L (quadCells qs) (by simp[Act.eval]) (by have:=(qH HGD.out.own hb5).alloc (.cells #[.bool t.text,.string t.s,.slice a5 t.attrs.length c5,.slice k5 t.kids.length d5] 56);rw[HLN.out]at this;exact this) ⟨w5.heap.size,0,none⟩ t.text t.s a5 t.attrs.length c5 k5 t.kids.length d5 (by simp[Act.eval]) (yG _ _ _ _ _ _) hi20 (by have:=hb5.size;simp at this ⊢;omega) ?_;intro v6 w6 hown6 hgr6 hat6;obtain ⟨a6,n6,c6,rfl⟩:=qN hown6;have hk6:=HCH.out w5 w6 _ hb5 hgr6;have z6:=cH9 hk6 3;have f6:=fH9 hk6 3;simp at z6))
       all_goals
        have HG7:Hid _:=J3 HG4.out HGD.out HLN.out hb5 hA5 hK5 hown6 hgr6 hat6;clear hown6 hgr6 hat6 hA5 hK5;go_wp2_with fail
        go_roundg (ns.length-(i+1))
        case measure => omega
        case rel => exact ⟨i+1,_,_,by omega,by omega,by go_num,HG7.out.1,HG7.out.2.1,by rw[HSN.out];exact HG7.out.2.2⟩
     · have hpb : (y.parent == (n : Int)) = false := by simpa using hp
       have hsn:zE ns n (i+1)=zE ns n i:=by
        rw[zE,if_neg (fun h=>by have h2:=h.2;unfold Zv at h2;rw[hy]at h2;simp at h2;exact hp h2),List.append_nil]
       have HSN:Hid _:=hsn;clear hG hGr hy hsn hp d4;go_wp2_with fail
       go_roundg (ns.length-(i+1))
       case measure => omega
       case rel => exact ⟨i+1,_,_,by omega,by omega,by go_num,HG4.out,hWs,by rw[HSN.out];exact HGR.out⟩
   · have hii : i = ns.length := by omega
     have HII:Hid (i=ns.length):=hii;have hili:¬ ((i:Int)<(ns.length:Int)):=by omega
     clear hii;have p0:wr.cell? ⟨w.heap.size+1,0,none⟩=some (.bool false):=by rw[cH9 HG4.out.res];rfl
     have p1:wr.cell? ⟨w.heap.size+1,1,none⟩=some (.string ⟨#[]⟩):=by rw[cH9 HG4.out.res];rfl
     have p2:wr.cell? ⟨w.heap.size+1,2,none⟩=some (.slice none 0 0):=by rw[cH9 HG4.out.res];rfl
     have p3:wr.cell? ⟨w.heap.size+1,3,none⟩=some (.slice none 0 0):=by rw[cH9 HG4.out.res];rfl
     have f0:wr.frozen? ⟨w.heap.size+1,0,none⟩=false:=fH9 HG4.out.res 0;have f1:wr.frozen? ⟨w.heap.size+1,1,none⟩=false:=fH9 HG4.out.res 1;have f2:wr.frozen? ⟨w.heap.size+1,2,none⟩=false:=fH9 HG4.out.res 2;have f3:wr.frozen? ⟨w.heap.size+1,3,none⟩=false:=fH9 HG4.out.res 3;have q0:wr.cell? ⟨b2,0,none⟩=some (.bool x.text):=by rw[cH9 HG4.out.tre];rfl
     have q1:wr.cell? ⟨b2,1,none⟩=some (.string x.s):=by rw[cH9 HG4.out.tre];rfl
     have q2:wr.cell? ⟨b2,2,none⟩=some (.slice a3 x.attrs.length c3'):=by rw[cH9 HG4.out.tre];rfl
     have q3:wr.cell? ⟨b2,3,none⟩=some (.slice ja ((zE ns n i).map fun k=>treeF f ns k.toNat).length jc):=by rw[cH9 HG4.out.tre];rfl
     clear hG hGr d4
     generalize hvv:Value.slice ja ((zE ns n i).map fun k=>treeF f ns k.toNat).length jc=vv at HGR HG4 q3
     obtain ⟨va7,vn7,vc7,rfl⟩:∃ a n c,vv=.slice a n c:=⟨_,_,_,hvv.symm⟩;clear hvv;rw[HII.out]at HGR
     go_wp2_with fail;refine bodyPost_ret (v:=.agg #[.bool x.text,.string x.s,.slice a3 x.attrs.length c3',.slice va7 vn7 vc7]) (by simp[results,Tryz.results48,go_sem,qD,p0,p1,p2,p3,World.cell?_setCell_other]) rfl ⟨.slice a3 x.attrs.length c3',.slice va7 vn7 vc7,?_,?_,?_,?_⟩
     · rw[HG.out]
     · rw[HG.out];refine HG4.out.att.carry fun b hb=>⟨by have:=hb.1;omega,?_⟩
       rw[qd (by have:=hb.1;omega),qd (by have:=hb.1;omega),qd (by have:=hb.1;omega),qd (by have:=hb.1;omega)]
     · rw[HG.out];have hW:=HG4.out.hi;refine qw.carry (fun b hb=>⟨?_,?_⟩) (f+1) HGR.out.done
       · rcases hb with hb | hb
         · exact hb.elim
         · omega
       · rcases hb with hb | hb
         · exact hb.elim
         · rw[qd (by omega),qd (by omega),qd (by omega),qd (by omega)]
     · exact (((hB4.setCell (p:=⟨w.heap.size+1,0,none⟩) (Nat.le_succ _) _).setCell (p:=⟨w.heap.size+1,1,none⟩) (Nat.le_succ _) _).setCell (p:=⟨w.heap.size+1,2,none⟩) (Nat.le_succ _) _).setCell (p:=⟨w.heap.size+1,3,none⟩) (Nat.le_succ _) _
theorem X5 (f:Nat):Qk f:=by
 induction f with
 | zero=>intro S v ns n w _ _ _ hn hf;omega
 | succ f ih=>exact J4 f ih
end
section
attribute [local go_sem] qD
set_option maxHeartbeats 4000000 in
theorem Y0 (a b:Opn)(va vb:Value)(w:World) :
 Calls Tryz.prog 9 #[.agg #[.int .i64 a.kind,.int .i64 a.target,va,.string a.name,.string a.s],.agg #[.int .i64 b.kind,.int .i64 b.target,vb,.string b.name,.string b.s]] w fun e w'=>e=.returned (.bool (agB a b))∧Below w.heap.size w w':=by
 have HA:Hid (agB a b=(decide (a.target=b.target)&&((decide (a.kind=6)&&decide (b.kind=6))||(decide (a.kind=7)&&decide (b.kind=7))||(decide (a.kind=8)&&decide (b.kind=8)) ||
  ((decide (a.kind=9)||decide (a.kind=10))&&(decide (b.kind=9)||decide (b.kind=10))&&decide (a.name=b.name))))):=rfl
 have hb:=(Below.alloc1 w (.cells #[.int .i64 a.kind,.int .i64 a.target,va,.string a.name,.string a.s] 30)).alloc (by simp) (.cells #[.int .i64 b.kind,.int .i64 b.target,vb,.string b.name,.string b.s] 30)
 generalize agB a b=R at *
 obtain ⟨k,tg,ct,nm,s⟩:=a;obtain ⟨k',tg',ct',nm',s'⟩:=b;dsimp only at *
 by_cases ht:tg=tg'
 · subst ht
   by_cases h6:k=6
   · subst h6
     by_cases g:k'=6
     · subst g;have HR:Hid (R=true):=by show _=_;rw[HA.out];simp
       clear HA
       go_enter Tryz.func9,Tryz.ntmps9
       go_wp2_with fail;go_ret;exact ⟨by rw[HR.out];rfl,hb⟩
     · have HR : Hid (R = false) := by show _ = _;rw[HA.out];simp[g]
       have b1:(k'==6)=false:=by simpa using g
       have b2:((6:Int)==k')=false:=by simpa using fun e=>g e.symm
       clear HA g
       go_enter Tryz.func9,Tryz.ntmps9
       go_wp2_with fail;go_ret;exact ⟨by rw[HR.out];rfl,hb⟩
   by_cases h7:k=7
   · subst h7
     by_cases g:k'=7
     · subst g;have HR:Hid (R=true):=by show _=_;rw[HA.out];simp
       clear HA
       go_enter Tryz.func9,Tryz.ntmps9
       go_wp2_with fail;go_ret;exact ⟨by rw[HR.out];rfl,hb⟩
     · have HR : Hid (R = false) := by show _ = _;rw[HA.out];simp[g]
       have b1:(k'==7)=false:=by simpa using g
       have b2:((7:Int)==k')=false:=by simpa using fun e=>g e.symm
       clear HA g
       go_enter Tryz.func9,Tryz.ntmps9
       go_wp2_with fail;go_ret;exact ⟨by rw[HR.out];rfl,hb⟩
   by_cases h8:k=8
   · subst h8
     by_cases g:k'=8
     · subst g;have HR:Hid (R=true):=by show _=_;rw[HA.out];simp
       clear HA
       go_enter Tryz.func9,Tryz.ntmps9
       go_wp2_with fail;go_ret;exact ⟨by rw[HR.out];rfl,hb⟩
     · have HR : Hid (R = false) := by show _ = _;rw[HA.out];simp[g]
       have b1:(k'==8)=false:=by simpa using g
       have b2:((8:Int)==k')=false:=by simpa using fun e=>g e.symm
       clear HA g
       go_enter Tryz.func9,Tryz.ntmps9
       go_wp2_with fail;go_ret;exact ⟨by rw[HR.out];rfl,hb⟩
   by_cases h9:k=9
   · subst h9
     by_cases g9:k'=9
     · subst g9;have HR:Hid (R=decide (nm=nm')):=by show _=_;rw[HA.out];simp
       clear HA
       go_enter Tryz.func9,Tryz.ntmps9
       go_wp2_with fail;go_ret;exact ⟨by rw[HR.out,yQ];rfl,hb⟩
     by_cases g10:k'=10
     · subst g10;have HR:Hid (R=decide (nm=nm')):=by show _=_;rw[HA.out];simp
       clear HA
       go_enter Tryz.func9,Tryz.ntmps9
       go_wp2_with fail;go_ret;exact ⟨by rw[HR.out,yQ];rfl,hb⟩
     have HR:Hid (R=false):=by show _=_;rw[HA.out];simp[g9,g10]
     have b1:(k'==9)=false:=by simpa using g9
     have b2:(k'==10)=false:=by simpa using g10
     clear HA g9 g10
     go_enter Tryz.func9,Tryz.ntmps9
     go_wp2_with fail;go_ret;exact ⟨by rw[HR.out];rfl,hb⟩
   by_cases h10:k=10
   · subst h10
     by_cases g9:k'=9
     · subst g9;have HR:Hid (R=decide (nm=nm')):=by show _=_;rw[HA.out];simp
       clear HA
       go_enter Tryz.func9,Tryz.ntmps9
       go_wp2_with fail;go_ret;exact ⟨by rw[HR.out,yQ];rfl,hb⟩
     by_cases g10:k'=10
     · subst g10;have HR:Hid (R=decide (nm=nm')):=by show _=_;rw[HA.out];simp
       clear HA
       go_enter Tryz.func9,Tryz.ntmps9
       go_wp2_with fail;go_ret;exact ⟨by rw[HR.out,yQ];rfl,hb⟩
     have HR:Hid (R=false):=by show _=_;rw[HA.out];simp[g9,g10]
     have b1:(k'==9)=false:=by simpa using g9
     have b2:(k'==10)=false:=by simpa using g10
     clear HA g9 g10
     go_enter Tryz.func9,Tryz.ntmps9
     go_wp2_with fail;go_ret;exact ⟨by rw[HR.out];rfl,hb⟩
   have HR:Hid (R=false):=by show _=_;rw[HA.out];simp[h6,h7,h8,h9,h10]
   have b6:(k==6)=false:=by simpa using h6
   have b7:(k==7)=false:=by simpa using h7
   have b8:(k==8)=false:=by simpa using h8
   have b9:(k==9)=false:=by simpa using h9
   have b10:(k==10)=false:=by simpa using h10
   clear HA h6 h7 h8 h9 h10
   go_enter Tryz.func9,Tryz.ntmps9
   go_wp2_with fail;go_ret;exact ⟨by rw[HR.out];rfl,hb⟩
 · have HR : Hid (R = false) := by show _ = _;rw[HA.out, decide_eq_false ht];rfl
   have b1:(tg==tg')=false:=by simpa using ht
   clear HA ht
   go_enter Tryz.func9,Tryz.ntmps9
   go_wp2_with fail;go_ret;exact ⟨by rw[HR.out];rfl,hb⟩
end
section
attribute [local go_sem] qD
set_option linter.unusedSimpArgs false in
set_option maxHeartbeats 4000000 in
theorem ZN (a b:Opn)(va vb:Value)(w:World) :
 Calls Tryz.prog 10 #[.agg #[.int .i64 a.kind,.int .i64 a.target,va,.string a.name,.string a.s],.agg #[.int .i64 b.kind,.int .i64 b.target,vb,.string b.name,.string b.s]] w fun e w'=>e=.returned (.bool (agB a b))∧Below w.heap.size w w':=by
 have HA:Hid (agB a b=((a.target==b.target)&&(((a.kind==6)&&(b.kind==6))||((a.kind==7)&&(b.kind==7))||((a.kind==8)&&(b.kind==8)) ||
  (((a.kind==9)||(a.kind==10))&&((b.kind==9)||(b.kind==10))&&decide (a.name=b.name))))):=rfl
 have hb:=(Below.alloc1 w (.cells #[.int .i64 a.kind,.int .i64 a.target,va,.string a.name,.string a.s] 30)).alloc (by simp) (.cells #[.int .i64 b.kind,.int .i64 b.target,vb,.string b.name,.string b.s] 30)
 have HX:Hid (((w.alloc (.cells #[.int .i64 a.kind,.int .i64 a.target,va,.string a.name,.string a.s] 30)).alloc (.cells #[.int .i64 b.kind,.int .i64 b.target,vb,.string b.name,.string b.s] 30)).heap[w.heap.size]?=some (.cells #[.int .i64 a.kind,.int .i64 a.target,va,.string a.name,.string a.s] 30 (0,0))):=by
  show _=_
  rw[heap_alloc_old _ _ (by simp)];exact heap_alloc_new _ _
 have HY:Hid (((w.alloc (.cells #[.int .i64 a.kind,.int .i64 a.target,va,.string a.name,.string a.s] 30)).alloc (.cells #[.int .i64 b.kind,.int .i64 b.target,vb,.string b.name,.string b.s] 30)).heap[w.heap.size+1]?=some (.cells #[.int .i64 b.kind,.int .i64 b.target,vb,.string b.name,.string b.s] 30 (0,0))):=by
  have:=heap_alloc_new (w.alloc (.cells #[.int .i64 a.kind,.int .i64 a.target,va,.string a.name,.string a.s] 30)) (.cells #[.int .i64 b.kind,.int .i64 b.target,vb,.string b.name,.string b.s] 30);rw[World.size_alloc]at this
  exact this
 have HB:Hid _:=hb
 generalize agB a b=R at *
 obtain ⟨k,tg,ct,nm,s⟩:=a;obtain ⟨k',tg',ct',nm',s'⟩:=b;dsimp only at *
 by_cases ht:tg=tg'
 · subst ht;clear hb
   go_enter Tryz.func10,Tryz.ntmps10
   go_wp2_with fail;have hb3:=Below.alloc1 ((w.alloc (.cells #[.int .i64 k,.int .i64 tg,va,.string nm,.string s] 30)).alloc (.cells #[.int .i64 k',.int .i64 tg,vb,.string nm',.string s'] 30)) (.cells #[.int .i64 6,.int .i64 7,.int .i64 8] 3);have hl:=heap_alloc_new ((w.alloc (.cells #[.int .i64 k,.int .i64 tg,va,.string nm,.string s] 30)).alloc (.cells #[.int .i64 k',.int .i64 tg,vb,.string nm',.string s'] 30)) (.cells #[.int .i64 6,.int .i64 7,.int .i64 8] 3);rw[World.size_alloc,World.size_alloc]at hl
   have HL:Hid _:=hl;clear hl
   generalize (w.alloc (.cells #[.int .i64 k,.int .i64 tg,va,.string nm,.string s] 30)).alloc (.cells #[.int .i64 k',.int .i64 tg,vb,.string nm',.string s'] 30)=W2 at *
   obtain ⟨x0,x1,x2,x3,x4⟩:=yk ((hb3.block _ (qA HX.out)).trans HX.out);obtain ⟨y0,y1,y2,y3,y4⟩:=yk ((hb3.block _ (qA HY.out)).trans HY.out);have HB3:Hid (Below w.heap.size w (W2.alloc (.cells #[.int .i64 6,.int .i64 7,.int .i64 8] 3))):=HB.out.trans (hb3.mono HB.out.size)
   generalize W2.alloc (.cells #[.int .i64 6,.int .i64 7,.int .i64 8] 3)=W3 at *
   have l0:W3.cell? ⟨w.heap.size+1+1,0,none⟩=some (.int .i64 6):=by rw[cH9 HL.out];rfl
   have l1:W3.cell? ⟨w.heap.size+1+1,1,none⟩=some (.int .i64 7):=by rw[cH9 HL.out];rfl
   have l2:W3.cell? ⟨w.heap.size+1+1,2,none⟩=some (.int .i64 8):=by rw[cH9 HL.out];rfl
   clear hb3 HL HX HY HB
   go_loopg [14] 3 (fun g i wr=>∃ j:Nat,j+g=3∧i=.int .i64 (j:Int)∧wr=W3∧(1≤j→((k==6)&&(k'==6))=false)∧(2≤j→((k==7)&&(k'==7))=false)∧(3≤j→((k==8)&&(k'==8))=false))
   case atStart => exact ⟨0,by omega,rfl,rfl,fun h=>by omega,fun h=>by omega,fun h=>by omega⟩
   case round =>
    obtain ⟨j,hj,rfl,hwr,q6,q7,q8⟩:=hrel;have Q6:Hid _:=q6;have Q7:Hid _:=q7;have Q8:Hid _:=q8;rw[hwr];clear hwr wr q6 q7 q8;have hj3:j=0∨j=1∨j=2∨j=3:=by omega
    rcases hj3 with rfl|rfl|rfl|rfl
    · cases ha : (k == 6) with
      | false =>
        have HN:Hid (((k==6)&&(k'==6))=false):=by show _=_;rw[ha];rfl
        go_wp2_with fail
        go_roundg 2
        case measure => omega
        case rel => exact ⟨1,by omega,by go_num,rfl,fun _=>HN.out,fun h=>by omega,fun h=>by omega⟩
      | true =>
        cases hb:(k'==6) with
        | false =>
          have HN:Hid (((k==6)&&(k'==6))=false):=by show _=_;rw[ha,hb];rfl
          go_wp2_with fail
          go_roundg 2
          case measure => omega
          case rel => exact ⟨1,by omega,by go_num,rfl,fun _=>HN.out,fun h=>by omega,fun h=>by omega⟩
        | true =>
          have HR:Hid (R=true):=by show _=_;rw[HA.out,ha,hb];simp
          go_wp2_with fail;go_ret;exact ⟨by rw[HR.out];rfl,HB3.out⟩
    · cases ha : (k == 7) with
      | false =>
        have HN:Hid (((k==7)&&(k'==7))=false):=by show _=_;rw[ha];rfl
        go_wp2_with fail
        go_roundg 1
        case measure => omega
        case rel => exact ⟨2,by omega,by go_num,rfl,fun _=>Q6.out (by omega),fun _=>HN.out,fun h=>by omega⟩
      | true =>
        cases hb:(k'==7) with
        | false =>
          have HN:Hid (((k==7)&&(k'==7))=false):=by show _=_;rw[ha,hb];rfl
          go_wp2_with fail
          go_roundg 1
          case measure => omega
          case rel => exact ⟨2,by omega,by go_num,rfl,fun _=>Q6.out (by omega),fun _=>HN.out,fun h=>by omega⟩
        | true =>
          have HR:Hid (R=true):=by show _=_;rw[HA.out,ha,hb];simp
          go_wp2_with fail;go_ret;exact ⟨by rw[HR.out];rfl,HB3.out⟩
    · cases ha : (k == 8) with
      | false =>
        have HN:Hid (((k==8)&&(k'==8))=false):=by show _=_;rw[ha];rfl
        go_wp2_with fail
        go_roundg 0
        case measure => omega
        case rel => exact ⟨3,by omega,by go_num,rfl,fun _=>Q6.out (by omega),fun _=>Q7.out (by omega),fun _=>HN.out⟩
      | true =>
        cases hb:(k'==8) with
        | false =>
          have HN:Hid (((k==8)&&(k'==8))=false):=by show _=_;rw[ha,hb];rfl
          go_wp2_with fail
          go_roundg 0
          case measure => omega
          case rel => exact ⟨3,by omega,by go_num,rfl,fun _=>Q6.out (by omega),fun _=>Q7.out (by omega),fun _=>HN.out⟩
        | true =>
          have HR:Hid (R=true):=by show _=_;rw[HA.out,ha,hb];simp
          go_wp2_with fail;go_ret;exact ⟨by rw[HR.out];rfl,HB3.out⟩
    · have HA2:Hid (R=(((k==9)||(k==10))&&((k'==9)||(k'==10))&&decide (nm=nm'))):=by
       show _=_
       rw[HA.out,Q6.out (by omega),Q7.out (by omega),Q8.out (by omega)];simp
      clear HA Q6 Q7 Q8 l0 l1 l2;cases a9:(k==9) with
      | true =>
        cases b9:(k'==9) with
        | true =>
          have HR:Hid (R=decide (nm=nm')):=by show _=_;rw[HA2.out,a9,b9];simp
          clear HA2;go_wp2_with fail;go_ret;exact ⟨by rw[HR.out,yQ];rfl,HB3.out⟩
        | false =>
          cases b10:(k'==10) with
          | true =>
            have HR:Hid (R=decide (nm=nm')):=by show _=_;rw[HA2.out,a9,b9,b10];simp
            clear HA2;go_wp2_with fail;go_ret;exact ⟨by rw[HR.out,yQ];rfl,HB3.out⟩
          | false =>
            have HR:Hid (R=false):=by show _=_;rw[HA2.out,a9,b9,b10];simp
            clear HA2;go_wp2_with fail;go_ret;exact ⟨by rw[HR.out];rfl,HB3.out⟩
      | false =>
        cases a10:(k==10) with
        | true =>
          cases b9:(k'==9) with
          | true =>
            have HR:Hid (R=decide (nm=nm')):=by show _=_;rw[HA2.out,a9,a10,b9];simp
            clear HA2;go_wp2_with fail;go_ret;exact ⟨by rw[HR.out,yQ];rfl,HB3.out⟩
          | false =>
            cases b10:(k'==10) with
            | true =>
              have HR:Hid (R=decide (nm=nm')):=by show _=_;rw[HA2.out,a9,a10,b9,b10];simp
              clear HA2;go_wp2_with fail;go_ret;exact ⟨by rw[HR.out,yQ];rfl,HB3.out⟩
            | false =>
              have HR:Hid (R=false):=by show _=_;rw[HA2.out,a9,a10,b9,b10];simp
              clear HA2;go_wp2_with fail;go_ret;exact ⟨by rw[HR.out];rfl,HB3.out⟩
        | false =>
          have HR:Hid (R=false):=by show _=_;rw[HA2.out,a9,a10];simp
          clear HA2;go_wp2_with fail;go_ret;exact ⟨by rw[HR.out];rfl,HB3.out⟩
 · have HR:Hid (R=false):=by
    show _=_
    have h0:(tg==tg')=false:=by simpa using ht
    rw[HA.out,h0];rfl
   have b1:(tg==tg')=false:=by simpa using ht
   clear HA ht HX HY
   go_enter Tryz.func10,Tryz.ntmps10
   go_wp2_with fail;go_ret;exact ⟨by rw[HR.out];rfl,hb⟩
end
section
attribute [local go_sem] qD
theorem XY {ops:Array Oper}{o:Oper}{a:Act}{w:World}{K:Act→World→Prop}{Q:Exit→Act→World→Prop}{E:Prop}
 (hg:o.guard=none) (x:Operand) (hop:o.op=Op.call { callee:=Callee.builtin Builtin.append,args:=#[.const (.slice none 0 0),x],argTypes:=#[41,41] })
 (S:Nat→Prop) (v:Value) (l:List Int) (hx:a.eval x=v) (h:zM S w v l) (hl:l.length≤17592186044416)
 (hK:∀ v' w',qY w.heap.size w' v' l→Below w.heap.size w w'→K (a.put o.dst v') w') :
 if Region.wanted o (yielded ops a.tmps)=true then Oper.wp Tryz.prog o a w K Q else E:=by
 have hw:Region.wanted o (yielded ops a.tmps)=true:=by simp[Region.wanted,hg]
 rw[if_pos hw];obtain ⟨i0,hi,hz0,hz1,hz2⟩:=info_parts intInfoR;have h':=h;obtain ⟨ad,cap,rfl,h2,h3,h4⟩:=h;have hs:a.eval (.const (.slice none 0 0))=.slice none 0 0:=rfl;cases ad with
 | none =>
   have hn:l=[]:=by
    apply Classical.byContradiction;intro hne
    obtain ⟨b,o,ha,_⟩:=h4 hne;cases ha
   subst hn
   have hrun:(Builtin.append_ #[41,41] o.type #[.slice none 0 0,.slice none 0 cap]).run Tryz.prog w=.ok (.slice none 0 0) w:=by
    simp[Builtin.append_,run_underlying Tryz.underlying41,sizeOf,typeInfo,hi,Builtin.lenOf,Builtin.firstCells]
   simp only[List.length_nil]at hx
   unfold Oper.wp;simp[execOp,hop,resolve,invoke,builtin,hs,hx,hrun,Result.andThen];exact hK _ _ (qY.nil _ _) (Below.refl _ _)
 | some ad =>
   obtain ⟨v',w',hrun,r1,r2,_⟩:=run_append_own (P:=Tryz.prog) w w.heap.size 41 o.type 3 i0 _ 1 8 Tryz.underlying41 hi hz0 hz1 hz2 rfl (by decide) (.slice none 0 0) 0 [] (World.ownsRow_nil w _ _ _) ad l.length cap (qI l) (by rw[zR];omega) h'.cells (zS l) (by unfold maxLen;omega) (by omega) (nR9 _)
   unfold Oper.wp;simp[execOp,hop,resolve,invoke,builtin,hs,hx,hrun,Result.andThen];refine hK _ _ (by unfold qY;simpa using r1) ((Below.refl _ w).grown r2 (nR9 _) (fun k hk=>by simp[Value.ownBlock]at hk))
theorem nodeInfoC:(Tryz.prog.info? 43).map (fun i=>(i.zero,i.size,i.bytes))=some (some (.agg #[.bool false,.string ⟨#[]⟩,.slice none 0 0,.int .i64 0,.slice none 0 0]),5,80):=by kernel_rfl
theorem xB (w:World)(a b c d e:Value)(t:TypeId):∀ (j:Nat)(u:Value),([a,b,c,d,e]:List Value)[j]?=some u→(w.alloc (.cells #[a,b,c,d,e] t)).cell? ((⟨w.heap.size,0,none⟩:Addr).add j)=some u:=by
 intro j u hj
 match j,hj with
 | 0,hj|1,hj|2,hj|3,hj|4,hj=>simp at hj;subst hj;simp[Addr.add]
structure CD (w:World) (dv:Value) (v:Value) (l:List Nd) (ms:List Rw) (W:World):Prop where
 below:Below w.heap.size w W
 box:W.heap[w.heap.size]?=some (.cells #[dv] 24 (0,0))
 res:W.heap[w.heap.size+1]?=some (.cells #[.slice none 0 0] 24 (0,0))
 out:W.heap[w.heap.size+2]?=some (.cells #[v] 24 (0,0))
 row:yb (w.heap.size+3) W v l ms
theorem YA {w wr w3 w4:World}{dv:Value}{ja:Option Addr}{jc k:Nat}{l:List Nd}{ms:List Rw}{x:Nd}{va vk v':Value}
 (hC:CD w dv (.slice ja k jc) l ms wr) (hk:l.length=k) (hb:Below wr.heap.size wr w3)
 (hA:qC (qS (wr.heap.size) 79 w3) w3 va x.attrs) (hK:qY wr.heap.size w3 vk x.kids)
 (hown:w4.ownsRow (w.heap.size+3) 43 5 v' (k+1) (rawCells ms++[.bool x.text,.string x.s,va,.int .i64 x.parent,vk]))
 (hgr:(w3.alloc (.cells #[.bool x.text,.string x.s,va,.int .i64 x.parent,vk] 43)).grownBy w4 (Value.slice ja k jc).ownBlock) :
 CD w dv v' (l++[x]) (ms++[⟨x.text,x.s,va,x.parent,vk⟩]) (w4.setCell ⟨w.heap.size+2,0,none⟩ v'):=by
 have hs3:=hb.size;have hlo:=qA hC.out;have hsr:=hC.below.size;have hs4:=hgr.size;simp only[World.size_alloc]at hs4
 have hB3:w.heap.size+3≤wr.heap.size:=by omega
 have hB4:Below w.heap.size w w4:=(hC.below.trans (hb.mono hsr)).alloc (by omega) _ |>.grown hgr (by simp;omega) (fun g hg=>by have:=(hC.row.own.lt g hg).1;omega)
 have hkeep:∀ b,b<w.heap.size+3→b<wr.heap.size→w4.heap[b]?=wr.heap[b]?:=by
  intro b h1 h2;rw[hgr.block b (by simp;omega) (fun e=>by have:=(hC.row.own.lt b e.symm).1;omega),Lib.alloc_old _ _ _ (by omega)]
  exact hb.block b h2
 have hR3:=(hC.row.later hb).later (Below.alloc1 w3 (.cells #[.bool x.text,.string x.s,va,.int .i64 x.parent,vk] 43))
 have hG:=hR3.snoc (r:=⟨x.text,x.s,va,x.parent,vk⟩) (x:=x) (by rw[hk];exact hown) hgr
  ⟨rfl,rfl,rfl,(hA.own_later (Below.alloc1 w3 _)).carry (fun b hb'=>⟨hb'.to hB3 rfl,rfl⟩),jx (World.ownsRow.alloc hK _) hB3⟩
  (fun i q b hq hb' e=>by
   obtain ⟨y,hy⟩:∃ y,l[i]?=some y:=⟨l[i]'(by rw[←hC.row.len];exact (List.getElem?_eq_some_iff.1 hq).1),by simp⟩
   have h1:=(qY.lt (hC.row.each i q y hq hy).2.2.2.2 b hb').2;have h2:=(qY.lt hK b e).1;omega)
 refine ⟨hB4.setCell (p:=⟨w.heap.size+2,0,none⟩) (by show w.heap.size≤w.heap.size+2;omega) _,?_,?_,?_,?_⟩
 · rw[qd (by omega),hkeep _ (by omega) (qA hC.box)];exact hC.box
 · rw[qd (by omega),hkeep _ (by omega) (qA hC.res)];exact hC.res
 · have := (hkeep _ (by omega) hlo).trans hC.out
   simp[World.setCell,Array.getElem?_modify,this]
 · exact hG.keep (fun b hs=>qd (by have:=hs.1;omega)) (fun b hs=>qd (by have:=hs.1;omega)) (fun b hs=>qd (by have:=(hG.own.lt b hs).1;omega))
set_option maxHeartbeats 2000000 in
theorem Jd (S:Nat→Prop)(v:Value)(ns:List Nd)(w:World)(hN:qK S w v ns)(hfew:∀ x∈ns,x.attrs.length≤4398046511104∧x.kids.length≤17592186044416)(hlen:ns.length≤1759218604441) :
 Calls Tryz.prog 5 #[.agg #[v]] w fun e w'=>∃ v',e=.returned (.agg #[v'])∧qK (fun b=>w.heap.size≤b) w' v' ns∧Below w.heap.size w w':=by
 obtain ⟨i0,hi,hz0,hz1,hz2⟩:=info_parts nodeInfoC;obtain ⟨a,cap,rfl,hlc,hcm⟩:=hN.shape;unfold maxLen at hcm
 have HN:Hid (qK S w (.slice a ns.length cap) ns):=hN
 have hC0:CD w (.slice a ns.length cap) (.slice none 0 0) [] [] (((w.alloc (.cells #[.slice a ns.length cap] 24)).alloc (.cells #[.slice none 0 0] 24)).alloc (.cells #[.slice none 0 0] 24)):=by
  refine ⟨((Below.alloc1 w _).alloc (by simp) _).alloc (by simp;omega) _,?_,?_,?_,yb.nil _ _⟩
  · rw[Lib.alloc_old _ _ _ (by simp;omega),Lib.alloc_old _ _ _ (by simp)];exact heap_alloc_new _ _
  · rw[Lib.alloc_old _ _ _ (by simp)]
    have e:=heap_alloc_new (w.alloc (.cells #[.slice a ns.length cap] 24)) (.cells #[.slice none 0 0] 24);rw[World.size_alloc]at e
    exact e
  · have e := heap_alloc_new ((w.alloc (.cells #[.slice a ns.length cap] 24)).alloc (.cells #[.slice none 0 0] 24)) (.cells #[.slice none 0 0] 24);rw[World.size_alloc,World.size_alloc]at e
    exact e
 have HC0:Hid _:=hC0;clear hN
 go_enter Tryz.func5,Tryz.ntmps5
 go_wp2_with fail
 generalize (((w.alloc (.cells #[.slice a ns.length cap] 24)).alloc (.cells #[.slice none 0 0] 24)).alloc (.cells #[.slice none 0 0] 24))=W0 at *
 clear hC0
 go_loopg [9] ns.length (fun g j wr=>∃ (k:Nat) (v:Value) (ms:List Rw),k+g=ns.length∧j=.int .i64 (k:Int)∧CD w (.slice a ns.length cap) v (ns.take k) ms wr)
 case atStart => exact ⟨0,_,[],by omega,rfl,HC0.out⟩
 case round =>
  obtain ⟨k,v,ms,hk,rfl,hC⟩:=hrel;have HC:Hid _:=hC;have hB:=hC.below;have hwr:=qA hC.out;obtain ⟨ja,jc,rfl,hjl,hjm⟩:=hC.row.shape
  by_cases hlt:k<ns.length
  · obtain ⟨x, hx⟩ : ∃ x, ns[k]? = some x := ⟨ns[k], by simp[hlt]⟩
    obtain ⟨b,o,cap',va,vk,hv,_,_,hSb,hbw,c0,c1,c2,c3,c4,hAt,hKi⟩:=(HN.out.later hB).at hx
    cases hv;obtain ⟨hal,hkl⟩:=hfew x (List.mem_of_getElem? hx);obtain ⟨aa,ac,rfl⟩:=hAt.shape;obtain ⟨ka,kc,rfl,_,_⟩:=hKi.shape
    have hsn:ns.take (k+1)=ns.take k++[x]:=by
     rw[List.take_succ_eq_append_getElem hlt];congr 2;simpa[hlt] using hx
    have HS:Hid (ns.take (k+1)=ns.take k++[x]):=hsn;have hlk:(ns.take k).length=k:=by rw[List.length_take];omega
    obtain ⟨us,hus⟩:∃ us,ns.take k=us:=⟨_,rfl⟩;rw[hus]at HC hlk HS hjl
    rw[hlk]at HC hjl
    have HL:Hid (us.length=k):=hlk;have hki:(k:Int)<(ns.length:Int):=by omega
    have o0:wr.cell? ⟨w.heap.size+1+1,0,none⟩=some (.slice ja k jc):=by rw[cH9 HC.out.out];rfl
    have of0:wr.frozen? ⟨w.heap.size+1+1,0,none⟩=false:=fH9 HC.out.out 0;have hbx:=heap_alloc_new wr (.cells #[.bool x.text,.string x.s,.slice aa x.attrs.length ac,.int .i64 x.parent,.slice ka x.kids.length kc] 43);have hb1:=Below.alloc1 wr (.cells #[.bool x.text,.string x.s,.slice aa x.attrs.length ac,.int .i64 x.parent,.slice ka x.kids.length kc] 43);have hwl:wr.heap.size<(wr.alloc (.cells #[.bool x.text,.string x.s,.slice aa x.attrs.length ac,.int .i64 x.parent,.slice ka x.kids.length kc] 43)).heap.size:=by simp
    clear hC hx hsn hus hlk;go_wp2_with fail
    generalize wr.alloc (.cells #[.bool x.text,.string x.s,.slice aa x.attrs.length ac,.int .i64 x.parent,.slice ka x.kids.length kc] 43)=W1 at *
    have n2:W1.cell? ⟨wr.heap.size,2,none⟩=some (.slice aa x.attrs.length ac):=by rw[cH9 hbx];rfl
    have n4:W1.cell? ⟨wr.heap.size,4,none⟩=some (.slice ka x.kids.length kc):=by rw[cH9 hbx];rfl
    have HAT:Hid (qC S wr (.slice aa x.attrs.length ac) x.attrs):=hAt;have HKI:Hid (zM S wr (.slice ka x.kids.length kc) x.kids):=hKi;clear hAt hKi c0 c1 c2 c3 c4
    go_region_law (first
     | (refine yy (by rfl) (.tmp 14) (by rfl) S (.slice aa x.attrs.length ac) x.attrs (by first|rfl|simp[Act.eval]) (HAT.out.later hb1.drew) hal ?_;intro v1 w1 hA1 hB1;obtain ⟨a1,c1',rfl⟩:=hA1.shape;have hx1:=(hB1.block wr.heap.size hwl).trans hbx;have n4a:w1.cell? ⟨wr.heap.size,4,none⟩=some (.slice ka x.kids.length kc):=by (rw[cH9 hx1];rfl))
     | (refine XY (by rfl) (.tmp 17) (by rfl) S (.slice ka x.kids.length kc) x.kids (by first|rfl|simp[Act.eval]) (HKI.out.later (hb1.drew.trans (hB1.mono (by exact hb1.size)))) hkl ?_;intro v2 w2 hI2 hB2;obtain ⟨a2,c2',rfl,_,_⟩:=hI2.shape;have hx2:=(hB2.block _ (qA hx1)).trans hx1;have n2b:=cH9 hx2 2;have n4b:=cH9 hx2 4;have f2b:=fH9 hx2 2;have f4b:=fH9 hx2 4;simp at n2b n4b))
    all_goals
     have hW4:(((w2.setCell ⟨wr.heap.size,2,none⟩ (.slice a1 x.attrs.length c1')).setCell ⟨wr.heap.size,4,none⟩ (.slice a2 x.kids.length c2'))).heap[wr.heap.size]?=some (.cells #[.bool x.text,.string x.s,.slice a1 x.attrs.length c1',.int .i64 x.parent,.slice a2 x.kids.length c2'] 43 (0,0)):=by
      simp[World.setCell,Array.getElem?_modify,hx2]
     have hk4:∀ b,wr.heap.size<b→(((w2.setCell ⟨wr.heap.size,2,none⟩ (.slice a1 x.attrs.length c1')).setCell ⟨wr.heap.size,4,none⟩ (.slice a2 x.kids.length c2'))).heap[b]?=w2.heap[b]?:=fun b hb=>by rw[qd (by omega),qd (by omega)]
     have hs12:W1.heap.size≤w1.heap.size:=hB1.size;have hs22:=hB2.size;have hB4:Below wr.heap.size wr (((w2.setCell ⟨wr.heap.size,2,none⟩ (.slice a1 x.attrs.length c1')).setCell ⟨wr.heap.size,4,none⟩ (.slice a2 x.kids.length c2'))):=(((hb1.drew.trans (hB1.mono hb1.size)).trans (hB2.mono (by omega))).setCell (p:=⟨wr.heap.size,2,none⟩) (nR9 _) _).setCell (p:=⟨wr.heap.size,4,none⟩) (nR9 _) _
     have hA4:qC (qS wr.heap.size 79 (((w2.setCell ⟨wr.heap.size,2,none⟩ (.slice a1 x.attrs.length c1')).setCell ⟨wr.heap.size,4,none⟩ (.slice a2 x.kids.length c2')))) (((w2.setCell ⟨wr.heap.size,2,none⟩ (.slice a1 x.attrs.length c1')).setCell ⟨wr.heap.size,4,none⟩ (.slice a2 x.kids.length c2'))) (.slice a1 x.attrs.length c1') x.attrs :=
      (hA1.own_later hB2).carry fun b hb=>by
       have h1:W1.heap.size≤b:=hb.1;exact ⟨hb.to (by show wr.heap.size≤W1.heap.size;omega) (hk4 b (by omega)),hk4 b (by omega)⟩
     have hI4:qY wr.heap.size (((w2.setCell ⟨wr.heap.size,2,none⟩ (.slice a1 x.attrs.length c1')).setCell ⟨wr.heap.size,4,none⟩ (.slice a2 x.kids.length c2'))) (.slice a2 x.kids.length c2') x.kids :=
      jx (qF hI2 fun b hb=>hk4 b (by have:=(qY.lt hI2 b hb).1;omega)) (by omega)
     generalize ((w2.setCell ⟨wr.heap.size,2,none⟩ (.slice a1 x.attrs.length c1')).setCell ⟨wr.heap.size,4,none⟩ (.slice a2 x.kids.length c2'))=W4 at hW4 hB4 hA4 hI4 ⊢
     have m0:W4.cell? ⟨wr.heap.size,0,none⟩=some (.bool x.text):=by rw[cH9 hW4];rfl
     have m1:W4.cell? ⟨wr.heap.size,1,none⟩=some (.string x.s):=by rw[cH9 hW4];rfl
     have m2:W4.cell? ⟨wr.heap.size,2,none⟩=some (.slice a1 x.attrs.length c1'):=by rw[cH9 hW4];rfl
     have m3:W4.cell? ⟨wr.heap.size,3,none⟩=some (.int .i64 x.parent):=by rw[cH9 hW4];rfl
     have m4:W4.cell? ⟨wr.heap.size,4,none⟩=some (.slice a2 x.kids.length c2'):=by rw[cH9 hW4];rfl
     have hd4:=(hB4.block _ hwr).trans HC.out.out;have o4:W4.cell? ⟨w.heap.size+1+1,0,none⟩=some (.slice ja k jc):=by rw[cH9 hd4];rfl
     have hown4:=(HC.out.row.later hB4).own;rw[HL.out]at hown4
     have hs4:=hB4.size;clear hk4 n2 n4 n4a n2b n4b f2b f4b hx1 hx2 hbx hA1 hB1 hI2 hB2 hb1 hwl hs12 hs22;go_wp2_with (at_builtin;refine wpList_append_own_at _ rfl _ _ 22 rfl (w.heap.size+3) 43 i0 _ 5 80 Tryz.underlying22 hi hz0 hz1 hz2 rfl (by decide) _ _ _ rfl (World.ownsRow.alloc hown4 _) ⟨W4.heap.size,0,none⟩ 1 1 [.bool x.text,.string x.s,.slice a1 x.attrs.length c1',.int .i64 x.parent,.slice a2 x.kids.length c2'] rfl ?qc1 ?qc2 ?qc3 ?qc4 ?qc5 ?qc6 ?_)
     case qc1 => rfl
     case qc2 => exact xB _ _ _ _ _ _ _
     case qc3 => intro u hu;simp at hu;rcases hu with rfl|rfl|rfl|rfl|rfl<;>rfl
     case qc4 => unfold maxLen;omega
     case qc5 => omega
     case qc6 => simp;omega
     intro v' w5 hown' hgrow _ _;obtain ⟨a5,n5,c5,rfl⟩:=qN hown';have HST:Hid _:=YA HC.out HL.out hB4 hA4 hI4 hown' hgrow
     have hd5:w5.heap[w.heap.size+1+1]?=some (.cells #[.slice ja k jc] 24 (0,0)):=by
      have h1:w.heap.size+1+1<wr.heap.size:=hwr;rw[hgrow.block _ (by simp;omega) (fun e=>by have:=(HC.out.row.own.lt _ e.symm).1;omega),Lib.alloc_old _ _ _ (by omega)]
      exact hd4
     have o5:w5.cell? ⟨w.heap.size+1+1,0,none⟩=some (.slice ja k jc):=by rw[cH9 hd5];rfl
     have f5:w5.frozen? ⟨w.heap.size+1+1,0,none⟩=false:=fH9 hd5 0;clear hown' hgrow hA4 hI4;go_wp2_with fail
     go_roundg (ns.length-(k+1))
     case measure => omega
     case rel => exact ⟨k+1,_,_,by omega,by go_num,by rw[HS.out];exact HST.out⟩
  · have hki : ¬ ((k : Int) < (ns.length : Int)) := by omega
    have hkk:k=ns.length:=by omega
    have HKK:Hid (ns.take k=ns):=by show _=_;rw[hkk,List.take_length]
    have hlk:(ns.take k).length=ns.length:=by rw[HKK.out]
    rw[hlk]at HC hjl
    have o0:wr.cell? ⟨w.heap.size+1+1,0,none⟩=some (.slice ja ns.length jc):=by rw[cH9 HC.out.out];rfl
    have r0:wr.cell? ⟨w.heap.size+1,0,none⟩=some (.slice none 0 0):=by rw[cH9 HC.out.res];rfl
    have rf0:wr.frozen? ⟨w.heap.size+1,0,none⟩=false:=fH9 HC.out.res 0;clear hC hkk hlk;go_wp2_with fail;refine bodyPost_ret (v:=.agg #[.slice ja ns.length jc]) (by simp[results,Tryz.results5,go_sem,qD,r0]) rfl ⟨_,rfl,?_,?_⟩
    · have := HC.out.row.done;rw[HKK.out]at this
      exact this.carry fun b hb=>⟨by omega,qd (by omega)⟩
    · exact hB.setCell (p:=⟨w.heap.size+1,0,none⟩) (Nat.le_succ _) _
end
end Go.Proofs.YtnppmdpmippcoaaGreatDoor
namespace Go.Proofs.YtnppmdpmippcoaaGreatDoor
open Go.RowKit
set_option maxRecDepth 100000
def jJ (g:Nat→Nat):Nat→Nat
 | 0=>0
 | n+1=>jJ g n+g n
theorem J1 (g h:Nat→Nat):∀ n,jJ (fun k=>g k+h k) n=jJ g n+jJ h n:=by
 intro n
 induction n with
 | zero=>rfl
 | succ n ih=>simp only[jJ];rw[ih];omega
theorem qbm {g h:Nat→Nat}(hl:∀ k,g k≤h k):∀ n,jJ g n≤jJ h n:=by
 intro n
 induction n with
 | zero=>exact nR9 _
 | succ n ih=>simp only[jJ];have:=hl n;omega
theorem qbl (g:Nat→Nat):∀ (n k:Nat),k<n→g k≤jJ g n:=by
 intro n
 induction n with
 | zero=>intro k h;omega
 | succ n ih =>
   intro k h;simp only[jJ]
   by_cases hk:k=n
   · subst hk;omega
   · have:=ih k (by omega);omega
theorem Qg (c:Nat):∀ n,jJ (fun _=>c) n=n*c:=by
 intro n
 induction n with
 | zero=>simp[jJ]
 | succ n ih=>simp only[jJ];rw[ih,Nat.add_mul];omega
theorem XH (ns:List Nd)(m a:Nat):∀ N,jJ (fun n=>if n<m∧Zv ns n m=true then a else 0) N≤a:=by
 intro N
 induction N with
 | zero=>exact nZ9 _
 | succ N ih =>
   simp only[jJ]
   by_cases hc:N<m∧Zv ns N m=true
   · have hz:∀ M,M≤N→jJ (fun n=>if n<m∧Zv ns n m=true then a else 0) M=0:=by
      intro M
      induction M with
      | zero=>intro _;rfl
      | succ M ihM =>
        intro hM;simp only[jJ];rw[ihM (by omega),if_neg]
        rintro ⟨_,h2⟩;have h1:=hc.2;unfold Zv at h1 h2
        cases hy:ns[m]? with
        | none=>simp[hy]at h1
        | some y=>simp[hy]at h1 h2;omega
     rw[hz N (nR9 _),if_pos hc];omega
   · rw[if_neg hc];omega
theorem qao (ns:List Nd)(h:Nat→Nat)(N:Nat):∀ m,jJ (fun n=>((zE ns n m).map fun u=>h u.toNat).sum) N≤jJ h m:=by
 intro m
 induction m with
 | zero =>
   have:jJ (fun n=>((zE ns n 0).map fun u=>h u.toNat).sum) N=0:=by
    have:=Qg 0 N
    simpa[zE] using this
   rw[this];exact nZ9 _
 | succ m ih =>
   have e:(fun n=>((zE ns n (m+1)).map fun u=>h u.toNat).sum)=fun n=>((zE ns n m).map fun u=>h u.toNat).sum+(if n<m∧Zv ns n m=true then h m else 0):=by
    funext n
    rw[zE,List.map_append,List.sum_append]
    split
    · simp
    · simp
   rw[e,J1];simp only[jJ];have:=XH ns m (h m) N;omega
theorem VJ (f:Nat)(g:Int→Tr)(l:List Int):cnt (f+1) (l.map g)=(l.map fun k=>cnt (f+1) [g k]).sum:=by
 induction l with
 | nil=>rfl
 | cons x l ih=>rw[List.map_cons,qZ,ih,List.map_cons,List.sum_cons]
theorem qav (ns:List Nd):∀ f,jJ (fun n=>cnt (f+1) [treeF f ns n]) ns.length≤ns.length*(f+1):=by
 intro f
 induction f with
 | zero =>
   have e:(fun n=>cnt (0+1) [treeF 0 ns n])=fun _=>1:=by
    funext n
    simp[cnt]
   rw[e,Qg];omega
 | succ f ih =>
   have hle:∀ n,cnt (f+1+1) [treeF (f+1) ns n]≤1+((zE ns n ns.length).map fun u=>cnt (f+1) [treeF f ns u.toNat]).sum:=by
    intro n;rw[qL,treeF];cases hx:ns[n]? with
    | none=>simp[qQ]
    | some x =>
      show 1+cnt (f+1) ((zE ns n ns.length).map fun k=>treeF f ns k.toNat)≤_
      rw[VJ];exact nR9 _
   have h1:=qbm hle ns.length;rw[J1,Qg]at h1
   have h2:=qao ns (fun k=>cnt (f+1) [treeF f ns k]) ns.length ns.length
   have e:ns.length*(f+1+1)=ns.length*(f+1)+ns.length:=by rw[Nat.mul_add];omega
   rw[e];omega
theorem qau {ns:List Nd}{f n:Nat}(hn:n<ns.length)(h80:ns.length≤80)(hf:f≤80):cnt (f+1) [treeF f ns n]≤1048576:=by
 have h1:=qbl (fun n=>cnt (f+1) [treeF f ns n]) ns.length n hn
 have h2:=qav ns f;have h3:ns.length*(f+1)≤80*81:=Nat.mul_le_mul h80 (by omega)
 omega
end Go.Proofs.YtnppmdpmippcoaaGreatDoor
namespace Go.Proofs.YtnppmdpmippcoaaGreatDoor
open Go.ChangeShapes Go.WideShapes Go.ChangeAt Go.RowKit
set_option maxRecDepth 100000
section
attribute [local go_sem] qD
set_option maxHeartbeats 2000000 in
theorem xE (S T:Nat→Prop)(va vb:Value)(l m:List Int)(w:World)(h1:zM S w va l)(h2:zM T w vb m) :
 Calls Tryz.prog 30 #[va,vb] w fun e w'=>e=.returned (.bool (decide (l=m)))∧Below w.heap.size w w':=by
 have H1:Hid (zM S w va l):=h1;have H2:Hid (zM T w vb m):=h2;obtain ⟨a,ca,rfl,_,hcm⟩:=h1.shape;obtain ⟨b,cb,rfl,_,hcm2⟩:=h2.shape;unfold maxLen at hcm hcm2
 clear h1 h2
 by_cases hlm:l.length=m.length
 · have hne : ((l.length : Int) != (m.length : Int)) = false := by simp[hlm]
   have HLM:Hid (l.length=m.length):=hlm;clear hlm
   go_enter Tryz.func30,Tryz.ntmps30
   go_wp2_with fail
   go_loopg [13] l.length (fun g j wr=>∃ (i:Nat),i+g=l.length∧j=.int .i64 (i:Int)∧Below w.heap.size w wr∧l.take i=m.take i)
   case atStart => exact ⟨0,by omega,rfl,Below.refl _ _,rfl⟩
   case round =>
    obtain ⟨i,hi,rfl,hB,hT⟩:=hrel;have HT:Hid (l.take i=m.take i):=hT;clear hT
    by_cases hil:i<l.length
    · have him : i < m.length := by have := HLM.out;omega
      obtain ⟨u,hu⟩:∃ u,l[i]?=some u:=⟨l[i],by simp[hil]⟩
      obtain ⟨v,hv⟩:∃ v,m[i]?=some v:=⟨m[i],by simp[him]⟩
      obtain ⟨b1,o1,c1,hv1,_,hbw1,e0⟩:=(H1.out.later hB).at hu
      injection hv1 with hv1 hvl hv2
      subst hv1 hv2;clear hvl;obtain ⟨b2,o2,c2,hv3,_,hbw2,g0⟩:=(H2.out.later hB).at hv
      injection hv3 with hv3 hvl hv4
      subst hv3 hv4;clear hvl;have hili:(i:Int)<(l.length:Int):=by omega
      have himi:(i:Int)<(m.length:Int):=by omega
      have hbn:Below wr.heap.size wr wr.drew:=(Below.refl _ _).drew
      have HC:Hid (∀ W,Below wr.heap.size wr W→Below wr.heap.size wr W∧W.cell? ⟨b1,o1+i,none⟩=some (.int .i64 u)∧W.cell? ⟨b2,o2+i,none⟩=some (.int .i64 v)):=by
       intro W h;refine ⟨h,?_,?_⟩
       · rw[h.cell (p:=⟨b1,o1+i,none⟩) hbw1];exact e0
       · rw[h.cell (p:=⟨b2,o2+i,none⟩) hbw2];exact g0
      have el:l[i]=u:=by simpa[hil] using hu
      have em:m[i]=v:=by simpa[him] using hv
      by_cases huv:u=v
      · have huvb : (u != v) = false := by simp[huv]
        have HT2:Hid (l.take (i+1)=m.take (i+1)):=by
         show _=_
         rw[List.take_succ_eq_append_getElem hil,List.take_succ_eq_append_getElem him,el,em,HT.out,huv]
        clear hu hv el em huv;go_wp2_with fail
        go_region_held3 (fun W:World=>Below wr.heap.size wr W∧W.cell? ⟨b1,o1+i,none⟩=some (.int .i64 u)∧W.cell? ⟨b2,o2+i,none⟩=some (.int .i64 v))
         (with_reducible exact HC.out _ hbn)
         (fail)
        go_wp2_with fail
        go_roundg (l.length-(i+1))
        case measure => omega
        case rel => exact ⟨i+1,by omega,by go_num,hB.trans (hbn.mono hB.size),HT2.out⟩
      · have huvb : (u != v) = true := by simpa using huv
        have HE:Hid (decide (l=m)=false):=by
         refine decide_eq_false ?_;intro e;subst e;exact huv (by rw[←el,←em])
        clear hu hv el em huv;go_wp2_with fail
        go_region_held3 (fun W:World=>Below wr.heap.size wr W∧W.cell? ⟨b1,o1+i,none⟩=some (.int .i64 u)∧W.cell? ⟨b2,o2+i,none⟩=some (.int .i64 v))
         (with_reducible exact HC.out _ hbn)
         (fail)
        go_wp2_with fail;go_ret;exact ⟨by rw[HE.out];rfl,hB.trans (hbn.mono hB.size)⟩
    · have hili : ¬ (i : Int) < (l.length : Int) := by omega
      have HE:Hid (decide (l=m)=true):=by
       refine decide_eq_true ?_;have:=HT.out;rw[List.take_of_length_le (by omega),List.take_of_length_le (by have:=HLM.out;omega)]at this
       exact this
      go_wp2_with fail;go_ret;exact ⟨by rw[HE.out];rfl,hB⟩
 · have hne : ((l.length : Int) != (m.length : Int)) = true := by simp;omega
   have HE:Hid (decide (l=m)=false):=decide_eq_false (fun e=>hlm (by rw[e]))
   clear hlm
   go_enter Tryz.func30,Tryz.ntmps30
   go_wp2_with fail;go_ret;exact ⟨by rw[HE.out];rfl,Below.refl _ _⟩
def ndB (x y:Nd):Bool:=(x.text==y.text)&&decide (x.s=y.s)&&decide (x.parent=y.parent)&&decide (x.attrs=y.attrs)&&decide (x.kids=y.kids)
def ndsB:List Nd→List Nd→Bool
 | [],[]=>true
 | x::a,y::b=>ndB x y&&ndsB a b
 | _,_=>false
theorem qa6 {x y:Nd}:ndB x y=true↔x=y:=by
 obtain ⟨a,b,c,d,e⟩:=x;obtain ⟨a',b',c',d',e'⟩:=y;unfold ndB;simp
 constructor
 · rintro ⟨⟨⟨⟨h1,h2⟩,h3⟩,h4⟩,h5⟩;exact ⟨h1,h2,h4,h3,h5⟩
 · rintro ⟨h1,h2,h3,h4,h5⟩;exact ⟨⟨⟨⟨h1,h2⟩,h4⟩,h3⟩,h5⟩
theorem ndsB_iff:∀ {a b:List Nd},ndsB a b=true↔a=b:=by
 intro a
 induction a with
 | nil=>intro b;cases b<;>simp[ndsB]
 | cons x a ih => intro b;cases b with
   | nil=>simp[ndsB]
   | cons y b=>simp[ndsB,qa6,ih]
end
section
attribute [local go_sem] qD
theorem ndsB_len:∀ {a b:List Nd},a.length≠b.length→ndsB a b=false:=by
 intro a b h;cases hq:ndsB a b with
 | false=>rfl
 | true=>exact absurd (by rw[ndsB_iff.1 hq]) h
theorem K5 {a b:List Nd}{i:Nat}{x y:Nd}(hx:a[i]?=some x)(hy:b[i]?=some y):ndsB (a.drop i) (b.drop i)=(ndB x y&&ndsB (a.drop (i+1)) (b.drop (i+1))):=by
 have ha:i<a.length:=by
  rcases Nat.lt_or_ge i a.length with h'|h'
  · exact h'
  · rw[List.getElem?_eq_none h']at hx;cases hx
 have hb:i<b.length:=by
  rcases Nat.lt_or_ge i b.length with h'|h'
  · exact h'
  · rw[List.getElem?_eq_none h']at hy;cases hy
 have e1:a.drop i=x::a.drop (i+1):=by rw[List.drop_eq_getElem_cons ha];congr 1;simpa[ha] using hx
 have e2:b.drop i=y::b.drop (i+1):=by rw[List.drop_eq_getElem_cons hb];congr 1;simpa[hb] using hy
 rw[e1,e2,ndsB]
set_option maxHeartbeats 4000000 in
theorem Qf (S T:Nat→Prop)(va vb:Value)(ns ms:List Nd)(w:World)(h1:qK S w va ns)(h2:qK T w vb ms) :
 Calls Tryz.prog 13 #[.agg #[va],.agg #[vb]] w fun e w'=>e=.returned (.bool (ndsB ns ms))∧Below w.heap.size w w':=by
 have H1:Hid (qK S w va ns):=h1;have H2:Hid (qK T w vb ms):=h2;obtain ⟨a,ca,rfl,_,hcm⟩:=h1.shape;obtain ⟨b,cb,rfl,_,hcm2⟩:=h2.shape;unfold maxLen at hcm hcm2
 have hb0:Below w.heap.size w ((w.alloc (.cells #[.slice a ns.length ca] 24)).alloc (.cells #[.slice b ms.length cb] 24)):=(Below.alloc1 w _).alloc (by simp) _
 have hx0:((w.alloc (.cells #[.slice a ns.length ca] 24)).alloc (.cells #[.slice b ms.length cb] 24)).heap[w.heap.size]?=some (.cells #[.slice a ns.length ca] 24 (0,0)):=by
  rw[Lib.alloc_old _ _ _ (by simp)];exact heap_alloc_new _ _
 have hy0:((w.alloc (.cells #[.slice a ns.length ca] 24)).alloc (.cells #[.slice b ms.length cb] 24)).heap[w.heap.size+1]?=some (.cells #[.slice b ms.length cb] 24 (0,0)):=by
  have e:=heap_alloc_new (w.alloc (.cells #[.slice a ns.length ca] 24)) (.cells #[.slice b ms.length cb] 24);rw[World.size_alloc]at e
  exact e
 clear h1 h2
 by_cases hlm:ns.length=ms.length
 · have hne : ((ns.length : Int) != (ms.length : Int)) = false := by simp[hlm]
   have HLM:Hid (ns.length=ms.length):=hlm;clear hlm
   go_enter Tryz.func13,Tryz.ntmps13
   go_wp2_with fail
   generalize ((w.alloc (.cells #[.slice a ns.length ca] 24)).alloc (.cells #[.slice b ms.length cb] 24))=W1 at *
   go_loopg [18] ns.length (fun g j wr=>∃ (i:Nat),i+g=ns.length∧j=.int .i64 (i:Int)∧Below W1.heap.size W1 wr∧ndsB ns ms=ndsB (ns.drop i) (ms.drop i))
   case atStart => exact ⟨0,by omega,rfl,Below.refl _ _,rfl⟩
   case round =>
    obtain ⟨i,hi,rfl,hB,hT⟩:=hrel;have HT:Hid (ndsB ns ms=ndsB (ns.drop i) (ms.drop i)):=hT;clear hT;have hBw:Below w.heap.size w wr:=hb0.trans (hB.mono hb0.size);have hxr:=(hB.block _ (qA hx0)).trans hx0;have hyr:=(hB.block _ (qA hy0)).trans hy0;have dx:wr.cell? ⟨w.heap.size,0,none⟩=some (.slice a ns.length ca):=by rw[cH9 hxr];rfl
    have dy:wr.cell? ⟨w.heap.size+1,0,none⟩=some (.slice b ms.length cb):=by rw[cH9 hyr];rfl
    by_cases hil:i<ns.length
    · have him : i < ms.length := by have := HLM.out;omega
      obtain ⟨x,hx⟩:∃ x,ns[i]?=some x:=⟨ns[i],by simp[hil]⟩
      obtain ⟨y,hy⟩:∃ y,ms[i]?=some y:=⟨ms[i],by simp[him]⟩
      obtain ⟨b1,o1,c1,xva,xvk,hv1,_,_,_,hbw1,p0,p1,p2,p3,p4,hxA,hxK⟩:=(H1.out.later hBw).at hx
      injection hv1 with hv1 hvl hv2
      subst hv1 hv2;clear hvl;obtain ⟨b2,o2,c2,yva,yvk,hv3,_,_,_,hbw2,q0,q1,q2,q3,q4,hyA,hyK⟩:=(H2.out.later hBw).at hy
      injection hv3 with hv3 hvl hv4
      subst hv3 hv4;clear hvl;obtain ⟨xaa,xac,rfl⟩:=hxA.shape;obtain ⟨xka,xkc,rfl,_,_⟩:=hxK.shape;obtain ⟨yaa,yac,rfl⟩:=hyA.shape;obtain ⟨yka,ykc,rfl,_,_⟩:=hyK.shape;have HTD:Hid _:=K5 hx hy;have hili:(i:Int)<(ns.length:Int):=by omega
      have himi:(i:Int)<(ms.length:Int):=by omega
      have hlt0:w.heap.size<wr.heap.size:=qA hxr;have hlt1:w.heap.size+1<wr.heap.size:=qA hyr;have hne0:wr.heap.size≠w.heap.size:=by omega
      have hne1:wr.heap.size≠w.heap.size+1:=by omega
      have hne2:wr.heap.size≠b1:=by omega
      have hne3:wr.heap.size≠b2:=by omega
      clear hx hy hxr hyr;go_wp2_with fail
      go_region
      · have hW2 : Below wr.heap.size wr ((wr.alloc (.cells #[.bool x.text, .string x.s, .slice xaa x.attrs.length xac, .int .i64 x.parent, .slice xka x.kids.length xkc] 43)).alloc (.cells #[.bool y.text, .string y.s, .slice yaa y.attrs.length yac, .int .i64 y.parent, .slice yka y.kids.length ykc] 43)).drew := (((Below.refl _ wr).alloc (nR9 _) _).alloc (by simp) _).drew
        have hF:(((wr.alloc (.cells #[.bool x.text,.string x.s,.slice xaa x.attrs.length xac,.int .i64 x.parent,.slice xka x.kids.length xkc] 43)).alloc (.cells #[.bool y.text,.string y.s,.slice yaa y.attrs.length yac,.int .i64 y.parent,.slice yka y.kids.length ykc] 43)).drew).heap[wr.heap.size]?=some (.cells #[.bool x.text,.string x.s,.slice xaa x.attrs.length xac,.int .i64 x.parent,.slice xka x.kids.length xkc] 43 (0,0)):=by
         show ((wr.alloc (.cells #[.bool x.text,.string x.s,.slice xaa x.attrs.length xac,.int .i64 x.parent,.slice xka x.kids.length xkc] 43)).alloc (.cells #[.bool y.text,.string y.s,.slice yaa y.attrs.length yac,.int .i64 y.parent,.slice yka y.kids.length ykc] 43)).heap[wr.heap.size]?=_
         rw[Lib.alloc_old _ _ _ (by simp)];exact heap_alloc_new _ _
        have hG:(((wr.alloc (.cells #[.bool x.text,.string x.s,.slice xaa x.attrs.length xac,.int .i64 x.parent,.slice xka x.kids.length xkc] 43)).alloc (.cells #[.bool y.text,.string y.s,.slice yaa y.attrs.length yac,.int .i64 y.parent,.slice yka y.kids.length ykc] 43)).drew).heap[wr.heap.size+1]?=some (.cells #[.bool y.text,.string y.s,.slice yaa y.attrs.length yac,.int .i64 y.parent,.slice yka y.kids.length ykc] 43 (0,0)):=by
         show ((wr.alloc (.cells #[.bool x.text,.string x.s,.slice xaa x.attrs.length xac,.int .i64 x.parent,.slice xka x.kids.length xkc] 43)).alloc (.cells #[.bool y.text,.string y.s,.slice yaa y.attrs.length yac,.int .i64 y.parent,.slice yka y.kids.length ykc] 43)).heap[wr.heap.size+1]?=_
         have e:=heap_alloc_new (wr.alloc (.cells #[.bool x.text,.string x.s,.slice xaa x.attrs.length xac,.int .i64 x.parent,.slice xka x.kids.length xkc] 43)) (.cells #[.bool y.text,.string y.s,.slice yaa y.attrs.length yac,.int .i64 y.parent,.slice yka y.kids.length ykc] 43);rw[World.size_alloc]at e
         exact e
        generalize ((wr.alloc (.cells #[.bool x.text,.string x.s,.slice xaa x.attrs.length xac,.int .i64 x.parent,.slice xka x.kids.length xkc] 43)).alloc (.cells #[.bool y.text,.string y.s,.slice yaa y.attrs.length yac,.int .i64 y.parent,.slice yka y.kids.length ykc] 43)).drew=W2 at *
        have x0:W2.cell? ⟨wr.heap.size,0,none⟩=some (.bool x.text):=by rw[cH9 hF];rfl
        have x1:W2.cell? ⟨wr.heap.size,1,none⟩=some (.string x.s):=by rw[cH9 hF];rfl
        have x2:W2.cell? ⟨wr.heap.size,2,none⟩=some (.slice xaa x.attrs.length xac):=by rw[cH9 hF];rfl
        have x3:W2.cell? ⟨wr.heap.size,3,none⟩=some (.int .i64 x.parent):=by rw[cH9 hF];rfl
        have x4:W2.cell? ⟨wr.heap.size,4,none⟩=some (.slice xka x.kids.length xkc):=by rw[cH9 hF];rfl
        have y0:W2.cell? ⟨wr.heap.size+1,0,none⟩=some (.bool y.text):=by rw[cH9 hG];rfl
        have y1:W2.cell? ⟨wr.heap.size+1,1,none⟩=some (.string y.s):=by rw[cH9 hG];rfl
        have y2:W2.cell? ⟨wr.heap.size+1,2,none⟩=some (.slice yaa y.attrs.length yac):=by rw[cH9 hG];rfl
        have y3:W2.cell? ⟨wr.heap.size+1,3,none⟩=some (.int .i64 y.parent):=by rw[cH9 hG];rfl
        have y4:W2.cell? ⟨wr.heap.size+1,4,none⟩=some (.slice yka y.kids.length ykc):=by rw[cH9 hG];rfl
        have HAT:Hid (∀ W,Below W2.heap.size W2 W→Calls Tryz.prog 29 #[.slice xaa x.attrs.length xac,.slice yaa y.attrs.length yac] W fun e w'=>e=.returned (.bool (decide (x.attrs=y.attrs)))∧Below W.heap.size W w'):=fun W h=>QD _ _ _ _ x.attrs y.attrs W ((hxA.later hW2).later h) ((hyA.later hW2).later h)
        have HKN:Hid (∀ W,Below W2.heap.size W2 W→Calls Tryz.prog 30 #[.slice xka x.kids.length xkc,.slice yka y.kids.length ykc] W fun e w'=>e=.returned (.bool (decide (x.kids=y.kids)))∧Below W.heap.size W w'):=fun W h=>xE _ _ _ _ x.kids y.kids W ((hxK.later hW2).later h) ((hyK.later hW2).later h)
        have hBW2:Below w.heap.size w W2:=hBw.trans (hW2.mono hBw.size);have hB12:Below W1.heap.size W1 W2:=hB.trans (hW2.mono hB.size)
        have KF:ndB x y=false→Hid (ndsB ns ms=false):=by
         intro hq
         show _=_
         rw[HT.out,HTD.out,hq];rfl
        clear p0 p1 p2 p3 p4 q0 q1 q2 q3 q4 dx dy hne0 hne1 hne2 hne3 hlt0 hlt1
        by_cases k1:x.text=y.text
        · have k1b : (x.text == y.text) = true := by simp[k1]
          by_cases k2:x.s=y.s
          · have k2b : (x.s.toList == y.s.toList) = true := by rw[k2];simp
            by_cases k3:x.parent=y.parent
            · have k3b : (x.parent != y.parent) = false := by simp[k3]
              have k3c:(x.parent==y.parent)=true:=by simp[k3]
              by_cases k4:x.attrs=y.attrs
              · have HAT2:Hid (∀ W,Below W2.heap.size W2 W→Calls Tryz.prog 29 #[.slice xaa x.attrs.length xac,.slice yaa y.attrs.length yac] W fun e w'=>e=.returned (.bool true)∧Below W.heap.size W w'):=by
                 intro W h;have:=HAT.out W h;rw[decide_eq_true k4]at this;exact this
                by_cases k5:x.kids=y.kids
                · have HKN2:Hid (∀ W,Below W2.heap.size W2 W→Calls Tryz.prog 30 #[.slice xka x.kids.length xkc,.slice yka y.kids.length ykc] W fun e w'=>e=.returned (.bool true)∧Below W.heap.size W w'):=by
                   intro W h;have:=HKN.out W h;rw[decide_eq_true k5]at this;exact this
                  have HN:Hid (ndsB ns ms=ndsB (ns.drop (i+1)) (ms.drop (i+1))):=by
                   show _=_
                   rw[HT.out,HTD.out,show ndB x y=true by unfold ndB;simp[k1,k2,k3,k4,k5]];rfl
                  clear KF k1 k2 k3 k4 k5 HAT HKN;go_wp2_with fail;refine (Calls.mono (HAT2.out _ (Below.refl _ _)) ?_);rintro e w3 ⟨rfl,hb3⟩;have hX3:=(hb3.block _ (qA hF)).trans hF;have hY3:=(hb3.block _ (qA hG)).trans hG;have hu4:w3.cell? ⟨wr.heap.size,4,none⟩=some (.slice xka x.kids.length xkc):=by rw[cH9 hX3];rfl
                  have hv4:w3.cell? ⟨wr.heap.size+1,4,none⟩=some (.slice yka y.kids.length ykc):=by rw[cH9 hY3];rfl
                  go_wp2_with fail;refine (Calls.mono (HKN2.out _ hb3) ?_);rintro e w4 ⟨rfl,hb4⟩;go_wp2_with fail
                  go_roundg (ns.length-(i+1))
                  case measure => omega
                  case rel => exact ⟨i+1,by omega,by go_num,hB12.trans ((hb3.trans (hb4.mono hb3.size)).mono hB12.size),HN.out⟩
                · have HKN2:Hid (∀ W,Below W2.heap.size W2 W→Calls Tryz.prog 30 #[.slice xka x.kids.length xkc,.slice yka y.kids.length ykc] W fun e w'=>e=.returned (.bool false)∧Below W.heap.size W w'):=by
                   intro W h;have:=HKN.out W h;rw[decide_eq_false k5]at this;exact this
                  have HE:=KF (by unfold ndB;simp[k5])
                  clear KF k1 k2 k3 k4 k5 HAT HKN;go_wp2_with fail;refine (Calls.mono (HAT2.out _ (Below.refl _ _)) ?_);rintro e w3 ⟨rfl,hb3⟩;have hX3:=(hb3.block _ (qA hF)).trans hF;have hY3:=(hb3.block _ (qA hG)).trans hG;have hu4:w3.cell? ⟨wr.heap.size,4,none⟩=some (.slice xka x.kids.length xkc):=by rw[cH9 hX3];rfl
                  have hv4:w3.cell? ⟨wr.heap.size+1,4,none⟩=some (.slice yka y.kids.length ykc):=by rw[cH9 hY3];rfl
                  go_wp2_with fail;refine (Calls.mono (HKN2.out _ hb3) ?_);rintro e w4 ⟨rfl,hb4⟩;go_wp2_with fail;go_ret;exact ⟨by rw[HE.out];rfl,hBW2.trans ((hb3.trans (hb4.mono hb3.size)).mono hBW2.size)⟩
              · have HAT2:Hid (∀ W,Below W2.heap.size W2 W→Calls Tryz.prog 29 #[.slice xaa x.attrs.length xac,.slice yaa y.attrs.length yac] W fun e w'=>e=.returned (.bool false)∧Below W.heap.size W w'):=by
                 intro W h;have:=HAT.out W h;rw[decide_eq_false k4]at this;exact this
                have HE:=KF (by unfold ndB;simp[k4])
                clear KF k1 k2 k3 k4 HAT HKN;go_wp2_with fail;refine (Calls.mono (HAT2.out _ (Below.refl _ _)) ?_);rintro e w3 ⟨rfl,hb3⟩;go_wp2_with fail;go_ret;exact ⟨by rw[HE.out];rfl,hBW2.trans (hb3.mono hBW2.size)⟩
            · have k3b : (x.parent != y.parent) = true := by simpa using k3
              have k3c:(x.parent==y.parent)=false:=by simpa using k3
              have HE:=KF (by unfold ndB;simp[k3])
              clear KF k1 k2 k3 HAT HKN;go_wp2_with fail;go_ret;exact ⟨by rw[HE.out];rfl,hBW2⟩
          · have k2b : (x.s.toList == y.s.toList) = false := xn k2;have HE:=KF (by unfold ndB;simp[k2])
            clear KF k1 k2 HAT HKN;go_wp2_with fail;go_ret;exact ⟨by rw[HE.out];rfl,hBW2⟩
        · have k1b : (x.text == y.text) = false := by simpa using k1
          have HE:=KF (by unfold ndB;simp[k1])
          clear KF k1 HAT HKN;go_wp2_with fail;go_ret;exact ⟨by rw[HE.out];rfl,hBW2⟩
      · have hW2 : Below wr.heap.size wr ((wr.alloc (.cells #[.bool y.text, .string y.s, .slice yaa y.attrs.length yac, .int .i64 y.parent, .slice yka y.kids.length ykc] 43)).alloc (.cells #[.bool x.text, .string x.s, .slice xaa x.attrs.length xac, .int .i64 x.parent, .slice xka x.kids.length xkc] 43)).drew := (((Below.refl _ wr).alloc (nR9 _) _).alloc (by simp) _).drew
        have hF:(((wr.alloc (.cells #[.bool y.text,.string y.s,.slice yaa y.attrs.length yac,.int .i64 y.parent,.slice yka y.kids.length ykc] 43)).alloc (.cells #[.bool x.text,.string x.s,.slice xaa x.attrs.length xac,.int .i64 x.parent,.slice xka x.kids.length xkc] 43)).drew).heap[wr.heap.size]?=some (.cells #[.bool y.text,.string y.s,.slice yaa y.attrs.length yac,.int .i64 y.parent,.slice yka y.kids.length ykc] 43 (0,0)):=by
         show ((wr.alloc (.cells #[.bool y.text,.string y.s,.slice yaa y.attrs.length yac,.int .i64 y.parent,.slice yka y.kids.length ykc] 43)).alloc (.cells #[.bool x.text,.string x.s,.slice xaa x.attrs.length xac,.int .i64 x.parent,.slice xka x.kids.length xkc] 43)).heap[wr.heap.size]?=_
         rw[Lib.alloc_old _ _ _ (by simp)];exact heap_alloc_new _ _
        have hG:(((wr.alloc (.cells #[.bool y.text,.string y.s,.slice yaa y.attrs.length yac,.int .i64 y.parent,.slice yka y.kids.length ykc] 43)).alloc (.cells #[.bool x.text,.string x.s,.slice xaa x.attrs.length xac,.int .i64 x.parent,.slice xka x.kids.length xkc] 43)).drew).heap[wr.heap.size+1]?=some (.cells #[.bool x.text,.string x.s,.slice xaa x.attrs.length xac,.int .i64 x.parent,.slice xka x.kids.length xkc] 43 (0,0)):=by
         show ((wr.alloc (.cells #[.bool y.text,.string y.s,.slice yaa y.attrs.length yac,.int .i64 y.parent,.slice yka y.kids.length ykc] 43)).alloc (.cells #[.bool x.text,.string x.s,.slice xaa x.attrs.length xac,.int .i64 x.parent,.slice xka x.kids.length xkc] 43)).heap[wr.heap.size+1]?=_
         have e:=heap_alloc_new (wr.alloc (.cells #[.bool y.text,.string y.s,.slice yaa y.attrs.length yac,.int .i64 y.parent,.slice yka y.kids.length ykc] 43)) (.cells #[.bool x.text,.string x.s,.slice xaa x.attrs.length xac,.int .i64 x.parent,.slice xka x.kids.length xkc] 43);rw[World.size_alloc]at e
         exact e
        generalize ((wr.alloc (.cells #[.bool y.text,.string y.s,.slice yaa y.attrs.length yac,.int .i64 y.parent,.slice yka y.kids.length ykc] 43)).alloc (.cells #[.bool x.text,.string x.s,.slice xaa x.attrs.length xac,.int .i64 x.parent,.slice xka x.kids.length xkc] 43)).drew=W2 at *
        have x0:W2.cell? ⟨wr.heap.size+1,0,none⟩=some (.bool x.text):=by rw[cH9 hG];rfl
        have x1:W2.cell? ⟨wr.heap.size+1,1,none⟩=some (.string x.s):=by rw[cH9 hG];rfl
        have x2:W2.cell? ⟨wr.heap.size+1,2,none⟩=some (.slice xaa x.attrs.length xac):=by rw[cH9 hG];rfl
        have x3:W2.cell? ⟨wr.heap.size+1,3,none⟩=some (.int .i64 x.parent):=by rw[cH9 hG];rfl
        have x4:W2.cell? ⟨wr.heap.size+1,4,none⟩=some (.slice xka x.kids.length xkc):=by rw[cH9 hG];rfl
        have y0:W2.cell? ⟨wr.heap.size,0,none⟩=some (.bool y.text):=by rw[cH9 hF];rfl
        have y1:W2.cell? ⟨wr.heap.size,1,none⟩=some (.string y.s):=by rw[cH9 hF];rfl
        have y2:W2.cell? ⟨wr.heap.size,2,none⟩=some (.slice yaa y.attrs.length yac):=by rw[cH9 hF];rfl
        have y3:W2.cell? ⟨wr.heap.size,3,none⟩=some (.int .i64 y.parent):=by rw[cH9 hF];rfl
        have y4:W2.cell? ⟨wr.heap.size,4,none⟩=some (.slice yka y.kids.length ykc):=by rw[cH9 hF];rfl
        have HAT:Hid (∀ W,Below W2.heap.size W2 W→Calls Tryz.prog 29 #[.slice xaa x.attrs.length xac,.slice yaa y.attrs.length yac] W fun e w'=>e=.returned (.bool (decide (x.attrs=y.attrs)))∧Below W.heap.size W w'):=fun W h=>QD _ _ _ _ x.attrs y.attrs W ((hxA.later hW2).later h) ((hyA.later hW2).later h)
        have HKN:Hid (∀ W,Below W2.heap.size W2 W→Calls Tryz.prog 30 #[.slice xka x.kids.length xkc,.slice yka y.kids.length ykc] W fun e w'=>e=.returned (.bool (decide (x.kids=y.kids)))∧Below W.heap.size W w'):=fun W h=>xE _ _ _ _ x.kids y.kids W ((hxK.later hW2).later h) ((hyK.later hW2).later h)
        have hBW2:Below w.heap.size w W2:=hBw.trans (hW2.mono hBw.size);have hB12:Below W1.heap.size W1 W2:=hB.trans (hW2.mono hB.size)
        have KF:ndB x y=false→Hid (ndsB ns ms=false):=by
         intro hq
         show _=_
         rw[HT.out,HTD.out,hq];rfl
        clear p0 p1 p2 p3 p4 q0 q1 q2 q3 q4 dx dy hne0 hne1 hne2 hne3 hlt0 hlt1
        by_cases k1:x.text=y.text
        · have k1b : (x.text == y.text) = true := by simp[k1]
          by_cases k2:x.s=y.s
          · have k2b : (x.s.toList == y.s.toList) = true := by rw[k2];simp
            by_cases k3:x.parent=y.parent
            · have k3b : (x.parent != y.parent) = false := by simp[k3]
              have k3c:(x.parent==y.parent)=true:=by simp[k3]
              by_cases k4:x.attrs=y.attrs
              · have HAT2:Hid (∀ W,Below W2.heap.size W2 W→Calls Tryz.prog 29 #[.slice xaa x.attrs.length xac,.slice yaa y.attrs.length yac] W fun e w'=>e=.returned (.bool true)∧Below W.heap.size W w'):=by
                 intro W h;have:=HAT.out W h;rw[decide_eq_true k4]at this;exact this
                by_cases k5:x.kids=y.kids
                · have HKN2:Hid (∀ W,Below W2.heap.size W2 W→Calls Tryz.prog 30 #[.slice xka x.kids.length xkc,.slice yka y.kids.length ykc] W fun e w'=>e=.returned (.bool true)∧Below W.heap.size W w'):=by
                   intro W h;have:=HKN.out W h;rw[decide_eq_true k5]at this;exact this
                  have HN:Hid (ndsB ns ms=ndsB (ns.drop (i+1)) (ms.drop (i+1))):=by
                   show _=_
                   rw[HT.out,HTD.out,show ndB x y=true by unfold ndB;simp[k1,k2,k3,k4,k5]];rfl
                  clear KF k1 k2 k3 k4 k5 HAT HKN;go_wp2_with fail;refine (Calls.mono (HAT2.out _ (Below.refl _ _)) ?_);rintro e w3 ⟨rfl,hb3⟩;have hX3:=(hb3.block _ (qA hG)).trans hG;have hY3:=(hb3.block _ (qA hF)).trans hF;have hu4:w3.cell? ⟨wr.heap.size+1,4,none⟩=some (.slice xka x.kids.length xkc):=by rw[cH9 hX3];rfl
                  have hv4:w3.cell? ⟨wr.heap.size,4,none⟩=some (.slice yka y.kids.length ykc):=by rw[cH9 hY3];rfl
                  go_wp2_with fail;refine (Calls.mono (HKN2.out _ hb3) ?_);rintro e w4 ⟨rfl,hb4⟩;go_wp2_with fail
                  go_roundg (ns.length-(i+1))
                  case measure => omega
                  case rel => exact ⟨i+1,by omega,by go_num,hB12.trans ((hb3.trans (hb4.mono hb3.size)).mono hB12.size),HN.out⟩
                · have HKN2:Hid (∀ W,Below W2.heap.size W2 W→Calls Tryz.prog 30 #[.slice xka x.kids.length xkc,.slice yka y.kids.length ykc] W fun e w'=>e=.returned (.bool false)∧Below W.heap.size W w'):=by
                   intro W h;have:=HKN.out W h;rw[decide_eq_false k5]at this;exact this
                  have HE:=KF (by unfold ndB;simp[k5])
                  clear KF k1 k2 k3 k4 k5 HAT HKN;go_wp2_with fail;refine (Calls.mono (HAT2.out _ (Below.refl _ _)) ?_);rintro e w3 ⟨rfl,hb3⟩;have hX3:=(hb3.block _ (qA hG)).trans hG;have hY3:=(hb3.block _ (qA hF)).trans hF;have hu4:w3.cell? ⟨wr.heap.size+1,4,none⟩=some (.slice xka x.kids.length xkc):=by rw[cH9 hX3];rfl
                  have hv4:w3.cell? ⟨wr.heap.size,4,none⟩=some (.slice yka y.kids.length ykc):=by rw[cH9 hY3];rfl
                  go_wp2_with fail;refine (Calls.mono (HKN2.out _ hb3) ?_);rintro e w4 ⟨rfl,hb4⟩;go_wp2_with fail;go_ret;exact ⟨by rw[HE.out];rfl,hBW2.trans ((hb3.trans (hb4.mono hb3.size)).mono hBW2.size)⟩
              · have HAT2:Hid (∀ W,Below W2.heap.size W2 W→Calls Tryz.prog 29 #[.slice xaa x.attrs.length xac,.slice yaa y.attrs.length yac] W fun e w'=>e=.returned (.bool false)∧Below W.heap.size W w'):=by
                 intro W h;have:=HAT.out W h;rw[decide_eq_false k4]at this;exact this
                have HE:=KF (by unfold ndB;simp[k4])
                clear KF k1 k2 k3 k4 HAT HKN;go_wp2_with fail;refine (Calls.mono (HAT2.out _ (Below.refl _ _)) ?_);rintro e w3 ⟨rfl,hb3⟩;go_wp2_with fail;go_ret;exact ⟨by rw[HE.out];rfl,hBW2.trans (hb3.mono hBW2.size)⟩
            · have k3b : (x.parent != y.parent) = true := by simpa using k3
              have k3c:(x.parent==y.parent)=false:=by simpa using k3
              have HE:=KF (by unfold ndB;simp[k3])
              clear KF k1 k2 k3 HAT HKN;go_wp2_with fail;go_ret;exact ⟨by rw[HE.out];rfl,hBW2⟩
          · have k2b : (x.s.toList == y.s.toList) = false := xn k2;have HE:=KF (by unfold ndB;simp[k2])
            clear KF k1 k2 HAT HKN;go_wp2_with fail;go_ret;exact ⟨by rw[HE.out];rfl,hBW2⟩
        · have k1b : (x.text == y.text) = false := by simpa using k1
          have HE:=KF (by unfold ndB;simp[k1])
          clear KF k1 HAT HKN;go_wp2_with fail;go_ret;exact ⟨by rw[HE.out];rfl,hBW2⟩
    · have hili : ¬ ((i : Int) < (ns.length : Int)) := by omega
      have HE:Hid (ndsB ns ms=true):=by
       show _=_
       rw[HT.out,List.drop_of_length_le (by omega),List.drop_of_length_le (by have:=HLM.out;omega)]
       rfl
      go_wp2_with fail;go_ret;exact ⟨by rw[HE.out];rfl,hBw⟩
 · have hne : ((ns.length : Int) != (ms.length : Int)) = true := by simp;omega
   have HE:Hid (ndsB ns ms=false):=ndsB_len hlm;clear hlm
   go_enter Tryz.func13,Tryz.ntmps13
   go_wp2_with fail;go_ret;exact ⟨by rw[HE.out];rfl,hb0⟩
end
section
attribute [local go_sem] qD
def QG : Prop := ∀ (S : Nat → Prop)(n : Nat)(va vk : Value)(t : Tr)(w : World), qC S w va t.attrs → qw S w n vk t.kids → TextsN (n + 1) [t] → cnt (n + 1) [t] ≤ 1048576 → (∀ b, S b → b < w.heap.size) →
    Calls Tryz.prog 36 #[.agg #[.bool t.text,.string t.s,va,vk]] w fun e w'=>∃ v,e=.returned (.tuple #[.agg #[v],.int .i64 (jp t)])∧qK (fun b=>w.heap.size≤b) w' v (zA n t)∧Below w.heap.size w w'
theorem X6 {ns:List Nd}(h:y6 ns):∀ (f n:Nat),Za (treeF f ns n)∧TextsN f (treeF f ns n).kids:=by
 intro f
 induction f with
 | zero=>intro n;exact ⟨⟨nZ9 _,by intro y hy;simp[treeF]at hy⟩,trivial⟩
 | succ f ih =>
   intro n;rw[treeF];cases hx:ns[n]? with
   | none=>exact ⟨⟨nZ9 _,by intro y hy;simp at hy⟩,by intro t ht;simp at ht⟩
   | some x =>
     refine ⟨h x (List.mem_of_getElem? hx),fun t ht=>?_⟩
     simp only[List.mem_map]at ht
     obtain ⟨k,_,rfl⟩:=ht;exact ih _
theorem cnt_depR:∀ (d e:Nat)(ks:List Tr),Deep d ks→Deep e ks→cnt d ks=cnt e ks:=by
 intro d
 induction d with
 | zero=>intro e ks h _;have h:ks=[]:=h;subst h;rw[qQ,qQ]
 | succ d ih =>
   intro e ks h1 h2;cases e with
   | zero=>have h:ks=[]:=h2;subst h;rw[qQ,qQ]
   | succ e =>
     induction ks with
     | nil=>rw[qQ,qQ]
     | cons k r ihr =>
       rw[zf,zf,ih e k.kids (h1 k List.mem_cons_self) (h2 k List.mem_cons_self),ihr (fun t ht=>h1 t (List.mem_cons_of_mem _ ht)) (fun t ht=>h2 t (List.mem_cons_of_mem _ ht))]
theorem XV (d e:Nat):∀ (ks:List Tr)(a:Nat),(∀ k∈ks,Deep d k.kids∧Deep e k.kids)→qB d a ks=qB e a ks:=by
 intro ks
 induction ks with
 | nil=>intro a _;rfl
 | cons k r ih =>
   intro a h;have hk:=h k List.mem_cons_self;rw[qB,qB,qL,qL,cnt_depR d e _ hk.1 hk.2,ih _ (fun t ht=>h t (List.mem_cons_of_mem _ ht))]
theorem VZ (d e:Nat)(f g:Tr→Int→Nat→List Nd)(par:Nat):∀ (ks:List Tr)(a:Nat),(∀ k∈ks,Deep d k.kids∧Deep e k.kids)→(∀ k∈ks,∀ p a,f k p a=g k p a)→qG d f par a ks=qG e g par a ks:=by
 intro ks
 induction ks with
 | nil=>intro a _ _;rfl
 | cons k r ih =>
   intro a h hfg;have hk:=h k List.mem_cons_self;rw[qG,qG,qL,qL,cnt_depR d e _ hk.1 hk.2,hfg k List.mem_cons_self,ih _ (fun t ht=>h t (List.mem_cons_of_mem _ ht)) (fun t ht=>hfg t (List.mem_cons_of_mem _ ht))]
theorem lay_dep:∀ (d e:Nat)(t:Tr)(par:Int)(a:Nat),Deep d t.kids→Deep e t.kids→layF d t par a=layF e t par a:=by
 intro d
 induction d with
 | zero =>
   intro e t par a h1 h2;have h:t.kids=[]:=h1;cases e with
   | zero=>rfl
   | succ e=>rw[layF,layF,h];rfl
 | succ d ih =>
   intro e t par a h1 h2;cases e with
   | zero =>
     have h:t.kids=[]:=h2;rw[layF,layF,h];rfl
   | succ e =>
     rw[layF,layF,XV d e _ _ (fun k hk=>⟨h1 k hk,h2 k hk⟩),VZ d e (layF d) (layF e) a _ _ (fun k hk=>⟨h1 k hk,h2 k hk⟩) (fun k hk p q=>ih e k p q (h1 k hk) (h2 k hk))]
theorem JB {ns:List Nd}{x:Nd}{t:Tr}{n:Nat}(hx:ns[0]?=some x)(h80:ns.length≤80)(hp:x.parent=-1)(hps:yZ ns ns.length=true)(ht:treeF ns.length ns 0=t)(hd:Deep n t.kids) :
 qM ns=(zh t&&ndsB (layF n t (-1) 0) ns):=by
 have hpos:0<ns.length:=qy hx;rw[Bool.eq_iff_iff,Yb,Bool.and_eq_true,ndsB_iff,ht]
 constructor
 · rintro ⟨_, _, _, _, hg, d, hd2, hl⟩;exact ⟨hg,by rw[lay_dep n d t (-1) 0 hd hd2];exact hl⟩
 · rintro ⟨hg, hl⟩;exact ⟨hpos,h80,⟨x,hx,hp⟩,hps,hg,n,hd,hl⟩
theorem jm {ns:List Nd}(h:¬ (0<ns.length∧ns.length≤80∧(∃ x,ns[0]?=some x∧x.parent=-1)∧yZ ns ns.length=true)):qM ns=false:=by
 cases hg:qM ns with
 | false=>rfl
 | true =>
   have:=Yb.1 hg;exact absurd ⟨this.1,this.2.1,this.2.2.1,this.2.2.2.1⟩ h
theorem Zx {ns:List Nd}{k:Nat}(h:yZ ns k=false):∀ m,k≤m→yZ ns m=false:=by
  intro m
  induction m with
  | zero => intro hm;have : k = 0 := by omega
            subst this;exact h
  | succ m ih =>
    intro hm
    by_cases hk:k=m+1
    · rw[←hk];exact h
    · rw[yZ,ih (by omega)];rfl
set_option maxHeartbeats 2000000 in
theorem KV (hM:QG):IsDocOk:=by
 intro S v ns w hD;have hb1:=Below.alloc1 w (.cells #[v] 24);have hx1:=heap_alloc_new w (.cells #[v] 24);have HD:Hid (QF S w v ns):=hD;have HM:Hid QG:=hM;have HN1:Hid (qK S (w.alloc (.cells #[v] 24)) v ns):=hD.nodes.later hb1;obtain ⟨a,cap,rfl,hlc,hcm⟩:=hD.nodes.shape;unfold maxLen at hcm
 clear hD hM
 by_cases h0:ns.length=0
 · have hn : ns = [] := List.eq_nil_of_length_eq_zero h0;subst hn;have HE:Hid (qM []=false):=jm (by simp)
   clear hx1
   go_enter Tryz.func21,Tryz.ntmps21
   go_wp2_with fail;go_ret;exact ⟨by rw[HE.out];rfl,hb1⟩
 obtain ⟨x0,hx0⟩:∃ x,ns[0]?=some x:=⟨ns[0]'(by omega),by simp[show 0<ns.length by omega]⟩
 obtain ⟨b,o,cap2,xva,xvk,hv,_,_,hSb,hbw,_,_,_,c3,_,_,_⟩:=HN1.out.at hx0
 injection hv with hv1 hvl hv2
 subst hv1 hv2;clear hvl;have h0b:((ns.length:Int)==0)=false:=by simpa using h0
 have hpos:(0:Int)<(ns.length:Int):=by omega
 have c3z:(w.alloc (.cells #[.slice (some ⟨b,o,none⟩) ns.length cap] 24)).cell? ⟨b,o+3,none⟩=some (.int .i64 x0.parent):=by simpa using c3
 clear c3
 go_enter Tryz.func21,Tryz.ntmps21
 by_cases h80:ns.length≤80
 · have h80i : ¬ (80 : Int) < (ns.length : Int) := by omega
   by_cases hp0:x0.parent=-1
   · rw[hp0]at c3z
     go_wp2_with fail;have HN2:Hid (qK S (w.alloc (.cells #[.slice (some ⟨b,o,none⟩) ns.length cap] 24)) (.slice (some ⟨b,o,none⟩) ns.length cap) ns):=HN1.out
     generalize w.alloc (.cells #[.slice (some ⟨b,o,none⟩) ns.length cap] 24)=W1 at hb1 hx1 HN2 ⊢
     have hz1:=qA hx1;clear c3z HN1
     go_loopg [28] ns.length (fun g j wr=>∃ (k:Nat),k+g=ns.length∧j=.int .i64 (k:Int)∧Below W1.heap.size W1 wr∧yZ ns k=true)
     case atStart => exact ⟨0,by omega,rfl,Below.refl _ _,rfl⟩
     case round =>
      obtain ⟨k,hk,rfl,hB,hpk⟩:=hrel;have HPK:Hid (yZ ns k=true):=hpk;clear hpk;have hxr:=(hB.block _ hz1).trans hx1;have hBw:Below w.heap.size w wr:=hb1.trans (hB.mono hb1.size);have dr:wr.cell? ⟨w.heap.size,0,none⟩=some (.slice (some ⟨b,o,none⟩) ns.length cap):=by rw[cH9 hxr];rfl
      by_cases hkl:k<ns.length
      · have hkli : (k : Int) < (ns.length : Int) := by omega
        obtain ⟨y,hy⟩:∃ y,ns[k]?=some y:=⟨ns[k],by simp[hkl]⟩
        have HPS:Hid (yZ ns (k+1)=(decide (k=0)||(decide (0≤y.parent)&&decide (y.parent<(k:Int))))):=by show _=_;rw[yZ,HPK.out,hy];rfl
        obtain ⟨b',o',cap3,yva,yvk,hv,_,_,_,hbw2,c0,c1,c2,c3,c4,hAt,hKi⟩:=(HN2.out.later hB).at hy
        cases hv;obtain ⟨aa,ac,rfl⟩:=hAt.shape;obtain ⟨ka,kc,rfl,_,_⟩:=hKi.shape;have hBa:∀ X,Below W1.heap.size W1 (wr.alloc X):=fun X=>hB.alloc hB.size X
        have hBwa:∀ X,Below w.heap.size w (wr.alloc X):=fun X=>hBw.alloc hBw.size X
        clear hAt hKi hy hxr
        by_cases hk0:k=0
        · have HP2 : Hid (yZ ns (k + 1) = true) := by show _ = _;rw[HPS.out];simp[hk0]
          have hk0i:¬ (0:Int)<(k:Int):=by omega
          clear hk0 HPS;go_wp2_with fail
          go_roundg (ns.length-(k+1))
          case measure => omega
          case rel => exact ⟨k+1,by omega,by go_num,hBa _,HP2.out⟩
        · have hk0i : (0 : Int) < (k : Int) := by omega
          by_cases hneg:y.parent<0
          · have HE:Hid (qM ns=false):=jm (fun h=>by
             have h1:yZ ns (k+1)=false:=by rw[HPS.out];simp[hk0];omega
             have h2:=Zx h1 ns.length (by omega)
             rw[h2]at h;exact absurd h.2.2.2 (by simp))
            clear hk0 HPS;go_wp2_with fail;go_ret;exact ⟨by rw[HE.out];rfl,hBwa _⟩
          · by_cases hge : (k : Int) ≤ y.parent
            · have HE:Hid (qM ns=false):=jm (fun h=>by
               have h1:yZ ns (k+1)=false:=by rw[HPS.out];simp[hk0];omega
               have h2:=Zx h1 ns.length (by omega)
               rw[h2]at h;exact absurd h.2.2.2 (by simp))
              clear hk0 HPS;go_wp2_with fail;go_ret;exact ⟨by rw[HE.out];rfl,hBwa _⟩
            · have HP2 : Hid (yZ ns (k + 1) = true) := by show _ = _;rw[HPS.out];simp[hk0];omega
              clear hk0 HPS;go_wp2_with fail
              go_roundg (ns.length-(k+1))
              case measure => omega
              case rel => exact ⟨k+1,by omega,by go_num,hBa _,HP2.out⟩
      · have hkli : ¬ ((k : Int) < (ns.length : Int)) := by omega
        have hkk:k=ns.length:=by omega
        have HPA:Hid (yZ ns ns.length=true):=by show _=_;rw[←hkk];exact HPK.out
        have HT:Hid _:=X5 ns.length S _ ns 0 wr (HD.out.later hBw).nodes HD.out.few h80 (by omega) (by omega)
        rw[show ((0:Nat):Int)=0 from rfl]at HT
        obtain ⟨t,ht⟩:∃ t,treeF ns.length ns 0=t:=⟨_,rfl⟩
        have HX:Hid (TextsN (ns.length+1) [t]):=by
         show TextsN (ns.length+1) [t]
         intro u hu;rw[List.mem_singleton]at hu
         rw[hu,←ht];exact X6 HD.out.short _ _
        have HCT:Hid (cnt (ns.length+1) [t]≤1048576):=by show cnt (ns.length+1) [t]≤1048576;rw[←ht];exact qau (by omega) h80 h80
        rw[ht]at HT
        have HPT:Hid (∀ n,Deep n t.kids→qM ns=(zh t&&ndsB (layF n t (-1) 0) ns)):=fun n hd=>JB hx0 h80 hp0 HPA.out ht hd
        clear hkk ht hx0;go_wp2_with fail;refine (Calls.mono HT.out ?_);rintro e w3 ⟨va,vk,rfl,hA,hK,hb3⟩;have HTD:Hid _:=HPT.out _ (qw.deep _ hK);have HMM:Hid _:=HM.out _ _ _ _ t w3 hA.bounded (qw.bounded _ hK) HX.out HCT.out (fun b hb=>hb.2)
        obtain ⟨aa,ac,rfl⟩:=hA.shape;obtain ⟨ka,kc,rfl,_,_⟩:=qw.shape _ hK;have hB3:Below w.heap.size w w3:=hBw.trans (hb3.mono hBw.size);have hx3:=(hb3.block _ (qA hxr)).trans hxr;have d3:w3.cell? ⟨w.heap.size,0,none⟩=some (.slice (some ⟨b,o,none⟩) ns.length cap):=by rw[cH9 hx3];rfl
        clear hA hK HT;go_wp2_with fail;refine (Calls.mono HMM.out ?_);rintro e w4 ⟨v4,rfl,hN4,hb4⟩;have hB4:Below w.heap.size w w4:=hB3.trans (hb4.mono hB3.size);have hx4:=(hb4.block _ (qA hx3)).trans hx3;have d4:w4.cell? ⟨w.heap.size,0,none⟩=some (.slice (some ⟨b,o,none⟩) ns.length cap):=by rw[cH9 hx4];rfl
        have hb5:=Below.alloc1 w4 (.cells #[v4] 24);have HSD:Hid _:=Qf _ S _ _ _ ns _ (hN4.later hb5) (HD.out.later (hB4.alloc hB4.size (.cells #[v4] 24))).nodes;have hx5:=(hb5.block _ (qA hx4)).trans hx4;have d5:(w4.alloc (.cells #[v4] 24)).cell? ⟨w.heap.size,0,none⟩=some (.slice (some ⟨b,o,none⟩) ns.length cap):=by rw[cH9 hx5];rfl
        have hB5:Below w.heap.size w (w4.alloc (.cells #[v4] 24)):=hB4.alloc hB4.size _;obtain ⟨a4,cap4,rfl,_,_⟩:=hN4.shape;obtain ⟨g,hg⟩:∃ g,zh t=g:=⟨_,rfl⟩;obtain ⟨q,hq⟩:∃ q,(zA ns.length t).length=q:=⟨_,rfl⟩;rw[hq]at HSD hB5 d5 ⊢
        unfold jp;unfold zA at HSD
        rw[hg]at HTD HSD ⊢
        clear hN4 HMM hg hxr hx3 hx4 hx5 hb5 hq;cases g with
        | false =>
          have HE:Hid (qM ns=false):=by show _=_;rw[HTD.out];rfl
          clear HTD HSD;go_wp2_with fail;go_ret;exact ⟨by rw[HE.out];rfl,hB5⟩
        | true =>
          have HE:Hid (qM ns=ndsB (layF ns.length t (-1) 0) ns):=by show _=_;rw[HTD.out];rfl
          clear HTD;simp only[if_true]at HSD
          go_wp2_with fail;refine (Calls.mono HSD.out ?_);rintro e w6 ⟨rfl,hb6⟩;go_wp2_with fail;go_ret;exact ⟨by rw[HE.out];rfl,hB5.trans (hb6.mono hB5.size)⟩
   · have hpb : (x0.parent == -1) = false := by simpa using hp0
     have HE:Hid (qM ns=false):=jm (fun h=>by obtain ⟨_,_,⟨x,hx,hp⟩,_⟩:=h;rw[hx0]at hx;cases hx;exact hp0 hp)
     clear hp0 hx0 HN1;go_wp2_with fail;go_ret;exact ⟨by rw[HE.out];rfl,hb1⟩
 · have h80i : (80 : Int) < (ns.length : Int) := by omega
   have HE:Hid (qM ns=false):=jm (fun h=>h80 h.2.1)
   clear h80 hx0 HN1;go_wp2_with fail;go_ret;exact ⟨by rw[HE.out];rfl,hb1⟩
end
end Go.Proofs.YtnppmdpmippcoaaGreatDoor
