/- Bundled: One Math JoinT. What each says stands ahead of it. -/
import Derived.Test.YtfdbipeidmpciaaDoorBundle01
import Derived.Test.YtfdbipeidmpciaaDoorBundle02
namespace Go.Proofs.YtfdbipeidmpciaaDoor
open Go.ChangeShapes Go.WideShapes Go.ChangeAt Go.RowKit
set_option maxRecDepth 100000
section
def catL:List Tr→List UInt8
 | []=>[]
 | t::r=>t.s.data.toList++catL r
theorem ym (a b:List Tr):catL (a++b)=catL a++catL b:=by
 induction a with
 | nil=>rfl
 | cons t r ih=>simp[catL,ih]
def firstNE:List Tr→Option Tr
 | []=>none
 | t::r=>if t.s.data.toList=[] then firstNE r else some t
theorem jZ (a b:List Tr):firstNE (a++b)=(firstNE a).or (firstNE b):=by
 induction a with
 | nil=>simp[firstNE]
 | cons t r ih =>
   show (if t.s.data.toList=[] then firstNE (r++b) else some t)=(if t.s.data.toList=[] then firstNE r else some t).or (firstNE b)
   split
   · exact ih
   · simp
theorem zT (a:List Tr):firstNE a=none↔catL a=[]:=by
 induction a with
 | nil=>simp[firstNE,catL]
 | cons t r ih=>unfold firstNE catL;split<;>simp_all
theorem IsBuilder.alloc {T e:TypeId}{B b:Nat}{bs:List Value}{w:World}(h:Lib.IsBuilder T e B b bs w)(o:Obj):Lib.IsBuilder T e B b bs (w.alloc o):=by
 have key:∀ p,Lib.BuilderAt T e B b p bs w→Lib.BuilderAt T e B b p bs (w.alloc o):=by
  intro p h;have hlt:=h.lt;obtain ⟨hB,v,hb,hown,hne⟩:=h;exact ⟨hB,v,by rw[Lib.alloc_old w o b hlt];exact hb,hown.alloc o,hne⟩
 exact h.elim (fun h=>Or.inl (key _ h)) (fun h=>Or.inr (key _ h))
theorem IsBuilder.setCell {T e:TypeId}{B b:Nat}{bs:List Value}{w:World}(h:Lib.IsBuilder T e B b bs w){a:Addr}(ha:a.block<B)(u:Value):Lib.IsBuilder T e B b bs (w.setCell a u):=by
 have key:∀ p,Lib.BuilderAt T e B b p bs w→Lib.BuilderAt T e B b p bs (w.setCell a u):=by
  intro p h;obtain ⟨hB,v,hb,hown,hne⟩:=h;exact ⟨hB,v,by rw[Below.heap_setCell _ _ _ _ (by omega)];exact hb,ownsRow_setCell_below hown ha u,hne⟩
 exact h.elim (fun h=>Or.inl (key _ h)) (fun h=>Or.inr (key _ h))
structure XC (S:Nat→Prop) (n:Nat) (ts:List Tr) (W:World) (k:Nat) (w:World):Prop where
 below:Below W.heap.size W w
 size:W.heap.size+3≤w.heap.size
 res:w.heap[W.heap.size]?=some (.cells #[.bool false,.string ⟨#[]⟩,.slice none 0 0,.slice none 0 0] 25 (0,0))
 first:∃ fb fs fa fal fac fk fkl fkc,w.heap[W.heap.size+1]?=some (.cells #[.bool fb,.string fs,.slice fa fal fac,.slice fk fkl fkc] 25 (0,0)) ∧
  ∃ l,qe S W (.slice fa fal fac) l∧l.length≤1048576∧(∀ t,firstNE (ts.take k)=some t→fb=t.text∧l=t.attrs∧qb S W n (.slice fk fkl fkc) t.kids)
 build:Lib.IsBuilder 99 5 (W.heap.size+1+1) (W.heap.size+1+1) (Lib.byteCells (catL (ts.take k))) w
theorem VI (S:Nat→Prop)(n:Nat)(ts:List Tr)(w:World) :
 XC S n ts w 0 (((w.alloc (.cells #[.bool false,.string ⟨#[]⟩,.slice none 0 0,.slice none 0 0] 25)).alloc (.cells #[.bool false,.string ⟨#[]⟩,.slice none 0 0,.slice none 0 0] 25)).alloc (.cells #[.pointer none,.slice none 0 0] 99)) where
 below:=((Below.alloc1 w _).alloc (by simp) _).alloc (by simp;omega) _
 size:=by simp
 res:=by
  rw[Lib.alloc_old _ _ _ (by simp;omega),Lib.alloc_old _ _ _ (by simp)]
  exact heap_alloc_new w _
 first:=⟨false,⟨#[]⟩,none,0,0,none,0,0,by
  rw[Lib.alloc_old _ _ _ (by simp)]
  have:=heap_alloc_new (w.alloc (.cells #[.bool false,.string ⟨#[]⟩,.slice none 0 0,.slice none 0 0] 25)) (.cells #[.bool false,.string ⟨#[]⟩,.slice none 0 0,.slice none 0 0] 25)
  simpa using this,[],⟨none,0,rfl,nR9 _,nZ9 _,fun hne=>absurd rfl hne⟩,by simp,by intro t h;simp[firstNE]at h⟩
 build:=by
  have:=Lib.fresh_isBuilder 99 5 ((w.alloc (.cells #[.bool false,.string ⟨#[]⟩,.slice none 0 0,.slice none 0 0] 25)).alloc (.cells #[.bool false,.string ⟨#[]⟩,.slice none 0 0,.slice none 0 0] 25))
  simpa[catL,Lib.byteCells] using this
theorem Vr {w:World}{F:Nat}{a b c d a' b' c' d':Value}{T:TypeId}{fz:Nat × Nat}(h:w.heap[F]?=some (.cells #[a,b,c,d] T fz)) :
 ((((w.setCell ⟨F,0,none⟩ a').setCell ⟨F,1,none⟩ b').setCell ⟨F,2,none⟩ c').setCell ⟨F,3,none⟩ d').heap[F]?=some (.cells #[a',b',c',d'] T fz):=by
 simp[World.setCell,Array.getElem?_modify,h]
theorem Qa {w:World}{F k:Nat}{a' b' c' d':Value}(h:k≠F) :
 ((((w.setCell ⟨F,0,none⟩ a').setCell ⟨F,1,none⟩ b').setCell ⟨F,2,none⟩ c').setCell ⟨F,3,none⟩ d').heap[k]?=w.heap[k]?:=by
 rw[Below.heap_setCell _ _ _ _ h,Below.heap_setCell _ _ _ _ h,Below.heap_setCell _ _ _ _ h,Below.heap_setCell _ _ _ _ h]
theorem J9 {S:Nat→Prop}{n:Nat}{ts:List Tr}{W:World}{k:Nat}{t:Tr}{w0 w1:World}{fb:Bool}{fs:ByteArray}{fa fk:Option Addr}{fal fac fkl fkc:Nat}{l:List (ByteArray × ByteArray)}
 (hsn:ts.take (k+1)=ts.take k++[t])
 (hB:Below W.heap.size W w0) (hsz:W.heap.size+3≤w0.heap.size)
 (hres:w0.heap[W.heap.size]?=some (.cells #[.bool false,.string ⟨#[]⟩,.slice none 0 0,.slice none 0 0] 25 (0,0)))
 (hF:w0.heap[W.heap.size+1]?=some (.cells #[.bool fb,.string fs,.slice fa fal fac,.slice fk fkl fkc] 25 (0,0)))
 (hal:qe S W (.slice fa fal fac) l) (hll:l.length≤1048576)
 (hfirst:∀ u,firstNE (ts.take k++[t])=some u→fb=u.text∧l=u.attrs∧qb S W n (.slice fk fkl fkc) u.kids)
 (hb:Below (W.heap.size+1+1) w0 w1)
 (hbd:Lib.BuilderAt 99 5 (W.heap.size+1+1) (W.heap.size+1+1) (.pointer (some ⟨W.heap.size+1+1,0,none⟩)) (Lib.byteCells (catL (ts.take k))++Lib.strCells t.s) w1) :
 XC S n ts W (k+1) w1 where
 below:=hB.trans (hb.mono (by omega))
 size:=Nat.le_trans hsz hb.size
 res:=by rw[hb.block _ (by omega)];exact hres
 first:=⟨fb,fs,fa,fal,fac,fk,fkl,fkc,by rw[hb.block _ (by omega)];exact hF,l,hal,hll,by rw[hsn];exact hfirst⟩
 build:=Or.inr (by
  rw[hsn,ym,Lib.byteCells_append]
  simpa[catL,Lib.strCells_eq] using hbd)
attribute [local go_sem] qf
theorem J7 (S:Nat→Prop)(n:Nat)(v:Value)(ts:List Tr)(w:World)(h:qb S w (n+1) v ts)(hc:(catL ts).length≤1099511627776)(ha:∀ t∈ts,t.attrs.length≤1048576) :
 Calls Tryd.prog 116 #[v] w fun e w'=>∃ fb fa fal fac fk fkl fkc,e=.returned (.agg #[.bool fb,.string ⟨(catL ts).toArray⟩,.slice fa fal fac,.slice fk fkl fkc])∧Below w.heap.size w w' ∧
  (∀ t,firstNE ts=some t→fb=t.text∧qe (qG w.heap.size 69 w') w' (.slice fa fal fac) t.attrs∧qb S w n (.slice fk fkl fkc) t.kids):=by
 obtain ⟨a,cap,rfl,h2,h3,h4⟩:=h;unfold maxLen at h3
 go_enter Tryd.func116,Tryd.ntmps116
 go_wp2_with fail
 go_loopg [9] (ts.length+1) (fun g i wr=>∃ k:Nat,k≤ts.length∧g=ts.length+1-k∧i=.int .i64 k∧XC S n ts w k wr)
 case atStart => exact ⟨0,nZ9 _,by omega,rfl,VI S n ts w⟩
 case round =>
  obtain ⟨k,hk,hg,rfl,inv⟩:=hrel;subst hg;obtain ⟨hB,hsz,hres,⟨fb,fs,fa,fal,fac,fk,fkl,fkc,hF,l,hal,hll,hfirst⟩,hbuild⟩:=inv;have HF:Hid (∀ t,firstNE (ts.take k)=some t→fb=t.text∧l=t.attrs∧qb S w n (.slice fk fkl fkc) t.kids):=hfirst;have HR:Hid (wr.heap[w.heap.size]?=some (.cells #[.bool false,.string ⟨#[]⟩,.slice none 0 0,.slice none 0 0] 25 (0,0))):=hres;have HFF:Hid (wr.heap[w.heap.size+1]?=some (.cells #[.bool fb,.string fs,.slice fa fal fac,.slice fk fkl fkc] 25 (0,0))):=hF;have f0:wr.cell? ⟨w.heap.size+1,0,none⟩=some (.bool fb):=by rw[cH9 hF];rfl
  have f1:wr.cell? ⟨w.heap.size+1,1,none⟩=some (.string fs):=by rw[cH9 hF];rfl
  have f2:wr.cell? ⟨w.heap.size+1,2,none⟩=some (.slice fa fal fac):=by rw[cH9 hF];rfl
  have f3:wr.cell? ⟨w.heap.size+1,3,none⟩=some (.slice fk fkl fkc):=by rw[cH9 hF];rfl
  have z0:∀ j,wr.frozen? ⟨w.heap.size+1,j,none⟩=false:=fH9 hF;clear hfirst hres hF;have hsz1:w.heap.size+1<wr.heap.size:=by omega
  have hsz0:w.heap.size<wr.heap.size:=by omega
  have hsz2:w.heap.size+1+1<wr.heap.size:=by omega
  by_cases hlt:k<ts.length
  · have hne : ts ≠ [] := by intro e;subst e;simp at hlt
    obtain ⟨b,o,rfl,hs,hcc⟩:=h4 hne;obtain ⟨t,ht⟩:∃ t,ts[k]?=some t:=⟨ts[k],by simp[hlt]⟩
    obtain ⟨va,vk,c0,c1,c2,c3,hat,hkt⟩:=hcc k t ht;obtain ⟨aa,ac,rfl⟩:=hat.shape;obtain ⟨ka,kc,rfl,_,_⟩:=qb.shape n hkt;have hbl:b<w.heap.size:=World.block_lt_of_cell? w _ c0;rw[←hB.cell (p:=⟨b,o+k*4,none⟩) hbl]at c0
    rw[←hB.cell (p:=⟨b,o+k*4+1,none⟩) hbl]at c1
    rw[←hB.cell (p:=⟨b,o+k*4+2,none⟩) hbl]at c2
    rw[←hB.cell (p:=⟨b,o+k*4+3,none⟩) hbl]at c3
    have hsn:ts.take (k+1)=ts.take k++[t]:=by
     rw[List.take_succ_eq_append_getElem hlt];congr 2;simpa[hlt] using ht
    have HS:Hid (ts.take (k+1)=ts.take k++[t]):=hsn
    have hcat:(catL (ts.take k)).length+t.s.size≤1099511627776:=by
     have h1:catL ts=catL (ts.take (k+1))++catL (ts.drop (k+1)):=by rw[←ym,List.take_append_drop]
     rw[h1,hsn,ym]at hc
     simp[catL]at hc
     have:t.s.size=t.s.data.size:=rfl;omega
    have HT:Hid (ts[k]?=some t):=ht;clear hsn ht hcc h4
    by_cases hz:catL (ts.take k)=[]
    · have HZ : Hid (catL (ts.take k) = []) := hz;rw[hz]at hbuild
      clear hz;go_wp2_with fail;refine (Jz _ _ _ _ (IsBuilder.alloc hbuild _)).mono ?_;rintro e w' ⟨rfl,rfl⟩;go_wp2_with fail;refine (xF (w.heap.size+1+1) _ [] _ _ (IsBuilder.alloc (IsBuilder.setCell (IsBuilder.setCell (IsBuilder.setCell (IsBuilder.setCell hbuild ?_ _) ?_ _) ?_ _) ?_ _) _) ?_ ?_).mono ?_
      · simp only;omega
      · simp only;omega
      · simp only;omega
      · simp only;omega
      · simp only[List.length_nil];omega
      · simp;omega
      rintro e w1 ⟨rfl,hbd,hb1⟩;go_wp2_with fail
      go_roundg (ts.length+1-(k+1))
      case measure => omega
      case rel =>
       refine ⟨k+1,by omega,rfl,by go_num,J9 (fb:=t.text) (fs:=t.s) (fa:=aa) (fal:=t.attrs.length) (fac:=ac) (fk:=ka) (fkl:=t.kids.length) (fkc:=kc) (l:=t.attrs) HS.out ?_ ?_ ?_ ?_ hat (ha t (List.mem_of_getElem? HT.out)) ?_ hb1 (by rw[HZ.out];exact hbd)⟩
       · repeat' (first | refine Below.alloc ?_ ?_ _ | refine Below.setCell ?_ ?_ _)
         all_goals first|exact hB|(simp only[World.size_setCell];omega)|(simp only;omega)
       · simp;omega
       · rw[Lib.alloc_old _ _ _ (by simp;omega),Qa (by omega)];exact HR.out
       · rw[Lib.alloc_old _ _ _ (by simp;omega)];exact Vr HFF.out
       · intro u hu;rw[jZ,(zT _).2 HZ.out]at hu
         simp only[Option.none_or,firstNE]at hu
         split at hu
         · cases hu
         · cases hu;exact ⟨rfl,rfl,hkt⟩
    · have hz' : (catL (ts.take k)).length ≠ 0 := by simpa using hz
      have hzb:(((Lib.byteCells (catL (ts.take k))).length:Int)==0)=false:=by
       rw[Lib.byteCells_length];simpa using hz
      clear hz;go_wp2_with fail;refine (Jz _ _ _ _ (IsBuilder.alloc hbuild _)).mono ?_;rintro e w' ⟨rfl,rfl⟩;go_wp2_with fail;refine (xF (w.heap.size+1+1) _ _ _ _ (IsBuilder.alloc hbuild _) ?_ ?_).mono ?_
      · rw[Lib.byteCells_length];omega
      · simp;omega
      rintro e w1 ⟨rfl,hbd,hb1⟩;go_wp2_with fail
      go_roundg (ts.length+1-(k+1))
      case measure => omega
      case rel =>
       refine ⟨k+1,by omega,rfl,by go_num,J9 (fb:=fb) (fs:=fs) (fa:=fa) (fal:=fal) (fac:=fac) (fk:=fk) (fkl:=fkl) (fkc:=fkc) (l:=l) HS.out (hB.alloc (by omega) _) (by simp;omega) ?_ ?_ hal hll ?_ hb1 hbd⟩
       · rw[Lib.alloc_old _ _ _ (by omega)];exact HR.out
       · rw[Lib.alloc_old _ _ _ (by omega)];exact HFF.out
       · intro u hu;rw[jZ]at hu
         cases hf:firstNE (ts.take k) with
         | none=>rw[zT]at hf;rw[hf]at hz';simp at hz'
         | some x=>rw[hf]at hu;simp at hu;subst hu;exact HF.out _ hf
  · have hkk : k = ts.length := by omega
    subst hkk;rw[List.take_length]at hbuild
    have HF':=HF.out;rw[List.take_length]at HF'
    have HF2:Hid (∀ t,firstNE ts=some t→fb=t.text∧l=t.attrs∧qb S w n (.slice fk fkl fkc) t.kids):=HF';clear HF HF' h4;go_wp2_with fail;refine (yQ _ _ _ _ hbuild (by omega)).mono ?_
    rintro e w1 ⟨rfl,hb1⟩;have hF1:w1.heap[w.heap.size+1]?=some (.cells #[.bool fb,.string fs,.slice fa fal fac,.slice fk fkl fkc] 25 (0,0)):=by rw[hb1.block _ (by omega)];exact HFF.out
    have hR1:w1.heap[w.heap.size]?=some (.cells #[.bool false,.string ⟨#[]⟩,.slice none 0 0,.slice none 0 0] 25 (0,0)):=by rw[hb1.block _ (by omega)];exact HR.out
    have g0:w1.cell? ⟨w.heap.size+1,0,none⟩=some (.bool fb):=by rw[cH9 hF1];rfl
    have g1:w1.cell? ⟨w.heap.size+1,1,none⟩=some (.string fs):=by rw[cH9 hF1];rfl
    have g2:w1.cell? ⟨w.heap.size+1,2,none⟩=some (.slice fa fal fac):=by rw[cH9 hF1];rfl
    have g3:w1.cell? ⟨w.heap.size+1,3,none⟩=some (.slice fk fkl fkc):=by rw[cH9 hF1];rfl
    have y0:∀ j,w1.frozen? ⟨w.heap.size+1,j,none⟩=false:=fH9 hF1;have HR1:Hid (w1.heap[w.heap.size]?=some (.cells #[.bool false,.string ⟨#[]⟩,.slice none 0 0,.slice none 0 0] 25 (0,0))):=hR1;have hs1:=hb1.size;clear hF1 hR1;go_wp2_with fail;have hBw:Below w.heap.size w (w1.setCell ⟨w.heap.size+1,1,none⟩ (.string ⟨(catL ts).toArray⟩)):=(hB.trans (hb1.mono (by omega))).setCell (by simp only;omega) _
    refine (Qg S _ _ _ _ _ _ l _ (hal.later hBw) hll).mono ?_;rintro e w2 ⟨v2,rfl,ha2,hb2⟩;obtain ⟨a2,c2,rfl⟩:=ha2.shape;have hs2:=hb2.size;simp only[World.size_setCell]at hs2
    have hR2:w2.heap[w.heap.size]?=some (.cells #[.bool false,.string ⟨#[]⟩,.slice none 0 0,.slice none 0 0] 25 (0,0)):=by
     rw[hb2.block _ (by simp only[World.size_setCell];omega),Below.heap_setCell _ _ _ _ (by simp only;omega)];exact HR1.out
    have r0:w2.cell? ⟨w.heap.size,0,none⟩=some (.bool false):=by rw[cH9 hR2];rfl
    have r1:w2.cell? ⟨w.heap.size,1,none⟩=some (.string ⟨#[]⟩):=by rw[cH9 hR2];rfl
    have r2:w2.cell? ⟨w.heap.size,2,none⟩=some (.slice none 0 0):=by rw[cH9 hR2];rfl
    have r3:w2.cell? ⟨w.heap.size,3,none⟩=some (.slice none 0 0):=by rw[cH9 hR2];rfl
    have x0:∀ j,w2.frozen? ⟨w.heap.size,j,none⟩=false:=fH9 hR2;clear hR2;go_wp2_with fail;refine bodyPost_ret (v:=.agg #[.bool fb,.string ⟨(catL ts).toArray⟩,.slice a2 l.length c2,.slice fk fkl fkc]) (by simp[results,Tryd.results116,go_sem,qf,r0,r1,r2,r3,World.cell?_setCell_other]) rfl ⟨fb,a2,l.length,c2,fk,fkl,fkc,rfl,?_,?_⟩
    · have h0 : Below w.heap.size w w2 := hBw.trans (hb2.mono (by simp only[World.size_setCell];omega))
      repeat' (refine Below.setCell ?_ ?_ _)
      all_goals first|exact h0|(simp only;omega)
    · intro t ht;obtain ⟨e1,e2,e3⟩:=HF2.out t ht;refine ⟨e1,?_,e3⟩;subst e2;refine ha2.carry fun b hb'=>?_
      have hb0:=hb'.1;simp only[World.size_setCell]at hb0
      have e:=Qa (w:=w2) (F:=w.heap.size) (k:=b) (a':=.bool fb) (b':=.string ⟨(catL ts).toArray⟩) (c':=.slice a2 t.attrs.length c2) (d':=.slice fk fkl fkc) (by omega)
      exact ⟨hb'.to (by simp;omega) e,e⟩
end
end Go.Proofs.YtfdbipeidmpciaaDoor
/- Joined lists of trees as plain functions, and what holds of them. No condition. -/
namespace Go.Proofs.YtfdbipeidmpciaaDoor
def sOf (l:List UInt8):ByteArray:=⟨l.toArray⟩
theorem Kn (s:ByteArray):sOf s.data.toList=s:=by cases s;simp[sOf]
theorem xm (s:ByteArray):s.size=s.data.toList.length:=by rw[Array.length_toList];rfl
def jt:List Tr→List Tr
 | []=>[]
 | t :: r =>
   if t.text then
    if t.s.data.toList=[] then jt r
    else match jt r with
     | []=>[t]
     | u::r'=>if u.text then { t with s:=sOf (t.s.data.toList++u.s.data.toList) }::r' else t::u::r'
   else t::jt r
theorem KW (t:Tr)(r:List Tr)(ht:t.text=true):jt (t::r) =
 if t.s.data.toList=[] then jt r
 else match jt r with
  | []=>[t]
  | u::r'=>if u.text then { t with s:=sOf (t.s.data.toList++u.s.data.toList) }::r' else t::u::r':=by
 show (if t.text then _ else _)=_
 rw[if_pos ht]
def q9 (p:List Tr):List Tr :=
 match firstNE p with
 | none=>[]
 | some t=>[{ t with s:=sOf (catL p) }]
theorem JO {p:List Tr}{t:Tr}(h:firstNE p=some t):t∈p:=by
 induction p with
 | nil=>simp[firstNE]at h
 | cons u r ih =>
   unfold firstNE at h
   split at h
   · exact List.mem_cons_of_mem _ (ih h)
   · cases h;exact List.mem_cons_self
theorem qbr {q:List Tr}(hq:∀ u r,q=u::r→u.text=false):∀ u r,jt q=u::r→u.text=false:=by
 intro u r h;cases q with
 | nil=>simp[jt]at h
 | cons x q' =>
   have hx:=hq x q' rfl;unfold jt at h
   simp only[hx]at h
   simp at h
   rw[←h.1];exact hx
theorem qbX (p q:List Tr)(hp:∀ t∈p,t.text=true)(hq:∀ u r,q=u::r→u.text=false):jt (p++q)=q9 p++jt q:=by
 induction p with
 | nil=>simp[q9,firstNE]
 | cons t p' ih =>
   have ih':=ih (fun u hu=>hp u (List.mem_cons_of_mem _ hu))
   have ht:t.text=true:=hp t List.mem_cons_self;rw[List.cons_append];rw[KW t _ ht]
   by_cases hs:t.s.data.toList=[]
   · rw[if_pos hs, ih'];have e1:firstNE (t::p')=firstNE p':=by show (if _ then _ else _)=_;rw[if_pos hs]
     have e2:catL (t::p')=catL p':=by show _++_=_;rw[hs];rfl
     unfold q9;rw[e1,e2]
   · rw[if_neg hs, ih'];have e1:firstNE (t::p')=some t:=by show (if _ then _ else _)=_;rw[if_neg hs]
     have e2:catL (t::p')=t.s.data.toList++catL p':=rfl;have e3:q9 (t::p')=[{ t with s:=sOf (t.s.data.toList++catL p') }]:=by unfold q9;rw[e1,e2]
     rw[e3];cases hf:firstNE p' with
     | none =>
       have hc:=(zT p').1 hf;have ej:q9 p'=[]:=by unfold q9;rw[hf]
       rw[ej,hc,List.append_nil,Kn];simp only[List.nil_append,List.cons_append];cases hj:jt q with
       | nil=>cases t;rfl
       | cons u r=>simp only[qbr hq u r hj];cases t;simp
     | some x =>
       have hx:x.text=true:=hp x (List.mem_cons_of_mem _ (JO hf));have ej:q9 p'=[{ x with s:=sOf (catL p') }]:=by unfold q9;rw[hf]
       rw[ej];simp only[List.cons_append,List.nil_append,hx,if_true];simp[sOf]
theorem K8 (ts:List Tr):(∀ t∈ts.take (ahead ts),t.text=true)∧(∀ u r,ts.drop (ahead ts)=u::r→u.text=false):=by
 induction ts with
 | nil=>simp[ahead]
 | cons t r ih =>
   unfold ahead
   by_cases ht:t.text=true
   · rw[if_pos ht];refine ⟨fun x hx=>?_,fun u q hu=>ih.2 u q (by simpa using hu)⟩
     simp only[List.take_succ_cons,List.mem_cons]at hx
     rcases hx with rfl|hx
     · exact ht
     · exact ih.1 x hx
   · rw[if_neg ht];refine ⟨by simp,fun u q hu=>?_⟩
     simp at hu
     rw[←hu.1];simpa using ht
theorem qaz (ts:List Tr):jt ts=q9 (ts.take (ahead ts))++jt (ts.drop (ahead ts)):=by
 have h:=K8 ts;have:=qbX _ _ h.1 h.2;rw[List.take_append_drop]at this
 exact this
theorem KV (t:Tr)(r:List Tr)(h:t.text=false):jt (t::r)=t::jt r:=by
 show (if t.text then _ else _)=_
 rw[h];rfl
def Small:Nat→List Tr→Prop
 | 0,_=>True
 | n+1,ts=>ts.length≤1048576∧(catL ts).length≤1099511627776∧∀ t∈ts,t.attrs.length≤1048576∧t.s.size≤1099511627776∧Small n t.kids
theorem Small.sub {n:Nat}{a b c:List Tr}(h:Small (n+1) (a++b++c)):Small (n+1) b:=by
 obtain ⟨h1,h2,h3⟩:=h;rw[ym,ym]at h2
 simp only[List.length_append]at h1 h2
 exact ⟨by omega,by omega,fun t ht=>h3 t (by simp[ht])⟩
theorem Small.drop {n k:Nat}{ts:List Tr}(h:Small (n+1) ts):Small (n+1) (ts.drop k) :=
 Small.sub (a:=ts.take k) (c:=[]) (by simpa using h)
theorem Small.take {n k:Nat}{ts:List Tr}(h:Small (n+1) ts):Small (n+1) (ts.take k) :=
 Small.sub (a:=[]) (c:=ts.drop k) (by simpa using h)
theorem Vv (ts:List Tr):(jt ts).length≤ts.length:=by
 induction ts with
 | nil=>simp[jt]
 | cons t r ih =>
   unfold jt
   split
   · split
     · simp;omega
     · split
       · simp
       · rename_i u r' hj
         rw[hj]at ih
         split<;>simp at*<;> omega
   · simp;omega
theorem qaA (ts:List Tr):(catL (jt ts)).length≤(catL ts).length:=by
 induction ts with
 | nil=>simp[jt]
 | cons t r ih =>
   unfold jt
   split
   · split
     · simp[catL];omega
     · split
       · simp[catL]
       · rename_i u r' hj
         rw[hj]at ih
         split<;>simp[catL,sOf] at*<;> omega
   · simp[catL];omega
theorem JV {n:Nat}{ts:List Tr}(h:Small (n+1) ts):Small (n+1) (jt ts):=by
 obtain ⟨h1,h2,h3⟩:=h;refine ⟨Nat.le_trans (Vv ts) h1,Nat.le_trans (qaA ts) h2,?_⟩;clear h1
 induction ts with
 | nil=>simp[jt]
 | cons t r ih =>
   have hc:(catL (t::r)).length=t.s.data.toList.length+(catL r).length:=by simp[catL]
   have ih':=ih (by omega) (fun x hx=>h3 x (List.mem_cons_of_mem _ hx))
   have ht:=h3 t List.mem_cons_self;intro x hx;unfold jt at hx
   split at hx
   · split at hx
     · exact ih' x hx
     · split at hx
       · simp at hx;subst hx;exact ht
       · rename_i u r' hj
         rw[hj]at ih'
         split at hx
         · rcases List.mem_cons.1 hx with rfl | hx
           · refine ⟨ht.1, ?_, ht.2.2⟩;have hcu:=qaA r;rw[hj]at hcu
             have e:(catL (u::r')).length=u.s.data.toList.length+(catL r').length:=by simp[catL]
             show (t.s.data.toList++u.s.data.toList).toArray.size≤_
             simp only[List.size_toArray,List.length_append];omega
           · exact ih' x (List.mem_cons_of_mem _ hx)
         · rcases List.mem_cons.1 hx with rfl | hx
           · exact ht
           · exact ih' x hx
   · rcases List.mem_cons.1 hx with rfl | hx
     · exact ht
     · exact ih' x hx
end Go.Proofs.YtfdbipeidmpciaaDoor
namespace Go.Proofs.YtfdbipeidmpciaaDoor
open Go.ChangeShapes Go.WideShapes Go.ChangeAt Go.RowKit
set_option maxRecDepth 100000
section
structure Raw (S:Nat→Prop) (n B:Nat) (w:World) (v:Value) (us:List Tr) (qs:List (Bool × ByteArray × Value × Value)):Prop where
 len:qs.length=us.length
 own:w.ownsRow B 25 4 v us.length (quadCells qs)
 each:∀ (i:Nat) (q:Bool × ByteArray × Value × Value) (t:Tr),qs[i]?=some q→us[i]?=some t→q.1=t.text∧q.2.1=t.s∧qe (qG B 69 w) w q.2.2.1 t.attrs∧qb S w n q.2.2.2 t.kids
theorem Raw.nil (S:Nat→Prop)(n B:Nat)(w:World):Raw S n B w (.slice none 0 0) [] [] :=
 ⟨rfl,World.ownsRow_nil _ _ _ _,fun i q t h=>by simp at h⟩
theorem qo {w w':World}{B:Nat}{e:TypeId}{size:Nat}{v:Value}{k:Nat}{xs:List Value}(h:w.ownsRow B e size v k xs)(hb:Below w.heap.size w w'):w'.ownsRow B e size v k xs:=by
 obtain ⟨h1,h2⟩:=h;refine ⟨h1,?_⟩
 rcases h2 with h2|⟨g,cap,cur,hv,hg,hh,r⟩
 · exact Or.inl h2
 · refine Or.inr ⟨g, cap, cur, hv, hg, ?_, r⟩;rw[hb.block g ?_]
   · exact hh
   · rcases Nat.lt_or_ge g w.heap.size with h' | h'
     · exact h'
     · simp[Array.getElem?_eq_none h']at hh
theorem qj {w w':World}{B:Nat}{e:TypeId}{size:Nat}{v:Value}{k:Nat}{xs:List Value}(h:w.ownsRow B e size v k xs)(hb:∀ g,v.ownBlock=some g→w'.heap[g]?=w.heap[g]?):w'.ownsRow B e size v k xs:=by
 obtain ⟨h1,h2⟩:=h;refine ⟨h1,?_⟩
 rcases h2 with h2|⟨g,cap,cur,rfl,hg,hh,r⟩
 · exact Or.inl h2
 · exact Or.inr ⟨g,cap,cur,rfl,hg,by rw[hb g rfl];exact hh,r⟩
theorem qk {w:World}{B:Nat}{e:TypeId}{size:Nat}{v:Value}{k:Nat}{xs:List Value}(h:w.ownsRow B e size v k xs){g:Nat}(hg:v.ownBlock=some g):qG B e w g:=by
 rcases h.2 with ⟨rfl,_⟩|⟨g',cap,cur,rfl,hb,hh,_⟩
 · cases hg
 · cases hg;exact ⟨hb,_,_,hh⟩
theorem qe.own_later {w w':World}{B:Nat}{e:TypeId}{v:Value}{l:List (ByteArray × ByteArray)}(h:qe (qG B e w) w v l)(hb:Below w.heap.size w w'):qe (qG B e w') w' v l :=
 h.carry fun b hs=>⟨hs.to (nR9 _) (hb.block b hs.lt),hb.block b hs.lt⟩
theorem Raw.later {S:Nat→Prop}{n B:Nat}{w w':World}{v:Value}{us:List Tr}{qs:List (Bool × ByteArray × Value × Value)}(h:Raw S n B w v us qs)(hb:Below w.heap.size w w'):Raw S n B w' v us qs :=
 ⟨h.len,qo h.own hb,fun i q t hq ht=>by
  obtain ⟨a,b,c,d⟩:=h.each i q t hq ht;exact ⟨a,b,c.own_later hb,qb.later hb n d⟩⟩
theorem qp {w:World}{B:Nat}{e e':TypeId}{size:Nat}{v:Value}{k:Nat}{xs:List Value}{b B':Nat}(h:w.ownsRow B e size v k xs)(hs:qG B' e' w b)(hne:e'≠e):some b≠v.ownBlock:=by
 rcases h.2 with ⟨rfl,_⟩|⟨g,cap,cur,rfl,_,hg,_⟩
 · simp[Value.ownBlock]
 · intro hb;simp only[Value.ownBlock,Option.some.injEq]at hb
   subst hb;obtain ⟨_,c,fz,hc⟩:=hs;rw[hg]at hc
   simp only[Option.some.injEq,Obj.cells.injEq]at hc
   exact hne hc.2.1.symm
theorem Raw.snoc {S:Nat→Prop}{n B:Nat}{w w':World}{v v':Value}{us:List Tr}{qs:List (Bool × ByteArray × Value × Value)}{t:Tr}{q:Bool × ByteArray × Value × Value}
 (h:Raw S n B w v us qs) (hS:∀ b,S b→b<B∧b<w.heap.size) (hown:w'.ownsRow B 25 4 v' (us.length+1) (quadCells qs++[.bool q.1,.string q.2.1,q.2.2.1,q.2.2.2]))
 (hg:w.grownBy w' v.ownBlock) (h1:q.1=t.text) (h2:q.2.1=t.s) (ha:qe (qG B 69 w) w q.2.2.1 t.attrs) (hk:qb S w n q.2.2.2 t.kids):Raw S n B w' v' (us++[t]) (qs++[q]):=by
 have carryA:∀ {x l},qe (qG B 69 w) w x l→qe (qG B 69 w') w' x l:=fun hx =>
  hx.carry fun b hs=>by
   have e:=hg.block b hs.lt (qp h.own hs (by decide))
   exact ⟨hs.to (nR9 _) e,e⟩
 have carryT:∀ {x l},qb S w n x l→qb S w' n x l:=fun hx =>
  qb.carry (fun b hs=>⟨hs,hg.block b (hS b hs).2 (fun e=>by have:=h.own.lt b e.symm;have:=(hS b hs).1;omega)⟩) n hx
 refine ⟨by simp[h.len],?_,?_⟩
 · rw[yf,List.length_append];exact hown
 · intro i q' t' hq ht
   rcases Nat.lt_or_ge i us.length with hi|hi
   · rw[List.getElem?_append_left (by rw[h.len];exact hi)]at hq
     rw[List.getElem?_append_left hi]at ht
     obtain ⟨a,b,c,d⟩:=h.each i q' t' hq ht;exact ⟨a,b,carryA c,carryT d⟩
   · rw[List.getElem?_append_right (by rw[h.len];exact hi)]at hq
     rw[List.getElem?_append_right hi]at ht
     rw[h.len]at hq
     have hz:i-us.length=0:=by
      rcases Nat.eq_zero_or_pos (i-us.length) with h'|h'
      · exact h'
      · rw[List.getElem?_eq_none (by simp;omega)]at ht;cases ht
     rw[hz]at hq ht
     simp at hq ht
     subst hq ht;exact ⟨h1,h2,carryA ha,carryT hk⟩
theorem treeInfo:(Tryd.prog.info? 25).map (fun i=>(i.zero,i.size,i.bytes))=some (some (.agg #[.bool false,.string ⟨#[]⟩,.slice none 0 0,.slice none 0 0]),4,72):=by kernel_rfl
theorem Raw.shape {S:Nat→Prop}{n B:Nat}{w:World}{v:Value}{us:List Tr}{qs:List (Bool × ByteArray × Value × Value)}(h:Raw S n B w v us qs):∃ a c,v=.slice a us.length c:=by
 rcases h.own.2 with ⟨hv,h0⟩|⟨g,cap,cur,hv,_⟩
 · exact ⟨none,0,by rw[hv,h0]⟩
 · exact ⟨_,_,hv⟩
theorem qb.drop {S:Nat→Prop}{w:World}{n:Nat}{b o len cap:Nat}{ts:List Tr}(h:qb S w (n+1) (.slice (some ⟨b,o,none⟩) len cap) ts)(k:Nat)(hk:k≤ts.length)(hs:S b)  :
 qb S w (n+1) (.slice (some ⟨b,o+k*4,none⟩) (len-k) (cap-k)) (ts.drop k):=by
 obtain ⟨a,c,h1,h2,h3,h4⟩:=h;cases h1;refine ⟨_,_,by rw[List.length_drop],by rw[List.length_drop];omega,by omega,fun hne=>⟨b,o+k*4,rfl,hs,fun i t ht=>?_⟩⟩
 have hne':ts≠[]:=by intro e;subst e;simp at hne
 obtain ⟨b',o',ha,_,hc⟩:=h4 hne';cases ha;rw[List.getElem?_drop]at ht
 have:=hc (k+i) t ht;rw[Nat.add_mul,←Nat.add_assoc]at this
 exact this
theorem qb.take {S:Nat→Prop}{w:World}{n:Nat}{b o len cap:Nat}{ts:List Tr}(h:qb S w (n+1) (.slice (some ⟨b,o,none⟩) len cap) ts)(k:Nat)(hk:k≤ts.length) :
 qb S w (n+1) (.slice (some ⟨b,o,none⟩) k cap) (ts.take k):=by
 obtain ⟨a,c,h1,h2,h3,h4⟩:=h;cases h1;refine ⟨_,_,by rw[List.length_take,Nat.min_eq_left hk],by rw[List.length_take];omega,h3,fun hne=>?_⟩
 have hne':ts≠[]:=by intro e;subst e;simp at hne
 obtain ⟨b',o',ha,hs,hc⟩:=h4 hne';cases ha;refine ⟨b,o,rfl,hs,fun i t ht=>hc i t ?_⟩
 rw[List.getElem?_take]at ht
 split at ht
 · exact ht
 · cases ht
theorem yL (w:World)(a b c d:Value)(e:TypeId):∀ (j:Nat)(u:Value),([a,b,c,d]:List Value)[j]?=some u→(w.alloc (.cells #[a,b,c,d] e)).cell? ((⟨w.heap.size,0,none⟩:Addr).add j)=some u:=by
 intro j u hj
 match j,hj with
 | 0,hj|1,hj|2,hj|3,hj=>simp at hj;subst hj;simp[Addr.add]
theorem qaO {s:ByteArray}(h:s≠⟨#[]⟩):s.toList.isEmpty=false:=by
 rw[ByteArray.toList_eq];cases hl:s.data.toList with
 | nil=>exact absurd (by cases s;simp at hl;subst hl;rfl) h
 | cons _ _=>rfl
attribute [local go_sem] qf
theorem xu (S:Nat→Prop)(n:Nat)(v:Value)(ts:List Tr)(w:World)(h:qb S w (n+1) v ts)(hsm:Small (n+1) ts)(hS:∀ b,S b→b<w.heap.size) :
 Calls Tryd.prog 94 #[v] w fun e w'=>∃ v' qs,e=.returned v'∧Raw S n w.heap.size w' v' (jt ts) qs∧Below w.heap.size w w':=by
 obtain ⟨i0,hi,hz0,hz1,hz2⟩:=info_parts treeInfo;have hlen:=hsm.1;obtain ⟨a,cap,rfl,_,_⟩:=qb.shape (n+1) h
 go_enter Tryd.func94,Tryd.ntmps94
 go_wp2_with fail
 go_loopg [0,3] (ts.length) (fun g l j wr=>∃ rest us qs,rest.length=g∧qb S w (n+1) l rest∧Small (n+1) rest∧Raw S n w.heap.size wr j us qs∧Below w.heap.size w wr∧jt ts=us++jt rest∧us.length+rest.length≤ts.length)
 case atStart => exact ⟨ts,[],[],rfl,h,hsm,Raw.nil _ _ _ _,Below.refl _ _,rfl,by simp⟩
 case round =>
  obtain ⟨rest,us,qs,hgk,hT,hsmr,hraw,hB,hjt,hcount⟩:=hrel;subst hgk;have HJ:Hid (jt ts=us++jt rest):=hjt;clear hjt;obtain ⟨ja,jc,rfl⟩:=hraw.shape;obtain ⟨la,lc,rfl,hlc,hlm⟩:=qb.shape (n+1) hT;unfold maxLen at hlm
  cases rest with
  | nil =>
    simp only[List.length_nil];go_wp2_with fail;go_ret;refine ⟨_,qs,rfl,?_,hB⟩;have:=HJ.out;rw[show jt []=[] from rfl,List.append_nil]at this
    rw[this];exact hraw
  | cons t r =>
    have hT0:=hT;obtain ⟨_,_,hv,_,_,h4⟩:=hT;cases hv;obtain ⟨b,o,rfl,hs,hcc⟩:=h4 (by simp)
    obtain ⟨va,vk,c0,c1,c2,c3,hat,hkt⟩:=hcc 0 t rfl;obtain ⟨aa,ac,rfl⟩:=hat.shape;obtain ⟨ka,kc,rfl,_,_⟩:=qb.shape n hkt;simp only[Nat.zero_mul,Nat.add_zero]at c0 c1 c2 c3
    have hbl:b<w.heap.size:=hS b hs;rw[←hB.cell (p:=⟨b,o,none⟩) hbl]at c0
    rw[←hB.cell (p:=⟨b,o+1,none⟩) hbl]at c1
    rw[←hB.cell (p:=⟨b,o+2,none⟩) hbl]at c2
    rw[←hB.cell (p:=⟨b,o+3,none⟩) hbl]at c3
    have hsz:=hB.size;have hblr:b<wr.heap.size:=by omega
    clear hcc h4
    by_cases htx:t.text=true
    · obtain ⟨N, hN⟩ : ∃ N, ahead (t :: r) = N := ⟨_, rfl⟩;have hN0:0<N:=by rw[←hN];simp[ahead,htx]
      have hN1:N≤r.length+1:=by rw[←hN];exact Js (t::r)
      have hNb:((N:Int)==0)=false:=by simp;omega
      have hNc:N≤lc:=by simp only[List.length_cons]at hlc;omega
      have HN:Hid (ahead (t::r)=N):=hN;have htd:qb S w (n+1) (.slice (some ⟨b,o+N*4,none⟩) (r.length+1-N) (lc-N)) ((t::r).drop N):=qb.drop hT0 N (by simpa using hN1) hs
      have htk:qb S w (n+1) (.slice (some ⟨b,o,none⟩) N lc) ((t::r).take N):=qb.take hT0 N (by simpa using hN1)
      have hsk:Small (n+1) ((t::r).take N):=hsmr.take;obtain ⟨p,hp⟩:∃ p,(t::r).take N=p:=⟨_,rfl⟩;have HP:Hid ((t::r).take N=p):=hp;rw[hp]at htk hsk
      clear hp;go_wp2_with fail;refine (Z5 S n _ (t::r) _ (qb.later hB _ hT0)).mono ?_;rintro e w' ⟨rfl,rfl⟩;rw[hN];clear hN;go_wp2_with fail;refine (J7 S n _ p _ (qb.later hB _ htk) hsk.2.1 (fun x hx=>(hsk.2.2 x hx).1)).mono ?_
      rintro e w1 ⟨fb,fa,fal,fac,fk,fkl,fkc,rfl,hb1,hf1⟩;have HF:Hid (∀ t,firstNE p=some t→fb=t.text∧qe (qG w'.heap.size 69 w1) w1 (.slice fa fal fac) t.attrs∧qb S w' n (.slice fk fkl fkc) t.kids):=hf1;clear hf1;have hraw1:=hraw.later hb1;have hB1:=hB.trans (hb1.mono hsz)
      have hend:∀ us':List Tr,us'=us++q9 p→jt ts=us'++jt ((t::r).drop N):=by
       intro us' hu;rw[hu,HJ.out,qaz (t::r),HN.out,HP.out,List.append_assoc]
      have HE:Hid (∀ us':List Tr,us'=us++q9 p→jt ts=us'++jt ((t::r).drop N)):=hend;clear hend
      by_cases hcat:catL p=[]
      · have HC : Hid (catL p = []) := hcat;rw[hcat];clear hcat;go_wp2_with fail
        all_goals
         go_roundg ((t::r).drop N).length
         case measure => simp;omega
         case rel =>
          refine ⟨(t::r).drop N,us,qs,rfl,?_,hsmr.drop,hraw1.later (Below.alloc1 _ _),hB1.alloc (by have:=hb1.size;omega) _,HE.out us ?_,by simp only[List.length_drop,List.length_cons]at hcount ⊢;omega⟩
          · first
            | exact htd
            | (have hr0 : (t :: r).drop N = [] := List.drop_of_length_le (by simp only[List.length_cons]at hlc ⊢;omega)
               rw[hr0];have e0:r.length+1-N=0:=by simp only[List.length_cons]at hlc;omega
               rw[e0];exact qb.nil _ ⟨_,_,rfl,by omega⟩)
          · unfold q9;rw[(zT p).2 HC.out];simp
      · obtain ⟨x,hx⟩:∃ x,firstNE p=some x:=by
         cases hf:firstNE p with
         | none=>exact absurd ((zT p).1 hf) hcat
         | some x=>exact ⟨x,rfl⟩
        obtain ⟨rfl,ha1,hk1⟩:=HF.out x hx;have HX:Hid (firstNE p=some x):=hx;have hcat':(catL p).toArray≠#[]:=by simpa using hcat
        obtain ⟨cs,hcs⟩:∃ cs:ByteArray,sOf (catL p)=cs:=⟨_,rfl⟩;have hcs':(⟨(catL p).toArray⟩:ByteArray)=cs:=hcs
        have hne0:cs≠⟨#[]⟩:=by
         rw[←hcs'];intro e;injection e with e;exact hcat' e
        have hne:cs.toList.isEmpty=false:=qaO hne0;clear hne0;rw[hcs'];clear hx HF hcat' hcs';have HCS:Hid (sOf (catL p)=cs):=hcs;clear hcs hcat;have hraw1':=hraw1.later (Below.alloc1 w1 (.cells #[.bool x.text,.string cs,.slice fa fal fac,.slice fk fkl fkc] 25));go_wp2_with (at_builtin;refine wpList_append_own _ rfl _ _ 23 rfl w.heap.size 25 i0 _ 4 72 Tryd.underlying23 hi hz0 hz1 hz2 rfl (by decide) _ _ _ rfl (hraw1'.own.alloc _) ⟨w1.heap.size+1,0,none⟩ 1 1 [.bool x.text,.string cs,.slice fa fal fac,.slice fk fkl fkc] rfl ?qc1 ?qc2 ?qc3 ?qc4 ?qc5 ?qc6 ?_)
        case qc1 => rfl
        case qc2 =>
         have:=yL (w1.alloc (.cells #[.bool x.text,.string cs,.slice fa fal fac,.slice fk fkl fkc] 25)) (.bool x.text) (.string cs) (.slice fa fal fac) (.slice fk fkl fkc) 25;rw[World.size_alloc]at this
         exact this
        case qc3 => intro u hu;simp at hu;rcases hu with rfl|rfl|rfl|rfl<;>rfl
        case qc4 => unfold maxLen;simp only[List.length_cons]at hcount;omega
        case qc5 => simp only[List.length_cons]at hcount;omega
        case qc6 => have:=hb1.size;simp;omega
        intro v' w2 hown' hgrow _;have hraw2:=hraw1'.later (Below.alloc1 _ (.cells #[.bool x.text,.string cs,.slice fa fal fac,.slice fk fkl fkc] 25));have hBa:Below w1.heap.size w1 ((w1.alloc (.cells #[.bool x.text,.string cs,.slice fa fal fac,.slice fk fkl fkc] 25)).alloc (.cells #[.bool x.text,.string cs,.slice fa fal fac,.slice fk fkl fkc] 25)):=(Below.alloc1 w1 _).alloc (by simp) _
        have hraw3:=hraw2.snoc (t:={ x with s:=cs }) (q:=(x.text,cs,.slice fa fal fac,.slice fk fkl fkc)) (fun b hb=>⟨hS b hb,by have:=hS b hb;have:=hb1.size;simp;omega⟩) hown' hgrow rfl rfl
         ((ha1.carry (fun b hb=>⟨hb.to hsz rfl,rfl⟩)).own_later hBa) (qb.later (hb1.trans (hBa.mono hb1.size)) n hk1)
        have hB2:Below w.heap.size w w2:=(hB1.trans (hBa.mono (by have:=hb1.size;omega))).grown hgrow (by have:=hb1.size;simp;omega) (fun k hk=>(hraw2.own.lt k hk).1)
        obtain ⟨va',vc',rfl⟩:=hraw3.shape;have hll:(us++[{ x with s:=cs }]).length=us.length+1:=by simp
        rw[hll]at hraw3 ⊢
        clear hown' hll;go_wp2_with fail
        all_goals
         go_roundg ((t::r).drop N).length
         case measure => simp;omega
         case rel =>
          refine ⟨(t::r).drop N,us++[{ x with s:=cs }],_,rfl,?_,hsmr.drop,hraw3,hB2,HE.out _ ?_,by simp only[List.length_drop,List.length_cons,List.length_append,List.length_nil]at hcount ⊢;omega⟩
          · first
            | exact htd
            | (have hr0 : (t :: r).drop N = [] := List.drop_of_length_le (by simp only[List.length_cons]at hlc ⊢;omega)
               rw[hr0];have e0:r.length+1-N=0:=by simp only[List.length_cons]at hlc;omega
               rw[e0];exact qb.nil _ ⟨_,_,rfl,by omega⟩)
          · unfold q9;rw[HX.out,←HCS.out]
    · have hah : ahead (t :: r) = 0 := by simp[ahead, htx]
      have htx':t.text=false:=by simpa using htx
      have htr:qb S w (n+1) (.slice (some ⟨b,o+1*4,none⟩) (r.length+1-1) (lc-1)) r:=qb.drop hT0 1 (by simp) hs
      go_wp2_with fail;refine (Z5 S n _ (t::r) _ (qb.later hB _ hT0)).mono ?_;rintro e w' ⟨rfl,rfl⟩;rw[hah];go_wp2_with fail;refine (Qg S _ _ _ _ _ _ t.attrs _ (hat.later hB) (hsmr.2.2 t List.mem_cons_self).1).mono ?_;rintro e w1 ⟨v1,rfl,ha1,hb1⟩;obtain ⟨a1,ac1,rfl⟩:=ha1.shape;have hraw1:=hraw.later hb1;have hB1:=hB.trans (hb1.mono hsz);go_wp2_with (at_builtin;refine wpList_append_own _ rfl _ _ 23 rfl w.heap.size 25 i0 _ 4 72 Tryd.underlying23 hi hz0 hz1 hz2 rfl (by decide) _ _ _ rfl (hraw1.own.alloc _) ⟨w1.heap.size,0,none⟩ 1 1 [.bool false,.string t.s,.slice a1 t.attrs.length ac1,.slice ka t.kids.length kc] rfl ?qc1 ?qc2 ?qc3 ?qc4 ?qc5 ?qc6 ?_)
      case qc1 => rfl
      case qc2 => exact yL _ _ _ _ _ _
      case qc3 => intro u hu;simp at hu;rcases hu with rfl|rfl|rfl|rfl<;>rfl
      case qc4 => unfold maxLen;simp only[List.length_cons]at hcount;omega
      case qc5 => simp only[List.length_cons]at hcount;omega
      case qc6 => have:=hb1.size;simp;omega
      intro v' w2 hown' hgrow _;have hraw2:Raw S n w.heap.size (w1.alloc (.cells #[.bool false,.string t.s,.slice a1 t.attrs.length ac1,.slice ka t.kids.length kc] 25)) (.slice ja us.length jc) us qs:=hraw1.later (Below.alloc1 _ _)
      have hraw3:=hraw2.snoc (t:=t) (q:=(false,t.s,.slice a1 t.attrs.length ac1,.slice ka t.kids.length kc)) (fun b hb=>⟨hS b hb,by have:=hS b hb;have:=hb1.size;simp;omega⟩) hown' hgrow htx'.symm rfl
       ((ha1.carry (fun b hb=>⟨hb.to hsz rfl,rfl⟩)).own_later (Below.alloc1 _ _)) (qb.later (hB1.alloc (by have:=hb1.size;omega) _) n hkt)
      have hB2:Below w.heap.size w w2:=(hB1.alloc (by have:=hb1.size;omega) _).grown hgrow (by have:=hb1.size;simp;omega) (fun k hk=>(hraw2.own.lt k hk).1)
      obtain ⟨va',vc',rfl⟩:=hraw3.shape;have hll:(us++[t]).length=us.length+1:=by simp
      rw[hll]at hraw3 ⊢
      clear hown' hll;go_wp2_with fail
      all_goals
       go_roundg r.length
       case measure => simp
       case rel =>
        refine ⟨r,us++[t],_,rfl,?_,Small.drop (k:=1) hsmr,hraw3,hB2,?_,by simp only[List.length_append,List.length_cons,List.length_nil]at hcount ⊢;omega⟩
        · first
          | exact htr
          | (have hr0 : r = [] := List.eq_nil_of_length_eq_zero (by simp only[List.length_cons]at hlc;omega)
             subst hr0;exact qb.nil _ ⟨_,_,rfl,nZ9 _⟩)
        · rw[HJ.out,KV t r htx'];simp
end
end Go.Proofs.YtfdbipeidmpciaaDoor
