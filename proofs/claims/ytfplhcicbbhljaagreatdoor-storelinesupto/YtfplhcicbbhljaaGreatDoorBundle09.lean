/- Bundled: One Math JoinT NodeB DocO. What each says stands ahead of it. -/
import Derived.Test.YtfplhcicbbhljaaGreatDoorBundle08
import Derived.Test.YtfplhcicbbhljaaGreatDoorBundle06
import Derived.Test.YtfplhcicbbhljaaGreatDoorBundle02
namespace Go.Proofs.YtfplhcicbbhljaaGreatDoor
open Go.ChangeShapes Go.WideShapes Go.ChangeAt Go.RowKit
set_option maxRecDepth 100000
section
def catL:List Tr→List UInt8
 | []=>[]
 | t::r=>t.s.data.toList++catL r
theorem jH (a b:List Tr):catL (a++b)=catL a++catL b:=by
 induction a with
 | nil=>rfl
 | cons t r ih=>simp[catL,ih]
def firstNE:List Tr→Option Tr
 | []=>none
 | t::r=>if t.s.data.toList=[] then firstNE r else some t
theorem QA (a b:List Tr):firstNE (a++b)=(firstNE a).or (firstNE b):=by
 induction a with
 | nil=>simp[firstNE]
 | cons t r ih =>
   show (if t.s.data.toList=[] then firstNE (r++b) else some t)=(if t.s.data.toList=[] then firstNE r else some t).or (firstNE b)
   split
   · exact ih
   · simp
theorem yZ (a:List Tr):firstNE a=none↔catL a=[]:=by
 induction a with
 | nil=>simp[firstNE,catL]
 | cons t r ih=>unfold firstNE catL;split<;>simp_all
theorem IsBuilder.alloc {T e:TypeId}{B b:Nat}{bs:List Value}{w:World}(h:Lib.IsBuilder T e B b bs w)(o:Obj):Lib.IsBuilder T e B b bs (w.alloc o):=by
 have key:∀ p,Lib.BuilderAt T e B b p bs w→Lib.BuilderAt T e B b p bs (w.alloc o):=by
  intro p h;have hlt:=h.lt;obtain ⟨hB,v,hb,hown,hne⟩:=h;exact ⟨hB,v,by rw[Lib.alloc_old w o b hlt];exact hb,hown.alloc o,hne⟩
 exact h.elim (fun h=>Or.inl (key _ h)) (fun h=>Or.inr (key _ h))
theorem IsBuilder.setCell {T e:TypeId}{B b:Nat}{bs:List Value}{w:World}(h:Lib.IsBuilder T e B b bs w){a:Addr}(ha:a.block<B)(u:Value):Lib.IsBuilder T e B b bs (w.setCell a u):=by
 have key:∀ p,Lib.BuilderAt T e B b p bs w→Lib.BuilderAt T e B b p bs (w.setCell a u):=by
  intro p h;obtain ⟨hB,v,hb,hown,hne⟩:=h;exact ⟨hB,v,by rw[Below.heap_setCell _ _ _ _ (by omega)];exact hb,ownsRow_setCell_below hown ha u,hne⟩
 exact h.elim (fun h=>Or.inl (key _ h)) (fun h=>Or.inr (key _ h))
structure V0 (S:Nat→Prop) (n:Nat) (ts:List Tr) (W:World) (k:Nat) (w:World):Prop where
 below:Below W.heap.size W w
 size:W.heap.size+3≤w.heap.size
 res:w.heap[W.heap.size]?=some (.cells #[.bool false,.string ⟨#[]⟩,.slice none 0 0,.slice none 0 0] 79 (0,0))
 first:∃ fb fs fa fal fac fk fkl fkc,w.heap[W.heap.size+1]?=some (.cells #[.bool fb,.string fs,.slice fa fal fac,.slice fk fkl fkc] 79 (0,0)) ∧
  ∃ l,qm S W (.slice fa fal fac) l∧l.length≤1048576∧(∀ t,firstNE (ts.take k)=some t→fb=t.text∧l=t.attrs∧qb S W n (.slice fk fkl fkc) t.kids)
 build:Lib.IsBuilder 175 5 (W.heap.size+1+1) (W.heap.size+1+1) (Lib.byteCells (catL (ts.take k))) w
theorem qcm (S:Nat→Prop)(n:Nat)(ts:List Tr)(w:World) :
 V0 S n ts w 0 (((w.alloc (.cells #[.bool false,.string ⟨#[]⟩,.slice none 0 0,.slice none 0 0] 79)).alloc (.cells #[.bool false,.string ⟨#[]⟩,.slice none 0 0,.slice none 0 0] 79)).alloc (.cells #[.pointer none,.slice none 0 0] 175)) where
 below:=((Below.alloc1 w _).alloc (by simp) _).alloc (by simp;omega) _
 size:=by simp
 res:=by
  rw[Lib.alloc_old _ _ _ (by simp;omega),Lib.alloc_old _ _ _ (by simp)]
  exact heap_alloc_new w _
 first:=⟨false,⟨#[]⟩,none,0,0,none,0,0,by
  rw[Lib.alloc_old _ _ _ (by simp)]
  have:=heap_alloc_new (w.alloc (.cells #[.bool false,.string ⟨#[]⟩,.slice none 0 0,.slice none 0 0] 79)) (.cells #[.bool false,.string ⟨#[]⟩,.slice none 0 0,.slice none 0 0] 79)
  simpa using this,[],⟨none,0,rfl,nR9 _,nZ9 _,fun hne=>absurd rfl hne⟩,by simp,by intro t h;simp[firstNE]at h⟩
 build:=by
  have:=Lib.fresh_isBuilder 175 5 ((w.alloc (.cells #[.bool false,.string ⟨#[]⟩,.slice none 0 0,.slice none 0 0] 79)).alloc (.cells #[.bool false,.string ⟨#[]⟩,.slice none 0 0,.slice none 0 0] 79))
  simpa[catL,Lib.byteCells] using this
theorem qb2 {w:World}{F:Nat}{a b c d a' b' c' d':Value}{T:TypeId}{fz:Nat × Nat}(h:w.heap[F]?=some (.cells #[a,b,c,d] T fz)) :
 ((((w.setCell ⟨F,0,none⟩ a').setCell ⟨F,1,none⟩ b').setCell ⟨F,2,none⟩ c').setCell ⟨F,3,none⟩ d').heap[F]?=some (.cells #[a',b',c',d'] T fz):=by
 simp[World.setCell,Array.getElem?_modify,h]
theorem Zx {w:World}{F k:Nat}{a' b' c' d':Value}(h:k≠F) :
 ((((w.setCell ⟨F,0,none⟩ a').setCell ⟨F,1,none⟩ b').setCell ⟨F,2,none⟩ c').setCell ⟨F,3,none⟩ d').heap[k]?=w.heap[k]?:=by
 rw[Below.heap_setCell _ _ _ _ h,Below.heap_setCell _ _ _ _ h,Below.heap_setCell _ _ _ _ h,Below.heap_setCell _ _ _ _ h]
theorem Vs {S:Nat→Prop}{n:Nat}{ts:List Tr}{W:World}{k:Nat}{t:Tr}{w0 w1:World}{fb:Bool}{fs:ByteArray}{fa fk:Option Addr}{fal fac fkl fkc:Nat}{l:List (ByteArray × ByteArray)}
 (hsn:ts.take (k+1)=ts.take k++[t])
 (hB:Below W.heap.size W w0) (hsz:W.heap.size+3≤w0.heap.size)
 (hres:w0.heap[W.heap.size]?=some (.cells #[.bool false,.string ⟨#[]⟩,.slice none 0 0,.slice none 0 0] 79 (0,0)))
 (hF:w0.heap[W.heap.size+1]?=some (.cells #[.bool fb,.string fs,.slice fa fal fac,.slice fk fkl fkc] 79 (0,0)))
 (hal:qm S W (.slice fa fal fac) l) (hll:l.length≤1048576)
 (hfirst:∀ u,firstNE (ts.take k++[t])=some u→fb=u.text∧l=u.attrs∧qb S W n (.slice fk fkl fkc) u.kids)
 (hb:Below (W.heap.size+1+1) w0 w1)
 (hbd:Lib.BuilderAt 175 5 (W.heap.size+1+1) (W.heap.size+1+1) (.pointer (some ⟨W.heap.size+1+1,0,none⟩)) (Lib.byteCells (catL (ts.take k))++Lib.strCells t.s) w1) :
 V0 S n ts W (k+1) w1 where
 below:=hB.trans (hb.mono (by omega))
 size:=Nat.le_trans hsz hb.size
 res:=by rw[hb.block _ (by omega)];exact hres
 first:=⟨fb,fs,fa,fal,fac,fk,fkl,fkc,by rw[hb.block _ (by omega)];exact hF,l,hal,hll,by rw[hsn];exact hfirst⟩
 build:=Or.inr (by
  rw[hsn,jH,Lib.byteCells_append]
  simpa[catL,Lib.strCells_eq] using hbd)
attribute [local go_sem] qd
theorem Vr (S:Nat→Prop)(n:Nat)(v:Value)(ts:List Tr)(w:World)(h:qb S w (n+1) v ts)(hc:(catL ts).length≤1099511627776)(ha:∀ t∈ts,t.attrs.length≤1048576) :
 Calls Tryz.prog 198 #[v] w fun e w'=>∃ fb fa fal fac fk fkl fkc,e=.returned (.agg #[.bool fb,.string ⟨(catL ts).toArray⟩,.slice fa fal fac,.slice fk fkl fkc])∧Below w.heap.size w w' ∧
  (∀ t,firstNE ts=some t→fb=t.text∧qm (zw w.heap.size 93 w') w' (.slice fa fal fac) t.attrs∧qb S w n (.slice fk fkl fkc) t.kids):=by
 obtain ⟨a,cap,rfl,h2,h3,h4⟩:=h;unfold maxLen at h3
 go_enter Tryz.func198,Tryz.ntmps198
 go_wp2_with fail
 go_loopg [9] (ts.length+1) (fun g i wr=>∃ k:Nat,k≤ts.length∧g=ts.length+1-k∧i=.int .i64 k∧V0 S n ts w k wr)
 case atStart => exact ⟨0,nZ9 _,by omega,rfl,qcm S n ts w⟩
 case round =>
  obtain ⟨k,hk,hg,rfl,inv⟩:=hrel;subst hg;obtain ⟨hB,hsz,hres,⟨fb,fs,fa,fal,fac,fk,fkl,fkc,hF,l,hal,hll,hfirst⟩,hbuild⟩:=inv;have HF:Hid (∀ t,firstNE (ts.take k)=some t→fb=t.text∧l=t.attrs∧qb S w n (.slice fk fkl fkc) t.kids):=hfirst;have HR:Hid (wr.heap[w.heap.size]?=some (.cells #[.bool false,.string ⟨#[]⟩,.slice none 0 0,.slice none 0 0] 79 (0,0))):=hres;have HFF:Hid (wr.heap[w.heap.size+1]?=some (.cells #[.bool fb,.string fs,.slice fa fal fac,.slice fk fkl fkc] 79 (0,0))):=hF;have f0:wr.cell? ⟨w.heap.size+1,0,none⟩=some (.bool fb):=by rw[cH9 hF];rfl
  have f1:wr.cell? ⟨w.heap.size+1,1,none⟩=some (.string fs):=by rw[cH9 hF];rfl
  have f2:wr.cell? ⟨w.heap.size+1,2,none⟩=some (.slice fa fal fac):=by rw[cH9 hF];rfl
  have f3:wr.cell? ⟨w.heap.size+1,3,none⟩=some (.slice fk fkl fkc):=by rw[cH9 hF];rfl
  have z0:∀ j,wr.frozen? ⟨w.heap.size+1,j,none⟩=false:=fH9 hF;clear hfirst hres hF;have hsz1:w.heap.size+1<wr.heap.size:=by omega
  have hsz0:w.heap.size<wr.heap.size:=by omega
  have hsz2:w.heap.size+1+1<wr.heap.size:=by omega
  by_cases hlt:k<ts.length
  · have hne : ts ≠ [] := by intro e;subst e;simp at hlt
    obtain ⟨b,o,rfl,hs,hcc⟩:=h4 hne;obtain ⟨t,ht⟩:∃ t,ts[k]?=some t:=⟨ts[k],by simp[hlt]⟩
    obtain ⟨va,vk,c0,c1,c2,c3,hat,hkt⟩:=hcc k t ht;obtain ⟨aa,ac,rfl⟩:=hat.shape;obtain ⟨ka,kc,rfl,_,_⟩:=qb.shape n hkt;have hbl:b<w.heap.size:=World.block_lt_of_cell? w _ c0;rw[←hB.cell (p:=⟨b,o+k*4,none⟩) hbl]at c0
    rw[←hB.cell (p:=⟨b,o+k*4+1,none⟩) hbl]at c1
    rw[←hB.cell (p:=⟨b,o+k*4+2,none⟩) hbl]at c2
    rw[←hB.cell (p:=⟨b,o+k*4+3,none⟩) hbl]at c3
    have hsn:ts.take (k+1)=ts.take k++[t]:=by
     rw[List.take_succ_eq_append_getElem hlt];congr 2;simpa[hlt] using ht
    have HS:Hid (ts.take (k+1)=ts.take k++[t]):=hsn
    have hcat:(catL (ts.take k)).length+t.s.size≤1099511627776:=by
     have h1:catL ts=catL (ts.take (k+1))++catL (ts.drop (k+1)):=by rw[←jH,List.take_append_drop]
     rw[h1,hsn,jH]at hc
     simp[catL]at hc
     have:t.s.size=t.s.data.size:=rfl;omega
    have HT:Hid (ts[k]?=some t):=ht;clear hsn ht hcc h4
    by_cases hz:catL (ts.take k)=[]
    · have HZ : Hid (catL (ts.take k) = []) := hz;rw[hz]at hbuild
      clear hz;go_wp2_with fail;refine (Kz _ _ _ _ (IsBuilder.alloc hbuild _)).mono ?_;rintro e w' ⟨rfl,rfl⟩;go_wp2_with fail;refine (YH (w.heap.size+1+1) _ [] _ _ (IsBuilder.alloc (IsBuilder.setCell (IsBuilder.setCell (IsBuilder.setCell (IsBuilder.setCell hbuild ?_ _) ?_ _) ?_ _) ?_ _) _) ?_ ?_).mono ?_
      · simp only;omega
      · simp only;omega
      · simp only;omega
      · simp only;omega
      · simp only[List.length_nil];omega
      · simp;omega
      rintro e w1 ⟨rfl,hbd,hb1⟩;go_wp2_with fail
      go_roundg (ts.length+1-(k+1))
      case measure => omega
      case rel =>
       refine ⟨k+1,by omega,rfl,by go_num,Vs (fb:=t.text) (fs:=t.s) (fa:=aa) (fal:=t.attrs.length) (fac:=ac) (fk:=ka) (fkl:=t.kids.length) (fkc:=kc) (l:=t.attrs) HS.out ?_ ?_ ?_ ?_ hat (ha t (List.mem_of_getElem? HT.out)) ?_ hb1 (by rw[HZ.out];exact hbd)⟩
       · repeat' (first | refine Below.alloc ?_ ?_ _ | refine Below.setCell ?_ ?_ _)
         all_goals first|exact hB|(simp only[World.size_setCell];omega)|(simp only;omega)
       · simp;omega
       · rw[Lib.alloc_old _ _ _ (by simp;omega),Zx (by omega)];exact HR.out
       · rw[Lib.alloc_old _ _ _ (by simp;omega)];exact qb2 HFF.out
       · intro u hu;rw[QA,(yZ _).2 HZ.out]at hu
         simp only[Option.none_or,firstNE]at hu
         split at hu
         · cases hu
         · cases hu;exact ⟨rfl,rfl,hkt⟩
    · have hz' : (catL (ts.take k)).length ≠ 0 := by simpa using hz
      have hzb:(((Lib.byteCells (catL (ts.take k))).length:Int)==0)=false:=by
       rw[Lib.byteCells_length];simpa using hz
      clear hz;go_wp2_with fail;refine (Kz _ _ _ _ (IsBuilder.alloc hbuild _)).mono ?_;rintro e w' ⟨rfl,rfl⟩;go_wp2_with fail;refine (YH (w.heap.size+1+1) _ _ _ _ (IsBuilder.alloc hbuild _) ?_ ?_).mono ?_
      · rw[Lib.byteCells_length];omega
      · simp;omega
      rintro e w1 ⟨rfl,hbd,hb1⟩;go_wp2_with fail
      go_roundg (ts.length+1-(k+1))
      case measure => omega
      case rel =>
       refine ⟨k+1,by omega,rfl,by go_num,Vs (fb:=fb) (fs:=fs) (fa:=fa) (fal:=fal) (fac:=fac) (fk:=fk) (fkl:=fkl) (fkc:=fkc) (l:=l) HS.out (hB.alloc (by omega) _) (by simp;omega) ?_ ?_ hal hll ?_ hb1 hbd⟩
       · rw[Lib.alloc_old _ _ _ (by omega)];exact HR.out
       · rw[Lib.alloc_old _ _ _ (by omega)];exact HFF.out
       · intro u hu;rw[QA]at hu
         cases hf:firstNE (ts.take k) with
         | none=>rw[yZ]at hf;rw[hf]at hz';simp at hz'
         | some x=>rw[hf]at hu;simp at hu;subst hu;exact HF.out _ hf
  · have hkk : k = ts.length := by omega
    subst hkk;rw[List.take_length]at hbuild
    have HF':=HF.out;rw[List.take_length]at HF'
    have HF2:Hid (∀ t,firstNE ts=some t→fb=t.text∧l=t.attrs∧qb S w n (.slice fk fkl fkc) t.kids):=HF';clear HF HF' h4;go_wp2_with fail;refine (Qt _ _ _ _ hbuild (by omega)).mono ?_
    rintro e w1 ⟨rfl,hb1⟩;have hF1:w1.heap[w.heap.size+1]?=some (.cells #[.bool fb,.string fs,.slice fa fal fac,.slice fk fkl fkc] 79 (0,0)):=by rw[hb1.block _ (by omega)];exact HFF.out
    have hR1:w1.heap[w.heap.size]?=some (.cells #[.bool false,.string ⟨#[]⟩,.slice none 0 0,.slice none 0 0] 79 (0,0)):=by rw[hb1.block _ (by omega)];exact HR.out
    have g0:w1.cell? ⟨w.heap.size+1,0,none⟩=some (.bool fb):=by rw[cH9 hF1];rfl
    have g1:w1.cell? ⟨w.heap.size+1,1,none⟩=some (.string fs):=by rw[cH9 hF1];rfl
    have g2:w1.cell? ⟨w.heap.size+1,2,none⟩=some (.slice fa fal fac):=by rw[cH9 hF1];rfl
    have g3:w1.cell? ⟨w.heap.size+1,3,none⟩=some (.slice fk fkl fkc):=by rw[cH9 hF1];rfl
    have y0:∀ j,w1.frozen? ⟨w.heap.size+1,j,none⟩=false:=fH9 hF1;have HR1:Hid (w1.heap[w.heap.size]?=some (.cells #[.bool false,.string ⟨#[]⟩,.slice none 0 0,.slice none 0 0] 79 (0,0))):=hR1;have hs1:=hb1.size;clear hF1 hR1;go_wp2_with fail;have hBw:Below w.heap.size w (w1.setCell ⟨w.heap.size+1,1,none⟩ (.string ⟨(catL ts).toArray⟩)):=(hB.trans (hb1.mono (by omega))).setCell (by simp only;omega) _
    refine (ZG S _ _ _ _ _ _ l _ (hal.later hBw) hll).mono ?_;rintro e w2 ⟨v2,rfl,ha2,hb2⟩;obtain ⟨a2,c2,rfl⟩:=ha2.shape;have hs2:=hb2.size;simp only[World.size_setCell]at hs2
    have hR2:w2.heap[w.heap.size]?=some (.cells #[.bool false,.string ⟨#[]⟩,.slice none 0 0,.slice none 0 0] 79 (0,0)):=by
     rw[hb2.block _ (by simp only[World.size_setCell];omega),Below.heap_setCell _ _ _ _ (by simp only;omega)];exact HR1.out
    have r0:w2.cell? ⟨w.heap.size,0,none⟩=some (.bool false):=by rw[cH9 hR2];rfl
    have r1:w2.cell? ⟨w.heap.size,1,none⟩=some (.string ⟨#[]⟩):=by rw[cH9 hR2];rfl
    have r2:w2.cell? ⟨w.heap.size,2,none⟩=some (.slice none 0 0):=by rw[cH9 hR2];rfl
    have r3:w2.cell? ⟨w.heap.size,3,none⟩=some (.slice none 0 0):=by rw[cH9 hR2];rfl
    have x0:∀ j,w2.frozen? ⟨w.heap.size,j,none⟩=false:=fH9 hR2;clear hR2;go_wp2_with fail;refine bodyPost_ret (v:=.agg #[.bool fb,.string ⟨(catL ts).toArray⟩,.slice a2 l.length c2,.slice fk fkl fkc]) (by simp[results,Tryz.results198,go_sem,qd,r0,r1,r2,r3,World.cell?_setCell_other]) rfl ⟨fb,a2,l.length,c2,fk,fkl,fkc,rfl,?_,?_⟩
    · have h0 : Below w.heap.size w w2 := hBw.trans (hb2.mono (by simp only[World.size_setCell];omega))
      repeat' (refine Below.setCell ?_ ?_ _)
      all_goals first|exact h0|(simp only;omega)
    · intro t ht;obtain ⟨e1,e2,e3⟩:=HF2.out t ht;refine ⟨e1,?_,e3⟩;subst e2;refine ha2.carry fun b hb'=>?_
      have hb0:=hb'.1;simp only[World.size_setCell]at hb0
      have e:=Zx (w:=w2) (F:=w.heap.size) (k:=b) (a':=.bool fb) (b':=.string ⟨(catL ts).toArray⟩) (c':=.slice a2 t.attrs.length c2) (d':=.slice fk fkl fkc) (by omega)
      exact ⟨hb'.to (by simp;omega) e,e⟩
end
end Go.Proofs.YtfplhcicbbhljaaGreatDoor
/- Joined lists of trees as plain functions, and what holds of them. No condition. -/
namespace Go.Proofs.YtfplhcicbbhljaaGreatDoor
def sOf (l:List UInt8):ByteArray:=⟨l.toArray⟩
theorem qaW (s:ByteArray):sOf s.data.toList=s:=by cases s;simp[sOf]
def jt:List Tr→List Tr
 | []=>[]
 | t :: r =>
   if t.text then
    if t.s.data.toList=[] then jt r
    else match jt r with
     | []=>[t]
     | u::r'=>if u.text then { t with s:=sOf (t.s.data.toList++u.s.data.toList) }::r' else t::u::r'
   else t::jt r
theorem XW (t:Tr)(r:List Tr)(ht:t.text=true):jt (t::r) =
 if t.s.data.toList=[] then jt r
 else match jt r with
  | []=>[t]
  | u::r'=>if u.text then { t with s:=sOf (t.s.data.toList++u.s.data.toList) }::r' else t::u::r':=by
 show (if t.text then _ else _)=_
 rw[if_pos ht]
def zS (p:List Tr):List Tr :=
 match firstNE p with
 | none=>[]
 | some t=>[{ t with s:=sOf (catL p) }]
theorem KY {p:List Tr}{t:Tr}(h:firstNE p=some t):t∈p:=by
 induction p with
 | nil=>simp[firstNE]at h
 | cons u r ih =>
   unfold firstNE at h
   split at h
   · exact List.mem_cons_of_mem _ (ih h)
   · cases h;exact List.mem_cons_self
theorem qeO {q:List Tr}(hq:∀ u r,q=u::r→u.text=false):∀ u r,jt q=u::r→u.text=false:=by
 intro u r h;cases q with
 | nil=>simp[jt]at h
 | cons x q' =>
   have hx:=hq x q' rfl;unfold jt at h
   simp only[hx]at h
   simp at h
   rw[←h.1];exact hx
theorem qfC (p q:List Tr)(hp:∀ t∈p,t.text=true)(hq:∀ u r,q=u::r→u.text=false):jt (p++q)=zS p++jt q:=by
 induction p with
 | nil=>simp[zS,firstNE]
 | cons t p' ih =>
   have ih':=ih (fun u hu=>hp u (List.mem_cons_of_mem _ hu))
   have ht:t.text=true:=hp t List.mem_cons_self;rw[List.cons_append];rw[XW t _ ht]
   by_cases hs:t.s.data.toList=[]
   · rw[if_pos hs, ih'];have e1:firstNE (t::p')=firstNE p':=by show (if _ then _ else _)=_;rw[if_pos hs]
     have e2:catL (t::p')=catL p':=by show _++_=_;rw[hs];rfl
     unfold zS;rw[e1,e2]
   · rw[if_neg hs, ih'];have e1:firstNE (t::p')=some t:=by show (if _ then _ else _)=_;rw[if_neg hs]
     have e2:catL (t::p')=t.s.data.toList++catL p':=rfl;have e3:zS (t::p')=[{ t with s:=sOf (t.s.data.toList++catL p') }]:=by unfold zS;rw[e1,e2]
     rw[e3];cases hf:firstNE p' with
     | none =>
       have hc:=(yZ p').1 hf;have ej:zS p'=[]:=by unfold zS;rw[hf]
       rw[ej,hc,List.append_nil,qaW];simp only[List.nil_append,List.cons_append];cases hj:jt q with
       | nil=>cases t;rfl
       | cons u r=>simp only[qeO hq u r hj];cases t;simp
     | some x =>
       have hx:x.text=true:=hp x (List.mem_cons_of_mem _ (KY hf));have ej:zS p'=[{ x with s:=sOf (catL p') }]:=by unfold zS;rw[hf]
       rw[ej];simp only[List.cons_append,List.nil_append,hx,if_true];simp[sOf]
theorem qbK (ts:List Tr):(∀ t∈ts.take (ahead ts),t.text=true)∧(∀ u r,ts.drop (ahead ts)=u::r→u.text=false):=by
 induction ts with
 | nil=>simp[ahead]
 | cons t r ih =>
   unfold ahead
   by_cases ht:t.text=true
   · rw[if_pos ht];refine ⟨fun x hx=>?_,fun u q hu=>ih.2 u q (by simpa using hu)⟩
     simp only[List.take_succ_cons,List.mem_cons]at hx
     rcases hx with rfl|hx
     · exact ht
     · exact ih.1 x hx
   · rw[if_neg ht];refine ⟨by simp,fun u q hu=>?_⟩
     simp at hu
     rw[←hu.1];simpa using ht
theorem qdA (ts:List Tr):jt ts=zS (ts.take (ahead ts))++jt (ts.drop (ahead ts)):=by
 have h:=qbK ts;have:=qfC _ _ h.1 h.2;rw[List.take_append_drop]at this
 exact this
theorem XV (t:Tr)(r:List Tr)(h:t.text=false):jt (t::r)=t::jt r:=by
 show (if t.text then _ else _)=_
 rw[h];rfl
def Small:Nat→List Tr→Prop
 | 0,_=>True
 | n+1,ts=>ts.length≤1048576∧(catL ts).length≤1099511627776∧∀ t∈ts,t.attrs.length≤1048576∧t.s.size≤1099511627776∧Small n t.kids
theorem Small.sub {n:Nat}{a b c:List Tr}(h:Small (n+1) (a++b++c)):Small (n+1) b:=by
 obtain ⟨h1,h2,h3⟩:=h;rw[jH,jH]at h2
 simp only[List.length_append]at h1 h2
 exact ⟨by omega,by omega,fun t ht=>h3 t (by simp[ht])⟩
theorem Small.drop {n k:Nat}{ts:List Tr}(h:Small (n+1) ts):Small (n+1) (ts.drop k) :=
 Small.sub (a:=ts.take k) (c:=[]) (by simpa using h)
theorem Small.take {n k:Nat}{ts:List Tr}(h:Small (n+1) ts):Small (n+1) (ts.take k) :=
 Small.sub (a:=[]) (c:=ts.drop k) (by simpa using h)
theorem qb7 (ts:List Tr):(jt ts).length≤ts.length:=by
 induction ts with
 | nil=>simp[jt]
 | cons t r ih =>
   unfold jt
   split
   · split
     · simp;omega
     · split
       · simp
       · rename_i u r' hj
         rw[hj]at ih
         split<;>simp at*<;> omega
   · simp;omega
theorem qdB (ts:List Tr):(catL (jt ts)).length≤(catL ts).length:=by
 induction ts with
 | nil=>simp[jt]
 | cons t r ih =>
   unfold jt
   split
   · split
     · simp[catL];omega
     · split
       · simp[catL]
       · rename_i u r' hj
         rw[hj]at ih
         split<;>simp[catL,sOf] at*<;> omega
   · simp[catL];omega
theorem Vb {n:Nat}{ts:List Tr}(h:Small (n+1) ts):Small (n+1) (jt ts):=by
 obtain ⟨h1,h2,h3⟩:=h;refine ⟨Nat.le_trans (qb7 ts) h1,Nat.le_trans (qdB ts) h2,?_⟩;clear h1
 induction ts with
 | nil=>simp[jt]
 | cons t r ih =>
   have hc:(catL (t::r)).length=t.s.data.toList.length+(catL r).length:=by simp[catL]
   have ih':=ih (by omega) (fun x hx=>h3 x (List.mem_cons_of_mem _ hx))
   have ht:=h3 t List.mem_cons_self;intro x hx;unfold jt at hx
   split at hx
   · split at hx
     · exact ih' x hx
     · split at hx
       · simp at hx;subst hx;exact ht
       · rename_i u r' hj
         rw[hj]at ih'
         split at hx
         · rcases List.mem_cons.1 hx with rfl | hx
           · refine ⟨ht.1, ?_, ht.2.2⟩;have hcu:=qdB r;rw[hj]at hcu
             have e:(catL (u::r')).length=u.s.data.toList.length+(catL r').length:=by simp[catL]
             show (t.s.data.toList++u.s.data.toList).toArray.size≤_
             simp only[List.size_toArray,List.length_append];omega
           · exact ih' x (List.mem_cons_of_mem _ hx)
         · rcases List.mem_cons.1 hx with rfl | hx
           · exact ht
           · exact ih' x hx
   · rcases List.mem_cons.1 hx with rfl | hx
     · exact ht
     · exact ih' x hx
end Go.Proofs.YtfplhcicbbhljaaGreatDoor
namespace Go.Proofs.YtfplhcicbbhljaaGreatDoor
open Go.ChangeShapes Go.WideShapes Go.ChangeAt Go.RowKit
set_option maxRecDepth 100000
section
structure Raw (S:Nat→Prop) (n B:Nat) (w:World) (v:Value) (us:List Tr) (qs:List (Bool × ByteArray × Value × Value)):Prop where
 len:qs.length=us.length
 own:w.ownsRow B 79 4 v us.length (quadCells qs)
 each:∀ (i:Nat) (q:Bool × ByteArray × Value × Value) (t:Tr),qs[i]?=some q→us[i]?=some t→q.1=t.text∧q.2.1=t.s∧qm (zw B 93 w) w q.2.2.1 t.attrs∧qb S w n q.2.2.2 t.kids
theorem Raw.nil (S:Nat→Prop)(n B:Nat)(w:World):Raw S n B w (.slice none 0 0) [] [] :=
 ⟨rfl,World.ownsRow_nil _ _ _ _,fun i q t h=>by simp at h⟩
theorem qq {w w':World}{B:Nat}{e:TypeId}{size:Nat}{v:Value}{k:Nat}{xs:List Value}(h:w.ownsRow B e size v k xs)(hb:Below w.heap.size w w'):w'.ownsRow B e size v k xs:=by
 obtain ⟨h1,h2⟩:=h;refine ⟨h1,?_⟩
 rcases h2 with h2|⟨g,cap,cur,hv,hg,hh,r⟩
 · exact Or.inl h2
 · refine Or.inr ⟨g, cap, cur, hv, hg, ?_, r⟩;rw[hb.block g ?_]
   · exact hh
   · rcases Nat.lt_or_ge g w.heap.size with h' | h'
     · exact h'
     · simp[Array.getElem?_eq_none h']at hh
theorem qn {w w':World}{B:Nat}{e:TypeId}{size:Nat}{v:Value}{k:Nat}{xs:List Value}(h:w.ownsRow B e size v k xs)(hb:∀ g,v.ownBlock=some g→w'.heap[g]?=w.heap[g]?):w'.ownsRow B e size v k xs:=by
 obtain ⟨h1,h2⟩:=h;refine ⟨h1,?_⟩
 rcases h2 with h2|⟨g,cap,cur,rfl,hg,hh,r⟩
 · exact Or.inl h2
 · exact Or.inr ⟨g,cap,cur,rfl,hg,by rw[hb g rfl];exact hh,r⟩
theorem qi {w:World}{B:Nat}{e:TypeId}{size:Nat}{v:Value}{k:Nat}{xs:List Value}(h:w.ownsRow B e size v k xs){g:Nat}(hg:v.ownBlock=some g):zw B e w g:=by
 rcases h.2 with ⟨rfl,_⟩|⟨g',cap,cur,rfl,hb,hh,_⟩
 · cases hg
 · cases hg;exact ⟨hb,_,_,hh⟩
theorem qm.own_later {w w':World}{B:Nat}{e:TypeId}{v:Value}{l:List (ByteArray × ByteArray)}(h:qm (zw B e w) w v l)(hb:Below w.heap.size w w'):qm (zw B e w') w' v l :=
 h.carry fun b hs=>⟨hs.to (nR9 _) (hb.block b hs.lt),hb.block b hs.lt⟩
theorem Raw.later {S:Nat→Prop}{n B:Nat}{w w':World}{v:Value}{us:List Tr}{qs:List (Bool × ByteArray × Value × Value)}(h:Raw S n B w v us qs)(hb:Below w.heap.size w w'):Raw S n B w' v us qs :=
 ⟨h.len,qq h.own hb,fun i q t hq ht=>by
  obtain ⟨a,b,c,d⟩:=h.each i q t hq ht;exact ⟨a,b,c.own_later hb,qb.later hb n d⟩⟩
theorem qv {w:World}{B:Nat}{e e':TypeId}{size:Nat}{v:Value}{k:Nat}{xs:List Value}{b B':Nat}(h:w.ownsRow B e size v k xs)(hs:zw B' e' w b)(hne:e'≠e):some b≠v.ownBlock:=by
 rcases h.2 with ⟨rfl,_⟩|⟨g,cap,cur,rfl,_,hg,_⟩
 · simp[Value.ownBlock]
 · intro hb;simp only[Value.ownBlock,Option.some.injEq]at hb
   subst hb;obtain ⟨_,c,fz,hc⟩:=hs;rw[hg]at hc
   simp only[Option.some.injEq,Obj.cells.injEq]at hc
   exact hne hc.2.1.symm
theorem Raw.snoc {S:Nat→Prop}{n B:Nat}{w w':World}{v v':Value}{us:List Tr}{qs:List (Bool × ByteArray × Value × Value)}{t:Tr}{q:Bool × ByteArray × Value × Value}
 (h:Raw S n B w v us qs) (hS:∀ b,S b→b<B∧b<w.heap.size) (hown:w'.ownsRow B 79 4 v' (us.length+1) (quadCells qs++[.bool q.1,.string q.2.1,q.2.2.1,q.2.2.2]))
 (hg:w.grownBy w' v.ownBlock) (h1:q.1=t.text) (h2:q.2.1=t.s) (ha:qm (zw B 93 w) w q.2.2.1 t.attrs) (hk:qb S w n q.2.2.2 t.kids):Raw S n B w' v' (us++[t]) (qs++[q]):=by
 have carryA:∀ {x l},qm (zw B 93 w) w x l→qm (zw B 93 w') w' x l:=fun hx =>
  hx.carry fun b hs=>by
   have e:=hg.block b hs.lt (qv h.own hs (by decide))
   exact ⟨hs.to (nR9 _) e,e⟩
 have carryT:∀ {x l},qb S w n x l→qb S w' n x l:=fun hx =>
  qb.carry (fun b hs=>⟨hs,hg.block b (hS b hs).2 (fun e=>by have:=h.own.lt b e.symm;have:=(hS b hs).1;omega)⟩) n hx
 refine ⟨by simp[h.len],?_,?_⟩
 · rw[zm,List.length_append];exact hown
 · intro i q' t' hq ht
   rcases Nat.lt_or_ge i us.length with hi|hi
   · rw[List.getElem?_append_left (by rw[h.len];exact hi)]at hq
     rw[List.getElem?_append_left hi]at ht
     obtain ⟨a,b,c,d⟩:=h.each i q' t' hq ht;exact ⟨a,b,carryA c,carryT d⟩
   · rw[List.getElem?_append_right (by rw[h.len];exact hi)]at hq
     rw[List.getElem?_append_right hi]at ht
     rw[h.len]at hq
     have hz:i-us.length=0:=by
      rcases Nat.eq_zero_or_pos (i-us.length) with h'|h'
      · exact h'
      · rw[List.getElem?_eq_none (by simp;omega)]at ht;cases ht
     rw[hz]at hq ht
     simp at hq ht
     subst hq ht;exact ⟨h1,h2,carryA ha,carryT hk⟩
theorem treeInfo:(Tryz.prog.info? 79).map (fun i=>(i.zero,i.size,i.bytes))=some (some (.agg #[.bool false,.string ⟨#[]⟩,.slice none 0 0,.slice none 0 0]),4,72):=by kernel_rfl
theorem Raw.shape {S:Nat→Prop}{n B:Nat}{w:World}{v:Value}{us:List Tr}{qs:List (Bool × ByteArray × Value × Value)}(h:Raw S n B w v us qs):∃ a c,v=.slice a us.length c:=by
 rcases h.own.2 with ⟨hv,h0⟩|⟨g,cap,cur,hv,_⟩
 · exact ⟨none,0,by rw[hv,h0]⟩
 · exact ⟨_,_,hv⟩
theorem qb.drop {S:Nat→Prop}{w:World}{n:Nat}{b o len cap:Nat}{ts:List Tr}(h:qb S w (n+1) (.slice (some ⟨b,o,none⟩) len cap) ts)(k:Nat)(hk:k≤ts.length)(hs:S b)  :
 qb S w (n+1) (.slice (some ⟨b,o+k*4,none⟩) (len-k) (cap-k)) (ts.drop k):=by
 obtain ⟨a,c,h1,h2,h3,h4⟩:=h;cases h1;refine ⟨_,_,by rw[List.length_drop],by rw[List.length_drop];omega,by omega,fun hne=>⟨b,o+k*4,rfl,hs,fun i t ht=>?_⟩⟩
 have hne':ts≠[]:=by intro e;subst e;simp at hne
 obtain ⟨b',o',ha,_,hc⟩:=h4 hne';cases ha;rw[List.getElem?_drop]at ht
 have:=hc (k+i) t ht;rw[Nat.add_mul,←Nat.add_assoc]at this
 exact this
theorem qb.take {S:Nat→Prop}{w:World}{n:Nat}{b o len cap:Nat}{ts:List Tr}(h:qb S w (n+1) (.slice (some ⟨b,o,none⟩) len cap) ts)(k:Nat)(hk:k≤ts.length) :
 qb S w (n+1) (.slice (some ⟨b,o,none⟩) k cap) (ts.take k):=by
 obtain ⟨a,c,h1,h2,h3,h4⟩:=h;cases h1;refine ⟨_,_,by rw[List.length_take,Nat.min_eq_left hk],by rw[List.length_take];omega,h3,fun hne=>?_⟩
 have hne':ts≠[]:=by intro e;subst e;simp at hne
 obtain ⟨b',o',ha,hs,hc⟩:=h4 hne';cases ha;refine ⟨b,o,rfl,hs,fun i t ht=>hc i t ?_⟩
 rw[List.getElem?_take]at ht
 split at ht
 · exact ht
 · cases ht
theorem jI (w:World)(a b c d:Value)(e:TypeId):∀ (j:Nat)(u:Value),([a,b,c,d]:List Value)[j]?=some u→(w.alloc (.cells #[a,b,c,d] e)).cell? ((⟨w.heap.size,0,none⟩:Addr).add j)=some u:=by
 intro j u hj
 match j,hj with
 | 0,hj|1,hj|2,hj|3,hj=>simp at hj;subst hj;simp[Addr.add]
theorem qdO {s:ByteArray}(h:s≠⟨#[]⟩):s.toList.isEmpty=false:=by
 rw[ByteArray.toList_eq];cases hl:s.data.toList with
 | nil=>exact absurd (by cases s;simp at hl;subst hl;rfl) h
 | cons _ _=>rfl
attribute [local go_sem] qd
theorem Q0 (S:Nat→Prop)(n:Nat)(v:Value)(ts:List Tr)(w:World)(h:qb S w (n+1) v ts)(hsm:Small (n+1) ts)(hS:∀ b,S b→b<w.heap.size) :
 Calls Tryz.prog 159 #[v] w fun e w'=>∃ v' qs,e=.returned v'∧Raw S n w.heap.size w' v' (jt ts) qs∧Below w.heap.size w w':=by
 obtain ⟨i0,hi,hz0,hz1,hz2⟩:=info_parts treeInfo;have hlen:=hsm.1;obtain ⟨a,cap,rfl,_,_⟩:=qb.shape (n+1) h
 go_enter Tryz.func159,Tryz.ntmps159
 go_wp2_with fail
 go_loopg [0,3] (ts.length) (fun g l j wr=>∃ rest us qs,rest.length=g∧qb S w (n+1) l rest∧Small (n+1) rest∧Raw S n w.heap.size wr j us qs∧Below w.heap.size w wr∧jt ts=us++jt rest∧us.length+rest.length≤ts.length)
 case atStart => exact ⟨ts,[],[],rfl,h,hsm,Raw.nil _ _ _ _,Below.refl _ _,rfl,by simp⟩
 case round =>
  obtain ⟨rest,us,qs,hgk,hT,hsmr,hraw,hB,hjt,hcount⟩:=hrel;subst hgk;have HJ:Hid (jt ts=us++jt rest):=hjt;clear hjt;obtain ⟨ja,jc,rfl⟩:=hraw.shape;obtain ⟨la,lc,rfl,hlc,hlm⟩:=qb.shape (n+1) hT;unfold maxLen at hlm
  cases rest with
  | nil =>
    simp only[List.length_nil];go_wp2_with fail;go_ret;refine ⟨_,qs,rfl,?_,hB⟩;have:=HJ.out;rw[show jt []=[] from rfl,List.append_nil]at this
    rw[this];exact hraw
  | cons t r =>
    have hT0:=hT;obtain ⟨_,_,hv,_,_,h4⟩:=hT;cases hv;obtain ⟨b,o,rfl,hs,hcc⟩:=h4 (by simp)
    obtain ⟨va,vk,c0,c1,c2,c3,hat,hkt⟩:=hcc 0 t rfl;obtain ⟨aa,ac,rfl⟩:=hat.shape;obtain ⟨ka,kc,rfl,_,_⟩:=qb.shape n hkt;simp only[Nat.zero_mul,Nat.add_zero]at c0 c1 c2 c3
    have hbl:b<w.heap.size:=hS b hs;rw[←hB.cell (p:=⟨b,o,none⟩) hbl]at c0
    rw[←hB.cell (p:=⟨b,o+1,none⟩) hbl]at c1
    rw[←hB.cell (p:=⟨b,o+2,none⟩) hbl]at c2
    rw[←hB.cell (p:=⟨b,o+3,none⟩) hbl]at c3
    have hsz:=hB.size;have hblr:b<wr.heap.size:=by omega
    clear hcc h4
    by_cases htx:t.text=true
    · obtain ⟨N, hN⟩ : ∃ N, ahead (t :: r) = N := ⟨_, rfl⟩;have hN0:0<N:=by rw[←hN];simp[ahead,htx]
      have hN1:N≤r.length+1:=by rw[←hN];exact Kt (t::r)
      have hNb:((N:Int)==0)=false:=by simp;omega
      have hNc:N≤lc:=by simp only[List.length_cons]at hlc;omega
      have HN:Hid (ahead (t::r)=N):=hN;have htd:qb S w (n+1) (.slice (some ⟨b,o+N*4,none⟩) (r.length+1-N) (lc-N)) ((t::r).drop N):=qb.drop hT0 N (by simpa using hN1) hs
      have htk:qb S w (n+1) (.slice (some ⟨b,o,none⟩) N lc) ((t::r).take N):=qb.take hT0 N (by simpa using hN1)
      have hsk:Small (n+1) ((t::r).take N):=hsmr.take;obtain ⟨p,hp⟩:∃ p,(t::r).take N=p:=⟨_,rfl⟩;have HP:Hid ((t::r).take N=p):=hp;rw[hp]at htk hsk
      clear hp;go_wp2_with fail;refine (J7 S n _ (t::r) _ (qb.later hB _ hT0)).mono ?_;rintro e w' ⟨rfl,rfl⟩;rw[hN];clear hN;go_wp2_with fail;refine (Vr S n _ p _ (qb.later hB _ htk) hsk.2.1 (fun x hx=>(hsk.2.2 x hx).1)).mono ?_
      rintro e w1 ⟨fb,fa,fal,fac,fk,fkl,fkc,rfl,hb1,hf1⟩;have HF:Hid (∀ t,firstNE p=some t→fb=t.text∧qm (zw w'.heap.size 93 w1) w1 (.slice fa fal fac) t.attrs∧qb S w' n (.slice fk fkl fkc) t.kids):=hf1;clear hf1;have hraw1:=hraw.later hb1;have hB1:=hB.trans (hb1.mono hsz)
      have hend:∀ us':List Tr,us'=us++zS p→jt ts=us'++jt ((t::r).drop N):=by
       intro us' hu;rw[hu,HJ.out,qdA (t::r),HN.out,HP.out,List.append_assoc]
      have HE:Hid (∀ us':List Tr,us'=us++zS p→jt ts=us'++jt ((t::r).drop N)):=hend;clear hend
      by_cases hcat:catL p=[]
      · have HC : Hid (catL p = []) := hcat;rw[hcat];clear hcat;go_wp2_with fail
        all_goals
         go_roundg ((t::r).drop N).length
         case measure => simp;omega
         case rel =>
          refine ⟨(t::r).drop N,us,qs,rfl,?_,hsmr.drop,hraw1.later (Below.alloc1 _ _),hB1.alloc (by have:=hb1.size;omega) _,HE.out us ?_,by simp only[List.length_drop,List.length_cons]at hcount ⊢;omega⟩
          · first
            | exact htd
            | (have hr0 : (t :: r).drop N = [] := List.drop_of_length_le (by simp only[List.length_cons]at hlc ⊢;omega)
               rw[hr0];have e0:r.length+1-N=0:=by simp only[List.length_cons]at hlc;omega
               rw[e0];exact qb.nil _ ⟨_,_,rfl,by omega⟩)
          · unfold zS;rw[(yZ p).2 HC.out];simp
      · obtain ⟨x,hx⟩:∃ x,firstNE p=some x:=by
         cases hf:firstNE p with
         | none=>exact absurd ((yZ p).1 hf) hcat
         | some x=>exact ⟨x,rfl⟩
        obtain ⟨rfl,ha1,hk1⟩:=HF.out x hx;have HX:Hid (firstNE p=some x):=hx;have hcat':(catL p).toArray≠#[]:=by simpa using hcat
        obtain ⟨cs,hcs⟩:∃ cs:ByteArray,sOf (catL p)=cs:=⟨_,rfl⟩;have hcs':(⟨(catL p).toArray⟩:ByteArray)=cs:=hcs
        have hne0:cs≠⟨#[]⟩:=by
         rw[←hcs'];intro e;injection e with e;exact hcat' e
        have hne:cs.toList.isEmpty=false:=qdO hne0;clear hne0;rw[hcs'];clear hx HF hcat' hcs';have HCS:Hid (sOf (catL p)=cs):=hcs;clear hcs hcat;have hraw1':=hraw1.later (Below.alloc1 w1 (.cells #[.bool x.text,.string cs,.slice fa fal fac,.slice fk fkl fkc] 79));go_wp2_with (at_builtin;refine wpList_append_own _ rfl _ _ 22 rfl w.heap.size 79 i0 _ 4 72 Tryz.underlying22 hi hz0 hz1 hz2 rfl (by decide) _ _ _ rfl (hraw1'.own.alloc _) ⟨w1.heap.size+1,0,none⟩ 1 1 [.bool x.text,.string cs,.slice fa fal fac,.slice fk fkl fkc] rfl ?qc1 ?qc2 ?qc3 ?qc4 ?qc5 ?qc6 ?_)
        case qc1 => rfl
        case qc2 =>
         have:=jI (w1.alloc (.cells #[.bool x.text,.string cs,.slice fa fal fac,.slice fk fkl fkc] 79)) (.bool x.text) (.string cs) (.slice fa fal fac) (.slice fk fkl fkc) 79;rw[World.size_alloc]at this
         exact this
        case qc3 => intro u hu;simp at hu;rcases hu with rfl|rfl|rfl|rfl<;>rfl
        case qc4 => unfold maxLen;simp only[List.length_cons]at hcount;omega
        case qc5 => simp only[List.length_cons]at hcount;omega
        case qc6 => have:=hb1.size;simp;omega
        intro v' w2 hown' hgrow _;have hraw2:=hraw1'.later (Below.alloc1 _ (.cells #[.bool x.text,.string cs,.slice fa fal fac,.slice fk fkl fkc] 79));have hBa:Below w1.heap.size w1 ((w1.alloc (.cells #[.bool x.text,.string cs,.slice fa fal fac,.slice fk fkl fkc] 79)).alloc (.cells #[.bool x.text,.string cs,.slice fa fal fac,.slice fk fkl fkc] 79)):=(Below.alloc1 w1 _).alloc (by simp) _
        have hraw3:=hraw2.snoc (t:={ x with s:=cs }) (q:=(x.text,cs,.slice fa fal fac,.slice fk fkl fkc)) (fun b hb=>⟨hS b hb,by have:=hS b hb;have:=hb1.size;simp;omega⟩) hown' hgrow rfl rfl
         ((ha1.carry (fun b hb=>⟨hb.to hsz rfl,rfl⟩)).own_later hBa) (qb.later (hb1.trans (hBa.mono hb1.size)) n hk1)
        have hB2:Below w.heap.size w w2:=(hB1.trans (hBa.mono (by have:=hb1.size;omega))).grown hgrow (by have:=hb1.size;simp;omega) (fun k hk=>(hraw2.own.lt k hk).1)
        obtain ⟨va',vc',rfl⟩:=hraw3.shape;have hll:(us++[{ x with s:=cs }]).length=us.length+1:=by simp
        rw[hll]at hraw3 ⊢
        clear hown' hll;go_wp2_with fail
        all_goals
         go_roundg ((t::r).drop N).length
         case measure => simp;omega
         case rel =>
          refine ⟨(t::r).drop N,us++[{ x with s:=cs }],_,rfl,?_,hsmr.drop,hraw3,hB2,HE.out _ ?_,by simp only[List.length_drop,List.length_cons,List.length_append,List.length_nil]at hcount ⊢;omega⟩
          · first
            | exact htd
            | (have hr0 : (t :: r).drop N = [] := List.drop_of_length_le (by simp only[List.length_cons]at hlc ⊢;omega)
               rw[hr0];have e0:r.length+1-N=0:=by simp only[List.length_cons]at hlc;omega
               rw[e0];exact qb.nil _ ⟨_,_,rfl,by omega⟩)
          · unfold zS;rw[HX.out,←HCS.out]
    · have hah : ahead (t :: r) = 0 := by simp[ahead, htx]
      have htx':t.text=false:=by simpa using htx
      have htr:qb S w (n+1) (.slice (some ⟨b,o+1*4,none⟩) (r.length+1-1) (lc-1)) r:=qb.drop hT0 1 (by simp) hs
      go_wp2_with fail;refine (J7 S n _ (t::r) _ (qb.later hB _ hT0)).mono ?_;rintro e w' ⟨rfl,rfl⟩;rw[hah];go_wp2_with fail;refine (ZG S _ _ _ _ _ _ t.attrs _ (hat.later hB) (hsmr.2.2 t List.mem_cons_self).1).mono ?_;rintro e w1 ⟨v1,rfl,ha1,hb1⟩;obtain ⟨a1,ac1,rfl⟩:=ha1.shape;have hraw1:=hraw.later hb1;have hB1:=hB.trans (hb1.mono hsz);go_wp2_with (at_builtin;refine wpList_append_own _ rfl _ _ 22 rfl w.heap.size 79 i0 _ 4 72 Tryz.underlying22 hi hz0 hz1 hz2 rfl (by decide) _ _ _ rfl (hraw1.own.alloc _) ⟨w1.heap.size,0,none⟩ 1 1 [.bool false,.string t.s,.slice a1 t.attrs.length ac1,.slice ka t.kids.length kc] rfl ?qc1 ?qc2 ?qc3 ?qc4 ?qc5 ?qc6 ?_)
      case qc1 => rfl
      case qc2 => exact jI _ _ _ _ _ _
      case qc3 => intro u hu;simp at hu;rcases hu with rfl|rfl|rfl|rfl<;>rfl
      case qc4 => unfold maxLen;simp only[List.length_cons]at hcount;omega
      case qc5 => simp only[List.length_cons]at hcount;omega
      case qc6 => have:=hb1.size;simp;omega
      intro v' w2 hown' hgrow _;have hraw2:Raw S n w.heap.size (w1.alloc (.cells #[.bool false,.string t.s,.slice a1 t.attrs.length ac1,.slice ka t.kids.length kc] 79)) (.slice ja us.length jc) us qs:=hraw1.later (Below.alloc1 _ _)
      have hraw3:=hraw2.snoc (t:=t) (q:=(false,t.s,.slice a1 t.attrs.length ac1,.slice ka t.kids.length kc)) (fun b hb=>⟨hS b hb,by have:=hS b hb;have:=hb1.size;simp;omega⟩) hown' hgrow htx'.symm rfl
       ((ha1.carry (fun b hb=>⟨hb.to hsz rfl,rfl⟩)).own_later (Below.alloc1 _ _)) (qb.later (hB1.alloc (by have:=hb1.size;omega) _) n hkt)
      have hB2:Below w.heap.size w w2:=(hB1.alloc (by have:=hb1.size;omega) _).grown hgrow (by have:=hb1.size;simp;omega) (fun k hk=>(hraw2.own.lt k hk).1)
      obtain ⟨va',vc',rfl⟩:=hraw3.shape;have hll:(us++[t]).length=us.length+1:=by simp
      rw[hll]at hraw3 ⊢
      clear hown' hll;go_wp2_with fail
      all_goals
       go_roundg r.length
       case measure => simp
       case rel =>
        refine ⟨r,us++[t],_,rfl,?_,Small.drop (k:=1) hsmr,hraw3,hB2,?_,by simp only[List.length_append,List.length_cons,List.length_nil]at hcount ⊢;omega⟩
        · first
          | exact htr
          | (have hr0 : r = [] := List.eq_nil_of_length_eq_zero (by simp only[List.length_cons]at hlc;omega)
             subst hr0;exact qb.nil _ ⟨_,_,rfl,nZ9 _⟩)
        · rw[HJ.out,XV t r htx'];simp
end
structure Nd where
 text:Bool
 s:ByteArray
 attrs:List (ByteArray × ByteArray)
 parent:Int
 kids:List Int
def zr (S:Nat→Prop)(w:World)(v:Value)(l:List Int):Prop :=
  ∃ a cap, v = .slice a l.length cap ∧ l.length ≤ cap ∧ cap ≤ maxLen ∧
    (l≠[]→∃ b o,a=some ⟨b,o,none⟩∧S b∧∀ (i:Nat) (x:Int),l[i]?=some x→w.cell? ⟨b,o+i,none⟩=some (.int .i64 x))
def qB (S:Nat→Prop)(w:World)(v:Value)(ns:List Nd):Prop :=
  ∃ a cap, v = .slice a ns.length cap ∧ ns.length ≤ cap ∧ cap ≤ maxLen ∧
    (ns≠[]→∃ b o,a=some ⟨b,o,none⟩∧S b∧∀ (i:Nat) (x:Nd),ns[i]?=some x→∃ va vk,
      w.cell? ⟨b,o+i*5,none⟩=some (.bool x.text)∧w.cell? ⟨b,o+i*5+1,none⟩=some (.string x.s)∧w.cell? ⟨b,o+i*5+2,none⟩=some va ∧
      w.cell? ⟨b,o+i*5+3,none⟩=some (.int .i64 x.parent)∧w.cell? ⟨b,o+i*5+4,none⟩=some vk∧qm S w va x.attrs∧zr S w vk x.kids)
theorem zr.carry {S S':Nat→Prop}{w w':World}{v:Value}{l:List Int}(h:zr S w v l)(hw:∀ b,S b→S' b∧w'.heap[b]?=w.heap[b]?):zr S' w' v l:=by
 obtain ⟨a,cap,h1,h2,h3,h4⟩:=h;refine ⟨a,cap,h1,h2,h3,fun hne=>?_⟩
 obtain ⟨b,o,ha,hs,hc⟩:=h4 hne;refine ⟨b,o,ha,(hw b hs).1,fun i x hx=>?_⟩
 rw[World.cell?_of_block (a:=⟨b,o+i,none⟩) (hw b hs).2];exact hc i x hx
theorem zr.bounded {S:Nat→Prop}{w:World}{v:Value}{l:List Int}(h:zr S w v l):zr (fun b=>S b∧b<w.heap.size) w v l:=by
 obtain ⟨a,cap,h1,h2,h3,h4⟩:=h;refine ⟨a,cap,h1,h2,h3,fun hne=>?_⟩
 obtain ⟨b,o,ha,hs,hc⟩:=h4 hne;refine ⟨b,o,ha,⟨hs,?_⟩,hc⟩;cases l with
 | nil=>exact absurd rfl hne
 | cons x r=>exact World.block_lt_of_cell? w _ (hc 0 x rfl)
theorem zr.later {S:Nat→Prop}{w w':World}{v:Value}{l:List Int}(h:zr S w v l)(hb:Below w.heap.size w w'):zr S w' v l :=
 h.bounded.carry fun b hb'=>⟨hb'.1,hb.block b hb'.2⟩
theorem zr.shape {S:Nat→Prop}{w:World}{v:Value}{l:List Int}(h:zr S w v l):∃ a c,v=.slice a l.length c∧l.length≤c∧c≤maxLen:=by
 obtain ⟨a,cap,h1,h2,h3,_⟩:=h;exact ⟨a,cap,h1,h2,h3⟩
theorem zr.nil {S:Nat→Prop}{w:World}:zr S w (.slice none 0 0) []:=⟨none,0,rfl,Nat.le_refl _,Nat.zero_le _,fun h=>absurd rfl h⟩
theorem qB.carry {S S':Nat→Prop}{w w':World}{v:Value}{l:List Nd}(h:qB S w v l)(hw:∀ b,S b→S' b∧w'.heap[b]?=w.heap[b]?):qB S' w' v l:=by
 obtain ⟨a,cap,h1,h2,h3,h4⟩:=h;refine ⟨a,cap,h1,h2,h3,fun hne=>?_⟩
 obtain ⟨b,o,ha,hs,hc⟩:=h4 hne;refine ⟨b,o,ha,(hw b hs).1,fun i x hx=>?_⟩
 obtain ⟨va,vk,c0,c1,c2,c3,c4,hA,hK⟩:=hc i x hx;refine ⟨va,vk,?_,?_,?_,?_,?_,hA.carry hw,hK.carry hw⟩
 · rw[World.cell?_of_block (a:=⟨b,o+i*5,none⟩) (hw b hs).2];exact c0
 · rw[World.cell?_of_block (a:=⟨b,o+i*5+1,none⟩) (hw b hs).2];exact c1
 · rw[World.cell?_of_block (a:=⟨b,o+i*5+2,none⟩) (hw b hs).2];exact c2
 · rw[World.cell?_of_block (a:=⟨b,o+i*5+3,none⟩) (hw b hs).2];exact c3
 · rw[World.cell?_of_block (a:=⟨b,o+i*5+4,none⟩) (hw b hs).2];exact c4
theorem qB.bounded {S:Nat→Prop}{w:World}{v:Value}{l:List Nd}(h:qB S w v l):qB (fun b=>S b∧b<w.heap.size) w v l:=by
 obtain ⟨a,cap,h1,h2,h3,h4⟩:=h;refine ⟨a,cap,h1,h2,h3,fun hne=>?_⟩
 obtain ⟨b,o,ha,hs,hc⟩:=h4 hne;refine ⟨b,o,ha,⟨hs,?_⟩,fun i x hx=>?_⟩
 · cases l with
   | nil=>exact absurd rfl hne
   | cons x r =>
     obtain ⟨_,_,c0,_⟩:=hc 0 x rfl;exact World.block_lt_of_cell? w _ c0
 · obtain ⟨va, vk, c0, c1, c2, c3, c4, hA, hK⟩ := hc i x hx;exact ⟨va,vk,c0,c1,c2,c3,c4,hA.bounded,hK.bounded⟩
theorem qB.later {S:Nat→Prop}{w w':World}{v:Value}{l:List Nd}(h:qB S w v l)(hb:Below w.heap.size w w'):qB S w' v l :=
 h.bounded.carry fun b hb'=>⟨hb'.1,hb.block b hb'.2⟩
theorem qB.shape {S:Nat→Prop}{w:World}{v:Value}{l:List Nd}(h:qB S w v l):∃ a c,v=.slice a l.length c∧l.length≤c∧c≤maxLen:=by
 obtain ⟨a,cap,h1,h2,h3,_⟩:=h;exact ⟨a,cap,h1,h2,h3⟩
theorem qB.nil {S:Nat→Prop}{w:World}:qB S w (.slice none 0 0) []:=⟨none,0,rfl,Nat.le_refl _,Nat.zero_le _,fun h=>absurd rfl h⟩
theorem qB.at {S:Nat→Prop}{w:World}{v:Value}{ns:List Nd}(h:qB S w v ns){i:Nat}{x:Nd}(hx:ns[i]?=some x):∃ b o cap va vk,v=.slice (some ⟨b,o,none⟩) ns.length cap∧ns.length≤cap∧cap≤maxLen∧S b∧b<w.heap.size ∧
 w.cell? ⟨b,o+i*5,none⟩=some (.bool x.text)∧w.cell? ⟨b,o+i*5+1,none⟩=some (.string x.s)∧w.cell? ⟨b,o+i*5+2,none⟩=some va ∧
 w.cell? ⟨b,o+i*5+3,none⟩=some (.int .i64 x.parent)∧w.cell? ⟨b,o+i*5+4,none⟩=some vk∧qm S w va x.attrs∧zr S w vk x.kids:=by
 obtain ⟨a,cap,h1,h2,h3,h4⟩:=h;have hne:ns≠[]:=by intro e;subst e;simp at hx
 obtain ⟨b,o,rfl,hs,hc⟩:=h4 hne;obtain ⟨va,vk,c0,c1,c2,c3,c4,hA,hK⟩:=hc i x hx;exact ⟨b,o,cap,va,vk,h1,h2,h3,hs,World.block_lt_of_cell? w _ c0,c0,c1,c2,c3,c4,hA,hK⟩
theorem zr.at {S:Nat→Prop}{w:World}{v:Value}{l:List Int}(h:zr S w v l){i:Nat}{x:Int}(hx:l[i]?=some x):∃ b o cap,v=.slice (some ⟨b,o,none⟩) l.length cap∧S b∧b<w.heap.size∧w.cell? ⟨b,o+i,none⟩=some (.int .i64 x):=by
 obtain ⟨a,cap,h1,h2,h3,h4⟩:=h;have hne:l≠[]:=by intro e;subst e;simp at hx
 obtain ⟨b,o,rfl,hs,hc⟩:=h4 hne;exact ⟨b,o,cap,h1,hs,World.block_lt_of_cell? w _ (hc i x hx),hc i x hx⟩
structure CFr (cb:Nat) (w w':World):Prop where
 below:Below 0 w w'
 frame:∀ x,x<w.heap.size→x≠cb→w'.heap[x]?=w.heap[x]?
theorem CFr.refl (cb:Nat)(w:World):CFr cb w w:=⟨Below.refl _ _,fun _ _ _=>rfl⟩
theorem CFr.trans {cb:Nat}{w w1 w2:World}(h:CFr cb w w1)(k:CFr cb w1 w2):CFr cb w w2 :=
 ⟨h.below.trans k.below,fun x hx h1=>by rw[k.frame x (Nat.lt_of_lt_of_le hx h.below.size) h1,h.frame x hx h1]⟩
theorem CFr.later {cb:Nat}{w w':World}(h:Below w.heap.size w w'):CFr cb w w':=⟨h.mono (Nat.zero_le _),fun x hx _=>h.block x hx⟩
theorem CFr.put (cb:Nat)(w:World)(k:Nat)(v:Value):CFr cb w (w.setCell ⟨cb,k,none⟩ v):=⟨(Below.refl 0 w).setCell (Nat.zero_le _) _,fun _ _ h1=>Below.heap_setCell _ _ _ _ h1⟩
def Cnt (cb:Nat)(n:Nat)(w:World):Prop:=w.heap[cb]?=some (.cells #[.int .i64 (n:Int)] 3 (0,0))
theorem Cnt.lt {cb n:Nat}{w:World}(h:Cnt cb n w):cb<w.heap.size:=by
 rcases Nat.lt_or_ge cb w.heap.size with h'|h'
 · exact h'
 · simp[Cnt,Array.getElem?_eq_none h']at h
theorem Cnt.c0 {cb n:Nat}{w:World}(h:Cnt cb n w):w.cell? ⟨cb,0,none⟩=some (.int .i64 (n:Int)):=by rw[Lib.cell_of_heap h];rfl
theorem Cnt.f0 {cb n:Nat}{w:World}(h:Cnt cb n w):w.frozen? ⟨cb,0,none⟩=false:=Lib.frozen_of_heap h 0
theorem Cnt.put {cb n:Nat}{w:World}(h:Cnt cb n w)(m:Nat):Cnt cb m (w.setCell ⟨cb,0,none⟩ (.int .i64 (m:Int))):=by unfold Cnt at h ⊢;simp[World.setCell,Array.getElem?_modify,h]
theorem Cnt.later {cb n:Nat}{w w':World}(h:Cnt cb n w)(hb:Below w.heap.size w w'):Cnt cb n w':=by unfold Cnt;rw[hb.block cb h.lt];exact h
theorem qB.count {S:Nat→Prop}{cb:Nat}{w w':World}{v:Value}{l:List Nd}(h:qB S w v l)(hF:CFr cb w w')(hS:∀ b,S b→b≠cb):qB S w' v l :=
 h.bounded.carry fun b hb=>⟨hb.1,hF.frame b hb.2 (hS b hb.1)⟩
theorem zr.count {S:Nat→Prop}{cb:Nat}{w w':World}{v:Value}{l:List Int}(h:zr S w v l)(hF:CFr cb w w')(hS:∀ b,S b→b≠cb):zr S w' v l :=
 h.bounded.carry fun b hb=>⟨hb.1,hF.frame b hb.2 (hS b hb.1)⟩
section
attribute [local go_sem] qd
theorem ZT (S:Nat→Prop)(v:Value)(ns:List Nd)(n:Int)(w:World)(h:qB S w v ns) :
 Calls Tryz.prog 116 #[v,.int .i64 n] w fun e w'=>e=.returned (.bool (decide (0≤n)&&decide (n<ns.length)))∧w'=w:=by
 obtain ⟨a,cap,rfl,_,_⟩:=h.shape;clear h
 by_cases h0:0≤n
 · by_cases h1 : n < ns.length
   · go_enter Tryz.func116, Tryz.ntmps116
     go_wp2;go_ret;exact ⟨by simp[h0,h1],rfl⟩
   · go_enter Tryz.func116, Tryz.ntmps116
     go_wp2;go_ret;exact ⟨by simp[h1],rfl⟩
 · go_enter Tryz.func116, Tryz.ntmps116
   go_wp2;go_ret;exact ⟨by simp;omega,rfl⟩
def qJ (g:Nat→Bool × Nat):List Int→Nat→Bool × Nat
 | [],nx=>(true,nx)
 | k::ks,nx=>if k=(nx:Int)∧(g nx).1=true then qJ g ks (g nx).2 else (false,if k=(nx:Int) then (g nx).2 else nx)
def ordF:Nat→List Nd→Int→Nat→Bool × Nat
 | 0,_,_,nx=>(false,nx)
 | f + 1, ns, par, nx => match ns[nx]? with
   | none=>(false,nx)
   | some x=>if x.parent=par then qJ (ordF f ns nx) x.kids (nx+1) else (false,nx)
theorem qaH {g:Nat→Bool × Nat}(hg:∀ n,n≤(g n).2):∀ (ks:List Int)(nx:Nat),nx≤(qJ g ks nx).2:=by
 intro ks
 induction ks with
 | nil=>intro nx;exact Nat.le_refl _
 | cons k ks ih =>
   intro nx;unfold qJ
   split
   · exact Nat.le_trans (hg nx) (ih _)
   · simp only
     split
     · exact hg nx
     · exact Nat.le_refl _
theorem ordF_ge:∀ (f:Nat)(ns:List Nd)(par:Int)(nx:Nat),nx≤(ordF f ns par nx).2:=by
 intro f
 induction f with
 | zero=>intro ns par nx;exact Nat.le_refl _
 | succ f ih =>
   intro ns par nx;unfold ordF
   split
   · exact Nat.le_refl _
   · split
     · exact Nat.le_trans (Nat.le_succ _) (qaH (fun n=>ih ns nx n) _ _)
     · exact Nat.le_refl _
def qbj (f:Nat):Prop:=∀ (S:Nat→Prop)(v:Value)(ns:List Nd)(par:Int)(cb nx:Nat)(w:World),qB S w v ns→(∀ b,S b→b≠cb)→Cnt cb nx w→ns.length≤80→ns.length<nx+f →
 Calls Tryz.prog 161 #[v,.int .i64 par,.pointer (some ⟨cb,0,none⟩)] w fun e w'=>e=.returned (.bool (ordF f ns par nx).1)∧Cnt cb (ordF f ns par nx).2 w'∧CFr cb w w'
set_option maxHeartbeats 1000000 in
theorem qdQ (f:Nat)(ih:qbj f):qbj (f+1):=by
 intro S v ns par cb nx w hN hS hC hl hf;have IH:Hid (qbj f):=ih;have HS:Hid (∀ b,S b→b≠cb):=hS;have HN:Hid (qB S w v ns):=hN;have c0:=hC.c0;have f0:=hC.f0;have HC:Hid (Cnt cb nx w):=hC;have HA:Hid _:=ZT S v ns (nx:Int) w hN;have HO:Hid (ordF (f+1) ns par nx=match ns[nx]? with|none=>(false,nx)|some x=>if x.parent=par then qJ (ordF f ns nx) x.kids (nx+1) else (false,nx)):=rfl
 have HF:Hid (ns.length<nx+(f+1)):=hf;clear ih hS hC hf;cases hx:ns[nx]? with
 | none =>
   have hge:ns.length≤nx:=List.getElem?_eq_none_iff.1 hx;have hb:(decide (0≤(nx:Int))&&decide ((nx:Int)<ns.length))=false:=by simp;omega
   rw[hb]at HA
   have HE:Hid (ordF (f+1) ns par nx=(false,nx)):=by show _=_;rw[HO.out,hx]
   obtain ⟨a,cap,rfl,_,_⟩:=hN.shape;clear hN hx HO hb hge
   go_enter Tryz.func161,Tryz.ntmps161
   go_wp2_with fail;refine (Calls.mono HA.out ?_);rintro e w1 ⟨rfl,rfl⟩;go_wp2_with fail;go_ret;exact ⟨by rw[HE.out];rfl,by rw[HE.out];exact HC.out,CFr.refl _ _⟩
 | some x =>
   have hlt:nx<ns.length:=by
    rcases Nat.lt_or_ge nx ns.length with h'|h'
    · exact h'
    · rw[List.getElem?_eq_none h']at hx;cases hx
   have hb:(decide (0≤(nx:Int))&&decide ((nx:Int)<ns.length))=true:=by simp;omega
   rw[hb]at HA
   obtain ⟨b,o,cap,va,vk,rfl,hlc,hcm,hSb,hbw,d0,d1,d2,d3,d4,hAt,hKi⟩:=hN.at hx
   obtain ⟨ka,kc,rfl,hkl,hkm⟩:=hKi.shape;unfold maxLen at hcm hkm
   have hbc:b≠cb:=HS.out b hSb
   by_cases hp:x.parent=par
   · have HE : Hid (ordF (f + 1) ns par nx = qJ (ordF f ns nx) x.kids (nx + 1)) := by show _ = _;rw[HO.out, hx];simp only[hp, if_true]
     have hpn:(x.parent != par)=false:=by simp[hp]
     have HKI:Hid (zr S w (.slice ka x.kids.length kc) x.kids):=hKi;clear hN hx HO hb hp d0 d1 d2 hAt hKi
     go_enter Tryz.func161,Tryz.ntmps161
     go_wp2_with fail;refine (Calls.mono HA.out ?_);rintro e w1 ⟨rfl,rfl⟩;go_wp2_with fail;obtain ⟨G,hG⟩:∃ G,ordF f ns (nx:Int)=G:=⟨_,rfl⟩;have HGE:Hid (∀ n,n≤(G n).2):=by rw[←hG];exact fun n=>ordF_ge f ns _ n
     have HIH:Hid (∀ (m:Nat) (W:World),CFr cb w1 W→Cnt cb m W→nx+1≤m→Calls Tryz.prog 161 #[.slice (some ⟨b,o,none⟩) ns.length cap,.int .i64 (nx:Int),.pointer (some ⟨cb,0,none⟩)] W fun e w'=>e=.returned (.bool (G m).1)∧Cnt cb (G m).2 w'∧CFr cb W w'):=by
      intro m W hW hm hge;rw[←hG];exact IH.out S _ ns (nx:Int) cb m W (HN.out.count hW HS.out) HS.out hm hl (by have:=HF.out;omega)
     rw[hG]at HE
     clear hG IH
     go_loopg [37] x.kids.length (fun g j wr=>∃ (i m:Nat),i+g=x.kids.length∧j=.int .i64 (i:Int)∧Cnt cb m wr∧CFr cb w1 wr∧nx+1≤m∧qJ G x.kids (nx+1)=qJ G (x.kids.drop i) m)
     case atStart =>
      refine ⟨0,nx+1,by omega,rfl,?_,CFr.put _ _ _ _,Nat.le_refl _,rfl⟩
      have:=HC.out.put (nx+1)
      simpa using this
     case round =>
      obtain ⟨i,m,hi,rfl,hCm,hFr,hm,hK⟩:=hrel;have HCm:Hid (Cnt cb m wr):=hCm;have HK:Hid (qJ G x.kids (nx+1)=qJ G (x.kids.drop i) m):=hK;have e0:=hCm.c0;clear hCm hK c0 f0 d3 d4
      by_cases hil:i<x.kids.length
      · obtain ⟨k, hk⟩ : ∃ k, x.kids[i]? = some k := ⟨x.kids[i], by simp[hil]⟩
        obtain ⟨kb,ko,kc2,hkv,hSk,hkb,e1⟩:=(HKI.out.count hFr HS.out).at hk
        injection hkv with hka _ hkc
        subst hka hkc
        have hdr:x.kids.drop i=k::x.kids.drop (i+1):=by
         rw[List.drop_eq_getElem_cons hil];congr 1;simpa[hil] using hk
        have HKD:Hid (qJ G (x.kids.drop i) m=if k=(m:Int)∧(G m).1=true then qJ G (x.kids.drop (i+1)) (G m).2 else (false,if k=(m:Int) then (G m).2 else m)):=by show _=_;rw[hdr];rfl
        have hili:(i:Int)<(x.kids.length:Int):=by omega
        clear hdr hk
        by_cases hkm2:k=(m:Int)
        · have hne : (k != (m : Int)) = false := by simp[hkm2]
          have HCL:Hid _:=HIH.out m wr hFr HCm.out hm;obtain ⟨q,hq⟩:∃ q,(G m).1=q:=⟨_,rfl⟩;rw[hq]at HCL HKD
          clear hq;cases q with
          | true =>
            have HE2:Hid (qJ G (x.kids.drop i) m=qJ G (x.kids.drop (i+1)) (G m).2):=by show _=_;rw[HKD.out,if_pos ⟨hkm2,rfl⟩]
            clear HKD hkm2;go_wp2_with fail;refine (Calls.mono HCL.out ?_);rintro e w3 ⟨rfl,h1,h2⟩;go_wp2_with fail
            go_roundg (x.kids.length-(i+1))
            case measure => omega
            case rel => exact ⟨i+1,(G m).2,by omega,by go_num,h1,hFr.trans h2,Nat.le_trans hm (HGE.out m),by rw[HK.out,HE2.out]⟩
          | false =>
            have HE2:Hid (qJ G (x.kids.drop i) m=(false,(G m).2)):=by show _=_;rw[HKD.out,if_neg (by simp),if_pos hkm2]
            clear HKD hkm2;go_wp2_with fail;refine (Calls.mono HCL.out ?_);rintro e w3 ⟨rfl,h1,h2⟩;go_wp2_with fail;go_ret;exact ⟨by rw[HE.out,HK.out,HE2.out];rfl,by rw[HE.out,HK.out,HE2.out];exact h1,hFr.trans h2⟩
        · have hne : (k != (m : Int)) = true := by simpa using hkm2
          have HE2:Hid (qJ G (x.kids.drop i) m=(false,m)):=by show _=_;rw[HKD.out,if_neg (fun h=>hkm2 h.1),if_neg hkm2]
          clear HKD hkm2 HIH;go_wp2_with fail;go_ret;exact ⟨by rw[HE.out,HK.out,HE2.out];rfl,by rw[HE.out,HK.out,HE2.out];exact HCm.out,hFr⟩
      · have hdr : x.kids.drop i = [] := List.drop_of_length_le (by omega)
        have HE2:Hid (qJ G (x.kids.drop i) m=(true,m)):=by show _=_;rw[hdr];rfl
        have hili:¬ (i:Int)<(x.kids.length:Int):=by omega
        clear hdr HIH;go_wp2_with fail;go_ret;exact ⟨by rw[HE.out,HK.out,HE2.out];rfl,by rw[HE.out,HK.out,HE2.out];exact HCm.out,hFr⟩
   · have HE : Hid (ordF (f + 1) ns par nx = (false, nx)) := by show _ = _;rw[HO.out, hx];simp only[hp, if_false]
     have hpn:(x.parent != par)=true:=by simpa using hp
     clear hN hx HO hb hp d0 d1 d2 hAt hKi
     go_enter Tryz.func161,Tryz.ntmps161
     go_wp2_with fail;refine (Calls.mono HA.out ?_);rintro e w1 ⟨rfl,rfl⟩;go_wp2_with fail;go_ret;exact ⟨by rw[HE.out];rfl,by rw[HE.out];exact HC.out,CFr.refl _ _⟩
theorem qe1 (f:Nat):qbj f:=by
 induction f with
 | zero =>
   intro S v ns par cb nx w hN hS hC hl hf;have HA:Hid _:=ZT S v ns (nx:Int) w hN;have hb:(decide (0≤(nx:Int))&&decide ((nx:Int)<ns.length))=false:=by simp;omega
   rw[hb]at HA
   obtain ⟨a,cap,rfl,_,_⟩:=hN.shape;have c0:=hC.c0;have HC:Hid (Cnt cb nx w):=hC;clear hN hb hS hC
   go_enter Tryz.func161,Tryz.ntmps161
   go_wp2_with fail;refine (Calls.mono HA.out ?_);rintro e w1 ⟨rfl,rfl⟩;go_wp2_with fail;go_ret;exact ⟨rfl,HC.out,CFr.refl _ _⟩
 | succ f ih=>exact qdQ f ih
end
end Go.Proofs.YtfplhcicbbhljaaGreatDoor
