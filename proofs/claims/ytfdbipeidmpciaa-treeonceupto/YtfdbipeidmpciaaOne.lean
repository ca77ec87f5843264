/- tree.oneText: the text that texts beside one another make. Condition: at most 2^20 letters and texts. -/
import Derived.Test.YtfdbipeidmpciaaOwn
import Derived.Test.YtfdbipeidmpciaaBuilder
import Derived.Deep.LoopGhost
namespace Go.Proofs.Ytfdbipeidmpciaa
open Go.ChangeShapes Go.WideShapes Go.ChangeAt Go.RowKit
set_option maxRecDepth 100000
def catL:List Tr→List UInt8
 | []=>[]
 | t::r=>t.s.data.toList++catL r
theorem qx (a b:List Tr):catL (a++b)=catL a++catL b:=by
 induction a with
 | nil=>rfl
 | cons t r ih=>simp[catL,ih]
def firstNE:List Tr→Option Tr
 | []=>none
 | t::r=>if t.s.data.toList=[] then firstNE r else some t
theorem qX (a b:List Tr):firstNE (a++b)=(firstNE a).or (firstNE b):=by
 induction a with
 | nil=>simp[firstNE]
 | cons t r ih =>
   show (if t.s.data.toList=[] then firstNE (r++b) else some t)=(if t.s.data.toList=[] then firstNE r else some t).or (firstNE b)
   split
   · exact ih
   · simp
theorem qI (a:List Tr):firstNE a=none↔catL a=[]:=by
 induction a with
 | nil=>simp[firstNE,catL]
 | cons t r ih=>unfold firstNE catL;split<;>simp_all
theorem IsBuilder.alloc {T e:TypeId}{B b:Nat}{bs:List Value}{w:World}(h:Lib.IsBuilder T e B b bs w)(o:Obj):Lib.IsBuilder T e B b bs (w.alloc o):=by
 have key:∀ p,Lib.BuilderAt T e B b p bs w→Lib.BuilderAt T e B b p bs (w.alloc o):=by
  intro p h;have hlt:=h.lt;obtain ⟨hB,v,hb,hown,hne⟩:=h;exact ⟨hB,v,by rw[Lib.alloc_old w o b hlt];exact hb,hown.alloc o,hne⟩
 exact h.elim (fun h=>Or.inl (key _ h)) (fun h=>Or.inr (key _ h))
theorem IsBuilder.setCell {T e:TypeId}{B b:Nat}{bs:List Value}{w:World}(h:Lib.IsBuilder T e B b bs w){a:Addr}(ha:a.block<B)(u:Value):Lib.IsBuilder T e B b bs (w.setCell a u):=by
 have key:∀ p,Lib.BuilderAt T e B b p bs w→Lib.BuilderAt T e B b p bs (w.setCell a u):=by
  intro p h;obtain ⟨hB,v,hb,hown,hne⟩:=h;exact ⟨hB,v,by rw[Below.heap_setCell _ _ _ _ (by omega)];exact hb,ownsRow_setCell_below hown ha u,hne⟩
 exact h.elim (fun h=>Or.inl (key _ h)) (fun h=>Or.inr (key _ h))
structure jY (S:Nat→Prop) (n:Nat) (ts:List Tr) (W:World) (k:Nat) (w:World):Prop where
 below:Below W.heap.size W w
 size:W.heap.size+3≤w.heap.size
 res:w.heap[W.heap.size]?=some (.cells #[.bool false,.string ⟨#[]⟩,.slice none 0 0,.slice none 0 0] 29 (0,0))
 first:∃ fb fs fa fal fac fk fkl fkc,w.heap[W.heap.size+1]?=some (.cells #[.bool fb,.string fs,.slice fa fal fac,.slice fk fkl fkc] 29 (0,0)) ∧
  ∃ l,qc S W (.slice fa fal fac) l∧l.length≤1048576∧(∀ t,firstNE (ts.take k)=some t→fb=t.text∧l=t.attrs∧qa S W n (.slice fk fkl fkc) t.kids)
 build:Lib.IsBuilder 71 5 (W.heap.size+1+1) (W.heap.size+1+1) (Lib.byteCells (catL (ts.take k))) w
theorem xM (S:Nat→Prop)(n:Nat)(ts:List Tr)(w:World) :
 jY S n ts w 0 (((w.alloc (.cells #[.bool false,.string ⟨#[]⟩,.slice none 0 0,.slice none 0 0] 29)).alloc (.cells #[.bool false,.string ⟨#[]⟩,.slice none 0 0,.slice none 0 0] 29)).alloc (.cells #[.pointer none,.slice none 0 0] 71)) where
 below:=((Below.alloc1 w _).alloc (by simp) _).alloc (by simp;omega) _
 size:=by simp
 res:=by
  rw[Lib.alloc_old _ _ _ (by simp;omega),Lib.alloc_old _ _ _ (by simp)]
  exact heap_alloc_new w _
 first:=⟨false,⟨#[]⟩,none,0,0,none,0,0,by
  rw[Lib.alloc_old _ _ _ (by simp)]
  have:=heap_alloc_new (w.alloc (.cells #[.bool false,.string ⟨#[]⟩,.slice none 0 0,.slice none 0 0] 29)) (.cells #[.bool false,.string ⟨#[]⟩,.slice none 0 0,.slice none 0 0] 29)
  simpa using this,[],⟨none,0,rfl,nR9 _,nZ9 _,fun hne=>absurd rfl hne⟩,by simp,by intro t h;simp[firstNE]at h⟩
 build:=by
  have:=Lib.fresh_isBuilder 71 5 ((w.alloc (.cells #[.bool false,.string ⟨#[]⟩,.slice none 0 0,.slice none 0 0] 29)).alloc (.cells #[.bool false,.string ⟨#[]⟩,.slice none 0 0,.slice none 0 0] 29))
  simpa[catL,Lib.byteCells] using this
theorem xD {w:World}{F:Nat}{a b c d a' b' c' d':Value}{T:TypeId}{fz:Nat × Nat}(h:w.heap[F]?=some (.cells #[a,b,c,d] T fz)) :
 ((((w.setCell ⟨F,0,none⟩ a').setCell ⟨F,1,none⟩ b').setCell ⟨F,2,none⟩ c').setCell ⟨F,3,none⟩ d').heap[F]?=some (.cells #[a',b',c',d'] T fz):=by
 simp[World.setCell,Array.getElem?_modify,h]
theorem zM {w:World}{F k:Nat}{a' b' c' d':Value}(h:k≠F) :
 ((((w.setCell ⟨F,0,none⟩ a').setCell ⟨F,1,none⟩ b').setCell ⟨F,2,none⟩ c').setCell ⟨F,3,none⟩ d').heap[k]?=w.heap[k]?:=by
 rw[Below.heap_setCell _ _ _ _ h,Below.heap_setCell _ _ _ _ h,Below.heap_setCell _ _ _ _ h,Below.heap_setCell _ _ _ _ h]
theorem jQ {S:Nat→Prop}{n:Nat}{ts:List Tr}{W:World}{k:Nat}{t:Tr}{w0 w1:World}{fb:Bool}{fs:ByteArray}{fa fk:Option Addr}{fal fac fkl fkc:Nat}{l:List (ByteArray × ByteArray)}
 (hsn:ts.take (k+1)=ts.take k++[t])
 (hB:Below W.heap.size W w0) (hsz:W.heap.size+3≤w0.heap.size)
 (hres:w0.heap[W.heap.size]?=some (.cells #[.bool false,.string ⟨#[]⟩,.slice none 0 0,.slice none 0 0] 29 (0,0)))
 (hF:w0.heap[W.heap.size+1]?=some (.cells #[.bool fb,.string fs,.slice fa fal fac,.slice fk fkl fkc] 29 (0,0)))
 (hal:qc S W (.slice fa fal fac) l) (hll:l.length≤1048576)
 (hfirst:∀ u,firstNE (ts.take k++[t])=some u→fb=u.text∧l=u.attrs∧qa S W n (.slice fk fkl fkc) u.kids)
 (hb:Below (W.heap.size+1+1) w0 w1)
 (hbd:Lib.BuilderAt 71 5 (W.heap.size+1+1) (W.heap.size+1+1) (.pointer (some ⟨W.heap.size+1+1,0,none⟩)) (Lib.byteCells (catL (ts.take k))++Lib.strCells t.s) w1) :
 jY S n ts W (k+1) w1 where
 below:=hB.trans (hb.mono (by omega))
 size:=Nat.le_trans hsz hb.size
 res:=by rw[hb.block _ (by omega)];exact hres
 first:=⟨fb,fs,fa,fal,fac,fk,fkl,fkc,by rw[hb.block _ (by omega)];exact hF,l,hal,hll,by rw[hsn];exact hfirst⟩
 build:=Or.inr (by
  rw[hsn,qx,Lib.byteCells_append]
  simpa[catL,Lib.strCells_eq] using hbd)
attribute [local go_sem] qe
theorem jP (S:Nat→Prop)(n:Nat)(v:Value)(ts:List Tr)(w:World)(h:qa S w (n+1) v ts)(hc:(catL ts).length≤1099511627776)(ha:∀ t∈ts,t.attrs.length≤1048576) :
 Calls Try.prog 42 #[v] w fun e w'=>∃ fb fa fal fac fk fkl fkc,e=.returned (.agg #[.bool fb,.string ⟨(catL ts).toArray⟩,.slice fa fal fac,.slice fk fkl fkc])∧Below w.heap.size w w' ∧
  (∀ t,firstNE ts=some t→fb=t.text∧qc (qy w.heap.size 65 w') w' (.slice fa fal fac) t.attrs∧qa S w n (.slice fk fkl fkc) t.kids):=by
 obtain ⟨a,cap,rfl,h2,h3,h4⟩:=h;unfold maxLen at h3
 go_enter Try.func42,Try.ntmps42
 go_wp2_with fail
 go_loopg [9] (ts.length+1) (fun g i wr=>∃ k:Nat,k≤ts.length∧g=ts.length+1-k∧i=.int .i64 k∧jY S n ts w k wr)
 case atStart => exact ⟨0,nZ9 _,by omega,rfl,xM S n ts w⟩
 case round =>
  obtain ⟨k,hk,hg,rfl,inv⟩:=hrel;subst hg;obtain ⟨hB,hsz,hres,⟨fb,fs,fa,fal,fac,fk,fkl,fkc,hF,l,hal,hll,hfirst⟩,hbuild⟩:=inv;have HF:Hid (∀ t,firstNE (ts.take k)=some t→fb=t.text∧l=t.attrs∧qa S w n (.slice fk fkl fkc) t.kids):=hfirst;have HR:Hid (wr.heap[w.heap.size]?=some (.cells #[.bool false,.string ⟨#[]⟩,.slice none 0 0,.slice none 0 0] 29 (0,0))):=hres;have HFF:Hid (wr.heap[w.heap.size+1]?=some (.cells #[.bool fb,.string fs,.slice fa fal fac,.slice fk fkl fkc] 29 (0,0))):=hF;have f0:wr.cell? ⟨w.heap.size+1,0,none⟩=some (.bool fb):=by rw[cH9 hF];rfl
  have f1:wr.cell? ⟨w.heap.size+1,1,none⟩=some (.string fs):=by rw[cH9 hF];rfl
  have f2:wr.cell? ⟨w.heap.size+1,2,none⟩=some (.slice fa fal fac):=by rw[cH9 hF];rfl
  have f3:wr.cell? ⟨w.heap.size+1,3,none⟩=some (.slice fk fkl fkc):=by rw[cH9 hF];rfl
  have z0:∀ j,wr.frozen? ⟨w.heap.size+1,j,none⟩=false:=fH9 hF;clear hfirst hres hF;have hsz1:w.heap.size+1<wr.heap.size:=by omega
  have hsz0:w.heap.size<wr.heap.size:=by omega
  have hsz2:w.heap.size+1+1<wr.heap.size:=by omega
  by_cases hlt:k<ts.length
  · have hne : ts ≠ [] := by intro e;subst e;simp at hlt
    obtain ⟨b,o,rfl,hs,hcc⟩:=h4 hne;obtain ⟨t,ht⟩:∃ t,ts[k]?=some t:=⟨ts[k],by simp[hlt]⟩
    obtain ⟨va,vk,c0,c1,c2,c3,hat,hkt⟩:=hcc k t ht;obtain ⟨aa,ac,rfl⟩:=hat.shape;obtain ⟨ka,kc,rfl,_,_⟩:=qa.shape n hkt;have hbl:b<w.heap.size:=World.block_lt_of_cell? w _ c0;rw[←hB.cell (p:=⟨b,o+k*4,none⟩) hbl]at c0
    rw[←hB.cell (p:=⟨b,o+k*4+1,none⟩) hbl]at c1
    rw[←hB.cell (p:=⟨b,o+k*4+2,none⟩) hbl]at c2
    rw[←hB.cell (p:=⟨b,o+k*4+3,none⟩) hbl]at c3
    have hsn:ts.take (k+1)=ts.take k++[t]:=by
     rw[List.take_succ_eq_append_getElem hlt];congr 2;simpa[hlt] using ht
    have HS:Hid (ts.take (k+1)=ts.take k++[t]):=hsn
    have hcat:(catL (ts.take k)).length+t.s.size≤1099511627776:=by
     have h1:catL ts=catL (ts.take (k+1))++catL (ts.drop (k+1)):=by rw[←qx,List.take_append_drop]
     rw[h1,hsn,qx]at hc
     simp[catL]at hc
     have:t.s.size=t.s.data.size:=rfl;omega
    have HT:Hid (ts[k]?=some t):=ht;clear hsn ht hcc h4
    by_cases hz:catL (ts.take k)=[]
    · have HZ : Hid (catL (ts.take k) = []) := hz;rw[hz]at hbuild
      clear hz;go_wp2_with fail;refine (jA _ _ _ _ (IsBuilder.alloc hbuild _)).mono ?_;rintro e w' ⟨rfl,rfl⟩;go_wp2_with fail;refine (zF (w.heap.size+1+1) _ [] _ _ (IsBuilder.alloc (IsBuilder.setCell (IsBuilder.setCell (IsBuilder.setCell (IsBuilder.setCell hbuild ?_ _) ?_ _) ?_ _) ?_ _) _) ?_ ?_).mono ?_
      · simp only;omega
      · simp only;omega
      · simp only;omega
      · simp only;omega
      · simp only[List.length_nil];omega
      · simp;omega
      rintro e w1 ⟨rfl,hbd,hb1⟩;go_wp2_with fail
      go_roundg (ts.length+1-(k+1))
      case measure => omega
      case rel =>
       refine ⟨k+1,by omega,rfl,by go_num,jQ (fb:=t.text) (fs:=t.s) (fa:=aa) (fal:=t.attrs.length) (fac:=ac) (fk:=ka) (fkl:=t.kids.length) (fkc:=kc) (l:=t.attrs) HS.out ?_ ?_ ?_ ?_ hat (ha t (List.mem_of_getElem? HT.out)) ?_ hb1 (by rw[HZ.out];exact hbd)⟩
       · repeat' (first | refine Below.alloc ?_ ?_ _ | refine Below.setCell ?_ ?_ _)
         all_goals first|exact hB|(simp only[World.size_setCell];omega)|(simp only;omega)
       · simp;omega
       · rw[Lib.alloc_old _ _ _ (by simp;omega),zM (by omega)];exact HR.out
       · rw[Lib.alloc_old _ _ _ (by simp;omega)];exact xD HFF.out
       · intro u hu;rw[qX,(qI _).2 HZ.out]at hu
         simp only[Option.none_or,firstNE]at hu
         split at hu
         · cases hu
         · cases hu;exact ⟨rfl,rfl,hkt⟩
    · have hz' : (catL (ts.take k)).length ≠ 0 := by simpa using hz
      have hzb:(((Lib.byteCells (catL (ts.take k))).length:Int)==0)=false:=by
       rw[Lib.byteCells_length];simpa using hz
      clear hz;go_wp2_with fail;refine (jA _ _ _ _ (IsBuilder.alloc hbuild _)).mono ?_;rintro e w' ⟨rfl,rfl⟩;go_wp2_with fail;refine (zF (w.heap.size+1+1) _ _ _ _ (IsBuilder.alloc hbuild _) ?_ ?_).mono ?_
      · rw[Lib.byteCells_length];omega
      · simp;omega
      rintro e w1 ⟨rfl,hbd,hb1⟩;go_wp2_with fail
      go_roundg (ts.length+1-(k+1))
      case measure => omega
      case rel =>
       refine ⟨k+1,by omega,rfl,by go_num,jQ (fb:=fb) (fs:=fs) (fa:=fa) (fal:=fal) (fac:=fac) (fk:=fk) (fkl:=fkl) (fkc:=fkc) (l:=l) HS.out (hB.alloc (by omega) _) (by simp;omega) ?_ ?_ hal hll ?_ hb1 hbd⟩
       · rw[Lib.alloc_old _ _ _ (by omega)];exact HR.out
       · rw[Lib.alloc_old _ _ _ (by omega)];exact HFF.out
       · intro u hu;rw[qX]at hu
         cases hf:firstNE (ts.take k) with
         | none=>rw[qI]at hf;rw[hf]at hz';simp at hz'
         | some x=>rw[hf]at hu;simp at hu;subst hu;exact HF.out _ hf
  · have hkk : k = ts.length := by omega
    subst hkk;rw[List.take_length]at hbuild
    have HF':=HF.out;rw[List.take_length]at HF'
    have HF2:Hid (∀ t,firstNE ts=some t→fb=t.text∧l=t.attrs∧qa S w n (.slice fk fkl fkc) t.kids):=HF';clear HF HF' h4;go_wp2_with fail;refine (zZ _ _ _ _ hbuild (by omega)).mono ?_
    rintro e w1 ⟨rfl,hb1⟩;have hF1:w1.heap[w.heap.size+1]?=some (.cells #[.bool fb,.string fs,.slice fa fal fac,.slice fk fkl fkc] 29 (0,0)):=by rw[hb1.block _ (by omega)];exact HFF.out
    have hR1:w1.heap[w.heap.size]?=some (.cells #[.bool false,.string ⟨#[]⟩,.slice none 0 0,.slice none 0 0] 29 (0,0)):=by rw[hb1.block _ (by omega)];exact HR.out
    have g0:w1.cell? ⟨w.heap.size+1,0,none⟩=some (.bool fb):=by rw[cH9 hF1];rfl
    have g1:w1.cell? ⟨w.heap.size+1,1,none⟩=some (.string fs):=by rw[cH9 hF1];rfl
    have g2:w1.cell? ⟨w.heap.size+1,2,none⟩=some (.slice fa fal fac):=by rw[cH9 hF1];rfl
    have g3:w1.cell? ⟨w.heap.size+1,3,none⟩=some (.slice fk fkl fkc):=by rw[cH9 hF1];rfl
    have y0:∀ j,w1.frozen? ⟨w.heap.size+1,j,none⟩=false:=fH9 hF1;have HR1:Hid (w1.heap[w.heap.size]?=some (.cells #[.bool false,.string ⟨#[]⟩,.slice none 0 0,.slice none 0 0] 29 (0,0))):=hR1;have hs1:=hb1.size;clear hF1 hR1;go_wp2_with fail;have hBw:Below w.heap.size w (w1.setCell ⟨w.heap.size+1,1,none⟩ (.string ⟨(catL ts).toArray⟩)):=(hB.trans (hb1.mono (by omega))).setCell (by simp only;omega) _
    refine (zQ S _ _ _ _ _ _ l _ (hal.later hBw) hll).mono ?_;rintro e w2 ⟨v2,rfl,ha2,hb2⟩;obtain ⟨a2,c2,rfl⟩:=ha2.shape;have hs2:=hb2.size;simp only[World.size_setCell]at hs2
    have hR2:w2.heap[w.heap.size]?=some (.cells #[.bool false,.string ⟨#[]⟩,.slice none 0 0,.slice none 0 0] 29 (0,0)):=by
     rw[hb2.block _ (by simp only[World.size_setCell];omega),Below.heap_setCell _ _ _ _ (by simp only;omega)];exact HR1.out
    have r0:w2.cell? ⟨w.heap.size,0,none⟩=some (.bool false):=by rw[cH9 hR2];rfl
    have r1:w2.cell? ⟨w.heap.size,1,none⟩=some (.string ⟨#[]⟩):=by rw[cH9 hR2];rfl
    have r2:w2.cell? ⟨w.heap.size,2,none⟩=some (.slice none 0 0):=by rw[cH9 hR2];rfl
    have r3:w2.cell? ⟨w.heap.size,3,none⟩=some (.slice none 0 0):=by rw[cH9 hR2];rfl
    have x0:∀ j,w2.frozen? ⟨w.heap.size,j,none⟩=false:=fH9 hR2;clear hR2;go_wp2_with fail;refine bodyPost_ret (v:=.agg #[.bool fb,.string ⟨(catL ts).toArray⟩,.slice a2 l.length c2,.slice fk fkl fkc]) (by simp[results,Try.results42,go_sem,qe,r0,r1,r2,r3,World.cell?_setCell_other]) rfl ⟨fb,a2,l.length,c2,fk,fkl,fkc,rfl,?_,?_⟩
    · have h0 : Below w.heap.size w w2 := hBw.trans (hb2.mono (by simp only[World.size_setCell];omega))
      repeat' (refine Below.setCell ?_ ?_ _)
      all_goals first|exact h0|(simp only;omega)
    · intro t ht;obtain ⟨e1,e2,e3⟩:=HF2.out t ht;refine ⟨e1,?_,e3⟩;subst e2;refine ha2.carry fun b hb'=>?_
      have hb0:=hb'.1;simp only[World.size_setCell]at hb0
      have e:=zM (w:=w2) (F:=w.heap.size) (k:=b) (a':=.bool fb) (b':=.string ⟨(catL ts).toArray⟩) (c':=.slice a2 t.attrs.length c2) (d':=.slice fk fkl fkc) (by omega)
      exact ⟨hb'.to (by simp;omega) e,e⟩
end Go.Proofs.Ytfdbipeidmpciaa
