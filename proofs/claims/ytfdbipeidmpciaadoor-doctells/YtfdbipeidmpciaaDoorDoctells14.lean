/- Bundled: LayM NGrow DocK DocT DocU LayB DocN Fam DocS Lay CountT Count CountS SizeT DocMk DocB MakeM TreeM TreeC DocsK. What each says stands ahead of it. -/
import Derived.Test.YtfdbipeidmpciaaDoorDoctells13
import Derived.Test.YtfdbipeidmpciaaDoorFive10
namespace Go.Proofs.YtfdbipeidmpciaaDoor
open Go.ChangeShapes Go.WideShapes Go.ChangeAt Go.RowKit
set_option maxRecDepth 100000
def qh (d:Nat):Nat→List Tr→List Int
 | _,[]=>[]
 | at',k::ks=>(at':Int)::qh d (at'+cnt (d+1) [k]) ks
def qn (d:Nat)(g:Tr→Int→Nat→List Nd)(par:Nat):Nat→List Tr→List Nd
 | _,[]=>[]
 | at',k::ks=>g k par at'++qn d g par (at'+cnt (d+1) [k]) ks
def layF:Nat→Tr→Int→Nat→List Nd
 | 0,t,par,_=>[⟨t.text,t.s,t.attrs,par,[]⟩]
 | d+1,t,par,at'=>⟨t.text,t.s,t.attrs,par,qh d (at'+1) t.kids⟩::qn d (layF d) at' (at'+1) t.kids
theorem qp (d:Nat)(t:Tr):cnt (d+1) [t]=1+cnt d t.kids:=by simp[cnt]
theorem qQ (d:Nat)(t:Tr)(r:List Tr):cnt (d+1) (t::r)=cnt (d+1) [t]+cnt (d+1) r:=by simp[cnt]
theorem jl (d:Nat)(g:Tr→Int→Nat→List Nd)(par:Nat):∀ (a b:List Tr) (at':Nat),qn d g par at' (a++b)=qn d g par at' a++qn d g par (at'+cnt (d+1) a) b:=by
 intro a
 induction a with
 | nil=>intro b at';simp[qn,cnt]
 | cons k a ih =>
   intro b at'
   rw[List.cons_append,qn,qn,ih,qQ d k a,List.append_assoc,Nat.add_assoc]
theorem yH (d:Nat):∀ (a b:List Tr) (at':Nat),qh d at' (a++b)=qh d at' a++qh d (at'+cnt (d+1) a) b:=by
 intro a
 induction a with
 | nil=>intro b at';simp[qh,cnt]
 | cons k a ih =>
   intro b at'
   rw[List.cons_append,qh,qh,ih,qQ d k a,List.cons_append,Nat.add_assoc]
theorem xv (d:Nat):∀ (a:List Tr) (at':Nat),(qh d at' a).length=a.length:=by
 intro a
 induction a with
 | nil=>intro _;rfl
 | cons k a ih=>intro at';simp[qh,ih]
theorem layF_length:∀ (d:Nat) (t:Tr) (par:Int) (at':Nat),Deep d t.kids→(layF d t par at').length=cnt (d+1) [t]:=by
 intro d
 induction d with
 | zero =>
   intro t par at' h
   have:t.kids=[]:=h;rw[qp,this];rfl
 | succ d ih =>
   intro t par at' h
   rw[layF,List.length_cons,qp]
   have:∀ (ts:List Tr) (a:Nat),Deep (d+1) ts→(qn d (layF d) at' a ts).length=cnt (d+1) ts:=by
    intro ts
    induction ts with
    | nil=>intro _ _;rfl
    | cons k ts ih2 =>
      intro a hd;rw[qn,List.length_append,ih k _ _ (hd k List.mem_cons_self),ih2 _ (fun u hu=>hd u (List.mem_cons_of_mem _ hu)),qQ d k ts]
   rw[this t.kids (at'+1) h]
   omega
structure Rw where
 text:Bool
 s:ByteArray
 va:Value
 par:Int
 vk:Value
def rawCells:List Rw→List Value
 | []=>[]
 | r::l=>.bool r.text::.string r.s::r.va::.int .i64 r.par::r.vk::rawCells l
theorem xu (l:List Rw):(rawCells l).length=l.length*5:=by
 induction l with
 | nil=>rfl
 | cons x r ih=>simp[rawCells,ih];omega
theorem zK (l:List Rw):∀ i r,l[i]?=some r→(rawCells l)[i*5]?=some (.bool r.text)∧(rawCells l)[i*5+1]?=some (.string r.s)∧(rawCells l)[i*5+2]?=some r.va∧(rawCells l)[i*5+3]?=some (.int .i64 r.par)∧(rawCells l)[i*5+4]?=some r.vk:=by
 induction l with
 | nil=>intro i x h;simp at h
 | cons y r ih =>
   intro i x h;cases i with
   | zero=>simp at h;subst h;simp[rawCells]
   | succ i =>
     have:=ih i x (by simpa using h)
     rw[show (i+1)*5=i*5+5 from by omega]
     simpa[rawCells] using this
theorem Zd (l:List Rw):∀ (i:Nat) (r:Rw),i<l.length→rawCells (l.set i r)=(((((rawCells l).set (i*5) (.bool r.text)).set (i*5+1) (.string r.s)).set (i*5+2) r.va).set (i*5+3) (.int .i64 r.par)).set (i*5+4) r.vk:=by
 induction l with
 | nil=>intro i r h;simp at h
 | cons y l ih =>
   intro i r h;cases i with
   | zero=>simp[rawCells]
   | succ i =>
     rw[List.set_cons_succ,rawCells,ih i r (by simpa using h),show (i+1)*5=i*5+5 from by omega,rawCells]
     rfl
theorem jm (l:List Rw):∀ (i:Nat) (r:Rw) (v:Value),l[i]?=some r→rawCells (l.set i { r with vk:=v })=(rawCells l).set (i*5+4) v:=by
 induction l with
 | nil=>intro i r v h;simp at h
 | cons y l ih =>
   intro i r v h;cases i with
   | zero=>simp at h;subst h;simp[rawCells]
   | succ i =>
     rw[List.set_cons_succ,rawCells,ih i r v (by simpa using h),show (i+1)*5=i*5+5 from by omega,rawCells]
     rfl
def Row (nb:Nat)(ms:List Rw)(w:World):Prop:=w.heap[nb]?=some (.cells (rawCells ms).toArray 90 (0,0))
theorem Row.cells {nb:Nat}{ms:List Rw}{w:World}(h:Row nb ms w){i:Nat}{r:Rw}(hr:ms[i]?=some r):w.cell? ⟨nb,i*5,none⟩=some (.bool r.text)∧w.cell? ⟨nb,i*5+1,none⟩=some (.string r.s)∧w.cell? ⟨nb,i*5+2,none⟩=some r.va∧w.cell? ⟨nb,i*5+3,none⟩=some (.int .i64 r.par)∧w.cell? ⟨nb,i*5+4,none⟩=some r.vk:=by
 obtain ⟨g0,g1,g2,g3,g4⟩:=zK ms i r hr;refine ⟨?_,?_,?_,?_,?_⟩<;>rw[cH9 h]<;>simpa
theorem Row.frozen {nb:Nat}{ms:List Rw}{w:World}(h:Row nb ms w)(k:Nat):w.frozen? ⟨nb,k,none⟩=false:=fH9 h k
theorem Row.set1 {nb:Nat}{cs:List Value}{w:World}{e:TypeId}(h:w.heap[nb]?=some (.cells cs.toArray e (0,0)))(k:Nat)(v:Value):(w.setCell ⟨nb,k,none⟩ v).heap[nb]?=some (.cells (cs.set k v).toArray e (0,0)):=by
 simp[World.setCell,Array.getElem?_modify,h]
theorem Row.put {nb:Nat}{ms:List Rw}{w:World}(h:Row nb ms w){i:Nat}(hi:i<ms.length)(r:Rw):Row nb (ms.set i r) (((((w.setCell ⟨nb,i*5,none⟩ (.bool r.text)).setCell ⟨nb,i*5+1,none⟩ (.string r.s)).setCell ⟨nb,i*5+2,none⟩ r.va).setCell ⟨nb,i*5+3,none⟩ (.int .i64 r.par)).setCell ⟨nb,i*5+4,none⟩ r.vk):=by
 unfold Row;rw[Zd ms i r hi];exact Row.set1 (Row.set1 (Row.set1 (Row.set1 (Row.set1 h _ _) _ _) _ _) _ _) _ _
theorem Row.putK {nb:Nat}{ms:List Rw}{w:World}(h:Row nb ms w){i:Nat}{r:Rw}(hr:ms[i]?=some r)(v:Value):Row nb (ms.set i { r with vk:=v }) (w.setCell ⟨nb,i*5+4,none⟩ v):=by
 unfold Row;rw[jm ms i r v hr];exact Row.set1 h _ _
def xC (S:Nat→Prop)(w:World)(r:Rw)(x:Nd):Prop:=r.text=x.text∧r.s=x.s∧r.par=x.parent∧qe S w r.va x.attrs∧qX S w r.vk x.kids
def Laid (S:Nat→Prop)(w:World)(ms:List Rw)(at':Nat)(L:List Nd):Prop:=∀ (i:Nat) (x:Nd),L[i]?=some x→∃ r,ms[at'+i]?=some r∧xC S w r x
theorem xC.carry {S S':Nat→Prop}{w w':World}{r:Rw}{x:Nd}(h:xC S w r x)(hw:∀ b,S b→S' b∧w'.heap[b]?=w.heap[b]?):xC S' w' r x :=
 ⟨h.1,h.2.1,h.2.2.1,h.2.2.2.1.carry hw,h.2.2.2.2.carry hw⟩
theorem xC.bounded {S:Nat→Prop}{w:World}{r:Rw}{x:Nd}(h:xC S w r x):xC (fun b=>S b∧b<w.heap.size) w r x :=
 ⟨h.1,h.2.1,h.2.2.1,h.2.2.2.1.bounded,h.2.2.2.2.bounded⟩
theorem Laid.carry {S S':Nat→Prop}{w w':World}{ms ms':List Rw}{at':Nat}{L:List Nd}(h:Laid S w ms at' L)(hw:∀ b,S b→b<w.heap.size→S' b∧w'.heap[b]?=w.heap[b]?)(hm:∀ i,at'≤i→i<at'+L.length→ms'[i]?=ms[i]?):Laid S' w' ms' at' L:=by
 intro i x hx;obtain ⟨r,hr,hR⟩:=h i x hx
 have hi:i<L.length:=by
  rcases Nat.lt_or_ge i L.length with h'|h'
  · exact h'
  · rw[List.getElem?_eq_none h']at hx;cases hx
 exact ⟨r,by rw[hm _ (by omega) (by omega)];exact hr,hR.bounded.carry fun b hb=>hw b hb.1 hb.2⟩
theorem Laid.append {S:Nat→Prop}{w:World}{ms:List Rw}{at':Nat}{L M:List Nd}(h:Laid S w ms at' L)(k:Laid S w ms (at'+L.length) M):Laid S w ms at' (L++M):=by
 intro i x hx
 rcases Nat.lt_or_ge i L.length with h'|h'
 · rw[List.getElem?_append_left h']at hx;exact h i x hx
 · rw[List.getElem?_append_right h']at hx
   obtain ⟨r,hr,hR⟩:=k (i-L.length) x hx;exact ⟨r,by rw[show at'+i=at'+L.length+(i-L.length) by omega];exact hr,hR⟩
structure LFr (nb cb:Nat) (w w':World):Prop where
 below:Below 0 w w'
 frame:∀ x,x<w.heap.size→x≠nb→x≠cb→w'.heap[x]?=w.heap[x]?
theorem LFr.trans {nb cb:Nat}{w w1 w2:World}(h:LFr nb cb w w1)(k:LFr nb cb w1 w2):LFr nb cb w w2 :=
 ⟨h.below.trans k.below,fun x hx h1 h2=>by rw[k.frame x (Nat.lt_of_lt_of_le hx h.below.size) h1 h2,h.frame x hx h1 h2]⟩
theorem LFr.later {nb cb:Nat}{w w':World}(h:Below w.heap.size w w'):LFr nb cb w w':=⟨h.mono (nZ9 _),fun x hx _ _=>h.block x hx⟩
theorem LFr.putC (nb cb:Nat)(w:World)(k:Nat)(v:Value):LFr nb cb w (w.setCell ⟨cb,k,none⟩ v):=⟨(Below.refl 0 w).setCell (nZ9 _) _,fun _ _ _ h2=>Below.heap_setCell _ _ _ _ h2⟩
def FewN:Nat→List Tr→Prop
 | 0,_=>True
 | n+1,ts=>∀ t∈ts,t.attrs.length≤1048576∧FewN n t.kids
theorem zJ {w:World}{B B':Nat}{e:TypeId}{size:Nat}{v:Value}{n:Nat}{xs:List Value}(h:w.ownsRow B e size v n xs)(hb:B'≤B):w.ownsRow B' e size v n xs:=by
 refine ⟨h.1,?_⟩
 rcases h.2 with h2|⟨g,cap,cur,hv,hg,r⟩
 · exact Or.inl h2
 · exact Or.inr ⟨g,cap,cur,hv,Nat.le_trans hb hg,r⟩
def xd (B:Nat)(w:World)(r:Rw)(x:Nd):Prop:=r.text=x.text∧r.s=x.s∧r.par=x.parent∧qe (qY B 69 w) w r.va x.attrs∧zm B w r.vk x.kids
structure qV (B:Nat) (w:World) (v:Value) (ns:List Nd) (ms:List Rw):Prop where
 len:ms.length=ns.length
 own:w.ownsRow B 90 5 v ns.length (rawCells ms)
 each:∀ (i:Nat) (r:Rw) (x:Nd),ms[i]?=some r→ns[i]?=some x→xd B w r x
 apart:∀ (i j:Nat) (r q:Rw) (b:Nat),i≠j→ms[i]?=some r→ms[j]?=some q→r.vk.ownBlock=some b→q.vk.ownBlock≠some b
theorem qV.nil (B:Nat)(w:World):qV B w (.slice none 0 0) [] [] :=
 ⟨rfl,World.ownsRow_nil _ _ _ _,fun i r x h=>by simp at h,fun i j r q b _ h=>by simp at h⟩
theorem qV.shape {B:Nat}{w:World}{v:Value}{ns:List Nd}{ms:List Rw}(h:qV B w v ns ms):∃ a c,v=.slice a ns.length c∧ns.length≤c∧c≤maxLen:=by
 rcases h.own.2 with ⟨hv,h0⟩|⟨g,cap,cur,hv,_,_,hc,hm,_⟩
 · exact ⟨none,0,by rw[hv,h0],by omega,nZ9 _⟩
 · exact ⟨_,_,hv,hc,hm⟩
theorem xd.keep {B:Nat}{w w':World}{r:Rw}{x:Nd}(h:xd B w r x)(hA:∀ b,qY B 69 w b→w'.heap[b]?=w.heap[b]?)(hI:∀ b,r.vk.ownBlock=some b→w'.heap[b]?=w.heap[b]?):xd B w' r x :=
 ⟨h.1,h.2.1,h.2.2.1,h.2.2.2.1.carry fun b hb=>⟨hb.to (nR9 _) (hA b hb),hA b hb⟩,qo h.2.2.2.2 hI⟩
theorem qV.keep {B:Nat}{w w':World}{v:Value}{ns:List Nd}{ms:List Rw}(h:qV B w v ns ms)(hA:∀ b,qY B 69 w b→w'.heap[b]?=w.heap[b]?)(hI:∀ b,qY B 3 w b→w'.heap[b]?=w.heap[b]?)
 (hN:∀ b,v.ownBlock=some b→w'.heap[b]?=w.heap[b]?):qV B w' v ns ms :=
 ⟨h.len,qo h.own hN,fun i r x hr hx=>(h.each i r x hr hx).keep hA (fun b hb=>hI b (qI (h.each i r x hr hx).2.2.2.2 hb)),h.apart⟩
theorem qV.later {B:Nat}{w w':World}{v:Value}{ns:List Nd}{ms:List Rw}(h:qV B w v ns ms)(hb:Below w.heap.size w w'):qV B w' v ns ms :=
 h.keep (fun b hs=>hb.block b hs.lt) (fun b hs=>hb.block b hs.lt) (fun b hs=>hb.block b (h.own.lt b hs).2)
theorem qV.grown {B:Nat}{w w':World}{v:Value}{ns:List Nd}{ms:List Rw}{row:Option Nat}(h:qV B w v ns ms)(hg:w.grownBy w' row)(hr:∀ b,row=some b→∃ e,e≠90∧e≠69∧e≠3∧qY 0 e w b):qV B w' v ns ms:=by
 have ne:∀ {e':TypeId} {b:Nat},qY B e' w b→(e'=90∨e'=69∨e'=3)→row≠some b:=by
  intro e' b hs he hrow;obtain ⟨e,h1,h2,h3,_,c,fz,hc⟩:=hr b hrow;obtain ⟨_,c',fz',hc'⟩:=hs;rw[hc]at hc'
  injection hc' with hc'
  injection hc' with _ h4 _
  subst h4
  rcases he with he|he|he
  · exact h1 he
  · exact h2 he
  · exact h3 he
 exact h.keep (fun b hs=>hg.block b hs.lt (fun e=>ne hs (Or.inr (Or.inl rfl)) e.symm)) (fun b hs=>hg.block b hs.lt (fun e=>ne hs (Or.inr (Or.inr rfl)) e.symm)) (fun b hs=>hg.block b (h.own.lt b hs).2 (fun e=>ne (qI h.own hs) (Or.inl rfl) e.symm))
theorem xr (l m:List Rw):rawCells (l++m)=rawCells l++rawCells m:=by
 induction l with
 | nil=>rfl
 | cons x r ih=>simp[rawCells,ih]
theorem qV.snoc {B:Nat}{w w':World}{v v':Value}{ns:List Nd}{ms:List Rw}{r:Rw}{x:Nd}(h:qV B w v ns ms)
 (hown:w'.ownsRow B 90 5 v' (ns.length+1) (rawCells ms++[.bool r.text,.string r.s,r.va,.int .i64 r.par,r.vk])) (hg:w.grownBy w' v.ownBlock) (hR:xd B w r x)
 (hap:∀ (i:Nat) (q:Rw) (b:Nat),ms[i]?=some q→q.vk.ownBlock=some b→r.vk.ownBlock≠some b):qV B w' v' (ns++[x]) (ms++[r]):=by
 have keep:∀ {r:Rw} {x:Nd},xd B w r x→xd B w' r x:=by
  intro r x hR;refine hR.keep (fun b hs=>hg.block b hs.lt (qv h.own hs (by decide))) (fun b hs=>hg.block b (zm.lt hR.2.2.2.2 b hs).2 (qv h.own (qI hR.2.2.2.2 hs) (by decide)))
 refine ⟨by simp[h.len],?_,?_,?_⟩
 · rw[xr,List.length_append];exact hown
 · intro i q y hq hy
   rcases Nat.lt_or_ge i ns.length with hi|hi
   · rw[List.getElem?_append_left (by rw[h.len];exact hi)]at hq
     rw[List.getElem?_append_left hi]at hy
     exact keep (h.each i q y hq hy)
   · rw[List.getElem?_append_right (by rw[h.len];exact hi)]at hq
     rw[List.getElem?_append_right hi]at hy
     rw[h.len]at hq
     have hz:i-ns.length=0:=by
      rcases Nat.eq_zero_or_pos (i-ns.length) with h'|h'
      · exact h'
      · rw[List.getElem?_eq_none (by simp;omega)]at hy;cases hy
     rw[hz]at hq hy
     simp at hq hy
     subst hq hy;exact keep hR
 · have last:∀ {i:Nat} {q:Rw},(ms++[r])[i]?=some q→(i<ms.length∧ms[i]?=some q)∨(i=ms.length∧q=r):=by
    intro i q hq
    rcases Nat.lt_or_ge i ms.length with hi|hi
    · rw[List.getElem?_append_left hi]at hq;exact Or.inl ⟨hi,hq⟩
    · rw[List.getElem?_append_right hi]at hq
      have hz:i-ms.length=0:=by
       rcases Nat.eq_zero_or_pos (i-ms.length) with h'|h'
       · exact h'
       · rw[List.getElem?_eq_none (by simp;omega)]at hq;cases hq
      rw[hz]at hq
      simp at hq
      exact Or.inr ⟨by omega,hq.symm⟩
   intro i j p q b hne hp hq hb
   rcases last hp with ⟨hi,hp'⟩|⟨hi,hpr⟩
   · rcases last hq with ⟨hj, hq'⟩ | ⟨hj, hqr⟩
     · exact h.apart i j p q b hne hp' hq' hb
     · rw[hqr];exact hap i p b hp' hb
   · rw[hpr]at hb
     rcases last hq with ⟨hj,hq'⟩|⟨hj,_⟩
     · exact fun e=>hap j q b hq' e hb
     · omega
theorem qV.done {B:Nat}{w:World}{v:Value}{ns:List Nd}{ms:List Rw}(h:qV B w v ns ms):qr (fun b=>B≤b) w v ns:=by
 rcases h.own.2 with ⟨hv,h0⟩|⟨g,cap,cur,hv,hB,hh,hc,hm,_⟩
 · have : ns = [] := List.eq_nil_of_length_eq_zero h0;subst this hv;exact qr.nil
 · subst hv;refine ⟨_,_,rfl,hc,hm,fun _=>⟨g,0,rfl,hB,fun i x hx=>?_⟩⟩
   have hi:i<ns.length:=by
    rcases Nat.lt_or_ge i ns.length with h'|h'
    · exact h'
    · rw[List.getElem?_eq_none h']at hx;cases hx
   obtain ⟨r,hr⟩:∃ r,ms[i]?=some r:=⟨ms[i]'(by rw[h.len];exact hi),by simp[h.len,hi]⟩
   obtain ⟨h1,h2,h3,h4,h5⟩:=h.each i r x hr hx;obtain ⟨g0,g1,g2,g3,g4⟩:=zK ms i r hr;refine ⟨r.va,r.vk,?_,?_,?_,?_,?_,h4.carry (fun b hb=>⟨hb.1,rfl⟩),h5.ints⟩
   · rw[Nat.zero_add,World.ownsRow.cellAt h.own (i*5) (by omega),g0,h1]
   · rw[Nat.zero_add,World.ownsRow.cellAt h.own (i*5+1) (by omega),g1,h2]
   · rw[Nat.zero_add,World.ownsRow.cellAt h.own (i*5+2) (by omega),g2]
   · rw[Nat.zero_add,World.ownsRow.cellAt h.own (i*5+3) (by omega),g3,h3]
   · rw[Nat.zero_add,World.ownsRow.cellAt h.own (i*5+4) (by omega),g4]
theorem qV.at {B:Nat}{w:World}{v:Value}{ns:List Nd}{ms:List Rw}(h:qV B w v ns ms){i:Nat}{r:Rw}(hr:ms[i]?=some r):∃ g cap,v=.slice (some ⟨g,0,none⟩) ns.length cap∧ns.length≤cap∧cap≤maxLen∧B≤g∧g<w.heap.size ∧
 w.cell? ⟨g,i*5+3,none⟩=some (.int .i64 r.par)∧w.cell? ⟨g,i*5+4,none⟩=some r.vk∧w.frozen? ⟨g,i*5+4,none⟩=false:=by
 have hi:i<ns.length:=by
  rw[←h.len]
  rcases Nat.lt_or_ge i ms.length with h'|h'
  · exact h'
  · rw[List.getElem?_eq_none h']at hr;cases hr
 have hown:=h.own
 rcases h.own.2 with ⟨hv,h0⟩|⟨g,cap,cur,hv,hB,hh,hc,hm,_⟩
 · omega
 · subst hv;obtain ⟨g0,g1,g2,g3,g4⟩:=zK ms i r hr;exact ⟨g,cap,rfl,hc,hm,hB,qf hh,by rw[World.ownsRow.cellAt h.own (i*5+3) (by omega),g3],by rw[World.ownsRow.cellAt h.own (i*5+4) (by omega),g4],World.ownsRow.frozenAt h.own _⟩
theorem qV.kid {B:Nat}{w w':World}{g cap:Nat}{ns:List Nd}{ms:List Rw}{i:Nat}{r:Rw}{x:Nd}{v':Value}{l:List Int}(h:qV B w (.slice (some ⟨g,0,none⟩) ns.length cap) ns ms)(hr:ms[i]?=some r)(hx:ns[i]?=some x)
 (hown:zm B w' v' l) (hg:w.grownBy w' r.vk.ownBlock) (hat:v'.ownBlock=r.vk.ownBlock∨v'.ownBlock=some w.heap.size) :
 qV B (w'.setCell ⟨g,i*5+4,none⟩ v') (.slice (some ⟨g,0,none⟩) ns.length cap) (ns.set i { x with kids:=l }) (ms.set i { r with vk:=v' }):=by
 have hR:=h.each i r x hr hx;have hgo:qY B 90 w g:=qI h.own rfl;have hgl:=hgo.lt;have hgr:some g≠r.vk.ownBlock:=qv hR.2.2.2.2 hgo (by decide)
 have hil:i<ns.length:=by
  rcases Nat.lt_or_ge i ns.length with h'|h'
  · exact h'
  · rw[List.getElem?_eq_none h']at hx;cases hx
 have own':w'.ownsRow B 90 5 (.slice (some ⟨g,0,none⟩) ns.length cap) ns.length (rawCells ms):=h.own.kept hg (Or.inr hgr)
 have hvg:v'.ownBlock≠some g:=by
  rcases hat with e|e
  · rw[e];exact fun e=>hgr e.symm
  · rw[e];intro e;injection e with e;omega
 have keepB:∀ b,b<w.heap.size→b≠g→r.vk.ownBlock≠some b→(w'.setCell ⟨g,i*5+4,none⟩ v').heap[b]?=w.heap[b]?:=fun b h1 h2 h3=>by
  rw[qd h2,hg.block b h1 (fun e=>h3 e.symm)]
 have attrs:∀ {r:Rw} {x:Nd},xd B w r x→qe (qY B 69 (w'.setCell ⟨g,i*5+4,none⟩ v')) (w'.setCell ⟨g,i*5+4,none⟩ v') r.va x.attrs:=by
  intro q y hq;refine hq.2.2.2.1.carry fun b hb=>?_
  have e:(w'.setCell ⟨g,i*5+4,none⟩ v').heap[b]?=w.heap[b]?:=keepB b hb.lt (fun e=>by
   subst e;obtain ⟨_,c,fz,hc⟩:=hb;obtain ⟨_,c',fz',hc'⟩:=hgo;rw[hc]at hc'
   injection hc' with hc'
   injection hc' with _ h4 _
   exact absurd h4 (by decide)) (fun e=>qv hR.2.2.2.2 hb (by decide) e.symm)
  exact ⟨hb.to (nR9 _) e,e⟩
 refine ⟨by simp[h.len],?_,?_,?_⟩
 · rw[jm ms i r v' hr, List.length_set];exact (own'.stored (i*5+4) v').1
 · intro j q y hq hy
   by_cases hj:j=i
   · subst hj;rw[List.getElem?_set_self (by rw[h.len];exact hil)]at hq
     rw[List.getElem?_set_self hil]at hy
     injection hq with hq
     injection hy with hy
     subst hq hy;exact ⟨hR.1,hR.2.1,hR.2.2.1,attrs (r:=r) (x:=x) hR,qo hown fun b hb=>qd (fun e=>hvg (by rw[hb,e]))⟩
   · rw[List.getElem?_set_ne (fun e => hj e.symm)]at hq hy
     have hq':=h.each j q y hq hy;exact ⟨hq'.1,hq'.2.1,hq'.2.2.1,attrs hq',qo hq'.2.2.2.2 fun b hb=>keepB b (zm.lt hq'.2.2.2.2 b hb).2 (fun e=>qv hq'.2.2.2.2 hgo (by decide) (by rw[hb,e])) (fun e=>h.apart i j r q b (fun e=>hj e.symm) hr hq e hb)⟩
 · intro j k p q b hne hp hq hb e
   by_cases hj:j=i
   · subst hj;rw[List.getElem?_set_self (by rw[h.len];exact hil)]at hp
     injection hp with hp
     subst hp;rw[List.getElem?_set_ne hne]at hq
     obtain ⟨y,hy⟩:∃ y,ns[k]?=some y:=⟨ns[k]'(by rw[←h.len];exact (List.getElem?_eq_some_iff.1 hq).1),by simp⟩
     have hlt:=(zm.lt (h.each k q y hq hy).2.2.2.2 b e).2;simp only at hb
     rcases hat with e1|e1
     · rw[e1]at hb;exact h.apart j k r q b hne hr hq hb e
     · rw[e1]at hb;injection hb with hb;omega
   · rw[List.getElem?_set_ne (fun e => hj e.symm)]at hp
     by_cases hk:k=i
     · subst hk;rw[List.getElem?_set_self (by rw[h.len];exact hil)]at hq
       injection hq with hq
       subst hq;obtain ⟨y,hy⟩:∃ y,ns[j]?=some y:=⟨ns[j]'(by rw[←h.len];exact (List.getElem?_eq_some_iff.1 hp).1),by simp⟩
       have hlt:=(zm.lt (h.each j p y hp hy).2.2.2.2 b hb).2;simp only at e
       rcases hat with e1|e1
       · rw[e1]at e;exact h.apart j k p r b hne hp hr hb e
       · rw[e1]at e;injection e with e;omega
     · rw[List.getElem?_set_ne (fun e => hk e.symm)]at hq
       exact h.apart j k p q b hne hp hq hb e
end Go.Proofs.YtfdbipeidmpciaaDoor
namespace Go.Proofs.YtfdbipeidmpciaaDoor
open Go.RowKit
set_option maxRecDepth 100000
def Ka (ns:List Nd)(i:Nat):Prop:=∀ x,ns[i]?=some x→x.kids.length≤ns.length∧∀ k∈x.kids,(i:Int)<k∧k<ns.length
def JY (ns:List Nd)(a b:Nat):Prop:=a≤b∧b≤ns.length∧∀ i,a≤i→i<b→Ka ns i
theorem ZU {ns:List Nd}{G:Nat→Bool × Nat}(hG:∀ m,(G m).1=true→m<(G m).2∧JY ns m (G m).2) :
 ∀ (ks:List Int) (m:Nat),m≤ns.length→(qt G ks m).1=true→JY ns m (qt G ks m).2∧ks.length+m≤(qt G ks m).2∧∀ k∈ks,(m:Int)≤k∧k<(qt G ks m).2:=by
 intro ks
 induction ks with
 | nil=>intro m hm _;exact ⟨⟨nR9 _,hm,fun i h1 h2=>absurd h1 (by have:i<m:=h2;omega)⟩,by simp[qt],by intro k hk;simp at hk⟩
 | cons k ks ih =>
   intro m _ h;unfold qt at h ⊢
   by_cases hc:k=(m:Int)∧(G m).1=true
   · rw[if_pos hc]at h ⊢
     obtain ⟨h1,h2,h3,h4⟩:=hG m hc.2;obtain ⟨⟨k1,k2,k3⟩,k4,k5⟩:=ih (G m).2 h3 h;refine ⟨⟨by omega,k2,fun i hi1 hi2=>?_⟩,by simp;omega,fun k' hk'=>?_⟩
     · rcases Nat.lt_or_ge i (G m).2 with h' | h'
       · exact h4 i hi1 h'
       · exact k3 i h' hi2
     · rw[List.mem_cons]at hk'
       rcases hk' with rfl|hk'
       · rw[hc.1];omega
       · have:=k5 k' hk';omega
   · rw[if_neg hc]at h;simp at h
theorem ordF_seg:∀ (f:Nat) (ns:List Nd) (par:Int) (nx:Nat),(ordF f ns par nx).1=true→nx<(ordF f ns par nx).2∧JY ns nx (ordF f ns par nx).2:=by
 intro f
 induction f with
 | zero=>intro ns par nx h;simp[ordF]at h
 | succ f ih =>
   intro ns par nx h;unfold ordF at h ⊢
   cases hx:ns[nx]? with
   | none=>simp[hx]at h
   | some x =>
     simp only[hx]at h ⊢
     have hlt:nx<ns.length:=by
      rcases Nat.lt_or_ge nx ns.length with h'|h'
      · exact h'
      · rw[List.getElem?_eq_none h']at hx;cases hx
     by_cases hp:x.parent=par
     · rw[if_pos hp]at h ⊢
       obtain ⟨⟨k1,k2,k3⟩,k4,k5⟩:=ZU (fun m hm=>ih ns nx m hm) x.kids (nx+1) (by omega) h
       refine ⟨by omega,by omega,k2,fun i hi1 hi2=>?_⟩
       rcases Nat.lt_or_ge nx i with h'|h'
       · exact k3 i h' hi2
       · have : i = nx := by omega
         subst this;intro y hy;rw[hx]at hy
         cases hy;refine ⟨by omega,fun k hk=>?_⟩
         have:=k5 k hk;omega
     · rw[if_neg hp]at h;simp at h
theorem jy {f:Nat}{ns:List Nd}(h:ordF f ns (-1) 0=(true,ns.length))(hl:ns.length≤80)(ha:∀ x∈ns,x.attrs.length≤4398046511104):yK ns:=by
 have h1:=ordF_seg f ns (-1) 0 (by rw[h])
 rw[h]at h1
 intro n x hx
 have hlt:n<ns.length:=by
  rcases Nat.lt_or_ge n ns.length with h'|h'
  · exact h'
  · rw[List.getElem?_eq_none h']at hx;cases hx
 obtain ⟨k1,k2⟩:=h1.2.2.2 n (nZ9 _) hlt x hx;exact ⟨ha x (List.mem_of_getElem? hx),by omega,k2⟩
def jW (ns:List Nd):Prop:=∀ x∈ns,x.s.size≤maxLen∧∀ y∈x.attrs,y.1.size≤maxLen∧y.2.size≤maxLen
theorem Yr {ns:List Nd}(h:jW ns):∀ (f n:Nat),Zq (growF f ns n)∧TextsN f (growF f ns n).kids:=by
 intro f
 induction f with
 | zero=>intro n;exact ⟨⟨nZ9 _,by intro y hy;simp[growF]at hy⟩,trivial⟩
 | succ f ih =>
   intro n;rw[growF];cases hx:ns[n]? with
   | none=>exact ⟨⟨nZ9 _,by intro y hy;simp at hy⟩,by intro t ht;simp at ht⟩
   | some x =>
     refine ⟨h x (List.mem_of_getElem? hx),fun t ht=>?_⟩
     simp only[List.mem_map]at ht
     obtain ⟨k,_,rfl⟩:=ht;exact ih _
end Go.Proofs.YtfdbipeidmpciaaDoor
namespace Go.Proofs.YtfdbipeidmpciaaDoor
open Go.ChangeShapes Go.WideShapes Go.ChangeAt Go.RowKit
set_option maxRecDepth 100000
section
attribute [local go_sem] qg
def zI (ns:List Nd):Bool:=(ordF (ns.length+1) ns (-1) 0).1&&decide ((ordF (ns.length+1) ns (-1) 0).2=ns.length)
def qi (ns:List Nd):Bool:=decide (ns.length≤80)&&zI ns&&qw (growF ns.length ns 0)
theorem zj {ns:List Nd}(h:zI ns=true):ordF (ns.length+1) ns (-1) 0=(true,ns.length):=by
 simp only[zI,Bool.and_eq_true,decide_eq_true_eq]at h
 exact Prod.ext h.1 h.2
theorem YJ {ns:List Nd}(h:zI ns=true):0<ns.length:=by
 have h1:=ordF_seg (ns.length+1) ns (-1) 0 (by rw[zj h])
 rw[zj h]at h1
 exact h1.1
set_option maxHeartbeats 1000000 in
theorem Jp (S:Nat→Prop)(v:Value)(ns:List Nd)(w:World)(hN:qr S w v ns)(hS:∀ b,S b→b<w.heap.size)(ha:∀ x∈ns,x.attrs.length≤4398046511104)(hx:jW ns) :
 Calls Tryd.prog 40 #[.agg #[v]] w fun e w'=>e=.returned (.bool (qi ns))∧Below w.heap.size w w':=by
 obtain ⟨a,cap,rfl,hlc,hcm⟩:=hN.shape;unfold maxLen at hcm
 have HG:Hid (qi ns=(decide (ns.length≤80)&&zI ns&&qw (growF ns.length ns 0))):=rfl
 by_cases h80:ns.length≤80
 · have hi80 : ¬ (80 : Int) < (ns.length : Int) := by omega
   have HG2:Hid (qi ns=(zI ns&&qw (growF ns.length ns 0))):=by show _=_;rw[HG.out];simp[h80]
   clear HG;have hb2:Below w.heap.size w ((w.alloc (.cells #[.slice a ns.length cap] 47)).alloc (.cells #[.int .i64 0] 3)):=(Below.alloc1 w _).alloc (by simp) _
   have hC2:Cnt (w.heap.size+1) 0 ((w.alloc (.cells #[.slice a ns.length cap] 47)).alloc (.cells #[.int .i64 0] 3)):=by
    have e:=heap_alloc_new (w.alloc (.cells #[.slice a ns.length cap] 47)) (.cells #[.int .i64 0] 3);rw[World.size_alloc]at e
    exact e
   have hx2:((w.alloc (.cells #[.slice a ns.length cap] 47)).alloc (.cells #[.int .i64 0] 3)).heap[w.heap.size]?=some (.cells #[.slice a ns.length cap] 47 (0,0)):=by
    rw[Lib.alloc_old _ _ _ (by simp)];exact heap_alloc_new _ _
   have HO:Hid _:=XV (ns.length+1) S _ ns (-1) (w.heap.size+1) 0 _ (hN.later hb2) (fun b hb=>by have:=hS b hb;omega) hC2 h80 (by omega)
   have HN:Hid (qr S w (.slice a ns.length cap) ns):=hN;have HA:Hid (∀ x∈ns,x.attrs.length≤4398046511104):=ha;have HX:Hid (jW ns):=hx;have HS:Hid (∀ b,S b→b<w.heap.size):=hS;have HOR:Hid (zI ns=((ordF (ns.length+1) ns (-1) 0).1&&decide ((ordF (ns.length+1) ns (-1) 0).2=ns.length))):=rfl;clear hN hC2 ha hx hS
   go_enter Tryd.func40,Tryd.ntmps40
   go_wp2_with fail;refine (Calls.mono HO.out ?_);rintro e w3 ⟨rfl,hC3,hF3⟩
   have hx3:w3.heap[w.heap.size]?=some (.cells #[.slice a ns.length cap] 47 (0,0)):=by
    rw[hF3.frame w.heap.size (by simp;omega) (by omega)];exact hx2
   have hB3:Below w.heap.size w w3:=⟨hF3.below.os.trans hb2.os,hF3.below.tape.trans hb2.tape,hF3.below.output.trans hb2.output,Nat.le_trans hb2.size hF3.below.size,fun k hk=>by rw[hF3.frame k (by simp;omega) (by omega)];exact hb2.block k hk⟩
   have d0:w3.cell? ⟨w.heap.size,0,none⟩=some (.slice a ns.length cap):=by rw[cH9 hx3];rfl
   have e0:=hC3.c0;have hlt3:=qf hx3;clear HO hb2 hx2 hF3;obtain ⟨q,hq⟩:∃ q,ordF (ns.length+1) ns (-1) 0=q:=⟨_,rfl⟩;rw[hq]at HOR e0 hC3 ⊢
   have HQ:Hid (ordF (ns.length+1) ns (-1) 0=q):=hq;clear hq;obtain ⟨q1,q2⟩:=q;simp only at HOR e0 hC3 ⊢
   cases q1 with
   | false =>
     have HE:Hid (qi ns=false):=by show _=_;rw[HG2.out,HOR.out];rfl
     clear HG2 HOR;go_wp2_with fail;go_ret;exact ⟨by rw[HE.out];rfl,hB3⟩
   | true =>
     by_cases hql:q2=ns.length
     · have hne : ((q2 : Int) != (ns.length : Int)) = false := by simp[hql]
       have hor:zI ns=true:=by rw[HOR.out,hql];simp
       have HE:Hid (qi ns=qw (growF ns.length ns 0)):=by show _=_;rw[HG2.out,hor];rfl
       have hpos:=YJ hor;have HGR:Hid _:=Qz ns.length S _ ns 0 w3 (HN.out.later hB3) (jy (zj hor) h80 HA.out) hpos (by omega)
       have HTX:Hid (TextsN (ns.length+1) [growF ns.length ns 0]):=by
        intro t ht;simp only[List.mem_singleton]at ht
        subst ht;exact Yr HX.out _ _
       clear HG2 HOR hor hql;go_wp2_with fail;refine (Calls.mono HGR.out ?_);rintro e w4 ⟨va4,vk4,rfl,hA4,hK4,hb4⟩;have hB4:Below w.heap.size w w4:=hB3.trans (hb4.mono hB3.size);have HGD:Hid _:=yj _ ns.length _ _ (growF ns.length ns 0) w4 hA4 hK4 HTX.out;obtain ⟨aa,ac,rfl⟩:=hA4.shape;obtain ⟨ka,kc,rfl,_,_⟩:=qb.shape ns.length hK4;clear hA4 hK4 HGR;go_wp2_with fail;refine (Calls.mono HGD.out ?_);rintro e w5 ⟨rfl,hb5⟩;have hB5:Below w.heap.size w w5:=hB4.trans (hb5.mono hB4.size);go_wp2_with fail;go_ret;exact ⟨by rw[HE.out];rfl,hB5⟩
     · have hne : ((q2 : Int) != (ns.length : Int)) = true := by simp;omega
       have HE:Hid (qi ns=false):=by show _=_;rw[HG2.out,HOR.out];simp[hql]
       clear HG2 HOR hql;go_wp2_with fail;go_ret;exact ⟨by rw[HE.out];rfl,hB3⟩
 · have hi80 : (80 : Int) < (ns.length : Int) := by omega
   have HE:Hid (qi ns=false):=by show _=_;rw[HG.out];simp[h80]
   clear HG hN
   go_enter Tryd.func40,Tryd.ntmps40
   go_wp2_with fail;go_ret;exact ⟨by rw[HE.out];rfl,Below.alloc1 _ _⟩
end
section
attribute [local go_sem] qg
structure zl (S:Nat→Prop) (w:World) (v:Value) (ns:List Nd):Prop where
 nodes:qr S w v ns
 here:∀ b,S b→b<w.heap.size
 few:∀ x∈ns,x.attrs.length≤4398046511104
 short:jW ns
theorem zl.later {S:Nat→Prop}{w w':World}{v:Value}{ns:List Nd}(h:zl S w v ns)(hb:Below w.heap.size w w'):zl S w' v ns :=
 ⟨h.nodes.later hb,fun b hb'=>Nat.lt_of_lt_of_le (h.here b hb') hb.size,h.few,h.short⟩
theorem zl.good {S:Nat→Prop}{w:World}{v:Value}{ns:List Nd}(h:zl S w v ns):Calls Tryd.prog 40 #[.agg #[v]] w fun e w'=>e=.returned (.bool (qi ns))∧Below w.heap.size w w' :=
 Jp S v ns w h.nodes h.here h.few h.short
theorem jv {S:Nat→Prop}{w:World}{v:Value}{ns:List Nd}(h:zl S w v ns)(hg:qi ns=true):yK ns:=by
 simp only[qi,Bool.and_eq_true,decide_eq_true_eq]at hg
 exact jy (zj hg.1.2) hg.1.1 h.few
def qP (ns:List Nd)(n:Int):Bool:=decide (0≤n)&&decide (n<ns.length)
def noTr:Tr:=⟨false,⟨#[]⟩,[],[]⟩
def q8 (ns:List Nd)(n:Int):Tr × Int:=if qi ns then (if qP ns n then (growF ns.length ns n.toNat,0) else (noTr,3)) else (noTr,1)
def qy (ns:List Nd)(n:Int):Int:=if qi ns&&qP ns n then (lastF ns.length ns n.toNat:Int)+1 else 0
def inD (ns:List Nd)(n m:Int):Bool:=decide (0<qy ns m)&&decide (m≤n)&&decide (n<qy ns m)
theorem ZM {ns:List Nd}(hK:yK ns):∀ (f n:Nat),n<ns.length→lastF f ns n<ns.length:=by
 intro f
 induction f with
 | zero=>intro n hn;exact hn
 | succ f ih =>
   intro n hn;rw[lastF];cases hx:ns[n]? with
   | none=>exact hn
   | some x =>
     simp only;cases hl:x.kids.getLast? with
     | none=>exact hn
     | some k =>
       have hm:k∈x.kids:=List.mem_of_getLast? hl;have:=(hK n x hx).2.2 k hm;exact ih _ (by omega)
theorem Xg {ns:List Nd}(hK:yK ns):∀ (f n:Nat),n≤lastF f ns n:=by
 intro f
 induction f with
 | zero=>intro n;exact nR9 _
 | succ f ih =>
   intro n;rw[lastF];cases hx:ns[n]? with
   | none=>exact nR9 _
   | some x =>
     simp only;cases hl:x.kids.getLast? with
     | none=>exact nR9 _
     | some k =>
       have:=(hK n x hx).2.2 k (List.mem_of_getLast? hl);have:=ih k.toNat;simp only;omega
set_option maxHeartbeats 1000000 in
theorem yQ (S:Nat→Prop)(v:Value)(ns:List Nd)(n:Int)(w:World)(h:zl S w v ns) :
 Calls Tryd.prog 42 #[.agg #[v],.int .i64 n] w fun e w'=>e=.returned (.int .i64 (qy ns n))∧Below w.heap.size w w':=by
 have hb1:=Below.alloc1 w (.cells #[v] 47);have hx1:=heap_alloc_new w (.cells #[v] 47);have H:Hid (zl S w v ns):=h;have HG:Hid _:=(h.later hb1).good;have HE:Hid (qy ns n=if qi ns&&qP ns n then (lastF ns.length ns n.toNat:Int)+1 else 0):=rfl
 obtain ⟨a,cap,rfl,hlc,hcm⟩:=h.nodes.shape;unfold maxLen at hcm
 clear h
 go_enter Tryd.func42,Tryd.ntmps42
 go_wp2_with fail;refine (Calls.mono HG.out ?_);rintro e w2 ⟨rfl,hb2⟩;have hx2:=(hb2.block _ (qf hx1)).trans hx1;have hB2:Below w.heap.size w w2:=hb1.trans (hb2.mono hb1.size);have d0:w2.cell? ⟨w.heap.size,0,none⟩=some (.slice a ns.length cap):=by rw[cH9 hx2];rfl
 clear HG hb1 hx1 hb2;obtain ⟨q,hq⟩:∃ q,qi ns=q:=⟨_,rfl⟩;rw[hq];cases q with
 | false =>
   have HE2:Hid (qy ns n=0):=by show _=_;rw[HE.out,hq];rfl
   clear HE hq;go_wp2_with fail;go_ret;exact ⟨by rw[HE2.out];rfl,hB2⟩
 | true =>
   have HA:Hid _:=je S _ ns n w2 (H.out.later hB2).nodes;have HE2:Hid (qy ns n=if qP ns n then (lastF ns.length ns n.toNat:Int)+1 else 0):=by show _=_;rw[HE.out,hq];simp
   have HKI:Hid (yK ns):=jv H.out hq;have h80:ns.length≤80:=by simp only[qi,Bool.and_eq_true,decide_eq_true_eq]at hq;exact hq.1.1
   clear HE hq;have HAB:Hid (qP ns n=(decide (0≤n)&&decide (n<ns.length))):=rfl;rw[show (decide (0≤n)&&decide (n<(ns.length:Int)))=qP ns n from rfl]at HA
   obtain ⟨q2,hq2⟩:∃ q,qP ns n=q:=⟨_,rfl⟩;rw[hq2]at HA HE2 HAB
   clear hq2;cases q2 with
   | false =>
     have HE3:Hid (qy ns n=0):=by show _=_;rw[HE2.out];rfl
     clear HE2;go_wp2_with fail;refine (Calls.mono HA.out ?_);rintro e w3 ⟨rfl,rfl⟩;go_wp2_with fail;go_ret;exact ⟨by rw[HE3.out];rfl,hB2⟩
   | true =>
     have hr:=HAB.out.symm;simp only[Bool.and_eq_true,decide_eq_true_eq]at hr
     obtain ⟨m,rfl⟩:∃ m:Nat,n=(m:Int):=⟨n.toNat,by omega⟩
     have HE3:Hid (qy ns (m:Int)=(lastF ns.length ns m:Int)+1):=by show _=_;rw[HE2.out];rfl
     have HLI:Hid _:=Yw S _ ns m w2 (H.out.later hB2).nodes HKI.out (by omega)
     have hlt:=ZM HKI.out ns.length m (by omega)
     obtain ⟨l,hl⟩:∃ l,lastF ns.length ns m=l:=⟨_,rfl⟩;rw[hl]at HE3 HLI hlt
     clear HE2 hl HAB hr;go_wp2_with fail;refine (Calls.mono HA.out ?_);rintro e w3 ⟨rfl,rfl⟩;go_wp2_with fail;refine (Calls.mono HLI.out ?_);rintro e w3 ⟨rfl,rfl⟩;go_wp2_with fail;go_ret;exact ⟨by rw[HE3.out];rfl,hB2⟩
theorem Y9 (S:Nat→Prop)(v:Value)(ns:List Nd)(n m:Int)(w:World)(h:zl S w v ns) :
 Calls Tryd.prog 44 #[.agg #[v],.int .i64 n,.int .i64 m] w fun e w'=>e=.returned (.bool (inD ns n m))∧Below w.heap.size w w':=by
 have hb1:=Below.alloc1 w (.cells #[v] 47);have HG:Hid _:=yQ S v ns m _ (h.later hb1);have HI:Hid (inD ns n m=(decide (0<qy ns m)&&decide (m≤n)&&decide (n<qy ns m))):=rfl;obtain ⟨a,cap,rfl,_,_⟩:=h.nodes.shape;clear h;obtain ⟨l,hl⟩:∃ l,qy ns m=l:=⟨_,rfl⟩;rw[hl]at HG HI
 clear hl
 go_enter Tryd.func44,Tryd.ntmps44
 go_wp2_with fail;refine (Calls.mono HG.out ?_);rintro e w2 ⟨rfl,hb2⟩;have hB2:Below w.heap.size w w2:=hb1.trans (hb2.mono hb1.size);clear hb1 hb2 HG
 by_cases h1:0<l
 · by_cases h2 : m ≤ n
   · have HI2 : Hid (inD ns n m = decide (n < l)) := by show _ = _;rw[HI.out];simp[h1, h2]
     clear HI;go_wp2_with fail;go_ret;exact ⟨by rw[HI2.out];rfl,hB2⟩
   · have HI2 : Hid (inD ns n m = false) := by show _ = _;rw[HI.out];simp[h2]
     clear HI;go_wp2_with fail;go_ret;exact ⟨by rw[HI2.out];rfl,hB2⟩
 · have HI2 : Hid (inD ns n m = false) := by show _ = _;rw[HI.out];simp[h1]
   clear HI;go_wp2_with fail;go_ret;exact ⟨by rw[HI2.out];rfl,hB2⟩
set_option maxHeartbeats 1000000 in
theorem JW (S:Nat→Prop)(v:Value)(ns:List Nd)(n:Int)(w:World)(h:zl S w v ns) :
 Calls Tryd.prog 38 #[.agg #[v],.int .i64 n] w fun e w'=>∃ va vk,e=.returned (.tuple #[.agg #[.bool (q8 ns n).1.text,.string (q8 ns n).1.s,va,vk],.int .i64 (q8 ns n).2]) ∧
  qe (fun b=>w.heap.size≤b) w' va (q8 ns n).1.attrs∧qb (fun b=>w.heap.size≤b) w' ns.length vk (q8 ns n).1.kids∧Below w.heap.size w w':=by
 have hb1:Below w.heap.size w ((w.alloc (.cells #[v] 47)).alloc (.cells #[.bool false,.string ⟨#[]⟩,.slice none 0 0,.slice none 0 0] 25)):=(Below.alloc1 w _).alloc (by simp) _
 have hx1:((w.alloc (.cells #[v] 47)).alloc (.cells #[.bool false,.string ⟨#[]⟩,.slice none 0 0,.slice none 0 0] 25)).heap[w.heap.size]?=some (.cells #[v] 47 (0,0)):=by
  rw[Lib.alloc_old _ _ _ (by simp)];exact heap_alloc_new _ _
 have hy1:((w.alloc (.cells #[v] 47)).alloc (.cells #[.bool false,.string ⟨#[]⟩,.slice none 0 0,.slice none 0 0] 25)).heap[w.heap.size+1]?=some (.cells #[.bool false,.string ⟨#[]⟩,.slice none 0 0,.slice none 0 0] 25 (0,0)):=by
  have e:=heap_alloc_new (w.alloc (.cells #[v] 47)) (.cells #[.bool false,.string ⟨#[]⟩,.slice none 0 0,.slice none 0 0] 25);rw[World.size_alloc]at e
  exact e
 have H:Hid (zl S w v ns):=h;have HG:Hid _:=(h.later hb1).good;have HE:Hid (q8 ns n=if qi ns then (if qP ns n then (growF ns.length ns n.toNat,0) else (noTr,3)) else (noTr,1)):=rfl
 obtain ⟨a,cap,rfl,hlc,hcm⟩:=h.nodes.shape;unfold maxLen at hcm
 clear h
 go_enter Tryd.func38,Tryd.ntmps38
 go_wp2_with fail;refine (Calls.mono HG.out ?_);rintro e w2 ⟨rfl,hb2⟩;have hx2:=(hb2.block _ (qf hx1)).trans hx1;have hy2:=(hb2.block _ (qf hy1)).trans hy1;have hB2:Below w.heap.size w w2:=hb1.trans (hb2.mono hb1.size);have d0:w2.cell? ⟨w.heap.size,0,none⟩=some (.slice a ns.length cap):=by rw[cH9 hx2];rfl
 have p0:w2.cell? ⟨w.heap.size+1,0,none⟩=some (.bool false):=by rw[cH9 hy2];rfl
 have p1:w2.cell? ⟨w.heap.size+1,1,none⟩=some (.string ⟨#[]⟩):=by rw[cH9 hy2];rfl
 have p2:w2.cell? ⟨w.heap.size+1,2,none⟩=some (.slice none 0 0):=by rw[cH9 hy2];rfl
 have p3:w2.cell? ⟨w.heap.size+1,3,none⟩=some (.slice none 0 0):=by rw[cH9 hy2];rfl
 have f0:w2.frozen? ⟨w.heap.size+1,0,none⟩=false:=fH9 hy2 0;have f1:w2.frozen? ⟨w.heap.size+1,1,none⟩=false:=fH9 hy2 1;have f2:w2.frozen? ⟨w.heap.size+1,2,none⟩=false:=fH9 hy2 2;have f3:w2.frozen? ⟨w.heap.size+1,3,none⟩=false:=fH9 hy2 3;clear HG hb1 hx1 hb2 hy1;obtain ⟨q,hq⟩:∃ q,qi ns=q:=⟨_,rfl⟩;rw[hq];have hle1:w.heap.size≤w.heap.size+1:=Nat.le_succ _;cases q with
 | false =>
   have HE2:Hid (q8 ns n=(noTr,1)):=by show _=_;rw[HE.out,hq];rfl
   clear HE hq;go_wp2_with fail;refine bodyPost_ret (v:=.tuple #[.agg #[.bool false,.string ⟨#[]⟩,.slice none 0 0,.slice none 0 0],.int .i64 1]) (by simp[results,Tryd.results38,go_sem,qg,p0,p1,p2,p3,World.cell?_setCell_other]) rfl ⟨.slice none 0 0,.slice none 0 0,by rw[HE2.out];rfl,by rw[HE2.out];exact qe.nil,by rw[HE2.out];exact qb.nil _ ⟨none,0,rfl,nZ9 _⟩,?_⟩
   exact (((hB2.setCell (p:=⟨w.heap.size+1,0,none⟩) hle1 _).setCell (p:=⟨w.heap.size+1,1,none⟩) hle1 _).setCell (p:=⟨w.heap.size+1,2,none⟩) hle1 _).setCell (p:=⟨w.heap.size+1,3,none⟩) hle1 _
 | true =>
   have HA:Hid _:=je S _ ns n w2 (H.out.later hB2).nodes;have HE2:Hid (q8 ns n=if qP ns n then (growF ns.length ns n.toNat,0) else (noTr,3)):=by show _=_;rw[HE.out,hq];rfl
   have HKI:Hid (yK ns):=jv H.out hq;clear HE hq;have HAB:Hid (qP ns n=(decide (0≤n)&&decide (n<ns.length))):=rfl;rw[show (decide (0≤n)&&decide (n<(ns.length:Int)))=qP ns n from rfl]at HA
   obtain ⟨q2,hq2⟩:∃ q,qP ns n=q:=⟨_,rfl⟩;rw[hq2]at HA HE2 HAB
   clear hq2;cases q2 with
   | false =>
     have HE3:Hid (q8 ns n=(noTr,3)):=by show _=_;rw[HE2.out];rfl
     clear HE2;go_wp2_with fail;refine (Calls.mono HA.out ?_);rintro e w3 ⟨rfl,rfl⟩;go_wp2_with fail;refine bodyPost_ret (v:=.tuple #[.agg #[.bool false,.string ⟨#[]⟩,.slice none 0 0,.slice none 0 0],.int .i64 3]) (by simp[results,Tryd.results38,go_sem,qg,p0,p1,p2,p3,World.cell?_setCell_other]) rfl ⟨.slice none 0 0,.slice none 0 0,by rw[HE3.out];rfl,by rw[HE3.out];exact qe.nil,by rw[HE3.out];exact qb.nil _ ⟨none,0,rfl,nZ9 _⟩,?_⟩
     exact (((hB2.setCell (p:=⟨w.heap.size+1,0,none⟩) hle1 _).setCell (p:=⟨w.heap.size+1,1,none⟩) hle1 _).setCell (p:=⟨w.heap.size+1,2,none⟩) hle1 _).setCell (p:=⟨w.heap.size+1,3,none⟩) hle1 _
   | true =>
     have hr:=HAB.out.symm;simp only[Bool.and_eq_true,decide_eq_true_eq]at hr
     obtain ⟨m,rfl⟩:∃ m:Nat,n=(m:Int):=⟨n.toNat,by omega⟩
     have HE3:Hid (q8 ns (m:Int)=(growF ns.length ns m,0)):=by show _=_;rw[HE2.out];rfl
     have HGR:Hid _:=Qz ns.length S _ ns m w2 (H.out.later hB2).nodes HKI.out (by omega) (by omega)
     clear HE2 HAB hr;go_wp2_with fail;refine (Calls.mono HA.out ?_);rintro e w3 ⟨rfl,rfl⟩;go_wp2_with fail;refine (Calls.mono HGR.out ?_);rintro e w4 ⟨va4,vk4,rfl,hA4,hK4,hb4⟩;have hB4:Below w.heap.size w w4:=hB2.trans (hb4.mono hB2.size);obtain ⟨aa,ac,rfl⟩:=hA4.shape;obtain ⟨ka,kc,rfl,_,_⟩:=qb.shape ns.length hK4;have hy4:=(hb4.block _ (qf hy2)).trans hy2;have hs2:=qf hy2;clear p0 p1 p2 p3 f0 f1 f2 f3 HGR HA;have p0:w4.cell? ⟨w.heap.size+1,0,none⟩=some (.bool false):=by rw[cH9 hy4];rfl
     have p1:w4.cell? ⟨w.heap.size+1,1,none⟩=some (.string ⟨#[]⟩):=by rw[cH9 hy4];rfl
     have p2:w4.cell? ⟨w.heap.size+1,2,none⟩=some (.slice none 0 0):=by rw[cH9 hy4];rfl
     have p3:w4.cell? ⟨w.heap.size+1,3,none⟩=some (.slice none 0 0):=by rw[cH9 hy4];rfl
     have f0:w4.frozen? ⟨w.heap.size+1,0,none⟩=false:=fH9 hy4 0;have f1:w4.frozen? ⟨w.heap.size+1,1,none⟩=false:=fH9 hy4 1;have f2:w4.frozen? ⟨w.heap.size+1,2,none⟩=false:=fH9 hy4 2;have f3:w4.frozen? ⟨w.heap.size+1,3,none⟩=false:=fH9 hy4 3;obtain ⟨t,ht⟩:∃ t,growF ns.length ns m=t:=⟨_,rfl⟩;rw[ht]at hA4 hK4 HE3 ⊢
     clear ht;go_wp2_with fail;refine bodyPost_ret (v:=.tuple #[.agg #[.bool t.text,.string t.s,.slice aa t.attrs.length ac,.slice ka t.kids.length kc],.int .i64 0]) (by simp[results,Tryd.results38,go_sem,qg,p0,p1,p2,p3,World.cell?_setCell_other]) rfl ⟨.slice aa t.attrs.length ac,.slice ka t.kids.length kc,by rw[HE3.out],?_,?_,?_⟩
     · rw[HE3.out];refine hA4.carry fun b hb=>⟨by omega,?_⟩
       rw[qd (by omega),qd (by omega),qd (by omega),qd (by omega)]
     · rw[HE3.out];refine qb.carry (fun b hb=>⟨by omega,?_⟩) ns.length hK4
       rw[qd (by omega),qd (by omega),qd (by omega),qd (by omega)]
     · exact (((hB4.setCell (p:=⟨w.heap.size+1,0,none⟩) hle1 _).setCell (p:=⟨w.heap.size+1,1,none⟩) hle1 _).setCell (p:=⟨w.heap.size+1,2,none⟩) hle1 _).setCell (p:=⟨w.heap.size+1,3,none⟩) hle1 _
end
end Go.Proofs.YtfdbipeidmpciaaDoor
namespace Go.Proofs.YtfdbipeidmpciaaDoor
open Go.RowKit
set_option maxRecDepth 100000
def Seg (ns:List Nd)(at':Nat)(L:List Nd):Prop:=∀ (i:Nat) (x:Nd),L[i]?=some x→ns[at'+i]?=some x
theorem Seg.left {ns L M:List Nd}{at':Nat}(h:Seg ns at' (L++M)):Seg ns at' L:=by
 intro i x hx;refine h i x ?_
 have hi:i<L.length:=by
  rcases Nat.lt_or_ge i L.length with h'|h'
  · exact h'
  · rw[List.getElem?_eq_none h']at hx;cases hx
 rw[List.getElem?_append_left hi];exact hx
theorem Seg.right {ns L M:List Nd}{at':Nat}(h:Seg ns at' (L++M)):Seg ns (at'+L.length) M:=by
 intro i x hx;have:=h (L.length+i) x (by rw[List.getElem?_append_right (by omega)];rw[show L.length+i-L.length=i by omega];exact hx)
 rw[show at'+L.length+i=at'+(L.length+i) by omega];exact this
theorem Seg.tail {ns L:List Nd}{x:Nd}{at':Nat}(h:Seg ns at' (x::L)):Seg ns (at'+1) L:=by
 intro i y hy;have:=h (i+1) y (by simpa using hy)
 rw[show at'+1+i=at'+(i+1) by omega];exact this
theorem zf {d:Nat}{t:Tr}(h:Deep d t.kids)(par:Int)(nx:Nat):layF d t par nx=⟨t.text,t.s,t.attrs,par,qh (d-1) (nx+1) t.kids⟩::qn (d-1) (layF (d-1)) nx (nx+1) t.kids:=by
 cases d with
 | zero =>
   have e:t.kids=[]:=h;rw[e];rfl
 | succ d=>rfl
theorem ord_lay:∀ (d:Nat) (t:Tr) (f:Nat) (ns:List Nd) (par:Int) (at':Nat),Deep d t.kids→Seg ns at' (layF d t par at')→cnt (d+1) [t]≤f→ordF f ns par at'=(true,at'+cnt (d+1) [t]):=by
 intro d
 induction d with
 | zero =>
   intro t f ns par at' hd hs hf
   have e:t.kids=[]:=hd;rw[qp,e]at hf ⊢
   obtain ⟨f',rfl⟩:∃ f',f=f'+1:=⟨f-1,by omega⟩
   have h0:ns[at']?=some ⟨t.text,t.s,t.attrs,par,[]⟩:=hs 0 _ rfl
   rw[ordF,h0];simp[qt,cnt]
 | succ d ih =>
   intro t f ns par at' hd hs hf
   rw[qp]at hf ⊢
   obtain ⟨f',rfl⟩:∃ f',f=f'+1:=⟨f-1,by omega⟩
   have h0:ns[at']?=some ⟨t.text,t.s,t.attrs,par,qh d (at'+1) t.kids⟩:=hs 0 _ rfl
   have hsk:Seg ns (at'+1) (qn d (layF d) at' (at'+1) t.kids):=Seg.tail hs
   rw[ordF,h0];simp only[if_true]
   have key:∀ (ks:List Tr) (a:Nat),Deep (d+1) ks→Seg ns a (qn d (layF d) at' a ks)→cnt (d+1) ks≤f'→qt (ordF f' ns at') (qh d a ks) a=(true,a+cnt (d+1) ks):=by
    intro ks
    induction ks with
    | nil=>intro a _ _ _;simp[qh,qt,cnt]
    | cons k ks ihk =>
      intro a hdk hsg hc;rw[qQ d k ks]at hc ⊢
      rw[qn]at hsg
      have hl:=layF_length d k (at':Int) a (hdk k List.mem_cons_self)
      have h1:=ih k f' ns at' a (hdk k List.mem_cons_self) hsg.left (by omega)
      have h2:=hsg.right;rw[hl]at h2
      rw[qh,qt,h1,if_pos ⟨rfl,rfl⟩,ihk (a+cnt (d+1) [k]) (fun u hu=>hdk u (List.mem_cons_of_mem _ hu)) h2 (by omega),Nat.add_assoc]
   rw[key t.kids (at'+1) hd hsk (by omega),Nat.add_assoc]
theorem grow_lay:∀ (d:Nat) (t:Tr) (f:Nat) (ns:List Nd) (par:Int) (at':Nat),Deep d t.kids→Seg ns at' (layF d t par at')→cnt (d+1) [t]≤f→growF f ns at'=t:=by
 intro d
 induction d with
 | zero =>
   intro t f ns par at' hd hs hf
   have e:t.kids=[]:=hd;rw[qp,e]at hf
   obtain ⟨f',rfl⟩:∃ f',f=f'+1:=⟨f-1,by omega⟩
   have h0:ns[at']?=some ⟨t.text,t.s,t.attrs,par,[]⟩:=hs 0 _ rfl
   rw[growF,h0];cases t;simp at e
   subst e;rfl
 | succ d ih =>
   intro t f ns par at' hd hs hf
   rw[qp]at hf
   obtain ⟨f',rfl⟩:∃ f',f=f'+1:=⟨f-1,by omega⟩
   have h0:ns[at']?=some ⟨t.text,t.s,t.attrs,par,qh d (at'+1) t.kids⟩:=hs 0 _ rfl
   have hsk:Seg ns (at'+1) (qn d (layF d) at' (at'+1) t.kids):=Seg.tail hs
   rw[growF,h0]
   have key:∀ (ks:List Tr) (a:Nat),Deep (d+1) ks→Seg ns a (qn d (layF d) at' a ks)→cnt (d+1) ks≤f'→(qh d a ks).map (fun k=>growF f' ns k.toNat)=ks:=by
    intro ks
    induction ks with
    | nil=>intro a _ _ _;rfl
    | cons k ks ihk =>
      intro a hdk hsg hc;rw[qQ d k ks]at hc
      rw[qn]at hsg
      have hl:=layF_length d k (at':Int) a (hdk k List.mem_cons_self)
      have h1:=ih k f' ns at' a (hdk k List.mem_cons_self) hsg.left (by omega)
      have h2:=hsg.right;rw[hl]at h2
      rw[qh,List.map_cons,ihk (a+cnt (d+1) [k]) (fun u hu=>hdk u (List.mem_cons_of_mem _ hu)) h2 (by omega)]
      rw[Int.toNat_natCast,h1]
   simp only[key t.kids (at'+1) hd hsk (by omega)]
   cases t;rfl
theorem Z4 {d:Nat}:∀ (ks:List Tr) (a:Nat) (k:Tr),(qh d a (ks++[k])).getLast?=some ((a+cnt (d+1) ks:Nat):Int):=by
 intro ks a k;rw[yH];simp[qh]
theorem last_lay:∀ (d:Nat) (t:Tr) (f:Nat) (ns:List Nd) (par:Int) (at':Nat),Deep d t.kids→Seg ns at' (layF d t par at')→cnt (d+1) [t]≤f→lastF f ns at'+1=at'+cnt (d+1) [t]:=by
 intro d
 induction d with
 | zero =>
   intro t f ns par at' hd hs hf
   have e:t.kids=[]:=hd;rw[qp,e]at hf ⊢
   obtain ⟨f',rfl⟩:∃ f',f=f'+1:=⟨f-1,by omega⟩
   have h0:ns[at']?=some ⟨t.text,t.s,t.attrs,par,[]⟩:=hs 0 _ rfl
   rw[lastF,h0];simp[cnt]
 | succ d ih =>
   intro t f ns par at' hd hs hf
   rw[qp]at hf ⊢
   obtain ⟨f',rfl⟩:∃ f',f=f'+1:=⟨f-1,by omega⟩
   have h0:ns[at']?=some ⟨t.text,t.s,t.attrs,par,qh d (at'+1) t.kids⟩:=hs 0 _ rfl
   have hsk:Seg ns (at'+1) (qn d (layF d) at' (at'+1) t.kids):=Seg.tail hs
   rw[lastF,h0];simp only
   rcases List.eq_nil_or_concat t.kids with he|⟨ks,k,he⟩
   · rw[he];simp[qh,cnt]
   · rw[List.concat_eq_append]at he
     rw[he]at hf hsk ⊢
     have hdk:Deep (d+1) (ks++[k]):=by rw[←he];exact hd
     have happ:cnt (d+1) (ks++[k])=cnt (d+1) ks+cnt (d+1) [k]:=by simp[cnt]
     rw[Z4];simp only[Int.toNat_natCast];rw[jl]at hsk
     have hl:(qn d (layF d) at' (at'+1) ks).length=cnt (d+1) ks:=by
      have:∀ (ts:List Tr) (a:Nat),Deep (d+1) ts→(qn d (layF d) at' a ts).length=cnt (d+1) ts:=by
       intro ts
       induction ts with
       | nil=>intro _ _;rfl
       | cons u ts ih2 =>
         intro a hd2;rw[qn,List.length_append,layF_length d u _ _ (hd2 u List.mem_cons_self),ih2 _ (fun x hx=>hd2 x (List.mem_cons_of_mem _ hx)),qQ d u ts]
      exact this _ _ (fun u hu=>hdk u (List.mem_append_left _ hu))
     have h2:=hsk.right;rw[hl]at h2
     have h3:qn d (layF d) at' (at'+1+cnt (d+1) ks) [k]=layF d k at' (at'+1+cnt (d+1) ks):=by simp[qn]
     rw[h3]at h2
     have:=ih k f' ns at' (at'+1+cnt (d+1) ks) (hdk k (by simp)) h2 (by omega)
     omega
theorem Z2 (L:List Nd):Seg L 0 L:=by intro i x hx;rw[Nat.zero_add];exact hx
theorem Seg.nil (ns:List Nd)(a:Nat):Seg ns a []:=by intro i x hx;simp at hx
theorem Seg.append {ns L M:List Nd}{a:Nat}(h:Seg ns a L)(k:Seg ns (a+L.length) M):Seg ns a (L++M):=by
 intro i x hx
 rcases Nat.lt_or_ge i L.length with h'|h'
 · rw[List.getElem?_append_left h']at hx;exact h i x hx
 · rw[List.getElem?_append_right h']at hx
   have:=k (i-L.length) x hx;rw[show a+L.length+(i-L.length)=a+i by omega]at this
   exact this
theorem Seg.cons {ns L:List Nd}{x:Nd}{a:Nat}(h:ns[a]?=some x)(k:Seg ns (a+1) L):Seg ns a (x::L):=by
 intro i y hy;cases i with
 | zero=>simp at hy;subst hy;exact h
 | succ i =>
   have:=k i y (by simpa using hy)
   rw[show a+(i+1)=a+1+i by omega];exact this
theorem ord_conv:∀ (f:Nat) (ns:List Nd) (par:Int) (nx:Nat),(ordF f ns par nx).1=true→∃ t:Tr,Deep f t.kids∧Seg ns nx (layF f t par nx)∧(ordF f ns par nx).2=nx+cnt (f+1) [t]:=by
 intro f
 induction f with
 | zero=>intro ns par nx h;simp[ordF]at h
 | succ f ih =>
   intro ns par nx h;rw[ordF]at h ⊢
   cases hx:ns[nx]? with
   | none=>simp[hx]at h
   | some x =>
     simp only[hx]at h ⊢
     by_cases hp:x.parent=par
     · rw[if_pos hp]at h ⊢
       have key:∀ (ks:List Int) (a:Nat),(qt (ordF f ns nx) ks a).1=true→∃ ts:List Tr,(∀ k∈ts,Deep f k.kids)∧ks=qh f a ts∧Seg ns a (qn f (layF f) nx a ts)∧(qt (ordF f ns nx) ks a).2=a+cnt (f+1) ts:=by
        intro ks
        induction ks with
        | nil=>intro a _;exact ⟨[],by simp,rfl,Seg.nil _ _,by simp[qt,qH]⟩
        | cons k ks ihk =>
          intro a hk;rw[qt]at hk ⊢
          by_cases hc:k=(a:Int)∧(ordF f ns nx a).1=true
          · rw[if_pos hc]at hk ⊢
            obtain ⟨t,ht1,ht2,ht3⟩:=ih ns nx a hc.2;rw[ht3]at hk ⊢
            obtain ⟨ts,hd,he,hs,hn⟩:=ihk _ hk;refine ⟨t::ts,?_,?_,?_,?_⟩
            · intro u hu;rw[List.mem_cons]at hu
              rcases hu with rfl|hu
              · exact ht1
              · exact hd u hu
            · rw[qh,←he,hc.1]
            · rw[qn];refine Seg.append ht2 ?_;rw[layF_length f t nx a ht1];exact hs
            · rw[hn,qQ f t ts];omega
          · rw[if_neg hc]at hk;cases hk
       obtain ⟨ts,hd,he,hs,hn⟩:=key x.kids (nx+1) h;refine ⟨⟨x.text,x.s,x.attrs,ts⟩,hd,?_,?_⟩
       · rw[layF];refine Seg.cons ?_ hs;rw[hx];obtain ⟨xt,xs,xa,xp,xk⟩:=x;simp only at hp he
         rw[hp,he]
       · rw[hn,qp];show nx+1+cnt (f+1) ts=nx+(1+cnt (f+1) ts);omega
     · rw[if_neg hp]at h;cases h
def Sub (ns:List Nd)(j c:Nat)(par:Int):Prop:=∃ (d:Nat) (t:Tr),Deep d t.kids∧Seg ns j (layF d t par j)∧c=cnt (d+1) [t]
theorem X3 (ns:List Nd):∀ (d:Nat) (t:Tr) (par:Int) (a:Nat),Deep d t.kids→Seg ns a (layF d t par a)→∀ j,a≤j→j<a+cnt (d+1) [t] →
 ∃ c par',Sub ns j c par'∧j+c≤a+cnt (d+1) [t]∧(j=a∧par'=par∨∃ q c2 p2,par'=((q:Nat):Int)∧q<j∧Sub ns q c2 p2∧j+c≤q+c2):=by
 intro d
 induction d with
 | zero =>
   intro t par a hd hs j h1 h2;have e:t.kids=[]:=hd;have hc:cnt 1 [t]=1:=by rw[qp,e];rfl
   rw[hc]at h2
   obtain rfl:j=a:=by omega
   exact ⟨_,par,⟨0,t,hd,hs,rfl⟩,nR9 _,Or.inl ⟨rfl,rfl⟩⟩
 | succ d ih =>
   intro t par a hd hs j h1 h2
   by_cases hj:j=a
   · subst hj;exact ⟨_,par,⟨d+1,t,hd,hs,rfl⟩,nR9 _,Or.inl ⟨rfl,rfl⟩⟩
   · have hsk : Seg ns (a + 1) (qn d (layF d) a (a + 1) t.kids) := Seg.tail hs
     have key:∀ (ks:List Tr) (b:Nat),(∀ k∈ks,Deep d k.kids)→Seg ns b (qn d (layF d) a b ks)→b≤j→j<b+cnt (d+1) ks →
      ∃ c par',Sub ns j c par'∧j+c≤b+cnt (d+1) ks∧(par'=(a:Int)∨∃ q c2 p2,par'=((q:Nat):Int)∧q<j∧Sub ns q c2 p2∧j+c≤q+c2):=by
      intro ks
      induction ks with
      | nil=>intro b _ _ hb1 hb2;rw[qH]at hb2;omega
      | cons k ks ihk =>
        intro b hdk hsb hb1 hb2;rw[qn]at hsb
        have hl:=hsb.left;have hr:=hsb.right;have hdk0:=hdk k List.mem_cons_self;rw[layF_length d k a b hdk0]at hr
        rw[qQ]at hb2 ⊢
        by_cases hjk:j<b+cnt (d+1) [k]
        · obtain ⟨c, par', hS, hle, hor⟩ := ih k a b hdk0 hl j hb1 hjk;refine ⟨c,par',hS,by omega,?_⟩
          rcases hor with ⟨_,hp⟩|hor
          · exact Or.inl hp
          · exact Or.inr hor
        · obtain ⟨c, par', hS, hle, hor⟩ := ihk (b + cnt (d + 1) [k]) (fun u hu => hdk u (List.mem_cons_of_mem _ hu)) hr (by omega) (by omega)
          exact ⟨c,par',hS,by omega,hor⟩
     have hc1:cnt (d+1+1) [t]=1+cnt (d+1) t.kids:=qp (d+1) t;obtain ⟨c,par',hS,hle,hor⟩:=key t.kids (a+1) hd hsk (by omega) (by omega)
     refine ⟨c,par',hS,by omega,Or.inr ?_⟩
     rcases hor with hp|hor
     · exact ⟨a,_,par,hp,by omega,⟨d+1,t,hd,hs,rfl⟩,by omega⟩
     · exact hor
structure Kl (ns:List Nd) (j:Nat) (x:Nd):Prop where
 size:∃ d,Deep d (growF ns.length ns j).kids∧qy ns (j:Int)=(j:Int)+(cnt (d+1) [growF ns.length ns j]:Nat)
 le:qy ns (j:Int)≤(ns.length:Int)
 up:x.parent=-1∨(0≤x.parent∧x.parent<j∧qy ns (j:Int)≤qy ns x.parent)
theorem Xa {ns:List Nd}(hg:qi ns=true){j:Nat}(hj:j<ns.length):qy ns (j:Int)=(lastF ns.length ns j:Int)+1:=by
 unfold qy qP;have h1:(0:Int)≤j:=by omega
 have h2:(j:Int)<ns.length:=by omega
 simp[hg,h1,h2]
theorem Seg.in {ns L:List Nd}{a:Nat}(h:Seg ns a L)(hne:0<L.length):a+L.length≤ns.length:=by
 have h1:L[L.length-1]?=some (L[L.length-1]'(by omega)):=List.getElem?_eq_getElem (by omega)
 have h2:=h _ _ h1
 rcases Nat.lt_or_ge (a+(L.length-1)) ns.length with h'|h'
 · omega
 · rw[List.getElem?_eq_none h']at h2;cases h2
theorem jT {ns:List Nd}(hg:qi ns=true){j c:Nat}{par:Int}(h:Sub ns j c par)(hj:j<ns.length) :
 (∃ d,Deep d (growF ns.length ns j).kids∧c=cnt (d+1) [growF ns.length ns j])∧qy ns (j:Int)=(j:Int)+(c:Nat)∧j+c≤ns.length∧∃ x,ns[j]?=some x∧x.parent=par:=by
 obtain ⟨d,t,hd,hs,hc⟩:=h;have hlen:=layF_length d t par j hd;have hin:=hs.in (by rw[hlen,qp];omega)
 rw[hlen]at hin
 have hgr:=grow_lay d t ns.length ns par j hd hs (by omega)
 have hla:=last_lay d t ns.length ns par j hd hs (by omega)
 refine ⟨⟨d,by rw[hgr];exact hd,by rw[hgr];exact hc⟩,?_,by omega,?_⟩
 · rw[Xa hg hj];omega
 · rw[zf hd]at hs
   exact ⟨_,hs 0 _ rfl,rfl⟩
theorem Jq {ns:List Nd}(hg:qi ns=true){j:Nat}{x:Nd}(hx:ns[j]?=some x):Kl ns j x:=by
 have hj:j<ns.length:=by
  rcases Nat.lt_or_ge j ns.length with h'|h'
  · exact h'
  · rw[List.getElem?_eq_none h']at hx;cases hx
 have hg2:=hg;simp only[qi,Bool.and_eq_true,decide_eq_true_eq]at hg2
 have ho:=zj hg2.1.2;obtain ⟨t,hd,hs,hn⟩:=ord_conv (ns.length+1) ns (-1) 0 (by rw[ho])
 rw[ho]at hn
 simp only[Nat.zero_add]at hn
 obtain ⟨c,par,hS,hle,hor⟩:=X3 ns _ t (-1) 0 hd hs j (nZ9 _) (by omega)
 obtain ⟨⟨d,hd1,hc1⟩,he,hl,y,hy,hyp⟩:=jT hg hS hj;obtain rfl:y=x:=by rw[hx]at hy;exact (Option.some.inj hy).symm
 refine ⟨⟨d,hd1,by rw[he,hc1]⟩,by rw[he];omega,?_⟩
 rcases hor with ⟨_,hp⟩|⟨q,c2,p2,hp,hq,hS2,hle2⟩
 · exact Or.inl (by rw[hyp,hp])
 · refine Or.inr ?_;obtain ⟨_,he2,_,_⟩:=jT hg hS2 (by omega)
   rw[hyp,hp,he2,he];omega
theorem jR (d:Nat)(t:Tr):rgt (d+1) [t]=(qu t&&(t.text||rgt d t.kids)):=by
 simp[rgt,rgL]
theorem XX {f:List Tr→Bool}:∀ (l:List Tr) (p:Bool),rgL f p l=true→∀ k∈l,qu k=true∧(k.text||f k.kids)=true:=by
 intro l
 induction l with
 | nil=>intro _ _ k hk;simp at hk
 | cons t r ih =>
   intro p h k hk;simp only[rgL,Bool.and_eq_true]at h
   rw[List.mem_cons]at hk
   rcases hk with rfl|hk
   · exact ⟨h.1.1.1,h.1.2⟩
   · exact ih _ h.2 k hk
theorem Z0 {t:Tr}(h:qu t=true)(ht:t.text=true):t.kids=[]:=by
 simp only[qu,ht,if_true,Bool.and_eq_true,decide_eq_true_eq]at h
 exact List.length_eq_zero_iff.1 h.2
theorem XY {d:Nat}{t k:Tr}(h:rgt (d+2) [t]=true)(hk:k∈t.kids):rgt (d+1) [k]=true:=by
 rw[jR]at h ⊢
 simp only[Bool.and_eq_true]at h
 cases ht:t.text with
 | true=>rw[Z0 h.1 ht]at hk;simp at hk
 | false =>
   have h2:=h.2;rw[ht,Bool.false_or]at h2
   have:=XX t.kids false h2 k hk;simp only[Bool.and_eq_true];exact this
theorem yn (ns:List Nd):∀ (d:Nat) (t:Tr) (par:Int) (a:Nat),Deep d t.kids→Seg ns a (layF d t par a)→rgt (d+1) [t]=true→∀ j,a≤j→j<a+cnt (d+1) [t] →
 ∃ d' t' par',Deep d' t'.kids∧Seg ns j (layF d' t' par' j)∧rgt (d'+1) [t']=true∧(j=a∧par'=par∨∃ q y,ns[q]?=some y∧par'=((q:Nat):Int)∧q<j∧(j:Int)∈y.kids∧a≤q):=by
 intro d
 induction d with
 | zero =>
   intro t par a hd hs hr j h1 h2;have e:t.kids=[]:=hd;have hc:cnt 1 [t]=1:=by rw[qp,e];rfl
   rw[hc]at h2
   obtain rfl:j=a:=by omega
   exact ⟨0,t,par,hd,hs,hr,Or.inl ⟨rfl,rfl⟩⟩
 | succ d ih =>
   intro t par a hd hs hr j h1 h2
   by_cases hj:j=a
   · subst hj;exact ⟨d+1,t,par,hd,hs,hr,Or.inl ⟨rfl,rfl⟩⟩
   · have h0 : ns[a]? = some ⟨t.text, t.s, t.attrs, par, qh d (a + 1) t.kids⟩ := hs 0 _ rfl;have hsk:Seg ns (a+1) (qn d (layF d) a (a+1) t.kids):=Seg.tail hs
     have key:∀ (ks:List Tr) (b:Nat),(∀ k∈ks,Deep d k.kids)→(∀ k∈ks,rgt (d+1) [k]=true)→Seg ns b (qn d (layF d) a b ks)→a≤b→b≤j→j<b+cnt (d+1) ks →
      ∃ d' t' par',Deep d' t'.kids∧Seg ns j (layF d' t' par' j)∧rgt (d'+1) [t']=true∧((par'=(a:Int)∧(j:Int)∈qh d b ks)∨∃ q y,ns[q]?=some y∧par'=((q:Nat):Int)∧q<j∧(j:Int)∈y.kids∧a≤q):=by
      intro ks
      induction ks with
      | nil=>intro b _ _ _ _ hb1 hb2;rw[qH]at hb2;omega
      | cons k ks ihk =>
        intro b hdk hrk hsb hab hb1 hb2;rw[qn]at hsb
        have hl:=hsb.left;have hr2:=hsb.right;have hdk0:=hdk k List.mem_cons_self;rw[layF_length d k a b hdk0]at hr2
        rw[qQ]at hb2
        by_cases hjk:j<b+cnt (d+1) [k]
        · obtain ⟨d', t', par', g1, g2, g3, hor⟩ := ih k a b hdk0 hl (hrk k List.mem_cons_self) j hb1 hjk;refine ⟨d',t',par',g1,g2,g3,?_⟩
          rcases hor with ⟨hp1,hp2⟩|hor
          · exact Or.inl ⟨hp2,by rw[qh,hp1];exact List.mem_cons_self⟩
          · obtain ⟨q, y, k1, k2, k3, k4, k5⟩ := hor;exact Or.inr ⟨q,y,k1,k2,k3,k4,by omega⟩
        · obtain ⟨d', t', par', g1, g2, g3, hor⟩ := ihk (b + cnt (d + 1) [k]) (fun u hu => hdk u (List.mem_cons_of_mem _ hu)) (fun u hu => hrk u (List.mem_cons_of_mem _ hu)) hr2 (by omega) (by omega) (by omega)
          refine ⟨d',t',par',g1,g2,g3,?_⟩
          rcases hor with ⟨hp1,hp2⟩|hor
          · exact Or.inl ⟨hp1,by rw[qh];exact List.mem_cons_of_mem _ hp2⟩
          · exact Or.inr hor
     have hc1:cnt (d+1+1) [t]=1+cnt (d+1) t.kids:=qp (d+1) t;obtain ⟨d',t',par',g1,g2,g3,hor⟩:=key t.kids (a+1) hd (fun k hk=>XY hr hk) hsk (by omega) (by omega) (by omega)
     refine ⟨d',t',par',g1,g2,g3,Or.inr ?_⟩
     rcases hor with ⟨hp1,hp2⟩|hor
     · exact ⟨a,_,h0,hp1,by omega,hp2,nR9 _⟩
     · exact hor
theorem zM {ns:List Nd}(hg:qi ns=true):∃ (d:Nat) (t:Tr),Deep d t.kids∧Seg ns 0 (layF d t (-1) 0)∧cnt (d+1) [t]=ns.length∧rgt (d+1) [t]=true∧t.text=false∧qw t=true∧growF ns.length ns 0=t:=by
 have hg2:=hg;simp only[qi,Bool.and_eq_true,decide_eq_true_eq]at hg2
 have ho:=zj hg2.1.2;obtain ⟨t,hd,hs,hn⟩:=ord_conv (ns.length+1) ns (-1) 0 (by rw[ho])
 rw[ho]at hn
 simp only[Nat.zero_add]at hn
 have hgr:=grow_lay _ t ns.length ns (-1) 0 hd hs (by omega)
 have hG:=hg2.2;rw[hgr]at hG
 have hG2:=hG;rw[zS hd]at hG
 simp only[Bool.and_eq_true,Bool.not_eq_true']at hG
 exact ⟨_,t,hd,hs,hn.symm,hG.2,hG.1.1.1,hG2,hgr⟩
structure Fam (ns:List Nd) (j:Nat) (x:Nd):Prop where
 kids:∀ u∈x.kids,∃ (k:Nat) (y:Nd),u=(k:Int)∧j<k∧k<ns.length∧qy ns (k:Int)≤qy ns (j:Int)∧ns[k]?=some y∧y.parent=(j:Int)
 row:x.kids.Pairwise (fun u v=>qy ns u≤v)
 par:(j=0∧x.parent=-1)∨∃ (q:Nat) (y:Nd),ns[q]?=some y∧x.parent=(q:Int)∧q<j∧(j:Int)∈y.kids
 text:x.text=true→x.kids=[]
 name:x.text=false→qN x.s=true
 gt:(j:Int)<qy ns (j:Int)
theorem qD {α:Type}{l:List α}{j:Nat}{x:α}(hx:l[j]?=some x):j<l.length:=by
 rcases Nat.lt_or_ge j l.length with h'|h'
 · exact h'
 · rw[List.getElem?_eq_none h']at hx;cases hx
theorem XQ {ns:List Nd}(hg:qi ns=true){d j:Nat}{t:Tr}{par:Int}(hd:Deep d t.kids)(hs:Seg ns j (layF d t par j)){x:Nd}(hx:ns[j]?=some x) :
 (∀ u∈x.kids,∃ (k:Nat) (y:Nd),u=(k:Int)∧j<k∧k<ns.length∧qy ns (k:Int)≤qy ns (j:Int)∧ns[k]?=some y∧y.parent=(j:Int))∧x.kids.Pairwise (fun u v=>qy ns u≤v)∧(j:Int)<qy ns (j:Int):=by
 have hj:=qD hx;obtain ⟨_,he,hl,_⟩:=jT hg ⟨d,t,hd,hs,rfl⟩ hj;have hh:=zf hd par j
 have hx2:x=⟨t.text,t.s,t.attrs,par,qh (d-1) (j+1) t.kids⟩:=by
  have:=hs 0 _ (by rw[hh];rfl)
  rw[Nat.add_zero,hx]at this
  exact Option.some.inj this
 have hgt:(j:Int)<qy ns (j:Int):=by rw[he,qp];omega
 cases d with
 | zero =>
   have e:t.kids=[]:=hd;have ek:x.kids=[]:=by rw[hx2,e];rfl
   rw[ek];exact ⟨by simp,List.Pairwise.nil,hgt⟩
 | succ e =>
   have hsk:Seg ns (j+1) (qn e (layF e) j (j+1) t.kids):=Seg.tail hs
   have key:∀ (ks:List Tr) (b:Nat),(∀ k∈ks,Deep e k.kids)→Seg ns b (qn e (layF e) j b ks)→b+cnt (e+1) ks≤ns.length →
    (qh e b ks).Pairwise (fun u v=>qy ns u≤v)∧∀ u∈qh e b ks,∃ (k:Nat) (y:Nd),u=(k:Int)∧b≤k∧k<ns.length∧qy ns (k:Int)≤((b+cnt (e+1) ks:Nat):Int)∧ns[k]?=some y∧y.parent=(j:Int):=by
    intro ks
    induction ks with
    | nil=>intro b _ _ _;exact ⟨List.Pairwise.nil,by simp[qh]⟩
    | cons k ks ihk =>
      intro b hdk hsb hle;rw[qn]at hsb
      have hl1:=hsb.left;have hr2:=hsb.right;have hdk0:=hdk k List.mem_cons_self;rw[layF_length e k j b hdk0]at hr2
      rw[qQ]at hle ⊢
      have hc1:=qp e k;obtain ⟨_,heb,_,y,hy,hyp⟩:=jT hg ⟨e,k,hdk0,hl1,rfl⟩ (by omega)
      obtain ⟨hP,hM⟩:=ihk (b+cnt (e+1) [k]) (fun u hu=>hdk u (List.mem_cons_of_mem _ hu)) hr2 (by omega)
      rw[qh];refine ⟨List.Pairwise.cons (fun v hv=>?_) hP,fun u hu=>?_⟩
      · obtain ⟨k2, _, rfl, hk2, _⟩ := hM v hv;rw[heb];omega
      · rw[List.mem_cons]at hu
        rcases hu with rfl|hu
        · exact ⟨b,y,rfl,nR9 _,by omega,by rw[heb];omega,hy,hyp⟩
        · obtain ⟨k2, y2, g1, g2, g3, g4, g5⟩ := hM u hu;exact ⟨k2,y2,g1,by omega,g3,by omega,g5⟩
   have hc:=qp (e+1) t;obtain ⟨hP,hM⟩:=key t.kids (j+1) hd hsk (by omega)
   have ek:x.kids=qh e (j+1) t.kids:=by rw[hx2];rfl
   rw[ek];refine ⟨fun u hu=>?_,hP,hgt⟩
   obtain ⟨k2,y2,g1,g2,g3,g4,g5⟩:=hM u hu;exact ⟨k2,y2,g1,by omega,g3,by rw[he];omega,g5⟩
theorem qF {ns:List Nd}(hg:qi ns=true){j:Nat}{x:Nd}(hx:ns[j]?=some x):Fam ns j x:=by
 have hj:=qD hx;obtain ⟨d,t,hd,hs,hn,hr,_,_,_⟩:=zM hg;obtain ⟨d',t',par',g1,g2,g3,hor⟩:=yn ns d t (-1) 0 hd hs hr j (nZ9 _) (by omega)
 obtain ⟨k1,k2,k3⟩:=XQ hg g1 g2 hx
 have hx2:x=⟨t'.text,t'.s,t'.attrs,par',qh (d'-1) (j+1) t'.kids⟩:=by
  have:=g2 0 _ (by rw[zf g1 par' j];rfl)
  rw[Nat.add_zero,hx]at this
  exact Option.some.inj this
 rw[jR]at g3
 simp only[Bool.and_eq_true]at g3
 refine ⟨k1,k2,?_,?_,?_,k3⟩
 · rcases hor with ⟨h1, h2⟩ | ⟨q, y, h1, h2, h3, h4, _⟩
   · exact Or.inl ⟨h1,by rw[hx2];exact h2⟩
   · exact Or.inr ⟨q,y,h1,by rw[hx2];exact h2,h3,h4⟩
 · intro ht;have ht':t'.text=true:=by rw[hx2]at ht;exact ht
   rw[hx2,Z0 g3.1 ht'];rfl
 · intro ht;have ht':t'.text=false:=by rw[hx2]at ht;exact ht
   have h1:=g3.1;simp[qu,ht']at h1
   rw[hx2];exact h1.1
theorem Yq {ns:List Nd}(hg:qi ns=true){m n:Nat}{x:Nd}(hx:ns[n]?=some x)(h1:m<n)(h2:(n:Int)<qy ns (m:Int)):∃ q:Nat,x.parent=(q:Int)∧m≤q∧q<n:=by
 have hn:=qD hx;obtain ⟨d,t,hd,hs,hc,hr,_,_,_⟩:=zM hg;obtain ⟨d',t',par',g1,g2,g3,_⟩:=yn ns d t (-1) 0 hd hs hr m (nZ9 _) (by omega)
 obtain ⟨_,he,_,_⟩:=jT hg ⟨d',t',g1,g2,rfl⟩ (by omega)
 obtain ⟨d2,t2,par2,k1,k2,k3,hor⟩:=yn ns d' t' par' m g1 g2 g3 n (by omega) (by omega)
 have hx2:x=⟨t2.text,t2.s,t2.attrs,par2,qh (d2-1) (n+1) t2.kids⟩:=by
  have:=k2 0 _ (by rw[zf k1 par2 n];rfl)
  rw[Nat.add_zero,hx]at this
  exact Option.some.inj this
 rcases hor with ⟨h,_⟩|⟨q,y,l1,l2,l3,l4,l5⟩
 · omega
 · exact ⟨q,by rw[hx2];exact l2,l5,l3⟩
end Go.Proofs.YtfdbipeidmpciaaDoor
namespace Go.Proofs.YtfdbipeidmpciaaDoor
open Go.ChangeShapes Go.WideShapes Go.ChangeAt Go.RowKit
set_option maxRecDepth 100000
section
attribute [local go_sem] qg
def txt (x:Nd):List UInt8:=if x.text then x.s.data.toList else []
def jb (ns:List Nd)(n:Int):List UInt8:=if qy ns n=0 then [] else ((ns.take (qy ns n).toNat).drop n.toNat).flatMap txt
theorem X7 (x:Nd):(txt x).length≤x.s.size:=by
 unfold txt
 split
 · rw[Array.length_toList];exact nR9 _
 · exact nZ9 _
theorem Jo (l:List Nd)(k:Nat):((l.take k).flatMap txt).length≤(l.map fun x=>x.s.size).sum:=by
 induction l generalizing k with
 | nil=>simp
 | cons x r ih =>
   cases k with
   | zero=>simp
   | succ k =>
     have h1:=ih k;have h2:=X7 x;simp only[List.take_succ_cons,List.flatMap_cons,List.length_append,List.map_cons,List.sum_cons];omega
theorem XB (l:List Nat)(k:Nat):(l.drop k).sum≤l.sum:=by
 induction l generalizing k with
 | nil=>simp
 | cons x r ih =>
   cases k with
   | zero=>simp
   | succ k=>have:=ih k;simp;omega
theorem XT {l:List Nd}{x:Nd}(h:x∈l):x.s.size≤(l.map fun x=>x.s.size).sum:=by
 induction l with
 | nil=>simp at h
 | cons y r ih =>
   rw[List.mem_cons]at h
   simp only[List.map_cons,List.sum_cons]
   rcases h with rfl|h
   · omega
   · have:=ih h;omega
theorem Js {T e:TypeId}{B b:Nat}{bs:List Value}{w w':World}(h:Lib.IsBuilder T e B b bs w)(hb:Below w.heap.size w w'):Lib.IsBuilder T e B b bs w':=by
 rcases h with ⟨h1,v,h2,h3,h4⟩|⟨h1,v,h2,h3,h4⟩
 · exact Or.inl ⟨h1,v,(hb.block _ (qf h2)).trans h2,qq h3 hb,h4⟩
 · exact Or.inr ⟨h1,v,(hb.block _ (qf h2)).trans h2,qq h3 hb,h4⟩
set_option maxHeartbeats 1000000 in
theorem Z5 (S:Nat→Prop)(v:Value)(ns:List Nd)(n:Int)(w:World)(h:zl S w v ns)(hsum:(ns.map fun x=>x.s.size).sum≤1099511627776) :
 Calls Tryd.prog 46 #[.agg #[v],.int .i64 n] w fun e w'=>e=.returned (.string ⟨(jb ns n).toArray⟩)∧Below w.heap.size w w':=by
 have hb1:=Below.alloc1 w (.cells #[v] 47);have hx1:=heap_alloc_new w (.cells #[v] 47);have H:Hid (zl S w v ns):=h;have HG:Hid _:=yQ S v ns n _ (h.later hb1);have HE:Hid (jb ns n=if qy ns n=0 then [] else ((ns.take (qy ns n).toNat).drop n.toNat).flatMap txt):=rfl
 have HN:Hid (qy ns n≠0→qi ns=true∧qP ns n=true∧qy ns n=(lastF ns.length ns n.toNat:Int)+1):=by
  intro hne;unfold qy at hne ⊢
  split at hne
  · rename_i hc
    rw[if_pos hc];simp only[Bool.and_eq_true]at hc
    exact ⟨hc.1,hc.2,rfl⟩
  · exact absurd rfl hne
 obtain ⟨a,cap,rfl,hlc,hcm⟩:=h.nodes.shape;unfold maxLen at hcm
 clear h;obtain ⟨en,hen⟩:∃ en,qy ns n=en:=⟨_,rfl⟩;rw[hen]at HG HE HN
 clear hen
 go_enter Tryd.func46,Tryd.ntmps46
 go_wp2_with fail;refine (Calls.mono HG.out ?_);rintro e w2 ⟨rfl,hb2⟩;have hx2:=(hb2.block _ (qf hx1)).trans hx1;have hB2:Below w.heap.size w w2:=hb1.trans (hb2.mono hb1.size);have d0:w2.cell? ⟨w.heap.size,0,none⟩=some (.slice a ns.length cap):=by rw[cH9 hx2];rfl
 clear HG hb1 hx1 hb2
 by_cases h0:en=0
 · have HE2 : Hid (jb ns n = []) := by show _ = _;rw[HE.out, if_pos h0]
   have hei:(en==0)=true:=by simp[h0]
   clear HE HN;go_wp2_with fail;go_ret;exact ⟨by rw[HE2.out];rfl,hB2⟩
 · have HE2 : Hid (jb ns n = ((ns.take en.toNat).drop n.toNat).flatMap txt) := by show _ = _;rw[HE.out, if_neg h0]
   obtain ⟨hg,ha,hle⟩:=HN.out h0;have hKI:=jv H.out hg;have h80:ns.length≤80:=by simp only[qi,Bool.and_eq_true,decide_eq_true_eq]at hg;exact hg.1.1
   simp only[qP,Bool.and_eq_true,decide_eq_true_eq]at ha
   obtain ⟨m,rfl⟩:∃ m:Nat,n=(m:Int):=⟨n.toNat,by omega⟩
   have hml:m<ns.length:=by omega
   have hll:=ZM hKI ns.length m hml;have hge:=Xg hKI ns.length m;obtain ⟨l,hl⟩:∃ l,lastF ns.length ns m=l:=⟨_,rfl⟩;have hle2:en=((l+1:Nat):Int):=by rw[hle,←hl];simp
   rw[hl]at hll hge
   clear hle hl HE HN hg ha h0;subst hle2;obtain ⟨b,o,cap2,_,_,hv,_,_,_⟩:=(H.out.later hB2).nodes.at (i:=m) (x:=ns[m]) (by simp[hml])
   injection hv with hv1 _ hv2
   subst hv1 hv2;have HND:Hid (qr S w (.slice (some ⟨b,o,none⟩) ns.length cap) ns):=H.out.nodes;have hei:(((l+1:Nat):Int)==0)=false:=by simp;omega
   have h1:(0:Int)≤(m:Int):=by omega
   have h2:(m:Int)≤((l+1:Nat):Int):=by omega
   have h3:((l+1:Nat):Int)≤(cap:Int):=by omega
   have d0a:(w2.alloc (.cells #[.pointer none,.slice none 0 0] 99)).cell? ⟨w.heap.size,0,none⟩=some (.slice (some ⟨b,o,none⟩) ns.length cap):=Lib.cell?_alloc_some _ d0;have hs2:=hB2.size;go_wp2_with fail;have hb3:=Below.alloc1 w2 (.cells #[.pointer none,.slice none 0 0] 99)
   go_loopg [20] (l+1-m) (fun g j wr=>∃ i:Nat,i+g=l+1-m∧j=.int .i64 (i:Int)∧Below w2.heap.size w2 wr∧w2.heap.size<wr.heap.size∧Lib.IsBuilder 99 5 w2.heap.size w2.heap.size (Lib.byteCells (((ns.drop m).take i).flatMap txt)) wr)
   case atStart => exact ⟨0,by omega,rfl,hb3,by simp,Or.inl ⟨nR9 _,.slice none 0 0,heap_alloc_new _ _,World.ownsRow_nil _ _ _ _,by intro e;cases e⟩⟩
   case round =>
    obtain ⟨i,hi,rfl,hBr,hsr,hBd⟩:=hrel;have HBd:Hid _:=hBd;have hBw:Below w.heap.size w wr:=hB2.trans (hBr.mono hs2);clear hBd hb3 d0 d0a
    by_cases hil:i<l+1-m
    · have hmi : m + i < ns.length := by omega
      obtain ⟨x,hx⟩:∃ x,ns[m+i]?=some x:=⟨ns[m+i],by simp[hmi]⟩
      obtain ⟨b',o',cap',va,vk,hv',_,_,_,hbw,c0,c1,c2,c3,c4,hAt,hKi⟩:=(HND.out.later hBw).at hx
      injection hv' with hv1 _ hv2
      injection hv1 with hv1
      injection hv1 with hv3 hv4
      subst hv3 hv4 hv2;obtain ⟨aa,ac,rfl⟩:=hAt.shape;obtain ⟨ka,kc,rfl,_,_⟩:=hKi.shape;have e5:o+(m+i)*5=o+m*5+i*5:=by omega
      rw[e5]at c0 c1 c2 c3 c4
      have hxl:(ns.drop m)[i]?=some x:=by rw[List.getElem?_drop];exact hx
      have hil2:i<(ns.drop m).length:=by simp;omega
      have hsn:((ns.drop m).take (i+1)).flatMap txt=((ns.drop m).take i).flatMap txt++txt x:=by
       rw[List.take_succ_eq_append_getElem hil2,List.flatMap_append];have:(ns.drop m)[i]=x:=by rw[List.getElem?_eq_getElem hil2]at hxl;exact Option.some.inj hxl
       rw[this];simp
      have HSN:Hid _:=hsn
      have hlen1:(((ns.drop m).take i).flatMap txt).length≤1099511627776:=by
       have h1:=Jo (ns.drop m) i;have h2:((ns.drop m).map fun x=>x.s.size)=(ns.map fun x=>x.s.size).drop m:=by rw[List.map_drop]
       rw[h2]at h1
       have:=XB (ns.map fun x=>x.s.size) m
       omega
      have hlen2:x.s.size≤1099511627776:=Nat.le_trans (XT (List.mem_of_getElem? hx)) hsum;have HLL:Hid ((Lib.byteCells (((ns.drop m).take i).flatMap txt)).length+x.s.size≤140737488355328):=by show _≤_;rw[Lib.byteCells_length];omega
      have hili:(i:Int)<((l+1-m:Nat):Int):=by omega
      have hb4:=Below.alloc1 wr (.cells #[.bool x.text,.string x.s,.slice aa x.attrs.length ac,.int .i64 x.parent,.slice ka x.kids.length kc] 90);have HBd4:Hid _:=Js HBd.out hb4;have HT:Hid (txt x=if x.text then x.s.data.toList else []):=rfl
      clear hx hxl hsn hAt hKi e5 hlen1 hlen2;cases htx:x.text with
      | true =>
        rw[htx]at c0 hb4 HBd4 HT
        go_wp2_with fail;refine (Calls.mono (Yg w2.heap.size w2.heap.size _ x.s _ HBd4.out HLL.out (by simp;omega)) ?_)
        rintro e w5 ⟨rfl,hBd5,hb5⟩;go_wp2_with fail
        go_roundg (l+1-m-(i+1))
        case measure => omega
        case rel =>
         refine ⟨i+1,by omega,by go_num,(hBr.trans (hb4.mono (by omega))).trans hb5,Nat.lt_of_lt_of_le hsr (Nat.le_trans hb4.size hb5.size),Or.inr ?_⟩
         rw[HSN.out,HT.out,Lib.byteCells_append];exact hBd5
      | false =>
        rw[htx]at c0 hb4 HBd4 HT
        go_wp2_with fail
        go_roundg (l+1-m-(i+1))
        case measure => omega
        case rel =>
         refine ⟨i+1,by omega,by go_num,hBr.trans (hb4.mono (by omega)),Nat.lt_of_lt_of_le hsr hb4.size,?_⟩
         rw[HSN.out,HT.out];have e:=HBd4.out;rw[←List.append_nil (((ns.drop m).take i).flatMap txt)]at e
         exact e
    · have hii : i = l + 1 - m := by omega
      have hili:¬ (i:Int)<((l+1-m:Nat):Int):=by omega
      have HE3:Hid (jb ns (m:Int)=((ns.drop m).take i).flatMap txt):=by
       show _=_
       rw[HE2.out,hii]
       congr 1
       rw[List.drop_take];simp
      have HSS:Hid _:=yM w2.heap.size w2.heap.size (((ns.drop m).take i).flatMap txt) wr HBd.out (by omega)
      clear hii;go_wp2_with fail;refine (Calls.mono HSS.out ?_);rintro e w6 ⟨rfl,hb6⟩;go_wp2_with fail;go_ret;exact ⟨by rw[HE3.out];rfl,hBw.trans (hb6.mono hs2)⟩
end
section
attribute [local go_sem] qg
theorem intInfo:(Tryd.prog.info? 3).map (fun i=>(i.zero,i.size,i.bytes))=some (some (.int .i64 0),1,8):=by kernel_rfl
theorem x6 {ops:Array Oper}{o:Oper}{a:Act}{w:World}{K:Act→World→Prop}{Q:Exit→Act→World→Prop}{E:Prop}
 (hg:o.guard=none) (s x:Operand) (hop:o.op=Op.call { callee:=Callee.builtin Builtin.append,args:=#[s,x],argTypes:=#[88,88] })
 (B:Nat) (v:Value) (n:Nat) (xs:List Value) (hs:a.eval s=v) (hown:w.ownsRow B 3 1 v n xs) (ad:Addr) (k:Int) (hx:a.eval x=.slice (some ad) 1 1)
 (hnews:∀ j u,[Value.int .i64 k][j]?=some u→w.cell? (ad.add j)=some u) (hn:n≤1048576) (hB:B≤w.heap.size)
 (hK:∀ v' w',w'.ownsRow B 3 1 v' (n+1) (xs++[.int .i64 k])→w.grownBy w' v.ownBlock→(v'.ownBlock=v.ownBlock∨v'.ownBlock=some w.heap.size)→K (a.put o.dst v') w') :
 if Region.wanted o (yielded ops a.tmps)=true then Oper.wp Tryd.prog o a w K Q else E:=by
 have hw:Region.wanted o (yielded ops a.tmps)=true:=by simp[Region.wanted,hg]
 rw[if_pos hw];obtain ⟨i0,hi,hz0,hz1,hz2⟩:=info_parts intInfo;obtain ⟨v',w',hr,h2,h3,_,h5⟩:=run_append_own_at (P:=Tryd.prog) w B 88 o.type 3 i0 _ 1 8 Tryd.underlying88 hi hz0 hz1 hz2 rfl (by decide) v n xs hown ad 1 1 [.int .i64 k] rfl hnews (by intro u hu;simp at hu;subst hu;rfl) (by unfold maxLen;omega) (by omega) hB
 unfold Oper.wp;simp[execOp,hop,resolve,invoke,builtin,hs,hx,hr,Result.andThen];exact hK v' w' h2 h3 h5
def Y2 (d:Nat):Prop:=∀ (S:Nat→Prop) (va vk:Value) (t:Tr) (par:Int) (nb cb nx:Nat) (ms:List Rw) (w:World),qe S w va t.attrs→qb S w d vk t.kids→(∀ b,S b→b<w.heap.size∧b≠nb∧b≠cb)→nb≠cb→Row nb ms w→Cnt cb nx w →
 nx+cnt (d+1) [t]≤ms.length→ms.length≤80→FewN (d+1) [t] →
 Calls Tryd.prog 66 #[.slice (some ⟨nb,0,none⟩) ms.length ms.length,.agg #[.bool t.text,.string t.s,va,vk],.int .i64 par,.pointer (some ⟨cb,0,none⟩)] w fun e w'=>e=.returned (.tuple #[]) ∧
  ∃ ms',Row nb ms' w'∧ms'.length=ms.length∧Cnt cb (nx+cnt (d+1) [t]) w'∧(∀ i,i<nx∨nx+cnt (d+1) [t]≤i→ms'[i]?=ms[i]?)∧Laid (fun b=>w.heap.size≤b) w' ms' nx (layF d t par nx)∧LFr nb cb w w'
structure LS (w:World) (nb cb nx d:Nat) (t:Tr) (par:Int) (ms:List Rw) (bx:Array Value) (M:Nat) (va:Value) (i j:Nat) (v:Value) (mi:List Rw) (W:World):Prop where
 row:Row nb mi W
 len:mi.length=ms.length
 num:Cnt cb (nx+1+cnt d (t.kids.take j)) W
 old:∀ l,l<nx∨nx+cnt (d+1) [t]≤l→mi[l]?=ms[l]?
 me:mi[nx]?=some ⟨t.text,t.s,va,par,v⟩
 own:W.ownsRow M 3 1 v i ((qh (d-1) (nx+1) (t.kids.take i)).map fun k=>Value.int .i64 k)
 att:qe (fun b=>w.heap.size≤b∧b<M) W va t.attrs
 laid:Laid (fun b=>w.heap.size≤b∧v.ownBlock≠some b) W mi (nx+1) (qn (d-1) (layF (d-1)) nx (nx+1) (t.kids.take j))
 box:W.heap[w.heap.size]?=some (.cells bx 25 (0,0))
 fr:LFr nb cb w W
 le:M≤W.heap.size
 lo:w.heap.size<M
theorem xI {d:Nat}{ts:List Tr}{i:Nat}{k:Tr}(hk:ts[i]?=some k):cnt (d+1) (ts.take (i+1))=cnt (d+1) (ts.take i)+cnt (d+1) [k]∧cnt (d+1) (ts.take i)+cnt (d+1) [k]≤cnt (d+1) ts:=by
  have hi:i<ts.length:=by
    rcases Nat.lt_or_ge i ts.length with h'|h'
    · exact h'
    · rw[List.getElem?_eq_none h']at hk;cases hk
  have e1:ts.take (i+1)=ts.take i++[k]:=by
    rw[List.take_succ_eq_append_getElem hi];congr 2;simpa[hi] using hk
  have e2:ts=ts.take (i+1)++ts.drop (i+1):=(List.take_append_drop _ _).symm;have happ:∀ a b:List Tr,cnt (d+1) (a++b)=cnt (d+1) a+cnt (d+1) b:=by intro a b;simp[cnt]
  refine ⟨by rw[e1,happ],?_⟩
  have h3 : cnt (d + 1) ts = cnt (d + 1) (ts.take (i + 1)) + cnt (d + 1) (ts.drop (i + 1)) := by conv => lhs;rw[e2]
                                                                                                 exact happ _ _
  rw[h3,e1,happ];omega
theorem j8 {ts:List Tr}{i:Nat}{k:Tr}(hk:ts[i]?=some k):ts.take (i+1)=ts.take i++[k]:=by
 have hi:i<ts.length:=by
  rcases Nat.lt_or_ge i ts.length with h'|h'
  · exact h'
  · rw[List.getElem?_eq_none h']at hk;cases hk
 rw[List.take_succ_eq_append_getElem hi];congr 2;simpa[hi] using hk
theorem Ju {w:World}{nb cb nx d:Nat}{t:Tr}{par:Int}{ms:List Rw}{bx:Array Value}{M:Nat}{va:Value}{i:Nat}{v v':Value}{mi:List Rw}{wr w6:World}{k:Tr}{X Y:Obj}
 (hL:LS w nb cb nx (d+1) t par ms bx M va i i v mi wr) (hk:t.kids[i]?=some k) (hnl:nb<w.heap.size) (hcl:cb<w.heap.size) (hnc:nb≠cb)
 (hown:w6.ownsRow M 3 1 v' (i+1) ((qh d (nx+1) (t.kids.take i)).map (fun k=>Value.int .i64 k)++[.int .i64 ((nx+1+cnt (d+1) (t.kids.take i):Nat):Int)]))
 (hgr:((wr.alloc Y).alloc X).drew.grownBy w6 v.ownBlock) (hat:v'.ownBlock=v.ownBlock∨v'.ownBlock=some ((wr.alloc Y).alloc X).drew.heap.size) :
 LS w nb cb nx (d+1) t par ms bx M va (i+1) i v' (mi.set nx ⟨t.text,t.s,va,par,v'⟩) (w6.setCell ⟨nb,nx*5+4,none⟩ v')∧(∀ b,b<wr.heap.size→b<M→b≠nb→(w6.setCell ⟨nb,nx*5+4,none⟩ v').heap[b]?=wr.heap[b]?)∧(w6.setCell ⟨nb,nx*5+4,none⟩ v').heap[wr.heap.size]?=some Y∧wr.heap.size<(w6.setCell ⟨nb,nx*5+4,none⟩ v').heap.size:=by
 have hlo:=hL.lo;have hle:=hL.le;have hs6:=hgr.size
 have hsx:((wr.alloc Y).alloc X).drew.heap.size=wr.heap.size+1+1:=by
  show ((wr.alloc Y).alloc X).heap.size=_
  rw[World.size_alloc,World.size_alloc]
 rw[hsx]at hs6
 have hrow:∀ b,v.ownBlock=some b→M≤b∧b<wr.heap.size:=fun b hb=>hL.own.lt b hb
 have hkeep6:∀ b,b<wr.heap.size→v.ownBlock≠some b→w6.heap[b]?=wr.heap[b]?:=by
  intro b h1 h2;rw[hgr.block b (by rw[hsx];omega) (fun e=>h2 e.symm)]
  show ((wr.alloc Y).alloc X).heap[b]?=_
  rw[Lib.alloc_old _ _ _ (by rw[World.size_alloc];omega)]
  exact Lib.alloc_old _ _ _ h1
 have hkeep:∀ b,b<wr.heap.size→b≠nb→v.ownBlock≠some b→(w6.setCell ⟨nb,nx*5+4,none⟩ v').heap[b]?=wr.heap[b]?:=fun b h1 h2 h3=>by rw[qd h2,hkeep6 b h1 h3]
 have hsz:(w6.setCell ⟨nb,nx*5+4,none⟩ v').heap.size=w6.heap.size:=by simp
 have hnv:v.ownBlock≠some nb:=fun e=>by have:=(hrow nb e).1;omega
 have hcv:v.ownBlock≠some cb:=fun e=>by have:=(hrow cb e).1;omega
 have hfr:=hL.fr.below.size;have hr6:Row nb mi w6:=(hkeep6 nb (by omega) hnv).trans hL.row
 have hnx:nx<mi.length:=by
  rcases Nat.lt_or_ge nx mi.length with h'|h'
  · exact h'
  · have:=hL.me;rw[List.getElem?_eq_none h']at this;cases this
 have hvb:v.ownBlock≠some wr.heap.size:=fun e=>by have:=(hrow _ e).2;omega
 have hB6:Below 0 w w6:=((hL.fr.below.alloc (nZ9 _) Y).alloc (nZ9 _) X).drew.grown hgr (nZ9 _) (fun _ _=>nZ9 _)
 refine ⟨⟨hr6.putK hL.me v',by simp[hL.len],?_,?_,?_,?_,?_,?_,?_,⟨hB6.setCell (p:=⟨nb,nx*5+4,none⟩) (nZ9 _) _,?_⟩,by rw[hsz];omega,hlo⟩,?_,?_,by rw[hsz];omega⟩
 · unfold Cnt;rw[hkeep cb (by omega) (fun e=>hnc e.symm) hcv]
   exact hL.num
 · intro l hl;rw[List.getElem?_set_ne (by have:=qp (d+1) t;omega)]
   exact hL.old l hl
 · rw[List.getElem?_set_self hnx]
 · have e:(qh (d+1-1) (nx+1) (t.kids.take (i+1))).map (fun k=>Value.int .i64 k)=(qh d (nx+1) (t.kids.take i)).map (fun k=>Value.int .i64 k)++[.int .i64 ((nx+1+cnt (d+1) (t.kids.take i):Nat):Int)]:=by
    rw[j8 hk]
    show (qh d (nx+1) (t.kids.take i++[k])).map _=_
    rw[yH,List.map_append];rfl
   rw[e];refine qo hown fun b hb=>qd ?_
   have:=(hown.lt b hb).1;omega
 · refine hL.att.bounded.carry fun b hb=>⟨hb.1,hkeep b hb.2 (by have:=hb.1.1;omega) (fun e=>by have:=(hrow b e).1;have:=hb.1.2;omega)⟩
 · refine hL.laid.carry (fun b hb hlt => ⟨⟨hb.1, fun e => ?_⟩, hkeep b hlt (by have := hb.1;omega) hb.2⟩) (fun l h1 _ => by rw[List.getElem?_set_ne (by omega)])
   rcases hat with h1|h1
   · exact hb.2 (h1.symm.trans e)
   · rw[h1,hsx]at e;injection e with e;omega
 · rw[hkeep _ (by omega) (by omega) (fun e=>by have:=(hrow _ e).1;omega)];exact hL.box
 · intro b h1 h2 h3;rw[hkeep b (by omega) h2 (fun e=>by have:=(hrow b e).1;omega)]
   exact hL.fr.frame b h1 h2 h3
 · intro b h1 h2 h3;exact hkeep b h1 h3 (fun e=>by have:=(hrow b e).1;omega)
 · rw[qd (by omega), hgr.block _ (by rw[hsx];omega) (fun e => hvb e.symm)]
   show ((wr.alloc Y).alloc X).heap[wr.heap.size]?=_
   rw[Lib.alloc_old _ _ _ (by rw[World.size_alloc];omega)]
   exact heap_alloc_new _ _
theorem Jv {w:World}{nb cb nx d:Nat}{t:Tr}{par:Int}{ms:List Rw}{bx:Array Value}{M:Nat}{va:Value}{i:Nat}{v:Value}{mi mj:List Rw}{w7 w8:World}{k:Tr}
 (hL:LS w nb cb nx (d+1) t par ms bx M va (i+1) i v mi w7) (hk:t.kids[i]?=some k) (hdk:Deep d k.kids) (hdt:Deep (d+1) t.kids) (hnl:nb<w.heap.size) (hcl:cb<w.heap.size) (hR:Row nb mj w8) (hlen:mj.length=mi.length)
 (hC:Cnt cb (nx+1+cnt (d+1) (t.kids.take i)+cnt (d+1) [k]) w8) (hold:∀ l,l<nx+1+cnt (d+1) (t.kids.take i)∨nx+1+cnt (d+1) (t.kids.take i)+cnt (d+1) [k]≤l→mj[l]?=mi[l]?)
 (hLd:Laid (fun b=>w7.heap.size≤b) w8 mj (nx+1+cnt (d+1) (t.kids.take i)) (layF d k nx (nx+1+cnt (d+1) (t.kids.take i)))) (hF:LFr nb cb w7 w8) :
 LS w nb cb nx (d+1) t par ms bx M va (i+1) (i+1) v mj w8:=by
 have hs:=hF.below.size;have hfr:=hL.fr.below.size;have hlo:=hL.lo;obtain ⟨hcu,hcl2⟩:=xI (d:=d) hk;have hct:=qp (d+1) t;have hrow:∀ b,v.ownBlock=some b→M≤b∧b<w7.heap.size:=fun b hb=>hL.own.lt b hb
 have hkeep:∀ b,b<w7.heap.size→w.heap.size≤b→w8.heap[b]?=w7.heap[b]?:=fun b h1 h2=>hF.frame b h1 (by omega) (by omega)
 have hll:(qn d (layF d) nx (nx+1) (t.kids.take i)).length=cnt (d+1) (t.kids.take i):=by
  have:∀ (ts:List Tr) (a:Nat),Deep (d+1) ts→(qn d (layF d) nx a ts).length=cnt (d+1) ts:=by
   intro ts
   induction ts with
   | nil=>intro _ _;rfl
   | cons u ts ih2 =>
     intro a hd;rw[qn,List.length_append,layF_length d u _ _ (hd u List.mem_cons_self),ih2 _ (fun x hx=>hd x (List.mem_cons_of_mem _ hx)),qQ d u ts]
  exact this _ _ (fun u hu=>hdt u (List.mem_of_mem_take hu))
 have hlk:=layF_length d k (nx:Int) (nx+1+cnt (d+1) (t.kids.take i)) hdk;refine ⟨hR,hlen.trans hL.len,?_,?_,?_,?_,?_,?_,?_,?_,by have:=hL.le;omega,hlo⟩
 · rw[hcu,←Nat.add_assoc];exact hC
 · intro l hl;rw[hold l (by omega)]
   exact hL.old l hl
 · rw[hold nx (by omega)];exact hL.me
 · exact qo hL.own fun b hb=>hkeep b (hrow b hb).2 (by have:=(hrow b hb).1;omega)
 · exact hL.att.bounded.carry fun b hb=>⟨hb.1,hkeep b hb.2 hb.1.1⟩
 · rw[j8 hk]
   show Laid _ _ _ _ (qn d (layF d) nx (nx+1) (t.kids.take i++[k]))
   rw[jl];have hone:qn d (layF d) nx (nx+1+cnt (d+1) (t.kids.take i)) [k]=layF d k nx (nx+1+cnt (d+1) (t.kids.take i)):=by simp[qn]
   rw[hone];refine Laid.append (hL.laid.carry (fun b hb hlt=>⟨hb,hkeep b hlt hb.1⟩) (fun l h1 h2=>?_)) ?_
   · rw[hold l (Or.inl ?_)];have h3:(qn (d+1-1) (layF (d+1-1)) nx (nx+1) (t.kids.take i)).length=cnt (d+1) (t.kids.take i):=hll;omega
   · rw[hll];exact hLd.carry (fun b hb _=>⟨⟨by omega,fun e=>by have:=(hrow b e).2;omega⟩,rfl⟩) (fun _ _ _=>rfl)
 · rw[hkeep _ (qf hL.box) (nR9 _)];exact hL.box
 · exact hL.fr.trans hF
theorem qX.of_owns {w:World}{B:Nat}{v:Value}{l:List Int}{S:Nat→Prop}(hS:∀ b,B≤b→S b)(h:w.ownsRow B 3 1 v l.length (l.map fun k=>Value.int .i64 k)):qX S w v l:=by
 rcases h.2 with ⟨hv,h0⟩|⟨g,cap,cur,hv,hg,hh,hc,hm,hs,ht⟩
 · have : l = [] := List.eq_nil_of_length_eq_zero h0;subst this hv;exact qX.nil
 · subst hv;refine ⟨_,cap,rfl,hc,hm,fun _=>⟨g,0,rfl,hS g hg,fun i x hx=>?_⟩⟩
   have hi:i<l.length:=by
    rcases Nat.lt_or_ge i l.length with h'|h'
    · exact h'
    · rw[List.getElem?_eq_none h']at hx;cases hx
   rw[Nat.zero_add,World.ownsRow.cellAt h i (by omega)]
   simp[hx]
theorem XO {d:Nat}{t:Tr}(h:Deep d t.kids)(par:Int)(nx:Nat):layF d t par nx=⟨t.text,t.s,t.attrs,par,qh (d-1) (nx+1) t.kids⟩::qn (d-1) (layF (d-1)) nx (nx+1) t.kids:=by
 cases d with
 | zero =>
   have e:t.kids=[]:=h;rw[e];rfl
 | succ d=>rfl
theorem Xh {w:World}{nb cb nx d:Nat}{t:Tr}{par:Int}{ms:List Rw}{bx:Array Value}{M:Nat}{va:Value}{v:Value}{mi:List Rw}{W:World}(hd:Deep d t.kids)(h:LS w nb cb nx d t par ms bx M va t.kids.length t.kids.length v mi W) :
 Row nb mi W∧mi.length=ms.length∧Cnt cb (nx+cnt (d+1) [t]) W∧(∀ i,i<nx∨nx+cnt (d+1) [t]≤i→mi[i]?=ms[i]?)∧Laid (fun b=>w.heap.size≤b) W mi nx (layF d t par nx)∧LFr nb cb w W:=by
 have hn:=h.num;rw[List.take_length]at hn
 have hlo:=h.lo;refine ⟨h.row,h.len,?_,h.old,?_,h.fr⟩
 · rw[qp,←Nat.add_assoc];exact hn
 · rw[XO hd];have hl:=h.laid;have ho:=h.own;rw[List.take_length]at hl ho
   intro i x hx;cases i with
   | zero =>
     simp only[List.getElem?_cons_zero,Option.some.injEq]at hx
     subst hx;refine ⟨_,h.me,rfl,rfl,rfl,h.att.carry fun b hb=>⟨hb.1,rfl⟩,?_⟩
     exact qX.of_owns (B:=M) (fun b hb=>by omega) (by rw[xv];exact ho)
   | succ i =>
     simp only[List.getElem?_cons_succ]at hx
     obtain ⟨r,hr,hR⟩:=hl i x hx;exact ⟨r,by rw[show nx+(i+1)=nx+1+i by omega];exact hr,hR.carry fun b hb=>⟨hb.1,rfl⟩⟩
set_option maxHeartbeats 2000000 in
theorem Xi (d:Nat)(ih:∀ m,d=m+1→Y2 m):Y2 d:=by
 intro S va vk t par nb cb nx ms w hA hK hS hnc hR hC hN h80 hFw;obtain ⟨aa,ac,rfl⟩:=hA.shape;obtain ⟨ka,kc,rfl,hkl,hkm⟩:=qb.shape d hK;unfold maxLen at hkm
 have hcnt:=qp d t;have hnx:nx<ms.length:=by omega
 obtain ⟨r0,hr0⟩:∃ r0,ms[nx]?=some r0:=⟨ms[nx],by simp[hnx]⟩
 have hal:=(hFw t List.mem_cons_self).1;have c0:=hC.c0;have f0:=hC.f0;have hcl:=hC.lt;have hnl:nb<w.heap.size:=qf hR;have IH:Hid (∀ m,d=m+1→Y2 m):=ih;have hcx:∀ X,(w.alloc X).cell? ⟨cb,0,none⟩=some (.int .i64 (nx:Int)):=fun X=>Lib.cell?_alloc_some _ c0
 have hb1:=Below.alloc1 w (.cells #[.bool t.text,.string t.s,.slice aa t.attrs.length ac,.slice ka t.kids.length kc] 25);have hx1:=heap_alloc_new w (.cells #[.bool t.text,.string t.s,.slice aa t.attrs.length ac,.slice ka t.kids.length kc] 25);have hC1:=hC.later hb1;have hfz1:=hC1.f0;have hce1:=hC1.c0;have hz1:(w.alloc (.cells #[.bool t.text,.string t.s,.slice aa t.attrs.length ac,.slice ka t.kids.length kc] 25)).heap.size=w.heap.size+1:=by simp
 clear ih hcx c0 f0
 go_enter Tryd.func66,Tryd.ntmps66
 go_wp2_with fail
 have hc2:Cnt cb (nx+1) (w.setCell ⟨cb,0,none⟩ (.int .i64 ((nx:Int)+1))):=by
  have:=hC.put (nx+1)
  simpa using this
 have hsz2:(w.setCell ⟨cb,0,none⟩ (.int .i64 ((nx:Int)+1))).heap.size=w.heap.size:=by simp
 have hb2:=Below.alloc1 (w.setCell ⟨cb,0,none⟩ (.int .i64 ((nx:Int)+1))) (.cells #[.bool t.text,.string t.s,.slice aa t.attrs.length ac,.slice ka t.kids.length kc] 25);have hx2:=heap_alloc_new (w.setCell ⟨cb,0,none⟩ (.int .i64 ((nx:Int)+1))) (.cells #[.bool t.text,.string t.s,.slice aa t.attrs.length ac,.slice ka t.kids.length kc] 25);rw[hsz2]at hx2
 have hC2:=hc2.later hb2;have hF2:LFr nb cb w _:=(LFr.putC nb cb w 0 (.int .i64 ((nx:Int)+1))).trans (LFr.later hb2)
 have hR2:Row nb ms ((w.setCell ⟨cb,0,none⟩ (.int .i64 ((nx:Int)+1))).alloc (.cells #[.bool t.text,.string t.s,.slice aa t.attrs.length ac,.slice ka t.kids.length kc] 25)):=by
  unfold Row;rw[hb2.block nb (by rw[hsz2];exact hnl),qd hnc]
  exact hR
 have hz2:((w.setCell ⟨cb,0,none⟩ (.int .i64 ((nx:Int)+1))).alloc (.cells #[.bool t.text,.string t.s,.slice aa t.attrs.length ac,.slice ka t.kids.length kc] 25)).heap.size=w.heap.size+1:=by simp
 generalize (w.setCell ⟨cb,0,none⟩ (.int .i64 ((nx:Int)+1))).alloc (.cells #[.bool t.text,.string t.s,.slice aa t.attrs.length ac,.slice ka t.kids.length kc] 25)=W2 at hb2 hx2 hC2 hF2 hR2 hz2 ⊢
 have HZ2:Hid (W2.heap.size=w.heap.size+1):=hz2;have hlt2:w.heap.size<W2.heap.size:=by omega
 have HCL:Hid (∀ W,(∀ b,S b→W.heap[b]?=w.heap[b]?)→Calls Tryd.prog 102 #[.slice aa t.attrs.length ac] W fun e w'=>∃ v',e=.returned v'∧qe (qY W.heap.size 69 w') w' v' t.attrs∧Below W.heap.size W w'):=fun W hW=>Qv S _ t.attrs W (hA.carry fun b hb=>⟨hb,hW b hb⟩) (Nat.le_trans hal (by decide))
 have HSF:Hid (∀ W,LFr nb cb w W→∀ b,S b→W.heap[b]?=w.heap[b]?):=fun W hW b hb=>hW.frame b (hS b hb).1 (hS b hb).2.1 (hS b hb).2.2
 have HWW:Hid (∀ W':World,W'.heap[w.heap.size]?=W2.heap[w.heap.size]?→W'.cell? ⟨w.heap.size,0,none⟩=some (.bool t.text)∧W'.cell? ⟨w.heap.size,1,none⟩=some (.string t.s)∧W'.cell? ⟨w.heap.size,2,none⟩=some (.slice aa t.attrs.length ac)):=by
  intro W' h2;rw[hx2]at h2
  exact ⟨by rw[cH9 h2];rfl,by rw[cH9 h2];rfl,by rw[cH9 h2];rfl⟩
 have HKT:Hid (qb S w d (.slice ka t.kids.length kc) t.kids):=hK;have HFW:Hid (FewN d t.kids):=(hFw t List.mem_cons_self).2;have HSS:Hid (∀ b,S b→b<w.heap.size∧b≠nb∧b≠cb):=hS;have HR2:Hid (Row nb ms W2):=hR2;have HC2:Hid (Cnt cb (nx+1) W2):=hC2;have HF2:Hid (LFr nb cb w W2):=hF2;have HX2:Hid _:=hx2;have HFD:Hid (LFr nb cb w W2.drew):=⟨hF2.below.drew,hF2.frame⟩;have hnxi:(nx:Int)<(ms.length:Int):=by omega
 obtain ⟨y0,y1,y2⟩:=HWW.out W2 rfl;have HSD:Hid _:=HWW.out W2.drew rfl;have hnbw:w.heap.size≠nb:=by omega
 have hncw:w.heap.size≠cb:=by omega
 clear hA hK hS hR hC hFw hb1 hx1 hC1 hfz1 hce1 hz1 hb2 hx2 hC2 hF2 hR2 hz2 hc2 hsz2
 go_region_held3 (fun W:World=>W.cell? ⟨w.heap.size,0,none⟩=some (.bool t.text)∧W.cell? ⟨w.heap.size,1,none⟩=some (.string t.s)∧W.cell? ⟨w.heap.size,2,none⟩=some (.slice aa t.attrs.length ac))
  (first
   | with_reducible exact HS3.out
   | with_reducible exact HS4.out
   | with_reducible exact HSD.out)
  (first
   | (go_at_call 102;refine (Calls.mono (HCL.out W2.drew (HSF.out _ HFD.out)) ?_);rintro e w3 ⟨va3,rfl,hA3,hb3⟩;obtain ⟨a3,c3',rfl⟩:=hA3.shape;have hr3:Row nb ms w3:=(hb3.block nb (Nat.lt_trans hnl hlt2)).trans HR2.out;obtain ⟨g0,g1,g2,g3,g4⟩:=hr3.cells hr0;have k0:=hr3.frozen (nx*5);have k1:=hr3.frozen (nx*5+1);have k2:=hr3.frozen (nx*5+2);have k3:=hr3.frozen (nx*5+3);have k4:=hr3.frozen (nx*5+4);have HS3:Hid _:=HWW.out w3 (hb3.block _ hlt2);have HS4:Hid _:=HWW.out (((((w3.setCell ⟨nb,nx*5,none⟩ (.bool t.text)).setCell ⟨nb,nx*5+1,none⟩ (.string t.s)).setCell ⟨nb,nx*5+2,none⟩ (.slice a3 t.attrs.length c3')).setCell ⟨nb,nx*5+3,none⟩ (.int .i64 par)).setCell ⟨nb,nx*5+4,none⟩ (.slice none 0 0)) (by rw[qd hnbw,qd hnbw,qd hnbw,qd hnbw,qd hnbw];exact hb3.block _ hlt2)))
 have hLS:LS w nb cb nx d t par ms #[.bool t.text,.string t.s,.slice aa t.attrs.length ac,.slice ka t.kids.length kc] (((((w3.setCell ⟨nb,nx*5,none⟩ (.bool t.text)).setCell ⟨nb,nx*5+1,none⟩ (.string t.s)).setCell ⟨nb,nx*5+2,none⟩ (.slice a3 t.attrs.length c3')).setCell ⟨nb,nx*5+3,none⟩ (.int .i64 par)).setCell ⟨nb,nx*5+4,none⟩ (.slice none 0 0)).heap.size (.slice a3 t.attrs.length c3') 0 0 (.slice none 0 0) (ms.set nx ⟨t.text,t.s,.slice a3 t.attrs.length c3',par,.slice none 0 0⟩) (((((w3.setCell ⟨nb,nx*5,none⟩ (.bool t.text)).setCell ⟨nb,nx*5+1,none⟩ (.string t.s)).setCell ⟨nb,nx*5+2,none⟩ (.slice a3 t.attrs.length c3')).setCell ⟨nb,nx*5+3,none⟩ (.int .i64 par)).setCell ⟨nb,nx*5+4,none⟩ (.slice none 0 0)):=by
  have hz:=HZ2.out;have hs3:W2.heap.size≤w3.heap.size:=hb3.size;have hsz:(((((w3.setCell ⟨nb,nx*5,none⟩ (.bool t.text)).setCell ⟨nb,nx*5+1,none⟩ (.string t.s)).setCell ⟨nb,nx*5+2,none⟩ (.slice a3 t.attrs.length c3')).setCell ⟨nb,nx*5+3,none⟩ (.int .i64 par)).setCell ⟨nb,nx*5+4,none⟩ (.slice none 0 0)).heap.size=w3.heap.size:=by simp
  have hkeep:∀ b,b≠nb→(((((w3.setCell ⟨nb,nx*5,none⟩ (.bool t.text)).setCell ⟨nb,nx*5+1,none⟩ (.string t.s)).setCell ⟨nb,nx*5+2,none⟩ (.slice a3 t.attrs.length c3')).setCell ⟨nb,nx*5+3,none⟩ (.int .i64 par)).setCell ⟨nb,nx*5+4,none⟩ (.slice none 0 0)).heap[b]?=w3.heap[b]?:=fun b hb=>by rw[qd hb,qd hb,qd hb,qd hb,qd hb]
  refine ⟨hr3.put hnx ⟨t.text,t.s,.slice a3 t.attrs.length c3',par,.slice none 0 0⟩,by simp,?_,?_,?_,World.ownsRow_nil _ _ _ _,?_,?_,?_,?_,nR9 _,by rw[hsz];omega⟩
  · unfold Cnt;rw[hkeep cb (fun e=>hnc e.symm),hb3.block cb (by show cb<W2.heap.size;omega)]
    have e:nx+1+cnt d (t.kids.take 0)=nx+1:=by simp[qH]
    rw[e];exact HC2.out
  · intro j hj;rw[List.getElem?_set_ne (by omega)]
  · rw[List.getElem?_set_self hnx]
  · refine hA3.bounded.carry fun b hb=>⟨⟨by have h1:W2.heap.size≤b:=hb.1.1;omega,by rw[hsz];exact hb.2⟩,hkeep b (by have h1:W2.heap.size≤b:=hb.1.1;omega)⟩
  · intro j x hx;simp[qn]at hx
  · rw[hkeep _ hnbw,hb3.block _ hlt2];exact HX2.out
  · exact ⟨(HFD.out.below.trans (hb3.mono (nZ9 _))).trans (((((Below.refl 0 w3).setCell (p:=⟨nb,nx*5,none⟩) (nZ9 _) _).setCell (p:=⟨nb,nx*5+1,none⟩) (nZ9 _) _).setCell (p:=⟨nb,nx*5+2,none⟩) (nZ9 _) _).setCell (p:=⟨nb,nx*5+3,none⟩) (nZ9 _) _ |>.setCell (p:=⟨nb,nx*5+4,none⟩) (nZ9 _) _),
     fun b h1 h2 h3=>by rw[hkeep b h2,hb3.block b (by show b<W2.heap.size;omega)];exact HFD.out.frame b h1 h2 h3⟩
 generalize (((((w3.setCell ⟨nb,nx*5,none⟩ (.bool t.text)).setCell ⟨nb,nx*5+1,none⟩ (.string t.s)).setCell ⟨nb,nx*5+2,none⟩ (.slice a3 t.attrs.length c3')).setCell ⟨nb,nx*5+3,none⟩ (.int .i64 par)).setCell ⟨nb,nx*5+4,none⟩ (.slice none 0 0))=W4 at hLS ⊢
 have q3:W4.cell? ⟨w.heap.size,3,none⟩=some (.slice ka t.kids.length kc):=by rw[cH9 hLS.box];rfl
 have HLS:Hid _:=hLS;clear hLS HS3 HS4 HSD HWW HCL HFD HX2 HF2 HC2 HR2 hr3 hA3 hb3 g0 g1 g2 g3 g4 k0 k1 k2 k3 k4 y0 y1 y2 HZ2 hlt2;go_wp2_with fail
 go_loopg [34] t.kids.length (fun g j wr=>∃ (i:Nat) (v:Value) (mi:List Rw),i+g=t.kids.length∧j=.int .i64 (i:Int)∧LS w nb cb nx d t par ms #[.bool t.text,.string t.s,.slice aa t.attrs.length ac,.slice ka t.kids.length kc] W4.heap.size (.slice a3 t.attrs.length c3') i i v mi wr)
 case atStart => exact ⟨0,.slice none 0 0,_,by omega,rfl,HLS.out⟩
 case round =>
  obtain ⟨i,v,mi,hi,rfl,hL⟩:=hrel;have HL:Hid _:=hL;obtain ⟨ja,jn,jc,rfl⟩:=qC hL.own
  by_cases hil:i<t.kids.length
  · obtain ⟨d',rfl⟩:∃ d',d=d'+1:=by
     cases d with
     | zero=>have:t.kids=[]:=(qb.deep 0 HKT.out);rw[this]at hil;simp at hil
     | succ d'=>exact ⟨d',rfl⟩
    obtain ⟨k,hk⟩:∃ k,t.kids[i]?=some k:=⟨t.kids[i],by simp[hil]⟩
    obtain ⟨ta,tcap,htv,_,_,ht4⟩:=HKT.out;obtain ⟨tb,tof,hta,hSb,htc⟩:=ht4 (by intro e;rw[e]at hil;simp at hil)
    injection htv with htv1 _ htv2
    subst htv1 htv2 hta;obtain ⟨kva,kvk,e0,e1,e2,e3,hkA,hkK⟩:=htc i k hk;have hbw:tb<w.heap.size:=World.block_lt_of_cell? w _ e0;have hbr:wr.heap[tb]?=w.heap[tb]?:=HSF.out wr HL.out.fr tb hSb;rw[←World.cell?_of_block (a:=⟨tb,tof+i*4,none⟩) hbr]at e0
    rw[←World.cell?_of_block (a:=⟨tb,tof+i*4+1,none⟩) hbr]at e1
    rw[←World.cell?_of_block (a:=⟨tb,tof+i*4+2,none⟩) hbr]at e2
    rw[←World.cell?_of_block (a:=⟨tb,tof+i*4+3,none⟩) hbr]at e3
    obtain ⟨xa,xc,rfl⟩:=hkA.shape;obtain ⟨ya,yc,rfl,_,_⟩:=qb.shape d' hkK;obtain ⟨m,hm⟩:∃ m,nx+1+cnt (d'+1) (t.kids.take i)=m:=⟨_,rfl⟩;have hnum:=HL.out.num;rw[hm]at hnum
    have hb5:=Below.alloc1 wr (.cells #[.bool k.text,.string k.s,.slice xa k.attrs.length xc,.slice ya k.kids.length yc] 25);have hC5:=hnum.later hb5;have hR5:Row nb mi (wr.alloc (.cells #[.bool k.text,.string k.s,.slice xa k.attrs.length xc,.slice ya k.kids.length yc] 25)):=(hb5.block nb (qf HL.out.row)).trans HL.out.row;obtain ⟨_,_,_,_,g4⟩:=hR5.cells HL.out.me;have cc:=hC5.c0;have g4a:((wr.alloc (.cells #[.bool k.text,.string k.s,.slice xa k.attrs.length xc,.slice ya k.kids.length yc] 25)).alloc (.cells #[.int .i64 (m:Int)] 3)).cell? ⟨nb,nx*5+4,none⟩=some (.slice ja jn jc):=Lib.cell?_alloc_some _ g4
    have hOW:∀ Y X,((wr.alloc Y).alloc X).drew.ownsRow W4.heap.size 3 1 (.slice ja jn jc) i ((qh d' (nx+1) (t.kids.take i)).map fun k=>Value.int .i64 k):=fun Y X =>
     qq (qq HL.out.own (Below.alloc1 wr Y)) (Below.alloc1 _ X).drew
    have HOW:Hid _:=hOW;have HM:Hid (nx+1+cnt (d'+1) (t.kids.take i)=m):=hm;have hlen5:mi.length=ms.length:=HL.out.len;have HME:Hid _:=HL.out.me;have hili:(i:Int)<(t.kids.length:Int):=by omega
    have hi20:i≤1048576:=by
     have h1:=(xI (d:=d') hk).2;have h2:=qp (d'+1) t
     have h3:i≤cnt (d'+1) (t.kids.take i):=by
      have:∀ (l:List Tr),l.length≤cnt (d'+1) l:=by
       intro l
       induction l with
       | nil=>simp
       | cons x l ihl=>rw[qQ d' x l,qp,List.length_cons];omega
      have:=this (t.kids.take i);rw[List.length_take]at this
      omega
     omega
    have hsr:W4.heap.size≤wr.heap.size:=HL.out.le;have HKA:Hid (qe S w (.slice xa k.attrs.length xc) k.attrs):=hkA;have HKK:Hid (qb S w d' (.slice ya k.kids.length yc) k.kids):=hkK
    have hroom:m+cnt (d'+1) [k]≤ms.length:=by
     have h1:=(xI (d:=d') hk).2;have h2:=qp (d'+1) t;omega
    have hnxm:nx<mi.length:=by omega
    have hfz4:(wr.alloc (.cells #[.bool k.text,.string k.s,.slice xa k.attrs.length xc,.slice ya k.kids.length yc] 25)).frozen? ⟨nb,nx*5+4,none⟩=false:=hR5.frozen _
    have HRW:Hid (∀ (X:Obj) (w6:World),((wr.alloc (.cells #[.bool k.text,.string k.s,.slice xa k.attrs.length xc,.slice ya k.kids.length yc] 25)).alloc X).drew.grownBy w6 (Value.slice ja jn jc).ownBlock→Row nb mi w6):=by
     intro X w6 hg;have hlt5:nb<(wr.alloc (.cells #[.bool k.text,.string k.s,.slice xa k.attrs.length xc,.slice ya k.kids.length yc] 25)).heap.size:=qf hR5;unfold Row;rw[hg.block nb (by show nb<((wr.alloc (.cells #[.bool k.text,.string k.s,.slice xa k.attrs.length xc,.slice ya k.kids.length yc] 25)).alloc X).heap.size;rw[World.size_alloc];omega) (fun e=>by have:=(HL.out.own.lt nb e.symm).1;have:=HL.out.lo;omega)]
     show ((wr.alloc (.cells #[.bool k.text,.string k.s,.slice xa k.attrs.length xc,.slice ya k.kids.length yc] 25)).alloc X).heap[nb]?=_
     rw[Lib.alloc_old _ _ _ hlt5];exact hR5
    clear hL hkA hkK htc ht4 hnum hOW hm hR5 hC5 q3;go_wp2_with fail
    go_region_law (first
     | (refine x6 (by rfl) (.tmp 44) (.tmp 48) (by rfl) W4.heap.size (.slice ja jn jc) i ((qh d' (nx+1) (t.kids.take i)).map fun k=>Value.int .i64 k) (by simp[Act.eval]) (HOW.out _ _) ⟨(wr.alloc (.cells #[.bool k.text,.string k.s,.slice xa k.attrs.length xc,.slice ya k.kids.length yc] 25)).heap.size,0,none⟩ (m:Int) (by simp[Act.eval]) (fun j u hj=>cell_one_new _ _ _ j u hj) hi20 (by simp;omega) ?_;intro v6 w6 hown6 hgr6 hat6;obtain ⟨a6,n6,c6,rfl⟩:=qC hown6;obtain ⟨_,_,_,_,z6⟩:=(HRW.out _ w6 hgr6).cells HME.out;have f6:=(HRW.out _ w6 hgr6).frozen (nx*5+4)))
    all_goals
     obtain ⟨hL7,hkp7,hbx7,hs7⟩:=Ju HL.out hk hnl hcl hnc (by rw[HM.out];exact hown6) hgr6 hat6
     generalize w6.setCell ⟨nb,nx*5+4,none⟩ (.slice a6 n6 c6)=W7 at hL7 hkp7 hbx7 hs7 ⊢
     have q0:W7.cell? ⟨wr.heap.size,0,none⟩=some (.bool k.text):=by rw[cH9 hbx7];rfl
     have q1:W7.cell? ⟨wr.heap.size,1,none⟩=some (.string k.s):=by rw[cH9 hbx7];rfl
     have q2:W7.cell? ⟨wr.heap.size,2,none⟩=some (.slice xa k.attrs.length xc):=by rw[cH9 hbx7];rfl
     have q3:W7.cell? ⟨wr.heap.size,3,none⟩=some (.slice ya k.kids.length yc):=by rw[cH9 hbx7];rfl
     have hn7:=hL7.num;rw[HM.out]at hn7
     have hSF7:=HSF.out W7 hL7.fr;have hw7:=hL7.fr.below.size
     have hcall:=IH.out d' rfl S _ _ k (nx:Int) nb cb m _ W7 (HKA.out.carry fun b hb=>⟨hb,hSF7 b hb⟩) (qb.carry (fun b hb=>⟨hb,hSF7 b hb⟩) d' HKK.out) (fun b hb=>⟨by have:=(HSS.out b hb).1;omega,(HSS.out b hb).2⟩) hnc hL7.row hn7 (by rw[hL7.len];exact hroom) (by rw[hL7.len];exact h80) (by
      intro u hu;simp only[List.mem_singleton]at hu
      subst hu;exact HFW.out _ (List.mem_of_getElem? hk))
     rw[hL7.len]at hcall
     have HCALL:Hid _:=hcall;have HL7:Hid _:=hL7;clear hcall hL7 hown6 hgr6 hat6 z6 f6 g4 g4a cc e0 e1 e2 e3 hn7 hSF7 hkp7 hbx7;go_wp2_with fail;refine (Calls.mono HCALL.out ?_);rintro e w8 ⟨rfl,mj,hR8,hlen8,hC8,hold8,hLd8,hF8⟩;have HL8:Hid _:=Jv HL7.out hk (qb.deep d' HKK.out) (qb.deep (d'+1) HKT.out) hnl hcl hR8 (by rw[HL7.out.len];exact hlen8) (by rw[HM.out];exact hC8) (by rw[HM.out];exact hold8) (by rw[HM.out];exact hLd8) hF8
     clear HCALL hR8 hC8 hold8 hLd8 hF8;go_wp2_with fail
     go_roundg (t.kids.length-(i+1))
     case measure => omega
     case rel => exact ⟨i+1,_,mj,by omega,by go_num,HL8.out⟩
  · have hii : i = t.kids.length := by omega
    have hili:¬ (i:Int)<(t.kids.length:Int):=by omega
    have HLD:Hid _:=Xh (qb.deep d HKT.out) (by rw[←hii];exact HL.out)
    clear hL hii q3;go_wp2_with fail
    go_returns
    obtain ⟨h1,h2,h3,h4,h5,h6⟩:=HLD.out;exact ⟨rfl,mi,h1,h2,h3,h4,h5,h6⟩
theorem XP (d:Nat):Y2 d:=by
 induction d with
 | zero=>exact Xi 0 (fun m hm=>by omega)
 | succ d ih=>exact Xi (d+1) (fun m hm=>by cases hm;exact ih)
end
def groupCells:List (Value × Nat)→List Value
 | []=>[]
 | x::r=>x.1::.int .i64 (x.2:Int)::groupCells r
theorem zZ (l:List (Value × Nat)):(groupCells l).length=l.length*2:=by
 induction l with
 | nil=>rfl
 | cons x r ih=>simp[groupCells,ih];omega
theorem q6 (l m:List (Value × Nat)):groupCells (l++m)=groupCells l++groupCells m:=by
 induction l with
 | nil=>rfl
 | cons x r ih=>simp[groupCells,ih]
theorem Ql {w:World}{B:Nat}{e:TypeId}{size g cap n:Nat}{xs ys:List Value}(h:w.ownsRow B e size (.slice (some ⟨g,0,none⟩) (n+1) cap) (n+1) (xs++ys))(hx:xs.length=n*size) :
 w.ownsRow B e size (.slice (some ⟨g,0,none⟩) n cap) n xs:=by
 obtain ⟨h1,h2⟩:=h
 rcases h2 with ⟨h0,_⟩|⟨g',cap',cur,hv,hg,hh,hn,hcap,hsz,htake⟩
 · cases h0
 · cases hv;refine ⟨hx,Or.inr ⟨g,cap,cur,rfl,hg,hh,by omega,hcap,hsz,?_⟩⟩
   have e1:cur.toList.take (n*size)=(cur.toList.take ((n+1)*size)).take (n*size):=by
    rw[List.take_take,Nat.min_eq_left (Nat.mul_le_mul_right _ (by omega))]
   rw[e1,htake,←hx,List.take_left]
structure Cst (B cb:Nat) (w:World) (dd cc:Nat) (v:Value) (G:List (Value × Nat)):Prop where
 base:B≤cb
 held:w.heap[cb]?=some (.cells #[.int .i64 (dd:Int),.int .i64 (cc:Int),v] 63 (0,0))
 own:w.ownsRow B 117 2 v G.length (groupCells G)
 slices:∀ x∈G,∃ a l c,x.1=.slice a l c
theorem Cst.lt {B cb:Nat}{w:World}{dd cc:Nat}{v:Value}{G:List (Value × Nat)}(h:Cst B cb w dd cc v G):cb<w.heap.size:=by
 rcases Nat.lt_or_ge cb w.heap.size with h'|h'
 · exact h'
 · have:=h.held;simp[Array.getElem?_eq_none h']at this
theorem Cst.apart {B cb:Nat}{w:World}{dd cc:Nat}{v:Value}{G:List (Value × Nat)}(h:Cst B cb w dd cc v G):v.ownBlock≠some cb:=by
 intro e;obtain ⟨_,c,fz,hc⟩:=qI h.own e;rw[h.held]at hc
 simp at hc
theorem Cst.shape {B cb:Nat}{w:World}{dd cc:Nat}{v:Value}{G:List (Value × Nat)}(h:Cst B cb w dd cc v G):∃ a c,v=.slice a G.length c:=by
 rcases h.own.2 with ⟨hv,h0⟩|⟨g,cap,cur,hv,_⟩
 · exact ⟨none,0,by rw[hv,h0]⟩
 · exact ⟨_,_,hv⟩
theorem JR (B cb:Nat)(w:World)(dd cc:Nat)(v:Value)(G:List (Value × Nat))(x:Value)(d:Nat)(h:Cst B cb w dd cc v (G++[(x,d)]))(hBw:B≤w.heap.size) :
 Calls Tryd.prog 83 #[.pointer (some ⟨cb,2,none⟩)] w fun e w'=>e=.returned (.agg #[x,.int .i64 (d:Int)])∧∃ v',Cst B cb w' dd cc v' G∧v'.ownBlock=v.ownBlock∧(∀ b,b<w.heap.size→b≠cb→w'.heap[b]?=w.heap[b]?)∧Below B w w':=by
 have hap:=h.apart;have hlt:=h.lt;obtain ⟨hB,hj,hown,hsl⟩:=h;obtain ⟨xa,xl,xc,hx⟩:=hsl (x,d) (by simp)
 simp only at hx
 subst hx
 rcases hown.2 with ⟨_,h0⟩|⟨g,cap,cur,rfl,hg,hh,hc,hm,hs,ht⟩
 · simp at h0
 have hlen:(G++[(Value.slice xa xl xc,d)]).length=G.length+1:=by simp
 rw[hlen]at hown hj hc ht
 have c2:w.cell? ⟨cb,2,none⟩=some (.slice (some ⟨g,0,none⟩) (G.length+1) cap):=by rw[cH9 hj];rfl
 have f2:w.frozen? ⟨cb,2,none⟩=false:=fH9 hj 2;have hgl:=zZ G
 have k0:w.cell? ⟨g,G.length*2,none⟩=some (.slice xa xl xc):=by
  rw[World.ownsRow.cellAt hown _ (by omega),q6,List.getElem?_append_right (by omega),hgl];simp[groupCells]
 have k1:w.cell? ⟨g,G.length*2+1,none⟩=some (.int .i64 (d:Int)):=by
  rw[World.ownsRow.cellAt hown _ (by omega),q6,List.getElem?_append_right (by omega),hgl];simp[groupCells]
 have hgs:g<w.heap.size:=World.block_lt_of_cell? w _ k0;unfold maxLen at hm
 have HJ:Hid (w.heap[cb]?=some (.cells #[.int .i64 (dd:Int),.int .i64 (cc:Int),.slice (some ⟨g,0,none⟩) (G.length+1) cap] 63 (0,0))):=hj;clear hj hgl
 go_enter Tryd.func83,Tryd.ntmps83
 go_wp2_with fail
 have hk:∀ b,b<w.heap.size→b≠cb→(((w.setCell ⟨cb,2,none⟩ (.slice (some ⟨g,0,none⟩) G.length cap)).alloc (.cells #[.slice xa xl xc,.int .i64 (d:Int)] 117)).alloc (.cells #[.slice xa xl xc,.int .i64 (d:Int)] 117)).heap[b]?=w.heap[b]?:=by
  intro b hb hbc;rw[Lib.alloc_old _ _ _ (by simp;omega),Lib.alloc_old _ _ _ (by simp;omega),Below.heap_setCell _ _ _ _ hbc]
 have hgc:g≠cb:=fun e=>hap (by rw[e];rfl)
 refine bodyPost_ret (v:=.agg #[.slice xa xl xc,.int .i64 (d:Int)]) (by simp[results,Tryd.results83,go_sem]) rfl ⟨rfl,.slice (some ⟨g,0,none⟩) G.length cap,⟨hB,?_,?_,fun y hy=>hsl y (by simp[hy])⟩,?_,hk,?_⟩
 · rw[Lib.alloc_old _ _ _ (by simp;omega), Lib.alloc_old _ _ _ (by simp;omega)]
   simp[World.setCell,Array.getElem?_modify,HJ.out]
 · rw[q6]at hown
   exact qo (Ql hown (zZ G)) fun b hb=>by cases hb;exact hk g hgs hgc
 · rfl
 · exact ((((Below.refl B w).setCell hB _).alloc (by simp;omega) _).alloc (by simp;omega) _)
theorem groupInfo:(Tryd.prog.info? 117).map (fun i=>(i.zero,i.size,i.bytes))=some (some (.agg #[.slice none 0 0,.int .i64 0]),2,32):=by kernel_rfl
theorem YV {ops:Array Oper}{o:Oper}{a:Act}{w:World}{K:Act→World→Prop}{Q:Exit→Act→World→Prop}{E:Prop}
 (hg:o.guard=none) (s x:Operand) (hop:o.op=Op.call { callee:=Callee.builtin Builtin.append,args:=#[s,x],argTypes:=#[61,61] })
 (B:Nat) (v:Value) (n:Nat) (xs:List Value) (hs:a.eval s=v) (hown:w.ownsRow B 117 2 v n xs) (ad:Addr) (sa:Option Addr) (sl sc:Nat) (d:Int) (hx:a.eval x=.slice (some ad) 1 1)
 (hnews:∀ j u,[Value.slice sa sl sc,Value.int .i64 d][j]?=some u→w.cell? (ad.add j)=some u) (hn:n≤1048576) (hB:B≤w.heap.size)
 (hK:∀ v' w',w'.ownsRow B 117 2 v' (n+1) (xs++[.slice sa sl sc,.int .i64 d])→w.grownBy w' v.ownBlock→(v'.ownBlock=v.ownBlock∨v'.ownBlock=some w.heap.size)→K (a.put o.dst v') w') :
 if Region.wanted o (yielded ops a.tmps)=true then Oper.wp Tryd.prog o a w K Q else E:=by
 have hw:Region.wanted o (yielded ops a.tmps)=true:=by simp[Region.wanted,hg]
 rw[if_pos hw];obtain ⟨i0,hi,hz0,hz1,hz2⟩:=info_parts groupInfo;obtain ⟨v',w',hr,h2,h3,_,h5⟩:=run_append_own_at (P:=Tryd.prog) w B 61 o.type 117 i0 _ 2 32 Tryd.underlying61 hi hz0 hz1 hz2 rfl (by decide) v n xs hown ad 1 1 [.slice sa sl sc,.int .i64 d] rfl hnews (by intro u hu;simp at hu;rcases hu with rfl|rfl<;>rfl) (by unfold maxLen;omega) (by omega) hB
 unfold Oper.wp;simp[execOp,hop,resolve,invoke,builtin,hs,hx,hr,Result.andThen];exact hK v' w' h2 h3 h5
structure CE where
 v:Value
 n:Nat
 ts:List Tr
 o:Nat
def csum (P:List CE):Nat:=(P.map fun e=>cnt e.n e.ts).sum
def yh (P:List CE):Nat:=(P.map fun e=>e.o+dep e.n e.ts).foldr max 0
def grp (e:CE):Value × Nat:=(e.v,e.o+1)
theorem zX (P Q:List CE):csum (P++Q)=csum P+csum Q:=by simp[csum]
theorem yN (P Q:List CE):yh (P++Q)=max (yh P) (yh Q):=by
 induction P with
 | nil=>simp[yh]
 | cons e r ih =>
   have h1:yh (e::r++Q)=max (e.o+dep e.n e.ts) (yh (r++Q)):=rfl;have h2:yh (e::r)=max (e.o+dep e.n e.ts) (yh r):=rfl;rw[h1,h2,ih];omega
def Y4 (S:Nat→Prop)(w:World)(e:CE):Prop:=e.ts≠[]∧qb S w e.n e.v e.ts∧e.o+dep e.n e.ts≤1048577
structure QR (S:Nat→Prop) (B cb:Nat) (w:World) (ds cs L:Nat) (o:Nat) (ts:List Tr) (dd cc:Nat) (wv:Value) (G:List (Value × Nat)) (w':World) (P:List CE) (dd' cc':Nat) (wv':Value):Prop where
 below:Below B w w'
 cst:Cst B cb w' dd' cc' wv' (G++P.map grp)
 row:wv'.ownBlock=wv.ownBlock∨∃ b,wv'.ownBlock=some b∧w.heap.size≤b
 frame:∀ b,b<w.heap.size→b≠cb→wv.ownBlock≠some b→w'.heap[b]?=w.heap[b]?
 pend:∀ e∈P,Y4 S w e
 dmax:max dd' (yh P)=max dd ds
 csum:cc'+csum P=cc+cs
 more:cc≤cc'∧(0<L→cc+ts.length≤cc')
def Zp (S:Nat→Prop)(B cb L:Nat):Prop:=∀ (n:Nat) (v:Value) (ts:List Tr) (o d dd cc:Nat) (wv:Value) (G:List (Value × Nat)) (w:World),
 d=o+1→(∀ b,S b→b<w.heap.size∧b≠cb∧wv.ownBlock≠some b)→qb S w n v ts→Cst B cb w dd cc wv G→B≤w.heap.size→o+dep n ts≤1048577→dd≤1048577→cc+cnt n ts≤1048576→G.length+cnt n ts≤1048576 →
 Calls Tryd.prog 82 #[.pointer (some ⟨cb,0,none⟩),.agg #[v,.int .i64 (d:Int)],.int .i64 (L:Int)] w fun e w'=>e=.returned (.tuple #[]) ∧
  ∃ P dd' cc' wv',QR S B cb w (if ts=[] then 0 else o+dep n ts) (cnt n ts) L o ts dd cc wv G w' P dd' cc' wv'
theorem Cst.later {B cb:Nat}{w w':World}{dd cc:Nat}{v:Value}{G:List (Value × Nat)}(h:Cst B cb w dd cc v G)(hb:Below w.heap.size w w'):Cst B cb w' dd cc v G :=
 ⟨h.base,by rw[hb.block cb h.lt];exact h.held,qq h.own hb,h.slices⟩
theorem Y5 (S:Nat→Prop)(B cb L n:Nat)(v:Value)(o d dd cc:Nat)(wv:Value)(G:List (Value × Nat))(w:World)(h:qb S w n v [])(hc:Cst B cb w dd cc wv G)(hB:B≤w.heap.size) :
 Calls Tryd.prog 82 #[.pointer (some ⟨cb,0,none⟩),.agg #[v,.int .i64 (d:Int)],.int .i64 (L:Int)] w fun e w'=>e=.returned (.tuple #[]) ∧
  ∃ P dd' cc' wv',QR S B cb w 0 (cnt n []) L o [] dd cc wv G w' P dd' cc' wv':=by
 obtain ⟨a,c,rfl,_,_⟩:=qb.shape n h;simp only[List.length_nil]
 go_enter Tryd.func82,Tryd.ntmps82
 go_wp2_with fail
 go_returns
 refine ⟨rfl,[],dd,cc,wv,?_⟩;refine ⟨(Below.refl B w).alloc hB _,by simpa using hc.later (Below.alloc1 w _),Or.inl rfl,fun b hb _ _=>Below.heap_alloc _ _ _ hb,by simp,by simp[yh],by simp[Go.Proofs.YtfdbipeidmpciaaDoor.csum,qH],nR9 _,fun _=>by simp⟩
theorem ZI {W:World}{ad:Nat}{x y:Value}(h0:W.cell? ⟨ad,0,none⟩=some x)(h1:W.cell? ⟨ad,1,none⟩=some y):∀ j u,[x,y][j]?=some u→W.cell? ((⟨ad,0,none⟩:Addr).add j)=some u:=by
 intro j u hj
 match j,hj with
 | 0,hj=>simp at hj;subst hj;exact h0
 | 1,hj=>simp at hj;subst hj;exact h1
theorem JM {w:World}{B n:Nat}{e:TypeId}{size:Nat}{v:Value}{xs:List Value}(h:w.ownsRow B e size v n xs):∃ a l c,v=.slice a l c:=by
 rcases h.2 with ⟨hv,_⟩|⟨g,cap,cur,hv,_⟩
 · exact ⟨_,_,_,hv⟩
 · exact ⟨_,_,_,hv⟩
theorem xM {B cb:Nat}{W X w1:World}{dd cc:Nat}{wv:Value}{G:List (Value × Nat)}(h:Cst B cb W dd cc wv G)(hX:Below W.heap.size W X)(hg:X.grownBy w1 wv.ownBlock) :
 w1.heap[cb]?=some (.cells #[.int .i64 (dd:Int),.int .i64 (cc:Int),wv] 63 (0,0)):=by
 rw[hg.block cb (Nat.lt_of_lt_of_le h.lt hX.size) (fun e=>h.apart e.symm),hX.block cb h.lt]
 exact h.held
theorem XI {S:Nat→Prop}{B cb:Nat}{w W0 w1:World}{n o d dd cc:Nat}{ts:List Tr}{va wa a1:Option Addr}{vc wc l1 c1:Nat}{G:List (Value × Nat)}{c:Obj}(hd:d=o+1)(hne:ts≠[])
 (hT:qb S w n (.slice va ts.length vc) ts) (hod:o+dep n ts≤1048577) (hBw:B≤w.heap.size) (hbx:Below w.heap.size w W0) (hX:Cst B cb W0 dd cc (.slice wa G.length wc) G)
 (hown1:w1.ownsRow B 117 2 (.slice a1 l1 c1) (G.length+1) (groupCells G++[.slice va ts.length vc,.int .i64 (d:Int)]))
 (hgr1:(W0.alloc c).drew.grownBy w1 (Value.slice wa G.length wc).ownBlock)
 (hat1:(Value.slice a1 l1 c1).ownBlock=(Value.slice wa G.length wc).ownBlock∨(Value.slice a1 l1 c1).ownBlock=some (W0.alloc c).drew.heap.size) :
 QR S B cb w (o+dep n ts) (cnt n ts) 0 o ts dd cc (.slice wa G.length wc) G (w1.setCell ⟨cb,2,none⟩ (.slice a1 l1 c1)) [⟨.slice va ts.length vc,n,ts,o⟩] dd cc (.slice a1 l1 c1):=by
 have hH:=xM hX (Below.alloc1 W0 c).drew hgr1;have hsz:=hbx.size;have hsX:(W0.alloc c).drew.heap.size=W0.heap.size+1:=by simp[World.drew]
 have hap:(Value.slice a1 l1 c1).ownBlock≠some cb:=by
  intro e;obtain ⟨_,cs,fz,hc⟩:=qI hown1 e;rw[hH]at hc
  simp at hc
 subst hd;refine ⟨?_,⟨hX.base,?_,?_,?_⟩,?_,?_,?_,?_,?_,nR9 _,fun h=>by omega⟩
 · exact (((((hbx.mono hBw).alloc (by omega) c).drew).grown hgr1 (by omega) (fun k hk=>(hX.own.lt k hk).1))).setCell hX.base _
 · simp[World.setCell,Array.getElem?_modify,hH]
 · have e1 : (G ++ List.map grp [(⟨.slice va ts.length vc, n, ts, o⟩ : CE)]).length = G.length + 1 := by simp
   rw[e1,q6];exact qo hown1 fun b hb=>Below.heap_setCell _ _ _ _ (fun e=>hap (by rw[hb,e]))
 · intro x hx
   rcases List.mem_append.1 hx with hx|hx
   · exact hX.slices x hx
   · simp[grp]at hx;subst hx;exact ⟨_,_,_,rfl⟩
 · rcases hat1 with h | h
   · exact Or.inl h
   · exact Or.inr ⟨_,h,by omega⟩
 · intro b hb h1 h2;rw[Below.heap_setCell _ _ _ _ h1,hgr1.block b (by omega) (fun e=>h2 e.symm)]
   show (W0.alloc c).heap[b]?=_
   rw[Lib.alloc_old _ _ _ (by omega),hbx.block b hb]
 · intro e he;simp at he
   subst he;exact ⟨hne,hT,hod⟩
 · simp[yh]
 · simp[Go.Proofs.YtfdbipeidmpciaaDoor.csum]
theorem add_zero (S:Nat→Prop)(B cb:Nat):Zp S B cb 0:=by
 intro n v ts o d dd cc wv G w hd _ hT hC hBw hod hdd hcc hG;have HD:Hid (d=o+1):=hd
 by_cases hne:ts=[]
 · subst hne
   simpa using Y5 S B cb 0 n v o d dd cc wv G w hT hC hBw
 · have hTo : Hid (qb S w n v ts) := hT;obtain ⟨va,vc,rfl,_,hvm⟩:=qb.shape n hT;have hl0:0<ts.length:=List.length_pos_iff.2 hne
   have hcn:1≤cnt n ts:=by
    have:=(qb.deep n hT).len;omega
   have hlt:=hC.lt;have hap:=hC.apart
   have hne1:((ts.length:Int)==0)=false:=by
    have:(ts.length:Int)≠0:=by omega
    simpa using this
   have hbx:=Below.alloc1 w (.cells #[.slice va ts.length vc,.int .i64 (d:Int)] 117);have hX:=hC.later hbx;have b0:(w.alloc (.cells #[.slice va ts.length vc,.int .i64 (d:Int)] 117)).cell? ⟨w.heap.size,0,none⟩=some (.slice va ts.length vc):=by simp
   have b1:(w.alloc (.cells #[.slice va ts.length vc,.int .i64 (d:Int)] 117)).cell? ⟨w.heap.size,1,none⟩=some (.int .i64 (d:Int)):=by simp
   have hsz:(w.alloc (.cells #[.slice va ts.length vc,.int .i64 (d:Int)] 117)).heap.size=w.heap.size+1:=by simp
   have HO:Hid (o+dep n ts≤1048577):=hod;clear hT hd hod hcc hdd;unfold maxLen at hvm
   go_enter Tryd.func82,Tryd.ntmps82
   go_wp2_with fail
   generalize w.alloc (.cells #[.slice va ts.length vc,.int .i64 (d:Int)] 117)=W0 at hbx hX b0 b1 hsz ⊢
   obtain ⟨wa,wc,rfl⟩:=hC.shape;have HS:Hid (W0.heap.size=w.heap.size+1):=hsz;have hB0:B≤W0.heap.size:=by omega
   have hszl:w.heap.size<W0.heap.size:=by omega
   clear hsz;have k2:W0.cell? ⟨cb,2,none⟩=some (.slice wa G.length wc):=by rw[cH9 hX.held];rfl
   have kf:W0.frozen? ⟨cb,2,none⟩=false:=fH9 hX.held 2;have hcb0:cb<W0.heap.size:=hX.lt;have HX:Hid (Cst B cb W0 dd cc (.slice wa G.length wc) G):=hX;clear hX hC;have hrow:(W0.alloc (.cells #[.slice va ts.length vc,.int .i64 (d:Int)] 117)).drew.ownsRow B 117 2 (.slice wa G.length wc) G.length (groupCells G):=HX.out.own.alloc _;have hgc:∀ j u,[Value.slice va ts.length vc,Value.int .i64 (d:Int)][j]?=some u→(W0.alloc (.cells #[.slice va ts.length vc,.int .i64 (d:Int)] 117)).drew.cell? ((⟨W0.heap.size,0,none⟩:Addr).add j)=some u:=ZI (W:=(W0.alloc (.cells #[.slice va ts.length vc,.int .i64 (d:Int)] 117)).drew) (by simp) (by simp)
   have HR:Hid _:=hrow;have HGC:Hid _:=hgc;clear hrow hgc;have hGl:G.length≤1048576:=by omega
   have HH:Hid (∀ w1,(W0.alloc (.cells #[.slice va ts.length vc,.int .i64 (d:Int)] 117)).drew.grownBy w1 (Value.slice wa G.length wc).ownBlock→w1.heap[cb]?=some (.cells #[.int .i64 (dd:Int),.int .i64 (cc:Int),.slice wa G.length wc] 63 (0,0))):=fun w1 hg=>xM HX.out (Below.alloc1 W0 _).drew hg
   go_region_law (first
    | (refine YV (by rfl) (.tmp 17) (.tmp 19) (by rfl) B (.slice wa G.length wc) G.length (groupCells G) (by simp[Act.eval]) HR.out ⟨W0.heap.size,0,none⟩ va ts.length vc (d:Int) (by simp[Act.eval]) HGC.out hGl (by simp;omega) ?_;intro v1 w1 hown1 hgr1 hat1;obtain ⟨a1,l1,c1,rfl⟩:=JM hown1;have hj1:=cH9 (HH.out w1 hgr1) 2;have hf1:=fH9 (HH.out w1 hgr1) 2;simp at hj1))
   all_goals
    go_wp2_with fail
    go_returns
    exact ⟨rfl,_,_,_,_,XI HD.out hne hTo.out HO.out hBw hbx HX.out hown1 hgr1 hat1⟩
section
attribute [local go_sem] qg
structure Qs (S:Nat→Prop) (B cb:Nat) (w:World) (m o k:Nat) (ts:List Tr) (bx by_:Value) (dd cc:Nat) (wv:Value) (G:List (Value × Nat)) (w':World) (P:List CE) (dd' cc':Nat) (wv':Value):Prop where
 below:Below B w w'
 cst:Cst B cb w' dd' cc' wv' (G++P.map grp)
 row:wv'.ownBlock=wv.ownBlock∨∃ b,wv'.ownBlock=some b∧w.heap.size+1≤b
 frame:∀ b,b<w.heap.size→b≠cb→wv.ownBlock≠some b→w'.heap[b]?=w.heap[b]?
 box0:w'.cell? ⟨w.heap.size,0,none⟩=some bx
 box1:w'.cell? ⟨w.heap.size,1,none⟩=some by_
 size:w.heap.size+1≤w'.heap.size
 pend:∀ e∈P,Y4 S w e
 dmax:max dd' (yh P)=max dd (max (o+1) (o+dep (m+1) (ts.take k)))
 csum:cc'+csum P=cc+ts.length+cnt m (nx (ts.take k))
 more:cc+ts.length≤cc'
theorem ZE {S:Nat→Prop}{w:World}{P:List CE}(h:∀ e∈P,Y4 S w e):P.length≤csum P:=by
 induction P with
 | nil=>simp
 | cons e r ih =>
   have h1:=ih (fun x hx=>h x (List.mem_cons_of_mem _ hx))
   obtain ⟨h2,h3,_⟩:=h e List.mem_cons_self;have h4:=(qb.deep e.n h3).len;have h5:=List.length_pos_iff.2 h2;have h6:csum (e::r)=cnt e.n e.ts+csum r:=by simp[csum]
   simp only[List.length_cons];omega
theorem Yx {S:Nat→Prop}{B cb:Nat}{w:World}{m o k L:Nat}{ts:List Tr}{bx by_:Value}{dd cc:Nat}{wv:Value}{G:List (Value × Nat)}{wr w3:World}{P P1:List CE}{dd' cc' dd3 cc3:Nat}{wv' wv3:Value}{t:Tr}
 (hS:∀ b,S b→wr.heap[b]?=w.heap[b]?) (I:Qs S B cb w m o k ts bx by_ dd cc wv G wr P dd' cc' wv') (hwv:∀ b,wv.ownBlock=some b→b<w.heap.size) (hcb:cb<w.heap.size) (hsn:ts.take (k+1)=ts.take k++[t])
 (J:QR S B cb wr (if t.kids=[] then 0 else o+1+dep m t.kids) (cnt m t.kids) L (o+1) t.kids dd' cc' wv' (G++P.map grp) w3 P1 dd3 cc3 wv3) :
 Qs S B cb w m o (k+1) ts bx by_ dd cc wv G w3 (P++P1) dd3 cc3 wv3:=by
 have hsz3:=J.below.size;have hszr:=I.size
 have hrow:∀ b,b<w.heap.size+1→wv.ownBlock≠some b→wv'.ownBlock≠some b:=by
  intro b hb h1 h2
  rcases I.row with h|⟨b',h,h3⟩
  · exact h1 (h.symm.trans h2)
  · rw[h]at h2;cases h2;omega
 have hbox:w3.heap[w.heap.size]?=wr.heap[w.heap.size]?:=J.frame _ (by omega) (by omega) (hrow _ (by omega) (fun e=>by have:=hwv _ e;omega))
 refine ⟨I.below.trans J.below,?_,?_,?_,?_,?_,by omega,?_,?_,?_,?_⟩
 · have:=J.cst;simpa using this
 · rcases J.row with h | ⟨b, h, h1⟩
   · rw[h];exact I.row
   · exact Or.inr ⟨b,h,by omega⟩
 · intro b hb h1 h2;rw[J.frame b (by omega) h1 (hrow b (by omega) h2),I.frame b hb h1 h2]
 · rw[World.cell?_of_block (a:=⟨w.heap.size,0,none⟩) hbox];exact I.box0
 · rw[World.cell?_of_block (a:=⟨w.heap.size,1,none⟩) hbox];exact I.box1
 · intro e he
   rcases List.mem_append.1 he with he|he
   · exact I.pend e he
   · obtain ⟨h1, h2, h3⟩ := J.pend e he;exact ⟨h1,qb.carry (fun b hb=>⟨hb,(hS b hb).symm⟩) e.n h2,h3⟩
 · rw[yN, hsn, zR, q9, q5];have h1:=J.dmax;have h2:=I.dmax
   by_cases hk:t.kids=[]
   · rw[if_pos hk]at h1
     rw[hk,q5];omega
   · rw[if_neg hk]at h1
     omega
 · rw[zX, hsn, yo, yz, nx_nil, List.append_nil, zP];have h1:=J.csum;have h2:=I.csum;omega
 · have:=J.more.1;have:=I.more;omega
theorem ZN {S:Nat→Prop}{B cb:Nat}{w W0:World}{m o d:Nat}{ts:List Tr}{bx by_:Value}{dd cc:Nat}{wv:Value}{G:List (Value × Nat)}(hd:d=o+1)(hBw:B≤w.heap.size)(hcb:cb<w.heap.size)(hsz:W0.heap.size=w.heap.size+1)(hbx:Below w.heap.size w W0)(hX:Cst B cb W0 dd cc wv G)
 (b0:W0.cell? ⟨w.heap.size,0,none⟩=some bx) (b1:W0.cell? ⟨w.heap.size,1,none⟩=some by_) :
 Qs S B cb w m o 0 ts bx by_ dd cc wv G ((W0.setCell ⟨cb,0,none⟩ (.int .i64 (max (dd:Int) (d:Int)))).setCell ⟨cb,1,none⟩ (.int .i64 ((cc:Int)+(ts.length:Int)))).drew.drew [] (max dd d) (cc+ts.length) wv:=by
 have hk:∀ b,b≠cb→((W0.setCell ⟨cb,0,none⟩ (.int .i64 (max (dd:Int) (d:Int)))).setCell ⟨cb,1,none⟩ (.int .i64 ((cc:Int)+(ts.length:Int)))).drew.drew.heap[b]?=W0.heap[b]?:=by
  intro b hb
  show ((W0.setCell ⟨cb,0,none⟩ (.int .i64 (max (dd:Int) (d:Int)))).setCell ⟨cb,1,none⟩ (.int .i64 ((cc:Int)+(ts.length:Int)))).heap[b]?=_
  rw[Below.heap_setCell _ _ _ _ hb,Below.heap_setCell _ _ _ _ hb]
 subst hd;refine ⟨((((hbx.mono hBw).setCell hX.base _).setCell hX.base _).drew).drew,⟨hX.base,?_,?_,?_⟩,Or.inl rfl,?_,?_,?_,?_,by simp,?_,?_,nR9 _⟩
 · show ((W0.setCell ⟨cb, 0, none⟩ _).setCell ⟨cb, 1, none⟩ _).heap[cb]? = _
   have e1:(((max dd (o+1):Nat)):Int)=max (dd:Int) ((o+1:Nat):Int):=by omega
   have e2:(((cc+ts.length:Nat)):Int)=(cc:Int)+(ts.length:Int):=by omega
   rw[e1,e2];simp[World.setCell,Array.getElem?_modify,hX.held]
 · simp only[List.map_nil, List.append_nil];exact qo hX.own fun b hb=>hk b (fun e=>hX.apart (by rw[hb,e]))
 · simp only[List.map_nil, List.append_nil];exact hX.slices
 · intro b hb h1 _;rw[hk b h1,hbx.block b hb]
 · rw[World.cell?_of_block (a:=⟨w.heap.size,0,none⟩) (hk w.heap.size (by omega))];exact b0
 · rw[World.cell?_of_block (a:=⟨w.heap.size,1,none⟩) (hk w.heap.size (by omega))];exact b1
 · show w.heap.size + 1 ≤ ((W0.setCell ⟨cb, 0, none⟩ _).setCell ⟨cb, 1, none⟩ _).heap.size
   simp;omega
 · simp[yh,q5]
 · simp[Go.Proofs.YtfdbipeidmpciaaDoor.csum,nx_nil,qH]
theorem Yy {S:Nat→Prop}{B cb:Nat}{w:World}{m o L:Nat}{ts:List Tr}{bx by_:Value}{dd cc:Nat}{wv:Value}{G:List (Value × Nat)}{wr:World}{P:List CE}{dd' cc':Nat}{wv':Value}
 (hne:ts≠[]) (I:Qs S B cb w m o ts.length ts bx by_ dd cc wv G wr P dd' cc' wv'):QR S B cb w (o+dep (m+1) ts) (cnt (m+1) ts) L o ts dd cc wv G wr P dd' cc' wv':=by
 refine ⟨I.below,I.cst,?_,I.frame,I.pend,?_,?_,?_,fun _=>I.more⟩
 · rcases I.row with h | ⟨b, h, h1⟩
   · exact Or.inl h
   · exact Or.inr ⟨b,h,by omega⟩
 · have h := I.dmax;rw[List.take_length]at h
   rw[h,Yo m ts hne];omega
 · have h := I.csum;rw[List.take_length]at h
   rw[h,xH m ts];omega
 · have:=I.more;omega
theorem QR.undrew {S:Nat→Prop}{B cb:Nat}{w:World}{ds cs L o:Nat}{ts:List Tr}{dd cc:Nat}{wv:Value}{G:List (Value × Nat)}{w':World}{P:List CE}{dd' cc':Nat}{wv':Value}
    (h:QR S B cb w.drew ds cs L o ts dd cc wv G w' P dd' cc' wv'):QR S B cb w ds cs L o ts dd cc wv G w' P dd' cc' wv' :=
  ⟨(Below.refl B w).drew.trans h.below, h.cst, h.row, h.frame, fun e he => by
    obtain ⟨h1,h2,h3⟩:=h.pend e he;exact ⟨h1,qb.carry (w:=w.drew) (w':=w) (fun b hb=>⟨hb,rfl⟩) e.n h2,h3⟩,h.dmax,h.csum,h.more⟩
theorem J1 (S:Nat→Prop)(B cb:Nat)(L:Nat)(hL:L<1000)(ih:Zp S B cb L):Zp S B cb (L+1):=by
 intro n v ts o d dd cc wv G w hd hS0 hT hC hBw hod hdd hcc hG;have HS0:Hid (∀ b,S b→b<w.heap.size∧b≠cb∧wv.ownBlock≠some b):=hS0;clear hS0;have HD:Hid (d=o+1):=hd
 by_cases hne:ts=[]
 · subst hne
   simpa using Y5 S B cb (L+1) n v o d dd cc wv G w hT hC hBw
 · have hTo : Hid (qb S w n v ts) := hT;obtain ⟨va,vc,rfl,_,hvm⟩:=qb.shape n hT;have hl0:0<ts.length:=List.length_pos_iff.2 hne;have hcn:=(qb.deep n hT).len;have hlt:=hC.lt;have hap:=hC.apart
   have hne1:((ts.length:Int)==0)=false:=by
    have:(ts.length:Int)≠0:=by omega
    simpa using this
   have hne2:((((L+1:Nat):Int))==0)=false:=by
    have:(((L+1:Nat):Int))≠0:=by omega
    simpa using this
   obtain ⟨M,hM⟩:∃ M,L+1=M:=⟨_,rfl⟩;rw[hM]at hne2 ⊢
   have hbx:=Below.alloc1 w (.cells #[.slice va ts.length vc,.int .i64 (d:Int)] 117);have hX:=hC.later hbx;have b0:(w.alloc (.cells #[.slice va ts.length vc,.int .i64 (d:Int)] 117)).cell? ⟨w.heap.size,0,none⟩=some (.slice va ts.length vc):=by simp
   have b1:(w.alloc (.cells #[.slice va ts.length vc,.int .i64 (d:Int)] 117)).cell? ⟨w.heap.size,1,none⟩=some (.int .i64 (d:Int)):=by simp
   have hsz:(w.alloc (.cells #[.slice va ts.length vc,.int .i64 (d:Int)] 117)).heap.size=w.heap.size+1:=by simp
   have HO:Hid (o+dep n ts≤1048577):=hod;have HIH:Hid (Zp S B cb L):=ih;have HM:Hid (L+1=M):=hM;clear hT hd ih hM;unfold maxLen at hvm
   go_enter Tryd.func82,Tryd.ntmps82
   go_wp2_with fail
   generalize w.alloc (.cells #[.slice va ts.length vc,.int .i64 (d:Int)] 117)=W0 at hbx hX b0 b1 hsz ⊢
   have HS:Hid (W0.heap.size=w.heap.size+1):=hsz;have hB0:B≤W0.heap.size:=by omega
   have hszl:w.heap.size<W0.heap.size:=by omega
   have hcw:cb≠w.heap.size:=by omega
   clear hsz;have k0:W0.cell? ⟨cb,0,none⟩=some (.int .i64 (dd:Int)):=by rw[cH9 hX.held];rfl
   have k1:W0.cell? ⟨cb,1,none⟩=some (.int .i64 (cc:Int)):=by rw[cH9 hX.held];rfl
   have kf0:W0.frozen? ⟨cb,0,none⟩=false:=fH9 hX.held 0;have kf1:W0.frozen? ⟨cb,1,none⟩=false:=fH9 hX.held 1;have HX:Hid (Cst B cb W0 dd cc wv G):=hX;have HWV:Hid (∀ b,wv.ownBlock=some b→b<w.heap.size):=fun b hb=>(hC.own.lt b hb).2
   clear hX hC
   go_region
   go_wp2_with fail
   go_region
   go_wp2_with fail;cases n with
   | zero=>exact absurd hTo.out.1 hne
   | succ m =>
   have hwv:∀ b,wv.ownBlock=some b→b<w.heap.size:=fun b hb=>HWV.out b hb
   have HW:Hid (∀ b,wv.ownBlock=some b→b<w.heap.size):=hwv;clear hwv
   go_loopg [46] ts.length (fun g i wr=>∃ (k:Nat) (P:List CE) (dd' cc':Nat) (wv':Value),k+g=ts.length∧i=.int .i64 k∧Qs S B cb w m o k ts (.slice va ts.length vc) (.int .i64 (d:Int)) dd cc wv G wr P dd' cc' wv')
   case atStart => exact ⟨0,[],_,_,_,by omega,rfl,ZN HD.out hBw hlt HS.out hbx HX.out b0 b1⟩
   case round =>
    obtain ⟨k,P,dd',cc',wv',hk,rfl,I⟩:=hrel;have HI:Hid (Qs S B cb w m o k ts (.slice va ts.length vc) (.int .i64 (d:Int)) dd cc wv G wr P dd' cc' wv'):=I;have x0:=I.box0;have x1:=I.box1;have hBr:=I.below;have hsr:=I.size;clear I b0 b1 k0 k1 kf0 kf1 HX hbx hcw hB0 hszl HS
    by_cases hlt':k<ts.length
    · obtain ⟨_, _, hve, _, _, h4⟩ := hTo.out;obtain ⟨b,o',hao,hs,hcc'⟩:=h4 hne
      injection hve with e1 e2 e3
      subst e1;subst hao;obtain ⟨t,ht⟩:∃ t,ts[k]?=some t:=⟨ts[k],by simp[hlt']⟩
      obtain ⟨xa,xk,c0,c1,c2,c3,hat,hkt⟩:=hcc' k t ht;obtain ⟨ka,kc,rfl,_,hkm⟩:=qb.shape m hkt;have hkeep:∀ b,S b→wr.heap[b]?=w.heap[b]?:=fun b hb=>HI.out.frame b (HS0.out b hb).1 (HS0.out b hb).2.1 (HS0.out b hb).2.2
      have HKEEP:Hid (∀ b,S b→wr.heap[b]?=w.heap[b]?):=hkeep;rw[←World.cell?_of_block (a:=⟨b,o'+k*4+3,none⟩) (hkeep b hs)]at c3
      have hsn:ts.take (k+1)=ts.take k++[t]:=by
       rw[List.take_succ_eq_append_getElem hlt'];congr 2;simpa[hlt'] using ht
      have HSN:Hid (ts.take (k+1)=ts.take k++[t]):=hsn;have hkT:qb S wr m (.slice ka t.kids.length kc) t.kids:=qb.carry (fun b hb=>⟨hb,hkeep b hb⟩) m hkt
      have HKT:Hid (qb S wr m (.slice ka t.kids.length kc) t.kids):=hkT
      have hkids:dep m t.kids+1≤dep (m+1) ts∧cnt m (nx (ts.take (k+1)))≤cnt m (nx ts)∧dep (m+1) (ts.take k)≤dep (m+1) ts:=by
       refine ⟨?_,?_,?_⟩
       · obtain ⟨a, b, e⟩ := List.append_of_mem (List.mem_of_getElem? ht);rw[e,zR,q9];omega
       · have e : nx ts = nx (ts.take (k + 1)) ++ nx (ts.drop (k + 1)) := by rw[←yo, List.take_append_drop]
         rw[e,zP];omega
       · have e : dep (m + 1) ts = max (dep (m + 1) (ts.take k)) (dep (m + 1) (ts.drop k)) := by rw[←zR, List.take_append_drop]
         omega
      have HCALL:Hid (Calls Tryd.prog 82 #[.pointer (some ⟨cb,0,none⟩),.agg #[.slice ka t.kids.length kc,.int .i64 ((d:Int)+1)],.int .i64 ((M:Int)-1)] wr.drew fun e w'=>∃ r,e=.returned r∧(r=.tuple #[]∧∃ P1 dd3 cc3 wv3,QR S B cb wr (if t.kids=[] then 0 else o+1+dep m t.kids) (cnt m t.kids) L (o+1) t.kids dd' cc' wv' (G++P.map grp) w' P1 dd3 cc3 wv3)):=by
       have I:=HI.out;have h1:=I.dmax;have h2:=I.csum;have h3:=ZE I.pend;have h4:=I.more;have h5:=xH m ts;obtain ⟨h6,h7,h8⟩:=hkids;rw[hsn,yo,yz,nx_nil,List.append_nil,zP]at h7
       have hd:=HD.out
       have hfree:∀ b,S b→b<wr.drew.heap.size∧b≠cb∧wv'.ownBlock≠some b:=by
        intro b hb;obtain ⟨q1,q2,q3⟩:=HS0.out b hb;refine ⟨Nat.lt_of_lt_of_le q1 (Nat.le_trans (Nat.le_succ _) I.size),q2,fun h=>?_⟩
        rcases I.row with h'|⟨b',h',h''⟩
        · exact q3 (h'.symm.trans h)
        · rw[h']at h;cases h;omega
       have hcst:Cst B cb wr.drew dd' cc' wv' (G++P.map grp):=⟨I.cst.base,I.cst.held,I.cst.own,I.cst.slices⟩;have hTd:qb S wr.drew m (.slice ka t.kids.length kc) t.kids:=qb.carry (w:=wr) (w':=wr.drew) (fun b hb=>⟨hb,rfl⟩) m HKT.out
       have:=HIH.out m (.slice ka t.kids.length kc) t.kids (o+1) (d+1) dd' cc' wv' (G++P.map grp) wr.drew (by omega) hfree hTd hcst (by show B≤wr.heap.size;omega) (by omega) (by omega) (by omega) (by rw[List.length_append,List.length_map];omega)
       have e1:((d+1:Nat):Int)=(d:Int)+1:=by omega
       have e2:(L:Int)=(M:Int)-1:=by have:=HM.out;omega
       rw[e1,e2]at this
       refine this.mono ?_;rintro e w' ⟨rfl,P1,dd3,cc3,wv3,J⟩;exact ⟨_,rfl,rfl,P1,dd3,cc3,wv3,J.undrew⟩
      have hkb:(k:Int)<(ts.length:Int):=by omega
      have hdb:d≤1048578:=by have:=HD.out;omega
      have hMb:1≤M∧M≤1000:=by have:=HM.out;omega
      clear c0 c1 c2 hat hkt hkT hcc' h4 e2 e3 ht hsn hs hkids hkeep;go_wp2_with fail
      go_region_law (first
       | (refine zU (by rfl) 82 #[.pointer (some ⟨cb,0,none⟩),.agg #[.slice ka t.kids.length kc,.int .i64 ((d:Int)+1)],.int .i64 ((M:Int)-1)] (by go_simp;exact ⟨IntWalk.i64_in _ (by omega),IntWalk.i64_in _ (by omega)⟩) _ HCALL.out ?_;intro r w3 hR;obtain ⟨hr,P1,dd3,cc3,wv3,J⟩:=hR))
      all_goals
       go_wp2_with fail
       go_roundg (ts.length-(k+1))
       case measure => omega
       case rel => exact ⟨k+1,_,_,_,_,by omega,by go_num,Yx HKEEP.out HI.out HW.out hlt HSN.out J⟩
    · have hkk : k = ts.length := by omega
      subst hkk;go_wp2_with fail
      go_returns
      exact ⟨rfl,_,_,_,_,Yy hne HI.out⟩
end
section
attribute [local go_sem] qg
theorem XH (S:Nat→Prop)(B cb:Nat):∀ L,L≤1000→Zp S B cb L:=by
 intro L
 induction L with
 | zero=>intro _;exact add_zero S B cb
 | succ L ih=>intro h;exact J1 S B cb L (by omega) (ih (by omega))
structure X9 (S:Nat→Prop) (B cb:Nat) (w:World) (D C:Nat) (w':World) (P:List CE) (dd cc:Nat) (wv:Value):Prop where
 below:Below B w w'
 cst:Cst B cb w' dd cc wv (P.map grp)
 keep:∀ b,S b→w'.heap[b]?=w.heap[b]?
 free:∀ b,S b→wv.ownBlock≠some b
 pend:∀ e∈P,Y4 S w e
 dmax:max dd (yh P)=D
 csum:cc+csum P=C
theorem Ji {S:Nat→Prop}{B cb n:Nat}{va:Option Addr}{vc:Nat}{ts:List Tr}{w:World}(hS:∀ b,S b→b<w.heap.size∧b≠cb)(hne:ts≠[])(hT:qb S w n (.slice va ts.length vc) ts)(hD:dep n ts≤1048577)(hC:Cst B cb w 0 0 (.slice none 0 0) [])(hBw:B≤w.heap.size) :
 X9 S B cb w (dep n ts) (cnt n ts) ((w.setCell ⟨cb,2,none⟩ (.slice (some ⟨w.heap.size,0,none⟩) 1 1)).alloc (.cells #[.slice va ts.length vc,.int .i64 1] 117)) [⟨.slice va ts.length vc,n,ts,0⟩] 0 0 (.slice (some ⟨w.heap.size,0,none⟩) 1 1):=by
 have hlt:=hC.lt;refine ⟨((Below.refl B w).setCell hC.base _).alloc (by simp;omega) _,⟨hC.base,?_,?_,?_⟩,?_,?_,?_,?_,?_⟩
 · rw[Lib.alloc_old _ _ _ (by simp;omega)]
   simp[World.setCell,Array.getElem?_modify,hC.held]
 · have := World.ownsRow_lit (base := B) (e := 117) (size := 2) (w.setCell ⟨cb, 2, none⟩ (.slice (some ⟨w.heap.size, 0, none⟩) 1 1)) #[.slice va ts.length vc, .int .i64 1] 1 (by simp;omega) (by unfold maxLen;omega) rfl
   simpa[grp,groupCells] using this
 · intro x hx;simp[grp]at hx
   subst hx;exact ⟨_,_,_,rfl⟩
 · intro b hb;rw[Lib.alloc_old _ _ _ (by simp;exact (hS b hb).1),Below.heap_setCell _ _ _ _ (hS b hb).2]
 · intro b hb h;cases h;exact Nat.lt_irrefl _ (hS _ hb).1
 · intro e he;simp at he
   subst he;exact ⟨hne,hT,by simpa using hD⟩
 · simp[yh]
 · simp[Go.Proofs.YtfdbipeidmpciaaDoor.csum]
theorem QZ (S:Nat→Prop)(B cb n:Nat)(v:Value)(ts:List Tr)(w:World)(hS:∀ b,S b→b<w.heap.size∧b≠cb)(hne:ts≠[])(hT:qb S w n v ts)(hC:Cst B cb w 0 0 (.slice none 0 0) [])(hBw:B≤w.heap.size)(hcnt:cnt n ts≤1048576) :
 Calls Tryd.prog 52 #[.pointer (some ⟨cb,0,none⟩),v] w fun e w'=>e=.returned (.tuple #[])∧∃ wv,Cst B cb w' (dep n ts) (cnt n ts) wv []∧Below B w w':=by
 obtain ⟨va,vc,rfl,_,hvm⟩:=qb.shape n hT;have hDC:=dep_cnt n ts;have hlt:=hC.lt;have c2:w.cell? ⟨cb,2,none⟩=some (.slice none 0 0):=by rw[cH9 hC.held];rfl
 have f2:w.frozen? ⟨cb,2,none⟩=false:=fH9 hC.held 2;have HC:Hid (Cst B cb w 0 0 (.slice none 0 0) []):=hC;have HT:Hid (qb S w n (.slice va ts.length vc) ts):=hT;clear hC hT
 go_enter Tryd.func52,Tryd.ntmps52
 go_wp2_with fail
 go_loopg [] (cnt n ts) (fun g wr=>∃ P dd cc wv,csum P=g∧X9 S B cb w (dep n ts) (cnt n ts) wr P dd cc wv)
 case atStart => exact ⟨_,_,_,_,by simp[csum],Ji hS hne HT.out (by omega) HC.out hBw⟩
 case round =>
  obtain ⟨P,dd,cc,wv,hm,I⟩:=hrel;subst hm;obtain ⟨wa,wc,rfl⟩:=I.cst.shape;rw[List.length_map]at I
  have d2:wr.cell? ⟨cb,2,none⟩=some (.slice wa P.length wc):=by rw[cH9 I.cst.held];rfl
  have HI:Hid (X9 S B cb w (dep n ts) (cnt n ts) wr P dd cc (.slice wa P.length wc)):=I;clear I
  rcases List.eq_nil_or_concat P with rfl|⟨P0,e,hPe⟩
  · simp only[List.length_nil]at d2
    go_wp2_with fail
    go_returns
    have I:=HI.out;have h1:=I.dmax;have h2:=I.csum;have h3:yh []=0:=rfl;have h4:csum []=0:=rfl;rw[h3]at h1
    rw[h4]at h2
    have e1:dd=dep n ts:=by omega
    have e2:cc=cnt n ts:=by omega
    have hc:=I.cst;rw[e1,e2]at hc
    exact ⟨rfl,_,hc,I.below⟩
  · rw[List.concat_eq_append]at hPe
    subst hPe;have hl:(P0++[e]).length=P0.length+1:=by simp
    rw[hl]at d2
    have hcs:Cst B cb wr dd cc (.slice wa (P0++[e]).length wc) (P0.map grp++[(e.v,e.o+1)]):=by
     have:=HI.out.cst;rw[List.map_append,List.map_cons,List.map_nil]at this
     exact this
    have hszr:B≤wr.heap.size:=Nat.le_trans hBw HI.out.below.size;have HCS:Hid _:=hcs;clear hcs;go_wp2_with fail;refine (JR B cb wr dd cc _ (P0.map grp) e.v (e.o+1) HCS.out hszr).mono ?_;rintro e' w1 ⟨rfl,v1,hc1,hv1,hk1,hb1⟩;have hB1:Below B w w1:=HI.out.below.trans hb1;obtain ⟨hp1,hp2,hp3⟩:=HI.out.pend e (by simp)
    have hwr:=HI.out.below.size;have hw1:=hb1.size;have hkp:∀ b,S b→w1.heap[b]?=w.heap[b]?:=fun b hb=>(hk1 b (by have:=(hS b hb).1;omega) (hS b hb).2).trans (HI.out.keep b hb)
    have HKP:Hid (∀ b,S b→w1.heap[b]?=w.heap[b]?):=hkp;have hfr:∀ b,S b→b<w1.heap.size∧b≠cb∧v1.ownBlock≠some b:=fun b hb=>⟨by have:=(hS b hb).1;omega,(hS b hb).2,by rw[hv1];exact HI.out.free b hb⟩
    have HFR:Hid (∀ b,S b→b<w1.heap.size∧b≠cb∧v1.ownBlock≠some b):=hfr;have hTe:qb S w1 e.n e.v e.ts:=qb.carry (fun b hb=>⟨hb,hkp b hb⟩) e.n hp2
    have h1:=HI.out.dmax;have h2:=HI.out.csum;have h3:csum (P0++[e])=csum P0+cnt e.n e.ts:=by rw[zX];simp[csum]
    have h4:yh (P0++[e])=max (yh P0) (e.o+dep e.n e.ts):=by rw[yN];simp[yh]
    have h5:=ZE (P:=P0) (fun x hx=>HI.out.pend x (by simp[hx]))
    rw[h3]at h2
    rw[h4]at h1
    have hcall:=XH S B cb 1000 (nR9 _) e.n e.v e.ts e.o (e.o+1) dd cc v1 (P0.map grp) w1 rfl hfr hTe hc1 (by have:=hb1.size;omega) hp3 (by omega) (by omega) (by rw[List.length_map];omega)
    have e1:((e.o+1:Nat):Int)=(e.o:Int)+1:=by omega
    rw[e1,show ((1000:Nat):Int)=1000 from rfl]at hcall
    have HCALL:Hid _:=hcall;clear hcall e1 hkp hfr hk1;have H1:Hid (max dd (max (yh P0) (e.o+dep e.n e.ts))=dep n ts):=h1;have H2:Hid (cc+(csum P0+cnt e.n e.ts)=cnt n ts):=h2;have H3:Hid (csum (P0++[e])=csum P0+cnt e.n e.ts):=h3;clear d2 h1 h2 h3 h4 h5 hp3 hTe hc1 hv1 hl hszr;go_wp2_with fail;refine (Calls.mono HCALL.out ?_);rintro e' w2 ⟨rfl,P1,dd3,cc3,wv3,J⟩;go_wp2_with fail
    go_roundg (csum (P0++P1))
    case measure =>
     have h6:=J.csum;have h7:=J.more.2 (by omega)
     have h8:=List.length_pos_iff.2 hp1;rw[H3.out,zX];omega
    case rel =>
     refine ⟨P0++P1,dd3,cc3,wv3,rfl,hB1.trans J.below,by rw[List.map_append];exact J.cst,fun b hb=>(J.frame b (HFR.out b hb).1 (HFR.out b hb).2.1 (HFR.out b hb).2.2).trans (HKP.out b hb),?_,?_,?_,?_⟩
     · intro b hb h
       rcases J.row with h'|⟨b',h',h''⟩
       · exact (HFR.out b hb).2.2 (h'.symm.trans h)
       · rw[h']at h;cases h;have:=(HFR.out _ hb).1;omega
     · intro x hx
       rcases List.mem_append.1 hx with hx|hx
       · exact HI.out.pend x (by simp[hx])
       · obtain ⟨q1, q2, q3⟩ := J.pend x hx;exact ⟨q1,qb.carry (fun b hb=>⟨hb,(HKP.out b hb).symm⟩) x.n q2,q3⟩
     · have h6 := J.dmax;rw[if_neg hp1]at h6
       have h1:=H1.out;rw[yN];omega
     · have h6 := J.csum;have h2:=H2.out;rw[zX];omega
theorem Xw (S:Nat→Prop)(n:Nat)(va vk:Value)(t:Tr)(w:World)(h:qe S w va t.attrs)(hk:qb S w n vk t.kids)(hc:cnt (n+1) [t]≤1048576) :
 Calls Tryd.prog 11 #[.agg #[.bool t.text,.string t.s,va,vk]] w fun e w'=>e=.returned (.tuple #[.int .i64 (dep (n+1) [t]:Int),.int .i64 (cnt (n+1) [t]:Int)])∧Below w.heap.size w w':=by
 obtain ⟨aa,ac,rfl⟩:=h.shape;obtain ⟨ka,kc,rfl,_,_⟩:=qb.shape n hk;have hb:∀ X Y Z,Below w.heap.size w (((w.alloc X).alloc Y).alloc Z):=fun X Y Z=>((Below.alloc1 w X).alloc (by simp) Y).alloc (by simp;omega) Z
 have HB:Hid (∀ X Y Z,Below w.heap.size w (((w.alloc X).alloc Y).alloc Z)):=hb;have HA:Hid (qe (fun b=>S b∧b<w.heap.size) w (.slice aa t.attrs.length ac) t.attrs):=h.bounded
 have HK:Hid (qb (fun b=>S b∧b<w.heap.size) w n (.slice ka t.kids.length kc) t.kids):=qb.bounded n hk
 clear h hk hb
 go_enter Tryd.func11,Tryd.ntmps11
 go_wp2_with fail
 have hT:=qb.of_block (S:=fun b=>S b∧b<w.heap.size) (n:=n) (len:=1) (cap:=1) (ts:=[t]) (e:=25) (fz:=(0,0)) (qs:=[(t.text,t.s,.slice aa t.attrs.length ac,.slice ka t.kids.length kc)]) (heap_alloc_new ((w.alloc (.cells #[.bool t.text,.string t.s,.slice aa t.attrs.length ac,.slice ka t.kids.length kc] 25)).alloc (.cells #[.int .i64 0,.int .i64 0,.slice none 0 0] 63)) (.cells #[.bool t.text,.string t.s,.slice aa t.attrs.length ac,.slice ka t.kids.length kc] 25)) rfl rfl rfl (nR9 _) (by unfold maxLen;simp) (by
  intro i q t' hq ht';cases i with
  | zero =>
    simp at hq ht'
    subst hq ht';exact ⟨rfl,rfl,HA.out.later (HB.out _ _ _),qb.later (HB.out _ _ _) n HK.out⟩
  | succ i=>simp at ht')
 have hCst:Cst w.heap.size (w.heap.size+1) (((w.alloc (.cells #[.bool t.text,.string t.s,.slice aa t.attrs.length ac,.slice ka t.kids.length kc] 25)).alloc (.cells #[.int .i64 0,.int .i64 0,.slice none 0 0] 63)).alloc (.cells #[.bool t.text,.string t.s,.slice aa t.attrs.length ac,.slice ka t.kids.length kc] 25)) 0 0 (.slice none 0 0) []:=by
  refine ⟨by omega,?_,World.ownsRow_nil _ _ _ _,by simp⟩
  have e:=heap_alloc_new (w.alloc (.cells #[.bool t.text,.string t.s,.slice aa t.attrs.length ac,.slice ka t.kids.length kc] 25)) (.cells #[.int .i64 0,.int .i64 0,.slice none 0 0] 63);rw[World.size_alloc]at e
  rw[Lib.alloc_old _ _ _ (by simp)]
  exact e
 have hB3:=HB.out (.cells #[.bool t.text,.string t.s,.slice aa t.attrs.length ac,.slice ka t.kids.length kc] 25) (.cells #[.int .i64 0,.int .i64 0,.slice none 0 0] 63) (.cells #[.bool t.text,.string t.s,.slice aa t.attrs.length ac,.slice ka t.kids.length kc] 25);have hs2:((w.alloc (.cells #[.bool t.text,.string t.s,.slice aa t.attrs.length ac,.slice ka t.kids.length kc] 25)).alloc (.cells #[.int .i64 0,.int .i64 0,.slice none 0 0] 63)).heap.size=w.heap.size+1+1:=by simp
 rw[hs2]at hT
 refine (QZ _ w.heap.size (w.heap.size+1) (n+1) _ [t] _ ?_ (by simp) hT hCst hB3.size hc).mono ?_
 · intro b hb;simp only[World.size_alloc]
   rcases hb with hb|hb
   · have:=hb.2;omega
   · omega
 rintro e w2 ⟨rfl,wv,hC2,hb2⟩;have k0:w2.cell? ⟨w.heap.size+1,0,none⟩=some (.int .i64 (dep (n+1) [t]:Int)):=by rw[cH9 hC2.held];rfl
 have k1:w2.cell? ⟨w.heap.size+1,1,none⟩=some (.int .i64 (cnt (n+1) [t]:Int)):=by rw[cH9 hC2.held];rfl
 have hB4:Below w.heap.size w w2:=hB3.trans hb2;obtain ⟨D,hD⟩:∃ D,dep (n+1) [t]=D:=⟨_,rfl⟩;obtain ⟨C,hC⟩:∃ C,cnt (n+1) [t]=C:=⟨_,rfl⟩;rw[hD]at k0
 rw[hC]at k1
 have HD:Hid (dep (n+1) [t]=D):=hD;have HC:Hid (cnt (n+1) [t]=C):=hC;clear hD hC hc;clear hC2 hT hCst hB3 hb2 hs2;go_wp2_with fail
 go_region
 all_goals
  go_wp2_with fail
  go_ret2
  exact ⟨by rw[HD.out,HC.out];rfl,hB4.drew⟩
end
section
attribute [local go_sem] qg
theorem Zb {S:Nat→Prop}{nb:Nat}{ms:List Rw}{w:World}{L:List Nd}(hR:Row nb ms w)(hl:L.length=ms.length)(hL:Laid S w ms 0 L)(hS:S nb)(h80:ms.length≤80):qr S w (.slice (some ⟨nb,0,none⟩) ms.length ms.length) L:=by
 refine ⟨_,ms.length,by rw[hl],by omega,by unfold maxLen;omega,fun _=>⟨nb,0,rfl,hS,fun i x hx=>?_⟩⟩
 obtain ⟨r,hr,h1,h2,h3,h4,h5⟩:=hL i x hx;rw[Nat.zero_add]at hr
 obtain ⟨g0,g1,g2,g3,g4⟩:=hR.cells hr;rw[Nat.zero_add];exact ⟨r.va,r.vk,by rw[g0,h1],by rw[g1,h2],g2,by rw[g3,h3],g4,h4,h5⟩
theorem XW {n:Nat}(hf:∀ k,rgt n k=true→FewN n k):∀ (ts:List Tr) (p:Bool),rgL (rgt n) p ts=true→FewN (n+1) ts:=by
 intro ts
 induction ts with
 | nil=>intro p _ t ht;simp at ht
 | cons x r ih =>
   intro p h t ht;unfold rgL at h
   simp only[Bool.and_eq_true]at h
   rw[List.mem_cons]at ht
   rcases ht with rfl|ht
   · have h1 := h.1.1.1;unfold qu at h1
     cases htx:t.text with
     | true =>
       simp only[htx,if_true,Bool.and_eq_true,decide_eq_true_eq]at h1
       have hk:t.kids=[]:=List.eq_nil_of_length_eq_zero h1.2;refine ⟨by omega,?_⟩
       rw[hk];cases n with
       | zero=>trivial
       | succ n=>intro u hu;simp at hu
     | false =>
       simp only[htx,Bool.false_eq_true,if_false,Bool.and_eq_true]at h1
       have h2:=h1.2;simp only[qW,Bool.and_eq_true,decide_eq_true_eq]at h2
       refine ⟨by omega,hf _ ?_⟩
       have:=h.1.2
       simpa[htx] using this
   · exact ih x.text h.2 t ht
theorem rgt_few:∀ (n:Nat) (ts:List Tr),rgt n ts=true→FewN n ts:=by
 intro n
 induction n with
 | zero=>intro ts _;trivial
 | succ n ih=>intro ts h;exact XW ih ts false h
theorem nodeInfo:(Tryd.prog.info? 90).map (fun i=>(i.zero,i.size,i.bytes))=some (some (.agg #[.bool false,.string ⟨#[]⟩,.slice none 0 0,.int .i64 0,.slice none 0 0]),5,80):=by kernel_rfl
def zeroRw:Rw:=⟨false,⟨#[]⟩,.slice none 0 0,0,.slice none 0 0⟩
theorem XS (N:Nat):madeCells (Value.agg #[.bool false,.string ⟨#[]⟩,.slice none 0 0,.int .i64 0,.slice none 0 0]).cells (N*5)=(rawCells (List.replicate N zeroRw)).toArray:=by
 apply Array.ext
 · simp[madeCells,xu]
 · intro k h1 h2;have hk:k<N*5:=by simpa[madeCells] using h1
   have hr:(List.replicate N zeroRw)[k / 5]?=some zeroRw:=by rw[List.getElem?_replicate];simp;omega
   obtain ⟨g0,g1,g2,g3,g4⟩:=zK _ _ _ hr
   have key:(rawCells (List.replicate N zeroRw))[k]?=some ((#[Value.bool false,.string ⟨#[]⟩,.slice none 0 0,.int .i64 0,.slice none 0 0]:Array Value)[k % 5]!):=by
    rcases (by omega:k % 5=0∨k % 5=1∨k % 5=2∨k % 5=3∨k % 5=4) with h|h|h|h|h
    · rw[show k=k / 5*5 by omega,g0,show k / 5*5 % 5=0 by omega];rfl
    · rw[show k=k / 5*5+1 by omega,g1,show (k / 5*5+1) % 5=1 by omega];rfl
    · rw[show k=k / 5*5+2 by omega,g2,show (k / 5*5+2) % 5=2 by omega];rfl
    · rw[show k=k / 5*5+3 by omega,g3,show (k / 5*5+3) % 5=3 by omega];rfl
    · rw[show k=k / 5*5+4 by omega,g4,show (k / 5*5+4) % 5=4 by omega];rfl
   have h3:(rawCells (List.replicate N zeroRw)).toArray[k]?=some ((#[Value.bool false,.string ⟨#[]⟩,.slice none 0 0,.int .i64 0,.slice none 0 0]:Array Value)[k % 5]!):=by simpa using key
   rw[Array.getElem?_eq_getElem h2]at h3
   rw[Option.some.inj h3];simp[madeCells,Value.cells]
def yl (n:Nat)(t:Tr):List Nd:=if qw t then layF n t (-1) 0 else []
def ym (t:Tr):Int:=if qw t then 0 else 1
set_option maxHeartbeats 2000000 in
theorem ZO (S:Nat→Prop)(n:Nat)(va vk:Value)(t:Tr)(w:World)(hA:qe S w va t.attrs)(hK:qb S w n vk t.kids)(hx:TextsN (n+1) [t])(hS:∀ b,S b→b<w.heap.size) :
 Calls Tryd.prog 33 #[.agg #[.bool t.text,.string t.s,va,vk]] w fun e w'=>∃ v,e=.returned (.tuple #[.agg #[v],.int .i64 (ym t)])∧qr (fun b=>w.heap.size≤b) w' v (yl n t)∧Below w.heap.size w w':=by
 obtain ⟨aa,ac,rfl⟩:=hA.shape;obtain ⟨ka,kc,rfl,_,_⟩:=qb.shape n hK;have hb1:Below w.heap.size w ((w.alloc (.cells #[.bool t.text,.string t.s,.slice aa t.attrs.length ac,.slice ka t.kids.length kc] 25)).alloc (.cells #[.slice none 0 0] 47)):=(Below.alloc1 w _).alloc (by simp) _
 have hx1:((w.alloc (.cells #[.bool t.text,.string t.s,.slice aa t.attrs.length ac,.slice ka t.kids.length kc] 25)).alloc (.cells #[.slice none 0 0] 47)).heap[w.heap.size]?=some (.cells #[.bool t.text,.string t.s,.slice aa t.attrs.length ac,.slice ka t.kids.length kc] 25 (0,0)):=by
  rw[Lib.alloc_old _ _ _ (by simp)];exact heap_alloc_new _ _
 have hy1:((w.alloc (.cells #[.bool t.text,.string t.s,.slice aa t.attrs.length ac,.slice ka t.kids.length kc] 25)).alloc (.cells #[.slice none 0 0] 47)).heap[w.heap.size+1]?=some (.cells #[.slice none 0 0] 47 (0,0)):=by
  have e:=heap_alloc_new (w.alloc (.cells #[.bool t.text,.string t.s,.slice aa t.attrs.length ac,.slice ka t.kids.length kc] 25)) (.cells #[.slice none 0 0] 47);rw[World.size_alloc]at e
  exact e
 have HG:Hid _:=yj S n _ _ t _ (hA.later hb1) (qb.later hb1 n hK) hx;have HA:Hid (qe S w (.slice aa t.attrs.length ac) t.attrs):=hA;have HK:Hid (qb S w n (.slice ka t.kids.length kc) t.kids):=hK;have HS:Hid (∀ b,S b→b<w.heap.size):=hS;have HD:Hid (yl n t=if qw t then layF n t (-1) 0 else []):=rfl
 have HE:Hid (ym t=if qw t then 0 else 1):=rfl
 clear hA hK hx hS
 go_enter Tryd.func33,Tryd.ntmps33
 go_wp2_with fail;refine (Calls.mono HG.out ?_);rintro e w2 ⟨rfl,hb2⟩;have hx2:=(hb2.block _ (qf hx1)).trans hx1;have hy2:=(hb2.block _ (qf hy1)).trans hy1;have hB2:Below w.heap.size w w2:=hb1.trans (hb2.mono hb1.size);have d0:w2.cell? ⟨w.heap.size,0,none⟩=some (.bool t.text):=by rw[cH9 hx2];rfl
 have d1:w2.cell? ⟨w.heap.size,1,none⟩=some (.string t.s):=by rw[cH9 hx2];rfl
 have d2:w2.cell? ⟨w.heap.size,2,none⟩=some (.slice aa t.attrs.length ac):=by rw[cH9 hx2];rfl
 have d3:w2.cell? ⟨w.heap.size,3,none⟩=some (.slice ka t.kids.length kc):=by rw[cH9 hx2];rfl
 have p0:w2.cell? ⟨w.heap.size+1,0,none⟩=some (.slice none 0 0):=by rw[cH9 hy2];rfl
 have f0:w2.frozen? ⟨w.heap.size+1,0,none⟩=false:=fH9 hy2 0;clear HG hb1 hx1 hb2 hy1;obtain ⟨q,hq⟩:∃ q,qw t=q:=⟨_,rfl⟩;rw[hq];cases q with
 | false =>
   have HD2:Hid (yl n t=[]):=by show _=_;rw[HD.out,hq];rfl
   have HE2:Hid (ym t=1):=by show _=_;rw[HE.out,hq];rfl
   clear HD HE hq;go_wp2_with fail;refine bodyPost_ret (v:=.tuple #[.agg #[.slice none 0 0],.int .i64 1]) (by simp[results,Tryd.results33,go_sem,qg,p0]) rfl ⟨.slice none 0 0,by rw[HE2.out],by rw[HD2.out];exact qr.nil,?_⟩
   exact hB2.setCell (p:=⟨w.heap.size+1,0,none⟩) (Nat.le_succ _) _
 | true =>
   have HD2:Hid (yl n t=layF n t (-1) 0):=by show _=_;rw[HD.out,hq];rfl
   have HE2:Hid (ym t=0):=by show _=_;rw[HE.out,hq];rfl
   have hdeep:=qb.deep n HK.out;have hg:=hq;rw[zS hdeep]at hg
   simp only[Bool.and_eq_true,Bool.not_eq_true',decide_eq_true_eq]at hg
   obtain ⟨⟨⟨hg1,hg2⟩,hc81⟩,hrg⟩:=hg;clear hg1 hg2;have HFW:Hid (FewN (n+1) [t]):=rgt_few (n+1) [t] hrg;have HSZ:Hid _:=Xw S n _ _ t w2 (HA.out.later hB2) (qb.later hB2 n HK.out) (by omega)
   have hpos:0<cnt (n+1) [t]:=by rw[qp];omega
   have HLN:Hid ((layF n t (-1) 0).length=cnt (n+1) [t]):=layF_length n t (-1) 0 hdeep;obtain ⟨N,hN⟩:∃ N,cnt (n+1) [t]=N:=⟨_,rfl⟩;rw[hN]at hc81 HSZ hpos HLN
   have HN:Hid (cnt (n+1) [t]=N):=hN;clear HD HE hq hrg hN hdeep;go_wp2_with fail;refine (Calls.mono HSZ.out ?_);rintro e w3 ⟨rfl,hb3⟩;have hx3:=(hb3.block _ (qf hx2)).trans hx2;have hy3:=(hb3.block _ (qf hy2)).trans hy2;have hB3:Below w.heap.size w w3:=hB2.trans (hb3.mono hB2.size);have e0:w3.cell? ⟨w.heap.size,0,none⟩=some (.bool t.text):=by rw[cH9 hx3];rfl
   have e1:w3.cell? ⟨w.heap.size,1,none⟩=some (.string t.s):=by rw[cH9 hx3];rfl
   have e2:w3.cell? ⟨w.heap.size,2,none⟩=some (.slice aa t.attrs.length ac):=by rw[cH9 hx3];rfl
   have e3:w3.cell? ⟨w.heap.size,3,none⟩=some (.slice ka t.kids.length kc):=by rw[cH9 hx3];rfl
   clear HSZ hb3 d0 d1 d2 d3 p0 f0 hx2 hy2
   have hmk:(Instr.makeSlice 45 (.int .i64 (N:Int)) (.int .i64 (N:Int))).run Tryd.prog w3=.ok (.slice (some ⟨w3.heap.size,0,none⟩) N N) (w3.alloc (.cells (rawCells (List.replicate N zeroRw)).toArray 90)):=by
    obtain ⟨i0,hi,hz0,hz1,hz2⟩:=info_parts nodeInfo;have:=run_makeSlice (P:=Tryd.prog) w3 45 90 i0 _ Tryd.underlying45 hi hz0 .i64 .i64 (N:Int) (N:Int) (by omega) (Int.le_refl _) (by rw[hz1];simp;omega) (by rw[hz2];omega) (by omega)
    rw[this,hz1,Int.toNat_natCast,XS]
   have hb5:Below w3.heap.size w3 ((w3.alloc (.cells (rawCells (List.replicate N zeroRw)).toArray 90)).alloc (.cells #[.int .i64 0] 3)):=(Below.alloc1 w3 _).alloc (by simp) _
   have hR5:Row w3.heap.size (List.replicate N zeroRw) ((w3.alloc (.cells (rawCells (List.replicate N zeroRw)).toArray 90)).alloc (.cells #[.int .i64 0] 3)):=by
    unfold Row;rw[Lib.alloc_old _ _ _ (by simp)]
    exact heap_alloc_new _ _
   have hC5:Cnt (w3.heap.size+1) 0 ((w3.alloc (.cells (rawCells (List.replicate N zeroRw)).toArray 90)).alloc (.cells #[.int .i64 0] 3)):=by
    have e:=heap_alloc_new (w3.alloc (.cells (rawCells (List.replicate N zeroRw)).toArray 90)) (.cells #[.int .i64 0] 3);rw[World.size_alloc]at e
    exact e
   have hz5:((w3.alloc (.cells (rawCells (List.replicate N zeroRw)).toArray 90)).alloc (.cells #[.int .i64 0] 3)).heap.size=w3.heap.size+2:=by simp
   have HMK:Hid _:=hmk;have HRP:Hid ((List.replicate N zeroRw).length=N):=by show _=_;simp
   obtain ⟨ms0,hms0⟩:∃ ms0,List.replicate N zeroRw=ms0:=⟨_,rfl⟩;rw[hms0]at hmk hb5 hR5 hC5 hz5 HRP
   clear hms0 HMK;have e0a:(w3.alloc (.cells (rawCells ms0).toArray 90)).cell? ⟨w.heap.size,0,none⟩=some (.bool t.text):=Lib.cell?_alloc_some _ e0;have e1a:(w3.alloc (.cells (rawCells ms0).toArray 90)).cell? ⟨w.heap.size,1,none⟩=some (.string t.s):=Lib.cell?_alloc_some _ e1;have e2a:(w3.alloc (.cells (rawCells ms0).toArray 90)).cell? ⟨w.heap.size,2,none⟩=some (.slice aa t.attrs.length ac):=Lib.cell?_alloc_some _ e2;have e3a:(w3.alloc (.cells (rawCells ms0).toArray 90)).cell? ⟨w.heap.size,3,none⟩=some (.slice ka t.kids.length kc):=Lib.cell?_alloc_some _ e3;have e0b:((w3.alloc (.cells (rawCells ms0).toArray 90)).alloc (.cells #[.int .i64 0] 3)).cell? ⟨w.heap.size,0,none⟩=some (.bool t.text):=Lib.cell?_alloc_some _ e0a;have e1b:((w3.alloc (.cells (rawCells ms0).toArray 90)).alloc (.cells #[.int .i64 0] 3)).cell? ⟨w.heap.size,1,none⟩=some (.string t.s):=Lib.cell?_alloc_some _ e1a;have e2b:((w3.alloc (.cells (rawCells ms0).toArray 90)).alloc (.cells #[.int .i64 0] 3)).cell? ⟨w.heap.size,2,none⟩=some (.slice aa t.attrs.length ac):=Lib.cell?_alloc_some _ e2a;have e3b:((w3.alloc (.cells (rawCells ms0).toArray 90)).alloc (.cells #[.int .i64 0] 3)).cell? ⟨w.heap.size,3,none⟩=some (.slice ka t.kids.length kc):=Lib.cell?_alloc_some _ e3a;have hs3:=hB3.size;have hB5:Below w.heap.size w _:=hB3.trans (hb5.mono hs3);have hcall:=XP n S _ _ t (-1) w3.heap.size (w3.heap.size+1) 0 ms0 _ (HA.out.later hB5) (qb.later hB5 n HK.out) (fun b hb=>⟨by have:=HS.out b hb;rw[hz5];omega,by have:=HS.out b hb;omega,by have:=HS.out b hb;omega⟩) (by omega) hR5 hC5 (by rw[HN.out,HRP.out];omega) (by rw[HRP.out];omega) HFW.out
   rw[HRP.out]at hcall
   have HCALL:Hid _:=hcall;have HZ5:Hid _:=hz5;clear hcall hR5 hC5 hz5 e0 e1 e2 e3;go_wp2_with fail;refine (Calls.mono HCALL.out ?_);rintro e w6 ⟨rfl,ms',hR6,hl6,hC6,_,hL6,hF6⟩;have hz:=HZ5.out
   have hy5:w6.heap[w.heap.size+1]?=some (.cells #[.slice none 0 0] 47 (0,0)):=by
    have h1:=qf hy3;rw[hF6.frame (w.heap.size+1) (by rw[hz];omega) (by omega) (by omega),hb5.block _ h1]
    exact hy3
   have p0:w6.cell? ⟨w.heap.size+1,0,none⟩=some (.slice none 0 0):=by rw[cH9 hy5];rfl
   have f0:w6.frozen? ⟨w.heap.size+1,0,none⟩=false:=fH9 hy5 0;have hB6:Below w.heap.size w w6:=⟨hF6.below.os.trans hB5.os,hF6.below.tape.trans hB5.tape,hF6.below.output.trans hB5.output,Nat.le_trans hB5.size hF6.below.size,fun k hk=>by rw[hF6.frame k (by rw[hz];omega) (by omega) (by omega)];exact hB5.block k hk⟩
   have hnb:=qf hR6;have hlen6:ms'.length=N:=hl6
   have hND:qr (fun b=>w.heap.size+2≤b) w6 (.slice (some ⟨w3.heap.size,0,none⟩) N N) (layF n t (-1) 0):=by
    have h1:=qf hy3;have:=Zb (S:=fun b=>w.heap.size+2≤b) hR6 (by rw[HLN.out,hlen6]) (hL6.carry (fun b hb _=>⟨by have h2:((w3.alloc (.cells (rawCells ms0).toArray 90)).alloc (.cells #[.int .i64 0] 3)).heap.size≤b:=hb;rw[hz]at h2;omega,rfl⟩) (fun _ _ _=>rfl)) (by show w.heap.size+2≤w3.heap.size;omega) (by omega)
    rw[hlen6]at this
    exact this
   clear HCALL hR6 hL6 hC6 hF6 hb5 e0a e1a e2a e3a e0b e1b e2b e3b hmk hB5;go_wp2_with fail;refine bodyPost_ret (v:=.tuple #[.agg #[.slice (some ⟨w3.heap.size,0,none⟩) N N],.int .i64 0]) (by simp[results,Tryd.results33,go_sem,qg,p0]) rfl ⟨.slice (some ⟨w3.heap.size,0,none⟩) N N,by rw[HE2.out],?_,?_⟩
   · rw[HD2.out];exact hND.carry fun b hb=>⟨by omega,qd (by omega)⟩
   · exact hB6.setCell (p:=⟨w.heap.size+1,0,none⟩) (Nat.le_succ _) _
end
end Go.Proofs.YtfdbipeidmpciaaDoor
namespace Go.Proofs.YtfdbipeidmpciaaDoor
open Go.RowKit
set_option maxRecDepth 100000
theorem QB {n:Nat}{t:Tr}(hd:Deep n t.kids)(hg:qw t=true):qi (layF n t (-1) 0)=true∧growF (layF n t (-1) 0).length (layF n t (-1) 0) 0=t∧qy (layF n t (-1) 0) 0=((cnt (n+1) [t]:Nat):Int)∧(layF n t (-1) 0).length=cnt (n+1) [t]:=by
 have hlen:=layF_length n t (-1) 0 hd;have hseg:=Z2 (layF n t (-1) 0);have hg2:=hg;rw[zS hd]at hg2
 simp only[Bool.and_eq_true,Bool.not_eq_true',decide_eq_true_eq]at hg2
 obtain ⟨⟨_,hc⟩,_⟩:=hg2;have hgr:=grow_lay n t (layF n t (-1) 0).length (layF n t (-1) 0) (-1) 0 hd hseg (by omega)
 have hor:=ord_lay n t ((layF n t (-1) 0).length+1) (layF n t (-1) 0) (-1) 0 hd hseg (by omega)
 have hla:=last_lay n t (layF n t (-1) 0).length (layF n t (-1) 0) (-1) 0 hd hseg (by omega)
 have hgd:qi (layF n t (-1) 0)=true:=by
  unfold qi zI;rw[hor,hgr,hg,hlen];simp;omega
 refine ⟨hgd,hgr,?_,hlen⟩;unfold qy;have hpos:0<cnt (n+1) [t]:=by rw[qp];omega
 have ham:qP (layF n t (-1) 0) 0=true:=by unfold qP;rw[hlen];simp;omega
 rw[hgd,ham];simp only[Bool.and_self,if_true,Int.toNat_zero];omega
def zA (n:Nat)(x:Nd):Nd:={ x with kids:=x.kids.filter fun u=>decide (u<(n:Int)) }
def qT (L:List Nd)(n:Nat):List Nd:=(L.take n).map (zA n)
def WL (L:List Nd):Nat→List (Tr × Int)→Prop
 | n,[]=>n=L.length
 | n,i::r=>∃ d,Deep d i.1.kids∧Seg L n (layF d i.1 i.2 n)∧WL L (n+cnt (d+1) [i.1]) r
theorem WL.kids {L:List Nd}{d n:Nat}:∀ (ks:List Tr) (b:Nat) (r:List (Tr × Int)),(∀ k∈ks,Deep d k.kids)→Seg L b (qn d (layF d) n b ks)→WL L (b+cnt (d+1) ks) r→WL L b (ks.map (fun k=>(k,(n:Int)))++r):=by
 intro ks
 induction ks with
 | nil=>intro b r _ _ h;rw[qH]at h;exact h
 | cons k ks ih =>
   intro b r hd hs h;rw[qn]at hs
   have hl:=hs.left;have hr:=hs.right;have hdk:=hd k List.mem_cons_self;rw[layF_length d k n b hdk]at hr
   rw[qQ]at h
   refine ⟨d,hdk,hl,ih _ r (fun u hu=>hd u (List.mem_cons_of_mem _ hu)) hr ?_⟩
   rw[Nat.add_assoc];exact h
theorem WL.step {L:List Nd}{n:Nat}{t:Tr}{p:Int}{r:List (Tr × Int)}(h:WL L n ((t,p)::r)):∃ x,L[n]?=some x∧x.text=t.text∧x.s=t.s∧x.attrs=t.attrs∧x.parent=p∧WL L (n+1) (t.kids.map (fun k=>(k,(n:Int)))++r):=by
 obtain ⟨d,hd,hs,hr⟩:=h;have h0:=hs 0 _ (by rw[zf hd p n];rfl)
 refine ⟨_,h0,rfl,rfl,rfl,rfl,?_⟩;simp only at hd hs hr
 rw[qp]at hr
 cases d with
 | zero =>
   have e:t.kids=[]:=hd;rw[e]at hr ⊢
   rw[qH]at hr
   exact hr
 | succ d=>exact WL.kids t.kids (n+1) r hd (Seg.tail hs) (by rw[Nat.add_assoc];exact hr)
theorem WL.start {n:Nat}{t:Tr}(hd:Deep n t.kids):WL (layF n t (-1) 0) 0 [(t,-1)] :=
 ⟨n,hd,Z2 _,by show 0+cnt (n+1) [t]=_;rw[layF_length n t _ _ hd,Nat.zero_add]⟩
theorem yp {L:List Nd}{n:Nat}(h:n≤L.length):(qT L n).length=n:=by
 unfold qT;rw[List.length_map,List.length_take];omega
theorem j3 {L:List Nd}{n i:Nat}(h:i<n):(qT L n)[i]?=(L[i]?).map (zA n):=by
 unfold qT;rw[List.getElem?_map,List.getElem?_take,if_pos h]
theorem yR {n:Nat}{l:List Int}(h:∀ u∈l,(n:Int)≤u):(l.filter fun u=>decide (u<(n:Int)))=[]:=by
 rw[List.filter_eq_nil_iff];intro u hu;have:=h u hu;simp;omega
theorem ZV {L:List Nd}(hg:qi L=true){n:Nat}{x:Nd}(hx:L[n]?=some x):(qT L (n+1))[n]?=some { x with kids:=[] }:=by
 rw[j3 (Nat.lt_succ_self n),hx]
 show some (zA (n+1) x)=_
 unfold zA;rw[yR (fun u hu=>by obtain ⟨k,_,rfl,h,_⟩:=(qF hg hx).kids u hu;omega)]
theorem ZG {n:Nat}:∀ {l:List Int},l.Pairwise (fun a b=>a<b)→(l.filter fun u=>decide (u<((n+1:Nat):Int)))=(l.filter fun u=>decide (u<(n:Int)))++(if (n:Int)∈l then [(n:Int)] else []):=by
 intro l
 induction l with
 | nil=>intro _;simp
 | cons x l ih =>
   intro h;rw[List.pairwise_cons]at h
   by_cases h1:x<(n:Int)
   · rw[List.filter_cons_of_pos (by simp;omega), List.filter_cons_of_pos (by simpa using h1), ih h.2, List.cons_append]
     have:((n:Int)∈x::l)↔(n:Int)∈l:=by
      rw[List.mem_cons];exact ⟨fun h=>h.resolve_left (by omega),Or.inr⟩
     simp only[this]
   · by_cases h2 : x = (n : Int)
     · subst h2;rw[List.filter_cons_of_pos (by simp;omega),List.filter_cons_of_neg (by simp),if_pos List.mem_cons_self]
       rw[yR (n:=n+1) (fun u hu=>by have:=h.1 u hu;omega),yR (fun u hu=>by have:=h.1 u hu;omega)]
       rfl
     · rw[List.filter_cons_of_neg (by simp;omega), List.filter_cons_of_neg (by simp;omega), ih h.2]
       have:((n:Int)∈x::l)↔(n:Int)∈l:=by
        rw[List.mem_cons];exact ⟨fun h=>h.resolve_left (fun e=>h2 e.symm),Or.inr⟩
       simp only[this]
theorem QG {ns:List Nd}(hg:qi ns=true){q:Nat}{y:Nd}(hy:ns[q]?=some y):y.kids.Pairwise (fun u v=>u<v):=by
 refine List.Pairwise.imp_of_mem ?_ (qF hg hy).row;intro a b ha _ hab;obtain ⟨k,z,rfl,_,_,_,hz,_⟩:=(qF hg hy).kids a ha;have:=(qF hg hz).gt;omega
theorem Ja {ns:List Nd}(hg:qi ns=true){q n:Nat}{y x:Nd}(hy:ns[q]?=some y)(hx:ns[n]?=some x):(n:Int)∈y.kids↔x.parent=(q:Int):=by
 constructor
 · intro h;obtain ⟨k,z,e,_,_,_,hz,hp⟩:=(qF hg hy).kids _ h;have:k=n:=by omega
   subst this;rw[hx]at hz
   obtain rfl:=Option.some.inj hz;exact hp
 · intro h
   rcases (qF hg hx).par with ⟨_,hp⟩|⟨q',y',hy',hp,_,hm⟩
   · omega
   · have : q' = q := by omega
     subst this;rw[hy]at hy'
     obtain rfl:=Option.some.inj hy';exact hm
theorem ZW {L:List Nd}(hg:qi L=true){n i:Nat}{x y:Nd}(hx:L[n]?=some x)(hi:i<n)(hy:L[i]?=some y) :
 (qT L n)[i]?=some (zA n y)∧(qT L (n+1))[i]?=some { zA n y with kids:=(zA n y).kids++(if x.parent=(i:Int) then [(n:Int)] else []) }:=by
 rw[j3 hi,j3 (by omega),hy]
 refine ⟨rfl,?_⟩
 show some (zA (n+1) y)=_
 unfold zA;simp only;rw[ZG (QG hg hy)];simp only[Ja hg hy hx]
theorem Xt {L:List Nd}(hg:qi L=true):qT L L.length=L:=by
 unfold qT;rw[List.take_length]
 conv=>rhs;rw[←List.map_id L]
 apply List.map_congr_left
 intro y hy;obtain ⟨i,hi⟩:=List.mem_iff_getElem?.1 hy;unfold zA
 have:(y.kids.filter fun u=>decide (u<(L.length:Int)))=y.kids:=by
  rw[List.filter_eq_self];intro u hu;obtain ⟨k,_,rfl,_,h,_⟩:=(qF hg hi).kids u hu;simp;omega
 rw[this];rfl
def xU (ns:List Nd)(n k:Nat):Bool:=match ns[k]? with|some y=>decide (y.parent=(n:Int))|none=>false
def qK (ns:List Nd)(n:Nat):Nat→List Int
 | 0=>[]
 | k+1=>qK ns n k++(if n<k∧xU ns n k=true then [(k:Int)] else [])
def treeF:Nat→List Nd→Nat→Tr
 | 0,_,_=>⟨false,⟨#[]⟩,[],[]⟩
 | f + 1, ns, n => match ns[n]? with
   | none=>⟨false,⟨#[]⟩,[],[]⟩
   | some x=>⟨x.text,x.s,x.attrs,(qK ns n ns.length).map fun k=>treeF f ns k.toNat⟩
theorem QI (ns:List Nd)(n:Nat):∀ (m:Nat) (u:Int),u∈qK ns n m↔∃ k:Nat,u=(k:Int)∧k<m∧n<k∧xU ns n k=true:=by
 intro m
 induction m with
 | zero=>intro u;simp[qK]
 | succ m ih =>
   intro u;rw[qK,List.mem_append,ih]
   constructor
   · rintro (⟨k, h1, h2, h3⟩ | h)
     · exact ⟨k,h1,by omega,h3⟩
     · split at h
       · rename_i hc
         rw[List.mem_singleton]at h
         exact ⟨m,h,by omega,hc⟩
       · simp at h
   · rintro ⟨k, h1, h2, h3⟩
     by_cases hk:k=m
     · subst hk
       right
       rw[if_pos h3,h1];exact List.mem_singleton.2 rfl
     · exact Or.inl ⟨k,h1,by omega,h3⟩
theorem Zh (ns:List Nd)(n:Nat):∀ (m:Nat),(qK ns n m).Pairwise (fun u v=>u<v):=by
 intro m
 induction m with
 | zero=>exact List.Pairwise.nil
 | succ m ih =>
   rw[qK,List.pairwise_append];refine ⟨ih,?_,?_⟩
   · split
     · exact List.Pairwise.cons (by simp) List.Pairwise.nil
     · exact List.Pairwise.nil
   · intro u hu v hv;obtain ⟨k,rfl,hk,_⟩:=(QI ns n m u).1 hu
     split at hv
     · rw[List.mem_singleton]at hv;omega
     · simp at hv
theorem rise_ext:∀ {a b:List Int},a.Pairwise (fun u v=>u<v)→b.Pairwise (fun u v=>u<v)→(∀ u,u∈a↔u∈b)→a=b:=by
 intro a
 induction a with
 | nil =>
   intro b _ _ h;cases b with
   | nil=>rfl
   | cons y b=>exact absurd ((h y).2 List.mem_cons_self) (by simp)
 | cons x a ih =>
   intro b ha hb h;cases b with
   | nil=>exact absurd ((h x).1 List.mem_cons_self) (by simp)
   | cons y b =>
     rw[List.pairwise_cons]at ha hb
     have hxy:x=y:=by
      have h1:=(h x).1 List.mem_cons_self;have h2:=(h y).2 List.mem_cons_self;rw[List.mem_cons]at h1 h2
      rcases h1 with h1|h1
      · exact h1
      · rcases h2 with h2 | h2
        · exact h2.symm
        · have := hb.1 x h1;have:=ha.1 y h2;omega
     subst hxy;rw[ih ha.2 hb.2 (fun u=>?_)]
     constructor
     · intro hu;have h1:=(h u).1 (List.mem_cons_of_mem _ hu);rw[List.mem_cons]at h1
       rcases h1 with rfl|h1
       · exact absurd (ha.1 u hu) (by omega)
       · exact h1
     · intro hu;have h1:=(h u).2 (List.mem_cons_of_mem _ hu);rw[List.mem_cons]at h1
       rcases h1 with rfl|h1
       · exact absurd (hb.1 u hu) (by omega)
       · exact h1
theorem JQ {ns:List Nd}(hg:qi ns=true){n:Nat}{x:Nd}(hx:ns[n]?=some x):qK ns n ns.length=x.kids:=by
 refine rise_ext (Zh _ _ _) (QG hg hx) (fun u=>?_)
 rw[QI]
 constructor
 · rintro ⟨k, rfl, hk, hnk, hp⟩;unfold xU at hp
   cases hy:ns[k]? with
   | none=>rw[hy]at hp;cases hp
   | some y =>
     rw[hy]at hp
     simp only[decide_eq_true_eq]at hp
     exact (Ja hg hx hy).2 hp
 · intro hu;obtain ⟨k,y,rfl,h1,h2,_,hy,hp⟩:=(qF hg hx).kids u hu;exact ⟨k,rfl,h2,h1,by unfold xU;rw[hy];simp[hp]⟩
theorem QK {ns:List Nd}(hg:qi ns=true):∀ (f n:Nat),treeF f ns n=growF f ns n:=by
 intro f
 induction f with
 | zero=>intro n;rfl
 | succ f ih =>
   intro n;rw[treeF,growF];cases hx:ns[n]? with
   | none=>rfl
   | some x =>
     simp only;rw[JQ hg hx]
     congr 1
     apply List.map_congr_left
     intro k _;exact ih _
def zt (ns:List Nd):Nat→Bool
 | 0=>true
 | k+1=>zt ns k&&(match ns[k]? with|some x=>decide (k=0)||(decide (0≤x.parent)&&decide (x.parent<(k:Int)))|none=>true)
def Kd (ns:List Nd)(t:Tr):Prop:=qw t=true∧∃ d,Deep d t.kids∧layF d t (-1) 0=ns
theorem jZ {ns:List Nd}:qi ns=true↔(0<ns.length∧ns.length≤80∧(∃ x,ns[0]?=some x∧x.parent=-1)∧zt ns ns.length=true∧Kd ns (treeF ns.length ns 0)):=by
 constructor
 · intro hg;obtain ⟨d,t,hd,hs,hc,_,_,hgb,hgr⟩:=zM hg
   have h80:ns.length≤80:=by
    have:=hg;simp only[qi,Bool.and_eq_true,decide_eq_true_eq]at this
    exact this.1.1
   have hpos:0<ns.length:=by rw[←hc,qp];omega
   refine ⟨hpos,h80,⟨_,hs 0 _ (by rw[zf hd (-1) 0];rfl),rfl⟩,?_,?_⟩
   · have:∀ k,zt ns k=true:=by
      intro k
      induction k with
      | zero=>rfl
      | succ k ih =>
        rw[zt,ih,Bool.true_and];cases hx:ns[k]? with
        | none=>rfl
        | some x =>
          simp only[Bool.or_eq_true,Bool.and_eq_true,decide_eq_true_eq]
          rcases (qF hg hx).par with ⟨h,_⟩|⟨q,_,_,hp,hq,_⟩
          · exact Or.inl h
          · exact Or.inr (by omega)
     exact this _
   · rw[QK hg, hgr];refine ⟨hgb,d,hd,?_⟩;have hlen:=layF_length d t (-1) 0 hd
     apply List.ext_getElem?
     intro i
     rcases Nat.lt_or_ge i ns.length with hi|hi
     · have : (layF d t (-1) 0)[i]? = some (layF d t (-1) 0)[i] := List.getElem?_eq_getElem (by omega)
       rw[this];have:=hs i _ this;rw[Nat.zero_add]at this
       exact this.symm
     · rw[List.getElem?_eq_none (by omega),List.getElem?_eq_none (by omega)]
 · rintro ⟨_, _, _, _, hgb, d, hd, hL⟩;have:=(QB hd hgb).1;rw[hL]at this
   exact this
def withF:Nat→List Nd→Int→Int→Bool
 | 0,_,_,_=>false
 | f+1,ns,n,m=>if n<0 then false else if n=m then true else match ns[n.toNat]? with|some x=>withF f ns x.parent m|none=>false
theorem X8 {ns:List Nd}(hg:qi ns=true)(m:Nat):∀ (f n:Nat),n<f→n<ns.length→withF f ns (n:Int) (m:Int)=(decide ((m:Int)≤n)&&decide ((n:Int)<qy ns (m:Int)))∧(withF f ns (n:Int) (m:Int)=true→qy ns (n:Int)≤qy ns (m:Int)):=by
 intro f
 induction f with
 | zero=>intro n h;omega
 | succ f ih =>
   intro n hf hn;obtain ⟨x,hx⟩:∃ x,ns[n]?=some x:=⟨ns[n],by simp[hn]⟩
   have hgt:=(qF hg hx).gt;rw[withF,if_neg (by omega)]
   by_cases he:(n:Int)=(m:Int)
   · rw[if_pos he];have:n=m:=by omega
     subst this;refine ⟨by simp;omega,fun _=>Int.le_refl _⟩
   · rw[if_neg he, Int.toNat_natCast, hx];simp only
     rcases (qF hg hx).par with ⟨h0,hp⟩|⟨q,y,hy,hp,hq,hm⟩
     · rw[hp]
       have e:withF f ns (-1) (m:Int)=false:=by cases f with
        | zero=>rfl
        | succ f=>rw[withF,if_pos (by omega)]
       rw[e];refine ⟨?_,fun h=>by cases h⟩
       have:¬ ((m:Int)≤(n:Int)):=by omega
       simp[this]
     · rw[hp];obtain ⟨i1,i2⟩:=ih q (by omega) (qD hy)
       have hkid:=(qF hg hy).kids _ hm;obtain ⟨k,_,ek,_,_,hend,_⟩:=hkid;have:k=n:=by omega
       subst this;refine ⟨?_,fun h=>Int.le_trans hend (i2 h)⟩
       cases hw:withF f ns (q:Int) (m:Int) with
       | true =>
         have h2:=i2 hw;rw[hw]at i1
         have i1':=i1.symm;simp only[Bool.and_eq_true,decide_eq_true_eq]at i1'
         symm
         simp only[Bool.and_eq_true,decide_eq_true_eq];omega
       | false =>
         rw[hw]at i1
         symm
         rw[Bool.and_eq_false_iff]
         by_cases h1:(m:Int)≤(k:Int)
         · by_cases h2 : (k : Int) < qy ns (m : Int)
           · exfalso
             obtain ⟨q',hq1,hq2,hq3⟩:=Yq hg hx (m:=m) (by omega) h2
             have:q'=q:=by omega
             subst this;have i1':=i1.symm;rw[Bool.and_eq_false_iff]at i1'
             simp only[decide_eq_false_iff_not]at i1'
             omega
           · exact Or.inr (by simpa using h2)
         · exact Or.inl (by simpa using h1)
def zV (g:Nat→Nat):Nat→Nat
 | 0=>0
 | n+1=>zV g n+g n
theorem Z6 (g h:Nat→Nat):∀ n,zV (fun k=>g k+h k) n=zV g n+zV h n:=by
 intro n
 induction n with
 | zero=>rfl
 | succ n ih=>simp only[zV];rw[ih];omega
theorem X5 {g h:Nat→Nat}(hl:∀ k,g k≤h k):∀ n,zV g n≤zV h n:=by
 intro n
 induction n with
 | zero=>exact nR9 _
 | succ n ih=>simp only[zV];have:=hl n;omega
theorem X4 (g:Nat→Nat):∀ (n k:Nat),k<n→g k≤zV g n:=by
 intro n
 induction n with
 | zero=>intro k h;omega
 | succ n ih =>
   intro k h;simp only[zV]
   by_cases hk:k=n
   · subst hk;omega
   · have:=ih k (by omega);omega
theorem jB (c:Nat):∀ n,zV (fun _=>c) n=n*c:=by
 intro n
 induction n with
 | zero=>simp[zV]
 | succ n ih=>simp only[zV];rw[ih,Nat.add_mul];omega
theorem YG (ns:List Nd)(m a:Nat):∀ N,zV (fun n=>if n<m∧xU ns n m=true then a else 0) N≤a:=by
 intro N
 induction N with
 | zero=>exact nZ9 _
 | succ N ih =>
   simp only[zV]
   by_cases hc:N<m∧xU ns N m=true
   · have hz:∀ M,M≤N→zV (fun n=>if n<m∧xU ns n m=true then a else 0) M=0:=by
      intro M
      induction M with
      | zero=>intro _;rfl
      | succ M ihM =>
        intro hM;simp only[zV];rw[ihM (by omega),if_neg]
        rintro ⟨_,h2⟩;have h1:=hc.2;unfold xU at h1 h2
        cases hy:ns[m]? with
        | none=>simp[hy]at h1
        | some y=>simp[hy]at h1 h2;omega
     rw[hz N (nR9 _),if_pos hc];omega
   · rw[if_neg hc];omega
theorem Xx (ns:List Nd)(h:Nat→Nat)(N:Nat):∀ m,zV (fun n=>((qK ns n m).map fun u=>h u.toNat).sum) N≤zV h m:=by
 intro m
 induction m with
 | zero =>
   have:zV (fun n=>((qK ns n 0).map fun u=>h u.toNat).sum) N=0:=by
    have:=jB 0 N
    simpa[qK] using this
   rw[this];exact nZ9 _
 | succ m ih =>
   have e:(fun n=>((qK ns n (m+1)).map fun u=>h u.toNat).sum)=fun n=>((qK ns n m).map fun u=>h u.toNat).sum+(if n<m∧xU ns n m=true then h m else 0):=by
    funext n
    rw[qK,List.map_append,List.sum_append]
    split
    · simp
    · simp
   rw[e,Z6];simp only[zV];have:=YG ns m (h m) N;omega
theorem J5 (f:Nat)(g:Int→Tr)(l:List Int):cnt (f+1) (l.map g)=(l.map fun k=>cnt (f+1) [g k]).sum:=by
 induction l with
 | nil=>rfl
 | cons x l ih=>rw[List.map_cons,qQ,ih,List.map_cons,List.sum_cons]
theorem XF (ns:List Nd):∀ f,zV (fun n=>cnt (f+1) [treeF f ns n]) ns.length≤ns.length*(f+1):=by
 intro f
 induction f with
 | zero =>
   have e:(fun n=>cnt (0+1) [treeF 0 ns n])=fun _=>1:=by
    funext n
    simp[cnt]
   rw[e,jB];omega
 | succ f ih =>
   have hle:∀ n,cnt (f+1+1) [treeF (f+1) ns n]≤1+((qK ns n ns.length).map fun u=>cnt (f+1) [treeF f ns u.toNat]).sum:=by
    intro n;rw[qp,treeF];cases hx:ns[n]? with
    | none=>simp[qH]
    | some x =>
      show 1+cnt (f+1) ((qK ns n ns.length).map fun k=>treeF f ns k.toNat)≤_
      rw[J5];exact nR9 _
   have h1:=X5 hle ns.length;rw[Z6,jB]at h1
   have h2:=Xx ns (fun k=>cnt (f+1) [treeF f ns k]) ns.length ns.length
   have e:ns.length*(f+1+1)=ns.length*(f+1)+ns.length:=by rw[Nat.mul_add];omega
   rw[e];omega
theorem XE {ns:List Nd}{f n:Nat}(hn:n<ns.length)(h80:ns.length≤80)(hf:f≤80):cnt (f+1) [treeF f ns n]≤1048576:=by
 have h1:=X4 (fun n=>cnt (f+1) [treeF f ns n]) ns.length n hn
 have h2:=XF ns f;have h3:ns.length*(f+1)≤80*81:=Nat.mul_le_mul h80 (by omega)
 omega
end Go.Proofs.YtfdbipeidmpciaaDoor
namespace Go.Proofs.YtfdbipeidmpciaaDoor
open Go.ChangeShapes Go.WideShapes Go.ChangeAt Go.RowKit
set_option maxRecDepth 100000
section
attribute [local go_sem] qg
def docsT:Tr:=⟨false,⟨#[97]⟩,[],[⟨false,⟨#[98]⟩,[],[⟨true,⟨#[120]⟩,[],[]⟩]⟩,⟨false,⟨#[99]⟩,[],[]⟩]⟩
def docsN:List Nd:=[⟨false,⟨#[97]⟩,[],-1,[1,3]⟩,⟨false,⟨#[98]⟩,[],0,[2]⟩,⟨true,⟨#[120]⟩,[],1,[]⟩,⟨false,⟨#[99]⟩,[],0,[]⟩]
theorem docs_good:qw docsT=true:=by kernel_rfl
theorem docs_made:yl 2 docsT=docsN:=by kernel_rfl
theorem docs_end:qy docsN 1=3:=by kernel_rfl
theorem docs_str:jb docsN 0=[120]:=by kernel_rfl
theorem docs_in:inD docsN 2 1=true:=by kernel_rfl
theorem docs_texts:TextsN 3 [docsT]:=by
 intro t ht;simp only[List.mem_singleton]at ht
 subst ht;refine ⟨⟨by show 1≤maxLen;unfold maxLen;omega,by intro x hx;simp[docsT]at hx⟩,fun u hu=>?_⟩
 simp only[docsT,List.mem_cons,List.not_mem_nil,or_false]at hu
 rcases hu with rfl|rfl
 · refine ⟨⟨by show 1 ≤ maxLen;unfold maxLen;omega, by intro x hx;simp at hx⟩, fun z hz => ?_⟩
   simp only[List.mem_singleton]at hz
   subst hz;exact ⟨⟨by show 1≤maxLen;unfold maxLen;omega,by intro x hx;simp at hx⟩,trivial⟩
 · exact ⟨⟨by show 1≤maxLen;unfold maxLen;omega,by intro x hx;simp at hx⟩,fun z hz=>by simp at hz⟩
theorem Ki {S:Nat→Prop}{w:World}{v:Value}(h:qr S w v docsN)(hS:∀ b,S b→b<w.heap.size):zl S w v docsN:=by
 refine ⟨h,hS,fun x hx=>?_,fun x hx=>?_⟩
 · simp only[docsN, List.mem_cons, List.not_mem_nil, or_false]at hx
   rcases hx with rfl|rfl|rfl|rfl<;>exact nZ9 _
 · simp only[docsN, List.mem_cons, List.not_mem_nil, or_false]at hx
   rcases hx with rfl|rfl|rfl|rfl<;>exact ⟨by show 1≤maxLen;unfold maxLen;omega,by intro y hy;simp at hy⟩
end
end Go.Proofs.YtfdbipeidmpciaaDoor
