/- Bundled: ParseM SizeM ContM CountT Count CountS SizeT PrintT Print BackM BackT PairT Alike. What each says stands ahead of it. -/
import Derived.Test.YtchkbffgancidaaGreatDoorBundle15
import Derived.Test.YtchkbffgancidaaGreatDoorBundle18
namespace Go.Proofs.YtchkbffgancidaaGreatDoor
open Go.RowKit
set_option maxRecDepth 100000
theorem Y4 {α:Type}{more:Rs→Bool}{step:Rs→α × Rs}{P:α→Prop}{M:Nat}(hstep:∀ r,more r=true→r.rest.length≤M→P (step r).1)(hle:∀ r,more r=true→(step r).2.le r) :
 ∀ (f:Nat) (r:Rs),r.rest.length≤M→∀ x∈(zg more step f r).1,P x:=by
 intro f
 induction f with
 | zero=>intro r _ x hx;simp[zg]at hx
 | succ f ih =>
   intro r hr x hx;unfold zg at hx
   split at hx
   · rename_i h
     simp only[List.mem_cons]at hx
     rcases hx with rfl|hx
     · exact hstep r h hr
     · exact ih _ (Nat.le_trans (hle r h).1 hr) x hx
   · simp at hx
theorem QF (p:UInt8→Bool)(l:List UInt8):(l.takeWhile p).length≤l.length:=by
 induction l with
 | nil=>simp
 | cons c r ih=>rw[List.takeWhile_cons];split<;>simp<;>omega
theorem ZB (ends:List UInt8):∀ (f:Nat)(r:Rs),(Rs.meant ends f r).1.length≤r.left:=by
 intro f
 induction f with
 | zero=>intro r;simp[Rs.meant]
 | succ f ih =>
   intro r;unfold Rs.meant
   split
   · rename_i h
     have h1:=Qt h;have h2:=ih r.sign.2;simp;omega
   · simp
theorem K2 (r:Rs)(ends:List UInt8):(r.text ends).1.length≤r.rest.length+1:=Nat.le_trans (ZB _ _ r) (Zf r)
theorem Vc {M:Nat}(r:Rs)(h:r.rest.length≤M):r.attr.1.1.length≤M+1∧r.attr.1.2.length≤M+1:=by
 have h1:=(z7 r).1;have h2:=QF qH r.skip.rest;have h3:=K2 (r.skip.name.must [61,34]) valueEnds;have h4:=((zw r.skip.name [61,34]).trans ((jx _).trans (z7 r))).1;exact ⟨by show (r.skip.rest.takeWhile qH).length≤_;omega,by show ((r.skip.name.must [61,34]).text valueEnds).1.length≤_;omega⟩
def qbN (M:Nat)(t:Tr):Prop:=t.s.size≤M∧∀ x∈t.attrs,x.1.size≤M∧x.2.size≤M
def yV (M:Nat):Nat→List Tr→Prop
 | 0,_=>True
 | n+1,ts=>∀ t∈ts,qbN M t∧yV M n t.kids
theorem yV.texts {M:Nat}(hM:M≤maxLen):∀ (n:Nat)(ts:List Tr),yV M n ts→TextsN n ts:=by
 intro n
 induction n with
 | zero=>intro ts _;trivial
 | succ n ih =>
   intro ts h t ht;obtain ⟨⟨h1,h2⟩,h3⟩:=h t ht;exact ⟨⟨Nat.le_trans h1 hM,fun x hx=>⟨Nat.le_trans (h2 x hx).1 hM,Nat.le_trans (h2 x hx).2 hM⟩⟩,ih _ h3⟩
theorem yV.nil (M n:Nat):yV M n []:=by cases n with|zero=>trivial|succ n=>intro t ht;simp at ht
theorem J4 {M f:Nat}(ih:∀ r,r.rest.length≤M→yV (M+1) f (treesF f r).1)(r:Rs)(h:r.rest.length≤M):qbN (M+1) (r.one (treesF f)).1∧yV (M+1) f (r.one (treesF f)).1.kids:=by
 unfold Rs.one
 by_cases h2:r.ahead [60]=true
 · rw[if_pos h2];unfold Rs.elem;have h3:=(zw r [60]).1
   have hat:∀ x∈(r.must [60]).name.attrs.1,x.1.length≤M+1∧x.2.length≤M+1 :=
    Y4 (fun r _ hr=>Vc r hr) (fun r _=>(Z5 r).trans (z7 r)) _ _ (by have:=((jx (r.must [60])).trans (zw r [60])).1;omega)
   have hnm:(qc (r.must [60]).nameOf).size≤M+1:=by
    rw[ql];have:=QF qH (r.must [60]).rest
    show ((r.must [60]).rest.takeWhile qH).length≤_
    omega
   have hsh:∀ x∈asB (sortA (r.must [60]).name.attrs.1),x.1.size≤M+1∧x.2.size≤M+1:=by
    intro x hx;simp only[asB,List.mem_map]at hx
    obtain ⟨y,hy,rfl⟩:=hx;have:=hat y ((YZ _).mem_iff.1 hy);simp only[ql];exact this
   unfold Rs.elemIn
   split
   · exact ⟨⟨hnm,hsh⟩,yV.nil _ _⟩
   · exact ⟨⟨hnm,hsh⟩,ih _ (by have:=((zw (r.must [60]).name.attrs.2.skip [62]).trans ((z7 _).trans ((Yi _).trans ((jx _).trans (zw r [60]))))).1;omega)⟩
 · rw[if_neg h2];refine ⟨⟨?_,by intro x hx;simp at hx⟩,yV.nil _ _⟩
   rw[ql];have:=K2 r textEnds;omega
theorem Zp (M:Nat):∀ (f:Nat)(r:Rs),r.rest.length≤M→yV (M+1) f (treesF f r).1:=by
 intro f
 induction f with
 | zero=>intro r _;trivial
 | succ f ih =>
   intro r h;exact Y4 (P:=fun t=>qbN (M+1) t∧yV (M+1) f t.kids) (fun r _ hr=>J4 ih r hr) (fun r _=>VG (treesF_le f) r) _ r h
def zeroT:Tr:=⟨false,⟨#[]⟩,[],[]⟩
def qA (s:List UInt8):Tr × Int :=
 if 2500<s.length then (zeroT,2)
 else if ((⟨s,false⟩:Rs).one (treesF s.length)).2.wrong||decide (((⟨s,false⟩:Rs).one (treesF s.length)).2.rest≠[])||!qS ((⟨s,false⟩:Rs).one (treesF s.length)).1 then (zeroT,1)
 else (((⟨s,false⟩:Rs).one (treesF s.length)).1,0)
def qN (s:List UInt8):List Tr × Int :=
 if 2500<s.length then ([],2)
 else if (treesF (s.length+1) ⟨s,false⟩).2.wrong||decide ((treesF (s.length+1) ⟨s,false⟩).2.rest≠[])||!qG (treesF (s.length+1) ⟨s,false⟩).1 then ([],1)
 else ((treesF (s.length+1) ⟨s,false⟩).1,0)
end Go.Proofs.YtchkbffgancidaaGreatDoor
namespace Go.Proofs.YtchkbffgancidaaGreatDoor
open Go.ChangeShapes Go.WideShapes Go.ChangeAt Go.RowKit
set_option maxRecDepth 100000
def dep:Nat→List Tr→Nat
 | 0,_=>0
 | n+1,ts=>(ts.map fun t=>1+dep n t.kids).foldr max 0
theorem y5 (n:Nat):dep n []=0:=by cases n<;>rfl
theorem jI (n:Nat)(t:Tr)(r:List Tr):dep (n+1) (t::r)=max (1+dep n t.kids) (dep (n+1) r):=rfl
theorem jH (n:Nat)(a b:List Tr):dep n (a++b)=max (dep n a) (dep n b):=by
 cases n with
 | zero=>rfl
 | succ n =>
   induction a with
   | nil=>simp[y5]
   | cons t r ih=>rw[List.cons_append,jI,jI,ih];omega
theorem zj (n:Nat)(a b:List Tr):cnt n (a++b)=cnt n a+cnt n b:=by
 cases n with
 | zero=>rfl
 | succ n =>
   induction a with
   | nil=>simp[qQ]
   | cons t r ih=>rw[List.cons_append,qY,qY,ih];omega
theorem dep_cnt:∀ (n:Nat)(ts:List Tr),dep n ts≤cnt n ts:=by
 intro n
 induction n with
 | zero=>intro ts;exact nR9 _
 | succ n ih =>
   intro ts
   induction ts with
   | nil=>rw[y5];omega
   | cons t r ihr=>rw[jI,qY];have:=ih t.kids;omega
def nx (ts:List Tr):List Tr:=ts.flatMap fun t=>t.kids
theorem nx_nil:nx []=[]:=rfl
theorem xI (t:Tr)(r:List Tr):nx (t::r)=t.kids++nx r:=by simp[nx]
theorem jF (a b:List Tr):nx (a++b)=nx a++nx b:=by simp[nx]
theorem Zx (n:Nat)(ts:List Tr):cnt (n+1) ts=ts.length+cnt n (nx ts):=by
 induction ts with
 | nil=>simp[qQ,nx_nil]
 | cons t r ih=>rw[qY,xI,zj,ih,List.length_cons];omega
theorem qb5 (n:Nat)(ts:List Tr)(h:ts≠[]):dep (n+1) ts=1+dep n (nx ts):=by
 induction ts with
 | nil=>exact absurd rfl h
 | cons t r ih =>
   rw[jI,xI,jH]
   by_cases hr:r=[]
   · subst hr;rw[y5,nx_nil,y5];omega
   · rw[ih hr];omega
theorem Deep.len {n:Nat}{ts:List Tr}(h:Deep n ts):ts.length≤cnt n ts:=by
 cases n with
 | zero =>
   have:ts=[]:=h;rw[this];exact nZ9 _
 | succ n=>rw[Zx];omega
theorem J5 {α:Type}{p:Nat→α→Prop}:∀ (n:Nat),(∀ i,i<n→∃ y,p i y)→∃ l:List α,l.length=n∧∀ i y,l[i]?=some y→p i y:=by
 intro n
 induction n with
 | zero=>intro _;exact ⟨[],rfl,fun i y h=>by simp at h⟩
 | succ n ih =>
   intro h;obtain ⟨l,hl,hp⟩:=ih (fun i hi=>h i (by omega))
   obtain ⟨y,hy⟩:=h n (by omega)
   refine ⟨l++[y],by simp[hl],fun i z hz=>?_⟩
   rcases Nat.lt_or_ge i n with hi|hi
   · rw[List.getElem?_append_left (by omega)]at hz;exact hp i z hz
   · rw[List.getElem?_append_right (by omega), hl]at hz
     rcases Nat.eq_zero_or_pos (i-n) with h0|h0
     · rw[h0]at hz;simp at hz;subst hz
       have:i=n:=by omega
       rw[this];exact hy
     · rw[List.getElem?_eq_none (by simp;omega)]at hz;cases hz
theorem xM (n:Nat):rgt n []=true:=by cases n<;>rfl
theorem VP {n:Nat}{t:Tr}(h:qw t=true):(t.text||rgt n t.kids)=rgt n t.kids:=by
 cases htt:t.text with
 | false=>rfl
 | true =>
   have:t.kids=[]:=by
    simp[qw,htt]at h
    exact h.2
   rw[this,xM];rfl
theorem qeK (d n:Nat)(f:Int→List Tr→Int)
    (hf:∀ room k,0≤room→Deep n k→f room k=if dep n k≤d∧(cnt n k:Int)≤room∧rgt n k=true then room-cnt n k else -1) :
    ∀ (l : List Tr) (p : Bool) (room : Int), 0 ≤ room → Deep (n + 1) l →
      rl f p room l=if dep n (nx l)≤d∧(cnt n (nx l):Int)≤room∧rgL (rgt n) p l=true then room-cnt n (nx l) else -1:=by
  intro l
  induction l with
  | nil =>
    intro p room h0 _;rw[nx_nil,y5,qQ,if_pos ⟨nZ9 _,by simpa using h0,rfl⟩]
    simp[rl]
  | cons t r ih =>
    intro p room h0 hd;have hk:Deep n t.kids:=hd t (List.mem_cons_self ..);have hr:Deep (n+1) r:=fun x hx=>hd x (List.mem_cons_of_mem _ hx)
    rw[xI,jH,zj];unfold rl;have hfk:=hf room t.kids h0 hk
    by_cases hA:(!qw t||(p&&t.text))=true
    · rw[if_pos hA, if_neg];rintro ⟨_,_,h3⟩;unfold rgL at h3
      cases h1:qw t<;>cases h2:(p&&t.text)<;>simp[h1,h2]at hA h3
    · rw[if_neg hA];have h1:qw t=true:=by cases h:qw t<;>simp[h]at hA ⊢
      have h2:(p&&t.text)=false:=by cases h:(p&&t.text)<;>simp[h]at hA ⊢
      have hg:rgL (rgt n) p (t::r)=(rgt n t.kids&&rgL (rgt n) t.text r):=by
        show (qw t&&!(p&&t.text)&&(t.text||rgt n t.kids)&&rgL (rgt n) t.text r)=_
        rw[h1,h2,VP h1];rfl
      rw[hg]
      by_cases hK:dep n t.kids≤d∧(cnt n t.kids:Int)≤room∧rgt n t.kids=true
      · rw[if_pos hK]at hfk
        rw[hfk,if_neg (by omega),ih t.text (room-cnt n t.kids) (by omega) hr]
        by_cases hR:dep n (nx r)≤d∧(cnt n (nx r):Int)≤room-cnt n t.kids∧rgL (rgt n) t.text r=true
        · rw[if_pos hR, if_pos ⟨by omega, by push_cast;omega, by rw[hK.2.2, hR.2.2];rfl⟩]
          push_cast;omega
        · rw[if_neg hR, if_neg];rintro ⟨a,b,c⟩;rw[hK.2.2]at c
          exact hR ⟨by omega,by push_cast at b;omega,by simpa using c⟩
      · rw[if_neg hK]at hfk
        rw[hfk,if_pos (by decide),if_neg]
        rintro ⟨a,b,c⟩;simp only[Bool.and_eq_true]at c
        exact hK ⟨by omega,by push_cast at b;omega,c.1⟩
theorem rb_eq:∀ (d n:Nat)(l:List Tr)(room:Int),0≤room→Deep n l →
 rb d room l=if dep n l≤d∧(cnt n l:Int)≤room∧rgt n l=true then room-cnt n l else -1:=by
 intro d
 induction d with
 | zero =>
   intro n l room h0 hd;unfold rb;cases l with
   | nil=>simp[y5,qQ,xM];omega
   | cons t r =>
     cases n with
     | zero=>cases (show t::r=[] from hd)
     | succ n =>
       rw[if_neg (by simp),if_neg]
       rintro ⟨a,_⟩;rw[jI]at a;omega
 | succ d ih =>
   intro n l room h0 hd;unfold rb;cases l with
   | nil=>simp[y5,qQ,xM];omega
   | cons t r =>
     cases n with
     | zero=>cases (show t::r=[] from hd)
     | succ n =>
       rw[if_neg (by simp)]
       generalize hl:t::r=l at *
       have hne:l≠[]:=by rw[←hl];simp
       rw[qb5 n l hne,Zx n l]
       by_cases hrm:room<(l.length:Int)
       · rw[if_pos hrm, if_neg];rintro ⟨_,b,_⟩
         push_cast at b;omega
       · rw[if_neg hrm, qeK d n (rb d) (fun room k h hk => ih n k room h hk) l false (room - l.length) (by omega) hd]
         by_cases hR:dep n (nx l)≤d∧(cnt n (nx l):Int)≤room-l.length∧rgL (rgt n) false l=true
         · rw[if_pos hR,if_pos ⟨by omega,by push_cast;omega,hR.2.2⟩];push_cast;omega
         · rw[if_neg hR, if_neg];rintro ⟨a,b,c⟩;exact hR ⟨by omega,by push_cast at b;omega,c⟩
theorem jW {n:Nat}{l:List Tr}(hd:Deep n l):qG l=(decide (dep n l≤8)&&decide (cnt n l≤80)&&rgt n l):=by
 unfold qG;rw[rb_eq 8 n l 80 (by decide) hd]
 by_cases h:dep n l≤8∧(cnt n l:Int)≤80∧rgt n l=true
 · rw[if_pos h];have h2:cnt n l≤80:=by omega
   simp[h.1,h2,h.2.2];omega
 · rw[if_neg h];cases hr:rgt n l with
   | false=>simp
   | true =>
     have:¬ (dep n l≤8∧cnt n l≤80):=fun ⟨a,b⟩=>h ⟨a,by omega,hr⟩
     by_cases h1:dep n l≤8
     · have h2 : ¬ cnt n l ≤ 80 := fun b => this ⟨h1, b⟩
       simp[h2]
     · simp[h1]
theorem jK {n:Nat}{t:Tr}(hd:Deep n t.kids):qS t=(!t.text&&decide (dep (n+1) [t]<9)&&decide (cnt (n+1) [t]<81)&&rgt (n+1) [t]):=by
 have h:Deep (n+1) [t]:=by intro x hx;simp at hx;subst hx;exact hd
 unfold qS;rw[jW h];have e1:decide (dep (n+1) [t]≤8)=decide (dep (n+1) [t]<9):=by congr 1;apply propext;omega
 have e2:decide (cnt (n+1) [t]≤80)=decide (cnt (n+1) [t]<81):=by congr 1;apply propext;omega
 rw[e1,e2,Bool.and_assoc,Bool.and_assoc,Bool.and_assoc]
def groupCells:List (Value × Nat)→List Value
 | []=>[]
 | x::r=>x.1::.int .i64 (x.2:Int)::groupCells r
theorem jZ (l:List (Value × Nat)):(groupCells l).length=l.length*2:=by
 induction l with
 | nil=>rfl
 | cons x r ih=>simp[groupCells,ih];omega
theorem zZ (l m:List (Value × Nat)):groupCells (l++m)=groupCells l++groupCells m:=by
 induction l with
 | nil=>rfl
 | cons x r ih=>simp[groupCells,ih]
theorem QC {w:World}{B:Nat}{e:TypeId}{size g cap n:Nat}{xs ys:List Value}(h:w.ownsRow B e size (.slice (some ⟨g,0,none⟩) (n+1) cap) (n+1) (xs++ys))(hx:xs.length=n*size) :
 w.ownsRow B e size (.slice (some ⟨g,0,none⟩) n cap) n xs:=by
 obtain ⟨h1,h2⟩:=h
 rcases h2 with ⟨h0,_⟩|⟨g',cap',cur,hv,hg,hh,hn,hcap,hsz,htake⟩
 · cases h0
 · cases hv;refine ⟨hx,Or.inr ⟨g,cap,cur,rfl,hg,hh,by omega,hcap,hsz,?_⟩⟩
   have e1:cur.toList.take (n*size)=(cur.toList.take ((n+1)*size)).take (n*size):=by
    rw[List.take_take,Nat.min_eq_left (Nat.mul_le_mul_right _ (by omega))]
   rw[e1,htake,←hx,List.take_left]
structure Cst (B cb:Nat) (w:World) (dd cc:Nat) (v:Value) (G:List (Value × Nat)):Prop where
 base:B≤cb
 held:w.heap[cb]?=some (.cells #[.int .i64 (dd:Int),.int .i64 (cc:Int),v] 86 (0,0))
 own:w.ownsRow B 118 2 v G.length (groupCells G)
 slices:∀ x∈G,∃ a l c,x.1=.slice a l c
theorem Cst.lt {B cb:Nat}{w:World}{dd cc:Nat}{v:Value}{G:List (Value × Nat)}(h:Cst B cb w dd cc v G):cb<w.heap.size:=by
 rcases Nat.lt_or_ge cb w.heap.size with h'|h'
 · exact h'
 · have:=h.held;simp[Array.getElem?_eq_none h']at this
theorem Cst.apart {B cb:Nat}{w:World}{dd cc:Nat}{v:Value}{G:List (Value × Nat)}(h:Cst B cb w dd cc v G):v.ownBlock≠some cb:=by
 intro e;obtain ⟨_,c,fz,hc⟩:=qg h.own e;rw[h.held]at hc
 simp at hc
theorem Cst.shape {B cb:Nat}{w:World}{dd cc:Nat}{v:Value}{G:List (Value × Nat)}(h:Cst B cb w dd cc v G):∃ a c,v=.slice a G.length c:=by
 rcases h.own.2 with ⟨hv,h0⟩|⟨g,cap,cur,hv,_⟩
 · exact ⟨none,0,by rw[hv,h0]⟩
 · exact ⟨_,_,hv⟩
theorem qbC (B cb:Nat)(w:World)(dd cc:Nat)(v:Value)(G:List (Value × Nat))(x:Value)(d:Nat)(h:Cst B cb w dd cc v (G++[(x,d)]))(hBw:B≤w.heap.size) :
 Calls Tryz.prog 50 #[.pointer (some ⟨cb,2,none⟩)] w fun e w'=>e=.returned (.agg #[x,.int .i64 (d:Int)])∧∃ v',Cst B cb w' dd cc v' G∧v'.ownBlock=v.ownBlock∧(∀ b,b<w.heap.size→b≠cb→w'.heap[b]?=w.heap[b]?)∧Below B w w':=by
 have hap:=h.apart;have hlt:=h.lt;obtain ⟨hB,hj,hown,hsl⟩:=h;obtain ⟨xa,xl,xc,hx⟩:=hsl (x,d) (by simp)
 simp only at hx
 subst hx
 rcases hown.2 with ⟨_,h0⟩|⟨g,cap,cur,rfl,hg,hh,hc,hm,hs,ht⟩
 · simp at h0
 have hlen:(G++[(Value.slice xa xl xc,d)]).length=G.length+1:=by simp
 rw[hlen]at hown hj hc ht
 have c2:w.cell? ⟨cb,2,none⟩=some (.slice (some ⟨g,0,none⟩) (G.length+1) cap):=by rw[cH9 hj];rfl
 have f2:w.frozen? ⟨cb,2,none⟩=false:=fH9 hj 2;have hgl:=jZ G
 have k0:w.cell? ⟨g,G.length*2,none⟩=some (.slice xa xl xc):=by
  rw[World.ownsRow.cellAt hown _ (by omega),zZ,List.getElem?_append_right (by omega),hgl];simp[groupCells]
 have k1:w.cell? ⟨g,G.length*2+1,none⟩=some (.int .i64 (d:Int)):=by
  rw[World.ownsRow.cellAt hown _ (by omega),zZ,List.getElem?_append_right (by omega),hgl];simp[groupCells]
 have hgs:g<w.heap.size:=World.block_lt_of_cell? w _ k0;unfold maxLen at hm
 have HJ:Hid (w.heap[cb]?=some (.cells #[.int .i64 (dd:Int),.int .i64 (cc:Int),.slice (some ⟨g,0,none⟩) (G.length+1) cap] 86 (0,0))):=hj;clear hj hgl
 go_enter Tryz.func50,Tryz.ntmps50
 go_wp2_with fail
 have hk:∀ b,b<w.heap.size→b≠cb→(((w.setCell ⟨cb,2,none⟩ (.slice (some ⟨g,0,none⟩) G.length cap)).alloc (.cells #[.slice xa xl xc,.int .i64 (d:Int)] 118)).alloc (.cells #[.slice xa xl xc,.int .i64 (d:Int)] 118)).heap[b]?=w.heap[b]?:=by
  intro b hb hbc;rw[Lib.alloc_old _ _ _ (by simp;omega),Lib.alloc_old _ _ _ (by simp;omega),Below.heap_setCell _ _ _ _ hbc]
 have hgc:g≠cb:=fun e=>hap (by rw[e];rfl)
 refine bodyPost_ret (v:=.agg #[.slice xa xl xc,.int .i64 (d:Int)]) (by simp[results,Tryz.results50,go_sem]) rfl ⟨rfl,.slice (some ⟨g,0,none⟩) G.length cap,⟨hB,?_,?_,fun y hy=>hsl y (by simp[hy])⟩,?_,hk,?_⟩
 · rw[Lib.alloc_old _ _ _ (by simp;omega), Lib.alloc_old _ _ _ (by simp;omega)]
   simp[World.setCell,Array.getElem?_modify,HJ.out]
 · rw[zZ]at hown
   exact qk (QC hown (jZ G)) fun b hb=>by cases hb;exact hk g hgs hgc
 · rfl
 · exact ((((Below.refl B w).setCell hB _).alloc (by simp;omega) _).alloc (by simp;omega) _)
theorem groupInfo:(Tryz.prog.info? 118).map (fun i=>(i.zero,i.size,i.bytes))=some (some (.agg #[.slice none 0 0,.int .i64 0]),2,32):=by kernel_rfl
theorem VY {ops:Array Oper}{o:Oper}{a:Act}{w:World}{K:Act→World→Prop}{Q:Exit→Act→World→Prop}{E:Prop}
 (hg:o.guard=none) (s x:Operand) (hop:o.op=Op.call { callee:=Callee.builtin Builtin.append,args:=#[s,x],argTypes:=#[84,84] })
 (B:Nat) (v:Value) (n:Nat) (xs:List Value) (hs:a.eval s=v) (hown:w.ownsRow B 118 2 v n xs) (ad:Addr) (sa:Option Addr) (sl sc:Nat) (d:Int) (hx:a.eval x=.slice (some ad) 1 1)
 (hnews:∀ j u,[Value.slice sa sl sc,Value.int .i64 d][j]?=some u→w.cell? (ad.add j)=some u) (hn:n≤1048576) (hB:B≤w.heap.size)
 (hK:∀ v' w',w'.ownsRow B 118 2 v' (n+1) (xs++[.slice sa sl sc,.int .i64 d])→w.grownBy w' v.ownBlock→(v'.ownBlock=v.ownBlock∨v'.ownBlock=some w.heap.size)→K (a.put o.dst v') w') :
 if Region.wanted o (yielded ops a.tmps)=true then Oper.wp Tryz.prog o a w K Q else E:=by
 have hw:Region.wanted o (yielded ops a.tmps)=true:=by simp[Region.wanted,hg]
 rw[if_pos hw];obtain ⟨i0,hi,hz0,hz1,hz2⟩:=info_parts groupInfo;obtain ⟨v',w',hr,h2,h3,_,h5⟩:=run_append_own_at (P:=Tryz.prog) w B 84 o.type 118 i0 _ 2 32 Tryz.underlying84 hi hz0 hz1 hz2 rfl (by decide) v n xs hown ad 1 1 [.slice sa sl sc,.int .i64 d] rfl hnews (by intro u hu;simp at hu;rcases hu with rfl|rfl<;>rfl) (by unfold maxLen;omega) (by omega) hB
 unfold Oper.wp;simp[execOp,hop,resolve,invoke,builtin,hs,hx,hr,Result.andThen];exact hK v' w' h2 h3 h5
structure CE where
 v:Value
 n:Nat
 ts:List Tr
 o:Nat
def csum (P:List CE):Nat:=(P.map fun e=>cnt e.n e.ts).sum
def xh (P:List CE):Nat:=(P.map fun e=>e.o+dep e.n e.ts).foldr max 0
def grp (e:CE):Value × Nat:=(e.v,e.o+1)
theorem jX (P Q:List CE):csum (P++Q)=csum P+csum Q:=by simp[csum]
theorem xX (P Q:List CE):xh (P++Q)=max (xh P) (xh Q):=by
 induction P with
 | nil=>simp[xh]
 | cons e r ih =>
   have h1:xh (e::r++Q)=max (e.o+dep e.n e.ts) (xh (r++Q)):=rfl;have h2:xh (e::r)=max (e.o+dep e.n e.ts) (xh r):=rfl;rw[h1,h2,ih];omega
def V8 (S:Nat→Prop)(w:World)(e:CE):Prop:=e.ts≠[]∧qa S w e.n e.v e.ts∧e.o+dep e.n e.ts≤1048577
structure Xf (S:Nat→Prop) (B cb:Nat) (w:World) (ds cs L:Nat) (o:Nat) (ts:List Tr) (dd cc:Nat) (wv:Value) (G:List (Value × Nat)) (w':World) (P:List CE) (dd' cc':Nat) (wv':Value):Prop where
 below:Below B w w'
 cst:Cst B cb w' dd' cc' wv' (G++P.map grp)
 row:wv'.ownBlock=wv.ownBlock∨∃ b,wv'.ownBlock=some b∧w.heap.size≤b
 frame:∀ b,b<w.heap.size→b≠cb→wv.ownBlock≠some b→w'.heap[b]?=w.heap[b]?
 pend:∀ e∈P,V8 S w e
 dmax:max dd' (xh P)=max dd ds
 csum:cc'+csum P=cc+cs
 more:cc≤cc'∧(0<L→cc+ts.length≤cc')
def XS (S:Nat→Prop)(B cb L:Nat):Prop:=∀ (n:Nat)(v:Value)(ts:List Tr)(o d dd cc:Nat)(wv:Value)(G:List (Value × Nat))(w:World),
 d=o+1→(∀ b,S b→b<w.heap.size∧b≠cb∧wv.ownBlock≠some b)→qa S w n v ts→Cst B cb w dd cc wv G→B≤w.heap.size→o+dep n ts≤1048577→dd≤1048577→cc+cnt n ts≤1048576→G.length+cnt n ts≤1048576 →
 Calls Tryz.prog 49 #[.pointer (some ⟨cb,0,none⟩),.agg #[v,.int .i64 (d:Int)],.int .i64 (L:Int)] w fun e w'=>e=.returned (.tuple #[]) ∧
  ∃ P dd' cc' wv',Xf S B cb w (if ts=[] then 0 else o+dep n ts) (cnt n ts) L o ts dd cc wv G w' P dd' cc' wv'
theorem Cst.later {B cb:Nat}{w w':World}{dd cc:Nat}{v:Value}{G:List (Value × Nat)}(h:Cst B cb w dd cc v G)(hb:Below w.heap.size w w'):Cst B cb w' dd cc v G :=
 ⟨h.base,by rw[hb.block cb h.lt];exact h.held,qm h.own hb,h.slices⟩
theorem qaa (S:Nat→Prop)(B cb L n:Nat)(v:Value)(o d dd cc:Nat)(wv:Value)(G:List (Value × Nat))(w:World)(h:qa S w n v [])(hc:Cst B cb w dd cc wv G)(hB:B≤w.heap.size) :
 Calls Tryz.prog 49 #[.pointer (some ⟨cb,0,none⟩),.agg #[v,.int .i64 (d:Int)],.int .i64 (L:Int)] w fun e w'=>e=.returned (.tuple #[]) ∧
  ∃ P dd' cc' wv',Xf S B cb w 0 (cnt n []) L o [] dd cc wv G w' P dd' cc' wv':=by
 obtain ⟨a,c,rfl,_,_⟩:=qa.shape n h;simp only[List.length_nil]
 go_enter Tryz.func49,Tryz.ntmps49
 go_wp2_with fail
 go_returns
 refine ⟨rfl,[],dd,cc,wv,?_⟩;refine ⟨(Below.refl B w).alloc hB _,by simpa using hc.later (Below.alloc1 w _),Or.inl rfl,fun b hb _ _=>Below.heap_alloc _ _ _ hb,by simp,by simp[xh],by simp[Go.Proofs.YtchkbffgancidaaGreatDoor.csum,qQ],nR9 _,fun _=>by simp⟩
theorem ZV {W:World}{ad:Nat}{x y:Value}(h0:W.cell? ⟨ad,0,none⟩=some x)(h1:W.cell? ⟨ad,1,none⟩=some y):∀ j u,[x,y][j]?=some u→W.cell? ((⟨ad,0,none⟩:Addr).add j)=some u:=by
 intro j u hj
 match j,hj with
 | 0,hj=>simp at hj;subst hj;exact h0
 | 1,hj=>simp at hj;subst hj;exact h1
theorem J6 {w:World}{B n:Nat}{e:TypeId}{size:Nat}{v:Value}{xs:List Value}(h:w.ownsRow B e size v n xs):∃ a l c,v=.slice a l c:=by
 rcases h.2 with ⟨hv,_⟩|⟨g,cap,cur,hv,_⟩
 · exact ⟨_,_,_,hv⟩
 · exact ⟨_,_,_,hv⟩
theorem YE {B cb:Nat}{W X w1:World}{dd cc:Nat}{wv:Value}{G:List (Value × Nat)}(h:Cst B cb W dd cc wv G)(hX:Below W.heap.size W X)(hg:X.grownBy w1 wv.ownBlock) :
 w1.heap[cb]?=some (.cells #[.int .i64 (dd:Int),.int .i64 (cc:Int),wv] 86 (0,0)):=by
 rw[hg.block cb (Nat.lt_of_lt_of_le h.lt hX.size) (fun e=>h.apart e.symm),hX.block cb h.lt]
 exact h.held
theorem qda {S:Nat→Prop}{B cb:Nat}{w W0 w1:World}{n o d dd cc:Nat}{ts:List Tr}{va wa a1:Option Addr}{vc wc l1 c1:Nat}{G:List (Value × Nat)}{c:Obj}(hd:d=o+1)(hne:ts≠[])
 (hT:qa S w n (.slice va ts.length vc) ts) (hod:o+dep n ts≤1048577) (hBw:B≤w.heap.size) (hbx:Below w.heap.size w W0) (hX:Cst B cb W0 dd cc (.slice wa G.length wc) G)
 (hown1:w1.ownsRow B 118 2 (.slice a1 l1 c1) (G.length+1) (groupCells G++[.slice va ts.length vc,.int .i64 (d:Int)]))
 (hgr1:(W0.alloc c).drew.grownBy w1 (Value.slice wa G.length wc).ownBlock)
 (hat1:(Value.slice a1 l1 c1).ownBlock=(Value.slice wa G.length wc).ownBlock∨(Value.slice a1 l1 c1).ownBlock=some (W0.alloc c).drew.heap.size) :
 Xf S B cb w (o+dep n ts) (cnt n ts) 0 o ts dd cc (.slice wa G.length wc) G (w1.setCell ⟨cb,2,none⟩ (.slice a1 l1 c1)) [⟨.slice va ts.length vc,n,ts,o⟩] dd cc (.slice a1 l1 c1):=by
 have hH:=YE hX (Below.alloc1 W0 c).drew hgr1;have hsz:=hbx.size;have hsX:(W0.alloc c).drew.heap.size=W0.heap.size+1:=by simp[World.drew]
 have hap:(Value.slice a1 l1 c1).ownBlock≠some cb:=by
  intro e;obtain ⟨_,cs,fz,hc⟩:=qg hown1 e;rw[hH]at hc
  simp at hc
 subst hd;refine ⟨?_,⟨hX.base,?_,?_,?_⟩,?_,?_,?_,?_,?_,nR9 _,fun h=>by omega⟩
 · exact (((((hbx.mono hBw).alloc (by omega) c).drew).grown hgr1 (by omega) (fun k hk=>(hX.own.lt k hk).1))).setCell hX.base _
 · simp[World.setCell,Array.getElem?_modify,hH]
 · have e1 : (G ++ List.map grp [(⟨.slice va ts.length vc, n, ts, o⟩ : CE)]).length = G.length + 1 := by simp
   rw[e1,zZ];exact qk hown1 fun b hb=>Below.heap_setCell _ _ _ _ (fun e=>hap (by rw[hb,e]))
 · intro x hx
   rcases List.mem_append.1 hx with hx|hx
   · exact hX.slices x hx
   · simp[grp]at hx;subst hx;exact ⟨_,_,_,rfl⟩
 · rcases hat1 with h | h
   · exact Or.inl h
   · exact Or.inr ⟨_,h,by omega⟩
 · intro b hb h1 h2;rw[Below.heap_setCell _ _ _ _ h1,hgr1.block b (by omega) (fun e=>h2 e.symm)]
   show (W0.alloc c).heap[b]?=_
   rw[Lib.alloc_old _ _ _ (by omega),hbx.block b hb]
 · intro e he;simp at he
   subst he;exact ⟨hne,hT,hod⟩
 · simp[xh]
 · simp[Go.Proofs.YtchkbffgancidaaGreatDoor.csum]
theorem add_zero (S:Nat→Prop)(B cb:Nat):XS S B cb 0:=by
 intro n v ts o d dd cc wv G w hd _ hT hC hBw hod hdd hcc hG;have HD:Hid (d=o+1):=hd
 by_cases hne:ts=[]
 · subst hne
   simpa using qaa S B cb 0 n v o d dd cc wv G w hT hC hBw
 · have hTo : Hid (qa S w n v ts) := hT;obtain ⟨va,vc,rfl,_,hvm⟩:=qa.shape n hT;have hl0:0<ts.length:=List.length_pos_iff.2 hne
   have hcn:1≤cnt n ts:=by
    have:=(qa.deep n hT).len;omega
   have hlt:=hC.lt;have hap:=hC.apart
   have hne1:((ts.length:Int)==0)=false:=by
    have:(ts.length:Int)≠0:=by omega
    simpa using this
   have hbx:=Below.alloc1 w (.cells #[.slice va ts.length vc,.int .i64 (d:Int)] 118);have hX:=hC.later hbx;have b0:(w.alloc (.cells #[.slice va ts.length vc,.int .i64 (d:Int)] 118)).cell? ⟨w.heap.size,0,none⟩=some (.slice va ts.length vc):=by simp
   have b1:(w.alloc (.cells #[.slice va ts.length vc,.int .i64 (d:Int)] 118)).cell? ⟨w.heap.size,1,none⟩=some (.int .i64 (d:Int)):=by simp
   have hsz:(w.alloc (.cells #[.slice va ts.length vc,.int .i64 (d:Int)] 118)).heap.size=w.heap.size+1:=by simp
   have HO:Hid (o+dep n ts≤1048577):=hod;clear hT hd hod hcc hdd;unfold maxLen at hvm
   go_enter Tryz.func49,Tryz.ntmps49
   go_wp2_with fail
   generalize w.alloc (.cells #[.slice va ts.length vc,.int .i64 (d:Int)] 118)=W0 at hbx hX b0 b1 hsz ⊢
   obtain ⟨wa,wc,rfl⟩:=hC.shape;have HS:Hid (W0.heap.size=w.heap.size+1):=hsz;have hB0:B≤W0.heap.size:=by omega
   have hszl:w.heap.size<W0.heap.size:=by omega
   clear hsz;have k2:W0.cell? ⟨cb,2,none⟩=some (.slice wa G.length wc):=by rw[cH9 hX.held];rfl
   have kf:W0.frozen? ⟨cb,2,none⟩=false:=fH9 hX.held 2;have hcb0:cb<W0.heap.size:=hX.lt;have HX:Hid (Cst B cb W0 dd cc (.slice wa G.length wc) G):=hX;clear hX hC;have hrow:(W0.alloc (.cells #[.slice va ts.length vc,.int .i64 (d:Int)] 118)).drew.ownsRow B 118 2 (.slice wa G.length wc) G.length (groupCells G):=HX.out.own.alloc _;have hgc:∀ j u,[Value.slice va ts.length vc,Value.int .i64 (d:Int)][j]?=some u→(W0.alloc (.cells #[.slice va ts.length vc,.int .i64 (d:Int)] 118)).drew.cell? ((⟨W0.heap.size,0,none⟩:Addr).add j)=some u:=ZV (W:=(W0.alloc (.cells #[.slice va ts.length vc,.int .i64 (d:Int)] 118)).drew) (by simp) (by simp)
   have HR:Hid _:=hrow;have HGC:Hid _:=hgc;clear hrow hgc;have hGl:G.length≤1048576:=by omega
   have HH:Hid (∀ w1,(W0.alloc (.cells #[.slice va ts.length vc,.int .i64 (d:Int)] 118)).drew.grownBy w1 (Value.slice wa G.length wc).ownBlock→w1.heap[cb]?=some (.cells #[.int .i64 (dd:Int),.int .i64 (cc:Int),.slice wa G.length wc] 86 (0,0))):=fun w1 hg=>YE HX.out (Below.alloc1 W0 _).drew hg
   go_region_law (first
    | (refine VY (by rfl) (.tmp 17) (.tmp 19) (by rfl) B (.slice wa G.length wc) G.length (groupCells G) (by simp[Act.eval]) HR.out ⟨W0.heap.size,0,none⟩ va ts.length vc (d:Int) (by simp[Act.eval]) HGC.out hGl (by simp;omega) ?_;intro v1 w1 hown1 hgr1 hat1;obtain ⟨a1,l1,c1,rfl⟩:=J6 hown1;have hj1:=cH9 (HH.out w1 hgr1) 2;have hf1:=fH9 (HH.out w1 hgr1) 2;simp at hj1))
   all_goals
    go_wp2_with fail
    go_returns
    exact ⟨rfl,_,_,_,_,qda HD.out hne hTo.out HO.out hBw hbx HX.out hown1 hgr1 hat1⟩
section
attribute [local go_sem] qd
structure Jy (S:Nat→Prop) (B cb:Nat) (w:World) (m o k:Nat) (ts:List Tr) (bx by_:Value) (dd cc:Nat) (wv:Value) (G:List (Value × Nat)) (w':World) (P:List CE) (dd' cc':Nat) (wv':Value):Prop where
 below:Below B w w'
 cst:Cst B cb w' dd' cc' wv' (G++P.map grp)
 row:wv'.ownBlock=wv.ownBlock∨∃ b,wv'.ownBlock=some b∧w.heap.size+1≤b
 frame:∀ b,b<w.heap.size→b≠cb→wv.ownBlock≠some b→w'.heap[b]?=w.heap[b]?
 box0:w'.cell? ⟨w.heap.size,0,none⟩=some bx
 box1:w'.cell? ⟨w.heap.size,1,none⟩=some by_
 size:w.heap.size+1≤w'.heap.size
 pend:∀ e∈P,V8 S w e
 dmax:max dd' (xh P)=max dd (max (o+1) (o+dep (m+1) (ts.take k)))
 csum:cc'+csum P=cc+ts.length+cnt m (nx (ts.take k))
 more:cc+ts.length≤cc'
theorem Kf {S:Nat→Prop}{w:World}{P:List CE}(h:∀ e∈P,V8 S w e):P.length≤csum P:=by
 induction P with
 | nil=>simp
 | cons e r ih =>
   have h1:=ih (fun x hx=>h x (List.mem_cons_of_mem _ hx))
   obtain ⟨h2,h3,_⟩:=h e List.mem_cons_self;have h4:=(qa.deep e.n h3).len;have h5:=List.length_pos_iff.2 h2;have h6:csum (e::r)=cnt e.n e.ts+csum r:=by simp[csum]
   simp only[List.length_cons];omega
theorem Vx {S:Nat→Prop}{B cb:Nat}{w:World}{m o k L:Nat}{ts:List Tr}{bx by_:Value}{dd cc:Nat}{wv:Value}{G:List (Value × Nat)}{wr w3:World}{P P1:List CE}{dd' cc' dd3 cc3:Nat}{wv' wv3:Value}{t:Tr}
 (hS:∀ b,S b→wr.heap[b]?=w.heap[b]?) (I:Jy S B cb w m o k ts bx by_ dd cc wv G wr P dd' cc' wv') (hwv:∀ b,wv.ownBlock=some b→b<w.heap.size) (hcb:cb<w.heap.size) (hsn:ts.take (k+1)=ts.take k++[t])
 (J:Xf S B cb wr (if t.kids=[] then 0 else o+1+dep m t.kids) (cnt m t.kids) L (o+1) t.kids dd' cc' wv' (G++P.map grp) w3 P1 dd3 cc3 wv3) :
 Jy S B cb w m o (k+1) ts bx by_ dd cc wv G w3 (P++P1) dd3 cc3 wv3:=by
 have hsz3:=J.below.size;have hszr:=I.size
 have hrow:∀ b,b<w.heap.size+1→wv.ownBlock≠some b→wv'.ownBlock≠some b:=by
  intro b hb h1 h2
  rcases I.row with h|⟨b',h,h3⟩
  · exact h1 (h.symm.trans h2)
  · rw[h]at h2;cases h2;omega
 have hbox:w3.heap[w.heap.size]?=wr.heap[w.heap.size]?:=J.frame _ (by omega) (by omega) (hrow _ (by omega) (fun e=>by have:=hwv _ e;omega))
 refine ⟨I.below.trans J.below,?_,?_,?_,?_,?_,by omega,?_,?_,?_,?_⟩
 · have:=J.cst;simpa using this
 · rcases J.row with h | ⟨b, h, h1⟩
   · rw[h];exact I.row
   · exact Or.inr ⟨b,h,by omega⟩
 · intro b hb h1 h2;rw[J.frame b (by omega) h1 (hrow b (by omega) h2),I.frame b hb h1 h2]
 · rw[World.cell?_of_block (a:=⟨w.heap.size,0,none⟩) hbox];exact I.box0
 · rw[World.cell?_of_block (a:=⟨w.heap.size,1,none⟩) hbox];exact I.box1
 · intro e he
   rcases List.mem_append.1 he with he|he
   · exact I.pend e he
   · obtain ⟨h1, h2, h3⟩ := J.pend e he;exact ⟨h1,qa.carry (fun b hb=>⟨hb,(hS b hb).symm⟩) e.n h2,h3⟩
 · rw[xX, hsn, jH, jI, y5];have h1:=J.dmax;have h2:=I.dmax
   by_cases hk:t.kids=[]
   · rw[if_pos hk]at h1
     rw[hk,y5];omega
   · rw[if_neg hk]at h1
     omega
 · rw[jX, hsn, jF, xI, nx_nil, List.append_nil, zj];have h1:=J.csum;have h2:=I.csum;omega
 · have:=J.more.1;have:=I.more;omega
theorem Ky {S:Nat→Prop}{B cb:Nat}{w W0:World}{m o d:Nat}{ts:List Tr}{bx by_:Value}{dd cc:Nat}{wv:Value}{G:List (Value × Nat)}(hd:d=o+1)(hBw:B≤w.heap.size)(hcb:cb<w.heap.size)(hsz:W0.heap.size=w.heap.size+1)(hbx:Below w.heap.size w W0)(hX:Cst B cb W0 dd cc wv G)
 (b0:W0.cell? ⟨w.heap.size,0,none⟩=some bx) (b1:W0.cell? ⟨w.heap.size,1,none⟩=some by_) :
 Jy S B cb w m o 0 ts bx by_ dd cc wv G ((W0.setCell ⟨cb,0,none⟩ (.int .i64 (max (dd:Int) (d:Int)))).setCell ⟨cb,1,none⟩ (.int .i64 ((cc:Int)+(ts.length:Int)))).drew.drew [] (max dd d) (cc+ts.length) wv:=by
 have hk:∀ b,b≠cb→((W0.setCell ⟨cb,0,none⟩ (.int .i64 (max (dd:Int) (d:Int)))).setCell ⟨cb,1,none⟩ (.int .i64 ((cc:Int)+(ts.length:Int)))).drew.drew.heap[b]?=W0.heap[b]?:=by
  intro b hb
  show ((W0.setCell ⟨cb,0,none⟩ (.int .i64 (max (dd:Int) (d:Int)))).setCell ⟨cb,1,none⟩ (.int .i64 ((cc:Int)+(ts.length:Int)))).heap[b]?=_
  rw[Below.heap_setCell _ _ _ _ hb,Below.heap_setCell _ _ _ _ hb]
 subst hd;refine ⟨((((hbx.mono hBw).setCell hX.base _).setCell hX.base _).drew).drew,⟨hX.base,?_,?_,?_⟩,Or.inl rfl,?_,?_,?_,?_,by simp,?_,?_,nR9 _⟩
 · show ((W0.setCell ⟨cb, 0, none⟩ _).setCell ⟨cb, 1, none⟩ _).heap[cb]? = _
   have e1:(((max dd (o+1):Nat)):Int)=max (dd:Int) ((o+1:Nat):Int):=by omega
   have e2:(((cc+ts.length:Nat)):Int)=(cc:Int)+(ts.length:Int):=by omega
   rw[e1,e2];simp[World.setCell,Array.getElem?_modify,hX.held]
 · simp only[List.map_nil, List.append_nil];exact qk hX.own fun b hb=>hk b (fun e=>hX.apart (by rw[hb,e]))
 · simp only[List.map_nil, List.append_nil];exact hX.slices
 · intro b hb h1 _;rw[hk b h1,hbx.block b hb]
 · rw[World.cell?_of_block (a:=⟨w.heap.size,0,none⟩) (hk w.heap.size (by omega))];exact b0
 · rw[World.cell?_of_block (a:=⟨w.heap.size,1,none⟩) (hk w.heap.size (by omega))];exact b1
 · show w.heap.size + 1 ≤ ((W0.setCell ⟨cb, 0, none⟩ _).setCell ⟨cb, 1, none⟩ _).heap.size
   simp;omega
 · simp[xh,y5]
 · simp[Go.Proofs.YtchkbffgancidaaGreatDoor.csum,nx_nil,qQ]
theorem Vy {S:Nat→Prop}{B cb:Nat}{w:World}{m o L:Nat}{ts:List Tr}{bx by_:Value}{dd cc:Nat}{wv:Value}{G:List (Value × Nat)}{wr:World}{P:List CE}{dd' cc':Nat}{wv':Value}
 (hne:ts≠[]) (I:Jy S B cb w m o ts.length ts bx by_ dd cc wv G wr P dd' cc' wv'):Xf S B cb w (o+dep (m+1) ts) (cnt (m+1) ts) L o ts dd cc wv G wr P dd' cc' wv':=by
 refine ⟨I.below,I.cst,?_,I.frame,I.pend,?_,?_,?_,fun _=>I.more⟩
 · rcases I.row with h | ⟨b, h, h1⟩
   · exact Or.inl h
   · exact Or.inr ⟨b,h,by omega⟩
 · have h := I.dmax;rw[List.take_length]at h
   rw[h,qb5 m ts hne];omega
 · have h := I.csum;rw[List.take_length]at h
   rw[h,Zx m ts];omega
 · have:=I.more;omega
theorem Xf.undrew {S:Nat→Prop}{B cb:Nat}{w:World}{ds cs L o:Nat}{ts:List Tr}{dd cc:Nat}{wv:Value}{G:List (Value × Nat)}{w':World}{P:List CE}{dd' cc':Nat}{wv':Value}
    (h:Xf S B cb w.drew ds cs L o ts dd cc wv G w' P dd' cc' wv'):Xf S B cb w ds cs L o ts dd cc wv G w' P dd' cc' wv' :=
  ⟨(Below.refl B w).drew.trans h.below, h.cst, h.row, h.frame, fun e he => by
    obtain ⟨h1,h2,h3⟩:=h.pend e he;exact ⟨h1,qa.carry (w:=w.drew) (w':=w) (fun b hb=>⟨hb,rfl⟩) e.n h2,h3⟩,h.dmax,h.csum,h.more⟩
theorem qbO (S:Nat→Prop)(B cb:Nat)(L:Nat)(hL:L<1000)(ih:XS S B cb L):XS S B cb (L+1):=by
 intro n v ts o d dd cc wv G w hd hS0 hT hC hBw hod hdd hcc hG;have HS0:Hid (∀ b,S b→b<w.heap.size∧b≠cb∧wv.ownBlock≠some b):=hS0;clear hS0;have HD:Hid (d=o+1):=hd
 by_cases hne:ts=[]
 · subst hne
   simpa using qaa S B cb (L+1) n v o d dd cc wv G w hT hC hBw
 · have hTo : Hid (qa S w n v ts) := hT;obtain ⟨va,vc,rfl,_,hvm⟩:=qa.shape n hT;have hl0:0<ts.length:=List.length_pos_iff.2 hne;have hcn:=(qa.deep n hT).len;have hlt:=hC.lt;have hap:=hC.apart
   have hne1:((ts.length:Int)==0)=false:=by
    have:(ts.length:Int)≠0:=by omega
    simpa using this
   have hne2:((((L+1:Nat):Int))==0)=false:=by
    have:(((L+1:Nat):Int))≠0:=by omega
    simpa using this
   obtain ⟨M,hM⟩:∃ M,L+1=M:=⟨_,rfl⟩;rw[hM]at hne2 ⊢
   have hbx:=Below.alloc1 w (.cells #[.slice va ts.length vc,.int .i64 (d:Int)] 118);have hX:=hC.later hbx;have b0:(w.alloc (.cells #[.slice va ts.length vc,.int .i64 (d:Int)] 118)).cell? ⟨w.heap.size,0,none⟩=some (.slice va ts.length vc):=by simp
   have b1:(w.alloc (.cells #[.slice va ts.length vc,.int .i64 (d:Int)] 118)).cell? ⟨w.heap.size,1,none⟩=some (.int .i64 (d:Int)):=by simp
   have hsz:(w.alloc (.cells #[.slice va ts.length vc,.int .i64 (d:Int)] 118)).heap.size=w.heap.size+1:=by simp
   have HO:Hid (o+dep n ts≤1048577):=hod;have HIH:Hid (XS S B cb L):=ih;have HM:Hid (L+1=M):=hM;clear hT hd ih hM;unfold maxLen at hvm
   go_enter Tryz.func49,Tryz.ntmps49
   go_wp2_with fail
   generalize w.alloc (.cells #[.slice va ts.length vc,.int .i64 (d:Int)] 118)=W0 at hbx hX b0 b1 hsz ⊢
   have HS:Hid (W0.heap.size=w.heap.size+1):=hsz;have hB0:B≤W0.heap.size:=by omega
   have hszl:w.heap.size<W0.heap.size:=by omega
   have hcw:cb≠w.heap.size:=by omega
   clear hsz;have k0:W0.cell? ⟨cb,0,none⟩=some (.int .i64 (dd:Int)):=by rw[cH9 hX.held];rfl
   have k1:W0.cell? ⟨cb,1,none⟩=some (.int .i64 (cc:Int)):=by rw[cH9 hX.held];rfl
   have kf0:W0.frozen? ⟨cb,0,none⟩=false:=fH9 hX.held 0;have kf1:W0.frozen? ⟨cb,1,none⟩=false:=fH9 hX.held 1;have HX:Hid (Cst B cb W0 dd cc wv G):=hX;have HWV:Hid (∀ b,wv.ownBlock=some b→b<w.heap.size):=fun b hb=>(hC.own.lt b hb).2
   clear hX hC
   go_region
   go_wp2_with fail
   go_region
   go_wp2_with fail;cases n with
   | zero=>exact absurd hTo.out.1 hne
   | succ m =>
   have hwv:∀ b,wv.ownBlock=some b→b<w.heap.size:=fun b hb=>HWV.out b hb
   have HW:Hid (∀ b,wv.ownBlock=some b→b<w.heap.size):=hwv;clear hwv
   go_loopg [46] ts.length (fun g i wr=>∃ (k:Nat) (P:List CE) (dd' cc':Nat) (wv':Value),k+g=ts.length∧i=.int .i64 k∧Jy S B cb w m o k ts (.slice va ts.length vc) (.int .i64 (d:Int)) dd cc wv G wr P dd' cc' wv')
   case atStart => exact ⟨0,[],_,_,_,by omega,rfl,Ky HD.out hBw hlt HS.out hbx HX.out b0 b1⟩
   case round =>
    obtain ⟨k,P,dd',cc',wv',hk,rfl,I⟩:=hrel;have HI:Hid (Jy S B cb w m o k ts (.slice va ts.length vc) (.int .i64 (d:Int)) dd cc wv G wr P dd' cc' wv'):=I;have x0:=I.box0;have x1:=I.box1;have hBr:=I.below;have hsr:=I.size;clear I b0 b1 k0 k1 kf0 kf1 HX hbx hcw hB0 hszl HS
    by_cases hlt':k<ts.length
    · obtain ⟨_, _, hve, _, _, h4⟩ := hTo.out;obtain ⟨b,o',hao,hs,hcc'⟩:=h4 hne
      injection hve with e1 e2 e3
      subst e1;subst hao;obtain ⟨t,ht⟩:∃ t,ts[k]?=some t:=⟨ts[k],by simp[hlt']⟩
      obtain ⟨xa,xk,c0,c1,c2,c3,hat,hkt⟩:=hcc' k t ht;obtain ⟨ka,kc,rfl,_,hkm⟩:=qa.shape m hkt;have hkeep:∀ b,S b→wr.heap[b]?=w.heap[b]?:=fun b hb=>HI.out.frame b (HS0.out b hb).1 (HS0.out b hb).2.1 (HS0.out b hb).2.2
      have HKEEP:Hid (∀ b,S b→wr.heap[b]?=w.heap[b]?):=hkeep;rw[←World.cell?_of_block (a:=⟨b,o'+k*4+3,none⟩) (hkeep b hs)]at c3
      have hsn:ts.take (k+1)=ts.take k++[t]:=by
       rw[List.take_succ_eq_append_getElem hlt'];congr 2;simpa[hlt'] using ht
      have HSN:Hid (ts.take (k+1)=ts.take k++[t]):=hsn;have hkT:qa S wr m (.slice ka t.kids.length kc) t.kids:=qa.carry (fun b hb=>⟨hb,hkeep b hb⟩) m hkt
      have HKT:Hid (qa S wr m (.slice ka t.kids.length kc) t.kids):=hkT
      have hkids:dep m t.kids+1≤dep (m+1) ts∧cnt m (nx (ts.take (k+1)))≤cnt m (nx ts)∧dep (m+1) (ts.take k)≤dep (m+1) ts:=by
       refine ⟨?_,?_,?_⟩
       · obtain ⟨a, b, e⟩ := List.append_of_mem (List.mem_of_getElem? ht);rw[e,jH,jI];omega
       · have e : nx ts = nx (ts.take (k + 1)) ++ nx (ts.drop (k + 1)) := by rw[←jF, List.take_append_drop]
         rw[e,zj];omega
       · have e : dep (m + 1) ts = max (dep (m + 1) (ts.take k)) (dep (m + 1) (ts.drop k)) := by rw[←jH, List.take_append_drop]
         omega
      have HCALL:Hid (Calls Tryz.prog 49 #[.pointer (some ⟨cb,0,none⟩),.agg #[.slice ka t.kids.length kc,.int .i64 ((d:Int)+1)],.int .i64 ((M:Int)-1)] wr.drew fun e w'=>∃ r,e=.returned r∧(r=.tuple #[]∧∃ P1 dd3 cc3 wv3,Xf S B cb wr (if t.kids=[] then 0 else o+1+dep m t.kids) (cnt m t.kids) L (o+1) t.kids dd' cc' wv' (G++P.map grp) w' P1 dd3 cc3 wv3)):=by
       have I:=HI.out;have h1:=I.dmax;have h2:=I.csum;have h3:=Kf I.pend;have h4:=I.more;have h5:=Zx m ts;obtain ⟨h6,h7,h8⟩:=hkids;rw[hsn,jF,xI,nx_nil,List.append_nil,zj]at h7
       have hd:=HD.out
       have hfree:∀ b,S b→b<wr.drew.heap.size∧b≠cb∧wv'.ownBlock≠some b:=by
        intro b hb;obtain ⟨q1,q2,q3⟩:=HS0.out b hb;refine ⟨Nat.lt_of_lt_of_le q1 (Nat.le_trans (Nat.le_succ _) I.size),q2,fun h=>?_⟩
        rcases I.row with h'|⟨b',h',h''⟩
        · exact q3 (h'.symm.trans h)
        · rw[h']at h;cases h;omega
       have hcst:Cst B cb wr.drew dd' cc' wv' (G++P.map grp):=⟨I.cst.base,I.cst.held,I.cst.own,I.cst.slices⟩;have hTd:qa S wr.drew m (.slice ka t.kids.length kc) t.kids:=qa.carry (w:=wr) (w':=wr.drew) (fun b hb=>⟨hb,rfl⟩) m HKT.out
       have:=HIH.out m (.slice ka t.kids.length kc) t.kids (o+1) (d+1) dd' cc' wv' (G++P.map grp) wr.drew (by omega) hfree hTd hcst (by show B≤wr.heap.size;omega) (by omega) (by omega) (by omega) (by rw[List.length_append,List.length_map];omega)
       have e1:((d+1:Nat):Int)=(d:Int)+1:=by omega
       have e2:(L:Int)=(M:Int)-1:=by have:=HM.out;omega
       rw[e1,e2]at this
       refine this.mono ?_;rintro e w' ⟨rfl,P1,dd3,cc3,wv3,J⟩;exact ⟨_,rfl,rfl,P1,dd3,cc3,wv3,J.undrew⟩
      have hkb:(k:Int)<(ts.length:Int):=by omega
      have hdb:d≤1048578:=by have:=HD.out;omega
      have hMb:1≤M∧M≤1000:=by have:=HM.out;omega
      clear c0 c1 c2 hat hkt hkT hcc' h4 e2 e3 ht hsn hs hkids hkeep;go_wp2_with fail
      go_region_law (first
       | (refine qK (by rfl) 49 #[.pointer (some ⟨cb,0,none⟩),.agg #[.slice ka t.kids.length kc,.int .i64 ((d:Int)+1)],.int .i64 ((M:Int)-1)] (by go_simp;exact ⟨IntWalk.i64_in _ (by omega),IntWalk.i64_in _ (by omega)⟩) _ HCALL.out ?_;intro r w3 hR;obtain ⟨hr,P1,dd3,cc3,wv3,J⟩:=hR))
      all_goals
       go_wp2_with fail
       go_roundg (ts.length-(k+1))
       case measure => omega
       case rel => exact ⟨k+1,_,_,_,_,by omega,by go_num,Vx HKEEP.out HI.out HW.out hlt HSN.out J⟩
    · have hkk : k = ts.length := by omega
      subst hkk;go_wp2_with fail
      go_returns
      exact ⟨rfl,_,_,_,_,Vy hne HI.out⟩
end
section
attribute [local go_sem] qd
theorem qc9 (S:Nat→Prop)(B cb:Nat):∀ L,L≤1000→XS S B cb L:=by
 intro L
 induction L with
 | zero=>intro _;exact add_zero S B cb
 | succ L ih=>intro h;exact qbO S B cb L (by omega) (ih (by omega))
structure qed (S:Nat→Prop) (B cb:Nat) (w:World) (D C:Nat) (w':World) (P:List CE) (dd cc:Nat) (wv:Value):Prop where
 below:Below B w w'
 cst:Cst B cb w' dd cc wv (P.map grp)
 keep:∀ b,S b→w'.heap[b]?=w.heap[b]?
 free:∀ b,S b→wv.ownBlock≠some b
 pend:∀ e∈P,V8 S w e
 dmax:max dd (xh P)=D
 csum:cc+csum P=C
theorem qaR {S:Nat→Prop}{B cb n:Nat}{va:Option Addr}{vc:Nat}{ts:List Tr}{w:World}(hS:∀ b,S b→b<w.heap.size∧b≠cb)(hne:ts≠[])(hT:qa S w n (.slice va ts.length vc) ts)(hD:dep n ts≤1048577)(hC:Cst B cb w 0 0 (.slice none 0 0) [])(hBw:B≤w.heap.size) :
 qed S B cb w (dep n ts) (cnt n ts) ((w.setCell ⟨cb,2,none⟩ (.slice (some ⟨w.heap.size,0,none⟩) 1 1)).alloc (.cells #[.slice va ts.length vc,.int .i64 1] 118)) [⟨.slice va ts.length vc,n,ts,0⟩] 0 0 (.slice (some ⟨w.heap.size,0,none⟩) 1 1):=by
 have hlt:=hC.lt;refine ⟨((Below.refl B w).setCell hC.base _).alloc (by simp;omega) _,⟨hC.base,?_,?_,?_⟩,?_,?_,?_,?_,?_⟩
 · rw[Lib.alloc_old _ _ _ (by simp;omega)]
   simp[World.setCell,Array.getElem?_modify,hC.held]
 · have := World.ownsRow_lit (base := B) (e := 118) (size := 2) (w.setCell ⟨cb, 2, none⟩ (.slice (some ⟨w.heap.size, 0, none⟩) 1 1)) #[.slice va ts.length vc, .int .i64 1] 1 (by simp;omega) (by unfold maxLen;omega) rfl
   simpa[grp,groupCells] using this
 · intro x hx;simp[grp]at hx
   subst hx;exact ⟨_,_,_,rfl⟩
 · intro b hb;rw[Lib.alloc_old _ _ _ (by simp;exact (hS b hb).1),Below.heap_setCell _ _ _ _ (hS b hb).2]
 · intro b hb h;cases h;exact Nat.lt_irrefl _ (hS _ hb).1
 · intro e he;simp at he
   subst he;exact ⟨hne,hT,by simpa using hD⟩
 · simp[xh]
 · simp[Go.Proofs.YtchkbffgancidaaGreatDoor.csum]
theorem Xr (S:Nat→Prop)(B cb n:Nat)(v:Value)(ts:List Tr)(w:World)(hS:∀ b,S b→b<w.heap.size∧b≠cb)(hne:ts≠[])(hT:qa S w n v ts)(hC:Cst B cb w 0 0 (.slice none 0 0) [])(hBw:B≤w.heap.size)(hcnt:cnt n ts≤1048576) :
 Calls Tryz.prog 33 #[.pointer (some ⟨cb,0,none⟩),v] w fun e w'=>e=.returned (.tuple #[])∧∃ wv,Cst B cb w' (dep n ts) (cnt n ts) wv []∧Below B w w':=by
 obtain ⟨va,vc,rfl,_,hvm⟩:=qa.shape n hT;have hDC:=dep_cnt n ts;have hlt:=hC.lt;have c2:w.cell? ⟨cb,2,none⟩=some (.slice none 0 0):=by rw[cH9 hC.held];rfl
 have f2:w.frozen? ⟨cb,2,none⟩=false:=fH9 hC.held 2;have HC:Hid (Cst B cb w 0 0 (.slice none 0 0) []):=hC;have HT:Hid (qa S w n (.slice va ts.length vc) ts):=hT;clear hC hT
 go_enter Tryz.func33,Tryz.ntmps33
 go_wp2_with fail
 go_loopg [] (cnt n ts) (fun g wr=>∃ P dd cc wv,csum P=g∧qed S B cb w (dep n ts) (cnt n ts) wr P dd cc wv)
 case atStart => exact ⟨_,_,_,_,by simp[csum],qaR hS hne HT.out (by omega) HC.out hBw⟩
 case round =>
  obtain ⟨P,dd,cc,wv,hm,I⟩:=hrel;subst hm;obtain ⟨wa,wc,rfl⟩:=I.cst.shape;rw[List.length_map]at I
  have d2:wr.cell? ⟨cb,2,none⟩=some (.slice wa P.length wc):=by rw[cH9 I.cst.held];rfl
  have HI:Hid (qed S B cb w (dep n ts) (cnt n ts) wr P dd cc (.slice wa P.length wc)):=I;clear I
  rcases List.eq_nil_or_concat P with rfl|⟨P0,e,hPe⟩
  · simp only[List.length_nil]at d2
    go_wp2_with fail
    go_returns
    have I:=HI.out;have h1:=I.dmax;have h2:=I.csum;have h3:xh []=0:=rfl;have h4:csum []=0:=rfl;rw[h3]at h1
    rw[h4]at h2
    have e1:dd=dep n ts:=by omega
    have e2:cc=cnt n ts:=by omega
    have hc:=I.cst;rw[e1,e2]at hc
    exact ⟨rfl,_,hc,I.below⟩
  · rw[List.concat_eq_append]at hPe
    subst hPe;have hl:(P0++[e]).length=P0.length+1:=by simp
    rw[hl]at d2
    have hcs:Cst B cb wr dd cc (.slice wa (P0++[e]).length wc) (P0.map grp++[(e.v,e.o+1)]):=by
     have:=HI.out.cst;rw[List.map_append,List.map_cons,List.map_nil]at this
     exact this
    have hszr:B≤wr.heap.size:=Nat.le_trans hBw HI.out.below.size;have HCS:Hid _:=hcs;clear hcs;go_wp2_with fail;refine (qbC B cb wr dd cc _ (P0.map grp) e.v (e.o+1) HCS.out hszr).mono ?_;rintro e' w1 ⟨rfl,v1,hc1,hv1,hk1,hb1⟩;have hB1:Below B w w1:=HI.out.below.trans hb1;obtain ⟨hp1,hp2,hp3⟩:=HI.out.pend e (by simp)
    have hwr:=HI.out.below.size;have hw1:=hb1.size;have hkp:∀ b,S b→w1.heap[b]?=w.heap[b]?:=fun b hb=>(hk1 b (by have:=(hS b hb).1;omega) (hS b hb).2).trans (HI.out.keep b hb)
    have HKP:Hid (∀ b,S b→w1.heap[b]?=w.heap[b]?):=hkp;have hfr:∀ b,S b→b<w1.heap.size∧b≠cb∧v1.ownBlock≠some b:=fun b hb=>⟨by have:=(hS b hb).1;omega,(hS b hb).2,by rw[hv1];exact HI.out.free b hb⟩
    have HFR:Hid (∀ b,S b→b<w1.heap.size∧b≠cb∧v1.ownBlock≠some b):=hfr;have hTe:qa S w1 e.n e.v e.ts:=qa.carry (fun b hb=>⟨hb,hkp b hb⟩) e.n hp2
    have h1:=HI.out.dmax;have h2:=HI.out.csum;have h3:csum (P0++[e])=csum P0+cnt e.n e.ts:=by rw[jX];simp[csum]
    have h4:xh (P0++[e])=max (xh P0) (e.o+dep e.n e.ts):=by rw[xX];simp[xh]
    have h5:=Kf (P:=P0) (fun x hx=>HI.out.pend x (by simp[hx]))
    rw[h3]at h2
    rw[h4]at h1
    have hcall:=qc9 S B cb 1000 (nR9 _) e.n e.v e.ts e.o (e.o+1) dd cc v1 (P0.map grp) w1 rfl hfr hTe hc1 (by have:=hb1.size;omega) hp3 (by omega) (by omega) (by rw[List.length_map];omega)
    have e1:((e.o+1:Nat):Int)=(e.o:Int)+1:=by omega
    rw[e1,show ((1000:Nat):Int)=1000 from rfl]at hcall
    have HCALL:Hid _:=hcall;clear hcall e1 hkp hfr hk1;have H1:Hid (max dd (max (xh P0) (e.o+dep e.n e.ts))=dep n ts):=h1;have H2:Hid (cc+(csum P0+cnt e.n e.ts)=cnt n ts):=h2;have H3:Hid (csum (P0++[e])=csum P0+cnt e.n e.ts):=h3;clear d2 h1 h2 h3 h4 h5 hp3 hTe hc1 hv1 hl hszr;go_wp2_with fail;refine (Calls.mono HCALL.out ?_);rintro e' w2 ⟨rfl,P1,dd3,cc3,wv3,J⟩;go_wp2_with fail
    go_roundg (csum (P0++P1))
    case measure =>
     have h6:=J.csum;have h7:=J.more.2 (by omega)
     have h8:=List.length_pos_iff.2 hp1;rw[H3.out,jX];omega
    case rel =>
     refine ⟨P0++P1,dd3,cc3,wv3,rfl,hB1.trans J.below,by rw[List.map_append];exact J.cst,fun b hb=>(J.frame b (HFR.out b hb).1 (HFR.out b hb).2.1 (HFR.out b hb).2.2).trans (HKP.out b hb),?_,?_,?_,?_⟩
     · intro b hb h
       rcases J.row with h'|⟨b',h',h''⟩
       · exact (HFR.out b hb).2.2 (h'.symm.trans h)
       · rw[h']at h;cases h;have:=(HFR.out _ hb).1;omega
     · intro x hx
       rcases List.mem_append.1 hx with hx|hx
       · exact HI.out.pend x (by simp[hx])
       · obtain ⟨q1, q2, q3⟩ := J.pend x hx;exact ⟨q1,qa.carry (fun b hb=>⟨hb,(HKP.out b hb).symm⟩) x.n q2,q3⟩
     · have h6 := J.dmax;rw[if_neg hp1]at h6
       have h1:=H1.out;rw[xX];omega
     · have h6 := J.csum;have h2:=H2.out;rw[jX];omega
theorem qcR (S:Nat→Prop)(n:Nat)(va vk:Value)(t:Tr)(w:World)(h:qj S w va t.attrs)(hk:qa S w n vk t.kids)(hc:cnt (n+1) [t]≤1048576) :
 Calls Tryz.prog 22 #[.agg #[.bool t.text,.string t.s,va,vk]] w fun e w'=>e=.returned (.tuple #[.int .i64 (dep (n+1) [t]:Int),.int .i64 (cnt (n+1) [t]:Int)])∧Below w.heap.size w w':=by
 obtain ⟨aa,ac,rfl⟩:=h.shape;obtain ⟨ka,kc,rfl,_,_⟩:=qa.shape n hk;have hb:∀ X Y Z,Below w.heap.size w (((w.alloc X).alloc Y).alloc Z):=fun X Y Z=>((Below.alloc1 w X).alloc (by simp) Y).alloc (by simp;omega) Z
 have HB:Hid (∀ X Y Z,Below w.heap.size w (((w.alloc X).alloc Y).alloc Z)):=hb;have HA:Hid (qj (fun b=>S b∧b<w.heap.size) w (.slice aa t.attrs.length ac) t.attrs):=h.bounded
 have HK:Hid (qa (fun b=>S b∧b<w.heap.size) w n (.slice ka t.kids.length kc) t.kids):=qa.bounded n hk
 clear h hk hb
 go_enter Tryz.func22,Tryz.ntmps22
 go_wp2_with fail
 have hT:=qa.of_block (S:=fun b=>S b∧b<w.heap.size) (n:=n) (len:=1) (cap:=1) (ts:=[t]) (e:=51) (fz:=(0,0)) (qs:=[(t.text,t.s,.slice aa t.attrs.length ac,.slice ka t.kids.length kc)]) (heap_alloc_new ((w.alloc (.cells #[.bool t.text,.string t.s,.slice aa t.attrs.length ac,.slice ka t.kids.length kc] 51)).alloc (.cells #[.int .i64 0,.int .i64 0,.slice none 0 0] 86)) (.cells #[.bool t.text,.string t.s,.slice aa t.attrs.length ac,.slice ka t.kids.length kc] 51)) rfl rfl rfl (nR9 _) (by unfold maxLen;simp) (by
  intro i q t' hq ht';cases i with
  | zero =>
    simp at hq ht'
    subst hq ht';exact ⟨rfl,rfl,HA.out.later (HB.out _ _ _),qa.later (HB.out _ _ _) n HK.out⟩
  | succ i=>simp at ht')
 have hCst:Cst w.heap.size (w.heap.size+1) (((w.alloc (.cells #[.bool t.text,.string t.s,.slice aa t.attrs.length ac,.slice ka t.kids.length kc] 51)).alloc (.cells #[.int .i64 0,.int .i64 0,.slice none 0 0] 86)).alloc (.cells #[.bool t.text,.string t.s,.slice aa t.attrs.length ac,.slice ka t.kids.length kc] 51)) 0 0 (.slice none 0 0) []:=by
  refine ⟨by omega,?_,World.ownsRow_nil _ _ _ _,by simp⟩
  have e:=heap_alloc_new (w.alloc (.cells #[.bool t.text,.string t.s,.slice aa t.attrs.length ac,.slice ka t.kids.length kc] 51)) (.cells #[.int .i64 0,.int .i64 0,.slice none 0 0] 86);rw[World.size_alloc]at e
  rw[Lib.alloc_old _ _ _ (by simp)]
  exact e
 have hB3:=HB.out (.cells #[.bool t.text,.string t.s,.slice aa t.attrs.length ac,.slice ka t.kids.length kc] 51) (.cells #[.int .i64 0,.int .i64 0,.slice none 0 0] 86) (.cells #[.bool t.text,.string t.s,.slice aa t.attrs.length ac,.slice ka t.kids.length kc] 51);have hs2:((w.alloc (.cells #[.bool t.text,.string t.s,.slice aa t.attrs.length ac,.slice ka t.kids.length kc] 51)).alloc (.cells #[.int .i64 0,.int .i64 0,.slice none 0 0] 86)).heap.size=w.heap.size+1+1:=by simp
 rw[hs2]at hT
 refine (Xr _ w.heap.size (w.heap.size+1) (n+1) _ [t] _ ?_ (by simp) hT hCst hB3.size hc).mono ?_
 · intro b hb;simp only[World.size_alloc]
   rcases hb with hb|hb
   · have:=hb.2;omega
   · omega
 rintro e w2 ⟨rfl,wv,hC2,hb2⟩;have k0:w2.cell? ⟨w.heap.size+1,0,none⟩=some (.int .i64 (dep (n+1) [t]:Int)):=by rw[cH9 hC2.held];rfl
 have k1:w2.cell? ⟨w.heap.size+1,1,none⟩=some (.int .i64 (cnt (n+1) [t]:Int)):=by rw[cH9 hC2.held];rfl
 have hB4:Below w.heap.size w w2:=hB3.trans hb2;obtain ⟨D,hD⟩:∃ D,dep (n+1) [t]=D:=⟨_,rfl⟩;obtain ⟨C,hC⟩:∃ C,cnt (n+1) [t]=C:=⟨_,rfl⟩;rw[hD]at k0
 rw[hC]at k1
 have HD:Hid (dep (n+1) [t]=D):=hD;have HC:Hid (cnt (n+1) [t]=C):=hC;clear hD hC hc;clear hC2 hT hCst hB3 hb2 hs2;go_wp2_with fail
 go_region
 all_goals
  go_wp2_with fail
  go_ret2
  exact ⟨by rw[HD.out,HC.out];rfl,hB4.drew⟩
end
theorem data_append (a b:ByteArray):(a++b).data.toList=a.data.toList++b.data.toList:=by
 rw[ByteArray.data_append];simp
theorem Bd.str {B b:Nat}{l m:List UInt8}{s:ByteArray}{v:Value}{w:World}(h:Bd B b (Lib.byteCells l++Lib.strCells s) v w)(hs:s.data.toList=m):Bd B b (Lib.byteCells (l++m)) v w:=by
 rw[Lib.byteCells_append,←hs];exact h
theorem YK (v:Bool)(l:List UInt8):l.length≤(zL v l).length:=by
 induction l with
 | nil=>simp
 | cons c r ih =>
   have h1:1≤(jr v c).length:=by
    unfold jr
    split
    · simp
    split
    · simp
    split
    · simp
    split
    · simp
    · simp
   have h2:(zL v (c::r)).length=(jr v c).length+(zL v r).length:=by simp[zL]
   rw[h2,List.length_cons];omega
theorem yI (s:ByteArray):s.data.toList.length=s.size:=rfl
theorem BFr.cell {B b:Nat}{v v':Value}{w w':World}(h:BFr B b v w v' w'){x o:Nat}(hx:x<w.heap.size)(hb:x≠b)(hv:v.ownBlock≠some x):w'.cell? ⟨x,o,none⟩=w.cell? ⟨x,o,none⟩ :=
 World.cell?_of_block (a:=⟨x,o,none⟩) (h.frame x hx hb hv)
def QT (n:Nat):Prop:=∀ (S:Nat→Prop)(B b:Nat)(bs:List UInt8)(bv:Value)(va vk:Value)(t:Tr)(w:World),(∀ x,S x→x<w.heap.size∧x≠b∧bv.ownBlock≠some x)→qj S w va t.attrs→qa S w n vk t.kids→Bd B b (Lib.byteCells bs) bv w→qO w→1<B→B≤w.heap.size→bs.length+6*(yh (showL n t.kids) t).length≤1099511627776 →
 Calls Tryz.prog 79 #[.pointer (some ⟨b,0,none⟩),.agg #[.bool t.text,.string t.s,va,vk]] w fun e w'=>e=.returned (.tuple #[])∧∃ bv',Bd B b (Lib.byteCells (bs++yh (showL n t.kids) t)) bv' w'∧BFr B b bv w bv' w'
theorem JL (l:List (ByteArray × ByteArray))(x:ByteArray × ByteArray):(l++[x]).flatMap qC=l.flatMap qC++qC x:=by simp
theorem qdx {l:List (ByteArray × ByteArray)}{k:Nat}:((l.take k).flatMap qC).length≤(l.flatMap qC).length:=by
 have e:l.flatMap qC=(l.take k).flatMap qC++(l.drop k).flatMap qC:=by rw[←List.flatMap_append,List.take_append_drop]
 rw[e,List.length_append];omega
theorem qdX {n:Nat}{l:List Tr}{k:Nat}:(showL (n+1) (l.take k)).length≤(showL (n+1) l).length:=by
 have e:showL (n+1) l=showL (n+1) (l.take k)++showL (n+1) (l.drop k):=by unfold showL;rw[←List.flatMap_append,List.take_append_drop]
 rw[e,List.length_append];omega
theorem JF (x:ByteArray × ByteArray):(qC x).length=1+x.1.size+2+(zL true x.2.data.toList).length+1:=by
 simp[qC];omega
theorem VL (n:Nat)(S:Nat→Prop)(B b:Nat)(bs:List UInt8)(bv:Value)(va vk:Value)(s:ByteArray)(l:List (ByteArray × ByteArray))(ks:List Tr)(w:World)(hA:qj S w va l)(hK:qa S w n vk ks)(hBd:Bd B b (Lib.byteCells bs) bv w)(hM:qO w)(hgB:1<B)(hBw:B≤w.heap.size)
 (hlen:bs.length+6*(zL false s.data.toList).length≤1099511627776) :
 Calls Tryz.prog 79 #[.pointer (some ⟨b,0,none⟩),.agg #[.bool true,.string s,va,vk]] w fun e w'=>e=.returned (.tuple #[])∧∃ bv',Bd B b (Lib.byteCells (bs++zL false s.data.toList)) bv' w'∧BFr B b bv w bv' w':=by
 obtain ⟨aa,ac,rfl⟩:=hA.shape;obtain ⟨ka,kc,rfl,_,hkm⟩:=qa.shape n hK;have hb1:=Below.alloc1 w (.cells #[.bool true,.string s,.slice aa l.length ac,.slice ka ks.length kc] 51);have HC:Hid _:=xP false B b bs s bv (w.alloc (.cells #[.bool true,.string s,.slice aa l.length ac,.slice ka ks.length kc] 51)) (hBd.later hb1) (hM.later hb1 hM.lt) hgB (by simp;omega) (by have:=YK false s.data.toList;rw[yI]at this;omega)
 have HF1:Hid (BFr B b bv w bv (w.alloc (.cells #[.bool true,.string s,.slice aa l.length ac,.slice ka ks.length kc] 51))):=BFr.later hBw hb1;clear hA hK hM hBd
 go_enter Tryz.func79,Tryz.ntmps79
 go_wp2_with fail;refine (Calls.mono HC.out ?_);rintro e w2 ⟨rfl,bv2,hBd2,hF2⟩;go_wp2_with fail
 go_returns
 exact ⟨rfl,bv2,hBd2,HF1.out.trans hF2⟩
set_option maxHeartbeats 2000000 in
theorem VK (n:Nat)(ih:∀ m,n=m+1→QT m)(S:Nat→Prop)(B b:Nat)(bs:List UInt8)(bv:Value)(va vk:Value)(s:ByteArray)(l:List (ByteArray × ByteArray))(ks:List Tr)(w:World)(hS:∀ x,S x→x<w.heap.size∧x≠b∧bv.ownBlock≠some x)(hA:qj S w va l)(hK:qa S w n vk ks)(hBd:Bd B b (Lib.byteCells bs) bv w)(hM:qO w)(hgB:1<B)(hBw:B≤w.heap.size)
 (hlen:bs.length+6*(yh (showL n ks) ⟨false,s,l,ks⟩).length≤1099511627776) :
 Calls Tryz.prog 79 #[.pointer (some ⟨b,0,none⟩),.agg #[.bool false,.string s,va,vk]] w fun e w'=>e=.returned (.tuple #[])∧∃ bv',Bd B b (Lib.byteCells (bs++yh (showL n ks) ⟨false,s,l,ks⟩)) bv' w'∧BFr B b bv w bv' w':=by
 have HIH:Hid (∀ m,n=m+1→QT m):=ih;have HS:Hid (∀ x,S x→x<w.heap.size∧x≠b∧bv.ownBlock≠some x):=hS;have HA:Hid (qj S w va l):=hA;have HK:Hid (qa S w n vk ks):=hK;have HM:Hid (qO w):=hM;have hblt:=hBd.lt;have HROW:Hid (∀ x,bv.ownBlock=some x→x<w.heap.size):=hBd.rowLt
 have hL1:bs.length+6*(1+s.size+(l.flatMap qC).length+2)≤1099511627776:=by
  have:1+s.size+(l.flatMap qC).length+2≤(yh (showL n ks) ⟨false,s,l,ks⟩).length:=by
   simp only[yh,Bool.false_eq_true,if_false,List.length_append,List.length_cons,yI];cases ks with
   | nil=>simp;omega
   | cons k r=>simp;omega
  omega
 obtain ⟨aa,ac,rfl⟩:=hA.shape;obtain ⟨ka,kc,rfl,_,hkm⟩:=qa.shape n hK;obtain ⟨_,_,hae,_,ham,hacells⟩:=hA
 injection hae with hae1 _ hac
 subst hac;subst hae1;have HAC:Hid (l≠[]→∃ b o,aa=some ⟨b,o,none⟩∧S b∧∀ i x,l[i]?=some x→w.cell? ⟨b,o+i*2,none⟩=some (.string x.1)∧w.cell? ⟨b,o+i*2+1,none⟩=some (.string x.2)):=hacells;unfold maxLen at hkm ham
 have hb1:=Below.alloc1 w (.cells #[.bool false,.string s,.slice aa l.length ac,.slice ka ks.length kc] 51);have hX1:=XU.start w (.bool false) (.string s) (.slice aa l.length ac) (.slice ka ks.length kc) 51;have hsz1:(w.alloc (.cells #[.bool false,.string s,.slice aa l.length ac,.slice ka ks.length kc] 51)).heap.size=w.heap.size+1:=by simp
 have HBd1:Hid (Bd B b (Lib.byteCells bs) bv (w.alloc (.cells #[.bool false,.string s,.slice aa l.length ac,.slice ka ks.length kc] 51))):=hBd.later hb1;have hs40:s.size≤1099511627776:=by omega
 clear ih hS hK hM hBd hacells
 go_enter Tryz.func79,Tryz.ntmps79
 go_wp2_with fail;have HL0:Hid (yh (showL n ks) ⟨false,s,l,ks⟩=60::s.data.toList++l.flatMap qC++(if ks.isEmpty then [47,62] else 62::showL n ks++[60,47]++s.data.toList++[62])):=rfl
 generalize w.alloc (.cells #[.bool false,.string s,.slice aa l.length ac,.slice ka ks.length kc] 51)=W1 at hb1 hX1 hsz1 HBd1 ⊢
 have hBW1:B≤W1.heap.size:=by omega
 have HB1:Hid (Below w.heap.size w W1):=hb1;have HX1:Hid (XU W1 w.heap.size (.bool false) (.string s) (.slice aa l.length ac) (.slice ka ks.length kc)):=hX1
 have HBX:Hid (∀ v' w',BFr B b bv W1 v' w'→w'.cell? ⟨w.heap.size,1,none⟩=some (.string s)∧w'.cell? ⟨w.heap.size,2,none⟩=some (.slice aa l.length ac)∧w'.cell? ⟨w.heap.size,3,none⟩=some (.slice ka ks.length kc)):=by
  intro v' w' hF;have h1:w.heap.size<W1.heap.size:=by omega
  have h2:w.heap.size≠b:=by omega
  have h3:bv.ownBlock≠some w.heap.size:=fun e=>by have:=HROW.out _ e;omega
  exact ⟨by rw[hF.cell h1 h2 h3];exact HX1.out.at1,by rw[hF.cell h1 h2 h3];exact HX1.out.at2,by rw[hF.cell h1 h2 h3];exact HX1.out.at3⟩
 have HKEEP:Hid (∀ v' w',BFr B b bv W1 v' w'→∀ x,S x→w'.heap[x]?=w.heap[x]?):=by
  intro v' w' hF x hx;obtain ⟨h1,h2,h3⟩:=HS.out x hx;rw[hF.frame x (by omega) h2 h3,HB1.out.block x h1]
 have HMK:Hid (∀ v' w',BFr B b bv W1 v' w'→qO w'):=fun v' w' hF=>(HM.out.later HB1.out HM.out.lt).later hF.below hgB
 have HF0:Hid (BFr B b bv w bv W1):=BFr.later hBw hb1
 have hw1:=yw B b (Lib.byteCells bs) bv (⟨#[60]⟩++s) W1 HBd1.out (by
  rw[Lib.byteCells_length,ByteArray.size_append]
  show bs.length+(1+s.size)≤_
  omega) hBW1
 refine (Calls.mono hw1 ?_);rintro e w2 ⟨rfl,bv2,hBd2,hF2⟩;have HBd2:Hid (Bd B b (Lib.byteCells (bs++60::s.data.toList)) bv2 w2):=hBd2.str (by rw[data_append];rfl)
 obtain ⟨_,y2,_⟩:=HBX.out _ _ hF2;clear hw1 hX1 hb1 hBd2 HBd1;go_wp2_with fail
 go_loopg [22] l.length (fun g i wr=>∃ (k:Nat) (bw:Value),k+g=l.length∧i=.int .i64 k∧Bd B b (Lib.byteCells (bs++60::s.data.toList++(l.take k).flatMap qC)) bw wr∧BFr B b bv W1 bw wr)
 case atStart => exact ⟨0,bv2,by omega,rfl,by simpa using HBd2.out,hF2⟩
 case round =>
  obtain ⟨k,bw,hk,rfl,hBdk,hFk⟩:=hrel;have HBdk:Hid (Bd B b (Lib.byteCells (bs++60::s.data.toList++(l.take k).flatMap qC)) bw wr):=hBdk;have HFk:Hid (BFr B b bv W1 bw wr):=hFk;have hszr:=hFk.below.size;clear hBdk hFk HBd2 hF2 y2
  by_cases hlt:k<l.length
  · have hne : l ≠ [] := by intro e;subst e;simp at hlt
    obtain ⟨ab,ao,rfl,hs,hcc⟩:=HAC.out hne;obtain ⟨x,hx⟩:∃ x,l[k]?=some x:=⟨l[k],by simp[hlt]⟩
    obtain ⟨c0,c1⟩:=hcc k x hx;have hkp:=HKEEP.out _ _ HFk.out ab hs;rw[←World.cell?_of_block (a:=⟨ab,ao+k*2,none⟩) hkp]at c0
    rw[←World.cell?_of_block (a:=⟨ab,ao+k*2+1,none⟩) hkp]at c1
    have hsn:l.take (k+1)=l.take k++[x]:=by
     rw[List.take_succ_eq_append_getElem hlt];congr 2;simpa[hlt] using hx
    have hq1:((l.take k).flatMap qC).length+(qC x).length≤(l.flatMap qC).length:=by
     have:=qdx (l:=l) (k:=k+1);rw[hsn,JL,List.length_append]at this
     exact this
    rw[JF]at hq1
    have hmm:=YK true x.2.data.toList;rw[yI]at hmm
    have HSN:Hid ((l.take (k+1)).flatMap qC=(l.take k).flatMap qC++qC x):=by show _=_;rw[hsn,JL]
    have hlti:(k:Int)<(l.length:Int):=by omega
    have hx1:x.1.size≤1099511627776:=by omega
    have hbk:=Below.alloc1 wr (.cells #[.string x.1,.string x.2] 44);have HBdA:Hid (Bd B b (Lib.byteCells (bs++60::s.data.toList++(l.take k).flatMap qC)) bw (wr.alloc (.cells #[.string x.1,.string x.2] 44))):=HBdk.out.later hbk;have HFA:Hid (BFr B b bw wr bw (wr.alloc (.cells #[.string x.1,.string x.2] 44))):=BFr.later (by omega) hbk
    have hbx1:(wr.alloc (.cells #[.string x.1,.string x.2] 44)).cell? ⟨wr.heap.size,1,none⟩=some (.string x.2):=by simp
    have hszA:(wr.alloc (.cells #[.string x.1,.string x.2] 44)).heap.size=wr.heap.size+1:=by simp
    have hrk:=HBdk.out.rowLt;have hbw:b<wr.heap.size:=HBdk.out.lt;have hrn:bw.ownBlock≠some wr.heap.size:=fun e=>by have:=hrk _ e;omega
    have HRN:Hid (bw.ownBlock≠some wr.heap.size):=hrn;clear hcc hx hsn hkp hrk hrn hbk;go_wp2_with fail
    generalize wr.alloc (.cells #[.string x.1,.string x.2] 44)=WA at HBdA HFA hbx1 hszA ⊢
    have hl3:(Lib.byteCells (bs++60::s.data.toList++(l.take k).flatMap qC)).length=bs.length+(1+s.size)+((l.take k).flatMap qC).length:=by
     rw[Lib.byteCells_length];simp;omega
    have hw3:=yw B b _ bw (⟨#[32]⟩++x.1++⟨#[61,34]⟩) WA HBdA.out (by
     rw[hl3,ByteArray.size_append,ByteArray.size_append]
     show _+(1+x.1.size+2)≤_
     omega) (by omega)
    refine (Calls.mono hw3 ?_);rintro e w3 ⟨rfl,bv3,hBd3,hF3⟩;have HBd3:Hid (Bd B b (Lib.byteCells (bs++60::s.data.toList++(l.take k).flatMap qC++(32::x.1.data.toList++[61,34]))) bv3 w3):=hBd3.str (by rw[data_append,data_append];rfl)
    have z1:w3.cell? ⟨wr.heap.size,1,none⟩=some (.string x.2):=by rw[hF3.cell (by omega) (by omega) HRN.out];exact hbx1
    have HF3:Hid (BFr B b bv W1 bv3 w3):=HFk.out.trans (HFA.out.trans hF3);have hs3:=hF3.below.size;clear hw3 hBd3 hF3;go_wp2_with fail
    have hw4:=xP true B b _ x.2 bv3 w3 HBd3.out (HMK.out _ _ HF3.out) hgB (by omega) (by
     have e:(bs++60::s.data.toList++(l.take k).flatMap qC++(32::x.1.data.toList++[61,34])).length=bs.length+(1+s.size)+((l.take k).flatMap qC).length+(1+x.1.size+2):=by simp;omega
     rw[e];omega)
    refine (Calls.mono hw4 ?_);rintro e w4 ⟨rfl,bv4,hBd4,hF4⟩;have HBd4:Hid _:=hBd4;have HF4:Hid (BFr B b bv W1 bv4 w4):=HF3.out.trans hF4;have hs4:=hF4.below.size;clear hw4 hBd4 hF4;go_wp2_with fail
    have hw5:=yw B b _ bv4 ⟨#[34]⟩ w4 HBd4.out (by
     have e:(Lib.byteCells (bs++60::s.data.toList++(l.take k).flatMap qC++(32::x.1.data.toList++[61,34])++zL true x.2.data.toList)).length=bs.length+(1+s.size)+((l.take k).flatMap qC).length+(1+x.1.size+2)+(zL true x.2.data.toList).length:=by rw[Lib.byteCells_length];simp;omega
     rw[e]
     show _+1≤_
     omega) (by omega)
    refine (Calls.mono hw5 ?_);rintro e w5 ⟨rfl,bv5,hBd5,hF5⟩
    have HBd5:Hid (Bd B b (Lib.byteCells (bs++60::s.data.toList++(l.take (k+1)).flatMap qC)) bv5 w5):=by
     have h:=hBd5.str (m:=[34]) rfl
     show Bd _ _ _ _ _
     rw[HSN.out]
     simpa[qC] using h
    have HF5:Hid (BFr B b bv W1 bv5 w5):=HF4.out.trans hF5;clear hw5 hBd5 hF5;go_wp2_with fail
    go_roundg (l.length-(k+1))
    case measure => omega
    case rel => exact ⟨k+1,bv5,by omega,by go_num,HBd5.out,HF5.out⟩
  · have hkk : k = l.length := by omega
    subst hkk;have HBdE:Hid (Bd B b (Lib.byteCells (bs++60::s.data.toList++l.flatMap qC)) bw wr):=by have:=HBdk.out;rw[List.take_length]at this;exact this
    obtain ⟨wo,hwo⟩:∃ wo,wo=wr:=⟨_,rfl⟩;subst hwo;obtain ⟨y1,y2,y3⟩:=HBX.out _ _ HFk.out
    have hlE:(Lib.byteCells (bs++60::s.data.toList++l.flatMap qC)).length=bs.length+(1+s.size)+(l.flatMap qC).length:=by
     rw[Lib.byteCells_length];simp;omega
    clear HBdk
    by_cases hks:ks=[]
    · subst hks;simp only[List.length_nil]at y3
      have hw6:=yw B b _ bw ⟨#[47,62]⟩ wo HBdE.out (by rw[hlE];show _+2≤_;omega) (by omega)
      have HW6:Hid _:=hw6;clear hw6;go_wp2_with fail;refine (Calls.mono HW6.out ?_);rintro e w6 ⟨rfl,bv6,hBd6,hF6⟩;go_wp2_with fail
      go_returns
      refine ⟨rfl,bv6,?_,HF0.out.trans (HFk.out.trans hF6)⟩;have h:=hBd6.str (m:=[47,62]) rfl;rw[HL0.out]
      simpa using h
    · have hk0:((ks.length:Int)==0)=false:=by
       have:ks.length≠0:=fun e=>hks (List.eq_nil_of_length_eq_zero e)
       have:(ks.length:Int)≠0:=by omega
       simpa using this
      cases n with
      | zero=>exact absurd HK.out.1 hks
      | succ m =>
      have hemp:ks.isEmpty=false:=by cases ks with
       | nil=>exact absurd rfl hks
       | cons _ _=>rfl
      have HL2:Hid (bs.length+6*(1+s.size+(l.flatMap qC).length+(1+(showL (m+1) ks).length+2+s.size+1))≤1099511627776):=by
       show _≤_
       have e:(yh (showL (m+1) ks) ⟨false,s,l,ks⟩).length=1+s.size+(l.flatMap qC).length+(1+(showL (m+1) ks).length+2+s.size+1):=by
        rw[HL0.out,hemp];simp;omega
       rw[e]at hlen;exact hlen
      have hL2:=HL2.out;have hw6:=yw B b _ bw ⟨#[62]⟩ wo HBdE.out (by rw[hlE];show _+1≤_;omega) (by omega)
      have HW6:Hid _:=hw6;clear hw6;go_wp2_with fail;refine (Calls.mono HW6.out ?_);rintro e w6 ⟨rfl,bv6,hBd6,hF6⟩;have HBd6:Hid (Bd B b (Lib.byteCells (bs++60::s.data.toList++l.flatMap qC++[62])) bv6 w6):=hBd6.str (m:=[62]) rfl;have HF6:Hid (BFr B b bv W1 bv6 w6):=HFk.out.trans hF6;obtain ⟨_,_,y6⟩:=HBX.out _ _ HF6.out;clear HW6 hBd6 hF6 y1 y2 y3 HBdE;go_wp2_with fail
      go_loopg [50] ks.length (fun g i wr=>∃ (k:Nat) (bw:Value),k+g=ks.length∧i=.int .i64 k∧Bd B b (Lib.byteCells (bs++60::s.data.toList++l.flatMap qC++[62]++showL (m+1) (ks.take k))) bw wr∧BFr B b bv W1 bw wr)
      case atStart => exact ⟨0,bv6,by omega,rfl,by simpa[showL] using HBd6.out,HF6.out⟩
      case round =>
       obtain ⟨k,bx,hk2,rfl,hBdk,hFx⟩:=hrel;have HBdx:Hid (Bd B b (Lib.byteCells (bs++60::s.data.toList++l.flatMap qC++[62]++showL (m+1) (ks.take k))) bx wr):=hBdk;have HFx:Hid (BFr B b bv W1 bx wr):=hFx;have hszx:=hFx.below.size;clear hBdk hFx HBd6 y6
       by_cases hlt:k<ks.length
       · obtain ⟨_, _, hve, _, _, h4⟩ := HK.out;obtain ⟨kb,ko,hao,hs,hcc⟩:=h4 hks
         injection hve with e1 e2 e3
         subst e1;subst hao;obtain ⟨t,ht⟩:∃ t,ks[k]?=some t:=⟨ks[k],by simp[hlt]⟩
         obtain ⟨xa,xk,c0,c1,c2,c3,hat,hkt⟩:=hcc k t ht;have hkeep:=HKEEP.out _ _ HFx.out;have hkp:=hkeep kb hs;rw[←World.cell?_of_block (a:=⟨kb,ko+k*4,none⟩) hkp]at c0
         rw[←World.cell?_of_block (a:=⟨kb,ko+k*4+1,none⟩) hkp]at c1
         rw[←World.cell?_of_block (a:=⟨kb,ko+k*4+2,none⟩) hkp]at c2
         rw[←World.cell?_of_block (a:=⟨kb,ko+k*4+3,none⟩) hkp]at c3
         have hatr:qj S wr xa t.attrs:=qj.carry hat fun b hb=>⟨hb,hkeep b hb⟩
         have hktr:qa S wr m xk t.kids:=qa.carry (fun b hb=>⟨hb,hkeep b hb⟩) m hkt
         have hsn:ks.take (k+1)=ks.take k++[t]:=by
          rw[List.take_succ_eq_append_getElem hlt];congr 2;simpa[hlt] using ht
         have hq1:(showL (m+1) (ks.take k)).length+(yh (showL m t.kids) t).length≤(showL (m+1) ks).length:=by
          have:=qdX (n:=m) (l:=ks) (k:=k+1);rw[hsn,YW,List.length_append]at this
          exact this
         have HSN:Hid (showL (m+1) (ks.take (k+1))=showL (m+1) (ks.take k)++yh (showL m t.kids) t):=by show _=_;rw[hsn,YW]
         have hfree:∀ x,S x→x<wr.heap.size+1∧x≠b∧bx.ownBlock≠some x:=by
          intro x hx;obtain ⟨h1,h2,h3⟩:=HS.out x hx;exact ⟨by omega,h2,HFx.out.free (by omega) h3⟩
         have hbk:∀ o,Below wr.heap.size wr (wr.alloc o):=fun o=>Below.alloc1 wr o
         obtain ⟨ya,yc,rfl⟩:=hatr.shape;obtain ⟨yk,ykc,rfl,_,_⟩:=qa.shape m hktr
         have HCALL:Hid _:=HIH.out m rfl S B b _ bx _ _ t (wr.alloc (.cells #[.bool t.text,.string t.s,.slice ya t.attrs.length yc,.slice yk t.kids.length ykc] 51)) (by simpa using hfree) (hatr.later (hbk _)) (qa.later (hbk _) m hktr) (HBdx.out.later (hbk _)) (HMK.out _ _ (HFx.out.trans (BFr.later (by omega) (hbk _)))) hgB (by simp;omega) (by
          have e:(bs++60::s.data.toList++l.flatMap qC++[62]++showL (m+1) (ks.take k)).length=bs.length+(1+s.size)+(l.flatMap qC).length+1+(showL (m+1) (ks.take k)).length:=by simp;omega
          rw[e];omega)
         have HFA:Hid (BFr B b bx wr bx (wr.alloc (.cells #[.bool t.text,.string t.s,.slice ya t.attrs.length yc,.slice yk t.kids.length ykc] 51))):=BFr.later (by omega) (hbk _)
         have hlti:(k:Int)<(ks.length:Int):=by omega
         clear hat hkt hcc h4 ht hsn hatr hktr hkeep hkp hbk hfree e2 e3;go_wp2_with fail;refine (Calls.mono HCALL.out ?_);rintro e w7 ⟨rfl,bv7,hBd7,hF7⟩;have HBd7:Hid _:=hBd7;have HF7:Hid (BFr B b bv W1 bv7 w7):=HFx.out.trans (HFA.out.trans hF7);clear hBd7 hF7 HCALL;go_wp2_with fail
         go_roundg (ks.length-(k+1))
         case measure => omega
         case rel =>
          refine ⟨k+1,bv7,by omega,by go_num,?_,HF7.out⟩
          rw[HSN.out,←List.append_assoc];exact HBd7.out
       · have hkk : k = ks.length := by omega
         subst hkk;obtain ⟨y1,_,_⟩:=HBX.out _ _ HFx.out;have HBdE:Hid (Bd B b (Lib.byteCells (bs++60::s.data.toList++l.flatMap qC++[62]++showL (m+1) ks)) bx wr):=by have:=HBdx.out;rw[List.take_length]at this;exact this
         have HW8:Hid _:=yw B b _ bx (⟨#[60,47]⟩++s++⟨#[62]⟩) wr HBdE.out (by
          have e:(Lib.byteCells (bs++60::s.data.toList++l.flatMap qC++[62]++showL (m+1) ks)).length=bs.length+(1+s.size)+(l.flatMap qC).length+1+(showL (m+1) ks).length:=by rw[Lib.byteCells_length];simp;omega
          rw[e,ByteArray.size_append,ByteArray.size_append]
          show _+(2+s.size+1)≤_
          omega) (by omega)
         clear HBdx;go_wp2_with fail;refine (Calls.mono HW8.out ?_);rintro e w8 ⟨rfl,bv8,hBd8,hF8⟩;have h:=hBd8.str (m:=[60,47]++s.data.toList++[62]) (by rw[data_append,data_append])
         go_wp2_with fail
         go_returns
         refine ⟨rfl,bv8,?_,HF0.out.trans (HFx.out.trans hF8)⟩;rw[HL0.out,hemp]
         simpa using h
theorem KM (n:Nat)(ih:∀ m,n=m+1→QT m):QT n:=by
 intro S B b bs bv va vk t w hS hA hK hBd hM hgB hBw hlen;obtain ⟨tx,s,l,ks⟩:=t;cases tx with
 | true=>exact VL n S B b bs bv va vk s l ks w hA hK hBd hM hgB hBw hlen
 | false=>exact VK n ih S B b bs bv va vk s l ks w hS hA hK hBd hM hgB hBw hlen
theorem qbp (n:Nat):QT n:=by
  induction n with
  | zero=>exact KM 0 (fun m h=>by omega)
  | succ n ih => exact KM (n + 1) (fun m h => by obtain rfl : n = m := by omega
                                                 exact ih)
theorem JX {s:ByteArray}(h:za s=true):s.size≤8:=by
 simp only[za,Bool.and_eq_true,decide_eq_true_eq]at h;exact h.1.2
theorem YT {s:ByteArray}(h:zo s=true):s.size≤40:=by
 simp only[zo,Bool.and_eq_true,decide_eq_true_eq]at h;exact h.1
theorem QK {l:List (ByteArray × ByteArray)}(h:yq l=true):l.length≤4∧∀ x∈l,za x.1=true∧zo x.2=true:=by
 simp only[yq,Bool.and_eq_true,decide_eq_true_eq,List.all_eq_true]at h
 refine ⟨h.1,fun x hx=>?_⟩
 obtain ⟨i,hi⟩:=List.mem_iff_getElem?.1 hx
 have hil:i<l.length:=by
  rcases Nat.lt_or_ge i l.length with h'|h'
  · exact h'
  · rw[List.getElem?_eq_none h']at hi;cases hi
 have:=h.2 i (by simpa using hil)
 unfold okA at this
 rw[hi]at this
 simp only[Bool.and_eq_true]at this
 exact ⟨this.1.1,this.1.2⟩
theorem Vm (l:List (ByteArray × ByteArray))(h:∀ x∈l,za x.1=true∧zo x.2=true):(l.flatMap qC).length≤252*l.length:=by
 induction l with
 | nil=>simp
 | cons x r ih =>
   have h1:=ih (fun y hy=>h y (List.mem_cons_of_mem _ hy))
   have h2:=h x List.mem_cons_self;have h3:=JX h2.1;have h4:=YT h2.2;have h5:=ZA true x.2.data.toList;rw[yI]at h5
   have h6:((x::r).flatMap qC).length=(qC x).length+(r.flatMap qC).length:=by simp
   rw[h6,JF,List.length_cons];omega
theorem J3 {inner:List UInt8}{t:Tr}(h:qw t=true):(yh inner t).length≤1100+inner.length:=by
 obtain ⟨tx,s,l,ks⟩:=t;cases tx with
 | true =>
   simp only[qw,if_true,Bool.and_eq_true]at h
   have h1:=YT h.1.1.2;have h2:=ZA false s.data.toList;rw[yI]at h2
   simp only[yh,if_true];omega
 | false =>
   simp only[qw,Bool.false_eq_true,if_false,Bool.and_eq_true]at h
   have h1:=JX h.1;obtain ⟨h2,h3⟩:=QK h.2;have h4:=Vm l h3
   have h5:(yh inner ⟨false,s,l,ks⟩).length≤1+s.size+(l.flatMap qC).length+(1+inner.length+2+s.size+1):=by
    simp only[yh,Bool.false_eq_true,if_false,List.length_append,List.length_cons,yI]
    split
    · simp;omega
    · simp;omega
   omega
theorem show_bound:∀ (n:Nat)(ts:List Tr),rgt n ts=true→(showL n ts).length≤1100*cnt n ts:=by
 intro n
 induction n with
 | zero=>intro ts _;simp[showL]
 | succ n ih =>
   have hl:∀ (ts:List Tr) (p:Bool),rgL (rgt n) p ts=true→(showL (n+1) ts).length≤1100*cnt (n+1) ts:=by
    intro ts
    induction ts with
    | nil=>intro p _;simp[showL]
    | cons t r ihr =>
      intro p h;simp only[rgL,Bool.and_eq_true]at h
      obtain ⟨⟨⟨h1,_⟩,h2⟩,h3⟩:=h;have h4:=ihr t.text h3;have h5:(showL (n+1) (t::r)).length=(yh (showL n t.kids) t).length+(showL (n+1) r).length:=by simp[showL]
      rw[h5,qY];cases htt:t.text with
      | true =>
        have h6:(yh (showL n t.kids) t).length≤1100:=by
         have:=J3 (inner:=[]) h1;have e:yh (showL n t.kids) t=yh [] t:=by simp[yh,htt]
         rw[e];simpa using this
        omega
      | false =>
        rw[htt,Bool.false_or]at h2
        have h6:=ih t.kids h2;have h7:=J3 (inner:=showL n t.kids) h1;omega
   intro ts h;exact hl ts false h
theorem YB {n:Nat}{t:Tr}(hd:Deep n t.kids)(h:qS t=true):(yh (showL n t.kids) t).length≤88000:=by
 rw[jK hd]at h
 simp only[Bool.and_eq_true,decide_eq_true_eq]at h
 have h1:=show_bound (n+1) [t] h.2;have h2:showL (n+1) [t]=yh (showL n t.kids) t:=by simp[showL]
 rw[h2]at h1
 have:=h.1.2;omega
theorem qbu (S:Nat→Prop)(n:Nat)(va vk:Value)(t:Tr)(w:World)(hA:qj S w va t.attrs)(hK:qa S w n vk t.kids)(hM:qO w)(hlen:(yh (showL n t.kids) t).length≤88000) :
 Calls Tryz.prog 44 #[.agg #[.bool t.text,.string t.s,va,vk]] w fun e w'=>e=.returned (.string ⟨(yh (showL n t.kids) t).toArray⟩)∧Below w.heap.size w w':=by
 have hAb:=hA.bounded;have hKb:=qa.bounded n hK;obtain ⟨aa,ac,rfl⟩:=hA.shape;obtain ⟨ka,kc,rfl,_,_⟩:=qa.shape n hK;have hb0:∀ X Y,Below w.heap.size w ((w.alloc X).alloc Y):=fun X Y=>(Below.alloc1 w X).alloc (by simp) Y
 have hcall:∀ X,Calls Tryz.prog 79 #[.pointer (some ⟨w.heap.size+1,0,none⟩),.agg #[.bool t.text,.string t.s,.slice aa t.attrs.length ac,.slice ka t.kids.length kc]] ((w.alloc X).alloc (.cells #[.pointer none,.slice none 0 0] 150)) fun e w'=>e=.returned (.tuple #[])∧∃ bv',Bd w.heap.size (w.heap.size+1) (Lib.byteCells ([]++yh (showL n t.kids) t)) bv' w'∧Below w.heap.size w w':=by
  intro X;have hsz:((w.alloc X).alloc (.cells #[.pointer none,.slice none 0 0] 150)).heap.size=w.heap.size+1+1:=by simp
  have hbd:Bd w.heap.size (w.heap.size+1) (Lib.byteCells []) (.slice none 0 0) ((w.alloc X).alloc (.cells #[.pointer none,.slice none 0 0] 150)):=by
   refine ⟨by omega,⟨_,Or.inl rfl,?_⟩,World.ownsRow_nil _ _ _ _,by intro e;cases e⟩
   have e:=heap_alloc_new (w.alloc X) (.cells #[.pointer none,.slice none 0 0] 150);rw[World.size_alloc]at e
   exact e
  have:=qbp n (fun b=>S b∧b<w.heap.size) w.heap.size (w.heap.size+1) [] (.slice none 0 0) _ _ t ((w.alloc X).alloc (.cells #[.pointer none,.slice none 0 0] 150)) (fun x hx=>⟨by have:=hx.2;omega,by have:=hx.2;omega,by intro e;cases e⟩) (hAb.later (hb0 _ _)) (qa.later (hb0 _ _) n hKb) hbd (hM.later (hb0 _ _) hM.lt) hM.lt (by omega) (by simp only[List.length_nil];omega)
  refine this.mono ?_;rintro e w' ⟨rfl,bv',h1,h2⟩;exact ⟨rfl,bv',h1,(hb0 _ _).trans h2.below⟩
 have HC:Hid _:=hcall;clear hcall hA hK hAb hKb hM hlen;obtain ⟨L,hL⟩:∃ L,yh (showL n t.kids) t=L:=⟨_,rfl⟩;rw[hL]at HC ⊢
 clear hL
 go_enter Tryz.func44,Tryz.ntmps44
 go_wp2_with fail;refine (Calls.mono (HC.out _) ?_);rintro e w2 ⟨rfl,bv,hBd,hB⟩;have hsz:=hB.size;have HS:Hid _:=xW w.heap.size (w.heap.size+1) ([]++L) w2 hBd.is hsz;clear HC hBd;go_wp2_with fail;refine (Calls.mono HS.out ?_);rintro e w3 ⟨rfl,hb3⟩;go_wp2_with fail;go_ret;exact ⟨rfl,hB.trans hb3⟩
def yP (n:Nat)(t:Tr):ByteArray × Int :=
 if qS t then (if 2500<(yh (showL n t.kids) t).length then (⟨#[]⟩,2) else (⟨(yh (showL n t.kids) t).toArray⟩,0)) else (⟨#[]⟩,1)
theorem KL (S:Nat→Prop)(n:Nat)(va vk:Value)(t:Tr)(w:World)(hA:qj S w va t.attrs)(hK:qa S w n vk t.kids)(hM:qO w)(hx:TextsN (n+1) [t]) :
 Calls Tryz.prog 27 #[.agg #[.bool t.text,.string t.s,va,vk]] w fun e w'=>e=.returned (.tuple #[.string (yP n t).1,.int .i64 (yP n t).2])∧Below w.heap.size w w':=by
 obtain ⟨aa,ac,rfl⟩:=hA.shape;obtain ⟨ka,kc,rfl,_,_⟩:=qa.shape n hK;have hX1:=XU.start w (.bool t.text) (.string t.s) (.slice aa t.attrs.length ac) (.slice ka t.kids.length kc) 51;have hb1:=Below.alloc1 w (.cells #[.bool t.text,.string t.s,.slice aa t.attrs.length ac,.slice ka t.kids.length kc] 51)
 have HG:Hid (∀ W,Below w.heap.size w W→Calls Tryz.prog 21 #[.agg #[.bool t.text,.string t.s,.slice aa t.attrs.length ac,.slice ka t.kids.length kc]] W fun e w'=>e=.returned (.bool (qS t))∧Below W.heap.size W w') :=
  fun W hW=>Q4 S n _ _ t W (hA.later hW) (qa.later hW n hK) hx
 have HP:Hid (qS t=true→∀ W,Below w.heap.size w W→Calls Tryz.prog 44 #[.agg #[.bool t.text,.string t.s,.slice aa t.attrs.length ac,.slice ka t.kids.length kc]] W fun e w'=>e=.returned (.string ⟨(yh (showL n t.kids) t).toArray⟩)∧Below W.heap.size W w') :=
  fun hg W hW=>qbu S n _ _ t W (hA.later hW) (qa.later hW n hK) (hM.later hW hM.lt) (YB (qa.deep n hK) hg)
 have HSH:Hid (qS t=true→(yh (showL n t.kids) t).length≤88000):=fun hg=>YB (qa.deep n hK) hg
 have HR:Hid (yP n t=if qS t then (if 2500<(yh (showL n t.kids) t).length then (⟨#[]⟩,2) else (⟨(yh (showL n t.kids) t).toArray⟩,0)) else (⟨#[]⟩,1)):=rfl
 clear hA hK hM hx;obtain ⟨L,hL⟩:∃ L,yh (showL n t.kids) t=L:=⟨_,rfl⟩;obtain ⟨q,hq⟩:∃ q,qS t=q:=⟨_,rfl⟩;rw[hL]at HP HSH HR
 rw[hq]at HG HP HSH HR
 clear hL hq
 go_enter Tryz.func27,Tryz.ntmps27
 go_wp2_with fail
 generalize w.alloc (.cells #[.bool t.text,.string t.s,.slice aa t.attrs.length ac,.slice ka t.kids.length kc] 51)=W1 at hb1 hX1 ⊢
 refine (Calls.mono (HG.out _ hb1) ?_);rintro e w2 ⟨rfl,hb2⟩;have hX2:=hX1.later hb2 hX1.lt;have hB2:Below w.heap.size w w2:=hb1.trans (hb2.mono hb1.size);have f0:=hX2.at0;have f1:=hX2.at1;have f2:=hX2.at2;have f3:=hX2.at3;clear hX1 hX2 hb1 hb2 HG;cases q with
 | false =>
   go_wp2_with fail
   go_ret2
   exact ⟨by rw[HR.out];rfl,hB2⟩
 | true =>
   have HP2:=HP.out rfl;have HP3:Hid _:=HP2;have hl88:L.length≤88000:=HSH.out rfl;clear HP HP2 HSH;go_wp2_with fail;refine (Calls.mono (HP3.out _ hB2) ?_);rintro e w3 ⟨rfl,hb3⟩;have hB3:Below w.heap.size w w3:=hB2.trans (hb3.mono hB2.size);have hsz:(ByteArray.mk L.toArray).size=L.length:=by simp[ByteArray.size]
   by_cases hlong:2500<L.length
   · have HE : Hid (yP n t = (⟨#[]⟩, 2)) := by show _ = _;rw[HR.out];simp[hlong]
     have hi:(2500:Int)<(L.length:Int):=by omega
     clear HR;go_wp2_with fail
     go_ret2
     exact ⟨by rw[HE.out];rfl,hB3⟩
   · have HE : Hid (yP n t = (⟨L.toArray⟩, 0)) := by show _ = _;rw[HR.out];simp[hlong]
     have hi:¬ (2500:Int)<(L.length:Int):=by omega
     clear HR hlong;go_wp2_with fail
     go_ret2
     exact ⟨by rw[HE.out];rfl,hB3⟩
end Go.Proofs.YtchkbffgancidaaGreatDoor
/- What is printed of a good tree is read as it: on plain data. No condition. -/
namespace Go.Proofs.YtchkbffgancidaaGreatDoor
open Go.RowKit
set_option maxRecDepth 100000
end Go.Proofs.YtchkbffgancidaaGreatDoor
namespace Go.Proofs.YtchkbffgancidaaGreatDoor
open Go.RowKit
set_option maxRecDepth 100000
def Stop (x:List UInt8):Prop:=x=[]∨∃ y,x=60::47::y
end Go.Proofs.YtchkbffgancidaaGreatDoor
namespace Go.Proofs.YtchkbffgancidaaGreatDoor
open Go.ChangeShapes Go.WideShapes Go.ChangeAt Go.RowKit
set_option maxRecDepth 100000
def pairCells:List (Value × Value)→List Value
 | []=>[]
 | x::r=>x.1::x.2::pairCells r
theorem xn (l:List (Value × Value)):(pairCells l).length=l.length*2:=by
 induction l with
 | nil=>rfl
 | cons x r ih=>simp[pairCells,ih];omega
theorem yj (l m:List (Value × Value)):pairCells (l++m)=pairCells l++pairCells m:=by
 induction l with
 | nil=>rfl
 | cons x r ih=>simp[pairCells,ih]
structure Pst (B cb:Nat) (w:World) (v:Value) (G:List (Value × Value)):Prop where
 base:B≤cb
 held:w.heap[cb]?=some (.cells #[v] 81 (0,0))
 own:w.ownsRow B 111 2 v G.length (pairCells G)
 slices:∀ x∈G,(∃ a l c,x.1=.slice a l c)∧∃ a l c,x.2=.slice a l c
theorem Pst.lt {B cb:Nat}{w:World}{v:Value}{G:List (Value × Value)}(h:Pst B cb w v G):cb<w.heap.size:=by
 rcases Nat.lt_or_ge cb w.heap.size with h'|h'
 · exact h'
 · have:=h.held;simp[Array.getElem?_eq_none h']at this
theorem Pst.apart {B cb:Nat}{w:World}{v:Value}{G:List (Value × Value)}(h:Pst B cb w v G):v.ownBlock≠some cb:=by
 intro e;obtain ⟨_,c,fz,hc⟩:=qg h.own e;rw[h.held]at hc
 simp at hc
theorem Pst.shape {B cb:Nat}{w:World}{v:Value}{G:List (Value × Value)}(h:Pst B cb w v G):∃ a c,v=.slice a G.length c:=by
 rcases h.own.2 with ⟨hv,h0⟩|⟨g,cap,cur,hv,_⟩
 · exact ⟨none,0,by rw[hv,h0]⟩
 · exact ⟨_,_,hv⟩
theorem Pst.later {B cb:Nat}{w w':World}{v:Value}{G:List (Value × Value)}(h:Pst B cb w v G)(hb:Below w.heap.size w w'):Pst B cb w' v G :=
 ⟨h.base,by rw[hb.block cb h.lt];exact h.held,qm h.own hb,h.slices⟩
theorem qbD (B cb:Nat)(w:World)(v:Value)(G:List (Value × Value))(x y:Value)(h:Pst B cb w v (G++[(x,y)]))(hBw:B≤w.heap.size) :
 Calls Tryz.prog 47 #[.pointer (some ⟨cb,0,none⟩)] w fun e w'=>e=.returned (.agg #[x,y])∧∃ v',Pst B cb w' v' G∧v'.ownBlock=v.ownBlock∧(∀ b,b<w.heap.size→b≠cb→w'.heap[b]?=w.heap[b]?)∧Below B w w':=by
 have hap:=h.apart;have hlt:=h.lt;obtain ⟨hB,hj,hown,hsl⟩:=h;obtain ⟨⟨xa,xl,xc,hx⟩,ya,yl,yc,hy⟩:=hsl (x,y) (by simp)
 simp only at hx hy
 subst hx;subst hy
 rcases hown.2 with ⟨_,h0⟩|⟨g,cap,cur,rfl,hg,hh,hc,hm,hs,ht⟩
 · simp at h0
 have hlen:(G++[(Value.slice xa xl xc,Value.slice ya yl yc)]).length=G.length+1:=by simp
 rw[hlen]at hown hj hc ht
 have c2:w.cell? ⟨cb,0,none⟩=some (.slice (some ⟨g,0,none⟩) (G.length+1) cap):=by rw[cH9 hj];rfl
 have f2:w.frozen? ⟨cb,0,none⟩=false:=fH9 hj 0;have hgl:=xn G
 have k0:w.cell? ⟨g,G.length*2,none⟩=some (.slice xa xl xc):=by
  rw[World.ownsRow.cellAt hown _ (by omega),yj,List.getElem?_append_right (by omega),hgl];simp[pairCells]
 have k1:w.cell? ⟨g,G.length*2+1,none⟩=some (.slice ya yl yc):=by
  rw[World.ownsRow.cellAt hown _ (by omega),yj,List.getElem?_append_right (by omega),hgl];simp[pairCells]
 have hgs:g<w.heap.size:=World.block_lt_of_cell? w _ k0;unfold maxLen at hm
 have HJ:Hid (w.heap[cb]?=some (.cells #[.slice (some ⟨g,0,none⟩) (G.length+1) cap] 81 (0,0))):=hj;clear hj hgl
 go_enter Tryz.func47,Tryz.ntmps47
 go_wp2_with fail
 have hk:∀ b,b<w.heap.size→b≠cb→(((w.setCell ⟨cb,0,none⟩ (.slice (some ⟨g,0,none⟩) G.length cap)).alloc (.cells #[.slice xa xl xc,.slice ya yl yc] 111)).alloc (.cells #[.slice xa xl xc,.slice ya yl yc] 111)).heap[b]?=w.heap[b]?:=by
  intro b hb hbc;rw[Lib.alloc_old _ _ _ (by simp;omega),Lib.alloc_old _ _ _ (by simp;omega),Below.heap_setCell _ _ _ _ hbc]
 have hgc:g≠cb:=fun e=>hap (by rw[e];rfl)
 refine bodyPost_ret (v:=.agg #[.slice xa xl xc,.slice ya yl yc]) (by simp[results,Tryz.results47,go_sem]) rfl ⟨rfl,.slice (some ⟨g,0,none⟩) G.length cap,⟨hB,?_,?_,fun y hy=>hsl y (by simp[hy])⟩,?_,hk,?_⟩
 · rw[Lib.alloc_old _ _ _ (by simp;omega), Lib.alloc_old _ _ _ (by simp;omega)]
   simp[World.setCell,Array.getElem?_modify,HJ.out]
 · rw[yj]at hown
   exact qk (QC hown (xn G)) fun b hb=>by cases hb;exact hk g hgs hgc
 · rfl
 · exact ((((Below.refl B w).setCell hB _).alloc (by simp;omega) _).alloc (by simp;omega) _)
theorem pairInfo:(Tryz.prog.info? 111).map (fun i=>(i.zero,i.size,i.bytes))=some (some (.agg #[.slice none 0 0,.slice none 0 0]),2,48):=by kernel_rfl
theorem qbz {ops:Array Oper}{o:Oper}{a:Act}{w:World}{K:Act→World→Prop}{Q:Exit→Act→World→Prop}{E:Prop}
 (hg:o.guard=none) (s x:Operand) (hop:o.op=Op.call { callee:=Callee.builtin Builtin.append,args:=#[s,x],argTypes:=#[79,79] })
 (B:Nat) (v:Value) (n:Nat) (xs:List Value) (hs:a.eval s=v) (hown:w.ownsRow B 111 2 v n xs) (ad:Addr) (sa:Option Addr) (sl sc:Nat) (ua:Option Addr) (ul uc:Nat) (hx:a.eval x=.slice (some ad) 1 1)
 (hnews:∀ j u,[Value.slice sa sl sc,Value.slice ua ul uc][j]?=some u→w.cell? (ad.add j)=some u) (hn:n≤1048576) (hB:B≤w.heap.size)
 (hK:∀ v' w',w'.ownsRow B 111 2 v' (n+1) (xs++[.slice sa sl sc,.slice ua ul uc])→w.grownBy w' v.ownBlock→(v'.ownBlock=v.ownBlock∨v'.ownBlock=some w.heap.size)→K (a.put o.dst v') w') :
 if Region.wanted o (yielded ops a.tmps)=true then Oper.wp Tryz.prog o a w K Q else E:=by
 have hw:Region.wanted o (yielded ops a.tmps)=true:=by simp[Region.wanted,hg]
 rw[if_pos hw];obtain ⟨i0,hi,hz0,hz1,hz2⟩:=info_parts pairInfo;obtain ⟨v',w',hr,h2,h3,_,h5⟩:=run_append_own_at (P:=Tryz.prog) w B 79 o.type 111 i0 _ 2 48 Tryz.underlying79 hi hz0 hz1 hz2 rfl (by decide) v n xs hown ad 1 1 [.slice sa sl sc,.slice ua ul uc] rfl hnews (by intro u hu;simp at hu;rcases hu with rfl|rfl<;>rfl) (by unfold maxLen;omega) (by omega) hB
 unfold Oper.wp;simp[execOp,hop,resolve,invoke,builtin,hs,hx,hr,Result.andThen];exact hK v' w' h2 h3 h5
structure PE where
 v:Value
 v':Value
 n:Nat
 ts:List Tr
 us:List Tr
def jo (P:List PE):Nat:=(P.map fun e=>cnt e.n e.ts).sum
def Qf (P:List PE):Bool:=P.all fun e=>likeB e.n e.ts e.us
def prs (e:PE):Value × Value:=(e.v,e.v')
theorem j5 (P Q:List PE):jo (P++Q)=jo P+jo Q:=by simp[jo]
theorem xK (P Q:List PE):Qf (P++Q)=(Qf P&&Qf Q):=by simp[Qf]
def V9 (S:Nat→Prop)(w:World)(e:PE):Prop:=e.ts≠[]∧qa S w e.n e.v e.ts∧qa S w e.n e.v' e.us
theorem KN {S:Nat→Prop}{w:World}{P:List PE}(h:∀ e∈P,V9 S w e):P.length≤jo P:=by
 induction P with
 | nil=>simp
 | cons e r ih =>
   have h1:=ih (fun x hx=>h x (List.mem_cons_of_mem _ hx))
   obtain ⟨h2,h3,_⟩:=h e List.mem_cons_self;have h4:=(qa.deep e.n h3).len;have h5:=List.length_pos_iff.2 h2;have h6:jo (e::r)=cnt e.n e.ts+jo r:=by simp[jo]
   simp only[List.length_cons];omega
structure qcZ (S:Nat→Prop) (B cb:Nat) (w:World) (lk:Bool) (cs L:Nat) (ts:List Tr) (wv:Value) (G:List (Value × Value)) (w':World) (P:List PE) (wv':Value):Prop where
 below:Below B w w'
 cst:Pst B cb w' wv' (G++P.map prs)
 row:wv'.ownBlock=wv.ownBlock∨∃ b,wv'.ownBlock=some b∧w.heap.size≤b
 frame:∀ b,b<w.heap.size→b≠cb→wv.ownBlock≠some b→w'.heap[b]?=w.heap[b]?
 pend:∀ e∈P,V9 S w e
 like:lk=Qf P
 less:jo P≤cs∧(0<L→jo P+ts.length≤cs)
def ZY (S:Nat→Prop)(B cb:Nat)(w:World)(lk:Bool)(cs L:Nat)(ts:List Tr)(wv:Value)(G:List (Value × Value))(r:Bool)(w':World):Prop :=
 match r with
 | false=>lk=false∧Below B w w'∧∀ b,b<w.heap.size→b≠cb→wv.ownBlock≠some b→w'.heap[b]?=w.heap[b]?
 | true=>∃ P wv',qcZ S B cb w lk cs L ts wv G w' P wv'
theorem ZY.frame {S:Nat→Prop}{B cb:Nat}{w:World}{lk:Bool}{cs L:Nat}{ts:List Tr}{wv:Value}{G:List (Value × Value)}{r:Bool}{w':World}(h:ZY S B cb w lk cs L ts wv G r w') :
 ∀ b,b<w.heap.size→b≠cb→wv.ownBlock≠some b→w'.heap[b]?=w.heap[b]?:=by
 cases r with
 | false=>exact h.2.2
 | true=>obtain ⟨P,wv',J⟩:=h;exact J.frame
def XT (S:Nat→Prop)(B cb L:Nat):Prop:=∀ (n:Nat)(v v':Value)(ts us:List Tr)(wv:Value)(G:List (Value × Value))(w:World),
 (∀ b,S b→b<w.heap.size∧b≠cb∧wv.ownBlock≠some b)→qa S w n v ts→qa S w n v' us→Pst B cb w wv G→B≤w.heap.size→G.length+cnt n ts≤1048576 →
 Calls Tryz.prog 46 #[.pointer (some ⟨cb,0,none⟩),.agg #[v,v'],.int .i64 (L:Int)] w fun e w'=>∃ r,e=.returned (.bool r)∧ZY S B cb w (likeB n ts us) (cnt n ts) L ts wv G r w'
theorem qab (S:Nat→Prop)(B cb L n:Nat)(v v':Value)(ts us:List Tr)(wv:Value)(G:List (Value × Value))(w:World)(h:qa S w n v ts)(h':qa S w n v' us)(hB:B≤w.heap.size)(hne:ts.length≠us.length) :
 Calls Tryz.prog 46 #[.pointer (some ⟨cb,0,none⟩),.agg #[v,v'],.int .i64 (L:Int)] w fun e w'=>∃ r,e=.returned (.bool r)∧ZY S B cb w (likeB n ts us) (cnt n ts) L ts wv G r w':=by
 obtain ⟨a,c,rfl,_,_⟩:=qa.shape n h;obtain ⟨a',c',rfl,_,_⟩:=qa.shape n h'
 have hq:((ts.length:Int) != us.length)=true:=by
  have:(ts.length:Int)≠us.length:=by omega
  simpa using this
 have HQ:Hid (likeB n ts us=false):=qba hne;clear h h' hne
 go_enter Tryz.func46,Tryz.ntmps46
 go_wp2_with fail;go_ret;exact ⟨false,rfl,HQ.out,(Below.refl B w).alloc hB _,fun b hb _ _=>Below.heap_alloc _ _ _ hb⟩
theorem qac (S:Nat→Prop)(B cb L n:Nat)(v v':Value)(wv:Value)(G:List (Value × Value))(w:World)(h:qa S w n v [])(h':qa S w n v' [])(hc:Pst B cb w wv G)(hB:B≤w.heap.size) :
 Calls Tryz.prog 46 #[.pointer (some ⟨cb,0,none⟩),.agg #[v,v'],.int .i64 (L:Int)] w fun e w'=>∃ r,e=.returned (.bool r)∧ZY S B cb w (likeB n [] []) (cnt n []) L [] wv G r w':=by
 obtain ⟨a,c,rfl,_,_⟩:=qa.shape n h;obtain ⟨a',c',rfl,_,_⟩:=qa.shape n h';simp only[List.length_nil]
 go_enter Tryz.func46,Tryz.ntmps46
 go_wp2_with fail;go_ret;refine ⟨true,rfl,[],wv,?_⟩;exact ⟨(Below.refl B w).alloc hB _,by simpa using hc.later (Below.alloc1 w _),Or.inl rfl,fun b hb _ _=>Below.heap_alloc _ _ _ hb,by simp,by rw[JR];rfl,nZ9 _,fun _=>nZ9 _⟩
theorem YQ {B cb:Nat}{W X w1:World}{wv:Value}{G:List (Value × Value)}(h:Pst B cb W wv G)(hX:Below W.heap.size W X)(hg:X.grownBy w1 wv.ownBlock) :
 w1.heap[cb]?=some (.cells #[wv] 81 (0,0)):=by
 rw[hg.block cb (Nat.lt_of_lt_of_le h.lt hX.size) (fun e=>h.apart e.symm),hX.block cb h.lt]
 exact h.held
theorem qde {S:Nat→Prop}{B cb:Nat}{w W0 w1:World}{n:Nat}{ts us:List Tr}{va ua wa a1:Option Addr}{vc uc wc l1 c1:Nat}{G:List (Value × Value)}{c:Obj}(hne:ts≠[])
 (hT:qa S w n (.slice va ts.length vc) ts) (hU:qa S w n (.slice ua us.length uc) us) (hBw:B≤w.heap.size) (hbx:Below w.heap.size w W0) (hX:Pst B cb W0 (.slice wa G.length wc) G)
 (hown1:w1.ownsRow B 111 2 (.slice a1 l1 c1) (G.length+1) (pairCells G++[.slice va ts.length vc,.slice ua us.length uc]))
 (hgr1:(W0.alloc c).drew.grownBy w1 (Value.slice wa G.length wc).ownBlock)
 (hat1:(Value.slice a1 l1 c1).ownBlock=(Value.slice wa G.length wc).ownBlock∨(Value.slice a1 l1 c1).ownBlock=some (W0.alloc c).drew.heap.size) :
 qcZ S B cb w (likeB n ts us) (cnt n ts) 0 ts (.slice wa G.length wc) G (w1.setCell ⟨cb,0,none⟩ (.slice a1 l1 c1)) [⟨.slice va ts.length vc,.slice ua us.length uc,n,ts,us⟩] (.slice a1 l1 c1):=by
 have hH:=YQ hX (Below.alloc1 W0 c).drew hgr1;have hsz:=hbx.size;have hsX:(W0.alloc c).drew.heap.size=W0.heap.size+1:=by simp[World.drew]
 have hap:(Value.slice a1 l1 c1).ownBlock≠some cb:=by
  intro e;obtain ⟨_,cs,fz,hc⟩:=qg hown1 e;rw[hH]at hc
  simp at hc
 refine ⟨?_,⟨hX.base,?_,?_,?_⟩,?_,?_,?_,?_,?_,fun h=>by omega⟩
 · exact (((((hbx.mono hBw).alloc (by omega) c).drew).grown hgr1 (by omega) (fun k hk=>(hX.own.lt k hk).1))).setCell hX.base _
 · simp[World.setCell,Array.getElem?_modify,hH]
 · have e1 : (G ++ List.map prs [(⟨.slice va ts.length vc, .slice ua us.length uc, n, ts, us⟩ : PE)]).length = G.length + 1 := by simp
   rw[e1,yj];exact qk hown1 fun b hb=>Below.heap_setCell _ _ _ _ (fun e=>hap (by rw[hb,e]))
 · intro x hx
   rcases List.mem_append.1 hx with hx|hx
   · exact hX.slices x hx
   · simp[prs]at hx;subst hx;exact ⟨⟨_,_,_,rfl⟩,_,_,_,rfl⟩
 · rcases hat1 with h | h
   · exact Or.inl h
   · exact Or.inr ⟨_,h,by omega⟩
 · intro b hb h1 h2;rw[Below.heap_setCell _ _ _ _ h1,hgr1.block b (by omega) (fun e=>h2 e.symm)]
   show (W0.alloc c).heap[b]?=_
   rw[Lib.alloc_old _ _ _ (by omega),hbx.block b hb]
 · intro e he;simp at he
   subst he;exact ⟨hne,hT,hU⟩
 · simp[Qf]
 · simp[jo]
theorem qbQ (S:Nat→Prop)(B cb:Nat):XT S B cb 0:=by
 intro n v v' ts us wv G w _ hT hU hC hBw hG
 by_cases hlen:ts.length=us.length
 · by_cases hne : ts = []
   · subst hne;obtain rfl:us=[]:=List.eq_nil_of_length_eq_zero hlen.symm;exact qac S B cb 0 n v v' wv G w hT hU hC hBw
   · have hTo : Hid (qa S w n v ts) := hT;have hUo:Hid (qa S w n v' us):=hU;obtain ⟨va,vc,rfl,_,hvm⟩:=qa.shape n hT;obtain ⟨ua,uc,rfl,_,hum⟩:=qa.shape n hU;have hl0:0<ts.length:=List.length_pos_iff.2 hne
     have hcn:1≤cnt n ts:=by
      have:=(qa.deep n hT).len;omega
     have hlt:=hC.lt;have hap:=hC.apart
     have hne1:((ts.length:Int)==0)=false:=by
      have:(ts.length:Int)≠0:=by omega
      simpa using this
     have hne2:((ts.length:Int) != us.length)=false:=by simp[hlen]
     have hbx:=Below.alloc1 w (.cells #[.slice va ts.length vc,.slice ua us.length uc] 111);have hX:=hC.later hbx;have b0:(w.alloc (.cells #[.slice va ts.length vc,.slice ua us.length uc] 111)).cell? ⟨w.heap.size,0,none⟩=some (.slice va ts.length vc):=by simp
     have b1:(w.alloc (.cells #[.slice va ts.length vc,.slice ua us.length uc] 111)).cell? ⟨w.heap.size,1,none⟩=some (.slice ua us.length uc):=by simp
     have hsz:(w.alloc (.cells #[.slice va ts.length vc,.slice ua us.length uc] 111)).heap.size=w.heap.size+1:=by simp
     clear hT hU hlen;unfold maxLen at hvm
     go_enter Tryz.func46,Tryz.ntmps46
     go_wp2_with fail
     generalize w.alloc (.cells #[.slice va ts.length vc,.slice ua us.length uc] 111)=W0 at hbx hX b0 b1 hsz ⊢
     obtain ⟨wa,wc,rfl⟩:=hC.shape;have HS:Hid (W0.heap.size=w.heap.size+1):=hsz;have hB0:B≤W0.heap.size:=by omega
     have hszl:w.heap.size<W0.heap.size:=by omega
     clear hsz;have k2:W0.cell? ⟨cb,0,none⟩=some (.slice wa G.length wc):=by rw[cH9 hX.held];rfl
     have kf:W0.frozen? ⟨cb,0,none⟩=false:=fH9 hX.held 0;have hcb0:cb<W0.heap.size:=hX.lt;have HX:Hid (Pst B cb W0 (.slice wa G.length wc) G):=hX;clear hX hC;have hrow:(W0.alloc (.cells #[.slice va ts.length vc,.slice ua us.length uc] 111)).drew.ownsRow B 111 2 (.slice wa G.length wc) G.length (pairCells G):=HX.out.own.alloc _;have hgc:∀ j u,[Value.slice va ts.length vc,Value.slice ua us.length uc][j]?=some u→(W0.alloc (.cells #[.slice va ts.length vc,.slice ua us.length uc] 111)).drew.cell? ((⟨W0.heap.size,0,none⟩:Addr).add j)=some u:=ZV (W:=(W0.alloc (.cells #[.slice va ts.length vc,.slice ua us.length uc] 111)).drew) (by simp) (by simp)
     have HR:Hid _:=hrow;have HGC:Hid _:=hgc;clear hrow hgc;have hGl:G.length≤1048576:=by omega
     have HH:Hid (∀ w1,(W0.alloc (.cells #[.slice va ts.length vc,.slice ua us.length uc] 111)).drew.grownBy w1 (Value.slice wa G.length wc).ownBlock→w1.heap[cb]?=some (.cells #[.slice wa G.length wc] 81 (0,0))):=fun w1 hg=>YQ HX.out (Below.alloc1 W0 _).drew hg
     go_region_law (first
      | (refine qbz (by rfl) (.tmp 25) (.tmp 27) (by rfl) B (.slice wa G.length wc) G.length (pairCells G) (by simp[Act.eval]) HR.out ⟨W0.heap.size,0,none⟩ va ts.length vc ua us.length uc (by simp[Act.eval]) HGC.out hGl (by simp;omega) ?_;intro v1 w1 hown1 hgr1 hat1;obtain ⟨a1,l1,c1,rfl⟩:=J6 hown1;have hj1:=cH9 (HH.out w1 hgr1) 0;have hf1:=fH9 (HH.out w1 hgr1) 0;simp at hj1))
     all_goals
      go_wp2_with fail;go_ret;exact ⟨true,rfl,_,_,qde hne hTo.out hUo.out hBw hbx HX.out hown1 hgr1 hat1⟩
 · exact qab S B cb 0 n v v' ts us wv G w hT hU hBw hlen
end Go.Proofs.YtchkbffgancidaaGreatDoor
