/- Bundled: LineM SplM RefAttrs RefRight RefGood LineK RefPath. What each says stands ahead of it. -/
import Derived.Test.YtfplhcicbbhljaaGreatDoorBundle18
import Derived.Test.YtfplhcicbbhljaaGreatDoorBundle22
namespace Go.Proofs.YtfplhcicbbhljaaGreatDoor
open Go.RowKit
set_option maxRecDepth 100000
def wordsL:List (List UInt8):=[[102,105,114,115,116],[108,97,115,116],[98,101,102,111,114,101],[97,102,116,101,114],[100,101,108,101,116,101],[114,101,112,108,97,99,101],[118,97,108,117,101],[114,101,110,97,109,101],[115,101,116],[100,114,111,112]]
def kindAt:List (List UInt8)→Int→List UInt8→Int
 | [],_,_=>0
 | x::r,k,w=>if x=w then k else kindAt r (k+1) w
def zq (w:List UInt8):Int:=kindAt wordsL 1 w
def noOp:Opn:=⟨0,0,[],⟨#[]⟩,⟨#[]⟩⟩
def qw (k:Int)(said:List UInt8):Opn × Int :=
 if k=1∨k=2∨k=3∨k=4∨k=6 then (⟨k,0,(zp said).1,⟨#[]⟩,⟨#[]⟩⟩,(zp said).2)
 else if k=7 then (⟨k,0,[],⟨#[]⟩,qa (yg said).1⟩,(yg said).2)
 else if k=8∨k=10 then (⟨k,0,[],qa said,⟨#[]⟩⟩,0)
 else if k=9 then
  (if (Lib.cut said [61]).2.2 then (⟨k,0,[],qa (Lib.cut said [61]).1,qa (yg (Lib.cut said [61]).2.1).1⟩,(yg (Lib.cut said [61]).2.1).2) else (⟨k,0,[],⟨#[]⟩,⟨#[]⟩⟩,1))
 else (⟨k,0,[],⟨#[]⟩,⟨#[]⟩⟩,0)
def qt (s:List UInt8):List UInt8:=(Lib.cut s [32]).1
def qV (s:List UInt8):List UInt8:=(Lib.cut s [32]).2.1
def qA (s:List UInt8):List UInt8:=(Lib.cut (qV s) [32]).1
def q9 (s:List UInt8):List UInt8:=(Lib.cut (qV s) [32]).2.1
def q8 (s:List UInt8):Bool:=(Lib.cut (qV s) [32]).2.2
def qL (s:List UInt8):Opn × List St × Int :=
 if 2500<s.length then (noOp,[],1)
 else if decide (zq (qt s)=0)||(q8 s==decide (zq (qt s)=5)) then (noOp,[],1)
 else if zz (qa (qA s))≠0 then (noOp,[],zz (qa (qA s)))
 else if (qw (zq (qt s)) (q9 s)).2≠0 then (noOp,[],(qw (zq (qt s)) (q9 s)).2)
 else ((qw (zq (qt s)) (q9 s)).1,yd (qa (qA s)),0)
theorem jr (c:UInt8)(p:List UInt8):(Lib.cut p [c]).1.length≤p.length∧(Lib.cut p [c]).2.1.length≤p.length:=by
 rcases ZX c p with ⟨_,hc⟩|⟨a,b,rfl,_,hc⟩
 · rw[hc];simp
 · rw[hc];simp;omega
theorem Y3 (w:List UInt8):0≤zq w∧zq w≤10:=by
 have key:∀ (l:List (List UInt8)) (k:Int),0≤k→0≤kindAt l k w∧kindAt l k w≤k+l.length:=by
  intro l
  induction l with
  | nil=>intro k hk;simp[kindAt];omega
  | cons x r ih =>
    intro k hk;unfold kindAt
    split
    · simp;omega
    · have:=ih (k+1) (by omega);simp only[List.length_cons];omega
 have h:=key wordsL 1 (by omega)
 have e:wordsL.length=10:=rfl;unfold zq;refine ⟨h.1,?_⟩
 have key2:∀ (l:List (List UInt8)) (k:Int),0≤k→kindAt l k w=0∨kindAt l k w<k+l.length:=by
  intro l
  induction l with
  | nil=>intro k _;exact Or.inl rfl
  | cons x r ih =>
    intro k hk;unfold kindAt
    split
    · right;simp;omega
    · rcases ih (k + 1) (by omega) with h | h
      · exact Or.inl h
      · right;simp only[List.length_cons];omega
 rcases key2 wordsL 1 (by omega) with h|h<;>omega
theorem Zh (k:Nat)(s:List UInt8):Lib.splitK [32] 0 (k+1) s=if (Lib.cut s [32]).2.2 then (Lib.cut s [32]).1::Lib.splitK [32] 0 k (Lib.cut s [32]).2.1 else [s]:=by
 have hg:=Lib.index_ge s [32];rw[Lib.splitK];unfold Lib.cut
 by_cases h:0≤Lib.index s [32]
 · rw[if_neg (by simp;omega), if_pos h]
   simp
 · have e : Lib.index s [32] = -1 := by omega
   rw[if_pos (by rw[e];rfl),if_neg h]
   simp
def zJ (s:List UInt8):List (List UInt8):=if (Lib.cut s [32]).2.2 then (if q8 s then [qt s,qA s,q9 s] else [qt s,qV s]) else [s]
theorem Zt {s:List UInt8}(h:(Lib.cut s [32]).2.2=false):Lib.cut s [32]=(s,[],false):=by
 unfold Lib.cut at h ⊢
 split
 · rename_i h0;rw[if_pos h0]at h;cases h
 · rfl
theorem qaS {s:List UInt8}(hl:s.length≤1):qV s=[]:=by
 unfold qV Lib.cut
 split
 · apply List.eq_nil_of_length_eq_zero
   simp only[List.length_drop,List.length_singleton];omega
 · rfl
theorem VM (s:List UInt8):Lib.splitK [32] 0 (min 3 (s.length+1)-1) s=zJ s:=by
 unfold zJ
 by_cases h0:s.length=0
 · have : s = [] := List.eq_nil_of_length_eq_zero h0;subst this;rfl
 · by_cases h1 : s.length = 1
   · rw[show min 3 (s.length + 1) - 1 = 0 + 1 by omega, Zh]
     have hr:=qaS (s:=s) (by omega)
     have hm:q8 s=false:=by unfold q8;rw[hr];rfl
     rw[hm];rfl
   · rw[show min 3 (s.length + 1) - 1 = 1 + 1 by omega, Zh]
     cases hc:(Lib.cut s [32]).2.2 with
     | false=>rfl
     | true =>
       rw[if_pos rfl,if_pos rfl]
       show qt s::Lib.splitK [32] 0 (0+1) (qV s)=_
       rw[Zh]
       show qt s::(if q8 s then [qA s,q9 s] else [qV s])=_
       cases q8 s<;>rfl
theorem Jc (s:List UInt8):(zJ s)[0]?=some (qt s):=by
 unfold zJ qt;cases hc:(Lib.cut s [32]).2.2 with
 | false=>rw[if_neg (by decide),Zt hc];rfl
 | true=>rw[if_pos rfl];split<;>rfl
theorem Jd (s:List UInt8):(1<(zJ s).length→(zJ s)[1]?=some (qA s))∧((zJ s).length≤1→qA s=[]):=by
 unfold zJ;cases hc:(Lib.cut s [32]).2.2 with
 | false =>
   rw[if_neg (by decide)]
   refine ⟨fun h=>absurd h (by simp),fun _=>?_⟩
   unfold qA qV;rw[Zt hc];rfl
 | true =>
   rw[if_pos rfl];cases hm:q8 s with
   | true=>rw[if_pos rfl];exact ⟨fun _=>rfl,fun h=>absurd h (by simp)⟩
   | false =>
     rw[if_neg (by decide)]
     refine ⟨fun _=>?_,fun h=>absurd h (by simp)⟩
     unfold qA;rw[Zt hm];rfl
theorem qaL (s:List UInt8):decide ((zJ s).length=3)=q8 s∧(q8 s=true→(zJ s)[2]?=some (q9 s)):=by
 unfold zJ;cases hc:(Lib.cut s [32]).2.2 with
 | false =>
   have hm:q8 s=false:=by unfold q8 qV;rw[Zt hc];rfl
   rw[hm];exact ⟨rfl,fun h=>by cases h⟩
 | true =>
   rw[if_pos rfl];cases hm:q8 s with
   | true=>exact ⟨rfl,fun _=>rfl⟩
   | false=>exact ⟨rfl,fun h=>by cases h⟩
def jB (k:Int)(said:List UInt8):Opn × Int :=
 if k=1∨k=2∨k=3∨k=4∨k=6 then (⟨k,0,(jP said).1,⟨#[]⟩,⟨#[]⟩⟩,(jP said).2)
 else if k=7 then (⟨k,0,[],⟨#[]⟩,qa (jj said).1⟩,(jj said).2)
 else if k=8∨k=10 then (⟨k,0,[],qa said,⟨#[]⟩⟩,0)
 else if k=9 then
  (if Lib.indexByte said 61<0 then (noOp,1) else (⟨k,0,[],qa (said.take (Lib.indexByte said 61).toNat),qa (jj (said.drop ((Lib.indexByte said 61).toNat+1))).1⟩,(jj (said.drop ((Lib.indexByte said 61).toNat+1))).2))
 else (⟨k,0,[],⟨#[]⟩,⟨#[]⟩⟩,0)
theorem XN {k:Int}(h:k=8∨k=10)(D:List UInt8):jB k D=(⟨k,0,[],qa D,⟨#[]⟩⟩,0):=by
 rcases h with rfl|rfl<;>rfl
theorem XO (D:List UInt8):jB 7 D=(⟨7,0,[],⟨#[]⟩,qa (jj D).1⟩,(jj D).2):=rfl
theorem KK (D:List UInt8):jB 9 D=if Lib.indexByte D 61<0 then (noOp,1) else (⟨9,0,[],qa (D.take (Lib.indexByte D 61).toNat),qa (jj (D.drop ((Lib.indexByte D 61).toNat+1))).1⟩,(jj (D.drop ((Lib.indexByte D 61).toNat+1))).2):=rfl
theorem XM {k:Int}(h:k=1∨k=2∨k=3∨k=4∨k=6)(D:List UInt8):jB k D=(⟨k,0,(jP D).1,⟨#[]⟩,⟨#[]⟩⟩,(jP D).2):=if_pos h
def qdG (s:List UInt8):Opn × List St × Int :=
 if decide (zq (qt s)=0)||decide (2500<s.length) then (noOp,[],1)
 else if zz (qa (qA s))≠0 then (noOp,[],zz (qa (qA s)))
 else if q8 s==decide (zq (qt s)=5) then (noOp,[],1)
 else if (jB (zq (qt s)) (q9 s)).2≠0 then (noOp,[],(jB (zq (qt s)) (q9 s)).2)
 else ((jB (zq (qt s)) (q9 s)).1,yd (qa (qA s)),0)
theorem KL (k:Int)(said:List UInt8):(jB k said).2=(qw k said).2∧((qw k said).2=0→(jB k said).1=(qw k said).1):=by
 unfold jB qw;rw[V9,Jw]
 by_cases h1:k=1∨k=2∨k=3∨k=4∨k=6
 · rw[if_pos h1,if_pos h1];exact ⟨rfl,fun _=>rfl⟩
 rw[if_neg h1,if_neg h1]
 by_cases h7:k=7
 · rw[if_pos h7,if_pos h7];exact ⟨rfl,fun _=>rfl⟩
 rw[if_neg h7,if_neg h7]
 by_cases h8:k=8∨k=10
 · rw[if_pos h8,if_pos h8];exact ⟨rfl,fun _=>rfl⟩
 rw[if_neg h8,if_neg h8]
 by_cases h9:k=9
 · rw[if_pos h9, if_pos h9];have hi:=Lib.index_one said 61;unfold Lib.cut;rw[hi]
   by_cases hn:0≤Lib.indexByte said 61
   · rw[if_neg (by omega), if_pos hn, if_pos rfl]
     simp only[List.length_singleton];rw[Jw];exact ⟨rfl,fun _=>rfl⟩
   · rw[if_pos (by omega), if_neg hn]
     exact ⟨rfl,fun h=>by cases h⟩
 rw[if_neg h9,if_neg h9];exact ⟨rfl,fun _=>rfl⟩
theorem qaI (s:ByteArray):zz s=0∨zz s=1:=by
 unfold zz
 split<;>simp
theorem qcc (s:List UInt8):qdG s=qL s:=by
 unfold qdG qL;obtain ⟨h1,h2⟩:=KL (zq (qt s)) (q9 s)
 by_cases hl:2500<s.length
 · rw[if_pos hl,if_pos (by simp[hl])]
 rw[if_neg hl]
 by_cases hk:zq (qt s)=0
 · rw[if_pos (by simp[hk]),if_pos (by simp[hk])]
 rw[if_neg (by simp[hk,hl])]
 rw[h1]
 by_cases hm:(q8 s==decide (zq (qt s)=5))=true
 · have hR : (decide (zq (qt s) = 0) || (q8 s == decide (zq (qt s) = 5))) = true := by rw[hm];simp
   rw[if_pos hR]
   by_cases hp:zz (qa (qA s))≠0
   · rw[if_pos hp]
     rcases qaI (qa (qA s)) with h|h
     · exact absurd h hp
     · rw[h]
   · rw[if_neg hp,if_pos hm]
 · have hR:¬ (decide (zq (qt s)=0)||(q8 s==decide (zq (qt s)=5)))=true:=by
    rw[Bool.or_eq_true,decide_eq_true_eq];exact fun h=>h.elim hk hm
   rw[if_neg hR,if_neg hm]
   by_cases hp:zz (qa (qA s))≠0
   · rw[if_pos hp,if_pos hp]
   · rw[if_neg hp, if_neg hp]
     by_cases hc:(qw (zq (qt s)) (q9 s)).2≠0
     · rw[if_pos hc,if_pos hc]
     · rw[if_neg hc,if_neg hc,h2 (by simpa using hc)]
end Go.Proofs.YtfplhcicbbhljaaGreatDoor
namespace Go.Proofs.YtfplhcicbbhljaaGreatDoor
open Go.ChangeShapes Go.WideShapes Go.ChangeAt Go.RowKit
set_option maxRecDepth 100000
section
theorem less_not:∀ a b:List UInt8,(Op.bytesLess a b||a==b)=!(Op.bytesLess b a)
 | [],[]=>by simp[Op.bytesLess]
 | [],y::r=>by simp[Op.bytesLess]
 | x::q,[]=>by simp[Op.bytesLess]
 | x :: q, y :: r => by
   have ih:=less_not q r;simp only[Op.bytesLess]
   by_cases h:x=y
   · subst h;simp only[List.cons_beq_cons,UInt8.lt_irrefl,decide_false,Bool.false_or,beq_self_eq_true,Bool.true_and];exact ih
   · have h' : (x == y) = false := by simpa using h
     have h2:(y==x)=false:=by simpa using fun e=>h e.symm
     simp only[List.cons_beq_cons,h',h2,Bool.false_and,Bool.or_false]
     have:(y<x)↔¬ (x<y):=by
      rw[UInt8.lt_iff_toNat_lt,UInt8.lt_iff_toNat_lt];have hn:x.toNat≠y.toNat:=fun e=>h (UInt8.toNat_inj.1 e)
      omega
     by_cases hxy:x<y
     · have : ¬ (y < x) := fun e => (this.1 e) hxy
       simp[hxy,this]
     · have := this.2 hxy;simp[hxy,this]
theorem qff (t:TypeId)(a b:ByteArray):binOp .leq t (.string a) (.string b)=pure (.bool (!(Op.bytesLess b.toList a.toList))):=by
 simp only[binOp,Op.stringOp,less_not]
attribute [local go_sem] qff
def Q1 (l:List (ByteArray × ByteArray)):Nat→ByteArray
 | 0=>⟨#[]⟩
 | j+1=>match l[j]? with|none=>⟨#[]⟩|some y=>y.1
theorem qfE {l:List (ByteArray × ByteArray)}{k:Nat}{x:ByteArray × ByteArray}(hx:l[k]?=some x)(hn:qM x.1=true)(hp:qN x.2=true) :
 okA l k=Op.bytesLess (Q1 l k).toList x.1.toList:=by
 unfold okA;rw[hx];simp only[hn,hp,Bool.true_and];cases k with
 | zero =>
   show true=Op.bytesLess (Q1 l 0).toList x.1.toList
   have h0:(Q1 l 0).toList=[]:=by show (⟨#[]⟩:ByteArray).toList=[];rw[ByteArray.toList_eq]
   rw[h0];cases hl:x.1.toList with
   | cons a r=>rfl
   | nil =>
     rw[ByteArray.toList_eq]at hl
     have:x.1.size=0:=by
      have h1:x.1.data.toList.length=0:=by rw[hl];rfl
      simpa using h1
     simp[qM,this]at hn
 | succ j =>
   have hj:j+1<l.length:=(List.getElem?_eq_some_iff.1 hx).1;have hy:l[j]?=some (l[j]'(by omega)):=by simp
   simp only[Q1,hy]
theorem qat {l:List (ByteArray × ByteArray)}{k:Nat}{x:ByteArray × ByteArray}(hx:l[k]?=some x):Q1 l (k+1)=x.1:=by
 simp[Q1,hx]
theorem K9 (S:Nat→Prop)(v:Value)(l:List (ByteArray × ByteArray))(w:World)(h:qm S w v l)(hl:∀ x∈l,x.1.size≤maxLen∧x.2.size≤maxLen) :
 Calls Tryz.prog 105 #[v] w fun e w'=>e=.returned (.bool (q7 l))∧Below w.heap.size w w':=by
 obtain ⟨a,cap,rfl,hle,hm,h5⟩:=h;unfold maxLen at hm
 go_enter Tryz.func105,Tryz.ntmps105
 go_wp2_with fail
 go_loopg [3,8] l.length (fun g z i wr=>∃ k:Nat,k+g=l.length∧z=.string (Q1 l k)∧i=.int .i64 k∧(∀ i,i<k→okA l i=true)∧Below w.heap.size w wr)
 case atStart => exact ⟨0,by omega,rfl,rfl,fun i hi=>by omega,Below.refl _ _⟩
 case round =>
  obtain ⟨k,hk,rfl,rfl,hok,hB⟩:=hrel;have HO:Hid (∀ i,i<k→okA l i=true):=hok;clear hok
  by_cases hlt:k<l.length
  · have hne : l ≠ [] := by intro e;subst e;simp at hlt
    obtain ⟨b,o,rfl,hs,hcc⟩:=h5 hne;obtain ⟨x,hx⟩:∃ x,l[k]?=some x:=⟨l[k],by simp[hlt]⟩
    obtain ⟨c0,c1⟩:=hcc k x hx;have hbl:b<w.heap.size:=World.block_lt_of_cell? w _ c0;rw[←hB.cell (p:=⟨b,o+k*2,none⟩) hbl]at c0
    rw[←hB.cell (p:=⟨b,o+k*2+1,none⟩) hbl]at c1
    have hsz:=hB.size;have hblr:b<wr.heap.size:=by omega
    have hxl:=hl x (List.mem_of_getElem? hx);have HX:Hid (l[k]?=some x):=hx
    have next:okA l k=true→∀ i,i<k+1→okA l i=true:=by
     intro h i hi
     by_cases hik:i=k
     · rw[hik];exact h
     · exact HO.out i (by omega)
    have HN:Hid (okA l k=true→∀ i,i<k+1→okA l i=true):=next;have HL:Hid (Q1 l (k+1)=x.1):=qat hx;clear hx next;have hB1:Below w.heap.size w (wr.alloc (.cells #[.string x.1,.string x.2] 93)):=hB.alloc hsz _;have e0:(wr.alloc (.cells #[.string x.1,.string x.2] 93)).cell? ⟨wr.heap.size,0,none⟩=some (.string x.1):=by simp
    have e1:(wr.alloc (.cells #[.string x.1,.string x.2] 93)).cell? ⟨wr.heap.size,1,none⟩=some (.string x.2):=by simp
    have es:wr.heap.size<(wr.alloc (.cells #[.string x.1,.string x.2] 93)).heap.size:=by simp
    clear h5 hcc;go_wp2_with fail
    generalize wr.alloc (.cells #[.string x.1,.string x.2] 93)=W1 at hB1 e0 e1 es ⊢
    refine (j7 x.1 W1 (by omega)).mono ?_
    rintro e W2 ⟨rfl,hb2⟩;have f0:W2.cell? ⟨wr.heap.size,0,none⟩=some (.string x.1):=by rw[hb2.cell (p:=⟨wr.heap.size,0,none⟩) es];exact e0
    have f1:W2.cell? ⟨wr.heap.size,1,none⟩=some (.string x.2):=by rw[hb2.cell (p:=⟨wr.heap.size,1,none⟩) es];exact e1
    have hB2:Below w.heap.size w W2:=hB1.trans (hb2.mono hB1.size);have fs:wr.heap.size<W2.heap.size:=by have:=hb2.size;omega
    cases hn:qM x.1 with
    | false =>
      have HK:Hid (okA l k=false):=by show _=_;unfold okA;rw[HX.out];simp[hn]
      go_wp2_with fail;go_ret;exact ⟨by rw[jY hlt HK.out];rfl,hB2⟩
    | true =>
      go_wp2_with fail;refine (QD x.2 W2 hxl.2).mono ?_;rintro e W3 ⟨rfl,hb3⟩;have g0:W3.cell? ⟨wr.heap.size,0,none⟩=some (.string x.1):=by rw[hb3.cell (p:=⟨wr.heap.size,0,none⟩) fs];exact f0
      have hB3:Below w.heap.size w W3:=hB2.trans (hb3.mono hB2.size);cases hp:qN x.2 with
      | false =>
        have HK:Hid (okA l k=false):=by show _=_;unfold okA;rw[HX.out];simp[hp]
        go_wp2_with fail;go_ret;exact ⟨by rw[jY hlt HK.out];rfl,hB3⟩
      | true =>
        have HK:Hid (okA l k=Op.bytesLess (Q1 l k).toList x.1.toList):=qfE HX.out hn hp;cases hlss:Op.bytesLess (Q1 l k).toList x.1.toList with
        | false =>
          go_wp2_with fail;go_ret;exact ⟨by rw[jY hlt (HK.out.trans hlss)];rfl,hB3⟩
        | true =>
          go_wp2_with fail
          go_roundg (l.length-(k+1))
          case measure => omega
          case rel => exact ⟨k+1,by omega,by rw[HL.out],by go_num,HN.out (HK.out.trans hlss),hB3⟩
  · have HT:Hid ((List.range l.length).all (okA l)=true):=by
     show _=_
     simp only[List.all_eq_true,List.mem_range];exact fun i hi=>HO.out i (by omega)
    by_cases h4:l.length≤4
    · go_wp2_with fail;go_ret;exact ⟨by simp[q7,HT.out,h4];omega,hB⟩
    · go_wp2_with fail;go_ret;exact ⟨by simp[q7,h4];omega,hB⟩
end
def Zn (n:Nat):Prop:=∀ (S:Nat→Prop)(v:Value)(ts:List Tr)(w:World),qb S w n v ts→TexN n ts →
 Calls Tryz.prog 71 #[v] w fun e w'=>e=.returned (.bool (rgt n ts))∧Below w.heap.size w w'
theorem right_zero:Zn 0:=by
 intro S v ts w h _;obtain ⟨rfl,a,cap,rfl,hm⟩:=h;unfold maxLen at hm
 go_enter Tryz.func71,Tryz.ntmps71
 go_wp2_with fail
 go_loopg [8] 0 (fun _ i wr=>i=.int .i64 0∧wr=w)
 case atStart => exact ⟨rfl,rfl⟩
 case round =>
  obtain ⟨rfl,rfl⟩:=hrel;go_wp2_with fail;go_ret;exact ⟨rfl,Below.refl _ _⟩
theorem JQ {l:List Tr}{k:Nat}{t:Tr}(h:l[k]?=some t):zk l (k+1)=t.text:=by simp[zk,h]
set_option maxHeartbeats 1000000 in
theorem qaV (n:Nat)(h:Zn n):Zn (n+1):=by
 intro S v ts w h1 htx;have H:Hid (Zn n):=h;have HTx:Hid (TexN (n+1) ts):=htx;clear h htx;obtain ⟨a,cap,rfl,hle,hm,h4⟩:=h1;unfold maxLen at hm
 go_enter Tryz.func71,Tryz.ntmps71
 go_wp2_with fail
 go_loopg [3,8] ts.length (fun g p i wr=>∃ k:Nat,k+g=ts.length∧p=.bool (zk ts k)∧i=.int .i64 k∧rgt (n+1) ts=rgL (rgt n) (zk ts k) (ts.drop k)∧Below w.heap.size w wr)
 case atStart => exact ⟨0,by omega,rfl,rfl,rfl,Below.refl _ _⟩
 case round =>
  obtain ⟨k,hk,rfl,rfl,hrg,hB⟩:=hrel;have hsz:=hB.size
  by_cases hlt:k<ts.length
  · have hne : ts ≠ [] := by intro e;subst e;simp at hlt
    obtain ⟨b,o,rfl,hs,hcc⟩:=h4 hne;obtain ⟨t,ht⟩:∃ t,ts[k]?=some t:=⟨ts[k],by simp[hlt]⟩
    obtain ⟨va,vk,c0,c1,c2,c3,hat,hkt⟩:=hcc k t ht;obtain ⟨aa,ac,rfl⟩:=hat.shape;obtain ⟨ka,kc,rfl,_,hkm⟩:=qb.shape n hkt;have hbl:b<w.heap.size:=World.block_lt_of_cell? w _ c0;rw[←hB.cell (p:=⟨b,o+k*4,none⟩) hbl]at c0
    rw[←hB.cell (p:=⟨b,o+k*4+1,none⟩) hbl]at c1
    rw[←hB.cell (p:=⟨b,o+k*4+2,none⟩) hbl]at c2
    rw[←hB.cell (p:=⟨b,o+k*4+3,none⟩) hbl]at c3
    have hblr:b<wr.heap.size:=by omega
    have hdr:ts.drop k=t::ts.drop (k+1):=by
     rw[List.drop_eq_getElem_cons hlt];congr 1;simpa[hlt] using ht
    have HP:Hid (zk ts (k+1)=t.text):=JQ ht;obtain ⟨hts,hta,htk⟩:=HTx.out t (List.mem_of_getElem? ht);rw[hdr]at hrg
    have HR:Hid (rgt (n+1) ts=(qz t&&!(zk ts k&&t.text)&&(t.text||rgt n t.kids)&&rgL (rgt n) t.text (ts.drop (k+1)))):=hrg
    have HA:Hid (qm S w (.slice aa t.attrs.length ac) t.attrs):=hat;have HK:Hid (qb S w n (.slice ka t.kids.length kc) t.kids):=hkt;have HTA:Hid (∀ x∈t.attrs,x.1.size≤maxLen∧x.2.size≤maxLen):=hta;have HTK:Hid (TexN n t.kids):=htk;clear h4 hcc ht hdr hrg hat hkt hta htk;unfold maxLen at hkm
    cases htt:t.text with
    | true =>
      rw[htt]at c0
      have HPn:Hid (zk ts (k+1)=true):=HP.out.trans htt;have hB1:Below w.heap.size w (wr.alloc (.cells #[.bool true,.string t.s,.slice aa t.attrs.length ac,.slice ka t.kids.length kc] 79)):=hB.alloc hsz _;have hX1:=Jz.start wr (.bool true) (.string t.s) (.slice aa t.attrs.length ac) (.slice ka t.kids.length kc) 79;cases hpt:zk ts k with
      | true =>
        have HF:Hid (rgt (n+1) ts=false):=by show _=_;rw[HR.out,htt,hpt];simp
        clear HR HP htt;go_wp2_with fail;go_ret;exact ⟨by rw[HF.out];rfl,hB1⟩
      | false =>
        cases he:t.s.toList.isEmpty with
        | true =>
          have HF:Hid (rgt (n+1) ts=false):=by show _=_;rw[HR.out,htt];simp[qz,htt,he]
          clear HR HP htt;go_wp2_with fail;go_ret;exact ⟨by rw[HF.out];rfl,hB1⟩
        | false =>
          have HR2:Hid (rgt (n+1) ts=(qN t.s&&decide (t.attrs.length=0)&&decide (t.kids.length=0)&&rgL (rgt n) true (ts.drop (k+1)))):=by
           show _=_;rw[HR.out,hpt,htt];simp[qz,htt,he]
          clear HR HP htt;go_wp2_with fail
          generalize wr.alloc (.cells #[.bool true,.string t.s,.slice aa t.attrs.length ac,.slice ka t.kids.length kc] 79)=W1 at hB1 hX1 ⊢
          refine (QD t.s W1 hts).mono ?_;rintro e W2 ⟨rfl,hb2⟩;have hX2:=hX1.later hb2 hX1.lt;have hB2:Below w.heap.size w W2:=hB1.trans (hb2.mono hB1.size);have f0:=hX2.at0;have f2:=hX2.at2;have f3:=hX2.at3;cases hp:qN t.s with
          | false =>
            have HF:Hid (rgt (n+1) ts=false):=by show _=_;rw[HR2.out,hp];simp
            clear HR2;go_wp2_with fail;go_ret;exact ⟨by rw[HF.out];rfl,hB2⟩
          | true =>
            by_cases hal:t.attrs.length=0
            · have hal' : ((t.attrs.length : Int) != 0) = false := by simp[hal]
              have HL:Hid (t.attrs.length=0):=hal;clear hal
              by_cases hkl:t.kids.length=0
              · have hkl' : ((t.kids.length : Int) != 0) = false := by simp[hkl]
                have HF:Hid (rgt (n+1) ts=rgL (rgt n) true (ts.drop (k+1))):=by show _=_;rw[HR2.out,hp,HL.out,hkl];simp
                clear HR2 hkl;go_wp2_with fail
                go_roundg (ts.length-(k+1))
                case measure => omega
                case rel => exact ⟨k+1,by omega,by rw[HPn.out],by go_num,by rw[HPn.out];exact HF.out,hB2⟩
              · have hkl' : ((t.kids.length : Int) != 0) = true := by rw[bne_iff_ne];omega
                have HF:Hid (rgt (n+1) ts=false):=by show _=_;rw[HR2.out];simp[hkl]
                clear HR2 hkl;go_wp2_with fail;go_ret;exact ⟨by rw[HF.out];rfl,hB2⟩
            · have hal' : ((t.attrs.length : Int) != 0) = true := by rw[bne_iff_ne];omega
              have HF:Hid (rgt (n+1) ts=false):=by show _=_;rw[HR2.out];simp[hal]
              clear HR2 hal;go_wp2_with fail;go_ret;exact ⟨by rw[HF.out];rfl,hB2⟩
    | false =>
      rw[htt]at c0
      have HPn:Hid (zk ts (k+1)=false):=HP.out.trans htt
      have HR2:Hid (rgt (n+1) ts=(qM t.s&&q7 t.attrs&&rgt n t.kids&&rgL (rgt n) false (ts.drop (k+1)))):=by
       show _=_;rw[HR.out,htt];simp[qz,htt]
      have hB1:Below w.heap.size w (wr.alloc (.cells #[.bool false,.string t.s,.slice aa t.attrs.length ac,.slice ka t.kids.length kc] 79)):=hB.alloc hsz _;have hX1:=Jz.start wr (.bool false) (.string t.s) (.slice aa t.attrs.length ac) (.slice ka t.kids.length kc) 79;clear HR HP htt;go_wp2_with fail
      generalize wr.alloc (.cells #[.bool false,.string t.s,.slice aa t.attrs.length ac,.slice ka t.kids.length kc] 79)=W1 at hB1 hX1 ⊢
      refine (j7 t.s W1 (by omega)).mono ?_
      rintro e W2 ⟨rfl,hb2⟩;have hX2:=hX1.later hb2 hX1.lt;have hB2:Below w.heap.size w W2:=hB1.trans (hb2.mono hB1.size);have f2:=hX2.at2;cases hn:qM t.s with
      | false =>
        have HF:Hid (rgt (n+1) ts=false):=by show _=_;rw[HR2.out,hn];simp
        clear HR2;go_wp2_with fail;go_ret;exact ⟨by rw[HF.out];rfl,hB2⟩
      | true =>
        go_wp2_with fail;refine (K9 S _ t.attrs W2 (HA.out.later hB2) HTA.out).mono ?_;rintro e W3 ⟨rfl,hb3⟩;have hX3:=hX2.later hb3 hX2.lt;have hB3:Below w.heap.size w W3:=hB2.trans (hb3.mono hB2.size);have g3:=hX3.at3;cases ha:q7 t.attrs with
        | false =>
          have HF:Hid (rgt (n+1) ts=false):=by show _=_;rw[HR2.out,ha];simp
          clear HR2;go_wp2_with fail;go_ret;exact ⟨by rw[HF.out];rfl,hB3⟩
        | true =>
          go_wp2_with fail;refine (H.out S _ t.kids W3 (qb.later hB3 n HK.out) HTK.out).mono ?_;rintro e W4 ⟨rfl,hb4⟩;have hX4:=hX3.later hb4 hX3.lt;have hB4:Below w.heap.size w W4:=hB3.trans (hb4.mono hB3.size);have i0:=hX4.at0;cases hr:rgt n t.kids with
          | false =>
            have HF:Hid (rgt (n+1) ts=false):=by show _=_;rw[HR2.out,hr];simp
            clear HR2;go_wp2_with fail;go_ret;exact ⟨by rw[HF.out];rfl,hB4⟩
          | true =>
            have HF:Hid (rgt (n+1) ts=rgL (rgt n) false (ts.drop (k+1))):=by show _=_;rw[HR2.out,hn,ha,hr];simp
            clear HR2;go_wp2_with fail
            go_roundg (ts.length-(k+1))
            case measure => omega
            case rel => exact ⟨k+1,by omega,by rw[HPn.out],by go_num,by rw[HPn.out];exact HF.out,hB4⟩
  · have hd : ts.drop k = [] := List.drop_eq_nil_of_le (by omega)
    rw[hd]at hrg
    have HR:Hid (rgt (n+1) ts=true):=hrg;clear hrg hd;go_wp2_with fail;go_ret;exact ⟨by rw[HR.out];rfl,hB⟩
theorem qcz (n:Nat):Zn n:=by
 induction n with
 | zero=>exact right_zero
 | succ n ih=>exact qaV n ih
theorem KP (n:Nat)(ts:List Tr)(k:Nat):cnt n (ts.take k)≤cnt n ts:=by
 have h:cnt n ts=cnt n (ts.take k)+cnt n (ts.drop k):=by rw[←zd,List.take_append_drop]
 omega
theorem qeF (n:Nat){ts:List Tr}{t:Tr}(h:t∈ts):dep (n+1) [t]≤dep (n+1) ts:=by
 obtain ⟨a,b,rfl⟩:=List.append_of_mem h;have e:a++t::b=a++([t]++b):=rfl;rw[e,yw,yw];omega
set_option maxHeartbeats 1000000 in
theorem JM (S:Nat→Prop)(n:Nat)(v:Value)(ts:List Tr)(w:World)(h:qb S w (n+1) v ts)(hc:cnt (n+1) ts≤1048576)(hx:TexN (n+1) ts) :
 Calls Tryz.prog 38 #[v] w fun e w'=>e=.returned (.bool (qF ts))∧Below w.heap.size w w':=by
 have HG:Hid (qF ts=(decide (dep (n+1) ts≤8)&&decide (cnt (n+1) ts≤80)&&rgt (n+1) ts)):=Qv (qb.deep (n+1) h);have HT:Hid (qb S w (n+1) v ts):=h;have HX:Hid (TexN (n+1) ts):=hx;clear hx;obtain ⟨a,cap,rfl,hle,hm,h4⟩:=h;unfold maxLen at hm
 go_enter Tryz.func38,Tryz.ntmps38
 go_wp2_with fail
 go_loopg [3,10] ts.length (fun g c i wr=>∃ (k:Nat) (cc:Nat),k+g=ts.length∧c=.int .i64 (cc:Int)∧cc=cnt (n+1) (ts.take k)∧i=.int .i64 k∧dep (n+1) (ts.take k)≤8∧Below w.heap.size w wr)
 case atStart => exact ⟨0,0,by omega,rfl,by rw[List.take_zero,qR],rfl,by rw[List.take_zero,yN];omega,Below.refl _ _⟩
 case round =>
  obtain ⟨k,cc,hk,rfl,hcc0,rfl,hdk,hB⟩:=hrel;have hsz:=hB.size;have hcb:cc≤1048576:=by have:=KP (n+1) ts k;omega
  have HCC:Hid (cc=cnt (n+1) (ts.take k)):=hcc0;have HDK:Hid (dep (n+1) (ts.take k)≤8):=hdk;clear hcc0 hdk
  by_cases hlt:k<ts.length
  · have hne : ts ≠ [] := by intro e;subst e;simp at hlt
    obtain ⟨b,o,rfl,hs,hcc⟩:=h4 hne;obtain ⟨t,ht⟩:∃ t,ts[k]?=some t:=⟨ts[k],by simp[hlt]⟩
    obtain ⟨va,vk,c0,c1,c2,c3,hat,hkt⟩:=hcc k t ht;obtain ⟨aa,ac,rfl⟩:=hat.shape;obtain ⟨ka,kc,rfl,_,hkm⟩:=qb.shape n hkt;have hbl:b<w.heap.size:=World.block_lt_of_cell? w _ c0;rw[←hB.cell (p:=⟨b,o+k*4,none⟩) hbl]at c0
    rw[←hB.cell (p:=⟨b,o+k*4+1,none⟩) hbl]at c1
    rw[←hB.cell (p:=⟨b,o+k*4+2,none⟩) hbl]at c2
    rw[←hB.cell (p:=⟨b,o+k*4+3,none⟩) hbl]at c3
    have hblr:b<wr.heap.size:=by omega
    have hsn:ts.take (k+1)=ts.take k++[t]:=by
     rw[List.take_succ_eq_append_getElem hlt];congr 2;simpa[hlt] using ht
    have hct:=KP (n+1) ts (k+1);rw[hsn,zd,←HCC.out]at hct
    have hB1:Below w.heap.size w (wr.alloc (.cells #[.bool t.text,.string t.s,.slice aa t.attrs.length ac,.slice ka t.kids.length kc] 79)):=hB.alloc hsz _;have HSz:=qa2 S n (.slice aa t.attrs.length ac) (.slice ka t.kids.length kc) t _ (hat.later hB1) (qb.later hB1 n hkt) (by omega)
    have hmem:t∈ts:=List.mem_of_getElem? ht;have HM:Hid (dep (n+1) [t]≤dep (n+1) ts):=qeF n hmem;have HC1:Hid (cnt (n+1) (ts.take (k+1))=cc+cnt (n+1) [t]):=by show _=_;rw[hsn,zd,←HCC.out]
    have HD1:Hid (dep (n+1) (ts.take (k+1))=max (dep (n+1) (ts.take k)) (dep (n+1) [t])):=by show _=_;rw[hsn,yw]
    have hDC:=dep_cnt (n+1) [t];have HS2:Hid _:=HSz;clear HSz h4 hcc ht hsn hat hkt hmem;obtain ⟨D,hD⟩:∃ D,dep (n+1) [t]=D:=⟨_,rfl⟩;obtain ⟨C,hC⟩:∃ C,cnt (n+1) [t]=C:=⟨_,rfl⟩;rw[hD,hC]at HS2 hDC
    rw[hC]at HC1 hct
    rw[hD]at HD1 HM
    clear hD hC;go_wp2_with fail;refine (Calls.mono HS2.out ?_);rintro e W2 ⟨rfl,hb2⟩;have hB2:Below w.heap.size w W2:=hB1.trans (hb2.mono hB1.size)
    by_cases hd8:8<D
    · have HF:Hid (qF ts=false):=by
       show _=_
       rw[HG.out];have:¬ dep (n+1) ts≤8:=by have:=HM.out;omega
       simp[this]
      go_wp2_with fail;go_ret;exact ⟨by rw[HF.out];rfl,hB2⟩
    · go_wp2_with fail
      go_roundg (ts.length-(k+1))
      case measure => omega
      case rel => exact ⟨k+1,cc+C,by omega,by go_num,HC1.out.symm,by go_num,by rw[HD1.out];have:=HDK.out;omega,hB2⟩
  · have hkk : k = ts.length := by omega
    subst hkk;rw[List.take_length]at HCC HDK
    by_cases h80:cc≤80
    · have HF:Hid (qF ts=rgt (n+1) ts):=by
       show _=_
       rw[HG.out];have h1:dep (n+1) ts≤8:=HDK.out;have h2:cnt (n+1) ts≤80:=by have:=HCC.out;omega
       simp[h1,h2]
      go_wp2_with fail;refine (qcz (n+1) S _ ts wr (qb.later hB (n+1) HT.out) HX.out).mono ?_;rintro e W2 ⟨rfl,hb2⟩;have hB2:Below w.heap.size w W2:=hB.trans (hb2.mono hB.size);go_wp2_with fail;go_ret;exact ⟨by rw[HF.out];rfl,hB2⟩
    · have HF:Hid (qF ts=false):=by
       show _=_
       rw[HG.out];have h2:¬ cnt (n+1) ts≤80:=by have:=HCC.out;omega
       simp[h2]
      go_wp2_with fail;go_ret;exact ⟨by rw[HF.out];rfl,hB⟩
section
attribute [local go_sem] qd
def J6 (w:World):Prop:=w.cell? ⟨0,0,none⟩=some (.string ⟨#[102,105,114,115,116]⟩)∧w.cell? ⟨0,1,none⟩=some (.string ⟨#[108,97,115,116]⟩)∧w.cell? ⟨0,2,none⟩=some (.string ⟨#[98,101,102,111,114,101]⟩)∧w.cell? ⟨0,3,none⟩=some (.string ⟨#[97,102,116,101,114]⟩)∧w.cell? ⟨0,4,none⟩=some (.string ⟨#[100,101,108,101,116,101]⟩)∧w.cell? ⟨0,5,none⟩=some (.string ⟨#[114,101,112,108,97,99,101]⟩)∧w.cell? ⟨0,6,none⟩=some (.string ⟨#[118,97,108,117,101]⟩)∧w.cell? ⟨0,7,none⟩=some (.string ⟨#[114,101,110,97,109,101]⟩)∧w.cell? ⟨0,8,none⟩=some (.string ⟨#[115,101,116]⟩)∧w.cell? ⟨0,9,none⟩=some (.string ⟨#[100,114,111,112]⟩)
structure jp (w:World):Prop where
 marks:zn w
 path:XI w
 words:J6 w
theorem J6.later {w w':World}(h:J6 w)(hb:Below w.heap.size w w'):J6 w':=by
 obtain ⟨h0,h1,h2,h3,h4,h5,h6,h7,h8,h9⟩:=h;have hl:=World.block_lt_of_cell? w _ h0;exact ⟨(hb.cell (p:=⟨0,0,none⟩) hl).trans h0,(hb.cell (p:=⟨0,1,none⟩) hl).trans h1,(hb.cell (p:=⟨0,2,none⟩) hl).trans h2,(hb.cell (p:=⟨0,3,none⟩) hl).trans h3,(hb.cell (p:=⟨0,4,none⟩) hl).trans h4,(hb.cell (p:=⟨0,5,none⟩) hl).trans h5,(hb.cell (p:=⟨0,6,none⟩) hl).trans h6,(hb.cell (p:=⟨0,7,none⟩) hl).trans h7,(hb.cell (p:=⟨0,8,none⟩) hl).trans h8,(hb.cell (p:=⟨0,9,none⟩) hl).trans h9⟩
theorem jp.later {w w':World}(h:jp w)(hb:Below w.heap.size w w'):jp w':=⟨h.marks.later hb h.marks.lt,h.path.later hb,h.words.later hb⟩
theorem qdw (k:Nat)(b:ByteArray)(h:(#[.string ⟨#[102,105,114,115,116]⟩,.string ⟨#[108,97,115,116]⟩,.string ⟨#[98,101,102,111,114,101]⟩,.string ⟨#[97,102,116,101,114]⟩,.string ⟨#[100,101,108,101,116,101]⟩,.string ⟨#[114,101,112,108,97,99,101]⟩,.string ⟨#[118,97,108,117,101]⟩,.string ⟨#[114,101,110,97,109,101]⟩,.string ⟨#[115,101,116]⟩,.string ⟨#[100,114,111,112]⟩]:Array Value)[k]?=some (.string b))(hk:k<10)(w:World) :
 (Instr.index 62 (.agg #[.string ⟨#[102,105,114,115,116]⟩,.string ⟨#[108,97,115,116]⟩,.string ⟨#[98,101,102,111,114,101]⟩,.string ⟨#[97,102,116,101,114]⟩,.string ⟨#[100,101,108,101,116,101]⟩,.string ⟨#[114,101,112,108,97,99,101]⟩,.string ⟨#[118,97,108,117,101]⟩,.string ⟨#[114,101,110,97,109,101]⟩,.string ⟨#[115,101,116]⟩,.string ⟨#[100,114,111,112]⟩]) (.int .i64 (k:Int))).run Tryz.prog w=.ok (.string b) w:=by
 rcases (by omega:k=0∨k=1∨k=2∨k=3∨k=4∨k=5∨k=6∨k=7∨k=8∨k=9) with rfl|rfl|rfl|rfl|rfl|rfl|rfl|rfl|rfl|rfl<;>(cases h;rfl)
theorem qfl (k:Nat)(x:List UInt8)(h:wordsL[k]?=some x):(#[.string ⟨#[102,105,114,115,116]⟩,.string ⟨#[108,97,115,116]⟩,.string ⟨#[98,101,102,111,114,101]⟩,.string ⟨#[97,102,116,101,114]⟩,.string ⟨#[100,101,108,101,116,101]⟩,.string ⟨#[114,101,112,108,97,99,101]⟩,.string ⟨#[118,97,108,117,101]⟩,.string ⟨#[114,101,110,97,109,101]⟩,.string ⟨#[115,101,116]⟩,.string ⟨#[100,114,111,112]⟩]:Array Value)[k]?=some (.string (qa x)):=by
 have hk:=qj h;have hk2:k<10:=hk
 rcases (by omega:k=0∨k=1∨k=2∨k=3∨k=4∨k=5∨k=6∨k=7∨k=8∨k=9) with rfl|rfl|rfl|rfl|rfl|rfl|rfl|rfl|rfl|rfl<;>(cases h;rfl)
set_option maxHeartbeats 1000000 in
theorem qas (wd:ByteArray)(w:World)(hW:J6 w) :
 Calls Tryz.prog 10 #[.string wd] w fun e w'=>e=.returned (.int .i64 (zq wd.data.toList))∧w'=w:=by
 obtain ⟨h0,h1,h2,h3,h4,h5,h6,h7,h8,h9⟩:=hW
 go_enter Tryz.func10,Tryz.ntmps10
 go_wp2_with fail;clear h0 h1 h2 h3 h4 h5 h6 h7 h8 h9
 go_loopg [6] 10 (fun g i wr=>∃ k:Nat,k+g=10∧i=.int .i64 k∧kindAt (wordsL.drop k) (k+1) wd.data.toList=zq wd.data.toList∧wr=w)
 case atStart => exact ⟨0,by omega,rfl,rfl,rfl⟩
 case round =>
  obtain ⟨k,hk,rfl,hkd,rfl⟩:=hrel;have HKD:Hid _:=hkd;clear hkd
  by_cases hlt:k<10
  · have hlti : (k : Int) < 10 := by omega
    obtain ⟨x,hx⟩:∃ x,wordsL[k]?=some x:=⟨wordsL[k]'(by show k<10;omega),by simp⟩
    have hix:=qdw k (qa x) (qfl k x hx) hlt
    have hdr:wordsL.drop k=x::wordsL.drop (k+1):=by
     rw[List.drop_eq_getElem_cons (by show k<10;omega)];congr 1
     have hk10:k<wordsL.length:=hlt
     simpa[hk10] using hx
    rw[hdr]at HKD
    have hwr:IntKind.i64.wrap (1+(k:Int))=(k:Int)+1:=by rw[IntWalk.i64_in _ (by omega)];omega
    have hq:((qa x).toList==wd.toList)=decide (x=wd.data.toList):=by
     rw[qD,ByteArray.toList_eq]
     by_cases h:x=wd.data.toList<;>simp[h]
    clear hx hdr
    by_cases hxe:x=wd.data.toList
    · have hqt : ((qa x).toList == wd.toList) = true := by rw[hq];simpa using hxe
      have HE:Hid (zq wd.data.toList=(k:Int)+1):=by
       show _=_
       rw[←HKD.out,kindAt,if_pos hxe]
      clear hq hxe;go_wp2_with fail;go_ret;exact ⟨by rw[HE.out];rfl,rfl⟩
    · have hqt : ((qa x).toList == wd.toList) = false := by rw[hq];simpa using hxe
      have HE:Hid (kindAt (wordsL.drop (k+1)) ((k:Int)+1+1) wd.data.toList=zq wd.data.toList):=by
       show _=_
       rw[←HKD.out,kindAt,if_neg hxe]
      clear hq hxe;go_wp2_with fail
      go_roundg (10-(k+1))
      case measure => omega
      case rel => exact ⟨k+1,by omega,by go_num,by have:=HE.out;simpa using this,rfl⟩
  · have hlti : ¬ ((k : Int) < 10) := by omega
    have HE:Hid (zq wd.data.toList=0):=by
     show _=_
     rw[←HKD.out,List.drop_eq_nil_of_le (by show 10≤k;omega)]
     rfl
    go_wp2_with fail;go_ret;exact ⟨by rw[HE.out];rfl,rfl⟩
end
section
attribute [local go_sem] qd
theorem qcq (l:List St):yj l=(l.all zg&&(decide (0<l.length)&&decide (l.length<6))):=by
 unfold yj;have e1:decide (1≤l.length)=decide (0<l.length):=rfl;have e2:decide (l.length≤5)=decide (l.length<6):=by rw[decide_eq_decide];omega
 rw[e1,e2,Bool.and_comm]
set_option maxHeartbeats 2000000 in
theorem qaq (S:Nat→Prop)(v:Value)(l:List St)(w:World)(h:qC S w v l)(hn:xn l) :
 Calls Tryz.prog 33 #[v] w fun e w'=>e=.returned (.bool (yj l))∧Below w.heap.size w w':=by
 have HP:Hid (yj l=(l.all zg&&(decide (0<l.length)&&decide (l.length<6)))):=qcq l;have HL:Hid (qC S w v l):=h;have HN:Hid (xn l):=hn;obtain ⟨a,cap,rfl,hlc,hcm⟩:=h.shape;unfold maxLen at hcm
 clear h hn
 go_enter Tryz.func33,Tryz.ntmps33
 go_wp2_with fail
 go_loopg [7] l.length (fun g j wr=>∃ (i:Nat),i+g=l.length∧j=.int .i64 (i:Int)∧Below w.heap.size w wr∧l.all zg=(l.drop i).all zg)
 case atStart => exact ⟨0,by omega,rfl,Below.refl _ _,rfl⟩
 case round =>
  obtain ⟨i,hi,rfl,hB,hA⟩:=hrel;have HA:Hid (l.all zg=(l.drop i).all zg):=hA;clear hA;have hsz:=hB.size
  by_cases hil:i<l.length
  · obtain ⟨s, hs⟩ : ∃ s, l[i]? = some s := ⟨l[i], by simp[hil]⟩
    obtain ⟨b,o,c2,hv,_,_,e0,e1⟩:=(HL.out.later hB).at hs
    injection hv with hv1 hvl hv2
    subst hv1 hv2;clear hvl
    have hdr:l.drop i=s::l.drop (i+1):=by
     rw[List.drop_eq_getElem_cons hil];congr 1;simpa[hil] using hs
    have HD:Hid ((l.drop i).all zg=(zg s&&(l.drop (i+1)).all zg)):=by show _=_;rw[hdr];rfl
    have HF:Hid (zg s=(decide (0≤s.n)&&decide (s.n≤99)&&(decide (s.name=⟨#[]⟩)||decide (s.name=⟨#[42]⟩)||qM s.name))):=rfl
    have HNM:Hid (∀ W,Calls Tryz.prog 62 #[.string s.name] W fun e w'=>e=.returned (.bool (qM s.name))∧Below W.heap.size W w'):=fun W=>j7 s.name W (HN.out s (List.mem_of_getElem? hs))
    have hili:(i:Int)<(l.length:Int):=by omega
    have hb1:=hB.alloc hsz (.cells #[.string s.name,.int .i64 s.n] 50);clear hs hdr
    have KF:zg s=false→Hid (yj l=false):=by
     intro hq
     show _=_
     rw[HP.out,HA.out,HD.out,hq];rfl
    have KT:zg s=true→Hid (l.all zg=(l.drop (i+1)).all zg):=by
     intro hq
     show _=_
     rw[HA.out,HD.out,hq];rfl
    by_cases h0:s.n<0
    · have HE := KF (by rw[HF.out];simp[show ¬ 0 ≤ s.n by omega])
      clear KF KT HF;go_wp2_with fail;go_ret;exact ⟨by rw[HE.out];rfl,hb1⟩
    · by_cases h99 : 99 < s.n
      · have HE := KF (by rw[HF.out];simp[show ¬ s.n ≤ 99 by omega])
        clear KF KT HF;go_wp2_with fail;go_ret;exact ⟨by rw[HE.out];rfl,hb1⟩
      · have h1 : 0 ≤ s.n := by omega
        have h2:s.n≤99:=by omega
        by_cases he:s.name=⟨#[]⟩
        · have hl1 : s.name.toList = [] := (zl _ _).2 he;have HE:=KT (by rw[HF.out];simp[h1,h2,he])
          clear KF KT HF he;go_wp2_with fail
          go_roundg (l.length-(i+1))
          case measure => omega
          case rel => exact ⟨i+1,by omega,by go_num,hb1,HE.out⟩
        · have hl1 : ¬ s.name.toList = [] := fun e => he ((zl _ _).1 e)
          by_cases hst:s.name=⟨#[42]⟩
          · have hl2 : s.name.toList = [42] := (zl _ _).2 hst;have HE:=KT (by rw[HF.out];simp[h1,h2,hst])
            clear KF KT HF he hst hl1;go_wp2_with fail
            go_roundg (l.length-(i+1))
            case measure => omega
            case rel => exact ⟨i+1,by omega,by go_num,hb1,HE.out⟩
          · have hl2 : ¬ s.name.toList = [42] := fun e => hst ((zl _ _).1 e)
            have hl3:s.name.toList.isEmpty=false:=by simpa using hl1
            have hl4:(s.name.toList==[42])=false:=by simpa using hl2
            cases hq:qM s.name with
            | true =>
              have HE:=KT (by rw[HF.out];simp[h1,h2,hq])
              rw[hq]at HNM
              clear KF KT HF he hst hq;go_wp2_with fail;refine (Calls.mono (HNM.out _) ?_);rintro e w3 ⟨rfl,hb3⟩;go_wp2_with fail
              go_roundg (l.length-(i+1))
              case measure => omega
              case rel => exact ⟨i+1,by omega,by go_num,hb1.trans (hb3.mono hb1.size),HE.out⟩
            | false =>
              have HE:=KF (by rw[HF.out];simp[he,hst,hq])
              rw[hq]at HNM
              clear KF KT HF he hst hq;go_wp2_with fail;refine (Calls.mono (HNM.out _) ?_);rintro e w3 ⟨rfl,hb3⟩;go_wp2_with fail;go_ret;exact ⟨by rw[HE.out];rfl,hb1.trans (hb3.mono hb1.size)⟩
  · have hili : ¬ (i : Int) < (l.length : Int) := by omega
    have HE:Hid (yj l=(decide (0<l.length)&&decide (l.length<6))):=by show _=_;rw[HP.out,HA.out,List.drop_of_length_le (by omega)];rfl
    clear HP HA
    by_cases hp:0<l.length
    · have hpi : (0 : Int) < (l.length : Int) := by omega
      have HE2:Hid (yj l=decide ((l.length:Int)<6)):=by
       show _=_
       rw[HE.out];simp only[hp,decide_true,Bool.true_and];rw[decide_eq_decide];omega
      clear HE;go_wp2_with fail;go_ret;exact ⟨by rw[HE2.out];rfl,hB⟩
    · have hpi : ¬ (0 : Int) < (l.length : Int) := by omega
      have HE2:Hid (yj l=false):=by show _=_;rw[HE.out];simp[hp]
      clear HE;go_wp2_with fail;go_ret;exact ⟨by rw[HE2.out];rfl,hB⟩
set_option maxHeartbeats 2000000 in
theorem JX (S T:Nat→Prop)(va vb:Value)(l:List St)(w:World)(h1:qC S w va l)(h2:qC T w vb l) :
 Calls Tryz.prog 7 #[va,vb] w fun e w'=>e=.returned (.bool true)∧Below w.heap.size w w':=by
 have H1:Hid (qC S w va l):=h1;have H2:Hid (qC T w vb l):=h2;obtain ⟨a,ca,rfl,_,hcm⟩:=h1.shape;obtain ⟨b,cb,rfl,_,hcm2⟩:=h2.shape;unfold maxLen at hcm hcm2
 clear h1 h2
 go_enter Tryz.func7,Tryz.ntmps7
 go_wp2_with fail
 go_loopg [13] l.length (fun g j wr=>∃ (i:Nat),i+g=l.length∧j=.int .i64 (i:Int)∧Below w.heap.size w wr)
 case atStart => exact ⟨0,by omega,rfl,Below.refl _ _⟩
 case round =>
  obtain ⟨i,hi,rfl,hB⟩:=hrel
  by_cases hil:i<l.length
  · obtain ⟨s, hs⟩ : ∃ s, l[i]? = some s := ⟨l[i], by simp[hil]⟩
    obtain ⟨b1,o1,c1,hv1,_,hbw1,e0,e1⟩:=(H1.out.later hB).at hs
    injection hv1 with hv1 hvl hv2
    subst hv1 hv2;clear hvl;obtain ⟨b2,o2,c2,hv3,_,hbw2,g0,g1⟩:=(H2.out.later hB).at hs
    injection hv3 with hv3 hvl hv4
    subst hv3 hv4;clear hvl hs;have hili:(i:Int)<(l.length:Int):=by omega
    have hbn:Below wr.heap.size wr wr.drew:=(Below.refl _ _).drew
    have HC:Hid (∀ W,Below wr.heap.size wr W→Below wr.heap.size wr W∧W.cell? ⟨b1,o1+i*2,none⟩=some (.string s.name)∧W.cell? ⟨b1,o1+i*2+1,none⟩=some (.int .i64 s.n)∧W.cell? ⟨b2,o2+i*2,none⟩=some (.string s.name)∧W.cell? ⟨b2,o2+i*2+1,none⟩=some (.int .i64 s.n)):=by
     intro W h;refine ⟨h,?_,?_,?_,?_⟩
     · rw[h.cell (p:=⟨b1,o1+i*2,none⟩) hbw1];exact e0
     · rw[h.cell (p:=⟨b1,o1+i*2+1,none⟩) hbw1];exact e1
     · rw[h.cell (p:=⟨b2,o2+i*2,none⟩) hbw2];exact g0
     · rw[h.cell (p:=⟨b2,o2+i*2+1,none⟩) hbw2];exact g1
    go_wp2_with fail
    go_region_held3 (fun W:World=>Below wr.heap.size wr W∧W.cell? ⟨b1,o1+i*2,none⟩=some (.string s.name)∧W.cell? ⟨b1,o1+i*2+1,none⟩=some (.int .i64 s.n)∧W.cell? ⟨b2,o2+i*2,none⟩=some (.string s.name)∧W.cell? ⟨b2,o2+i*2+1,none⟩=some (.int .i64 s.n))
     (with_reducible exact HC.out _ hbn)
     (fail)
    go_wp2_with fail
    go_roundg (l.length-(i+1))
    case measure => omega
    case rel => exact ⟨i+1,by omega,by go_num,hB.trans (hbn.mono hB.size)⟩
  · have hili : ¬ (i : Int) < (l.length : Int) := by omega
    go_wp2_with fail;go_ret;exact ⟨rfl,hB⟩
end
end Go.Proofs.YtfplhcicbbhljaaGreatDoor
