/- Bundled: RefParse ParsesK. What each says stands ahead of it. -/
import Derived.Test.YtfdbipeidmpciaaDoorPathparses15
import Derived.Test.YtfdbipeidmpciaaDoorPathparses17
import Derived.Deep.CutBlock
namespace Go.Proofs.YtfdbipeidmpciaaDoor
open Go.ChangeShapes Go.WideShapes Go.ChangeAt Go.RowKit
set_option maxRecDepth 100000
section
attribute [local go_sem] qf
theorem q7 {s:ByteArray}{k:Nat}(h:k<s.size):s.data.toList.drop k=s[k]::s.data.toList.drop (k+1):=by
 rw[List.drop_eq_getElem_cons (by rw[qO];exact h)]
 rfl
theorem jW {s:ByteArray}{k:Nat}(h:s.size≤k):s.data.toList.drop k=[]:=List.drop_of_length_le (by rw[qO];exact h)
theorem qbb {p:UInt8→Bool}{s:ByteArray}{k:Nat}(h:k<s.size)(hp:p s[k]=true):(s.data.toList.drop k).takeWhile p=s[k]::(s.data.toList.drop (k+1)).takeWhile p∧(s.data.toList.drop k).dropWhile p=(s.data.toList.drop (k+1)).dropWhile p:=by
 rw[q7 h];simp[hp]
theorem K6 {p:UInt8→Bool}{s:ByteArray}{k:Nat}(h:k<s.size)(hp:p s[k]=false):(s.data.toList.drop k).takeWhile p=[]∧(s.data.toList.drop k).dropWhile p=s.data.toList.drop k:=by
 rw[q7 h];simp[hp]
theorem qba {p:UInt8→Bool}{s:ByteArray}{k:Nat}(h:s.size≤k):(s.data.toList.drop k).takeWhile p=[]∧(s.data.toList.drop k).dropWhile p=s.data.toList.drop k:=by
 rw[jW h];exact ⟨rfl,rfl⟩
theorem J4 {r:List UInt8}(h:∀ c t,r=c::t→c≠42∧c≠35):zV r=if r.takeWhile qh=[] then none else some (r.takeWhile qh,r.dropWhile qh):=by
 cases r with
 | nil=>rfl
 | cons c t =>
   obtain ⟨h1,h2⟩:=h c t rfl;simp only[zV];rw[if_neg h1,if_neg h2]
theorem Z8 (B s:ByteArray){k:Nat}(h:k<s.size):(B++s.extract k (k+1)).data.toList=B.data.toList++[s[k]]:=by
 have e:(s.extract k (k+1)).data.toList=[s[k]]:=by
  rw[ByteArray.data_extract,Array.toList_extract];rw[List.extract_eq_take_drop];rw[show k+1-k=1 by omega]
  have:=q7 h;rw[this];rfl
 rw[ByteArray.data_append,Array.toList_append,e]
def qP (s:ByteArray):Int:=if (ye s.data.toList).isSome then 0 else 1
def qQ (s:ByteArray):List St:=asS ((ye s.data.toList).getD [])
theorem zF {s:ByteArray}{k:Nat}{h:k<s.size}{n:Nat}(hn:n<256):(s[k].toNat:Int)=(n:Int)↔s[k]=UInt8.ofNat n:=by
 constructor
 · intro e
   apply UInt8.toNat_inj.1
   rw[UInt8.toNat_ofNat'];omega
 · intro e;rw[e,UInt8.toNat_ofNat'];omega
theorem qbG (ds:List UInt8):zY ds≤1000:=by
 unfold zY
 have:∀ (l:List UInt8) (x:Nat),x≤1000→l.foldl (fun x c=>min (10*x+(c.toNat-48)) 1000) x≤1000:=by
  intro l
  induction l with
  | nil=>intro x h;exact h
  | cons c l ih=>intro x _;exact ih _ (Nat.min_le_right _ _)
 exact this ds 0 (by omega)
theorem qb9 {x:Int}(h0:0≤x)(h1:x<256):IntKind.u8.wrap x=x:=by
 unfold IntKind.wrap;simp[IntKind.bits,IntKind.signed];omega
theorem zG (W:World):Calls Tryd.prog 80 #[] W fun e w'=>e=.returned (.tuple #[.slice none 0 0,.int .i64 1])∧w'=W:=by
 go_enter Tryd.func80,Tryd.ntmps80
 go_wp2_with fail
 go_ret2
 exact ⟨rfl,rfl⟩
set_option maxHeartbeats 8000000 in
theorem ZS (s:ByteArray)(w:World)(hs:s.size≤maxLen) :
 Calls Tryd.prog 49 #[.string s] w fun e w'=>∃ v,e=.returned (.tuple #[v,.int .i64 (qP s)])∧zh (fun b=>w.heap.size≤b) w' v (qQ s)∧Below w.heap.size w w':=by
 unfold maxLen at hs
 have HNO:Hid (ye s.data.toList=none→qP s=1∧qQ s=[]):=by
  intro h;unfold qP qQ;rw[h];exact ⟨rfl,rfl⟩
 have HPT:Hid (ye s.data.toList=if s.size≤2500∧s.data.toList≠[] then (match goT s.size s.data.toList with|none=>none|some l=>if yb l=true then some l else none) else none):=by
  show _=_
  unfold ye;rw[qO]
  split
  · cases goT s.size s.data.toList<;>rfl
  · rfl
 by_cases h25:2500<s.size
 · have HE2 : Hid (qP s = 1 ∧ qQ s = []) := HNO.out (by rw[HPT.out, if_neg (by omega)])
   have h25i:(2500:Int)<(s.size:Int):=by omega
   have HBN:Below w.heap.size w w:=Below.refl _ _;clear HPT HNO
   go_enter Tryd.func49,Tryd.ntmps49
   go_wp2_with (go_at_call 80;refine (Calls.mono (zG _) ?_);rintro e wn ⟨rfl,rfl⟩)
   go_ret2
   exact ⟨_,by rw[HE2.out.1];rfl,by rw[HE2.out.2];exact ⟨none,0,rfl,nR9 _,nZ9 _,fun h=>absurd rfl h⟩,HBN⟩
 · have h25i : ¬ (2500 : Int) < (s.size : Int) := by omega
   by_cases hem:s.size=0
   · have hlem : s.data.toList = [] := List.eq_nil_of_length_eq_zero (by rw[qO];exact hem)
     have HE2:Hid (qP s=1∧qQ s=[]):=HNO.out (by rw[HPT.out,if_neg (by simp[hlem])])
     have hse:s.toList=[]:=by rw[ByteArray.toList_eq];exact hlem
     have HBN:Below w.heap.size w w:=Below.refl _ _;clear HPT HNO hlem hem
     go_enter Tryd.func49,Tryd.ntmps49
     go_wp2_with (go_at_call 80;refine (Calls.mono (zG _) ?_);rintro e wn ⟨rfl,rfl⟩)
     go_ret2
     exact ⟨_,by rw[HE2.out.1];rfl,by rw[HE2.out.2];exact ⟨none,0,rfl,nR9 _,nZ9 _,fun h=>absurd rfl h⟩,HBN⟩
   · have hlne : s.data.toList ≠ [] := by intro e;have := qO s;rw[e]at this;simp at this;omega
     have hse:s.toList.isEmpty=false:=by rw[ByteArray.toList_eq];simpa using hlne
     have HP2:Hid (ye s.data.toList=match goT s.size s.data.toList with|none=>none|some l=>if yb l=true then some l else none):=by show _=_;rw[HPT.out,if_pos ⟨by omega,hlne⟩]
     obtain ⟨i0,hi0,hz0,hzz1,hzz2⟩:=info_parts stepInfo;clear HPT hlne
     go_enter Tryd.func49,Tryd.ntmps49
     go_wp2_with fail
     go_loopg [6,5] s.size (fun g x o wr=>∃ (i:Nat) (acc:List PStep),s.size-i=g∧i≤s.size∧x=.int .i64 (i:Int)∧zR w.heap.size wr o (asS acc)∧acc.length≤i∧Below w.heap.size w wr∧(∃ f,(s.data.toList.drop i).length≤f∧goT s.size s.data.toList=(goT f (s.data.toList.drop i)).map (fun l=>acc++l))∧∀ y∈acc,y.1.length≤2500)
     case atStart => exact ⟨0,[],by omega,by omega,rfl,World.ownsRow_nil _ _ _ _,by simp,Below.refl _ _,⟨s.size,by rw[List.drop_zero,qO];exact nR9 _,by rw[List.drop_zero];cases goT s.size s.data.toList<;>rfl⟩,by simp⟩
     case round =>
      rename World=>wo
      obtain ⟨i,acc,hg,his,rfl,hSR,hal,hBo,⟨f,hf,hGo⟩,hsh⟩:=hrel;obtain ⟨ra,rc,rfl,_,_⟩:=hSR.shape;rw[qW]at hSR ⊢
      have HSR:Hid (zR w.heap.size wo (.slice ra acc.length rc) (asS acc)):=hSR;have HSH:Hid (∀ y∈acc,y.1.length≤2500):=hsh;have hszo:=hBo.size
      by_cases hil:i<s.size
      · have hili : (i : Int) < (s.size : Int) := by omega
        obtain ⟨f',rfl⟩:∃ f',f=f'+1:=⟨f-1,by rw[List.length_drop,qO]at hf;omega⟩
        have hf':s.size-(i+1)≤f':=by rw[List.length_drop,qO]at hf;omega
        have HGo:Hid (goT s.size s.data.toList=(goT (f'+1) (s[i]::s.data.toList.drop (i+1))).map (fun l=>acc++l)):=by show _=_;rw[hGo,q7 hil]
        clear hGo hf hSR hsh
        by_cases h47:(s[i].toNat:Int)=47
        · have h47b : s[i] = 47 := (zF (n := 47) (by decide)).1 h47
          have HG2:Hid (goT s.size s.data.toList=(match zo (s.data.toList.drop (i+1)) with|none=>none|some (st,r2)=>match goT f' r2 with|none=>none|some l=>some (st::l)).map (fun l=>acc++l)):=by
           show _=_
           rw[HGo.out,h47b];simp only[goT,if_true];rfl
          have HNX:Hid (∀ (st:PStep) (J:Nat),zo (s.data.toList.drop (i+1))=some (st,s.data.toList.drop J)→∃ f,(s.data.toList.drop J).length≤f∧goT s.size s.data.toList=(goT f (s.data.toList.drop J)).map (fun l=>(acc++[st])++l)):=by
           intro st J h;refine ⟨f',?_,?_⟩
           · have := qa3 h;simp only[List.length_drop,qO]at this ⊢
             omega
           · rw[HG2.out, h];simp only;cases goT f' (s.data.toList.drop J) with
             | none=>rfl
             | some l=>simp
          have HFAIL:Hid (zo (s.data.toList.drop (i+1))=none→qP s=1∧qQ s=[]):=by
           intro h;exact HNO.out (by rw[HP2.out,HG2.out,h];rfl)
          have HSHN:Hid (∀ st:PStep,st.1.length≤2500→∀ y∈acc++[st],y.1.length≤2500):=by
           intro st h y hy;rw[List.mem_append,List.mem_singleton]at hy
           rcases hy with hy|rfl
           · exact HSH.out y hy
           · exact h
          have hb1:=Below.alloc1 wo (.cells #[.string ⟨#[]⟩,.int .i64 0] 110);have hx1:=heap_alloc_new wo (.cells #[.string ⟨#[]⟩,.int .i64 0] 110);clear h47b HGo HG2;have hi1a:(i:Int)+1≤(s.size:Int):=by omega
          go_upto_block 2 with fail
          go_cut [6] from 20 to 164 (fun x wz=>∃ (j:Nat) (nm:ByteArray),x=.int .i64 (j:Int)∧i+1≤j∧j≤s.size∧wz.heap[wo.heap.size]?=some (.cells #[.string nm,.int .i64 0] 110 (0,0))∧Below wo.heap.size wo wz∧zV (s.data.toList.drop (i+1))=some (nm.data.toList,s.data.toList.drop j)∧nm.size≤2500)
          case first =>
           by_cases hi1:i+1<s.size
           · have hi1i : (i : Int) + 1 < (s.size : Int) := by omega
             by_cases h42:(s[i+1].toNat:Int)=42
             · have h42b : s[i + 1] = 42 := (zF (n := 42) (by decide)).1 h42
               have HNT:Hid (zV (s.data.toList.drop (i+1))=some ((⟨#[42]⟩:ByteArray).data.toList,s.data.toList.drop (i+1+1))):=by
                show _=_
                rw[q7 hi1,h42b];rfl
               have HBX:Hid _:=heap_alloc_new wo (.cells #[.string ⟨#[42]⟩,.int .i64 0] 110);have HBB:Hid _:=Below.alloc1 wo (.cells #[.string ⟨#[42]⟩,.int .i64 0] 110);clear h42b hb1 hx1;go_wp2_with fail
               go_meet
               case rel => exact ⟨i+1+1,⟨#[42]⟩,by go_num,by omega,by omega,HBX.out,HBB.out,HNT.out,by decide⟩
             · have h42b : s[i + 1] ≠ 42 := fun e => h42 ((zF (n := 42) (by decide)).2 e)
               by_cases h35:(s[i+1].toNat:Int)=35
               · have h35b : s[i + 1] = 35 := (zF (n := 35) (by decide)).1 h35
                 have HNT:Hid (zV (s.data.toList.drop (i+1))=some ((⟨#[]⟩:ByteArray).data.toList,s.data.toList.drop (i+1+1))):=by
                  show _=_
                  rw[q7 hi1,h35b];rfl
                 clear h42b h35b;go_wp2_with fail
                 go_meet
                 case rel => exact ⟨i+1+1,⟨#[]⟩,by go_num,by omega,by omega,hx1,hb1,HNT.out,by decide⟩
               · have h35b : s[i + 1] ≠ 35 := fun e => h35 ((zF (n := 35) (by decide)).2 e)
                 have h42c:((s[i+1].toNat:Int)==42)=false:=by simpa using h42
                 have h35c:((s[i+1].toNat:Int)==35)=false:=by simpa using h35
                 have HNO2:Hid (zV (s.data.toList.drop (i+1))=if (s.data.toList.drop (i+1)).takeWhile qh=[] then none else some ((s.data.toList.drop (i+1)).takeWhile qh,(s.data.toList.drop (i+1)).dropWhile qh)):=by
                  refine J4 ?_;intro c t h;rw[q7 hi1]at h
                  injection h with h _
                  subst h;exact ⟨h42b,h35b⟩
                 clear h42b h35b;go_wp2_with fail
                 go_loopg [6] (s.size-(i+1)) (fun g x wv=>∃ (q:Nat) (nm:ByteArray),s.size-q=g∧i+1≤q∧q≤s.size∧nm.size+(i+1)=q∧x=.int .i64 (q:Int)∧wv.heap[wo.heap.size]?=some (.cells #[.string nm,.int .i64 0] 110 (0,0))∧Below wo.heap.size wo wv∧(s.data.toList.drop (i+1)).takeWhile qh=nm.data.toList++(s.data.toList.drop q).takeWhile qh∧(s.data.toList.drop (i+1)).dropWhile qh=(s.data.toList.drop q).dropWhile qh)
                 case atStart => exact ⟨i+1,⟨#[]⟩,rfl,nR9 _,by omega,by show 0+(i+1)=i+1;omega,by go_num,hx1,hb1,rfl,rfl⟩
                 case round =>
                  obtain ⟨q,nm,hgq,hq1,hq2,hnl,rfl,hbv,hBv,htw,hdw⟩:=hrel;have b0:wr.cell? ⟨wo.heap.size,0,none⟩=some (.string nm):=by rw[cH9 hbv];rfl
                  have f0:wr.frozen? ⟨wo.heap.size,0,none⟩=false:=fH9 hbv 0;have hBvw:Below w.heap.size w wr:=hBo.trans (hBv.mono hBo.size)
                  have KEX:(s.data.toList.drop q).takeWhile qh=[]∧(s.data.toList.drop q).dropWhile qh=s.data.toList.drop q→Hid (zV (s.data.toList.drop (i+1))=if nm.data.toList=[] then none else some (nm.data.toList,s.data.toList.drop q)):=by
                   intro hex
                   show _=_
                   rw[HNO2.out,htw,hdw,hex.1,hex.2,List.append_nil]
                  by_cases hql:q<s.size
                  · have hqli : (q : Int) < (s.size : Int) := by omega
                    by_cases d1:(s[q].toNat:Int)<97
                    · have hex := K6 (p := qh) hql (by simp[qh];omega)
                      have HNX2:=KEX hex;clear KEX htw hdw hex
                      by_cases hne:nm.data.toList=[]
                      · have hse2 : nm.toList = [] := by rw[ByteArray.toList_eq];exact hne
                        have HE2:Hid (qP s=1∧qQ s=[]):=HFAIL.out (by unfold zo;rw[HNX2.out,if_pos hne])
                        have HBN:=hBvw;clear hne HNX2;go_wp2_with (go_at_call 80;refine (Calls.mono (zG _) ?_);rintro e wn ⟨rfl,rfl⟩)
                        go_ret2
                        exact ⟨_,by rw[HE2.out.1];rfl,by rw[HE2.out.2];exact ⟨none,0,rfl,nR9 _,nZ9 _,fun h=>absurd rfl h⟩,HBN⟩
                      · have hse2 : nm.toList.isEmpty = false := by rw[ByteArray.toList_eq];simpa using hne
                        have hse3:¬ nm.toList=[]:=by rw[ByteArray.toList_eq];exact hne
                        have HNT2:Hid (zV (s.data.toList.drop (i+1))=some (nm.data.toList,s.data.toList.drop q)):=by show _=_;rw[HNX2.out,if_neg hne]
                        clear hne HNX2;go_wp2_with fail
                        go_meet
                        case rel => exact ⟨q,nm,rfl,hq1,hq2,hbv,hBv,HNT2.out,by omega⟩
                    · by_cases d2 : 122 < (s[q].toNat : Int)
                      · have hex := K6 (p := qh) hql (by simp[qh];omega)
                        have HNX2:=KEX hex;clear KEX htw hdw hex
                        by_cases hne:nm.data.toList=[]
                        · have hse2 : nm.toList = [] := by rw[ByteArray.toList_eq];exact hne
                          have HE2:Hid (qP s=1∧qQ s=[]):=HFAIL.out (by unfold zo;rw[HNX2.out,if_pos hne])
                          have HBN:=hBvw;clear hne HNX2;go_wp2_with (go_at_call 80;refine (Calls.mono (zG _) ?_);rintro e wn ⟨rfl,rfl⟩)
                          go_ret2
                          exact ⟨_,by rw[HE2.out.1];rfl,by rw[HE2.out.2];exact ⟨none,0,rfl,nR9 _,nZ9 _,fun h=>absurd rfl h⟩,HBN⟩
                        · have hse2 : nm.toList.isEmpty = false := by rw[ByteArray.toList_eq];simpa using hne
                          have hse3:¬ nm.toList=[]:=by rw[ByteArray.toList_eq];exact hne
                          have HNT2:Hid (zV (s.data.toList.drop (i+1))=some (nm.data.toList,s.data.toList.drop q)):=by show _=_;rw[HNX2.out,if_neg hne]
                          clear hne HNX2;go_wp2_with fail
                          go_meet
                          case rel => exact ⟨q,nm,rfl,hq1,hq2,hbv,hBv,HNT2.out,by omega⟩
                      · obtain ⟨y1, y2⟩ := qbb (p := qh) hql (by simp[qh];omega)
                        have HTW2:Hid ((s.data.toList.drop (i+1)).takeWhile qh=(nm++s.extract q (q+1)).data.toList++(s.data.toList.drop (q+1)).takeWhile qh):=by show _=_;rw[htw,y1,Z8 nm s hql];simp
                        have HDW2:Hid ((s.data.toList.drop (i+1)).dropWhile qh=(s.data.toList.drop (q+1)).dropWhile qh):=by show _=_;rw[hdw,y2]
                        have HNL2:Hid ((nm++s.extract q (q+1)).size=nm.size+1):=by
                         show _=_
                         rw[←qO,Z8 nm s hql,List.length_append,qO];rfl
                        have hq0:(0:Int)≤(q:Int):=by omega
                        have hq3:(q:Int)≤(q:Int)+1:=by omega
                        have hq4:(q:Int)+1≤(s.size:Int):=by omega
                        have hcat:nm.size+1≤2501:=by omega
                        clear htw hdw y1 y2 KEX;go_wp2_with fail
                        go_region
                        go_wp2_with fail
                        go_roundg (s.size-(q+1))
                        case measure => omega
                        case rel => exact ⟨q+1,nm++s.extract q (q+1),rfl,by omega,by omega,by rw[HNL2.out];omega,by go_num,by show (wr.setCell ⟨wo.heap.size,0,none⟩ (.string (nm++s.extract q (q+1)))).heap[wo.heap.size]?=_;simp[World.setCell,Array.getElem?_modify,hbv],(hBv.drew).setCell (p:=⟨wo.heap.size,0,none⟩) (nR9 _) _,HTW2.out,HDW2.out⟩
                  · have hqli : ¬ ((q : Int) < (s.size : Int)) := by omega
                    have hex:=qba (p:=qh) (s:=s) (k:=q) (by omega)
                    have HNX2:=KEX hex;clear KEX htw hdw hex
                    by_cases hne:nm.data.toList=[]
                    · have hse2 : nm.toList = [] := by rw[ByteArray.toList_eq];exact hne
                      have HE2:Hid (qP s=1∧qQ s=[]):=HFAIL.out (by unfold zo;rw[HNX2.out,if_pos hne])
                      have HBN:=hBvw;clear hne HNX2;go_wp2_with (go_at_call 80;refine (Calls.mono (zG _) ?_);rintro e wn ⟨rfl,rfl⟩)
                      go_ret2
                      exact ⟨_,by rw[HE2.out.1];rfl,by rw[HE2.out.2];exact ⟨none,0,rfl,nR9 _,nZ9 _,fun h=>absurd rfl h⟩,HBN⟩
                    · have hse2 : nm.toList.isEmpty = false := by rw[ByteArray.toList_eq];simpa using hne
                      have hse3:¬ nm.toList=[]:=by rw[ByteArray.toList_eq];exact hne
                      have HNT2:Hid (zV (s.data.toList.drop (i+1))=some (nm.data.toList,s.data.toList.drop q)):=by show _=_;rw[HNX2.out,if_neg hne]
                      clear hne HNX2;go_wp2_with fail
                      go_meet
                      case rel => exact ⟨q,nm,rfl,hq1,hq2,hbv,hBv,HNT2.out,by omega⟩
           · have hi1i : ¬ ((i : Int) + 1 < (s.size : Int)) := by omega
             have HNO2:Hid (zV (s.data.toList.drop (i+1))=none):=by show _=_;rw[jW (by omega)];rfl
             have HE2:Hid (qP s=1∧qQ s=[]):=HFAIL.out (by unfold zo;rw[HNO2.out])
             have HBN:Below w.heap.size w (wo.alloc (.cells #[.string ⟨#[]⟩,.int .i64 0] 110)):=hBo.trans (hb1.mono hBo.size);go_wp2_with fail
             go_loopg [6] 1 (fun g x wv=>g=1∧x=.int .i64 ((i:Int)+1)∧wv=wo.alloc (.cells #[.string ⟨#[]⟩,.int .i64 0] 110))
             case atStart => exact ⟨rfl,rfl,rfl⟩
             case round =>
              obtain ⟨_,rfl,rfl⟩:=hrel;go_wp2_with (go_at_call 80;refine (Calls.mono (zG _) ?_);rintro e wn ⟨rfl,rfl⟩)
              go_ret2
              exact ⟨_,by rw[HE2.out.1];rfl,by rw[HE2.out.2];exact ⟨none,0,rfl,nR9 _,nZ9 _,fun h=>absurd rfl h⟩,HBN⟩
          case rest =>
           obtain ⟨j,nm,rfl,hj1,hj2,hbox,hBZ,hNT,hnml⟩:=hcut;have HNT:Hid (zV (s.data.toList.drop (i+1))=some (nm.data.toList,s.data.toList.drop j)):=hNT;clear hNT hb1 hx1
           by_cases hjl:j<s.size
           · have hjli : (j : Int) < (s.size : Int) := by omega
             by_cases h91:(s[j].toNat:Int)=91
             · have h91b : s[j] = 91 := (zF (n := 91) (by decide)).1 h91
               have HD91:Hid (s.data.toList.drop j=91::s.data.toList.drop (j+1)):=by show _=_;rw[q7 hjl,h91b]
               have HSTN:Hid (((s.data.toList.drop (j+1)).takeWhile qA=[]∨((s.data.toList.drop (j+1)).takeWhile qA).head?=some 48∨((s.data.toList.drop (j+1)).dropWhile qA).head?≠some 93)→zo (s.data.toList.drop (i+1))=none):=by
                intro h;unfold zo;rw[HNT.out];simp only;rw[HD91.out];simp only[QP,if_true];rw[if_pos h]
               have HSTY:Hid ((s.data.toList.drop (j+1)).takeWhile qA≠[]→((s.data.toList.drop (j+1)).takeWhile qA).head?≠some 48→((s.data.toList.drop (j+1)).dropWhile qA).head?=some 93→zo (s.data.toList.drop (i+1))=some ((nm.data.toList,((zY ((s.data.toList.drop (j+1)).takeWhile qA):Nat):Int)),((s.data.toList.drop (j+1)).dropWhile qA).tail)):=by
                intro g1 g2 g3;unfold zo;rw[HNT.out];simp only;rw[HD91.out];simp only[QP,if_true];rw[if_neg (by simp[g1,g2,g3])]
               have h91c:((s[j].toNat:Int)==91)=true:=by simpa using h91
               clear h91b
               go_upto_block 5 with fail
               go_cut [6] from 20 to 164 (fun x wz=>∃ (q:Nat) (ds:List UInt8),x=.int .i64 (q:Int)∧j+1≤q∧q≤s.size∧ds.length=q-(j+1)∧wz.heap[wo.heap.size]?=some (.cells #[.string nm,.int .i64 ((zY ds:Nat):Int)] 110 (0,0))∧Below wo.heap.size wo wz∧(s.data.toList.drop (j+1)).takeWhile qA=ds∧(s.data.toList.drop (j+1)).dropWhile qA=s.data.toList.drop q)
               case first =>
                go_wp2_with fail
                go_loopg [6] (s.size-(j+1)) (fun g x wv=>∃ (q:Nat) (ds:List UInt8),s.size-q=g∧j+1≤q∧q≤s.size∧ds.length=q-(j+1)∧x=.int .i64 (q:Int)∧wv.heap[wo.heap.size]?=some (.cells #[.string nm,.int .i64 ((zY ds:Nat):Int)] 110 (0,0))∧Below wo.heap.size wo wv∧(s.data.toList.drop (j+1)).takeWhile qA=ds++(s.data.toList.drop q).takeWhile qA∧(s.data.toList.drop (j+1)).dropWhile qA=(s.data.toList.drop q).dropWhile qA)
                case atStart => exact ⟨j+1,[],rfl,nR9 _,by omega,by simp,by go_num,hbox,hBZ,rfl,rfl⟩
                case round =>
                 obtain ⟨q,ds,hgq,hq1,hq2,hdl,rfl,hbv,hBv,htw,hdw⟩:=hrel;have hsat:=qbG ds
                 by_cases hql:q<s.size
                 · have hqli : (q : Int) < (s.size : Int) := by omega
                   by_cases d1:(s[q].toNat:Int)<48
                   · have hex := K6 (p := qA) hql (by simp[qA];omega)
                     have HQ1:Hid ((s.data.toList.drop (j+1)).takeWhile qA=ds):=by show _=_;rw[htw,hex.1,List.append_nil]
                     have HQ2:Hid ((s.data.toList.drop (j+1)).dropWhile qA=s.data.toList.drop q):=by show _=_;rw[hdw,hex.2]
                     clear htw hdw hex;go_wp2_with fail
                     go_meet
                     case rel => exact ⟨q,ds,rfl,hq1,hq2,hdl,hbv,hBv,HQ1.out,HQ2.out⟩
                   · by_cases d2 : 57 < (s[q].toNat : Int)
                     · have hex := K6 (p := qA) hql (by simp[qA];omega)
                       have HQ1:Hid ((s.data.toList.drop (j+1)).takeWhile qA=ds):=by show _=_;rw[htw,hex.1,List.append_nil]
                       have HQ2:Hid ((s.data.toList.drop (j+1)).dropWhile qA=s.data.toList.drop q):=by show _=_;rw[hdw,hex.2]
                       clear htw hdw hex;go_wp2_with fail
                       go_meet
                       case rel => exact ⟨q,ds,rfl,hq1,hq2,hdl,hbv,hBv,HQ1.out,HQ2.out⟩
                     · obtain ⟨y1, y2⟩ := qbb (p := qA) hql (by simp[qA];omega)
                       have HTW2:Hid ((s.data.toList.drop (j+1)).takeWhile qA=(ds++[s[q]])++(s.data.toList.drop (q+1)).takeWhile qA):=by show _=_;rw[htw,y1];simp
                       have HDW2:Hid ((s.data.toList.drop (j+1)).dropWhile qA=(s.data.toList.drop (q+1)).dropWhile qA):=by show _=_;rw[hdw,y2]
                       have hsat2:zY (ds++[s[q]])=min (10*zY ds+(s[q].toNat-48)) 1000:=by unfold zY;rw[List.foldl_append];rfl
                       have HS2:Hid (((zY (ds++[s[q]]):Nat):Int)=min (10*((zY ds:Nat):Int)+((s[q].toNat:Int)-48)) 1000):=by show _=_;rw[hsat2];omega
                       obtain ⟨N,hN⟩:∃ N:Nat,zY ds=N:=⟨_,rfl⟩;rw[hN]at hbv hsat HS2
                       have b1:wr.cell? ⟨wo.heap.size,1,none⟩=some (.int .i64 (N:Int)):=by rw[cH9 hbv];rfl
                       have f1:wr.frozen? ⟨wo.heap.size,1,none⟩=false:=fH9 hbv 1;have hw1:IntKind.i64.wrap (10*(N:Int))=10*(N:Int):=IntWalk.i64_in _ (by omega)
                       have hw2:IntKind.u8.wrap ((s[q].toNat:Int)-48)=(s[q].toNat:Int)-48:=qb9 (by omega) (by omega)
                       have hw3:IntKind.i64.wrap ((s[q].toNat:Int)-48)=(s[q].toNat:Int)-48:=IntWalk.i64_in _ (by omega)
                       have hw4:IntKind.i64.wrap (10*(N:Int)+((s[q].toNat:Int)-48))=10*(N:Int)+((s[q].toNat:Int)-48):=IntWalk.i64_in _ (by omega)
                       clear htw hdw y1 y2 hsat2 hN;go_wp2_with fail
                       go_region
                       go_wp2_with fail
                       go_roundg (s.size-(q+1))
                       case measure => omega
                       case rel => exact ⟨q+1,ds++[s[q]],rfl,by omega,by omega,by rw[List.length_append];simp;omega,by go_num,by rw[HS2.out];show (wr.setCell ⟨wo.heap.size,1,none⟩ (.int .i64 (min (10*(N:Int)+((s[q].toNat:Int)-48)) 1000))).heap[wo.heap.size]?=_;simp[World.setCell,Array.getElem?_modify,hbv],(hBv.drew).setCell (p:=⟨wo.heap.size,1,none⟩) (nR9 _) _,HTW2.out,HDW2.out⟩
                 · have hqli : ¬ ((q : Int) < (s.size : Int)) := by omega
                   have hex:=qba (p:=qA) (s:=s) (k:=q) (by omega)
                   have HQ1:Hid ((s.data.toList.drop (j+1)).takeWhile qA=ds):=by show _=_;rw[htw,hex.1,List.append_nil]
                   have HQ2:Hid ((s.data.toList.drop (j+1)).dropWhile qA=s.data.toList.drop q):=by show _=_;rw[hdw,hex.2]
                   clear htw hdw hex;go_wp2_with fail
                   go_meet
                   case rel => exact ⟨q,ds,rfl,hq1,hq2,hdl,hbv,hBv,HQ1.out,HQ2.out⟩
               case rest =>
                obtain ⟨q,ds,rfl,hq1,hq2,hdl,hbv,hBv,hTW,hDW⟩:=hcut;have HTW:Hid ((s.data.toList.drop (j+1)).takeWhile qA=ds):=hTW;have HDW:Hid ((s.data.toList.drop (j+1)).dropWhile qA=s.data.toList.drop q):=hDW;have hBvw:Below w.heap.size w wc:=hBo.trans (hBv.mono hBo.size);clear hTW hDW hbox hBZ
                by_cases hqe:q=j+1
                · have HE2 : Hid (qP s = 1 ∧ qQ s = []) := HFAIL.out (HSTN.out (Or.inl (by rw[HTW.out];exact List.eq_nil_of_length_eq_zero (by omega))))
                  have HBN:=hBvw;have hqf:((q:Int)==(j:Int)+1)=true:=by simp;omega
                  clear hqe;go_wp2_with (go_at_call 80;refine (Calls.mono (zG _) ?_);rintro e wn ⟨rfl,rfl⟩)
                  go_ret2
                  exact ⟨_,by rw[HE2.out.1];rfl,by rw[HE2.out.2];exact ⟨none,0,rfl,nR9 _,nZ9 _,fun h=>absurd rfl h⟩,HBN⟩
                · have hqf : ((q : Int) == (j : Int) + 1) = false := by simp;omega
                  have hfs:j+1<s.size:=by omega
                  have hfsi:(j:Int)+1<(s.size:Int):=by omega
                  obtain ⟨c0,ds0,hds⟩:∃ c0 ds0,ds=c0::ds0:=by
                   cases ds with
                   | nil=>simp at hdl;omega
                   | cons c0 ds0=>exact ⟨c0,ds0,rfl⟩
                  have hc0:c0=s[j+1]:=by
                   have h1:=HTW.out;rw[q7 hfs,hds,List.takeWhile_cons]at h1
                   split at h1
                   · injection h1 with h1;exact h1.symm
                   · cases h1
                  by_cases h48:(s[j+1].toNat:Int)=48
                  · have h48b : s[j + 1] = 48 := (zF (n := 48) (by decide)).1 h48
                    have HE2:Hid (qP s=1∧qQ s=[]):=HFAIL.out (HSTN.out (Or.inr (Or.inl (by rw[HTW.out,hds,hc0,h48b];rfl))))
                    have HBN:=hBvw;clear h48b hc0 hds hqe;go_wp2_with (go_at_call 80;refine (Calls.mono (zG _) ?_);rintro e wn ⟨rfl,rfl⟩)
                    go_ret2
                    exact ⟨_,by rw[HE2.out.1];rfl,by rw[HE2.out.2];exact ⟨none,0,rfl,nR9 _,nZ9 _,fun h=>absurd rfl h⟩,HBN⟩
                  · have h48b : s[j + 1] ≠ 48 := fun e => h48 ((zF (n := 48) (by decide)).2 e)
                    have h48c:((s[j+1].toNat:Int)==48)=false:=by simpa using h48
                    have HN48:Hid ((s.data.toList.drop (j+1)).takeWhile qA≠[]∧((s.data.toList.drop (j+1)).takeWhile qA).head?≠some 48):=by
                     rw[HTW.out,hds,hc0];exact ⟨by simp,by simpa using h48b⟩
                    clear h48b hc0 hds hqe
                    by_cases hql:q<s.size
                    · have hqsz : ((q : Int) == (s.size : Int)) = false := by simp;omega
                      have hqli:(q:Int)<(s.size:Int):=by omega
                      by_cases h93:(s[q].toNat:Int)=93
                      · have h93b : s[q] = 93 := (zF (n := 93) (by decide)).1 h93
                        have HST:Hid (zo (s.data.toList.drop (i+1))=some ((nm.data.toList,((zY ds:Nat):Int)),s.data.toList.drop (q+1))):=by
                         have h1:(s.data.toList.drop (j+1)).dropWhile qA=93::s.data.toList.drop (q+1):=by rw[HDW.out,q7 hql,h93b]
                         have:=HSTY.out HN48.out.1 HN48.out.2 (by rw[h1];rfl)
                         rw[HTW.out,h1]at this
                         exact this
                        clear h93b;have b0:wc.cell? ⟨wo.heap.size,0,none⟩=some (.string nm):=by rw[cH9 hbv];rfl
                        have b1:wc.cell? ⟨wo.heap.size,1,none⟩=some (.int .i64 ((zY ds:Nat):Int)):=by rw[cH9 hbv];rfl
                        have hSZ:zR w.heap.size wc (.slice ra acc.length rc) (asS acc):=HSR.out.later hBv
                        have hownZ:wc.ownsRow w.heap.size 110 2 (.slice ra acc.length rc) acc.length (stepCells (asS acc)):=by
                         have:=hSZ;unfold zR at this
                         rw[qW]at this
                         exact this
                        have hszZ:=hBv.size;have hBZw:Below w.heap.size w wc:=hBo.trans (hBv.mono hBo.size);go_wp2_with (at_builtin;refine wpList_append_own_at _ rfl _ _ 57 rfl w.heap.size 110 i0 _ 2 24 Tryd.underlying57 hi0 hz0 hzz1 hzz2 rfl (by decide) _ _ _ rfl (hownZ.alloc _) ⟨wc.heap.size,0,none⟩ 1 1 [.string nm,.int .i64 ((zY ds:Nat):Int)] ?qc0 ?qc1 ?qc2 ?qc3 ?qc4 ?qc5 ?qc6 ?_)
                        try (case qc0=>rfl)
                        try (case qc1=>rfl)
                        try (case qc2=>exact Q1 _ _ _ _)
                        try (case qc3=>first|(intro z hz;simp at hz;rcases hz with rfl|rfl<;>rfl)|exact ⟨rfl,rfl⟩)
                        try (case qc4=>first|(unfold maxLen;omega)|omega)
                        try (case qc5=>omega)
                        try (case qc6=>first|(have:=hBZw.size;omega)|(simp;have:=hBZw.size;omega))
                        intro v' w6 hown6 hgr6 _ _;obtain ⟨ja,jl,jc,rfl⟩:=qy hown6
                        have hS6:zR w.heap.size w6 (.slice ja jl jc) (asS (acc++[(nm.data.toList,((zY ds:Nat):Int))])):=by
                         unfold zR;rw[show asS (acc++[(nm.data.toList,((zY ds:Nat):Int))])=asS acc++[⟨nm,((zY ds:Nat):Int)⟩] by simp[asS],zB,List.length_append,qW]
                         exact hown6
                        have hB6:Below w.heap.size w w6:=(hBZw.alloc hBZw.size _).grown hgr6 (by simp;have:=hBZw.size;omega) (fun z hz=>(hSZ.lt z hz).1)
                        clear hown6 hownZ hSZ;go_wp2_with fail
                        go_roundg (s.size-(q+1))
                        case measure => omega
                        case rel => exact ⟨q+1,acc++[(nm.data.toList,((zY ds:Nat):Int))],rfl,by omega,by go_num,hS6,by rw[List.length_append];simp;omega,hB6,HNX.out _ _ HST.out,HSHN.out _ (by rw[qO];exact hnml)⟩
                      · have h93b : s[q] ≠ 93 := fun e => h93 ((zF (n := 93) (by decide)).2 e)
                        have h93c:((s[q].toNat:Int) != 93)=true:=by simpa using h93
                        have HE2:Hid (qP s=1∧qQ s=[]):=HFAIL.out (HSTN.out (Or.inr (Or.inr (by rw[HDW.out,q7 hql];simpa using h93b))))
                        have HBN:=hBvw;clear h93b;go_wp2_with (go_at_call 80;refine (Calls.mono (zG _) ?_);rintro e wn ⟨rfl,rfl⟩)
                        go_ret2
                        exact ⟨_,by rw[HE2.out.1];rfl,by rw[HE2.out.2];exact ⟨none,0,rfl,nR9 _,nZ9 _,fun h=>absurd rfl h⟩,HBN⟩
                    · have HE2 : Hid (qP s = 1 ∧ qQ s = []) := HFAIL.out (HSTN.out (Or.inr (Or.inr (by rw[HDW.out, jW (by omega)];simp))))
                      have HBN:=hBvw;have hqsz:((q:Int)==(s.size:Int))=true:=by simp;omega
                      go_wp2_with (go_at_call 80;refine (Calls.mono (zG _) ?_);rintro e wn ⟨rfl,rfl⟩)
                      go_ret2
                      exact ⟨_,by rw[HE2.out.1];rfl,by rw[HE2.out.2];exact ⟨none,0,rfl,nR9 _,nZ9 _,fun h=>absurd rfl h⟩,HBN⟩
             · have h91b : s[j] ≠ 91 := fun e => h91 ((zF (n := 91) (by decide)).2 e)
               have h91c:((s[j].toNat:Int)==91)=false:=by simpa using h91
               have HST:Hid (zo (s.data.toList.drop (i+1))=some ((nm.data.toList,0),s.data.toList.drop j)):=by
                show _=_
                unfold zo;rw[HNT.out];simp only;rw[q7 hjl];simp only[QP];rw[if_neg h91b];rfl
               clear h91b;have b0:wc.cell? ⟨wo.heap.size,0,none⟩=some (.string nm):=by rw[cH9 hbox];rfl
               have b1:wc.cell? ⟨wo.heap.size,1,none⟩=some (.int .i64 0):=by rw[cH9 hbox];rfl
               have hSZ:zR w.heap.size wc (.slice ra acc.length rc) (asS acc):=HSR.out.later hBZ
               have hownZ:wc.ownsRow w.heap.size 110 2 (.slice ra acc.length rc) acc.length (stepCells (asS acc)):=by
                have:=hSZ;unfold zR at this
                rw[qW]at this
                exact this
               have hszZ:=hBZ.size;have hBZw:Below w.heap.size w wc:=hBo.trans (hBZ.mono hBo.size);go_wp2_with (at_builtin;refine wpList_append_own_at _ rfl _ _ 57 rfl w.heap.size 110 i0 _ 2 24 Tryd.underlying57 hi0 hz0 hzz1 hzz2 rfl (by decide) _ _ _ rfl (hownZ.alloc _) ⟨wc.heap.size,0,none⟩ 1 1 [.string nm,.int .i64 0] ?qc0 ?qc1 ?qc2 ?qc3 ?qc4 ?qc5 ?qc6 ?_)
               try (case qc0=>rfl)
               try (case qc1=>rfl)
               try (case qc2=>exact Q1 _ _ _ _)
               try (case qc3=>first|(intro z hz;simp at hz;rcases hz with rfl|rfl<;>rfl)|exact ⟨rfl,rfl⟩)
               try (case qc4=>first|(unfold maxLen;omega)|omega)
               try (case qc5=>omega)
               try (case qc6=>first|(have:=hBZw.size;omega)|(simp;have:=hBZw.size;omega))
               intro v' w6 hown6 hgr6 _ _;obtain ⟨ja,jl,jc,rfl⟩:=qy hown6
               have hS6:zR w.heap.size w6 (.slice ja jl jc) (asS (acc++[(nm.data.toList,0)])):=by
                unfold zR;rw[show asS (acc++[(nm.data.toList,0)])=asS acc++[⟨nm,0⟩] by simp[asS],zB,List.length_append,qW]
                exact hown6
               have hB6:Below w.heap.size w w6:=(hBZw.alloc hBZw.size _).grown hgr6 (by simp;have:=hBZw.size;omega) (fun z hz=>(hSZ.lt z hz).1)
               clear hown6 hownZ hSZ;go_wp2_with fail
               go_roundg (s.size-(j))
               case measure => omega
               case rel => exact ⟨j,acc++[(nm.data.toList,0)],rfl,by omega,by go_num,hS6,by rw[List.length_append];simp;omega,hB6,HNX.out _ _ HST.out,HSHN.out _ (by rw[qO];exact hnml)⟩
           · have hjli : ¬ ((j : Int) < (s.size : Int)) := by omega
             have hjlb:decide ((j:Int)<(s.size:Int))=false:=decide_eq_false hjli;have hjle:(s.size:Int)≤(j:Int):=by omega
             have hjeq:j=s.size:=by omega
             clear hj2 hjl
             have HST:Hid (zo (s.data.toList.drop (i+1))=some ((nm.data.toList,0),s.data.toList.drop j)):=by
              show _=_
              unfold zo;rw[HNT.out];simp only;rw[jW (by omega)]
              rfl
             have b0:wc.cell? ⟨wo.heap.size,0,none⟩=some (.string nm):=by rw[cH9 hbox];rfl
             have b1:wc.cell? ⟨wo.heap.size,1,none⟩=some (.int .i64 0):=by rw[cH9 hbox];rfl
             have hSZ:zR w.heap.size wc (.slice ra acc.length rc) (asS acc):=HSR.out.later hBZ
             have hownZ:wc.ownsRow w.heap.size 110 2 (.slice ra acc.length rc) acc.length (stepCells (asS acc)):=by
              have:=hSZ;unfold zR at this
              rw[qW]at this
              exact this
             have hszZ:=hBZ.size;have hBZw:Below w.heap.size w wc:=hBo.trans (hBZ.mono hBo.size);go_wp2_with (at_builtin;refine wpList_append_own_at _ rfl _ _ 57 rfl w.heap.size 110 i0 _ 2 24 Tryd.underlying57 hi0 hz0 hzz1 hzz2 rfl (by decide) _ _ _ rfl (hownZ.alloc _) ⟨wc.heap.size,0,none⟩ 1 1 [.string nm,.int .i64 0] ?qc0 ?qc1 ?qc2 ?qc3 ?qc4 ?qc5 ?qc6 ?_)
             try (case qc0=>rfl)
             try (case qc1=>rfl)
             try (case qc2=>exact Q1 _ _ _ _)
             try (case qc3=>first|(intro z hz;simp at hz;rcases hz with rfl|rfl<;>rfl)|exact ⟨rfl,rfl⟩)
             try (case qc4=>first|(unfold maxLen;omega)|omega)
             try (case qc5=>omega)
             try (case qc6=>first|(have:=hBZw.size;omega)|(simp;have:=hBZw.size;omega))
             intro v' w6 hown6 hgr6 _ _;obtain ⟨ja,jl,jc,rfl⟩:=qy hown6
             have hS6:zR w.heap.size w6 (.slice ja jl jc) (asS (acc++[(nm.data.toList,0)])):=by
              unfold zR;rw[show asS (acc++[(nm.data.toList,0)])=asS acc++[⟨nm,0⟩] by simp[asS],zB,List.length_append,qW]
              exact hown6
             have hB6:Below w.heap.size w w6:=(hBZw.alloc hBZw.size _).grown hgr6 (by simp;have:=hBZw.size;omega) (fun z hz=>(hSZ.lt z hz).1)
             clear hown6 hownZ hSZ;go_wp2_with fail
             go_roundg (s.size-(j))
             case measure => omega
             case rel => exact ⟨j,acc++[(nm.data.toList,0)],rfl,by omega,by go_num,hS6,by rw[List.length_append];simp;omega,hB6,HNX.out _ _ HST.out,HSHN.out _ (by rw[qO];exact hnml)⟩
        · have h47b : s[i] ≠ 47 := fun e => h47 ((zF (n := 47) (by decide)).2 e)
          have HE2:Hid (qP s=1∧qQ s=[]):=HNO.out (by rw[HP2.out,HGo.out];simp only[goT,if_neg h47b];rfl)
          have HBN:=hBo;clear h47b HGo;go_wp2_with (go_at_call 80;refine (Calls.mono (zG _) ?_);rintro e wn ⟨rfl,rfl⟩)
          go_ret2
          exact ⟨_,by rw[HE2.out.1];rfl,by rw[HE2.out.2];exact ⟨none,0,rfl,nR9 _,nZ9 _,fun h=>absurd rfl h⟩,HBN⟩
      · have hili : ¬ ((i : Int) < (s.size : Int)) := by omega
        have HG2:Hid (goT s.size s.data.toList=some acc):=by
         show _=_
         rw[hGo,jW (by omega)]
         cases f<;>simp[goT]
        have hSt:=hSR.steps
        have HPG:Hid _:=XV _ (.slice ra acc.length rc) (asS acc) wo hSt (by
         intro x hx;obtain ⟨q,hq,rfl⟩:=List.mem_map.1 hx;have:=HSH.out q hq
         show q.1.toArray.size≤maxLen
         unfold maxLen;simp;omega)
        rw[K0]at HPG
        clear hSR hGo hsh;cases hpl:yb acc with
        | false =>
          rw[hpl]at HPG
          have HE2:Hid (qP s=1∧qQ s=[]):=HNO.out (by rw[HP2.out,HG2.out];simp[hpl])
          clear hpl;go_wp2_with fail;refine (Calls.mono HPG.out ?_);rintro e w3 ⟨rfl,hb3⟩;have HBN:Below w.heap.size w w3:=hBo.trans (hb3.mono hBo.size);go_wp2_with (go_at_call 80;refine (Calls.mono (zG _) ?_);rintro e wn ⟨rfl,rfl⟩)
          go_ret2
          exact ⟨_,by rw[HE2.out.1];rfl,by rw[HE2.out.2];exact ⟨none,0,rfl,nR9 _,nZ9 _,fun h=>absurd rfl h⟩,HBN⟩
        | true =>
          rw[hpl]at HPG
          have HE2:Hid (qP s=0∧qQ s=asS acc):=by
           have:ye s.data.toList=some acc:=by rw[HP2.out,HG2.out];simp[hpl]
           unfold qP qQ;rw[this];exact ⟨rfl,rfl⟩
          clear hpl;go_wp2_with fail;refine (Calls.mono HPG.out ?_);rintro e w3 ⟨rfl,hb3⟩;go_wp2_with fail
          go_ret2
          exact ⟨_,by rw[HE2.out.1];rfl,by rw[HE2.out.2];exact hSt.later hb3,hBo.trans (hb3.mono hBo.size)⟩
end
section
attribute [local go_sem] qf
theorem Ki (w:World)(hE:QN w):Calls Tryd.prog 51 #[] w fun e w'=>e=.returned (.bool true)∧Below w.heap.size w w':=by
 have HP:Hid (Calls Tryd.prog 48 #[.string ⟨#[47,97,47,42,91,50,93,47,35]⟩] w fun e w'=>∃ v,e=.returned (.tuple #[v,.int .i64 0])∧zh (fun b=>w.heap.size≤b) w' v [⟨⟨#[97]⟩,0⟩,⟨⟨#[42]⟩,2⟩,⟨⟨#[]⟩,0⟩]∧Below w.heap.size w w'):=by
  have:=Zs ⟨#[47,97,47,42,91,50,93,47,35]⟩ w hE (by decide)
  rw[paths_parse.1,paths_parse.2]at this
  exact this
 clear hE
 go_enter Tryd.func51,Tryd.ntmps51
 go_wp2_with fail;refine (Calls.mono HP.out ?_);rintro e w2 ⟨v,rfl,hS,hb⟩;obtain ⟨b,o,cap,rfl,_,_,e0,e1⟩:=hS.at (i:=1) (x:=⟨⟨#[42]⟩,2⟩) rfl
 obtain ⟨b',o',cap',hv,_,_,g0,g1⟩:=hS.at (i:=2) (x:=⟨⟨#[]⟩,0⟩) rfl
 injection hv with hv1 _ hv2
 injection hv1 with hv1
 injection hv1 with hv3 hv4
 subst hv3 hv4 hv2;clear hS HP;simp only[List.length_cons,List.length_nil,Nat.one_mul]at *
 go_wp2_with fail;go_ret;exact ⟨rfl,hb⟩
theorem QJ (s:ByteArray):qP s=zK s∧qQ s=zL s:=by
 unfold qP zK qQ zL;rw[Kf];exact ⟨rfl,rfl⟩
set_option maxHeartbeats 1000000 in
theorem Zt (s:ByteArray)(w:World)(hs:s.size≤maxLen)(hE:QN w) :
 Calls Tryd.prog 9 #[.string s] w fun e w'=>e=.returned (.bool true)∧Below w.heap.size w w':=by
 have HP:Hid _:=Zs s w hE hs
 have HR:Hid (∀ W,Below w.heap.size w W→Calls Tryd.prog 49 #[.string s] W fun e w'=>∃ v,e=.returned (.tuple #[v,.int .i64 (zK s)])∧zh (fun b=>W.heap.size≤b) w' v (zL s)∧Below W.heap.size W w'):=by
  intro W _;have:=ZS s W hs;rw[(QJ s).1,(QJ s).2]at this
  exact this
 have HPA:Hid (∀ W,Below w.heap.size w W→Calls Tryd.prog 51 #[] W fun e w'=>e=.returned (.bool true)∧Below W.heap.size W w'):=fun W h=>Ki W (hE.later h)
 obtain ⟨E,hEE⟩:∃ E,zK s=E:=⟨_,rfl⟩;obtain ⟨V,hV⟩:∃ V,zL s=V:=⟨_,rfl⟩;rw[hEE,hV]at HP
 rw[hEE,hV]at HR
 clear hs hE hEE hV
 go_enter Tryd.func9,Tryd.ntmps9
 go_wp2_with fail;refine (Calls.mono HP.out ?_);rintro e w2 ⟨v2,rfl,hS2,hb2⟩;obtain ⟨a2,c2,rfl,_,_⟩:=hS2.shape;go_wp2_with fail;refine (Calls.mono (HR.out _ hb2) ?_);rintro e w3 ⟨v3,rfl,hS3,hb3⟩;have hB3:Below w.heap.size w w3:=hb2.trans (hb3.mono hb2.size);obtain ⟨a3,c3,rfl,_,_⟩:=hS3.shape;have HSS:Hid _:=ZZ _ _ _ _ V w3 (hS2.later hb3) hS3;clear hS2 hS3;go_wp2_with fail;refine (Calls.mono HSS.out ?_);rintro e w4 ⟨rfl,hb4⟩;have hB4:Below w.heap.size w w4:=hB3.trans (hb4.mono hB3.size);go_wp2_with fail;refine (Calls.mono (HPA.out _ hB4) ?_);rintro e w5 ⟨rfl,hb5⟩;go_wp2_with fail;go_ret;exact ⟨rfl,hB4.trans (hb5.mono hB4.size)⟩
end
end Go.Proofs.YtfdbipeidmpciaaDoor
