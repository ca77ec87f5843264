/- Bundled: FindW SetM DoM DoW OpsPut OfR SetW DropW DoK BulkM. What each says stands ahead of it. -/
import Derived.Test.YtnppmdpmippcoaaGreatDoorBundle19
import Derived.Test.YtnppmdpmippcoaaGreatDoorBundle20
namespace Go.Proofs.YtnppmdpmippcoaaGreatDoor
open Go.ChangeShapes Go.WideShapes Go.ChangeAt Go.RowKit
set_option maxRecDepth 100000
def Zf (x:ByteArray × ByteArray)(name:ByteArray):Int:=Lib.compareBytes x.1.data.toList name.data.toList
theorem qaP (x:ByteArray × ByteArray)(name:ByteArray):decide (Zf x name<0)=ltA name x:=by
 unfold ltA Zf;rw[bytes_lt,ByteArray.toList_eq,ByteArray.toList_eq]
 have:∀ a b:List UInt8,decide (Lib.compareBytes a b<0)=decide (a<b):=by
  intro a
  induction a with
  | nil =>
    intro b;cases b with
    | nil=>simp[Lib.compareBytes]
    | cons d b=>simp[Lib.compareBytes]
  | cons c a ih =>
    intro b;cases b with
    | nil=>simp[Lib.compareBytes]
    | cons d b =>
      rw[Lib.compareBytes,decide_eq_decide]
      by_cases h1:c<d
      · simp[h1,List.cons_lt_cons_iff]
      · by_cases h2 : d < c
        · have h3 : ¬ c = d := by intro e;subst e;exact h1 h2
          simp[h1,h2,h3,List.cons_lt_cons_iff]
        · have h3 : c = d := UInt8.le_antisymm (UInt8.not_lt.1 h2) (UInt8.not_lt.1 h1);subst h3;have:=ih b;rw[decide_eq_decide]at this
          simp[this]
 exact this _ _
theorem qaO (x:ByteArray × ByteArray)(name:ByteArray):decide (Zf x name=0)=decide (x.1=name):=by
 have:∀ a b:List UInt8,(Lib.compareBytes a b=0↔a=b):=by
  intro a
  induction a with
  | nil =>
    intro b;cases b with
    | nil=>simp[Lib.compareBytes]
    | cons d b=>simp[Lib.compareBytes]
  | cons c a ih =>
    intro b;cases b with
    | nil=>simp[Lib.compareBytes]
    | cons d b =>
      rw[Lib.compareBytes]
      by_cases h1:c<d
      · have h3 : ¬ c = d := by intro e;subst e;exact UInt8.lt_irrefl _ h1
        simp[h1,h3]
      · by_cases h2 : d < c
        · have h3 : ¬ c = d := by intro e;subst e;exact h1 h2
          simp[h1,h2,h3]
        · have h3 : c = d := UInt8.le_antisymm (UInt8.not_lt.1 h2) (UInt8.not_lt.1 h1);subst h3;simp[ih b]
 rw[decide_eq_decide];unfold Zf;rw[this];exact ⟨fun e=>Qz (by rw[ByteArray.toList_eq,ByteArray.toList_eq];exact e),fun e=>by rw[e]⟩
theorem qaQ (x:ByteArray × ByteArray)(name:ByteArray)(W:World) :
 Calls Tryz.prog 114 #[.agg #[.string x.1,.string x.2],.string name] W fun e w'=>e=.returned (.int .i64 (Zf x name))∧Below W.heap.size W w':=by
 have HC:Hid (∀ W',Calls Tryz.prog 115 #[.string x.1,.string name] W' fun e w'=>e=.returned (.int .i64 (Zf x name))∧w'=W'):=fun W'=>Tryz.strings_Compare x.1 name W'
 obtain ⟨r,hr⟩:∃ r,Zf x name=r:=⟨_,rfl⟩;rw[hr]at HC ⊢
 clear hr
 go_enter Tryz.func114,Tryz.ntmps114
 go_wp2_with fail;refine (Calls.mono (HC.out _) ?_);rintro e w' ⟨rfl,rfl⟩;go_wp2_with fail;go_ret;exact ⟨rfl,Below.alloc1 _ _⟩
def yo (l:List (ByteArray × ByteArray))(name:ByteArray):Nat:=(l.filter (ltA name)).length
def jU (l:List (ByteArray × ByteArray))(name:ByteArray):Bool:=match l[yo l name]? with
 | some x=>decide (x.1=name)
 | none=>false
theorem qbF {l:List (ByteArray × ByteArray)}{name:ByteArray}{i:Nat}(hi:i≤l.length)(h1:∀ a x,a<i→l[a]?=some x→ltA name x=true)(h2:∀ a x,i≤a→l[a]?=some x→ltA name x=false):yo l name=i:=by
 unfold yo
 conv=>lhs;rw[←List.take_append_drop i l]
 rw[List.filter_append,List.filter_eq_self.2 (fun x hx=>by
  obtain ⟨a,ha⟩:=List.mem_iff_getElem?.1 hx;rw[List.getElem?_take]at ha
  split at ha
  · rename_i h;exact h1 a x h ha
  · cases ha),List.filter_eq_nil_iff.2 (fun x hx=>by
  obtain ⟨a,ha⟩:=List.mem_iff_getElem?.1 hx;rw[List.getElem?_drop]at ha
  simp[h2 (i+a) x (by omega) ha]),List.append_nil,List.length_take]
 omega
set_option maxHeartbeats 1000000 in
theorem XT (S:Nat→Prop)(v:Value)(l:List (ByteArray × ByteArray))(name:ByteArray)(w:World)(h:qC S w v l)(hS:∀ b,S b→b<w.heap.size)(hup:UpA l)(hl:l.length≤1048576) :
 Calls Tryz.prog 113 #[v,.string name,.func (.func 114) #[] #[]] w fun e w'=>e=.returned (.tuple #[.int .i64 (yo l name:Int),.bool (jU l name)])∧Below w.heap.size w w':=by
 obtain ⟨a,cap,rfl,_,_,h4⟩:=h;have HC:Hid (∀ x W,Calls Tryz.prog 114 #[.agg #[.string x.1,.string x.2],.string name] W fun e w'=>e=.returned (.int .i64 (Zf x name))∧Below W.heap.size W w'):=fun x W=>qaQ x name W
 have mono:∀ (i j:Nat) x y,i<j→l[i]?=some x→l[j]?=some y→ltA name y=true→ltA name x=true:=by
  intro i j x y hij hx hy h
  have h1:x.1.toList<y.1.toList:=by
   have:=List.pairwise_iff_getElem.1 hup i j (qy hx) (qy hy) hij;rw[List.getElem?_eq_getElem (qy hx)]at hx
   rw[List.getElem?_eq_getElem (qy hy)]at hy
   rw[Option.some.inj hx,Option.some.inj hy]at this
   exact this
  unfold ltA at h ⊢
  rw[bytes_lt]at h ⊢
  simp only[decide_eq_true_eq]at h ⊢
  exact List.lt_trans h1 h
 have HM:Hid _:=mono;clear mono
 go_enter Tryz.func113,Tryz.ntmps113
 go_wp2_with fail
 go_loopg [9,10] l.length (fun g vi vj wr=>∃ i j:Nat,vi=.int .i64 i∧vj=.int .i64 j∧j≤i+g∧i≤j∧j≤l.length∧(∀ a x,a<i→l[a]?=some x→ltA name x=true)∧(∀ a x,j≤a→l[a]?=some x→ltA name x=false)∧Below w.heap.size w wr)
 case atStart => exact ⟨0,l.length,rfl,rfl,by omega,by omega,by omega,fun a x h=>by omega,fun a x h hx=>by have:=qy hx;omega,Below.refl _ _⟩
 case round =>
  obtain ⟨i,j,rfl,rfl,hg,hij,hjl,hlo,hhi,hB⟩:=hrel;have HLO:Hid _:=hlo;have HHI:Hid _:=hhi;clear hlo hhi
  by_cases hlt:i<j
  · have hiji : (i : Int) < (j : Int) := by omega
    obtain ⟨h,hh⟩:∃ h:Nat,h=(i+j) / 2:=⟨_,rfl⟩;have hd:((i:Int)+(j:Int)) / 2=(h:Int):=by omega
    have hh1:i≤h:=by omega
    have hh2:h<j:=by omega
    obtain ⟨x,hx⟩:∃ x,l[h]?=some x:=⟨l[h]'(by omega),by simp⟩
    obtain ⟨b,o,rfl,hs,hcc⟩:=h4 (by intro e;subst e;simp at hx)
    obtain ⟨c0,c1⟩:=hcc h x hx;have hbl:=hS b hs;rw[←hB.cell (p:=⟨b,o+h*2,none⟩) hbl]at c0
    rw[←hB.cell (p:=⟨b,o+h*2+1,none⟩) hbl]at c1
    have hhl:(h:Int)<(l.length:Int):=by omega
    have HX:Hid _:=hx;have hc:=qaP x name;obtain ⟨r,hr⟩:∃ r,Zf x name=r:=⟨_,rfl⟩;have HCX:=HC.out x;rw[hr]at hc HCX
    have HCY:Hid _:=HCX;clear HCX hr hcc h4 hx hh hs;cases hb:ltA name x with
    | true =>
      rw[hb]at hc
      have hr0:r<0:=by simpa using hc
      clear hc;go_wp2_with fail;refine (Calls.mono (HCY.out _) ?_);rintro e w1 ⟨rfl,hb1⟩;go_wp2_with fail
      go_roundg (j-(h+1))
      case measure => omega
      case rel =>
       refine ⟨h+1,j,by go_num,rfl,by omega,by omega,hjl,fun a y ha hy=>?_,HHI.out,hB.trans (hb1.mono hB.size)⟩
       rcases Nat.lt_or_ge a h with h'|h'
       · exact HM.out a h y x h' hy HX.out hb
       · obtain rfl : a = h := by omega
         rw[HX.out]at hy
         rw[←Option.some.inj hy];exact hb
    | false =>
      rw[hb]at hc
      have hr0:¬ r<0:=by simpa using hc
      clear hc;go_wp2_with fail;refine (Calls.mono (HCY.out _) ?_);rintro e w1 ⟨rfl,hb1⟩;go_wp2_with fail
      go_roundg (h-i)
      case measure => omega
      case rel =>
       refine ⟨i,h,rfl,by go_num,by omega,by omega,by omega,HLO.out,fun a y ha hy=>?_,hB.trans (hb1.mono hB.size)⟩
       rcases Nat.lt_or_ge h a with h'|h'
       · cases hya : ltA name y with
         | false=>rfl
         | true=>rw[HM.out h a x y h' HX.out hy hya]at hb;cases hb
       · obtain rfl : a = h := by omega
         rw[HX.out]at hy
         rw[←Option.some.inj hy];exact hb
  · have hiji : ¬ (i : Int) < (j : Int) := by omega
    have hpos:=qbF (by omega) HLO.out (fun a x ha hx=>HHI.out a x (by omega) hx)
    by_cases hil:i<l.length
    · obtain ⟨x, hx⟩ : ∃ x, l[i]? = some x := ⟨l[i]'hil, by simp[hil]⟩
      obtain ⟨b,o,rfl,hs,hcc⟩:=h4 (by intro e;subst e;simp at hx)
      obtain ⟨c0,c1⟩:=hcc i x hx;have hbl:=hS b hs;rw[←hB.cell (p:=⟨b,o+i*2,none⟩) hbl]at c0
      rw[←hB.cell (p:=⟨b,o+i*2+1,none⟩) hbl]at c1
      have hilI:(i:Int)<(l.length:Int):=by omega
      have HR:Hid (jU l name=decide (Zf x name=0)∧yo l name=i):=by
       refine ⟨?_,hpos⟩;unfold jU;rw[hpos,hx,qaO]
      obtain ⟨r,hr⟩:∃ r,Zf x name=r:=⟨_,rfl⟩;have HCX:=HC.out x;rw[hr]at HR HCX
      have HCY:Hid _:=HCX;clear HCX hr hcc h4 hx hs hpos;go_wp2_with fail;refine (Calls.mono (HCY.out _) ?_);rintro e w1 ⟨rfl,hb1⟩;go_wp2_with fail
      go_returns
      rw[HR.out.1,HR.out.2];exact ⟨rfl,hB.trans (hb1.mono hB.size)⟩
    · have hilI : ¬ (i : Int) < (l.length : Int) := by omega
      have HR:Hid (jU l name=false∧yo l name=i):=by
       refine ⟨?_,hpos⟩;unfold jU;rw[hpos,List.getElem?_eq_none (by omega)]
      clear hpos;go_wp2_with fail
      go_returns
      rw[HR.out.1,HR.out.2];exact ⟨rfl,hB⟩
theorem Qs (S:Nat→Prop)(v:Value)(l:List (ByteArray × ByteArray))(name:ByteArray)(w:World)(h:qC S w v l)(hS:∀ b,S b→b<w.heap.size)(hup:UpA l)(hl:l.length≤1048576) :
 Calls Tryz.prog 91 #[v,.string name] w fun e w'=>e=.returned (.tuple #[.int .i64 (yo l name:Int),.bool (jU l name)])∧Below w.heap.size w w':=by
 have HS:Hid _:=XT S v l name w h hS hup hl
 generalize yo l name=p at HS ⊢
 generalize jU l name=q at HS ⊢
 obtain ⟨a,cap,rfl,_,_,_⟩:=h
 go_enter Tryz.func91,Tryz.ntmps91
 go_wp2_with fail;refine (Calls.mono HS.out ?_);rintro e w1 ⟨rfl,hb1⟩;go_wp2_with fail
 go_returns
 exact ⟨rfl,hb1⟩
theorem jI {l:List (ByteArray × ByteArray)}(h:UpA l)(name:ByteArray):l.take (yo l name)=l.filter (ltA name)∧l.drop (yo l name)=l.filter (fun a=>!ltA name a):=by
 induction l with
 | nil=>exact ⟨rfl,rfl⟩
 | cons a l ih =>
   unfold UpA at h
   rw[List.pairwise_cons]at h
   obtain ⟨e1,e2⟩:=ih h.2;cases ha:ltA name a with
   | true =>
     have hp:yo (a::l) name=yo l name+1:=by unfold yo;rw[List.filter_cons_of_pos ha];rfl
     rw[hp,List.take_succ_cons,List.drop_succ_cons,List.filter_cons_of_pos ha,List.filter_cons_of_neg (by simp[ha]),e1,e2]
     exact ⟨rfl,rfl⟩
   | false =>
     have hnone:l.filter (ltA name)=[]:=by
      rw[List.filter_eq_nil_iff];intro x hx hlt;have h3:=h.1 x hx;unfold ltA at hlt ha
      rw[bytes_lt]at hlt ha
      simp only[decide_eq_true_eq,decide_eq_false_iff_not]at hlt ha
      exact ha (List.lt_trans h3 hlt)
     have hp:yo (a::l) name=0:=by unfold yo;rw[List.filter_cons_of_neg (by simp[ha]),hnone];rfl
     have hall:l.filter (fun a=>!ltA name a)=l:=by
      rw[List.filter_eq_self];intro x hx;have:=List.filter_eq_nil_iff.1 hnone x hx
      simpa using this
     rw[hp,List.filter_cons_of_neg (by simp[ha]),hnone,List.filter_cons_of_pos (by simp[ha]),hall]
     exact ⟨rfl,rfl⟩
theorem VN {name:ByteArray}{a:ByteArray × ByteArray}(h:a.1=name):ltA name a=false∧gtA name a=false:=by
 unfold ltA gtA;rw[h,bytes_lt];simp[List.lt_irrefl]
theorem Yf {name:ByteArray}{a:ByteArray × ByteArray}(h:a.1≠name):(!ltA name a)=gtA name a:=by
 unfold ltA gtA;rw[bytes_lt,bytes_lt]
 by_cases hlt:a.1.toList<name.toList
 · have : ¬ name.toList < a.1.toList := fun h3 => List.lt_irrefl _ (List.lt_trans hlt h3)
   simp[hlt,this]
 · have hle : name.toList ≤ a.1.toList := List.not_lt.1 hlt
   have:name.toList<a.1.toList:=by
    rcases List.le_iff_lt_or_eq.1 hle with h4|h4
    · exact h4
    · exact absurd (Qz h4).symm h
   simp[hlt,this]
theorem Qu {l:List (ByteArray × ByteArray)}{name:ByteArray}(h:jU l name=true):∃ x,l[yo l name]?=some x∧x.1=name:=by
 unfold jU at h
 split at h
 · rename_i x hx;exact ⟨x,hx,by simpa using h⟩
 · cases h
theorem QT {l:List (ByteArray × ByteArray)}(h:UpA l){name:ByteArray}{x:ByteArray × ByteArray}(hx:l[yo l name]?=some x)(hn:x.1=name):l.drop (yo l name+1)=l.filter (gtA name):=by
 have hd:l.drop (yo l name)=x::l.drop (yo l name+1):=by
  rw[←List.getElem_cons_drop (qy hx),List.getElem?_eq_getElem (qy hx)]at *
  rw[Option.some.inj hx]
 have h2:=(jI h name).2;rw[hd]at h2
 have hg:l.filter (gtA name)=(l.filter (fun a=>!ltA name a)).filter (gtA name):=by
  rw[List.filter_filter];refine List.filter_congr (fun a _=>?_)
  cases hb:gtA name a with
  | false=>simp
  | true =>
    have:ltA name a=false:=by
     cases hc:ltA name a with
     | false=>rfl
     | true =>
       unfold ltA at hc
       unfold gtA at hb
       rw[bytes_lt]at hb hc
       simp only[decide_eq_true_eq]at hb hc
       exact absurd (List.lt_trans hb hc) (List.lt_irrefl _)
    simp[this]
 rw[hg,←h2,List.filter_cons_of_neg (by simp[(VN hn).2])]
 symm
 rw[List.filter_eq_self];intro a ha
 have hup:UpA (x::l.drop (yo l name+1)):=by
  have:UpA (l.drop (yo l name)):=List.Pairwise.sublist (List.drop_sublist _ _) h;rw[hd]at this
  exact this
 unfold UpA at hup
 rw[List.pairwise_cons]at hup
 unfold gtA;rw[bytes_lt,decide_eq_true_eq,←hn];exact hup.1 a ha
theorem Kv {l:List (ByteArray × ByteArray)}(h:UpA l){name v:ByteArray}(hh:jU l name=true):l.set (yo l name) (name,v)=zJ l name v:=by
 obtain ⟨x,hx,hn⟩:=Qu hh;rw[List.set_eq_take_append_cons_drop,if_pos (qy hx),(jI h name).1,QT h hx hn];rfl
theorem Kh {l:List (ByteArray × ByteArray)}(h:UpA l){name:ByteArray}(hh:jU l name=true):l.take (yo l name)++l.drop (yo l name+1)=zP l name:=by
 obtain ⟨x,hx,hn⟩:=Qu hh;rw[(jI h name).1,QT h hx hn];rfl
theorem Ks {l:List (ByteArray × ByteArray)}(h:UpA l){name:ByteArray}(hh:jU l name=false):∀ a∈l,a.1≠name:=by
 intro a ha e;have hnot:ltA name a=false:=(VN e).1;have hin:a∈l.drop (yo l name):=by rw[(jI h name).2];exact List.mem_filter.2 ⟨ha,by simp[hnot]⟩
 cases hd:l.drop (yo l name) with
 | nil=>rw[hd]at hin;simp at hin
 | cons x r =>
   have hx:l[yo l name]?=some x:=by
    have:=List.getElem?_drop (xs:=l) (i:=yo l name) (j:=0);rw[hd,Nat.add_zero]at this
    exact this.symm
   unfold jU at hh
   rw[hx]at hh
   have hxn:x.1≠name:=by simpa using hh
   rw[hd]at hin
   rcases List.mem_cons.1 hin with rfl|hin
   · exact hxn e
   · have hup:UpA (x::r):=by
      have:UpA (l.drop (yo l name)):=List.Pairwise.sublist (List.drop_sublist _ _) h;rw[hd]at this
      exact this
     unfold UpA at hup
     rw[List.pairwise_cons]at hup
     have h1:=hup.1 a hin
     have hxf:(!ltA name x)=true:=by
      have:x∈l.filter (fun a=>!ltA name a):=by rw[←(jI h name).2,hd];exact List.mem_cons_self
      exact (List.mem_filter.1 this).2
     rw[Yf hxn]at hxf
     unfold gtA at hxf
     rw[bytes_lt,decide_eq_true_eq]at hxf
     rw[e]at h1
     exact List.lt_irrefl _ (List.lt_trans h1 hxf)
theorem qaV {l:List (ByteArray × ByteArray)}{name:ByteArray}(hn:∀ a∈l,a.1≠name):l.filter (fun a=>!ltA name a)=l.filter (gtA name):=List.filter_congr (fun a ha=>Yf (hn a ha))
theorem Kw {l:List (ByteArray × ByteArray)}(h:UpA l){name v:ByteArray}(hh:jU l name=false):l.take (yo l name)++(name,v)::l.drop (yo l name)=zJ l name v:=by
 rw[(jI h name).1,(jI h name).2,qaV (Ks h hh)];rfl
theorem Ki {l:List (ByteArray × ByteArray)}(h:UpA l){name:ByteArray}(hh:jU l name=false):zP l name=l:=qap h (Ks h hh)
theorem qac (l:List (ByteArray × ByteArray))(name:ByteArray):yo l name≤l.length:=List.length_filter_le _ _
theorem xQ {l:List (ByteArray × ByteArray)}(h:UpA l)(p:ByteArray × ByteArray→Bool):UpA (l.filter p):=List.Pairwise.filter p h
theorem qbK {l:List (ByteArray × ByteArray)}(h:UpA l)(name:ByteArray):UpA (zP l name):=by
 unfold zP UpA;rw[List.pairwise_append];refine ⟨xQ h _,xQ h _,fun a ha b hb=>?_⟩
 have h1:=(List.mem_filter.1 ha).2;have h2:=(List.mem_filter.1 hb).2;rw[bytes_lt,decide_eq_true_eq]at h1 h2
 exact List.lt_trans h1 h2
theorem qbL {l:List (ByteArray × ByteArray)}(h:UpA l)(name v:ByteArray):UpA (zJ l name v):=by
 unfold zJ UpA;rw[List.pairwise_append,List.pairwise_cons];refine ⟨xQ h _,⟨fun b hb=>?_,xQ h _⟩,fun a ha b hb=>?_⟩
 · have h2 := (List.mem_filter.1 hb).2;rw[bytes_lt,decide_eq_true_eq]at h2
   exact h2
 · have h1 := (List.mem_filter.1 ha).2;rw[bytes_lt,decide_eq_true_eq]at h1
   rcases List.mem_cons.1 hb with rfl|hb
   · exact h1
   · have h2 := (List.mem_filter.1 hb).2;rw[bytes_lt,decide_eq_true_eq]at h2
     exact List.lt_trans h1 h2
theorem qbq {B:Nat}{T:Nat→Prop}{N bb:Nat}{w w6:World}{g cap n:Nat}{L:List Nd}{ms:List Rw}{r:Rw}{x:Nd}{v':Value}{l:List (ByteArray × ByteArray)}(h:Bx B T N bb w (.slice (some ⟨g,0,none⟩) L.length cap) L ms)(hr:ms[n]?=some r)(hx:L[n]?=some x)(hn:n<N)
 (hown:js B w6 v' l) (hbl:Below 0 w w6) (hg:∀ b,b<w.heap.size→r.va.ownBlock≠some b→w6.heap[b]?=w.heap[b]?) (hat:∀ b,v'.ownBlock=some b→r.va.ownBlock=some b∨w.heap.size≤b) :
 Bx B T N bb (w6.setCell ⟨g,n*5+2,none⟩ v') (.slice (some ⟨g,0,none⟩) L.length cap) (L.set n { x with attrs:=l }) (ms.set n { r with va:=v' })∧qR N bb w (w6.setCell ⟨g,n*5+2,none⟩ v') (.slice (some ⟨g,0,none⟩) L.length cap) (.slice (some ⟨g,0,none⟩) L.length cap) ms (ms.set n { r with va:=v' }):=by
 obtain ⟨hb0,hBb,hB⟩:=h;have hR:=hB.each n r x hr hx;have hA:=hR.own hn;have hgo:qS B 43 w g:=qx hB.row rfl;have hgr:r.va.ownBlock≠some g:=fun e=>qE hA hgo (by decide) e.symm
 have row6:w6.ownsRow B 43 5 (.slice (some ⟨g,0,none⟩) L.length cap) L.length (rawCells ms):=qF hB.row fun b hb=>by
  have e:g=b:=by injection hb
  subst e;exact hg g hgo.lt hgr
 have hnm:n<ms.length:=(List.getElem?_eq_some_iff.1 hr).1
 have hput:=hB.put (w1:=w6) (w2:=w6.setCell ⟨g,n*5+2,none⟩ v') (r':={ r with va:=v' }) (x':={ x with attrs:=l }) hr hx hbl.size (by simp)
  (fun b h1 _ h2=>hg b h1 (h2 hn)) (by rw[xZ ms n r v' hr];exact (row6.stored (n*5+2) v').1) (fun b hb=>qd (fun e=>hb (by rw[e];rfl)))
  ⟨hR.text,hR.s,hR.par,qF hR.kids (fun b hb=>by
   have hs:=qx hR.kids hb;exact hg b hs.lt (fun e=>qE hA hs (by decide) e.symm)),fun _=>hown,fun hi=>absurd hn (by omega)⟩ (fun b hb=>Or.inl hb) (fun _=>hat)
 have hbg:bb≠g:=fun e=>qV (B:=0) (w:=w) ⟨nZ9 _,_,_,hb0⟩ hgo (by decide) e
 have hbr:r.va.ownBlock≠some bb:=fun e=>qV (qx hA e) (B':=0) ⟨nZ9 _,_,_,hb0⟩ (by decide) rfl
 refine ⟨⟨?_,hBb,hput⟩,⟨?_,?_,?_⟩⟩
 · rw[qd hbg,hg bb (qA hb0) hbr];exact hb0
 · exact hbl.setCell (p:=⟨g,n*5+2,none⟩) (nZ9 _) _
 · intro b h1 h2 h3;rw[qd (fun e=>h3 (Or.inl (by rw[e];rfl))),hg b h1 (fun e=>h3 (Or.inr ⟨n,r,hr,Or.inr ⟨hn,e⟩⟩))]
 · intro b hb
   rcases hb with hb|⟨i,q,hq,hb⟩
   · exact Or.inl (Or.inl hb)
   · by_cases hi : i = n
     · subst hi;rw[List.getElem?_set_self hnm]at hq
       injection hq with hq
       subst hq
       rcases hb with hb|⟨hi,hb⟩
       · exact Or.inl (Or.inr ⟨i,r,hr,Or.inl hb⟩)
       · rcases hat b hb with e | e
         · exact Or.inl (Or.inr ⟨i,r,hr,Or.inr ⟨hi,e⟩⟩)
         · exact Or.inr e
     · rw[List.getElem?_set_ne (fun e => hi e.symm)]at hq
       exact Or.inl (Or.inr ⟨i,q,hq,hb⟩)
theorem qbG {B:Nat}{T:Nat→Prop}{N bb:Nat}{w w6:World}{g cap n:Nat}{L:List Nd}{ms:List Rw}{r:Rw}{x:Nd}{l:List (ByteArray × ByteArray)}(h:Bx B T N bb w (.slice (some ⟨g,0,none⟩) L.length cap) L ms)(hr:ms[n]?=some r)(hx:L[n]?=some x)(hn:n<N)
 (hown:js B w6 r.va l) (hbl:Below 0 w w6) (hg:∀ b,b<w.heap.size→r.va.ownBlock≠some b→w6.heap[b]?=w.heap[b]?) :
 Bx B T N bb w6 (.slice (some ⟨g,0,none⟩) L.length cap) (L.set n { x with attrs:=l }) ms∧qR N bb w w6 (.slice (some ⟨g,0,none⟩) L.length cap) (.slice (some ⟨g,0,none⟩) L.length cap) ms ms:=by
 obtain ⟨hb0,hBb,hB⟩:=h;have hR:=hB.each n r x hr hx;have hA:=hR.own hn;have hgo:qS B 43 w g:=qx hB.row rfl;have hgr:r.va.ownBlock≠some g:=fun e=>qE hA hgo (by decide) e.symm
 have row6:w6.ownsRow B 43 5 (.slice (some ⟨g,0,none⟩) L.length cap) L.length (rawCells ms):=qF hB.row fun b hb=>by
  have e:g=b:=by injection hb
  subst e;exact hg g hgo.lt hgr
 have hnm:n<ms.length:=(List.getElem?_eq_some_iff.1 hr).1
 have hsame:ms.set n r=ms:=by
  have:ms[n]=r:=by rw[List.getElem?_eq_getElem hnm]at hr;exact Option.some.inj hr
  rw[←this,List.set_getElem_self]
 have hput:=hB.put (w1:=w6) (w2:=w6) (r':=r) (x':={ x with attrs:=l }) hr hx hbl.size rfl
  (fun b h1 _ h2=>hg b h1 (h2 hn)) (by rw[hsame];exact row6) (fun b hb=>rfl)
  ⟨hR.text,hR.s,hR.par,qF hR.kids (fun b hb=>by
   have hs:=qx hR.kids hb;exact hg b hs.lt (fun e=>qE hA hs (by decide) e.symm)),fun _=>hown,fun hi=>absurd hn (by omega)⟩ (fun b hb=>Or.inl hb) (fun _ b hb=>Or.inl hb)
 rw[hsame]at hput
 have hbr:r.va.ownBlock≠some bb:=fun e=>qV (qx hA e) (B':=0) ⟨nZ9 _,_,_,hb0⟩ (by decide) rfl
 refine ⟨⟨?_,hBb,hput⟩,⟨hbl,?_,fun b hb=>Or.inl hb⟩⟩
 · rw[hg bb (qA hb0) hbr];exact hb0
 · intro b h1 h2 h3;exact hg b h1 (fun e=>h3 (Or.inr ⟨n,r,hr,Or.inr ⟨hn,e⟩⟩))
end Go.Proofs.YtnppmdpmippcoaaGreatDoor
namespace Go.Proofs.YtnppmdpmippcoaaGreatDoor
open Go.RowKit
set_option maxRecDepth 100000
theorem idx_from:∀ (l:List Int)(n:Int)(i:Nat),Lib.idxFrom l n i=if l.findIdx (fun u=>u==n)<l.length then ((i+l.findIdx (fun u=>u==n):Nat):Int) else -1:=by
 intro l
 induction l with
 | nil=>intro n i;rfl
 | cons a l ih =>
   intro n i;rw[List.findIdx_cons]
   by_cases h:a=n
   · subst h;simp[Lib.idxFrom]
   · have hb : (a == n) = false := by simpa using h
     have e:Lib.idxFrom (a::l) n i=Lib.idxFrom l n (i+1):=by simp[Lib.idxFrom,h]
     rw[e,ih n (i+1)];simp only[hb,cond_false,List.length_cons]
     by_cases h2:l.findIdx (fun u=>u==n)<l.length
     · rw[if_pos h2,if_pos (by omega),show i+1+l.findIdx (fun u=>u==n)=i+(l.findIdx (fun u=>u==n)+1) by omega]
     · rw[if_neg h2,if_neg (by omega)]
theorem Zp (l:List Int)(n:Int):Lib.idxOf l n=if l.findIdx (fun u=>u==n)<l.length then ((l.findIdx (fun u=>u==n):Nat):Int) else -1:=by
 have:=idx_from l n 0;rw[Nat.zero_add]at this
 exact this
theorem Bch.spot {ns0 ns:List Nd}(hg:qM ns0=true){σ:Nat→Sg}(h:Bch ns0 σ ns)(hv:∀ n,(σ n).val=none){n:Nat}{x:Nd}(hx:ns0[n]?=some x)(h0:n≠0) :
 ∃ (p:Nat) (x' y:Nd),ns[n]?=some x'∧x'.parent=(p:Int)∧ns[p]?=some y∧Zw ns n=p∧jP ns p=y.kids∧((σ n).gone=false→Lib.idxOf y.kids (n:Int)=(atN ns n:Int)∧atN ns n<y.kids.length)∧((σ n).gone=true→Lib.idxOf y.kids (n:Int)=-1)∧p<ns0.length:=by
 obtain ⟨p,z,A,C,hs,hp⟩:=QQ hg hv hx h0;obtain ⟨e1,e2,e3⟩:=h.at hs hx hp
 obtain ⟨x',g1,_,_,_,g5,_⟩:=h.each n x hx;obtain ⟨y,k1,_⟩:=h.each p z hs.par;have hk:jP ns p=y.kids:=by unfold jP;rw[k1]
 have hat:atN ns n=y.kids.findIdx (fun u=>u==(n:Int)):=by unfold atN;rw[e1,hk]
 refine ⟨p,x',y,g1,by rw[g5,hp],k1,e1,hk,fun hgo=>?_,fun hgo=>?_,qy hs.par⟩
 · obtain ⟨f1, f2⟩ := e2 hgo;rw[hk]at f2
   refine ⟨?_,f2⟩;rw[Zp,←hat,if_pos f2]
 · have := e3 hgo;rw[e1,hk]at this
   rw[Zp,←hat,if_neg this]
def Bnd (m:Nat)(ns:List Nd):Prop:=ns.length≤m∧∀ y∈ns,y.kids.length≤m∧y.attrs.length≤m
theorem Bnd.more {m k:Nat}{ns:List Nd}(h:Bnd m ns)(hk:m≤k):Bnd k ns:=⟨Nat.le_trans h.1 hk,fun y hy=>⟨Nat.le_trans (h.2 y hy).1 hk,Nat.le_trans (h.2 y hy).2 hk⟩⟩
theorem Bnd.modify {m:Nat}{ns:List Nd}(h:Bnd m ns)(n:Nat)(f:Nd→Nd)(hf:∀ y,y.kids.length≤m→y.attrs.length≤m→(f y).kids.length≤m∧(f y).attrs.length≤m):Bnd m (ns.modify n f):=by
 refine ⟨by rw[List.length_modify];exact h.1,fun y hy=>?_⟩
 obtain ⟨i,hi⟩:=List.mem_iff_getElem?.1 hy;rw[List.getElem?_modify]at hi
 obtain ⟨z,hz,e⟩:=Option.map_eq_some_iff.1 hi;have hb:=h.2 z (List.mem_of_getElem? hz)
 split at e
 · subst e;exact hf z hb.1 hb.2
 · have e : z = y := e;subst e;exact hb
theorem VX {d:Nat}:∀ {t:Tr}{par:Int}{a:Nat}(m:Nat),Deep d t.kids→cnt (d+1) [t]≤m→zV (fun t=>t.attrs.length≤m) (d+1) [t]→∀ y∈layF d t par a,y.kids.length≤m∧y.attrs.length≤m:=by
 induction d with
 | zero =>
   intro t par a m hd hc hA y hy;simp[layF]at hy
   subst hy;exact ⟨nZ9 _,(hA t (List.mem_singleton.2 rfl)).1⟩
 | succ d ih =>
   intro t par a m hd hc hA y hy;rw[layF]at hy
   obtain ⟨hA1,hA2⟩:=hA t (List.mem_singleton.2 rfl);rw[qL]at hc
   rcases List.mem_cons.1 hy with rfl|hy
   · refine ⟨?_, hA1⟩
     show (qB d (a+1) t.kids).length≤m
     rw[yN];have:=Deep.len hd;omega
   · have key:∀ (ks:List Tr) (b:Nat),(∀ k∈ks,Deep d k.kids)→cnt (d+1) ks≤m→zV (fun t=>t.attrs.length≤m) (d+1) ks→∀ y∈qG d (layF d) a b ks,y.kids.length≤m∧y.attrs.length≤m:=by
      intro ks
      induction ks with
      | nil=>intro b _ _ _ y hy;simp[qG]at hy
      | cons k ks ihk =>
        intro b hdk hck hAk y hy;rw[qZ]at hck
        rw[qG]at hy
        rcases List.mem_append.1 hy with hy|hy
        · exact ih m (hdk k List.mem_cons_self) (by omega) (fun u hu=>by simp at hu;subst hu;exact hAk u List.mem_cons_self) y hy
        · exact ihk _ (fun u hu=>hdk u (List.mem_cons_of_mem _ hu)) (by omega) (fun u hu=>hAk u (List.mem_cons_of_mem _ hu)) y hy
     exact key t.kids (a+1) hd (by omega) hA2 y hy
theorem K1 {d p:Nat}:∀ (ks:List Tr)(b m:Nat),(∀ k∈ks,Deep d k.kids)→cnt (d+1) ks≤m→zV (fun t=>t.attrs.length≤m) (d+1) ks→∀ y∈qG d (layF d) p b ks,y.kids.length≤m∧y.attrs.length≤m:=by
 intro ks
 induction ks with
 | nil=>intro b m _ _ _ y hy;simp[qG]at hy
 | cons k ks ihk =>
   intro b m hdk hck hAk y hy;rw[qZ]at hck
   rw[qG]at hy
   rcases List.mem_append.1 hy with hy|hy
   · exact VX m (hdk k List.mem_cons_self) (by omega) (fun u hu=>by simp at hu;subst hu;exact hAk u List.mem_cons_self) y hy
   · exact ihk _ m (fun u hu=>hdk u (List.mem_cons_of_mem _ hu)) (by omega) (fun u hu=>hAk u (List.mem_cons_of_mem _ hu)) y hy
structure OkC (d:Nat) (l:List Tr):Prop where
 deep:∀ k∈l,Deep d k.kids
 cnt:cnt (d+1) l≤80
 att:zV (fun t=>t.attrs.length≤4) (d+1) l
theorem zV.imp {P Q:Tr→Prop}(h:∀ t,P t→Q t):∀ {n:Nat}{ts:List Tr},zV P n ts→zV Q n ts:=by
 intro n
 induction n with
 | zero=>intro ts _;trivial
 | succ n ih=>intro ts hA t ht;exact ⟨h t (hA t ht).1,ih (hA t ht).2⟩
theorem rgt_attrs:∀ {n:Nat}{ts:List Tr},(∀ N,rgt N ts=true)→zV (fun t=>t.attrs.length≤4) n ts:=by
 intro n
 induction n with
 | zero=>intro ts _;trivial
 | succ n ih =>
   intro ts h t ht;obtain ⟨h1,_⟩:=jQ _ _ (h (n+1)) t ht;refine ⟨?_,ih (fun N=>?_)⟩
   · cases hx : t.text with
     | true =>
       unfold qT at h1
       rw[hx]at h1
       simp at h1
       rw[h1.1.2];exact nZ9 _
     | false =>
       have:=(xD h1 hx).2;simp only[yd,Bool.and_eq_true,decide_eq_true_eq]at this
       exact this.1
   · obtain ⟨h3, h4⟩ := jQ _ _ (h (N + 1)) t ht;cases hx:t.text with
     | true=>rw[xC h3 hx];exact xM N
     | false=>rw[hx,Bool.false_or]at h4;exact h4
theorem QV {l:List Tr}(h:q9 l=true):OkC 8 l:=by
 have hd:Deep 8 l:=rb_deep 8 80 l (by simpa[q9] using h)
 have h2:=h;rw[jL hd]at h2
 simp only[Bool.and_eq_true,decide_eq_true_eq]at h2
 refine ⟨Qq h,?_,rgt_attrs (rgt_all hd h2.2)⟩;rw[cnt_wide hd (by omega)]
 exact h2.1.2
theorem Zs {ns:List Nd}{o:Opn}(h:ze ns o=0):OkC 8 o.content:=by
 have hc:=(jq h).2.2.2.1;unfold zH at hc
 split at hc
 · exact QV hc
 · have : o.content = [] := List.eq_nil_of_length_eq_zero (by simpa using hc)
   rw[this];exact ⟨by simp,by simp[qQ],by intro t ht;simp at ht⟩
theorem Bnd.put {m d:Nat}{ns:List Nd}(h:Bnd m ns)(h4:80≤m)(p at':Nat){l:List Tr}(hl:OkC d l):Bnd (m+81) (zK d ns p at' l):=by
 have hlen:l.length≤80:=Nat.le_trans (Deep.len (n:=d+1) hl.deep) hl.cnt;have hll:=j9 (d:=d) (p:=p) (a:=ns.length) l hl.deep
 have h2:Bnd (m+81) (ns++qG d (layF d) p ns.length l)∧∀ y∈ns++qG d (layF d) p ns.length l,y.kids.length≤m∧y.attrs.length≤m:=by
  have hall:∀ y∈ns++qG d (layF d) p ns.length l,y.kids.length≤m∧y.attrs.length≤m:=by
   intro y hy
   rcases List.mem_append.1 hy with hy|hy
   · exact h.2 y hy
   · exact K1 l ns.length m hl.deep (Nat.le_trans hl.cnt h4) (hl.att.imp (fun t ht=>by omega)) y hy
  exact ⟨⟨by rw[List.length_append,hll];have:=h.1;have:=hl.cnt;omega,fun y hy=>⟨by have:=(hall y hy).1;omega,by have:=(hall y hy).2;omega⟩⟩,hall⟩
 unfold zK;refine ⟨by rw[List.length_modify];exact h2.1.1,fun y hy=>?_⟩
 obtain ⟨i,hi⟩:=List.mem_iff_getElem?.1 hy;rw[List.getElem?_modify]at hi
 obtain ⟨z,hz,e⟩:=Option.map_eq_some_iff.1 hi;have hb:=h2.2 z (List.mem_of_getElem? hz)
 split at e
 · subst e;refine ⟨?_,by show z.attrs.length≤_;omega⟩
   show (z.kids.take at'++(qB d ns.length l++z.kids.drop at')).length≤_
   rw[List.length_append,List.length_append,List.length_take,List.length_drop,yN];omega
 · have e : z = y := e;subst e;exact ⟨by omega,by omega⟩
theorem qbc {l:List (ByteArray × ByteArray)}(h:UpA l)(name v:ByteArray):(zJ l name v).length≤l.length+1:=by
 cases hh:jU l name with
 | true=>rw[←Kv h hh,List.length_set];omega
 | false =>
   rw[←Kw h hh];simp;omega
theorem qaR (l:List (ByteArray × ByteArray))(h:UpA l)(name:ByteArray):(zP l name).length≤l.length:=by
 cases hh:jU l name with
 | true=>rw[←Kh h hh,List.length_append,List.length_take,List.length_drop];omega
 | false=>rw[Ki h hh];exact nR9 _
end Go.Proofs.YtnppmdpmippcoaaGreatDoor
namespace Go.Proofs.YtnppmdpmippcoaaGreatDoor
open Go.ChangeShapes Go.WideShapes Go.ChangeAt Go.RowKit
set_option maxRecDepth 100000
section
attribute [local go_sem] qD
def opV (o:Opn)(ca:Option Addr)(cc:Nat):Value:=.agg #[.int .i64 o.kind,.int .i64 o.target,.slice ca o.content.length cc,.string o.name,.string o.s]
def jR (Sr T:Nat→Prop)(w:World)(n:Nat)(v:Value)(l:List Opn):Prop :=
  ∃ a cap, v = .slice a l.length cap ∧ l.length ≤ cap ∧ cap ≤ maxLen ∧
    (l≠[]→∃ b o,a=some ⟨b,o,none⟩∧Sr b∧∀ (i:Nat) (x:Opn),l[i]?=some x→∃ ca cc,
      w.cell? ⟨b,o+i*5,none⟩=some (.int .i64 x.kind)∧w.cell? ⟨b,o+i*5+1,none⟩=some (.int .i64 x.target)∧w.cell? ⟨b,o+i*5+2,none⟩=some (.slice ca x.content.length cc) ∧
      w.cell? ⟨b,o+i*5+3,none⟩=some (.string x.name)∧w.cell? ⟨b,o+i*5+4,none⟩=some (.string x.s)∧qw T w n (.slice ca x.content.length cc) x.content)
theorem Ops.row {S:Nat→Prop}{w:World}{n:Nat}{v:Value}{l:List Opn}(h:Ops S w n v l):jR S S w n v l:=h
theorem jR.carry {S T:Nat→Prop}{w w':World}{n:Nat}{v:Value}{l:List Opn}(h:jR S T w n v l)(hS:∀ b,S b→w'.heap[b]?=w.heap[b]?)(hT:∀ b,T b→w'.heap[b]?=w.heap[b]?):jR S T w' n v l:=by
 obtain ⟨a,cap,h1,h2,h3,h4⟩:=h;refine ⟨a,cap,h1,h2,h3,fun hne=>?_⟩
 obtain ⟨b,o,ha,hs,hc⟩:=h4 hne;refine ⟨b,o,ha,hs,fun i x hx=>?_⟩
 obtain ⟨ca,cc,c0,c1,c2,c3,c4,hTr⟩:=hc i x hx;refine ⟨ca,cc,?_,?_,?_,?_,?_,qw.carry (fun b hb=>⟨hb,hT b hb⟩) n hTr⟩
 · rw[World.cell?_of_block (a:=⟨b,o+i*5,none⟩) (hS b hs)];exact c0
 · rw[World.cell?_of_block (a:=⟨b,o+i*5+1,none⟩) (hS b hs)];exact c1
 · rw[World.cell?_of_block (a:=⟨b,o+i*5+2,none⟩) (hS b hs)];exact c2
 · rw[World.cell?_of_block (a:=⟨b,o+i*5+3,none⟩) (hS b hs)];exact c3
 · rw[World.cell?_of_block (a:=⟨b,o+i*5+4,none⟩) (hS b hs)];exact c4
def y5 (B:Nat)(T:Nat→Prop)(N bb d fm:Nat)(k:Int)(ns:List Nd)(o:Opn):Prop :=
  ∀ (W : World) (v : Value) (ms : List Rw) (ca : Option Addr) (cc : Nat), Bx B T N bb W v ns ms → qw T W (d + 1) (.slice ca o.content.length cc) o.content →
    Calls Tryz.prog fm #[.pointer (some ⟨bb,0,none⟩),opV o ca cc] W fun e w'=>e=.returned (.tuple #[])∧Did B T N bb W w' v ms (zg d k ns o)
theorem VK {d:Nat}{k:Int}{ns:List Nd}{l:List Opn}{i:Nat}{o:Opn}(h:l[i]?=some o):doN d k ns (l.take (i+1))=if o.kind=k then zg d k (doN d k ns (l.take i)) o else doN d k ns (l.take i):=by
 have hs:l.take (i+1)=l.take i++[o]:=by
  rw[List.take_succ_eq_append_getElem (qy h)]
  congr 2
  rw[List.getElem?_eq_getElem (qy h)]at h
  exact Option.some.inj h
 unfold doN;rw[hs,List.foldl_append];rfl
set_option maxHeartbeats 1000000 in
theorem Xo (B:Nat)(T:Nat→Prop)(N bb d fm:Nat)(k:Int)(eg:∀ args w,(callFunc fm args).run Tryz.prog w=.ok (.enter fm args) w)(Sr:Nat→Prop)(vl v:Value)(l:List Opn)(ns:List Nd)(ms:List Rw)(w:World)(hX:Bx B T N bb w v ns ms)(hl:jR Sr T w (d+1) vl l)
 (hSr:∀ b,Sr b→b<w.heap.size∧b≠bb∧¬ Tch N v ms b) (J:Nat→List Nd→Prop) (h0:J 0 ns) (hstep:∀ i o ns',l[i]?=some o→J i ns'→(o.kind=k→y5 B T N bb d fm k ns' o∧J (i+1) (zg d k ns' o))∧(o.kind≠k→J (i+1) ns')) :
 Calls Tryz.prog 60 #[vl,.int .i64 k,.func (.func fm) #[.pointer (some ⟨bb,0,none⟩)] #[]] w fun e w'=>e=.returned (.tuple #[])∧Did B T N bb w w' v ms (doN d k ns l)∧J l.length (doN d k ns l):=by
 have HX:Hid (Bx B T N bb w v ns ms):=hX;have HL:Hid (jR Sr T w (d+1) vl l):=hl;have HS:Hid _:=hSr;have HJ:Hid _:=hstep;have H0:Hid (J 0 ns):=h0;obtain ⟨a,cap,rfl,hlc,hcm,_⟩:=hl;unfold maxLen at hcm
 clear hX hSr hstep h0
 go_enter Tryz.func60,Tryz.ntmps60
 go_wp2_with fail
 go_loopg [10] l.length (fun g vi wr=>∃ (i:Nat) (v':Value) (ms':List Rw),i+g=l.length∧vi=.int .i64 (i:Int)∧Bx B T N bb wr v' (doN d k ns (l.take i)) ms'∧qR N bb w wr v v' ms ms'∧J i (doN d k ns (l.take i)))
 case atStart => exact ⟨0,v,ms,by omega,rfl,HX.out,qR.refl _ _ _ _ _,H0.out⟩
 case round =>
  obtain ⟨i,v',ms',hig,rfl,hB,hSt,hJi⟩:=hrel;have HB:Hid (Bx B T N bb wr v' (doN d k ns (l.take i)) ms'):=hB;have HST:Hid (qR N bb w wr v v' ms ms'):=hSt;have HJI:Hid (J i (doN d k ns (l.take i))):=hJi;clear hB hSt hJi
  by_cases hlt:i<l.length
  · have hlti : (i : Int) < (l.length : Int) := by omega
    obtain ⟨o,ho⟩:∃ o,l[i]?=some o:=⟨l[i],by simp[hlt]⟩
    have hRow:jR Sr T wr (d+1) (.slice a l.length cap) l:=HL.out.carry (fun b hb=>HST.out.keep b (HS.out b hb).1 (HS.out b hb).2.1 (HS.out b hb).2.2) (fun b hb=>HST.out.low HX.out.2.2 HX.out.2.1 b (HX.out.2.2.low b hb))
    obtain ⟨_,_,hsl,_,_,h5⟩:=hRow
    injection hsl with hsl _ hsc
    subst hsl hsc;obtain ⟨b,of',rfl,hTb,hcc⟩:=h5 (by intro e;subst e;simp at hlt)
    obtain ⟨ca,cc,c0,c1,c2,c3,c4,hT⟩:=hcc i o ho;obtain ⟨hyes,hno⟩:=HJ.out i o _ ho HJI.out;have hdt:=VK (d:=d) (k:=k) (ns:=ns) ho;have hbal:Below wr.heap.size wr (wr.alloc (.cells #[.int .i64 o.kind,.int .i64 o.target,.slice ca o.content.length cc,.string o.name,.string o.s] 30)):=Below.alloc1 wr _;have HTT:Hid _:=hT;clear hcc h5 hT ho
    by_cases hk:o.kind=k
    · obtain ⟨hM, hJn⟩ := hyes hk;rw[if_pos hk]at hdt
      have HM:Hid _:=hM _ v' ms' ca cc (HB.out.later hbal) (qw.later hbal (d+1) HTT.out);unfold opV at HM
      have HREL:Hid (∀ w2,Did B T N bb (wr.alloc (.cells #[.int .i64 o.kind,.int .i64 o.target,.slice ca o.content.length cc,.string o.name,.string o.s] 30)) w2 v' ms' (zg d k (doN d k ns (l.take i)) o)→∃ (v':Value) (ms':List Rw),Bx B T N bb w2 v' (doN d k ns (l.take (i+1))) ms'∧qR N bb w w2 v v' ms ms'∧J (i+1) (doN d k ns (l.take (i+1)))):=by
       rintro w2 ⟨v2,ms2,g1,g2⟩;rw[hdt];exact ⟨v2,ms2,g1,HST.out.trans (qR.before hbal g2),hJn⟩
      clear hyes hno hM hJn hdt HTT;subst hk;go_wp2_with fail;refine (Calls.mono HM.out ?_);rintro e w2 ⟨rfl,hD⟩;obtain ⟨v2,ms2,g1,g2,g3⟩:=HREL.out w2 hD;have HG:Hid _:=And.intro g1 (And.intro g2 g3);clear hD g1 g2 g3 HREL HM;go_wp2_with fail
      go_roundg (l.length-(i+1))
      case measure => omega
      case rel => exact ⟨i+1,v2,ms2,by omega,by go_num,HG.out.1,HG.out.2.1,HG.out.2.2⟩
    · have hJn := hno hk;rw[if_neg hk]at hdt
      have HG:Hid (Bx B T N bb (wr.alloc (.cells #[.int .i64 o.kind,.int .i64 o.target,.slice ca o.content.length cc,.string o.name,.string o.s] 30)) v' (doN d k ns (l.take (i+1))) ms'∧qR N bb w (wr.alloc (.cells #[.int .i64 o.kind,.int .i64 o.target,.slice ca o.content.length cc,.string o.name,.string o.s] 30)) v v' ms ms'∧J (i+1) (doN d k ns (l.take (i+1)))):=by
       show _∧_∧_
       rw[hdt];exact ⟨HB.out.later hbal,HST.out.later hbal,hJn⟩
      clear hyes hno hJn hdt HTT;go_wp2_with fail
      go_roundg (l.length-(i+1))
      case measure => omega
      case rel => exact ⟨i+1,v',ms',by omega,by go_num,HG.out.1,HG.out.2.1,HG.out.2.2⟩
  · have hlti : ¬ (i : Int) < (l.length : Int) := by omega
    have hieq:i=l.length:=by omega
    subst hieq;have htl:l.take l.length=l:=List.take_length
    have HF:Hid (Did B T N bb w wr v ms (doN d k ns l)∧J l.length (doN d k ns l)):=by
     have h1:=HB.out;have h2:=HJI.out;rw[htl]at h1 h2
     exact ⟨⟨v',ms',h1,HST.out⟩,h2⟩
    clear htl;go_wp2_with fail
    go_returns
    exact ⟨rfl,HF.out.1,HF.out.2⟩
end
def jV (w:World)(b p:Nat)(v0 v1 v2 v3 v4:Value):World:=((((w.setCell ⟨b,p,none⟩ v0).setCell ⟨b,p+1,none⟩ v1).setCell ⟨b,p+2,none⟩ v2).setCell ⟨b,p+3,none⟩ v3).setCell ⟨b,p+4,none⟩ v4
theorem VO {b p q:Nat}(h:p≠q):(⟨b,p,none⟩:Addr)≠⟨b,q,none⟩:=by intro e;injection e with _ e;exact h e
theorem Qe {w:World}{b p c:Nat}{v0 v1 v2 v3 v4:Value}(h:c≠b):(jV w b p v0 v1 v2 v3 v4).heap[c]?=w.heap[c]?:=by
 unfold jV;rw[qd h,qd h,qd h,qd h,qd h]
theorem Yg (w:World)(b p:Nat)(v0 v1 v2 v3 v4:Value):(jV w b p v0 v1 v2 v3 v4).heap.size=w.heap.size:=by
 unfold jV;simp only[World.size_setCell]
theorem Zy {B b p:Nat}{w0 w:World}{v0 v1 v2 v3 v4:Value}(h:Below B w0 w)(hb:B≤b):Below B w0 (jV w b p v0 v1 v2 v3 v4):=by
 unfold jV;exact ((((h.setCell (p:=⟨b,p,none⟩) hb _).setCell (p:=⟨b,p+1,none⟩) hb _).setCell (p:=⟨b,p+2,none⟩) hb _).setCell (p:=⟨b,p+3,none⟩) hb _).setCell (p:=⟨b,p+4,none⟩) hb _
theorem KS (w:World)(b:Nat):w.drew.heap[b]?=w.heap[b]?:=rfl
theorem KG (w:World)(a:Addr):w.drew.cell? a=w.cell? a:=rfl
theorem qba {w:World}{b p:Nat}{v0 v1 v2 v3 v4 u0 u1 u2 u3 u4:Value}(h0:w.cell? ⟨b,p,none⟩=some u0)(h1:w.cell? ⟨b,p+1,none⟩=some u1)(h2:w.cell? ⟨b,p+2,none⟩=some u2)(h3:w.cell? ⟨b,p+3,none⟩=some u3)(h4:w.cell? ⟨b,p+4,none⟩=some u4) :
 (jV w b p v0 v1 v2 v3 v4).cell? ⟨b,p,none⟩=some v0∧(jV w b p v0 v1 v2 v3 v4).cell? ⟨b,p+1,none⟩=some v1∧(jV w b p v0 v1 v2 v3 v4).cell? ⟨b,p+2,none⟩=some v2∧(jV w b p v0 v1 v2 v3 v4).cell? ⟨b,p+3,none⟩=some v3∧(jV w b p v0 v1 v2 v3 v4).cell? ⟨b,p+4,none⟩=some v4:=by
 have sm:∀ (W:World) (a:Addr) (v u:Value),W.cell? a=some u→(W.setCell a v).cell? a=some v:=fun W a v u h=>qD (by rw[h];rfl)
 have ot:∀ (W:World) (q r:Nat) (v u:Value),q≠r→W.cell? ⟨b,r,none⟩=some u→(W.setCell ⟨b,q,none⟩ v).cell? ⟨b,r,none⟩=some u:=fun W q r v u hne h=>by rw[World.cell?_setCell_other _ _ _ _ (VO hne)];exact h
 unfold jV;refine ⟨?_,?_,?_,?_,?_⟩
 · exact ot _ _ _ _ _ (by omega) (ot _ _ _ _ _ (by omega) (ot _ _ _ _ _ (by omega) (ot _ _ _ _ _ (by omega) (sm _ _ _ _ h0))))
 · exact ot _ _ _ _ _ (by omega) (ot _ _ _ _ _ (by omega) (ot _ _ _ _ _ (by omega) (sm _ _ _ _ (ot _ _ _ _ _ (by omega) h1))))
 · exact ot _ _ _ _ _ (by omega) (ot _ _ _ _ _ (by omega) (sm _ _ _ _ (ot _ _ _ _ _ (by omega) (ot _ _ _ _ _ (by omega) h2))))
 · exact ot _ _ _ _ _ (by omega) (sm _ _ _ _ (ot _ _ _ _ _ (by omega) (ot _ _ _ _ _ (by omega) (ot _ _ _ _ _ (by omega) h3))))
 · exact sm _ _ _ _ (ot _ _ _ _ _ (by omega) (ot _ _ _ _ _ (by omega) (ot _ _ _ _ _ (by omega) (ot _ _ _ _ _ (by omega) h4))))
section
attribute [local go_sem] qD
theorem Yh {l:List Opn}{k:Nat}{x:Opn}(h:l[k]?=some x)(kd tg:Int):yf (l.take (k+1)) kd tg=yf (l.take k) kd tg++(if x.kind=kd∧x.target=tg then [x] else []):=by
 have hk:=qy h;have e:l[k]=x:=by simpa[hk] using h
 unfold yf;rw[List.take_succ_eq_append_getElem hk,e,List.filter_append]
 congr 1
 by_cases h1:x.kind=kd<;>by_cases h2:x.target=tg<;>simp[h1,h2]
theorem Vf {l:List Opn}{k:Nat}{x:Opn}(h:l[k]?=some x)(kd tg:Int):qJ (l.take (k+1)) kd tg=qJ (l.take k) kd tg++(if x.kind=kd∧x.target=tg then x.content else []):=by
 unfold qJ;rw[Yh h,List.flatMap_append]
 split<;>simp
theorem qai (l:List Opn)(kd tg:Int)(k:Nat):(qJ (l.take k) kd tg).length≤(qJ l kd tg).length:=by
 have:qJ l kd tg=qJ (l.take k) kd tg++qJ (l.drop k) kd tg:=by
  conv=>lhs;rw[←List.take_append_drop k l]
  unfold qJ yf;rw[List.filter_append,List.flatMap_append]
 rw[this,List.length_append];omega
def Vw (w:World)(n:Nat)(l:List Opn)(kd tg:Int)(e:Ending)(w':World):Prop :=
 ∃ (v:Value) (k' t':Int) (ca:Option Addr) (cl cc:Nat) (nm s:ByteArray),e=.returned (.tuple #[v,.bool (!(yf l kd tg).isEmpty),.agg #[.int .i64 k',.int .i64 t',.slice ca cl cc,.string nm,.string s]])∧TGr w.heap.size n w' v (qJ l kd tg)∧(∀ o,(yf l kd tg).getLast?=some o→nm=o.name∧s=o.s)∧Below w.heap.size w w'
structure OfI (w:World) (n:Nat) (l:List Opn) (kd tg:Int) (k:Nat) (v:Value) (wr:World):Prop where
 below:Below w.heap.size w wr
 res:wr.heap[w.heap.size]?=some (.cells #[.int .i64 0,.int .i64 0,.slice none 0 0,.string ⟨#[]⟩,.string ⟨#[]⟩] 30 (0,0))
 lst:∃ (k' t':Int) (ca:Option Addr) (cl cc:Nat) (nm s:ByteArray),wr.heap[w.heap.size+1]?=some (.cells #[.int .i64 k',.int .i64 t',.slice ca cl cc,.string nm,.string s] 30 (0,0))∧∀ o,(yf (l.take k) kd tg).getLast?=some o→nm=o.name∧s=o.s
 out:TGr (w.heap.size+2) n wr v (qJ (l.take k) kd tg)
set_option linter.unusedSimpArgs false in
set_option maxHeartbeats 2000000 in
theorem qbC (S:Nat→Prop)(n:Nat)(vl:Value)(l:List Opn)(kd tg:Int)(w:World)(hO:Ops S w (n+1) vl l)(hsm:∀ x∈l,Small (n+1) x.content)(hl:(qJ l kd tg).length≤1048576) :
 Calls Tryz.prog 76 #[vl,.int .i64 kd,.int .i64 tg] w fun e w'=>Vw w n l kd tg e w':=by
 obtain ⟨la,lc,rfl,hll,hlc⟩:=hO.shape;have HO:Hid (Ops S w (n+1) (.slice la l.length lc) l):=hO;have HSM:Hid _:=hsm
 have HI0:Hid (OfI w n l kd tg 0 (.slice none 0 0) ((w.alloc (.cells #[.int .i64 0,.int .i64 0,.slice none 0 0,.string ⟨#[]⟩,.string ⟨#[]⟩] 30)).alloc (.cells #[.int .i64 0,.int .i64 0,.slice none 0 0,.string ⟨#[]⟩,.string ⟨#[]⟩] 30))):=by
  refine ⟨(Below.alloc1 w _).alloc (by simp) _,?_,⟨0,0,none,0,0,⟨#[]⟩,⟨#[]⟩,?_,fun o ho=>by simp[yf]at ho⟩,TGr.nil _ _ _⟩
  · rw[heap_alloc_old _ _ (by simp)];exact heap_alloc_new _ _
  · have := heap_alloc_new (w.alloc (.cells #[.int .i64 0, .int .i64 0, .slice none 0 0, .string ⟨#[]⟩, .string ⟨#[]⟩] 30)) (.cells #[.int .i64 0, .int .i64 0, .slice none 0 0, .string ⟨#[]⟩, .string ⟨#[]⟩] 30);rw[World.size_alloc]at this
    exact this
 unfold maxLen at hlc
 clear hO hsm
 go_enter Tryz.func76,Tryz.ntmps76
 go_wp2_with fail
 go_loopg [16,9,11] l.length (fun g i u b wr=>∃ (k:Nat) (v:Value),k+g=l.length∧i=.int .i64 (k:Int)∧v=u∧b=.bool (!(yf (l.take k) kd tg).isEmpty)∧OfI w n l kd tg k v wr)
 case atStart => exact ⟨0,_,by omega,rfl,rfl,rfl,HI0.out⟩
 case round =>
  clear HI0;obtain ⟨k,v,hk,rfl,hvu,rfl,hA⟩:=hrel;subst hvu;have HA:Hid (OfI w n l kd tg k v wr):=hA;clear hA
  by_cases hlt:k<l.length
  · have hlti : (k : Int) < (l.length : Int) := by omega
    obtain ⟨x,hx⟩:∃ x,l[k]?=some x:=⟨l[k],by simp[hlt]⟩
    obtain ⟨b,o,cap',ca,cc,hv,_,_,c0,c1,c2,c3,c4,hT⟩:=(HO.out.later HA.out.below).at hx
    injection hv with hv1 hv2 hv3
    subst hv1 hv3;have HKT:Hid _:=Yh hx kd tg;have HCT:Hid _:=Vf hx kd tg;have hb1:=Below.alloc1 wr (.cells #[.int .i64 x.kind,.int .i64 x.target,.slice ca x.content.length cc,.string x.name,.string x.s] 30);have HBX:Hid _:=heap_alloc_new wr (.cells #[.int .i64 x.kind,.int .i64 x.target,.slice ca x.content.length cc,.string x.name,.string x.s] 30);have HCP:Hid _:=Jf (n+1) S (.slice ca x.content.length cc) x.content _ (qw.later hb1 (n+1) hT) (HSM.out x (List.mem_of_getElem? hx));have HB1:Hid _:=hb1;clear hv2 hT hx hb1
    by_cases hm:x.kind=kd∧x.target=tg
    · have hkb : (x.kind == kd) = true := by simpa using hm.1
      have htb:(x.target==tg)=true:=by simpa using hm.2
      rw[if_pos hm]at HKT HCT
      clear hm;go_wp2_with fail
      generalize wr.alloc (.cells #[.int .i64 x.kind,.int .i64 x.target,.slice ca x.content.length cc,.string x.name,.string x.s] 30)=W1 at *
      refine Calls.mono HCP.out ?_;rintro e w2 ⟨vc,rfl,hT2,hb2⟩;obtain ⟨a2,c2',rfl,_,_⟩:=qw.shape (n+1) hT2;have hbw2:Below wr.heap.size wr w2:=HB1.out.trans (hb2.mono HB1.out.size);have hG2:TGr (w.heap.size+2) n w2 v (qJ (l.take k) kd tg):=HA.out.out.later hbw2;have hsr:=HA.out.below.size;have hs1:wr.heap.size<W1.heap.size:=qA HBX.out;have hs2:=hb2.size;have hlw:w.heap.size+1<wr.heap.size:=by obtain ⟨_,_,_,_,_,_,_,h,_⟩:=HA.out.lst;exact qA h
      have HFR:Hid (∀ b,W1.heap.size≤b→b<w2.heap.size→w.heap.size+2≤b∧b<w2.heap.size∧v.ownBlock≠some b):=fun b h1 h2=>⟨by omega,h2,fun e=>by have:=(HA.out.out.block e).2;omega⟩
      have HLN:Hid ((qJ (l.take k) kd tg).length+x.content.length≤1048576):=by
       have h1:=qai l kd tg (k+1);rw[HCT.out,List.length_append]at h1
       show _≤_
       omega
      have HG2:Hid _:=hG2;have HT2:Hid (qw (fun b=>W1.heap.size≤b∧b<w2.heap.size) w2 (n+1) (.slice a2 x.content.length c2') x.content):=qw.bounded (n+1) hT2
      have HBX2:Hid _:=(hb2.block _ (qA HBX.out)).trans HBX.out;have HBW2:Hid _:=hbw2;clear hG2 hT2 hb2 HBX hbw2 HCP;go_wp2_with (at_builtin;refine zz rfl _ _ rfl (w.heap.size+2) n v (.slice a2 x.content.length c2') (qJ (l.take k) kd tg) x.content _ rfl rfl HG2.out HT2.out ?qa ?qb ?qc ?_)
      case qa => exact fun b hb=>HFR.out b hb.1 hb.2
      case qb => exact HLN.out
      case qc => omega
      intro v3 w3 hG3 hgr hat;have hkeep:∀ b,b<w2.heap.size→v.ownBlock≠some b→w3.heap[b]?=w2.heap[b]?:=fun b h1 h2=>hgr.block b h1 (fun e=>h2 e.symm)
      have hvb:∀ b,v.ownBlock=some b→w.heap.size+2≤b∧b<wr.heap.size:=fun b hb=>HA.out.out.block hb
      have hbx3:=(hkeep wr.heap.size (by omega) (fun e=>by have:=(hvb _ e).2;omega)).trans HBX2.out
      obtain ⟨k',t',la',ll',lc',nm,sx,hls,_⟩:=HA.out.lst;have hls3:=(hkeep (w.heap.size+1) (by omega) (fun e=>by have:=(hvb _ e).1;omega)).trans ((HBW2.out.block _ (by omega)).trans hls)
      have hrs3:=(hkeep w.heap.size (by omega) (fun e=>by have:=(hvb _ e).1;omega)).trans ((HBW2.out.block _ (by omega)).trans HA.out.res)
      have hB2:Below w.heap.size w w2:=HA.out.below.trans (HBW2.out.mono HA.out.below.size);have hB3:Below w.heap.size w w3:=hB2.grown hgr (by omega) (fun b hb=>by have:=(hvb b hb).1;omega)
      obtain ⟨q0,q1,q2,q3,q4⟩:=yk hbx3;obtain ⟨p0,p1,p2,p3,p4⟩:=yk hls3;have pf:∀ o,w3.frozen? ⟨w.heap.size+1,o,none⟩=false:=fun o=>fH9 hls3 o
      have pf0:=pf 0;have pf1:=pf 1;have pf2:=pf 2;have pf3:=pf 3;have pf4:=pf 4
      have HI3:Hid (OfI w n l kd tg (k+1) v3 (jV w3 (w.heap.size+1) 0 (.int .i64 x.kind) (.int .i64 x.target) (.slice ca x.content.length cc) (.string x.name) (.string x.s))):=by
       refine ⟨Zy hB3 (by omega),?_,⟨x.kind,x.target,ca,x.content.length,cc,x.name,x.s,?_,?_⟩,?_⟩
       · rw[Qe (by omega)];exact hrs3
       · unfold jV;simp[World.setCell,Array.getElem?_modify,hls3]
       · intro o ho;rw[HKT.out,List.getLast?_append]at ho
         simp at ho
         subst ho;exact ⟨rfl,rfl⟩
       · rw[HCT.out];exact hG3.keep (by rw[Yg];exact nR9 _) (fun b h1 _=>Qe (by omega))
      have HBO:Hid ((!(yf (l.take (k+1)) kd tg).isEmpty)=true):=by show _=_;rw[HKT.out];simp
      clear hkeep hvb hbx3 hls hls3 hrs3 hB2 hB3 hG3 hgr hat pf HG2 HT2 HBX2 HBW2 HFR HLN HA;unfold jV at HI3
      go_wp2_with fail
      go_roundg (l.length-(k+1))
      case measure => omega
      case rel => exact ⟨k+1,v3,by omega,by go_num,rfl,by rw[HBO.out],HI3.out⟩
    · rw[if_neg hm]at HKT HCT
      rw[List.append_nil]at HKT HCT
      have HI3:Hid (OfI w n l kd tg (k+1) v (wr.alloc (.cells #[.int .i64 x.kind,.int .i64 x.target,.slice ca x.content.length cc,.string x.name,.string x.s] 30))):=by
       refine ⟨HA.out.below.trans (HB1.out.mono HA.out.below.size),(HB1.out.block _ (qA HA.out.res)).trans HA.out.res,?_,?_⟩
       · obtain ⟨k', t', la', ll', lc', nm, sx, hls, he⟩ := HA.out.lst;exact ⟨k',t',la',ll',lc',nm,sx,(HB1.out.block _ (qA hls)).trans hls,by rw[HKT.out];exact he⟩
       · rw[HCT.out];exact HA.out.out.later HB1.out
      have HKE:Hid _:=HKT.out;clear HA HCP HKT HCT
      by_cases hk1:x.kind=kd
      · have ht1 : ¬ x.target = tg := fun h => hm ⟨hk1, h⟩
        have hkb:(x.kind==kd)=true:=by simpa using hk1
        have htb:(x.target==tg)=false:=by simpa using ht1
        clear hm hk1 ht1;go_wp2_with fail
        go_roundg (l.length-(k+1))
        case measure => omega
        case rel => exact ⟨k+1,v,by omega,by go_num,rfl,by rw[HKE.out],HI3.out⟩
      · have hkb : (x.kind == kd) = false := by simpa using hk1
        clear hm hk1;go_wp2_with fail
        go_roundg (l.length-(k+1))
        case measure => omega
        case rel => exact ⟨k+1,v,by omega,by go_num,rfl,by rw[HKE.out],HI3.out⟩
  · have hlti : ¬ ((k : Int) < (l.length : Int)) := by omega
    have hkk:k=l.length:=by omega
    subst hkk;rw[List.take_length];obtain ⟨k',t',la',ll',lc',nm,sx,hls,he⟩:=HA.out.lst;rw[List.take_length]at he
    have HG:=HA.out.out;rw[List.take_length]at HG
    obtain ⟨p0,p1,p2,p3,p4⟩:=yk hls;obtain ⟨r0,r1,r2,r3,r4⟩:=yk HA.out.res;have hrs:=HA.out.res;have pf:∀ o,wr.frozen? ⟨w.heap.size,o,none⟩=false:=fun o=>fH9 hrs o
    have pf0:=pf 0;have pf1:=pf 1;have pf2:=pf 2;have pf3:=pf 3;have pf4:=pf 4;have HGG:Hid _:=HG;have HEE:Hid _:=he;have HBB:Hid (Below w.heap.size w wr):=HA.out.below;have HRS:Hid _:=hrs;clear HG he hls hrs pf HA;go_wp2_with fail
    go_region
    change Exit.then _ _ _ _ (jV wr w.heap.size 0 (.int .i64 k') (.int .i64 t') (.slice la' ll' lc') (.string nm) (.string sx)).drew
    have hz:=qba (b:=w.heap.size) (p:=0) (v0:=.int .i64 k') (v1:=.int .i64 t') (v2:=.slice la' ll' lc') (v3:=.string nm) (v4:=.string sx) r0 r1 r2 r3 r4;simp only[←KG (jV wr w.heap.size 0 (.int .i64 k') (.int .i64 t') (.slice la' ll' lc') (.string nm) (.string sx)),Nat.zero_add]at hz
    have HG5:Hid (TGr (w.heap.size+2) n (jV wr w.heap.size 0 (.int .i64 k') (.int .i64 t') (.slice la' ll' lc') (.string nm) (.string sx)).drew v (qJ l kd tg)):=TGr.keep HGG.out (by show _≤(jV wr w.heap.size 0 (.int .i64 k') (.int .i64 t') (.slice la' ll' lc') (.string nm) (.string sx)).heap.size;rw[Yg];exact nR9 _) (fun b h1 _=>by rw[KS];exact Qe (by omega))
    have HB5:Hid (Below w.heap.size w (jV wr w.heap.size 0 (.int .i64 k') (.int .i64 t') (.slice la' ll' lc') (.string nm) (.string sx)).drew):=(Zy HBB.out (nR9 _)).drew
    generalize (jV wr w.heap.size 0 (.int .i64 k') (.int .i64 t') (.slice la' ll' lc') (.string nm) (.string sx)).drew=W5 at *
    obtain ⟨z0,z1,z2,z3,z4⟩:=hz;clear r0 r1 r2 r3 r4 p0 p1 p2 p3 p4 pf0 pf1 pf2 pf3 pf4;go_wp2_with fail;refine bodyPost_ret (v:=.tuple #[v,.bool (!(yf l kd tg).isEmpty),.agg #[.int .i64 k',.int .i64 t',.slice la' ll' lc',.string nm,.string sx]]) (by simp[results,Tryz.results76,go_sem,z0,z1,z2,z3,z4]) rfl ?_
    exact ⟨v,k',t',la',ll',lc',nm,sx,rfl,HG5.out.lower (by omega),HEE.out,HB5.out⟩
end
section
attribute [local go_sem] qD
theorem attrs_set:∀ (l:List (ByteArray × ByteArray))(p:Nat)(y:ByteArray × ByteArray)(s:ByteArray),l[p]?=some y→(attrCells l).set (p*2+1) (.string s)=attrCells (l.set p (y.1,s)):=by
 intro l
 induction l with
 | nil=>intro p y s h;simp at h
 | cons a l ih =>
   intro p y s h;cases p with
   | zero=>simp at h;subst h;rfl
   | succ p =>
     rw[List.set_cons_succ,attrCells,attrCells,←ih p y s (by simpa using h),show (p+1)*2+1=p*2+1+1+1 by omega]
     rfl
theorem xG {B:Nat}{T:Nat→Prop}{N bb n:Nat}{w:World}{v:Value}{ns:List Nd}{ms:List Rw}{r:Rw}{x:Nd}(h:Bx B T N bb w v ns ms)(hr:ms[n]?=some r)(hx:ns[n]?=some x)(hn:n<N):js B w r.va x.attrs:=(h.2.2.each n r x hr hx).own hn
set_option linter.unusedSimpArgs false in
set_option maxHeartbeats 1000000 in
theorem qbi (B:Nat)(T:Nat→Prop)(N bb n:Nat)(v:Value)(ns:List Nd)(ms:List Rw)(x:Nd)(o:Opn)(vc:Value)(w:World)(hX:Bx B T N bb w v ns ms)(ho:o.target=(n:Int))(hx:ns[n]?=some x)(hn:n<N)(hup:UpA x.attrs)(hal:x.attrs.length≤1048576) :
 Calls Tryz.prog 62 #[.pointer (some ⟨bb,0,none⟩),.agg #[.int .i64 o.kind,.int .i64 o.target,vc,.string o.name,.string o.s]] w fun e w'=>e=.returned (.tuple #[])∧Did B T N bb w w' v ms (ns.set n { x with attrs:=zJ x.attrs o.name o.s }):=by
 obtain ⟨k,tg,ct,nm,s⟩:=o;simp only at ho
 subst ho;obtain ⟨W0,hW0⟩:∃ W0,W0=w.alloc (.cells #[.int .i64 k,.int .i64 (n:Int),vc,.string nm,.string s] 30):=⟨_,rfl⟩;have hb:Below w.heap.size w W0:=by rw[hW0];exact Below.alloc1 w _
 have hox:W0.heap[w.heap.size]?=some (.cells #[.int .i64 k,.int .i64 (n:Int),vc,.string nm,.string s] 30 (0,0)):=by rw[hW0];exact heap_alloc_new _ _
 have HX:Hid (Bx B T N bb W0 v ns ms):=hX.later hb;obtain ⟨r,hr,hR⟩:=HX.out.2.2.get hx;obtain ⟨g,cap,rfl,hcl,hcm,hgB,hgl,_,_,k2,_,_,hfz⟩:=HX.out.2.2.at hr
 have hnl:n<ns.length:=(List.getElem?_eq_some_iff.1 hx).1;have hni:(n:Int)<(ns.length:Int):=by omega
 have hA:=hR.own hn;have b0:W0.cell? ⟨bb,0,none⟩=some (.slice (some ⟨g,0,none⟩) ns.length cap):=by rw[cH9 HX.out.1];rfl
 have o1:W0.cell? ⟨w.heap.size,1,none⟩=some (.int .i64 (n:Int)):=by rw[cH9 hox];rfl
 have o3:W0.cell? ⟨w.heap.size,3,none⟩=some (.string nm):=by rw[cH9 hox];rfl
 have o4:W0.cell? ⟨w.heap.size,4,none⟩=some (.string s):=by rw[cH9 hox];rfl
 have hAt:qC (fun b=>b<W0.heap.size) W0 r.va x.attrs:=by
  have h1:=qC.of_owns hA;exact h1.carry fun b hb=>⟨hb.lt,rfl⟩
 obtain ⟨ga,ca,hva⟩:∃ ga ca,r.va=.slice ga x.attrs.length ca:=by obtain ⟨a,c,h,_⟩:=hAt;exact ⟨a,c,h⟩
 rw[hva]at k2
 have HF:Hid (∀ W,Below W0.heap.size W0 W→Calls Tryz.prog 91 #[.slice ga x.attrs.length ca,.string nm] W fun e w'=>e=.returned (.tuple #[.int .i64 (yo x.attrs nm:Int),.bool (jU x.attrs nm)])∧Below W.heap.size W w'):=fun W h=>by
  rw[←hva];have hs:=h.size;exact Qs (fun b=>b<W0.heap.size) r.va x.attrs nm W (hAt.later h) (fun b hb=>by omega) hup hal
 have HC:Hid (∀ W,Below W0.heap.size W0 W→Below W0.heap.size W0 W∧W.cell? ⟨bb,0,none⟩=some (.slice (some ⟨g,0,none⟩) ns.length cap)∧W.cell? ⟨w.heap.size,1,none⟩=some (.int .i64 (n:Int))∧W.cell? ⟨w.heap.size,3,none⟩=some (.string nm)∧W.cell? ⟨g,n*5+2,none⟩=some (.slice ga x.attrs.length ca)):=by
  intro W h;have hbl:=qA HX.out.1;have hol:=qA hox;exact ⟨h,by rw[h.cell (p:=⟨bb,0,none⟩) hbl];exact b0,by rw[h.cell (p:=⟨w.heap.size,1,none⟩) hol];exact o1,by rw[h.cell (p:=⟨w.heap.size,3,none⟩) hol];exact o3,by rw[h.cell (p:=⟨g,n*5+2,none⟩) hgl];exact k2⟩
 have hbn:Below W0.heap.size W0 W0.drew:=⟨rfl,rfl,rfl,nR9 _,fun _ _=>rfl⟩
 unfold maxLen at hcm
 go_enter Tryz.func62,Tryz.ntmps62
 go_wp2_with fail;rw[←hW0];clear hW0
 go_region_held3 (fun W:World=>Below W0.heap.size W0 W∧W.cell? ⟨bb,0,none⟩=some (.slice (some ⟨g,0,none⟩) ns.length cap)∧W.cell? ⟨w.heap.size,1,none⟩=some (.int .i64 (n:Int))∧W.cell? ⟨w.heap.size,3,none⟩=some (.string nm)∧W.cell? ⟨g,n*5+2,none⟩=some (.slice ga x.attrs.length ca))
  (first|with_reducible exact HC.out _ hbn)
  (fail)
 have hbn:Below W0.heap.size W0 W0.drew.drew:=⟨rfl,rfl,rfl,nR9 _,fun _ _=>rfl⟩
 go_wp2_with fail
 go_region_held3 (fun W:World=>Below W0.heap.size W0 W∧W.cell? ⟨bb,0,none⟩=some (.slice (some ⟨g,0,none⟩) ns.length cap)∧W.cell? ⟨w.heap.size,1,none⟩=some (.int .i64 (n:Int))∧W.cell? ⟨w.heap.size,3,none⟩=some (.string nm)∧W.cell? ⟨g,n*5+2,none⟩=some (.slice ga x.attrs.length ca))
  (first|with_reducible exact HC.out _ hbn)
  (first|(go_at_call 91;refine (Calls.mono (HF.out _ hbn) ?_);rintro e W1 ⟨rfl,hb1⟩;have hbn:=hbn.trans (hb1.mono hbn.size)))
 have HX1:Hid (Bx B T N bb W1 (.slice (some ⟨g,0,none⟩) ns.length cap) ns ms):=HX.out.later hbn;have HR1:Hid _:=HX1.out.2.2.each n r x hr hx;obtain ⟨g1,cap1,hv1,_,_,_,hgl1,_,_,j2,_,_,hfz1⟩:=HX1.out.2.2.at hr
 injection hv1 with hv1 _ hv3
 injection hv1 with hv1
 injection hv1 with hv1 _ _
 subst hv1 hv3;rw[hva]at j2
 have hol1:w.heap.size<W1.heap.size:=Nat.lt_of_lt_of_le (qA hox) hbn.size;have hox1:W1.heap[w.heap.size]?=some (.cells #[.int .i64 k,.int .i64 (n:Int),vc,.string nm,.string s] 30 (0,0)):=(hbn.block _ (qA hox)).trans hox;have hbw1:Below w.heap.size w W1:=hb.trans (hbn.mono hb.size);obtain ⟨pp,hpp⟩:∃ p,yo x.attrs nm=p:=⟨_,rfl⟩;have hple:=qac x.attrs nm;rw[hpp]at hple ⊢
 have HW4:Hid (∀ W:World,W.heap[w.heap.size]?=W1.heap[w.heap.size]?→W.cell? ⟨w.heap.size,3,none⟩=some (.string nm)∧W.cell? ⟨w.heap.size,4,none⟩=some (.string s)):=by
  intro W e;rw[hox1]at e
  exact ⟨by rw[cH9 e];rfl,by rw[cH9 e];rfl⟩
 cases hh:jU x.attrs nm with
 | true =>
   obtain ⟨y,hy,hyn⟩:=Qu hh;rw[hpp]at hy
   have hpl:=qy hy;obtain ⟨gb,cb,hva2,hcb1,hcb2⟩:=yT (HR1.out.own hn) (by omega)
   rw[hva]at hva2
   injection hva2 with e1 _ e3
   subst e1 e3;have hAo:=HR1.out.own hn;rw[hva]at hAo
   obtain ⟨cur,hcur,hcs,_,_,_⟩:=jr hAo;have hgl2:=qA hcur
   have hcell:W1.cell? ⟨gb,pp*2+1,none⟩=some (.string y.2):=by
    rw[World.ownsRow.cellAt hAo (pp*2+1) (by omega)]
    exact (yD x.attrs pp y hy).2
   have HE:Hid (∀ W:World,W.heap[gb]?=W1.heap[gb]?→W.cell? ⟨gb,pp*2+1,none⟩=some (.string y.2)∧W.frozen? ⟨gb,pp*2+1,none⟩=false):=fun W e=>⟨(World.cell?_of_block (a:=⟨gb,pp*2+1,none⟩) e).trans hcell,fH9 (e.trans hcur) _⟩
   have hog:w.heap.size≠gb:=fun e=>qV (B:=0) (w:=W1) ⟨nZ9 _,_,_,hox1⟩ (qx hAo rfl) (by decide) e
   have hgg:g≠gb:=fun e=>qV (qx HX1.out.2.2.row rfl) (qx hAo rfl) (by decide) e
   have hset:x.attrs.set pp (nm,s)=zJ x.attrs nm s:=by rw[←hpp];exact Kv hup hh
   have hst:=(hAo.stored (pp*2+1) (.string s)).1
   have e2:(attrCells x.attrs).set (pp*2+1) (.string s)=attrCells (x.attrs.set pp (nm,s)):=by
    rw[←hyn];exact attrs_set x.attrs pp y s hy
   rw[e2]at hst
   have HD:Hid (∀ W,Below W1.heap.size W1 W→Did B T N bb w (W.setCell ⟨gb,pp*2+1,none⟩ (.string s)) (.slice (some ⟨g,0,none⟩) ns.length cap) ms (ns.set n { x with attrs:=zJ x.attrs nm s })):=by
    intro W hW;have hXW:=HX1.out.later hW;have hAW:=(xG hXW hr hx hn);rw[hva]at hAW
    have hstW:=(hAW.stored (pp*2+1) (.string s)).1;rw[e2]at hstW
    have hl:(x.attrs.set pp (nm,s)).length=x.attrs.length:=List.length_set;obtain ⟨h1,h2⟩:=qbG (w6:=W.setCell ⟨gb,pp*2+1,none⟩ (.string s)) (l:=x.attrs.set pp (nm,s)) hXW hr hx hn (by unfold js;rw[hl,hva];exact hstW) ((Below.refl 0 W).setCell (p:=⟨gb,pp*2+1,none⟩) (nZ9 _) _) (fun b _ hb=>qd (fun e=>hb (by rw[hva,e];rfl)))
    rw[hset]at h1
    exact ⟨_,_,h1,qR.before (hbw1.trans (hW.mono hbw1.size)) h2⟩
   have HS:Hid (∀ W:World,W.heap[w.heap.size]?=W1.heap[w.heap.size]?→W.heap[g]?=W1.heap[g]?→W.cell? ⟨w.heap.size,4,none⟩=some (.string s)∧W.cell? ⟨g,n*5+2,none⟩=some (.slice (some ⟨gb,0,none⟩) x.attrs.length ca)):=fun W e1 e2=>⟨(HW4.out W e1).2,(World.cell?_of_block (a:=⟨g,n*5+2,none⟩) e2).trans j2⟩
   have HS1:Hid _:=HS.out W1.drew rfl rfl;have HS2:Hid _:=HS.out (W1.drew.setCell ⟨gb,pp*2+1,none⟩ (.string s)) (qd hog) (qd hgg);have HDD:=HD.out W1.drew ⟨rfl,rfl,rfl,nR9 _,fun _ _=>rfl⟩
   have HDX:Hid _:=HDD;obtain ⟨q1,q2⟩:=HE.out W1 rfl;obtain ⟨q1d,q2d⟩:=HE.out W1.drew rfl;have hppi:(pp:Int)<(x.attrs.length:Int):=by omega
   clear HDD HD hset hcell hst e2 hAo hcur hy hyn hox1 hox HF HC HR1 HX1 HX hX hR hr hx hA hAt hva HW4 hh hup j2 k2 hfz hfz1 hpp b0 o1 o3 o4;go_wp2_with fail;refine wp_region_held_drew (S:=fun W:World=>W.cell? ⟨w.heap.size,4,none⟩=some (.string s)∧W.cell? ⟨g,n*5+2,none⟩=some (.slice (some ⟨gb,0,none⟩) x.attrs.length ca)) (by kernel_rfl) HS1.out (fun hHeld=>?_)
   refine wqi [0,1,2,3,4,5,6,7,8] ?_
   repeat (refine wqt (v:=?_) rfl (by kernel_rfl) (fun _ _ _ h=>h) (by rfl) (by assumption) ?_ ?_;rotate_left;(· (intro w hSw;(try dsimp only at hSw);go_simp;try with_reducible rfl));try simp only[Act.put,List.getElem_toArray,List.getElem_cons_succ,List.getElem_cons_zero,List.setIfInBounds_toArray,List.set_cons_zero,List.set_cons_succ])
   refine wqn ?_;refine wpAnyH_ready (rs:=[9]) (by kernel_rfl) (by simp) ?_
   refine AllReadyH.cons rfl (fun K hK=>?_) AllReadyH.nil
   go_simp;refine hK.out _ _ HS2.out (fun hHeld=>?_)
   clear hK K
   try simp only[Act.put,List.setIfInBounds_toArray,List.set_cons_zero,List.set_cons_succ]
   refine wpAnyH_done (by kernel_rfl) ?_ _
   go_wp2_with fail
   go_returns
   exact ⟨rfl,HDX.out⟩
 | false =>
   obtain ⟨W2,hW2⟩:∃ W2,W2=(W1.alloc (.cells #[.string nm,.string s] 79)).drew:=⟨_,rfl⟩
   have hb2:Below W1.heap.size W1 W2:=by
    rw[hW2];exact (Below.alloc1 W1 _).drew
   have hvx:W2.heap[W1.heap.size]?=some (.cells #[.string nm,.string s] 79 (0,0)):=by rw[hW2];exact heap_alloc_new W1 _
   have hX2:Bx B T N bb W2 (.slice (some ⟨g,0,none⟩) ns.length cap) ns ms:=HX1.out.later hb2;have hA2:=xG hX2 hr hx hn;have hput:x.attrs.take pp++(nm,s)::x.attrs.drop pp=zJ x.attrs nm s:=by rw[←hpp];exact Kw hup hh
   have hvl:∀ b,r.va.ownBlock=some b→b<W1.heap.size:=fun b hb=>((xG HX1.out hr hx hn).lt b hb).2
   have HI:Hid (Calls Tryz.prog 92 #[.slice ga x.attrs.length ca,.int .i64 (pp:Int),.slice (some ⟨W1.heap.size,0,none⟩) 1 1] W2 fun e w'=>∃ v',e=.returned v'∧(js B w' v' (zJ x.attrs nm s)∧(∀ b,v'.ownBlock=some b→r.va.ownBlock=some b∨W2.heap.size≤b)∧Below 0 W2 w'∧(∀ b,b<W2.heap.size→r.va.ownBlock≠some b→w'.heap[b]?=W2.heap[b]?))):=by
    have:=Jy B W1.heap.size pp r.va x.attrs nm s W2 hA2 hvx hple hal hX2.2.2.le (fun e=>by have:=hvl _ e;omega)
    rw[hput,hva]at this
    rw[hva];exact this
   have hog2:r.va.ownBlock≠some w.heap.size:=fun e=>qV (qx (xG HX1.out hr hx hn) e) (B':=0) (w:=W1) ⟨nZ9 _,_,_,hox1⟩ (by decide) rfl
   have hgg2:r.va.ownBlock≠some g:=fun e=>qV (qx (xG HX1.out hr hx hn) e) (qx HX1.out.2.2.row rfl) (by decide) rfl
   have hogw:w.heap.size≠g:=fun e=>qV (B:=0) (w:=W1) ⟨nZ9 _,_,_,hox1⟩ (qx HX1.out.2.2.row rfl) (by decide) e
   have HD:Hid (∀ (w6:World) (v6:Value),js B w6 v6 (zJ x.attrs nm s)→(∀ b,v6.ownBlock=some b→r.va.ownBlock=some b∨W2.heap.size≤b)→Below 0 W2 w6→(∀ b,b<W2.heap.size→r.va.ownBlock≠some b→w6.heap[b]?=W2.heap[b]?) →
    Did B T N bb w (w6.setCell ⟨g,n*5+2,none⟩ v6) (.slice (some ⟨g,0,none⟩) ns.length cap) ms (ns.set n { x with attrs:=zJ x.attrs nm s })∧(∃ u,w6.cell? ⟨g,n*5+2,none⟩=some u)∧w6.frozen? ⟨g,n*5+2,none⟩=false ∧
    (w6.cell? ⟨w.heap.size,3,none⟩=some (.string nm)∧w6.cell? ⟨w.heap.size,4,none⟩=some (.string s))∧((w6.setCell ⟨g,n*5+2,none⟩ v6).cell? ⟨w.heap.size,3,none⟩=some (.string nm)∧(w6.setCell ⟨g,n*5+2,none⟩ v6).cell? ⟨w.heap.size,4,none⟩=some (.string s))):=by
    intro w6 v6 h1 h2 h3 h4;obtain ⟨p1,p2⟩:=qbq hX2 hr hx hn h1 h3 h4 h2;have hs2:=hb2.size;have hg6:w6.heap[g]?=W1.heap[g]?:=(h4 g (by omega) hgg2).trans (hb2.block g hgl1)
    have ho6:w6.heap[w.heap.size]?=W1.heap[w.heap.size]?:=(h4 _ (by omega) hog2).trans (hb2.block _ hol1)
    exact ⟨⟨_,_,p1,qR.before (hbw1.trans (hb2.mono hbw1.size)) p2⟩,⟨_,(World.cell?_of_block (a:=⟨g,n*5+2,none⟩) hg6).trans j2⟩,by have:=hfz1 (n*5+2);simpa[World.frozen?,hg6] using this,HW4.out w6 ho6,HW4.out _ ((qd hogw).trans ho6)⟩
   have HS1:Hid _:=HW4.out W1.drew rfl;have HS2:Hid _:=HW4.out W2 (hb2.block _ hol1);have j2d:W1.drew.cell? ⟨g,n*5+2,none⟩=some (.slice ga x.attrs.length ca):=j2;have j22:W2.cell? ⟨g,n*5+2,none⟩=some (.slice ga x.attrs.length ca):=by rw[hb2.cell (p:=⟨g,n*5+2,none⟩) hgl1];exact j2
   clear hX2 hA2 hput hvl hvx hox1 hox HF HC HR1 HX1 HX hX hR hr hx hA hAt hva HW4 hh hup k2 hfz hfz1 hpp b0 o1 o3 o4;go_wp2_with fail;refine wp_region_held_drew (S:=fun W:World=>W.cell? ⟨w.heap.size,3,none⟩=some (.string nm)∧W.cell? ⟨w.heap.size,4,none⟩=some (.string s)) (by kernel_rfl) HS1.out (fun hHeld=>?_)
   refine wqi [0,1,2,3,5,6,7,8,9,10] ?_
   repeat (refine wqt (v:=?_) rfl (by kernel_rfl) (fun _ _ _ h=>h) (by rfl) (by assumption) ?_ ?_;rotate_left;(· (intro w hSw;(try dsimp only at hSw);go_simp;try with_reducible rfl));try simp only[Act.put,List.getElem_toArray,List.getElem_cons_succ,List.getElem_cons_zero,List.setIfInBounds_toArray,List.set_cons_zero,List.set_cons_succ])
   refine wqn ?_;refine wpAnyH_ready (rs:=[4,11]) (by kernel_rfl) (by simp) ?_
   refine AllReadyH.cons rfl (fun K hK=>?_) (AllReadyH.cons rfl (fun K hK=>?_) AllReadyH.nil)
   · go_simp;refine hK.out _ _ HS1.out (fun hHeld=>?_)
     clear hK K
     try simp only[Act.put,List.setIfInBounds_toArray,List.set_cons_zero,List.set_cons_succ]
     refine wpAnyH_ready (rs:=[11]) (by kernel_rfl) (by simp) ?_
     refine AllReadyH.cons rfl (fun K hK=>?_) AllReadyH.nil
     go_simp;rw[←hW2];refine hK.out _ _ HS2.out (fun hHeld=>?_)
     clear hK K
     try simp only[Act.put,List.setIfInBounds_toArray,List.set_cons_zero,List.set_cons_succ]
     clear hW2;refine wpAnyH_ready (rs:=[12]) (by kernel_rfl) (by simp) ?_
     refine AllReadyH.cons rfl (fun K hK=>?_) AllReadyH.nil
     refine zy (by rfl) 92 #[.slice ga x.attrs.length ca,.int .i64 (pp:Int),.slice (some ⟨W1.heap.size,0,none⟩) 1 1] (by go_simp) _ HI.out ?_
     rintro v6 w6 ⟨h1,h2,h3,h4⟩;obtain ⟨hDD,⟨u6,z6⟩,f6,hS5,hS6⟩:=HD.out w6 v6 h1 h2 h3 h4;have HDX:Hid _:=hDD;have HS5:Hid _:=hS5;have HS6:Hid _:=hS6;obtain ⟨a6,c6,rfl⟩:∃ a6 c6,v6=.slice a6 (zJ x.attrs nm s).length c6:=by obtain ⟨a,c,h,_⟩:=qC.of_owns h1;exact ⟨a,c,h⟩
     generalize (zJ x.attrs nm s).length=m6 at *
     clear hDD hS5 hS6 h1 h2 h3 h4;refine hK.out _ _ HS5.out (fun hHeld=>?_)
     clear hK K
     try simp only[Act.put,List.setIfInBounds_toArray,List.set_cons_zero,List.set_cons_succ]
     refine wqi [13,14] ?_
     repeat (refine wqt (v:=?_) rfl (by kernel_rfl) (fun _ _ _ h=>h) (by rfl) (by assumption) ?_ ?_;rotate_left;(· (intro w hSw;(try dsimp only at hSw);go_simp;try with_reducible rfl));try simp only[Act.put,List.getElem_toArray,List.getElem_cons_succ,List.getElem_cons_zero,List.setIfInBounds_toArray,List.set_cons_zero,List.set_cons_succ])
     refine wqn ?_;refine wpAnyH_ready (rs:=[15]) (by kernel_rfl) (by simp) ?_
     refine AllReadyH.cons rfl (fun K hK=>?_) AllReadyH.nil
     go_simp;refine hK.out _ _ HS6.out (fun hHeld=>?_)
     clear hK K
     try simp only[Act.put,List.setIfInBounds_toArray,List.set_cons_zero,List.set_cons_succ]
     refine wpAnyH_done (by kernel_rfl) ?_ _
     go_wp2_with fail
     go_returns
     exact ⟨rfl,HDX.out⟩
   · go_simp;rw[←hW2];refine hK.out _ _ HS2.out (fun hHeld=>?_)
     clear hK K
     try simp only[Act.put,List.setIfInBounds_toArray,List.set_cons_zero,List.set_cons_succ]
     clear hW2;refine wpAnyH_ready (rs:=[4]) (by kernel_rfl) (by simp) ?_
     refine AllReadyH.cons rfl (fun K hK=>?_) AllReadyH.nil
     go_simp;refine hK.out _ _ HS2.out (fun hHeld=>?_)
     clear hK K
     try simp only[Act.put,List.setIfInBounds_toArray,List.set_cons_zero,List.set_cons_succ]
     refine wpAnyH_ready (rs:=[12]) (by kernel_rfl) (by simp) ?_
     refine AllReadyH.cons rfl (fun K hK=>?_) AllReadyH.nil
     refine zy (by rfl) 92 #[.slice ga x.attrs.length ca,.int .i64 (pp:Int),.slice (some ⟨W1.heap.size,0,none⟩) 1 1] (by go_simp) _ HI.out ?_
     rintro v6 w6 ⟨h1,h2,h3,h4⟩;obtain ⟨hDD,⟨u6,z6⟩,f6,hS5,hS6⟩:=HD.out w6 v6 h1 h2 h3 h4;have HDX:Hid _:=hDD;have HS5:Hid _:=hS5;have HS6:Hid _:=hS6;obtain ⟨a6,c6,rfl⟩:∃ a6 c6,v6=.slice a6 (zJ x.attrs nm s).length c6:=by obtain ⟨a,c,h,_⟩:=qC.of_owns h1;exact ⟨a,c,h⟩
     generalize (zJ x.attrs nm s).length=m6 at *
     clear hDD hS5 hS6 h1 h2 h3 h4;refine hK.out _ _ HS5.out (fun hHeld=>?_)
     clear hK K
     try simp only[Act.put,List.setIfInBounds_toArray,List.set_cons_zero,List.set_cons_succ]
     refine wqi [13,14] ?_
     repeat (refine wqt (v:=?_) rfl (by kernel_rfl) (fun _ _ _ h=>h) (by rfl) (by assumption) ?_ ?_;rotate_left;(· (intro w hSw;(try dsimp only at hSw);go_simp;try with_reducible rfl));try simp only[Act.put,List.getElem_toArray,List.getElem_cons_succ,List.getElem_cons_zero,List.setIfInBounds_toArray,List.set_cons_zero,List.set_cons_succ])
     refine wqn ?_;refine wpAnyH_ready (rs:=[15]) (by kernel_rfl) (by simp) ?_
     refine AllReadyH.cons rfl (fun K hK=>?_) AllReadyH.nil
     go_simp;refine hK.out _ _ HS6.out (fun hHeld=>?_)
     clear hK K
     try simp only[Act.put,List.setIfInBounds_toArray,List.set_cons_zero,List.set_cons_succ]
     refine wpAnyH_done (by kernel_rfl) ?_ _
     go_wp2_with fail
     go_returns
     exact ⟨rfl,HDX.out⟩
end
section
attribute [local go_sem] qD
theorem Vs (p:Nat)(h:p≤1048576):wrap64 ((p:Int)+1)=(p:Int)+1:=by unfold wrap64;omega
set_option linter.unusedSimpArgs false in
set_option maxHeartbeats 1000000 in
theorem VL (B:Nat)(T:Nat→Prop)(N bb n:Nat)(v:Value)(ns:List Nd)(ms:List Rw)(x:Nd)(o:Opn)(vc:Value)(w:World)(hX:Bx B T N bb w v ns ms)(ho:o.target=(n:Int))(hx:ns[n]?=some x)(hn:n<N)(hup:UpA x.attrs)(hal:x.attrs.length≤1048576) :
 Calls Tryz.prog 63 #[.pointer (some ⟨bb,0,none⟩),.agg #[.int .i64 o.kind,.int .i64 o.target,vc,.string o.name,.string o.s]] w fun e w'=>e=.returned (.tuple #[])∧Did B T N bb w w' v ms (ns.set n { x with attrs:=zP x.attrs o.name }):=by
 obtain ⟨k,tg,ct,nm,s⟩:=o;simp only at ho
 subst ho;obtain ⟨W0,hW0⟩:∃ W0,W0=w.alloc (.cells #[.int .i64 k,.int .i64 (n:Int),vc,.string nm,.string s] 30):=⟨_,rfl⟩;have hb:Below w.heap.size w W0:=by rw[hW0];exact Below.alloc1 w _
 have hox:W0.heap[w.heap.size]?=some (.cells #[.int .i64 k,.int .i64 (n:Int),vc,.string nm,.string s] 30 (0,0)):=by rw[hW0];exact heap_alloc_new _ _
 have HX:Hid (Bx B T N bb W0 v ns ms):=hX.later hb;obtain ⟨r,hr,hR⟩:=HX.out.2.2.get hx;obtain ⟨g,cap,rfl,hcl,hcm,hgB,hgl,_,_,k2,_,_,hfz⟩:=HX.out.2.2.at hr
 have hnl:n<ns.length:=(List.getElem?_eq_some_iff.1 hx).1;have hni:(n:Int)<(ns.length:Int):=by omega
 have hA:=hR.own hn;have b0:W0.cell? ⟨bb,0,none⟩=some (.slice (some ⟨g,0,none⟩) ns.length cap):=by rw[cH9 HX.out.1];rfl
 have o1:W0.cell? ⟨w.heap.size,1,none⟩=some (.int .i64 (n:Int)):=by rw[cH9 hox];rfl
 have o3:W0.cell? ⟨w.heap.size,3,none⟩=some (.string nm):=by rw[cH9 hox];rfl
 have hAt:qC (fun b=>b<W0.heap.size) W0 r.va x.attrs:=by
  have h1:=qC.of_owns hA;exact h1.carry fun b hb=>⟨hb.lt,rfl⟩
 obtain ⟨ga,ca,hva⟩:∃ ga ca,r.va=.slice ga x.attrs.length ca:=by obtain ⟨a,c,h,_⟩:=hAt;exact ⟨a,c,h⟩
 rw[hva]at k2
 have HF:Hid (∀ W,Below W0.heap.size W0 W→Calls Tryz.prog 91 #[.slice ga x.attrs.length ca,.string nm] W fun e w'=>e=.returned (.tuple #[.int .i64 (yo x.attrs nm:Int),.bool (jU x.attrs nm)])∧Below W.heap.size W w'):=fun W h=>by
  rw[←hva];have hs:=h.size;exact Qs (fun b=>b<W0.heap.size) r.va x.attrs nm W (hAt.later h) (fun b hb=>by omega) hup hal
 have HC:Hid (∀ W,Below W0.heap.size W0 W→Below W0.heap.size W0 W∧W.cell? ⟨bb,0,none⟩=some (.slice (some ⟨g,0,none⟩) ns.length cap)∧W.cell? ⟨w.heap.size,1,none⟩=some (.int .i64 (n:Int))∧W.cell? ⟨w.heap.size,3,none⟩=some (.string nm)∧W.cell? ⟨g,n*5+2,none⟩=some (.slice ga x.attrs.length ca)):=by
  intro W h;have hbl:=qA HX.out.1;have hol:=qA hox;exact ⟨h,by rw[h.cell (p:=⟨bb,0,none⟩) hbl];exact b0,by rw[h.cell (p:=⟨w.heap.size,1,none⟩) hol];exact o1,by rw[h.cell (p:=⟨w.heap.size,3,none⟩) hol];exact o3,by rw[h.cell (p:=⟨g,n*5+2,none⟩) hgl];exact k2⟩
 have hbn:Below W0.heap.size W0 W0.drew:=⟨rfl,rfl,rfl,nR9 _,fun _ _=>rfl⟩
 unfold maxLen at hcm
 go_enter Tryz.func63,Tryz.ntmps63
 go_wp2_with fail;rw[←hW0];clear hW0
 go_region_held3 (fun W:World=>Below W0.heap.size W0 W∧W.cell? ⟨bb,0,none⟩=some (.slice (some ⟨g,0,none⟩) ns.length cap)∧W.cell? ⟨w.heap.size,1,none⟩=some (.int .i64 (n:Int))∧W.cell? ⟨w.heap.size,3,none⟩=some (.string nm)∧W.cell? ⟨g,n*5+2,none⟩=some (.slice ga x.attrs.length ca))
  (first|with_reducible exact HC.out _ hbn)
  (fail)
 have hbn:Below W0.heap.size W0 W0.drew.drew:=⟨rfl,rfl,rfl,nR9 _,fun _ _=>rfl⟩
 go_wp2_with fail
 go_region_held3 (fun W:World=>Below W0.heap.size W0 W∧W.cell? ⟨bb,0,none⟩=some (.slice (some ⟨g,0,none⟩) ns.length cap)∧W.cell? ⟨w.heap.size,1,none⟩=some (.int .i64 (n:Int))∧W.cell? ⟨w.heap.size,3,none⟩=some (.string nm)∧W.cell? ⟨g,n*5+2,none⟩=some (.slice ga x.attrs.length ca))
  (first|with_reducible exact HC.out _ hbn)
  (first|(go_at_call 91;refine (Calls.mono (HF.out _ hbn) ?_);rintro e W1 ⟨rfl,hb1⟩;have hbn:=hbn.trans (hb1.mono hbn.size)))
 have HX1:Hid (Bx B T N bb W1 (.slice (some ⟨g,0,none⟩) ns.length cap) ns ms):=HX.out.later hbn;have HR1:Hid _:=HX1.out.2.2.each n r x hr hx;obtain ⟨g1,cap1,hv1,_,_,_,hgl1,_,_,j2,_,_,hfz1⟩:=HX1.out.2.2.at hr
 injection hv1 with hv1 _ hv3
 injection hv1 with hv1
 injection hv1 with hv1 _ _
 subst hv1 hv3;rw[hva]at j2
 have hol1:w.heap.size<W1.heap.size:=Nat.lt_of_lt_of_le (qA hox) hbn.size;have hox1:W1.heap[w.heap.size]?=some (.cells #[.int .i64 k,.int .i64 (n:Int),vc,.string nm,.string s] 30 (0,0)):=(hbn.block _ (qA hox)).trans hox;have hbw1:Below w.heap.size w W1:=hb.trans (hbn.mono hb.size);obtain ⟨pp,hpp⟩:∃ p,yo x.attrs nm=p:=⟨_,rfl⟩;have hple:=qac x.attrs nm;rw[hpp]at hple ⊢
 cases hh:jU x.attrs nm with
 | true =>
   obtain ⟨y,hy,hyn⟩:=Qu hh;rw[hpp]at hy
   have hpl:=qy hy;have hA1:=xG HX1.out hr hx hn;have hcut:x.attrs.take pp++x.attrs.drop (pp+1)=zP x.attrs nm:=by rw[←hpp];exact Kh hup hh
   have HI:Hid (Calls Tryz.prog 93 #[.slice ga x.attrs.length ca,.int .i64 (pp:Int),.int .i64 ((pp:Int)+1)] W1 fun e w'=>∃ v',e=.returned v'∧js B w' v' (zP x.attrs nm)∧v'.ownBlock=r.va.ownBlock∧Below 0 W1 w'∧(∀ b,r.va.ownBlock≠some b→w'.heap[b]?=W1.heap[b]?)):=by
    have:=Jh B pp r.va x.attrs W1 hA1 hpl;rw[hcut,hva]at this
    rw[hva];exact this
   have hgg2:r.va.ownBlock≠some g:=fun e=>qV (qx hA1 e) (qx HX1.out.2.2.row rfl) (by decide) rfl
   have HD:Hid (∀ (w6:World) (v6:Value),js B w6 v6 (zP x.attrs nm)→v6.ownBlock=r.va.ownBlock→Below 0 W1 w6→(∀ b,r.va.ownBlock≠some b→w6.heap[b]?=W1.heap[b]?) →
    Did B T N bb w (w6.setCell ⟨g,n*5+2,none⟩ v6) (.slice (some ⟨g,0,none⟩) ns.length cap) ms (ns.set n { x with attrs:=zP x.attrs nm })∧(∃ u,w6.cell? ⟨g,n*5+2,none⟩=some u)∧w6.frozen? ⟨g,n*5+2,none⟩=false):=by
    intro w6 v6 h1 h2 h3 h4;obtain ⟨p1,p2⟩:=qbq HX1.out hr hx hn h1 h3 (fun b _ hb=>h4 b hb) (fun b hb=>Or.inl (h2 ▸ hb))
    have hg6:w6.heap[g]?=W1.heap[g]?:=h4 g hgg2;exact ⟨⟨_,_,p1,qR.before hbw1 p2⟩,⟨_,(World.cell?_of_block (a:=⟨g,n*5+2,none⟩) hg6).trans j2⟩,by have:=hfz1 (n*5+2);simpa[World.frozen?,hg6] using this⟩
   have hppi:(pp:Int)<(x.attrs.length:Int):=Int.ofNat_lt.2 hpl;have hwr:wrap64 ((pp:Int)+1)=(pp:Int)+1:=Vs pp (Nat.le_trans (Nat.le_of_lt hpl) hal);clear hA1 hcut hox1 hox HF HC HR1 HX1 HX hX hR hr hx hA hAt hva hh hup k2 hfz hfz1 hpp b0 o1 o3 hy hyn hgg2;go_wp2_with fail
   first|rw[hwr]|skip
   refine (Calls.mono HI.out ?_);rintro e w6 ⟨v6,rfl,h1,h2,h3,h4⟩;obtain ⟨hDD,⟨u6,z6⟩,f6⟩:=HD.out w6 v6 h1 h2 h3 h4;have HDX:Hid _:=hDD;obtain ⟨a6,c6,rfl⟩:∃ a6 c6,v6=.slice a6 (zP x.attrs nm).length c6:=by obtain ⟨a,c,h,_⟩:=qC.of_owns h1;exact ⟨a,c,h⟩
   generalize (zP x.attrs nm).length=m6 at *
   clear hDD h1 h2 h3 h4;go_wp2_with fail
   go_returns
   exact ⟨rfl,HDX.out⟩
 | false =>
   have hcut:zP x.attrs nm=x.attrs:=Ki hup hh
   have hsame:ns.set n { x with attrs:=zP x.attrs nm }=ns:=by
    rw[hcut];have:ns[n]=x:=by rw[List.getElem?_eq_getElem hnl]at hx;exact Option.some.inj hx
    conv=>lhs;rw[show ({ x with attrs:=x.attrs }:Nd)=x from rfl,←this,List.set_getElem_self]
   have HDX:Hid (Did B T N bb w W1 (.slice (some ⟨g,0,none⟩) ns.length cap) ms (ns.set n { x with attrs:=zP x.attrs nm })):=by
    show Did _ _ _ _ _ _ _ _ _
    rw[hsame];exact ⟨_,_,HX1.out,qR.before hbw1 (qR.refl _ _ _ _ _)⟩
   clear hcut hsame hox1 hox HF HC HR1 HX1 HX hX hR hr hx hA hAt hva hh hup k2 hfz hfz1 hpp b0 o1 o3 j2;go_wp2_with fail
   go_returns
   exact ⟨rfl,HDX.out⟩
end
section
structure Rdy (ns0 ns:List Nd) (σ:Nat→Sg) (m:Nat) (o:Opn) (n:Nat) (x y:Nd):Prop where
 good:qM ns0=true
 bch:Bch ns0 σ ns
 wrong:ze ns0 o=0
 tgt:o.target=(n:Int)
 nat:o.target.toNat=n
 lt:n<ns0.length
 x0:ns0[n]?=some x
 y0:ns[n]?=some y
 text:y.text=x.text
 attrs:y.attrs=(σ n).attrs
 bnd:Bnd m ns
 lo:80≤m
 hi:m≤1000000
 con:OkC 8 o.content
theorem qbH {ns0 ns:List Nd}{σ:Nat→Sg}{m:Nat}{o:Opn}(hg:qM ns0=true)(h:Bch ns0 σ ns)(hw:ze ns0 o=0)(hb:Bnd m ns)(lo:80≤m)(hi:m≤1000000):∃ n x y,Rdy ns0 ns σ m o n x y:=by
 have ho:=(jq hw).1;have hlt:=ho.lt;obtain ⟨x,hx⟩:∃ x,ns0[o.target.toNat]?=some x:=⟨ns0[o.target.toNat]'hlt,by simp[hlt]⟩
 obtain ⟨y,g1,g2,_,g4,_⟩:=h.each _ x hx;exact ⟨o.target.toNat,x,y,hg,h,hw,by have:=ho.pos;omega,rfl,hlt,hx,g1,g2,g4,hb,lo,hi,Zs hw⟩
section
variable {B : Nat} {T : Nat → Prop} {bb : Nat} {ns0 ns : List Nd} {σ : Nat → Sg} {m n : Nat} {o : Opn} {x y : Nd}
theorem Rdy.mem (h:Rdy ns0 ns σ m o n x y):y∈ns:=List.mem_of_getElem? h.y0
theorem Rdy.room (h:Rdy ns0 ns σ m o n x y):ns.length+cnt (8+1) o.content≤1048576:=by
 have h1:=h.bnd.1;have h2:=h.hi;have h3:=h.con.cnt;have h4:cnt (8+1) o.content≤80:=h3;omega
theorem qb8 (h:Rdy ns0 ns σ m o n x y):y5 B T ns0.length bb 8 61 8 ns o∧Bnd (m+81) (zg 8 8 ns o):=by
 have e:zg 8 8 ns o=ns.set n { y with s:=o.name }:=by
  show ns.modify o.target.toNat (fun y=>{ y with s:=o.name })=_
  rw[h.nat];exact yu _ h.y0
 refine ⟨fun W v ms ca cc hX _=>?_,?_⟩
 · rw[e];exact XM B T ns0.length bb n v ns ms y o _ W hX h.tgt h.y0
 · have h3 : Bnd m (zg 8 8 ns o) := h.bnd.modify o.target.toNat (fun y => { y with s := o.name }) (fun y h1 h2 => ⟨h1, h2⟩)
   exact h3.more (Nat.le_add_right _ _)
theorem qb9 (h:Rdy ns0 ns σ m o n x y)(hup:UpA (σ n).attrs):y5 B T ns0.length bb 8 62 9 ns o∧Bnd (m+81) (zg 8 9 ns o):=by
 have e:zg 8 9 ns o=ns.set n { y with attrs:=zJ y.attrs o.name o.s }:=by
  show ns.modify o.target.toNat (fun y=>{ y with attrs:=zJ y.attrs o.name o.s })=_
  rw[h.nat];exact yu (fun y=>{ y with attrs:=zJ y.attrs o.name o.s }) h.y0
 have hup2:UpA y.attrs:=by rw[h.attrs];exact hup
 have hyb:=h.bnd.2 y h.mem;have hhi:=h.hi;refine ⟨fun W v ms ca cc hX _=>?_,?_⟩
 · rw[e];exact qbi B T ns0.length bb n v ns ms y o _ W hX h.tgt h.y0 h.lt hup2 (by omega)
 · rw[e];refine ⟨by rw[List.length_set];have:=h.bnd.1;omega,fun z hz=>?_⟩
   rcases List.mem_or_eq_of_mem_set hz with hz|rfl
   · have:=h.bnd.2 z hz;omega
   · exact ⟨by show y.kids.length≤_;omega,by have:=qbc hup2 o.name o.s;show (zJ y.attrs o.name o.s).length≤_;omega⟩
theorem qbB (h:Rdy ns0 ns σ m o n x y)(hup:UpA (σ n).attrs):y5 B T ns0.length bb 8 63 10 ns o∧Bnd (m+81) (zg 8 10 ns o):=by
 have e:zg 8 10 ns o=ns.set n { y with attrs:=zP y.attrs o.name }:=by
  show ns.modify o.target.toNat (fun y=>{ y with attrs:=zP y.attrs o.name })=_
  rw[h.nat];exact yu (fun y=>{ y with attrs:=zP y.attrs o.name }) h.y0
 have hup2:UpA y.attrs:=by rw[h.attrs];exact hup
 have hyb:=h.bnd.2 y h.mem;have hhi:=h.hi;refine ⟨fun W v ms ca cc hX _=>?_,?_⟩
 · rw[e];exact VL B T ns0.length bb n v ns ms y o _ W hX h.tgt h.y0 h.lt hup2 (by omega)
 · rw[e];refine ⟨by rw[List.length_set];have:=h.bnd.1;omega,fun z hz=>?_⟩
   rcases List.mem_or_eq_of_mem_set hz with hz|rfl
   · have:=h.bnd.2 z hz;omega
   · exact ⟨by show y.kids.length≤_;omega,by have:=qaR y.attrs hup2 o.name;show (zP y.attrs o.name).length≤_;omega⟩
theorem qbU (h:Rdy ns0 ns σ m o n x y):y5 B T ns0.length bb 8 66 1 ns o∧Bnd (m+81) (zg 8 1 ns o):=by
 have e:zg 8 1 ns o=zK 8 ns n 0 o.content:=by
  show zK 8 ns o.target.toNat 0 o.content=_
  rw[h.nat]
 have hyb:=h.bnd.2 y h.mem;have hhi:=h.hi;rw[e];exact ⟨fun W v ms ca cc hX hT=>by rw[e];exact YL B T ns0.length bb 8 n v ns ms y o ca cc W hX h.tgt h.y0 hT h.bch.len h.room (by omega),h.bnd.put h.lo _ _ h.con⟩
theorem qbV (h:Rdy ns0 ns σ m o n x y):y5 B T ns0.length bb 8 65 2 ns o∧Bnd (m+81) (zg 8 2 ns o):=by
 have e:zg 8 2 ns o=zK 8 ns n y.kids.length o.content:=by
  show Km 8 ns o.target.toNat o.content=_
  unfold Km jP;rw[h.nat,h.y0]
 have hyb:=h.bnd.2 y h.mem;have hhi:=h.hi;rw[e];exact ⟨fun W v ms ca cc hX hT=>by rw[e];exact JU B T ns0.length bb 8 n v ns ms y o ca cc W hX h.tgt h.y0 hT h.bch.len h.room (by omega),h.bnd.put h.lo _ _ h.con⟩
theorem qbW (h:Rdy ns0 ns σ m o n x y)(hv:∀ n,(σ n).val=none)(h0:n≠0)(hgo:(σ n).gone=false):y5 B T ns0.length bb 8 64 3 ns o∧Bnd (m+81) (zg 8 3 ns o):=by
 obtain ⟨p,x',z,g1,g2,g3,g4,g5,g6,_,_⟩:=h.bch.spot h.good hv h.x0 h0;obtain ⟨f1,f2⟩:=g6 hgo
 have e:zg 8 3 ns o=zK 8 ns p (atN ns n) o.content:=by
  show Ze 8 ns o.target.toNat o.content=_
  unfold Ze;rw[h.nat,g4]
 have hyb:=h.bnd.2 z (List.mem_of_getElem? g3);have hhi:=h.hi;rw[e];exact ⟨fun W v ms ca cc hX hT=>by rw[e];exact xY B T ns0.length bb 8 n v ns ms x' o ca cc W hX h.tgt g1 hT h.bch.len h.room p (atN ns n) z g2 g3 f1 f2 (by omega),h.bnd.put h.lo _ _ h.con⟩
theorem qbX (h:Rdy ns0 ns σ m o n x y)(hv:∀ n,(σ n).val=none)(h0:n≠0)(hgo:(σ n).gone=false):y5 B T ns0.length bb 8 67 4 ns o∧Bnd (m+81) (zg 8 4 ns o):=by
 obtain ⟨p,x',z,g1,g2,g3,g4,g5,g6,_,_⟩:=h.bch.spot h.good hv h.x0 h0;obtain ⟨f1,f2⟩:=g6 hgo
 have e:zg 8 4 ns o=zK 8 ns p (atN ns n+1) o.content:=by
  show qaF 8 ns o.target.toNat o.content=_
  unfold qaF;rw[h.nat,g4]
 have hyb:=h.bnd.2 z (List.mem_of_getElem? g3);have hhi:=h.hi;rw[e];exact ⟨fun W v ms ca cc hX hT=>by rw[e];exact YK B T ns0.length bb 8 n v ns ms x' o ca cc W hX h.tgt g1 hT h.bch.len h.room p (atN ns n) z g2 g3 f1 f2 (by omega),h.bnd.put h.lo _ _ h.con⟩
theorem Bnd.out {m:Nat}{ns:List Nd}(h:Bnd m ns)(p at':Nat):Bnd m (ZP ns p at'):=by
 refine h.modify _ _ (fun y h1 h2=>⟨?_,h2⟩)
 show (y.kids.take at'++y.kids.drop (at'+1)).length≤m
 rw[List.length_append,List.length_take,List.length_drop];omega
theorem qbY (h:Rdy ns0 ns σ m o n x y)(hv:∀ n,(σ n).val=none)(h0:n≠0):y5 B T ns0.length bb 8 69 5 ns o∧Bnd (m+81) (zg 8 5 ns o):=by
 obtain ⟨p,x',z,g1,g2,g3,g4,g5,g6,g7,_⟩:=h.bch.spot h.good hv h.x0 h0;cases hgo:(σ n).gone with
 | false =>
   obtain ⟨f1,f2⟩:=g6 hgo
   have e:zg 8 5 ns o=ns.set p { z with kids:=z.kids.take (atN ns n)++z.kids.drop (atN ns n+1) }:=by
    show QK ns o.target.toNat=_
    unfold QK;rw[h.nat,g4,g5,if_pos f2];exact yu (fun y=>{ y with kids:=y.kids.take (atN ns n)++y.kids.drop (atN ns n+1) }) g3
   refine ⟨fun W v ms ca cc hX _=>by rw[e];exact QE B T ns0.length bb n p (atN ns n) v ns ms x' z o _ W hX h.tgt g1 g2 g3 f1 f2,?_⟩
   have:zg 8 5 ns o=ZP ns p (atN ns n):=by
    show QK ns o.target.toNat=_
    unfold QK;rw[h.nat,g4,g5,if_pos f2]
   rw[this];exact (h.bnd.out _ _).more (by omega)
 | true =>
   have hk:=g7 hgo
   have hat:¬ atN ns n<z.kids.length:=by
    have h1:atN ns n=z.kids.findIdx (fun u=>u==(n:Int)):=by unfold atN;rw[g4,g5]
    intro hlt;rw[Zp,←h1,if_pos hlt]at hk
    omega
   have e:zg 8 5 ns o=ns:=by
    show QK ns o.target.toNat=_
    unfold QK;rw[h.nat,g4,g5,if_neg hat]
   exact ⟨fun W v ms ca cc hX _=>by rw[e];exact YT B T ns0.length bb n p v ns ms x' z o _ W hX h.tgt g1 g2 g3 hk,by rw[e];exact h.bnd.more (by omega)⟩
theorem qbZ (h:Rdy ns0 ns σ m o n x y)(hv:∀ n,(σ n).val=none)(h0:n≠0)(hgo:(σ n).gone=false):y5 B T ns0.length bb 8 68 6 ns o∧Bnd (m+81) (zg 8 6 ns o):=by
 obtain ⟨p,x',z,g1,g2,g3,g4,g5,g6,_,_⟩:=h.bch.spot h.good hv h.x0 h0;obtain ⟨f1,f2⟩:=g6 hgo;obtain ⟨p',z',A,C,hs,hp⟩:=QQ h.good hv h.x0 h0;obtain ⟨q1,q2,_⟩:=h.bch.at hs h.x0 hp
 obtain ⟨q3,_⟩:=q2 hgo;have hpp:p'=p:=by rw[←q1,g4]
 subst hpp;have hb2:=h.bch.bef hs o h.con.deep;rw[←q3]at hb2
 have hv2:∀ k,(upd σ n (Qa o) k).val=none:=fun k=>by unfold upd;split<;>exact hv _
 have hgo2:(upd σ n (Qa o) n).gone=false:=by rw[zQ];exact hgo
 obtain ⟨p2,x2,y2,k1,k2,k3,k4,k5,k6,_,_⟩:=hb2.spot h.good hv2 h.x0 h0;obtain ⟨j1,j2⟩:=k6 hgo2
 have hp2:p2=p':=by
  have e1:x2.parent=x'.parent:=by
   obtain ⟨a,a1,_,_,_,a5,_⟩:=hb2.each n x h.x0;obtain ⟨b,b1,_,_,_,b5,_⟩:=h.bch.each n x h.x0;rw[k1]at a1
   rw[g1]at b1
   rw[Option.some.inj a1,Option.some.inj b1,a5,b5]
  rw[k2,g2]at e1
  omega
 subst hp2;have eb:Ze 8 ns n o.content=zK 8 ns p2 (atN ns n) o.content:=by unfold Ze;rw[g4]
 have e0:zg 8 6 ns o=ZP (zK 8 ns p2 (atN ns n) o.content) p2 (atN (zK 8 ns p2 (atN ns n) o.content) n):=by
  show QK (Ze 8 ns o.target.toNat o.content) o.target.toNat=_
  rw[h.nat,eb];unfold QK;rw[k4,k5,if_pos j2]
 have e:zg 8 6 ns o=(zK 8 ns p2 (atN ns n) o.content).set p2 { y2 with kids:=y2.kids.take (atN (zK 8 ns p2 (atN ns n) o.content) n)++y2.kids.drop (atN (zK 8 ns p2 (atN ns n) o.content) n+1) }:=by
  rw[e0];exact yu (fun y=>{ y with kids:=y.kids.take (atN (zK 8 ns p2 (atN ns n) o.content) n)++y.kids.drop (atN (zK 8 ns p2 (atN ns n) o.content) n+1) }) k3
 have hyb:=h.bnd.2 z (List.mem_of_getElem? g3);have hhi:=h.hi;refine ⟨fun W v ms ca cc hX hT=>by rw[e];exact JV B T ns0.length bb 8 n v ns ms x' o ca cc W hX h.tgt g1 hT h.bch.len h.room p2 (atN ns n) z g2 g3 f1 f2 (by omega) _ x2 y2 k1 k2 k3 j1 j2,?_⟩
 rw[e0];exact (h.bnd.put h.lo _ _ h.con).out _ _
theorem qb7 (h:Rdy ns0 ns σ m o n x y):y5 B T ns0.length bb 8 70 7 ns o∧Bnd (m+81) (zg 8 7 ns o):=by
 have hb:=h.bnd;have hhi:=h.hi;have hlo:=h.lo;cases ht:y.text with
 | true =>
   have e:zg 8 7 ns o=ns.modify n (fun y=>{ y with s:=o.s }):=by
    show Vr ns o.target.toNat o.s=_
    unfold Vr;rw[h.nat,h.y0];simp only[ht,if_true]
   refine ⟨fun W v ms ca cc hX _=>?_,?_⟩
   · rw[e, yu (fun y => { y with s := o.s }) h.y0]
     exact X9 B T ns0.length bb n v ns ms y o _ W hX h.tgt h.y0 ht
   · rw[e];have h3:Bnd m (ns.modify n (fun y=>{ y with s:=o.s })):=hb.modify n _ (fun y h1 h2=>⟨h1,h2⟩)
     exact h3.more (Nat.le_add_right _ _)
 | false =>
   have e:zg 8 7 ns o=ZX ns n o.s:=by
    show Vr ns o.target.toNat o.s=_
    unfold Vr;rw[h.nat,h.y0];simp only[ht,Bool.false_eq_true,if_false]
   have hy2:(ns++[(⟨true,o.s,[],(n:Int),[]⟩:Nd)])[n]?=some y:=by rw[List.getElem?_append_left (qy h.y0)];exact h.y0
   refine ⟨fun W v ms ca cc hX _=>?_,?_⟩
   · rw[e];have:=X8 B T ns0.length bb n v ns ms y o (.slice ca o.content.length cc) W hX h.tgt h.y0 ht h.bch.len (by have:=hb.1;omega)
     unfold ZX;rw[yu (fun y=>{ y with kids:=[(ns.length:Int)] }) hy2]
     exact this
   · rw[e];unfold ZX
     have h2:Bnd (m+81) (ns++[(⟨true,o.s,[],(n:Int),[]⟩:Nd)]):=by
      refine ⟨by rw[List.length_append];have:=hb.1;show _+1≤_;omega,fun z hz=>?_⟩
      rcases List.mem_append.1 hz with hz|hz
      · have:=hb.2 z hz;omega
      · simp at hz;subst hz;exact ⟨nZ9 _,nZ9 _⟩
     exact h2.modify _ _ (fun y h1 h2=>⟨by show 1≤_;omega,h2⟩)
end
end
end Go.Proofs.YtnppmdpmippcoaaGreatDoor
namespace Go.Proofs.YtnppmdpmippcoaaGreatDoor
open Go.RowKit
set_option maxRecDepth 100000
section
def zN (g:Nat→Nat):Nat→List Tr→Nat
 | 0,_=>0
 | n+1,ts=>(ts.map fun t=>g t.s.size+zN g n t.kids).sum
variable {g : Nat → Nat}
theorem zL (n:Nat):zN g n []=0:=by cases n<;>rfl
theorem ye (n:Nat)(t:Tr)(r:List Tr):zN g (n+1) (t::r)=g t.s.size+zN g n t.kids+zN g (n+1) r:=by simp[zN]
theorem zl (n:Nat)(a b:List Tr):zN g n (a++b)=zN g n a+zN g n b:=by
 cases n with
 | zero=>rfl
 | succ n=>simp[zN]
theorem sumN_cnt:∀ (n:Nat)(ts:List Tr),zN (fun _=>1) n ts=cnt n ts:=by
 intro n
 induction n with
 | zero=>intro ts;rfl
 | succ n ih=>intro ts;simp[zN,cnt,ih]
theorem sumN_wide:∀ {d:Nat}{ts:List Tr},Deep d ts→∀ {n:Nat},d≤n→zN g n ts=zN g d ts:=by
 intro d
 induction d with
 | zero=>intro ts h n _;have e:ts=[]:=h;subst e;rw[zL,zL]
 | succ d ih =>
   intro ts h n hn;obtain ⟨m,rfl⟩:∃ m,n=m+1:=⟨n-1,by omega⟩
   have:∀ l:List Tr,(∀ t∈l,Deep d t.kids)→zN g (m+1) l=zN g (d+1) l:=by
    intro l
    induction l with
    | nil=>intro _;rw[zL,zL]
    | cons t l ihl =>
      intro hl;rw[ye,ye,ih (hl t List.mem_cons_self) (by omega),ihl (fun u hu=>hl u (List.mem_cons_of_mem _ hu))]
   exact this ts h
def zB (C:Nat→Nat):Nat→Nat→Nat
 | _,0=>0
 | a,k+1=>C a+zB C (a+1) k
theorem Vk (C:Nat→Nat):∀ (k a m:Nat),zB C a (k+m)=zB C a k+zB C (a+k) m:=by
 intro k
 induction k with
 | zero=>intro a m;simp[zB]
 | succ k ih =>
   intro a m;rw[show k+1+m=(k+m)+1 by omega,zB,zB,ih,show a+1+k=a+(k+1) by omega]
   omega
theorem X0 {C D:Nat→Nat}:∀ (k a:Nat),(∀ m,a≤m→m<a+k→C m≤D m)→zB C a k≤zB D a k:=by
 intro k
 induction k with
 | zero=>intro a _;exact nR9 _
 | succ k ih =>
   intro a h;rw[zB,zB];have h1:=h a (nR9 _) (by omega)
   have h2:=ih (a+1) (fun m h1 h2=>h m (by omega) (by omega))
   omega
theorem Vl {C D:Nat→Nat}{j W:Nat}(hj:C j≤D j+W)(hne:∀ m,m≠j→C m≤D m):∀ (k a:Nat),zB C a k≤zB D a k+W:=by
 intro k
 induction k with
 | zero=>intro a;simp[zB]
 | succ k ih =>
   intro a;rw[zB,zB]
   by_cases ha:a=j
   · subst ha;have:=X0 (C:=C) (D:=D) k (a+1) (fun m h1 _=>hne m (by omega))
     omega
   · have h1 := hne a ha;have h2:=ih (a+1);omega
theorem J2 (C:Nat→Nat):∀ (k a:Nat),zB C (a+1) k=zB (fun m=>C (m+1)) a k:=by
 intro k
 induction k with
 | zero=>intro a;rfl
 | succ k ih=>intro a;rw[zB,zB,ih]
theorem XZ {α:Type}(h:α→Nat):∀ (l:List α)(C:Nat→Nat),(∀ (m:Nat)(x:α),l[m]?=some x→C m≤h x)→zB C 0 l.length≤(l.map h).sum:=by
 intro l
 induction l with
 | nil=>intro C _;exact nR9 _
 | cons x l ih =>
   intro C hC;rw[List.length_cons,zB,J2,List.map_cons,List.sum_cons];have h1:=hC 0 x rfl;have h2:=ih (fun m=>C (m+1)) (fun m y hy=>hC (m+1) y (by simpa using hy))
   omega
def cW (g:Nat→Nat)(ns:List Nd)(σ:Nat→Sg)(m:Nat):Nat :=
 (match ns[m]? with|some x=>g (sK σ m x).size|none=>0)+(match (σ m).val with|some s=>g s.size|none=>0)+zN g 9 (σ m).first+zN g 9 (σ m).last+zN g 9 (σ m).bef+zN g 9 (σ m).aft
def opW (g:Nat→Nat)(o:Opn):Nat:=zN g 9 o.content+g o.name.size+2*g o.s.size
theorem Zj {l:List Tr}(h:∀ k∈l,Deep 8 k.kids):Deep 9 l:=h
theorem xJ (f:Nat→Tr)(l:List Tr):(zp l).map (Sum.elim f id)=l:=by
 unfold zp;rw[List.map_map]
 induction l with
 | nil=>rfl
 | cons t l ih=>rw[List.map_cons,ih];rfl
theorem VH {ns:List Nd}{σ:Nat→Sg}(hσ:∀ n,xi (σ n)):∀ (d:Nat)(t:Tr)(par:Int)(a f:Nat),Deep d t.kids→Seg ns a (layF d t par a)→cnt (d+1) [t]≤f →
 zN g (f+9+1) [bodyF f ns σ a]+zN g 9 (σ a).bef+zN g 9 (σ a).aft≤zB (cW g ns σ) a (cnt (d+1) [t]):=by
 intro d
 induction d with
 | zero =>
   intro t par a f hd hs hf;have e:t.kids=[]:=hd;rw[qL,e,qQ]at hf ⊢
   obtain ⟨f,rfl⟩:∃ f',f=f'+1:=⟨f-1,by omega⟩
   have hx:ns[a]?=some ⟨t.text,t.s,t.attrs,par,[]⟩:=hs 0 _ rfl;rw[bodyF,hx,zB,zB,ye,zL];unfold cW;rw[hx];simp only[zF,zZ,List.flatMap_nil,List.nil_append]
   have key:zN g (f+1+9) (List.map (Sum.elim (fun k=>bodyF f ns σ k) id) (zp (σ a).first++zp (σ a).last))=zN g 9 (σ a).first+zN g 9 (σ a).last:=by
    rw[List.map_append,xJ,xJ,zl,sumN_wide (Zj (hσ a).1) (by omega),sumN_wide (Zj (hσ a).2.1) (by omega)]
   cases ht:t.text with
   | true =>
     simp only[if_true];rw[key];omega
   | false =>
     simp only[Bool.false_eq_true,if_false];cases hv:(σ a).val with
     | none =>
       simp only;rw[key];omega
     | some s =>
       simp only[List.map_cons,List.map_nil,Sum.elim_inr,id];rw[ye,zL];simp only[valT,zL];omega
 | succ d ih =>
   intro t par a f hd hs hf;rw[qL]at hf ⊢
   obtain ⟨f,rfl⟩:∃ f',f=f'+1:=⟨f-1,by omega⟩
   have hx:ns[a]?=some ⟨t.text,t.s,t.attrs,par,qB d (a+1) t.kids⟩:=hs 0 _ rfl;have hsk:Seg ns (a+1) (qG d (layF d) a (a+1) t.kids):=Seg.tail hs
   have kids:∀ (ks:List Tr) (b:Nat),Deep (d+1) ks→Seg ns b (qG d (layF d) a b ks)→cnt (d+1) ks≤f→zN g (f+1+9) (((qB d b ks).flatMap (fun u=>qX (σ u.toNat) u.toNat)).map (Sum.elim (fun k=>bodyF f ns σ k) id))≤zB (cW g ns σ) b (cnt (d+1) ks):=by
    intro ks
    induction ks with
    | nil=>intro b _ _ _;rw[qB,List.flatMap_nil,List.map_nil,zL];exact nZ9 _
    | cons k ks ihk =>
      intro b hdk hsg hc;rw[qZ d k ks]at hc ⊢
      rw[qG]at hsg
      have hl:=layF_length d k (a:Int) b (hdk k List.mem_cons_self);have h1:=ih k a b f (hdk k List.mem_cons_self) hsg.left (by omega)
      have h2:=hsg.right;rw[hl]at h2
      have h3:=ihk (b+cnt (d+1) [k]) (fun u hu=>hdk u (List.mem_cons_of_mem _ hu)) h2 (by omega)
      rw[qB,List.flatMap_cons,List.map_append,zl,Vk,Int.toNat_natCast]
      have h4:zN g (f+1+9) ((qX (σ b) b).map (Sum.elim (fun k=>bodyF f ns σ k) id))≤zN g (f+9+1) [bodyF f ns σ b]+zN g 9 (σ b).bef+zN g 9 (σ b).aft:=by
       unfold qX xz;rw[List.map_append,List.map_append,xJ,xJ,zl,zl,sumN_wide (Zj (hσ b).2.2.1) (by omega),sumN_wide (Zj (hσ b).2.2.2) (by omega)]
       cases (σ b).gone with
       | true=>simp only[if_true,List.map_nil,zL];omega
       | false =>
         simp only[Bool.false_eq_true,if_false,List.map_cons,List.map_nil,Sum.elim_inl];rw[show f+1+9=f+9+1 by omega]
         omega
      omega
   have hK:=kids t.kids (a+1) hd hsk (by omega)
   rw[bodyF,hx,show 1+cnt (d+1) t.kids=cnt (d+1) t.kids+1 by omega,zB,ye,zL]
   have hc:cW g ns σ a=g (sK σ a ⟨t.text,t.s,t.attrs,par,qB d (a+1) t.kids⟩).size+(match (σ a).val with|some s=>g s.size|none=>0)+zN g 9 (σ a).first+zN g 9 (σ a).last+zN g 9 (σ a).bef+zN g 9 (σ a).aft:=by
    unfold cW;rw[hx]
   rw[hc]
   have key:zN g (f+1+9) (List.map (Sum.elim (fun k=>bodyF f ns σ k) id) (zZ σ a (qB d (a+1) t.kids)))≤zN g 9 (σ a).first+zN g 9 (σ a).last+zB (cW g ns σ) (a+1) (cnt (d+1) t.kids):=by
    unfold zZ;rw[List.map_append,List.map_append,xJ,xJ,zl,zl,sumN_wide (Zj (hσ a).1) (by omega),sumN_wide (Zj (hσ a).2.1) (by omega)]
    omega
   rw[show f+1+9=f+10 by omega]at key
   simp only[zF];cases ht:t.text with
   | true =>
     simp only[if_true];omega
   | false =>
     simp only[Bool.false_eq_true,if_false];cases hv:(σ a).val with
     | none =>
       simp only;omega
     | some s =>
       simp only[List.map_cons,List.map_nil,Sum.elim_inr,id];rw[ye,zL];simp only[valT,zL];omega
theorem Zk (k:Int)(o:Opn):gOf k o=Jp o∨gOf k o=qaU o∨gOf k o=Kk o∨gOf k o=Qa o∨gOf k o=xv o∨gOf k o=jE o∨gOf k o=Xq o∨gOf k o=Xr o∨gOf k o=jF∨gOf k o=Zl o:=by
 unfold gOf
 repeat' split
 all_goals simp
theorem qaK (g:Nat→Nat)(ns:List Nd)(σ:Nat→Sg)(k:Int)(o:Opn)(j:Nat):cW g ns (upd σ j (gOf k o)) j≤cW g ns σ j+opW g o:=by
 have own:∀ (h:Sg→Sg),(h (σ j)).nm=(σ j).nm→(h (σ j)).val=(σ j).val→∀ x,sK (upd σ j h) j x=sK σ j x:=by
  intro h h1 h2 x;unfold sK;rw[zQ,h1,h2]
 unfold cW opW;rw[zQ]
 have keep:∀ (h:Sg→Sg),(h (σ j)).nm=(σ j).nm→(h (σ j)).val=(σ j).val→(match ns[j]? with|some x=>g (sK (upd σ j h) j x).size|none=>0)=(match ns[j]? with|some x=>g (sK σ j x).size|none=>0):=by
  intro h h1 h2;cases ns[j]? with
  | none=>rfl
  | some x=>simp only;rw[own h h1 h2]
 rcases Zk k o with h|h|h|h|h|h|h|h|h|h
 · rw[h];cases hx:ns[j]? with
   | none=>simp only[Jp];omega
   | some x =>
     simp only[sK,zQ,Jp];cases x.text<;>simp<;>omega
 · rw[h,keep (qaU o) rfl rfl];simp only[qaU];omega
 · rw[h,keep (Kk o) rfl rfl];simp only[Kk];omega
 · rw[h,keep (Qa o) rfl rfl];simp only[Qa,zl];omega
 · rw[h,keep (xv o) rfl rfl];simp only[xv,zl];omega
 · rw[h,keep (jE o) rfl rfl];simp only[jE,zl];omega
 · rw[h,keep (Xq o) rfl rfl];simp only[Xq,zl];omega
 · rw[h,keep (Xr o) rfl rfl];simp only[Xr,jF,Qa,zl];omega
 · rw[h,keep jF rfl rfl];simp only[jF];omega
 · rw[h];cases hx:ns[j]? with
   | none=>simp only[Zl];omega
   | some x =>
     simp only[sK,zQ,Zl];cases x.text<;>simp<;>omega
theorem qaT (g:Nat→Nat)(ns:List Nd)(k:Int)(N:Nat):∀ (l:List Opn)(σ:Nat→Sg),zB (cW g ns (doF k σ l)) 0 N≤zB (cW g ns σ) 0 N+(l.map (opW g)).sum:=by
 intro l
 induction l with
 | nil=>intro σ;exact nR9 _
 | cons o l ih =>
   intro σ;rw[xr,List.map_cons,List.sum_cons];refine Nat.le_trans (ih _) ?_
   split
   · have:=Vl (C:=cW g ns (upd σ o.target.toNat (gOf k o))) (D:=cW g ns σ) (qaK g ns σ k o o.target.toNat) (fun m hm=>by
      have e:upd σ o.target.toNat (gOf k o) m=σ m:=zu _ hm;unfold cW sK;rw[e];exact nR9 _) N 0
     omega
   · omega
theorem qbn (l:List Opn):((l.reverse).map (opW g)).sum=(l.map (opW g)).sum:=by
 rw[List.map_reverse,List.sum_reverse]
theorem qam (g:Nat→Nat)(ns:List Nd)(l:List Opn)(N:Nat):zB (cW g ns (yB ns l)) 0 N≤zB (cW g ns (zk ns)) 0 N+10*(l.map (opW g)).sum:=by
 unfold yB;have h:=fun k l σ=>qaT g ns k N l σ
 have r:=qbn (g:=g) l;refine Nat.le_trans (h _ _ _) ?_;refine Nat.le_trans (Nat.add_le_add_right (h _ _ _) _) ?_;refine Nat.le_trans (Nat.add_le_add_right (Nat.add_le_add_right (h _ _ _) _) _) ?_;refine Nat.le_trans (Nat.add_le_add_right (Nat.add_le_add_right (Nat.add_le_add_right (h _ _ _) _) _) _) ?_;refine Nat.le_trans (Nat.add_le_add_right (Nat.add_le_add_right (Nat.add_le_add_right (Nat.add_le_add_right (h _ _ _) _) _) _) _) ?_;refine Nat.le_trans (Nat.add_le_add_right (Nat.add_le_add_right (Nat.add_le_add_right (Nat.add_le_add_right (Nat.add_le_add_right (h _ _ _) _) _) _) _) _) ?_;refine Nat.le_trans (Nat.add_le_add_right (Nat.add_le_add_right (Nat.add_le_add_right (Nat.add_le_add_right (Nat.add_le_add_right (Nat.add_le_add_right (h _ _ _) _) _) _) _) _) _) ?_;refine Nat.le_trans (Nat.add_le_add_right (Nat.add_le_add_right (Nat.add_le_add_right (Nat.add_le_add_right (Nat.add_le_add_right (Nat.add_le_add_right (Nat.add_le_add_right (h _ _ _) _) _) _) _) _) _) _) ?_;refine Nat.le_trans (Nat.add_le_add_right (Nat.add_le_add_right (Nat.add_le_add_right (Nat.add_le_add_right (Nat.add_le_add_right (Nat.add_le_add_right (Nat.add_le_add_right (Nat.add_le_add_right (h _ _ _) _) _) _) _) _) _) _) _) ?_;refine Nat.le_trans (Nat.add_le_add_right (Nat.add_le_add_right (Nat.add_le_add_right (Nat.add_le_add_right (Nat.add_le_add_right (Nat.add_le_add_right (Nat.add_le_add_right (Nat.add_le_add_right (Nat.add_le_add_right (h _ _ _) _) _) _) _) _) _) _) _) _) ?_;omega
theorem Z7 (g:Nat→Nat){ns:List Nd}{l:List Opn}(h:qW ns l=0):zN g (ns.length+9+1) [zi ns l]≤(ns.map fun x=>g x.s.size).sum+10*(l.map (opW g)).sum:=by
 obtain ⟨hg,hlen,hw,_⟩:=(ym _ _).1 h;obtain ⟨d,t,hd,hl,_⟩:=xI hg;have hc:cnt (d+1) [t]=ns.length:=by rw[←hl,layF_length d t (-1) 0 hd]
 have hs:Seg ns 0 (layF d t (-1) 0):=by
  rw[hl];intro i x hx;rw[Nat.zero_add];exact hx
 have h1:=VH (g:=g) (ns:=ns) (Yj (ns:=ns) (l:=l) (fun o ho=>(jq (hw o ho)).1.deep)) d t (-1) 0 ns.length hd hs (by omega)
 rw[hc]at h1
 have h2:=qam g ns l ns.length
 have h3:zB (cW g ns (zk ns)) 0 ns.length≤(ns.map fun x=>g x.s.size).sum:=by
  refine XZ (fun x:Nd=>g x.s.size) ns _ (fun m x hx=>?_)
  unfold cW sK zk;rw[hx];simp only[sg0,zL];cases x.text<;>simp
 unfold zi;omega
theorem Z6 {ns:List Nd}{l:List Opn}(h:qW ns l=0):cnt (ns.length+9+1) [zi ns l]≤16680:=by
 have h1:=Z7 (fun _=>1) h
 rw[sumN_cnt]at h1
 obtain ⟨hg,hlen,hw,_⟩:=(ym _ _).1 h
 have h2:(ns.map fun _=>1).sum≤80:=by
  have h3:=Qt hg
  have h4:∀ l:List Nd,(l.map fun _=>1).sum=l.length:=by
   intro l
   induction l with
   | nil=>rfl
   | cons x l ih=>rw[List.map_cons,List.sum_cons,ih,List.length_cons];omega
  rw[h4];exact h3
 have h3:∀ l:List Opn,(∀ o∈l,ze ns o=0)→(l.map (opW (fun _=>1))).sum≤83*l.length:=by
  intro l
  induction l with
  | nil=>intro _;exact nR9 _
  | cons o l ih =>
    intro hl;rw[List.map_cons,List.sum_cons,List.length_cons];have h4:=ih (fun x hx=>hl x (List.mem_cons_of_mem _ hx))
    have h5:=(Zs (hl o List.mem_cons_self)).cnt
    have h6:opW (fun _=>1) o=cnt 9 o.content+3:=by
     unfold opW;rw[sumN_cnt]
     show cnt 9 o.content+1+2*1=cnt 9 o.content+3
     omega
    have h7:cnt 9 o.content≤80:=h5;omega
 have h4:=h3 l hw;omega
def qax (ns:List Nd):Nat:=(ns.map fun x=>x.s.size).sum
def qay (l:List Opn):Nat:=(l.map (opW id)).sum
theorem KC {ns:List Nd}{l:List Opn}(h:qW ns l=0):zN id (ns.length+9+1) [zi ns l]≤qax ns+10*qay l:=Z7 id h
def yU (m:Nat)(A:List (ByteArray × ByteArray)):Prop:=A.length≤m∧∀ y∈A,y.1.size≤maxLen∧y.2.size≤maxLen
theorem J8 (l:List (ByteArray × ByteArray))(name:ByteArray):(l.filter (fun a=>Op.bytesLess a.1.toList name.toList)).length+(l.filter (fun a=>Op.bytesLess name.toList a.1.toList)).length≤l.length:=by
 induction l with
 | nil=>simp
 | cons y l ih =>
   rw[List.filter_cons,List.filter_cons];cases h1:Op.bytesLess y.1.toList name.toList with
   | true =>
     have h2:Op.bytesLess name.toList y.1.toList=false:=by
      rw[bytes_lt]at h1 ⊢
      simp only[decide_eq_true_eq,decide_eq_false_iff_not]at h1 ⊢
      exact fun h=>List.lt_irrefl _ (List.lt_trans h1 h)
     rw[h2];simp only[if_true,Bool.false_eq_true,if_false,List.length_cons];omega
   | false =>
     cases Op.bytesLess name.toList y.1.toList<;>simp<;>omega
theorem qaI {m:Nat}{k:Int}{o:Opn}{s:Sg}(ho:o.name.size≤maxLen∧o.s.size≤maxLen)(h:yU m s.attrs):yU (m+1) (gOf k o s).attrs:=by
 have same:(gOf k o s).attrs=s.attrs→yU (m+1) (gOf k o s).attrs:=fun e=>by rw[e];exact ⟨by have:=h.1;omega,h.2⟩
 have h0:=h.1;have h1:=J8 s.attrs o.name
 rcases Zk k o with e|e|e|e|e|e|e|e|e|e
 · exact same (by rw[e];rfl)
 · rw[e]
   show yU _ (zJ s.attrs o.name o.s)
   unfold zJ;refine ⟨?_,?_⟩
   · rw[List.length_append, List.length_cons];omega
   · intro y hy
     rcases List.mem_append.1 hy with hy|hy
     · exact h.2 y (List.mem_filter.1 hy).1
     · rcases List.mem_cons.1 hy with rfl | hy
       · exact ho
       · exact h.2 y (List.mem_filter.1 hy).1
 · rw[e]
   show yU _ (zP s.attrs o.name)
   unfold zP;refine ⟨?_,?_⟩
   · rw[List.length_append];omega
   · intro y hy
     rcases List.mem_append.1 hy with hy|hy
     · exact h.2 y (List.mem_filter.1 hy).1
     · exact h.2 y (List.mem_filter.1 hy).1
 · exact same (by rw[e];rfl)
 · exact same (by rw[e];rfl)
 · exact same (by rw[e];rfl)
 · exact same (by rw[e];rfl)
 · exact same (by rw[e];rfl)
 · exact same (by rw[e];rfl)
 · exact same (by rw[e];rfl)
theorem yU.more {m k:Nat}{A:List (ByteArray × ByteArray)}(h:yU m A)(hk:m≤k):yU k A:=⟨Nat.le_trans h.1 hk,h.2⟩
theorem jg {k:Int}:∀ (l:List Opn)(σ:Nat→Sg)(m:Nat),(∀ o∈l,o.name.size≤maxLen∧o.s.size≤maxLen)→(∀ n,yU m (σ n).attrs)→∀ n,yU (m+l.length) (doF k σ l n).attrs:=by
 intro l
 induction l with
 | nil=>intro σ m _ h n;exact h n
 | cons o l ih =>
   intro σ m ho h n;rw[xr,List.length_cons];refine (ih _ (m+1) (fun x hx=>ho x (List.mem_cons_of_mem _ hx)) (fun j=>?_) n).more (by omega)
   split
   · unfold upd
     split
     · exact qaI (ho o List.mem_cons_self) (h j)
     · exact (h j).more (by omega)
   · exact (h j).more (by omega)
theorem VE {ns:List Nd}{l:List Opn}(ho:∀ o∈l,o.name.size≤maxLen∧o.s.size≤maxLen)(hn:∀ x∈ns,yU 80 x.attrs):∀ n,yU (80+10*l.length) (yB ns l n).attrs:=by
 have hr:∀ o∈l.reverse,o.name.size≤maxLen∧o.s.size≤maxLen:=fun o h=>ho o (List.mem_reverse.1 h)
 have h0:∀ n,yU 80 (zk ns n).attrs:=by
  intro n;unfold zk
  split
  · rename_i x hx
    exact hn x (List.mem_of_getElem? hx)
  · exact ⟨nZ9 _,fun y hy=>by cases hy⟩
 unfold yB;intro n;refine (jg l _ _ ho (jg l _ _ ho (jg l _ _ ho (jg l.reverse _ _ hr (jg l.reverse _ _ hr (jg l _ _ ho (jg l _ _ ho (jg l _ _ ho (jg l _ _ ho (jg l _ _ ho h0))))))))) n).more ?_;rw[List.length_reverse];omega
theorem Y3 {P:Tr→Prop}:∀ {d:Nat}{ts:List Tr},Deep d ts→zV P d ts→∀ n,zV P n ts:=by
 intro d
 induction d with
 | zero =>
   intro ts h _ n;have e:ts=[]:=h;subst e;cases n with
   | zero=>trivial
   | succ n=>intro t ht;cases ht
 | succ d ih =>
   intro ts h hA n;cases n with
   | zero=>trivial
   | succ n=>intro t ht;exact ⟨(hA t ht).1,ih (h t ht) (hA t ht).2 n⟩
def Z0 (P:Tr→Prop)(s:Sg):Prop:=(∀ n,zV P n s.first)∧(∀ n,zV P n s.last)∧(∀ n,zV P n s.bef)∧(∀ n,zV P n s.aft)
theorem Ql {P:Tr→Prop}{a b:List Tr}(ha:∀ n,zV P n a)(hb:∀ n,zV P n b):∀ n,zV P n (a++b):=by
 intro n;cases n with
 | zero=>trivial
 | succ n =>
   intro t ht
   rcases List.mem_append.1 ht with h|h
   · exact ha (n+1) t h
   · exact hb (n+1) t h
theorem qaH {P:Tr→Prop}{k:Int}{o:Opn}{s:Sg}(ho:∀ n,zV P n o.content)(h:Z0 P s):Z0 P (gOf k o s):=by
 obtain ⟨h1,h2,h3,h4⟩:=h
 rcases Zk k o with e|e|e|e|e|e|e|e|e|e
 · rw[e];exact ⟨h1,h2,h3,h4⟩
 · rw[e];exact ⟨h1,h2,h3,h4⟩
 · rw[e];exact ⟨h1,h2,h3,h4⟩
 · rw[e];exact ⟨h1,h2,Ql h3 ho,h4⟩
 · rw[e];exact ⟨h1,Ql h2 ho,h3,h4⟩
 · rw[e];exact ⟨Ql ho h1,h2,h3,h4⟩
 · rw[e];exact ⟨h1,h2,h3,Ql ho h4⟩
 · rw[e];exact ⟨h1,h2,Ql h3 ho,h4⟩
 · rw[e];exact ⟨h1,h2,h3,h4⟩
 · rw[e];exact ⟨h1,h2,h3,h4⟩
theorem jf {P:Tr→Prop}{k:Int}:∀ (l:List Opn)(σ:Nat→Sg),(∀ o∈l,∀ n,zV P n o.content)→(∀ n,Z0 P (σ n))→∀ n,Z0 P (doF k σ l n):=by
 intro l
 induction l with
 | nil=>intro σ _ h n;exact h n
 | cons o l ih =>
   intro σ ho h n;rw[xr];refine ih _ (fun x hx=>ho x (List.mem_cons_of_mem _ hx)) (fun m=>?_) n
   split
   · unfold upd
     split
     · exact qaH (ho o List.mem_cons_self) (h m)
     · exact h m
   · exact h m
theorem yJ {P:Tr→Prop}(n:Nat):zV P n []:=by
 cases n with
 | zero=>trivial
 | succ n=>intro t ht;cases ht
theorem VA {P:Tr→Prop}{ns:List Nd}{l:List Opn}(ho:∀ o∈l,∀ n,zV P n o.content):∀ n,Z0 P (yB ns l n):=by
 have hr:∀ o∈l.reverse,∀ n,zV P n o.content:=fun o h=>ho o (List.mem_reverse.1 h)
 unfold yB;refine jf l _ ho (jf l _ ho (jf l _ ho (jf l.reverse _ hr (jf l.reverse _ hr (jf l _ ho (jf l _ ho (jf l _ ho (jf l _ ho (jf l _ ho ?_)))))))));intro n;unfold zk
 split
 · exact ⟨yJ,yJ,yJ,yJ⟩
 · exact ⟨yJ,yJ,yJ,yJ⟩
theorem VG {P:List (ByteArray × ByteArray)→Prop}{ns:List Nd}{σ:Nat→Sg}(h0:P [])(hA:∀ n,P (σ n).attrs)(hσ:∀ n,Z0 (fun t=>P t.attrs) (σ n)):∀ (f m n:Nat),zV (fun t=>P t.attrs) m [bodyF f ns σ n]:=by
 intro f
 induction f with
 | zero =>
   intro m n;cases m with
   | zero=>trivial
   | succ m =>
     intro t ht;rw[List.mem_singleton.1 ht];exact ⟨h0,yJ m⟩
 | succ f ih =>
   intro m n;cases m with
   | zero=>trivial
   | succ m =>
     intro t ht;rw[List.mem_singleton.1 ht,bodyF];cases hx:ns[n]? with
     | none=>exact ⟨h0,yJ m⟩
     | some x =>
       refine ⟨hA n,?_⟩
       show zV _ m ((zF σ n x).map (Sum.elim (fun k=>bodyF f ns σ k) id))
       cases m with
       | zero=>trivial
       | succ m =>
         intro u hu;obtain ⟨e,he,rfl⟩:=List.mem_map.1 hu;cases e with
         | inl k=>exact ih (m+1) k _ List.mem_cons_self
         | inr t =>
           show P t.attrs∧zV _ m t.kids
           have inK:Sum.inr t∈zZ σ n x.kids→P t.attrs∧zV (fun t=>P t.attrs) m t.kids:=by
            intro hin;unfold zZ zp at hin
            simp only[List.mem_append,List.mem_map,List.mem_flatMap]at hin
            rcases hin with ⟨k,hk,h⟩|⟨u,_,h⟩|⟨k,hk,h⟩
            · injection h with h;subst h;exact (hσ n).1 (m+1) k hk
            · unfold qX zp xz at h
              simp only[List.mem_append,List.mem_map]at h
              rcases h with ⟨k,hk,h⟩|h|⟨k,hk,h⟩
              · injection h with h;subst h;exact (hσ _).2.2.1 (m+1) k hk
              · split at h
                · simp at h
                · simp at h
              · injection h with h;subst h;exact (hσ _).2.2.2 (m+1) k hk
            · injection h with h;subst h;exact (hσ n).2.1 (m+1) k hk
           unfold zF at he
           split at he
           · exact inK he
           · split at he
             · simp at he;subst he;exact ⟨h0,yJ m⟩
             · exact inK he
theorem qby {P:List (ByteArray × ByteArray)→Prop}{n:Nat}{ts:List Tr}(h:zV (fun t=>P t.attrs) n ts):zV (fun t=>P t.attrs) n (jt ts):=by
 cases n with
 | zero=>trivial
 | succ n =>
   intro u hu;obtain ⟨t,ht,e1,e2,_⟩:=jt_mem hu
   show P u.attrs∧zV _ n u.kids
   rw[e1,e2];exact h t ht
theorem qbx {P:List (ByteArray × ByteArray)→Prop}:∀ (m n:Nat)(t:Tr),zV (fun t=>P t.attrs) n t.kids→zV (fun t=>P t.attrs) n (jk m t).kids:=by
 intro m
 induction m with
 | zero=>intro n t _;exact yJ n
 | succ m ih =>
   intro n t h;have h1:=qby h
   show zV _ n ((jt t.kids).map (jk m))
   cases n with
   | zero=>trivial
   | succ n =>
     intro u hu;obtain ⟨v,hv,rfl⟩:=List.mem_map.1 hu
     show P (jk m v).attrs∧zV _ n (jk m v).kids
     rw[jo];exact ⟨(h1 v hv).1,ih n v (h1 v hv).2⟩
theorem small_of:∀ (n:Nat)(ts:List Tr),cnt n ts≤1048576→zN id n ts≤1099511627776→zV (fun t=>yU 1048576 t.attrs) n ts→Small n ts:=by
 intro n
 induction n with
 | zero=>intro ts _ _ _;trivial
 | succ n ih =>
   intro ts h1 h2 h3
   have cat:∀ l:List Tr,(catL l).length≤zN id (n+1) l:=by
    intro l
    induction l with
    | nil=>simp[catL]
    | cons t l ihl=>rw[ye];simp only[catL,List.length_append,jA,id];omega
   refine ⟨Nat.le_trans (j7 n ts) h1,Nat.le_trans (cat ts) h2,fun t ht=>?_⟩
   obtain ⟨a,b,rfl⟩:=List.append_of_mem ht;rw[zl,ye]at h2
   rw[←sumN_cnt,zl,ye,sumN_cnt,sumN_cnt,sumN_cnt]at h1
   simp only[id]at h2
   exact ⟨(h3 t ht).1.1,by omega,ih t.kids (by omega) (by omega) (h3 t ht).2⟩
theorem texts_small:∀ (n:Nat)(ts:List Tr),Small n ts→zV (fun t=>yU 1048576 t.attrs) n ts→TextsN n ts:=by
 intro n
 induction n with
 | zero=>intro ts _ _;trivial
 | succ n ih =>
   intro ts h1 h2 t ht;have h3:=(h1.2.2 t ht).2.1;exact ⟨⟨by unfold maxLen;omega,(h2 t ht).1.2⟩,ih t.kids (h1.2.2 t ht).2.2 (h2 t ht).2⟩
end
end Go.Proofs.YtnppmdpmippcoaaGreatDoor
