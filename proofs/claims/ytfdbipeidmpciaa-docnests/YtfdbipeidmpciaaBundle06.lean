/- Bundled: Right Room OnceM Lit. What each says stands ahead of it. -/
import Derived.Test.YtfdbipeidmpciaaBundle05
import Derived.Test.YtfdbipeidmpciaaBundle04
namespace Go.Proofs.Ytfdbipeidmpciaa
open Go.ChangeShapes Go.WideShapes Go.ChangeAt Go.RowKit
set_option maxRecDepth 100000
def qt (t:Tr):Bool :=
 if t.text then !t.s.toList.isEmpty&&za t.s&&decide (t.attrs.length=0)&&decide (t.kids.length=0)
 else zo t.s&&zh t.attrs
def yR (t:Tr):Prop:=t.s.size≤maxLen∧∀ x∈t.attrs,x.1.size≤maxLen∧x.2.size≤maxLen
theorem qB (S:Nat→Prop)(va:Value)(ka:Option Addr)(kc:Nat)(t:Tr)(w:World)(h:qc S w va t.attrs)(hx:yR t) :
 Calls Try.prog 45 #[.agg #[.bool t.text,.string t.s,va,.slice ka t.kids.length kc]] w fun e w'=>e=.returned (.bool (qt t))∧Below w.heap.size w w':=by
 obtain ⟨aa,ac,rfl⟩:=h.shape;cases htx:t.text with
 | false =>
   have HR:Hid (qt t=(zo t.s&&zh t.attrs)):=by show _=_;simp[qt,htx]
   cases hn:zo t.s with
   | false =>
     go_enter Try.func45,Try.ntmps45
     go_wp2_with fail;refine (qN t.s _ hx.1).mono ?_;rintro e w' ⟨rfl,rfl⟩;rw[hn];go_wp2_with fail;go_ret;exact ⟨by rw[HR.out,hn];rfl,Below.alloc1 _ _⟩
   | true =>
     go_enter Try.func45,Try.ntmps45
     go_wp2_with fail;refine (qN t.s _ hx.1).mono ?_;rintro e w' ⟨rfl,rfl⟩;rw[hn];go_wp2_with fail;refine (yJ S _ t.attrs _ (h.later (Below.alloc1 _ _)) hx.2).mono ?_;rintro e w1 ⟨rfl,hb⟩;go_wp2_with fail;go_ret;exact ⟨by rw[HR.out,hn];rfl,(Below.alloc1 _ _).trans (hb.mono (by simp))⟩
 | true =>
   cases he:t.s.toList.isEmpty with
   | true =>
     go_enter Try.func45,Try.ntmps45
     go_wp2_with fail;go_ret;exact ⟨by simp[qt,htx,he],Below.alloc1 _ _⟩
   | false =>
     cases hp:za t.s with
     | false =>
       go_enter Try.func45,Try.ntmps45
       go_wp2_with fail;refine (qF t.s _ hx.1).mono ?_;rintro e w' ⟨rfl,rfl⟩;rw[hp];go_wp2_with fail;go_ret;exact ⟨by simp[qt,htx,hp],Below.alloc1 _ _⟩
     | true =>
       by_cases hal:t.attrs.length=0
       · have hal' : ((t.attrs.length : Int) == 0) = true := by simpa using hal
         by_cases hkl:t.kids.length=0
         · have hkl' : ((t.kids.length : Int) == 0) = true := by simpa using hkl
           have HR:Hid (qt t=true):=by show _=_;simp[qt,htx,he,hp,List.eq_nil_of_length_eq_zero hal,List.eq_nil_of_length_eq_zero hkl]
           clear hal hkl
           go_enter Try.func45,Try.ntmps45
           go_wp2_with fail;refine (qF t.s _ hx.1).mono ?_;rintro e w' ⟨rfl,rfl⟩;rw[hp];go_wp2_with fail;go_ret;exact ⟨by rw[HR.out];rfl,Below.alloc1 _ _⟩
         · have hkl' : ((t.kids.length : Int) == 0) = false := by simpa using hkl
           have HR:Hid (qt t=false):=by show _=_;simp[qt,htx];intro _ _ _ h;exact hkl (by rw[h];rfl)
           clear hal hkl
           go_enter Try.func45,Try.ntmps45
           go_wp2_with fail;refine (qF t.s _ hx.1).mono ?_;rintro e w' ⟨rfl,rfl⟩;rw[hp];go_wp2_with fail;go_ret;exact ⟨by rw[HR.out];rfl,Below.alloc1 _ _⟩
       · have hal' : ((t.attrs.length : Int) == 0) = false := by simpa using hal
         have HR:Hid (qt t=false):=by show _=_;simp[qt,htx];intro _ _ h;exact absurd (by rw[h];rfl) hal
         clear hal
         go_enter Try.func45,Try.ntmps45
         go_wp2_with fail;refine (qF t.s _ hx.1).mono ?_;rintro e w' ⟨rfl,rfl⟩;rw[hp];go_wp2_with fail;go_ret;exact ⟨by rw[HR.out];rfl,Below.alloc1 _ _⟩
def rl (f:Int→List Tr→Int):Bool→Int→List Tr→Int
 | _,room,[]=>room
 | prev,room,t::r=>if !qt t||(prev&&t.text) then -1 else if f room t.kids<0 then -1 else rl f t.text (f room t.kids) r
def rb:Nat→Int→List Tr→Int
 | 0,room,l=>if l.isEmpty then room else -1
 | d+1,room,l=>if l.isEmpty then room else if room<l.length then -1 else rl (rb d) false (room-l.length) l
theorem QV (f:Int→List Tr→Int)(hf:∀ room l,0≤room→-1≤f room l∧f room l≤room):∀ (l:List Tr)(p:Bool)(room:Int),0≤room→-1≤rl f p room l∧rl f p room l≤room:=by
 intro l
 induction l with
 | nil=>intro p room h;simp[rl];omega
 | cons t r ih =>
   intro p room h;unfold rl;have:=hf room t.kids h
   split
   · omega
   · split
     · omega
     · have:=ih t.text (f room t.kids) (by omega);omega
theorem rb_le:∀ (d:Nat)(room:Int)(l:List Tr),0≤room→-1≤rb d room l∧rb d room l≤room:=by
 intro d
 induction d with
 | zero=>intro room l h;unfold rb;split<;>omega
 | succ d ih =>
   intro room l h;unfold rb
   split
   · omega
   · split
     · omega
     · have:=QV (rb d) ih l false (room-l.length) (by omega);omega
def qJ (l:List Tr):Nat→Bool
 | 0=>false
 | j+1=>((l[j]?).map (·.text)).getD false
def TextsN:Nat→List Tr→Prop
 | 0,_=>True
 | n+1,ts=>∀ t∈ts,yR t∧TextsN n t.kids
def yn (d:Nat):Prop:=∀ (S:Nat→Prop)(n:Nat)(v:Value)(l:List Tr)(w:World)(room:Int),qa S w n v l→TextsN n l→0≤room→room≤80 →
 Calls Try.prog 30 #[v,.int .i64 d,.int .i64 room] w fun e w'=>e=.returned (.int .i64 (rb d room l))∧Below w.heap.size w w'
theorem jS (S:Nat→Prop)(n d:Nat)(v:Value)(w:World)(room:Int)(h:qa S w n v []) :
 Calls Try.prog 30 #[v,.int .i64 d,.int .i64 room] w fun e w'=>e=.returned (.int .i64 (rb d room []))∧Below w.heap.size w w':=by
 obtain ⟨a,cap,rfl,_,_⟩:=qa.shape n h;simp only[List.length_nil];have hr:rb d room []=room:=by cases d<;>simp[rb]
 rw[hr];clear hr
 go_enter Try.func30,Try.ntmps30
 go_wp2_with fail;go_ret;exact ⟨rfl,Below.refl _ _⟩
theorem room_zero:yn 0:=by
 intro S n v l w room h _ h0 h8;cases l with
 | nil=>exact jS S n 0 v w room h
 | cons t r =>
   obtain ⟨a,cap,rfl,_,_⟩:=qa.shape n h;have hne:(((t::r).length:Int)==0)=false:=by simp;omega
   have hr:rb 0 room (t::r)=-1:=by simp[rb]
   rw[hr]
   go_enter Try.func30,Try.ntmps30
   go_wp2_with fail;go_ret;exact ⟨rfl,Below.refl _ _⟩
theorem xQ (d:Nat)(hd:d<8)(h:yn d):yn (d+1):=by
 intro S n v l w room hT hx h0 h8;have H:Hid (yn d):=h;clear h;cases l with
 | nil=>exact jS S n (d+1) v w room hT
 | cons t0 r0 =>
   obtain ⟨l,hl⟩:∃ l,t0::r0=l:=⟨_,rfl⟩;have hne:l≠[]:=by rw[←hl];simp
   rw[hl]at hT hx ⊢
   clear hl;cases n with
   | zero=>exact absurd hT.1 hne
   | succ n =>
     have hpos:=List.length_pos_iff.2 hne;obtain ⟨a,cap,rfl,hlc,hm,h4⟩:=hT;unfold maxLen at hm
     obtain ⟨b,o,rfl,hs,hcc⟩:=h4 hne;have hne1:((l.length:Int)==0)=false:=by simp;omega
     have hd1:(((d:Int)+1)==0)=false:=by simp;omega
     have hie:l.isEmpty=false:=by simpa using hne
     by_cases hbig:room<l.length
     · have hr : rb (d + 1) room l = -1 := by simp[rb, hie, hbig]
       rw[hr];clear hr
       go_enter Try.func30,Try.ntmps30
       go_wp2_with fail;go_ret;exact ⟨rfl,Below.refl _ _⟩
     · have hr : rb (d + 1) room l = rl (rb d) false (room - l.length) l := by simp[rb, hie, hbig]
       rw[hr];clear hr;have hbig':(l.length:Int)≤room:=by omega
       clear hbig
       go_enter Try.func30,Try.ntmps30
       go_wp2_with fail
       go_loopg [27,2] l.length (fun g i rm wr=>∃ (k:Nat) (rr:Int),k+g=l.length∧i=.int .i64 k∧rm=.int .i64 rr∧0≤rr∧rr≤80∧Below w.heap.size w wr ∧
        rl (rb d) false (room-l.length) l=rl (rb d) (qJ l k) rr (l.drop k))
       case atStart => exact ⟨0,room-l.length,by omega,rfl,rfl,by omega,by omega,Below.refl _ _,rfl⟩
       case round =>
        obtain ⟨k,rr,hk,rfl,rfl,hr0,hr8,hB,heq⟩:=hrel;have HE:Hid (rl (rb d) false (room-l.length) l=rl (rb d) (qJ l k) rr (l.drop k)):=heq;clear heq
        by_cases hlt:k<l.length
        · obtain ⟨t, ht⟩ : ∃ t, l[k]? = some t := ⟨l[k], by simp[hlt]⟩
          obtain ⟨va,vk,c0,c1,c2,c3,hat,hkt⟩:=hcc k t ht;obtain ⟨aa,ac,rfl⟩:=hat.shape;obtain ⟨ka,kc,rfl,_,_⟩:=qa.shape n hkt;have hbl:b<w.heap.size:=World.block_lt_of_cell? w _ c0;rw[←hB.cell (p:=⟨b,o+k*4,none⟩) hbl]at c0
          rw[←hB.cell (p:=⟨b,o+k*4+1,none⟩) hbl]at c1
          rw[←hB.cell (p:=⟨b,o+k*4+2,none⟩) hbl]at c2
          rw[←hB.cell (p:=⟨b,o+k*4+3,none⟩) hbl]at c3
          have hd:l.drop k=t::l.drop (k+1):=by
           rw[List.drop_eq_getElem_cons hlt];congr 1;simpa[hlt] using ht
          have hxt:=hx t (List.mem_of_getElem? ht);have hsz:=hB.size;have hblr:b<wr.heap.size:=by omega
          have HT:Hid (l[k]?=some t):=ht;have HD:Hid (l.drop k=t::l.drop (k+1)):=hd;have hBa:∀ x,Below w.heap.size w (wr.alloc x):=fun x=>hB.alloc hsz x
          clear ht hd;cases hrt:qt t with
          | false =>
            have HF:Hid (rl (rb d) false (room-l.length) l=-1):=by
             show _=_
             rw[HE.out,HD.out];simp[rl,hrt]
            clear HE hcc h4;go_wp2_with fail;refine (qB S _ _ _ t _ (hat.later (hBa _)) hxt.1).mono ?_;rintro e w1 ⟨rfl,hb1⟩;rw[hrt];go_wp2_with fail;go_ret;exact ⟨by rw[HF.out];rfl,(hBa _).trans (hb1.mono (by simp;omega))⟩
          | true =>
            cases hpt:(qJ l k&&t.text) with
            | true =>
              have HF:Hid (rl (rb d) false (room-l.length) l=-1):=by
               show _=_
               rw[HE.out,HD.out];simp[rl,hpt]
              obtain ⟨j,rfl⟩:∃ j,k=j+1:=by
               cases k with
               | zero=>simp[qJ]at hpt
               | succ j=>exact ⟨j,rfl⟩
              obtain ⟨u,hu⟩:∃ u,l[j]?=some u:=⟨l[j]'(by omega),by simp⟩
              rw[Bool.and_eq_true]at hpt
              obtain ⟨hp1,hp2⟩:=hpt;have hu1:u.text=true:=by simpa[qJ,hu] using hp1
              have e0:=(hcc j u hu).choose_spec.choose_spec.1;rw[←hB.cell (p:=⟨b,o+j*4,none⟩) hbl,hu1]at e0
              rw[hp2]at c0
              have hj1:(j:Int)<(l.length:Int):=by omega
              have hj2:(j:Int)+1<(l.length:Int):=by omega
              clear HE hcc h4 hu hp1 hu1;go_wp2_with fail;have hcall:=qB S (.slice aa t.attrs.length ac) ka kc t (wr.alloc (.cells #[.bool true,.string t.s,.slice aa t.attrs.length ac,.slice ka t.kids.length kc] 29)) (hat.later (hBa _)) hxt.1;rw[hp2]at hcall
              refine hcall.mono ?_;clear hcall;rintro e w1 ⟨rfl,hb1⟩;rw[hrt]
              have f0:w1.cell? ⟨b,o+j*4,none⟩=some (.bool true):=by
               rw[hb1.cell (p:=⟨b,o+j*4,none⟩) (by simp;omega),World.cell?_alloc_lt _ _ _ (by simp only;omega)];exact e0
              have f1:w1.cell? ⟨wr.heap.size,0,none⟩=some (.bool true):=by
               rw[hb1.cell (p:=⟨wr.heap.size,0,none⟩) (by simp)];simp[go_sem]
              go_wp2_with fail;go_ret;exact ⟨by rw[HF.out];rfl,(hBa _).trans (hb1.mono (by simp;omega))⟩
            | false =>
              have HG0:Hid (rl (rb d) false (room-l.length) l=if rb d rr t.kids<0 then -1 else rl (rb d) t.text (rb d rr t.kids) (l.drop (k+1))):=by
               show _=_
               rw[HE.out,HD.out];simp[rl,hpt,hrt]
              clear HE h4;cases k with
              | zero =>
                clear hcc hpt;simp only[Nat.zero_mul,Nat.add_zero]at c0 c1 c2 c3
                rw[show ((0:Nat):Int)=0 from rfl]
                go_wp2_with fail;have hcall:=qB S (.slice aa t.attrs.length ac) ka kc t (wr.alloc (.cells #[.bool t.text,.string t.s,.slice aa t.attrs.length ac,.slice ka t.kids.length kc] 29)) (hat.later (hBa _)) hxt.1;refine hcall.mono ?_;clear hcall;rintro e w1 ⟨rfl,hb1⟩;rw[hrt]
                have f1:w1.cell? ⟨wr.heap.size,0,none⟩=some (.bool t.text):=by
                 rw[hb1.cell (p:=⟨wr.heap.size,0,none⟩) (by simp)];simp[go_sem]
                have f3:w1.cell? ⟨wr.heap.size,3,none⟩=some (.slice ka t.kids.length kc):=by
                 rw[hb1.cell (p:=⟨wr.heap.size,3,none⟩) (by simp)];simp[go_sem]
                have hB1:Below w.heap.size w w1:=(hBa _).trans (hb1.mono (by simp;omega))
                go_wp2_with fail;refine (H.out S n _ t.kids _ rr (qa.later hB1 n hkt) hxt.2 hr0 hr8).mono ?_;rintro e w2 ⟨rfl,hb2⟩;have hrle:=rb_le d rr t.kids hr0;have HG:=HG0.out;obtain ⟨r2,hr2⟩:∃ r2,rb d rr t.kids=r2:=⟨_,rfl⟩;rw[hr2]at hrle HG ⊢
                have HG':Hid (rl (rb d) false (room-l.length) l=if r2<0 then -1 else rl (rb d) t.text r2 (l.drop (0+1))):=HG
                have hB2:Below w.heap.size w w2:=hB1.trans (hb2.mono hB1.size);clear HG hr2
                by_cases hneg:r2<0
                · go_wp2_with fail;go_ret;exact ⟨by rw[HG'.out,if_pos hneg];rfl,hB2⟩
                · go_wp2_with fail
                  go_roundg (l.length-(0+1))
                  case measure => omega
                  case rel =>
                   refine ⟨0+1,r2,by omega,by go_num,rfl,by omega,by omega,hB2,?_⟩
                   rw[HG'.out,if_neg (by omega)]
                   simp[qJ,HT.out]
              | succ j =>
                have hj1:(j:Int)<(l.length:Int):=by omega
                have hj2:(j:Int)+1<(l.length:Int):=by omega
                cases htx:t.text with
                | false =>
                  clear hcc hpt;rw[htx]at c0
                  go_wp2_with fail;have hcall:=qB S (.slice aa t.attrs.length ac) ka kc t (wr.alloc (.cells #[.bool false,.string t.s,.slice aa t.attrs.length ac,.slice ka t.kids.length kc] 29)) (hat.later (hBa _)) hxt.1;rw[htx]at hcall
                  refine hcall.mono ?_;clear hcall;rintro e w1 ⟨rfl,hb1⟩;rw[hrt]
                  have f1:w1.cell? ⟨wr.heap.size,0,none⟩=some (.bool false):=by
                   rw[hb1.cell (p:=⟨wr.heap.size,0,none⟩) (by simp)];simp[go_sem]
                  have f3:w1.cell? ⟨wr.heap.size,3,none⟩=some (.slice ka t.kids.length kc):=by
                   rw[hb1.cell (p:=⟨wr.heap.size,3,none⟩) (by simp)];simp[go_sem]
                  have hB1:Below w.heap.size w w1:=(hBa _).trans (hb1.mono (by simp;omega))
                  go_wp2_with fail;refine (H.out S n _ t.kids _ rr (qa.later hB1 n hkt) hxt.2 hr0 hr8).mono ?_;rintro e w2 ⟨rfl,hb2⟩;have hrle:=rb_le d rr t.kids hr0;have HG:=HG0.out;obtain ⟨r2,hr2⟩:∃ r2,rb d rr t.kids=r2:=⟨_,rfl⟩;rw[hr2]at hrle HG ⊢
                  have HG':Hid (rl (rb d) false (room-l.length) l=if r2<0 then -1 else rl (rb d) t.text r2 (l.drop (j+1+1))):=HG
                  have hB2:Below w.heap.size w w2:=hB1.trans (hb2.mono hB1.size);clear HG hr2
                  by_cases hneg:r2<0
                  · go_wp2_with fail;go_ret;exact ⟨by rw[HG'.out,if_pos hneg];rfl,hB2⟩
                  · go_wp2_with fail
                    go_roundg (l.length-(j+1+1))
                    case measure => omega
                    case rel =>
                     refine ⟨j+1+1,r2,by omega,by go_num,rfl,by omega,by omega,hB2,?_⟩
                     rw[HG'.out,if_neg (by omega)]
                     simp[qJ,HT.out]
                | true =>
                  obtain ⟨u,hu⟩:∃ u,l[j]?=some u:=⟨l[j]'(by omega),by simp⟩
                  have hu1:u.text=false:=by simpa[qJ,hu,htx] using hpt
                  have e0:=(hcc j u hu).choose_spec.choose_spec.1;rw[←hB.cell (p:=⟨b,o+j*4,none⟩) hbl,hu1]at e0
                  rw[htx]at c0
                  clear hcc hu hu1 hpt;go_wp2_with fail;have hcall:=qB S (.slice aa t.attrs.length ac) ka kc t (wr.alloc (.cells #[.bool true,.string t.s,.slice aa t.attrs.length ac,.slice ka t.kids.length kc] 29)) (hat.later (hBa _)) hxt.1;rw[htx]at hcall
                  refine hcall.mono ?_;clear hcall;rintro e w1 ⟨rfl,hb1⟩;rw[hrt]
                  have f0:w1.cell? ⟨b,o+j*4,none⟩=some (.bool false):=by
                   rw[hb1.cell (p:=⟨b,o+j*4,none⟩) (by simp;omega),World.cell?_alloc_lt _ _ _ (by simp only;omega)];exact e0
                  have f1:w1.cell? ⟨wr.heap.size,0,none⟩=some (.bool true):=by
                   rw[hb1.cell (p:=⟨wr.heap.size,0,none⟩) (by simp)];simp[go_sem]
                  have f3:w1.cell? ⟨wr.heap.size,3,none⟩=some (.slice ka t.kids.length kc):=by
                   rw[hb1.cell (p:=⟨wr.heap.size,3,none⟩) (by simp)];simp[go_sem]
                  have hB1:Below w.heap.size w w1:=(hBa _).trans (hb1.mono (by simp;omega))
                  go_wp2_with fail;refine (H.out S n _ t.kids _ rr (qa.later hB1 n hkt) hxt.2 hr0 hr8).mono ?_;rintro e w2 ⟨rfl,hb2⟩;have hrle:=rb_le d rr t.kids hr0;have HG:=HG0.out;obtain ⟨r2,hr2⟩:∃ r2,rb d rr t.kids=r2:=⟨_,rfl⟩;rw[hr2]at hrle HG ⊢
                  have HG':Hid (rl (rb d) false (room-l.length) l=if r2<0 then -1 else rl (rb d) t.text r2 (l.drop (j+1+1))):=HG
                  have hB2:Below w.heap.size w w2:=hB1.trans (hb2.mono hB1.size);clear HG hr2
                  by_cases hneg:r2<0
                  · go_wp2_with fail;go_ret;exact ⟨by rw[HG'.out,if_pos hneg];rfl,hB2⟩
                  · go_wp2_with fail
                    go_roundg (l.length-(j+1+1))
                    case measure => omega
                    case rel =>
                     refine ⟨j+1+1,r2,by omega,by go_num,rfl,by omega,by omega,hB2,?_⟩
                     rw[HG'.out,if_neg (by omega)]
                     simp[qJ,HT.out]
        · go_wp2_with fail;go_ret;refine ⟨?_,hB⟩;rw[HE.out,List.drop_of_length_le (by omega)]
          rfl
theorem room_any:∀ (d:Nat),d≤8→yn d:=by
 intro d
 induction d with
 | zero=>intro _;exact room_zero
 | succ d ih=>intro h;exact xQ d (by omega) (ih (by omega))
def qU (l:List Tr):Bool:=decide (0≤rb 8 80 l)
theorem yb (S:Nat→Prop)(n:Nat)(v:Value)(l:List Tr)(w:World)(h:qa S w n v l)(hx:TextsN n l) :
 Calls Try.prog 13 #[v] w fun e w'=>e=.returned (.bool (qU l))∧Below w.heap.size w w':=by
 go_enter Try.func13,Try.ntmps13
 go_wp2_with fail;refine (room_any 8 (nR9 _) S n _ l _ 80 h hx (by decide) (by decide)).mono ?_
 rintro e w1 ⟨rfl,hb1⟩;go_wp2_with fail;go_ret;exact ⟨rfl,hb1⟩
end Go.Proofs.Ytfdbipeidmpciaa
/- What is joined is joined, and what is right is as it was: as plain functions. No condition. -/
namespace Go.Proofs.Ytfdbipeidmpciaa
def Clean:List Tr→Prop
 | []=>True
 | t::r=>(t.text=true→t.s.data.toList≠[]∧∀ u r',r=u::r'→u.text=false)∧Clean r
theorem yB (ts:List Tr):Clean (jt ts):=by
 induction ts with
 | nil=>simp[jt,Clean]
 | cons t r ih =>
   by_cases ht:t.text=true
   · rw[yk t r ht]
     split
     · exact ih
     · rename_i hs
       split
       · exact ⟨fun _=>⟨hs,fun u r' h=>by cases h⟩,trivial⟩
       · rename_i u r' hj
         rw[hj]at ih
         split
         · rename_i hu
           refine ⟨fun _=>⟨?_,?_⟩,ih.2⟩
           · show (sOf (t.s.data.toList ++ u.s.data.toList)).data.toList ≠ []
             simp only[sOf,ne_eq,List.append_eq_nil_iff,not_and];intro h;exact absurd h hs
           · exact (ih.1 hu).2
         · rename_i hu
           refine ⟨fun _=>⟨hs,fun x r'' h=>?_⟩,ih⟩
           cases h
           simpa using hu
   · rw[zN t r (by simpa using ht)]
     exact ⟨fun h=>absurd h ht,ih⟩
theorem xv {ts:List Tr}(h:Clean ts):jt ts=ts:=by
 induction ts with
 | nil=>rfl
 | cons t r ih =>
   have ihr:=ih h.2
   by_cases ht:t.text=true
   · rw[yk t r ht, if_neg (h.1 ht).1, ihr];cases r with
     | nil=>rfl
     | cons u r'=>simp[(h.1 ht).2 u r' rfl]
   · rw[zN t r (by simpa using ht),ihr]
theorem Clean.map {ts:List Tr}(f:Tr→Tr)(h1:∀ t,(f t).text=t.text)(h2:∀ t,(f t).s=t.s)(h:Clean ts):Clean (ts.map f):=by
 induction ts with
 | nil=>trivial
 | cons t r ih =>
   refine ⟨fun ht=>?_,ih h.2⟩
   rw[h1]at ht
   rw[h2];refine ⟨(h.1 ht).1,fun u r' hr=>?_⟩
   cases r with
   | nil=>cases hr
   | cons x y =>
     simp only[List.map_cons,List.cons.injEq]at hr
     rw[←hr.1,h1];exact (h.1 ht).2 x y rfl
theorem x6 {ts:List Tr}(h:Clean ts):∀ (i:Nat)(t:Tr),ts[i]?=some t→t.text=true→t.s.data.toList≠[]∧∀ j u,i=j+1→ts[j]?=some u→u.text=false:=by
 induction ts with
 | nil=>intro i t ht;simp at ht
 | cons x r ih =>
   intro i t ht htx;cases i with
   | zero =>
     simp at ht
     subst ht;exact ⟨(h.1 htx).1,fun j u hj=>by omega⟩
   | succ i =>
     have hti:r[i]?=some t:=by simpa using ht
     obtain ⟨h1,h2⟩:=ih h.2 i t hti htx;refine ⟨h1,fun j u hj hu=>?_⟩
     have hji:j=i:=by omega
     subst hji;cases j with
     | zero =>
       simp at hu
       subst hu;cases hxt:x.text with
       | false=>rfl
       | true =>
         cases r with
         | nil=>simp at hti
         | cons y r' =>
           simp at hti
           subst hti;rw[(h.1 hxt).2 y r' rfl]at htx
           cases htx
     | succ j=>exact h2 j u rfl (by simpa using hu)
theorem Qa (n:Nat):∀ t,jk n (jk n t)=jk n t:=by
 induction n with
 | zero=>intro t;cases t;rfl
 | succ n ih =>
   intro t
   show ({ (jk (n+1) t) with kids:=(jt (jk (n+1) t).kids).map (jk n) }:Tr)=jk (n+1) t
   have e:(jk (n+1) t).kids=(jt t.kids).map (jk n):=rfl
   have e2:(jt ((jt t.kids).map (jk n))).map (jk n)=(jt t.kids).map (jk n):=by
    rw[xv ((yB t.kids).map (jk n) (zi n) (jm n)),List.map_map];exact List.map_congr_left (fun x _=>ih x)
   rw[e,e2];rfl
def qv (n:Nat)(ts:List Tr):List Tr:=(jt ts).map (jk n)
theorem j5 (n:Nat)(ts:List Tr):qv n (qv n ts)=qv n ts:=by
 unfold qv;rw[xv ((yB ts).map (jk n) (zi n) (jm n)),List.map_map];exact List.map_congr_left (fun x _=>Qa n x)
theorem j3 (n:Nat)(ts:List Tr):Clean (qv n ts):=(yB ts).map (jk n) (zi n) (jm n)
def Deep:Nat→List Tr→Prop
 | 0,ts=>ts=[]
 | n+1,ts=>∀ t∈ts,Deep n t.kids
theorem qa.deep {S:Nat→Prop}{w:World}:∀ (n:Nat){v:Value}{ts:List Tr},qa S w n v ts→Deep n ts
 | 0,_,_,h=>h.1
 | n + 1, _, ts, h => by
   obtain ⟨a,cap,_,_,_,h4⟩:=h;intro t ht;obtain ⟨i,hi⟩:=List.mem_iff_getElem?.1 ht;obtain ⟨b,o,_,_,hc⟩:=h4 (by intro e;subst e;simp at ht)
   obtain ⟨va,vk,_,_,_,_,_,hk⟩:=hc i t hi;exact qa.deep n hk
def HClean:Nat→List Tr→Prop
 | 0,ts=>ts=[]
 | d+1,ts=>Clean ts∧∀ t∈ts,HClean d t.kids
theorem Qo (f:Int→List Tr→Int)(Q:List Tr→Prop)(hf:∀ room l,0≤f room l→Q l):∀ (l:List Tr)(p:Bool)(room:Int),0≤rl f p room l→0≤room →
 Clean l∧(∀ t r,l=t::r→p=true→t.text=false)∧∀ t∈l,Q t.kids:=by
 intro l
 induction l with
 | nil=>intro p room _ _;exact ⟨trivial,by simp,by simp⟩
 | cons t r ih =>
   intro p room h h0;unfold rl at h
   split at h
   · omega
   · rename_i h1
     split at h
     · omega
     · rename_i h2
       obtain ⟨i1,i2,i3⟩:=ih t.text (f room t.kids) h (by omega)
       simp only[Bool.or_eq_true,Bool.not_eq_true',Bool.and_eq_true,not_or,not_and]at h1
       refine ⟨⟨fun ht=>⟨?_,fun u r' hr=>i2 u r' hr ht⟩,i1⟩,?_,?_⟩
       · have := h1.1;simp only[qt,ht,if_true]at this
         intro hnil;rw[ByteArray.toList_eq,hnil]at this
         simp at this
       · intro x y hxy hp;cases hxy
         simpa using h1.2 hp
       · intro x hx
         rcases List.mem_cons.1 hx with rfl|hx
         · exact hf room _ (by omega)
         · exact i3 x hx
theorem rb_clean:∀ (d:Nat)(room:Int)(l:List Tr),0≤rb d room l→HClean (d+1) l:=by
 intro d
 induction d with
 | zero =>
   intro room l h;unfold rb at h
   split at h
   · rename_i he
     have:l=[]:=by simpa using he
     subst this;exact ⟨trivial,by simp⟩
   · omega
 | succ d ih =>
   intro room l h;unfold rb at h
   split at h
   · rename_i he
     have:l=[]:=by simpa using he
     subst this;exact ⟨trivial,by simp⟩
   · split at h
     · omega
     · obtain ⟨h1, _, h3⟩ := Qo (rb d) (HClean (d + 1)) (fun room l h => ih room l h) l false _ h (by omega)
       exact ⟨h1,h3⟩
theorem join_id:∀ (n d:Nat)(ts:List Tr),HClean d ts→Deep (n+1) ts→qv n ts=ts:=by
 intro n
 induction n with
 | zero =>
   intro d ts h hd;unfold qv;cases d with
   | zero=>rw[h];rfl
   | succ d =>
     rw[xv h.1]
     conv=>rhs;rw[←List.map_id ts]
     refine List.map_congr_left (fun t ht=>?_)
     have:=hd t ht;cases t;simp only[Deep]at this
     subst this;rfl
 | succ n ih =>
   intro d ts h hd;unfold qv;cases d with
   | zero=>rw[h];rfl
   | succ d =>
     rw[xv h.1]
     conv=>rhs;rw[←List.map_id ts]
     refine List.map_congr_left (fun t ht=>?_)
     have e:=ih d t.kids (h.2 t ht) (hd t ht)
     show ({ t with kids:=qv n t.kids }:Tr)=t
     rw[e];cases t;rfl
theorem jh {n:Nat}{ts:List Tr}(h:qU ts=true)(hd:Deep (n+1) ts):qv n ts=ts :=
 join_id n 9 ts (rb_clean 8 80 ts (by simpa[qU] using h)) hd
theorem Small.map {n:Nat}{ts:List Tr}(f:Tr→Tr)(h1:∀ t,(f t).s=t.s)(h2:∀ t,(f t).attrs=t.attrs)(h3:∀ t∈ts,Small n (f t).kids)(h:Small (n+1) ts):Small (n+1) (ts.map f):=by
 obtain ⟨a,b,c⟩:=h
 have e:∀ l:List Tr,catL (l.map f)=catL l:=by
  intro l
  induction l with
  | nil=>rfl
  | cons t r ih=>simp[catL,h1,ih]
 refine ⟨by rw[List.length_map];exact a,by rw[e];exact b,fun t ht=>?_⟩
 obtain ⟨x,hx,rfl⟩:=List.mem_map.1 ht;obtain ⟨c1,c2,_⟩:=c x hx;exact ⟨by rw[h2];exact c1,by rw[h1];exact c2,h3 x hx⟩
theorem jk_small:∀ (n:Nat)(t:Tr),Small n t.kids→Small n (jk n t).kids:=by
 intro n
 induction n with
 | zero=>intro t _;trivial
 | succ n ih =>
   intro t h;have hj:=zO h;exact Small.map (jk n) (jm n) (zd n) (fun x hx=>ih x (hj.2.2 x hx).2.2) hj
theorem j4 {n:Nat}{ts:List Tr}(h:Small (n+1) ts):Small (n+1) (qv n ts):=by
 have hj:=zO h;exact Small.map (jk n) (jm n) (zd n) (fun x hx=>jk_small n x (hj.2.2 x hx).2.2) hj
theorem xr (n:Nat)(f:Tr→Tr)(h:∀ t,cnt n (f t).kids≤cnt n t.kids)(ts:List Tr):cnt (n+1) (ts.map f)≤cnt (n+1) ts:=by
 induction ts with
 | nil=>simp
 | cons t r ih=>rw[List.map_cons,qp,qp];have:=h t;omega
theorem jk_cnt:∀ (n:Nat)(t:Tr),cnt n (jk n t).kids≤cnt n t.kids:=by
 intro n
 induction n with
 | zero=>intro t;simp[cnt]
 | succ n ih =>
   intro t;exact Nat.le_trans (xr n (jk n) ih (jt t.kids)) (yt n t.kids)
theorem Qb (n:Nat)(ts:List Tr):cnt (n+1) (qv n ts)≤cnt (n+1) ts :=
 Nat.le_trans (xr n (jk n) (jk_cnt n) (jt ts)) (yt n ts)
end Go.Proofs.Ytfdbipeidmpciaa
namespace Go.Proofs.Ytfdbipeidmpciaa
open Go.ChangeShapes Go.WideShapes Go.ChangeAt Go.RowKit
set_option maxRecDepth 100000
theorem qa.of_block {S:Nat→Prop}{w:World}{n g len cap:Nat}{cs:Array Value}{e:TypeId}{fz:Nat × Nat}{ts:List Tr}{qs:List (Bool × ByteArray × Value × Value)}(hh:w.heap[g]?=some (.cells cs e fz))(hcs:cs.toList=quadCells qs)(hl:len=ts.length)(hq:qs.length=ts.length)(hc:len≤cap)(hm:cap≤maxLen)
 (he:∀ (i:Nat) (q:Bool × ByteArray × Value × Value) (t:Tr),qs[i]?=some q→ts[i]?=some t→q.1=t.text∧q.2.1=t.s∧qc S w q.2.2.1 t.attrs∧qa S w n q.2.2.2 t.kids) :
 qa (fun b=>S b∨b=g) w (n+1) (.slice (some ⟨g,0,none⟩) len cap) ts:=by
 subst hl;refine ⟨_,_,rfl,hc,hm,fun _=>⟨g,0,rfl,Or.inr rfl,fun i t ht=>?_⟩⟩
 have hi:i<ts.length:=by
  rcases Nat.lt_or_ge i ts.length with h|h
  · exact h
  · rw[List.getElem?_eq_none h]at ht;cases ht
 obtain ⟨q,hqi⟩:∃ q,qs[i]?=some q:=⟨qs[i]'(by omega),by simp[hq,hi]⟩
 obtain ⟨a,b,c,d⟩:=he i q t hqi ht;obtain ⟨g0,g1,g2,g3⟩:=qP qs i q hqi
 have hcell:∀ j,w.cell? ⟨g,j,none⟩=(quadCells qs)[j]?:=by
  intro j;rw[cH9 hh,←hcs];simp
 refine ⟨q.2.2.1,q.2.2.2,?_,?_,?_,?_,c.carry (fun b hb=>⟨Or.inl hb,rfl⟩),qa.carry (fun b hb=>⟨Or.inl hb,rfl⟩) n d⟩
 · rw[Nat.zero_add,hcell,g0,a]
 · rw[Nat.zero_add,hcell,g1,b]
 · rw[Nat.zero_add,hcell,g2]
 · rw[Nat.zero_add,hcell,g3]
def qD (t:Tr):Bool:=!t.text&&qU [t]
theorem qY (S:Nat→Prop)(n:Nat)(va vk:Value)(t:Tr)(w:World)(h:qc S w va t.attrs)(hk:qa S w n vk t.kids)(hx:TextsN (n+1) [t]) :
 Calls Try.prog 18 #[.agg #[.bool t.text,.string t.s,va,vk]] w fun e w'=>e=.returned (.bool (qD t))∧Below w.heap.size w w':=by
 obtain ⟨aa,ac,rfl⟩:=h.shape;obtain ⟨ka,kc,rfl,_,_⟩:=qa.shape n hk;cases htx:t.text with
 | true =>
   go_enter Try.func18,Try.ntmps18
   go_wp2_with fail;go_ret;exact ⟨by simp[qD,htx],Below.alloc1 _ _⟩
 | false =>
   go_enter Try.func18,Try.ntmps18
   go_wp2_with fail;have hb:∀ X Y,Below w.heap.size w ((w.alloc X).alloc Y):=fun X Y=>(Below.alloc1 w X).alloc (by simp) Y
   refine (yb (fun b=>S b∨b=w.heap.size+1) (n+1) _ [t] _ (qa.of_block (e:=29) (fz:=(0,0)) (qs:=[(false,t.s,.slice aa t.attrs.length ac,.slice ka t.kids.length kc)]) ?_ rfl rfl rfl (nR9 _) (by unfold maxLen;simp) ?_) hx).mono ?_
   · have := heap_alloc_new (w.alloc (.cells #[.bool false, .string t.s, .slice aa t.attrs.length ac, .slice ka t.kids.length kc] 29)) (.cells #[.bool false, .string t.s, .slice aa t.attrs.length ac, .slice ka t.kids.length kc] 29);rw[World.size_alloc]at this
     exact this
   · intro i q t' hq ht';cases i with
     | zero =>
       simp at hq ht'
       subst hq ht';exact ⟨htx.symm,rfl,h.later (hb _ _),qa.later (hb _ _) n hk⟩
     | succ i=>simp at ht'
   rintro e w1 ⟨rfl,hb1⟩;go_wp2_with fail;go_ret;exact ⟨by simp[qD,htx],(hb _ _).trans (hb1.mono (by simp;omega))⟩
def tA:Tr:=⟨false,⟨#[97]⟩,[],[]⟩
def tNone:Tr:=⟨false,⟨#[]⟩,[],[]⟩
def tFour:List Tr:=[⟨true,⟨#[97]⟩,[],[]⟩,⟨true,⟨#[]⟩,[],[]⟩,⟨true,⟨#[98]⟩,[],[]⟩,⟨false,⟨#[99]⟩,[],[]⟩]
theorem good_a:qD tA=true:=by decide
theorem good_none:qD tNone=false:=by decide
theorem join_four:qv 0 tFour=[⟨true,⟨#[97,98]⟩,[],[]⟩,⟨false,⟨#[99]⟩,[],[]⟩]:=by rfl
theorem small_four:Small 1 tFour:=by
 refine ⟨by decide,by decide,?_⟩
 intro t ht;simp[tFour]at ht
 rcases ht with rfl|rfl|rfl|rfl<;>exact ⟨by decide,by decide,trivial⟩
theorem yW {w:World}:∀ (i:Nat)(q:Bool × ByteArray × Value × Value)(t:Tr),([(true,⟨#[97]⟩,.slice none 0 0,.slice none 0 0),(true,⟨#[]⟩,.slice none 0 0,.slice none 0 0),(true,⟨#[98]⟩,.slice none 0 0,.slice none 0 0),(false,⟨#[99]⟩,.slice none 0 0,.slice none 0 0)]:List (Bool × ByteArray × Value × Value))[i]?=some q→tFour[i]?=some t →
 q.1=t.text∧q.2.1=t.s∧qc (fun _=>False) w q.2.2.1 t.attrs∧qa (fun _=>False) w 0 q.2.2.2 t.kids:=by
 intro i q t hq ht
 match i,hq,ht with
 | 0, hq, ht | 1, hq, ht | 2, hq, ht | 3, hq, ht =>
   simp[tFour]at hq ht
   subst hq ht;exact ⟨rfl,rfl,qc.nil,rfl,none,0,rfl,nZ9 _⟩
 | i+4,hq,_=>simp at hq
end Go.Proofs.Ytfdbipeidmpciaa
