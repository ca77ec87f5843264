/- Bundled: Right Room OnceM Lit RightM. What each says stands ahead of it. -/
import Derived.Test.YtfdbipeidmpciaaDoorFive08
import Derived.Test.YtfdbipeidmpciaaDoorFive07
namespace Go.Proofs.YtfdbipeidmpciaaDoor
open Go.ChangeShapes Go.WideShapes Go.ChangeAt Go.RowKit
set_option maxRecDepth 100000
def qu (t:Tr):Bool :=
 if t.text then !t.s.toList.isEmpty&&qO t.s&&decide (t.attrs.length=0)&&decide (t.kids.length=0)
 else qN t.s&&qW t.attrs
def Zq (t:Tr):Prop:=t.s.size≤maxLen∧∀ x∈t.attrs,x.1.size≤maxLen∧x.2.size≤maxLen
theorem zd (S:Nat→Prop)(va:Value)(ka:Option Addr)(kc:Nat)(t:Tr)(w:World)(h:qe S w va t.attrs)(hx:Zq t) :
 Calls Tryd.prog 91 #[.agg #[.bool t.text,.string t.s,va,.slice ka t.kids.length kc]] w fun e w'=>e=.returned (.bool (qu t))∧Below w.heap.size w w':=by
 obtain ⟨aa,ac,rfl⟩:=h.shape;cases htx:t.text with
 | false =>
   have HR:Hid (qu t=(qN t.s&&qW t.attrs)):=by show _=_;simp[qu,htx]
   cases hn:qN t.s with
   | false =>
     go_enter Tryd.func91,Tryd.ntmps91
     go_wp2_with fail;refine (zv t.s _ hx.1).mono ?_;rintro e w' ⟨rfl,rfl⟩;rw[hn];go_wp2_with fail;go_ret;exact ⟨by rw[HR.out,hn];rfl,Below.alloc1 _ _⟩
   | true =>
     go_enter Tryd.func91,Tryd.ntmps91
     go_wp2_with fail;refine (zv t.s _ hx.1).mono ?_;rintro e w' ⟨rfl,rfl⟩;rw[hn];go_wp2_with fail;refine (Qi S _ t.attrs _ (h.later (Below.alloc1 _ _)) hx.2).mono ?_;rintro e w1 ⟨rfl,hb⟩;go_wp2_with fail;go_ret;exact ⟨by rw[HR.out,hn];rfl,(Below.alloc1 _ _).trans (hb.mono (by simp))⟩
 | true =>
   cases he:t.s.toList.isEmpty with
   | true =>
     go_enter Tryd.func91,Tryd.ntmps91
     go_wp2_with fail;go_ret;exact ⟨by simp[qu,htx,he],Below.alloc1 _ _⟩
   | false =>
     cases hp:qO t.s with
     | false =>
       go_enter Tryd.func91,Tryd.ntmps91
       go_wp2_with fail;refine (zk t.s _ hx.1).mono ?_;rintro e w' ⟨rfl,rfl⟩;rw[hp];go_wp2_with fail;go_ret;exact ⟨by simp[qu,htx,hp],Below.alloc1 _ _⟩
     | true =>
       by_cases hal:t.attrs.length=0
       · have hal' : ((t.attrs.length : Int) == 0) = true := by simpa using hal
         by_cases hkl:t.kids.length=0
         · have hkl' : ((t.kids.length : Int) == 0) = true := by simpa using hkl
           have HR:Hid (qu t=true):=by show _=_;simp[qu,htx,he,hp,List.eq_nil_of_length_eq_zero hal,List.eq_nil_of_length_eq_zero hkl]
           clear hal hkl
           go_enter Tryd.func91,Tryd.ntmps91
           go_wp2_with fail;refine (zk t.s _ hx.1).mono ?_;rintro e w' ⟨rfl,rfl⟩;rw[hp];go_wp2_with fail;go_ret;exact ⟨by rw[HR.out];rfl,Below.alloc1 _ _⟩
         · have hkl' : ((t.kids.length : Int) == 0) = false := by simpa using hkl
           have HR:Hid (qu t=false):=by show _=_;simp[qu,htx];intro _ _ _ h;exact hkl (by rw[h];rfl)
           clear hal hkl
           go_enter Tryd.func91,Tryd.ntmps91
           go_wp2_with fail;refine (zk t.s _ hx.1).mono ?_;rintro e w' ⟨rfl,rfl⟩;rw[hp];go_wp2_with fail;go_ret;exact ⟨by rw[HR.out];rfl,Below.alloc1 _ _⟩
       · have hal' : ((t.attrs.length : Int) == 0) = false := by simpa using hal
         have HR:Hid (qu t=false):=by show _=_;simp[qu,htx];intro _ _ h;exact absurd (by rw[h];rfl) hal
         clear hal
         go_enter Tryd.func91,Tryd.ntmps91
         go_wp2_with fail;refine (zk t.s _ hx.1).mono ?_;rintro e w' ⟨rfl,rfl⟩;rw[hp];go_wp2_with fail;go_ret;exact ⟨by rw[HR.out];rfl,Below.alloc1 _ _⟩
def rl (f:Int→List Tr→Int):Bool→Int→List Tr→Int
 | _,room,[]=>room
 | prev,room,t::r=>if !qu t||(prev&&t.text) then -1 else if f room t.kids<0 then -1 else rl f t.text (f room t.kids) r
def rb:Nat→Int→List Tr→Int
 | 0,room,l=>if l.isEmpty then room else -1
 | d+1,room,l=>if l.isEmpty then room else if room<l.length then -1 else rl (rb d) false (room-l.length) l
theorem Kk (f:Int→List Tr→Int)(hf:∀ room l,0≤room→-1≤f room l∧f room l≤room):∀ (l:List Tr) (p:Bool) (room:Int),0≤room→-1≤rl f p room l∧rl f p room l≤room:=by
 intro l
 induction l with
 | nil=>intro p room h;simp[rl];omega
 | cons t r ih =>
   intro p room h;unfold rl;have:=hf room t.kids h
   split
   · omega
   · split
     · omega
     · have:=ih t.text (f room t.kids) (by omega);omega
theorem rb_le:∀ (d:Nat) (room:Int) (l:List Tr),0≤room→-1≤rb d room l∧rb d room l≤room:=by
 intro d
 induction d with
 | zero=>intro room l h;unfold rb;split<;>omega
 | succ d ih =>
   intro room l h;unfold rb
   split
   · omega
   · split
     · omega
     · have:=Kk (rb d) ih l false (room-l.length) (by omega);omega
def qG (l:List Tr):Nat→Bool
 | 0=>false
 | j+1=>((l[j]?).map (·.text)).getD false
def TextsN:Nat→List Tr→Prop
 | 0,_=>True
 | n+1,ts=>∀ t∈ts,Zq t∧TextsN n t.kids
def xD (d:Nat):Prop:=∀ (S:Nat→Prop) (n:Nat) (v:Value) (l:List Tr) (w:World) (room:Int),qb S w n v l→TextsN n l→0≤room→room≤80 →
 Calls Tryd.prog 56 #[v,.int .i64 d,.int .i64 room] w fun e w'=>e=.returned (.int .i64 (rb d room l))∧Below w.heap.size w w'
theorem Z1 (S:Nat→Prop)(n d:Nat)(v:Value)(w:World)(room:Int)(h:qb S w n v []) :
 Calls Tryd.prog 56 #[v,.int .i64 d,.int .i64 room] w fun e w'=>e=.returned (.int .i64 (rb d room []))∧Below w.heap.size w w':=by
 obtain ⟨a,cap,rfl,_,_⟩:=qb.shape n h;simp only[List.length_nil];have hr:rb d room []=room:=by cases d<;>simp[rb]
 rw[hr];clear hr
 go_enter Tryd.func56,Tryd.ntmps56
 go_wp2_with fail;go_ret;exact ⟨rfl,Below.refl _ _⟩
theorem room_zero:xD 0:=by
 intro S n v l w room h _ h0 h8;cases l with
 | nil=>exact Z1 S n 0 v w room h
 | cons t r =>
   obtain ⟨a,cap,rfl,_,_⟩:=qb.shape n h;have hne:(((t::r).length:Int)==0)=false:=by simp;omega
   have hr:rb 0 room (t::r)=-1:=by simp[rb]
   rw[hr]
   go_enter Tryd.func56,Tryd.ntmps56
   go_wp2_with fail;go_ret;exact ⟨rfl,Below.refl _ _⟩
theorem JL (d:Nat)(hd:d<8)(h:xD d):xD (d+1):=by
 intro S n v l w room hT hx h0 h8;have H:Hid (xD d):=h;clear h;cases l with
 | nil=>exact Z1 S n (d+1) v w room hT
 | cons t0 r0 =>
   obtain ⟨l,hl⟩:∃ l,t0::r0=l:=⟨_,rfl⟩;have hne:l≠[]:=by rw[←hl];simp
   rw[hl]at hT hx ⊢
   clear hl;cases n with
   | zero=>exact absurd hT.1 hne
   | succ n =>
     have hpos:=List.length_pos_iff.2 hne;obtain ⟨a,cap,rfl,hlc,hm,h4⟩:=hT;unfold maxLen at hm
     obtain ⟨b,o,rfl,hs,hcc⟩:=h4 hne;have hne1:((l.length:Int)==0)=false:=by simp;omega
     have hd1:(((d:Int)+1)==0)=false:=by simp;omega
     have hie:l.isEmpty=false:=by simpa using hne
     by_cases hbig:room<l.length
     · have hr : rb (d + 1) room l = -1 := by simp[rb, hie, hbig]
       rw[hr];clear hr
       go_enter Tryd.func56,Tryd.ntmps56
       go_wp2_with fail;go_ret;exact ⟨rfl,Below.refl _ _⟩
     · have hr : rb (d + 1) room l = rl (rb d) false (room - l.length) l := by simp[rb, hie, hbig]
       rw[hr];clear hr;have hbig':(l.length:Int)≤room:=by omega
       clear hbig
       go_enter Tryd.func56,Tryd.ntmps56
       go_wp2_with fail
       go_loopg [27,2] l.length (fun g i rm wr=>∃ (k:Nat) (rr:Int),k+g=l.length∧i=.int .i64 k∧rm=.int .i64 rr∧0≤rr∧rr≤80∧Below w.heap.size w wr ∧
        rl (rb d) false (room-l.length) l=rl (rb d) (qG l k) rr (l.drop k))
       case atStart => exact ⟨0,room-l.length,by omega,rfl,rfl,by omega,by omega,Below.refl _ _,rfl⟩
       case round =>
        obtain ⟨k,rr,hk,rfl,rfl,hr0,hr8,hB,heq⟩:=hrel;have HE:Hid (rl (rb d) false (room-l.length) l=rl (rb d) (qG l k) rr (l.drop k)):=heq;clear heq
        by_cases hlt:k<l.length
        · obtain ⟨t, ht⟩ : ∃ t, l[k]? = some t := ⟨l[k], by simp[hlt]⟩
          obtain ⟨va,vk,c0,c1,c2,c3,hat,hkt⟩:=hcc k t ht;obtain ⟨aa,ac,rfl⟩:=hat.shape;obtain ⟨ka,kc,rfl,_,_⟩:=qb.shape n hkt;have hbl:b<w.heap.size:=World.block_lt_of_cell? w _ c0;rw[←hB.cell (p:=⟨b,o+k*4,none⟩) hbl]at c0
          rw[←hB.cell (p:=⟨b,o+k*4+1,none⟩) hbl]at c1
          rw[←hB.cell (p:=⟨b,o+k*4+2,none⟩) hbl]at c2
          rw[←hB.cell (p:=⟨b,o+k*4+3,none⟩) hbl]at c3
          have hd:l.drop k=t::l.drop (k+1):=by
           rw[List.drop_eq_getElem_cons hlt];congr 1;simpa[hlt] using ht
          have hxt:=hx t (List.mem_of_getElem? ht);have hsz:=hB.size;have hblr:b<wr.heap.size:=by omega
          have HT:Hid (l[k]?=some t):=ht;have HD:Hid (l.drop k=t::l.drop (k+1)):=hd;have hBa:∀ x,Below w.heap.size w (wr.alloc x):=fun x=>hB.alloc hsz x
          clear ht hd;cases hrt:qu t with
          | false =>
            have HF:Hid (rl (rb d) false (room-l.length) l=-1):=by
             show _=_
             rw[HE.out,HD.out];simp[rl,hrt]
            clear HE hcc h4;go_wp2_with fail;refine (zd S _ _ _ t _ (hat.later (hBa _)) hxt.1).mono ?_;rintro e w1 ⟨rfl,hb1⟩;rw[hrt];go_wp2_with fail;go_ret;exact ⟨by rw[HF.out];rfl,(hBa _).trans (hb1.mono (by simp;omega))⟩
          | true =>
            cases hpt:(qG l k&&t.text) with
            | true =>
              have HF:Hid (rl (rb d) false (room-l.length) l=-1):=by
               show _=_
               rw[HE.out,HD.out];simp[rl,hpt]
              obtain ⟨j,rfl⟩:∃ j,k=j+1:=by
               cases k with
               | zero=>simp[qG]at hpt
               | succ j=>exact ⟨j,rfl⟩
              obtain ⟨u,hu⟩:∃ u,l[j]?=some u:=⟨l[j]'(by omega),by simp⟩
              rw[Bool.and_eq_true]at hpt
              obtain ⟨hp1,hp2⟩:=hpt;have hu1:u.text=true:=by simpa[qG,hu] using hp1
              have e0:=(hcc j u hu).choose_spec.choose_spec.1;rw[←hB.cell (p:=⟨b,o+j*4,none⟩) hbl,hu1]at e0
              rw[hp2]at c0
              have hj1:(j:Int)<(l.length:Int):=by omega
              have hj2:(j:Int)+1<(l.length:Int):=by omega
              clear HE hcc h4 hu hp1 hu1;go_wp2_with fail;have hcall:=zd S (.slice aa t.attrs.length ac) ka kc t (wr.alloc (.cells #[.bool true,.string t.s,.slice aa t.attrs.length ac,.slice ka t.kids.length kc] 25)) (hat.later (hBa _)) hxt.1;rw[hp2]at hcall
              refine hcall.mono ?_;clear hcall;rintro e w1 ⟨rfl,hb1⟩;rw[hrt]
              have f0:w1.cell? ⟨b,o+j*4,none⟩=some (.bool true):=by
               rw[hb1.cell (p:=⟨b,o+j*4,none⟩) (by simp;omega),World.cell?_alloc_lt _ _ _ (by simp only;omega)];exact e0
              have f1:w1.cell? ⟨wr.heap.size,0,none⟩=some (.bool true):=by
               rw[hb1.cell (p:=⟨wr.heap.size,0,none⟩) (by simp)];simp[go_sem]
              go_wp2_with fail;go_ret;exact ⟨by rw[HF.out];rfl,(hBa _).trans (hb1.mono (by simp;omega))⟩
            | false =>
              have HG0:Hid (rl (rb d) false (room-l.length) l=if rb d rr t.kids<0 then -1 else rl (rb d) t.text (rb d rr t.kids) (l.drop (k+1))):=by
               show _=_
               rw[HE.out,HD.out];simp[rl,hpt,hrt]
              clear HE h4;cases k with
              | zero =>
                clear hcc hpt;simp only[Nat.zero_mul,Nat.add_zero]at c0 c1 c2 c3
                rw[show ((0:Nat):Int)=0 from rfl]
                go_wp2_with fail;have hcall:=zd S (.slice aa t.attrs.length ac) ka kc t (wr.alloc (.cells #[.bool t.text,.string t.s,.slice aa t.attrs.length ac,.slice ka t.kids.length kc] 25)) (hat.later (hBa _)) hxt.1;refine hcall.mono ?_;clear hcall;rintro e w1 ⟨rfl,hb1⟩;rw[hrt]
                have f1:w1.cell? ⟨wr.heap.size,0,none⟩=some (.bool t.text):=by
                 rw[hb1.cell (p:=⟨wr.heap.size,0,none⟩) (by simp)];simp[go_sem]
                have f3:w1.cell? ⟨wr.heap.size,3,none⟩=some (.slice ka t.kids.length kc):=by
                 rw[hb1.cell (p:=⟨wr.heap.size,3,none⟩) (by simp)];simp[go_sem]
                have hB1:Below w.heap.size w w1:=(hBa _).trans (hb1.mono (by simp;omega))
                go_wp2_with fail;refine (H.out S n _ t.kids _ rr (qb.later hB1 n hkt) hxt.2 hr0 hr8).mono ?_;rintro e w2 ⟨rfl,hb2⟩;have hrle:=rb_le d rr t.kids hr0;have HG:=HG0.out;obtain ⟨r2,hr2⟩:∃ r2,rb d rr t.kids=r2:=⟨_,rfl⟩;rw[hr2]at hrle HG ⊢
                have HG':Hid (rl (rb d) false (room-l.length) l=if r2<0 then -1 else rl (rb d) t.text r2 (l.drop (0+1))):=HG
                have hB2:Below w.heap.size w w2:=hB1.trans (hb2.mono hB1.size);clear HG hr2
                by_cases hneg:r2<0
                · go_wp2_with fail;go_ret;exact ⟨by rw[HG'.out,if_pos hneg];rfl,hB2⟩
                · go_wp2_with fail
                  go_roundg (l.length-(0+1))
                  case measure => omega
                  case rel =>
                   refine ⟨0+1,r2,by omega,by go_num,rfl,by omega,by omega,hB2,?_⟩
                   rw[HG'.out,if_neg (by omega)]
                   simp[qG,HT.out]
              | succ j =>
                have hj1:(j:Int)<(l.length:Int):=by omega
                have hj2:(j:Int)+1<(l.length:Int):=by omega
                cases htx:t.text with
                | false =>
                  clear hcc hpt;rw[htx]at c0
                  go_wp2_with fail;have hcall:=zd S (.slice aa t.attrs.length ac) ka kc t (wr.alloc (.cells #[.bool false,.string t.s,.slice aa t.attrs.length ac,.slice ka t.kids.length kc] 25)) (hat.later (hBa _)) hxt.1;rw[htx]at hcall
                  refine hcall.mono ?_;clear hcall;rintro e w1 ⟨rfl,hb1⟩;rw[hrt]
                  have f1:w1.cell? ⟨wr.heap.size,0,none⟩=some (.bool false):=by
                   rw[hb1.cell (p:=⟨wr.heap.size,0,none⟩) (by simp)];simp[go_sem]
                  have f3:w1.cell? ⟨wr.heap.size,3,none⟩=some (.slice ka t.kids.length kc):=by
                   rw[hb1.cell (p:=⟨wr.heap.size,3,none⟩) (by simp)];simp[go_sem]
                  have hB1:Below w.heap.size w w1:=(hBa _).trans (hb1.mono (by simp;omega))
                  go_wp2_with fail;refine (H.out S n _ t.kids _ rr (qb.later hB1 n hkt) hxt.2 hr0 hr8).mono ?_;rintro e w2 ⟨rfl,hb2⟩;have hrle:=rb_le d rr t.kids hr0;have HG:=HG0.out;obtain ⟨r2,hr2⟩:∃ r2,rb d rr t.kids=r2:=⟨_,rfl⟩;rw[hr2]at hrle HG ⊢
                  have HG':Hid (rl (rb d) false (room-l.length) l=if r2<0 then -1 else rl (rb d) t.text r2 (l.drop (j+1+1))):=HG
                  have hB2:Below w.heap.size w w2:=hB1.trans (hb2.mono hB1.size);clear HG hr2
                  by_cases hneg:r2<0
                  · go_wp2_with fail;go_ret;exact ⟨by rw[HG'.out,if_pos hneg];rfl,hB2⟩
                  · go_wp2_with fail
                    go_roundg (l.length-(j+1+1))
                    case measure => omega
                    case rel =>
                     refine ⟨j+1+1,r2,by omega,by go_num,rfl,by omega,by omega,hB2,?_⟩
                     rw[HG'.out,if_neg (by omega)]
                     simp[qG,HT.out]
                | true =>
                  obtain ⟨u,hu⟩:∃ u,l[j]?=some u:=⟨l[j]'(by omega),by simp⟩
                  have hu1:u.text=false:=by simpa[qG,hu,htx] using hpt
                  have e0:=(hcc j u hu).choose_spec.choose_spec.1;rw[←hB.cell (p:=⟨b,o+j*4,none⟩) hbl,hu1]at e0
                  rw[htx]at c0
                  clear hcc hu hu1 hpt;go_wp2_with fail;have hcall:=zd S (.slice aa t.attrs.length ac) ka kc t (wr.alloc (.cells #[.bool true,.string t.s,.slice aa t.attrs.length ac,.slice ka t.kids.length kc] 25)) (hat.later (hBa _)) hxt.1;rw[htx]at hcall
                  refine hcall.mono ?_;clear hcall;rintro e w1 ⟨rfl,hb1⟩;rw[hrt]
                  have f0:w1.cell? ⟨b,o+j*4,none⟩=some (.bool false):=by
                   rw[hb1.cell (p:=⟨b,o+j*4,none⟩) (by simp;omega),World.cell?_alloc_lt _ _ _ (by simp only;omega)];exact e0
                  have f1:w1.cell? ⟨wr.heap.size,0,none⟩=some (.bool true):=by
                   rw[hb1.cell (p:=⟨wr.heap.size,0,none⟩) (by simp)];simp[go_sem]
                  have f3:w1.cell? ⟨wr.heap.size,3,none⟩=some (.slice ka t.kids.length kc):=by
                   rw[hb1.cell (p:=⟨wr.heap.size,3,none⟩) (by simp)];simp[go_sem]
                  have hB1:Below w.heap.size w w1:=(hBa _).trans (hb1.mono (by simp;omega))
                  go_wp2_with fail;refine (H.out S n _ t.kids _ rr (qb.later hB1 n hkt) hxt.2 hr0 hr8).mono ?_;rintro e w2 ⟨rfl,hb2⟩;have hrle:=rb_le d rr t.kids hr0;have HG:=HG0.out;obtain ⟨r2,hr2⟩:∃ r2,rb d rr t.kids=r2:=⟨_,rfl⟩;rw[hr2]at hrle HG ⊢
                  have HG':Hid (rl (rb d) false (room-l.length) l=if r2<0 then -1 else rl (rb d) t.text r2 (l.drop (j+1+1))):=HG
                  have hB2:Below w.heap.size w w2:=hB1.trans (hb2.mono hB1.size);clear HG hr2
                  by_cases hneg:r2<0
                  · go_wp2_with fail;go_ret;exact ⟨by rw[HG'.out,if_pos hneg];rfl,hB2⟩
                  · go_wp2_with fail
                    go_roundg (l.length-(j+1+1))
                    case measure => omega
                    case rel =>
                     refine ⟨j+1+1,r2,by omega,by go_num,rfl,by omega,by omega,hB2,?_⟩
                     rw[HG'.out,if_neg (by omega)]
                     simp[qG,HT.out]
        · go_wp2_with fail;go_ret;refine ⟨?_,hB⟩;rw[HE.out,List.drop_of_length_le (by omega)]
          rfl
theorem room_any:∀ (d:Nat),d≤8→xD d:=by
 intro d
 induction d with
 | zero=>intro _;exact room_zero
 | succ d ih=>intro h;exact JL d (by omega) (ih (by omega))
def zQ (l:List Tr):Bool:=decide (0≤rb 8 80 l)
theorem xf (S:Nat→Prop)(n:Nat)(v:Value)(l:List Tr)(w:World)(h:qb S w n v l)(hx:TextsN n l) :
 Calls Tryd.prog 21 #[v] w fun e w'=>e=.returned (.bool (zQ l))∧Below w.heap.size w w':=by
 go_enter Tryd.func21,Tryd.ntmps21
 go_wp2_with fail;refine (room_any 8 (nR9 _) S n _ l _ 80 h hx (by decide) (by decide)).mono ?_
 rintro e w1 ⟨rfl,hb1⟩;go_wp2_with fail;go_ret;exact ⟨rfl,hb1⟩
end Go.Proofs.YtfdbipeidmpciaaDoor
/- What is joined is joined, and what is right is as it was: as plain functions. No condition. -/
namespace Go.Proofs.YtfdbipeidmpciaaDoor
def Deep:Nat→List Tr→Prop
 | 0,ts=>ts=[]
 | n+1,ts=>∀ t∈ts,Deep n t.kids
theorem qb.deep {S:Nat→Prop}{w:World}:∀ (n:Nat) {v:Value} {ts:List Tr},qb S w n v ts→Deep n ts
 | 0,_,_,h=>h.1
 | n + 1, _, ts, h => by
   obtain ⟨a,cap,_,_,_,h4⟩:=h;intro t ht;obtain ⟨i,hi⟩:=List.mem_iff_getElem?.1 ht;obtain ⟨b,o,_,_,hc⟩:=h4 (by intro e;subst e;simp at ht)
   obtain ⟨va,vk,_,_,_,_,_,hk⟩:=hc i t hi;exact qb.deep n hk
end Go.Proofs.YtfdbipeidmpciaaDoor
namespace Go.Proofs.YtfdbipeidmpciaaDoor
open Go.ChangeShapes Go.WideShapes Go.ChangeAt Go.RowKit
set_option maxRecDepth 100000
theorem qb.of_block {S:Nat→Prop}{w:World}{n g len cap:Nat}{cs:Array Value}{e:TypeId}{fz:Nat × Nat}{ts:List Tr}{qs:List (Bool × ByteArray × Value × Value)}(hh:w.heap[g]?=some (.cells cs e fz))(hcs:cs.toList=quadCells qs)(hl:len=ts.length)(hq:qs.length=ts.length)(hc:len≤cap)(hm:cap≤maxLen)
 (he:∀ (i:Nat) (q:Bool × ByteArray × Value × Value) (t:Tr),qs[i]?=some q→ts[i]?=some t→q.1=t.text∧q.2.1=t.s∧qe S w q.2.2.1 t.attrs∧qb S w n q.2.2.2 t.kids) :
 qb (fun b=>S b∨b=g) w (n+1) (.slice (some ⟨g,0,none⟩) len cap) ts:=by
 subst hl;refine ⟨_,_,rfl,hc,hm,fun _=>⟨g,0,rfl,Or.inr rfl,fun i t ht=>?_⟩⟩
 have hi:i<ts.length:=by
  rcases Nat.lt_or_ge i ts.length with h|h
  · exact h
  · rw[List.getElem?_eq_none h]at ht;cases ht
 obtain ⟨q,hqi⟩:∃ q,qs[i]?=some q:=⟨qs[i]'(by omega),by simp[hq,hi]⟩
 obtain ⟨a,b,c,d⟩:=he i q t hqi ht;obtain ⟨g0,g1,g2,g3⟩:=yf qs i q hqi
 have hcell:∀ j,w.cell? ⟨g,j,none⟩=(quadCells qs)[j]?:=by
  intro j;rw[cH9 hh,←hcs];simp
 refine ⟨q.2.2.1,q.2.2.2,?_,?_,?_,?_,c.carry (fun b hb=>⟨Or.inl hb,rfl⟩),qb.carry (fun b hb=>⟨Or.inl hb,rfl⟩) n d⟩
 · rw[Nat.zero_add,hcell,g0,a]
 · rw[Nat.zero_add,hcell,g1,b]
 · rw[Nat.zero_add,hcell,g2]
 · rw[Nat.zero_add,hcell,g3]
def qw (t:Tr):Bool:=!t.text&&zQ [t]
theorem yj (S:Nat→Prop)(n:Nat)(va vk:Value)(t:Tr)(w:World)(h:qe S w va t.attrs)(hk:qb S w n vk t.kids)(hx:TextsN (n+1) [t]) :
 Calls Tryd.prog 19 #[.agg #[.bool t.text,.string t.s,va,vk]] w fun e w'=>e=.returned (.bool (qw t))∧Below w.heap.size w w':=by
 obtain ⟨aa,ac,rfl⟩:=h.shape;obtain ⟨ka,kc,rfl,_,_⟩:=qb.shape n hk;cases htx:t.text with
 | true =>
   go_enter Tryd.func19,Tryd.ntmps19
   go_wp2_with fail;go_ret;exact ⟨by simp[qw,htx],Below.alloc1 _ _⟩
 | false =>
   go_enter Tryd.func19,Tryd.ntmps19
   go_wp2_with fail;have hb:∀ X Y,Below w.heap.size w ((w.alloc X).alloc Y):=fun X Y=>(Below.alloc1 w X).alloc (by simp) Y
   refine (xf (fun b=>S b∨b=w.heap.size+1) (n+1) _ [t] _ (qb.of_block (e:=25) (fz:=(0,0)) (qs:=[(false,t.s,.slice aa t.attrs.length ac,.slice ka t.kids.length kc)]) ?_ rfl rfl rfl (nR9 _) (by unfold maxLen;simp) ?_) hx).mono ?_
   · have := heap_alloc_new (w.alloc (.cells #[.bool false, .string t.s, .slice aa t.attrs.length ac, .slice ka t.kids.length kc] 25)) (.cells #[.bool false, .string t.s, .slice aa t.attrs.length ac, .slice ka t.kids.length kc] 25);rw[World.size_alloc]at this
     exact this
   · intro i q t' hq ht';cases i with
     | zero =>
       simp at hq ht'
       subst hq ht';exact ⟨htx.symm,rfl,h.later (hb _ _),qb.later (hb _ _) n hk⟩
     | succ i=>simp at ht'
   rintro e w1 ⟨rfl,hb1⟩;go_wp2_with fail;go_ret;exact ⟨by simp[qw,htx],(hb _ _).trans (hb1.mono (by simp;omega))⟩
def rgL (f:List Tr→Bool):Bool→List Tr→Bool
 | _,[]=>true
 | p,t::r=>qu t&&!(p&&t.text)&&(t.text||f t.kids)&&rgL f t.text r
def rgt:Nat→List Tr→Bool
 | 0,_=>true
 | n+1,ts=>rgL (rgt n) false ts
def TexN:Nat→List Tr→Prop
 | 0,_=>True
 | n+1,ts=>∀ t∈ts,t.s.size≤maxLen∧(∀ x∈t.attrs,x.1.size≤maxLen∧x.2.size≤maxLen)∧TexN n t.kids
structure jU (W:World) (b:Nat) (c0 c1 c2 c3:Value):Prop where
 lt:b<W.heap.size
 at0:W.cell? ⟨b,0,none⟩=some c0
 at1:W.cell? ⟨b,1,none⟩=some c1
 at2:W.cell? ⟨b,2,none⟩=some c2
 at3:W.cell? ⟨b,3,none⟩=some c3
theorem jU.later {W W':World}{b B:Nat}{c0 c1 c2 c3:Value}(h:jU W b c0 c1 c2 c3)(hb:Below B W W')(hB:b<B):jU W' b c0 c1 c2 c3 :=
 ⟨Nat.lt_of_lt_of_le h.lt hb.size,by rw[hb.cell (p:=⟨b,0,none⟩) hB];exact h.at0,by rw[hb.cell (p:=⟨b,1,none⟩) hB];exact h.at1,by rw[hb.cell (p:=⟨b,2,none⟩) hB];exact h.at2,by rw[hb.cell (p:=⟨b,3,none⟩) hB];exact h.at3⟩
theorem jU.start (w:World)(c0 c1 c2 c3:Value)(e:TypeId):jU (w.alloc (.cells #[c0,c1,c2,c3] e)) w.heap.size c0 c1 c2 c3 :=
 ⟨by simp,by simp,by simp,by simp,by simp⟩
end Go.Proofs.YtfdbipeidmpciaaDoor
