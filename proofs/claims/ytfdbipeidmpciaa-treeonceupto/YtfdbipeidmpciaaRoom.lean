/- tree.roomBehind and tree.Content, for every list of trees. Condition: texts of at most 2^63 letters, which every text has. -/
import Derived.Test.YtfdbipeidmpciaaRight
namespace Go.Proofs.Ytfdbipeidmpciaa
open Go.ChangeShapes Go.WideShapes Go.ChangeAt Go.RowKit
set_option maxRecDepth 100000
def rl (f:Int→List Tr→Int):Bool→Int→List Tr→Int
 | _,room,[]=>room
 | prev,room,t::r=>if !qt t||(prev&&t.text) then -1 else if f room t.kids<0 then -1 else rl f t.text (f room t.kids) r
def rb:Nat→Int→List Tr→Int
 | 0,room,l=>if l.isEmpty then room else -1
 | d+1,room,l=>if l.isEmpty then room else if room<l.length then -1 else rl (rb d) false (room-l.length) l
theorem QV (f:Int→List Tr→Int)(hf:∀ room l,0≤room→-1≤f room l∧f room l≤room):∀ (l:List Tr)(p:Bool)(room:Int),0≤room→-1≤rl f p room l∧rl f p room l≤room:=by
 intro l
 induction l with
 | nil=>intro p room h;simp[rl];omega
 | cons t r ih =>
   intro p room h;unfold rl;have:=hf room t.kids h
   split
   · omega
   · split
     · omega
     · have:=ih t.text (f room t.kids) (by omega);omega
theorem rb_le:∀ (d:Nat)(room:Int)(l:List Tr),0≤room→-1≤rb d room l∧rb d room l≤room:=by
 intro d
 induction d with
 | zero=>intro room l h;unfold rb;split<;>omega
 | succ d ih =>
   intro room l h;unfold rb
   split
   · omega
   · split
     · omega
     · have:=QV (rb d) ih l false (room-l.length) (by omega);omega
def qJ (l:List Tr):Nat→Bool
 | 0=>false
 | j+1=>((l[j]?).map (·.text)).getD false
def TextsN:Nat→List Tr→Prop
 | 0,_=>True
 | n+1,ts=>∀ t∈ts,yR t∧TextsN n t.kids
def yn (d:Nat):Prop:=∀ (S:Nat→Prop)(n:Nat)(v:Value)(l:List Tr)(w:World)(room:Int),qa S w n v l→TextsN n l→0≤room→room≤80 →
 Calls Try.prog 30 #[v,.int .i64 d,.int .i64 room] w fun e w'=>e=.returned (.int .i64 (rb d room l))∧Below w.heap.size w w'
theorem jS (S:Nat→Prop)(n d:Nat)(v:Value)(w:World)(room:Int)(h:qa S w n v []) :
 Calls Try.prog 30 #[v,.int .i64 d,.int .i64 room] w fun e w'=>e=.returned (.int .i64 (rb d room []))∧Below w.heap.size w w':=by
 obtain ⟨a,cap,rfl,_,_⟩:=qa.shape n h;simp only[List.length_nil];have hr:rb d room []=room:=by cases d<;>simp[rb]
 rw[hr];clear hr
 go_enter Try.func30,Try.ntmps30
 go_wp2_with fail;go_ret;exact ⟨rfl,Below.refl _ _⟩
theorem room_zero:yn 0:=by
 intro S n v l w room h _ h0 h8;cases l with
 | nil=>exact jS S n 0 v w room h
 | cons t r =>
   obtain ⟨a,cap,rfl,_,_⟩:=qa.shape n h;have hne:(((t::r).length:Int)==0)=false:=by simp;omega
   have hr:rb 0 room (t::r)=-1:=by simp[rb]
   rw[hr]
   go_enter Try.func30,Try.ntmps30
   go_wp2_with fail;go_ret;exact ⟨rfl,Below.refl _ _⟩
theorem xQ (d:Nat)(hd:d<8)(h:yn d):yn (d+1):=by
 intro S n v l w room hT hx h0 h8;have H:Hid (yn d):=h;clear h;cases l with
 | nil=>exact jS S n (d+1) v w room hT
 | cons t0 r0 =>
   obtain ⟨l,hl⟩:∃ l,t0::r0=l:=⟨_,rfl⟩;have hne:l≠[]:=by rw[←hl];simp
   rw[hl]at hT hx ⊢
   clear hl;cases n with
   | zero=>exact absurd hT.1 hne
   | succ n =>
     have hpos:=List.length_pos_iff.2 hne;obtain ⟨a,cap,rfl,hlc,hm,h4⟩:=hT;unfold maxLen at hm
     obtain ⟨b,o,rfl,hs,hcc⟩:=h4 hne;have hne1:((l.length:Int)==0)=false:=by simp;omega
     have hd1:(((d:Int)+1)==0)=false:=by simp;omega
     have hie:l.isEmpty=false:=by simpa using hne
     by_cases hbig:room<l.length
     · have hr : rb (d + 1) room l = -1 := by simp[rb, hie, hbig]
       rw[hr];clear hr
       go_enter Try.func30,Try.ntmps30
       go_wp2_with fail;go_ret;exact ⟨rfl,Below.refl _ _⟩
     · have hr : rb (d + 1) room l = rl (rb d) false (room - l.length) l := by simp[rb, hie, hbig]
       rw[hr];clear hr;have hbig':(l.length:Int)≤room:=by omega
       clear hbig
       go_enter Try.func30,Try.ntmps30
       go_wp2_with fail
       go_loopg [27,2] l.length (fun g i rm wr=>∃ (k:Nat) (rr:Int),k+g=l.length∧i=.int .i64 k∧rm=.int .i64 rr∧0≤rr∧rr≤80∧Below w.heap.size w wr ∧
        rl (rb d) false (room-l.length) l=rl (rb d) (qJ l k) rr (l.drop k))
       case atStart => exact ⟨0,room-l.length,by omega,rfl,rfl,by omega,by omega,Below.refl _ _,rfl⟩
       case round =>
        obtain ⟨k,rr,hk,rfl,rfl,hr0,hr8,hB,heq⟩:=hrel;have HE:Hid (rl (rb d) false (room-l.length) l=rl (rb d) (qJ l k) rr (l.drop k)):=heq;clear heq
        by_cases hlt:k<l.length
        · obtain ⟨t, ht⟩ : ∃ t, l[k]? = some t := ⟨l[k], by simp[hlt]⟩
          obtain ⟨va,vk,c0,c1,c2,c3,hat,hkt⟩:=hcc k t ht;obtain ⟨aa,ac,rfl⟩:=hat.shape;obtain ⟨ka,kc,rfl,_,_⟩:=qa.shape n hkt;have hbl:b<w.heap.size:=World.block_lt_of_cell? w _ c0;rw[←hB.cell (p:=⟨b,o+k*4,none⟩) hbl]at c0
          rw[←hB.cell (p:=⟨b,o+k*4+1,none⟩) hbl]at c1
          rw[←hB.cell (p:=⟨b,o+k*4+2,none⟩) hbl]at c2
          rw[←hB.cell (p:=⟨b,o+k*4+3,none⟩) hbl]at c3
          have hd:l.drop k=t::l.drop (k+1):=by
           rw[List.drop_eq_getElem_cons hlt];congr 1;simpa[hlt] using ht
          have hxt:=hx t (List.mem_of_getElem? ht);have hsz:=hB.size;have hblr:b<wr.heap.size:=by omega
          have HT:Hid (l[k]?=some t):=ht;have HD:Hid (l.drop k=t::l.drop (k+1)):=hd;have hBa:∀ x,Below w.heap.size w (wr.alloc x):=fun x=>hB.alloc hsz x
          clear ht hd;cases hrt:qt t with
          | false =>
            have HF:Hid (rl (rb d) false (room-l.length) l=-1):=by
             show _=_
             rw[HE.out,HD.out];simp[rl,hrt]
            clear HE hcc h4;go_wp2_with fail;refine (qB S _ _ _ t _ (hat.later (hBa _)) hxt.1).mono ?_;rintro e w1 ⟨rfl,hb1⟩;rw[hrt];go_wp2_with fail;go_ret;exact ⟨by rw[HF.out];rfl,(hBa _).trans (hb1.mono (by simp;omega))⟩
          | true =>
            cases hpt:(qJ l k&&t.text) with
            | true =>
              have HF:Hid (rl (rb d) false (room-l.length) l=-1):=by
               show _=_
               rw[HE.out,HD.out];simp[rl,hpt]
              obtain ⟨j,rfl⟩:∃ j,k=j+1:=by
               cases k with
               | zero=>simp[qJ]at hpt
               | succ j=>exact ⟨j,rfl⟩
              obtain ⟨u,hu⟩:∃ u,l[j]?=some u:=⟨l[j]'(by omega),by simp⟩
              rw[Bool.and_eq_true]at hpt
              obtain ⟨hp1,hp2⟩:=hpt;have hu1:u.text=true:=by simpa[qJ,hu] using hp1
              have e0:=(hcc j u hu).choose_spec.choose_spec.1;rw[←hB.cell (p:=⟨b,o+j*4,none⟩) hbl,hu1]at e0
              rw[hp2]at c0
              have hj1:(j:Int)<(l.length:Int):=by omega
              have hj2:(j:Int)+1<(l.length:Int):=by omega
              clear HE hcc h4 hu hp1 hu1;go_wp2_with fail;have hcall:=qB S (.slice aa t.attrs.length ac) ka kc t (wr.alloc (.cells #[.bool true,.string t.s,.slice aa t.attrs.length ac,.slice ka t.kids.length kc] 29)) (hat.later (hBa _)) hxt.1;rw[hp2]at hcall
              refine hcall.mono ?_;clear hcall;rintro e w1 ⟨rfl,hb1⟩;rw[hrt]
              have f0:w1.cell? ⟨b,o+j*4,none⟩=some (.bool true):=by
               rw[hb1.cell (p:=⟨b,o+j*4,none⟩) (by simp;omega),World.cell?_alloc_lt _ _ _ (by simp only;omega)];exact e0
              have f1:w1.cell? ⟨wr.heap.size,0,none⟩=some (.bool true):=by
               rw[hb1.cell (p:=⟨wr.heap.size,0,none⟩) (by simp)];simp[go_sem]
              go_wp2_with fail;go_ret;exact ⟨by rw[HF.out];rfl,(hBa _).trans (hb1.mono (by simp;omega))⟩
            | false =>
              have HG0:Hid (rl (rb d) false (room-l.length) l=if rb d rr t.kids<0 then -1 else rl (rb d) t.text (rb d rr t.kids) (l.drop (k+1))):=by
               show _=_
               rw[HE.out,HD.out];simp[rl,hpt,hrt]
              clear HE h4;cases k with
              | zero =>
                clear hcc hpt;simp only[Nat.zero_mul,Nat.add_zero]at c0 c1 c2 c3
                rw[show ((0:Nat):Int)=0 from rfl]
                go_wp2_with fail;have hcall:=qB S (.slice aa t.attrs.length ac) ka kc t (wr.alloc (.cells #[.bool t.text,.string t.s,.slice aa t.attrs.length ac,.slice ka t.kids.length kc] 29)) (hat.later (hBa _)) hxt.1;refine hcall.mono ?_;clear hcall;rintro e w1 ⟨rfl,hb1⟩;rw[hrt]
                have f1:w1.cell? ⟨wr.heap.size,0,none⟩=some (.bool t.text):=by
                 rw[hb1.cell (p:=⟨wr.heap.size,0,none⟩) (by simp)];simp[go_sem]
                have f3:w1.cell? ⟨wr.heap.size,3,none⟩=some (.slice ka t.kids.length kc):=by
                 rw[hb1.cell (p:=⟨wr.heap.size,3,none⟩) (by simp)];simp[go_sem]
                have hB1:Below w.heap.size w w1:=(hBa _).trans (hb1.mono (by simp;omega))
                go_wp2_with fail;refine (H.out S n _ t.kids _ rr (qa.later hB1 n hkt) hxt.2 hr0 hr8).mono ?_;rintro e w2 ⟨rfl,hb2⟩;have hrle:=rb_le d rr t.kids hr0;have HG:=HG0.out;obtain ⟨r2,hr2⟩:∃ r2,rb d rr t.kids=r2:=⟨_,rfl⟩;rw[hr2]at hrle HG ⊢
                have HG':Hid (rl (rb d) false (room-l.length) l=if r2<0 then -1 else rl (rb d) t.text r2 (l.drop (0+1))):=HG
                have hB2:Below w.heap.size w w2:=hB1.trans (hb2.mono hB1.size);clear HG hr2
                by_cases hneg:r2<0
                · go_wp2_with fail;go_ret;exact ⟨by rw[HG'.out,if_pos hneg];rfl,hB2⟩
                · go_wp2_with fail
                  go_roundg (l.length-(0+1))
                  case measure => omega
                  case rel =>
                   refine ⟨0+1,r2,by omega,by go_num,rfl,by omega,by omega,hB2,?_⟩
                   rw[HG'.out,if_neg (by omega)]
                   simp[qJ,HT.out]
              | succ j =>
                have hj1:(j:Int)<(l.length:Int):=by omega
                have hj2:(j:Int)+1<(l.length:Int):=by omega
                cases htx:t.text with
                | false =>
                  clear hcc hpt;rw[htx]at c0
                  go_wp2_with fail;have hcall:=qB S (.slice aa t.attrs.length ac) ka kc t (wr.alloc (.cells #[.bool false,.string t.s,.slice aa t.attrs.length ac,.slice ka t.kids.length kc] 29)) (hat.later (hBa _)) hxt.1;rw[htx]at hcall
                  refine hcall.mono ?_;clear hcall;rintro e w1 ⟨rfl,hb1⟩;rw[hrt]
                  have f1:w1.cell? ⟨wr.heap.size,0,none⟩=some (.bool false):=by
                   rw[hb1.cell (p:=⟨wr.heap.size,0,none⟩) (by simp)];simp[go_sem]
                  have f3:w1.cell? ⟨wr.heap.size,3,none⟩=some (.slice ka t.kids.length kc):=by
                   rw[hb1.cell (p:=⟨wr.heap.size,3,none⟩) (by simp)];simp[go_sem]
                  have hB1:Below w.heap.size w w1:=(hBa _).trans (hb1.mono (by simp;omega))
                  go_wp2_with fail;refine (H.out S n _ t.kids _ rr (qa.later hB1 n hkt) hxt.2 hr0 hr8).mono ?_;rintro e w2 ⟨rfl,hb2⟩;have hrle:=rb_le d rr t.kids hr0;have HG:=HG0.out;obtain ⟨r2,hr2⟩:∃ r2,rb d rr t.kids=r2:=⟨_,rfl⟩;rw[hr2]at hrle HG ⊢
                  have HG':Hid (rl (rb d) false (room-l.length) l=if r2<0 then -1 else rl (rb d) t.text r2 (l.drop (j+1+1))):=HG
                  have hB2:Below w.heap.size w w2:=hB1.trans (hb2.mono hB1.size);clear HG hr2
                  by_cases hneg:r2<0
                  · go_wp2_with fail;go_ret;exact ⟨by rw[HG'.out,if_pos hneg];rfl,hB2⟩
                  · go_wp2_with fail
                    go_roundg (l.length-(j+1+1))
                    case measure => omega
                    case rel =>
                     refine ⟨j+1+1,r2,by omega,by go_num,rfl,by omega,by omega,hB2,?_⟩
                     rw[HG'.out,if_neg (by omega)]
                     simp[qJ,HT.out]
                | true =>
                  obtain ⟨u,hu⟩:∃ u,l[j]?=some u:=⟨l[j]'(by omega),by simp⟩
                  have hu1:u.text=false:=by simpa[qJ,hu,htx] using hpt
                  have e0:=(hcc j u hu).choose_spec.choose_spec.1;rw[←hB.cell (p:=⟨b,o+j*4,none⟩) hbl,hu1]at e0
                  rw[htx]at c0
                  clear hcc hu hu1 hpt;go_wp2_with fail;have hcall:=qB S (.slice aa t.attrs.length ac) ka kc t (wr.alloc (.cells #[.bool true,.string t.s,.slice aa t.attrs.length ac,.slice ka t.kids.length kc] 29)) (hat.later (hBa _)) hxt.1;rw[htx]at hcall
                  refine hcall.mono ?_;clear hcall;rintro e w1 ⟨rfl,hb1⟩;rw[hrt]
                  have f0:w1.cell? ⟨b,o+j*4,none⟩=some (.bool false):=by
                   rw[hb1.cell (p:=⟨b,o+j*4,none⟩) (by simp;omega),World.cell?_alloc_lt _ _ _ (by simp only;omega)];exact e0
                  have f1:w1.cell? ⟨wr.heap.size,0,none⟩=some (.bool true):=by
                   rw[hb1.cell (p:=⟨wr.heap.size,0,none⟩) (by simp)];simp[go_sem]
                  have f3:w1.cell? ⟨wr.heap.size,3,none⟩=some (.slice ka t.kids.length kc):=by
                   rw[hb1.cell (p:=⟨wr.heap.size,3,none⟩) (by simp)];simp[go_sem]
                  have hB1:Below w.heap.size w w1:=(hBa _).trans (hb1.mono (by simp;omega))
                  go_wp2_with fail;refine (H.out S n _ t.kids _ rr (qa.later hB1 n hkt) hxt.2 hr0 hr8).mono ?_;rintro e w2 ⟨rfl,hb2⟩;have hrle:=rb_le d rr t.kids hr0;have HG:=HG0.out;obtain ⟨r2,hr2⟩:∃ r2,rb d rr t.kids=r2:=⟨_,rfl⟩;rw[hr2]at hrle HG ⊢
                  have HG':Hid (rl (rb d) false (room-l.length) l=if r2<0 then -1 else rl (rb d) t.text r2 (l.drop (j+1+1))):=HG
                  have hB2:Below w.heap.size w w2:=hB1.trans (hb2.mono hB1.size);clear HG hr2
                  by_cases hneg:r2<0
                  · go_wp2_with fail;go_ret;exact ⟨by rw[HG'.out,if_pos hneg];rfl,hB2⟩
                  · go_wp2_with fail
                    go_roundg (l.length-(j+1+1))
                    case measure => omega
                    case rel =>
                     refine ⟨j+1+1,r2,by omega,by go_num,rfl,by omega,by omega,hB2,?_⟩
                     rw[HG'.out,if_neg (by omega)]
                     simp[qJ,HT.out]
        · go_wp2_with fail;go_ret;refine ⟨?_,hB⟩;rw[HE.out,List.drop_of_length_le (by omega)]
          rfl
theorem room_any:∀ (d:Nat),d≤8→yn d:=by
 intro d
 induction d with
 | zero=>intro _;exact room_zero
 | succ d ih=>intro h;exact xQ d (by omega) (ih (by omega))
def qU (l:List Tr):Bool:=decide (0≤rb 8 80 l)
theorem yb (S:Nat→Prop)(n:Nat)(v:Value)(l:List Tr)(w:World)(h:qa S w n v l)(hx:TextsN n l) :
 Calls Try.prog 13 #[v] w fun e w'=>e=.returned (.bool (qU l))∧Below w.heap.size w w':=by
 go_enter Try.func13,Try.ntmps13
 go_wp2_with fail;refine (room_any 8 (nR9 _) S n _ l _ 80 h hx (by decide) (by decide)).mono ?_
 rintro e w1 ⟨rfl,hb1⟩;go_wp2_with fail;go_ret;exact ⟨rfl,hb1⟩
end Go.Proofs.Ytfdbipeidmpciaa
