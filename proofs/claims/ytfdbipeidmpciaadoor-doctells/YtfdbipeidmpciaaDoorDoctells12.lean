/- Bundled: NodeB DocO. What each says stands ahead of it. -/
import Derived.Test.YtfdbipeidmpciaaDoorFive03
import Derived.Lib.Builder
namespace Go.Proofs.YtfdbipeidmpciaaDoor
open Go.ChangeShapes Go.WideShapes Go.ChangeAt Go.RowKit
set_option maxRecDepth 100000
structure Nd where
 text:Bool
 s:ByteArray
 attrs:List (ByteArray × ByteArray)
 parent:Int
 kids:List Int
def qX (S:Nat→Prop)(w:World)(v:Value)(l:List Int):Prop :=
  ∃ a cap, v = .slice a l.length cap ∧ l.length ≤ cap ∧ cap ≤ maxLen ∧
    (l≠[]→∃ b o,a=some ⟨b,o,none⟩∧S b∧∀ (i:Nat) (x:Int),l[i]?=some x→w.cell? ⟨b,o+i,none⟩=some (.int .i64 x))
def qr (S:Nat→Prop)(w:World)(v:Value)(ns:List Nd):Prop :=
  ∃ a cap, v = .slice a ns.length cap ∧ ns.length ≤ cap ∧ cap ≤ maxLen ∧
    (ns≠[]→∃ b o,a=some ⟨b,o,none⟩∧S b∧∀ (i:Nat) (x:Nd),ns[i]?=some x→∃ va vk,
      w.cell? ⟨b,o+i*5,none⟩=some (.bool x.text)∧w.cell? ⟨b,o+i*5+1,none⟩=some (.string x.s)∧w.cell? ⟨b,o+i*5+2,none⟩=some va ∧
      w.cell? ⟨b,o+i*5+3,none⟩=some (.int .i64 x.parent)∧w.cell? ⟨b,o+i*5+4,none⟩=some vk∧qe S w va x.attrs∧qX S w vk x.kids)
theorem qX.carry {S S':Nat→Prop}{w w':World}{v:Value}{l:List Int}(h:qX S w v l)(hw:∀ b,S b→S' b∧w'.heap[b]?=w.heap[b]?):qX S' w' v l:=by
 obtain ⟨a,cap,h1,h2,h3,h4⟩:=h;refine ⟨a,cap,h1,h2,h3,fun hne=>?_⟩
 obtain ⟨b,o,ha,hs,hc⟩:=h4 hne;refine ⟨b,o,ha,(hw b hs).1,fun i x hx=>?_⟩
 rw[World.cell?_of_block (a:=⟨b,o+i,none⟩) (hw b hs).2];exact hc i x hx
theorem qX.bounded {S:Nat→Prop}{w:World}{v:Value}{l:List Int}(h:qX S w v l):qX (fun b=>S b∧b<w.heap.size) w v l:=by
 obtain ⟨a,cap,h1,h2,h3,h4⟩:=h;refine ⟨a,cap,h1,h2,h3,fun hne=>?_⟩
 obtain ⟨b,o,ha,hs,hc⟩:=h4 hne;refine ⟨b,o,ha,⟨hs,?_⟩,hc⟩;cases l with
 | nil=>exact absurd rfl hne
 | cons x r=>exact World.block_lt_of_cell? w _ (hc 0 x rfl)
theorem qX.later {S:Nat→Prop}{w w':World}{v:Value}{l:List Int}(h:qX S w v l)(hb:Below w.heap.size w w'):qX S w' v l :=
 h.bounded.carry fun b hb'=>⟨hb'.1,hb.block b hb'.2⟩
theorem qX.shape {S:Nat→Prop}{w:World}{v:Value}{l:List Int}(h:qX S w v l):∃ a c,v=.slice a l.length c∧l.length≤c∧c≤maxLen:=by
 obtain ⟨a,cap,h1,h2,h3,_⟩:=h;exact ⟨a,cap,h1,h2,h3⟩
theorem qX.nil {S:Nat→Prop}{w:World}:qX S w (.slice none 0 0) []:=⟨none,0,rfl,Nat.le_refl _,Nat.zero_le _,fun h=>absurd rfl h⟩
theorem qr.carry {S S':Nat→Prop}{w w':World}{v:Value}{l:List Nd}(h:qr S w v l)(hw:∀ b,S b→S' b∧w'.heap[b]?=w.heap[b]?):qr S' w' v l:=by
 obtain ⟨a,cap,h1,h2,h3,h4⟩:=h;refine ⟨a,cap,h1,h2,h3,fun hne=>?_⟩
 obtain ⟨b,o,ha,hs,hc⟩:=h4 hne;refine ⟨b,o,ha,(hw b hs).1,fun i x hx=>?_⟩
 obtain ⟨va,vk,c0,c1,c2,c3,c4,hA,hK⟩:=hc i x hx;refine ⟨va,vk,?_,?_,?_,?_,?_,hA.carry hw,hK.carry hw⟩
 · rw[World.cell?_of_block (a:=⟨b,o+i*5,none⟩) (hw b hs).2];exact c0
 · rw[World.cell?_of_block (a:=⟨b,o+i*5+1,none⟩) (hw b hs).2];exact c1
 · rw[World.cell?_of_block (a:=⟨b,o+i*5+2,none⟩) (hw b hs).2];exact c2
 · rw[World.cell?_of_block (a:=⟨b,o+i*5+3,none⟩) (hw b hs).2];exact c3
 · rw[World.cell?_of_block (a:=⟨b,o+i*5+4,none⟩) (hw b hs).2];exact c4
theorem qr.bounded {S:Nat→Prop}{w:World}{v:Value}{l:List Nd}(h:qr S w v l):qr (fun b=>S b∧b<w.heap.size) w v l:=by
 obtain ⟨a,cap,h1,h2,h3,h4⟩:=h;refine ⟨a,cap,h1,h2,h3,fun hne=>?_⟩
 obtain ⟨b,o,ha,hs,hc⟩:=h4 hne;refine ⟨b,o,ha,⟨hs,?_⟩,fun i x hx=>?_⟩
 · cases l with
   | nil=>exact absurd rfl hne
   | cons x r =>
     obtain ⟨_,_,c0,_⟩:=hc 0 x rfl;exact World.block_lt_of_cell? w _ c0
 · obtain ⟨va, vk, c0, c1, c2, c3, c4, hA, hK⟩ := hc i x hx;exact ⟨va,vk,c0,c1,c2,c3,c4,hA.bounded,hK.bounded⟩
theorem qr.later {S:Nat→Prop}{w w':World}{v:Value}{l:List Nd}(h:qr S w v l)(hb:Below w.heap.size w w'):qr S w' v l :=
 h.bounded.carry fun b hb'=>⟨hb'.1,hb.block b hb'.2⟩
theorem qr.shape {S:Nat→Prop}{w:World}{v:Value}{l:List Nd}(h:qr S w v l):∃ a c,v=.slice a l.length c∧l.length≤c∧c≤maxLen:=by
 obtain ⟨a,cap,h1,h2,h3,_⟩:=h;exact ⟨a,cap,h1,h2,h3⟩
theorem qr.nil {S:Nat→Prop}{w:World}:qr S w (.slice none 0 0) []:=⟨none,0,rfl,Nat.le_refl _,Nat.zero_le _,fun h=>absurd rfl h⟩
theorem qr.at {S:Nat→Prop}{w:World}{v:Value}{ns:List Nd}(h:qr S w v ns){i:Nat}{x:Nd}(hx:ns[i]?=some x):∃ b o cap va vk,v=.slice (some ⟨b,o,none⟩) ns.length cap∧ns.length≤cap∧cap≤maxLen∧S b∧b<w.heap.size ∧
 w.cell? ⟨b,o+i*5,none⟩=some (.bool x.text)∧w.cell? ⟨b,o+i*5+1,none⟩=some (.string x.s)∧w.cell? ⟨b,o+i*5+2,none⟩=some va ∧
 w.cell? ⟨b,o+i*5+3,none⟩=some (.int .i64 x.parent)∧w.cell? ⟨b,o+i*5+4,none⟩=some vk∧qe S w va x.attrs∧qX S w vk x.kids:=by
 obtain ⟨a,cap,h1,h2,h3,h4⟩:=h;have hne:ns≠[]:=by intro e;subst e;simp at hx
 obtain ⟨b,o,rfl,hs,hc⟩:=h4 hne;obtain ⟨va,vk,c0,c1,c2,c3,c4,hA,hK⟩:=hc i x hx;exact ⟨b,o,cap,va,vk,h1,h2,h3,hs,World.block_lt_of_cell? w _ c0,c0,c1,c2,c3,c4,hA,hK⟩
theorem qX.at {S:Nat→Prop}{w:World}{v:Value}{l:List Int}(h:qX S w v l){i:Nat}{x:Int}(hx:l[i]?=some x):∃ b o cap,v=.slice (some ⟨b,o,none⟩) l.length cap∧S b∧b<w.heap.size∧w.cell? ⟨b,o+i,none⟩=some (.int .i64 x):=by
 obtain ⟨a,cap,h1,h2,h3,h4⟩:=h;have hne:l≠[]:=by intro e;subst e;simp at hx
 obtain ⟨b,o,rfl,hs,hc⟩:=h4 hne;exact ⟨b,o,cap,h1,hs,World.block_lt_of_cell? w _ (hc i x hx),hc i x hx⟩
structure CFr (cb:Nat) (w w':World):Prop where
 below:Below 0 w w'
 frame:∀ x,x<w.heap.size→x≠cb→w'.heap[x]?=w.heap[x]?
theorem CFr.refl (cb:Nat)(w:World):CFr cb w w:=⟨Below.refl _ _,fun _ _ _=>rfl⟩
theorem CFr.trans {cb:Nat}{w w1 w2:World}(h:CFr cb w w1)(k:CFr cb w1 w2):CFr cb w w2 :=
 ⟨h.below.trans k.below,fun x hx h1=>by rw[k.frame x (Nat.lt_of_lt_of_le hx h.below.size) h1,h.frame x hx h1]⟩
theorem CFr.put (cb:Nat)(w:World)(k:Nat)(v:Value):CFr cb w (w.setCell ⟨cb,k,none⟩ v):=⟨(Below.refl 0 w).setCell (Nat.zero_le _) _,fun _ _ h1=>Below.heap_setCell _ _ _ _ h1⟩
def Cnt (cb:Nat)(n:Nat)(w:World):Prop:=w.heap[cb]?=some (.cells #[.int .i64 (n:Int)] 3 (0,0))
theorem Cnt.lt {cb n:Nat}{w:World}(h:Cnt cb n w):cb<w.heap.size:=by
 rcases Nat.lt_or_ge cb w.heap.size with h'|h'
 · exact h'
 · simp[Cnt,Array.getElem?_eq_none h']at h
theorem Cnt.c0 {cb n:Nat}{w:World}(h:Cnt cb n w):w.cell? ⟨cb,0,none⟩=some (.int .i64 (n:Int)):=by rw[Lib.cell_of_heap h];rfl
theorem Cnt.f0 {cb n:Nat}{w:World}(h:Cnt cb n w):w.frozen? ⟨cb,0,none⟩=false:=Lib.frozen_of_heap h 0
theorem Cnt.put {cb n:Nat}{w:World}(h:Cnt cb n w)(m:Nat):Cnt cb m (w.setCell ⟨cb,0,none⟩ (.int .i64 (m:Int))):=by unfold Cnt at h ⊢;simp[World.setCell,Array.getElem?_modify,h]
theorem Cnt.later {cb n:Nat}{w w':World}(h:Cnt cb n w)(hb:Below w.heap.size w w'):Cnt cb n w':=by unfold Cnt;rw[hb.block cb h.lt];exact h
theorem qr.count {S:Nat→Prop}{cb:Nat}{w w':World}{v:Value}{l:List Nd}(h:qr S w v l)(hF:CFr cb w w')(hS:∀ b,S b→b≠cb):qr S w' v l :=
 h.bounded.carry fun b hb=>⟨hb.1,hF.frame b hb.2 (hS b hb.1)⟩
theorem qX.count {S:Nat→Prop}{cb:Nat}{w w':World}{v:Value}{l:List Int}(h:qX S w v l)(hF:CFr cb w w')(hS:∀ b,S b→b≠cb):qX S w' v l :=
 h.bounded.carry fun b hb=>⟨hb.1,hF.frame b hb.2 (hS b hb.1)⟩
section
attribute [local go_sem] qg
theorem je (S:Nat→Prop)(v:Value)(ns:List Nd)(n:Int)(w:World)(h:qr S w v ns) :
 Calls Tryd.prog 68 #[v,.int .i64 n] w fun e w'=>e=.returned (.bool (decide (0≤n)&&decide (n<ns.length)))∧w'=w:=by
 obtain ⟨a,cap,rfl,_,_⟩:=h.shape;clear h
 by_cases h0:0≤n
 · by_cases h1 : n < ns.length
   · go_enter Tryd.func68, Tryd.ntmps68
     go_wp2;go_ret;exact ⟨by simp[h0,h1],rfl⟩
   · go_enter Tryd.func68, Tryd.ntmps68
     go_wp2;go_ret;exact ⟨by simp[h1],rfl⟩
 · go_enter Tryd.func68, Tryd.ntmps68
   go_wp2;go_ret;exact ⟨by simp;omega,rfl⟩
def qt (g:Nat→Bool × Nat):List Int→Nat→Bool × Nat
 | [],nx=>(true,nx)
 | k::ks,nx=>if k=(nx:Int)∧(g nx).1=true then qt g ks (g nx).2 else (false,if k=(nx:Int) then (g nx).2 else nx)
def ordF:Nat→List Nd→Int→Nat→Bool × Nat
 | 0,_,_,nx=>(false,nx)
 | f + 1, ns, par, nx => match ns[nx]? with
   | none=>(false,nx)
   | some x=>if x.parent=par then qt (ordF f ns nx) x.kids (nx+1) else (false,nx)
theorem YI {g:Nat→Bool × Nat}(hg:∀ n,n≤(g n).2):∀ (ks:List Int) (nx:Nat),nx≤(qt g ks nx).2:=by
 intro ks
 induction ks with
 | nil=>intro nx;exact Nat.le_refl _
 | cons k ks ih =>
   intro nx;unfold qt
   split
   · exact Nat.le_trans (hg nx) (ih _)
   · simp only
     split
     · exact hg nx
     · exact Nat.le_refl _
theorem ordF_ge:∀ (f:Nat) (ns:List Nd) (par:Int) (nx:Nat),nx≤(ordF f ns par nx).2:=by
 intro f
 induction f with
 | zero=>intro ns par nx;exact Nat.le_refl _
 | succ f ih =>
   intro ns par nx;unfold ordF
   split
   · exact Nat.le_refl _
   · split
     · exact Nat.le_trans (Nat.le_succ _) (YI (fun n=>ih ns nx n) _ _)
     · exact Nat.le_refl _
def Y3 (f:Nat):Prop:=∀ (S:Nat→Prop) (v:Value) (ns:List Nd) (par:Int) (cb nx:Nat) (w:World),qr S w v ns→(∀ b,S b→b≠cb)→Cnt cb nx w→ns.length≤80→ns.length<nx+f →
 Calls Tryd.prog 71 #[v,.int .i64 par,.pointer (some ⟨cb,0,none⟩)] w fun e w'=>e=.returned (.bool (ordF f ns par nx).1)∧Cnt cb (ordF f ns par nx).2 w'∧CFr cb w w'
set_option maxHeartbeats 1000000 in
theorem Xr (f:Nat)(ih:Y3 f):Y3 (f+1):=by
 intro S v ns par cb nx w hN hS hC hl hf;have IH:Hid (Y3 f):=ih;have HS:Hid (∀ b,S b→b≠cb):=hS;have HN:Hid (qr S w v ns):=hN;have c0:=hC.c0;have f0:=hC.f0;have HC:Hid (Cnt cb nx w):=hC;have HA:Hid _:=je S v ns (nx:Int) w hN;have HO:Hid (ordF (f+1) ns par nx=match ns[nx]? with|none=>(false,nx)|some x=>if x.parent=par then qt (ordF f ns nx) x.kids (nx+1) else (false,nx)):=rfl
 have HF:Hid (ns.length<nx+(f+1)):=hf;clear ih hS hC hf;cases hx:ns[nx]? with
 | none =>
   have hge:ns.length≤nx:=List.getElem?_eq_none_iff.1 hx;have hb:(decide (0≤(nx:Int))&&decide ((nx:Int)<ns.length))=false:=by simp;omega
   rw[hb]at HA
   have HE:Hid (ordF (f+1) ns par nx=(false,nx)):=by show _=_;rw[HO.out,hx]
   obtain ⟨a,cap,rfl,_,_⟩:=hN.shape;clear hN hx HO hb hge
   go_enter Tryd.func71,Tryd.ntmps71
   go_wp2_with fail;refine (Calls.mono HA.out ?_);rintro e w1 ⟨rfl,rfl⟩;go_wp2_with fail;go_ret;exact ⟨by rw[HE.out];rfl,by rw[HE.out];exact HC.out,CFr.refl _ _⟩
 | some x =>
   have hlt:nx<ns.length:=by
    rcases Nat.lt_or_ge nx ns.length with h'|h'
    · exact h'
    · rw[List.getElem?_eq_none h']at hx;cases hx
   have hb:(decide (0≤(nx:Int))&&decide ((nx:Int)<ns.length))=true:=by simp;omega
   rw[hb]at HA
   obtain ⟨b,o,cap,va,vk,rfl,hlc,hcm,hSb,hbw,d0,d1,d2,d3,d4,hAt,hKi⟩:=hN.at hx
   obtain ⟨ka,kc,rfl,hkl,hkm⟩:=hKi.shape;unfold maxLen at hcm hkm
   have hbc:b≠cb:=HS.out b hSb
   by_cases hp:x.parent=par
   · have HE : Hid (ordF (f + 1) ns par nx = qt (ordF f ns nx) x.kids (nx + 1)) := by show _ = _;rw[HO.out, hx];simp only[hp, if_true]
     have hpn:(x.parent != par)=false:=by simp[hp]
     have HKI:Hid (qX S w (.slice ka x.kids.length kc) x.kids):=hKi;clear hN hx HO hb hp d0 d1 d2 hAt hKi
     go_enter Tryd.func71,Tryd.ntmps71
     go_wp2_with fail;refine (Calls.mono HA.out ?_);rintro e w1 ⟨rfl,rfl⟩;go_wp2_with fail;obtain ⟨G,hG⟩:∃ G,ordF f ns (nx:Int)=G:=⟨_,rfl⟩;have HGE:Hid (∀ n,n≤(G n).2):=by rw[←hG];exact fun n=>ordF_ge f ns _ n
     have HIH:Hid (∀ (m:Nat) (W:World),CFr cb w1 W→Cnt cb m W→nx+1≤m→Calls Tryd.prog 71 #[.slice (some ⟨b,o,none⟩) ns.length cap,.int .i64 (nx:Int),.pointer (some ⟨cb,0,none⟩)] W fun e w'=>e=.returned (.bool (G m).1)∧Cnt cb (G m).2 w'∧CFr cb W w'):=by
      intro m W hW hm hge;rw[←hG];exact IH.out S _ ns (nx:Int) cb m W (HN.out.count hW HS.out) HS.out hm hl (by have:=HF.out;omega)
     rw[hG]at HE
     clear hG IH
     go_loopg [37] x.kids.length (fun g j wr=>∃ (i m:Nat),i+g=x.kids.length∧j=.int .i64 (i:Int)∧Cnt cb m wr∧CFr cb w1 wr∧nx+1≤m∧qt G x.kids (nx+1)=qt G (x.kids.drop i) m)
     case atStart =>
      refine ⟨0,nx+1,by omega,rfl,?_,CFr.put _ _ _ _,Nat.le_refl _,rfl⟩
      have:=HC.out.put (nx+1)
      simpa using this
     case round =>
      obtain ⟨i,m,hi,rfl,hCm,hFr,hm,hK⟩:=hrel;have HCm:Hid (Cnt cb m wr):=hCm;have HK:Hid (qt G x.kids (nx+1)=qt G (x.kids.drop i) m):=hK;have e0:=hCm.c0;clear hCm hK c0 f0 d3 d4
      by_cases hil:i<x.kids.length
      · obtain ⟨k, hk⟩ : ∃ k, x.kids[i]? = some k := ⟨x.kids[i], by simp[hil]⟩
        obtain ⟨kb,ko,kc2,hkv,hSk,hkb,e1⟩:=(HKI.out.count hFr HS.out).at hk
        injection hkv with hka _ hkc
        subst hka hkc
        have hdr:x.kids.drop i=k::x.kids.drop (i+1):=by
         rw[List.drop_eq_getElem_cons hil];congr 1;simpa[hil] using hk
        have HKD:Hid (qt G (x.kids.drop i) m=if k=(m:Int)∧(G m).1=true then qt G (x.kids.drop (i+1)) (G m).2 else (false,if k=(m:Int) then (G m).2 else m)):=by show _=_;rw[hdr];rfl
        have hili:(i:Int)<(x.kids.length:Int):=by omega
        clear hdr hk
        by_cases hkm2:k=(m:Int)
        · have hne : (k != (m : Int)) = false := by simp[hkm2]
          have HCL:Hid _:=HIH.out m wr hFr HCm.out hm;obtain ⟨q,hq⟩:∃ q,(G m).1=q:=⟨_,rfl⟩;rw[hq]at HCL HKD
          clear hq;cases q with
          | true =>
            have HE2:Hid (qt G (x.kids.drop i) m=qt G (x.kids.drop (i+1)) (G m).2):=by show _=_;rw[HKD.out,if_pos ⟨hkm2,rfl⟩]
            clear HKD hkm2;go_wp2_with fail;refine (Calls.mono HCL.out ?_);rintro e w3 ⟨rfl,h1,h2⟩;go_wp2_with fail
            go_roundg (x.kids.length-(i+1))
            case measure => omega
            case rel => exact ⟨i+1,(G m).2,by omega,by go_num,h1,hFr.trans h2,Nat.le_trans hm (HGE.out m),by rw[HK.out,HE2.out]⟩
          | false =>
            have HE2:Hid (qt G (x.kids.drop i) m=(false,(G m).2)):=by show _=_;rw[HKD.out,if_neg (by simp),if_pos hkm2]
            clear HKD hkm2;go_wp2_with fail;refine (Calls.mono HCL.out ?_);rintro e w3 ⟨rfl,h1,h2⟩;go_wp2_with fail;go_ret;exact ⟨by rw[HE.out,HK.out,HE2.out];rfl,by rw[HE.out,HK.out,HE2.out];exact h1,hFr.trans h2⟩
        · have hne : (k != (m : Int)) = true := by simpa using hkm2
          have HE2:Hid (qt G (x.kids.drop i) m=(false,m)):=by show _=_;rw[HKD.out,if_neg (fun h=>hkm2 h.1),if_neg hkm2]
          clear HKD hkm2 HIH;go_wp2_with fail;go_ret;exact ⟨by rw[HE.out,HK.out,HE2.out];rfl,by rw[HE.out,HK.out,HE2.out];exact HCm.out,hFr⟩
      · have hdr : x.kids.drop i = [] := List.drop_of_length_le (by omega)
        have HE2:Hid (qt G (x.kids.drop i) m=(true,m)):=by show _=_;rw[hdr];rfl
        have hili:¬ (i:Int)<(x.kids.length:Int):=by omega
        clear hdr HIH;go_wp2_with fail;go_ret;exact ⟨by rw[HE.out,HK.out,HE2.out];rfl,by rw[HE.out,HK.out,HE2.out];exact HCm.out,hFr⟩
   · have HE : Hid (ordF (f + 1) ns par nx = (false, nx)) := by show _ = _;rw[HO.out, hx];simp only[hp, if_false]
     have hpn:(x.parent != par)=true:=by simpa using hp
     clear hN hx HO hb hp d0 d1 d2 hAt hKi
     go_enter Tryd.func71,Tryd.ntmps71
     go_wp2_with fail;refine (Calls.mono HA.out ?_);rintro e w1 ⟨rfl,rfl⟩;go_wp2_with fail;go_ret;exact ⟨by rw[HE.out];rfl,by rw[HE.out];exact HC.out,CFr.refl _ _⟩
theorem XV (f:Nat):Y3 f:=by
 induction f with
 | zero =>
   intro S v ns par cb nx w hN hS hC hl hf;have HA:Hid _:=je S v ns (nx:Int) w hN;have hb:(decide (0≤(nx:Int))&&decide ((nx:Int)<ns.length))=false:=by simp;omega
   rw[hb]at HA
   obtain ⟨a,cap,rfl,_,_⟩:=hN.shape;have c0:=hC.c0;have HC:Hid (Cnt cb nx w):=hC;clear hN hb hS hC
   go_enter Tryd.func71,Tryd.ntmps71
   go_wp2_with fail;refine (Calls.mono HA.out ?_);rintro e w1 ⟨rfl,rfl⟩;go_wp2_with fail;go_ret;exact ⟨rfl,HC.out,CFr.refl _ _⟩
 | succ f ih=>exact Xr f ih
end
end Go.Proofs.YtfdbipeidmpciaaDoor
