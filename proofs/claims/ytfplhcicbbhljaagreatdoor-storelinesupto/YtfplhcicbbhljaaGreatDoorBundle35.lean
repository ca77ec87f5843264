/- Bundled: DoM DoW OpsPut. What each says stands ahead of it. -/
import Derived.Test.YtfplhcicbbhljaaGreatDoorBundle34
namespace Go.Proofs.YtfplhcicbbhljaaGreatDoor
open Go.RowKit
set_option maxRecDepth 100000
def Bnd (m:Nat)(ns:List Nd):Prop:=ns.length≤m∧∀ y∈ns,y.kids.length≤m∧y.attrs.length≤m
end Go.Proofs.YtfplhcicbbhljaaGreatDoor
namespace Go.Proofs.YtfplhcicbbhljaaGreatDoor
open Go.ChangeShapes Go.WideShapes Go.ChangeAt Go.RowKit
set_option maxRecDepth 100000
section
attribute [local go_sem] qd
def opV (o:Opn)(ca:Option Addr)(cc:Nat):Value:=.agg #[.int .i64 o.kind,.int .i64 o.target,.slice ca o.content.length cc,.string o.name,.string o.s]
def xI (Sr T:Nat→Prop)(w:World)(n:Nat)(v:Value)(l:List Opn):Prop :=
  ∃ a cap, v = .slice a l.length cap ∧ l.length ≤ cap ∧ cap ≤ maxLen ∧
    (l≠[]→∃ b o,a=some ⟨b,o,none⟩∧Sr b∧∀ (i:Nat) (x:Opn),l[i]?=some x→∃ ca cc,
      w.cell? ⟨b,o+i*5,none⟩=some (.int .i64 x.kind)∧w.cell? ⟨b,o+i*5+1,none⟩=some (.int .i64 x.target)∧w.cell? ⟨b,o+i*5+2,none⟩=some (.slice ca x.content.length cc) ∧
      w.cell? ⟨b,o+i*5+3,none⟩=some (.string x.name)∧w.cell? ⟨b,o+i*5+4,none⟩=some (.string x.s)∧qb T w n (.slice ca x.content.length cc) x.content)
theorem Ops.row {S:Nat→Prop}{w:World}{n:Nat}{v:Value}{l:List Opn}(h:Ops S w n v l):xI S S w n v l:=h
theorem xI.carry {S T:Nat→Prop}{w w':World}{n:Nat}{v:Value}{l:List Opn}(h:xI S T w n v l)(hS:∀ b,S b→w'.heap[b]?=w.heap[b]?)(hT:∀ b,T b→w'.heap[b]?=w.heap[b]?):xI S T w' n v l:=by
 obtain ⟨a,cap,h1,h2,h3,h4⟩:=h;refine ⟨a,cap,h1,h2,h3,fun hne=>?_⟩
 obtain ⟨b,o,ha,hs,hc⟩:=h4 hne;refine ⟨b,o,ha,hs,fun i x hx=>?_⟩
 obtain ⟨ca,cc,c0,c1,c2,c3,c4,hTr⟩:=hc i x hx;refine ⟨ca,cc,?_,?_,?_,?_,?_,qb.carry (fun b hb=>⟨hb,hT b hb⟩) n hTr⟩
 · rw[World.cell?_of_block (a:=⟨b,o+i*5,none⟩) (hS b hs)];exact c0
 · rw[World.cell?_of_block (a:=⟨b,o+i*5+1,none⟩) (hS b hs)];exact c1
 · rw[World.cell?_of_block (a:=⟨b,o+i*5+2,none⟩) (hS b hs)];exact c2
 · rw[World.cell?_of_block (a:=⟨b,o+i*5+3,none⟩) (hS b hs)];exact c3
 · rw[World.cell?_of_block (a:=⟨b,o+i*5+4,none⟩) (hS b hs)];exact c4
def qcY (B:Nat)(T:Nat→Prop)(N bb d fm:Nat)(k:Int)(ns:List Nd)(o:Opn):Prop :=
  ∀ (W : World) (v : Value) (ms : List Rw) (ca : Option Addr) (cc : Nat), Bx B T N bb W v ns ms → qb T W (d + 1) (.slice ca o.content.length cc) o.content →
    Calls Tryz.prog fm #[.pointer (some ⟨bb,0,none⟩),opV o ca cc] W fun e w'=>e=.returned (.tuple #[])∧Did B T N bb W w' v ms (Yi d k ns o)
theorem qdj {d:Nat}{k:Int}{ns:List Nd}{l:List Opn}{i:Nat}{o:Opn}(h:l[i]?=some o):doN d k ns (l.take (i+1))=if o.kind=k then Yi d k (doN d k ns (l.take i)) o else doN d k ns (l.take i):=by
 have hs:l.take (i+1)=l.take i++[o]:=by
  rw[List.take_succ_eq_append_getElem (qj h)]
  congr 2
  rw[List.getElem?_eq_getElem (qj h)]at h
  exact Option.some.inj h
 unfold doN;rw[hs,List.foldl_append];rfl
set_option maxHeartbeats 1000000 in
theorem qab (B:Nat)(T:Nat→Prop)(N bb d fm:Nat)(k:Int)(eg:∀ args w,(callFunc fm args).run Tryz.prog w=.ok (.enter fm args) w)(Sr:Nat→Prop)(vl v:Value)(l:List Opn)(ns:List Nd)(ms:List Rw)(w:World)(hX:Bx B T N bb w v ns ms)(hl:xI Sr T w (d+1) vl l)
 (hSr:∀ b,Sr b→b<w.heap.size∧b≠bb∧¬ Tch N v ms b) (J:Nat→List Nd→Prop) (h0:J 0 ns) (hstep:∀ i o ns',l[i]?=some o→J i ns'→(o.kind=k→qcY B T N bb d fm k ns' o∧J (i+1) (Yi d k ns' o))∧(o.kind≠k→J (i+1) ns')) :
 Calls Tryz.prog 148 #[vl,.int .i64 k,.func (.func fm) #[.pointer (some ⟨bb,0,none⟩)] #[]] w fun e w'=>e=.returned (.tuple #[])∧Did B T N bb w w' v ms (doN d k ns l)∧J l.length (doN d k ns l):=by
 have HX:Hid (Bx B T N bb w v ns ms):=hX;have HL:Hid (xI Sr T w (d+1) vl l):=hl;have HS:Hid _:=hSr;have HJ:Hid _:=hstep;have H0:Hid (J 0 ns):=h0;obtain ⟨a,cap,rfl,hlc,hcm,_⟩:=hl;unfold maxLen at hcm
 clear hX hSr hstep h0
 go_enter Tryz.func148,Tryz.ntmps148
 go_wp2_with fail
 go_loopg [10] l.length (fun g vi wr=>∃ (i:Nat) (v':Value) (ms':List Rw),i+g=l.length∧vi=.int .i64 (i:Int)∧Bx B T N bb wr v' (doN d k ns (l.take i)) ms'∧zc N bb w wr v v' ms ms'∧J i (doN d k ns (l.take i)))
 case atStart => exact ⟨0,v,ms,by omega,rfl,HX.out,zc.refl _ _ _ _ _,H0.out⟩
 case round =>
  obtain ⟨i,v',ms',hig,rfl,hB,hSt,hJi⟩:=hrel;have HB:Hid (Bx B T N bb wr v' (doN d k ns (l.take i)) ms'):=hB;have HST:Hid (zc N bb w wr v v' ms ms'):=hSt;have HJI:Hid (J i (doN d k ns (l.take i))):=hJi;clear hB hSt hJi
  by_cases hlt:i<l.length
  · have hlti : (i : Int) < (l.length : Int) := by omega
    obtain ⟨o,ho⟩:∃ o,l[i]?=some o:=⟨l[i],by simp[hlt]⟩
    have hRow:xI Sr T wr (d+1) (.slice a l.length cap) l:=HL.out.carry (fun b hb=>HST.out.keep b (HS.out b hb).1 (HS.out b hb).2.1 (HS.out b hb).2.2) (fun b hb=>HST.out.low HX.out.2.2 HX.out.2.1 b (HX.out.2.2.low b hb))
    obtain ⟨_,_,hsl,_,_,h5⟩:=hRow
    injection hsl with hsl _ hsc
    subst hsl hsc;obtain ⟨b,of',rfl,hTb,hcc⟩:=h5 (by intro e;subst e;simp at hlt)
    obtain ⟨ca,cc,c0,c1,c2,c3,c4,hT⟩:=hcc i o ho;obtain ⟨hyes,hno⟩:=HJ.out i o _ ho HJI.out;have hdt:=qdj (d:=d) (k:=k) (ns:=ns) ho;have hbal:Below wr.heap.size wr (wr.alloc (.cells #[.int .i64 o.kind,.int .i64 o.target,.slice ca o.content.length cc,.string o.name,.string o.s] 24)):=Below.alloc1 wr _;have HTT:Hid _:=hT;clear hcc h5 hT ho
    by_cases hk:o.kind=k
    · obtain ⟨hM, hJn⟩ := hyes hk;rw[if_pos hk]at hdt
      have HM:Hid _:=hM _ v' ms' ca cc (HB.out.later hbal) (qb.later hbal (d+1) HTT.out);unfold opV at HM
      have HREL:Hid (∀ w2,Did B T N bb (wr.alloc (.cells #[.int .i64 o.kind,.int .i64 o.target,.slice ca o.content.length cc,.string o.name,.string o.s] 24)) w2 v' ms' (Yi d k (doN d k ns (l.take i)) o)→∃ (v':Value) (ms':List Rw),Bx B T N bb w2 v' (doN d k ns (l.take (i+1))) ms'∧zc N bb w w2 v v' ms ms'∧J (i+1) (doN d k ns (l.take (i+1)))):=by
       rintro w2 ⟨v2,ms2,g1,g2⟩;rw[hdt];exact ⟨v2,ms2,g1,HST.out.trans (zc.before hbal g2),hJn⟩
      clear hyes hno hM hJn hdt HTT;subst hk;go_wp2_with fail;refine (Calls.mono HM.out ?_);rintro e w2 ⟨rfl,hD⟩;obtain ⟨v2,ms2,g1,g2,g3⟩:=HREL.out w2 hD;have HG:Hid _:=And.intro g1 (And.intro g2 g3);clear hD g1 g2 g3 HREL HM;go_wp2_with fail
      go_roundg (l.length-(i+1))
      case measure => omega
      case rel => exact ⟨i+1,v2,ms2,by omega,by go_num,HG.out.1,HG.out.2.1,HG.out.2.2⟩
    · have hJn := hno hk;rw[if_neg hk]at hdt
      have HG:Hid (Bx B T N bb (wr.alloc (.cells #[.int .i64 o.kind,.int .i64 o.target,.slice ca o.content.length cc,.string o.name,.string o.s] 24)) v' (doN d k ns (l.take (i+1))) ms'∧zc N bb w (wr.alloc (.cells #[.int .i64 o.kind,.int .i64 o.target,.slice ca o.content.length cc,.string o.name,.string o.s] 24)) v v' ms ms'∧J (i+1) (doN d k ns (l.take (i+1)))):=by
       show _∧_∧_
       rw[hdt];exact ⟨HB.out.later hbal,HST.out.later hbal,hJn⟩
      clear hyes hno hJn hdt HTT;go_wp2_with fail
      go_roundg (l.length-(i+1))
      case measure => omega
      case rel => exact ⟨i+1,v',ms',by omega,by go_num,HG.out.1,HG.out.2.1,HG.out.2.2⟩
  · have hlti : ¬ (i : Int) < (l.length : Int) := by omega
    have hieq:i=l.length:=by omega
    subst hieq;have htl:l.take l.length=l:=List.take_length
    have HF:Hid (Did B T N bb w wr v ms (doN d k ns l)∧J l.length (doN d k ns l)):=by
     have h1:=HB.out;have h2:=HJI.out;rw[htl]at h1 h2
     exact ⟨⟨v',ms',h1,HST.out⟩,h2⟩
    clear htl;go_wp2_with fail
    go_returns
    exact ⟨rfl,HF.out.1,HF.out.2⟩
end
def Ka (w:World)(b p:Nat)(v0 v1 v2 v3 v4:Value):World:=((((w.setCell ⟨b,p,none⟩ v0).setCell ⟨b,p+1,none⟩ v1).setCell ⟨b,p+2,none⟩ v2).setCell ⟨b,p+3,none⟩ v3).setCell ⟨b,p+4,none⟩ v4
theorem Qz {b p q:Nat}(h:p≠q):(⟨b,p,none⟩:Addr)≠⟨b,q,none⟩:=by intro e;injection e with _ e;exact h e
theorem yS {w:World}{b p c:Nat}{v0 v1 v2 v3 v4:Value}(h:c≠b):(Ka w b p v0 v1 v2 v3 v4).heap[c]?=w.heap[c]?:=by
 unfold Ka;rw[qc h,qc h,qc h,qc h,qc h]
theorem yy {B b p:Nat}{w0 w:World}{v0 v1 v2 v3 v4:Value}(h:Below B w0 w)(hb:B≤b):Below B w0 (Ka w b p v0 v1 v2 v3 v4):=by
 unfold Ka;exact ((((h.setCell (p:=⟨b,p,none⟩) hb _).setCell (p:=⟨b,p+1,none⟩) hb _).setCell (p:=⟨b,p+2,none⟩) hb _).setCell (p:=⟨b,p+3,none⟩) hb _).setCell (p:=⟨b,p+4,none⟩) hb _
end Go.Proofs.YtfplhcicbbhljaaGreatDoor
