/- Bundled: Clone Own Ahead Names. What each says stands ahead of it. -/
import Derived.Test.YtfdbipeidmpciaaDoorBundle00
import Derived.Test.YtfdbipeidmpciaaDoorChecked
import Derived.Lib.SliceRun
import Derived.Deep.LoopGhost
namespace Go.Proofs.YtfdbipeidmpciaaDoor
open Go.ChangeShapes Go.WideShapes Go.ChangeAt Go.RowKit
set_option maxRecDepth 100000
theorem attrInfo:(Tryd.prog.info? 69).map (fun i=>(i.zero,i.size,i.bytes))=some (some (.agg #[.string ⟨#[]⟩,.string ⟨#[]⟩]),2,32):=by kernel_rfl
theorem Qp (S:Nat→Prop)(v:Value)(l:List (ByteArray × ByteArray))(w:World)(h:qe S w v l)(hl:l.length≤4398046511104) :
 Calls Tryd.prog 102 #[v] w fun e w'=>∃ v',e=.returned v'∧qe (qG w.heap.size 69 w') w' v' l∧Below w.heap.size w w':=by
 obtain ⟨a,cap,rfl,h2,h3,h4⟩:=h;obtain ⟨i0,hi,hz0,hz1,hz2⟩:=info_parts attrInfo;have q27:∀ (w:World) (a:Option Addr) (n c n' c':Nat),(binOp .eql 22 (.slice a n c) (.slice none n' c')).run Tryd.prog w=.ok (.bool a.isNone) w:=fun w a n c n' c'=>Lib.run_eql_slice_nil w _ _ a n c n' c' Tryd.underlying22
 cases a with
 | none =>
   have hn:l=[]:=by
    apply Classical.byContradiction;intro hne
    obtain ⟨b,o,ha,_⟩:=h4 hne;cases ha
   subst hn
   go_enter Tryd.func102,Tryd.ntmps102
   go_wp2;go_ret;exact ⟨_,rfl,⟨none,0,rfl,Nat.le_refl _,Nat.zero_le _,fun hne=>absurd rfl hne⟩,Below.refl _ _⟩
 | some ad =>
   have hcells:∀ j u,(attrCells l)[j]?=some u→w.cell? (ad.add j)=some u:=by
    by_cases hne:l=[]
    · subst hne;intro j u hj;simp[attrCells]at hj
    · obtain ⟨b, o, ha, _, hc⟩ := h4 hne;cases ha;intro j u hj;rw[Addr.add_lit];exact qe.cells hc j u hj
   have A:Hid (∀ j u,(attrCells l)[j]?=some u→w.cell? (ad.add j)=some u):=hcells;clear hcells h4
   go_enter Tryd.func102,Tryd.ntmps102
   go_wp2_with (at_builtin;refine wpList_append_own _ rfl _ _ 22 rfl w.heap.size 69 i0 _ 2 32 Tryd.underlying22 hi hz0 hz1 hz2 rfl (by decide) _ _ _ rfl (World.ownsRow_made w #[] 0 (Nat.le_refl _) (Nat.zero_le _) (by simp)) ad l.length cap (attrCells l) rfl ?qc1 ?qc2 ?qc3 ?qc4 ?qc5 ?qc6 ?_)
   case qc1 => exact qV l
   case qc2 =>
    intro j u hj;exact Lib.cell?_alloc_some _ (A.out j u hj)
   case qc3 => exact je l
   case qc4 => unfold maxLen;omega
   case qc5 => omega
   case qc6 => simp
   intro v' w1 hown hgrow hnil;go_wp2;go_ret;refine ⟨v',rfl,qe.of_owns (by simpa using hown),?_⟩
   exact ((Below.refl _ w).alloc (Nat.le_refl _) _).grown hgrow (by simp) (by intro k hk;simp[Value.ownBlock]at hk;omega)
section
theorem qb4 {W w1:World}(hb:Below W.heap.size W w1):(∀ b o,b<W.heap.size→w1.cell? ⟨b,o,none⟩=W.cell? ⟨b,o,none⟩)∧(∀ b o,b<W.heap.size→w1.frozen? ⟨b,o,none⟩=W.frozen? ⟨b,o,none⟩) :=
 ⟨fun b o h=>hb.cell (p:=⟨b,o,none⟩) h,fun b o h=>hb.frozen (p:=⟨b,o,none⟩) h⟩
theorem qe.shape {S:Nat→Prop}{w:World}{v:Value}{l:List (ByteArray × ByteArray)}(h:qe S w v l):∃ a cap,v=.slice a l.length cap :=
 ⟨_,_,h.choose_spec.choose_spec.1⟩
attribute [local go_sem] qf
theorem Qg (S:Nat→Prop)(tx:Bool)(s:ByteArray)(va:Value)(ka:Option Addr)(kl kc:Nat)(l:List (ByteArray × ByteArray))(w:World)(h:qe S w va l)(hl:l.length≤1048576) :
 Calls Tryd.prog 115 #[.agg #[.bool tx,.string s,va,.slice ka kl kc]] w fun e w'=>∃ va',e=.returned (.agg #[.bool tx,.string s,va',.slice ka kl kc])∧qe (qG w.heap.size 69 w') w' va' l∧Below w.heap.size w w':=by
 obtain ⟨aa,ac,rfl⟩:=h.shape
 go_enter Tryd.func115,Tryd.ntmps115
 go_wp2_with fail;refine (Qp S _ l _ (h.later ?_) (Nat.le_trans hl (by decide))).mono ?_
 · exact (Below.alloc1 w _).alloc (by simp) _
 rintro e w1 ⟨v',rfl,ha,hb⟩;obtain ⟨hc,hf⟩:=qb4 hb;have hz:=hb.size;obtain ⟨va,vc,rfl⟩:=ha.shape;simp only[World.size_alloc]at hc hf hz
 have q0:w1.cell? ⟨w.heap.size,0,none⟩=some (.bool tx):=by rw[hc _ _ (by omega)];simp[go_sem]
 have q1:w1.cell? ⟨w.heap.size,1,none⟩=some (.string s):=by rw[hc _ _ (by omega)];simp[go_sem]
 have q2:w1.cell? ⟨w.heap.size,2,none⟩=some (.slice aa l.length ac):=by rw[hc _ _ (by omega)];simp[go_sem]
 have q3:w1.cell? ⟨w.heap.size,3,none⟩=some (.slice ka kl kc):=by rw[hc _ _ (by omega)];simp[go_sem]
 have q4:w1.frozen? ⟨w.heap.size,2,none⟩=false:=by rw[hf _ _ (by omega)];simp[go_sem]
 have r0:w1.cell? ⟨w.heap.size+1,0,none⟩=some (.bool false):=by rw[hc _ _ (by omega)];simp[go_sem]
 have r1:w1.cell? ⟨w.heap.size+1,1,none⟩=some (.string ⟨#[]⟩):=by rw[hc _ _ (by omega)];simp[go_sem]
 have r2:w1.cell? ⟨w.heap.size+1,2,none⟩=some (.slice none 0 0):=by rw[hc _ _ (by omega)];simp[go_sem]
 have r3:w1.cell? ⟨w.heap.size+1,3,none⟩=some (.slice none 0 0):=by rw[hc _ _ (by omega)];simp[go_sem]
 clear hc;go_wp2;refine bodyPost_ret (v:=.agg #[.bool tx,.string s,.slice va l.length vc,.slice ka kl kc]) (by simp[results,Tryd.results115,go_sem,qf,r0,r1,r2,r3,World.cell?_setCell_other]) rfl ⟨_,rfl,?_,?_⟩
 · refine ha.carry fun b hb' => ?_
   have hb0:=hb'.1;simp only[World.size_alloc]at hb0
   have e:∀ x y z u t,(((((w1.setCell ⟨w.heap.size,2,none⟩ x).setCell ⟨w.heap.size+1,0,none⟩ y).setCell ⟨w.heap.size+1,1,none⟩ z).setCell ⟨w.heap.size+1,2,none⟩ u).setCell ⟨w.heap.size+1,3,none⟩ t).heap[b]?=w1.heap[b]?:=by
    intro x y z u t
    repeat rw[Below.heap_setCell _ _ _ _ (by simp only;omega)]
   exact ⟨hb'.to (by simp;omega) (e ..),e ..⟩
 · have h0 : Below w.heap.size w w1 := ((Below.alloc1 w _).alloc (by simp) _).trans (hb.mono (by simp;omega))
   repeat' (refine Below.setCell ?_ ?_ _)
   all_goals first|exact h0|(simp only;omega)
end
def ahead:List Tr→Nat
 | []=>0
 | t::r=>if t.text then ahead r+1 else 0
theorem Js (ts:List Tr):ahead ts≤ts.length:=by
 induction ts with
 | nil=>simp[ahead]
 | cons t r ih=>unfold ahead;split<;>simp<;>omega
theorem K1 {k:IntKind}{a b:Int}(h:a=b):Ending.returned (.int k a)=.returned (.int k b):=by rw[h]
theorem Z5 (S:Nat→Prop)(n:Nat)(v:Value)(ts:List Tr)(w:World)(h:qb S w (n+1) v ts) :
 Calls Tryd.prog 114 #[v] w fun e w'=>e=.returned (.int .i64 (ahead ts))∧w'=w:=by
 obtain ⟨a,cap,rfl,h2,h3,h4⟩:=h;unfold maxLen at h3
 go_enter Tryd.func114,Tryd.ntmps114
 go_wp2
 go_loop [6] (fun i=>∃ k:Nat,k≤ts.length∧i=.int .i64 k∧ahead ts=k+ahead (ts.drop k)) (fun i=>ts.length-(intOf i).toNat)
 case atStart => exact ⟨0,Nat.zero_le _,rfl,by simp⟩
 case round =>
  obtain ⟨k,hk,rfl,hrest⟩:=hrel;have HR:Hid (ahead ts=k+ahead (ts.drop k)):=hrest;clear hrest
  by_cases hlt:k<ts.length
  · have hne : ts ≠ [] := by intro e;subst e;simp at hlt
    obtain ⟨b,o,rfl,hs,hc⟩:=h4 hne;obtain ⟨t,ht⟩:∃ t,ts[k]?=some t:=⟨ts[k],by simp[hlt]⟩
    have HT:Hid (ts[k]?=some t):=ht;obtain ⟨va,vk,c0,c1,c2,c3,_,_⟩:=hc k t ht
    have hd:ts.drop k=t::ts.drop (k+1):=by
     rw[List.drop_eq_getElem_cons hlt];congr 1;simpa[hlt] using ht
    have HD:Hid (ahead (ts.drop k)=if t.text then ahead (ts.drop (k+1))+1 else 0):=by rw[hd];rfl
    clear hd ht hc h4 c1 c2 c3;go_wp2
    · go_ret;exact ⟨K1 (by have:=HR.out;have:=HD.out;simp_all),rfl⟩
    · refine ⟨⟨k + 1, by omega, by go_num, ?_⟩, by simp[intOf];omega⟩
      have h1:=HR.out;have h2:=HD.out;rw[if_pos (by simpa using ‹(!t.text)=false›)]at h2
      omega
  · go_wp2;go_ret;exact ⟨K1 (by have:=HR.out;have:=Js ts;rw[List.drop_of_length_le (by omega)]at *;simp[ahead]at *;omega),rfl⟩
def qh (c:UInt8):Bool:=97≤c.toNat&&c.toNat≤122
def sign (c:UInt8):Bool:=c.toNat==10||(32≤c.toNat&&c.toNat≤126)
def qF (s:ByteArray):Bool:=decide (1≤s.size)&&decide (s.size≤8)&&s.data.toList.all qh
def qR (s:ByteArray):Bool:=decide (s.size≤40)&&s.data.toList.all sign
theorem V7 (s:ByteArray)(k:Nat)(h:k<s.size):s.data.toList.take (k+1)=s.data.toList.take k++[s[k]]:=by
 rw[List.take_succ_eq_append_getElem (by simpa using h)];rfl
theorem x5 {p:UInt8→Bool}{s:ByteArray}{k:Nat}(h:k<s.size)(ha:(s.data.toList.take k).all p=true)(hp:p s[k]=true):(s.data.toList.take (k+1)).all p=true:=by
 rw[V7 s k h,List.all_append,ha];simp[hp]
theorem jR {p:UInt8→Bool}{s:ByteArray}{k:Nat}(h:k<s.size)(hp:p s[k]=false):s.data.toList.all p=false:=by
 rw[List.all_eq_false];exact ⟨s[k],by show s.data[k]∈_;simp,by simp[hp]⟩
theorem zy (s:ByteArray)(w:World)(hs:s.size≤maxLen) :
 Calls Tryd.prog 13 #[.string s] w fun e w'=>e=.returned (.bool (qF s))∧w'=w:=by
 unfold maxLen at hs
 by_cases h1:s.size<1
 · go_enter Tryd.func13, Tryd.ntmps13
   go_wp2;go_ret;exact ⟨by simp[qF];omega,rfl⟩
 by_cases h8:8<s.size
 · have h1' : 1 ≤ s.size := by omega
   go_enter Tryd.func13,Tryd.ntmps13
   go_wp2;go_ret;exact ⟨by simp[qF];omega,rfl⟩
 have h1':1≤s.size:=by omega
 have h8':s.size≤8:=by omega
 clear h1 h8
 go_enter Tryd.func13,Tryd.ntmps13
 go_wp2
 go_loop [14] (fun i=>∃ k:Nat,k≤s.size∧i=.int .i64 k∧(s.data.toList.take k).all qh=true) (fun i=>s.size-(intOf i).toNat)
 case atStart => exact ⟨0,Nat.zero_le _,rfl,by simp⟩
 case round =>
  obtain ⟨k,hk,rfl,hall⟩:=hrel;have HA:Hid ((s.data.toList.take k).all qh=true):=hall;clear hall
  by_cases hlt:k<s.size
  · by_cases ha : (s[k].toNat : Int) < 97
    · have HP : Hid (qh s[k] = false) := by show _ = _;simp[qh];omega
      go_wp2;go_ret;exact ⟨by simp[qF,jR hlt HP.out],rfl⟩
    · by_cases hb : 122 < (s[k].toNat : Int)
      · have HP : Hid (qh s[k] = false) := by show _ = _;simp[qh];omega
        go_wp2;go_ret;exact ⟨by simp[qF,jR hlt HP.out],rfl⟩
      · have HP : Hid (qh s[k] = true) := by show _ = _;simp[qh];omega
        go_wp2;exact ⟨⟨k+1,by omega,by go_num,x5 hlt HA.out HP.out⟩,by simp[intOf];omega⟩
  · go_wp2;go_ret;have:=HA.out;rw[List.take_of_length_le (by simp;omega)]at this
    exact ⟨by simp[qF,this,h1',h8'],rfl⟩
theorem zA (s:ByteArray)(w:World)(hs:s.size≤maxLen) :
 Calls Tryd.prog 15 #[.string s] w fun e w'=>e=.returned (.bool (qR s))∧w'=w:=by
 unfold maxLen at hs
 by_cases h8:40<s.size
 · go_enter Tryd.func15, Tryd.ntmps15
   go_wp2;go_ret;exact ⟨by simp[qR];omega,rfl⟩
 have h8':s.size≤40:=by omega
 clear h8
 go_enter Tryd.func15,Tryd.ntmps15
 go_wp2
 go_loop [9] (fun i=>∃ k:Nat,k≤s.size∧i=.int .i64 k∧(s.data.toList.take k).all sign=true) (fun i=>s.size-(intOf i).toNat)
 case atStart => exact ⟨0,Nat.zero_le _,rfl,by simp⟩
 case round =>
  obtain ⟨k,hk,rfl,hall⟩:=hrel;have HA:Hid ((s.data.toList.take k).all sign=true):=hall;clear hall
  by_cases hlt:k<s.size
  · by_cases h10 : s[k].toNat = 10
    · have HP : Hid (sign s[k] = true) := by show _ = _;simp[sign, h10]
      have hb:((s[k].toNat:Int) != 10)=false:=by simp;omega
      clear h10;go_wp2;exact ⟨⟨k+1,by omega,by go_num,x5 hlt HA.out HP.out⟩,by simp[intOf];omega⟩
    · have hb : ((s[k].toNat : Int) != 10) = true := by simp;omega
      by_cases ha:(s[k].toNat:Int)<32
      · have HP : Hid (sign s[k] = false) := by show _ = _;simp[sign, h10];omega
        clear h10;go_wp2;go_ret;exact ⟨by simp[qR,jR hlt HP.out],rfl⟩
      · by_cases hb' : 126 < (s[k].toNat : Int)
        · have HP : Hid (sign s[k] = false) := by show _ = _;simp[sign, h10];omega
          clear h10;go_wp2;go_ret;exact ⟨by simp[qR,jR hlt HP.out],rfl⟩
        · have HP : Hid (sign s[k] = true) := by show _ = _;simp[sign, h10];omega
          clear h10;go_wp2;exact ⟨⟨k+1,by omega,by go_num,x5 hlt HA.out HP.out⟩,by simp[intOf];omega⟩
  · go_wp2;go_ret;have:=HA.out;rw[List.take_of_length_le (by simp;omega)]at this
    exact ⟨by simp[qR,this,h8'],rfl⟩
end Go.Proofs.YtfdbipeidmpciaaDoor
