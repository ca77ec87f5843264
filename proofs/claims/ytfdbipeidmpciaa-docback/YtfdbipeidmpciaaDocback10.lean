/- topiarykeep.sames and same: lists of trees that are the same are told to be the same. Condition: at most 2^20 trees and attributes in each list. -/
import Derived.Test.YtfdbipeidmpciaaBundle01
import Derived.Deep.RegionWith
import Derived.BigQuiet
import Derived.WalkSmall
namespace Go.Proofs.Ytfdbipeidmpciaa
open Go.ChangeShapes Go.WideShapes Go.ChangeAt Go.RowKit
set_option maxRecDepth 100000
def zJ (n:Nat):Prop:=∀ (S S':Nat→Prop)(v v':Value)(ts:List Tr)(w:World),qa S w n v ts→qa S' w n v' ts →
 Calls Try.prog 12 #[v,v'] w fun e w'=>e=.returned (.bool true)∧Below w.heap.size w w'
def je (n:Nat):Prop:=∀ (S S':Nat→Prop)(tx:Bool)(s:ByteArray)(va va' vk vk':Value)(l:List (ByteArray × ByteArray))(ts:List Tr)(w:World),qc S w va l→qc S' w va' l→qa S w n vk ts→qa S' w n vk' ts →
 Calls Try.prog 21 #[.agg #[.bool tx,.string s,va,vk],.agg #[.bool tx,.string s,va',vk']] w fun e w'=>e=.returned (.bool true)∧Below w.heap.size w w'
theorem Qp (n:Nat)(h:je n):zJ (n+1):=by
 intro S S' v v' ts w h1 h2;obtain ⟨a,cap,rfl,_,hm,h4⟩:=h1;obtain ⟨a',cap',rfl,_,_,h4'⟩:=h2;unfold maxLen at hm
 have hne:((ts.length:Int) != ts.length)=false:=by simp
 have H:Hid (je n):=h;clear h
 go_enter Try.func12,Try.ntmps12
 go_wp2_with fail
 go_loopg [13] ts.length (fun g i wr=>∃ k:Nat,k+g=ts.length∧i=.int .i64 k∧Below w.heap.size w wr)
 case atStart => exact ⟨0,by omega,rfl,Below.refl _ _⟩
 case round =>
  obtain ⟨k,hk,rfl,hB⟩:=hrel
  by_cases hlt:k<ts.length
  · have hne : ts ≠ [] := by intro e;subst e;simp at hlt
    obtain ⟨b,o,rfl,hs,hcc⟩:=h4 hne;obtain ⟨b',o',rfl,hs',hcc'⟩:=h4' hne;obtain ⟨t,ht⟩:∃ t,ts[k]?=some t:=⟨ts[k],by simp[hlt]⟩
    obtain ⟨va,vk,c0,c1,c2,c3,hat,hkt⟩:=hcc k t ht;obtain ⟨va',vk',c0',c1',c2',c3',hat',hkt'⟩:=hcc' k t ht;have hbl:b<w.heap.size:=World.block_lt_of_cell? w _ c0;have hbl':b'<w.heap.size:=World.block_lt_of_cell? w _ c0';rw[←hB.cell (p:=⟨b,o+k*4,none⟩) hbl]at c0
    rw[←hB.cell (p:=⟨b,o+k*4+1,none⟩) hbl]at c1
    rw[←hB.cell (p:=⟨b,o+k*4+2,none⟩) hbl]at c2
    rw[←hB.cell (p:=⟨b,o+k*4+3,none⟩) hbl]at c3
    rw[←hB.cell (p:=⟨b',o'+k*4,none⟩) hbl']at c0'
    rw[←hB.cell (p:=⟨b',o'+k*4+1,none⟩) hbl']at c1'
    rw[←hB.cell (p:=⟨b',o'+k*4+2,none⟩) hbl']at c2'
    rw[←hB.cell (p:=⟨b',o'+k*4+3,none⟩) hbl']at c3'
    have hlti:(k:Int)<(ts.length:Int):=by omega
    clear hcc hcc' h4 h4' ht;go_wp2_with fail
    go_region_with (go_at_call 21;refine (H.out S S' t.text t.s va va' vk vk' t.attrs t.kids wr.drew (hat.later hB.drew) (hat'.later hB.drew) (qa.later hB.drew n hkt) (qa.later hB.drew n hkt')).mono ?_;rintro e w1 ⟨rfl,hb1⟩)
    all_goals
     go_wp2_with fail
     go_roundg (ts.length-(k+1))
     case measure => omega
     case rel => exact ⟨k+1,by omega,by go_num,hB.drew.trans (hb1.mono hB.size)⟩
  · go_wp2_with fail;go_ret;exact ⟨rfl,hB⟩
theorem xx (n:Nat)(h:zJ n):je n:=by
 intro S S' tx s va va' vk vk' l ts w h1 h2 h3 h4;have H:Hid (zJ n):=h;clear h;obtain ⟨ka,kc,rfl,_,_⟩:=qa.shape n h3;obtain ⟨ka',kc',rfl,_,_⟩:=qa.shape n h4;have h1':=h1;have h2':=h2;obtain ⟨a,cap,rfl,_,hm,h5⟩:=h1;obtain ⟨a',cap',rfl,_,_,h5'⟩:=h2;unfold maxLen at hm
 go_enter Try.func21,Try.ntmps21
 go_wp2_with fail
 go_loopg [30] l.length (fun g i wr=>∃ k:Nat,k+g=l.length∧i=.int .i64 k∧Below w.heap.size w wr∧wr.cell? ⟨w.heap.size,2,none⟩=some (.slice a l.length cap)∧wr.cell? ⟨w.heap.size,3,none⟩=some (.slice ka ts.length kc) ∧
  wr.cell? ⟨w.heap.size+1,2,none⟩=some (.slice a' l.length cap')∧wr.cell? ⟨w.heap.size+1,3,none⟩=some (.slice ka' ts.length kc'))
 case atStart => exact ⟨0,by omega,rfl,(Below.alloc1 w _).alloc (by simp) _,by simp[go_sem],by simp[go_sem],by simp[go_sem],by simp[go_sem]⟩
 case round =>
  obtain ⟨k,hk,rfl,hB,d2,d3,d2',d3'⟩:=hrel
  by_cases hlt:k<l.length
  · have hne : l ≠ [] := by intro e;subst e;simp at hlt
    obtain ⟨b,o,rfl,hs,hcc⟩:=h5 hne;obtain ⟨b',o',rfl,hs',hcc'⟩:=h5' hne;obtain ⟨x,hx⟩:∃ x,l[k]?=some x:=⟨l[k],by simp[hlt]⟩
    obtain ⟨c0,c1⟩:=hcc k x hx;obtain ⟨c0',c1'⟩:=hcc' k x hx;have hbl:b<w.heap.size:=World.block_lt_of_cell? w _ c0;have hbl':b'<w.heap.size:=World.block_lt_of_cell? w _ c0';rw[←hB.cell (p:=⟨b,o+k*2,none⟩) hbl]at c0
    rw[←hB.cell (p:=⟨b,o+k*2+1,none⟩) hbl]at c1
    rw[←hB.cell (p:=⟨b',o'+k*2,none⟩) hbl']at c0'
    rw[←hB.cell (p:=⟨b',o'+k*2+1,none⟩) hbl']at c1'
    have hlti:(k:Int)<(l.length:Int):=by omega
    clear hcc hcc' h5 h5' hx h1' h2';go_wp2_with fail
    go_quiet (fail)
    go_wp2_with fail
    go_roundg (l.length-(k+1))
    case measure => omega
    case rel => exact ⟨k+1,by omega,by go_num,below_drewN hB nq,by simpa using d2,by simpa using d3,by simpa using d2',by simpa using d3'⟩
  · go_wp2_with fail;refine (H.out S S' _ _ ts _ (qa.later hB n h3) (qa.later hB n h4)).mono ?_;rintro e w1 ⟨rfl,hb1⟩;go_wp2_with fail;go_ret;exact ⟨rfl,hB.trans (hb1.mono hB.size)⟩
theorem sames_zero:zJ 0:=by
 intro S S' v v' ts w h1 h2;obtain ⟨rfl,a,cap,rfl,_⟩:=h1;obtain ⟨_,a',cap',rfl,_⟩:=h2
 go_enter Try.func12,Try.ntmps12
 go_wp2_with fail;go_rounds 1;go_ret;exact ⟨rfl,Below.refl _ _⟩
theorem zY (n:Nat):zJ n:=by
 induction n with
 | zero=>exact sames_zero
 | succ n ih=>exact Qp n (xx n ih)
end Go.Proofs.Ytfdbipeidmpciaa
