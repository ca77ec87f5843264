/- topiaryref.SameTrees, SameTree and sameAttrs: what is the same is told to be the same. No condition. -/
import Derived.Test.YtfdbipeidmpciaaOwn
import Derived.Deep.RegionWith
import Derived.Deep.LoopGhost
import Derived.Deep.QuietTactic
import Derived.BigQuiet
import Derived.WalkSmall
namespace Go.Proofs.Ytfdbipeidmpciaa
open Go.ChangeShapes Go.WideShapes Go.ChangeAt Go.RowKit
set_option maxRecDepth 100000
theorem yO (S S':Nat→Prop)(v v':Value)(l:List (ByteArray × ByteArray))(w:World)(h1:qc S w v l)(h2:qc S' w v' l) :
 Calls Try.prog 39 #[v,v'] w fun e w'=>e=.returned (.bool true)∧Below w.heap.size w w':=by
 obtain ⟨a,cap,rfl,_,hm,h5⟩:=h1;obtain ⟨a',cap',rfl,_,_,h5'⟩:=h2;unfold maxLen at hm
 have hne:((l.length:Int) != l.length)=false:=by simp
 go_enter Try.func39,Try.ntmps39
 go_wp2_with fail
 go_loopg [13] l.length (fun g i wr=>∃ k:Nat,k+g=l.length∧i=.int .i64 k∧Below w.heap.size w wr)
 case atStart => exact ⟨0,by omega,rfl,Below.refl _ _⟩
 case round =>
  obtain ⟨k,hk,rfl,hB⟩:=hrel
  by_cases hlt:k<l.length
  · have hne : l ≠ [] := by intro e;subst e;simp at hlt
    obtain ⟨b,o,rfl,hs,hcc⟩:=h5 hne;obtain ⟨b',o',rfl,hs',hcc'⟩:=h5' hne;obtain ⟨x,hx⟩:∃ x,l[k]?=some x:=⟨l[k],by simp[hlt]⟩
    obtain ⟨c0,c1⟩:=hcc k x hx;obtain ⟨c0',c1'⟩:=hcc' k x hx;have hbl:b<w.heap.size:=World.block_lt_of_cell? w _ c0;have hbl':b'<w.heap.size:=World.block_lt_of_cell? w _ c0';rw[←hB.cell (p:=⟨b,o+k*2,none⟩) hbl]at c0
    rw[←hB.cell (p:=⟨b,o+k*2+1,none⟩) hbl]at c1
    rw[←hB.cell (p:=⟨b',o'+k*2,none⟩) hbl']at c0'
    rw[←hB.cell (p:=⟨b',o'+k*2+1,none⟩) hbl']at c1'
    have hlti:(k:Int)<(l.length:Int):=by omega
    clear hcc hcc' h5 h5' hx;go_wp2_with fail
    go_quiet (fail)
    go_wp2_with fail
    go_roundg (l.length-(k+1))
    case measure => omega
    case rel => exact ⟨k+1,by omega,by go_num,below_drewN hB nq⟩
  · go_wp2_with fail;go_ret;exact ⟨rfl,hB⟩
def qQ (n:Nat):Prop:=∀ (S S':Nat→Prop)(v v':Value)(ts:List Tr)(w:World),qa S w n v ts→qa S' w n v' ts →
 Calls Try.prog 8 #[v,v'] w fun e w'=>e=.returned (.bool true)∧Below w.heap.size w w'
def zE (n:Nat):Prop:=∀ (S S':Nat→Prop)(tx:Bool)(s:ByteArray)(va va' vk vk':Value)(l:List (ByteArray × ByteArray))(ts:List Tr)(w:World),qc S w va l→qc S' w va' l→qa S w n vk ts→qa S' w n vk' ts →
 Calls Try.prog 27 #[.agg #[.bool tx,.string s,va,vk],.agg #[.bool tx,.string s,va',vk']] w fun e w'=>e=.returned (.bool true)∧Below w.heap.size w w'
theorem jv (n:Nat)(h:zE n):qQ (n+1):=by
 intro S S' v v' ts w h1 h2;obtain ⟨a,cap,rfl,_,hm,h4⟩:=h1;obtain ⟨a',cap',rfl,_,_,h4'⟩:=h2;unfold maxLen at hm
 have hne:((ts.length:Int) != ts.length)=false:=by simp
 have H:Hid (zE n):=h;clear h
 go_enter Try.func8,Try.ntmps8
 go_wp2_with fail
 go_loopg [13] ts.length (fun g i wr=>∃ k:Nat,k+g=ts.length∧i=.int .i64 k∧Below w.heap.size w wr)
 case atStart => exact ⟨0,by omega,rfl,Below.refl _ _⟩
 case round =>
  obtain ⟨k,hk,rfl,hB⟩:=hrel
  by_cases hlt:k<ts.length
  · have hne : ts ≠ [] := by intro e;subst e;simp at hlt
    obtain ⟨b,o,rfl,hs,hcc⟩:=h4 hne;obtain ⟨b',o',rfl,hs',hcc'⟩:=h4' hne;obtain ⟨t,ht⟩:∃ t,ts[k]?=some t:=⟨ts[k],by simp[hlt]⟩
    obtain ⟨va,vk,c0,c1,c2,c3,hat,hkt⟩:=hcc k t ht;obtain ⟨va',vk',c0',c1',c2',c3',hat',hkt'⟩:=hcc' k t ht;have hbl:b<w.heap.size:=World.block_lt_of_cell? w _ c0;have hbl':b'<w.heap.size:=World.block_lt_of_cell? w _ c0';rw[←hB.cell (p:=⟨b,o+k*4,none⟩) hbl]at c0
    rw[←hB.cell (p:=⟨b,o+k*4+1,none⟩) hbl]at c1
    rw[←hB.cell (p:=⟨b,o+k*4+2,none⟩) hbl]at c2
    rw[←hB.cell (p:=⟨b,o+k*4+3,none⟩) hbl]at c3
    rw[←hB.cell (p:=⟨b',o'+k*4,none⟩) hbl']at c0'
    rw[←hB.cell (p:=⟨b',o'+k*4+1,none⟩) hbl']at c1'
    rw[←hB.cell (p:=⟨b',o'+k*4+2,none⟩) hbl']at c2'
    rw[←hB.cell (p:=⟨b',o'+k*4+3,none⟩) hbl']at c3'
    have hlti:(k:Int)<(ts.length:Int):=by omega
    clear hcc hcc' h4 h4' ht;go_wp2_with fail
    go_region_with (go_at_call 27;refine (H.out S S' t.text t.s va va' vk vk' t.attrs t.kids wr.drew (hat.later hB.drew) (hat'.later hB.drew) (qa.later hB.drew n hkt) (qa.later hB.drew n hkt')).mono ?_;rintro e w1 ⟨rfl,hb1⟩)
    all_goals
     go_wp2_with fail
     go_roundg (ts.length-(k+1))
     case measure => omega
     case rel => exact ⟨k+1,by omega,by go_num,hB.drew.trans (hb1.mono hB.size)⟩
  · go_wp2_with fail;go_ret;exact ⟨rfl,hB⟩
theorem jT (n:Nat)(h:qQ n):zE n:=by
 intro S S' tx s va va' vk vk' l ts w h1 h2 h3 h4;have H:Hid (qQ n):=h;clear h;obtain ⟨ka,kc,rfl,_,_⟩:=qa.shape n h3;obtain ⟨ka',kc',rfl,_,_⟩:=qa.shape n h4;obtain ⟨aa,ac,rfl⟩:=h1.shape;obtain ⟨aa',ac',rfl⟩:=h2.shape;have htx:(tx==tx)=true:=by simp
 go_enter Try.func27,Try.ntmps27
 go_wp2_with fail;have hb0:∀ X Y,Below w.heap.size w ((w.alloc X).alloc Y):=fun X Y=>(Below.alloc1 w X).alloc (by simp) Y
 refine (yO S S' _ _ l _ (h1.later (hb0 _ _)) (h2.later (hb0 _ _))).mono ?_;rintro e w1 ⟨rfl,hb1⟩
 have q3:w1.cell? ⟨w.heap.size,3,none⟩=some (.slice ka ts.length kc):=by
  rw[hb1.cell (p:=⟨w.heap.size,3,none⟩) (by simp;omega)];simp[go_sem]
 have q3':w1.cell? ⟨w.heap.size+1,3,none⟩=some (.slice ka' ts.length kc'):=by
  rw[hb1.cell (p:=⟨w.heap.size+1,3,none⟩) (by simp)];simp[go_sem]
 have hB1:Below w.heap.size w w1:=(hb0 _ _).trans (hb1.mono (by simp;omega))
 go_wp2_with fail;refine (H.out S S' _ _ ts _ (qa.later hB1 n h3) (qa.later hB1 n h4)).mono ?_;rintro e w2 ⟨rfl,hb2⟩;go_wp2_with fail;go_ret;exact ⟨rfl,hB1.trans (hb2.mono hB1.size)⟩
theorem sameTrees_zero:qQ 0:=by
 intro S S' v v' ts w h1 h2;obtain ⟨rfl,a,cap,rfl,_⟩:=h1;obtain ⟨_,a',cap',rfl,_⟩:=h2
 go_enter Try.func8,Try.ntmps8
 go_wp2_with fail;go_rounds 1;go_ret;exact ⟨rfl,Below.refl _ _⟩
theorem zC (n:Nat):qQ n:=by
 induction n with
 | zero=>exact sameTrees_zero
 | succ n ih=>exact jv n (jT n ih)
end Go.Proofs.Ytfdbipeidmpciaa
