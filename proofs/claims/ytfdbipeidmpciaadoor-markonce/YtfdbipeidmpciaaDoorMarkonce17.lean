/- Bundled: BuildF PrintM. What each says stands ahead of it. -/
import Derived.Test.YtfdbipeidmpciaaDoorMarkonce16
import Derived.Test.YtfdbipeidmpciaaDoorFive04
namespace Go.Proofs.YtfdbipeidmpciaaDoor
open Go.ChangeShapes Go.WideShapes Go.ChangeAt Go.RowKit
set_option maxRecDepth 100000
structure Bd (B b:Nat) (bs:List Value) (v:Value) (w:World):Prop where
 base:B≤b
 held:∃ p,(p=.pointer none∨p=.pointer (some ⟨b,0,none⟩))∧w.heap[b]?=some (.cells #[p,v] 99 (0,0))
 own:w.ownsRow B 5 1 v bs.length bs
 ne:v.ownBlock≠some b
theorem Bd.is {B b:Nat}{bs:List Value}{v:Value}{w:World}(h:Bd B b bs v w):Lib.IsBuilder 99 5 B b bs w:=by
 obtain ⟨p,hp,hb⟩:=h.held
 rcases hp with rfl|rfl
 · exact Or.inl ⟨h.base,v,hb,h.own,h.ne⟩
 · exact Or.inr ⟨h.base,v,hb,h.own,h.ne⟩
theorem Bd.lt {B b:Nat}{bs:List Value}{v:Value}{w:World}(h:Bd B b bs v w):b<w.heap.size:=by
 obtain ⟨p,hp,hb⟩:=h.held
 rcases Nat.lt_or_ge b w.heap.size with h'|h'
 · exact h'
 · simp[Array.getElem?_eq_none h']at hb
theorem Bd.rowLt {B b:Nat}{bs:List Value}{v:Value}{w:World}(h:Bd B b bs v w):∀ x,v.ownBlock=some x→x<w.heap.size:=fun x hx=>(h.own.lt x hx).2
structure BFr (B b:Nat) (v:Value) (w:World) (v':Value) (w':World):Prop where
 below:Below B w w'
 row:v'.ownBlock=v.ownBlock∨∃ g,v'.ownBlock=some g∧w.heap.size≤g
 frame:∀ x,x<w.heap.size→x≠b→v.ownBlock≠some x→w'.heap[x]?=w.heap[x]?
theorem BFr.refl (B b:Nat)(v:Value)(w:World):BFr B b v w v w:=⟨Below.refl _ _,Or.inl rfl,fun _ _ _ _=>rfl⟩
theorem BFr.free {B b:Nat}{v v':Value}{w w':World}(h:BFr B b v w v' w'){x:Nat}(hx:x<w.heap.size)(hv:v.ownBlock≠some x):v'.ownBlock≠some x:=by
 intro e
 rcases h.row with h1|⟨g,h1,h2⟩
 · exact hv (h1.symm.trans e)
 · rw[h1]at e;cases e;omega
theorem BFr.trans {B b:Nat}{v v1 v2:Value}{w w1 w2:World}(h:BFr B b v w v1 w1)(k:BFr B b v1 w1 v2 w2):BFr B b v w v2 w2:=by
 have hs:=h.below.size;refine ⟨h.below.trans k.below,?_,fun x hx h1 h2=>?_⟩
 · rcases k.row with k1 | ⟨g, k1, k2⟩
   · rw[k1];exact h.row
   · exact Or.inr ⟨g,k1,by omega⟩
 · rw[k.frame x (by omega) h1 (h.free hx h2),h.frame x hx h1 h2]
theorem BFr.later {B b:Nat}{v:Value}{w w':World}(hB:B≤w.heap.size)(h:Below w.heap.size w w'):BFr B b v w v w':=⟨h.mono hB,Or.inl rfl,fun x hx _ _=>h.block x hx⟩
theorem Bd.later {B b:Nat}{bs:List Value}{v:Value}{w w':World}(h:Bd B b bs v w)(hb:Below w.heap.size w w'):Bd B b bs v w':=by
 obtain ⟨p,hp,hh⟩:=h.held;exact ⟨h.base,⟨p,hp,by rw[hb.block b h.lt];exact hh⟩,qo h.own (fun x hx=>hb.block x (h.rowLt x hx)),h.ne⟩
theorem Y7 (B b:Nat)(bs:List Value)(v:Value)(w:World)(h:Bd B b bs v w) :
 Calls Tryd.prog 103 #[.pointer (some ⟨b,0,none⟩)] w fun e w'=>e=.returned (.tuple #[])∧w'.heap[b]?=some (.cells #[.pointer (some ⟨b,0,none⟩),v] 99 (0,0))∧w'.ownsRow B 5 1 v bs.length bs∧BFr B b v w v w':=by
 obtain ⟨p,hp,hh⟩:=h.held
 rcases hp with rfl|rfl
 · have hat : Lib.BuilderAt 99 5 B b (.pointer none) bs w := ⟨h.base, v, hh, h.own, h.ne⟩;refine (yE b w hat.cell0 hat.shape hat.frozen0).mono ?_;rintro e w' ⟨rfl,rfl⟩;refine ⟨rfl,by simp[World.setCell,Array.getElem?_modify,hh],qo h.own (fun x hx=>Below.heap_setCell _ _ _ _ (fun e=>h.ne (by rw[hx,e]))),(Below.refl B w).setCell (p:=⟨b,0,none⟩) h.base _,Or.inl rfl,fun x hx h1 _=>Below.heap_setCell _ _ _ _ h1⟩
 · have hat : Lib.BuilderAt 99 5 B b (.pointer (some ⟨b, 0, none⟩)) bs w := ⟨h.base, v, hh, h.own, h.ne⟩;refine (yP b w hat.cell0).mono ?_;rintro e w' ⟨rfl,rfl⟩;exact ⟨rfl,hh,h.own,BFr.refl _ _ _ _⟩
theorem Kf {w:World}{B:Nat}{ty:TypeId}{i:TypeInfo}(hi:Tryd.prog.info? 5=some i)(hz:i.zero=some (.int .u8 0))(hz1:i.size=1)(hz2:i.bytes=1){v v':Value}{n:Nat}{xs:List Value}{s:ByteArray}{w':World}(hown:w.ownsRow B 5 1 v n xs)
 (hlen:n+s.size≤140737488355328) (hr:(Builtin.append_ #[66,9] ty #[v,.string s]).run Tryd.prog w=.ok v' w') (h0:v'=.slice none 0 0↔v=.slice none 0 0∧s.size=0) :
 v'.ownBlock=v.ownBlock∨v'.ownBlock=some w.heap.size:=by
 have hxl:xs.length=n:=by simpa using hown.1
 rcases hown.2 with ⟨rfl,rfl⟩|⟨g,cap,cur,rfl,hbg,hg,hnc,hcm,hcs,htake⟩
 · by_cases hm : s.size = 0
   · left;rw[h0.2 ⟨rfl,hm⟩]
   · have h1 := run_append_nil_string (P := Tryd.prog) w 66 9 ty 5 i (.int .u8 0) Tryd.underlying66 Tryd.underlying9 hi hz s (by omega) (by omega) (by rw[hz2];omega)
     rw[hr]at h1
     injection h1 with h1 _
     right;rw[h1];rfl
 · by_cases hroom : n + s.size ≤ cap
   · have h1 := Lib.run_append_room_string (P := Tryd.prog) w 66 9 ty 5 i Tryd.underlying66 Tryd.underlying9 hi hz1 g n cap cur hg s hroom (by omega)
     rw[hr]at h1
     injection h1 with h1 _
     left;rw[h1];rfl
   · have h1 := Lib.run_append_grow_string (P := Tryd.prog) w 66 9 ty 5 i (.int .u8 0) Tryd.underlying66 Tryd.underlying9 hi hz ⟨g, 0, none⟩ n cap xs (by rw[hz1];simpa using hxl) (hown.cells (g := g) rfl) s (by omega) (by omega) (by rw[hz2];exact growslice_fits (by omega) (by omega))
     rw[hr]at h1
     injection h1 with h1 _
     right;rw[h1];rfl
theorem Qr {ops:Array Oper}{rest:List Oper}{o:Oper}{a:Act}{w:World}{Q:Exit→Act→World→Prop}(hgd:o.guard=none)(sl x:Operand)(ho:o.op=.call { callee:=.builtin .append,args:=#[sl,x],argTypes:=#[66,9] })
 (B:Nat) (v:Value) (n:Nat) (xs:List Value) (hs:a.eval sl=v) (hown:w.ownsRow B 5 1 v n xs) (s:ByteArray) (hx:a.eval x=.string s) (hlen:n+s.size≤140737488355328) (hB:B≤w.heap.size)
 (h:∀ v' w',w'.ownsRow B 5 1 v' (n+s.size) (xs++Lib.strCells s)→w.grownBy w' v.ownBlock→(v'.ownBlock=v.ownBlock∨v'.ownBlock=some w.heap.size)→wpList Tryd.prog ops Q rest (a.put o.dst v') w'):wpList Tryd.prog ops Q (o::rest) a w:=by
 obtain ⟨i0,hi,hz0,hz1,hz2⟩:=info_parts byteInfo;refine wpList_plain hgd fun K hK=>?_
 obtain ⟨v',w',hr,h2,h3,h4⟩:=Lib.run_append_own_string (P:=Tryd.prog) w B 66 9 o.type 5 i0 Tryd.underlying66 Tryd.underlying9 hi hz0 hz1 hz2 v n xs hown s (by unfold maxLen;omega) hlen hB
 have h5:=Kf hi hz0 hz1 hz2 hown hlen hr h4;unfold Oper.wp execOp;simp only[ho,resolve,invoke,builtin,Sem.run_bind,Sem.run_pure,Result.andThen_ok,List.map_toArray,List.map_cons,List.map_nil,hs,hx,hr];exact hK _ _ (h v' w' h2 h3 h5)
theorem zh (B b:Nat)(bs:List Value)(v:Value)(s:ByteArray)(w:World)(h:Bd B b bs v w)(hlen:bs.length+s.size≤140737488355328)(hBw:B≤w.heap.size) :
 Calls Tryd.prog 74 #[.pointer (some ⟨b,0,none⟩),.string s] w fun e w'=>e=.returned (.tuple #[.int .i64 s.size,.nilIface])∧∃ v',Bd B b (bs++Lib.strCells s) v' w'∧BFr B b v w v' w':=by
 have hB:=h.base;have hne:=h.ne
 go_enter Tryd.func74,Tryd.ntmps74
 go_wp2_with (go_at_call 103;refine (Y7 B b bs v _ h).mono ?_);rintro e w1 ⟨rfl,hbk,hown,hF1⟩;have hb1:=hF1.below;have c0:w1.cell? ⟨b,0,none⟩=some (.pointer (some ⟨b,0,none⟩)):=by rw[cH9 hbk];rfl
 have c1:w1.cell? ⟨b,1,none⟩=some v:=by rw[cH9 hbk];rfl
 go_wp2_with (at_builtin;refine Qr rfl _ _ rfl B _ _ _ rfl hown s rfl hlen ?c5 ?_)
 case c5 => have:=hb1.size;omega
 intro v' w2 hown' hgrow hat
 have hlt:b<w1.heap.size:=by
  rcases Nat.lt_or_ge b w1.heap.size with h'|h'
  · exact h'
  · simp[Array.getElem?_eq_none h']at hbk
 have hb2:w2.heap[b]?=some (.cells #[.pointer (some ⟨b,0,none⟩),v] 99 (0,0)):=by
  rw[hgrow.block b hlt (fun e=>hne e.symm)]
  exact hbk
 have d0:w2.cell? ⟨b,0,none⟩=some (.pointer (some ⟨b,0,none⟩)):=by rw[cH9 hb2];rfl
 have d1:w2.cell? ⟨b,1,none⟩=some v:=by rw[cH9 hb2];rfl
 have f1:w2.frozen? ⟨b,1,none⟩=false:=fH9 hb2 1
 obtain ⟨ao,n',cap,rfl⟩:∃ ao n' cap,v'=.slice ao n' cap:=by
  rcases hown'.2 with ⟨hv,_⟩|⟨g,cap,cur,hv,_⟩
  · exact ⟨_,_,_,hv⟩
  · exact ⟨_,_,_,hv⟩
 have hne':(Value.slice ao n' cap).ownBlock≠some b:=by
  rcases hat with h1|h1
  · rw[h1];exact hne
  · rw[h1];intro e;cases e;omega
 go_wp2
 go_ret2
 refine ⟨rfl,_,⟨hB,⟨_,Or.inr rfl,by simp[World.setCell,Array.getElem?_modify,hb2]⟩,?_,hne'⟩,hF1.trans ⟨?_,?_,?_⟩⟩
 · have e1 : (bs ++ Lib.strCells s).length = bs.length + s.size := by rw[List.length_append, Lib.strCells_length]
   rw[e1];exact qo hown' fun x hx=>Below.heap_setCell _ _ _ _ (fun e=>hne' (by rw[hx,e]))
 · exact ((Below.refl B w1).grown hgrow (by have:=hb1.size;omega) (fun k hk=>(hown.lt k hk).1)).setCell (p:=⟨b,1,none⟩) hB _
 · rcases hat with h1 | h1
   · exact Or.inl h1
   · exact Or.inr ⟨_,h1,nR9 _⟩
 · intro x hx h1 h2;rw[Below.heap_setCell _ _ _ _ h1,hgrow.block x hx (fun e=>h2 e.symm)]
theorem Y6 (B b:Nat)(bs:List Value)(v:Value)(c:Int)(w:World)(h:Bd B b bs v w)(hlen:bs.length+1≤140737488355328)(hBw:B≤w.heap.size) :
 Calls Tryd.prog 147 #[.pointer (some ⟨b,0,none⟩),.int .u8 c] w fun e w'=>e=.returned .nilIface∧∃ v',Bd B b (bs++[.int .u8 c]) v' w'∧BFr B b v w v' w':=by
 obtain ⟨i0,hi,hz0,hz1,hz2⟩:=info_parts byteInfo;have hB:=h.base;have hne:=h.ne
 go_enter Tryd.func147,Tryd.ntmps147
 go_wp2_with (go_at_call 103;refine (Y7 B b bs v _ h).mono ?_);rintro e w1 ⟨rfl,hbk,hown,hF1⟩;have hb1:=hF1.below;have c0:w1.cell? ⟨b,0,none⟩=some (.pointer (some ⟨b,0,none⟩)):=by rw[cH9 hbk];rfl
 have c1:w1.cell? ⟨b,1,none⟩=some v:=by rw[cH9 hbk];rfl
 have hlt:b<w1.heap.size:=by
  rcases Nat.lt_or_ge b w1.heap.size with h'|h'
  · exact h'
  · simp[Array.getElem?_eq_none h']at hbk
 have hsz1:=hb1.size;go_wp2_with (at_builtin;refine wpList_append_own_at _ rfl _ _ 66 rfl B 5 i0 _ 1 1 Tryd.underlying66 hi hz0 hz1 hz2 rfl (by decide) _ _ _ rfl (hown.alloc _) ⟨w1.heap.size,0,none⟩ 1 1 [.int .u8 c] rfl ?c0 ?c1 ?c2 ?c3 ?c4 ?c5 ?_)
 case c0 => rfl
 case c1 => exact cell_one_new _ _ _
 case c2 => intro u hu;simp at hu;subst hu;rfl
 case c3 => unfold maxLen;omega
 case c4 => omega
 case c5 => simp;omega
 intro v' w2 hown' hgrow _ hat
 have hb2:w2.heap[b]?=some (.cells #[.pointer (some ⟨b,0,none⟩),v] 99 (0,0)):=by
  rw[hgrow.block b (by simp;omega) (fun e=>hne e.symm),Lib.alloc_old _ _ _ hlt]
  exact hbk
 have d0:w2.cell? ⟨b,0,none⟩=some (.pointer (some ⟨b,0,none⟩)):=by rw[cH9 hb2];rfl
 have d1:w2.cell? ⟨b,1,none⟩=some v:=by rw[cH9 hb2];rfl
 have f1:w2.frozen? ⟨b,1,none⟩=false:=fH9 hb2 1
 obtain ⟨ao,n',cap,rfl⟩:∃ ao n' cap,v'=.slice ao n' cap:=by
  rcases hown'.2 with ⟨hv,_⟩|⟨g,cap,cur,hv,_⟩
  · exact ⟨_,_,_,hv⟩
  · exact ⟨_,_,_,hv⟩
 have hne':(Value.slice ao n' cap).ownBlock≠some b:=by
  rcases hat with h1|h1
  · rw[h1];exact hne
  · rw[h1];intro e;injection e with e;omega
 go_wp2;go_ret;refine ⟨rfl,_,⟨hB,⟨_,Or.inr rfl,by simp[World.setCell,Array.getElem?_modify,hb2]⟩,?_,hne'⟩,hF1.trans ⟨?_,?_,?_⟩⟩
 · have e1 : (bs ++ [Value.int .u8 c]).length = bs.length + 1 := by simp
   rw[e1];exact qo hown' fun x hx=>Below.heap_setCell _ _ _ _ (fun e=>hne' (by rw[hx,e]))
 · exact (((Below.refl B w1).alloc (by omega) _).grown hgrow (by simp;omega) (fun k hk=>(hown.lt k hk).1)).setCell (p:=⟨b,1,none⟩) hB _
 · rcases hat with h1 | h1
   · exact Or.inl h1
   · exact Or.inr ⟨_,h1,by simp⟩
 · intro x hx h1 h2;rw[Below.heap_setCell _ _ _ _ h1,hgrow.block x (by simp;omega) (fun e=>h2 e.symm),Lib.alloc_old _ _ _ hx]
def qx (w:World):Prop:=w.cell? ⟨0,0,none⟩=some (.string ⟨#[38,108,116,59]⟩)∧w.cell? ⟨0,1,none⟩=some (.string ⟨#[38,103,116,59]⟩) ∧
 w.cell? ⟨0,2,none⟩=some (.string ⟨#[38,97,109,112,59]⟩)∧w.cell? ⟨0,3,none⟩=some (.string ⟨#[38,113,117,111,116,59]⟩)
theorem qx.lt {w:World}(h:qx w):0<w.heap.size:=World.block_lt_of_cell? w _ h.1
theorem qx.later {w w':World}{B:Nat}(h:qx w)(hb:Below B w w')(hB:0<B):qx w' :=
  ⟨by rw[hb.cell (p := ⟨0, 0, none⟩) hB];exact h.1, by rw[hb.cell (p := ⟨0, 1, none⟩) hB];exact h.2.1,
   by rw[hb.cell (p:=⟨0,2,none⟩) hB];exact h.2.2.1,by rw[hb.cell (p:=⟨0,3,none⟩) hB];exact h.2.2.2⟩
def YQ (v:Bool):ByteArray:=⟨(yg v).toArray⟩
theorem JS {s:ByteArray}{k:Nat}(h:k<s.size):s.data.toList.take (k+1)=s.data.toList.take k++[s[k]]:=by
 have hl:k<s.data.toList.length:=h;rw[List.take_succ_eq_append_getElem hl];rfl
theorem Qu (c:UInt8):(c.toNat:Int).toNat.toUInt8=c:=by simp
theorem yG (v:Bool)(B b:Nat)(bs:List UInt8)(s:ByteArray)(bv:Value)(w:World)(h:Bd B b (Lib.byteCells bs) bv w)(hM:qx w)(hgB:0<B)(hBw:B≤w.heap.size)(hlen:bs.length+6*s.size≤1099511627776) :
 Calls Tryd.prog 119 #[.pointer (some ⟨b,0,none⟩),.string s,.string (YQ v)] w fun e w'=>e=.returned (.tuple #[])∧∃ bv',Bd B b (Lib.byteCells (bs++qA v s.data.toList)) bv' w'∧BFr B b bv w bv' w':=by
 have HH:Hid (Bd B b (Lib.byteCells bs) bv w):=h;have HM:Hid (qx w):=hM;have hs:s.size≤1099511627776:=by omega
 clear h hM
 go_enter Tryd.func119,Tryd.ntmps119
 go_wp2_with fail
 go_loopg [10] s.size (fun g i wr=>∃ (k:Nat) (bw:Value),k+g=s.size∧i=.int .i64 k∧Bd B b (Lib.byteCells (bs++qA v (s.data.toList.take k))) bw wr∧BFr B b bv w bw wr)
 case atStart => exact ⟨0,bv,by omega,rfl,by simpa[qA] using HH.out,BFr.refl _ _ _ _⟩
 case round =>
  obtain ⟨k,bw,hk,rfl,hI,hFr⟩:=hrel;have hB:=hFr.below;have HI:Hid (Bd B b (Lib.byteCells (bs++qA v (s.data.toList.take k))) bw wr):=hI;have hMr:=HM.out.later hB hgB;clear hI
  by_cases hlt:k<s.size
  · have hsz := hB.size
    have HL:Hid ((Lib.byteCells (bs++qA v (s.data.toList.take k))).length+6≤140737488355328):=by
     show _≤_
     have h1:=j1 v (s.data.toList.take k);have h2:(s.data.toList.take k).length≤s.size:=by rw[List.length_take];exact Nat.min_le_right _ _
     rw[Lib.byteCells_length,List.length_append];omega
    have HT:Hid (∀ m,zb v s[k]=m→Lib.byteCells (bs++qA v (s.data.toList.take (k+1)))=Lib.byteCells (bs++qA v (s.data.toList.take k))++Lib.byteCells m):=by
     intro m hm;rw[JS hlt,Yz,hm,←List.append_assoc,Lib.byteCells_append]
    have HIX:=jj (YQ v) (s[k].toNat:Int) wr;rw[Qu,show (YQ v).data.toList=yg v from rfl]at HIX
    obtain ⟨nx,hnx⟩:∃ nx,Lib.indexByte (yg v) s[k]=nx:=⟨_,rfl⟩;have hc:=YO v s[k];rw[hnx]at HIX hc
    have HX:Hid _:=HIX;obtain ⟨m0,m1,m2,m3⟩:=hMr;clear HIX hnx;have hki:(k:Int)<(s.size:Int):=by omega
    rcases hc with ⟨rfl,hm⟩|⟨rfl,hm⟩|⟨rfl,hm⟩|⟨rfl,hm⟩|⟨rfl,hm⟩
    · have HE := HT.out _ hm;have HHE:Hid _:=HE;clear HE HT hm;go_wp2_with fail;refine (Calls.mono HX.out ?_);rintro e w1 ⟨rfl,rfl⟩;go_wp2_with fail;refine (zh B b _ bw ⟨#[38,108,116,59]⟩ _ HI.out (by have:=HL.out;show _+4≤_;omega) (by omega)).mono ?_
      rintro e w2 ⟨rfl,bw2,hI2,hF2⟩;go_wp2_with fail
      go_roundg (s.size-(k+1))
      case measure => omega
      case rel => exact ⟨k+1,bw2,by omega,by go_num,by rw[HHE.out];exact hI2,hFr.trans hF2⟩
    · have HE := HT.out _ hm;have HHE:Hid _:=HE;clear HE HT hm;go_wp2_with fail;refine (Calls.mono HX.out ?_);rintro e w1 ⟨rfl,rfl⟩;go_wp2_with fail;refine (zh B b _ bw ⟨#[38,103,116,59]⟩ _ HI.out (by have:=HL.out;show _+4≤_;omega) (by omega)).mono ?_
      rintro e w2 ⟨rfl,bw2,hI2,hF2⟩;go_wp2_with fail
      go_roundg (s.size-(k+1))
      case measure => omega
      case rel => exact ⟨k+1,bw2,by omega,by go_num,by rw[HHE.out];exact hI2,hFr.trans hF2⟩
    · have HE := HT.out _ hm;have HHE:Hid _:=HE;clear HE HT hm;go_wp2_with fail;refine (Calls.mono HX.out ?_);rintro e w1 ⟨rfl,rfl⟩;go_wp2_with fail;refine (zh B b _ bw ⟨#[38,97,109,112,59]⟩ _ HI.out (by have:=HL.out;show _+5≤_;omega) (by omega)).mono ?_
      rintro e w2 ⟨rfl,bw2,hI2,hF2⟩;go_wp2_with fail
      go_roundg (s.size-(k+1))
      case measure => omega
      case rel => exact ⟨k+1,bw2,by omega,by go_num,by rw[HHE.out];exact hI2,hFr.trans hF2⟩
    · have HE := HT.out _ hm;have HHE:Hid _:=HE;clear HE HT hm;go_wp2_with fail;refine (Calls.mono HX.out ?_);rintro e w1 ⟨rfl,rfl⟩;go_wp2_with fail;refine (zh B b _ bw ⟨#[38,113,117,111,116,59]⟩ _ HI.out (by have:=HL.out;show _+6≤_;omega) (by omega)).mono ?_
      rintro e w2 ⟨rfl,bw2,hI2,hF2⟩;go_wp2_with fail
      go_roundg (s.size-(k+1))
      case measure => omega
      case rel => exact ⟨k+1,bw2,by omega,by go_num,by rw[HHE.out];exact hI2,hFr.trans hF2⟩
    · have HE := HT.out _ hm;have HHE:Hid _:=HE;clear HE HT hm;go_wp2_with fail;refine (Calls.mono HX.out ?_);rintro e w1 ⟨rfl,rfl⟩;go_wp2_with fail;refine (Y6 B b _ bw (s[k].toNat:Int) _ HI.out (by have:=HL.out;omega) (by omega)).mono ?_
      rintro e w2 ⟨rfl,bw2,hI2,hF2⟩;go_wp2_with fail
      go_roundg (s.size-(k+1))
      case measure => omega
      case rel => exact ⟨k+1,bw2,by omega,by go_num,by rw[HHE.out];exact hI2,hFr.trans hF2⟩
  · have hkk : k = s.size := by omega
    subst hkk;go_wp2_with fail
    go_returns
    have:=HI.out;rw[List.take_of_length_le (by simp)]at this
    exact ⟨rfl,_,this,hFr⟩
end Go.Proofs.YtfdbipeidmpciaaDoor
