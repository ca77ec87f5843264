/- Bundled: LineC LineW RevW AllW GrownW NewM NewW. What each says stands ahead of it. -/
import Derived.Test.YtchkbffgancidaaGreatDoorBundle26
import Derived.Test.YtchkbffgancidaaGreatDoorBundle34
namespace Go.Proofs.YtchkbffgancidaaGreatDoor
open Go.ChangeShapes Go.WideShapes Go.ChangeAt Go.RowKit
set_option maxRecDepth 100000
section
attribute [local go_sem] qd
structure xw (w:World) (k:Int) (W:World):Prop where
 below:Below w.heap.size w W
 res:W.heap[w.heap.size]?=some (.cells #[.int .i64 0,.int .i64 0,.slice none 0 0,.string ⟨#[]⟩,.string ⟨#[]⟩] 94 (0,0))
 box:W.heap[w.heap.size+1]?=some (.cells #[.int .i64 k,.int .i64 0,.slice none 0 0,.string ⟨#[]⟩,.string ⟨#[]⟩] 94 (0,0))
theorem xw.start (w:World)(k:Int):xw w k ((w.alloc (.cells #[.int .i64 0,.int .i64 0,.slice none 0 0,.string ⟨#[]⟩,.string ⟨#[]⟩] 94)).alloc (.cells #[.int .i64 k,.int .i64 0,.slice none 0 0,.string ⟨#[]⟩,.string ⟨#[]⟩] 94)) :=
  ⟨(Below.alloc1 w _).alloc (by simp) _, by rw[heap_alloc_old _ _ (by simp)];exact heap_alloc_new _ _, by
    have:=heap_alloc_new (w.alloc (.cells #[.int .i64 0,.int .i64 0,.slice none 0 0,.string ⟨#[]⟩,.string ⟨#[]⟩] 94)) (.cells #[.int .i64 k,.int .i64 0,.slice none 0 0,.string ⟨#[]⟩,.string ⟨#[]⟩] 94)
    rwa [World.size_alloc]at this⟩
theorem xw.later {w W W':World}{k:Int}(h:xw w k W)(hb:Below W.heap.size W W'):xw w k W' :=
 ⟨h.below.trans (hb.mono h.below.size),(hb.block _ (qe h.res)).trans h.res,(hb.block _ (qe h.box)).trans h.box⟩
theorem xw.lay {w W:World}{k:Int}(h:xw w k W)(i:Nat)(v v0 v1 v2 v3 v4:Value):Below w.heap.size w (XG (W.setCell ⟨w.heap.size+1,i,none⟩ v) w.heap.size 0 v0 v1 v2 v3 v4) :=
 yd (h.below.setCell (p:=⟨w.heap.size+1,i,none⟩) (by show w.heap.size≤w.heap.size+1;omega) _) (nR9 _)
theorem xw.lay2 {w W W':World}{k:Int}(h:xw w k W)(i j:Nat)(u v v0 v1 v2 v3 v4:Value)(hb:Below (W.setCell ⟨w.heap.size+1,i,none⟩ u).heap.size (W.setCell ⟨w.heap.size+1,i,none⟩ u) W'):Below w.heap.size w (XG (W'.setCell ⟨w.heap.size+1,j,none⟩ v) w.heap.size 0 v0 v1 v2 v3 v4) :=
 yd (((h.below.setCell (p:=⟨w.heap.size+1,i,none⟩) (by show w.heap.size≤w.heap.size+1;omega) _).trans (hb.mono (by simpa using h.below.size))).setCell (p:=⟨w.heap.size+1,j,none⟩) (by show w.heap.size≤w.heap.size+1;omega) _) (nR9 _)
def xT (k : Int) : Prop := ∀ (said : List UInt8)(w : World), yU w → said.length ≤ 2500 → Calls Tryz.prog 57 #[.int .i64 k, .string (qc said)] w fun e w' => ∃ a c, e = .returned (.tuple #[.agg #[.int .i64 k, .int .i64 0, .slice a (qq k said).1.content.length c, .string (qq k said).1.name, .string (qq k said).1.s], .int .i64 (qq k said).2]) ∧
    qa (fun b=>w.heap.size≤b) w' (said.length+1) (.slice a (qq k said).1.content.length c) (qq k said).1.content∧Below w.heap.size w w'
set_option linter.unusedSimpArgs false in
set_option maxHeartbeats 1000000 in
theorem chgOf_1:xT 1:=by
 intro said w hE hs;have H0:Hid _:=xw.start w 1;have HE:Hid (qq 1 said=(⟨1,0,(qN said).1,⟨#[]⟩,⟨#[]⟩⟩,(qN said).2)):=by show _=_;unfold qq;rw[if_pos (by decide)]
 have HC:Hid _:=yx said _ (hE.later H0.out.below).marks (by omega)
 clear hE hs
 go_enter Tryz.func57,Tryz.ntmps57
 go_wp2_with fail;refine Calls.mono HC.out ?_;rintro e w1 ⟨v1,rfl,hT1,hb1⟩;have H1:Hid _:=H0.out.later hb1;obtain ⟨L,hL⟩:∃ L,(qN said).1=L:=⟨_,rfl⟩;obtain ⟨E,hE⟩:∃ E,(qN said).2=E:=⟨_,rfl⟩;rw[hL]at hT1 HE
 rw[hE]at HE ⊢
 obtain ⟨a1,c1,rfl,_,_⟩:=qa.shape _ hT1;have HT:Hid _:=hT1;have HR:Hid _:=H1.out.res;have HO:Hid _:=H1.out.box;have r0:w1.cell? ⟨w.heap.size,0,none⟩=some (.int .i64 0):=by rw[cH9 HR.out];rfl
 have r1:w1.cell? ⟨w.heap.size,1,none⟩=some (.int .i64 0):=by rw[cH9 HR.out];rfl
 have r2:w1.cell? ⟨w.heap.size,2,none⟩=some (.slice none 0 0):=by rw[cH9 HR.out];rfl
 have r3:w1.cell? ⟨w.heap.size,3,none⟩=some (.string ⟨#[]⟩):=by rw[cH9 HR.out];rfl
 have r4:w1.cell? ⟨w.heap.size,4,none⟩=some (.string ⟨#[]⟩):=by rw[cH9 HR.out];rfl
 have o0:w1.cell? ⟨w.heap.size+1,0,none⟩=some (.int .i64 1):=by rw[cH9 HO.out];rfl
 have o1:w1.cell? ⟨w.heap.size+1,1,none⟩=some (.int .i64 0):=by rw[cH9 HO.out];rfl
 have o2:w1.cell? ⟨w.heap.size+1,2,none⟩=some (.slice none 0 0):=by rw[cH9 HO.out];rfl
 have o3:w1.cell? ⟨w.heap.size+1,3,none⟩=some (.string ⟨#[]⟩):=by rw[cH9 HO.out];rfl
 have o4:w1.cell? ⟨w.heap.size+1,4,none⟩=some (.string ⟨#[]⟩):=by rw[cH9 HO.out];rfl
 have f0:w1.frozen? ⟨w.heap.size,0,none⟩=false:=fH9 HR.out _;have f1:w1.frozen? ⟨w.heap.size,1,none⟩=false:=fH9 HR.out _;have f2:w1.frozen? ⟨w.heap.size,2,none⟩=false:=fH9 HR.out _;have f3:w1.frozen? ⟨w.heap.size,3,none⟩=false:=fH9 HR.out _;have f4:w1.frozen? ⟨w.heap.size,4,none⟩=false:=fH9 HR.out _;have g0:w1.frozen? ⟨w.heap.size+1,0,none⟩=false:=fH9 HO.out _;have g1:w1.frozen? ⟨w.heap.size+1,1,none⟩=false:=fH9 HO.out _;have g2:w1.frozen? ⟨w.heap.size+1,2,none⟩=false:=fH9 HO.out _;have g3:w1.frozen? ⟨w.heap.size+1,3,none⟩=false:=fH9 HO.out _;have g4:w1.frozen? ⟨w.heap.size+1,4,none⟩=false:=fH9 HO.out _;clear hT1 hL hE HR HO H0 HC hb1;go_wp2_with fail;refine bodyPost_ret (v:=.tuple #[.agg #[.int .i64 1,.int .i64 0,.slice a1 L.length c1,.string ⟨#[]⟩,.string ⟨#[]⟩],.int .i64 E]) (by simp[results,Tryz.results57,go_sem,qd,World.cell?_setCell_other,r0,r1,r2,r3,r4,o0,o1,o2,o3,o4]) rfl ?_
 rw[HE.out];refine ⟨a1,c1,rfl,?_,H1.out.lay 2 _ _ _ _ _ _⟩;refine qa.carry (fun b hb=>⟨?_,?_⟩) _ HT.out
 · have:=World.size_alloc;simp only[World.size_alloc]at hb;omega
 · simp only[World.size_alloc]at hb
   exact (yF (p:=0) (by omega)).trans (qb (by omega))
set_option linter.unusedSimpArgs false in
set_option maxHeartbeats 1000000 in
theorem chgOf_2:xT 2:=by
 intro said w hE hs;have H0:Hid _:=xw.start w 2;have HE:Hid (qq 2 said=(⟨2,0,(qN said).1,⟨#[]⟩,⟨#[]⟩⟩,(qN said).2)):=by show _=_;unfold qq;rw[if_pos (by decide)]
 have HC:Hid _:=yx said _ (hE.later H0.out.below).marks (by omega)
 clear hE hs
 go_enter Tryz.func57,Tryz.ntmps57
 go_wp2_with fail;refine Calls.mono HC.out ?_;rintro e w1 ⟨v1,rfl,hT1,hb1⟩;have H1:Hid _:=H0.out.later hb1;obtain ⟨L,hL⟩:∃ L,(qN said).1=L:=⟨_,rfl⟩;obtain ⟨E,hE⟩:∃ E,(qN said).2=E:=⟨_,rfl⟩;rw[hL]at hT1 HE
 rw[hE]at HE ⊢
 obtain ⟨a1,c1,rfl,_,_⟩:=qa.shape _ hT1;have HT:Hid _:=hT1;have HR:Hid _:=H1.out.res;have HO:Hid _:=H1.out.box;have r0:w1.cell? ⟨w.heap.size,0,none⟩=some (.int .i64 0):=by rw[cH9 HR.out];rfl
 have r1:w1.cell? ⟨w.heap.size,1,none⟩=some (.int .i64 0):=by rw[cH9 HR.out];rfl
 have r2:w1.cell? ⟨w.heap.size,2,none⟩=some (.slice none 0 0):=by rw[cH9 HR.out];rfl
 have r3:w1.cell? ⟨w.heap.size,3,none⟩=some (.string ⟨#[]⟩):=by rw[cH9 HR.out];rfl
 have r4:w1.cell? ⟨w.heap.size,4,none⟩=some (.string ⟨#[]⟩):=by rw[cH9 HR.out];rfl
 have o0:w1.cell? ⟨w.heap.size+1,0,none⟩=some (.int .i64 2):=by rw[cH9 HO.out];rfl
 have o1:w1.cell? ⟨w.heap.size+1,1,none⟩=some (.int .i64 0):=by rw[cH9 HO.out];rfl
 have o2:w1.cell? ⟨w.heap.size+1,2,none⟩=some (.slice none 0 0):=by rw[cH9 HO.out];rfl
 have o3:w1.cell? ⟨w.heap.size+1,3,none⟩=some (.string ⟨#[]⟩):=by rw[cH9 HO.out];rfl
 have o4:w1.cell? ⟨w.heap.size+1,4,none⟩=some (.string ⟨#[]⟩):=by rw[cH9 HO.out];rfl
 have f0:w1.frozen? ⟨w.heap.size,0,none⟩=false:=fH9 HR.out _;have f1:w1.frozen? ⟨w.heap.size,1,none⟩=false:=fH9 HR.out _;have f2:w1.frozen? ⟨w.heap.size,2,none⟩=false:=fH9 HR.out _;have f3:w1.frozen? ⟨w.heap.size,3,none⟩=false:=fH9 HR.out _;have f4:w1.frozen? ⟨w.heap.size,4,none⟩=false:=fH9 HR.out _;have g0:w1.frozen? ⟨w.heap.size+1,0,none⟩=false:=fH9 HO.out _;have g1:w1.frozen? ⟨w.heap.size+1,1,none⟩=false:=fH9 HO.out _;have g2:w1.frozen? ⟨w.heap.size+1,2,none⟩=false:=fH9 HO.out _;have g3:w1.frozen? ⟨w.heap.size+1,3,none⟩=false:=fH9 HO.out _;have g4:w1.frozen? ⟨w.heap.size+1,4,none⟩=false:=fH9 HO.out _;clear hT1 hL hE HR HO H0 HC hb1;go_wp2_with fail;refine bodyPost_ret (v:=.tuple #[.agg #[.int .i64 2,.int .i64 0,.slice a1 L.length c1,.string ⟨#[]⟩,.string ⟨#[]⟩],.int .i64 E]) (by simp[results,Tryz.results57,go_sem,qd,World.cell?_setCell_other,r0,r1,r2,r3,r4,o0,o1,o2,o3,o4]) rfl ?_
 rw[HE.out];refine ⟨a1,c1,rfl,?_,H1.out.lay 2 _ _ _ _ _ _⟩;refine qa.carry (fun b hb=>⟨?_,?_⟩) _ HT.out
 · have:=World.size_alloc;simp only[World.size_alloc]at hb;omega
 · simp only[World.size_alloc]at hb
   exact (yF (p:=0) (by omega)).trans (qb (by omega))
set_option linter.unusedSimpArgs false in
set_option maxHeartbeats 1000000 in
theorem chgOf_3:xT 3:=by
 intro said w hE hs;have H0:Hid _:=xw.start w 3;have HE:Hid (qq 3 said=(⟨3,0,(qN said).1,⟨#[]⟩,⟨#[]⟩⟩,(qN said).2)):=by show _=_;unfold qq;rw[if_pos (by decide)]
 have HC:Hid _:=yx said _ (hE.later H0.out.below).marks (by omega)
 clear hE hs
 go_enter Tryz.func57,Tryz.ntmps57
 go_wp2_with fail;refine Calls.mono HC.out ?_;rintro e w1 ⟨v1,rfl,hT1,hb1⟩;have H1:Hid _:=H0.out.later hb1;obtain ⟨L,hL⟩:∃ L,(qN said).1=L:=⟨_,rfl⟩;obtain ⟨E,hE⟩:∃ E,(qN said).2=E:=⟨_,rfl⟩;rw[hL]at hT1 HE
 rw[hE]at HE ⊢
 obtain ⟨a1,c1,rfl,_,_⟩:=qa.shape _ hT1;have HT:Hid _:=hT1;have HR:Hid _:=H1.out.res;have HO:Hid _:=H1.out.box;have r0:w1.cell? ⟨w.heap.size,0,none⟩=some (.int .i64 0):=by rw[cH9 HR.out];rfl
 have r1:w1.cell? ⟨w.heap.size,1,none⟩=some (.int .i64 0):=by rw[cH9 HR.out];rfl
 have r2:w1.cell? ⟨w.heap.size,2,none⟩=some (.slice none 0 0):=by rw[cH9 HR.out];rfl
 have r3:w1.cell? ⟨w.heap.size,3,none⟩=some (.string ⟨#[]⟩):=by rw[cH9 HR.out];rfl
 have r4:w1.cell? ⟨w.heap.size,4,none⟩=some (.string ⟨#[]⟩):=by rw[cH9 HR.out];rfl
 have o0:w1.cell? ⟨w.heap.size+1,0,none⟩=some (.int .i64 3):=by rw[cH9 HO.out];rfl
 have o1:w1.cell? ⟨w.heap.size+1,1,none⟩=some (.int .i64 0):=by rw[cH9 HO.out];rfl
 have o2:w1.cell? ⟨w.heap.size+1,2,none⟩=some (.slice none 0 0):=by rw[cH9 HO.out];rfl
 have o3:w1.cell? ⟨w.heap.size+1,3,none⟩=some (.string ⟨#[]⟩):=by rw[cH9 HO.out];rfl
 have o4:w1.cell? ⟨w.heap.size+1,4,none⟩=some (.string ⟨#[]⟩):=by rw[cH9 HO.out];rfl
 have f0:w1.frozen? ⟨w.heap.size,0,none⟩=false:=fH9 HR.out _;have f1:w1.frozen? ⟨w.heap.size,1,none⟩=false:=fH9 HR.out _;have f2:w1.frozen? ⟨w.heap.size,2,none⟩=false:=fH9 HR.out _;have f3:w1.frozen? ⟨w.heap.size,3,none⟩=false:=fH9 HR.out _;have f4:w1.frozen? ⟨w.heap.size,4,none⟩=false:=fH9 HR.out _;have g0:w1.frozen? ⟨w.heap.size+1,0,none⟩=false:=fH9 HO.out _;have g1:w1.frozen? ⟨w.heap.size+1,1,none⟩=false:=fH9 HO.out _;have g2:w1.frozen? ⟨w.heap.size+1,2,none⟩=false:=fH9 HO.out _;have g3:w1.frozen? ⟨w.heap.size+1,3,none⟩=false:=fH9 HO.out _;have g4:w1.frozen? ⟨w.heap.size+1,4,none⟩=false:=fH9 HO.out _;clear hT1 hL hE HR HO H0 HC hb1;go_wp2_with fail;refine bodyPost_ret (v:=.tuple #[.agg #[.int .i64 3,.int .i64 0,.slice a1 L.length c1,.string ⟨#[]⟩,.string ⟨#[]⟩],.int .i64 E]) (by simp[results,Tryz.results57,go_sem,qd,World.cell?_setCell_other,r0,r1,r2,r3,r4,o0,o1,o2,o3,o4]) rfl ?_
 rw[HE.out];refine ⟨a1,c1,rfl,?_,H1.out.lay 2 _ _ _ _ _ _⟩;refine qa.carry (fun b hb=>⟨?_,?_⟩) _ HT.out
 · have:=World.size_alloc;simp only[World.size_alloc]at hb;omega
 · simp only[World.size_alloc]at hb
   exact (yF (p:=0) (by omega)).trans (qb (by omega))
set_option linter.unusedSimpArgs false in
set_option maxHeartbeats 1000000 in
theorem chgOf_4:xT 4:=by
 intro said w hE hs;have H0:Hid _:=xw.start w 4;have HE:Hid (qq 4 said=(⟨4,0,(qN said).1,⟨#[]⟩,⟨#[]⟩⟩,(qN said).2)):=by show _=_;unfold qq;rw[if_pos (by decide)]
 have HC:Hid _:=yx said _ (hE.later H0.out.below).marks (by omega)
 clear hE hs
 go_enter Tryz.func57,Tryz.ntmps57
 go_wp2_with fail;refine Calls.mono HC.out ?_;rintro e w1 ⟨v1,rfl,hT1,hb1⟩;have H1:Hid _:=H0.out.later hb1;obtain ⟨L,hL⟩:∃ L,(qN said).1=L:=⟨_,rfl⟩;obtain ⟨E,hE⟩:∃ E,(qN said).2=E:=⟨_,rfl⟩;rw[hL]at hT1 HE
 rw[hE]at HE ⊢
 obtain ⟨a1,c1,rfl,_,_⟩:=qa.shape _ hT1;have HT:Hid _:=hT1;have HR:Hid _:=H1.out.res;have HO:Hid _:=H1.out.box;have r0:w1.cell? ⟨w.heap.size,0,none⟩=some (.int .i64 0):=by rw[cH9 HR.out];rfl
 have r1:w1.cell? ⟨w.heap.size,1,none⟩=some (.int .i64 0):=by rw[cH9 HR.out];rfl
 have r2:w1.cell? ⟨w.heap.size,2,none⟩=some (.slice none 0 0):=by rw[cH9 HR.out];rfl
 have r3:w1.cell? ⟨w.heap.size,3,none⟩=some (.string ⟨#[]⟩):=by rw[cH9 HR.out];rfl
 have r4:w1.cell? ⟨w.heap.size,4,none⟩=some (.string ⟨#[]⟩):=by rw[cH9 HR.out];rfl
 have o0:w1.cell? ⟨w.heap.size+1,0,none⟩=some (.int .i64 4):=by rw[cH9 HO.out];rfl
 have o1:w1.cell? ⟨w.heap.size+1,1,none⟩=some (.int .i64 0):=by rw[cH9 HO.out];rfl
 have o2:w1.cell? ⟨w.heap.size+1,2,none⟩=some (.slice none 0 0):=by rw[cH9 HO.out];rfl
 have o3:w1.cell? ⟨w.heap.size+1,3,none⟩=some (.string ⟨#[]⟩):=by rw[cH9 HO.out];rfl
 have o4:w1.cell? ⟨w.heap.size+1,4,none⟩=some (.string ⟨#[]⟩):=by rw[cH9 HO.out];rfl
 have f0:w1.frozen? ⟨w.heap.size,0,none⟩=false:=fH9 HR.out _;have f1:w1.frozen? ⟨w.heap.size,1,none⟩=false:=fH9 HR.out _;have f2:w1.frozen? ⟨w.heap.size,2,none⟩=false:=fH9 HR.out _;have f3:w1.frozen? ⟨w.heap.size,3,none⟩=false:=fH9 HR.out _;have f4:w1.frozen? ⟨w.heap.size,4,none⟩=false:=fH9 HR.out _;have g0:w1.frozen? ⟨w.heap.size+1,0,none⟩=false:=fH9 HO.out _;have g1:w1.frozen? ⟨w.heap.size+1,1,none⟩=false:=fH9 HO.out _;have g2:w1.frozen? ⟨w.heap.size+1,2,none⟩=false:=fH9 HO.out _;have g3:w1.frozen? ⟨w.heap.size+1,3,none⟩=false:=fH9 HO.out _;have g4:w1.frozen? ⟨w.heap.size+1,4,none⟩=false:=fH9 HO.out _;clear hT1 hL hE HR HO H0 HC hb1;go_wp2_with fail;refine bodyPost_ret (v:=.tuple #[.agg #[.int .i64 4,.int .i64 0,.slice a1 L.length c1,.string ⟨#[]⟩,.string ⟨#[]⟩],.int .i64 E]) (by simp[results,Tryz.results57,go_sem,qd,World.cell?_setCell_other,r0,r1,r2,r3,r4,o0,o1,o2,o3,o4]) rfl ?_
 rw[HE.out];refine ⟨a1,c1,rfl,?_,H1.out.lay 2 _ _ _ _ _ _⟩;refine qa.carry (fun b hb=>⟨?_,?_⟩) _ HT.out
 · have:=World.size_alloc;simp only[World.size_alloc]at hb;omega
 · simp only[World.size_alloc]at hb
   exact (yF (p:=0) (by omega)).trans (qb (by omega))
set_option linter.unusedSimpArgs false in
set_option maxHeartbeats 1000000 in
theorem chgOf_6:xT 6:=by
 intro said w hE hs;have H0:Hid _:=xw.start w 6;have HE:Hid (qq 6 said=(⟨6,0,(qN said).1,⟨#[]⟩,⟨#[]⟩⟩,(qN said).2)):=by show _=_;unfold qq;rw[if_pos (by decide)]
 have HC:Hid _:=yx said _ (hE.later H0.out.below).marks (by omega)
 clear hE hs
 go_enter Tryz.func57,Tryz.ntmps57
 go_wp2_with fail;refine Calls.mono HC.out ?_;rintro e w1 ⟨v1,rfl,hT1,hb1⟩;have H1:Hid _:=H0.out.later hb1;obtain ⟨L,hL⟩:∃ L,(qN said).1=L:=⟨_,rfl⟩;obtain ⟨E,hE⟩:∃ E,(qN said).2=E:=⟨_,rfl⟩;rw[hL]at hT1 HE
 rw[hE]at HE ⊢
 obtain ⟨a1,c1,rfl,_,_⟩:=qa.shape _ hT1;have HT:Hid _:=hT1;have HR:Hid _:=H1.out.res;have HO:Hid _:=H1.out.box;have r0:w1.cell? ⟨w.heap.size,0,none⟩=some (.int .i64 0):=by rw[cH9 HR.out];rfl
 have r1:w1.cell? ⟨w.heap.size,1,none⟩=some (.int .i64 0):=by rw[cH9 HR.out];rfl
 have r2:w1.cell? ⟨w.heap.size,2,none⟩=some (.slice none 0 0):=by rw[cH9 HR.out];rfl
 have r3:w1.cell? ⟨w.heap.size,3,none⟩=some (.string ⟨#[]⟩):=by rw[cH9 HR.out];rfl
 have r4:w1.cell? ⟨w.heap.size,4,none⟩=some (.string ⟨#[]⟩):=by rw[cH9 HR.out];rfl
 have o0:w1.cell? ⟨w.heap.size+1,0,none⟩=some (.int .i64 6):=by rw[cH9 HO.out];rfl
 have o1:w1.cell? ⟨w.heap.size+1,1,none⟩=some (.int .i64 0):=by rw[cH9 HO.out];rfl
 have o2:w1.cell? ⟨w.heap.size+1,2,none⟩=some (.slice none 0 0):=by rw[cH9 HO.out];rfl
 have o3:w1.cell? ⟨w.heap.size+1,3,none⟩=some (.string ⟨#[]⟩):=by rw[cH9 HO.out];rfl
 have o4:w1.cell? ⟨w.heap.size+1,4,none⟩=some (.string ⟨#[]⟩):=by rw[cH9 HO.out];rfl
 have f0:w1.frozen? ⟨w.heap.size,0,none⟩=false:=fH9 HR.out _;have f1:w1.frozen? ⟨w.heap.size,1,none⟩=false:=fH9 HR.out _;have f2:w1.frozen? ⟨w.heap.size,2,none⟩=false:=fH9 HR.out _;have f3:w1.frozen? ⟨w.heap.size,3,none⟩=false:=fH9 HR.out _;have f4:w1.frozen? ⟨w.heap.size,4,none⟩=false:=fH9 HR.out _;have g0:w1.frozen? ⟨w.heap.size+1,0,none⟩=false:=fH9 HO.out _;have g1:w1.frozen? ⟨w.heap.size+1,1,none⟩=false:=fH9 HO.out _;have g2:w1.frozen? ⟨w.heap.size+1,2,none⟩=false:=fH9 HO.out _;have g3:w1.frozen? ⟨w.heap.size+1,3,none⟩=false:=fH9 HO.out _;have g4:w1.frozen? ⟨w.heap.size+1,4,none⟩=false:=fH9 HO.out _;clear hT1 hL hE HR HO H0 HC hb1;go_wp2_with fail;refine bodyPost_ret (v:=.tuple #[.agg #[.int .i64 6,.int .i64 0,.slice a1 L.length c1,.string ⟨#[]⟩,.string ⟨#[]⟩],.int .i64 E]) (by simp[results,Tryz.results57,go_sem,qd,World.cell?_setCell_other,r0,r1,r2,r3,r4,o0,o1,o2,o3,o4]) rfl ?_
 rw[HE.out];refine ⟨a1,c1,rfl,?_,H1.out.lay 2 _ _ _ _ _ _⟩;refine qa.carry (fun b hb=>⟨?_,?_⟩) _ HT.out
 · have:=World.size_alloc;simp only[World.size_alloc]at hb;omega
 · simp only[World.size_alloc]at hb
   exact (yF (p:=0) (by omega)).trans (qb (by omega))
set_option linter.unusedSimpArgs false in
set_option maxHeartbeats 1000000 in
theorem chgOf_5:xT 5:=by
 intro said w hE hs;have H0:Hid _:=xw.start w 5;have HE:Hid (qq 5 said=(⟨5,0,[],⟨#[]⟩,⟨#[]⟩⟩,0)):=by show _=_;unfold qq;rw[if_neg (by decide),if_neg (by decide),if_neg (by decide),if_neg (by decide)]
 have HR:Hid _:=H0.out.res;have HO:Hid _:=H0.out.box;clear hE hs HR HO
 go_enter Tryz.func57,Tryz.ntmps57
 go_wp2_with fail;refine bodyPost_ret (v:=.tuple #[.agg #[.int .i64 5,.int .i64 0,.slice none 0 0,.string ⟨#[]⟩,.string ⟨#[]⟩],.int .i64 0]) (by simp[results,Tryz.results57,go_sem,qd,World.cell?_setCell_other]) rfl ?_
 rw[HE.out];refine ⟨none,0,rfl,qa.nil _ ⟨none,0,rfl,nZ9 _⟩,?_⟩;exact (Below.alloc1 w _).alloc (by simp) _
set_option linter.unusedSimpArgs false in
set_option maxHeartbeats 1000000 in
theorem chgOf_7:xT 7:=by
 intro said w hE hs;have H0:Hid _:=xw.start w 7;have HE:Hid (qq 7 said=(⟨7,0,[],⟨#[]⟩,qc (zI said).1⟩,(zI said).2)):=by show _=_;unfold qq;rw[if_neg (by decide),if_pos rfl]
 have HC:Hid _:=Y3 said _ (hE.later H0.out.below).marks (by omega)
 clear hE hs
 go_enter Tryz.func57,Tryz.ntmps57
 go_wp2_with fail;refine Calls.mono HC.out ?_;rintro e w1 ⟨rfl,hb1⟩;have H1:Hid _:=H0.out.later hb1;obtain ⟨X,hX⟩:∃ X,qc (zI said).1=X:=⟨_,rfl⟩;obtain ⟨E,hE⟩:∃ E,(zI said).2=E:=⟨_,rfl⟩;rw[hX,hE]at HE ⊢
 have HR:Hid _:=H1.out.res;have HO:Hid _:=H1.out.box;have r0:w1.cell? ⟨w.heap.size,0,none⟩=some (.int .i64 0):=by rw[cH9 HR.out];rfl
 have r1:w1.cell? ⟨w.heap.size,1,none⟩=some (.int .i64 0):=by rw[cH9 HR.out];rfl
 have r2:w1.cell? ⟨w.heap.size,2,none⟩=some (.slice none 0 0):=by rw[cH9 HR.out];rfl
 have r3:w1.cell? ⟨w.heap.size,3,none⟩=some (.string ⟨#[]⟩):=by rw[cH9 HR.out];rfl
 have r4:w1.cell? ⟨w.heap.size,4,none⟩=some (.string ⟨#[]⟩):=by rw[cH9 HR.out];rfl
 have o0:w1.cell? ⟨w.heap.size+1,0,none⟩=some (.int .i64 7):=by rw[cH9 HO.out];rfl
 have o1:w1.cell? ⟨w.heap.size+1,1,none⟩=some (.int .i64 0):=by rw[cH9 HO.out];rfl
 have o2:w1.cell? ⟨w.heap.size+1,2,none⟩=some (.slice none 0 0):=by rw[cH9 HO.out];rfl
 have o3:w1.cell? ⟨w.heap.size+1,3,none⟩=some (.string ⟨#[]⟩):=by rw[cH9 HO.out];rfl
 have o4:w1.cell? ⟨w.heap.size+1,4,none⟩=some (.string ⟨#[]⟩):=by rw[cH9 HO.out];rfl
 have f0:w1.frozen? ⟨w.heap.size,0,none⟩=false:=fH9 HR.out _;have f1:w1.frozen? ⟨w.heap.size,1,none⟩=false:=fH9 HR.out _;have f2:w1.frozen? ⟨w.heap.size,2,none⟩=false:=fH9 HR.out _;have f3:w1.frozen? ⟨w.heap.size,3,none⟩=false:=fH9 HR.out _;have f4:w1.frozen? ⟨w.heap.size,4,none⟩=false:=fH9 HR.out _;have g0:w1.frozen? ⟨w.heap.size+1,0,none⟩=false:=fH9 HO.out _;have g1:w1.frozen? ⟨w.heap.size+1,1,none⟩=false:=fH9 HO.out _;have g2:w1.frozen? ⟨w.heap.size+1,2,none⟩=false:=fH9 HO.out _;have g3:w1.frozen? ⟨w.heap.size+1,3,none⟩=false:=fH9 HO.out _;have g4:w1.frozen? ⟨w.heap.size+1,4,none⟩=false:=fH9 HO.out _;clear hX hE HR HO H0 HC hb1;go_wp2_with fail;refine bodyPost_ret (v:=.tuple #[.agg #[.int .i64 7,.int .i64 0,.slice none 0 0,.string ⟨#[]⟩,.string X],.int .i64 E]) (by simp[results,Tryz.results57,go_sem,qd,World.cell?_setCell_other,r0,r1,r2,r3,r4,o0,o1,o2,o3,o4]) rfl ?_
 rw[HE.out];refine ⟨none,0,rfl,qa.nil _ ⟨none,0,rfl,nZ9 _⟩,?_⟩;exact H1.out.lay 4 _ _ _ _ _ _
set_option linter.unusedSimpArgs false in
set_option maxHeartbeats 1000000 in
theorem chgOf_8:xT 8:=by
 intro said w hE hs;have H0:Hid _:=xw.start w 8;have HE:Hid (qq 8 said=(⟨8,0,[],qc said,⟨#[]⟩⟩,0)):=by show _=_;unfold qq;rw[if_neg (by decide),if_neg (by decide),if_pos (by decide)]
 have HC:Hid _:=xD (qc said) ((w.alloc (.cells #[.int .i64 0,.int .i64 0,.slice none 0 0,.string ⟨#[]⟩,.string ⟨#[]⟩] 94)).alloc (.cells #[.int .i64 8,.int .i64 0,.slice none 0 0,.string ⟨#[]⟩,.string ⟨#[]⟩] 94)) (by rw[ql];omega)
 clear hE hs
 go_enter Tryz.func57,Tryz.ntmps57
 go_wp2_with fail;refine Calls.mono HC.out ?_;rintro e w1 ⟨rfl,hb1⟩;have H1:Hid _:=H0.out.later hb1;have HR:Hid _:=H1.out.res;have HO:Hid _:=H1.out.box;have r0:w1.cell? ⟨w.heap.size,0,none⟩=some (.int .i64 0):=by rw[cH9 HR.out];rfl
 have r1:w1.cell? ⟨w.heap.size,1,none⟩=some (.int .i64 0):=by rw[cH9 HR.out];rfl
 have r2:w1.cell? ⟨w.heap.size,2,none⟩=some (.slice none 0 0):=by rw[cH9 HR.out];rfl
 have r3:w1.cell? ⟨w.heap.size,3,none⟩=some (.string ⟨#[]⟩):=by rw[cH9 HR.out];rfl
 have r4:w1.cell? ⟨w.heap.size,4,none⟩=some (.string ⟨#[]⟩):=by rw[cH9 HR.out];rfl
 have o0:w1.cell? ⟨w.heap.size+1,0,none⟩=some (.int .i64 8):=by rw[cH9 HO.out];rfl
 have o1:w1.cell? ⟨w.heap.size+1,1,none⟩=some (.int .i64 0):=by rw[cH9 HO.out];rfl
 have o2:w1.cell? ⟨w.heap.size+1,2,none⟩=some (.slice none 0 0):=by rw[cH9 HO.out];rfl
 have o3:w1.cell? ⟨w.heap.size+1,3,none⟩=some (.string ⟨#[]⟩):=by rw[cH9 HO.out];rfl
 have o4:w1.cell? ⟨w.heap.size+1,4,none⟩=some (.string ⟨#[]⟩):=by rw[cH9 HO.out];rfl
 have f0:w1.frozen? ⟨w.heap.size,0,none⟩=false:=fH9 HR.out _;have f1:w1.frozen? ⟨w.heap.size,1,none⟩=false:=fH9 HR.out _;have f2:w1.frozen? ⟨w.heap.size,2,none⟩=false:=fH9 HR.out _;have f3:w1.frozen? ⟨w.heap.size,3,none⟩=false:=fH9 HR.out _;have f4:w1.frozen? ⟨w.heap.size,4,none⟩=false:=fH9 HR.out _;have g0:w1.frozen? ⟨w.heap.size+1,0,none⟩=false:=fH9 HO.out _;have g1:w1.frozen? ⟨w.heap.size+1,1,none⟩=false:=fH9 HO.out _;have g2:w1.frozen? ⟨w.heap.size+1,2,none⟩=false:=fH9 HO.out _;have g3:w1.frozen? ⟨w.heap.size+1,3,none⟩=false:=fH9 HO.out _;have g4:w1.frozen? ⟨w.heap.size+1,4,none⟩=false:=fH9 HO.out _;clear HR HO H0 HC hb1;go_wp2_with fail;refine bodyPost_ret (v:=.tuple #[.agg #[.int .i64 8,.int .i64 0,.slice none 0 0,.string (qc said),.string ⟨#[]⟩],.int .i64 0]) (by simp[results,Tryz.results57,go_sem,qd,World.cell?_setCell_other,r0,r1,r2,r3,r4,o0,o1,o2,o3,o4]) rfl ?_
 rw[HE.out];refine ⟨none,0,rfl,qa.nil _ ⟨none,0,rfl,nZ9 _⟩,?_⟩;exact H1.out.lay 3 _ _ _ _ _ _
set_option linter.unusedSimpArgs false in
set_option maxHeartbeats 1000000 in
theorem chgOf_10:xT 10:=by
 intro said w hE hs;have H0:Hid _:=xw.start w 10;have HE:Hid (qq 10 said=(⟨10,0,[],qc said,⟨#[]⟩⟩,0)):=by show _=_;unfold qq;rw[if_neg (by decide),if_neg (by decide),if_pos (by decide)]
 have HC:Hid _:=xD (qc said) ((w.alloc (.cells #[.int .i64 0,.int .i64 0,.slice none 0 0,.string ⟨#[]⟩,.string ⟨#[]⟩] 94)).alloc (.cells #[.int .i64 10,.int .i64 0,.slice none 0 0,.string ⟨#[]⟩,.string ⟨#[]⟩] 94)) (by rw[ql];omega)
 clear hE hs
 go_enter Tryz.func57,Tryz.ntmps57
 go_wp2_with fail;refine Calls.mono HC.out ?_;rintro e w1 ⟨rfl,hb1⟩;have H1:Hid _:=H0.out.later hb1;have HR:Hid _:=H1.out.res;have HO:Hid _:=H1.out.box;have r0:w1.cell? ⟨w.heap.size,0,none⟩=some (.int .i64 0):=by rw[cH9 HR.out];rfl
 have r1:w1.cell? ⟨w.heap.size,1,none⟩=some (.int .i64 0):=by rw[cH9 HR.out];rfl
 have r2:w1.cell? ⟨w.heap.size,2,none⟩=some (.slice none 0 0):=by rw[cH9 HR.out];rfl
 have r3:w1.cell? ⟨w.heap.size,3,none⟩=some (.string ⟨#[]⟩):=by rw[cH9 HR.out];rfl
 have r4:w1.cell? ⟨w.heap.size,4,none⟩=some (.string ⟨#[]⟩):=by rw[cH9 HR.out];rfl
 have o0:w1.cell? ⟨w.heap.size+1,0,none⟩=some (.int .i64 10):=by rw[cH9 HO.out];rfl
 have o1:w1.cell? ⟨w.heap.size+1,1,none⟩=some (.int .i64 0):=by rw[cH9 HO.out];rfl
 have o2:w1.cell? ⟨w.heap.size+1,2,none⟩=some (.slice none 0 0):=by rw[cH9 HO.out];rfl
 have o3:w1.cell? ⟨w.heap.size+1,3,none⟩=some (.string ⟨#[]⟩):=by rw[cH9 HO.out];rfl
 have o4:w1.cell? ⟨w.heap.size+1,4,none⟩=some (.string ⟨#[]⟩):=by rw[cH9 HO.out];rfl
 have f0:w1.frozen? ⟨w.heap.size,0,none⟩=false:=fH9 HR.out _;have f1:w1.frozen? ⟨w.heap.size,1,none⟩=false:=fH9 HR.out _;have f2:w1.frozen? ⟨w.heap.size,2,none⟩=false:=fH9 HR.out _;have f3:w1.frozen? ⟨w.heap.size,3,none⟩=false:=fH9 HR.out _;have f4:w1.frozen? ⟨w.heap.size,4,none⟩=false:=fH9 HR.out _;have g0:w1.frozen? ⟨w.heap.size+1,0,none⟩=false:=fH9 HO.out _;have g1:w1.frozen? ⟨w.heap.size+1,1,none⟩=false:=fH9 HO.out _;have g2:w1.frozen? ⟨w.heap.size+1,2,none⟩=false:=fH9 HO.out _;have g3:w1.frozen? ⟨w.heap.size+1,3,none⟩=false:=fH9 HO.out _;have g4:w1.frozen? ⟨w.heap.size+1,4,none⟩=false:=fH9 HO.out _;clear HR HO H0 HC hb1;go_wp2_with fail;refine bodyPost_ret (v:=.tuple #[.agg #[.int .i64 10,.int .i64 0,.slice none 0 0,.string (qc said),.string ⟨#[]⟩],.int .i64 0]) (by simp[results,Tryz.results57,go_sem,qd,World.cell?_setCell_other,r0,r1,r2,r3,r4,o0,o1,o2,o3,o4]) rfl ?_
 rw[HE.out];refine ⟨none,0,rfl,qa.nil _ ⟨none,0,rfl,nZ9 _⟩,?_⟩;exact H1.out.lay 3 _ _ _ _ _ _
set_option linter.unusedSimpArgs false in
set_option maxHeartbeats 2000000 in
theorem chgOf_9:xT 9:=by
 intro said w hE hs;have H0:Hid _:=xw.start w 9;have HE:Hid (qq 9 said=if (Lib.cut said [61]).2.2 then (⟨9,0,[],qc (Lib.cut said [61]).1,qc (zI (Lib.cut said [61]).2.1).1⟩,(zI (Lib.cut said [61]).2.1).2) else (⟨9,0,[],⟨#[]⟩,⟨#[]⟩⟩,1)):=by show _=_;unfold qq;rw[if_neg (by decide),if_neg (by decide),if_neg (by decide),if_pos rfl]
 obtain ⟨mx,hm⟩:=(hE.later H0.out.below).path.max;have HC:Hid _:=Tryz.strings_Cut (qc said) ⟨#[61]⟩ mx ((w.alloc (.cells #[.int .i64 0,.int .i64 0,.slice none 0 0,.string ⟨#[]⟩,.string ⟨#[]⟩] 94)).alloc (.cells #[.int .i64 9,.int .i64 0,.slice none 0 0,.string ⟨#[]⟩,.string ⟨#[]⟩] 94)) (by rw[ql];omega) hm
 have hsh:=jD 61 said;obtain ⟨A,B,b,hcut⟩:∃ A B b,Lib.cut said [61]=(A,B,b):=⟨_,_,_,rfl⟩;rw[xA,show (⟨#[61]⟩:ByteArray).data.toList=[61] from rfl,hcut]at HC
 rw[hcut]at HE hsh
 simp only at HE hsh
 have HEV:Hid (∀ W,Below w.heap.size w W→yU W):=fun W hW=>hE.later hW
 clear hcut hE hm;obtain ⟨X,hX⟩:∃ X,qc A=X:=⟨_,rfl⟩;obtain ⟨Y,hY⟩:∃ Y,qc B=Y:=⟨_,rfl⟩
 have HC':Hid (Calls Tryz.prog 54 #[.string (qc said),.string ⟨#[61]⟩] ((w.alloc (.cells #[.int .i64 0,.int .i64 0,.slice none 0 0,.string ⟨#[]⟩,.string ⟨#[]⟩] 94)).alloc (.cells #[.int .i64 9,.int .i64 0,.slice none 0 0,.string ⟨#[]⟩,.string ⟨#[]⟩] 94)) fun e w'=>e=.returned (.tuple #[.string X,.string Y,.bool b])∧∃ n,w'=((w.alloc (.cells #[.int .i64 0,.int .i64 0,.slice none 0 0,.string ⟨#[]⟩,.string ⟨#[]⟩] 94)).alloc (.cells #[.int .i64 9,.int .i64 0,.slice none 0 0,.string ⟨#[]⟩,.string ⟨#[]⟩] 94)).drewN n):=by
  have:=HC.out;rw[←hX,←hY];exact this
 clear HC;have hXs:X.size≤2500:=by rw[←hX,ql];omega
 cases b with
 | false =>
   simp only[Bool.false_eq_true,if_false]at HE
   clear HEV
   go_enter Tryz.func57,Tryz.ntmps57
   go_wp2_with fail;refine Calls.mono HC'.out ?_;rintro e w1 ⟨rfl,n,rfl⟩;have hb1:=zr ((w.alloc (.cells #[.int .i64 0,.int .i64 0,.slice none 0 0,.string ⟨#[]⟩,.string ⟨#[]⟩] 94)).alloc (.cells #[.int .i64 9,.int .i64 0,.slice none 0 0,.string ⟨#[]⟩,.string ⟨#[]⟩] 94)) n;have H1:Hid _:=H0.out.later hb1
   generalize ((w.alloc (.cells #[.int .i64 0,.int .i64 0,.slice none 0 0,.string ⟨#[]⟩,.string ⟨#[]⟩] 94)).alloc (.cells #[.int .i64 9,.int .i64 0,.slice none 0 0,.string ⟨#[]⟩,.string ⟨#[]⟩] 94)).drewN n=w1 at *
   have HR:Hid _:=H1.out.res;have HO:Hid _:=H1.out.box;have r0:w1.cell? ⟨w.heap.size,0,none⟩=some (.int .i64 0):=by rw[cH9 HR.out];rfl
   have r1:w1.cell? ⟨w.heap.size,1,none⟩=some (.int .i64 0):=by rw[cH9 HR.out];rfl
   have r2:w1.cell? ⟨w.heap.size,2,none⟩=some (.slice none 0 0):=by rw[cH9 HR.out];rfl
   have r3:w1.cell? ⟨w.heap.size,3,none⟩=some (.string ⟨#[]⟩):=by rw[cH9 HR.out];rfl
   have r4:w1.cell? ⟨w.heap.size,4,none⟩=some (.string ⟨#[]⟩):=by rw[cH9 HR.out];rfl
   have o0:w1.cell? ⟨w.heap.size+1,0,none⟩=some (.int .i64 9):=by rw[cH9 HO.out];rfl
   have o1:w1.cell? ⟨w.heap.size+1,1,none⟩=some (.int .i64 0):=by rw[cH9 HO.out];rfl
   have o2:w1.cell? ⟨w.heap.size+1,2,none⟩=some (.slice none 0 0):=by rw[cH9 HO.out];rfl
   have o3:w1.cell? ⟨w.heap.size+1,3,none⟩=some (.string ⟨#[]⟩):=by rw[cH9 HO.out];rfl
   have o4:w1.cell? ⟨w.heap.size+1,4,none⟩=some (.string ⟨#[]⟩):=by rw[cH9 HO.out];rfl
   have f0:w1.frozen? ⟨w.heap.size,0,none⟩=false:=fH9 HR.out _;have f1:w1.frozen? ⟨w.heap.size,1,none⟩=false:=fH9 HR.out _;have f2:w1.frozen? ⟨w.heap.size,2,none⟩=false:=fH9 HR.out _;have f3:w1.frozen? ⟨w.heap.size,3,none⟩=false:=fH9 HR.out _;have f4:w1.frozen? ⟨w.heap.size,4,none⟩=false:=fH9 HR.out _;have g0:w1.frozen? ⟨w.heap.size+1,0,none⟩=false:=fH9 HO.out _;have g1:w1.frozen? ⟨w.heap.size+1,1,none⟩=false:=fH9 HO.out _;have g2:w1.frozen? ⟨w.heap.size+1,2,none⟩=false:=fH9 HO.out _;have g3:w1.frozen? ⟨w.heap.size+1,3,none⟩=false:=fH9 HO.out _;have g4:w1.frozen? ⟨w.heap.size+1,4,none⟩=false:=fH9 HO.out _;clear HR HO H0 HC' hb1;go_wp2_with fail;refine bodyPost_ret (v:=.tuple #[.agg #[.int .i64 9,.int .i64 0,.slice none 0 0,.string ⟨#[]⟩,.string ⟨#[]⟩],.int .i64 1]) (by simp[results,Tryz.results57,go_sem,qd,World.cell?_setCell_other,r0,r1,r2,r3,r4,o0,o1,o2,o3,o4]) rfl ?_
   rw[HE.out];refine ⟨none,0,rfl,qa.nil _ ⟨none,0,rfl,nZ9 _⟩,?_⟩;exact yd (p:=0) H1.out.below (nR9 _)
 | true =>
   simp only[if_true]at HE
   rw[hX]at HE
   obtain ⟨TX,hTX⟩:∃ t,qc (zI B).1=t:=⟨_,rfl⟩;obtain ⟨TE,hTE⟩:∃ t,(zI B).2=t:=⟨_,rfl⟩;rw[hTX,hTE]at HE
   have HCL:Hid (∀ W,Calls Tryz.prog 102 #[.string X] W fun e w'=>e=.returned (.string X)∧Below W.heap.size W w'):=fun W=>xD X W (by omega)
   have HTT:Hid (∀ W,Below w.heap.size w W→Calls Tryz.prog 101 #[.string Y] W fun e w'=>e=.returned (.tuple #[.string TX,.int .i64 TE])∧Below W.heap.size W w'):=by
    intro W hW;have:=Y3 B W (HEV.out W hW).marks (by omega)
    rw[hTX,hTE,hY]at this
    exact this
   clear HEV hTX hTE hX hY
   go_enter Tryz.func57,Tryz.ntmps57
   go_wp2_with fail;refine Calls.mono HC'.out ?_;rintro e w1 ⟨rfl,n,rfl⟩;have hb1:=zr ((w.alloc (.cells #[.int .i64 0,.int .i64 0,.slice none 0 0,.string ⟨#[]⟩,.string ⟨#[]⟩] 94)).alloc (.cells #[.int .i64 9,.int .i64 0,.slice none 0 0,.string ⟨#[]⟩,.string ⟨#[]⟩] 94)) n;have H1:Hid _:=H0.out.later hb1
   generalize ((w.alloc (.cells #[.int .i64 0,.int .i64 0,.slice none 0 0,.string ⟨#[]⟩,.string ⟨#[]⟩] 94)).alloc (.cells #[.int .i64 9,.int .i64 0,.slice none 0 0,.string ⟨#[]⟩,.string ⟨#[]⟩] 94)).drewN n=w1 at *
   clear H0 HC' hb1;go_wp2_with fail;refine Calls.mono (HCL.out w1) ?_;rintro e w2 ⟨rfl,hb2⟩;have H2:Hid _:=H1.out.later hb2;have HR:Hid _:=H2.out.res;have HO:Hid _:=H2.out.box;have r0:w2.cell? ⟨w.heap.size,0,none⟩=some (.int .i64 0):=by rw[cH9 HR.out];rfl
   have r1:w2.cell? ⟨w.heap.size,1,none⟩=some (.int .i64 0):=by rw[cH9 HR.out];rfl
   have r2:w2.cell? ⟨w.heap.size,2,none⟩=some (.slice none 0 0):=by rw[cH9 HR.out];rfl
   have r3:w2.cell? ⟨w.heap.size,3,none⟩=some (.string ⟨#[]⟩):=by rw[cH9 HR.out];rfl
   have r4:w2.cell? ⟨w.heap.size,4,none⟩=some (.string ⟨#[]⟩):=by rw[cH9 HR.out];rfl
   have o0:w2.cell? ⟨w.heap.size+1,0,none⟩=some (.int .i64 9):=by rw[cH9 HO.out];rfl
   have o1:w2.cell? ⟨w.heap.size+1,1,none⟩=some (.int .i64 0):=by rw[cH9 HO.out];rfl
   have o2:w2.cell? ⟨w.heap.size+1,2,none⟩=some (.slice none 0 0):=by rw[cH9 HO.out];rfl
   have o3:w2.cell? ⟨w.heap.size+1,3,none⟩=some (.string ⟨#[]⟩):=by rw[cH9 HO.out];rfl
   have o4:w2.cell? ⟨w.heap.size+1,4,none⟩=some (.string ⟨#[]⟩):=by rw[cH9 HO.out];rfl
   have f0:w2.frozen? ⟨w.heap.size,0,none⟩=false:=fH9 HR.out _;have f1:w2.frozen? ⟨w.heap.size,1,none⟩=false:=fH9 HR.out _;have f2:w2.frozen? ⟨w.heap.size,2,none⟩=false:=fH9 HR.out _;have f3:w2.frozen? ⟨w.heap.size,3,none⟩=false:=fH9 HR.out _;have f4:w2.frozen? ⟨w.heap.size,4,none⟩=false:=fH9 HR.out _;have g0:w2.frozen? ⟨w.heap.size+1,0,none⟩=false:=fH9 HO.out _;have g1:w2.frozen? ⟨w.heap.size+1,1,none⟩=false:=fH9 HO.out _;have g2:w2.frozen? ⟨w.heap.size+1,2,none⟩=false:=fH9 HO.out _;have g3:w2.frozen? ⟨w.heap.size+1,3,none⟩=false:=fH9 HO.out _;have g4:w2.frozen? ⟨w.heap.size+1,4,none⟩=false:=fH9 HO.out _;have HO2:Hid (w2.heap[w.heap.size+1]?=_):=HO.out;have HR2:Hid ((w2.setCell ⟨w.heap.size+1,3,none⟩ (.string X)).heap[w.heap.size]?=_):=(qb (by omega)).trans HR.out
   have hB2:Below w.heap.size w (w2.setCell ⟨w.heap.size+1,3,none⟩ (.string X)):=H2.out.below.setCell (p:=⟨w.heap.size+1,3,none⟩) (by show w.heap.size≤w.heap.size+1;omega) _
   have HTT2:Hid _:=HTT.out _ hB2;clear H1 HCL HTT hb2 HR HO;go_wp2_with fail;refine Calls.mono HTT2.out ?_;rintro e w3 ⟨rfl,hb3⟩;have HR3:Hid _:=(hb3.block _ (by simpa using qe HR2.out)).trans HR2.out
   have o0':w3.cell? ⟨w.heap.size+1,0,none⟩=some (.int .i64 9):=by rw[hb3.cell (p:=⟨w.heap.size+1,0,none⟩) (by simpa using qe HO2.out)];rw[World.cell?_setCell_other _ _ _ _ (x6 (by omega))];exact o0
   have o1':w3.cell? ⟨w.heap.size+1,1,none⟩=some (.int .i64 0):=by rw[hb3.cell (p:=⟨w.heap.size+1,1,none⟩) (by simpa using qe HO2.out)];rw[World.cell?_setCell_other _ _ _ _ (x6 (by omega))];exact o1
   have o2':w3.cell? ⟨w.heap.size+1,2,none⟩=some (.slice none 0 0):=by rw[hb3.cell (p:=⟨w.heap.size+1,2,none⟩) (by simpa using qe HO2.out)];rw[World.cell?_setCell_other _ _ _ _ (x6 (by omega))];exact o2
   have o3':w3.cell? ⟨w.heap.size+1,3,none⟩=some (.string X):=by rw[hb3.cell (p:=⟨w.heap.size+1,3,none⟩) (by simpa using qe HO2.out)];exact qd (by rw[o3];rfl)
   have o4':w3.cell? ⟨w.heap.size+1,4,none⟩=some (.string ⟨#[]⟩):=by rw[hb3.cell (p:=⟨w.heap.size+1,4,none⟩) (by simpa using qe HO2.out)];rw[World.cell?_setCell_other _ _ _ _ (x6 (by omega))];exact o4
   have r0':w3.cell? ⟨w.heap.size,0,none⟩=some (.int .i64 0):=by rw[cH9 HR3.out];rfl
   have r1':w3.cell? ⟨w.heap.size,1,none⟩=some (.int .i64 0):=by rw[cH9 HR3.out];rfl
   have r2':w3.cell? ⟨w.heap.size,2,none⟩=some (.slice none 0 0):=by rw[cH9 HR3.out];rfl
   have r3':w3.cell? ⟨w.heap.size,3,none⟩=some (.string ⟨#[]⟩):=by rw[cH9 HR3.out];rfl
   have r4':w3.cell? ⟨w.heap.size,4,none⟩=some (.string ⟨#[]⟩):=by rw[cH9 HR3.out];rfl
   have f0':w3.frozen? ⟨w.heap.size,0,none⟩=false:=fH9 HR3.out _;have f1':w3.frozen? ⟨w.heap.size,1,none⟩=false:=fH9 HR3.out _;have f2':w3.frozen? ⟨w.heap.size,2,none⟩=false:=fH9 HR3.out _;have f3':w3.frozen? ⟨w.heap.size,3,none⟩=false:=fH9 HR3.out _;have f4':w3.frozen? ⟨w.heap.size,4,none⟩=false:=fH9 HR3.out _
   have g4':w3.frozen? ⟨w.heap.size+1,4,none⟩=false:=by
    have hx:w3.heap[w.heap.size+1]?=(w2.setCell ⟨w.heap.size+1,3,none⟩ (.string X)).heap[w.heap.size+1]?:=hb3.block _ (by simpa using qe HO2.out)
    have:w3.frozen? ⟨w.heap.size+1,4,none⟩=(w2.setCell ⟨w.heap.size+1,3,none⟩ (.string X)).frozen? ⟨w.heap.size+1,4,none⟩:=by simp only[World.frozen?,hx]
    rw[this,World.frozen?_setCell];exact g4
   have hL:∀ v0 v1 v2 v3 v4:Value,Below w.heap.size w (XG (w3.setCell ⟨w.heap.size+1,4,none⟩ (.string TX)) w.heap.size 0 v0 v1 v2 v3 v4):=fun v0 v1 v2 v3 v4=>H2.out.lay2 3 4 _ _ _ _ _ _ _ hb3
   have HL:Hid _:=hL;clear hL hb3 HR2 HR3 HO2 HTT2 hB2 r0 r1 r2 r3 r4 o0 o1 o2 o3 o4 f0 f1 f2 f3 f4 g0 g1 g2 g3 g4;go_wp2_with fail;refine bodyPost_ret (v:=.tuple #[.agg #[.int .i64 9,.int .i64 0,.slice none 0 0,.string X,.string TX],.int .i64 TE]) (by simp[results,Tryz.results57,go_sem,qd,World.cell?_setCell_other,r0',r1',r2',r3',r4',o0',o1',o2',o3',o4']) rfl ?_
   rw[HE.out];refine ⟨none,0,rfl,qa.nil _ ⟨none,0,rfl,nZ9 _⟩,?_⟩;exact HL.out _ _ _ _ _
theorem Xo (k:Int)(hk:1≤k∧k≤10):xT k:=by
 rcases (by omega:k=1∨k=2∨k=3∨k=4∨k=5∨k=6∨k=7∨k=8∨k=9∨k=10) with rfl|rfl|rfl|rfl|rfl|rfl|rfl|rfl|rfl|rfl
 · exact chgOf_1
 · exact chgOf_2
 · exact chgOf_3
 · exact chgOf_4
 · exact chgOf_5
 · exact chgOf_6
 · exact chgOf_7
 · exact chgOf_8
 · exact chgOf_9
 · exact chgOf_10
end
section
attribute [local go_sem] qd
def xU (s:List UInt8)(w:World)(e:Ending)(w':World):Prop :=
  ∃ a c vl, e = .returned (.tuple #[.agg #[.int .i64 (qT s).1.kind, .int .i64 0, .slice a (qT s).1.content.length c, .string (qT s).1.name, .string (qT s).1.s], vl, .int .i64 (qT s).2.2]) ∧ (qT s).1.target = 0 ∧
    qa (fun b=>w.heap.size≤b) w' 2501 (.slice a (qT s).1.content.length c) (qT s).1.content∧zJ (fun b=>w.heap.size≤b) w' vl (qT s).2.1∧Below w.heap.size w w'
theorem jf {s:List UInt8}{w w':World}{c:Int}(h:qT s=(noOp,[],c))(hb:Below w.heap.size w w'):xU s w (.returned (.tuple #[.agg #[.int .i64 0,.int .i64 0,.slice none 0 0,.string ⟨#[]⟩,.string ⟨#[]⟩],.slice none 0 0,.int .i64 c])) w':=by
 unfold xU;rw[h];exact ⟨none,0,.slice none 0 0,rfl,rfl,qa.nil _ ⟨none,0,rfl,nZ9 _⟩,⟨none,0,rfl,nR9 _,nZ9 _,fun h=>absurd rfl h⟩,hb⟩
theorem qa.wide' {S:Nat→Prop}{w:World}{n:Nat}{v:Value}{ts:List Tr}(h:qa S w n v ts):∀ (k:Nat),qa S w (n+k) v ts:=by
 intro k
 induction k with
 | zero=>exact h
 | succ k ih=>exact qa.deeper _ ih
set_option linter.unusedSimpArgs false in
set_option maxHeartbeats 2000000 in
theorem qcs (s:List UInt8)(w:World)(hE:yU w)(hs:s.length≤9223372036854775807) :
 Calls Tryz.prog 36 #[.string (qc s)] w fun e w'=>xU s w e w':=by
 have hz:=ql s;have hb0:=Below.alloc1 w (.cells #[.int .i64 0,.int .i64 0,.slice none 0 0,.string ⟨#[]⟩,.string ⟨#[]⟩] 94);have HR0:Hid _:=heap_alloc_new w (.cells #[.int .i64 0,.int .i64 0,.slice none 0 0,.string ⟨#[]⟩,.string ⟨#[]⟩] 94);have HEV:Hid (∀ W,Below w.heap.size w W→yU W):=fun W hW=>hE.later hW
 clear hE
 by_cases hlong:2500<s.length
 · have HL : Hid (qT s = (noOp, [], 1)) := by show _ = _;unfold qT;rw[if_pos hlong]
   have hli:(2500:Int)<(s.length:Int):=by omega
   clear HEV HR0
   go_enter Tryz.func36,Tryz.ntmps36
   go_wp2_with fail;refine bodyPost_ret (v:=.tuple #[.agg #[.int .i64 0,.int .i64 0,.slice none 0 0,.string ⟨#[]⟩,.string ⟨#[]⟩],.slice none 0 0,.int .i64 1]) (by simp[results,Tryz.results36,go_sem]) rfl ?_
   exact jf HL.out (Below.alloc1 w _)
 · have hli : ¬ (2500 : Int) < (s.length : Int) := by omega
   have HL:Hid (qT s=if decide (yH (q9 s)=0)||(Zg s==decide (yH (q9 s)=5)) then (noOp,[],1) else if yE (qc (zD s))≠0 then (noOp,[],yE (qc (zD s))) else if (qq (yH (q9 s)) (zR s)).2≠0 then (noOp,[],(qq (yH (q9 s)) (zR s)).2) else ((qq (yH (q9 s)) (zR s)).1,yb (qc (zD s)),0)):=by show _=_;unfold qT;rw[if_neg hlong]
   have h1:=jD 32 s;have h2:=jD 32 (zv s);have hpl:(zD s).length≤2500:=by have:=h1.2;have:=h2.1;unfold zD;unfold zv at *;omega
   have hsl:(zR s).length≤2500:=by have:=h1.2;have:=h2.2;unfold zR;unfold zv at *;omega
   have hrl:(zv s).length≤2500:=by have:=h1.2;unfold zv;omega
   have HC1:Hid (∀ W,Below w.heap.size w W→Calls Tryz.prog 54 #[.string (qc s),.string ⟨#[32]⟩] W fun e w'=>e=.returned (.tuple #[.string (qc (q9 s)),.string (qc (zv s)),.bool (Lib.cut s [32]).2.2])∧Below W.heap.size W w'):=by
    intro W hW;obtain ⟨mx,hm⟩:=(HEV.out W hW).path.max;refine (Tryz.strings_Cut (qc s) ⟨#[32]⟩ mx W (by rw[hz];omega) hm).mono ?_
    rintro e w' ⟨rfl,n,rfl⟩;exact ⟨rfl,zr _ _⟩
   have HC2:Hid (∀ W,Below w.heap.size w W→Calls Tryz.prog 54 #[.string (qc (zv s)),.string ⟨#[32]⟩] W fun e w'=>e=.returned (.tuple #[.string (qc (zD s)),.string (qc (zR s)),.bool (Zg s)])∧Below W.heap.size W w'):=by
    intro W hW;obtain ⟨mx,hm⟩:=(HEV.out W hW).path.max;refine (Tryz.strings_Cut (qc (zv s)) ⟨#[32]⟩ mx W (by rw[ql];omega) hm).mono ?_
    rintro e w' ⟨rfl,n,rfl⟩;exact ⟨rfl,zr _ _⟩
   have HK:Hid (∀ W,Below w.heap.size w W→Calls Tryz.prog 55 #[.string (qc (q9 s))] W fun e w'=>e=.returned (.int .i64 (yH (q9 s)))∧w'=W):=fun W hW=>Vt (qc (q9 s)) W (HEV.out W hW).words
   have HP:Hid (∀ W,Below w.heap.size w W→Calls Tryz.prog 56 #[.string (qc (zD s))] W fun e w'=>∃ v,e=.returned (.tuple #[v,.int .i64 (yE (qc (zD s)))])∧zJ (fun b=>W.heap.size≤b) w' v (yb (qc (zD s)))∧Below W.heap.size W w'):=fun W hW=>VI _ W (HEV.out W hW).path (by rw[ql];unfold maxLen;omega)
   have hkr:=Vu (q9 s)
   generalize (Lib.cut s [32]).2.2=ff at HC1
   generalize q9 s=wd at *
   generalize zv s=rs at *
   generalize zD s=pt at *
   generalize hsd:zR s=sd at *
   generalize Zg s=mo at *
   clear h1 h2 hsd;obtain ⟨k,hk⟩:∃ k,yH wd=k:=⟨_,rfl⟩;rw[hk]at HL HK hkr
   clear hk;obtain ⟨pe,hpe⟩:∃ e,yE (qc pt)=e:=⟨_,rfl⟩;rw[hpe]at HL HP
   clear hpe
   by_cases hk0:k=0
   · have HLL : Hid (qT s = (noOp, [], 1)) := by show _ = _;rw[HL.out, if_pos (by simp[hk0])]
     subst hk0;clear HL HEV
     go_enter Tryz.func36,Tryz.ntmps36
     go_wp2_with fail
     generalize w.alloc (.cells #[.int .i64 0,.int .i64 0,.slice none 0 0,.string ⟨#[]⟩,.string ⟨#[]⟩] 94)=W0 at *
     refine Calls.mono (HC1.out W0 hb0) ?_;rintro e w1 ⟨rfl,hb1⟩;have hB1:=hb0.trans (hb1.mono hb0.size);have HR1:Hid _:=(hb1.block _ (qe HR0.out)).trans HR0.out;clear HC1 hb1;go_wp2_with fail;refine Calls.mono (HC2.out w1 hB1) ?_;rintro e w2 ⟨rfl,hb2⟩;have hB2:=hB1.trans (hb2.mono hB1.size);have HR2:Hid _:=(hb2.block _ (qe HR1.out)).trans HR1.out;clear HC2 hb2;go_wp2_with fail;refine Calls.mono (HK.out w2 hB2) ?_;rintro e w2' ⟨rfl,rfl⟩;have r0:w2'.cell? ⟨w.heap.size,0,none⟩=some (.int .i64 0):=by rw[cH9 HR2.out];rfl
     have r1:w2'.cell? ⟨w.heap.size,1,none⟩=some (.int .i64 0):=by rw[cH9 HR2.out];rfl
     have r2:w2'.cell? ⟨w.heap.size,2,none⟩=some (.slice none 0 0):=by rw[cH9 HR2.out];rfl
     have r3:w2'.cell? ⟨w.heap.size,3,none⟩=some (.string ⟨#[]⟩):=by rw[cH9 HR2.out];rfl
     have r4:w2'.cell? ⟨w.heap.size,4,none⟩=some (.string ⟨#[]⟩):=by rw[cH9 HR2.out];rfl
     have f0:w2'.frozen? ⟨w.heap.size,0,none⟩=false:=fH9 HR2.out _;have f1:w2'.frozen? ⟨w.heap.size,1,none⟩=false:=fH9 HR2.out _;have f2:w2'.frozen? ⟨w.heap.size,2,none⟩=false:=fH9 HR2.out _;have f3:w2'.frozen? ⟨w.heap.size,3,none⟩=false:=fH9 HR2.out _;have f4:w2'.frozen? ⟨w.heap.size,4,none⟩=false:=fH9 HR2.out _;clear HR2 HR1 HR0 HK HP;go_wp2_with fail;refine bodyPost_ret (v:=.tuple #[.agg #[.int .i64 0,.int .i64 0,.slice none 0 0,.string ⟨#[]⟩,.string ⟨#[]⟩],.slice none 0 0,.int .i64 1]) (by simp[results,Tryz.results36,go_sem,qd,World.cell?_setCell_other,r0,r1,r2,r3,r4]) rfl ?_
     exact jf HLL.out (yd (p:=0) hB2 (nR9 _))
   · have hk0b : (k == 0) = false := by simpa using hk0
     by_cases hmo:(mo==decide (k=5))=true
     · have HLL : Hid (qT s = (noOp, [], 1)) := by show _ = _;rw[HL.out, if_pos (by rw[hmo];simp)]
       have hmo2:(mo==(k==5))=true:=by rw[←hmo];rfl
       clear HL HEV hmo
       go_enter Tryz.func36,Tryz.ntmps36
       go_wp2_with fail
       generalize w.alloc (.cells #[.int .i64 0,.int .i64 0,.slice none 0 0,.string ⟨#[]⟩,.string ⟨#[]⟩] 94)=W0 at *
       refine Calls.mono (HC1.out W0 hb0) ?_;rintro e w1 ⟨rfl,hb1⟩;have hB1:=hb0.trans (hb1.mono hb0.size);have HR1:Hid _:=(hb1.block _ (qe HR0.out)).trans HR0.out;clear HC1 hb1;go_wp2_with fail;refine Calls.mono (HC2.out w1 hB1) ?_;rintro e w2 ⟨rfl,hb2⟩;have hB2:=hB1.trans (hb2.mono hB1.size);have HR2:Hid _:=(hb2.block _ (qe HR1.out)).trans HR1.out;clear HC2 hb2;go_wp2_with fail;refine Calls.mono (HK.out w2 hB2) ?_;rintro e w2' ⟨rfl,rfl⟩;have r0:w2'.cell? ⟨w.heap.size,0,none⟩=some (.int .i64 0):=by rw[cH9 HR2.out];rfl
       have r1:w2'.cell? ⟨w.heap.size,1,none⟩=some (.int .i64 0):=by rw[cH9 HR2.out];rfl
       have r2:w2'.cell? ⟨w.heap.size,2,none⟩=some (.slice none 0 0):=by rw[cH9 HR2.out];rfl
       have r3:w2'.cell? ⟨w.heap.size,3,none⟩=some (.string ⟨#[]⟩):=by rw[cH9 HR2.out];rfl
       have r4:w2'.cell? ⟨w.heap.size,4,none⟩=some (.string ⟨#[]⟩):=by rw[cH9 HR2.out];rfl
       have f0:w2'.frozen? ⟨w.heap.size,0,none⟩=false:=fH9 HR2.out _;have f1:w2'.frozen? ⟨w.heap.size,1,none⟩=false:=fH9 HR2.out _;have f2:w2'.frozen? ⟨w.heap.size,2,none⟩=false:=fH9 HR2.out _;have f3:w2'.frozen? ⟨w.heap.size,3,none⟩=false:=fH9 HR2.out _;have f4:w2'.frozen? ⟨w.heap.size,4,none⟩=false:=fH9 HR2.out _;clear HR2 HR1 HR0 HK HP;go_wp2_with fail;refine bodyPost_ret (v:=.tuple #[.agg #[.int .i64 0,.int .i64 0,.slice none 0 0,.string ⟨#[]⟩,.string ⟨#[]⟩],.slice none 0 0,.int .i64 1]) (by simp[results,Tryz.results36,go_sem,qd,World.cell?_setCell_other,r0,r1,r2,r3,r4]) rfl ?_
       exact jf HLL.out (yd (p:=0) hB2 (nR9 _))
     · have hmo1 : (mo == decide (k = 5)) = false := by simpa using hmo
       have hmo2:(mo==(k==5))=false:=hmo1;have HL2:Hid (qT s=if pe≠0 then (noOp,[],pe) else if (qq k sd).2≠0 then (noOp,[],(qq k sd).2) else ((qq k sd).1,yb (qc pt),0)):=by show _=_;rw[HL.out,if_neg (by rw[hmo1];simp[hk0])]
       have HCH:Hid (∀ W,Below w.heap.size w W→Calls Tryz.prog 57 #[.int .i64 k,.string (qc sd)] W fun e w'=>∃ a c,e=.returned (.tuple #[.agg #[.int .i64 k,.int .i64 0,.slice a (qq k sd).1.content.length c,.string (qq k sd).1.name,.string (qq k sd).1.s],.int .i64 (qq k sd).2])∧qa (fun b=>W.heap.size≤b) w' (sd.length+1) (.slice a (qq k sd).1.content.length c) (qq k sd).1.content∧Below W.heap.size W w'):=fun W hW=>Xo k ⟨by omega,hkr.2⟩ sd W (HEV.out W hW) hsl
       have HKC:Hid ((qq k sd).1.kind=k∧(qq k sd).1.target=0):=by
        unfold qq
        split
        · exact ⟨rfl,rfl⟩
        · split
          · exact ⟨rfl,rfl⟩
          · split
            · exact ⟨rfl,rfl⟩
            · split
              · split<;>exact ⟨rfl,rfl⟩
              · exact ⟨rfl,rfl⟩
       clear HL HEV hmo hmo1;obtain ⟨Q,hQ⟩:∃ Q,qq k sd=Q:=⟨_,rfl⟩;rw[hQ]at HL2 HCH HKC
       clear hQ;obtain ⟨O,ce⟩:=Q;simp only at HL2 HCH HKC
       by_cases hpe:pe=0
       · subst hpe;rw[if_neg (by simp)]at HL2
         by_cases hce:ce=0
         · subst hce;rw[if_neg (by simp)]at HL2
           go_enter Tryz.func36,Tryz.ntmps36
           go_wp2_with fail
           generalize w.alloc (.cells #[.int .i64 0,.int .i64 0,.slice none 0 0,.string ⟨#[]⟩,.string ⟨#[]⟩] 94)=W0 at *
           refine Calls.mono (HC1.out W0 hb0) ?_;rintro e w1 ⟨rfl,hb1⟩;have hB1:=hb0.trans (hb1.mono hb0.size);have HR1:Hid _:=(hb1.block _ (qe HR0.out)).trans HR0.out;clear HC1 hb1;go_wp2_with fail;refine Calls.mono (HC2.out w1 hB1) ?_;rintro e w2 ⟨rfl,hb2⟩;have hB2:=hB1.trans (hb2.mono hB1.size);have HR2:Hid _:=(hb2.block _ (qe HR1.out)).trans HR1.out;clear HC2 hb2;go_wp2_with fail;refine Calls.mono (HK.out w2 hB2) ?_;rintro e w2' ⟨rfl,rfl⟩;clear HR0 HR1 HK;go_wp2_with fail;refine Calls.mono (HP.out _ hB2) ?_;rintro e w3 ⟨v3,rfl,hS3,hb3⟩;have hB3:=hB2.trans (hb3.mono hB2.size);have HR3:Hid _:=(hb3.block _ (qe HR2.out)).trans HR2.out;obtain ⟨a3,c3,rfl,_,_⟩:=hS3.shape;have HS3:Hid _:=hS3;clear hS3 hb3 HP;go_wp2_with fail;refine Calls.mono (HCH.out w3 hB3) ?_;rintro e w4 ⟨a4,c4,rfl,hT4,hb4⟩;have hb5:=Below.alloc1 w4 (.cells #[.int .i64 k,.int .i64 0,.slice a4 O.content.length c4,.string O.name,.string O.s] 94);have hb45:=hb4.trans (hb5.mono hb4.size);have hB5:=hB3.trans (hb45.mono hB3.size);have HR5:Hid _:=(hb45.block _ (qe HR3.out)).trans HR3.out;have HS5:Hid _:=zJ.later HS3.out hb45;have HT5:Hid _:=qa.later hb5 _ hT4;have HO5:Hid _:=heap_alloc_new w4 (.cells #[.int .i64 k,.int .i64 0,.slice a4 O.content.length c4,.string O.name,.string O.s] 94);have hs1:w.heap.size<w2'.heap.size:=qe HR2.out;have hs2:w.heap.size<w3.heap.size:=qe HR3.out;have r0:(w4.alloc (.cells #[.int .i64 k,.int .i64 0,.slice a4 O.content.length c4,.string O.name,.string O.s] 94)).cell? ⟨w.heap.size,0,none⟩=some (.int .i64 0):=by rw[cH9 HR5.out];rfl
           have r1:(w4.alloc (.cells #[.int .i64 k,.int .i64 0,.slice a4 O.content.length c4,.string O.name,.string O.s] 94)).cell? ⟨w.heap.size,1,none⟩=some (.int .i64 0):=by rw[cH9 HR5.out];rfl
           have r2:(w4.alloc (.cells #[.int .i64 k,.int .i64 0,.slice a4 O.content.length c4,.string O.name,.string O.s] 94)).cell? ⟨w.heap.size,2,none⟩=some (.slice none 0 0):=by rw[cH9 HR5.out];rfl
           have r3:(w4.alloc (.cells #[.int .i64 k,.int .i64 0,.slice a4 O.content.length c4,.string O.name,.string O.s] 94)).cell? ⟨w.heap.size,3,none⟩=some (.string ⟨#[]⟩):=by rw[cH9 HR5.out];rfl
           have r4:(w4.alloc (.cells #[.int .i64 k,.int .i64 0,.slice a4 O.content.length c4,.string O.name,.string O.s] 94)).cell? ⟨w.heap.size,4,none⟩=some (.string ⟨#[]⟩):=by rw[cH9 HR5.out];rfl
           have f0:(w4.alloc (.cells #[.int .i64 k,.int .i64 0,.slice a4 O.content.length c4,.string O.name,.string O.s] 94)).frozen? ⟨w.heap.size,0,none⟩=false:=fH9 HR5.out _;have f1:(w4.alloc (.cells #[.int .i64 k,.int .i64 0,.slice a4 O.content.length c4,.string O.name,.string O.s] 94)).frozen? ⟨w.heap.size,1,none⟩=false:=fH9 HR5.out _;have f2:(w4.alloc (.cells #[.int .i64 k,.int .i64 0,.slice a4 O.content.length c4,.string O.name,.string O.s] 94)).frozen? ⟨w.heap.size,2,none⟩=false:=fH9 HR5.out _;have f3:(w4.alloc (.cells #[.int .i64 k,.int .i64 0,.slice a4 O.content.length c4,.string O.name,.string O.s] 94)).frozen? ⟨w.heap.size,3,none⟩=false:=fH9 HR5.out _;have f4:(w4.alloc (.cells #[.int .i64 k,.int .i64 0,.slice a4 O.content.length c4,.string O.name,.string O.s] 94)).frozen? ⟨w.heap.size,4,none⟩=false:=fH9 HR5.out _;clear hb4 hb5 hb45 hT4 HR3 HR2 HS3 HCH;go_wp2_with fail
           generalize w4.alloc (.cells #[.int .i64 k,.int .i64 0,.slice a4 O.content.length c4,.string O.name,.string O.s] 94)=W5 at *
           refine bodyPost_ret (v:=.tuple #[.agg #[.int .i64 k,.int .i64 0,.slice a4 O.content.length c4,.string O.name,.string O.s],.slice a3 (yb (qc pt)).length c3,.int .i64 0]) (by simp[results,Tryz.results36,go_sem,qd,World.cell?_setCell_other,r0,r1,r2,r3,r4]) rfl ?_
           unfold xU;rw[HL2.out];refine ⟨a4,c4,.slice a3 (yb (qc pt)).length c3,by rw[HKC.out.1],HKC.out.2,?_,?_,yd (p:=0) hB5 (nR9 _)⟩
           · have h1 := qa.carry (w' := XG W5 w.heap.size 0 (.int .i64 k) (.int .i64 0) (.slice a4 O.content.length c4) (.string O.name) (.string O.s)) (S' := fun b => w.heap.size ≤ b) (fun b hb => ⟨by omega, yF (by omega)⟩) _ HT5.out
             have h2:=qa.wide' h1 (2501-(sd.length+1));rw[show sd.length+1+(2501-(sd.length+1))=2501 by omega]at h2
             exact h2
           · exact zJ.carry (w':=XG W5 w.heap.size 0 (.int .i64 k) (.int .i64 0) (.slice a4 O.content.length c4) (.string O.name) (.string O.s)) HS5.out (fun b hb=>⟨by omega,yF (by omega)⟩)
         · have hceb : (ce == 0) = false := by simpa using hce
           rw[if_pos (by simpa using hce)]at HL2
           go_enter Tryz.func36,Tryz.ntmps36
           go_wp2_with fail
           generalize w.alloc (.cells #[.int .i64 0,.int .i64 0,.slice none 0 0,.string ⟨#[]⟩,.string ⟨#[]⟩] 94)=W0 at *
           refine Calls.mono (HC1.out W0 hb0) ?_;rintro e w1 ⟨rfl,hb1⟩;have hB1:=hb0.trans (hb1.mono hb0.size);have HR1:Hid _:=(hb1.block _ (qe HR0.out)).trans HR0.out;clear HC1 hb1;go_wp2_with fail;refine Calls.mono (HC2.out w1 hB1) ?_;rintro e w2 ⟨rfl,hb2⟩;have hB2:=hB1.trans (hb2.mono hB1.size);have HR2:Hid _:=(hb2.block _ (qe HR1.out)).trans HR1.out;clear HC2 hb2;go_wp2_with fail;refine Calls.mono (HK.out w2 hB2) ?_;rintro e w2' ⟨rfl,rfl⟩;clear HR0 HR1 HK;go_wp2_with fail;refine Calls.mono (HP.out _ hB2) ?_;rintro e w3 ⟨v3,rfl,hS3,hb3⟩;have hB3:=hB2.trans (hb3.mono hB2.size);have HR3:Hid _:=(hb3.block _ (qe HR2.out)).trans HR2.out;obtain ⟨a3,c3,rfl,_,_⟩:=hS3.shape;clear hS3 hb3 HP;go_wp2_with fail;refine Calls.mono (HCH.out w3 hB3) ?_;rintro e w4 ⟨a4,c4,rfl,hT4,hb4⟩;have hb5:=Below.alloc1 w4 (.cells #[.int .i64 k,.int .i64 0,.slice a4 O.content.length c4,.string O.name,.string O.s] 94);have hb45:=hb4.trans (hb5.mono hb4.size);have hB5:=hB3.trans (hb45.mono hB3.size);have HR5:Hid _:=(hb45.block _ (qe HR3.out)).trans HR3.out;have r0:(w4.alloc (.cells #[.int .i64 k,.int .i64 0,.slice a4 O.content.length c4,.string O.name,.string O.s] 94)).cell? ⟨w.heap.size,0,none⟩=some (.int .i64 0):=by rw[cH9 HR5.out];rfl
           have r1:(w4.alloc (.cells #[.int .i64 k,.int .i64 0,.slice a4 O.content.length c4,.string O.name,.string O.s] 94)).cell? ⟨w.heap.size,1,none⟩=some (.int .i64 0):=by rw[cH9 HR5.out];rfl
           have r2:(w4.alloc (.cells #[.int .i64 k,.int .i64 0,.slice a4 O.content.length c4,.string O.name,.string O.s] 94)).cell? ⟨w.heap.size,2,none⟩=some (.slice none 0 0):=by rw[cH9 HR5.out];rfl
           have r3:(w4.alloc (.cells #[.int .i64 k,.int .i64 0,.slice a4 O.content.length c4,.string O.name,.string O.s] 94)).cell? ⟨w.heap.size,3,none⟩=some (.string ⟨#[]⟩):=by rw[cH9 HR5.out];rfl
           have r4:(w4.alloc (.cells #[.int .i64 k,.int .i64 0,.slice a4 O.content.length c4,.string O.name,.string O.s] 94)).cell? ⟨w.heap.size,4,none⟩=some (.string ⟨#[]⟩):=by rw[cH9 HR5.out];rfl
           have f0:(w4.alloc (.cells #[.int .i64 k,.int .i64 0,.slice a4 O.content.length c4,.string O.name,.string O.s] 94)).frozen? ⟨w.heap.size,0,none⟩=false:=fH9 HR5.out _;have f1:(w4.alloc (.cells #[.int .i64 k,.int .i64 0,.slice a4 O.content.length c4,.string O.name,.string O.s] 94)).frozen? ⟨w.heap.size,1,none⟩=false:=fH9 HR5.out _;have f2:(w4.alloc (.cells #[.int .i64 k,.int .i64 0,.slice a4 O.content.length c4,.string O.name,.string O.s] 94)).frozen? ⟨w.heap.size,2,none⟩=false:=fH9 HR5.out _;have f3:(w4.alloc (.cells #[.int .i64 k,.int .i64 0,.slice a4 O.content.length c4,.string O.name,.string O.s] 94)).frozen? ⟨w.heap.size,3,none⟩=false:=fH9 HR5.out _;have f4:(w4.alloc (.cells #[.int .i64 k,.int .i64 0,.slice a4 O.content.length c4,.string O.name,.string O.s] 94)).frozen? ⟨w.heap.size,4,none⟩=false:=fH9 HR5.out _;clear hb4 hb5 hb45 hT4 HR3 HR2 HCH;go_wp2_with fail
           generalize w4.alloc (.cells #[.int .i64 k,.int .i64 0,.slice a4 O.content.length c4,.string O.name,.string O.s] 94)=W5 at *
           refine bodyPost_ret (v:=.tuple #[.agg #[.int .i64 0,.int .i64 0,.slice none 0 0,.string ⟨#[]⟩,.string ⟨#[]⟩],.slice none 0 0,.int .i64 ce]) (by simp[results,Tryz.results36,go_sem,qd,World.cell?_setCell_other,r0,r1,r2,r3,r4]) rfl ?_
           exact jf HL2.out (yd (p:=0) hB5 (nR9 _))
       · have hpeb : (pe == 0) = false := by simpa using hpe
         rw[if_pos hpe]at HL2
         go_enter Tryz.func36,Tryz.ntmps36
         go_wp2_with fail
         generalize w.alloc (.cells #[.int .i64 0,.int .i64 0,.slice none 0 0,.string ⟨#[]⟩,.string ⟨#[]⟩] 94)=W0 at *
         refine Calls.mono (HC1.out W0 hb0) ?_;rintro e w1 ⟨rfl,hb1⟩;have hB1:=hb0.trans (hb1.mono hb0.size);have HR1:Hid _:=(hb1.block _ (qe HR0.out)).trans HR0.out;clear HC1 hb1;go_wp2_with fail;refine Calls.mono (HC2.out w1 hB1) ?_;rintro e w2 ⟨rfl,hb2⟩;have hB2:=hB1.trans (hb2.mono hB1.size);have HR2:Hid _:=(hb2.block _ (qe HR1.out)).trans HR1.out;clear HC2 hb2;go_wp2_with fail;refine Calls.mono (HK.out w2 hB2) ?_;rintro e w2' ⟨rfl,rfl⟩;clear HR0 HR1 HK HCH;go_wp2_with fail;refine Calls.mono (HP.out _ hB2) ?_;rintro e w3 ⟨v3,rfl,hS3,hb3⟩;have hB3:=hB2.trans (hb3.mono hB2.size);have HR3:Hid _:=(hb3.block _ (qe HR2.out)).trans HR2.out;obtain ⟨a3,c3,rfl,_,_⟩:=hS3.shape;have r0:w3.cell? ⟨w.heap.size,0,none⟩=some (.int .i64 0):=by rw[cH9 HR3.out];rfl
         have r1:w3.cell? ⟨w.heap.size,1,none⟩=some (.int .i64 0):=by rw[cH9 HR3.out];rfl
         have r2:w3.cell? ⟨w.heap.size,2,none⟩=some (.slice none 0 0):=by rw[cH9 HR3.out];rfl
         have r3:w3.cell? ⟨w.heap.size,3,none⟩=some (.string ⟨#[]⟩):=by rw[cH9 HR3.out];rfl
         have r4:w3.cell? ⟨w.heap.size,4,none⟩=some (.string ⟨#[]⟩):=by rw[cH9 HR3.out];rfl
         have f0:w3.frozen? ⟨w.heap.size,0,none⟩=false:=fH9 HR3.out _;have f1:w3.frozen? ⟨w.heap.size,1,none⟩=false:=fH9 HR3.out _;have f2:w3.frozen? ⟨w.heap.size,2,none⟩=false:=fH9 HR3.out _;have f3:w3.frozen? ⟨w.heap.size,3,none⟩=false:=fH9 HR3.out _;have f4:w3.frozen? ⟨w.heap.size,4,none⟩=false:=fH9 HR3.out _;clear hS3 hb3 HP HR2 HR3;go_wp2_with fail;refine bodyPost_ret (v:=.tuple #[.agg #[.int .i64 0,.int .i64 0,.slice none 0 0,.string ⟨#[]⟩,.string ⟨#[]⟩],.slice none 0 0,.int .i64 pe]) (by simp[results,Tryz.results36,go_sem,qd,World.cell?_setCell_other,r0,r1,r2,r3,r4]) rfl ?_
         exact jf HL2.out (yd (p:=0) hB3 (nR9 _))
end
end Go.Proofs.YtchkbffgancidaaGreatDoor
namespace Go.Proofs.YtchkbffgancidaaGreatDoor
open Go.ChangeShapes Go.WideShapes Go.ChangeAt Go.RowKit Go.Sort
set_option maxRecDepth 100000
structure Orw where
 kind:Int
 target:Int
 ca:Option Addr
 cl:Nat
 cc:Nat
 name:ByteArray
 s:ByteArray
instance:Inhabited Orw:=⟨⟨0,0,none,0,0,⟨#[]⟩,⟨#[]⟩⟩⟩
def Orw.vc (r:Orw):Value:=.slice r.ca r.cl r.cc
def Zy (r:Orw):List Value:=[.int .i64 r.kind,.int .i64 r.target,r.vc,.string r.name,.string r.s]
def qB (l:List Orw):List Value:=l.flatMap Zy
theorem zE (l:List Orw):(qB l).length=l.length*5:=by
 induction l with
 | nil=>rfl
 | cons r l ih=>unfold qB at ih ⊢;rw[List.flatMap_cons,List.length_append,ih,List.length_cons];show 5+_=_;omega
theorem orCells_get:∀ (l:List Orw)(i c:Nat)(r:Orw),l[i]?=some r→c<5→(qB l)[i*5+c]?=(Zy r)[c]?:=by
 intro l
 induction l with
 | nil=>intro i c r h;simp at h
 | cons a l ih =>
   intro i c r h hc;unfold qB;rw[List.flatMap_cons];cases i with
   | zero =>
     simp at h
     subst h;rw[List.getElem?_append_left (by show _<5;omega)]
     congr 1
     omega
   | succ i =>
     rw[List.getElem?_append_right (by show 5≤_;omega),show (i+1)*5+c-(Zy a).length=i*5+c from by show (i+1)*5+c-5=_;omega]
     exact ih i c r (by simpa using h) hc
def Y7 (T:Nat→Prop)(w:World)(n:Nat)(r:Orw)(x:Opn):Prop:=r.kind=x.kind∧r.target=x.target∧r.name=x.name∧r.s=x.s∧∃ ca cc,r.vc=.slice ca x.content.length cc∧qa T w n (.slice ca x.content.length cc) x.content
theorem j6.raw {S T:Nat→Prop}{w:World}{n:Nat}{ad:Addr}{m cap:Nat}{l:List Opn}(h:j6 S T w n (.slice (some ad) m cap) l):∃ rs:List Orw,rs.length=l.length∧(∀ (i:Nat) r x,rs[i]?=some r→l[i]?=some x→Y7 T w n r x)∧∀ j u,(qB rs)[j]?=some u→w.cell? (ad.add j)=some u:=by
 obtain ⟨a,cap',hv,h2,h3,h4⟩:=h
 injection hv with hv _ _
 have h4:l≠[]→∃ b o,some ad=some (⟨b,o,none⟩:Addr)∧S b∧∀ (i:Nat) (x:Opn),l[i]?=some x→∃ ca cc,
  w.cell? ⟨b,o+i*5,none⟩=some (.int .i64 x.kind)∧w.cell? ⟨b,o+i*5+1,none⟩=some (.int .i64 x.target)∧w.cell? ⟨b,o+i*5+2,none⟩=some (.slice ca x.content.length cc) ∧
  w.cell? ⟨b,o+i*5+3,none⟩=some (.string x.name)∧w.cell? ⟨b,o+i*5+4,none⟩=some (.string x.s)∧qa T w n (.slice ca x.content.length cc) x.content:=by rw[hv];exact h4
 by_cases hne:l=[]
 · subst hne;exact ⟨[],rfl,by simp,by simp[qB]⟩
 · obtain ⟨b, o, ha, hs, hc⟩ := h4 hne
   injection ha with ha
   obtain ⟨rs,hrl,hrs⟩:=J5 (p:=fun i (r:Orw)=>∀ x,l[i]?=some x→Y7 T w n r x∧w.cell? ⟨b,o+i*5,none⟩=some (.int .i64 r.kind)∧w.cell? ⟨b,o+i*5+1,none⟩=some (.int .i64 r.target)∧w.cell? ⟨b,o+i*5+2,none⟩=some r.vc∧w.cell? ⟨b,o+i*5+3,none⟩=some (.string r.name)∧w.cell? ⟨b,o+i*5+4,none⟩=some (.string r.s)) l.length (fun i hi=>by
    obtain ⟨ca,cc,c0,c1,c2,c3,c4,hT⟩:=hc i l[i] (List.getElem?_eq_getElem hi);refine ⟨⟨l[i].kind,l[i].target,ca,l[i].content.length,cc,l[i].name,l[i].s⟩,fun x hx=>?_⟩
    rw[List.getElem?_eq_getElem hi]at hx
    obtain rfl:=Option.some.inj hx;exact ⟨⟨rfl,rfl,rfl,rfl,ca,cc,rfl,hT⟩,c0,c1,c2,c3,c4⟩)
   have hget:∀ i r,rs[i]?=some r→∃ x,l[i]?=some x:=fun i r hr=>by
    have:=qh hr;exact ⟨l[i]'(by omega),List.getElem?_eq_getElem (by omega)⟩
   refine ⟨rs,hrl,fun i r x hr hx=>(hrs i r hr x hx).1,fun j u hj=>?_⟩
   have hjl:=qh hj;rw[zE]at hjl
   obtain ⟨r,hr⟩:∃ r,rs[j / 5]?=some r:=⟨rs[j / 5]'(by omega),List.getElem?_eq_getElem (by omega)⟩
   obtain ⟨x,hx⟩:=hget _ _ hr;obtain ⟨_,c0,c1,c2,c3,c4⟩:=hrs _ r hr x hx;have hcg:=orCells_get rs (j / 5) (j % 5) r hr (by omega)
   rw[show j / 5*5+j % 5=j by omega,hj]at hcg
   rw[ha,Addr.add_lit]
   rcases (by omega:j % 5=0∨j % 5=1∨j % 5=2∨j % 5=3∨j % 5=4) with e|e|e|e|e
   · rw[e]at hcg;rw[show o+j=o+j / 5*5 by omega,c0];exact hcg.symm
   · rw[e]at hcg;rw[show o+j=o+j / 5*5+1 by omega,c1];exact hcg.symm
   · rw[e]at hcg;rw[show o+j=o+j / 5*5+2 by omega,c2];exact hcg.symm
   · rw[e]at hcg;rw[show o+j=o+j / 5*5+3 by omega,c3];exact hcg.symm
   · rw[e]at hcg;rw[show o+j=o+j / 5*5+4 by omega,c4];exact hcg.symm
theorem KI {T:Nat→Prop}{B:Nat}{w:World}{n:Nat}{v:Value}{l:List Opn}{rs:List Orw}(h:w.ownsRow B 94 5 v l.length (qB rs))(hl:rs.length=l.length)(hr:∀ (i:Nat) r x,rs[i]?=some r→l[i]?=some x→Y7 T w n r x):j6 (fun b=>v.ownBlock=some b) T w n v l:=by
 have h0:=h
 rcases h.2 with ⟨rfl,hz⟩|⟨g,cap,cur,rfl,hB,hg,hc,hm,hs,ht⟩
 · have : l = [] := List.eq_nil_of_length_eq_zero hz;subst this;exact ⟨none,0,rfl,nR9 _,nZ9 _,fun hne=>absurd rfl hne⟩
 · refine ⟨_, cap, rfl, hc, hm, fun _ => ⟨g, 0, rfl, rfl, fun i x hx => ?_⟩⟩
   have hi:=qh hx;obtain ⟨r,hri⟩:∃ r,rs[i]?=some r:=⟨rs[i]'(by omega),List.getElem?_eq_getElem (by omega)⟩
   obtain ⟨e1,e2,e3,e4,ca,cc,e5,hT⟩:=hr i r x hri hx
   have cell:∀ c,c<5→w.cell? ⟨g,i*5+c,none⟩=(Zy r)[c]?:=fun c hc=>by
    rw[World.ownsRow.cellAt h0 (i*5+c) (by omega)]
    exact orCells_get rs i c r hri hc
   refine ⟨ca,cc,?_,?_,?_,?_,?_,hT⟩
   · rw[Nat.zero_add,←e1];exact cell 0 (by omega)
   · rw[Nat.zero_add,←e2];exact cell 1 (by omega)
   · rw[Nat.zero_add,←e5];exact cell 2 (by omega)
   · rw[Nat.zero_add,←e3];exact cell 3 (by omega)
   · rw[Nat.zero_add,←e4];exact cell 4 (by omega)
theorem opInfo:(Tryz.prog.info? 94).map (fun i=>(i.zero,i.size,i.bytes))=some (some (.agg #[.int .i64 0,.int .i64 0,.slice none 0 0,.string ⟨#[]⟩,.string ⟨#[]⟩]),5,72):=by kernel_rfl
theorem opAgg:∀ w,(isAgg 94).run Tryz.prog w=.ok true w:=fun _=>by rfl
theorem opSize:∀ w,(Go.sizeOf 94).run Tryz.prog w=.ok 5 w:=fun _=>by rfl
theorem Yv (r:Orw):∀ u∈Zy r,u.oneCell'=true:=by
 intro u hu;simp[Zy]at hu
 rcases hu with rfl|rfl|rfl|rfl|rfl<;>rfl
theorem Vf (S T:Nat→Prop)(n:Nat)(v:Value)(l:List Opn)(w:World)(h:j6 S T w n v l)(hl:l.length≤1048576) :
 Calls Tryz.prog 64 #[v] w fun e w'=>∃ v' rs,e=.returned v'∧w'.ownsRow w.heap.size 94 5 v' l.length (qB rs)∧rs.length=l.length∧(∀ (i:Nat) r x,rs[i]?=some r→l[i]?=some x→Y7 T w n r x)∧Below w.heap.size w w':=by
 have h0:=h;obtain ⟨a,cap,rfl,h2,h3,h4⟩:=h;obtain ⟨i0,hi,hz0,hz1,hz2⟩:=info_parts opInfo;have q27:∀ (w:World) (a:Option Addr) (n c n' c':Nat),(binOp .eql 70 (.slice a n c) (.slice none n' c')).run Tryz.prog w=.ok (.bool a.isNone) w:=fun w a n c n' c'=>Lib.run_eql_slice_nil w _ _ a n c n' c' Tryz.underlying70
 cases a with
 | none =>
   have hn:l=[]:=by
    apply Classical.byContradiction;intro hne
    obtain ⟨b,o,ha,_⟩:=h4 hne;cases ha
   subst hn
   go_enter Tryz.func64,Tryz.ntmps64
   go_wp2;go_ret;exact ⟨_,[],rfl,World.ownsRow_nil _ _ _ _,rfl,by simp,Below.refl _ _⟩
 | some ad =>
   obtain ⟨rs,hrl,hrr,hcells⟩:=h0.raw;have A:Hid (∀ j u,(qB rs)[j]?=some u→w.cell? (ad.add j)=some u):=hcells
   have H1:Hid (∀ u∈qB rs,u.oneCell'=true):=by
    intro u hu;obtain ⟨r,hr,hu⟩:=List.mem_flatMap.1 hu;exact Yv r u hu
   have HR:Hid _:=hrr;have hcl:=zE rs;clear hcells h4 h0 hrr
   go_enter Tryz.func64,Tryz.ntmps64
   go_wp2_with (at_builtin;refine wpList_append_own _ rfl _ _ 70 rfl w.heap.size 94 i0 _ 5 72 Tryz.underlying70 hi hz0 hz1 hz2 rfl (by decide) _ _ _ rfl (World.ownsRow_made w #[] 0 (nR9 _) (nZ9 _) (by simp)) ad l.length cap (qB rs) rfl ?qc1 ?qc2 ?qc3 ?qc4 ?qc5 ?qc6 ?_)
   case qc1 => omega
   case qc2 =>
    intro j u hj;exact Lib.cell?_alloc_some _ (A.out j u hj)
   case qc3 => exact H1.out
   case qc4 => unfold maxLen;omega
   case qc5 => omega
   case qc6 => simp
   intro v' w1 hown hgrow hnil;go_wp2;go_ret;refine ⟨v',rs,rfl,by simpa using hown,hrl,HR.out,?_⟩
   exact ((Below.refl _ w).alloc (nR9 _) _).grown hgrow (by simp) (by intro k hk;simp[Value.ownBlock]at hk;omega)
theorem qd7 (rs:List Orw):(flatK Zy 5 rs.toArray).toList=qB rs:=by
 apply List.ext_getElem?
 intro j
 by_cases hj:j<rs.length*5
 · obtain ⟨r, hr⟩ : ∃ r, rs[j / 5]? = some r := ⟨rs[j / 5]'(by omega), List.getElem?_eq_getElem (by omega)⟩
   have hg:=orCells_get rs (j / 5) (j % 5) r hr (by omega)
   rw[show j / 5*5+j % 5=j by omega]at hg
   rw[hg,Array.getElem?_toList,Array.getElem?_eq_getElem (by simpa using hj)]
   have h2:=get_flatK Zy 5 rs.toArray j (by simpa using hj)
   rw[getElem!_pos _ j (by simpa using hj)]at h2
   rw[h2,getElem!_pos _ (j / 5) (by simp;omega)]
   have he:rs.toArray[j / 5]'(by simp;omega)=r:=by
    rw[List.getElem?_eq_getElem (by omega)]at hr
    simpa using Option.some.inj hr
   rw[he,getElem!_pos _ (j % 5) (by show _<5;omega),List.getElem?_eq_getElem]
 · rw[List.getElem?_eq_none (by simpa using hj),List.getElem?_eq_none (by rw[zE];omega)]
theorem XM (B:Nat)(v:Value)(rs:List Orw)(w:World)(h:w.ownsRow B 94 5 v rs.length (qB rs))(hl:rs.length≤1048576) :
 Calls Tryz.prog 65 #[v] w fun e w'=>e=.returned (.tuple #[])∧w'.ownsRow B 94 5 v rs.length (qB rs.reverse)∧Below 0 w w'∧∀ b,v.ownBlock≠some b→w'.heap[b]?=w.heap[b]?:=by
 have h0:=h
 rcases h.2 with ⟨rfl,hz⟩|⟨g,cap,cur,rfl,hB,hg,hc,hm,hs,ht⟩
 · have : rs = [] := List.eq_nil_of_length_eq_zero hz;subst this;refine Calls.mono (AnyQ.slices_Reverse_empty Tryz.revO none 0 w) ?_;rintro e w' ⟨rfl,rfl⟩;exact ⟨rfl,h0,Below.refl _ _,fun _ _=>rfl⟩
 · have hH:HoldsK Zy 5 w g 0 rs.toArray:=by
    intro j hj;have hj2:j<rs.length*5:=by simpa using hj
    refine ⟨?_,fH9 hg _⟩;rw[Nat.zero_add,World.ownsRow.cellAt h0 j (by omega),←qd7 rs,Array.getElem?_toList,Array.getElem?_eq_getElem (by simpa using hj),getElem!_pos _ j (by simpa using hj)]
    rfl
   have hcon:=AnyQ.slices_Reverse Tryz.revO 5 opAgg opSize Zy (fun _=>rfl) Yv g 0 cap rs.toArray w hH (by simp;omega)
   rw[show rs.toArray.size=rs.length from by simp]at hcon
   refine Calls.mono hcon ?_;rintro e w' ⟨rfl,q,rfl⟩;have hrev:rs.toArray.reverse=rs.reverse.toArray:=by simp
   rw[hrev];have hlt:=qe hg
   have hheap:(putRowK Zy 5 (Sort.ahead w q) g 0 rs.reverse.toArray).heap[g]?=some (.cells (putCells id 0 (flatK Zy 5 rs.reverse.toArray) cur) 94 (0,0)):=by
    simp[putRowK,putRow,mapBlock,Sort.ahead,Array.getElem?_modify,hg,onCells]
   have hother:∀ b,b≠g→(putRowK Zy 5 (Sort.ahead w q) g 0 rs.reverse.toArray).heap[b]?=w.heap[b]?:=by
    intro b hne;have:¬ g=b:=fun e=>hne e.symm
    simp[putRowK,putRow,mapBlock,Sort.ahead,Array.getElem?_modify,this]
   refine ⟨rfl,⟨by rw[zE,List.length_reverse],Or.inr ⟨g,cap,_,rfl,hB,hheap,hc,hm,by simp[putCells,hs],?_⟩⟩,⟨rfl,rfl,rfl,?_,fun b hb=>by omega⟩,fun b hb=>hother b (fun e=>hb (by rw[e];rfl))⟩
   · apply List.ext_getElem?
     intro j
     by_cases hj:j<rs.length*5
     · have hjc : j < cur.size := by have : rs.length * 5 ≤ cap * 5 := Nat.mul_le_mul_right _ hc;omega
       rw[List.getElem?_take_of_lt hj,←qd7 rs.reverse,Array.getElem?_toList,Array.getElem?_toList];simp[putCells,hjc,hj]
     · rw[List.getElem?_take_eq_none (by omega),List.getElem?_eq_none (by rw[zE,List.length_reverse];omega)]
   · simp[putRowK,putRow,mapBlock,Sort.ahead]
end Go.Proofs.YtchkbffgancidaaGreatDoor
namespace Go.Proofs.YtchkbffgancidaaGreatDoor
open Go.ChangeShapes Go.WideShapes Go.ChangeAt Go.RowKit
set_option maxRecDepth 100000
section
attribute [local go_sem] qd
theorem Kj {k:Int}{σ:Nat→Sg}{l:List Opn}{i:Nat}{o:Opn}(h:l[i]?=some o):doF k σ (l.take (i+1))=if o.kind=k then upd (doF k σ (l.take i)) o.target.toNat (gOf k o) else doF k σ (l.take i):=by
 have hs:l.take (i+1)=l.take i++[o]:=by
  rw[List.take_succ_eq_append_getElem (qh h)]
  congr 2
  rw[List.getElem?_eq_getElem (qh h)]at h
  exact Option.some.inj h
 unfold doF;rw[hs,List.foldl_append];rfl
theorem qaT {l:List Opn}{i:Nat}{o:Opn}(h:l[i]?=some o):l.drop i=o::l.drop (i+1):=by
 rw[←List.getElem_cons_drop (qh h)];rw[List.getElem?_eq_getElem (qh h)]at h
 rw[Option.some.inj h]
structure Ph (B:Nat) (T:Nat→Prop) (ns0:List Nd) (bb:Nat) (w:World) (v:Value) (ms:List Rw) (Q:List Opn→(Nat→Sg)→Prop) (σ:Nat→Sg) (ns:List Nd) (m:Nat) (w':World):Prop where
 did:Did B T ns0.length bb w w' v ms ns
 bch:Bch ns0 σ ns
 q:Q [] σ
 bnd:Bnd m ns
theorem qbj {B:Nat}{T:Nat→Prop}{bb:Nat}{ns0:List Nd}(hg:qr ns0=true)(fm:Nat)(k:Int)(hk:1≤k∧k≤10)(eg:∀ args w,(callFunc fm args).run Tryz.prog w=.ok (.enter fm args) w)(Q:List Opn→(Nat→Sg)→Prop)
 (hQ:∀ o rest σ,Q (o::rest) σ→(o.kind=k→Q rest (upd σ o.target.toNat (gOf k o)))∧(o.kind≠k→Q rest σ))
 (hB:∀ o rest σ,o.kind=k→Q (o::rest) σ→(k≤6→∀ n,(σ n).val=none)∧(k=3∨k=4∨k=6→(σ o.target.toNat).gone=false))
 (hM:∀ σ ns m o rest n x y,o.kind=k→Rdy ns0 ns σ m o n x y→Q (o::rest) σ→yT B T ns0.length bb 8 fm k ns o∧Bnd (m+81) (qI 8 k ns o))
 (Sr:Nat→Prop) (vl v:Value) (l:List Opn) (ns:List Nd) (ms:List Rw) (w:World) (σ:Nat→Sg) (m:Nat) (hw:∀ o∈l,qP ns0 o=0) (hX:Bx B T ns0.length bb w v ns ms) (hl:j6 Sr T w (8+1) vl l) (hSr:∀ b,Sr b→b<w.heap.size∧b≠bb∧¬ Tch ns0.length v ms b)
 (hb:Bch ns0 σ ns) (hq:Q l σ) (hbn:Bnd m ns) (lo:80≤m) (hi:m+81*l.length≤1000000) :
 Calls Tryz.prog 66 #[vl,.int .i64 k,.func (.func fm) #[.pointer (some ⟨bb,0,none⟩)] #[]] w fun e w'=>e=.returned (.tuple #[])∧Ph B T ns0 bb w v ms Q (doF k σ l) (doN 8 k ns l) (m+81*l.length) w':=by
 refine (Vj B T ns0.length bb 8 fm k eg Sr vl v l ns ms w hX hl hSr (fun i ns'=>Bch ns0 (doF k σ (l.take i)) ns'∧Q (l.drop i) (doF k σ (l.take i))∧Bnd (m+81*i) ns') ⟨hb,hq,hbn⟩ ?_).mono ?_
 · rintro i o ns' ho ⟨h1, h2, h3⟩;have hil:=qh ho;rw[qaT ho]at h2
   obtain ⟨q1,q2⟩:=hQ o _ _ h2;refine ⟨fun hok=>?_,fun hok=>?_⟩
   · have hwo := hw o (List.mem_of_getElem? ho);obtain ⟨hv,hgo⟩:=hB o _ _ hok h2;obtain ⟨n,x,y,hR⟩:=qer hg h1 hwo h3 (by omega) (by omega)
     obtain ⟨m1,m2⟩:=hM _ _ _ o _ n x y hok hR h2;refine ⟨m1,?_⟩;have hst:=h1.step hg (QB hwo).1 (by rw[hok];exact hk) (fun h=>hv (by rw[←hok];exact h)) (fun h=>hgo (by rw[←hok];exact h))
     rw[hok]at hst
     rw[Kj ho,if_pos hok];exact ⟨hst,q1 hok,by rw[show m+81*(i+1)=m+81*i+81 by omega];exact m2⟩
   · rw[Kj ho, if_neg hok];exact ⟨h1,q2 hok,h3.more (by omega)⟩
 · rintro e w' ⟨rfl, hD, h1, h2, h3⟩;rw[List.take_length]at h1 h2
   rw[List.drop_length]at h2
   exact ⟨rfl,hD,h1,h2,h3⟩
def Q1 (_:List Opn)(σ:Nat→Sg):Prop:=∀ n,(σ n).val=none∧(σ n).gone=false∧UpA (σ n).attrs
def Q5 (_:List Opn)(σ:Nat→Sg):Prop:=∀ n,(σ n).val=none
def Q7 (_:List Opn)(_:Nat→Sg):Prop:=True
def Q6 (rest:List Opn)(σ:Nat→Sg):Prop:=(∀ n,(σ n).val=none)∧(∀ o∈rest,o.kind=6→(σ o.target.toNat).gone=false)∧rest.Pairwise (fun a b=>agB a b=false)∧∀ o∈rest,0≤o.target
theorem xL {k:Int}(hk:k=8∨k=9∨k=10∨k=3∨k=2∨k=1∨k=4):∀ o rest σ,Q1 (o::rest) σ→(o.kind=k→Q1 rest (upd σ o.target.toNat (gOf k o)))∧(o.kind≠k→Q1 rest σ):=by
 intro o rest σ h;refine ⟨fun _ n=>?_,fun _=>h⟩
 unfold upd
 split
 · obtain ⟨h1, h2, h3⟩ := h n
   rcases hk with rfl|rfl|rfl|rfl|rfl|rfl|rfl
   · exact ⟨h1,h2,h3⟩
   · exact ⟨h1,h2,qeu h3 _ _⟩
   · exact ⟨h1,h2,qet h3 _⟩
   · exact ⟨h1,h2,h3⟩
   · exact ⟨h1,h2,h3⟩
   · exact ⟨h1,h2,h3⟩
   · exact ⟨h1,h2,h3⟩
 · exact h n
theorem VM {k:Int}:∀ o rest σ,o.kind=k→Q1 (o::rest) σ→(k≤6→∀ n,(σ n).val=none)∧(k=3∨k=4∨k=6→(σ o.target.toNat).gone=false):=fun _ _ _ _ h=>⟨fun _ n=>(h n).1,fun _=>(h _).2.1⟩
theorem q6_step:∀ o rest σ,Q6 (o::rest) σ→(o.kind=6→Q6 rest (upd σ o.target.toNat (gOf 6 o)))∧(o.kind≠6→Q6 rest σ):=by
 rintro o rest σ ⟨h1,h2,h3,h4⟩;rw[List.pairwise_cons]at h3
 refine ⟨fun hk=>⟨fun n=>?_,fun p hp hp6=>?_,h3.2,fun p hp=>h4 p (List.mem_cons_of_mem _ hp)⟩,fun _=>⟨h1,fun p hp=>h2 p (List.mem_cons_of_mem _ hp),h3.2,fun p hp=>h4 p (List.mem_cons_of_mem _ hp)⟩⟩
 · unfold upd
   split
   · exact h1 n
   · exact h1 n
 · have hne:p.target.toNat≠o.target.toNat:=by
    intro e;have e2:o.target=p.target:=by have:=h4 o List.mem_cons_self;have:=h4 p (List.mem_cons_of_mem _ hp);omega
    have:=h3.1 p hp;unfold agB at this
    simp[e2,hk,hp6]at this
   rw[q7 _ hne];exact h2 p (List.mem_cons_of_mem _ hp) hp6
theorem qdQ {k:Int}(hk:k=5):∀ o rest σ,Q5 (o::rest) σ→(o.kind=k→Q5 rest (upd σ o.target.toNat (gOf k o)))∧(o.kind≠k→Q5 rest σ):=by
 subst hk;intro o rest σ h;refine ⟨fun _ n=>?_,fun _=>h⟩
 unfold upd
 split
 · exact h n
 · exact h n
theorem qdi {ns:List Nd}(hg:qr ns=true){n:Nat}{x:Nd}(hx:ns[n]?=some x):UpA x.attrs:=by
 obtain ⟨d,T,u,fs,hz⟩:=Ya hg (qh hx);obtain ⟨x',hx',e1,_,e3⟩:=hz.get;rw[hx]at hx'
 obtain rfl:=Option.some.inj hx';rw[e3];have hr:=hz.right;cases ht:u.text with
 | true =>
   unfold qw at hr
   rw[ht]at hr
   simp at hr
   rw[hr.1.2];exact List.Pairwise.nil
 | false=>exact qb0 (jg hr ht).2
theorem qcJ {ns:List Nd}(hg:qr ns=true)(l:List Opn):Q1 l (zF ns):=by
 intro n;unfold zF
 split
 · rename_i x hx
   exact ⟨rfl,rfl,qdi hg hx⟩
 · exact ⟨rfl,rfl,List.Pairwise.nil⟩
theorem jA {ns:List Nd}(hg:qr ns=true):Bnd 80 ns:=by
 have h80:=Qb hg;refine ⟨h80,fun y hy=>?_⟩
 obtain ⟨n,hn⟩:=List.mem_iff_getElem?.1 hy;obtain ⟨d,T,u,fs,hz⟩:=Ya hg (qh hn);obtain ⟨x',hx',e1,_,e3⟩:=hz.get;rw[hn]at hx'
 obtain rfl:=Option.some.inj hx';have hr:=hz.right
 constructor
 · obtain ⟨e, par, h1, h2⟩ := hz.node;have h3:=h2 0 _ (by rw[jE h1];rfl)
   rw[Nat.add_zero,hn]at h3
   rw[Option.some.inj h3]
   show (qi _ _ _).length≤80
   rw[yD];have h4:=Seg.in h2 (by rw[layF_length e u par n h1];exact qag e u)
   rw[layF_length e u par n h1,qv]at h4
   have h5:=Deep.len h1;omega
 · rw[e3];cases ht:u.text with
   | true =>
     unfold qw at hr
     rw[ht]at hr
     simp at hr
     rw[hr.1.2];exact nZ9 _
   | false =>
     have:=(jg hr ht).2;simp only[yq,Bool.and_eq_true,decide_eq_true_eq]at this
     omega
theorem Rdy.nz {ns0 ns:List Nd}{σ:Nat→Sg}{m n:Nat}{o:Opn}{x y:Nd}(h:Rdy ns0 ns σ m o n x y)(hk:o.kind=3∨o.kind=4∨o.kind=5∨o.kind=6):n≠0:=by
 have:=(QB h.wrong).1.root hk;rw[h.nat]at this
 exact this
theorem zA {B:Nat}{T:Nat→Prop}{bb:Nat}{ns0:List Nd}(hg:qr ns0=true)(fm:Nat)(k:Int)(hk:1≤k∧k≤10)(eg:∀ args w,(callFunc fm args).run Tryz.prog w=.ok (.enter fm args) w)(Q Q0:List Opn→(Nat→Sg)→Prop)
 (hQ:∀ o rest σ,Q (o::rest) σ→(o.kind=k→Q rest (upd σ o.target.toNat (gOf k o)))∧(o.kind≠k→Q rest σ))
 (hB:∀ o rest σ,o.kind=k→Q (o::rest) σ→(k≤6→∀ n,(σ n).val=none)∧(k=3∨k=4∨k=6→(σ o.target.toNat).gone=false))
 (hM:∀ σ ns m o rest n x y,o.kind=k→Rdy ns0 ns σ m o n x y→Q (o::rest) σ→yT B T ns0.length bb 8 fm k ns o∧Bnd (m+81) (qI 8 k ns o))
 (Sr:Nat→Prop) (vl v:Value) (l:List Opn) (ns2 ns:List Nd) (ms:List Rw) (w2 W:World) (σ:Nat→Sg) (m m':Nat) (hw:∀ o∈l,qP ns0 o=0) (hX:Bx B T ns0.length bb w2 v ns2 ms) (hl:j6 Sr T w2 (8+1) vl l) (hSr:∀ b,Sr b→b<w2.heap.size∧b≠bb∧¬ Tch ns0.length v ms b)
 (hP:Ph B T ns0 bb w2 v ms Q0 σ ns m W) (hq:Q0 [] σ→Q l σ) (lo:80≤m) (hi:m+81*l.length≤1000000) (hm:m+81*l.length≤m') :
 Calls Tryz.prog 66 #[vl,.int .i64 k,.func (.func fm) #[.pointer (some ⟨bb,0,none⟩)] #[]] W fun e w'=>e=.returned (.tuple #[])∧Ph B T ns0 bb w2 v ms Q (doF k σ l) (doN 8 k ns l) m' w':=by
 obtain ⟨⟨v',ms',g1,g2⟩,h2,h3,h4⟩:=hP;refine (qbj hg fm k hk eg Q hQ hB hM Sr vl v' l ns ms' W σ m hw g1 (hl.carry (fun b hb=>g2.keep b (hSr b hb).1 (hSr b hb).2.1 (hSr b hb).2.2) (fun b hb=>g2.low hX.2.2 hX.2.1 b (hX.2.2.low b hb))) (fun b hb=>?_) h2 (hq h3) h4 lo hi).mono ?_
 · obtain ⟨q1, q2, q3⟩ := hSr b hb;refine ⟨Nat.lt_of_lt_of_le q1 g2.below.size,q2,fun ht=>?_⟩
   rcases g2.new b ht with h|h
   · exact q3 h
   · omega
 · rintro e w' ⟨rfl, ⟨v'', ms'', f1, f2⟩, f3, f4, f5⟩;exact ⟨rfl,⟨v'',ms'',f1,g2.trans f2⟩,f3,f4,f5.more hm⟩
theorem qdR {l:List Opn}{σ:Nat→Sg}(hpw:l.Pairwise (fun a b=>agB a b=false))(hpos:∀ o∈l,0≤o.target)(h:Q1 [] σ):Q6 l σ:=⟨fun n=>(h n).1,fun _ _ _=>(h _).2.1,hpw,hpos⟩
set_option maxHeartbeats 2000000 in
theorem qaS (B:Nat)(T:Nat→Prop)(bb:Nat)(vl v:Value)(l:List Opn)(ns0:List Nd)(ms:List Rw)(w:World)(hX:Bx B T ns0.length bb w v ns0 ms)(hl:j6 T T w (8+1) vl l)(hc:zi ns0 l=0) :
 Calls Tryz.prog 41 #[.pointer (some ⟨bb,0,none⟩),vl] w fun e w'=>e=.returned (.tuple #[])∧Did B T ns0.length bb w w' v ms (QL 8 ns0 l)∧Bnd 20000 (QL 8 ns0 l)∧Bch ns0 (xu ns0 l) (QL 8 ns0 l):=by
 obtain ⟨hg,hlen,hw,hpw⟩:=(jG _ _).1 hc;have hrev:∀ o∈l.reverse,qP ns0 o=0:=fun o ho=>hw o (List.mem_reverse.1 ho)
 have hpos:∀ o∈l,0≤o.target:=fun o ho=>(QB (hw o ho)).1.pos
 have hrl:l.reverse.length≤20:=by rw[List.length_reverse];exact hlen
 have hroot:∀ o∈l,o.kind=3∨o.kind=4∨o.kind=5∨o.kind=6→o.target.toNat≠0:=fun o ho h=>(QB (hw o ho)).1.root h
 have HCL:Hid _:=Vf T T (8+1) vl l w hl (by omega)
 obtain ⟨a,cap,rfl,_,_,_⟩:=id hl;have HX:Hid (Bx B T ns0.length bb w v ns0 ms):=hX;have HL:Hid (j6 T T w (8+1) (.slice a l.length cap) l):=hl;have eg8:∀ args w,(callFunc 67 args).run Tryz.prog w=.ok (.enter 67 args) w:=enters_of Tryz.func67 (by kernel_rfl) rfl
 have eg9:∀ args w,(callFunc 68 args).run Tryz.prog w=.ok (.enter 68 args) w:=enters_of Tryz.func68 (by kernel_rfl) rfl
 have eg10:∀ args w,(callFunc 69 args).run Tryz.prog w=.ok (.enter 69 args) w:=enters_of Tryz.func69 (by kernel_rfl) rfl
 have eg3:∀ args w,(callFunc 70 args).run Tryz.prog w=.ok (.enter 70 args) w:=enters_of Tryz.func70 (by kernel_rfl) rfl
 have eg2:∀ args w,(callFunc 71 args).run Tryz.prog w=.ok (.enter 71 args) w:=enters_of Tryz.func71 (by kernel_rfl) rfl
 have eg1:∀ args w,(callFunc 72 args).run Tryz.prog w=.ok (.enter 72 args) w:=enters_of Tryz.func72 (by kernel_rfl) rfl
 have eg4:∀ args w,(callFunc 73 args).run Tryz.prog w=.ok (.enter 73 args) w:=enters_of Tryz.func73 (by kernel_rfl) rfl
 have eg6:∀ args w,(callFunc 74 args).run Tryz.prog w=.ok (.enter 74 args) w:=enters_of Tryz.func74 (by kernel_rfl) rfl
 have eg5:∀ args w,(callFunc 75 args).run Tryz.prog w=.ok (.enter 75 args) w:=enters_of Tryz.func75 (by kernel_rfl) rfl
 have eg7:∀ args w,(callFunc 76 args).run Tryz.prog w=.ok (.enter 76 args) w:=enters_of Tryz.func76 (by kernel_rfl) rfl
 have hXs:=hX.2.2;clear hX hl
 go_enter Tryz.func41,Tryz.ntmps41
 go_wp2_with fail;refine (Calls.mono HCL.out ?_);rintro e w1 ⟨v1,rs,rfl,hown1,hrsl,hraw,hb1⟩;have HO1:Hid _:=hown1;rw[←hrsl]at hown1
 have HRV:Hid _:=XM w.heap.size v1 rs w1 hown1 (by omega)
 have HRAW:Hid _:=hraw;obtain ⟨a1,n1,c1,rfl⟩:=qJ hown1;clear hown1 hraw HCL;go_wp2_with fail;refine (Calls.mono HRV.out ?_);rintro e w2 ⟨rfl,hown2,hb2,hk2⟩
 have hlow:∀ b,b<w.heap.size→w2.heap[b]?=w.heap[b]?:=fun b hb=>by
  rw[hk2 b (fun e=>by have:=(hown2.lt b e).1;omega),hb1.block b hb]
 have hX2:Bx B T ns0.length bb w2 v ns0 ms:=by
  have hsz:w.heap.size≤w2.heap.size:=Nat.le_trans hb1.size hb2.size;exact ⟨by rw[hlow bb (qe HX.out.1)];exact HX.out.1,HX.out.2.1,HX.out.2.2.keepT hsz (fun b hb=>hlow b (Nat.lt_of_lt_of_le hb HX.out.2.2.le)) (fun b ht=>hlow b (Tch.lt HX.out.2.2 ht).2)⟩
 have hB2:Below w.heap.size w w2:=⟨hb2.os.trans hb1.os,hb2.tape.trans hb1.tape,hb2.output.trans hb1.output,Nat.le_trans hb1.size hb2.size,hlow⟩;have hl2:j6 T T w2 (8+1) (.slice a l.length cap) l:=HL.out.carry (fun b hb=>hlow b (Nat.lt_of_lt_of_le (HX.out.2.2.low b hb) HX.out.2.2.le)) (fun b hb=>hlow b (Nat.lt_of_lt_of_le (HX.out.2.2.low b hb) HX.out.2.2.le))
 have hrv2:j6 (fun b=>(Value.slice a1 n1 c1).ownBlock=some b) T w2 (8+1) (.slice a1 n1 c1) l.reverse:=by
  refine KI (B:=w.heap.size) (rs:=rs.reverse) ?_ (by rw[List.length_reverse,List.length_reverse];exact hrsl) (fun i r x hr hx=>?_)
  · rw[List.length_reverse,←hrsl];exact hown2
  · have hi := qh hr;rw[List.length_reverse]at hi
    rw[List.getElem?_reverse hi]at hr
    rw[List.getElem?_reverse (by omega)]at hx
    obtain ⟨e1,e2,e3,e4,ca,cc,e5,hT⟩:=HRAW.out (rs.length-1-i) r x hr (by rw[hrsl];exact hx)
    exact ⟨e1,e2,e3,e4,ca,cc,e5,qa.carry (fun b hb=>⟨hb,hlow b (Nat.lt_of_lt_of_le (HX.out.2.2.low b hb) HX.out.2.2.le)⟩) (8+1) hT⟩
 have hsT:∀ b,T b→b<w2.heap.size∧b≠bb∧¬ Tch ns0.length v ms b:=fun b hb=>by
  have h1:=hX2.2.2.low b hb;exact ⟨Nat.lt_of_lt_of_le h1 hX2.2.2.le,fun e=>by have:=hX2.2.1;omega,fun ht=>by have:=(Tch.lt hX2.2.2 ht).1;omega⟩
 have hsR:∀ b,(Value.slice a1 n1 c1).ownBlock=some b→b<w2.heap.size∧b≠bb∧¬ Tch ns0.length v ms b:=fun b hb=>by
  obtain ⟨q1,q2⟩:=hown2.lt b hb;exact ⟨q2,fun e=>by have:=qe HX.out.1;omega,fun ht=>by have:=(Tch.lt HX.out.2.2 ht).2;omega⟩
 have hP:Ph B T ns0 bb w2 v ms Q1 (zF ns0) ns0 80 w2:=⟨⟨v,ms,hX2,qx.refl _ _ _ _ _⟩,Bch.start hg,qcJ hg [],jA hg⟩;have H8:Hid (∀ W,Ph B T ns0 bb w2 v ms Q1 (zF ns0) ns0 80 W→Calls Tryz.prog 66 #[(.slice a l.length cap),.int .i64 8,.func (.func 67) #[.pointer (some ⟨bb,0,none⟩)] #[]] W fun e w'=>e=.returned (.tuple #[])∧Ph B T ns0 bb w2 v ms Q1 (doF 8 (zF ns0) l) (doN 8 8 ns0 l) 1700 w'):=fun W h=>zA hg 67 8 (by omega) eg8 Q1 Q1 (xL (by omega)) VM (fun σ ns m o rest n x y hk hR hq=>qeI hR) T (.slice a l.length cap) v l ns0 _ ms w2 W _ 80 1700 hw hX2 hl2 hsT h (fun h=>h) (by omega) (by omega) (by omega)
 have H9:Hid (∀ W,Ph B T ns0 bb w2 v ms Q1 (doF 8 (zF ns0) l) (doN 8 8 ns0 l) 1700 W→Calls Tryz.prog 66 #[(.slice a l.length cap),.int .i64 9,.func (.func 68) #[.pointer (some ⟨bb,0,none⟩)] #[]] W fun e w'=>e=.returned (.tuple #[])∧Ph B T ns0 bb w2 v ms Q1 (doF 9 (doF 8 (zF ns0) l) l) (doN 8 9 (doN 8 8 ns0 l) l) 3320 w'):=fun W h=>zA hg 68 9 (by omega) eg9 Q1 Q1 (xL (by omega)) VM (fun σ ns m o rest n x y hk hR hq=>qeJ hR (hq n).2.2) T (.slice a l.length cap) v l ns0 _ ms w2 W _ 1700 3320 hw hX2 hl2 hsT h (fun h=>h) (by omega) (by omega) (by omega)
 have H10:Hid (∀ W,Ph B T ns0 bb w2 v ms Q1 (doF 9 (doF 8 (zF ns0) l) l) (doN 8 9 (doN 8 8 ns0 l) l) 3320 W→Calls Tryz.prog 66 #[(.slice a l.length cap),.int .i64 10,.func (.func 69) #[.pointer (some ⟨bb,0,none⟩)] #[]] W fun e w'=>e=.returned (.tuple #[])∧Ph B T ns0 bb w2 v ms Q1 (doF 10 (doF 9 (doF 8 (zF ns0) l) l) l) (doN 8 10 (doN 8 9 (doN 8 8 ns0 l) l) l) 4940 w'):=fun W h=>zA hg 69 10 (by omega) eg10 Q1 Q1 (xL (by omega)) VM (fun σ ns m o rest n x y hk hR hq=>qen hR (hq n).2.2) T (.slice a l.length cap) v l ns0 _ ms w2 W _ 3320 4940 hw hX2 hl2 hsT h (fun h=>h) (by omega) (by omega) (by omega)
 have H3:Hid (∀ W,Ph B T ns0 bb w2 v ms Q1 (doF 10 (doF 9 (doF 8 (zF ns0) l) l) l) (doN 8 10 (doN 8 9 (doN 8 8 ns0 l) l) l) 4940 W→Calls Tryz.prog 66 #[(.slice a l.length cap),.int .i64 3,.func (.func 70) #[.pointer (some ⟨bb,0,none⟩)] #[]] W fun e w'=>e=.returned (.tuple #[])∧Ph B T ns0 bb w2 v ms Q1 (doF 3 (doF 10 (doF 9 (doF 8 (zF ns0) l) l) l) l) (doN 8 3 (doN 8 10 (doN 8 9 (doN 8 8 ns0 l) l) l) l) 6560 w'):=fun W h=>zA hg 70 3 (by omega) eg3 Q1 Q1 (xL (by omega)) VM (fun σ ns m o rest n x y hk hR hq=>qeD hR (fun n=>(hq n).1) (hR.nz (by omega)) (hq n).2.1) T (.slice a l.length cap) v l ns0 _ ms w2 W _ 4940 6560 hw hX2 hl2 hsT h (fun h=>h) (by omega) (by omega) (by omega)
 have H2:Hid (∀ W,Ph B T ns0 bb w2 v ms Q1 (doF 3 (doF 10 (doF 9 (doF 8 (zF ns0) l) l) l) l) (doN 8 3 (doN 8 10 (doN 8 9 (doN 8 8 ns0 l) l) l) l) 6560 W→Calls Tryz.prog 66 #[(.slice a l.length cap),.int .i64 2,.func (.func 71) #[.pointer (some ⟨bb,0,none⟩)] #[]] W fun e w'=>e=.returned (.tuple #[])∧Ph B T ns0 bb w2 v ms Q1 (doF 2 (doF 3 (doF 10 (doF 9 (doF 8 (zF ns0) l) l) l) l) l) (doN 8 2 (doN 8 3 (doN 8 10 (doN 8 9 (doN 8 8 ns0 l) l) l) l) l) 8180 w'):=fun W h=>zA hg 71 2 (by omega) eg2 Q1 Q1 (xL (by omega)) VM (fun σ ns m o rest n x y hk hR hq=>qeC hR) T (.slice a l.length cap) v l ns0 _ ms w2 W _ 6560 8180 hw hX2 hl2 hsT h (fun h=>h) (by omega) (by omega) (by omega)
 have H1:Hid (∀ W,Ph B T ns0 bb w2 v ms Q1 (doF 2 (doF 3 (doF 10 (doF 9 (doF 8 (zF ns0) l) l) l) l) l) (doN 8 2 (doN 8 3 (doN 8 10 (doN 8 9 (doN 8 8 ns0 l) l) l) l) l) 8180 W→Calls Tryz.prog 66 #[(.slice a1 n1 c1),.int .i64 1,.func (.func 72) #[.pointer (some ⟨bb,0,none⟩)] #[]] W fun e w'=>e=.returned (.tuple #[])∧Ph B T ns0 bb w2 v ms Q1 (doF 1 (doF 2 (doF 3 (doF 10 (doF 9 (doF 8 (zF ns0) l) l) l) l) l) l.reverse) (doN 8 1 (doN 8 2 (doN 8 3 (doN 8 10 (doN 8 9 (doN 8 8 ns0 l) l) l) l) l) l.reverse) 9800 w'):=fun W h=>zA hg 72 1 (by omega) eg1 Q1 Q1 (xL (by omega)) VM (fun σ ns m o rest n x y hk hR hq=>qeB hR) (fun b=>(Value.slice a1 n1 c1).ownBlock=some b) (.slice a1 n1 c1) v l.reverse ns0 _ ms w2 W _ 8180 9800 hrev hX2 hrv2 hsR h (fun h=>h) (by omega) (by omega) (by omega)
 have H4:Hid (∀ W,Ph B T ns0 bb w2 v ms Q1 (doF 1 (doF 2 (doF 3 (doF 10 (doF 9 (doF 8 (zF ns0) l) l) l) l) l) l.reverse) (doN 8 1 (doN 8 2 (doN 8 3 (doN 8 10 (doN 8 9 (doN 8 8 ns0 l) l) l) l) l) l.reverse) 9800 W→Calls Tryz.prog 66 #[(.slice a1 n1 c1),.int .i64 4,.func (.func 73) #[.pointer (some ⟨bb,0,none⟩)] #[]] W fun e w'=>e=.returned (.tuple #[])∧Ph B T ns0 bb w2 v ms Q1 (doF 4 (doF 1 (doF 2 (doF 3 (doF 10 (doF 9 (doF 8 (zF ns0) l) l) l) l) l) l.reverse) l.reverse) (doN 8 4 (doN 8 1 (doN 8 2 (doN 8 3 (doN 8 10 (doN 8 9 (doN 8 8 ns0 l) l) l) l) l) l.reverse) l.reverse) 11420 w'):=fun W h=>zA hg 73 4 (by omega) eg4 Q1 Q1 (xL (by omega)) VM (fun σ ns m o rest n x y hk hR hq=>qeE hR (fun n=>(hq n).1) (hR.nz (by omega)) (hq n).2.1) (fun b=>(Value.slice a1 n1 c1).ownBlock=some b) (.slice a1 n1 c1) v l.reverse ns0 _ ms w2 W _ 9800 11420 hrev hX2 hrv2 hsR h (fun h=>h) (by omega) (by omega) (by omega)
 have H6:Hid (∀ W,Ph B T ns0 bb w2 v ms Q1 (doF 4 (doF 1 (doF 2 (doF 3 (doF 10 (doF 9 (doF 8 (zF ns0) l) l) l) l) l) l.reverse) l.reverse) (doN 8 4 (doN 8 1 (doN 8 2 (doN 8 3 (doN 8 10 (doN 8 9 (doN 8 8 ns0 l) l) l) l) l) l.reverse) l.reverse) 11420 W→Calls Tryz.prog 66 #[(.slice a l.length cap),.int .i64 6,.func (.func 74) #[.pointer (some ⟨bb,0,none⟩)] #[]] W fun e w'=>e=.returned (.tuple #[])∧Ph B T ns0 bb w2 v ms Q6 (doF 6 (doF 4 (doF 1 (doF 2 (doF 3 (doF 10 (doF 9 (doF 8 (zF ns0) l) l) l) l) l) l.reverse) l.reverse) l) (doN 8 6 (doN 8 4 (doN 8 1 (doN 8 2 (doN 8 3 (doN 8 10 (doN 8 9 (doN 8 8 ns0 l) l) l) l) l) l.reverse) l.reverse) l) 13040 w'):=fun W h=>zA hg 74 6 (by omega) eg6 Q6 Q1 q6_step (fun o rest σ hk h=>⟨fun _=>h.1,fun _=>h.2.1 o List.mem_cons_self hk⟩) (fun σ ns m o rest n x y hk hR hq=>qeG hR hq.1 (hR.nz (by omega)) (by have:=hq.2.1 o List.mem_cons_self hk;rw[hR.nat]at this;exact this)) T (.slice a l.length cap) v l ns0 _ ms w2 W _ 11420 13040 hw hX2 hl2 hsT h (qdR hpw hpos) (by omega) (by omega) (by omega)
 have H5:Hid (∀ W,Ph B T ns0 bb w2 v ms Q6 (doF 6 (doF 4 (doF 1 (doF 2 (doF 3 (doF 10 (doF 9 (doF 8 (zF ns0) l) l) l) l) l) l.reverse) l.reverse) l) (doN 8 6 (doN 8 4 (doN 8 1 (doN 8 2 (doN 8 3 (doN 8 10 (doN 8 9 (doN 8 8 ns0 l) l) l) l) l) l.reverse) l.reverse) l) 13040 W→Calls Tryz.prog 66 #[(.slice a l.length cap),.int .i64 5,.func (.func 75) #[.pointer (some ⟨bb,0,none⟩)] #[]] W fun e w'=>e=.returned (.tuple #[])∧Ph B T ns0 bb w2 v ms Q5 (doF 5 (doF 6 (doF 4 (doF 1 (doF 2 (doF 3 (doF 10 (doF 9 (doF 8 (zF ns0) l) l) l) l) l) l.reverse) l.reverse) l) l) (doN 8 5 (doN 8 6 (doN 8 4 (doN 8 1 (doN 8 2 (doN 8 3 (doN 8 10 (doN 8 9 (doN 8 8 ns0 l) l) l) l) l) l.reverse) l.reverse) l) l) 14660 w'):=fun W h=>zA hg 75 5 (by omega) eg5 Q5 Q6 (qdQ rfl) (fun o rest σ hk h=>⟨fun _=>h,fun h=>by omega⟩) (fun σ ns m o rest n x y hk hR hq=>qeF hR hq (hR.nz (by omega))) T (.slice a l.length cap) v l ns0 _ ms w2 W _ 13040 14660 hw hX2 hl2 hsT h (fun h=>h.1) (by omega) (by omega) (by omega)
 have H7:Hid (∀ W,Ph B T ns0 bb w2 v ms Q5 (doF 5 (doF 6 (doF 4 (doF 1 (doF 2 (doF 3 (doF 10 (doF 9 (doF 8 (zF ns0) l) l) l) l) l) l.reverse) l.reverse) l) l) (doN 8 5 (doN 8 6 (doN 8 4 (doN 8 1 (doN 8 2 (doN 8 3 (doN 8 10 (doN 8 9 (doN 8 8 ns0 l) l) l) l) l) l.reverse) l.reverse) l) l) 14660 W→Calls Tryz.prog 66 #[(.slice a l.length cap),.int .i64 7,.func (.func 76) #[.pointer (some ⟨bb,0,none⟩)] #[]] W fun e w'=>e=.returned (.tuple #[])∧Ph B T ns0 bb w2 v ms Q7 (doF 7 (doF 5 (doF 6 (doF 4 (doF 1 (doF 2 (doF 3 (doF 10 (doF 9 (doF 8 (zF ns0) l) l) l) l) l) l.reverse) l.reverse) l) l) l) (doN 8 7 (doN 8 5 (doN 8 6 (doN 8 4 (doN 8 1 (doN 8 2 (doN 8 3 (doN 8 10 (doN 8 9 (doN 8 8 ns0 l) l) l) l) l) l.reverse) l.reverse) l) l) l) 16280 w'):=fun W h=>zA hg 76 7 (by omega) eg7 Q7 Q5 (fun _ _ _ _=>⟨fun _=>trivial,fun _=>trivial⟩) (fun _ _ _ _ _=>⟨fun h=>by omega,fun h=>by omega⟩) (fun σ ns m o rest n x y hk hR hq=>qeH hR) T (.slice a l.length cap) v l ns0 _ ms w2 W _ 14660 16280 hw hX2 hl2 hsT h (fun _=>trivial) (by omega) (by omega) (by omega)
 have HB2:Hid (Below w.heap.size w w2):=hB2;have HPP:Hid _:=hP;clear hP hX2 hl2 hrv2 hsT hsR hlow hown2 hb2 hk2 hB2 hb1 HRV HO1 HRAW hXs hrsl hw hpw hrev hpos hroot;go_wp2_with fail;refine (Calls.mono (H8.out _ HPP.out) ?_);rintro e W8 ⟨rfl,hP8⟩;have HP8:Hid _:=hP8;clear hP8 H8;go_wp2_with fail;refine (Calls.mono (H9.out _ HP8.out) ?_);rintro e W9 ⟨rfl,hP9⟩;have HP9:Hid _:=hP9;clear hP9 H9;go_wp2_with fail;refine (Calls.mono (H10.out _ HP9.out) ?_);rintro e W10 ⟨rfl,hP10⟩;have HP10:Hid _:=hP10;clear hP10 H10;go_wp2_with fail;refine (Calls.mono (H3.out _ HP10.out) ?_);rintro e W3 ⟨rfl,hP3⟩;have HP3:Hid _:=hP3;clear hP3 H3;go_wp2_with fail;refine (Calls.mono (H2.out _ HP3.out) ?_);rintro e W2 ⟨rfl,hP2⟩;have HP2:Hid _:=hP2;clear hP2 H2;go_wp2_with fail;refine (Calls.mono (H1.out _ HP2.out) ?_);rintro e W1 ⟨rfl,hP1⟩;have HP1:Hid _:=hP1;clear hP1 H1;go_wp2_with fail;refine (Calls.mono (H4.out _ HP1.out) ?_);rintro e W4 ⟨rfl,hP4⟩;have HP4:Hid _:=hP4;clear hP4 H4;go_wp2_with fail;refine (Calls.mono (H6.out _ HP4.out) ?_);rintro e W6 ⟨rfl,hP6⟩;have HP6:Hid _:=hP6;clear hP6 H6;go_wp2_with fail;refine (Calls.mono (H5.out _ HP6.out) ?_);rintro e W5 ⟨rfl,hP5⟩;have HP5:Hid _:=hP5;clear hP5 H5;go_wp2_with fail;refine (Calls.mono (H7.out _ HP5.out) ?_);rintro e W7 ⟨rfl,hP7⟩;have HP7:Hid _:=hP7;clear hP7 H7;go_wp2_with fail
 go_returns
 have hF:=HP7.out;have hF2:=hF.did;refine ⟨rfl,?_,(hF.bnd).more (by omega),hF.bch⟩
 exact Did.before HB2.out hF2
end
section
attribute [local go_sem] qd
def FitG:Nat→List Nd→Nat→Prop
 | 0,_,_=>False
 | f+1,ns,n=>∃ x,ns[n]?=some x∧∀ k∈x.kids,∃ kk:Nat,k=(kk:Int)∧FitG f ns kk
def QR (f:Nat):Prop:=∀ (S:Nat→Prop)(v:Value)(ns:List Nd)(n bb:Nat)(w:World),qu S w v ns→(∀ b,S b→b<w.heap.size)→w.heap[bb]?=some (.cells #[v] 140 (0,0))→Bnd 1048576 ns→FitG f ns n →
 Calls Tryz.prog 43 #[.pointer (some ⟨bb,0,none⟩),.int .i64 (n:Int)] w fun e w'=>∃ va vk,e=.returned (.agg #[.bool (growF f ns n).text,.string (growF f ns n).s,va,vk]) ∧
  qj (fun b=>S b∨w.heap.size≤b) w' va (growF f ns n).attrs∧qa (fun b=>S b∨w.heap.size≤b) w' f vk (growF f ns n).kids∧Below w.heap.size w w'
structure GB (w:World) (nd:Array Value) (tr:Array Value) (W:World):Prop where
 below:Below w.heap.size w W
 res:W.heap[w.heap.size]?=some (.cells #[.bool false,.string ⟨#[]⟩,.slice none 0 0,.slice none 0 0] 51 (0,0))
 box:W.heap[w.heap.size+1]?=some (.cells nd 42 (0,0))
 tre:W.heap[w.heap.size+1+1]?=some (.cells tr 51 (0,0))
theorem X9 {S:Nat→Prop}{w:World}{nd:Array Value}{f i:Nat}{c0 c1 c2:Value}{wr w5 w6:World}{ja:Option Addr}{jc:Nat}{us:List Tr}{qs:List (Bool × ByteArray × Value × Value)}{t:Tr}{a5 k5:Option Addr}{d5 e5:Nat}{a6:Option Addr}{n6 c6:Nat}
 (hS:∀ b,S b→b<w.heap.size)
 (hG:GB w nd #[c0,c1,c2,.slice ja i jc] wr) (hR:yn S f (w.heap.size+1+1+1) wr.drew (.slice ja i jc) us qs) (hi:us.length=i) (hb5:Below wr.drew.heap.size wr.drew w5)
 (hA:qj (fun b=>S b∨wr.drew.heap.size≤b) w5 (.slice a5 t.attrs.length d5) t.attrs) (hK:qa (fun b=>S b∨wr.drew.heap.size≤b) w5 f (.slice k5 t.kids.length e5) t.kids)
 (hown:w6.ownsRow (w.heap.size+1+1+1) 51 4 (.slice a6 n6 c6) (i+1) (quadCells qs++[.bool t.text,.string t.s,.slice a5 t.attrs.length d5,.slice k5 t.kids.length e5]))
 (hgr:(w5.alloc (.cells #[.bool t.text,.string t.s,.slice a5 t.attrs.length d5,.slice k5 t.kids.length e5] 51)).grownBy w6 (Value.slice ja i jc).ownBlock)
 (hat:(Value.slice a6 n6 c6).ownBlock=(Value.slice ja i jc).ownBlock∨(Value.slice a6 n6 c6).ownBlock=some (w5.alloc (.cells #[.bool t.text,.string t.s,.slice a5 t.attrs.length d5,.slice k5 t.kids.length e5] 51)).heap.size) :
 GB w nd #[c0,c1,c2,.slice a6 n6 c6] (w6.setCell ⟨w.heap.size+1+1,3,none⟩ (.slice a6 n6 c6)) ∧
  yn S f (w.heap.size+1+1+1) (w6.setCell ⟨w.heap.size+1+1,3,none⟩ (.slice a6 n6 c6)) (.slice a6 n6 c6) (us++[t]) (qs++[(t.text,t.s,.slice a5 t.attrs.length d5,.slice k5 t.kids.length e5)]):=by
 have hs5:wr.heap.size≤w5.heap.size:=hb5.size;have hres:=qe hG.res;have hbox:=qe hG.box;have htre:=qe hG.tre;have hs6:=hgr.size;simp only[World.size_alloc]at hs6
 have hkeep:∀ b,b<wr.heap.size→b<w.heap.size+1+1+1→w6.heap[b]?=wr.heap[b]?:=by
  intro b h1 h2;rw[hgr.block b (by simp;omega) (fun e=>by have:=(hR.own.lt b e.symm).1;omega),Lib.alloc_old _ _ _ (by omega)]
  exact hb5.block b h1
 have hB6:Below w.heap.size w w6:=((hG.below.drew.trans (hb5.mono hG.below.size)).alloc (by have:=hG.below.size;omega) _).grown hgr (by simp;have:=hG.below.size;omega) (fun k hk=>by have:=(hR.own.lt k hk).1;omega)
 have hsz:(w6.setCell ⟨w.heap.size+1+1,3,none⟩ (.slice a6 n6 c6)).heap.size=w6.heap.size:=by simp
 refine ⟨⟨hB6.setCell (p:=⟨w.heap.size+1+1,3,none⟩) (by show w.heap.size≤w.heap.size+1+1;omega) _,?_,?_,?_⟩,?_⟩
 · rw[qb (by omega),hkeep _ hres (by omega)];exact hG.res
 · rw[qb (by omega),hkeep _ hbox (by omega)];exact hG.box
 · have := (hkeep _ htre (by omega)).trans hG.tre
   simp[World.setCell,Array.getElem?_modify,this]
 · have hfr:∀ b,(S b∨wr.drew.heap.size≤b)∧b<(w5.alloc (.cells #[.bool t.text,.string t.s,.slice a5 t.attrs.length d5,.slice k5 t.kids.length e5] 51)).heap.size→Oth S (w.heap.size+1+1+1) (w5.alloc (.cells #[.bool t.text,.string t.s,.slice a5 t.attrs.length d5,.slice k5 t.kids.length e5] 51)) (.slice ja i jc) b:=by
    intro b hb;refine ⟨?_,hb.2,fun e=>?_⟩
    · rcases hb.1 with h | h
      · exact Or.inl h
      · exact Or.inr (by have h':wr.heap.size≤b:=h;omega)
    · have h1 := hR.own.lt b e;have h2:b<wr.heap.size:=h1.2
      rcases hb.1 with h|h
      · have:=hS b h;omega
      · have h' : wr.heap.size ≤ b := h;omega
   have hG3:=(hR.later hb5).later (Below.alloc1 w5 (.cells #[.bool t.text,.string t.s,.slice a5 t.attrs.length d5,.slice k5 t.kids.length e5] 51))
   have hG4:=hG3.snoc (t:=t) (q:=(t.text,t.s,.slice a5 t.attrs.length d5,.slice k5 t.kids.length e5)) (by rw[hi];exact hown) hgr hat rfl rfl
    ((hA.later (Below.alloc1 w5 _)).bounded.carry (fun b hb=>⟨hfr b hb,rfl⟩))
    (qa.carry (fun b hb=>⟨hfr b hb,rfl⟩) f (qa.bounded f (qa.later (Below.alloc1 w5 _) f hK)))
   have hne:∀ b,w.heap.size+1+1+1≤b→b≠w.heap.size+1+1:=fun b h=>by omega
   refine ⟨hG4.len,qk hG4.own (fun b hb=>qb (hne b (hG4.own.lt b hb).1)),fun j q u hq hu=>?_⟩
   obtain ⟨x1,x2,x3,x4⟩:=hG4.each j q u hq hu
   have carry:∀ b,Oth S (w.heap.size+1+1+1) w6 (.slice a6 n6 c6) b→Oth S (w.heap.size+1+1+1) (w6.setCell ⟨w.heap.size+1+1,3,none⟩ (.slice a6 n6 c6)) (.slice a6 n6 c6) b∧(w6.setCell ⟨w.heap.size+1+1,3,none⟩ (.slice a6 n6 c6)).heap[b]?=w6.heap[b]?:=by
    intro b hb;refine ⟨⟨hb.1,by rw[hsz];exact hb.2.1,hb.2.2⟩,qb ?_⟩
    rcases hb.1 with h1|h1
    · have:=hS b h1;omega
    · omega
   exact ⟨x1,x2,x3.carry carry,qa.carry carry f x4⟩
set_option maxHeartbeats 2000000 in
theorem Ka (f:Nat)(ih:QR f):QR (f+1):=by
 intro S v ns n bb w hN hS hX hKI hF;obtain ⟨x,hx,hkr⟩:=hF;have hn:n<ns.length:=(List.getElem?_eq_some_iff.1 hx).1;have HG:Hid (growF (f+1) ns n=⟨x.text,x.s,x.attrs,x.kids.map fun k=>growF f ns k.toNat⟩):=by show _=_;rw[growF,hx]
 obtain ⟨hkl,hal⟩:=hKI.2 x (List.mem_of_getElem? hx);obtain ⟨b,o,cap,va,vk,rfl,hlc,hcm,hSb,hbw,c0,c1,c2,c3,c4,hAt,hKi⟩:=hN.at hx
 obtain ⟨aa,ac,rfl⟩:=hAt.shape;obtain ⟨ka,kc,rfl,hkl2,hkm⟩:=hKi.shape;unfold maxLen at hcm hkm
 have hb0:w.cell? ⟨bb,0,none⟩=some (.slice (some ⟨b,o,none⟩) ns.length cap):=by rw[cH9 hX];rfl
 have hbbl:=qe hX;have IH:Hid (QR f):=ih;have hni:(n:Int)<(ns.length:Int):=by omega
 clear ih
 go_enter Tryz.func43,Tryz.ntmps43
 go_wp2_with fail
 have HGS:Hid (GB w #[.bool x.text,.string x.s,.slice aa x.attrs.length ac,.int .i64 x.parent,.slice ka x.kids.length kc] #[.bool x.text,.string x.s,.slice aa x.attrs.length ac,.slice none 0 0] (((w.alloc (.cells #[.bool false,.string ⟨#[]⟩,.slice none 0 0,.slice none 0 0] 51)).alloc (.cells #[.bool x.text,.string x.s,.slice aa x.attrs.length ac,.int .i64 x.parent,.slice ka x.kids.length kc] 42)).alloc (.cells #[.bool x.text,.string x.s,.slice aa x.attrs.length ac,.slice none 0 0] 51))):=by
  refine ⟨((Below.alloc1 w _).alloc (by simp) _).alloc (by simp;omega) _,?_,?_,?_⟩
  · rw[Lib.alloc_old _ _ _ (by simp;omega),Lib.alloc_old _ _ _ (by simp)];exact heap_alloc_new _ _
  · rw[Lib.alloc_old _ _ _ (by simp)]
    have e:=heap_alloc_new (w.alloc (.cells #[.bool false,.string ⟨#[]⟩,.slice none 0 0,.slice none 0 0] 51)) (.cells #[.bool x.text,.string x.s,.slice aa x.attrs.length ac,.int .i64 x.parent,.slice ka x.kids.length kc] 42);rw[World.size_alloc]at e
    exact e
  · have e := heap_alloc_new ((w.alloc (.cells #[.bool false, .string ⟨#[]⟩, .slice none 0 0, .slice none 0 0] 51)).alloc (.cells #[.bool x.text, .string x.s, .slice aa x.attrs.length ac, .int .i64 x.parent, .slice ka x.kids.length kc] 42)) (.cells #[.bool x.text, .string x.s, .slice aa x.attrs.length ac, .slice none 0 0] 51);rw[World.size_alloc,World.size_alloc]at e
    exact e
 generalize ((w.alloc (.cells #[.bool false,.string ⟨#[]⟩,.slice none 0 0,.slice none 0 0] 51)).alloc (.cells #[.bool x.text,.string x.s,.slice aa x.attrs.length ac,.int .i64 x.parent,.slice ka x.kids.length kc] 42)).alloc (.cells #[.bool x.text,.string x.s,.slice aa x.attrs.length ac,.slice none 0 0] 51)=W4 at HGS ⊢
 have HKI:Hid (qW S w (.slice ka x.kids.length kc) x.kids):=hKi;have HAT:Hid (qj S w (.slice aa x.attrs.length ac) x.attrs):=hAt;have HNN:Hid (qu S w (.slice (some ⟨b,o,none⟩) ns.length cap) ns):=hN;have HX:Hid _:=hX;have HS:Hid (∀ b,S b→b<w.heap.size):=hS;have HKR:Hid (∀ k∈x.kids,∃ kk:Nat,k=(kk:Int)∧FitG f ns kk):=hkr;clear c0 c1 c2 c3 c4 hb0 hX hS hN hAt hKi hx hkr
 go_loopg [26] x.kids.length (fun g j wr=>∃ (i:Nat) (v:Value) (qs:List (Bool × ByteArray × Value × Value)),i+g=x.kids.length∧j=.int .i64 (i:Int)∧GB w #[.bool x.text,.string x.s,.slice aa x.attrs.length ac,.int .i64 x.parent,.slice ka x.kids.length kc] #[.bool x.text,.string x.s,.slice aa x.attrs.length ac,v] wr∧yn S f (w.heap.size+1+1+1) wr v ((x.kids.take i).map fun k=>growF f ns k.toNat) qs)
 case atStart => exact ⟨0,.slice none 0 0,[],by omega,rfl,HGS.out,yn.nil _ _ _ _⟩
 case round =>
  obtain ⟨i,v,qs,hi,rfl,hG,hGr⟩:=hrel;have HG4:Hid _:=hG;have hB4:=hG.below;obtain ⟨ja,jc,rfl⟩:=hGr.shape;have HGR:Hid _:=hGr
  by_cases hil:i<x.kids.length
  · obtain ⟨k, hk⟩ : ∃ k, x.kids[i]? = some k := ⟨x.kids[i], by simp[hil]⟩
    obtain ⟨kk,rfl,hfit⟩:=HKR.out k (List.mem_of_getElem? hk);obtain ⟨kb,ko,kc2,hkv,hSk,hkb,e1⟩:=(HKI.out.later hB4).at hk
    injection hkv with hka _ hkc
    subst hka hkc
    have hsn:(x.kids.take (i+1)).map (fun k=>growF f ns k.toNat)=(x.kids.take i).map (fun k=>growF f ns k.toNat)++[growF f ns kk]:=by
     rw[List.take_succ_eq_append_getElem hil,List.map_append];have:x.kids[i]=(kk:Int):=by simpa[hil] using hk
     rw[this];rfl
    have HSN:Hid _:=hsn
    have HCALL:Hid (∀ W,Below w.heap.size w W→Calls Tryz.prog 43 #[.pointer (some ⟨bb,0,none⟩),.int .i64 (kk:Int)] W fun e w'=>∃ r,e=.returned r∧∃ va vk,r=.agg #[.bool (growF f ns kk).text,.string (growF f ns kk).s,va,vk] ∧
     qj (fun b=>S b∨W.heap.size≤b) w' va (growF f ns kk).attrs∧qa (fun b=>S b∨W.heap.size≤b) w' f vk (growF f ns kk).kids∧Below W.heap.size W w'):=by
     intro W hW;refine (IH.out S _ ns kk bb W (HNN.out.later hW) (fun b hb=>Nat.lt_of_lt_of_le (HS.out b hb) hW.size) ((hW.block bb hbbl).trans HX.out) hKI hfit).mono ?_
     rintro e w' ⟨va,vk,rfl,h1,h2,h3⟩;exact ⟨_,rfl,va,vk,rfl,h1,h2,h3⟩
    have hln:((x.kids.take i).map fun k=>growF f ns k.toNat).length=i:=by rw[List.length_map,List.length_take];omega
    obtain ⟨us,hus⟩:∃ us,(x.kids.take i).map (fun k=>growF f ns k.toNat)=us:=⟨_,rfl⟩
    obtain ⟨t,ht⟩:∃ t,growF f ns kk=t:=⟨_,rfl⟩;rw[hus]at HGR HG4 HSN hln
    rw[ht]at HCALL HSN
    rw[hln]at HGR HG4
    have HLN:Hid (us.length=i):=hln;have hz3:wr.cell? ⟨w.heap.size+1+1,3,none⟩=some (.slice ja i jc):=by rw[cH9 HG4.out.tre];rfl
    have hf3:wr.frozen? ⟨w.heap.size+1+1,3,none⟩=false:=fH9 HG4.out.tre 3;have hili:(i:Int)<(x.kids.length:Int):=by omega
    have hi20:i≤1048576:=by omega
    have hwrs:=hB4.size;have hb2r:=qe HG4.out.tre;have HGD:Hid (yn S f (w.heap.size+1+1+1) wr.drew (.slice ja i jc) us qs):=HGR.out.later (Below.refl _ wr).drew
    have HCH:Hid (∀ (w5 w6:World) (X:Obj),Below wr.drew.heap.size wr.drew w5→(w5.alloc X).grownBy w6 (Value.slice ja i jc).ownBlock→w6.heap[w.heap.size+1+1]?=some (.cells #[.bool x.text,.string x.s,.slice aa x.attrs.length ac,.slice ja i jc] 51 (0,0))):=by
     intro w5 w6 X h5 h6;have h7:w.heap.size+1+1<w5.heap.size:=Nat.lt_of_lt_of_le hb2r h5.size;rw[h6.block _ (by simp;omega) (fun e=>by have:=(HGR.out.own.lt _ e.symm).1;omega),Lib.alloc_old _ _ _ h7]
     exact (h5.block _ hb2r).trans HG4.out.tre
    clear hG hGr hk hsn hln hus ht hfit;go_wp2_with fail
    go_region_law (first
     | (refine qK (by rfl) 43 #[.pointer (some ⟨bb,0,none⟩),.int .i64 (kk:Int)] (by go_simp) _ (HCALL.out _ hB4.drew) ?_;intro r5 w5 hR5;obtain ⟨va5,vk5,rfl,hA5,hK5,hb5⟩:=hR5;obtain ⟨a5,c5,rfl⟩:=hA5.shape;obtain ⟨k5,d5,rfl,_,_⟩:=qa.shape f hK5;have z5:w5.cell? ⟨w.heap.size+1+1,3,none⟩=some (.slice ja i jc):=(hb5.cell (p:=⟨w.heap.size+1+1,3,none⟩) hb2r).trans hz3;have z5a:(w5.alloc (.cells #[.bool t.text,.string t.s,.slice a5 t.attrs.length c5,.slice k5 t.kids.length d5] 51)).cell? ⟨w.heap.size+1+1,3,none⟩=some (.slice ja i jc):=Lib.cell?_alloc_some _ z5)
     | (refine ZM (by rfl) (.tmp 31) (.tmp 35) (by rfl) (w.heap.size+1+1+1) (.slice ja i jc) i (quadCells qs) (by simp[Act.eval]) (by have:=(qm HGD.out.own hb5).alloc (.cells #[.bool t.text,.string t.s,.slice a5 t.attrs.length c5,.slice k5 t.kids.length d5] 51);rw[HLN.out]at this;exact this) ⟨w5.heap.size,0,none⟩ t.text t.s a5 t.attrs.length c5 k5 t.kids.length d5 (by simp[Act.eval]) (xm _ _ _ _ _ _) hi20 (by have:=hb5.size;simp at this ⊢;omega) ?_;intro v6 w6 hown6 hgr6 hat6;obtain ⟨a6,n6,c6,rfl⟩:=qJ hown6;have hk6:=HCH.out w5 w6 _ hb5 hgr6;have z6:=cH9 hk6 3;have f6:=fH9 hk6 3;simp at z6))
    all_goals
     have HG7:Hid _:=X9 HS.out HG4.out HGD.out HLN.out hb5 hA5 hK5 hown6 hgr6 hat6;clear hown6 hgr6 hat6 hA5 hK5;go_wp2_with fail
     go_roundg (x.kids.length-(i+1))
     case measure => omega
     case rel => exact ⟨i+1,_,_,by omega,by go_num,HG7.out.1,by rw[HSN.out];exact HG7.out.2⟩
  · have hii : i = x.kids.length := by omega
    subst hii;have hili:¬ ((x.kids.length:Int)<(x.kids.length:Int)):=by omega
    have p0:wr.cell? ⟨w.heap.size,0,none⟩=some (.bool false):=by rw[cH9 HG4.out.res];rfl
    have p1:wr.cell? ⟨w.heap.size,1,none⟩=some (.string ⟨#[]⟩):=by rw[cH9 HG4.out.res];rfl
    have p2:wr.cell? ⟨w.heap.size,2,none⟩=some (.slice none 0 0):=by rw[cH9 HG4.out.res];rfl
    have p3:wr.cell? ⟨w.heap.size,3,none⟩=some (.slice none 0 0):=by rw[cH9 HG4.out.res];rfl
    have f0:wr.frozen? ⟨w.heap.size,0,none⟩=false:=fH9 HG4.out.res 0;have f1:wr.frozen? ⟨w.heap.size,1,none⟩=false:=fH9 HG4.out.res 1;have f2:wr.frozen? ⟨w.heap.size,2,none⟩=false:=fH9 HG4.out.res 2;have f3:wr.frozen? ⟨w.heap.size,3,none⟩=false:=fH9 HG4.out.res 3;have q0:wr.cell? ⟨w.heap.size+1+1,0,none⟩=some (.bool x.text):=by rw[cH9 HG4.out.tre];rfl
    have q1:wr.cell? ⟨w.heap.size+1+1,1,none⟩=some (.string x.s):=by rw[cH9 HG4.out.tre];rfl
    have q2:wr.cell? ⟨w.heap.size+1+1,2,none⟩=some (.slice aa x.attrs.length ac):=by rw[cH9 HG4.out.tre];rfl
    have q3:wr.cell? ⟨w.heap.size+1+1,3,none⟩=some (.slice ja ((x.kids.take x.kids.length).map fun k=>growF f ns k.toNat).length jc):=by rw[cH9 HG4.out.tre];rfl
    clear hG hGr
    generalize hvv:Value.slice ja ((x.kids.take x.kids.length).map fun k=>growF f ns k.toNat).length jc=vv at HGR HG4 q3
    obtain ⟨va7,vn7,vc7,rfl⟩:∃ a n c,vv=.slice a n c:=⟨_,_,_,hvv.symm⟩;clear hvv;rw[List.take_length]at HGR
    go_wp2_with fail;refine bodyPost_ret (v:=.agg #[.bool x.text,.string x.s,.slice aa x.attrs.length ac,.slice va7 vn7 vc7]) (by simp[results,Tryz.results43,go_sem,qd,p0,p1,p2,p3,World.cell?_setCell_other]) rfl ⟨.slice aa x.attrs.length ac,.slice va7 vn7 vc7,?_,?_,?_,?_⟩
    · rw[HG.out]
    · rw[HG.out];refine ((HAT.out.later hB4)).carry fun b hb=>⟨Or.inl hb,?_⟩
      have:=HS.out b hb;rw[qb (by omega),qb (by omega),qb (by omega),qb (by omega)]
    · rw[HG.out];refine qa.carry (fun b hb=>⟨?_,?_⟩) (f+1) HGR.out.done
      · rcases hb with hb | hb
        · exact Or.inl hb
        · exact Or.inr (by omega)
      · rcases hb with hb | hb
        · have := HS.out b hb;rw[qb (by omega),qb (by omega),qb (by omega),qb (by omega)]
        · rw[qb (by omega),qb (by omega),qb (by omega),qb (by omega)]
    · exact (((hB4.setCell (p:=⟨w.heap.size,0,none⟩) (nR9 _) _).setCell (p:=⟨w.heap.size,1,none⟩) (nR9 _) _).setCell (p:=⟨w.heap.size,2,none⟩) (nR9 _) _).setCell (p:=⟨w.heap.size,3,none⟩) (nR9 _) _
theorem Vd (f:Nat):QR f:=by
 induction f with
 | zero=>intro S v ns n bb w _ _ _ _ hF;exact hF.elim
 | succ f ih=>exact Ka f ih
theorem fit_lay:∀ (d:Nat)(t:Tr)(f:Nat)(ns:List Nd)(par:Int)(at':Nat),Deep d t.kids→Seg ns at' (layF d t par at')→cnt (d+1) [t]≤f→FitG f ns at':=by
 intro d
 induction d with
 | zero =>
   intro t f ns par at' hd hs hf
   rw[qv]at hf
   obtain ⟨f',rfl⟩:∃ f',f=f'+1:=⟨f-1,by omega⟩
   exact ⟨_,hs 0 _ rfl,fun k hk=>by simp at hk⟩
 | succ d ih =>
   intro t f ns par at' hd hs hf
   rw[qv]at hf
   obtain ⟨f',rfl⟩:∃ f',f=f'+1:=⟨f-1,by omega⟩
   have hsk:Seg ns (at'+1) (qn d (layF d) at' (at'+1) t.kids):=Seg.tail hs
   refine ⟨_,hs 0 _ rfl,?_⟩
   have key:∀ (ks:List Tr) (a:Nat),Deep (d+1) ks→Seg ns a (qn d (layF d) at' a ks)→cnt (d+1) ks≤f'→∀ k∈qi d a ks,∃ kk:Nat,k=(kk:Int)∧FitG f' ns kk:=by
    intro ks
    induction ks with
    | nil=>intro a _ _ _ k hk;simp[qi]at hk
    | cons u ks ihk =>
      intro a hdk hsg hc k hk;rw[qF d u ks]at hc
      rw[qn]at hsg
      have hl:=layF_length d u (at':Int) a (hdk u List.mem_cons_self)
      have h2:=hsg.right;rw[hl]at h2
      rw[qi]at hk
      rcases List.mem_cons.1 hk with rfl|hk
      · exact ⟨a,rfl,ih u f' ns at' a (hdk u List.mem_cons_self) hsg.left (by omega)⟩
      · exact ihk (a+cnt (d+1) [u]) (fun v hv=>hdk v (List.mem_cons_of_mem _ hv)) h2 (by omega) k hk
   exact key t.kids (at'+1) hd hsk (by omega)
theorem qaZ {ns0 ns:List Nd}{σ:Nat→Sg}(hg:qr ns0=true)(h:Bch ns0 σ ns):∀ (f F n:Nat),n<ns0.length→ns0.length≤n+f→ns.length≤n+F→FitG F ns n:=by
 intro f
 induction f with
 | zero=>intro F n h1 h2;omega
 | succ f ih =>
   intro F n hn hf hF;have hl:=h.len;obtain ⟨F,rfl⟩:∃ F',F=F'+1:=⟨F-1,by omega⟩
   obtain ⟨x,hx⟩:∃ x,ns0[n]?=some x:=⟨ns0[n],by simp[hn]⟩
   obtain ⟨y,g1,g2,g3,g4,g5,g6⟩:=h.each n x hx;refine ⟨y,g1,?_⟩;have hall:=fun k=>X0 (k:=k) hg (σ:=σ) hx
   have key:∀ (l:List Int) (m:List (Nat ⊕ Tr)),zn ns0.length ns l m→(∀ k,Sum.inl k∈m→n<k∧k<ns0.length)→∀ k∈l,∃ kk:Nat,k=(kk:Int)∧FitG F ns kk:=by
    intro l
    induction l with
    | nil=>intro m _ _ k hk;cases hk
    | cons u l ihl =>
      intro m hr hm k hk;cases m with
      | nil=>exact hr.elim
      | cons e m =>
        rcases List.mem_cons.1 hk with rfl|hk
        · cases e with
          | inl j =>
            obtain ⟨rfl,hj⟩:=hr.1;have h1:=hm j List.mem_cons_self;exact ⟨j,rfl,ih F j hj (by omega) (by omega)⟩
          | inr t =>
            obtain ⟨m',d,par,rfl,h1,h2,h3⟩:=hr.1;refine ⟨m',rfl,fit_lay d t F ns par m' h2 h3 ?_⟩;have h4:=layF_length d t par m' h2;have h5:0<cnt (d+1) [t]:=by rw[qv];omega
            obtain ⟨z,hz⟩:∃ z,(layF d t par m')[cnt (d+1) [t]-1]?=some z:=⟨(layF d t par m')[cnt (d+1) [t]-1]'(by omega),by simp⟩
            have h6:=qh (h3 _ z hz);omega
        · exact ihl m hr.2 (fun j hj=>hm j (List.mem_cons_of_mem _ hj)) k hk
   exact key y.kids _ g6 hall
theorem fit_less:∀ (f F:Nat)(ns:List Nd)(n:Nat),FitG F ns n→Deep f (growF F ns n).kids→FitG (f+1) ns n∧growF (f+1) ns n=growF F ns n:=by
 intro f
 induction f with
 | zero =>
   intro F ns n hF hd;cases F with
   | zero=>exact hF.elim
   | succ F =>
     obtain ⟨x,hx,hk⟩:=hF;rw[growF,hx]at hd ⊢
     rw[growF,hx];have e:x.kids=[]:=List.map_eq_nil_iff.1 hd;refine ⟨⟨x,hx,?_⟩,?_⟩
     · rw[e];intro k hk;cases hk
     · simp only[e,List.map_nil]
 | succ f ih =>
   intro F ns n hF hd;cases F with
   | zero=>exact hF.elim
   | succ F =>
     obtain ⟨x,hx,hk⟩:=hF;rw[growF,hx]at hd ⊢
     rw[growF,hx]
     have key:∀ k∈x.kids,∃ kk:Nat,k=(kk:Int)∧FitG (f+1) ns kk∧growF (f+1) ns kk=growF F ns kk:=by
      intro k hk1;obtain ⟨kk,rfl,h1⟩:=hk k hk1;obtain ⟨h2,h3⟩:=ih F ns kk h1 (hd _ (List.mem_map.2 ⟨(kk:Int),hk1,by rw[Int.toNat_natCast]⟩))
      exact ⟨kk,rfl,h2,h3⟩
     refine ⟨⟨x,hx,fun k hk1=>?_⟩,?_⟩
     · obtain ⟨kk, e, h2, _⟩ := key k hk1;exact ⟨kk,e,h2⟩
     · refine congrArg (fun ks => (⟨x.text, x.s, x.attrs, ks⟩ : Tr)) (List.map_congr_left ?_)
       intro k hk1;obtain ⟨kk,rfl,_,h3⟩:=key k hk1;rw[Int.toNat_natCast];exact h3
theorem yu.attrs {B:Nat}{w:World}{v:Value}{l:List (ByteArray × ByteArray)}(h:yu B w v l):qj (fun b=>b<w.heap.size) w v l:=by
 rcases id h.2 with ⟨hv,h0⟩|⟨g,cap,cur,hv,hB,hh,hc,hm,_⟩
 · have : l = [] := List.eq_nil_of_length_eq_zero h0;subst this;exact ⟨none,0,hv,nR9 _,nZ9 _,fun hne=>absurd rfl hne⟩
 · have hrow := h;unfold yu at hrow
   subst hv;refine ⟨_,cap,rfl,hc,hm,fun _=>⟨g,0,rfl,qe hh,fun i x hx=>?_⟩⟩
   have hi:=qh hx;obtain ⟨g0,g1⟩:=zU l i x hx;exact ⟨by rw[Nat.zero_add,World.ownsRow.cellAt hrow (i*2) (by omega),g0],by rw[Nat.zero_add,World.ownsRow.cellAt hrow (i*2+1) (by omega),g1]⟩
theorem qE.intsLt {B:Nat}{w:World}{v:Value}{l:List Int}(h:qE B w v l):qW (fun b=>b<w.heap.size) w v l:=by
 rcases id h.2 with ⟨hv,h0⟩|⟨g,cap,cur,hv,hB,hh,hc,hm,_⟩
 · have : l = [] := List.eq_nil_of_length_eq_zero h0;subst this;exact ⟨none,0,hv,nR9 _,nZ9 _,fun hne=>absurd rfl hne⟩
 · have hrow := h;unfold qE at hrow
   subst hv;refine ⟨_,cap,rfl,hc,hm,fun _=>⟨g,0,rfl,qe hh,fun i x hx=>?_⟩⟩
   have hi:=qh hx;rw[Nat.zero_add,World.ownsRow.cellAt hrow i (by omega),xG hx]
theorem qR.nodes {B:Nat}{T:Nat→Prop}{N:Nat}{w:World}{v:Value}{ns:List Nd}{ms:List Rw}(h:qR B T N w v ns ms):qu (fun b=>b<w.heap.size) w v ns:=by
 by_cases hne:ns=[]
 · subst hne;obtain ⟨a,c,hv,h1,h2⟩:=h.shape;exact ⟨a,c,hv,h1,h2,fun e=>absurd rfl e⟩
 · obtain ⟨x0, hx0⟩ : ∃ x, ns[0]? = some x := ⟨ns[0]'(List.length_pos_iff.2 hne), by simp⟩
   obtain ⟨r0,hr0,_⟩:=h.get hx0;obtain ⟨g,cap,hv,h1,h2,_,hgl,_⟩:=h.at hr0
   refine ⟨_,cap,hv,h1,h2,fun _=>⟨g,0,rfl,hgl,fun i x hx=>?_⟩⟩
   obtain ⟨r,hr,hR⟩:=h.get hx;obtain ⟨g',cap',hv',_,_,_,_,c0,c1,c2,c3,c4,_⟩:=h.at hr
   rw[hv]at hv'
   injection hv' with e1 _ _
   injection e1 with e1
   injection e1 with e1
   subst e1;refine ⟨r.va,r.vk,?_,?_,?_,?_,?_,?_,hR.kids.intsLt⟩
   · rw[Nat.zero_add,c0,hR.text]
   · rw[Nat.zero_add,c1,hR.s]
   · rw[Nat.zero_add,c2]
   · rw[Nat.zero_add,c3,hR.par]
   · rw[Nat.zero_add,c4]
   · by_cases hi : i < N
     · exact (hR.own hi).attrs
     · exact (hR.far (by omega)).carry fun b hb=>⟨Nat.lt_of_lt_of_le (h.low b hb) h.le,rfl⟩
theorem Did.below {B:Nat}{T:Nat→Prop}{N bb:Nat}{w w':World}{v:Value}{ns:List Nd}{ms:List Rw}{ns':List Nd}(h:Did B T N bb w w' v ms ns')(hX:Bx B T N bb w v ns ms):Below B w w':=by
 obtain ⟨v',ms',_,hs⟩:=h;exact ⟨hs.below.os,hs.below.tape,hs.below.output,hs.below.size,fun k hk=>hs.low hX.2.2 hX.2.1 k hk⟩
end
section
attribute [local go_sem] qd
theorem qdl (v:Value)(a:Option Addr)(n cap:Nat)(cs:List Value)(w:World)(hv:v=.slice a n cap)(hn:a=none→n=0)(hl:cs.length=n*2)(hb:n≤1048576)(hc:∀ ad,a=some ad→∀ j u,cs[j]?=some u→w.cell? (ad.add j)=some u)(h1:∀ u∈cs,u.oneCell'=true) :
 Calls Tryz.prog 19 #[v] w fun e w'=>∃ v',e=.returned v'∧w'.ownsRow w.heap.size 44 2 v' n cs∧Below w.heap.size w w':=by
 subst hv;obtain ⟨i0,hi,hz0,hz1,hz2⟩:=info_parts attrInfo;have q27:∀ (w:World) (a:Option Addr) (n c n' c':Nat),(binOp .eql 39 (.slice a n c) (.slice none n' c')).run Tryz.prog w=.ok (.bool a.isNone) w:=fun w a n c n' c'=>Lib.run_eql_slice_nil w _ _ a n c n' c' Tryz.underlying39
 cases a with
 | none =>
   have hn:=hn rfl;subst hn;have hcs:cs=[]:=List.eq_nil_of_length_eq_zero (by omega)
   subst hcs
   go_enter Tryz.func19,Tryz.ntmps19
   go_wp2;go_ret;exact ⟨_,rfl,World.ownsRow_nil _ _ _ _,Below.refl _ _⟩
 | some ad =>
   have A:Hid (∀ j u,cs[j]?=some u→w.cell? (ad.add j)=some u):=hc ad rfl;have H1:Hid (∀ u∈cs,u.oneCell'=true):=h1;clear hc h1 hn
   go_enter Tryz.func19,Tryz.ntmps19
   go_wp2_with (at_builtin;refine wpList_append_own _ rfl _ _ 39 rfl w.heap.size 44 i0 _ 2 32 Tryz.underlying39 hi hz0 hz1 hz2 rfl (by decide) _ _ _ rfl (World.ownsRow_made w #[] 0 (nR9 _) (nZ9 _) (by simp)) ad n cap cs rfl ?qc1 ?qc2 ?qc3 ?qc4 ?qc5 ?qc6 ?_)
   case qc1 => exact hl
   case qc2 =>
    intro j u hj;exact Lib.cell?_alloc_some _ (A.out j u hj)
   case qc3 => exact H1.out
   case qc4 => unfold maxLen;omega
   case qc5 => omega
   case qc6 => simp
   intro v' w1 hown hgrow hnil;go_wp2;go_ret;refine ⟨v',rfl,by simpa using hown,?_⟩
   exact ((Below.refl _ w).alloc (nR9 _) _).grown hgrow (by simp) (by intro k hk;simp[Value.ownBlock]at hk;omega)
theorem qdm (v:Value)(a:Option Addr)(n cap:Nat)(cs:List Value)(w:World)(hv:v=.slice a n cap)(hn:a=none→n=0)(hl:cs.length=n*1)(hb:n≤1048576)(hc:∀ ad,a=some ad→∀ j u,cs[j]?=some u→w.cell? (ad.add j)=some u)(h1:∀ u∈cs,u.oneCell'=true) :
 Calls Tryz.prog 20 #[v] w fun e w'=>∃ v',e=.returned v'∧w'.ownsRow w.heap.size 3 1 v' n cs∧Below w.heap.size w w':=by
 subst hv;obtain ⟨i0,hi,hz0,hz1,hz2⟩:=info_parts intInfoR;have q27:∀ (w:World) (a:Option Addr) (n c n' c':Nat),(binOp .eql 40 (.slice a n c) (.slice none n' c')).run Tryz.prog w=.ok (.bool a.isNone) w:=fun w a n c n' c'=>Lib.run_eql_slice_nil w _ _ a n c n' c' Tryz.underlying40
 cases a with
 | none =>
   have hn:=hn rfl;subst hn;have hcs:cs=[]:=List.eq_nil_of_length_eq_zero (by omega)
   subst hcs
   go_enter Tryz.func20,Tryz.ntmps20
   go_wp2;go_ret;exact ⟨_,rfl,World.ownsRow_nil _ _ _ _,Below.refl _ _⟩
 | some ad =>
   have A:Hid (∀ j u,cs[j]?=some u→w.cell? (ad.add j)=some u):=hc ad rfl;have H1:Hid (∀ u∈cs,u.oneCell'=true):=h1;clear hc h1 hn
   go_enter Tryz.func20,Tryz.ntmps20
   go_wp2_with (at_builtin;refine wpList_append_own _ rfl _ _ 40 rfl w.heap.size 3 i0 _ 1 8 Tryz.underlying40 hi hz0 hz1 hz2 rfl (by decide) _ _ _ rfl (World.ownsRow_made w #[] 0 (nR9 _) (nZ9 _) (by simp)) ad n cap cs rfl ?qc1 ?qc2 ?qc3 ?qc4 ?qc5 ?qc6 ?_)
   case qc1 => exact hl
   case qc2 =>
    intro j u hj;exact Lib.cell?_alloc_some _ (A.out j u hj)
   case qc3 => exact H1.out
   case qc4 => unfold maxLen;omega
   case qc5 => omega
   case qc6 => simp
   intro v' w1 hown hgrow hnil;go_wp2;go_ret;refine ⟨v',rfl,by simpa using hown,?_⟩
   exact ((Below.refl _ w).alloc (nR9 _) _).grown hgrow (by simp) (by intro k hk;simp[Value.ownBlock]at hk;omega)
theorem qaf (v:Value)(a:Option Addr)(n cap:Nat)(cs:List Value)(w:World)(hv:v=.slice a n cap)(hn:a=none→n=0)(hl:cs.length=n*5)(hb:n≤1048576)(hc:∀ ad,a=some ad→∀ j u,cs[j]?=some u→w.cell? (ad.add j)=some u)(h1:∀ u∈cs,u.oneCell'=true) :
 Calls Tryz.prog 18 #[v] w fun e w'=>∃ v',e=.returned v'∧w'.ownsRow w.heap.size 42 5 v' n cs∧Below w.heap.size w w':=by
 subst hv;obtain ⟨i0,hi,hz0,hz1,hz2⟩:=info_parts nodeInfoB;have q27:∀ (w:World) (a:Option Addr) (n c n' c':Nat),(binOp .eql 27 (.slice a n c) (.slice none n' c')).run Tryz.prog w=.ok (.bool a.isNone) w:=fun w a n c n' c'=>Lib.run_eql_slice_nil w _ _ a n c n' c' Tryz.underlying27
 cases a with
 | none =>
   have hn:=hn rfl;subst hn;have hcs:cs=[]:=List.eq_nil_of_length_eq_zero (by omega)
   subst hcs
   go_enter Tryz.func18,Tryz.ntmps18
   go_wp2;go_ret;exact ⟨_,rfl,World.ownsRow_nil _ _ _ _,Below.refl _ _⟩
 | some ad =>
   have A:Hid (∀ j u,cs[j]?=some u→w.cell? (ad.add j)=some u):=hc ad rfl;have H1:Hid (∀ u∈cs,u.oneCell'=true):=h1;clear hc h1 hn
   go_enter Tryz.func18,Tryz.ntmps18
   go_wp2_with (at_builtin;refine wpList_append_own _ rfl _ _ 27 rfl w.heap.size 42 i0 _ 5 80 Tryz.underlying27 hi hz0 hz1 hz2 rfl (by decide) _ _ _ rfl (World.ownsRow_made w #[] 0 (nR9 _) (nZ9 _) (by simp)) ad n cap cs rfl ?qc1 ?qc2 ?qc3 ?qc4 ?qc5 ?qc6 ?_)
   case qc1 => exact hl
   case qc2 =>
    intro j u hj;exact Lib.cell?_alloc_some _ (A.out j u hj)
   case qc3 => exact H1.out
   case qc4 => unfold maxLen;omega
   case qc5 => omega
   case qc6 => simp
   intro v' w1 hown hgrow hnil;go_wp2;go_ret;refine ⟨v',rfl,by simpa using hown,?_⟩
   exact ((Below.refl _ w).alloc (nR9 _) _).grown hgrow (by simp) (by intro k hk;simp[Value.ownBlock]at hk;omega)
theorem Yo (S:Nat→Prop)(v:Value)(l:List (ByteArray × ByteArray))(w:World)(h:qj S w v l)(hl:l.length≤1048576) :
 Calls Tryz.prog 19 #[v] w fun e w'=>∃ v',e=.returned v'∧yu w.heap.size w' v' l∧Below w.heap.size w w':=by
 obtain ⟨a,cap,hv,h2,h3,h4⟩:=h;refine qdl v a l.length cap (attrCells l) w hv (fun e=>?_) (qV l) hl (fun ad e j u hj=>?_) (yv l)
 · rcases Nat.eq_zero_or_pos l.length with h0 | h0
   · exact h0
   · obtain ⟨b, o, ha, _⟩ := h4 (by intro e;subst e;simp at h0)
     rw[ha]at e;cases e
 · have hne : l ≠ [] := by intro e;subst e;simp[attrCells]at hj
   obtain ⟨b,o,ha,_,hc⟩:=h4 hne;rw[ha]at e
   injection e with e
   rw[←e,Addr.add_lit];exact qj.cells hc j u hj
theorem Yp (S:Nat→Prop)(v:Value)(l:List Int)(w:World)(h:qW S w v l)(hl:l.length≤1048576) :
 Calls Tryz.prog 20 #[v] w fun e w'=>∃ v',e=.returned v'∧qE w.heap.size w' v' l∧Below w.heap.size w w':=by
 have h0:=h;obtain ⟨a,cap,hv,h2,h3,h4⟩:=h;refine qdm v a l.length cap (qo l) w hv (fun e=>?_) (by rw[zp];omega) hl (fun ad e j u hj=>?_) (zt l)
 · rcases Nat.eq_zero_or_pos l.length with h0 | h0
   · exact h0
   · obtain ⟨b, o, ha, _⟩ := h4 (by intro e;subst e;simp at h0)
     rw[ha]at e;cases e
 · subst e;rw[hv]at h0
   exact h0.cells j u hj
theorem qu.raw {S:Nat→Prop}{w:World}{v:Value}{ns:List Nd}(h:qu S w v ns):∃ (a:Option Addr)(cap:Nat)(ms:List Rw),v=.slice a ns.length cap∧(a=none→ns.length=0)∧ms.length=ns.length∧(∀ (i:Nat) r x,ms[i]?=some r→ns[i]?=some x→jU S w r x)∧(∀ ad,a=some ad→∀ j u,(rawCells ms)[j]?=some u→w.cell? (ad.add j)=some u)∧∀ u∈rawCells ms,u.oneCell'=true:=by
 obtain ⟨a,cap,hv,h2,h3,h4⟩:=h
 by_cases hne:ns=[]
 · subst hne;exact ⟨a,cap,[],hv,fun _=>rfl,rfl,by simp,by simp[rawCells],by simp[rawCells]⟩
 · obtain ⟨b, o, ha, hs, hc⟩ := h4 hne
   obtain ⟨ms,hml,hms⟩:=J5 (p:=fun i (r:Rw)=>∀ x,ns[i]?=some x→jU S w r x∧w.cell? ⟨b,o+i*5,none⟩=some (.bool r.text)∧w.cell? ⟨b,o+i*5+1,none⟩=some (.string r.s)∧w.cell? ⟨b,o+i*5+2,none⟩=some r.va∧w.cell? ⟨b,o+i*5+3,none⟩=some (.int .i64 r.par)∧w.cell? ⟨b,o+i*5+4,none⟩=some r.vk) ns.length (fun i hi=>by
    obtain ⟨va,vk,c0,c1,c2,c3,c4,hA,hK⟩:=hc i ns[i] (List.getElem?_eq_getElem hi);refine ⟨⟨ns[i].text,ns[i].s,va,ns[i].parent,vk⟩,fun x hx=>?_⟩
    rw[List.getElem?_eq_getElem hi]at hx
    obtain rfl:=Option.some.inj hx;exact ⟨⟨rfl,rfl,rfl,hA,hK⟩,c0,c1,c2,c3,c4⟩)
   have hget:∀ (i:Nat) r,ms[i]?=some r→∃ x,ns[i]?=some x:=fun i r hr=>by
    have:=qh hr;exact ⟨ns[i]'(by omega),List.getElem?_eq_getElem (by omega)⟩
   refine ⟨a,cap,ms,hv,(fun e=>by rw[ha]at e;cases e),hml,fun i r x hr hx=>(hms i r hr x hx).1,fun ad e j u hj=>?_,fun u hu=>?_⟩
   · rw[ha]at e
     injection e with e
     subst e;have hjl:=qh hj;rw[zS]at hjl
     obtain ⟨r,hr⟩:∃ r,ms[j / 5]?=some r:=⟨ms[j / 5]'(by omega),List.getElem?_eq_getElem (by omega)⟩
     obtain ⟨x,hx⟩:=hget _ _ hr;obtain ⟨_,c0,c1,c2,c3,c4⟩:=hms _ r hr x hx;obtain ⟨g0,g1,g2,g3,g4⟩:=zf ms (j / 5) r hr;rw[Addr.add_lit]
     rcases (by omega:j % 5=0∨j % 5=1∨j % 5=2∨j % 5=3∨j % 5=4) with e|e|e|e|e
     · rw[show o+j=o+j / 5*5 by omega,c0];rw[show j=j / 5*5 by omega,g0]at hj;exact hj
     · rw[show o+j=o+j / 5*5+1 by omega,c1];rw[show j=j / 5*5+1 by omega,g1]at hj;exact hj
     · rw[show o+j=o+j / 5*5+2 by omega,c2];rw[show j=j / 5*5+2 by omega,g2]at hj;exact hj
     · rw[show o+j=o+j / 5*5+3 by omega,c3];rw[show j=j / 5*5+3 by omega,g3]at hj;exact hj
     · rw[show o+j=o+j / 5*5+4 by omega,c4];rw[show j=j / 5*5+4 by omega,g4]at hj;exact hj
   · obtain ⟨j, hj⟩ := List.mem_iff_getElem?.1 hu;have hjl:=qh hj;rw[zS]at hjl
     obtain ⟨r,hr⟩:∃ r,ms[j / 5]?=some r:=⟨ms[j / 5]'(by omega),List.getElem?_eq_getElem (by omega)⟩
     obtain ⟨x,hx⟩:=hget _ _ hr;obtain ⟨⟨_,_,_,hA,hK⟩,_⟩:=hms _ r hr x hx;obtain ⟨g0,g1,g2,g3,g4⟩:=zf ms (j / 5) r hr;obtain ⟨a2,c2,hA2,_⟩:=hA;obtain ⟨k2,d2,hK2,_⟩:=hK
     rcases (by omega:j % 5=0∨j % 5=1∨j % 5=2∨j % 5=3∨j % 5=4) with e|e|e|e|e
     · rw[show j=j / 5*5 by omega,g0]at hj;obtain rfl:=Option.some.inj hj;rfl
     · rw[show j=j / 5*5+1 by omega,g1]at hj;obtain rfl:=Option.some.inj hj;rfl
     · rw[show j=j / 5*5+2 by omega,g2]at hj;obtain rfl:=Option.some.inj hj;rw[hA2];rfl
     · rw[show j=j / 5*5+3 by omega,g3]at hj;obtain rfl:=Option.some.inj hj;rfl
     · rw[show j=j / 5*5+4 by omega,g4]at hj;obtain rfl:=Option.some.inj hj;rw[hK2];rfl
structure NB (B bb:Nat) (v:Value) (ns:List Nd) (i:Nat) (ms:List Rw) (W:World):Prop where
 len:ms.length=ns.length
 row:W.ownsRow B 42 5 v ns.length (rawCells ms)
 rlt:∀ g,v.ownBlock=some g→g<bb
 le:B≤bb
 box:W.heap[bb]?=some (.cells #[v] 140 (0,0))
 each:∀ (j:Nat) r x,ms[j]?=some r→ns[j]?=some x→r.text=x.text∧r.s=x.s∧r.par=x.parent∧(j<i→qE (bb+1) W r.vk x.kids∧yu (bb+1) W r.va x.attrs)∧(i≤j→qj (fun b=>b<B) W r.va x.attrs∧qW (fun b=>b<B) W r.vk x.kids)
 kids:∀ (j k:Nat) (r q:Rw) (b:Nat),j≠k→j<i→k<i→ms[j]?=some r→ms[k]?=some q→r.vk.ownBlock=some b→q.vk.ownBlock≠some b
 attrs:∀ (j k:Nat) (r q:Rw) (b:Nat),j≠k→j<i→k<i→ms[j]?=some r→ms[k]?=some q→r.va.ownBlock=some b→q.va.ownBlock≠some b
theorem NB.bench {B bb:Nat}{v:Value}{ns:List Nd}{ms:List Rw}{W:World}(h:NB B bb v ns ns.length ms W)(hB:B≤W.heap.size):Bx B (fun b=>b<B) ns.length bb W v ns ms:=by
 refine ⟨h.box,h.le,h.len,h.row,fun j r x hr hx=>?_,fun j k r q b hne hr hq=>?_,fun j k r q b hne hj hk hr hq=>h.attrs j k r q b hne hj hk hr hq,fun b hb=>hb,hB⟩
 · obtain ⟨e1, e2, e3, e4, _⟩ := h.each j r x hr hx;obtain ⟨k1,k2⟩:=e4 (qh hx);have hle:=h.le
   have low:∀ {e:TypeId} {size n:Nat} {v:Value} {xs:List Value},W.ownsRow (bb+1) e size v n xs→W.ownsRow B e size v n xs:=fun ho=>by
    refine ⟨ho.1,?_⟩
    rcases ho.2 with h1|⟨g,cap,cur,h1,h2,h3⟩
    · exact Or.inl h1
    · exact Or.inr ⟨g,cap,cur,h1,by omega,h3⟩
   exact ⟨e1,e2,e3,low k1,fun _=>low k2,fun hj=>absurd (qh hx) (by omega)⟩
 · have h1 := qh hr;have h2:=qh hq;rw[h.len]at h1 h2
   exact h.kids j k r q b hne h1 h2 hr hq
theorem NB.step {B bb g cap:Nat}{ns:List Nd}{i:Nat}{ms:List Rw}{W Wa Wc:World}{va vk:Value}{r:Rw}{x:Nd}(h:NB B bb (.slice (some ⟨g,0,none⟩) ns.length cap) ns i ms W)(hr:ms[i]?=some r)(hx:ns[i]?=some x)(hBW:B≤W.heap.size)
 (hA:yu W.heap.size Wa va x.attrs) (ha:Below W.heap.size W Wa) (hK:qE Wa.heap.size Wc vk x.kids) (hc:Below Wa.heap.size (Wa.setCell ⟨g,i*5+2,none⟩ va) Wc) :
 NB B bb (.slice (some ⟨g,0,none⟩) ns.length cap) ns (i+1) (ms.set i { r with va:=va,vk:=vk }) (Wc.setCell ⟨g,i*5+4,none⟩ vk):=by
 have hbl:=qe h.box;have hgb:g<bb:=h.rlt g rfl;have hsa:=ha.size;have hsc:=hc.size;have hss:(Wa.setCell ⟨g,i*5+2,none⟩ va).heap.size=Wa.heap.size:=by simp
 have him:i<ms.length:=qh hr
 have old:∀ b,b<W.heap.size→b≠g→(Wc.setCell ⟨g,i*5+4,none⟩ vk).heap[b]?=W.heap[b]?:=fun b hb hne=>by
  rw[qb hne,hc.block b (by omega),qb hne,ha.block b hb]
 have rowa:Wa.ownsRow B 42 5 (.slice (some ⟨g,0,none⟩) ns.length cap) ns.length (rawCells ms):=qm h.row ha;have rowb:=(rowa.stored (i*5+2) va).1
 have rowc:Wc.ownsRow B 42 5 (.slice (some ⟨g,0,none⟩) ns.length cap) ns.length ((rawCells ms).set (i*5+2) va):=qk rowb (fun b hb=>by
  have:g=b:=by injection hb
  subst this;exact hc.block g (by omega))
 have rowd:=(rowc.stored (i*5+4) vk).1
 have ecell:((rawCells ms).set (i*5+2) va).set (i*5+4) vk=rawCells (ms.set i { r with va:=va,vk:=vk }):=by
  have e1:=xe ms i r va hr;have hr2:(ms.set i { r with va:=va })[i]?=some { r with va:=va }:=List.getElem?_set_self him
  have e2:=yA (ms.set i { r with va:=va }) i { r with va:=va } vk hr2
  rw[←e1,←e2,List.set_set]
 rw[ecell]at rowd
 have vab:∀ b,va.ownBlock=some b→W.heap.size≤b∧b<Wa.heap.size:=fun b hb=>hA.lt b hb
 have vkb:∀ b,vk.ownBlock=some b→Wa.heap.size≤b∧b<Wc.heap.size:=fun b hb=>hK.lt b hb
 have hAd:yu W.heap.size (Wc.setCell ⟨g,i*5+4,none⟩ vk) va x.attrs:=qk hA (fun b hb=>by
  obtain ⟨q1,q2⟩:=vab b hb;have hne:b≠g:=by omega
  rw[qb hne,hc.block b q2,qb hne])
 have hKd:qE Wa.heap.size (Wc.setCell ⟨g,i*5+4,none⟩ vk) vk x.kids:=qk hK (fun b hb=>qb (by have:=(vkb b hb).1;omega))
 have base:∀ {e:TypeId} {size n b:Nat} {v:Value} {xs:List Value} {U:World},b≥bb+1→U.ownsRow b e size v n xs→U.ownsRow (bb+1) e size v n xs:=fun hb ho=>by
  refine ⟨ho.1,?_⟩
  rcases ho.2 with h1|⟨g,cap,cur,h1,h2,h3⟩
  · exact Or.inl h1
  · exact Or.inr ⟨g,cap,cur,h1,by omega,h3⟩
 refine ⟨by rw[List.length_set];exact h.len,rowd,h.rlt,h.le,by rw[old bb hbl (by omega)];exact h.box,fun j q y hq hy=>?_,fun j k p q b hne hj hk hp hq hb=>?_,fun j k p q b hne hj hk hp hq hb=>?_⟩
 · by_cases hji : j = i
   · subst hji;rw[List.getElem?_set_self him]at hq
     obtain rfl:=Option.some.inj hq;rw[hx]at hy
     obtain rfl:=Option.some.inj hy;obtain ⟨e1,e2,e3,_,_⟩:=h.each j r x hr hx;exact ⟨e1,e2,e3,fun _=>⟨base (by omega) hKd,base (by omega) hAd⟩,fun hh=>by omega⟩
   · rw[List.getElem?_set_ne (fun e => hji e.symm)]at hq
     obtain ⟨e1,e2,e3,e4,e5⟩:=h.each j q y hq hy;refine ⟨e1,e2,e3,fun hj=>?_,fun hj=>?_⟩
     · obtain ⟨f1, f2⟩ := e4 (by omega)
       exact ⟨qk f1 (fun b hb=>old b (f1.lt b hb).2 (by have:=(f1.lt b hb).1;omega)),qk f2 (fun b hb=>old b (f2.lt b hb).2 (by have:=(f2.lt b hb).1;omega))⟩
     · obtain ⟨f1, f2⟩ := e5 (by omega)
       have hgB:B≤g:=(h.row.lt g rfl).1;exact ⟨f1.carry (fun b hb=>⟨hb,old b (by omega) (by omega)⟩),f2.carry (fun b hb=>⟨hb,old b (by omega) (by omega)⟩)⟩
 · by_cases hji : j = i
   · subst hji;rw[List.getElem?_set_self him]at hp
     obtain rfl:=Option.some.inj hp;rw[List.getElem?_set_ne hne]at hq
     obtain ⟨y,hy⟩:∃ y,ns[k]?=some y:=⟨ns[k]'(by have:=qh hq;rw[h.len]at this;exact this),by simp⟩
     intro e;have:=((h.each k q y hq hy).2.2.2.1 (by omega)).1.lt b e
     have:=(vkb b hb).1;omega
   · rw[List.getElem?_set_ne (fun e => hji e.symm)]at hp
     by_cases hki:k=i
     · subst hki;rw[List.getElem?_set_self him]at hq
       obtain rfl:=Option.some.inj hq;obtain ⟨y,hy⟩:∃ y,ns[j]?=some y:=⟨ns[j]'(by have:=qh hp;rw[h.len]at this;exact this),by simp⟩
       intro e;have:=((h.each j p y hp hy).2.2.2.1 (by omega)).1.lt b hb
       have:=(vkb b e).1;omega
     · rw[List.getElem?_set_ne (fun e => hki e.symm)]at hq
       exact h.kids j k p q b hne (by omega) (by omega) hp hq hb
 · by_cases hji : j = i
   · subst hji;rw[List.getElem?_set_self him]at hp
     obtain rfl:=Option.some.inj hp;rw[List.getElem?_set_ne hne]at hq
     obtain ⟨y,hy⟩:∃ y,ns[k]?=some y:=⟨ns[k]'(by have:=qh hq;rw[h.len]at this;exact this),by simp⟩
     intro e;have:=((h.each k q y hq hy).2.2.2.1 (by omega)).2.lt b e
     have:=(vab b hb).1;omega
   · rw[List.getElem?_set_ne (fun e => hji e.symm)]at hp
     by_cases hki:k=i
     · subst hki;rw[List.getElem?_set_self him]at hq
       obtain rfl:=Option.some.inj hq;obtain ⟨y,hy⟩:∃ y,ns[j]?=some y:=⟨ns[j]'(by have:=qh hp;rw[h.len]at this;exact this),by simp⟩
       intro e;have:=((h.each j p y hp hy).2.2.2.1 (by omega)).2.lt b hb
       have:=(vab b e).1;omega
     · rw[List.getElem?_set_ne (fun e => hki e.symm)]at hq
       exact h.attrs j k p q b hne (by omega) (by omega) hp hq hb
end
section
attribute [local go_sem] qd
set_option linter.unusedSimpArgs false in
set_option maxHeartbeats 2000000 in
theorem XB (v:Value)(ns:List Nd)(w:World)(h:qu (fun b=>b<w.heap.size) w v ns)(hne:ns≠[])(hb:Bnd 1000 ns) :
 Calls Tryz.prog 40 #[v] w fun e w'=>∃ bb v' ms',e=.returned (.pointer (some ⟨bb,0,none⟩))∧Bx w.heap.size (fun b=>b<w.heap.size) ns.length bb w' v' ns ms'∧Below w.heap.size w w':=by
 obtain ⟨a0,cap0,ms0,hv,ha0,hml,hraw,hcells,hone⟩:=h.raw;have hnl:0<ns.length:=List.length_pos_iff.2 hne;have hbl:=hb.1;have HC:Hid _:=qaf v a0 ns.length cap0 (rawCells ms0) w hv ha0 (by rw[zS,hml]) (by omega) hcells hone
 have HRW:Hid (∀ (i:Nat) r x,ms0[i]?=some r→ns[i]?=some x→jU (fun b=>b<w.heap.size) w r x):=hraw
 have HBN:Hid (Bnd 1000 ns):=hb;subst hv;clear h hraw hcells hone ha0 hb
 go_enter Tryz.func40,Tryz.ntmps40
 go_wp2_with fail;refine (Calls.mono HC.out ?_);rintro e w1 ⟨v1,rfl,hown,hb1⟩;obtain ⟨g,cap,rfl,hcl,hcm⟩:=yi hown hnl;obtain ⟨hgB,hgl⟩:=hown.lt g rfl;have hsz1:=hb1.size;obtain ⟨bb,hbb⟩:∃ bb,bb=w1.heap.size:=⟨_,rfl⟩
 have HNB:Hid (NB w.heap.size bb (.slice (some ⟨g,0,none⟩) ns.length cap) ns 0 ms0 (w1.alloc (.cells #[.slice (some ⟨g,0,none⟩) ns.length cap] 140))):=by
  refine ⟨hml,World.ownsRow.alloc hown _,fun g' e=>by injection e with e;rw[hbb,←e];exact hgl,by omega,by rw[hbb];exact heap_alloc_new _ _,fun j r x hr hx=>?_,fun j k r q b _ hj=>by omega,fun j k r q b _ hj=>by omega⟩
  obtain ⟨e1,e2,e3,e4,e5⟩:=HRW.out j r x hr hx;have hbx:Below w.heap.size w (w1.alloc (.cells #[.slice (some ⟨g,0,none⟩) ns.length cap] 140)):=hb1.alloc hsz1 _;exact ⟨e1,e2,e3,fun hj=>by omega,fun _=>⟨e4.later hbx,e5.later hbx⟩⟩
 have HB1:Hid (Below w.heap.size w (w1.alloc (.cells #[.slice (some ⟨g,0,none⟩) ns.length cap] 140))):=hb1.alloc hsz1 _;have b0:(w1.alloc (.cells #[.slice (some ⟨g,0,none⟩) ns.length cap] 140)).cell? ⟨w1.heap.size,0,none⟩=some (.slice (some ⟨g,0,none⟩) ns.length cap):=by rw[cH9 (heap_alloc_new w1 _)];rfl
 unfold maxLen at hcm
 clear hown HC HRW hb1;go_wp2_with fail;rw[←hbb];clear hbb b0 hgl hsz1
 go_loopg [14] ns.length (fun gh vi wr=>∃ (i:Nat) (ms:List Rw),i+gh=ns.length∧vi=.int .i64 (i:Int)∧NB w.heap.size bb (.slice (some ⟨g,0,none⟩) ns.length cap) ns i ms wr∧Below w.heap.size w wr)
 case atStart => exact ⟨0,ms0,by omega,rfl,HNB.out,HB1.out⟩
 case round =>
  obtain ⟨i,ms,hig,rfl,hN,hB⟩:=hrel;have HN:Hid (NB w.heap.size bb (.slice (some ⟨g,0,none⟩) ns.length cap) ns i ms wr):=hN;clear hN
  by_cases hlt:i<ns.length
  · have hlti : (i : Int) < (ns.length : Int) := by omega
    obtain ⟨x,hx⟩:∃ x,ns[i]?=some x:=⟨ns[i],by simp[hlt]⟩
    obtain ⟨r,hr⟩:∃ r,ms[i]?=some r:=⟨ms[i]'(by rw[HN.out.len];exact hlt),by simp⟩
    obtain ⟨hbk,hba⟩:=HBN.out.2 x (List.mem_of_getElem? hx);obtain ⟨_,_,_,_,hfar⟩:=HN.out.each i r x hr hx;obtain ⟨hAt,hKt⟩:=hfar (nR9 _);have hsw:=hB.size;have hgb:g<bb:=HN.out.rlt g rfl;have hbbl:=qe HN.out.box;obtain ⟨_,_,h2,_,h4⟩:=zf ms i r hr;have c2:wr.cell? ⟨g,i*5+2,none⟩=some r.va:=by rw[World.ownsRow.cellAt HN.out.row (i*5+2) (by omega)];exact h2
    have c4:wr.cell? ⟨g,i*5+4,none⟩=some r.vk:=by rw[World.ownsRow.cellAt HN.out.row (i*5+4) (by omega)];exact h4
    obtain ⟨cur,hcur,_,_,_,_⟩:=yz HN.out.row;obtain ⟨aa,ac,hva⟩:∃ a c,r.va=.slice a x.attrs.length c:=by obtain ⟨a,c,e,_⟩:=hAt;exact ⟨a,c,e⟩
    obtain ⟨ka,kc,hvk⟩:∃ a c,r.vk=.slice a x.kids.length c:=by obtain ⟨a,c,e,_⟩:=hKt;exact ⟨a,c,e⟩
    have HBX:Hid (∀ W:World,W.heap[bb]?=wr.heap[bb]?→W.cell? ⟨bb,0,none⟩=some (.slice (some ⟨g,0,none⟩) ns.length cap)):=fun W e=>by rw[cH9 (e.trans HN.out.box)];rfl
    have HA:Hid (Calls Tryz.prog 19 #[.slice aa x.attrs.length ac] wr.drew fun e w'=>∃ v',e=.returned v'∧(yu wr.heap.size w' v' x.attrs∧Below wr.heap.size wr.drew w')):=by
     have:=Yo (fun b=>b<w.heap.size) r.va x.attrs wr.drew (hAt.carry fun b hb=>⟨hb,rfl⟩) (by omega)
     rw[hva]at this
     exact this
    have HK:Hid (∀ W:World,(∀ b,b<w.heap.size→W.heap[b]?=wr.heap[b]?)→Calls Tryz.prog 20 #[.slice ka x.kids.length kc] W fun e w'=>∃ v',e=.returned v'∧(qE W.heap.size w' v' x.kids∧Below W.heap.size W w')):=fun W e=>by
     rw[←hvk];exact Yp (fun b=>b<w.heap.size) r.vk x.kids W (hKt.carry fun b hb=>⟨hb,e b hb⟩) (by omega)
    have HST:Hid (∀ (Wa Wc:World) (va vk:Value),yu wr.heap.size Wa va x.attrs→Below wr.heap.size wr Wa→qE Wa.heap.size Wc vk x.kids→Below Wa.heap.size (Wa.setCell ⟨g,i*5+2,none⟩ va) Wc→NB w.heap.size bb (.slice (some ⟨g,0,none⟩) ns.length cap) ns (i+1) (ms.set i { r with va:=va,vk:=vk }) (Wc.setCell ⟨g,i*5+4,none⟩ vk)∧Below w.heap.size w (Wc.setCell ⟨g,i*5+4,none⟩ vk)):=fun Wa Wc va vk q1 q2 q3 q4=>by
     refine ⟨HN.out.step hr hx (by omega) q1 q2 q3 q4,?_⟩
     have s1:Below w.heap.size w Wa:=hB.trans (q2.mono hsw);have s2:=s1.setCell (p:=⟨g,i*5+2,none⟩) hgB va;have s3:=s2.trans (q4.mono (Nat.le_trans hsw q2.size));exact s3.setCell (p:=⟨g,i*5+4,none⟩) hgB vk
    rw[hva]at c2
    rw[hvk]at c4
    have fz:∀ (W:World) (k:Nat),W.heap[g]?=some (.cells cur 42 (0,0))→W.frozen? ⟨g,k,none⟩=false:=fun W k e=>fH9 e k
    have HFZ:Hid _:=fz;have HCUR:Hid _:=hcur;have HS0:Hid _:=HBX.out wr.drew rfl;have c2d:wr.drew.cell? ⟨g,i*5+2,none⟩=some (.slice aa x.attrs.length ac):=c2;clear hAt hKt hx hr h2 h4 fz hcur hfar hva hvk;go_wp2_with fail;refine wp_region_held_drew (S:=fun W:World=>W.cell? ⟨bb,0,none⟩=some (.slice (some ⟨g,0,none⟩) ns.length cap)) (by kernel_rfl) HS0.out (fun hHeld=>?_)
    refine wqi [0,1,2,3,4,5,6,7,8,9,10,11] ?_
    repeat (refine wqt (v:=?_) rfl (by kernel_rfl) (fun _ _ _ h=>h) (by rfl) (by assumption) ?_ ?_;rotate_left;(· (intro w hSw;(try dsimp only at hSw);go_simp;try with_reducible rfl));try simp only[Act.put,List.getElem_toArray,List.getElem_cons_succ,List.getElem_cons_zero,List.setIfInBounds_toArray,List.set_cons_zero,List.set_cons_succ])
    refine wqn ?_;refine wpAnyH_ready (rs:=[12]) (by kernel_rfl) (by simp) ?_
    refine AllReadyH.cons rfl (fun K hK=>?_) AllReadyH.nil
    go_simp;refine hK.out _ _ HS0.out (fun hHeld=>?_)
    clear hK K
    try simp only[Act.put,List.setIfInBounds_toArray,List.set_cons_zero,List.set_cons_succ]
    refine wpAnyH_ready (rs:=[13]) (by kernel_rfl) (by simp) ?_
    refine AllReadyH.cons rfl (fun K hK=>?_) AllReadyH.nil
    refine qK (by rfl) 19 #[.slice aa x.attrs.length ac] (by go_simp) _ HA.out ?_
    rintro va Wa ⟨hA1,hA2⟩;have hA2:Below wr.heap.size wr Wa:=⟨hA2.os,hA2.tape,hA2.output,hA2.size,fun b hb=>hA2.block b hb⟩
    obtain ⟨ga,na,ca,rfl⟩:∃ a n c,va=.slice a n c:=qJ hA1;have hsa:=hA2.size;have HSa:Hid _:=HBX.out Wa (hA2.block bb hbbl);have HSb:Hid _:=HBX.out (Wa.setCell ⟨g,i*5+2,none⟩ (.slice ga na ca)) ((qb (by omega)).trans (hA2.block bb hbbl))
    have ca2:Wa.cell? ⟨g,i*5+2,none⟩=some (.slice aa x.attrs.length ac):=by rw[hA2.cell (p:=⟨g,i*5+2,none⟩) (qe HCUR.out)];exact c2
    have fa2:=HFZ.out Wa (i*5+2) ((hA2.block g (qe HCUR.out)).trans HCUR.out);have HA1:Hid _:=hA1;clear hA1;refine hK.out _ _ HSa.out (fun hHeld=>?_)
    clear hK K
    try simp only[Act.put,List.setIfInBounds_toArray,List.set_cons_zero,List.set_cons_succ]
    refine wqi [14,15] ?_
    repeat (refine wqt (v:=?_) rfl (by kernel_rfl) (fun _ _ _ h=>h) (by rfl) (by assumption) ?_ ?_;rotate_left;(· (intro w hSw;(try dsimp only at hSw);go_simp;try with_reducible rfl));try simp only[Act.put,List.getElem_toArray,List.getElem_cons_succ,List.getElem_cons_zero,List.setIfInBounds_toArray,List.set_cons_zero,List.set_cons_succ])
    refine wqn ?_;refine wpAnyH_ready (rs:=[16]) (by kernel_rfl) (by simp) ?_
    refine AllReadyH.cons rfl (fun K hK=>?_) AllReadyH.nil
    go_simp;refine hK.out _ _ HSb.out (fun hHeld=>?_)
    clear hK K
    try simp only[Act.put,List.setIfInBounds_toArray,List.set_cons_zero,List.set_cons_succ]
    refine wpAnyH_done (by kernel_rfl) ?_ _
    have hgne:∀ b,b<w.heap.size→b≠g:=fun b hb=>by omega
    have HSc:Hid _:=HBX.out (Wa.setCell ⟨g,i*5+2,none⟩ (.slice ga na ca)).drew ((qb (by omega)).trans (hA2.block bb hbbl))
    have HKC:Hid _:=HK.out (Wa.setCell ⟨g,i*5+2,none⟩ (.slice ga na ca)).drew (fun b hb=>(qb (hgne b hb)).trans (hA2.block b (by omega)))
    have rowa:Wa.ownsRow w.heap.size 42 5 (.slice (some ⟨g,0,none⟩) ns.length cap) ns.length (rawCells ms):=qm HN.out.row hA2
    have cb4:(Wa.setCell ⟨g,i*5+2,none⟩ (.slice ga na ca)).drew.cell? ⟨g,i*5+4,none⟩=some (.slice ka x.kids.length kc):=by
     have h1:(Wa.setCell ⟨g,i*5+2,none⟩ (.slice ga na ca)).cell? ⟨g,i*5+4,none⟩=Wa.cell? ⟨g,i*5+4,none⟩:=World.cell?_setCell_other _ _ _ _ (by simp)
     rw[show (Wa.setCell ⟨g,i*5+2,none⟩ (.slice ga na ca)).drew.cell? ⟨g,i*5+4,none⟩=(Wa.setCell ⟨g,i*5+2,none⟩ (.slice ga na ca)).cell? ⟨g,i*5+4,none⟩ from rfl,h1,hA2.cell (p:=⟨g,i*5+4,none⟩) (qe HCUR.out)]
     exact c4
    obtain ⟨Wb,hWb⟩:∃ Wb,Wb=(Wa.setCell ⟨g,i*5+2,none⟩ (.slice ga na ca)).drew:=⟨_,rfl⟩;have hWbs:Wb.heap.size=Wa.heap.size:=by rw[hWb];simp
    have HWB:Hid (∀ Wc,Below Wb.heap.size Wb Wc→Below Wa.heap.size (Wa.setCell ⟨g,i*5+2,none⟩ (.slice ga na ca)) Wc):=fun Wc hq=>by rw[←hWbs];rw[hWb]at hq ⊢;exact ⟨hq.os,hq.tape,hq.output,hq.size,fun b hb=>hq.block b hb⟩
    rw[←hWb]at HSc HKC cb4
    have HROWB:Hid (∃ cur',Wb.heap[g]?=some (.cells cur' 42 (0,0))):=by
     obtain ⟨cur',h',_⟩:=yz ((rowa.stored (i*5+2) (.slice ga na ca)).1);exact ⟨cur',by rw[hWb];exact h'⟩
    have hbbW:bb<Wb.heap.size:=by omega
    have HBXB:Hid (Wb.heap[bb]?=wr.heap[bb]?):=by
     show _=_
     rw[hWb];exact (qb (by omega)).trans (hA2.block bb hbbl)
    clear rowa HSb HSa ca2 fa2 c2 c4 c2d HA HK HS0;go_wp2_with fail;refine wp_region_held_drew (S:=fun W:World=>W.cell? ⟨bb,0,none⟩=some (.slice (some ⟨g,0,none⟩) ns.length cap)) (by kernel_rfl) (by first|exact HSc.out|(rw[←hWb];exact HSc.out)) (fun hHeld=>?_)
    first|rw[←hWb]|skip
    clear hWb;refine wqi [0,1,2,3,4,5,6,7,8,9,10,11] ?_
    repeat (refine wqt (v:=?_) rfl (by kernel_rfl) (fun _ _ _ h=>h) (by rfl) (by assumption) ?_ ?_;rotate_left;(· (intro w hSw;(try dsimp only at hSw);go_simp;try with_reducible rfl));try simp only[Act.put,List.getElem_toArray,List.getElem_cons_succ,List.getElem_cons_zero,List.setIfInBounds_toArray,List.set_cons_zero,List.set_cons_succ])
    refine wqn ?_;refine wpAnyH_ready (rs:=[12]) (by kernel_rfl) (by simp) ?_
    refine AllReadyH.cons rfl (fun K hK=>?_) AllReadyH.nil
    go_simp;refine hK.out _ _ HSc.out (fun hHeld=>?_)
    clear hK K
    try simp only[Act.put,List.setIfInBounds_toArray,List.set_cons_zero,List.set_cons_succ]
    refine wpAnyH_ready (rs:=[13]) (by kernel_rfl) (by simp) ?_
    refine AllReadyH.cons rfl (fun K hK=>?_) AllReadyH.nil
    refine qK (by rfl) 20 #[.slice ka x.kids.length kc] (by go_simp) _ HKC.out ?_
    rintro vk Wc ⟨hK1,hK2⟩;obtain ⟨gk,nk,ck,rfl⟩:∃ a n c,vk=.slice a n c:=qJ hK1;obtain ⟨cur',hcur'⟩:=HROWB.out;have hgl':=qe hcur';have HSd:Hid _:=HBX.out Wc ((hK2.block bb hbbW).trans HBXB.out);have HSe:Hid _:=HBX.out (Wc.setCell ⟨g,i*5+4,none⟩ (.slice gk nk ck)) ((qb (by omega)).trans ((hK2.block bb hbbW).trans HBXB.out))
    have cc4:Wc.cell? ⟨g,i*5+4,none⟩=some (.slice ka x.kids.length kc):=by rw[hK2.cell (p:=⟨g,i*5+4,none⟩) hgl'];exact cb4
    have fc4:Wc.frozen? ⟨g,i*5+4,none⟩=false:=fH9 ((hK2.block g hgl').trans hcur') _;have HG:Hid _:=HST.out Wa Wc (.slice ga na ca) (.slice gk nk ck) HA1.out hA2 (by rw[←hWbs];exact hK1) (HWB.out Wc hK2)
    clear hK1 hK2;refine hK.out _ _ HSd.out (fun hHeld=>?_)
    clear hK K
    try simp only[Act.put,List.setIfInBounds_toArray,List.set_cons_zero,List.set_cons_succ]
    refine wqi [14,15] ?_
    repeat (refine wqt (v:=?_) rfl (by kernel_rfl) (fun _ _ _ h=>h) (by rfl) (by assumption) ?_ ?_;rotate_left;(· (intro w hSw;(try dsimp only at hSw);go_simp;try with_reducible rfl));try simp only[Act.put,List.getElem_toArray,List.getElem_cons_succ,List.getElem_cons_zero,List.setIfInBounds_toArray,List.set_cons_zero,List.set_cons_succ])
    refine wqn ?_;refine wpAnyH_ready (rs:=[16]) (by kernel_rfl) (by simp) ?_
    refine AllReadyH.cons rfl (fun K hK=>?_) AllReadyH.nil
    go_simp;refine hK.out _ _ HSe.out (fun hHeld=>?_)
    clear hK K
    try simp only[Act.put,List.setIfInBounds_toArray,List.set_cons_zero,List.set_cons_succ]
    refine wpAnyH_done (by kernel_rfl) ?_ _
    go_wp2_with fail
    go_roundg (ns.length-(i+1))
    case measure => omega
    case rel => exact ⟨i+1,_,by omega,by go_num,HG.out.1,HG.out.2⟩
  · have hlti : ¬ (i : Int) < (ns.length : Int) := by omega
    have hieq:i=ns.length:=by omega
    subst hieq;have HF:Hid _:=HN.out.bench hB.size;go_wp2_with fail
    go_returns
    exact ⟨bb,rfl,⟨_,ms,HF.out⟩,hB⟩
end
end Go.Proofs.YtchkbffgancidaaGreatDoor
