/- Bundled: LineC LineW RefParse RevW AllW GrownW NewM NewW DoAC. What each says stands ahead of it. -/
import Derived.Test.YtfplhcicbbhljaaGreatDoorBundle23
import Derived.Test.YtfplhcicbbhljaaGreatDoorBundle35
namespace Go.Proofs.YtfplhcicbbhljaaGreatDoor
open Go.ChangeShapes Go.WideShapes Go.ChangeAt Go.RowKit
set_option maxRecDepth 100000
section
attribute [local go_sem] qd
structure xZ (w:World) (k:Int) (W:World):Prop where
 below:Below w.heap.size w W
 res:W.heap[w.heap.size]?=some (.cells #[.int .i64 0,.int .i64 0,.slice none 0 0,.string ⟨#[]⟩,.string ⟨#[]⟩] 24 (0,0))
 box:W.heap[w.heap.size+1]?=some (.cells #[.int .i64 k,.int .i64 0,.slice none 0 0,.string ⟨#[]⟩,.string ⟨#[]⟩] 24 (0,0))
theorem xZ.start (w:World)(k:Int):xZ w k ((w.alloc (.cells #[.int .i64 0,.int .i64 0,.slice none 0 0,.string ⟨#[]⟩,.string ⟨#[]⟩] 24)).alloc (.cells #[.int .i64 k,.int .i64 0,.slice none 0 0,.string ⟨#[]⟩,.string ⟨#[]⟩] 24)) :=
  ⟨(Below.alloc1 w _).alloc (by simp) _, by rw[heap_alloc_old _ _ (by simp)];exact heap_alloc_new _ _, by
    have:=heap_alloc_new (w.alloc (.cells #[.int .i64 0,.int .i64 0,.slice none 0 0,.string ⟨#[]⟩,.string ⟨#[]⟩] 24)) (.cells #[.int .i64 k,.int .i64 0,.slice none 0 0,.string ⟨#[]⟩,.string ⟨#[]⟩] 24)
    rwa [World.size_alloc]at this⟩
theorem xZ.later {w W W':World}{k:Int}(h:xZ w k W)(hb:Below W.heap.size W W'):xZ w k W' :=
 ⟨h.below.trans (hb.mono h.below.size),(hb.block _ (qh h.res)).trans h.res,(hb.block _ (qh h.box)).trans h.box⟩
theorem xZ.lay {w W:World}{k:Int}(h:xZ w k W)(i:Nat)(v v0 v1 v2 v3 v4:Value):Below w.heap.size w (Ka (W.setCell ⟨w.heap.size+1,i,none⟩ v) w.heap.size 0 v0 v1 v2 v3 v4) :=
 yy (h.below.setCell (p:=⟨w.heap.size+1,i,none⟩) (by show w.heap.size≤w.heap.size+1;omega) _) (nR9 _)
theorem xZ.lay2 {w W W':World}{k:Int}(h:xZ w k W)(i j:Nat)(u v v0 v1 v2 v3 v4:Value)(hb:Below (W.setCell ⟨w.heap.size+1,i,none⟩ u).heap.size (W.setCell ⟨w.heap.size+1,i,none⟩ u) W'):Below w.heap.size w (Ka (W'.setCell ⟨w.heap.size+1,j,none⟩ v) w.heap.size 0 v0 v1 v2 v3 v4) :=
 yy (((h.below.setCell (p:=⟨w.heap.size+1,i,none⟩) (by show w.heap.size≤w.heap.size+1;omega) _).trans (hb.mono (by simpa using h.below.size))).setCell (p:=⟨w.heap.size+1,j,none⟩) (by show w.heap.size≤w.heap.size+1;omega) _) (nR9 _)
def Qp (k : Int) : Prop := ∀ (said : List UInt8)(w : World), jp w → said.length ≤ 2500 → Calls Tryz.prog 12 #[.int .i64 k, .string (qa said)] w fun e w' => ∃ a c, e = .returned (.tuple #[.agg #[.int .i64 k, .int .i64 0, .slice a (qw k said).1.content.length c, .string (qw k said).1.name, .string (qw k said).1.s], .int .i64 (qw k said).2]) ∧
    qb (fun b=>w.heap.size≤b) w' (said.length+1) (.slice a (qw k said).1.content.length c) (qw k said).1.content∧Below w.heap.size w w'
set_option linter.unusedSimpArgs false in
set_option maxHeartbeats 1000000 in
theorem chgOf_1:Qp 1:=by
 intro said w hE hs;have H0:Hid _:=xZ.start w 1;have HE:Hid (qw 1 said=(⟨1,0,(zp said).1,⟨#[]⟩,⟨#[]⟩⟩,(zp said).2)):=by show _=_;unfold qw;rw[if_pos (by decide)]
 have HC:Hid _:=yI said _ (hE.later H0.out.below).marks (by omega)
 clear hE hs
 go_enter Tryz.func12,Tryz.ntmps12
 go_wp2_with fail;refine Calls.mono HC.out ?_;rintro e w1 ⟨v1,rfl,hT1,hb1⟩;have H1:Hid _:=H0.out.later hb1;obtain ⟨L,hL⟩:∃ L,(zp said).1=L:=⟨_,rfl⟩;obtain ⟨E,hE⟩:∃ E,(zp said).2=E:=⟨_,rfl⟩;rw[hL]at hT1 HE
 rw[hE]at HE ⊢
 obtain ⟨a1,c1,rfl,_,_⟩:=qb.shape _ hT1;have HT:Hid _:=hT1;have HR:Hid _:=H1.out.res;have HO:Hid _:=H1.out.box;have r0:w1.cell? ⟨w.heap.size,0,none⟩=some (.int .i64 0):=by rw[cH9 HR.out];rfl
 have r1:w1.cell? ⟨w.heap.size,1,none⟩=some (.int .i64 0):=by rw[cH9 HR.out];rfl
 have r2:w1.cell? ⟨w.heap.size,2,none⟩=some (.slice none 0 0):=by rw[cH9 HR.out];rfl
 have r3:w1.cell? ⟨w.heap.size,3,none⟩=some (.string ⟨#[]⟩):=by rw[cH9 HR.out];rfl
 have r4:w1.cell? ⟨w.heap.size,4,none⟩=some (.string ⟨#[]⟩):=by rw[cH9 HR.out];rfl
 have o0:w1.cell? ⟨w.heap.size+1,0,none⟩=some (.int .i64 1):=by rw[cH9 HO.out];rfl
 have o1:w1.cell? ⟨w.heap.size+1,1,none⟩=some (.int .i64 0):=by rw[cH9 HO.out];rfl
 have o2:w1.cell? ⟨w.heap.size+1,2,none⟩=some (.slice none 0 0):=by rw[cH9 HO.out];rfl
 have o3:w1.cell? ⟨w.heap.size+1,3,none⟩=some (.string ⟨#[]⟩):=by rw[cH9 HO.out];rfl
 have o4:w1.cell? ⟨w.heap.size+1,4,none⟩=some (.string ⟨#[]⟩):=by rw[cH9 HO.out];rfl
 have f0:w1.frozen? ⟨w.heap.size,0,none⟩=false:=fH9 HR.out _;have f1:w1.frozen? ⟨w.heap.size,1,none⟩=false:=fH9 HR.out _;have f2:w1.frozen? ⟨w.heap.size,2,none⟩=false:=fH9 HR.out _;have f3:w1.frozen? ⟨w.heap.size,3,none⟩=false:=fH9 HR.out _;have f4:w1.frozen? ⟨w.heap.size,4,none⟩=false:=fH9 HR.out _;have g0:w1.frozen? ⟨w.heap.size+1,0,none⟩=false:=fH9 HO.out _;have g1:w1.frozen? ⟨w.heap.size+1,1,none⟩=false:=fH9 HO.out _;have g2:w1.frozen? ⟨w.heap.size+1,2,none⟩=false:=fH9 HO.out _;have g3:w1.frozen? ⟨w.heap.size+1,3,none⟩=false:=fH9 HO.out _;have g4:w1.frozen? ⟨w.heap.size+1,4,none⟩=false:=fH9 HO.out _;clear hT1 hL hE HR HO H0 HC hb1;go_wp2_with fail;refine bodyPost_ret (v:=.tuple #[.agg #[.int .i64 1,.int .i64 0,.slice a1 L.length c1,.string ⟨#[]⟩,.string ⟨#[]⟩],.int .i64 E]) (by simp[results,Tryz.results12,go_sem,qd,World.cell?_setCell_other,r0,r1,r2,r3,r4,o0,o1,o2,o3,o4]) rfl ?_
 rw[HE.out];refine ⟨a1,c1,rfl,?_,H1.out.lay 2 _ _ _ _ _ _⟩;refine qb.carry (fun b hb=>⟨?_,?_⟩) _ HT.out
 · have:=World.size_alloc;simp only[World.size_alloc]at hb;omega
 · simp only[World.size_alloc]at hb
   exact (yS (p:=0) (by omega)).trans (qc (by omega))
set_option linter.unusedSimpArgs false in
set_option maxHeartbeats 1000000 in
theorem chgOf_2:Qp 2:=by
 intro said w hE hs;have H0:Hid _:=xZ.start w 2;have HE:Hid (qw 2 said=(⟨2,0,(zp said).1,⟨#[]⟩,⟨#[]⟩⟩,(zp said).2)):=by show _=_;unfold qw;rw[if_pos (by decide)]
 have HC:Hid _:=yI said _ (hE.later H0.out.below).marks (by omega)
 clear hE hs
 go_enter Tryz.func12,Tryz.ntmps12
 go_wp2_with fail;refine Calls.mono HC.out ?_;rintro e w1 ⟨v1,rfl,hT1,hb1⟩;have H1:Hid _:=H0.out.later hb1;obtain ⟨L,hL⟩:∃ L,(zp said).1=L:=⟨_,rfl⟩;obtain ⟨E,hE⟩:∃ E,(zp said).2=E:=⟨_,rfl⟩;rw[hL]at hT1 HE
 rw[hE]at HE ⊢
 obtain ⟨a1,c1,rfl,_,_⟩:=qb.shape _ hT1;have HT:Hid _:=hT1;have HR:Hid _:=H1.out.res;have HO:Hid _:=H1.out.box;have r0:w1.cell? ⟨w.heap.size,0,none⟩=some (.int .i64 0):=by rw[cH9 HR.out];rfl
 have r1:w1.cell? ⟨w.heap.size,1,none⟩=some (.int .i64 0):=by rw[cH9 HR.out];rfl
 have r2:w1.cell? ⟨w.heap.size,2,none⟩=some (.slice none 0 0):=by rw[cH9 HR.out];rfl
 have r3:w1.cell? ⟨w.heap.size,3,none⟩=some (.string ⟨#[]⟩):=by rw[cH9 HR.out];rfl
 have r4:w1.cell? ⟨w.heap.size,4,none⟩=some (.string ⟨#[]⟩):=by rw[cH9 HR.out];rfl
 have o0:w1.cell? ⟨w.heap.size+1,0,none⟩=some (.int .i64 2):=by rw[cH9 HO.out];rfl
 have o1:w1.cell? ⟨w.heap.size+1,1,none⟩=some (.int .i64 0):=by rw[cH9 HO.out];rfl
 have o2:w1.cell? ⟨w.heap.size+1,2,none⟩=some (.slice none 0 0):=by rw[cH9 HO.out];rfl
 have o3:w1.cell? ⟨w.heap.size+1,3,none⟩=some (.string ⟨#[]⟩):=by rw[cH9 HO.out];rfl
 have o4:w1.cell? ⟨w.heap.size+1,4,none⟩=some (.string ⟨#[]⟩):=by rw[cH9 HO.out];rfl
 have f0:w1.frozen? ⟨w.heap.size,0,none⟩=false:=fH9 HR.out _;have f1:w1.frozen? ⟨w.heap.size,1,none⟩=false:=fH9 HR.out _;have f2:w1.frozen? ⟨w.heap.size,2,none⟩=false:=fH9 HR.out _;have f3:w1.frozen? ⟨w.heap.size,3,none⟩=false:=fH9 HR.out _;have f4:w1.frozen? ⟨w.heap.size,4,none⟩=false:=fH9 HR.out _;have g0:w1.frozen? ⟨w.heap.size+1,0,none⟩=false:=fH9 HO.out _;have g1:w1.frozen? ⟨w.heap.size+1,1,none⟩=false:=fH9 HO.out _;have g2:w1.frozen? ⟨w.heap.size+1,2,none⟩=false:=fH9 HO.out _;have g3:w1.frozen? ⟨w.heap.size+1,3,none⟩=false:=fH9 HO.out _;have g4:w1.frozen? ⟨w.heap.size+1,4,none⟩=false:=fH9 HO.out _;clear hT1 hL hE HR HO H0 HC hb1;go_wp2_with fail;refine bodyPost_ret (v:=.tuple #[.agg #[.int .i64 2,.int .i64 0,.slice a1 L.length c1,.string ⟨#[]⟩,.string ⟨#[]⟩],.int .i64 E]) (by simp[results,Tryz.results12,go_sem,qd,World.cell?_setCell_other,r0,r1,r2,r3,r4,o0,o1,o2,o3,o4]) rfl ?_
 rw[HE.out];refine ⟨a1,c1,rfl,?_,H1.out.lay 2 _ _ _ _ _ _⟩;refine qb.carry (fun b hb=>⟨?_,?_⟩) _ HT.out
 · have:=World.size_alloc;simp only[World.size_alloc]at hb;omega
 · simp only[World.size_alloc]at hb
   exact (yS (p:=0) (by omega)).trans (qc (by omega))
set_option linter.unusedSimpArgs false in
set_option maxHeartbeats 1000000 in
theorem chgOf_3:Qp 3:=by
 intro said w hE hs;have H0:Hid _:=xZ.start w 3;have HE:Hid (qw 3 said=(⟨3,0,(zp said).1,⟨#[]⟩,⟨#[]⟩⟩,(zp said).2)):=by show _=_;unfold qw;rw[if_pos (by decide)]
 have HC:Hid _:=yI said _ (hE.later H0.out.below).marks (by omega)
 clear hE hs
 go_enter Tryz.func12,Tryz.ntmps12
 go_wp2_with fail;refine Calls.mono HC.out ?_;rintro e w1 ⟨v1,rfl,hT1,hb1⟩;have H1:Hid _:=H0.out.later hb1;obtain ⟨L,hL⟩:∃ L,(zp said).1=L:=⟨_,rfl⟩;obtain ⟨E,hE⟩:∃ E,(zp said).2=E:=⟨_,rfl⟩;rw[hL]at hT1 HE
 rw[hE]at HE ⊢
 obtain ⟨a1,c1,rfl,_,_⟩:=qb.shape _ hT1;have HT:Hid _:=hT1;have HR:Hid _:=H1.out.res;have HO:Hid _:=H1.out.box;have r0:w1.cell? ⟨w.heap.size,0,none⟩=some (.int .i64 0):=by rw[cH9 HR.out];rfl
 have r1:w1.cell? ⟨w.heap.size,1,none⟩=some (.int .i64 0):=by rw[cH9 HR.out];rfl
 have r2:w1.cell? ⟨w.heap.size,2,none⟩=some (.slice none 0 0):=by rw[cH9 HR.out];rfl
 have r3:w1.cell? ⟨w.heap.size,3,none⟩=some (.string ⟨#[]⟩):=by rw[cH9 HR.out];rfl
 have r4:w1.cell? ⟨w.heap.size,4,none⟩=some (.string ⟨#[]⟩):=by rw[cH9 HR.out];rfl
 have o0:w1.cell? ⟨w.heap.size+1,0,none⟩=some (.int .i64 3):=by rw[cH9 HO.out];rfl
 have o1:w1.cell? ⟨w.heap.size+1,1,none⟩=some (.int .i64 0):=by rw[cH9 HO.out];rfl
 have o2:w1.cell? ⟨w.heap.size+1,2,none⟩=some (.slice none 0 0):=by rw[cH9 HO.out];rfl
 have o3:w1.cell? ⟨w.heap.size+1,3,none⟩=some (.string ⟨#[]⟩):=by rw[cH9 HO.out];rfl
 have o4:w1.cell? ⟨w.heap.size+1,4,none⟩=some (.string ⟨#[]⟩):=by rw[cH9 HO.out];rfl
 have f0:w1.frozen? ⟨w.heap.size,0,none⟩=false:=fH9 HR.out _;have f1:w1.frozen? ⟨w.heap.size,1,none⟩=false:=fH9 HR.out _;have f2:w1.frozen? ⟨w.heap.size,2,none⟩=false:=fH9 HR.out _;have f3:w1.frozen? ⟨w.heap.size,3,none⟩=false:=fH9 HR.out _;have f4:w1.frozen? ⟨w.heap.size,4,none⟩=false:=fH9 HR.out _;have g0:w1.frozen? ⟨w.heap.size+1,0,none⟩=false:=fH9 HO.out _;have g1:w1.frozen? ⟨w.heap.size+1,1,none⟩=false:=fH9 HO.out _;have g2:w1.frozen? ⟨w.heap.size+1,2,none⟩=false:=fH9 HO.out _;have g3:w1.frozen? ⟨w.heap.size+1,3,none⟩=false:=fH9 HO.out _;have g4:w1.frozen? ⟨w.heap.size+1,4,none⟩=false:=fH9 HO.out _;clear hT1 hL hE HR HO H0 HC hb1;go_wp2_with fail;refine bodyPost_ret (v:=.tuple #[.agg #[.int .i64 3,.int .i64 0,.slice a1 L.length c1,.string ⟨#[]⟩,.string ⟨#[]⟩],.int .i64 E]) (by simp[results,Tryz.results12,go_sem,qd,World.cell?_setCell_other,r0,r1,r2,r3,r4,o0,o1,o2,o3,o4]) rfl ?_
 rw[HE.out];refine ⟨a1,c1,rfl,?_,H1.out.lay 2 _ _ _ _ _ _⟩;refine qb.carry (fun b hb=>⟨?_,?_⟩) _ HT.out
 · have:=World.size_alloc;simp only[World.size_alloc]at hb;omega
 · simp only[World.size_alloc]at hb
   exact (yS (p:=0) (by omega)).trans (qc (by omega))
set_option linter.unusedSimpArgs false in
set_option maxHeartbeats 1000000 in
theorem chgOf_4:Qp 4:=by
 intro said w hE hs;have H0:Hid _:=xZ.start w 4;have HE:Hid (qw 4 said=(⟨4,0,(zp said).1,⟨#[]⟩,⟨#[]⟩⟩,(zp said).2)):=by show _=_;unfold qw;rw[if_pos (by decide)]
 have HC:Hid _:=yI said _ (hE.later H0.out.below).marks (by omega)
 clear hE hs
 go_enter Tryz.func12,Tryz.ntmps12
 go_wp2_with fail;refine Calls.mono HC.out ?_;rintro e w1 ⟨v1,rfl,hT1,hb1⟩;have H1:Hid _:=H0.out.later hb1;obtain ⟨L,hL⟩:∃ L,(zp said).1=L:=⟨_,rfl⟩;obtain ⟨E,hE⟩:∃ E,(zp said).2=E:=⟨_,rfl⟩;rw[hL]at hT1 HE
 rw[hE]at HE ⊢
 obtain ⟨a1,c1,rfl,_,_⟩:=qb.shape _ hT1;have HT:Hid _:=hT1;have HR:Hid _:=H1.out.res;have HO:Hid _:=H1.out.box;have r0:w1.cell? ⟨w.heap.size,0,none⟩=some (.int .i64 0):=by rw[cH9 HR.out];rfl
 have r1:w1.cell? ⟨w.heap.size,1,none⟩=some (.int .i64 0):=by rw[cH9 HR.out];rfl
 have r2:w1.cell? ⟨w.heap.size,2,none⟩=some (.slice none 0 0):=by rw[cH9 HR.out];rfl
 have r3:w1.cell? ⟨w.heap.size,3,none⟩=some (.string ⟨#[]⟩):=by rw[cH9 HR.out];rfl
 have r4:w1.cell? ⟨w.heap.size,4,none⟩=some (.string ⟨#[]⟩):=by rw[cH9 HR.out];rfl
 have o0:w1.cell? ⟨w.heap.size+1,0,none⟩=some (.int .i64 4):=by rw[cH9 HO.out];rfl
 have o1:w1.cell? ⟨w.heap.size+1,1,none⟩=some (.int .i64 0):=by rw[cH9 HO.out];rfl
 have o2:w1.cell? ⟨w.heap.size+1,2,none⟩=some (.slice none 0 0):=by rw[cH9 HO.out];rfl
 have o3:w1.cell? ⟨w.heap.size+1,3,none⟩=some (.string ⟨#[]⟩):=by rw[cH9 HO.out];rfl
 have o4:w1.cell? ⟨w.heap.size+1,4,none⟩=some (.string ⟨#[]⟩):=by rw[cH9 HO.out];rfl
 have f0:w1.frozen? ⟨w.heap.size,0,none⟩=false:=fH9 HR.out _;have f1:w1.frozen? ⟨w.heap.size,1,none⟩=false:=fH9 HR.out _;have f2:w1.frozen? ⟨w.heap.size,2,none⟩=false:=fH9 HR.out _;have f3:w1.frozen? ⟨w.heap.size,3,none⟩=false:=fH9 HR.out _;have f4:w1.frozen? ⟨w.heap.size,4,none⟩=false:=fH9 HR.out _;have g0:w1.frozen? ⟨w.heap.size+1,0,none⟩=false:=fH9 HO.out _;have g1:w1.frozen? ⟨w.heap.size+1,1,none⟩=false:=fH9 HO.out _;have g2:w1.frozen? ⟨w.heap.size+1,2,none⟩=false:=fH9 HO.out _;have g3:w1.frozen? ⟨w.heap.size+1,3,none⟩=false:=fH9 HO.out _;have g4:w1.frozen? ⟨w.heap.size+1,4,none⟩=false:=fH9 HO.out _;clear hT1 hL hE HR HO H0 HC hb1;go_wp2_with fail;refine bodyPost_ret (v:=.tuple #[.agg #[.int .i64 4,.int .i64 0,.slice a1 L.length c1,.string ⟨#[]⟩,.string ⟨#[]⟩],.int .i64 E]) (by simp[results,Tryz.results12,go_sem,qd,World.cell?_setCell_other,r0,r1,r2,r3,r4,o0,o1,o2,o3,o4]) rfl ?_
 rw[HE.out];refine ⟨a1,c1,rfl,?_,H1.out.lay 2 _ _ _ _ _ _⟩;refine qb.carry (fun b hb=>⟨?_,?_⟩) _ HT.out
 · have:=World.size_alloc;simp only[World.size_alloc]at hb;omega
 · simp only[World.size_alloc]at hb
   exact (yS (p:=0) (by omega)).trans (qc (by omega))
set_option linter.unusedSimpArgs false in
set_option maxHeartbeats 1000000 in
theorem chgOf_6:Qp 6:=by
 intro said w hE hs;have H0:Hid _:=xZ.start w 6;have HE:Hid (qw 6 said=(⟨6,0,(zp said).1,⟨#[]⟩,⟨#[]⟩⟩,(zp said).2)):=by show _=_;unfold qw;rw[if_pos (by decide)]
 have HC:Hid _:=yI said _ (hE.later H0.out.below).marks (by omega)
 clear hE hs
 go_enter Tryz.func12,Tryz.ntmps12
 go_wp2_with fail;refine Calls.mono HC.out ?_;rintro e w1 ⟨v1,rfl,hT1,hb1⟩;have H1:Hid _:=H0.out.later hb1;obtain ⟨L,hL⟩:∃ L,(zp said).1=L:=⟨_,rfl⟩;obtain ⟨E,hE⟩:∃ E,(zp said).2=E:=⟨_,rfl⟩;rw[hL]at hT1 HE
 rw[hE]at HE ⊢
 obtain ⟨a1,c1,rfl,_,_⟩:=qb.shape _ hT1;have HT:Hid _:=hT1;have HR:Hid _:=H1.out.res;have HO:Hid _:=H1.out.box;have r0:w1.cell? ⟨w.heap.size,0,none⟩=some (.int .i64 0):=by rw[cH9 HR.out];rfl
 have r1:w1.cell? ⟨w.heap.size,1,none⟩=some (.int .i64 0):=by rw[cH9 HR.out];rfl
 have r2:w1.cell? ⟨w.heap.size,2,none⟩=some (.slice none 0 0):=by rw[cH9 HR.out];rfl
 have r3:w1.cell? ⟨w.heap.size,3,none⟩=some (.string ⟨#[]⟩):=by rw[cH9 HR.out];rfl
 have r4:w1.cell? ⟨w.heap.size,4,none⟩=some (.string ⟨#[]⟩):=by rw[cH9 HR.out];rfl
 have o0:w1.cell? ⟨w.heap.size+1,0,none⟩=some (.int .i64 6):=by rw[cH9 HO.out];rfl
 have o1:w1.cell? ⟨w.heap.size+1,1,none⟩=some (.int .i64 0):=by rw[cH9 HO.out];rfl
 have o2:w1.cell? ⟨w.heap.size+1,2,none⟩=some (.slice none 0 0):=by rw[cH9 HO.out];rfl
 have o3:w1.cell? ⟨w.heap.size+1,3,none⟩=some (.string ⟨#[]⟩):=by rw[cH9 HO.out];rfl
 have o4:w1.cell? ⟨w.heap.size+1,4,none⟩=some (.string ⟨#[]⟩):=by rw[cH9 HO.out];rfl
 have f0:w1.frozen? ⟨w.heap.size,0,none⟩=false:=fH9 HR.out _;have f1:w1.frozen? ⟨w.heap.size,1,none⟩=false:=fH9 HR.out _;have f2:w1.frozen? ⟨w.heap.size,2,none⟩=false:=fH9 HR.out _;have f3:w1.frozen? ⟨w.heap.size,3,none⟩=false:=fH9 HR.out _;have f4:w1.frozen? ⟨w.heap.size,4,none⟩=false:=fH9 HR.out _;have g0:w1.frozen? ⟨w.heap.size+1,0,none⟩=false:=fH9 HO.out _;have g1:w1.frozen? ⟨w.heap.size+1,1,none⟩=false:=fH9 HO.out _;have g2:w1.frozen? ⟨w.heap.size+1,2,none⟩=false:=fH9 HO.out _;have g3:w1.frozen? ⟨w.heap.size+1,3,none⟩=false:=fH9 HO.out _;have g4:w1.frozen? ⟨w.heap.size+1,4,none⟩=false:=fH9 HO.out _;clear hT1 hL hE HR HO H0 HC hb1;go_wp2_with fail;refine bodyPost_ret (v:=.tuple #[.agg #[.int .i64 6,.int .i64 0,.slice a1 L.length c1,.string ⟨#[]⟩,.string ⟨#[]⟩],.int .i64 E]) (by simp[results,Tryz.results12,go_sem,qd,World.cell?_setCell_other,r0,r1,r2,r3,r4,o0,o1,o2,o3,o4]) rfl ?_
 rw[HE.out];refine ⟨a1,c1,rfl,?_,H1.out.lay 2 _ _ _ _ _ _⟩;refine qb.carry (fun b hb=>⟨?_,?_⟩) _ HT.out
 · have:=World.size_alloc;simp only[World.size_alloc]at hb;omega
 · simp only[World.size_alloc]at hb
   exact (yS (p:=0) (by omega)).trans (qc (by omega))
set_option linter.unusedSimpArgs false in
set_option maxHeartbeats 1000000 in
theorem chgOf_5:Qp 5:=by
 intro said w hE hs;have H0:Hid _:=xZ.start w 5;have HE:Hid (qw 5 said=(⟨5,0,[],⟨#[]⟩,⟨#[]⟩⟩,0)):=by show _=_;unfold qw;rw[if_neg (by decide),if_neg (by decide),if_neg (by decide),if_neg (by decide)]
 have HR:Hid _:=H0.out.res;have HO:Hid _:=H0.out.box;clear hE hs HR HO
 go_enter Tryz.func12,Tryz.ntmps12
 go_wp2_with fail;refine bodyPost_ret (v:=.tuple #[.agg #[.int .i64 5,.int .i64 0,.slice none 0 0,.string ⟨#[]⟩,.string ⟨#[]⟩],.int .i64 0]) (by simp[results,Tryz.results12,go_sem,qd,World.cell?_setCell_other]) rfl ?_
 rw[HE.out];refine ⟨none,0,rfl,qb.nil _ ⟨none,0,rfl,nZ9 _⟩,?_⟩;exact (Below.alloc1 w _).alloc (by simp) _
set_option linter.unusedSimpArgs false in
set_option maxHeartbeats 1000000 in
theorem chgOf_7:Qp 7:=by
 intro said w hE hs;have H0:Hid _:=xZ.start w 7;have HE:Hid (qw 7 said=(⟨7,0,[],⟨#[]⟩,qa (yg said).1⟩,(yg said).2)):=by show _=_;unfold qw;rw[if_neg (by decide),if_pos rfl]
 have HC:Hid _:=Jv said _ (hE.later H0.out.below).marks (by omega)
 clear hE hs
 go_enter Tryz.func12,Tryz.ntmps12
 go_wp2_with fail;refine Calls.mono HC.out ?_;rintro e w1 ⟨rfl,hb1⟩;have H1:Hid _:=H0.out.later hb1;obtain ⟨X,hX⟩:∃ X,qa (yg said).1=X:=⟨_,rfl⟩;obtain ⟨E,hE⟩:∃ E,(yg said).2=E:=⟨_,rfl⟩;rw[hX,hE]at HE ⊢
 have HR:Hid _:=H1.out.res;have HO:Hid _:=H1.out.box;have r0:w1.cell? ⟨w.heap.size,0,none⟩=some (.int .i64 0):=by rw[cH9 HR.out];rfl
 have r1:w1.cell? ⟨w.heap.size,1,none⟩=some (.int .i64 0):=by rw[cH9 HR.out];rfl
 have r2:w1.cell? ⟨w.heap.size,2,none⟩=some (.slice none 0 0):=by rw[cH9 HR.out];rfl
 have r3:w1.cell? ⟨w.heap.size,3,none⟩=some (.string ⟨#[]⟩):=by rw[cH9 HR.out];rfl
 have r4:w1.cell? ⟨w.heap.size,4,none⟩=some (.string ⟨#[]⟩):=by rw[cH9 HR.out];rfl
 have o0:w1.cell? ⟨w.heap.size+1,0,none⟩=some (.int .i64 7):=by rw[cH9 HO.out];rfl
 have o1:w1.cell? ⟨w.heap.size+1,1,none⟩=some (.int .i64 0):=by rw[cH9 HO.out];rfl
 have o2:w1.cell? ⟨w.heap.size+1,2,none⟩=some (.slice none 0 0):=by rw[cH9 HO.out];rfl
 have o3:w1.cell? ⟨w.heap.size+1,3,none⟩=some (.string ⟨#[]⟩):=by rw[cH9 HO.out];rfl
 have o4:w1.cell? ⟨w.heap.size+1,4,none⟩=some (.string ⟨#[]⟩):=by rw[cH9 HO.out];rfl
 have f0:w1.frozen? ⟨w.heap.size,0,none⟩=false:=fH9 HR.out _;have f1:w1.frozen? ⟨w.heap.size,1,none⟩=false:=fH9 HR.out _;have f2:w1.frozen? ⟨w.heap.size,2,none⟩=false:=fH9 HR.out _;have f3:w1.frozen? ⟨w.heap.size,3,none⟩=false:=fH9 HR.out _;have f4:w1.frozen? ⟨w.heap.size,4,none⟩=false:=fH9 HR.out _;have g0:w1.frozen? ⟨w.heap.size+1,0,none⟩=false:=fH9 HO.out _;have g1:w1.frozen? ⟨w.heap.size+1,1,none⟩=false:=fH9 HO.out _;have g2:w1.frozen? ⟨w.heap.size+1,2,none⟩=false:=fH9 HO.out _;have g3:w1.frozen? ⟨w.heap.size+1,3,none⟩=false:=fH9 HO.out _;have g4:w1.frozen? ⟨w.heap.size+1,4,none⟩=false:=fH9 HO.out _;clear hX hE HR HO H0 HC hb1;go_wp2_with fail;refine bodyPost_ret (v:=.tuple #[.agg #[.int .i64 7,.int .i64 0,.slice none 0 0,.string ⟨#[]⟩,.string X],.int .i64 E]) (by simp[results,Tryz.results12,go_sem,qd,World.cell?_setCell_other,r0,r1,r2,r3,r4,o0,o1,o2,o3,o4]) rfl ?_
 rw[HE.out];refine ⟨none,0,rfl,qb.nil _ ⟨none,0,rfl,nZ9 _⟩,?_⟩;exact H1.out.lay 4 _ _ _ _ _ _
set_option linter.unusedSimpArgs false in
set_option maxHeartbeats 1000000 in
theorem chgOf_8:Qp 8:=by
 intro said w hE hs;have H0:Hid _:=xZ.start w 8;have HE:Hid (qw 8 said=(⟨8,0,[],qa said,⟨#[]⟩⟩,0)):=by show _=_;unfold qw;rw[if_neg (by decide),if_neg (by decide),if_pos (by decide)]
 have HC:Hid _:=Qa (qa said) ((w.alloc (.cells #[.int .i64 0,.int .i64 0,.slice none 0 0,.string ⟨#[]⟩,.string ⟨#[]⟩] 24)).alloc (.cells #[.int .i64 8,.int .i64 0,.slice none 0 0,.string ⟨#[]⟩,.string ⟨#[]⟩] 24)) (by rw[qe];omega)
 clear hE hs
 go_enter Tryz.func12,Tryz.ntmps12
 go_wp2_with fail;refine Calls.mono HC.out ?_;rintro e w1 ⟨rfl,hb1⟩;have H1:Hid _:=H0.out.later hb1;have HR:Hid _:=H1.out.res;have HO:Hid _:=H1.out.box;have r0:w1.cell? ⟨w.heap.size,0,none⟩=some (.int .i64 0):=by rw[cH9 HR.out];rfl
 have r1:w1.cell? ⟨w.heap.size,1,none⟩=some (.int .i64 0):=by rw[cH9 HR.out];rfl
 have r2:w1.cell? ⟨w.heap.size,2,none⟩=some (.slice none 0 0):=by rw[cH9 HR.out];rfl
 have r3:w1.cell? ⟨w.heap.size,3,none⟩=some (.string ⟨#[]⟩):=by rw[cH9 HR.out];rfl
 have r4:w1.cell? ⟨w.heap.size,4,none⟩=some (.string ⟨#[]⟩):=by rw[cH9 HR.out];rfl
 have o0:w1.cell? ⟨w.heap.size+1,0,none⟩=some (.int .i64 8):=by rw[cH9 HO.out];rfl
 have o1:w1.cell? ⟨w.heap.size+1,1,none⟩=some (.int .i64 0):=by rw[cH9 HO.out];rfl
 have o2:w1.cell? ⟨w.heap.size+1,2,none⟩=some (.slice none 0 0):=by rw[cH9 HO.out];rfl
 have o3:w1.cell? ⟨w.heap.size+1,3,none⟩=some (.string ⟨#[]⟩):=by rw[cH9 HO.out];rfl
 have o4:w1.cell? ⟨w.heap.size+1,4,none⟩=some (.string ⟨#[]⟩):=by rw[cH9 HO.out];rfl
 have f0:w1.frozen? ⟨w.heap.size,0,none⟩=false:=fH9 HR.out _;have f1:w1.frozen? ⟨w.heap.size,1,none⟩=false:=fH9 HR.out _;have f2:w1.frozen? ⟨w.heap.size,2,none⟩=false:=fH9 HR.out _;have f3:w1.frozen? ⟨w.heap.size,3,none⟩=false:=fH9 HR.out _;have f4:w1.frozen? ⟨w.heap.size,4,none⟩=false:=fH9 HR.out _;have g0:w1.frozen? ⟨w.heap.size+1,0,none⟩=false:=fH9 HO.out _;have g1:w1.frozen? ⟨w.heap.size+1,1,none⟩=false:=fH9 HO.out _;have g2:w1.frozen? ⟨w.heap.size+1,2,none⟩=false:=fH9 HO.out _;have g3:w1.frozen? ⟨w.heap.size+1,3,none⟩=false:=fH9 HO.out _;have g4:w1.frozen? ⟨w.heap.size+1,4,none⟩=false:=fH9 HO.out _;clear HR HO H0 HC hb1;go_wp2_with fail;refine bodyPost_ret (v:=.tuple #[.agg #[.int .i64 8,.int .i64 0,.slice none 0 0,.string (qa said),.string ⟨#[]⟩],.int .i64 0]) (by simp[results,Tryz.results12,go_sem,qd,World.cell?_setCell_other,r0,r1,r2,r3,r4,o0,o1,o2,o3,o4]) rfl ?_
 rw[HE.out];refine ⟨none,0,rfl,qb.nil _ ⟨none,0,rfl,nZ9 _⟩,?_⟩;exact H1.out.lay 3 _ _ _ _ _ _
set_option linter.unusedSimpArgs false in
set_option maxHeartbeats 1000000 in
theorem chgOf_10:Qp 10:=by
 intro said w hE hs;have H0:Hid _:=xZ.start w 10;have HE:Hid (qw 10 said=(⟨10,0,[],qa said,⟨#[]⟩⟩,0)):=by show _=_;unfold qw;rw[if_neg (by decide),if_neg (by decide),if_pos (by decide)]
 have HC:Hid _:=Qa (qa said) ((w.alloc (.cells #[.int .i64 0,.int .i64 0,.slice none 0 0,.string ⟨#[]⟩,.string ⟨#[]⟩] 24)).alloc (.cells #[.int .i64 10,.int .i64 0,.slice none 0 0,.string ⟨#[]⟩,.string ⟨#[]⟩] 24)) (by rw[qe];omega)
 clear hE hs
 go_enter Tryz.func12,Tryz.ntmps12
 go_wp2_with fail;refine Calls.mono HC.out ?_;rintro e w1 ⟨rfl,hb1⟩;have H1:Hid _:=H0.out.later hb1;have HR:Hid _:=H1.out.res;have HO:Hid _:=H1.out.box;have r0:w1.cell? ⟨w.heap.size,0,none⟩=some (.int .i64 0):=by rw[cH9 HR.out];rfl
 have r1:w1.cell? ⟨w.heap.size,1,none⟩=some (.int .i64 0):=by rw[cH9 HR.out];rfl
 have r2:w1.cell? ⟨w.heap.size,2,none⟩=some (.slice none 0 0):=by rw[cH9 HR.out];rfl
 have r3:w1.cell? ⟨w.heap.size,3,none⟩=some (.string ⟨#[]⟩):=by rw[cH9 HR.out];rfl
 have r4:w1.cell? ⟨w.heap.size,4,none⟩=some (.string ⟨#[]⟩):=by rw[cH9 HR.out];rfl
 have o0:w1.cell? ⟨w.heap.size+1,0,none⟩=some (.int .i64 10):=by rw[cH9 HO.out];rfl
 have o1:w1.cell? ⟨w.heap.size+1,1,none⟩=some (.int .i64 0):=by rw[cH9 HO.out];rfl
 have o2:w1.cell? ⟨w.heap.size+1,2,none⟩=some (.slice none 0 0):=by rw[cH9 HO.out];rfl
 have o3:w1.cell? ⟨w.heap.size+1,3,none⟩=some (.string ⟨#[]⟩):=by rw[cH9 HO.out];rfl
 have o4:w1.cell? ⟨w.heap.size+1,4,none⟩=some (.string ⟨#[]⟩):=by rw[cH9 HO.out];rfl
 have f0:w1.frozen? ⟨w.heap.size,0,none⟩=false:=fH9 HR.out _;have f1:w1.frozen? ⟨w.heap.size,1,none⟩=false:=fH9 HR.out _;have f2:w1.frozen? ⟨w.heap.size,2,none⟩=false:=fH9 HR.out _;have f3:w1.frozen? ⟨w.heap.size,3,none⟩=false:=fH9 HR.out _;have f4:w1.frozen? ⟨w.heap.size,4,none⟩=false:=fH9 HR.out _;have g0:w1.frozen? ⟨w.heap.size+1,0,none⟩=false:=fH9 HO.out _;have g1:w1.frozen? ⟨w.heap.size+1,1,none⟩=false:=fH9 HO.out _;have g2:w1.frozen? ⟨w.heap.size+1,2,none⟩=false:=fH9 HO.out _;have g3:w1.frozen? ⟨w.heap.size+1,3,none⟩=false:=fH9 HO.out _;have g4:w1.frozen? ⟨w.heap.size+1,4,none⟩=false:=fH9 HO.out _;clear HR HO H0 HC hb1;go_wp2_with fail;refine bodyPost_ret (v:=.tuple #[.agg #[.int .i64 10,.int .i64 0,.slice none 0 0,.string (qa said),.string ⟨#[]⟩],.int .i64 0]) (by simp[results,Tryz.results12,go_sem,qd,World.cell?_setCell_other,r0,r1,r2,r3,r4,o0,o1,o2,o3,o4]) rfl ?_
 rw[HE.out];refine ⟨none,0,rfl,qb.nil _ ⟨none,0,rfl,nZ9 _⟩,?_⟩;exact H1.out.lay 3 _ _ _ _ _ _
set_option linter.unusedSimpArgs false in
set_option maxHeartbeats 2000000 in
theorem chgOf_9:Qp 9:=by
 intro said w hE hs;have H0:Hid _:=xZ.start w 9;have HE:Hid (qw 9 said=if (Lib.cut said [61]).2.2 then (⟨9,0,[],qa (Lib.cut said [61]).1,qa (yg (Lib.cut said [61]).2.1).1⟩,(yg (Lib.cut said [61]).2.1).2) else (⟨9,0,[],⟨#[]⟩,⟨#[]⟩⟩,1)):=by show _=_;unfold qw;rw[if_neg (by decide),if_neg (by decide),if_neg (by decide),if_pos rfl]
 obtain ⟨mx,hm⟩:=(hE.later H0.out.below).path.max;have HC:Hid _:=Tryz.strings_Cut (qa said) ⟨#[61]⟩ mx ((w.alloc (.cells #[.int .i64 0,.int .i64 0,.slice none 0 0,.string ⟨#[]⟩,.string ⟨#[]⟩] 24)).alloc (.cells #[.int .i64 9,.int .i64 0,.slice none 0 0,.string ⟨#[]⟩,.string ⟨#[]⟩] 24)) (by rw[qe];omega) hm
 have hsh:=jr 61 said;obtain ⟨A,B,b,hcut⟩:∃ A B b,Lib.cut said [61]=(A,B,b):=⟨_,_,_,rfl⟩;rw[zA,show (⟨#[61]⟩:ByteArray).data.toList=[61] from rfl,hcut]at HC
 rw[hcut]at HE hsh
 simp only at HE hsh
 have HEV:Hid (∀ W,Below w.heap.size w W→jp W):=fun W hW=>hE.later hW
 clear hcut hE hm;obtain ⟨X,hX⟩:∃ X,qa A=X:=⟨_,rfl⟩;obtain ⟨Y,hY⟩:∃ Y,qa B=Y:=⟨_,rfl⟩
 have HC':Hid (Calls Tryz.prog 9 #[.string (qa said),.string ⟨#[61]⟩] ((w.alloc (.cells #[.int .i64 0,.int .i64 0,.slice none 0 0,.string ⟨#[]⟩,.string ⟨#[]⟩] 24)).alloc (.cells #[.int .i64 9,.int .i64 0,.slice none 0 0,.string ⟨#[]⟩,.string ⟨#[]⟩] 24)) fun e w'=>e=.returned (.tuple #[.string X,.string Y,.bool b])∧∃ n,w'=((w.alloc (.cells #[.int .i64 0,.int .i64 0,.slice none 0 0,.string ⟨#[]⟩,.string ⟨#[]⟩] 24)).alloc (.cells #[.int .i64 9,.int .i64 0,.slice none 0 0,.string ⟨#[]⟩,.string ⟨#[]⟩] 24)).drewN n):=by
  have:=HC.out;rw[←hX,←hY];exact this
 clear HC;have hXs:X.size≤2500:=by rw[←hX,qe];omega
 cases b with
 | false =>
   simp only[Bool.false_eq_true,if_false]at HE
   clear HEV
   go_enter Tryz.func12,Tryz.ntmps12
   go_wp2_with fail;refine Calls.mono HC'.out ?_;rintro e w1 ⟨rfl,n,rfl⟩;have hb1:=zQ ((w.alloc (.cells #[.int .i64 0,.int .i64 0,.slice none 0 0,.string ⟨#[]⟩,.string ⟨#[]⟩] 24)).alloc (.cells #[.int .i64 9,.int .i64 0,.slice none 0 0,.string ⟨#[]⟩,.string ⟨#[]⟩] 24)) n;have H1:Hid _:=H0.out.later hb1
   generalize ((w.alloc (.cells #[.int .i64 0,.int .i64 0,.slice none 0 0,.string ⟨#[]⟩,.string ⟨#[]⟩] 24)).alloc (.cells #[.int .i64 9,.int .i64 0,.slice none 0 0,.string ⟨#[]⟩,.string ⟨#[]⟩] 24)).drewN n=w1 at *
   have HR:Hid _:=H1.out.res;have HO:Hid _:=H1.out.box;have r0:w1.cell? ⟨w.heap.size,0,none⟩=some (.int .i64 0):=by rw[cH9 HR.out];rfl
   have r1:w1.cell? ⟨w.heap.size,1,none⟩=some (.int .i64 0):=by rw[cH9 HR.out];rfl
   have r2:w1.cell? ⟨w.heap.size,2,none⟩=some (.slice none 0 0):=by rw[cH9 HR.out];rfl
   have r3:w1.cell? ⟨w.heap.size,3,none⟩=some (.string ⟨#[]⟩):=by rw[cH9 HR.out];rfl
   have r4:w1.cell? ⟨w.heap.size,4,none⟩=some (.string ⟨#[]⟩):=by rw[cH9 HR.out];rfl
   have o0:w1.cell? ⟨w.heap.size+1,0,none⟩=some (.int .i64 9):=by rw[cH9 HO.out];rfl
   have o1:w1.cell? ⟨w.heap.size+1,1,none⟩=some (.int .i64 0):=by rw[cH9 HO.out];rfl
   have o2:w1.cell? ⟨w.heap.size+1,2,none⟩=some (.slice none 0 0):=by rw[cH9 HO.out];rfl
   have o3:w1.cell? ⟨w.heap.size+1,3,none⟩=some (.string ⟨#[]⟩):=by rw[cH9 HO.out];rfl
   have o4:w1.cell? ⟨w.heap.size+1,4,none⟩=some (.string ⟨#[]⟩):=by rw[cH9 HO.out];rfl
   have f0:w1.frozen? ⟨w.heap.size,0,none⟩=false:=fH9 HR.out _;have f1:w1.frozen? ⟨w.heap.size,1,none⟩=false:=fH9 HR.out _;have f2:w1.frozen? ⟨w.heap.size,2,none⟩=false:=fH9 HR.out _;have f3:w1.frozen? ⟨w.heap.size,3,none⟩=false:=fH9 HR.out _;have f4:w1.frozen? ⟨w.heap.size,4,none⟩=false:=fH9 HR.out _;have g0:w1.frozen? ⟨w.heap.size+1,0,none⟩=false:=fH9 HO.out _;have g1:w1.frozen? ⟨w.heap.size+1,1,none⟩=false:=fH9 HO.out _;have g2:w1.frozen? ⟨w.heap.size+1,2,none⟩=false:=fH9 HO.out _;have g3:w1.frozen? ⟨w.heap.size+1,3,none⟩=false:=fH9 HO.out _;have g4:w1.frozen? ⟨w.heap.size+1,4,none⟩=false:=fH9 HO.out _;clear HR HO H0 HC' hb1;go_wp2_with fail;refine bodyPost_ret (v:=.tuple #[.agg #[.int .i64 9,.int .i64 0,.slice none 0 0,.string ⟨#[]⟩,.string ⟨#[]⟩],.int .i64 1]) (by simp[results,Tryz.results12,go_sem,qd,World.cell?_setCell_other,r0,r1,r2,r3,r4,o0,o1,o2,o3,o4]) rfl ?_
   rw[HE.out];refine ⟨none,0,rfl,qb.nil _ ⟨none,0,rfl,nZ9 _⟩,?_⟩;exact yy (p:=0) H1.out.below (nR9 _)
 | true =>
   simp only[if_true]at HE
   rw[hX]at HE
   obtain ⟨TX,hTX⟩:∃ t,qa (yg B).1=t:=⟨_,rfl⟩;obtain ⟨TE,hTE⟩:∃ t,(yg B).2=t:=⟨_,rfl⟩;rw[hTX,hTE]at HE
   have HCL:Hid (∀ W,Calls Tryz.prog 30 #[.string X] W fun e w'=>e=.returned (.string X)∧Below W.heap.size W w'):=fun W=>Qa X W (by omega)
   have HTT:Hid (∀ W,Below w.heap.size w W→Calls Tryz.prog 29 #[.string Y] W fun e w'=>e=.returned (.tuple #[.string TX,.int .i64 TE])∧Below W.heap.size W w'):=by
    intro W hW;have:=Jv B W (HEV.out W hW).marks (by omega)
    rw[hTX,hTE,hY]at this
    exact this
   clear HEV hTX hTE hX hY
   go_enter Tryz.func12,Tryz.ntmps12
   go_wp2_with fail;refine Calls.mono HC'.out ?_;rintro e w1 ⟨rfl,n,rfl⟩;have hb1:=zQ ((w.alloc (.cells #[.int .i64 0,.int .i64 0,.slice none 0 0,.string ⟨#[]⟩,.string ⟨#[]⟩] 24)).alloc (.cells #[.int .i64 9,.int .i64 0,.slice none 0 0,.string ⟨#[]⟩,.string ⟨#[]⟩] 24)) n;have H1:Hid _:=H0.out.later hb1
   generalize ((w.alloc (.cells #[.int .i64 0,.int .i64 0,.slice none 0 0,.string ⟨#[]⟩,.string ⟨#[]⟩] 24)).alloc (.cells #[.int .i64 9,.int .i64 0,.slice none 0 0,.string ⟨#[]⟩,.string ⟨#[]⟩] 24)).drewN n=w1 at *
   clear H0 HC' hb1;go_wp2_with fail;refine Calls.mono (HCL.out w1) ?_;rintro e w2 ⟨rfl,hb2⟩;have H2:Hid _:=H1.out.later hb2;have HR:Hid _:=H2.out.res;have HO:Hid _:=H2.out.box;have r0:w2.cell? ⟨w.heap.size,0,none⟩=some (.int .i64 0):=by rw[cH9 HR.out];rfl
   have r1:w2.cell? ⟨w.heap.size,1,none⟩=some (.int .i64 0):=by rw[cH9 HR.out];rfl
   have r2:w2.cell? ⟨w.heap.size,2,none⟩=some (.slice none 0 0):=by rw[cH9 HR.out];rfl
   have r3:w2.cell? ⟨w.heap.size,3,none⟩=some (.string ⟨#[]⟩):=by rw[cH9 HR.out];rfl
   have r4:w2.cell? ⟨w.heap.size,4,none⟩=some (.string ⟨#[]⟩):=by rw[cH9 HR.out];rfl
   have o0:w2.cell? ⟨w.heap.size+1,0,none⟩=some (.int .i64 9):=by rw[cH9 HO.out];rfl
   have o1:w2.cell? ⟨w.heap.size+1,1,none⟩=some (.int .i64 0):=by rw[cH9 HO.out];rfl
   have o2:w2.cell? ⟨w.heap.size+1,2,none⟩=some (.slice none 0 0):=by rw[cH9 HO.out];rfl
   have o3:w2.cell? ⟨w.heap.size+1,3,none⟩=some (.string ⟨#[]⟩):=by rw[cH9 HO.out];rfl
   have o4:w2.cell? ⟨w.heap.size+1,4,none⟩=some (.string ⟨#[]⟩):=by rw[cH9 HO.out];rfl
   have f0:w2.frozen? ⟨w.heap.size,0,none⟩=false:=fH9 HR.out _;have f1:w2.frozen? ⟨w.heap.size,1,none⟩=false:=fH9 HR.out _;have f2:w2.frozen? ⟨w.heap.size,2,none⟩=false:=fH9 HR.out _;have f3:w2.frozen? ⟨w.heap.size,3,none⟩=false:=fH9 HR.out _;have f4:w2.frozen? ⟨w.heap.size,4,none⟩=false:=fH9 HR.out _;have g0:w2.frozen? ⟨w.heap.size+1,0,none⟩=false:=fH9 HO.out _;have g1:w2.frozen? ⟨w.heap.size+1,1,none⟩=false:=fH9 HO.out _;have g2:w2.frozen? ⟨w.heap.size+1,2,none⟩=false:=fH9 HO.out _;have g3:w2.frozen? ⟨w.heap.size+1,3,none⟩=false:=fH9 HO.out _;have g4:w2.frozen? ⟨w.heap.size+1,4,none⟩=false:=fH9 HO.out _;have HO2:Hid (w2.heap[w.heap.size+1]?=_):=HO.out;have HR2:Hid ((w2.setCell ⟨w.heap.size+1,3,none⟩ (.string X)).heap[w.heap.size]?=_):=(qc (by omega)).trans HR.out
   have hB2:Below w.heap.size w (w2.setCell ⟨w.heap.size+1,3,none⟩ (.string X)):=H2.out.below.setCell (p:=⟨w.heap.size+1,3,none⟩) (by show w.heap.size≤w.heap.size+1;omega) _
   have HTT2:Hid _:=HTT.out _ hB2;clear H1 HCL HTT hb2 HR HO;go_wp2_with fail;refine Calls.mono HTT2.out ?_;rintro e w3 ⟨rfl,hb3⟩;have HR3:Hid _:=(hb3.block _ (by simpa using qh HR2.out)).trans HR2.out
   have o0':w3.cell? ⟨w.heap.size+1,0,none⟩=some (.int .i64 9):=by rw[hb3.cell (p:=⟨w.heap.size+1,0,none⟩) (by simpa using qh HO2.out)];rw[World.cell?_setCell_other _ _ _ _ (Qz (by omega))];exact o0
   have o1':w3.cell? ⟨w.heap.size+1,1,none⟩=some (.int .i64 0):=by rw[hb3.cell (p:=⟨w.heap.size+1,1,none⟩) (by simpa using qh HO2.out)];rw[World.cell?_setCell_other _ _ _ _ (Qz (by omega))];exact o1
   have o2':w3.cell? ⟨w.heap.size+1,2,none⟩=some (.slice none 0 0):=by rw[hb3.cell (p:=⟨w.heap.size+1,2,none⟩) (by simpa using qh HO2.out)];rw[World.cell?_setCell_other _ _ _ _ (Qz (by omega))];exact o2
   have o3':w3.cell? ⟨w.heap.size+1,3,none⟩=some (.string X):=by rw[hb3.cell (p:=⟨w.heap.size+1,3,none⟩) (by simpa using qh HO2.out)];exact qd (by rw[o3];rfl)
   have o4':w3.cell? ⟨w.heap.size+1,4,none⟩=some (.string ⟨#[]⟩):=by rw[hb3.cell (p:=⟨w.heap.size+1,4,none⟩) (by simpa using qh HO2.out)];rw[World.cell?_setCell_other _ _ _ _ (Qz (by omega))];exact o4
   have r0':w3.cell? ⟨w.heap.size,0,none⟩=some (.int .i64 0):=by rw[cH9 HR3.out];rfl
   have r1':w3.cell? ⟨w.heap.size,1,none⟩=some (.int .i64 0):=by rw[cH9 HR3.out];rfl
   have r2':w3.cell? ⟨w.heap.size,2,none⟩=some (.slice none 0 0):=by rw[cH9 HR3.out];rfl
   have r3':w3.cell? ⟨w.heap.size,3,none⟩=some (.string ⟨#[]⟩):=by rw[cH9 HR3.out];rfl
   have r4':w3.cell? ⟨w.heap.size,4,none⟩=some (.string ⟨#[]⟩):=by rw[cH9 HR3.out];rfl
   have f0':w3.frozen? ⟨w.heap.size,0,none⟩=false:=fH9 HR3.out _;have f1':w3.frozen? ⟨w.heap.size,1,none⟩=false:=fH9 HR3.out _;have f2':w3.frozen? ⟨w.heap.size,2,none⟩=false:=fH9 HR3.out _;have f3':w3.frozen? ⟨w.heap.size,3,none⟩=false:=fH9 HR3.out _;have f4':w3.frozen? ⟨w.heap.size,4,none⟩=false:=fH9 HR3.out _
   have g4':w3.frozen? ⟨w.heap.size+1,4,none⟩=false:=by
    have hx:w3.heap[w.heap.size+1]?=(w2.setCell ⟨w.heap.size+1,3,none⟩ (.string X)).heap[w.heap.size+1]?:=hb3.block _ (by simpa using qh HO2.out)
    have:w3.frozen? ⟨w.heap.size+1,4,none⟩=(w2.setCell ⟨w.heap.size+1,3,none⟩ (.string X)).frozen? ⟨w.heap.size+1,4,none⟩:=by simp only[World.frozen?,hx]
    rw[this,World.frozen?_setCell];exact g4
   have hL:∀ v0 v1 v2 v3 v4:Value,Below w.heap.size w (Ka (w3.setCell ⟨w.heap.size+1,4,none⟩ (.string TX)) w.heap.size 0 v0 v1 v2 v3 v4):=fun v0 v1 v2 v3 v4=>H2.out.lay2 3 4 _ _ _ _ _ _ _ hb3
   have HL:Hid _:=hL;clear hL hb3 HR2 HR3 HO2 HTT2 hB2 r0 r1 r2 r3 r4 o0 o1 o2 o3 o4 f0 f1 f2 f3 f4 g0 g1 g2 g3 g4;go_wp2_with fail;refine bodyPost_ret (v:=.tuple #[.agg #[.int .i64 9,.int .i64 0,.slice none 0 0,.string X,.string TX],.int .i64 TE]) (by simp[results,Tryz.results12,go_sem,qd,World.cell?_setCell_other,r0',r1',r2',r3',r4',o0',o1',o2',o3',o4']) rfl ?_
   rw[HE.out];refine ⟨none,0,rfl,qb.nil _ ⟨none,0,rfl,nZ9 _⟩,?_⟩;exact HL.out _ _ _ _ _
theorem XP (k:Int)(hk:1≤k∧k≤10):Qp k:=by
 rcases (by omega:k=1∨k=2∨k=3∨k=4∨k=5∨k=6∨k=7∨k=8∨k=9∨k=10) with rfl|rfl|rfl|rfl|rfl|rfl|rfl|rfl|rfl|rfl
 · exact chgOf_1
 · exact chgOf_2
 · exact chgOf_3
 · exact chgOf_4
 · exact chgOf_5
 · exact chgOf_6
 · exact chgOf_7
 · exact chgOf_8
 · exact chgOf_9
 · exact chgOf_10
end
section
attribute [local go_sem] qd
def zO (s:List UInt8)(w:World)(e:Ending)(w':World):Prop :=
  ∃ a c vl, e = .returned (.tuple #[.agg #[.int .i64 (qL s).1.kind, .int .i64 0, .slice a (qL s).1.content.length c, .string (qL s).1.name, .string (qL s).1.s], vl, .int .i64 (qL s).2.2]) ∧ (qL s).1.target = 0 ∧
    qb (fun b=>w.heap.size≤b) w' 2501 (.slice a (qL s).1.content.length c) (qL s).1.content∧qC (fun b=>w.heap.size≤b) w' vl (qL s).2.1∧Below w.heap.size w w'
theorem qY {s:List UInt8}{w w':World}{c:Int}(h:qL s=(noOp,[],c))(hb:Below w.heap.size w w'):zO s w (.returned (.tuple #[.agg #[.int .i64 0,.int .i64 0,.slice none 0 0,.string ⟨#[]⟩,.string ⟨#[]⟩],.slice none 0 0,.int .i64 c])) w':=by
 unfold zO;rw[h];exact ⟨none,0,.slice none 0 0,rfl,rfl,qb.nil _ ⟨none,0,rfl,nZ9 _⟩,⟨none,0,rfl,nR9 _,nZ9 _,fun h=>absurd rfl h⟩,hb⟩
theorem qb.wide' {S:Nat→Prop}{w:World}{n:Nat}{v:Value}{ts:List Tr}(h:qb S w n v ts):∀ (k:Nat),qb S w (n+k) v ts:=by
 intro k
 induction k with
 | zero=>exact h
 | succ k ih=>exact qb.deeper _ ih
set_option linter.unusedSimpArgs false in
set_option maxHeartbeats 2000000 in
theorem Vf (s:List UInt8)(w:World)(hE:jp w)(hs:s.length≤9223372036854775807) :
 Calls Tryz.prog 4 #[.string (qa s)] w fun e w'=>zO s w e w':=by
 have hz:=qe s;have hb0:=Below.alloc1 w (.cells #[.int .i64 0,.int .i64 0,.slice none 0 0,.string ⟨#[]⟩,.string ⟨#[]⟩] 24);have HR0:Hid _:=heap_alloc_new w (.cells #[.int .i64 0,.int .i64 0,.slice none 0 0,.string ⟨#[]⟩,.string ⟨#[]⟩] 24);have HEV:Hid (∀ W,Below w.heap.size w W→jp W):=fun W hW=>hE.later hW
 clear hE
 by_cases hlong:2500<s.length
 · have HL : Hid (qL s = (noOp, [], 1)) := by show _ = _;unfold qL;rw[if_pos hlong]
   have hli:(2500:Int)<(s.length:Int):=by omega
   clear HEV HR0
   go_enter Tryz.func4,Tryz.ntmps4
   go_wp2_with fail;refine bodyPost_ret (v:=.tuple #[.agg #[.int .i64 0,.int .i64 0,.slice none 0 0,.string ⟨#[]⟩,.string ⟨#[]⟩],.slice none 0 0,.int .i64 1]) (by simp[results,Tryz.results4,go_sem]) rfl ?_
   exact qY HL.out (Below.alloc1 w _)
 · have hli : ¬ (2500 : Int) < (s.length : Int) := by omega
   have HL:Hid (qL s=if decide (zq (qt s)=0)||(q8 s==decide (zq (qt s)=5)) then (noOp,[],1) else if zz (qa (qA s))≠0 then (noOp,[],zz (qa (qA s))) else if (qw (zq (qt s)) (q9 s)).2≠0 then (noOp,[],(qw (zq (qt s)) (q9 s)).2) else ((qw (zq (qt s)) (q9 s)).1,yd (qa (qA s)),0)):=by show _=_;unfold qL;rw[if_neg hlong]
   have h1:=jr 32 s;have h2:=jr 32 (qV s);have hpl:(qA s).length≤2500:=by have:=h1.2;have:=h2.1;unfold qA;unfold qV at *;omega
   have hsl:(q9 s).length≤2500:=by have:=h1.2;have:=h2.2;unfold q9;unfold qV at *;omega
   have hrl:(qV s).length≤2500:=by have:=h1.2;unfold qV;omega
   have HC1:Hid (∀ W,Below w.heap.size w W→Calls Tryz.prog 9 #[.string (qa s),.string ⟨#[32]⟩] W fun e w'=>e=.returned (.tuple #[.string (qa (qt s)),.string (qa (qV s)),.bool (Lib.cut s [32]).2.2])∧Below W.heap.size W w'):=by
    intro W hW;obtain ⟨mx,hm⟩:=(HEV.out W hW).path.max;refine (Tryz.strings_Cut (qa s) ⟨#[32]⟩ mx W (by rw[hz];omega) hm).mono ?_
    rintro e w' ⟨rfl,n,rfl⟩;exact ⟨rfl,zQ _ _⟩
   have HC2:Hid (∀ W,Below w.heap.size w W→Calls Tryz.prog 9 #[.string (qa (qV s)),.string ⟨#[32]⟩] W fun e w'=>e=.returned (.tuple #[.string (qa (qA s)),.string (qa (q9 s)),.bool (q8 s)])∧Below W.heap.size W w'):=by
    intro W hW;obtain ⟨mx,hm⟩:=(HEV.out W hW).path.max;refine (Tryz.strings_Cut (qa (qV s)) ⟨#[32]⟩ mx W (by rw[qe];omega) hm).mono ?_
    rintro e w' ⟨rfl,n,rfl⟩;exact ⟨rfl,zQ _ _⟩
   have HK:Hid (∀ W,Below w.heap.size w W→Calls Tryz.prog 10 #[.string (qa (qt s))] W fun e w'=>e=.returned (.int .i64 (zq (qt s)))∧w'=W):=fun W hW=>qas (qa (qt s)) W (HEV.out W hW).words
   have HP:Hid (∀ W,Below w.heap.size w W→Calls Tryz.prog 11 #[.string (qa (qA s))] W fun e w'=>∃ v,e=.returned (.tuple #[v,.int .i64 (zz (qa (qA s)))])∧qC (fun b=>W.heap.size≤b) w' v (yd (qa (qA s)))∧Below W.heap.size W w'):=fun W hW=>qaJ _ W (HEV.out W hW).path (by rw[qe];unfold maxLen;omega)
   have hkr:=Y3 (qt s)
   generalize (Lib.cut s [32]).2.2=ff at HC1
   generalize qt s=wd at *
   generalize qV s=rs at *
   generalize qA s=pt at *
   generalize hsd:q9 s=sd at *
   generalize q8 s=mo at *
   clear h1 h2 hsd;obtain ⟨k,hk⟩:∃ k,zq wd=k:=⟨_,rfl⟩;rw[hk]at HL HK hkr
   clear hk;obtain ⟨pe,hpe⟩:∃ e,zz (qa pt)=e:=⟨_,rfl⟩;rw[hpe]at HL HP
   clear hpe
   by_cases hk0:k=0
   · have HLL : Hid (qL s = (noOp, [], 1)) := by show _ = _;rw[HL.out, if_pos (by simp[hk0])]
     subst hk0;clear HL HEV
     go_enter Tryz.func4,Tryz.ntmps4
     go_wp2_with fail
     generalize w.alloc (.cells #[.int .i64 0,.int .i64 0,.slice none 0 0,.string ⟨#[]⟩,.string ⟨#[]⟩] 24)=W0 at *
     refine Calls.mono (HC1.out W0 hb0) ?_;rintro e w1 ⟨rfl,hb1⟩;have hB1:=hb0.trans (hb1.mono hb0.size);have HR1:Hid _:=(hb1.block _ (qh HR0.out)).trans HR0.out;clear HC1 hb1;go_wp2_with fail;refine Calls.mono (HC2.out w1 hB1) ?_;rintro e w2 ⟨rfl,hb2⟩;have hB2:=hB1.trans (hb2.mono hB1.size);have HR2:Hid _:=(hb2.block _ (qh HR1.out)).trans HR1.out;clear HC2 hb2;go_wp2_with fail;refine Calls.mono (HK.out w2 hB2) ?_;rintro e w2' ⟨rfl,rfl⟩;have r0:w2'.cell? ⟨w.heap.size,0,none⟩=some (.int .i64 0):=by rw[cH9 HR2.out];rfl
     have r1:w2'.cell? ⟨w.heap.size,1,none⟩=some (.int .i64 0):=by rw[cH9 HR2.out];rfl
     have r2:w2'.cell? ⟨w.heap.size,2,none⟩=some (.slice none 0 0):=by rw[cH9 HR2.out];rfl
     have r3:w2'.cell? ⟨w.heap.size,3,none⟩=some (.string ⟨#[]⟩):=by rw[cH9 HR2.out];rfl
     have r4:w2'.cell? ⟨w.heap.size,4,none⟩=some (.string ⟨#[]⟩):=by rw[cH9 HR2.out];rfl
     have f0:w2'.frozen? ⟨w.heap.size,0,none⟩=false:=fH9 HR2.out _;have f1:w2'.frozen? ⟨w.heap.size,1,none⟩=false:=fH9 HR2.out _;have f2:w2'.frozen? ⟨w.heap.size,2,none⟩=false:=fH9 HR2.out _;have f3:w2'.frozen? ⟨w.heap.size,3,none⟩=false:=fH9 HR2.out _;have f4:w2'.frozen? ⟨w.heap.size,4,none⟩=false:=fH9 HR2.out _;clear HR2 HR1 HR0 HK HP;go_wp2_with fail;refine bodyPost_ret (v:=.tuple #[.agg #[.int .i64 0,.int .i64 0,.slice none 0 0,.string ⟨#[]⟩,.string ⟨#[]⟩],.slice none 0 0,.int .i64 1]) (by simp[results,Tryz.results4,go_sem,qd,World.cell?_setCell_other,r0,r1,r2,r3,r4]) rfl ?_
     exact qY HLL.out (yy (p:=0) hB2 (nR9 _))
   · have hk0b : (k == 0) = false := by simpa using hk0
     by_cases hmo:(mo==decide (k=5))=true
     · have HLL : Hid (qL s = (noOp, [], 1)) := by show _ = _;rw[HL.out, if_pos (by rw[hmo];simp)]
       have hmo2:(mo==(k==5))=true:=by rw[←hmo];rfl
       clear HL HEV hmo
       go_enter Tryz.func4,Tryz.ntmps4
       go_wp2_with fail
       generalize w.alloc (.cells #[.int .i64 0,.int .i64 0,.slice none 0 0,.string ⟨#[]⟩,.string ⟨#[]⟩] 24)=W0 at *
       refine Calls.mono (HC1.out W0 hb0) ?_;rintro e w1 ⟨rfl,hb1⟩;have hB1:=hb0.trans (hb1.mono hb0.size);have HR1:Hid _:=(hb1.block _ (qh HR0.out)).trans HR0.out;clear HC1 hb1;go_wp2_with fail;refine Calls.mono (HC2.out w1 hB1) ?_;rintro e w2 ⟨rfl,hb2⟩;have hB2:=hB1.trans (hb2.mono hB1.size);have HR2:Hid _:=(hb2.block _ (qh HR1.out)).trans HR1.out;clear HC2 hb2;go_wp2_with fail;refine Calls.mono (HK.out w2 hB2) ?_;rintro e w2' ⟨rfl,rfl⟩;have r0:w2'.cell? ⟨w.heap.size,0,none⟩=some (.int .i64 0):=by rw[cH9 HR2.out];rfl
       have r1:w2'.cell? ⟨w.heap.size,1,none⟩=some (.int .i64 0):=by rw[cH9 HR2.out];rfl
       have r2:w2'.cell? ⟨w.heap.size,2,none⟩=some (.slice none 0 0):=by rw[cH9 HR2.out];rfl
       have r3:w2'.cell? ⟨w.heap.size,3,none⟩=some (.string ⟨#[]⟩):=by rw[cH9 HR2.out];rfl
       have r4:w2'.cell? ⟨w.heap.size,4,none⟩=some (.string ⟨#[]⟩):=by rw[cH9 HR2.out];rfl
       have f0:w2'.frozen? ⟨w.heap.size,0,none⟩=false:=fH9 HR2.out _;have f1:w2'.frozen? ⟨w.heap.size,1,none⟩=false:=fH9 HR2.out _;have f2:w2'.frozen? ⟨w.heap.size,2,none⟩=false:=fH9 HR2.out _;have f3:w2'.frozen? ⟨w.heap.size,3,none⟩=false:=fH9 HR2.out _;have f4:w2'.frozen? ⟨w.heap.size,4,none⟩=false:=fH9 HR2.out _;clear HR2 HR1 HR0 HK HP;go_wp2_with fail;refine bodyPost_ret (v:=.tuple #[.agg #[.int .i64 0,.int .i64 0,.slice none 0 0,.string ⟨#[]⟩,.string ⟨#[]⟩],.slice none 0 0,.int .i64 1]) (by simp[results,Tryz.results4,go_sem,qd,World.cell?_setCell_other,r0,r1,r2,r3,r4]) rfl ?_
       exact qY HLL.out (yy (p:=0) hB2 (nR9 _))
     · have hmo1 : (mo == decide (k = 5)) = false := by simpa using hmo
       have hmo2:(mo==(k==5))=false:=hmo1;have HL2:Hid (qL s=if pe≠0 then (noOp,[],pe) else if (qw k sd).2≠0 then (noOp,[],(qw k sd).2) else ((qw k sd).1,yd (qa pt),0)):=by show _=_;rw[HL.out,if_neg (by rw[hmo1];simp[hk0])]
       have HCH:Hid (∀ W,Below w.heap.size w W→Calls Tryz.prog 12 #[.int .i64 k,.string (qa sd)] W fun e w'=>∃ a c,e=.returned (.tuple #[.agg #[.int .i64 k,.int .i64 0,.slice a (qw k sd).1.content.length c,.string (qw k sd).1.name,.string (qw k sd).1.s],.int .i64 (qw k sd).2])∧qb (fun b=>W.heap.size≤b) w' (sd.length+1) (.slice a (qw k sd).1.content.length c) (qw k sd).1.content∧Below W.heap.size W w'):=fun W hW=>XP k ⟨by omega,hkr.2⟩ sd W (HEV.out W hW) hsl
       have HKC:Hid ((qw k sd).1.kind=k∧(qw k sd).1.target=0):=by
        unfold qw
        split
        · exact ⟨rfl,rfl⟩
        · split
          · exact ⟨rfl,rfl⟩
          · split
            · exact ⟨rfl,rfl⟩
            · split
              · split<;>exact ⟨rfl,rfl⟩
              · exact ⟨rfl,rfl⟩
       clear HL HEV hmo hmo1;obtain ⟨Q,hQ⟩:∃ Q,qw k sd=Q:=⟨_,rfl⟩;rw[hQ]at HL2 HCH HKC
       clear hQ;obtain ⟨O,ce⟩:=Q;simp only at HL2 HCH HKC
       by_cases hpe:pe=0
       · subst hpe;rw[if_neg (by simp)]at HL2
         by_cases hce:ce=0
         · subst hce;rw[if_neg (by simp)]at HL2
           go_enter Tryz.func4,Tryz.ntmps4
           go_wp2_with fail
           generalize w.alloc (.cells #[.int .i64 0,.int .i64 0,.slice none 0 0,.string ⟨#[]⟩,.string ⟨#[]⟩] 24)=W0 at *
           refine Calls.mono (HC1.out W0 hb0) ?_;rintro e w1 ⟨rfl,hb1⟩;have hB1:=hb0.trans (hb1.mono hb0.size);have HR1:Hid _:=(hb1.block _ (qh HR0.out)).trans HR0.out;clear HC1 hb1;go_wp2_with fail;refine Calls.mono (HC2.out w1 hB1) ?_;rintro e w2 ⟨rfl,hb2⟩;have hB2:=hB1.trans (hb2.mono hB1.size);have HR2:Hid _:=(hb2.block _ (qh HR1.out)).trans HR1.out;clear HC2 hb2;go_wp2_with fail;refine Calls.mono (HK.out w2 hB2) ?_;rintro e w2' ⟨rfl,rfl⟩;clear HR0 HR1 HK;go_wp2_with fail;refine Calls.mono (HP.out _ hB2) ?_;rintro e w3 ⟨v3,rfl,hS3,hb3⟩;have hB3:=hB2.trans (hb3.mono hB2.size);have HR3:Hid _:=(hb3.block _ (qh HR2.out)).trans HR2.out;obtain ⟨a3,c3,rfl,_,_⟩:=hS3.shape;have HS3:Hid _:=hS3;clear hS3 hb3 HP;go_wp2_with fail;refine Calls.mono (HCH.out w3 hB3) ?_;rintro e w4 ⟨a4,c4,rfl,hT4,hb4⟩;have hb5:=Below.alloc1 w4 (.cells #[.int .i64 k,.int .i64 0,.slice a4 O.content.length c4,.string O.name,.string O.s] 24);have hb45:=hb4.trans (hb5.mono hb4.size);have hB5:=hB3.trans (hb45.mono hB3.size);have HR5:Hid _:=(hb45.block _ (qh HR3.out)).trans HR3.out;have HS5:Hid _:=qC.later HS3.out hb45;have HT5:Hid _:=qb.later hb5 _ hT4;have HO5:Hid _:=heap_alloc_new w4 (.cells #[.int .i64 k,.int .i64 0,.slice a4 O.content.length c4,.string O.name,.string O.s] 24);have hs1:w.heap.size<w2'.heap.size:=qh HR2.out;have hs2:w.heap.size<w3.heap.size:=qh HR3.out;have r0:(w4.alloc (.cells #[.int .i64 k,.int .i64 0,.slice a4 O.content.length c4,.string O.name,.string O.s] 24)).cell? ⟨w.heap.size,0,none⟩=some (.int .i64 0):=by rw[cH9 HR5.out];rfl
           have r1:(w4.alloc (.cells #[.int .i64 k,.int .i64 0,.slice a4 O.content.length c4,.string O.name,.string O.s] 24)).cell? ⟨w.heap.size,1,none⟩=some (.int .i64 0):=by rw[cH9 HR5.out];rfl
           have r2:(w4.alloc (.cells #[.int .i64 k,.int .i64 0,.slice a4 O.content.length c4,.string O.name,.string O.s] 24)).cell? ⟨w.heap.size,2,none⟩=some (.slice none 0 0):=by rw[cH9 HR5.out];rfl
           have r3:(w4.alloc (.cells #[.int .i64 k,.int .i64 0,.slice a4 O.content.length c4,.string O.name,.string O.s] 24)).cell? ⟨w.heap.size,3,none⟩=some (.string ⟨#[]⟩):=by rw[cH9 HR5.out];rfl
           have r4:(w4.alloc (.cells #[.int .i64 k,.int .i64 0,.slice a4 O.content.length c4,.string O.name,.string O.s] 24)).cell? ⟨w.heap.size,4,none⟩=some (.string ⟨#[]⟩):=by rw[cH9 HR5.out];rfl
           have f0:(w4.alloc (.cells #[.int .i64 k,.int .i64 0,.slice a4 O.content.length c4,.string O.name,.string O.s] 24)).frozen? ⟨w.heap.size,0,none⟩=false:=fH9 HR5.out _;have f1:(w4.alloc (.cells #[.int .i64 k,.int .i64 0,.slice a4 O.content.length c4,.string O.name,.string O.s] 24)).frozen? ⟨w.heap.size,1,none⟩=false:=fH9 HR5.out _;have f2:(w4.alloc (.cells #[.int .i64 k,.int .i64 0,.slice a4 O.content.length c4,.string O.name,.string O.s] 24)).frozen? ⟨w.heap.size,2,none⟩=false:=fH9 HR5.out _;have f3:(w4.alloc (.cells #[.int .i64 k,.int .i64 0,.slice a4 O.content.length c4,.string O.name,.string O.s] 24)).frozen? ⟨w.heap.size,3,none⟩=false:=fH9 HR5.out _;have f4:(w4.alloc (.cells #[.int .i64 k,.int .i64 0,.slice a4 O.content.length c4,.string O.name,.string O.s] 24)).frozen? ⟨w.heap.size,4,none⟩=false:=fH9 HR5.out _;clear hb4 hb5 hb45 hT4 HR3 HR2 HS3 HCH;go_wp2_with fail
           generalize w4.alloc (.cells #[.int .i64 k,.int .i64 0,.slice a4 O.content.length c4,.string O.name,.string O.s] 24)=W5 at *
           refine bodyPost_ret (v:=.tuple #[.agg #[.int .i64 k,.int .i64 0,.slice a4 O.content.length c4,.string O.name,.string O.s],.slice a3 (yd (qa pt)).length c3,.int .i64 0]) (by simp[results,Tryz.results4,go_sem,qd,World.cell?_setCell_other,r0,r1,r2,r3,r4]) rfl ?_
           unfold zO;rw[HL2.out];refine ⟨a4,c4,.slice a3 (yd (qa pt)).length c3,by rw[HKC.out.1],HKC.out.2,?_,?_,yy (p:=0) hB5 (nR9 _)⟩
           · have h1 := qb.carry (w' := Ka W5 w.heap.size 0 (.int .i64 k) (.int .i64 0) (.slice a4 O.content.length c4) (.string O.name) (.string O.s)) (S' := fun b => w.heap.size ≤ b) (fun b hb => ⟨by omega, yS (by omega)⟩) _ HT5.out
             have h2:=qb.wide' h1 (2501-(sd.length+1));rw[show sd.length+1+(2501-(sd.length+1))=2501 by omega]at h2
             exact h2
           · exact qC.carry (w':=Ka W5 w.heap.size 0 (.int .i64 k) (.int .i64 0) (.slice a4 O.content.length c4) (.string O.name) (.string O.s)) HS5.out (fun b hb=>⟨by omega,yS (by omega)⟩)
         · have hceb : (ce == 0) = false := by simpa using hce
           rw[if_pos (by simpa using hce)]at HL2
           go_enter Tryz.func4,Tryz.ntmps4
           go_wp2_with fail
           generalize w.alloc (.cells #[.int .i64 0,.int .i64 0,.slice none 0 0,.string ⟨#[]⟩,.string ⟨#[]⟩] 24)=W0 at *
           refine Calls.mono (HC1.out W0 hb0) ?_;rintro e w1 ⟨rfl,hb1⟩;have hB1:=hb0.trans (hb1.mono hb0.size);have HR1:Hid _:=(hb1.block _ (qh HR0.out)).trans HR0.out;clear HC1 hb1;go_wp2_with fail;refine Calls.mono (HC2.out w1 hB1) ?_;rintro e w2 ⟨rfl,hb2⟩;have hB2:=hB1.trans (hb2.mono hB1.size);have HR2:Hid _:=(hb2.block _ (qh HR1.out)).trans HR1.out;clear HC2 hb2;go_wp2_with fail;refine Calls.mono (HK.out w2 hB2) ?_;rintro e w2' ⟨rfl,rfl⟩;clear HR0 HR1 HK;go_wp2_with fail;refine Calls.mono (HP.out _ hB2) ?_;rintro e w3 ⟨v3,rfl,hS3,hb3⟩;have hB3:=hB2.trans (hb3.mono hB2.size);have HR3:Hid _:=(hb3.block _ (qh HR2.out)).trans HR2.out;obtain ⟨a3,c3,rfl,_,_⟩:=hS3.shape;clear hS3 hb3 HP;go_wp2_with fail;refine Calls.mono (HCH.out w3 hB3) ?_;rintro e w4 ⟨a4,c4,rfl,hT4,hb4⟩;have hb5:=Below.alloc1 w4 (.cells #[.int .i64 k,.int .i64 0,.slice a4 O.content.length c4,.string O.name,.string O.s] 24);have hb45:=hb4.trans (hb5.mono hb4.size);have hB5:=hB3.trans (hb45.mono hB3.size);have HR5:Hid _:=(hb45.block _ (qh HR3.out)).trans HR3.out;have r0:(w4.alloc (.cells #[.int .i64 k,.int .i64 0,.slice a4 O.content.length c4,.string O.name,.string O.s] 24)).cell? ⟨w.heap.size,0,none⟩=some (.int .i64 0):=by rw[cH9 HR5.out];rfl
           have r1:(w4.alloc (.cells #[.int .i64 k,.int .i64 0,.slice a4 O.content.length c4,.string O.name,.string O.s] 24)).cell? ⟨w.heap.size,1,none⟩=some (.int .i64 0):=by rw[cH9 HR5.out];rfl
           have r2:(w4.alloc (.cells #[.int .i64 k,.int .i64 0,.slice a4 O.content.length c4,.string O.name,.string O.s] 24)).cell? ⟨w.heap.size,2,none⟩=some (.slice none 0 0):=by rw[cH9 HR5.out];rfl
           have r3:(w4.alloc (.cells #[.int .i64 k,.int .i64 0,.slice a4 O.content.length c4,.string O.name,.string O.s] 24)).cell? ⟨w.heap.size,3,none⟩=some (.string ⟨#[]⟩):=by rw[cH9 HR5.out];rfl
           have r4:(w4.alloc (.cells #[.int .i64 k,.int .i64 0,.slice a4 O.content.length c4,.string O.name,.string O.s] 24)).cell? ⟨w.heap.size,4,none⟩=some (.string ⟨#[]⟩):=by rw[cH9 HR5.out];rfl
           have f0:(w4.alloc (.cells #[.int .i64 k,.int .i64 0,.slice a4 O.content.length c4,.string O.name,.string O.s] 24)).frozen? ⟨w.heap.size,0,none⟩=false:=fH9 HR5.out _;have f1:(w4.alloc (.cells #[.int .i64 k,.int .i64 0,.slice a4 O.content.length c4,.string O.name,.string O.s] 24)).frozen? ⟨w.heap.size,1,none⟩=false:=fH9 HR5.out _;have f2:(w4.alloc (.cells #[.int .i64 k,.int .i64 0,.slice a4 O.content.length c4,.string O.name,.string O.s] 24)).frozen? ⟨w.heap.size,2,none⟩=false:=fH9 HR5.out _;have f3:(w4.alloc (.cells #[.int .i64 k,.int .i64 0,.slice a4 O.content.length c4,.string O.name,.string O.s] 24)).frozen? ⟨w.heap.size,3,none⟩=false:=fH9 HR5.out _;have f4:(w4.alloc (.cells #[.int .i64 k,.int .i64 0,.slice a4 O.content.length c4,.string O.name,.string O.s] 24)).frozen? ⟨w.heap.size,4,none⟩=false:=fH9 HR5.out _;clear hb4 hb5 hb45 hT4 HR3 HR2 HCH;go_wp2_with fail
           generalize w4.alloc (.cells #[.int .i64 k,.int .i64 0,.slice a4 O.content.length c4,.string O.name,.string O.s] 24)=W5 at *
           refine bodyPost_ret (v:=.tuple #[.agg #[.int .i64 0,.int .i64 0,.slice none 0 0,.string ⟨#[]⟩,.string ⟨#[]⟩],.slice none 0 0,.int .i64 ce]) (by simp[results,Tryz.results4,go_sem,qd,World.cell?_setCell_other,r0,r1,r2,r3,r4]) rfl ?_
           exact qY HL2.out (yy (p:=0) hB5 (nR9 _))
       · have hpeb : (pe == 0) = false := by simpa using hpe
         rw[if_pos hpe]at HL2
         go_enter Tryz.func4,Tryz.ntmps4
         go_wp2_with fail
         generalize w.alloc (.cells #[.int .i64 0,.int .i64 0,.slice none 0 0,.string ⟨#[]⟩,.string ⟨#[]⟩] 24)=W0 at *
         refine Calls.mono (HC1.out W0 hb0) ?_;rintro e w1 ⟨rfl,hb1⟩;have hB1:=hb0.trans (hb1.mono hb0.size);have HR1:Hid _:=(hb1.block _ (qh HR0.out)).trans HR0.out;clear HC1 hb1;go_wp2_with fail;refine Calls.mono (HC2.out w1 hB1) ?_;rintro e w2 ⟨rfl,hb2⟩;have hB2:=hB1.trans (hb2.mono hB1.size);have HR2:Hid _:=(hb2.block _ (qh HR1.out)).trans HR1.out;clear HC2 hb2;go_wp2_with fail;refine Calls.mono (HK.out w2 hB2) ?_;rintro e w2' ⟨rfl,rfl⟩;clear HR0 HR1 HK HCH;go_wp2_with fail;refine Calls.mono (HP.out _ hB2) ?_;rintro e w3 ⟨v3,rfl,hS3,hb3⟩;have hB3:=hB2.trans (hb3.mono hB2.size);have HR3:Hid _:=(hb3.block _ (qh HR2.out)).trans HR2.out;obtain ⟨a3,c3,rfl,_,_⟩:=hS3.shape;have r0:w3.cell? ⟨w.heap.size,0,none⟩=some (.int .i64 0):=by rw[cH9 HR3.out];rfl
         have r1:w3.cell? ⟨w.heap.size,1,none⟩=some (.int .i64 0):=by rw[cH9 HR3.out];rfl
         have r2:w3.cell? ⟨w.heap.size,2,none⟩=some (.slice none 0 0):=by rw[cH9 HR3.out];rfl
         have r3:w3.cell? ⟨w.heap.size,3,none⟩=some (.string ⟨#[]⟩):=by rw[cH9 HR3.out];rfl
         have r4:w3.cell? ⟨w.heap.size,4,none⟩=some (.string ⟨#[]⟩):=by rw[cH9 HR3.out];rfl
         have f0:w3.frozen? ⟨w.heap.size,0,none⟩=false:=fH9 HR3.out _;have f1:w3.frozen? ⟨w.heap.size,1,none⟩=false:=fH9 HR3.out _;have f2:w3.frozen? ⟨w.heap.size,2,none⟩=false:=fH9 HR3.out _;have f3:w3.frozen? ⟨w.heap.size,3,none⟩=false:=fH9 HR3.out _;have f4:w3.frozen? ⟨w.heap.size,4,none⟩=false:=fH9 HR3.out _;clear hS3 hb3 HP HR2 HR3;go_wp2_with fail;refine bodyPost_ret (v:=.tuple #[.agg #[.int .i64 0,.int .i64 0,.slice none 0 0,.string ⟨#[]⟩,.string ⟨#[]⟩],.slice none 0 0,.int .i64 pe]) (by simp[results,Tryz.results4,go_sem,qd,World.cell?_setCell_other,r0,r1,r2,r3,r4]) rfl ?_
         exact qY HL2.out (yy (p:=0) hB3 (nR9 _))
end
section
attribute [local go_sem] qd
theorem zM {s:ByteArray}{k:Nat}(h:k<s.size):s.data.toList.drop k=s[k]::s.data.toList.drop (k+1):=by
 rw[List.drop_eq_getElem_cons (by rw[zv];exact h)]
 rfl
theorem Qy {s:ByteArray}{k:Nat}(h:s.size≤k):s.data.toList.drop k=[]:=List.drop_of_length_le (by rw[zv];exact h)
theorem qel {p:UInt8→Bool}{s:ByteArray}{k:Nat}(h:k<s.size)(hp:p s[k]=true):(s.data.toList.drop k).takeWhile p=s[k]::(s.data.toList.drop (k+1)).takeWhile p∧(s.data.toList.drop k).dropWhile p=(s.data.toList.drop (k+1)).dropWhile p:=by
 rw[zM h];simp[hp]
theorem qbJ {p:UInt8→Bool}{s:ByteArray}{k:Nat}(h:k<s.size)(hp:p s[k]=false):(s.data.toList.drop k).takeWhile p=[]∧(s.data.toList.drop k).dropWhile p=s.data.toList.drop k:=by
 rw[zM h];simp[hp]
theorem qek {p:UInt8→Bool}{s:ByteArray}{k:Nat}(h:s.size≤k):(s.data.toList.drop k).takeWhile p=[]∧(s.data.toList.drop k).dropWhile p=s.data.toList.drop k:=by
 rw[Qy h];exact ⟨rfl,rfl⟩
theorem Vl {r:List UInt8}(h:∀ c t,r=c::t→c≠42∧c≠35):jd r=if r.takeWhile qg=[] then none else some (r.takeWhile qg,r.dropWhile qg):=by
 cases r with
 | nil=>rfl
 | cons c t =>
   obtain ⟨h1,h2⟩:=h c t rfl;simp only[jd];rw[if_neg h1,if_neg h2]
theorem Xd (B s:ByteArray){k:Nat}(h:k<s.size):(B++s.extract k (k+1)).data.toList=B.data.toList++[s[k]]:=by
 have e:(s.extract k (k+1)).data.toList=[s[k]]:=by
  rw[ByteArray.data_extract,Array.toList_extract];rw[List.extract_eq_take_drop];rw[show k+1-k=1 by omega]
  have:=zM h;rw[this];rfl
 rw[ByteArray.data_append,Array.toList_append,e]
def zD (s:ByteArray):Int:=if (jw s.data.toList).isSome then 0 else 1
def zE (s:ByteArray):List St:=asS ((jw s.data.toList).getD [])
theorem yM {s:ByteArray}{k:Nat}{h:k<s.size}{n:Nat}(hn:n<256):(s[k].toNat:Int)=(n:Int)↔s[k]=UInt8.ofNat n:=by
 constructor
 · intro e
   apply UInt8.toNat_inj.1
   rw[UInt8.toNat_ofNat'];omega
 · intro e;rw[e,UInt8.toNat_ofNat'];omega
theorem qe7 (ds:List UInt8):jh ds≤1000:=by
 unfold jh
 have:∀ (l:List UInt8) (x:Nat),x≤1000→l.foldl (fun x c=>min (10*x+(c.toNat-48)) 1000) x≤1000:=by
  intro l
  induction l with
  | nil=>intro x h;exact h
  | cons c l ih=>intro x _;exact ih _ (Nat.min_le_right _ _)
 exact this ds 0 (by omega)
theorem qfV {x:Int}(h0:0≤x)(h1:x<256):IntKind.u8.wrap x=x:=by
 unfold IntKind.wrap;simp[IntKind.bits,IntKind.signed];omega
theorem yO (W:World):Calls Tryz.prog 32 #[] W fun e w'=>e=.returned (.tuple #[.slice none 0 0,.int .i64 1])∧w'=W:=by
 go_enter Tryz.func32,Tryz.ntmps32
 go_wp2_with fail
 go_ret2
 exact ⟨rfl,rfl⟩
set_option maxHeartbeats 8000000 in
theorem JP (s:ByteArray)(w:World)(hs:s.size≤maxLen) :
 Calls Tryz.prog 15 #[.string s] w fun e w'=>∃ v,e=.returned (.tuple #[v,.int .i64 (zD s)])∧qC (fun b=>w.heap.size≤b) w' v (zE s)∧Below w.heap.size w w':=by
 unfold maxLen at hs
 have HNO:Hid (jw s.data.toList=none→zD s=1∧zE s=[]):=by
  intro h;unfold zD zE;rw[h];exact ⟨rfl,rfl⟩
 have HPT:Hid (jw s.data.toList=if s.size≤2500∧s.data.toList≠[] then (match goT s.size s.data.toList with|none=>none|some l=>if jf l=true then some l else none) else none):=by
  show _=_
  unfold jw;rw[zv]
  split
  · cases goT s.size s.data.toList<;>rfl
  · rfl
 by_cases h25:2500<s.size
 · have HE2 : Hid (zD s = 1 ∧ zE s = []) := HNO.out (by rw[HPT.out, if_neg (by omega)])
   have h25i:(2500:Int)<(s.size:Int):=by omega
   have HBN:Below w.heap.size w w:=Below.refl _ _;clear HPT HNO
   go_enter Tryz.func15,Tryz.ntmps15
   go_wp2_with (go_at_call 32;refine (Calls.mono (yO _) ?_);rintro e wn ⟨rfl,rfl⟩)
   go_ret2
   exact ⟨_,by rw[HE2.out.1];rfl,by rw[HE2.out.2];exact ⟨none,0,rfl,nR9 _,nZ9 _,fun h=>absurd rfl h⟩,HBN⟩
 · have h25i : ¬ (2500 : Int) < (s.size : Int) := by omega
   by_cases hem:s.size=0
   · have hlem : s.data.toList = [] := List.eq_nil_of_length_eq_zero (by rw[zv];exact hem)
     have HE2:Hid (zD s=1∧zE s=[]):=HNO.out (by rw[HPT.out,if_neg (by simp[hlem])])
     have hse:s.toList=[]:=by rw[ByteArray.toList_eq];exact hlem
     have HBN:Below w.heap.size w w:=Below.refl _ _;clear HPT HNO hlem hem
     go_enter Tryz.func15,Tryz.ntmps15
     go_wp2_with (go_at_call 32;refine (Calls.mono (yO _) ?_);rintro e wn ⟨rfl,rfl⟩)
     go_ret2
     exact ⟨_,by rw[HE2.out.1];rfl,by rw[HE2.out.2];exact ⟨none,0,rfl,nR9 _,nZ9 _,fun h=>absurd rfl h⟩,HBN⟩
   · have hlne : s.data.toList ≠ [] := by intro e;have := zv s;rw[e]at this;simp at this;omega
     have hse:s.toList.isEmpty=false:=by rw[ByteArray.toList_eq];simpa using hlne
     have HP2:Hid (jw s.data.toList=match goT s.size s.data.toList with|none=>none|some l=>if jf l=true then some l else none):=by show _=_;rw[HPT.out,if_pos ⟨by omega,hlne⟩]
     obtain ⟨i0,hi0,hz0,hzz1,hzz2⟩:=info_parts stepInfo;clear HPT hlne
     go_enter Tryz.func15,Tryz.ntmps15
     go_wp2_with fail
     go_loopg [6,5] s.size (fun g x o wr=>∃ (i:Nat) (acc:List PStep),s.size-i=g∧i≤s.size∧x=.int .i64 (i:Int)∧yY w.heap.size wr o (asS acc)∧acc.length≤i∧Below w.heap.size w wr∧(∃ f,(s.data.toList.drop i).length≤f∧goT s.size s.data.toList=(goT f (s.data.toList.drop i)).map (fun l=>acc++l))∧∀ y∈acc,y.1.length≤2500)
     case atStart => exact ⟨0,[],by omega,by omega,rfl,World.ownsRow_nil _ _ _ _,by simp,Below.refl _ _,⟨s.size,by rw[List.drop_zero,zv];exact nR9 _,by rw[List.drop_zero];cases goT s.size s.data.toList<;>rfl⟩,by simp⟩
     case round =>
      rename World=>wo
      obtain ⟨i,acc,hg,his,rfl,hSR,hal,hBo,⟨f,hf,hGo⟩,hsh⟩:=hrel;obtain ⟨ra,rc,rfl,_,_⟩:=hSR.shape;rw[zI]at hSR ⊢
      have HSR:Hid (yY w.heap.size wo (.slice ra acc.length rc) (asS acc)):=hSR;have HSH:Hid (∀ y∈acc,y.1.length≤2500):=hsh;have hszo:=hBo.size
      by_cases hil:i<s.size
      · have hili : (i : Int) < (s.size : Int) := by omega
        obtain ⟨f',rfl⟩:∃ f',f=f'+1:=⟨f-1,by rw[List.length_drop,zv]at hf;omega⟩
        have hf':s.size-(i+1)≤f':=by rw[List.length_drop,zv]at hf;omega
        have HGo:Hid (goT s.size s.data.toList=(goT (f'+1) (s[i]::s.data.toList.drop (i+1))).map (fun l=>acc++l)):=by show _=_;rw[hGo,zM hil]
        clear hGo hf hSR hsh
        by_cases h47:(s[i].toNat:Int)=47
        · have h47b : s[i] = 47 := (yM (n := 47) (by decide)).1 h47
          have HG2:Hid (goT s.size s.data.toList=(match yv (s.data.toList.drop (i+1)) with|none=>none|some (st,r2)=>match goT f' r2 with|none=>none|some l=>some (st::l)).map (fun l=>acc++l)):=by
           show _=_
           rw[HGo.out,h47b];simp only[goT,if_true];rfl
          have HNX:Hid (∀ (st:PStep) (J:Nat),yv (s.data.toList.drop (i+1))=some (st,s.data.toList.drop J)→∃ f,(s.data.toList.drop J).length≤f∧goT s.size s.data.toList=(goT f (s.data.toList.drop J)).map (fun l=>(acc++[st])++l)):=by
           intro st J h;refine ⟨f',?_,?_⟩
           · have := qeg h;simp only[List.length_drop,zv]at this ⊢
             omega
           · rw[HG2.out, h];simp only;cases goT f' (s.data.toList.drop J) with
             | none=>rfl
             | some l=>simp
          have HFAIL:Hid (yv (s.data.toList.drop (i+1))=none→zD s=1∧zE s=[]):=by
           intro h;exact HNO.out (by rw[HP2.out,HG2.out,h];rfl)
          have HSHN:Hid (∀ st:PStep,st.1.length≤2500→∀ y∈acc++[st],y.1.length≤2500):=by
           intro st h y hy;rw[List.mem_append,List.mem_singleton]at hy
           rcases hy with hy|rfl
           · exact HSH.out y hy
           · exact h
          have hb1:=Below.alloc1 wo (.cells #[.string ⟨#[]⟩,.int .i64 0] 50);have hx1:=heap_alloc_new wo (.cells #[.string ⟨#[]⟩,.int .i64 0] 50);clear h47b HGo HG2;have hi1a:(i:Int)+1≤(s.size:Int):=by omega
          go_upto_block 2 with fail
          go_cut [6] from 20 to 164 (fun x wz=>∃ (j:Nat) (nm:ByteArray),x=.int .i64 (j:Int)∧i+1≤j∧j≤s.size∧wz.heap[wo.heap.size]?=some (.cells #[.string nm,.int .i64 0] 50 (0,0))∧Below wo.heap.size wo wz∧jd (s.data.toList.drop (i+1))=some (nm.data.toList,s.data.toList.drop j)∧nm.size≤2500)
          case first =>
           by_cases hi1:i+1<s.size
           · have hi1i : (i : Int) + 1 < (s.size : Int) := by omega
             by_cases h42:(s[i+1].toNat:Int)=42
             · have h42b : s[i + 1] = 42 := (yM (n := 42) (by decide)).1 h42
               have HNT:Hid (jd (s.data.toList.drop (i+1))=some ((⟨#[42]⟩:ByteArray).data.toList,s.data.toList.drop (i+1+1))):=by
                show _=_
                rw[zM hi1,h42b];rfl
               have HBX:Hid _:=heap_alloc_new wo (.cells #[.string ⟨#[42]⟩,.int .i64 0] 50);have HBB:Hid _:=Below.alloc1 wo (.cells #[.string ⟨#[42]⟩,.int .i64 0] 50);clear h42b hb1 hx1;go_wp2_with fail
               go_meet
               case rel => exact ⟨i+1+1,⟨#[42]⟩,by go_num,by omega,by omega,HBX.out,HBB.out,HNT.out,by decide⟩
             · have h42b : s[i + 1] ≠ 42 := fun e => h42 ((yM (n := 42) (by decide)).2 e)
               by_cases h35:(s[i+1].toNat:Int)=35
               · have h35b : s[i + 1] = 35 := (yM (n := 35) (by decide)).1 h35
                 have HNT:Hid (jd (s.data.toList.drop (i+1))=some ((⟨#[]⟩:ByteArray).data.toList,s.data.toList.drop (i+1+1))):=by
                  show _=_
                  rw[zM hi1,h35b];rfl
                 clear h42b h35b;go_wp2_with fail
                 go_meet
                 case rel => exact ⟨i+1+1,⟨#[]⟩,by go_num,by omega,by omega,hx1,hb1,HNT.out,by decide⟩
               · have h35b : s[i + 1] ≠ 35 := fun e => h35 ((yM (n := 35) (by decide)).2 e)
                 have h42c:((s[i+1].toNat:Int)==42)=false:=by simpa using h42
                 have h35c:((s[i+1].toNat:Int)==35)=false:=by simpa using h35
                 have HNO2:Hid (jd (s.data.toList.drop (i+1))=if (s.data.toList.drop (i+1)).takeWhile qg=[] then none else some ((s.data.toList.drop (i+1)).takeWhile qg,(s.data.toList.drop (i+1)).dropWhile qg)):=by
                  refine Vl ?_;intro c t h;rw[zM hi1]at h
                  injection h with h _
                  subst h;exact ⟨h42b,h35b⟩
                 clear h42b h35b;go_wp2_with fail
                 go_loopg [6] (s.size-(i+1)) (fun g x wv=>∃ (q:Nat) (nm:ByteArray),s.size-q=g∧i+1≤q∧q≤s.size∧nm.size+(i+1)=q∧x=.int .i64 (q:Int)∧wv.heap[wo.heap.size]?=some (.cells #[.string nm,.int .i64 0] 50 (0,0))∧Below wo.heap.size wo wv∧(s.data.toList.drop (i+1)).takeWhile qg=nm.data.toList++(s.data.toList.drop q).takeWhile qg∧(s.data.toList.drop (i+1)).dropWhile qg=(s.data.toList.drop q).dropWhile qg)
                 case atStart => exact ⟨i+1,⟨#[]⟩,rfl,nR9 _,by omega,by show 0+(i+1)=i+1;omega,by go_num,hx1,hb1,rfl,rfl⟩
                 case round =>
                  obtain ⟨q,nm,hgq,hq1,hq2,hnl,rfl,hbv,hBv,htw,hdw⟩:=hrel;have b0:wr.cell? ⟨wo.heap.size,0,none⟩=some (.string nm):=by rw[cH9 hbv];rfl
                  have f0:wr.frozen? ⟨wo.heap.size,0,none⟩=false:=fH9 hbv 0;have hBvw:Below w.heap.size w wr:=hBo.trans (hBv.mono hBo.size)
                  have KEX:(s.data.toList.drop q).takeWhile qg=[]∧(s.data.toList.drop q).dropWhile qg=s.data.toList.drop q→Hid (jd (s.data.toList.drop (i+1))=if nm.data.toList=[] then none else some (nm.data.toList,s.data.toList.drop q)):=by
                   intro hex
                   show _=_
                   rw[HNO2.out,htw,hdw,hex.1,hex.2,List.append_nil]
                  by_cases hql:q<s.size
                  · have hqli : (q : Int) < (s.size : Int) := by omega
                    by_cases d1:(s[q].toNat:Int)<97
                    · have hex := qbJ (p := qg) hql (by simp[qg];omega)
                      have HNX2:=KEX hex;clear KEX htw hdw hex
                      by_cases hne:nm.data.toList=[]
                      · have hse2 : nm.toList = [] := by rw[ByteArray.toList_eq];exact hne
                        have HE2:Hid (zD s=1∧zE s=[]):=HFAIL.out (by unfold yv;rw[HNX2.out,if_pos hne])
                        have HBN:=hBvw;clear hne HNX2;go_wp2_with (go_at_call 32;refine (Calls.mono (yO _) ?_);rintro e wn ⟨rfl,rfl⟩)
                        go_ret2
                        exact ⟨_,by rw[HE2.out.1];rfl,by rw[HE2.out.2];exact ⟨none,0,rfl,nR9 _,nZ9 _,fun h=>absurd rfl h⟩,HBN⟩
                      · have hse2 : nm.toList.isEmpty = false := by rw[ByteArray.toList_eq];simpa using hne
                        have hse3:¬ nm.toList=[]:=by rw[ByteArray.toList_eq];exact hne
                        have HNT2:Hid (jd (s.data.toList.drop (i+1))=some (nm.data.toList,s.data.toList.drop q)):=by show _=_;rw[HNX2.out,if_neg hne]
                        clear hne HNX2;go_wp2_with fail
                        go_meet
                        case rel => exact ⟨q,nm,rfl,hq1,hq2,hbv,hBv,HNT2.out,by omega⟩
                    · by_cases d2 : 122 < (s[q].toNat : Int)
                      · have hex := qbJ (p := qg) hql (by simp[qg];omega)
                        have HNX2:=KEX hex;clear KEX htw hdw hex
                        by_cases hne:nm.data.toList=[]
                        · have hse2 : nm.toList = [] := by rw[ByteArray.toList_eq];exact hne
                          have HE2:Hid (zD s=1∧zE s=[]):=HFAIL.out (by unfold yv;rw[HNX2.out,if_pos hne])
                          have HBN:=hBvw;clear hne HNX2;go_wp2_with (go_at_call 32;refine (Calls.mono (yO _) ?_);rintro e wn ⟨rfl,rfl⟩)
                          go_ret2
                          exact ⟨_,by rw[HE2.out.1];rfl,by rw[HE2.out.2];exact ⟨none,0,rfl,nR9 _,nZ9 _,fun h=>absurd rfl h⟩,HBN⟩
                        · have hse2 : nm.toList.isEmpty = false := by rw[ByteArray.toList_eq];simpa using hne
                          have hse3:¬ nm.toList=[]:=by rw[ByteArray.toList_eq];exact hne
                          have HNT2:Hid (jd (s.data.toList.drop (i+1))=some (nm.data.toList,s.data.toList.drop q)):=by show _=_;rw[HNX2.out,if_neg hne]
                          clear hne HNX2;go_wp2_with fail
                          go_meet
                          case rel => exact ⟨q,nm,rfl,hq1,hq2,hbv,hBv,HNT2.out,by omega⟩
                      · obtain ⟨y1, y2⟩ := qel (p := qg) hql (by simp[qg];omega)
                        have HTW2:Hid ((s.data.toList.drop (i+1)).takeWhile qg=(nm++s.extract q (q+1)).data.toList++(s.data.toList.drop (q+1)).takeWhile qg):=by show _=_;rw[htw,y1,Xd nm s hql];simp
                        have HDW2:Hid ((s.data.toList.drop (i+1)).dropWhile qg=(s.data.toList.drop (q+1)).dropWhile qg):=by show _=_;rw[hdw,y2]
                        have HNL2:Hid ((nm++s.extract q (q+1)).size=nm.size+1):=by
                         show _=_
                         rw[←zv,Xd nm s hql,List.length_append,zv];rfl
                        have hq0:(0:Int)≤(q:Int):=by omega
                        have hq3:(q:Int)≤(q:Int)+1:=by omega
                        have hq4:(q:Int)+1≤(s.size:Int):=by omega
                        have hcat:nm.size+1≤2501:=by omega
                        clear htw hdw y1 y2 KEX;go_wp2_with fail
                        go_region
                        go_wp2_with fail
                        go_roundg (s.size-(q+1))
                        case measure => omega
                        case rel => exact ⟨q+1,nm++s.extract q (q+1),rfl,by omega,by omega,by rw[HNL2.out];omega,by go_num,by show (wr.setCell ⟨wo.heap.size,0,none⟩ (.string (nm++s.extract q (q+1)))).heap[wo.heap.size]?=_;simp[World.setCell,Array.getElem?_modify,hbv],(hBv.drew).setCell (p:=⟨wo.heap.size,0,none⟩) (nR9 _) _,HTW2.out,HDW2.out⟩
                  · have hqli : ¬ ((q : Int) < (s.size : Int)) := by omega
                    have hex:=qek (p:=qg) (s:=s) (k:=q) (by omega)
                    have HNX2:=KEX hex;clear KEX htw hdw hex
                    by_cases hne:nm.data.toList=[]
                    · have hse2 : nm.toList = [] := by rw[ByteArray.toList_eq];exact hne
                      have HE2:Hid (zD s=1∧zE s=[]):=HFAIL.out (by unfold yv;rw[HNX2.out,if_pos hne])
                      have HBN:=hBvw;clear hne HNX2;go_wp2_with (go_at_call 32;refine (Calls.mono (yO _) ?_);rintro e wn ⟨rfl,rfl⟩)
                      go_ret2
                      exact ⟨_,by rw[HE2.out.1];rfl,by rw[HE2.out.2];exact ⟨none,0,rfl,nR9 _,nZ9 _,fun h=>absurd rfl h⟩,HBN⟩
                    · have hse2 : nm.toList.isEmpty = false := by rw[ByteArray.toList_eq];simpa using hne
                      have hse3:¬ nm.toList=[]:=by rw[ByteArray.toList_eq];exact hne
                      have HNT2:Hid (jd (s.data.toList.drop (i+1))=some (nm.data.toList,s.data.toList.drop q)):=by show _=_;rw[HNX2.out,if_neg hne]
                      clear hne HNX2;go_wp2_with fail
                      go_meet
                      case rel => exact ⟨q,nm,rfl,hq1,hq2,hbv,hBv,HNT2.out,by omega⟩
           · have hi1i : ¬ ((i : Int) + 1 < (s.size : Int)) := by omega
             have HNO2:Hid (jd (s.data.toList.drop (i+1))=none):=by show _=_;rw[Qy (by omega)];rfl
             have HE2:Hid (zD s=1∧zE s=[]):=HFAIL.out (by unfold yv;rw[HNO2.out])
             have HBN:Below w.heap.size w (wo.alloc (.cells #[.string ⟨#[]⟩,.int .i64 0] 50)):=hBo.trans (hb1.mono hBo.size);go_wp2_with fail
             go_loopg [6] 1 (fun g x wv=>g=1∧x=.int .i64 ((i:Int)+1)∧wv=wo.alloc (.cells #[.string ⟨#[]⟩,.int .i64 0] 50))
             case atStart => exact ⟨rfl,rfl,rfl⟩
             case round =>
              obtain ⟨_,rfl,rfl⟩:=hrel;go_wp2_with (go_at_call 32;refine (Calls.mono (yO _) ?_);rintro e wn ⟨rfl,rfl⟩)
              go_ret2
              exact ⟨_,by rw[HE2.out.1];rfl,by rw[HE2.out.2];exact ⟨none,0,rfl,nR9 _,nZ9 _,fun h=>absurd rfl h⟩,HBN⟩
          case rest =>
           obtain ⟨j,nm,rfl,hj1,hj2,hbox,hBZ,hNT,hnml⟩:=hcut;have HNT:Hid (jd (s.data.toList.drop (i+1))=some (nm.data.toList,s.data.toList.drop j)):=hNT;clear hNT hb1 hx1
           by_cases hjl:j<s.size
           · have hjli : (j : Int) < (s.size : Int) := by omega
             by_cases h91:(s[j].toNat:Int)=91
             · have h91b : s[j] = 91 := (yM (n := 91) (by decide)).1 h91
               have HD91:Hid (s.data.toList.drop j=91::s.data.toList.drop (j+1)):=by show _=_;rw[zM hjl,h91b]
               have HSTN:Hid (((s.data.toList.drop (j+1)).takeWhile qK=[]∨((s.data.toList.drop (j+1)).takeWhile qK).head?=some 48∨((s.data.toList.drop (j+1)).dropWhile qK).head?≠some 93)→yv (s.data.toList.drop (i+1))=none):=by
                intro h;unfold yv;rw[HNT.out];simp only;rw[HD91.out];simp only[Yo,if_true];rw[if_pos h]
               have HSTY:Hid ((s.data.toList.drop (j+1)).takeWhile qK≠[]→((s.data.toList.drop (j+1)).takeWhile qK).head?≠some 48→((s.data.toList.drop (j+1)).dropWhile qK).head?=some 93→yv (s.data.toList.drop (i+1))=some ((nm.data.toList,((jh ((s.data.toList.drop (j+1)).takeWhile qK):Nat):Int)),((s.data.toList.drop (j+1)).dropWhile qK).tail)):=by
                intro g1 g2 g3;unfold yv;rw[HNT.out];simp only;rw[HD91.out];simp only[Yo,if_true];rw[if_neg (by simp[g1,g2,g3])]
               have h91c:((s[j].toNat:Int)==91)=true:=by simpa using h91
               clear h91b
               go_upto_block 5 with fail
               go_cut [6] from 20 to 164 (fun x wz=>∃ (q:Nat) (ds:List UInt8),x=.int .i64 (q:Int)∧j+1≤q∧q≤s.size∧ds.length=q-(j+1)∧wz.heap[wo.heap.size]?=some (.cells #[.string nm,.int .i64 ((jh ds:Nat):Int)] 50 (0,0))∧Below wo.heap.size wo wz∧(s.data.toList.drop (j+1)).takeWhile qK=ds∧(s.data.toList.drop (j+1)).dropWhile qK=s.data.toList.drop q)
               case first =>
                go_wp2_with fail
                go_loopg [6] (s.size-(j+1)) (fun g x wv=>∃ (q:Nat) (ds:List UInt8),s.size-q=g∧j+1≤q∧q≤s.size∧ds.length=q-(j+1)∧x=.int .i64 (q:Int)∧wv.heap[wo.heap.size]?=some (.cells #[.string nm,.int .i64 ((jh ds:Nat):Int)] 50 (0,0))∧Below wo.heap.size wo wv∧(s.data.toList.drop (j+1)).takeWhile qK=ds++(s.data.toList.drop q).takeWhile qK∧(s.data.toList.drop (j+1)).dropWhile qK=(s.data.toList.drop q).dropWhile qK)
                case atStart => exact ⟨j+1,[],rfl,nR9 _,by omega,by simp,by go_num,hbox,hBZ,rfl,rfl⟩
                case round =>
                 obtain ⟨q,ds,hgq,hq1,hq2,hdl,rfl,hbv,hBv,htw,hdw⟩:=hrel;have hsat:=qe7 ds
                 by_cases hql:q<s.size
                 · have hqli : (q : Int) < (s.size : Int) := by omega
                   by_cases d1:(s[q].toNat:Int)<48
                   · have hex := qbJ (p := qK) hql (by simp[qK];omega)
                     have HQ1:Hid ((s.data.toList.drop (j+1)).takeWhile qK=ds):=by show _=_;rw[htw,hex.1,List.append_nil]
                     have HQ2:Hid ((s.data.toList.drop (j+1)).dropWhile qK=s.data.toList.drop q):=by show _=_;rw[hdw,hex.2]
                     clear htw hdw hex;go_wp2_with fail
                     go_meet
                     case rel => exact ⟨q,ds,rfl,hq1,hq2,hdl,hbv,hBv,HQ1.out,HQ2.out⟩
                   · by_cases d2 : 57 < (s[q].toNat : Int)
                     · have hex := qbJ (p := qK) hql (by simp[qK];omega)
                       have HQ1:Hid ((s.data.toList.drop (j+1)).takeWhile qK=ds):=by show _=_;rw[htw,hex.1,List.append_nil]
                       have HQ2:Hid ((s.data.toList.drop (j+1)).dropWhile qK=s.data.toList.drop q):=by show _=_;rw[hdw,hex.2]
                       clear htw hdw hex;go_wp2_with fail
                       go_meet
                       case rel => exact ⟨q,ds,rfl,hq1,hq2,hdl,hbv,hBv,HQ1.out,HQ2.out⟩
                     · obtain ⟨y1, y2⟩ := qel (p := qK) hql (by simp[qK];omega)
                       have HTW2:Hid ((s.data.toList.drop (j+1)).takeWhile qK=(ds++[s[q]])++(s.data.toList.drop (q+1)).takeWhile qK):=by show _=_;rw[htw,y1];simp
                       have HDW2:Hid ((s.data.toList.drop (j+1)).dropWhile qK=(s.data.toList.drop (q+1)).dropWhile qK):=by show _=_;rw[hdw,y2]
                       have hsat2:jh (ds++[s[q]])=min (10*jh ds+(s[q].toNat-48)) 1000:=by unfold jh;rw[List.foldl_append];rfl
                       have HS2:Hid (((jh (ds++[s[q]]):Nat):Int)=min (10*((jh ds:Nat):Int)+((s[q].toNat:Int)-48)) 1000):=by show _=_;rw[hsat2];omega
                       obtain ⟨N,hN⟩:∃ N:Nat,jh ds=N:=⟨_,rfl⟩;rw[hN]at hbv hsat HS2
                       have b1:wr.cell? ⟨wo.heap.size,1,none⟩=some (.int .i64 (N:Int)):=by rw[cH9 hbv];rfl
                       have f1:wr.frozen? ⟨wo.heap.size,1,none⟩=false:=fH9 hbv 1;have hw1:IntKind.i64.wrap (10*(N:Int))=10*(N:Int):=IntWalk.i64_in _ (by omega)
                       have hw2:IntKind.u8.wrap ((s[q].toNat:Int)-48)=(s[q].toNat:Int)-48:=qfV (by omega) (by omega)
                       have hw3:IntKind.i64.wrap ((s[q].toNat:Int)-48)=(s[q].toNat:Int)-48:=IntWalk.i64_in _ (by omega)
                       have hw4:IntKind.i64.wrap (10*(N:Int)+((s[q].toNat:Int)-48))=10*(N:Int)+((s[q].toNat:Int)-48):=IntWalk.i64_in _ (by omega)
                       clear htw hdw y1 y2 hsat2 hN;go_wp2_with fail
                       go_region
                       go_wp2_with fail
                       go_roundg (s.size-(q+1))
                       case measure => omega
                       case rel => exact ⟨q+1,ds++[s[q]],rfl,by omega,by omega,by rw[List.length_append];simp;omega,by go_num,by rw[HS2.out];show (wr.setCell ⟨wo.heap.size,1,none⟩ (.int .i64 (min (10*(N:Int)+((s[q].toNat:Int)-48)) 1000))).heap[wo.heap.size]?=_;simp[World.setCell,Array.getElem?_modify,hbv],(hBv.drew).setCell (p:=⟨wo.heap.size,1,none⟩) (nR9 _) _,HTW2.out,HDW2.out⟩
                 · have hqli : ¬ ((q : Int) < (s.size : Int)) := by omega
                   have hex:=qek (p:=qK) (s:=s) (k:=q) (by omega)
                   have HQ1:Hid ((s.data.toList.drop (j+1)).takeWhile qK=ds):=by show _=_;rw[htw,hex.1,List.append_nil]
                   have HQ2:Hid ((s.data.toList.drop (j+1)).dropWhile qK=s.data.toList.drop q):=by show _=_;rw[hdw,hex.2]
                   clear htw hdw hex;go_wp2_with fail
                   go_meet
                   case rel => exact ⟨q,ds,rfl,hq1,hq2,hdl,hbv,hBv,HQ1.out,HQ2.out⟩
               case rest =>
                obtain ⟨q,ds,rfl,hq1,hq2,hdl,hbv,hBv,hTW,hDW⟩:=hcut;have HTW:Hid ((s.data.toList.drop (j+1)).takeWhile qK=ds):=hTW;have HDW:Hid ((s.data.toList.drop (j+1)).dropWhile qK=s.data.toList.drop q):=hDW;have hBvw:Below w.heap.size w wc:=hBo.trans (hBv.mono hBo.size);clear hTW hDW hbox hBZ
                by_cases hqe:q=j+1
                · have HE2 : Hid (zD s = 1 ∧ zE s = []) := HFAIL.out (HSTN.out (Or.inl (by rw[HTW.out];exact List.eq_nil_of_length_eq_zero (by omega))))
                  have HBN:=hBvw;have hqf:((q:Int)==(j:Int)+1)=true:=by simp;omega
                  clear hqe;go_wp2_with (go_at_call 32;refine (Calls.mono (yO _) ?_);rintro e wn ⟨rfl,rfl⟩)
                  go_ret2
                  exact ⟨_,by rw[HE2.out.1];rfl,by rw[HE2.out.2];exact ⟨none,0,rfl,nR9 _,nZ9 _,fun h=>absurd rfl h⟩,HBN⟩
                · have hqf : ((q : Int) == (j : Int) + 1) = false := by simp;omega
                  have hfs:j+1<s.size:=by omega
                  have hfsi:(j:Int)+1<(s.size:Int):=by omega
                  obtain ⟨c0,ds0,hds⟩:∃ c0 ds0,ds=c0::ds0:=by
                   cases ds with
                   | nil=>simp at hdl;omega
                   | cons c0 ds0=>exact ⟨c0,ds0,rfl⟩
                  have hc0:c0=s[j+1]:=by
                   have h1:=HTW.out;rw[zM hfs,hds,List.takeWhile_cons]at h1
                   split at h1
                   · injection h1 with h1;exact h1.symm
                   · cases h1
                  by_cases h48:(s[j+1].toNat:Int)=48
                  · have h48b : s[j + 1] = 48 := (yM (n := 48) (by decide)).1 h48
                    have HE2:Hid (zD s=1∧zE s=[]):=HFAIL.out (HSTN.out (Or.inr (Or.inl (by rw[HTW.out,hds,hc0,h48b];rfl))))
                    have HBN:=hBvw;clear h48b hc0 hds hqe;go_wp2_with (go_at_call 32;refine (Calls.mono (yO _) ?_);rintro e wn ⟨rfl,rfl⟩)
                    go_ret2
                    exact ⟨_,by rw[HE2.out.1];rfl,by rw[HE2.out.2];exact ⟨none,0,rfl,nR9 _,nZ9 _,fun h=>absurd rfl h⟩,HBN⟩
                  · have h48b : s[j + 1] ≠ 48 := fun e => h48 ((yM (n := 48) (by decide)).2 e)
                    have h48c:((s[j+1].toNat:Int)==48)=false:=by simpa using h48
                    have HN48:Hid ((s.data.toList.drop (j+1)).takeWhile qK≠[]∧((s.data.toList.drop (j+1)).takeWhile qK).head?≠some 48):=by
                     rw[HTW.out,hds,hc0];exact ⟨by simp,by simpa using h48b⟩
                    clear h48b hc0 hds hqe
                    by_cases hql:q<s.size
                    · have hqsz : ((q : Int) == (s.size : Int)) = false := by simp;omega
                      have hqli:(q:Int)<(s.size:Int):=by omega
                      by_cases h93:(s[q].toNat:Int)=93
                      · have h93b : s[q] = 93 := (yM (n := 93) (by decide)).1 h93
                        have HST:Hid (yv (s.data.toList.drop (i+1))=some ((nm.data.toList,((jh ds:Nat):Int)),s.data.toList.drop (q+1))):=by
                         have h1:(s.data.toList.drop (j+1)).dropWhile qK=93::s.data.toList.drop (q+1):=by rw[HDW.out,zM hql,h93b]
                         have:=HSTY.out HN48.out.1 HN48.out.2 (by rw[h1];rfl)
                         rw[HTW.out,h1]at this
                         exact this
                        clear h93b;have b0:wc.cell? ⟨wo.heap.size,0,none⟩=some (.string nm):=by rw[cH9 hbv];rfl
                        have b1:wc.cell? ⟨wo.heap.size,1,none⟩=some (.int .i64 ((jh ds:Nat):Int)):=by rw[cH9 hbv];rfl
                        have hSZ:yY w.heap.size wc (.slice ra acc.length rc) (asS acc):=HSR.out.later hBv
                        have hownZ:wc.ownsRow w.heap.size 50 2 (.slice ra acc.length rc) acc.length (stepCells (asS acc)):=by
                         have:=hSZ;unfold yY at this
                         rw[zI]at this
                         exact this
                        have hszZ:=hBv.size;have hBZw:Below w.heap.size w wc:=hBo.trans (hBv.mono hBo.size);go_wp2_with (at_builtin;refine wpList_append_own_at _ rfl _ _ 25 rfl w.heap.size 50 i0 _ 2 24 Tryz.underlying25 hi0 hz0 hzz1 hzz2 rfl (by decide) _ _ _ rfl (hownZ.alloc _) ⟨wc.heap.size,0,none⟩ 1 1 [.string nm,.int .i64 ((jh ds:Nat):Int)] ?qc0 ?qc1 ?qc2 ?qc3 ?qc4 ?qc5 ?qc6 ?_)
                        try (case qc0=>rfl)
                        try (case qc1=>rfl)
                        try (case qc2=>exact Yx _ _ _ _)
                        try (case qc3=>first|(intro z hz;simp at hz;rcases hz with rfl|rfl<;>rfl)|exact ⟨rfl,rfl⟩)
                        try (case qc4=>first|(unfold maxLen;omega)|omega)
                        try (case qc5=>omega)
                        try (case qc6=>first|(have:=hBZw.size;omega)|(simp;have:=hBZw.size;omega))
                        intro v' w6 hown6 hgr6 _ _;obtain ⟨ja,jl,jc,rfl⟩:=qQ hown6
                        have hS6:yY w.heap.size w6 (.slice ja jl jc) (asS (acc++[(nm.data.toList,((jh ds:Nat):Int))])):=by
                         unfold yY;rw[show asS (acc++[(nm.data.toList,((jh ds:Nat):Int))])=asS acc++[⟨nm,((jh ds:Nat):Int)⟩] by simp[asS],yF,List.length_append,zI]
                         exact hown6
                        have hB6:Below w.heap.size w w6:=(hBZw.alloc hBZw.size _).grown hgr6 (by simp;have:=hBZw.size;omega) (fun z hz=>(hSZ.lt z hz).1)
                        clear hown6 hownZ hSZ;go_wp2_with fail
                        go_roundg (s.size-(q+1))
                        case measure => omega
                        case rel => exact ⟨q+1,acc++[(nm.data.toList,((jh ds:Nat):Int))],rfl,by omega,by go_num,hS6,by rw[List.length_append];simp;omega,hB6,HNX.out _ _ HST.out,HSHN.out _ (by rw[zv];exact hnml)⟩
                      · have h93b : s[q] ≠ 93 := fun e => h93 ((yM (n := 93) (by decide)).2 e)
                        have h93c:((s[q].toNat:Int) != 93)=true:=by simpa using h93
                        have HE2:Hid (zD s=1∧zE s=[]):=HFAIL.out (HSTN.out (Or.inr (Or.inr (by rw[HDW.out,zM hql];simpa using h93b))))
                        have HBN:=hBvw;clear h93b;go_wp2_with (go_at_call 32;refine (Calls.mono (yO _) ?_);rintro e wn ⟨rfl,rfl⟩)
                        go_ret2
                        exact ⟨_,by rw[HE2.out.1];rfl,by rw[HE2.out.2];exact ⟨none,0,rfl,nR9 _,nZ9 _,fun h=>absurd rfl h⟩,HBN⟩
                    · have HE2 : Hid (zD s = 1 ∧ zE s = []) := HFAIL.out (HSTN.out (Or.inr (Or.inr (by rw[HDW.out, Qy (by omega)];simp))))
                      have HBN:=hBvw;have hqsz:((q:Int)==(s.size:Int))=true:=by simp;omega
                      go_wp2_with (go_at_call 32;refine (Calls.mono (yO _) ?_);rintro e wn ⟨rfl,rfl⟩)
                      go_ret2
                      exact ⟨_,by rw[HE2.out.1];rfl,by rw[HE2.out.2];exact ⟨none,0,rfl,nR9 _,nZ9 _,fun h=>absurd rfl h⟩,HBN⟩
             · have h91b : s[j] ≠ 91 := fun e => h91 ((yM (n := 91) (by decide)).2 e)
               have h91c:((s[j].toNat:Int)==91)=false:=by simpa using h91
               have HST:Hid (yv (s.data.toList.drop (i+1))=some ((nm.data.toList,0),s.data.toList.drop j)):=by
                show _=_
                unfold yv;rw[HNT.out];simp only;rw[zM hjl];simp only[Yo];rw[if_neg h91b];rfl
               clear h91b;have b0:wc.cell? ⟨wo.heap.size,0,none⟩=some (.string nm):=by rw[cH9 hbox];rfl
               have b1:wc.cell? ⟨wo.heap.size,1,none⟩=some (.int .i64 0):=by rw[cH9 hbox];rfl
               have hSZ:yY w.heap.size wc (.slice ra acc.length rc) (asS acc):=HSR.out.later hBZ
               have hownZ:wc.ownsRow w.heap.size 50 2 (.slice ra acc.length rc) acc.length (stepCells (asS acc)):=by
                have:=hSZ;unfold yY at this
                rw[zI]at this
                exact this
               have hszZ:=hBZ.size;have hBZw:Below w.heap.size w wc:=hBo.trans (hBZ.mono hBo.size);go_wp2_with (at_builtin;refine wpList_append_own_at _ rfl _ _ 25 rfl w.heap.size 50 i0 _ 2 24 Tryz.underlying25 hi0 hz0 hzz1 hzz2 rfl (by decide) _ _ _ rfl (hownZ.alloc _) ⟨wc.heap.size,0,none⟩ 1 1 [.string nm,.int .i64 0] ?qc0 ?qc1 ?qc2 ?qc3 ?qc4 ?qc5 ?qc6 ?_)
               try (case qc0=>rfl)
               try (case qc1=>rfl)
               try (case qc2=>exact Yx _ _ _ _)
               try (case qc3=>first|(intro z hz;simp at hz;rcases hz with rfl|rfl<;>rfl)|exact ⟨rfl,rfl⟩)
               try (case qc4=>first|(unfold maxLen;omega)|omega)
               try (case qc5=>omega)
               try (case qc6=>first|(have:=hBZw.size;omega)|(simp;have:=hBZw.size;omega))
               intro v' w6 hown6 hgr6 _ _;obtain ⟨ja,jl,jc,rfl⟩:=qQ hown6
               have hS6:yY w.heap.size w6 (.slice ja jl jc) (asS (acc++[(nm.data.toList,0)])):=by
                unfold yY;rw[show asS (acc++[(nm.data.toList,0)])=asS acc++[⟨nm,0⟩] by simp[asS],yF,List.length_append,zI]
                exact hown6
               have hB6:Below w.heap.size w w6:=(hBZw.alloc hBZw.size _).grown hgr6 (by simp;have:=hBZw.size;omega) (fun z hz=>(hSZ.lt z hz).1)
               clear hown6 hownZ hSZ;go_wp2_with fail
               go_roundg (s.size-(j))
               case measure => omega
               case rel => exact ⟨j,acc++[(nm.data.toList,0)],rfl,by omega,by go_num,hS6,by rw[List.length_append];simp;omega,hB6,HNX.out _ _ HST.out,HSHN.out _ (by rw[zv];exact hnml)⟩
           · have hjli : ¬ ((j : Int) < (s.size : Int)) := by omega
             have hjlb:decide ((j:Int)<(s.size:Int))=false:=decide_eq_false hjli;have hjle:(s.size:Int)≤(j:Int):=by omega
             have hjeq:j=s.size:=by omega
             clear hj2 hjl
             have HST:Hid (yv (s.data.toList.drop (i+1))=some ((nm.data.toList,0),s.data.toList.drop j)):=by
              show _=_
              unfold yv;rw[HNT.out];simp only;rw[Qy (by omega)]
              rfl
             have b0:wc.cell? ⟨wo.heap.size,0,none⟩=some (.string nm):=by rw[cH9 hbox];rfl
             have b1:wc.cell? ⟨wo.heap.size,1,none⟩=some (.int .i64 0):=by rw[cH9 hbox];rfl
             have hSZ:yY w.heap.size wc (.slice ra acc.length rc) (asS acc):=HSR.out.later hBZ
             have hownZ:wc.ownsRow w.heap.size 50 2 (.slice ra acc.length rc) acc.length (stepCells (asS acc)):=by
              have:=hSZ;unfold yY at this
              rw[zI]at this
              exact this
             have hszZ:=hBZ.size;have hBZw:Below w.heap.size w wc:=hBo.trans (hBZ.mono hBo.size);go_wp2_with (at_builtin;refine wpList_append_own_at _ rfl _ _ 25 rfl w.heap.size 50 i0 _ 2 24 Tryz.underlying25 hi0 hz0 hzz1 hzz2 rfl (by decide) _ _ _ rfl (hownZ.alloc _) ⟨wc.heap.size,0,none⟩ 1 1 [.string nm,.int .i64 0] ?qc0 ?qc1 ?qc2 ?qc3 ?qc4 ?qc5 ?qc6 ?_)
             try (case qc0=>rfl)
             try (case qc1=>rfl)
             try (case qc2=>exact Yx _ _ _ _)
             try (case qc3=>first|(intro z hz;simp at hz;rcases hz with rfl|rfl<;>rfl)|exact ⟨rfl,rfl⟩)
             try (case qc4=>first|(unfold maxLen;omega)|omega)
             try (case qc5=>omega)
             try (case qc6=>first|(have:=hBZw.size;omega)|(simp;have:=hBZw.size;omega))
             intro v' w6 hown6 hgr6 _ _;obtain ⟨ja,jl,jc,rfl⟩:=qQ hown6
             have hS6:yY w.heap.size w6 (.slice ja jl jc) (asS (acc++[(nm.data.toList,0)])):=by
              unfold yY;rw[show asS (acc++[(nm.data.toList,0)])=asS acc++[⟨nm,0⟩] by simp[asS],yF,List.length_append,zI]
              exact hown6
             have hB6:Below w.heap.size w w6:=(hBZw.alloc hBZw.size _).grown hgr6 (by simp;have:=hBZw.size;omega) (fun z hz=>(hSZ.lt z hz).1)
             clear hown6 hownZ hSZ;go_wp2_with fail
             go_roundg (s.size-(j))
             case measure => omega
             case rel => exact ⟨j,acc++[(nm.data.toList,0)],rfl,by omega,by go_num,hS6,by rw[List.length_append];simp;omega,hB6,HNX.out _ _ HST.out,HSHN.out _ (by rw[zv];exact hnml)⟩
        · have h47b : s[i] ≠ 47 := fun e => h47 ((yM (n := 47) (by decide)).2 e)
          have HE2:Hid (zD s=1∧zE s=[]):=HNO.out (by rw[HP2.out,HGo.out];simp only[goT,if_neg h47b];rfl)
          have HBN:=hBo;clear h47b HGo;go_wp2_with (go_at_call 32;refine (Calls.mono (yO _) ?_);rintro e wn ⟨rfl,rfl⟩)
          go_ret2
          exact ⟨_,by rw[HE2.out.1];rfl,by rw[HE2.out.2];exact ⟨none,0,rfl,nR9 _,nZ9 _,fun h=>absurd rfl h⟩,HBN⟩
      · have hili : ¬ ((i : Int) < (s.size : Int)) := by omega
        have HG2:Hid (goT s.size s.data.toList=some acc):=by
         show _=_
         rw[hGo,Qy (by omega)]
         cases f<;>simp[goT]
        have hSt:=hSR.steps
        have HPG:Hid _:=qaq _ (.slice ra acc.length rc) (asS acc) wo hSt (by
         intro x hx;obtain ⟨q,hq,rfl⟩:=List.mem_map.1 hx;have:=HSH.out q hq
         show q.1.toArray.size≤maxLen
         unfold maxLen;simp;omega)
        rw[X6]at HPG
        clear hSR hGo hsh;cases hpl:jf acc with
        | false =>
          rw[hpl]at HPG
          have HE2:Hid (zD s=1∧zE s=[]):=HNO.out (by rw[HP2.out,HG2.out];simp[hpl])
          clear hpl;go_wp2_with fail;refine (Calls.mono HPG.out ?_);rintro e w3 ⟨rfl,hb3⟩;have HBN:Below w.heap.size w w3:=hBo.trans (hb3.mono hBo.size);go_wp2_with (go_at_call 32;refine (Calls.mono (yO _) ?_);rintro e wn ⟨rfl,rfl⟩)
          go_ret2
          exact ⟨_,by rw[HE2.out.1];rfl,by rw[HE2.out.2];exact ⟨none,0,rfl,nR9 _,nZ9 _,fun h=>absurd rfl h⟩,HBN⟩
        | true =>
          rw[hpl]at HPG
          have HE2:Hid (zD s=0∧zE s=asS acc):=by
           have:jw s.data.toList=some acc:=by rw[HP2.out,HG2.out];simp[hpl]
           unfold zD zE;rw[this];exact ⟨rfl,rfl⟩
          clear hpl;go_wp2_with fail;refine (Calls.mono HPG.out ?_);rintro e w3 ⟨rfl,hb3⟩;go_wp2_with fail
          go_ret2
          exact ⟨_,by rw[HE2.out.1];rfl,by rw[HE2.out.2];exact hSt.later hb3,hBo.trans (hb3.mono hBo.size)⟩
end
end Go.Proofs.YtfplhcicbbhljaaGreatDoor
namespace Go.Proofs.YtfplhcicbbhljaaGreatDoor
open Go.ChangeShapes Go.WideShapes Go.ChangeAt Go.RowKit Go.Sort
set_option maxRecDepth 100000
structure Orw where
 kind:Int
 target:Int
 ca:Option Addr
 cl:Nat
 cc:Nat
 name:ByteArray
 s:ByteArray
instance:Inhabited Orw:=⟨⟨0,0,none,0,0,⟨#[]⟩,⟨#[]⟩⟩⟩
def Orw.vc (r:Orw):Value:=.slice r.ca r.cl r.cc
def ZZ (r:Orw):List Value:=[.int .i64 r.kind,.int .i64 r.target,r.vc,.string r.name,.string r.s]
def qO (l:List Orw):List Value:=l.flatMap ZZ
theorem yb (l:List Orw):(qO l).length=l.length*5:=by
 induction l with
 | nil=>rfl
 | cons r l ih=>unfold qO at ih ⊢;rw[List.flatMap_cons,List.length_append,ih,List.length_cons];show 5+_=_;omega
theorem orCells_get:∀ (l:List Orw)(i c:Nat)(r:Orw),l[i]?=some r→c<5→(qO l)[i*5+c]?=(ZZ r)[c]?:=by
 intro l
 induction l with
 | nil=>intro i c r h;simp at h
 | cons a l ih =>
   intro i c r h hc;unfold qO;rw[List.flatMap_cons];cases i with
   | zero =>
     simp at h
     subst h;rw[List.getElem?_append_left (by show _<5;omega)]
     congr 1
     omega
   | succ i =>
     rw[List.getElem?_append_right (by show 5≤_;omega),show (i+1)*5+c-(ZZ a).length=i*5+c from by show (i+1)*5+c-5=_;omega]
     exact ih i c r (by simpa using h) hc
def JA (T:Nat→Prop)(w:World)(n:Nat)(r:Orw)(x:Opn):Prop:=r.kind=x.kind∧r.target=x.target∧r.name=x.name∧r.s=x.s∧∃ ca cc,r.vc=.slice ca x.content.length cc∧qb T w n (.slice ca x.content.length cc) x.content
theorem xI.raw {S T:Nat→Prop}{w:World}{n:Nat}{ad:Addr}{m cap:Nat}{l:List Opn}(h:xI S T w n (.slice (some ad) m cap) l):∃ rs:List Orw,rs.length=l.length∧(∀ (i:Nat) r x,rs[i]?=some r→l[i]?=some x→JA T w n r x)∧∀ j u,(qO rs)[j]?=some u→w.cell? (ad.add j)=some u:=by
 obtain ⟨a,cap',hv,h2,h3,h4⟩:=h
 injection hv with hv _ _
 have h4:l≠[]→∃ b o,some ad=some (⟨b,o,none⟩:Addr)∧S b∧∀ (i:Nat) (x:Opn),l[i]?=some x→∃ ca cc,
  w.cell? ⟨b,o+i*5,none⟩=some (.int .i64 x.kind)∧w.cell? ⟨b,o+i*5+1,none⟩=some (.int .i64 x.target)∧w.cell? ⟨b,o+i*5+2,none⟩=some (.slice ca x.content.length cc) ∧
  w.cell? ⟨b,o+i*5+3,none⟩=some (.string x.name)∧w.cell? ⟨b,o+i*5+4,none⟩=some (.string x.s)∧qb T w n (.slice ca x.content.length cc) x.content:=by rw[hv];exact h4
 by_cases hne:l=[]
 · subst hne;exact ⟨[],rfl,by simp,by simp[qO]⟩
 · obtain ⟨b, o, ha, hs, hc⟩ := h4 hne
   injection ha with ha
   obtain ⟨rs,hrl,hrs⟩:=Z3 (p:=fun i (r:Orw)=>∀ x,l[i]?=some x→JA T w n r x∧w.cell? ⟨b,o+i*5,none⟩=some (.int .i64 r.kind)∧w.cell? ⟨b,o+i*5+1,none⟩=some (.int .i64 r.target)∧w.cell? ⟨b,o+i*5+2,none⟩=some r.vc∧w.cell? ⟨b,o+i*5+3,none⟩=some (.string r.name)∧w.cell? ⟨b,o+i*5+4,none⟩=some (.string r.s)) l.length (fun i hi=>by
    obtain ⟨ca,cc,c0,c1,c2,c3,c4,hT⟩:=hc i l[i] (List.getElem?_eq_getElem hi);refine ⟨⟨l[i].kind,l[i].target,ca,l[i].content.length,cc,l[i].name,l[i].s⟩,fun x hx=>?_⟩
    rw[List.getElem?_eq_getElem hi]at hx
    obtain rfl:=Option.some.inj hx;exact ⟨⟨rfl,rfl,rfl,rfl,ca,cc,rfl,hT⟩,c0,c1,c2,c3,c4⟩)
   have hget:∀ i r,rs[i]?=some r→∃ x,l[i]?=some x:=fun i r hr=>by
    have:=qj hr;exact ⟨l[i]'(by omega),List.getElem?_eq_getElem (by omega)⟩
   refine ⟨rs,hrl,fun i r x hr hx=>(hrs i r hr x hx).1,fun j u hj=>?_⟩
   have hjl:=qj hj;rw[yb]at hjl
   obtain ⟨r,hr⟩:∃ r,rs[j / 5]?=some r:=⟨rs[j / 5]'(by omega),List.getElem?_eq_getElem (by omega)⟩
   obtain ⟨x,hx⟩:=hget _ _ hr;obtain ⟨_,c0,c1,c2,c3,c4⟩:=hrs _ r hr x hx;have hcg:=orCells_get rs (j / 5) (j % 5) r hr (by omega)
   rw[show j / 5*5+j % 5=j by omega,hj]at hcg
   rw[ha,Addr.add_lit]
   rcases (by omega:j % 5=0∨j % 5=1∨j % 5=2∨j % 5=3∨j % 5=4) with e|e|e|e|e
   · rw[e]at hcg;rw[show o+j=o+j / 5*5 by omega,c0];exact hcg.symm
   · rw[e]at hcg;rw[show o+j=o+j / 5*5+1 by omega,c1];exact hcg.symm
   · rw[e]at hcg;rw[show o+j=o+j / 5*5+2 by omega,c2];exact hcg.symm
   · rw[e]at hcg;rw[show o+j=o+j / 5*5+3 by omega,c3];exact hcg.symm
   · rw[e]at hcg;rw[show o+j=o+j / 5*5+4 by omega,c4];exact hcg.symm
theorem Vv {T:Nat→Prop}{B:Nat}{w:World}{n:Nat}{v:Value}{l:List Opn}{rs:List Orw}(h:w.ownsRow B 24 5 v l.length (qO rs))(hl:rs.length=l.length)(hr:∀ (i:Nat) r x,rs[i]?=some r→l[i]?=some x→JA T w n r x):xI (fun b=>v.ownBlock=some b) T w n v l:=by
 have h0:=h
 rcases h.2 with ⟨rfl,hz⟩|⟨g,cap,cur,rfl,hB,hg,hc,hm,hs,ht⟩
 · have : l = [] := List.eq_nil_of_length_eq_zero hz;subst this;exact ⟨none,0,rfl,nR9 _,nZ9 _,fun hne=>absurd rfl hne⟩
 · refine ⟨_, cap, rfl, hc, hm, fun _ => ⟨g, 0, rfl, rfl, fun i x hx => ?_⟩⟩
   have hi:=qj hx;obtain ⟨r,hri⟩:∃ r,rs[i]?=some r:=⟨rs[i]'(by omega),List.getElem?_eq_getElem (by omega)⟩
   obtain ⟨e1,e2,e3,e4,ca,cc,e5,hT⟩:=hr i r x hri hx
   have cell:∀ c,c<5→w.cell? ⟨g,i*5+c,none⟩=(ZZ r)[c]?:=fun c hc=>by
    rw[World.ownsRow.cellAt h0 (i*5+c) (by omega)]
    exact orCells_get rs i c r hri hc
   refine ⟨ca,cc,?_,?_,?_,?_,?_,hT⟩
   · rw[Nat.zero_add,←e1];exact cell 0 (by omega)
   · rw[Nat.zero_add,←e2];exact cell 1 (by omega)
   · rw[Nat.zero_add,←e5];exact cell 2 (by omega)
   · rw[Nat.zero_add,←e3];exact cell 3 (by omega)
   · rw[Nat.zero_add,←e4];exact cell 4 (by omega)
theorem opInfo:(Tryz.prog.info? 24).map (fun i=>(i.zero,i.size,i.bytes))=some (some (.agg #[.int .i64 0,.int .i64 0,.slice none 0 0,.string ⟨#[]⟩,.string ⟨#[]⟩]),5,72):=by kernel_rfl
theorem opAgg:∀ w,(isAgg 24).run Tryz.prog w=.ok true w:=fun _=>by rfl
theorem opSize:∀ w,(Go.sizeOf 24).run Tryz.prog w=.ok 5 w:=fun _=>by rfl
theorem YP (r:Orw):∀ u∈ZZ r,u.oneCell'=true:=by
 intro u hu;simp[ZZ]at hu
 rcases hu with rfl|rfl|rfl|rfl|rfl<;>rfl
theorem V7 (S T:Nat→Prop)(n:Nat)(v:Value)(l:List Opn)(w:World)(h:xI S T w n v l)(hl:l.length≤1048576) :
 Calls Tryz.prog 146 #[v] w fun e w'=>∃ v' rs,e=.returned v'∧w'.ownsRow w.heap.size 24 5 v' l.length (qO rs)∧rs.length=l.length∧(∀ (i:Nat) r x,rs[i]?=some r→l[i]?=some x→JA T w n r x)∧Below w.heap.size w w':=by
 have h0:=h;obtain ⟨a,cap,rfl,h2,h3,h4⟩:=h;obtain ⟨i0,hi,hz0,hz1,hz2⟩:=info_parts opInfo;have q27:∀ (w:World) (a:Option Addr) (n c n' c':Nat),(binOp .eql 124 (.slice a n c) (.slice none n' c')).run Tryz.prog w=.ok (.bool a.isNone) w:=fun w a n c n' c'=>Lib.run_eql_slice_nil w _ _ a n c n' c' Tryz.underlying124
 cases a with
 | none =>
   have hn:l=[]:=by
    apply Classical.byContradiction;intro hne
    obtain ⟨b,o,ha,_⟩:=h4 hne;cases ha
   subst hn
   go_enter Tryz.func146,Tryz.ntmps146
   go_wp2;go_ret;exact ⟨_,[],rfl,World.ownsRow_nil _ _ _ _,rfl,by simp,Below.refl _ _⟩
 | some ad =>
   obtain ⟨rs,hrl,hrr,hcells⟩:=h0.raw;have A:Hid (∀ j u,(qO rs)[j]?=some u→w.cell? (ad.add j)=some u):=hcells
   have H1:Hid (∀ u∈qO rs,u.oneCell'=true):=by
    intro u hu;obtain ⟨r,hr,hu⟩:=List.mem_flatMap.1 hu;exact YP r u hu
   have HR:Hid _:=hrr;have hcl:=yb rs;clear hcells h4 h0 hrr
   go_enter Tryz.func146,Tryz.ntmps146
   go_wp2_with (at_builtin;refine wpList_append_own _ rfl _ _ 124 rfl w.heap.size 24 i0 _ 5 72 Tryz.underlying124 hi hz0 hz1 hz2 rfl (by decide) _ _ _ rfl (World.ownsRow_made w #[] 0 (nR9 _) (nZ9 _) (by simp)) ad l.length cap (qO rs) rfl ?qc1 ?qc2 ?qc3 ?qc4 ?qc5 ?qc6 ?_)
   case qc1 => omega
   case qc2 =>
    intro j u hj;exact Lib.cell?_alloc_some _ (A.out j u hj)
   case qc3 => exact H1.out
   case qc4 => unfold maxLen;omega
   case qc5 => omega
   case qc6 => simp
   intro v' w1 hown hgrow hnil;go_wp2;go_ret;refine ⟨v',rs,rfl,by simpa using hown,hrl,HR.out,?_⟩
   exact ((Below.refl _ w).alloc (nR9 _) _).grown hgrow (by simp) (by intro k hk;simp[Value.ownBlock]at hk;omega)
theorem qfp (rs:List Orw):(flatK ZZ 5 rs.toArray).toList=qO rs:=by
 apply List.ext_getElem?
 intro j
 by_cases hj:j<rs.length*5
 · obtain ⟨r, hr⟩ : ∃ r, rs[j / 5]? = some r := ⟨rs[j / 5]'(by omega), List.getElem?_eq_getElem (by omega)⟩
   have hg:=orCells_get rs (j / 5) (j % 5) r hr (by omega)
   rw[show j / 5*5+j % 5=j by omega]at hg
   rw[hg,Array.getElem?_toList,Array.getElem?_eq_getElem (by simpa using hj)]
   have h2:=get_flatK ZZ 5 rs.toArray j (by simpa using hj)
   rw[getElem!_pos _ j (by simpa using hj)]at h2
   rw[h2,getElem!_pos _ (j / 5) (by simp;omega)]
   have he:rs.toArray[j / 5]'(by simp;omega)=r:=by
    rw[List.getElem?_eq_getElem (by omega)]at hr
    simpa using Option.some.inj hr
   rw[he,getElem!_pos _ (j % 5) (by show _<5;omega),List.getElem?_eq_getElem]
 · rw[List.getElem?_eq_none (by simpa using hj),List.getElem?_eq_none (by rw[yb];omega)]
theorem Kf (B:Nat)(v:Value)(rs:List Orw)(w:World)(h:w.ownsRow B 24 5 v rs.length (qO rs))(hl:rs.length≤1048576) :
 Calls Tryz.prog 147 #[v] w fun e w'=>e=.returned (.tuple #[])∧w'.ownsRow B 24 5 v rs.length (qO rs.reverse)∧Below 0 w w'∧∀ b,v.ownBlock≠some b→w'.heap[b]?=w.heap[b]?:=by
 have h0:=h
 rcases h.2 with ⟨rfl,hz⟩|⟨g,cap,cur,rfl,hB,hg,hc,hm,hs,ht⟩
 · have : rs = [] := List.eq_nil_of_length_eq_zero hz;subst this;refine Calls.mono (AnyQ.slices_Reverse_empty Tryz.revO none 0 w) ?_;rintro e w' ⟨rfl,rfl⟩;exact ⟨rfl,h0,Below.refl _ _,fun _ _=>rfl⟩
 · have hH:HoldsK ZZ 5 w g 0 rs.toArray:=by
    intro j hj;have hj2:j<rs.length*5:=by simpa using hj
    refine ⟨?_,fH9 hg _⟩;rw[Nat.zero_add,World.ownsRow.cellAt h0 j (by omega),←qfp rs,Array.getElem?_toList,Array.getElem?_eq_getElem (by simpa using hj),getElem!_pos _ j (by simpa using hj)]
    rfl
   have hcon:=AnyQ.slices_Reverse Tryz.revO 5 opAgg opSize ZZ (fun _=>rfl) YP g 0 cap rs.toArray w hH (by simp;omega)
   rw[show rs.toArray.size=rs.length from by simp]at hcon
   refine Calls.mono hcon ?_;rintro e w' ⟨rfl,q,rfl⟩;have hrev:rs.toArray.reverse=rs.reverse.toArray:=by simp
   rw[hrev];have hlt:=qh hg
   have hheap:(putRowK ZZ 5 (Sort.ahead w q) g 0 rs.reverse.toArray).heap[g]?=some (.cells (putCells id 0 (flatK ZZ 5 rs.reverse.toArray) cur) 24 (0,0)):=by
    simp[putRowK,putRow,mapBlock,Sort.ahead,Array.getElem?_modify,hg,onCells]
   have hother:∀ b,b≠g→(putRowK ZZ 5 (Sort.ahead w q) g 0 rs.reverse.toArray).heap[b]?=w.heap[b]?:=by
    intro b hne;have:¬ g=b:=fun e=>hne e.symm
    simp[putRowK,putRow,mapBlock,Sort.ahead,Array.getElem?_modify,this]
   refine ⟨rfl,⟨by rw[yb,List.length_reverse],Or.inr ⟨g,cap,_,rfl,hB,hheap,hc,hm,by simp[putCells,hs],?_⟩⟩,⟨rfl,rfl,rfl,?_,fun b hb=>by omega⟩,fun b hb=>hother b (fun e=>hb (by rw[e];rfl))⟩
   · apply List.ext_getElem?
     intro j
     by_cases hj:j<rs.length*5
     · have hjc : j < cur.size := by have : rs.length * 5 ≤ cap * 5 := Nat.mul_le_mul_right _ hc;omega
       rw[List.getElem?_take_of_lt hj,←qfp rs.reverse,Array.getElem?_toList,Array.getElem?_toList];simp[putCells,hjc,hj]
     · rw[List.getElem?_take_eq_none (by omega),List.getElem?_eq_none (by rw[yb,List.length_reverse];omega)]
   · simp[putRowK,putRow,mapBlock,Sort.ahead]
end Go.Proofs.YtfplhcicbbhljaaGreatDoor
namespace Go.Proofs.YtfplhcicbbhljaaGreatDoor
open Go.ChangeShapes Go.WideShapes Go.ChangeAt Go.RowKit
set_option maxRecDepth 100000
section
attribute [local go_sem] qd
theorem Xa {ns:List Nd}(hg:qG ns=true):Bnd 80 ns:=by
 have h80:=YV hg;refine ⟨h80,fun y hy=>?_⟩
 obtain ⟨n,hn⟩:=List.mem_iff_getElem?.1 hy;obtain ⟨d,T,u,fs,hz⟩:=Kq hg (qj hn);obtain ⟨x',hx',e1,_,e3⟩:=hz.get;rw[hn]at hx'
 obtain rfl:=Option.some.inj hx';have hr:=hz.right
 constructor
 · obtain ⟨e, par, h1, h2⟩ := hz.node;have h3:=h2 0 _ (by rw[j0 h1];rfl)
   rw[Nat.add_zero,hn]at h3
   rw[Option.some.inj h3]
   show (qk _ _ _).length≤80
   rw[Ql];have h4:=Seg.in h2 (by rw[layF_length e u par n h1];exact qbq e u)
   rw[layF_length e u par n h1,qS]at h4
   have h5:=Deep.len h1;omega
 · rw[e3];cases ht:u.text with
   | true =>
     unfold qz at hr
     rw[ht]at hr
     simp at hr
     rw[hr.1.2];exact nZ9 _
   | false =>
     have:=(QK hr ht).2;simp only[q7,Bool.and_eq_true,decide_eq_true_eq]at this
     omega
end
section
attribute [local go_sem] qd
def FitG:Nat→List Nd→Nat→Prop
 | 0,_,_=>False
 | f+1,ns,n=>∃ x,ns[n]?=some x∧∀ k∈x.kids,∃ kk:Nat,k=(kk:Int)∧FitG f ns kk
def Zj (f:Nat):Prop:=∀ (S:Nat→Prop)(v:Value)(ns:List Nd)(n bb:Nat)(w:World),qB S w v ns→(∀ b,S b→b<w.heap.size)→w.heap[bb]?=some (.cells #[v] 190 (0,0))→Bnd 1048576 ns→FitG f ns n →
 Calls Tryz.prog 114 #[.pointer (some ⟨bb,0,none⟩),.int .i64 (n:Int)] w fun e w'=>∃ va vk,e=.returned (.agg #[.bool (growF f ns n).text,.string (growF f ns n).s,va,vk]) ∧
  qm (fun b=>S b∨w.heap.size≤b) w' va (growF f ns n).attrs∧qb (fun b=>S b∨w.heap.size≤b) w' f vk (growF f ns n).kids∧Below w.heap.size w w'
structure GB (w:World) (nd:Array Value) (tr:Array Value) (W:World):Prop where
 below:Below w.heap.size w W
 res:W.heap[w.heap.size]?=some (.cells #[.bool false,.string ⟨#[]⟩,.slice none 0 0,.slice none 0 0] 79 (0,0))
 box:W.heap[w.heap.size+1]?=some (.cells nd 90 (0,0))
 tre:W.heap[w.heap.size+1+1]?=some (.cells tr 79 (0,0))
theorem KD {S:Nat→Prop}{w:World}{nd:Array Value}{f i:Nat}{c0 c1 c2:Value}{wr w5 w6:World}{ja:Option Addr}{jc:Nat}{us:List Tr}{qs:List (Bool × ByteArray × Value × Value)}{t:Tr}{a5 k5:Option Addr}{d5 e5:Nat}{a6:Option Addr}{n6 c6:Nat}
 (hS:∀ b,S b→b<w.heap.size)
 (hG:GB w nd #[c0,c1,c2,.slice ja i jc] wr) (hR:yh S f (w.heap.size+1+1+1) wr.drew (.slice ja i jc) us qs) (hi:us.length=i) (hb5:Below wr.drew.heap.size wr.drew w5)
 (hA:qm (fun b=>S b∨wr.drew.heap.size≤b) w5 (.slice a5 t.attrs.length d5) t.attrs) (hK:qb (fun b=>S b∨wr.drew.heap.size≤b) w5 f (.slice k5 t.kids.length e5) t.kids)
 (hown:w6.ownsRow (w.heap.size+1+1+1) 79 4 (.slice a6 n6 c6) (i+1) (quadCells qs++[.bool t.text,.string t.s,.slice a5 t.attrs.length d5,.slice k5 t.kids.length e5]))
 (hgr:(w5.alloc (.cells #[.bool t.text,.string t.s,.slice a5 t.attrs.length d5,.slice k5 t.kids.length e5] 79)).grownBy w6 (Value.slice ja i jc).ownBlock)
 (hat:(Value.slice a6 n6 c6).ownBlock=(Value.slice ja i jc).ownBlock∨(Value.slice a6 n6 c6).ownBlock=some (w5.alloc (.cells #[.bool t.text,.string t.s,.slice a5 t.attrs.length d5,.slice k5 t.kids.length e5] 79)).heap.size) :
 GB w nd #[c0,c1,c2,.slice a6 n6 c6] (w6.setCell ⟨w.heap.size+1+1,3,none⟩ (.slice a6 n6 c6)) ∧
  yh S f (w.heap.size+1+1+1) (w6.setCell ⟨w.heap.size+1+1,3,none⟩ (.slice a6 n6 c6)) (.slice a6 n6 c6) (us++[t]) (qs++[(t.text,t.s,.slice a5 t.attrs.length d5,.slice k5 t.kids.length e5)]):=by
 have hs5:wr.heap.size≤w5.heap.size:=hb5.size;have hres:=qh hG.res;have hbox:=qh hG.box;have htre:=qh hG.tre;have hs6:=hgr.size;simp only[World.size_alloc]at hs6
 have hkeep:∀ b,b<wr.heap.size→b<w.heap.size+1+1+1→w6.heap[b]?=wr.heap[b]?:=by
  intro b h1 h2;rw[hgr.block b (by simp;omega) (fun e=>by have:=(hR.own.lt b e.symm).1;omega),Lib.alloc_old _ _ _ (by omega)]
  exact hb5.block b h1
 have hB6:Below w.heap.size w w6:=((hG.below.drew.trans (hb5.mono hG.below.size)).alloc (by have:=hG.below.size;omega) _).grown hgr (by simp;have:=hG.below.size;omega) (fun k hk=>by have:=(hR.own.lt k hk).1;omega)
 have hsz:(w6.setCell ⟨w.heap.size+1+1,3,none⟩ (.slice a6 n6 c6)).heap.size=w6.heap.size:=by simp
 refine ⟨⟨hB6.setCell (p:=⟨w.heap.size+1+1,3,none⟩) (by show w.heap.size≤w.heap.size+1+1;omega) _,?_,?_,?_⟩,?_⟩
 · rw[qc (by omega),hkeep _ hres (by omega)];exact hG.res
 · rw[qc (by omega),hkeep _ hbox (by omega)];exact hG.box
 · have := (hkeep _ htre (by omega)).trans hG.tre
   simp[World.setCell,Array.getElem?_modify,this]
 · have hfr:∀ b,(S b∨wr.drew.heap.size≤b)∧b<(w5.alloc (.cells #[.bool t.text,.string t.s,.slice a5 t.attrs.length d5,.slice k5 t.kids.length e5] 79)).heap.size→Oth S (w.heap.size+1+1+1) (w5.alloc (.cells #[.bool t.text,.string t.s,.slice a5 t.attrs.length d5,.slice k5 t.kids.length e5] 79)) (.slice ja i jc) b:=by
    intro b hb;refine ⟨?_,hb.2,fun e=>?_⟩
    · rcases hb.1 with h | h
      · exact Or.inl h
      · exact Or.inr (by have h':wr.heap.size≤b:=h;omega)
    · have h1 := hR.own.lt b e;have h2:b<wr.heap.size:=h1.2
      rcases hb.1 with h|h
      · have:=hS b h;omega
      · have h' : wr.heap.size ≤ b := h;omega
   have hG3:=(hR.later hb5).later (Below.alloc1 w5 (.cells #[.bool t.text,.string t.s,.slice a5 t.attrs.length d5,.slice k5 t.kids.length e5] 79))
   have hG4:=hG3.snoc (t:=t) (q:=(t.text,t.s,.slice a5 t.attrs.length d5,.slice k5 t.kids.length e5)) (by rw[hi];exact hown) hgr hat rfl rfl
    ((hA.later (Below.alloc1 w5 _)).bounded.carry (fun b hb=>⟨hfr b hb,rfl⟩))
    (qb.carry (fun b hb=>⟨hfr b hb,rfl⟩) f (qb.bounded f (qb.later (Below.alloc1 w5 _) f hK)))
   have hne:∀ b,w.heap.size+1+1+1≤b→b≠w.heap.size+1+1:=fun b h=>by omega
   refine ⟨hG4.len,qn hG4.own (fun b hb=>qc (hne b (hG4.own.lt b hb).1)),fun j q u hq hu=>?_⟩
   obtain ⟨x1,x2,x3,x4⟩:=hG4.each j q u hq hu
   have carry:∀ b,Oth S (w.heap.size+1+1+1) w6 (.slice a6 n6 c6) b→Oth S (w.heap.size+1+1+1) (w6.setCell ⟨w.heap.size+1+1,3,none⟩ (.slice a6 n6 c6)) (.slice a6 n6 c6) b∧(w6.setCell ⟨w.heap.size+1+1,3,none⟩ (.slice a6 n6 c6)).heap[b]?=w6.heap[b]?:=by
    intro b hb;refine ⟨⟨hb.1,by rw[hsz];exact hb.2.1,hb.2.2⟩,qc ?_⟩
    rcases hb.1 with h1|h1
    · have:=hS b h1;omega
    · omega
   exact ⟨x1,x2,x3.carry carry,qb.carry carry f x4⟩
set_option maxHeartbeats 2000000 in
theorem KE (f:Nat)(ih:Zj f):Zj (f+1):=by
 intro S v ns n bb w hN hS hX hKI hF;obtain ⟨x,hx,hkr⟩:=hF;have hn:n<ns.length:=(List.getElem?_eq_some_iff.1 hx).1;have HG:Hid (growF (f+1) ns n=⟨x.text,x.s,x.attrs,x.kids.map fun k=>growF f ns k.toNat⟩):=by show _=_;rw[growF,hx]
 obtain ⟨hkl,hal⟩:=hKI.2 x (List.mem_of_getElem? hx);obtain ⟨b,o,cap,va,vk,rfl,hlc,hcm,hSb,hbw,c0,c1,c2,c3,c4,hAt,hKi⟩:=hN.at hx
 obtain ⟨aa,ac,rfl⟩:=hAt.shape;obtain ⟨ka,kc,rfl,hkl2,hkm⟩:=hKi.shape;unfold maxLen at hcm hkm
 have hb0:w.cell? ⟨bb,0,none⟩=some (.slice (some ⟨b,o,none⟩) ns.length cap):=by rw[cH9 hX];rfl
 have hbbl:=qh hX;have IH:Hid (Zj f):=ih;have hni:(n:Int)<(ns.length:Int):=by omega
 clear ih
 go_enter Tryz.func114,Tryz.ntmps114
 go_wp2_with fail
 have HGS:Hid (GB w #[.bool x.text,.string x.s,.slice aa x.attrs.length ac,.int .i64 x.parent,.slice ka x.kids.length kc] #[.bool x.text,.string x.s,.slice aa x.attrs.length ac,.slice none 0 0] (((w.alloc (.cells #[.bool false,.string ⟨#[]⟩,.slice none 0 0,.slice none 0 0] 79)).alloc (.cells #[.bool x.text,.string x.s,.slice aa x.attrs.length ac,.int .i64 x.parent,.slice ka x.kids.length kc] 90)).alloc (.cells #[.bool x.text,.string x.s,.slice aa x.attrs.length ac,.slice none 0 0] 79))):=by
  refine ⟨((Below.alloc1 w _).alloc (by simp) _).alloc (by simp;omega) _,?_,?_,?_⟩
  · rw[Lib.alloc_old _ _ _ (by simp;omega),Lib.alloc_old _ _ _ (by simp)];exact heap_alloc_new _ _
  · rw[Lib.alloc_old _ _ _ (by simp)]
    have e:=heap_alloc_new (w.alloc (.cells #[.bool false,.string ⟨#[]⟩,.slice none 0 0,.slice none 0 0] 79)) (.cells #[.bool x.text,.string x.s,.slice aa x.attrs.length ac,.int .i64 x.parent,.slice ka x.kids.length kc] 90);rw[World.size_alloc]at e
    exact e
  · have e := heap_alloc_new ((w.alloc (.cells #[.bool false, .string ⟨#[]⟩, .slice none 0 0, .slice none 0 0] 79)).alloc (.cells #[.bool x.text, .string x.s, .slice aa x.attrs.length ac, .int .i64 x.parent, .slice ka x.kids.length kc] 90)) (.cells #[.bool x.text, .string x.s, .slice aa x.attrs.length ac, .slice none 0 0] 79);rw[World.size_alloc,World.size_alloc]at e
    exact e
 generalize ((w.alloc (.cells #[.bool false,.string ⟨#[]⟩,.slice none 0 0,.slice none 0 0] 79)).alloc (.cells #[.bool x.text,.string x.s,.slice aa x.attrs.length ac,.int .i64 x.parent,.slice ka x.kids.length kc] 90)).alloc (.cells #[.bool x.text,.string x.s,.slice aa x.attrs.length ac,.slice none 0 0] 79)=W4 at HGS ⊢
 have HKI:Hid (zr S w (.slice ka x.kids.length kc) x.kids):=hKi;have HAT:Hid (qm S w (.slice aa x.attrs.length ac) x.attrs):=hAt;have HNN:Hid (qB S w (.slice (some ⟨b,o,none⟩) ns.length cap) ns):=hN;have HX:Hid _:=hX;have HS:Hid (∀ b,S b→b<w.heap.size):=hS;have HKR:Hid (∀ k∈x.kids,∃ kk:Nat,k=(kk:Int)∧FitG f ns kk):=hkr;clear c0 c1 c2 c3 c4 hb0 hX hS hN hAt hKi hx hkr
 go_loopg [26] x.kids.length (fun g j wr=>∃ (i:Nat) (v:Value) (qs:List (Bool × ByteArray × Value × Value)),i+g=x.kids.length∧j=.int .i64 (i:Int)∧GB w #[.bool x.text,.string x.s,.slice aa x.attrs.length ac,.int .i64 x.parent,.slice ka x.kids.length kc] #[.bool x.text,.string x.s,.slice aa x.attrs.length ac,v] wr∧yh S f (w.heap.size+1+1+1) wr v ((x.kids.take i).map fun k=>growF f ns k.toNat) qs)
 case atStart => exact ⟨0,.slice none 0 0,[],by omega,rfl,HGS.out,yh.nil _ _ _ _⟩
 case round =>
  obtain ⟨i,v,qs,hi,rfl,hG,hGr⟩:=hrel;have HG4:Hid _:=hG;have hB4:=hG.below;obtain ⟨ja,jc,rfl⟩:=hGr.shape;have HGR:Hid _:=hGr
  by_cases hil:i<x.kids.length
  · obtain ⟨k, hk⟩ : ∃ k, x.kids[i]? = some k := ⟨x.kids[i], by simp[hil]⟩
    obtain ⟨kk,rfl,hfit⟩:=HKR.out k (List.mem_of_getElem? hk);obtain ⟨kb,ko,kc2,hkv,hSk,hkb,e1⟩:=(HKI.out.later hB4).at hk
    injection hkv with hka _ hkc
    subst hka hkc
    have hsn:(x.kids.take (i+1)).map (fun k=>growF f ns k.toNat)=(x.kids.take i).map (fun k=>growF f ns k.toNat)++[growF f ns kk]:=by
     rw[List.take_succ_eq_append_getElem hil,List.map_append];have:x.kids[i]=(kk:Int):=by simpa[hil] using hk
     rw[this];rfl
    have HSN:Hid _:=hsn
    have HCALL:Hid (∀ W,Below w.heap.size w W→Calls Tryz.prog 114 #[.pointer (some ⟨bb,0,none⟩),.int .i64 (kk:Int)] W fun e w'=>∃ r,e=.returned r∧∃ va vk,r=.agg #[.bool (growF f ns kk).text,.string (growF f ns kk).s,va,vk] ∧
     qm (fun b=>S b∨W.heap.size≤b) w' va (growF f ns kk).attrs∧qb (fun b=>S b∨W.heap.size≤b) w' f vk (growF f ns kk).kids∧Below W.heap.size W w'):=by
     intro W hW;refine (IH.out S _ ns kk bb W (HNN.out.later hW) (fun b hb=>Nat.lt_of_lt_of_le (HS.out b hb) hW.size) ((hW.block bb hbbl).trans HX.out) hKI hfit).mono ?_
     rintro e w' ⟨va,vk,rfl,h1,h2,h3⟩;exact ⟨_,rfl,va,vk,rfl,h1,h2,h3⟩
    have hln:((x.kids.take i).map fun k=>growF f ns k.toNat).length=i:=by rw[List.length_map,List.length_take];omega
    obtain ⟨us,hus⟩:∃ us,(x.kids.take i).map (fun k=>growF f ns k.toNat)=us:=⟨_,rfl⟩
    obtain ⟨t,ht⟩:∃ t,growF f ns kk=t:=⟨_,rfl⟩;rw[hus]at HGR HG4 HSN hln
    rw[ht]at HCALL HSN
    rw[hln]at HGR HG4
    have HLN:Hid (us.length=i):=hln;have hz3:wr.cell? ⟨w.heap.size+1+1,3,none⟩=some (.slice ja i jc):=by rw[cH9 HG4.out.tre];rfl
    have hf3:wr.frozen? ⟨w.heap.size+1+1,3,none⟩=false:=fH9 HG4.out.tre 3;have hili:(i:Int)<(x.kids.length:Int):=by omega
    have hi20:i≤1048576:=by omega
    have hwrs:=hB4.size;have hb2r:=qh HG4.out.tre;have HGD:Hid (yh S f (w.heap.size+1+1+1) wr.drew (.slice ja i jc) us qs):=HGR.out.later (Below.refl _ wr).drew
    have HCH:Hid (∀ (w5 w6:World) (X:Obj),Below wr.drew.heap.size wr.drew w5→(w5.alloc X).grownBy w6 (Value.slice ja i jc).ownBlock→w6.heap[w.heap.size+1+1]?=some (.cells #[.bool x.text,.string x.s,.slice aa x.attrs.length ac,.slice ja i jc] 79 (0,0))):=by
     intro w5 w6 X h5 h6;have h7:w.heap.size+1+1<w5.heap.size:=Nat.lt_of_lt_of_le hb2r h5.size;rw[h6.block _ (by simp;omega) (fun e=>by have:=(HGR.out.own.lt _ e.symm).1;omega),Lib.alloc_old _ _ _ h7]
     exact (h5.block _ hb2r).trans HG4.out.tre
    clear hG hGr hk hsn hln hus ht hfit;go_wp2_with fail
    go_region_law (first
     | (refine yT (by rfl) 114 #[.pointer (some ⟨bb,0,none⟩),.int .i64 (kk:Int)] (by go_simp) _ (HCALL.out _ hB4.drew) ?_;intro r5 w5 hR5;obtain ⟨va5,vk5,rfl,hA5,hK5,hb5⟩:=hR5;obtain ⟨a5,c5,rfl⟩:=hA5.shape;obtain ⟨k5,d5,rfl,_,_⟩:=qb.shape f hK5;have z5:w5.cell? ⟨w.heap.size+1+1,3,none⟩=some (.slice ja i jc):=(hb5.cell (p:=⟨w.heap.size+1+1,3,none⟩) hb2r).trans hz3;have z5a:(w5.alloc (.cells #[.bool t.text,.string t.s,.slice a5 t.attrs.length c5,.slice k5 t.kids.length d5] 79)).cell? ⟨w.heap.size+1+1,3,none⟩=some (.slice ja i jc):=Lib.cell?_alloc_some _ z5)
     | (refine Z8 (by rfl) (.tmp 31) (.tmp 35) (by rfl) (w.heap.size+1+1+1) (.slice ja i jc) i (quadCells qs) (by simp[Act.eval]) (by have:=(qq HGD.out.own hb5).alloc (.cells #[.bool t.text,.string t.s,.slice a5 t.attrs.length c5,.slice k5 t.kids.length d5] 79);rw[HLN.out]at this;exact this) ⟨w5.heap.size,0,none⟩ t.text t.s a5 t.attrs.length c5 k5 t.kids.length d5 (by simp[Act.eval]) (jI _ _ _ _ _ _) hi20 (by have:=hb5.size;simp at this ⊢;omega) ?_;intro v6 w6 hown6 hgr6 hat6;obtain ⟨a6,n6,c6,rfl⟩:=qQ hown6;have hk6:=HCH.out w5 w6 _ hb5 hgr6;have z6:=cH9 hk6 3;have f6:=fH9 hk6 3;simp at z6))
    all_goals
     have HG7:Hid _:=KD HS.out HG4.out HGD.out HLN.out hb5 hA5 hK5 hown6 hgr6 hat6;clear hown6 hgr6 hat6 hA5 hK5;go_wp2_with fail
     go_roundg (x.kids.length-(i+1))
     case measure => omega
     case rel => exact ⟨i+1,_,_,by omega,by go_num,HG7.out.1,by rw[HSN.out];exact HG7.out.2⟩
  · have hii : i = x.kids.length := by omega
    subst hii;have hili:¬ ((x.kids.length:Int)<(x.kids.length:Int)):=by omega
    have p0:wr.cell? ⟨w.heap.size,0,none⟩=some (.bool false):=by rw[cH9 HG4.out.res];rfl
    have p1:wr.cell? ⟨w.heap.size,1,none⟩=some (.string ⟨#[]⟩):=by rw[cH9 HG4.out.res];rfl
    have p2:wr.cell? ⟨w.heap.size,2,none⟩=some (.slice none 0 0):=by rw[cH9 HG4.out.res];rfl
    have p3:wr.cell? ⟨w.heap.size,3,none⟩=some (.slice none 0 0):=by rw[cH9 HG4.out.res];rfl
    have f0:wr.frozen? ⟨w.heap.size,0,none⟩=false:=fH9 HG4.out.res 0;have f1:wr.frozen? ⟨w.heap.size,1,none⟩=false:=fH9 HG4.out.res 1;have f2:wr.frozen? ⟨w.heap.size,2,none⟩=false:=fH9 HG4.out.res 2;have f3:wr.frozen? ⟨w.heap.size,3,none⟩=false:=fH9 HG4.out.res 3;have q0:wr.cell? ⟨w.heap.size+1+1,0,none⟩=some (.bool x.text):=by rw[cH9 HG4.out.tre];rfl
    have q1:wr.cell? ⟨w.heap.size+1+1,1,none⟩=some (.string x.s):=by rw[cH9 HG4.out.tre];rfl
    have q2:wr.cell? ⟨w.heap.size+1+1,2,none⟩=some (.slice aa x.attrs.length ac):=by rw[cH9 HG4.out.tre];rfl
    have q3:wr.cell? ⟨w.heap.size+1+1,3,none⟩=some (.slice ja ((x.kids.take x.kids.length).map fun k=>growF f ns k.toNat).length jc):=by rw[cH9 HG4.out.tre];rfl
    clear hG hGr
    generalize hvv:Value.slice ja ((x.kids.take x.kids.length).map fun k=>growF f ns k.toNat).length jc=vv at HGR HG4 q3
    obtain ⟨va7,vn7,vc7,rfl⟩:∃ a n c,vv=.slice a n c:=⟨_,_,_,hvv.symm⟩;clear hvv;rw[List.take_length]at HGR
    go_wp2_with fail;refine bodyPost_ret (v:=.agg #[.bool x.text,.string x.s,.slice aa x.attrs.length ac,.slice va7 vn7 vc7]) (by simp[results,Tryz.results114,go_sem,qd,p0,p1,p2,p3,World.cell?_setCell_other]) rfl ⟨.slice aa x.attrs.length ac,.slice va7 vn7 vc7,?_,?_,?_,?_⟩
    · rw[HG.out]
    · rw[HG.out];refine ((HAT.out.later hB4)).carry fun b hb=>⟨Or.inl hb,?_⟩
      have:=HS.out b hb;rw[qc (by omega),qc (by omega),qc (by omega),qc (by omega)]
    · rw[HG.out];refine qb.carry (fun b hb=>⟨?_,?_⟩) (f+1) HGR.out.done
      · rcases hb with hb | hb
        · exact Or.inl hb
        · exact Or.inr (by omega)
      · rcases hb with hb | hb
        · have := HS.out b hb;rw[qc (by omega),qc (by omega),qc (by omega),qc (by omega)]
        · rw[qc (by omega),qc (by omega),qc (by omega),qc (by omega)]
    · exact (((hB4.setCell (p:=⟨w.heap.size,0,none⟩) (nR9 _) _).setCell (p:=⟨w.heap.size,1,none⟩) (nR9 _) _).setCell (p:=⟨w.heap.size,2,none⟩) (nR9 _) _).setCell (p:=⟨w.heap.size,3,none⟩) (nR9 _) _
theorem V4 (f:Nat):Zj f:=by
 induction f with
 | zero=>intro S v ns n bb w _ _ _ _ hF;exact hF.elim
 | succ f ih=>exact KE f ih
theorem Qo.attrs {B:Nat}{w:World}{v:Value}{l:List (ByteArray × ByteArray)}(h:Qo B w v l):qm (fun b=>b<w.heap.size) w v l:=by
 rcases id h.2 with ⟨hv,h0⟩|⟨g,cap,cur,hv,hB,hh,hc,hm,_⟩
 · have : l = [] := List.eq_nil_of_length_eq_zero h0;subst this;exact ⟨none,0,hv,nR9 _,nZ9 _,fun hne=>absurd rfl hne⟩
 · have hrow := h;unfold Qo at hrow
   subst hv;refine ⟨_,cap,rfl,hc,hm,fun _=>⟨g,0,rfl,qh hh,fun i x hx=>?_⟩⟩
   have hi:=qj hx;obtain ⟨g0,g1⟩:=zV l i x hx;exact ⟨by rw[Nat.zero_add,World.ownsRow.cellAt hrow (i*2) (by omega),g0],by rw[Nat.zero_add,World.ownsRow.cellAt hrow (i*2+1) (by omega),g1]⟩
theorem qZ.intsLt {B:Nat}{w:World}{v:Value}{l:List Int}(h:qZ B w v l):zr (fun b=>b<w.heap.size) w v l:=by
 rcases id h.2 with ⟨hv,h0⟩|⟨g,cap,cur,hv,hB,hh,hc,hm,_⟩
 · have : l = [] := List.eq_nil_of_length_eq_zero h0;subst this;exact ⟨none,0,hv,nR9 _,nZ9 _,fun hne=>absurd rfl hne⟩
 · have hrow := h;unfold qZ at hrow
   subst hv;refine ⟨_,cap,rfl,hc,hm,fun _=>⟨g,0,rfl,qh hh,fun i x hx=>?_⟩⟩
   have hi:=qj hx;rw[Nat.zero_add,World.ownsRow.cellAt hrow i (by omega),Zz hx]
theorem zi.nodes {B:Nat}{T:Nat→Prop}{N:Nat}{w:World}{v:Value}{ns:List Nd}{ms:List Rw}(h:zi B T N w v ns ms):qB (fun b=>b<w.heap.size) w v ns:=by
 by_cases hne:ns=[]
 · subst hne;obtain ⟨a,c,hv,h1,h2⟩:=h.shape;exact ⟨a,c,hv,h1,h2,fun e=>absurd rfl e⟩
 · obtain ⟨x0, hx0⟩ : ∃ x, ns[0]? = some x := ⟨ns[0]'(List.length_pos_iff.2 hne), by simp⟩
   obtain ⟨r0,hr0,_⟩:=h.get hx0;obtain ⟨g,cap,hv,h1,h2,_,hgl,_⟩:=h.at hr0
   refine ⟨_,cap,hv,h1,h2,fun _=>⟨g,0,rfl,hgl,fun i x hx=>?_⟩⟩
   obtain ⟨r,hr,hR⟩:=h.get hx;obtain ⟨g',cap',hv',_,_,_,_,c0,c1,c2,c3,c4,_⟩:=h.at hr
   rw[hv]at hv'
   injection hv' with e1 _ _
   injection e1 with e1
   injection e1 with e1
   subst e1;refine ⟨r.va,r.vk,?_,?_,?_,?_,?_,?_,hR.kids.intsLt⟩
   · rw[Nat.zero_add,c0,hR.text]
   · rw[Nat.zero_add,c1,hR.s]
   · rw[Nat.zero_add,c2]
   · rw[Nat.zero_add,c3,hR.par]
   · rw[Nat.zero_add,c4]
   · by_cases hi : i < N
     · exact (hR.own hi).attrs
     · exact (hR.far (by omega)).carry fun b hb=>⟨Nat.lt_of_lt_of_le (h.low b hb) h.le,rfl⟩
theorem Did.below {B:Nat}{T:Nat→Prop}{N bb:Nat}{w w':World}{v:Value}{ns:List Nd}{ms:List Rw}{ns':List Nd}(h:Did B T N bb w w' v ms ns')(hX:Bx B T N bb w v ns ms):Below B w w':=by
 obtain ⟨v',ms',_,hs⟩:=h;exact ⟨hs.below.os,hs.below.tape,hs.below.output,hs.below.size,fun k hk=>hs.low hX.2.2 hX.2.1 k hk⟩
end
section
attribute [local go_sem] qd
theorem qeD (v:Value)(a:Option Addr)(n cap:Nat)(cs:List Value)(w:World)(hv:v=.slice a n cap)(hn:a=none→n=0)(hl:cs.length=n*2)(hb:n≤1048576)(hc:∀ ad,a=some ad→∀ j u,cs[j]?=some u→w.cell? (ad.add j)=some u)(h1:∀ u∈cs,u.oneCell'=true) :
 Calls Tryz.prog 46 #[v] w fun e w'=>∃ v',e=.returned v'∧w'.ownsRow w.heap.size 93 2 v' n cs∧Below w.heap.size w w':=by
 subst hv;obtain ⟨i0,hi,hz0,hz1,hz2⟩:=info_parts attrInfo;have q27:∀ (w:World) (a:Option Addr) (n c n' c':Nat),(binOp .eql 77 (.slice a n c) (.slice none n' c')).run Tryz.prog w=.ok (.bool a.isNone) w:=fun w a n c n' c'=>Lib.run_eql_slice_nil w _ _ a n c n' c' Tryz.underlying77
 cases a with
 | none =>
   have hn:=hn rfl;subst hn;have hcs:cs=[]:=List.eq_nil_of_length_eq_zero (by omega)
   subst hcs
   go_enter Tryz.func46,Tryz.ntmps46
   go_wp2;go_ret;exact ⟨_,rfl,World.ownsRow_nil _ _ _ _,Below.refl _ _⟩
 | some ad =>
   have A:Hid (∀ j u,cs[j]?=some u→w.cell? (ad.add j)=some u):=hc ad rfl;have H1:Hid (∀ u∈cs,u.oneCell'=true):=h1;clear hc h1 hn
   go_enter Tryz.func46,Tryz.ntmps46
   go_wp2_with (at_builtin;refine wpList_append_own _ rfl _ _ 77 rfl w.heap.size 93 i0 _ 2 32 Tryz.underlying77 hi hz0 hz1 hz2 rfl (by decide) _ _ _ rfl (World.ownsRow_made w #[] 0 (nR9 _) (nZ9 _) (by simp)) ad n cap cs rfl ?qc1 ?qc2 ?qc3 ?qc4 ?qc5 ?qc6 ?_)
   case qc1 => exact hl
   case qc2 =>
    intro j u hj;exact Lib.cell?_alloc_some _ (A.out j u hj)
   case qc3 => exact H1.out
   case qc4 => unfold maxLen;omega
   case qc5 => omega
   case qc6 => simp
   intro v' w1 hown hgrow hnil;go_wp2;go_ret;refine ⟨v',rfl,by simpa using hown,?_⟩
   exact ((Below.refl _ w).alloc (nR9 _) _).grown hgrow (by simp) (by intro k hk;simp[Value.ownBlock]at hk;omega)
theorem qeE (v:Value)(a:Option Addr)(n cap:Nat)(cs:List Value)(w:World)(hv:v=.slice a n cap)(hn:a=none→n=0)(hl:cs.length=n*1)(hb:n≤1048576)(hc:∀ ad,a=some ad→∀ j u,cs[j]?=some u→w.cell? (ad.add j)=some u)(h1:∀ u∈cs,u.oneCell'=true) :
 Calls Tryz.prog 47 #[v] w fun e w'=>∃ v',e=.returned v'∧w'.ownsRow w.heap.size 3 1 v' n cs∧Below w.heap.size w w':=by
 subst hv;obtain ⟨i0,hi,hz0,hz1,hz2⟩:=info_parts intInfoR;have q27:∀ (w:World) (a:Option Addr) (n c n' c':Nat),(binOp .eql 88 (.slice a n c) (.slice none n' c')).run Tryz.prog w=.ok (.bool a.isNone) w:=fun w a n c n' c'=>Lib.run_eql_slice_nil w _ _ a n c n' c' Tryz.underlying88
 cases a with
 | none =>
   have hn:=hn rfl;subst hn;have hcs:cs=[]:=List.eq_nil_of_length_eq_zero (by omega)
   subst hcs
   go_enter Tryz.func47,Tryz.ntmps47
   go_wp2;go_ret;exact ⟨_,rfl,World.ownsRow_nil _ _ _ _,Below.refl _ _⟩
 | some ad =>
   have A:Hid (∀ j u,cs[j]?=some u→w.cell? (ad.add j)=some u):=hc ad rfl;have H1:Hid (∀ u∈cs,u.oneCell'=true):=h1;clear hc h1 hn
   go_enter Tryz.func47,Tryz.ntmps47
   go_wp2_with (at_builtin;refine wpList_append_own _ rfl _ _ 88 rfl w.heap.size 3 i0 _ 1 8 Tryz.underlying88 hi hz0 hz1 hz2 rfl (by decide) _ _ _ rfl (World.ownsRow_made w #[] 0 (nR9 _) (nZ9 _) (by simp)) ad n cap cs rfl ?qc1 ?qc2 ?qc3 ?qc4 ?qc5 ?qc6 ?_)
   case qc1 => exact hl
   case qc2 =>
    intro j u hj;exact Lib.cell?_alloc_some _ (A.out j u hj)
   case qc3 => exact H1.out
   case qc4 => unfold maxLen;omega
   case qc5 => omega
   case qc6 => simp
   intro v' w1 hown hgrow hnil;go_wp2;go_ret;refine ⟨v',rfl,by simpa using hown,?_⟩
   exact ((Below.refl _ w).alloc (nR9 _) _).grown hgrow (by simp) (by intro k hk;simp[Value.ownBlock]at hk;omega)
theorem qbp (v:Value)(a:Option Addr)(n cap:Nat)(cs:List Value)(w:World)(hv:v=.slice a n cap)(hn:a=none→n=0)(hl:cs.length=n*5)(hb:n≤1048576)(hc:∀ ad,a=some ad→∀ j u,cs[j]?=some u→w.cell? (ad.add j)=some u)(h1:∀ u∈cs,u.oneCell'=true) :
 Calls Tryz.prog 45 #[v] w fun e w'=>∃ v',e=.returned v'∧w'.ownsRow w.heap.size 90 5 v' n cs∧Below w.heap.size w w':=by
 subst hv;obtain ⟨i0,hi,hz0,hz1,hz2⟩:=info_parts nodeInfoB;have q27:∀ (w:World) (a:Option Addr) (n c n' c':Nat),(binOp .eql 58 (.slice a n c) (.slice none n' c')).run Tryz.prog w=.ok (.bool a.isNone) w:=fun w a n c n' c'=>Lib.run_eql_slice_nil w _ _ a n c n' c' Tryz.underlying58
 cases a with
 | none =>
   have hn:=hn rfl;subst hn;have hcs:cs=[]:=List.eq_nil_of_length_eq_zero (by omega)
   subst hcs
   go_enter Tryz.func45,Tryz.ntmps45
   go_wp2;go_ret;exact ⟨_,rfl,World.ownsRow_nil _ _ _ _,Below.refl _ _⟩
 | some ad =>
   have A:Hid (∀ j u,cs[j]?=some u→w.cell? (ad.add j)=some u):=hc ad rfl;have H1:Hid (∀ u∈cs,u.oneCell'=true):=h1;clear hc h1 hn
   go_enter Tryz.func45,Tryz.ntmps45
   go_wp2_with (at_builtin;refine wpList_append_own _ rfl _ _ 58 rfl w.heap.size 90 i0 _ 5 80 Tryz.underlying58 hi hz0 hz1 hz2 rfl (by decide) _ _ _ rfl (World.ownsRow_made w #[] 0 (nR9 _) (nZ9 _) (by simp)) ad n cap cs rfl ?qc1 ?qc2 ?qc3 ?qc4 ?qc5 ?qc6 ?_)
   case qc1 => exact hl
   case qc2 =>
    intro j u hj;exact Lib.cell?_alloc_some _ (A.out j u hj)
   case qc3 => exact H1.out
   case qc4 => unfold maxLen;omega
   case qc5 => omega
   case qc6 => simp
   intro v' w1 hown hgrow hnil;go_wp2;go_ret;refine ⟨v',rfl,by simpa using hown,?_⟩
   exact ((Below.refl _ w).alloc (nR9 _) _).grown hgrow (by simp) (by intro k hk;simp[Value.ownBlock]at hk;omega)
theorem YL (S:Nat→Prop)(v:Value)(l:List (ByteArray × ByteArray))(w:World)(h:qm S w v l)(hl:l.length≤1048576) :
 Calls Tryz.prog 46 #[v] w fun e w'=>∃ v',e=.returned v'∧Qo w.heap.size w' v' l∧Below w.heap.size w w':=by
 obtain ⟨a,cap,hv,h2,h3,h4⟩:=h;refine qeD v a l.length cap (attrCells l) w hv (fun e=>?_) (zH l) hl (fun ad e j u hj=>?_) (QX l)
 · rcases Nat.eq_zero_or_pos l.length with h0 | h0
   · exact h0
   · obtain ⟨b, o, ha, _⟩ := h4 (by intro e;subst e;simp at h0)
     rw[ha]at e;cases e
 · have hne : l ≠ [] := by intro e;subst e;simp[attrCells]at hj
   obtain ⟨b,o,ha,_,hc⟩:=h4 hne;rw[ha]at e
   injection e with e
   rw[←e,Addr.add_lit];exact qm.cells hc j u hj
theorem YM (S:Nat→Prop)(v:Value)(l:List Int)(w:World)(h:zr S w v l)(hl:l.length≤1048576) :
 Calls Tryz.prog 47 #[v] w fun e w'=>∃ v',e=.returned v'∧qZ w.heap.size w' v' l∧Below w.heap.size w w':=by
 have h0:=h;obtain ⟨a,cap,hv,h2,h3,h4⟩:=h;refine qeE v a l.length cap (qr l) w hv (fun e=>?_) (by rw[zN];omega) hl (fun ad e j u hj=>?_) (zR l)
 · rcases Nat.eq_zero_or_pos l.length with h0 | h0
   · exact h0
   · obtain ⟨b, o, ha, _⟩ := h4 (by intro e;subst e;simp at h0)
     rw[ha]at e;cases e
 · subst e;rw[hv]at h0
   exact h0.cells j u hj
theorem qB.raw {S:Nat→Prop}{w:World}{v:Value}{ns:List Nd}(h:qB S w v ns):∃ (a:Option Addr)(cap:Nat)(ms:List Rw),v=.slice a ns.length cap∧(a=none→ns.length=0)∧ms.length=ns.length∧(∀ (i:Nat) r x,ms[i]?=some r→ns[i]?=some x→xq S w r x)∧(∀ ad,a=some ad→∀ j u,(rawCells ms)[j]?=some u→w.cell? (ad.add j)=some u)∧∀ u∈rawCells ms,u.oneCell'=true:=by
 obtain ⟨a,cap,hv,h2,h3,h4⟩:=h
 by_cases hne:ns=[]
 · subst hne;exact ⟨a,cap,[],hv,fun _=>rfl,rfl,by simp,by simp[rawCells],by simp[rawCells]⟩
 · obtain ⟨b, o, ha, hs, hc⟩ := h4 hne
   obtain ⟨ms,hml,hms⟩:=Z3 (p:=fun i (r:Rw)=>∀ x,ns[i]?=some x→xq S w r x∧w.cell? ⟨b,o+i*5,none⟩=some (.bool r.text)∧w.cell? ⟨b,o+i*5+1,none⟩=some (.string r.s)∧w.cell? ⟨b,o+i*5+2,none⟩=some r.va∧w.cell? ⟨b,o+i*5+3,none⟩=some (.int .i64 r.par)∧w.cell? ⟨b,o+i*5+4,none⟩=some r.vk) ns.length (fun i hi=>by
    obtain ⟨va,vk,c0,c1,c2,c3,c4,hA,hK⟩:=hc i ns[i] (List.getElem?_eq_getElem hi);refine ⟨⟨ns[i].text,ns[i].s,va,ns[i].parent,vk⟩,fun x hx=>?_⟩
    rw[List.getElem?_eq_getElem hi]at hx
    obtain rfl:=Option.some.inj hx;exact ⟨⟨rfl,rfl,rfl,hA,hK⟩,c0,c1,c2,c3,c4⟩)
   have hget:∀ (i:Nat) r,ms[i]?=some r→∃ x,ns[i]?=some x:=fun i r hr=>by
    have:=qj hr;exact ⟨ns[i]'(by omega),List.getElem?_eq_getElem (by omega)⟩
   refine ⟨a,cap,ms,hv,(fun e=>by rw[ha]at e;cases e),hml,fun i r x hr hx=>(hms i r hr x hx).1,fun ad e j u hj=>?_,fun u hu=>?_⟩
   · rw[ha]at e
     injection e with e
     subst e;have hjl:=qj hj;rw[yo]at hjl
     obtain ⟨r,hr⟩:∃ r,ms[j / 5]?=some r:=⟨ms[j / 5]'(by omega),List.getElem?_eq_getElem (by omega)⟩
     obtain ⟨x,hx⟩:=hget _ _ hr;obtain ⟨_,c0,c1,c2,c3,c4⟩:=hms _ r hr x hx;obtain ⟨g0,g1,g2,g3,g4⟩:=zU ms (j / 5) r hr;rw[Addr.add_lit]
     rcases (by omega:j % 5=0∨j % 5=1∨j % 5=2∨j % 5=3∨j % 5=4) with e|e|e|e|e
     · rw[show o+j=o+j / 5*5 by omega,c0];rw[show j=j / 5*5 by omega,g0]at hj;exact hj
     · rw[show o+j=o+j / 5*5+1 by omega,c1];rw[show j=j / 5*5+1 by omega,g1]at hj;exact hj
     · rw[show o+j=o+j / 5*5+2 by omega,c2];rw[show j=j / 5*5+2 by omega,g2]at hj;exact hj
     · rw[show o+j=o+j / 5*5+3 by omega,c3];rw[show j=j / 5*5+3 by omega,g3]at hj;exact hj
     · rw[show o+j=o+j / 5*5+4 by omega,c4];rw[show j=j / 5*5+4 by omega,g4]at hj;exact hj
   · obtain ⟨j, hj⟩ := List.mem_iff_getElem?.1 hu;have hjl:=qj hj;rw[yo]at hjl
     obtain ⟨r,hr⟩:∃ r,ms[j / 5]?=some r:=⟨ms[j / 5]'(by omega),List.getElem?_eq_getElem (by omega)⟩
     obtain ⟨x,hx⟩:=hget _ _ hr;obtain ⟨⟨_,_,_,hA,hK⟩,_⟩:=hms _ r hr x hx;obtain ⟨g0,g1,g2,g3,g4⟩:=zU ms (j / 5) r hr;obtain ⟨a2,c2,hA2,_⟩:=hA;obtain ⟨k2,d2,hK2,_⟩:=hK
     rcases (by omega:j % 5=0∨j % 5=1∨j % 5=2∨j % 5=3∨j % 5=4) with e|e|e|e|e
     · rw[show j=j / 5*5 by omega,g0]at hj;obtain rfl:=Option.some.inj hj;rfl
     · rw[show j=j / 5*5+1 by omega,g1]at hj;obtain rfl:=Option.some.inj hj;rfl
     · rw[show j=j / 5*5+2 by omega,g2]at hj;obtain rfl:=Option.some.inj hj;rw[hA2];rfl
     · rw[show j=j / 5*5+3 by omega,g3]at hj;obtain rfl:=Option.some.inj hj;rfl
     · rw[show j=j / 5*5+4 by omega,g4]at hj;obtain rfl:=Option.some.inj hj;rw[hK2];rfl
structure NB (B bb:Nat) (v:Value) (ns:List Nd) (i:Nat) (ms:List Rw) (W:World):Prop where
 len:ms.length=ns.length
 row:W.ownsRow B 90 5 v ns.length (rawCells ms)
 rlt:∀ g,v.ownBlock=some g→g<bb
 le:B≤bb
 box:W.heap[bb]?=some (.cells #[v] 190 (0,0))
 each:∀ (j:Nat) r x,ms[j]?=some r→ns[j]?=some x→r.text=x.text∧r.s=x.s∧r.par=x.parent∧(j<i→qZ (bb+1) W r.vk x.kids∧Qo (bb+1) W r.va x.attrs)∧(i≤j→qm (fun b=>b<B) W r.va x.attrs∧zr (fun b=>b<B) W r.vk x.kids)
 kids:∀ (j k:Nat) (r q:Rw) (b:Nat),j≠k→j<i→k<i→ms[j]?=some r→ms[k]?=some q→r.vk.ownBlock=some b→q.vk.ownBlock≠some b
 attrs:∀ (j k:Nat) (r q:Rw) (b:Nat),j≠k→j<i→k<i→ms[j]?=some r→ms[k]?=some q→r.va.ownBlock=some b→q.va.ownBlock≠some b
theorem NB.bench {B bb:Nat}{v:Value}{ns:List Nd}{ms:List Rw}{W:World}(h:NB B bb v ns ns.length ms W)(hB:B≤W.heap.size):Bx B (fun b=>b<B) ns.length bb W v ns ms:=by
 refine ⟨h.box,h.le,h.len,h.row,fun j r x hr hx=>?_,fun j k r q b hne hr hq=>?_,fun j k r q b hne hj hk hr hq=>h.attrs j k r q b hne hj hk hr hq,fun b hb=>hb,hB⟩
 · obtain ⟨e1, e2, e3, e4, _⟩ := h.each j r x hr hx;obtain ⟨k1,k2⟩:=e4 (qj hx);have hle:=h.le
   have low:∀ {e:TypeId} {size n:Nat} {v:Value} {xs:List Value},W.ownsRow (bb+1) e size v n xs→W.ownsRow B e size v n xs:=fun ho=>by
    refine ⟨ho.1,?_⟩
    rcases ho.2 with h1|⟨g,cap,cur,h1,h2,h3⟩
    · exact Or.inl h1
    · exact Or.inr ⟨g,cap,cur,h1,by omega,h3⟩
   exact ⟨e1,e2,e3,low k1,fun _=>low k2,fun hj=>absurd (qj hx) (by omega)⟩
 · have h1 := qj hr;have h2:=qj hq;rw[h.len]at h1 h2
   exact h.kids j k r q b hne h1 h2 hr hq
theorem NB.step {B bb g cap:Nat}{ns:List Nd}{i:Nat}{ms:List Rw}{W Wa Wc:World}{va vk:Value}{r:Rw}{x:Nd}(h:NB B bb (.slice (some ⟨g,0,none⟩) ns.length cap) ns i ms W)(hr:ms[i]?=some r)(hx:ns[i]?=some x)(hBW:B≤W.heap.size)
 (hA:Qo W.heap.size Wa va x.attrs) (ha:Below W.heap.size W Wa) (hK:qZ Wa.heap.size Wc vk x.kids) (hc:Below Wa.heap.size (Wa.setCell ⟨g,i*5+2,none⟩ va) Wc) :
 NB B bb (.slice (some ⟨g,0,none⟩) ns.length cap) ns (i+1) (ms.set i { r with va:=va,vk:=vk }) (Wc.setCell ⟨g,i*5+4,none⟩ vk):=by
 have hbl:=qh h.box;have hgb:g<bb:=h.rlt g rfl;have hsa:=ha.size;have hsc:=hc.size;have hss:(Wa.setCell ⟨g,i*5+2,none⟩ va).heap.size=Wa.heap.size:=by simp
 have him:i<ms.length:=qj hr
 have old:∀ b,b<W.heap.size→b≠g→(Wc.setCell ⟨g,i*5+4,none⟩ vk).heap[b]?=W.heap[b]?:=fun b hb hne=>by
  rw[qc hne,hc.block b (by omega),qc hne,ha.block b hb]
 have rowa:Wa.ownsRow B 90 5 (.slice (some ⟨g,0,none⟩) ns.length cap) ns.length (rawCells ms):=qq h.row ha;have rowb:=(rowa.stored (i*5+2) va).1
 have rowc:Wc.ownsRow B 90 5 (.slice (some ⟨g,0,none⟩) ns.length cap) ns.length ((rawCells ms).set (i*5+2) va):=qn rowb (fun b hb=>by
  have:g=b:=by injection hb
  subst this;exact hc.block g (by omega))
 have rowd:=(rowc.stored (i*5+4) vk).1
 have ecell:((rawCells ms).set (i*5+2) va).set (i*5+4) vk=rawCells (ms.set i { r with va:=va,vk:=vk }):=by
  have e1:=Q3 ms i r va hr;have hr2:(ms.set i { r with va:=va })[i]?=some { r with va:=va }:=List.getElem?_set_self him
  have e2:=yK (ms.set i { r with va:=va }) i { r with va:=va } vk hr2
  rw[←e1,←e2,List.set_set]
 rw[ecell]at rowd
 have vab:∀ b,va.ownBlock=some b→W.heap.size≤b∧b<Wa.heap.size:=fun b hb=>hA.lt b hb
 have vkb:∀ b,vk.ownBlock=some b→Wa.heap.size≤b∧b<Wc.heap.size:=fun b hb=>hK.lt b hb
 have hAd:Qo W.heap.size (Wc.setCell ⟨g,i*5+4,none⟩ vk) va x.attrs:=qn hA (fun b hb=>by
  obtain ⟨q1,q2⟩:=vab b hb;have hne:b≠g:=by omega
  rw[qc hne,hc.block b q2,qc hne])
 have hKd:qZ Wa.heap.size (Wc.setCell ⟨g,i*5+4,none⟩ vk) vk x.kids:=qn hK (fun b hb=>qc (by have:=(vkb b hb).1;omega))
 have base:∀ {e:TypeId} {size n b:Nat} {v:Value} {xs:List Value} {U:World},b≥bb+1→U.ownsRow b e size v n xs→U.ownsRow (bb+1) e size v n xs:=fun hb ho=>by
  refine ⟨ho.1,?_⟩
  rcases ho.2 with h1|⟨g,cap,cur,h1,h2,h3⟩
  · exact Or.inl h1
  · exact Or.inr ⟨g,cap,cur,h1,by omega,h3⟩
 refine ⟨by rw[List.length_set];exact h.len,rowd,h.rlt,h.le,by rw[old bb hbl (by omega)];exact h.box,fun j q y hq hy=>?_,fun j k p q b hne hj hk hp hq hb=>?_,fun j k p q b hne hj hk hp hq hb=>?_⟩
 · by_cases hji : j = i
   · subst hji;rw[List.getElem?_set_self him]at hq
     obtain rfl:=Option.some.inj hq;rw[hx]at hy
     obtain rfl:=Option.some.inj hy;obtain ⟨e1,e2,e3,_,_⟩:=h.each j r x hr hx;exact ⟨e1,e2,e3,fun _=>⟨base (by omega) hKd,base (by omega) hAd⟩,fun hh=>by omega⟩
   · rw[List.getElem?_set_ne (fun e => hji e.symm)]at hq
     obtain ⟨e1,e2,e3,e4,e5⟩:=h.each j q y hq hy;refine ⟨e1,e2,e3,fun hj=>?_,fun hj=>?_⟩
     · obtain ⟨f1, f2⟩ := e4 (by omega)
       exact ⟨qn f1 (fun b hb=>old b (f1.lt b hb).2 (by have:=(f1.lt b hb).1;omega)),qn f2 (fun b hb=>old b (f2.lt b hb).2 (by have:=(f2.lt b hb).1;omega))⟩
     · obtain ⟨f1, f2⟩ := e5 (by omega)
       have hgB:B≤g:=(h.row.lt g rfl).1;exact ⟨f1.carry (fun b hb=>⟨hb,old b (by omega) (by omega)⟩),f2.carry (fun b hb=>⟨hb,old b (by omega) (by omega)⟩)⟩
 · by_cases hji : j = i
   · subst hji;rw[List.getElem?_set_self him]at hp
     obtain rfl:=Option.some.inj hp;rw[List.getElem?_set_ne hne]at hq
     obtain ⟨y,hy⟩:∃ y,ns[k]?=some y:=⟨ns[k]'(by have:=qj hq;rw[h.len]at this;exact this),by simp⟩
     intro e;have:=((h.each k q y hq hy).2.2.2.1 (by omega)).1.lt b e
     have:=(vkb b hb).1;omega
   · rw[List.getElem?_set_ne (fun e => hji e.symm)]at hp
     by_cases hki:k=i
     · subst hki;rw[List.getElem?_set_self him]at hq
       obtain rfl:=Option.some.inj hq;obtain ⟨y,hy⟩:∃ y,ns[j]?=some y:=⟨ns[j]'(by have:=qj hp;rw[h.len]at this;exact this),by simp⟩
       intro e;have:=((h.each j p y hp hy).2.2.2.1 (by omega)).1.lt b hb
       have:=(vkb b e).1;omega
     · rw[List.getElem?_set_ne (fun e => hki e.symm)]at hq
       exact h.kids j k p q b hne (by omega) (by omega) hp hq hb
 · by_cases hji : j = i
   · subst hji;rw[List.getElem?_set_self him]at hp
     obtain rfl:=Option.some.inj hp;rw[List.getElem?_set_ne hne]at hq
     obtain ⟨y,hy⟩:∃ y,ns[k]?=some y:=⟨ns[k]'(by have:=qj hq;rw[h.len]at this;exact this),by simp⟩
     intro e;have:=((h.each k q y hq hy).2.2.2.1 (by omega)).2.lt b e
     have:=(vab b hb).1;omega
   · rw[List.getElem?_set_ne (fun e => hji e.symm)]at hp
     by_cases hki:k=i
     · subst hki;rw[List.getElem?_set_self him]at hq
       obtain rfl:=Option.some.inj hq;obtain ⟨y,hy⟩:∃ y,ns[j]?=some y:=⟨ns[j]'(by have:=qj hp;rw[h.len]at this;exact this),by simp⟩
       intro e;have:=((h.each j p y hp hy).2.2.2.1 (by omega)).2.lt b hb
       have:=(vab b e).1;omega
     · rw[List.getElem?_set_ne (fun e => hki e.symm)]at hq
       exact h.attrs j k p q b hne (by omega) (by omega) hp hq hb
end
section
attribute [local go_sem] qd
set_option linter.unusedSimpArgs false in
set_option maxHeartbeats 2000000 in
theorem X0 (v:Value)(ns:List Nd)(w:World)(h:qB (fun b=>b<w.heap.size) w v ns)(hne:ns≠[])(hb:Bnd 1000 ns) :
 Calls Tryz.prog 111 #[v] w fun e w'=>∃ bb v' ms',e=.returned (.pointer (some ⟨bb,0,none⟩))∧Bx w.heap.size (fun b=>b<w.heap.size) ns.length bb w' v' ns ms'∧Below w.heap.size w w':=by
 obtain ⟨a0,cap0,ms0,hv,ha0,hml,hraw,hcells,hone⟩:=h.raw;have hnl:0<ns.length:=List.length_pos_iff.2 hne;have hbl:=hb.1;have HC:Hid _:=qbp v a0 ns.length cap0 (rawCells ms0) w hv ha0 (by rw[yo,hml]) (by omega) hcells hone
 have HRW:Hid (∀ (i:Nat) r x,ms0[i]?=some r→ns[i]?=some x→xq (fun b=>b<w.heap.size) w r x):=hraw
 have HBN:Hid (Bnd 1000 ns):=hb;subst hv;clear h hraw hcells hone ha0 hb
 go_enter Tryz.func111,Tryz.ntmps111
 go_wp2_with fail;refine (Calls.mono HC.out ?_);rintro e w1 ⟨v1,rfl,hown,hb1⟩;obtain ⟨g,cap,rfl,hcl,hcm⟩:=j1 hown hnl;obtain ⟨hgB,hgl⟩:=hown.lt g rfl;have hsz1:=hb1.size;obtain ⟨bb,hbb⟩:∃ bb,bb=w1.heap.size:=⟨_,rfl⟩
 have HNB:Hid (NB w.heap.size bb (.slice (some ⟨g,0,none⟩) ns.length cap) ns 0 ms0 (w1.alloc (.cells #[.slice (some ⟨g,0,none⟩) ns.length cap] 190))):=by
  refine ⟨hml,World.ownsRow.alloc hown _,fun g' e=>by injection e with e;rw[hbb,←e];exact hgl,by omega,by rw[hbb];exact heap_alloc_new _ _,fun j r x hr hx=>?_,fun j k r q b _ hj=>by omega,fun j k r q b _ hj=>by omega⟩
  obtain ⟨e1,e2,e3,e4,e5⟩:=HRW.out j r x hr hx;have hbx:Below w.heap.size w (w1.alloc (.cells #[.slice (some ⟨g,0,none⟩) ns.length cap] 190)):=hb1.alloc hsz1 _;exact ⟨e1,e2,e3,fun hj=>by omega,fun _=>⟨e4.later hbx,e5.later hbx⟩⟩
 have HB1:Hid (Below w.heap.size w (w1.alloc (.cells #[.slice (some ⟨g,0,none⟩) ns.length cap] 190))):=hb1.alloc hsz1 _;have b0:(w1.alloc (.cells #[.slice (some ⟨g,0,none⟩) ns.length cap] 190)).cell? ⟨w1.heap.size,0,none⟩=some (.slice (some ⟨g,0,none⟩) ns.length cap):=by rw[cH9 (heap_alloc_new w1 _)];rfl
 unfold maxLen at hcm
 clear hown HC HRW hb1;go_wp2_with fail;rw[←hbb];clear hbb b0 hgl hsz1
 go_loopg [14] ns.length (fun gh vi wr=>∃ (i:Nat) (ms:List Rw),i+gh=ns.length∧vi=.int .i64 (i:Int)∧NB w.heap.size bb (.slice (some ⟨g,0,none⟩) ns.length cap) ns i ms wr∧Below w.heap.size w wr)
 case atStart => exact ⟨0,ms0,by omega,rfl,HNB.out,HB1.out⟩
 case round =>
  obtain ⟨i,ms,hig,rfl,hN,hB⟩:=hrel;have HN:Hid (NB w.heap.size bb (.slice (some ⟨g,0,none⟩) ns.length cap) ns i ms wr):=hN;clear hN
  by_cases hlt:i<ns.length
  · have hlti : (i : Int) < (ns.length : Int) := by omega
    obtain ⟨x,hx⟩:∃ x,ns[i]?=some x:=⟨ns[i],by simp[hlt]⟩
    obtain ⟨r,hr⟩:∃ r,ms[i]?=some r:=⟨ms[i]'(by rw[HN.out.len];exact hlt),by simp⟩
    obtain ⟨hbk,hba⟩:=HBN.out.2 x (List.mem_of_getElem? hx);obtain ⟨_,_,_,_,hfar⟩:=HN.out.each i r x hr hx;obtain ⟨hAt,hKt⟩:=hfar (nR9 _);have hsw:=hB.size;have hgb:g<bb:=HN.out.rlt g rfl;have hbbl:=qh HN.out.box;obtain ⟨_,_,h2,_,h4⟩:=zU ms i r hr;have c2:wr.cell? ⟨g,i*5+2,none⟩=some r.va:=by rw[World.ownsRow.cellAt HN.out.row (i*5+2) (by omega)];exact h2
    have c4:wr.cell? ⟨g,i*5+4,none⟩=some r.vk:=by rw[World.ownsRow.cellAt HN.out.row (i*5+4) (by omega)];exact h4
    obtain ⟨cur,hcur,_,_,_,_⟩:=QF HN.out.row;obtain ⟨aa,ac,hva⟩:∃ a c,r.va=.slice a x.attrs.length c:=by obtain ⟨a,c,e,_⟩:=hAt;exact ⟨a,c,e⟩
    obtain ⟨ka,kc,hvk⟩:∃ a c,r.vk=.slice a x.kids.length c:=by obtain ⟨a,c,e,_⟩:=hKt;exact ⟨a,c,e⟩
    have HBX:Hid (∀ W:World,W.heap[bb]?=wr.heap[bb]?→W.cell? ⟨bb,0,none⟩=some (.slice (some ⟨g,0,none⟩) ns.length cap)):=fun W e=>by rw[cH9 (e.trans HN.out.box)];rfl
    have HA:Hid (Calls Tryz.prog 46 #[.slice aa x.attrs.length ac] wr.drew fun e w'=>∃ v',e=.returned v'∧(Qo wr.heap.size w' v' x.attrs∧Below wr.heap.size wr.drew w')):=by
     have:=YL (fun b=>b<w.heap.size) r.va x.attrs wr.drew (hAt.carry fun b hb=>⟨hb,rfl⟩) (by omega)
     rw[hva]at this
     exact this
    have HK:Hid (∀ W:World,(∀ b,b<w.heap.size→W.heap[b]?=wr.heap[b]?)→Calls Tryz.prog 47 #[.slice ka x.kids.length kc] W fun e w'=>∃ v',e=.returned v'∧(qZ W.heap.size w' v' x.kids∧Below W.heap.size W w')):=fun W e=>by
     rw[←hvk];exact YM (fun b=>b<w.heap.size) r.vk x.kids W (hKt.carry fun b hb=>⟨hb,e b hb⟩) (by omega)
    have HST:Hid (∀ (Wa Wc:World) (va vk:Value),Qo wr.heap.size Wa va x.attrs→Below wr.heap.size wr Wa→qZ Wa.heap.size Wc vk x.kids→Below Wa.heap.size (Wa.setCell ⟨g,i*5+2,none⟩ va) Wc→NB w.heap.size bb (.slice (some ⟨g,0,none⟩) ns.length cap) ns (i+1) (ms.set i { r with va:=va,vk:=vk }) (Wc.setCell ⟨g,i*5+4,none⟩ vk)∧Below w.heap.size w (Wc.setCell ⟨g,i*5+4,none⟩ vk)):=fun Wa Wc va vk q1 q2 q3 q4=>by
     refine ⟨HN.out.step hr hx (by omega) q1 q2 q3 q4,?_⟩
     have s1:Below w.heap.size w Wa:=hB.trans (q2.mono hsw);have s2:=s1.setCell (p:=⟨g,i*5+2,none⟩) hgB va;have s3:=s2.trans (q4.mono (Nat.le_trans hsw q2.size));exact s3.setCell (p:=⟨g,i*5+4,none⟩) hgB vk
    rw[hva]at c2
    rw[hvk]at c4
    have fz:∀ (W:World) (k:Nat),W.heap[g]?=some (.cells cur 90 (0,0))→W.frozen? ⟨g,k,none⟩=false:=fun W k e=>fH9 e k
    have HFZ:Hid _:=fz;have HCUR:Hid _:=hcur;have HS0:Hid _:=HBX.out wr.drew rfl;have c2d:wr.drew.cell? ⟨g,i*5+2,none⟩=some (.slice aa x.attrs.length ac):=c2;clear hAt hKt hx hr h2 h4 fz hcur hfar hva hvk;go_wp2_with fail;refine wp_region_held_drew (S:=fun W:World=>W.cell? ⟨bb,0,none⟩=some (.slice (some ⟨g,0,none⟩) ns.length cap)) (by kernel_rfl) HS0.out (fun hHeld=>?_)
    refine wqi [0,1,2,3,4,5,6,7,8,9,10,11] ?_
    repeat (refine wqt (v:=?_) rfl (by kernel_rfl) (fun _ _ _ h=>h) (by rfl) (by assumption) ?_ ?_;rotate_left;(· (intro w hSw;(try dsimp only at hSw);go_simp;try with_reducible rfl));try simp only[Act.put,List.getElem_toArray,List.getElem_cons_succ,List.getElem_cons_zero,List.setIfInBounds_toArray,List.set_cons_zero,List.set_cons_succ])
    refine wqn ?_;refine wpAnyH_ready (rs:=[12]) (by kernel_rfl) (by simp) ?_
    refine AllReadyH.cons rfl (fun K hK=>?_) AllReadyH.nil
    go_simp;refine hK.out _ _ HS0.out (fun hHeld=>?_)
    clear hK K
    try simp only[Act.put,List.setIfInBounds_toArray,List.set_cons_zero,List.set_cons_succ]
    refine wpAnyH_ready (rs:=[13]) (by kernel_rfl) (by simp) ?_
    refine AllReadyH.cons rfl (fun K hK=>?_) AllReadyH.nil
    refine yT (by rfl) 46 #[.slice aa x.attrs.length ac] (by go_simp) _ HA.out ?_
    rintro va Wa ⟨hA1,hA2⟩;have hA2:Below wr.heap.size wr Wa:=⟨hA2.os,hA2.tape,hA2.output,hA2.size,fun b hb=>hA2.block b hb⟩
    obtain ⟨ga,na,ca,rfl⟩:∃ a n c,va=.slice a n c:=qQ hA1;have hsa:=hA2.size;have HSa:Hid _:=HBX.out Wa (hA2.block bb hbbl);have HSb:Hid _:=HBX.out (Wa.setCell ⟨g,i*5+2,none⟩ (.slice ga na ca)) ((qc (by omega)).trans (hA2.block bb hbbl))
    have ca2:Wa.cell? ⟨g,i*5+2,none⟩=some (.slice aa x.attrs.length ac):=by rw[hA2.cell (p:=⟨g,i*5+2,none⟩) (qh HCUR.out)];exact c2
    have fa2:=HFZ.out Wa (i*5+2) ((hA2.block g (qh HCUR.out)).trans HCUR.out);have HA1:Hid _:=hA1;clear hA1;refine hK.out _ _ HSa.out (fun hHeld=>?_)
    clear hK K
    try simp only[Act.put,List.setIfInBounds_toArray,List.set_cons_zero,List.set_cons_succ]
    refine wqi [14,15] ?_
    repeat (refine wqt (v:=?_) rfl (by kernel_rfl) (fun _ _ _ h=>h) (by rfl) (by assumption) ?_ ?_;rotate_left;(· (intro w hSw;(try dsimp only at hSw);go_simp;try with_reducible rfl));try simp only[Act.put,List.getElem_toArray,List.getElem_cons_succ,List.getElem_cons_zero,List.setIfInBounds_toArray,List.set_cons_zero,List.set_cons_succ])
    refine wqn ?_;refine wpAnyH_ready (rs:=[16]) (by kernel_rfl) (by simp) ?_
    refine AllReadyH.cons rfl (fun K hK=>?_) AllReadyH.nil
    go_simp;refine hK.out _ _ HSb.out (fun hHeld=>?_)
    clear hK K
    try simp only[Act.put,List.setIfInBounds_toArray,List.set_cons_zero,List.set_cons_succ]
    refine wpAnyH_done (by kernel_rfl) ?_ _
    have hgne:∀ b,b<w.heap.size→b≠g:=fun b hb=>by omega
    have HSc:Hid _:=HBX.out (Wa.setCell ⟨g,i*5+2,none⟩ (.slice ga na ca)).drew ((qc (by omega)).trans (hA2.block bb hbbl))
    have HKC:Hid _:=HK.out (Wa.setCell ⟨g,i*5+2,none⟩ (.slice ga na ca)).drew (fun b hb=>(qc (hgne b hb)).trans (hA2.block b (by omega)))
    have rowa:Wa.ownsRow w.heap.size 90 5 (.slice (some ⟨g,0,none⟩) ns.length cap) ns.length (rawCells ms):=qq HN.out.row hA2
    have cb4:(Wa.setCell ⟨g,i*5+2,none⟩ (.slice ga na ca)).drew.cell? ⟨g,i*5+4,none⟩=some (.slice ka x.kids.length kc):=by
     have h1:(Wa.setCell ⟨g,i*5+2,none⟩ (.slice ga na ca)).cell? ⟨g,i*5+4,none⟩=Wa.cell? ⟨g,i*5+4,none⟩:=World.cell?_setCell_other _ _ _ _ (by simp)
     rw[show (Wa.setCell ⟨g,i*5+2,none⟩ (.slice ga na ca)).drew.cell? ⟨g,i*5+4,none⟩=(Wa.setCell ⟨g,i*5+2,none⟩ (.slice ga na ca)).cell? ⟨g,i*5+4,none⟩ from rfl,h1,hA2.cell (p:=⟨g,i*5+4,none⟩) (qh HCUR.out)]
     exact c4
    obtain ⟨Wb,hWb⟩:∃ Wb,Wb=(Wa.setCell ⟨g,i*5+2,none⟩ (.slice ga na ca)).drew:=⟨_,rfl⟩;have hWbs:Wb.heap.size=Wa.heap.size:=by rw[hWb];simp
    have HWB:Hid (∀ Wc,Below Wb.heap.size Wb Wc→Below Wa.heap.size (Wa.setCell ⟨g,i*5+2,none⟩ (.slice ga na ca)) Wc):=fun Wc hq=>by rw[←hWbs];rw[hWb]at hq ⊢;exact ⟨hq.os,hq.tape,hq.output,hq.size,fun b hb=>hq.block b hb⟩
    rw[←hWb]at HSc HKC cb4
    have HROWB:Hid (∃ cur',Wb.heap[g]?=some (.cells cur' 90 (0,0))):=by
     obtain ⟨cur',h',_⟩:=QF ((rowa.stored (i*5+2) (.slice ga na ca)).1);exact ⟨cur',by rw[hWb];exact h'⟩
    have hbbW:bb<Wb.heap.size:=by omega
    have HBXB:Hid (Wb.heap[bb]?=wr.heap[bb]?):=by
     show _=_
     rw[hWb];exact (qc (by omega)).trans (hA2.block bb hbbl)
    clear rowa HSb HSa ca2 fa2 c2 c4 c2d HA HK HS0;go_wp2_with fail;refine wp_region_held_drew (S:=fun W:World=>W.cell? ⟨bb,0,none⟩=some (.slice (some ⟨g,0,none⟩) ns.length cap)) (by kernel_rfl) (by first|exact HSc.out|(rw[←hWb];exact HSc.out)) (fun hHeld=>?_)
    first|rw[←hWb]|skip
    clear hWb;refine wqi [0,1,2,3,4,5,6,7,8,9,10,11] ?_
    repeat (refine wqt (v:=?_) rfl (by kernel_rfl) (fun _ _ _ h=>h) (by rfl) (by assumption) ?_ ?_;rotate_left;(· (intro w hSw;(try dsimp only at hSw);go_simp;try with_reducible rfl));try simp only[Act.put,List.getElem_toArray,List.getElem_cons_succ,List.getElem_cons_zero,List.setIfInBounds_toArray,List.set_cons_zero,List.set_cons_succ])
    refine wqn ?_;refine wpAnyH_ready (rs:=[12]) (by kernel_rfl) (by simp) ?_
    refine AllReadyH.cons rfl (fun K hK=>?_) AllReadyH.nil
    go_simp;refine hK.out _ _ HSc.out (fun hHeld=>?_)
    clear hK K
    try simp only[Act.put,List.setIfInBounds_toArray,List.set_cons_zero,List.set_cons_succ]
    refine wpAnyH_ready (rs:=[13]) (by kernel_rfl) (by simp) ?_
    refine AllReadyH.cons rfl (fun K hK=>?_) AllReadyH.nil
    refine yT (by rfl) 47 #[.slice ka x.kids.length kc] (by go_simp) _ HKC.out ?_
    rintro vk Wc ⟨hK1,hK2⟩;obtain ⟨gk,nk,ck,rfl⟩:∃ a n c,vk=.slice a n c:=qQ hK1;obtain ⟨cur',hcur'⟩:=HROWB.out;have hgl':=qh hcur';have HSd:Hid _:=HBX.out Wc ((hK2.block bb hbbW).trans HBXB.out);have HSe:Hid _:=HBX.out (Wc.setCell ⟨g,i*5+4,none⟩ (.slice gk nk ck)) ((qc (by omega)).trans ((hK2.block bb hbbW).trans HBXB.out))
    have cc4:Wc.cell? ⟨g,i*5+4,none⟩=some (.slice ka x.kids.length kc):=by rw[hK2.cell (p:=⟨g,i*5+4,none⟩) hgl'];exact cb4
    have fc4:Wc.frozen? ⟨g,i*5+4,none⟩=false:=fH9 ((hK2.block g hgl').trans hcur') _;have HG:Hid _:=HST.out Wa Wc (.slice ga na ca) (.slice gk nk ck) HA1.out hA2 (by rw[←hWbs];exact hK1) (HWB.out Wc hK2)
    clear hK1 hK2;refine hK.out _ _ HSd.out (fun hHeld=>?_)
    clear hK K
    try simp only[Act.put,List.setIfInBounds_toArray,List.set_cons_zero,List.set_cons_succ]
    refine wqi [14,15] ?_
    repeat (refine wqt (v:=?_) rfl (by kernel_rfl) (fun _ _ _ h=>h) (by rfl) (by assumption) ?_ ?_;rotate_left;(· (intro w hSw;(try dsimp only at hSw);go_simp;try with_reducible rfl));try simp only[Act.put,List.getElem_toArray,List.getElem_cons_succ,List.getElem_cons_zero,List.setIfInBounds_toArray,List.set_cons_zero,List.set_cons_succ])
    refine wqn ?_;refine wpAnyH_ready (rs:=[16]) (by kernel_rfl) (by simp) ?_
    refine AllReadyH.cons rfl (fun K hK=>?_) AllReadyH.nil
    go_simp;refine hK.out _ _ HSe.out (fun hHeld=>?_)
    clear hK K
    try simp only[Act.put,List.setIfInBounds_toArray,List.set_cons_zero,List.set_cons_succ]
    refine wpAnyH_done (by kernel_rfl) ?_ _
    go_wp2_with fail
    go_roundg (ns.length-(i+1))
    case measure => omega
    case rel => exact ⟨i+1,_,by omega,by go_num,HG.out.1,HG.out.2⟩
  · have hlti : ¬ (i : Int) < (ns.length : Int) := by omega
    have hieq:i=ns.length:=by omega
    subst hieq;have HF:Hid _:=HN.out.bench hB.size;go_wp2_with fail
    go_returns
    exact ⟨bb,rfl,⟨_,ms,HF.out⟩,hB⟩
end
section
attribute [local go_sem] qd
theorem Y2 {B:Nat}{T:Nat→Prop}{N bb fm:Nat}{k:Int}(eg:∀ args w,(callFunc fm args).run Tryz.prog w=.ok (.enter fm args) w){Sr:Nat→Prop}{vl v:Value}{l:List Opn}{o:Opn}{ns2 ns ns':List Nd}{ms:List Rw}{w2 W:World}(hl1:l=[o])(hM:o.kind=k→qcY B T N bb 8 fm k ns o∧Yi 8 k ns o=ns')(hM':o.kind≠k→ns=ns')(hX:Bx B T N bb w2 v ns2 ms)(hl:xI Sr T w2 (8+1) vl l)(hSr:∀ b,Sr b→b<w2.heap.size∧b≠bb∧¬ Tch N v ms b)(hP:Did B T N bb w2 W v ms ns) :
 Calls Tryz.prog 148 #[vl,.int .i64 k,.func (.func fm) #[.pointer (some ⟨bb,0,none⟩)] #[]] W fun e w'=>e=.returned (.tuple #[])∧Did B T N bb w2 w' v ms ns':=by
 subst hl1;obtain ⟨v',ms',g1,g2⟩:=hP;refine (qab B T N bb 8 fm k eg Sr vl v' [o] ns ms' W g1 (hl.carry (fun b hb=>g2.keep b (hSr b hb).1 (hSr b hb).2.1 (hSr b hb).2.2) (fun b hb=>g2.low hX.2.2 hX.2.1 b (hX.2.2.low b hb))) (fun b hb=>?_) (fun i ns''=>(i=0→ns''=ns)∧(i=1→ns''=ns')) ⟨fun _=>rfl,fun h=>by omega⟩ ?_).mono ?_
 · obtain ⟨q1, q2, q3⟩ := hSr b hb;refine ⟨Nat.lt_of_lt_of_le q1 g2.below.size,q2,fun ht=>?_⟩
   rcases g2.new b ht with h|h
   · exact q3 h
   · omega
 · intro i x ns'' hx hJ;have h0:i=0:=by simpa using qj hx
   subst h0
   injection hx with hx
   subst hx;have hJ:=hJ.1 rfl;subst hJ;exact ⟨fun hk=>⟨(hM hk).1,fun h=>by omega,fun _=>(hM hk).2⟩,fun hk=>⟨fun h=>by omega,fun _=>hM' hk⟩⟩
 · rintro e w' ⟨rfl, ⟨v'', ms'', f1, f2⟩, f3⟩;rw[f3.2 rfl]at f1
   exact ⟨rfl,v'',ms'',f1,g2.trans f2⟩
set_option maxHeartbeats 2000000 in
theorem qfy (B:Nat)(T:Nat→Prop)(bb:Nat)(vl v:Value)(l:List Opn)(o:Opn)(ns0:List Nd)(ms:List Rw)(w:World)(n:Nat)(y:Nd)(hl1:l=[o])(hX:Bx B T ns0.length bb w v ns0 ms)(hl:xI T T w (8+1) vl l)(hk:o.kind=2)(ho:o.target=(n:Int))(hy:ns0[n]?=some y)(hc:ns0.length+cnt (8+1) o.content≤1048576)(hkb:y.kids.length≤1048576) :
 Calls Tryz.prog 112 #[.pointer (some ⟨bb,0,none⟩),vl] w fun e w'=>e=.returned (.tuple #[])∧Did B T ns0.length bb w w' v ms (xV 8 ns0 n y.kids.length o.content):=by
 have hlen:l.length=1:=by rw[hl1];rfl
 have hlr:l.reverse=[o]:=by rw[hl1];rfl
 have hst:Yi 8 2 ns0 o=xV 8 ns0 n y.kids.length o.content:=by
  show qdC 8 ns0 o.target.toNat o.content=_
  unfold qdC qbx;rw[ho,Int.toNat_natCast,hy]
 have HCL:Hid _:=V7 T T (8+1) vl l w hl (by omega)
 obtain ⟨a,cap,rfl,_,_,_⟩:=id hl;have HX:Hid (Bx B T ns0.length bb w v ns0 ms):=hX;have HL:Hid (xI T T w (8+1) (.slice a l.length cap) l):=hl;have HH:Hid (l=[o]∧l.length=1∧l.reverse=[o]∧Yi 8 2 ns0 o=xV 8 ns0 n y.kids.length o.content∧o.kind=2∧o.target=(n:Int)∧ns0[n]?=some y):=⟨hl1,hlen,hlr,hst,hk,ho,hy⟩;clear hX hl hl1 hlen hlr hst hk ho hy
 go_enter Tryz.func112,Tryz.ntmps112
 go_wp2_with fail;refine (Calls.mono HCL.out ?_);rintro e w1 ⟨v1,rs,rfl,hown1,hrsl,hraw,hb1⟩;rw[←hrsl]at hown1
 have HRV:Hid _:=Kf w.heap.size v1 rs w1 hown1 (by have:=HH.out.2.1;omega)
 have HRAW:Hid _:=hraw;obtain ⟨a1,n1,c1,rfl⟩:=qQ hown1;clear hown1 hraw HCL;go_wp2_with fail;refine (Calls.mono HRV.out ?_);rintro e w2 ⟨rfl,hown2,hb2,hk2⟩;obtain ⟨hl1,hlen,hlr,hst,hk,ho,hy⟩:=HH.out
 have hlow:∀ b,b<w.heap.size→w2.heap[b]?=w.heap[b]?:=fun b hb=>by
  rw[hk2 b (fun e=>by have:=(hown2.lt b e).1;omega),hb1.block b hb]
 have hX2:Bx B T ns0.length bb w2 v ns0 ms:=by
  have hsz:w.heap.size≤w2.heap.size:=Nat.le_trans hb1.size hb2.size;exact ⟨by rw[hlow bb (qh HX.out.1)];exact HX.out.1,HX.out.2.1,HX.out.2.2.keepT hsz (fun b hb=>hlow b (Nat.lt_of_lt_of_le hb HX.out.2.2.le)) (fun b ht=>hlow b (Tch.lt HX.out.2.2 ht).2)⟩
 have HB2:Hid (Below w.heap.size w w2):=⟨hb2.os.trans hb1.os,hb2.tape.trans hb1.tape,hb2.output.trans hb1.output,Nat.le_trans hb1.size hb2.size,hlow⟩;have hT2:∀ b,T b→w2.heap[b]?=w.heap[b]?:=fun b hb=>hlow b (Nat.lt_of_lt_of_le (HX.out.2.2.low b hb) HX.out.2.2.le)
 have hl2:xI T T w2 (8+1) (.slice a l.length cap) l:=HL.out.carry hT2 hT2
 have hrv2:xI (fun b=>(Value.slice a1 n1 c1).ownBlock=some b) T w2 (8+1) (.slice a1 n1 c1) l.reverse:=by
  refine Vv (B:=w.heap.size) (rs:=rs.reverse) ?_ (by rw[List.length_reverse,List.length_reverse];exact hrsl) (fun i r x hr hx=>?_)
  · rw[List.length_reverse,←hrsl];exact hown2
  · have hi := qj hr;rw[List.length_reverse]at hi
    rw[List.getElem?_reverse hi]at hr
    rw[List.getElem?_reverse (by omega)]at hx
    obtain ⟨e1,e2,e3,e4,ca,cc,e5,hT⟩:=HRAW.out (rs.length-1-i) r x hr (by rw[hrsl];exact hx)
    exact ⟨e1,e2,e3,e4,ca,cc,e5,qb.carry (fun b hb=>⟨hb,hT2 b hb⟩) (8+1) hT⟩
 have hsT:∀ b,T b→b<w2.heap.size∧b≠bb∧¬ Tch ns0.length v ms b:=fun b hb=>by
  have h1:=hX2.2.2.low b hb;exact ⟨Nat.lt_of_lt_of_le h1 hX2.2.2.le,fun e=>by have:=hX2.2.1;omega,fun ht=>by have:=(Tch.lt hX2.2.2 ht).1;omega⟩
 have hsR:∀ b,(Value.slice a1 n1 c1).ownBlock=some b→b<w2.heap.size∧b≠bb∧¬ Tch ns0.length v ms b:=fun b hb=>by
  obtain ⟨q1,q2⟩:=hown2.lt b hb;exact ⟨q2,fun e=>by have:=qh HX.out.1;omega,fun ht=>by have:=(Tch.lt HX.out.2.2 ht).2;omega⟩
 have HA:Hid (∀ (k:Int) (fm:Nat) (W:World) (ns:List Nd),k≠2→(∀ args w,(callFunc fm args).run Tryz.prog w=.ok (.enter fm args) w)→Did B T ns0.length bb w2 W v ms ns→Calls Tryz.prog 148 #[.slice a l.length cap,.int .i64 k,.func (.func fm) #[.pointer (some ⟨bb,0,none⟩)] #[]] W fun e w'=>e=.returned (.tuple #[])∧Did B T ns0.length bb w2 w' v ms ns):=fun k fm W ns h eg hP=>Y2 eg hl1 (fun h'=>absurd (h'.symm.trans hk) h) (fun _=>rfl) hX2 hl2 hsT hP
 have HR:Hid (∀ (k:Int) (fm:Nat) (W:World) (ns:List Nd),k≠2→(∀ args w,(callFunc fm args).run Tryz.prog w=.ok (.enter fm args) w)→Did B T ns0.length bb w2 W v ms ns→Calls Tryz.prog 148 #[.slice a1 n1 c1,.int .i64 k,.func (.func fm) #[.pointer (some ⟨bb,0,none⟩)] #[]] W fun e w'=>e=.returned (.tuple #[])∧Did B T ns0.length bb w2 w' v ms ns):=fun k fm W ns h eg hP=>Y2 eg hlr (fun h'=>absurd (h'.symm.trans hk) h) (fun _=>rfl) hX2 hrv2 hsR hP
 have H2:Hid (∀ W,Did B T ns0.length bb w2 W v ms ns0→Calls Tryz.prog 148 #[.slice a l.length cap,.int .i64 2,.func (.func 153) #[.pointer (some ⟨bb,0,none⟩)] #[]] W fun e w'=>e=.returned (.tuple #[])∧Did B T ns0.length bb w2 w' v ms (xV 8 ns0 n y.kids.length o.content)):=fun W hP=>Y2 (enters_of Tryz.func153 (by kernel_rfl) rfl) hl1 (fun _=>⟨fun W v ms ca cc hX hT=>by rw[hst];exact VC B T ns0.length bb 8 n v ns0 ms y o ca cc W hX ho hy hT (nR9 _) hc hkb,hst⟩) (fun h=>absurd hk h) hX2 hl2 hsT hP
 have HP:Hid (Did B T ns0.length bb w2 w2 v ms ns0):=⟨v,ms,hX2,zc.refl _ _ _ _ _⟩;clear hX2 hl2 hrv2 hsT hsR hlow hown2 hb2 hk2 hb1 HRV HRAW hrsl hT2 hst hk ho hc hkb hl1 hlr hlen hy;go_wp2_with fail;refine Calls.mono (HA.out 8 _ _ _ (by decide) (enters_of Tryz.func149 (by kernel_rfl) rfl) HP.out) ?_
 rintro e W8 ⟨rfl,hP8⟩;have HP8:Hid _:=hP8;clear hP8;go_wp2_with fail;refine Calls.mono (HA.out 9 _ _ _ (by decide) (enters_of Tryz.func150 (by kernel_rfl) rfl) HP8.out) ?_
 rintro e W9 ⟨rfl,hP9⟩;have HP9:Hid _:=hP9;clear hP9;go_wp2_with fail;refine Calls.mono (HA.out 10 _ _ _ (by decide) (enters_of Tryz.func151 (by kernel_rfl) rfl) HP9.out) ?_
 rintro e W10 ⟨rfl,hP10⟩;have HP10:Hid _:=hP10;clear hP10;go_wp2_with fail;refine Calls.mono (HA.out 3 _ _ _ (by decide) (enters_of Tryz.func152 (by kernel_rfl) rfl) HP10.out) ?_
 rintro e W3 ⟨rfl,hP3⟩;have HP3:Hid _:=hP3;clear hP3;go_wp2_with fail;refine Calls.mono (H2.out _ HP3.out) ?_;rintro e W2 ⟨rfl,hP2⟩;have HP2:Hid _:=hP2;clear hP2 H2;go_wp2_with fail;refine Calls.mono (HR.out 1 _ _ _ (by decide) (enters_of Tryz.func154 (by kernel_rfl) rfl) HP2.out) ?_
 rintro e W1 ⟨rfl,hP1⟩;have HP1:Hid _:=hP1;clear hP1;go_wp2_with fail;refine Calls.mono (HR.out 4 _ _ _ (by decide) (enters_of Tryz.func155 (by kernel_rfl) rfl) HP1.out) ?_
 rintro e W4 ⟨rfl,hP4⟩;have HP4:Hid _:=hP4;clear hP4;go_wp2_with fail;refine Calls.mono (HA.out 6 _ _ _ (by decide) (enters_of Tryz.func156 (by kernel_rfl) rfl) HP4.out) ?_
 rintro e W6 ⟨rfl,hP6⟩;have HP6:Hid _:=hP6;clear hP6;go_wp2_with fail;refine Calls.mono (HA.out 5 _ _ _ (by decide) (enters_of Tryz.func157 (by kernel_rfl) rfl) HP6.out) ?_
 rintro e W5 ⟨rfl,hP5⟩;have HP5:Hid _:=hP5;clear hP5;go_wp2_with fail;refine Calls.mono (HA.out 7 _ _ _ (by decide) (enters_of Tryz.func158 (by kernel_rfl) rfl) HP5.out) ?_
 rintro e W7 ⟨rfl,hP7⟩;have HP7:Hid _:=hP7;clear hP7;go_wp2_with fail
 go_returns
 exact ⟨rfl,Did.before HB2.out HP7.out⟩
end
end Go.Proofs.YtfplhcicbbhljaaGreatDoor
