/- Bundled: ParseT MarksK ParseC. What each says stands ahead of it. -/
import Derived.Test.YtfdbipeidmpciaaDoorMarkcontent21
namespace Go.Proofs.YtfdbipeidmpciaaDoor
open Go.ChangeShapes Go.WideShapes Go.ChangeAt Go.RowKit
set_option maxRecDepth 100000
section
attribute [local go_sem] qg
set_option maxHeartbeats 2000000 in
theorem Zs (s:List UInt8)(B rb:Nat)(w:World)(h:Rd B rb ⟨s,false⟩ w)(hM:qx w)(hgB:0<B)(hBw:B≤w.heap.size)(hs:s.length≤9223372036854775807) :
    Calls Tryd.prog 62 #[.pointer (some ⟨rb,0,none⟩),.func (.func 63) #[.pointer (some ⟨rb,0,none⟩)] #[],.func (.func 19) #[] #[]] w fun e w' =>
      ∃ va vk, e = .returned (.tuple #[.agg #[.bool (qE s).1.text, .string (qE s).1.s, va, vk], .int .i64 (qE s).2]) ∧
        qe (fun b=>w.heap.size≤b) w' va (qE s).1.attrs∧qb (fun b=>w.heap.size≤b) w' s.length vk (qE s).1.kids∧RFr B rb w w':=by
  have hrb:=h.lt;have hb1:Below w.heap.size w ((w.alloc (.cells #[.bool false,.string ⟨#[]⟩,.slice none 0 0,.slice none 0 0] 25)).alloc (.cells #[.bool false,.string ⟨#[]⟩,.slice none 0 0,.slice none 0 0] 25)):=(Below.alloc1 w _).alloc (by simp) _
  have hx1:((w.alloc (.cells #[.bool false,.string ⟨#[]⟩,.slice none 0 0,.slice none 0 0] 25)).alloc (.cells #[.bool false,.string ⟨#[]⟩,.slice none 0 0,.slice none 0 0] 25)).heap[w.heap.size]?=some (.cells #[.bool false,.string ⟨#[]⟩,.slice none 0 0,.slice none 0 0] 25 (0,0)):=by
    rw[Lib.alloc_old _ _ _ (by simp)];exact heap_alloc_new _ _
  have hy1:((w.alloc (.cells #[.bool false,.string ⟨#[]⟩,.slice none 0 0,.slice none 0 0] 25)).alloc (.cells #[.bool false,.string ⟨#[]⟩,.slice none 0 0,.slice none 0 0] 25)).heap[w.heap.size+1]?=some (.cells #[.bool false,.string ⟨#[]⟩,.slice none 0 0,.slice none 0 0] 25 (0,0)):=by
    have e:=heap_alloc_new (w.alloc (.cells #[.bool false,.string ⟨#[]⟩,.slice none 0 0,.slice none 0 0] 25)) (.cells #[.bool false,.string ⟨#[]⟩,.slice none 0 0,.slice none 0 0] 25);rw[World.size_alloc]at e
    exact e
  have hz1:((w.alloc (.cells #[.bool false,.string ⟨#[]⟩,.slice none 0 0,.slice none 0 0] 25)).alloc (.cells #[.bool false,.string ⟨#[]⟩,.slice none 0 0,.slice none 0 0] 25)).heap.size=w.heap.size+2:=by simp
  have hR1:=h.later hb1;have hF1:RFr B rb w _:=RFr.later hBw hb1;have hM1:=hM.later hb1 hM.lt;have HP:Hid (qE s=if 2500<s.length then (zeroT,2) else if ((⟨s,false⟩:Rs).one (treesF s.length)).2.wrong||decide (((⟨s,false⟩:Rs).one (treesF s.length)).2.rest≠[])||!qw ((⟨s,false⟩:Rs).one (treesF s.length)).1 then (zeroT,1) else (((⟨s,false⟩:Rs).one (treesF s.length)).1,0)):=rfl
  have c0:((w.alloc (.cells #[.bool false,.string ⟨#[]⟩,.slice none 0 0,.slice none 0 0] 25)).alloc (.cells #[.bool false,.string ⟨#[]⟩,.slice none 0 0,.slice none 0 0] 25)).cell? ⟨rb,0,none⟩=some (.string (bytesOf s)):=hR1.c0;have hz:=qk s;clear h hM
  go_enter Tryd.func62,Tryd.ntmps62
  by_cases hlong:2500<s.length
  · have HE : Hid (qE s = (zeroT, 2)) := by show _ = _;rw[HP.out, if_pos hlong]
    have hli:(2500:Int)<(s.length:Int):=by omega
    clear HP hM1;go_wp2_with fail
    generalize ((w.alloc (.cells #[.bool false,.string ⟨#[]⟩,.slice none 0 0,.slice none 0 0] 25)).alloc (.cells #[.bool false,.string ⟨#[]⟩,.slice none 0 0,.slice none 0 0] 25))=W1 at hb1 hx1 hy1 hz1 hR1 hF1 c0 ⊢
    have p0:W1.cell? ⟨w.heap.size,0,none⟩=some (.bool false):=by rw[cH9 hx1];rfl
    have p1:W1.cell? ⟨w.heap.size,1,none⟩=some (.string ⟨#[]⟩):=by rw[cH9 hx1];rfl
    have p2:W1.cell? ⟨w.heap.size,2,none⟩=some (.slice none 0 0):=by rw[cH9 hx1];rfl
    have p3:W1.cell? ⟨w.heap.size,3,none⟩=some (.slice none 0 0):=by rw[cH9 hx1];rfl
    refine bodyPost_ret (v:=.tuple #[.agg #[.bool false,.string ⟨#[]⟩,.slice none 0 0,.slice none 0 0],.int .i64 2]) (by simp[results,Tryd.results62,go_sem,p0,p1,p2,p3]) rfl ⟨.slice none 0 0,.slice none 0 0,?_,?_,?_,?_⟩
    · rw[HE.out];rfl
    · rw[HE.out];exact qe.nil
    · rw[HE.out];exact qb.nil _ ⟨none,0,rfl,nZ9 _⟩
    · exact hF1
  · have HP2 : Hid (qE s = if ((⟨s, false⟩ : Rs).one (treesF s.length)).2.wrong || decide (((⟨s, false⟩ : Rs).one (treesF s.length)).2.rest ≠ []) || !qw ((⟨s, false⟩ : Rs).one (treesF s.length)).1 then (zeroT, 1) else (((⟨s, false⟩ : Rs).one (treesF s.length)).1, 0)) := by show _ = _;rw[HP.out, if_neg hlong]
    have hli:¬ (2500:Int)<(s.length:Int):=by omega
    have hln:s.length≤2500:=by omega
    clear HP hlong;go_wp2_with fail
    generalize ((w.alloc (.cells #[.bool false,.string ⟨#[]⟩,.slice none 0 0,.slice none 0 0] 25)).alloc (.cells #[.bool false,.string ⟨#[]⟩,.slice none 0 0,.slice none 0 0] 25))=W1 at hb1 hx1 hy1 hz1 hR1 hF1 c0 hM1 ⊢
    refine (Calls.mono (Xq s.length (QM s.length) B rb ⟨s,false⟩ W1 hR1 hM1 hgB (by omega) (by show s.length≤_;omega) (nR9 _)) ?_)
    rintro e w2 ⟨va,vk,rfl,hA2,hK2,hR2,k2⟩;have hx2:=k2.box hx1 (by omega)
    have hy2:=k2.box hy1 (by omega)
    have hF2:=hF1.trans k2;have hsz2:=k2.below.size;obtain ⟨aa,ac,rfl⟩:=hA2.shape;obtain ⟨ka,kc,rfl,_,_⟩:=qb.shape s.length hK2
    have HTX:Hid (TextsN (s.length+1) [((⟨s,false⟩:Rs).one (treesF s.length)).1]):=by
      refine zi.texts (M:=2501) (by unfold maxLen;omega) _ _ ?_
      intro t ht;simp only[List.mem_singleton]at ht
      subst ht;exact j2 (M:=2500) (yD 2500 s.length) _ hln
    obtain ⟨p,hp⟩:∃ p,(⟨s,false⟩:Rs).one (treesF s.length)=p:=⟨_,rfl⟩;rw[hp]at HP2 hA2 hK2 hR2 HTX ⊢
    clear hp k2 hR1 hx1 hy1 hF1 hM1 c0 hb1;obtain ⟨t,r2⟩:=p;simp only at HP2 hA2 hK2 hR2 HTX ⊢
    have c0:=hR2.c0;have c1:=hR2.c1;have hem:=yi r2.rest;have hb3:=Below.alloc1 w2 (.cells #[.bool t.text,.string t.s,.slice aa t.attrs.length ac,.slice ka t.kids.length kc] 25);have hv3:=heap_alloc_new w2 (.cells #[.bool t.text,.string t.s,.slice aa t.attrs.length ac,.slice ka t.kids.length kc] 25);have hR3:=hR2.later hb3;have hx3:=(hb3.block _ (ze hx2)).trans hx2;have hy3:=(hb3.block _ (ze hy2)).trans hy2;have hA3:=hA2.later hb3;have hK3:=qb.later hb3 s.length hK2;have hF3:RFr B rb w _:=hF2.own (hb3.mono (by omega)) hBw
    have hw2:w.heap.size+1<w2.heap.size:=by omega
    have d0:=hR3.c0;have d1:=hR3.c1;have HG:Hid _:=yj _ s.length _ _ t _ hA3 hK3 HTX.out;have hsz3:=hb3.size;clear hR2 hx2 hy2 hA2 hK2 hF2 c0 c1 HTX;obtain ⟨q,hq⟩:∃ q,r2.wrong=q:=⟨_,rfl⟩;rw[hq]at HP2 d1
    clear hq;cases q with
    | true =>
      have HE:Hid (qE s=(zeroT,1)):=by show _=_;rw[HP2.out];rfl
      clear HP2 HG;have p0:(w2.alloc (.cells #[.bool t.text,.string t.s,.slice aa t.attrs.length ac,.slice ka t.kids.length kc] 25)).cell? ⟨w.heap.size,0,none⟩=some (.bool false):=by rw[cH9 hx3];rfl
      have p1:(w2.alloc (.cells #[.bool t.text,.string t.s,.slice aa t.attrs.length ac,.slice ka t.kids.length kc] 25)).cell? ⟨w.heap.size,1,none⟩=some (.string ⟨#[]⟩):=by rw[cH9 hx3];rfl
      have p2:(w2.alloc (.cells #[.bool t.text,.string t.s,.slice aa t.attrs.length ac,.slice ka t.kids.length kc] 25)).cell? ⟨w.heap.size,2,none⟩=some (.slice none 0 0):=by rw[cH9 hx3];rfl
      have p3:(w2.alloc (.cells #[.bool t.text,.string t.s,.slice aa t.attrs.length ac,.slice ka t.kids.length kc] 25)).cell? ⟨w.heap.size,3,none⟩=some (.slice none 0 0):=by rw[cH9 hx3];rfl
      have f0:(w2.alloc (.cells #[.bool t.text,.string t.s,.slice aa t.attrs.length ac,.slice ka t.kids.length kc] 25)).frozen? ⟨w.heap.size,0,none⟩=false:=fH9 hx3 0;have f1:(w2.alloc (.cells #[.bool t.text,.string t.s,.slice aa t.attrs.length ac,.slice ka t.kids.length kc] 25)).frozen? ⟨w.heap.size,1,none⟩=false:=fH9 hx3 1;have f2:(w2.alloc (.cells #[.bool t.text,.string t.s,.slice aa t.attrs.length ac,.slice ka t.kids.length kc] 25)).frozen? ⟨w.heap.size,2,none⟩=false:=fH9 hx3 2;have f3:(w2.alloc (.cells #[.bool t.text,.string t.s,.slice aa t.attrs.length ac,.slice ka t.kids.length kc] 25)).frozen? ⟨w.heap.size,3,none⟩=false:=fH9 hx3 3;have q0:(w2.alloc (.cells #[.bool t.text,.string t.s,.slice aa t.attrs.length ac,.slice ka t.kids.length kc] 25)).cell? ⟨w.heap.size+1,0,none⟩=some (.bool false):=by rw[cH9 hy3];rfl
      have q1:(w2.alloc (.cells #[.bool t.text,.string t.s,.slice aa t.attrs.length ac,.slice ka t.kids.length kc] 25)).cell? ⟨w.heap.size+1,1,none⟩=some (.string ⟨#[]⟩):=by rw[cH9 hy3];rfl
      have q2:(w2.alloc (.cells #[.bool t.text,.string t.s,.slice aa t.attrs.length ac,.slice ka t.kids.length kc] 25)).cell? ⟨w.heap.size+1,2,none⟩=some (.slice none 0 0):=by rw[cH9 hy3];rfl
      have q3:(w2.alloc (.cells #[.bool t.text,.string t.s,.slice aa t.attrs.length ac,.slice ka t.kids.length kc] 25)).cell? ⟨w.heap.size+1,3,none⟩=some (.slice none 0 0):=by rw[cH9 hy3];rfl
      go_wp2_with fail;refine bodyPost_ret (v:=.tuple #[.agg #[.bool false,.string ⟨#[]⟩,.slice none 0 0,.slice none 0 0],.int .i64 1]) (by simp[results,Tryd.results62,go_sem,qg,p0,p1,p2,p3,World.cell?_setCell_other]) rfl ⟨.slice none 0 0,.slice none 0 0,?_,?_,?_,?_⟩
      · rw[HE.out];rfl
      · rw[HE.out];exact qe.nil
      · rw[HE.out];exact qb.nil _ ⟨none,0,rfl,nZ9 _⟩
      · exact hF3.own (((((Below.refl _ (w2.alloc (.cells #[.bool t.text,.string t.s,.slice aa t.attrs.length ac,.slice ka t.kids.length kc] 25))).setCell (p:=⟨w.heap.size,0,none⟩) (nR9 _) _).setCell (p:=⟨w.heap.size,1,none⟩) (nR9 _) _).setCell (p:=⟨w.heap.size,2,none⟩) (nR9 _) _).setCell (p:=⟨w.heap.size,3,none⟩) (nR9 _) _) hBw
    | false =>
      cases hr:r2.rest with
      | cons c l =>
        have HE:Hid (qE s=(zeroT,1)):=by show _=_;rw[HP2.out,hr];rfl
        rw[hr]at hem d0
        simp only[List.isEmpty_cons]at hem
        clear HP2 HG hr;have p0:(w2.alloc (.cells #[.bool t.text,.string t.s,.slice aa t.attrs.length ac,.slice ka t.kids.length kc] 25)).cell? ⟨w.heap.size,0,none⟩=some (.bool false):=by rw[cH9 hx3];rfl
        have p1:(w2.alloc (.cells #[.bool t.text,.string t.s,.slice aa t.attrs.length ac,.slice ka t.kids.length kc] 25)).cell? ⟨w.heap.size,1,none⟩=some (.string ⟨#[]⟩):=by rw[cH9 hx3];rfl
        have p2:(w2.alloc (.cells #[.bool t.text,.string t.s,.slice aa t.attrs.length ac,.slice ka t.kids.length kc] 25)).cell? ⟨w.heap.size,2,none⟩=some (.slice none 0 0):=by rw[cH9 hx3];rfl
        have p3:(w2.alloc (.cells #[.bool t.text,.string t.s,.slice aa t.attrs.length ac,.slice ka t.kids.length kc] 25)).cell? ⟨w.heap.size,3,none⟩=some (.slice none 0 0):=by rw[cH9 hx3];rfl
        have f0:(w2.alloc (.cells #[.bool t.text,.string t.s,.slice aa t.attrs.length ac,.slice ka t.kids.length kc] 25)).frozen? ⟨w.heap.size,0,none⟩=false:=fH9 hx3 0;have f1:(w2.alloc (.cells #[.bool t.text,.string t.s,.slice aa t.attrs.length ac,.slice ka t.kids.length kc] 25)).frozen? ⟨w.heap.size,1,none⟩=false:=fH9 hx3 1;have f2:(w2.alloc (.cells #[.bool t.text,.string t.s,.slice aa t.attrs.length ac,.slice ka t.kids.length kc] 25)).frozen? ⟨w.heap.size,2,none⟩=false:=fH9 hx3 2;have f3:(w2.alloc (.cells #[.bool t.text,.string t.s,.slice aa t.attrs.length ac,.slice ka t.kids.length kc] 25)).frozen? ⟨w.heap.size,3,none⟩=false:=fH9 hx3 3;have q0:(w2.alloc (.cells #[.bool t.text,.string t.s,.slice aa t.attrs.length ac,.slice ka t.kids.length kc] 25)).cell? ⟨w.heap.size+1,0,none⟩=some (.bool false):=by rw[cH9 hy3];rfl
        have q1:(w2.alloc (.cells #[.bool t.text,.string t.s,.slice aa t.attrs.length ac,.slice ka t.kids.length kc] 25)).cell? ⟨w.heap.size+1,1,none⟩=some (.string ⟨#[]⟩):=by rw[cH9 hy3];rfl
        have q2:(w2.alloc (.cells #[.bool t.text,.string t.s,.slice aa t.attrs.length ac,.slice ka t.kids.length kc] 25)).cell? ⟨w.heap.size+1,2,none⟩=some (.slice none 0 0):=by rw[cH9 hy3];rfl
        have q3:(w2.alloc (.cells #[.bool t.text,.string t.s,.slice aa t.attrs.length ac,.slice ka t.kids.length kc] 25)).cell? ⟨w.heap.size+1,3,none⟩=some (.slice none 0 0):=by rw[cH9 hy3];rfl
        go_wp2_with fail;refine bodyPost_ret (v:=.tuple #[.agg #[.bool false,.string ⟨#[]⟩,.slice none 0 0,.slice none 0 0],.int .i64 1]) (by simp[results,Tryd.results62,go_sem,qg,p0,p1,p2,p3,World.cell?_setCell_other]) rfl ⟨.slice none 0 0,.slice none 0 0,?_,?_,?_,?_⟩
        · rw[HE.out];rfl
        · rw[HE.out];exact qe.nil
        · rw[HE.out];exact qb.nil _ ⟨none,0,rfl,nZ9 _⟩
        · exact hF3.own (((((Below.refl _ (w2.alloc (.cells #[.bool t.text,.string t.s,.slice aa t.attrs.length ac,.slice ka t.kids.length kc] 25))).setCell (p:=⟨w.heap.size,0,none⟩) (nR9 _) _).setCell (p:=⟨w.heap.size,1,none⟩) (nR9 _) _).setCell (p:=⟨w.heap.size,2,none⟩) (nR9 _) _).setCell (p:=⟨w.heap.size,3,none⟩) (nR9 _) _) hBw
      | nil =>
        have HP3:Hid (qE s=if !qw t then (zeroT,1) else (t,0)):=by show _=_;rw[HP2.out,hr];rfl
        rw[hr]at hem d0
        simp only[List.isEmpty_nil]at hem
        clear HP2 hr;go_wp2_with fail;refine (Calls.mono HG.out ?_);rintro e w4 ⟨rfl,hb4⟩;have hx4:=(hb4.block _ (ze hx3)).trans hx3;have hy4:=(hb4.block _ (ze hy3)).trans hy3;have hv4:=(hb4.block _ (ze hv3)).trans hv3;have hA4:=hA3.later hb4;have hK4:=qb.later hb4 s.length hK3;have hF4:RFr B rb w w4:=hF3.own (hb4.mono (by omega)) hBw
        clear HG hx3 hy3 hv3 hA3 hK3 hF3 d0 d1 hR3 hb3;obtain ⟨q,hq⟩:∃ q,qw t=q:=⟨_,rfl⟩;rw[hq]at HP3 ⊢
        clear hq;cases q with
        | false =>
          have HE:Hid (qE s=(zeroT,1)):=by show _=_;rw[HP3.out];rfl
          clear HP3;have p0:w4.cell? ⟨w.heap.size,0,none⟩=some (.bool false):=by rw[cH9 hx4];rfl
          have p1:w4.cell? ⟨w.heap.size,1,none⟩=some (.string ⟨#[]⟩):=by rw[cH9 hx4];rfl
          have p2:w4.cell? ⟨w.heap.size,2,none⟩=some (.slice none 0 0):=by rw[cH9 hx4];rfl
          have p3:w4.cell? ⟨w.heap.size,3,none⟩=some (.slice none 0 0):=by rw[cH9 hx4];rfl
          have f0:w4.frozen? ⟨w.heap.size,0,none⟩=false:=fH9 hx4 0;have f1:w4.frozen? ⟨w.heap.size,1,none⟩=false:=fH9 hx4 1;have f2:w4.frozen? ⟨w.heap.size,2,none⟩=false:=fH9 hx4 2;have f3:w4.frozen? ⟨w.heap.size,3,none⟩=false:=fH9 hx4 3;have q0:w4.cell? ⟨w.heap.size+1,0,none⟩=some (.bool false):=by rw[cH9 hy4];rfl
          have q1:w4.cell? ⟨w.heap.size+1,1,none⟩=some (.string ⟨#[]⟩):=by rw[cH9 hy4];rfl
          have q2:w4.cell? ⟨w.heap.size+1,2,none⟩=some (.slice none 0 0):=by rw[cH9 hy4];rfl
          have q3:w4.cell? ⟨w.heap.size+1,3,none⟩=some (.slice none 0 0):=by rw[cH9 hy4];rfl
          go_wp2_with fail;refine bodyPost_ret (v:=.tuple #[.agg #[.bool false,.string ⟨#[]⟩,.slice none 0 0,.slice none 0 0],.int .i64 1]) (by simp[results,Tryd.results62,go_sem,qg,p0,p1,p2,p3,World.cell?_setCell_other]) rfl ⟨.slice none 0 0,.slice none 0 0,?_,?_,?_,?_⟩
          · rw[HE.out];rfl
          · rw[HE.out];exact qe.nil
          · rw[HE.out];exact qb.nil _ ⟨none,0,rfl,nZ9 _⟩
          · exact hF4.own (((((Below.refl _ w4).setCell (p:=⟨w.heap.size,0,none⟩) (nR9 _) _).setCell (p:=⟨w.heap.size,1,none⟩) (nR9 _) _).setCell (p:=⟨w.heap.size,2,none⟩) (nR9 _) _).setCell (p:=⟨w.heap.size,3,none⟩) (nR9 _) _) hBw
        | true =>
          have HE:Hid (qE s=(t,0)):=by show _=_;rw[HP3.out];rfl
          clear HP3;have p0:w4.cell? ⟨w.heap.size,0,none⟩=some (.bool false):=by rw[cH9 hx4];rfl
          have p1:w4.cell? ⟨w.heap.size,1,none⟩=some (.string ⟨#[]⟩):=by rw[cH9 hx4];rfl
          have p2:w4.cell? ⟨w.heap.size,2,none⟩=some (.slice none 0 0):=by rw[cH9 hx4];rfl
          have p3:w4.cell? ⟨w.heap.size,3,none⟩=some (.slice none 0 0):=by rw[cH9 hx4];rfl
          have f0:w4.frozen? ⟨w.heap.size,0,none⟩=false:=fH9 hx4 0;have f1:w4.frozen? ⟨w.heap.size,1,none⟩=false:=fH9 hx4 1;have f2:w4.frozen? ⟨w.heap.size,2,none⟩=false:=fH9 hx4 2;have f3:w4.frozen? ⟨w.heap.size,3,none⟩=false:=fH9 hx4 3;have q0:w4.cell? ⟨w2.heap.size,0,none⟩=some (.bool t.text):=by rw[cH9 hv4];rfl
          have q1:w4.cell? ⟨w2.heap.size,1,none⟩=some (.string t.s):=by rw[cH9 hv4];rfl
          have q2:w4.cell? ⟨w2.heap.size,2,none⟩=some (.slice aa t.attrs.length ac):=by rw[cH9 hv4];rfl
          have q3:w4.cell? ⟨w2.heap.size,3,none⟩=some (.slice ka t.kids.length kc):=by rw[cH9 hv4];rfl
          go_wp2_with fail;refine bodyPost_ret (v:=.tuple #[.agg #[.bool t.text,.string t.s,.slice aa t.attrs.length ac,.slice ka t.kids.length kc],.int .i64 0]) (by simp[results,Tryd.results62,go_sem,qg,p0,p1,p2,p3,World.cell?_setCell_other]) rfl ⟨.slice aa t.attrs.length ac,.slice ka t.kids.length kc,?_,?_,?_,?_⟩
          · rw[HE.out]
          · rw[HE.out];exact ((((hA4.set (by omega)).set (by omega)).set (by omega)).set (by omega)).wider (by omega)
          · rw[HE.out];exact ((((hK4.set (by omega)).set (by omega)).set (by omega)).set (by omega)).wider (by omega)
          · exact hF4.own (((((Below.refl _ w4).setCell (p:=⟨w.heap.size,0,none⟩) (nR9 _) _).setCell (p:=⟨w.heap.size,1,none⟩) (nR9 _) _).setCell (p:=⟨w.heap.size,2,none⟩) (nR9 _) _).setCell (p:=⟨w.heap.size,3,none⟩) (nR9 _) _) hBw
set_option maxHeartbeats 1000000 in
theorem jf (s:List UInt8)(w:World)(hM:qx w)(hs:s.length≤9223372036854775807) :
    Calls Tryd.prog 29 #[.string (bytesOf s)] w fun e w' =>
      ∃ va vk, e = .returned (.tuple #[.agg #[.bool (qE s).1.text, .string (qE s).1.s, va, vk], .int .i64 (qE s).2]) ∧
        qe (fun b=>w.heap.size≤b) w' va (qE s).1.attrs∧qb (fun b=>w.heap.size≤b) w' s.length vk (qE s).1.kids∧Below w.heap.size w w':=by
  have hb1:Below w.heap.size w ((w.alloc (.cells #[.bool false,.string ⟨#[]⟩,.slice none 0 0,.slice none 0 0] 25)).alloc (.cells #[.string (bytesOf s),.bool false] 78)):=(Below.alloc1 w _).alloc (by simp) _
  have hx1:((w.alloc (.cells #[.bool false,.string ⟨#[]⟩,.slice none 0 0,.slice none 0 0] 25)).alloc (.cells #[.string (bytesOf s),.bool false] 78)).heap[w.heap.size]?=some (.cells #[.bool false,.string ⟨#[]⟩,.slice none 0 0,.slice none 0 0] 25 (0,0)):=by
    rw[Lib.alloc_old _ _ _ (by simp)];exact heap_alloc_new _ _
  have hR1:Rd w.heap.size (w.heap.size+1) ⟨s,false⟩ ((w.alloc (.cells #[.bool false,.string ⟨#[]⟩,.slice none 0 0,.slice none 0 0] 25)).alloc (.cells #[.string (bytesOf s),.bool false] 78)):=by
    have e:=heap_alloc_new (w.alloc (.cells #[.bool false,.string ⟨#[]⟩,.slice none 0 0,.slice none 0 0] 25)) (.cells #[.string (bytesOf s),.bool false] 78);rw[World.size_alloc]at e
    exact ⟨by omega,e⟩
  have hz1:((w.alloc (.cells #[.bool false,.string ⟨#[]⟩,.slice none 0 0,.slice none 0 0] 25)).alloc (.cells #[.string (bytesOf s),.bool false] 78)).heap.size=w.heap.size+2:=by simp
  have HC:Hid _:=Zs s w.heap.size (w.heap.size+1) _ hR1 (hM.later hb1 hM.lt) hM.lt (by omega) hs
  have hz:=qk s;clear hM
  go_enter Tryd.func29,Tryd.ntmps29
  go_wp2_with fail;refine (Calls.mono HC.out ?_);rintro e w2 ⟨va,vk,rfl,hA2,hK2,k2⟩;have hx2:=k2.box hx1 (by omega)
  have hB2:Below w.heap.size w w2:=hb1.trans k2.below;rw[hz1]at hA2 hK2
  clear HC hx1 hR1 k2 hb1 hz1;obtain ⟨aa,ac,rfl⟩:=hA2.shape;obtain ⟨ka,kc,rfl,_,_⟩:=qb.shape s.length hK2;obtain ⟨t,ht⟩:∃ t,qE s=t:=⟨_,rfl⟩;rw[ht]at hA2 hK2 ⊢
  have HT:Hid (qE s=t):=ht;clear ht;have p0:w2.cell? ⟨w.heap.size,0,none⟩=some (.bool false):=by rw[cH9 hx2];rfl
  have p1:w2.cell? ⟨w.heap.size,1,none⟩=some (.string ⟨#[]⟩):=by rw[cH9 hx2];rfl
  have p2:w2.cell? ⟨w.heap.size,2,none⟩=some (.slice none 0 0):=by rw[cH9 hx2];rfl
  have p3:w2.cell? ⟨w.heap.size,3,none⟩=some (.slice none 0 0):=by rw[cH9 hx2];rfl
  have f0:w2.frozen? ⟨w.heap.size,0,none⟩=false:=fH9 hx2 0;have f1:w2.frozen? ⟨w.heap.size,1,none⟩=false:=fH9 hx2 1;have f2:w2.frozen? ⟨w.heap.size,2,none⟩=false:=fH9 hx2 2;have f3:w2.frozen? ⟨w.heap.size,3,none⟩=false:=fH9 hx2 3;go_wp2_with fail;refine bodyPost_ret (v:=.tuple #[.agg #[.bool t.1.text,.string t.1.s,.slice aa t.1.attrs.length ac,.slice ka t.1.kids.length kc],.int .i64 t.2]) (by simp[results,Tryd.results29,go_sem,qg,p0,p1,p2,p3,World.cell?_setCell_other]) rfl ⟨.slice aa t.1.attrs.length ac,.slice ka t.1.kids.length kc,by rw[HT.out],?_,?_,?_⟩
  · rw[HT.out];exact ((((hA2.set (by omega)).set (by omega)).set (by omega)).set (by omega)).wider (by omega)
  · rw[HT.out];exact ((((hK2.set (by omega)).set (by omega)).set (by omega)).set (by omega)).wider (by omega)
  · exact hB2.trans (((((Below.refl _ w2).setCell (p:=⟨w.heap.size,0,none⟩) (nR9 _) _).setCell (p:=⟨w.heap.size,1,none⟩) (nR9 _) _).setCell (p:=⟨w.heap.size,2,none⟩) (nR9 _) _).setCell (p:=⟨w.heap.size,3,none⟩) (nR9 _) _)
end
section
attribute [local go_sem] qg
theorem xi (s:List UInt8):TextsN (s.length+1) [(qE s).1]:=by
 have hz:TextsN (s.length+1) [zeroT]:=by
  intro t ht;simp only[List.mem_singleton]at ht
  subst ht;exact ⟨⟨nZ9 _,by intro x hx;simp[zeroT]at hx⟩,(zi.nil 0 s.length).texts (nZ9 _)⟩
 unfold qE
 split
 · exact hz
 · rename_i h
   split
   · exact hz
   · refine zi.texts (M := 2501) (by unfold maxLen;omega) _ _ ?_
     intro t ht;simp only[List.mem_singleton]at ht
     subst ht;exact j2 (M:=2500) (yD 2500 s.length) _ (by show s.length≤_;omega)
def marksT:Tr:=⟨false,⟨#[97]⟩,[(⟨#[98]⟩,⟨#[60]⟩)],[⟨true,⟨#[120]⟩,[],[]⟩,⟨false,⟨#[99]⟩,[],[]⟩]⟩
def marksS:List UInt8:=[60,97,32,98,61,34,38,108,116,59,34,62,120,60,99,47,62,60,47,97,62]
theorem marksT_deep:Deep 1 marksT.kids:=by
 intro t ht;simp only[marksT,List.mem_cons,List.not_mem_nil,or_false]at ht
 rcases ht with rfl|rfl<;>rfl
theorem marksT_good:qw marksT=true:=by kernel_rfl
theorem marks_parsed:qE marksS=(marksT,0):=by
 have:=jz marksT_deep marksT_good (by decide)
 exact this
theorem marks_printed:zp 21 marksT=(⟨#[60,97,32,98,61,34,38,108,116,59,34,62,120,60,99,47,62,60,47,97,62]⟩,0):=by kernel_rfl
set_option maxHeartbeats 1000000 in
theorem zu (w:World)(hM:qx w):Calls Tryd.prog 28 #[] w fun e w'=>e=.returned (.bool true)∧Below w.heap.size w w':=by
 have HC:Hid (Calls Tryd.prog 29 #[.string ⟨#[60,97,32,98,61,34,38,108,116,59,34,62,120,60,99,47,62,60,47,97,62]⟩] w fun e w' =>
  ∃ va vk,e=.returned (.tuple #[.agg #[.bool marksT.text,.string marksT.s,va,vk],.int .i64 0])∧qe (fun b=>w.heap.size≤b) w' va marksT.attrs∧qb (fun b=>w.heap.size≤b) w' 21 vk marksT.kids∧Below w.heap.size w w'):=by
  have:=jf marksS w hM (by decide)
  rw[marks_parsed]at this
  exact this
 have HX:Hid (TextsN 22 [marksT]):=by have:=xi marksS;rw[marks_parsed]at this;exact this
 have HM:Hid (qx w):=hM;clear hM
 go_enter Tryd.func28,Tryd.ntmps28
 go_wp2_with fail;refine (Calls.mono HC.out ?_);rintro e w1 ⟨va,vk,rfl,hA1,hK1,hB1⟩;obtain ⟨aa,ac,rfl⟩:=hA1.shape;obtain ⟨ka,kc,rfl,_,_⟩:=qb.shape 21 hK1;have hb2:=Below.alloc1 w1 (.cells #[.bool marksT.text,.string marksT.s,.slice aa marksT.attrs.length ac,.slice ka marksT.kids.length kc] 25);have hB2:Below w.heap.size w _:=hB1.trans (hb2.mono hB1.size);have HP:=z7 _ 21 _ _ marksT _ (hA1.later hb2) (qb.later hb2 21 hK1) (HM.out.later hB2 HM.out.lt) HX.out;rw[marks_printed]at HP
 have HPP:Hid _:=HP;clear HC HP;go_wp2_with fail;refine (Calls.mono HPP.out ?_);rintro e w2 ⟨rfl,hb3⟩;have hB3:=hB2.trans (hb3.mono hB2.size);clear HPP hb2 hA1 hK1;go_wp2_with fail;go_ret;exact ⟨rfl,hB3⟩
end
section
attribute [local go_sem] qg
set_option maxHeartbeats 2000000 in
theorem QV (s:List UInt8)(B rb:Nat)(w:World)(h:Rd B rb ⟨s,false⟩ w)(hM:qx w)(hgB:0<B)(hBw:B≤w.heap.size)(hs:s.length≤9223372036854775807) :
 Calls Tryd.prog 64 #[.pointer (some ⟨rb,0,none⟩),.func (.func 65) #[.pointer (some ⟨rb,0,none⟩)] #[],.func (.func 21) #[] #[]] w fun e w' =>
  ∃ v,e=.returned (.tuple #[v,.int .i64 (zW s).2])∧qb (fun b=>w.heap.size≤b) w' (s.length+1) v (zW s).1∧RFr B rb w w':=by
 have HP:Hid (zW s=if 2500<s.length then ([],2) else if (treesF (s.length+1) ⟨s,false⟩).2.wrong||decide ((treesF (s.length+1) ⟨s,false⟩).2.rest≠[])||!zQ (treesF (s.length+1) ⟨s,false⟩).1 then ([],1) else ((treesF (s.length+1) ⟨s,false⟩).1,0)):=rfl
 have hrb:=h.lt;have c0:w.cell? ⟨rb,0,none⟩=some (.string (bytesOf s)):=h.c0;have hz:=qk s
 go_enter Tryd.func64,Tryd.ntmps64
 by_cases hlong:2500<s.length
 · have HE : Hid (zW s = ([], 2)) := by show _ = _;rw[HP.out, if_pos hlong]
   have hli:(2500:Int)<(s.length:Int):=by omega
   clear HP hM h;go_wp2_with fail
   go_ret2
   exact ⟨.slice none 0 0,by rw[HE.out];rfl,by rw[HE.out];exact qb.nil _ ⟨none,0,rfl,nZ9 _⟩,RFr.refl _ _ _⟩
 · have HP2 : Hid (zW s = if (treesF (s.length + 1) ⟨s, false⟩).2.wrong || decide ((treesF (s.length + 1) ⟨s, false⟩).2.rest ≠ []) || !zQ (treesF (s.length + 1) ⟨s, false⟩).1 then ([], 1) else ((treesF (s.length + 1) ⟨s, false⟩).1, 0)) := by show _ = _;rw[HP.out, if_neg hlong]
   have hli:¬ (2500:Int)<(s.length:Int):=by omega
   have hln:s.length≤2500:=by omega
   have HC:Hid _:=QM (s.length+1) B rb ⟨s,false⟩ w h hM hgB hBw (by show s.length≤_;omega) (by show s.length<_;omega)
   clear HP hlong h hM;go_wp2_with fail;refine (Calls.mono HC.out ?_);rintro e w2 ⟨v,rfl,hK2,hR2,k2⟩;obtain ⟨ka,kc,rfl,_,_⟩:=qb.shape (s.length+1) hK2;have HTX:Hid (TextsN (s.length+1) (treesF (s.length+1) ⟨s,false⟩).1):=zi.texts (M:=2501) (by unfold maxLen;omega) _ _ (yD 2500 (s.length+1) _ hln)
   obtain ⟨p,hp⟩:∃ p,treesF (s.length+1) ⟨s,false⟩=p:=⟨_,rfl⟩;rw[hp]at HP2 hK2 hR2 HTX ⊢
   clear hp HC c0;obtain ⟨l,r2⟩:=p;simp only at HP2 hK2 hR2 HTX ⊢
   have d0:=hR2.c0;have d1:=hR2.c1;have hem:=yi r2.rest;have HG:Hid _:=xf _ (s.length+1) _ l _ hK2 HTX.out;have hsz2:=k2.below.size;clear hR2 HTX;obtain ⟨q,hq⟩:∃ q,r2.wrong=q:=⟨_,rfl⟩;rw[hq]at HP2 d1
   clear hq;cases q with
   | true =>
     have HE:Hid (zW s=([],1)):=by show _=_;rw[HP2.out];rfl
     clear HP2 HG;go_wp2_with fail
     go_ret2
     exact ⟨.slice none 0 0,by rw[HE.out];rfl,by rw[HE.out];exact qb.nil _ ⟨none,0,rfl,nZ9 _⟩,k2⟩
   | false =>
     cases hr:r2.rest with
     | cons c m =>
       have HE:Hid (zW s=([],1)):=by show _=_;rw[HP2.out,hr];rfl
       rw[hr]at hem d0
       simp only[List.isEmpty_cons]at hem
       clear HP2 HG hr;go_wp2_with fail
       go_ret2
       exact ⟨.slice none 0 0,by rw[HE.out];rfl,by rw[HE.out];exact qb.nil _ ⟨none,0,rfl,nZ9 _⟩,k2⟩
     | nil =>
       have HP3:Hid (zW s=if !zQ l then ([],1) else (l,0)):=by show _=_;rw[HP2.out,hr];rfl
       rw[hr]at hem d0
       simp only[List.isEmpty_nil]at hem
       clear HP2 hr;go_wp2_with fail;refine (Calls.mono HG.out ?_);rintro e w4 ⟨rfl,hb4⟩;have hK4:=qb.later hb4 (s.length+1) hK2;have hF4:RFr B rb w w4:=k2.own (hb4.mono (by omega)) hBw
       clear HG hK2 d0 d1;obtain ⟨q,hq⟩:∃ q,zQ l=q:=⟨_,rfl⟩;rw[hq]at HP3 ⊢
       clear hq;cases q with
       | false =>
         have HE:Hid (zW s=([],1)):=by show _=_;rw[HP3.out];rfl
         clear HP3;go_wp2_with fail
         go_ret2
         exact ⟨.slice none 0 0,by rw[HE.out];rfl,by rw[HE.out];exact qb.nil _ ⟨none,0,rfl,nZ9 _⟩,hF4⟩
       | true =>
         have HE:Hid (zW s=(l,0)):=by show _=_;rw[HP3.out];rfl
         clear HP3;go_wp2_with fail
         go_ret2
         exact ⟨.slice ka l.length kc,by rw[HE.out];rfl,by rw[HE.out];exact hK4,hF4⟩
set_option maxHeartbeats 1000000 in
theorem Qf (s:List UInt8)(w:World)(hM:qx w)(hs:s.length≤9223372036854775807) :
 Calls Tryd.prog 31 #[.string (bytesOf s)] w fun e w'=>∃ v,e=.returned (.tuple #[v,.int .i64 (zW s).2])∧qb (fun b=>w.heap.size≤b) w' (s.length+1) v (zW s).1∧Below w.heap.size w w':=by
 have hb1:=Below.alloc1 w (.cells #[.string (bytesOf s),.bool false] 78);have hR1:Rd w.heap.size w.heap.size ⟨s,false⟩ (w.alloc (.cells #[.string (bytesOf s),.bool false] 78)):=⟨nR9 _,heap_alloc_new _ _⟩;have HC:Hid _:=QV s w.heap.size w.heap.size _ hR1 (hM.later hb1 hM.lt) hM.lt hb1.size hs;have hz:=qk s;clear hM
 go_enter Tryd.func31,Tryd.ntmps31
 go_wp2_with fail;refine (Calls.mono HC.out ?_);rintro e w2 ⟨v,rfl,hK2,k2⟩;have hB2:Below w.heap.size w w2:=hb1.trans k2.below;obtain ⟨ka,kc,rfl,_,_⟩:=qb.shape (s.length+1) hK2;go_wp2_with fail
 go_ret2
 exact ⟨_,rfl,hK2.wider hb1.size,hB2⟩
end
end Go.Proofs.YtfdbipeidmpciaaDoor
