/- Bundled: OneV BackK. What each says stands ahead of it. -/
import Derived.Test.YtlchbhlmbphkpaaBundle28
/- change.Apply with one change that a law builds, and what comes of it as a document. No condition but what every argument has. -/
namespace Go.Proofs.Ytlchbhlmbphkpaa
open Go.ChangeShapes Go.WideShapes Go.ChangeAt Go.RowKit
set_option maxRecDepth 100000

theorem applyV_any {S : Nat → Prop} {vn : Value} {ns : List Nd} (o : Opn) (hc : o.content = []) {w : World} (hD : DocV S w vn ns) (ht : o.name.size ≤ maxLen ∧ o.s.size ≤ maxLen) {A : Nat} (hA : A = w.heap.size) :
    Calls Try.prog 10 #[.agg #[vn], .slice (some ⟨A, 0, none⟩) 1 1] (w.alloc (.cells #[.int .i64 o.kind, .int .i64 o.target, .slice none 0 0, .string o.name, .string o.s] 30)) fun e w' => ∃ a c, e = .returned (.tuple #[.agg #[.slice a (applyD ns [o]).length c], .int .i64 (applyE ns [o])]) ∧ DocV (fun b => b < w'.heap.size) w' (.slice a (applyD ns [o]).length c) (applyD ns [o]) ∧ c ≤ maxLen ∧ Below w.heap.size w w' := by
  subst hA
  refine (applyOne_any S vn ns o hc w hD.nodes hD.few hD.short ht).mono ?_
  rintro e w' ⟨v', rfl, h1, h2, h3, h4⟩
  obtain ⟨a, c, rfl, _, hc'⟩ := h1.shape
  exact ⟨a, c, rfl, ⟨h1, fun b hb => hb, h3, h2⟩, hc', h4⟩

theorem applyRen_any {S : Nat → Prop} {vn : Value} {ns : List Nd} (n : Int) (name : ByteArray) {w : World} (hD : DocV S w vn ns) (ht : name.size ≤ maxLen) {A : Nat} (hA : A = w.heap.size) :
    Calls Try.prog 10 #[.agg #[vn], .slice (some ⟨A, 0, none⟩) 1 1] (w.alloc (.cells #[.int .i64 8, .int .i64 n, .slice none 0 0, .string name, .string ⟨#[]⟩] 30)) fun e w' => ∃ a c, e = .returned (.tuple #[.agg #[.slice a (applyD ns [opRen n name]).length c], .int .i64 (applyE ns [opRen n name])]) ∧ DocV (fun b => b < w'.heap.size) w' (.slice a (applyD ns [opRen n name]).length c) (applyD ns [opRen n name]) ∧ c ≤ maxLen ∧ Below w.heap.size w w' :=
  applyV_any (opRen n name) rfl hD ⟨ht, Nat.zero_le _⟩ hA
theorem applySet_any {S : Nat → Prop} {vn : Value} {ns : List Nd} (n : Int) (name s : ByteArray) {w : World} (hD : DocV S w vn ns) (ht : name.size ≤ maxLen ∧ s.size ≤ maxLen) {A : Nat} (hA : A = w.heap.size) :
    Calls Try.prog 10 #[.agg #[vn], .slice (some ⟨A, 0, none⟩) 1 1] (w.alloc (.cells #[.int .i64 9, .int .i64 n, .slice none 0 0, .string name, .string s] 30)) fun e w' => ∃ a c, e = .returned (.tuple #[.agg #[.slice a (applyD ns [opSet n name s]).length c], .int .i64 (applyE ns [opSet n name s])]) ∧ DocV (fun b => b < w'.heap.size) w' (.slice a (applyD ns [opSet n name s]).length c) (applyD ns [opSet n name s]) ∧ c ≤ maxLen ∧ Below w.heap.size w w' :=
  applyV_any (opSet n name s) rfl hD ht hA
theorem applyDrop_any {S : Nat → Prop} {vn : Value} {ns : List Nd} (n : Int) (name : ByteArray) {w : World} (hD : DocV S w vn ns) (ht : name.size ≤ maxLen) {A : Nat} (hA : A = w.heap.size) :
    Calls Try.prog 10 #[.agg #[vn], .slice (some ⟨A, 0, none⟩) 1 1] (w.alloc (.cells #[.int .i64 10, .int .i64 n, .slice none 0 0, .string name, .string ⟨#[]⟩] 30)) fun e w' => ∃ a c, e = .returned (.tuple #[.agg #[.slice a (applyD ns [opDrop n name]).length c], .int .i64 (applyE ns [opDrop n name])]) ∧ DocV (fun b => b < w'.heap.size) w' (.slice a (applyD ns [opDrop n name]).length c) (applyD ns [opDrop n name]) ∧ c ≤ maxLen ∧ Below w.heap.size w w' :=
  applyV_any (opDrop n name) rfl hD ⟨ht, Nat.zero_le _⟩ hA
theorem applyDel_any {S : Nat → Prop} {vn : Value} {ns : List Nd} (n : Int) {w : World} (hD : DocV S w vn ns) {A : Nat} (hA : A = w.heap.size) :
    Calls Try.prog 10 #[.agg #[vn], .slice (some ⟨A, 0, none⟩) 1 1] (w.alloc (.cells #[.int .i64 5, .int .i64 n, .slice none 0 0, .string ⟨#[]⟩, .string ⟨#[]⟩] 30)) fun e w' => ∃ a c, e = .returned (.tuple #[.agg #[.slice a (applyD ns [opDel n]).length c], .int .i64 (applyE ns [opDel n])]) ∧ DocV (fun b => b < w'.heap.size) w' (.slice a (applyD ns [opDel n]).length c) (applyD ns [opDel n]) ∧ c ≤ maxLen ∧ Below w.heap.size w w' :=
  applyV_any (opDel n) rfl hD ⟨Nat.zero_le _, Nat.zero_le _⟩ hA

/-- change.Apply with one change without content that lies at a block. -/
theorem applyAt_any {T : Nat → Prop} {vn : Value} {ns : List Nd} (o : Opn) (hc : o.content = []) {W : World} {A : Nat} (hh : W.heap[A]? = some (.cells #[.int .i64 o.kind, .int .i64 o.target, .slice none 0 0, .string o.name, .string o.s] 30 (0, 0))) (hN : Nodes T W vn ns) (hT : ∀ b, T b → b < W.heap.size) (hf : ∀ x ∈ ns, x.attrs.length ≤ 4398046511104) (hx : TextsD ns) (ht : o.name.size ≤ maxLen ∧ o.s.size ≤ maxLen) :
    Calls Try.prog 10 #[.agg #[vn], .slice (some ⟨A, 0, none⟩) 1 1] W fun e w' => ∃ a c, e = .returned (.tuple #[.agg #[.slice a (applyD ns [o]).length c], .int .i64 (applyE ns [o])]) ∧ Nodes (fun b => T b ∨ b = A ∨ W.heap.size ≤ b) w' (.slice a (applyD ns [o]).length c) (applyD ns [o]) ∧ c ≤ maxLen ∧ TextsD (applyD ns [o]) ∧ (∀ x ∈ applyD ns [o], x.attrs.length ≤ 4398046511104) ∧ Below W.heap.size W w' := by
  have hto : TextsO 0 [o] := by
    intro x hm
    rw [List.mem_singleton.1 hm]
    exact ⟨trivial, ht⟩
  have hdo : ∀ x ∈ [o], Deep 0 x.content := by
    intro x hm
    rw [List.mem_singleton.1 hm, hc]
    rfl
  have hO : Ops (fun b => T b ∨ b = A) W 0 (.slice (some ⟨A, 0, none⟩) 1 1) [o] := by
    refine ⟨_, 1, rfl, Nat.le_refl _, by unfold maxLen; omega, fun _ => ⟨A, 0, rfl, Or.inr rfl, fun i x hx => ?_⟩⟩
    have hi : i = 0 := by have := lt_of_some hx; simp at this; exact this
    subst hi
    simp at hx
    subst hx
    refine ⟨none, 0, by rw [Lib.cell_of_heap hh]; rfl, by rw [Lib.cell_of_heap hh]; rfl, ?_, by rw [Lib.cell_of_heap hh]; rfl, by rw [Lib.cell_of_heap hh]; rfl, ?_⟩
    · rw [hc, Lib.cell_of_heap hh]; rfl
    · rw [hc]; exact ⟨rfl, none, 0, rfl, Nat.zero_le _⟩
  refine (applyAll_any (fun b => T b ∨ b = A) 0 _ _ ns [o] W (hN.carry fun b hb => ⟨Or.inl hb, rfl⟩) (fun b hb => by
    rcases hb with hb | rfl
    · exact hT b hb
    · exact blk_lt hh) hf hx hO hto).mono ?_
  rintro e w' ⟨v', rfl, h1, h2⟩
  obtain ⟨a, c, rfl, _, hc'⟩ := h1.shape
  exact ⟨a, c, rfl, h1.carry fun b hb => ⟨by rcases hb with (hb | hb) | hb; exact Or.inl hb; exact Or.inr (Or.inl hb); exact Or.inr (Or.inr hb), rfl⟩, hc', applyD_texts hx (fun hc' => fine_all hc' hx hto hdo), applyD_few hf, h2⟩
end Go.Proofs.Ytlchbhlmbphkpaa

/- topiarykeep.ChangeBack says true. No condition but what every argument has. -/
namespace Go.Proofs.Ytlchbhlmbphkpaa
open Go.ChangeShapes Go.WideShapes Go.ChangeAt Go.RowKit
set_option maxRecDepth 100000

attribute [local go_sem] cell_set

theorem box_then (W : World) (p q : Obj) : ((W.alloc p).alloc q).heap[W.heap.size + 1]? = some q := by
  have := heap_alloc_new (W.alloc p) q
  rwa [World.size_alloc] at this
theorem then_box (W : World) (p q : Obj) : ((W.alloc q).alloc p).heap[W.heap.size]? = some q := by
  rw [heap_alloc_old _ _ (by simp)]; exact heap_alloc_new _ _

theorem store_box {W : World} {b : Nat} {u : Value} {T : TypeId} (v : Value) (h : W.heap[b]? = some (.cells #[u] T (0, 0))) : (W.setCell ⟨b, 0, none⟩ v).heap[b]? = some (.cells #[v] T (0, 0)) := by
  simp [World.setCell, Array.getElem?_modify, h]

set_option maxHeartbeats 1500000 in
theorem changeBack_any (S : Nat → Prop) (vn : Value) (ns : List Nd) (n : Int) (name s : ByteArray) (w : World) (hD : DocV S w vn ns) (hnm : name.size ≤ maxLen) (hsm : s.size ≤ maxLen) :
    Calls Try.prog 5 #[.agg #[vn], .int .i64 n, .string name, .string s] w fun e w' => e = .returned (.bool true) ∧ Below w.heap.size w w' := by
  obtain ⟨na, nc, rfl, hnl, hnc⟩ := hD.nodes.shape
  have HG : Hid (∀ W, Below w.heap.size w W → Calls Try.prog 12 #[.agg #[.slice na ns.length nc]] W fun e w' => e = .returned (.bool (goodD ns)) ∧ Below W.heap.size W w') :=
    fun W hW => goodD_any S _ ns W (hD.later hW).nodes (hD.later hW).here hD.few hD.short
  have HD : Hid (DocV S w (.slice na ns.length nc) ns) := hD
  have HN : Hid (Nodes S w (.slice na ns.length nc) ns) := hD.nodes
  have HTX : Hid (TextsD ns) := hD.short
  have HP0 : Hid _ := heap_alloc_new w (.cells #[.slice na ns.length nc] 24)
  have hb0 := Below.alloc1 w (.cells #[.slice na ns.length nc] 24)
  unfold maxLen at hnc
  clear hD
  by_cases hg : goodD ns = true
  case neg =>
    have hgf : goodD ns = false := by simpa using hg
    rw [hgf] at HG
    clear hg hgf HN
    go_enter Try.func5, Try.ntmps5
    go_wp2_with fail
    refine (HG.out _ hb0).mono ?_
    rintro e w1 ⟨rfl, hb1⟩
    have hB1 := hb0.trans (hb1.mono hb0.size)
    go_wp2_with fail
    refine (chgsK_any w1).mono ?_
    rintro e w2 ⟨rfl, hb2⟩
    go_wp2_with fail
    go_ret
    exact ⟨rfl, hB1.trans (hb2.mono hB1.size)⟩
  case pos =>
    rw [hg] at HG
    by_cases hneg : n < 0
    · go_enter Try.func5, Try.ntmps5
      go_wp2_with fail
      refine (HG.out _ hb0).mono ?_
      rintro e w1 ⟨rfl, hb1⟩
      have hB1 := hb0.trans (hb1.mono hb0.size)
      go_wp2_with fail
      refine (chgsK_any w1).mono ?_
      rintro e w2 ⟨rfl, hb2⟩
      go_wp2_with fail
      go_ret
      exact ⟨rfl, hB1.trans (hb2.mono hB1.size)⟩
    · obtain ⟨m, rfl⟩ := Int.eq_ofNat_of_zero_le (by omega : 0 ≤ n)
      by_cases hbig : ns.length ≤ m
      · have hbi : (ns.length : Int) ≤ (m : Int) := by omega
        go_enter Try.func5, Try.ntmps5
        go_wp2_with fail
        refine (HG.out _ hb0).mono ?_
        rintro e w1 ⟨rfl, hb1⟩
        have hB1 := hb0.trans (hb1.mono hb0.size)
        have x1 : w1.cell? ⟨w.heap.size, 0, none⟩ = some (.slice na ns.length nc) := by rw [Lib.cell_of_heap ((hb1.block _ (blk_lt HP0.out)).trans HP0.out)]; rfl
        go_wp2_with fail
        refine (chgsK_any w1).mono ?_
        rintro e w2 ⟨rfl, hb2⟩
        go_wp2_with fail
        go_ret
        exact ⟨rfl, hB1.trans (hb2.mono hB1.size)⟩
      · have hlt : m < ns.length := by omega
        have hlti : (m : Int) < (ns.length : Int) := by omega
        have hnb : ¬ ((ns.length : Int) ≤ (m : Int)) := by omega
        obtain ⟨x, hx⟩ : ∃ x, ns[m]? = some x := ⟨ns[m], by simp [hlt]⟩
        have HX : Hid (ns[m]? = some x) := hx
        have HGG : Hid (goodD ns = true) := hg
        clear hx hg
        cases htx : x.text with
        | true =>
          go_enter Try.func5, Try.ntmps5
          go_wp2_with fail
          refine (HG.out _ hb0).mono ?_
          rintro e w1 ⟨rfl, hb1⟩
          have hB1 := hb0.trans (hb1.mono hb0.size)
          have x1 : w1.cell? ⟨w.heap.size, 0, none⟩ = some (.slice na ns.length nc) := by rw [Lib.cell_of_heap ((hb1.block _ (blk_lt HP0.out)).trans HP0.out)]; rfl
          obtain ⟨b, o, c, va, vk, hv, _, _, _, _, p0, _⟩ := (Nodes.later HN.out hB1).at HX.out
          injection hv with hv _ hvc
          subst hv hvc
          rw [htx] at p0
          go_wp2_with fail
          refine (chgsK_any w1).mono ?_
          rintro e w2 ⟨rfl, hb2⟩
          go_wp2_with fail
          go_ret
          exact ⟨rfl, hB1.trans (hb2.mono hB1.size)⟩
        | false =>
          go_enter Try.func5, Try.ntmps5
          go_wp2_with fail
          refine (HG.out _ hb0).mono ?_
          rintro e w1 ⟨rfl, hb1⟩
          have hB1 := hb0.trans (hb1.mono hb0.size)
          have HP1 : Hid _ := (hb1.block _ (blk_lt HP0.out)).trans HP0.out
          have x1 : w1.cell? ⟨w.heap.size, 0, none⟩ = some (.slice na ns.length nc) := by rw [Lib.cell_of_heap HP1.out]; rfl
          obtain ⟨b, o, c, va, vk, hv, _, _, _, _, p0, _⟩ := (Nodes.later HN.out hB1).at HX.out
          injection hv with hv _ hvc
          subst hv hvc
          rw [htx] at p0
          clear hb1 hb0 HP0 HG
          go_wp2_with fail
          refine (applyRen_any (m : Int) name (HD.out.later hB1) hnm rfl).mono ?_
          rintro e w2 ⟨a2, c2, rfl, hD2, hc2, hb2⟩
          have hB2 := hB1.trans (hb2.mono hB1.size)
          have HP2 : Hid _ := (hb2.block _ (blk_lt HP1.out)).trans HP1.out
          have hb3 := Below.alloc1 w2 (.cells #[.slice a2 (applyD ns [opRen m name]).length c2] 24)
          have HY3 : Hid _ := heap_alloc_new w2 (.cells #[.slice a2 (applyD ns [opRen m name]).length c2] 24)
          have hB3 := hB2.trans (hb3.mono hB2.size)
          have HP3 : Hid _ := (hb3.block _ (blk_lt HP2.out)).trans HP2.out
          have HD3 : Hid _ := hD2.later hb3
          have hPw : w.heap.size < w2.heap.size := blk_lt HP2.out
          clear hb2 hD2 HP2 HP1 x1 p0
          have hsx : x.s.size ≤ maxLen := (HTX.out x (List.mem_of_getElem? HX.out)).1
          obtain ⟨E1, hE1⟩ : ∃ E, applyE ns [opRen m name] = E := ⟨_, rfl⟩
          rw [hE1]
          go_wp2_with fail
          generalize w2.alloc (.cells #[.slice a2 (applyD ns [opRen m name]).length c2] 24) = W3 at *
          generalize hD1 : applyD ns [opRen m name] = D1 at *
          have HC : Hid (∀ W, Below W3.heap.size W3 W → Below W3.heap.size W3 W ∧ W.cell? ⟨w.heap.size, 0, none⟩ = some (.slice (some ⟨b, o, none⟩) ns.length nc) ∧ W.cell? ⟨w2.heap.size, 0, none⟩ = some (.slice a2 D1.length c2) ∧ W.cell? ⟨b, o + m * 5 + 1, none⟩ = some (.string x.s)) := by
            intro W hW
            refine ⟨hW, ?_, ?_, ?_⟩
            · rw [Lib.cell_of_heap ((hW.block _ (blk_lt HP3.out)).trans HP3.out)]; rfl
            · rw [Lib.cell_of_heap ((hW.block _ (blk_lt HY3.out)).trans HY3.out)]; rfl
            · obtain ⟨b', o', c', va', vk', hv', _, _, _, _, _, p1', _⟩ := (Nodes.later HN.out (hB3.trans (hW.mono hB3.size))).at HX.out
              injection hv' with hv' _ _
              injection hv' with hv'
              injection hv' with hv1 hv2
              subst hv1 hv2
              exact p1'
          obtain ⟨D2, hD2⟩ : ∃ D, applyD D1 [opRen m x.s] = D := ⟨_, rfl⟩
          obtain ⟨E2, hE2⟩ : ∃ E, applyE D1 [opRen m x.s] = E := ⟨_, rfl⟩
          have HR2 : Hid (∀ (W : World) (A : Nat), W.heap[A]? = some (.cells #[.int .i64 8, .int .i64 (m : Int), .slice none 0 0, .string x.s, .string ⟨#[]⟩] 30 (0, 0)) → Below W3.heap.size W3 W → Calls Try.prog 10 #[.agg #[.slice a2 D1.length c2], .slice (some ⟨A, 0, none⟩) 1 1] W fun e w' => ∃ a c, e = .returned (.tuple #[.agg #[.slice a D2.length c], .int .i64 E2]) ∧ Nodes (fun b => b < W3.heap.size ∨ b = A ∨ W.heap.size ≤ b) w' (.slice a D2.length c) D2 ∧ c ≤ maxLen ∧ Below W.heap.size W w') := by
            intro W A hA hW
            have h3 := DocV.later HD3.out hW
            have := applyAt_any (opRen m x.s) rfl hA (h3.nodes.carry (S' := fun b => b < W3.heap.size) fun b hb => ⟨Nat.lt_of_lt_of_le hb hb3.size, rfl⟩) (fun b hb => Nat.lt_of_lt_of_le hb hW.size) h3.few h3.short ⟨hsx, Nat.zero_le _⟩
            rw [hD2, hE2] at this
            refine this.mono ?_
            rintro e w' ⟨a, c, h1, h2, h3, _, _, h4⟩
            exact ⟨a, c, h1, h2, h3, h4⟩
          have HBK : Hid (E1 = 0 → E2 = 0 ∧ D2 = ns ∧ ∃ y, D1[m]? = some y ∧ y.s = name) := by
            intro h
            have := back_ren HGG.out HX.out htx (hE1.trans h)
            rw [hD1, hD2, hE2] at this
            exact this
          clear hD1 hD2 hE1 hE2
          have hbn : Below W3.heap.size W3 W3.drew := (Below.refl _ W3).drew
          go_region_held3 (fun W : World => Below W3.heap.size W3 W ∧ W.cell? ⟨w.heap.size, 0, none⟩ = some (.slice (some ⟨b, o, none⟩) ns.length nc) ∧ W.cell? ⟨w2.heap.size, 0, none⟩ = some (.slice a2 D1.length c2) ∧ W.cell? ⟨b, o + m * 5 + 1, none⟩ = some (.string x.s))
            (first | (with_reducible exact HC.out _ hbn) | (refine HC.out _ ?_; repeat' (first | exact hbn | exact Below.refl _ W3 | refine Below.drew ?_ | refine Below.alloc ?_ ?_ _ | refine Below.setCell ?_ ?_ _ | (simp; done) | (have := hbn.size; simp; omega))))
            (first
              | (go_at_call 10; refine (Calls.mono (HR2.out _ _ (by exact heap_alloc_new W3 _) (by repeat' (first | exact Below.refl _ W3 | refine Below.drew ?_ | refine Below.alloc ?_ ?_ _ | (simp; done) | (simp; omega)))) ?_); rintro e W4 ⟨a4, c4, rfl, hD4, hc4, hb4⟩; have hbn : Below W3.heap.size W3 W4 := Below.trans (by repeat' (first | exact Below.refl _ W3 | refine Below.drew ?_ | refine Below.alloc ?_ ?_ _ | (simp; done) | (simp; omega))) (hb4.mono (by simp <;> omega)))
              | (go_at_call 10; refine (Calls.mono (HR2.out _ _ (by exact box_then W3 (.cells #[.slice none 0 0] 24) _) (by repeat' (first | exact Below.refl _ W3 | refine Below.drew ?_ | refine Below.alloc ?_ ?_ _ | (simp; done) | (simp; omega)))) ?_); rintro e W4 ⟨a4, c4, rfl, hD4, hc4, hb4⟩; have hbn : Below W3.heap.size W3 W4 := Below.trans (by repeat' (first | exact Below.refl _ W3 | refine Below.drew ?_ | refine Below.alloc ?_ ?_ _ | (simp; done) | (simp; omega))) (hb4.mono (by simp <;> omega)); have hbx := (hb4.block W3.heap.size (by simp <;> omega)).trans (then_box W3 _ (.cells #[.slice none 0 0] 24)); have qb : W4.cell? ⟨W3.heap.size, 0, none⟩ = some (.slice none 0 0) := (by rw [Lib.cell_of_heap hbx]; rfl); have qf : W4.frozen? ⟨W3.heap.size, 0, none⟩ = false := Lib.frozen_of_heap hbx _)
              | (go_at_call 10; refine (Calls.mono (HR2.out _ _ (by exact then_box W3 (.cells #[.slice none 0 0] 24) _) (by repeat' (first | exact Below.refl _ W3 | refine Below.drew ?_ | refine Below.alloc ?_ ?_ _ | (simp; done) | (simp; omega)))) ?_); rintro e W4 ⟨a4, c4, rfl, hD4, hc4, hb4⟩; have hbn : Below W3.heap.size W3 W4 := Below.trans (by repeat' (first | exact Below.refl _ W3 | refine Below.drew ?_ | refine Below.alloc ?_ ?_ _ | (simp; done) | (simp; omega))) (hb4.mono (by simp <;> omega)); have hbx := (hb4.block (W3.heap.size + 1) (by simp <;> omega)).trans (box_then W3 _ (.cells #[.slice none 0 0] 24)); have qb : W4.cell? ⟨(W3.heap.size + 1), 0, none⟩ = some (.slice none 0 0) := (by rw [Lib.cell_of_heap hbx]; rfl); have qf : W4.frozen? ⟨(W3.heap.size + 1), 0, none⟩ = false := Lib.frozen_of_heap hbx _))
          all_goals
            first
              | (change Exit.then _ _ _ _ (W4.alloc (.cells #[.slice a4 D2.length c4] 24))
                 have HZ : Hid _ := heap_alloc_new W4 (.cells #[.slice a4 D2.length c4] 24)
                 have hB5 : Below W3.heap.size W3 (W4.alloc (.cells #[.slice a4 D2.length c4] 24)) := hbn.alloc hbn.size _
                 have HN5 : Hid (Nodes (fun b => b < (W4.alloc (.cells #[.slice a4 D2.length c4] 24)).heap.size) (W4.alloc (.cells #[.slice a4 D2.length c4] 24)) (.slice a4 D2.length c4) D2) := (Nodes.later hD4 (Below.alloc1 W4 _)).bounded.carry fun b hb => ⟨hb.2, rfl⟩
                 have hbx : W3.heap.size ≤ W4.heap.size := hbn.size
                 generalize W4.alloc (.cells #[.slice a4 D2.length c4] 24) = W5 at HZ hB5 HN5 ⊢
                 generalize W4.heap.size = bx at HZ hbx ⊢)
              | (change Exit.then _ _ _ _ (W4.setCell ⟨W3.heap.size + 1, 0, none⟩ (.slice a4 D2.length c4))
                 have HZ : Hid _ := store_box (.slice a4 D2.length c4) hbx
                 have hB5 : Below W3.heap.size W3 (W4.setCell ⟨W3.heap.size + 1, 0, none⟩ (.slice a4 D2.length c4)) := hbn.setCell (p := ⟨W3.heap.size + 1, 0, none⟩) (by show _ ≤ W3.heap.size + 1; omega) _
                 have HN5 : Hid (Nodes (fun b => b < (W4.setCell ⟨W3.heap.size + 1, 0, none⟩ (.slice a4 D2.length c4)).heap.size) (W4.setCell ⟨W3.heap.size + 1, 0, none⟩ (.slice a4 D2.length c4)) (.slice a4 D2.length c4) D2) := hD4.bounded.carry fun b hb => ⟨by simpa using hb.2, blk_set_ne (by have h1 := hb.1; simp only [World.size_alloc, World.size_drew] at h1; omega)⟩
                 clear qb qf hbx
                 have hbx : W3.heap.size ≤ W3.heap.size + 1 := by omega
                 generalize W4.setCell ⟨W3.heap.size + 1, 0, none⟩ (.slice a4 D2.length c4) = W5 at HZ hB5 HN5 ⊢
                 generalize W3.heap.size + 1 = bx at HZ hbx ⊢)
              | (change Exit.then _ _ _ _ (W4.setCell ⟨W3.heap.size, 0, none⟩ (.slice a4 D2.length c4))
                 have HZ : Hid _ := store_box (.slice a4 D2.length c4) hbx
                 have hB5 : Below W3.heap.size W3 (W4.setCell ⟨W3.heap.size, 0, none⟩ (.slice a4 D2.length c4)) := hbn.setCell (p := ⟨W3.heap.size, 0, none⟩) (Nat.le_refl _) _
                 have HN5 : Hid (Nodes (fun b => b < (W4.setCell ⟨W3.heap.size, 0, none⟩ (.slice a4 D2.length c4)).heap.size) (W4.setCell ⟨W3.heap.size, 0, none⟩ (.slice a4 D2.length c4)) (.slice a4 D2.length c4) D2) := hD4.bounded.carry fun b hb => ⟨by simpa using hb.2, blk_set_ne (by have h1 := hb.1; simp only [World.size_alloc, World.size_drew] at h1; omega)⟩
                 clear qb qf hbx
                 obtain ⟨bx, hbe⟩ : ∃ bx, bx = W3.heap.size := ⟨_, rfl⟩
                 have hbx : W3.heap.size ≤ bx := by omega
                 generalize W4.setCell ⟨W3.heap.size, 0, none⟩ (.slice a4 D2.length c4) = W5 at HZ hB5 HN5 ⊢
                 rw [← hbe] at HZ
                 rw [← hbe]
                 clear hbe)
            clear hb4 hD4 hbn HR2
            have hB5w : Below w.heap.size w W5 := hB3.trans (hB5.mono hB3.size)
            have HP5 : Hid _ := (hB5.block _ (blk_lt HP3.out)).trans HP3.out
            have HY5 : Hid _ := (hB5.block _ (blk_lt HY3.out)).trans HY3.out
            have z5 : W5.cell? ⟨bx, 0, none⟩ = some (.slice a4 D2.length c4) := by rw [Lib.cell_of_heap HZ.out]; rfl
            have p5 : W5.cell? ⟨w.heap.size, 0, none⟩ = some (.slice (some ⟨b, o, none⟩) ns.length nc) := by rw [Lib.cell_of_heap HP5.out]; rfl
            have hyx : w2.heap.size < bx := Nat.lt_of_lt_of_le (blk_lt HY3.out) hbx
            obtain ⟨bA, oA, cA, vaA, vkA, hvA, _, _, _, hblA, _, _, pA2, _, _, hAtt, _⟩ := (Nodes.later HN.out hB5w).at HX.out
            injection hvA with hvA hvAl hvAc
            injection hvA with hvA
            injection hvA with hvA1 hvA2
            subst hvA1 hvA2 hvAc
            clear hvAl
            obtain ⟨aa, ac, rfl⟩ := hAtt.shape
            have HAT : Hid _ := hAtt
            clear hAtt
            have tail : ∃ W6 : World, Below W5.heap.size W5 W6 := ⟨W5, Below.refl _ _⟩
            clear tail
            rcases Classical.em (E1 = 0) with hz1 | hz1
            subst hz1
            obtain ⟨hz2, hz3, y, hy, hyn⟩ := HBK.out rfl
            replace hz3 := hz3.symm
            subst hz2 hz3
            obtain ⟨b6, o6, c6, va6, vk6, hv6, _, _, _, hbl6, _, y1, _⟩ := (Nodes.later (DocV.nodes HD3.out) hB5).at hy
            injection hv6 with hv6 hv6l hv6c
            subst hv6 hv6c
            clear hv6l
            rw [hyn] at y1
            have hmD : (m : Int) < (D1.length : Int) := by have := lt_of_some hy; omega
            clear HBK hy
            go_wp2_with fail
            refine (sameDoc_any _ S _ _ ns _ HN5.out (Nodes.later HN.out hB5w)).mono ?_
            rintro e W6 ⟨rfl, hb6⟩
            have y6 : W6.cell? ⟨w2.heap.size, 0, none⟩ = some (.slice (some ⟨b6, o6, none⟩) D1.length c2) := by rw [Lib.cell_of_heap ((hb6.block _ (blk_lt HY5.out)).trans HY5.out)]; rfl
            have y61 := (hb6.cell (p := ⟨b6, o6 + m * 5 + 1, none⟩) hbl6).trans y1
            have p6 := (hb6.cell (p := ⟨w.heap.size, 0, none⟩) (blk_lt HP5.out)).trans p5
            have pA6 := (hb6.cell (p := ⟨b, o + m * 5 + 2, none⟩) hblA).trans pA2
            have hB6w := hB5w.trans (hb6.mono hB5w.size)
            have HAT6 : Hid _ := Attrs.later HAT.out hb6
            have HP6 : Hid _ := (hb6.block _ (blk_lt HP5.out)).trans HP5.out
            obtain ⟨v9, HY6⟩ : ∃ v9, Hid (W6.heap[w2.heap.size]? = some (.cells #[v9] 24 (0, 0))) := ⟨_, (hb6.block _ (blk_lt HY5.out)).trans HY5.out⟩
            obtain ⟨v11, HZ6⟩ : ∃ v11, Hid (W6.heap[bx]? = some (.cells #[v11] 24 (0, 0))) := ⟨_, (hb6.block _ (blk_lt HZ.out)).trans HZ.out⟩
            clear hb6 y1 z5 p5 pA2 HN5 HP5 HY5 HZ HAT
            unfold maxLen at hc2
            go_wp2_with fail
            clear y6 y61 hyn hmD hbl6
            rotate_left
            have hB6w := hB5w
            have HAT6 : Hid _ := HAT.out
            have HP6 : Hid _ := HP5.out
            obtain ⟨v9, HY6⟩ : ∃ v9, Hid (W5.heap[w2.heap.size]? = some (.cells #[v9] 24 (0, 0))) := ⟨_, HY5.out⟩
            obtain ⟨v11, HZ6⟩ : ∃ v11, Hid (W5.heap[bx]? = some (.cells #[v11] 24 (0, 0))) := ⟨_, HZ.out⟩
            have p6 := p5
            have pA6 := pA2
            clear HBK z5 HN5 HP5 HY5 HZ HAT p5 pA2
            have hz1b : (E1 == 0) = false := by simpa using hz1
            go_wp2_with fail
            clear hz1 hz1b
            clear hB5w hB5
            generalize W5 = W6 at *
            rotate_left
            all_goals
              clear HD3 HC HY3 HP3 hsx hb3
              have HSX : Hid (∀ b, S b → b < w.heap.size) := HD.out.here
              go_loopg [90] x.attrs.length (fun g i wr => ∃ j : Nat, j + g = x.attrs.length ∧ i = .int .i64 j ∧ (∀ y ∈ x.attrs.take j, y.1 ≠ name) ∧ Below W6.heap.size W6 wr)
              case atStart => exact ⟨0, by omega, rfl, by simp, Below.refl _ _⟩
              case round =>
                obtain ⟨j, hj, rfl, hno, hB⟩ := hrel
                have HNO : Hid _ := hno
                clear hno
                have hBw : Below w.heap.size w wr := hB6w.trans (hB.mono hB6w.size)
                by_cases hjl : j < x.attrs.length
                · have hjli : (j : Int) < (x.attrs.length : Int) := by omega
                  obtain ⟨y, hy⟩ : ∃ y, x.attrs[j]? = some y := ⟨x.attrs[j], by simp [hjl]⟩
                  obtain ⟨z1, c1, hw1, _, hm1, r1⟩ := Attrs.later HAT6.out hB
                  injection hw1 with hw1 hw1l hw1c
                  subst hw1 hw1c
                  clear hw1l
                  obtain ⟨g1, m1, rfl, _, t1⟩ := r1 (by intro e; rw [e] at hjl; simp at hjl)
                  obtain ⟨i0, i1⟩ := t1 j y hy
                  unfold maxLen at hm1
                  have HTJ : Hid (x.attrs.take (j + 1) = x.attrs.take j ++ [y]) := by
                    show _ = _
                    rw [List.take_succ_eq_append_getElem hjl]; congr 2; simpa [hjl] using hy
                  clear t1 r1 hy
                  have HB1 : Hid _ := hB.alloc hB.size (.cells #[.string y.1, .string y.2] 44)
                  have HBw1 : Hid _ := hBw.alloc hBw.size (.cells #[.string y.1, .string y.2] 44)
                  by_cases hye : y.1 = name
                  · have hq : (y.1.toList == name.toList) = true := by rw [hye]; simp
                    clear hye
                    go_wp2_with fail
                    refine (chgsK_any _).mono ?_
                    rintro e w7 ⟨rfl, hb7⟩
                    go_wp2_with fail
                    go_ret
                    exact ⟨rfl, HBw1.out.trans (hb7.mono HBw1.out.size)⟩
                  · have hq : (y.1.toList == name.toList) = false := bytes_ne hye
                    have HYE : Hid _ := hye
                    clear hye
                    go_wp2_with fail
                    go_roundg (x.attrs.length - (j + 1))
                    case measure => omega
                    case rel =>
                      refine ⟨j + 1, by omega, by go_num, ?_, HB1.out⟩
                      rw [HTJ.out]
                      intro u hu
                      rcases List.mem_append.1 hu with hu | hu
                      · exact HNO.out u hu
                      · rw [List.mem_singleton.1 hu]; exact HYE.out
                · have hjli : ¬ ((j : Int) < (x.attrs.length : Int)) := by omega
                  have hall : ∀ y ∈ x.attrs, y.1 ≠ name := by
                    have := HNO.out
                    rwa [List.take_of_length_le (by omega)] at this
                  obtain ⟨D3, hD3⟩ : ∃ D, applyD ns [opSet m name s] = D := ⟨_, rfl⟩
                  obtain ⟨E3, hE3⟩ : ∃ E, applyE ns [opSet m name s] = E := ⟨_, rfl⟩
                  obtain ⟨D4, hD4⟩ : ∃ D, applyD D3 [opDrop m name] = D := ⟨_, rfl⟩
                  obtain ⟨E4, hE4⟩ : ∃ E, applyE D3 [opDrop m name] = E := ⟨_, rfl⟩
                  have HBK : Hid (E3 = 0 → E4 = 0 ∧ D4 = ns) := by
                    intro h
                    have := back_set HGG.out HX.out htx hall (hE3.trans h)
                    rw [hD3, hD4, hE4] at this
                    exact this
                  have HR3 : Hid (∀ (W : World) (A : Nat), W.heap[A]? = some (.cells #[.int .i64 9, .int .i64 (m : Int), .slice none 0 0, .string name, .string s] 30 (0, 0)) → Below w.heap.size w W → Calls Try.prog 10 #[.agg #[.slice (some ⟨b, o, none⟩) ns.length nc], .slice (some ⟨A, 0, none⟩) 1 1] W fun e w' => ∃ a c, e = .returned (.tuple #[.agg #[.slice a D3.length c], .int .i64 E3]) ∧ Nodes (fun b => S b ∨ b = A ∨ W.heap.size ≤ b) w' (.slice a D3.length c) D3 ∧ c ≤ maxLen ∧ TextsD D3 ∧ (∀ x ∈ D3, x.attrs.length ≤ 4398046511104) ∧ Below W.heap.size W w') := by
                    intro W A hA hW
                    have h3 := HD.out.later hW
                    have := applyAt_any (opSet m name s) rfl hA h3.nodes h3.here h3.few h3.short ⟨hnm, hsm⟩
                    rw [hD3, hE3] at this
                    exact this
                  have HR4 : Hid (∀ (T : Nat → Prop) (v : Value) (W : World) (A : Nat), W.heap[A]? = some (.cells #[.int .i64 10, .int .i64 (m : Int), .slice none 0 0, .string name, .string ⟨#[]⟩] 30 (0, 0)) → Nodes T W v D3 → (∀ b, T b → b < W.heap.size) → TextsD D3 → (∀ x ∈ D3, x.attrs.length ≤ 4398046511104) → Calls Try.prog 10 #[.agg #[v], .slice (some ⟨A, 0, none⟩) 1 1] W fun e w' => ∃ a c, e = .returned (.tuple #[.agg #[.slice a D4.length c], .int .i64 E4]) ∧ Nodes (fun b => T b ∨ b = A ∨ W.heap.size ≤ b) w' (.slice a D4.length c) D4 ∧ c ≤ maxLen ∧ TextsD D4 ∧ (∀ x ∈ D4, x.attrs.length ≤ 4398046511104) ∧ Below W.heap.size W w') := by
                    intro T v W A hA hN hT hx hf
                    have := applyAt_any (opDrop m name) rfl hA hN hT hf hx ⟨hnm, Nat.zero_le _⟩
                    rw [hD4, hE4] at this
                    exact this
                  clear hD3 hE3 hD4 hE4 hall HNO
                  have HPr : Hid _ := (hB.block _ (blk_lt HP6.out)).trans HP6.out
                  have HYr : Hid _ := (hB.block _ (blk_lt HY6.out)).trans HY6.out
                  have HZr : Hid _ := (hB.block _ (blk_lt HZ6.out)).trans HZ6.out
                  have pr : wr.cell? ⟨w.heap.size, 0, none⟩ = some (.slice (some ⟨b, o, none⟩) ns.length nc) := by rw [Lib.cell_of_heap HPr.out]; rfl
                  have hs1 : w.heap.size ≤ w2.heap.size := hB2.size
                  have hs2 : w2.heap.size < wr.heap.size := blk_lt HYr.out
                  have hs3 : bx < wr.heap.size := blk_lt HZr.out
                  have HBA : Hid _ := hBw.alloc hBw.size (.cells #[.int .i64 9, .int .i64 (m : Int), .slice none 0 0, .string name, .string s] 30)
                  clear p6 pA6
                  go_wp2_with fail
                  refine (HR3.out _ _ (heap_alloc_new wr _) HBA.out).mono ?_
                  rintro e w7 ⟨a7, c7, rfl, hN7, hc7, hx7, hf7, hb7⟩
                  have hb7' : Below wr.heap.size wr w7 := (Below.alloc1 wr _).trans (hb7.mono (by simp))
                  have HY7 : Hid _ := (hb7'.block _ hs2).trans HYr.out
                  have y7 : w7.cell? ⟨w2.heap.size, 0, none⟩ = some v9 := by rw [Lib.cell_of_heap HY7.out]; rfl
                  have f7 : w7.frozen? ⟨w2.heap.size, 0, none⟩ = false := Lib.frozen_of_heap HY7.out _
                  have HZ7 : Hid _ := (hb7'.block _ hs3).trans HZr.out
                  have HP7 : Hid _ := (hb7'.block _ (blk_lt HPr.out)).trans HPr.out
                  have y8 : (w7.setCell ⟨w2.heap.size, 0, none⟩ (.slice a7 D3.length c7)).cell? ⟨w2.heap.size, 0, none⟩ = some (.slice a7 D3.length c7) := cell_set (by rw [y7]; rfl)
                  have HN8 : Hid (Nodes (fun b => (S b ∨ b = wr.heap.size ∨ wr.heap.size + 1 ≤ b) ∧ b < (w7.setCell ⟨w2.heap.size, 0, none⟩ (.slice a7 D3.length c7)).heap.size) (w7.setCell ⟨w2.heap.size, 0, none⟩ (.slice a7 D3.length c7)) (.slice a7 D3.length c7) D3) := hN7.bounded.carry fun bb hb => by
                    have h1 := hb.1
                    simp only [World.size_alloc] at h1
                    refine ⟨⟨h1, by simpa using hb.2⟩, blk_set_ne ?_⟩
                    rcases h1 with h1 | h1 | h1
                    · have := HSX.out bb h1; omega
                    · omega
                    · omega
                  have HZ8 : Hid ((w7.setCell ⟨w2.heap.size, 0, none⟩ (.slice a7 D3.length c7)).heap[bx]? = _) := (blk_set_ne (by omega)).trans HZ7.out
                  have HP8 : Hid ((w7.setCell ⟨w2.heap.size, 0, none⟩ (.slice a7 D3.length c7)).heap[w.heap.size]? = _) := (blk_set_ne (by omega)).trans HP7.out
                  have hB8 : Below w.heap.size w (w7.setCell ⟨w2.heap.size, 0, none⟩ (.slice a7 D3.length c7)) := (hBw.trans (hb7'.mono hBw.size)).setCell (p := ⟨w2.heap.size, 0, none⟩) hs1 _
                  have hsz8 : wr.heap.size < (w7.setCell ⟨w2.heap.size, 0, none⟩ (.slice a7 D3.length c7)).heap.size := by have := hb7.size; simp at this ⊢; omega
                  have HX7 : Hid _ := hx7
                  have HF7 : Hid _ := hf7
                  have hsz7 : (w7.setCell ⟨w2.heap.size, 0, none⟩ (.slice a7 D3.length c7)).heap.size = w7.heap.size := by simp
                  have HSZ7 : Hid _ := hsz7
                  have HSZ8 : Hid _ := hsz8
                  clear hN7 hb7 hb7' HY7 HZ7 HP7 HR3 HBA hx7 hf7 hsz7 hsz8
                  go_wp2_with fail
                  generalize w7.setCell ⟨w2.heap.size, 0, none⟩ (.slice a7 D3.length c7) = W8 at *
                  have hA8 : (W8.alloc (.cells #[.int .i64 10, .int .i64 (m : Int), .slice none 0 0, .string name, .string ⟨#[]⟩] 30)).heap[w7.heap.size]? = some (.cells #[.int .i64 10, .int .i64 (m : Int), .slice none 0 0, .string name, .string ⟨#[]⟩] 30 (0, 0)) := by rw [← HSZ7.out]; exact heap_alloc_new _ _
                  have hb8 := Below.alloc1 W8 (.cells #[.int .i64 10, .int .i64 (m : Int), .slice none 0 0, .string name, .string ⟨#[]⟩] 30)
                  refine (HR4.out _ _ _ _ hA8 (Nodes.later HN8.out hb8) (fun bb hb => Nat.lt_of_lt_of_le hb.2 hb8.size) HX7.out HF7.out).mono ?_
                  rintro e w9 ⟨a9, c9, rfl, hN9, hc9, _, _, hb9⟩
                  have hb9' : Below W8.heap.size W8 w9 := hb8.trans (hb9.mono hb8.size)
                  have HZ9 : Hid _ := (hb9'.block _ (blk_lt HZ8.out)).trans HZ8.out
                  have HP9 : Hid _ := (hb9'.block _ (blk_lt HP8.out)).trans HP8.out
                  have z9 : w9.cell? ⟨bx, 0, none⟩ = some v11 := by rw [Lib.cell_of_heap HZ9.out]; rfl
                  have f9 : w9.frozen? ⟨bx, 0, none⟩ = false := Lib.frozen_of_heap HZ9.out _
                  have z10 : (w9.setCell ⟨bx, 0, none⟩ (.slice a9 D4.length c9)).cell? ⟨bx, 0, none⟩ = some (.slice a9 D4.length c9) := cell_set (by rw [z9]; rfl)
                  have HP10 : Hid ((w9.setCell ⟨bx, 0, none⟩ (.slice a9 D4.length c9)).heap[w.heap.size]? = _) := (blk_set_ne (by omega)).trans HP9.out
                  have p10 : (w9.setCell ⟨bx, 0, none⟩ (.slice a9 D4.length c9)).cell? ⟨w.heap.size, 0, none⟩ = some (.slice (some ⟨b, o, none⟩) ns.length nc) := by rw [Lib.cell_of_heap HP10.out]; rfl
                  have hB10 : Below w.heap.size w (w9.setCell ⟨bx, 0, none⟩ (.slice a9 D4.length c9)) := (hB8.trans (hb9'.mono hB8.size)).setCell (p := ⟨bx, 0, none⟩) (by show _ ≤ bx; omega) _
                  have HN10 : Hid (Nodes (fun _ => True) (w9.setCell ⟨bx, 0, none⟩ (.slice a9 D4.length c9)) (.slice a9 D4.length c9) D4) := hN9.carry fun bb hb => by
                    refine ⟨trivial, blk_set_ne ?_⟩
                    have hq8 := HSZ8.out
                    have hq7 := HSZ7.out
                    rcases hb with hb | hb | hb
                    · rcases hb.1 with hb | hb | hb
                      · have := HSX.out bb hb; omega
                      · omega
                      · omega
                    · omega
                    · simp only [World.size_alloc] at hb; omega
                  clear hN9 hb9 hb9' HZ9 HP9 hA8 hb8 HN8 HZ8 HP8 y8 y7 f7
                  by_cases hz3 : E3 = 0
                  · subst hz3
                    obtain ⟨rfl, hz4⟩ := HBK.out rfl
                    replace hz4 := hz4.symm
                    subst hz4
                    clear HBK
                    go_wp2_with fail
                    refine (sameDoc_any _ S _ _ ns _ HN10.out (Nodes.later HN.out hB10)).mono ?_
                    rintro e w11 ⟨rfl, hb11⟩
                    have hB11 := hB10.trans (hb11.mono hB10.size)
                    go_wp2_with fail
                    refine (chgsK_any _).mono ?_
                    rintro e w12 ⟨rfl, hb12⟩
                    go_wp2_with fail
                    go_ret
                    exact ⟨rfl, hB11.trans (hb12.mono hB11.size)⟩
                  · have hz3b : (E3 == 0) = false := by simpa using hz3
                    clear HBK
                    go_wp2_with fail
                    refine (chgsK_any _).mono ?_
                    rintro e w12 ⟨rfl, hb12⟩
                    go_wp2_with fail
                    go_ret
                    exact ⟨rfl, hB10.trans (hb12.mono hB10.size)⟩
end Go.Proofs.Ytlchbhlmbphkpaa

