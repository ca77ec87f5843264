/- Bundled: BuildF PrintM Copy Grow. What each says stands ahead of it. -/
import Derived.Test.YtmogemjikjbnfaaGreatDoorBundle03
import Derived.Test.YtmogemjikjbnfaaGreatDoorBundle05
import Derived.Deep.RegionLaw
import Derived.Maps.AppendAt
/- strings.Builder: WriteString and WriteByte, with what they leave alone: every older block but the Builder's and its row. Condition: less than 2^47 letters. -/
namespace Go.Proofs.YtmogemjikjbnfaaGreatDoor
open Go.ChangeShapes Go.WideShapes Go.ChangeAt Go.RowKit
set_option maxRecDepth 100000

/-- A Builder at block b whose bytes lie at the slice value v. -/
structure Bd (B b : Nat) (bs : List Value) (v : Value) (w : World) : Prop where
  base : B ≤ b
  held : ∃ p, (p = .pointer none ∨ p = .pointer (some ⟨b, 0, none⟩)) ∧ w.heap[b]? = some (.cells #[p, v] 40 (0, 0))
  own : w.ownsRow B 5 1 v bs.length bs
  ne : v.ownBlock ≠ some b

theorem Bd.is {B b : Nat} {bs : List Value} {v : Value} {w : World} (h : Bd B b bs v w) : Lib.IsBuilder 40 5 B b bs w := by
  obtain ⟨p, hp, hb⟩ := h.held
  rcases hp with rfl | rfl
  · exact Or.inl ⟨h.base, v, hb, h.own, h.ne⟩
  · exact Or.inr ⟨h.base, v, hb, h.own, h.ne⟩

theorem Bd.lt {B b : Nat} {bs : List Value} {v : Value} {w : World} (h : Bd B b bs v w) : b < w.heap.size := by
  obtain ⟨p, hp, hb⟩ := h.held
  rcases Nat.lt_or_ge b w.heap.size with h' | h'
  · exact h'
  · simp [Array.getElem?_eq_none h'] at hb

theorem Bd.rowLt {B b : Nat} {bs : List Value} {v : Value} {w : World} (h : Bd B b bs v w) : ∀ x, v.ownBlock = some x → x < w.heap.size := fun x hx => (h.own.lt x hx).2

/-- What a call that writes into a Builder leaves alone. -/
structure BFr (B b : Nat) (v : Value) (w : World) (v' : Value) (w' : World) : Prop where
  below : Below B w w'
  row : v'.ownBlock = v.ownBlock ∨ ∃ g, v'.ownBlock = some g ∧ w.heap.size ≤ g
  frame : ∀ x, x < w.heap.size → x ≠ b → v.ownBlock ≠ some x → w'.heap[x]? = w.heap[x]?

theorem BFr.refl (B b : Nat) (v : Value) (w : World) : BFr B b v w v w := ⟨Below.refl _ _, Or.inl rfl, fun _ _ _ _ => rfl⟩

theorem BFr.free {B b : Nat} {v v' : Value} {w w' : World} (h : BFr B b v w v' w') {x : Nat} (hx : x < w.heap.size) (hv : v.ownBlock ≠ some x) : v'.ownBlock ≠ some x := by
  intro e
  rcases h.row with h1 | ⟨g, h1, h2⟩
  · exact hv (h1.symm.trans e)
  · rw [h1] at e; cases e; omega

theorem BFr.trans {B b : Nat} {v v1 v2 : Value} {w w1 w2 : World} (h : BFr B b v w v1 w1) (k : BFr B b v1 w1 v2 w2) : BFr B b v w v2 w2 := by
  have hs := h.below.size
  refine ⟨h.below.trans k.below, ?_, fun x hx h1 h2 => ?_⟩
  · rcases k.row with k1 | ⟨g, k1, k2⟩
    · rw [k1]; exact h.row
    · exact Or.inr ⟨g, k1, by omega⟩
  · rw [k.frame x (by omega) h1 (h.free hx h2), h.frame x hx h1 h2]

theorem BFr.later {B b : Nat} {v : Value} {w w' : World} (hB : B ≤ w.heap.size) (h : Below w.heap.size w w') : BFr B b v w v w' := ⟨h.mono hB, Or.inl rfl, fun x hx _ _ => h.block x hx⟩

theorem Bd.later {B b : Nat} {bs : List Value} {v : Value} {w w' : World} (h : Bd B b bs v w) (hb : Below w.heap.size w w') : Bd B b bs v w' := by
  obtain ⟨p, hp, hh⟩ := h.held
  exact ⟨h.base, ⟨p, hp, by rw [hb.block b h.lt]; exact hh⟩, ownsRow_heap h.own (fun x hx => hb.block x (h.rowLt x hx)), h.ne⟩

theorem check_F (B b : Nat) (bs : List Value) (v : Value) (w : World) (h : Bd B b bs v w) :
    Calls Tryz.prog 35 #[.pointer (some ⟨b, 0, none⟩)] w fun e w' => e = .returned (.tuple #[]) ∧ w'.heap[b]? = some (.cells #[.pointer (some ⟨b, 0, none⟩), v] 40 (0, 0)) ∧ w'.ownsRow B 5 1 v bs.length bs ∧ BFr B b v w v w' := by
  obtain ⟨p, hp, hh⟩ := h.held
  rcases hp with rfl | rfl
  · have hat : Lib.BuilderAt 40 5 B b (.pointer none) bs w := ⟨h.base, v, hh, h.own, h.ne⟩
    refine (copyCheck_fresh b w hat.cell0 hat.shape hat.frozen0).mono ?_
    rintro e w' ⟨rfl, rfl⟩
    refine ⟨rfl, by simp [World.setCell, Array.getElem?_modify, hh], ownsRow_heap h.own (fun x hx => Below.heap_setCell _ _ _ _ (fun e => h.ne (by rw [hx, e]))), (Below.refl B w).setCell (p := ⟨b, 0, none⟩) h.base _, Or.inl rfl, fun x hx h1 _ => Below.heap_setCell _ _ _ _ h1⟩
  · have hat : Lib.BuilderAt 40 5 B b (.pointer (some ⟨b, 0, none⟩)) bs w := ⟨h.base, v, hh, h.own, h.ne⟩
    refine (copyCheck_used b w hat.cell0).mono ?_
    rintro e w' ⟨rfl, rfl⟩
    exact ⟨rfl, hh, h.own, BFr.refl _ _ _ _⟩

/-- Where the row lies behind the append of a string: where it lay, or in a new block. -/
theorem str_at {w : World} {B : Nat} {ty : TypeId} {i : TypeInfo} (hi : Tryz.prog.info? 5 = some i) (hz : i.zero = some (.int .u8 0)) (hz1 : i.size = 1) (hz2 : i.bytes = 1) {v v' : Value} {n : Nat} {xs : List Value} {s : ByteArray} {w' : World} (hown : w.ownsRow B 5 1 v n xs)
    (hlen : n + s.size ≤ 140737488355328) (hr : (Builtin.append_ #[38, 9] ty #[v, .string s]).run Tryz.prog w = .ok v' w') (h0 : v' = .slice none 0 0 ↔ v = .slice none 0 0 ∧ s.size = 0) :
    v'.ownBlock = v.ownBlock ∨ v'.ownBlock = some w.heap.size := by
  have hxl : xs.length = n := by simpa using hown.1
  rcases hown.2 with ⟨rfl, rfl⟩ | ⟨g, cap, cur, rfl, hbg, hg, hnc, hcm, hcs, htake⟩
  · by_cases hm : s.size = 0
    · left; rw [h0.2 ⟨rfl, hm⟩]
    · have h1 := run_append_nil_string (P := Tryz.prog) w 38 9 ty 5 i (.int .u8 0) Tryz.underlying38 Tryz.underlying9 hi hz s (by omega) (by omega) (by rw [hz2]; omega)
      rw [hr] at h1
      injection h1 with h1 _
      right; rw [h1]; rfl
  · by_cases hroom : n + s.size ≤ cap
    · have h1 := Lib.run_append_room_string (P := Tryz.prog) w 38 9 ty 5 i Tryz.underlying38 Tryz.underlying9 hi hz1 g n cap cur hg s hroom (by omega)
      rw [hr] at h1
      injection h1 with h1 _
      left; rw [h1]; rfl
    · have h1 := Lib.run_append_grow_string (P := Tryz.prog) w 38 9 ty 5 i (.int .u8 0) Tryz.underlying38 Tryz.underlying9 hi hz ⟨g, 0, none⟩ n cap xs (by rw [hz1]; simpa using hxl) (hown.cells (g := g) rfl) s (by omega) (by omega) (by rw [hz2]; exact growslice_fits (by omega) (by omega))
      rw [hr] at h1
      injection h1 with h1 _
      right; rw [h1]; rfl

theorem wp_append_str {ops : Array Oper} {rest : List Oper} {o : Oper} {a : Act} {w : World} {Q : Exit → Act → World → Prop} (hgd : o.guard = none) (sl x : Operand) (ho : o.op = .call { callee := .builtin .append, args := #[sl, x], argTypes := #[38, 9] })
    (B : Nat) (v : Value) (n : Nat) (xs : List Value) (hs : a.eval sl = v) (hown : w.ownsRow B 5 1 v n xs) (s : ByteArray) (hx : a.eval x = .string s) (hlen : n + s.size ≤ 140737488355328) (hB : B ≤ w.heap.size)
    (h : ∀ v' w', w'.ownsRow B 5 1 v' (n + s.size) (xs ++ Lib.strCells s) → w.grownBy w' v.ownBlock → (v'.ownBlock = v.ownBlock ∨ v'.ownBlock = some w.heap.size) → wpList Tryz.prog ops Q rest (a.put o.dst v') w') : wpList Tryz.prog ops Q (o :: rest) a w := by
  obtain ⟨i0, hi, hz0, hz1, hz2⟩ := info_parts byteInfo
  refine wpList_plain hgd fun K hK => ?_
  obtain ⟨v', w', hr, h2, h3, h4⟩ := Lib.run_append_own_string (P := Tryz.prog) w B 38 9 o.type 5 i0 Tryz.underlying38 Tryz.underlying9 hi hz0 hz1 hz2 v n xs hown s (by unfold maxLen; omega) hlen hB
  have h5 := str_at hi hz0 hz1 hz2 hown hlen hr h4
  unfold Oper.wp execOp
  simp only [ho, resolve, invoke, builtin, Sem.run_bind, Sem.run_pure, Result.andThen_ok, List.map_toArray, List.map_cons, List.map_nil, hs, hx, hr]
  exact hK _ _ (h v' w' h2 h3 h5)

theorem bWrite_F (B b : Nat) (bs : List Value) (v : Value) (s : ByteArray) (w : World) (h : Bd B b bs v w) (hlen : bs.length + s.size ≤ 140737488355328) (hBw : B ≤ w.heap.size) :
    Calls Tryz.prog 24 #[.pointer (some ⟨b, 0, none⟩), .string s] w fun e w' => e = .returned (.tuple #[.int .i64 s.size, .nilIface]) ∧ ∃ v', Bd B b (bs ++ Lib.strCells s) v' w' ∧ BFr B b v w v' w' := by
  have hB := h.base
  have hne := h.ne
  go_enter Tryz.func24, Tryz.ntmps24
  go_wp2_with (go_at_call 35; refine (check_F B b bs v _ h).mono ?_)
  rintro e w1 ⟨rfl, hbk, hown, hF1⟩
  have hb1 := hF1.below
  have c0 : w1.cell? ⟨b, 0, none⟩ = some (.pointer (some ⟨b, 0, none⟩)) := by rw [Lib.cell_of_heap hbk]; rfl
  have c1 : w1.cell? ⟨b, 1, none⟩ = some v := by rw [Lib.cell_of_heap hbk]; rfl
  go_wp2_with (at_builtin; refine wp_append_str rfl _ _ rfl B _ _ _ rfl hown s rfl hlen ?c5 ?_)
  case c5 => have := hb1.size; omega
  intro v' w2 hown' hgrow hat
  have hlt : b < w1.heap.size := by
    rcases Nat.lt_or_ge b w1.heap.size with h' | h'
    · exact h'
    · simp [Array.getElem?_eq_none h'] at hbk
  have hb2 : w2.heap[b]? = some (.cells #[.pointer (some ⟨b, 0, none⟩), v] 40 (0, 0)) := by
    rw [hgrow.block b hlt (fun e => hne e.symm)]
    exact hbk
  have d0 : w2.cell? ⟨b, 0, none⟩ = some (.pointer (some ⟨b, 0, none⟩)) := by rw [Lib.cell_of_heap hb2]; rfl
  have d1 : w2.cell? ⟨b, 1, none⟩ = some v := by rw [Lib.cell_of_heap hb2]; rfl
  have f1 : w2.frozen? ⟨b, 1, none⟩ = false := Lib.frozen_of_heap hb2 1
  obtain ⟨ao, n', cap, rfl⟩ : ∃ ao n' cap, v' = .slice ao n' cap := by
    rcases hown'.2 with ⟨hv, _⟩ | ⟨g, cap, cur, hv, _⟩
    · exact ⟨_, _, _, hv⟩
    · exact ⟨_, _, _, hv⟩
  have hne' : (Value.slice ao n' cap).ownBlock ≠ some b := by
    rcases hat with h1 | h1
    · rw [h1]; exact hne
    · rw [h1]; intro e; cases e; omega
  go_wp2
  go_ret2
  refine ⟨rfl, _, ⟨hB, ⟨_, Or.inr rfl, by simp [World.setCell, Array.getElem?_modify, hb2]⟩, ?_, hne'⟩, hF1.trans ⟨?_, ?_, ?_⟩⟩
  · have e1 : (bs ++ Lib.strCells s).length = bs.length + s.size := by rw [List.length_append, Lib.strCells_length]
    rw [e1]
    exact ownsRow_heap hown' fun x hx => Below.heap_setCell _ _ _ _ (fun e => hne' (by rw [hx, e]))
  · exact ((Below.refl B w1).grown hgrow (by have := hb1.size; omega) (fun k hk => (hown.lt k hk).1)).setCell (p := ⟨b, 1, none⟩) hB _
  · rcases hat with h1 | h1
    · exact Or.inl h1
    · exact Or.inr ⟨_, h1, Nat.le_refl _⟩
  · intro x hx h1 h2
    rw [Below.heap_setCell _ _ _ _ h1, hgrow.block x hx (fun e => h2 e.symm)]

theorem bByte_F (B b : Nat) (bs : List Value) (v : Value) (c : Int) (w : World) (h : Bd B b bs v w) (hlen : bs.length + 1 ≤ 140737488355328) (hBw : B ≤ w.heap.size) :
    Calls Tryz.prog 34 #[.pointer (some ⟨b, 0, none⟩), .int .u8 c] w fun e w' => e = .returned .nilIface ∧ ∃ v', Bd B b (bs ++ [.int .u8 c]) v' w' ∧ BFr B b v w v' w' := by
  obtain ⟨i0, hi, hz0, hz1, hz2⟩ := info_parts byteInfo
  have hB := h.base
  have hne := h.ne
  go_enter Tryz.func34, Tryz.ntmps34
  go_wp2_with (go_at_call 35; refine (check_F B b bs v _ h).mono ?_)
  rintro e w1 ⟨rfl, hbk, hown, hF1⟩
  have hb1 := hF1.below
  have c0 : w1.cell? ⟨b, 0, none⟩ = some (.pointer (some ⟨b, 0, none⟩)) := by rw [Lib.cell_of_heap hbk]; rfl
  have c1 : w1.cell? ⟨b, 1, none⟩ = some v := by rw [Lib.cell_of_heap hbk]; rfl
  have hlt : b < w1.heap.size := by
    rcases Nat.lt_or_ge b w1.heap.size with h' | h'
    · exact h'
    · simp [Array.getElem?_eq_none h'] at hbk
  have hsz1 := hb1.size
  go_wp2_with (at_builtin; refine wpList_append_own_at _ rfl _ _ 38 rfl B 5 i0 _ 1 1 Tryz.underlying38 hi hz0 hz1 hz2 rfl (by decide) _ _ _ rfl (hown.alloc _) ⟨w1.heap.size, 0, none⟩ 1 1 [.int .u8 c] rfl ?c0 ?c1 ?c2 ?c3 ?c4 ?c5 ?_)
  case c0 => rfl
  case c1 => exact cell_one_new _ _ _
  case c2 => intro u hu; simp at hu; subst hu; rfl
  case c3 => unfold maxLen; omega
  case c4 => omega
  case c5 => simp; omega
  intro v' w2 hown' hgrow _ hat
  have hb2 : w2.heap[b]? = some (.cells #[.pointer (some ⟨b, 0, none⟩), v] 40 (0, 0)) := by
    rw [hgrow.block b (by simp; omega) (fun e => hne e.symm), Lib.alloc_old _ _ _ hlt]
    exact hbk
  have d0 : w2.cell? ⟨b, 0, none⟩ = some (.pointer (some ⟨b, 0, none⟩)) := by rw [Lib.cell_of_heap hb2]; rfl
  have d1 : w2.cell? ⟨b, 1, none⟩ = some v := by rw [Lib.cell_of_heap hb2]; rfl
  have f1 : w2.frozen? ⟨b, 1, none⟩ = false := Lib.frozen_of_heap hb2 1
  obtain ⟨ao, n', cap, rfl⟩ : ∃ ao n' cap, v' = .slice ao n' cap := by
    rcases hown'.2 with ⟨hv, _⟩ | ⟨g, cap, cur, hv, _⟩
    · exact ⟨_, _, _, hv⟩
    · exact ⟨_, _, _, hv⟩
  have hne' : (Value.slice ao n' cap).ownBlock ≠ some b := by
    rcases hat with h1 | h1
    · rw [h1]; exact hne
    · rw [h1]; intro e; injection e with e; omega
  go_wp2
  go_ret
  refine ⟨rfl, _, ⟨hB, ⟨_, Or.inr rfl, by simp [World.setCell, Array.getElem?_modify, hb2]⟩, ?_, hne'⟩, hF1.trans ⟨?_, ?_, ?_⟩⟩
  · have e1 : (bs ++ [Value.int .u8 c]).length = bs.length + 1 := by simp
    rw [e1]
    exact ownsRow_heap hown' fun x hx => Below.heap_setCell _ _ _ _ (fun e => hne' (by rw [hx, e]))
  · exact (((Below.refl B w1).alloc (by omega) _).grown hgrow (by simp; omega) (fun k hk => (hown.lt k hk).1)).setCell (p := ⟨b, 1, none⟩) hB _
  · rcases hat with h1 | h1
    · exact Or.inl h1
    · exact Or.inr ⟨_, h1, by simp⟩
  · intro x hx h1 h2
    rw [Below.heap_setCell _ _ _ _ h1, hgrow.block x (by simp; omega) (fun e => h2 e.symm), Lib.alloc_old _ _ _ hx]
end Go.Proofs.YtmogemjikjbnfaaGreatDoor

/- mark.printMarked: a text is written, marked, behind what was there. Condition: less than 2^40 letters. -/
namespace Go.Proofs.YtmogemjikjbnfaaGreatDoor
open Go.ChangeShapes Go.WideShapes Go.ChangeAt Go.RowKit
set_option maxRecDepth 100000

/-- The four marks as the program's variable holds them. -/
def Marks (w : World) : Prop := w.cell? ⟨0, 0, none⟩ = some (.string ⟨#[38, 108, 116, 59]⟩) ∧ w.cell? ⟨0, 1, none⟩ = some (.string ⟨#[38, 103, 116, 59]⟩) ∧
  w.cell? ⟨0, 2, none⟩ = some (.string ⟨#[38, 97, 109, 112, 59]⟩) ∧ w.cell? ⟨0, 3, none⟩ = some (.string ⟨#[38, 113, 117, 111, 116, 59]⟩)

theorem Marks.lt {w : World} (h : Marks w) : 0 < w.heap.size := World.block_lt_of_cell? w _ h.1

theorem Marks.later {w w' : World} {B : Nat} (h : Marks w) (hb : Below B w w') (hB : 0 < B) : Marks w' :=
  ⟨by rw [hb.cell (p := ⟨0, 0, none⟩) hB]; exact h.1, by rw [hb.cell (p := ⟨0, 1, none⟩) hB]; exact h.2.1,
   by rw [hb.cell (p := ⟨0, 2, none⟩) hB]; exact h.2.2.1, by rw [hb.cell (p := ⟨0, 3, none⟩) hB]; exact h.2.2.2⟩

def signsB (v : Bool) : ByteArray := ⟨(signsL v).toArray⟩

theorem take_next {s : ByteArray} {k : Nat} (h : k < s.size) : s.data.toList.take (k + 1) = s.data.toList.take k ++ [s[k]] := by
  have hl : k < s.data.toList.length := h
  rw [List.take_succ_eq_append_getElem hl]
  rfl

theorem byte_back (c : UInt8) : (c.toNat : Int).toNat.toUInt8 = c := by simp

theorem printMarked_any (v : Bool) (B b : Nat) (bs : List UInt8) (s : ByteArray) (bv : Value) (w : World) (h : Bd B b (Lib.byteCells bs) bv w) (hM : Marks w) (hgB : 0 < B) (hBw : B ≤ w.heap.size) (hlen : bs.length + 6 * s.size ≤ 1099511627776) :
    Calls Tryz.prog 23 #[.pointer (some ⟨b, 0, none⟩), .string s, .string (signsB v)] w fun e w' => e = .returned (.tuple #[]) ∧ ∃ bv', Bd B b (Lib.byteCells (bs ++ markL v s.data.toList)) bv' w' ∧ BFr B b bv w bv' w' := by
  have HH : Hid (Bd B b (Lib.byteCells bs) bv w) := h
  have HM : Hid (Marks w) := hM
  have hs : s.size ≤ 1099511627776 := by omega
  clear h hM
  go_enter Tryz.func23, Tryz.ntmps23
  go_wp2_with fail
  go_loopg [10] s.size (fun g i wr => ∃ (k : Nat) (bw : Value), k + g = s.size ∧ i = .int .i64 k ∧ Bd B b (Lib.byteCells (bs ++ markL v (s.data.toList.take k))) bw wr ∧ BFr B b bv w bw wr)
  case atStart => exact ⟨0, bv, by omega, rfl, by simpa [markL] using HH.out, BFr.refl _ _ _ _⟩
  case round =>
    obtain ⟨k, bw, hk, rfl, hI, hFr⟩ := hrel
    have hB := hFr.below
    have HI : Hid (Bd B b (Lib.byteCells (bs ++ markL v (s.data.toList.take k))) bw wr) := hI
    have hMr := HM.out.later hB hgB
    clear hI
    by_cases hlt : k < s.size
    · have hsz := hB.size
      have HL : Hid ((Lib.byteCells (bs ++ markL v (s.data.toList.take k))).length + 6 ≤ 140737488355328) := by
        show _ ≤ _
        have h1 := markL_len v (s.data.toList.take k)
        have h2 : (s.data.toList.take k).length ≤ s.size := by rw [List.length_take]; exact Nat.min_le_right _ _
        rw [Lib.byteCells_length, List.length_append]
        omega
      have HT : Hid (∀ m, markC v s[k] = m → Lib.byteCells (bs ++ markL v (s.data.toList.take (k + 1))) = Lib.byteCells (bs ++ markL v (s.data.toList.take k)) ++ Lib.byteCells m) := by
        intro m hm
        rw [take_next hlt, markL_snoc, hm, ← List.append_assoc, Lib.byteCells_append]
      have HIX := indexByte_any (signsB v) (s[k].toNat : Int) wr
      rw [byte_back, show (signsB v).data.toList = signsL v from rfl] at HIX
      obtain ⟨nx, hnx⟩ : ∃ nx, Lib.indexByte (signsL v) s[k] = nx := ⟨_, rfl⟩
      have hc := sign_cases v s[k]
      rw [hnx] at HIX hc
      have HX : Hid _ := HIX
      obtain ⟨m0, m1, m2, m3⟩ := hMr
      clear HIX hnx
      have hki : (k : Int) < (s.size : Int) := by omega
      rcases hc with ⟨rfl, hm⟩ | ⟨rfl, hm⟩ | ⟨rfl, hm⟩ | ⟨rfl, hm⟩ | ⟨rfl, hm⟩
      · have HE := HT.out _ hm
        have HHE : Hid _ := HE
        clear HE HT hm
        go_wp2_with fail
        refine (Calls.mono HX.out ?_)
        rintro e w1 ⟨rfl, rfl⟩
        go_wp2_with fail
        refine (bWrite_F B b _ bw ⟨#[38, 108, 116, 59]⟩ _ HI.out (by have := HL.out; show _ + 4 ≤ _; omega) (by omega)).mono ?_
        rintro e w2 ⟨rfl, bw2, hI2, hF2⟩
        go_wp2_with fail
        go_roundg (s.size - (k + 1))
        case measure => omega
        case rel => exact ⟨k + 1, bw2, by omega, by go_num, by rw [HHE.out]; exact hI2, hFr.trans hF2⟩
      · have HE := HT.out _ hm
        have HHE : Hid _ := HE
        clear HE HT hm
        go_wp2_with fail
        refine (Calls.mono HX.out ?_)
        rintro e w1 ⟨rfl, rfl⟩
        go_wp2_with fail
        refine (bWrite_F B b _ bw ⟨#[38, 103, 116, 59]⟩ _ HI.out (by have := HL.out; show _ + 4 ≤ _; omega) (by omega)).mono ?_
        rintro e w2 ⟨rfl, bw2, hI2, hF2⟩
        go_wp2_with fail
        go_roundg (s.size - (k + 1))
        case measure => omega
        case rel => exact ⟨k + 1, bw2, by omega, by go_num, by rw [HHE.out]; exact hI2, hFr.trans hF2⟩
      · have HE := HT.out _ hm
        have HHE : Hid _ := HE
        clear HE HT hm
        go_wp2_with fail
        refine (Calls.mono HX.out ?_)
        rintro e w1 ⟨rfl, rfl⟩
        go_wp2_with fail
        refine (bWrite_F B b _ bw ⟨#[38, 97, 109, 112, 59]⟩ _ HI.out (by have := HL.out; show _ + 5 ≤ _; omega) (by omega)).mono ?_
        rintro e w2 ⟨rfl, bw2, hI2, hF2⟩
        go_wp2_with fail
        go_roundg (s.size - (k + 1))
        case measure => omega
        case rel => exact ⟨k + 1, bw2, by omega, by go_num, by rw [HHE.out]; exact hI2, hFr.trans hF2⟩
      · have HE := HT.out _ hm
        have HHE : Hid _ := HE
        clear HE HT hm
        go_wp2_with fail
        refine (Calls.mono HX.out ?_)
        rintro e w1 ⟨rfl, rfl⟩
        go_wp2_with fail
        refine (bWrite_F B b _ bw ⟨#[38, 113, 117, 111, 116, 59]⟩ _ HI.out (by have := HL.out; show _ + 6 ≤ _; omega) (by omega)).mono ?_
        rintro e w2 ⟨rfl, bw2, hI2, hF2⟩
        go_wp2_with fail
        go_roundg (s.size - (k + 1))
        case measure => omega
        case rel => exact ⟨k + 1, bw2, by omega, by go_num, by rw [HHE.out]; exact hI2, hFr.trans hF2⟩
      · have HE := HT.out _ hm
        have HHE : Hid _ := HE
        clear HE HT hm
        go_wp2_with fail
        refine (Calls.mono HX.out ?_)
        rintro e w1 ⟨rfl, rfl⟩
        go_wp2_with fail
        refine (bByte_F B b _ bw (s[k].toNat : Int) _ HI.out (by have := HL.out; omega) (by omega)).mono ?_
        rintro e w2 ⟨rfl, bw2, hI2, hF2⟩
        go_wp2_with fail
        go_roundg (s.size - (k + 1))
        case measure => omega
        case rel => exact ⟨k + 1, bw2, by omega, by go_num, by rw [HHE.out]; exact hI2, hFr.trans hF2⟩
    · have hkk : k = s.size := by omega
      subst hkk
      go_wp2_with fail
      go_returns
      have := HI.out
      rw [List.take_of_length_le (by simp)] at this
      exact ⟨rfl, _, this, hFr⟩
end Go.Proofs.YtmogemjikjbnfaaGreatDoor

/- topiaryref.CopyTrees and CopyTree: the same trees in new memory. Condition: at most 2^20 trees and attributes in each list. -/
namespace Go.Proofs.YtmogemjikjbnfaaGreatDoor
open Go.ChangeShapes Go.WideShapes Go.ChangeAt Go.RowKit
set_option maxRecDepth 100000

/-- The copy of a list of attributes, as a step of a region that draws. -/
theorem step_attrs {ops : Array Oper} {o : Oper} {a : Act} {w : World} {K : Act → World → Prop} {Q : Exit → Act → World → Prop} {E : Prop}
    (hg : o.guard = none) (x : Operand) (hop : o.op = Op.call { callee := Callee.builtin Builtin.append, args := #[.const (.slice none 0 0), x], argTypes := #[22, 22] })
    (S : Nat → Prop) (v : Value) (l : List (ByteArray × ByteArray)) (hx : a.eval x = v) (h : Attrs S w v l) (hl : l.length ≤ 1048576)
    (hK : ∀ v' w', Attrs (OwnS w.heap.size 47 w') w' v' l → Below w.heap.size w w' → K (a.put o.dst v') w') :
    if Region.wanted o (yielded ops a.tmps) = true then Oper.wp Tryz.prog o a w K Q else E := by
  have hw : Region.wanted o (yielded ops a.tmps) = true := by simp [Region.wanted, hg]
  rw [if_pos hw]
  obtain ⟨i0, hi, hz0, hz1, hz2⟩ := info_parts attrInfo
  obtain ⟨ad, cap, rfl, h2, h3, h4⟩ := h
  have hs : a.eval (.const (.slice none 0 0)) = .slice none 0 0 := rfl
  cases ad with
  | none =>
    have hn : l = [] := by
      apply Classical.byContradiction; intro hne
      obtain ⟨b, o, ha, _⟩ := h4 hne
      cases ha
    subst hn
    have hrun : (Builtin.append_ #[22, 22] o.type #[.slice none 0 0, .slice none 0 cap]).run Tryz.prog w = .ok (.slice none 0 0) w := by
      simp [Builtin.append_, run_underlying Tryz.underlying22, sizeOf, typeInfo, hi, Builtin.lenOf, Builtin.firstCells]
    simp only [List.length_nil] at hx
    unfold Oper.wp
    simp [execOp, hop, resolve, invoke, builtin, hs, hx, hrun, Result.andThen]
    exact hK _ _ ⟨none, 0, rfl, Nat.le_refl _, Nat.zero_le _, fun hne => absurd rfl hne⟩ (Below.refl _ _)
  | some ad =>
    have hcells : ∀ j u, (attrCells l)[j]? = some u → w.cell? (ad.add j) = some u := by
      by_cases hne : l = []
      · subst hne; intro j u hj; simp [attrCells] at hj
      · obtain ⟨b, o, ha, _, hc⟩ := h4 hne
        cases ha
        intro j u hj
        rw [Addr.add_lit]
        exact Attrs.cells hc j u hj
    obtain ⟨v', w', hrun, r1, r2, _⟩ := run_append_own (P := Tryz.prog) w w.heap.size 22 o.type 47 i0 _ 2 32 Tryz.underlying22 hi hz0 hz1 hz2 rfl (by decide) (.slice none 0 0) 0 [] (World.ownsRow_nil w _ _ _) ad l.length cap (attrCells l) (attrCells_length l) hcells (attrCells_one l) (by unfold maxLen; omega) (by omega) (Nat.le_refl _)
    unfold Oper.wp
    simp [execOp, hop, resolve, invoke, builtin, hs, hx, hrun, Result.andThen]
    refine hK _ _ (Attrs.of_owns (by simpa using r1)) ((Below.refl _ w).grown r2 (Nat.le_refl _) (fun k hk => by simp [Value.ownBlock] at hk))

/-- A call of a Go function, as a step of a region that draws. -/
theorem step_enter {P : Program} {ops : Array Oper} {o : Oper} {a : Act} {w : World} {K : Act → World → Prop} {Q : Exit → Act → World → Prop} {E : Prop}
    (hg : o.guard = none) (f : FuncId) (args : Array Value) (hrun : (execOp a.eval o).run P w = .ok (.enter f args) w)
    (R : Value → World → Prop) (hc : Calls P f args w fun e w' => ∃ r, e = .returned r ∧ R r w')
    (hK : ∀ r w', R r w' → K (a.put o.dst r) w') :
    if Region.wanted o (yielded ops a.tmps) = true then Oper.wp P o a w K Q else E := by
  have hw : Region.wanted o (yielded ops a.tmps) = true := by simp [Region.wanted, hg]
  rw [if_pos hw]
  unfold Oper.wp
  rw [hrun, Oper.upon_enter]
  refine hc.mono ?_
  rintro e w' ⟨r, rfl, hr⟩
  exact hK r w' hr

/-- A boxed tree at n and the room for the answer behind it. -/
structure Boxed (n : Nat) (tx : Bool) (s : ByteArray) (aa ka : Option Addr) (al ac kl kc : Nat) (w : World) : Prop where
  c0 : w.cell? ⟨n, 0, none⟩ = some (.bool tx)
  c1 : w.cell? ⟨n, 1, none⟩ = some (.string s)
  c2 : w.cell? ⟨n, 2, none⟩ = some (.slice aa al ac)
  c3 : w.cell? ⟨n, 3, none⟩ = some (.slice ka kl kc)
  f : ∀ j, w.frozen? ⟨n, j, none⟩ = false
  r0 : w.cell? ⟨n + 1, 0, none⟩ = some (.bool false)
  r1 : w.cell? ⟨n + 1, 1, none⟩ = some (.string ⟨#[]⟩)
  r2 : w.cell? ⟨n + 1, 2, none⟩ = some (.slice none 0 0)
  r3 : w.cell? ⟨n + 1, 3, none⟩ = some (.slice none 0 0)
  rf : ∀ j, w.frozen? ⟨n + 1, j, none⟩ = false

theorem Boxed.later {n B : Nat} {tx : Bool} {s : ByteArray} {aa ka : Option Addr} {al ac kl kc : Nat} {w w' : World} (h : Boxed n tx s aa ka al ac kl kc w) (hb : Below B w w') (hn : n + 1 < B) : Boxed n tx s aa ka al ac kl kc w' where
  c0 := by rw [hb.cell (p := ⟨n, 0, none⟩) (by simp only; omega)]; exact h.c0
  c1 := by rw [hb.cell (p := ⟨n, 1, none⟩) (by simp only; omega)]; exact h.c1
  c2 := by rw [hb.cell (p := ⟨n, 2, none⟩) (by simp only; omega)]; exact h.c2
  c3 := by rw [hb.cell (p := ⟨n, 3, none⟩) (by simp only; omega)]; exact h.c3
  f := fun j => by rw [hb.frozen (p := ⟨n, j, none⟩) (by simp only; omega)]; exact h.f j
  r0 := by rw [hb.cell (p := ⟨n + 1, 0, none⟩) (by simp only; omega)]; exact h.r0
  r1 := by rw [hb.cell (p := ⟨n + 1, 1, none⟩) (by simp only; omega)]; exact h.r1
  r2 := by rw [hb.cell (p := ⟨n + 1, 2, none⟩) (by simp only; omega)]; exact h.r2
  r3 := by rw [hb.cell (p := ⟨n + 1, 3, none⟩) (by simp only; omega)]; exact h.r3
  rf := fun j => by rw [hb.frozen (p := ⟨n + 1, j, none⟩) (by simp only; omega)]; exact h.rf j

theorem Boxed.start (w : World) (tx : Bool) (s : ByteArray) (aa ka : Option Addr) (al ac kl kc : Nat) :
    Boxed w.heap.size tx s aa ka al ac kl kc ((w.alloc (.cells #[.bool tx, .string s, .slice aa al ac, .slice ka kl kc] 25)).alloc (.cells #[.bool false, .string ⟨#[]⟩, .slice none 0 0, .slice none 0 0] 25)) := by
  constructor <;> first | (simp [go_sem]; done) | (intro j; simp [go_sem]; done)

attribute [local go_sem] cell_set

/-- What CopyTrees promises at depth n. -/
def CopyOk (n : Nat) : Prop := ∀ (S : Nat → Prop) (v : Value) (ts : List Tr) (w : World), Trees S w n v ts → Small n ts →
  Calls Tryz.prog 10 #[v] w fun e w' => ∃ r, e = .returned r ∧ (Trees (fun b => w.heap.size ≤ b) w' n r ts ∧ Below w.heap.size w w')

theorem copyTree_of (n : Nat) (h : CopyOk n) (S : Nat → Prop) (va vk : Value) (t : Tr) (w : World) (ha : Attrs S w va t.attrs) (hk : Trees S w n vk t.kids) (hl : t.attrs.length ≤ 1048576) (hs : Small n t.kids) :
    Calls Tryz.prog 5 #[.agg #[.bool t.text, .string t.s, va, vk]] w fun e w' => ∃ va' vk', e = .returned (.agg #[.bool t.text, .string t.s, va', vk']) ∧ Attrs (fun b => w.heap.size ≤ b) w' va' t.attrs ∧ Trees (fun b => w.heap.size ≤ b) w' n vk' t.kids ∧ Below w.heap.size w w' := by
  obtain ⟨aa, ac, rfl⟩ := ha.shape
  obtain ⟨ka, kc, rfl, _, _⟩ := Trees.shape n hk
  have H : Hid (CopyOk n) := h
  clear h
  go_enter Tryz.func5, Tryz.ntmps5
  go_wp2_with fail
  have hb0 : Below w.heap.size w ((w.alloc (.cells #[.bool t.text, .string t.s, .slice aa t.attrs.length ac, .slice ka t.kids.length kc] 25)).alloc (.cells #[.bool false, .string ⟨#[]⟩, .slice none 0 0, .slice none 0 0] 25)) := (Below.alloc1 w _).alloc (by simp) _
  have hbox := Boxed.start w t.text t.s aa ka t.attrs.length ac t.kids.length kc
  obtain ⟨W0, hW0⟩ : ∃ W0, ((w.alloc (.cells #[.bool t.text, .string t.s, .slice aa t.attrs.length ac, .slice ka t.kids.length kc] 25)).alloc (.cells #[.bool false, .string ⟨#[]⟩, .slice none 0 0, .slice none 0 0] 25)) = W0 := ⟨_, rfl⟩
  have hsz : W0.heap.size = w.heap.size + 1 + 1 := by rw [← hW0]; simp
  rw [hW0] at hb0 hbox ⊢
  clear hW0
  have hszl : w.heap.size + 1 < W0.heap.size := by omega
  have HZ : Hid (W0.heap.size = w.heap.size + 1 + 1) := hsz
  clear hsz
  obtain ⟨d0, d1, d2, d3, df, e0, e1, e2, e3, ef⟩ := id hbox
  have hboxd : Boxed w.heap.size t.text t.s aa ka t.attrs.length ac t.kids.length kc W0.drew := hbox.later (B := W0.heap.size) (Below.refl _ _).drew hszl
  go_region_law (first
    | (refine step_attrs (by rfl) (.tmp 4) (by rfl) S (.slice aa t.attrs.length ac) t.attrs (by simp [Act.eval]) (ha.later (by exact hb0.drew)) hl ?_; intro v1 w1 hA1 hB1; obtain ⟨a1, c1, rfl⟩ := hA1.shape; have hB01 : Below w.heap.size w w1 := hb0.drew.trans (hB1.mono hb0.size); have hbox1 := hboxd.later hB1 (by exact hszl); have hszl1 : w.heap.size + 1 < w1.heap.size := Nat.lt_of_lt_of_le hszl hB1.size; obtain ⟨d0, d1, d2, d3, df, e0, e1, e2, e3, ef⟩ := id hbox1)
    | (refine step_enter (by rfl) 10 #[.slice ka t.kids.length kc] (by go_simp) _ (H.out S _ t.kids w1 (Trees.later hB01 n hk) hs) ?_; intro v2 w2 hR2; obtain ⟨hT2, hB2⟩ := hR2; obtain ⟨a2, c2, rfl, _, _⟩ := Trees.shape n hT2; have hbox2 := hbox1.later hB2 (by exact hszl1); obtain ⟨d0, d1, d2, d3, df, e0, e1, e2, e3, ef⟩ := id hbox2))
  all_goals
    go_wp2_with fail
    have e : ∀ b x y z u p q, W0.heap.size ≤ b → ((((((w2.setCell ⟨w.heap.size, 2, none⟩ x).setCell ⟨w.heap.size, 3, none⟩ y).setCell ⟨w.heap.size + 1, 0, none⟩ z).setCell ⟨w.heap.size + 1, 1, none⟩ u).setCell ⟨w.heap.size + 1, 2, none⟩ p).setCell ⟨w.heap.size + 1, 3, none⟩ q).heap[b]? = w2.heap[b]? := by
      intro b x y z u p q hb
      have := HZ.out
      repeat rw [Below.heap_setCell _ _ _ _ (by simp only; omega)]
    refine bodyPost_ret (v := .agg #[.bool t.text, .string t.s, .slice a1 t.attrs.length c1, .slice a2 t.kids.length c2]) (by simp [results, Tryz.results5, go_sem, cell_set, hbox2.r0, hbox2.r1, hbox2.r2, hbox2.r3, World.cell?_setCell_other]) rfl ⟨_, _, rfl, ?_, ?_, ?_⟩
    · refine (hA1.own_later hB2).carry fun b hb => ?_
      have hbW : W0.heap.size ≤ b := hb.1
      exact ⟨by have := HZ.out; omega, e b _ _ _ _ _ _ hbW⟩
    · refine Trees.carry (fun b hb => ?_) n hT2
      have hbW : W0.heap.size ≤ b := Nat.le_trans hB1.size hb
      exact ⟨by have := HZ.out; omega, e b _ _ _ _ _ _ hbW⟩
    · have h0 : Below w.heap.size w w2 := hB01.trans (hB2.mono hB01.size)
      repeat' (refine Below.setCell ?_ ?_ _)
      all_goals first | exact h0 | (simp only; omega)

theorem copy_zero : CopyOk 0 := by
  intro S v ts w h _
  obtain ⟨rfl, a, cap, rfl, _⟩ := h
  go_enter Tryz.func10, Tryz.ntmps10
  go_wp2_with fail
  go_rounds 1
  go_ret
  exact ⟨_, rfl, ⟨rfl, none, 0, rfl, Nat.zero_le _⟩, Below.refl _ _⟩

end Go.Proofs.YtmogemjikjbnfaaGreatDoor

/- A new list of trees that grows by append, its trees' own lists elsewhere. No condition. -/
namespace Go.Proofs.YtmogemjikjbnfaaGreatDoor
open Go.ChangeShapes Go.WideShapes Go.ChangeAt Go.RowKit
set_option maxRecDepth 100000

def Oth (S : Nat → Prop) (B : Nat) (w : World) (v : Value) (b : Nat) : Prop := (S b ∨ B ≤ b) ∧ b < w.heap.size ∧ v.ownBlock ≠ some b

structure Grow (S : Nat → Prop) (n B : Nat) (w : World) (v : Value) (us : List Tr) (qs : List (Bool × ByteArray × Value × Value)) : Prop where
  len : qs.length = us.length
  own : w.ownsRow B 25 4 v us.length (quadCells qs)
  each : ∀ (i : Nat) (q : Bool × ByteArray × Value × Value) (t : Tr), qs[i]? = some q → us[i]? = some t → q.1 = t.text ∧ q.2.1 = t.s ∧ Attrs (Oth S B w v) w q.2.2.1 t.attrs ∧ Trees (Oth S B w v) w n q.2.2.2 t.kids

theorem Grow.nil (S : Nat → Prop) (n B : Nat) (w : World) : Grow S n B w (.slice none 0 0) [] [] :=
  ⟨rfl, World.ownsRow_nil _ _ _ _, fun i q t h => by simp at h⟩

theorem Grow.shape {S : Nat → Prop} {n B : Nat} {w : World} {v : Value} {us : List Tr} {qs : List (Bool × ByteArray × Value × Value)} (h : Grow S n B w v us qs) : ∃ a c, v = .slice a us.length c := by
  rcases h.own.2 with ⟨hv, h0⟩ | ⟨g, cap, cur, hv, _⟩
  · exact ⟨none, 0, by rw [hv, h0]⟩
  · exact ⟨_, _, hv⟩

theorem Oth.later {S : Nat → Prop} {B : Nat} {w w' : World} {v : Value} {b : Nat} (h : Oth S B w v b) (hb : Below w.heap.size w w') : Oth S B w' v b ∧ w'.heap[b]? = w.heap[b]? :=
  ⟨⟨h.1, Nat.lt_of_lt_of_le h.2.1 hb.size, h.2.2⟩, hb.block b h.2.1⟩

theorem Grow.later {S : Nat → Prop} {n B : Nat} {w w' : World} {v : Value} {us : List Tr} {qs : List (Bool × ByteArray × Value × Value)} (h : Grow S n B w v us qs) (hb : Below w.heap.size w w') : Grow S n B w' v us qs :=
  ⟨h.len, ownsRow_later h.own hb, fun i q t hq ht => by
    obtain ⟨a, b, c, d⟩ := h.each i q t hq ht
    exact ⟨a, b, c.carry (fun b hs => hs.later hb), Trees.carry (fun b hs => hs.later hb) n d⟩⟩

theorem Grow.snoc {S : Nat → Prop} {n B : Nat} {w w' : World} {v v' : Value} {us : List Tr} {qs : List (Bool × ByteArray × Value × Value)} {t : Tr} {q : Bool × ByteArray × Value × Value}
    (h : Grow S n B w v us qs) (hown : w'.ownsRow B 25 4 v' (us.length + 1) (quadCells qs ++ [.bool q.1, .string q.2.1, q.2.2.1, q.2.2.2]))
    (hg : w.grownBy w' v.ownBlock) (hat : v'.ownBlock = v.ownBlock ∨ v'.ownBlock = some w.heap.size) (h1 : q.1 = t.text) (h2 : q.2.1 = t.s) (ha : Attrs (Oth S B w v) w q.2.2.1 t.attrs) (hk : Trees (Oth S B w v) w n q.2.2.2 t.kids) : Grow S n B w' v' (us ++ [t]) (qs ++ [q]) := by
  have carry : ∀ b, Oth S B w v b → Oth S B w' v' b ∧ w'.heap[b]? = w.heap[b]? := by
    intro b hb
    refine ⟨⟨hb.1, Nat.lt_of_lt_of_le hb.2.1 hg.size, ?_⟩, hg.block b hb.2.1 (fun e => hb.2.2 e.symm)⟩
    rcases hat with e | e
    · rw [e]; exact hb.2.2
    · rw [e]; intro e'; cases e'; exact Nat.lt_irrefl _ hb.2.1
  refine ⟨by simp [h.len], ?_, ?_⟩
  · rw [quadCells_append, List.length_append]; exact hown
  · intro i q' t' hq ht
    rcases Nat.lt_or_ge i us.length with hi | hi
    · rw [List.getElem?_append_left (by rw [h.len]; exact hi)] at hq
      rw [List.getElem?_append_left hi] at ht
      obtain ⟨a, b, c, d⟩ := h.each i q' t' hq ht
      exact ⟨a, b, c.carry carry, Trees.carry carry n d⟩
    · rw [List.getElem?_append_right (by rw [h.len]; exact hi)] at hq
      rw [List.getElem?_append_right hi] at ht
      rw [h.len] at hq
      have hz : i - us.length = 0 := by
        rcases Nat.eq_zero_or_pos (i - us.length) with h' | h'
        · exact h'
        · rw [List.getElem?_eq_none (by simp; omega)] at ht; cases ht
      rw [hz] at hq ht
      simp at hq ht
      subst hq ht
      exact ⟨h1, h2, ha.carry carry, Trees.carry carry n hk⟩

theorem Grow.done {S : Nat → Prop} {n B : Nat} {w : World} {v : Value} {us : List Tr} {qs : List (Bool × ByteArray × Value × Value)} (h : Grow S n B w v us qs) : Trees (fun b => S b ∨ B ≤ b) w (n + 1) v us := by
  rcases h.own.2 with ⟨hv, h0⟩ | ⟨g, cap, cur, hv, hB, hh, hc, hm, _⟩
  · have : us = [] := List.eq_nil_of_length_eq_zero h0
    subst this
    exact Trees.nil _ ⟨_, _, hv, Nat.zero_le _⟩
  · subst hv
    refine ⟨_, _, rfl, hc, hm, fun _ => ⟨g, 0, rfl, Or.inr hB, fun i t ht => ?_⟩⟩
    have hi : i < us.length := by
      rcases Nat.lt_or_ge i us.length with h' | h'
      · exact h'
      · rw [List.getElem?_eq_none h'] at ht; cases ht
    obtain ⟨q, hq⟩ : ∃ q, qs[i]? = some q := ⟨qs[i]'(by rw [h.len]; exact hi), by simp [h.len, hi]⟩
    obtain ⟨a, b, c, d⟩ := h.each i q t hq ht
    obtain ⟨g0, g1, g2, g3⟩ := quadCells_get qs i q hq
    refine ⟨q.2.2.1, q.2.2.2, ?_, ?_, ?_, ?_, c.carry (fun b hb => ⟨hb.1, rfl⟩), Trees.carry (fun b hb => ⟨hb.1, rfl⟩) n d⟩
    · rw [Nat.zero_add, World.ownsRow.cellAt h.own (i * 4) (by omega), g0, a]
    · rw [Nat.zero_add, World.ownsRow.cellAt h.own (i * 4 + 1) (by omega), g1, b]
    · rw [Nat.zero_add, World.ownsRow.cellAt h.own (i * 4 + 2) (by omega), g2]
    · rw [Nat.zero_add, World.ownsRow.cellAt h.own (i * 4 + 3) (by omega), g3]

/-- What lies from the heap's size of an earlier world on is no row that lay there then. -/
theorem Grow.fresh {S : Nat → Prop} {n B N : Nat} {w w' : World} {v : Value} {us : List Tr} {qs : List (Bool × ByteArray × Value × Value)} (h : Grow S n B w v us qs) (hN : w.heap.size ≤ N) (hB : B ≤ N) : ∀ b, N ≤ b ∧ b < w'.heap.size → Oth S B w' v b := by
  intro b hb
  refine ⟨Or.inr (by omega), hb.2, fun e => ?_⟩
  have := (h.own.lt b e).2
  omega

theorem copy_succ (n : Nat) (h : CopyOk n) : CopyOk (n + 1) := by
  intro S v ts w h1 hsm
  have H : Hid (CopyOk n) := h
  clear h
  obtain ⟨i0, hi, hz0, hz1, hz2⟩ := info_parts treeInfo
  have hlen := hsm.1
  obtain ⟨a, cap, rfl, _, hm, h4⟩ := h1
  unfold maxLen at hm
  go_enter Tryz.func10, Tryz.ntmps10
  go_wp2_with fail
  go_loopg [8, 3] ts.length (fun g i o wr => ∃ (k : Nat) (qs : List (Bool × ByteArray × Value × Value)), k + g = ts.length ∧ i = .int .i64 k ∧ Grow (fun _ => False) n w.heap.size wr o (ts.take k) qs ∧ Below w.heap.size w wr)
  case atStart => exact ⟨0, [], by omega, rfl, Grow.nil _ _ _ _, Below.refl _ _⟩
  case round =>
    obtain ⟨k, qs, hk, rfl, hG, hB⟩ := hrel
    have hsz := hB.size
    by_cases hlt : k < ts.length
    · have hne : ts ≠ [] := by intro e; subst e; simp at hlt
      obtain ⟨b, o, rfl, hs, hcc⟩ := h4 hne
      obtain ⟨t, ht⟩ : ∃ t, ts[k]? = some t := ⟨ts[k], by simp [hlt]⟩
      obtain ⟨va, vk, c0, c1, c2, c3, hat, hkt⟩ := hcc k t ht
      obtain ⟨aa, ac, rfl⟩ := hat.shape
      obtain ⟨ka, kc, rfl, _, _⟩ := Trees.shape n hkt
      have hbl : b < w.heap.size := World.block_lt_of_cell? w _ c0
      rw [← hB.cell (p := ⟨b, o + k * 4, none⟩) hbl] at c0
      rw [← hB.cell (p := ⟨b, o + k * 4 + 1, none⟩) hbl] at c1
      rw [← hB.cell (p := ⟨b, o + k * 4 + 2, none⟩) hbl] at c2
      rw [← hB.cell (p := ⟨b, o + k * 4 + 3, none⟩) hbl] at c3
      have hsn : ts.take (k + 1) = ts.take k ++ [t] := by
        rw [List.take_succ_eq_append_getElem hlt]; congr 2; simpa [hlt] using ht
      have HS : Hid (ts.take (k + 1) = ts.take k ++ [t]) := hsn
      obtain ⟨_, _, hsk⟩ := hsm.2.2 t (List.mem_of_getElem? ht)
      have hal := (hsm.2.2 t (List.mem_of_getElem? ht)).1
      have hlk : (ts.take k).length = k := by rw [List.length_take]; omega
      obtain ⟨us, hus⟩ : ∃ us, ts.take k = us := ⟨_, rfl⟩
      rw [hus] at hG hlk HS
      obtain ⟨ja, jc, rfl⟩ := hG.shape
      rw [hlk] at hG ⊢
      have HL : Hid (us.length = k) := hlk
      clear hcc h4 ht hsn hus hlk
      go_wp2_with fail
      refine (copyTree_of n H.out S _ _ t _ (hat.later (hB.alloc hsz _)) (Trees.later (hB.alloc hsz _) n hkt) hal hsk).mono ?_
      rintro e w1 ⟨va1, vk1, rfl, ha1, hk1, hb1⟩
      obtain ⟨a1, c1', rfl⟩ := ha1.shape
      obtain ⟨a2, c2', rfl, _, _⟩ := Trees.shape n hk1
      have hG1 : Grow (fun _ => False) n w.heap.size w1 (.slice ja k jc) us qs := (hG.later (Below.alloc1 _ _)).later hb1
      have hB1 : Below w.heap.size w w1 := (hB.alloc hsz _).trans (hb1.mono (by simp; omega))
      have hsz1 := hb1.size
      simp only [World.size_alloc] at hsz1
      have hown1 := hG1.own
      rw [HL.out] at hown1
      go_wp2_with (at_builtin; refine wpList_append_own_at _ rfl _ _ 23 rfl w.heap.size 25 i0 _ 4 72 Tryz.underlying23 hi hz0 hz1 hz2 rfl (by decide) _ _ _ rfl (hown1.alloc _) ⟨w1.heap.size, 0, none⟩ 1 1 [.bool t.text, .string t.s, .slice a1 t.attrs.length c1', .slice a2 t.kids.length c2'] rfl ?qc1 ?qc2 ?qc3 ?qc4 ?qc5 ?qc6 ?_)
      case qc1 => rfl
      case qc2 => exact new_quad _ _ _ _ _ _
      case qc3 => intro u hu; simp at hu; rcases hu with rfl | rfl | rfl | rfl <;> rfl
      case qc4 => unfold maxLen; omega
      case qc5 => omega
      case qc6 => simp; omega
      intro v' w2 hown' hgrow _ hat'
      have hG2 := hG1.later (Below.alloc1 w1 (.cells #[.bool t.text, .string t.s, .slice a1 t.attrs.length c1', .slice a2 t.kids.length c2'] 25))
      have hfr := hG.fresh (w' := w1.alloc (.cells #[.bool t.text, .string t.s, .slice a1 t.attrs.length c1', .slice a2 t.kids.length c2'] 25)) (Nat.le_refl _) hsz
      have hG3 := hG2.snoc (t := t) (q := (t.text, t.s, .slice a1 t.attrs.length c1', .slice a2 t.kids.length c2')) (by rw [HL.out]; exact hown') hgrow (by rw [World.size_alloc]; exact hat') rfl rfl
        ((ha1.later (Below.alloc1 w1 _)).bounded.carry (fun b hb => ⟨hfr b ⟨by have := hb.1; simp at this; omega, hb.2⟩, rfl⟩))
        (Trees.carry (fun b hb => ⟨hfr b ⟨by have := hb.1; simp at this; omega, hb.2⟩, rfl⟩) n (Trees.bounded n (Trees.later (Below.alloc1 w1 _) n hk1)))
      have hB2 : Below w.heap.size w w2 := (hB1.alloc (by omega) _).grown hgrow (by simp; omega) (fun k hk => (hG2.own.lt k hk).1)
      obtain ⟨va', vc', rfl⟩ := hG3.shape
      have hll : (us ++ [t]).length = k + 1 := by rw [List.length_append, HL.out]; rfl
      rw [hll] at hG3 ⊢
      clear hown' hll
      go_wp2_with fail
      go_roundg (ts.length - (k + 1))
      case measure => omega
      case rel => exact ⟨k + 1, _, by omega, by go_num, by rw [HS.out]; exact hG3, hB2⟩
    · have hkk : k = ts.length := by omega
      subst hkk
      rw [List.take_length] at hG
      obtain ⟨ja, jc, rfl⟩ := hG.shape
      go_wp2_with fail
      go_ret
      refine ⟨_, rfl, Trees.carry (fun b hb => ⟨?_, rfl⟩) (n + 1) hG.done, hB⟩
      rcases hb with hb | hb
      · exact hb.elim
      · exact hb

theorem copy_any (n : Nat) : CopyOk n := by
  induction n with
  | zero => exact copy_zero
  | succ n ih => exact copy_succ n ih

end Go.Proofs.YtmogemjikjbnfaaGreatDoor

