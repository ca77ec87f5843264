/- Bundled: BenchD ChangeM TreeM ApplyM ZipM AttrM KeepM. What each says stands ahead of it. -/
import Derived.Test.YtlchbhlmbphkpaaBundle12
/- Changes done on the bench kind by kind, as plain data: what comes of it is what is said. No condition. -/
namespace Go.Proofs.Ytlchbhlmbphkpaa
open Go.RowKit
set_option maxRecDepth 100000

theorem KidsR.get {N : Nat} {ns : List Nd} : ∀ {l : List Int} {m : List (Nat ⊕ Tr)}, KidsR N ns l m → ∀ (i : Nat) (u : Int), l[i]? = some u → ∃ e, m[i]? = some e ∧ KidIs N ns u e := by
  intro l
  induction l with
  | nil => intro m _ i u h; simp at h
  | cons v l ih =>
    intro m h i u hu
    cases m with
    | nil => exact h.elim
    | cons e m =>
      cases i with
      | zero => simp at hu; subst hu; exact ⟨e, rfl, h.1⟩
      | succ i => exact ih h.2 i u (by simpa using hu)

/-- Whoever is meant by a node's own number is that node. -/
theorem KidIs.own {N : Nat} {ns : List Nd} {n : Nat} {e : Nat ⊕ Tr} (hn : n < N) (h : KidIs N ns (n : Int) e) : e = Sum.inl n := by
  cases e with
  | inl k => obtain ⟨h1, _⟩ := h; rw [show n = k by omega]
  | inr t => obtain ⟨m, _, _, h1, h2, _⟩ := h; omega

theorem KidsR.index {N : Nat} {ns : List Nd} {l : List Int} {E F : List (Nat ⊕ Tr)} {n : Nat} (h : KidsR N ns l (E ++ Sum.inl n :: F)) (hn : n < N) (hE : Sum.inl n ∉ E) : l.findIdx (fun u => u == (n : Int)) = E.length ∧ E.length < l.length := by
  have hl := h.len
  rw [List.length_append, List.length_cons] at hl
  refine ⟨?_, by omega⟩
  have hlt : E.length < l.length := by omega
  have h1 : l[E.length]? = some (n : Int) := by
    obtain ⟨u, hu⟩ : ∃ u, l[E.length]? = some u := ⟨l[E.length], by simp [hlt]⟩
    obtain ⟨e, he, hk⟩ := h.get _ u hu
    rw [List.getElem?_append_right (Nat.le_refl _), Nat.sub_self] at he
    simp at he
    subst he
    rw [hu, hk.1]
  have h2 : ∀ j, j < E.length → l[j]? ≠ some (n : Int) := by
    intro j hj e
    obtain ⟨e', he, hk⟩ := h.get j _ e
    rw [List.getElem?_append_left hj] at he
    rw [hk.own hn] at he
    exact hE (List.mem_of_getElem? he)
  rw [List.findIdx_eq hlt]
  refine ⟨?_, fun j hj => ?_⟩
  · rw [List.getElem?_eq_getElem hlt] at h1
    rw [Option.some.inj h1]
    simp
  · have hjl : j < l.length := by omega
    have := h2 j hj
    rw [List.getElem?_eq_getElem hjl] at this
    simp only [beq_eq_false_iff_ne]
    exact fun e => this (by rw [e])

theorem KidsR.no {N : Nat} {ns : List Nd} {l : List Int} {m : List (Nat ⊕ Tr)} {n : Nat} (h : KidsR N ns l m) (hn : n < N) (hm : Sum.inl n ∉ m) : ¬ l.findIdx (fun u => u == (n : Int)) < l.length := by
  intro hlt
  have h1 := List.findIdx_getElem (w := hlt)
  obtain ⟨e, he, hk⟩ := h.get _ _ (List.getElem?_eq_getElem hlt)
  have h2 : l[l.findIdx (fun u => u == (n : Int))] = (n : Int) := by simpa using h1
  rw [h2] at hk
  rw [hk.own hn] at he
  exact hm (List.mem_of_getElem? he)

def parN (ns : List Nd) (n : Nat) : Nat := match ns[n]? with
  | some y => y.parent.toNat
  | none => 0
def kidsN (ns : List Nd) (p : Nat) : List Int := match ns[p]? with
  | some y => y.kids
  | none => []
/-- Where a node stands in the list of its parent. -/
def atN (ns : List Nd) (n : Nat) : Nat := (kidsN ns (parN ns n)).findIdx (fun u => u == (n : Int))
def outN (ns : List Nd) (n : Nat) : List Nd := if atN ns n < (kidsN ns (parN ns n)).length then outF ns (parN ns n) (atN ns n) else ns
def befN (d : Nat) (ns : List Nd) (n : Nat) (l : List Tr) : List Nd := putF d ns (parN ns n) (atN ns n) l
def aftN (d : Nat) (ns : List Nd) (n : Nat) (l : List Tr) : List Nd := putF d ns (parN ns n) (atN ns n + 1) l
def lastN (d : Nat) (ns : List Nd) (n : Nat) (l : List Tr) : List Nd := putF d ns n (kidsN ns n).length l
def valN (ns : List Nd) (n : Nat) (s : ByteArray) : List Nd := match ns[n]? with
  | some y => if y.text then ns.modify n (fun y => { y with s := s }) else valF ns n s
  | none => ns

/-- One change of a kind, on the bench. -/
def stepN (d : Nat) (k : Int) (ns : List Nd) (o : Opn) : List Nd :=
  if k = 8 then ns.modify o.target.toNat (fun y => { y with s := o.name })
  else if k = 9 then ns.modify o.target.toNat (fun y => { y with attrs := putA y.attrs o.name o.s })
  else if k = 10 then ns.modify o.target.toNat (fun y => { y with attrs := cutA y.attrs o.name })
  else if k = 3 then befN d ns o.target.toNat o.content
  else if k = 2 then lastN d ns o.target.toNat o.content
  else if k = 1 then putF d ns o.target.toNat 0 o.content
  else if k = 4 then aftN d ns o.target.toNat o.content
  else if k = 6 then outN (befN d ns o.target.toNat o.content) o.target.toNat
  else if k = 5 then outN ns o.target.toNat
  else valN ns o.target.toNat o.s

def gOf (k : Int) (o : Opn) : Sg → Sg :=
  if k = 8 then gRen o
  else if k = 9 then gSet o
  else if k = 10 then gDrop o
  else if k = 3 then gBef o
  else if k = 2 then gLast o
  else if k = 1 then gFirst o
  else if k = 4 then gAft o
  else if k = 6 then gRep o
  else if k = 5 then gGone
  else gVal o

def doN (d : Nat) (k : Int) (ns : List Nd) (l : List Opn) : List Nd := l.foldl (fun ns o => if o.kind = k then stepN d k ns o else ns) ns
def doF (k : Int) (σ : Nat → Sg) (l : List Opn) : Nat → Sg := l.foldl (fun σ o => if o.kind = k then upd σ o.target.toNat (gOf k o) else σ) σ

def benchN (d : Nat) (ns : List Nd) (l : List Opn) : List Nd :=
  doN d 7 (doN d 5 (doN d 6 (doN d 4 (doN d 1 (doN d 2 (doN d 3 (doN d 10 (doN d 9 (doN d 8 ns l) l) l) l) l) l.reverse) l.reverse) l) l) l
def saidF (ns : List Nd) (l : List Opn) : Nat → Sg :=
  doF 7 (doF 5 (doF 6 (doF 4 (doF 1 (doF 2 (doF 3 (doF 10 (doF 9 (doF 8 (sig0 ns) l) l) l) l) l) l.reverse) l.reverse) l) l) l

/-- A change that nothing is wrong with, by itself. -/
structure OkOp (ns0 : List Nd) (d : Nat) (o : Opn) : Prop where
  pos : 0 ≤ o.target
  lt : o.target.toNat < ns0.length
  deep : ∀ k ∈ o.content, Deep d k.kids
  elem : ∀ x, ns0[o.target.toNat]? = some x → o.kind = 1 ∨ o.kind = 2 ∨ o.kind = 8 ∨ o.kind = 9 ∨ o.kind = 10 → x.text = false
  root : o.kind = 3 ∨ o.kind = 4 ∨ o.kind = 5 ∨ o.kind = 6 → o.target.toNat ≠ 0

theorem stands_of {ns0 : List Nd} (hg : goodD ns0 = true) {σ : Nat → Sg} (hv : ∀ n, (σ n).val = none) {n : Nat} {x : Nd} (hx : ns0[n]? = some x) (h0 : n ≠ 0) : ∃ (p : Nat) (y : Nd) (A C : List Int), Stands ns0 σ n p y A C ∧ x.parent = (p : Int) := by
  rcases (good_fam hg hx).par with ⟨h1, _⟩ | ⟨p, y, hy, hp, hpn, hm⟩
  · exact absurd h1 h0
  · obtain ⟨A, C, hAC⟩ := List.append_of_mem hm
    have hrise := rise_kids hg hy
    rw [hAC, List.pairwise_append] at hrise
    obtain ⟨_, h2, h3⟩ := hrise
    rw [List.pairwise_cons] at h2
    have hpos : ∀ u ∈ y.kids, 0 ≤ u := fun u hu => by obtain ⟨k, _, e, _⟩ := (good_fam hg hy).kids u hu; omega
    refine ⟨p, y, A, C, ⟨hy, hAC, fun u hu => ?_, fun u hu => ?_, hv p, fun k z hz hk u hu e => ?_, by omega⟩, hp⟩
    · have h4 := h3 u hu (n : Int) List.mem_cons_self
      have h5 := hpos u (by rw [hAC]; exact List.mem_append_left _ hu)
      omega
    · have h4 := h2.1 u hu
      omega
    · obtain ⟨j, z', e1, _, _, _, hz', hp'⟩ := (good_fam hg hz).kids u hu
      have : j = n := by omega
      subst this
      rw [hx] at hz'
      obtain rfl := Option.some.inj hz'
      omega

theorem aheadK_no {ns0 : List Nd} {σ : Nat → Sg} {n p : Nat} {x : Nd} {A C : List Int} (h : Stands ns0 σ n p x A C) : Sum.inl n ∉ aheadK σ n p A := by
  unfold aheadK newK fmK
  simp only [List.mem_append, List.mem_map, List.mem_flatMap, not_or]
  refine ⟨(by rintro ⟨_, _, h⟩; cases h), ?_, (by rintro ⟨_, _, h⟩; cases h)⟩
  rintro ⟨u, hu, hp⟩
  have hne := h.ahead u hu
  unfold placeK newK midK at hp
  simp only [List.mem_append, List.mem_map] at hp
  rcases hp with ⟨_, _, h⟩ | hp | ⟨_, _, h⟩
  · cases h
  · split at hp
    · simp at hp
    · simp at hp; exact hne hp.symm
  · cases h

/-- Where a node stands on the bench. -/
theorem Bch.at {ns0 ns : List Nd} {σ : Nat → Sg} (h : Bch ns0 σ ns) {n p : Nat} {x z : Nd} {A C : List Int} (hs : Stands ns0 σ n p x A C) (hz : ns0[n]? = some z) (hp : z.parent = (p : Int)) :
    parN ns n = p ∧ ((σ n).gone = false → atN ns n = (aheadK σ n p A).length ∧ atN ns n < (kidsN ns p).length) ∧ ((σ n).gone = true → ¬ atN ns n < (kidsN ns (parN ns n)).length) := by
  obtain ⟨y, g1, _, _, _, g5, _⟩ := h.each n z hz
  have hpar : parN ns n = p := by unfold parN; rw [g1]; show y.parent.toNat = p; rw [g5, hp]; omega
  obtain ⟨y', k1, _, _, _, _, k6⟩ := h.each p x hs.par
  have hkid : kidsN ns p = y'.kids := by unfold kidsN; rw [k1]
  have hn := lt_of_some hz
  refine ⟨hpar, fun hgo => ?_, fun hgo => ?_⟩
  · have e : allK σ p x = aheadK σ n p A ++ Sum.inl n :: (newK (σ n).aft ++ (fmK σ C ++ newK (σ p).last)) := by
      rw [hs.self]; unfold aheadK placeK midK; rw [hgo]; simp [List.append_assoc]
    rw [e] at k6
    obtain ⟨i1, i2⟩ := k6.index hn (aheadK_no hs)
    unfold atN
    rw [hpar, hkid, i1]
    exact ⟨rfl, i2⟩
  · unfold atN
    rw [hpar, hkid]
    refine k6.no hn ?_
    rw [hs.self]
    unfold placeK midK
    rw [hgo]
    simp only [if_true, List.nil_append, List.mem_append, not_or]
    have h1 := aheadK_no hs
    unfold aheadK at h1
    simp only [List.mem_append, not_or] at h1
    refine ⟨h1.1, h1.2.1, ⟨h1.2.2, ?_⟩, ?_, ?_⟩
    · unfold newK; simp only [List.mem_map]; rintro ⟨_, _, h⟩; cases h
    · unfold fmK
      simp only [List.mem_flatMap]
      rintro ⟨u, hu, hq⟩
      have hne := hs.behind u hu
      unfold placeK newK midK at hq
      simp only [List.mem_append, List.mem_map] at hq
      rcases hq with ⟨_, _, h⟩ | hq | ⟨_, _, h⟩
      · cases h
      · split at hq
        · simp at hq
        · simp at hq; exact hne hq.symm
      · cases h
    · unfold newK; simp only [List.mem_map]; rintro ⟨_, _, h⟩; cases h

/-- One change on the bench is what is said of it. -/
theorem Bch.step {ns0 ns : List Nd} (hg : goodD ns0 = true) {σ : Nat → Sg} (h : Bch ns0 σ ns) {d : Nat} {o : Opn} (ho : OkOp ns0 d o) (hk : 1 ≤ o.kind ∧ o.kind ≤ 10) (hv : o.kind ≤ 6 → ∀ n, (σ n).val = none) (hgo : o.kind = 3 ∨ o.kind = 4 ∨ o.kind = 6 → (σ o.target.toNat).gone = false) :
    Bch ns0 (upd σ o.target.toNat (gOf o.kind o)) (stepN d o.kind ns o) := by
  obtain ⟨x, hx⟩ : ∃ x, ns0[o.target.toNat]? = some x := ⟨ns0[o.target.toNat]'ho.lt, by simp [ho.lt]⟩
  have hel := ho.elem x hx
  have hro := ho.root
  have hde := ho.deep
  have stand : o.kind = 3 ∨ o.kind = 4 ∨ o.kind = 5 ∨ o.kind = 6 → ∃ (p : Nat) (y : Nd) (A C : List Int), Stands ns0 σ o.target.toNat p y A C ∧ x.parent = (p : Int) := fun h1 => stands_of hg (hv (by omega)) hx (hro h1)
  generalize hn : o.target.toNat = n at *
  rcases (by omega : o.kind = 8 ∨ o.kind = 9 ∨ o.kind = 10 ∨ o.kind = 3 ∨ o.kind = 2 ∨ o.kind = 1 ∨ o.kind = 4 ∨ o.kind = 6 ∨ o.kind = 5 ∨ o.kind = 7) with hc | hc | hc | hc | hc | hc | hc | hc | hc | hc
  · rw [hc]; unfold stepN gOf; simp only [hn]; exact h.ren hx (hel (by omega)) o
  · rw [hc]; unfold stepN gOf; simp only [hn]; exact h.attr hx (fun l => putA l o.name o.s)
  · rw [hc]; unfold stepN gOf; simp only [hn]; exact h.attr hx (fun l => cutA l o.name)
  · obtain ⟨p, y, A, C, hs, hp⟩ := stand (by omega)
    obtain ⟨e1, e2, _⟩ := h.at hs hx hp
    obtain ⟨e3, _⟩ := e2 (hgo (by omega))
    have := h.bef hs o hde
    rw [hc]; unfold stepN gOf befN; simp only [hn, e1, e3]; exact this
  · have hvn := hv (by omega) n
    obtain ⟨y, g1, _⟩ := h.each n x hx
    have := h.last hx g1 hvn o hde
    rw [hc]; unfold stepN gOf lastN kidsN; simp only [hn, g1]; exact this
  · rw [hc]; unfold stepN gOf; simp only [hn]; exact h.first hx (hv (by omega) n) o hde
  · obtain ⟨p, y, A, C, hs, hp⟩ := stand (by omega)
    obtain ⟨e1, e2, _⟩ := h.at hs hx hp
    have hgn := hgo (by omega)
    obtain ⟨e3, _⟩ := e2 hgn
    have := h.aft hs hgn o hde
    rw [hc]; unfold stepN gOf aftN; simp only [hn, e1, e3]; exact this
  · obtain ⟨p, y, A, C, hs, hp⟩ := stand (by omega)
    obtain ⟨e1, e2, _⟩ := h.at hs hx hp
    have hgn := hgo (by omega)
    obtain ⟨e3, _⟩ := e2 hgn
    have h1 := h.bef hs o hde
    have hs1 : Stands ns0 (upd σ n (gBef o)) n p y A C := ⟨hs.par, hs.kids, hs.ahead, hs.behind, by rw [upd_ne _ hs.ne]; exact hs.none, hs.other, hs.ne⟩
    obtain ⟨i1, i2, _⟩ := h1.at hs1 hx hp
    have hgn1 : (upd σ n (gBef o) n).gone = false := by rw [upd_at]; exact hgn
    obtain ⟨i3, i4⟩ := i2 hgn1
    have h2 := h1.gone hs1 hgn1
    have e : upd (upd σ n (gBef o)) n gGone = upd σ n (gRep o) := by
      funext k
      unfold upd
      split
      · rfl
      · rfl
    rw [e] at h2
    rw [← i3] at h2
    rw [← e3] at h1 h2 i1 i3 i4
    rw [hc]; unfold stepN gOf
    simp only [hn]
    show Bch ns0 (upd σ n (gRep o)) (outN (befN d ns n o.content) n)
    have eb : befN d ns n o.content = putF d ns p (atN ns n) o.content := by unfold befN; rw [e1]
    rw [eb]
    unfold outN
    rw [i1, if_pos i4]
    exact h2
  · obtain ⟨p, y, A, C, hs, hp⟩ := stand (by omega)
    obtain ⟨e1, e2, e4⟩ := h.at hs hx hp
    rw [hc]; unfold stepN gOf outN; simp only [hn]
    cases hgn : (σ n).gone with
    | false =>
      obtain ⟨e3, e5⟩ := e2 hgn
      have := h.gone hs hgn
      rw [e1] at *
      show Bch ns0 (upd σ n gGone) (if atN ns n < (kidsN ns p).length then _ else _)
      rw [if_pos e5, e3]
      exact this
    | true =>
      show Bch ns0 (upd σ n gGone) (if atN ns n < (kidsN ns (parN ns n)).length then _ else _)
      rw [if_neg (e4 hgn)]
      have : upd σ n gGone = σ := by
        funext k
        unfold upd
        split
        · rename_i hk2
          subst hk2
          unfold gGone
          cases hq : σ k with
          | mk a b c d e f g i => rw [hq] at hgn; simp at hgn; subst hgn; rfl
        · rfl
      rw [this]
      exact h
  · obtain ⟨y, g1, g2, _⟩ := h.each n x hx
    rw [hc]; unfold stepN gOf valN; simp only [hn, g1]
    cases htx : x.text with
    | true => rw [g2, htx]; exact h.valT hx htx o
    | false => rw [g2, htx]; exact h.valE hx htx o

theorem doF_nil (k : Int) (σ : Nat → Sg) : doF k σ [] = σ := rfl
theorem doF_cons (k : Int) (σ : Nat → Sg) (o : Opn) (l : List Opn) : doF k σ (o :: l) = doF k (if o.kind = k then upd σ o.target.toNat (gOf k o) else σ) l := rfl
theorem doN_cons (d : Nat) (k : Int) (ns : List Nd) (o : Opn) (l : List Opn) : doN d k ns (o :: l) = doN d k (if o.kind = k then stepN d k ns o else ns) l := rfl

/-- A kind that leaves values and whoever is gone as they are. -/
theorem do_keep {P : Sg → Prop} {k : Int} (hP : ∀ o s, P s → P (gOf k o s)) : ∀ (l : List Opn) (σ : Nat → Sg), (∀ n, P (σ n)) → ∀ n, P (doF k σ l n) := by
  intro l
  induction l with
  | nil => intro σ h n; exact h n
  | cons o l ih =>
    intro σ h n
    rw [doF_cons]
    refine ih _ (fun m => ?_) n
    split
    · unfold upd
      split
      · exact hP o _ (h m)
      · exact h m
    · exact h m

theorem do_bench {ns0 : List Nd} (hg : goodD ns0 = true) {d : Nat} {k : Int} (hk : 1 ≤ k ∧ k ≤ 10) (hk6 : k ≠ 6) {P : Sg → Prop} (hP : ∀ o s, P s → P (gOf k o s)) (hv : k ≤ 6 → ∀ s, P s → s.val = none) (hgo : k = 3 ∨ k = 4 → ∀ s, P s → s.gone = false) : ∀ (l : List Opn) (σ : Nat → Sg) (ns : List Nd), (∀ o ∈ l, o.kind = k → OkOp ns0 d o) → (∀ n, P (σ n)) → Bch ns0 σ ns → Bch ns0 (doF k σ l) (doN d k ns l) := by
  intro l
  induction l with
  | nil => intro σ ns _ _ h; exact h
  | cons o l ih =>
    intro σ ns ho hσ h
    rw [doF_cons, doN_cons]
    by_cases hok : o.kind = k
    · rw [if_pos hok, if_pos hok]
      refine ih _ _ (fun o' ho' => ho o' (List.mem_cons_of_mem _ ho')) (fun m => ?_) ?_
      · unfold upd
        split
        · exact hP o _ (hσ m)
        · exact hσ m
      · have := h.step hg (ho o List.mem_cons_self hok) (by omega) (fun h6 n => hv (by omega) _ (hσ n)) (fun h34 => hgo (by omega) _ (hσ _))
        rw [hok] at this
        exact this
    · rw [if_neg hok, if_neg hok]
      exact ih _ _ (fun o' ho' => ho o' (List.mem_cons_of_mem _ ho')) hσ h

theorem do_rep {ns0 : List Nd} (hg : goodD ns0 = true) {d : Nat} : ∀ (l : List Opn) (σ : Nat → Sg) (ns : List Nd), (∀ o ∈ l, o.kind = 6 → OkOp ns0 d o) → (∀ n, (σ n).val = none) → (∀ o ∈ l, o.kind = 6 → (σ o.target.toNat).gone = false) → l.Pairwise (fun a b => a.kind = 6 → b.kind = 6 → a.target.toNat ≠ b.target.toNat) → Bch ns0 σ ns → Bch ns0 (doF 6 σ l) (doN d 6 ns l) := by
  intro l
  induction l with
  | nil => intro σ ns _ _ _ _ h; exact h
  | cons o l ih =>
    intro σ ns ho hσ hgo hpw h
    rw [List.pairwise_cons] at hpw
    rw [doF_cons, doN_cons]
    by_cases hok : o.kind = 6
    · rw [if_pos hok, if_pos hok]
      refine ih _ _ (fun o' ho' => ho o' (List.mem_cons_of_mem _ ho')) (fun m => ?_) (fun o' ho' h6 => ?_) hpw.2 ?_
      · unfold upd
        split
        · exact hσ m
        · exact hσ m
      · rw [upd_ne _ (fun e => hpw.1 o' ho' hok h6 e.symm)]
        exact hgo o' (List.mem_cons_of_mem _ ho') h6
      · have := h.step hg (ho o List.mem_cons_self hok) (by omega) (fun _ n => hσ n) (fun _ => hgo o List.mem_cons_self hok)
        rw [hok] at this
        exact this
    · rw [if_neg hok, if_neg hok]
      exact ih _ _ (fun o' ho' => ho o' (List.mem_cons_of_mem _ ho')) hσ (fun o' ho' => hgo o' (List.mem_cons_of_mem _ ho')) hpw.2 h

/-- All changes, kind by kind: what lies on the bench is what is said. -/
theorem bench_all {ns0 : List Nd} (hg : goodD ns0 = true) {d : Nat} {l : List Opn} (ho : ∀ o ∈ l, OkOp ns0 d o) (hpw : l.Pairwise (fun a b => a.kind = 6 → b.kind = 6 → a.target.toNat ≠ b.target.toNat)) : Bch ns0 (saidF ns0 l) (benchN d ns0 l) := by
  have hr : ∀ o ∈ l.reverse, OkOp ns0 d o := fun o h => ho o (List.mem_reverse.1 h)
  have p0 : ∀ n, (sig0 ns0 n).val = none ∧ (sig0 ns0 n).gone = false := by intro n; unfold sig0; split <;> exact ⟨rfl, rfl⟩
  have keep : ∀ (k : Int), k ≠ 5 → k ≠ 6 → k ≠ 7 → 1 ≤ k → k ≤ 10 → ∀ (o : Opn) (s : Sg), s.val = none ∧ s.gone = false → (gOf k o s).val = none ∧ (gOf k o s).gone = false := by
    intro k h5 h6 h7 h1 h10 o s hs
    unfold gOf
    rcases (by omega : k = 8 ∨ k = 9 ∨ k = 10 ∨ k = 3 ∨ k = 2 ∨ k = 1 ∨ k = 4) with rfl | rfl | rfl | rfl | rfl | rfl | rfl <;> exact hs
  have step := fun (k : Int) (h5 : k ≠ 5) (h6 : k ≠ 6) (h7 : k ≠ 7) (h1 : 1 ≤ k) (h10 : k ≤ 10) => do_bench hg (d := d) (k := k) ⟨h1, h10⟩ h6 (P := fun s => s.val = none ∧ s.gone = false) (keep k h5 h6 h7 h1 h10) (fun _ s h => h.1) (fun _ s h => h.2)
  have keepD := fun (k : Int) (h5 : k ≠ 5) (h6 : k ≠ 6) (h7 : k ≠ 7) (h1 : 1 ≤ k) (h10 : k ≤ 10) => do_keep (P := fun s => s.val = none ∧ s.gone = false) (k := k) (keep k h5 h6 h7 h1 h10)
  unfold saidF benchN
  have b8 := step 8 (by omega) (by omega) (by omega) (by omega) (by omega) l _ _ (fun o h _ => ho o h) p0 (Bch.start hg)
  have p8 := keepD 8 (by omega) (by omega) (by omega) (by omega) (by omega) l _ p0
  have b9 := step 9 (by omega) (by omega) (by omega) (by omega) (by omega) l _ _ (fun o h _ => ho o h) p8 b8
  have p9 := keepD 9 (by omega) (by omega) (by omega) (by omega) (by omega) l _ p8
  have b10 := step 10 (by omega) (by omega) (by omega) (by omega) (by omega) l _ _ (fun o h _ => ho o h) p9 b9
  have p10 := keepD 10 (by omega) (by omega) (by omega) (by omega) (by omega) l _ p9
  have b3 := step 3 (by omega) (by omega) (by omega) (by omega) (by omega) l _ _ (fun o h _ => ho o h) p10 b10
  have p3 := keepD 3 (by omega) (by omega) (by omega) (by omega) (by omega) l _ p10
  have b2 := step 2 (by omega) (by omega) (by omega) (by omega) (by omega) l _ _ (fun o h _ => ho o h) p3 b3
  have p2 := keepD 2 (by omega) (by omega) (by omega) (by omega) (by omega) l _ p3
  have b1 := step 1 (by omega) (by omega) (by omega) (by omega) (by omega) l.reverse _ _ (fun o h _ => hr o h) p2 b2
  have p1 := keepD 1 (by omega) (by omega) (by omega) (by omega) (by omega) l.reverse _ p2
  have b4 := step 4 (by omega) (by omega) (by omega) (by omega) (by omega) l.reverse _ _ (fun o h _ => hr o h) p1 b1
  have p4 := keepD 4 (by omega) (by omega) (by omega) (by omega) (by omega) l.reverse _ p1
  have b6 := do_rep hg (d := d) l _ _ (fun o h _ => ho o h) (fun n => (p4 n).1) (fun o _ _ => (p4 _).2) hpw b4
  have p6 := do_keep (P := fun s : Sg => s.val = none) (k := 6) (fun o s hs => hs) l _ (fun n => (p4 n).1)
  have b5 := do_bench hg (d := d) (k := 5) (by omega) (by omega) (P := fun s => s.val = none) (fun o s hs => hs) (fun _ s h => h) (fun h => by omega) l _ _ (fun o h _ => ho o h) p6 b6
  exact do_bench hg (d := d) (k := 7) (by omega) (by omega) (P := fun _ => True) (fun _ _ _ => trivial) (fun h => by omega) (fun h => by omega) l _ _ (fun o h _ => ho o h) (fun _ => trivial) b5
end Go.Proofs.Ytlchbhlmbphkpaa

/- What is wrong with changes, and what comes of them, as plain data; it does not matter which of two is said first. No condition. -/
namespace Go.Proofs.Ytlchbhlmbphkpaa
open Go.RowKit
set_option maxRecDepth 100000

def hasC (k : Int) : Bool := decide (k = 1) || decide (k = 2) || decide (k = 3) || decide (k = 4) || decide (k = 6)
def hasN (k : Int) : Bool := decide (k = 8) || decide (k = 9) || decide (k = 10)
def hasS (k : Int) : Bool := decide (k = 7) || decide (k = 9)
def placeB (k : Int) : Bool := decide (k = 3) || decide (k = 4) || decide (k = 5) || decide (k = 6)
def contOk (o : Opn) : Bool := if hasC o.kind then contentB o.content else decide (o.content.length = 0)
def nameOk (o : Opn) : Bool := if hasN o.kind then nameB o.name else decide (o.name = ⟨#[]⟩)
def textOk (o : Opn) : Bool := if hasS o.kind then plainB o.s else decide (o.s = ⟨#[]⟩)
def textAt (ns : List Nd) (n : Int) : Bool := match ns[n.toNat]? with
  | some x => x.text
  | none => false

/-- What is wrong with one change of a good document's nodes. -/
def wrongF (ns : List Nd) (o : Opn) : Int :=
  if decide (o.kind < 1) || decide (10 < o.kind) then 4
  else if decide (o.target < 0) || decide ((ns.length : Int) ≤ o.target) then 3
  else if !(contOk o) || !(nameOk o) || !(textOk o) then 1
  else if decide (o.target = 0) && placeB o.kind then 6
  else if textAt ns o.target && !(placeB o.kind) && !(decide (o.kind = 7)) then 4
  else 0

/-- Whether two go against one another. -/
def agB (a b : Opn) : Bool := decide (a.target = b.target) && ((decide (a.kind = 6) && decide (b.kind = 6)) || (decide (a.kind = 7) && decide (b.kind = 7)) || (decide (a.kind = 8) && decide (b.kind = 8)) ||
  ((decide (a.kind = 9) || decide (a.kind = 10)) && (decide (b.kind = 9) || decide (b.kind = 10)) && decide (a.name = b.name)))

def twiceB : List Opn → Bool
  | [] => false
  | o :: l => l.any (agB o) || twiceB l

def firstF (ns : List Nd) : List Opn → Int
  | [] => 0
  | o :: l => if wrongF ns o = 0 then firstF ns l else wrongF ns o

/-- What is wrong with changes, all together. -/
def checkF (ns : List Nd) (l : List Opn) : Int :=
  if !goodD ns then 1 else if 20 < l.length then 2 else if firstF ns l ≠ 0 then firstF ns l else if twiceB l then 5 else 0

theorem agB_symm (a b : Opn) : agB a b = agB b a := by
  unfold agB
  rw [Bool.eq_iff_iff]
  simp only [Bool.and_eq_true, Bool.or_eq_true, decide_eq_true_eq]
  constructor
  · rintro ⟨h1, h2⟩
    refine ⟨h1.symm, ?_⟩
    rcases h2 with ((h2 | h2) | h2) | h2
    · exact Or.inl (Or.inl (Or.inl ⟨h2.2, h2.1⟩))
    · exact Or.inl (Or.inl (Or.inr ⟨h2.2, h2.1⟩))
    · exact Or.inl (Or.inr ⟨h2.2, h2.1⟩)
    · exact Or.inr ⟨⟨h2.1.2, h2.1.1⟩, h2.2.symm⟩
  · rintro ⟨h1, h2⟩
    refine ⟨h1.symm, ?_⟩
    rcases h2 with ((h2 | h2) | h2) | h2
    · exact Or.inl (Or.inl (Or.inl ⟨h2.2, h2.1⟩))
    · exact Or.inl (Or.inl (Or.inr ⟨h2.2, h2.1⟩))
    · exact Or.inl (Or.inr ⟨h2.2, h2.1⟩)
    · exact Or.inr ⟨⟨h2.1.2, h2.1.1⟩, h2.2.symm⟩

theorem firstF_zero (ns : List Nd) : ∀ l : List Opn, firstF ns l = 0 ↔ ∀ o ∈ l, wrongF ns o = 0 := by
  intro l
  induction l with
  | nil => simp [firstF]
  | cons o l ih =>
    rw [firstF]
    by_cases h : wrongF ns o = 0
    · rw [if_pos h, ih]; simp [h]
    · rw [if_neg h]; simp [h]

theorem twiceB_false : ∀ l : List Opn, twiceB l = false ↔ l.Pairwise (fun a b => agB a b = false) := by
  intro l
  induction l with
  | nil => simp [twiceB]
  | cons o l ih => rw [twiceB, List.pairwise_cons, Bool.or_eq_false_iff, ih]; simp

theorem check_ok (ns : List Nd) (l : List Opn) : checkF ns l = 0 ↔ goodD ns = true ∧ l.length ≤ 20 ∧ (∀ o ∈ l, wrongF ns o = 0) ∧ l.Pairwise (fun a b => agB a b = false) := by
  rw [← firstF_zero, ← twiceB_false]
  unfold checkF
  cases hg : goodD ns with
  | false => simp
  | true =>
    simp only [Bool.not_true, Bool.false_eq_true, if_false, true_and]
    by_cases hl : 20 < l.length
    · rw [if_pos hl]; constructor
      · intro h; omega
      · rintro ⟨h, _⟩; omega
    · rw [if_neg hl]
      by_cases hf : firstF ns l = 0
      · rw [if_neg (by simpa using hf)]
        cases ht : twiceB l with
        | true => simp
        | false => simp [hf]; omega
      · rw [if_pos hf]
        constructor
        · intro h; exact absurd h hf
        · rintro ⟨_, h, _⟩; exact absurd h hf

theorem rb_deep : ∀ (d : Nat) (room : Int) (l : List Tr), 0 ≤ rb d room l → Deep d l := by
  intro d
  induction d with
  | zero =>
    intro room l h
    unfold rb at h
    split at h
    · rename_i he
      have : l = [] := by simpa using he
      exact this
    · omega
  | succ d ih =>
    intro room l h
    unfold rb at h
    split at h
    · rename_i he
      have : l = [] := by simpa using he
      subst this
      intro t ht
      simp at ht
    · split at h
      · omega
      · obtain ⟨_, _, h3⟩ := rl_clean (rb d) (Deep d) (fun room l h => ih room l h) l false _ h (by omega)
        exact h3

theorem Deep.more : ∀ {n : Nat} {ts : List Tr}, Deep n ts → Deep (n + 1) ts := by
  intro n
  induction n with
  | zero => intro ts h; have h : ts = [] := h; subst h; intro t ht; simp at ht
  | succ n ih => intro ts h t ht; exact ih (h t ht)

theorem Deep.upto {n m : Nat} {ts : List Tr} (h : Deep n ts) (hm : n ≤ m) : Deep m ts := by
  obtain ⟨k, rfl⟩ : ∃ k, m = n + k := ⟨m - n, by omega⟩
  clear hm
  induction k with
  | zero => exact h
  | succ k ih => exact ih.more

theorem content_deep {l : List Tr} (h : contentB l = true) : ∀ k ∈ l, Deep 8 k.kids := by
  have h1 : Deep 8 l := rb_deep 8 80 l (by simpa [contentB] using h)
  intro k hk
  exact Deep.more (n := 7) (h1 k hk)

/-- A change that nothing is wrong with. -/
theorem ok_of {ns : List Nd} {o : Opn} (h : wrongF ns o = 0) : OkOp ns 8 o ∧ 1 ≤ o.kind ∧ o.kind ≤ 10 ∧ contOk o = true ∧ nameOk o = true ∧ textOk o = true := by
  unfold wrongF at h
  split at h
  · omega
  · rename_i h1
    split at h
    · omega
    · rename_i h2
      split at h
      · omega
      · rename_i h3
        split at h
        · omega
        · rename_i h4
          split at h
          · omega
          · rename_i h5
            simp only [Bool.or_eq_true, decide_eq_true_eq, not_or, Bool.not_eq_true', Bool.not_eq_false, Bool.and_eq_true, not_and] at h1 h2 h3 h4 h5
            obtain ⟨⟨hc, hn⟩, ht⟩ := h3
            refine ⟨⟨by omega, by omega, ?_, ?_, ?_⟩, by omega, by omega, hc, hn, ht⟩
            · unfold contOk at hc
              split at hc
              · exact content_deep hc
              · have : o.content = [] := List.eq_nil_of_length_eq_zero (by simpa using hc)
                rw [this]
                intro k hk
                simp at hk
            · intro x hx hk
              cases htx : x.text with
              | false => rfl
              | true =>
                have e : textAt ns o.target = true := by unfold textAt; rw [hx]; exact htx
                by_cases hp : placeB o.kind = false
                · exfalso
                  have h6 := h5 ⟨e, hp⟩
                  omega
                · exfalso
                  simp [placeB] at hp
                  omega
            · intro hk e
              have e1 : o.target = 0 := by omega
              have := h4 e1
              simp [placeB] at this
              omega

/-- The tree of what is said. -/
def applyT (ns : List Nd) (l : List Opn) : Tr := bodyF ns.length ns (saidF ns l) 0
/-- That, joined. -/
def applyJ (ns : List Nd) (l : List Opn) : Tr := jk (ns.length + 9) (applyT ns l)
/-- What change.Apply answers. -/
def applyD (ns : List Nd) (l : List Opn) : List Nd := if checkF ns l = 0 then (if goodB (applyJ ns l) then layF (ns.length + 9) (applyJ ns l) (-1) 0 else ns) else ns
def applyE (ns : List Nd) (l : List Opn) : Int := if checkF ns l = 0 then (if goodB (applyJ ns l) then 0 else 2) else checkF ns l

def inK (k : Int) (n : Nat) (o : Opn) : Bool := decide (o.kind = k) && decide (o.target.toNat = n)
def ofK (l : List Opn) (k : Int) (n : Nat) : List Opn := l.filter (inK k n)

theorem doF_at (k : Int) (n : Nat) : ∀ (l : List Opn) (σ : Nat → Sg), doF k σ l n = (ofK l k n).foldl (fun s o => gOf k o s) (σ n) := by
  intro l
  induction l with
  | nil => intro σ; rfl
  | cons o l ih =>
    intro σ
    rw [doF_cons, ih]
    unfold ofK
    by_cases hk : o.kind = k
    · rw [if_pos hk]
      by_cases ht : o.target.toNat = n
      · rw [List.filter_cons_of_pos (by simp [inK, hk, ht]), List.foldl_cons, ht, upd_at]
      · rw [List.filter_cons_of_neg (by simp [inK, ht]), upd_ne _ (fun e => ht e.symm)]
    · rw [if_neg hk, List.filter_cons_of_neg (by simp [inK, hk])]

theorem said_order {ns : List Nd} {l m : List Opn} (h : ∀ k n, ofK l k n = ofK m k n) : saidF ns l = saidF ns m := by
  have hr : ∀ k n, ofK l.reverse k n = ofK m.reverse k n := fun k n => by
    have := h k n
    unfold ofK at this ⊢
    rw [List.filter_reverse, List.filter_reverse, this]
  have step : ∀ (k : Int) (σ τ : Nat → Sg), σ = τ → doF k σ l = doF k τ m := by
    intro k σ τ e
    subst e
    funext n
    rw [doF_at, doF_at, h k n]
  have stepR : ∀ (k : Int) (σ τ : Nat → Sg), σ = τ → doF k σ l.reverse = doF k τ m.reverse := by
    intro k σ τ e
    subst e
    funext n
    rw [doF_at, doF_at, hr k n]
  unfold saidF
  exact step 7 _ _ (step 5 _ _ (step 6 _ _ (stepR 4 _ _ (stepR 1 _ _ (step 2 _ _ (step 3 _ _ (step 10 _ _ (step 9 _ _ (step 8 _ _ rfl)))))))))

theorem ofK_swap {a b : Opn} (h : a.kind ≠ b.kind ∨ a.target.toNat ≠ b.target.toNat) (A C : List Opn) (k : Int) (n : Nat) : ofK (A ++ a :: b :: C) k n = ofK (A ++ b :: a :: C) k n := by
  unfold ofK
  rw [List.filter_append, List.filter_append]
  congr 1
  by_cases ha : inK k n a = true
  · have hb : ¬ inK k n b = true := by
      unfold inK at ha ⊢
      simp only [Bool.and_eq_true, decide_eq_true_eq] at ha ⊢
      rintro ⟨h1, h2⟩
      rcases h with h | h
      · exact h (by rw [ha.1, h1])
      · exact h (by rw [ha.2, h2])
    rw [List.filter_cons_of_pos ha, List.filter_cons_of_neg hb, List.filter_cons_of_neg hb, List.filter_cons_of_pos ha]
  · by_cases hb : inK k n b = true
    · rw [List.filter_cons_of_neg ha, List.filter_cons_of_pos hb, List.filter_cons_of_pos hb, List.filter_cons_of_neg ha]
    · rw [List.filter_cons_of_neg ha, List.filter_cons_of_neg hb, List.filter_cons_of_neg hb, List.filter_cons_of_neg ha]

theorem mem_swap {a b o : Opn} {A C : List Opn} (h : o ∈ A ++ b :: a :: C) : o ∈ A ++ a :: b :: C := by
  simp only [List.mem_append, List.mem_cons] at h ⊢
  rcases h with h | h | h | h
  · exact Or.inl h
  · exact Or.inr (Or.inr (Or.inl h))
  · exact Or.inr (Or.inl h)
  · exact Or.inr (Or.inr (Or.inr h))

theorem check_swap (ns : List Nd) (a b : Opn) (A C : List Opn) : checkF ns (A ++ a :: b :: C) = 0 → checkF ns (A ++ b :: a :: C) = 0 := by
  rw [check_ok, check_ok]
  rintro ⟨h1, h2, h3, h4⟩
  refine ⟨h1, by simpa using h2, fun o ho => h3 o (mem_swap ho), ?_⟩
  rw [List.pairwise_append, List.pairwise_cons, List.pairwise_cons] at h4 ⊢
  obtain ⟨p1, ⟨p2, p3, p4⟩, p5⟩ := h4
  refine ⟨p1, ⟨fun o ho => ?_, fun o ho => ?_, p4⟩, fun x hx y hy => p5 x hx y (mem_swap (A := []) hy)⟩
  · rcases List.mem_cons.1 ho with rfl | ho
    · rw [agB_symm]; exact p2 b List.mem_cons_self
    · exact p3 o ho
  · exact p2 o (List.mem_cons_of_mem _ ho)

/-- Two that stand beside one another may change places. -/
theorem apply_swap {ns : List Nd} {a b : Opn} (h : a.kind ≠ b.kind ∨ a.target ≠ b.target) (A C : List Opn) : applyD ns (A ++ a :: b :: C) = applyD ns (A ++ b :: a :: C) ∧ (applyE ns (A ++ a :: b :: C) = 0 ↔ applyE ns (A ++ b :: a :: C) = 0) := by
  unfold applyD applyE
  by_cases hc : checkF ns (A ++ a :: b :: C) = 0
  · have hc2 := check_swap ns a b A C hc
    have h3 := ((check_ok _ _).1 hc).2.2.1
    have oa := (ok_of (h3 a (by simp))).1
    have ob := (ok_of (h3 b (by simp))).1
    have e : saidF ns (A ++ a :: b :: C) = saidF ns (A ++ b :: a :: C) := said_order (fun k n => ofK_swap (by
      rcases h with h | h
      · exact Or.inl h
      · exact Or.inr (fun e => h (by have := oa.pos; have := ob.pos; omega))) A C k n)
    have eT : applyJ ns (A ++ a :: b :: C) = applyJ ns (A ++ b :: a :: C) := by unfold applyJ applyT; rw [e]
    rw [if_pos hc, if_pos hc2, if_pos hc, if_pos hc2, eT]
    exact ⟨rfl, Iff.rfl⟩
  · have hc2 : ¬ checkF ns (A ++ b :: a :: C) = 0 := fun h => hc (check_swap ns b a A C h)
    rw [if_neg hc, if_neg hc2, if_neg hc, if_neg hc2]
    exact ⟨rfl, by constructor <;> intro h <;> contradiction⟩
end Go.Proofs.Ytlchbhlmbphkpaa

/- A document told by its parents alone: its trees, who is in whom, whether it is one: on plain data. No condition. -/
namespace Go.Proofs.Ytlchbhlmbphkpaa
open Go.RowKit
set_option maxRecDepth 100000

def parB (ns : List Nd) (n k : Nat) : Bool := match ns[k]? with | some y => decide (y.parent = (n : Int)) | none => false
/-- Those whose parent a node is, from a number on up to another. -/
def sonsF (ns : List Nd) (n : Nat) : Nat → List Int
  | 0 => []
  | k + 1 => sonsF ns n k ++ (if n < k ∧ parB ns n k = true then [(k : Int)] else [])

def treeF : Nat → List Nd → Nat → Tr
  | 0, _, _ => ⟨false, ⟨#[]⟩, [], []⟩
  | f + 1, ns, n => match ns[n]? with
    | none => ⟨false, ⟨#[]⟩, [], []⟩
    | some x => ⟨x.text, x.s, x.attrs, (sonsF ns n ns.length).map fun k => treeF f ns k.toNat⟩

theorem sonsF_mem (ns : List Nd) (n : Nat) : ∀ (m : Nat) (u : Int), u ∈ sonsF ns n m ↔ ∃ k : Nat, u = (k : Int) ∧ k < m ∧ n < k ∧ parB ns n k = true := by
  intro m
  induction m with
  | zero => intro u; simp [sonsF]
  | succ m ih =>
    intro u
    rw [sonsF, List.mem_append, ih]
    constructor
    · rintro (⟨k, h1, h2, h3⟩ | h)
      · exact ⟨k, h1, by omega, h3⟩
      · split at h
        · rename_i hc
          rw [List.mem_singleton] at h
          exact ⟨m, h, by omega, hc⟩
        · simp at h
    · rintro ⟨k, h1, h2, h3⟩
      by_cases hk : k = m
      · subst hk
        right
        rw [if_pos h3, h1]
        exact List.mem_singleton.2 rfl
      · exact Or.inl ⟨k, h1, by omega, h3⟩

theorem sonsF_sorted (ns : List Nd) (n : Nat) : ∀ (m : Nat), (sonsF ns n m).Pairwise (fun u v => u < v) := by
  intro m
  induction m with
  | zero => exact List.Pairwise.nil
  | succ m ih =>
    rw [sonsF, List.pairwise_append]
    refine ⟨ih, ?_, ?_⟩
    · split
      · exact List.Pairwise.cons (by simp) List.Pairwise.nil
      · exact List.Pairwise.nil
    · intro u hu v hv
      obtain ⟨k, rfl, hk, _⟩ := (sonsF_mem ns n m u).1 hu
      split at hv
      · rw [List.mem_singleton] at hv; omega
      · simp at hv

theorem rise_ext : ∀ {a b : List Int}, a.Pairwise (fun u v => u < v) → b.Pairwise (fun u v => u < v) → (∀ u, u ∈ a ↔ u ∈ b) → a = b := by
  intro a
  induction a with
  | nil =>
    intro b _ _ h
    cases b with
    | nil => rfl
    | cons y b => exact absurd ((h y).2 List.mem_cons_self) (by simp)
  | cons x a ih =>
    intro b ha hb h
    cases b with
    | nil => exact absurd ((h x).1 List.mem_cons_self) (by simp)
    | cons y b =>
      rw [List.pairwise_cons] at ha hb
      have hxy : x = y := by
        have h1 := (h x).1 List.mem_cons_self
        have h2 := (h y).2 List.mem_cons_self
        rw [List.mem_cons] at h1 h2
        rcases h1 with h1 | h1
        · exact h1
        · rcases h2 with h2 | h2
          · exact h2.symm
          · have := hb.1 x h1
            have := ha.1 y h2
            omega
      subst hxy
      rw [ih ha.2 hb.2 (fun u => ?_)]
      constructor
      · intro hu
        have h1 := (h u).1 (List.mem_cons_of_mem _ hu)
        rw [List.mem_cons] at h1
        rcases h1 with rfl | h1
        · exact absurd (ha.1 u hu) (by omega)
        · exact h1
      · intro hu
        have h1 := (h u).2 (List.mem_cons_of_mem _ hu)
        rw [List.mem_cons] at h1
        rcases h1 with rfl | h1
        · exact absurd (hb.1 u hu) (by omega)
        · exact h1

theorem sons_kids {ns : List Nd} (hg : goodD ns = true) {n : Nat} {x : Nd} (hx : ns[n]? = some x) : sonsF ns n ns.length = x.kids := by
  refine rise_ext (sonsF_sorted _ _ _) (rise_kids hg hx) (fun u => ?_)
  rw [sonsF_mem]
  constructor
  · rintro ⟨k, rfl, hk, hnk, hp⟩
    unfold parB at hp
    cases hy : ns[k]? with
    | none => rw [hy] at hp; cases hp
    | some y =>
      rw [hy] at hp
      simp only [decide_eq_true_eq] at hp
      exact (kid_iff hg hx hy).2 hp
  · intro hu
    obtain ⟨k, y, rfl, h1, h2, _, hy, hp⟩ := (good_fam hg hx).kids u hu
    exact ⟨k, rfl, h2, h1, by unfold parB; rw [hy]; simp [hp]⟩

theorem tree_grow {ns : List Nd} (hg : goodD ns = true) : ∀ (f n : Nat), treeF f ns n = growF f ns n := by
  intro f
  induction f with
  | zero => intro n; rfl
  | succ f ih =>
    intro n
    rw [treeF, growF]
    cases hx : ns[n]? with
    | none => rfl
    | some x =>
      simp only
      rw [sons_kids hg hx]
      congr 1
      apply List.map_congr_left
      intro k _
      exact ih _

/-- Parents are earlier nodes. -/
def parsB (ns : List Nd) : Nat → Bool
  | 0 => true
  | k + 1 => parsB ns k && (match ns[k]? with | some x => decide (k = 0) || (decide (0 ≤ x.parent) && decide (x.parent < (k : Int))) | none => true)

/-- It is what is made of its tree. -/
def madeOf (ns : List Nd) (t : Tr) : Prop := goodB t = true ∧ ∃ d, Deep d t.kids ∧ layF d t (-1) 0 = ns

theorem isDoc_iff {ns : List Nd} : goodD ns = true ↔ (0 < ns.length ∧ ns.length ≤ 80 ∧ (∃ x, ns[0]? = some x ∧ x.parent = -1) ∧ parsB ns ns.length = true ∧ madeOf ns (treeF ns.length ns 0)) := by
  constructor
  · intro hg
    obtain ⟨d, t, hd, hs, hc, _, _, hgb, hgr⟩ := good_root hg
    have h80 : ns.length ≤ 80 := by
      have := hg
      simp only [goodD, Bool.and_eq_true, decide_eq_true_eq] at this
      exact this.1.1
    have hpos : 0 < ns.length := by rw [← hc, cnt_one]; omega
    refine ⟨hpos, h80, ⟨_, hs 0 _ (by rw [layF_head hd (-1) 0]; rfl), rfl⟩, ?_, ?_⟩
    · have : ∀ k, parsB ns k = true := by
        intro k
        induction k with
        | zero => rfl
        | succ k ih =>
          rw [parsB, ih, Bool.true_and]
          cases hx : ns[k]? with
          | none => rfl
          | some x =>
            simp only [Bool.or_eq_true, Bool.and_eq_true, decide_eq_true_eq]
            rcases (good_fam hg hx).par with ⟨h, _⟩ | ⟨q, _, _, hp, hq, _⟩
            · exact Or.inl h
            · exact Or.inr (by omega)
      exact this _
    · rw [tree_grow hg, hgr]
      refine ⟨hgb, d, hd, ?_⟩
      have hlen := layF_length d t (-1) 0 hd
      apply List.ext_getElem?
      intro i
      rcases Nat.lt_or_ge i ns.length with hi | hi
      · have : (layF d t (-1) 0)[i]? = some (layF d t (-1) 0)[i] := List.getElem?_eq_getElem (by omega)
        rw [this]
        have := hs i _ this
        rw [Nat.zero_add] at this
        exact this.symm
      · rw [List.getElem?_eq_none (by omega), List.getElem?_eq_none (by omega)]
  · rintro ⟨_, _, _, _, hgb, d, hd, hL⟩
    have := (made_good hd hgb).1
    rw [hL] at this
    exact this

/-- By its parents: is a node another one, or in it? -/
def withF : Nat → List Nd → Int → Int → Bool
  | 0, _, _, _ => false
  | f + 1, ns, n, m => if n < 0 then false else if n = m then true else match ns[n.toNat]? with | some x => withF f ns x.parent m | none => false

theorem with_in {ns : List Nd} (hg : goodD ns = true) (m : Nat) : ∀ (f n : Nat), n < f → n < ns.length → withF f ns (n : Int) (m : Int) = (decide ((m : Int) ≤ n) && decide ((n : Int) < endD ns (m : Int))) ∧ (withF f ns (n : Int) (m : Int) = true → endD ns (n : Int) ≤ endD ns (m : Int)) := by
  intro f
  induction f with
  | zero => intro n h; omega
  | succ f ih =>
    intro n hf hn
    obtain ⟨x, hx⟩ : ∃ x, ns[n]? = some x := ⟨ns[n], by simp [hn]⟩
    have hgt := (good_fam hg hx).gt
    rw [withF, if_neg (by omega)]
    by_cases he : (n : Int) = (m : Int)
    · rw [if_pos he]
      have : n = m := by omega
      subst this
      refine ⟨by simp; omega, fun _ => Int.le_refl _⟩
    · rw [if_neg he, Int.toNat_natCast, hx]
      simp only
      rcases (good_fam hg hx).par with ⟨h0, hp⟩ | ⟨q, y, hy, hp, hq, hm⟩
      · rw [hp]
        have e : withF f ns (-1) (m : Int) = false := by cases f with
          | zero => rfl
          | succ f => rw [withF, if_pos (by omega)]
        rw [e]
        refine ⟨?_, fun h => by cases h⟩
        have : ¬ ((m : Int) ≤ (n : Int)) := by omega
        simp [this]
      · rw [hp]
        obtain ⟨i1, i2⟩ := ih q (by omega) (lt_of_some hy)
        have hkid := (good_fam hg hy).kids _ hm
        obtain ⟨k, _, ek, _, _, hend, _⟩ := hkid
        have : k = n := by omega
        subst this
        refine ⟨?_, fun h => Int.le_trans hend (i2 h)⟩
        cases hw : withF f ns (q : Int) (m : Int) with
        | true =>
          have h2 := i2 hw
          rw [hw] at i1
          have i1' := i1.symm
          simp only [Bool.and_eq_true, decide_eq_true_eq] at i1'
          symm
          simp only [Bool.and_eq_true, decide_eq_true_eq]
          omega
        | false =>
          rw [hw] at i1
          symm
          rw [Bool.and_eq_false_iff]
          by_cases h1 : (m : Int) ≤ (k : Int)
          · by_cases h2 : (k : Int) < endD ns (m : Int)
            · exfalso
              obtain ⟨q', hq1, hq2, hq3⟩ := good_inner hg hx (m := m) (by omega) h2
              have : q' = q := by omega
              subst this
              have i1' := i1.symm
              rw [Bool.and_eq_false_iff] at i1'
              simp only [decide_eq_false_iff_not] at i1'
              omega
            · exact Or.inr (by simpa using h2)
          · exact Or.inl (by simpa using h1)
end Go.Proofs.Ytlchbhlmbphkpaa

/- What comes of changes is a good document; nothing changes nothing. Plain data. No condition. -/
namespace Go.Proofs.Ytlchbhlmbphkpaa
open Go.RowKit
set_option maxRecDepth 100000

theorem jt_mem : ∀ {ts : List Tr} {u : Tr}, u ∈ jt ts → ∃ t ∈ ts, u.kids = t.kids ∧ u.attrs = t.attrs ∧ u.text = t.text := by
  intro ts
  induction ts with
  | nil => intro u hu; simp [jt] at hu
  | cons t r ih =>
    intro u hu
    have more : (∃ t ∈ r, u.kids = t.kids ∧ u.attrs = t.attrs ∧ u.text = t.text) → ∃ t' ∈ t :: r, u.kids = t'.kids ∧ u.attrs = t'.attrs ∧ u.text = t'.text := fun ⟨x, hx, h⟩ => ⟨x, List.mem_cons_of_mem _ hx, h⟩
    unfold jt at hu
    split at hu
    · split at hu
      · exact more (ih hu)
      · split at hu
        · simp at hu; subst hu; exact ⟨u, List.mem_cons_self, rfl, rfl, rfl⟩
        · rename_i v r' hj
          split at hu
          · rcases List.mem_cons.1 hu with rfl | hu
            · exact ⟨t, List.mem_cons_self, rfl, rfl, rfl⟩
            · exact more (ih (by rw [hj]; exact List.mem_cons_of_mem _ hu))
          · rcases List.mem_cons.1 hu with rfl | hu
            · exact ⟨u, List.mem_cons_self, rfl, rfl, rfl⟩
            · exact more (ih (by rw [hj]; exact hu))
    · rcases List.mem_cons.1 hu with rfl | hu
      · exact ⟨u, List.mem_cons_self, rfl, rfl, rfl⟩
      · exact more (ih hu)

theorem jt_deep {n : Nat} {ts : List Tr} (h : Deep n ts) : Deep n (jt ts) := by
  cases n with
  | zero => have e : ts = [] := h; subst e; rfl
  | succ n =>
    intro u hu
    obtain ⟨t, ht, e, _⟩ := jt_mem hu
    rw [e]
    exact h t ht

theorem jk_deep : ∀ (m n : Nat) (t : Tr), Deep n t.kids → Deep n (jk m t).kids := by
  intro m
  induction m with
  | zero => intro n t _; cases n with
    | zero => rfl
    | succ n => intro u hu; simp [jk] at hu
  | succ m ih =>
    intro n t h
    have h1 := jt_deep h
    show Deep n ((jt t.kids).map (jk m))
    cases n with
    | zero => have e : jt t.kids = [] := h1; rw [e]; rfl
    | succ n =>
      intro u hu
      obtain ⟨v, hv, rfl⟩ := List.mem_map.1 hu
      exact ih n v (h1 v hv)

/-- What is put in is not too deep. -/
def SgDeep (s : Sg) : Prop := (∀ k ∈ s.first, Deep 8 k.kids) ∧ (∀ k ∈ s.last, Deep 8 k.kids) ∧ (∀ k ∈ s.bef, Deep 8 k.kids) ∧ (∀ k ∈ s.aft, Deep 8 k.kids)

theorem mem_app {α : Type} {p : α → Prop} {a b : List α} (ha : ∀ k ∈ a, p k) (hb : ∀ k ∈ b, p k) : ∀ k ∈ a ++ b, p k := by
  intro k hk
  rcases List.mem_append.1 hk with h | h
  · exact ha k h
  · exact hb k h

theorem gOf_deep {k : Int} {o : Opn} {s : Sg} (ho : ∀ k ∈ o.content, Deep 8 k.kids) (hs : SgDeep s) : SgDeep (gOf k o s) := by
  obtain ⟨h1, h2, h3, h4⟩ := hs
  unfold gOf
  split
  · exact ⟨h1, h2, h3, h4⟩
  split
  · exact ⟨h1, h2, h3, h4⟩
  split
  · exact ⟨h1, h2, h3, h4⟩
  split
  · exact ⟨h1, h2, mem_app h3 ho, h4⟩
  split
  · exact ⟨h1, mem_app h2 ho, h3, h4⟩
  split
  · exact ⟨mem_app ho h1, h2, h3, h4⟩
  split
  · exact ⟨h1, h2, h3, mem_app ho h4⟩
  split
  · exact ⟨h1, h2, mem_app h3 ho, h4⟩
  split
  · exact ⟨h1, h2, h3, h4⟩
  · exact ⟨h1, h2, h3, h4⟩

theorem doF_deep {k : Int} : ∀ (l : List Opn) (σ : Nat → Sg), (∀ o ∈ l, ∀ k ∈ o.content, Deep 8 k.kids) → (∀ n, SgDeep (σ n)) → ∀ n, SgDeep (doF k σ l n) := by
  intro l
  induction l with
  | nil => intro σ _ h n; exact h n
  | cons o l ih =>
    intro σ ho h n
    rw [doF_cons]
    refine ih _ (fun x hx => ho x (List.mem_cons_of_mem _ hx)) (fun m => ?_) n
    split
    · unfold upd
      split
      · exact gOf_deep (ho o List.mem_cons_self) (h m)
      · exact h m
    · exact h m

theorem said_deep {ns : List Nd} {l : List Opn} (ho : ∀ o ∈ l, ∀ k ∈ o.content, Deep 8 k.kids) : ∀ n, SgDeep (saidF ns l n) := by
  have hr : ∀ o ∈ l.reverse, ∀ k ∈ o.content, Deep 8 k.kids := fun o h => ho o (List.mem_reverse.1 h)
  unfold saidF
  refine doF_deep l _ ho (doF_deep l _ ho (doF_deep l _ ho (doF_deep l.reverse _ hr (doF_deep l.reverse _ hr (doF_deep l _ ho (doF_deep l _ ho (doF_deep l _ ho (doF_deep l _ ho (doF_deep l _ ho ?_)))))))))
  intro n
  unfold sig0
  split
  · exact ⟨by simp [sg0], by simp [sg0], by simp [sg0], by simp [sg0]⟩
  · exact ⟨by simp, by simp, by simp, by simp⟩

theorem allK_new {σ : Nat → Sg} (hσ : ∀ n, SgDeep (σ n)) {n : Nat} {x : Nd} {t : Tr} (ht : Sum.inr t ∈ allK σ n x) : Deep 8 t.kids := by
  have inK : Sum.inr t ∈ kidsK σ n x.kids → Deep 8 t.kids := by
    intro hin
    unfold kidsK newK at hin
    simp only [List.mem_append, List.mem_map, List.mem_flatMap] at hin
    rcases hin with ⟨k, hk, h⟩ | ⟨u, _, h⟩ | ⟨k, hk, h⟩
    · injection h with h; subst h; exact (hσ n).1 k hk
    · unfold placeK newK midK at h
      simp only [List.mem_append, List.mem_map] at h
      rcases h with ⟨k, hk, h⟩ | h | ⟨k, hk, h⟩
      · injection h with h; subst h; exact (hσ _).2.2.1 k hk
      · split at h
        · simp at h
        · simp at h
      · injection h with h; subst h; exact (hσ _).2.2.2 k hk
    · injection h with h; subst h; exact (hσ n).2.1 k hk
  unfold allK at ht
  split at ht
  · exact inK ht
  · split at ht
    · simp at ht; subst ht; intro k hk; simp [valT] at hk
    · exact inK ht

theorem body_deep {ns : List Nd} {σ : Nat → Sg} (hσ : ∀ n, SgDeep (σ n)) : ∀ (f n : Nat), Deep (f + 8) (bodyF f ns σ n).kids := by
  intro f
  induction f with
  | zero => intro n k hk; simp [bodyF] at hk
  | succ f ih =>
    intro n
    rw [bodyF]
    split
    · intro k hk; simp at hk
    · rename_i x hx
      rw [show f + 1 + 8 = (f + 8) + 1 by omega]
      intro k hk
      obtain ⟨e, he, rfl⟩ := List.mem_map.1 hk
      cases e with
      | inl m => exact ih m
      | inr t => exact (allK_new hσ he).upto (by omega)

theorem apply_deep {ns : List Nd} {l : List Opn} (h : checkF ns l = 0) : Deep (ns.length + 8) (applyT ns l).kids ∧ Deep (ns.length + 9) (applyJ ns l).kids := by
  have h3 := ((check_ok _ _).1 h).2.2.1
  have h1 := body_deep (ns := ns) (said_deep (ns := ns) (l := l) (fun o ho => (ok_of (h3 o ho)).1.deep)) ns.length 0
  exact ⟨h1, jk_deep _ _ _ (h1.more)⟩

theorem apply_ok {ns : List Nd} {l : List Opn} (h : applyE ns l = 0) : checkF ns l = 0 ∧ goodB (applyJ ns l) = true ∧ applyD ns l = layF (ns.length + 9) (applyJ ns l) (-1) 0 := by
  unfold applyE at h
  by_cases hc : checkF ns l = 0
  · rw [if_pos hc] at h
    by_cases hg : goodB (applyJ ns l) = true
    · refine ⟨hc, hg, ?_⟩
      unfold applyD
      rw [if_pos hc, if_pos hg]
    · rw [if_neg hg] at h; omega
  · rw [if_neg hc] at h; exact absurd h hc

/-- What comes of changes is good, and has the tree that is said. -/
theorem apply_good {ns : List Nd} {l : List Opn} (h : applyE ns l = 0) : goodD (applyD ns l) = true ∧ growF (applyD ns l).length (applyD ns l) 0 = applyJ ns l := by
  obtain ⟨h1, h2, h3⟩ := apply_ok h
  obtain ⟨g1, g2, _⟩ := made_good (apply_deep h1).2 h2
  rw [h3]
  exact ⟨g1, g2⟩

theorem apply_refused {ns : List Nd} {l : List Opn} (h : applyE ns l ≠ 0) : applyD ns l = ns := by
  unfold applyE at h
  unfold applyD
  by_cases hc : checkF ns l = 0
  · rw [if_pos hc] at h
    rw [if_pos hc]
    by_cases hg : goodB (applyJ ns l) = true
    · rw [if_pos hg] at h; exact absurd rfl h
    · rw [if_neg hg]
  · rw [if_neg hc]

theorem good_join {n d : Nat} {t : Tr} (hg : goodB t = true) (hd : Deep d t.kids) (hn : d ≤ n) : jk n t = t := by
  have h1 : joinB n [t] = [t] := content_join (by simp only [goodB, Bool.and_eq_true] at hg; exact hg.2) (by intro u hu; simp at hu; subst hu; exact hd.upto hn)
  have ht : t.text = false := by simp only [goodB, Bool.and_eq_true, Bool.not_eq_true'] at hg; exact hg.1
  unfold joinB at h1
  rw [jt_elem t [] ht] at h1
  simpa [jt] using h1

theorem cnt_wide : ∀ {d : Nat} {ts : List Tr}, Deep d ts → ∀ {n : Nat}, d ≤ n → cnt n ts = cnt d ts := by
  intro d
  induction d with
  | zero => intro ts h n _; have e : ts = [] := h; subst e; rw [cnt_nil, cnt_nil]
  | succ d ih =>
    intro ts h n hn
    obtain ⟨m, rfl⟩ : ∃ m, n = m + 1 := ⟨n - 1, by omega⟩
    have : ∀ l : List Tr, (∀ t ∈ l, Deep d t.kids) → cnt (m + 1) l = cnt (d + 1) l := by
      intro l
      induction l with
      | nil => intro _; rw [cnt_nil, cnt_nil]
      | cons t r ihl =>
        intro hl
        rw [cnt_cons, cnt_cons, ih (hl t List.mem_cons_self) (by omega), ihl (fun u hu => hl u (List.mem_cons_of_mem _ hu))]
    exact this ts h

/-- How deep one looks does not matter to what is laid. -/
theorem lay_upto : ∀ {d : Nat} {t : Tr} {par : Int} {a : Nat}, Deep d t.kids → ∀ {n : Nat}, d ≤ n → layF n t par a = layF d t par a := by
  intro d
  induction d with
  | zero =>
    intro t par a h n _
    have e : t.kids = [] := h
    cases n with
    | zero => rfl
    | succ n => rw [layF, layF, e]; rfl
  | succ d ih =>
    intro t par a h n hn
    obtain ⟨m, rfl⟩ : ∃ m, n = m + 1 := ⟨n - 1, by omega⟩
    rw [layF, layF]
    have : ∀ (l : List Tr) (b : Nat), (∀ k ∈ l, Deep d k.kids) → startsOf m b l = startsOf d b l ∧ laysOf m (layF m) a b l = laysOf d (layF d) a b l := by
      intro l
      induction l with
      | nil => intro b _; exact ⟨rfl, rfl⟩
      | cons k r ihl =>
        intro b hl
        have hk := hl k List.mem_cons_self
        have ec : cnt (m + 1) [k] = cnt (d + 1) [k] := cnt_wide (d := d + 1) (by intro u hu; simp at hu; subst hu; exact hk) (by omega)
        obtain ⟨e1, e2⟩ := ihl (b + cnt (d + 1) [k]) (fun u hu => hl u (List.mem_cons_of_mem _ hu))
        rw [startsOf, startsOf, laysOf, laysOf, ec, e1, e2, ih hk (by omega)]
        exact ⟨rfl, rfl⟩
    obtain ⟨e1, e2⟩ := this t.kids (a + 1) h
    rw [e1, e2]

/-- A good document is laid of its tree. -/
theorem good_laid {ns : List Nd} (hg : goodD ns = true) : ∃ (d : Nat) (t : Tr), Deep d t.kids ∧ layF d t (-1) 0 = ns ∧ goodB t = true ∧ growF ns.length ns 0 = t ∧ t.text = false ∧ rgt (d + 1) [t] = true ∧ d ≤ ns.length + 1 := by
  have hg2 := hg
  simp only [goodD, Bool.and_eq_true, decide_eq_true_eq] at hg2
  have ho := orderly_eq hg2.1.2
  obtain ⟨t, hd, hs, hn⟩ := ord_conv (ns.length + 1) ns (-1) 0 (by rw [ho])
  rw [ho] at hn
  simp only [Nat.zero_add] at hn
  have hgr := grow_lay _ t ns.length ns (-1) 0 hd hs (by omega)
  have hG := hg2.2
  rw [hgr] at hG
  have hG2 := hG
  rw [goodB_eq hd] at hG
  simp only [Bool.and_eq_true, Bool.not_eq_true'] at hG
  refine ⟨_, t, hd, ?_, hG2, hgr, hG.1.1.1, hG.2, Nat.le_refl _⟩
  have hl := layF_length _ t (-1) 0 hd
  refine List.ext_getElem? (fun i => ?_)
  rcases Nat.lt_or_ge i ns.length with hi | hi
  · have e : (layF (ns.length + 1) t (-1) 0)[i]? = some ((layF (ns.length + 1) t (-1) 0)[i]'(by omega)) := List.getElem?_eq_getElem _
    have := hs i _ e
    rw [Nat.zero_add] at this
    rw [e, this]
  · rw [List.getElem?_eq_none hi, List.getElem?_eq_none (by omega)]

theorem check_nil {ns : List Nd} (hg : goodD ns = true) : checkF ns [] = 0 := by rw [check_ok]; exact ⟨hg, by simp, by simp, List.Pairwise.nil⟩

/-- Nothing changes nothing. -/
theorem apply_nil {ns : List Nd} (hg : goodD ns = true) : applyE ns [] = 0 ∧ applyD ns [] = ns := by
  obtain ⟨d, t, hd, hl, hG, hgr, _, _, hdl⟩ := good_laid hg
  have hb : applyT ns [] = t := by
    have h0 : 0 < ns.length := by rw [← hl, layF_length d t (-1) 0 hd, cnt_one]; omega
    have := grow_bench hg (Bch.start hg) ns.length ns.length 0 h0 (by omega) (by omega)
    rw [hgr] at this
    exact this.symm
  have hj : applyJ ns [] = t := by unfold applyJ; rw [hb]; exact good_join hG hd (by omega)
  have hc := check_nil hg
  unfold applyE applyD
  rw [if_pos hc, if_pos hc, hj, if_pos hG, if_pos hG]
  exact ⟨rfl, by rw [lay_upto hd (by omega), hl]⟩
end Go.Proofs.Ytlchbhlmbphkpaa

/- One node of a document and what stands around it: what a change at that node makes of the tree. Plain data. No condition. -/
namespace Go.Proofs.Ytlchbhlmbphkpaa
open Go.RowKit
set_option maxRecDepth 100000

/-- A node above: itself, its kids ahead and behind. -/
structure Fr where
  t : Tr
  ahead : List Tr
  behind : List Tr

def plug : List Fr → List Tr → List Tr
  | [], X => X
  | f :: fs, X => [{ f.t with kids := f.ahead ++ (plug fs X ++ f.behind) }]

/-- The number of what is plugged in. -/
def stZ (D : Nat) : List Fr → Nat → Nat
  | [], a => a
  | f :: fs, a => stZ D fs (a + 1 + cnt D f.ahead)

theorem stZ_ge (D : Nat) : ∀ (fs : List Fr) (a : Nat), a ≤ stZ D fs a := by
  intro fs
  induction fs with
  | nil => intro a; exact Nat.le_refl _
  | cons f fs ih => intro a; have := ih (a + 1 + cnt D f.ahead); show a ≤ stZ D fs _; omega

/-- Trees laid one behind another. -/
def SegL (ns : List Nd) (d : Nat) : Nat → List Tr → Prop
  | _, [] => True
  | b, k :: ks => (∃ par : Int, Seg ns b (layF d k par b)) ∧ SegL ns d (b + cnt (d + 1) [k]) ks

theorem segL_of {ns : List Nd} {d p : Nat} : ∀ (ks : List Tr) (b : Nat), (∀ k ∈ ks, Deep d k.kids) → Seg ns b (laysOf d (layF d) p b ks) → SegL ns d b ks := by
  intro ks
  induction ks with
  | nil => intro b _ _; trivial
  | cons k ks ih =>
    intro b hd hs
    rw [laysOf] at hs
    have hk := hd k List.mem_cons_self
    have hr := hs.right
    rw [layF_length d k p b hk] at hr
    exact ⟨⟨_, hs.left⟩, ih _ (fun u hu => hd u (List.mem_cons_of_mem _ hu)) hr⟩

theorem segL_append {ns : List Nd} {d : Nat} : ∀ (A C : List Tr) (b : Nat), SegL ns d b (A ++ C) → SegL ns d b A ∧ SegL ns d (b + cnt (d + 1) A) C := by
  intro A
  induction A with
  | nil => intro C b h; exact ⟨trivial, by simpa [cnt_nil] using h⟩
  | cons k A ih =>
    intro C b h
    obtain ⟨h1, h2⟩ := ih C _ h.2
    refine ⟨⟨h.1, h1⟩, ?_⟩
    rw [cnt_more, ← Nat.add_assoc]
    exact h2

/-- What stands in the place of a kid. -/
def plK (f : Nat) (ns : List Nd) (σ : Nat → Sg) (u : Int) : List Tr := (placeK (σ u.toNat) u.toNat).map (Sum.elim (fun k => bodyF f ns σ k) id)

theorem elim_new (g : Nat → Tr) (l : List Tr) : (newK l).map (Sum.elim g id) = l := by
  unfold newK
  rw [List.map_map]
  conv => rhs; rw [← List.map_id l]
  rfl

theorem kids_map {f : Nat} {ns : List Nd} {σ : Nat → Sg} {n : Nat} (l : List Int) : (kidsK σ n l).map (Sum.elim (fun k => bodyF f ns σ k) id) = (σ n).first ++ (l.flatMap (plK f ns σ) ++ (σ n).last) := by
  unfold kidsK
  rw [List.map_append, List.map_append, elim_new, elim_new, List.map_flatMap]
  rfl

/-- A node of which nothing is said. -/
theorem body_plain {f : Nat} {ns : List Nd} {σ : Nat → Sg} {n : Nat} {x : Nd} (hx : ns[n]? = some x) (hs : σ n = sg0 x) : bodyF (f + 1) ns σ n = ⟨x.text, x.s, x.attrs, x.kids.flatMap (plK f ns σ)⟩ := by
  rw [bodyF, hx]
  have h1 : sK σ n x = x.s := by unfold sK; rw [hs]; cases x.text <;> rfl
  have h2 : allK σ n x = kidsK σ n x.kids := by unfold allK; rw [hs]; cases x.text <;> rfl
  show (⟨x.text, sK σ n x, (σ n).attrs, (allK σ n x).map _⟩ : Tr) = _
  rw [h1, h2, kids_map, hs]
  simp [sg0]

theorem place_plain {f : Nat} {ns : List Nd} {σ : Nat → Sg} {n : Nat} {x : Nd} (hs : σ n = sg0 x) : plK f ns σ (n : Int) = [bodyF f ns σ n] := by
  unfold plK placeK midK newK
  rw [Int.toNat_natCast, hs]
  rfl

theorem cnt_pos (d : Nat) (t : Tr) : 0 < cnt (d + 1) [t] := by rw [cnt_one]; omega

section
variable {ns : List Nd} {σ : Nat → Sg} {n : Nat}

theorem list_out (hσ : ∀ k x, k ≠ n → ns[k]? = some x → σ k = sg0 x) {d f : Nat} (ih : ∀ (t : Tr) (par : Int) (a : Nat), Deep d t.kids → Seg ns a (layF d t par a) → cnt (d + 1) [t] ≤ f → (n < a ∨ a + cnt (d + 1) [t] ≤ n) → bodyF f ns σ a = t) : ∀ (ks : List Tr) (b : Nat), (∀ k ∈ ks, Deep d k.kids) → SegL ns d b ks → cnt (d + 1) ks ≤ f → (n < b ∨ b + cnt (d + 1) ks ≤ n) → (startsOf d b ks).flatMap (plK f ns σ) = ks := by
  intro ks
  induction ks with
  | nil => intro b _ _ _ _; rfl
  | cons k ks ihk =>
    intro b hd hs hf hn
    obtain ⟨⟨par, h1⟩, h2⟩ := hs
    rw [cnt_more] at hf hn
    have hc := cnt_pos d k
    have hk := hd k List.mem_cons_self
    obtain ⟨x, hx⟩ : ∃ x, ns[b]? = some x := by
      have := h1 0 _ (by rw [layF_head hk]; rfl)
      exact ⟨_, this⟩
    rw [startsOf, List.flatMap_cons, place_plain (hσ b x (by omega) hx), ih k par b hk h1 (by omega) (by omega), ihk _ (fun u hu => hd u (List.mem_cons_of_mem _ hu)) h2 (by omega) (by omega)]
    rfl

theorem body_out (hσ : ∀ k x, k ≠ n → ns[k]? = some x → σ k = sg0 x) : ∀ (d f : Nat) (t : Tr) (par : Int) (a : Nat), Deep d t.kids → Seg ns a (layF d t par a) → cnt (d + 1) [t] ≤ f → (n < a ∨ a + cnt (d + 1) [t] ≤ n) → bodyF f ns σ a = t := by
  intro d
  induction d with
  | zero =>
    intro f t par a hd hs hf hn
    have hc := cnt_pos 0 t
    obtain ⟨f, rfl⟩ : ∃ f', f = f' + 1 := ⟨f - 1, by omega⟩
    have hx : ns[a]? = some ⟨t.text, t.s, t.attrs, par, []⟩ := hs 0 _ rfl
    rw [body_plain hx (hσ a _ (by omega) hx)]
    have e : t.kids = [] := hd
    cases t
    simp only at e
    subst e
    rfl
  | succ d ih =>
    intro f t par a hd hs hf hn
    have hc := cnt_pos (d + 1) t
    obtain ⟨f, rfl⟩ : ∃ f', f = f' + 1 := ⟨f - 1, by omega⟩
    have hx : ns[a]? = some ⟨t.text, t.s, t.attrs, par, startsOf d (a + 1) t.kids⟩ := hs 0 _ rfl
    rw [body_plain hx (hσ a _ (by omega) hx)]
    rw [cnt_one] at hf hn
    have := list_out hσ (d := d) (f := f) (fun t par a h1 h2 h3 h4 => ih f t par a h1 h2 h3 h4) t.kids (a + 1) hd (segL_of t.kids (a + 1) hd (Seg.tail hs)) (by omega) (by omega)
    rw [this]
    cases t; rfl

theorem lists_out (hσ : ∀ k x, k ≠ n → ns[k]? = some x → σ k = sg0 x) {d f : Nat} (ks : List Tr) (b : Nat) (hd : ∀ k ∈ ks, Deep d k.kids) (hs : SegL ns d b ks) (hf : cnt (d + 1) ks ≤ f) (hn : n < b ∨ b + cnt (d + 1) ks ≤ n) : (startsOf d b ks).flatMap (plK f ns σ) = ks :=
  list_out hσ (fun t par a h1 h2 h3 h4 => body_out hσ d f t par a h1 h2 h3 h4) ks b hd hs hf hn

/-- What becomes of a node. -/
def bodyOf (s : Sg) (t : Tr) : Tr := ⟨t.text, if t.text then s.val.getD t.s else s.nm.getD t.s, s.attrs, if t.text then s.first ++ (t.kids ++ s.last) else match s.val with
  | some v => [valT v]
  | none => s.first ++ (t.kids ++ s.last)⟩
/-- What stands where a node stood. -/
def standOf (s : Sg) (t : Tr) : List Tr := s.bef ++ ((if s.gone then [] else [bodyOf s t]) ++ s.aft)

theorem body_here (hσ : ∀ k x, k ≠ n → ns[k]? = some x → σ k = sg0 x) {d f : Nat} {u : Tr} {par : Int} (hd : Deep d u.kids) (hs : Seg ns n (layF d u par n)) (hf : cnt (d + 1) [u] ≤ f) : bodyF f ns σ n = bodyOf (σ n) u := by
  have hc := cnt_pos d u
  obtain ⟨f, rfl⟩ : ∃ f', f = f' + 1 := ⟨f - 1, by omega⟩
  have hx : ns[n]? = some ⟨u.text, u.s, u.attrs, par, startsOf (d - 1) (n + 1) u.kids⟩ := hs 0 _ (by rw [layF_head hd]; rfl)
  have hkids : (startsOf (d - 1) (n + 1) u.kids).flatMap (plK f ns σ) = u.kids := by
    cases d with
    | zero => have e : u.kids = [] := hd; rw [e]; rfl
    | succ d =>
      rw [cnt_one] at hf
      exact lists_out (d := d) hσ u.kids (n + 1) hd (segL_of u.kids (n + 1) hd (Seg.tail hs)) (by omega) (by omega)
  rw [bodyF, hx]
  unfold bodyOf
  show (⟨u.text, sK σ n _, (σ n).attrs, (allK σ n _).map _⟩ : Tr) = _
  congr 1
  unfold allK
  cases ht : u.text with
  | true => simp only [if_true]; rw [kids_map, hkids]
  | false =>
    cases hv : (σ n).val with
    | none => simp only [Bool.false_eq_true, if_false]; rw [kids_map, hkids]
    | some v => rfl

theorem plug_ne : ∀ (fs : List Fr) (u : Tr) (tl : List Tr), plug fs (u :: tl) ≠ [] := by
  intro fs u tl
  cases fs <;> simp [plug]

theorem stZ_lt {D : Nat} : ∀ (fs : List Fr) (d b : Nat) (u : Tr) (tl : List Tr), (∀ k ∈ plug fs (u :: tl), Deep d k.kids) → d + 1 ≤ D → stZ D fs b < b + cnt (d + 1) (plug fs (u :: tl)) := by
  intro fs
  induction fs with
  | nil => intro d b u tl _ _; show b < b + cnt (d + 1) (u :: tl); rw [cnt_more]; have := cnt_pos d u; omega
  | cons f fs ih =>
    intro d b u tl hd hD
    have hk := hd _ (List.mem_singleton.2 rfl)
    cases d with
    | zero =>
      have e : f.ahead ++ (plug fs (u :: tl) ++ f.behind) = [] := hk
      simp at e
      exact absurd e.2.1 (plug_ne fs u tl)
    | succ d =>
      have hk' : ∀ k ∈ f.ahead ++ (plug fs (u :: tl) ++ f.behind), Deep d k.kids := hk
      have hA : cnt D f.ahead = cnt (d + 1) f.ahead := cnt_wide (d := d + 1) (fun k h => hk' k (List.mem_append_left _ h)) (by omega)
      have := ih d (b + 1 + cnt D f.ahead) u tl (fun k h => hk' k (List.mem_append_right _ (List.mem_append_left _ h))) (by omega)
      show stZ D fs (b + 1 + cnt D f.ahead) < b + cnt (d + 1 + 1) [{ f.t with kids := f.ahead ++ (plug fs (u :: tl) ++ f.behind) }]
      rw [cnt_one, cnt_append, cnt_append]
      omega

theorem lists_plug (hσ : ∀ k x, k ≠ n → ns[k]? = some x → σ k = sg0 x) {D : Nat} {u : Tr} {tl : List Tr} : ∀ (fs : List Fr) (d b f : Nat), (∀ k ∈ plug fs (u :: tl), Deep d k.kids) → SegL ns d b (plug fs (u :: tl)) → stZ D fs b = n → d + 1 ≤ D → cnt (d + 1) (plug fs (u :: tl)) ≤ f →
    (startsOf d b (plug fs (u :: tl))).flatMap (plK f ns σ) = plug fs (standOf (σ n) u ++ tl) := by
  intro fs
  induction fs with
  | nil =>
    intro d b f hd hs hb hD hf
    have hb : b = n := hb
    subst hb
    obtain ⟨⟨par, h1⟩, h2⟩ := hs
    have hf : cnt (d + 1) (u :: tl) ≤ f := hf
    rw [cnt_more] at hf
    have hc := cnt_pos d u
    have hk := hd u List.mem_cons_self
    show (startsOf d b (u :: tl)).flatMap (plK f ns σ) = standOf (σ b) u ++ tl
    rw [startsOf, List.flatMap_cons, lists_out hσ tl _ (fun k h => hd k (List.mem_cons_of_mem _ h)) h2 (by omega) (by omega)]
    congr 1
    unfold plK placeK standOf midK
    rw [Int.toNat_natCast, List.map_append, List.map_append, elim_new, elim_new]
    congr 2
    cases (σ b).gone with
    | true => rfl
    | false => simp only [Bool.false_eq_true, if_false, List.map_cons, List.map_nil, Sum.elim_inl]; rw [body_here hσ hk h1 (by omega)]
  | cons g fs ih =>
    intro d b f hd hs hb hD hf
    obtain ⟨⟨par, h1⟩, _⟩ := hs
    have hk := hd _ (List.mem_singleton.2 rfl)
    have hlt := stZ_lt (g :: fs) d b u tl hd hD
    have hge : b + 1 + cnt D g.ahead ≤ n := by rw [← hb]; exact stZ_ge D fs _
    cases d with
    | zero =>
      have e : g.ahead ++ (plug fs (u :: tl) ++ g.behind) = [] := hk
      simp at e
      exact absurd e.2.1 (plug_ne fs u tl)
    | succ d =>
      have hk' : ∀ k ∈ g.ahead ++ (plug fs (u :: tl) ++ g.behind), Deep d k.kids := hk
      have hcf : cnt (d + 1 + 1) [{ g.t with kids := g.ahead ++ (plug fs (u :: tl) ++ g.behind) }] ≤ f := hf
      rw [cnt_one, cnt_append, cnt_append] at hcf
      obtain ⟨f, rfl⟩ : ∃ f', f = f' + 1 := ⟨f - 1, by omega⟩
      have hx : ns[b]? = some ⟨g.t.text, g.t.s, g.t.attrs, par, startsOf d (b + 1) (g.ahead ++ (plug fs (u :: tl) ++ g.behind))⟩ := h1 0 _ rfl
      have hsl := segL_of _ (b + 1) hk' (Seg.tail h1)
      obtain ⟨s1, s2⟩ := segL_append _ _ _ hsl
      obtain ⟨s3, s4⟩ := segL_append _ _ _ s2
      have hA : cnt D g.ahead = cnt (d + 1) g.ahead := cnt_wide (d := d + 1) (fun k h => hk' k (List.mem_append_left _ h)) (by omega)
      have hbn : stZ D fs (b + 1 + cnt (d + 1) g.ahead) = n := by rw [← hA]; exact hb
      have hM : ∀ k ∈ plug fs (u :: tl), Deep d k.kids := fun k h => hk' k (List.mem_append_right _ (List.mem_append_left _ h))
      have hlt2 := stZ_lt (D := D) fs d (b + 1 + cnt (d + 1) g.ahead) u tl hM (by omega)
      show (startsOf (d + 1) b [_]).flatMap (plK (f + 1) ns σ) = [_]
      rw [startsOf, startsOf, List.flatMap_cons, List.flatMap_nil, List.append_nil, place_plain (hσ b _ (by omega) hx), body_plain hx (hσ b _ (by omega) hx)]
      simp only [startsOf_append, List.flatMap_append]
      rw [lists_out hσ g.ahead _ (fun k h => hk' k (List.mem_append_left _ h)) s1 (by omega) (by omega), ih d _ f hM s3 hbn (by omega) (by omega),
        lists_out hσ g.behind _ (fun k h => hk' k (List.mem_append_right _ (List.mem_append_right _ h))) s4 (by omega) (by omega)]
end

/-- Where the tree that is plugged in lies. -/
theorem plug_node {ns : List Nd} {D : Nat} {u : Tr} {tl : List Tr} : ∀ (fs : List Fr) (d b : Nat), (∀ k ∈ plug fs (u :: tl), Deep d k.kids) → SegL ns d b (plug fs (u :: tl)) → d + 1 ≤ D → ∃ e par, Deep e u.kids ∧ Seg ns (stZ D fs b) (layF e u par (stZ D fs b)) ∧ e ≤ d := by
  intro fs
  induction fs with
  | nil =>
    intro d b hd hs _
    obtain ⟨⟨par, h1⟩, h2⟩ := hs
    exact ⟨d, par, hd u List.mem_cons_self, h1, Nat.le_refl _⟩
  | cons g fs ih =>
    intro d b hd hs hD
    obtain ⟨⟨par, h1⟩, _⟩ := hs
    have hk := hd _ (List.mem_singleton.2 rfl)
    cases d with
    | zero =>
      have e : g.ahead ++ (plug fs (u :: tl) ++ g.behind) = [] := hk
      simp at e
      exact absurd e.2.1 (plug_ne fs u tl)
    | succ d =>
      have hk' : ∀ k ∈ g.ahead ++ (plug fs (u :: tl) ++ g.behind), Deep d k.kids := hk
      have hsl := segL_of _ (b + 1) hk' (Seg.tail h1)
      obtain ⟨s1, s2⟩ := segL_append _ _ _ hsl
      obtain ⟨s3, s4⟩ := segL_append _ _ _ s2
      have hA : cnt D g.ahead = cnt (d + 1) g.ahead := cnt_wide (d := d + 1) (fun k h => hk' k (List.mem_append_left _ h)) (by omega)
      obtain ⟨e, p, e1, e2, e3⟩ := ih d (b + 1 + cnt (d + 1) g.ahead) (fun k h => hk' k (List.mem_append_right _ (List.mem_append_left _ h))) s3 (by omega)
      refine ⟨e, p, e1, ?_, by omega⟩
      show Seg ns (stZ D fs (b + 1 + cnt D g.ahead)) (layF e u p (stZ D fs (b + 1 + cnt D g.ahead)))
      rw [hA]
      exact e2

/-- Every number is that of a tree with something around it. -/
theorem zip_of {D : Nat} : ∀ (d : Nat) (T : Tr) (a n : Nat), Deep d T.kids → d + 1 ≤ D → a ≤ n → n < a + cnt (d + 1) [T] → ∃ fs u, plug fs [u] = [T] ∧ stZ D fs a = n := by
  intro d
  induction d with
  | zero =>
    intro T a n hd _ h1 h2
    have e : T.kids = [] := hd
    rw [cnt_one, e, cnt_nil] at h2
    exact ⟨[], T, rfl, by show a = n; omega⟩
  | succ d ih =>
    intro T a n hd hD h1 h2
    by_cases hn : n = a
    · exact ⟨[], T, rfl, hn.symm⟩
    · rw [cnt_one] at h2
      have key : ∀ (ks : List Tr) (b : Nat), (∀ k ∈ ks, Deep d k.kids) → b ≤ n → n < b + cnt (d + 1) ks → ∃ A k C fs u, ks = A ++ k :: C ∧ plug fs [u] = [k] ∧ stZ D fs (b + cnt (d + 1) A) = n := by
        intro ks
        induction ks with
        | nil => intro b _ h3 h4; rw [cnt_nil] at h4; omega
        | cons k ks ihk =>
          intro b hdk h3 h4
          rw [cnt_more] at h4
          by_cases hk : n < b + cnt (d + 1) [k]
          · obtain ⟨fs, u, e1, e2⟩ := ih k b n (hdk k List.mem_cons_self) (by omega) h3 hk
            exact ⟨[], k, ks, fs, u, rfl, e1, by rw [cnt_nil]; exact e2⟩
          · obtain ⟨A, k', C, fs, u, e1, e2, e3⟩ := ihk (b + cnt (d + 1) [k]) (fun x hx => hdk x (List.mem_cons_of_mem _ hx)) (by omega) (by omega)
            exact ⟨k :: A, k', C, fs, u, by rw [e1]; rfl, e2, by rw [cnt_more, ← Nat.add_assoc]; exact e3⟩
      obtain ⟨A, k, C, fs, u, e1, e2, e3⟩ := key T.kids (a + 1) hd (by omega) (by omega)
      refine ⟨⟨T, A, C⟩ :: fs, u, ?_, ?_⟩
      · show [({ T with kids := A ++ (plug fs [u] ++ C) } : Tr)] = [T]
        rw [e2]
        show [({ T with kids := A ++ (k :: C) } : Tr)] = [T]
        rw [← e1]
        cases T; rfl
      · show stZ D fs (a + 1 + cnt D A) = n
        rw [cnt_wide (d := d + 1) (ts := A) (fun x hx => hd x (by rw [e1]; exact List.mem_append_left _ hx)) (by omega)]
        exact e3

theorem said_one {ns : List Nd} {o : Opn} (hk : 1 ≤ o.kind ∧ o.kind ≤ 10) : saidF ns [o] = upd (sig0 ns) o.target.toNat (gOf o.kind o) := by
  have h : ∀ (k : Int) (σ : Nat → Sg), doF k σ [o] = if o.kind = k then upd σ o.target.toNat (gOf k o) else σ := fun k σ => rfl
  unfold saidF
  simp only [List.reverse_cons, List.reverse_nil, List.nil_append, h]
  rcases (by omega : o.kind = 8 ∨ o.kind = 9 ∨ o.kind = 10 ∨ o.kind = 3 ∨ o.kind = 2 ∨ o.kind = 1 ∨ o.kind = 4 ∨ o.kind = 6 ∨ o.kind = 5 ∨ o.kind = 7) with e | e | e | e | e | e | e | e | e | e <;> simp [e]

/-- What is said of a tree by one change. -/
def sgT (t : Tr) : Sg := ⟨none, t.attrs, [], [], [], [], false, none⟩

/-- One change of a good document: what stands there, with the same around it. -/
theorem apply_one {ns : List Nd} {o : Opn} {d D : Nat} {T u : Tr} {tl : List Tr} {fs : List Fr} (hd : Deep d T.kids) (hD : d + 1 ≤ D) (hl : layF d T (-1) 0 = ns) (hp : plug fs (u :: tl) = [T]) (hst : stZ D fs 0 = o.target.toNat) (hk : 1 ≤ o.kind ∧ o.kind ≤ 10) (hr : o.kind = 3 ∨ o.kind = 4 ∨ o.kind = 5 ∨ o.kind = 6 → o.target.toNat ≠ 0) :
    [applyT ns [o]] = plug fs (standOf (gOf o.kind o (sgT u)) u ++ tl) := by
  have hseg : SegL ns d 0 [T] := ⟨⟨-1, by rw [← hl]; exact seg_self _⟩, trivial⟩
  have hdT : ∀ k ∈ plug fs (u :: tl), Deep d k.kids := by rw [hp]; intro k hk; simp at hk; subst hk; exact hd
  have hlen : ns.length = cnt (d + 1) [T] := by rw [← hl]; exact layF_length d T (-1) 0 hd
  have hσ : ∀ k x, k ≠ o.target.toNat → ns[k]? = some x → saidF ns [o] k = sg0 x := by
    intro k x hne hx
    rw [said_one hk, upd_ne _ hne]
    unfold sig0
    rw [hx]
  have hmain := lists_plug hσ fs d 0 ns.length hdT (by rw [hp]; exact hseg) hst hD (by rw [hp, hlen]; exact Nat.le_refl _)
  obtain ⟨e, par, h1, h2, _⟩ := plug_node (D := D) fs d 0 hdT (by rw [hp]; exact hseg) hD
  rw [hst] at h2
  have hx : ns[o.target.toNat]? = some ⟨u.text, u.s, u.attrs, par, startsOf (e - 1) (o.target.toNat + 1) u.kids⟩ := h2 0 _ (by rw [layF_head h1]; rfl)
  have hsn : saidF ns [o] o.target.toNat = gOf o.kind o (sgT u) := by
    rw [said_one hk, upd_at]
    unfold sig0
    rw [hx]
    rfl
  rw [hsn] at hmain
  rw [← hmain, hp, startsOf, startsOf, List.flatMap_cons, List.flatMap_nil, List.append_nil]
  show _ = plK ns.length ns (saidF ns [o]) ((0 : Nat) : Int)
  unfold plK placeK applyT
  rw [Int.toNat_natCast]
  by_cases h0 : o.target.toNat = 0
  · have hk2 : o.kind = 8 ∨ o.kind = 9 ∨ o.kind = 10 ∨ o.kind = 2 ∨ o.kind = 1 ∨ o.kind = 7 := by
      rcases (by omega : (o.kind = 8 ∨ o.kind = 9 ∨ o.kind = 10 ∨ o.kind = 2 ∨ o.kind = 1 ∨ o.kind = 7) ∨ (o.kind = 3 ∨ o.kind = 4 ∨ o.kind = 5 ∨ o.kind = 6)) with h | h
      · exact h
      · exact absurd h0 (hr h)
    rw [h0] at hsn
    rw [hsn]
    rcases hk2 with e | e | e | e | e | e <;> (rw [e]; rfl)
  · have hlen0 : 0 < ns.length := by rw [hlen]; exact cnt_pos d T
    rw [hσ 0 _ (fun e => h0 e.symm) (List.getElem?_eq_getElem hlen0)]
    rfl
end Go.Proofs.Ytlchbhlmbphkpaa

/- Attributes that rise by name: one put in and taken out again. Plain data. No condition. -/
namespace Go.Proofs.Ytlchbhlmbphkpaa
set_option maxRecDepth 100000

theorem bytes_lt : ∀ a b : List UInt8, Op.bytesLess a b = decide (a < b) := by
  intro a
  induction a with
  | nil =>
    intro b
    cases b with
    | nil => simp [Op.bytesLess]
    | cons d b => simp [Op.bytesLess]
  | cons c a ih =>
    intro b
    cases b with
    | nil => simp [Op.bytesLess]
    | cons d b =>
      rw [Op.bytesLess, ih b]
      by_cases h1 : c < d
      · simp [h1, List.cons_lt_cons_iff]
      · by_cases h3 : c = d
        · subst h3; simp
        · simp [h1, h3, List.cons_lt_cons_iff]

def UpA (l : List (ByteArray × ByteArray)) : Prop := l.Pairwise fun x y => x.1.toList < y.1.toList

theorem attrs_up {l : List (ByteArray × ByteArray)} (h : attrsB l = true) : UpA l := by
  simp only [attrsB, Bool.and_eq_true, decide_eq_true_eq, List.all_eq_true] at h
  have step : ∀ i, i + 1 < l.length → ∀ x y, l[i]? = some x → l[i + 1]? = some y → x.1.toList < y.1.toList := by
    intro i hi x y hx hy
    have hk := h.2 (i + 1) (by simpa using hi)
    unfold okA at hk
    rw [hy] at hk
    simp only [hx, Bool.and_eq_true] at hk
    have := hk.2
    rw [bytes_lt, decide_eq_true_eq] at this
    exact this
  have gen : ∀ (m : List (ByteArray × ByteArray)), (∀ i, i + 1 < m.length → ∀ x y, m[i]? = some x → m[i + 1]? = some y → x.1.toList < y.1.toList) → UpA m := by
    intro m
    induction m with
    | nil => intro _; exact List.Pairwise.nil
    | cons a m ih =>
      intro hs
      have hm := ih (fun i hi x y hx hy => hs (i + 1) (by simpa using hi) x y (by simpa using hx) (by simpa using hy))
      unfold UpA
      rw [List.pairwise_cons]
      refine ⟨fun b hb => ?_, hm⟩
      cases m with
      | nil => simp at hb
      | cons c m =>
        have h1 : a.1.toList < c.1.toList := hs 0 (by simp) a c rfl rfl
        rw [List.mem_cons] at hb
        rcases hb with rfl | hb
        · exact h1
        · unfold UpA at hm
          rw [List.pairwise_cons] at hm
          exact List.lt_trans h1 (hm.1 b hb)
  exact gen _ step

def ltA (name : ByteArray) (a : ByteArray × ByteArray) : Bool := Op.bytesLess a.1.toList name.toList
def gtA (name : ByteArray) (a : ByteArray × ByteArray) : Bool := Op.bytesLess name.toList a.1.toList

theorem name_ext {a b : ByteArray} (h : a.toList = b.toList) : a = b := by
  rw [ByteArray.toList_eq, ByteArray.toList_eq] at h
  cases a; cases b
  simp only at h
  rw [Array.toList_inj] at h
  rw [h]

/-- What rises is what is less, and behind it what is more, if it isn't there. -/
theorem split_up {l : List (ByteArray × ByteArray)} (h : UpA l) {name : ByteArray} (hn : ∀ a ∈ l, a.1 ≠ name) : l.filter (ltA name) ++ l.filter (gtA name) = l := by
  induction l with
  | nil => rfl
  | cons a l ih =>
    unfold UpA at h
    rw [List.pairwise_cons] at h
    have hne := hn a List.mem_cons_self
    have ihl := ih h.2 (fun x hx => hn x (List.mem_cons_of_mem _ hx))
    by_cases hlt : a.1.toList < name.toList
    · have h1 : ltA name a = true := by unfold ltA; rw [bytes_lt]; simpa using hlt
      have h2 : gtA name a = false := by unfold gtA; rw [bytes_lt]; simpa using fun h3 => List.lt_irrefl _ (List.lt_trans hlt h3)
      rw [List.filter_cons_of_pos h1, List.filter_cons_of_neg (by simp [h2]), List.cons_append, ihl]
    · have h3 : name.toList < a.1.toList := by
        have hle : name.toList ≤ a.1.toList := List.not_lt.1 hlt
        rcases List.le_iff_lt_or_eq.1 hle with h4 | h4
        · exact h4
        · exact absurd (name_ext h4).symm hne
      have h1 : ltA name a = false := by unfold ltA; rw [bytes_lt]; simpa using hlt
      have h2 : gtA name a = true := by unfold gtA; rw [bytes_lt]; simpa using h3
      have e0 : l.filter (ltA name) = [] := by
        rw [List.filter_eq_nil_iff]
        intro x hx
        have h5 := List.lt_trans h3 (h.1 x hx)
        unfold ltA
        rw [bytes_lt]
        simpa using fun h6 => List.lt_irrefl _ (List.lt_trans h5 h6)
      rw [e0] at ihl
      rw [List.filter_cons_of_neg (by simp [h1]), List.filter_cons_of_pos h2, e0]
      rw [List.nil_append] at ihl ⊢
      rw [ihl]

theorem cut_put {l : List (ByteArray × ByteArray)} (h : UpA l) {name v : ByteArray} (hn : ∀ a ∈ l, a.1 ≠ name) : cutA (putA l name v) name = l := by
  have hz : Op.bytesLess name.toList name.toList = false := by rw [bytes_lt]; simp [List.lt_irrefl]
  have e1 : ∀ (m : List (ByteArray × ByteArray)), (m.filter (ltA name)).filter (ltA name) = m.filter (ltA name) := fun m => by rw [List.filter_filter]; simp
  have e2 : ∀ (m : List (ByteArray × ByteArray)), (m.filter (gtA name)).filter (gtA name) = m.filter (gtA name) := fun m => by rw [List.filter_filter]; simp
  have no : ∀ a : ByteArray × ByteArray, ¬ (ltA name a = true ∧ gtA name a = true) := by
    intro a
    unfold ltA gtA
    rw [bytes_lt, bytes_lt]
    simp only [decide_eq_true_eq]
    rintro ⟨h1, h2⟩
    exact List.lt_irrefl _ (List.lt_trans h1 h2)
  have e3 : ∀ (m : List (ByteArray × ByteArray)), (m.filter (gtA name)).filter (ltA name) = [] := fun m => by
    rw [List.filter_eq_nil_iff]
    intro x hx h1
    exact no x ⟨h1, (List.mem_filter.1 hx).2⟩
  have e4 : ∀ (m : List (ByteArray × ByteArray)), (m.filter (ltA name)).filter (gtA name) = [] := fun m => by
    rw [List.filter_eq_nil_iff]
    intro x hx h1
    exact no x ⟨(List.mem_filter.1 hx).2, h1⟩
  show (l.filter (ltA name) ++ (name, v) :: l.filter (gtA name)).filter (ltA name) ++ (l.filter (ltA name) ++ (name, v) :: l.filter (gtA name)).filter (gtA name) = l
  rw [List.filter_append, List.filter_append, List.filter_cons_of_neg (by unfold ltA; simp [hz]), List.filter_cons_of_neg (by unfold gtA; simp [hz]), e1, e2, e3, e4, List.append_nil, List.nil_append]
  exact split_up h hn
end Go.Proofs.Ytlchbhlmbphkpaa

/- Changes at one node and back again, trees put in and taken out, values: plain data. No condition. -/
namespace Go.Proofs.Ytlchbhlmbphkpaa
open Go.RowKit
set_option maxRecDepth 100000

theorem HClean.more : ∀ {d : Nat} {ts : List Tr}, HClean d ts → HClean (d + 1) ts := by
  intro d
  induction d with
  | zero => intro ts h; have e : ts = [] := h; subst e; exact ⟨trivial, by simp⟩
  | succ d ih => intro ts h; exact ⟨h.1, fun t ht => ih (h.2 t ht)⟩

theorem HClean.upto {d e : Nat} {ts : List Tr} (h : HClean d ts) (he : d ≤ e) : HClean e ts := by
  obtain ⟨k, rfl⟩ : ∃ k, e = d + k := ⟨e - d, by omega⟩
  clear he
  induction k with
  | zero => exact h
  | succ k ih => exact ih.more

/-- No texts beside one another, none empty, however deep. -/
def Neat (ts : List Tr) : Prop := ∃ d, HClean d ts

theorem neat_iff {ts : List Tr} : Neat ts ↔ Clean ts ∧ ∀ t ∈ ts, Neat t.kids := by
  constructor
  · rintro ⟨d, h⟩
    cases d with
    | zero => have e : ts = [] := h; subst e; exact ⟨trivial, by simp⟩
    | succ d => exact ⟨h.1, fun t ht => ⟨d, h.2 t ht⟩⟩
  · rintro ⟨h1, h2⟩
    have : ∀ l : List Tr, (∀ t ∈ l, Neat t.kids) → ∃ d, ∀ t ∈ l, HClean d t.kids := by
      intro l
      induction l with
      | nil => intro _; exact ⟨0, by simp⟩
      | cons t r ih =>
        intro h
        obtain ⟨d, hd⟩ := ih (fun u hu => h u (List.mem_cons_of_mem _ hu))
        obtain ⟨e, he⟩ := h t List.mem_cons_self
        refine ⟨d + e, fun u hu => ?_⟩
        rcases List.mem_cons.1 hu with rfl | hu
        · exact he.upto (by omega)
        · exact (hd u hu).upto (by omega)
    obtain ⟨d, hd⟩ := this ts h2
    exact ⟨d + 1, h1, hd⟩

theorem neat_nil : Neat [] := ⟨0, rfl⟩

theorem neat_good {t : Tr} (h : goodB t = true) : Neat [t] := by
  simp only [goodB, Bool.and_eq_true] at h
  exact ⟨9, rb_clean 8 80 [t] (by simpa [contentB] using h.2)⟩

theorem neat_content {l : List Tr} (h : contentB l = true) : Neat l := ⟨9, rb_clean 8 80 l (by simpa [contentB] using h)⟩

theorem neat_join {n d : Nat} {t : Tr} (h : Neat t.kids) (hd : Deep d t.kids) (hn : d < n) : jk n t = t := by
  obtain ⟨m, rfl⟩ : ∃ m, n = m + 1 := ⟨n - 1, by omega⟩
  obtain ⟨e, he⟩ := h
  show ({ t with kids := joinB m t.kids } : Tr) = t
  rw [join_id m e t.kids he (hd.upto (by omega))]
  cases t; rfl

theorem clean_tail : ∀ {A R : List Tr}, Clean (A ++ R) → Clean R := by
  intro A
  induction A with
  | nil => intro R h; exact h
  | cons t A ih => intro R h; exact ih h.2

theorem clean_head : ∀ {A R : List Tr}, Clean (A ++ R) → Clean A := by
  intro A
  induction A with
  | nil => intro R _; trivial
  | cons t A ih => intro R h; exact ⟨fun ht => ⟨(h.1 ht).1, fun u r e => (h.1 ht).2 u (r ++ R) (by rw [e]; rfl)⟩, ih h.2⟩

/-- One may stand for another. -/
def Stand (X Y : List Tr) : Prop := ∀ A C, Clean (A ++ (X ++ C)) → Clean (A ++ (Y ++ C))

theorem stand_one {x y : Tr} (h1 : y.text = x.text) (h2 : y.text = true → x.s.data.toList ≠ [] → y.s.data.toList ≠ []) : Stand [x] [y] := by
  intro A
  induction A with
  | nil => intro C h; exact ⟨fun ht => ⟨h2 ht (h.1 (by rw [← h1]; exact ht)).1, (h.1 (by rw [← h1]; exact ht)).2⟩, h.2⟩
  | cons t A ih =>
    intro C h
    refine ⟨fun ht => ⟨(h.1 ht).1, fun u r e => ?_⟩, ih C h.2⟩
    cases A with
    | nil =>
      have e : y = u := by simpa using (List.cons.inj e).1
      subst e
      rw [h1]
      exact (h.1 ht).2 x C rfl
    | cons t' A =>
      have e : t' = u := (List.cons.inj e).1
      subst e
      exact (h.1 ht).2 t' _ rfl

theorem stand_ins {l : List Tr} (hl : ∀ t ∈ l, t.text = false) (X : List Tr) : Stand X (l ++ X) := by
  have base : ∀ (l R : List Tr), (∀ t ∈ l, t.text = false) → Clean R → Clean (l ++ R) := by
    intro l
    induction l with
    | nil => intro R _ h; exact h
    | cons t l ih => intro R hl h; exact ⟨fun ht => (by rw [hl t List.mem_cons_self] at ht; cases ht), ih R (fun u hu => hl u (List.mem_cons_of_mem _ hu)) h⟩
  intro A
  induction A with
  | nil => intro C h; rw [List.nil_append, List.append_assoc]; exact base l _ hl h
  | cons t A ih =>
    intro C h
    refine ⟨fun ht => ⟨(h.1 ht).1, fun u r e => ?_⟩, ih C h.2⟩
    cases A with
    | nil =>
      cases l with
      | nil => exact (h.1 ht).2 u r e
      | cons v l =>
        have e : v = u := (List.cons.inj e).1
        subst e
        exact hl v List.mem_cons_self
    | cons t' A =>
      have e : t' = u := (List.cons.inj e).1
      subst e
      exact (h.1 ht).2 t' _ rfl

theorem stand_plug {X Y : List Tr} (h : Stand X Y) : ∀ fs : List Fr, Stand (plug fs X) (plug fs Y) := by
  intro fs
  cases fs with
  | nil => exact h
  | cons f fs => exact stand_one rfl (fun _ h => h)

theorem neat_plug {X Y : List Tr} (h : Stand X Y) (hY : ∀ y ∈ Y, Neat y.kids) : ∀ fs : List Fr, Neat (plug fs X) → Neat (plug fs Y) := by
  intro fs
  induction fs with
  | nil =>
    intro hX
    have h1 := (neat_iff.1 hX).1
    have h2 := h [] [] (by rw [List.nil_append, List.append_nil]; exact h1)
    rw [List.nil_append, List.append_nil] at h2
    exact neat_iff.2 ⟨h2, hY⟩
  | cons f fs ih =>
    intro hX
    obtain ⟨h1, h2⟩ := neat_iff.1 hX
    have h3 := h2 _ (List.mem_singleton.2 rfl)
    obtain ⟨h4, h5⟩ := neat_iff.1 h3
    have h4 : Clean (f.ahead ++ (plug fs X ++ f.behind)) := h4
    have h5 : ∀ t ∈ f.ahead ++ (plug fs X ++ f.behind), Neat t.kids := h5
    have h6 := ih (neat_iff.2 ⟨clean_head (clean_tail h4), fun t ht => h5 t (List.mem_append_right _ (List.mem_append_left _ ht))⟩)
    have h7 : Clean (f.ahead ++ (plug fs Y ++ f.behind)) := stand_plug h fs _ _ h4
    refine neat_iff.2 ⟨⟨fun ht => ⟨(h1.1 ht).1, by simp⟩, trivial⟩, fun t ht => ?_⟩
    have e := List.mem_singleton.1 ht
    rw [e]
    refine neat_iff.2 ⟨h7, fun u hu => ?_⟩
    rcases List.mem_append.1 hu with hu | hu
    · exact h5 u (List.mem_append_left _ hu)
    · rcases List.mem_append.1 hu with hu | hu
      · exact (neat_iff.1 h6).2 u hu
      · exact h5 u (List.mem_append_right _ (List.mem_append_right _ hu))

/-- A good document, and one of its nodes with what stands around it. -/
structure Zip (ns : List Nd) (n d : Nat) (T u : Tr) (tl : List Tr) (fs : List Fr) : Prop where
  deep : Deep d T.kids
  wide : d ≤ 100
  laid : layF d T (-1) 0 = ns
  plug : plug fs (u :: tl) = [T]
  num : stZ 1000 fs 0 = n
  good : goodB T = true

theorem good_len {ns : List Nd} (h : goodD ns = true) : ns.length ≤ 80 := by
  simp only [goodD, Bool.and_eq_true, decide_eq_true_eq] at h
  exact h.1.1

theorem zip_get {ns : List Nd} (hg : goodD ns = true) {n : Nat} (hn : n < ns.length) : ∃ d T u fs, Zip ns n d T u [] fs := by
  obtain ⟨d, t, hd, hl, hG, _, _, _, hdl⟩ := good_laid hg
  have h80 := good_len hg
  have hlen := layF_length d t (-1) 0 hd
  rw [hl] at hlen
  obtain ⟨fs, u, e1, e2⟩ := zip_of (D := 1000) d t 0 n hd (by omega) (Nat.zero_le _) (by omega)
  exact ⟨d, t, u, fs, hd, by omega, hl, e1, e2, hG⟩

section
variable {ns : List Nd} {n d : Nat} {T u : Tr} {tl : List Tr} {fs : List Fr}

theorem Zip.goodD (h : Zip ns n d T u tl fs) : goodD ns = true := by rw [← h.laid]; exact (made_good h.deep h.good).1

theorem Zip.segL (h : Zip ns n d T u tl fs) : SegL ns d 0 (Go.Proofs.Ytlchbhlmbphkpaa.plug fs (u :: tl)) ∧ ∀ k ∈ Go.Proofs.Ytlchbhlmbphkpaa.plug fs (u :: tl), Deep d k.kids := by
  rw [h.plug]
  refine ⟨⟨⟨-1, by rw [← h.laid]; exact seg_self _⟩, trivial⟩, fun k hk => ?_⟩
  simp at hk
  subst hk
  exact h.deep

theorem Zip.node (h : Zip ns n d T u tl fs) : ∃ e par, Deep e u.kids ∧ Seg ns n (layF e u par n) := by
  obtain ⟨h1, h2⟩ := h.segL
  obtain ⟨e, par, h3, h4, _⟩ := plug_node (D := 1000) fs d 0 h2 h1 (by have := h.wide; omega)
  rw [h.num] at h4
  exact ⟨e, par, h3, h4⟩

theorem Zip.get (h : Zip ns n d T u tl fs) : ∃ x, ns[n]? = some x ∧ x.text = u.text ∧ x.s = u.s ∧ x.attrs = u.attrs := by
  obtain ⟨e, par, h1, h2⟩ := h.node
  exact ⟨_, h2 0 _ (by rw [layF_head h1]; rfl), rfl, rfl, rfl⟩

theorem Zip.grow (h : Zip ns n d T u tl fs) : growF ns.length ns n = u := by
  obtain ⟨e, par, h1, h2⟩ := h.node
  refine grow_lay e u ns.length ns par n h1 h2 ?_
  have h4 := layF_length e u par n h1
  have h5 := cnt_pos e u
  obtain ⟨z, hz⟩ : ∃ z, (layF e u par n)[cnt (e + 1) [u] - 1]? = some z := ⟨(layF e u par n)[cnt (e + 1) [u] - 1]'(by omega), by simp⟩
  have h6 := lt_of_some (h2 _ z hz)
  omega

/-- One change at that node. -/
theorem Zip.apply (h : Zip ns n d T u tl fs) {o : Opn} (ho : o.target = (n : Int)) (hw : wrongF ns o = 0) {u' : Tr} {tl' : List Tr} (hs : standOf (gOf o.kind o (sgT u)) u ++ tl = u' :: tl') (hneat : Neat (Go.Proofs.Ytlchbhlmbphkpaa.plug fs (u' :: tl'))) :
    ∃ T', Go.Proofs.Ytlchbhlmbphkpaa.plug fs (u' :: tl') = [T'] ∧ applyJ ns [o] = T' ∧ Deep (ns.length + 9) T'.kids ∧ (goodB T' = true → applyE ns [o] = 0 ∧ Zip (applyD ns [o]) n (ns.length + 9) T' u' tl' fs) ∧ (applyE ns [o] = 0 → goodB T' = true) := by
  have hg := h.goodD
  have h80 := good_len hg
  obtain ⟨hok, hk1, hk2, _⟩ := ok_of hw
  have hc : checkF ns [o] = 0 := by rw [check_ok]; exact ⟨hg, by simp, by simpa using hw, List.pairwise_singleton _ _⟩
  have h1 := apply_one (D := 1000) h.deep (by have := h.wide; omega) h.laid h.plug (by rw [h.num, ho]; simp) ⟨hk1, hk2⟩ hok.root
  rw [hs] at h1
  rw [← h1] at hneat
  obtain ⟨hd1, hd2⟩ := apply_deep hc
  have hj : applyJ ns [o] = applyT ns [o] := by unfold applyJ; exact neat_join ((neat_iff.1 hneat).2 _ (List.mem_singleton.2 rfl)) hd1 (by omega)
  refine ⟨applyT ns [o], h1.symm, hj, by rw [← hj]; exact hd2, fun hgT => ?_, fun he => ?_⟩
  · have he : applyE ns [o] = 0 := by unfold applyE; rw [if_pos hc, hj, if_pos hgT]
    refine ⟨he, by rw [← hj]; exact hd2, by omega, ?_, h1.symm, h.num, hgT⟩
    rw [(apply_ok he).2.2, hj]
  · rw [← hj]; exact (apply_ok he).2.1
end

theorem stand_tail {x y : Tr} {tl : List Tr} (h1 : y.text = x.text) (h2 : y.text = true → x.s.data.toList ≠ [] → y.s.data.toList ≠ []) : Stand (x :: tl) (y :: tl) := fun A C h => stand_one h1 h2 A (tl ++ C) h

def opRen (n : Int) (name : ByteArray) : Opn := ⟨8, n, [], name, ⟨#[]⟩⟩
def opSet (n : Int) (name s : ByteArray) : Opn := ⟨9, n, [], name, s⟩
def opDrop (n : Int) (name : ByteArray) : Opn := ⟨10, n, [], name, ⟨#[]⟩⟩
def opBef (n : Int) (l : List Tr) : Opn := ⟨3, n, l, ⟨#[]⟩, ⟨#[]⟩⟩
def opDel (n : Int) : Opn := ⟨5, n, [], ⟨#[]⟩, ⟨#[]⟩⟩
def opVal (n : Int) (s : ByteArray) : Opn := ⟨7, n, [], ⟨#[]⟩, s⟩

theorem wrong_ren {ns : List Nd} {n : Nat} {x : Nd} (hx : ns[n]? = some x) (ht : x.text = false) (name : ByteArray) : wrongF ns (opRen n name) = if nameB name then 0 else 1 := by
  have hn := lt_of_some hx
  have h1 : textAt ns (n : Int) = false := by unfold textAt; rw [Int.toNat_natCast, hx]; exact ht
  have h2 : ¬ ((ns.length : Int) ≤ (n : Int)) := by omega
  have h3 : ¬ ((n : Int) < 0) := by omega
  cases hb : nameB name <;> simp [wrongF, opRen, contOk, nameOk, textOk, hasC, hasN, hasS, placeB, h1, h2, h3, hb]

theorem wrong_drop {ns : List Nd} {n : Nat} {x : Nd} (hx : ns[n]? = some x) (ht : x.text = false) (name : ByteArray) : wrongF ns (opDrop n name) = if nameB name then 0 else 1 := by
  have hn := lt_of_some hx
  have h1 : textAt ns (n : Int) = false := by unfold textAt; rw [Int.toNat_natCast, hx]; exact ht
  have h2 : ¬ ((ns.length : Int) ≤ (n : Int)) := by omega
  have h3 : ¬ ((n : Int) < 0) := by omega
  cases hb : nameB name <;> simp [wrongF, opDrop, contOk, nameOk, textOk, hasC, hasN, hasS, placeB, h1, h2, h3, hb]

theorem wrong_del {ns : List Nd} {n : Nat} (hn : n < ns.length) (h0 : n ≠ 0) : wrongF ns (opDel n) = 0 := by
  have h2 : ¬ ((ns.length : Int) ≤ (n : Int)) := by omega
  have h3 : ¬ ((n : Int) < 0) := by omega
  simp [wrongF, opDel, contOk, nameOk, textOk, hasC, hasN, hasS, placeB, h2, h3, h0]

theorem right_attrs {u : Tr} (h : rightB u = true) (ht : u.text = false) : nameB u.s = true ∧ attrsB u.attrs = true := by
  unfold rightB at h
  rw [ht] at h
  simpa using h

theorem apply_wrong {ns : List Nd} {o : Opn} (h : wrongF ns o ≠ 0) : applyE ns [o] ≠ 0 := by
  intro he
  have := ((check_ok _ _).1 (apply_ok he).1).2.2.1 o (by simp)
  exact h this

/-- A node's tree is right. -/
theorem plug_right {u : Tr} {tl : List Tr} : ∀ (fs : List Fr) (d : Nat), rgt (d + 1) (plug fs (u :: tl)) = true → (∀ k ∈ plug fs (u :: tl), Deep d k.kids) → rightB u = true := by
  intro fs
  induction fs with
  | nil => intro d h _; exact (rgL_mem _ _ h u List.mem_cons_self).1
  | cons f fs ih =>
    intro d h hd
    have hk := hd _ (List.mem_singleton.2 rfl)
    cases d with
    | zero =>
      have e : f.ahead ++ (plug fs (u :: tl) ++ f.behind) = [] := hk
      simp at e
      exact absurd e.2.1 (plug_ne fs u tl)
    | succ d =>
      have h1 := rgL_mem _ _ h _ (List.mem_singleton.2 rfl)
      have hk' : ∀ k ∈ f.ahead ++ (plug fs (u :: tl) ++ f.behind), Deep d k.kids := hk
      cases ht : f.t.text with
      | true =>
        have := rgt_text h1.1 ht
        simp at this
        exact absurd this.2.1 (plug_ne fs u tl)
      | false =>
        have h2 := h1.2
        simp only [ht, Bool.false_or] at h2
        have h3 : rgL (rgt d) false (f.ahead ++ (plug fs (u :: tl) ++ f.behind)) = true := h2
        have h4 : ∀ k ∈ plug fs (u :: tl), rightB k = true ∧ (k.text || rgt d k.kids) = true := fun k hk => rgL_mem _ _ h3 k (List.mem_append_right _ (List.mem_append_left _ hk))
        cases fs with
        | nil => exact (h4 u List.mem_cons_self).1
        | cons g fs =>
          refine ih d ?_ (fun k hk => hk' k (List.mem_append_right _ (List.mem_append_left _ hk)))
          have h5 := h4 _ (List.mem_singleton.2 rfl)
          show rgL (rgt d) false [_] = true
          simp only [rgL, Bool.and_eq_true, Bool.false_and, Bool.not_false, and_true]
          exact ⟨h5.1, h5.2⟩

theorem Zip.right {ns : List Nd} {n d : Nat} {T u : Tr} {tl : List Tr} {fs : List Fr} (h : Zip ns n d T u tl fs) : rightB u = true := by
  have hG := h.good
  rw [goodB_eq h.deep] at hG
  simp only [Bool.and_eq_true] at hG
  obtain ⟨_, h2⟩ := h.segL
  exact plug_right fs d (by rw [h.plug]; exact hG.2) h2

theorem neat_in {u : Tr} {tl : List Tr} : ∀ (fs : List Fr), Neat (plug fs (u :: tl)) → Neat u.kids := by
  intro fs
  induction fs with
  | nil => intro h; exact (neat_iff.1 h).2 u List.mem_cons_self
  | cons f fs ih =>
    intro h
    have h2 := (neat_iff.1 h).2 _ (List.mem_singleton.2 rfl)
    obtain ⟨h3, h4⟩ := neat_iff.1 h2
    have h3 : Clean (f.ahead ++ (plug fs (u :: tl) ++ f.behind)) := h3
    exact ih (neat_iff.2 ⟨clean_head (clean_tail h3), fun t ht => h4 t (List.mem_append_right _ (List.mem_append_left _ ht))⟩)

theorem Zip.neat {ns : List Nd} {n d : Nat} {T u : Tr} {tl : List Tr} {fs : List Fr} (h : Zip ns n d T u tl fs) : Neat (Go.Proofs.Ytlchbhlmbphkpaa.plug fs (u :: tl)) := by rw [h.plug]; exact neat_good h.good

/-- A node that stands for another of its kind. -/
theorem Zip.swap {ns : List Nd} {n d : Nat} {T u u' : Tr} {tl : List Tr} {fs : List Fr} (h : Zip ns n d T u tl fs) (h1 : u'.text = u.text) (h2 : u'.text = true → u'.s.data.toList ≠ []) (h3 : Neat u'.kids) (h4 : ∀ y ∈ tl, Neat y.kids) : Neat (Go.Proofs.Ytlchbhlmbphkpaa.plug fs (u' :: tl)) :=
  neat_plug (stand_tail h1 (fun h _ => h2 h)) (fun y hy => by
    rcases List.mem_cons.1 hy with rfl | hy
    · exact h3
    · exact h4 y hy) fs h.neat

theorem stand_ren {u : Tr} (ht : u.text = false) (n : Int) (name : ByteArray) : standOf (gOf (opRen n name).kind (opRen n name) (sgT u)) u = [{ u with s := name }] := by
  obtain ⟨tx, s, at', ks⟩ := u
  simp only at ht
  subst ht
  simp [standOf, opRen, gOf, gRen, sgT, bodyOf]

theorem stand_set {u : Tr} (ht : u.text = false) (n : Int) (name v : ByteArray) : standOf (gOf (opSet n name v).kind (opSet n name v) (sgT u)) u = [{ u with attrs := putA u.attrs name v }] := by
  obtain ⟨tx, s, at', ks⟩ := u
  simp only at ht
  subst ht
  simp [standOf, opSet, gOf, gSet, sgT, bodyOf]

theorem stand_drop {u : Tr} (ht : u.text = false) (n : Int) (name : ByteArray) : standOf (gOf (opDrop n name).kind (opDrop n name) (sgT u)) u = [{ u with attrs := cutA u.attrs name }] := by
  obtain ⟨tx, s, at', ks⟩ := u
  simp only at ht
  subst ht
  simp [standOf, opDrop, gOf, gDrop, sgT, bodyOf]

theorem stand_bef (u : Tr) (n : Int) (l : List Tr) : standOf (gOf (opBef n l).kind (opBef n l) (sgT u)) u = l ++ [u] := by
  obtain ⟨tx, s, at', ks⟩ := u
  cases tx <;> simp [standOf, opBef, gOf, gBef, sgT, bodyOf]

theorem stand_del (u : Tr) (n : Int) : standOf (gOf (opDel n).kind (opDel n) (sgT u)) u = [] := by
  simp [standOf, opDel, gOf, gGone, sgT]

def valU (u : Tr) (s : ByteArray) : Tr := if u.text then { u with s := s } else { u with kids := [valT s] }

theorem stand_val (u : Tr) (n : Int) (s : ByteArray) : standOf (gOf (opVal n s).kind (opVal n s) (sgT u)) u = [valU u s] := by
  obtain ⟨tx, s', at', ks⟩ := u
  cases tx <;> simp [standOf, opVal, gOf, gVal, sgT, bodyOf, valU]

theorem ok_wrong {ns : List Nd} {o : Opn} (he : applyE ns [o] = 0) : wrongF ns o = 0 := ((check_ok _ _).1 (apply_ok he).1).2.2.1 o (by simp)

/-- A change at one node that another takes back. -/
theorem back_any {ns : List Nd} {n d : Nat} {T u u' : Tr} {fs : List Fr} (hz : Zip ns n d T u [] fs) {o o' : Opn} (ho : o.target = (n : Int)) (ho' : o'.target = (n : Int)) (he : applyE ns [o] = 0) (hs : standOf (gOf o.kind o (sgT u)) u = [u']) (hs' : standOf (gOf o'.kind o' (sgT u')) u' = [u]) (h1 : u'.text = u.text) (h2 : u'.text = true → u'.s.data.toList ≠ []) (h3 : Neat u'.kids)
    (hw' : wrongF (applyD ns [o]) o' = 0) : applyE (applyD ns [o]) [o'] = 0 ∧ applyD (applyD ns [o]) [o'] = ns ∧ ∃ T', Zip (applyD ns [o]) n (ns.length + 9) T' u' [] fs := by
  obtain ⟨T', hp', hj, _, hgo, hgo2⟩ := hz.apply ho (ok_wrong he) (u' := u') (tl' := []) (by rw [hs]; rfl) (hz.swap h1 h2 h3 (by simp))
  obtain ⟨_, hz'⟩ := hgo (hgo2 he)
  obtain ⟨T2, hp2, hj2, hd2, hgo3, _⟩ := hz'.apply ho' hw' (u' := u) (tl' := []) (by rw [hs']; rfl) hz.neat
  rw [hz.plug] at hp2
  obtain rfl := (List.cons.inj hp2).1
  obtain ⟨he2, hz2⟩ := hgo3 hz.good
  refine ⟨he2, ?_, T', hz'⟩
  refine hz2.laid.symm.trans (Eq.trans ?_ hz.laid)
  rcases Nat.le_total d ((applyD ns [o]).length + 9) with h | h
  · exact lay_upto hz.deep h
  · exact (lay_upto hz2.deep h).symm

/-- Called otherwise, and as it was again, a document is as it was. -/
theorem back_ren {ns : List Nd} (hg : goodD ns = true) {n : Nat} {x : Nd} (hx : ns[n]? = some x) (ht : x.text = false) {name : ByteArray} (he : applyE ns [opRen n name] = 0) :
    applyE (applyD ns [opRen n name]) [opRen n x.s] = 0 ∧ applyD (applyD ns [opRen n name]) [opRen n x.s] = ns ∧ ∃ y, (applyD ns [opRen n name])[n]? = some y ∧ y.s = name := by
  obtain ⟨d, T, u, fs, hz⟩ := zip_get hg (lt_of_some hx)
  obtain ⟨x', hx', e1, e2, e3⟩ := hz.get
  rw [hx] at hx'
  obtain rfl := Option.some.inj hx'
  rw [ht] at e1
  have e1 := e1.symm
  have hk : Neat u.kids := neat_in fs hz.neat
  obtain ⟨T', hp', hj, _, hgo, hgo2⟩ := hz.apply (o := opRen n name) rfl (ok_wrong he) (u' := { u with s := name }) (tl' := []) (by rw [stand_ren e1]; rfl) (hz.swap (u' := { u with s := name }) rfl (fun h => by rw [e1] at h; cases h) hk (by simp))
  obtain ⟨_, hz'⟩ := hgo (hgo2 he)
  obtain ⟨y, hy, y1, y2, y3⟩ := hz'.get
  have hb := back_any hz (u' := { u with s := name }) (o := opRen n name) (o' := opRen n x.s) rfl rfl he (stand_ren e1 _ _) (by rw [stand_ren (u := { u with s := name }) e1, e2]; cases u; rfl) rfl (fun h => by rw [e1] at h; cases h) hk (by
    rw [wrong_ren hy (by rw [y1]; exact e1), e2, (right_attrs hz.right e1).1]; rfl)
  exact ⟨hb.1, hb.2.1, y, hy, y2⟩

theorem set_name {ns : List Nd} {n : Int} {name s : ByteArray} (h : wrongF ns (opSet n name s) = 0) : nameB name = true := by
  have := (ok_of h).2.2.2.2.1
  simpa [nameOk, hasN, opSet] using this

/-- So with an attribute that is set and dropped. -/
theorem back_set {ns : List Nd} (hg : goodD ns = true) {n : Nat} {x : Nd} (hx : ns[n]? = some x) (ht : x.text = false) {name s : ByteArray} (hn : ∀ a ∈ x.attrs, a.1 ≠ name) (he : applyE ns [opSet n name s] = 0) :
    applyE (applyD ns [opSet n name s]) [opDrop n name] = 0 ∧ applyD (applyD ns [opSet n name s]) [opDrop n name] = ns := by
  obtain ⟨d, T, u, fs, hz⟩ := zip_get hg (lt_of_some hx)
  obtain ⟨x', hx', e1, e2, e3⟩ := hz.get
  rw [hx] at hx'
  obtain rfl := Option.some.inj hx'
  rw [ht] at e1
  have e1 := e1.symm
  have hk : Neat u.kids := neat_in fs hz.neat
  have hsn := set_name (ok_wrong he)
  obtain ⟨T', hp', hj, _, hgo, hgo2⟩ := hz.apply (o := opSet n name s) rfl (ok_wrong he) (u' := { u with attrs := putA u.attrs name s }) (tl' := []) (by rw [stand_set e1]; rfl) (hz.swap (u' := { u with attrs := putA u.attrs name s }) rfl (fun h => by rw [e1] at h; cases h) hk (by simp))
  obtain ⟨_, hz'⟩ := hgo (hgo2 he)
  obtain ⟨y, hy, y1, y2, y3⟩ := hz'.get
  have hb := back_any hz (u' := { u with attrs := putA u.attrs name s }) (o := opSet n name s) (o' := opDrop n name) rfl rfl he (stand_set e1 _ _ _) (by
    rw [stand_drop (u := { u with attrs := putA u.attrs name s }) e1]
    show [({ u with attrs := cutA (putA u.attrs name s) name } : Tr)] = [u]
    rw [cut_put (attrs_up (right_attrs hz.right e1).2) (by rw [← e3]; exact hn)]
    cases u; rfl) rfl (fun h => by rw [e1] at h; cases h) hk (by
    rw [wrong_drop hy (by rw [y1]; exact e1), hsn]; rfl)
  exact ⟨hb.1, hb.2.1⟩

/-- One may stand for another where trees are right. -/
def StandR (X Y : List Tr) : Prop := ∀ (N : Nat) (p : Bool) (A C : List Tr), rgL (rgt N) p (A ++ (X ++ C)) = true → rgL (rgt N) p (A ++ (Y ++ C)) = true

theorem rgL_one {f : List Tr → Bool} {x y : Tr} (h1 : y.text = x.text) (h2 : rightB x = true → (x.text || f x.kids) = true → rightB y = true ∧ (y.text || f y.kids) = true) : ∀ (A C : List Tr) (p : Bool), rgL f p (A ++ (x :: C)) = true → rgL f p (A ++ (y :: C)) = true := by
  intro A
  induction A with
  | nil =>
    intro C p h
    simp only [List.nil_append, rgL, Bool.and_eq_true] at h ⊢
    obtain ⟨⟨⟨a, b⟩, c⟩, d⟩ := h
    obtain ⟨e1, e2⟩ := h2 a c
    rw [h1] at e2 ⊢
    exact ⟨⟨⟨e1, b⟩, e2⟩, d⟩
  | cons t A ih =>
    intro C p h
    simp only [List.cons_append, rgL, Bool.and_eq_true] at h ⊢
    exact ⟨h.1, ih C _ h.2⟩

theorem standR_plug {X Y : List Tr} (h : StandR X Y) (hX : X ≠ []) : ∀ fs : List Fr, StandR (plug fs X) (plug fs Y) := by
  have hne : ∀ fs : List Fr, plug fs X ≠ [] := by intro fs; cases fs <;> simp [plug, hX]
  intro fs
  induction fs with
  | nil => exact h
  | cons f fs ih =>
    intro N p A C
    refine rgL_one (x := { f.t with kids := f.ahead ++ (plug fs X ++ f.behind) }) (y := { f.t with kids := f.ahead ++ (plug fs Y ++ f.behind) }) rfl (fun h1 h2 => ?_) A C p
    cases ht : f.t.text with
    | true =>
      have := rgt_text h1 ht
      simp at this
      exact absurd this.2.1 (hne fs)
    | false =>
      refine ⟨?_, ?_⟩
      · simp only [rightB, ht] at h1 ⊢; exact h1
      · simp only [ht, Bool.false_or] at h2 ⊢
        cases N with
        | zero => rfl
        | succ N => exact ih N false f.ahead f.behind h2

theorem standR_ins {l : List Tr} (hl : ∀ t ∈ l, t.text = false ∧ rightB t = true ∧ ∀ N, rgt N t.kids = true) (X : List Tr) : StandR X (l ++ X) := by
  intro N p A
  have base : ∀ (l R : List Tr) (p : Bool), (∀ t ∈ l, t.text = false ∧ rightB t = true ∧ ∀ N, rgt N t.kids = true) → rgL (rgt N) p R = true → rgL (rgt N) p (l ++ R) = true := by
    intro l
    induction l with
    | nil => intro R p _ h; exact h
    | cons t l ih =>
      intro R p hl h
      obtain ⟨a, b, c⟩ := hl t List.mem_cons_self
      have h0 : rgL (rgt N) false R = true := by
        cases R with
        | nil => rfl
        | cons r R =>
          simp only [rgL, Bool.and_eq_true, Bool.false_and, Bool.not_false, and_true] at h ⊢
          exact ⟨⟨h.1.1.1, h.1.2⟩, h.2⟩
      simp only [List.cons_append, rgL, Bool.and_eq_true]
      rw [a]
      refine ⟨⟨⟨b, by simp⟩, by simp [c N]⟩, ih R false (fun u hu => hl u (List.mem_cons_of_mem _ hu)) h0⟩
  induction A generalizing p with
  | nil => intro C h; rw [List.nil_append, List.append_assoc]; exact base l _ p hl h
  | cons t A ih =>
    intro C h
    simp only [List.cons_append, rgL, Bool.and_eq_true] at h ⊢
    exact ⟨h.1, ih _ C h.2⟩

theorem rgt_all : ∀ {n : Nat} {ts : List Tr}, Deep n ts → rgt n ts = true → ∀ N, rgt N ts = true := by
  intro n
  induction n with
  | zero => intro ts h _ N; have e : ts = [] := h; subst e; exact rgt_nil N
  | succ n ih =>
    intro ts hd h N
    cases N with
    | zero => rfl
    | succ N =>
      have key : ∀ (l : List Tr) (p : Bool), (∀ t ∈ l, Deep n t.kids) → rgL (rgt n) p l = true → rgL (rgt N) p l = true := by
        intro l
        induction l with
        | nil => intro p _ _; rfl
        | cons t l ihl =>
          intro p hd h
          simp only [rgL, Bool.and_eq_true] at h ⊢
          refine ⟨⟨h.1.1, ?_⟩, ihl _ (fun u hu => hd u (List.mem_cons_of_mem _ hu)) h.2⟩
          have h3 := h.1.2
          cases htx : t.text with
          | true => rfl
          | false =>
            rw [htx, Bool.false_or] at h3
            rw [Bool.false_or]
            exact ih (hd t List.mem_cons_self) h3 N
      exact key ts false hd h

theorem content_each {l : List Tr} (h : contentB l = true) : ∀ t ∈ l, rightB t = true ∧ (t.text = false → ∀ N, rgt N t.kids = true) := by
  have hd : Deep 8 l := rb_deep 8 80 l (by simpa [contentB] using h)
  rw [contentB_eq hd] at h
  simp only [Bool.and_eq_true] at h
  intro t ht
  obtain ⟨h1, h2⟩ := rgL_mem _ _ h.2 t ht
  refine ⟨h1, fun hx => ?_⟩
  rw [hx, Bool.false_or] at h2
  exact rgt_all (hd t ht) h2

theorem dep_plug {X Y : List Tr} (h : ∀ N, dep N X ≤ dep N Y) : ∀ (fs : List Fr) (N : Nat), dep N (plug fs X) ≤ dep N (plug fs Y) := by
  intro fs
  induction fs with
  | nil => exact h
  | cons f fs ih =>
    intro N
    cases N with
    | zero => exact Nat.le_refl _
    | succ N =>
      have := ih N
      show dep (N + 1) [_] ≤ dep (N + 1) [_]
      rw [dep_cons, dep_cons, dep_nil]
      show max (1 + dep N (f.ahead ++ (plug fs X ++ f.behind))) 0 ≤ max (1 + dep N (f.ahead ++ (plug fs Y ++ f.behind))) 0
      rw [dep_append, dep_append, dep_append, dep_append]
      omega

theorem cnt_plug {X Y : List Tr} (h : ∀ N, cnt N X ≤ cnt N Y) : ∀ (fs : List Fr) (N : Nat), cnt N (plug fs X) ≤ cnt N (plug fs Y) := by
  intro fs
  induction fs with
  | nil => exact h
  | cons f fs ih =>
    intro N
    cases N with
    | zero => exact Nat.le_refl _
    | succ N =>
      have := ih N
      show cnt (N + 1) [_] ≤ cnt (N + 1) [_]
      rw [cnt_one, cnt_one]
      show 1 + cnt N (f.ahead ++ (plug fs X ++ f.behind)) ≤ 1 + cnt N (f.ahead ++ (plug fs Y ++ f.behind))
      rw [cnt_append, cnt_append, cnt_append, cnt_append]
      omega

theorem one_append (l : List Tr) (u : Tr) : ∃ v tl, l ++ [u] = v :: tl := by cases l with
  | nil => exact ⟨u, [], rfl⟩
  | cons t l => exact ⟨t, l ++ [u], rfl⟩

/-- Trees that stand ahead of a node are taken out one by one. -/
theorem puts_out {n : Nat} (h0 : n ≠ 0) {T u : Tr} {fs : List Fr} {d : Nat} {ns : List Nd} (hz0 : Zip ns n d T u [] fs) : ∀ (l : List Tr) (ms : List Nd) (e : Nat) (Tx v : Tr) (tl : List Tr), (∀ t ∈ l, t.text = false ∧ rightB t = true ∧ (∀ N, rgt N t.kids = true) ∧ Neat t.kids) → l ++ [u] = v :: tl → Zip ms n e Tx v tl fs →
    (l = [] → ms = ns) ∧ ∀ t l', l = t :: l' → growF ms.length ms n = t ∧ n < ms.length ∧ applyE ms [opDel n] = 0 ∧ ∃ e' T' v' tl', l' ++ [u] = v' :: tl' ∧ Zip (applyD ms [opDel n]) n e' T' v' tl' fs := by
  intro l ms e Tx v tl hl hv hz
  refine ⟨?_, ?_⟩
  · rintro rfl
    obtain ⟨rfl, rfl⟩ := List.cons.inj hv
    have hp := hz.plug
    rw [hz0.plug] at hp
    obtain rfl := (List.cons.inj hp).1
    rw [← hz.laid, ← hz0.laid]
    rcases Nat.le_total d e with h | h
    · exact lay_upto hz0.deep h
    · exact (lay_upto hz.deep h).symm
  · rintro t l' rfl
    have hv : t :: (l' ++ [u]) = v :: tl := hv
    obtain ⟨rfl, rfl⟩ := List.cons.inj hv
    obtain ⟨x, hx, _⟩ := hz.get
    have hn := lt_of_some hx
    obtain ⟨v', tl', hv'⟩ := one_append l' u
    have hl' : ∀ t ∈ l', t.text = false ∧ rightB t = true ∧ (∀ N, rgt N t.kids = true) ∧ Neat t.kids := fun t ht => hl t (List.mem_cons_of_mem _ ht)
    have hneat : Neat (plug fs (v' :: tl')) := by
      rw [← hv']
      refine neat_plug (stand_ins (fun t ht => (hl' t ht).1) [u]) (fun y hy => ?_) fs hz0.neat
      rcases List.mem_append.1 hy with hy | hy
      · exact (hl' y hy).2.2.2
      · simp at hy; subst hy; exact neat_in fs hz0.neat
    obtain ⟨T', hp', hj, hd', hgo, _⟩ := hz.apply (o := opDel n) rfl (wrong_del hn h0) (u' := v') (tl' := tl') (by rw [stand_del, List.nil_append]; exact hv') hneat
    have hgT : goodB T' = true := by
      have hG := hz.good
      have hG0 := hz0.good
      rw [goodB_eq (hz.deep.upto (show e ≤ ms.length + 9 + e by omega))] at hG
      rw [goodB_eq (hz0.deep.upto (show d ≤ ms.length + 9 + e + d by omega))] at hG0
      rw [goodB_eq (hd'.upto (show ms.length + 9 ≤ ms.length + 9 + e by omega))]
      simp only [Bool.and_eq_true, Bool.not_eq_true', decide_eq_true_eq] at hG hG0 ⊢
      have hmem : ∀ N, dep N (v' :: tl') ≤ dep N (t :: (l' ++ [u])) := fun N => by
        rw [← hv', show t :: (l' ++ [u]) = [t] ++ (l' ++ [u]) from rfl, dep_append N [t] (l' ++ [u])]
        exact Nat.le_max_right _ _
      have hcnt : ∀ N, cnt N (v' :: tl') ≤ cnt N (t :: (l' ++ [u])) := fun N => by
        rw [← hv', show t :: (l' ++ [u]) = [t] ++ (l' ++ [u]) from rfl, cnt_append N [t] (l' ++ [u])]
        omega
      have h1 := dep_plug hmem fs (ms.length + 9 + e + 1)
      have h2 := cnt_plug hcnt fs (ms.length + 9 + e + 1)
      have hpz := hz.plug
      rw [hp', hpz] at h1 h2
      have hr : rgt (ms.length + 9 + e + d + 1) [T'] = true := by
        have hst := standR_plug (standR_ins (l := l') (fun t ht => ⟨(hl' t ht).1, (hl' t ht).2.1, (hl' t ht).2.2.1⟩) [u]) (by simp) fs (ms.length + 9 + e + d) false [] []
        rw [List.nil_append, List.nil_append, List.append_nil, List.append_nil, hz0.plug, hv', hp'] at hst
        exact hst hG0.2
      have hdT : Deep (ms.length + 9 + e + d + 1) [T'] := by intro y hy; simp at hy; subst hy; exact hd'.upto (by omega)
      have hr2 := rgt_all hdT hr (ms.length + 9 + e + 1)
      have htx : T'.text = false := by
        cases fs with
        | nil =>
          have := hz0.num
          exact absurd this.symm (by simpa [stZ] using h0)
        | cons f fs =>
          have e1 := (List.cons.inj hp').1
          have e2 := (List.cons.inj hpz).1
          rw [← e1]
          have := hG.1.1.1
          rw [← e2] at this
          exact this
      exact ⟨⟨⟨htx, by omega⟩, by omega⟩, hr2⟩
    obtain ⟨he, hz'⟩ := hgo hgT
    exact ⟨hz.grow, hn, he, _, T', v', tl', hv', hz'⟩

/-- Elements that are put in ahead of a node. -/
theorem puts_in {ns : List Nd} {n : Int} {l : List Tr} (hl : ∀ t ∈ l, t.text = false) (he : applyE ns [opBef n l] = 0) :
    ∃ (m d : Nat) (T u : Tr) (fs : List Fr), n = (m : Int) ∧ m ≠ 0 ∧ Zip ns m d T u [] fs ∧ (∀ t ∈ l, t.text = false ∧ rightB t = true ∧ (∀ N, rgt N t.kids = true) ∧ Neat t.kids) ∧ ∃ e T' v tl, l ++ [u] = v :: tl ∧ Zip (applyD ns [opBef n l]) m e T' v tl fs := by
  have hc := (check_ok _ _).1 (apply_ok he).1
  have hw := ok_wrong he
  obtain ⟨hok, _, _, hco, _⟩ := ok_of hw
  have hpos : 0 ≤ n := hok.pos
  have hlt : n.toNat < ns.length := hok.lt
  have hr : n.toNat ≠ 0 := hok.root (Or.inl rfl)
  have hcl : contentB l = true := by simpa [contOk, hasC, opBef] using hco
  obtain ⟨m, rfl⟩ : ∃ m : Nat, n = (m : Int) := ⟨n.toNat, by omega⟩
  rw [Int.toNat_natCast] at hlt hr
  obtain ⟨d, T, u, fs, hz⟩ := zip_get hc.1 hlt
  have hall : ∀ t ∈ l, t.text = false ∧ rightB t = true ∧ (∀ N, rgt N t.kids = true) ∧ Neat t.kids := fun t ht => ⟨hl t ht, (content_each hcl t ht).1, (content_each hcl t ht).2 (hl t ht), (neat_iff.1 (neat_content hcl)).2 t ht⟩
  obtain ⟨v, tl, hv⟩ := one_append l u
  have hneat : Neat (plug fs (v :: tl)) := by
    rw [← hv]
    refine neat_plug (stand_ins hl [u]) (fun y hy => ?_) fs hz.neat
    rcases List.mem_append.1 hy with hy | hy
    · exact (hall y hy).2.2.2
    · simp at hy; subst hy; exact neat_in fs hz.neat
  obtain ⟨T', hp', _, _, hgo, hgo2⟩ := hz.apply (o := opBef m l) rfl hw (u' := v) (tl' := tl) (by rw [stand_bef, List.append_nil]; exact hv) hneat
  obtain ⟨_, hz'⟩ := hgo (hgo2 he)
  exact ⟨m, d, T, u, fs, rfl, hr, hz, hall, _, T', v, tl, hv, hz'⟩

theorem tell_wide : ∀ {d : Nat} {ts : List Tr}, Deep d ts → ∀ {n : Nat}, d ≤ n → tell n ts = tell d ts := by
  intro d
  induction d with
  | zero => intro ts h n _; have e : ts = [] := h; subst e; cases n <;> rfl
  | succ d ih =>
    intro ts h n hn
    obtain ⟨m, rfl⟩ : ∃ m, n = m + 1 := ⟨n - 1, by omega⟩
    have : ∀ l : List Tr, (∀ t ∈ l, Deep d t.kids) → tell (m + 1) l = tell (d + 1) l := by
      intro l
      induction l with
      | nil => intro _; rfl
      | cons t r ihl =>
        intro hl
        have e1 := ih (hl t List.mem_cons_self) (n := m) (by omega)
        have e2 := ihl (fun u hu => hl u (List.mem_cons_of_mem _ hu))
        show ((if t.text then t.s.data.toList else []) ++ tell m t.kids) ++ tell (m + 1) r = ((if t.text then t.s.data.toList else []) ++ tell d t.kids) ++ tell (d + 1) r
        rw [e1, e2]
    exact this ts h

def aZ : List Fr → List UInt8
  | [] => []
  | f :: fs => (if f.t.text then f.t.s.data.toList else []) ++ (tell 1000 f.ahead ++ aZ fs)
def bZ : List Fr → List UInt8
  | [] => []
  | f :: fs => bZ fs ++ tell 1000 f.behind

theorem flat_lays {d p : Nat} : ∀ (ks : List Tr) (a : Nat), (∀ k ∈ ks, Deep d k.kids) → (laysOf d (layF d) p a ks).flatMap txt = tell (d + 1) ks := by
  intro ks
  induction ks with
  | nil => intro a _; rfl
  | cons k ks ih =>
    intro a hd
    rw [laysOf, List.flatMap_append, flat_lay d k _ _ (hd k List.mem_cons_self), ih _ (fun u hu => hd u (List.mem_cons_of_mem _ hu))]
    rfl

theorem plug_one (u : Tr) (fs : List Fr) : ∃ T, plug fs [u] = [T] := by cases fs with
  | nil => exact ⟨u, rfl⟩
  | cons f fs => exact ⟨_, rfl⟩

theorem laysOf_len' {d p : Nat} {a : Nat} (ks : List Tr) (hd : ∀ k ∈ ks, Deep d k.kids) : (laysOf d (layF d) p a ks).length = cnt (d + 1) ks := by
  induction ks generalizing a with
  | nil => rfl
  | cons k ks ih => rw [laysOf, List.length_append, layF_length d k _ _ (hd k List.mem_cons_self), ih (fun u hu => hd u (List.mem_cons_of_mem _ hu)), cnt_more d k ks]

/-- A document's nodes: those ahead of one, what is in it, those behind. -/
theorem lay_plug {u : Tr} : ∀ (fs : List Fr) (d : Nat) (T : Tr) (par : Int) (b : Nat), plug fs [u] = [T] → Deep d T.kids → d ≤ 900 → ∃ (P Q : List Nd) (e : Nat) (q : Int), layF d T par b = P ++ (layF e u q (stZ 1000 fs b) ++ Q) ∧ b + P.length = stZ 1000 fs b ∧ Deep e u.kids ∧ P.flatMap txt = aZ fs ∧ Q.flatMap txt = bZ fs := by
  intro fs
  induction fs with
  | nil =>
    intro d T par b hp hd _
    obtain rfl := (List.cons.inj hp).1
    exact ⟨[], [], d, par, by simp [stZ], rfl, hd, rfl, rfl⟩
  | cons f fs ih =>
    intro d T par b hp hd hd9
    obtain ⟨T2, hT2⟩ := plug_one u fs
    have hT := (List.cons.inj hp).1
    subst hT
    cases d with
    | zero =>
      have e : f.ahead ++ (plug fs [u] ++ f.behind) = [] := hd
      simp at e
      exact absurd e.2.1 (plug_ne fs u [])
    | succ d =>
      have hk : ∀ k ∈ f.ahead ++ (plug fs [u] ++ f.behind), Deep d k.kids := hd
      have hA : cnt 1000 f.ahead = cnt (d + 1) f.ahead := cnt_wide (d := d + 1) (fun k h => hk k (List.mem_append_left _ h)) (by omega)
      have dA : Deep (d + 1) f.ahead := fun k h => hk k (List.mem_append_left _ h)
      have dC : Deep (d + 1) f.behind := fun k h => hk k (List.mem_append_right _ (List.mem_append_right _ h))
      have d2 : Deep d T2.kids := hk T2 (List.mem_append_right _ (List.mem_append_left _ (by rw [hT2]; exact List.mem_singleton.2 rfl)))
      obtain ⟨P, Q, e, q, h1, h2, h3, h4, h5⟩ := ih d T2 (b : Int) (b + 1 + cnt (d + 1) f.ahead) hT2 d2 (by omega)
      have hst : stZ 1000 (f :: fs) b = stZ 1000 fs (b + 1 + cnt (d + 1) f.ahead) := by show stZ 1000 fs (b + 1 + cnt 1000 f.ahead) = _; rw [hA]
      refine ⟨⟨f.t.text, f.t.s, f.t.attrs, par, startsOf d (b + 1) (f.ahead ++ (plug fs [u] ++ f.behind))⟩ :: (laysOf d (layF d) b (b + 1) f.ahead ++ P), Q ++ laysOf d (layF d) b (b + 1 + cnt (d + 1) f.ahead + cnt (d + 1) [T2]) f.behind, e, q, ?_, ?_, h3, ?_, ?_⟩
      · show ⟨f.t.text, f.t.s, f.t.attrs, par, startsOf d (b + 1) (f.ahead ++ (plug fs [u] ++ f.behind))⟩ :: laysOf d (layF d) b (b + 1) (f.ahead ++ (plug fs [u] ++ f.behind)) = _
        rw [laysOf_append, hT2]
        show _ :: (_ ++ laysOf d (layF d) b (b + 1 + cnt (d + 1) f.ahead) (T2 :: f.behind)) = _
        rw [laysOf, h1, hst]
        simp only [List.cons_append, List.append_assoc]
      · rw [hst, ← h2, List.length_cons, List.length_append, laysOf_len' f.ahead (fun k h => hk k (List.mem_append_left _ h))]
        omega
      · rw [List.flatMap_cons, List.flatMap_append, flat_lays _ _ (fun k h => hk k (List.mem_append_left _ h)), h4]
        show txt _ ++ _ = (if f.t.text then f.t.s.data.toList else []) ++ (tell 1000 f.ahead ++ aZ fs)
        rw [tell_wide dA (n := 1000) (by omega)]
        rfl
      · rw [List.flatMap_append, h5, flat_lays _ _ (fun k h => hk k (List.mem_append_right _ (List.mem_append_right _ h)))]
        show _ = bZ fs ++ tell 1000 f.behind
        rw [tell_wide dC (n := 1000) (by omega)]

/-- The texts of a document around a node, and in it. -/
theorem Zip.texts {ns : List Nd} {n d : Nat} {T u : Tr} {fs : List Fr} (h : Zip ns n d T u [] fs) : ∃ e, Deep e u.kids ∧ strD ns (n : Int) = (if u.text then u.s.data.toList else []) ++ tell e u.kids ∧ strD ns 0 = aZ fs ++ (((if u.text then u.s.data.toList else []) ++ tell e u.kids) ++ bZ fs) ∧
    (ns.take n).flatMap txt = aZ fs ∧ (ns.drop (endD ns (n : Int)).toNat).flatMap txt = bZ fs ∧ 0 < endD ns (n : Int) := by
  obtain ⟨P, Q, e, q, h1, h2, h3, h4, h5⟩ := lay_plug fs d T (-1) 0 h.plug h.deep (by have := h.wide; omega)
  rw [h.laid, h.num] at h1
  rw [h.num, Nat.zero_add] at h2
  have hg := h.goodD
  have hL := layF_length e u q n h3
  have hc := cnt_pos e u
  have hseg : Seg ns n (layF e u q n) := by
    intro i x hx
    have hi := lt_of_some hx
    rw [h1, List.getElem?_append_right (by omega), List.getElem?_append_left (by omega), show n + i - P.length = i by omega]
    exact hx
  have hlen : ns.length = n + cnt (e + 1) [u] + Q.length := by rw [h1, List.length_append, List.length_append, hL]; omega
  obtain ⟨_, he, _, _⟩ := sub_end hg ⟨e, u, h3, hseg, rfl⟩ (by omega)
  have hfl := flat_lay e u q n h3
  have htake : ns.take (n + cnt (e + 1) [u]) = P ++ layF e u q n := by
    rw [h1, ← List.append_assoc, List.take_append_of_le_length (by rw [List.length_append]; omega), List.take_of_length_le (by rw [List.length_append]; omega)]
  have hdrop : ns.drop (n + cnt (e + 1) [u]) = Q := by
    rw [h1, ← List.append_assoc, List.drop_append_of_le_length (by rw [List.length_append]; omega), List.drop_of_length_le (by rw [List.length_append]; omega), List.nil_append]
  have hen : (endD ns (n : Int)).toNat = n + cnt (e + 1) [u] := by rw [he]; omega
  refine ⟨e, h3, ?_, ?_, ?_, ?_, by rw [he]; omega⟩
  · unfold strD
    rw [if_neg (by rw [he]; omega), hen, htake, Int.toNat_natCast, ← h2, List.drop_left, h2, hfl]
  · obtain ⟨_, _, he0, hl0⟩ := made_good h.deep h.good
    rw [h.laid] at he0 hl0
    unfold strD
    rw [if_neg (by rw [he0]; have := cnt_pos d T; omega), he0, Int.toNat_natCast, ← hl0, List.take_length]
    show (ns.drop 0).flatMap txt = _
    rw [List.drop_zero, h1, List.flatMap_append, List.flatMap_append, h4, h5, hfl]
  · rw [h1, ← h2, List.take_left, h4]
  · rw [hen, hdrop, h5]

/-- Whoever is given a value says that, and all else what it said. -/
theorem values_say {ns : List Nd} {n : Int} {s : ByteArray} (hs : s.data.toList ≠ []) (he : applyE ns [opVal n s] = 0) :
    ∃ m : Nat, n = (m : Int) ∧ m < ns.length ∧ goodD ns = true ∧ strD (applyD ns [opVal n s]) n = s.data.toList ∧ strD (applyD ns [opVal n s]) 0 = (ns.take m).flatMap txt ++ (s.data.toList ++ (ns.drop (endD ns n).toNat).flatMap txt) ∧ ((ns.take m).flatMap txt).length + ((ns.drop (endD ns n).toNat).flatMap txt).length ≤ (strD ns 0).length := by
  have hc := (check_ok _ _).1 (apply_ok he).1
  have hw := ok_wrong he
  obtain ⟨hok, _⟩ := ok_of hw
  have hpos : 0 ≤ n := hok.pos
  have hlt : n.toNat < ns.length := hok.lt
  obtain ⟨m, rfl⟩ : ∃ m : Nat, n = (m : Int) := ⟨n.toNat, by omega⟩
  rw [Int.toNat_natCast] at hlt
  obtain ⟨d, T, u, fs, hz⟩ := zip_get hc.1 hlt
  have htx : (valU u s).text = u.text := by unfold valU; split <;> rfl
  have hku : Neat u.kids := neat_in fs hz.neat
  have hk : Neat (valU u s).kids := by
    unfold valU
    split
    · exact hku
    · refine neat_iff.2 ⟨⟨fun _ => ⟨hs, by simp⟩, trivial⟩, fun y hy => ?_⟩
      simp at hy
      subst hy
      exact neat_nil
  obtain ⟨T', hp', hj, _, hgo, hgo2⟩ := hz.apply (o := opVal m s) rfl hw (u' := valU u s) (tl' := []) (by rw [stand_val]; rfl) (hz.swap htx (fun h => by
    rw [htx] at h
    unfold valU
    rw [if_pos h]
    exact hs) hk (by simp))
  obtain ⟨_, hz'⟩ := hgo (hgo2 he)
  obtain ⟨e, e1, e2, e3, e4, e5, _⟩ := hz.texts
  obtain ⟨e', f1, f2, f3, _, _, _⟩ := hz'.texts
  have hval : (if (valU u s).text then (valU u s).s.data.toList else []) ++ tell e' (valU u s).kids = s.data.toList := by
    unfold valU at f1 ⊢
    cases hu : u.text with
    | true =>
      rw [hu] at f1
      have hr := hz.right
      have hk0 : u.kids = [] := rgt_text hr hu
      simp only [if_true, hk0]
      cases e' <;> simp [tell]
    | false =>
      rw [hu] at f1
      simp only [Bool.false_eq_true, if_false, List.nil_append] at f1 ⊢
      cases e' with
      | zero => exact absurd f1 (by simp [Deep])
      | succ e' =>
        cases e' <;> simp [tell, valT]
  refine ⟨m, rfl, hlt, hc.1, by rw [f2, hval], by rw [f3, hval, e4, e5], ?_⟩
  rw [e3, e4, e5]
  simp only [List.length_append]
  omega
end Go.Proofs.Ytlchbhlmbphkpaa

