/- Contracts of package weed's functions, joined; see each part's theorems. -/
import Derived.Test.YtcecmphdmpeibaaU4

set_option linter.unusedSimpArgs false
set_option linter.unusedVariables false
namespace Go.Proofs.Ytcecmphdmpeibaa
open Go.RowKit

/-- Lexicographically before. -/
def M.lexlt : List Int → List Int → Bool
  | [], [] => false
  | [], _ :: _ => true
  | _ :: _, [] => false
  | a :: r, b :: s => decide (a < b) || (decide (a = b) && M.lexlt r s)

def M.Rise (sz : Nat) (frm : Int) : List Int → Prop
  | [] => True
  | a :: r => frm ≤ a ∧ a < sz ∧ M.Rise sz (a + 1) r

theorem M.mem_incr (sz : Nat) : ∀ (L frm : Nat) (x : List Int), x ∈ M.incr sz L frm ↔ x.length = L ∧ M.Rise sz frm x
  | 0, frm, x => by
    unfold M.incr
    constructor
    · intro h
      rw [List.mem_singleton] at h
      subst h
      exact ⟨rfl, trivial⟩
    · intro ⟨h, _⟩
      rw [List.eq_nil_of_length_eq_zero h]; simp
  | L + 1, frm, x => by
    unfold M.incr
    rw [List.mem_flatMap]
    constructor
    · rintro ⟨k, hk, hx⟩
      obtain ⟨y, hy, rfl⟩ := List.mem_map.1 hx
      rw [List.mem_range'] at hk
      obtain ⟨i, hi, rfl⟩ := hk
      obtain ⟨h1, h2⟩ := (M.mem_incr sz L _ y).1 hy
      refine ⟨by simp [h1], ?_, ?_, ?_⟩
      · omega
      · omega
      · exact_mod_cast h2
    · rintro ⟨h1, h2⟩
      cases x with
      | nil => simp at h1
      | cons a r =>
        obtain ⟨h3, h4, h5⟩ := h2
        obtain ⟨k, rfl⟩ := Int.eq_ofNat_of_zero_le (show 0 ≤ a by omega)
        refine ⟨k, ?_, ?_⟩
        · rw [List.mem_range']
          exact ⟨k - frm, by omega, by omega⟩
        · refine List.mem_map.2 ⟨r, (M.mem_incr sz L (k + 1) r).2 ⟨by simpa using h1, ?_⟩, rfl⟩
          exact_mod_cast h5

theorem M.incr_sorted (sz : Nat) : ∀ (L frm : Nat), (M.incr sz L frm).Pairwise (fun x y => M.lexlt x y = true)
  | 0, frm => by unfold M.incr; simp
  | L + 1, frm => by
    unfold M.incr
    rw [List.flatMap_def, List.pairwise_flatten]
    constructor
    · intro l hl
      obtain ⟨k, _, rfl⟩ := List.mem_map.1 hl
      rw [List.pairwise_map]
      refine (M.incr_sorted sz L (k + 1)).imp ?_
      intro a b hab
      simp [M.lexlt, hab]
    · rw [List.pairwise_map]
      refine (List.pairwise_lt_range' (s := frm) (n := sz - frm) (step := 1)).imp ?_
      intro i j hij x hx y hy
      obtain ⟨x', _, rfl⟩ := List.mem_map.1 hx
      obtain ⟨y', _, rfl⟩ := List.mem_map.1 hy
      have : (i : Int) < (j : Int) := by omega
      simp [M.lexlt, this]

theorem M.lexlt_irrefl : ∀ x, M.lexlt x x = false
  | [] => rfl
  | a :: r => by simp [M.lexlt, M.lexlt_irrefl r]
theorem M.lexlt_asymm : ∀ x y, M.lexlt x y = true → M.lexlt y x = false
  | [], [], h => by cases h
  | [], _ :: _, _ => rfl
  | _ :: _, [], h => by cases h
  | a :: r, b :: s, h => by
    unfold M.lexlt at h ⊢
    simp only [Bool.or_eq_true, Bool.and_eq_true, decide_eq_true_eq] at h
    simp only [Bool.or_eq_false_iff, Bool.and_eq_false_iff, decide_eq_false_iff_not]
    rcases h with h | ⟨h, h'⟩
    · exact ⟨by omega, .inl (by omega)⟩
    · exact ⟨by omega, .inr (M.lexlt_asymm r s h')⟩

/-- x is shorter than y, or as long and lexicographically before it. -/
def M.shorter (x y : List Int) : Bool := decide (x.length < y.length) || (decide (x.length = y.length) && M.lexlt x y)

/-- What the search for the shortest list gives. -/
theorem M.first_spec (p : List Int → Bool) (sz : Nat) : ∀ (j L : Nat), (∃ x, L ≤ x.length ∧ x.length < L + j ∧ M.Rise sz 0 x ∧ p x = true) →
    M.Rise sz 0 (M.first p sz L j) ∧ p (M.first p sz L j) = true ∧ ∀ y, L ≤ y.length → M.Rise sz 0 y → p y = true → M.shorter y (M.first p sz L j) = false
  | 0, L, ⟨x, h1, h2, _⟩ => by omega
  | j + 1, L, ⟨x, h1, h2, h3, h4⟩ => by
    unfold M.first
    cases hf : (M.incr sz L 0).find? p with
    | none =>
      have hn := List.find?_eq_none.1 hf
      have hL : ∀ y, y.length = L → M.Rise sz 0 y → p y ≠ true := fun y e hr => by
        exact hn y ((M.mem_incr sz L 0 y).2 ⟨e, by exact_mod_cast hr⟩)
      have hne : x.length ≠ L := fun e => hL x e h3 h4
      obtain ⟨g1, g2, g3⟩ := M.first_spec p sz j (L + 1) ⟨x, by omega, by omega, h3, h4⟩
      refine ⟨g1, g2, fun y hy hr hp => g3 y ?_ hr hp⟩
      have : y.length ≠ L := fun e => hL y e hr hp
      omega
    | some z =>
      have hz := List.mem_of_find?_eq_some hf
      have hpz := List.find?_some hf
      obtain ⟨e1, e2⟩ := (M.mem_incr sz L 0 z).1 hz
      refine ⟨by exact_mod_cast e2, hpz, fun y hy hr hp => ?_⟩
      unfold M.shorter
      simp only [Bool.or_eq_false_iff, Bool.and_eq_false_iff, decide_eq_false_iff_not]
      refine ⟨by omega, ?_⟩
      by_cases e : y.length = z.length
      · right
        have hym : y ∈ M.incr sz L 0 := (M.mem_incr sz L 0 y).2 ⟨by omega, by exact_mod_cast hr⟩
        obtain ⟨l1, l2, hab, has⟩ := (List.find?_eq_some_iff_append.1 hf).2
        have hs := M.incr_sorted sz L 0
        rw [hab] at hs hym
        rcases List.mem_append.1 hym with hm | hm
        · have := has y hm
          rw [hp] at this; cases this
        · rcases List.mem_cons.1 hm with rfl | hm
          · exact M.lexlt_irrefl _
          · have h5 := (List.pairwise_append.1 hs).2.1
            have h6 := (List.pairwise_cons.1 h5).1 y hm
            exact M.lexlt_asymm _ _ h6
      · exact .inl e

theorem M.Rise_len {sz : Nat} : ∀ {x : List Int} {frm : Int}, M.Rise sz frm x → 0 ≤ frm → x = [] ∨ frm + x.length ≤ sz
  | [], _, _, _ => .inl rfl
  | a :: r, frm, h, h0 => by
    right
    obtain ⟨h1, h2, h3⟩ := h
    rcases M.Rise_len h3 (by omega) with rfl | h4
    · simp; omega
    · rw [List.length_cons]; omega

theorem M.shortest_spec {p : List Int → Bool} {sz : Nat} {x : List Int} (h1 : M.Rise sz 0 x) (h2 : p x = true) :
    M.Rise sz 0 (M.shortest p sz) ∧ p (M.shortest p sz) = true ∧ ∀ y, M.Rise sz 0 y → p y = true → M.shorter y (M.shortest p sz) = false := by
  have hl : x.length < 0 + (sz + 1) := by
    rcases M.Rise_len h1 (by omega) with rfl | h
    · simp
    · omega
  obtain ⟨g1, g2, g3⟩ := M.first_spec p sz (sz + 1) 0 ⟨x, by omega, hl, h1, h2⟩
  exact ⟨g1, g2, fun y hr hp => g3 y (by omega) hr hp⟩

theorem M.first_none (p : List Int → Bool) (sz : Nat) (h : ∀ x, M.Rise sz 0 x → p x = false) : ∀ (j L : Nat), M.first p sz L j = []
  | 0, L => rfl
  | j + 1, L => by
    unfold M.first
    have : (M.incr sz L 0).find? p = none := by
      rw [List.find?_eq_none]
      intro x hx
      have := h x (by have := ((M.mem_incr sz L 0 x).1 hx).2; exact_mod_cast this)
      simp [this]
    rw [this]
    exact M.first_none p sz h j (L + 1)

theorem M.Rise_mem {sz : Nat} : ∀ {x : List Int} {frm : Int}, M.Rise sz frm x → ∀ y ∈ x, frm ≤ y ∧ y < sz
  | a :: r, frm, ⟨h1, h2, h3⟩, y, hy => by
    rcases List.mem_cons.1 hy with rfl | hy
    · exact ⟨h1, h2⟩
    · have := M.Rise_mem h3 y hy
      omega

theorem M.Rise_range (sz : Nat) : ∀ (n frm : Nat), frm + n ≤ sz → M.Rise sz frm ((List.range' frm n).map fun (k : Nat) => (k : Int))
  | 0, _, _ => trivial
  | n + 1, frm, h => by
    rw [List.range'_succ, List.map_cons]
    refine ⟨Int.le_refl _, by omega, ?_⟩
    have := M.Rise_range sz n (frm + 1) (by omega)
    exact_mod_cast this

/-- What is kept of a sheet. -/
theorem M.keep_get (s : List Int) : ∀ (rows k : List Int) (r : Nat), k.length = 7 → r < 7 → (∀ x ∈ rows, 0 ≤ x ∧ x ≤ 6) →
    (M.keep s k rows).getD r 0 = if (r : Int) ∈ rows then s.getD r 0 else k.getD r 0
  | [], k, r, _, _, _ => by simp [M.keep]
  | x :: rest, k, r, hk, hr, hx => by
    unfold M.keep
    obtain ⟨x0, x6⟩ := hx x (by simp)
    rw [M.keep_get s rest _ r (by simpa using hk) hr (fun y hy => hx y (by simp [hy])), getD_set (by omega)]
    by_cases h1 : (r : Int) ∈ rest
    · rw [if_pos h1, if_pos (by simp [h1])]
    · rw [if_neg h1]
      by_cases h2 : r = x.toNat
      · have h3 : (r : Int) = x := by omega
        rw [if_pos h2, if_pos (by simp [h3]), h2]
      · have h3 : (r : Int) ≠ x := by omega
        rw [if_neg h2, if_neg (by simp [h3, h1])]

theorem ext7 {a b : List Int} (ha : a.length = 7) (hb : b.length = 7) (h : ∀ r, r < 7 → a.getD r 0 = b.getD r 0) : a = b := by
  refine List.ext_getElem (by omega) fun i h1 h2 => ?_
  have := h i (by omega)
  rw [List.getD_eq_getElem?_getD, List.getD_eq_getElem?_getD, List.getElem?_eq_getElem h1, List.getElem?_eq_getElem h2] at this
  simpa using this

theorem M.kept_eq {t u rows : List Int} (hx : ∀ x ∈ rows, 0 ≤ x ∧ x ≤ 6) : M.kept t rows = M.kept u rows ↔ ∀ r ∈ rows, t.getD r.toNat 0 = u.getD r.toNat 0 := by
  unfold M.kept
  constructor
  · intro h r hr
    obtain ⟨h0, h6⟩ := hx r hr
    have h1 := M.keep_get t rows M.blank r.toNat rfl (by omega) hx
    have h2 := M.keep_get u rows M.blank r.toNat rfl (by omega) hx
    rw [if_pos (by rw [show ((r.toNat : Nat) : Int) = r from by omega]; exact hr)] at h1 h2
    rw [← h1, ← h2, h]
  · intro h
    refine ext7 (by rw [M.keep_len]; rfl) (by rw [M.keep_len]; rfl) fun r hr => ?_
    rw [M.keep_get t rows M.blank r rfl hr hx, M.keep_get u rows M.blank r rfl hr hx]
    split
    · rename_i hm
      have := h _ hm
      simpa using this
    · rfl

/-- Settling, in words. -/
theorem M.settles_iff {f : M.Fl} {x : Int} {ts : List (List Int)} {rows : List Int} (hx : ∀ x ∈ rows, 0 ≤ x ∧ x ≤ 6) :
    M.settles f x ts rows = true ↔ ∀ t ∈ ts, ∀ u ∈ ts, (∀ r ∈ rows, t.getD r.toNat 0 = u.getD r.toNat 0) → M.number f x t = M.number f x u := by
  unfold M.settles M.clash
  simp only [List.all_eq_true, Bool.not_eq_true', Bool.and_eq_false_iff, decide_eq_false_iff_not, M.kept_eq hx, bne_eq_false_iff_eq]
  constructor
  · intro h t ht u hu hr
    rcases h t ht u hu with h1 | h1
    · exact absurd hr h1
    · exact h1
  · intro h t ht u hu
    by_cases hr : ∀ r ∈ rows, t.getD r.toNat 0 = u.getD r.toNat 0
    · exact .inr (h t ht u hu hr)
    · exact .inl hr

end Go.Proofs.Ytcecmphdmpeibaa

namespace Go.Proofs.Ytcecmphdmpeibaa
open Go.RowKit

/-- The list says something of each row. -/
def M.Say (f : M.Fl) (l : List Int) : Prop := (l.length : Int) = f.rows ∧ ∀ y ∈ l, -1 ≤ y ∧ y < f.wds
/-- The list is a truth (it says something of each row). -/
def M.Tru (f : M.Fl) (l : List Int) : Prop := M.allows f (M.pad l) = true ∧ ∀ ty ∈ f.ts, M.holds ty.ct (M.count (M.pad l) ty.wd ty.fr ty.to) = true

theorem M.mem_fill (f : M.Fl) (D : Nat) : ∀ (j : Nat) (pre x : List Int), x ∈ M.fill f D j pre ↔ ∃ l : List Int, l.length = j ∧ (∀ y ∈ l, -1 ≤ y ∧ y < (D : Int)) ∧ x = M.pad (pre ++ l) ∧ M.allows f (M.pad (pre ++ l)) = true
  | 0, pre, x => by
    unfold M.fill
    constructor
    · intro h
      split at h
      · rename_i ha
        refine ⟨[], rfl, by simp, ?_, ?_⟩
        · simpa using h
        · simpa using ha
      · cases h
    · rintro ⟨l, hl, _, rfl, ha⟩
      obtain rfl := List.eq_nil_of_length_eq_zero hl
      rw [List.append_nil] at ha ⊢
      rw [if_pos ha]; simp
  | j + 1, pre, x => by
    unfold M.fill
    rw [List.mem_flatMap]
    constructor
    · rintro ⟨k, hk, hx⟩
      rw [List.mem_range'] at hk
      obtain ⟨i, hi, rfl⟩ := hk
      obtain ⟨l, h1, h2, h3, h4⟩ := (M.mem_fill f D j _ x).1 hx
      rw [List.append_assoc] at h3 h4
      refine ⟨_ :: l, by simp [h1], ?_, h3, h4⟩
      intro y hy
      rcases List.mem_cons.1 hy with rfl | hy
      · omega
      · exact h2 y hy
    · rintro ⟨l, h1, h2, h3, h4⟩
      cases l with
      | nil => simp at h1
      | cons a r =>
        obtain ⟨b1, b2⟩ := h2 a (by simp)
        refine ⟨(a + 1).toNat, ?_, ?_⟩
        · rw [List.mem_range']; exact ⟨(a + 1).toNat, by omega, by omega⟩
        · rw [M.mem_fill f D j]
          have e : (((a + 1).toNat : Nat) : Int) - 1 = a := by omega
          rw [e]
          refine ⟨r, by simpa using h1, fun y hy => h2 y (by simp [hy]), ?_, ?_⟩
          · rw [List.append_assoc]; exact h3
          · rw [List.append_assoc]; exact h4

theorem M.mem_sheets {f : M.Fl} (hg : Good f) (t : List Int) : t ∈ M.sheets f ↔ ∃ l, M.Say f l ∧ t = M.pad l ∧ M.allows f (M.pad l) = true := by
  unfold M.sheets
  rw [M.mem_fill]
  have := hg.r1; have := hg.d1
  constructor
  · rintro ⟨l, h1, h2, h3, h4⟩
    refine ⟨l, ⟨by omega, fun y hy => ?_⟩, h3, h4⟩
    have := h2 y hy
    omega
  · rintro ⟨l, ⟨h1, h2⟩, h3, h4⟩
    refine ⟨l, by omega, fun y hy => ?_, h3, h4⟩
    have := h2 y hy
    omega

theorem M.wrong_none {f : M.Fl} (hn : f.ts.length ≤ 5) (s : List Int) : M.wrong f s = M.noFault ↔ ∀ ty ∈ f.ts, M.holds ty.ct (M.count s ty.wd ty.fr ty.to) = true := by
  have hw : ∀ i, M.wrongAt f s i = false ↔ ∀ ty, f.ts[i]? = some ty → M.holds ty.ct (M.count s ty.wd ty.fr ty.to) = true := by
    intro i
    unfold M.wrongAt
    cases h : f.ts[i]? with
    | none => simp
    | some ty => simp
  unfold M.wrong M.noFault
  simp only [List.cons.injEq, and_true, hw]
  constructor
  · rintro ⟨h0, h1, h2, h3, h4⟩ ty hty
    obtain ⟨i, hi⟩ := List.mem_iff_getElem?.1 hty
    have hlt := (List.getElem?_eq_some_iff.1 hi).1
    have : i = 0 ∨ i = 1 ∨ i = 2 ∨ i = 3 ∨ i = 4 := by omega
    rcases this with rfl | rfl | rfl | rfl | rfl
    · exact h0 ty hi
    · exact h1 ty hi
    · exact h2 ty hi
    · exact h3 ty hi
    · exact h4 ty hi
  · intro h
    exact ⟨fun ty hi => h ty (List.mem_of_getElem? hi), fun ty hi => h ty (List.mem_of_getElem? hi), fun ty hi => h ty (List.mem_of_getElem? hi), fun ty hi => h ty (List.mem_of_getElem? hi), fun ty hi => h ty (List.mem_of_getElem? hi)⟩

theorem M.mem_truths {f : M.Fl} (hg : Good f) (t : List Int) : t ∈ M.truths f ↔ ∃ l, M.Say f l ∧ t = M.pad l ∧ M.Tru f l := by
  unfold M.truths M.rights
  rw [List.mem_filter, M.mem_sheets hg, decide_eq_true_eq, M.wrong_none hg.n5]
  constructor
  · rintro ⟨⟨l, h1, rfl, h3⟩, h4⟩
    exact ⟨l, h1, rfl, h3, h4⟩
  · rintro ⟨l, h1, rfl, h3, h4⟩
    exact ⟨⟨l, h1, rfl, h3⟩, h4⟩

theorem M.pad_get {l : List Int} {r : Nat} (h : r < l.length) : (M.pad l).getD r 0 = l.getD r 0 := by
  unfold M.pad
  rw [List.getD_eq_getElem?_getD, List.getElem?_append_left h, List.getD_eq_getElem?_getD]

theorem ext_get {a b : List Int} (hl : a.length = b.length) (h : ∀ r, r < a.length → a.getD r 0 = b.getD r 0) : a = b := by
  refine List.ext_getElem hl fun i h1 h2 => ?_
  have := h i h1
  rw [List.getD_eq_getElem?_getD, List.getD_eq_getElem?_getD, List.getElem?_eq_getElem h1, List.getElem?_eq_getElem h2] at this
  simpa using this

theorem M.pad_inj {a b : List Int} (hl : a.length = b.length) (h : M.pad a = M.pad b) : a = b := by
  refine ext_get hl fun r hr => ?_
  rw [← M.pad_get hr, ← M.pad_get (l := b) (by omega), h]

/-- All rows. -/
def M.allRows (f : M.Fl) : List Int := (List.range' 0 f.rows.toNat).map fun (k : Nat) => (k : Int)
theorem M.mem_allRows {f : M.Fl} (x : Int) : x ∈ M.allRows f ↔ 0 ≤ x ∧ x < f.rows := by
  unfold M.allRows
  rw [List.mem_map]
  constructor
  · rintro ⟨k, hk, rfl⟩
    rw [List.mem_range'] at hk
    obtain ⟨i, hi, rfl⟩ := hk
    omega
  · intro ⟨h0, h1⟩
    refine ⟨x.toNat, ?_, by omega⟩
    rw [List.mem_range']; exact ⟨x.toNat, by omega, by omega⟩

theorem M.settles_all {f : M.Fl} (hg : Good f) (x : Int) : M.settles f x (M.truths f) (M.allRows f) = true := by
  have h7 := hg.r7
  rw [M.settles_iff (fun y hy => by have := (M.mem_allRows y).1 hy; omega)]
  intro t ht u hu h
  obtain ⟨a, ha, rfl, _⟩ := (M.mem_truths hg t).1 ht
  obtain ⟨b, hb, rfl, _⟩ := (M.mem_truths hg u).1 hu
  have : a = b := by
    refine ext_get (by have := ha.1; have := hb.1; omega) fun r hr => ?_
    have := h r ((M.mem_allRows _).2 ⟨by omega, by have := ha.1; omega⟩)
    rw [Int.toNat_natCast, M.pad_get hr, M.pad_get (by have := ha.1; have := hb.1; omega)] at this
    exact this
  rw [this]

theorem M.allRows_rise {f : M.Fl} : M.Rise f.rows.toNat 0 (M.allRows f) := M.Rise_range f.rows.toNat f.rows.toNat 0 (by omega)

/-- The fewest rows, in words. -/
theorem M.askBest_spec {f : M.Fl} (hg : Good f) (x : Int) :
    M.Rise f.rows.toNat 0 (M.askBest f x) ∧ M.settles f x (M.truths f) (M.askBest f x) = true ∧ ∀ y, M.Rise f.rows.toNat 0 y → M.settles f x (M.truths f) y = true → M.shorter y (M.askBest f x) = false :=
  M.shortest_spec (p := fun rows => M.settles f x (M.truths f) rows) M.allRows_rise (M.settles_all hg x)

theorem M.askBest_nil {f : M.Fl} (hg : Good f) (x : Int) : M.askBest f x = [] ↔ M.settles f x (M.truths f) [] = true := by
  obtain ⟨h1, h2, h3⟩ := M.askBest_spec hg x
  constructor
  · intro h
    rw [h] at h2; exact h2
  · intro h
    have := h3 [] trivial h
    unfold M.shorter at this
    simp at this
    cases hb : M.askBest f x with
    | nil => rfl
    | cons a r => rw [hb] at this; simp at this

end Go.Proofs.Ytcecmphdmpeibaa
