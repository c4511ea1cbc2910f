import Derived.Test.YtcecmphdmpeibaaL25
set_option linter.unusedSimpArgs false
set_option linter.unusedVariables false
namespace Go.Proofs.Ytcecmphdmpeibaa
open Go.RowKit

/-- All lists are as long as the field. -/
def M.Long (f : M.Fl) (l : List (List Int)) : Prop := ∀ t ∈ l, (t.length : Int) = f.rows

theorem M.number_long {f : M.Fl} {l : List (List Int)} (h : M.Long f l) (x : Int) : ∀ t ∈ l, M.number f x t = M.rnum x t := fun t ht => by
  unfold M.number M.rnum
  rw [h t ht]

theorem M.known_iff {f : M.Fl} {x : Int} {l : List (List Int)} : M.known f x l = true ↔ ∀ t ∈ l, ∀ u ∈ l, M.number f x t = M.number f x u := by
  unfold M.known
  rw [List.all_eq_true]
  cases l with
  | nil => simp
  | cons a r =>
    simp only [List.headD_cons, beq_iff_eq]
    constructor
    · intro h t ht u hu
      rw [h t ht, h u hu]
    · intro h t ht
      exact h t ht a (by simp)
theorem M.same_iff {row : Nat} {l : List (List Int)} : M.same row l = true ↔ ∀ t ∈ l, ∀ u ∈ l, t.getD row 0 = u.getD row 0 := by
  unfold M.same
  rw [List.all_eq_true]
  cases l with
  | nil => simp
  | cons a r =>
    simp only [List.headD_cons, beq_iff_eq]
    constructor
    · intro h t ht u hu
      rw [h t ht, h u hu]
    · intro h t ht
      exact h t ht a (by simp)

theorem M.known_rdone {f : M.Fl} {x : Int} {l : List (List Int)} (hne : l ≠ []) (hl : M.Long f l) (hb : ∀ t ∈ l, 0 ≤ M.rnum x t ∧ M.rnum x t ≤ 7) : ((M.rdone x l).lo = (M.rdone x l).hi) ↔ M.known f x l = true := by
  obtain ⟨_, _, w3, w4, w5⟩ := M.widen_spec (l.map (M.rnum x)) ⟨M.big, -M.big⟩
  have hr : M.rdone x l = M.widen ⟨M.big, -M.big⟩ (l.map (M.rnum x)) := rfl
  rw [← hr] at w3 w4 w5
  have hB := M.big_bd
  rw [M.known_iff]
  have hn := M.number_long hl x
  obtain ⟨a, ha⟩ := List.exists_mem_of_ne_nil l hne
  have ha3 := w3 _ (List.mem_map.2 ⟨a, ha, rfl⟩)
  have hab := hb a ha
  constructor
  · intro he t ht u hu
    rw [hn t ht, hn u hu]
    have h1 := w3 _ (List.mem_map.2 ⟨t, ht, rfl⟩)
    have h2 := w3 _ (List.mem_map.2 ⟨u, hu, rfl⟩)
    omega
  · intro hk
    have hall : ∀ t ∈ l, M.rnum x t = M.rnum x a := fun t ht => by rw [← hn t ht, ← hn a ha]; exact hk t ht a ha
    have e1 : (M.rdone x l).lo = M.rnum x a := by
      rcases w4 with w4 | w4
      · have : (M.rdone x l).lo = M.big := w4
        omega
      · obtain ⟨t, ht, he⟩ := List.mem_map.1 w4
        rw [← he]; exact hall t ht
    have e2 : (M.rdone x l).hi = M.rnum x a := by
      rcases w5 with w5 | w5
      · have : (M.rdone x l).hi = -M.big := w5
        omega
      · obtain ⟨t, ht, he⟩ := List.mem_map.1 w5
        rw [← he]; exact hall t ht
    rw [e1, e2]

theorem M.mem_whoFrom {row : Int} {ts : List (List Int)} {y : Int} : ∀ (j k : Nat), y ∈ M.whoFrom row ts k j ↔ (k : Int) - 1 ≤ y ∧ y < (k : Int) - 1 + j ∧ M.whoF row ts y = true
  | 0, k => by simp [M.whoFrom]; omega
  | j + 1, k => by
    rw [M.whoFrom, List.mem_append, M.mem_whoFrom j (k + 1)]
    by_cases hy : y = (k : Int) - 1
    · subst hy
      cases hw : M.whoF row ts ((k : Int) - 1)
      · simp
      · simp; omega
    · have : y ∉ (if M.whoF row ts ((k : Int) - 1) then [(k : Int) - 1] else []) := by split <;> simp [hy]
      simp only [this, false_or]
      constructor
      · rintro ⟨h1, h2, h3⟩
        exact ⟨by omega, by omega, h3⟩
      · rintro ⟨h1, h2, h3⟩
        exact ⟨by omega, by omega, h3⟩
theorem M.whoFrom_pw (row : Int) (ts : List (List Int)) : ∀ (j k : Nat), (M.whoFrom row ts k j).Pairwise (· < ·)
  | 0, k => List.Pairwise.nil
  | j + 1, k => by
    rw [M.whoFrom]
    split
    · refine List.pairwise_append.2 ⟨by simp, M.whoFrom_pw row ts j (k + 1), ?_⟩
      intro a ha b hb
      have := (M.mem_whoFrom j (k + 1)).1 hb
      simp at ha
      omega
    · simpa using M.whoFrom_pw row ts j (k + 1)

theorem M.who_two {f : M.Fl} {row : Nat} {l : List (List Int)} (hw : 1 ≤ f.wds) (hs : ∀ t ∈ l, -1 ≤ t.getD row 0 ∧ t.getD row 0 < f.wds) : ((M.who f row l).length < 2) ↔ M.same row l = true := by
  have hm : ∀ y, y ∈ M.who f row l ↔ ∃ t ∈ l, t.getD row 0 = y := by
    intro y
    unfold M.who
    rw [M.mem_whoFrom]
    unfold M.whoF
    rw [List.any_eq_true]
    simp only [Int.toNat_natCast, beq_iff_eq]
    constructor
    · rintro ⟨_, _, h⟩; exact h
    · rintro ⟨t, ht, he⟩
      have := hs t ht
      exact ⟨by omega, by omega, t, ht, he⟩
  have hp : (M.who f row l).Pairwise (· < ·) := M.whoFrom_pw row l _ 0
  rw [M.same_iff]
  generalize M.who f row l = v at hm hp
  constructor
  · intro hv t ht u hu
    have h1 := (hm _).2 ⟨t, ht, rfl⟩
    have h2 := (hm _).2 ⟨u, hu, rfl⟩
    match v, hv with
    | [], _ => cases h1
    | [a], _ => exact (List.mem_singleton.1 h1).trans (List.mem_singleton.1 h2).symm
  · intro hall
    match v with
    | [] => simp
    | [a] => simp
    | a :: b :: r =>
      exfalso
      obtain ⟨t, ht, h1⟩ := (hm a).1 (by simp)
      obtain ⟨u, hu, h2⟩ := (hm b).1 (by simp)
      have := hall t ht u hu
      have h3 : a < b := (List.pairwise_cons.1 hp).1 b (by simp)
      omega

theorem filt_le {α : Type} {p q : α → Bool} : ∀ {l : List α}, (∀ a ∈ l, p a = true → q a = true) → (l.filter p).length ≤ (l.filter q).length
  | [], _ => Nat.le_refl _
  | a :: l, h => by
    have ih := filt_le (l := l) (fun b hb => h b (by simp [hb]))
    have ha := h a (by simp)
    rw [List.filter_cons, List.filter_cons]
    cases hp : p a <;> cases hq : q a <;> simp_all <;> omega
theorem filt_lt {α : Type} {p q : α → Bool} : ∀ {l : List α}, (∀ a ∈ l, p a = true → q a = true) → (∃ a ∈ l, p a = false ∧ q a = true) → (l.filter p).length < (l.filter q).length
  | [], _, h => by obtain ⟨a, ha, _⟩ := h; cases ha
  | a :: l, h, h2 => by
    have hle := filt_le (l := l) (fun b hb => h b (by simp [hb]))
    rw [List.filter_cons, List.filter_cons]
    obtain ⟨b, hb, hpb, hqb⟩ := h2
    rcases List.mem_cons.1 hb with rfl | hb
    · rw [hpb, hqb]; simp; omega
    · have ih := filt_lt (l := l) (fun b hb => h b (by simp [hb])) ⟨b, hb, hpb, hqb⟩
      have ha := h a (by simp)
      cases hp : p a <;> cases hq : q a <;> simp_all <;> omega

/-- How many rows are not answered. -/
def M.opens (f : M.Fl) (l : List (List Int)) : Nat := ((List.range f.rows.toNat).filter fun r => !M.same r l).length

theorem M.agree_mem {l : List (List Int)} {r : Nat} {s : Int} {t : List Int} : t ∈ M.agreeing l r s ↔ t ∈ l ∧ t.getD r 0 = s := by
  unfold M.agreeing
  rw [List.mem_filter]
  simp
theorem M.long_agree {f : M.Fl} {l : List (List Int)} (h : M.Long f l) (r : Nat) (s : Int) : M.Long f (M.agreeing l r s) := fun t ht => h t (M.agree_mem.1 ht).1

theorem M.opens_agree {f : M.Fl} {l : List (List Int)} {r : Nat} (hr : r < f.rows.toNat) (hs : M.same r l = false) (s : Int) : M.opens f (M.agreeing l r s) + 1 ≤ M.opens f l := by
  unfold M.opens
  refine filt_lt (fun a _ ha => ?_) ⟨r, List.mem_range.2 hr, ?_, by rw [hs]; rfl⟩
  · cases hq : M.same a l with
    | false => rfl
    | true =>
      exfalso
      have h2 : M.same a (M.agreeing l r s) = true := by
        rw [M.same_iff] at hq ⊢
        intro t ht u hu
        exact hq t (M.agree_mem.1 ht).1 u (M.agree_mem.1 hu).1
      rw [h2] at ha
      cases ha
  · have h2 : M.same r (M.agreeing l r s) = true := by
      rw [M.same_iff]
      intro t ht u hu
      rw [(M.agree_mem.1 ht).2, (M.agree_mem.1 hu).2]
    rw [h2]; rfl

theorem M.known_of_same {f : M.Fl} {x : Int} {l : List (List Int)} (hl : M.Long f l) (h : ∀ r < f.rows.toNat, M.same r l = true) : M.known f x l = true := by
  rw [M.known_iff]
  intro t ht u hu
  have : t = u := by
    have h1 := hl t ht
    have h2 := hl u hu
    refine List.ext_getElem (by omega) fun i a b => ?_
    have := M.same_iff.1 (h i (by omega)) t ht u hu
    rw [List.getD_eq_getElem?_getD, List.getD_eq_getElem?_getD, List.getElem?_eq_getElem a, List.getElem?_eq_getElem b] at this
    simpa using this
  rw [this]

theorem M.q_opens {f : M.Fl} (hr : 1 ≤ f.rows) (x : Int) : ∀ (n : Nat) (l : List (List Int)), l.length ≤ n → M.Long f l → M.q f x l ≤ M.opens f l ∧ ∀ r, r < f.rows.toNat → M.same r l = false → 1 + M.worst f x l r ≤ M.opens f l := by
  intro n
  induction n with
  | zero =>
    intro l h _
    obtain rfl : l = [] := List.eq_nil_of_length_eq_zero (by omega)
    refine ⟨by rw [M.q_eq, M.known_nil]; simp, fun r _ h => ?_⟩
    cases h
  | succ n ih =>
    intro l hn hl
    have h2 : ∀ r, r < f.rows.toNat → M.same r l = false → 1 + M.worst f x l r ≤ M.opens f l := by
      intro r hr hs
      have hb := fun s => (ih (M.agreeing l r s) (by have := M.agree_lt hs s; omega) (M.long_agree hl r s)).1
      have hb2 := fun s => M.opens_agree hr hs s
      have := M.maxes_bd (fun s => M.q f x (M.agreeing l r s)) ((M.opens f l : Int) - 1) (M.saids f) 0 (fun s _ => by have h5 := hb s; have h6 := hb2 s; omega) (by have := hb2 0; omega)
      unfold M.worst
      omega
    refine ⟨?_, h2⟩
    rw [M.q_eq]
    split
    · omega
    · rename_i hk
      by_cases hall : ∀ r < f.rows.toNat, M.same r l = true
      · exact absurd (M.known_of_same hl hall) hk
      · simp only [Classical.not_forall] at hall
        obtain ⟨r, hr, hs⟩ := hall
        have hs' : M.same r l = false := by simpa using hs
        have hm : 1 + M.worst f x l r ∈ M.costs f x l := by
          unfold M.costs
          exact List.mem_map.2 ⟨r, List.mem_range.2 hr, by unfold M.cost; rw [hs']; rfl⟩
        have := M.leastOf_le hm
        have := h2 r hr hs'
        omega
theorem M.opens_le (f : M.Fl) (l : List (List Int)) : M.opens f l ≤ f.rows.toNat := by
  unfold M.opens
  have := List.length_filter_le (fun r => !M.same r l) (List.range f.rows.toNat)
  simpa using this

theorem M.leastOf_eq {l : List Int} {z : Int} (h1 : z ∈ l) (h2 : ∀ y ∈ l, z ≤ y) : M.leastOf l = z := by
  have a := M.leastOf_le h1
  have b := h2 _ (M.leastOf_mem (by intro e; rw [e] at h1; cases h1))
  omega

/-- The row with the least cost below eight, in one walk. -/
def M.pk : List Int → Int → Int → Int → Int × Int
  | [], _, row, many => (row, many)
  | y :: c, i, row, many => if y < 8 ∧ y < many then M.pk c (i + 1) i y else M.pk c (i + 1) row many

theorem M.pk_spec : ∀ (c : List Int) (i row many : Int), ((∃ y ∈ c, y < 8 ∧ y < many) → M.pk c i row many = (M.idx (M.leastOf c) c i, M.leastOf c)) ∧ ((∀ y ∈ c, ¬ (y < 8 ∧ y < many)) → M.pk c i row many = (row, many))
  | [], i, row, many => ⟨(fun h => by obtain ⟨y, hy, _⟩ := h; cases hy), fun _ => rfl⟩
  | y :: c, i, row, many => by
    rw [M.pk]
    by_cases hy : y < 8 ∧ y < many
    · rw [if_pos hy]
      refine ⟨fun _ => ?_, fun h => absurd hy (h y (by simp))⟩
      obtain ⟨p1, p2⟩ := M.pk_spec c (i + 1) i y
      by_cases he : ∃ z ∈ c, z < 8 ∧ z < y
      · rw [p1 he]
        obtain ⟨z, hz, hz8, hzy⟩ := he
        have hle := M.leastOf_le hz
        have hne : c ≠ [] := by intro e; rw [e] at hz; cases hz
        have hl : M.leastOf (y :: c) = M.leastOf c := M.leastOf_eq (by simp [M.leastOf_mem hne]) (fun u hu => by
          rcases List.mem_cons.1 hu with rfl | hu
          · omega
          · exact M.leastOf_le hu)
        rw [hl, M.idx, if_neg (by omega)]
      · rw [p2 (fun z hz h => he ⟨z, hz, h⟩)]
        have hl : M.leastOf (y :: c) = y := M.leastOf_eq (by simp) (fun u hu => by
          rcases List.mem_cons.1 hu with rfl | hu
          · omega
          · have : ¬ (u < 8 ∧ u < y) := fun h => he ⟨u, hu, h⟩
            omega)
        rw [hl, M.idx, if_pos rfl]
    · rw [if_neg hy]
      obtain ⟨p1, p2⟩ := M.pk_spec c (i + 1) row many
      constructor
      · rintro ⟨z, hz, h8, hm⟩
        rcases List.mem_cons.1 hz with rfl | hz
        · exact absurd ⟨h8, hm⟩ hy
        · rw [p1 ⟨z, hz, h8, hm⟩]
          have hle := M.leastOf_le hz
          have hne : c ≠ [] := by intro e; rw [e] at hz; cases hz
          have hl : M.leastOf (y :: c) = M.leastOf c := M.leastOf_eq (by simp [M.leastOf_mem hne]) (fun u hu => by
            rcases List.mem_cons.1 hu with rfl | hu
            · omega
            · exact M.leastOf_le hu)
          rw [hl, M.idx, if_neg (by omega)]
      · intro h
        exact p2 (fun z hz => h z (by simp [hz]))

/-- What the reference's Next returns for some truths. -/
def M.rnext (f : M.Fl) (x : Int) (l : List (List Int)) : Int × Int :=
  if M.known f x l then (-1, 0) else (M.idx (M.leastOf (M.costs f x l)) (M.costs f x l) 0, M.leastOf (M.costs f x l))
theorem M.rnext_q (f : M.Fl) (x : Int) (l : List (List Int)) : (M.rnext f x l).2 = M.q f x l := by
  rw [M.q_eq]
  unfold M.rnext
  split <;> rfl
theorem M.rnext_pk {f : M.Fl} (r1 : 1 ≤ f.rows) (r7 : f.rows ≤ 7) {x : Int} {l : List (List Int)} (hl : M.Long f l) (hk : M.known f x l = false) : M.pk (M.costs f x l) 0 (-1) 100 = M.rnext f x l := by
  unfold M.rnext
  rw [hk, if_neg (by decide)]
  refine (M.pk_spec _ _ _ _).1 ?_
  by_cases hall : ∀ r < f.rows.toNat, M.same r l = true
  · rw [M.known_of_same hl hall] at hk; cases hk
  · simp only [Classical.not_forall] at hall
    obtain ⟨r, hr, hs⟩ := hall
    have hs' : M.same r l = false := by simpa using hs
    have := (M.q_opens r1 x _ l (Nat.le_refl _) hl).2 r hr hs'
    have := M.opens_le f l
    refine ⟨1 + M.worst f x l r, ?_, by omega, by omega⟩
    unfold M.costs
    exact List.mem_map.2 ⟨r, List.mem_range.2 hr, by unfold M.cost; rw [hs']; rfl⟩

/-- Two lists hold the same truths, with and without blanks. -/
def M.Rel (a b : List (List Int)) : Prop := ∀ t, t ∈ a ↔ ∃ l ∈ b, t = M.pad l

theorem M.number_pad2 {f : M.Fl} {x : Int} {l : List Int} (h1 : 1 ≤ f.rows) (hl : (l.length : Int) = f.rows) : M.number f x (M.pad l) = M.number f x l := by
  unfold M.number
  rw [M.count_pad (by omega) (by omega)]
theorem M.q_rel {f : M.Fl} (r1 : 1 ≤ f.rows) (x : Int) : ∀ (n : Nat) (a b : List (List Int)), a.length ≤ n → M.Rel a b → M.Long f b → M.known f x a = M.known f x b ∧ M.costs f x a = M.costs f x b ∧ M.q f x a = M.q f x b := by
  intro n
  induction n with
  | zero =>
    intro a b h hR hb
    obtain rfl : a = [] := List.eq_nil_of_length_eq_zero (by omega)
    obtain rfl : b = [] := by
      cases b with
      | nil => rfl
      | cons t r => have := (hR (M.pad t)).2 ⟨t, by simp, rfl⟩; cases this
    exact ⟨rfl, rfl, rfl⟩
  | succ n ih =>
    intro a b h hR hb
    have hk : M.known f x a = M.known f x b := by
      rw [Bool.eq_iff_iff, M.known_iff, M.known_iff]
      constructor
      · intro h t ht u hu
        rw [← M.number_pad2 r1 (hb t ht), ← M.number_pad2 r1 (hb u hu)]
        exact h _ ((hR _).2 ⟨t, ht, rfl⟩) _ ((hR _).2 ⟨u, hu, rfl⟩)
      · intro h t ht u hu
        obtain ⟨t, h1, rfl⟩ := (hR _).1 ht
        obtain ⟨u, h2, rfl⟩ := (hR _).1 hu
        rw [M.number_pad2 r1 (hb t h1), M.number_pad2 r1 (hb u h2)]
        exact h t h1 u h2
    have hg : ∀ r, r < f.rows.toNat → ∀ t ∈ b, (M.pad t).getD r 0 = t.getD r 0 := fun r hr t ht => M.pad_get (by have := hb t ht; omega)
    have hs : ∀ r, r < f.rows.toNat → M.same r a = M.same r b := by
      intro r hr
      rw [Bool.eq_iff_iff, M.same_iff, M.same_iff]
      constructor
      · intro h t ht u hu
        rw [← hg r hr t ht, ← hg r hr u hu]
        exact h _ ((hR _).2 ⟨t, ht, rfl⟩) _ ((hR _).2 ⟨u, hu, rfl⟩)
      · intro h t ht u hu
        obtain ⟨t, h1, rfl⟩ := (hR _).1 ht
        obtain ⟨u, h2, rfl⟩ := (hR _).1 hu
        rw [hg r hr t h1, hg r hr u h2]
        exact h t h1 u h2
    have hc : M.costs f x a = M.costs f x b := by
      unfold M.costs
      refine List.map_congr_left fun r hr => ?_
      have hr := List.mem_range.1 hr
      unfold M.cost
      rw [← hs r hr]
      split
      · rfl
      · rename_i hns
        have hns' : M.same r a = false := by simpa using hns
        unfold M.worst
        congr 2
        funext s
        refine (ih _ _ (by have := M.agree_lt hns' s; omega) ?_ (M.long_agree hb r s)).2.2
        intro t
        rw [M.agree_mem, hR]
        constructor
        · rintro ⟨⟨u, hu, rfl⟩, hd⟩
          exact ⟨u, M.agree_mem.2 ⟨hu, by rw [← hg r hr u hu]; exact hd⟩, rfl⟩
        · rintro ⟨u, hu, rfl⟩
          obtain ⟨h1, h2⟩ := M.agree_mem.1 hu
          exact ⟨⟨u, h1, rfl⟩, by rw [hg r hr u h1]; exact h2⟩
    refine ⟨hk, hc, ?_⟩
    rw [M.q_eq, M.q_eq, hk, hc]

theorem M.next_same {f : M.Fl} (h : M.check f = 0) (x : Int) : M.Next f x = M.rnext f x (M.rtruths f) := by
  obtain ⟨r1, r7, d1, d3, _, _⟩ := M.check_bd h
  obtain ⟨h1, h2, _⟩ := M.q_rel r1 x _ (M.truths f) (M.rtruths f) (Nat.le_refl _) (M.truths_same h) (fun t ht => ((M.mem_rtruths h t).1 ht).1.1)
  unfold M.Next M.rnext
  rw [h1, h2]

end Go.Proofs.Ytcecmphdmpeibaa
