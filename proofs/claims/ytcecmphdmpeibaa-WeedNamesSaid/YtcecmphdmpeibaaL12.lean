import Derived.Test.YtcecmphdmpeibaaL9
import Derived.Test.YtcecmphdmpeibaaU6
namespace Go.Proofs.Ytcecmphdmpeibaa
open Go.RowKit

theorem M.nthK_mem (D : Nat) (hD : 0 < D) : ∀ (r n : Nat) (y : Int), y ∈ M.nthK D r n → -1 ≤ y ∧ y < (D : Int) - 1
  | 0, _, _, h => by simp [M.nthK] at h
  | r + 1, n, y, h => by
    rw [M.nthK] at h
    rcases List.mem_cons.1 h with rfl | h
    · have := Nat.mod_lt n hD
      omega
    · exact M.nthK_mem D hD r _ y h

theorem M.nthK_surj (D : Nat) (hD : 0 < D) : ∀ (l : List Int), (∀ y ∈ l, -1 ≤ y ∧ y < (D : Int) - 1) → ∃ n, n < D ^ l.length ∧ M.nthK D l.length n = l
  | [], _ => ⟨0, by simp, rfl⟩
  | a :: l, h => by
    obtain ⟨n, hn, he⟩ := M.nthK_surj D hD l (fun y hy => h y (by simp [hy]))
    obtain ⟨h1, h2⟩ := h a (by simp)
    have ha : (a + 1).toNat < D := by omega
    refine ⟨(a + 1).toNat + D * n, ?_, ?_⟩
    · rw [List.length_cons, Nat.pow_succ]
      have : D * n + D ≤ D * D ^ l.length := by rw [← Nat.mul_succ]; exact Nat.mul_le_mul_left _ hn
      rw [Nat.mul_comm (D ^ _)]
      omega
    · rw [List.length_cons, M.nthK, Nat.add_mul_mod_self_left, Nat.mod_eq_of_lt ha, Nat.add_mul_div_left _ _ hD, Nat.div_eq_of_lt ha, Nat.zero_add, he]
      congr 1
      omega

theorem M.count_pad {l : List Int} {x fr tt : Int} (h0 : 0 ≤ tt) (h : tt < l.length) : M.count (M.pad l) x fr tt = M.count l x fr tt := by
  unfold M.count M.pad
  by_cases hf : fr.toNat ≤ l.length
  · rw [List.drop_append_of_le_length hf, List.take_append_of_le_length (by rw [List.length_drop]; omega)]
  · rw [show tt.toNat + 1 - fr.toNat = 0 from by omega]; simp

theorem M.say_nth {f : M.Fl} (h : M.check f = 0) (n : Nat) : M.Say f (M.nth f n) := by
  obtain ⟨r1, r7, d1, d3, _, _⟩ := M.check_bd h
  refine ⟨by unfold M.nth; rw [M.nthK_len]; omega, fun y hy => ?_⟩
  have := M.nthK_mem (f.wds.toNat + 1) (by omega) _ _ y hy
  omega
theorem M.nth_of_say {f : M.Fl} (h : M.check f = 0) {l : List Int} (hl : M.Say f l) : ∃ n, n < (M.power f).toNat ∧ M.nth f n = l := by
  obtain ⟨r1, r7, d1, d3, _, _⟩ := M.check_bd h
  obtain ⟨P, hP, _, hP2⟩ := M.power_nat r1 r7 d1 d3
  obtain ⟨h1, h2⟩ := hl
  obtain ⟨n, hn, he⟩ := M.nthK_surj (f.wds.toNat + 1) (by omega) l (fun y hy => by have := h2 y hy; omega)
  have hlen : l.length = f.rows.toNat := by omega
  rw [hlen] at hn he
  exact ⟨n, by rw [hP]; omega, he⟩

theorem M.isTruth_iff {f : M.Fl} (h : M.check f = 0) {l : List Int} : M.isTruth f l = true ↔ M.Say f l ∧ M.Tru f l := by
  obtain ⟨r1, r7, d1, d3, _, _⟩ := M.check_bd h
  have ht := M.tally_of h
  unfold M.isTruth M.isAllowed M.Say M.Tru M.allows M.isIn
  simp only [Bool.and_eq_true, decide_eq_true_eq, List.all_eq_true]
  constructor
  · rintro ⟨⟨h1, h2, h3⟩, h4⟩
    refine ⟨⟨h2, fun y hy => by have := h1 y hy; omega⟩, by rw [M.count_pad (by omega) (by omega)]; exact h3, fun t hm => ?_⟩
    have := ht t hm
    rw [M.count_pad (by omega) (by omega)]
    exact h4 t hm
  · rintro ⟨⟨h2, h1⟩, h3, h4⟩
    refine ⟨⟨fun y hy => by have := h1 y hy; omega, h2, by rw [M.count_pad (by omega) (by omega)] at h3; exact h3⟩, fun t hm => ?_⟩
    have := ht t hm
    have h5 := h4 t hm
    rw [M.count_pad (by omega) (by omega)] at h5
    exact h5

theorem M.mem_rtruths {f : M.Fl} (h : M.check f = 0) (l : List Int) : l ∈ M.rtruths f ↔ M.Say f l ∧ M.Tru f l := by
  unfold M.rtruths M.rtruthsK
  rw [List.mem_filter, List.mem_map, M.isTruth_iff h]
  constructor
  · rintro ⟨_, h2⟩
    exact h2
  · intro h2
    obtain ⟨n, hn, he⟩ := M.nth_of_say h h2.1
    exact ⟨⟨n, List.mem_range'.2 ⟨n, hn, by omega⟩, he⟩, h2⟩

/-- The two lists of truths hold the same. -/
theorem M.truths_same {f : M.Fl} (h : M.check f = 0) (t : List Int) : t ∈ M.truths f ↔ ∃ l ∈ M.rtruths f, t = M.pad l := by
  rw [M.mem_truths (good_of h)]
  constructor
  · rintro ⟨l, h1, h2, h3⟩
    exact ⟨l, (M.mem_rtruths h l).2 ⟨h1, h3⟩, h2⟩
  · rintro ⟨l, h1, h2⟩
    obtain ⟨h3, h4⟩ := (M.mem_rtruths h l).1 h1
    exact ⟨l, h3, h2, h4⟩

theorem M.truths_empty {f : M.Fl} (h : M.check f = 0) : (M.truths f).length = 0 ↔ (M.rtruths f).length = 0 := by
  constructor
  · intro h1
    rcases hr : M.rtruths f with _ | ⟨l, r⟩
    · rfl
    · have : M.pad l ∈ M.truths f := (M.truths_same h _).2 ⟨l, by rw [hr]; simp, rfl⟩
      rw [List.eq_nil_of_length_eq_zero h1] at this
      simp at this
  · intro h1
    rcases ht : M.truths f with _ | ⟨t, r⟩
    · rfl
    · obtain ⟨l, hl, _⟩ := (M.truths_same h t).1 (by rw [ht]; simp)
      rw [List.eq_nil_of_length_eq_zero h1] at hl
      simp at hl

theorem M.sure_begin (f : M.Fl) : M.sureE f = M.begin f true := by
  unfold M.sureE M.begin
  by_cases h : M.check f = 0
  · simp only [h, ↓reduceIte, M.truths_empty h]
  · simp [h]

theorem M.number_pad {f : M.Fl} {x : Int} {l : List Int} (h1 : 1 ≤ f.rows) (hl : M.Say f l) : M.number f x (M.pad l) = M.rnum x l := by
  unfold M.number M.rnum
  have := hl.1
  rw [M.count_pad (by omega) (by omega), this]

theorem M.most_ge (a : Int) : ∀ (l : List Int), a ≤ M.most a l ∧ ∀ y ∈ l, y ≤ M.most a l
  | [] => ⟨Int.le_refl _, by simp⟩
  | b :: l => by
    unfold M.most
    by_cases hab : a < b
    · rw [if_pos hab]
      obtain ⟨h1, h2⟩ := M.most_ge b l
      refine ⟨by omega, fun y hy => ?_⟩
      rcases List.mem_cons.1 hy with rfl | hy
      · exact h1
      · exact h2 y hy
    · rw [if_neg hab]
      obtain ⟨h1, h2⟩ := M.most_ge a l
      refine ⟨h1, fun y hy => ?_⟩
      rcases List.mem_cons.1 hy with rfl | hy
      · omega
      · exact h2 y hy
theorem M.most_mem (a : Int) : ∀ (l : List Int), M.most a l = a ∨ M.most a l ∈ l
  | [] => .inl rfl
  | b :: l => by
    unfold M.most
    rcases M.most_mem (if a < b then b else a) l with h | h
    · rw [h]
      split
      · right; simp
      · left; rfl
    · right; simp [h]

theorem M.bounds_spec {f : M.Fl} {x : Int} {ts : List (List Int)} (hne : 0 < ts.length) : (∀ t ∈ ts, (M.bounds f x ts).lo ≤ M.number f x t ∧ M.number f x t ≤ (M.bounds f x ts).hi) ∧ (∃ t ∈ ts, M.number f x t = (M.bounds f x ts).lo) ∧ ∃ t ∈ ts, M.number f x t = (M.bounds f x ts).hi := by
  have hmem : ∀ {n : Int} {l : List Int}, n ∈ l → l = ts.map (M.number f x) → ∃ t ∈ ts, M.number f x t = n := by
    intro n l hn he
    rw [he] at hn
    obtain ⟨t, h1, h2⟩ := List.mem_map.1 hn
    exact ⟨t, h1, h2⟩
  unfold M.bounds
  cases hm : ts.map (M.number f x) with
  | nil => have := congrArg List.length hm; simp at this; rw [this] at hne; simp at hne
  | cons a r =>
    obtain ⟨l1, l2⟩ := M.least_le a r
    obtain ⟨m1, m2⟩ := M.most_ge a r
    refine ⟨fun t ht => ?_, ?_, ?_⟩
    · have : M.number f x t ∈ a :: r := by rw [← hm]; exact List.mem_map.2 ⟨t, ht, rfl⟩
      rcases List.mem_cons.1 this with h | h
      · rw [h]; exact ⟨l1, m1⟩
      · exact ⟨l2 _ h, m2 _ h⟩
    · refine hmem (l := a :: r) ?_ hm.symm
      rcases M.least_mem a r with h | h
      · show M.least a r ∈ _; rw [h]; simp
      · simp [h]
    · refine hmem (l := a :: r) ?_ hm.symm
      rcases M.most_mem a r with h | h
      · show M.most a r ∈ _; rw [h]; simp
      · simp [h]

theorem M.widen_spec : ∀ (l : List Int) (r : M.Rg), (M.widen r l).lo ≤ r.lo ∧ r.hi ≤ (M.widen r l).hi ∧ (∀ n ∈ l, (M.widen r l).lo ≤ n ∧ n ≤ (M.widen r l).hi) ∧ ((M.widen r l).lo = r.lo ∨ (M.widen r l).lo ∈ l) ∧ ((M.widen r l).hi = r.hi ∨ (M.widen r l).hi ∈ l)
  | [], r => ⟨Int.le_refl _, Int.le_refl _, by simp, .inl rfl, .inl rfl⟩
  | a :: l, r => by
    unfold M.widen
    obtain ⟨h1, h2, h3, h4, h5⟩ := M.widen_spec l (M.wider r a)
    have w1 : (M.wider r a).lo = if a < r.lo then a else r.lo := rfl
    have w2 : (M.wider r a).hi = if r.hi < a then a else r.hi := rfl
    refine ⟨by split at w1 <;> omega, by split at w2 <;> omega, fun n hn => ?_, ?_, ?_⟩
    · rcases List.mem_cons.1 hn with rfl | hn
      · constructor
        · split at w1 <;> omega
        · split at w2 <;> omega
      · exact h3 n hn
    · rcases h4 with h4 | h4
      · rw [h4, w1]
        split
        · right; simp
        · left; rfl
      · right; simp [h4]
    · rcases h5 with h5 | h5
      · rw [h5, w2]
        split
        · right; simp
        · left; rfl
      · right; simp [h5]

theorem M.rnum_bd {f : M.Fl} (h : M.check f = 0) {x : Int} {l : List Int} (hl : M.Say f l) : 0 ≤ M.rnum x l ∧ M.rnum x l ≤ 7 := by
  obtain ⟨r1, r7, d1, d3, _, _⟩ := M.check_bd h
  unfold M.rnum M.count
  have hb := M.cnt_bd x ((l.drop (0 : Int).toNat).take (((l.length : Int) - 1).toNat + 1 - (0 : Int).toNat))
  have h2 : ((l.drop (0 : Int).toNat).take (((l.length : Int) - 1).toNat + 1 - (0 : Int).toNat)).length ≤ l.length := by
    rw [List.length_take, List.length_drop]; omega
  have := hl.1
  omega

/-- The bounds by the program are those by the reference. -/
theorem M.done_same {f : M.Fl} (h : M.check f = 0) (hne : 0 < (M.truths f).length) (x : Int) : M.bounds f x (M.truths f) = M.rdone x (M.rtruths f) := by
  obtain ⟨r1, r7, d1, d3, _, _⟩ := M.check_bd h
  obtain ⟨b1, ⟨t, ht, htl⟩, u, hu, huh⟩ := M.bounds_spec (f := f) (x := x) hne
  obtain ⟨_, _, w3, w4, w5⟩ := M.widen_spec ((M.rtruths f).map (M.rnum x)) ⟨M.big, -M.big⟩
  have hsay : ∀ l ∈ M.rtruths f, M.Say f l := fun l hl => ((M.mem_rtruths h l).1 hl).1
  have e1 : ∀ l ∈ M.rtruths f, M.number f x (M.pad l) = M.rnum x l := fun l hl => M.number_pad r1 (hsay l hl)
  have hr : M.rdone x (M.rtruths f) = M.widen ⟨M.big, -M.big⟩ ((M.rtruths f).map (M.rnum x)) := rfl
  rw [← hr] at w3 w4 w5
  obtain ⟨lt, hlt, rfl⟩ := (M.truths_same h t).1 ht
  obtain ⟨lu, hlu, rfl⟩ := (M.truths_same h u).1 hu
  have q1 := w3 _ (List.mem_map.2 ⟨lt, hlt, rfl⟩)
  have q2 := w3 _ (List.mem_map.2 ⟨lu, hlu, rfl⟩)
  rw [← e1 lt hlt, htl] at q1
  rw [← e1 lu hlu, huh] at q2
  have hB := M.big_bd
  have p1 : (M.bounds f x (M.truths f)).lo ≤ (M.rdone x (M.rtruths f)).lo := by
    rcases w4 with w4 | w4
    · have := M.rnum_bd h (x := x) (hsay lt hlt)
      rw [← e1 lt hlt, htl] at this
      rw [w4]
      show _ ≤ M.big
      omega
    · obtain ⟨l, hl, he⟩ := List.mem_map.1 w4
      rw [← he, ← e1 l hl]
      exact (b1 _ ((M.truths_same h _).2 ⟨l, hl, rfl⟩)).1
  have p2 : (M.rdone x (M.rtruths f)).hi ≤ (M.bounds f x (M.truths f)).hi := by
    rcases w5 with w5 | w5
    · have := M.rnum_bd h (x := x) (hsay lu hlu)
      rw [← e1 lu hlu, huh] at this
      rw [w5]
      show -M.big ≤ _
      omega
    · obtain ⟨l, hl, he⟩ := List.mem_map.1 w5
      rw [← he, ← e1 l hl]
      exact (b1 _ ((M.truths_same h _).2 ⟨l, hl, rfl⟩)).2
  cases hx : M.bounds f x (M.truths f) with
  | mk a b =>
    cases hy : M.rdone x (M.rtruths f) with
    | mk c d =>
      rw [hx, hy] at p1 p2
      rw [hx] at q1 q2
      rw [hy] at q1 q2
      simp only at p1 p2 q1 q2
      rw [show a = c by omega, show b = d by omega]

end Go.Proofs.Ytcecmphdmpeibaa
