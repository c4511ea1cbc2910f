import Derived.Test.YtcecmphdmpeibaaL23
import Derived.Test.YtcecmphdmpeibaaL20
namespace Go.Proofs.Ytcecmphdmpeibaa
open Go.RowKit

theorem M.agreeK_iff (b : Nat) (t u : List Int) : ∀ (j r : Nat), M.agreeK b t u r j = true ↔ ∀ s, r ≤ s → s < r + j → b / 2 ^ s % 2 = 1 → t.getD s 0 = u.getD s 0
  | 0, r => by
    simp only [M.agreeK, true_iff]
    intro s h1 h2
    omega
  | j + 1, r => by
    rw [M.agreeK, Bool.and_eq_true, M.agreeK_iff b t u j (r + 1), Bool.or_eq_true, beq_iff_eq, beq_iff_eq]
    constructor
    · rintro ⟨h1, h2⟩ s hs hs2 hb
      rcases Nat.eq_or_lt_of_le hs with rfl | hlt
      · rcases h1 with h1 | h1
        · omega
        · exact h1
      · exact h2 s hlt (by omega) hb
    · intro h
      refine ⟨?_, fun s hs hs2 hb => h s (by omega) (by omega) hb⟩
      by_cases hb : b / 2 ^ r % 2 = 1
      · exact .inr (h r (Nat.le_refl _) (by omega) hb)
      · exact .inl (by omega)

theorem M.rclash_symm {x : Int} {b : Nat} {t u : List Int} (hl : t.length = u.length) (h : M.rclash x b t u = false) : M.rclash x b u t = false := by
  unfold M.rclash at h ⊢
  rw [Bool.and_eq_false_iff] at h ⊢
  rcases h with h | h
  · left
    simp only [bne_eq_false_iff_eq] at h ⊢
    exact h.symm
  · right
    rw [← hl]
    cases hc : M.agreeK b u t 0 t.length with
    | false => rfl
    | true =>
      rw [M.agreeK_iff] at hc
      rw [← Bool.not_eq_true, M.agreeK_iff] at h
      exact absurd (fun s h1 h2 h3 => (hc s h1 h2 h3).symm) h
theorem M.rclash_self (x : Int) (b : Nat) (t : List Int) : M.rclash x b t t = false := by
  unfold M.rclash
  simp

theorem M.rsetK_iff (x : Int) (b : Nat) : ∀ (rest pre : List (List Int)), M.rsetK x b pre rest = true ↔ (∀ u ∈ pre, ∀ t ∈ rest, M.rclash x b t u = false) ∧ rest.Pairwise (fun u t => M.rclash x b t u = false)
  | [], pre => by simp [M.rsetK]
  | t :: r, pre => by
    rw [M.rsetK, Bool.and_eq_true, M.rsetK_iff x b r (pre ++ [t]), List.all_eq_true, List.pairwise_cons]
    constructor
    · rintro ⟨h1, h2, h3⟩
      refine ⟨fun u hu s hs => ?_, fun s hs => h2 t (by simp) s hs, h3⟩
      rcases List.mem_cons.1 hs with rfl | hs
      · simpa using h1 u hu
      · exact h2 u (by simp [hu]) s hs
    · rintro ⟨h1, h2, h3⟩
      refine ⟨fun u hu => by simpa using h1 u hu t (by simp), fun u hu s hs => ?_, h3⟩
      rcases List.mem_append.1 hu with hu | hu
      · exact h1 u hu s (by simp [hs])
      · rw [List.mem_singleton.1 hu]; exact h2 s hs

theorem pair_all {α : Type} {R : α → α → Prop} : ∀ {l : List α}, (∀ x ∈ l, R x x) → (∀ x ∈ l, ∀ y ∈ l, R x y → R y x) → l.Pairwise R → ∀ x ∈ l, ∀ y ∈ l, R x y
  | [], _, _, _, x, hx, _, _ => by cases hx
  | a :: l, h1, h2, h3, x, hx, y, hy => by
    rw [List.pairwise_cons] at h3
    have ih := pair_all (l := l) (fun x hx => h1 x (by simp [hx])) (fun x hx y hy => h2 x (by simp [hx]) y (by simp [hy])) h3.2
    rcases List.mem_cons.1 hx with e1 | hx'
    · rcases List.mem_cons.1 hy with e2 | hy'
      · rw [e1, e2]; exact h1 _ (by simp)
      · rw [e1]; exact h3.1 y hy'
    · rcases List.mem_cons.1 hy with e2 | hy'
      · rw [e2]; exact h2 _ (by simp) x (by simp [hx']) (h3.1 x hx')
      · exact ih x hx' y hy'

theorem M.rsettles_iff {x : Int} {b R : Nat} {l : List (List Int)} (hlen : ∀ t ∈ l, t.length = R) : M.rsettles x b l = true ↔ ∀ t ∈ l, ∀ u ∈ l, (∀ r, r < R → b / 2 ^ r % 2 = 1 → t.getD r 0 = u.getD r 0) → M.rnum x t = M.rnum x u := by
  have hc : ∀ t ∈ l, ∀ u, M.rclash x b t u = false ↔ ((∀ r, r < R → b / 2 ^ r % 2 = 1 → t.getD r 0 = u.getD r 0) → M.rnum x t = M.rnum x u) := by
    intro t ht u
    unfold M.rclash
    rw [Bool.and_eq_false_iff, bne_eq_false_iff_eq, hlen t ht, ← Bool.not_eq_true (M.agreeK b t u 0 R), M.agreeK_iff]
    constructor
    · rintro (h | h) hr
      · exact h
      · exact absurd (fun s _ h2 h3 => hr s (by omega) h3) h
    · intro h
      by_cases hr : ∀ r, r < R → b / 2 ^ r % 2 = 1 → t.getD r 0 = u.getD r 0
      · exact .inl (h hr)
      · exact .inr (fun h2 => hr (fun r hr2 hb => h2 r (Nat.zero_le _) (by omega) hb))
  unfold M.rsettles
  rw [M.rsetK_iff]
  constructor
  · rintro ⟨_, h⟩ t ht u hu
    rw [← hc t ht u]
    exact pair_all (R := fun u t => M.rclash x b t u = false) (fun x _ => M.rclash_self _ _ _) (fun s hs v hv h => M.rclash_symm (by rw [hlen s hs, hlen v hv]) h) h u hu t ht
  · intro h
    refine ⟨by simp, ?_⟩
    rw [List.pairwise_iff_getElem]
    intro i j hi hj hij
    exact (hc _ (List.getElem_mem hj) _).2 (h _ (List.getElem_mem hj) _ (List.getElem_mem hi))

theorem M.mem_bitsK (b : Nat) (x : Int) : ∀ (j p : Nat), x ∈ M.bitsK b p j ↔ ∃ r : Nat, p ≤ r ∧ r < p + j ∧ b / 2 ^ r % 2 = 1 ∧ x = r
  | 0, p => by
    simp only [M.bitsK, List.not_mem_nil, false_iff]
    rintro ⟨r, h1, h2, _⟩
    omega
  | j + 1, p => by
    rw [M.bitsK, List.mem_append, M.mem_bitsK b x j (p + 1)]
    constructor
    · rintro (h | ⟨r, h1, h2, h3⟩)
      · split at h
        · rename_i hb
          exact ⟨p, Nat.le_refl _, by omega, hb, by simpa using h⟩
        · cases h
      · exact ⟨r, by omega, by omega, h3⟩
    · rintro ⟨r, h1, h2, h3, h4⟩
      rcases Nat.eq_or_lt_of_le h1 with rfl | h5
      · left; rw [if_pos h3]; simp [h4]
      · exact .inr ⟨r, by omega, by omega, h3, h4⟩
theorem M.mem_bits (b : Nat) (x : Int) : x ∈ M.bits b ↔ ∃ r : Nat, r < 7 ∧ b / 2 ^ r % 2 = 1 ∧ x = r := by
  unfold M.bits
  rw [M.mem_bitsK]
  constructor
  · rintro ⟨r, _, h2, h3⟩
    exact ⟨r, by omega, h3⟩
  · rintro ⟨r, h1, h2⟩
    exact ⟨r, Nat.zero_le _, by omega, h2⟩

/-- Settling is the same by rows and by bits. -/
theorem M.settle_same {f : M.Fl} (h : M.check f = 0) (x : Int) {b : Nat} (hb : b < 2 ^ f.rows.toNat) : M.settles f x (M.truths f) (M.bits b) = M.rsettles x b (M.rtruths f) := by
  obtain ⟨r1, r7, d1, d3, _, _⟩ := M.check_bd h
  have hlen : ∀ t ∈ M.rtruths f, t.length = f.rows.toNat := fun t ht => by have := ((M.mem_rtruths h t).1 ht).1.1; omega
  have hsay : ∀ t ∈ M.rtruths f, M.Say f t := fun t ht => ((M.mem_rtruths h t).1 ht).1
  rw [Bool.eq_iff_iff, M.settles_iff (fun y hy => by obtain ⟨r, h1, _, rfl⟩ := (M.mem_bits b y).1 hy; omega), M.rsettles_iff hlen]
  have hpad : ∀ t ∈ M.rtruths f, ∀ u ∈ M.rtruths f, (∀ r ∈ M.bits b, (M.pad t).getD r.toNat 0 = (M.pad u).getD r.toNat 0) ↔ ∀ r, r < f.rows.toNat → b / 2 ^ r % 2 = 1 → t.getD r 0 = u.getD r 0 := by
    intro t ht u hu
    constructor
    · intro hr r hr1 hr2
      have := hr r ((M.mem_bits b r).2 ⟨r, by omega, hr2, rfl⟩)
      rw [Int.toNat_natCast, M.pad_get (by rw [hlen t ht]; exact hr1), M.pad_get (by rw [hlen u hu]; exact hr1)] at this
      exact this
    · intro hr r hm
      obtain ⟨s, h1, h2, rfl⟩ := (M.mem_bits b r).1 hm
      have hs : s < f.rows.toNat := by
        rcases Nat.lt_or_ge s f.rows.toNat with h | h
        · exact h
        · have : b / 2 ^ s = 0 := Nat.div_eq_of_lt (Nat.lt_of_lt_of_le hb (Nat.pow_le_pow_right (by omega) h))
          rw [this] at h2
          omega
      rw [Int.toNat_natCast, M.pad_get (by rw [hlen t ht]; exact hs), M.pad_get (by rw [hlen u hu]; exact hs)]
      exact hr s hs h2
  constructor
  · intro hq t ht u hu hr
    have := hq _ ((M.truths_same h _).2 ⟨t, ht, rfl⟩) _ ((M.truths_same h _).2 ⟨u, hu, rfl⟩) ((hpad t ht u hu).2 hr)
    rwa [M.number_pad r1 (hsay t ht), M.number_pad r1 (hsay u hu)] at this
  · intro hq t' ht' u' hu' hr
    obtain ⟨t, ht, rfl⟩ := (M.truths_same h _).1 ht'
    obtain ⟨u, hu, rfl⟩ := (M.truths_same h _).1 hu'
    rw [M.number_pad r1 (hsay t ht), M.number_pad r1 (hsay u hu)]
    exact hq t ht u hu ((hpad t ht u hu).1 hr)

theorem M.bits_all {f : M.Fl} (r7 : f.rows ≤ 7) : M.bits (2 ^ f.rows.toNat - 1) = M.allRows f := by
  unfold M.allRows
  have : f.rows.toNat = 0 ∨ f.rows.toNat = 1 ∨ f.rows.toNat = 2 ∨ f.rows.toNat = 3 ∨ f.rows.toNat = 4 ∨ f.rows.toNat = 5 ∨ f.rows.toNat = 6 ∨ f.rows.toNat = 7 := by omega
  rcases this with h | h | h | h | h | h | h | h <;> rw [h] <;> decide

theorem M.ask_same {f : M.Fl} (h : M.check f = 0) (x : Int) : M.askBest f x = M.pick (fun b => M.rsettles x b (M.rtruths f)) 0 (2 ^ f.rows.toNat - 1 + 1) (M.bits (2 ^ f.rows.toNat - 1)) := by
  obtain ⟨r1, r7, d1, d3, _, _⟩ := M.check_bd h
  unfold M.askBest
  refine M.shortest_pick (p := fun rows => M.settles f x (M.truths f) rows) (by omega) (fun b hb => M.settle_same h x hb) ?_
  show M.rsettles x (2 ^ f.rows.toNat - 1) (M.rtruths f) = true
  rw [← M.settle_same h x (by have := Nat.pow_pos (n := f.rows.toNat) (show 0 < 2 by omega); omega), M.bits_all r7]
  exact M.settles_all (good_of h) x

theorem or_add {a i : Nat} (h : a < 2 ^ i) : a ||| 2 ^ i = a + 2 ^ i := by
  have := Nat.two_pow_add_eq_or_of_lt h 1
  rw [Nat.mul_one] at this
  rw [Nat.or_comm, ← this, Nat.add_comm]

theorem M.rowsK_spec (f : M.Fl) (r1 : 1 ≤ f.rows) : ∀ (l : List Int) (prev : Option Int) (acc : Nat) (frm : Int), 0 ≤ frm → (∀ x, 0 ≤ x → (M.notUp prev x = false ↔ frm ≤ x)) → acc < 2 ^ frm.toNat →
    ((M.rowsK f l prev acc).2 = true ↔ M.Rise f.rows.toNat frm l) ∧ ((M.rowsK f l prev acc).2 = true → (M.rowsK f l prev acc).1 = l.foldl (fun a i => a + 2 ^ i.toNat) acc)
  | [], prev, acc, frm, _, _, _ => by simp [M.rowsK, M.Rise]
  | x :: r, prev, acc, frm, h0, hp, hacc => by
    rw [M.rowsK_cons]
    cases hi : M.isIn x 0 (f.rows - 1) with
    | false =>
      rw [if_pos (by simp)]
      refine ⟨⟨(fun h => by cases h), fun h => ?_⟩, (fun h => by cases h)⟩
      obtain ⟨h1, h2, _⟩ := h
      have : M.isIn x 0 (f.rows - 1) = true := by
        unfold M.isIn
        simp only [Bool.and_eq_true, decide_eq_true_eq]
        omega
      rw [this] at hi; cases hi
    | true =>
      have hx : 0 ≤ x ∧ x < f.rows := by
        unfold M.isIn at hi
        simp only [Bool.and_eq_true, decide_eq_true_eq] at hi
        omega
      cases hn : M.notUp prev x with
      | true =>
        rw [if_pos (by simp)]
        refine ⟨⟨(fun h => by cases h), fun h => ?_⟩, (fun h => by cases h)⟩
        have := (hp x hx.1).2 h.1
        rw [this] at hn; cases hn
      | false =>
        rw [if_neg (by simp)]
        have hfx := (hp x hx.1).1 hn
        have hlt : acc < 2 ^ x.toNat := Nat.lt_of_lt_of_le hacc (Nat.pow_le_pow_right (by omega) (by omega))
        obtain ⟨i1, i2⟩ := M.rowsK_spec f r1 r (some x) (acc ||| 2 ^ x.toNat) (x + 1) (by omega) (fun y hy => by simp [M.notUp]; omega) (by rw [or_add hlt, show (x + 1).toNat = x.toNat + 1 from by omega, Nat.pow_succ]; omega)
        refine ⟨?_, fun h => ?_⟩
        · rw [i1, M.Rise]
          constructor
          · intro h; exact ⟨hfx, by omega, h⟩
          · intro h; exact h.2.2
        · rw [i2 h, or_add hlt]; rfl

theorem M.rises_rise (sz : Nat) : ∀ (l : List Int) (frm : Int), 0 ≤ frm → (M.Rise sz frm l ↔ (∀ a, l.head? = some a → frm ≤ a) ∧ M.rises l = true ∧ ∀ x ∈ l, 0 ≤ x ∧ x < sz)
  | [], frm, _ => by simp [M.Rise, M.rises]
  | [a], frm, h => by
    simp only [M.Rise, M.rises, List.head?_cons, Option.some.injEq, forall_eq', List.mem_singleton, forall_eq, true_and, and_true]
    omega
  | a :: b :: r, frm, h => by
    rw [M.Rise]
    constructor
    · rintro ⟨h1, h2, h3⟩
      obtain ⟨g1, g2, g3⟩ := (M.rises_rise sz (b :: r) (a + 1) (by omega)).1 h3
      have g1' := g1 b rfl
      refine ⟨fun c hc => by simp at hc; omega, ?_, fun x hx => ?_⟩
      · rw [M.rises, g2, Bool.and_true, decide_eq_true_eq]; omega
      · rcases List.mem_cons.1 hx with rfl | hx
        · omega
        · exact g3 x hx
    · rintro ⟨h1, h2, h3⟩
      rw [M.rises, Bool.and_eq_true, decide_eq_true_eq] at h2
      have ha := h3 a (by simp)
      refine ⟨h1 a rfl, ha.2, (M.rises_rise sz (b :: r) (a + 1) (by omega)).2 ⟨fun c hc => by simp at hc; omega, h2.2, fun x hx => h3 x (by simp [List.mem_cons.1 hx])⟩⟩

/-- What IsRows says of a list, and its bits. -/
theorem M.isRows_same {f : M.Fl} (h : M.check f = 0) (x : Int) (l : List Int) : (M.rises l && (l.all (M.hasRow f) && M.settles f x (M.truths f) l)) = ((M.rowsK f l none 0).2 && M.rsettles x (M.rowsK f l none 0).1 (M.rtruths f)) ∧ (M.rowsK f l none 0).1 ≤ 127 := by
  obtain ⟨r1, r7, d1, d3, _, _⟩ := M.check_bd h
  obtain ⟨i1, i2⟩ := M.rowsK_spec f r1 l none 0 0 (Int.le_refl _) (fun x hx => by simp [M.notUp, hx]) (by decide)
  have hrr : (M.rises l = true ∧ l.all (M.hasRow f) = true) ↔ M.Rise f.rows.toNat 0 l := by
    rw [M.rises_rise _ _ _ (Int.le_refl _), List.all_eq_true]
    constructor
    · rintro ⟨g1, g2⟩
      have g3 : ∀ x ∈ l, 0 ≤ x ∧ x < (f.rows.toNat : Int) := fun x hx => by
        have := g2 x hx
        simp only [M.hasRow, Bool.and_eq_true, decide_eq_true_eq] at this
        omega
      exact ⟨fun a ha => (g3 a (List.mem_of_mem_head? (by rw [ha]; rfl))).1, g1, g3⟩
    · rintro ⟨_, g1, g2⟩
      refine ⟨g1, fun x hx => ?_⟩
      have := g2 x hx
      simp only [M.hasRow, Bool.and_eq_true, decide_eq_true_eq]
      omega
  by_cases hr : M.Rise f.rows.toNat 0 l
  · have h2 := i1.2 hr
    have hv := i2 h2
    obtain ⟨b, hb, he⟩ := M.rise_bits (by omega) hr
    have hl : l.length ≤ f.rows.toNat := by
      rcases M.Rise_len hr (by omega) with h | h
      · rw [h]; simp
      · omega
    have h0 := incr_bits
    rw [List.all_eq_true] at h0
    have h1 := h0 f.rows.toNat (List.mem_range.2 (by omega))
    rw [List.all_eq_true] at h1
    have h3 := h1 l.length (List.mem_range.2 (by omega))
    rw [List.all_eq_true] at h3
    have h4 := h3 l ((M.mem_incr f.rows.toNat l.length 0 l).2 ⟨rfl, by exact_mod_cast hr⟩)
    simp only [Bool.and_eq_true, decide_eq_true_eq] at h4
    have hm : (M.rowsK f l none 0).1 = M.mask2 l := hv
    obtain ⟨k1, k2⟩ := hrr.2 hr
    rw [k1, k2, h2, hm, Bool.true_and, Bool.true_and, Bool.true_and, ← M.settle_same h x h4.2, h4.1]
    refine ⟨rfl, ?_⟩
    have := pow_lt128 (n := f.rows.toNat) (by omega)
    omega
  · have h2 : (M.rowsK f l none 0).2 = false := by
      cases hc : (M.rowsK f l none 0).2 with
      | false => rfl
      | true => exact absurd (i1.1 hc) hr
    rw [h2, Bool.false_and]
    have hz : (M.rowsK f l none 0).1 ≤ 127 := by
      suffices ∀ l prev acc, (M.rowsK f l prev acc).2 = false → (M.rowsK f l prev acc).1 = 0 by rw [this _ _ _ h2]; omega
      intro l
      induction l with
      | nil => intro prev acc h; cases h
      | cons y r ih =>
        intro prev acc h
        rw [M.rowsK_cons] at h ⊢
        split
        · rfl
        · rename_i hc
          rw [if_neg hc] at h
          exact ih _ _ h
    refine ⟨?_, hz⟩
    cases hc : M.rises l with
    | false => rfl
    | true =>
      cases hd : l.all (M.hasRow f) with
      | false => rfl
      | true => exact absurd (hrr.1 ⟨hc, hd⟩) hr

end Go.Proofs.Ytcecmphdmpeibaa
