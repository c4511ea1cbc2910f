import Derived.Test.YtcecmphdmpeibaaL17
namespace Go.Proofs.Ytcecmphdmpeibaa
open Go.RowKit

theorem M.lexlt_trans : ∀ {x y z : List Int}, M.lexlt x y = true → M.lexlt y z = true → M.lexlt x z = true
  | [], _ :: _, _ :: _, _, _ => rfl
  | [], [], _, h, _ => by cases h
  | [], _ :: _, [], _, h => by cases h
  | _ :: _, [], _, h, _ => by cases h
  | _ :: _, _ :: _, [], _, h => by cases h
  | a :: r, b :: s, c :: t, h1, h2 => by
    simp only [M.lexlt, Bool.or_eq_true, Bool.and_eq_true, decide_eq_true_eq] at h1 h2 ⊢
    rcases h1 with h1 | ⟨h1, h1'⟩
    · rcases h2 with h2 | ⟨h2, _⟩
      · left; omega
      · left; omega
    · rcases h2 with h2 | ⟨h2, h2'⟩
      · left; omega
      · exact .inr ⟨by omega, M.lexlt_trans h1' h2'⟩
theorem M.lexlt_tri : ∀ (x y : List Int), M.lexlt x y = true ∨ x = y ∨ M.lexlt y x = true
  | [], [] => .inr (.inl rfl)
  | [], _ :: _ => .inl rfl
  | _ :: _, [] => .inr (.inr rfl)
  | a :: r, b :: s => by
    simp only [M.lexlt, Bool.or_eq_true, Bool.and_eq_true, decide_eq_true_eq, List.cons.injEq]
    rcases Int.lt_trichotomy a b with h | h | h
    · exact .inl (.inl h)
    · rcases M.lexlt_tri r s with h' | h' | h'
      · exact .inl (.inr ⟨h, h'⟩)
      · exact .inr (.inl ⟨h, h'⟩)
      · exact .inr (.inr (.inr ⟨h.symm, h'⟩))
    · exact .inr (.inr (.inl h))

theorem M.shorter_iff (x y : List Int) : M.shorter x y = true ↔ x.length < y.length ∨ (x.length = y.length ∧ M.lexlt x y = true) := by
  unfold M.shorter
  simp only [Bool.or_eq_true, Bool.and_eq_true, decide_eq_true_eq]
theorem M.shorter_trans {x y z : List Int} (h1 : M.shorter x y = true) (h2 : M.shorter y z = true) : M.shorter x z = true := by
  rw [M.shorter_iff] at h1 h2 ⊢
  rcases h1 with h1 | ⟨h1, h1'⟩
  · rcases h2 with h2 | ⟨h2, _⟩
    · left; omega
    · left; omega
  · rcases h2 with h2 | ⟨h2, h2'⟩
    · left; omega
    · exact .inr ⟨by omega, M.lexlt_trans h1' h2'⟩
theorem M.shorter_tri (x y : List Int) : M.shorter x y = true ∨ x = y ∨ M.shorter y x = true := by
  rw [M.shorter_iff, M.shorter_iff]
  rcases Nat.lt_trichotomy x.length y.length with h | h | h
  · exact .inl (.inl h)
  · rcases M.lexlt_tri x y with h' | h' | h'
    · exact .inl (.inr ⟨h, h'⟩)
    · exact .inr (.inl h')
    · exact .inr (.inr (.inr ⟨h.symm, h'⟩))
  · exact .inr (.inr (.inl h))
theorem M.shorter_irrefl (x : List Int) : M.shorter x x = false := by
  unfold M.shorter
  simp [M.lexlt_irrefl]

/-- What the loop over all sets gives. -/
theorem M.pick_spec (p : Nat → Bool) : ∀ (j b : Nat) (best : List Int),
    (M.pick p b j best = best ∨ ∃ c, b ≤ c ∧ c < b + j ∧ p c = true ∧ M.pick p b j best = M.bits c) ∧ M.shorter best (M.pick p b j best) = false ∧ ∀ c, b ≤ c → c < b + j → p c = true → M.shorter (M.bits c) (M.pick p b j best) = false
  | 0, b, best => ⟨.inl rfl, M.shorter_irrefl _, fun c h1 h2 => by omega⟩
  | j + 1, b, best => by
    rw [M.pick]
    cases hb : (M.shorter (M.bits b) best && p b) with
    | true =>
      simp only [Bool.and_eq_true] at hb
      obtain ⟨h1, h2, h3⟩ := M.pick_spec p j (b + 1) (M.bits b)
      rw [if_pos rfl]
      generalize M.pick p (b + 1) j (M.bits b) = r at h1 h2 h3
      refine ⟨?_, ?_, fun c hc hc2 hp => ?_⟩
      · rcases h1 with h1 | ⟨c, h4, h5, h6, h7⟩
        · exact .inr ⟨b, Nat.le_refl _, by omega, hb.2, h1⟩
        · exact .inr ⟨c, by omega, by omega, h6, h7⟩
      · cases hs : M.shorter best r with
        | false => rfl
        | true => rw [M.shorter_trans hb.1 hs] at h2; cases h2
      · rcases Nat.eq_or_lt_of_le hc with rfl | hlt
        · exact h2
        · exact h3 c (by omega) (by omega) hp
    | false =>
      obtain ⟨h1, h2, h3⟩ := M.pick_spec p j (b + 1) best
      rw [if_neg (by decide)]
      generalize M.pick p (b + 1) j best = r at h1 h2 h3
      refine ⟨?_, h2, fun c hc hc2 hp => ?_⟩
      · rcases h1 with h1 | ⟨c, h4, h5, h6, h7⟩
        · exact .inl h1
        · exact .inr ⟨c, by omega, by omega, h6, h7⟩
      · rcases Nat.eq_or_lt_of_le hc with rfl | hlt
        · rw [hp, Bool.and_true] at hb
          cases hs : M.shorter (M.bits b) r with
          | false => rfl
          | true =>
            rcases M.shorter_tri (M.bits b) best with h | h | h
            · rw [h] at hb; cases hb
            · rw [h, h2] at hs; cases hs
            · rw [M.shorter_trans h hs] at h2; cases h2
        · exact h3 c (by omega) (by omega) hp

/-- The number whose bits are a list. -/
def M.mask2 (x : List Int) : Nat := x.foldl (fun a i => a + 2 ^ i.toNat) 0
theorem incr_bits : ((List.range 8).all fun sz => (List.range (sz + 1)).all fun L => (M.incr sz L 0).all fun x => decide (M.bits (M.mask2 x) = x) && decide (M.mask2 x < 2 ^ sz)) = true := by decide +kernel
theorem bits_incr : ((List.range 8).all fun sz => (List.range (2 ^ sz)).all fun b => (M.incr sz (M.bits b).length 0).contains (M.bits b)) = true := by decide +kernel
theorem M.rise_bits {sz : Nat} (hsz : sz ≤ 7) {x : List Int} (h : M.Rise sz 0 x) : ∃ b, b < 2 ^ sz ∧ M.bits b = x := by
  have hl : x.length ≤ sz := by
    rcases M.Rise_len h (by omega) with rfl | h2
    · simp
    · omega
  have h0 := incr_bits
  rw [List.all_eq_true] at h0
  have h1 := h0 sz (List.mem_range.2 (by omega))
  rw [List.all_eq_true] at h1
  have h2 := h1 x.length (List.mem_range.2 (by omega))
  rw [List.all_eq_true] at h2
  have h3 := h2 x ((M.mem_incr sz x.length 0 x).2 ⟨rfl, by exact_mod_cast h⟩)
  simp only [Bool.and_eq_true, decide_eq_true_eq] at h3
  exact ⟨_, h3.2, h3.1⟩
theorem M.bits_rise {sz : Nat} (hsz : sz ≤ 7) {b : Nat} (h : b < 2 ^ sz) : M.Rise sz 0 (M.bits b) := by
  have h0 := bits_incr
  rw [List.all_eq_true] at h0
  have h1 := h0 sz (List.mem_range.2 (by omega))
  rw [List.all_eq_true] at h1
  have h2 := h1 b (List.mem_range.2 h)
  rw [List.contains_iff_mem] at h2
  have := ((M.mem_incr sz _ 0 _).1 h2).2
  exact_mod_cast this

/-- The search of the program and the loop over all sets give the same. -/
theorem M.shortest_pick {p : List Int → Bool} {q : Nat → Bool} {sz : Nat} (hsz : sz ≤ 7) (hpq : ∀ b, b < 2 ^ sz → p (M.bits b) = q b) (hall : q (2 ^ sz - 1) = true) :
    M.shortest p sz = M.pick q 0 (2 ^ sz - 1 + 1) (M.bits (2 ^ sz - 1)) := by
  have hP : 0 < 2 ^ sz := Nat.pow_pos (by omega)
  obtain ⟨g1, g2, g3⟩ := M.shortest_spec (p := p) (M.bits_rise hsz (b := 2 ^ sz - 1) (by omega)) (by rw [hpq _ (by omega)]; exact hall)
  obtain ⟨h1, h2, h3⟩ := M.pick_spec q (2 ^ sz - 1 + 1) 0 (M.bits (2 ^ sz - 1))
  generalize M.pick q 0 (2 ^ sz - 1 + 1) (M.bits (2 ^ sz - 1)) = r at h1 h2 h3
  obtain ⟨b, hb, he⟩ := M.rise_bits hsz g1
  have hr : ∃ c, c < 2 ^ sz ∧ q c = true ∧ r = M.bits c := by
    rcases h1 with h1 | ⟨c, _, h5, h6, h7⟩
    · exact ⟨_, by omega, hall, h1⟩
    · exact ⟨c, by omega, h6, h7⟩
  obtain ⟨c, hc, hqc, rfl⟩ := hr
  have k1 := g3 (M.bits c) (M.bits_rise hsz hc) (by rw [hpq c hc]; exact hqc)
  have k2 := h3 b (by omega) (by omega) (by rw [← hpq b hb, he]; exact g2)
  rw [he] at k2
  rcases M.shorter_tri (M.shortest p sz) (M.bits c) with h | h | h
  · rw [h] at k2; cases k2
  · exact h
  · rw [h] at k1; cases k1

end Go.Proofs.Ytcecmphdmpeibaa
