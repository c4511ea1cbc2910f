import Derived.Test.YtcecmphdmpeibaaL34
import Derived.Test.YtcecmphdmpeibaaQ11
set_option linter.unusedSimpArgs false
set_option linter.unusedVariables false
namespace Go.Proofs.Ytcecmphdmpeibaa
open Go.RowKit

/-- Fewer truths: known stays known. -/
theorem M.known_sub {f : M.Fl} {x : Int} {a b : List (List Int)} (h : ∀ t ∈ a, t ∈ b) (hk : M.known f x b = true) : M.known f x a = true := by
  rw [M.known_iff] at hk ⊢
  intro t ht u hu
  exact hk t (h t ht) u (h u hu)
theorem M.maxes_mono {g g' : Int → Int} : ∀ (l : List Int) (a a' : Int), (∀ s ∈ l, g s ≤ g' s) → a ≤ a' → M.maxes g l a ≤ M.maxes g' l a'
  | [], _, _, _, h => h
  | s :: r, a, a', h, ha => by
    unfold M.maxes
    have := h s (by simp)
    exact M.maxes_mono r _ _ (fun y hy => h y (by simp [hy])) (by omega)

/-- Fewer truths need no more questions. -/
theorem M.q_sub {f : M.Fl} (r1 : 1 ≤ f.rows) (r7 : f.rows ≤ 7) (x : Int) : ∀ (n : Nat) (a b : List (List Int)), b.length ≤ n → (∀ t ∈ a, t ∈ b) → M.Long f b → (∀ t ∈ b, ∀ r, r < f.rows.toNat → t.getD r 0 ∈ M.saids f) → M.q f x a ≤ M.q f x b := by
  intro n
  induction n with
  | zero =>
    intro a b hn hs _ _
    obtain rfl : b = [] := List.eq_nil_of_length_eq_zero (by omega)
    obtain rfl : a = [] := List.eq_nil_iff_forall_not_mem.2 (fun t ht => by cases hs t ht)
    omega
  | succ n ih =>
    intro a b hn hs hl hsd
    have hq0 := (M.q_bd r1 x _ b (Nat.le_refl _)).1
    cases hka : M.known f x a with
    | true =>
      rw [M.q_eq f x a, hka, if_pos rfl]
      exact hq0
    | false =>
      cases hkb : M.known f x b with
      | true => rw [M.known_sub hs hkb] at hka; cases hka
      | false =>
        have hqe : M.q f x b = M.leastOf (M.costs f x b) := by rw [M.q_eq, hkb]; rfl
        have hm := M.leastOf_mem (l := M.costs f x b) (by intro e; have := congrArg List.length e; unfold M.costs at this; simp at this; omega)
        rw [← hqe] at hm
        have hqo := (M.q_opens r1 x _ b (Nat.le_refl _) hl).1
        have hol := M.opens_le f b
        have hm2 := hm
        unfold M.costs at hm2
        obtain ⟨r, hr, hc⟩ := List.mem_map.1 hm2
        have hr' := List.mem_range.1 hr
        unfold M.cost at hc
        cases hsb : M.same r b with
        | true => rw [hsb, if_pos rfl] at hc; omega
        | false =>
          rw [hsb, if_neg (by decide)] at hc
          have hag := fun s => ih (M.agreeing a r s) (M.agreeing b r s) (by have := M.agree_lt hsb s; omega) (fun t ht => M.agree_mem.2 ⟨hs t (M.agree_mem.1 ht).1, (M.agree_mem.1 ht).2⟩) (M.long_agree hl r s) (fun t ht => hsd t (M.agree_mem.1 ht).1)
          cases hsa : M.same r a with
          | true =>
            cases ha : a with
            | nil => rw [M.q_eq f x [], M.known_nil, if_pos rfl]; exact hq0
            | cons t0 rest =>
              have hsub : ∀ t ∈ a, t ∈ M.agreeing b r (t0.getD r 0) := fun t ht => M.agree_mem.2 ⟨hs t ht, M.same_iff.1 hsa t ht t0 (by rw [ha]; simp)⟩
              have h1 := ih a (M.agreeing b r (t0.getD r 0)) (by have := M.agree_lt hsb (t0.getD r 0); omega) hsub (M.long_agree hl r _) (fun t ht => hsd t (M.agree_mem.1 ht).1)
              have h2 := M.maxes_mem (fun s => M.q f x (M.agreeing b r s)) (M.saids f) 0 _ (hsd t0 (hs t0 (by rw [ha]; simp)) r hr')
              unfold M.worst at hc
              rw [← ha]
              omega
          | false =>
            have hmo := M.maxes_mono (g := fun s => M.q f x (M.agreeing a r s)) (g' := fun s => M.q f x (M.agreeing b r s)) (M.saids f) 0 0 (fun s _ => hag s) (Int.le_refl _)
            have hma : 1 + M.worst f x a r ∈ M.costs f x a := by
              unfold M.costs
              exact List.mem_map.2 ⟨r, hr, by unfold M.cost; rw [hsa]; rfl⟩
            have := M.leastOf_le hma
            rw [M.q_eq f x a, hka, if_neg (by decide)]
            unfold M.worst at hc this
            omega

/-- Fewer truths, a narrower range. -/
theorem M.rdone_sub {x : Int} {a b : List (List Int)} (h : ∀ t ∈ a, t ∈ b) (hne : a ≠ []) (hbd : ∀ t ∈ b, 0 ≤ M.rnum x t ∧ M.rnum x t ≤ 7) : M.inside (M.rdone x a) (M.rdone x b) = true := by
  obtain ⟨_, _, a3, a4, a5⟩ := M.widen_spec (a.map (M.rnum x)) ⟨M.big, -M.big⟩
  obtain ⟨_, _, b3, _, _⟩ := M.widen_spec (b.map (M.rnum x)) ⟨M.big, -M.big⟩
  have ra : M.rdone x a = M.widen ⟨M.big, -M.big⟩ (a.map (M.rnum x)) := rfl
  have rb : M.rdone x b = M.widen ⟨M.big, -M.big⟩ (b.map (M.rnum x)) := rfl
  rw [← ra] at a3 a4 a5
  rw [← rb] at b3
  have hB := M.big_bd
  obtain ⟨t, ht⟩ := List.exists_mem_of_ne_nil a hne
  have ht3 := a3 _ (List.mem_map.2 ⟨t, ht, rfl⟩)
  have htb := hbd t (h t ht)
  unfold M.inside
  simp only [Bool.and_eq_true, decide_eq_true_eq]
  constructor
  · rcases a4 with a4 | a4
    · have : (M.rdone x a).lo = M.big := a4
      omega
    · obtain ⟨u, hu, he⟩ := List.mem_map.1 a4
      rw [← he]
      exact (b3 _ (List.mem_map.2 ⟨u, h u hu, rfl⟩)).1
  · rcases a5 with a5 | a5
    · have : (M.rdone x a).hi = -M.big := a5
      omega
    · obtain ⟨u, hu, he⟩ := List.mem_map.1 a5
      rw [← he]
      exact (b3 _ (List.mem_map.2 ⟨u, h u hu, rfl⟩)).2

theorem M.rsettles_sub {x : Int} {n R : Nat} {a b : List (List Int)} (h : ∀ t ∈ a, t ∈ b) (hl : ∀ t ∈ b, t.length = R) (hs : M.rsettles x n b = true) : M.rsettles x n a = true := by
  rw [M.rsettles_iff hl] at hs
  rw [M.rsettles_iff (fun t ht => hl t (h t ht))]
  intro t ht u hu
  exact hs t (h t ht) u (h u hu)

theorem M.askBest_bits {f : M.Fl} (h : M.check f = 0) (x : Int) : ∃ c, c < 2 ^ f.rows.toNat ∧ M.rsettles x c (M.rtruths f) = true ∧ M.askBest f x = M.bits c := by
  obtain ⟨r1, r7, d1, d3, _, _⟩ := M.check_bd h
  have hP : 0 < 2 ^ f.rows.toNat := Nat.pow_pos (by omega)
  have hall : M.rsettles x (2 ^ f.rows.toNat - 1) (M.rtruths f) = true := by
    rw [← M.settle_same h x (by omega), M.bits_all r7]
    exact M.settles_all (good_of h) x
  have h1 := (M.pick_spec (fun b => M.rsettles x b (M.rtruths f)) (2 ^ f.rows.toNat - 1 + 1) 0 (M.bits (2 ^ f.rows.toNat - 1))).1
  rw [← M.ask_same h x] at h1
  rcases h1 with h1 | ⟨c, _, h5, h6, h7⟩
  · exact ⟨_, by omega, hall, h1⟩
  · exact ⟨c, by omega, h6, h7⟩

/-- Fewer truths, no more rows to ask. -/
theorem M.ask_sub {f g : M.Fl} (hf : M.check f = 0) (hg : M.check g = 0) (hr : g.rows = f.rows) (x : Int) (h : ∀ t ∈ M.rtruths g, t ∈ M.rtruths f) : (M.askBest g x).length ≤ (M.askBest f x).length := by
  obtain ⟨c, hc, hs, he⟩ := M.askBest_bits hf x
  have hs2 := M.rsettles_sub (R := f.rows.toNat) h (fun t ht => by have := M.rt_len hf t ht; have := M.check_bd hf; omega) hs
  obtain ⟨_, _, k3⟩ := M.askBest_rows hg x
  cases hsh : M.shorter (M.bits c) (M.askBest g x) with
  | true => rw [k3 c (by rw [hr]; omega) hsh] at hs2; cases hs2
  | false =>
    rw [he]
    rcases Nat.lt_or_ge (M.bits c).length (M.askBest g x).length with h1 | h1
    · rw [(M.shorter_iff _ _).2 (.inl h1)] at hsh; cases hsh
    · exact h1

end Go.Proofs.Ytcecmphdmpeibaa
