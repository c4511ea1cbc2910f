import Derived.Test.YtcecmphdmpeibaaL33
set_option linter.unusedSimpArgs false
set_option linter.unusedVariables false
namespace Go.Proofs.Ytcecmphdmpeibaa
open Go.RowKit

/-- Some rows settle a weeder in some truths. -/
def M.Settle (f : M.Fl) (x : Int) (S : List Int) (l : List (List Int)) : Prop := ∀ t ∈ l, ∀ u ∈ l, (∀ r ∈ S, t.getD r.toNat 0 = u.getD r.toNat 0) → M.number f x t = M.number f x u
/-- How many of some rows are not answered. -/
def M.opensS (S : List Int) (l : List (List Int)) : Nat := (S.filter fun r => !M.same r.toNat l).length

theorem M.same_agree {a r : Nat} {l : List (List Int)} {s : Int} (h : M.same a l = true) : M.same a (M.agreeing l r s) = true := by
  rw [M.same_iff] at h ⊢
  intro t ht u hu
  exact h t (M.agree_mem.1 ht).1 u (M.agree_mem.1 hu).1
theorem M.same_self (r : Nat) (l : List (List Int)) (s : Int) : M.same r (M.agreeing l r s) = true := by
  rw [M.same_iff]
  intro t ht u hu
  rw [(M.agree_mem.1 ht).2, (M.agree_mem.1 hu).2]

theorem M.q_settle {f : M.Fl} (hr : 1 ≤ f.rows) (x : Int) {S : List Int} (hS : ∀ r ∈ S, 0 ≤ r ∧ r < f.rows) : ∀ (n : Nat) (l : List (List Int)), l.length ≤ n → M.Settle f x S l → M.q f x l ≤ M.opensS S l := by
  intro n
  induction n with
  | zero =>
    intro l h _
    obtain rfl : l = [] := List.eq_nil_of_length_eq_zero (by omega)
    rw [M.q_eq, M.known_nil]; simp
  | succ n ih =>
    intro l hn hl
    rw [M.q_eq]
    split
    · omega
    · rename_i hk
      by_cases hall : ∀ r ∈ S, M.same r.toNat l = true
      · refine absurd (M.known_iff.2 fun t ht u hu => hl t ht u hu fun r hr => M.same_iff.1 (hall r hr) t ht u hu) hk
      · simp only [Classical.not_forall] at hall
        obtain ⟨r, hrS, hs⟩ := hall
        have hs' : M.same r.toNat l = false := by simpa using hs
        have hb := fun s => ih (M.agreeing l r.toNat s) (by have := M.agree_lt hs' s; omega) (fun t ht u hu => hl t (M.agree_mem.1 ht).1 u (M.agree_mem.1 hu).1)
        have hb2 : ∀ s, M.opensS S (M.agreeing l r.toNat s) + 1 ≤ M.opensS S l := fun s => by
          unfold M.opensS
          refine filt_lt (fun a _ ha => ?_) ⟨r, hrS, ?_, by rw [hs']; rfl⟩
          · cases hq : M.same a.toNat l with
            | false => rfl
            | true => rw [M.same_agree hq] at ha; cases ha
          · rw [M.same_self]; rfl
        have := M.maxes_bd (fun s => M.q f x (M.agreeing l r.toNat s)) ((M.opensS S l : Int) - 1) (M.saids f) 0 (fun s _ => by have h5 := hb s; have h6 := hb2 s; omega) (by have := hb2 0; omega)
        have hm : 1 + M.worst f x l r.toNat ∈ M.costs f x l := by
          unfold M.costs
          exact List.mem_map.2 ⟨r.toNat, List.mem_range.2 (by have := hS r hrS; omega), by unfold M.cost; rw [hs']; rfl⟩
        have := M.leastOf_le hm
        unfold M.worst at this
        omega

theorem M.q_pos {f : M.Fl} (hr : 1 ≤ f.rows) {x : Int} {l : List (List Int)} (h : M.known f x l = false) : 1 ≤ M.q f x l := by
  rw [M.q_eq, h, if_neg (by decide)]
  have hm := M.leastOf_mem (l := M.costs f x l) (by intro e; have := congrArg List.length e; unfold M.costs at this; simp at this; omega)
  generalize M.leastOf (M.costs f x l) = z at hm
  unfold M.costs at hm
  obtain ⟨row, _, rfl⟩ := List.mem_map.1 hm
  unfold M.cost
  split
  · omega
  · have := M.maxes_ge (fun s => M.q f x (M.agreeing l row s)) (M.saids f) 0
    unfold M.worst
    omega

theorem M.idx_spec {z : Int} : ∀ (c : List Int) (k : Int), z ∈ c → ∃ i : Nat, M.idx z c k = k + i ∧ c[i]? = some z
  | [], k, h => by cases h
  | y :: c, k, h => by
    rw [M.idx]
    by_cases he : z = y
    · rw [if_pos he]
      exact ⟨0, by simp, by rw [he]; rfl⟩
    · rw [if_neg he]
      obtain ⟨i, h1, h2⟩ := M.idx_spec c (k + 1) ((List.mem_cons.1 h).resolve_left he)
      exact ⟨i + 1, by rw [h1]; omega, by simpa using h2⟩

theorem M.maxes_mem (g : Int → Int) : ∀ (l : List Int) (a : Int), ∀ s ∈ l, g s ≤ M.maxes g l a
  | [], _, s, h => by cases h
  | y :: r, a, s, h => by
    unfold M.maxes
    rcases List.mem_cons.1 h with rfl | h
    · have := M.maxes_ge g r (max a (g s)); omega
    · exact M.maxes_mem g r _ s h

/-- What the law on answers asks of the numbers. -/
theorem M.answer_spec {f : M.Fl} (h : M.check f = 0) (hne : M.rtruths f ≠ []) (x : Int) :
    0 ≤ M.q f x (M.rtruths f) ∧ M.q f x (M.rtruths f) ≤ (M.askBest f x).length ∧ (M.q f x (M.rtruths f) = 0 ↔ (M.askBest f x).length = 0) ∧
    ((M.q f x (M.rtruths f) = 0 ∧ (M.rnext f x (M.rtruths f)).1 = -1) ∨ ∃ row : Nat, (M.rnext f x (M.rtruths f)).1 = row ∧ (row : Int) < f.rows ∧ 0 < M.q f x (M.rtruths f) ∧ M.maxes (fun s => M.q f x (M.agreeing (M.rtruths f) row s)) (M.saids f) 0 = M.q f x (M.rtruths f) - 1 ∧ ∀ s ∈ M.saids f, M.q f x (M.agreeing (M.rtruths f) row s) < M.q f x (M.rtruths f)) := by
  obtain ⟨r1, r7, d1, d3, hp, n5⟩ := M.check_bd h
  have hlong : M.Long f (M.rtruths f) := fun t ht => ((M.mem_rtruths h t).1 ht).1.1
  have hP : 0 < 2 ^ f.rows.toNat := Nat.pow_pos (by omega)
  obtain ⟨k1, k2, k3⟩ := M.askBest_rows h x
  obtain ⟨i1, _⟩ := M.isRows_same h x (M.askBest f x)
  rw [k1, k2, Bool.and_true] at i1
  simp only [Bool.and_eq_true, List.all_eq_true] at i1
  obtain ⟨g1, g2, g3⟩ := i1
  have hS : ∀ r ∈ M.askBest f x, 0 ≤ r ∧ r < f.rows := fun r hr => by
    have := g2 r hr
    simpa only [M.hasRow, Bool.and_eq_true, decide_eq_true_eq] using this
  rw [M.settles_iff (fun r hr => by have := hS r hr; omega)] at g3
  have hset : M.Settle f x (M.askBest f x) (M.rtruths f) := by
    intro t ht u hu hr
    rw [← M.number_pad2 r1 (hlong t ht), ← M.number_pad2 r1 (hlong u hu)]
    refine g3 _ ((M.truths_same h _).2 ⟨t, ht, rfl⟩) _ ((M.truths_same h _).2 ⟨u, hu, rfl⟩) fun r hrS => ?_
    have hb := hS r hrS
    rw [M.pad_get (by have := hlong t ht; omega), M.pad_get (by have := hlong u hu; omega)]
    exact hr r hrS
  have hq1 := M.q_settle r1 x hS _ (M.rtruths f) (Nat.le_refl _) hset
  have hq2 : M.opensS (M.askBest f x) (M.rtruths f) ≤ (M.askBest f x).length := List.length_filter_le _ _
  have hq0 := (M.q_bd r1 x _ (M.rtruths f) (Nat.le_refl _)).1
  refine ⟨hq0, by omega, ?_, ?_⟩
  · constructor
    · intro hz
      have hk : M.known f x (M.rtruths f) = true := by
        cases hk : M.known f x (M.rtruths f) with
        | true => rfl
        | false => have := M.q_pos r1 hk; omega
      have hse : M.rsettles x 0 (M.rtruths f) = true := by
        rw [M.rsettles_iff (R := f.rows.toNat) (fun t ht => by have := hlong t ht; omega)]
        intro t ht u hu _
        rw [← M.number_long hlong x t ht, ← M.number_long hlong x u hu]
        exact M.known_iff.1 hk t ht u hu
      rcases Nat.eq_zero_or_pos (M.askBest f x).length with h0 | h0
      · exact h0
      · exfalso
        have hsh : M.shorter (M.bits 0) (M.askBest f x) = true := by
          rw [M.shorter_iff]
          left
          have : M.bits 0 = [] := by decide
          rw [this]; exact h0
        rw [k3 0 (by omega) hsh] at hse
        cases hse
    · intro hz
      omega
  · cases hk : M.known f x (M.rtruths f) with
    | true =>
      left
      refine ⟨by rw [M.q_eq, hk]; rfl, by unfold M.rnext; rw [hk]; rfl⟩
    | false =>
      right
      have hq := M.q_pos r1 hk
      have hqo := M.q_opens r1 x _ (M.rtruths f) (Nat.le_refl _) hlong
      have hol := M.opens_le f (M.rtruths f)
      have hqe : M.q f x (M.rtruths f) = M.leastOf (M.costs f x (M.rtruths f)) := by rw [M.q_eq, hk]; rfl
      have hm := M.leastOf_mem (l := M.costs f x (M.rtruths f)) (by intro e; have := congrArg List.length e; unfold M.costs at this; simp at this; omega)
      obtain ⟨i, h1, h2⟩ := M.idx_spec _ 0 hm
      have hi : i < f.rows.toNat := by
        obtain ⟨h3, _⟩ := List.getElem?_eq_some_iff.1 h2
        unfold M.costs at h3
        simpa using h3
      have hci : M.cost f x (M.rtruths f) i = M.q f x (M.rtruths f) := by
        have h3 := M.costs_drop (f := f) (x := x) (l := M.rtruths f) hi
        have h4 : ((M.costs f x (M.rtruths f)).drop i)[0]? = some (M.leastOf (M.costs f x (M.rtruths f))) := by rw [List.getElem?_drop]; exact h2
        rw [h3] at h4
        rw [hqe]
        simpa using h4
      have hs : M.same i (M.rtruths f) = false := by
        cases hs : M.same i (M.rtruths f) with
        | false => rfl
        | true =>
          unfold M.cost at hci
          rw [hs, if_pos rfl] at hci
          have := hqo.1
          omega
      have hw : M.worst f x (M.rtruths f) i = M.q f x (M.rtruths f) - 1 := by
        unfold M.cost at hci
        rw [hs] at hci
        simp at hci
        omega
      refine ⟨i, by unfold M.rnext; rw [hk, if_neg (by decide)]; show M.idx _ _ 0 = _; rw [h1]; omega, by omega, by omega, hw, fun s hsm => ?_⟩
      have := M.maxes_mem (fun s => M.q f x (M.agreeing (M.rtruths f) i s)) (M.saids f) 0 s hsm
      unfold M.worst at hw
      omega

end Go.Proofs.Ytcecmphdmpeibaa
