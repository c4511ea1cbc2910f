import Derived.Test.YtcecmphdmpeibaaL32
import Derived.Test.YtcecmphdmpeibaaQ12
import Derived.Test.YtcecmphdmpeibaaL27
set_option linter.unusedSimpArgs false
set_option linter.unusedVariables false
namespace Go.Proofs.Ytcecmphdmpeibaa
open Go.RowKit

/-- A field with the answer to a question. -/
def M.ansF (f : M.Fl) (row who : Int) : M.Fl := ⟨f.rows, f.wds, f.lf, f.ts ++ M.ansK who row 0 f.wds.toNat⟩

theorem M.mem_ansK {who row : Int} {t : M.Tl} : ∀ (j i : Nat), t ∈ M.ansK who row i j ↔ ∃ m : Nat, i ≤ m ∧ m < i + j ∧ (((m : Int) = who ∧ t = ⟨m, row, row, ⟨1, 1⟩⟩) ∨ (who < 0 ∧ t = ⟨m, row, row, ⟨0, 0⟩⟩))
  | 0, i => by
    simp only [M.ansK, List.not_mem_nil, false_iff]
    rintro ⟨m, h1, h2, _⟩
    omega
  | j + 1, i => by
    rw [M.ansK, List.mem_append, List.mem_append, M.mem_ansK j (i + 1)]
    constructor
    · rintro (h | h | ⟨m, h1, h2, h3⟩)
      · split at h
        · rename_i hc
          exact ⟨i, Nat.le_refl _, by omega, .inl ⟨hc, List.mem_singleton.1 h⟩⟩
        · cases h
      · split at h
        · rename_i hc
          exact ⟨i, Nat.le_refl _, by omega, .inr ⟨hc, List.mem_singleton.1 h⟩⟩
        · cases h
      · exact ⟨m, by omega, by omega, h3⟩
    · rintro ⟨m, h1, h2, h3⟩
      rcases Nat.eq_or_lt_of_le h1 with rfl | hlt
      · rcases h3 with ⟨h3, rfl⟩ | ⟨h3, rfl⟩
        · left; rw [if_pos h3]; simp
        · right; left; rw [if_pos h3]; simp
      · exact .inr (.inr ⟨m, by omega, by omega, h3⟩)
theorem M.ansK_len (who row : Int) : ∀ (j i : Nat), (M.ansK who row i j).length ≤ j
  | 0, _ => Nat.le_refl _
  | j + 1, i => by
    rw [M.ansK, List.length_append, List.length_append]
    have := M.ansK_len who row j (i + 1)
    by_cases h1 : (i : Int) = who
    · rw [if_pos h1, if_neg (by omega)]; simp; omega
    · rw [if_neg h1]
      split <;> simp <;> omega

theorem M.check_ans {f : M.Fl} (h : M.check f = 0) {row : Nat} (hr : (row : Int) < f.rows) (who : Int) (hn : (f.ts.length : Int) + f.wds ≤ 5) : M.check (M.ansF f row who) = 0 := by
  obtain ⟨r1, r7, d1, d3, hp, n5⟩ := M.check_bd h
  have hl := M.ansK_len who row f.wds.toNat 0
  have hv : M.valid (M.ansF f row who) = true := by
    have hv0 := M.valid_of h
    simp only [M.valid, Bool.and_eq_true, decide_eq_true_eq, List.all_eq_true] at hv0 ⊢
    refine ⟨hv0.1, hv0.2.1, hv0.2.2.1, fun t ht => ?_⟩
    rcases List.mem_append.1 ht with ht | ht
    · exact hv0.2.2.2 t ht
    · obtain ⟨m, h1, h2, h3⟩ := (M.mem_ansK _ _).1 ht
      rcases h3 with ⟨_, rfl⟩ | ⟨_, rfl⟩
      · simp only [M.validTally, M.hasWd, M.hasRow, M.upTo, Bool.and_eq_true, decide_eq_true_eq]
        show (0 ≤ (m : Int) ∧ (m : Int) < f.wds) ∧ (0 ≤ (row : Int) ∧ (row : Int) < f.rows) ∧ (0 ≤ (row : Int) ∧ (row : Int) < f.rows) ∧ (row : Int) ≤ row ∧ (0 : Int) ≤ 1 ∧ (1 : Int) ≤ 1 ∧ 1 ≤ f.rows
        omega
      · simp only [M.validTally, M.hasWd, M.hasRow, M.upTo, Bool.and_eq_true, decide_eq_true_eq]
        show (0 ≤ (m : Int) ∧ (m : Int) < f.wds) ∧ (0 ≤ (row : Int) ∧ (row : Int) < f.rows) ∧ (0 ≤ (row : Int) ∧ (row : Int) < f.rows) ∧ (row : Int) ≤ row ∧ (0 : Int) ≤ 0 ∧ (0 : Int) ≤ 0 ∧ 0 ≤ f.rows
        omega
  unfold M.check
  show (if f.rows > 7 ∨ f.wds > 3 ∨ (f.ts ++ M.ansK who row 0 f.wds.toNat).length > 5 then (3 : Int) else if M.valid (M.ansF f row who) = false then 1 else if M.power f > 2500 then 3 else 0) = 0
  rw [if_neg (by rw [List.length_append]; omega), if_neg (by rw [hv]; decide), if_neg (show ¬ M.power f > 2500 by omega)]

theorem M.count_one {l : List Int} {r : Nat} (hr : r < l.length) (x : Int) : M.count l x r r = if l.getD r 0 = x then 1 else 0 := by
  unfold M.count
  rw [Int.toNat_natCast, show r + 1 - r = 1 from by omega, List.drop_eq_getElem_cons hr, List.take_succ_cons, List.take_zero, List.getD_eq_getElem?_getD, List.getElem?_eq_getElem hr]
  simp [M.cnt]

/-- The truths of a field with an answer are those that give it. -/
theorem M.mem_ans {f : M.Fl} (h : M.check f = 0) {row : Nat} (hr : (row : Int) < f.rows) {who : Int} (hw : -1 ≤ who ∧ who < f.wds) (hn : (f.ts.length : Int) + f.wds ≤ 5) (l : List Int) : l ∈ M.rtruths (M.ansF f row who) ↔ l ∈ M.agreeing (M.rtruths f) row who := by
  obtain ⟨r1, r7, d1, d3, hp, n5⟩ := M.check_bd h
  rw [M.mem_rtruths (M.check_ans h hr who hn), M.agree_mem, M.mem_rtruths h]
  have hsay : M.Say (M.ansF f row who) l ↔ M.Say f l := Iff.rfl
  rw [hsay]
  constructor
  · rintro ⟨h1, h2, h3⟩
    have hlen : row < l.length := by have := h1.1; omega
    have hc := fun x => M.count_one (l := M.pad l) (r := row) (by unfold M.pad; rw [List.length_append]; omega) x
    rw [M.pad_get hlen] at hc
    refine ⟨⟨h1, h2, fun t ht => h3 t (List.mem_append_left _ ht)⟩, ?_⟩
    have hy : -1 ≤ l.getD row 0 ∧ l.getD row 0 < f.wds := h1.2 _ (by rw [List.getD_eq_getElem?_getD, List.getElem?_eq_getElem hlen]; simp)
    by_cases hw0 : who < 0
    · by_cases hy0 : l.getD row 0 < 0
      · omega
      · exfalso
        have := h3 _ (List.mem_append_right _ ((M.mem_ansK f.wds.toNat 0).2 ⟨(l.getD row 0).toNat, Nat.zero_le _, by omega, .inr ⟨hw0, rfl⟩⟩))
        simp only [M.holds] at this
        rw [hc, if_pos (by omega)] at this
        simp at this
    · have := h3 _ (List.mem_append_right _ ((M.mem_ansK f.wds.toNat 0).2 ⟨who.toNat, Nat.zero_le _, by omega, .inl ⟨by omega, rfl⟩⟩))
      simp only [M.holds] at this
      rw [hc] at this
      by_cases he : l.getD row 0 = (who.toNat : Int)
      · omega
      · rw [if_neg he] at this
        simp at this
  · rintro ⟨⟨h1, h2, h3⟩, h4⟩
    have hlen : row < l.length := by have := h1.1; omega
    have hc := fun x => M.count_one (l := M.pad l) (r := row) (by unfold M.pad; rw [List.length_append]; omega) x
    rw [M.pad_get hlen, h4] at hc
    refine ⟨h1, h2, fun t ht => ?_⟩
    rcases List.mem_append.1 ht with ht | ht
    · exact h3 t ht
    · obtain ⟨m, _, _, h5⟩ := (M.mem_ansK _ _).1 ht
      rcases h5 with ⟨h5, rfl⟩ | ⟨h5, rfl⟩
      · simp only [M.holds]
        rw [hc, if_pos h5.symm]
        simp
      · simp only [M.holds]
        rw [hc, if_neg (by omega)]
        simp

theorem M.qn_dep {f g : M.Fl} (h1 : g.rows = f.rows) (h2 : g.wds = f.wds) (x : Int) : ∀ (n : Nat) (ts : List (List Int)), M.qn g x n ts = M.qn f x n ts
  | 0, _ => rfl
  | n + 1, ts => by
    have hk : M.known g x ts = M.known f x ts := by unfold M.known M.number; rw [h1]
    have hs : M.saids g = M.saids f := by unfold M.saids; rw [h2]
    have hq : (fun ts => M.qn g x n ts) = fun ts => M.qn f x n ts := by funext ts; exact M.qn_dep h1 h2 x n ts
    have hq2 : M.qn g x n = M.qn f x n := hq
    rw [M.qn, M.qn, hk, hs, h1, hq2]
theorem M.q_ext {f : M.Fl} (r1 : 1 ≤ f.rows) (x : Int) {a b : List (List Int)} (h : ∀ t, t ∈ a ↔ t ∈ b) (ha : M.Long f a) : M.q f x a = M.q f x b := by
  have hb : M.Long f b := fun t ht => ha t ((h t).2 ht)
  have e1 := (M.q_rel r1 x _ (a.map M.pad) a (Nat.le_refl _) (fun t => by simp [List.mem_map, eq_comm]) ha).2.2
  have e2 := (M.q_rel r1 x _ (a.map M.pad) b (Nat.le_refl _) (fun t => by
    rw [List.mem_map]
    constructor
    · rintro ⟨u, hu, rfl⟩; exact ⟨u, (h u).1 hu, rfl⟩
    · rintro ⟨u, hu, rfl⟩; exact ⟨u, (h u).2 hu, rfl⟩) hb).2.2
  rw [← e1, e2]

/-- What Next says of a field with an answer. -/
theorem M.next_ans {f : M.Fl} (h : M.check f = 0) {row : Nat} (hr : (row : Int) < f.rows) {who : Int} (hw : -1 ≤ who ∧ who < f.wds) (hn : (f.ts.length : Int) + f.wds ≤ 5) {x : Int} (hx : M.hasWd f x = true) :
    (M.Next (M.ansF f row who) x).2 = M.q f x (M.agreeing (M.rtruths f) row who) ∧ M.begin (M.ansF f row who) (M.hasWd (M.ansF f row who) x) = if (M.agreeing (M.rtruths f) row who).length = 0 then 11 else 0 := by
  obtain ⟨r1, r7, d1, d3, hp, n5⟩ := M.check_bd h
  have hc := M.check_ans h hr who hn
  have hm := M.mem_ans h hr hw hn
  constructor
  · rw [M.next_same hc, M.rnext_q]
    unfold M.q
    rw [M.qn_dep (f := f) (g := M.ansF f row who) rfl rfl]
    exact M.q_ext r1 x hm (fun t ht => ((M.mem_rtruths hc t).1 ht).1.1)
  · have hx' : M.hasWd (M.ansF f row who) x = true := hx
    rw [hx', M.begin_ref _ _ hc]
    show M.sureE (M.ansF f row who) = _
    unfold M.sureE
    rw [if_pos hc]
    have he : (M.rtruths (M.ansF f row who)).length = 0 ↔ (M.agreeing (M.rtruths f) row who).length = 0 := by
      rw [List.length_eq_zero_iff, List.length_eq_zero_iff, List.eq_nil_iff_forall_not_mem, List.eq_nil_iff_forall_not_mem]
      constructor
      · intro h1 t ht; exact h1 t ((hm t).2 ht)
      · intro h1 t ht; exact h1 t ((hm t).1 ht)
    simp only [he]

end Go.Proofs.Ytcecmphdmpeibaa
