import Derived.Test.YtcecmphdmpeibaaL36
set_option linter.unusedSimpArgs false
set_option linter.unusedVariables false
namespace Go.Proofs.Ytcecmphdmpeibaa
open Go.RowKit

/-- Nothing has to be left out just if the field is true. -/
theorem M.leave_nil {f : M.Fl} (h : M.check f = 0) : (M.leaveBest f).length = 0 ↔ M.rtruths f ≠ [] := by
  have hP : 0 < 2 ^ f.ts.length := Nat.pow_pos (by omega)
  have hsp : M.Spare f 0 ↔ M.rtruths f ≠ [] := by
    constructor
    · rintro ⟨l, h1, h2, h3⟩ he
      have : l ∈ M.rtruths f := (M.mem_rtruths h l).2 ⟨h1, h2, fun t ht => by
        obtain ⟨j, hj⟩ := List.getElem?_of_mem ht
        exact h3 j t hj (by simp)⟩
      rw [he] at this
      cases this
    · intro hne
      obtain ⟨l, hl⟩ := List.exists_mem_of_ne_nil _ hne
      obtain ⟨h1, h2, h3⟩ := (M.mem_rtruths h l).1 hl
      exact ⟨l, h1, h2, fun j t ht _ => h3 t (List.mem_of_getElem? ht)⟩
  rw [← hsp]
  constructor
  · intro h0
    obtain ⟨b, hb, hob, hcb, _⟩ := M.leave_spec h
    have hn : M.leaveBest f = [] := List.eq_nil_of_length_eq_zero h0
    rw [hn] at hob
    obtain rfl : b = 0 := hob.symm
    exact (spare_iff h hP).1 hcb
  · intro h0
    have := M.leave_least h hP h0
    have hb : M.bits 0 = [] := by decide
    rw [hb] at this
    simpa using this

/-- With one more tally there are no other truths. -/
theorem M.more_sub {f g : M.Fl} (hf : M.check f = 0) (hg : M.check g = 0) (hr : g.rows = f.rows) (hw : g.wds = f.wds) (hl : g.lf = f.lf) {t : M.Tl} (ht : g.ts = f.ts ++ [t]) : ∀ l ∈ M.rtruths g, l ∈ M.rtruths f := by
  intro l h
  obtain ⟨h1, h2, h3⟩ := (M.mem_rtruths hg l).1 h
  refine (M.mem_rtruths hf l).2 ⟨?_, ?_, fun u hu => h3 u (by rw [ht]; exact List.mem_append_left _ hu)⟩
  · unfold M.Say at h1 ⊢
    rw [hr, hw] at h1
    exact h1
  · unfold M.allows at h2 ⊢
    rw [hr, hl] at h2
    exact h2

theorem M.who_sub {f g : M.Fl} (hw : g.wds = f.wds) {row : Int} {a b : List (List Int)} (h : ∀ t ∈ a, t ∈ b) : ∀ y ∈ M.who g row a, M.has (M.who f row b) y = true := by
  intro y hy
  unfold M.who at hy
  rw [M.mem_whoFrom, hw] at hy
  obtain ⟨h1, h2, h3⟩ := hy
  unfold M.has M.who
  rw [List.any_eq_true]
  refine ⟨y, (M.mem_whoFrom _ _).2 ⟨h1, h2, ?_⟩, by simp⟩
  unfold M.whoF at h3 ⊢
  rw [List.any_eq_true] at h3 ⊢
  obtain ⟨t, ht, he⟩ := h3
  exact ⟨t, h t ht, he⟩

end Go.Proofs.Ytcecmphdmpeibaa
