import Derived.Test.YtcecmphdmpeibaaL35
import Derived.Test.YtcecmphdmpeibaaQ17
set_option linter.unusedSimpArgs false
set_option linter.unusedVariables false
namespace Go.Proofs.Ytcecmphdmpeibaa
open Go.RowKit

theorem comp_table : ((List.range 6).all fun n => (List.range (2 ^ n)).all fun b => decide ((2 ^ n - 1) ^^^ ((2 ^ n - 1) &&& b) < 2 ^ n) && (List.range n).all fun j => decide ((((2 ^ n - 1) ^^^ ((2 ^ n - 1) &&& b)) / 2 ^ j % 2 = 1) = (b / 2 ^ j % 2 = 0))) = true := by decide +kernel
theorem M.comp_bits {n b : Nat} (hn : n ≤ 5) (hb : b < 2 ^ n) : (2 ^ n - 1) ^^^ ((2 ^ n - 1) &&& b) < 2 ^ n ∧ ∀ j, j < n → ((((2 ^ n - 1) ^^^ ((2 ^ n - 1) &&& b)) / 2 ^ j % 2 = 1) ↔ (b / 2 ^ j % 2 = 0)) := by
  have h0 := comp_table
  rw [List.all_eq_true] at h0
  have h1 := h0 n (List.mem_range.2 (by omega))
  rw [List.all_eq_true] at h1
  have h2 := h1 b (List.mem_range.2 hb)
  simp only [Bool.and_eq_true, List.all_eq_true, decide_eq_true_eq] at h2
  exact ⟨h2.1, fun j hj => by have := h2.2 j (List.mem_range.2 hj); rw [this]⟩

/-- Without some tallies a field can be true. -/
def M.Spare (f : M.Fl) (b : Nat) : Prop := ∃ l, M.Say f l ∧ M.allows f (M.pad l) = true ∧ ∀ (j : Nat) (t : M.Tl), f.ts[j]? = some t → b / 2 ^ j % 2 = 0 → M.holds t.ct (M.count (M.pad l) t.wd t.fr t.to) = true
theorem spare_iff {f : M.Fl} (h : M.check f = 0) {b : Nat} (hb : b < 2 ^ f.ts.length) : M.can (M.rall f) ((2 ^ f.ts.length - 1) ^^^ ((2 ^ f.ts.length - 1) &&& b)) = true ↔ M.Spare f b := by
  obtain ⟨_, _, _, _, _, n5⟩ := M.check_bd h
  obtain ⟨c1, c2⟩ := M.comp_bits n5 hb
  rw [M.can_iff h c1]
  constructor
  · rintro ⟨l, h1, h2, h3⟩
    refine ⟨l, h1, h2, fun j t ht hj => h3 t ((M.mem_keepK _ _ _ _).2 ⟨j, ht, ?_⟩)⟩
    obtain ⟨h4, _⟩ := List.getElem?_eq_some_iff.1 ht
    rw [Nat.zero_add]
    exact (c2 j h4).2 hj
  · rintro ⟨l, h1, h2, h3⟩
    refine ⟨l, h1, h2, fun t ht => ?_⟩
    obtain ⟨j, h4, h5⟩ := (M.mem_keepK _ _ _ _).1 ht
    obtain ⟨h6, _⟩ := List.getElem?_eq_some_iff.1 h4
    rw [Nat.zero_add] at h5
    exact h3 j t h4 ((c2 j h6).1 h5)

theorem M.leave_least {f : M.Fl} (h : M.check f = 0) {b : Nat} (hb : b < 2 ^ f.ts.length) (hs : M.Spare f b) : (M.leaveBest f).length ≤ (M.bits b).length := by
  obtain ⟨_, _, _, _, _, _, _, h7⟩ := M.leave_spec h
  have := h7 b hb ((spare_iff h hb).2 hs)
  rcases Nat.lt_or_ge (M.bits b).length (M.leaveBest f).length with h1 | h1
  · rw [(M.shorter_iff _ _).2 (.inl h1)] at this; cases this
  · exact h1
theorem M.leave_spare {f : M.Fl} (h : M.check f = 0) : ∃ c, c < 2 ^ f.ts.length ∧ M.Spare f c ∧ M.leaveBest f = M.bits c := by
  obtain ⟨_, _, _, _, _, n5⟩ := M.check_bd h
  have hP : 0 < 2 ^ f.ts.length := Nat.pow_pos (by omega)
  have h1 := (M.pick_spec (fun b => M.can (M.rall f) ((2 ^ f.ts.length - 1) ^^^ ((2 ^ f.ts.length - 1) &&& b))) (2 ^ f.ts.length - 1 + 1) 0 (M.bits (2 ^ f.ts.length - 1))).1
  rw [← M.leave_same h] at h1
  have hall : M.can (M.rall f) ((2 ^ f.ts.length - 1) ^^^ ((2 ^ f.ts.length - 1) &&& (2 ^ f.ts.length - 1))) = true := by
    rw [Nat.and_self, Nat.xor_self]; exact M.can_zero h
  rcases h1 with h1 | ⟨c, _, h5, h6, h7⟩
  · exact ⟨_, by omega, (spare_iff h (by omega)).1 hall, h1⟩
  · exact ⟨c, by omega, (spare_iff h (by omega)).1 h6, h7⟩

theorem more_table : ((List.range 5).all fun n => ((List.range (2 ^ n)).all fun c => decide ((M.bits (c + 2 ^ n)).length = (M.bits c).length + 1) && (decide ((c + 2 ^ n) / 2 ^ n % 2 = 1) && (List.range n).all fun j => decide ((c + 2 ^ n) / 2 ^ j % 2 = c / 2 ^ j % 2))) && (List.range (2 ^ (n + 1))).all fun d => decide ((M.bits (d % 2 ^ n)).length ≤ (M.bits d).length) && (List.range n).all fun j => decide (d % 2 ^ n / 2 ^ j % 2 = d / 2 ^ j % 2)) = true := by decide +kernel

/-- One more tally: as many are left out, or one more. -/
theorem M.leave_more {f g : M.Fl} (hf : M.check f = 0) (hg : M.check g = 0) (hr : g.rows = f.rows) (hw : g.wds = f.wds) (hl : g.lf = f.lf) {t : M.Tl} (ht : g.ts = f.ts ++ [t]) : (M.leaveBest f).length ≤ (M.leaveBest g).length ∧ (M.leaveBest g).length ≤ (M.leaveBest f).length + 1 := by
  obtain ⟨_, _, _, _, _, n5⟩ := M.check_bd hg
  have hgl : g.ts.length = f.ts.length + 1 := by rw [ht]; simp
  have hsay : ∀ l, M.Say g l ↔ M.Say f l := fun l => by unfold M.Say; rw [hr, hw]
  have hall : ∀ l, M.allows g l = M.allows f l := fun l => by unfold M.allows; rw [hr, hl]
  have h0 := more_table
  rw [List.all_eq_true] at h0
  have h1 := h0 f.ts.length (List.mem_range.2 (by omega))
  simp only [Bool.and_eq_true, List.all_eq_true, decide_eq_true_eq] at h1
  obtain ⟨ta, tb⟩ := h1
  constructor
  · obtain ⟨d, hd, ⟨l, s1, s2, s3⟩, he⟩ := M.leave_spare hg
    rw [hgl] at hd
    obtain ⟨b1, b2⟩ := tb d (List.mem_range.2 hd)
    have hsp : M.Spare f (d % 2 ^ f.ts.length) := by
      refine ⟨l, (hsay l).1 s1, by rw [← hall]; exact s2, fun j u hu hj => ?_⟩
      obtain ⟨h4, _⟩ := List.getElem?_eq_some_iff.1 hu
      rw [b2 j (List.mem_range.2 h4)] at hj
      exact s3 j u (by rw [ht, List.getElem?_append_left h4]; exact hu) hj
    have := M.leave_least hf (Nat.mod_lt _ (Nat.pow_pos (by omega))) hsp
    rw [he]
    omega
  · obtain ⟨c, hc, ⟨l, s1, s2, s3⟩, he⟩ := M.leave_spare hf
    obtain ⟨a1, a2, a3⟩ := ta c (List.mem_range.2 hc)
    have hsp : M.Spare g (c + 2 ^ f.ts.length) := by
      refine ⟨l, (hsay l).2 s1, by rw [hall]; exact s2, fun j u hu hj => ?_⟩
      rw [ht] at hu
      rcases Nat.lt_or_ge j f.ts.length with h4 | h4
      · rw [List.getElem?_append_left h4] at hu
        rw [a3 j (List.mem_range.2 h4)] at hj
        exact s3 j u hu hj
      · have h5 : j = f.ts.length := by
          obtain ⟨h6, _⟩ := List.getElem?_eq_some_iff.1 hu
          rw [List.length_append] at h6
          simp at h6
          omega
        rw [h5] at hj
        omega
    have := M.leave_least hg (by rw [hgl, Nat.pow_succ]; omega) hsp
    rw [he]
    omega

end Go.Proofs.Ytcecmphdmpeibaa
