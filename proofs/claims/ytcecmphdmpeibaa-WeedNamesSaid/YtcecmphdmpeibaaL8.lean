import Derived.Test.YtcecmphdmpeibaaL7
namespace Go.Proofs.Ytcecmphdmpeibaa
open Go.RowKit

/-- What a tally of a valid field is. -/
theorem M.tally_of {f : M.Fl} (h : M.check f = 0) : ∀ t ∈ f.ts, 0 ≤ t.wd ∧ t.wd < f.wds ∧ 0 ≤ t.fr ∧ t.fr ≤ t.to ∧ t.to < f.rows ∧ 0 ≤ t.ct.lo ∧ t.ct.lo ≤ t.ct.hi ∧ t.ct.hi ≤ f.rows := by
  unfold M.check at h
  split at h
  · simp at h
  · split at h
    · simp at h
    · rename_i h1
      simp only [Bool.not_eq_false] at h1
      intro t ht
      have h2 : ∀ t ∈ f.ts, M.validTally f t = true := by
        simp only [M.valid, Bool.and_eq_true, decide_eq_true_eq, List.all_eq_true] at h1
        exact h1.2.2.2
      have := h2 t ht
      simp only [M.validTally, M.hasWd, M.hasRow, M.upTo, Bool.and_eq_true, decide_eq_true_eq] at this
      omega
theorem M.left_of {f : M.Fl} (h : M.check f = 0) : 0 ≤ f.lf.lo ∧ f.lf.lo ≤ f.lf.hi ∧ f.lf.hi ≤ f.rows := by
  unfold M.check at h
  split at h
  · simp at h
  · split at h
    · simp at h
    · rename_i h1
      simp only [Bool.not_eq_false] at h1
      simp only [M.valid, M.upTo, Bool.and_eq_true, decide_eq_true_eq] at h1
      omega
theorem M.tin_of {f : M.Fl} (h : M.check f = 0) : M.tin f := fun t ht => by
  have := M.tally_of h t ht
  omega

def M.sureE (f : M.Fl) : Int := if M.check f = 0 then (if (M.rtruths f).length = 0 then 11 else 0) else M.check f

set_option maxRecDepth 100000 in
set_option maxHeartbeats 1000000 in
theorem sure_c (f : M.Fl) (A : Option Addr) (n c : Nat) (w : World) (hs : Sl tcs 5 w w.heap.size A n c f.ts) :
    Calls Try.prog 29 #[.agg #[.int .i64 f.rows, .int .i64 f.wds, .int .i64 f.lf.lo, .int .i64 f.lf.hi, .slice A n c]] w fun e w' =>
      (if M.sureE f = 0 then ∃ B d, e = .returned (.tuple #[.slice B (M.rtruths f).length d, .int .i64 0]) ∧ LL w' B (M.rtruths f).length d (M.rtruths f) else e = .returned (.tuple #[.slice none 0 0, .int .i64 (M.sureE f)])) ∧ Ev w w' := by
  have hf := fun W (hE : Ev w W) => fault_c f A n c W (hs.ev hE)
  by_cases h0 : M.check f = 0
  · obtain ⟨r1, r7, d1, d3, _, _⟩ := M.check_bd h0
    have ht := fun W (hE : Ev w W) => Truths_c f r1 r7 d1 d3 (M.tin_of h0) A n c W (hs.ev hE)
    have hq : M.sureE f = if (M.rtruths f).length = 0 then 11 else 0 := by unfold M.sureE; rw [if_pos h0]
    rw [h0] at hf
    rw [hq]
    have HF := hid hf
    have HT := hid ht
    clear hf ht hq h0
    by_cases hl : (M.rtruths f).length = 0
    · rw [if_pos hl]
      simp only [show ¬ (11 : Int) = 0 from by decide, ↓reduceIte]
      have HL := hid hl
      clear hl
      go_enter Try.func29, Try.ntmps29
      go_wp2_with (first | (go_at_call 22; ((with_reducible refine (HF.out _ (Ev.alloc (Ev.refl _) _)).mono ?_); rintro e w1 ⟨rfl, hb1⟩; obtain ⟨q0, q1, q2, q3, q4⟩ := cells5 (hb1.heap (alloc1 w (.cells #[.int .i64 f.rows, .int .i64 f.wds, .int .i64 f.lf.lo, .int .i64 f.lf.hi, .slice A n c] 26)).1))) | (go_at_call 57; ((with_reducible refine (HT.out _ (Ev.trans (Ev.alloc (Ev.refl _) _) hb1)).mono ?_); rintro e w2 ⟨⟨B, m, d, rfl, hl2⟩, hb2⟩; obtain rfl : m = 0 := (by rw [← hl2.len]; exact HL.out))))
      go_ret2
      exact ⟨rfl, Ev.trans (Ev.trans (Ev.alloc (Ev.refl _) _) hb1) hb2⟩
    · rw [if_neg hl]
      simp only [↓reduceIte]
      have hpos : 0 < (M.rtruths f).length := by omega
      generalize hxl : (M.rtruths f).length = x at hpos
      have HXL := hid hxl
      have hne : ((x : Int) == 0) = false := by simp; omega
      clear hl hxl
      go_enter Try.func29, Try.ntmps29
      go_wp2_with (first | (go_at_call 22; ((with_reducible refine (HF.out _ (Ev.alloc (Ev.refl _) _)).mono ?_); rintro e w1 ⟨rfl, hb1⟩; obtain ⟨q0, q1, q2, q3, q4⟩ := cells5 (hb1.heap (alloc1 w (.cells #[.int .i64 f.rows, .int .i64 f.wds, .int .i64 f.lf.lo, .int .i64 f.lf.hi, .slice A n c] 26)).1))) | (go_at_call 57; ((with_reducible refine (HT.out _ (Ev.trans (Ev.alloc (Ev.refl _) _) hb1)).mono ?_); rintro e w2 ⟨⟨B, m, d, rfl, hl2⟩, hb2⟩; obtain rfl : m = x := (by rw [← hl2.len]; exact HXL.out); have HL2 := hid hl2; clear hl2)))
      go_ret2
      exact ⟨⟨B, d, rfl, HL2.out⟩, Ev.trans (Ev.trans (Ev.alloc (Ev.refl _) _) hb1) hb2⟩
  · have hq : M.sureE f = M.check f := by unfold M.sureE; rw [if_neg h0]
    rw [hq]
    simp only [if_neg h0]
    generalize hk : M.check f = k at h0 hf ⊢
    have hne : (k != 0) = true := by simpa using h0
    have HF := hid hf
    clear hf hq h0 hk
    go_enter Try.func29, Try.ntmps29
    go_wp2_with (first | (go_at_call 22; ((with_reducible refine (HF.out _ (Ev.alloc (Ev.refl _) _)).mono ?_); rintro e w1 ⟨rfl, hb1⟩)))
    go_ret2
    exact ⟨rfl, Ev.trans (Ev.alloc (Ev.refl _) _) hb1⟩

end Go.Proofs.Ytcecmphdmpeibaa
