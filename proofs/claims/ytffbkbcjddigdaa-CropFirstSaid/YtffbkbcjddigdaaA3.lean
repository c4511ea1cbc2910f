import Derived.Test.YtffbkbcjddigdaaA2
set_option linter.unusedSimpArgs false
set_option linter.unusedVariables false
namespace Go.Proofs.Ytffbkbcjddigdaa
open Go.RowKit

set_option maxRecDepth 100000 in
set_option maxHeartbeats 1000000 in
theorem isPlan_c (f : M.Cf) (Ag Aw Ab Ac Al : Option Addr) (ng cg nw cw nb cb nc cc nl cl : Nat) (hb : f.base.length = nb) (hnb : nb ≤ 1099511627776) (A : Option Addr) (n c : Nat) (xs : List Int) (w : World) (hs : Sl ics 1 w w.heap.size A n c xs) :
    Calls Try.prog 54 #[.agg #[.int .i64 f.last, .slice Ag ng cg, .slice Aw nw cw, .slice Ab nb cb, .slice Ac nc cc, .int .i64 f.ripe, .int .i64 f.late, .int .i64 f.trod, .slice Al nl cl], .slice A n c] w fun e w' => e = .returned (.bool (M.isPlan f xs)) ∧ Ev w w' := by
  have hln := hs.len
  have hri := fun W (hE : Ev w W) => rises_c A n c xs W (hs.ev hE)
  have haw := fun W (hE : Ev w W) => allWeek_c f Ag Aw Ab Ac Al ng cg nw cw nb cb nc cc nl cl A n c xs W (hs.ev hE)
  have HD := hid (show M.isPlan f xs = (decide (n ≤ nb) && (M.rises xs && xs.all (M.hasWeek f))) by unfold M.isPlan; rw [hln, hb])
  generalize M.rises xs = a at hri HD
  generalize xs.all (M.hasWeek f) = b at haw HD
  have HRI := hid hri
  have HAW := hid haw
  have hsm := hs.small
  clear hri haw hs hln hb
  by_cases h : n ≤ nb
  · have h1 : (n : Int) ≤ nb := by omega
    rw [decide_eq_true h] at HD
    clear h
    cases a
    · go_enter Try.func54, Try.ntmps54
      go_wp2_with (go_at_call 84; with_reducible refine (HRI.out _ (Ev.alloc (Ev.refl _) _)).mono ?_; rintro e w1 ⟨rfl, hb1⟩)
      go_ret
      exact ⟨ret_bool HD.out.symm, Ev.trans (Ev.alloc (Ev.refl _) _) hb1⟩
    · go_enter Try.func54, Try.ntmps54
      go_wp2_with (first | (go_at_call 84; with_reducible refine (HRI.out _ (Ev.alloc (Ev.refl _) _)).mono ?_; rintro e w1 ⟨rfl, hb1⟩; obtain ⟨y0, y1, y2, y3, y4, y5, y6, y7, y8⟩ := cells9 (hb1.heap (alloc1 w (.cells #[.int .i64 f.last, .slice Ag ng cg, .slice Aw nw cw, .slice Ab nb cb, .slice Ac nc cc, .int .i64 f.ripe, .int .i64 f.late, .int .i64 f.trod, .slice Al nl cl] 38)).1); have hE1 : Ev w w1 := Ev.trans (Ev.alloc (Ev.refl _) _) hb1) | (go_at_call 85; with_reducible refine (HAW.out _ hE1).mono ?_; rintro e w2 ⟨rfl, hb2⟩))
      go_ret
      exact ⟨ret_bool HD.out.symm, hE1.trans hb2⟩
  · have h1 : ¬ ((n : Int) ≤ nb) := by omega
    have h2 : (nb : Int) < n := by omega
    rw [decide_eq_false h] at HD
    clear h
    go_enter Try.func54, Try.ntmps54
    go_wp2
    go_ret
    exact ⟨ret_bool HD.out.symm, Ev.alloc (Ev.refl _) _⟩

set_option maxRecDepth 100000 in
set_option maxHeartbeats 1000000 in
theorem validCare_c (f : M.Cf) (Ag Aw Ab Ac Al : Option Addr) (ng cg nw cw nb cb nc cc nl cl : Nat) (w : World) :
    Calls Try.prog 93 #[.agg #[.int .i64 f.last, .slice Ag ng cg, .slice Aw nw cw, .slice Ab nb cb, .slice Ac nc cc, .int .i64 f.ripe, .int .i64 f.late, .int .i64 f.trod, .slice Al nl cl]] w fun e w' => e = .returned (.bool (M.validCare f)) ∧ Ev w w' := by
  have h1 : ∀ W, Calls Try.prog 83 #[.agg #[.int .i64 1, .int .i64 10], .int .i64 f.ripe] W fun e w' => e = .returned (.bool (M.holds ⟨1, 10⟩ f.ripe)) ∧ Ev W w' := fun W => holds_e ⟨1, 10⟩ f.ripe W
  have h2 : ∀ W, Calls Try.prog 83 #[.agg #[.int .i64 0, .int .i64 50], .int .i64 f.late] W fun e w' => e = .returned (.bool (M.holds ⟨0, 50⟩ f.late)) ∧ Ev W w' := fun W => holds_e ⟨0, 50⟩ f.late W
  have h3 : ∀ W, Calls Try.prog 83 #[.agg #[.int .i64 0, .int .i64 100], .int .i64 f.trod] W fun e w' => e = .returned (.bool (M.holds ⟨0, 100⟩ f.trod)) ∧ Ev W w' := fun W => holds_e ⟨0, 100⟩ f.trod W
  have HD := hid (show M.validCare f = (M.holds ⟨1, 10⟩ f.ripe && (M.holds ⟨0, 50⟩ f.late && M.holds ⟨0, 100⟩ f.trod)) from rfl)
  generalize M.holds ⟨1, 10⟩ f.ripe = a at h1 HD
  generalize M.holds ⟨0, 50⟩ f.late = b at h2 HD
  generalize M.holds ⟨0, 100⟩ f.trod = c at h3 HD
  have H1 := hid h1
  have H2 := hid h2
  have H3 := hid h3
  clear h1 h2 h3
  cases a <;> cases b
  all_goals (
    go_enter Try.func93, Try.ntmps93
    go_wp2_with (first | (go_at_call 83; with_reducible refine (H1.out _).mono ?_; rintro e w1 ⟨rfl, hb1⟩; have hE1 : Ev w w1 := Ev.trans (Ev.alloc (Ev.refl _) _) hb1; have hG : Ev w w1 := hE1; obtain ⟨y0, y1, y2, y3, y4, y5, y6, y7, y8⟩ := cells9 (hb1.heap (alloc1 w (.cells #[.int .i64 f.last, .slice Ag ng cg, .slice Aw nw cw, .slice Ab nb cb, .slice Ac nc cc, .int .i64 f.ripe, .int .i64 f.late, .int .i64 f.trod, .slice Al nl cl] 38)).1); have HQ := hid (hb1.heap (alloc1 w (.cells #[.int .i64 f.last, .slice Ag ng cg, .slice Aw nw cw, .slice Ab nb cb, .slice Ac nc cc, .int .i64 f.ripe, .int .i64 f.late, .int .i64 f.trod, .slice Al nl cl] 38)).1)) | (go_at_call 83; with_reducible refine (H2.out _).mono ?_; rintro e w2 ⟨rfl, hb2⟩; replace hG := hG.trans hb2; clear y0 y1 y2 y3 y4 y5 y6 y7 y8; obtain ⟨y0, y1, y2, y3, y4, y5, y6, y7, y8⟩ := cells9 (hb2.heap HQ.out)) | (go_at_call 83; with_reducible refine (H3.out _).mono ?_; rintro e w3 ⟨rfl, hb3⟩; replace hG := hG.trans hb3))
    go_ret
    exact ⟨ret_bool HD.out.symm, hG⟩)

theorem isNaN_c (x : Int) (w : World) : Calls Try.prog 121 #[.int .i64 x] w fun e w' => e = .returned (.bool false) ∧ w' = w := by
  go_enter Try.func121, Try.ntmps121
  go_wp2
  go_ret
  exact ⟨rfl, rfl⟩

/-- What cmp.Compare says. -/
def M.cmp (x y : Int) : Int := if x < y then -1 else if y < x then 1 else 0
theorem M.cmp_neg (x y : Int) : (M.cmp x y < 0) ↔ x < y := by
  unfold M.cmp
  split
  · omega
  · split <;> omega
theorem compare_c (x y : Int) (w : World) : Calls Try.prog 112 #[.int .i64 x, .int .i64 y] w fun e w' => e = .returned (.int .i64 (M.cmp x y)) ∧ w' = w := by
  by_cases h : x < y
  · have h' : ¬ (y < x) := by omega
    have hc : M.cmp x y = -1 := by unfold M.cmp; rw [if_pos h]
    rw [hc]
    go_enter Try.func112, Try.ntmps112
    go_wp2_with (first | (go_at_call 121; with_reducible refine (isNaN_c _ _).mono ?_; rintro e w1 ⟨rfl, h1⟩; cases h1))
    go_ret
    exact ⟨rfl, rfl⟩
  · by_cases h2 : y < x
    · have hc : M.cmp x y = 1 := by unfold M.cmp; rw [if_neg h, if_pos h2]
      rw [hc]
      go_enter Try.func112, Try.ntmps112
      go_wp2_with (first | (go_at_call 121; with_reducible refine (isNaN_c _ _).mono ?_; rintro e w1 ⟨rfl, h1⟩; cases h1))
      go_ret
      exact ⟨rfl, rfl⟩
    · have hc : M.cmp x y = 0 := by unfold M.cmp; rw [if_neg h, if_neg h2]
      rw [hc]
      go_enter Try.func112, Try.ntmps112
      go_wp2_with (first | (go_at_call 121; with_reducible refine (isNaN_c _ _).mono ?_; rintro e w1 ⟨rfl, h1⟩; cases h1))
      go_ret
      exact ⟨rfl, rfl⟩
theorem falling_c (a b : Int) (w : World) : Calls Try.prog 111 #[.int .i64 a, .int .i64 b] w fun e w' => e = .returned (.int .i64 (M.cmp b a)) ∧ w' = w := by
  go_enter Try.func111, Try.ntmps111
  go_wp2_with (go_at_call 112; with_reducible refine (compare_c _ _ _).mono ?_; rintro e w1 ⟨rfl, h1⟩; cases h1)
  go_ret
  exact ⟨rfl, rfl⟩

/-- No number is greater than the one before it. -/
def M.falls (xs : List Int) : Bool := (List.range (xs.length - 1)).all fun j => decide (xs.getD (j + 1) 0 ≤ xs.getD j 0)
theorem M.falls_iff (xs : List Int) : M.falls xs = true ↔ ∀ j, j + 1 < xs.length → xs.getD (j + 1) 0 ≤ xs.getD j 0 := by
  unfold M.falls
  simp only [List.all_eq_true, List.mem_range, decide_eq_true_eq]
  exact ⟨fun h j hj => h j (by omega), fun h j hj => h j (by omega)⟩

set_option maxRecDepth 100000 in
set_option maxHeartbeats 1000000 in
theorem sorted_c (A : Option Addr) (n c : Nat) (xs : List Int) (w : World) (hs : Sl ics 1 w w.heap.size A n c xs) :
    Calls Try.prog 113 #[.slice A n c, .func (.func 111) #[] #[]] w fun e w' => e = .returned (.bool (M.falls xs)) ∧ Ev w w' := by
  have hsm := hs.small
  have hln := hs.len
  have s0 : IntKind.i64.wrap ((n : Int) - 1) = (n : Int) - 1 := IntWalk.i64_in _ (by omega)
  have HLN := hid hln
  clear hln
  go_enter Try.func113, Try.ntmps113
  go_wp2
  go_loopw [5] (fun i wr => ∃ k : Int, i = .int .i64 k ∧ -1 ≤ k ∧ k < n ∧ Ev w wr ∧ Hid (∀ j : Nat, k ≤ j → j + 1 < n → xs.getD (j + 1) 0 ≤ xs.getD j 0)) (fun i _ => (intOf i + 1).toNat)
  case atStart => exact ⟨(n : Int) - 1, rfl, by omega, by omega, Ev.refl _, hid (fun j h1 h2 => by omega)⟩
  case round =>
    obtain ⟨k, rfl, hk0, hk, hB, hall⟩ := hrel
    by_cases hlt : 0 < k
    · obtain ⟨q, rfl⟩ : ∃ q : Nat, k = (q : Int) := ⟨k.toNat, by omega⟩
      obtain ⟨m, hm⟩ : ∃ m : Nat, (q : Int) - 1 = (m : Int) := ⟨q - 1, by omega⟩
      have hq1 : q = m + 1 := by omega
      have hm1 : q < n := by omega
      obtain ⟨b, off, hA, hbl, hcc⟩ := hs.cells (by omega)
      subst hA
      have hx1 : xs[q]? = some (xs[q]'(by have := HLN.out; omega)) := List.getElem?_eq_getElem _
      have hx0 : xs[m]? = some (xs[m]'(by have := HLN.out; omega)) := List.getElem?_eq_getElem _
      have g1 : xs.getD q 0 = xs[q]'(by have := HLN.out; omega) := by rw [List.getD_eq_getElem?_getD, hx1]; rfl
      have g0 : xs.getD m 0 = xs[m]'(by have := HLN.out; omega) := by rw [List.getD_eq_getElem?_getD, hx0]; rfl
      have e1 := (hB.cells.1 _ _ hbl).trans (hcc q _ hx1 0 _ rfl)
      have e0 := (hB.cells.1 _ _ hbl).trans (hcc m _ hx0 0 _ rfl)
      rw [← g1] at e1
      rw [← g0] at e0
      simp only [Nat.mul_one, Nat.add_zero] at e0 e1
      have hcap := hs.cap
      have s1 : IntKind.i64.wrap ((q : Int) - 1) = m := by rw [hm]; exact IntWalk.i64_in _ (by omega)
      have hbw : b < wr.heap.size := by have := hB.size; omega
      obtain ⟨y, hy⟩ : ∃ y, xs.getD q 0 = y := ⟨_, rfl⟩
      have HQ1 := hid hq1
      have HM := hid hm
      obtain ⟨z, hz⟩ : ∃ z, xs.getD m 0 = z := ⟨_, rfl⟩
      rw [hy] at e1
      rw [hz] at e0
      have HY := hid hy
      have HZ := hid hz
      have hcn := M.cmp_neg z y
      have HFC := hid (fun W => falling_c y z W)
      generalize M.cmp z y = v at hcn HFC
      have HSE : Hid (∀ w', Ev wr w' → Ev wr w' ∧ (∀ o, w'.cell? ⟨b, o, none⟩ = wr.cell? ⟨b, o, none⟩)) := hid (fun w' h => ⟨h, fun o => h.cells.1 _ o hbw⟩)
      have hmn : m < n := by omega
      clear hy hz hx1 hx0 g1 g0 hcc hm hq1
      by_cases hv : v < 0
      · have hzy := hcn.1 hv
        clear hcn
        go_wp2_with (go_region_held3 (fun w' => Ev wr w' ∧ (∀ o, w'.cell? ⟨b, o, none⟩ = wr.cell? ⟨b, o, none⟩)) (exact HSE.out _ (by repeat (first | with_reducible exact Ev.refl wr | (with_reducible assumption) | with_reducible refine Ev.drew ?_))) (first | (go_at_call 111; ((with_reducible refine (HFC.out _).mono ?_); rintro e w1 ⟨rfl, h1⟩; cases h1))))
        go_ret
        refine ⟨ret_bool ?_, by first | exact hB | exact hB.trans (Ev.drew (Ev.refl _)) | exact hB.trans (Ev.drew (Ev.drew (Ev.refl _)))⟩
        cases hf : M.falls xs with
        | false => rfl
        | true =>
          have := (M.falls_iff xs).1 hf m (by rw [HLN.out]; have := HQ1.out; omega)
          rw [← HQ1.out, HY.out, HZ.out] at this
          omega
      · have hzy : ¬ (z < y) := fun h => hv (hcn.2 h)
        clear hcn
        go_wp2_with (go_region_held3 (fun w' => Ev wr w' ∧ (∀ o, w'.cell? ⟨b, o, none⟩ = wr.cell? ⟨b, o, none⟩)) (exact HSE.out _ (by repeat (first | with_reducible exact Ev.refl wr | (with_reducible assumption) | with_reducible refine Ev.drew ?_))) (first | (go_at_call 111; ((with_reducible refine (HFC.out _).mono ?_); rintro e w1 ⟨rfl, h1⟩; cases h1))))
        refine ⟨⟨m, by go_num, by omega, by omega, by first | exact hB | exact hB.trans (Ev.drew (Ev.refl _)), hid (fun j h1 h2 => ?_)⟩, by have := HM.out; simp [intOf]; omega⟩
        by_cases hj : j = m
        · subst hj; rw [← HQ1.out, HY.out, HZ.out]; omega
        · exact hall.out j (by have := HM.out; omega) h2
    · have HF := hid (show M.falls xs = true from (M.falls_iff xs).2 (fun j hj => hall.out j (by omega) (by rw [← HLN.out]; exact hj)))
      go_wp2
      go_ret
      exact ⟨ret_bool HF.out.symm, hB⟩

end Go.Proofs.Ytffbkbcjddigdaa
