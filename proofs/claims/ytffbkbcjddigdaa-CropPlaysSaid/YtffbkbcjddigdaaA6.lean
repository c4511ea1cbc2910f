import Derived.Test.YtffbkbcjddigdaaA5
set_option linter.unusedSimpArgs false
set_option linter.unusedVariables false
namespace Go.Proofs.Ytffbkbcjddigdaa
open Go.RowKit

set_option maxRecDepth 100000 in
set_option maxHeartbeats 4000000 in
theorem valid_c (f : M.Cf) (Ag Aw Ab Ac Al : Option Addr) (ng cg nw cw nb cb nc cc nl cl : Nat) (hl0 : -9223372036854775808 ≤ f.last) (hl1 : f.last ≤ 9) (w : World) (hs : CS w w.heap.size f Ag Aw Ab Ac Al ng cg nw cw nb cb nc cc nl cl) :
    Calls Try.prog 60 #[.agg #[.int .i64 f.last, .slice Ag ng cg, .slice Aw nw cw, .slice Ab nb cb, .slice Ac nc cc, .int .i64 f.ripe, .int .i64 f.late, .int .i64 f.trod, .slice Al nl cl]] w fun e w' => e = .returned (.bool (M.valid f)) ∧ Ev w w' := by
  have h1 := fun W (hE : Ev w W) => validWeeks_c f Ag Aw Ab Ac Al ng cg nw cw nb cb nc cc nl cl hl0 hl1 W (hs.ev hE)
  have h2 := fun W (hE : Ev w W) => validBase_c f Ag Aw Ab Ac Al ng cg nw cw nb cb nc cc nl cl W (hs.ev hE)
  have h3 := fun W (hE : Ev w W) => validCare_c f Ag Aw Ab Ac Al ng cg nw cw nb cb nc cc nl cl W
  have h4 := fun W (hE : Ev w W) => isPlan_c f Ag Aw Ab Ac Al ng cg nw cw nb cb nc cc nl cl hs.b.len hs.b.small Ac nc cc f.crops W (hs.c.ev hE)
  have h5 := fun W (hE : Ev w W) => allLook_c f Ag Aw Ab Ac Al ng cg nw cw nb cb nc cc nl cl Al nl cl f.looks W (hs.l.ev hE)
  have HD := hid (show M.valid f = (M.validWeeks f && (M.validBase f && (M.validCare f && (M.isPlan f f.crops && f.looks.all (M.validLook f))))) from rfl)
  generalize M.validWeeks f = a at h1 HD
  generalize M.validBase f = b at h2 HD
  generalize M.validCare f = c at h3 HD
  generalize M.isPlan f f.crops = d at h4 HD
  generalize f.looks.all (M.validLook f) = e at h5 HD
  have H1 := hid h1
  have H2 := hid h2
  have H3 := hid h3
  have H4 := hid h4
  have H5 := hid h5
  clear h1 h2 h3 h4 h5 hs hl0 hl1
  cases a
  · go_enter Try.func60, Try.ntmps60
    go_wp2_with (first | (go_at_call 91; with_reducible refine (H1.out _ (Ev.alloc (Ev.refl _) _)).mono ?_; rintro e w1 ⟨rfl, hb1⟩; have hG : Ev w w1 := Ev.trans (Ev.alloc (Ev.refl _) _) hb1; have HB := hid (hb1.heap (alloc1 w (.cells #[.int .i64 f.last, .slice Ag ng cg, .slice Aw nw cw, .slice Ab nb cb, .slice Ac nc cc, .int .i64 f.ripe, .int .i64 f.late, .int .i64 f.trod, .slice Al nl cl] 38)).1); obtain ⟨y0, y1, y2, y3, y4, y5, y6, y7, y8⟩ := cells9 HB.out) | (go_at_call 92; with_reducible refine (H2.out _ hG).mono ?_; rintro e w2 ⟨rfl, hb2⟩; replace hG := hG.trans hb2; replace HB := hid (hb2.heap HB.out); clear y0 y1 y2 y3 y4 y5 y6 y7 y8; obtain ⟨y0, y1, y2, y3, y4, y5, y6, y7, y8⟩ := cells9 HB.out) | (go_at_call 93; with_reducible refine (H3.out _ hG).mono ?_; rintro e w3 ⟨rfl, hb3⟩; replace hG := hG.trans hb3; replace HB := hid (hb3.heap HB.out); clear y0 y1 y2 y3 y4 y5 y6 y7 y8; obtain ⟨y0, y1, y2, y3, y4, y5, y6, y7, y8⟩ := cells9 HB.out) | (go_at_call 54; with_reducible refine (H4.out _ hG).mono ?_; rintro e w4 ⟨rfl, hb4⟩; replace hG := hG.trans hb4; replace HB := hid (hb4.heap HB.out); clear y0 y1 y2 y3 y4 y5 y6 y7 y8; obtain ⟨y0, y1, y2, y3, y4, y5, y6, y7, y8⟩ := cells9 HB.out) | (go_at_call 89; with_reducible refine (H5.out _ hG).mono ?_; rintro e w5 ⟨rfl, hb5⟩; replace hG := hG.trans hb5; replace HB := hid (hb5.heap HB.out); clear y0 y1 y2 y3 y4 y5 y6 y7 y8; obtain ⟨y0, y1, y2, y3, y4, y5, y6, y7, y8⟩ := cells9 HB.out))
    go_ret
    exact ⟨ret_bool HD.out.symm, hG⟩
  · cases b
    · go_enter Try.func60, Try.ntmps60
      go_wp2_with (first | (go_at_call 91; with_reducible refine (H1.out _ (Ev.alloc (Ev.refl _) _)).mono ?_; rintro e w1 ⟨rfl, hb1⟩; have hG : Ev w w1 := Ev.trans (Ev.alloc (Ev.refl _) _) hb1; have HB := hid (hb1.heap (alloc1 w (.cells #[.int .i64 f.last, .slice Ag ng cg, .slice Aw nw cw, .slice Ab nb cb, .slice Ac nc cc, .int .i64 f.ripe, .int .i64 f.late, .int .i64 f.trod, .slice Al nl cl] 38)).1); obtain ⟨y0, y1, y2, y3, y4, y5, y6, y7, y8⟩ := cells9 HB.out) | (go_at_call 92; with_reducible refine (H2.out _ hG).mono ?_; rintro e w2 ⟨rfl, hb2⟩; replace hG := hG.trans hb2; replace HB := hid (hb2.heap HB.out); clear y0 y1 y2 y3 y4 y5 y6 y7 y8; obtain ⟨y0, y1, y2, y3, y4, y5, y6, y7, y8⟩ := cells9 HB.out) | (go_at_call 93; with_reducible refine (H3.out _ hG).mono ?_; rintro e w3 ⟨rfl, hb3⟩; replace hG := hG.trans hb3; replace HB := hid (hb3.heap HB.out); clear y0 y1 y2 y3 y4 y5 y6 y7 y8; obtain ⟨y0, y1, y2, y3, y4, y5, y6, y7, y8⟩ := cells9 HB.out) | (go_at_call 54; with_reducible refine (H4.out _ hG).mono ?_; rintro e w4 ⟨rfl, hb4⟩; replace hG := hG.trans hb4; replace HB := hid (hb4.heap HB.out); clear y0 y1 y2 y3 y4 y5 y6 y7 y8; obtain ⟨y0, y1, y2, y3, y4, y5, y6, y7, y8⟩ := cells9 HB.out) | (go_at_call 89; with_reducible refine (H5.out _ hG).mono ?_; rintro e w5 ⟨rfl, hb5⟩; replace hG := hG.trans hb5; replace HB := hid (hb5.heap HB.out); clear y0 y1 y2 y3 y4 y5 y6 y7 y8; obtain ⟨y0, y1, y2, y3, y4, y5, y6, y7, y8⟩ := cells9 HB.out))
      go_ret
      exact ⟨ret_bool HD.out.symm, hG⟩
    · cases c
      · go_enter Try.func60, Try.ntmps60
        go_wp2_with (first | (go_at_call 91; with_reducible refine (H1.out _ (Ev.alloc (Ev.refl _) _)).mono ?_; rintro e w1 ⟨rfl, hb1⟩; have hG : Ev w w1 := Ev.trans (Ev.alloc (Ev.refl _) _) hb1; have HB := hid (hb1.heap (alloc1 w (.cells #[.int .i64 f.last, .slice Ag ng cg, .slice Aw nw cw, .slice Ab nb cb, .slice Ac nc cc, .int .i64 f.ripe, .int .i64 f.late, .int .i64 f.trod, .slice Al nl cl] 38)).1); obtain ⟨y0, y1, y2, y3, y4, y5, y6, y7, y8⟩ := cells9 HB.out) | (go_at_call 92; with_reducible refine (H2.out _ hG).mono ?_; rintro e w2 ⟨rfl, hb2⟩; replace hG := hG.trans hb2; replace HB := hid (hb2.heap HB.out); clear y0 y1 y2 y3 y4 y5 y6 y7 y8; obtain ⟨y0, y1, y2, y3, y4, y5, y6, y7, y8⟩ := cells9 HB.out) | (go_at_call 93; with_reducible refine (H3.out _ hG).mono ?_; rintro e w3 ⟨rfl, hb3⟩; replace hG := hG.trans hb3; replace HB := hid (hb3.heap HB.out); clear y0 y1 y2 y3 y4 y5 y6 y7 y8; obtain ⟨y0, y1, y2, y3, y4, y5, y6, y7, y8⟩ := cells9 HB.out) | (go_at_call 54; with_reducible refine (H4.out _ hG).mono ?_; rintro e w4 ⟨rfl, hb4⟩; replace hG := hG.trans hb4; replace HB := hid (hb4.heap HB.out); clear y0 y1 y2 y3 y4 y5 y6 y7 y8; obtain ⟨y0, y1, y2, y3, y4, y5, y6, y7, y8⟩ := cells9 HB.out) | (go_at_call 89; with_reducible refine (H5.out _ hG).mono ?_; rintro e w5 ⟨rfl, hb5⟩; replace hG := hG.trans hb5; replace HB := hid (hb5.heap HB.out); clear y0 y1 y2 y3 y4 y5 y6 y7 y8; obtain ⟨y0, y1, y2, y3, y4, y5, y6, y7, y8⟩ := cells9 HB.out))
        go_ret
        exact ⟨ret_bool HD.out.symm, hG⟩
      · cases d
        all_goals (
          go_enter Try.func60, Try.ntmps60
          go_wp2_with (first | (go_at_call 91; with_reducible refine (H1.out _ (Ev.alloc (Ev.refl _) _)).mono ?_; rintro e w1 ⟨rfl, hb1⟩; have hG : Ev w w1 := Ev.trans (Ev.alloc (Ev.refl _) _) hb1; have HB := hid (hb1.heap (alloc1 w (.cells #[.int .i64 f.last, .slice Ag ng cg, .slice Aw nw cw, .slice Ab nb cb, .slice Ac nc cc, .int .i64 f.ripe, .int .i64 f.late, .int .i64 f.trod, .slice Al nl cl] 38)).1); obtain ⟨y0, y1, y2, y3, y4, y5, y6, y7, y8⟩ := cells9 HB.out) | (go_at_call 92; with_reducible refine (H2.out _ hG).mono ?_; rintro e w2 ⟨rfl, hb2⟩; replace hG := hG.trans hb2; replace HB := hid (hb2.heap HB.out); clear y0 y1 y2 y3 y4 y5 y6 y7 y8; obtain ⟨y0, y1, y2, y3, y4, y5, y6, y7, y8⟩ := cells9 HB.out) | (go_at_call 93; with_reducible refine (H3.out _ hG).mono ?_; rintro e w3 ⟨rfl, hb3⟩; replace hG := hG.trans hb3; replace HB := hid (hb3.heap HB.out); clear y0 y1 y2 y3 y4 y5 y6 y7 y8; obtain ⟨y0, y1, y2, y3, y4, y5, y6, y7, y8⟩ := cells9 HB.out) | (go_at_call 54; with_reducible refine (H4.out _ hG).mono ?_; rintro e w4 ⟨rfl, hb4⟩; replace hG := hG.trans hb4; replace HB := hid (hb4.heap HB.out); clear y0 y1 y2 y3 y4 y5 y6 y7 y8; obtain ⟨y0, y1, y2, y3, y4, y5, y6, y7, y8⟩ := cells9 HB.out) | (go_at_call 89; with_reducible refine (H5.out _ hG).mono ?_; rintro e w5 ⟨rfl, hb5⟩; replace hG := hG.trans hb5; replace HB := hid (hb5.heap HB.out); clear y0 y1 y2 y3 y4 y5 y6 y7 y8; obtain ⟨y0, y1, y2, y3, y4, y5, y6, y7, y8⟩ := cells9 HB.out))
          go_ret
          exact ⟨ret_bool HD.out.symm, hG⟩)

theorem M.valid_parts {f : M.Cf} (h : M.valid f = true) : 0 ≤ f.last ∧ (f.gr.length : Int) = f.last + 1 ∧ (∀ r ∈ f.gr, M.isGrowth r = true) ∧ (f.wet.length : Int) = f.last + 1 ∧ (∀ s ∈ f.wet, 0 ≤ s ∧ s ≤ 2) ∧ 1 ≤ f.base.length ∧ (∀ s ∈ f.base, 0 ≤ s ∧ s ≤ 200) ∧ M.falls f.base = true ∧ (1 ≤ f.ripe ∧ f.ripe ≤ 10) ∧ (0 ≤ f.late ∧ f.late ≤ 50) ∧ (0 ≤ f.trod ∧ f.trod ≤ 100) ∧ M.isPlan f f.crops = true ∧ ∀ l ∈ f.looks, M.validLook f l = true := by
  unfold M.valid M.validWeeks M.validBase M.validCare M.holds at h
  simp only [Bool.and_eq_true, decide_eq_true_eq, List.all_eq_true] at h
  obtain ⟨⟨a1, a2, a3, a4, a5⟩, ⟨b1, b2, b3⟩, ⟨c1, c2, c3⟩, d1, e1⟩ := h
  exact ⟨a1, a2, a3, a4, a5, b1, b2, b3, c1, c2, c3, d1, e1⟩
theorem M.ranges_bd {f : M.Cf} (h : M.valid f = true) : ∀ r ∈ M.ranges f, 0 ≤ r.lo ∧ r.lo ≤ r.hi ∧ r.hi ≤ 50 := by
  obtain ⟨_, _, a3, _, a5, _⟩ := M.valid_parts h
  intro r hr
  rcases List.mem_append.1 hr with hr | hr
  · have := a3 r hr
    unfold M.isGrowth M.upTo at this
    simp only [Bool.and_eq_true, decide_eq_true_eq] at this
    omega
  · obtain ⟨s, hs, rfl⟩ := List.mem_map.1 hr
    have := a5 s hs
    unfold M.wr
    split
    · simp
    · simp; omega

set_option maxRecDepth 100000 in
set_option maxHeartbeats 4000000 in
theorem check_c (f : M.Cf) (Ag Aw Ab Ac Al : Option Addr) (ng cg nw cw nb cb nc cc nl cl : Nat) (hl0 : -9223372036854775808 ≤ f.last) (w : World) (hs : CS w w.heap.size f Ag Aw Ab Ac Al ng cg nw cw nb cb nc cc nl cl) :
    Calls Try.prog 21 #[.agg #[.int .i64 f.last, .slice Ag ng cg, .slice Aw nw cw, .slice Ab nb cb, .slice Ac nc cc, .int .i64 f.ripe, .int .i64 f.late, .int .i64 f.trod, .slice Al nl cl]] w fun e w' => e = .returned (.int .i64 (M.check f)) ∧ Ev w w' := by
  have hlb := hs.b.len
  have hll := hs.l.len
  have hbs := hs.b.small
  have hls := hs.l.small
  by_cases q1 : 9 < f.last
  · have HD := hid (show M.check f = 3 by unfold M.check; rw [if_pos (.inl q1)])
    have q1' : f.last > 9 := q1
    clear hs
    go_enter Try.func21, Try.ntmps21
    go_wp2
    go_ret
    exact ⟨by rw [HD.out]; rfl, Ev.alloc (Ev.refl _) _⟩
  · by_cases q2 : 3 < nb
    · have HD := hid (show M.check f = 3 by unfold M.check; rw [if_pos (.inr (.inl (by omega)))])
      have q1' : ¬ (f.last > 9) := q1
      have q1'' : f.last ≤ 9 := by omega
      have q2' : (3 : Int) < nb := by omega
      have q2'' : (nb : Int) > 3 := by omega
      clear hs hlb hll
      go_enter Try.func21, Try.ntmps21
      go_wp2
      go_ret
      exact ⟨by rw [HD.out]; rfl, Ev.alloc (Ev.refl _) _⟩
    · by_cases q3 : 5 < nl
      · have HD := hid (show M.check f = 3 by unfold M.check; rw [if_pos (.inr (.inr (by omega)))])
        have q1' : ¬ (f.last > 9) := q1
        have q1'' : f.last ≤ 9 := by omega
        have q2' : ¬ ((3 : Int) < nb) := by omega
        have q2'' : ¬ ((nb : Int) > 3) := by omega
        have q3' : (5 : Int) < nl := by omega
        have q3'' : (nl : Int) > 5 := by omega
        clear hs hlb hll
        go_enter Try.func21, Try.ntmps21
        go_wp2
        go_ret
        exact ⟨by rw [HD.out]; rfl, Ev.alloc (Ev.refl _) _⟩
      · have HD := hid (show M.check f = if M.valid f = false then 1 else if M.tooMany (M.ranges f) 1 then 3 else 0 by unfold M.check; rw [if_neg (by omega)])
        have h1 := fun W (hE : Ev w W) => valid_c f Ag Aw Ab Ac Al ng cg nw cw nb cb nc cc nl cl hl0 (by omega) W (hs.ev hE)
        have h2 := fun (hv : M.valid f = true) W (hE : Ev w W) => hasTooMany_c f Ag Aw Ab Ac Al ng cg nw cw nb cb nc cc nl cl (by have := M.valid_parts hv; have := hs.g.len; omega) (by have := M.valid_parts hv; have := hs.w_.len; omega) (M.ranges_bd hv) W (hs.ev hE)
        generalize M.tooMany (M.ranges f) 1 = t at h2 HD
        generalize M.valid f = v at h1 h2 HD
        have q1' : ¬ (f.last > 9) := q1
        have q1'' : f.last ≤ 9 := by omega
        have q2' : ¬ ((3 : Int) < nb) := by omega
        have q2'' : ¬ ((nb : Int) > 3) := by omega
        have q3' : ¬ ((5 : Int) < nl) := by omega
        have q3'' : ¬ ((nl : Int) > 5) := by omega
        have H1 := hid h1
        clear h1 hs hlb hll
        cases v
        · have HE := hid (HD.out.trans (if_pos rfl))
          clear h2 HD
          go_enter Try.func21, Try.ntmps21
          go_wp2_with (first | (go_at_call 60; with_reducible refine (H1.out _ (Ev.alloc (Ev.refl _) _)).mono ?_; rintro e w1 ⟨rfl, hb1⟩; have hG : Ev w w1 := Ev.trans (Ev.alloc (Ev.refl _) _) hb1; have HB := hid (hb1.heap (alloc1 w (.cells #[.int .i64 f.last, .slice Ag ng cg, .slice Aw nw cw, .slice Ab nb cb, .slice Ac nc cc, .int .i64 f.ripe, .int .i64 f.late, .int .i64 f.trod, .slice Al nl cl] 38)).1); obtain ⟨y0, y1, y2, y3, y4, y5, y6, y7, y8⟩ := cells9 HB.out))
          go_ret
          exact ⟨by rw [HE.out]; rfl, hG⟩
        · have HE := hid (HD.out.trans (if_neg (by decide)))
          have H2 := hid (h2 rfl)
          clear h2 HD
          cases t
          all_goals (
            go_enter Try.func21, Try.ntmps21
            go_wp2_with (first | (go_at_call 60; with_reducible refine (H1.out _ (Ev.alloc (Ev.refl _) _)).mono ?_; rintro e w1 ⟨rfl, hb1⟩; have hG : Ev w w1 := Ev.trans (Ev.alloc (Ev.refl _) _) hb1; have HB := hid (hb1.heap (alloc1 w (.cells #[.int .i64 f.last, .slice Ag ng cg, .slice Aw nw cw, .slice Ab nb cb, .slice Ac nc cc, .int .i64 f.ripe, .int .i64 f.late, .int .i64 f.trod, .slice Al nl cl] 38)).1); obtain ⟨y0, y1, y2, y3, y4, y5, y6, y7, y8⟩ := cells9 HB.out) | (go_at_call 61; with_reducible refine (H2.out _ hG).mono ?_; rintro e w2 ⟨rfl, hb2⟩; replace hG := hG.trans hb2; replace HB := hid (hb2.heap HB.out); clear y0 y1 y2 y3 y4 y5 y6 y7 y8; obtain ⟨y0, y1, y2, y3, y4, y5, y6, y7, y8⟩ := cells9 HB.out))
            go_ret
            exact ⟨by rw [HE.out]; rfl, hG⟩)

end Go.Proofs.Ytffbkbcjddigdaa
