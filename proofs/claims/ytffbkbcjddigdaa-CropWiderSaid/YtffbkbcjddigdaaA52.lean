import Derived.Test.YtffbkbcjddigdaaA50
set_option linter.unusedSimpArgs false
set_option linter.unusedVariables false
namespace Go.Proofs.Ytffbkbcjddigdaa
open Go.RowKit Go.Shelf

theorem M.check_3 {f : M.Cf} (h : 9 < f.last ∨ 3 < f.base.length ∨ 5 < f.looks.length) : M.check f = 3 := by unfold M.check; rw [if_pos h]
theorem M.check_1 {f : M.Cf} (h : ¬ (9 < f.last ∨ 3 < f.base.length ∨ 5 < f.looks.length)) (hv : M.valid f = false) : M.check f = 1 := by unfold M.check; rw [if_neg h, if_pos hv]
theorem M.check_v {f : M.Cf} (h : ¬ (9 < f.last ∨ 3 < f.base.length ∨ 5 < f.looks.length)) (hv : M.valid f = true) : M.check f = if M.tooMany (M.ranges f) 1 then 3 else 0 := by unfold M.check; rw [if_neg h, if_neg (by rw [hv]; decide)]
theorem M.not_valid {f : M.Cf} {p : Prop} (hp : ¬ p) (h : M.valid f = true → p) : M.valid f = false := by
 cases hv : M.valid f with
 | false => rfl
 | true => exact absurd (h hv) hp
theorem M.falls_at {l : List Int} : M.falls l = true ↔ ∀ j, 0 < j → j < l.length → l.getD j 0 ≤ l.getD (j - 1) 0 := by
 unfold M.falls
 rw [List.all_eq_true]
 constructor
 ·
  intro h j h0 hj
  have := h (j - 1) (by rw [List.mem_range]; omega)
  rw [show j - 1 + 1 = j by omega] at this
  simpa using this
 ·
  intro h j hj
  rw [List.mem_range] at hj
  have := h (j + 1) (by omega) (by omega)
  simpa using this

set_option maxRecDepth 100000 in
set_option maxHeartbeats 2000000 in
theorem Fault_3 (f : M.Cf) (Ag Aw Ab Ac Al : Option Addr) (ng cg nw cw nb cb nc cc nl cl : Nat) (hl0 : -9223372036854775808 ≤ f.last) (w : World) (hs : CS w w.heap.size f Ag Aw Ab Ac Al ng cg nw cw nb cb nc cc nl cl) (h3 : 9 < f.last ∨ 3 < f.base.length ∨ 5 < f.looks.length) :
  Calls Try.prog 50 #[.agg #[.int .i64 f.last, .slice Ag ng cg, .slice Aw nw cw, .slice Ab nb cb, .slice Ac nc cc, .int .i64 f.ripe, .int .i64 f.late, .int .i64 f.trod, .slice Al nl cl]] w fun e w' => e = .returned (.int .i64 (M.check f)) ∧ Ev w w' := by
 have hlb := hs.b.len
 have hll := hs.l.len
 have hbs := hs.b.small
 have hls := hs.l.small
 by_cases q1 : 9 < f.last
 ·
  have HD := hid (M.check_3 (f := f) (.inl q1))
  have q1a : f.last > 9 := by omega
  clear hs hlb hll h3
  go_enter Try.func50, Try.ntmps50
  go_wp2_with fail
  go_ret
  exact ⟨by rw [HD.out]; rfl, Ev.alloc (Ev.refl _) _⟩
 ·
  have q1n : ¬ (f.last > 9) := by omega
  have q1m : f.last ≤ 9 := by omega
  by_cases q2 : 3 < nb
  ·
   have HD := hid (M.check_3 (f := f) (.inr (.inl (by omega))))
   have q2a : (nb : Int) > 3 := by omega
   have q2b : (3 : Int) < nb := by omega
   clear hs hlb hll h3
   go_enter Try.func50, Try.ntmps50
   go_wp2_with fail
   go_ret
   exact ⟨by rw [HD.out]; rfl, Ev.alloc (Ev.refl _) _⟩
  ·
   have q2n : ¬ ((nb : Int) > 3) := by omega
   have q2m : ¬ ((3 : Int) < nb) := by omega
   by_cases q3 : 5 < nl
   ·
    have HD := hid (M.check_3 (f := f) (.inr (.inr (by omega))))
    have q3a : (nl : Int) > 5 := by omega
    have q3b : (5 : Int) < nl := by omega
    clear hs hlb hll h3
    go_enter Try.func50, Try.ntmps50
    go_wp2_with fail
    go_ret
    exact ⟨by rw [HD.out]; rfl, Ev.alloc (Ev.refl _) _⟩
   ·
    have q3n : ¬ ((nl : Int) > 5) := by omega
    have q3m : ¬ ((5 : Int) < nl) := by omega
    exfalso; rw [hlb, hll] at h3; omega

set_option maxRecDepth 100000 in
set_option maxHeartbeats 4000000 in
theorem Fault_1 (f : M.Cf) (Ag Aw Ab Ac Al : Option Addr) (ng cg nw cw nb cb nc cc nl cl : Nat) (hl0 : -9223372036854775808 ≤ f.last) (w : World) (hs : CS w w.heap.size f Ag Aw Ab Ac Al ng cg nw cw nb cb nc cc nl cl) (h3 : ¬ (9 < f.last ∨ 3 < f.base.length ∨ 5 < f.looks.length)) (hbad : ¬ (0 ≤ f.last ∧ (ng : Int) = f.last + 1 ∧ (nw : Int) = f.last + 1 ∧ nb ≠ 0 ∧ M.isIn f.ripe 1 10 = true ∧ M.isIn f.late 0 50 = true ∧ M.isIn f.trod 0 100 = true ∧ M.isPlan f f.crops = true)) :
  Calls Try.prog 50 #[.agg #[.int .i64 f.last, .slice Ag ng cg, .slice Aw nw cw, .slice Ab nb cb, .slice Ac nc cc, .int .i64 f.ripe, .int .i64 f.late, .int .i64 f.trod, .slice Al nl cl]] w fun e w' => e = .returned (.int .i64 (M.check f)) ∧ Ev w w' := by
 have hlb := hs.b.len
 have hll := hs.l.len
 have hbs := hs.b.small
 have hls := hs.l.small
 have h3' := h3
 rw [hlb, hll] at h3'
 have q1n : ¬ (f.last > 9) := by omega
 have q1m : f.last ≤ 9 := by omega
 have q2n : ¬ ((nb : Int) > 3) := by omega
 have q2m : ¬ ((3 : Int) < nb) := by omega
 have q3n : ¬ ((nl : Int) > 5) := by omega
 have q3m : ¬ ((5 : Int) < nl) := by omega
 by_cases q4 : f.last < 0
 ·
  have HD := hid (M.check_1 h3 (M.not_valid (p := ¬ (f.last < 0)) (by simpa using q4) (fun hv => by have := (M.valid_parts hv).1; omega)))
  clear hs hlb hll h3 h3' hbad
  go_enter Try.func50, Try.ntmps50
  go_wp2_with (first | (go_at_call 45; with_reducible refine (HI1.out _).mono ?_; rintro e _ ⟨rfl, rfl⟩) | (go_at_call 45; with_reducible refine (HI2.out _).mono ?_; rintro e _ ⟨rfl, rfl⟩) | (go_at_call 45; with_reducible refine (HI3.out _).mono ?_; rintro e _ ⟨rfl, rfl⟩) | (go_at_call 24; with_reducible refine (HIP.out _ (Ev.alloc (Ev.refl _) _)).mono ?_; rintro e w1 ⟨rfl, hb1⟩; have HB := hid (hb1.heap (alloc1 w (.cells #[.int .i64 f.last, .slice Ag ng cg, .slice Aw nw cw, .slice Ab nb cb, .slice Ac nc cc, .int .i64 f.ripe, .int .i64 f.late, .int .i64 f.trod, .slice Al nl cl] 26)).1); have hG : Ev w w1 := Ev.trans (Ev.alloc (Ev.refl _) _) hb1; obtain ⟨y0, y1, y2, y3, y4, y5, y6, y7, y8⟩ := cells9 HB.out) | (refine ⟨trivial, ?_⟩))
  go_ret
  exact ⟨by rw [HD.out]; rfl, Ev.alloc (Ev.refl _) _⟩
 ·
  have q4n : ¬ (f.last < 0) := by omega
  have q4m : 0 ≤ f.last := by omega
  have gw : IntKind.i64.wrap (f.last + 1) = f.last + 1 := IntWalk.i64_in _ (by omega)
  clear q4
  by_cases q4 : ¬ ((ng : Int) = f.last + 1)
  ·
   have HD := hid (M.check_1 h3 (M.not_valid (p := (ng : Int) = f.last + 1) (by simpa using q4) (fun hv => by have := (M.valid_parts hv).2.1; have := hs.g.len; omega)))
   have q5a : ((ng : Int) != f.last + 1) = true := by simpa using q4
   clear hs hlb hll h3 h3' hbad
   go_enter Try.func50, Try.ntmps50
   go_wp2_with (first | (go_at_call 45; with_reducible refine (HI1.out _).mono ?_; rintro e _ ⟨rfl, rfl⟩) | (go_at_call 45; with_reducible refine (HI2.out _).mono ?_; rintro e _ ⟨rfl, rfl⟩) | (go_at_call 45; with_reducible refine (HI3.out _).mono ?_; rintro e _ ⟨rfl, rfl⟩) | (go_at_call 24; with_reducible refine (HIP.out _ (Ev.alloc (Ev.refl _) _)).mono ?_; rintro e w1 ⟨rfl, hb1⟩; have HB := hid (hb1.heap (alloc1 w (.cells #[.int .i64 f.last, .slice Ag ng cg, .slice Aw nw cw, .slice Ab nb cb, .slice Ac nc cc, .int .i64 f.ripe, .int .i64 f.late, .int .i64 f.trod, .slice Al nl cl] 26)).1); have hG : Ev w w1 := Ev.trans (Ev.alloc (Ev.refl _) _) hb1; obtain ⟨y0, y1, y2, y3, y4, y5, y6, y7, y8⟩ := cells9 HB.out) | (refine ⟨trivial, ?_⟩))
   go_ret
   exact ⟨by rw [HD.out]; rfl, Ev.alloc (Ev.refl _) _⟩
  ·
   have q5n : ((ng : Int) != f.last + 1) = false := by simpa using q4
   have e1 : (ng : Int) = f.last + 1 := by simpa using q4
   clear q4
   have E1 := hid e1
   clear e1
   by_cases q4 : ¬ ((nw : Int) = f.last + 1)
   ·
    have HD := hid (M.check_1 h3 (M.not_valid (p := (nw : Int) = f.last + 1) (by simpa using q4) (fun hv => by have := (M.valid_parts hv).2.2.2.1; have := hs.w_.len; omega)))
    have q6a : ((nw : Int) != f.last + 1) = true := by simpa using q4
    clear hs hlb hll h3 h3' hbad
    go_enter Try.func50, Try.ntmps50
    go_wp2_with (first | (go_at_call 45; with_reducible refine (HI1.out _).mono ?_; rintro e _ ⟨rfl, rfl⟩) | (go_at_call 45; with_reducible refine (HI2.out _).mono ?_; rintro e _ ⟨rfl, rfl⟩) | (go_at_call 45; with_reducible refine (HI3.out _).mono ?_; rintro e _ ⟨rfl, rfl⟩) | (go_at_call 24; with_reducible refine (HIP.out _ (Ev.alloc (Ev.refl _) _)).mono ?_; rintro e w1 ⟨rfl, hb1⟩; have HB := hid (hb1.heap (alloc1 w (.cells #[.int .i64 f.last, .slice Ag ng cg, .slice Aw nw cw, .slice Ab nb cb, .slice Ac nc cc, .int .i64 f.ripe, .int .i64 f.late, .int .i64 f.trod, .slice Al nl cl] 26)).1); have hG : Ev w w1 := Ev.trans (Ev.alloc (Ev.refl _) _) hb1; obtain ⟨y0, y1, y2, y3, y4, y5, y6, y7, y8⟩ := cells9 HB.out) | (refine ⟨trivial, ?_⟩))
    go_ret
    exact ⟨by rw [HD.out]; rfl, Ev.alloc (Ev.refl _) _⟩
   ·
    have q6n : ((nw : Int) != f.last + 1) = false := by simpa using q4
    have e2 : (nw : Int) = f.last + 1 := by simpa using q4
    clear q4
    have E2 := hid e2
    clear e2
    by_cases q4 : nb = 0
    ·
     have HD := hid (M.check_1 h3 (M.not_valid (p := ¬ (nb = 0)) (by simpa using q4) (fun hv => by have := (M.valid_parts hv).2.2.2.2.2.1; omega)))
     have q7a : ((nb : Int) == 0) = true := by simp; omega
     clear hs hlb hll h3 h3' hbad
     go_enter Try.func50, Try.ntmps50
     go_wp2_with (first | (go_at_call 45; with_reducible refine (HI1.out _).mono ?_; rintro e _ ⟨rfl, rfl⟩) | (go_at_call 45; with_reducible refine (HI2.out _).mono ?_; rintro e _ ⟨rfl, rfl⟩) | (go_at_call 45; with_reducible refine (HI3.out _).mono ?_; rintro e _ ⟨rfl, rfl⟩) | (go_at_call 24; with_reducible refine (HIP.out _ (Ev.alloc (Ev.refl _) _)).mono ?_; rintro e w1 ⟨rfl, hb1⟩; have HB := hid (hb1.heap (alloc1 w (.cells #[.int .i64 f.last, .slice Ag ng cg, .slice Aw nw cw, .slice Ab nb cb, .slice Ac nc cc, .int .i64 f.ripe, .int .i64 f.late, .int .i64 f.trod, .slice Al nl cl] 26)).1); have hG : Ev w w1 := Ev.trans (Ev.alloc (Ev.refl _) _) hb1; obtain ⟨y0, y1, y2, y3, y4, y5, y6, y7, y8⟩ := cells9 HB.out) | (refine ⟨trivial, ?_⟩))
     go_ret
     exact ⟨by rw [HD.out]; rfl, Ev.alloc (Ev.refl _) _⟩
    ·
     have q7n : ((nb : Int) == 0) = false := by simp; omega
     have q7 := q4
     clear q4
     by_cases q4 : M.isIn f.ripe 1 10 = false
     ·
      have HD := hid (M.check_1 h3 (M.not_valid (p := ¬ (M.isIn f.ripe 1 10 = false)) (by simpa using q4) (fun hv => by have := (M.valid_parts hv).2.2.2.2.2.2.2.2.1; unfold M.isIn; simp [this])))
      have HI1 := hid (fun W => In_s f.ripe 1 10 W)
      rw [q4] at HI1
      clear hs hlb hll h3 h3' hbad
      go_enter Try.func50, Try.ntmps50
      go_wp2_with (first | (go_at_call 45; with_reducible refine (HI1.out _).mono ?_; rintro e _ ⟨rfl, rfl⟩) | (go_at_call 45; with_reducible refine (HI2.out _).mono ?_; rintro e _ ⟨rfl, rfl⟩) | (go_at_call 45; with_reducible refine (HI3.out _).mono ?_; rintro e _ ⟨rfl, rfl⟩) | (go_at_call 24; with_reducible refine (HIP.out _ (Ev.alloc (Ev.refl _) _)).mono ?_; rintro e w1 ⟨rfl, hb1⟩; have HB := hid (hb1.heap (alloc1 w (.cells #[.int .i64 f.last, .slice Ag ng cg, .slice Aw nw cw, .slice Ab nb cb, .slice Ac nc cc, .int .i64 f.ripe, .int .i64 f.late, .int .i64 f.trod, .slice Al nl cl] 26)).1); have hG : Ev w w1 := Ev.trans (Ev.alloc (Ev.refl _) _) hb1; obtain ⟨y0, y1, y2, y3, y4, y5, y6, y7, y8⟩ := cells9 HB.out) | (refine ⟨trivial, ?_⟩))
      go_ret
      exact ⟨by rw [HD.out]; rfl, Ev.alloc (Ev.refl _) _⟩
     ·
      have q8 : M.isIn f.ripe 1 10 = true := by simpa using q4
      have HI1 := hid (fun W => In_s f.ripe 1 10 W)
      rw [q8] at HI1
      clear q4
      by_cases q4 : M.isIn f.late 0 50 = false
      ·
       have HD := hid (M.check_1 h3 (M.not_valid (p := ¬ (M.isIn f.late 0 50 = false)) (by simpa using q4) (fun hv => by have := (M.valid_parts hv).2.2.2.2.2.2.2.2.2.1; unfold M.isIn; simp [this])))
       have HI2 := hid (fun W => In_s f.late 0 50 W)
       rw [q4] at HI2
       clear hs hlb hll h3 h3' hbad
       go_enter Try.func50, Try.ntmps50
       go_wp2_with (first | (go_at_call 45; with_reducible refine (HI1.out _).mono ?_; rintro e _ ⟨rfl, rfl⟩) | (go_at_call 45; with_reducible refine (HI2.out _).mono ?_; rintro e _ ⟨rfl, rfl⟩) | (go_at_call 45; with_reducible refine (HI3.out _).mono ?_; rintro e _ ⟨rfl, rfl⟩) | (go_at_call 24; with_reducible refine (HIP.out _ (Ev.alloc (Ev.refl _) _)).mono ?_; rintro e w1 ⟨rfl, hb1⟩; have HB := hid (hb1.heap (alloc1 w (.cells #[.int .i64 f.last, .slice Ag ng cg, .slice Aw nw cw, .slice Ab nb cb, .slice Ac nc cc, .int .i64 f.ripe, .int .i64 f.late, .int .i64 f.trod, .slice Al nl cl] 26)).1); have hG : Ev w w1 := Ev.trans (Ev.alloc (Ev.refl _) _) hb1; obtain ⟨y0, y1, y2, y3, y4, y5, y6, y7, y8⟩ := cells9 HB.out) | (refine ⟨trivial, ?_⟩))
       go_ret
       exact ⟨by rw [HD.out]; rfl, Ev.alloc (Ev.refl _) _⟩
      ·
       have q9 : M.isIn f.late 0 50 = true := by simpa using q4
       have HI2 := hid (fun W => In_s f.late 0 50 W)
       rw [q9] at HI2
       clear q4
       by_cases q4 : M.isIn f.trod 0 100 = false
       ·
        have HD := hid (M.check_1 h3 (M.not_valid (p := ¬ (M.isIn f.trod 0 100 = false)) (by simpa using q4) (fun hv => by have := (M.valid_parts hv).2.2.2.2.2.2.2.2.2.2.1; unfold M.isIn; simp [this])))
        have HI3 := hid (fun W => In_s f.trod 0 100 W)
        rw [q4] at HI3
        clear hs hlb hll h3 h3' hbad
        go_enter Try.func50, Try.ntmps50
        go_wp2_with (first | (go_at_call 45; with_reducible refine (HI1.out _).mono ?_; rintro e _ ⟨rfl, rfl⟩) | (go_at_call 45; with_reducible refine (HI2.out _).mono ?_; rintro e _ ⟨rfl, rfl⟩) | (go_at_call 45; with_reducible refine (HI3.out _).mono ?_; rintro e _ ⟨rfl, rfl⟩) | (go_at_call 24; with_reducible refine (HIP.out _ (Ev.alloc (Ev.refl _) _)).mono ?_; rintro e w1 ⟨rfl, hb1⟩; have HB := hid (hb1.heap (alloc1 w (.cells #[.int .i64 f.last, .slice Ag ng cg, .slice Aw nw cw, .slice Ab nb cb, .slice Ac nc cc, .int .i64 f.ripe, .int .i64 f.late, .int .i64 f.trod, .slice Al nl cl] 26)).1); have hG : Ev w w1 := Ev.trans (Ev.alloc (Ev.refl _) _) hb1; obtain ⟨y0, y1, y2, y3, y4, y5, y6, y7, y8⟩ := cells9 HB.out) | (refine ⟨trivial, ?_⟩))
        go_ret
        exact ⟨by rw [HD.out]; rfl, Ev.alloc (Ev.refl _) _⟩
       ·
        have q10 : M.isIn f.trod 0 100 = true := by simpa using q4
        have HI3 := hid (fun W => In_s f.trod 0 100 W)
        rw [q10] at HI3
        clear q4
        by_cases q4 : M.isPlan f f.crops = false
        ·
         have HD := hid (M.check_1 h3 (M.not_valid (p := ¬ (M.isPlan f f.crops = false)) (by simpa using q4) (fun hv => by have := (M.valid_parts hv).2.2.2.2.2.2.2.2.2.2.2.1; simp [this])))
         have HIP := hid (fun W (hE : Ev w W) => rIsPlan_c f Ag Aw Ab Ac Al ng cg nw cw nb cb nc cc nl cl hs.b.len hs.b.small Ac nc cc f.crops W (hs.c.ev hE))
         rw [q4] at HIP
         clear hs hlb hll h3 h3' hbad
         go_enter Try.func50, Try.ntmps50
         go_wp2_with (first | (go_at_call 45; with_reducible refine (HI1.out _).mono ?_; rintro e _ ⟨rfl, rfl⟩) | (go_at_call 45; with_reducible refine (HI2.out _).mono ?_; rintro e _ ⟨rfl, rfl⟩) | (go_at_call 45; with_reducible refine (HI3.out _).mono ?_; rintro e _ ⟨rfl, rfl⟩) | (go_at_call 24; with_reducible refine (HIP.out _ (Ev.alloc (Ev.refl _) _)).mono ?_; rintro e w1 ⟨rfl, hb1⟩; have HB := hid (hb1.heap (alloc1 w (.cells #[.int .i64 f.last, .slice Ag ng cg, .slice Aw nw cw, .slice Ab nb cb, .slice Ac nc cc, .int .i64 f.ripe, .int .i64 f.late, .int .i64 f.trod, .slice Al nl cl] 26)).1); have hG : Ev w w1 := Ev.trans (Ev.alloc (Ev.refl _) _) hb1; obtain ⟨y0, y1, y2, y3, y4, y5, y6, y7, y8⟩ := cells9 HB.out) | (refine ⟨trivial, ?_⟩))
         go_ret
         exact ⟨by rw [HD.out]; rfl, hG⟩
        ·
         have q11 : M.isPlan f f.crops = true := by simpa using q4
         have HIP := hid (fun W (hE : Ev w W) => rIsPlan_c f Ag Aw Ab Ac Al ng cg nw cw nb cb nc cc nl cl hs.b.len hs.b.small Ac nc cc f.crops W (hs.c.ev hE))
         rw [q11] at HIP
         exact absurd ⟨q4m, E1.out, E2.out, q7, q8, q9, q10, q11⟩ hbad

end Go.Proofs.Ytffbkbcjddigdaa
