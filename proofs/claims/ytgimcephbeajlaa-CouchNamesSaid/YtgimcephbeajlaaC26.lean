import Derived.Test.YtgimcephbeajlaaC25
set_option linter.unusedSimpArgs false
set_option linter.unusedVariables false
namespace Go.Proofs.Ytgimcephbeajlaa
open Go.RowKit Go.Shelf

theorem M.valid_eq (f : M.Cf) : M.valid f = (decide (0 ≤ f.last) && (M.isIn f.size 0 20 && (M.isIn f.cool 0 100 && (M.isIn f.die 0 500 && (M.isIn f.burn f.die 500 && (M.within f.st 0 500 && (decide ((f.wet.length : Int) = f.last + 1) && (M.isTurns f f.turns && (f.wet.all M.isWet && f.rds.all (M.validRd f)))))))))) := by
 unfold M.valid M.validHeats M.validHours
 generalize f.wet.all M.isWet = a
 generalize f.rds.all (M.validRd f) = b
 generalize M.isTurns f f.turns = c
 rw [Bool.eq_iff_iff]
 unfold M.holds M.upTo M.isIn M.within
 simp only [Bool.and_eq_true, decide_eq_true_eq]
 constructor
 ·
  rintro ⟨⟨h1, h2⟩, ⟨h3, h4⟩, ⟨⟨h5, h6, h7⟩, h8, h9, h10⟩, ⟨h11, h12, h13, h14⟩, h15⟩
  exact ⟨h11, ⟨h1, h2⟩, ⟨h3, h4⟩, ⟨h5, by omega⟩, ⟨h6, h7⟩, ⟨h8, h9, h10⟩, h12, h14, h13, h15⟩
 ·
  rintro ⟨h11, ⟨h1, h2⟩, ⟨h3, h4⟩, ⟨h5, _⟩, ⟨h6, h7⟩, ⟨h8, h9, h10⟩, h12, h14, h13, h15⟩
  exact ⟨⟨h1, h2⟩, ⟨h3, h4⟩, ⟨⟨h5, h6, h7⟩, h8, h9, h10⟩, ⟨h11, h12, h13, h14⟩, h15⟩
theorem M.check_lim {f : M.Cf} (h : 9 < f.last ∨ 5 < f.rds.length) : M.check f = 3 := by unfold M.check; rw [if_pos h]
theorem M.check_bad {f : M.Cf} (h : ¬ (9 < f.last ∨ 5 < f.rds.length)) (hv : M.valid f = false) : M.check f = 1 := by unfold M.check; rw [if_neg h, if_pos hv]
theorem M.check_many {f : M.Cf} (h : ¬ (9 < f.last ∨ 5 < f.rds.length)) (hv : M.valid f = true) (h2 : 2000 < M.many f) : M.check f = 3 := by
 have hp := M.valid_parts hv
 unfold M.check
 rw [if_neg h, if_neg (by rw [hv]; decide), if_pos ((M.many_too f (by omega) (by omega) (fun r hr => by have := M.wet_bd hv r hr; omega)).2 h2)]
theorem M.check_few {f : M.Cf} (h : ¬ (9 < f.last ∨ 5 < f.rds.length)) (hv : M.valid f = true) (h2 : ¬ 2000 < M.many f) : M.check f = 0 := by
 have hp := M.valid_parts hv
 unfold M.check
 rw [if_neg h, if_neg (by rw [hv]; decide), if_neg (fun e => h2 ((M.many_too f (by omega) (by omega) (fun r hr => by have := M.wet_bd hv r hr; omega)).1 e))]

set_option maxRecDepth 100000 in
set_option maxHeartbeats 8000000 in
theorem Fault_c (f : M.Cf) (Aw At Ar : Option Addr) (nw cw nt ct nr cr : Nat) (hl0 : -9223372036854775808 ≤ f.last) (w : World) (hs : CS w w.heap.size f Aw At Ar nw cw nt ct nr cr) :
  Calls Try.prog 64 #[.agg #[.int .i64 f.last, .int .i64 f.size, .int .i64 f.cool, .int .i64 f.die, .int .i64 f.burn, .int .i64 f.st.lo, .int .i64 f.st.hi, .slice Aw nw cw, .slice At nt ct, .slice Ar nr cr]] w fun e w' => e = .returned (.int .i64 (M.check f)) ∧ Ev w w' := by
 have hrl := hs.r.len
 have hrs := hs.r.small
 have hwl := hs.w_.len
 have hws := hs.w_.small
 have HQ := hid (alloc1 w (.cells #[.int .i64 f.last, .int .i64 f.size, .int .i64 f.cool, .int .i64 f.die, .int .i64 f.burn, .int .i64 f.st.lo, .int .i64 f.st.hi, .slice Aw nw cw, .slice At nt ct, .slice Ar nr cr] 28)).1
 obtain ⟨y0, y1, y2, y3, y4, y5, y6, y7, y8, y9⟩ := cells10 HQ.out
 by_cases g9 : 9 < f.last
 ·
  have HV := hid (M.check_lim (f := f) (Or.inl g9))
  have d1 : decide (f.last > 9) = true := by simpa using g9
  go_enter Try.func64, Try.ntmps64
  go_wp2_with (first | (go_at_call 54; with_reducible refine (HI2.out _).mono ?_; rintro e _ ⟨rfl, rfl⟩) | (go_at_call 54; with_reducible refine (HI3.out _).mono ?_; rintro e _ ⟨rfl, rfl⟩) | (go_at_call 54; with_reducible refine (HI4.out _).mono ?_; rintro e _ ⟨rfl, rfl⟩) | (go_at_call 54; with_reducible refine (HI5.out _).mono ?_; rintro e _ ⟨rfl, rfl⟩) | (go_at_call 89; with_reducible refine (HI6.out _).mono ?_; rintro e w1 ⟨rfl, hb1⟩; have hG1 : Ev w w1 := Ev.trans (Ev.alloc (Ev.refl _) _) hb1; clear y0 y1 y2 y3 y4 y5 y6 y7 y8 y9; obtain ⟨y0, y1, y2, y3, y4, y5, y6, y7, y8, y9⟩ := cells10 (hb1.heap HQ.out)) | (go_at_call 29; with_reducible refine (HI8.out _ hG1).mono ?_; rintro e w2 ⟨rfl, hb2⟩; have hG2 := hG1.trans hb2))
  go_ret
  exact ⟨ret_int HV.out.symm, (Ev.alloc (Ev.refl _) _)⟩
 by_cases g5 : 5 < nr
 ·
  have HV := hid (M.check_lim (f := f) (Or.inr (by omega)))
  have d1 : decide (f.last > 9) = false := by simpa using g9
  have d2 : (5 : Int) < nr := by omega
  go_enter Try.func64, Try.ntmps64
  go_wp2_with (first | (go_at_call 54; with_reducible refine (HI2.out _).mono ?_; rintro e _ ⟨rfl, rfl⟩) | (go_at_call 54; with_reducible refine (HI3.out _).mono ?_; rintro e _ ⟨rfl, rfl⟩) | (go_at_call 54; with_reducible refine (HI4.out _).mono ?_; rintro e _ ⟨rfl, rfl⟩) | (go_at_call 54; with_reducible refine (HI5.out _).mono ?_; rintro e _ ⟨rfl, rfl⟩) | (go_at_call 89; with_reducible refine (HI6.out _).mono ?_; rintro e w1 ⟨rfl, hb1⟩; have hG1 : Ev w w1 := Ev.trans (Ev.alloc (Ev.refl _) _) hb1; clear y0 y1 y2 y3 y4 y5 y6 y7 y8 y9; obtain ⟨y0, y1, y2, y3, y4, y5, y6, y7, y8, y9⟩ := cells10 (hb1.heap HQ.out)) | (go_at_call 29; with_reducible refine (HI8.out _ hG1).mono ?_; rintro e w2 ⟨rfl, hb2⟩; have hG2 := hG1.trans hb2))
  go_ret
  exact ⟨ret_int HV.out.symm, (Ev.alloc (Ev.refl _) _)⟩
 have hlim : ¬ (9 < f.last ∨ 5 < f.rds.length) := by omega
 have d2 : ¬ (5 : Int) < nr := by omega
 have HLM := hid hlim
 have HVE := hid (M.valid_eq f)
 by_cases g0 : f.last < 0
 ·
  have HV := hid (M.check_bad HLM.out (by rw [HVE.out]; simp [show ¬ 0 ≤ f.last by omega]))
  go_enter Try.func64, Try.ntmps64
  go_wp2_with (first | (go_at_call 54; with_reducible refine (HI2.out _).mono ?_; rintro e _ ⟨rfl, rfl⟩) | (go_at_call 54; with_reducible refine (HI3.out _).mono ?_; rintro e _ ⟨rfl, rfl⟩) | (go_at_call 54; with_reducible refine (HI4.out _).mono ?_; rintro e _ ⟨rfl, rfl⟩) | (go_at_call 54; with_reducible refine (HI5.out _).mono ?_; rintro e _ ⟨rfl, rfl⟩) | (go_at_call 89; with_reducible refine (HI6.out _).mono ?_; rintro e w1 ⟨rfl, hb1⟩; have hG1 : Ev w w1 := Ev.trans (Ev.alloc (Ev.refl _) _) hb1; clear y0 y1 y2 y3 y4 y5 y6 y7 y8 y9; obtain ⟨y0, y1, y2, y3, y4, y5, y6, y7, y8, y9⟩ := cells10 (hb1.heap HQ.out)) | (go_at_call 29; with_reducible refine (HI8.out _ hG1).mono ?_; rintro e w2 ⟨rfl, hb2⟩; have hG2 := hG1.trans hb2))
  go_ret
  exact ⟨ret_int HV.out.symm, (Ev.alloc (Ev.refl _) _)⟩
 have hi2 := fun W => In_s f.size 0 20 W
 have hi3 := fun W => In_s f.cool 0 100 W
 have hi4 := fun W => In_s f.die 0 500 W
 have hi5 := fun W => In_s f.burn f.die 500 W
 have hi6 := fun W => Within_c f.st 0 500 W
 have hi8 := fun W (hE : Ev w W) => rIsTurns_c f Aw At Ar nw cw nt ct nr cr At nt ct f.turns W (hs.ev hE).t
 cases h2 : M.isIn f.size 0 20 with
 | false =>
  rw [h2] at hi2
  have HI2 := hid hi2
  have HI3 := hid hi3
  have HI4 := hid hi4
  have HI5 := hid hi5
  have HI6 := hid hi6
  have HI8 := hid hi8
  have HV := hid (M.check_bad HLM.out (by rw [HVE.out, h2]; simp))
  go_enter Try.func64, Try.ntmps64
  go_wp2_with (first | (go_at_call 54; with_reducible refine (HI2.out _).mono ?_; rintro e _ ⟨rfl, rfl⟩) | (go_at_call 54; with_reducible refine (HI3.out _).mono ?_; rintro e _ ⟨rfl, rfl⟩) | (go_at_call 54; with_reducible refine (HI4.out _).mono ?_; rintro e _ ⟨rfl, rfl⟩) | (go_at_call 54; with_reducible refine (HI5.out _).mono ?_; rintro e _ ⟨rfl, rfl⟩) | (go_at_call 89; with_reducible refine (HI6.out _).mono ?_; rintro e w1 ⟨rfl, hb1⟩; have hG1 : Ev w w1 := Ev.trans (Ev.alloc (Ev.refl _) _) hb1; clear y0 y1 y2 y3 y4 y5 y6 y7 y8 y9; obtain ⟨y0, y1, y2, y3, y4, y5, y6, y7, y8, y9⟩ := cells10 (hb1.heap HQ.out)) | (go_at_call 29; with_reducible refine (HI8.out _ hG1).mono ?_; rintro e w2 ⟨rfl, hb2⟩; have hG2 := hG1.trans hb2))
  go_ret
  exact ⟨ret_int HV.out.symm, (Ev.alloc (Ev.refl _) _)⟩
 | true =>
 rw [h2] at hi2
 have HI2 := hid hi2
 clear hi2
 cases h3 : M.isIn f.cool 0 100 with
 | false =>
  rw [h3] at hi3
  have HI3 := hid hi3
  have HI4 := hid hi4
  have HI5 := hid hi5
  have HI6 := hid hi6
  have HI8 := hid hi8
  have HV := hid (M.check_bad HLM.out (by rw [HVE.out, h3]; simp))
  go_enter Try.func64, Try.ntmps64
  go_wp2_with (first | (go_at_call 54; with_reducible refine (HI2.out _).mono ?_; rintro e _ ⟨rfl, rfl⟩) | (go_at_call 54; with_reducible refine (HI3.out _).mono ?_; rintro e _ ⟨rfl, rfl⟩) | (go_at_call 54; with_reducible refine (HI4.out _).mono ?_; rintro e _ ⟨rfl, rfl⟩) | (go_at_call 54; with_reducible refine (HI5.out _).mono ?_; rintro e _ ⟨rfl, rfl⟩) | (go_at_call 89; with_reducible refine (HI6.out _).mono ?_; rintro e w1 ⟨rfl, hb1⟩; have hG1 : Ev w w1 := Ev.trans (Ev.alloc (Ev.refl _) _) hb1; clear y0 y1 y2 y3 y4 y5 y6 y7 y8 y9; obtain ⟨y0, y1, y2, y3, y4, y5, y6, y7, y8, y9⟩ := cells10 (hb1.heap HQ.out)) | (go_at_call 29; with_reducible refine (HI8.out _ hG1).mono ?_; rintro e w2 ⟨rfl, hb2⟩; have hG2 := hG1.trans hb2))
  go_ret
  exact ⟨ret_int HV.out.symm, (Ev.alloc (Ev.refl _) _)⟩
 | true =>
 rw [h3] at hi3
 have HI3 := hid hi3
 clear hi3
 cases h4 : M.isIn f.die 0 500 with
 | false =>
  rw [h4] at hi4
  have HI4 := hid hi4
  have HI5 := hid hi5
  have HI6 := hid hi6
  have HI8 := hid hi8
  have HV := hid (M.check_bad HLM.out (by rw [HVE.out, h4]; simp))
  go_enter Try.func64, Try.ntmps64
  go_wp2_with (first | (go_at_call 54; with_reducible refine (HI2.out _).mono ?_; rintro e _ ⟨rfl, rfl⟩) | (go_at_call 54; with_reducible refine (HI3.out _).mono ?_; rintro e _ ⟨rfl, rfl⟩) | (go_at_call 54; with_reducible refine (HI4.out _).mono ?_; rintro e _ ⟨rfl, rfl⟩) | (go_at_call 54; with_reducible refine (HI5.out _).mono ?_; rintro e _ ⟨rfl, rfl⟩) | (go_at_call 89; with_reducible refine (HI6.out _).mono ?_; rintro e w1 ⟨rfl, hb1⟩; have hG1 : Ev w w1 := Ev.trans (Ev.alloc (Ev.refl _) _) hb1; clear y0 y1 y2 y3 y4 y5 y6 y7 y8 y9; obtain ⟨y0, y1, y2, y3, y4, y5, y6, y7, y8, y9⟩ := cells10 (hb1.heap HQ.out)) | (go_at_call 29; with_reducible refine (HI8.out _ hG1).mono ?_; rintro e w2 ⟨rfl, hb2⟩; have hG2 := hG1.trans hb2))
  go_ret
  exact ⟨ret_int HV.out.symm, (Ev.alloc (Ev.refl _) _)⟩
 | true =>
 rw [h4] at hi4
 have HI4 := hid hi4
 clear hi4
 cases h5 : M.isIn f.burn f.die 500 with
 | false =>
  rw [h5] at hi5
  have HI5 := hid hi5
  have HI6 := hid hi6
  have HI8 := hid hi8
  have HV := hid (M.check_bad HLM.out (by rw [HVE.out, h5]; simp))
  go_enter Try.func64, Try.ntmps64
  go_wp2_with (first | (go_at_call 54; with_reducible refine (HI2.out _).mono ?_; rintro e _ ⟨rfl, rfl⟩) | (go_at_call 54; with_reducible refine (HI3.out _).mono ?_; rintro e _ ⟨rfl, rfl⟩) | (go_at_call 54; with_reducible refine (HI4.out _).mono ?_; rintro e _ ⟨rfl, rfl⟩) | (go_at_call 54; with_reducible refine (HI5.out _).mono ?_; rintro e _ ⟨rfl, rfl⟩) | (go_at_call 89; with_reducible refine (HI6.out _).mono ?_; rintro e w1 ⟨rfl, hb1⟩; have hG1 : Ev w w1 := Ev.trans (Ev.alloc (Ev.refl _) _) hb1; clear y0 y1 y2 y3 y4 y5 y6 y7 y8 y9; obtain ⟨y0, y1, y2, y3, y4, y5, y6, y7, y8, y9⟩ := cells10 (hb1.heap HQ.out)) | (go_at_call 29; with_reducible refine (HI8.out _ hG1).mono ?_; rintro e w2 ⟨rfl, hb2⟩; have hG2 := hG1.trans hb2))
  go_ret
  exact ⟨ret_int HV.out.symm, (Ev.alloc (Ev.refl _) _)⟩
 | true =>
 rw [h5] at hi5
 have HI5 := hid hi5
 clear hi5
 cases h6 : M.within f.st 0 500 with
 | false =>
  rw [h6] at hi6
  have HI6 := hid hi6
  have HI8 := hid hi8
  have HV := hid (M.check_bad HLM.out (by rw [HVE.out, h6]; simp))
  go_enter Try.func64, Try.ntmps64
  go_wp2_with (first | (go_at_call 54; with_reducible refine (HI2.out _).mono ?_; rintro e _ ⟨rfl, rfl⟩) | (go_at_call 54; with_reducible refine (HI3.out _).mono ?_; rintro e _ ⟨rfl, rfl⟩) | (go_at_call 54; with_reducible refine (HI4.out _).mono ?_; rintro e _ ⟨rfl, rfl⟩) | (go_at_call 54; with_reducible refine (HI5.out _).mono ?_; rintro e _ ⟨rfl, rfl⟩) | (go_at_call 89; with_reducible refine (HI6.out _).mono ?_; rintro e w1 ⟨rfl, hb1⟩; have hG1 : Ev w w1 := Ev.trans (Ev.alloc (Ev.refl _) _) hb1; clear y0 y1 y2 y3 y4 y5 y6 y7 y8 y9; obtain ⟨y0, y1, y2, y3, y4, y5, y6, y7, y8, y9⟩ := cells10 (hb1.heap HQ.out)) | (go_at_call 29; with_reducible refine (HI8.out _ hG1).mono ?_; rintro e w2 ⟨rfl, hb2⟩; have hG2 := hG1.trans hb2))
  go_ret
  exact ⟨ret_int HV.out.symm, hG1⟩
 | true =>
 rw [h6] at hi6
 have HI6 := hid hi6
 clear hi6
 by_cases g7 : (nw : Int) ≠ f.last + 1
 ·
  have HI8 := hid hi8
  have HV := hid (M.check_bad HLM.out (by rw [HVE.out, hwl]; simp [g7]))
  have hni : ((nw : Int) == f.last + 1) = false := by simpa using g7
  go_enter Try.func64, Try.ntmps64
  go_wp2_with (first | (go_at_call 54; with_reducible refine (HI2.out _).mono ?_; rintro e _ ⟨rfl, rfl⟩) | (go_at_call 54; with_reducible refine (HI3.out _).mono ?_; rintro e _ ⟨rfl, rfl⟩) | (go_at_call 54; with_reducible refine (HI4.out _).mono ?_; rintro e _ ⟨rfl, rfl⟩) | (go_at_call 54; with_reducible refine (HI5.out _).mono ?_; rintro e _ ⟨rfl, rfl⟩) | (go_at_call 89; with_reducible refine (HI6.out _).mono ?_; rintro e w1 ⟨rfl, hb1⟩; have hG1 : Ev w w1 := Ev.trans (Ev.alloc (Ev.refl _) _) hb1; clear y0 y1 y2 y3 y4 y5 y6 y7 y8 y9; obtain ⟨y0, y1, y2, y3, y4, y5, y6, y7, y8, y9⟩ := cells10 (hb1.heap HQ.out)) | (go_at_call 29; with_reducible refine (HI8.out _ hG1).mono ?_; rintro e w2 ⟨rfl, hb2⟩; have hG2 := hG1.trans hb2))
  go_ret
  exact ⟨ret_int HV.out.symm, hG1⟩
 have g7' : (nw : Int) = f.last + 1 := by omega
 cases h8 : M.isTurns f f.turns with
 | false =>
  rw [h8] at hi8
  have HI8 := hid hi8
  have HV := hid (M.check_bad HLM.out (by rw [HVE.out, h8]; simp))
  go_enter Try.func64, Try.ntmps64
  go_wp2_with (first | (go_at_call 54; with_reducible refine (HI2.out _).mono ?_; rintro e _ ⟨rfl, rfl⟩) | (go_at_call 54; with_reducible refine (HI3.out _).mono ?_; rintro e _ ⟨rfl, rfl⟩) | (go_at_call 54; with_reducible refine (HI4.out _).mono ?_; rintro e _ ⟨rfl, rfl⟩) | (go_at_call 54; with_reducible refine (HI5.out _).mono ?_; rintro e _ ⟨rfl, rfl⟩) | (go_at_call 89; with_reducible refine (HI6.out _).mono ?_; rintro e w1 ⟨rfl, hb1⟩; have hG1 : Ev w w1 := Ev.trans (Ev.alloc (Ev.refl _) _) hb1; clear y0 y1 y2 y3 y4 y5 y6 y7 y8 y9; obtain ⟨y0, y1, y2, y3, y4, y5, y6, y7, y8, y9⟩ := cells10 (hb1.heap HQ.out)) | (go_at_call 29; with_reducible refine (HI8.out _ hG1).mono ?_; rintro e w2 ⟨rfl, hb2⟩; have hG2 := hG1.trans hb2))
  go_ret
  exact ⟨ret_int HV.out.symm, hG2⟩
 | true =>
 rw [h8] at hi8
 have HI8 := hid hi8
 clear hi8
 have HB := hid (show M.valid f = (f.wet.all M.isWet && f.rds.all (M.validRd f)) by rw [HVE.out, h2, h3, h4, h5, h6, h8, hwl]; simp [g7', show 0 ≤ f.last by omega])
 have hst : 0 ≤ f.st.lo ∧ f.st.lo ≤ f.st.hi ∧ f.st.hi ≤ 500 := by
  unfold M.within at h6
  simp only [Bool.and_eq_true, decide_eq_true_eq] at h6
  exact h6
 clear h2 h3 h4 h5 h6 h8
 go_enter Try.func64, Try.ntmps64
 go_upto_region 5 with (first | (go_at_call 54; with_reducible refine (HI2.out _).mono ?_; rintro e _ ⟨rfl, rfl⟩) | (go_at_call 54; with_reducible refine (HI3.out _).mono ?_; rintro e _ ⟨rfl, rfl⟩) | (go_at_call 54; with_reducible refine (HI4.out _).mono ?_; rintro e _ ⟨rfl, rfl⟩) | (go_at_call 54; with_reducible refine (HI5.out _).mono ?_; rintro e _ ⟨rfl, rfl⟩) | (go_at_call 89; with_reducible refine (HI6.out _).mono ?_; rintro e w1 ⟨rfl, hb1⟩; have hG1 : Ev w w1 := Ev.trans (Ev.alloc (Ev.refl _) _) hb1; clear y0 y1 y2 y3 y4 y5 y6 y7 y8 y9; obtain ⟨y0, y1, y2, y3, y4, y5, y6, y7, y8, y9⟩ := cells10 (hb1.heap HQ.out)) | (go_at_call 29; with_reducible refine (HI8.out _ hG1).mono ?_; rintro e w2 ⟨rfl, hb2⟩; have hG2 := hG1.trans hb2))
 have HQ2 := hid (hb2.heap (hb1.heap HQ.out))
 clear y0 y1 y2 y3 y4 y5 y6 y7 y8 y9
 go_wp2_with fail
 go_loopw [3] (fun i wr => ∃ k : Nat, i = .int .i64 k ∧ k ≤ nw ∧ Ev w2 wr ∧ Hid ((f.wet.drop k).all M.isWet = f.wet.all M.isWet)) (fun i _ => nw - (intOf i).toNat)
 case atStart => exact ⟨0, rfl, by omega, Ev.refl _, hid rfl⟩
 case round =>
  obtain ⟨k, rfl, hk, hB, hall⟩ := hrel
  obtain ⟨y0, y1, y2, y3, y4, y5, y6, y7, y8, y9⟩ := cells10 (hB.heap HQ2.out)
  by_cases hlt : k < nw
  ·
   obtain ⟨b, off, r, rfl, hb, hx, hxd, hcc⟩ := hs.w_.at_ (hG2.trans hB) hlt
   have e0 := hcc 0 _ rfl
   have e1 := hcc 1 _ rfl
   simp only [Nat.add_zero] at e0
   have hcap := hs.w_.cap
   have hcon := fun W => Within_c r 0 20 W
   have HD := hid (show (f.wet.drop k).all M.isWet = (M.within r 0 20 && (f.wet.drop (k + 1)).all M.isWet) by rw [hxd, List.all_cons]; rfl)
   clear hx hxd hcc
   cases hv : M.within r 0 20 with
   | false =>
    rw [hv] at hcon HD
    have HC := hid hcon
    have HV := hid (M.check_bad HLM.out (by rw [HB.out, ← hall.out, HD.out]; simp))
    clear hcon hv
    go_wp2_with (go_at_call 89; with_reducible refine (HC.out _).mono ?_; rintro e w3 ⟨rfl, hb3⟩)
    go_ret
    exact ⟨ret_int HV.out.symm, hG2.trans (hB.trans hb3)⟩
   | true =>
    rw [hv] at hcon HD
    have HC := hid hcon
    clear hcon hv
    go_wp2_with (go_at_call 89; with_reducible refine (HC.out _).mono ?_; rintro e w3 ⟨rfl, hb3⟩)
    exact ⟨⟨k + 1, by go_num, by omega, hB.trans hb3, hid (by rw [← hall.out, HD.out]; rfl)⟩, by simp [intOf]; omega⟩
  ·
   have HW := hid (show f.wet.all M.isWet = true by rw [← hall.out, hs.w_.done hlt]; rfl)
   have HB2 := hid (show M.valid f = f.rds.all (M.validRd f) by rw [HB.out, HW.out]; rfl)
   obtain ⟨WA, hWA⟩ : ∃ x, x = wr := ⟨_, rfl⟩
   subst hWA
   have HQ3 := hid (hB.heap HQ2.out)
   clear hall
   go_wp2_with fail
   go_loopw [4] (fun i wr => ∃ k : Nat, i = .int .i64 k ∧ k ≤ nr ∧ Ev WA wr ∧ Hid ((f.rds.drop k).all (M.validRd f) = f.rds.all (M.validRd f))) (fun i _ => nr - (intOf i).toNat)
   case atStart => exact ⟨0, rfl, by omega, Ev.refl _, hid rfl⟩
   case round =>
    clear y0 y1 y2 y3 y4 y5 y6 y7 y8 y9
    clear hk hlt
    rename_i wl _ _ _ _ _
    obtain ⟨k, rfl, hk, hB2, hall⟩ := hrel
    obtain ⟨y0, y1, y2, y3, y4, y5, y6, y7, y8, y9⟩ := cells10 (hB2.heap HQ3.out)
    have l0 := heap_lt (hB2.heap HQ3.out)
    by_cases hlt : k < nr
    ·
     obtain ⟨b, off, x, rfl, hb, hx, hxd, hcc⟩ := hs.r.at_ ((hG2.trans hB).trans hB2) hlt
     have e0 := hcc 0 _ rfl
     have e1 := hcc 1 _ rfl
     have e2 := hcc 2 _ rfl
     simp only [Nat.add_zero] at e0
     have hcap := hs.r.cap
     have hc1 := fun W => In_s x.hr 0 f.last W
     have hc2 := fun W => In_s x.sn 0 1000 W
     have hc3 := fun W => In_s x.er 0 50 W
     have HD := hid (show (f.rds.drop k).all (M.validRd f) = ((M.isIn x.hr 0 f.last && (M.isIn x.sn 0 1000 && M.isIn x.er 0 50)) && (f.rds.drop (k + 1)).all (M.validRd f)) by rw [hxd, List.all_cons]; rfl)
     clear hx hxd hcc
     cases v1 : M.isIn x.hr 0 f.last with
     | false =>
      rw [v1] at hc1 HD
      have HC1 := hid hc1
      have HC2 := hid hc2
      have HC3 := hid hc3
      have HV := hid (M.check_bad HLM.out (by rw [HB2.out, ← hall.out, HD.out]; simp))
      go_wp2_with (first | (go_at_call 54; with_reducible refine (HC1.out _).mono ?_; rintro e _ ⟨rfl, rfl⟩) | (go_at_call 54; with_reducible refine (HC2.out _).mono ?_; rintro e _ ⟨rfl, rfl⟩) | (go_at_call 54; with_reducible refine (HC3.out _).mono ?_; rintro e _ ⟨rfl, rfl⟩))
      go_ret
      exact ⟨ret_int HV.out.symm, ((hG2.trans hB).trans hB2).trans (Ev.alloc (Ev.refl _) _)⟩
     | true =>
     rw [v1] at hc1 HD
     have HC1 := hid hc1
     clear hc1
     cases v2 : M.isIn x.sn 0 1000 with
     | false =>
      rw [v2] at hc2 HD
      have HC2 := hid hc2
      have HC3 := hid hc3
      have HV := hid (M.check_bad HLM.out (by rw [HB2.out, ← hall.out, HD.out]; simp))
      go_wp2_with (first | (go_at_call 54; with_reducible refine (HC1.out _).mono ?_; rintro e _ ⟨rfl, rfl⟩) | (go_at_call 54; with_reducible refine (HC2.out _).mono ?_; rintro e _ ⟨rfl, rfl⟩) | (go_at_call 54; with_reducible refine (HC3.out _).mono ?_; rintro e _ ⟨rfl, rfl⟩))
      go_ret
      exact ⟨ret_int HV.out.symm, ((hG2.trans hB).trans hB2).trans (Ev.alloc (Ev.refl _) _)⟩
     | true =>
     rw [v2] at hc2 HD
     have HC2 := hid hc2
     clear hc2
     cases v3 : M.isIn x.er 0 50 with
     | false =>
      rw [v3] at hc3 HD
      have HC3 := hid hc3
      have HV := hid (M.check_bad HLM.out (by rw [HB2.out, ← hall.out, HD.out]; simp))
      go_wp2_with (first | (go_at_call 54; with_reducible refine (HC1.out _).mono ?_; rintro e _ ⟨rfl, rfl⟩) | (go_at_call 54; with_reducible refine (HC2.out _).mono ?_; rintro e _ ⟨rfl, rfl⟩) | (go_at_call 54; with_reducible refine (HC3.out _).mono ?_; rintro e _ ⟨rfl, rfl⟩))
      go_ret
      exact ⟨ret_int HV.out.symm, ((hG2.trans hB).trans hB2).trans (Ev.alloc (Ev.refl _) _)⟩
     | true =>
     rw [v3] at hc3 HD
     have HC3 := hid hc3
     clear hc3
     go_wp2_with (first | (go_at_call 54; with_reducible refine (HC1.out _).mono ?_; rintro e _ ⟨rfl, rfl⟩) | (go_at_call 54; with_reducible refine (HC2.out _).mono ?_; rintro e _ ⟨rfl, rfl⟩) | (go_at_call 54; with_reducible refine (HC3.out _).mono ?_; rintro e _ ⟨rfl, rfl⟩))
     exact ⟨⟨k + 1, by go_num, by omega, hB2.trans (Ev.alloc (Ev.refl _) _), hid (by rw [← hall.out, HD.out]; rfl)⟩, by simp [intOf]; omega⟩
    ·
     have HVT := hid (show M.valid f = true by rw [HB2.out, ← hall.out, hs.r.done hlt]; rfl)
     have HMN := hid (fun W (hE : Ev w W) => Many_c f Aw At Ar nw cw nt ct nr cr hst (M.wet_bd HVT.out) W (hs.ev hE))
     have HCM := hid (fun h => M.check_many HLM.out HVT.out h)
     have HCF := hid (fun h => M.check_few HLM.out HVT.out h)
     generalize M.many f = mn at HMN HCM HCF
     clear hall
     by_cases hm : 2000 < mn
     ·
      have HV := hid (HCM.out hm)
      go_wp2_with (go_at_call 57; with_reducible refine (HMN.out _ ((hG2.trans hB).trans hB2)).mono ?_; rintro e w5 ⟨rfl, hb5⟩)
      go_ret
      exact ⟨ret_int HV.out.symm, ((hG2.trans hB).trans hB2).trans hb5⟩
     ·
      have HV := hid (HCF.out hm)
      go_wp2_with (go_at_call 57; with_reducible refine (HMN.out _ ((hG2.trans hB).trans hB2)).mono ?_; rintro e w5 ⟨rfl, hb5⟩)
      go_ret
      exact ⟨ret_int HV.out.symm, ((hG2.trans hB).trans hB2).trans hb5⟩

end Go.Proofs.Ytgimcephbeajlaa
