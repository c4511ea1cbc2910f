import Derived.Test.YtgimcephbeajlaaC26
set_option linter.unusedSimpArgs false
set_option linter.unusedVariables false
namespace Go.Proofs.Ytgimcephbeajlaa
open Go.RowKit Go.Shelf

/-- What Thin asks of the lists' lengths. -/
def M.small (nw nt nr : Nat) : Prop := nw ≤ 12 ∧ nt ≤ 12 ∧ nr ≤ 7
instance (nw nt nr : Nat) : Decidable (M.small nw nt nr) := by unfold M.small; infer_instance
def M.thin (f : M.Cf) : Bool := decide (M.check f ≠ 0) || decide (M.many f ≤ 100)

set_option maxRecDepth 100000 in
set_option maxHeartbeats 1000000 in
theorem fault_c (f : M.Cf) (Aw At Ar : Option Addr) (nw cw nt ct nr cr : Nat) (hl0 : -9223372036854775808 ≤ f.last) (w : World) (hs : CS w w.heap.size f Aw At Ar nw cw nt ct nr cr) :
  Calls Try.prog 25 #[.agg #[.int .i64 f.last, .int .i64 f.size, .int .i64 f.cool, .int .i64 f.die, .int .i64 f.burn, .int .i64 f.st.lo, .int .i64 f.st.hi, .slice Aw nw cw, .slice At nt ct, .slice Ar nr cr]] w fun e w' => e = .returned (.int .i64 (M.check f)) ∧ Ev w w' := by
 have HFC := hid (fun W (hE : Ev w W) => Fault_c f Aw At Ar nw cw nt ct nr cr hl0 W (hs.ev hE))
 clear hs
 go_enter Try.func25, Try.ntmps25
 go_wp2_with (go_at_call 64; with_reducible refine (HFC.out _ (Ev.alloc (Ev.refl _) _)).mono ?_; rintro e w1 ⟨rfl, hb1⟩)
 go_ret
 exact ⟨rfl, (Ev.alloc (Ev.refl _) _).trans hb1⟩

set_option maxRecDepth 100000 in
set_option maxHeartbeats 4000000 in
theorem Thin_c (f : M.Cf) (Aw At Ar : Option Addr) (nw cw nt ct nr cr : Nat) (hl0 : -9223372036854775808 ≤ f.last) (w : World) (hs : M.small nw nt nr → CS w w.heap.size f Aw At Ar nw cw nt ct nr cr) :
  Calls Try.prog 18 #[.agg #[.int .i64 f.last, .int .i64 f.size, .int .i64 f.cool, .int .i64 f.die, .int .i64 f.burn, .int .i64 f.st.lo, .int .i64 f.st.hi, .slice Aw nw cw, .slice At nt ct, .slice Ar nr cr]] w fun e w' => e = .returned (.bool (decide (M.small nw nt nr) && M.thin f)) ∧ Ev w w' := by
 by_cases q0 : nw ≤ 12
 case neg =>
  have HD := hid (show (decide (M.small nw nt nr) && M.thin f) = false by rw [decide_eq_false (by unfold M.small; omega)]; rfl)
  have q0a : ¬ ((nw : Int) ≤ 12) := by omega
  clear hs
  go_enter Try.func18, Try.ntmps18
  go_wp2_with (with_reducible refine ⟨trivial, ?_⟩)
  go_ret
  exact ⟨by rw [HD.out]; rfl, Ev.alloc (Ev.refl _) _⟩
 have q0a : (nw : Int) ≤ 12 := by omega
 by_cases q1 : nt ≤ 12
 case neg =>
  have HD := hid (show (decide (M.small nw nt nr) && M.thin f) = false by rw [decide_eq_false (by unfold M.small; omega)]; rfl)
  have q1a : ¬ ((nt : Int) ≤ 12) := by omega
  clear hs
  go_enter Try.func18, Try.ntmps18
  go_wp2_with (with_reducible refine ⟨trivial, ?_⟩)
  go_ret
  exact ⟨by rw [HD.out]; rfl, Ev.alloc (Ev.refl _) _⟩
 have q1a : (nt : Int) ≤ 12 := by omega
 by_cases q2 : nr ≤ 7
 case neg =>
  have HD := hid (show (decide (M.small nw nt nr) && M.thin f) = false by rw [decide_eq_false (by unfold M.small; omega)]; rfl)
  have q2a : ¬ ((nr : Int) ≤ 7) := by omega
  clear hs
  go_enter Try.func18, Try.ntmps18
  go_wp2_with (with_reducible refine ⟨trivial, ?_⟩)
  go_ret
  exact ⟨by rw [HD.out]; rfl, Ev.alloc (Ev.refl _) _⟩
 have q2a : (nr : Int) ≤ 7 := by omega
 have hsm : M.small nw nt nr := ⟨q0, q1, q2⟩
 have hcs := hs hsm
 have HFC := hid (fun W (hE : Ev w W) => Fault_c f Aw At Ar nw cw nt ct nr cr hl0 W (hcs.ev hE))
 have HT := hid (show (decide (M.small nw nt nr) && M.thin f) = (decide (M.check f ≠ 0) || decide (M.many f ≤ 100)) by rw [decide_eq_true hsm, Bool.true_and]; rfl)
 clear hs hsm
 by_cases hc : M.check f = 0
 ·
  have hv := (M.check0 hc).2.2.1
  have HMC := hid (fun W (hE : Ev w W) => Many_c f Aw At Ar nw cw nt ct nr cr (M.valid_parts hv).2.2.2.1 (M.wet_bd hv) W (hcs.ev hE))
  rw [hc] at HFC HT
  generalize M.many f = mm at HMC HT
  clear hcs hv hc
  by_cases hm : mm ≤ 100
  ·
   have HD := hid (show (decide ((0 : Int) ≠ 0) || decide (mm ≤ 100)) = true by simp [hm])
   go_enter Try.func18, Try.ntmps18
   go_wp2_with (first | (go_at_call 64; with_reducible refine (HFC.out _ (Ev.alloc (Ev.refl _) _)).mono ?_; rintro e w1 ⟨rfl, hb1⟩; have HB := hid (hb1.heap (alloc1 w (.cells #[.int .i64 f.last, .int .i64 f.size, .int .i64 f.cool, .int .i64 f.die, .int .i64 f.burn, .int .i64 f.st.lo, .int .i64 f.st.hi, .slice Aw nw cw, .slice At nt ct, .slice Ar nr cr] 28)).1); have hG : Ev w w1 := Ev.trans (Ev.alloc (Ev.refl _) _) hb1; obtain ⟨y0, y1, y2, y3, y4, y5, y6, y7, y8, y9⟩ := cells10 HB.out) | (go_at_call 57; with_reducible refine (HMC.out _ hG).mono ?_; rintro e w2 ⟨rfl, hb2⟩) | (with_reducible refine ⟨trivial, ?_⟩))
   go_ret
   exact ⟨by rw [HT.out, HD.out]; first | rfl | (simp [*]; done) | (show Ending.returned (.bool (decide (mm ≤ 100))) = _; rw [hd1]), hG.trans hb2⟩
  ·
   have HD := hid (show (decide ((0 : Int) ≠ 0) || decide (mm ≤ 100)) = false by simp [hm])
   have hd1 : decide (mm ≤ 100) = false := decide_eq_false hm
   go_enter Try.func18, Try.ntmps18
   go_wp2_with (first | (go_at_call 64; with_reducible refine (HFC.out _ (Ev.alloc (Ev.refl _) _)).mono ?_; rintro e w1 ⟨rfl, hb1⟩; have HB := hid (hb1.heap (alloc1 w (.cells #[.int .i64 f.last, .int .i64 f.size, .int .i64 f.cool, .int .i64 f.die, .int .i64 f.burn, .int .i64 f.st.lo, .int .i64 f.st.hi, .slice Aw nw cw, .slice At nt ct, .slice Ar nr cr] 28)).1); have hG : Ev w w1 := Ev.trans (Ev.alloc (Ev.refl _) _) hb1; obtain ⟨y0, y1, y2, y3, y4, y5, y6, y7, y8, y9⟩ := cells10 HB.out) | (go_at_call 57; with_reducible refine (HMC.out _ hG).mono ?_; rintro e w2 ⟨rfl, hb2⟩) | (with_reducible refine ⟨trivial, ?_⟩))
   go_ret
   exact ⟨by rw [HT.out, HD.out]; first | rfl | (simp [*]; done) | (show Ending.returned (.bool (decide (mm ≤ 100))) = _; rw [hd1]), hG.trans hb2⟩
 ·
  have HD := hid (show (decide (M.check f ≠ 0) || decide (M.many f ≤ 100)) = true by simp [hc])
  generalize M.check f = ec at HFC HT HD hc
  have hc1 : (ec != 0) = true := by simpa using hc
  clear hcs hc
  go_enter Try.func18, Try.ntmps18
  go_wp2_with (first | (go_at_call 64; with_reducible refine (HFC.out _ (Ev.alloc (Ev.refl _) _)).mono ?_; rintro e w1 ⟨rfl, hb1⟩; have HB := hid (hb1.heap (alloc1 w (.cells #[.int .i64 f.last, .int .i64 f.size, .int .i64 f.cool, .int .i64 f.die, .int .i64 f.burn, .int .i64 f.st.lo, .int .i64 f.st.hi, .slice Aw nw cw, .slice At nt ct, .slice Ar nr cr] 28)).1); have hG : Ev w w1 := Ev.trans (Ev.alloc (Ev.refl _) _) hb1; obtain ⟨y0, y1, y2, y3, y4, y5, y6, y7, y8, y9⟩ := cells10 HB.out) | (with_reducible refine ⟨trivial, ?_⟩))
  go_ret
  exact ⟨by rw [HT.out, HD.out]; rfl, hG⟩

/-- What ready says of a field. -/
def M.rdy (f : M.Cf) (nw nt nr : Nat) : Bool := (decide (M.small nw nt nr) && M.thin f) && decide (M.check f = 0)
set_option maxRecDepth 100000 in
set_option maxHeartbeats 2000000 in
theorem ready_c (f : M.Cf) (Aw At Ar : Option Addr) (nw cw nt ct nr cr : Nat) (hl0 : -9223372036854775808 ≤ f.last) (w : World) (hs : M.small nw nt nr → CS w w.heap.size f Aw At Ar nw cw nt ct nr cr) :
  Calls Try.prog 50 #[.agg #[.int .i64 f.last, .int .i64 f.size, .int .i64 f.cool, .int .i64 f.die, .int .i64 f.burn, .int .i64 f.st.lo, .int .i64 f.st.hi, .slice Aw nw cw, .slice At nt ct, .slice Ar nr cr]] w fun e w' => e = .returned (.bool (M.rdy f nw nt nr)) ∧ Ev w w' := by
 have hth := fun W (hE : Ev w W) => Thin_c f Aw At Ar nw cw nt ct nr cr hl0 W (fun h => (hs h).ev hE)
 unfold M.rdy
 cases hthin : (decide (M.small nw nt nr) && M.thin f) with
 | false =>
  rw [hthin] at hth
  have HTH := hid hth
  clear hth hs hthin
  go_enter Try.func50, Try.ntmps50
  go_wp2_with (first | (go_at_call 18; with_reducible refine (HTH.out _ (Ev.alloc (Ev.refl _) _)).mono ?_; rintro e w1 ⟨rfl, hb1⟩; have HB := hid (hb1.heap (alloc1 w (.cells #[.int .i64 f.last, .int .i64 f.size, .int .i64 f.cool, .int .i64 f.die, .int .i64 f.burn, .int .i64 f.st.lo, .int .i64 f.st.hi, .slice Aw nw cw, .slice At nt ct, .slice Ar nr cr] 28)).1); have hG : Ev w w1 := Ev.trans (Ev.alloc (Ev.refl _) _) hb1; obtain ⟨y0, y1, y2, y3, y4, y5, y6, y7, y8, y9⟩ := cells10 HB.out) | (with_reducible refine ⟨trivial, ?_⟩))
  go_ret
  exact ⟨rfl, hG⟩
 | true =>
  have hsm : M.small nw nt nr := by
   rw [Bool.and_eq_true, decide_eq_true_eq] at hthin
   exact hthin.1
  have hcs := hs hsm
  have HFC := hid (fun W (hE : Ev w W) => Fault_c f Aw At Ar nw cw nt ct nr cr hl0 W (hcs.ev hE))
  rw [hthin] at hth
  have HTH := hid hth
  clear hth hs hthin hsm hcs
  by_cases hc : M.check f = 0
  ·
   rw [hc] at HFC
   go_enter Try.func50, Try.ntmps50
   go_wp2_with (first | (go_at_call 18; with_reducible refine (HTH.out _ (Ev.alloc (Ev.refl _) _)).mono ?_; rintro e w1 ⟨rfl, hb1⟩; have HB := hid (hb1.heap (alloc1 w (.cells #[.int .i64 f.last, .int .i64 f.size, .int .i64 f.cool, .int .i64 f.die, .int .i64 f.burn, .int .i64 f.st.lo, .int .i64 f.st.hi, .slice Aw nw cw, .slice At nt ct, .slice Ar nr cr] 28)).1); have hG : Ev w w1 := Ev.trans (Ev.alloc (Ev.refl _) _) hb1; obtain ⟨y0, y1, y2, y3, y4, y5, y6, y7, y8, y9⟩ := cells10 HB.out) | (go_at_call 64; with_reducible refine (HFC.out _ hG).mono ?_; rintro e w2 ⟨rfl, hb2⟩) | (with_reducible refine ⟨trivial, ?_⟩))
   go_ret
   exact ⟨by rw [hc]; rfl, hG.trans hb2⟩
  ·
   have HD := hid (show decide (M.check f = 0) = false by simp [hc])
   generalize M.check f = ec at HFC HD hc
   have hc1 : (ec == 0) = false := by simpa using hc
   clear hc
   go_enter Try.func50, Try.ntmps50
   go_wp2_with (first | (go_at_call 18; with_reducible refine (HTH.out _ (Ev.alloc (Ev.refl _) _)).mono ?_; rintro e w1 ⟨rfl, hb1⟩; have HB := hid (hb1.heap (alloc1 w (.cells #[.int .i64 f.last, .int .i64 f.size, .int .i64 f.cool, .int .i64 f.die, .int .i64 f.burn, .int .i64 f.st.lo, .int .i64 f.st.hi, .slice Aw nw cw, .slice At nt ct, .slice Ar nr cr] 28)).1); have hG : Ev w w1 := Ev.trans (Ev.alloc (Ev.refl _) _) hb1; obtain ⟨y0, y1, y2, y3, y4, y5, y6, y7, y8, y9⟩ := cells10 HB.out) | (go_at_call 64; with_reducible refine (HFC.out _ hG).mono ?_; rintro e w2 ⟨rfl, hb2⟩) | (with_reducible refine ⟨trivial, ?_⟩))
   go_ret
   exact ⟨by rw [HD.out]; rfl, hG.trans hb2⟩

end Go.Proofs.Ytgimcephbeajlaa
