import Derived.Test.YtffbkbcjddigdaaA53
set_option linter.unusedSimpArgs false
set_option linter.unusedVariables false
namespace Go.Proofs.Ytffbkbcjddigdaa
open Go.RowKit Go.Shelf

/-- What Thin asks of the lists' lengths. -/
def M.small (ng nw nb nc nl : Nat) : Prop := ng ≤ 12 ∧ nw ≤ 12 ∧ nb ≤ 5 ∧ nc ≤ 12 ∧ nl ≤ 7
instance (ng nw nb nc nl : Nat) : Decidable (M.small ng nw nb nc nl) := by unfold M.small; infer_instance
def M.thin (f : M.Cf) : Bool := decide (M.check f ≠ 0) || decide (M.many f ≤ 100)
theorem M.gr_bd {f : M.Cf} (hv : M.valid f = true) : ∀ r ∈ f.gr, 0 ≤ r.lo ∧ r.lo ≤ r.hi ∧ r.hi ≤ 50 := fun r hr => by
 have := (M.valid_parts hv).2.2.1 r hr
 unfold M.isGrowth M.upTo at this
 simpa only [Bool.and_eq_true, decide_eq_true_eq] using this
theorem M.gw_len {f : M.Cf} (hv : M.valid f = true) : f.gr.length = f.wet.length := by
 have := M.valid_parts hv
 omega

set_option maxRecDepth 100000 in
set_option maxHeartbeats 1000000 in
theorem fault_c (f : M.Cf) (Ag Aw Ab Ac Al : Option Addr) (ng cg nw cw nb cb nc cc nl cl : Nat) (hl0 : -9223372036854775808 ≤ f.last) (w : World) (hs : CS w w.heap.size f Ag Aw Ab Ac Al ng cg nw cw nb cb nc cc nl cl) :
  Calls Try.prog 20 #[.agg #[.int .i64 f.last, .slice Ag ng cg, .slice Aw nw cw, .slice Ab nb cb, .slice Ac nc cc, .int .i64 f.ripe, .int .i64 f.late, .int .i64 f.trod, .slice Al nl cl]] w fun e w' => e = .returned (.int .i64 (M.check f)) ∧ Ev w w' := by
 have HFC := hid (fun W (hE : Ev w W) => Fault_c f Ag Aw Ab Ac Al ng cg nw cw nb cb nc cc nl cl hl0 W (hs.ev hE))
 clear hs
 go_enter Try.func20, Try.ntmps20
 go_wp2_with (go_at_call 50; with_reducible refine (HFC.out _ (Ev.alloc (Ev.refl _) _)).mono ?_; rintro e w1 ⟨rfl, hb1⟩)
 go_ret
 exact ⟨rfl, (Ev.alloc (Ev.refl _) _).trans hb1⟩

set_option maxRecDepth 100000 in
set_option maxHeartbeats 4000000 in
theorem Thin_c (f : M.Cf) (Ag Aw Ab Ac Al : Option Addr) (ng cg nw cw nb cb nc cc nl cl : Nat) (hl0 : -9223372036854775808 ≤ f.last) (w : World) (hs : M.small ng nw nb nc nl → CS w w.heap.size f Ag Aw Ab Ac Al ng cg nw cw nb cb nc cc nl cl) :
  Calls Try.prog 13 #[.agg #[.int .i64 f.last, .slice Ag ng cg, .slice Aw nw cw, .slice Ab nb cb, .slice Ac nc cc, .int .i64 f.ripe, .int .i64 f.late, .int .i64 f.trod, .slice Al nl cl]] w fun e w' => e = .returned (.bool (decide (M.small ng nw nb nc nl) && M.thin f)) ∧ Ev w w' := by
 by_cases q0 : ng ≤ 12
 case neg =>
  have HD := hid (show (decide (M.small ng nw nb nc nl) && M.thin f) = false by rw [decide_eq_false (by unfold M.small; omega)]; rfl)
  have q0a : ¬ ((ng : Int) ≤ 12) := by omega
  clear hs
  go_enter Try.func13, Try.ntmps13
  go_wp2_with (with_reducible refine ⟨trivial, ?_⟩)
  go_ret
  exact ⟨by rw [HD.out]; rfl, Ev.alloc (Ev.refl _) _⟩
 have q0a : (ng : Int) ≤ 12 := by omega
 by_cases q1 : nw ≤ 12
 case neg =>
  have HD := hid (show (decide (M.small ng nw nb nc nl) && M.thin f) = false by rw [decide_eq_false (by unfold M.small; omega)]; rfl)
  have q1a : ¬ ((nw : Int) ≤ 12) := by omega
  clear hs
  go_enter Try.func13, Try.ntmps13
  go_wp2_with (with_reducible refine ⟨trivial, ?_⟩)
  go_ret
  exact ⟨by rw [HD.out]; rfl, Ev.alloc (Ev.refl _) _⟩
 have q1a : (nw : Int) ≤ 12 := by omega
 by_cases q2 : nb ≤ 5
 case neg =>
  have HD := hid (show (decide (M.small ng nw nb nc nl) && M.thin f) = false by rw [decide_eq_false (by unfold M.small; omega)]; rfl)
  have q2a : ¬ ((nb : Int) ≤ 5) := by omega
  clear hs
  go_enter Try.func13, Try.ntmps13
  go_wp2_with (with_reducible refine ⟨trivial, ?_⟩)
  go_ret
  exact ⟨by rw [HD.out]; rfl, Ev.alloc (Ev.refl _) _⟩
 have q2a : (nb : Int) ≤ 5 := by omega
 by_cases q3 : nc ≤ 12
 case neg =>
  have HD := hid (show (decide (M.small ng nw nb nc nl) && M.thin f) = false by rw [decide_eq_false (by unfold M.small; omega)]; rfl)
  have q3a : ¬ ((nc : Int) ≤ 12) := by omega
  clear hs
  go_enter Try.func13, Try.ntmps13
  go_wp2_with (with_reducible refine ⟨trivial, ?_⟩)
  go_ret
  exact ⟨by rw [HD.out]; rfl, Ev.alloc (Ev.refl _) _⟩
 have q3a : (nc : Int) ≤ 12 := by omega
 by_cases q4 : nl ≤ 7
 case neg =>
  have HD := hid (show (decide (M.small ng nw nb nc nl) && M.thin f) = false by rw [decide_eq_false (by unfold M.small; omega)]; rfl)
  have q4a : ¬ ((nl : Int) ≤ 7) := by omega
  clear hs
  go_enter Try.func13, Try.ntmps13
  go_wp2_with (with_reducible refine ⟨trivial, ?_⟩)
  go_ret
  exact ⟨by rw [HD.out]; rfl, Ev.alloc (Ev.refl _) _⟩
 have q4a : (nl : Int) ≤ 7 := by omega
 have hsm : M.small ng nw nb nc nl := ⟨q0, q1, q2, q3, q4⟩
 have hcs := hs hsm
 have HFC := hid (fun W (hE : Ev w W) => Fault_c f Ag Aw Ab Ac Al ng cg nw cw nb cb nc cc nl cl hl0 W (hcs.ev hE))
 have HT := hid (show (decide (M.small ng nw nb nc nl) && M.thin f) = (decide (M.check f ≠ 0) || decide (M.many f ≤ 100)) by rw [decide_eq_true hsm, Bool.true_and]; rfl)
 clear hs hsm
 by_cases hc : M.check f = 0
 ·
  have hv := (M.check0 hc).2.2.2.1
  have HMC := hid (fun W (hE : Ev w W) => Many_c f Ag Aw Ab Ac Al ng cg nw cw nb cb nc cc nl cl (M.gw_len hv) (M.gr_bd hv) (M.valid_parts hv).2.2.2.2.1 W (hcs.ev hE))
  rw [hc] at HFC HT
  generalize M.many f = mm at HMC HT
  clear hcs hv hc
  by_cases hm : mm ≤ 100
  ·
   have HD := hid (show (decide ((0 : Int) ≠ 0) || decide (mm ≤ 100)) = true by simp [hm])
   go_enter Try.func13, Try.ntmps13
   go_wp2_with (first | (go_at_call 50; with_reducible refine (HFC.out _ (Ev.alloc (Ev.refl _) _)).mono ?_; rintro e w1 ⟨rfl, hb1⟩; have HB := hid (hb1.heap (alloc1 w (.cells #[.int .i64 f.last, .slice Ag ng cg, .slice Aw nw cw, .slice Ab nb cb, .slice Ac nc cc, .int .i64 f.ripe, .int .i64 f.late, .int .i64 f.trod, .slice Al nl cl] 26)).1); have hG : Ev w w1 := Ev.trans (Ev.alloc (Ev.refl _) _) hb1; obtain ⟨y0, y1, y2, y3, y4, y5, y6, y7, y8⟩ := cells9 HB.out) | (go_at_call 43; with_reducible refine (HMC.out _ hG).mono ?_; rintro e w2 ⟨rfl, hb2⟩) | (with_reducible refine ⟨trivial, ?_⟩))
   go_ret
   exact ⟨by rw [HT.out, HD.out]; first | rfl | (simp [*]; done) | (show Ending.returned (.bool (decide (mm ≤ 100))) = _; rw [hd1]), hG.trans hb2⟩
  ·
   have HD := hid (show (decide ((0 : Int) ≠ 0) || decide (mm ≤ 100)) = false by simp [hm])
   have hd1 : decide (mm ≤ 100) = false := decide_eq_false hm
   go_enter Try.func13, Try.ntmps13
   go_wp2_with (first | (go_at_call 50; with_reducible refine (HFC.out _ (Ev.alloc (Ev.refl _) _)).mono ?_; rintro e w1 ⟨rfl, hb1⟩; have HB := hid (hb1.heap (alloc1 w (.cells #[.int .i64 f.last, .slice Ag ng cg, .slice Aw nw cw, .slice Ab nb cb, .slice Ac nc cc, .int .i64 f.ripe, .int .i64 f.late, .int .i64 f.trod, .slice Al nl cl] 26)).1); have hG : Ev w w1 := Ev.trans (Ev.alloc (Ev.refl _) _) hb1; obtain ⟨y0, y1, y2, y3, y4, y5, y6, y7, y8⟩ := cells9 HB.out) | (go_at_call 43; with_reducible refine (HMC.out _ hG).mono ?_; rintro e w2 ⟨rfl, hb2⟩) | (with_reducible refine ⟨trivial, ?_⟩))
   go_ret
   exact ⟨by rw [HT.out, HD.out]; first | rfl | (simp [*]; done) | (show Ending.returned (.bool (decide (mm ≤ 100))) = _; rw [hd1]), hG.trans hb2⟩
 ·
  have HD := hid (show (decide (M.check f ≠ 0) || decide (M.many f ≤ 100)) = true by simp [hc])
  generalize M.check f = ec at HFC HT HD hc
  have hc1 : (ec != 0) = true := by simpa using hc
  clear hcs hc
  go_enter Try.func13, Try.ntmps13
  go_wp2_with (first | (go_at_call 50; with_reducible refine (HFC.out _ (Ev.alloc (Ev.refl _) _)).mono ?_; rintro e w1 ⟨rfl, hb1⟩; have HB := hid (hb1.heap (alloc1 w (.cells #[.int .i64 f.last, .slice Ag ng cg, .slice Aw nw cw, .slice Ab nb cb, .slice Ac nc cc, .int .i64 f.ripe, .int .i64 f.late, .int .i64 f.trod, .slice Al nl cl] 26)).1); have hG : Ev w w1 := Ev.trans (Ev.alloc (Ev.refl _) _) hb1; obtain ⟨y0, y1, y2, y3, y4, y5, y6, y7, y8⟩ := cells9 HB.out) | (with_reducible refine ⟨trivial, ?_⟩))
  go_ret
  exact ⟨by rw [HT.out, HD.out]; rfl, hG⟩

/-- What ready says of a field. -/
def M.rdy (f : M.Cf) (ng nw nb nc nl : Nat) : Bool := (decide (M.small ng nw nb nc nl) && M.thin f) && decide (M.check f = 0)
set_option maxRecDepth 100000 in
set_option maxHeartbeats 2000000 in
theorem ready_c (f : M.Cf) (Ag Aw Ab Ac Al : Option Addr) (ng cg nw cw nb cb nc cc nl cl : Nat) (hl0 : -9223372036854775808 ≤ f.last) (w : World) (hs : M.small ng nw nb nc nl → CS w w.heap.size f Ag Aw Ab Ac Al ng cg nw cw nb cb nc cc nl cl) :
  Calls Try.prog 37 #[.agg #[.int .i64 f.last, .slice Ag ng cg, .slice Aw nw cw, .slice Ab nb cb, .slice Ac nc cc, .int .i64 f.ripe, .int .i64 f.late, .int .i64 f.trod, .slice Al nl cl]] w fun e w' => e = .returned (.bool (M.rdy f ng nw nb nc nl)) ∧ Ev w w' := by
 have hth := fun W (hE : Ev w W) => Thin_c f Ag Aw Ab Ac Al ng cg nw cw nb cb nc cc nl cl hl0 W (fun h => (hs h).ev hE)
 unfold M.rdy
 cases hthin : (decide (M.small ng nw nb nc nl) && M.thin f) with
 | false =>
  rw [hthin] at hth
  have HTH := hid hth
  clear hth hs hthin
  go_enter Try.func37, Try.ntmps37
  go_wp2_with (first | (go_at_call 13; with_reducible refine (HTH.out _ (Ev.alloc (Ev.refl _) _)).mono ?_; rintro e w1 ⟨rfl, hb1⟩; have HB := hid (hb1.heap (alloc1 w (.cells #[.int .i64 f.last, .slice Ag ng cg, .slice Aw nw cw, .slice Ab nb cb, .slice Ac nc cc, .int .i64 f.ripe, .int .i64 f.late, .int .i64 f.trod, .slice Al nl cl] 26)).1); have hG : Ev w w1 := Ev.trans (Ev.alloc (Ev.refl _) _) hb1; obtain ⟨y0, y1, y2, y3, y4, y5, y6, y7, y8⟩ := cells9 HB.out) | (with_reducible refine ⟨trivial, ?_⟩))
  go_ret
  exact ⟨rfl, hG⟩
 | true =>
  have hsm : M.small ng nw nb nc nl := by
   rw [Bool.and_eq_true, decide_eq_true_eq] at hthin
   exact hthin.1
  have hcs := hs hsm
  have HFC := hid (fun W (hE : Ev w W) => Fault_c f Ag Aw Ab Ac Al ng cg nw cw nb cb nc cc nl cl hl0 W (hcs.ev hE))
  rw [hthin] at hth
  have HTH := hid hth
  clear hth hs hthin hsm hcs
  by_cases hc : M.check f = 0
  ·
   rw [hc] at HFC
   go_enter Try.func37, Try.ntmps37
   go_wp2_with (first | (go_at_call 13; with_reducible refine (HTH.out _ (Ev.alloc (Ev.refl _) _)).mono ?_; rintro e w1 ⟨rfl, hb1⟩; have HB := hid (hb1.heap (alloc1 w (.cells #[.int .i64 f.last, .slice Ag ng cg, .slice Aw nw cw, .slice Ab nb cb, .slice Ac nc cc, .int .i64 f.ripe, .int .i64 f.late, .int .i64 f.trod, .slice Al nl cl] 26)).1); have hG : Ev w w1 := Ev.trans (Ev.alloc (Ev.refl _) _) hb1; obtain ⟨y0, y1, y2, y3, y4, y5, y6, y7, y8⟩ := cells9 HB.out) | (go_at_call 50; with_reducible refine (HFC.out _ hG).mono ?_; rintro e w2 ⟨rfl, hb2⟩) | (with_reducible refine ⟨trivial, ?_⟩))
   go_ret
   exact ⟨by rw [hc]; rfl, hG.trans hb2⟩
  ·
   have HD := hid (show decide (M.check f = 0) = false by simp [hc])
   generalize M.check f = ec at HFC HD hc
   have hc1 : (ec == 0) = false := by simpa using hc
   clear hc
   go_enter Try.func37, Try.ntmps37
   go_wp2_with (first | (go_at_call 13; with_reducible refine (HTH.out _ (Ev.alloc (Ev.refl _) _)).mono ?_; rintro e w1 ⟨rfl, hb1⟩; have HB := hid (hb1.heap (alloc1 w (.cells #[.int .i64 f.last, .slice Ag ng cg, .slice Aw nw cw, .slice Ab nb cb, .slice Ac nc cc, .int .i64 f.ripe, .int .i64 f.late, .int .i64 f.trod, .slice Al nl cl] 26)).1); have hG : Ev w w1 := Ev.trans (Ev.alloc (Ev.refl _) _) hb1; obtain ⟨y0, y1, y2, y3, y4, y5, y6, y7, y8⟩ := cells9 HB.out) | (go_at_call 50; with_reducible refine (HFC.out _ hG).mono ?_; rintro e w2 ⟨rfl, hb2⟩) | (with_reducible refine ⟨trivial, ?_⟩))
   go_ret
   exact ⟨by rw [HD.out]; rfl, hG.trans hb2⟩

end Go.Proofs.Ytffbkbcjddigdaa
