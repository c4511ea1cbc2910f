import Derived.Test.YtffbkbcjddigdaaGreatA79
import Derived.Test.YtffbkbcjddigdaaGreatA54
import Derived.Test.YtffbkbcjddigdaaGreatA48
import Derived.Test.YtffbkbcjddigdaaGreatA49
set_option linter.unusedSimpArgs false
set_option linter.unusedVariables false
namespace Go.Proofs.YtffbkbcjddigdaaGreat
open Go.RowKit Go.Shelf

set_option maxRecDepth 100000 in
set_option maxHeartbeats 2000000 in
theorem cropBest_no (f : M.Cf) (Ag Aw Ab Ac Al : Option Addr) (ng cg nw cw nb cb nc cc nl cl : Nat) (hl0 : -9223372036854775808 ≤ f.last) (w : World) (hs : M.small ng nw nb nc nl → CS w w.heap.size f Ag Aw Ab Ac Al ng cg nw cw nb cb nc cc nl cl) (hthin : (decide (M.small ng nw nb nc nl) && M.thin f) = false) :
  Calls Tryz.prog 6 #[.agg #[.int .i64 f.last, .slice Ag ng cg, .slice Aw nw cw, .slice Ab nb cb, .slice Ac nc cc, .int .i64 f.ripe, .int .i64 f.late, .int .i64 f.trod, .slice Al nl cl]] w fun e w' => e = .returned (.bool true) ∧ Ev w w' := by
 have HTH := hid (fun W (hE : Ev w W) => by have := Thin_c f Ag Aw Ab Ac Al ng cg nw cw nb cb nc cc nl cl hl0 W (fun h => (hs h).ev hE); rw [hthin] at this; exact this)
 clear hs hthin
 go_enter Tryz.func6, Tryz.ntmps6
 go_wp2_with (first | (go_at_call 10; with_reducible refine (HTH.out _ (Ev.alloc (Ev.refl _) _)).mono ?_; rintro e w1 ⟨rfl, hb1⟩; have hG : Ev w w1 := (Ev.alloc (Ev.refl _) _).trans hb1; have Q0 := hid (hb1.heap (alloc1 w (.cells #[.int .i64 f.last, .slice Ag ng cg, .slice Aw nw cw, .slice Ab nb cb, .slice Ac nc cc, .int .i64 f.ripe, .int .i64 f.late, .int .i64 f.trod, .slice Al nl cl] 26)).1); obtain ⟨y0, y1, y2, y3, y4, y5, y6, y7, y8⟩ := cells9 Q0.out) | (go_at_call 11; with_reducible refine (awake_c _).mono ?_; rintro e w99 ⟨rfl, hb99⟩) | (with_reducible refine ⟨trivial, ?_⟩))
 go_ret
 exact ⟨rfl, hG.trans hb99⟩

set_option maxRecDepth 100000 in
set_option maxHeartbeats 8000000 in
theorem cropBest_a (f : M.Cf) (Ag Aw Ab Ac Al : Option Addr) (ng cg nw cw nb cb nc cc nl cl : Nat) (hl0 : -9223372036854775808 ≤ f.last) (w : World) (HCS : Hid (CS w w.heap.size f Ag Aw Ab Ac Al ng cg nw cw nb cb nc cc nl cl)) (hsm : M.small ng nw nb nc nl) (hthin : (decide (M.small ng nw nb nc nl) && M.thin f) = true) (h0 : M.begin f true ≠ 0) :
  Calls Tryz.prog 6 #[.agg #[.int .i64 f.last, .slice Ag ng cg, .slice Aw nw cw, .slice Ab nb cb, .slice Ac nc cc, .int .i64 f.ripe, .int .i64 f.late, .int .i64 f.trod, .slice Al nl cl]] w fun e w' => e = .returned (.bool true) ∧ Ev w w' := by
 obtain ⟨s0, s1, s2, s3, s4⟩ := hsm
 have HTH := hid (fun W (hE : Ev w W) => by have := Thin_c f Ag Aw Ab Ac Al ng cg nw cw nb cb nc cc nl cl hl0 W (fun _ => HCS.out.ev hE); rw [hthin] at this; exact this)
 have HSU := hid (fun W (hE : Ev w W) => sure_c f Ag Aw Ab Ac Al ng cg nw cw nb cb nc cc nl cl hl0 W (HCS.out.ev hE))
 have HBS := hid (fun (Bg : Option Addr) (dg : Nat) (Bw : Option Addr) (dw : Nat) (Bb : Option Addr) (db : Nat) (Bc : Option Addr) (dc : Nat) (Bl : Option Addr) (dl : Nat) W (h : CS W W.heap.size f Bg Bw Bb Bc Bl ng dg nw dw nb db nc dc nl dl) => Best_err f Bg Bw Bb Bc Bl ng dg nw dw nb db nc dc nl dl hl0 W h h0)
 generalize M.begin f true = ec at HBS HSU h0
 have c1_ : (ec == 0) = false := by simpa using h0
 have c2_ : (ec != 0) = true := by simpa using h0
 have c3_ : (ec != ec) = false := by simp
 have c4_ : (ec == ec) = true := by simp
 clear h0
 clear hthin
 go_enter Tryz.func6, Tryz.ntmps6
 go_upto_region 3 with (first | (go_at_call 10; with_reducible refine (HTH.out _ (Ev.alloc (Ev.refl _) _)).mono ?_; rintro e w1 ⟨rfl, hb1⟩; have hG : Ev w w1 := (Ev.alloc (Ev.refl _) _).trans hb1; have Q0 := hid (hb1.heap (alloc1 w (.cells #[.int .i64 f.last, .slice Ag ng cg, .slice Aw nw cw, .slice Ab nb cb, .slice Ac nc cc, .int .i64 f.ripe, .int .i64 f.late, .int .i64 f.trod, .slice Al nl cl] 26)).1); obtain ⟨y0, y1, y2, y3, y4, y5, y6, y7, y8⟩ := cells9 Q0.out) | (with_reducible refine ⟨trivial, ?_⟩))
 go_upto_region 4 with (first | (go_at_call 13; with_reducible refine (Field_c f Ag Aw Ab Ac Al ng cg nw cw nb cb nc cc nl cl (by omega) (by omega) (by omega) (by omega) (by omega) _ (HCS.out.ev hG)).mono ?_; rintro e x2 ⟨⟨Bg2, dg2, Bw2, dw2, Bb2, db2, Bc2, dc2, Bl2, dl2, rfl, hc⟩, hb⟩; have HE2 := hid (hG.trans hb); have HV2 := hid hb; have HC2 := hid hc; clear hc hb) | (go_at_call 29; with_reducible refine (HBS.out Bg2 dg2 Bw2 dw2 Bb2 db2 Bc2 dc2 Bl2 dl2 _ HC2.out).mono ?_; rintro e x3 ⟨rfl, hb⟩; have HE3 := hid (HE2.out.trans hb); have HV3 := hid (HV2.out.trans hb); clear hb; clear y0 y1 y2 y3 y4 y5 y6 y7 y8; obtain ⟨y0, y1, y2, y3, y4, y5, y6, y7, y8⟩ := cells9 (HV3.out.heap Q0.out)))
 go_wp2_with (first | (go_at_call 16; with_reducible refine (HSU.out _ HE3.out).mono ?_; rintro e x4 ⟨⟨LB, lm, ld, rfl, hm, htl⟩, hb⟩; have HE4 := hid (HE3.out.trans hb); have HV4 := hid (HV3.out.trans hb); have HTL := hid htl; have HK4 := hid (Ev.refl x4); clear htl; clear hb; clear y0 y1 y2 y3 y4 y5 y6 y7 y8; obtain ⟨y0, y1, y2, y3, y4, y5, y6, y7, y8⟩ := cells9 (HV4.out.heap Q0.out)) | (go_at_call 11; with_reducible refine (awake_c _).mono ?_; rintro e w99 ⟨rfl, hb99⟩) | (with_reducible refine ⟨trivial, ?_⟩))
 go_ret
 exact ⟨rfl, HE4.out.trans hb99⟩

set_option maxRecDepth 100000 in
set_option maxHeartbeats 8000000 in
theorem cropBest_b (f : M.Cf) (Ag Aw Ab Ac Al : Option Addr) (ng cg nw cw nb cb nc cc nl cl : Nat) (hl0 : -9223372036854775808 ≤ f.last) (w : World) (HCS : Hid (CS w w.heap.size f Ag Aw Ab Ac Al ng cg nw cw nb cb nc cc nl cl)) (hsm : M.small ng nw nb nc nl) (hthin : (decide (M.small ng nw nb nc nl) && M.thin f) = true) (h0 : M.begin f true = 0) :
  Calls Tryz.prog 6 #[.agg #[.int .i64 f.last, .slice Ag ng cg, .slice Aw nw cw, .slice Ab nb cb, .slice Ac nc cc, .int .i64 f.ripe, .int .i64 f.late, .int .i64 f.trod, .slice Al nl cl]] w fun e w' => e = .returned (.bool true) ∧ Ev w w' := by
 obtain ⟨s0, s1, s2, s3, s4⟩ := hsm
 have HTH := hid (fun W (hE : Ev w W) => by have := Thin_c f Ag Aw Ab Ac Al ng cg nw cw nb cb nc cc nl cl hl0 W (fun _ => HCS.out.ev hE); rw [hthin] at this; exact this)
 have HSU := hid (fun W (hE : Ev w W) => sure_c f Ag Aw Ab Ac Al ng cg nw cw nb cb nc cc nl cl hl0 W (HCS.out.ev hE))
 obtain ⟨hc0, _, hne⟩ := M.begin0 h0
 have HBS := hid (fun (Bg : Option Addr) (dg : Nat) (Bw : Option Addr) (dw : Nat) (Bb : Option Addr) (db : Nat) (Bc : Option Addr) (dc : Nat) (Bl : Option Addr) (dl : Nat) W (h : CS W W.heap.size f Bg Bw Bb Bc Bl ng dg nw dw nb db nc dc nl dl) => Best_ok f Bg Bw Bb Bc Bl ng dg nw dw nb db nc dc nl dl hl0 W h h0)
 have HRB := hid (fun L ln lc W (hE : Ev w W) (hl : TL W L ln lc (M.rtr f)) => by have := rBest_c f Ag Aw Ab Ac Al ng cg nw cw nb cb nc cc nl cl L ln lc (M.rtr f) hc0 (M.rtr_listed hc0) W (HCS.out.ev hE) hl; rw [M.best_is hc0 hne] at this; exact this)
 rw [h0] at HSU
 generalize M.best f (M.truths f) = bb at HBS HRB
 obtain ⟨best, n⟩ := bb
 simp only at HBS HRB
 have HII := hid (fun B1 d1 B2 d2 W (h1 : Sl ics 1 W W.heap.size B1 best.length d1 best) (h2 : Sl ics 1 W W.heap.size B2 best.length d2 best) => by have := ints_c B1 B2 best.length d1 best.length d2 best best W h1 h2; rw [decide_eq_true (rfl : best = best)] at this; exact this)
 have c4_ : (n == n) = true := by simp
 clear h0 hc0 hne
 clear hthin
 go_enter Tryz.func6, Tryz.ntmps6
 go_upto_region 3 with (first | (go_at_call 10; with_reducible refine (HTH.out _ (Ev.alloc (Ev.refl _) _)).mono ?_; rintro e w1 ⟨rfl, hb1⟩; have hG : Ev w w1 := (Ev.alloc (Ev.refl _) _).trans hb1; have Q0 := hid (hb1.heap (alloc1 w (.cells #[.int .i64 f.last, .slice Ag ng cg, .slice Aw nw cw, .slice Ab nb cb, .slice Ac nc cc, .int .i64 f.ripe, .int .i64 f.late, .int .i64 f.trod, .slice Al nl cl] 26)).1); obtain ⟨y0, y1, y2, y3, y4, y5, y6, y7, y8⟩ := cells9 Q0.out) | (with_reducible refine ⟨trivial, ?_⟩))
 go_upto_region 4 with (first | (go_at_call 13; with_reducible refine (Field_c f Ag Aw Ab Ac Al ng cg nw cw nb cb nc cc nl cl (by omega) (by omega) (by omega) (by omega) (by omega) _ (HCS.out.ev hG)).mono ?_; rintro e x2 ⟨⟨Bg2, dg2, Bw2, dw2, Bb2, db2, Bc2, dc2, Bl2, dl2, rfl, hc⟩, hb⟩; have HE2 := hid (hG.trans hb); have HV2 := hid hb; have HC2 := hid hc; clear hc hb) | (go_at_call 29; with_reducible refine (HBS.out Bg2 dg2 Bw2 dw2 Bb2 db2 Bc2 dc2 Bl2 dl2 _ HC2.out).mono ?_; rintro e x3 ⟨⟨BT, dT, rfl, hbt⟩, hb⟩; have HE3 := hid (HE2.out.trans hb); have HV3 := hid (HV2.out.trans hb); have HT3 := hid hbt; have HX3 := hid (Ev.refl x3); clear hbt; clear hb; clear y0 y1 y2 y3 y4 y5 y6 y7 y8; obtain ⟨y0, y1, y2, y3, y4, y5, y6, y7, y8⟩ := cells9 (HV3.out.heap Q0.out)))
 go_wp2_with (first | (go_at_call 16; with_reducible refine (HSU.out _ HE3.out).mono ?_; rintro e x4 ⟨⟨LB, lm, ld, rfl, hm, htl⟩, hb⟩; have HE4 := hid (HE3.out.trans hb); have HV4 := hid (HV3.out.trans hb); have HX4 := hid (HX3.out.trans hb); have HTL := hid htl; have HK4 := hid (Ev.refl x4); clear htl; clear hb; clear y0 y1 y2 y3 y4 y5 y6 y7 y8; obtain ⟨y0, y1, y2, y3, y4, y5, y6, y7, y8⟩ := cells9 (HV4.out.heap Q0.out)) | (go_at_call 30; with_reducible refine (HRB.out LB lm ld _ HE4.out (HTL.out (by first | exact trivial | rfl))).mono ?_; rintro e x5 ⟨⟨BR, dR, rfl, hr⟩, hb⟩; have HE5 := hid (HE4.out.trans hb); have HV5 := hid (HV4.out.trans hb); have HX5 := hid (HX4.out.trans hb); have HK5 := hid (HK4.out.trans hb); have HY5 := hid (Ev.refl x5); have HR5 := hid hr; clear hr; clear hb; clear y0 y1 y2 y3 y4 y5 y6 y7 y8; obtain ⟨y0, y1, y2, y3, y4, y5, y6, y7, y8⟩ := cells9 (HV5.out.heap Q0.out)) | (go_at_call 31; with_reducible refine (HII.out BT dT BR dR _ (HT3.out.ev HX5.out) HR5.out).mono ?_; rintro e x6 ⟨rfl, hb⟩; have HE6 := hid (HE5.out.trans hb); have HV6 := hid (HV5.out.trans hb); clear hb; clear y0 y1 y2 y3 y4 y5 y6 y7 y8; obtain ⟨y0, y1, y2, y3, y4, y5, y6, y7, y8⟩ := cells9 (HV6.out.heap Q0.out)) | (go_at_call 11; with_reducible refine (awake_c _).mono ?_; rintro e w99 ⟨rfl, hb99⟩) | (with_reducible refine ⟨trivial, ?_⟩))
 go_ret
 exact ⟨rfl, HE6.out.trans hb99⟩

theorem cropBest_c (f : M.Cf) (Ag Aw Ab Ac Al : Option Addr) (ng cg nw cw nb cb nc cc nl cl : Nat) (hl0 : -9223372036854775808 ≤ f.last) (w : World) (hs : M.small ng nw nb nc nl → CS w w.heap.size f Ag Aw Ab Ac Al ng cg nw cw nb cb nc cc nl cl) :
  Calls Tryz.prog 6 #[.agg #[.int .i64 f.last, .slice Ag ng cg, .slice Aw nw cw, .slice Ab nb cb, .slice Ac nc cc, .int .i64 f.ripe, .int .i64 f.late, .int .i64 f.trod, .slice Al nl cl]] w fun e w' => e = .returned (.bool true) ∧ Ev w w' := by
 cases hthin : (decide (M.small ng nw nb nc nl) && M.thin f) with
 | false => exact cropBest_no f Ag Aw Ab Ac Al ng cg nw cw nb cb nc cc nl cl hl0 w hs hthin
 | true =>
  have hsm : M.small ng nw nb nc nl := by
   rw [Bool.and_eq_true, decide_eq_true_eq] at hthin
   exact hthin.1
  have HCS := hid (hs hsm)
  by_cases h0 : M.begin f true = 0
  ·
   exact cropBest_b f Ag Aw Ab Ac Al ng cg nw cw nb cb nc cc nl cl hl0 w HCS hsm hthin h0
  ·
   exact cropBest_a f Ag Aw Ab Ac Al ng cg nw cw nb cb nc cc nl cl hl0 w HCS hsm hthin h0

end Go.Proofs.YtffbkbcjddigdaaGreat
