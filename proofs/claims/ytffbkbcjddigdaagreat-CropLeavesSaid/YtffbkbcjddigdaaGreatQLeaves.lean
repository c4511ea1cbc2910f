import Derived.Test.YtffbkbcjddigdaaGreatA78
import Derived.Test.YtffbkbcjddigdaaGreatA54
import Derived.Test.YtffbkbcjddigdaaGreatA48
import Derived.Test.YtffbkbcjddigdaaGreatA49
set_option linter.unusedSimpArgs false
set_option linter.unusedVariables false
namespace Go.Proofs.YtffbkbcjddigdaaGreat
open Go.RowKit Go.Shelf

set_option maxRecDepth 100000 in
set_option maxHeartbeats 2000000 in
theorem cropLeaves_no (f : M.Cf) (Ag Aw Ab Ac Al : Option Addr) (ng cg nw cw nb cb nc cc nl cl : Nat) (hl0 : -9223372036854775808 ≤ f.last) (w : World) (hs : M.small ng nw nb nc nl → CS w w.heap.size f Ag Aw Ab Ac Al ng cg nw cw nb cb nc cc nl cl) (hthin : (decide (M.small ng nw nb nc nl) && M.thin f) = false) :
  Calls Tryz.prog 7 #[.agg #[.int .i64 f.last, .slice Ag ng cg, .slice Aw nw cw, .slice Ab nb cb, .slice Ac nc cc, .int .i64 f.ripe, .int .i64 f.late, .int .i64 f.trod, .slice Al nl cl]] w fun e w' => e = .returned (.bool true) ∧ Ev w w' := by
 have HTH := hid (fun W (hE : Ev w W) => by have := Thin_c f Ag Aw Ab Ac Al ng cg nw cw nb cb nc cc nl cl hl0 W (fun h => (hs h).ev hE); rw [hthin] at this; exact this)
 clear hs hthin
 go_enter Tryz.func7, Tryz.ntmps7
 go_wp2_with (first | (go_at_call 10; with_reducible refine (HTH.out _ (Ev.alloc (Ev.refl _) _)).mono ?_; rintro e w1 ⟨rfl, hb1⟩; have hG : Ev w w1 := (Ev.alloc (Ev.refl _) _).trans hb1; have Q0 := hid (hb1.heap (alloc1 w (.cells #[.int .i64 f.last, .slice Ag ng cg, .slice Aw nw cw, .slice Ab nb cb, .slice Ac nc cc, .int .i64 f.ripe, .int .i64 f.late, .int .i64 f.trod, .slice Al nl cl] 26)).1); obtain ⟨y0, y1, y2, y3, y4, y5, y6, y7, y8⟩ := cells9 Q0.out) | (go_at_call 11; with_reducible refine (awake_c _).mono ?_; rintro e w99 ⟨rfl, hb99⟩) | (with_reducible refine ⟨trivial, ?_⟩))
 go_ret
 exact ⟨rfl, hG.trans hb99⟩

set_option maxRecDepth 100000 in
set_option maxHeartbeats 8000000 in
theorem cropLeaves_a (f : M.Cf) (Ag Aw Ab Ac Al : Option Addr) (ng cg nw cw nb cb nc cc nl cl : Nat) (hl0 : -9223372036854775808 ≤ f.last) (w : World) (HCS : Hid (CS w w.heap.size f Ag Aw Ab Ac Al ng cg nw cw nb cb nc cc nl cl)) (hsm : M.small ng nw nb nc nl) (hthin : (decide (M.small ng nw nb nc nl) && M.thin f) = true) (h0 : M.check f ≠ 0) :
  Calls Tryz.prog 7 #[.agg #[.int .i64 f.last, .slice Ag ng cg, .slice Aw nw cw, .slice Ab nb cb, .slice Ac nc cc, .int .i64 f.ripe, .int .i64 f.late, .int .i64 f.trod, .slice Al nl cl]] w fun e w' => e = .returned (.bool true) ∧ Ev w w' := by
 obtain ⟨s0, s1, s2, s3, s4⟩ := hsm
 have HTH := hid (fun W (hE : Ev w W) => by have := Thin_c f Ag Aw Ab Ac Al ng cg nw cw nb cb nc cc nl cl hl0 W (fun _ => HCS.out.ev hE); rw [hthin] at this; exact this)
 have HFA := hid (fun W (hE : Ev w W) => fault_c f Ag Aw Ab Ac Al ng cg nw cw nb cb nc cc nl cl hl0 W (HCS.out.ev hE))
 have HFI := hid (fun (Bg : Option Addr) (dg : Nat) (Bw : Option Addr) (dw : Nat) (Bb : Option Addr) (db : Nat) (Bc : Option Addr) (dc : Nat) (Bl : Option Addr) (dl : Nat) W (h : CS W W.heap.size f Bg Bw Bb Bc Bl ng dg nw dw nb db nc dc nl dl) => by have := First_c f Bg Bw Bb Bc Bl ng dg nw dw nb db nc dc nl dl hl0 W h; rw [show M.wrong f = (0, M.check f) from by unfold M.wrong; rw [if_neg h0]] at this; exact this)
 have HLV := hid (fun (Bg : Option Addr) (dg : Nat) (Bw : Option Addr) (dw : Nat) (Bb : Option Addr) (db : Nat) (Bc : Option Addr) (dc : Nat) (Bl : Option Addr) (dl : Nat) W (h : CS W W.heap.size f Bg Bw Bb Bc Bl ng dg nw dw nb db nc dc nl dl) => Leave_err f Bg Bw Bb Bc Bl ng dg nw dw nb db nc dc nl dl hl0 W h h0)
 have hec := h0
 generalize M.check f = ec at HFI HFA HLV hec
 have c1_ : (ec == 0) = false := by simpa using hec
 have c2_ : (ec != 0) = true := by simpa using hec
 have c3_ : (ec != ec) = false := by simp
 have c4_ : (ec == ec) = true := by simp
 clear h0 hec
 clear hthin
 go_enter Tryz.func7, Tryz.ntmps7
 go_upto_region 3 with (first | (go_at_call 10; with_reducible refine (HTH.out _ (Ev.alloc (Ev.refl _) _)).mono ?_; rintro e w1 ⟨rfl, hb1⟩; have hG : Ev w w1 := (Ev.alloc (Ev.refl _) _).trans hb1; have Q0 := hid (hb1.heap (alloc1 w (.cells #[.int .i64 f.last, .slice Ag ng cg, .slice Aw nw cw, .slice Ab nb cb, .slice Ac nc cc, .int .i64 f.ripe, .int .i64 f.late, .int .i64 f.trod, .slice Al nl cl] 26)).1); obtain ⟨y0, y1, y2, y3, y4, y5, y6, y7, y8⟩ := cells9 Q0.out) | (with_reducible refine ⟨trivial, ?_⟩))
 go_upto_region 5 with (first | (go_at_call 13; with_reducible refine (Field_c f Ag Aw Ab Ac Al ng cg nw cw nb cb nc cc nl cl (by omega) (by omega) (by omega) (by omega) (by omega) _ (HCS.out.ev hG)).mono ?_; rintro e x2 ⟨⟨Bg2, dg2, Bw2, dw2, Bb2, db2, Bc2, dc2, Bl2, dl2, rfl, hc⟩, hb⟩; have HE2 := hid (hG.trans hb); have HV2 := hid (hb); have HC2 := hid hc; clear hc hb) | (go_at_call 32; with_reducible refine (HFI.out Bg2 dg2 Bw2 dw2 Bb2 db2 Bc2 dc2 Bl2 dl2 _ HC2.out).mono ?_; rintro e x3 ⟨rfl, hb⟩; have HE3 := hid (HE2.out.trans hb); have HV3 := hid (HV2.out.trans hb); clear hb; clear y0 y1 y2 y3 y4 y5 y6 y7 y8; obtain ⟨y0, y1, y2, y3, y4, y5, y6, y7, y8⟩ := cells9 (HV3.out.heap Q0.out)) | (go_at_call 13; with_reducible refine (Field_c f Ag Aw Ab Ac Al ng cg nw cw nb cb nc cc nl cl (by omega) (by omega) (by omega) (by omega) (by omega) _ (HCS.out.ev HE3.out)).mono ?_; rintro e x4 ⟨⟨Bg4, dg4, Bw4, dw4, Bb4, db4, Bc4, dc4, Bl4, dl4, rfl, hc⟩, hb⟩; have HE4 := hid (HE3.out.trans hb); have HV4 := hid (HV3.out.trans hb); have HC4 := hid hc; clear hc hb) | (go_at_call 33; with_reducible refine (HLV.out Bg4 dg4 Bw4 dw4 Bb4 db4 Bc4 dc4 Bl4 dl4 _ HC4.out).mono ?_; rintro e x5 ⟨rfl, hb⟩; have HE5 := hid (HE4.out.trans hb); have HV5 := hid (HV4.out.trans hb); clear hb; clear y0 y1 y2 y3 y4 y5 y6 y7 y8; obtain ⟨y0, y1, y2, y3, y4, y5, y6, y7, y8⟩ := cells9 (HV5.out.heap Q0.out)))
 go_wp2_with (first | (go_at_call 17; with_reducible refine (HFA.out _ HE5.out).mono ?_; rintro e x6 ⟨rfl, hb⟩; have HE6 := hid (HE5.out.trans hb); have HV6 := hid (HV5.out.trans hb); have HX6 := hid hb; clear hb; clear y0 y1 y2 y3 y4 y5 y6 y7 y8; obtain ⟨y0, y1, y2, y3, y4, y5, y6, y7, y8⟩ := cells9 (HV6.out.heap Q0.out)) | (go_at_call 11; with_reducible refine (awake_c _).mono ?_; rintro e w99 ⟨rfl, hb99⟩) | (with_reducible refine ⟨trivial, ?_⟩))
 go_ret
 exact ⟨rfl, HE6.out.trans hb99⟩

set_option maxRecDepth 100000 in
set_option maxHeartbeats 8000000 in
theorem cropLeaves_b (f : M.Cf) (Ag Aw Ab Ac Al : Option Addr) (ng cg nw cw nb cb nc cc nl cl : Nat) (hl0 : -9223372036854775808 ≤ f.last) (w : World) (HCS : Hid (CS w w.heap.size f Ag Aw Ab Ac Al ng cg nw cw nb cb nc cc nl cl)) (hsm : M.small ng nw nb nc nl) (hthin : (decide (M.small ng nw nb nc nl) && M.thin f) = true) (h0 : M.check f = 0) (hrf : M.rfirst (M.rall f) 0 nl < 0) (hw : M.wrong f = (0, 7)) :
  Calls Tryz.prog 7 #[.agg #[.int .i64 f.last, .slice Ag ng cg, .slice Aw nw cw, .slice Ab nb cb, .slice Ac nc cc, .int .i64 f.ripe, .int .i64 f.late, .int .i64 f.trod, .slice Al nl cl]] w fun e w' => e = .returned (.bool true) ∧ Ev w w' := by
 obtain ⟨s0, s1, s2, s3, s4⟩ := hsm
 have HTH := hid (fun W (hE : Ev w W) => by have := Thin_c f Ag Aw Ab Ac Al ng cg nw cw nb cb nc cc nl cl hl0 W (fun _ => HCS.out.ev hE); rw [hthin] at this; exact this)
 have HFA := hid (fun W (hE : Ev w W) => fault_c f Ag Aw Ab Ac Al ng cg nw cw nb cb nc cc nl cl hl0 W (HCS.out.ev hE))
 have HFI := hid (fun (Bg : Option Addr) (dg : Nat) (Bw : Option Addr) (dw : Nat) (Bb : Option Addr) (db : Nat) (Bc : Option Addr) (dc : Nat) (Bl : Option Addr) (dl : Nat) W (h : CS W W.heap.size f Bg Bw Bb Bc Bl ng dg nw dw nb db nc dc nl dl) => by have := First_c f Bg Bw Bb Bc Bl ng dg nw dw nb db nc dc nl dl hl0 W h; rw [hw] at this; exact this)
 have hln := HCS.out.l.len
 have hl5 : nl ≤ 5 := by rw [← hln]; exact (M.check0 h0).2.2.1
 have HLV := hid (fun (Bg : Option Addr) (dg : Nat) (Bw : Option Addr) (dw : Nat) (Bb : Option Addr) (db : Nat) (Bc : Option Addr) (dc : Nat) (Bl : Option Addr) (dl : Nat) W (h : CS W W.heap.size f Bg Bw Bb Bc Bl ng dg nw dw nb db nc dc nl dl) => Leave_ok f Bg Bw Bb Bc Bl ng dg nw dw nb db nc dc nl dl hl0 W h h0)
 have HAL := hid (fun W (hE : Ev w W) => All_c f Ag Aw Ab Ac Al ng cg nw cw nb cb nc cc nl cl h0 W (HCS.out.ev hE))
 have HLR := hid (fun B m d W (h : Sl ncs 1 W W.heap.size B m d (M.rall f)) => rLeave_c f Ag Aw Ab Ac Al ng cg nw cw nb cb nc cc nl cl h0 B m d W hln h)
 have HRF := hid (fun B m d W (h : Sl ncs 1 W W.heap.size B m d (M.rall f)) => rFirst_c f Ag Aw Ab Ac Al ng cg nw cw nb cb nc cc nl cl hl5 B m d (M.rall f) (M.rall_small h0) W h)
 rw [h0] at HFA
 have hfc := M.first_is h0
 rw [hln] at hfc
 generalize M.rall f = all at HAL HLR HRF hfc hrf
 generalize M.shortest (M.spares f) nl = best at HLV HLR
 have HII := hid (fun B1 d1 B2 d2 W (h1 : Sl ics 1 W W.heap.size B1 best.length d1 best) (h2 : Sl ics 1 W W.heap.size B2 best.length d2 best) => by have := ints_c B1 B2 best.length d1 best.length d2 best best W h1 h2; rw [decide_eq_true (rfl : best = best)] at this; exact this)
 generalize M.rfirst all 0 nl = rf at HRF hfc hrf
 have c1_ : ¬ (rf ≥ 0) := by omega
 have c2_ : ¬ ((0 : Int) ≤ rf) := by omega
 clear h0 hw hfc hln
 clear hthin
 go_enter Tryz.func7, Tryz.ntmps7
 go_upto_region 3 with (first | (go_at_call 10; with_reducible refine (HTH.out _ (Ev.alloc (Ev.refl _) _)).mono ?_; rintro e w1 ⟨rfl, hb1⟩; have hG : Ev w w1 := (Ev.alloc (Ev.refl _) _).trans hb1; have Q0 := hid (hb1.heap (alloc1 w (.cells #[.int .i64 f.last, .slice Ag ng cg, .slice Aw nw cw, .slice Ab nb cb, .slice Ac nc cc, .int .i64 f.ripe, .int .i64 f.late, .int .i64 f.trod, .slice Al nl cl] 26)).1); obtain ⟨y0, y1, y2, y3, y4, y5, y6, y7, y8⟩ := cells9 Q0.out) | (with_reducible refine ⟨trivial, ?_⟩))
 go_upto_region 5 with (first | (go_at_call 13; with_reducible refine (Field_c f Ag Aw Ab Ac Al ng cg nw cw nb cb nc cc nl cl (by omega) (by omega) (by omega) (by omega) (by omega) _ (HCS.out.ev hG)).mono ?_; rintro e x2 ⟨⟨Bg2, dg2, Bw2, dw2, Bb2, db2, Bc2, dc2, Bl2, dl2, rfl, hc⟩, hb⟩; have HE2 := hid (hG.trans hb); have HV2 := hid (hb); have HC2 := hid hc; clear hc hb) | (go_at_call 32; with_reducible refine (HFI.out Bg2 dg2 Bw2 dw2 Bb2 db2 Bc2 dc2 Bl2 dl2 _ HC2.out).mono ?_; rintro e x3 ⟨rfl, hb⟩; have HE3 := hid (HE2.out.trans hb); have HV3 := hid (HV2.out.trans hb); clear hb; clear y0 y1 y2 y3 y4 y5 y6 y7 y8; obtain ⟨y0, y1, y2, y3, y4, y5, y6, y7, y8⟩ := cells9 (HV3.out.heap Q0.out)) | (go_at_call 13; with_reducible refine (Field_c f Ag Aw Ab Ac Al ng cg nw cw nb cb nc cc nl cl (by omega) (by omega) (by omega) (by omega) (by omega) _ (HCS.out.ev HE3.out)).mono ?_; rintro e x4 ⟨⟨Bg4, dg4, Bw4, dw4, Bb4, db4, Bc4, dc4, Bl4, dl4, rfl, hc⟩, hb⟩; have HE4 := hid (HE3.out.trans hb); have HV4 := hid (HV3.out.trans hb); have HC4 := hid hc; clear hc hb) | (go_at_call 33; with_reducible refine (HLV.out Bg4 dg4 Bw4 dw4 Bb4 db4 Bc4 dc4 Bl4 dl4 _ HC4.out).mono ?_; rintro e x5 ⟨⟨BT, dT, rfl, ht⟩, hb⟩; have HE5 := hid (HE4.out.trans hb); have HV5 := hid (HV4.out.trans hb); have HT5 := hid ht; have HX5 := hid (Ev.refl x5); clear ht hb; clear y0 y1 y2 y3 y4 y5 y6 y7 y8; obtain ⟨y0, y1, y2, y3, y4, y5, y6, y7, y8⟩ := cells9 (HV5.out.heap Q0.out)))
 go_wp2_with (first | (go_at_call 17; with_reducible refine (HFA.out _ HE5.out).mono ?_; rintro e x6 ⟨rfl, hb⟩; have HE6 := hid (HE5.out.trans hb); have HV6 := hid (HV5.out.trans hb); have HX6 := hid hb; clear hb; clear y0 y1 y2 y3 y4 y5 y6 y7 y8; obtain ⟨y0, y1, y2, y3, y4, y5, y6, y7, y8⟩ := cells9 (HV6.out.heap Q0.out)) | (go_at_call 34; with_reducible refine (HAL.out _ HE6.out).mono ?_; rintro e x7 ⟨⟨BA, mA, dA, rfl, ha⟩, hb⟩; have HE7 := hid (HE6.out.trans hb); have HV7 := hid (HV6.out.trans hb); have HX7 := hid (HX6.out.trans hb); have HA7 := hid ha; clear ha hb; clear y0 y1 y2 y3 y4 y5 y6 y7 y8; obtain ⟨y0, y1, y2, y3, y4, y5, y6, y7, y8⟩ := cells9 (HV7.out.heap Q0.out)) | (go_at_call 35; with_reducible refine (HLR.out BA mA dA _ HA7.out).mono ?_; rintro e x8 ⟨⟨BR, dR, rfl, hr⟩, hb⟩; have HE8 := hid (HE7.out.trans hb); have HV8 := hid (HV7.out.trans hb); have HX8 := hid (HX7.out.trans hb); have HY8 := hid hb; have HR8 := hid hr; clear hr hb; clear y0 y1 y2 y3 y4 y5 y6 y7 y8; obtain ⟨y0, y1, y2, y3, y4, y5, y6, y7, y8⟩ := cells9 (HV8.out.heap Q0.out)) | (go_at_call 31; with_reducible refine (HII.out BT dT BR dR _ (HT5.out.ev HX8.out) HR8.out).mono ?_; rintro e x9 ⟨rfl, hb⟩; have HE9 := hid (HE8.out.trans hb); have HV9 := hid (HV8.out.trans hb); have HY9 := hid (HY8.out.trans hb); clear hb; clear y0 y1 y2 y3 y4 y5 y6 y7 y8; obtain ⟨y0, y1, y2, y3, y4, y5, y6, y7, y8⟩ := cells9 (HV9.out.heap Q0.out)) | (go_at_call 36; with_reducible refine (HRF.out BA mA dA _ (HA7.out.ev HY9.out)).mono ?_; rintro e x10 ⟨rfl, hb⟩; have HE10 := hid (HE9.out.trans hb); have HV10 := hid (HV9.out.trans hb); clear hb; clear y0 y1 y2 y3 y4 y5 y6 y7 y8; obtain ⟨y0, y1, y2, y3, y4, y5, y6, y7, y8⟩ := cells9 (HV10.out.heap Q0.out)) | (go_at_call 11; with_reducible refine (awake_c _).mono ?_; rintro e w99 ⟨rfl, hb99⟩) | (with_reducible refine ⟨trivial, ?_⟩))
 go_ret
 exact ⟨rfl, HE10.out.trans hb99⟩

set_option maxRecDepth 100000 in
set_option maxHeartbeats 8000000 in
theorem cropLeaves_c1 (f : M.Cf) (Ag Aw Ab Ac Al : Option Addr) (ng cg nw cw nb cb nc cc nl cl : Nat) (hl0 : -9223372036854775808 ≤ f.last) (w : World) (HCS : Hid (CS w w.heap.size f Ag Aw Ab Ac Al ng cg nw cw nb cb nc cc nl cl)) (hsm : M.small ng nw nb nc nl) (hthin : (decide (M.small ng nw nb nc nl) && M.thin f) = true) (h0 : M.check f = 0) (hrf : 0 ≤ M.rfirst (M.rall f) 0 nl) (hw : M.wrong f = (M.rfirst (M.rall f) 0 nl, 0)) :
  Calls Tryz.prog 7 #[.agg #[.int .i64 f.last, .slice Ag ng cg, .slice Aw nw cw, .slice Ab nb cb, .slice Ac nc cc, .int .i64 f.ripe, .int .i64 f.late, .int .i64 f.trod, .slice Al nl cl]] w fun e w' => e = .returned (.bool true) ∧ Ev w w' := by
 obtain ⟨s0, s1, s2, s3, s4⟩ := hsm
 have HTH := hid (fun W (hE : Ev w W) => by have := Thin_c f Ag Aw Ab Ac Al ng cg nw cw nb cb nc cc nl cl hl0 W (fun _ => HCS.out.ev hE); rw [hthin] at this; exact this)
 have HFA := hid (fun W (hE : Ev w W) => fault_c f Ag Aw Ab Ac Al ng cg nw cw nb cb nc cc nl cl hl0 W (HCS.out.ev hE))
 have HFI := hid (fun (Bg : Option Addr) (dg : Nat) (Bw : Option Addr) (dw : Nat) (Bb : Option Addr) (db : Nat) (Bc : Option Addr) (dc : Nat) (Bl : Option Addr) (dl : Nat) W (h : CS W W.heap.size f Bg Bw Bb Bc Bl ng dg nw dw nb db nc dc nl dl) => by have := First_c f Bg Bw Bb Bc Bl ng dg nw dw nb db nc dc nl dl hl0 W h; rw [hw] at this; exact this)
 have hln := HCS.out.l.len
 have hl5 : nl ≤ 5 := by rw [← hln]; exact (M.check0 h0).2.2.1
 have HLV := hid (fun (Bg : Option Addr) (dg : Nat) (Bw : Option Addr) (dw : Nat) (Bb : Option Addr) (db : Nat) (Bc : Option Addr) (dc : Nat) (Bl : Option Addr) (dl : Nat) W (h : CS W W.heap.size f Bg Bw Bb Bc Bl ng dg nw dw nb db nc dc nl dl) => Leave_ok f Bg Bw Bb Bc Bl ng dg nw dw nb db nc dc nl dl hl0 W h h0)
 have HAL := hid (fun W (hE : Ev w W) => All_c f Ag Aw Ab Ac Al ng cg nw cw nb cb nc cc nl cl h0 W (HCS.out.ev hE))
 have HLR := hid (fun B m d W (h : Sl ncs 1 W W.heap.size B m d (M.rall f)) => rLeave_c f Ag Aw Ab Ac Al ng cg nw cw nb cb nc cc nl cl h0 B m d W hln h)
 have HRF := hid (fun B m d W (h : Sl ncs 1 W W.heap.size B m d (M.rall f)) => rFirst_c f Ag Aw Ab Ac Al ng cg nw cw nb cb nc cc nl cl hl5 B m d (M.rall f) (M.rall_small h0) W h)
 rw [h0] at HFA
 have hfc := M.first_is h0
 rw [hln] at hfc
 generalize M.rall f = all at HAL HLR HRF hfc hrf HFI
 generalize M.shortest (M.spares f) nl = best at HLV HLR
 have HII := hid (fun B1 d1 B2 d2 W (h1 : Sl ics 1 W W.heap.size B1 best.length d1 best) (h2 : Sl ics 1 W W.heap.size B2 best.length d2 best) => by have := ints_c B1 B2 best.length d1 best.length d2 best best W h1 h2; rw [decide_eq_true (rfl : best = best)] at this; exact this)
 generalize M.rfirst all 0 nl = rf at HRF hfc hrf HFI
 have c1_ : rf ≥ 0 := hrf
 have c4_ : (rf == rf) = true := by simp
 clear h0 hw hfc hln
 clear hthin
 go_enter Tryz.func7, Tryz.ntmps7
 go_upto_region 3 with (first | (go_at_call 10; with_reducible refine (HTH.out _ (Ev.alloc (Ev.refl _) _)).mono ?_; rintro e w1 ⟨rfl, hb1⟩; have hG : Ev w w1 := (Ev.alloc (Ev.refl _) _).trans hb1; have Q0 := hid (hb1.heap (alloc1 w (.cells #[.int .i64 f.last, .slice Ag ng cg, .slice Aw nw cw, .slice Ab nb cb, .slice Ac nc cc, .int .i64 f.ripe, .int .i64 f.late, .int .i64 f.trod, .slice Al nl cl] 26)).1); obtain ⟨y0, y1, y2, y3, y4, y5, y6, y7, y8⟩ := cells9 Q0.out) | (with_reducible refine ⟨trivial, ?_⟩))
 go_upto_region 5 with (first | (go_at_call 13; with_reducible refine (Field_c f Ag Aw Ab Ac Al ng cg nw cw nb cb nc cc nl cl (by omega) (by omega) (by omega) (by omega) (by omega) _ (HCS.out.ev hG)).mono ?_; rintro e x2 ⟨⟨Bg2, dg2, Bw2, dw2, Bb2, db2, Bc2, dc2, Bl2, dl2, rfl, hc⟩, hb⟩; have HE2 := hid (hG.trans hb); have HV2 := hid (hb); have HC2 := hid hc; clear hc hb) | (go_at_call 32; with_reducible refine (HFI.out Bg2 dg2 Bw2 dw2 Bb2 db2 Bc2 dc2 Bl2 dl2 _ HC2.out).mono ?_; rintro e x3 ⟨rfl, hb⟩; have HE3 := hid (HE2.out.trans hb); have HV3 := hid (HV2.out.trans hb); clear hb; clear y0 y1 y2 y3 y4 y5 y6 y7 y8; obtain ⟨y0, y1, y2, y3, y4, y5, y6, y7, y8⟩ := cells9 (HV3.out.heap Q0.out)) | (go_at_call 13; with_reducible refine (Field_c f Ag Aw Ab Ac Al ng cg nw cw nb cb nc cc nl cl (by omega) (by omega) (by omega) (by omega) (by omega) _ (HCS.out.ev HE3.out)).mono ?_; rintro e x4 ⟨⟨Bg4, dg4, Bw4, dw4, Bb4, db4, Bc4, dc4, Bl4, dl4, rfl, hc⟩, hb⟩; have HE4 := hid (HE3.out.trans hb); have HV4 := hid (HV3.out.trans hb); have HC4 := hid hc; clear hc hb) | (go_at_call 33; with_reducible refine (HLV.out Bg4 dg4 Bw4 dw4 Bb4 db4 Bc4 dc4 Bl4 dl4 _ HC4.out).mono ?_; rintro e x5 ⟨⟨BT, dT, rfl, ht⟩, hb⟩; have HE5 := hid (HE4.out.trans hb); have HV5 := hid (HV4.out.trans hb); have HT5 := hid ht; have HX5 := hid (Ev.refl x5); clear ht hb; clear y0 y1 y2 y3 y4 y5 y6 y7 y8; obtain ⟨y0, y1, y2, y3, y4, y5, y6, y7, y8⟩ := cells9 (HV5.out.heap Q0.out)))
 go_wp2_with (first | (go_at_call 17; with_reducible refine (HFA.out _ HE5.out).mono ?_; rintro e x6 ⟨rfl, hb⟩; have HE6 := hid (HE5.out.trans hb); have HV6 := hid (HV5.out.trans hb); have HX6 := hid hb; clear hb; clear y0 y1 y2 y3 y4 y5 y6 y7 y8; obtain ⟨y0, y1, y2, y3, y4, y5, y6, y7, y8⟩ := cells9 (HV6.out.heap Q0.out)) | (go_at_call 34; with_reducible refine (HAL.out _ HE6.out).mono ?_; rintro e x7 ⟨⟨BA, mA, dA, rfl, ha⟩, hb⟩; have HE7 := hid (HE6.out.trans hb); have HV7 := hid (HV6.out.trans hb); have HX7 := hid (HX6.out.trans hb); have HA7 := hid ha; clear ha hb; clear y0 y1 y2 y3 y4 y5 y6 y7 y8; obtain ⟨y0, y1, y2, y3, y4, y5, y6, y7, y8⟩ := cells9 (HV7.out.heap Q0.out)) | (go_at_call 35; with_reducible refine (HLR.out BA mA dA _ HA7.out).mono ?_; rintro e x8 ⟨⟨BR, dR, rfl, hr⟩, hb⟩; have HE8 := hid (HE7.out.trans hb); have HV8 := hid (HV7.out.trans hb); have HX8 := hid (HX7.out.trans hb); have HY8 := hid hb; have HR8 := hid hr; clear hr hb; clear y0 y1 y2 y3 y4 y5 y6 y7 y8; obtain ⟨y0, y1, y2, y3, y4, y5, y6, y7, y8⟩ := cells9 (HV8.out.heap Q0.out)) | (go_at_call 31; with_reducible refine (HII.out BT dT BR dR _ (HT5.out.ev HX8.out) HR8.out).mono ?_; rintro e x9 ⟨rfl, hb⟩; have HE9 := hid (HE8.out.trans hb); have HV9 := hid (HV8.out.trans hb); have HY9 := hid (HY8.out.trans hb); clear hb; clear y0 y1 y2 y3 y4 y5 y6 y7 y8; obtain ⟨y0, y1, y2, y3, y4, y5, y6, y7, y8⟩ := cells9 (HV9.out.heap Q0.out)) | (go_at_call 36; with_reducible refine (HRF.out BA mA dA _ (HA7.out.ev HY9.out)).mono ?_; rintro e x10 ⟨rfl, hb⟩; have HE10 := hid (HE9.out.trans hb); have HV10 := hid (HV9.out.trans hb); clear hb; clear y0 y1 y2 y3 y4 y5 y6 y7 y8; obtain ⟨y0, y1, y2, y3, y4, y5, y6, y7, y8⟩ := cells9 (HV10.out.heap Q0.out)) | (go_at_call 11; with_reducible refine (awake_c _).mono ?_; rintro e w99 ⟨rfl, hb99⟩) | (with_reducible refine ⟨trivial, ?_⟩))
 go_ret
 exact ⟨rfl, HE10.out.trans hb99⟩

theorem cropLeaves_c (f : M.Cf) (Ag Aw Ab Ac Al : Option Addr) (ng cg nw cw nb cb nc cc nl cl : Nat) (hl0 : -9223372036854775808 ≤ f.last) (w : World) (hs : M.small ng nw nb nc nl → CS w w.heap.size f Ag Aw Ab Ac Al ng cg nw cw nb cb nc cc nl cl) :
  Calls Tryz.prog 7 #[.agg #[.int .i64 f.last, .slice Ag ng cg, .slice Aw nw cw, .slice Ab nb cb, .slice Ac nc cc, .int .i64 f.ripe, .int .i64 f.late, .int .i64 f.trod, .slice Al nl cl]] w fun e w' => e = .returned (.bool true) ∧ Ev w w' := by
 cases hthin : (decide (M.small ng nw nb nc nl) && M.thin f) with
 | false => exact cropLeaves_no f Ag Aw Ab Ac Al ng cg nw cw nb cb nc cc nl cl hl0 w hs hthin
 | true =>
  have hsm : M.small ng nw nb nc nl := by
   rw [Bool.and_eq_true, decide_eq_true_eq] at hthin
   exact hthin.1
  have HCS := hid (hs hsm)
  by_cases h0 : M.check f = 0
  ·
   have hfc := M.first_is h0
   rw [HCS.out.l.len] at hfc
   rcases hfc with ⟨h1, h2⟩ | ⟨h1, h2⟩
   ·
    exact cropLeaves_b f Ag Aw Ab Ac Al ng cg nw cw nb cb nc cc nl cl hl0 w HCS hsm hthin h0 h1 h2
   ·
    exact cropLeaves_c1 f Ag Aw Ab Ac Al ng cg nw cw nb cb nc cc nl cl hl0 w HCS hsm hthin h0 h1 h2
  ·
   exact cropLeaves_a f Ag Aw Ab Ac Al ng cg nw cw nb cb nc cc nl cl hl0 w HCS hsm hthin h0

end Go.Proofs.YtffbkbcjddigdaaGreat
