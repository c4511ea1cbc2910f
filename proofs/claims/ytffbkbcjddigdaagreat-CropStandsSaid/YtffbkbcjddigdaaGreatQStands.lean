import Derived.Test.YtffbkbcjddigdaaGreatA76
import Derived.Test.YtffbkbcjddigdaaGreatA54
import Derived.Test.YtffbkbcjddigdaaGreatA48
import Derived.Test.YtffbkbcjddigdaaGreatA49
set_option linter.unusedSimpArgs false
set_option linter.unusedVariables false
namespace Go.Proofs.YtffbkbcjddigdaaGreat
open Go.RowKit Go.Shelf

theorem M.on_is {f : M.Cf} (h0 : M.check f = 0) (hn : M.truths f ≠ []) (k : Nat) : M.onR f (M.rtr f) k = M.on f (M.truths f) k := by
 have hv := (M.check_ok h0).1
 have hn2 : M.rtr f ≠ [] := fun e => hn ((M.rtr_nil h0).1 e)
 unfold M.onR M.on
 rw [M.widen_span (by simpa using hn2), Int.toNat_natCast]
 ·
  refine M.span_set (fun y => ?_) (by simpa using hn2)
  simp only [List.mem_map, M.rtr_mem h0]
 ·
  intro y hy
  obtain ⟨t, ht, rfl⟩ := List.mem_map.1 hy
  obtain ⟨htg, _, hgb, _⟩ := M.listed_bd hv (M.rtr_listed h0 t ht)
  have hvl := (M.valid_parts hv).2.1
  have h9 := (M.check0 h0).1
  have := getD_bd (l := M.weights t.gr f.crops) (lo := 0) (hi := 500) (by omega) (by omega) (M.weights_bd (by omega) hgb) k
  omega
set_option maxRecDepth 100000 in
set_option maxHeartbeats 2000000 in
theorem cropStands_no (f : M.Cf) (Ag Aw Ab Ac Al : Option Addr) (ng cg nw cw nb cb nc cc nl cl : Nat) (hl0 : -9223372036854775808 ≤ f.last) (wk : Int) (w : World) (hs : M.small ng nw nb nc nl → CS w w.heap.size f Ag Aw Ab Ac Al ng cg nw cw nb cb nc cc nl cl) (hthin : (decide (M.small ng nw nb nc nl) && M.thin f) = false) :
  Calls Tryz.prog 4 #[.agg #[.int .i64 f.last, .slice Ag ng cg, .slice Aw nw cw, .slice Ab nb cb, .slice Ac nc cc, .int .i64 f.ripe, .int .i64 f.late, .int .i64 f.trod, .slice Al nl cl], .int .i64 wk] w fun e w' => e = .returned (.bool true) ∧ Ev w w' := by
 have HTH := hid (fun W (hE : Ev w W) => by have := Thin_c f Ag Aw Ab Ac Al ng cg nw cw nb cb nc cc nl cl hl0 W (fun h => (hs h).ev hE); rw [hthin] at this; exact this)
 clear hs hthin
 go_enter Tryz.func4, Tryz.ntmps4
 go_wp2_with (first | (go_at_call 10; with_reducible refine (HTH.out _ (Ev.alloc (Ev.refl _) _)).mono ?_; rintro e w1 ⟨rfl, hb1⟩; have hG : Ev w w1 := (Ev.alloc (Ev.refl _) _).trans hb1; have Q0 := hid (hb1.heap (alloc1 w (.cells #[.int .i64 f.last, .slice Ag ng cg, .slice Aw nw cw, .slice Ab nb cb, .slice Ac nc cc, .int .i64 f.ripe, .int .i64 f.late, .int .i64 f.trod, .slice Al nl cl] 26)).1); obtain ⟨y0, y1, y2, y3, y4, y5, y6, y7, y8⟩ := cells9 Q0.out) | (go_at_call 11; with_reducible refine (awake_c _).mono ?_; rintro e w99 ⟨rfl, hb99⟩) | (with_reducible refine ⟨trivial, ?_⟩))
 go_ret
 exact ⟨rfl, hG.trans hb99⟩

set_option maxRecDepth 100000 in
set_option maxHeartbeats 8000000 in
theorem cropStands_a (f : M.Cf) (Ag Aw Ab Ac Al : Option Addr) (ng cg nw cw nb cb nc cc nl cl : Nat) (hl0 : -9223372036854775808 ≤ f.last) (wk : Int) (w : World) (HCS : Hid (CS w w.heap.size f Ag Aw Ab Ac Al ng cg nw cw nb cb nc cc nl cl)) (hsm : M.small ng nw nb nc nl) (hthin : (decide (M.small ng nw nb nc nl) && M.thin f) = true) (h0 : M.check f ≠ 0) :
  Calls Tryz.prog 4 #[.agg #[.int .i64 f.last, .slice Ag ng cg, .slice Aw nw cw, .slice Ab nb cb, .slice Ac nc cc, .int .i64 f.ripe, .int .i64 f.late, .int .i64 f.trod, .slice Al nl cl], .int .i64 wk] w fun e w' => e = .returned (.bool true) ∧ Ev w w' := by
 obtain ⟨s0, s1, s2, s3, s4⟩ := hsm
 have HTH := hid (fun W (hE : Ev w W) => by have := Thin_c f Ag Aw Ab Ac Al ng cg nw cw nb cb nc cc nl cl hl0 W (fun _ => HCS.out.ev hE); rw [hthin] at this; exact this)
 have HFA := hid (fun W (hE : Ev w W) => fault_c f Ag Aw Ab Ac Al ng cg nw cw nb cb nc cc nl cl hl0 W (HCS.out.ev hE))
 have HSU := hid (fun W (hE : Ev w W) => sure_c f Ag Aw Ab Ac Al ng cg nw cw nb cb nc cc nl cl hl0 W (HCS.out.ev hE))
 have hbg : ∀ b, M.begin f b = M.check f := fun b => by unfold M.begin; rw [if_pos h0]
 have HSD := hid (fun (Bg : Option Addr) (dg : Nat) (Bw : Option Addr) (dw : Nat) (Bb : Option Addr) (db : Nat) (Bc : Option Addr) (dc : Nat) (Bl : Option Addr) (dl : Nat) W (h : CS W W.heap.size f Bg Bw Bb Bc Bl ng dg nw dw nb db nc dc nl dl) => by have := Standing_err f Bg Bw Bb Bc Bl ng dg nw dw nb db nc dc nl dl wk hl0 W h (by rw [hbg]; exact h0); rw [hbg] at this; exact this)
 rw [hbg] at HSU
 have hec := h0
 generalize M.check f = ec at HSD HFA HSU hec
 have c1_ : (ec == 0) = false := by simpa using hec
 have c2_ : (ec != 0) = true := by simpa using hec
 have c3_ : (ec != ec) = false := by simp
 have c4_ : (ec == ec) = true := by simp
 clear h0 hbg hec
 clear hthin
 go_enter Tryz.func4, Tryz.ntmps4
 go_upto_region 3 with (first | (go_at_call 10; with_reducible refine (HTH.out _ (Ev.alloc (Ev.refl _) _)).mono ?_; rintro e w1 ⟨rfl, hb1⟩; have hG : Ev w w1 := (Ev.alloc (Ev.refl _) _).trans hb1; have Q0 := hid (hb1.heap (alloc1 w (.cells #[.int .i64 f.last, .slice Ag ng cg, .slice Aw nw cw, .slice Ab nb cb, .slice Ac nc cc, .int .i64 f.ripe, .int .i64 f.late, .int .i64 f.trod, .slice Al nl cl] 26)).1); obtain ⟨y0, y1, y2, y3, y4, y5, y6, y7, y8⟩ := cells9 Q0.out) | (with_reducible refine ⟨trivial, ?_⟩))
 go_upto_region 4 with (first | (go_at_call 13; with_reducible refine (Field_c f Ag Aw Ab Ac Al ng cg nw cw nb cb nc cc nl cl (by omega) (by omega) (by omega) (by omega) (by omega) _ (HCS.out.ev hG)).mono ?_; rintro e x2 ⟨⟨Bg, dg, Bw, dw, Bb, db, Bc, dc, Bl, dl, rfl, hc⟩, hb⟩; have HE2 := hid (hG.trans hb); have HV2 := hid hb; have HC2 := hid hc; clear hc hb) | (go_at_call 22; with_reducible refine (HSD.out Bg dg Bw dw Bb db Bc dc Bl dl _ HC2.out).mono ?_; rintro e x3 ⟨rfl, hb⟩; have HE3 := hid (HE2.out.trans hb); have HV3 := hid (HV2.out.trans hb); clear hb))
 generalize hWA : World.alloc x3 _ = WA
 have hEA : Ev x3 WA := by rw [← hWA]; exact Ev.alloc (Ev.refl _) _
 have hal := alloc1 x3 (.cells #[.int .i64 0, .int .i64 0] 40)
 rw [hWA] at hal
 have HR := hid hal.1
 have HEA := hid (HE3.out.trans hEA)
 have HVA := hid (HV3.out.trans hEA)
 have HAA := hid (Ev.refl WA)
 clear hal hWA hEA HE3 HV3 HE2 HV2 HC2 y0 y1 y2 y3 y4 y5 y6 y7 y8
 generalize x3.heap.size = p at HR
 obtain ⟨y0, y1, y2, y3, y4, y5, y6, y7, y8⟩ := cells9 (HVA.out.heap Q0.out)
 obtain ⟨z0, z1⟩ := cells2 HR.out
 go_wp2_with (first | (go_at_call 16; with_reducible refine (HSU.out _ HEA.out).mono ?_; rintro e x4 ⟨⟨LB, lm, ld, rfl, hm, htl⟩, hb⟩; have HE4 := hid (HEA.out.trans hb); have HV4 := hid (HVA.out.trans hb); have HA4 := hid hb; have HTL := hid htl; clear htl hb; clear y0 y1 y2 y3 y4 y5 y6 y7 y8; clear z0 z1; obtain ⟨y0, y1, y2, y3, y4, y5, y6, y7, y8⟩ := cells9 (HV4.out.heap Q0.out); obtain ⟨z0, z1⟩ := cells2 (HA4.out.heap HR.out)) | (go_at_call 17; with_reducible refine (HFA.out _ HE4.out).mono ?_; rintro e x5 ⟨rfl, hb⟩; have HE5 := hid (HE4.out.trans hb); have HV5 := hid (HV4.out.trans hb); have HA5 := hid (HA4.out.trans hb); have HK5 := hid hb; clear hb; clear y0 y1 y2 y3 y4 y5 y6 y7 y8; clear z0 z1; obtain ⟨y0, y1, y2, y3, y4, y5, y6, y7, y8⟩ := cells9 (HV5.out.heap Q0.out); obtain ⟨z0, z1⟩ := cells2 (HA5.out.heap HR.out)) | (go_at_call 23; with_reducible refine (HIN.out _).mono ?_; rintro e wz ⟨rfl, hwz⟩; replace hwz := hwz.symm; subst hwz) | (go_at_call 11; with_reducible refine (awake_c _).mono ?_; rintro e w99 ⟨rfl, hb99⟩) | (with_reducible refine ⟨trivial, ?_⟩))
 go_ret
 exact ⟨rfl, HE5.out.trans hb99⟩

set_option maxRecDepth 100000 in
set_option maxHeartbeats 8000000 in
theorem cropStands_b (f : M.Cf) (Ag Aw Ab Ac Al : Option Addr) (ng cg nw cw nb cb nc cc nl cl : Nat) (hl0 : -9223372036854775808 ≤ f.last) (wk : Int) (w : World) (HCS : Hid (CS w w.heap.size f Ag Aw Ab Ac Al ng cg nw cw nb cb nc cc nl cl)) (hsm : M.small ng nw nb nc nl) (hthin : (decide (M.small ng nw nb nc nl) && M.thin f) = true) (h0 : M.check f = 0) (hw : M.hasWeek f wk = false) :
  Calls Tryz.prog 4 #[.agg #[.int .i64 f.last, .slice Ag ng cg, .slice Aw nw cw, .slice Ab nb cb, .slice Ac nc cc, .int .i64 f.ripe, .int .i64 f.late, .int .i64 f.trod, .slice Al nl cl], .int .i64 wk] w fun e w' => e = .returned (.bool true) ∧ Ev w w' := by
 obtain ⟨s0, s1, s2, s3, s4⟩ := hsm
 have HTH := hid (fun W (hE : Ev w W) => by have := Thin_c f Ag Aw Ab Ac Al ng cg nw cw nb cb nc cc nl cl hl0 W (fun _ => HCS.out.ev hE); rw [hthin] at this; exact this)
 have HFA := hid (fun W (hE : Ev w W) => fault_c f Ag Aw Ab Ac Al ng cg nw cw nb cb nc cc nl cl hl0 W (HCS.out.ev hE))
 have HSU := hid (fun W (hE : Ev w W) => sure_c f Ag Aw Ab Ac Al ng cg nw cw nb cb nc cc nl cl hl0 W (HCS.out.ev hE))
 have hbg : M.begin f (M.hasWeek f wk) = 2 := by unfold M.begin; rw [if_neg (by simp [h0]), hw, if_pos rfl]
 have HSD := hid (fun (Bg : Option Addr) (dg : Nat) (Bw : Option Addr) (dw : Nat) (Bb : Option Addr) (db : Nat) (Bc : Option Addr) (dc : Nat) (Bl : Option Addr) (dl : Nat) W (h : CS W W.heap.size f Bg Bw Bb Bc Bl ng dg nw dw nb db nc dc nl dl) => by have := Standing_err f Bg Bw Bb Bc Bl ng dg nw dw nb db nc dc nl dl wk hl0 W h (by rw [hbg]; decide); rw [hbg] at this; exact this)
 have HIN := hid (fun W => by have := In_s wk 0 f.last W; rw [show M.isIn wk 0 f.last = false from hw] at this; exact this)
 rw [h0] at HFA
 generalize M.begin f true = ec at HSU
 clear h0 hbg hw
 clear hthin
 go_enter Tryz.func4, Tryz.ntmps4
 go_upto_region 3 with (first | (go_at_call 10; with_reducible refine (HTH.out _ (Ev.alloc (Ev.refl _) _)).mono ?_; rintro e w1 ⟨rfl, hb1⟩; have hG : Ev w w1 := (Ev.alloc (Ev.refl _) _).trans hb1; have Q0 := hid (hb1.heap (alloc1 w (.cells #[.int .i64 f.last, .slice Ag ng cg, .slice Aw nw cw, .slice Ab nb cb, .slice Ac nc cc, .int .i64 f.ripe, .int .i64 f.late, .int .i64 f.trod, .slice Al nl cl] 26)).1); obtain ⟨y0, y1, y2, y3, y4, y5, y6, y7, y8⟩ := cells9 Q0.out) | (with_reducible refine ⟨trivial, ?_⟩))
 go_upto_region 4 with (first | (go_at_call 13; with_reducible refine (Field_c f Ag Aw Ab Ac Al ng cg nw cw nb cb nc cc nl cl (by omega) (by omega) (by omega) (by omega) (by omega) _ (HCS.out.ev hG)).mono ?_; rintro e x2 ⟨⟨Bg, dg, Bw, dw, Bb, db, Bc, dc, Bl, dl, rfl, hc⟩, hb⟩; have HE2 := hid (hG.trans hb); have HV2 := hid hb; have HC2 := hid hc; clear hc hb) | (go_at_call 22; with_reducible refine (HSD.out Bg dg Bw dw Bb db Bc dc Bl dl _ HC2.out).mono ?_; rintro e x3 ⟨rfl, hb⟩; have HE3 := hid (HE2.out.trans hb); have HV3 := hid (HV2.out.trans hb); clear hb))
 generalize hWA : World.alloc x3 _ = WA
 have hEA : Ev x3 WA := by rw [← hWA]; exact Ev.alloc (Ev.refl _) _
 have hal := alloc1 x3 (.cells #[.int .i64 0, .int .i64 0] 40)
 rw [hWA] at hal
 have HR := hid hal.1
 have HEA := hid (HE3.out.trans hEA)
 have HVA := hid (HV3.out.trans hEA)
 have HAA := hid (Ev.refl WA)
 clear hal hWA hEA HE3 HV3 HE2 HV2 HC2 y0 y1 y2 y3 y4 y5 y6 y7 y8
 generalize x3.heap.size = p at HR
 obtain ⟨y0, y1, y2, y3, y4, y5, y6, y7, y8⟩ := cells9 (HVA.out.heap Q0.out)
 obtain ⟨z0, z1⟩ := cells2 HR.out
 go_wp2_with (first | (go_at_call 16; with_reducible refine (HSU.out _ HEA.out).mono ?_; rintro e x4 ⟨⟨LB, lm, ld, rfl, hm, htl⟩, hb⟩; have HE4 := hid (HEA.out.trans hb); have HV4 := hid (HVA.out.trans hb); have HA4 := hid hb; have HTL := hid htl; clear htl hb; clear y0 y1 y2 y3 y4 y5 y6 y7 y8; clear z0 z1; obtain ⟨y0, y1, y2, y3, y4, y5, y6, y7, y8⟩ := cells9 (HV4.out.heap Q0.out); obtain ⟨z0, z1⟩ := cells2 (HA4.out.heap HR.out)) | (go_at_call 17; with_reducible refine (HFA.out _ HE4.out).mono ?_; rintro e x5 ⟨rfl, hb⟩; have HE5 := hid (HE4.out.trans hb); have HV5 := hid (HV4.out.trans hb); have HA5 := hid (HA4.out.trans hb); have HK5 := hid hb; clear hb; clear y0 y1 y2 y3 y4 y5 y6 y7 y8; clear z0 z1; obtain ⟨y0, y1, y2, y3, y4, y5, y6, y7, y8⟩ := cells9 (HV5.out.heap Q0.out); obtain ⟨z0, z1⟩ := cells2 (HA5.out.heap HR.out)) | (go_at_call 23; with_reducible refine (HIN.out _).mono ?_; rintro e wz ⟨rfl, hwz⟩; replace hwz := hwz.symm; subst hwz) | (go_at_call 11; with_reducible refine (awake_c _).mono ?_; rintro e w99 ⟨rfl, hb99⟩) | (with_reducible refine ⟨trivial, ?_⟩))
 go_ret
 exact ⟨rfl, HE5.out.trans hb99⟩

set_option maxRecDepth 100000 in
set_option maxHeartbeats 8000000 in
theorem cropStands_c1 (f : M.Cf) (Ag Aw Ab Ac Al : Option Addr) (ng cg nw cw nb cb nc cc nl cl : Nat) (hl0 : -9223372036854775808 ≤ f.last) (wk : Int) (w : World) (HCS : Hid (CS w w.heap.size f Ag Aw Ab Ac Al ng cg nw cw nb cb nc cc nl cl)) (hsm : M.small ng nw nb nc nl) (hthin : (decide (M.small ng nw nb nc nl) && M.thin f) = true) (h0 : M.check f = 0) (hw : M.hasWeek f wk = true) (ht : M.truths f = []) :
  Calls Tryz.prog 4 #[.agg #[.int .i64 f.last, .slice Ag ng cg, .slice Aw nw cw, .slice Ab nb cb, .slice Ac nc cc, .int .i64 f.ripe, .int .i64 f.late, .int .i64 f.trod, .slice Al nl cl], .int .i64 wk] w fun e w' => e = .returned (.bool true) ∧ Ev w w' := by
 obtain ⟨s0, s1, s2, s3, s4⟩ := hsm
 have HTH := hid (fun W (hE : Ev w W) => by have := Thin_c f Ag Aw Ab Ac Al ng cg nw cw nb cb nc cc nl cl hl0 W (fun _ => HCS.out.ev hE); rw [hthin] at this; exact this)
 have HFA := hid (fun W (hE : Ev w W) => fault_c f Ag Aw Ab Ac Al ng cg nw cw nb cb nc cc nl cl hl0 W (HCS.out.ev hE))
 have HSU := hid (fun W (hE : Ev w W) => sure_c f Ag Aw Ab Ac Al ng cg nw cw nb cb nc cc nl cl hl0 W (HCS.out.ev hE))
 have hbg : M.begin f (M.hasWeek f wk) = 11 := by unfold M.begin; rw [if_neg (by simp [h0]), hw, if_neg (by simp), if_pos ht]
 have HSD := hid (fun (Bg : Option Addr) (dg : Nat) (Bw : Option Addr) (dw : Nat) (Bb : Option Addr) (db : Nat) (Bc : Option Addr) (dc : Nat) (Bl : Option Addr) (dl : Nat) W (h : CS W W.heap.size f Bg Bw Bb Bc Bl ng dg nw dw nb db nc dc nl dl) => by have := Standing_err f Bg Bw Bb Bc Bl ng dg nw dw nb db nc dc nl dl wk hl0 W h (by rw [hbg]; decide); rw [hbg] at this; exact this)
 have HIN := hid (fun W => by have := In_s wk 0 f.last W; rw [show M.isIn wk 0 f.last = true from hw] at this; exact this)
 rw [hw] at hbg
 rw [h0] at HFA
 rw [hbg] at HSU
 clear h0 hbg hw ht
 clear hthin
 go_enter Tryz.func4, Tryz.ntmps4
 go_upto_region 3 with (first | (go_at_call 10; with_reducible refine (HTH.out _ (Ev.alloc (Ev.refl _) _)).mono ?_; rintro e w1 ⟨rfl, hb1⟩; have hG : Ev w w1 := (Ev.alloc (Ev.refl _) _).trans hb1; have Q0 := hid (hb1.heap (alloc1 w (.cells #[.int .i64 f.last, .slice Ag ng cg, .slice Aw nw cw, .slice Ab nb cb, .slice Ac nc cc, .int .i64 f.ripe, .int .i64 f.late, .int .i64 f.trod, .slice Al nl cl] 26)).1); obtain ⟨y0, y1, y2, y3, y4, y5, y6, y7, y8⟩ := cells9 Q0.out) | (with_reducible refine ⟨trivial, ?_⟩))
 go_upto_region 4 with (first | (go_at_call 13; with_reducible refine (Field_c f Ag Aw Ab Ac Al ng cg nw cw nb cb nc cc nl cl (by omega) (by omega) (by omega) (by omega) (by omega) _ (HCS.out.ev hG)).mono ?_; rintro e x2 ⟨⟨Bg, dg, Bw, dw, Bb, db, Bc, dc, Bl, dl, rfl, hc⟩, hb⟩; have HE2 := hid (hG.trans hb); have HV2 := hid hb; have HC2 := hid hc; clear hc hb) | (go_at_call 22; with_reducible refine (HSD.out Bg dg Bw dw Bb db Bc dc Bl dl _ HC2.out).mono ?_; rintro e x3 ⟨rfl, hb⟩; have HE3 := hid (HE2.out.trans hb); have HV3 := hid (HV2.out.trans hb); clear hb))
 generalize hWA : World.alloc x3 _ = WA
 have hEA : Ev x3 WA := by rw [← hWA]; exact Ev.alloc (Ev.refl _) _
 have hal := alloc1 x3 (.cells #[.int .i64 0, .int .i64 0] 40)
 rw [hWA] at hal
 have HR := hid hal.1
 have HEA := hid (HE3.out.trans hEA)
 have HVA := hid (HV3.out.trans hEA)
 have HAA := hid (Ev.refl WA)
 clear hal hWA hEA HE3 HV3 HE2 HV2 HC2 y0 y1 y2 y3 y4 y5 y6 y7 y8
 generalize x3.heap.size = p at HR
 obtain ⟨y0, y1, y2, y3, y4, y5, y6, y7, y8⟩ := cells9 (HVA.out.heap Q0.out)
 obtain ⟨z0, z1⟩ := cells2 HR.out
 go_wp2_with (first | (go_at_call 16; with_reducible refine (HSU.out _ HEA.out).mono ?_; rintro e x4 ⟨⟨LB, lm, ld, rfl, hm, htl⟩, hb⟩; have HE4 := hid (HEA.out.trans hb); have HV4 := hid (HVA.out.trans hb); have HA4 := hid hb; have HTL := hid htl; clear htl hb; clear y0 y1 y2 y3 y4 y5 y6 y7 y8; clear z0 z1; obtain ⟨y0, y1, y2, y3, y4, y5, y6, y7, y8⟩ := cells9 (HV4.out.heap Q0.out); obtain ⟨z0, z1⟩ := cells2 (HA4.out.heap HR.out)) | (go_at_call 17; with_reducible refine (HFA.out _ HE4.out).mono ?_; rintro e x5 ⟨rfl, hb⟩; have HE5 := hid (HE4.out.trans hb); have HV5 := hid (HV4.out.trans hb); have HA5 := hid (HA4.out.trans hb); have HK5 := hid hb; clear hb; clear y0 y1 y2 y3 y4 y5 y6 y7 y8; clear z0 z1; obtain ⟨y0, y1, y2, y3, y4, y5, y6, y7, y8⟩ := cells9 (HV5.out.heap Q0.out); obtain ⟨z0, z1⟩ := cells2 (HA5.out.heap HR.out)) | (go_at_call 23; with_reducible refine (HIN.out _).mono ?_; rintro e wz ⟨rfl, hwz⟩; replace hwz := hwz.symm; subst hwz) | (go_at_call 11; with_reducible refine (awake_c _).mono ?_; rintro e w99 ⟨rfl, hb99⟩) | (with_reducible refine ⟨trivial, ?_⟩))
 go_ret
 exact ⟨rfl, HE5.out.trans hb99⟩

set_option maxRecDepth 100000 in
set_option maxHeartbeats 8000000 in
theorem cropStands_d (f : M.Cf) (Ag Aw Ab Ac Al : Option Addr) (ng cg nw cw nb cb nc cc nl cl : Nat) (hl0 : -9223372036854775808 ≤ f.last) (wk : Int) (w : World) (HCS : Hid (CS w w.heap.size f Ag Aw Ab Ac Al ng cg nw cw nb cb nc cc nl cl)) (hsm : M.small ng nw nb nc nl) (hthin : (decide (M.small ng nw nb nc nl) && M.thin f) = true) (h0 : M.check f = 0) (k : Nat) (hk : wk = k) (hw : M.hasWeek f wk = true) (ht : M.truths f ≠ []) :
  Calls Tryz.prog 4 #[.agg #[.int .i64 f.last, .slice Ag ng cg, .slice Aw nw cw, .slice Ab nb cb, .slice Ac nc cc, .int .i64 f.ripe, .int .i64 f.late, .int .i64 f.trod, .slice Al nl cl], .int .i64 wk] w fun e w' => e = .returned (.bool true) ∧ Ev w w' := by
 obtain ⟨s0, s1, s2, s3, s4⟩ := hsm
 have HTH := hid (fun W (hE : Ev w W) => by have := Thin_c f Ag Aw Ab Ac Al ng cg nw cw nb cb nc cc nl cl hl0 W (fun _ => HCS.out.ev hE); rw [hthin] at this; exact this)
 have HFA := hid (fun W (hE : Ev w W) => fault_c f Ag Aw Ab Ac Al ng cg nw cw nb cb nc cc nl cl hl0 W (HCS.out.ev hE))
 have HSU := hid (fun W (hE : Ev w W) => sure_c f Ag Aw Ab Ac Al ng cg nw cw nb cb nc cc nl cl hl0 W (HCS.out.ev hE))
 subst hk
 have hbg : M.begin f (M.hasWeek f k) = 0 := by unfold M.begin; rw [if_neg (by simp [h0]), hw, if_neg (by simp), if_neg ht]
 have hkl : (k : Int) ≤ f.last := by
  unfold M.hasWeek at hw
  simp only [Bool.and_eq_true, decide_eq_true_eq] at hw
  exact hw.2
 have hon := M.on_is h0 ht k
 have HON := hid (fun L ln lc W (hE : Ev w W) (hl : TL W L ln lc (M.rtr f)) => by have := rOn_c f Ag Aw Ab Ac Al ng cg nw cw nb cb nc cc nl cl L ln lc (M.rtr f) k h0 (M.rtr_listed h0) hkl W (HCS.out.ev hE) hl; rw [hon] at this; exact this)
 have HSD := hid (fun (Bg : Option Addr) (dg : Nat) (Bw : Option Addr) (dw : Nat) (Bb : Option Addr) (db : Nat) (Bc : Option Addr) (dc : Nat) (Bl : Option Addr) (dl : Nat) W (h : CS W W.heap.size f Bg Bw Bb Bc Bl ng dg nw dw nb db nc dc nl dl) => Standing_ok f Bg Bw Bb Bc Bl ng dg nw dw nb db nc dc nl dl k hl0 W h hbg)
 have HIN := hid (fun W => by have := In_s k 0 f.last W; rw [show M.isIn k 0 f.last = true from hw] at this; exact this)
 rw [hw] at hbg
 rw [h0] at HFA
 rw [hbg] at HSU
 generalize M.on f (M.truths f) k = r at HSD HON
 clear h0 hw ht hon hkl
 clear hthin
 go_enter Tryz.func4, Tryz.ntmps4
 go_upto_region 3 with (first | (go_at_call 10; with_reducible refine (HTH.out _ (Ev.alloc (Ev.refl _) _)).mono ?_; rintro e w1 ⟨rfl, hb1⟩; have hG : Ev w w1 := (Ev.alloc (Ev.refl _) _).trans hb1; have Q0 := hid (hb1.heap (alloc1 w (.cells #[.int .i64 f.last, .slice Ag ng cg, .slice Aw nw cw, .slice Ab nb cb, .slice Ac nc cc, .int .i64 f.ripe, .int .i64 f.late, .int .i64 f.trod, .slice Al nl cl] 26)).1); obtain ⟨y0, y1, y2, y3, y4, y5, y6, y7, y8⟩ := cells9 Q0.out) | (with_reducible refine ⟨trivial, ?_⟩))
 go_upto_region 4 with (first | (go_at_call 13; with_reducible refine (Field_c f Ag Aw Ab Ac Al ng cg nw cw nb cb nc cc nl cl (by omega) (by omega) (by omega) (by omega) (by omega) _ (HCS.out.ev hG)).mono ?_; rintro e x2 ⟨⟨Bg, dg, Bw, dw, Bb, db, Bc, dc, Bl, dl, rfl, hc⟩, hb⟩; have HE2 := hid (hG.trans hb); have HV2 := hid hb; have HC2 := hid hc; clear hc hb) | (go_at_call 22; with_reducible refine (HSD.out Bg dg Bw dw Bb db Bc dc Bl dl _ HC2.out).mono ?_; rintro e x3 ⟨rfl, hb⟩; have HE3 := hid (HE2.out.trans hb); have HV3 := hid (HV2.out.trans hb); clear hb))
 generalize hWA : World.alloc x3 _ = WA
 have hEA : Ev x3 WA := by rw [← hWA]; exact Ev.alloc (Ev.refl _) _
 have hal := alloc1 x3 (.cells #[.int .i64 r.lo, .int .i64 r.hi] 40)
 rw [hWA] at hal
 have HR := hid hal.1
 have HEA := hid (HE3.out.trans hEA)
 have HVA := hid (HV3.out.trans hEA)
 have HAA := hid (Ev.refl WA)
 clear hal hWA hEA HE3 HV3 HE2 HV2 HC2 y0 y1 y2 y3 y4 y5 y6 y7 y8
 generalize x3.heap.size = p at HR
 obtain ⟨y0, y1, y2, y3, y4, y5, y6, y7, y8⟩ := cells9 (HVA.out.heap Q0.out)
 obtain ⟨z0, z1⟩ := cells2 HR.out
 go_upto_region 9 with (first | (go_at_call 16; with_reducible refine (HSU.out _ HEA.out).mono ?_; rintro e x4 ⟨⟨LB, lm, ld, rfl, hm, htl⟩, hb⟩; have HE4 := hid (HEA.out.trans hb); have HV4 := hid (HVA.out.trans hb); have HA4 := hid hb; have HTL := hid htl; clear htl hb; clear y0 y1 y2 y3 y4 y5 y6 y7 y8; clear z0 z1; obtain ⟨y0, y1, y2, y3, y4, y5, y6, y7, y8⟩ := cells9 (HV4.out.heap Q0.out); obtain ⟨z0, z1⟩ := cells2 (HA4.out.heap HR.out)) | (go_at_call 17; with_reducible refine (HFA.out _ HE4.out).mono ?_; rintro e x5 ⟨rfl, hb⟩; have HE5 := hid (HE4.out.trans hb); have HV5 := hid (HV4.out.trans hb); have HA5 := hid (HA4.out.trans hb); have HK5 := hid hb; clear hb; clear y0 y1 y2 y3 y4 y5 y6 y7 y8; clear z0 z1; obtain ⟨y0, y1, y2, y3, y4, y5, y6, y7, y8⟩ := cells9 (HV5.out.heap Q0.out); obtain ⟨z0, z1⟩ := cells2 (HA5.out.heap HR.out)) | (go_at_call 23; with_reducible refine (HIN.out _).mono ?_; rintro e wz ⟨rfl, hwz⟩; replace hwz := hwz.symm; subst hwz) | (with_reducible refine ⟨trivial, ?_⟩))
 have HTL := hid (HTL.out (by first | exact trivial | rfl))
 have l0 := heap_lt (HV5.out.heap Q0.out)
 have l1 := heap_lt (HA5.out.heap HR.out)
 have HSE : Hid (∀ w', Ev x5 w' → (∀ o, w'.cell? ⟨w.heap.size, o, none⟩ = x5.cell? ⟨w.heap.size, o, none⟩) ∧ (∀ o, w'.cell? ⟨p, o, none⟩ = x5.cell? ⟨p, o, none⟩)) := hid (fun w' h => ⟨fun o => h.cells.1 _ o l0, fun o => h.cells.1 _ o l1⟩)
 refine wp_region_held_drew (S := fun w' => (∀ o, w'.cell? ⟨w.heap.size, o, none⟩ = x5.cell? ⟨w.heap.size, o, none⟩) ∧ (∀ o, w'.cell? ⟨p, o, none⟩ = x5.cell? ⟨p, o, none⟩)) (by kernel_rfl) (⟨fun o => rfl, fun o => rfl⟩) (fun hHeld => ?_)
 refine tkH 0 (some 48) ?_
 (try simp only [Act.put, sA, sB, sC])
 refine tkH 1 (some 49) ?_
 (try simp only [Act.put, sA, sB, sC])
 refine tkH 2 (some 50) ?_
 (try simp only [Act.put, sA, sB, sC])
 refine tkH 3 (some 51) ?_
 (try simp only [Act.put, sA, sB, sC])
 refine tkH 4 (some 52) ?_
 (try simp only [Act.put, sA, sB, sC])
 refine tkH 5 (some 53) ?_
 (try simp only [Act.put, sA, sB, sC])
 refine tkH 6 (some 54) ?_
 (try simp only [Act.put, sA, sB, sC])
 refine wpAnyH_one (i := 7) rfl (by kernel_rfl) (by rfl) (fun K hK => ?_)
 go_simp
 refine (HON.out LB lm ld _ (HE5.out.trans (Ev.drew (Ev.refl _))) ((HTL.out.ev HK5.out).ev (Ev.drew (Ev.refl _)))).mono ?_
 rintro e v1 ⟨rfl, hb⟩
 have hV1 : Ev x5 v1 := Ev.trans (Ev.drew (Ev.refl _)) hb
 refine hK.out _ _ (HSE.out _ hV1) (fun hHeld => ?_)
 clear hK K
 (try simp only [Act.put, sA, sB, sC])
 refine wpAnyH_one (i := 8) rfl (by kernel_rfl) (by rfl) (fun K hK => ?_)
 go_simp
 refine (to_c r _).mono ?_
 rintro e v2 ⟨rfl, hb⟩
 have hV2 : Ev x5 v2 := hV1.trans hb
 refine hK.out _ _ (HSE.out _ hV2) (fun hHeld => ?_)
 clear hK K
 (try simp only [Act.put, sA, sB, sC])
 refine tkH 9 (some 57) ?_
 (try simp only [Act.put, sA, sB, sC])
 refine tkH 10 (some 58) ?_
 (try simp only [Act.put, sA, sB, sC])
 refine tkH 11 (some 59) ?_
 (try simp only [Act.put, sA, sB, sC])
 refine wpAnyH_one (i := 12) rfl (by kernel_rfl) (by rfl) (fun K hK => ?_)
 go_simp
 refine (awake_c _).mono ?_
 rintro e v3 ⟨rfl, hb⟩
 have hV3 : Ev x5 v3 := hV2.trans hb
 refine hK.out _ _ (HSE.out _ hV3) (fun hHeld => ?_)
 clear hK K
 (try simp only [Act.put, sA, sB, sC])
 refine tkH 13 (some 61) ?_
 (try simp only [Act.put, sA, sB, sC])
 refine tkH 14 (some 4) ?_
 (try simp only [Act.put, sA, sB, sC])
 refine wpAnyH_done (by kernel_rfl) ?_ _
 go_wp2
 go_ret
 exact ⟨rfl, HE5.out.trans hV3⟩

theorem cropStands_c (f : M.Cf) (Ag Aw Ab Ac Al : Option Addr) (ng cg nw cw nb cb nc cc nl cl : Nat) (hl0 : -9223372036854775808 ≤ f.last) (wk : Int) (w : World) (hs : M.small ng nw nb nc nl → CS w w.heap.size f Ag Aw Ab Ac Al ng cg nw cw nb cb nc cc nl cl) :
  Calls Tryz.prog 4 #[.agg #[.int .i64 f.last, .slice Ag ng cg, .slice Aw nw cw, .slice Ab nb cb, .slice Ac nc cc, .int .i64 f.ripe, .int .i64 f.late, .int .i64 f.trod, .slice Al nl cl], .int .i64 wk] w fun e w' => e = .returned (.bool true) ∧ Ev w w' := by
 cases hthin : (decide (M.small ng nw nb nc nl) && M.thin f) with
 | false => exact cropStands_no f Ag Aw Ab Ac Al ng cg nw cw nb cb nc cc nl cl hl0 wk w hs hthin
 | true =>
  have hsm : M.small ng nw nb nc nl := by
   rw [Bool.and_eq_true, decide_eq_true_eq] at hthin
   exact hthin.1
  have HCS := hid (hs hsm)
  by_cases h0 : M.check f = 0
  ·
   cases hw : M.hasWeek f wk with
   | false => exact cropStands_b f Ag Aw Ab Ac Al ng cg nw cw nb cb nc cc nl cl hl0 wk w HCS hsm hthin h0 hw
   | true =>
    by_cases ht : M.truths f = []
    ·
     exact cropStands_c1 f Ag Aw Ab Ac Al ng cg nw cw nb cb nc cc nl cl hl0 wk w HCS hsm hthin h0 hw ht
    ·
     obtain ⟨k, hk⟩ : ∃ k : Nat, wk = k := ⟨wk.toNat, by
      unfold M.hasWeek at hw
      simp only [Bool.and_eq_true, decide_eq_true_eq] at hw
      omega⟩
     exact cropStands_d f Ag Aw Ab Ac Al ng cg nw cw nb cb nc cc nl cl hl0 wk w HCS hsm hthin h0 k hk hw ht
  ·
   exact cropStands_a f Ag Aw Ab Ac Al ng cg nw cw nb cb nc cc nl cl hl0 wk w HCS hsm hthin h0

end Go.Proofs.YtffbkbcjddigdaaGreat
