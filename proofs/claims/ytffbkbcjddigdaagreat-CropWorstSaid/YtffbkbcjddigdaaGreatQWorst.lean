import Derived.Test.YtffbkbcjddigdaaGreatA76
import Derived.Test.YtffbkbcjddigdaaGreatA54
import Derived.Test.YtffbkbcjddigdaaGreatA48
import Derived.Test.YtffbkbcjddigdaaGreatA49
set_option linter.unusedSimpArgs false
set_option linter.unusedVariables false
namespace Go.Proofs.YtffbkbcjddigdaaGreat
open Go.RowKit Go.Shelf

theorem M.worth_iz {f : M.Cf} (h0 : M.check f = 0) (hn : M.truths f ≠ []) {plan : List Int} (hpl : M.isPlan f plan = true) : M.worthR f (M.rtr f) plan = M.worth f plan := by
 have hn2 : M.rtr f ≠ [] := fun e => hn ((M.rtr_nil h0).1 e)
 unfold M.worthR M.worth
 rw [M.widen_span (by simpa using hn2)]
 ·
  refine M.span_set (fun y => ?_) (by simpa using hn2)
  simp only [List.mem_map, M.rtr_mem h0]
 ·
  intro y hy
  obtain ⟨t, ht, rfl⟩ := List.mem_map.1 hy
  have := M.total_bd h0 (M.rtr_listed h0 t ht) hpl
  omega
set_option maxRecDepth 100000 in
theorem fieldRL (a b : Int) (W : World) : (Instr.field 49 (.agg #[.int .i64 a, .int .i64 b]) 0).run Tryz.prog W = .ok (.int .i64 a) W := by
 first
  | rfl
  | simp [Instr.field, run_underlying Tryz.underlying49, part, cellsIn, typeInfo, Result.andThen]

set_option maxRecDepth 100000 in
set_option maxHeartbeats 2000000 in
theorem cropWorst_no (f : M.Cf) (Ag Aw Ab Ac Al : Option Addr) (ng cg nw cw nb cb nc cc nl cl : Nat) (P : Option Addr) (pn pc : Nat) (plan : List Int) (wo : Int) (hl0 : -9223372036854775808 ≤ f.last) (w : World) (hs : M.small ng nw nb nc nl → CS w w.heap.size f Ag Aw Ab Ac Al ng cg nw cw nb cb nc cc nl cl) (hthin : (decide (M.small ng nw nb nc nl) && M.thin f) = false) :
  Calls Tryz.prog 5 #[.agg #[.int .i64 f.last, .slice Ag ng cg, .slice Aw nw cw, .slice Ab nb cb, .slice Ac nc cc, .int .i64 f.ripe, .int .i64 f.late, .int .i64 f.trod, .slice Al nl cl], .slice P pn pc, .int .i64 wo] w fun e w' => e = .returned (.bool true) ∧ Ev w w' := by
 have HTH := hid (fun W (hE : Ev w W) => by have := Thin_c f Ag Aw Ab Ac Al ng cg nw cw nb cb nc cc nl cl hl0 W (fun h => (hs h).ev hE); rw [hthin] at this; exact this)
 clear hs hthin
 go_enter Tryz.func5, Tryz.ntmps5
 go_wp2_with (first | (go_at_call 10; with_reducible refine (HTH.out _ (Ev.alloc (Ev.refl _) _)).mono ?_; rintro e w1 ⟨rfl, hb1⟩; have hG : Ev w w1 := (Ev.alloc (Ev.refl _) _).trans hb1; have Q0 := hid (hb1.heap (alloc1 w (.cells #[.int .i64 f.last, .slice Ag ng cg, .slice Aw nw cw, .slice Ab nb cb, .slice Ac nc cc, .int .i64 f.ripe, .int .i64 f.late, .int .i64 f.trod, .slice Al nl cl] 26)).1); obtain ⟨y0, y1, y2, y3, y4, y5, y6, y7, y8⟩ := cells9 Q0.out) | (go_at_call 11; with_reducible refine (awake_c _).mono ?_; rintro e w99 ⟨rfl, hb99⟩) | (with_reducible refine ⟨trivial, ?_⟩))
 go_ret
 exact ⟨rfl, hG.trans hb99⟩

set_option maxRecDepth 100000 in
set_option maxHeartbeats 2000000 in
theorem cropWorst_long (f : M.Cf) (Ag Aw Ab Ac Al : Option Addr) (ng cg nw cw nb cb nc cc nl cl : Nat) (P : Option Addr) (pn pc : Nat) (plan : List Int) (wo : Int) (hl0 : -9223372036854775808 ≤ f.last) (w : World) (hs : M.small ng nw nb nc nl → CS w w.heap.size f Ag Aw Ab Ac Al ng cg nw cw nb cb nc cc nl cl) (hthin : (decide (M.small ng nw nb nc nl) && M.thin f) = true) (q0 : ¬ pn ≤ 14) :
  Calls Tryz.prog 5 #[.agg #[.int .i64 f.last, .slice Ag ng cg, .slice Aw nw cw, .slice Ab nb cb, .slice Ac nc cc, .int .i64 f.ripe, .int .i64 f.late, .int .i64 f.trod, .slice Al nl cl], .slice P pn pc, .int .i64 wo] w fun e w' => e = .returned (.bool true) ∧ Ev w w' := by
 have HTH := hid (fun W (hE : Ev w W) => by have := Thin_c f Ag Aw Ab Ac Al ng cg nw cw nb cb nc cc nl cl hl0 W (fun h => (hs h).ev hE); rw [hthin] at this; exact this)
 have q0a : (pn : Int) > 14 := by omega
 clear hs hthin
 go_enter Tryz.func5, Tryz.ntmps5
 go_wp2_with (first | (go_at_call 10; with_reducible refine (HTH.out _ (Ev.alloc (Ev.refl _) _)).mono ?_; rintro e w1 ⟨rfl, hb1⟩; have hG : Ev w w1 := (Ev.alloc (Ev.refl _) _).trans hb1; have Q0 := hid (hb1.heap (alloc1 w (.cells #[.int .i64 f.last, .slice Ag ng cg, .slice Aw nw cw, .slice Ab nb cb, .slice Ac nc cc, .int .i64 f.ripe, .int .i64 f.late, .int .i64 f.trod, .slice Al nl cl] 26)).1); obtain ⟨y0, y1, y2, y3, y4, y5, y6, y7, y8⟩ := cells9 Q0.out) | (go_at_call 11; with_reducible refine (awake_c _).mono ?_; rintro e w99 ⟨rfl, hb99⟩) | (with_reducible refine ⟨trivial, ?_⟩))
 go_ret
 exact ⟨rfl, hG.trans hb99⟩

set_option maxRecDepth 100000 in
set_option maxHeartbeats 8000000 in
theorem cropWorst_a (f : M.Cf) (Ag Aw Ab Ac Al : Option Addr) (ng cg nw cw nb cb nc cc nl cl : Nat) (P : Option Addr) (pn pc : Nat) (plan : List Int) (wo : Int) (hl0 : -9223372036854775808 ≤ f.last) (w : World) (HCS : Hid (CS w w.heap.size f Ag Aw Ab Ac Al ng cg nw cw nb cb nc cc nl cl)) (HP : Hid (Sl ics 1 w w.heap.size P pn pc plan)) (hsm : M.small ng nw nb nc nl) (hthin : (decide (M.small ng nw nb nc nl) && M.thin f) = true) (q0 : pn ≤ 14) (h0 : M.check f ≠ 0) :
  Calls Tryz.prog 5 #[.agg #[.int .i64 f.last, .slice Ag ng cg, .slice Aw nw cw, .slice Ab nb cb, .slice Ac nc cc, .int .i64 f.ripe, .int .i64 f.late, .int .i64 f.trod, .slice Al nl cl], .slice P pn pc, .int .i64 wo] w fun e w' => e = .returned (.bool true) ∧ Ev w w' := by
 have q0a : ¬ ((pn : Int) > 14) := by omega
 obtain ⟨s0, s1, s2, s3, s4⟩ := hsm
 have HTH := hid (fun W (hE : Ev w W) => by have := Thin_c f Ag Aw Ab Ac Al ng cg nw cw nb cb nc cc nl cl hl0 W (fun _ => HCS.out.ev hE); rw [hthin] at this; exact this)
 have HFA := hid (fun W (hE : Ev w W) => fault_c f Ag Aw Ab Ac Al ng cg nw cw nb cb nc cc nl cl hl0 W (HCS.out.ev hE))
 have HSU := hid (fun W (hE : Ev w W) => sure_c f Ag Aw Ab Ac Al ng cg nw cw nb cb nc cc nl cl hl0 W (HCS.out.ev hE))
 have HIP := hid (fun W (hE : Ev w W) => rIsPlan_c f Ag Aw Ab Ac Al ng cg nw cw nb cb nc cc nl cl HCS.out.b.len HCS.out.b.small P pn pc plan W (HP.out.ev hE))
 have hbg : ∀ b, M.begin f b = M.check f := fun b => by unfold M.begin; rw [if_pos h0]
 have HWS := hid (fun (Bg : Option Addr) (dg : Nat) (Bw : Option Addr) (dw : Nat) (Bb : Option Addr) (db : Nat) (Bc : Option Addr) (dc : Nat) (Bl : Option Addr) (dl : Nat) (L : Option Addr) (d : Nat) W (h : CS W W.heap.size f Bg Bw Bb Bc Bl ng dg nw dw nb db nc dc nl dl) (hp : Sl ics 1 W W.heap.size L pn d plan) => by have := Worst_err f Bg Bw Bb Bc Bl ng dg nw dw nb db nc dc nl dl L pn d plan hl0 W h hp (by rw [hbg]; exact h0); rw [hbg] at this; exact this)
 have HPW := hid (fun (Bg : Option Addr) (dg : Nat) (Bw : Option Addr) (dw : Nat) (Bb : Option Addr) (db : Nat) (Bc : Option Addr) (dc : Nat) (Bl : Option Addr) (dl : Nat) (L : Option Addr) (d : Nat) W (h : CS W W.heap.size f Bg Bw Bb Bc Bl ng dg nw dw nb db nc dc nl dl) (hp : Sl ics 1 W W.heap.size L pn d plan) => ProveWorth_err f Bg Bw Bb Bc Bl ng dg nw dw nb db nc dc nl dl L pn d plan wo hl0 W h hp (by rw [hbg]; exact h0))
 rw [hbg] at HSU
 have hec := h0
 generalize M.check f = ec at HWS HFA HSU hec
 have c1_ : (ec == 0) = false := by simpa using hec
 have c2_ : (ec != 0) = true := by simpa using hec
 have c3_ : (ec != ec) = false := by simp
 have c4_ : (ec == ec) = true := by simp
 clear h0 hbg hec
 clear hthin
 go_enter Tryz.func5, Tryz.ntmps5
 go_upto_region 3 with (first | (go_at_call 10; with_reducible refine (HTH.out _ (Ev.alloc (Ev.refl _) _)).mono ?_; rintro e w1 ⟨rfl, hb1⟩; have hG : Ev w w1 := (Ev.alloc (Ev.refl _) _).trans hb1; have Q0 := hid (hb1.heap (alloc1 w (.cells #[.int .i64 f.last, .slice Ag ng cg, .slice Aw nw cw, .slice Ab nb cb, .slice Ac nc cc, .int .i64 f.ripe, .int .i64 f.late, .int .i64 f.trod, .slice Al nl cl] 26)).1); obtain ⟨y0, y1, y2, y3, y4, y5, y6, y7, y8⟩ := cells9 Q0.out) | (with_reducible refine ⟨trivial, ?_⟩))
 go_upto_region 4 with (first | (go_at_call 13; with_reducible refine (Field_c f Ag Aw Ab Ac Al ng cg nw cw nb cb nc cc nl cl (by omega) (by omega) (by omega) (by omega) (by omega) _ (HCS.out.ev hG)).mono ?_; rintro e x2 ⟨⟨Bg2, dg2, Bw2, dw2, Bb2, db2, Bc2, dc2, Bl2, dl2, rfl, hc⟩, hb⟩; have HE2 := hid (hG.trans hb); have HV2 := hid hb; have HC2 := hid hc; clear hc hb) | (go_at_call 14; with_reducible refine (list_c P pn pc plan (by omega) _ (HP.out.ev HE2.out)).mono ?_; rintro e x3 ⟨⟨L3, dL3, rfl, ho⟩, hb⟩; have HE3 := hid (HE2.out.trans hb); have HV3 := hid (HV2.out.trans hb); have HO3 := hid (sl_own (enc := ics) (by decide) (ics_len _) (by omega) ho); have HC3 := hid (HC2.out.ev hb); clear ho hb) | (go_at_call 25; with_reducible refine (HWS.out Bg2 dg2 Bw2 dw2 Bb2 db2 Bc2 dc2 Bl2 dl2 L3 dL3 _ HC3.out HO3.out).mono ?_; rintro e x4 ⟨rfl, hb⟩; have HE4 := hid (HE3.out.trans hb); have HV4 := hid (HV3.out.trans hb); clear hb; clear y0 y1 y2 y3 y4 y5 y6 y7 y8; obtain ⟨y0, y1, y2, y3, y4, y5, y6, y7, y8⟩ := cells9 (HV4.out.heap Q0.out)))
 generalize hWA : World.alloc x4 _ = WA
 have hEA : Ev x4 WA := by rw [← hWA]; exact Ev.alloc (Ev.refl _) _
 have hal := alloc1 x4 (.cells #[.slice none 0 0, .slice none 0 0] 61)
 rw [hWA] at hal
 have HR := hid hal.1
 have HE5 := hid (HE4.out.trans hEA)
 have HV5 := hid (HV4.out.trans hEA)
 have HA5 := hid (Ev.refl WA)
 have HY5 := hid hEA
 clear hal hWA hEA HE2 HE3 HE4 HV2 HV3 HV4 HC2 HC3 HO3 HWS y0 y1 y2 y3 y4 y5 y6 y7 y8
 generalize x4.heap.size = p at HR
 obtain ⟨y0, y1, y2, y3, y4, y5, y6, y7, y8⟩ := cells9 (HV5.out.heap Q0.out)
 obtain ⟨z0, z1⟩ := cells2 HR.out
 go_upto_region 5 with (first | (go_at_call 13; with_reducible refine (Field_c f Ag Aw Ab Ac Al ng cg nw cw nb cb nc cc nl cl (by omega) (by omega) (by omega) (by omega) (by omega) _ (HCS.out.ev HE5.out)).mono ?_; rintro e x6 ⟨⟨Bg6, dg6, Bw6, dw6, Bb6, db6, Bc6, dc6, Bl6, dl6, rfl, hc⟩, hb⟩; have HE6 := hid (HE5.out.trans hb); have HV6 := hid (HV5.out.trans hb); have HA6 := hid (HA5.out.trans hb); have HC6 := hid hc; clear hc hb) | (go_at_call 14; with_reducible refine (list_c P pn pc plan (by omega) _ (HP.out.ev HE6.out)).mono ?_; rintro e x7 ⟨⟨L7, dL7, rfl, ho⟩, hb⟩; have HE7 := hid (HE6.out.trans hb); have HV7 := hid (HV6.out.trans hb); have HA7 := hid (HA6.out.trans hb); have HO7 := hid (sl_own (enc := ics) (by decide) (ics_len _) (by omega) ho); have HC7 := hid (HC6.out.ev hb); clear ho hb) | (go_at_call 26; with_reducible refine (HPW.out Bg6 dg6 Bw6 dw6 Bb6 db6 Bc6 dc6 Bl6 dl6 L7 dL7 _ HC7.out HO7.out).mono ?_; rintro e x8 ⟨rfl, hb⟩; have HE8 := hid (HE7.out.trans hb); have HV8 := hid (HV7.out.trans hb); have HA8 := hid (HA7.out.trans hb); clear hb; clear y0 y1 y2 y3 y4 y5 y6 y7 y8; obtain ⟨y0, y1, y2, y3, y4, y5, y6, y7, y8⟩ := cells9 (HV8.out.heap Q0.out); clear z0 z1; obtain ⟨z0, z1⟩ := cells2 (HA8.out.heap HR.out)))
 go_wp2_with (first | (go_at_call 16; with_reducible refine (HSU.out _ HE8.out).mono ?_; rintro e x9 ⟨⟨LB, lm, ld, rfl, hm, htl⟩, hb⟩; have HE9 := hid (HE8.out.trans hb); have HV9 := hid (HV8.out.trans hb); have HA9 := hid (HA8.out.trans hb); have HTL := hid htl; have HK9 := hid (Ev.refl x9); clear htl; clear hb; clear y0 y1 y2 y3 y4 y5 y6 y7 y8; obtain ⟨y0, y1, y2, y3, y4, y5, y6, y7, y8⟩ := cells9 (HV9.out.heap Q0.out); clear z0 z1; obtain ⟨z0, z1⟩ := cells2 (HA9.out.heap HR.out)) | (go_at_call 17; with_reducible refine (HFA.out _ HE9.out).mono ?_; rintro e x10 ⟨rfl, hb⟩; have HE10 := hid (HE9.out.trans hb); have HV10 := hid (HV9.out.trans hb); have HA10 := hid (HA9.out.trans hb); clear hb; clear y0 y1 y2 y3 y4 y5 y6 y7 y8; obtain ⟨y0, y1, y2, y3, y4, y5, y6, y7, y8⟩ := cells9 (HV10.out.heap Q0.out); clear z0 z1; obtain ⟨z0, z1⟩ := cells2 (HA10.out.heap HR.out)) | (go_at_call 11; with_reducible refine (awake_c _).mono ?_; rintro e w99 ⟨rfl, hb99⟩) | (with_reducible refine ⟨trivial, ?_⟩))
 go_ret
 exact ⟨rfl, HE10.out.trans hb99⟩

set_option maxRecDepth 100000 in
set_option maxHeartbeats 8000000 in
theorem cropWorst_b (f : M.Cf) (Ag Aw Ab Ac Al : Option Addr) (ng cg nw cw nb cb nc cc nl cl : Nat) (P : Option Addr) (pn pc : Nat) (plan : List Int) (wo : Int) (hl0 : -9223372036854775808 ≤ f.last) (w : World) (HCS : Hid (CS w w.heap.size f Ag Aw Ab Ac Al ng cg nw cw nb cb nc cc nl cl)) (HP : Hid (Sl ics 1 w w.heap.size P pn pc plan)) (hsm : M.small ng nw nb nc nl) (hthin : (decide (M.small ng nw nb nc nl) && M.thin f) = true) (q0 : pn ≤ 14) (h0 : M.check f = 0) (hpl : M.isPlan f plan = false) :
  Calls Tryz.prog 5 #[.agg #[.int .i64 f.last, .slice Ag ng cg, .slice Aw nw cw, .slice Ab nb cb, .slice Ac nc cc, .int .i64 f.ripe, .int .i64 f.late, .int .i64 f.trod, .slice Al nl cl], .slice P pn pc, .int .i64 wo] w fun e w' => e = .returned (.bool true) ∧ Ev w w' := by
 have q0a : ¬ ((pn : Int) > 14) := by omega
 obtain ⟨s0, s1, s2, s3, s4⟩ := hsm
 have HTH := hid (fun W (hE : Ev w W) => by have := Thin_c f Ag Aw Ab Ac Al ng cg nw cw nb cb nc cc nl cl hl0 W (fun _ => HCS.out.ev hE); rw [hthin] at this; exact this)
 have HFA := hid (fun W (hE : Ev w W) => fault_c f Ag Aw Ab Ac Al ng cg nw cw nb cb nc cc nl cl hl0 W (HCS.out.ev hE))
 have HSU := hid (fun W (hE : Ev w W) => sure_c f Ag Aw Ab Ac Al ng cg nw cw nb cb nc cc nl cl hl0 W (HCS.out.ev hE))
 have HIP := hid (fun W (hE : Ev w W) => rIsPlan_c f Ag Aw Ab Ac Al ng cg nw cw nb cb nc cc nl cl HCS.out.b.len HCS.out.b.small P pn pc plan W (HP.out.ev hE))
 have hbg : M.begin f (M.isPlan f plan) = 2 := by unfold M.begin; rw [if_neg (by simp [h0]), hpl, if_pos rfl]
 have HWS := hid (fun (Bg : Option Addr) (dg : Nat) (Bw : Option Addr) (dw : Nat) (Bb : Option Addr) (db : Nat) (Bc : Option Addr) (dc : Nat) (Bl : Option Addr) (dl : Nat) (L : Option Addr) (d : Nat) W (h : CS W W.heap.size f Bg Bw Bb Bc Bl ng dg nw dw nb db nc dc nl dl) (hp : Sl ics 1 W W.heap.size L pn d plan) => by have := Worst_err f Bg Bw Bb Bc Bl ng dg nw dw nb db nc dc nl dl L pn d plan hl0 W h hp (by rw [hbg]; decide); rw [hbg] at this; exact this)
 have HPW := hid (fun (Bg : Option Addr) (dg : Nat) (Bw : Option Addr) (dw : Nat) (Bb : Option Addr) (db : Nat) (Bc : Option Addr) (dc : Nat) (Bl : Option Addr) (dl : Nat) (L : Option Addr) (d : Nat) W (h : CS W W.heap.size f Bg Bw Bb Bc Bl ng dg nw dw nb db nc dc nl dl) (hp : Sl ics 1 W W.heap.size L pn d plan) => ProveWorth_err f Bg Bw Bb Bc Bl ng dg nw dw nb db nc dc nl dl L pn d plan wo hl0 W h hp (by rw [hbg]; decide))
 rw [h0] at HFA
 rw [hpl] at HIP
 generalize M.begin f true = ec at HSU
 clear h0 hbg hpl
 clear hthin
 go_enter Tryz.func5, Tryz.ntmps5
 go_upto_region 3 with (first | (go_at_call 10; with_reducible refine (HTH.out _ (Ev.alloc (Ev.refl _) _)).mono ?_; rintro e w1 ⟨rfl, hb1⟩; have hG : Ev w w1 := (Ev.alloc (Ev.refl _) _).trans hb1; have Q0 := hid (hb1.heap (alloc1 w (.cells #[.int .i64 f.last, .slice Ag ng cg, .slice Aw nw cw, .slice Ab nb cb, .slice Ac nc cc, .int .i64 f.ripe, .int .i64 f.late, .int .i64 f.trod, .slice Al nl cl] 26)).1); obtain ⟨y0, y1, y2, y3, y4, y5, y6, y7, y8⟩ := cells9 Q0.out) | (with_reducible refine ⟨trivial, ?_⟩))
 go_upto_region 4 with (first | (go_at_call 13; with_reducible refine (Field_c f Ag Aw Ab Ac Al ng cg nw cw nb cb nc cc nl cl (by omega) (by omega) (by omega) (by omega) (by omega) _ (HCS.out.ev hG)).mono ?_; rintro e x2 ⟨⟨Bg2, dg2, Bw2, dw2, Bb2, db2, Bc2, dc2, Bl2, dl2, rfl, hc⟩, hb⟩; have HE2 := hid (hG.trans hb); have HV2 := hid hb; have HC2 := hid hc; clear hc hb) | (go_at_call 14; with_reducible refine (list_c P pn pc plan (by omega) _ (HP.out.ev HE2.out)).mono ?_; rintro e x3 ⟨⟨L3, dL3, rfl, ho⟩, hb⟩; have HE3 := hid (HE2.out.trans hb); have HV3 := hid (HV2.out.trans hb); have HO3 := hid (sl_own (enc := ics) (by decide) (ics_len _) (by omega) ho); have HC3 := hid (HC2.out.ev hb); clear ho hb) | (go_at_call 25; with_reducible refine (HWS.out Bg2 dg2 Bw2 dw2 Bb2 db2 Bc2 dc2 Bl2 dl2 L3 dL3 _ HC3.out HO3.out).mono ?_; rintro e x4 ⟨rfl, hb⟩; have HE4 := hid (HE3.out.trans hb); have HV4 := hid (HV3.out.trans hb); clear hb; clear y0 y1 y2 y3 y4 y5 y6 y7 y8; obtain ⟨y0, y1, y2, y3, y4, y5, y6, y7, y8⟩ := cells9 (HV4.out.heap Q0.out)))
 generalize hWA : World.alloc x4 _ = WA
 have hEA : Ev x4 WA := by rw [← hWA]; exact Ev.alloc (Ev.refl _) _
 have hal := alloc1 x4 (.cells #[.slice none 0 0, .slice none 0 0] 61)
 rw [hWA] at hal
 have HR := hid hal.1
 have HE5 := hid (HE4.out.trans hEA)
 have HV5 := hid (HV4.out.trans hEA)
 have HA5 := hid (Ev.refl WA)
 have HY5 := hid hEA
 clear hal hWA hEA HE2 HE3 HE4 HV2 HV3 HV4 HC2 HC3 HO3 HWS y0 y1 y2 y3 y4 y5 y6 y7 y8
 generalize x4.heap.size = p at HR
 obtain ⟨y0, y1, y2, y3, y4, y5, y6, y7, y8⟩ := cells9 (HV5.out.heap Q0.out)
 obtain ⟨z0, z1⟩ := cells2 HR.out
 go_upto_region 5 with (first | (go_at_call 13; with_reducible refine (Field_c f Ag Aw Ab Ac Al ng cg nw cw nb cb nc cc nl cl (by omega) (by omega) (by omega) (by omega) (by omega) _ (HCS.out.ev HE5.out)).mono ?_; rintro e x6 ⟨⟨Bg6, dg6, Bw6, dw6, Bb6, db6, Bc6, dc6, Bl6, dl6, rfl, hc⟩, hb⟩; have HE6 := hid (HE5.out.trans hb); have HV6 := hid (HV5.out.trans hb); have HA6 := hid (HA5.out.trans hb); have HC6 := hid hc; clear hc hb) | (go_at_call 14; with_reducible refine (list_c P pn pc plan (by omega) _ (HP.out.ev HE6.out)).mono ?_; rintro e x7 ⟨⟨L7, dL7, rfl, ho⟩, hb⟩; have HE7 := hid (HE6.out.trans hb); have HV7 := hid (HV6.out.trans hb); have HA7 := hid (HA6.out.trans hb); have HO7 := hid (sl_own (enc := ics) (by decide) (ics_len _) (by omega) ho); have HC7 := hid (HC6.out.ev hb); clear ho hb) | (go_at_call 26; with_reducible refine (HPW.out Bg6 dg6 Bw6 dw6 Bb6 db6 Bc6 dc6 Bl6 dl6 L7 dL7 _ HC7.out HO7.out).mono ?_; rintro e x8 ⟨rfl, hb⟩; have HE8 := hid (HE7.out.trans hb); have HV8 := hid (HV7.out.trans hb); have HA8 := hid (HA7.out.trans hb); clear hb; clear y0 y1 y2 y3 y4 y5 y6 y7 y8; obtain ⟨y0, y1, y2, y3, y4, y5, y6, y7, y8⟩ := cells9 (HV8.out.heap Q0.out); clear z0 z1; obtain ⟨z0, z1⟩ := cells2 (HA8.out.heap HR.out)))
 go_wp2_with (first | (go_at_call 16; with_reducible refine (HSU.out _ HE8.out).mono ?_; rintro e x9 ⟨⟨LB, lm, ld, rfl, hm, htl⟩, hb⟩; have HE9 := hid (HE8.out.trans hb); have HV9 := hid (HV8.out.trans hb); have HA9 := hid (HA8.out.trans hb); have HTL := hid htl; have HK9 := hid (Ev.refl x9); clear htl; clear hb; clear y0 y1 y2 y3 y4 y5 y6 y7 y8; obtain ⟨y0, y1, y2, y3, y4, y5, y6, y7, y8⟩ := cells9 (HV9.out.heap Q0.out); clear z0 z1; obtain ⟨z0, z1⟩ := cells2 (HA9.out.heap HR.out)) | (go_at_call 17; with_reducible refine (HFA.out _ HE9.out).mono ?_; rintro e x10 ⟨rfl, hb⟩; have HE10 := hid (HE9.out.trans hb); have HV10 := hid (HV9.out.trans hb); have HA10 := hid (HA9.out.trans hb); clear hb; clear y0 y1 y2 y3 y4 y5 y6 y7 y8; obtain ⟨y0, y1, y2, y3, y4, y5, y6, y7, y8⟩ := cells9 (HV10.out.heap Q0.out); clear z0 z1; obtain ⟨z0, z1⟩ := cells2 (HA10.out.heap HR.out)) | (go_at_call 18; with_reducible refine (HIP.out _ HE10.out).mono ?_; rintro e x11 ⟨rfl, hb⟩; have HE11 := hid (HE10.out.trans hb); have HV11 := hid (HV10.out.trans hb); have HA11 := hid (HA10.out.trans hb); clear hb; clear y0 y1 y2 y3 y4 y5 y6 y7 y8; obtain ⟨y0, y1, y2, y3, y4, y5, y6, y7, y8⟩ := cells9 (HV11.out.heap Q0.out); clear z0 z1; obtain ⟨z0, z1⟩ := cells2 (HA11.out.heap HR.out)) | (go_at_call 11; with_reducible refine (awake_c _).mono ?_; rintro e w99 ⟨rfl, hb99⟩) | (with_reducible refine ⟨trivial, ?_⟩))
 go_ret
 exact ⟨rfl, HE11.out.trans hb99⟩

set_option maxRecDepth 100000 in
set_option maxHeartbeats 8000000 in
theorem cropWorst_c1 (f : M.Cf) (Ag Aw Ab Ac Al : Option Addr) (ng cg nw cw nb cb nc cc nl cl : Nat) (P : Option Addr) (pn pc : Nat) (plan : List Int) (wo : Int) (hl0 : -9223372036854775808 ≤ f.last) (w : World) (HCS : Hid (CS w w.heap.size f Ag Aw Ab Ac Al ng cg nw cw nb cb nc cc nl cl)) (HP : Hid (Sl ics 1 w w.heap.size P pn pc plan)) (hsm : M.small ng nw nb nc nl) (hthin : (decide (M.small ng nw nb nc nl) && M.thin f) = true) (q0 : pn ≤ 14) (h0 : M.check f = 0) (hpl : M.isPlan f plan = true) (ht : M.truths f = []) :
  Calls Tryz.prog 5 #[.agg #[.int .i64 f.last, .slice Ag ng cg, .slice Aw nw cw, .slice Ab nb cb, .slice Ac nc cc, .int .i64 f.ripe, .int .i64 f.late, .int .i64 f.trod, .slice Al nl cl], .slice P pn pc, .int .i64 wo] w fun e w' => e = .returned (.bool true) ∧ Ev w w' := by
 have q0a : ¬ ((pn : Int) > 14) := by omega
 obtain ⟨s0, s1, s2, s3, s4⟩ := hsm
 have HTH := hid (fun W (hE : Ev w W) => by have := Thin_c f Ag Aw Ab Ac Al ng cg nw cw nb cb nc cc nl cl hl0 W (fun _ => HCS.out.ev hE); rw [hthin] at this; exact this)
 have HFA := hid (fun W (hE : Ev w W) => fault_c f Ag Aw Ab Ac Al ng cg nw cw nb cb nc cc nl cl hl0 W (HCS.out.ev hE))
 have HSU := hid (fun W (hE : Ev w W) => sure_c f Ag Aw Ab Ac Al ng cg nw cw nb cb nc cc nl cl hl0 W (HCS.out.ev hE))
 have HIP := hid (fun W (hE : Ev w W) => rIsPlan_c f Ag Aw Ab Ac Al ng cg nw cw nb cb nc cc nl cl HCS.out.b.len HCS.out.b.small P pn pc plan W (HP.out.ev hE))
 have hbg : M.begin f (M.isPlan f plan) = 11 := by unfold M.begin; rw [if_neg (by simp [h0]), hpl, if_neg (by simp), if_pos ht]
 have HWS := hid (fun (Bg : Option Addr) (dg : Nat) (Bw : Option Addr) (dw : Nat) (Bb : Option Addr) (db : Nat) (Bc : Option Addr) (dc : Nat) (Bl : Option Addr) (dl : Nat) (L : Option Addr) (d : Nat) W (h : CS W W.heap.size f Bg Bw Bb Bc Bl ng dg nw dw nb db nc dc nl dl) (hp : Sl ics 1 W W.heap.size L pn d plan) => by have := Worst_err f Bg Bw Bb Bc Bl ng dg nw dw nb db nc dc nl dl L pn d plan hl0 W h hp (by rw [hbg]; decide); rw [hbg] at this; exact this)
 have HPW := hid (fun (Bg : Option Addr) (dg : Nat) (Bw : Option Addr) (dw : Nat) (Bb : Option Addr) (db : Nat) (Bc : Option Addr) (dc : Nat) (Bl : Option Addr) (dl : Nat) (L : Option Addr) (d : Nat) W (h : CS W W.heap.size f Bg Bw Bb Bc Bl ng dg nw dw nb db nc dc nl dl) (hp : Sl ics 1 W W.heap.size L pn d plan) => ProveWorth_err f Bg Bw Bb Bc Bl ng dg nw dw nb db nc dc nl dl L pn d plan wo hl0 W h hp (by rw [hbg]; decide))
 rw [h0] at HFA
 rw [hpl] at HIP hbg
 rw [hbg] at HSU
 clear h0 hbg hpl ht
 clear hthin
 go_enter Tryz.func5, Tryz.ntmps5
 go_upto_region 3 with (first | (go_at_call 10; with_reducible refine (HTH.out _ (Ev.alloc (Ev.refl _) _)).mono ?_; rintro e w1 ⟨rfl, hb1⟩; have hG : Ev w w1 := (Ev.alloc (Ev.refl _) _).trans hb1; have Q0 := hid (hb1.heap (alloc1 w (.cells #[.int .i64 f.last, .slice Ag ng cg, .slice Aw nw cw, .slice Ab nb cb, .slice Ac nc cc, .int .i64 f.ripe, .int .i64 f.late, .int .i64 f.trod, .slice Al nl cl] 26)).1); obtain ⟨y0, y1, y2, y3, y4, y5, y6, y7, y8⟩ := cells9 Q0.out) | (with_reducible refine ⟨trivial, ?_⟩))
 go_upto_region 4 with (first | (go_at_call 13; with_reducible refine (Field_c f Ag Aw Ab Ac Al ng cg nw cw nb cb nc cc nl cl (by omega) (by omega) (by omega) (by omega) (by omega) _ (HCS.out.ev hG)).mono ?_; rintro e x2 ⟨⟨Bg2, dg2, Bw2, dw2, Bb2, db2, Bc2, dc2, Bl2, dl2, rfl, hc⟩, hb⟩; have HE2 := hid (hG.trans hb); have HV2 := hid hb; have HC2 := hid hc; clear hc hb) | (go_at_call 14; with_reducible refine (list_c P pn pc plan (by omega) _ (HP.out.ev HE2.out)).mono ?_; rintro e x3 ⟨⟨L3, dL3, rfl, ho⟩, hb⟩; have HE3 := hid (HE2.out.trans hb); have HV3 := hid (HV2.out.trans hb); have HO3 := hid (sl_own (enc := ics) (by decide) (ics_len _) (by omega) ho); have HC3 := hid (HC2.out.ev hb); clear ho hb) | (go_at_call 25; with_reducible refine (HWS.out Bg2 dg2 Bw2 dw2 Bb2 db2 Bc2 dc2 Bl2 dl2 L3 dL3 _ HC3.out HO3.out).mono ?_; rintro e x4 ⟨rfl, hb⟩; have HE4 := hid (HE3.out.trans hb); have HV4 := hid (HV3.out.trans hb); clear hb; clear y0 y1 y2 y3 y4 y5 y6 y7 y8; obtain ⟨y0, y1, y2, y3, y4, y5, y6, y7, y8⟩ := cells9 (HV4.out.heap Q0.out)))
 generalize hWA : World.alloc x4 _ = WA
 have hEA : Ev x4 WA := by rw [← hWA]; exact Ev.alloc (Ev.refl _) _
 have hal := alloc1 x4 (.cells #[.slice none 0 0, .slice none 0 0] 61)
 rw [hWA] at hal
 have HR := hid hal.1
 have HE5 := hid (HE4.out.trans hEA)
 have HV5 := hid (HV4.out.trans hEA)
 have HA5 := hid (Ev.refl WA)
 have HY5 := hid hEA
 clear hal hWA hEA HE2 HE3 HE4 HV2 HV3 HV4 HC2 HC3 HO3 HWS y0 y1 y2 y3 y4 y5 y6 y7 y8
 generalize x4.heap.size = p at HR
 obtain ⟨y0, y1, y2, y3, y4, y5, y6, y7, y8⟩ := cells9 (HV5.out.heap Q0.out)
 obtain ⟨z0, z1⟩ := cells2 HR.out
 go_upto_region 5 with (first | (go_at_call 13; with_reducible refine (Field_c f Ag Aw Ab Ac Al ng cg nw cw nb cb nc cc nl cl (by omega) (by omega) (by omega) (by omega) (by omega) _ (HCS.out.ev HE5.out)).mono ?_; rintro e x6 ⟨⟨Bg6, dg6, Bw6, dw6, Bb6, db6, Bc6, dc6, Bl6, dl6, rfl, hc⟩, hb⟩; have HE6 := hid (HE5.out.trans hb); have HV6 := hid (HV5.out.trans hb); have HA6 := hid (HA5.out.trans hb); have HC6 := hid hc; clear hc hb) | (go_at_call 14; with_reducible refine (list_c P pn pc plan (by omega) _ (HP.out.ev HE6.out)).mono ?_; rintro e x7 ⟨⟨L7, dL7, rfl, ho⟩, hb⟩; have HE7 := hid (HE6.out.trans hb); have HV7 := hid (HV6.out.trans hb); have HA7 := hid (HA6.out.trans hb); have HO7 := hid (sl_own (enc := ics) (by decide) (ics_len _) (by omega) ho); have HC7 := hid (HC6.out.ev hb); clear ho hb) | (go_at_call 26; with_reducible refine (HPW.out Bg6 dg6 Bw6 dw6 Bb6 db6 Bc6 dc6 Bl6 dl6 L7 dL7 _ HC7.out HO7.out).mono ?_; rintro e x8 ⟨rfl, hb⟩; have HE8 := hid (HE7.out.trans hb); have HV8 := hid (HV7.out.trans hb); have HA8 := hid (HA7.out.trans hb); clear hb; clear y0 y1 y2 y3 y4 y5 y6 y7 y8; obtain ⟨y0, y1, y2, y3, y4, y5, y6, y7, y8⟩ := cells9 (HV8.out.heap Q0.out); clear z0 z1; obtain ⟨z0, z1⟩ := cells2 (HA8.out.heap HR.out)))
 go_wp2_with (first | (go_at_call 16; with_reducible refine (HSU.out _ HE8.out).mono ?_; rintro e x9 ⟨⟨LB, lm, ld, rfl, hm, htl⟩, hb⟩; have HE9 := hid (HE8.out.trans hb); have HV9 := hid (HV8.out.trans hb); have HA9 := hid (HA8.out.trans hb); have HTL := hid htl; have HK9 := hid (Ev.refl x9); clear htl; clear hb; clear y0 y1 y2 y3 y4 y5 y6 y7 y8; obtain ⟨y0, y1, y2, y3, y4, y5, y6, y7, y8⟩ := cells9 (HV9.out.heap Q0.out); clear z0 z1; obtain ⟨z0, z1⟩ := cells2 (HA9.out.heap HR.out)) | (go_at_call 17; with_reducible refine (HFA.out _ HE9.out).mono ?_; rintro e x10 ⟨rfl, hb⟩; have HE10 := hid (HE9.out.trans hb); have HV10 := hid (HV9.out.trans hb); have HA10 := hid (HA9.out.trans hb); clear hb; clear y0 y1 y2 y3 y4 y5 y6 y7 y8; obtain ⟨y0, y1, y2, y3, y4, y5, y6, y7, y8⟩ := cells9 (HV10.out.heap Q0.out); clear z0 z1; obtain ⟨z0, z1⟩ := cells2 (HA10.out.heap HR.out)) | (go_at_call 18; with_reducible refine (HIP.out _ HE10.out).mono ?_; rintro e x11 ⟨rfl, hb⟩; have HE11 := hid (HE10.out.trans hb); have HV11 := hid (HV10.out.trans hb); have HA11 := hid (HA10.out.trans hb); clear hb; clear y0 y1 y2 y3 y4 y5 y6 y7 y8; obtain ⟨y0, y1, y2, y3, y4, y5, y6, y7, y8⟩ := cells9 (HV11.out.heap Q0.out); clear z0 z1; obtain ⟨z0, z1⟩ := cells2 (HA11.out.heap HR.out)) | (go_at_call 11; with_reducible refine (awake_c _).mono ?_; rintro e w99 ⟨rfl, hb99⟩) | (with_reducible refine ⟨trivial, ?_⟩))
 go_ret
 exact ⟨rfl, HE11.out.trans hb99⟩

set_option maxRecDepth 100000 in
set_option maxHeartbeats 8000000 in
theorem cropWorst_d (f : M.Cf) (Ag Aw Ab Ac Al : Option Addr) (ng cg nw cw nb cb nc cc nl cl : Nat) (P : Option Addr) (pn pc : Nat) (plan : List Int) (wo : Int) (hl0 : -9223372036854775808 ≤ f.last) (w : World) (HCS : Hid (CS w w.heap.size f Ag Aw Ab Ac Al ng cg nw cw nb cb nc cc nl cl)) (HP : Hid (Sl ics 1 w w.heap.size P pn pc plan)) (hsm : M.small ng nw nb nc nl) (hthin : (decide (M.small ng nw nb nc nl) && M.thin f) = true) (q0 : pn ≤ 14) (h0 : M.check f = 0) (hpl : M.isPlan f plan = true) (ht : M.truths f ≠ []) (hwo : wo ≤ (M.worth f plan).lo) :
  Calls Tryz.prog 5 #[.agg #[.int .i64 f.last, .slice Ag ng cg, .slice Aw nw cw, .slice Ab nb cb, .slice Ac nc cc, .int .i64 f.ripe, .int .i64 f.late, .int .i64 f.trod, .slice Al nl cl], .slice P pn pc, .int .i64 wo] w fun e w' => e = .returned (.bool true) ∧ Ev w w' := by
 have q0a : ¬ ((pn : Int) > 14) := by omega
 obtain ⟨s0, s1, s2, s3, s4⟩ := hsm
 have HTH := hid (fun W (hE : Ev w W) => by have := Thin_c f Ag Aw Ab Ac Al ng cg nw cw nb cb nc cc nl cl hl0 W (fun _ => HCS.out.ev hE); rw [hthin] at this; exact this)
 have HFA := hid (fun W (hE : Ev w W) => fault_c f Ag Aw Ab Ac Al ng cg nw cw nb cb nc cc nl cl hl0 W (HCS.out.ev hE))
 have HSU := hid (fun W (hE : Ev w W) => sure_c f Ag Aw Ab Ac Al ng cg nw cw nb cb nc cc nl cl hl0 W (HCS.out.ev hE))
 have HIP := hid (fun W (hE : Ev w W) => rIsPlan_c f Ag Aw Ab Ac Al ng cg nw cw nb cb nc cc nl cl HCS.out.b.len HCS.out.b.small P pn pc plan W (HP.out.ev hE))
 have hbg : M.begin f (M.isPlan f plan) = 0 := by unfold M.begin; rw [if_neg (by simp [h0]), hpl, if_neg (by simp), if_neg ht]
 have HWS := hid (fun (Bg : Option Addr) (dg : Nat) (Bw : Option Addr) (dw : Nat) (Bb : Option Addr) (db : Nat) (Bc : Option Addr) (dc : Nat) (Bl : Option Addr) (dl : Nat) (L : Option Addr) (d : Nat) W (h : CS W W.heap.size f Bg Bw Bb Bc Bl ng dg nw dw nb db nc dc nl dl) (hp : Sl ics 1 W W.heap.size L pn d plan) => Worst_ok f Bg Bw Bb Bc Bl ng dg nw dw nb db nc dc nl dl L pn d plan hl0 W h hp hbg)
 have HPW := hid (fun (Bg : Option Addr) (dg : Nat) (Bw : Option Addr) (dw : Nat) (Bb : Option Addr) (db : Nat) (Bc : Option Addr) (dc : Nat) (Bl : Option Addr) (dl : Nat) (L : Option Addr) (d : Nat) W (h : CS W W.heap.size f Bg Bw Bb Bc Bl ng dg nw dw nb db nc dc nl dl) (hp : Sl ics 1 W W.heap.size L pn d plan) => by have := ProveWorth_ok f Bg Bw Bb Bc Bl ng dg nw dw nb db nc dc nl dl L pn d plan wo hl0 W h hp hbg; rw [decide_eq_true hwo] at this; exact this)
 have hwr := M.worth_iz h0 ht hpl
 have HWR := hid (fun L ln lc W (hE : Ev w W) (hl : TL W L ln lc (M.rtr f)) => by have := rWorth_c f Ag Aw Ab Ac Al ng cg nw cw nb cb nc cc nl cl L ln lc (M.rtr f) P pn pc plan h0 (M.rtr_listed h0) hpl W (HCS.out.ev hE) hl (HP.out.ev hE); rw [hwr] at this; exact this)
 have hv := (M.check_ok h0).1
 have hl9 := (M.check0 h0).1
 have HITX := hid (fun (Tg Tw : Option Addr) (tg tgc tw twc : Nat) (t : M.Tr) (htm : t ∈ M.truths f) W (hE : Ev w W) (hg : Sl ics 1 W W.heap.size Tg tg tgc t.gr) (hw : Sl ics 1 W W.heap.size Tw tw twc t.wet) => by
  have := rIsTruth_c f Ag Aw Ab Ac Al ng cg nw cw nb cb nc cc nl cl Tg Tw tg tgc tw twc t hv hl9 W (HCS.out.ev hE) hg hw
  rw [show (M.listed f t && M.right f t) = true from by
   unfold M.truths at htm
   rw [List.mem_filter] at htm
   rw [htm.2, (M.mem_allTruths hv _).1 htm.1]; rfl] at this
  exact this)
 have HTOX := hid (fun (Tg Tw : Option Addr) (tg tgc tw twc : Nat) (t : M.Tr) (htm : t ∈ M.truths f ∧ M.total f t plan = (M.worth f plan).lo) W (hE : Ev w W) (hg : Sl ics 1 W W.heap.size Tg tg tgc t.gr) (hw : Sl ics 1 W W.heap.size Tw tw twc t.wet) => by
  have := rTotal_c f Ag Aw Ab Ac Al ng cg nw cw nb cb nc cc nl cl Tg Tw tg tgc tw twc t P pn pc plan h0 (M.truths_listed h0 t htm.1) hpl W (HCS.out.ev hE) hg hw (HP.out.ev hE)
  rw [htm.2] at this
  exact this)
 rw [h0] at HFA
 rw [hpl] at HIP hbg
 rw [hbg] at HSU
 obtain ⟨lo, hlo⟩ : ∃ lo, (M.worth f plan).lo = lo := ⟨_, rfl⟩
 rw [hlo] at hwo
 have HLO := hid hlo
 have fieldRL' := fieldRL lo (M.worth f plan).hi
 rw [hlo] at HWR
 have g1_ : lo ≥ wo := hwo
 have g2_ : wo ≤ lo := hwo
 clear h0 hpl ht hwr hwo hv hl9
 clear hthin
 go_enter Tryz.func5, Tryz.ntmps5
 go_upto_region 3 with (first | (go_at_call 10; with_reducible refine (HTH.out _ (Ev.alloc (Ev.refl _) _)).mono ?_; rintro e w1 ⟨rfl, hb1⟩; have hG : Ev w w1 := (Ev.alloc (Ev.refl _) _).trans hb1; have Q0 := hid (hb1.heap (alloc1 w (.cells #[.int .i64 f.last, .slice Ag ng cg, .slice Aw nw cw, .slice Ab nb cb, .slice Ac nc cc, .int .i64 f.ripe, .int .i64 f.late, .int .i64 f.trod, .slice Al nl cl] 26)).1); obtain ⟨y0, y1, y2, y3, y4, y5, y6, y7, y8⟩ := cells9 Q0.out) | (with_reducible refine ⟨trivial, ?_⟩))
 go_upto_region 4 with (first | (go_at_call 13; with_reducible refine (Field_c f Ag Aw Ab Ac Al ng cg nw cw nb cb nc cc nl cl (by omega) (by omega) (by omega) (by omega) (by omega) _ (HCS.out.ev hG)).mono ?_; rintro e x2 ⟨⟨Bg2, dg2, Bw2, dw2, Bb2, db2, Bc2, dc2, Bl2, dl2, rfl, hc⟩, hb⟩; have HE2 := hid (hG.trans hb); have HV2 := hid hb; have HC2 := hid hc; clear hc hb) | (go_at_call 14; with_reducible refine (list_c P pn pc plan (by omega) _ (HP.out.ev HE2.out)).mono ?_; rintro e x3 ⟨⟨L3, dL3, rfl, ho⟩, hb⟩; have HE3 := hid (HE2.out.trans hb); have HV3 := hid (HV2.out.trans hb); have HO3 := hid (sl_own (enc := ics) (by decide) (ics_len _) (by omega) ho); have HC3 := hid (HC2.out.ev hb); clear ho hb) | (go_at_call 25; with_reducible refine (HWS.out Bg2 dg2 Bw2 dw2 Bb2 db2 Bc2 dc2 Bl2 dl2 L3 dL3 _ HC3.out HO3.out).mono ?_; rintro e x4 ⟨⟨t, Tg, Tw, tg, tgc, tw, twc, htm, hto, rfl, hsg, hsw⟩, hb⟩; have HE4 := hid (HE3.out.trans hb); have HV4 := hid (HV3.out.trans hb); have HTG := hid hsg; have HTW := hid hsw; have HX4 := hid (Ev.refl x4); have HTT := hid (And.intro htm hto); clear hsg hsw htm hto; clear hb; clear y0 y1 y2 y3 y4 y5 y6 y7 y8; obtain ⟨y0, y1, y2, y3, y4, y5, y6, y7, y8⟩ := cells9 (HV4.out.heap Q0.out)))
 generalize hWA : World.alloc x4 _ = WA
 have hEA : Ev x4 WA := by rw [← hWA]; exact Ev.alloc (Ev.refl _) _
 have hal := alloc1 x4 (.cells #[.slice Tg tg tgc, .slice Tw tw twc] 61)
 rw [hWA] at hal
 have HR := hid hal.1
 have HEX4 := hid HE4.out
 have HE5 := hid (HE4.out.trans hEA)
 have HV5 := hid (HV4.out.trans hEA)
 have HA5 := hid (Ev.refl WA)
 have HY5 := hid hEA
 clear hal hWA hEA HE2 HE3 HE4 HV2 HV3 HV4 HC2 HC3 HO3 HWS y0 y1 y2 y3 y4 y5 y6 y7 y8
 generalize x4.heap.size = p at HR
 obtain ⟨y0, y1, y2, y3, y4, y5, y6, y7, y8⟩ := cells9 (HV5.out.heap Q0.out)
 obtain ⟨z0, z1⟩ := cells2 HR.out
 go_upto_region 5 with (first | (go_at_call 13; with_reducible refine (Field_c f Ag Aw Ab Ac Al ng cg nw cw nb cb nc cc nl cl (by omega) (by omega) (by omega) (by omega) (by omega) _ (HCS.out.ev HE5.out)).mono ?_; rintro e x6 ⟨⟨Bg6, dg6, Bw6, dw6, Bb6, db6, Bc6, dc6, Bl6, dl6, rfl, hc⟩, hb⟩; have HE6 := hid (HE5.out.trans hb); have HV6 := hid (HV5.out.trans hb); have HA6 := hid (HA5.out.trans hb); have HC6 := hid hc; clear hc hb) | (go_at_call 14; with_reducible refine (list_c P pn pc plan (by omega) _ (HP.out.ev HE6.out)).mono ?_; rintro e x7 ⟨⟨L7, dL7, rfl, ho⟩, hb⟩; have HE7 := hid (HE6.out.trans hb); have HV7 := hid (HV6.out.trans hb); have HA7 := hid (HA6.out.trans hb); have HO7 := hid (sl_own (enc := ics) (by decide) (ics_len _) (by omega) ho); have HC7 := hid (HC6.out.ev hb); clear ho hb) | (go_at_call 26; with_reducible refine (HPW.out Bg6 dg6 Bw6 dw6 Bb6 db6 Bc6 dc6 Bl6 dl6 L7 dL7 _ HC7.out HO7.out).mono ?_; rintro e x8 ⟨rfl, hb⟩; have HE8 := hid (HE7.out.trans hb); have HV8 := hid (HV7.out.trans hb); have HA8 := hid (HA7.out.trans hb); clear hb; clear y0 y1 y2 y3 y4 y5 y6 y7 y8; obtain ⟨y0, y1, y2, y3, y4, y5, y6, y7, y8⟩ := cells9 (HV8.out.heap Q0.out); clear z0 z1; obtain ⟨z0, z1⟩ := cells2 (HA8.out.heap HR.out)))
 go_upto_region 11 with (first | (go_at_call 16; with_reducible refine (HSU.out _ HE8.out).mono ?_; rintro e x9 ⟨⟨LB, lm, ld, rfl, hm, htl⟩, hb⟩; have HE9 := hid (HE8.out.trans hb); have HV9 := hid (HV8.out.trans hb); have HA9 := hid (HA8.out.trans hb); have HTL := hid htl; have HK9 := hid (Ev.refl x9); clear htl; clear hb; clear y0 y1 y2 y3 y4 y5 y6 y7 y8; obtain ⟨y0, y1, y2, y3, y4, y5, y6, y7, y8⟩ := cells9 (HV9.out.heap Q0.out); clear z0 z1; obtain ⟨z0, z1⟩ := cells2 (HA9.out.heap HR.out)) | (go_at_call 17; with_reducible refine (HFA.out _ HE9.out).mono ?_; rintro e x10 ⟨rfl, hb⟩; have HE10 := hid (HE9.out.trans hb); have HV10 := hid (HV9.out.trans hb); have HA10 := hid (HA9.out.trans hb); have HK10 := hid (HK9.out.trans hb); clear hb; clear y0 y1 y2 y3 y4 y5 y6 y7 y8; obtain ⟨y0, y1, y2, y3, y4, y5, y6, y7, y8⟩ := cells9 (HV10.out.heap Q0.out); clear z0 z1; obtain ⟨z0, z1⟩ := cells2 (HA10.out.heap HR.out)) | (go_at_call 18; with_reducible refine (HIP.out _ HE10.out).mono ?_; rintro e x11 ⟨rfl, hb⟩; have HE11 := hid (HE10.out.trans hb); have HV11 := hid (HV10.out.trans hb); have HA11 := hid (HA10.out.trans hb); have HK11 := hid (HK10.out.trans hb); clear hb; clear y0 y1 y2 y3 y4 y5 y6 y7 y8; obtain ⟨y0, y1, y2, y3, y4, y5, y6, y7, y8⟩ := cells9 (HV11.out.heap Q0.out); clear z0 z1; obtain ⟨z0, z1⟩ := cells2 (HA11.out.heap HR.out)) | (with_reducible refine ⟨trivial, ?_⟩))
 have HTL := hid (HTL.out (by first | exact trivial | rfl))
 generalize hWB : World.alloc x11 _ = WB
 have hEB : Ev x11 WB := by rw [← hWB]; exact Ev.alloc (Ev.refl _) _
 have hal := alloc1 x11 (.cells #[.slice Tg tg tgc, .slice Tw tw twc] 65)
 rw [hWB] at hal
 have HQ := hid hal.1
 have HE12 := hid (HE11.out.trans hEB)
 have HV12 := hid (HV11.out.trans hEB)
 have HK12 := hid (HK11.out.trans hEB)
 have HD12 := hid (Ev.refl WB)
 have HY12 := hid (HY5.out.trans (HA11.out.trans hEB))
 have HIT := hid (fun W (hE : Ev x4 W) => HITX.out Tg Tw tg tgc tw twc t HTT.out.1 W (HEX4.out.trans hE) (HTG.out.ev hE) (HTW.out.ev hE))
 have HTO := hid (fun W (hE : Ev x4 W) => (by have := HTOX.out Tg Tw tg tgc tw twc t HTT.out W (HEX4.out.trans hE) (HTG.out.ev hE) (HTW.out.ev hE); rw [HLO.out] at this; exact this))
 clear hal hWB hEB y0 y1 y2 y3 y4 y5 y6 y7 y8 z0 z1
 generalize x11.heap.size = q at HQ
 obtain ⟨y0, y1, y2, y3, y4, y5, y6, y7, y8⟩ := cells9 (HV12.out.heap Q0.out)
 obtain ⟨u0, u1⟩ := cells2 HQ.out
 go_wp2_with (first | (go_at_call 20; with_reducible refine (HWR.out LB lm ld _ HE12.out (HTL.out.ev HK12.out)).mono ?_; rintro e x13 ⟨rfl, hb⟩; have HE13 := hid (HE12.out.trans hb); have HV13 := hid (HV12.out.trans hb); have HK13 := hid (HK12.out.trans hb); have HD13 := hid (HD12.out.trans hb); clear hb; clear y0 y1 y2 y3 y4 y5 y6 y7 y8; obtain ⟨y0, y1, y2, y3, y4, y5, y6, y7, y8⟩ := cells9 (HV13.out.heap Q0.out); clear u0 u1; obtain ⟨u0, u1⟩ := cells2 (HD13.out.heap HQ.out)) | (go_at_call 27; with_reducible refine (HIT.out _ (HY12.out.trans HD13.out)).mono ?_; rintro e x14 ⟨rfl, hb⟩; have HE14 := hid (HE13.out.trans hb); have HV14 := hid (HV13.out.trans hb); have HK14 := hid (HK13.out.trans hb); have HD14 := hid (HD13.out.trans hb); clear hb; clear y0 y1 y2 y3 y4 y5 y6 y7 y8; obtain ⟨y0, y1, y2, y3, y4, y5, y6, y7, y8⟩ := cells9 (HV14.out.heap Q0.out); clear u0 u1; obtain ⟨u0, u1⟩ := cells2 (HD14.out.heap HQ.out)) | (go_at_call 28; with_reducible refine (HTO.out _ (HY12.out.trans HD14.out)).mono ?_; rintro e x15 ⟨rfl, hb⟩; have HE15 := hid (HE14.out.trans hb); have HV15 := hid (HV14.out.trans hb); have HK15 := hid (HK14.out.trans hb); have HD15 := hid (HD14.out.trans hb); clear hb; clear y0 y1 y2 y3 y4 y5 y6 y7 y8; obtain ⟨y0, y1, y2, y3, y4, y5, y6, y7, y8⟩ := cells9 (HV15.out.heap Q0.out); clear u0 u1; obtain ⟨u0, u1⟩ := cells2 (HD15.out.heap HQ.out)) | (go_at_call 11; with_reducible refine (awake_c _).mono ?_; rintro e w99 ⟨rfl, hb99⟩) | (with_reducible refine ⟨trivial, ?_⟩))
 go_ret
 exact ⟨(by first | rfl | exact ret_bool (by rw [decide_eq_false (by omega)]; rfl)), HE15.out.trans hb99⟩

set_option maxRecDepth 100000 in
set_option maxHeartbeats 8000000 in
theorem cropWorst_e (f : M.Cf) (Ag Aw Ab Ac Al : Option Addr) (ng cg nw cw nb cb nc cc nl cl : Nat) (P : Option Addr) (pn pc : Nat) (plan : List Int) (wo : Int) (hl0 : -9223372036854775808 ≤ f.last) (w : World) (HCS : Hid (CS w w.heap.size f Ag Aw Ab Ac Al ng cg nw cw nb cb nc cc nl cl)) (HP : Hid (Sl ics 1 w w.heap.size P pn pc plan)) (hsm : M.small ng nw nb nc nl) (hthin : (decide (M.small ng nw nb nc nl) && M.thin f) = true) (q0 : pn ≤ 14) (h0 : M.check f = 0) (hpl : M.isPlan f plan = true) (ht : M.truths f ≠ []) (hwo : ¬ wo ≤ (M.worth f plan).lo) :
  Calls Tryz.prog 5 #[.agg #[.int .i64 f.last, .slice Ag ng cg, .slice Aw nw cw, .slice Ab nb cb, .slice Ac nc cc, .int .i64 f.ripe, .int .i64 f.late, .int .i64 f.trod, .slice Al nl cl], .slice P pn pc, .int .i64 wo] w fun e w' => e = .returned (.bool true) ∧ Ev w w' := by
 have q0a : ¬ ((pn : Int) > 14) := by omega
 obtain ⟨s0, s1, s2, s3, s4⟩ := hsm
 have HTH := hid (fun W (hE : Ev w W) => by have := Thin_c f Ag Aw Ab Ac Al ng cg nw cw nb cb nc cc nl cl hl0 W (fun _ => HCS.out.ev hE); rw [hthin] at this; exact this)
 have HFA := hid (fun W (hE : Ev w W) => fault_c f Ag Aw Ab Ac Al ng cg nw cw nb cb nc cc nl cl hl0 W (HCS.out.ev hE))
 have HSU := hid (fun W (hE : Ev w W) => sure_c f Ag Aw Ab Ac Al ng cg nw cw nb cb nc cc nl cl hl0 W (HCS.out.ev hE))
 have HIP := hid (fun W (hE : Ev w W) => rIsPlan_c f Ag Aw Ab Ac Al ng cg nw cw nb cb nc cc nl cl HCS.out.b.len HCS.out.b.small P pn pc plan W (HP.out.ev hE))
 have hbg : M.begin f (M.isPlan f plan) = 0 := by unfold M.begin; rw [if_neg (by simp [h0]), hpl, if_neg (by simp), if_neg ht]
 have HWS := hid (fun (Bg : Option Addr) (dg : Nat) (Bw : Option Addr) (dw : Nat) (Bb : Option Addr) (db : Nat) (Bc : Option Addr) (dc : Nat) (Bl : Option Addr) (dl : Nat) (L : Option Addr) (d : Nat) W (h : CS W W.heap.size f Bg Bw Bb Bc Bl ng dg nw dw nb db nc dc nl dl) (hp : Sl ics 1 W W.heap.size L pn d plan) => Worst_ok f Bg Bw Bb Bc Bl ng dg nw dw nb db nc dc nl dl L pn d plan hl0 W h hp hbg)
 have HPW := hid (fun (Bg : Option Addr) (dg : Nat) (Bw : Option Addr) (dw : Nat) (Bb : Option Addr) (db : Nat) (Bc : Option Addr) (dc : Nat) (Bl : Option Addr) (dl : Nat) (L : Option Addr) (d : Nat) W (h : CS W W.heap.size f Bg Bw Bb Bc Bl ng dg nw dw nb db nc dc nl dl) (hp : Sl ics 1 W W.heap.size L pn d plan) => by have := ProveWorth_ok f Bg Bw Bb Bc Bl ng dg nw dw nb db nc dc nl dl L pn d plan wo hl0 W h hp hbg; rw [decide_eq_false hwo] at this; exact this)
 have hwr := M.worth_iz h0 ht hpl
 have HWR := hid (fun L ln lc W (hE : Ev w W) (hl : TL W L ln lc (M.rtr f)) => by have := rWorth_c f Ag Aw Ab Ac Al ng cg nw cw nb cb nc cc nl cl L ln lc (M.rtr f) P pn pc plan h0 (M.rtr_listed h0) hpl W (HCS.out.ev hE) hl (HP.out.ev hE); rw [hwr] at this; exact this)
 have hv := (M.check_ok h0).1
 have hl9 := (M.check0 h0).1
 have HITX := hid (fun (Tg Tw : Option Addr) (tg tgc tw twc : Nat) (t : M.Tr) (htm : t ∈ M.truths f) W (hE : Ev w W) (hg : Sl ics 1 W W.heap.size Tg tg tgc t.gr) (hw : Sl ics 1 W W.heap.size Tw tw twc t.wet) => by
  have := rIsTruth_c f Ag Aw Ab Ac Al ng cg nw cw nb cb nc cc nl cl Tg Tw tg tgc tw twc t hv hl9 W (HCS.out.ev hE) hg hw
  rw [show (M.listed f t && M.right f t) = true from by
   unfold M.truths at htm
   rw [List.mem_filter] at htm
   rw [htm.2, (M.mem_allTruths hv _).1 htm.1]; rfl] at this
  exact this)
 have HTOX := hid (fun (Tg Tw : Option Addr) (tg tgc tw twc : Nat) (t : M.Tr) (htm : t ∈ M.truths f ∧ M.total f t plan = (M.worth f plan).lo) W (hE : Ev w W) (hg : Sl ics 1 W W.heap.size Tg tg tgc t.gr) (hw : Sl ics 1 W W.heap.size Tw tw twc t.wet) => by
  have := rTotal_c f Ag Aw Ab Ac Al ng cg nw cw nb cb nc cc nl cl Tg Tw tg tgc tw twc t P pn pc plan h0 (M.truths_listed h0 t htm.1) hpl W (HCS.out.ev hE) hg hw (HP.out.ev hE)
  rw [htm.2] at this
  exact this)
 rw [h0] at HFA
 rw [hpl] at HIP hbg
 rw [hbg] at HSU
 obtain ⟨lo, hlo⟩ : ∃ lo, (M.worth f plan).lo = lo := ⟨_, rfl⟩
 rw [hlo] at hwo
 have HLO := hid hlo
 have fieldRL' := fieldRL lo (M.worth f plan).hi
 rw [hlo] at HWR
 have g1_ : ¬ (lo ≥ wo) := hwo
 have g2_ : ¬ (wo ≤ lo) := hwo
 have g3_ : lo < wo := by omega
 clear h0 hpl ht hwr hwo hv hl9
 clear hthin
 go_enter Tryz.func5, Tryz.ntmps5
 go_upto_region 3 with (first | (go_at_call 10; with_reducible refine (HTH.out _ (Ev.alloc (Ev.refl _) _)).mono ?_; rintro e w1 ⟨rfl, hb1⟩; have hG : Ev w w1 := (Ev.alloc (Ev.refl _) _).trans hb1; have Q0 := hid (hb1.heap (alloc1 w (.cells #[.int .i64 f.last, .slice Ag ng cg, .slice Aw nw cw, .slice Ab nb cb, .slice Ac nc cc, .int .i64 f.ripe, .int .i64 f.late, .int .i64 f.trod, .slice Al nl cl] 26)).1); obtain ⟨y0, y1, y2, y3, y4, y5, y6, y7, y8⟩ := cells9 Q0.out) | (with_reducible refine ⟨trivial, ?_⟩))
 go_upto_region 4 with (first | (go_at_call 13; with_reducible refine (Field_c f Ag Aw Ab Ac Al ng cg nw cw nb cb nc cc nl cl (by omega) (by omega) (by omega) (by omega) (by omega) _ (HCS.out.ev hG)).mono ?_; rintro e x2 ⟨⟨Bg2, dg2, Bw2, dw2, Bb2, db2, Bc2, dc2, Bl2, dl2, rfl, hc⟩, hb⟩; have HE2 := hid (hG.trans hb); have HV2 := hid hb; have HC2 := hid hc; clear hc hb) | (go_at_call 14; with_reducible refine (list_c P pn pc plan (by omega) _ (HP.out.ev HE2.out)).mono ?_; rintro e x3 ⟨⟨L3, dL3, rfl, ho⟩, hb⟩; have HE3 := hid (HE2.out.trans hb); have HV3 := hid (HV2.out.trans hb); have HO3 := hid (sl_own (enc := ics) (by decide) (ics_len _) (by omega) ho); have HC3 := hid (HC2.out.ev hb); clear ho hb) | (go_at_call 25; with_reducible refine (HWS.out Bg2 dg2 Bw2 dw2 Bb2 db2 Bc2 dc2 Bl2 dl2 L3 dL3 _ HC3.out HO3.out).mono ?_; rintro e x4 ⟨⟨t, Tg, Tw, tg, tgc, tw, twc, htm, hto, rfl, hsg, hsw⟩, hb⟩; have HE4 := hid (HE3.out.trans hb); have HV4 := hid (HV3.out.trans hb); have HTG := hid hsg; have HTW := hid hsw; have HX4 := hid (Ev.refl x4); have HTT := hid (And.intro htm hto); clear hsg hsw htm hto; clear hb; clear y0 y1 y2 y3 y4 y5 y6 y7 y8; obtain ⟨y0, y1, y2, y3, y4, y5, y6, y7, y8⟩ := cells9 (HV4.out.heap Q0.out)))
 generalize hWA : World.alloc x4 _ = WA
 have hEA : Ev x4 WA := by rw [← hWA]; exact Ev.alloc (Ev.refl _) _
 have hal := alloc1 x4 (.cells #[.slice Tg tg tgc, .slice Tw tw twc] 61)
 rw [hWA] at hal
 have HR := hid hal.1
 have HEX4 := hid HE4.out
 have HE5 := hid (HE4.out.trans hEA)
 have HV5 := hid (HV4.out.trans hEA)
 have HA5 := hid (Ev.refl WA)
 have HY5 := hid hEA
 clear hal hWA hEA HE2 HE3 HE4 HV2 HV3 HV4 HC2 HC3 HO3 HWS y0 y1 y2 y3 y4 y5 y6 y7 y8
 generalize x4.heap.size = p at HR
 obtain ⟨y0, y1, y2, y3, y4, y5, y6, y7, y8⟩ := cells9 (HV5.out.heap Q0.out)
 obtain ⟨z0, z1⟩ := cells2 HR.out
 go_upto_region 5 with (first | (go_at_call 13; with_reducible refine (Field_c f Ag Aw Ab Ac Al ng cg nw cw nb cb nc cc nl cl (by omega) (by omega) (by omega) (by omega) (by omega) _ (HCS.out.ev HE5.out)).mono ?_; rintro e x6 ⟨⟨Bg6, dg6, Bw6, dw6, Bb6, db6, Bc6, dc6, Bl6, dl6, rfl, hc⟩, hb⟩; have HE6 := hid (HE5.out.trans hb); have HV6 := hid (HV5.out.trans hb); have HA6 := hid (HA5.out.trans hb); have HC6 := hid hc; clear hc hb) | (go_at_call 14; with_reducible refine (list_c P pn pc plan (by omega) _ (HP.out.ev HE6.out)).mono ?_; rintro e x7 ⟨⟨L7, dL7, rfl, ho⟩, hb⟩; have HE7 := hid (HE6.out.trans hb); have HV7 := hid (HV6.out.trans hb); have HA7 := hid (HA6.out.trans hb); have HO7 := hid (sl_own (enc := ics) (by decide) (ics_len _) (by omega) ho); have HC7 := hid (HC6.out.ev hb); clear ho hb) | (go_at_call 26; with_reducible refine (HPW.out Bg6 dg6 Bw6 dw6 Bb6 db6 Bc6 dc6 Bl6 dl6 L7 dL7 _ HC7.out HO7.out).mono ?_; rintro e x8 ⟨rfl, hb⟩; have HE8 := hid (HE7.out.trans hb); have HV8 := hid (HV7.out.trans hb); have HA8 := hid (HA7.out.trans hb); clear hb; clear y0 y1 y2 y3 y4 y5 y6 y7 y8; obtain ⟨y0, y1, y2, y3, y4, y5, y6, y7, y8⟩ := cells9 (HV8.out.heap Q0.out); clear z0 z1; obtain ⟨z0, z1⟩ := cells2 (HA8.out.heap HR.out)))
 go_upto_region 11 with (first | (go_at_call 16; with_reducible refine (HSU.out _ HE8.out).mono ?_; rintro e x9 ⟨⟨LB, lm, ld, rfl, hm, htl⟩, hb⟩; have HE9 := hid (HE8.out.trans hb); have HV9 := hid (HV8.out.trans hb); have HA9 := hid (HA8.out.trans hb); have HTL := hid htl; have HK9 := hid (Ev.refl x9); clear htl; clear hb; clear y0 y1 y2 y3 y4 y5 y6 y7 y8; obtain ⟨y0, y1, y2, y3, y4, y5, y6, y7, y8⟩ := cells9 (HV9.out.heap Q0.out); clear z0 z1; obtain ⟨z0, z1⟩ := cells2 (HA9.out.heap HR.out)) | (go_at_call 17; with_reducible refine (HFA.out _ HE9.out).mono ?_; rintro e x10 ⟨rfl, hb⟩; have HE10 := hid (HE9.out.trans hb); have HV10 := hid (HV9.out.trans hb); have HA10 := hid (HA9.out.trans hb); have HK10 := hid (HK9.out.trans hb); clear hb; clear y0 y1 y2 y3 y4 y5 y6 y7 y8; obtain ⟨y0, y1, y2, y3, y4, y5, y6, y7, y8⟩ := cells9 (HV10.out.heap Q0.out); clear z0 z1; obtain ⟨z0, z1⟩ := cells2 (HA10.out.heap HR.out)) | (go_at_call 18; with_reducible refine (HIP.out _ HE10.out).mono ?_; rintro e x11 ⟨rfl, hb⟩; have HE11 := hid (HE10.out.trans hb); have HV11 := hid (HV10.out.trans hb); have HA11 := hid (HA10.out.trans hb); have HK11 := hid (HK10.out.trans hb); clear hb; clear y0 y1 y2 y3 y4 y5 y6 y7 y8; obtain ⟨y0, y1, y2, y3, y4, y5, y6, y7, y8⟩ := cells9 (HV11.out.heap Q0.out); clear z0 z1; obtain ⟨z0, z1⟩ := cells2 (HA11.out.heap HR.out)) | (with_reducible refine ⟨trivial, ?_⟩))
 have HTL := hid (HTL.out (by first | exact trivial | rfl))
 generalize hWB : World.alloc x11 _ = WB
 have hEB : Ev x11 WB := by rw [← hWB]; exact Ev.alloc (Ev.refl _) _
 have hal := alloc1 x11 (.cells #[.slice Tg tg tgc, .slice Tw tw twc] 65)
 rw [hWB] at hal
 have HQ := hid hal.1
 have HE12 := hid (HE11.out.trans hEB)
 have HV12 := hid (HV11.out.trans hEB)
 have HK12 := hid (HK11.out.trans hEB)
 have HD12 := hid (Ev.refl WB)
 have HY12 := hid (HY5.out.trans (HA11.out.trans hEB))
 have HIT := hid (fun W (hE : Ev x4 W) => HITX.out Tg Tw tg tgc tw twc t HTT.out.1 W (HEX4.out.trans hE) (HTG.out.ev hE) (HTW.out.ev hE))
 have HTO := hid (fun W (hE : Ev x4 W) => (by have := HTOX.out Tg Tw tg tgc tw twc t HTT.out W (HEX4.out.trans hE) (HTG.out.ev hE) (HTW.out.ev hE); rw [HLO.out] at this; exact this))
 clear hal hWB hEB y0 y1 y2 y3 y4 y5 y6 y7 y8 z0 z1
 generalize x11.heap.size = q at HQ
 obtain ⟨y0, y1, y2, y3, y4, y5, y6, y7, y8⟩ := cells9 (HV12.out.heap Q0.out)
 obtain ⟨u0, u1⟩ := cells2 HQ.out
 go_wp2_with (first | (go_at_call 20; with_reducible refine (HWR.out LB lm ld _ HE12.out (HTL.out.ev HK12.out)).mono ?_; rintro e x13 ⟨rfl, hb⟩; have HE13 := hid (HE12.out.trans hb); have HV13 := hid (HV12.out.trans hb); have HK13 := hid (HK12.out.trans hb); have HD13 := hid (HD12.out.trans hb); clear hb; clear y0 y1 y2 y3 y4 y5 y6 y7 y8; obtain ⟨y0, y1, y2, y3, y4, y5, y6, y7, y8⟩ := cells9 (HV13.out.heap Q0.out); clear u0 u1; obtain ⟨u0, u1⟩ := cells2 (HD13.out.heap HQ.out)) | (go_at_call 27; with_reducible refine (HIT.out _ (HY12.out.trans HD13.out)).mono ?_; rintro e x14 ⟨rfl, hb⟩; have HE14 := hid (HE13.out.trans hb); have HV14 := hid (HV13.out.trans hb); have HK14 := hid (HK13.out.trans hb); have HD14 := hid (HD13.out.trans hb); clear hb; clear y0 y1 y2 y3 y4 y5 y6 y7 y8; obtain ⟨y0, y1, y2, y3, y4, y5, y6, y7, y8⟩ := cells9 (HV14.out.heap Q0.out); clear u0 u1; obtain ⟨u0, u1⟩ := cells2 (HD14.out.heap HQ.out)) | (go_at_call 28; with_reducible refine (HTO.out _ (HY12.out.trans HD14.out)).mono ?_; rintro e x15 ⟨rfl, hb⟩; have HE15 := hid (HE14.out.trans hb); have HV15 := hid (HV14.out.trans hb); have HK15 := hid (HK14.out.trans hb); have HD15 := hid (HD14.out.trans hb); clear hb; clear y0 y1 y2 y3 y4 y5 y6 y7 y8; obtain ⟨y0, y1, y2, y3, y4, y5, y6, y7, y8⟩ := cells9 (HV15.out.heap Q0.out); clear u0 u1; obtain ⟨u0, u1⟩ := cells2 (HD15.out.heap HQ.out)) | (go_at_call 11; with_reducible refine (awake_c _).mono ?_; rintro e w99 ⟨rfl, hb99⟩) | (with_reducible refine ⟨trivial, ?_⟩))
 go_ret
 exact ⟨(by first | rfl | exact ret_bool (by rw [decide_eq_false (by omega)]; rfl)), HE15.out.trans hb99⟩

theorem cropWorst_c (f : M.Cf) (Ag Aw Ab Ac Al : Option Addr) (ng cg nw cw nb cb nc cc nl cl : Nat) (P : Option Addr) (pn pc : Nat) (plan : List Int) (wo : Int) (hl0 : -9223372036854775808 ≤ f.last) (w : World) (hs : M.small ng nw nb nc nl → CS w w.heap.size f Ag Aw Ab Ac Al ng cg nw cw nb cb nc cc nl cl) (hp : pn ≤ 1000 → Sl ics 1 w w.heap.size P pn pc plan) :
  Calls Tryz.prog 5 #[.agg #[.int .i64 f.last, .slice Ag ng cg, .slice Aw nw cw, .slice Ab nb cb, .slice Ac nc cc, .int .i64 f.ripe, .int .i64 f.late, .int .i64 f.trod, .slice Al nl cl], .slice P pn pc, .int .i64 wo] w fun e w' => e = .returned (.bool true) ∧ Ev w w' := by
 cases hthin : (decide (M.small ng nw nb nc nl) && M.thin f) with
 | false => exact cropWorst_no f Ag Aw Ab Ac Al ng cg nw cw nb cb nc cc nl cl P pn pc plan wo hl0 w hs hthin
 | true =>
  have hsm : M.small ng nw nb nc nl := by
   rw [Bool.and_eq_true, decide_eq_true_eq] at hthin
   exact hthin.1
  have HCS := hid (hs hsm)
  by_cases q0 : pn ≤ 14
  ·
   have HP := hid (hp (by omega))
   by_cases h0 : M.check f = 0
   ·
    cases hpl : M.isPlan f plan with
    | false => exact cropWorst_b f Ag Aw Ab Ac Al ng cg nw cw nb cb nc cc nl cl P pn pc plan wo hl0 w HCS HP hsm hthin q0 h0 hpl
    | true =>
     by_cases ht : M.truths f = []
     ·
      exact cropWorst_c1 f Ag Aw Ab Ac Al ng cg nw cw nb cb nc cc nl cl P pn pc plan wo hl0 w HCS HP hsm hthin q0 h0 hpl ht
     ·
      by_cases hwo : wo ≤ (M.worth f plan).lo
      ·
       exact cropWorst_d f Ag Aw Ab Ac Al ng cg nw cw nb cb nc cc nl cl P pn pc plan wo hl0 w HCS HP hsm hthin q0 h0 hpl ht hwo
      ·
       exact cropWorst_e f Ag Aw Ab Ac Al ng cg nw cw nb cb nc cc nl cl P pn pc plan wo hl0 w HCS HP hsm hthin q0 h0 hpl ht hwo
   ·
    exact cropWorst_a f Ag Aw Ab Ac Al ng cg nw cw nb cb nc cc nl cl P pn pc plan wo hl0 w HCS HP hsm hthin q0 h0
  ·
   exact cropWorst_long f Ag Aw Ab Ac Al ng cg nw cw nb cb nc cc nl cl P pn pc plan wo hl0 w hs hthin q0

end Go.Proofs.YtffbkbcjddigdaaGreat
