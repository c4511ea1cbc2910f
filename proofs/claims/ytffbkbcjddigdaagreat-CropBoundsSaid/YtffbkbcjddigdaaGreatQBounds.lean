import Derived.Test.YtffbkbcjddigdaaGreatA77
import Derived.Test.YtffbkbcjddigdaaGreatA76
import Derived.Test.YtffbkbcjddigdaaGreatA66
import Derived.Test.YtffbkbcjddigdaaGreatA54
import Derived.Test.YtffbkbcjddigdaaGreatA48
import Derived.Test.YtffbkbcjddigdaaGreatA49
set_option linter.unusedSimpArgs false
set_option linter.unusedVariables false
namespace Go.Proofs.YtffbkbcjddigdaaGreat
open Go.RowKit Go.Shelf

theorem M.worth_is {f : M.Cf} (h0 : M.check f = 0) (hn : M.truths f ≠ []) {plan : List Int} (hpl : M.isPlan f plan = true) : M.worthR f (M.rtr f) plan = M.worth f plan := by
 have hn2 : M.rtr f ≠ [] := fun e => hn ((M.rtr_nil h0).1 e)
 unfold M.worthR M.worth
 rw [M.widen_span (by simpa using hn2)]
 ·
  refine M.span_set (fun y => ?_) (by simpa using hn2)
  simp only [List.mem_map, M.rtr_mem h0]
 ·
  intro y hy
  obtain ⟨t, ht, rfl⟩ := List.mem_map.1 hy
  have := M.total_bd h0 (M.rtr_listed h0 t ht) hpl
  omega
theorem M.gauge_is {f : M.Cf} (h0 : M.check f = 0) (hn : M.truths f ≠ []) {plan : List Int} {k : Nat} (hk : k < plan.length) (g : M.Cr → Int) (hg : ∀ t, M.listed f t = true → 0 ≤ g (M.crop f t plan k) ∧ g (M.crop f t plan k) ≤ 1099511627776) : M.widen ⟨1099511627776, -1⟩ ((M.rtr f).map fun t => g (M.crop f t plan k)) = M.gauge g ((M.truths f).map fun t => M.play f t plan) k := by
 have hn2 : M.rtr f ≠ [] := fun e => hn ((M.rtr_nil h0).1 e)
 have hgd : ∀ t, (M.play f t plan).getD k ⟨0, 0, 0⟩ = M.crop f t plan k := fun t => by rw [List.getD_eq_getElem?_getD, M.play_at hk]; rfl
 unfold M.gauge
 rw [M.widen_span (by simpa using hn2)]
 ·
  refine M.span_set (fun y => ?_) (by simpa using hn2)
  simp only [List.mem_map, M.rtr_mem h0]
  constructor
  ·
   rintro ⟨t, ht, rfl⟩
   exact ⟨_, ⟨t, ht, rfl⟩, by rw [hgd]⟩
  ·
   rintro ⟨_, ⟨t, ht, rfl⟩, rfl⟩
   exact ⟨t, ht, by rw [hgd]⟩
 ·
  intro y hy
  obtain ⟨t, ht, rfl⟩ := List.mem_map.1 hy
  exact hg t (M.rtr_listed h0 t ht)
theorem M.bd_is {f : M.Cf} (h0 : M.check f = 0) (hn : M.truths f ≠ []) {plan : List Int} {k : Nat} {x : M.Bd} (hx : (M.bounds f (M.truths f) plan)[k]? = some x) : M.bdR f (M.rtr f) plan k = x := by
 have hk : k < plan.length := by
  have h := (List.getElem?_eq_some_iff.1 hx).1
  simpa [M.bounds] using h
 unfold M.bounds at hx
 rw [List.getElem?_map, List.getElem?_range hk, Option.map_some] at hx
 obtain rfl := Option.some.inj hx
 have hcb := fun t ht => M.crop_bd (f := f) (t := t) (plan := plan) h0 ht (M.crop f t plan k) (by unfold M.play; exact List.mem_map.2 ⟨k, List.mem_range.2 hk, rfl⟩)
 unfold M.bdR
 rw [M.gauge_is h0 hn hk M.Cr.wt (fun t ht => by have := hcb t ht; omega), M.gauge_is h0 hn hk M.Cr.wo (fun t ht => by have := hcb t ht; omega)]

set_option maxRecDepth 100000 in
set_option maxHeartbeats 2000000 in
theorem cropBounds_no (f : M.Cf) (Ag Aw Ab Ac Al : Option Addr) (ng cg nw cw nb cb nc cc nl cl : Nat) (P : Option Addr) (pn pc : Nat) (plan : List Int) (hl0 : -9223372036854775808 ≤ f.last) (w : World) (hs : M.small ng nw nb nc nl → CS w w.heap.size f Ag Aw Ab Ac Al ng cg nw cw nb cb nc cc nl cl) (hthin : (decide (M.small ng nw nb nc nl) && M.thin f) = false) :
  Calls Tryz.prog 3 #[.agg #[.int .i64 f.last, .slice Ag ng cg, .slice Aw nw cw, .slice Ab nb cb, .slice Ac nc cc, .int .i64 f.ripe, .int .i64 f.late, .int .i64 f.trod, .slice Al nl cl], .slice P pn pc] w fun e w' => e = .returned (.bool true) ∧ Ev w w' := by
 have HTH := hid (fun W (hE : Ev w W) => by have := Thin_c f Ag Aw Ab Ac Al ng cg nw cw nb cb nc cc nl cl hl0 W (fun h => (hs h).ev hE); rw [hthin] at this; exact this)
 clear hs hthin
 go_enter Tryz.func3, Tryz.ntmps3
 go_wp2_with (first | (go_at_call 10; with_reducible refine (HTH.out _ (Ev.alloc (Ev.refl _) _)).mono ?_; rintro e w1 ⟨rfl, hb1⟩; have hG : Ev w w1 := (Ev.alloc (Ev.refl _) _).trans hb1; have Q0 := hid (hb1.heap (alloc1 w (.cells #[.int .i64 f.last, .slice Ag ng cg, .slice Aw nw cw, .slice Ab nb cb, .slice Ac nc cc, .int .i64 f.ripe, .int .i64 f.late, .int .i64 f.trod, .slice Al nl cl] 26)).1); obtain ⟨y0, y1, y2, y3, y4, y5, y6, y7, y8⟩ := cells9 Q0.out) | (go_at_call 11; with_reducible refine (awake_c _).mono ?_; rintro e w99 ⟨rfl, hb99⟩) | (with_reducible refine ⟨trivial, ?_⟩))
 go_ret
 exact ⟨rfl, hG.trans hb99⟩

set_option maxRecDepth 100000 in
set_option maxHeartbeats 2000000 in
theorem cropBounds_long (f : M.Cf) (Ag Aw Ab Ac Al : Option Addr) (ng cg nw cw nb cb nc cc nl cl : Nat) (P : Option Addr) (pn pc : Nat) (plan : List Int) (hl0 : -9223372036854775808 ≤ f.last) (w : World) (hs : M.small ng nw nb nc nl → CS w w.heap.size f Ag Aw Ab Ac Al ng cg nw cw nb cb nc cc nl cl) (hthin : (decide (M.small ng nw nb nc nl) && M.thin f) = true) (q0 : ¬ pn ≤ 14) :
  Calls Tryz.prog 3 #[.agg #[.int .i64 f.last, .slice Ag ng cg, .slice Aw nw cw, .slice Ab nb cb, .slice Ac nc cc, .int .i64 f.ripe, .int .i64 f.late, .int .i64 f.trod, .slice Al nl cl], .slice P pn pc] w fun e w' => e = .returned (.bool true) ∧ Ev w w' := by
 have HTH := hid (fun W (hE : Ev w W) => by have := Thin_c f Ag Aw Ab Ac Al ng cg nw cw nb cb nc cc nl cl hl0 W (fun h => (hs h).ev hE); rw [hthin] at this; exact this)
 have q0a : (pn : Int) > 14 := by omega
 clear hs hthin
 go_enter Tryz.func3, Tryz.ntmps3
 go_wp2_with (first | (go_at_call 10; with_reducible refine (HTH.out _ (Ev.alloc (Ev.refl _) _)).mono ?_; rintro e w1 ⟨rfl, hb1⟩; have hG : Ev w w1 := (Ev.alloc (Ev.refl _) _).trans hb1; have Q0 := hid (hb1.heap (alloc1 w (.cells #[.int .i64 f.last, .slice Ag ng cg, .slice Aw nw cw, .slice Ab nb cb, .slice Ac nc cc, .int .i64 f.ripe, .int .i64 f.late, .int .i64 f.trod, .slice Al nl cl] 26)).1); obtain ⟨y0, y1, y2, y3, y4, y5, y6, y7, y8⟩ := cells9 Q0.out) | (go_at_call 11; with_reducible refine (awake_c _).mono ?_; rintro e w99 ⟨rfl, hb99⟩) | (with_reducible refine ⟨trivial, ?_⟩))
 go_ret
 exact ⟨rfl, hG.trans hb99⟩

set_option maxRecDepth 100000 in
set_option maxHeartbeats 8000000 in
theorem cropBounds_a (f : M.Cf) (Ag Aw Ab Ac Al : Option Addr) (ng cg nw cw nb cb nc cc nl cl : Nat) (P : Option Addr) (pn pc : Nat) (plan : List Int) (hl0 : -9223372036854775808 ≤ f.last) (w : World) (HCS : Hid (CS w w.heap.size f Ag Aw Ab Ac Al ng cg nw cw nb cb nc cc nl cl)) (HP : Hid (Sl ics 1 w w.heap.size P pn pc plan)) (hsm : M.small ng nw nb nc nl) (hthin : (decide (M.small ng nw nb nc nl) && M.thin f) = true) (q0 : pn ≤ 14) (h0 : M.check f ≠ 0) :
  Calls Tryz.prog 3 #[.agg #[.int .i64 f.last, .slice Ag ng cg, .slice Aw nw cw, .slice Ab nb cb, .slice Ac nc cc, .int .i64 f.ripe, .int .i64 f.late, .int .i64 f.trod, .slice Al nl cl], .slice P pn pc] w fun e w' => e = .returned (.bool true) ∧ Ev w w' := by
 have q0a : ¬ ((pn : Int) > 14) := by omega
 obtain ⟨s0, s1, s2, s3, s4⟩ := hsm
 have HTH := hid (fun W (hE : Ev w W) => by have := Thin_c f Ag Aw Ab Ac Al ng cg nw cw nb cb nc cc nl cl hl0 W (fun _ => HCS.out.ev hE); rw [hthin] at this; exact this)
 have HFA := hid (fun W (hE : Ev w W) => fault_c f Ag Aw Ab Ac Al ng cg nw cw nb cb nc cc nl cl hl0 W (HCS.out.ev hE))
 have HSU := hid (fun W (hE : Ev w W) => sure_c f Ag Aw Ab Ac Al ng cg nw cw nb cb nc cc nl cl hl0 W (HCS.out.ev hE))
 have HIP := hid (fun W (hE : Ev w W) => rIsPlan_c f Ag Aw Ab Ac Al ng cg nw cw nb cb nc cc nl cl HCS.out.b.len HCS.out.b.small P pn pc plan W (HP.out.ev hE))
 have hbg : ∀ b, M.begin f b = M.check f := fun b => by unfold M.begin; rw [if_pos h0]
 have HBO := hid (fun (Bg : Option Addr) (dg : Nat) (Bw : Option Addr) (dw : Nat) (Bb : Option Addr) (db : Nat) (Bc : Option Addr) (dc : Nat) (Bl : Option Addr) (dl : Nat) (L : Option Addr) (d : Nat) W (h : CS W W.heap.size f Bg Bw Bb Bc Bl ng dg nw dw nb db nc dc nl dl) (hp : Sl ics 1 W W.heap.size L pn d plan) => by have := Bounds_err f Bg Bw Bb Bc Bl ng dg nw dw nb db nc dc nl dl L pn d plan hl0 W h hp (by rw [hbg]; exact h0); rw [hbg] at this; exact this)
 have HWO := hid (fun (Bg : Option Addr) (dg : Nat) (Bw : Option Addr) (dw : Nat) (Bb : Option Addr) (db : Nat) (Bc : Option Addr) (dc : Nat) (Bl : Option Addr) (dl : Nat) (L : Option Addr) (d : Nat) W (h : CS W W.heap.size f Bg Bw Bb Bc Bl ng dg nw dw nb db nc dc nl dl) (hp : Sl ics 1 W W.heap.size L pn d plan) => by have := Worth_err f Bg Bw Bb Bc Bl ng dg nw dw nb db nc dc nl dl L pn d plan hl0 W h hp (by rw [hbg]; exact h0); rw [hbg] at this; exact this)
 rw [hbg] at HSU
 have hec := h0
 generalize M.check f = ec at HBO HWO HFA HSU hec
 have c1_ : (ec == 0) = false := by simpa using hec
 have c2_ : (ec != 0) = true := by simpa using hec
 have c3_ : (ec != ec) = false := by simp
 have c4_ : (ec == ec) = true := by simp
 clear h0 hbg hec
 clear hthin
 go_enter Tryz.func3, Tryz.ntmps3
 go_upto_region 3 with (first | (go_at_call 10; with_reducible refine (HTH.out _ (Ev.alloc (Ev.refl _) _)).mono ?_; rintro e w1 ⟨rfl, hb1⟩; have hG : Ev w w1 := (Ev.alloc (Ev.refl _) _).trans hb1; have Q0 := hid (hb1.heap (alloc1 w (.cells #[.int .i64 f.last, .slice Ag ng cg, .slice Aw nw cw, .slice Ab nb cb, .slice Ac nc cc, .int .i64 f.ripe, .int .i64 f.late, .int .i64 f.trod, .slice Al nl cl] 26)).1); obtain ⟨y0, y1, y2, y3, y4, y5, y6, y7, y8⟩ := cells9 Q0.out) | (with_reducible refine ⟨trivial, ?_⟩))
 go_upto_region 4 with (first | (go_at_call 13; with_reducible refine (Field_c f Ag Aw Ab Ac Al ng cg nw cw nb cb nc cc nl cl (by omega) (by omega) (by omega) (by omega) (by omega) _ (HCS.out.ev hG)).mono ?_; rintro e x2 ⟨⟨Bg2, dg2, Bw2, dw2, Bb2, db2, Bc2, dc2, Bl2, dl2, rfl, hc⟩, hb⟩; have HE2 := hid (hG.trans hb); have HV2 := hid (hb); have HC2 := hid hc; clear hc hb) | (go_at_call 14; with_reducible refine (list_c P pn pc plan (by omega) _ (HP.out.ev HE2.out)).mono ?_; rintro e x3 ⟨⟨L3, dL3, rfl, ho⟩, hb⟩; have HE3 := hid (HE2.out.trans hb); have HV3 := hid (HV2.out.trans hb); have HO3 := hid (sl_own (enc := ics) (by decide) (ics_len _) (by omega) ho); have HC3 := hid (HC2.out.ev hb); clear ho hb) | (go_at_call 12; with_reducible refine (HBO.out Bg2 dg2 Bw2 dw2 Bb2 db2 Bc2 dc2 Bl2 dl2 L3 dL3 _ HC3.out HO3.out).mono ?_; rintro e x4 ⟨rfl, hb⟩; have HE4 := hid (HE3.out.trans hb); have HV4 := hid (HV3.out.trans hb); clear hb; clear y0 y1 y2 y3 y4 y5 y6 y7 y8; obtain ⟨y0, y1, y2, y3, y4, y5, y6, y7, y8⟩ := cells9 (HV4.out.heap Q0.out)))
 go_upto_region 5 with (first | (go_at_call 13; with_reducible refine (Field_c f Ag Aw Ab Ac Al ng cg nw cw nb cb nc cc nl cl (by omega) (by omega) (by omega) (by omega) (by omega) _ (HCS.out.ev HE4.out)).mono ?_; rintro e x5 ⟨⟨Bg5, dg5, Bw5, dw5, Bb5, db5, Bc5, dc5, Bl5, dl5, rfl, hc⟩, hb⟩; have HE5 := hid (HE4.out.trans hb); have HV5 := hid (HV4.out.trans hb); have HC5 := hid hc; clear hc hb) | (go_at_call 14; with_reducible refine (list_c P pn pc plan (by omega) _ (HP.out.ev HE5.out)).mono ?_; rintro e x6 ⟨⟨L6, dL6, rfl, ho⟩, hb⟩; have HE6 := hid (HE5.out.trans hb); have HV6 := hid (HV5.out.trans hb); have HO6 := hid (sl_own (enc := ics) (by decide) (ics_len _) (by omega) ho); have HC6 := hid (HC5.out.ev hb); clear ho hb) | (go_at_call 15; with_reducible refine (HWO.out Bg5 dg5 Bw5 dw5 Bb5 db5 Bc5 dc5 Bl5 dl5 L6 dL6 _ HC6.out HO6.out).mono ?_; rintro e x7 ⟨rfl, hb⟩; have HE7 := hid (HE6.out.trans hb); have HV7 := hid (HV6.out.trans hb); clear hb; clear y0 y1 y2 y3 y4 y5 y6 y7 y8; obtain ⟨y0, y1, y2, y3, y4, y5, y6, y7, y8⟩ := cells9 (HV7.out.heap Q0.out)))
 generalize hWA : World.alloc x7 _ = WA
 have hEA : Ev x7 WA := by rw [← hWA]; exact Ev.alloc (Ev.refl _) _
 have hal := alloc1 x7 (.cells #[.int .i64 0, .int .i64 0] 40)
 rw [hWA] at hal
 have HR := hid hal.1
 have HEA := hid (HE7.out.trans hEA)
 have HVA := hid (HV7.out.trans hEA)
 clear hal hWA hEA HE2 HE3 HE4 HE5 HE6 HE7 HV2 HV3 HV4 HV5 HV6 HV7 HC2 HC3 HC5 HC6 HO3 HO6 HBO HWO y0 y1 y2 y3 y4 y5 y6 y7 y8
 generalize x7.heap.size = p at HR
 obtain ⟨y0, y1, y2, y3, y4, y5, y6, y7, y8⟩ := cells9 (HVA.out.heap Q0.out)
 obtain ⟨z0, z1⟩ := cells2 HR.out
 go_wp2_with (first | (go_at_call 16; with_reducible refine (HSU.out _ HEA.out).mono ?_; rintro e x8 ⟨⟨LB, lm, ld, rfl, hm, htl⟩, hb⟩; have HE8 := hid (HEA.out.trans hb); have HV8 := hid (HVA.out.trans hb); have HA8 := hid hb; have HTL := hid htl; clear htl hb; clear y0 y1 y2 y3 y4 y5 y6 y7 y8; clear z0 z1; obtain ⟨y0, y1, y2, y3, y4, y5, y6, y7, y8⟩ := cells9 (HV8.out.heap Q0.out); obtain ⟨z0, z1⟩ := cells2 (HA8.out.heap HR.out)) | (go_at_call 17; with_reducible refine (HFA.out _ HE8.out).mono ?_; rintro e x9 ⟨rfl, hb⟩; have HE9 := hid (HE8.out.trans hb); have HV9 := hid (HV8.out.trans hb); have HA9 := hid (HA8.out.trans hb); have HK9 := hid hb; clear hb; clear y0 y1 y2 y3 y4 y5 y6 y7 y8; clear z0 z1; obtain ⟨y0, y1, y2, y3, y4, y5, y6, y7, y8⟩ := cells9 (HV9.out.heap Q0.out); obtain ⟨z0, z1⟩ := cells2 (HA9.out.heap HR.out)) | (go_at_call 11; with_reducible refine (awake_c _).mono ?_; rintro e w99 ⟨rfl, hb99⟩) | (with_reducible refine ⟨trivial, ?_⟩))
 go_ret
 exact ⟨rfl, HE9.out.trans hb99⟩

set_option maxRecDepth 100000 in
set_option maxHeartbeats 8000000 in
theorem cropBounds_b (f : M.Cf) (Ag Aw Ab Ac Al : Option Addr) (ng cg nw cw nb cb nc cc nl cl : Nat) (P : Option Addr) (pn pc : Nat) (plan : List Int) (hl0 : -9223372036854775808 ≤ f.last) (w : World) (HCS : Hid (CS w w.heap.size f Ag Aw Ab Ac Al ng cg nw cw nb cb nc cc nl cl)) (HP : Hid (Sl ics 1 w w.heap.size P pn pc plan)) (hsm : M.small ng nw nb nc nl) (hthin : (decide (M.small ng nw nb nc nl) && M.thin f) = true) (q0 : pn ≤ 14) (h0 : M.check f = 0) (hpl : M.isPlan f plan = false) :
  Calls Tryz.prog 3 #[.agg #[.int .i64 f.last, .slice Ag ng cg, .slice Aw nw cw, .slice Ab nb cb, .slice Ac nc cc, .int .i64 f.ripe, .int .i64 f.late, .int .i64 f.trod, .slice Al nl cl], .slice P pn pc] w fun e w' => e = .returned (.bool true) ∧ Ev w w' := by
 have q0a : ¬ ((pn : Int) > 14) := by omega
 obtain ⟨s0, s1, s2, s3, s4⟩ := hsm
 have HTH := hid (fun W (hE : Ev w W) => by have := Thin_c f Ag Aw Ab Ac Al ng cg nw cw nb cb nc cc nl cl hl0 W (fun _ => HCS.out.ev hE); rw [hthin] at this; exact this)
 have HFA := hid (fun W (hE : Ev w W) => fault_c f Ag Aw Ab Ac Al ng cg nw cw nb cb nc cc nl cl hl0 W (HCS.out.ev hE))
 have HSU := hid (fun W (hE : Ev w W) => sure_c f Ag Aw Ab Ac Al ng cg nw cw nb cb nc cc nl cl hl0 W (HCS.out.ev hE))
 have HIP := hid (fun W (hE : Ev w W) => rIsPlan_c f Ag Aw Ab Ac Al ng cg nw cw nb cb nc cc nl cl HCS.out.b.len HCS.out.b.small P pn pc plan W (HP.out.ev hE))
 have hbg : M.begin f (M.isPlan f plan) = 2 := by unfold M.begin; rw [if_neg (by simp [h0]), hpl, if_pos rfl]
 have HBO := hid (fun (Bg : Option Addr) (dg : Nat) (Bw : Option Addr) (dw : Nat) (Bb : Option Addr) (db : Nat) (Bc : Option Addr) (dc : Nat) (Bl : Option Addr) (dl : Nat) (L : Option Addr) (d : Nat) W (h : CS W W.heap.size f Bg Bw Bb Bc Bl ng dg nw dw nb db nc dc nl dl) (hp : Sl ics 1 W W.heap.size L pn d plan) => by have := Bounds_err f Bg Bw Bb Bc Bl ng dg nw dw nb db nc dc nl dl L pn d plan hl0 W h hp (by rw [hbg]; decide); rw [hbg] at this; exact this)
 have HWO := hid (fun (Bg : Option Addr) (dg : Nat) (Bw : Option Addr) (dw : Nat) (Bb : Option Addr) (db : Nat) (Bc : Option Addr) (dc : Nat) (Bl : Option Addr) (dl : Nat) (L : Option Addr) (d : Nat) W (h : CS W W.heap.size f Bg Bw Bb Bc Bl ng dg nw dw nb db nc dc nl dl) (hp : Sl ics 1 W W.heap.size L pn d plan) => by have := Worth_err f Bg Bw Bb Bc Bl ng dg nw dw nb db nc dc nl dl L pn d plan hl0 W h hp (by rw [hbg]; decide); rw [hbg] at this; exact this)
 rw [h0] at HFA
 rw [hpl] at HIP
 generalize M.begin f true = ec at HSU
 clear h0 hbg hpl
 clear hthin
 go_enter Tryz.func3, Tryz.ntmps3
 go_upto_region 3 with (first | (go_at_call 10; with_reducible refine (HTH.out _ (Ev.alloc (Ev.refl _) _)).mono ?_; rintro e w1 ⟨rfl, hb1⟩; have hG : Ev w w1 := (Ev.alloc (Ev.refl _) _).trans hb1; have Q0 := hid (hb1.heap (alloc1 w (.cells #[.int .i64 f.last, .slice Ag ng cg, .slice Aw nw cw, .slice Ab nb cb, .slice Ac nc cc, .int .i64 f.ripe, .int .i64 f.late, .int .i64 f.trod, .slice Al nl cl] 26)).1); obtain ⟨y0, y1, y2, y3, y4, y5, y6, y7, y8⟩ := cells9 Q0.out) | (with_reducible refine ⟨trivial, ?_⟩))
 go_upto_region 4 with (first | (go_at_call 13; with_reducible refine (Field_c f Ag Aw Ab Ac Al ng cg nw cw nb cb nc cc nl cl (by omega) (by omega) (by omega) (by omega) (by omega) _ (HCS.out.ev hG)).mono ?_; rintro e x2 ⟨⟨Bg2, dg2, Bw2, dw2, Bb2, db2, Bc2, dc2, Bl2, dl2, rfl, hc⟩, hb⟩; have HE2 := hid (hG.trans hb); have HV2 := hid (hb); have HC2 := hid hc; clear hc hb) | (go_at_call 14; with_reducible refine (list_c P pn pc plan (by omega) _ (HP.out.ev HE2.out)).mono ?_; rintro e x3 ⟨⟨L3, dL3, rfl, ho⟩, hb⟩; have HE3 := hid (HE2.out.trans hb); have HV3 := hid (HV2.out.trans hb); have HO3 := hid (sl_own (enc := ics) (by decide) (ics_len _) (by omega) ho); have HC3 := hid (HC2.out.ev hb); clear ho hb) | (go_at_call 12; with_reducible refine (HBO.out Bg2 dg2 Bw2 dw2 Bb2 db2 Bc2 dc2 Bl2 dl2 L3 dL3 _ HC3.out HO3.out).mono ?_; rintro e x4 ⟨rfl, hb⟩; have HE4 := hid (HE3.out.trans hb); have HV4 := hid (HV3.out.trans hb); clear hb; clear y0 y1 y2 y3 y4 y5 y6 y7 y8; obtain ⟨y0, y1, y2, y3, y4, y5, y6, y7, y8⟩ := cells9 (HV4.out.heap Q0.out)))
 go_upto_region 5 with (first | (go_at_call 13; with_reducible refine (Field_c f Ag Aw Ab Ac Al ng cg nw cw nb cb nc cc nl cl (by omega) (by omega) (by omega) (by omega) (by omega) _ (HCS.out.ev HE4.out)).mono ?_; rintro e x5 ⟨⟨Bg5, dg5, Bw5, dw5, Bb5, db5, Bc5, dc5, Bl5, dl5, rfl, hc⟩, hb⟩; have HE5 := hid (HE4.out.trans hb); have HV5 := hid (HV4.out.trans hb); have HC5 := hid hc; clear hc hb) | (go_at_call 14; with_reducible refine (list_c P pn pc plan (by omega) _ (HP.out.ev HE5.out)).mono ?_; rintro e x6 ⟨⟨L6, dL6, rfl, ho⟩, hb⟩; have HE6 := hid (HE5.out.trans hb); have HV6 := hid (HV5.out.trans hb); have HO6 := hid (sl_own (enc := ics) (by decide) (ics_len _) (by omega) ho); have HC6 := hid (HC5.out.ev hb); clear ho hb) | (go_at_call 15; with_reducible refine (HWO.out Bg5 dg5 Bw5 dw5 Bb5 db5 Bc5 dc5 Bl5 dl5 L6 dL6 _ HC6.out HO6.out).mono ?_; rintro e x7 ⟨rfl, hb⟩; have HE7 := hid (HE6.out.trans hb); have HV7 := hid (HV6.out.trans hb); clear hb; clear y0 y1 y2 y3 y4 y5 y6 y7 y8; obtain ⟨y0, y1, y2, y3, y4, y5, y6, y7, y8⟩ := cells9 (HV7.out.heap Q0.out)))
 generalize hWA : World.alloc x7 _ = WA
 have hEA : Ev x7 WA := by rw [← hWA]; exact Ev.alloc (Ev.refl _) _
 have hal := alloc1 x7 (.cells #[.int .i64 0, .int .i64 0] 40)
 rw [hWA] at hal
 have HR := hid hal.1
 have HEA := hid (HE7.out.trans hEA)
 have HVA := hid (HV7.out.trans hEA)
 clear hal hWA hEA HE2 HE3 HE4 HE5 HE6 HE7 HV2 HV3 HV4 HV5 HV6 HV7 HC2 HC3 HC5 HC6 HO3 HO6 HBO HWO y0 y1 y2 y3 y4 y5 y6 y7 y8
 generalize x7.heap.size = p at HR
 obtain ⟨y0, y1, y2, y3, y4, y5, y6, y7, y8⟩ := cells9 (HVA.out.heap Q0.out)
 obtain ⟨z0, z1⟩ := cells2 HR.out
 go_wp2_with (first | (go_at_call 16; with_reducible refine (HSU.out _ HEA.out).mono ?_; rintro e x8 ⟨⟨LB, lm, ld, rfl, hm, htl⟩, hb⟩; have HE8 := hid (HEA.out.trans hb); have HV8 := hid (HVA.out.trans hb); have HA8 := hid hb; have HTL := hid htl; clear htl hb; clear y0 y1 y2 y3 y4 y5 y6 y7 y8; clear z0 z1; obtain ⟨y0, y1, y2, y3, y4, y5, y6, y7, y8⟩ := cells9 (HV8.out.heap Q0.out); obtain ⟨z0, z1⟩ := cells2 (HA8.out.heap HR.out)) | (go_at_call 17; with_reducible refine (HFA.out _ HE8.out).mono ?_; rintro e x9 ⟨rfl, hb⟩; have HE9 := hid (HE8.out.trans hb); have HV9 := hid (HV8.out.trans hb); have HA9 := hid (HA8.out.trans hb); have HK9 := hid hb; clear hb; clear y0 y1 y2 y3 y4 y5 y6 y7 y8; clear z0 z1; obtain ⟨y0, y1, y2, y3, y4, y5, y6, y7, y8⟩ := cells9 (HV9.out.heap Q0.out); obtain ⟨z0, z1⟩ := cells2 (HA9.out.heap HR.out)) | (go_at_call 18; with_reducible refine (HIP.out _ HE9.out).mono ?_; rintro e x10 ⟨rfl, hb⟩; have HE10 := hid (HE9.out.trans hb); have HV10 := hid (HV9.out.trans hb); have HA10 := hid (HA9.out.trans hb); have HK10 := hid (HK9.out.trans hb); clear hb; clear y0 y1 y2 y3 y4 y5 y6 y7 y8; clear z0 z1; obtain ⟨y0, y1, y2, y3, y4, y5, y6, y7, y8⟩ := cells9 (HV10.out.heap Q0.out); obtain ⟨z0, z1⟩ := cells2 (HA10.out.heap HR.out)) | (go_at_call 11; with_reducible refine (awake_c _).mono ?_; rintro e w99 ⟨rfl, hb99⟩) | (with_reducible refine ⟨trivial, ?_⟩))
 go_ret
 exact ⟨rfl, HE10.out.trans hb99⟩

set_option maxRecDepth 100000 in
set_option maxHeartbeats 8000000 in
theorem cropBounds_c1 (f : M.Cf) (Ag Aw Ab Ac Al : Option Addr) (ng cg nw cw nb cb nc cc nl cl : Nat) (P : Option Addr) (pn pc : Nat) (plan : List Int) (hl0 : -9223372036854775808 ≤ f.last) (w : World) (HCS : Hid (CS w w.heap.size f Ag Aw Ab Ac Al ng cg nw cw nb cb nc cc nl cl)) (HP : Hid (Sl ics 1 w w.heap.size P pn pc plan)) (hsm : M.small ng nw nb nc nl) (hthin : (decide (M.small ng nw nb nc nl) && M.thin f) = true) (q0 : pn ≤ 14) (h0 : M.check f = 0) (hpl : M.isPlan f plan = true) (ht : M.truths f = []) :
  Calls Tryz.prog 3 #[.agg #[.int .i64 f.last, .slice Ag ng cg, .slice Aw nw cw, .slice Ab nb cb, .slice Ac nc cc, .int .i64 f.ripe, .int .i64 f.late, .int .i64 f.trod, .slice Al nl cl], .slice P pn pc] w fun e w' => e = .returned (.bool true) ∧ Ev w w' := by
 have q0a : ¬ ((pn : Int) > 14) := by omega
 obtain ⟨s0, s1, s2, s3, s4⟩ := hsm
 have HTH := hid (fun W (hE : Ev w W) => by have := Thin_c f Ag Aw Ab Ac Al ng cg nw cw nb cb nc cc nl cl hl0 W (fun _ => HCS.out.ev hE); rw [hthin] at this; exact this)
 have HFA := hid (fun W (hE : Ev w W) => fault_c f Ag Aw Ab Ac Al ng cg nw cw nb cb nc cc nl cl hl0 W (HCS.out.ev hE))
 have HSU := hid (fun W (hE : Ev w W) => sure_c f Ag Aw Ab Ac Al ng cg nw cw nb cb nc cc nl cl hl0 W (HCS.out.ev hE))
 have HIP := hid (fun W (hE : Ev w W) => rIsPlan_c f Ag Aw Ab Ac Al ng cg nw cw nb cb nc cc nl cl HCS.out.b.len HCS.out.b.small P pn pc plan W (HP.out.ev hE))
 have hbg : M.begin f (M.isPlan f plan) = 11 := by unfold M.begin; rw [if_neg (by simp [h0]), hpl, if_neg (by simp), if_pos ht]
 have HBO := hid (fun (Bg : Option Addr) (dg : Nat) (Bw : Option Addr) (dw : Nat) (Bb : Option Addr) (db : Nat) (Bc : Option Addr) (dc : Nat) (Bl : Option Addr) (dl : Nat) (L : Option Addr) (d : Nat) W (h : CS W W.heap.size f Bg Bw Bb Bc Bl ng dg nw dw nb db nc dc nl dl) (hp : Sl ics 1 W W.heap.size L pn d plan) => by have := Bounds_err f Bg Bw Bb Bc Bl ng dg nw dw nb db nc dc nl dl L pn d plan hl0 W h hp (by rw [hbg]; decide); rw [hbg] at this; exact this)
 have HWO := hid (fun (Bg : Option Addr) (dg : Nat) (Bw : Option Addr) (dw : Nat) (Bb : Option Addr) (db : Nat) (Bc : Option Addr) (dc : Nat) (Bl : Option Addr) (dl : Nat) (L : Option Addr) (d : Nat) W (h : CS W W.heap.size f Bg Bw Bb Bc Bl ng dg nw dw nb db nc dc nl dl) (hp : Sl ics 1 W W.heap.size L pn d plan) => by have := Worth_err f Bg Bw Bb Bc Bl ng dg nw dw nb db nc dc nl dl L pn d plan hl0 W h hp (by rw [hbg]; decide); rw [hbg] at this; exact this)
 rw [h0] at HFA
 rw [hpl] at HIP hbg
 rw [hbg] at HSU
 clear h0 hbg hpl ht
 clear hthin
 go_enter Tryz.func3, Tryz.ntmps3
 go_upto_region 3 with (first | (go_at_call 10; with_reducible refine (HTH.out _ (Ev.alloc (Ev.refl _) _)).mono ?_; rintro e w1 ⟨rfl, hb1⟩; have hG : Ev w w1 := (Ev.alloc (Ev.refl _) _).trans hb1; have Q0 := hid (hb1.heap (alloc1 w (.cells #[.int .i64 f.last, .slice Ag ng cg, .slice Aw nw cw, .slice Ab nb cb, .slice Ac nc cc, .int .i64 f.ripe, .int .i64 f.late, .int .i64 f.trod, .slice Al nl cl] 26)).1); obtain ⟨y0, y1, y2, y3, y4, y5, y6, y7, y8⟩ := cells9 Q0.out) | (with_reducible refine ⟨trivial, ?_⟩))
 go_upto_region 4 with (first | (go_at_call 13; with_reducible refine (Field_c f Ag Aw Ab Ac Al ng cg nw cw nb cb nc cc nl cl (by omega) (by omega) (by omega) (by omega) (by omega) _ (HCS.out.ev hG)).mono ?_; rintro e x2 ⟨⟨Bg2, dg2, Bw2, dw2, Bb2, db2, Bc2, dc2, Bl2, dl2, rfl, hc⟩, hb⟩; have HE2 := hid (hG.trans hb); have HV2 := hid (hb); have HC2 := hid hc; clear hc hb) | (go_at_call 14; with_reducible refine (list_c P pn pc plan (by omega) _ (HP.out.ev HE2.out)).mono ?_; rintro e x3 ⟨⟨L3, dL3, rfl, ho⟩, hb⟩; have HE3 := hid (HE2.out.trans hb); have HV3 := hid (HV2.out.trans hb); have HO3 := hid (sl_own (enc := ics) (by decide) (ics_len _) (by omega) ho); have HC3 := hid (HC2.out.ev hb); clear ho hb) | (go_at_call 12; with_reducible refine (HBO.out Bg2 dg2 Bw2 dw2 Bb2 db2 Bc2 dc2 Bl2 dl2 L3 dL3 _ HC3.out HO3.out).mono ?_; rintro e x4 ⟨rfl, hb⟩; have HE4 := hid (HE3.out.trans hb); have HV4 := hid (HV3.out.trans hb); clear hb; clear y0 y1 y2 y3 y4 y5 y6 y7 y8; obtain ⟨y0, y1, y2, y3, y4, y5, y6, y7, y8⟩ := cells9 (HV4.out.heap Q0.out)))
 go_upto_region 5 with (first | (go_at_call 13; with_reducible refine (Field_c f Ag Aw Ab Ac Al ng cg nw cw nb cb nc cc nl cl (by omega) (by omega) (by omega) (by omega) (by omega) _ (HCS.out.ev HE4.out)).mono ?_; rintro e x5 ⟨⟨Bg5, dg5, Bw5, dw5, Bb5, db5, Bc5, dc5, Bl5, dl5, rfl, hc⟩, hb⟩; have HE5 := hid (HE4.out.trans hb); have HV5 := hid (HV4.out.trans hb); have HC5 := hid hc; clear hc hb) | (go_at_call 14; with_reducible refine (list_c P pn pc plan (by omega) _ (HP.out.ev HE5.out)).mono ?_; rintro e x6 ⟨⟨L6, dL6, rfl, ho⟩, hb⟩; have HE6 := hid (HE5.out.trans hb); have HV6 := hid (HV5.out.trans hb); have HO6 := hid (sl_own (enc := ics) (by decide) (ics_len _) (by omega) ho); have HC6 := hid (HC5.out.ev hb); clear ho hb) | (go_at_call 15; with_reducible refine (HWO.out Bg5 dg5 Bw5 dw5 Bb5 db5 Bc5 dc5 Bl5 dl5 L6 dL6 _ HC6.out HO6.out).mono ?_; rintro e x7 ⟨rfl, hb⟩; have HE7 := hid (HE6.out.trans hb); have HV7 := hid (HV6.out.trans hb); clear hb; clear y0 y1 y2 y3 y4 y5 y6 y7 y8; obtain ⟨y0, y1, y2, y3, y4, y5, y6, y7, y8⟩ := cells9 (HV7.out.heap Q0.out)))
 generalize hWA : World.alloc x7 _ = WA
 have hEA : Ev x7 WA := by rw [← hWA]; exact Ev.alloc (Ev.refl _) _
 have hal := alloc1 x7 (.cells #[.int .i64 0, .int .i64 0] 40)
 rw [hWA] at hal
 have HR := hid hal.1
 have HEA := hid (HE7.out.trans hEA)
 have HVA := hid (HV7.out.trans hEA)
 clear hal hWA hEA HE2 HE3 HE4 HE5 HE6 HE7 HV2 HV3 HV4 HV5 HV6 HV7 HC2 HC3 HC5 HC6 HO3 HO6 HBO HWO y0 y1 y2 y3 y4 y5 y6 y7 y8
 generalize x7.heap.size = p at HR
 obtain ⟨y0, y1, y2, y3, y4, y5, y6, y7, y8⟩ := cells9 (HVA.out.heap Q0.out)
 obtain ⟨z0, z1⟩ := cells2 HR.out
 go_wp2_with (first | (go_at_call 16; with_reducible refine (HSU.out _ HEA.out).mono ?_; rintro e x8 ⟨⟨LB, lm, ld, rfl, hm, htl⟩, hb⟩; have HE8 := hid (HEA.out.trans hb); have HV8 := hid (HVA.out.trans hb); have HA8 := hid hb; have HTL := hid htl; clear htl hb; clear y0 y1 y2 y3 y4 y5 y6 y7 y8; clear z0 z1; obtain ⟨y0, y1, y2, y3, y4, y5, y6, y7, y8⟩ := cells9 (HV8.out.heap Q0.out); obtain ⟨z0, z1⟩ := cells2 (HA8.out.heap HR.out)) | (go_at_call 17; with_reducible refine (HFA.out _ HE8.out).mono ?_; rintro e x9 ⟨rfl, hb⟩; have HE9 := hid (HE8.out.trans hb); have HV9 := hid (HV8.out.trans hb); have HA9 := hid (HA8.out.trans hb); have HK9 := hid hb; clear hb; clear y0 y1 y2 y3 y4 y5 y6 y7 y8; clear z0 z1; obtain ⟨y0, y1, y2, y3, y4, y5, y6, y7, y8⟩ := cells9 (HV9.out.heap Q0.out); obtain ⟨z0, z1⟩ := cells2 (HA9.out.heap HR.out)) | (go_at_call 18; with_reducible refine (HIP.out _ HE9.out).mono ?_; rintro e x10 ⟨rfl, hb⟩; have HE10 := hid (HE9.out.trans hb); have HV10 := hid (HV9.out.trans hb); have HA10 := hid (HA9.out.trans hb); have HK10 := hid (HK9.out.trans hb); clear hb; clear y0 y1 y2 y3 y4 y5 y6 y7 y8; clear z0 z1; obtain ⟨y0, y1, y2, y3, y4, y5, y6, y7, y8⟩ := cells9 (HV10.out.heap Q0.out); obtain ⟨z0, z1⟩ := cells2 (HA10.out.heap HR.out)) | (go_at_call 11; with_reducible refine (awake_c _).mono ?_; rintro e w99 ⟨rfl, hb99⟩) | (with_reducible refine ⟨trivial, ?_⟩))
 go_ret
 exact ⟨rfl, HE10.out.trans hb99⟩

set_option maxRecDepth 100000 in
set_option maxHeartbeats 8000000 in
theorem cropBounds_d (f : M.Cf) (Ag Aw Ab Ac Al : Option Addr) (ng cg nw cw nb cb nc cc nl cl : Nat) (P : Option Addr) (pn pc : Nat) (plan : List Int) (hl0 : -9223372036854775808 ≤ f.last) (w : World) (HCS : Hid (CS w w.heap.size f Ag Aw Ab Ac Al ng cg nw cw nb cb nc cc nl cl)) (HP : Hid (Sl ics 1 w w.heap.size P pn pc plan)) (hsm : M.small ng nw nb nc nl) (hthin : (decide (M.small ng nw nb nc nl) && M.thin f) = true) (q0 : pn ≤ 14) (h0 : M.check f = 0) (hpl : M.isPlan f plan = true) (ht : M.truths f ≠ []) :
  Calls Tryz.prog 3 #[.agg #[.int .i64 f.last, .slice Ag ng cg, .slice Aw nw cw, .slice Ab nb cb, .slice Ac nc cc, .int .i64 f.ripe, .int .i64 f.late, .int .i64 f.trod, .slice Al nl cl], .slice P pn pc] w fun e w' => e = .returned (.bool true) ∧ Ev w w' := by
 have q0a : ¬ ((pn : Int) > 14) := by omega
 obtain ⟨s0, s1, s2, s3, s4⟩ := hsm
 have HTH := hid (fun W (hE : Ev w W) => by have := Thin_c f Ag Aw Ab Ac Al ng cg nw cw nb cb nc cc nl cl hl0 W (fun _ => HCS.out.ev hE); rw [hthin] at this; exact this)
 have HFA := hid (fun W (hE : Ev w W) => fault_c f Ag Aw Ab Ac Al ng cg nw cw nb cb nc cc nl cl hl0 W (HCS.out.ev hE))
 have HSU := hid (fun W (hE : Ev w W) => sure_c f Ag Aw Ab Ac Al ng cg nw cw nb cb nc cc nl cl hl0 W (HCS.out.ev hE))
 have HIP := hid (fun W (hE : Ev w W) => rIsPlan_c f Ag Aw Ab Ac Al ng cg nw cw nb cb nc cc nl cl HCS.out.b.len HCS.out.b.small P pn pc plan W (HP.out.ev hE))
 have hbg : M.begin f (M.isPlan f plan) = 0 := by unfold M.begin; rw [if_neg (by simp [h0]), hpl, if_neg (by simp), if_neg ht]
 have HBO := hid (fun (Bg : Option Addr) (dg : Nat) (Bw : Option Addr) (dw : Nat) (Bb : Option Addr) (db : Nat) (Bc : Option Addr) (dc : Nat) (Bl : Option Addr) (dl : Nat) (L : Option Addr) (d : Nat) W (h : CS W W.heap.size f Bg Bw Bb Bc Bl ng dg nw dw nb db nc dc nl dl) (hp : Sl ics 1 W W.heap.size L pn d plan) => Bounds_ok f Bg Bw Bb Bc Bl ng dg nw dw nb db nc dc nl dl L pn d plan hl0 W h hp hbg)
 have HWO := hid (fun (Bg : Option Addr) (dg : Nat) (Bw : Option Addr) (dw : Nat) (Bb : Option Addr) (db : Nat) (Bc : Option Addr) (dc : Nat) (Bl : Option Addr) (dl : Nat) (L : Option Addr) (d : Nat) W (h : CS W W.heap.size f Bg Bw Bb Bc Bl ng dg nw dw nb db nc dc nl dl) (hp : Sl ics 1 W W.heap.size L pn d plan) => Worth_ok f Bg Bw Bb Bc Bl ng dg nw dw nb db nc dc nl dl L pn d plan hl0 W h hp hbg)
 have hwr := M.worth_is h0 ht hpl
 have HWR := hid (fun L ln lc W (hE : Ev w W) (hl : TL W L ln lc (M.rtr f)) => by have := rWorth_c f Ag Aw Ab Ac Al ng cg nw cw nb cb nc cc nl cl L ln lc (M.rtr f) P pn pc plan h0 (M.rtr_listed h0) hpl W (HCS.out.ev hE) hl (HP.out.ev hE); rw [hwr] at this; exact this)
 have HBR := hid (fun L ln lc k (hk : k < pn) (x : M.Bd) (hx : (M.bounds f (M.truths f) plan)[k]? = some x) W (hE : Ev w W) (hl : TL W L ln lc (M.rtr f)) => by have := rBounds_c f Ag Aw Ab Ac Al ng cg nw cw nb cb nc cc nl cl L ln lc (M.rtr f) P pn pc plan k hk h0 (M.rtr_listed h0) hpl W (HCS.out.ev hE) hl (HP.out.ev hE); rw [M.bd_is h0 ht hx] at this; exact this)
 rw [h0] at HFA
 rw [hpl] at HIP hbg
 rw [hbg] at HSU
 generalize M.worth f plan = wr0 at HWO HWR
 generalize M.bounds f (M.truths f) plan = bds at HBO HBR
 clear h0 hpl ht hwr
 clear hthin
 go_enter Tryz.func3, Tryz.ntmps3
 go_upto_region 3 with (first | (go_at_call 10; with_reducible refine (HTH.out _ (Ev.alloc (Ev.refl _) _)).mono ?_; rintro e w1 ⟨rfl, hb1⟩; have hG : Ev w w1 := (Ev.alloc (Ev.refl _) _).trans hb1; have Q0 := hid (hb1.heap (alloc1 w (.cells #[.int .i64 f.last, .slice Ag ng cg, .slice Aw nw cw, .slice Ab nb cb, .slice Ac nc cc, .int .i64 f.ripe, .int .i64 f.late, .int .i64 f.trod, .slice Al nl cl] 26)).1); obtain ⟨y0, y1, y2, y3, y4, y5, y6, y7, y8⟩ := cells9 Q0.out) | (with_reducible refine ⟨trivial, ?_⟩))
 go_upto_region 4 with (first | (go_at_call 13; with_reducible refine (Field_c f Ag Aw Ab Ac Al ng cg nw cw nb cb nc cc nl cl (by omega) (by omega) (by omega) (by omega) (by omega) _ (HCS.out.ev hG)).mono ?_; rintro e x2 ⟨⟨Bg2, dg2, Bw2, dw2, Bb2, db2, Bc2, dc2, Bl2, dl2, rfl, hc⟩, hb⟩; have HE2 := hid (hG.trans hb); have HV2 := hid (hb); have HC2 := hid hc; clear hc hb) | (go_at_call 14; with_reducible refine (list_c P pn pc plan (by omega) _ (HP.out.ev HE2.out)).mono ?_; rintro e x3 ⟨⟨L3, dL3, rfl, ho⟩, hb⟩; have HE3 := hid (HE2.out.trans hb); have HV3 := hid (HV2.out.trans hb); have HO3 := hid (sl_own (enc := ics) (by decide) (ics_len _) (by omega) ho); have HC3 := hid (HC2.out.ev hb); clear ho hb) | (go_at_call 12; with_reducible refine (HBO.out Bg2 dg2 Bw2 dw2 Bb2 db2 Bc2 dc2 Bl2 dl2 L3 dL3 _ HC3.out HO3.out).mono ?_; rintro e x4 ⟨⟨BB, dB, rfl, hbs⟩, hb⟩; have HE4 := hid (HE3.out.trans hb); have HV4 := hid (HV3.out.trans hb); have HB4 := hid hbs; have HX4 := hid (Ev.refl x4); clear hbs; clear hb; clear y0 y1 y2 y3 y4 y5 y6 y7 y8; obtain ⟨y0, y1, y2, y3, y4, y5, y6, y7, y8⟩ := cells9 (HV4.out.heap Q0.out)))
 go_upto_region 5 with (first | (go_at_call 13; with_reducible refine (Field_c f Ag Aw Ab Ac Al ng cg nw cw nb cb nc cc nl cl (by omega) (by omega) (by omega) (by omega) (by omega) _ (HCS.out.ev HE4.out)).mono ?_; rintro e x5 ⟨⟨Bg5, dg5, Bw5, dw5, Bb5, db5, Bc5, dc5, Bl5, dl5, rfl, hc⟩, hb⟩; have HE5 := hid (HE4.out.trans hb); have HV5 := hid (HV4.out.trans hb); have HX5 := hid (HX4.out.trans hb); have HC5 := hid hc; clear hc hb) | (go_at_call 14; with_reducible refine (list_c P pn pc plan (by omega) _ (HP.out.ev HE5.out)).mono ?_; rintro e x6 ⟨⟨L6, dL6, rfl, ho⟩, hb⟩; have HE6 := hid (HE5.out.trans hb); have HV6 := hid (HV5.out.trans hb); have HX6 := hid (HX5.out.trans hb); have HO6 := hid (sl_own (enc := ics) (by decide) (ics_len _) (by omega) ho); have HC6 := hid (HC5.out.ev hb); clear ho hb) | (go_at_call 15; with_reducible refine (HWO.out Bg5 dg5 Bw5 dw5 Bb5 db5 Bc5 dc5 Bl5 dl5 L6 dL6 _ HC6.out HO6.out).mono ?_; rintro e x7 ⟨rfl, hb⟩; have HE7 := hid (HE6.out.trans hb); have HV7 := hid (HV6.out.trans hb); have HX7 := hid (HX6.out.trans hb); clear hb; clear y0 y1 y2 y3 y4 y5 y6 y7 y8; obtain ⟨y0, y1, y2, y3, y4, y5, y6, y7, y8⟩ := cells9 (HV7.out.heap Q0.out)))
 generalize hWA : World.alloc x7 _ = WA
 have hEA : Ev x7 WA := by rw [← hWA]; exact Ev.alloc (Ev.refl _) _
 have hal := alloc1 x7 (.cells #[.int .i64 wr0.lo, .int .i64 wr0.hi] 40)
 rw [hWA] at hal
 have HR := hid hal.1
 have HEA := hid (HE7.out.trans hEA)
 have HVA := hid (HV7.out.trans hEA)
 have HXA := hid ((HX7.out).trans hEA)
 clear hal hWA hEA HE2 HE3 HE4 HE5 HE6 HE7 HV2 HV3 HV4 HV5 HV6 HV7 HC2 HC3 HC5 HC6 HO3 HO6 HBO HWO y0 y1 y2 y3 y4 y5 y6 y7 y8
 generalize x7.heap.size = p at HR
 obtain ⟨y0, y1, y2, y3, y4, y5, y6, y7, y8⟩ := cells9 (HVA.out.heap Q0.out)
 obtain ⟨z0, z1⟩ := cells2 HR.out
 go_upto_region 10 with (first | (go_at_call 16; with_reducible refine (HSU.out _ HEA.out).mono ?_; rintro e x8 ⟨⟨LB, lm, ld, rfl, hm, htl⟩, hb⟩; have HE8 := hid (HEA.out.trans hb); have HV8 := hid (HVA.out.trans hb); have HA8 := hid hb; have HX8 := hid (HXA.out.trans hb); have HTL := hid htl; clear htl hb; clear y0 y1 y2 y3 y4 y5 y6 y7 y8; clear z0 z1; obtain ⟨y0, y1, y2, y3, y4, y5, y6, y7, y8⟩ := cells9 (HV8.out.heap Q0.out); obtain ⟨z0, z1⟩ := cells2 (HA8.out.heap HR.out)) | (go_at_call 17; with_reducible refine (HFA.out _ HE8.out).mono ?_; rintro e x9 ⟨rfl, hb⟩; have HE9 := hid (HE8.out.trans hb); have HV9 := hid (HV8.out.trans hb); have HA9 := hid (HA8.out.trans hb); have HK9 := hid hb; have HX9 := hid (HX8.out.trans hb); clear hb; clear y0 y1 y2 y3 y4 y5 y6 y7 y8; clear z0 z1; obtain ⟨y0, y1, y2, y3, y4, y5, y6, y7, y8⟩ := cells9 (HV9.out.heap Q0.out); obtain ⟨z0, z1⟩ := cells2 (HA9.out.heap HR.out)) | (go_at_call 18; with_reducible refine (HIP.out _ HE9.out).mono ?_; rintro e x10 ⟨rfl, hb⟩; have HE10 := hid (HE9.out.trans hb); have HV10 := hid (HV9.out.trans hb); have HA10 := hid (HA9.out.trans hb); have HK10 := hid (HK9.out.trans hb); have HX10 := hid (HX9.out.trans hb); clear hb; clear y0 y1 y2 y3 y4 y5 y6 y7 y8; clear z0 z1; obtain ⟨y0, y1, y2, y3, y4, y5, y6, y7, y8⟩ := cells9 (HV10.out.heap Q0.out); obtain ⟨z0, z1⟩ := cells2 (HA10.out.heap HR.out)) | (with_reducible refine ⟨trivial, ?_⟩))
 have HTL := hid (HTL.out (by first | exact trivial | rfl))
 have l0 := heap_lt (HV10.out.heap Q0.out)
 have l1 := heap_lt (HA10.out.heap HR.out)
 have HSE : Hid (∀ w', Ev x10 w' → (∀ o, w'.cell? ⟨w.heap.size, o, none⟩ = x10.cell? ⟨w.heap.size, o, none⟩) ∧ (∀ o, w'.cell? ⟨p, o, none⟩ = x10.cell? ⟨p, o, none⟩)) := hid (fun w' h => ⟨fun o => h.cells.1 _ o l0, fun o => h.cells.1 _ o l1⟩)
 refine wp_region_held_drew (S := fun w' => (∀ o, w'.cell? ⟨w.heap.size, o, none⟩ = x10.cell? ⟨w.heap.size, o, none⟩) ∧ (∀ o, w'.cell? ⟨p, o, none⟩ = x10.cell? ⟨p, o, none⟩)) (by kernel_rfl) (⟨fun o => rfl, fun o => rfl⟩) (fun hHeld => ?_)
 refine tkH 0 (some 75) ?_
 (try simp only [Act.put, sA, sB, sC])
 refine tkH 1 (some 76) ?_
 (try simp only [Act.put, sA, sB, sC])
 refine tkH 2 (some 77) ?_
 (try simp only [Act.put, sA, sB, sC])
 refine tkH 3 (some 78) ?_
 (try simp only [Act.put, sA, sB, sC])
 refine tkH 4 (some 79) ?_
 (try simp only [Act.put, sA, sB, sC])
 refine tkH 5 (some 80) ?_
 (try simp only [Act.put, sA, sB, sC])
 refine tkH 6 (some 81) ?_
 (try simp only [Act.put, sA, sB, sC])
 refine tkH 7 (some 82) ?_
 (try simp only [Act.put, sA, sB, sC])
 refine tkH 8 (some 83) ?_
 (try simp only [Act.put, sA, sB, sC])
 refine tkH 9 (some 84) ?_
 (try simp only [Act.put, sA, sB, sC])
 refine tkH 10 (some 85) ?_
 (try simp only [Act.put, sA, sB, sC])
 refine tkH 11 (some 86) ?_
 (try simp only [Act.put, sA, sB, sC])
 refine tkH 12 (some 87) ?_
 (try simp only [Act.put, sA, sB, sC])
 refine tkH 13 (some 88) ?_
 (try simp only [Act.put, sA, sB, sC])
 refine tkH 14 (some 89) ?_
 (try simp only [Act.put, sA, sB, sC])
 refine tkH 15 (some 90) ?_
 (try simp only [Act.put, sA, sB, sC])
 refine tkH 16 (some 91) ?_
 (try simp only [Act.put, sA, sB, sC])
 refine tkH 17 (some 92) ?_
 (try simp only [Act.put, sA, sB, sC])
 refine wpAnyH_one (i := 18) rfl (by kernel_rfl) (by rfl) (fun K hK => ?_)
 go_simp
 refine (HWR.out LB lm ld _ (HE10.out.trans (Ev.drew (Ev.refl _))) ((HTL.out.ev HK10.out).ev (Ev.drew (Ev.refl _)))).mono ?_
 rintro e v1 ⟨rfl, hb⟩
 have hV1 : Ev x10 v1 := Ev.trans (Ev.drew (Ev.refl _)) hb
 refine hK.out _ _ (HSE.out _ hV1) (fun hHeld => ?_)
 clear hK K
 (try simp only [Act.put, sA, sB, sC])
 refine wpAnyH_one (i := 19) rfl (by kernel_rfl) (by rfl) (fun K hK => ?_)
 go_simp
 refine (to_c wr0 _).mono ?_
 rintro e v2 ⟨rfl, hb⟩
 have hV2 : Ev x10 v2 := hV1.trans hb
 refine hK.out _ _ (HSE.out _ hV2) (fun hHeld => ?_)
 clear hK K
 (try simp only [Act.put, sA, sB, sC])
 refine tkH 20 (some 95) ?_
 (try simp only [Act.put, sA, sB, sC])
 refine tkH 21 (some 96) ?_
 (try simp only [Act.put, sA, sB, sC])
 refine wpAnyH_done (by kernel_rfl) ?_ _
 have HBX := hid (HB4.out.ev (HX10.out.trans hV2))
 have HTX := hid ((HTL.out.ev HK10.out).ev hV2)
 have HVX := hid (HV10.out.trans hV2)
 have HEX := hid (HE10.out.trans hV2)
 clear y0 y1 y2 y3 y4 y5 y6 y7 y8 z0 z1 hHeld
 go_wp2_with fail
 go_loopw [11] (fun i wr => ∃ k : Nat, i = .int .i64 k ∧ k ≤ pn ∧ Ev v2 wr) (fun i _ => pn - (intOf i).toNat)
 case atStart => exact ⟨0, rfl, by omega, Ev.refl _⟩
 case round =>
  obtain ⟨k, rfl, hk, hB⟩ := hrel
  obtain ⟨W1, hW1⟩ : ∃ x, x = wr := ⟨_, rfl⟩
  subst hW1
  obtain ⟨y0, y1, y2, y3, y4, y5, y6, y7, y8⟩ := cells9 ((HVX.out.trans hB).heap Q0.out)
  by_cases hlt : k < pn
  ·
   obtain ⟨b, off, x, hA, hb, hx, hxd, hcc⟩ := HBX.out.at_ hB hlt
   have HBC := hid (fun W (hE : Ev v2 W) => HBR.out LB lm ld k hlt x hx W (HEX.out.trans hE) (HTX.out.ev hE))
   have hcap := HBX.out.cap
   have hbW := hB.size
   subst hA
   go_upto_region 16 with (go_at_call 21; with_reducible refine (HBC.out _ hB).mono ?_; rintro e x15 ⟨rfl, hb15⟩)
   generalize hWA : World.alloc x15 _ = W3
   have hEA : Ev x15 W3 := by rw [← hWA]; exact Ev.alloc (Ev.refl _) _
   have hal := alloc1 x15 (.cells #[.int .i64 x.wt.lo, .int .i64 x.wt.hi, .int .i64 x.st, .int .i64 x.wo.lo, .int .i64 x.wo.hi] 52)
   rw [hWA] at hal
   have HQ3 := hid hal.1
   clear hal hWA y0 y1 y2 y3 y4 y5 y6 y7 y8
   obtain ⟨d0, d1, d2, d3, d4⟩ := cells5 HQ3.out
   have lq3 := heap_lt HQ3.out
   generalize x15.heap.size = q at HQ3 d0 d1 d2 d3 d4 lq3 ⊢
   have hE3 := (hB.trans hb15).trans hEA
   have lb3 : b < W3.heap.size := by have := hE3.size; omega
   have hcel : ∀ j u, (bdc x)[j]? = some u → W3.cell? ⟨b, off + k * 5 + j, none⟩ = some u := fun j u hj => ((hb15.trans hEA).cells.1 b _ (by omega)).trans (hcc j u hj)
   have e0 := hcel 0 _ rfl
   have e1 := hcel 1 _ rfl
   have e2 := hcel 2 _ rfl
   have e3 := hcel 3 _ rfl
   have e4 := hcel 4 _ rfl
   simp only [Nat.add_zero] at e0
   clear hx hxd hcc hcel
   have HSF : Hid (∀ w', Ev W3 w' → (∀ o, w'.cell? ⟨q, o, none⟩ = W3.cell? ⟨q, o, none⟩) ∧ (∀ o, w'.cell? ⟨b, o, none⟩ = W3.cell? ⟨b, o, none⟩)) := hid (fun w' h => ⟨fun o => h.cells.1 _ o lq3, fun o => h.cells.1 _ o lb3⟩)
   refine wp_region_held_drew (S := fun w' => (∀ o, w'.cell? ⟨q, o, none⟩ = W3.cell? ⟨q, o, none⟩) ∧ (∀ o, w'.cell? ⟨b, o, none⟩ = W3.cell? ⟨b, o, none⟩)) (by kernel_rfl) (⟨fun o => rfl, fun o => rfl⟩) (fun hHeld => ?_)
   refine tkH 0 (some 108) ?_
   (try simp only [Act.put, sA, sB, sC])
   refine tkH 1 (some 109) ?_
   (try simp only [Act.put, sA, sB, sC])
   refine tkH 2 (some 110) ?_
   (try simp only [Act.put, sA, sB, sC])
   refine tkH 3 (some 111) ?_
   (try simp only [Act.put, sA, sB, sC])
   refine tkH 4 (some 112) ?_
   (try simp only [Act.put, sA, sB, sC])
   refine tkH 5 (some 113) ?_
   (try simp only [Act.put, sA, sB, sC])
   refine tkH 7 (some 115) ?_
   (try simp only [Act.put, sA, sB, sC])
   refine tkH 8 (some 116) ?_
   (try simp only [Act.put, sA, sB, sC])
   refine tkH 9 (some 117) ?_
   (try simp only [Act.put, sA, sB, sC])
   refine tkH 10 (some 118) ?_
   (try simp only [Act.put, sA, sB, sC])
   refine wpAnyH_one (i := 6) rfl (by kernel_rfl) (by rfl) (fun K hK => ?_)
   go_simp
   refine (to_c x.wt _).mono ?_
   rintro e u1 ⟨rfl, hb⟩
   have hU1 : Ev W3 u1 := Ev.trans (Ev.drew (Ev.refl _)) hb
   refine hK.out _ _ (HSF.out _ hU1) (fun hHeld => ?_)
   clear hK K
   (try simp only [Act.put, sA, sB, sC])
   refine wpAnyH_one (i := 11) rfl (by kernel_rfl) (by rfl) (fun K hK => ?_)
   go_simp
   refine (to_c x.wo _).mono ?_
   rintro e u2 ⟨rfl, hb⟩
   have hU2 : Ev W3 u2 := Ev.trans hU1 hb
   refine hK.out _ _ (HSF.out _ hU2) (fun hHeld => ?_)
   clear hK K
   (try simp only [Act.put, sA, sB, sC])
   refine tkH 12 (some 120) ?_
   (try simp only [Act.put, sA, sB, sC])
   refine tkH 13 (some 121) ?_
   (try simp only [Act.put, sA, sB, sC])
   refine wpAnyH_done (by kernel_rfl) ?_ _
   go_wp2
   exact ⟨⟨k + 1, by go_num, by omega, ((hB.trans hb15).trans hEA).trans hU2⟩, by simp [intOf]; omega⟩
  ·
   have hn2 : ¬ ((k : Int) < pn) := by omega
   go_wp2_with (first | (go_at_call 11; with_reducible refine (awake_c _).mono ?_; rintro e w99 ⟨rfl, hb99⟩))
   go_ret
   exact ⟨rfl, (HEX.out.trans hB).trans hb99⟩

theorem cropBounds_c (f : M.Cf) (Ag Aw Ab Ac Al : Option Addr) (ng cg nw cw nb cb nc cc nl cl : Nat) (P : Option Addr) (pn pc : Nat) (plan : List Int) (hl0 : -9223372036854775808 ≤ f.last) (w : World) (hs : M.small ng nw nb nc nl → CS w w.heap.size f Ag Aw Ab Ac Al ng cg nw cw nb cb nc cc nl cl) (hp : pn ≤ 1000 → Sl ics 1 w w.heap.size P pn pc plan) :
  Calls Tryz.prog 3 #[.agg #[.int .i64 f.last, .slice Ag ng cg, .slice Aw nw cw, .slice Ab nb cb, .slice Ac nc cc, .int .i64 f.ripe, .int .i64 f.late, .int .i64 f.trod, .slice Al nl cl], .slice P pn pc] w fun e w' => e = .returned (.bool true) ∧ Ev w w' := by
 cases hthin : (decide (M.small ng nw nb nc nl) && M.thin f) with
 | false => exact cropBounds_no f Ag Aw Ab Ac Al ng cg nw cw nb cb nc cc nl cl P pn pc plan hl0 w hs hthin
 | true =>
  have hsm : M.small ng nw nb nc nl := by
   rw [Bool.and_eq_true, decide_eq_true_eq] at hthin
   exact hthin.1
  have HCS := hid (hs hsm)
  by_cases q0 : pn ≤ 14
  ·
   have HP := hid (hp (by omega))
   by_cases h0 : M.check f = 0
   ·
    cases hpl : M.isPlan f plan with
    | false => exact cropBounds_b f Ag Aw Ab Ac Al ng cg nw cw nb cb nc cc nl cl P pn pc plan hl0 w HCS HP hsm hthin q0 h0 hpl
    | true =>
     by_cases ht : M.truths f = []
     ·
      exact cropBounds_c1 f Ag Aw Ab Ac Al ng cg nw cw nb cb nc cc nl cl P pn pc plan hl0 w HCS HP hsm hthin q0 h0 hpl ht
     ·
      exact cropBounds_d f Ag Aw Ab Ac Al ng cg nw cw nb cb nc cc nl cl P pn pc plan hl0 w HCS HP hsm hthin q0 h0 hpl ht
   ·
    exact cropBounds_a f Ag Aw Ab Ac Al ng cg nw cw nb cb nc cc nl cl P pn pc plan hl0 w HCS HP hsm hthin q0 h0
  ·
   exact cropBounds_long f Ag Aw Ab Ac Al ng cg nw cw nb cb nc cc nl cl P pn pc plan hl0 w hs hthin q0

end Go.Proofs.YtffbkbcjddigdaaGreat
