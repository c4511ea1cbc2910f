import Derived.Test.YtgimcephbeajlaaC36
import Derived.Test.YtgimcephbeajlaaC27
import Derived.Test.YtgimcephbeajlaaC23
import Derived.Test.YtgimcephbeajlaaC24
set_option linter.unusedSimpArgs false
set_option linter.unusedVariables false
namespace Go.Proofs.Ytgimcephbeajlaa
open Go.RowKit Go.Shelf

set_option maxRecDepth 100000 in
set_option maxHeartbeats 2000000 in
theorem couchFears_no (f : M.Cf) (Aw At Ar : Option Addr) (nw cw nt ct nr cr : Nat) (P : Option Addr) (pn pc : Nat) (plan : List Int) (hl0 : -9223372036854775808 ≤ f.last) (w : World) (hs : M.small nw nt nr → CS w w.heap.size f Aw At Ar nw cw nt ct nr cr) (hno : ¬ ((decide (M.small nw nt nr) && M.thin f) = true ∧ pn ≤ 14)) :
  Calls Try.prog 5 #[.agg #[.int .i64 f.last, .int .i64 f.size, .int .i64 f.cool, .int .i64 f.die, .int .i64 f.burn, .int .i64 f.st.lo, .int .i64 f.st.hi, .slice Aw nw cw, .slice At nt ct, .slice Ar nr cr], .slice P pn pc] w fun e w' => e = .returned (.bool true) ∧ Ev w w' := by
 have hth := fun W (hE : Ev w W) => Thin_c f Aw At Ar nw cw nt ct nr cr hl0 W (fun h => (hs h).ev hE)
 cases hthin : (decide (M.small nw nt nr) && M.thin f) with
 | false =>
  rw [hthin] at hth
  have HTH := hid hth
  clear hth hs hthin hno
  go_enter Try.func5, Try.ntmps5
  go_wp2_with (first | (go_at_call 18; with_reducible refine (HTH.out _ (Ev.alloc (Ev.refl _) _)).mono ?_; rintro e w1 ⟨rfl, hb1⟩; have hG : Ev w w1 := (Ev.alloc (Ev.refl _) _).trans hb1; have Q0 := hid (hb1.heap (alloc1 w (.cells #[.int .i64 f.last, .int .i64 f.size, .int .i64 f.cool, .int .i64 f.die, .int .i64 f.burn, .int .i64 f.st.lo, .int .i64 f.st.hi, .slice Aw nw cw, .slice At nt ct, .slice Ar nr cr] 28)).1); obtain ⟨y0, y1, y2, y3, y4, y5, y6, y7, y8, y9⟩ := cells10 Q0.out) | (go_at_call 19; with_reducible refine (awake_c _).mono ?_; rintro e w99 ⟨rfl, hb99⟩) | (with_reducible refine ⟨trivial, ?_⟩))
  go_ret
  exact ⟨rfl, hG.trans hb99⟩
 | true =>
  rw [hthin] at hth hno
  have HTH := hid hth
  have q2 : ¬ pn ≤ 14 := fun h => hno ⟨rfl, h⟩
  have q2a : (pn : Int) > 14 := by omega
  clear hth hs hthin hno
  go_enter Try.func5, Try.ntmps5
  go_wp2_with (first | (go_at_call 18; with_reducible refine (HTH.out _ (Ev.alloc (Ev.refl _) _)).mono ?_; rintro e w1 ⟨rfl, hb1⟩; have hG : Ev w w1 := (Ev.alloc (Ev.refl _) _).trans hb1; have Q0 := hid (hb1.heap (alloc1 w (.cells #[.int .i64 f.last, .int .i64 f.size, .int .i64 f.cool, .int .i64 f.die, .int .i64 f.burn, .int .i64 f.st.lo, .int .i64 f.st.hi, .slice Aw nw cw, .slice At nt ct, .slice Ar nr cr] 28)).1); obtain ⟨y0, y1, y2, y3, y4, y5, y6, y7, y8, y9⟩ := cells10 Q0.out) | (go_at_call 19; with_reducible refine (awake_c _).mono ?_; rintro e w99 ⟨rfl, hb99⟩) | (with_reducible refine ⟨trivial, ?_⟩))
  go_ret
  exact ⟨rfl, hG.trans hb99⟩

set_option maxRecDepth 100000 in
set_option maxHeartbeats 4000000 in
theorem couchFears_a (f : M.Cf) (Aw At Ar : Option Addr) (nw cw nt ct nr cr : Nat) (P : Option Addr) (pn pc : Nat) (plan : List Int) (hl0 : -9223372036854775808 ≤ f.last) (w : World) (HCS : Hid (CS w w.heap.size f Aw At Ar nw cw nt ct nr cr)) (HP : Hid (Sl ics 1 w w.heap.size P pn pc plan)) (hsm : M.small nw nt nr) (hthin : (decide (M.small nw nt nr) && M.thin f) = true) (q2 : pn ≤ 14) (h0 : M.check f ≠ 0) :
  Calls Try.prog 5 #[.agg #[.int .i64 f.last, .int .i64 f.size, .int .i64 f.cool, .int .i64 f.die, .int .i64 f.burn, .int .i64 f.st.lo, .int .i64 f.st.hi, .slice Aw nw cw, .slice At nt ct, .slice Ar nr cr], .slice P pn pc] w fun e w' => e = .returned (.bool true) ∧ Ev w w' := by
 have q2a : ¬ ((pn : Int) > 14) := by omega
 obtain ⟨s0, s1, s2⟩ := hsm
 have HTH := hid (fun W (hE : Ev w W) => by have := Thin_c f Aw At Ar nw cw nt ct nr cr hl0 W (fun _ => HCS.out.ev hE); rw [hthin] at this; exact this)
 have HFA := hid (fun W (hE : Ev w W) => fault_c f Aw At Ar nw cw nt ct nr cr hl0 W (HCS.out.ev hE))
 have HSU := hid (fun W (hE : Ev w W) => sure_c f Aw At Ar nw cw nt ct nr cr hl0 W (HCS.out.ev hE))
 have HIP := hid (fun W (hE : Ev w W) => rIsTurns_c f Aw At Ar nw cw nt ct nr cr P pn pc plan W (HP.out.ev hE))
 have hbg : M.begin f (M.isTurns f plan) = M.check f := by unfold M.begin; rw [if_pos h0]
 have hbt : M.begin f true = M.check f := by unfold M.begin; rw [if_pos h0]
 have hbn := h0
 have HFE := hid (fun (Bw : Option Addr) (dw : Nat) (Bt : Option Addr) (dt : Nat) (Br : Option Addr) (dr : Nat) (L : Option Addr) (d : Nat) W (h : CS W W.heap.size f Bw Bt Br nw dw nt dt nr dr) (h3 : Sl ics 1 W W.heap.size L pn d plan) => by have := Fear_err f Bw Bt Br nw dw nt dt nr dr L pn d plan hl0 W h h3 (by rw [hbg]; exact hbn); rw [hbg] at this; exact this)
 rw [hbt] at HSU
 generalize M.check f = ec at *
 have c1_ : (ec == 0) = false := by simpa using hbn
 have c2_ : (ec != 0) = true := by simpa using hbn
 have c3_ : (ec != ec) = false := by simp
 have c4_ : (ec == ec) = true := by simp
 clear h0 hbg hbt hbn
 clear hthin
 go_enter Try.func5, Try.ntmps5
 go_upto_region 3 with (first | (go_at_call 18; with_reducible refine (HTH.out _ (Ev.alloc (Ev.refl _) _)).mono ?_; rintro e w1 ⟨rfl, hb1⟩; have hG : Ev w w1 := (Ev.alloc (Ev.refl _) _).trans hb1; have Q0 := hid (hb1.heap (alloc1 w (.cells #[.int .i64 f.last, .int .i64 f.size, .int .i64 f.cool, .int .i64 f.die, .int .i64 f.burn, .int .i64 f.st.lo, .int .i64 f.st.hi, .slice Aw nw cw, .slice At nt ct, .slice Ar nr cr] 28)).1); obtain ⟨y0, y1, y2, y3, y4, y5, y6, y7, y8, y9⟩ := cells10 Q0.out) | (with_reducible refine ⟨trivial, ?_⟩))
 go_upto_region 4 with (first | (go_at_call 21; with_reducible refine (Heap_c f Aw At Ar nw cw nt ct nr cr (by omega) (by omega) (by omega) _ (HCS.out.ev hG)).mono ?_; rintro e x2 ⟨⟨Bw2, dw2, Bt2, dt2, Br2, dr2, rfl, hc⟩, hb⟩; have HE2 := hid (hG.trans hb); have HV2 := hid (hb); have HC2 := hid hc; clear hc hb) | (go_at_call 23; with_reducible refine (list_c P pn pc plan (by omega) _ (HP.out.ev HE2.out)).mono ?_; rintro e x3 ⟨⟨L3, D3, rfl, hc⟩, hb⟩; have HE3 := hid (HE2.out.trans hb); have HV3 := hid (HV2.out.trans hb); have HL3 := hid (sl_own (enc := ics) (by decide) (ics_len _) (by omega) hc); have HM3 := hid hb; clear hc hb) | (go_at_call 38; with_reducible refine (HFE.out Bw2 dw2 Bt2 dt2 Br2 dr2 L3 D3 _ (HC2.out.ev HM3.out) HL3.out).mono ?_; rintro e x4 ⟨rfl, hb⟩; have HE4 := hid (HE3.out.trans hb); have HV4 := hid (HV3.out.trans hb); clear hb; clear y0 y1 y2 y3 y4 y5 y6 y7 y8 y9; obtain ⟨y0, y1, y2, y3, y4, y5, y6, y7, y8, y9⟩ := cells10 (HV4.out.heap Q0.out)))
 generalize hWA : World.alloc x4 _ = x5
 have hEA : Ev x4 x5 := by rw [← hWA]; exact Ev.alloc (Ev.refl _) _
 have hal := alloc1 x4 (.cells #[.int .i64 0, .bool false, .bool false] 64)
 rw [hWA] at hal
 have HR := hid hal.1
 have HE5 := hid (HE4.out.trans hEA)
 have HV5 := hid (HV4.out.trans hEA)
 have HA5 := hid (Ev.refl x5)
 clear hal hWA hEA y0 y1 y2 y3 y4 y5 y6 y7 y8 y9
 generalize x4.heap.size = p at HR
 obtain ⟨y0, y1, y2, y3, y4, y5, y6, y7, y8, y9⟩ := cells10 (HV5.out.heap Q0.out)
 obtain ⟨z0, z1, z2⟩ := cells3 HR.out
 go_wp2_with (first | (go_at_call 34; with_reducible refine (HSU.out _ HE5.out).mono ?_; rintro e x6 ⟨⟨LB, lm, ld, rfl, hm, htl⟩, hb⟩; have HE6 := hid (HE5.out.trans hb); have HV6 := hid (HV5.out.trans hb); have HA6 := hid (HA5.out.trans hb); have HTL := hid htl; have HT6 := hid (Ev.refl x6); clear htl; clear z0 z1 z2; obtain ⟨z0, z1, z2⟩ := cells3 (HA6.out.heap HR.out); clear hb; clear y0 y1 y2 y3 y4 y5 y6 y7 y8 y9; obtain ⟨y0, y1, y2, y3, y4, y5, y6, y7, y8, y9⟩ := cells10 (HV6.out.heap Q0.out)) | (go_at_call 25; with_reducible refine (HFA.out _ HE6.out).mono ?_; rintro e x7 ⟨rfl, hb⟩; have HE7 := hid (HE6.out.trans hb); have HV7 := hid (HV6.out.trans hb); have HA7 := hid (HA6.out.trans hb); have HT7 := hid hb; clear z0 z1 z2; obtain ⟨z0, z1, z2⟩ := cells3 (HA7.out.heap HR.out); clear hb; clear y0 y1 y2 y3 y4 y5 y6 y7 y8 y9; obtain ⟨y0, y1, y2, y3, y4, y5, y6, y7, y8, y9⟩ := cells10 (HV7.out.heap Q0.out)) | (go_at_call 29; with_reducible refine (HIP.out _ HE7.out).mono ?_; rintro e x8 ⟨rfl, hb⟩; have HE8 := hid (HE7.out.trans hb); have HV8 := hid (HV7.out.trans hb); have HA8 := hid (HA7.out.trans hb); have HT8 := hid (HT7.out.trans hb); clear z0 z1 z2; obtain ⟨z0, z1, z2⟩ := cells3 (HA8.out.heap HR.out); clear hb; clear y0 y1 y2 y3 y4 y5 y6 y7 y8 y9; obtain ⟨y0, y1, y2, y3, y4, y5, y6, y7, y8, y9⟩ := cells10 (HV8.out.heap Q0.out)) | (go_at_call 19; with_reducible refine (awake_c _).mono ?_; rintro e w99 ⟨rfl, hb99⟩) | (with_reducible refine ⟨trivial, ?_⟩))
 go_ret
 exact ⟨rfl, HE7.out.trans hb99⟩

set_option maxRecDepth 100000 in
set_option maxHeartbeats 4000000 in
theorem couchFears_b (f : M.Cf) (Aw At Ar : Option Addr) (nw cw nt ct nr cr : Nat) (P : Option Addr) (pn pc : Nat) (plan : List Int) (hl0 : -9223372036854775808 ≤ f.last) (w : World) (HCS : Hid (CS w w.heap.size f Aw At Ar nw cw nt ct nr cr)) (HP : Hid (Sl ics 1 w w.heap.size P pn pc plan)) (hsm : M.small nw nt nr) (hthin : (decide (M.small nw nt nr) && M.thin f) = true) (q2 : pn ≤ 14) (h0 : M.check f = 0) (hpl : M.isTurns f plan = false) :
  Calls Try.prog 5 #[.agg #[.int .i64 f.last, .int .i64 f.size, .int .i64 f.cool, .int .i64 f.die, .int .i64 f.burn, .int .i64 f.st.lo, .int .i64 f.st.hi, .slice Aw nw cw, .slice At nt ct, .slice Ar nr cr], .slice P pn pc] w fun e w' => e = .returned (.bool true) ∧ Ev w w' := by
 have q2a : ¬ ((pn : Int) > 14) := by omega
 obtain ⟨s0, s1, s2⟩ := hsm
 have HTH := hid (fun W (hE : Ev w W) => by have := Thin_c f Aw At Ar nw cw nt ct nr cr hl0 W (fun _ => HCS.out.ev hE); rw [hthin] at this; exact this)
 have HFA := hid (fun W (hE : Ev w W) => fault_c f Aw At Ar nw cw nt ct nr cr hl0 W (HCS.out.ev hE))
 have HSU := hid (fun W (hE : Ev w W) => sure_c f Aw At Ar nw cw nt ct nr cr hl0 W (HCS.out.ev hE))
 have HIP := hid (fun W (hE : Ev w W) => rIsTurns_c f Aw At Ar nw cw nt ct nr cr P pn pc plan W (HP.out.ev hE))
 have hbg : M.begin f (M.isTurns f plan) = 2 := by unfold M.begin; rw [if_neg (by simp [h0]), hpl, if_pos rfl]
 have hbn : (2 : Int) ≠ 0 := by decide
 have HFE := hid (fun (Bw : Option Addr) (dw : Nat) (Bt : Option Addr) (dt : Nat) (Br : Option Addr) (dr : Nat) (L : Option Addr) (d : Nat) W (h : CS W W.heap.size f Bw Bt Br nw dw nt dt nr dr) (h3 : Sl ics 1 W W.heap.size L pn d plan) => by have := Fear_err f Bw Bt Br nw dw nt dt nr dr L pn d plan hl0 W h h3 (by rw [hbg]; exact hbn); rw [hbg] at this; exact this)
 rw [hpl] at HIP
 rw [h0] at HFA
 generalize M.begin f true = ec at HSU
 clear h0 hbg hbn hpl
 clear hthin
 go_enter Try.func5, Try.ntmps5
 go_upto_region 3 with (first | (go_at_call 18; with_reducible refine (HTH.out _ (Ev.alloc (Ev.refl _) _)).mono ?_; rintro e w1 ⟨rfl, hb1⟩; have hG : Ev w w1 := (Ev.alloc (Ev.refl _) _).trans hb1; have Q0 := hid (hb1.heap (alloc1 w (.cells #[.int .i64 f.last, .int .i64 f.size, .int .i64 f.cool, .int .i64 f.die, .int .i64 f.burn, .int .i64 f.st.lo, .int .i64 f.st.hi, .slice Aw nw cw, .slice At nt ct, .slice Ar nr cr] 28)).1); obtain ⟨y0, y1, y2, y3, y4, y5, y6, y7, y8, y9⟩ := cells10 Q0.out) | (with_reducible refine ⟨trivial, ?_⟩))
 go_upto_region 4 with (first | (go_at_call 21; with_reducible refine (Heap_c f Aw At Ar nw cw nt ct nr cr (by omega) (by omega) (by omega) _ (HCS.out.ev hG)).mono ?_; rintro e x2 ⟨⟨Bw2, dw2, Bt2, dt2, Br2, dr2, rfl, hc⟩, hb⟩; have HE2 := hid (hG.trans hb); have HV2 := hid (hb); have HC2 := hid hc; clear hc hb) | (go_at_call 23; with_reducible refine (list_c P pn pc plan (by omega) _ (HP.out.ev HE2.out)).mono ?_; rintro e x3 ⟨⟨L3, D3, rfl, hc⟩, hb⟩; have HE3 := hid (HE2.out.trans hb); have HV3 := hid (HV2.out.trans hb); have HL3 := hid (sl_own (enc := ics) (by decide) (ics_len _) (by omega) hc); have HM3 := hid hb; clear hc hb) | (go_at_call 38; with_reducible refine (HFE.out Bw2 dw2 Bt2 dt2 Br2 dr2 L3 D3 _ (HC2.out.ev HM3.out) HL3.out).mono ?_; rintro e x4 ⟨rfl, hb⟩; have HE4 := hid (HE3.out.trans hb); have HV4 := hid (HV3.out.trans hb); clear hb; clear y0 y1 y2 y3 y4 y5 y6 y7 y8 y9; obtain ⟨y0, y1, y2, y3, y4, y5, y6, y7, y8, y9⟩ := cells10 (HV4.out.heap Q0.out)))
 generalize hWA : World.alloc x4 _ = x5
 have hEA : Ev x4 x5 := by rw [← hWA]; exact Ev.alloc (Ev.refl _) _
 have hal := alloc1 x4 (.cells #[.int .i64 0, .bool false, .bool false] 64)
 rw [hWA] at hal
 have HR := hid hal.1
 have HE5 := hid (HE4.out.trans hEA)
 have HV5 := hid (HV4.out.trans hEA)
 have HA5 := hid (Ev.refl x5)
 clear hal hWA hEA y0 y1 y2 y3 y4 y5 y6 y7 y8 y9
 generalize x4.heap.size = p at HR
 obtain ⟨y0, y1, y2, y3, y4, y5, y6, y7, y8, y9⟩ := cells10 (HV5.out.heap Q0.out)
 obtain ⟨z0, z1, z2⟩ := cells3 HR.out
 go_wp2_with (first | (go_at_call 34; with_reducible refine (HSU.out _ HE5.out).mono ?_; rintro e x6 ⟨⟨LB, lm, ld, rfl, hm, htl⟩, hb⟩; have HE6 := hid (HE5.out.trans hb); have HV6 := hid (HV5.out.trans hb); have HA6 := hid (HA5.out.trans hb); have HTL := hid htl; have HT6 := hid (Ev.refl x6); clear htl; clear z0 z1 z2; obtain ⟨z0, z1, z2⟩ := cells3 (HA6.out.heap HR.out); clear hb; clear y0 y1 y2 y3 y4 y5 y6 y7 y8 y9; obtain ⟨y0, y1, y2, y3, y4, y5, y6, y7, y8, y9⟩ := cells10 (HV6.out.heap Q0.out)) | (go_at_call 25; with_reducible refine (HFA.out _ HE6.out).mono ?_; rintro e x7 ⟨rfl, hb⟩; have HE7 := hid (HE6.out.trans hb); have HV7 := hid (HV6.out.trans hb); have HA7 := hid (HA6.out.trans hb); have HT7 := hid hb; clear z0 z1 z2; obtain ⟨z0, z1, z2⟩ := cells3 (HA7.out.heap HR.out); clear hb; clear y0 y1 y2 y3 y4 y5 y6 y7 y8 y9; obtain ⟨y0, y1, y2, y3, y4, y5, y6, y7, y8, y9⟩ := cells10 (HV7.out.heap Q0.out)) | (go_at_call 29; with_reducible refine (HIP.out _ HE7.out).mono ?_; rintro e x8 ⟨rfl, hb⟩; have HE8 := hid (HE7.out.trans hb); have HV8 := hid (HV7.out.trans hb); have HA8 := hid (HA7.out.trans hb); have HT8 := hid (HT7.out.trans hb); clear z0 z1 z2; obtain ⟨z0, z1, z2⟩ := cells3 (HA8.out.heap HR.out); clear hb; clear y0 y1 y2 y3 y4 y5 y6 y7 y8 y9; obtain ⟨y0, y1, y2, y3, y4, y5, y6, y7, y8, y9⟩ := cells10 (HV8.out.heap Q0.out)) | (go_at_call 19; with_reducible refine (awake_c _).mono ?_; rintro e w99 ⟨rfl, hb99⟩) | (with_reducible refine ⟨trivial, ?_⟩))
 go_ret
 exact ⟨rfl, HE8.out.trans hb99⟩

set_option maxRecDepth 100000 in
set_option maxHeartbeats 4000000 in
theorem couchFears_c1 (f : M.Cf) (Aw At Ar : Option Addr) (nw cw nt ct nr cr : Nat) (P : Option Addr) (pn pc : Nat) (plan : List Int) (hl0 : -9223372036854775808 ≤ f.last) (w : World) (HCS : Hid (CS w w.heap.size f Aw At Ar nw cw nt ct nr cr)) (HP : Hid (Sl ics 1 w w.heap.size P pn pc plan)) (hsm : M.small nw nt nr) (hthin : (decide (M.small nw nt nr) && M.thin f) = true) (q2 : pn ≤ 14) (h0 : M.check f = 0) (hpl : M.isTurns f plan = true) (ht : M.truths f = []) :
  Calls Try.prog 5 #[.agg #[.int .i64 f.last, .int .i64 f.size, .int .i64 f.cool, .int .i64 f.die, .int .i64 f.burn, .int .i64 f.st.lo, .int .i64 f.st.hi, .slice Aw nw cw, .slice At nt ct, .slice Ar nr cr], .slice P pn pc] w fun e w' => e = .returned (.bool true) ∧ Ev w w' := by
 have q2a : ¬ ((pn : Int) > 14) := by omega
 obtain ⟨s0, s1, s2⟩ := hsm
 have HTH := hid (fun W (hE : Ev w W) => by have := Thin_c f Aw At Ar nw cw nt ct nr cr hl0 W (fun _ => HCS.out.ev hE); rw [hthin] at this; exact this)
 have HFA := hid (fun W (hE : Ev w W) => fault_c f Aw At Ar nw cw nt ct nr cr hl0 W (HCS.out.ev hE))
 have HSU := hid (fun W (hE : Ev w W) => sure_c f Aw At Ar nw cw nt ct nr cr hl0 W (HCS.out.ev hE))
 have HIP := hid (fun W (hE : Ev w W) => rIsTurns_c f Aw At Ar nw cw nt ct nr cr P pn pc plan W (HP.out.ev hE))
 have hbg : M.begin f (M.isTurns f plan) = 11 := by unfold M.begin; rw [if_neg (by simp [h0]), hpl, if_neg (by simp), if_pos ht]
 have hbn : (11 : Int) ≠ 0 := by decide
 have HFE := hid (fun (Bw : Option Addr) (dw : Nat) (Bt : Option Addr) (dt : Nat) (Br : Option Addr) (dr : Nat) (L : Option Addr) (d : Nat) W (h : CS W W.heap.size f Bw Bt Br nw dw nt dt nr dr) (h3 : Sl ics 1 W W.heap.size L pn d plan) => by have := Fear_err f Bw Bt Br nw dw nt dt nr dr L pn d plan hl0 W h h3 (by rw [hbg]; exact hbn); rw [hbg] at this; exact this)
 rw [hpl] at HIP
 rw [h0] at HFA
 rw [show M.begin f true = 11 by rw [← hpl]; exact hbg] at HSU
 clear h0 hbg hbn hpl ht
 clear hthin
 go_enter Try.func5, Try.ntmps5
 go_upto_region 3 with (first | (go_at_call 18; with_reducible refine (HTH.out _ (Ev.alloc (Ev.refl _) _)).mono ?_; rintro e w1 ⟨rfl, hb1⟩; have hG : Ev w w1 := (Ev.alloc (Ev.refl _) _).trans hb1; have Q0 := hid (hb1.heap (alloc1 w (.cells #[.int .i64 f.last, .int .i64 f.size, .int .i64 f.cool, .int .i64 f.die, .int .i64 f.burn, .int .i64 f.st.lo, .int .i64 f.st.hi, .slice Aw nw cw, .slice At nt ct, .slice Ar nr cr] 28)).1); obtain ⟨y0, y1, y2, y3, y4, y5, y6, y7, y8, y9⟩ := cells10 Q0.out) | (with_reducible refine ⟨trivial, ?_⟩))
 go_upto_region 4 with (first | (go_at_call 21; with_reducible refine (Heap_c f Aw At Ar nw cw nt ct nr cr (by omega) (by omega) (by omega) _ (HCS.out.ev hG)).mono ?_; rintro e x2 ⟨⟨Bw2, dw2, Bt2, dt2, Br2, dr2, rfl, hc⟩, hb⟩; have HE2 := hid (hG.trans hb); have HV2 := hid (hb); have HC2 := hid hc; clear hc hb) | (go_at_call 23; with_reducible refine (list_c P pn pc plan (by omega) _ (HP.out.ev HE2.out)).mono ?_; rintro e x3 ⟨⟨L3, D3, rfl, hc⟩, hb⟩; have HE3 := hid (HE2.out.trans hb); have HV3 := hid (HV2.out.trans hb); have HL3 := hid (sl_own (enc := ics) (by decide) (ics_len _) (by omega) hc); have HM3 := hid hb; clear hc hb) | (go_at_call 38; with_reducible refine (HFE.out Bw2 dw2 Bt2 dt2 Br2 dr2 L3 D3 _ (HC2.out.ev HM3.out) HL3.out).mono ?_; rintro e x4 ⟨rfl, hb⟩; have HE4 := hid (HE3.out.trans hb); have HV4 := hid (HV3.out.trans hb); clear hb; clear y0 y1 y2 y3 y4 y5 y6 y7 y8 y9; obtain ⟨y0, y1, y2, y3, y4, y5, y6, y7, y8, y9⟩ := cells10 (HV4.out.heap Q0.out)))
 generalize hWA : World.alloc x4 _ = x5
 have hEA : Ev x4 x5 := by rw [← hWA]; exact Ev.alloc (Ev.refl _) _
 have hal := alloc1 x4 (.cells #[.int .i64 0, .bool false, .bool false] 64)
 rw [hWA] at hal
 have HR := hid hal.1
 have HE5 := hid (HE4.out.trans hEA)
 have HV5 := hid (HV4.out.trans hEA)
 have HA5 := hid (Ev.refl x5)
 clear hal hWA hEA y0 y1 y2 y3 y4 y5 y6 y7 y8 y9
 generalize x4.heap.size = p at HR
 obtain ⟨y0, y1, y2, y3, y4, y5, y6, y7, y8, y9⟩ := cells10 (HV5.out.heap Q0.out)
 obtain ⟨z0, z1, z2⟩ := cells3 HR.out
 go_wp2_with (first | (go_at_call 34; with_reducible refine (HSU.out _ HE5.out).mono ?_; rintro e x6 ⟨⟨LB, lm, ld, rfl, hm, htl⟩, hb⟩; have HE6 := hid (HE5.out.trans hb); have HV6 := hid (HV5.out.trans hb); have HA6 := hid (HA5.out.trans hb); have HTL := hid htl; have HT6 := hid (Ev.refl x6); clear htl; clear z0 z1 z2; obtain ⟨z0, z1, z2⟩ := cells3 (HA6.out.heap HR.out); clear hb; clear y0 y1 y2 y3 y4 y5 y6 y7 y8 y9; obtain ⟨y0, y1, y2, y3, y4, y5, y6, y7, y8, y9⟩ := cells10 (HV6.out.heap Q0.out)) | (go_at_call 25; with_reducible refine (HFA.out _ HE6.out).mono ?_; rintro e x7 ⟨rfl, hb⟩; have HE7 := hid (HE6.out.trans hb); have HV7 := hid (HV6.out.trans hb); have HA7 := hid (HA6.out.trans hb); have HT7 := hid hb; clear z0 z1 z2; obtain ⟨z0, z1, z2⟩ := cells3 (HA7.out.heap HR.out); clear hb; clear y0 y1 y2 y3 y4 y5 y6 y7 y8 y9; obtain ⟨y0, y1, y2, y3, y4, y5, y6, y7, y8, y9⟩ := cells10 (HV7.out.heap Q0.out)) | (go_at_call 29; with_reducible refine (HIP.out _ HE7.out).mono ?_; rintro e x8 ⟨rfl, hb⟩; have HE8 := hid (HE7.out.trans hb); have HV8 := hid (HV7.out.trans hb); have HA8 := hid (HA7.out.trans hb); have HT8 := hid (HT7.out.trans hb); clear z0 z1 z2; obtain ⟨z0, z1, z2⟩ := cells3 (HA8.out.heap HR.out); clear hb; clear y0 y1 y2 y3 y4 y5 y6 y7 y8 y9; obtain ⟨y0, y1, y2, y3, y4, y5, y6, y7, y8, y9⟩ := cells10 (HV8.out.heap Q0.out)) | (go_at_call 19; with_reducible refine (awake_c _).mono ?_; rintro e w99 ⟨rfl, hb99⟩) | (with_reducible refine ⟨trivial, ?_⟩))
 go_ret
 exact ⟨rfl, HE8.out.trans hb99⟩

set_option maxRecDepth 100000 in
set_option maxHeartbeats 4000000 in
theorem couchFears_d0 (f : M.Cf) (Aw At Ar : Option Addr) (nw cw nt ct nr cr : Nat) (P : Option Addr) (pn pc : Nat) (plan : List Int) (hl0 : -9223372036854775808 ≤ f.last) (w : World) (HCS : Hid (CS w w.heap.size f Aw At Ar nw cw nt ct nr cr)) (HP : Hid (Sl ics 1 w w.heap.size P pn pc plan)) (hsm : M.small nw nt nr) (hthin : (decide (M.small nw nt nr) && M.thin f) = true) (q2 : pn ≤ 14) (h0 : M.check f = 0) (hpl : M.isTurns f plan = true) (ht : M.truths f ≠ []) (hfr : M.fear f (M.truths f) plan = none) :
  Calls Try.prog 5 #[.agg #[.int .i64 f.last, .int .i64 f.size, .int .i64 f.cool, .int .i64 f.die, .int .i64 f.burn, .int .i64 f.st.lo, .int .i64 f.st.hi, .slice Aw nw cw, .slice At nt ct, .slice Ar nr cr], .slice P pn pc] w fun e w' => e = .returned (.bool true) ∧ Ev w w' := by
 have q2a : ¬ ((pn : Int) > 14) := by omega
 obtain ⟨s0, s1, s2⟩ := hsm
 have HTH := hid (fun W (hE : Ev w W) => by have := Thin_c f Aw At Ar nw cw nt ct nr cr hl0 W (fun _ => HCS.out.ev hE); rw [hthin] at this; exact this)
 have HFA := hid (fun W (hE : Ev w W) => fault_c f Aw At Ar nw cw nt ct nr cr hl0 W (HCS.out.ev hE))
 have HSU := hid (fun W (hE : Ev w W) => sure_c f Aw At Ar nw cw nt ct nr cr hl0 W (HCS.out.ev hE))
 have HIP := hid (fun W (hE : Ev w W) => rIsTurns_c f Aw At Ar nw cw nt ct nr cr P pn pc plan W (HP.out.ev hE))
 have hbg : M.begin f (M.isTurns f plan) = 0 := by unfold M.begin; rw [if_neg (by simp [h0]), hpl, if_neg (by simp), if_neg ht]
 have hbt : M.begin f true = 0 := by rw [← hpl]; exact hbg
 have hv := (M.check0 h0).2.2.1
 have HRF := hid (fun L ln lc W (hE : Ev w W) (hl : TL W L ln lc (M.rtr f)) => by have := rFear_c f Aw At Ar nw cw nt ct nr cr L ln lc (M.rtr f) P pn pc plan h0 (M.rtr_listed h0) W (HCS.out.ev hE) hl (HP.out.ev hE); rw [M.fearV_is h0] at this; exact this)
 have HFE := hid (fun (Bw : Option Addr) (dw : Nat) (Bt : Option Addr) (dt : Nat) (Br : Option Addr) (dr : Nat) (L : Option Addr) (d : Nat) W (h : CS W W.heap.size f Bw Bt Br nw dw nt dt nr dr) (h3 : Sl ics 1 W W.heap.size L pn d plan) => Fear_none f Bw Bt Br nw dw nt dt nr dr L pn d plan hl0 W h h3 hbg hfr)
 rw [show M.fearV f (M.truths f) plan = .tuple #[.agg #[.int .i64 0, .bool false, .bool false], .bool false] by unfold M.fearV; rw [hfr]] at HRF
 rw [hpl] at HIP
 rw [h0] at HFA
 rw [hbt] at HSU
 clear h0 hbg hbt hpl ht hv hthin hfr
 go_enter Try.func5, Try.ntmps5
 go_upto_region 3 with (first | (go_at_call 18; with_reducible refine (HTH.out _ (Ev.alloc (Ev.refl _) _)).mono ?_; rintro e w1 ⟨rfl, hb1⟩; have hG : Ev w w1 := (Ev.alloc (Ev.refl _) _).trans hb1; have Q0 := hid (hb1.heap (alloc1 w (.cells #[.int .i64 f.last, .int .i64 f.size, .int .i64 f.cool, .int .i64 f.die, .int .i64 f.burn, .int .i64 f.st.lo, .int .i64 f.st.hi, .slice Aw nw cw, .slice At nt ct, .slice Ar nr cr] 28)).1); obtain ⟨y0, y1, y2, y3, y4, y5, y6, y7, y8, y9⟩ := cells10 Q0.out) | (with_reducible refine ⟨trivial, ?_⟩))
 go_upto_region 4 with (first | (go_at_call 21; with_reducible refine (Heap_c f Aw At Ar nw cw nt ct nr cr (by omega) (by omega) (by omega) _ (HCS.out.ev hG)).mono ?_; rintro e x2 ⟨⟨Bw2, dw2, Bt2, dt2, Br2, dr2, rfl, hc⟩, hb⟩; have HE2 := hid (hG.trans hb); have HV2 := hid (hb); have HC2 := hid hc; clear hc hb) | (go_at_call 23; with_reducible refine (list_c P pn pc plan (by omega) _ (HP.out.ev HE2.out)).mono ?_; rintro e x3 ⟨⟨L3, D3, rfl, hc⟩, hb⟩; have HE3 := hid (HE2.out.trans hb); have HV3 := hid (HV2.out.trans hb); have HL3 := hid (sl_own (enc := ics) (by decide) (ics_len _) (by omega) hc); have HM3 := hid hb; clear hc hb) | (go_at_call 38; with_reducible refine (HFE.out Bw2 dw2 Bt2 dt2 Br2 dr2 L3 D3 _ (HC2.out.ev HM3.out) HL3.out).mono ?_; rintro e x4 ⟨rfl, hb⟩; have HE4 := hid (HE3.out.trans hb); have HV4 := hid (HV3.out.trans hb); clear hb; clear y0 y1 y2 y3 y4 y5 y6 y7 y8 y9; obtain ⟨y0, y1, y2, y3, y4, y5, y6, y7, y8, y9⟩ := cells10 (HV4.out.heap Q0.out)))
 generalize hWA : World.alloc x4 _ = x5
 have hEA : Ev x4 x5 := by rw [← hWA]; exact Ev.alloc (Ev.refl _) _
 have hal := alloc1 x4 (.cells #[.int .i64 0, .bool false, .bool false] 64)
 rw [hWA] at hal
 have HR := hid hal.1
 have HE5 := hid (HE4.out.trans hEA)
 have HV5 := hid (HV4.out.trans hEA)
 have HA5 := hid (Ev.refl x5)
 clear hal hWA hEA y0 y1 y2 y3 y4 y5 y6 y7 y8 y9
 generalize x4.heap.size = p at HR
 obtain ⟨y0, y1, y2, y3, y4, y5, y6, y7, y8, y9⟩ := cells10 (HV5.out.heap Q0.out)
 obtain ⟨z0, z1, z2⟩ := cells3 HR.out
 go_upto_region 7 with (first | (go_at_call 34; with_reducible refine (HSU.out _ HE5.out).mono ?_; rintro e x6 ⟨⟨LB, lm, ld, rfl, hm, htl⟩, hb⟩; have HE6 := hid (HE5.out.trans hb); have HV6 := hid (HV5.out.trans hb); have HA6 := hid (HA5.out.trans hb); have HTL := hid htl; have HT6 := hid (Ev.refl x6); clear htl; clear z0 z1 z2; obtain ⟨z0, z1, z2⟩ := cells3 (HA6.out.heap HR.out); clear hb; clear y0 y1 y2 y3 y4 y5 y6 y7 y8 y9; obtain ⟨y0, y1, y2, y3, y4, y5, y6, y7, y8, y9⟩ := cells10 (HV6.out.heap Q0.out)) | (go_at_call 25; with_reducible refine (HFA.out _ HE6.out).mono ?_; rintro e x7 ⟨rfl, hb⟩; have HE7 := hid (HE6.out.trans hb); have HV7 := hid (HV6.out.trans hb); have HA7 := hid (HA6.out.trans hb); have HT7 := hid hb; clear z0 z1 z2; obtain ⟨z0, z1, z2⟩ := cells3 (HA7.out.heap HR.out); clear hb; clear y0 y1 y2 y3 y4 y5 y6 y7 y8 y9; obtain ⟨y0, y1, y2, y3, y4, y5, y6, y7, y8, y9⟩ := cells10 (HV7.out.heap Q0.out)) | (go_at_call 29; with_reducible refine (HIP.out _ HE7.out).mono ?_; rintro e x8 ⟨rfl, hb⟩; have HE8 := hid (HE7.out.trans hb); have HV8 := hid (HV7.out.trans hb); have HA8 := hid (HA7.out.trans hb); have HT8 := hid (HT7.out.trans hb); clear z0 z1 z2; obtain ⟨z0, z1, z2⟩ := cells3 (HA8.out.heap HR.out); clear hb; clear y0 y1 y2 y3 y4 y5 y6 y7 y8 y9; obtain ⟨y0, y1, y2, y3, y4, y5, y6, y7, y8, y9⟩ := cells10 (HV8.out.heap Q0.out)) | (with_reducible refine ⟨trivial, ?_⟩))
 replace HTL := hid (HTL.out (by first | exact trivial | rfl))
 go_upto_region 10 with (first | (go_at_call 39; with_reducible refine (HRF.out LB lm ld _ HE8.out (HTL.out.ev HT8.out)).mono ?_; rintro e x9 ⟨rfl, hb⟩; have HE9 := hid (HE8.out.trans hb); have HV9 := hid (HV8.out.trans hb); have HA9 := hid (HA8.out.trans hb); clear hb; clear y0 y1 y2 y3 y4 y5 y6 y7 y8 y9; obtain ⟨y0, y1, y2, y3, y4, y5, y6, y7, y8, y9⟩ := cells10 (HV9.out.heap Q0.out); clear z0 z1 z2; obtain ⟨z0, z1, z2⟩ := cells3 (HA9.out.heap HR.out); have lz9 := heap_lt (HA9.out.heap HR.out)) | (with_reducible refine ⟨trivial, ?_⟩))
 generalize hWB : World.alloc x9 _ = x10
 have hEB : Ev x9 x10 := by rw [← hWB]; exact Ev.alloc (Ev.refl _) _
 have hal := alloc1 x9 (.cells #[.int .i64 0, .bool false, .bool false] 67)
 rw [hWB] at hal
 have HS := hid hal.1
 have HE10 := hid (HE9.out.trans hEB)
 have HA10 := hid (HA9.out.trans hEB)
 clear hal hWB z0 z1 z2 y0 y1 y2 y3 y4 y5 y6 y7 y8 y9
 generalize x9.heap.size = q at HS
 obtain ⟨z0, z1, z2⟩ := cells3 (HA10.out.heap HR.out)
 obtain ⟨u0, u1, u2⟩ := cells3 HS.out
 go_wp2_with (first | (go_at_call 19; with_reducible refine (awake_c _).mono ?_; rintro e w99 ⟨rfl, hb99⟩) | (with_reducible refine ⟨trivial, ?_⟩))
 go_ret
 exact ⟨rfl, HE10.out.trans hb99⟩

set_option maxRecDepth 100000 in
set_option maxHeartbeats 4000000 in
theorem couchFears_d1 (f : M.Cf) (Aw At Ar : Option Addr) (nw cw nt ct nr cr : Nat) (P : Option Addr) (pn pc : Nat) (plan : List Int) (hl0 : -9223372036854775808 ≤ f.last) (w : World) (HCS : Hid (CS w w.heap.size f Aw At Ar nw cw nt ct nr cr)) (HP : Hid (Sl ics 1 w w.heap.size P pn pc plan)) (hsm : M.small nw nt nr) (hthin : (decide (M.small nw nt nr) && M.thin f) = true) (q2 : pn ≤ 14) (h0 : M.check f = 0) (hpl : M.isTurns f plan = true) (ht : M.truths f ≠ []) (i : Nat) (hfr : M.fear f (M.truths f) plan = some i) :
  Calls Try.prog 5 #[.agg #[.int .i64 f.last, .int .i64 f.size, .int .i64 f.cool, .int .i64 f.die, .int .i64 f.burn, .int .i64 f.st.lo, .int .i64 f.st.hi, .slice Aw nw cw, .slice At nt ct, .slice Ar nr cr], .slice P pn pc] w fun e w' => e = .returned (.bool true) ∧ Ev w w' := by
 have q2a : ¬ ((pn : Int) > 14) := by omega
 obtain ⟨s0, s1, s2⟩ := hsm
 have HTH := hid (fun W (hE : Ev w W) => by have := Thin_c f Aw At Ar nw cw nt ct nr cr hl0 W (fun _ => HCS.out.ev hE); rw [hthin] at this; exact this)
 have HFA := hid (fun W (hE : Ev w W) => fault_c f Aw At Ar nw cw nt ct nr cr hl0 W (HCS.out.ev hE))
 have HSU := hid (fun W (hE : Ev w W) => sure_c f Aw At Ar nw cw nt ct nr cr hl0 W (HCS.out.ev hE))
 have HIP := hid (fun W (hE : Ev w W) => rIsTurns_c f Aw At Ar nw cw nt ct nr cr P pn pc plan W (HP.out.ev hE))
 have hbg : M.begin f (M.isTurns f plan) = 0 := by unfold M.begin; rw [if_neg (by simp [h0]), hpl, if_neg (by simp), if_neg ht]
 have hbt : M.begin f true = 0 := by rw [← hpl]; exact hbg
 have hv := (M.check0 h0).2.2.1
 have HRF := hid (fun L ln lc W (hE : Ev w W) (hl : TL W L ln lc (M.rtr f)) => by have := rFear_c f Aw At Ar nw cw nt ct nr cr L ln lc (M.rtr f) P pn pc plan h0 (M.rtr_listed h0) W (HCS.out.ev hE) hl (HP.out.ev hE); rw [M.fearV_is h0] at this; exact this)
 have HFE := hid (fun (Bw : Option Addr) (dw : Nat) (Bt : Option Addr) (dt : Nat) (Br : Option Addr) (dr : Nat) (L : Option Addr) (d : Nat) W (h : CS W W.heap.size f Bw Bt Br nw dw nt dt nr dr) (h3 : Sl ics 1 W W.heap.size L pn d plan) => Fear_ok f Bw Bt Br nw dw nt dt nr dr L pn d plan hl0 W h h3 hbg i hfr)
 rw [show M.fearV f (M.truths f) plan = .tuple #[.agg #[.int .i64 (i : Int), .bool (M.burnsAt f (M.truths f) plan i), .bool (M.diesAt f (M.truths f) plan i)], .bool true] by unfold M.fearV; rw [hfr]] at HRF
 generalize M.burnsAt f (M.truths f) plan i = b1 at HFE HRF
 generalize M.diesAt f (M.truths f) plan i = b2 at HFE HRF
 rw [hpl] at HIP
 rw [h0] at HFA
 rw [hbt] at HSU
 clear h0 hbg hbt hpl ht hv hthin hfr
 go_enter Try.func5, Try.ntmps5
 go_upto_region 3 with (first | (go_at_call 18; with_reducible refine (HTH.out _ (Ev.alloc (Ev.refl _) _)).mono ?_; rintro e w1 ⟨rfl, hb1⟩; have hG : Ev w w1 := (Ev.alloc (Ev.refl _) _).trans hb1; have Q0 := hid (hb1.heap (alloc1 w (.cells #[.int .i64 f.last, .int .i64 f.size, .int .i64 f.cool, .int .i64 f.die, .int .i64 f.burn, .int .i64 f.st.lo, .int .i64 f.st.hi, .slice Aw nw cw, .slice At nt ct, .slice Ar nr cr] 28)).1); obtain ⟨y0, y1, y2, y3, y4, y5, y6, y7, y8, y9⟩ := cells10 Q0.out) | (with_reducible refine ⟨trivial, ?_⟩))
 go_upto_region 4 with (first | (go_at_call 21; with_reducible refine (Heap_c f Aw At Ar nw cw nt ct nr cr (by omega) (by omega) (by omega) _ (HCS.out.ev hG)).mono ?_; rintro e x2 ⟨⟨Bw2, dw2, Bt2, dt2, Br2, dr2, rfl, hc⟩, hb⟩; have HE2 := hid (hG.trans hb); have HV2 := hid (hb); have HC2 := hid hc; clear hc hb) | (go_at_call 23; with_reducible refine (list_c P pn pc plan (by omega) _ (HP.out.ev HE2.out)).mono ?_; rintro e x3 ⟨⟨L3, D3, rfl, hc⟩, hb⟩; have HE3 := hid (HE2.out.trans hb); have HV3 := hid (HV2.out.trans hb); have HL3 := hid (sl_own (enc := ics) (by decide) (ics_len _) (by omega) hc); have HM3 := hid hb; clear hc hb) | (go_at_call 38; with_reducible refine (HFE.out Bw2 dw2 Bt2 dt2 Br2 dr2 L3 D3 _ (HC2.out.ev HM3.out) HL3.out).mono ?_; rintro e x4 ⟨rfl, hb⟩; have HE4 := hid (HE3.out.trans hb); have HV4 := hid (HV3.out.trans hb); clear hb; clear y0 y1 y2 y3 y4 y5 y6 y7 y8 y9; obtain ⟨y0, y1, y2, y3, y4, y5, y6, y7, y8, y9⟩ := cells10 (HV4.out.heap Q0.out)))
 generalize hWA : World.alloc x4 _ = x5
 have hEA : Ev x4 x5 := by rw [← hWA]; exact Ev.alloc (Ev.refl _) _
 have hal := alloc1 x4 (.cells #[.int .i64 (i : Int), .bool b1, .bool b2] 64)
 rw [hWA] at hal
 have HR := hid hal.1
 have HE5 := hid (HE4.out.trans hEA)
 have HV5 := hid (HV4.out.trans hEA)
 have HA5 := hid (Ev.refl x5)
 clear hal hWA hEA y0 y1 y2 y3 y4 y5 y6 y7 y8 y9
 generalize x4.heap.size = p at HR
 obtain ⟨y0, y1, y2, y3, y4, y5, y6, y7, y8, y9⟩ := cells10 (HV5.out.heap Q0.out)
 obtain ⟨z0, z1, z2⟩ := cells3 HR.out
 go_upto_region 7 with (first | (go_at_call 34; with_reducible refine (HSU.out _ HE5.out).mono ?_; rintro e x6 ⟨⟨LB, lm, ld, rfl, hm, htl⟩, hb⟩; have HE6 := hid (HE5.out.trans hb); have HV6 := hid (HV5.out.trans hb); have HA6 := hid (HA5.out.trans hb); have HTL := hid htl; have HT6 := hid (Ev.refl x6); clear htl; clear z0 z1 z2; obtain ⟨z0, z1, z2⟩ := cells3 (HA6.out.heap HR.out); clear hb; clear y0 y1 y2 y3 y4 y5 y6 y7 y8 y9; obtain ⟨y0, y1, y2, y3, y4, y5, y6, y7, y8, y9⟩ := cells10 (HV6.out.heap Q0.out)) | (go_at_call 25; with_reducible refine (HFA.out _ HE6.out).mono ?_; rintro e x7 ⟨rfl, hb⟩; have HE7 := hid (HE6.out.trans hb); have HV7 := hid (HV6.out.trans hb); have HA7 := hid (HA6.out.trans hb); have HT7 := hid hb; clear z0 z1 z2; obtain ⟨z0, z1, z2⟩ := cells3 (HA7.out.heap HR.out); clear hb; clear y0 y1 y2 y3 y4 y5 y6 y7 y8 y9; obtain ⟨y0, y1, y2, y3, y4, y5, y6, y7, y8, y9⟩ := cells10 (HV7.out.heap Q0.out)) | (go_at_call 29; with_reducible refine (HIP.out _ HE7.out).mono ?_; rintro e x8 ⟨rfl, hb⟩; have HE8 := hid (HE7.out.trans hb); have HV8 := hid (HV7.out.trans hb); have HA8 := hid (HA7.out.trans hb); have HT8 := hid (HT7.out.trans hb); clear z0 z1 z2; obtain ⟨z0, z1, z2⟩ := cells3 (HA8.out.heap HR.out); clear hb; clear y0 y1 y2 y3 y4 y5 y6 y7 y8 y9; obtain ⟨y0, y1, y2, y3, y4, y5, y6, y7, y8, y9⟩ := cells10 (HV8.out.heap Q0.out)) | (with_reducible refine ⟨trivial, ?_⟩))
 replace HTL := hid (HTL.out (by first | exact trivial | rfl))
 go_upto_region 10 with (first | (go_at_call 39; with_reducible refine (HRF.out LB lm ld _ HE8.out (HTL.out.ev HT8.out)).mono ?_; rintro e x9 ⟨rfl, hb⟩; have HE9 := hid (HE8.out.trans hb); have HV9 := hid (HV8.out.trans hb); have HA9 := hid (HA8.out.trans hb); clear hb; clear y0 y1 y2 y3 y4 y5 y6 y7 y8 y9; obtain ⟨y0, y1, y2, y3, y4, y5, y6, y7, y8, y9⟩ := cells10 (HV9.out.heap Q0.out); clear z0 z1 z2; obtain ⟨z0, z1, z2⟩ := cells3 (HA9.out.heap HR.out); have lz9 := heap_lt (HA9.out.heap HR.out)) | (with_reducible refine ⟨trivial, ?_⟩))
 generalize hWB : World.alloc x9 _ = x10
 have hEB : Ev x9 x10 := by rw [← hWB]; exact Ev.alloc (Ev.refl _) _
 have hal := alloc1 x9 (.cells #[.int .i64 (i : Int), .bool b1, .bool b2] 67)
 rw [hWB] at hal
 have HS := hid hal.1
 have HE10 := hid (HE9.out.trans hEB)
 have HA10 := hid (HA9.out.trans hEB)
 clear hal hWB z0 z1 z2 y0 y1 y2 y3 y4 y5 y6 y7 y8 y9
 generalize x9.heap.size = q at HS
 obtain ⟨z0, z1, z2⟩ := cells3 (HA10.out.heap HR.out)
 obtain ⟨u0, u1, u2⟩ := cells3 HS.out
 go_wp2_with (first | (go_at_call 19; with_reducible refine (awake_c _).mono ?_; rintro e w99 ⟨rfl, hb99⟩) | (with_reducible refine ⟨trivial, ?_⟩))
 go_ret
 exact ⟨rfl, HE10.out.trans hb99⟩

theorem couchFears_d (f : M.Cf) (Aw At Ar : Option Addr) (nw cw nt ct nr cr : Nat) (P : Option Addr) (pn pc : Nat) (plan : List Int) (hl0 : -9223372036854775808 ≤ f.last) (w : World) (HCS : Hid (CS w w.heap.size f Aw At Ar nw cw nt ct nr cr)) (HP : Hid (Sl ics 1 w w.heap.size P pn pc plan)) (hsm : M.small nw nt nr) (hthin : (decide (M.small nw nt nr) && M.thin f) = true) (q2 : pn ≤ 14) (h0 : M.check f = 0) (hpl : M.isTurns f plan = true) (ht : M.truths f ≠ []) :
  Calls Try.prog 5 #[.agg #[.int .i64 f.last, .int .i64 f.size, .int .i64 f.cool, .int .i64 f.die, .int .i64 f.burn, .int .i64 f.st.lo, .int .i64 f.st.hi, .slice Aw nw cw, .slice At nt ct, .slice Ar nr cr], .slice P pn pc] w fun e w' => e = .returned (.bool true) ∧ Ev w w' := by
 cases hfr : M.fear f (M.truths f) plan with
 | none => exact couchFears_d0 f Aw At Ar nw cw nt ct nr cr P pn pc plan hl0 w HCS HP hsm hthin q2 h0 hpl ht hfr
 | some i => exact couchFears_d1 f Aw At Ar nw cw nt ct nr cr P pn pc plan hl0 w HCS HP hsm hthin q2 h0 hpl ht i hfr
theorem couchFears_c (f : M.Cf) (Aw At Ar : Option Addr) (nw cw nt ct nr cr : Nat) (P : Option Addr) (pn pc : Nat) (plan : List Int) (hl0 : -9223372036854775808 ≤ f.last) (w : World) (hs : M.small nw nt nr → CS w w.heap.size f Aw At Ar nw cw nt ct nr cr) (hp : pn ≤ 1099511627776 → Sl ics 1 w w.heap.size P pn pc plan) :
  Calls Try.prog 5 #[.agg #[.int .i64 f.last, .int .i64 f.size, .int .i64 f.cool, .int .i64 f.die, .int .i64 f.burn, .int .i64 f.st.lo, .int .i64 f.st.hi, .slice Aw nw cw, .slice At nt ct, .slice Ar nr cr], .slice P pn pc] w fun e w' => e = .returned (.bool true) ∧ Ev w w' := by
 by_cases hno : (decide (M.small nw nt nr) && M.thin f) = true ∧ pn ≤ 14
 ·
  obtain ⟨hth, q2⟩ := hno
  have hsm : M.small nw nt nr := by
   rw [Bool.and_eq_true, decide_eq_true_eq] at hth
   exact hth.1
  have a1 := hid (hs hsm)
  have a4 := hid (hp (by omega))
  by_cases h0 : M.check f = 0
  ·
   cases hpl : M.isTurns f plan with
   | false => exact couchFears_b f Aw At Ar nw cw nt ct nr cr P pn pc plan hl0 w a1 a4 hsm hth q2 h0 hpl
   | true =>
    by_cases ht : M.truths f = []
    ·
     exact couchFears_c1 f Aw At Ar nw cw nt ct nr cr P pn pc plan hl0 w a1 a4 hsm hth q2 h0 hpl ht
    ·
     exact couchFears_d f Aw At Ar nw cw nt ct nr cr P pn pc plan hl0 w a1 a4 hsm hth q2 h0 hpl ht
  ·
   exact couchFears_a f Aw At Ar nw cw nt ct nr cr P pn pc plan hl0 w a1 a4 hsm hth q2 h0
 ·
  exact couchFears_no f Aw At Ar nw cw nt ct nr cr P pn pc plan hl0 w hs hno

end Go.Proofs.Ytgimcephbeajlaa
