import Derived.Test.YtgimcephbeajlaaC36
import Derived.Test.YtgimcephbeajlaaC27
import Derived.Test.YtgimcephbeajlaaC23
import Derived.Test.YtgimcephbeajlaaC24
set_option linter.unusedSimpArgs false
set_option linter.unusedVariables false
namespace Go.Proofs.Ytgimcephbeajlaa
open Go.RowKit Go.Shelf

set_option maxRecDepth 100000 in
set_option maxHeartbeats 2000000 in
theorem couchBounds_no (f : M.Cf) (Aw At Ar : Option Addr) (nw cw nt ct nr cr : Nat) (P : Option Addr) (pn pc : Nat) (plan : List Int) (hl0 : -9223372036854775808 ≤ f.last) (w : World) (hs : M.small nw nt nr → CS w w.heap.size f Aw At Ar nw cw nt ct nr cr) (hno : ¬ ((decide (M.small nw nt nr) && M.thin f) = true ∧ pn ≤ 14)) :
  Calls Try.prog 4 #[.agg #[.int .i64 f.last, .int .i64 f.size, .int .i64 f.cool, .int .i64 f.die, .int .i64 f.burn, .int .i64 f.st.lo, .int .i64 f.st.hi, .slice Aw nw cw, .slice At nt ct, .slice Ar nr cr], .slice P pn pc] w fun e w' => e = .returned (.bool true) ∧ Ev w w' := by
 have hth := fun W (hE : Ev w W) => Thin_c f Aw At Ar nw cw nt ct nr cr hl0 W (fun h => (hs h).ev hE)
 cases hthin : (decide (M.small nw nt nr) && M.thin f) with
 | false =>
  rw [hthin] at hth
  have HTH := hid hth
  clear hth hs hthin hno
  go_enter Try.func4, Try.ntmps4
  go_wp2_with (first | (go_at_call 18; with_reducible refine (HTH.out _ (Ev.alloc (Ev.refl _) _)).mono ?_; rintro e w1 ⟨rfl, hb1⟩; have hG : Ev w w1 := (Ev.alloc (Ev.refl _) _).trans hb1; have Q0 := hid (hb1.heap (alloc1 w (.cells #[.int .i64 f.last, .int .i64 f.size, .int .i64 f.cool, .int .i64 f.die, .int .i64 f.burn, .int .i64 f.st.lo, .int .i64 f.st.hi, .slice Aw nw cw, .slice At nt ct, .slice Ar nr cr] 28)).1); obtain ⟨y0, y1, y2, y3, y4, y5, y6, y7, y8, y9⟩ := cells10 Q0.out) | (go_at_call 19; with_reducible refine (awake_c _).mono ?_; rintro e w99 ⟨rfl, hb99⟩) | (with_reducible refine ⟨trivial, ?_⟩))
  go_ret
  exact ⟨rfl, hG.trans hb99⟩
 | true =>
  rw [hthin] at hth hno
  have HTH := hid hth
  have q2 : ¬ pn ≤ 14 := fun h => hno ⟨rfl, h⟩
  have q2a : (pn : Int) > 14 := by omega
  clear hth hs hthin hno
  go_enter Try.func4, Try.ntmps4
  go_wp2_with (first | (go_at_call 18; with_reducible refine (HTH.out _ (Ev.alloc (Ev.refl _) _)).mono ?_; rintro e w1 ⟨rfl, hb1⟩; have hG : Ev w w1 := (Ev.alloc (Ev.refl _) _).trans hb1; have Q0 := hid (hb1.heap (alloc1 w (.cells #[.int .i64 f.last, .int .i64 f.size, .int .i64 f.cool, .int .i64 f.die, .int .i64 f.burn, .int .i64 f.st.lo, .int .i64 f.st.hi, .slice Aw nw cw, .slice At nt ct, .slice Ar nr cr] 28)).1); obtain ⟨y0, y1, y2, y3, y4, y5, y6, y7, y8, y9⟩ := cells10 Q0.out) | (go_at_call 19; with_reducible refine (awake_c _).mono ?_; rintro e w99 ⟨rfl, hb99⟩) | (with_reducible refine ⟨trivial, ?_⟩))
  go_ret
  exact ⟨rfl, hG.trans hb99⟩

set_option maxRecDepth 100000 in
set_option maxHeartbeats 4000000 in
theorem couchBounds_a (f : M.Cf) (Aw At Ar : Option Addr) (nw cw nt ct nr cr : Nat) (P : Option Addr) (pn pc : Nat) (plan : List Int) (hl0 : -9223372036854775808 ≤ f.last) (w : World) (HCS : Hid (CS w w.heap.size f Aw At Ar nw cw nt ct nr cr)) (HP : Hid (Sl ics 1 w w.heap.size P pn pc plan)) (hsm : M.small nw nt nr) (hthin : (decide (M.small nw nt nr) && M.thin f) = true) (q2 : pn ≤ 14) (h0 : M.check f ≠ 0) :
  Calls Try.prog 4 #[.agg #[.int .i64 f.last, .int .i64 f.size, .int .i64 f.cool, .int .i64 f.die, .int .i64 f.burn, .int .i64 f.st.lo, .int .i64 f.st.hi, .slice Aw nw cw, .slice At nt ct, .slice Ar nr cr], .slice P pn pc] w fun e w' => e = .returned (.bool true) ∧ Ev w w' := by
 have q2a : ¬ ((pn : Int) > 14) := by omega
 obtain ⟨s0, s1, s2⟩ := hsm
 have HTH := hid (fun W (hE : Ev w W) => by have := Thin_c f Aw At Ar nw cw nt ct nr cr hl0 W (fun _ => HCS.out.ev hE); rw [hthin] at this; exact this)
 have HFA := hid (fun W (hE : Ev w W) => fault_c f Aw At Ar nw cw nt ct nr cr hl0 W (HCS.out.ev hE))
 have HSU := hid (fun W (hE : Ev w W) => sure_c f Aw At Ar nw cw nt ct nr cr hl0 W (HCS.out.ev hE))
 have HIP := hid (fun W (hE : Ev w W) => rIsTurns_c f Aw At Ar nw cw nt ct nr cr P pn pc plan W (HP.out.ev hE))
 have hbg : M.begin f (M.isTurns f plan) = M.check f := by unfold M.begin; rw [if_pos h0]
 have hbt : M.begin f true = M.check f := by unfold M.begin; rw [if_pos h0]
 have hbn := h0
 have HBO := hid (fun (Bw : Option Addr) (dw : Nat) (Bt : Option Addr) (dt : Nat) (Br : Option Addr) (dr : Nat) (L : Option Addr) (d : Nat) W (h : CS W W.heap.size f Bw Bt Br nw dw nt dt nr dr) (h3 : Sl ics 1 W W.heap.size L pn d plan) => by have := Bounds_err f Bw Bt Br nw dw nt dt nr dr L pn d plan hl0 W h h3 (by rw [hbg]; exact hbn); rw [hbg] at this; exact this)
 have HKE := hid (fun (Bw : Option Addr) (dw : Nat) (Bt : Option Addr) (dt : Nat) (Br : Option Addr) (dr : Nat) (L : Option Addr) (d : Nat) W (h : CS W W.heap.size f Bw Bt Br nw dw nt dt nr dr) (h3 : Sl ics 1 W W.heap.size L pn d plan) => by have := Keeps_err f Bw Bt Br nw dw nt dt nr dr L pn d plan hl0 W h h3 (by rw [hbg]; exact hbn); rw [hbg] at this; exact this)
 have HPK := hid (fun (Bw : Option Addr) (dw : Nat) (Bt : Option Addr) (dt : Nat) (Br : Option Addr) (dr : Nat) (L : Option Addr) (d : Nat) W (h : CS W W.heap.size f Bw Bt Br nw dw nt dt nr dr) (h3 : Sl ics 1 W W.heap.size L pn d plan) => ProveKeeps_err f Bw Bt Br nw dw nt dt nr dr L pn d plan hl0 W h h3 (by rw [hbg]; exact hbn))
 rw [hbt] at HSU
 generalize M.check f = ec at *
 have c1_ : (ec == 0) = false := by simpa using hbn
 have c2_ : (ec != 0) = true := by simpa using hbn
 have c3_ : (ec != ec) = false := by simp
 have c4_ : (ec == ec) = true := by simp
 clear h0 hbg hbt hbn
 clear hthin
 go_enter Try.func4, Try.ntmps4
 go_upto_region 3 with (first | (go_at_call 18; with_reducible refine (HTH.out _ (Ev.alloc (Ev.refl _) _)).mono ?_; rintro e w1 ⟨rfl, hb1⟩; have hG : Ev w w1 := (Ev.alloc (Ev.refl _) _).trans hb1; have Q0 := hid (hb1.heap (alloc1 w (.cells #[.int .i64 f.last, .int .i64 f.size, .int .i64 f.cool, .int .i64 f.die, .int .i64 f.burn, .int .i64 f.st.lo, .int .i64 f.st.hi, .slice Aw nw cw, .slice At nt ct, .slice Ar nr cr] 28)).1); obtain ⟨y0, y1, y2, y3, y4, y5, y6, y7, y8, y9⟩ := cells10 Q0.out) | (with_reducible refine ⟨trivial, ?_⟩))
 go_upto_region 4 with (first | (go_at_call 21; with_reducible refine (Heap_c f Aw At Ar nw cw nt ct nr cr (by omega) (by omega) (by omega) _ (HCS.out.ev hG)).mono ?_; rintro e x2 ⟨⟨Bw2, dw2, Bt2, dt2, Br2, dr2, rfl, hc⟩, hb⟩; have HE2 := hid (hG.trans hb); have HV2 := hid (hb); have HC2 := hid hc; clear hc hb) | (go_at_call 23; with_reducible refine (list_c P pn pc plan (by omega) _ (HP.out.ev HE2.out)).mono ?_; rintro e x3 ⟨⟨L3, D3, rfl, hc⟩, hb⟩; have HE3 := hid (HE2.out.trans hb); have HV3 := hid (HV2.out.trans hb); have HL3 := hid (sl_own (enc := ics) (by decide) (ics_len _) (by omega) hc); have HM3 := hid hb; clear hc hb) | (go_at_call 31; with_reducible refine (HBO.out Bw2 dw2 Bt2 dt2 Br2 dr2 L3 D3 _ (HC2.out.ev HM3.out) HL3.out).mono ?_; rintro e x4 ⟨rfl, hb⟩; have HE4 := hid (HE3.out.trans hb); have HV4 := hid (HV3.out.trans hb); clear hb; clear y0 y1 y2 y3 y4 y5 y6 y7 y8 y9; obtain ⟨y0, y1, y2, y3, y4, y5, y6, y7, y8, y9⟩ := cells10 (HV4.out.heap Q0.out)))
 go_upto_region 5 with (first | (go_at_call 21; with_reducible refine (Heap_c f Aw At Ar nw cw nt ct nr cr (by omega) (by omega) (by omega) _ (HCS.out.ev HE4.out)).mono ?_; rintro e x5 ⟨⟨Bw5, dw5, Bt5, dt5, Br5, dr5, rfl, hc⟩, hb⟩; have HE5 := hid (HE4.out.trans hb); have HV5 := hid (HV4.out.trans hb); have HC5 := hid hc; clear hc hb) | (go_at_call 23; with_reducible refine (list_c P pn pc plan (by omega) _ (HP.out.ev HE5.out)).mono ?_; rintro e x6 ⟨⟨L6, D6, rfl, hc⟩, hb⟩; have HE6 := hid (HE5.out.trans hb); have HV6 := hid (HV5.out.trans hb); have HL6 := hid (sl_own (enc := ics) (by decide) (ics_len _) (by omega) hc); have HM6 := hid hb; clear hc hb) | (go_at_call 32; with_reducible refine (HKE.out Bw5 dw5 Bt5 dt5 Br5 dr5 L6 D6 _ (HC5.out.ev HM6.out) HL6.out).mono ?_; rintro e x7 ⟨rfl, hb⟩; have HE7 := hid (HE6.out.trans hb); have HV7 := hid (HV6.out.trans hb); clear hb; clear y0 y1 y2 y3 y4 y5 y6 y7 y8 y9; obtain ⟨y0, y1, y2, y3, y4, y5, y6, y7, y8, y9⟩ := cells10 (HV7.out.heap Q0.out)))
 go_upto_region 6 with (first | (go_at_call 21; with_reducible refine (Heap_c f Aw At Ar nw cw nt ct nr cr (by omega) (by omega) (by omega) _ (HCS.out.ev HE7.out)).mono ?_; rintro e x8 ⟨⟨Bw8, dw8, Bt8, dt8, Br8, dr8, rfl, hc⟩, hb⟩; have HE8 := hid (HE7.out.trans hb); have HV8 := hid (HV7.out.trans hb); have HC8 := hid hc; clear hc hb) | (go_at_call 23; with_reducible refine (list_c P pn pc plan (by omega) _ (HP.out.ev HE8.out)).mono ?_; rintro e x9 ⟨⟨L9, D9, rfl, hc⟩, hb⟩; have HE9 := hid (HE8.out.trans hb); have HV9 := hid (HV8.out.trans hb); have HL9 := hid (sl_own (enc := ics) (by decide) (ics_len _) (by omega) hc); have HM9 := hid hb; clear hc hb) | (go_at_call 33; with_reducible refine (HPK.out Bw8 dw8 Bt8 dt8 Br8 dr8 L9 D9 _ (HC8.out.ev HM9.out) HL9.out).mono ?_; rintro e x10 ⟨rfl, hb⟩; have HE10 := hid (HE9.out.trans hb); have HV10 := hid (HV9.out.trans hb); clear hb; clear y0 y1 y2 y3 y4 y5 y6 y7 y8 y9; obtain ⟨y0, y1, y2, y3, y4, y5, y6, y7, y8, y9⟩ := cells10 (HV10.out.heap Q0.out)))
 go_wp2_with (first | (go_at_call 34; with_reducible refine (HSU.out _ HE10.out).mono ?_; rintro e x11 ⟨⟨LB, lm, ld, rfl, hm, htl⟩, hb⟩; have HE11 := hid (HE10.out.trans hb); have HV11 := hid (HV10.out.trans hb); have HTL := hid htl; have HT11 := hid (Ev.refl x11); clear htl; clear hb; clear y0 y1 y2 y3 y4 y5 y6 y7 y8 y9; obtain ⟨y0, y1, y2, y3, y4, y5, y6, y7, y8, y9⟩ := cells10 (HV11.out.heap Q0.out)) | (go_at_call 25; with_reducible refine (HFA.out _ HE11.out).mono ?_; rintro e x12 ⟨rfl, hb⟩; have HE12 := hid (HE11.out.trans hb); have HV12 := hid (HV11.out.trans hb); have HT12 := hid hb; clear hb; clear y0 y1 y2 y3 y4 y5 y6 y7 y8 y9; obtain ⟨y0, y1, y2, y3, y4, y5, y6, y7, y8, y9⟩ := cells10 (HV12.out.heap Q0.out)) | (go_at_call 29; with_reducible refine (HIP.out _ HE12.out).mono ?_; rintro e x13 ⟨rfl, hb⟩; have HE13 := hid (HE12.out.trans hb); have HV13 := hid (HV12.out.trans hb); have HT13 := hid (HT12.out.trans hb); clear hb; clear y0 y1 y2 y3 y4 y5 y6 y7 y8 y9; obtain ⟨y0, y1, y2, y3, y4, y5, y6, y7, y8, y9⟩ := cells10 (HV13.out.heap Q0.out)) | (go_at_call 19; with_reducible refine (awake_c _).mono ?_; rintro e w99 ⟨rfl, hb99⟩) | (with_reducible refine ⟨trivial, ?_⟩))
 go_ret
 exact ⟨rfl, HE12.out.trans hb99⟩

set_option maxRecDepth 100000 in
set_option maxHeartbeats 4000000 in
theorem couchBounds_b (f : M.Cf) (Aw At Ar : Option Addr) (nw cw nt ct nr cr : Nat) (P : Option Addr) (pn pc : Nat) (plan : List Int) (hl0 : -9223372036854775808 ≤ f.last) (w : World) (HCS : Hid (CS w w.heap.size f Aw At Ar nw cw nt ct nr cr)) (HP : Hid (Sl ics 1 w w.heap.size P pn pc plan)) (hsm : M.small nw nt nr) (hthin : (decide (M.small nw nt nr) && M.thin f) = true) (q2 : pn ≤ 14) (h0 : M.check f = 0) (hpl : M.isTurns f plan = false) :
  Calls Try.prog 4 #[.agg #[.int .i64 f.last, .int .i64 f.size, .int .i64 f.cool, .int .i64 f.die, .int .i64 f.burn, .int .i64 f.st.lo, .int .i64 f.st.hi, .slice Aw nw cw, .slice At nt ct, .slice Ar nr cr], .slice P pn pc] w fun e w' => e = .returned (.bool true) ∧ Ev w w' := by
 have q2a : ¬ ((pn : Int) > 14) := by omega
 obtain ⟨s0, s1, s2⟩ := hsm
 have HTH := hid (fun W (hE : Ev w W) => by have := Thin_c f Aw At Ar nw cw nt ct nr cr hl0 W (fun _ => HCS.out.ev hE); rw [hthin] at this; exact this)
 have HFA := hid (fun W (hE : Ev w W) => fault_c f Aw At Ar nw cw nt ct nr cr hl0 W (HCS.out.ev hE))
 have HSU := hid (fun W (hE : Ev w W) => sure_c f Aw At Ar nw cw nt ct nr cr hl0 W (HCS.out.ev hE))
 have HIP := hid (fun W (hE : Ev w W) => rIsTurns_c f Aw At Ar nw cw nt ct nr cr P pn pc plan W (HP.out.ev hE))
 have hbg : M.begin f (M.isTurns f plan) = 2 := by unfold M.begin; rw [if_neg (by simp [h0]), hpl, if_pos rfl]
 have hbn : (2 : Int) ≠ 0 := by decide
 have HBO := hid (fun (Bw : Option Addr) (dw : Nat) (Bt : Option Addr) (dt : Nat) (Br : Option Addr) (dr : Nat) (L : Option Addr) (d : Nat) W (h : CS W W.heap.size f Bw Bt Br nw dw nt dt nr dr) (h3 : Sl ics 1 W W.heap.size L pn d plan) => by have := Bounds_err f Bw Bt Br nw dw nt dt nr dr L pn d plan hl0 W h h3 (by rw [hbg]; exact hbn); rw [hbg] at this; exact this)
 have HKE := hid (fun (Bw : Option Addr) (dw : Nat) (Bt : Option Addr) (dt : Nat) (Br : Option Addr) (dr : Nat) (L : Option Addr) (d : Nat) W (h : CS W W.heap.size f Bw Bt Br nw dw nt dt nr dr) (h3 : Sl ics 1 W W.heap.size L pn d plan) => by have := Keeps_err f Bw Bt Br nw dw nt dt nr dr L pn d plan hl0 W h h3 (by rw [hbg]; exact hbn); rw [hbg] at this; exact this)
 have HPK := hid (fun (Bw : Option Addr) (dw : Nat) (Bt : Option Addr) (dt : Nat) (Br : Option Addr) (dr : Nat) (L : Option Addr) (d : Nat) W (h : CS W W.heap.size f Bw Bt Br nw dw nt dt nr dr) (h3 : Sl ics 1 W W.heap.size L pn d plan) => ProveKeeps_err f Bw Bt Br nw dw nt dt nr dr L pn d plan hl0 W h h3 (by rw [hbg]; exact hbn))
 rw [hpl] at HIP
 rw [h0] at HFA
 generalize M.begin f true = ec at HSU
 clear h0 hbg hbn hpl
 clear hthin
 go_enter Try.func4, Try.ntmps4
 go_upto_region 3 with (first | (go_at_call 18; with_reducible refine (HTH.out _ (Ev.alloc (Ev.refl _) _)).mono ?_; rintro e w1 ⟨rfl, hb1⟩; have hG : Ev w w1 := (Ev.alloc (Ev.refl _) _).trans hb1; have Q0 := hid (hb1.heap (alloc1 w (.cells #[.int .i64 f.last, .int .i64 f.size, .int .i64 f.cool, .int .i64 f.die, .int .i64 f.burn, .int .i64 f.st.lo, .int .i64 f.st.hi, .slice Aw nw cw, .slice At nt ct, .slice Ar nr cr] 28)).1); obtain ⟨y0, y1, y2, y3, y4, y5, y6, y7, y8, y9⟩ := cells10 Q0.out) | (with_reducible refine ⟨trivial, ?_⟩))
 go_upto_region 4 with (first | (go_at_call 21; with_reducible refine (Heap_c f Aw At Ar nw cw nt ct nr cr (by omega) (by omega) (by omega) _ (HCS.out.ev hG)).mono ?_; rintro e x2 ⟨⟨Bw2, dw2, Bt2, dt2, Br2, dr2, rfl, hc⟩, hb⟩; have HE2 := hid (hG.trans hb); have HV2 := hid (hb); have HC2 := hid hc; clear hc hb) | (go_at_call 23; with_reducible refine (list_c P pn pc plan (by omega) _ (HP.out.ev HE2.out)).mono ?_; rintro e x3 ⟨⟨L3, D3, rfl, hc⟩, hb⟩; have HE3 := hid (HE2.out.trans hb); have HV3 := hid (HV2.out.trans hb); have HL3 := hid (sl_own (enc := ics) (by decide) (ics_len _) (by omega) hc); have HM3 := hid hb; clear hc hb) | (go_at_call 31; with_reducible refine (HBO.out Bw2 dw2 Bt2 dt2 Br2 dr2 L3 D3 _ (HC2.out.ev HM3.out) HL3.out).mono ?_; rintro e x4 ⟨rfl, hb⟩; have HE4 := hid (HE3.out.trans hb); have HV4 := hid (HV3.out.trans hb); clear hb; clear y0 y1 y2 y3 y4 y5 y6 y7 y8 y9; obtain ⟨y0, y1, y2, y3, y4, y5, y6, y7, y8, y9⟩ := cells10 (HV4.out.heap Q0.out)))
 go_upto_region 5 with (first | (go_at_call 21; with_reducible refine (Heap_c f Aw At Ar nw cw nt ct nr cr (by omega) (by omega) (by omega) _ (HCS.out.ev HE4.out)).mono ?_; rintro e x5 ⟨⟨Bw5, dw5, Bt5, dt5, Br5, dr5, rfl, hc⟩, hb⟩; have HE5 := hid (HE4.out.trans hb); have HV5 := hid (HV4.out.trans hb); have HC5 := hid hc; clear hc hb) | (go_at_call 23; with_reducible refine (list_c P pn pc plan (by omega) _ (HP.out.ev HE5.out)).mono ?_; rintro e x6 ⟨⟨L6, D6, rfl, hc⟩, hb⟩; have HE6 := hid (HE5.out.trans hb); have HV6 := hid (HV5.out.trans hb); have HL6 := hid (sl_own (enc := ics) (by decide) (ics_len _) (by omega) hc); have HM6 := hid hb; clear hc hb) | (go_at_call 32; with_reducible refine (HKE.out Bw5 dw5 Bt5 dt5 Br5 dr5 L6 D6 _ (HC5.out.ev HM6.out) HL6.out).mono ?_; rintro e x7 ⟨rfl, hb⟩; have HE7 := hid (HE6.out.trans hb); have HV7 := hid (HV6.out.trans hb); clear hb; clear y0 y1 y2 y3 y4 y5 y6 y7 y8 y9; obtain ⟨y0, y1, y2, y3, y4, y5, y6, y7, y8, y9⟩ := cells10 (HV7.out.heap Q0.out)))
 go_upto_region 6 with (first | (go_at_call 21; with_reducible refine (Heap_c f Aw At Ar nw cw nt ct nr cr (by omega) (by omega) (by omega) _ (HCS.out.ev HE7.out)).mono ?_; rintro e x8 ⟨⟨Bw8, dw8, Bt8, dt8, Br8, dr8, rfl, hc⟩, hb⟩; have HE8 := hid (HE7.out.trans hb); have HV8 := hid (HV7.out.trans hb); have HC8 := hid hc; clear hc hb) | (go_at_call 23; with_reducible refine (list_c P pn pc plan (by omega) _ (HP.out.ev HE8.out)).mono ?_; rintro e x9 ⟨⟨L9, D9, rfl, hc⟩, hb⟩; have HE9 := hid (HE8.out.trans hb); have HV9 := hid (HV8.out.trans hb); have HL9 := hid (sl_own (enc := ics) (by decide) (ics_len _) (by omega) hc); have HM9 := hid hb; clear hc hb) | (go_at_call 33; with_reducible refine (HPK.out Bw8 dw8 Bt8 dt8 Br8 dr8 L9 D9 _ (HC8.out.ev HM9.out) HL9.out).mono ?_; rintro e x10 ⟨rfl, hb⟩; have HE10 := hid (HE9.out.trans hb); have HV10 := hid (HV9.out.trans hb); clear hb; clear y0 y1 y2 y3 y4 y5 y6 y7 y8 y9; obtain ⟨y0, y1, y2, y3, y4, y5, y6, y7, y8, y9⟩ := cells10 (HV10.out.heap Q0.out)))
 go_wp2_with (first | (go_at_call 34; with_reducible refine (HSU.out _ HE10.out).mono ?_; rintro e x11 ⟨⟨LB, lm, ld, rfl, hm, htl⟩, hb⟩; have HE11 := hid (HE10.out.trans hb); have HV11 := hid (HV10.out.trans hb); have HTL := hid htl; have HT11 := hid (Ev.refl x11); clear htl; clear hb; clear y0 y1 y2 y3 y4 y5 y6 y7 y8 y9; obtain ⟨y0, y1, y2, y3, y4, y5, y6, y7, y8, y9⟩ := cells10 (HV11.out.heap Q0.out)) | (go_at_call 25; with_reducible refine (HFA.out _ HE11.out).mono ?_; rintro e x12 ⟨rfl, hb⟩; have HE12 := hid (HE11.out.trans hb); have HV12 := hid (HV11.out.trans hb); have HT12 := hid hb; clear hb; clear y0 y1 y2 y3 y4 y5 y6 y7 y8 y9; obtain ⟨y0, y1, y2, y3, y4, y5, y6, y7, y8, y9⟩ := cells10 (HV12.out.heap Q0.out)) | (go_at_call 29; with_reducible refine (HIP.out _ HE12.out).mono ?_; rintro e x13 ⟨rfl, hb⟩; have HE13 := hid (HE12.out.trans hb); have HV13 := hid (HV12.out.trans hb); have HT13 := hid (HT12.out.trans hb); clear hb; clear y0 y1 y2 y3 y4 y5 y6 y7 y8 y9; obtain ⟨y0, y1, y2, y3, y4, y5, y6, y7, y8, y9⟩ := cells10 (HV13.out.heap Q0.out)) | (go_at_call 19; with_reducible refine (awake_c _).mono ?_; rintro e w99 ⟨rfl, hb99⟩) | (with_reducible refine ⟨trivial, ?_⟩))
 go_ret
 exact ⟨rfl, HE13.out.trans hb99⟩

set_option maxRecDepth 100000 in
set_option maxHeartbeats 4000000 in
theorem couchBounds_c1 (f : M.Cf) (Aw At Ar : Option Addr) (nw cw nt ct nr cr : Nat) (P : Option Addr) (pn pc : Nat) (plan : List Int) (hl0 : -9223372036854775808 ≤ f.last) (w : World) (HCS : Hid (CS w w.heap.size f Aw At Ar nw cw nt ct nr cr)) (HP : Hid (Sl ics 1 w w.heap.size P pn pc plan)) (hsm : M.small nw nt nr) (hthin : (decide (M.small nw nt nr) && M.thin f) = true) (q2 : pn ≤ 14) (h0 : M.check f = 0) (hpl : M.isTurns f plan = true) (ht : M.truths f = []) :
  Calls Try.prog 4 #[.agg #[.int .i64 f.last, .int .i64 f.size, .int .i64 f.cool, .int .i64 f.die, .int .i64 f.burn, .int .i64 f.st.lo, .int .i64 f.st.hi, .slice Aw nw cw, .slice At nt ct, .slice Ar nr cr], .slice P pn pc] w fun e w' => e = .returned (.bool true) ∧ Ev w w' := by
 have q2a : ¬ ((pn : Int) > 14) := by omega
 obtain ⟨s0, s1, s2⟩ := hsm
 have HTH := hid (fun W (hE : Ev w W) => by have := Thin_c f Aw At Ar nw cw nt ct nr cr hl0 W (fun _ => HCS.out.ev hE); rw [hthin] at this; exact this)
 have HFA := hid (fun W (hE : Ev w W) => fault_c f Aw At Ar nw cw nt ct nr cr hl0 W (HCS.out.ev hE))
 have HSU := hid (fun W (hE : Ev w W) => sure_c f Aw At Ar nw cw nt ct nr cr hl0 W (HCS.out.ev hE))
 have HIP := hid (fun W (hE : Ev w W) => rIsTurns_c f Aw At Ar nw cw nt ct nr cr P pn pc plan W (HP.out.ev hE))
 have hbg : M.begin f (M.isTurns f plan) = 11 := by unfold M.begin; rw [if_neg (by simp [h0]), hpl, if_neg (by simp), if_pos ht]
 have hbn : (11 : Int) ≠ 0 := by decide
 have HBO := hid (fun (Bw : Option Addr) (dw : Nat) (Bt : Option Addr) (dt : Nat) (Br : Option Addr) (dr : Nat) (L : Option Addr) (d : Nat) W (h : CS W W.heap.size f Bw Bt Br nw dw nt dt nr dr) (h3 : Sl ics 1 W W.heap.size L pn d plan) => by have := Bounds_err f Bw Bt Br nw dw nt dt nr dr L pn d plan hl0 W h h3 (by rw [hbg]; exact hbn); rw [hbg] at this; exact this)
 have HKE := hid (fun (Bw : Option Addr) (dw : Nat) (Bt : Option Addr) (dt : Nat) (Br : Option Addr) (dr : Nat) (L : Option Addr) (d : Nat) W (h : CS W W.heap.size f Bw Bt Br nw dw nt dt nr dr) (h3 : Sl ics 1 W W.heap.size L pn d plan) => by have := Keeps_err f Bw Bt Br nw dw nt dt nr dr L pn d plan hl0 W h h3 (by rw [hbg]; exact hbn); rw [hbg] at this; exact this)
 have HPK := hid (fun (Bw : Option Addr) (dw : Nat) (Bt : Option Addr) (dt : Nat) (Br : Option Addr) (dr : Nat) (L : Option Addr) (d : Nat) W (h : CS W W.heap.size f Bw Bt Br nw dw nt dt nr dr) (h3 : Sl ics 1 W W.heap.size L pn d plan) => ProveKeeps_err f Bw Bt Br nw dw nt dt nr dr L pn d plan hl0 W h h3 (by rw [hbg]; exact hbn))
 rw [hpl] at HIP
 rw [h0] at HFA
 rw [show M.begin f true = 11 by rw [← hpl]; exact hbg] at HSU
 clear h0 hbg hbn hpl ht
 clear hthin
 go_enter Try.func4, Try.ntmps4
 go_upto_region 3 with (first | (go_at_call 18; with_reducible refine (HTH.out _ (Ev.alloc (Ev.refl _) _)).mono ?_; rintro e w1 ⟨rfl, hb1⟩; have hG : Ev w w1 := (Ev.alloc (Ev.refl _) _).trans hb1; have Q0 := hid (hb1.heap (alloc1 w (.cells #[.int .i64 f.last, .int .i64 f.size, .int .i64 f.cool, .int .i64 f.die, .int .i64 f.burn, .int .i64 f.st.lo, .int .i64 f.st.hi, .slice Aw nw cw, .slice At nt ct, .slice Ar nr cr] 28)).1); obtain ⟨y0, y1, y2, y3, y4, y5, y6, y7, y8, y9⟩ := cells10 Q0.out) | (with_reducible refine ⟨trivial, ?_⟩))
 go_upto_region 4 with (first | (go_at_call 21; with_reducible refine (Heap_c f Aw At Ar nw cw nt ct nr cr (by omega) (by omega) (by omega) _ (HCS.out.ev hG)).mono ?_; rintro e x2 ⟨⟨Bw2, dw2, Bt2, dt2, Br2, dr2, rfl, hc⟩, hb⟩; have HE2 := hid (hG.trans hb); have HV2 := hid (hb); have HC2 := hid hc; clear hc hb) | (go_at_call 23; with_reducible refine (list_c P pn pc plan (by omega) _ (HP.out.ev HE2.out)).mono ?_; rintro e x3 ⟨⟨L3, D3, rfl, hc⟩, hb⟩; have HE3 := hid (HE2.out.trans hb); have HV3 := hid (HV2.out.trans hb); have HL3 := hid (sl_own (enc := ics) (by decide) (ics_len _) (by omega) hc); have HM3 := hid hb; clear hc hb) | (go_at_call 31; with_reducible refine (HBO.out Bw2 dw2 Bt2 dt2 Br2 dr2 L3 D3 _ (HC2.out.ev HM3.out) HL3.out).mono ?_; rintro e x4 ⟨rfl, hb⟩; have HE4 := hid (HE3.out.trans hb); have HV4 := hid (HV3.out.trans hb); clear hb; clear y0 y1 y2 y3 y4 y5 y6 y7 y8 y9; obtain ⟨y0, y1, y2, y3, y4, y5, y6, y7, y8, y9⟩ := cells10 (HV4.out.heap Q0.out)))
 go_upto_region 5 with (first | (go_at_call 21; with_reducible refine (Heap_c f Aw At Ar nw cw nt ct nr cr (by omega) (by omega) (by omega) _ (HCS.out.ev HE4.out)).mono ?_; rintro e x5 ⟨⟨Bw5, dw5, Bt5, dt5, Br5, dr5, rfl, hc⟩, hb⟩; have HE5 := hid (HE4.out.trans hb); have HV5 := hid (HV4.out.trans hb); have HC5 := hid hc; clear hc hb) | (go_at_call 23; with_reducible refine (list_c P pn pc plan (by omega) _ (HP.out.ev HE5.out)).mono ?_; rintro e x6 ⟨⟨L6, D6, rfl, hc⟩, hb⟩; have HE6 := hid (HE5.out.trans hb); have HV6 := hid (HV5.out.trans hb); have HL6 := hid (sl_own (enc := ics) (by decide) (ics_len _) (by omega) hc); have HM6 := hid hb; clear hc hb) | (go_at_call 32; with_reducible refine (HKE.out Bw5 dw5 Bt5 dt5 Br5 dr5 L6 D6 _ (HC5.out.ev HM6.out) HL6.out).mono ?_; rintro e x7 ⟨rfl, hb⟩; have HE7 := hid (HE6.out.trans hb); have HV7 := hid (HV6.out.trans hb); clear hb; clear y0 y1 y2 y3 y4 y5 y6 y7 y8 y9; obtain ⟨y0, y1, y2, y3, y4, y5, y6, y7, y8, y9⟩ := cells10 (HV7.out.heap Q0.out)))
 go_upto_region 6 with (first | (go_at_call 21; with_reducible refine (Heap_c f Aw At Ar nw cw nt ct nr cr (by omega) (by omega) (by omega) _ (HCS.out.ev HE7.out)).mono ?_; rintro e x8 ⟨⟨Bw8, dw8, Bt8, dt8, Br8, dr8, rfl, hc⟩, hb⟩; have HE8 := hid (HE7.out.trans hb); have HV8 := hid (HV7.out.trans hb); have HC8 := hid hc; clear hc hb) | (go_at_call 23; with_reducible refine (list_c P pn pc plan (by omega) _ (HP.out.ev HE8.out)).mono ?_; rintro e x9 ⟨⟨L9, D9, rfl, hc⟩, hb⟩; have HE9 := hid (HE8.out.trans hb); have HV9 := hid (HV8.out.trans hb); have HL9 := hid (sl_own (enc := ics) (by decide) (ics_len _) (by omega) hc); have HM9 := hid hb; clear hc hb) | (go_at_call 33; with_reducible refine (HPK.out Bw8 dw8 Bt8 dt8 Br8 dr8 L9 D9 _ (HC8.out.ev HM9.out) HL9.out).mono ?_; rintro e x10 ⟨rfl, hb⟩; have HE10 := hid (HE9.out.trans hb); have HV10 := hid (HV9.out.trans hb); clear hb; clear y0 y1 y2 y3 y4 y5 y6 y7 y8 y9; obtain ⟨y0, y1, y2, y3, y4, y5, y6, y7, y8, y9⟩ := cells10 (HV10.out.heap Q0.out)))
 go_wp2_with (first | (go_at_call 34; with_reducible refine (HSU.out _ HE10.out).mono ?_; rintro e x11 ⟨⟨LB, lm, ld, rfl, hm, htl⟩, hb⟩; have HE11 := hid (HE10.out.trans hb); have HV11 := hid (HV10.out.trans hb); have HTL := hid htl; have HT11 := hid (Ev.refl x11); clear htl; clear hb; clear y0 y1 y2 y3 y4 y5 y6 y7 y8 y9; obtain ⟨y0, y1, y2, y3, y4, y5, y6, y7, y8, y9⟩ := cells10 (HV11.out.heap Q0.out)) | (go_at_call 25; with_reducible refine (HFA.out _ HE11.out).mono ?_; rintro e x12 ⟨rfl, hb⟩; have HE12 := hid (HE11.out.trans hb); have HV12 := hid (HV11.out.trans hb); have HT12 := hid hb; clear hb; clear y0 y1 y2 y3 y4 y5 y6 y7 y8 y9; obtain ⟨y0, y1, y2, y3, y4, y5, y6, y7, y8, y9⟩ := cells10 (HV12.out.heap Q0.out)) | (go_at_call 29; with_reducible refine (HIP.out _ HE12.out).mono ?_; rintro e x13 ⟨rfl, hb⟩; have HE13 := hid (HE12.out.trans hb); have HV13 := hid (HV12.out.trans hb); have HT13 := hid (HT12.out.trans hb); clear hb; clear y0 y1 y2 y3 y4 y5 y6 y7 y8 y9; obtain ⟨y0, y1, y2, y3, y4, y5, y6, y7, y8, y9⟩ := cells10 (HV13.out.heap Q0.out)) | (go_at_call 19; with_reducible refine (awake_c _).mono ?_; rintro e w99 ⟨rfl, hb99⟩) | (with_reducible refine ⟨trivial, ?_⟩))
 go_ret
 exact ⟨rfl, HE13.out.trans hb99⟩

set_option maxRecDepth 100000 in
set_option maxHeartbeats 8000000 in
theorem couchBounds_d (f : M.Cf) (Aw At Ar : Option Addr) (nw cw nt ct nr cr : Nat) (P : Option Addr) (pn pc : Nat) (plan : List Int) (hl0 : -9223372036854775808 ≤ f.last) (w : World) (HCS : Hid (CS w w.heap.size f Aw At Ar nw cw nt ct nr cr)) (HP : Hid (Sl ics 1 w w.heap.size P pn pc plan)) (hsm : M.small nw nt nr) (hthin : (decide (M.small nw nt nr) && M.thin f) = true) (q2 : pn ≤ 14) (h0 : M.check f = 0) (hpl : M.isTurns f plan = true) (ht : M.truths f ≠ []) :
  Calls Try.prog 4 #[.agg #[.int .i64 f.last, .int .i64 f.size, .int .i64 f.cool, .int .i64 f.die, .int .i64 f.burn, .int .i64 f.st.lo, .int .i64 f.st.hi, .slice Aw nw cw, .slice At nt ct, .slice Ar nr cr], .slice P pn pc] w fun e w' => e = .returned (.bool true) ∧ Ev w w' := by
 have q2a : ¬ ((pn : Int) > 14) := by omega
 obtain ⟨s0, s1, s2⟩ := hsm
 have HTH := hid (fun W (hE : Ev w W) => by have := Thin_c f Aw At Ar nw cw nt ct nr cr hl0 W (fun _ => HCS.out.ev hE); rw [hthin] at this; exact this)
 have HFA := hid (fun W (hE : Ev w W) => fault_c f Aw At Ar nw cw nt ct nr cr hl0 W (HCS.out.ev hE))
 have HSU := hid (fun W (hE : Ev w W) => sure_c f Aw At Ar nw cw nt ct nr cr hl0 W (HCS.out.ev hE))
 have HIP := hid (fun W (hE : Ev w W) => rIsTurns_c f Aw At Ar nw cw nt ct nr cr P pn pc plan W (HP.out.ev hE))
 have hbg : M.begin f (M.isTurns f plan) = 0 := by unfold M.begin; rw [if_neg (by simp [h0]), hpl, if_neg (by simp), if_neg ht]
 have hbt : M.begin f true = 0 := by rw [← hpl]; exact hbg
 have hv := (M.check0 h0).2.2.1
 have hwl := HCS.out.w_.len
 have hlw := (M.valid_parts hv).2.2.2.2.2.1
 have HBO := hid (fun (Bw : Option Addr) (dw : Nat) (Bt : Option Addr) (dt : Nat) (Br : Option Addr) (dr : Nat) (L : Option Addr) (d : Nat) W (h : CS W W.heap.size f Bw Bt Br nw dw nt dt nr dr) (h3 : Sl ics 1 W W.heap.size L pn d plan) => Bounds_ok f Bw Bt Br nw dw nt dt nr dr L pn d plan hl0 W h h3 hbg)
 have HKE := hid (fun (Bw : Option Addr) (dw : Nat) (Bt : Option Addr) (dt : Nat) (Br : Option Addr) (dr : Nat) (L : Option Addr) (d : Nat) W (h : CS W W.heap.size f Bw Bt Br nw dw nt dt nr dr) (h3 : Sl ics 1 W W.heap.size L pn d plan) => Keeps_ok f Bw Bt Br nw dw nt dt nr dr L pn d plan hl0 W h h3 hbg)
 have HPK := hid (fun (Bw : Option Addr) (dw : Nat) (Bt : Option Addr) (dt : Nat) (Br : Option Addr) (dr : Nat) (L : Option Addr) (d : Nat) W (h : CS W W.heap.size f Bw Bt Br nw dw nt dt nr dr) (h3 : Sl ics 1 W W.heap.size L pn d plan) => ProveKeeps_ok f Bw Bt Br nw dw nt dt nr dr L pn d plan hl0 W h h3 hbg)
 have HRK := hid (fun L ln lc W (hE : Ev w W) (hl : TL W L ln lc (M.rtr f)) => by have := rKeeps_c f Aw At Ar nw cw nt ct nr cr L ln lc (M.rtr f) P pn pc plan h0 (M.rtr_listed h0) W (HCS.out.ev hE) hl (HP.out.ev hE); rw [M.keeps_is h0] at this; exact this)
 have hk1 := M.keeps_one f (M.truths f) plan
 have HXN := hid (fun (i : Nat) (x : M.Rg) (hi : i < nw) (hx : (M.bounds f (M.truths f) plan)[i]? = some x) => show x = M.bdR f (M.rtr f) plan i by
  rw [M.bd_is h0 ht plan (by omega)]
  unfold M.bounds at hx
  rw [List.getElem?_map, List.getElem?_range (by omega)] at hx
  exact (Option.some.inj hx).symm)
 have HBX := hid (fun (i : Nat) (hi : i < nw) L ln lc W (hE : Ev w W) (hl : TL W L ln lc (M.rtr f)) => rBounds_c f Aw At Ar nw cw nt ct nr cr L ln lc (M.rtr f) P pn pc plan i hi h0 (M.rtr_listed h0) W (HCS.out.ev hE) hl (HP.out.ev hE))
 generalize M.keepsOf f (M.truths f) plan = kv at HKE HRK hk1
 have hall : ((M.truths f).all fun t => M.stays f t plan) = (kv == 1) := hk1.symm
 rw [hall] at HPK
 have c1_ : (kv != kv) = false := by simp
 have c2_ : ((kv == 1) != (kv == 1)) = false := by simp
 have g6_ : IntKind.i64.wrap (f.last + 1) = f.last + 1 := IntWalk.i64_in _ (by have := (M.check0 h0).1; omega)
 have c6_ : ((nw : Int) != f.last + 1) = false := by simp; omega
 rw [hpl] at HIP
 rw [h0] at HFA
 rw [hbt] at HSU
 clear h0 hbg hbt hpl ht hv hk1 hall hwl hlw hthin
 go_enter Try.func4, Try.ntmps4
 go_upto_region 3 with (first | (go_at_call 18; with_reducible refine (HTH.out _ (Ev.alloc (Ev.refl _) _)).mono ?_; rintro e w1 ⟨rfl, hb1⟩; have hG : Ev w w1 := (Ev.alloc (Ev.refl _) _).trans hb1; have Q0 := hid (hb1.heap (alloc1 w (.cells #[.int .i64 f.last, .int .i64 f.size, .int .i64 f.cool, .int .i64 f.die, .int .i64 f.burn, .int .i64 f.st.lo, .int .i64 f.st.hi, .slice Aw nw cw, .slice At nt ct, .slice Ar nr cr] 28)).1); obtain ⟨y0, y1, y2, y3, y4, y5, y6, y7, y8, y9⟩ := cells10 Q0.out) | (with_reducible refine ⟨trivial, ?_⟩))
 go_upto_region 4 with (first | (go_at_call 21; with_reducible refine (Heap_c f Aw At Ar nw cw nt ct nr cr (by omega) (by omega) (by omega) _ (HCS.out.ev hG)).mono ?_; rintro e x2 ⟨⟨Bw2, dw2, Bt2, dt2, Br2, dr2, rfl, hc⟩, hb⟩; have HE2 := hid (hG.trans hb); have HV2 := hid (hb); have HC2 := hid hc; clear hc hb) | (go_at_call 23; with_reducible refine (list_c P pn pc plan (by omega) _ (HP.out.ev HE2.out)).mono ?_; rintro e x3 ⟨⟨L3, D3, rfl, hc⟩, hb⟩; have HE3 := hid (HE2.out.trans hb); have HV3 := hid (HV2.out.trans hb); have HL3 := hid (sl_own (enc := ics) (by decide) (ics_len _) (by omega) hc); have HM3 := hid hb; clear hc hb) | (go_at_call 31; with_reducible refine (HBO.out Bw2 dw2 Bt2 dt2 Br2 dr2 L3 D3 _ (HC2.out.ev HM3.out) HL3.out).mono ?_; rintro e x4 ⟨⟨BB, dB, rfl, hbb⟩, hb⟩; have HE4 := hid (HE3.out.trans hb); have HV4 := hid (HV3.out.trans hb); have HR4 := hid (Ev.refl x4); have HRB := hid hbb; clear hbb; clear hb; clear y0 y1 y2 y3 y4 y5 y6 y7 y8 y9; obtain ⟨y0, y1, y2, y3, y4, y5, y6, y7, y8, y9⟩ := cells10 (HV4.out.heap Q0.out)))
 go_upto_region 5 with (first | (go_at_call 21; with_reducible refine (Heap_c f Aw At Ar nw cw nt ct nr cr (by omega) (by omega) (by omega) _ (HCS.out.ev HE4.out)).mono ?_; rintro e x5 ⟨⟨Bw5, dw5, Bt5, dt5, Br5, dr5, rfl, hc⟩, hb⟩; have HE5 := hid (HE4.out.trans hb); have HV5 := hid (HV4.out.trans hb); have HR5 := hid (HR4.out.trans hb); have HC5 := hid hc; clear hc hb) | (go_at_call 23; with_reducible refine (list_c P pn pc plan (by omega) _ (HP.out.ev HE5.out)).mono ?_; rintro e x6 ⟨⟨L6, D6, rfl, hc⟩, hb⟩; have HE6 := hid (HE5.out.trans hb); have HV6 := hid (HV5.out.trans hb); have HR6 := hid (HR5.out.trans hb); have HL6 := hid (sl_own (enc := ics) (by decide) (ics_len _) (by omega) hc); have HM6 := hid hb; clear hc hb) | (go_at_call 32; with_reducible refine (HKE.out Bw5 dw5 Bt5 dt5 Br5 dr5 L6 D6 _ (HC5.out.ev HM6.out) HL6.out).mono ?_; rintro e x7 ⟨rfl, hb⟩; have HE7 := hid (HE6.out.trans hb); have HV7 := hid (HV6.out.trans hb); have HR7 := hid (HR6.out.trans hb); clear hb; clear y0 y1 y2 y3 y4 y5 y6 y7 y8 y9; obtain ⟨y0, y1, y2, y3, y4, y5, y6, y7, y8, y9⟩ := cells10 (HV7.out.heap Q0.out)))
 go_upto_region 6 with (first | (go_at_call 21; with_reducible refine (Heap_c f Aw At Ar nw cw nt ct nr cr (by omega) (by omega) (by omega) _ (HCS.out.ev HE7.out)).mono ?_; rintro e x8 ⟨⟨Bw8, dw8, Bt8, dt8, Br8, dr8, rfl, hc⟩, hb⟩; have HE8 := hid (HE7.out.trans hb); have HV8 := hid (HV7.out.trans hb); have HR8 := hid (HR7.out.trans hb); have HC8 := hid hc; clear hc hb) | (go_at_call 23; with_reducible refine (list_c P pn pc plan (by omega) _ (HP.out.ev HE8.out)).mono ?_; rintro e x9 ⟨⟨L9, D9, rfl, hc⟩, hb⟩; have HE9 := hid (HE8.out.trans hb); have HV9 := hid (HV8.out.trans hb); have HR9 := hid (HR8.out.trans hb); have HL9 := hid (sl_own (enc := ics) (by decide) (ics_len _) (by omega) hc); have HM9 := hid hb; clear hc hb) | (go_at_call 33; with_reducible refine (HPK.out Bw8 dw8 Bt8 dt8 Br8 dr8 L9 D9 _ (HC8.out.ev HM9.out) HL9.out).mono ?_; rintro e x10 ⟨rfl, hb⟩; have HE10 := hid (HE9.out.trans hb); have HV10 := hid (HV9.out.trans hb); have HR10 := hid (HR9.out.trans hb); clear hb; clear y0 y1 y2 y3 y4 y5 y6 y7 y8 y9; obtain ⟨y0, y1, y2, y3, y4, y5, y6, y7, y8, y9⟩ := cells10 (HV10.out.heap Q0.out)))
 go_upto_region 9 with (first | (go_at_call 34; with_reducible refine (HSU.out _ HE10.out).mono ?_; rintro e x11 ⟨⟨LB, lm, ld, rfl, hm, htl⟩, hb⟩; have HE11 := hid (HE10.out.trans hb); have HV11 := hid (HV10.out.trans hb); have HR11 := hid (HR10.out.trans hb); have HTL := hid htl; have HT11 := hid (Ev.refl x11); clear htl; clear hb; clear y0 y1 y2 y3 y4 y5 y6 y7 y8 y9; obtain ⟨y0, y1, y2, y3, y4, y5, y6, y7, y8, y9⟩ := cells10 (HV11.out.heap Q0.out)) | (go_at_call 25; with_reducible refine (HFA.out _ HE11.out).mono ?_; rintro e x12 ⟨rfl, hb⟩; have HE12 := hid (HE11.out.trans hb); have HV12 := hid (HV11.out.trans hb); have HR12 := hid (HR11.out.trans hb); have HT12 := hid hb; clear hb; clear y0 y1 y2 y3 y4 y5 y6 y7 y8 y9; obtain ⟨y0, y1, y2, y3, y4, y5, y6, y7, y8, y9⟩ := cells10 (HV12.out.heap Q0.out)) | (go_at_call 29; with_reducible refine (HIP.out _ HE12.out).mono ?_; rintro e x13 ⟨rfl, hb⟩; have HE13 := hid (HE12.out.trans hb); have HV13 := hid (HV12.out.trans hb); have HR13 := hid (HR12.out.trans hb); have HT13 := hid (HT12.out.trans hb); clear hb; clear y0 y1 y2 y3 y4 y5 y6 y7 y8 y9; obtain ⟨y0, y1, y2, y3, y4, y5, y6, y7, y8, y9⟩ := cells10 (HV13.out.heap Q0.out)) | (with_reducible refine ⟨trivial, ?_⟩))
 replace HTL := hid (HTL.out (by first | exact trivial | rfl))
 go_upto_region 15 with (first | (go_at_call 35; with_reducible refine (HRK.out LB lm ld _ HE13.out (HTL.out.ev HT13.out)).mono ?_; rintro e x14 ⟨rfl, hb⟩; have HE14 := hid (HE13.out.trans hb); have HV14 := hid (HV13.out.trans hb); have HR14 := hid (HR13.out.trans hb); have HT14 := hid (HT13.out.trans hb); clear hb; clear y0 y1 y2 y3 y4 y5 y6 y7 y8 y9; obtain ⟨y0, y1, y2, y3, y4, y5, y6, y7, y8, y9⟩ := cells10 (HV14.out.heap Q0.out)) | (with_reducible refine ⟨trivial, ?_⟩))
 clear y0 y1 y2 y3 y4 y5 y6 y7 y8 y9
 go_loopw [13] (fun i wr => ∃ k : Nat, i = .int .i64 k ∧ k ≤ nw ∧ Ev x14 wr) (fun i _ => nw - (intOf i).toNat)
 case atStart => exact ⟨0, rfl, by omega, Ev.refl _⟩
 case round =>
  obtain ⟨k, rfl, hk, hB⟩ := hrel
  obtain ⟨W1, hW1⟩ : ∃ x, x = wr := ⟨_, rfl⟩
  subst hW1
  obtain ⟨y0, y1, y2, y3, y4, y5, y6, y7, y8, y9⟩ := cells10 (hB.heap (HV14.out.heap Q0.out))
  have l0 := heap_lt (hB.heap (HV14.out.heap Q0.out))
  have hBs := hB.size
  by_cases hlt : k < nw
  ·
   obtain ⟨bl, ol, x, hA, hbl, hx, _, hcc⟩ := (HRB.out.ev HR14.out).at_ hB hlt
   have hxx := HXN.out k x hlt hx
   have HBR := hid (fun L ln lc W hE hl => HBX.out k hlt L ln lc W hE hl)
   rw [← hxx] at HBR
   have e0 := hcc 0 _ rfl
   have e1 := hcc 1 _ rfl
   simp only [Nat.add_zero] at e0
   have hcap := HRB.out.cap
   have lbl : bl < W1.heap.size := by omega
   subst hA
   clear hx hxx hcc
   obtain ⟨r, hr⟩ : ∃ r, r = x := ⟨_, rfl⟩
   subst hr
   have HSE : Hid (∀ w', Ev W1 w' → (∀ o, w'.cell? ⟨w.heap.size, o, none⟩ = W1.cell? ⟨w.heap.size, o, none⟩) ∧ (∀ o, w'.cell? ⟨bl, o, none⟩ = W1.cell? ⟨bl, o, none⟩)) := hid (fun w' h => ⟨fun o => h.cells.1 _ o l0, fun o => h.cells.1 _ o lbl⟩)
   go_upto_region 17 with fail
   refine wp_region_held_drew (S := fun w' => (∀ o, w'.cell? ⟨w.heap.size, o, none⟩ = W1.cell? ⟨w.heap.size, o, none⟩) ∧ (∀ o, w'.cell? ⟨bl, o, none⟩ = W1.cell? ⟨bl, o, none⟩)) (by kernel_rfl) (⟨fun o => rfl, fun o => rfl⟩) (fun hHeld => ?_)
   refine tkH 0 (some 119) ?_
   (try simp only [Act.put, sA, sB, sC])
   refine tkH 1 (some 120) ?_
   (try simp only [Act.put, sA, sB, sC])
   refine tkH 2 (some 121) ?_
   (try simp only [Act.put, sA, sB, sC])
   refine tkH 3 (some 122) ?_
   (try simp only [Act.put, sA, sB, sC])
   refine tkH 4 (some 123) ?_
   (try simp only [Act.put, sA, sB, sC])
   refine tkH 5 (some 124) ?_
   (try simp only [Act.put, sA, sB, sC])
   refine tkH 6 (some 125) ?_
   (try simp only [Act.put, sA, sB, sC])
   refine tkH 7 (some 126) ?_
   (try simp only [Act.put, sA, sB, sC])
   refine wpAnyH_one (i := 8) rfl (by kernel_rfl) (by rfl) (fun K hK => ?_)
   go_simp
   refine (HBR.out LB lm ld _ (HE14.out.trans (hB.trans (Ev.drew (Ev.refl _)))) (HTL.out.ev (HT14.out.trans (hB.trans (Ev.drew (Ev.refl _)))))).mono ?_
   rintro e z8 ⟨rfl, hb8⟩
   have hy8 : Ev W1 z8 := Ev.trans (Ev.drew (Ev.refl _)) hb8
   refine hK.out _ _ (HSE.out _ hy8) (fun hHeld => ?_)
   clear hK K
   (try simp only [Act.put, sA, sB, sC])
   refine wpAnyH_one (i := 9) rfl (by kernel_rfl) (by rfl) (fun K hK => ?_)
   go_simp
   refine (to_c r _).mono ?_
   rintro e z9 ⟨rfl, hb9⟩
   have hy9 : Ev W1 z9 := Ev.trans hy8 hb9
   refine hK.out _ _ (HSE.out _ hy9) (fun hHeld => ?_)
   clear hK K
   (try simp only [Act.put, sA, sB, sC])
   refine tkH 10 (some 129) ?_
   (try simp only [Act.put, sA, sB, sC])
   refine wpAnyH_done (by kernel_rfl) ?_ _
   go_wp2
   exact ⟨⟨k + 1, by go_num, by omega, hB.trans hy9⟩, by simp [intOf]; omega⟩
  ·
   have hn : ¬ ((k : Int) < nw) := by omega
   go_wp2_with (go_at_call 19; with_reducible refine (awake_c _).mono ?_; rintro e w99 ⟨rfl, hb99⟩)
   go_ret
   exact ⟨rfl, (HE14.out.trans hB).trans hb99⟩

theorem couchBounds_c (f : M.Cf) (Aw At Ar : Option Addr) (nw cw nt ct nr cr : Nat) (P : Option Addr) (pn pc : Nat) (plan : List Int) (hl0 : -9223372036854775808 ≤ f.last) (w : World) (hs : M.small nw nt nr → CS w w.heap.size f Aw At Ar nw cw nt ct nr cr) (hp : pn ≤ 1099511627776 → Sl ics 1 w w.heap.size P pn pc plan) :
  Calls Try.prog 4 #[.agg #[.int .i64 f.last, .int .i64 f.size, .int .i64 f.cool, .int .i64 f.die, .int .i64 f.burn, .int .i64 f.st.lo, .int .i64 f.st.hi, .slice Aw nw cw, .slice At nt ct, .slice Ar nr cr], .slice P pn pc] w fun e w' => e = .returned (.bool true) ∧ Ev w w' := by
 by_cases hno : (decide (M.small nw nt nr) && M.thin f) = true ∧ pn ≤ 14
 ·
  obtain ⟨hth, q2⟩ := hno
  have hsm : M.small nw nt nr := by
   rw [Bool.and_eq_true, decide_eq_true_eq] at hth
   exact hth.1
  have a1 := hid (hs hsm)
  have a4 := hid (hp (by omega))
  by_cases h0 : M.check f = 0
  ·
   cases hpl : M.isTurns f plan with
   | false => exact couchBounds_b f Aw At Ar nw cw nt ct nr cr P pn pc plan hl0 w a1 a4 hsm hth q2 h0 hpl
   | true =>
    by_cases ht : M.truths f = []
    ·
     exact couchBounds_c1 f Aw At Ar nw cw nt ct nr cr P pn pc plan hl0 w a1 a4 hsm hth q2 h0 hpl ht
    ·
     exact couchBounds_d f Aw At Ar nw cw nt ct nr cr P pn pc plan hl0 w a1 a4 hsm hth q2 h0 hpl ht
  ·
   exact couchBounds_a f Aw At Ar nw cw nt ct nr cr P pn pc plan hl0 w a1 a4 hsm hth q2 h0
 ·
  exact couchBounds_no f Aw At Ar nw cw nt ct nr cr P pn pc plan hl0 w hs hno

end Go.Proofs.Ytgimcephbeajlaa
