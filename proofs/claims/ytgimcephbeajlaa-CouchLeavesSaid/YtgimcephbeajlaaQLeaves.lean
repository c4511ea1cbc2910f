import Derived.Test.YtgimcephbeajlaaC35
import Derived.Test.YtgimcephbeajlaaC27
import Derived.Test.YtgimcephbeajlaaC23
import Derived.Test.YtgimcephbeajlaaC24
set_option linter.unusedSimpArgs false
set_option linter.unusedVariables false
namespace Go.Proofs.Ytgimcephbeajlaa
open Go.RowKit Go.Shelf

set_option maxRecDepth 100000 in
set_option maxHeartbeats 2000000 in
theorem couchLeaves_no (f : M.Cf) (Aw At Ar : Option Addr) (nw cw nt ct nr cr : Nat) (hl0 : -9223372036854775808 ≤ f.last) (w : World) (hs : M.small nw nt nr → CS w w.heap.size f Aw At Ar nw cw nt ct nr cr) (hthin : (decide (M.small nw nt nr) && M.thin f) = false) :
  Calls Try.prog 6 #[.agg #[.int .i64 f.last, .int .i64 f.size, .int .i64 f.cool, .int .i64 f.die, .int .i64 f.burn, .int .i64 f.st.lo, .int .i64 f.st.hi, .slice Aw nw cw, .slice At nt ct, .slice Ar nr cr]] w fun e w' => e = .returned (.bool true) ∧ Ev w w' := by
 have HTH := hid (fun W (hE : Ev w W) => by have := Thin_c f Aw At Ar nw cw nt ct nr cr hl0 W (fun h => (hs h).ev hE); rw [hthin] at this; exact this)
 clear hs hthin
 go_enter Try.func6, Try.ntmps6
 go_wp2_with (first | (go_at_call 18; with_reducible refine (HTH.out _ (Ev.alloc (Ev.refl _) _)).mono ?_; rintro e w1 ⟨rfl, hb1⟩; have hG : Ev w w1 := (Ev.alloc (Ev.refl _) _).trans hb1; have Q0 := hid (hb1.heap (alloc1 w (.cells #[.int .i64 f.last, .int .i64 f.size, .int .i64 f.cool, .int .i64 f.die, .int .i64 f.burn, .int .i64 f.st.lo, .int .i64 f.st.hi, .slice Aw nw cw, .slice At nt ct, .slice Ar nr cr] 28)).1); obtain ⟨y0, y1, y2, y3, y4, y5, y6, y7, y8, y9⟩ := cells10 Q0.out) | (go_at_call 19; with_reducible refine (awake_c _).mono ?_; rintro e w99 ⟨rfl, hb99⟩) | (with_reducible refine ⟨trivial, ?_⟩))
 go_ret
 exact ⟨rfl, hG.trans hb99⟩

set_option maxRecDepth 100000 in
set_option maxHeartbeats 8000000 in
theorem couchLeaves_a (f : M.Cf) (Aw At Ar : Option Addr) (nw cw nt ct nr cr : Nat) (hl0 : -9223372036854775808 ≤ f.last) (w : World) (HCS : Hid (CS w w.heap.size f Aw At Ar nw cw nt ct nr cr)) (hsm : M.small nw nt nr) (hthin : (decide (M.small nw nt nr) && M.thin f) = true) (h0 : M.check f ≠ 0) :
  Calls Try.prog 6 #[.agg #[.int .i64 f.last, .int .i64 f.size, .int .i64 f.cool, .int .i64 f.die, .int .i64 f.burn, .int .i64 f.st.lo, .int .i64 f.st.hi, .slice Aw nw cw, .slice At nt ct, .slice Ar nr cr]] w fun e w' => e = .returned (.bool true) ∧ Ev w w' := by
 obtain ⟨s0, s1, s2⟩ := hsm
 have HTH := hid (fun W (hE : Ev w W) => by have := Thin_c f Aw At Ar nw cw nt ct nr cr hl0 W (fun _ => HCS.out.ev hE); rw [hthin] at this; exact this)
 have HFA := hid (fun W (hE : Ev w W) => fault_c f Aw At Ar nw cw nt ct nr cr hl0 W (HCS.out.ev hE))
 have HFI := hid (fun (Bw : Option Addr) (dw : Nat) (Bt : Option Addr) (dt : Nat) (Br : Option Addr) (dr : Nat) W (h : CS W W.heap.size f Bw Bt Br nw dw nt dt nr dr) => by have := First_c f Bw Bt Br nw dw nt dt nr dr hl0 W h; rw [show M.wrong f = (0, M.check f) from by unfold M.wrong; rw [if_neg h0]] at this; exact this)
 have HLV := hid (fun (Bw : Option Addr) (dw : Nat) (Bt : Option Addr) (dt : Nat) (Br : Option Addr) (dr : Nat) W (h : CS W W.heap.size f Bw Bt Br nw dw nt dt nr dr) => Leave_err f Bw Bt Br nw dw nt dt nr dr hl0 W h h0)
 have hec := h0
 generalize M.check f = ec at HFI HFA HLV hec
 have c1_ : (ec == 0) = false := by simpa using hec
 have c2_ : (ec != 0) = true := by simpa using hec
 have c3_ : (ec != ec) = false := by simp
 have c4_ : (ec == ec) = true := by simp
 clear h0 hec
 clear hthin
 go_enter Try.func6, Try.ntmps6
 go_upto_region 3 with (first | (go_at_call 18; with_reducible refine (HTH.out _ (Ev.alloc (Ev.refl _) _)).mono ?_; rintro e w1 ⟨rfl, hb1⟩; have hG : Ev w w1 := (Ev.alloc (Ev.refl _) _).trans hb1; have Q0 := hid (hb1.heap (alloc1 w (.cells #[.int .i64 f.last, .int .i64 f.size, .int .i64 f.cool, .int .i64 f.die, .int .i64 f.burn, .int .i64 f.st.lo, .int .i64 f.st.hi, .slice Aw nw cw, .slice At nt ct, .slice Ar nr cr] 28)).1); obtain ⟨y0, y1, y2, y3, y4, y5, y6, y7, y8, y9⟩ := cells10 Q0.out) | (with_reducible refine ⟨trivial, ?_⟩))
 go_upto_region 5 with (first | (go_at_call 21; with_reducible refine (Heap_c f Aw At Ar nw cw nt ct nr cr (by omega) (by omega) (by omega) _ (HCS.out.ev hG)).mono ?_; rintro e x2 ⟨⟨Bw2, dw2, Bt2, dt2, Br2, dr2, rfl, hc⟩, hb⟩; have HE2 := hid (hG.trans hb); have HV2 := hid (hb); have HC2 := hid hc; clear hc hb) | (go_at_call 40; with_reducible refine (HFI.out Bw2 dw2 Bt2 dt2 Br2 dr2 _ HC2.out).mono ?_; rintro e x3 ⟨rfl, hb⟩; have HE3 := hid (HE2.out.trans hb); have HV3 := hid (HV2.out.trans hb); clear hb; clear y0 y1 y2 y3 y4 y5 y6 y7 y8 y9; obtain ⟨y0, y1, y2, y3, y4, y5, y6, y7, y8, y9⟩ := cells10 (HV3.out.heap Q0.out)) | (go_at_call 21; with_reducible refine (Heap_c f Aw At Ar nw cw nt ct nr cr (by omega) (by omega) (by omega) _ (HCS.out.ev HE3.out)).mono ?_; rintro e x4 ⟨⟨Bw4, dw4, Bt4, dt4, Br4, dr4, rfl, hc⟩, hb⟩; have HE4 := hid (HE3.out.trans hb); have HV4 := hid (HV3.out.trans hb); have HC4 := hid hc; clear hc hb) | (go_at_call 41; with_reducible refine (HLV.out Bw4 dw4 Bt4 dt4 Br4 dr4 _ HC4.out).mono ?_; rintro e x5 ⟨rfl, hb⟩; have HE5 := hid (HE4.out.trans hb); have HV5 := hid (HV4.out.trans hb); clear hb; clear y0 y1 y2 y3 y4 y5 y6 y7 y8 y9; obtain ⟨y0, y1, y2, y3, y4, y5, y6, y7, y8, y9⟩ := cells10 (HV5.out.heap Q0.out)))
 go_wp2_with (first | (go_at_call 25; with_reducible refine (HFA.out _ HE5.out).mono ?_; rintro e x6 ⟨rfl, hb⟩; have HE6 := hid (HE5.out.trans hb); have HV6 := hid (HV5.out.trans hb); have HX6 := hid hb; clear hb; clear y0 y1 y2 y3 y4 y5 y6 y7 y8 y9; obtain ⟨y0, y1, y2, y3, y4, y5, y6, y7, y8, y9⟩ := cells10 (HV6.out.heap Q0.out)) | (go_at_call 19; with_reducible refine (awake_c _).mono ?_; rintro e w99 ⟨rfl, hb99⟩) | (with_reducible refine ⟨trivial, ?_⟩))
 go_ret
 exact ⟨rfl, HE6.out.trans hb99⟩

set_option maxRecDepth 100000 in
set_option maxHeartbeats 8000000 in
theorem couchLeaves_b (f : M.Cf) (Aw At Ar : Option Addr) (nw cw nt ct nr cr : Nat) (hl0 : -9223372036854775808 ≤ f.last) (w : World) (HCS : Hid (CS w w.heap.size f Aw At Ar nw cw nt ct nr cr)) (hsm : M.small nw nt nr) (hthin : (decide (M.small nw nt nr) && M.thin f) = true) (h0 : M.check f = 0) (hrf : M.rfirst (M.rall f) 0 nr < 0) (hw : M.wrong f = (0, 7)) :
  Calls Try.prog 6 #[.agg #[.int .i64 f.last, .int .i64 f.size, .int .i64 f.cool, .int .i64 f.die, .int .i64 f.burn, .int .i64 f.st.lo, .int .i64 f.st.hi, .slice Aw nw cw, .slice At nt ct, .slice Ar nr cr]] w fun e w' => e = .returned (.bool true) ∧ Ev w w' := by
 obtain ⟨s0, s1, s2⟩ := hsm
 have HTH := hid (fun W (hE : Ev w W) => by have := Thin_c f Aw At Ar nw cw nt ct nr cr hl0 W (fun _ => HCS.out.ev hE); rw [hthin] at this; exact this)
 have HFA := hid (fun W (hE : Ev w W) => fault_c f Aw At Ar nw cw nt ct nr cr hl0 W (HCS.out.ev hE))
 have HFI := hid (fun (Bw : Option Addr) (dw : Nat) (Bt : Option Addr) (dt : Nat) (Br : Option Addr) (dr : Nat) W (h : CS W W.heap.size f Bw Bt Br nw dw nt dt nr dr) => by have := First_c f Bw Bt Br nw dw nt dt nr dr hl0 W h; rw [hw] at this; exact this)
 have hln := HCS.out.r.len
 have hl5 : nr ≤ 5 := by rw [← hln]; exact (M.check0 h0).2.1
 have HLV := hid (fun (Bw : Option Addr) (dw : Nat) (Bt : Option Addr) (dt : Nat) (Br : Option Addr) (dr : Nat) W (h : CS W W.heap.size f Bw Bt Br nw dw nt dt nr dr) => Leave_ok f Bw Bt Br nw dw nt dt nr dr hl0 W h h0)
 have HAL := hid (fun W (hE : Ev w W) => All_c f Aw At Ar nw cw nt ct nr cr h0 W (HCS.out.ev hE))
 have HLR := hid (fun B m d W (h : Sl ncs 1 W W.heap.size B m d (M.rall f)) => rLeave_c f Aw At Ar nw cw nt ct nr cr h0 B m d W hln h)
 have HRF := hid (fun B m d W (h : Sl ncs 1 W W.heap.size B m d (M.rall f)) => rFirst_c f Aw At Ar nw cw nt ct nr cr hl5 B m d (M.rall f) (M.rall_small h0) W h)
 rw [h0] at HFA
 have hfc := M.first_is h0
 rw [hln] at hfc
 generalize M.rall f = all at HAL HLR HRF hfc hrf
 generalize M.shortest (M.spares f) nr = best at HLV HLR
 have HII := hid (fun B1 d1 B2 d2 W (h1 : Sl ics 1 W W.heap.size B1 best.length d1 best) (h2 : Sl ics 1 W W.heap.size B2 best.length d2 best) => by have := ints_c B1 B2 best.length d1 best.length d2 best best W h1 h2; rw [decide_eq_true (rfl : best = best)] at this; exact this)
 generalize M.rfirst all 0 nr = rf at HRF hfc hrf
 have c1_ : ¬ (rf ≥ 0) := by omega
 have c2_ : ¬ ((0 : Int) ≤ rf) := by omega
 clear h0 hw hfc hln
 clear hthin
 go_enter Try.func6, Try.ntmps6
 go_upto_region 3 with (first | (go_at_call 18; with_reducible refine (HTH.out _ (Ev.alloc (Ev.refl _) _)).mono ?_; rintro e w1 ⟨rfl, hb1⟩; have hG : Ev w w1 := (Ev.alloc (Ev.refl _) _).trans hb1; have Q0 := hid (hb1.heap (alloc1 w (.cells #[.int .i64 f.last, .int .i64 f.size, .int .i64 f.cool, .int .i64 f.die, .int .i64 f.burn, .int .i64 f.st.lo, .int .i64 f.st.hi, .slice Aw nw cw, .slice At nt ct, .slice Ar nr cr] 28)).1); obtain ⟨y0, y1, y2, y3, y4, y5, y6, y7, y8, y9⟩ := cells10 Q0.out) | (with_reducible refine ⟨trivial, ?_⟩))
 go_upto_region 5 with (first | (go_at_call 21; with_reducible refine (Heap_c f Aw At Ar nw cw nt ct nr cr (by omega) (by omega) (by omega) _ (HCS.out.ev hG)).mono ?_; rintro e x2 ⟨⟨Bw2, dw2, Bt2, dt2, Br2, dr2, rfl, hc⟩, hb⟩; have HE2 := hid (hG.trans hb); have HV2 := hid (hb); have HC2 := hid hc; clear hc hb) | (go_at_call 40; with_reducible refine (HFI.out Bw2 dw2 Bt2 dt2 Br2 dr2 _ HC2.out).mono ?_; rintro e x3 ⟨rfl, hb⟩; have HE3 := hid (HE2.out.trans hb); have HV3 := hid (HV2.out.trans hb); clear hb; clear y0 y1 y2 y3 y4 y5 y6 y7 y8 y9; obtain ⟨y0, y1, y2, y3, y4, y5, y6, y7, y8, y9⟩ := cells10 (HV3.out.heap Q0.out)) | (go_at_call 21; with_reducible refine (Heap_c f Aw At Ar nw cw nt ct nr cr (by omega) (by omega) (by omega) _ (HCS.out.ev HE3.out)).mono ?_; rintro e x4 ⟨⟨Bw4, dw4, Bt4, dt4, Br4, dr4, rfl, hc⟩, hb⟩; have HE4 := hid (HE3.out.trans hb); have HV4 := hid (HV3.out.trans hb); have HC4 := hid hc; clear hc hb) | (go_at_call 41; with_reducible refine (HLV.out Bw4 dw4 Bt4 dt4 Br4 dr4 _ HC4.out).mono ?_; rintro e x5 ⟨⟨BT, dT, rfl, ht⟩, hb⟩; have HE5 := hid (HE4.out.trans hb); have HV5 := hid (HV4.out.trans hb); have HT5 := hid ht; have HX5 := hid (Ev.refl x5); clear ht; clear hb; clear y0 y1 y2 y3 y4 y5 y6 y7 y8 y9; obtain ⟨y0, y1, y2, y3, y4, y5, y6, y7, y8, y9⟩ := cells10 (HV5.out.heap Q0.out)))
 go_wp2_with (first | (go_at_call 25; with_reducible refine (HFA.out _ HE5.out).mono ?_; rintro e x6 ⟨rfl, hb⟩; have HE6 := hid (HE5.out.trans hb); have HV6 := hid (HV5.out.trans hb); have HX6 := hid hb; clear hb; clear y0 y1 y2 y3 y4 y5 y6 y7 y8 y9; obtain ⟨y0, y1, y2, y3, y4, y5, y6, y7, y8, y9⟩ := cells10 (HV6.out.heap Q0.out)) | (go_at_call 42; with_reducible refine (HAL.out _ HE6.out).mono ?_; rintro e x7 ⟨⟨BA, mA, dA, rfl, ha⟩, hb⟩; have HE7 := hid (HE6.out.trans hb); have HV7 := hid (HV6.out.trans hb); have HX7 := hid (HX6.out.trans hb); have HA7 := hid ha; clear ha; clear hb; clear y0 y1 y2 y3 y4 y5 y6 y7 y8 y9; obtain ⟨y0, y1, y2, y3, y4, y5, y6, y7, y8, y9⟩ := cells10 (HV7.out.heap Q0.out)) | (go_at_call 44; with_reducible refine (HLR.out BA mA dA _ HA7.out).mono ?_; rintro e x8 ⟨⟨BR, dR, rfl, hr⟩, hb⟩; have HE8 := hid (HE7.out.trans hb); have HV8 := hid (HV7.out.trans hb); have HX8 := hid (HX7.out.trans hb); have HY8 := hid hb; have HR8 := hid hr; clear hr; clear hb; clear y0 y1 y2 y3 y4 y5 y6 y7 y8 y9; obtain ⟨y0, y1, y2, y3, y4, y5, y6, y7, y8, y9⟩ := cells10 (HV8.out.heap Q0.out)) | (go_at_call 43; with_reducible refine (HII.out BT dT BR dR _ (HT5.out.ev HX8.out) HR8.out).mono ?_; rintro e x9 ⟨rfl, hb⟩; have HE9 := hid (HE8.out.trans hb); have HV9 := hid (HV8.out.trans hb); have HY9 := hid (HY8.out.trans hb); clear hb; clear y0 y1 y2 y3 y4 y5 y6 y7 y8 y9; obtain ⟨y0, y1, y2, y3, y4, y5, y6, y7, y8, y9⟩ := cells10 (HV9.out.heap Q0.out)) | (go_at_call 45; with_reducible refine (HRF.out BA mA dA _ (HA7.out.ev HY9.out)).mono ?_; rintro e x10 ⟨rfl, hb⟩; have HE10 := hid (HE9.out.trans hb); have HV10 := hid (HV9.out.trans hb); clear hb; clear y0 y1 y2 y3 y4 y5 y6 y7 y8 y9; obtain ⟨y0, y1, y2, y3, y4, y5, y6, y7, y8, y9⟩ := cells10 (HV10.out.heap Q0.out)) | (go_at_call 19; with_reducible refine (awake_c _).mono ?_; rintro e w99 ⟨rfl, hb99⟩) | (with_reducible refine ⟨trivial, ?_⟩))
 go_ret
 exact ⟨rfl, HE10.out.trans hb99⟩

set_option maxRecDepth 100000 in
set_option maxHeartbeats 8000000 in
theorem couchLeaves_c1 (f : M.Cf) (Aw At Ar : Option Addr) (nw cw nt ct nr cr : Nat) (hl0 : -9223372036854775808 ≤ f.last) (w : World) (HCS : Hid (CS w w.heap.size f Aw At Ar nw cw nt ct nr cr)) (hsm : M.small nw nt nr) (hthin : (decide (M.small nw nt nr) && M.thin f) = true) (h0 : M.check f = 0) (hrf : 0 ≤ M.rfirst (M.rall f) 0 nr) (hw : M.wrong f = (M.rfirst (M.rall f) 0 nr, 0)) :
  Calls Try.prog 6 #[.agg #[.int .i64 f.last, .int .i64 f.size, .int .i64 f.cool, .int .i64 f.die, .int .i64 f.burn, .int .i64 f.st.lo, .int .i64 f.st.hi, .slice Aw nw cw, .slice At nt ct, .slice Ar nr cr]] w fun e w' => e = .returned (.bool true) ∧ Ev w w' := by
 obtain ⟨s0, s1, s2⟩ := hsm
 have HTH := hid (fun W (hE : Ev w W) => by have := Thin_c f Aw At Ar nw cw nt ct nr cr hl0 W (fun _ => HCS.out.ev hE); rw [hthin] at this; exact this)
 have HFA := hid (fun W (hE : Ev w W) => fault_c f Aw At Ar nw cw nt ct nr cr hl0 W (HCS.out.ev hE))
 have HFI := hid (fun (Bw : Option Addr) (dw : Nat) (Bt : Option Addr) (dt : Nat) (Br : Option Addr) (dr : Nat) W (h : CS W W.heap.size f Bw Bt Br nw dw nt dt nr dr) => by have := First_c f Bw Bt Br nw dw nt dt nr dr hl0 W h; rw [hw] at this; exact this)
 have hln := HCS.out.r.len
 have hl5 : nr ≤ 5 := by rw [← hln]; exact (M.check0 h0).2.1
 have HLV := hid (fun (Bw : Option Addr) (dw : Nat) (Bt : Option Addr) (dt : Nat) (Br : Option Addr) (dr : Nat) W (h : CS W W.heap.size f Bw Bt Br nw dw nt dt nr dr) => Leave_ok f Bw Bt Br nw dw nt dt nr dr hl0 W h h0)
 have HAL := hid (fun W (hE : Ev w W) => All_c f Aw At Ar nw cw nt ct nr cr h0 W (HCS.out.ev hE))
 have HLR := hid (fun B m d W (h : Sl ncs 1 W W.heap.size B m d (M.rall f)) => rLeave_c f Aw At Ar nw cw nt ct nr cr h0 B m d W hln h)
 have HRF := hid (fun B m d W (h : Sl ncs 1 W W.heap.size B m d (M.rall f)) => rFirst_c f Aw At Ar nw cw nt ct nr cr hl5 B m d (M.rall f) (M.rall_small h0) W h)
 rw [h0] at HFA
 have hfc := M.first_is h0
 rw [hln] at hfc
 generalize M.rall f = all at HAL HLR HRF hfc hrf HFI
 generalize M.shortest (M.spares f) nr = best at HLV HLR
 have HII := hid (fun B1 d1 B2 d2 W (h1 : Sl ics 1 W W.heap.size B1 best.length d1 best) (h2 : Sl ics 1 W W.heap.size B2 best.length d2 best) => by have := ints_c B1 B2 best.length d1 best.length d2 best best W h1 h2; rw [decide_eq_true (rfl : best = best)] at this; exact this)
 generalize M.rfirst all 0 nr = rf at HRF hfc hrf HFI
 have c1_ : rf ≥ 0 := hrf
 have c4_ : (rf == rf) = true := by simp
 clear h0 hw hfc hln
 clear hthin
 go_enter Try.func6, Try.ntmps6
 go_upto_region 3 with (first | (go_at_call 18; with_reducible refine (HTH.out _ (Ev.alloc (Ev.refl _) _)).mono ?_; rintro e w1 ⟨rfl, hb1⟩; have hG : Ev w w1 := (Ev.alloc (Ev.refl _) _).trans hb1; have Q0 := hid (hb1.heap (alloc1 w (.cells #[.int .i64 f.last, .int .i64 f.size, .int .i64 f.cool, .int .i64 f.die, .int .i64 f.burn, .int .i64 f.st.lo, .int .i64 f.st.hi, .slice Aw nw cw, .slice At nt ct, .slice Ar nr cr] 28)).1); obtain ⟨y0, y1, y2, y3, y4, y5, y6, y7, y8, y9⟩ := cells10 Q0.out) | (with_reducible refine ⟨trivial, ?_⟩))
 go_upto_region 5 with (first | (go_at_call 21; with_reducible refine (Heap_c f Aw At Ar nw cw nt ct nr cr (by omega) (by omega) (by omega) _ (HCS.out.ev hG)).mono ?_; rintro e x2 ⟨⟨Bw2, dw2, Bt2, dt2, Br2, dr2, rfl, hc⟩, hb⟩; have HE2 := hid (hG.trans hb); have HV2 := hid (hb); have HC2 := hid hc; clear hc hb) | (go_at_call 40; with_reducible refine (HFI.out Bw2 dw2 Bt2 dt2 Br2 dr2 _ HC2.out).mono ?_; rintro e x3 ⟨rfl, hb⟩; have HE3 := hid (HE2.out.trans hb); have HV3 := hid (HV2.out.trans hb); clear hb; clear y0 y1 y2 y3 y4 y5 y6 y7 y8 y9; obtain ⟨y0, y1, y2, y3, y4, y5, y6, y7, y8, y9⟩ := cells10 (HV3.out.heap Q0.out)) | (go_at_call 21; with_reducible refine (Heap_c f Aw At Ar nw cw nt ct nr cr (by omega) (by omega) (by omega) _ (HCS.out.ev HE3.out)).mono ?_; rintro e x4 ⟨⟨Bw4, dw4, Bt4, dt4, Br4, dr4, rfl, hc⟩, hb⟩; have HE4 := hid (HE3.out.trans hb); have HV4 := hid (HV3.out.trans hb); have HC4 := hid hc; clear hc hb) | (go_at_call 41; with_reducible refine (HLV.out Bw4 dw4 Bt4 dt4 Br4 dr4 _ HC4.out).mono ?_; rintro e x5 ⟨⟨BT, dT, rfl, ht⟩, hb⟩; have HE5 := hid (HE4.out.trans hb); have HV5 := hid (HV4.out.trans hb); have HT5 := hid ht; have HX5 := hid (Ev.refl x5); clear ht; clear hb; clear y0 y1 y2 y3 y4 y5 y6 y7 y8 y9; obtain ⟨y0, y1, y2, y3, y4, y5, y6, y7, y8, y9⟩ := cells10 (HV5.out.heap Q0.out)))
 go_wp2_with (first | (go_at_call 25; with_reducible refine (HFA.out _ HE5.out).mono ?_; rintro e x6 ⟨rfl, hb⟩; have HE6 := hid (HE5.out.trans hb); have HV6 := hid (HV5.out.trans hb); have HX6 := hid hb; clear hb; clear y0 y1 y2 y3 y4 y5 y6 y7 y8 y9; obtain ⟨y0, y1, y2, y3, y4, y5, y6, y7, y8, y9⟩ := cells10 (HV6.out.heap Q0.out)) | (go_at_call 42; with_reducible refine (HAL.out _ HE6.out).mono ?_; rintro e x7 ⟨⟨BA, mA, dA, rfl, ha⟩, hb⟩; have HE7 := hid (HE6.out.trans hb); have HV7 := hid (HV6.out.trans hb); have HX7 := hid (HX6.out.trans hb); have HA7 := hid ha; clear ha; clear hb; clear y0 y1 y2 y3 y4 y5 y6 y7 y8 y9; obtain ⟨y0, y1, y2, y3, y4, y5, y6, y7, y8, y9⟩ := cells10 (HV7.out.heap Q0.out)) | (go_at_call 44; with_reducible refine (HLR.out BA mA dA _ HA7.out).mono ?_; rintro e x8 ⟨⟨BR, dR, rfl, hr⟩, hb⟩; have HE8 := hid (HE7.out.trans hb); have HV8 := hid (HV7.out.trans hb); have HX8 := hid (HX7.out.trans hb); have HY8 := hid hb; have HR8 := hid hr; clear hr; clear hb; clear y0 y1 y2 y3 y4 y5 y6 y7 y8 y9; obtain ⟨y0, y1, y2, y3, y4, y5, y6, y7, y8, y9⟩ := cells10 (HV8.out.heap Q0.out)) | (go_at_call 43; with_reducible refine (HII.out BT dT BR dR _ (HT5.out.ev HX8.out) HR8.out).mono ?_; rintro e x9 ⟨rfl, hb⟩; have HE9 := hid (HE8.out.trans hb); have HV9 := hid (HV8.out.trans hb); have HY9 := hid (HY8.out.trans hb); clear hb; clear y0 y1 y2 y3 y4 y5 y6 y7 y8 y9; obtain ⟨y0, y1, y2, y3, y4, y5, y6, y7, y8, y9⟩ := cells10 (HV9.out.heap Q0.out)) | (go_at_call 45; with_reducible refine (HRF.out BA mA dA _ (HA7.out.ev HY9.out)).mono ?_; rintro e x10 ⟨rfl, hb⟩; have HE10 := hid (HE9.out.trans hb); have HV10 := hid (HV9.out.trans hb); clear hb; clear y0 y1 y2 y3 y4 y5 y6 y7 y8 y9; obtain ⟨y0, y1, y2, y3, y4, y5, y6, y7, y8, y9⟩ := cells10 (HV10.out.heap Q0.out)) | (go_at_call 19; with_reducible refine (awake_c _).mono ?_; rintro e w99 ⟨rfl, hb99⟩) | (with_reducible refine ⟨trivial, ?_⟩))
 go_ret
 exact ⟨rfl, HE10.out.trans hb99⟩

theorem couchLeaves_c (f : M.Cf) (Aw At Ar : Option Addr) (nw cw nt ct nr cr : Nat) (hl0 : -9223372036854775808 ≤ f.last) (w : World) (hs : M.small nw nt nr → CS w w.heap.size f Aw At Ar nw cw nt ct nr cr) :
  Calls Try.prog 6 #[.agg #[.int .i64 f.last, .int .i64 f.size, .int .i64 f.cool, .int .i64 f.die, .int .i64 f.burn, .int .i64 f.st.lo, .int .i64 f.st.hi, .slice Aw nw cw, .slice At nt ct, .slice Ar nr cr]] w fun e w' => e = .returned (.bool true) ∧ Ev w w' := by
 cases hthin : (decide (M.small nw nt nr) && M.thin f) with
 | false => exact couchLeaves_no f Aw At Ar nw cw nt ct nr cr hl0 w hs hthin
 | true =>
  have hsm : M.small nw nt nr := by
   rw [Bool.and_eq_true, decide_eq_true_eq] at hthin
   exact hthin.1
  have HCS := hid (hs hsm)
  by_cases h0 : M.check f = 0
  ·
   have hfc := M.first_is h0
   rw [HCS.out.r.len] at hfc
   rcases hfc with ⟨h1, h2⟩ | ⟨h1, h2⟩
   ·
    exact couchLeaves_b f Aw At Ar nw cw nt ct nr cr hl0 w HCS hsm hthin h0 h1 h2
   ·
    exact couchLeaves_c1 f Aw At Ar nw cw nt ct nr cr hl0 w HCS hsm hthin h0 h1 h2
  ·
   exact couchLeaves_a f Aw At Ar nw cw nt ct nr cr hl0 w HCS hsm hthin h0

end Go.Proofs.Ytgimcephbeajlaa
