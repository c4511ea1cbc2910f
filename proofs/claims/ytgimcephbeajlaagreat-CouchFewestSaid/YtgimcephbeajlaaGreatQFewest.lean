import Derived.Test.YtgimcephbeajlaaGreatC40
import Derived.Test.YtgimcephbeajlaaGreatC27
import Derived.Test.YtgimcephbeajlaaGreatC23
import Derived.Test.YtgimcephbeajlaaGreatC24
import Derived.Test.YtgimcephbeajlaaGreatC35
import Derived.Test.YtgimcephbeajlaaGreatC36
import Derived.Test.YtgimcephbeajlaaGreatC33
set_option linter.unusedSimpArgs false
set_option linter.unusedVariables false
namespace Go.Proofs.YtgimcephbeajlaaGreat
open Go.RowKit Go.Shelf

theorem M.few_is {f : M.Cf} (h0 : M.check f = 0) : M.few f (M.rtr f) = M.few f (M.truths f) := by
 unfold M.few
 congr 1
 funext plan
 exact M.all_is h0 _
set_option maxRecDepth 100000 in
set_option maxHeartbeats 2000000 in
theorem couchFewest_no (f : M.Cf) (Aw At Ar : Option Addr) (nw cw nt ct nr cr : Nat) (hl0 : -9223372036854775808 ≤ f.last) (w : World) (hs : M.small nw nt nr → CS w w.heap.size f Aw At Ar nw cw nt ct nr cr) (hthin : (decide (M.small nw nt nr) && M.thin f) = false) :
  Calls Tryz.prog 3 #[.agg #[.int .i64 f.last, .int .i64 f.size, .int .i64 f.cool, .int .i64 f.die, .int .i64 f.burn, .int .i64 f.st.lo, .int .i64 f.st.hi, .slice Aw nw cw, .slice At nt ct, .slice Ar nr cr]] w fun e w' => e = .returned (.bool true) ∧ Ev w w' := by
 have HTH := hid (fun W (hE : Ev w W) => by have := Thin_c f Aw At Ar nw cw nt ct nr cr hl0 W (fun h => (hs h).ev hE); rw [hthin] at this; exact this)
 clear hs hthin
 go_enter Tryz.func3, Tryz.ntmps3
 go_wp2_with (first | (go_at_call 5; with_reducible refine (HTH.out _ (Ev.alloc (Ev.refl _) _)).mono ?_; rintro e w1 ⟨rfl, hb1⟩; have hG : Ev w w1 := (Ev.alloc (Ev.refl _) _).trans hb1; have Q0 := hid (hb1.heap (alloc1 w (.cells #[.int .i64 f.last, .int .i64 f.size, .int .i64 f.cool, .int .i64 f.die, .int .i64 f.burn, .int .i64 f.st.lo, .int .i64 f.st.hi, .slice Aw nw cw, .slice At nt ct, .slice Ar nr cr] 28)).1); obtain ⟨y0, y1, y2, y3, y4, y5, y6, y7, y8, y9⟩ := cells10 Q0.out) | (go_at_call 7; with_reducible refine (awake_c _).mono ?_; rintro e w99 ⟨rfl, hb99⟩) | (with_reducible refine ⟨trivial, ?_⟩))
 go_ret
 exact ⟨rfl, hG.trans hb99⟩

set_option maxRecDepth 100000 in
set_option maxHeartbeats 4000000 in
theorem couchFewest_l (f : M.Cf) (Aw At Ar : Option Addr) (nw cw nt ct nr cr : Nat) (hl0 : -9223372036854775808 ≤ f.last) (w : World) (HCS : Hid (CS w w.heap.size f Aw At Ar nw cw nt ct nr cr)) (hthin : (decide (M.small nw nt nr) && M.thin f) = true) (hsm : M.small nw nt nr) (h0 : M.check f = 0) (h7 : 7 < f.last) :
  Calls Tryz.prog 3 #[.agg #[.int .i64 f.last, .int .i64 f.size, .int .i64 f.cool, .int .i64 f.die, .int .i64 f.burn, .int .i64 f.st.lo, .int .i64 f.st.hi, .slice Aw nw cw, .slice At nt ct, .slice Ar nr cr]] w fun e w' => e = .returned (.bool true) ∧ Ev w w' := by
 obtain ⟨s0, s1, s2⟩ := hsm
 have HTH := hid (fun W (hE : Ev w W) => by have := Thin_c f Aw At Ar nw cw nt ct nr cr hl0 W (fun _ => HCS.out.ev hE); rw [hthin] at this; exact this)
 have HFT := hid (fun W (hE : Ev w W) => Fault_c f Aw At Ar nw cw nt ct nr cr hl0 W (HCS.out.ev hE))
 clear hthin
 rw [h0] at HFT
 have h7' : f.last > 7 := h7
 go_enter Tryz.func3, Tryz.ntmps3
 go_wp2_with (first | (go_at_call 5; with_reducible refine (HTH.out _ (Ev.alloc (Ev.refl _) _)).mono ?_; rintro e w1 ⟨rfl, hb1⟩; have hG : Ev w w1 := (Ev.alloc (Ev.refl _) _).trans hb1; have Q0 := hid (hb1.heap (alloc1 w (.cells #[.int .i64 f.last, .int .i64 f.size, .int .i64 f.cool, .int .i64 f.die, .int .i64 f.burn, .int .i64 f.st.lo, .int .i64 f.st.hi, .slice Aw nw cw, .slice At nt ct, .slice Ar nr cr] 28)).1); obtain ⟨y0, y1, y2, y3, y4, y5, y6, y7, y8, y9⟩ := cells10 Q0.out) | (go_at_call 6; with_reducible refine (HFT.out _ hG).mono ?_; rintro e x1 ⟨rfl, hb⟩; have HE1 := hid (hG.trans hb); have HV1 := hid hb; clear hb; clear y0 y1 y2 y3 y4 y5 y6 y7 y8 y9; obtain ⟨y0, y1, y2, y3, y4, y5, y6, y7, y8, y9⟩ := cells10 (HV1.out.heap Q0.out)) | (go_at_call 7; with_reducible refine (awake_c _).mono ?_; rintro e w99 ⟨rfl, hb99⟩) | (with_reducible refine ⟨trivial, ?_⟩))
 go_ret
 exact ⟨rfl, HE1.out.trans hb99⟩

set_option maxRecDepth 100000 in
set_option maxHeartbeats 4000000 in
theorem couchFewest_e (f : M.Cf) (Aw At Ar : Option Addr) (nw cw nt ct nr cr : Nat) (hl0 : -9223372036854775808 ≤ f.last) (w : World) (HCS : Hid (CS w w.heap.size f Aw At Ar nw cw nt ct nr cr)) (hthin : (decide (M.small nw nt nr) && M.thin f) = true) (hsm : M.small nw nt nr) (h7 : M.check f = 0 → f.last ≤ 7) (hbg : M.begin f true ≠ 0) :
  Calls Tryz.prog 3 #[.agg #[.int .i64 f.last, .int .i64 f.size, .int .i64 f.cool, .int .i64 f.die, .int .i64 f.burn, .int .i64 f.st.lo, .int .i64 f.st.hi, .slice Aw nw cw, .slice At nt ct, .slice Ar nr cr]] w fun e w' => e = .returned (.bool true) ∧ Ev w w' := by
 obtain ⟨s0, s1, s2⟩ := hsm
 have HTH := hid (fun W (hE : Ev w W) => by have := Thin_c f Aw At Ar nw cw nt ct nr cr hl0 W (fun _ => HCS.out.ev hE); rw [hthin] at this; exact this)
 have HFT := hid (fun W (hE : Ev w W) => Fault_c f Aw At Ar nw cw nt ct nr cr hl0 W (HCS.out.ev hE))
 clear hthin
 have HFW := hid (fun (Bw : Option Addr) (dw : Nat) (Bt : Option Addr) (dt : Nat) (Br : Option Addr) (dr : Nat) W (h : CS W W.heap.size f Bw Bt Br nw dw nt dt nr dr) => Fewest_err f Bw Bt Br nw dw nt dt nr dr hl0 W h hbg)
 have HSU := hid (fun W (hE : Ev w W) => sure_c f Aw At Ar nw cw nt ct nr cr hl0 W (HCS.out.ev hE))
 have hec : (M.begin f true != 0) = true := by simpa using hbg
 generalize M.begin f true = ec at HFW HSU hec hbg
 have hee : (ec == ec) = true := by simp
 by_cases h0 : M.check f = 0
 ·
  have h8 : ¬ (f.last > 7) := by have := h7 h0; omega
  have h8' : ¬ (7 < f.last) := h8
  rw [h0] at HFT
  clear h7 h0 hbg
  go_enter Tryz.func3, Tryz.ntmps3
  go_upto_region 3 with (first | (go_at_call 5; with_reducible refine (HTH.out _ (Ev.alloc (Ev.refl _) _)).mono ?_; rintro e w1 ⟨rfl, hb1⟩; have hG : Ev w w1 := (Ev.alloc (Ev.refl _) _).trans hb1; have Q0 := hid (hb1.heap (alloc1 w (.cells #[.int .i64 f.last, .int .i64 f.size, .int .i64 f.cool, .int .i64 f.die, .int .i64 f.burn, .int .i64 f.st.lo, .int .i64 f.st.hi, .slice Aw nw cw, .slice At nt ct, .slice Ar nr cr] 28)).1); obtain ⟨y0, y1, y2, y3, y4, y5, y6, y7, y8, y9⟩ := cells10 Q0.out) | (go_at_call 6; with_reducible refine (HFT.out _ hG).mono ?_; rintro e x1 ⟨rfl, hb⟩; have HE1 := hid (hG.trans hb); have HV1 := hid hb; clear hb; clear y0 y1 y2 y3 y4 y5 y6 y7 y8 y9; obtain ⟨y0, y1, y2, y3, y4, y5, y6, y7, y8, y9⟩ := cells10 (HV1.out.heap Q0.out)) | (with_reducible refine ⟨trivial, ?_⟩))
  go_upto_region 4 with (first | (go_at_call 9; with_reducible refine (Heap_c f Aw At Ar nw cw nt ct nr cr (by omega) (by omega) (by omega) _ (HCS.out.ev HE1.out)).mono ?_; rintro e x2 ⟨⟨Bw2, dw2, Bt2, dt2, Br2, dr2, rfl, hc⟩, hb⟩; have HE2 := hid (HE1.out.trans hb); have HV2 := hid (HV1.out.trans hb); have HC2 := hid hc; clear hc hb) | (go_at_call 8; with_reducible refine (HFW.out Bw2 dw2 Bt2 dt2 Br2 dr2 _ HC2.out).mono ?_; rintro e x3 ⟨rfl, hb⟩; have HE3 := hid (HE2.out.trans hb); have HV3 := hid (HV2.out.trans hb); have HF3 := hid (Ev.refl x3); clear hb; clear y0 y1 y2 y3 y4 y5 y6 y7 y8 y9; obtain ⟨y0, y1, y2, y3, y4, y5, y6, y7, y8, y9⟩ := cells10 (HV3.out.heap Q0.out)))
  go_upto_region 5 with (go_at_call 10; with_reducible refine (HSU.out _ HE3.out).mono ?_; rintro e x4 ⟨⟨LB, lm, ld, rfl, _, _⟩, hb⟩; have HE4 := hid (HE3.out.trans hb); have HV4 := hid (HV3.out.trans hb); have HF4 := hid (HF3.out.trans hb); have HT4 := hid (Ev.refl x4); clear hb; clear y0 y1 y2 y3 y4 y5 y6 y7 y8 y9; obtain ⟨y0, y1, y2, y3, y4, y5, y6, y7, y8, y9⟩ := cells10 (HV4.out.heap Q0.out))
  go_wp2_with (first | (go_at_call 7; with_reducible refine (awake_c _).mono ?_; rintro e w99 ⟨rfl, hb99⟩) | (with_reducible refine ⟨trivial, ?_⟩))
  go_ret
  exact ⟨rfl, HE4.out.trans hb99⟩
 ·
  have hce : (M.check f == 0) = false := by simpa using h0
  clear h7 hbg
  generalize M.check f = ck at HFT hce h0
  clear h0
  go_enter Tryz.func3, Tryz.ntmps3
  go_upto_region 3 with (first | (go_at_call 5; with_reducible refine (HTH.out _ (Ev.alloc (Ev.refl _) _)).mono ?_; rintro e w1 ⟨rfl, hb1⟩; have hG : Ev w w1 := (Ev.alloc (Ev.refl _) _).trans hb1; have Q0 := hid (hb1.heap (alloc1 w (.cells #[.int .i64 f.last, .int .i64 f.size, .int .i64 f.cool, .int .i64 f.die, .int .i64 f.burn, .int .i64 f.st.lo, .int .i64 f.st.hi, .slice Aw nw cw, .slice At nt ct, .slice Ar nr cr] 28)).1); obtain ⟨y0, y1, y2, y3, y4, y5, y6, y7, y8, y9⟩ := cells10 Q0.out) | (go_at_call 6; with_reducible refine (HFT.out _ hG).mono ?_; rintro e x1 ⟨rfl, hb⟩; have HE1 := hid (hG.trans hb); have HV1 := hid hb; clear hb; clear y0 y1 y2 y3 y4 y5 y6 y7 y8 y9; obtain ⟨y0, y1, y2, y3, y4, y5, y6, y7, y8, y9⟩ := cells10 (HV1.out.heap Q0.out)) | (with_reducible refine ⟨trivial, ?_⟩))
  go_upto_region 4 with (first | (go_at_call 9; with_reducible refine (Heap_c f Aw At Ar nw cw nt ct nr cr (by omega) (by omega) (by omega) _ (HCS.out.ev HE1.out)).mono ?_; rintro e x2 ⟨⟨Bw2, dw2, Bt2, dt2, Br2, dr2, rfl, hc⟩, hb⟩; have HE2 := hid (HE1.out.trans hb); have HV2 := hid (HV1.out.trans hb); have HC2 := hid hc; clear hc hb) | (go_at_call 8; with_reducible refine (HFW.out Bw2 dw2 Bt2 dt2 Br2 dr2 _ HC2.out).mono ?_; rintro e x3 ⟨rfl, hb⟩; have HE3 := hid (HE2.out.trans hb); have HV3 := hid (HV2.out.trans hb); have HF3 := hid (Ev.refl x3); clear hb; clear y0 y1 y2 y3 y4 y5 y6 y7 y8 y9; obtain ⟨y0, y1, y2, y3, y4, y5, y6, y7, y8, y9⟩ := cells10 (HV3.out.heap Q0.out)))
  go_upto_region 5 with (go_at_call 10; with_reducible refine (HSU.out _ HE3.out).mono ?_; rintro e x4 ⟨⟨LB, lm, ld, rfl, _, _⟩, hb⟩; have HE4 := hid (HE3.out.trans hb); have HV4 := hid (HV3.out.trans hb); have HF4 := hid (HF3.out.trans hb); have HT4 := hid (Ev.refl x4); clear hb; clear y0 y1 y2 y3 y4 y5 y6 y7 y8 y9; obtain ⟨y0, y1, y2, y3, y4, y5, y6, y7, y8, y9⟩ := cells10 (HV4.out.heap Q0.out))
  go_wp2_with (first | (go_at_call 7; with_reducible refine (awake_c _).mono ?_; rintro e w99 ⟨rfl, hb99⟩) | (with_reducible refine ⟨trivial, ?_⟩))
  go_ret
  exact ⟨rfl, HE4.out.trans hb99⟩

set_option maxRecDepth 100000 in
set_option maxHeartbeats 4000000 in
theorem couchFewest_s (f : M.Cf) (Aw At Ar : Option Addr) (nw cw nt ct nr cr : Nat) (hl0 : -9223372036854775808 ≤ f.last) (w : World) (HCS : Hid (CS w w.heap.size f Aw At Ar nw cw nt ct nr cr)) (hthin : (decide (M.small nw nt nr) && M.thin f) = true) (hsm : M.small nw nt nr) (h7 : M.check f = 0 → f.last ≤ 7) (h0 : M.check f = 0) (ht : M.truths f ≠ []) (hq : ((M.truths f).all fun t => M.stays f t (M.few f (M.truths f))) = false) :
  Calls Tryz.prog 3 #[.agg #[.int .i64 f.last, .int .i64 f.size, .int .i64 f.cool, .int .i64 f.die, .int .i64 f.burn, .int .i64 f.st.lo, .int .i64 f.st.hi, .slice Aw nw cw, .slice At nt ct, .slice Ar nr cr]] w fun e w' => e = .returned (.bool true) ∧ Ev w w' := by
 obtain ⟨s0, s1, s2⟩ := hsm
 have HTH := hid (fun W (hE : Ev w W) => by have := Thin_c f Aw At Ar nw cw nt ct nr cr hl0 W (fun _ => HCS.out.ev hE); rw [hthin] at this; exact this)
 have HFT := hid (fun W (hE : Ev w W) => Fault_c f Aw At Ar nw cw nt ct nr cr hl0 W (HCS.out.ev hE))
 clear hthin
 have HSU := hid (fun W (hE : Ev w W) => sure_c f Aw At Ar nw cw nt ct nr cr hl0 W (HCS.out.ev hE))
 have hbg : M.begin f true = 0 := by unfold M.begin; rw [if_neg (by simp [h0]), if_neg (by simp), if_neg ht]
 have h8 : ¬ (f.last > 7) := by have := h7 h0; omega
 have h8' : ¬ (7 < f.last) := h8
 have HRF := hid (fun L ln lc W (hE : Ev w W) (hl : TL W L ln lc (M.rtr f)) => rFewest_c f Aw At Ar nw cw nt ct nr cr L ln lc (M.rtr f) (h7 h0) h0 (M.rtr_listed h0) W (HCS.out.ev hE) hl)
 rw [hbg] at HSU
 rw [M.few_is h0, M.all_is h0, hq] at HRF
 rw [h0] at HFT
 have HFW := hid (fun (Bw : Option Addr) (dw : Nat) (Bt : Option Addr) (dt : Nat) (Br : Option Addr) (dr : Nat) W (h : CS W W.heap.size f Bw Bt Br nw dw nt dt nr dr) => Fewest_short f Bw Bt Br nw dw nt dt nr dr hl0 W h hbg hq)
 clear h0 ht hq hbg h7
 go_enter Tryz.func3, Tryz.ntmps3
 go_upto_region 3 with (first | (go_at_call 5; with_reducible refine (HTH.out _ (Ev.alloc (Ev.refl _) _)).mono ?_; rintro e w1 ⟨rfl, hb1⟩; have hG : Ev w w1 := (Ev.alloc (Ev.refl _) _).trans hb1; have Q0 := hid (hb1.heap (alloc1 w (.cells #[.int .i64 f.last, .int .i64 f.size, .int .i64 f.cool, .int .i64 f.die, .int .i64 f.burn, .int .i64 f.st.lo, .int .i64 f.st.hi, .slice Aw nw cw, .slice At nt ct, .slice Ar nr cr] 28)).1); obtain ⟨y0, y1, y2, y3, y4, y5, y6, y7, y8, y9⟩ := cells10 Q0.out) | (go_at_call 6; with_reducible refine (HFT.out _ hG).mono ?_; rintro e x1 ⟨rfl, hb⟩; have HE1 := hid (hG.trans hb); have HV1 := hid hb; clear hb; clear y0 y1 y2 y3 y4 y5 y6 y7 y8 y9; obtain ⟨y0, y1, y2, y3, y4, y5, y6, y7, y8, y9⟩ := cells10 (HV1.out.heap Q0.out)) | (with_reducible refine ⟨trivial, ?_⟩))
 go_upto_region 4 with (first | (go_at_call 9; with_reducible refine (Heap_c f Aw At Ar nw cw nt ct nr cr (by omega) (by omega) (by omega) _ (HCS.out.ev HE1.out)).mono ?_; rintro e x2 ⟨⟨Bw2, dw2, Bt2, dt2, Br2, dr2, rfl, hc⟩, hb⟩; have HE2 := hid (HE1.out.trans hb); have HV2 := hid (HV1.out.trans hb); have HC2 := hid hc; clear hc hb) | (go_at_call 8; with_reducible refine (HFW.out Bw2 dw2 Bt2 dt2 Br2 dr2 _ HC2.out).mono ?_; rintro e x3 ⟨rfl, hb⟩; have HE3 := hid (HE2.out.trans hb); have HV3 := hid (HV2.out.trans hb); have HF3 := hid (Ev.refl x3); clear hb; clear y0 y1 y2 y3 y4 y5 y6 y7 y8 y9; obtain ⟨y0, y1, y2, y3, y4, y5, y6, y7, y8, y9⟩ := cells10 (HV3.out.heap Q0.out)))
 go_upto_region 5 with (go_at_call 10; with_reducible refine (HSU.out _ HE3.out).mono ?_; rintro e x4 ⟨⟨LB, lm, ld, rfl, hm, htl⟩, hb⟩; have HE4 := hid (HE3.out.trans hb); have HV4 := hid (HV3.out.trans hb); have HF4 := hid (HF3.out.trans hb); have HT4 := hid (Ev.refl x4); have HTL := hid htl; clear htl; clear hb; clear y0 y1 y2 y3 y4 y5 y6 y7 y8 y9; obtain ⟨y0, y1, y2, y3, y4, y5, y6, y7, y8, y9⟩ := cells10 (HV4.out.heap Q0.out))
 go_wp2_with (first | (go_at_call 11; with_reducible refine (HRF.out LB lm ld _ HE4.out (HTL.out (by first | exact trivial | rfl))).mono ?_; rintro e x5 ⟨⟨FB2, fn2, fd2, rfl, hf2⟩, hb⟩; have HE5 := hid (HE4.out.trans hb); have HV5 := hid (HV4.out.trans hb); have HF5 := hid (HF4.out.trans hb); have HT5 := hid (HT4.out.trans hb); have HF2 := hid hf2; clear hf2; clear hb; clear y0 y1 y2 y3 y4 y5 y6 y7 y8 y9; obtain ⟨y0, y1, y2, y3, y4, y5, y6, y7, y8, y9⟩ := cells10 (HV5.out.heap Q0.out)) | (go_at_call 7; with_reducible refine (awake_c _).mono ?_; rintro e w99 ⟨rfl, hb99⟩) | (with_reducible refine ⟨trivial, ?_⟩))
 go_ret
 exact ⟨rfl, HE5.out.trans hb99⟩

set_option maxRecDepth 100000 in
set_option maxHeartbeats 4000000 in
theorem couchFewest_k (f : M.Cf) (Aw At Ar : Option Addr) (nw cw nt ct nr cr : Nat) (hl0 : -9223372036854775808 ≤ f.last) (w : World) (HCS : Hid (CS w w.heap.size f Aw At Ar nw cw nt ct nr cr)) (hthin : (decide (M.small nw nt nr) && M.thin f) = true) (hsm : M.small nw nt nr) (h7 : M.check f = 0 → f.last ≤ 7) (h0 : M.check f = 0) (ht : M.truths f ≠ []) (hq : ((M.truths f).all fun t => M.stays f t (M.few f (M.truths f))) = true) :
  Calls Tryz.prog 3 #[.agg #[.int .i64 f.last, .int .i64 f.size, .int .i64 f.cool, .int .i64 f.die, .int .i64 f.burn, .int .i64 f.st.lo, .int .i64 f.st.hi, .slice Aw nw cw, .slice At nt ct, .slice Ar nr cr]] w fun e w' => e = .returned (.bool true) ∧ Ev w w' := by
 have hwl10 : f.wet.length ≤ 10 := by
  have h1 := (M.valid_parts (M.check0 h0).2.2.1).2.2.2.2.2.1
  have h2 := (M.check0 h0).1
  omega
 have hfs := M.few_small f (M.truths f) hwl10
 obtain ⟨s0, s1, s2⟩ := hsm
 have HTH := hid (fun W (hE : Ev w W) => by have := Thin_c f Aw At Ar nw cw nt ct nr cr hl0 W (fun _ => HCS.out.ev hE); rw [hthin] at this; exact this)
 have HFT := hid (fun W (hE : Ev w W) => Fault_c f Aw At Ar nw cw nt ct nr cr hl0 W (HCS.out.ev hE))
 clear hthin
 have HSU := hid (fun W (hE : Ev w W) => sure_c f Aw At Ar nw cw nt ct nr cr hl0 W (HCS.out.ev hE))
 have hbg : M.begin f true = 0 := by unfold M.begin; rw [if_neg (by simp [h0]), if_neg (by simp), if_neg ht]
 have h8 : ¬ (f.last > 7) := by have := h7 h0; omega
 have h8' : ¬ (7 < f.last) := h8
 have HRF := hid (fun L ln lc W (hE : Ev w W) (hl : TL W L ln lc (M.rtr f)) => rFewest_c f Aw At Ar nw cw nt ct nr cr L ln lc (M.rtr f) (h7 h0) h0 (M.rtr_listed h0) W (HCS.out.ev hE) hl)
 rw [hbg] at HSU
 rw [M.few_is h0, M.all_is h0, hq] at HRF
 rw [h0] at HFT
 have HFW := hid (fun (Bw : Option Addr) (dw : Nat) (Bt : Option Addr) (dt : Nat) (Br : Option Addr) (dr : Nat) W (h : CS W W.heap.size f Bw Bt Br nw dw nt dt nr dr) => Fewest_ok f Bw Bt Br nw dw nt dt nr dr hl0 W h hbg hq)
 clear h0 ht hq hbg h7 hwl10
 generalize M.few f (M.truths f) = fw at HFW HRF hfs
 obtain ⟨fn, hfn⟩ : ∃ m, fw.length = m := ⟨_, rfl⟩
 rw [hfn] at HFW hfs
 go_enter Tryz.func3, Tryz.ntmps3
 go_upto_region 3 with (first | (go_at_call 5; with_reducible refine (HTH.out _ (Ev.alloc (Ev.refl _) _)).mono ?_; rintro e w1 ⟨rfl, hb1⟩; have hG : Ev w w1 := (Ev.alloc (Ev.refl _) _).trans hb1; have Q0 := hid (hb1.heap (alloc1 w (.cells #[.int .i64 f.last, .int .i64 f.size, .int .i64 f.cool, .int .i64 f.die, .int .i64 f.burn, .int .i64 f.st.lo, .int .i64 f.st.hi, .slice Aw nw cw, .slice At nt ct, .slice Ar nr cr] 28)).1); obtain ⟨y0, y1, y2, y3, y4, y5, y6, y7, y8, y9⟩ := cells10 Q0.out) | (go_at_call 6; with_reducible refine (HFT.out _ hG).mono ?_; rintro e x1 ⟨rfl, hb⟩; have HE1 := hid (hG.trans hb); have HV1 := hid hb; clear hb; clear y0 y1 y2 y3 y4 y5 y6 y7 y8 y9; obtain ⟨y0, y1, y2, y3, y4, y5, y6, y7, y8, y9⟩ := cells10 (HV1.out.heap Q0.out)) | (with_reducible refine ⟨trivial, ?_⟩))
 go_upto_region 4 with (first | (go_at_call 9; with_reducible refine (Heap_c f Aw At Ar nw cw nt ct nr cr (by omega) (by omega) (by omega) _ (HCS.out.ev HE1.out)).mono ?_; rintro e x2 ⟨⟨Bw2, dw2, Bt2, dt2, Br2, dr2, rfl, hc⟩, hb⟩; have HE2 := hid (HE1.out.trans hb); have HV2 := hid (HV1.out.trans hb); have HC2 := hid hc; clear hc hb) | (go_at_call 8; with_reducible refine (HFW.out Bw2 dw2 Bt2 dt2 Br2 dr2 _ HC2.out).mono ?_; rintro e x3 ⟨⟨FB, fd, rfl, hfo⟩, hb⟩; have HE3 := hid (HE2.out.trans hb); have HV3 := hid (HV2.out.trans hb); have HF3 := hid (Ev.refl x3); have HFS := hid (sl_own (enc := ics) (by decide) (ics_len _) (by omega) hfo); clear hfo; clear hb; clear y0 y1 y2 y3 y4 y5 y6 y7 y8 y9; obtain ⟨y0, y1, y2, y3, y4, y5, y6, y7, y8, y9⟩ := cells10 (HV3.out.heap Q0.out)))
 go_upto_region 5 with (go_at_call 10; with_reducible refine (HSU.out _ HE3.out).mono ?_; rintro e x4 ⟨⟨LB, lm, ld, rfl, hm, htl⟩, hb⟩; have HE4 := hid (HE3.out.trans hb); have HV4 := hid (HV3.out.trans hb); have HF4 := hid (HF3.out.trans hb); have HT4 := hid (Ev.refl x4); have HTL := hid htl; clear htl; clear hb; clear y0 y1 y2 y3 y4 y5 y6 y7 y8 y9; obtain ⟨y0, y1, y2, y3, y4, y5, y6, y7, y8, y9⟩ := cells10 (HV4.out.heap Q0.out))
 go_upto_region 8 with (first | (go_at_call 11; with_reducible refine (HRF.out LB lm ld _ HE4.out (HTL.out (by first | exact trivial | rfl))).mono ?_; rintro e x5 ⟨⟨FB2, fn2, fd2, rfl, hf2⟩, hb⟩; have HE5 := hid (HE4.out.trans hb); have HV5 := hid (HV4.out.trans hb); have HF5 := hid (HF4.out.trans hb); have HT5 := hid (HT4.out.trans hb); have HF2 := hid hf2; clear hf2; clear hb; clear y0 y1 y2 y3 y4 y5 y6 y7 y8 y9; obtain ⟨y0, y1, y2, y3, y4, y5, y6, y7, y8, y9⟩ := cells10 (HV5.out.heap Q0.out)) | (with_reducible refine ⟨trivial, ?_⟩))
 have HG5 := hid (Ev.refl x5)
 have HIN := hid (fun W (hF : Ev x3 W) (hG : Ev x5 W) => by have := ints_c FB FB2 fn fd fn2 fd2 fw fw W (HFS.out.ev hF) ((HF2.out (by first | exact trivial | rfl)).ev hG); rw [decide_eq_true rfl] at this; exact this)
 go_wp2_with (first | (go_at_call 12; with_reducible refine (HIN.out _ HF5.out HG5.out).mono ?_; rintro e x6 ⟨rfl, hb⟩; have HE6 := hid (HE5.out.trans hb); clear hb) | (go_at_call 7; with_reducible refine (awake_c _).mono ?_; rintro e w99 ⟨rfl, hb99⟩) | (with_reducible refine ⟨trivial, ?_⟩))
 go_ret
 exact ⟨rfl, HE6.out.trans hb99⟩

theorem couchFewest_c (f : M.Cf) (Aw At Ar : Option Addr) (nw cw nt ct nr cr : Nat) (hl0 : -9223372036854775808 ≤ f.last) (w : World) (hs : M.small nw nt nr → CS w w.heap.size f Aw At Ar nw cw nt ct nr cr) :
  Calls Tryz.prog 3 #[.agg #[.int .i64 f.last, .int .i64 f.size, .int .i64 f.cool, .int .i64 f.die, .int .i64 f.burn, .int .i64 f.st.lo, .int .i64 f.st.hi, .slice Aw nw cw, .slice At nt ct, .slice Ar nr cr]] w fun e w' => e = .returned (.bool true) ∧ Ev w w' := by
 cases hthin : (decide (M.small nw nt nr) && M.thin f) with
 | false => exact couchFewest_no f Aw At Ar nw cw nt ct nr cr hl0 w hs hthin
 | true =>
  have hsm : M.small nw nt nr := by
   have h1 := hthin
   rw [Bool.and_eq_true, decide_eq_true_eq] at h1
   exact h1.1
  have HCS := hid (hs hsm)
  by_cases hx : M.check f = 0 ∧ 7 < f.last
  ·
   exact couchFewest_l f Aw At Ar nw cw nt ct nr cr hl0 w HCS hthin hsm hx.1 hx.2
  ·
   have h7 : M.check f = 0 → f.last ≤ 7 := fun h => by
    by_cases h2 : 7 < f.last
    ·
     exact absurd ⟨h, h2⟩ hx
    ·
     omega
   by_cases hbg : M.begin f true = 0
   ·
    obtain ⟨h0, _, ht⟩ := M.begin0 hbg
    cases hq : ((M.truths f).all fun t => M.stays f t (M.few f (M.truths f))) with
    | false => exact couchFewest_s f Aw At Ar nw cw nt ct nr cr hl0 w HCS hthin hsm h7 h0 ht hq
    | true => exact couchFewest_k f Aw At Ar nw cw nt ct nr cr hl0 w HCS hthin hsm h7 h0 ht hq
   ·
    exact couchFewest_e f Aw At Ar nw cw nt ct nr cr hl0 w HCS hthin hsm h7 hbg

end Go.Proofs.YtgimcephbeajlaaGreat
