import Derived.Test.YtgimcephbeajlaaGreatC40
import Derived.Test.YtgimcephbeajlaaGreatC27
import Derived.Test.YtgimcephbeajlaaGreatC23
import Derived.Test.YtgimcephbeajlaaGreatC24
import Derived.Test.YtgimcephbeajlaaGreatC35
import Derived.Test.YtgimcephbeajlaaGreatC36
set_option linter.unusedSimpArgs false
set_option linter.unusedVariables false
namespace Go.Proofs.YtgimcephbeajlaaGreat
open Go.RowKit Go.Shelf

set_option maxRecDepth 100000 in
set_option maxHeartbeats 2000000 in
theorem couchShortest_no (f : M.Cf) (Aw At Ar : Option Addr) (nw cw nt ct nr cr : Nat) (hl0 : -9223372036854775808 ≤ f.last) (wn : Nat) (hwn : wn < 65536) (n : Nat) (hn : n < 65536) (w : World) (hs : M.small nw nt nr → CS w w.heap.size f Aw At Ar nw cw nt ct nr cr) (hno : M.rdy f nw nt nr = false) :
  Calls Tryz.prog 4 #[.agg #[.int .i64 f.last, .int .i64 f.size, .int .i64 f.cool, .int .i64 f.die, .int .i64 f.burn, .int .i64 f.st.lo, .int .i64 f.st.hi, .slice Aw nw cw, .slice At nt ct, .slice Ar nr cr], .int .u16 (wn : Int), .int .u16 (n : Int)] w fun e w' => e = .returned (.bool true) ∧ Ev w w' := by
 have HRD := hid (fun W (hE : Ev w W) => by have := ready_c f Aw At Ar nw cw nt ct nr cr hl0 W (fun h => (hs h).ev hE); rw [hno] at this; exact this)
 clear hs hno
 go_enter Tryz.func4, Tryz.ntmps4
 go_wp2_with (first | (go_at_call 13; with_reducible refine (HRD.out _ (Ev.alloc (Ev.refl _) _)).mono ?_; rintro e w1 ⟨rfl, hb1⟩; have hG : Ev w w1 := (Ev.alloc (Ev.refl _) _).trans hb1; have Q0 := hid (hb1.heap (alloc1 w (.cells #[.int .i64 f.last, .int .i64 f.size, .int .i64 f.cool, .int .i64 f.die, .int .i64 f.burn, .int .i64 f.st.lo, .int .i64 f.st.hi, .slice Aw nw cw, .slice At nt ct, .slice Ar nr cr] 28)).1); obtain ⟨y0, y1, y2, y3, y4, y5, y6, y7, y8, y9⟩ := cells10 Q0.out) | (go_at_call 7; with_reducible refine (awake_c _).mono ?_; rintro e w99 ⟨rfl, hb99⟩) | (with_reducible refine ⟨trivial, ?_⟩))
 go_ret
 exact ⟨rfl, hG.trans hb99⟩

set_option maxRecDepth 100000 in
set_option maxHeartbeats 4000000 in
theorem couchShortest_e (f : M.Cf) (Aw At Ar : Option Addr) (nw cw nt ct nr cr : Nat) (hl0 : -9223372036854775808 ≤ f.last) (wn : Nat) (hwn : wn < 65536) (n : Nat) (hn : n < 65536) (w : World) (HCS : Hid (CS w w.heap.size f Aw At Ar nw cw nt ct nr cr)) (hr : M.rdy f nw nt nr = true) (hsm : M.small nw nt nr) (h0 : M.check f = 0) (ht : M.truths f = []) :
  Calls Tryz.prog 4 #[.agg #[.int .i64 f.last, .int .i64 f.size, .int .i64 f.cool, .int .i64 f.die, .int .i64 f.burn, .int .i64 f.st.lo, .int .i64 f.st.hi, .slice Aw nw cw, .slice At nt ct, .slice Ar nr cr], .int .u16 (wn : Int), .int .u16 (n : Int)] w fun e w' => e = .returned (.bool true) ∧ Ev w w' := by
 obtain ⟨s0, s1, s2⟩ := hsm
 have HRD := hid (fun W (hE : Ev w W) => by have := ready_c f Aw At Ar nw cw nt ct nr cr hl0 W (fun _ => HCS.out.ev hE); rw [hr] at this; exact this)
 obtain ⟨hl9, _, hv, _⟩ := M.check0 h0
 have hlast := (M.valid_parts hv).2.2.2.2.2.1
 have hwl := HCS.out.w_.len
 have hnl : (nw : Int) = f.last + 1 := by omega
 have hnw10 : nw ≤ 10 := by omega
 have hpl := M.trn_ok hv n
 have HTU := hid (fun W => turned_c f Aw At Ar nw cw nt ct nr cr hv hl9 n hn W)
 have hpnl := M.trn_len f n
 obtain ⟨plan, hplan⟩ : ∃ p, M.trn f n = p := ⟨_, rfl⟩
 obtain ⟨pn, hpn⟩ : ∃ p, plan.length = p := ⟨_, rfl⟩
 rw [hplan, hpn] at HTU
 rw [hplan] at hpl hpnl
 rw [hpn] at hpnl
 clear hplan
 have HTR := hid (fun W (hE : Ev w W) => Truths_c f Aw At Ar nw cw nt ct nr cr h0 W (HCS.out.ev hE))
 have hbg : M.begin f (M.isTurns f plan) = 11 := by unfold M.begin; rw [if_neg (by simp [h0]), hpl, if_neg (by simp), if_pos ht]
 have hbg1 : M.begin f true = 11 := by rw [← hpl]; exact hbg
 have HFW := hid (fun (Bw : Option Addr) (dw : Nat) (Bt : Option Addr) (dt : Nat) (Br : Option Addr) (dr : Nat) W (h : CS W W.heap.size f Bw Bt Br nw dw nt dt nr dr) => Fewest_err f Bw Bt Br nw dw nt dt nr dr hl0 W h (by rw [hbg1]; decide))
 have HPK := hid (fun (Bw : Option Addr) (dw : Nat) (Bt : Option Addr) (dt : Nat) (Br : Option Addr) (dr : Nat) (L : Option Addr) (d : Nat) W (h : CS W W.heap.size f Bw Bt Br nw dw nt dt nr dr) (h3 : Sl ics 1 W W.heap.size L pn d plan) => ProveKeeps_err f Bw Bt Br nw dw nt dt nr dr L pn d plan hl0 W h h3 (by rw [hbg]; decide))
 rw [hbg1] at HFW
 have HRN := hid ((M.rtr_nil h0).2 ht)
 clear hr h0 hv ht hpl hbg hbg1 hwl hlast hl9
 go_enter Tryz.func4, Tryz.ntmps4
 go_upto_region 3 with (first | (go_at_call 13; with_reducible refine (HRD.out _ (Ev.alloc (Ev.refl _) _)).mono ?_; rintro e w1 ⟨rfl, hb1⟩; have hG : Ev w w1 := (Ev.alloc (Ev.refl _) _).trans hb1; have Q0 := hid (hb1.heap (alloc1 w (.cells #[.int .i64 f.last, .int .i64 f.size, .int .i64 f.cool, .int .i64 f.die, .int .i64 f.burn, .int .i64 f.st.lo, .int .i64 f.st.hi, .slice Aw nw cw, .slice At nt ct, .slice Ar nr cr] 28)).1); obtain ⟨y0, y1, y2, y3, y4, y5, y6, y7, y8, y9⟩ := cells10 Q0.out) | (with_reducible refine ⟨trivial, ?_⟩))
 go_upto_region 4 with (first | (go_at_call 9; with_reducible refine (Heap_c f Aw At Ar nw cw nt ct nr cr (by omega) (by omega) (by omega) _ (HCS.out.ev hG)).mono ?_; rintro e x2 ⟨⟨Bw2, dw2, Bt2, dt2, Br2, dr2, rfl, hc⟩, hb⟩; have HE2 := hid (hG.trans hb); have HV2 := hid (hb); have HC2 := hid hc; clear hc hb) | (go_at_call 8; with_reducible refine (HFW.out Bw2 dw2 Bt2 dt2 Br2 dr2 _ HC2.out).mono ?_; rintro e x3 ⟨rfl, hb⟩; have HE3 := hid (HE2.out.trans hb); have HV3 := hid (HV2.out.trans hb); have HF3 := hid (Ev.refl x3); clear hb; clear y0 y1 y2 y3 y4 y5 y6 y7 y8 y9; obtain ⟨y0, y1, y2, y3, y4, y5, y6, y7, y8, y9⟩ := cells10 (HV3.out.heap Q0.out)))
 go_upto_region 5 with (go_at_call 14; with_reducible refine (HTR.out _ HE3.out).mono ?_; rintro e x4 ⟨⟨LB, lm, ld, rfl, hm, htl⟩, hb⟩; have HE4 := hid (HE3.out.trans hb); have HV4 := hid (HV3.out.trans hb); have HF4 := hid (HF3.out.trans hb); have HT4 := hid (Ev.refl x4); have HTL := hid htl; clear htl; clear hb; clear y0 y1 y2 y3 y4 y5 y6 y7 y8 y9; obtain ⟨y0, y1, y2, y3, y4, y5, y6, y7, y8, y9⟩ := cells10 (HV4.out.heap Q0.out))
 go_upto_region 6 with (go_at_call 15; with_reducible refine (HTU.out _).mono ?_; rintro e x5 ⟨⟨BTN, dTN, rfl, htn⟩, hb⟩; have HE5 := hid (HE4.out.trans hb); have HV5 := hid (HV4.out.trans hb); have HF5 := hid (HF4.out.trans hb); have HT5 := hid (HT4.out.trans hb); have HW5 := hid (Ev.refl x5); have HTN := hid htn; clear htn; clear hb; clear y0 y1 y2 y3 y4 y5 y6 y7 y8 y9; obtain ⟨y0, y1, y2, y3, y4, y5, y6, y7, y8, y9⟩ := cells10 (HV5.out.heap Q0.out))
 go_upto_region 7 with (first | (go_at_call 9; with_reducible refine (Heap_c f Aw At Ar nw cw nt ct nr cr (by omega) (by omega) (by omega) _ (HCS.out.ev HE5.out)).mono ?_; rintro e x6 ⟨⟨Bw6, dw6, Bt6, dt6, Br6, dr6, rfl, hc⟩, hb⟩; have HE6 := hid (HE5.out.trans hb); have HV6 := hid (HV5.out.trans hb); have HF6 := hid (HF5.out.trans hb); have HT6 := hid (HT5.out.trans hb); have HW6 := hid (HW5.out.trans hb); have HC6 := hid hc; clear hc hb) | (go_at_call 17; with_reducible refine (list_c BTN pn dTN plan (by omega) _ (HTN.out.ev HW6.out)).mono ?_; rintro e x7 ⟨⟨L7, D7, rfl, hc⟩, hb⟩; have HE7 := hid (HE6.out.trans hb); have HV7 := hid (HV6.out.trans hb); have HF7 := hid (HF6.out.trans hb); have HT7 := hid (HT6.out.trans hb); have HW7 := hid (HW6.out.trans hb); have HL7 := hid (sl_own (enc := ics) (by decide) (ics_len _) (by omega) hc); have HM7 := hid hb; clear hc hb) | (go_at_call 16; with_reducible refine (HPK.out Bw6 dw6 Bt6 dt6 Br6 dr6 L7 D7 _ (HC6.out.ev HM7.out) HL7.out).mono ?_; rintro e x8 ⟨rfl, hb⟩; have HE8 := hid (HE7.out.trans hb); have HV8 := hid (HV7.out.trans hb); have HF8 := hid (HF7.out.trans hb); have HT8 := hid (HT7.out.trans hb); have HW8 := hid (HW7.out.trans hb); clear hb; clear y0 y1 y2 y3 y4 y5 y6 y7 y8 y9; obtain ⟨y0, y1, y2, y3, y4, y5, y6, y7, y8, y9⟩ := cells10 (HV8.out.heap Q0.out)))
 have hlm : lm = 0 := by rw [← HTL.out.len, HRN.out]; rfl
 subst hlm
 go_wp2_with (first | (go_at_call 7; with_reducible refine (awake_c _).mono ?_; rintro e w99 ⟨rfl, hb99⟩) | (with_reducible refine ⟨trivial, ?_⟩))
 go_ret
 exact ⟨rfl, HE8.out.trans hb99⟩

set_option maxRecDepth 100000 in
set_option maxHeartbeats 4000000 in
theorem couchShortest_s (f : M.Cf) (Aw At Ar : Option Addr) (nw cw nt ct nr cr : Nat) (hl0 : -9223372036854775808 ≤ f.last) (wn : Nat) (hwn : wn < 65536) (n : Nat) (hn : n < 65536) (w : World) (HCS : Hid (CS w w.heap.size f Aw At Ar nw cw nt ct nr cr)) (hr : M.rdy f nw nt nr = true) (hsm : M.small nw nt nr) (h0 : M.check f = 0) (ht : M.truths f ≠ []) (hq : ((M.truths f).all fun t => M.stays f t (M.few f (M.truths f))) = false) :
  Calls Tryz.prog 4 #[.agg #[.int .i64 f.last, .int .i64 f.size, .int .i64 f.cool, .int .i64 f.die, .int .i64 f.burn, .int .i64 f.st.lo, .int .i64 f.st.hi, .slice Aw nw cw, .slice At nt ct, .slice Ar nr cr], .int .u16 (wn : Int), .int .u16 (n : Int)] w fun e w' => e = .returned (.bool true) ∧ Ev w w' := by
 obtain ⟨s0, s1, s2⟩ := hsm
 have HRD := hid (fun W (hE : Ev w W) => by have := ready_c f Aw At Ar nw cw nt ct nr cr hl0 W (fun _ => HCS.out.ev hE); rw [hr] at this; exact this)
 obtain ⟨hl9, _, hv, _⟩ := M.check0 h0
 have hlast := (M.valid_parts hv).2.2.2.2.2.1
 have hwl := HCS.out.w_.len
 have hnl : (nw : Int) = f.last + 1 := by omega
 have hnw10 : nw ≤ 10 := by omega
 have hpl := M.trn_ok hv n
 have HTU := hid (fun W => turned_c f Aw At Ar nw cw nt ct nr cr hv hl9 n hn W)
 have hpnl := M.trn_len f n
 obtain ⟨plan, hplan⟩ : ∃ p, M.trn f n = p := ⟨_, rfl⟩
 obtain ⟨pn, hpn⟩ : ∃ p, plan.length = p := ⟨_, rfl⟩
 rw [hplan, hpn] at HTU
 rw [hplan] at hpl hpnl
 rw [hpn] at hpnl
 clear hplan
 have HTR := hid (fun W (hE : Ev w W) => Truths_c f Aw At Ar nw cw nt ct nr cr h0 W (HCS.out.ev hE))
 have hbg : M.begin f (M.isTurns f plan) = 0 := by unfold M.begin; rw [if_neg (by simp [h0]), hpl, if_neg (by simp), if_neg ht]
 have hbg1 : M.begin f true = 0 := by rw [← hpl]; exact hbg
 have HRN := hid (fun e => ht ((M.rtr_nil h0).1 e))
 have hlw : (f.wet.length : Int) = f.last + 1 := hlast
 have hqp : ((M.truths f).all fun t => M.stays f t plan) = false := by
  cases h : (M.truths f).all fun t => M.stays f t plan with
  | false => rfl
  | true =>
   have := (M.few_spec hlw hpl h).2.1
   rw [hq] at this
   cases this
 have HFW := hid (fun (Bw : Option Addr) (dw : Nat) (Bt : Option Addr) (dt : Nat) (Br : Option Addr) (dr : Nat) W (h : CS W W.heap.size f Bw Bt Br nw dw nt dt nr dr) => Fewest_short f Bw Bt Br nw dw nt dt nr dr hl0 W h hbg1 hq)
 have HPK := hid (fun (Bw : Option Addr) (dw : Nat) (Bt : Option Addr) (dt : Nat) (Br : Option Addr) (dr : Nat) (L : Option Addr) (d : Nat) W (h : CS W W.heap.size f Bw Bt Br nw dw nt dt nr dr) (h3 : Sl ics 1 W W.heap.size L pn d plan) => ProveKeeps_ok f Bw Bt Br nw dw nt dt nr dr L pn d plan hl0 W h h3 hbg)
 rw [hqp] at HPK
 clear hr h0 hv ht hpl hbg hbg1 hwl hlast hl9 hq hqp hlw
 go_enter Tryz.func4, Tryz.ntmps4
 go_upto_region 3 with (first | (go_at_call 13; with_reducible refine (HRD.out _ (Ev.alloc (Ev.refl _) _)).mono ?_; rintro e w1 ⟨rfl, hb1⟩; have hG : Ev w w1 := (Ev.alloc (Ev.refl _) _).trans hb1; have Q0 := hid (hb1.heap (alloc1 w (.cells #[.int .i64 f.last, .int .i64 f.size, .int .i64 f.cool, .int .i64 f.die, .int .i64 f.burn, .int .i64 f.st.lo, .int .i64 f.st.hi, .slice Aw nw cw, .slice At nt ct, .slice Ar nr cr] 28)).1); obtain ⟨y0, y1, y2, y3, y4, y5, y6, y7, y8, y9⟩ := cells10 Q0.out) | (with_reducible refine ⟨trivial, ?_⟩))
 go_upto_region 4 with (first | (go_at_call 9; with_reducible refine (Heap_c f Aw At Ar nw cw nt ct nr cr (by omega) (by omega) (by omega) _ (HCS.out.ev hG)).mono ?_; rintro e x2 ⟨⟨Bw2, dw2, Bt2, dt2, Br2, dr2, rfl, hc⟩, hb⟩; have HE2 := hid (hG.trans hb); have HV2 := hid (hb); have HC2 := hid hc; clear hc hb) | (go_at_call 8; with_reducible refine (HFW.out Bw2 dw2 Bt2 dt2 Br2 dr2 _ HC2.out).mono ?_; rintro e x3 ⟨rfl, hb⟩; have HE3 := hid (HE2.out.trans hb); have HV3 := hid (HV2.out.trans hb); have HF3 := hid (Ev.refl x3); clear hb; clear y0 y1 y2 y3 y4 y5 y6 y7 y8 y9; obtain ⟨y0, y1, y2, y3, y4, y5, y6, y7, y8, y9⟩ := cells10 (HV3.out.heap Q0.out)))
 go_upto_region 5 with (go_at_call 14; with_reducible refine (HTR.out _ HE3.out).mono ?_; rintro e x4 ⟨⟨LB, lm, ld, rfl, hm, htl⟩, hb⟩; have HE4 := hid (HE3.out.trans hb); have HV4 := hid (HV3.out.trans hb); have HF4 := hid (HF3.out.trans hb); have HT4 := hid (Ev.refl x4); have HTL := hid htl; clear htl; clear hb; clear y0 y1 y2 y3 y4 y5 y6 y7 y8 y9; obtain ⟨y0, y1, y2, y3, y4, y5, y6, y7, y8, y9⟩ := cells10 (HV4.out.heap Q0.out))
 go_upto_region 6 with (go_at_call 15; with_reducible refine (HTU.out _).mono ?_; rintro e x5 ⟨⟨BTN, dTN, rfl, htn⟩, hb⟩; have HE5 := hid (HE4.out.trans hb); have HV5 := hid (HV4.out.trans hb); have HF5 := hid (HF4.out.trans hb); have HT5 := hid (HT4.out.trans hb); have HW5 := hid (Ev.refl x5); have HTN := hid htn; clear htn; clear hb; clear y0 y1 y2 y3 y4 y5 y6 y7 y8 y9; obtain ⟨y0, y1, y2, y3, y4, y5, y6, y7, y8, y9⟩ := cells10 (HV5.out.heap Q0.out))
 go_upto_region 7 with (first | (go_at_call 9; with_reducible refine (Heap_c f Aw At Ar nw cw nt ct nr cr (by omega) (by omega) (by omega) _ (HCS.out.ev HE5.out)).mono ?_; rintro e x6 ⟨⟨Bw6, dw6, Bt6, dt6, Br6, dr6, rfl, hc⟩, hb⟩; have HE6 := hid (HE5.out.trans hb); have HV6 := hid (HV5.out.trans hb); have HF6 := hid (HF5.out.trans hb); have HT6 := hid (HT5.out.trans hb); have HW6 := hid (HW5.out.trans hb); have HC6 := hid hc; clear hc hb) | (go_at_call 17; with_reducible refine (list_c BTN pn dTN plan (by omega) _ (HTN.out.ev HW6.out)).mono ?_; rintro e x7 ⟨⟨L7, D7, rfl, hc⟩, hb⟩; have HE7 := hid (HE6.out.trans hb); have HV7 := hid (HV6.out.trans hb); have HF7 := hid (HF6.out.trans hb); have HT7 := hid (HT6.out.trans hb); have HW7 := hid (HW6.out.trans hb); have HL7 := hid (sl_own (enc := ics) (by decide) (ics_len _) (by omega) hc); have HM7 := hid hb; clear hc hb) | (go_at_call 16; with_reducible refine (HPK.out Bw6 dw6 Bt6 dt6 Br6 dr6 L7 D7 _ (HC6.out.ev HM7.out) HL7.out).mono ?_; rintro e x8 ⟨rfl, hb⟩; have HE8 := hid (HE7.out.trans hb); have HV8 := hid (HV7.out.trans hb); have HF8 := hid (HF7.out.trans hb); have HT8 := hid (HT7.out.trans hb); have HW8 := hid (HW7.out.trans hb); clear hb; clear y0 y1 y2 y3 y4 y5 y6 y7 y8 y9; obtain ⟨y0, y1, y2, y3, y4, y5, y6, y7, y8, y9⟩ := cells10 (HV8.out.heap Q0.out)))
 have hll := HTL.out.len
 have hlm0 : 0 < lm := by
  rcases Nat.eq_zero_or_pos lm with h | h
  ·
   rw [h] at hll; exact absurd (List.eq_nil_of_length_eq_zero hll) HRN.out
  ·
   exact h
 have c7_ : ((lm : Int) == 0) = false := by simp; omega
 clear hll
 go_wp2_with (first | (go_at_call 7; with_reducible refine (awake_c _).mono ?_; rintro e w99 ⟨rfl, hb99⟩) | (with_reducible refine ⟨trivial, ?_⟩))
 go_ret
 exact ⟨rfl, HE8.out.trans hb99⟩

set_option maxRecDepth 100000 in
set_option maxHeartbeats 8000000 in
theorem couchShortest_k0 (f : M.Cf) (Aw At Ar : Option Addr) (nw cw nt ct nr cr : Nat) (hl0 : -9223372036854775808 ≤ f.last) (wn : Nat) (hwn : wn < 65536) (n : Nat) (hn : n < 65536) (w : World) (HCS : Hid (CS w w.heap.size f Aw At Ar nw cw nt ct nr cr)) (hr : M.rdy f nw nt nr = true) (hsm : M.small nw nt nr) (h0 : M.check f = 0) (ht : M.truths f ≠ []) (hq : ((M.truths f).all fun t => M.stays f t (M.few f (M.truths f))) = true) (hqp : ((M.truths f).all fun t => M.stays f t (M.trn f n)) = false) :
  Calls Tryz.prog 4 #[.agg #[.int .i64 f.last, .int .i64 f.size, .int .i64 f.cool, .int .i64 f.die, .int .i64 f.burn, .int .i64 f.st.lo, .int .i64 f.st.hi, .slice Aw nw cw, .slice At nt ct, .slice Ar nr cr], .int .u16 (wn : Int), .int .u16 (n : Int)] w fun e w' => e = .returned (.bool true) ∧ Ev w w' := by
 obtain ⟨s0, s1, s2⟩ := hsm
 have HRD := hid (fun W (hE : Ev w W) => by have := ready_c f Aw At Ar nw cw nt ct nr cr hl0 W (fun _ => HCS.out.ev hE); rw [hr] at this; exact this)
 obtain ⟨hl9, _, hv, _⟩ := M.check0 h0
 have hlast := (M.valid_parts hv).2.2.2.2.2.1
 have hwl := HCS.out.w_.len
 have hnl : (nw : Int) = f.last + 1 := by omega
 have hnw10 : nw ≤ 10 := by omega
 have hpl := M.trn_ok hv n
 have HTU := hid (fun W => turned_c f Aw At Ar nw cw nt ct nr cr hv hl9 n hn W)
 have hpnl := M.trn_len f n
 obtain ⟨plan, hplan⟩ : ∃ p, M.trn f n = p := ⟨_, rfl⟩
 obtain ⟨pn, hpn⟩ : ∃ p, plan.length = p := ⟨_, rfl⟩
 rw [hplan, hpn] at HTU
 rw [hplan] at hpl hpnl hqp
 rw [hpn] at hpnl
 clear hplan
 have HTR := hid (fun W (hE : Ev w W) => Truths_c f Aw At Ar nw cw nt ct nr cr h0 W (HCS.out.ev hE))
 have hbg : M.begin f (M.isTurns f plan) = 0 := by unfold M.begin; rw [if_neg (by simp [h0]), hpl, if_neg (by simp), if_neg ht]
 have hbg1 : M.begin f true = 0 := by rw [← hpl]; exact hbg
 have HRN := hid (fun e => ht ((M.rtr_nil h0).1 e))
 have hlw : (f.wet.length : Int) = f.last + 1 := hlast
 have hft := M.few_turns (ts := M.truths f) hlw
 have hfs := M.few_small f (M.truths f) (by omega)
 have HFW := hid (fun (Bw : Option Addr) (dw : Nat) (Bt : Option Addr) (dt : Nat) (Br : Option Addr) (dr : Nat) W (h : CS W W.heap.size f Bw Bt Br nw dw nt dt nr dr) => Fewest_ok f Bw Bt Br nw dw nt dt nr dr hl0 W h hbg1 hq)
 have HPK := hid (fun (Bw : Option Addr) (dw : Nat) (Bt : Option Addr) (dt : Nat) (Br : Option Addr) (dr : Nat) (L : Option Addr) (d : Nat) W (h : CS W W.heap.size f Bw Bt Br nw dw nt dt nr dr) (h3 : Sl ics 1 W W.heap.size L pn d plan) => ProveKeeps_ok f Bw Bt Br nw dw nt dt nr dr L pn d plan hl0 W h h3 hbg)
 rw [hqp] at HPK
 have hbf : M.begin f (M.isTurns f (M.few f (M.truths f))) = 0 := by unfold M.begin; rw [if_neg (by simp [h0]), hft, if_neg (by simp), if_neg ht]
 have HPY := hid (fun (Bw : Option Addr) (dw : Nat) (Bt : Option Addr) (dt : Nat) (Br : Option Addr) (dr : Nat) (L : Option Addr) (m d : Nat) W (h : CS W W.heap.size f Bw Bt Br nw dw nt dt nr dr) (h3 : Sl ics 1 W W.heap.size L m d (M.few f (M.truths f))) => by have := ProveKeeps_ok f Bw Bt Br nw dw nt dt nr dr L m d (M.few f (M.truths f)) hl0 W h h3 hbf; rw [hq] at this; exact this)
 have HIS := hid (fun (B : Option Addr) (m d : Nat) W (h3 : Sl ics 1 W W.heap.size B m d (M.few f (M.truths f))) => by have := rIsTurns_c f Aw At Ar nw cw nt ct nr cr B m d (M.few f (M.truths f)) W h3; rw [hft] at this; exact this)
 have HKS := hid (fun (Tw : Option Addr) (tw twc : Nat) (t : M.Tr) (htr : t ∈ M.rtr f) (B : Option Addr) (m d : Nat) W (hE : Ev w W) (hwt : Sl ics 1 W W.heap.size Tw tw twc t.wet) (h3 : Sl ics 1 W W.heap.size B m d (M.few f (M.truths f))) => by have := Kept_c f Aw At Ar nw cw nt ct nr cr Tw tw twc t B m d (M.few f (M.truths f)) h0 (M.rtr_listed h0 t htr) W (HCS.out.ev hE) hwt h3; rw [List.all_eq_true.1 hq t ((M.rtr_mem h0).1 htr)] at this; exact this)
 clear hr h0 hv ht hpl hbg hbg1 hwl hlast hl9 hq hqp hlw hft hbf
 generalize M.few f (M.truths f) = fw at HFW HPY HIS HKS hfs
 obtain ⟨fn, hfn⟩ : ∃ m, fw.length = m := ⟨_, rfl⟩
 rw [hfn] at HFW hfs
 generalize M.rtr f = ts at HTR HRN HKS
 go_enter Tryz.func4, Tryz.ntmps4
 go_upto_region 3 with (first | (go_at_call 13; with_reducible refine (HRD.out _ (Ev.alloc (Ev.refl _) _)).mono ?_; rintro e w1 ⟨rfl, hb1⟩; have hG : Ev w w1 := (Ev.alloc (Ev.refl _) _).trans hb1; have Q0 := hid (hb1.heap (alloc1 w (.cells #[.int .i64 f.last, .int .i64 f.size, .int .i64 f.cool, .int .i64 f.die, .int .i64 f.burn, .int .i64 f.st.lo, .int .i64 f.st.hi, .slice Aw nw cw, .slice At nt ct, .slice Ar nr cr] 28)).1); obtain ⟨y0, y1, y2, y3, y4, y5, y6, y7, y8, y9⟩ := cells10 Q0.out) | (with_reducible refine ⟨trivial, ?_⟩))
 go_upto_region 4 with (first | (go_at_call 9; with_reducible refine (Heap_c f Aw At Ar nw cw nt ct nr cr (by omega) (by omega) (by omega) _ (HCS.out.ev hG)).mono ?_; rintro e x2 ⟨⟨Bw2, dw2, Bt2, dt2, Br2, dr2, rfl, hc⟩, hb⟩; have HE2 := hid (hG.trans hb); have HV2 := hid (hb); have HC2 := hid hc; clear hc hb) | (go_at_call 8; with_reducible refine (HFW.out Bw2 dw2 Bt2 dt2 Br2 dr2 _ HC2.out).mono ?_; rintro e x3 ⟨⟨FB, fd, rfl, hfo⟩, hb⟩; have HE3 := hid (HE2.out.trans hb); have HV3 := hid (HV2.out.trans hb); have HF3 := hid (Ev.refl x3); have HFS := hid (sl_own (enc := ics) (by decide) (ics_len _) (by omega) hfo); clear hfo; clear hb; clear y0 y1 y2 y3 y4 y5 y6 y7 y8 y9; obtain ⟨y0, y1, y2, y3, y4, y5, y6, y7, y8, y9⟩ := cells10 (HV3.out.heap Q0.out)))
 go_upto_region 5 with (go_at_call 14; with_reducible refine (HTR.out _ HE3.out).mono ?_; rintro e x4 ⟨⟨LB, lm, ld, rfl, hm, htl⟩, hb⟩; have HE4 := hid (HE3.out.trans hb); have HV4 := hid (HV3.out.trans hb); have HF4 := hid (HF3.out.trans hb); have HT4 := hid (Ev.refl x4); have HTL := hid htl; clear htl; clear hb; clear y0 y1 y2 y3 y4 y5 y6 y7 y8 y9; obtain ⟨y0, y1, y2, y3, y4, y5, y6, y7, y8, y9⟩ := cells10 (HV4.out.heap Q0.out))
 go_upto_region 6 with (go_at_call 15; with_reducible refine (HTU.out _).mono ?_; rintro e x5 ⟨⟨BTN, dTN, rfl, htn⟩, hb⟩; have HE5 := hid (HE4.out.trans hb); have HV5 := hid (HV4.out.trans hb); have HF5 := hid (HF4.out.trans hb); have HT5 := hid (HT4.out.trans hb); have HW5 := hid (Ev.refl x5); have HTN := hid htn; clear htn; clear hb; clear y0 y1 y2 y3 y4 y5 y6 y7 y8 y9; obtain ⟨y0, y1, y2, y3, y4, y5, y6, y7, y8, y9⟩ := cells10 (HV5.out.heap Q0.out))
 go_upto_region 7 with (first | (go_at_call 9; with_reducible refine (Heap_c f Aw At Ar nw cw nt ct nr cr (by omega) (by omega) (by omega) _ (HCS.out.ev HE5.out)).mono ?_; rintro e x6 ⟨⟨Bw6, dw6, Bt6, dt6, Br6, dr6, rfl, hc⟩, hb⟩; have HE6 := hid (HE5.out.trans hb); have HV6 := hid (HV5.out.trans hb); have HF6 := hid (HF5.out.trans hb); have HT6 := hid (HT5.out.trans hb); have HW6 := hid (HW5.out.trans hb); have HC6 := hid hc; clear hc hb) | (go_at_call 17; with_reducible refine (list_c BTN pn dTN plan (by omega) _ (HTN.out.ev HW6.out)).mono ?_; rintro e x7 ⟨⟨L7, D7, rfl, hc⟩, hb⟩; have HE7 := hid (HE6.out.trans hb); have HV7 := hid (HV6.out.trans hb); have HF7 := hid (HF6.out.trans hb); have HT7 := hid (HT6.out.trans hb); have HW7 := hid (HW6.out.trans hb); have HL7 := hid (sl_own (enc := ics) (by decide) (ics_len _) (by omega) hc); have HM7 := hid hb; clear hc hb) | (go_at_call 16; with_reducible refine (HPK.out Bw6 dw6 Bt6 dt6 Br6 dr6 L7 D7 _ (HC6.out.ev HM7.out) HL7.out).mono ?_; rintro e x8 ⟨rfl, hb⟩; have HE8 := hid (HE7.out.trans hb); have HV8 := hid (HV7.out.trans hb); have HF8 := hid (HF7.out.trans hb); have HT8 := hid (HT7.out.trans hb); have HW8 := hid (HW7.out.trans hb); clear hb; clear y0 y1 y2 y3 y4 y5 y6 y7 y8 y9; obtain ⟨y0, y1, y2, y3, y4, y5, y6, y7, y8, y9⟩ := cells10 (HV8.out.heap Q0.out)))
 have hll := HTL.out.len
 have hlm0 : 0 < lm := by
  rcases Nat.eq_zero_or_pos lm with h | h
  ·
   rw [h] at hll; exact absurd (List.eq_nil_of_length_eq_zero hll) HRN.out
  ·
   exact h
 have c7_ : ((lm : Int) == 0) = false := by simp; omega
 obtain ⟨q, hqe⟩ : ∃ q, wn % lm = q := ⟨_, rfl⟩
 have hql : q < lm := by rw [← hqe]; exact Nat.mod_lt _ hlm0
 have p0 : ¬ ((lm : Int) = 0) := by omega
 have p0' : ¬ (lm = 0) := by omega
 have p1 : (wn : Int) % (lm : Int) = (q : Int) := by rw [← hqe]; exact (Int.natCast_emod wn lm).symm
 have p2_ : (wn : Int).tmod (lm : Int) = (q : Int) := by rw [Int.tmod_eq_emod_of_nonneg (by omega)]; exact p1
 have p3_ : IntKind.i64.wrap (q : Int) = (q : Int) := IntWalk.i64_in _ (by omega)
 have p4_ : IntKind.i64.wrap (wn : Int) = (wn : Int) := IntWalk.i64_in _ (by omega)
 have p5_ : (0 : Int) ≤ (q : Int) := by omega
 have p6_ : (q : Int) < (lm : Int) := by omega
 clear hqe
 obtain ⟨vs, hvs, hrs⟩ := HTL.out.ev HT8.out
 have hqt : q < ts.length := by omega
 have htk : ts[q]? = some ts[q] := List.getElem?_eq_getElem _
 have htm : ts[q] ∈ ts := List.getElem_mem _
 generalize ts[q] = t at htk htm
 obtain ⟨bt, ot, v, hAt, hbt, hxt, _, hcc⟩ := hvs.at_ (Below.refl _ _) hql
 obtain ⟨t1, t2, t3⟩ := hrs.2 q v t hxt htk
 have e6 := hcc 0 _ rfl
 have e7 := hcc 1 _ rfl
 simp only [Nat.add_zero] at e6
 rw [t1] at e6
 have hcapt := hvs.cap
 have HSW := hid (sl_own (enc := ics) (by decide) (ics_len _) (by omega) t2)
 have HIT := hid (fun W (hE : Ev x3 W) => HIS.out FB fn fd W (HFS.out.ev hE))
 have HKT := hid (fun W (hE : Ev w W) (hF : Ev x3 W) (h8 : Ev x8 W) => HKS.out v.2.1 v.2.2.1 v.2.2.2 t htm FB fn fd W hE (HSW.out.ev h8) (HFS.out.ev hF))
 have HPX := hid (fun (Bw : Option Addr) (dw : Nat) (Bt : Option Addr) (dt : Nat) (Br : Option Addr) (dr : Nat) (L : Option Addr) (d : Nat) W (h : CS W W.heap.size f Bw Bt Br nw dw nt dt nr dr) (h3 : Sl ics 1 W W.heap.size L fn d fw) => HPY.out Bw dw Bt dt Br dr L fn d W h h3)
 subst hAt
 have l0 := heap_lt (HV8.out.heap Q0.out)
 clear hxt hcc hvs hrs t1 t2 htk htm hll HTL HPY HIS HKS HFW HPK HTR HTU
 have HSE : Hid (∀ w', Ev x8 w' → (∀ o, w'.cell? ⟨w.heap.size, o, none⟩ = x8.cell? ⟨w.heap.size, o, none⟩) ∧ (∀ o, w'.cell? ⟨bt, o, none⟩ = x8.cell? ⟨bt, o, none⟩)) := hid (fun w' h => ⟨fun o => h.cells.1 _ o l0, fun o => h.cells.1 _ o hbt⟩)
 go_upto_region 11 with fail
 refine wp_region_held_drew (S := fun w' => (∀ o, w'.cell? ⟨w.heap.size, o, none⟩ = x8.cell? ⟨w.heap.size, o, none⟩) ∧ (∀ o, w'.cell? ⟨bt, o, none⟩ = x8.cell? ⟨bt, o, none⟩)) (by kernel_rfl) (⟨fun o => rfl, fun o => rfl⟩) (fun hHeld => ?_)
 refine tkH 0 (some 55) ?_
 (try simp only [Act.put, sA, sB, sC])
 refine tkH 1 (some 56) ?_
 (try simp only [Act.put, sA, sB, sC])
 refine wpAnyH_one (i := 2) rfl (by kernel_rfl) (by rfl) (fun K hK => ?_)
 go_simp
 refine (HIT.out _ (HF8.out.trans (Ev.drew (Ev.refl _)))).mono ?_
 rintro e z2 ⟨rfl, hb2⟩
 have hy2 : Ev x8 z2 := Ev.trans (Ev.drew (Ev.refl _)) hb2
 refine hK.out _ _ (HSE.out _ hy2) (fun hHeld => ?_)
 clear hK K
 (try simp only [Act.put, sA, sB, sC])
 refine tkH 3 (some 58) ?_
 (try simp only [Act.put, sA, sB, sC])
 refine tkH 4 (some 59) ?_
 (try simp only [Act.put, sA, sB, sC])
 refine tkH 5 (some 60) ?_
 (try simp only [Act.put, sA, sB, sC])
 refine tkH 6 (some 61) ?_
 (try simp only [Act.put, sA, sB, sC])
 refine tkH 7 (some 62) ?_
 (try simp only [Act.put, sA, sB, sC])
 refine tkH 8 (some 63) ?_
 (try simp only [Act.put, sA, sB, sC])
 refine tkH 9 (some 64) ?_
 (try simp only [Act.put, sA, sB, sC])
 refine tkH 10 (some 65) ?_
 (try simp only [Act.put, sA, sB, sC])
 refine tkH 11 (some 66) ?_
 (try simp only [Act.put, sA, sB, sC])
 refine tkH 12 (some 67) ?_
 (try simp only [Act.put, sA, sB, sC])
 refine tkH 13 (some 68) ?_
 (try simp only [Act.put, sA, sB, sC])
 refine wpAnyH_one (i := 14) rfl (by kernel_rfl) (by rfl) (fun K hK => ?_)
 go_simp
 refine (HKT.out _ (HE8.out.trans hy2) (HF8.out.trans hy2) hy2).mono ?_
 rintro e z14 ⟨rfl, hb14⟩
 have hy14 : Ev x8 z14 := Ev.trans hy2 hb14
 refine hK.out _ _ (HSE.out _ hy14) (fun hHeld => ?_)
 clear hK K
 (try simp only [Act.put, sA, sB, sC])
 refine tkH 15 (some 70) ?_
 (try simp only [Act.put, sA, sB, sC])
 refine tkH 16 (some 71) ?_
 (try simp only [Act.put, sA, sB, sC])
 refine tkH 17 (some 72) ?_
 (try simp only [Act.put, sA, sB, sC])
 refine tkH 19 (some 74) ?_
 (try simp only [Act.put, sA, sB, sC])
 refine wpAnyH_one (i := 18) rfl (by kernel_rfl) (by rfl) (fun K hK => ?_)
 go_simp
 refine (Heap_c f Aw At Ar nw cw nt ct nr cr (by omega) (by omega) (by omega) _ (HCS.out.ev (HE8.out.trans hy14))).mono ?_
 rintro e z18 ⟨⟨Bw9, dw9, Bt9, dt9, Br9, dr9, rfl, hc⟩, hb18⟩
 have hy18 : Ev x8 z18 := Ev.trans hy14 hb18
 refine hK.out _ _ (HSE.out _ hy18) (fun hHeld => ?_)
 clear hK K
 (try simp only [Act.put, sA, sB, sC])
 refine wpAnyH_one (i := 20) rfl (by kernel_rfl) (by rfl) (fun K hK => ?_)
 go_simp
 refine (list_c FB fn fd fw (by omega) _ (HFS.out.ev (HF8.out.trans hy18))).mono ?_
 rintro e z20 ⟨⟨L, dL, rfl, hl3⟩, hb20⟩
 have hy20 : Ev x8 z20 := Ev.trans hy18 hb20
 refine hK.out _ _ (HSE.out _ hy20) (fun hHeld => ?_)
 clear hK K
 (try simp only [Act.put, sA, sB, sC])
 refine wpAnyH_one (i := 21) rfl (by kernel_rfl) (by rfl) (fun K hK => ?_)
 go_simp
 refine (HPX.out Bw9 dw9 Bt9 dt9 Br9 dr9 L dL _ (hc.ev hb20) (sl_own (enc := ics) (by decide) (ics_len _) (by omega) hl3)).mono ?_
 rintro e z21 ⟨rfl, hb21⟩
 have hy21 : Ev x8 z21 := Ev.trans hy20 hb21
 refine hK.out _ _ (HSE.out _ hy21) (fun hHeld => ?_)
 clear hK K
 (try simp only [Act.put, sA, sB, sC])
 refine tkH 22 (some 77) ?_
 (try simp only [Act.put, sA, sB, sC])
 refine tkH 23 (some 78) ?_
 (try simp only [Act.put, sA, sB, sC])
 refine tkH 24 (some 79) ?_
 (try simp only [Act.put, sA, sB, sC])
 refine tkH 25 (some 80) ?_
 (try simp only [Act.put, sA, sB, sC])
 refine tkH 26 (some 81) ?_
 (try simp only [Act.put, sA, sB, sC])
 refine wpAnyH_skip (i := 27) (some 82) rfl (by kernel_rfl) (by kernel_rfl) (by kernel_rfl) (fun _ _ _ h => h) (by rfl) (by assumption) ?_
 (try simp only [Act.put, sA, sB, sC])
 refine wpAnyH_skip (i := 28) (some 83) rfl (by kernel_rfl) (by kernel_rfl) (by kernel_rfl) (fun _ _ _ h => h) (by rfl) (by assumption) ?_
 (try simp only [Act.put, sA, sB, sC])
 refine wpAnyH_skip (i := 29) (some 84) rfl (by kernel_rfl) (by kernel_rfl) (by kernel_rfl) (fun _ _ _ h => h) (by rfl) (by assumption) ?_
 (try simp only [Act.put, sA, sB, sC])
 refine wpAnyH_skip (i := 30) (some 85) rfl (by kernel_rfl) (by kernel_rfl) (by kernel_rfl) (fun _ _ _ h => h) (by rfl) (by assumption) ?_
 (try simp only [Act.put, sA, sB, sC])
 refine tkH 31 (some 86) ?_
 (try simp only [Act.put, sA, sB, sC])
 refine tkH 32 (some 87) ?_
 (try simp only [Act.put, sA, sB, sC])
 refine tkH 33 (some 88) ?_
 (try simp only [Act.put, sA, sB, sC])
 refine wpAnyH_one (i := 34) rfl (by kernel_rfl) (by rfl) (fun K hK => ?_)
 go_simp
 refine (awake_c _).mono ?_
 rintro e z34 ⟨rfl, hb34⟩
 have hy34 : Ev x8 z34 := Ev.trans hy21 hb34
 refine hK.out _ _ (HSE.out _ hy34) (fun hHeld => ?_)
 clear hK K
 (try simp only [Act.put, sA, sB, sC])
 refine tkH 35 (some 90) ?_
 (try simp only [Act.put, sA, sB, sC])
 refine tkH 36 (some 6) ?_
 (try simp only [Act.put, sA, sB, sC])
 refine wpAnyH_done (by kernel_rfl) ?_ _
 go_wp2_with fail
 go_ret
 exact ⟨rfl, HE8.out.trans hy34⟩

set_option maxRecDepth 100000 in
set_option maxHeartbeats 8000000 in
theorem couchShortest_k1 (f : M.Cf) (Aw At Ar : Option Addr) (nw cw nt ct nr cr : Nat) (hl0 : -9223372036854775808 ≤ f.last) (wn : Nat) (hwn : wn < 65536) (n : Nat) (hn : n < 65536) (w : World) (HCS : Hid (CS w w.heap.size f Aw At Ar nw cw nt ct nr cr)) (hr : M.rdy f nw nt nr = true) (hsm : M.small nw nt nr) (h0 : M.check f = 0) (ht : M.truths f ≠ []) (hq : ((M.truths f).all fun t => M.stays f t (M.few f (M.truths f))) = true) (hqp : ((M.truths f).all fun t => M.stays f t (M.trn f n)) = true) :
  Calls Tryz.prog 4 #[.agg #[.int .i64 f.last, .int .i64 f.size, .int .i64 f.cool, .int .i64 f.die, .int .i64 f.burn, .int .i64 f.st.lo, .int .i64 f.st.hi, .slice Aw nw cw, .slice At nt ct, .slice Ar nr cr], .int .u16 (wn : Int), .int .u16 (n : Int)] w fun e w' => e = .returned (.bool true) ∧ Ev w w' := by
 obtain ⟨s0, s1, s2⟩ := hsm
 have HRD := hid (fun W (hE : Ev w W) => by have := ready_c f Aw At Ar nw cw nt ct nr cr hl0 W (fun _ => HCS.out.ev hE); rw [hr] at this; exact this)
 obtain ⟨hl9, _, hv, _⟩ := M.check0 h0
 have hlast := (M.valid_parts hv).2.2.2.2.2.1
 have hwl := HCS.out.w_.len
 have hnl : (nw : Int) = f.last + 1 := by omega
 have hnw10 : nw ≤ 10 := by omega
 have hpl := M.trn_ok hv n
 have HTU := hid (fun W => turned_c f Aw At Ar nw cw nt ct nr cr hv hl9 n hn W)
 have hpnl := M.trn_len f n
 obtain ⟨plan, hplan⟩ : ∃ p, M.trn f n = p := ⟨_, rfl⟩
 obtain ⟨pn, hpn⟩ : ∃ p, plan.length = p := ⟨_, rfl⟩
 rw [hplan, hpn] at HTU
 rw [hplan] at hpl hpnl hqp
 rw [hpn] at hpnl
 clear hplan
 have HTR := hid (fun W (hE : Ev w W) => Truths_c f Aw At Ar nw cw nt ct nr cr h0 W (HCS.out.ev hE))
 have hbg : M.begin f (M.isTurns f plan) = 0 := by unfold M.begin; rw [if_neg (by simp [h0]), hpl, if_neg (by simp), if_neg ht]
 have hbg1 : M.begin f true = 0 := by rw [← hpl]; exact hbg
 have HRN := hid (fun e => ht ((M.rtr_nil h0).1 e))
 have hlw : (f.wet.length : Int) = f.last + 1 := hlast
 have hsh : M.shorter plan (M.few f (M.truths f)) = false := (M.few_spec hlw hpl hqp).2.2 plan hpl hqp
 have hft := M.few_turns (ts := M.truths f) hlw
 have hfs := M.few_small f (M.truths f) (by omega)
 have HFW := hid (fun (Bw : Option Addr) (dw : Nat) (Bt : Option Addr) (dt : Nat) (Br : Option Addr) (dr : Nat) W (h : CS W W.heap.size f Bw Bt Br nw dw nt dt nr dr) => Fewest_ok f Bw Bt Br nw dw nt dt nr dr hl0 W h hbg1 hq)
 have HPK := hid (fun (Bw : Option Addr) (dw : Nat) (Bt : Option Addr) (dt : Nat) (Br : Option Addr) (dr : Nat) (L : Option Addr) (d : Nat) W (h : CS W W.heap.size f Bw Bt Br nw dw nt dt nr dr) (h3 : Sl ics 1 W W.heap.size L pn d plan) => ProveKeeps_ok f Bw Bt Br nw dw nt dt nr dr L pn d plan hl0 W h h3 hbg)
 rw [hqp] at HPK
 have hbf : M.begin f (M.isTurns f (M.few f (M.truths f))) = 0 := by unfold M.begin; rw [if_neg (by simp [h0]), hft, if_neg (by simp), if_neg ht]
 have HPY := hid (fun (Bw : Option Addr) (dw : Nat) (Bt : Option Addr) (dt : Nat) (Br : Option Addr) (dr : Nat) (L : Option Addr) (m d : Nat) W (h : CS W W.heap.size f Bw Bt Br nw dw nt dt nr dr) (h3 : Sl ics 1 W W.heap.size L m d (M.few f (M.truths f))) => by have := ProveKeeps_ok f Bw Bt Br nw dw nt dt nr dr L m d (M.few f (M.truths f)) hl0 W h h3 hbf; rw [hq] at this; exact this)
 have HIS := hid (fun (B : Option Addr) (m d : Nat) W (h3 : Sl ics 1 W W.heap.size B m d (M.few f (M.truths f))) => by have := rIsTurns_c f Aw At Ar nw cw nt ct nr cr B m d (M.few f (M.truths f)) W h3; rw [hft] at this; exact this)
 have HKS := hid (fun (Tw : Option Addr) (tw twc : Nat) (t : M.Tr) (htr : t ∈ M.rtr f) (B : Option Addr) (m d : Nat) W (hE : Ev w W) (hwt : Sl ics 1 W W.heap.size Tw tw twc t.wet) (h3 : Sl ics 1 W W.heap.size B m d (M.few f (M.truths f))) => by have := Kept_c f Aw At Ar nw cw nt ct nr cr Tw tw twc t B m d (M.few f (M.truths f)) h0 (M.rtr_listed h0 t htr) W (HCS.out.ev hE) hwt h3; rw [List.all_eq_true.1 hq t ((M.rtr_mem h0).1 htr)] at this; exact this)
 have hsh := hid hsh
 clear hr h0 hv ht hpl hbg hbg1 hwl hlast hl9 hq hqp hlw hft hbf
 generalize M.few f (M.truths f) = fw at HFW HPY HIS HKS hfs hsh
 obtain ⟨fn, hfn⟩ : ∃ m, fw.length = m := ⟨_, rfl⟩
 rw [hfn] at HFW hfs
 generalize M.rtr f = ts at HTR HRN HKS
 go_enter Tryz.func4, Tryz.ntmps4
 go_upto_region 3 with (first | (go_at_call 13; with_reducible refine (HRD.out _ (Ev.alloc (Ev.refl _) _)).mono ?_; rintro e w1 ⟨rfl, hb1⟩; have hG : Ev w w1 := (Ev.alloc (Ev.refl _) _).trans hb1; have Q0 := hid (hb1.heap (alloc1 w (.cells #[.int .i64 f.last, .int .i64 f.size, .int .i64 f.cool, .int .i64 f.die, .int .i64 f.burn, .int .i64 f.st.lo, .int .i64 f.st.hi, .slice Aw nw cw, .slice At nt ct, .slice Ar nr cr] 28)).1); obtain ⟨y0, y1, y2, y3, y4, y5, y6, y7, y8, y9⟩ := cells10 Q0.out) | (with_reducible refine ⟨trivial, ?_⟩))
 go_upto_region 4 with (first | (go_at_call 9; with_reducible refine (Heap_c f Aw At Ar nw cw nt ct nr cr (by omega) (by omega) (by omega) _ (HCS.out.ev hG)).mono ?_; rintro e x2 ⟨⟨Bw2, dw2, Bt2, dt2, Br2, dr2, rfl, hc⟩, hb⟩; have HE2 := hid (hG.trans hb); have HV2 := hid (hb); have HC2 := hid hc; clear hc hb) | (go_at_call 8; with_reducible refine (HFW.out Bw2 dw2 Bt2 dt2 Br2 dr2 _ HC2.out).mono ?_; rintro e x3 ⟨⟨FB, fd, rfl, hfo⟩, hb⟩; have HE3 := hid (HE2.out.trans hb); have HV3 := hid (HV2.out.trans hb); have HF3 := hid (Ev.refl x3); have HFS := hid (sl_own (enc := ics) (by decide) (ics_len _) (by omega) hfo); clear hfo; clear hb; clear y0 y1 y2 y3 y4 y5 y6 y7 y8 y9; obtain ⟨y0, y1, y2, y3, y4, y5, y6, y7, y8, y9⟩ := cells10 (HV3.out.heap Q0.out)))
 go_upto_region 5 with (go_at_call 14; with_reducible refine (HTR.out _ HE3.out).mono ?_; rintro e x4 ⟨⟨LB, lm, ld, rfl, hm, htl⟩, hb⟩; have HE4 := hid (HE3.out.trans hb); have HV4 := hid (HV3.out.trans hb); have HF4 := hid (HF3.out.trans hb); have HT4 := hid (Ev.refl x4); have HTL := hid htl; clear htl; clear hb; clear y0 y1 y2 y3 y4 y5 y6 y7 y8 y9; obtain ⟨y0, y1, y2, y3, y4, y5, y6, y7, y8, y9⟩ := cells10 (HV4.out.heap Q0.out))
 go_upto_region 6 with (go_at_call 15; with_reducible refine (HTU.out _).mono ?_; rintro e x5 ⟨⟨BTN, dTN, rfl, htn⟩, hb⟩; have HE5 := hid (HE4.out.trans hb); have HV5 := hid (HV4.out.trans hb); have HF5 := hid (HF4.out.trans hb); have HT5 := hid (HT4.out.trans hb); have HW5 := hid (Ev.refl x5); have HTN := hid htn; clear htn; clear hb; clear y0 y1 y2 y3 y4 y5 y6 y7 y8 y9; obtain ⟨y0, y1, y2, y3, y4, y5, y6, y7, y8, y9⟩ := cells10 (HV5.out.heap Q0.out))
 go_upto_region 7 with (first | (go_at_call 9; with_reducible refine (Heap_c f Aw At Ar nw cw nt ct nr cr (by omega) (by omega) (by omega) _ (HCS.out.ev HE5.out)).mono ?_; rintro e x6 ⟨⟨Bw6, dw6, Bt6, dt6, Br6, dr6, rfl, hc⟩, hb⟩; have HE6 := hid (HE5.out.trans hb); have HV6 := hid (HV5.out.trans hb); have HF6 := hid (HF5.out.trans hb); have HT6 := hid (HT5.out.trans hb); have HW6 := hid (HW5.out.trans hb); have HC6 := hid hc; clear hc hb) | (go_at_call 17; with_reducible refine (list_c BTN pn dTN plan (by omega) _ (HTN.out.ev HW6.out)).mono ?_; rintro e x7 ⟨⟨L7, D7, rfl, hc⟩, hb⟩; have HE7 := hid (HE6.out.trans hb); have HV7 := hid (HV6.out.trans hb); have HF7 := hid (HF6.out.trans hb); have HT7 := hid (HT6.out.trans hb); have HW7 := hid (HW6.out.trans hb); have HL7 := hid (sl_own (enc := ics) (by decide) (ics_len _) (by omega) hc); have HM7 := hid hb; clear hc hb) | (go_at_call 16; with_reducible refine (HPK.out Bw6 dw6 Bt6 dt6 Br6 dr6 L7 D7 _ (HC6.out.ev HM7.out) HL7.out).mono ?_; rintro e x8 ⟨rfl, hb⟩; have HE8 := hid (HE7.out.trans hb); have HV8 := hid (HV7.out.trans hb); have HF8 := hid (HF7.out.trans hb); have HT8 := hid (HT7.out.trans hb); have HW8 := hid (HW7.out.trans hb); clear hb; clear y0 y1 y2 y3 y4 y5 y6 y7 y8 y9; obtain ⟨y0, y1, y2, y3, y4, y5, y6, y7, y8, y9⟩ := cells10 (HV8.out.heap Q0.out)))
 have hll := HTL.out.len
 have hlm0 : 0 < lm := by
  rcases Nat.eq_zero_or_pos lm with h | h
  ·
   rw [h] at hll; exact absurd (List.eq_nil_of_length_eq_zero hll) HRN.out
  ·
   exact h
 have c7_ : ((lm : Int) == 0) = false := by simp; omega
 obtain ⟨q, hqe⟩ : ∃ q, wn % lm = q := ⟨_, rfl⟩
 have hql : q < lm := by rw [← hqe]; exact Nat.mod_lt _ hlm0
 have p0 : ¬ ((lm : Int) = 0) := by omega
 have p0' : ¬ (lm = 0) := by omega
 have p1 : (wn : Int) % (lm : Int) = (q : Int) := by rw [← hqe]; exact (Int.natCast_emod wn lm).symm
 have p2_ : (wn : Int).tmod (lm : Int) = (q : Int) := by rw [Int.tmod_eq_emod_of_nonneg (by omega)]; exact p1
 have p3_ : IntKind.i64.wrap (q : Int) = (q : Int) := IntWalk.i64_in _ (by omega)
 have p4_ : IntKind.i64.wrap (wn : Int) = (wn : Int) := IntWalk.i64_in _ (by omega)
 have p5_ : (0 : Int) ≤ (q : Int) := by omega
 have p6_ : (q : Int) < (lm : Int) := by omega
 clear hqe
 obtain ⟨vs, hvs, hrs⟩ := HTL.out.ev HT8.out
 have hqt : q < ts.length := by omega
 have htk : ts[q]? = some ts[q] := List.getElem?_eq_getElem _
 have htm : ts[q] ∈ ts := List.getElem_mem _
 generalize ts[q] = t at htk htm
 obtain ⟨bt, ot, v, hAt, hbt, hxt, _, hcc⟩ := hvs.at_ (Below.refl _ _) hql
 obtain ⟨t1, t2, t3⟩ := hrs.2 q v t hxt htk
 have e6 := hcc 0 _ rfl
 have e7 := hcc 1 _ rfl
 simp only [Nat.add_zero] at e6
 rw [t1] at e6
 have hcapt := hvs.cap
 have HSW := hid (sl_own (enc := ics) (by decide) (ics_len _) (by omega) t2)
 have HIT := hid (fun W (hE : Ev x3 W) => HIS.out FB fn fd W (HFS.out.ev hE))
 have HKT := hid (fun W (hE : Ev w W) (hF : Ev x3 W) (h8 : Ev x8 W) => HKS.out v.2.1 v.2.2.1 v.2.2.2 t htm FB fn fd W hE (HSW.out.ev h8) (HFS.out.ev hF))
 have HPX := hid (fun (Bw : Option Addr) (dw : Nat) (Bt : Option Addr) (dt : Nat) (Br : Option Addr) (dr : Nat) (L : Option Addr) (d : Nat) W (h : CS W W.heap.size f Bw Bt Br nw dw nt dt nr dr) (h3 : Sl ics 1 W W.heap.size L fn d fw) => HPY.out Bw dw Bt dt Br dr L fn d W h h3)
 have HSH := hid (fun W h1 h2 => by have := Shorter_c BTN FB pn dTN fn fd plan fw W h1 h2; rw [hsh.out] at this; exact this)
 subst hAt
 have l0 := heap_lt (HV8.out.heap Q0.out)
 clear hxt hcc hvs hrs t1 t2 htk htm hll HTL HPY HIS HKS HFW HPK HTR HTU
 have HSE : Hid (∀ w', Ev x8 w' → (∀ o, w'.cell? ⟨w.heap.size, o, none⟩ = x8.cell? ⟨w.heap.size, o, none⟩) ∧ (∀ o, w'.cell? ⟨bt, o, none⟩ = x8.cell? ⟨bt, o, none⟩)) := hid (fun w' h => ⟨fun o => h.cells.1 _ o l0, fun o => h.cells.1 _ o hbt⟩)
 go_upto_region 11 with fail
 refine wp_region_held_drew (S := fun w' => (∀ o, w'.cell? ⟨w.heap.size, o, none⟩ = x8.cell? ⟨w.heap.size, o, none⟩) ∧ (∀ o, w'.cell? ⟨bt, o, none⟩ = x8.cell? ⟨bt, o, none⟩)) (by kernel_rfl) (⟨fun o => rfl, fun o => rfl⟩) (fun hHeld => ?_)
 refine tkH 0 (some 55) ?_
 (try simp only [Act.put, sA, sB, sC])
 refine tkH 1 (some 56) ?_
 (try simp only [Act.put, sA, sB, sC])
 refine wpAnyH_one (i := 2) rfl (by kernel_rfl) (by rfl) (fun K hK => ?_)
 go_simp
 refine (HIT.out _ (HF8.out.trans (Ev.drew (Ev.refl _)))).mono ?_
 rintro e z2 ⟨rfl, hb2⟩
 have hy2 : Ev x8 z2 := Ev.trans (Ev.drew (Ev.refl _)) hb2
 refine hK.out _ _ (HSE.out _ hy2) (fun hHeld => ?_)
 clear hK K
 (try simp only [Act.put, sA, sB, sC])
 refine tkH 3 (some 58) ?_
 (try simp only [Act.put, sA, sB, sC])
 refine tkH 4 (some 59) ?_
 (try simp only [Act.put, sA, sB, sC])
 refine tkH 5 (some 60) ?_
 (try simp only [Act.put, sA, sB, sC])
 refine tkH 6 (some 61) ?_
 (try simp only [Act.put, sA, sB, sC])
 refine tkH 7 (some 62) ?_
 (try simp only [Act.put, sA, sB, sC])
 refine tkH 8 (some 63) ?_
 (try simp only [Act.put, sA, sB, sC])
 refine tkH 9 (some 64) ?_
 (try simp only [Act.put, sA, sB, sC])
 refine tkH 10 (some 65) ?_
 (try simp only [Act.put, sA, sB, sC])
 refine tkH 11 (some 66) ?_
 (try simp only [Act.put, sA, sB, sC])
 refine tkH 12 (some 67) ?_
 (try simp only [Act.put, sA, sB, sC])
 refine tkH 13 (some 68) ?_
 (try simp only [Act.put, sA, sB, sC])
 refine wpAnyH_one (i := 14) rfl (by kernel_rfl) (by rfl) (fun K hK => ?_)
 go_simp
 refine (HKT.out _ (HE8.out.trans hy2) (HF8.out.trans hy2) hy2).mono ?_
 rintro e z14 ⟨rfl, hb14⟩
 have hy14 : Ev x8 z14 := Ev.trans hy2 hb14
 refine hK.out _ _ (HSE.out _ hy14) (fun hHeld => ?_)
 clear hK K
 (try simp only [Act.put, sA, sB, sC])
 refine tkH 15 (some 70) ?_
 (try simp only [Act.put, sA, sB, sC])
 refine tkH 16 (some 71) ?_
 (try simp only [Act.put, sA, sB, sC])
 refine tkH 17 (some 72) ?_
 (try simp only [Act.put, sA, sB, sC])
 refine tkH 19 (some 74) ?_
 (try simp only [Act.put, sA, sB, sC])
 refine wpAnyH_one (i := 18) rfl (by kernel_rfl) (by rfl) (fun K hK => ?_)
 go_simp
 refine (Heap_c f Aw At Ar nw cw nt ct nr cr (by omega) (by omega) (by omega) _ (HCS.out.ev (HE8.out.trans hy14))).mono ?_
 rintro e z18 ⟨⟨Bw9, dw9, Bt9, dt9, Br9, dr9, rfl, hc⟩, hb18⟩
 have hy18 : Ev x8 z18 := Ev.trans hy14 hb18
 refine hK.out _ _ (HSE.out _ hy18) (fun hHeld => ?_)
 clear hK K
 (try simp only [Act.put, sA, sB, sC])
 refine wpAnyH_one (i := 20) rfl (by kernel_rfl) (by rfl) (fun K hK => ?_)
 go_simp
 refine (list_c FB fn fd fw (by omega) _ (HFS.out.ev (HF8.out.trans hy18))).mono ?_
 rintro e z20 ⟨⟨L, dL, rfl, hl3⟩, hb20⟩
 have hy20 : Ev x8 z20 := Ev.trans hy18 hb20
 refine hK.out _ _ (HSE.out _ hy20) (fun hHeld => ?_)
 clear hK K
 (try simp only [Act.put, sA, sB, sC])
 refine wpAnyH_one (i := 21) rfl (by kernel_rfl) (by rfl) (fun K hK => ?_)
 go_simp
 refine (HPX.out Bw9 dw9 Bt9 dt9 Br9 dr9 L dL _ (hc.ev hb20) (sl_own (enc := ics) (by decide) (ics_len _) (by omega) hl3)).mono ?_
 rintro e z21 ⟨rfl, hb21⟩
 have hy21 : Ev x8 z21 := Ev.trans hy20 hb21
 refine hK.out _ _ (HSE.out _ hy21) (fun hHeld => ?_)
 clear hK K
 (try simp only [Act.put, sA, sB, sC])
 refine tkH 22 (some 77) ?_
 (try simp only [Act.put, sA, sB, sC])
 refine tkH 23 (some 78) ?_
 (try simp only [Act.put, sA, sB, sC])
 refine tkH 24 (some 79) ?_
 (try simp only [Act.put, sA, sB, sC])
 refine tkH 25 (some 80) ?_
 (try simp only [Act.put, sA, sB, sC])
 refine tkH 26 (some 81) ?_
 (try simp only [Act.put, sA, sB, sC])
 refine tkH 27 (some 82) ?_
 (try simp only [Act.put, sA, sB, sC])
 refine tkH 28 (some 83) ?_
 (try simp only [Act.put, sA, sB, sC])
 refine wpAnyH_one (i := 29) rfl (by kernel_rfl) (by rfl) (fun K hK => ?_)
 go_simp
 refine (HSH.out _ (HTN.out.ev (HW8.out.trans hy21)) (HFS.out.ev (HF8.out.trans hy21))).mono ?_
 rintro e z29 ⟨rfl, hb29⟩
 have hy29 : Ev x8 z29 := Ev.trans hy21 hb29
 refine hK.out _ _ (HSE.out _ hy29) (fun hHeld => ?_)
 clear hK K
 (try simp only [Act.put, sA, sB, sC])
 refine tkH 30 (some 85) ?_
 (try simp only [Act.put, sA, sB, sC])
 refine tkH 31 (some 86) ?_
 (try simp only [Act.put, sA, sB, sC])
 refine tkH 32 (some 87) ?_
 (try simp only [Act.put, sA, sB, sC])
 refine tkH 33 (some 88) ?_
 (try simp only [Act.put, sA, sB, sC])
 refine wpAnyH_one (i := 34) rfl (by kernel_rfl) (by rfl) (fun K hK => ?_)
 go_simp
 refine (awake_c _).mono ?_
 rintro e z34 ⟨rfl, hb34⟩
 have hy34 : Ev x8 z34 := Ev.trans hy29 hb34
 refine hK.out _ _ (HSE.out _ hy34) (fun hHeld => ?_)
 clear hK K
 (try simp only [Act.put, sA, sB, sC])
 refine tkH 35 (some 90) ?_
 (try simp only [Act.put, sA, sB, sC])
 refine tkH 36 (some 6) ?_
 (try simp only [Act.put, sA, sB, sC])
 refine wpAnyH_done (by kernel_rfl) ?_ _
 go_wp2_with fail
 go_ret
 exact ⟨rfl, HE8.out.trans hy34⟩

theorem couchShortest_yes (f : M.Cf) (Aw At Ar : Option Addr) (nw cw nt ct nr cr : Nat) (hl0 : -9223372036854775808 ≤ f.last) (wn : Nat) (hwn : wn < 65536) (n : Nat) (hn : n < 65536) (w : World) (HCS : Hid (CS w w.heap.size f Aw At Ar nw cw nt ct nr cr)) (hr : M.rdy f nw nt nr = true) (hsm : M.small nw nt nr) (h0 : M.check f = 0) :
  Calls Tryz.prog 4 #[.agg #[.int .i64 f.last, .int .i64 f.size, .int .i64 f.cool, .int .i64 f.die, .int .i64 f.burn, .int .i64 f.st.lo, .int .i64 f.st.hi, .slice Aw nw cw, .slice At nt ct, .slice Ar nr cr], .int .u16 (wn : Int), .int .u16 (n : Int)] w fun e w' => e = .returned (.bool true) ∧ Ev w w' := by
 by_cases ht : M.truths f = []
 ·
  exact couchShortest_e f Aw At Ar nw cw nt ct nr cr hl0 wn hwn n hn w HCS hr hsm h0 ht
 ·
  cases hq : ((M.truths f).all fun t => M.stays f t (M.few f (M.truths f))) with
  | false => exact couchShortest_s f Aw At Ar nw cw nt ct nr cr hl0 wn hwn n hn w HCS hr hsm h0 ht hq
  | true =>
   cases hqp : ((M.truths f).all fun t => M.stays f t (M.trn f n)) with
   | false => exact couchShortest_k0 f Aw At Ar nw cw nt ct nr cr hl0 wn hwn n hn w HCS hr hsm h0 ht hq hqp
   | true => exact couchShortest_k1 f Aw At Ar nw cw nt ct nr cr hl0 wn hwn n hn w HCS hr hsm h0 ht hq hqp
theorem couchShortest_c (f : M.Cf) (Aw At Ar : Option Addr) (nw cw nt ct nr cr : Nat) (hl0 : -9223372036854775808 ≤ f.last) (wn : Nat) (hwn : wn < 65536) (n : Nat) (hn : n < 65536) (w : World) (hs : M.small nw nt nr → CS w w.heap.size f Aw At Ar nw cw nt ct nr cr) :
  Calls Tryz.prog 4 #[.agg #[.int .i64 f.last, .int .i64 f.size, .int .i64 f.cool, .int .i64 f.die, .int .i64 f.burn, .int .i64 f.st.lo, .int .i64 f.st.hi, .slice Aw nw cw, .slice At nt ct, .slice Ar nr cr], .int .u16 (wn : Int), .int .u16 (n : Int)] w fun e w' => e = .returned (.bool true) ∧ Ev w w' := by
 cases hr : M.rdy f nw nt nr with
 | false => exact couchShortest_no f Aw At Ar nw cw nt ct nr cr hl0 wn hwn n hn w hs hr
 | true =>
  have h1 := hr
  unfold M.rdy at h1
  rw [Bool.and_eq_true, Bool.and_eq_true, decide_eq_true_eq, decide_eq_true_eq] at h1
  obtain ⟨⟨hsm, _⟩, h0⟩ := h1
  exact couchShortest_yes f Aw At Ar nw cw nt ct nr cr hl0 wn hwn n hn w (hid (hs hsm)) hr hsm h0

theorem couchShortest_i (f : M.Cf) (Aw At Ar : Option Addr) (nw cw nt ct nr cr : Nat) (hl0 : -9223372036854775808 ≤ f.last) (a1 : Int) (p1 : 0 ≤ a1) (q1 : a1 < 65536) (a2 : Int) (p2 : 0 ≤ a2) (q2 : a2 < 65536) (w : World) (hs : M.small nw nt nr → CS w w.heap.size f Aw At Ar nw cw nt ct nr cr) :
  Calls Tryz.prog 4 #[.agg #[.int .i64 f.last, .int .i64 f.size, .int .i64 f.cool, .int .i64 f.die, .int .i64 f.burn, .int .i64 f.st.lo, .int .i64 f.st.hi, .slice Aw nw cw, .slice At nt ct, .slice Ar nr cr], .int .u16 a1, .int .u16 a2] w fun e w' => e = .returned (.bool true) ∧ Ev w w' := by
 obtain ⟨n1, rfl⟩ : ∃ n : Nat, a1 = n := ⟨a1.toNat, by omega⟩
 obtain ⟨n2, rfl⟩ : ∃ n : Nat, a2 = n := ⟨a2.toNat, by omega⟩
 exact couchShortest_c f Aw At Ar nw cw nt ct nr cr hl0 n1 (by omega) n2 (by omega) w hs

end Go.Proofs.YtgimcephbeajlaaGreat
