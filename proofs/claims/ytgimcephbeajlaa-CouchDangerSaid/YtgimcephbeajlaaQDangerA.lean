import Derived.Test.YtgimcephbeajlaaC36
import Derived.Test.YtgimcephbeajlaaC27
import Derived.Test.YtgimcephbeajlaaC23
import Derived.Test.YtgimcephbeajlaaC24
import Derived.Test.YtgimcephbeajlaaC35
set_option linter.unusedSimpArgs false
set_option linter.unusedVariables false
namespace Go.Proofs.Ytgimcephbeajlaa
open Go.RowKit Go.Shelf

theorem M.seek_some (q : Nat → Bool) : ∀ (n k i : Nat), M.seek q n k = some i → k ≤ i ∧ i < k + n ∧ q i = true ∧ ∀ j, k ≤ j → j < i → q j = false
 | 0, k, i, h => by simp [M.seek] at h
 | n + 1, k, i, h => by
  rw [M.seek] at h
  cases hq : q k with
  | true =>
   rw [hq, if_pos rfl] at h
   obtain rfl := Option.some.inj h
   exact ⟨Nat.le_refl _, by omega, hq, fun j h1 h2 => by omega⟩
  | false =>
   rw [hq, if_neg (by decide)] at h
   obtain ⟨h1, h2, h3, h4⟩ := M.seek_some q n (k + 1) i h
   refine ⟨by omega, by omega, h3, fun j h5 h6 => ?_⟩
   by_cases hj : j = k
   ·
    rw [hj]; exact hq
   ·
    exact h4 j (by omega) h6
theorem M.seek_none (q : Nat → Bool) : ∀ (n k : Nat), M.seek q n k = none → ∀ j, k ≤ j → j < k + n → q j = false
 | 0, k, _, j, h1, h2 => by omega
 | n + 1, k, h, j, h1, h2 => by
  rw [M.seek] at h
  cases hq : q k with
  | true => rw [hq, if_pos rfl] at h; cases h
  | false =>
   rw [hq, if_neg (by decide)] at h
   by_cases hj : j = k
   ·
    rw [hj]; exact hq
   ·
    exact M.seek_none q n (k + 1) h j (by omega) (by omega)
theorem M.safe_iff {f : M.Cf} (hv : M.valid f = true) {ts : List M.Tr} (hts : ∀ t ∈ ts, M.listed f t = true) (plan : List Int) {i : Nat} (hi : i < f.wet.length) : (M.burnsAt f ts plan i || M.diesAt f ts plan i) = false ↔ ∀ t ∈ ts, M.isIn (M.heatN f t plan (i + 1)) f.die f.burn = true := by
 unfold M.burnsAt M.diesAt
 rw [Bool.or_eq_false_iff, List.any_eq_false, List.any_eq_false]
 constructor
 ·
  rintro ⟨h1, h2⟩ t ht
  have a := h1 _ (List.mem_map.2 ⟨t, ht, rfl⟩)
  have b := h2 _ (List.mem_map.2 ⟨t, ht, rfl⟩)
  rw [M.heats_getD plan (by rw [(M.listed_bd hv (hts t ht)).2.1]; exact hi), decide_eq_true_eq] at a b
  unfold M.isIn
  simp only [Bool.and_eq_true, decide_eq_true_eq]
  omega
 ·
  intro h
  refine ⟨fun x hx => ?_, fun x hx => ?_⟩ <;> (
   obtain ⟨t, ht, rfl⟩ := List.mem_map.1 hx
   have a := h t ht
   unfold M.isIn at a
   simp only [Bool.and_eq_true, decide_eq_true_eq] at a
   rw [M.heats_getD plan (by rw [(M.listed_bd hv (hts t ht)).2.1]; exact hi), decide_eq_true_eq]
   omega)
theorem M.fear_none {f : M.Cf} (hv : M.valid f = true) {ts : List M.Tr} (hts : ∀ t ∈ ts, M.listed f t = true) {plan : List Int} (h : M.fear f ts plan = none) : M.keepsOf f ts plan = 1 := by
 unfold M.fear at h
 have hs := M.seek_none _ _ _ h
 unfold M.keepsOf
 rw [if_pos]
 rw [List.all_eq_true]
 intro t ht
 rw [M.stays_iff hv (hts t ht)]
 intro j hj
 exact (M.safe_iff hv hts plan hj).1 (hs j (by omega) (by omega)) t ht
theorem M.fear_some {f : M.Cf} (hv : M.valid f = true) {ts : List M.Tr} (hts : ∀ t ∈ ts, M.listed f t = true) {plan : List Int} {i : Nat} (h : M.fear f ts plan = some i) : (M.keepsOf f ts plan == 1) = false ∧ i < f.wet.length ∧ (M.burnsAt f ts plan i || M.diesAt f ts plan i) = true ∧ ∀ j, j < i → ∀ t ∈ ts, M.isIn (M.heatN f t plan (j + 1)) f.die f.burn = true := by
 unfold M.fear at h
 obtain ⟨_, h2, h3, h4⟩ := M.seek_some _ _ _ _ h
 have hi : i < f.wet.length := by omega
 refine ⟨?_, hi, h3, fun j hj => (M.safe_iff hv hts plan (by omega)).1 (h4 j (by omega) hj)⟩
 rw [M.keeps_one]
 cases ha : ts.all fun t => M.stays f t plan with
 | false => rfl
 | true =>
  rw [List.all_eq_true] at ha
  have := (M.safe_iff hv hts plan hi).2 (fun t ht => (M.stays_iff hv (hts t ht) plan).1 (ha t ht) i hi)
  rw [this] at h3
  cases h3

set_option maxRecDepth 100000 in
set_option maxHeartbeats 2000000 in
theorem couchDanger_no (f : M.Cf) (Aw At Ar : Option Addr) (nw cw nt ct nr cr : Nat) (hl0 : -9223372036854775808 ≤ f.last) (wn : Nat) (hwn : wn < 65536) (n : Nat) (hn : n < 65536) (w : World) (hs : M.small nw nt nr → CS w w.heap.size f Aw At Ar nw cw nt ct nr cr) (hno : M.rdy f nw nt nr = false) :
  Calls Try.prog 11 #[.agg #[.int .i64 f.last, .int .i64 f.size, .int .i64 f.cool, .int .i64 f.die, .int .i64 f.burn, .int .i64 f.st.lo, .int .i64 f.st.hi, .slice Aw nw cw, .slice At nt ct, .slice Ar nr cr], .int .u16 (wn : Int), .int .u16 (n : Int)] w fun e w' => e = .returned (.bool true) ∧ Ev w w' := by
 have HRD := hid (fun W (hE : Ev w W) => by have := ready_c f Aw At Ar nw cw nt ct nr cr hl0 W (fun h => (hs h).ev hE); rw [hno] at this; exact this)
 clear hs hno
 go_enter Try.func11, Try.ntmps11
 go_wp2_with (first | (go_at_call 50; with_reducible refine (HRD.out _ (Ev.alloc (Ev.refl _) _)).mono ?_; rintro e w1 ⟨rfl, hb1⟩; have hG : Ev w w1 := (Ev.alloc (Ev.refl _) _).trans hb1; have Q0 := hid (hb1.heap (alloc1 w (.cells #[.int .i64 f.last, .int .i64 f.size, .int .i64 f.cool, .int .i64 f.die, .int .i64 f.burn, .int .i64 f.st.lo, .int .i64 f.st.hi, .slice Aw nw cw, .slice At nt ct, .slice Ar nr cr] 28)).1); obtain ⟨y0, y1, y2, y3, y4, y5, y6, y7, y8, y9⟩ := cells10 Q0.out) | (go_at_call 19; with_reducible refine (awake_c _).mono ?_; rintro e w99 ⟨rfl, hb99⟩) | (with_reducible refine ⟨trivial, ?_⟩))
 go_ret
 exact ⟨rfl, hG.trans hb99⟩

set_option maxRecDepth 100000 in
set_option maxHeartbeats 4000000 in
theorem couchDanger_e (f : M.Cf) (Aw At Ar : Option Addr) (nw cw nt ct nr cr : Nat) (hl0 : -9223372036854775808 ≤ f.last) (wn : Nat) (hwn : wn < 65536) (n : Nat) (hn : n < 65536) (w : World) (HCS : Hid (CS w w.heap.size f Aw At Ar nw cw nt ct nr cr)) (hr : M.rdy f nw nt nr = true) (hsm : M.small nw nt nr) (h0 : M.check f = 0) (ht : M.truths f = []) :
  Calls Try.prog 11 #[.agg #[.int .i64 f.last, .int .i64 f.size, .int .i64 f.cool, .int .i64 f.die, .int .i64 f.burn, .int .i64 f.st.lo, .int .i64 f.st.hi, .slice Aw nw cw, .slice At nt ct, .slice Ar nr cr], .int .u16 (wn : Int), .int .u16 (n : Int)] w fun e w' => e = .returned (.bool true) ∧ Ev w w' := by
 obtain ⟨s0, s1, s2⟩ := hsm
 have HRD := hid (fun W (hE : Ev w W) => by have := ready_c f Aw At Ar nw cw nt ct nr cr hl0 W (fun _ => HCS.out.ev hE); rw [hr] at this; exact this)
 obtain ⟨hl9, _, hv, _⟩ := M.check0 h0
 have hlast := (M.valid_parts hv).2.2.2.2.2.1
 have hwl := HCS.out.w_.len
 have hnl : (nw : Int) = f.last + 1 := by omega
 have hpl := M.trn_ok hv n
 have HTU := hid (fun W => turned_c f Aw At Ar nw cw nt ct nr cr hv hl9 n hn W)
 have hpnl := M.trn_len f n
 obtain ⟨plan, hplan⟩ : ∃ p, M.trn f n = p := ⟨_, rfl⟩
 obtain ⟨pn, hpn⟩ : ∃ p, plan.length = p := ⟨_, rfl⟩
 rw [hplan, hpn] at HTU
 rw [hplan] at hpl hpnl
 rw [hpn] at hpnl
 clear hplan
 have HTR := hid (fun W (hE : Ev w W) => Truths_c f Aw At Ar nw cw nt ct nr cr h0 W (HCS.out.ev hE))
 have hbg : M.begin f (M.isTurns f plan) = 11 := by unfold M.begin; rw [if_neg (by simp [h0]), hpl, if_neg (by simp), if_pos ht]
 have HFE := hid (fun (Bw : Option Addr) (dw : Nat) (Bt : Option Addr) (dt : Nat) (Br : Option Addr) (dr : Nat) (L : Option Addr) (d : Nat) W (h : CS W W.heap.size f Bw Bt Br nw dw nt dt nr dr) (h3 : Sl ics 1 W W.heap.size L pn d plan) => Fear_err f Bw Bt Br nw dw nt dt nr dr L pn d plan hl0 W h h3 (by rw [hbg]; decide))
 have HBO := hid (fun (Bw : Option Addr) (dw : Nat) (Bt : Option Addr) (dt : Nat) (Br : Option Addr) (dr : Nat) (L : Option Addr) (d : Nat) W (h : CS W W.heap.size f Bw Bt Br nw dw nt dt nr dr) (h3 : Sl ics 1 W W.heap.size L pn d plan) => Bounds_err f Bw Bt Br nw dw nt dt nr dr L pn d plan hl0 W h h3 (by rw [hbg]; decide))
 have HKE := hid (fun (Bw : Option Addr) (dw : Nat) (Bt : Option Addr) (dt : Nat) (Br : Option Addr) (dr : Nat) (L : Option Addr) (d : Nat) W (h : CS W W.heap.size f Bw Bt Br nw dw nt dt nr dr) (h3 : Sl ics 1 W W.heap.size L pn d plan) => Keeps_err f Bw Bt Br nw dw nt dt nr dr L pn d plan hl0 W h h3 (by rw [hbg]; decide))
 rw [hbg] at HFE HBO HKE
 have HRN := hid ((M.rtr_nil h0).2 ht)
 clear hr h0 hv ht hpl hbg hwl hlast hl9
 go_enter Try.func11, Try.ntmps11
 go_upto_region 3 with (first | (go_at_call 50; with_reducible refine (HRD.out _ (Ev.alloc (Ev.refl _) _)).mono ?_; rintro e w1 ⟨rfl, hb1⟩; have hG : Ev w w1 := (Ev.alloc (Ev.refl _) _).trans hb1; have Q0 := hid (hb1.heap (alloc1 w (.cells #[.int .i64 f.last, .int .i64 f.size, .int .i64 f.cool, .int .i64 f.die, .int .i64 f.burn, .int .i64 f.st.lo, .int .i64 f.st.hi, .slice Aw nw cw, .slice At nt ct, .slice Ar nr cr] 28)).1); obtain ⟨y0, y1, y2, y3, y4, y5, y6, y7, y8, y9⟩ := cells10 Q0.out) | (with_reducible refine ⟨trivial, ?_⟩))
 go_upto_region 4 with (go_at_call 52; with_reducible refine (HTU.out _).mono ?_; rintro e x2 ⟨⟨BTN, dTN, rfl, htn⟩, hb⟩; have HE2 := hid (hG.trans hb); have HV2 := hid (hb); have HW2 := hid (Ev.refl x2); have HTN := hid htn; clear htn; clear hb; clear y0 y1 y2 y3 y4 y5 y6 y7 y8 y9; obtain ⟨y0, y1, y2, y3, y4, y5, y6, y7, y8, y9⟩ := cells10 (HV2.out.heap Q0.out))
 go_upto_region 5 with (first | (go_at_call 21; with_reducible refine (Heap_c f Aw At Ar nw cw nt ct nr cr (by omega) (by omega) (by omega) _ (HCS.out.ev HE2.out)).mono ?_; rintro e x3 ⟨⟨Bw3, dw3, Bt3, dt3, Br3, dr3, rfl, hc⟩, hb⟩; have HE3 := hid (HE2.out.trans hb); have HV3 := hid (HV2.out.trans hb); have HW3 := hid (HW2.out.trans hb); have HC3 := hid hc; clear hc hb) | (go_at_call 23; with_reducible refine (list_c BTN pn dTN plan (by omega) _ (HTN.out.ev HW3.out)).mono ?_; rintro e x4 ⟨⟨L4, D4, rfl, hc⟩, hb⟩; have HE4 := hid (HE3.out.trans hb); have HV4 := hid (HV3.out.trans hb); have HW4 := hid (HW3.out.trans hb); have HL4 := hid (sl_own (enc := ics) (by decide) (ics_len _) (by omega) hc); have HM4 := hid hb; clear hc hb) | (go_at_call 38; with_reducible refine (HFE.out Bw3 dw3 Bt3 dt3 Br3 dr3 L4 D4 _ (HC3.out.ev HM4.out) HL4.out).mono ?_; rintro e x5 ⟨rfl, hb⟩; have HE5 := hid (HE4.out.trans hb); have HV5 := hid (HV4.out.trans hb); have HW5 := hid (HW4.out.trans hb); clear hb; clear y0 y1 y2 y3 y4 y5 y6 y7 y8 y9; obtain ⟨y0, y1, y2, y3, y4, y5, y6, y7, y8, y9⟩ := cells10 (HV5.out.heap Q0.out)))
 generalize hWA : World.alloc x5 _ = x6
 have hEA : Ev x5 x6 := by rw [← hWA]; exact Ev.alloc (Ev.refl _) _
 have hal := alloc1 x5 (.cells #[.int .i64 0, .bool false, .bool false] 64)
 rw [hWA] at hal
 have HR := hid hal.1
 have hpp : w.heap.size ≠ x5.heap.size := by have := heap_lt (HV5.out.heap Q0.out); omega
 have HE6 := hid (HE5.out.trans hEA)
 have HV6 := hid (HV5.out.trans hEA)
 have HW6 := hid (HW5.out.trans hEA)
 have HA6 := hid (Ev.refl x6)
 clear hal hWA hEA y0 y1 y2 y3 y4 y5 y6 y7 y8 y9
 generalize x5.heap.size = p at HR hpp
 obtain ⟨y0, y1, y2, y3, y4, y5, y6, y7, y8, y9⟩ := cells10 (HV6.out.heap Q0.out)
 go_upto_region 6 with (first | (go_at_call 21; with_reducible refine (Heap_c f Aw At Ar nw cw nt ct nr cr (by omega) (by omega) (by omega) _ (HCS.out.ev HE6.out)).mono ?_; rintro e x7 ⟨⟨Bw7, dw7, Bt7, dt7, Br7, dr7, rfl, hc⟩, hb⟩; have HE7 := hid (HE6.out.trans hb); have HV7 := hid (HV6.out.trans hb); have HW7 := hid (HW6.out.trans hb); have HA7 := hid (HA6.out.trans hb); have HC7 := hid hc; clear hc hb) | (go_at_call 23; with_reducible refine (list_c BTN pn dTN plan (by omega) _ (HTN.out.ev HW7.out)).mono ?_; rintro e x8 ⟨⟨L8, D8, rfl, hc⟩, hb⟩; have HE8 := hid (HE7.out.trans hb); have HV8 := hid (HV7.out.trans hb); have HW8 := hid (HW7.out.trans hb); have HA8 := hid (HA7.out.trans hb); have HL8 := hid (sl_own (enc := ics) (by decide) (ics_len _) (by omega) hc); have HM8 := hid hb; clear hc hb) | (go_at_call 31; with_reducible refine (HBO.out Bw7 dw7 Bt7 dt7 Br7 dr7 L8 D8 _ (HC7.out.ev HM8.out) HL8.out).mono ?_; rintro e x9 ⟨rfl, hb⟩; have HE9 := hid (HE8.out.trans hb); have HV9 := hid (HV8.out.trans hb); have HW9 := hid (HW8.out.trans hb); have HA9 := hid (HA8.out.trans hb); have HB9 := hid (Ev.refl x9); clear hb; clear y0 y1 y2 y3 y4 y5 y6 y7 y8 y9; obtain ⟨y0, y1, y2, y3, y4, y5, y6, y7, y8, y9⟩ := cells10 (HV9.out.heap Q0.out)))
 go_upto_region 7 with (first | (go_at_call 21; with_reducible refine (Heap_c f Aw At Ar nw cw nt ct nr cr (by omega) (by omega) (by omega) _ (HCS.out.ev HE9.out)).mono ?_; rintro e x10 ⟨⟨Bw10, dw10, Bt10, dt10, Br10, dr10, rfl, hc⟩, hb⟩; have HE10 := hid (HE9.out.trans hb); have HV10 := hid (HV9.out.trans hb); have HW10 := hid (HW9.out.trans hb); have HA10 := hid (HA9.out.trans hb); have HB10 := hid (HB9.out.trans hb); have HC10 := hid hc; clear hc hb) | (go_at_call 23; with_reducible refine (list_c BTN pn dTN plan (by omega) _ (HTN.out.ev HW10.out)).mono ?_; rintro e x11 ⟨⟨L11, D11, rfl, hc⟩, hb⟩; have HE11 := hid (HE10.out.trans hb); have HV11 := hid (HV10.out.trans hb); have HW11 := hid (HW10.out.trans hb); have HA11 := hid (HA10.out.trans hb); have HB11 := hid (HB10.out.trans hb); have HL11 := hid (sl_own (enc := ics) (by decide) (ics_len _) (by omega) hc); have HM11 := hid hb; clear hc hb) | (go_at_call 32; with_reducible refine (HKE.out Bw10 dw10 Bt10 dt10 Br10 dr10 L11 D11 _ (HC10.out.ev HM11.out) HL11.out).mono ?_; rintro e x12 ⟨rfl, hb⟩; have HE12 := hid (HE11.out.trans hb); have HV12 := hid (HV11.out.trans hb); have HW12 := hid (HW11.out.trans hb); have HA12 := hid (HA11.out.trans hb); have HB12 := hid (HB11.out.trans hb); clear hb; clear y0 y1 y2 y3 y4 y5 y6 y7 y8 y9; obtain ⟨y0, y1, y2, y3, y4, y5, y6, y7, y8, y9⟩ := cells10 (HV12.out.heap Q0.out)))
 go_upto_region 8 with (go_at_call 55; with_reducible refine (HTR.out _ HE12.out).mono ?_; rintro e x13 ⟨⟨LB, lm, ld, rfl, hm, htl⟩, hb⟩; have HE13 := hid (HE12.out.trans hb); have HV13 := hid (HV12.out.trans hb); have HW13 := hid (HW12.out.trans hb); have HA13 := hid (HA12.out.trans hb); have HB13 := hid (HB12.out.trans hb); have HTL := hid htl; clear htl; clear hb; clear y0 y1 y2 y3 y4 y5 y6 y7 y8 y9; obtain ⟨y0, y1, y2, y3, y4, y5, y6, y7, y8, y9⟩ := cells10 (HV13.out.heap Q0.out))
 have hlm : lm = 0 := by rw [← HTL.out.len, HRN.out]; rfl
 subst hlm
 go_wp2_with (first | (go_at_call 19; with_reducible refine (awake_c _).mono ?_; rintro e w99 ⟨rfl, hb99⟩) | (with_reducible refine ⟨trivial, ?_⟩))
 go_ret
 exact ⟨rfl, HE13.out.trans hb99⟩

set_option maxRecDepth 100000 in
set_option maxHeartbeats 4000000 in
theorem couchDanger_n (f : M.Cf) (Aw At Ar : Option Addr) (nw cw nt ct nr cr : Nat) (hl0 : -9223372036854775808 ≤ f.last) (wn : Nat) (hwn : wn < 65536) (n : Nat) (hn : n < 65536) (w : World) (HCS : Hid (CS w w.heap.size f Aw At Ar nw cw nt ct nr cr)) (hr : M.rdy f nw nt nr = true) (hsm : M.small nw nt nr) (h0 : M.check f = 0) (ht : M.truths f ≠ []) (hfr : M.fear f (M.truths f) (M.trn f n) = none) :
  Calls Try.prog 11 #[.agg #[.int .i64 f.last, .int .i64 f.size, .int .i64 f.cool, .int .i64 f.die, .int .i64 f.burn, .int .i64 f.st.lo, .int .i64 f.st.hi, .slice Aw nw cw, .slice At nt ct, .slice Ar nr cr], .int .u16 (wn : Int), .int .u16 (n : Int)] w fun e w' => e = .returned (.bool true) ∧ Ev w w' := by
 have hfr' := hfr
 obtain ⟨s0, s1, s2⟩ := hsm
 have HRD := hid (fun W (hE : Ev w W) => by have := ready_c f Aw At Ar nw cw nt ct nr cr hl0 W (fun _ => HCS.out.ev hE); rw [hr] at this; exact this)
 obtain ⟨hl9, _, hv, _⟩ := M.check0 h0
 have hlast := (M.valid_parts hv).2.2.2.2.2.1
 have hwl := HCS.out.w_.len
 have hnl : (nw : Int) = f.last + 1 := by omega
 have hpl := M.trn_ok hv n
 have HTU := hid (fun W => turned_c f Aw At Ar nw cw nt ct nr cr hv hl9 n hn W)
 have hpnl := M.trn_len f n
 obtain ⟨plan, hplan⟩ : ∃ p, M.trn f n = p := ⟨_, rfl⟩
 obtain ⟨pn, hpn⟩ : ∃ p, plan.length = p := ⟨_, rfl⟩
 rw [hplan, hpn] at HTU
 rw [hplan] at hpl hpnl hfr
 rw [hpn] at hpnl
 clear hplan
 have HTR := hid (fun W (hE : Ev w W) => Truths_c f Aw At Ar nw cw nt ct nr cr h0 W (HCS.out.ev hE))
 have hbg : M.begin f (M.isTurns f plan) = 0 := by unfold M.begin; rw [if_neg (by simp [h0]), hpl, if_neg (by simp), if_neg ht]
 have htl0 := M.truths_listed h0
 have HRN := hid (fun e => ht ((M.rtr_nil h0).1 e))
 have c6_ : ((nw : Int) != f.last + 1) = false := by simp; omega
 have g6_ : IntKind.i64.wrap (f.last + 1) = f.last + 1 := IntWalk.i64_in _ (by omega)
 have HFE := hid (fun (Bw : Option Addr) (dw : Nat) (Bt : Option Addr) (dt : Nat) (Br : Option Addr) (dr : Nat) (L : Option Addr) (d : Nat) W (h : CS W W.heap.size f Bw Bt Br nw dw nt dt nr dr) (h3 : Sl ics 1 W W.heap.size L pn d plan) => Fear_none f Bw Bt Br nw dw nt dt nr dr L pn d plan hl0 W h h3 hbg hfr)
 have HBO := hid (fun (Bw : Option Addr) (dw : Nat) (Bt : Option Addr) (dt : Nat) (Br : Option Addr) (dr : Nat) (L : Option Addr) (d : Nat) W (h : CS W W.heap.size f Bw Bt Br nw dw nt dt nr dr) (h3 : Sl ics 1 W W.heap.size L pn d plan) => Bounds_ok f Bw Bt Br nw dw nt dt nr dr L pn d plan hl0 W h h3 hbg)
 have HKE := hid (fun (Bw : Option Addr) (dw : Nat) (Bt : Option Addr) (dt : Nat) (Br : Option Addr) (dr : Nat) (L : Option Addr) (d : Nat) W (h : CS W W.heap.size f Bw Bt Br nw dw nt dt nr dr) (h3 : Sl ics 1 W W.heap.size L pn d plan) => Keeps_ok f Bw Bt Br nw dw nt dt nr dr L pn d plan hl0 W h h3 hbg)
 rw [M.fear_none hv htl0 hfr] at HKE
 clear hr h0 hv ht hpl hbg hwl hlast hl9 htl0 hfr hfr'
 go_enter Try.func11, Try.ntmps11
 go_upto_region 3 with (first | (go_at_call 50; with_reducible refine (HRD.out _ (Ev.alloc (Ev.refl _) _)).mono ?_; rintro e w1 ⟨rfl, hb1⟩; have hG : Ev w w1 := (Ev.alloc (Ev.refl _) _).trans hb1; have Q0 := hid (hb1.heap (alloc1 w (.cells #[.int .i64 f.last, .int .i64 f.size, .int .i64 f.cool, .int .i64 f.die, .int .i64 f.burn, .int .i64 f.st.lo, .int .i64 f.st.hi, .slice Aw nw cw, .slice At nt ct, .slice Ar nr cr] 28)).1); obtain ⟨y0, y1, y2, y3, y4, y5, y6, y7, y8, y9⟩ := cells10 Q0.out) | (with_reducible refine ⟨trivial, ?_⟩))
 go_upto_region 4 with (go_at_call 52; with_reducible refine (HTU.out _).mono ?_; rintro e x2 ⟨⟨BTN, dTN, rfl, htn⟩, hb⟩; have HE2 := hid (hG.trans hb); have HV2 := hid (hb); have HW2 := hid (Ev.refl x2); have HTN := hid htn; clear htn; clear hb; clear y0 y1 y2 y3 y4 y5 y6 y7 y8 y9; obtain ⟨y0, y1, y2, y3, y4, y5, y6, y7, y8, y9⟩ := cells10 (HV2.out.heap Q0.out))
 go_upto_region 5 with (first | (go_at_call 21; with_reducible refine (Heap_c f Aw At Ar nw cw nt ct nr cr (by omega) (by omega) (by omega) _ (HCS.out.ev HE2.out)).mono ?_; rintro e x3 ⟨⟨Bw3, dw3, Bt3, dt3, Br3, dr3, rfl, hc⟩, hb⟩; have HE3 := hid (HE2.out.trans hb); have HV3 := hid (HV2.out.trans hb); have HW3 := hid (HW2.out.trans hb); have HC3 := hid hc; clear hc hb) | (go_at_call 23; with_reducible refine (list_c BTN pn dTN plan (by omega) _ (HTN.out.ev HW3.out)).mono ?_; rintro e x4 ⟨⟨L4, D4, rfl, hc⟩, hb⟩; have HE4 := hid (HE3.out.trans hb); have HV4 := hid (HV3.out.trans hb); have HW4 := hid (HW3.out.trans hb); have HL4 := hid (sl_own (enc := ics) (by decide) (ics_len _) (by omega) hc); have HM4 := hid hb; clear hc hb) | (go_at_call 38; with_reducible refine (HFE.out Bw3 dw3 Bt3 dt3 Br3 dr3 L4 D4 _ (HC3.out.ev HM4.out) HL4.out).mono ?_; rintro e x5 ⟨rfl, hb⟩; have HE5 := hid (HE4.out.trans hb); have HV5 := hid (HV4.out.trans hb); have HW5 := hid (HW4.out.trans hb); clear hb; clear y0 y1 y2 y3 y4 y5 y6 y7 y8 y9; obtain ⟨y0, y1, y2, y3, y4, y5, y6, y7, y8, y9⟩ := cells10 (HV5.out.heap Q0.out)))
 generalize hWA : World.alloc x5 _ = x6
 have hEA : Ev x5 x6 := by rw [← hWA]; exact Ev.alloc (Ev.refl _) _
 have hal := alloc1 x5 (.cells #[.int .i64 0, .bool false, .bool false] 64)
 rw [hWA] at hal
 have HR := hid hal.1
 have hpp : w.heap.size ≠ x5.heap.size := by have := heap_lt (HV5.out.heap Q0.out); omega
 have HE6 := hid (HE5.out.trans hEA)
 have HV6 := hid (HV5.out.trans hEA)
 have HW6 := hid (HW5.out.trans hEA)
 have HA6 := hid (Ev.refl x6)
 clear hal hWA hEA y0 y1 y2 y3 y4 y5 y6 y7 y8 y9
 generalize x5.heap.size = p at HR hpp
 obtain ⟨y0, y1, y2, y3, y4, y5, y6, y7, y8, y9⟩ := cells10 (HV6.out.heap Q0.out)
 go_upto_region 6 with (first | (go_at_call 21; with_reducible refine (Heap_c f Aw At Ar nw cw nt ct nr cr (by omega) (by omega) (by omega) _ (HCS.out.ev HE6.out)).mono ?_; rintro e x7 ⟨⟨Bw7, dw7, Bt7, dt7, Br7, dr7, rfl, hc⟩, hb⟩; have HE7 := hid (HE6.out.trans hb); have HV7 := hid (HV6.out.trans hb); have HW7 := hid (HW6.out.trans hb); have HA7 := hid (HA6.out.trans hb); have HC7 := hid hc; clear hc hb) | (go_at_call 23; with_reducible refine (list_c BTN pn dTN plan (by omega) _ (HTN.out.ev HW7.out)).mono ?_; rintro e x8 ⟨⟨L8, D8, rfl, hc⟩, hb⟩; have HE8 := hid (HE7.out.trans hb); have HV8 := hid (HV7.out.trans hb); have HW8 := hid (HW7.out.trans hb); have HA8 := hid (HA7.out.trans hb); have HL8 := hid (sl_own (enc := ics) (by decide) (ics_len _) (by omega) hc); have HM8 := hid hb; clear hc hb) | (go_at_call 31; with_reducible refine (HBO.out Bw7 dw7 Bt7 dt7 Br7 dr7 L8 D8 _ (HC7.out.ev HM8.out) HL8.out).mono ?_; rintro e x9 ⟨⟨BB, dB, rfl, hbb⟩, hb⟩; have HE9 := hid (HE8.out.trans hb); have HV9 := hid (HV8.out.trans hb); have HW9 := hid (HW8.out.trans hb); have HA9 := hid (HA8.out.trans hb); have HB9 := hid (Ev.refl x9); clear hbb; clear hb; clear y0 y1 y2 y3 y4 y5 y6 y7 y8 y9; obtain ⟨y0, y1, y2, y3, y4, y5, y6, y7, y8, y9⟩ := cells10 (HV9.out.heap Q0.out)))
 go_upto_region 7 with (first | (go_at_call 21; with_reducible refine (Heap_c f Aw At Ar nw cw nt ct nr cr (by omega) (by omega) (by omega) _ (HCS.out.ev HE9.out)).mono ?_; rintro e x10 ⟨⟨Bw10, dw10, Bt10, dt10, Br10, dr10, rfl, hc⟩, hb⟩; have HE10 := hid (HE9.out.trans hb); have HV10 := hid (HV9.out.trans hb); have HW10 := hid (HW9.out.trans hb); have HA10 := hid (HA9.out.trans hb); have HB10 := hid (HB9.out.trans hb); have HC10 := hid hc; clear hc hb) | (go_at_call 23; with_reducible refine (list_c BTN pn dTN plan (by omega) _ (HTN.out.ev HW10.out)).mono ?_; rintro e x11 ⟨⟨L11, D11, rfl, hc⟩, hb⟩; have HE11 := hid (HE10.out.trans hb); have HV11 := hid (HV10.out.trans hb); have HW11 := hid (HW10.out.trans hb); have HA11 := hid (HA10.out.trans hb); have HB11 := hid (HB10.out.trans hb); have HL11 := hid (sl_own (enc := ics) (by decide) (ics_len _) (by omega) hc); have HM11 := hid hb; clear hc hb) | (go_at_call 32; with_reducible refine (HKE.out Bw10 dw10 Bt10 dt10 Br10 dr10 L11 D11 _ (HC10.out.ev HM11.out) HL11.out).mono ?_; rintro e x12 ⟨rfl, hb⟩; have HE12 := hid (HE11.out.trans hb); have HV12 := hid (HV11.out.trans hb); have HW12 := hid (HW11.out.trans hb); have HA12 := hid (HA11.out.trans hb); have HB12 := hid (HB11.out.trans hb); clear hb; clear y0 y1 y2 y3 y4 y5 y6 y7 y8 y9; obtain ⟨y0, y1, y2, y3, y4, y5, y6, y7, y8, y9⟩ := cells10 (HV12.out.heap Q0.out)))
 go_upto_region 8 with (go_at_call 55; with_reducible refine (HTR.out _ HE12.out).mono ?_; rintro e x13 ⟨⟨LB, lm, ld, rfl, hm, htl⟩, hb⟩; have HE13 := hid (HE12.out.trans hb); have HV13 := hid (HV12.out.trans hb); have HW13 := hid (HW12.out.trans hb); have HA13 := hid (HA12.out.trans hb); have HB13 := hid (HB12.out.trans hb); have HTL := hid htl; clear htl; clear hb; clear y0 y1 y2 y3 y4 y5 y6 y7 y8 y9; obtain ⟨y0, y1, y2, y3, y4, y5, y6, y7, y8, y9⟩ := cells10 (HV13.out.heap Q0.out))
 have hll := HTL.out.len
 have hlm0 : 0 < lm := by
  rcases Nat.eq_zero_or_pos lm with h | h
  ·
   rw [h] at hll; exact absurd (List.eq_nil_of_length_eq_zero hll) HRN.out
  ·
   exact h
 have c7_ : ((lm : Int) == 0) = false := by simp; omega
 clear hll
 go_wp2_with (first | (go_at_call 19; with_reducible refine (awake_c _).mono ?_; rintro e w99 ⟨rfl, hb99⟩) | (with_reducible refine ⟨trivial, ?_⟩))
 go_ret
 exact ⟨rfl, HE13.out.trans hb99⟩

end Go.Proofs.Ytgimcephbeajlaa
