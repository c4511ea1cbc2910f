import Derived.Test.YtgimcephbeajlaaC36
import Derived.Test.YtgimcephbeajlaaC27
import Derived.Test.YtgimcephbeajlaaC23
import Derived.Test.YtgimcephbeajlaaC24
import Derived.Test.YtgimcephbeajlaaC35
set_option linter.unusedSimpArgs false
set_option linter.unusedVariables false
namespace Go.Proofs.Ytgimcephbeajlaa
open Go.RowKit Go.Shelf

theorem M.hK_still {f : M.Cf} (h : f.cool = 0) (p q : List Int) : ∀ (xs : List Int) (k : Nat) (m : Int), M.hK f p xs k m = M.hK f q xs k m
 | [], _, _ => rfl
 | x :: xs, k, m => by
  have hc : ∀ b, M.cool f m b = m := fun b => by unfold M.cool; rw [h]; split <;> simp
  rw [M.hK, M.hK, hc, hc, M.hK_still h p q xs]
theorem M.heats_still {f : M.Cf} (h : f.cool = 0) (t : M.Tr) (p q : List Int) : M.heats f t p = M.heats f t q := by
 unfold M.heats
 rw [M.hK_still h p q]
theorem M.bounds_still {f : M.Cf} (h : f.cool = 0) (ts : List M.Tr) (p q : List Int) : M.bounds f ts p = M.bounds f ts q := by
 unfold M.bounds M.at
 simp only [M.heats_still h _ p q]
theorem M.stays_still {f : M.Cf} (h : f.cool = 0) (t : M.Tr) (p q : List Int) : M.stays f t p = M.stays f t q := by
 unfold M.stays
 rw [M.heats_still h t p q]
theorem M.all_still {f : M.Cf} (h : f.cool = 0) (ts : List M.Tr) (p q : List Int) : (ts.all fun t => M.stays f t p) = ts.all fun t => M.stays f t q := by
 simp only [M.stays_still h _ p q]
theorem M.narrow_self : ∀ l : List M.Rg, M.narrow l l = true
 | [] => rfl
 | a :: l => by rw [M.narrow, M.narrow_self l]; unfold M.inside; simp
theorem M.shortest_nil {p : List Int → Bool} (h : p [] = true) (sz : Nat) : M.shortest p sz = [] := by
 unfold M.shortest
 rw [M.first]
 simp [M.incr, h]
theorem M.begin_true (f : M.Cf) (plan : List Int) (h : M.isTurns f plan = true) : M.begin f (M.isTurns f plan) = M.begin f true := by rw [h]

set_option maxRecDepth 100000 in
set_option maxHeartbeats 2000000 in
theorem couchStill_no (f : M.Cf) (hx : f.cool = 0) (c : Int) (Aw At Ar : Option Addr) (nw cw nt ct nr cr : Nat) (hl0 : -9223372036854775808 ≤ f.last) (n : Nat) (hn : n < 65536) (w : World) (hs : M.small nw nt nr → CS w w.heap.size f Aw At Ar nw cw nt ct nr cr) (hno : M.rdy f nw nt nr = false) :
  Calls Try.prog 17 #[.agg #[.int .i64 f.last, .int .i64 f.size, .int .i64 c, .int .i64 f.die, .int .i64 f.burn, .int .i64 f.st.lo, .int .i64 f.st.hi, .slice Aw nw cw, .slice At nt ct, .slice Ar nr cr], .int .u16 (n : Int)] w fun e w' => e = .returned (.bool true) ∧ Ev w w' := by
 have HRD := hid (fun W (hE : Ev w W) => by have := ready_c f Aw At Ar nw cw nt ct nr cr hl0 W (fun h => (hs h).ev hE); rw [hno, hx] at this; exact this)
 clear hs hno
 go_enter Try.func17, Try.ntmps17
 go_upto_region 3 with fail
 generalize hW0 : World.alloc (World.alloc w _) _ = W0
 have hE0 : Ev w W0 := by rw [← hW0]; exact Ev.alloc (Ev.alloc (Ev.refl _) _) _
 have hal := alloc2 w (.cells #[.int .i64 f.last, .int .i64 f.size, .int .i64 c, .int .i64 f.die, .int .i64 f.burn, .int .i64 f.st.lo, .int .i64 f.st.hi, .slice Aw nw cw, .slice At nt ct, .slice Ar nr cr] 28) (.cells #[.int .i64 f.last, .int .i64 f.size, .int .i64 0, .int .i64 f.die, .int .i64 f.burn, .int .i64 f.st.lo, .int .i64 f.st.hi, .slice Aw nw cw, .slice At nt ct, .slice Ar nr cr] 28)
 rw [hW0] at hal
 have Q0 := hid hal.1
 have Q1 := hid hal.2.1
 clear hal hW0
 obtain ⟨y0, y1, y2, y3, y4, y5, y6, y7, y8, y9⟩ := cells10 Q1.out
 go_wp2_with (first | (go_at_call 50; with_reducible refine (HRD.out _ hE0).mono ?_; rintro e w1 ⟨rfl, hb1⟩; have hG : Ev w w1 := hE0.trans hb1; have Q0' := hid (hb1.heap Q0.out); have Q1' := hid (hb1.heap Q1.out); clear y0 y1 y2 y3 y4 y5 y6 y7 y8 y9; obtain ⟨y0, y1, y2, y3, y4, y5, y6, y7, y8, y9⟩ := cells10 Q1'.out) | (go_at_call 19; with_reducible refine (awake_c _).mono ?_; rintro e w99 ⟨rfl, hb99⟩) | (with_reducible refine ⟨trivial, ?_⟩))
 go_ret
 exact ⟨rfl, hG.trans hb99⟩

set_option maxRecDepth 100000 in
set_option maxHeartbeats 4000000 in
theorem couchStill_e (f : M.Cf) (hx : f.cool = 0) (c : Int) (Aw At Ar : Option Addr) (nw cw nt ct nr cr : Nat) (hl0 : -9223372036854775808 ≤ f.last) (n : Nat) (hn : n < 65536) (w : World) (HCS : Hid (CS w w.heap.size f Aw At Ar nw cw nt ct nr cr)) (hr : M.rdy f nw nt nr = true) (hsm : M.small nw nt nr) (h0 : M.check f = 0) (ht : M.truths f = []) :
  Calls Try.prog 17 #[.agg #[.int .i64 f.last, .int .i64 f.size, .int .i64 c, .int .i64 f.die, .int .i64 f.burn, .int .i64 f.st.lo, .int .i64 f.st.hi, .slice Aw nw cw, .slice At nt ct, .slice Ar nr cr], .int .u16 (n : Int)] w fun e w' => e = .returned (.bool true) ∧ Ev w w' := by
 obtain ⟨s0, s1, s2⟩ := hsm
 have HRD := hid (fun W (hE : Ev w W) => by have := ready_c f Aw At Ar nw cw nt ct nr cr hl0 W (fun _ => HCS.out.ev hE); rw [hr, hx] at this; exact this)
 obtain ⟨hl9, _, hv, _⟩ := M.check0 h0
 have hlast := (M.valid_parts hv).2.2.2.2.2.1
 have hwl := HCS.out.w_.len
 have hl00 := (M.valid_parts hv).2.2.2.2.1
 have hpl := M.trn_ok hv n
 have htk := fun W => turned_k ⟨f.last, f.size, c, f.die, f.burn, f.st, f.wet, f.turns, f.rds⟩ Aw At Ar nw cw nt ct nr cr f.last.toNat (by omega) n hn W
 rw [show ((f.last.toNat : Nat) : Int) = f.last by omega, show M.bits10 (n &&& (2 ^ (f.last.toNat + 1) - 1)) = M.trn f n from rfl] at htk
 have hpnl := M.trn_len f n
 obtain ⟨plan, hplan⟩ : ∃ p, M.trn f n = p := ⟨_, rfl⟩
 obtain ⟨pn, hpn⟩ : ∃ p, plan.length = p := ⟨_, rfl⟩
 rw [hplan, hpn] at htk
 rw [hplan] at hpl hpnl
 rw [hpn] at hpnl
 have HTU : Hid (∀ W, Calls Try.prog 52 #[.agg #[.int .i64 f.last, .int .i64 f.size, .int .i64 c, .int .i64 f.die, .int .i64 f.burn, .int .i64 f.st.lo, .int .i64 f.st.hi, .slice Aw nw cw, .slice At nt ct, .slice Ar nr cr], .int .u16 (n : Int)] W fun e w' => (∃ B d, e = .returned (.slice B pn d) ∧ Sl ics 1 w' w'.heap.size B pn d plan) ∧ Ev W w') := hid htk
 have HHP := hid (fun W (hE : Ev w W) => by have := Heap_c f Aw At Ar nw cw nt ct nr cr (by omega) (by omega) (by omega) W (HCS.out.ev hE); rw [hx] at this; exact this)
 clear hplan htk
 have hbt : ∀ p, M.isTurns f p = true → M.begin f (M.isTurns f p) = 11 := fun p h => by unfold M.begin; rw [if_neg (by simp [h0]), h, if_neg (by simp), if_pos ht]
 have hbn := hbt [] (M.turns_nil f)
 have hbp := hbt plan hpl
 have hb1 : M.begin f true = 11 := by rw [← hbn, M.turns_nil]
 have HBN := hid (fun (Bw : Option Addr) (dw : Nat) (Bt : Option Addr) (dt : Nat) (Br : Option Addr) (dr : Nat) W (h : CS W W.heap.size f Bw Bt Br nw dw nt dt nr dr) => by have := Bounds_err f Bw Bt Br nw dw nt dt nr dr none 0 0 [] hl0 W h Sl.nil (by rw [hbn]; decide); rw [hbn, hx] at this; exact this)
 have HBP := hid (fun (Bw : Option Addr) (dw : Nat) (Bt : Option Addr) (dt : Nat) (Br : Option Addr) (dr : Nat) (L : Option Addr) (d : Nat) W (h : CS W W.heap.size f Bw Bt Br nw dw nt dt nr dr) (h3 : Sl ics 1 W W.heap.size L pn d plan) => by have := Bounds_err f Bw Bt Br nw dw nt dt nr dr L pn d plan hl0 W h h3 (by rw [hbp]; decide); rw [hbp, hx] at this; exact this)
 have HFW := hid (fun (Bw : Option Addr) (dw : Nat) (Bt : Option Addr) (dt : Nat) (Br : Option Addr) (dr : Nat) W (h : CS W W.heap.size f Bw Bt Br nw dw nt dt nr dr) => by have := Fewest_err f Bw Bt Br nw dw nt dt nr dr hl0 W h (by rw [hb1]; decide); rw [hb1, hx] at this; exact this)
 clear hr h0 hv ht hpl hbt hbn hbp hb1 hwl hlast hl9
 go_enter Try.func17, Try.ntmps17
 go_upto_region 3 with fail
 generalize hW0 : World.alloc (World.alloc w _) _ = W0
 have hE0 : Ev w W0 := by rw [← hW0]; exact Ev.alloc (Ev.alloc (Ev.refl _) _) _
 have hal := alloc2 w (.cells #[.int .i64 f.last, .int .i64 f.size, .int .i64 c, .int .i64 f.die, .int .i64 f.burn, .int .i64 f.st.lo, .int .i64 f.st.hi, .slice Aw nw cw, .slice At nt ct, .slice Ar nr cr] 28) (.cells #[.int .i64 f.last, .int .i64 f.size, .int .i64 0, .int .i64 f.die, .int .i64 f.burn, .int .i64 f.st.lo, .int .i64 f.st.hi, .slice Aw nw cw, .slice At nt ct, .slice Ar nr cr] 28)
 rw [hW0] at hal
 have Q0 := hid hal.1
 have Q1 := hid hal.2.1
 clear hal hW0
 obtain ⟨y0, y1, y2, y3, y4, y5, y6, y7, y8, y9⟩ := cells10 Q1.out
 go_upto_region 5 with (first | (go_at_call 50; with_reducible refine (HRD.out _ hE0).mono ?_; rintro e w1 ⟨rfl, hb1⟩; have hG : Ev w w1 := hE0.trans hb1; have Q0' := hid (hb1.heap Q0.out); have Q1' := hid (hb1.heap Q1.out); clear y0 y1 y2 y3 y4 y5 y6 y7 y8 y9; obtain ⟨y0, y1, y2, y3, y4, y5, y6, y7, y8, y9⟩ := cells10 Q1'.out) | (with_reducible refine ⟨trivial, ?_⟩))
 go_upto_region 6 with (first | (go_at_call 21; with_reducible refine (HHP.out _ (hG)).mono ?_; rintro e x2 ⟨⟨Bw2, dw2, Bt2, dt2, Br2, dr2, rfl, hc⟩, hb⟩; have HE2 := hid (hG.trans hb); have HV2 := hid (hb); have HC2 := hid hc; clear hc hb) | (go_at_call 31; with_reducible refine (HBN.out Bw2 dw2 Bt2 dt2 Br2 dr2 _ HC2.out).mono ?_; rintro e x3 ⟨rfl, hb⟩; have HE3 := hid (HE2.out.trans hb); have HV3 := hid (HV2.out.trans hb); clear hb; clear y0 y1 y2 y3 y4 y5 y6 y7 y8 y9; obtain ⟨y0, y1, y2, y3, y4, y5, y6, y7, y8, y9⟩ := cells10 (HV3.out.heap Q1'.out)))
 obtain ⟨u0, u1, u2, u3, u4, u5, u6, u7, u8, u9⟩ := cells10 (HV3.out.heap Q0'.out)
 have l0 := heap_lt (HV3.out.heap Q0'.out)
 have l1 := heap_lt (HV3.out.heap Q1'.out)
 go_upto_region 6 with fail
 have HSE : Hid (∀ w', Ev x3 w' → (∀ o, w'.cell? ⟨w.heap.size, o, none⟩ = x3.cell? ⟨w.heap.size, o, none⟩) ∧ (∀ o, w'.cell? ⟨w.heap.size + 1, o, none⟩ = x3.cell? ⟨w.heap.size + 1, o, none⟩)) := hid (fun w' h => ⟨fun o => h.cells.1 _ o l0, fun o => h.cells.1 _ o l1⟩)
 refine wp_region_held_drew (S := fun w' => (∀ o, w'.cell? ⟨w.heap.size, o, none⟩ = x3.cell? ⟨w.heap.size, o, none⟩) ∧ (∀ o, w'.cell? ⟨w.heap.size + 1, o, none⟩ = x3.cell? ⟨w.heap.size + 1, o, none⟩)) (by kernel_rfl) (⟨fun o => rfl, fun o => rfl⟩) (fun hHeld => ?_)
 refine tkH 0 (some 25) ?_
 (try simp only [Act.put, sA, sB, sC])
 refine tkH 2 (some 27) ?_
 (try simp only [Act.put, sA, sB, sC])
 refine tkH 3 (some 28) ?_
 (try simp only [Act.put, sA, sB, sC])
 refine wpAnyH_one (i := 1) rfl (by kernel_rfl) (by rfl) (fun K hK => ?_)
 go_simp
 refine (HHP.out _ (HE3.out.trans (Ev.drew (Ev.refl _)))).mono ?_
 rintro e z1 ⟨⟨Bw4, dw4, Bt4, dt4, Br4, dr4, rfl, hc4⟩, hb1⟩
 have hy1 : Ev x3 z1 := Ev.trans (Ev.drew (Ev.refl _)) hb1
 refine hK.out _ _ (HSE.out _ hy1) (fun hHeld => ?_)
 clear hK K
 (try simp only [Act.put, sA, sB, sC])
 refine wpAnyH_one (i := 4) rfl (by kernel_rfl) (by rfl) (fun K hK => ?_)
 go_simp
 refine (HTU.out _).mono ?_
 rintro e z4 ⟨⟨BTN, dTN, rfl, htn⟩, hb4⟩
 have hy4 : Ev x3 z4 := Ev.trans hy1 hb4
 refine hK.out _ _ (HSE.out _ hy4) (fun hHeld => ?_)
 clear hK K
 (try simp only [Act.put, sA, sB, sC])
 refine wpAnyH_one (i := 5) rfl (by kernel_rfl) (by rfl) (fun K hK => ?_)
 go_simp
 refine (HBP.out Bw4 dw4 Bt4 dt4 Br4 dr4 BTN dTN _ (hc4.ev hb4) htn).mono ?_
 rintro e z5 ⟨rfl, hb5⟩
 have hy5 : Ev x3 z5 := Ev.trans hy4 hb5
 refine hK.out _ _ (HSE.out _ hy5) (fun hHeld => ?_)
 clear hK K
 (try simp only [Act.put, sA, sB, sC])
 refine tkH 6 (some 24) ?_
 (try simp only [Act.put, sA, sB, sC])
 refine tkH 7 (some 31) ?_
 (try simp only [Act.put, sA, sB, sC])
 refine tkH 8 (some 32) ?_
 (try simp only [Act.put, sA, sB, sC])
 refine tkH 9 (some 8) ?_
 (try simp only [Act.put, sA, sB, sC])
 refine tkH 10 (some 9) ?_
 (try simp only [Act.put, sA, sB, sC])
 refine wpAnyH_done (by kernel_rfl) ?_ _
 obtain ⟨x4, hx4⟩ : ∃ x, x = z5 := ⟨_, rfl⟩
 subst hx4
 have HE4 := hid (HE3.out.trans hy5)
 have HV4 := hid (HV3.out.trans hy5)
 have HK4 := hid hy5
 clear hc4 hb1 hb4 hb5 hy1 hy4 hy5 HSE hHeld y0 y1 y2 y3 y4 y5 y6 y7 y8 y9 u0 u1 u2 u3 u4 u5 u6 u7 u8 u9
 obtain ⟨y0, y1, y2, y3, y4, y5, y6, y7, y8, y9⟩ := cells10 (HV4.out.heap Q1'.out)
 go_wp2_with (first | (go_at_call 21; with_reducible refine (HHP.out _ (HE4.out)).mono ?_; rintro e x5 ⟨⟨Bw5, dw5, Bt5, dt5, Br5, dr5, rfl, hc⟩, hb⟩; have HE5 := hid (HE4.out.trans hb); have HV5 := hid (HV4.out.trans hb); have HC5 := hid hc; clear hc hb) | (go_at_call 48; with_reducible refine (HFW.out Bw5 dw5 Bt5 dt5 Br5 dr5 _ HC5.out).mono ?_; rintro e x6 ⟨rfl, hb⟩; have HE6 := hid (HE5.out.trans hb); have HV6 := hid (HV5.out.trans hb); clear hb; clear y0 y1 y2 y3 y4 y5 y6 y7 y8 y9; obtain ⟨y0, y1, y2, y3, y4, y5, y6, y7, y8, y9⟩ := cells10 (HV6.out.heap Q1'.out)) | (go_at_call 19; with_reducible refine (awake_c _).mono ?_; rintro e w99 ⟨rfl, hb99⟩) | (with_reducible refine ⟨trivial, ?_⟩))
 go_ret
 exact ⟨rfl, HE6.out.trans hb99⟩

set_option maxRecDepth 100000 in
set_option maxHeartbeats 8000000 in
theorem couchStill_y (f : M.Cf) (hx : f.cool = 0) (c : Int) (Aw At Ar : Option Addr) (nw cw nt ct nr cr : Nat) (hl0 : -9223372036854775808 ≤ f.last) (n : Nat) (hn : n < 65536) (w : World) (HCS : Hid (CS w w.heap.size f Aw At Ar nw cw nt ct nr cr)) (hr : M.rdy f nw nt nr = true) (hsm : M.small nw nt nr) (h0 : M.check f = 0) (ht : M.truths f ≠ []) (hs1 : ((M.truths f).all fun t => M.stays f t []) = true) :
  Calls Try.prog 17 #[.agg #[.int .i64 f.last, .int .i64 f.size, .int .i64 c, .int .i64 f.die, .int .i64 f.burn, .int .i64 f.st.lo, .int .i64 f.st.hi, .slice Aw nw cw, .slice At nt ct, .slice Ar nr cr], .int .u16 (n : Int)] w fun e w' => e = .returned (.bool true) ∧ Ev w w' := by
 obtain ⟨s0, s1, s2⟩ := hsm
 have HRD := hid (fun W (hE : Ev w W) => by have := ready_c f Aw At Ar nw cw nt ct nr cr hl0 W (fun _ => HCS.out.ev hE); rw [hr, hx] at this; exact this)
 obtain ⟨hl9, _, hv, _⟩ := M.check0 h0
 have hlast := (M.valid_parts hv).2.2.2.2.2.1
 have hwl := HCS.out.w_.len
 have hl00 := (M.valid_parts hv).2.2.2.2.1
 have hpl := M.trn_ok hv n
 have htk := fun W => turned_k ⟨f.last, f.size, c, f.die, f.burn, f.st, f.wet, f.turns, f.rds⟩ Aw At Ar nw cw nt ct nr cr f.last.toNat (by omega) n hn W
 rw [show ((f.last.toNat : Nat) : Int) = f.last by omega, show M.bits10 (n &&& (2 ^ (f.last.toNat + 1) - 1)) = M.trn f n from rfl] at htk
 have hpnl := M.trn_len f n
 obtain ⟨plan, hplan⟩ : ∃ p, M.trn f n = p := ⟨_, rfl⟩
 obtain ⟨pn, hpn⟩ : ∃ p, plan.length = p := ⟨_, rfl⟩
 rw [hplan, hpn] at htk
 rw [hplan] at hpl hpnl
 rw [hpn] at hpnl
 have HTU : Hid (∀ W, Calls Try.prog 52 #[.agg #[.int .i64 f.last, .int .i64 f.size, .int .i64 c, .int .i64 f.die, .int .i64 f.burn, .int .i64 f.st.lo, .int .i64 f.st.hi, .slice Aw nw cw, .slice At nt ct, .slice Ar nr cr], .int .u16 (n : Int)] W fun e w' => (∃ B d, e = .returned (.slice B pn d) ∧ Sl ics 1 w' w'.heap.size B pn d plan) ∧ Ev W w') := hid htk
 have HHP := hid (fun W (hE : Ev w W) => by have := Heap_c f Aw At Ar nw cw nt ct nr cr (by omega) (by omega) (by omega) W (HCS.out.ev hE); rw [hx] at this; exact this)
 clear hplan htk
 have hbt : ∀ p, M.isTurns f p = true → M.begin f (M.isTurns f p) = 0 := fun p h => by unfold M.begin; rw [if_neg (by simp [h0]), h, if_neg (by simp), if_neg ht]
 have hbn := hbt [] (M.turns_nil f)
 have hbp := hbt plan hpl
 have hb1 : M.begin f true = 0 := by rw [← hbn, M.turns_nil]
 have HBN := hid (fun (Bw : Option Addr) (dw : Nat) (Bt : Option Addr) (dt : Nat) (Br : Option Addr) (dr : Nat) W (h : CS W W.heap.size f Bw Bt Br nw dw nt dt nr dr) => by have := Bounds_ok f Bw Bt Br nw dw nt dt nr dr none 0 0 [] hl0 W h Sl.nil hbn; rw [hx] at this; exact this)
 have HBP := hid (fun (Bw : Option Addr) (dw : Nat) (Bt : Option Addr) (dt : Nat) (Br : Option Addr) (dr : Nat) (L : Option Addr) (d : Nat) W (h : CS W W.heap.size f Bw Bt Br nw dw nt dt nr dr) (h3 : Sl ics 1 W W.heap.size L pn d plan) => by have := Bounds_ok f Bw Bt Br nw dw nt dt nr dr L pn d plan hl0 W h h3 hbp; rw [hx] at this; exact this)
 have hfw : M.few f (M.truths f) = [] := by unfold M.few; exact M.shortest_nil hs1 _
 have HFW := hid (fun (Bw : Option Addr) (dw : Nat) (Bt : Option Addr) (dt : Nat) (Br : Option Addr) (dr : Nat) W (h : CS W W.heap.size f Bw Bt Br nw dw nt dt nr dr) => by have := Fewest_ok f Bw Bt Br nw dw nt dt nr dr hl0 W h hb1 (by rw [hfw]; exact hs1); rw [hx] at this; exact this)
 rw [hfw] at HFW
 obtain ⟨bs, hbs⟩ : ∃ bs, M.bounds f (M.truths f) [] = bs := ⟨_, rfl⟩
 rw [hbs] at HBN
 rw [M.bounds_still hx _ plan [], hbs] at HBP
 have HNA := hid (fun B1 d1 B2 d2 W (h1 : Sl rgc 2 W W.heap.size B1 nw d1 bs) (h2 : Sl rgc 2 W W.heap.size B2 nw d2 bs) => by have := narrower_c B1 B2 nw d1 nw d2 bs bs W h1 h2; rw [M.narrow_self] at this; exact this)
 clear hr h0 hv ht hpl hbt hbn hbp hb1 hwl hlast hl9 hs1 hbs hfw
 go_enter Try.func17, Try.ntmps17
 go_upto_region 3 with fail
 generalize hW0 : World.alloc (World.alloc w _) _ = W0
 have hE0 : Ev w W0 := by rw [← hW0]; exact Ev.alloc (Ev.alloc (Ev.refl _) _) _
 have hal := alloc2 w (.cells #[.int .i64 f.last, .int .i64 f.size, .int .i64 c, .int .i64 f.die, .int .i64 f.burn, .int .i64 f.st.lo, .int .i64 f.st.hi, .slice Aw nw cw, .slice At nt ct, .slice Ar nr cr] 28) (.cells #[.int .i64 f.last, .int .i64 f.size, .int .i64 0, .int .i64 f.die, .int .i64 f.burn, .int .i64 f.st.lo, .int .i64 f.st.hi, .slice Aw nw cw, .slice At nt ct, .slice Ar nr cr] 28)
 rw [hW0] at hal
 have Q0 := hid hal.1
 have Q1 := hid hal.2.1
 clear hal hW0
 obtain ⟨y0, y1, y2, y3, y4, y5, y6, y7, y8, y9⟩ := cells10 Q1.out
 go_upto_region 5 with (first | (go_at_call 50; with_reducible refine (HRD.out _ hE0).mono ?_; rintro e w1 ⟨rfl, hb1⟩; have hG : Ev w w1 := hE0.trans hb1; have Q0' := hid (hb1.heap Q0.out); have Q1' := hid (hb1.heap Q1.out); clear y0 y1 y2 y3 y4 y5 y6 y7 y8 y9; obtain ⟨y0, y1, y2, y3, y4, y5, y6, y7, y8, y9⟩ := cells10 Q1'.out) | (with_reducible refine ⟨trivial, ?_⟩))
 go_upto_region 6 with (first | (go_at_call 21; with_reducible refine (HHP.out _ (hG)).mono ?_; rintro e x2 ⟨⟨Bw2, dw2, Bt2, dt2, Br2, dr2, rfl, hc⟩, hb⟩; have HE2 := hid (hG.trans hb); have HV2 := hid (hb); have HC2 := hid hc; clear hc hb) | (go_at_call 31; with_reducible refine (HBN.out Bw2 dw2 Bt2 dt2 Br2 dr2 _ HC2.out).mono ?_; rintro e x3 ⟨⟨B1, d1, rfl, hbb⟩, hb⟩; have HE3 := hid (HE2.out.trans hb); have HV3 := hid (HV2.out.trans hb); have HB1 := hid hbb; clear hbb; clear hb; clear y0 y1 y2 y3 y4 y5 y6 y7 y8 y9; obtain ⟨y0, y1, y2, y3, y4, y5, y6, y7, y8, y9⟩ := cells10 (HV3.out.heap Q1'.out)))
 obtain ⟨u0, u1, u2, u3, u4, u5, u6, u7, u8, u9⟩ := cells10 (HV3.out.heap Q0'.out)
 have l0 := heap_lt (HV3.out.heap Q0'.out)
 have l1 := heap_lt (HV3.out.heap Q1'.out)
 go_upto_region 6 with fail
 have HSE : Hid (∀ w', Ev x3 w' → (∀ o, w'.cell? ⟨w.heap.size, o, none⟩ = x3.cell? ⟨w.heap.size, o, none⟩) ∧ (∀ o, w'.cell? ⟨w.heap.size + 1, o, none⟩ = x3.cell? ⟨w.heap.size + 1, o, none⟩)) := hid (fun w' h => ⟨fun o => h.cells.1 _ o l0, fun o => h.cells.1 _ o l1⟩)
 refine wp_region_held_drew (S := fun w' => (∀ o, w'.cell? ⟨w.heap.size, o, none⟩ = x3.cell? ⟨w.heap.size, o, none⟩) ∧ (∀ o, w'.cell? ⟨w.heap.size + 1, o, none⟩ = x3.cell? ⟨w.heap.size + 1, o, none⟩)) (by kernel_rfl) (⟨fun o => rfl, fun o => rfl⟩) (fun hHeld => ?_)
 refine tkH 0 (some 25) ?_
 (try simp only [Act.put, sA, sB, sC])
 refine tkH 2 (some 27) ?_
 (try simp only [Act.put, sA, sB, sC])
 refine tkH 3 (some 28) ?_
 (try simp only [Act.put, sA, sB, sC])
 refine wpAnyH_one (i := 1) rfl (by kernel_rfl) (by rfl) (fun K hK => ?_)
 go_simp
 refine (HHP.out _ (HE3.out.trans (Ev.drew (Ev.refl _)))).mono ?_
 rintro e z1 ⟨⟨Bw4, dw4, Bt4, dt4, Br4, dr4, rfl, hc4⟩, hb1⟩
 have hy1 : Ev x3 z1 := Ev.trans (Ev.drew (Ev.refl _)) hb1
 refine hK.out _ _ (HSE.out _ hy1) (fun hHeld => ?_)
 clear hK K
 (try simp only [Act.put, sA, sB, sC])
 refine wpAnyH_one (i := 4) rfl (by kernel_rfl) (by rfl) (fun K hK => ?_)
 go_simp
 refine (HTU.out _).mono ?_
 rintro e z4 ⟨⟨BTN, dTN, rfl, htn⟩, hb4⟩
 have hy4 : Ev x3 z4 := Ev.trans hy1 hb4
 refine hK.out _ _ (HSE.out _ hy4) (fun hHeld => ?_)
 clear hK K
 (try simp only [Act.put, sA, sB, sC])
 refine wpAnyH_one (i := 5) rfl (by kernel_rfl) (by rfl) (fun K hK => ?_)
 go_simp
 refine (HBP.out Bw4 dw4 Bt4 dt4 Br4 dr4 BTN dTN _ (hc4.ev hb4) htn).mono ?_
 rintro e z5 ⟨⟨B2, d2, rfl, hbb2⟩, hb5⟩
 have hy5 : Ev x3 z5 := Ev.trans hy4 hb5
 refine hK.out _ _ (HSE.out _ hy5) (fun hHeld => ?_)
 clear hK K
 (try simp only [Act.put, sA, sB, sC])
 refine tkH 6 (some 24) ?_
 (try simp only [Act.put, sA, sB, sC])
 refine tkH 7 (some 31) ?_
 (try simp only [Act.put, sA, sB, sC])
 refine tkH 8 (some 32) ?_
 (try simp only [Act.put, sA, sB, sC])
 refine tkH 9 (some 8) ?_
 (try simp only [Act.put, sA, sB, sC])
 refine tkH 10 (some 9) ?_
 (try simp only [Act.put, sA, sB, sC])
 refine wpAnyH_done (by kernel_rfl) ?_ _
 obtain ⟨x4, hx4⟩ : ∃ x, x = z5 := ⟨_, rfl⟩
 subst hx4
 have HE4 := hid (HE3.out.trans hy5)
 have HV4 := hid (HV3.out.trans hy5)
 have HK4 := hid hy5
 have HD4 := hid (Ev.refl x4)
 have HB2 := hid hbb2
 clear hbb2
 clear hc4 hb1 hb4 hb5 hy1 hy4 hy5 HSE hHeld y0 y1 y2 y3 y4 y5 y6 y7 y8 y9 u0 u1 u2 u3 u4 u5 u6 u7 u8 u9
 obtain ⟨y0, y1, y2, y3, y4, y5, y6, y7, y8, y9⟩ := cells10 (HV4.out.heap Q1'.out)
 go_upto_region 10 with (first | (go_at_call 21; with_reducible refine (HHP.out _ (HE4.out)).mono ?_; rintro e x5 ⟨⟨Bw5, dw5, Bt5, dt5, Br5, dr5, rfl, hc⟩, hb⟩; have HE5 := hid (HE4.out.trans hb); have HV5 := hid (HV4.out.trans hb); have HD5 := hid (HD4.out.trans hb); have HC5 := hid hc; clear hc hb) | (go_at_call 48; with_reducible refine (HFW.out Bw5 dw5 Bt5 dt5 Br5 dr5 _ HC5.out).mono ?_; rintro e x6 ⟨⟨BF, dF, rfl, hbf⟩, hb⟩; have HE6 := hid (HE5.out.trans hb); have HV6 := hid (HV5.out.trans hb); have HD6 := hid (HD5.out.trans hb); clear hbf; clear hb; clear y0 y1 y2 y3 y4 y5 y6 y7 y8 y9; obtain ⟨y0, y1, y2, y3, y4, y5, y6, y7, y8, y9⟩ := cells10 (HV6.out.heap Q1'.out)) | (with_reducible refine ⟨trivial, ?_⟩))
 have HB6 : Hid (Ev x3 x6) := hid (HK4.out.trans HD6.out)
 clear y0 y1 y2 y3 y4 y5 y6 y7 y8 y9
 obtain ⟨y0, y1, y2, y3, y4, y5, y6, y7, y8, y9⟩ := cells10 (HV6.out.heap Q1'.out)
 obtain ⟨u0, u1, u2, u3, u4, u5, u6, u7, u8, u9⟩ := cells10 (HV6.out.heap Q0'.out)
 have l0 := heap_lt (HV6.out.heap Q0'.out)
 have l1 := heap_lt (HV6.out.heap Q1'.out)
 have HSE : Hid (∀ w', Ev x6 w' → (∀ o, w'.cell? ⟨w.heap.size, o, none⟩ = x6.cell? ⟨w.heap.size, o, none⟩) ∧ (∀ o, w'.cell? ⟨w.heap.size + 1, o, none⟩ = x6.cell? ⟨w.heap.size + 1, o, none⟩)) := hid (fun w' h => ⟨fun o => h.cells.1 _ o l0, fun o => h.cells.1 _ o l1⟩)
 refine wp_region_held_drew (S := fun w' => (∀ o, w'.cell? ⟨w.heap.size, o, none⟩ = x6.cell? ⟨w.heap.size, o, none⟩) ∧ (∀ o, w'.cell? ⟨w.heap.size + 1, o, none⟩ = x6.cell? ⟨w.heap.size + 1, o, none⟩)) (by kernel_rfl) (⟨fun o => rfl, fun o => rfl⟩) (fun hHeld => ?_)
 refine tkH 0 (some 56) ?_
 (try simp only [Act.put, sA, sB, sC])
 refine tkH 1 (some 57) ?_
 (try simp only [Act.put, sA, sB, sC])
 refine tkH 2 (some 58) ?_
 (try simp only [Act.put, sA, sB, sC])
 refine tkH 3 (some 59) ?_
 (try simp only [Act.put, sA, sB, sC])
 refine tkH 4 (some 60) ?_
 (try simp only [Act.put, sA, sB, sC])
 refine wpAnyH_one (i := 5) rfl (by kernel_rfl) (by rfl) (fun K hK => ?_)
 go_simp
 refine (HNA.out B1 d1 B2 d2 _ (HB1.out.ev (HB6.out.trans (Ev.drew (Ev.refl _)))) (HB2.out.ev (HD6.out.trans (Ev.drew (Ev.refl _))))).mono ?_
 rintro e z5 ⟨rfl, hb5⟩
 have hy5 : Ev x6 z5 := Ev.trans (Ev.drew (Ev.refl _)) hb5
 refine hK.out _ _ (HSE.out _ hy5) (fun hHeld => ?_)
 clear hK K
 (try simp only [Act.put, sA, sB, sC])
 refine tkH 6 (some 62) ?_
 (try simp only [Act.put, sA, sB, sC])
 refine tkH 7 (some 63) ?_
 (try simp only [Act.put, sA, sB, sC])
 refine tkH 8 (some 64) ?_
 (try simp only [Act.put, sA, sB, sC])
 refine tkH 9 (some 65) ?_
 (try simp only [Act.put, sA, sB, sC])
 refine wpAnyH_one (i := 10) rfl (by kernel_rfl) (by rfl) (fun K hK => ?_)
 go_simp
 refine (HNA.out B2 d2 B1 d1 _ (HB2.out.ev (HD6.out.trans hy5)) (HB1.out.ev (HB6.out.trans hy5))).mono ?_
 rintro e z10 ⟨rfl, hb10⟩
 have hy10 : Ev x6 z10 := Ev.trans hy5 hb10
 refine hK.out _ _ (HSE.out _ hy10) (fun hHeld => ?_)
 clear hK K
 (try simp only [Act.put, sA, sB, sC])
 refine tkH 11 (some 67) ?_
 (try simp only [Act.put, sA, sB, sC])
 refine tkH 12 (some 68) ?_
 (try simp only [Act.put, sA, sB, sC])
 refine tkH 13 (some 69) ?_
 (try simp only [Act.put, sA, sB, sC])
 refine tkH 14 (some 70) ?_
 (try simp only [Act.put, sA, sB, sC])
 refine tkH 15 (some 71) ?_
 (try simp only [Act.put, sA, sB, sC])
 refine tkH 16 (some 72) ?_
 (try simp only [Act.put, sA, sB, sC])
 refine tkH 17 (some 73) ?_
 (try simp only [Act.put, sA, sB, sC])
 refine tkH 18 (some 74) ?_
 (try simp only [Act.put, sA, sB, sC])
 refine tkH 19 (some 75) ?_
 (try simp only [Act.put, sA, sB, sC])
 refine tkH 20 (some 76) ?_
 (try simp only [Act.put, sA, sB, sC])
 refine wpAnyH_skip (i := 21) (some 77) rfl (by kernel_rfl) (by kernel_rfl) (by kernel_rfl) (fun _ _ _ h => h) (by rfl) (by assumption) ?_
 (try simp only [Act.put, sA, sB, sC])
 refine wpAnyH_skip (i := 22) (some 78) rfl (by kernel_rfl) (by kernel_rfl) (by kernel_rfl) (fun _ _ _ h => h) (by rfl) (by assumption) ?_
 (try simp only [Act.put, sA, sB, sC])
 refine wpAnyH_skip (i := 23) (some 79) rfl (by kernel_rfl) (by kernel_rfl) (by kernel_rfl) (fun _ _ _ h => h) (by rfl) (by assumption) ?_
 (try simp only [Act.put, sA, sB, sC])
 refine wpAnyH_skip (i := 24) (some 80) rfl (by kernel_rfl) (by kernel_rfl) (by kernel_rfl) (fun _ _ _ h => h) (by rfl) (by assumption) ?_
 (try simp only [Act.put, sA, sB, sC])
 refine wpAnyH_skip (i := 25) (some 81) rfl (by kernel_rfl) (by kernel_rfl) (by kernel_rfl) (fun _ _ _ h => h) (by rfl) (by assumption) ?_
 (try simp only [Act.put, sA, sB, sC])
 refine wpAnyH_skip (i := 26) (some 82) rfl (by kernel_rfl) (by kernel_rfl) (by kernel_rfl) (fun _ _ _ h => h) (by rfl) (by assumption) ?_
 (try simp only [Act.put, sA, sB, sC])
 refine wpAnyH_skip (i := 27) (some 83) rfl (by kernel_rfl) (by kernel_rfl) (by kernel_rfl) (fun _ _ _ h => h) (by rfl) (by assumption) ?_
 (try simp only [Act.put, sA, sB, sC])
 refine wpAnyH_skip (i := 28) (some 84) rfl (by kernel_rfl) (by kernel_rfl) (by kernel_rfl) (fun _ _ _ h => h) (by rfl) (by assumption) ?_
 (try simp only [Act.put, sA, sB, sC])
 refine wpAnyH_skip (i := 29) (some 85) rfl (by kernel_rfl) (by kernel_rfl) (by kernel_rfl) (fun _ _ _ h => h) (by rfl) (by assumption) ?_
 (try simp only [Act.put, sA, sB, sC])
 refine wpAnyH_skip (i := 30) (some 86) rfl (by kernel_rfl) (by kernel_rfl) (by kernel_rfl) (fun _ _ _ h => h) (by rfl) (by assumption) ?_
 (try simp only [Act.put, sA, sB, sC])
 refine wpAnyH_skip (i := 31) (some 87) rfl (by kernel_rfl) (by kernel_rfl) (by kernel_rfl) (fun _ _ _ h => h) (by rfl) (by assumption) ?_
 (try simp only [Act.put, sA, sB, sC])
 refine tkH 32 (some 88) ?_
 (try simp only [Act.put, sA, sB, sC])
 refine tkH 33 (some 89) ?_
 (try simp only [Act.put, sA, sB, sC])
 refine tkH 34 (some 90) ?_
 (try simp only [Act.put, sA, sB, sC])
 refine wpAnyH_one (i := 35) rfl (by kernel_rfl) (by rfl) (fun K hK => ?_)
 go_simp
 refine (awake_c _).mono ?_
 rintro e z35 ⟨rfl, hb35⟩
 have hy35 : Ev x6 z35 := Ev.trans hy10 hb35
 refine hK.out _ _ (HSE.out _ hy35) (fun hHeld => ?_)
 clear hK K
 (try simp only [Act.put, sA, sB, sC])
 refine tkH 36 (some 92) ?_
 (try simp only [Act.put, sA, sB, sC])
 refine tkH 37 (some 4) ?_
 (try simp only [Act.put, sA, sB, sC])
 refine wpAnyH_done (by kernel_rfl) ?_ _
 go_wp2
 go_ret
 exact ⟨rfl, HE6.out.trans hy35⟩

set_option maxRecDepth 100000 in
set_option maxHeartbeats 8000000 in
theorem couchStill_n (f : M.Cf) (hx : f.cool = 0) (c : Int) (Aw At Ar : Option Addr) (nw cw nt ct nr cr : Nat) (hl0 : -9223372036854775808 ≤ f.last) (n : Nat) (hn : n < 65536) (w : World) (HCS : Hid (CS w w.heap.size f Aw At Ar nw cw nt ct nr cr)) (hr : M.rdy f nw nt nr = true) (hsm : M.small nw nt nr) (h0 : M.check f = 0) (ht : M.truths f ≠ []) (hs1 : ((M.truths f).all fun t => M.stays f t []) = false) :
  Calls Try.prog 17 #[.agg #[.int .i64 f.last, .int .i64 f.size, .int .i64 c, .int .i64 f.die, .int .i64 f.burn, .int .i64 f.st.lo, .int .i64 f.st.hi, .slice Aw nw cw, .slice At nt ct, .slice Ar nr cr], .int .u16 (n : Int)] w fun e w' => e = .returned (.bool true) ∧ Ev w w' := by
 obtain ⟨s0, s1, s2⟩ := hsm
 have HRD := hid (fun W (hE : Ev w W) => by have := ready_c f Aw At Ar nw cw nt ct nr cr hl0 W (fun _ => HCS.out.ev hE); rw [hr, hx] at this; exact this)
 obtain ⟨hl9, _, hv, _⟩ := M.check0 h0
 have hlast := (M.valid_parts hv).2.2.2.2.2.1
 have hwl := HCS.out.w_.len
 have hl00 := (M.valid_parts hv).2.2.2.2.1
 have hpl := M.trn_ok hv n
 have htk := fun W => turned_k ⟨f.last, f.size, c, f.die, f.burn, f.st, f.wet, f.turns, f.rds⟩ Aw At Ar nw cw nt ct nr cr f.last.toNat (by omega) n hn W
 rw [show ((f.last.toNat : Nat) : Int) = f.last by omega, show M.bits10 (n &&& (2 ^ (f.last.toNat + 1) - 1)) = M.trn f n from rfl] at htk
 have hpnl := M.trn_len f n
 obtain ⟨plan, hplan⟩ : ∃ p, M.trn f n = p := ⟨_, rfl⟩
 obtain ⟨pn, hpn⟩ : ∃ p, plan.length = p := ⟨_, rfl⟩
 rw [hplan, hpn] at htk
 rw [hplan] at hpl hpnl
 rw [hpn] at hpnl
 have HTU : Hid (∀ W, Calls Try.prog 52 #[.agg #[.int .i64 f.last, .int .i64 f.size, .int .i64 c, .int .i64 f.die, .int .i64 f.burn, .int .i64 f.st.lo, .int .i64 f.st.hi, .slice Aw nw cw, .slice At nt ct, .slice Ar nr cr], .int .u16 (n : Int)] W fun e w' => (∃ B d, e = .returned (.slice B pn d) ∧ Sl ics 1 w' w'.heap.size B pn d plan) ∧ Ev W w') := hid htk
 have HHP := hid (fun W (hE : Ev w W) => by have := Heap_c f Aw At Ar nw cw nt ct nr cr (by omega) (by omega) (by omega) W (HCS.out.ev hE); rw [hx] at this; exact this)
 clear hplan htk
 have hbt : ∀ p, M.isTurns f p = true → M.begin f (M.isTurns f p) = 0 := fun p h => by unfold M.begin; rw [if_neg (by simp [h0]), h, if_neg (by simp), if_neg ht]
 have hbn := hbt [] (M.turns_nil f)
 have hbp := hbt plan hpl
 have hb1 : M.begin f true = 0 := by rw [← hbn, M.turns_nil]
 have HBN := hid (fun (Bw : Option Addr) (dw : Nat) (Bt : Option Addr) (dt : Nat) (Br : Option Addr) (dr : Nat) W (h : CS W W.heap.size f Bw Bt Br nw dw nt dt nr dr) => by have := Bounds_ok f Bw Bt Br nw dw nt dt nr dr none 0 0 [] hl0 W h Sl.nil hbn; rw [hx] at this; exact this)
 have HBP := hid (fun (Bw : Option Addr) (dw : Nat) (Bt : Option Addr) (dt : Nat) (Br : Option Addr) (dr : Nat) (L : Option Addr) (d : Nat) W (h : CS W W.heap.size f Bw Bt Br nw dw nt dt nr dr) (h3 : Sl ics 1 W W.heap.size L pn d plan) => by have := Bounds_ok f Bw Bt Br nw dw nt dt nr dr L pn d plan hl0 W h h3 hbp; rw [hx] at this; exact this)
 have HFW := hid (fun (Bw : Option Addr) (dw : Nat) (Bt : Option Addr) (dt : Nat) (Br : Option Addr) (dr : Nat) W (h : CS W W.heap.size f Bw Bt Br nw dw nt dt nr dr) => by have := Fewest_short f Bw Bt Br nw dw nt dt nr dr hl0 W h hb1 (by rw [M.all_still hx _ _ []]; exact hs1); rw [hx] at this; exact this)
 have HPK := hid (fun (Bw : Option Addr) (dw : Nat) (Bt : Option Addr) (dt : Nat) (Br : Option Addr) (dr : Nat) (L : Option Addr) (d : Nat) W (h : CS W W.heap.size f Bw Bt Br nw dw nt dt nr dr) (h3 : Sl ics 1 W W.heap.size L pn d plan) => by have := ProveKeeps_ok f Bw Bt Br nw dw nt dt nr dr L pn d plan hl0 W h h3 hbp; rw [hx] at this; exact this)
 rw [M.all_still hx _ plan [], hs1] at HPK
 obtain ⟨bs, hbs⟩ : ∃ bs, M.bounds f (M.truths f) [] = bs := ⟨_, rfl⟩
 rw [hbs] at HBN
 rw [M.bounds_still hx _ plan [], hbs] at HBP
 have HNA := hid (fun B1 d1 B2 d2 W (h1 : Sl rgc 2 W W.heap.size B1 nw d1 bs) (h2 : Sl rgc 2 W W.heap.size B2 nw d2 bs) => by have := narrower_c B1 B2 nw d1 nw d2 bs bs W h1 h2; rw [M.narrow_self] at this; exact this)
 clear hr h0 hv ht hpl hbt hbn hbp hb1 hwl hlast hl9 hs1 hbs
 go_enter Try.func17, Try.ntmps17
 go_upto_region 3 with fail
 generalize hW0 : World.alloc (World.alloc w _) _ = W0
 have hE0 : Ev w W0 := by rw [← hW0]; exact Ev.alloc (Ev.alloc (Ev.refl _) _) _
 have hal := alloc2 w (.cells #[.int .i64 f.last, .int .i64 f.size, .int .i64 c, .int .i64 f.die, .int .i64 f.burn, .int .i64 f.st.lo, .int .i64 f.st.hi, .slice Aw nw cw, .slice At nt ct, .slice Ar nr cr] 28) (.cells #[.int .i64 f.last, .int .i64 f.size, .int .i64 0, .int .i64 f.die, .int .i64 f.burn, .int .i64 f.st.lo, .int .i64 f.st.hi, .slice Aw nw cw, .slice At nt ct, .slice Ar nr cr] 28)
 rw [hW0] at hal
 have Q0 := hid hal.1
 have Q1 := hid hal.2.1
 clear hal hW0
 obtain ⟨y0, y1, y2, y3, y4, y5, y6, y7, y8, y9⟩ := cells10 Q1.out
 go_upto_region 5 with (first | (go_at_call 50; with_reducible refine (HRD.out _ hE0).mono ?_; rintro e w1 ⟨rfl, hb1⟩; have hG : Ev w w1 := hE0.trans hb1; have Q0' := hid (hb1.heap Q0.out); have Q1' := hid (hb1.heap Q1.out); clear y0 y1 y2 y3 y4 y5 y6 y7 y8 y9; obtain ⟨y0, y1, y2, y3, y4, y5, y6, y7, y8, y9⟩ := cells10 Q1'.out) | (with_reducible refine ⟨trivial, ?_⟩))
 go_upto_region 6 with (first | (go_at_call 21; with_reducible refine (HHP.out _ (hG)).mono ?_; rintro e x2 ⟨⟨Bw2, dw2, Bt2, dt2, Br2, dr2, rfl, hc⟩, hb⟩; have HE2 := hid (hG.trans hb); have HV2 := hid (hb); have HC2 := hid hc; clear hc hb) | (go_at_call 31; with_reducible refine (HBN.out Bw2 dw2 Bt2 dt2 Br2 dr2 _ HC2.out).mono ?_; rintro e x3 ⟨⟨B1, d1, rfl, hbb⟩, hb⟩; have HE3 := hid (HE2.out.trans hb); have HV3 := hid (HV2.out.trans hb); have HB1 := hid hbb; clear hbb; clear hb; clear y0 y1 y2 y3 y4 y5 y6 y7 y8 y9; obtain ⟨y0, y1, y2, y3, y4, y5, y6, y7, y8, y9⟩ := cells10 (HV3.out.heap Q1'.out)))
 obtain ⟨u0, u1, u2, u3, u4, u5, u6, u7, u8, u9⟩ := cells10 (HV3.out.heap Q0'.out)
 have l0 := heap_lt (HV3.out.heap Q0'.out)
 have l1 := heap_lt (HV3.out.heap Q1'.out)
 go_upto_region 6 with fail
 have HSE : Hid (∀ w', Ev x3 w' → (∀ o, w'.cell? ⟨w.heap.size, o, none⟩ = x3.cell? ⟨w.heap.size, o, none⟩) ∧ (∀ o, w'.cell? ⟨w.heap.size + 1, o, none⟩ = x3.cell? ⟨w.heap.size + 1, o, none⟩)) := hid (fun w' h => ⟨fun o => h.cells.1 _ o l0, fun o => h.cells.1 _ o l1⟩)
 refine wp_region_held_drew (S := fun w' => (∀ o, w'.cell? ⟨w.heap.size, o, none⟩ = x3.cell? ⟨w.heap.size, o, none⟩) ∧ (∀ o, w'.cell? ⟨w.heap.size + 1, o, none⟩ = x3.cell? ⟨w.heap.size + 1, o, none⟩)) (by kernel_rfl) (⟨fun o => rfl, fun o => rfl⟩) (fun hHeld => ?_)
 refine tkH 0 (some 25) ?_
 (try simp only [Act.put, sA, sB, sC])
 refine tkH 2 (some 27) ?_
 (try simp only [Act.put, sA, sB, sC])
 refine tkH 3 (some 28) ?_
 (try simp only [Act.put, sA, sB, sC])
 refine wpAnyH_one (i := 1) rfl (by kernel_rfl) (by rfl) (fun K hK => ?_)
 go_simp
 refine (HHP.out _ (HE3.out.trans (Ev.drew (Ev.refl _)))).mono ?_
 rintro e z1 ⟨⟨Bw4, dw4, Bt4, dt4, Br4, dr4, rfl, hc4⟩, hb1⟩
 have hy1 : Ev x3 z1 := Ev.trans (Ev.drew (Ev.refl _)) hb1
 refine hK.out _ _ (HSE.out _ hy1) (fun hHeld => ?_)
 clear hK K
 (try simp only [Act.put, sA, sB, sC])
 refine wpAnyH_one (i := 4) rfl (by kernel_rfl) (by rfl) (fun K hK => ?_)
 go_simp
 refine (HTU.out _).mono ?_
 rintro e z4 ⟨⟨BTN, dTN, rfl, htn⟩, hb4⟩
 have hy4 : Ev x3 z4 := Ev.trans hy1 hb4
 refine hK.out _ _ (HSE.out _ hy4) (fun hHeld => ?_)
 clear hK K
 (try simp only [Act.put, sA, sB, sC])
 refine wpAnyH_one (i := 5) rfl (by kernel_rfl) (by rfl) (fun K hK => ?_)
 go_simp
 refine (HBP.out Bw4 dw4 Bt4 dt4 Br4 dr4 BTN dTN _ (hc4.ev hb4) htn).mono ?_
 rintro e z5 ⟨⟨B2, d2, rfl, hbb2⟩, hb5⟩
 have hy5 : Ev x3 z5 := Ev.trans hy4 hb5
 refine hK.out _ _ (HSE.out _ hy5) (fun hHeld => ?_)
 clear hK K
 (try simp only [Act.put, sA, sB, sC])
 refine tkH 6 (some 24) ?_
 (try simp only [Act.put, sA, sB, sC])
 refine tkH 7 (some 31) ?_
 (try simp only [Act.put, sA, sB, sC])
 refine tkH 8 (some 32) ?_
 (try simp only [Act.put, sA, sB, sC])
 refine tkH 9 (some 8) ?_
 (try simp only [Act.put, sA, sB, sC])
 refine tkH 10 (some 9) ?_
 (try simp only [Act.put, sA, sB, sC])
 refine wpAnyH_done (by kernel_rfl) ?_ _
 obtain ⟨x4, hx4⟩ : ∃ x, x = z5 := ⟨_, rfl⟩
 subst hx4
 have HE4 := hid (HE3.out.trans hy5)
 have HV4 := hid (HV3.out.trans hy5)
 have HK4 := hid hy5
 have HD4 := hid (Ev.refl x4)
 have HB2 := hid hbb2
 clear hbb2
 clear hc4 hb1 hb4 hb5 hy1 hy4 hy5 HSE hHeld y0 y1 y2 y3 y4 y5 y6 y7 y8 y9 u0 u1 u2 u3 u4 u5 u6 u7 u8 u9
 obtain ⟨y0, y1, y2, y3, y4, y5, y6, y7, y8, y9⟩ := cells10 (HV4.out.heap Q1'.out)
 go_upto_region 10 with (first | (go_at_call 21; with_reducible refine (HHP.out _ (HE4.out)).mono ?_; rintro e x5 ⟨⟨Bw5, dw5, Bt5, dt5, Br5, dr5, rfl, hc⟩, hb⟩; have HE5 := hid (HE4.out.trans hb); have HV5 := hid (HV4.out.trans hb); have HD5 := hid (HD4.out.trans hb); have HC5 := hid hc; clear hc hb) | (go_at_call 48; with_reducible refine (HFW.out Bw5 dw5 Bt5 dt5 Br5 dr5 _ HC5.out).mono ?_; rintro e x6 ⟨rfl, hb⟩; have HE6 := hid (HE5.out.trans hb); have HV6 := hid (HV5.out.trans hb); have HD6 := hid (HD5.out.trans hb); clear hb; clear y0 y1 y2 y3 y4 y5 y6 y7 y8 y9; obtain ⟨y0, y1, y2, y3, y4, y5, y6, y7, y8, y9⟩ := cells10 (HV6.out.heap Q1'.out)) | (with_reducible refine ⟨trivial, ?_⟩))
 have HB6 : Hid (Ev x3 x6) := hid (HK4.out.trans HD6.out)
 clear y0 y1 y2 y3 y4 y5 y6 y7 y8 y9
 obtain ⟨y0, y1, y2, y3, y4, y5, y6, y7, y8, y9⟩ := cells10 (HV6.out.heap Q1'.out)
 obtain ⟨u0, u1, u2, u3, u4, u5, u6, u7, u8, u9⟩ := cells10 (HV6.out.heap Q0'.out)
 have l0 := heap_lt (HV6.out.heap Q0'.out)
 have l1 := heap_lt (HV6.out.heap Q1'.out)
 have HSE : Hid (∀ w', Ev x6 w' → (∀ o, w'.cell? ⟨w.heap.size, o, none⟩ = x6.cell? ⟨w.heap.size, o, none⟩) ∧ (∀ o, w'.cell? ⟨w.heap.size + 1, o, none⟩ = x6.cell? ⟨w.heap.size + 1, o, none⟩)) := hid (fun w' h => ⟨fun o => h.cells.1 _ o l0, fun o => h.cells.1 _ o l1⟩)
 refine wp_region_held_drew (S := fun w' => (∀ o, w'.cell? ⟨w.heap.size, o, none⟩ = x6.cell? ⟨w.heap.size, o, none⟩) ∧ (∀ o, w'.cell? ⟨w.heap.size + 1, o, none⟩ = x6.cell? ⟨w.heap.size + 1, o, none⟩)) (by kernel_rfl) (⟨fun o => rfl, fun o => rfl⟩) (fun hHeld => ?_)
 refine tkH 0 (some 56) ?_
 (try simp only [Act.put, sA, sB, sC])
 refine tkH 1 (some 57) ?_
 (try simp only [Act.put, sA, sB, sC])
 refine tkH 2 (some 58) ?_
 (try simp only [Act.put, sA, sB, sC])
 refine tkH 3 (some 59) ?_
 (try simp only [Act.put, sA, sB, sC])
 refine tkH 4 (some 60) ?_
 (try simp only [Act.put, sA, sB, sC])
 refine wpAnyH_one (i := 5) rfl (by kernel_rfl) (by rfl) (fun K hK => ?_)
 go_simp
 refine (HNA.out B1 d1 B2 d2 _ (HB1.out.ev (HB6.out.trans (Ev.drew (Ev.refl _)))) (HB2.out.ev (HD6.out.trans (Ev.drew (Ev.refl _))))).mono ?_
 rintro e z5 ⟨rfl, hb5⟩
 have hy5 : Ev x6 z5 := Ev.trans (Ev.drew (Ev.refl _)) hb5
 refine hK.out _ _ (HSE.out _ hy5) (fun hHeld => ?_)
 clear hK K
 (try simp only [Act.put, sA, sB, sC])
 refine tkH 6 (some 62) ?_
 (try simp only [Act.put, sA, sB, sC])
 refine tkH 7 (some 63) ?_
 (try simp only [Act.put, sA, sB, sC])
 refine tkH 8 (some 64) ?_
 (try simp only [Act.put, sA, sB, sC])
 refine tkH 9 (some 65) ?_
 (try simp only [Act.put, sA, sB, sC])
 refine wpAnyH_one (i := 10) rfl (by kernel_rfl) (by rfl) (fun K hK => ?_)
 go_simp
 refine (HNA.out B2 d2 B1 d1 _ (HB2.out.ev (HD6.out.trans hy5)) (HB1.out.ev (HB6.out.trans hy5))).mono ?_
 rintro e z10 ⟨rfl, hb10⟩
 have hy10 : Ev x6 z10 := Ev.trans hy5 hb10
 refine hK.out _ _ (HSE.out _ hy10) (fun hHeld => ?_)
 clear hK K
 (try simp only [Act.put, sA, sB, sC])
 refine tkH 11 (some 67) ?_
 (try simp only [Act.put, sA, sB, sC])
 refine tkH 12 (some 68) ?_
 (try simp only [Act.put, sA, sB, sC])
 refine tkH 13 (some 69) ?_
 (try simp only [Act.put, sA, sB, sC])
 refine tkH 14 (some 70) ?_
 (try simp only [Act.put, sA, sB, sC])
 refine tkH 15 (some 71) ?_
 (try simp only [Act.put, sA, sB, sC])
 refine wpAnyH_skip (i := 16) (some 72) rfl (by kernel_rfl) (by kernel_rfl) (by kernel_rfl) (fun _ _ _ h => h) (by rfl) (by assumption) ?_
 (try simp only [Act.put, sA, sB, sC])
 refine wpAnyH_skip (i := 17) (some 73) rfl (by kernel_rfl) (by kernel_rfl) (by kernel_rfl) (fun _ _ _ h => h) (by rfl) (by assumption) ?_
 (try simp only [Act.put, sA, sB, sC])
 refine wpAnyH_skip (i := 18) (some 74) rfl (by kernel_rfl) (by kernel_rfl) (by kernel_rfl) (fun _ _ _ h => h) (by rfl) (by assumption) ?_
 (try simp only [Act.put, sA, sB, sC])
 refine tkH 19 (some 75) ?_
 (try simp only [Act.put, sA, sB, sC])
 refine tkH 20 (some 76) ?_
 (try simp only [Act.put, sA, sB, sC])
 refine tkH 21 (some 77) ?_
 (try simp only [Act.put, sA, sB, sC])
 refine tkH 22 (some 78) ?_
 (try simp only [Act.put, sA, sB, sC])
 refine tkH 23 (some 79) ?_
 (try simp only [Act.put, sA, sB, sC])
 refine tkH 24 (some 80) ?_
 (try simp only [Act.put, sA, sB, sC])
 refine tkH 26 (some 82) ?_
 (try simp only [Act.put, sA, sB, sC])
 refine tkH 27 (some 83) ?_
 (try simp only [Act.put, sA, sB, sC])
 refine wpAnyH_one (i := 25) rfl (by kernel_rfl) (by rfl) (fun K hK => ?_)
 go_simp
 refine (HHP.out _ (HE6.out.trans hy10)).mono ?_
 rintro e z25 ⟨⟨Bw7, dw7, Bt7, dt7, Br7, dr7, rfl, hc7⟩, hb25⟩
 have hy25 : Ev x6 z25 := Ev.trans hy10 hb25
 refine hK.out _ _ (HSE.out _ hy25) (fun hHeld => ?_)
 clear hK K
 (try simp only [Act.put, sA, sB, sC])
 refine wpAnyH_one (i := 28) rfl (by kernel_rfl) (by rfl) (fun K hK => ?_)
 go_simp
 refine (HTU.out _).mono ?_
 rintro e z28 ⟨⟨BT2, dT2, rfl, htn2⟩, hb28⟩
 have hy28 : Ev x6 z28 := Ev.trans hy25 hb28
 refine hK.out _ _ (HSE.out _ hy28) (fun hHeld => ?_)
 clear hK K
 (try simp only [Act.put, sA, sB, sC])
 refine wpAnyH_one (i := 29) rfl (by kernel_rfl) (by rfl) (fun K hK => ?_)
 go_simp
 refine (HPK.out Bw7 dw7 Bt7 dt7 Br7 dr7 BT2 dT2 _ (hc7.ev hb28) htn2).mono ?_
 rintro e z29 ⟨rfl, hb29⟩
 have hy29 : Ev x6 z29 := Ev.trans hy28 hb29
 refine hK.out _ _ (HSE.out _ hy29) (fun hHeld => ?_)
 clear hK K
 (try simp only [Act.put, sA, sB, sC])
 refine tkH 30 (some 86) ?_
 (try simp only [Act.put, sA, sB, sC])
 refine tkH 31 (some 87) ?_
 (try simp only [Act.put, sA, sB, sC])
 refine tkH 32 (some 88) ?_
 (try simp only [Act.put, sA, sB, sC])
 refine tkH 33 (some 89) ?_
 (try simp only [Act.put, sA, sB, sC])
 refine tkH 34 (some 90) ?_
 (try simp only [Act.put, sA, sB, sC])
 refine wpAnyH_one (i := 35) rfl (by kernel_rfl) (by rfl) (fun K hK => ?_)
 go_simp
 refine (awake_c _).mono ?_
 rintro e z35 ⟨rfl, hb35⟩
 have hy35 : Ev x6 z35 := Ev.trans hy29 hb35
 refine hK.out _ _ (HSE.out _ hy35) (fun hHeld => ?_)
 clear hK K
 (try simp only [Act.put, sA, sB, sC])
 refine tkH 36 (some 92) ?_
 (try simp only [Act.put, sA, sB, sC])
 refine tkH 37 (some 4) ?_
 (try simp only [Act.put, sA, sB, sC])
 refine wpAnyH_done (by kernel_rfl) ?_ _
 go_wp2
 go_ret
 exact ⟨rfl, HE6.out.trans hy35⟩

theorem couchStill_c (f : M.Cf) (hx : f.cool = 0) (c : Int) (Aw At Ar : Option Addr) (nw cw nt ct nr cr : Nat) (hl0 : -9223372036854775808 ≤ f.last) (n : Nat) (hn : n < 65536) (w : World) (hs : M.small nw nt nr → CS w w.heap.size f Aw At Ar nw cw nt ct nr cr) :
  Calls Try.prog 17 #[.agg #[.int .i64 f.last, .int .i64 f.size, .int .i64 c, .int .i64 f.die, .int .i64 f.burn, .int .i64 f.st.lo, .int .i64 f.st.hi, .slice Aw nw cw, .slice At nt ct, .slice Ar nr cr], .int .u16 (n : Int)] w fun e w' => e = .returned (.bool true) ∧ Ev w w' := by
 cases hr : M.rdy f nw nt nr with
 | false => exact couchStill_no f hx c Aw At Ar nw cw nt ct nr cr hl0 n hn w hs hr
 | true =>
  have h1 := hr
  unfold M.rdy at h1
  rw [Bool.and_eq_true, Bool.and_eq_true, decide_eq_true_eq, decide_eq_true_eq] at h1
  obtain ⟨⟨hsm, _⟩, h0⟩ := h1
  by_cases ht : M.truths f = []
  ·
   exact couchStill_e f hx c Aw At Ar nw cw nt ct nr cr hl0 n hn w (hid (hs hsm)) hr hsm h0 ht
  ·
   cases hs1 : (M.truths f).all fun t => M.stays f t [] with
   | true => exact couchStill_y f hx c Aw At Ar nw cw nt ct nr cr hl0 n hn w (hid (hs hsm)) hr hsm h0 ht hs1
   | false => exact couchStill_n f hx c Aw At Ar nw cw nt ct nr cr hl0 n hn w (hid (hs hsm)) hr hsm h0 ht hs1
theorem couchStill_i (f : M.Cf) (Aw At Ar : Option Addr) (nw cw nt ct nr cr : Nat) (hl0 : -9223372036854775808 ≤ f.last) (a1 : Int) (p1 : 0 ≤ a1) (q1 : a1 < 65536) (w : World) (hs : M.small nw nt nr → CS w w.heap.size f Aw At Ar nw cw nt ct nr cr) :
  Calls Try.prog 17 #[.agg #[.int .i64 f.last, .int .i64 f.size, .int .i64 f.cool, .int .i64 f.die, .int .i64 f.burn, .int .i64 f.st.lo, .int .i64 f.st.hi, .slice Aw nw cw, .slice At nt ct, .slice Ar nr cr], .int .u16 a1] w fun e w' => e = .returned (.bool true) ∧ Ev w w' := by
 obtain ⟨n, rfl⟩ : ∃ n : Nat, a1 = n := ⟨a1.toNat, by omega⟩
 exact couchStill_c ⟨f.last, f.size, 0, f.die, f.burn, f.st, f.wet, f.turns, f.rds⟩ rfl f.cool Aw At Ar nw cw nt ct nr cr hl0 n (by omega) w (fun h => ⟨(hs h).w_, (hs h).t, (hs h).r⟩)

end Go.Proofs.Ytgimcephbeajlaa
