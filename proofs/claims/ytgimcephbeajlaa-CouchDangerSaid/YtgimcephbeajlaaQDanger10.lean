import Derived.Test.YtgimcephbeajlaaQDangerA
set_option linter.unusedSimpArgs false
set_option linter.unusedVariables false
namespace Go.Proofs.Ytgimcephbeajlaa
open Go.RowKit Go.Shelf

set_option maxRecDepth 100000 in
set_option maxHeartbeats 8000000 in
theorem couchDanger_10 (f : M.Cf) (Aw At Ar : Option Addr) (nw cw nt ct nr cr : Nat) (hl0 : -9223372036854775808 ≤ f.last) (wn : Nat) (hwn : wn < 65536) (n : Nat) (hn : n < 65536) (w : World) (HCS : Hid (CS w w.heap.size f Aw At Ar nw cw nt ct nr cr)) (hr : M.rdy f nw nt nr = true) (hsm : M.small nw nt nr) (h0 : M.check f = 0) (ht : M.truths f ≠ []) (i : Nat) (hfr : M.fear f (M.truths f) (M.trn f n) = some i) (hb1 : M.burnsAt f (M.truths f) (M.trn f n) i = true) (hb2 : M.diesAt f (M.truths f) (M.trn f n) i = false) :
  Calls Try.prog 11 #[.agg #[.int .i64 f.last, .int .i64 f.size, .int .i64 f.cool, .int .i64 f.die, .int .i64 f.burn, .int .i64 f.st.lo, .int .i64 f.st.hi, .slice Aw nw cw, .slice At nt ct, .slice Ar nr cr], .int .u16 (wn : Int), .int .u16 (n : Int)] w fun e w' => e = .returned (.bool true) ∧ Ev w w' := by
 obtain ⟨s0, s1, s2⟩ := hsm
 have HRD := hid (fun W (hE : Ev w W) => by have := ready_c f Aw At Ar nw cw nt ct nr cr hl0 W (fun _ => HCS.out.ev hE); rw [hr] at this; exact this)
 obtain ⟨hl9, _, hv, _⟩ := M.check0 h0
 have hlast := (M.valid_parts hv).2.2.2.2.2.1
 have hwl := HCS.out.w_.len
 have hnl : (nw : Int) = f.last + 1 := by omega
 have hpl := M.trn_ok hv n
 have HTU := hid (fun W => turned_c f Aw At Ar nw cw nt ct nr cr hv hl9 n hn W)
 have hpnl := M.trn_len f n
 obtain ⟨plan, hplan⟩ : ∃ p, M.trn f n = p := ⟨_, rfl⟩
 obtain ⟨pn, hpn⟩ : ∃ p, plan.length = p := ⟨_, rfl⟩
 rw [hplan, hpn] at HTU
 rw [hplan] at hpl hpnl hfr hb1 hb2
 rw [hpn] at hpnl
 clear hplan
 have HTR := hid (fun W (hE : Ev w W) => Truths_c f Aw At Ar nw cw nt ct nr cr h0 W (HCS.out.ev hE))
 have hbg : M.begin f (M.isTurns f plan) = 0 := by unfold M.begin; rw [if_neg (by simp [h0]), hpl, if_neg (by simp), if_neg ht]
 have htl0 := M.truths_listed h0
 have HRN := hid (fun e => ht ((M.rtr_nil h0).1 e))
 have c6_ : ((nw : Int) != f.last + 1) = false := by simp; omega
 have g6_ : IntKind.i64.wrap (f.last + 1) = f.last + 1 := IntWalk.i64_in _ (by omega)
 have HFE := hid (fun (Bw : Option Addr) (dw : Nat) (Bt : Option Addr) (dt : Nat) (Br : Option Addr) (dr : Nat) (L : Option Addr) (d : Nat) W (h : CS W W.heap.size f Bw Bt Br nw dw nt dt nr dr) (h3 : Sl ics 1 W W.heap.size L pn d plan) => Fear_ok f Bw Bt Br nw dw nt dt nr dr L pn d plan hl0 W h h3 hbg i hfr)
 have HBO := hid (fun (Bw : Option Addr) (dw : Nat) (Bt : Option Addr) (dt : Nat) (Br : Option Addr) (dr : Nat) (L : Option Addr) (d : Nat) W (h : CS W W.heap.size f Bw Bt Br nw dw nt dt nr dr) (h3 : Sl ics 1 W W.heap.size L pn d plan) => Bounds_ok f Bw Bt Br nw dw nt dt nr dr L pn d plan hl0 W h h3 hbg)
 have HKE := hid (fun (Bw : Option Addr) (dw : Nat) (Bt : Option Addr) (dt : Nat) (Br : Option Addr) (dr : Nat) (L : Option Addr) (d : Nat) W (h : CS W W.heap.size f Bw Bt Br nw dw nt dt nr dr) (h3 : Sl ics 1 W W.heap.size L pn d plan) => Keeps_ok f Bw Bt Br nw dw nt dt nr dr L pn d plan hl0 W h h3 hbg)
 rw [hb1, hb2] at HFE
 obtain ⟨hk1, hiw, _, hsf⟩ := M.fear_some hv htl0 hfr
 have hinw : i < nw := by omega
 have hinwI : (i : Int) < (nw : Int) := by omega
 have hi0I : (0 : Int) ≤ (i : Int) := by omega
 obtain ⟨r, hrr⟩ : ∃ r, M.span (M.at f (M.truths f) plan i) = r := ⟨_, rfl⟩
 have hrt : r = M.bdR f (M.rtr f) plan i := by rw [M.bd_is h0 ht plan hiw, hrr]
 have hd1 := M.bdR_burns hv (M.rtr_listed h0) plan hiw
 have hd2 := M.bdR_dies hv (M.rtr_listed h0) plan hiw
 rw [M.burns_is h0, hb1, ← hrt] at hd1
 rw [M.dies_is h0, hb2, ← hrt] at hd2
 have d1 : decide (f.burn < r.hi) = true := hd1.symm
 have d1' : decide (r.hi > f.burn) = true := hd1.symm
 have d2 : decide (r.lo < f.die) = false := hd2.symm
 have HXN := hid (fun (x : M.Rg) (hx : (M.bounds f (M.truths f) plan)[i]? = some x) => show r = x by
  unfold M.bounds at hx
  rw [List.getElem?_map, List.getElem?_range (by omega), Option.map_some, hrr] at hx
  exact Option.some.inj hx)
 have HIN := hid (fun W => by have := In_c (i : Int) 0 f.last W; rw [show M.isIn (i : Int) 0 f.last = true by unfold M.isIn; simp; omega] at this; exact this)
 obtain ⟨ts, hts⟩ : ∃ ts, M.rtr f = ts := ⟨_, rfl⟩
 have hlst : ∀ t ∈ ts, M.listed f t = true := by rw [← hts]; exact M.rtr_listed h0
 have HLS := hid hlst
 have HSF := hid (fun (j : Nat) (hj : j < i) (t : M.Tr) (ht : t ∈ ts) => hsf j hj t ((M.rtr_mem h0).1 (by rw [hts]; exact ht)))
 have HHT := hid (fun (Tw : Option Addr) (tw twc : Nat) (t : M.Tr) (ht : t ∈ ts) (j : Nat) (hj : j < nw) W (hE : Ev w W) (hwt : Sl ics 1 W W.heap.size Tw tw twc t.wet) (P : Option Addr) (pc : Nat) (hp : Sl ics 1 W W.heap.size P pn pc plan) => Heat_c f Aw At Ar nw cw nt ct nr cr Tw tw twc t P pn pc plan hv hl9 (hlst t ht) (j + 1) (j : Int) (by omega) (by have := hwt.len; have := (M.listed_bd hv (hlst t ht)).2.1; omega) W (HCS.out.ev hE) hwt hp)
 rw [hts] at HTR HRN
 generalize M.keepsOf f (M.truths f) plan = kv at HKE hk1
 have gw : IntKind.i64.wrap (wn : Int) = (wn : Int) := IntWalk.i64_in _ (by omega)
 clear hr h0 hv ht hpl hbg hwl hlast hl9 htl0 hfr hb1 hb2 hsf hrr hrt hd1 hd2 hlst hts hnl
 go_enter Try.func11, Try.ntmps11
 go_upto_region 3 with (first | (go_at_call 50; with_reducible refine (HRD.out _ (Ev.alloc (Ev.refl _) _)).mono ?_; rintro e w1 ⟨rfl, hb1⟩; have hG : Ev w w1 := (Ev.alloc (Ev.refl _) _).trans hb1; have Q0 := hid (hb1.heap (alloc1 w (.cells #[.int .i64 f.last, .int .i64 f.size, .int .i64 f.cool, .int .i64 f.die, .int .i64 f.burn, .int .i64 f.st.lo, .int .i64 f.st.hi, .slice Aw nw cw, .slice At nt ct, .slice Ar nr cr] 28)).1); obtain ⟨y0, y1, y2, y3, y4, y5, y6, y7, y8, y9⟩ := cells10 Q0.out) | (with_reducible refine ⟨trivial, ?_⟩))
 go_upto_region 4 with (go_at_call 52; with_reducible refine (HTU.out _).mono ?_; rintro e x2 ⟨⟨BTN, dTN, rfl, htn⟩, hb⟩; have HE2 := hid (hG.trans hb); have HV2 := hid (hb); have HW2 := hid (Ev.refl x2); have HTN := hid htn; clear htn; clear hb; clear y0 y1 y2 y3 y4 y5 y6 y7 y8 y9; obtain ⟨y0, y1, y2, y3, y4, y5, y6, y7, y8, y9⟩ := cells10 (HV2.out.heap Q0.out))
 go_upto_region 5 with (first | (go_at_call 21; with_reducible refine (Heap_c f Aw At Ar nw cw nt ct nr cr (by omega) (by omega) (by omega) _ (HCS.out.ev HE2.out)).mono ?_; rintro e x3 ⟨⟨Bw3, dw3, Bt3, dt3, Br3, dr3, rfl, hc⟩, hb⟩; have HE3 := hid (HE2.out.trans hb); have HV3 := hid (HV2.out.trans hb); have HW3 := hid (HW2.out.trans hb); have HC3 := hid hc; clear hc hb) | (go_at_call 23; with_reducible refine (list_c BTN pn dTN plan (by omega) _ (HTN.out.ev HW3.out)).mono ?_; rintro e x4 ⟨⟨L4, D4, rfl, hc⟩, hb⟩; have HE4 := hid (HE3.out.trans hb); have HV4 := hid (HV3.out.trans hb); have HW4 := hid (HW3.out.trans hb); have HL4 := hid (sl_own (enc := ics) (by decide) (ics_len _) (by omega) hc); have HM4 := hid hb; clear hc hb) | (go_at_call 38; with_reducible refine (HFE.out Bw3 dw3 Bt3 dt3 Br3 dr3 L4 D4 _ (HC3.out.ev HM4.out) HL4.out).mono ?_; rintro e x5 ⟨rfl, hb⟩; have HE5 := hid (HE4.out.trans hb); have HV5 := hid (HV4.out.trans hb); have HW5 := hid (HW4.out.trans hb); clear hb; clear y0 y1 y2 y3 y4 y5 y6 y7 y8 y9; obtain ⟨y0, y1, y2, y3, y4, y5, y6, y7, y8, y9⟩ := cells10 (HV5.out.heap Q0.out)))
 generalize hWA : World.alloc x5 _ = x6
 have hEA : Ev x5 x6 := by rw [← hWA]; exact Ev.alloc (Ev.refl _) _
 have hal := alloc1 x5 (.cells #[.int .i64 (i : Int), .bool true, .bool false] 64)
 rw [hWA] at hal
 have HR := hid hal.1
 have hpp : w.heap.size ≠ x5.heap.size := by have := heap_lt (HV5.out.heap Q0.out); omega
 have HE6 := hid (HE5.out.trans hEA)
 have HV6 := hid (HV5.out.trans hEA)
 have HW6 := hid (HW5.out.trans hEA)
 have HA6 := hid (Ev.refl x6)
 clear hal hWA hEA y0 y1 y2 y3 y4 y5 y6 y7 y8 y9
 generalize x5.heap.size = p at HR hpp
 obtain ⟨y0, y1, y2, y3, y4, y5, y6, y7, y8, y9⟩ := cells10 (HV6.out.heap Q0.out)
 go_upto_region 6 with (first | (go_at_call 21; with_reducible refine (Heap_c f Aw At Ar nw cw nt ct nr cr (by omega) (by omega) (by omega) _ (HCS.out.ev HE6.out)).mono ?_; rintro e x7 ⟨⟨Bw7, dw7, Bt7, dt7, Br7, dr7, rfl, hc⟩, hb⟩; have HE7 := hid (HE6.out.trans hb); have HV7 := hid (HV6.out.trans hb); have HW7 := hid (HW6.out.trans hb); have HA7 := hid (HA6.out.trans hb); have HC7 := hid hc; clear hc hb) | (go_at_call 23; with_reducible refine (list_c BTN pn dTN plan (by omega) _ (HTN.out.ev HW7.out)).mono ?_; rintro e x8 ⟨⟨L8, D8, rfl, hc⟩, hb⟩; have HE8 := hid (HE7.out.trans hb); have HV8 := hid (HV7.out.trans hb); have HW8 := hid (HW7.out.trans hb); have HA8 := hid (HA7.out.trans hb); have HL8 := hid (sl_own (enc := ics) (by decide) (ics_len _) (by omega) hc); have HM8 := hid hb; clear hc hb) | (go_at_call 31; with_reducible refine (HBO.out Bw7 dw7 Bt7 dt7 Br7 dr7 L8 D8 _ (HC7.out.ev HM8.out) HL8.out).mono ?_; rintro e x9 ⟨⟨BB, dB, rfl, hbb⟩, hb⟩; have HE9 := hid (HE8.out.trans hb); have HV9 := hid (HV8.out.trans hb); have HW9 := hid (HW8.out.trans hb); have HA9 := hid (HA8.out.trans hb); have HB9 := hid (Ev.refl x9); have HRB := hid hbb; clear hbb; clear hb; clear y0 y1 y2 y3 y4 y5 y6 y7 y8 y9; obtain ⟨y0, y1, y2, y3, y4, y5, y6, y7, y8, y9⟩ := cells10 (HV9.out.heap Q0.out)))
 go_upto_region 7 with (first | (go_at_call 21; with_reducible refine (Heap_c f Aw At Ar nw cw nt ct nr cr (by omega) (by omega) (by omega) _ (HCS.out.ev HE9.out)).mono ?_; rintro e x10 ⟨⟨Bw10, dw10, Bt10, dt10, Br10, dr10, rfl, hc⟩, hb⟩; have HE10 := hid (HE9.out.trans hb); have HV10 := hid (HV9.out.trans hb); have HW10 := hid (HW9.out.trans hb); have HA10 := hid (HA9.out.trans hb); have HB10 := hid (HB9.out.trans hb); have HC10 := hid hc; clear hc hb) | (go_at_call 23; with_reducible refine (list_c BTN pn dTN plan (by omega) _ (HTN.out.ev HW10.out)).mono ?_; rintro e x11 ⟨⟨L11, D11, rfl, hc⟩, hb⟩; have HE11 := hid (HE10.out.trans hb); have HV11 := hid (HV10.out.trans hb); have HW11 := hid (HW10.out.trans hb); have HA11 := hid (HA10.out.trans hb); have HB11 := hid (HB10.out.trans hb); have HL11 := hid (sl_own (enc := ics) (by decide) (ics_len _) (by omega) hc); have HM11 := hid hb; clear hc hb) | (go_at_call 32; with_reducible refine (HKE.out Bw10 dw10 Bt10 dt10 Br10 dr10 L11 D11 _ (HC10.out.ev HM11.out) HL11.out).mono ?_; rintro e x12 ⟨rfl, hb⟩; have HE12 := hid (HE11.out.trans hb); have HV12 := hid (HV11.out.trans hb); have HW12 := hid (HW11.out.trans hb); have HA12 := hid (HA11.out.trans hb); have HB12 := hid (HB11.out.trans hb); clear hb; clear y0 y1 y2 y3 y4 y5 y6 y7 y8 y9; obtain ⟨y0, y1, y2, y3, y4, y5, y6, y7, y8, y9⟩ := cells10 (HV12.out.heap Q0.out)))
 go_upto_region 8 with (go_at_call 55; with_reducible refine (HTR.out _ HE12.out).mono ?_; rintro e x13 ⟨⟨LB, lm, ld, rfl, hm, htl⟩, hb⟩; have HE13 := hid (HE12.out.trans hb); have HV13 := hid (HV12.out.trans hb); have HW13 := hid (HW12.out.trans hb); have HA13 := hid (HA12.out.trans hb); have HB13 := hid (HB12.out.trans hb); have HTL := hid htl; clear htl; clear hb; clear y0 y1 y2 y3 y4 y5 y6 y7 y8 y9; obtain ⟨y0, y1, y2, y3, y4, y5, y6, y7, y8, y9⟩ := cells10 (HV13.out.heap Q0.out))
 have hll := HTL.out.len
 have hlm0 : 0 < lm := by
  rcases Nat.eq_zero_or_pos lm with h | h
  ·
   rw [h] at hll; exact absurd (List.eq_nil_of_length_eq_zero hll) HRN.out
  ·
   exact h
 have c7_ : ((lm : Int) == 0) = false := by simp; omega
 obtain ⟨q, hqe⟩ : ∃ q, wn % lm = q := ⟨_, rfl⟩
 have hq : q < lm := by rw [← hqe]; exact Nat.mod_lt _ hlm0
 have m0 : ¬ ((lm : Int) = 0) := by omega
 have m1 : (wn : Int) % (lm : Int) = (q : Int) := by rw [← hqe]; exact (Int.natCast_emod wn lm).symm
 have m2 : (wn : Int).tmod (lm : Int) = (q : Int) := by rw [Int.tmod_eq_emod_of_nonneg (by omega)]; exact m1
 have gq : IntKind.i64.wrap (q : Int) = (q : Int) := IntWalk.i64_in _ (by omega)
 clear hqe
 obtain ⟨bl, ol, x, hA, hbl, hx, _, hcc⟩ := (HRB.out.ev HB13.out).at_ (Below.refl _ _) hinw
 obtain rfl : r = x := HXN.out x hx
 have e4 := hcc 0 _ rfl
 have e5 := hcc 1 _ rfl
 simp only [Nat.add_zero] at e4
 have hcapB := HRB.out.cap
 subst hA
 clear hx hcc
 obtain ⟨z0, z1, z2⟩ := cells3 (HA13.out.heap HR.out)
 have l0 := heap_lt (HV13.out.heap Q0.out)
 have l1 := heap_lt (HA13.out.heap HR.out)
 have HSE : Hid (∀ w', Ev x13 w' → (∀ o, w'.cell? ⟨w.heap.size, o, none⟩ = x13.cell? ⟨w.heap.size, o, none⟩) ∧ (∀ o, w'.cell? ⟨p, o, none⟩ = x13.cell? ⟨p, o, none⟩) ∧ (∀ o, w'.cell? ⟨bl, o, none⟩ = x13.cell? ⟨bl, o, none⟩)) := hid (fun w' h => ⟨fun o => h.cells.1 _ o l0, fun o => h.cells.1 _ o l1, fun o => h.cells.1 _ o hbl⟩)
 go_upto_region 14 with (with_reducible refine ⟨trivial, ?_⟩)
 refine wp_region_held_drew (S := fun w' => (∀ o, w'.cell? ⟨w.heap.size, o, none⟩ = x13.cell? ⟨w.heap.size, o, none⟩) ∧ (∀ o, w'.cell? ⟨p, o, none⟩ = x13.cell? ⟨p, o, none⟩) ∧ (∀ o, w'.cell? ⟨bl, o, none⟩ = x13.cell? ⟨bl, o, none⟩)) (by kernel_rfl) (⟨fun o => rfl, fun o => rfl, fun o => rfl⟩) (fun hHeld => ?_)
 refine tkH 0 (some 93) ?_
 (try simp only [Act.put, sA, sB, sC])
 refine tkH 1 (some 94) ?_
 (try simp only [Act.put, sA, sB, sC])
 refine tkH 2 (some 95) ?_
 (try simp only [Act.put, sA, sB, sC])
 refine tkH 3 (some 96) ?_
 (try simp only [Act.put, sA, sB, sC])
 refine tkH 4 (some 97) ?_
 (try simp only [Act.put, sA, sB, sC])
 refine tkH 5 (some 98) ?_
 (try simp only [Act.put, sA, sB, sC])
 refine tkH 6 (some 99) ?_
 (try simp only [Act.put, sA, sB, sC])
 refine wpAnyH_one (i := 7) rfl (by kernel_rfl) (by rfl) (fun K hK => ?_)
 go_simp
 refine (HIN.out _).mono ?_
 rintro e z7 ⟨rfl, hb7⟩
 have hy7 : Ev x13 z7 := Ev.trans (Ev.drew (Ev.refl _)) hb7
 refine hK.out _ _ (HSE.out _ hy7) (fun hHeld => ?_)
 clear hK K
 (try simp only [Act.put, sA, sB, sC])
 refine tkH 8 (some 101) ?_
 (try simp only [Act.put, sA, sB, sC])
 refine tkH 9 (some 102) ?_
 (try simp only [Act.put, sA, sB, sC])
 refine tkH 10 (some 103) ?_
 (try simp only [Act.put, sA, sB, sC])
 refine tkH 11 (some 104) ?_
 (try simp only [Act.put, sA, sB, sC])
 refine tkH 12 (some 105) ?_
 (try simp only [Act.put, sA, sB, sC])
 refine tkH 13 (some 106) ?_
 (try simp only [Act.put, sA, sB, sC])
 refine tkH 14 (some 107) ?_
 (try simp only [Act.put, sA, sB, sC])
 refine wpAnyH_skip (i := 15) (some 108) rfl (by kernel_rfl) (by kernel_rfl) (by kernel_rfl) (fun _ _ _ h => h) (by rfl) (by assumption) ?_
 (try simp only [Act.put, sA, sB, sC])
 refine wpAnyH_skip (i := 16) (some 109) rfl (by kernel_rfl) (by kernel_rfl) (by kernel_rfl) (fun _ _ _ h => h) (by rfl) (by assumption) ?_
 (try simp only [Act.put, sA, sB, sC])
 refine wpAnyH_skip (i := 17) (some 110) rfl (by kernel_rfl) (by kernel_rfl) (by kernel_rfl) (fun _ _ _ h => h) (by rfl) (by assumption) ?_
 (try simp only [Act.put, sA, sB, sC])
 refine tkH 18 (some 111) ?_
 (try simp only [Act.put, sA, sB, sC])
 refine tkH 19 (some 112) ?_
 (try simp only [Act.put, sA, sB, sC])
 refine tkH 20 (some 113) ?_
 (try simp only [Act.put, sA, sB, sC])
 refine tkH 21 (some 114) ?_
 (try simp only [Act.put, sA, sB, sC])
 refine tkH 22 (some 115) ?_
 (try simp only [Act.put, sA, sB, sC])
 refine tkH 23 (some 116) ?_
 (try simp only [Act.put, sA, sB, sC])
 refine tkH 24 (some 117) ?_
 (try simp only [Act.put, sA, sB, sC])
 refine tkH 25 (some 118) ?_
 (try simp only [Act.put, sA, sB, sC])
 refine tkH 26 (some 119) ?_
 (try simp only [Act.put, sA, sB, sC])
 refine tkH 27 (some 120) ?_
 (try simp only [Act.put, sA, sB, sC])
 refine tkH 28 (some 121) ?_
 (try simp only [Act.put, sA, sB, sC])
 refine tkH 29 (some 122) ?_
 (try simp only [Act.put, sA, sB, sC])
 refine tkH 30 (some 123) ?_
 (try simp only [Act.put, sA, sB, sC])
 refine tkH 31 (some 124) ?_
 (try simp only [Act.put, sA, sB, sC])
 refine tkH 32 (some 125) ?_
 (try simp only [Act.put, sA, sB, sC])
 refine tkH 33 (some 126) ?_
 (try simp only [Act.put, sA, sB, sC])
 refine tkH 34 (some 127) ?_
 (try simp only [Act.put, sA, sB, sC])
 refine tkH 35 (some 128) ?_
 (try simp only [Act.put, sA, sB, sC])
 refine tkH 36 (some 129) ?_
 (try simp only [Act.put, sA, sB, sC])
 refine tkH 37 (some 130) ?_
 (try simp only [Act.put, sA, sB, sC])
 refine tkH 38 (some 131) ?_
 (try simp only [Act.put, sA, sB, sC])
 refine tkH 39 (some 132) ?_
 (try simp only [Act.put, sA, sB, sC])
 refine tkH 40 (some 133) ?_
 (try simp only [Act.put, sA, sB, sC])
 refine tkH 41 (some 134) ?_
 (try simp only [Act.put, sA, sB, sC])
 refine tkH 42 (some 135) ?_
 (try simp only [Act.put, sA, sB, sC])
 refine tkH 43 (some 136) ?_
 (try simp only [Act.put, sA, sB, sC])
 refine tkH 44 (some 137) ?_
 (try simp only [Act.put, sA, sB, sC])
 refine tkH 45 (some 138) ?_
 (try simp only [Act.put, sA, sB, sC])
 refine tkH 46 (some 139) ?_
 (try simp only [Act.put, sA, sB, sC])
 refine tkH 47 (some 140) ?_
 (try simp only [Act.put, sA, sB, sC])
 refine wpAnyH_done (by kernel_rfl) ?_ _
 obtain ⟨x14, hx14⟩ : ∃ x, x = z7 := ⟨_, rfl⟩
 subst hx14
 have HE14 := hid (HE13.out.trans hy7)
 have HV14 := hid (HV13.out.trans hy7)
 have HW14 := hid (HW13.out.trans hy7)
 have HA14 := hid (HA13.out.trans hy7)
 obtain ⟨vs, hvs, hrs⟩ := HTL.out.ev hy7
 have hqt : q < ts.length := by omega
 have htk : ts[q]? = some ts[q] := List.getElem?_eq_getElem _
 have hlt := HLS.out ts[q] (List.getElem_mem _)
 have htm : ts[q] ∈ ts := List.getElem_mem _
 generalize ts[q] = t at htk hlt htm
 obtain ⟨bt, ot, v, hAt, hbt, hxt, _, hcc⟩ := hvs.at_ (Below.refl _ _) hq
 obtain ⟨t1, t2, t3⟩ := hrs.2 q v t hxt htk
 have e6 := hcc 0 _ rfl
 have e7 := hcc 1 _ rfl
 simp only [Nat.add_zero] at e6
 rw [t1] at e6
 have hcapt := hvs.cap
 have hsw := sl_own (enc := ics) (by decide) (ics_len _) (by omega) t2
 have HSW := hid hsw
 have HHX := hid (fun (j : Nat) (hj : j < i) W (hE : Ev w W) (hwt : Sl ics 1 W W.heap.size v.2.1 v.2.2.1 v.2.2.2 t.wet) (P : Option Addr) (pc : Nat) (hp : Sl ics 1 W W.heap.size P pn pc plan) => HHT.out v.2.1 v.2.2.1 v.2.2.2 t htm j (by omega) W hE hwt P pc hp)
 have HIX := hid (fun (j : Nat) (hj : j < i) W => by have := In_c (M.heatN f t plan (j + 1)) f.die f.burn W; rw [HSF.out j hj t htm] at this; exact this)
 subst hAt
 clear hxt hcc hvs hrs t1 t2 htk hsw htm hb7 hy7 HSE hHeld e4 e5 z0 z1 z2 y0 y1 y2 y3 y4 y5 y6 y7 y8 y9
 obtain ⟨y0, y1, y2, y3, y4, y5, y6, y7, y8, y9⟩ := cells10 (HV14.out.heap Q0.out)
 go_upto_region 17 with fail
 generalize hWB : World.alloc x14 _ = x15
 have hEB : Ev x14 x15 := by rw [← hWB]; exact Ev.alloc (Ev.refl _) _
 have hal := alloc1 x14 (.cells #[.int .i64 t.st, .slice v.2.1 v.2.2.1 v.2.2.2] 30)
 rw [hWB] at hal
 have HQ := hid hal.1
 have HE15 := hid (HE14.out.trans hEB)
 have HV15 := hid (HV14.out.trans hEB)
 have HW15 := hid (HW14.out.trans hEB)
 have HA15 := hid (HA14.out.trans hEB)
 have HS15 := hid (HSW.out.ev hEB)
 clear hal hWB hEB e6 e7 y0 y1 y2 y3 y4 y5 y6 y7 y8 y9
 generalize x14.heap.size = qb at HQ
 go_wp2_with fail
 go_loopw [16] (fun i' wr => ∃ k : Nat, i' = .int .i64 k ∧ k ≤ i ∧ Ev x15 wr) (fun i' _ => i - (intOf i').toNat)
 case atStart => exact ⟨0, rfl, by omega, Ev.refl _⟩
 case round =>
  obtain ⟨k, rfl, hk, hB⟩ := hrel
  obtain ⟨W1, hW1⟩ : ∃ x, x = wr := ⟨_, rfl⟩
  subst hW1
  obtain ⟨y0, y1, y2, y3, y4, y5, y6, y7, y8, y9⟩ := cells10 (hB.heap (HV15.out.heap Q0.out))
  obtain ⟨z0, z1, z2⟩ := cells3 (hB.heap (HA15.out.heap HR.out))
  obtain ⟨c0, c1⟩ := cells2 (hB.heap HQ.out)
  have l0 := heap_lt (hB.heap (HV15.out.heap Q0.out))
  have l1 := heap_lt (hB.heap HQ.out)
  by_cases hki : k < i
  ·
   have HH := hid (fun W (hE : Ev W1 W) => HHX.out k hki W (HE15.out.trans (hB.trans hE)) (HS15.out.ev (hB.trans hE)) BTN dTN (HTN.out.ev (HW15.out.trans (hB.trans hE))))
   have HIN2 := hid (fun W => HIX.out k hki W)
   generalize M.heatN f t plan (k + 1) = m at HH HIN2
   have HSE : Hid (∀ w', Ev W1 w' → (∀ o, w'.cell? ⟨w.heap.size, o, none⟩ = W1.cell? ⟨w.heap.size, o, none⟩) ∧ (∀ o, w'.cell? ⟨qb, o, none⟩ = W1.cell? ⟨qb, o, none⟩)) := hid (fun w' h => ⟨fun o => h.cells.1 _ o l0, fun o => h.cells.1 _ o l1⟩)
   go_upto_region 20 with fail
   refine wp_region_held_drew (S := fun w' => (∀ o, w'.cell? ⟨w.heap.size, o, none⟩ = W1.cell? ⟨w.heap.size, o, none⟩) ∧ (∀ o, w'.cell? ⟨qb, o, none⟩ = W1.cell? ⟨qb, o, none⟩)) (by kernel_rfl) (⟨fun o => rfl, fun o => rfl⟩) (fun hHeld => ?_)
   refine tkH 0 (some 155) ?_
   (try simp only [Act.put, sA, sB, sC])
   refine tkH 1 (some 156) ?_
   (try simp only [Act.put, sA, sB, sC])
   refine tkH 2 (some 157) ?_
   (try simp only [Act.put, sA, sB, sC])
   refine tkH 3 (some 158) ?_
   (try simp only [Act.put, sA, sB, sC])
   refine tkH 5 (some 160) ?_
   (try simp only [Act.put, sA, sB, sC])
   refine tkH 6 (some 161) ?_
   (try simp only [Act.put, sA, sB, sC])
   refine tkH 7 (some 162) ?_
   (try simp only [Act.put, sA, sB, sC])
   refine tkH 8 (some 163) ?_
   (try simp only [Act.put, sA, sB, sC])
   refine wpAnyH_one (i := 4) rfl (by kernel_rfl) (by rfl) (fun K hK => ?_)
   go_simp
   refine (HH.out _ (Ev.drew (Ev.refl _))).mono ?_
   rintro e z4 ⟨rfl, hb4⟩
   have hy4 : Ev W1 z4 := Ev.trans (Ev.drew (Ev.refl _)) hb4
   refine hK.out _ _ (HSE.out _ hy4) (fun hHeld => ?_)
   clear hK K
   (try simp only [Act.put, sA, sB, sC])
   refine wpAnyH_one (i := 9) rfl (by kernel_rfl) (by rfl) (fun K hK => ?_)
   go_simp
   refine (HIN2.out _).mono ?_
   rintro e z9 ⟨rfl, hb9⟩
   have hy9 : Ev W1 z9 := Ev.trans hy4 hb9
   refine hK.out _ _ (HSE.out _ hy9) (fun hHeld => ?_)
   clear hK K
   (try simp only [Act.put, sA, sB, sC])
   refine tkH 10 (some 165) ?_
   (try simp only [Act.put, sA, sB, sC])
   refine wpAnyH_done (by kernel_rfl) ?_ _
   go_wp2
   exact ⟨⟨k + 1, by go_num, by omega, hB.trans hy9⟩, by simp [intOf]; omega⟩
  ·
   have hn9 : ¬ ((k : Int) < (i : Int)) := by omega
   go_wp2_with (go_at_call 19; with_reducible refine (awake_c _).mono ?_; rintro e w99 ⟨rfl, hb99⟩)
   go_ret
   exact ⟨rfl, (HE15.out.trans hB).trans hb99⟩

end Go.Proofs.Ytgimcephbeajlaa
