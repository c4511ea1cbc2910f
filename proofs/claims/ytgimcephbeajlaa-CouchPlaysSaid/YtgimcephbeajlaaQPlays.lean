import Derived.Test.YtgimcephbeajlaaC31
import Derived.Test.YtgimcephbeajlaaC27
import Derived.Test.YtgimcephbeajlaaC24
set_option linter.unusedSimpArgs false
set_option linter.unusedVariables false
namespace Go.Proofs.Ytgimcephbeajlaa
open Go.RowKit Go.Shelf

set_option maxRecDepth 100000 in
set_option maxHeartbeats 2000000 in
theorem couchPlays_no (f : M.Cf) (Aw At Ar : Option Addr) (nw cw nt ct nr cr : Nat) (Tw : Option Addr) (tw twc : Nat) (t : M.Tr) (P : Option Addr) (pn pc : Nat) (plan : List Int) (hl0 : -9223372036854775808 ≤ f.last) (w : World) (hs : M.small nw nt nr → CS w w.heap.size f Aw At Ar nw cw nt ct nr cr) (hno : ¬ ((decide (M.small nw nt nr) && M.thin f) = true ∧ tw ≤ 14 ∧ pn ≤ 14)) :
  Calls Try.prog 3 #[.agg #[.int .i64 f.last, .int .i64 f.size, .int .i64 f.cool, .int .i64 f.die, .int .i64 f.burn, .int .i64 f.st.lo, .int .i64 f.st.hi, .slice Aw nw cw, .slice At nt ct, .slice Ar nr cr], .agg #[.int .i64 t.st, .slice Tw tw twc], .slice P pn pc] w fun e w' => e = .returned (.bool true) ∧ Ev w w' := by
 have hth := fun W (hE : Ev w W) => Thin_c f Aw At Ar nw cw nt ct nr cr hl0 W (fun h => (hs h).ev hE)
 cases hthin : (decide (M.small nw nt nr) && M.thin f) with
 | false =>
  rw [hthin] at hth
  have HTH := hid hth
  clear hth hs hthin hno
  go_enter Try.func3, Try.ntmps3
  go_wp2_with (first | (go_at_call 18; with_reducible refine (HTH.out _ (Ev.alloc (Ev.alloc (Ev.refl _) _) _)).mono ?_; rintro e w1 ⟨rfl, hb1⟩; have hG : Ev w w1 := (Ev.alloc (Ev.alloc (Ev.refl _) _) _).trans hb1; have Q0 := hid (hb1.heap (alloc2 w (.cells #[.int .i64 f.last, .int .i64 f.size, .int .i64 f.cool, .int .i64 f.die, .int .i64 f.burn, .int .i64 f.st.lo, .int .i64 f.st.hi, .slice Aw nw cw, .slice At nt ct, .slice Ar nr cr] 28) (.cells #[.int .i64 t.st, .slice Tw tw twc] 30)).1); have Q1 := hid (hb1.heap (alloc2 w (.cells #[.int .i64 f.last, .int .i64 f.size, .int .i64 f.cool, .int .i64 f.die, .int .i64 f.burn, .int .i64 f.st.lo, .int .i64 f.st.hi, .slice Aw nw cw, .slice At nt ct, .slice Ar nr cr] 28) (.cells #[.int .i64 t.st, .slice Tw tw twc] 30)).2.1); obtain ⟨y0, y1, y2, y3, y4, y5, y6, y7, y8, y9⟩ := cells10 Q0.out; obtain ⟨c0, c1⟩ := cells2 Q1.out) | (go_at_call 19; with_reducible refine (awake_c _).mono ?_; rintro e w99 ⟨rfl, hb99⟩) | (with_reducible refine ⟨trivial, ?_⟩))
  go_ret
  exact ⟨rfl, hG.trans hb99⟩
 | true =>
  rw [hthin] at hth hno
  have HTH := hid hth
  clear hth hs hthin
  by_cases q1 : tw ≤ 14
  case neg =>
   have q1a : (tw : Int) > 14 := by omega
   clear hno
   go_enter Try.func3, Try.ntmps3
   go_wp2_with (first | (go_at_call 18; with_reducible refine (HTH.out _ (Ev.alloc (Ev.alloc (Ev.refl _) _) _)).mono ?_; rintro e w1 ⟨rfl, hb1⟩; have hG : Ev w w1 := (Ev.alloc (Ev.alloc (Ev.refl _) _) _).trans hb1; have Q0 := hid (hb1.heap (alloc2 w (.cells #[.int .i64 f.last, .int .i64 f.size, .int .i64 f.cool, .int .i64 f.die, .int .i64 f.burn, .int .i64 f.st.lo, .int .i64 f.st.hi, .slice Aw nw cw, .slice At nt ct, .slice Ar nr cr] 28) (.cells #[.int .i64 t.st, .slice Tw tw twc] 30)).1); have Q1 := hid (hb1.heap (alloc2 w (.cells #[.int .i64 f.last, .int .i64 f.size, .int .i64 f.cool, .int .i64 f.die, .int .i64 f.burn, .int .i64 f.st.lo, .int .i64 f.st.hi, .slice Aw nw cw, .slice At nt ct, .slice Ar nr cr] 28) (.cells #[.int .i64 t.st, .slice Tw tw twc] 30)).2.1); obtain ⟨y0, y1, y2, y3, y4, y5, y6, y7, y8, y9⟩ := cells10 Q0.out; obtain ⟨c0, c1⟩ := cells2 Q1.out) | (go_at_call 19; with_reducible refine (awake_c _).mono ?_; rintro e w99 ⟨rfl, hb99⟩) | (with_reducible refine ⟨trivial, ?_⟩))
   go_ret
   exact ⟨rfl, hG.trans hb99⟩
  have q1a : ¬ ((tw : Int) > 14) := by omega
  by_cases q2 : pn ≤ 14
  case neg =>
   have q2a : (pn : Int) > 14 := by omega
   clear hno
   go_enter Try.func3, Try.ntmps3
   go_wp2_with (first | (go_at_call 18; with_reducible refine (HTH.out _ (Ev.alloc (Ev.alloc (Ev.refl _) _) _)).mono ?_; rintro e w1 ⟨rfl, hb1⟩; have hG : Ev w w1 := (Ev.alloc (Ev.alloc (Ev.refl _) _) _).trans hb1; have Q0 := hid (hb1.heap (alloc2 w (.cells #[.int .i64 f.last, .int .i64 f.size, .int .i64 f.cool, .int .i64 f.die, .int .i64 f.burn, .int .i64 f.st.lo, .int .i64 f.st.hi, .slice Aw nw cw, .slice At nt ct, .slice Ar nr cr] 28) (.cells #[.int .i64 t.st, .slice Tw tw twc] 30)).1); have Q1 := hid (hb1.heap (alloc2 w (.cells #[.int .i64 f.last, .int .i64 f.size, .int .i64 f.cool, .int .i64 f.die, .int .i64 f.burn, .int .i64 f.st.lo, .int .i64 f.st.hi, .slice Aw nw cw, .slice At nt ct, .slice Ar nr cr] 28) (.cells #[.int .i64 t.st, .slice Tw tw twc] 30)).2.1); obtain ⟨y0, y1, y2, y3, y4, y5, y6, y7, y8, y9⟩ := cells10 Q0.out; obtain ⟨c0, c1⟩ := cells2 Q1.out) | (go_at_call 19; with_reducible refine (awake_c _).mono ?_; rintro e w99 ⟨rfl, hb99⟩) | (with_reducible refine ⟨trivial, ?_⟩))
   go_ret
   exact ⟨rfl, hG.trans hb99⟩
  have q2a : ¬ ((pn : Int) > 14) := by omega
  exact absurd ⟨rfl, q1, q2⟩ hno

set_option maxRecDepth 100000 in
set_option maxHeartbeats 8000000 in
theorem couchPlays_a (f : M.Cf) (Aw At Ar : Option Addr) (nw cw nt ct nr cr : Nat) (Tw : Option Addr) (tw twc : Nat) (t : M.Tr) (P : Option Addr) (pn pc : Nat) (plan : List Int) (hl0 : -9223372036854775808 ≤ f.last) (w : World) (HCS : Hid (CS w w.heap.size f Aw At Ar nw cw nt ct nr cr)) (HW : Hid (Sl ics 1 w w.heap.size Tw tw twc t.wet)) (HP : Hid (Sl ics 1 w w.heap.size P pn pc plan)) (hsm : M.small nw nt nr) (hth : (decide (M.small nw nt nr) && M.thin f) = true) (q1 : tw ≤ 14) (q2 : pn ≤ 14) (h0 : M.check f ≠ 0) :
  Calls Try.prog 3 #[.agg #[.int .i64 f.last, .int .i64 f.size, .int .i64 f.cool, .int .i64 f.die, .int .i64 f.burn, .int .i64 f.st.lo, .int .i64 f.st.hi, .slice Aw nw cw, .slice At nt ct, .slice Ar nr cr], .agg #[.int .i64 t.st, .slice Tw tw twc], .slice P pn pc] w fun e w' => e = .returned (.bool true) ∧ Ev w w' := by
 have q1a : ¬ ((tw : Int) > 14) := by omega
 have q2a : ¬ ((pn : Int) > 14) := by omega
 obtain ⟨s0, s1, s2⟩ := hsm
 have HTH := hid (fun W (hE : Ev w W) => by have := Thin_c f Aw At Ar nw cw nt ct nr cr hl0 W (fun _ => HCS.out.ev hE); rw [hth] at this; exact this)
 have HFA := hid (fun W (hE : Ev w W) => fault_c f Aw At Ar nw cw nt ct nr cr hl0 W (HCS.out.ev hE))
 have HCK := hid (fun (Bw : Option Addr) (dw : Nat) (Bt : Option Addr) (dt : Nat) (Br : Option Addr) (dr : Nat) W (h : CS W W.heap.size f Bw Bt Br nw dw nt dt nr dr) => check_c f Bw Bt Br nw dw nt dt nr dr hl0 W h)
 have HPL := hid (fun (Bw : Option Addr) (dw : Nat) (Bt : Option Addr) (dt : Nat) (Br : Option Addr) (dr : Nat) (T1 : Option Addr) (u1 : Nat) (L : Option Addr) (d : Nat) W (h : CS W W.heap.size f Bw Bt Br nw dw nt dt nr dr) (h1 : Sl ics 1 W W.heap.size T1 tw u1 t.wet) (h3 : Sl ics 1 W W.heap.size L pn d plan) => Play_chk f Bw Bt Br nw dw nt dt nr dr T1 tw u1 t L pn d plan hl0 W h h1 h3 h0)
 have HPV := hid (fun (Bw : Option Addr) (dw : Nat) (Bt : Option Addr) (dt : Nat) (Br : Option Addr) (dr : Nat) (T1 : Option Addr) (u1 : Nat) W (h : CS W W.heap.size f Bw Bt Br nw dw nt dt nr dr) (h1 : Sl ics 1 W W.heap.size T1 tw u1 t.wet) => ProveTruth_chk f Bw Bt Br nw dw nt dt nr dr T1 tw u1 t hl0 W h h1 h0)
 generalize M.check f = ec at HPL HFA HCK h0
 have c1_ : (ec == 0) = false := by simpa using h0
 have c2_ : (ec != 0) = true := by simpa using h0
 have c3_ : (ec != ec) = false := by simp
 have c4_ : (ec == ec) = true := by simp
 clear h0
 clear hth
 go_enter Try.func3, Try.ntmps3
 go_upto_region 3 with (first | (go_at_call 18; with_reducible refine (HTH.out _ (Ev.alloc (Ev.alloc (Ev.refl _) _) _)).mono ?_; rintro e w1 ⟨rfl, hb1⟩; have hG : Ev w w1 := (Ev.alloc (Ev.alloc (Ev.refl _) _) _).trans hb1; have Q0 := hid (hb1.heap (alloc2 w (.cells #[.int .i64 f.last, .int .i64 f.size, .int .i64 f.cool, .int .i64 f.die, .int .i64 f.burn, .int .i64 f.st.lo, .int .i64 f.st.hi, .slice Aw nw cw, .slice At nt ct, .slice Ar nr cr] 28) (.cells #[.int .i64 t.st, .slice Tw tw twc] 30)).1); have Q1 := hid (hb1.heap (alloc2 w (.cells #[.int .i64 f.last, .int .i64 f.size, .int .i64 f.cool, .int .i64 f.die, .int .i64 f.burn, .int .i64 f.st.lo, .int .i64 f.st.hi, .slice Aw nw cw, .slice At nt ct, .slice Ar nr cr] 28) (.cells #[.int .i64 t.st, .slice Tw tw twc] 30)).2.1); obtain ⟨y0, y1, y2, y3, y4, y5, y6, y7, y8, y9⟩ := cells10 Q0.out; obtain ⟨c0, c1⟩ := cells2 Q1.out) | (with_reducible refine ⟨trivial, ?_⟩))
 have l0 := heap_lt Q0.out
 have l1 := heap_lt Q1.out
 have HSE : Hid (∀ w', Ev w1 w' → (∀ o, w'.cell? ⟨w.heap.size, o, none⟩ = w1.cell? ⟨w.heap.size, o, none⟩) ∧ (∀ o, w'.cell? ⟨w.heap.size + 1, o, none⟩ = w1.cell? ⟨w.heap.size + 1, o, none⟩)) := hid (fun w' h => ⟨fun o => h.cells.1 _ o l0, fun o => h.cells.1 _ o l1⟩)
 refine wp_region_held_drew (S := fun w' => (∀ o, w'.cell? ⟨w.heap.size, o, none⟩ = w1.cell? ⟨w.heap.size, o, none⟩) ∧ (∀ o, w'.cell? ⟨w.heap.size + 1, o, none⟩ = w1.cell? ⟨w.heap.size + 1, o, none⟩)) (by kernel_rfl) (⟨fun o => rfl, fun o => rfl⟩) (fun hHeld => ?_)
 refine tkH 0 (some 28) ?_
 (try simp only [Act.put, sA, sB, sC])
 refine tkH 2 (some 30) ?_
 (try simp only [Act.put, sA, sB, sC])
 refine tkH 4 (some 32) ?_
 (try simp only [Act.put, sA, sB, sC])
 refine wpAnyH_one (i := 1) rfl (by kernel_rfl) (by rfl) (fun K hK => ?_)
 go_simp
 refine (Heap_c f Aw At Ar nw cw nt ct nr cr (by omega) (by omega) (by omega) _ (HCS.out.ev (hG.trans (Ev.drew (Ev.refl _))))).mono ?_
 rintro e x1 ⟨⟨Bw, dw, Bt, dt, Br, dr, rfl, hc1⟩, hb1⟩
 have hV1 : Ev w1 x1 := Ev.trans (Ev.drew (Ev.refl _)) hb1
 refine hK.out _ _ (HSE.out _ hV1) (fun hHeld => ?_)
 clear hK K
 (try simp only [Act.put, sA, sB, sC])
 refine wpAnyH_one (i := 3) rfl (by kernel_rfl) (by rfl) (fun K hK => ?_)
 go_simp
 refine (Truth_c Tw tw twc t (by omega) _ (HW.out.ev (hG.trans hV1))).mono ?_
 rintro e x2 ⟨⟨T1, u1, rfl, ht1⟩, hb2⟩
 have hV2 : Ev w1 x2 := Ev.trans hV1 hb2
 refine hK.out _ _ (HSE.out _ hV2) (fun hHeld => ?_)
 clear hK K
 (try simp only [Act.put, sA, sB, sC])
 refine wpAnyH_one (i := 5) rfl (by kernel_rfl) (by rfl) (fun K hK => ?_)
 go_simp
 refine (list_c _ _ _ plan (by omega) _ (HP.out.ev (hG.trans hV2))).mono ?_
 rintro e x3 ⟨⟨L, dL, rfl, ho3⟩, hb3⟩
 have hV3 : Ev w1 x3 := Ev.trans hV2 hb3
 refine hK.out _ _ (HSE.out _ hV3) (fun hHeld => ?_)
 clear hK K
 (try simp only [Act.put, sA, sB, sC])
 refine wpAnyH_one (i := 6) rfl (by kernel_rfl) (by rfl) (fun K hK => ?_)
 go_simp
 refine (HPL.out Bw dw Bt dt Br dr T1 u1 L dL _ ((hc1.ev hb2).ev hb3) (ht1.ev hb3) (sl_own (enc := ics) (by decide) (ics_len _) (by omega) ho3)).mono ?_
 rintro e x4 ⟨rfl, hb4⟩
 have hV4 : Ev w1 x4 := Ev.trans hV3 hb4
 refine hK.out _ _ (HSE.out _ hV4) (fun hHeld => ?_)
 clear hK K
 (try simp only [Act.put, sA, sB, sC])
 refine tkH 7 (some 27) ?_
 (try simp only [Act.put, sA, sB, sC])
 refine tkH 8 (some 35) ?_
 (try simp only [Act.put, sA, sB, sC])
 refine tkH 9 (some 36) ?_
 (try simp only [Act.put, sA, sB, sC])
 refine tkH 10 (some 7) ?_
 (try simp only [Act.put, sA, sB, sC])
 refine tkH 11 (some 8) ?_
 (try simp only [Act.put, sA, sB, sC])
 refine wpAnyH_done (by kernel_rfl) ?_ _
 have HV3 := hid hV4
 clear y0 y1 y2 y3 y4 y5 y6 y7 y8 y9 c0 c1
 obtain ⟨y0, y1, y2, y3, y4, y5, y6, y7, y8, y9⟩ := cells10 (hV4.heap Q0.out)
 obtain ⟨c0, c1⟩ := cells2 (hV4.heap Q1.out)
 have l0' := heap_lt (hV4.heap Q0.out)
 have l1' := heap_lt (hV4.heap Q1.out)
 clear hc1 ht1 ho3 hb1 hb2 hb3 hV1 hV2 hV3 hHeld
 go_upto_region 4 with fail
 have HSF : Hid (∀ w', Ev x4 w' → (∀ o, w'.cell? ⟨w.heap.size, o, none⟩ = x4.cell? ⟨w.heap.size, o, none⟩) ∧ (∀ o, w'.cell? ⟨w.heap.size + 1, o, none⟩ = x4.cell? ⟨w.heap.size + 1, o, none⟩)) := hid (fun w' h => ⟨fun o => h.cells.1 _ o l0', fun o => h.cells.1 _ o l1'⟩)
 refine wp_region_held_drew (S := fun w' => (∀ o, w'.cell? ⟨w.heap.size, o, none⟩ = x4.cell? ⟨w.heap.size, o, none⟩) ∧ (∀ o, w'.cell? ⟨w.heap.size + 1, o, none⟩ = x4.cell? ⟨w.heap.size + 1, o, none⟩)) (by kernel_rfl) (⟨fun o => rfl, fun o => rfl⟩) (fun hHeld => ?_)
 refine tkH 0 (some 37) ?_
 (try simp only [Act.put, sA, sB, sC])
 refine tkH 2 (some 39) ?_
 (try simp only [Act.put, sA, sB, sC])
 refine wpAnyH_one (i := 1) rfl (by kernel_rfl) (by rfl) (fun K hK => ?_)
 go_simp
 refine (Heap_c f Aw At Ar nw cw nt ct nr cr (by omega) (by omega) (by omega) _ (HCS.out.ev ((hG.trans HV3.out).trans (Ev.drew (Ev.refl _))))).mono ?_
 rintro e z1 ⟨⟨Bw2, dw2, Bt2, dt2, Br2, dr2, rfl, hc1⟩, hb1⟩
 have hU1 : Ev x4 z1 := Ev.trans (Ev.drew (Ev.refl _)) hb1
 refine hK.out _ _ (HSF.out _ hU1) (fun hHeld => ?_)
 clear hK K
 (try simp only [Act.put, sA, sB, sC])
 refine wpAnyH_one (i := 3) rfl (by kernel_rfl) (by rfl) (fun K hK => ?_)
 go_simp
 refine (Truth_c Tw tw twc t (by omega) _ (HW.out.ev ((hG.trans HV3.out).trans hU1))).mono ?_
 rintro e z2 ⟨⟨T3, u3, rfl, ht1⟩, hb2⟩
 have hU2 : Ev x4 z2 := Ev.trans hU1 hb2
 refine hK.out _ _ (HSF.out _ hU2) (fun hHeld => ?_)
 clear hK K
 (try simp only [Act.put, sA, sB, sC])
 refine wpAnyH_one (i := 4) rfl (by kernel_rfl) (by rfl) (fun K hK => ?_)
 go_simp
 refine (HPV.out Bw2 dw2 Bt2 dt2 Br2 dr2 T3 u3 _ (hc1.ev hb2) ht1).mono ?_
 rintro e z3 ⟨rfl, hb3⟩
 have hU3 : Ev x4 z3 := Ev.trans hU2 hb3
 refine hK.out _ _ (HSF.out _ hU3) (fun hHeld => ?_)
 clear hK K
 (try simp only [Act.put, sA, sB, sC])
 refine tkH 5 (some 9) ?_
 (try simp only [Act.put, sA, sB, sC])
 refine wpAnyH_done (by kernel_rfl) ?_ _
 have HV4 := hid (HV3.out.trans hU3)
 have HX := hid hU3
 clear y0 y1 y2 y3 y4 y5 y6 y7 y8 y9 c0 c1 hc1 ht1 hb1 hb2 hU1 hU2 hHeld
 obtain ⟨y0, y1, y2, y3, y4, y5, y6, y7, y8, y9⟩ := cells10 (HV4.out.heap Q0.out)
 obtain ⟨c0, c1⟩ := cells2 (HV4.out.heap Q1.out)
 go_wp2_with (first | (go_at_call 25; with_reducible refine (HFA.out _ (hG.trans HV4.out)).mono ?_; rintro e v5 ⟨rfl, hb⟩; have HV5 := hid (HV4.out.trans hb); have HX5 := hid (HX.out.trans hb); clear hb; obtain ⟨y0, y1, y2, y3, y4, y5, y6, y7, y8, y9⟩ := cells10 (HV5.out.heap Q0.out); obtain ⟨c0, c1⟩ := cells2 (HV5.out.heap Q1.out)) | (go_at_call 21; with_reducible refine (Heap_c f Aw At Ar nw cw nt ct nr cr (by omega) (by omega) (by omega) _ (HCS.out.ev (hG.trans HV5.out))).mono ?_; rintro e v6 ⟨⟨Bw3, dw3, Bt3, dt3, Br3, dr3, rfl, hcf⟩, hb⟩; have HV6 := hid (HV5.out.trans hb); have HX6 := hid (HX5.out.trans hb); clear hb; obtain ⟨y0, y1, y2, y3, y4, y5, y6, y7, y8, y9⟩ := cells10 (HV6.out.heap Q0.out); obtain ⟨c0, c1⟩ := cells2 (HV6.out.heap Q1.out)) | (go_at_call 26; with_reducible refine (HCK.out Bw3 dw3 Bt3 dt3 Br3 dr3 _ hcf).mono ?_; rintro e v7 ⟨rfl, hb⟩; have HV7 := hid (HV6.out.trans hb); have HX7 := hid (HX6.out.trans hb); clear hb; obtain ⟨y0, y1, y2, y3, y4, y5, y6, y7, y8, y9⟩ := cells10 (HV7.out.heap Q0.out); obtain ⟨c0, c1⟩ := cells2 (HV7.out.heap Q1.out)) | (go_at_call 19; with_reducible refine (awake_c _).mono ?_; rintro e w99 ⟨rfl, hb99⟩) | (with_reducible refine ⟨trivial, ?_⟩))
 go_ret
 exact ⟨rfl, (hG.trans HV7.out).trans hb99⟩

set_option maxRecDepth 100000 in
set_option maxHeartbeats 8000000 in
theorem couchPlays_b1 (f : M.Cf) (Aw At Ar : Option Addr) (nw cw nt ct nr cr : Nat) (Tw : Option Addr) (tw twc : Nat) (t : M.Tr) (P : Option Addr) (pn pc : Nat) (plan : List Int) (hl0 : -9223372036854775808 ≤ f.last) (w : World) (HCS : Hid (CS w w.heap.size f Aw At Ar nw cw nt ct nr cr)) (HW : Hid (Sl ics 1 w w.heap.size Tw tw twc t.wet)) (HP : Hid (Sl ics 1 w w.heap.size P pn pc plan)) (hsm : M.small nw nt nr) (hth : (decide (M.small nw nt nr) && M.thin f) = true) (q1 : tw ≤ 14) (q2 : pn ≤ 14) (h0 : M.check f = 0) (hls : M.listed f t = false) :
  Calls Try.prog 3 #[.agg #[.int .i64 f.last, .int .i64 f.size, .int .i64 f.cool, .int .i64 f.die, .int .i64 f.burn, .int .i64 f.st.lo, .int .i64 f.st.hi, .slice Aw nw cw, .slice At nt ct, .slice Ar nr cr], .agg #[.int .i64 t.st, .slice Tw tw twc], .slice P pn pc] w fun e w' => e = .returned (.bool true) ∧ Ev w w' := by
 have q1a : ¬ ((tw : Int) > 14) := by omega
 have q2a : ¬ ((pn : Int) > 14) := by omega
 obtain ⟨s0, s1, s2⟩ := hsm
 have HTH := hid (fun W (hE : Ev w W) => by have := Thin_c f Aw At Ar nw cw nt ct nr cr hl0 W (fun _ => HCS.out.ev hE); rw [hth] at this; exact this)
 have HFA := hid (fun W (hE : Ev w W) => fault_c f Aw At Ar nw cw nt ct nr cr hl0 W (HCS.out.ev hE))
 have HCK := hid (fun (Bw : Option Addr) (dw : Nat) (Bt : Option Addr) (dt : Nat) (Br : Option Addr) (dr : Nat) W (h : CS W W.heap.size f Bw Bt Br nw dw nt dt nr dr) => check_c f Bw Bt Br nw dw nt dt nr dr hl0 W h)
 obtain ⟨hl9, _, hv, _⟩ := M.check0 h0
 have HPL := hid (fun (Bw : Option Addr) (dw : Nat) (Bt : Option Addr) (dt : Nat) (Br : Option Addr) (dr : Nat) (T1 : Option Addr) (u1 : Nat) (L : Option Addr) (d : Nat) W (h : CS W W.heap.size f Bw Bt Br nw dw nt dt nr dr) (h1 : Sl ics 1 W W.heap.size T1 tw u1 t.wet) (h3 : Sl ics 1 W W.heap.size L pn d plan) => Play_badt f Bw Bt Br nw dw nt dt nr dr T1 tw u1 t L pn d plan hl0 W h h1 h3 h0 hls)
 have HPV := hid (fun (Bw : Option Addr) (dw : Nat) (Bt : Option Addr) (dt : Nat) (Br : Option Addr) (dr : Nat) (T1 : Option Addr) (u1 : Nat) W (h : CS W W.heap.size f Bw Bt Br nw dw nt dt nr dr) (h1 : Sl ics 1 W W.heap.size T1 tw u1 t.wet) => ProveTruth_bad f Bw Bt Br nw dw nt dt nr dr T1 tw u1 t hl0 W h h1 h0 hls)
 have HIT := hid (fun W (hE : Ev w W) => by have := rIsTruth_c f Aw At Ar nw cw nt ct nr cr Tw tw twc t hv hl9 W (HCS.out.ev hE) (HW.out.ev hE); rw [hls] at this; exact this)
 have HIL := hid (fun W (hE : Ev w W) => by have := rIsListed_c f Aw At Ar nw cw nt ct nr cr Tw tw twc t W (HCS.out.ev hE) (HW.out.ev hE); rw [hls] at this; exact this)
 rw [h0] at HFA HCK
 clear h0 hls hv
 clear hth
 go_enter Try.func3, Try.ntmps3
 go_upto_region 3 with (first | (go_at_call 18; with_reducible refine (HTH.out _ (Ev.alloc (Ev.alloc (Ev.refl _) _) _)).mono ?_; rintro e w1 ⟨rfl, hb1⟩; have hG : Ev w w1 := (Ev.alloc (Ev.alloc (Ev.refl _) _) _).trans hb1; have Q0 := hid (hb1.heap (alloc2 w (.cells #[.int .i64 f.last, .int .i64 f.size, .int .i64 f.cool, .int .i64 f.die, .int .i64 f.burn, .int .i64 f.st.lo, .int .i64 f.st.hi, .slice Aw nw cw, .slice At nt ct, .slice Ar nr cr] 28) (.cells #[.int .i64 t.st, .slice Tw tw twc] 30)).1); have Q1 := hid (hb1.heap (alloc2 w (.cells #[.int .i64 f.last, .int .i64 f.size, .int .i64 f.cool, .int .i64 f.die, .int .i64 f.burn, .int .i64 f.st.lo, .int .i64 f.st.hi, .slice Aw nw cw, .slice At nt ct, .slice Ar nr cr] 28) (.cells #[.int .i64 t.st, .slice Tw tw twc] 30)).2.1); obtain ⟨y0, y1, y2, y3, y4, y5, y6, y7, y8, y9⟩ := cells10 Q0.out; obtain ⟨c0, c1⟩ := cells2 Q1.out) | (with_reducible refine ⟨trivial, ?_⟩))
 have l0 := heap_lt Q0.out
 have l1 := heap_lt Q1.out
 have HSE : Hid (∀ w', Ev w1 w' → (∀ o, w'.cell? ⟨w.heap.size, o, none⟩ = w1.cell? ⟨w.heap.size, o, none⟩) ∧ (∀ o, w'.cell? ⟨w.heap.size + 1, o, none⟩ = w1.cell? ⟨w.heap.size + 1, o, none⟩)) := hid (fun w' h => ⟨fun o => h.cells.1 _ o l0, fun o => h.cells.1 _ o l1⟩)
 refine wp_region_held_drew (S := fun w' => (∀ o, w'.cell? ⟨w.heap.size, o, none⟩ = w1.cell? ⟨w.heap.size, o, none⟩) ∧ (∀ o, w'.cell? ⟨w.heap.size + 1, o, none⟩ = w1.cell? ⟨w.heap.size + 1, o, none⟩)) (by kernel_rfl) (⟨fun o => rfl, fun o => rfl⟩) (fun hHeld => ?_)
 refine tkH 0 (some 28) ?_
 (try simp only [Act.put, sA, sB, sC])
 refine tkH 2 (some 30) ?_
 (try simp only [Act.put, sA, sB, sC])
 refine tkH 4 (some 32) ?_
 (try simp only [Act.put, sA, sB, sC])
 refine wpAnyH_one (i := 1) rfl (by kernel_rfl) (by rfl) (fun K hK => ?_)
 go_simp
 refine (Heap_c f Aw At Ar nw cw nt ct nr cr (by omega) (by omega) (by omega) _ (HCS.out.ev (hG.trans (Ev.drew (Ev.refl _))))).mono ?_
 rintro e x1 ⟨⟨Bw, dw, Bt, dt, Br, dr, rfl, hc1⟩, hb1⟩
 have hV1 : Ev w1 x1 := Ev.trans (Ev.drew (Ev.refl _)) hb1
 refine hK.out _ _ (HSE.out _ hV1) (fun hHeld => ?_)
 clear hK K
 (try simp only [Act.put, sA, sB, sC])
 refine wpAnyH_one (i := 3) rfl (by kernel_rfl) (by rfl) (fun K hK => ?_)
 go_simp
 refine (Truth_c Tw tw twc t (by omega) _ (HW.out.ev (hG.trans hV1))).mono ?_
 rintro e x2 ⟨⟨T1, u1, rfl, ht1⟩, hb2⟩
 have hV2 : Ev w1 x2 := Ev.trans hV1 hb2
 refine hK.out _ _ (HSE.out _ hV2) (fun hHeld => ?_)
 clear hK K
 (try simp only [Act.put, sA, sB, sC])
 refine wpAnyH_one (i := 5) rfl (by kernel_rfl) (by rfl) (fun K hK => ?_)
 go_simp
 refine (list_c _ _ _ plan (by omega) _ (HP.out.ev (hG.trans hV2))).mono ?_
 rintro e x3 ⟨⟨L, dL, rfl, ho3⟩, hb3⟩
 have hV3 : Ev w1 x3 := Ev.trans hV2 hb3
 refine hK.out _ _ (HSE.out _ hV3) (fun hHeld => ?_)
 clear hK K
 (try simp only [Act.put, sA, sB, sC])
 refine wpAnyH_one (i := 6) rfl (by kernel_rfl) (by rfl) (fun K hK => ?_)
 go_simp
 refine (HPL.out Bw dw Bt dt Br dr T1 u1 L dL _ ((hc1.ev hb2).ev hb3) (ht1.ev hb3) (sl_own (enc := ics) (by decide) (ics_len _) (by omega) ho3)).mono ?_
 rintro e x4 ⟨rfl, hb4⟩
 have hV4 : Ev w1 x4 := Ev.trans hV3 hb4
 refine hK.out _ _ (HSE.out _ hV4) (fun hHeld => ?_)
 clear hK K
 (try simp only [Act.put, sA, sB, sC])
 refine tkH 7 (some 27) ?_
 (try simp only [Act.put, sA, sB, sC])
 refine tkH 8 (some 35) ?_
 (try simp only [Act.put, sA, sB, sC])
 refine tkH 9 (some 36) ?_
 (try simp only [Act.put, sA, sB, sC])
 refine tkH 10 (some 7) ?_
 (try simp only [Act.put, sA, sB, sC])
 refine tkH 11 (some 8) ?_
 (try simp only [Act.put, sA, sB, sC])
 refine wpAnyH_done (by kernel_rfl) ?_ _
 have HV3 := hid hV4
 clear y0 y1 y2 y3 y4 y5 y6 y7 y8 y9 c0 c1
 obtain ⟨y0, y1, y2, y3, y4, y5, y6, y7, y8, y9⟩ := cells10 (hV4.heap Q0.out)
 obtain ⟨c0, c1⟩ := cells2 (hV4.heap Q1.out)
 have l0' := heap_lt (hV4.heap Q0.out)
 have l1' := heap_lt (hV4.heap Q1.out)
 clear hc1 ht1 ho3 hb1 hb2 hb3 hV1 hV2 hV3 hHeld
 go_upto_region 4 with fail
 have HSF : Hid (∀ w', Ev x4 w' → (∀ o, w'.cell? ⟨w.heap.size, o, none⟩ = x4.cell? ⟨w.heap.size, o, none⟩) ∧ (∀ o, w'.cell? ⟨w.heap.size + 1, o, none⟩ = x4.cell? ⟨w.heap.size + 1, o, none⟩)) := hid (fun w' h => ⟨fun o => h.cells.1 _ o l0', fun o => h.cells.1 _ o l1'⟩)
 refine wp_region_held_drew (S := fun w' => (∀ o, w'.cell? ⟨w.heap.size, o, none⟩ = x4.cell? ⟨w.heap.size, o, none⟩) ∧ (∀ o, w'.cell? ⟨w.heap.size + 1, o, none⟩ = x4.cell? ⟨w.heap.size + 1, o, none⟩)) (by kernel_rfl) (⟨fun o => rfl, fun o => rfl⟩) (fun hHeld => ?_)
 refine tkH 0 (some 37) ?_
 (try simp only [Act.put, sA, sB, sC])
 refine tkH 2 (some 39) ?_
 (try simp only [Act.put, sA, sB, sC])
 refine wpAnyH_one (i := 1) rfl (by kernel_rfl) (by rfl) (fun K hK => ?_)
 go_simp
 refine (Heap_c f Aw At Ar nw cw nt ct nr cr (by omega) (by omega) (by omega) _ (HCS.out.ev ((hG.trans HV3.out).trans (Ev.drew (Ev.refl _))))).mono ?_
 rintro e z1 ⟨⟨Bw2, dw2, Bt2, dt2, Br2, dr2, rfl, hc1⟩, hb1⟩
 have hU1 : Ev x4 z1 := Ev.trans (Ev.drew (Ev.refl _)) hb1
 refine hK.out _ _ (HSF.out _ hU1) (fun hHeld => ?_)
 clear hK K
 (try simp only [Act.put, sA, sB, sC])
 refine wpAnyH_one (i := 3) rfl (by kernel_rfl) (by rfl) (fun K hK => ?_)
 go_simp
 refine (Truth_c Tw tw twc t (by omega) _ (HW.out.ev ((hG.trans HV3.out).trans hU1))).mono ?_
 rintro e z2 ⟨⟨T3, u3, rfl, ht1⟩, hb2⟩
 have hU2 : Ev x4 z2 := Ev.trans hU1 hb2
 refine hK.out _ _ (HSF.out _ hU2) (fun hHeld => ?_)
 clear hK K
 (try simp only [Act.put, sA, sB, sC])
 refine wpAnyH_one (i := 4) rfl (by kernel_rfl) (by rfl) (fun K hK => ?_)
 go_simp
 refine (HPV.out Bw2 dw2 Bt2 dt2 Br2 dr2 T3 u3 _ (hc1.ev hb2) ht1).mono ?_
 rintro e z3 ⟨rfl, hb3⟩
 have hU3 : Ev x4 z3 := Ev.trans hU2 hb3
 refine hK.out _ _ (HSF.out _ hU3) (fun hHeld => ?_)
 clear hK K
 (try simp only [Act.put, sA, sB, sC])
 refine tkH 5 (some 9) ?_
 (try simp only [Act.put, sA, sB, sC])
 refine wpAnyH_done (by kernel_rfl) ?_ _
 have HV4 := hid (HV3.out.trans hU3)
 have HX := hid hU3
 clear y0 y1 y2 y3 y4 y5 y6 y7 y8 y9 c0 c1 hc1 ht1 hb1 hb2 hU1 hU2 hHeld
 obtain ⟨y0, y1, y2, y3, y4, y5, y6, y7, y8, y9⟩ := cells10 (HV4.out.heap Q0.out)
 obtain ⟨c0, c1⟩ := cells2 (HV4.out.heap Q1.out)
 go_wp2_with (first | (go_at_call 25; with_reducible refine (HFA.out _ (hG.trans HV4.out)).mono ?_; rintro e v5 ⟨rfl, hb⟩; have HV5 := hid (HV4.out.trans hb); have HX5 := hid (HX.out.trans hb); clear hb; obtain ⟨y0, y1, y2, y3, y4, y5, y6, y7, y8, y9⟩ := cells10 (HV5.out.heap Q0.out); obtain ⟨c0, c1⟩ := cells2 (HV5.out.heap Q1.out)) | (go_at_call 21; with_reducible refine (Heap_c f Aw At Ar nw cw nt ct nr cr (by omega) (by omega) (by omega) _ (HCS.out.ev (hG.trans HV5.out))).mono ?_; rintro e v6 ⟨⟨Bw3, dw3, Bt3, dt3, Br3, dr3, rfl, hcf⟩, hb⟩; have HV6 := hid (HV5.out.trans hb); have HX6 := hid (HX5.out.trans hb); clear hb; obtain ⟨y0, y1, y2, y3, y4, y5, y6, y7, y8, y9⟩ := cells10 (HV6.out.heap Q0.out); obtain ⟨c0, c1⟩ := cells2 (HV6.out.heap Q1.out)) | (go_at_call 26; with_reducible refine (HCK.out Bw3 dw3 Bt3 dt3 Br3 dr3 _ hcf).mono ?_; rintro e v7 ⟨rfl, hb⟩; have HV7 := hid (HV6.out.trans hb); have HX7 := hid (HX6.out.trans hb); clear hb; obtain ⟨y0, y1, y2, y3, y4, y5, y6, y7, y8, y9⟩ := cells10 (HV7.out.heap Q0.out); obtain ⟨c0, c1⟩ := cells2 (HV7.out.heap Q1.out)) | (go_at_call 27; with_reducible refine (HIT.out _ (hG.trans HV7.out)).mono ?_; rintro e v8 ⟨rfl, hb⟩; have HV8 := hid (HV7.out.trans hb); have HX8 := hid (HX7.out.trans hb); clear hb; obtain ⟨y0, y1, y2, y3, y4, y5, y6, y7, y8, y9⟩ := cells10 (HV8.out.heap Q0.out); obtain ⟨c0, c1⟩ := cells2 (HV8.out.heap Q1.out)) | (go_at_call 28; with_reducible refine (HIL.out _ (hG.trans HV8.out)).mono ?_; rintro e v9 ⟨rfl, hb⟩; have HV9 := hid (HV8.out.trans hb); have HX9 := hid (HX8.out.trans hb); clear hb; obtain ⟨y0, y1, y2, y3, y4, y5, y6, y7, y8, y9⟩ := cells10 (HV9.out.heap Q0.out); obtain ⟨c0, c1⟩ := cells2 (HV9.out.heap Q1.out)) | (go_at_call 19; with_reducible refine (awake_c _).mono ?_; rintro e w99 ⟨rfl, hb99⟩) | (with_reducible refine ⟨trivial, ?_⟩))
 go_ret
 exact ⟨rfl, (hG.trans HV9.out).trans hb99⟩

set_option maxRecDepth 100000 in
set_option maxHeartbeats 8000000 in
theorem couchPlays_b2 (f : M.Cf) (Aw At Ar : Option Addr) (nw cw nt ct nr cr : Nat) (Tw : Option Addr) (tw twc : Nat) (t : M.Tr) (P : Option Addr) (pn pc : Nat) (plan : List Int) (hl0 : -9223372036854775808 ≤ f.last) (w : World) (HCS : Hid (CS w w.heap.size f Aw At Ar nw cw nt ct nr cr)) (HW : Hid (Sl ics 1 w w.heap.size Tw tw twc t.wet)) (HP : Hid (Sl ics 1 w w.heap.size P pn pc plan)) (hsm : M.small nw nt nr) (hth : (decide (M.small nw nt nr) && M.thin f) = true) (q1 : tw ≤ 14) (q2 : pn ≤ 14) (h0 : M.check f = 0) (hls : M.listed f t = true) (hpl : M.isTurns f plan = false) :
  Calls Try.prog 3 #[.agg #[.int .i64 f.last, .int .i64 f.size, .int .i64 f.cool, .int .i64 f.die, .int .i64 f.burn, .int .i64 f.st.lo, .int .i64 f.st.hi, .slice Aw nw cw, .slice At nt ct, .slice Ar nr cr], .agg #[.int .i64 t.st, .slice Tw tw twc], .slice P pn pc] w fun e w' => e = .returned (.bool true) ∧ Ev w w' := by
 have q1a : ¬ ((tw : Int) > 14) := by omega
 have q2a : ¬ ((pn : Int) > 14) := by omega
 obtain ⟨s0, s1, s2⟩ := hsm
 have HTH := hid (fun W (hE : Ev w W) => by have := Thin_c f Aw At Ar nw cw nt ct nr cr hl0 W (fun _ => HCS.out.ev hE); rw [hth] at this; exact this)
 have HFA := hid (fun W (hE : Ev w W) => fault_c f Aw At Ar nw cw nt ct nr cr hl0 W (HCS.out.ev hE))
 have HCK := hid (fun (Bw : Option Addr) (dw : Nat) (Bt : Option Addr) (dt : Nat) (Br : Option Addr) (dr : Nat) W (h : CS W W.heap.size f Bw Bt Br nw dw nt dt nr dr) => check_c f Bw Bt Br nw dw nt dt nr dr hl0 W h)
 obtain ⟨hl9, _, hv, _⟩ := M.check0 h0
 have HPL := hid (fun (Bw : Option Addr) (dw : Nat) (Bt : Option Addr) (dt : Nat) (Br : Option Addr) (dr : Nat) (T1 : Option Addr) (u1 : Nat) (L : Option Addr) (d : Nat) W (h : CS W W.heap.size f Bw Bt Br nw dw nt dt nr dr) (h1 : Sl ics 1 W W.heap.size T1 tw u1 t.wet) (h3 : Sl ics 1 W W.heap.size L pn d plan) => Play_badp f Bw Bt Br nw dw nt dt nr dr T1 tw u1 t L pn d plan hl0 W h h1 h3 h0 hls hpl)
 have HPV := hid (fun (Bw : Option Addr) (dw : Nat) (Bt : Option Addr) (dt : Nat) (Br : Option Addr) (dr : Nat) (T1 : Option Addr) (u1 : Nat) W (h : CS W W.heap.size f Bw Bt Br nw dw nt dt nr dr) (h1 : Sl ics 1 W W.heap.size T1 tw u1 t.wet) => ProveTruth_ok f Bw Bt Br nw dw nt dt nr dr T1 tw u1 t hl0 W h h1 h0 hls)
 have HIT := hid (fun W (hE : Ev w W) => by have := rIsTruth_c f Aw At Ar nw cw nt ct nr cr Tw tw twc t hv hl9 W (HCS.out.ev hE) (HW.out.ev hE); rw [hls] at this; exact this)
 have HIL := hid (fun W (hE : Ev w W) => by have := rIsListed_c f Aw At Ar nw cw nt ct nr cr Tw tw twc t W (HCS.out.ev hE) (HW.out.ev hE); rw [hls] at this; exact this)
 have HIP := hid (fun W (hE : Ev w W) => by have := rIsTurns_c f Aw At Ar nw cw nt ct nr cr P pn pc plan W (HP.out.ev hE); rw [hpl] at this; exact this)
 rw [h0] at HFA HCK
 generalize M.right f t = rt at HPV HIT
 have c5_ : (rt != rt) = false := by simp
 clear h0 hls hpl hv
 clear hth
 go_enter Try.func3, Try.ntmps3
 go_upto_region 3 with (first | (go_at_call 18; with_reducible refine (HTH.out _ (Ev.alloc (Ev.alloc (Ev.refl _) _) _)).mono ?_; rintro e w1 ⟨rfl, hb1⟩; have hG : Ev w w1 := (Ev.alloc (Ev.alloc (Ev.refl _) _) _).trans hb1; have Q0 := hid (hb1.heap (alloc2 w (.cells #[.int .i64 f.last, .int .i64 f.size, .int .i64 f.cool, .int .i64 f.die, .int .i64 f.burn, .int .i64 f.st.lo, .int .i64 f.st.hi, .slice Aw nw cw, .slice At nt ct, .slice Ar nr cr] 28) (.cells #[.int .i64 t.st, .slice Tw tw twc] 30)).1); have Q1 := hid (hb1.heap (alloc2 w (.cells #[.int .i64 f.last, .int .i64 f.size, .int .i64 f.cool, .int .i64 f.die, .int .i64 f.burn, .int .i64 f.st.lo, .int .i64 f.st.hi, .slice Aw nw cw, .slice At nt ct, .slice Ar nr cr] 28) (.cells #[.int .i64 t.st, .slice Tw tw twc] 30)).2.1); obtain ⟨y0, y1, y2, y3, y4, y5, y6, y7, y8, y9⟩ := cells10 Q0.out; obtain ⟨c0, c1⟩ := cells2 Q1.out) | (with_reducible refine ⟨trivial, ?_⟩))
 have l0 := heap_lt Q0.out
 have l1 := heap_lt Q1.out
 have HSE : Hid (∀ w', Ev w1 w' → (∀ o, w'.cell? ⟨w.heap.size, o, none⟩ = w1.cell? ⟨w.heap.size, o, none⟩) ∧ (∀ o, w'.cell? ⟨w.heap.size + 1, o, none⟩ = w1.cell? ⟨w.heap.size + 1, o, none⟩)) := hid (fun w' h => ⟨fun o => h.cells.1 _ o l0, fun o => h.cells.1 _ o l1⟩)
 refine wp_region_held_drew (S := fun w' => (∀ o, w'.cell? ⟨w.heap.size, o, none⟩ = w1.cell? ⟨w.heap.size, o, none⟩) ∧ (∀ o, w'.cell? ⟨w.heap.size + 1, o, none⟩ = w1.cell? ⟨w.heap.size + 1, o, none⟩)) (by kernel_rfl) (⟨fun o => rfl, fun o => rfl⟩) (fun hHeld => ?_)
 refine tkH 0 (some 28) ?_
 (try simp only [Act.put, sA, sB, sC])
 refine tkH 2 (some 30) ?_
 (try simp only [Act.put, sA, sB, sC])
 refine tkH 4 (some 32) ?_
 (try simp only [Act.put, sA, sB, sC])
 refine wpAnyH_one (i := 1) rfl (by kernel_rfl) (by rfl) (fun K hK => ?_)
 go_simp
 refine (Heap_c f Aw At Ar nw cw nt ct nr cr (by omega) (by omega) (by omega) _ (HCS.out.ev (hG.trans (Ev.drew (Ev.refl _))))).mono ?_
 rintro e x1 ⟨⟨Bw, dw, Bt, dt, Br, dr, rfl, hc1⟩, hb1⟩
 have hV1 : Ev w1 x1 := Ev.trans (Ev.drew (Ev.refl _)) hb1
 refine hK.out _ _ (HSE.out _ hV1) (fun hHeld => ?_)
 clear hK K
 (try simp only [Act.put, sA, sB, sC])
 refine wpAnyH_one (i := 3) rfl (by kernel_rfl) (by rfl) (fun K hK => ?_)
 go_simp
 refine (Truth_c Tw tw twc t (by omega) _ (HW.out.ev (hG.trans hV1))).mono ?_
 rintro e x2 ⟨⟨T1, u1, rfl, ht1⟩, hb2⟩
 have hV2 : Ev w1 x2 := Ev.trans hV1 hb2
 refine hK.out _ _ (HSE.out _ hV2) (fun hHeld => ?_)
 clear hK K
 (try simp only [Act.put, sA, sB, sC])
 refine wpAnyH_one (i := 5) rfl (by kernel_rfl) (by rfl) (fun K hK => ?_)
 go_simp
 refine (list_c _ _ _ plan (by omega) _ (HP.out.ev (hG.trans hV2))).mono ?_
 rintro e x3 ⟨⟨L, dL, rfl, ho3⟩, hb3⟩
 have hV3 : Ev w1 x3 := Ev.trans hV2 hb3
 refine hK.out _ _ (HSE.out _ hV3) (fun hHeld => ?_)
 clear hK K
 (try simp only [Act.put, sA, sB, sC])
 refine wpAnyH_one (i := 6) rfl (by kernel_rfl) (by rfl) (fun K hK => ?_)
 go_simp
 refine (HPL.out Bw dw Bt dt Br dr T1 u1 L dL _ ((hc1.ev hb2).ev hb3) (ht1.ev hb3) (sl_own (enc := ics) (by decide) (ics_len _) (by omega) ho3)).mono ?_
 rintro e x4 ⟨rfl, hb4⟩
 have hV4 : Ev w1 x4 := Ev.trans hV3 hb4
 refine hK.out _ _ (HSE.out _ hV4) (fun hHeld => ?_)
 clear hK K
 (try simp only [Act.put, sA, sB, sC])
 refine tkH 7 (some 27) ?_
 (try simp only [Act.put, sA, sB, sC])
 refine tkH 8 (some 35) ?_
 (try simp only [Act.put, sA, sB, sC])
 refine tkH 9 (some 36) ?_
 (try simp only [Act.put, sA, sB, sC])
 refine tkH 10 (some 7) ?_
 (try simp only [Act.put, sA, sB, sC])
 refine tkH 11 (some 8) ?_
 (try simp only [Act.put, sA, sB, sC])
 refine wpAnyH_done (by kernel_rfl) ?_ _
 have HV3 := hid hV4
 clear y0 y1 y2 y3 y4 y5 y6 y7 y8 y9 c0 c1
 obtain ⟨y0, y1, y2, y3, y4, y5, y6, y7, y8, y9⟩ := cells10 (hV4.heap Q0.out)
 obtain ⟨c0, c1⟩ := cells2 (hV4.heap Q1.out)
 have l0' := heap_lt (hV4.heap Q0.out)
 have l1' := heap_lt (hV4.heap Q1.out)
 clear hc1 ht1 ho3 hb1 hb2 hb3 hV1 hV2 hV3 hHeld
 go_upto_region 4 with fail
 have HSF : Hid (∀ w', Ev x4 w' → (∀ o, w'.cell? ⟨w.heap.size, o, none⟩ = x4.cell? ⟨w.heap.size, o, none⟩) ∧ (∀ o, w'.cell? ⟨w.heap.size + 1, o, none⟩ = x4.cell? ⟨w.heap.size + 1, o, none⟩)) := hid (fun w' h => ⟨fun o => h.cells.1 _ o l0', fun o => h.cells.1 _ o l1'⟩)
 refine wp_region_held_drew (S := fun w' => (∀ o, w'.cell? ⟨w.heap.size, o, none⟩ = x4.cell? ⟨w.heap.size, o, none⟩) ∧ (∀ o, w'.cell? ⟨w.heap.size + 1, o, none⟩ = x4.cell? ⟨w.heap.size + 1, o, none⟩)) (by kernel_rfl) (⟨fun o => rfl, fun o => rfl⟩) (fun hHeld => ?_)
 refine tkH 0 (some 37) ?_
 (try simp only [Act.put, sA, sB, sC])
 refine tkH 2 (some 39) ?_
 (try simp only [Act.put, sA, sB, sC])
 refine wpAnyH_one (i := 1) rfl (by kernel_rfl) (by rfl) (fun K hK => ?_)
 go_simp
 refine (Heap_c f Aw At Ar nw cw nt ct nr cr (by omega) (by omega) (by omega) _ (HCS.out.ev ((hG.trans HV3.out).trans (Ev.drew (Ev.refl _))))).mono ?_
 rintro e z1 ⟨⟨Bw2, dw2, Bt2, dt2, Br2, dr2, rfl, hc1⟩, hb1⟩
 have hU1 : Ev x4 z1 := Ev.trans (Ev.drew (Ev.refl _)) hb1
 refine hK.out _ _ (HSF.out _ hU1) (fun hHeld => ?_)
 clear hK K
 (try simp only [Act.put, sA, sB, sC])
 refine wpAnyH_one (i := 3) rfl (by kernel_rfl) (by rfl) (fun K hK => ?_)
 go_simp
 refine (Truth_c Tw tw twc t (by omega) _ (HW.out.ev ((hG.trans HV3.out).trans hU1))).mono ?_
 rintro e z2 ⟨⟨T3, u3, rfl, ht1⟩, hb2⟩
 have hU2 : Ev x4 z2 := Ev.trans hU1 hb2
 refine hK.out _ _ (HSF.out _ hU2) (fun hHeld => ?_)
 clear hK K
 (try simp only [Act.put, sA, sB, sC])
 refine wpAnyH_one (i := 4) rfl (by kernel_rfl) (by rfl) (fun K hK => ?_)
 go_simp
 refine (HPV.out Bw2 dw2 Bt2 dt2 Br2 dr2 T3 u3 _ (hc1.ev hb2) ht1).mono ?_
 rintro e z3 ⟨rfl, hb3⟩
 have hU3 : Ev x4 z3 := Ev.trans hU2 hb3
 refine hK.out _ _ (HSF.out _ hU3) (fun hHeld => ?_)
 clear hK K
 (try simp only [Act.put, sA, sB, sC])
 refine tkH 5 (some 9) ?_
 (try simp only [Act.put, sA, sB, sC])
 refine wpAnyH_done (by kernel_rfl) ?_ _
 have HV4 := hid (HV3.out.trans hU3)
 have HX := hid hU3
 clear y0 y1 y2 y3 y4 y5 y6 y7 y8 y9 c0 c1 hc1 ht1 hb1 hb2 hU1 hU2 hHeld
 obtain ⟨y0, y1, y2, y3, y4, y5, y6, y7, y8, y9⟩ := cells10 (HV4.out.heap Q0.out)
 obtain ⟨c0, c1⟩ := cells2 (HV4.out.heap Q1.out)
 go_wp2_with (first | (go_at_call 25; with_reducible refine (HFA.out _ (hG.trans HV4.out)).mono ?_; rintro e v5 ⟨rfl, hb⟩; have HV5 := hid (HV4.out.trans hb); have HX5 := hid (HX.out.trans hb); clear hb; obtain ⟨y0, y1, y2, y3, y4, y5, y6, y7, y8, y9⟩ := cells10 (HV5.out.heap Q0.out); obtain ⟨c0, c1⟩ := cells2 (HV5.out.heap Q1.out)) | (go_at_call 21; with_reducible refine (Heap_c f Aw At Ar nw cw nt ct nr cr (by omega) (by omega) (by omega) _ (HCS.out.ev (hG.trans HV5.out))).mono ?_; rintro e v6 ⟨⟨Bw3, dw3, Bt3, dt3, Br3, dr3, rfl, hcf⟩, hb⟩; have HV6 := hid (HV5.out.trans hb); have HX6 := hid (HX5.out.trans hb); clear hb; obtain ⟨y0, y1, y2, y3, y4, y5, y6, y7, y8, y9⟩ := cells10 (HV6.out.heap Q0.out); obtain ⟨c0, c1⟩ := cells2 (HV6.out.heap Q1.out)) | (go_at_call 26; with_reducible refine (HCK.out Bw3 dw3 Bt3 dt3 Br3 dr3 _ hcf).mono ?_; rintro e v7 ⟨rfl, hb⟩; have HV7 := hid (HV6.out.trans hb); have HX7 := hid (HX6.out.trans hb); clear hb; obtain ⟨y0, y1, y2, y3, y4, y5, y6, y7, y8, y9⟩ := cells10 (HV7.out.heap Q0.out); obtain ⟨c0, c1⟩ := cells2 (HV7.out.heap Q1.out)) | (go_at_call 27; with_reducible refine (HIT.out _ (hG.trans HV7.out)).mono ?_; rintro e v8 ⟨rfl, hb⟩; have HV8 := hid (HV7.out.trans hb); have HX8 := hid (HX7.out.trans hb); clear hb; obtain ⟨y0, y1, y2, y3, y4, y5, y6, y7, y8, y9⟩ := cells10 (HV8.out.heap Q0.out); obtain ⟨c0, c1⟩ := cells2 (HV8.out.heap Q1.out)) | (go_at_call 28; with_reducible refine (HIL.out _ (hG.trans HV8.out)).mono ?_; rintro e v9 ⟨rfl, hb⟩; have HV9 := hid (HV8.out.trans hb); have HX9 := hid (HX8.out.trans hb); clear hb; obtain ⟨y0, y1, y2, y3, y4, y5, y6, y7, y8, y9⟩ := cells10 (HV9.out.heap Q0.out); obtain ⟨c0, c1⟩ := cells2 (HV9.out.heap Q1.out)) | (go_at_call 29; with_reducible refine (HIP.out _ (hG.trans HV9.out)).mono ?_; rintro e v10 ⟨rfl, hb⟩; have HV10 := hid (HV9.out.trans hb); have HX10 := hid (HX9.out.trans hb); clear hb; obtain ⟨y0, y1, y2, y3, y4, y5, y6, y7, y8, y9⟩ := cells10 (HV10.out.heap Q0.out); obtain ⟨c0, c1⟩ := cells2 (HV10.out.heap Q1.out)) | (go_at_call 19; with_reducible refine (awake_c _).mono ?_; rintro e w99 ⟨rfl, hb99⟩) | (with_reducible refine ⟨trivial, ?_⟩))
 go_ret
 exact ⟨rfl, (hG.trans HV10.out).trans hb99⟩

set_option maxRecDepth 100000 in
set_option maxHeartbeats 8000000 in
theorem couchPlays_b3 (f : M.Cf) (Aw At Ar : Option Addr) (nw cw nt ct nr cr : Nat) (Tw : Option Addr) (tw twc : Nat) (t : M.Tr) (P : Option Addr) (pn pc : Nat) (plan : List Int) (hl0 : -9223372036854775808 ≤ f.last) (w : World) (HCS : Hid (CS w w.heap.size f Aw At Ar nw cw nt ct nr cr)) (HW : Hid (Sl ics 1 w w.heap.size Tw tw twc t.wet)) (HP : Hid (Sl ics 1 w w.heap.size P pn pc plan)) (hsm : M.small nw nt nr) (hth : (decide (M.small nw nt nr) && M.thin f) = true) (q1 : tw ≤ 14) (q2 : pn ≤ 14) (h0 : M.check f = 0) (hls : M.listed f t = true) (hpl : M.isTurns f plan = true) :
  Calls Try.prog 3 #[.agg #[.int .i64 f.last, .int .i64 f.size, .int .i64 f.cool, .int .i64 f.die, .int .i64 f.burn, .int .i64 f.st.lo, .int .i64 f.st.hi, .slice Aw nw cw, .slice At nt ct, .slice Ar nr cr], .agg #[.int .i64 t.st, .slice Tw tw twc], .slice P pn pc] w fun e w' => e = .returned (.bool true) ∧ Ev w w' := by
 have q1a : ¬ ((tw : Int) > 14) := by omega
 have q2a : ¬ ((pn : Int) > 14) := by omega
 obtain ⟨s0, s1, s2⟩ := hsm
 have HTH := hid (fun W (hE : Ev w W) => by have := Thin_c f Aw At Ar nw cw nt ct nr cr hl0 W (fun _ => HCS.out.ev hE); rw [hth] at this; exact this)
 have HFA := hid (fun W (hE : Ev w W) => fault_c f Aw At Ar nw cw nt ct nr cr hl0 W (HCS.out.ev hE))
 have HCK := hid (fun (Bw : Option Addr) (dw : Nat) (Bt : Option Addr) (dt : Nat) (Br : Option Addr) (dr : Nat) W (h : CS W W.heap.size f Bw Bt Br nw dw nt dt nr dr) => check_c f Bw Bt Br nw dw nt dt nr dr hl0 W h)
 obtain ⟨hl9, _, hv, _⟩ := M.check0 h0
 have HPL := hid (fun (Bw : Option Addr) (dw : Nat) (Bt : Option Addr) (dt : Nat) (Br : Option Addr) (dr : Nat) (T1 : Option Addr) (u1 : Nat) (L : Option Addr) (d : Nat) W (h : CS W W.heap.size f Bw Bt Br nw dw nt dt nr dr) (h1 : Sl ics 1 W W.heap.size T1 tw u1 t.wet) (h3 : Sl ics 1 W W.heap.size L pn d plan) => Play_ok f Bw Bt Br nw dw nt dt nr dr T1 tw u1 t L pn d plan hl0 W h h1 h3 h0 hls hpl)
 have HPV := hid (fun (Bw : Option Addr) (dw : Nat) (Bt : Option Addr) (dt : Nat) (Br : Option Addr) (dr : Nat) (T1 : Option Addr) (u1 : Nat) W (h : CS W W.heap.size f Bw Bt Br nw dw nt dt nr dr) (h1 : Sl ics 1 W W.heap.size T1 tw u1 t.wet) => ProveTruth_ok f Bw Bt Br nw dw nt dt nr dr T1 tw u1 t hl0 W h h1 h0 hls)
 have HIT := hid (fun W (hE : Ev w W) => by have := rIsTruth_c f Aw At Ar nw cw nt ct nr cr Tw tw twc t hv hl9 W (HCS.out.ev hE) (HW.out.ev hE); rw [hls] at this; exact this)
 have HIL := hid (fun W (hE : Ev w W) => by have := rIsListed_c f Aw At Ar nw cw nt ct nr cr Tw tw twc t W (HCS.out.ev hE) (HW.out.ev hE); rw [hls] at this; exact this)
 have HIP := hid (fun W (hE : Ev w W) => by have := rIsTurns_c f Aw At Ar nw cw nt ct nr cr P pn pc plan W (HP.out.ev hE); rw [hpl] at this; exact this)
 have htl := (M.listed_bd hv hls).2.1
 have hwl := HCS.out.w_.len
 have htw := HW.out.len
 have hlw := (M.valid_parts hv).2.2.2.2.2.1
 have HCR := hid (fun (i : Nat) (hi : i < nw) W (hE : Ev w W) => Heat_c f Aw At Ar nw cw nt ct nr cr Tw tw twc t P pn pc plan hv hl9 hls (i + 1) (i : Int) (by omega) (by omega) W (HCS.out.ev hE) (HW.out.ev hE) (HP.out.ev hE))
 have HXN := hid (fun (i : Nat) (x : Int) (hi : i < nw) (hx : ((M.heats f t plan).take nw)[i]? = some x) => show x = M.heatN f t plan (i + 1) by
  rw [List.getElem?_take_of_lt hi, M.heats_at plan (by omega)] at hx
  exact (Option.some.inj hx).symm)
 rw [h0] at HFA HCK
 generalize M.right f t = rt at HPV HIT
 have c5_ : (rt != rt) = false := by simp
 have g6_ : IntKind.i64.wrap (f.last + 1) = f.last + 1 := IntWalk.i64_in _ (by omega)
 have c6_ : ((nw : Int) != f.last + 1) = false := by simp; omega
 clear h0 hls hpl hv htl hwl htw hlw
 clear hth
 go_enter Try.func3, Try.ntmps3
 go_upto_region 3 with (first | (go_at_call 18; with_reducible refine (HTH.out _ (Ev.alloc (Ev.alloc (Ev.refl _) _) _)).mono ?_; rintro e w1 ⟨rfl, hb1⟩; have hG : Ev w w1 := (Ev.alloc (Ev.alloc (Ev.refl _) _) _).trans hb1; have Q0 := hid (hb1.heap (alloc2 w (.cells #[.int .i64 f.last, .int .i64 f.size, .int .i64 f.cool, .int .i64 f.die, .int .i64 f.burn, .int .i64 f.st.lo, .int .i64 f.st.hi, .slice Aw nw cw, .slice At nt ct, .slice Ar nr cr] 28) (.cells #[.int .i64 t.st, .slice Tw tw twc] 30)).1); have Q1 := hid (hb1.heap (alloc2 w (.cells #[.int .i64 f.last, .int .i64 f.size, .int .i64 f.cool, .int .i64 f.die, .int .i64 f.burn, .int .i64 f.st.lo, .int .i64 f.st.hi, .slice Aw nw cw, .slice At nt ct, .slice Ar nr cr] 28) (.cells #[.int .i64 t.st, .slice Tw tw twc] 30)).2.1); obtain ⟨y0, y1, y2, y3, y4, y5, y6, y7, y8, y9⟩ := cells10 Q0.out; obtain ⟨c0, c1⟩ := cells2 Q1.out) | (with_reducible refine ⟨trivial, ?_⟩))
 have l0 := heap_lt Q0.out
 have l1 := heap_lt Q1.out
 have HSE : Hid (∀ w', Ev w1 w' → (∀ o, w'.cell? ⟨w.heap.size, o, none⟩ = w1.cell? ⟨w.heap.size, o, none⟩) ∧ (∀ o, w'.cell? ⟨w.heap.size + 1, o, none⟩ = w1.cell? ⟨w.heap.size + 1, o, none⟩)) := hid (fun w' h => ⟨fun o => h.cells.1 _ o l0, fun o => h.cells.1 _ o l1⟩)
 refine wp_region_held_drew (S := fun w' => (∀ o, w'.cell? ⟨w.heap.size, o, none⟩ = w1.cell? ⟨w.heap.size, o, none⟩) ∧ (∀ o, w'.cell? ⟨w.heap.size + 1, o, none⟩ = w1.cell? ⟨w.heap.size + 1, o, none⟩)) (by kernel_rfl) (⟨fun o => rfl, fun o => rfl⟩) (fun hHeld => ?_)
 refine tkH 0 (some 28) ?_
 (try simp only [Act.put, sA, sB, sC])
 refine tkH 2 (some 30) ?_
 (try simp only [Act.put, sA, sB, sC])
 refine tkH 4 (some 32) ?_
 (try simp only [Act.put, sA, sB, sC])
 refine wpAnyH_one (i := 1) rfl (by kernel_rfl) (by rfl) (fun K hK => ?_)
 go_simp
 refine (Heap_c f Aw At Ar nw cw nt ct nr cr (by omega) (by omega) (by omega) _ (HCS.out.ev (hG.trans (Ev.drew (Ev.refl _))))).mono ?_
 rintro e x1 ⟨⟨Bw, dw, Bt, dt, Br, dr, rfl, hc1⟩, hb1⟩
 have hV1 : Ev w1 x1 := Ev.trans (Ev.drew (Ev.refl _)) hb1
 refine hK.out _ _ (HSE.out _ hV1) (fun hHeld => ?_)
 clear hK K
 (try simp only [Act.put, sA, sB, sC])
 refine wpAnyH_one (i := 3) rfl (by kernel_rfl) (by rfl) (fun K hK => ?_)
 go_simp
 refine (Truth_c Tw tw twc t (by omega) _ (HW.out.ev (hG.trans hV1))).mono ?_
 rintro e x2 ⟨⟨T1, u1, rfl, ht1⟩, hb2⟩
 have hV2 : Ev w1 x2 := Ev.trans hV1 hb2
 refine hK.out _ _ (HSE.out _ hV2) (fun hHeld => ?_)
 clear hK K
 (try simp only [Act.put, sA, sB, sC])
 refine wpAnyH_one (i := 5) rfl (by kernel_rfl) (by rfl) (fun K hK => ?_)
 go_simp
 refine (list_c _ _ _ plan (by omega) _ (HP.out.ev (hG.trans hV2))).mono ?_
 rintro e x3 ⟨⟨L, dL, rfl, ho3⟩, hb3⟩
 have hV3 : Ev w1 x3 := Ev.trans hV2 hb3
 refine hK.out _ _ (HSE.out _ hV3) (fun hHeld => ?_)
 clear hK K
 (try simp only [Act.put, sA, sB, sC])
 refine wpAnyH_one (i := 6) rfl (by kernel_rfl) (by rfl) (fun K hK => ?_)
 go_simp
 refine (HPL.out Bw dw Bt dt Br dr T1 u1 L dL _ ((hc1.ev hb2).ev hb3) (ht1.ev hb3) (sl_own (enc := ics) (by decide) (ics_len _) (by omega) ho3)).mono ?_
 rintro e x4 ⟨⟨B, dB, rfl, hown⟩, hb4⟩
 have hV4 : Ev w1 x4 := Ev.trans hV3 hb4
 refine hK.out _ _ (HSE.out _ hV4) (fun hHeld => ?_)
 clear hK K
 (try simp only [Act.put, sA, sB, sC])
 refine tkH 7 (some 27) ?_
 (try simp only [Act.put, sA, sB, sC])
 refine tkH 8 (some 35) ?_
 (try simp only [Act.put, sA, sB, sC])
 refine tkH 9 (some 36) ?_
 (try simp only [Act.put, sA, sB, sC])
 refine tkH 10 (some 7) ?_
 (try simp only [Act.put, sA, sB, sC])
 refine tkH 11 (some 8) ?_
 (try simp only [Act.put, sA, sB, sC])
 refine wpAnyH_done (by kernel_rfl) ?_ _
 have HV3 := hid hV4
 have HO := hid hown
 clear hown
 clear y0 y1 y2 y3 y4 y5 y6 y7 y8 y9 c0 c1
 obtain ⟨y0, y1, y2, y3, y4, y5, y6, y7, y8, y9⟩ := cells10 (hV4.heap Q0.out)
 obtain ⟨c0, c1⟩ := cells2 (hV4.heap Q1.out)
 have l0' := heap_lt (hV4.heap Q0.out)
 have l1' := heap_lt (hV4.heap Q1.out)
 clear hc1 ht1 ho3 hb1 hb2 hb3 hV1 hV2 hV3 hHeld
 go_upto_region 4 with fail
 have HSF : Hid (∀ w', Ev x4 w' → (∀ o, w'.cell? ⟨w.heap.size, o, none⟩ = x4.cell? ⟨w.heap.size, o, none⟩) ∧ (∀ o, w'.cell? ⟨w.heap.size + 1, o, none⟩ = x4.cell? ⟨w.heap.size + 1, o, none⟩)) := hid (fun w' h => ⟨fun o => h.cells.1 _ o l0', fun o => h.cells.1 _ o l1'⟩)
 refine wp_region_held_drew (S := fun w' => (∀ o, w'.cell? ⟨w.heap.size, o, none⟩ = x4.cell? ⟨w.heap.size, o, none⟩) ∧ (∀ o, w'.cell? ⟨w.heap.size + 1, o, none⟩ = x4.cell? ⟨w.heap.size + 1, o, none⟩)) (by kernel_rfl) (⟨fun o => rfl, fun o => rfl⟩) (fun hHeld => ?_)
 refine tkH 0 (some 37) ?_
 (try simp only [Act.put, sA, sB, sC])
 refine tkH 2 (some 39) ?_
 (try simp only [Act.put, sA, sB, sC])
 refine wpAnyH_one (i := 1) rfl (by kernel_rfl) (by rfl) (fun K hK => ?_)
 go_simp
 refine (Heap_c f Aw At Ar nw cw nt ct nr cr (by omega) (by omega) (by omega) _ (HCS.out.ev ((hG.trans HV3.out).trans (Ev.drew (Ev.refl _))))).mono ?_
 rintro e z1 ⟨⟨Bw2, dw2, Bt2, dt2, Br2, dr2, rfl, hc1⟩, hb1⟩
 have hU1 : Ev x4 z1 := Ev.trans (Ev.drew (Ev.refl _)) hb1
 refine hK.out _ _ (HSF.out _ hU1) (fun hHeld => ?_)
 clear hK K
 (try simp only [Act.put, sA, sB, sC])
 refine wpAnyH_one (i := 3) rfl (by kernel_rfl) (by rfl) (fun K hK => ?_)
 go_simp
 refine (Truth_c Tw tw twc t (by omega) _ (HW.out.ev ((hG.trans HV3.out).trans hU1))).mono ?_
 rintro e z2 ⟨⟨T3, u3, rfl, ht1⟩, hb2⟩
 have hU2 : Ev x4 z2 := Ev.trans hU1 hb2
 refine hK.out _ _ (HSF.out _ hU2) (fun hHeld => ?_)
 clear hK K
 (try simp only [Act.put, sA, sB, sC])
 refine wpAnyH_one (i := 4) rfl (by kernel_rfl) (by rfl) (fun K hK => ?_)
 go_simp
 refine (HPV.out Bw2 dw2 Bt2 dt2 Br2 dr2 T3 u3 _ (hc1.ev hb2) ht1).mono ?_
 rintro e z3 ⟨rfl, hb3⟩
 have hU3 : Ev x4 z3 := Ev.trans hU2 hb3
 refine hK.out _ _ (HSF.out _ hU3) (fun hHeld => ?_)
 clear hK K
 (try simp only [Act.put, sA, sB, sC])
 refine tkH 5 (some 9) ?_
 (try simp only [Act.put, sA, sB, sC])
 refine wpAnyH_done (by kernel_rfl) ?_ _
 have HV4 := hid (HV3.out.trans hU3)
 have HX := hid hU3
 clear y0 y1 y2 y3 y4 y5 y6 y7 y8 y9 c0 c1 hc1 ht1 hb1 hb2 hU1 hU2 hHeld
 obtain ⟨y0, y1, y2, y3, y4, y5, y6, y7, y8, y9⟩ := cells10 (HV4.out.heap Q0.out)
 obtain ⟨c0, c1⟩ := cells2 (HV4.out.heap Q1.out)
 go_upto_region 15 with (first | (go_at_call 25; with_reducible refine (HFA.out _ (hG.trans HV4.out)).mono ?_; rintro e v5 ⟨rfl, hb⟩; have HV5 := hid (HV4.out.trans hb); have HX5 := hid (HX.out.trans hb); clear hb; obtain ⟨y0, y1, y2, y3, y4, y5, y6, y7, y8, y9⟩ := cells10 (HV5.out.heap Q0.out); obtain ⟨c0, c1⟩ := cells2 (HV5.out.heap Q1.out)) | (go_at_call 21; with_reducible refine (Heap_c f Aw At Ar nw cw nt ct nr cr (by omega) (by omega) (by omega) _ (HCS.out.ev (hG.trans HV5.out))).mono ?_; rintro e v6 ⟨⟨Bw3, dw3, Bt3, dt3, Br3, dr3, rfl, hcf⟩, hb⟩; have HV6 := hid (HV5.out.trans hb); have HX6 := hid (HX5.out.trans hb); clear hb; obtain ⟨y0, y1, y2, y3, y4, y5, y6, y7, y8, y9⟩ := cells10 (HV6.out.heap Q0.out); obtain ⟨c0, c1⟩ := cells2 (HV6.out.heap Q1.out)) | (go_at_call 26; with_reducible refine (HCK.out Bw3 dw3 Bt3 dt3 Br3 dr3 _ hcf).mono ?_; rintro e v7 ⟨rfl, hb⟩; have HV7 := hid (HV6.out.trans hb); have HX7 := hid (HX6.out.trans hb); clear hb; obtain ⟨y0, y1, y2, y3, y4, y5, y6, y7, y8, y9⟩ := cells10 (HV7.out.heap Q0.out); obtain ⟨c0, c1⟩ := cells2 (HV7.out.heap Q1.out)) | (go_at_call 27; with_reducible refine (HIT.out _ (hG.trans HV7.out)).mono ?_; rintro e v8 ⟨rfl, hb⟩; have HV8 := hid (HV7.out.trans hb); have HX8 := hid (HX7.out.trans hb); clear hb; obtain ⟨y0, y1, y2, y3, y4, y5, y6, y7, y8, y9⟩ := cells10 (HV8.out.heap Q0.out); obtain ⟨c0, c1⟩ := cells2 (HV8.out.heap Q1.out)) | (go_at_call 28; with_reducible refine (HIL.out _ (hG.trans HV8.out)).mono ?_; rintro e v9 ⟨rfl, hb⟩; have HV9 := hid (HV8.out.trans hb); have HX9 := hid (HX8.out.trans hb); clear hb; obtain ⟨y0, y1, y2, y3, y4, y5, y6, y7, y8, y9⟩ := cells10 (HV9.out.heap Q0.out); obtain ⟨c0, c1⟩ := cells2 (HV9.out.heap Q1.out)) | (go_at_call 29; with_reducible refine (HIP.out _ (hG.trans HV9.out)).mono ?_; rintro e v10 ⟨rfl, hb⟩; have HV10 := hid (HV9.out.trans hb); have HX10 := hid (HX9.out.trans hb); clear hb; obtain ⟨y0, y1, y2, y3, y4, y5, y6, y7, y8, y9⟩ := cells10 (HV10.out.heap Q0.out); obtain ⟨c0, c1⟩ := cells2 (HV10.out.heap Q1.out)) | (with_reducible refine ⟨trivial, ?_⟩))
 have hGL := hid (hG.trans HV10.out)
 have HRW := hid (HO.out.ev HX10.out)
 clear y0 y1 y2 y3 y4 y5 y6 y7 y8 y9 c0 c1
 go_loopw [11] (fun i wr => ∃ k : Nat, i = .int .i64 k ∧ k ≤ nw ∧ Ev v10 wr) (fun i _ => nw - (intOf i).toNat)
 case atStart => exact ⟨0, rfl, by omega, Ev.refl _⟩
 case round =>
  obtain ⟨k, rfl, hk, hB⟩ := hrel
  obtain ⟨W1, hW1⟩ : ∃ x, x = wr := ⟨_, rfl⟩
  subst hW1
  obtain ⟨y0, y1, y2, y3, y4, y5, y6, y7, y8, y9⟩ := cells10 (hB.heap (HV10.out.heap Q0.out))
  obtain ⟨c0, c1⟩ := cells2 (hB.heap (HV10.out.heap Q1.out))
  have l0 := heap_lt (hB.heap (HV10.out.heap Q0.out))
  have l1 := heap_lt (hB.heap (HV10.out.heap Q1.out))
  have hBs := hB.size
  by_cases hlt : k < nw
  ·
   obtain ⟨bl, ol, x, hA, hbl, hx, _, e0⟩ := HRW.out.int hB hlt
   have hxx := HXN.out k x hlt hx
   rw [hxx] at e0
   have hcap := HRW.out.cap
   have lbl : bl < W1.heap.size := by omega
   subst hA
   clear hx hxx
   have HSE : Hid (∀ w', Ev W1 w' → (∀ o, w'.cell? ⟨w.heap.size, o, none⟩ = W1.cell? ⟨w.heap.size, o, none⟩) ∧ (∀ o, w'.cell? ⟨w.heap.size + 1, o, none⟩ = W1.cell? ⟨w.heap.size + 1, o, none⟩) ∧ (∀ o, w'.cell? ⟨bl, o, none⟩ = W1.cell? ⟨bl, o, none⟩)) := hid (fun w' h => ⟨fun o => h.cells.1 _ o l0, fun o => h.cells.1 _ o l1, fun o => h.cells.1 _ o lbl⟩)
   go_upto_region 17 with fail
   refine wp_region_held_drew (S := fun w' => (∀ o, w'.cell? ⟨w.heap.size, o, none⟩ = W1.cell? ⟨w.heap.size, o, none⟩) ∧ (∀ o, w'.cell? ⟨w.heap.size + 1, o, none⟩ = W1.cell? ⟨w.heap.size + 1, o, none⟩) ∧ (∀ o, w'.cell? ⟨bl, o, none⟩ = W1.cell? ⟨bl, o, none⟩)) (by kernel_rfl) (⟨fun o => rfl, fun o => rfl, fun o => rfl⟩) (fun hHeld => ?_)
   refine tkH 0 (some 103) ?_
   (try simp only [Act.put, sA, sB, sC])
   refine tkH 1 (some 104) ?_
   (try simp only [Act.put, sA, sB, sC])
   refine tkH 2 (some 105) ?_
   (try simp only [Act.put, sA, sB, sC])
   refine tkH 3 (some 106) ?_
   (try simp only [Act.put, sA, sB, sC])
   refine tkH 4 (some 107) ?_
   (try simp only [Act.put, sA, sB, sC])
   refine tkH 5 (some 108) ?_
   (try simp only [Act.put, sA, sB, sC])
   refine tkH 6 (some 109) ?_
   (try simp only [Act.put, sA, sB, sC])
   refine tkH 7 (some 110) ?_
   (try simp only [Act.put, sA, sB, sC])
   refine wpAnyH_one (i := 8) rfl (by kernel_rfl) (by rfl) (fun K hK => ?_)
   go_simp
   refine (HCR.out k (by omega) _ (hGL.out.trans (hB.trans (Ev.drew (Ev.refl _))))).mono ?_
   rintro e r1 ⟨rfl, hb⟩
   have hR1 : Ev W1 r1 := Ev.trans (Ev.drew (Ev.refl _)) hb
   refine hK.out _ _ (HSE.out _ hR1) (fun hHeld => ?_)
   clear hK K
   (try simp only [Act.put, sA, sB, sC])
   generalize M.heatN f t plan (k + 1) = ht at *
   have c9_ : (ht != ht) = false := by simp
   refine tkH 9 (some 112) ?_
   (try simp only [Act.put, sA, sB, sC])
   refine wpAnyH_done (by kernel_rfl) ?_ _
   go_wp2
   exact ⟨⟨k + 1, by go_num, by omega, hB.trans hR1⟩, by simp [intOf]; omega⟩
  ·
   have hn : ¬ ((k : Int) < nw) := by omega
   go_wp2_with (go_at_call 19; with_reducible refine (awake_c _).mono ?_; rintro e w99 ⟨rfl, hb99⟩)
   go_ret
   exact ⟨rfl, (hGL.out.trans hB).trans hb99⟩

theorem couchPlays_c (f : M.Cf) (Aw At Ar : Option Addr) (nw cw nt ct nr cr : Nat) (Tw : Option Addr) (tw twc : Nat) (t : M.Tr) (P : Option Addr) (pn pc : Nat) (plan : List Int) (hl0 : -9223372036854775808 ≤ f.last) (w : World) (hs : M.small nw nt nr → CS w w.heap.size f Aw At Ar nw cw nt ct nr cr) (hwt : tw ≤ 1000 → Sl ics 1 w w.heap.size Tw tw twc t.wet) (hp : pn ≤ 1099511627776 → Sl ics 1 w w.heap.size P pn pc plan) :
  Calls Try.prog 3 #[.agg #[.int .i64 f.last, .int .i64 f.size, .int .i64 f.cool, .int .i64 f.die, .int .i64 f.burn, .int .i64 f.st.lo, .int .i64 f.st.hi, .slice Aw nw cw, .slice At nt ct, .slice Ar nr cr], .agg #[.int .i64 t.st, .slice Tw tw twc], .slice P pn pc] w fun e w' => e = .returned (.bool true) ∧ Ev w w' := by
 by_cases hno : (decide (M.small nw nt nr) && M.thin f) = true ∧ tw ≤ 14 ∧ pn ≤ 14
 ·
  obtain ⟨hth, q1, q2⟩ := hno
  have hsm : M.small nw nt nr := by
   rw [Bool.and_eq_true, decide_eq_true_eq] at hth
   exact hth.1
  have a1 := hid (hs hsm)
  have a3 := hid (hwt (by omega))
  have a4 := hid (hp (by omega))
  by_cases h0 : M.check f = 0
  ·
   cases hls : M.listed f t with
   | false => exact couchPlays_b1 f Aw At Ar nw cw nt ct nr cr Tw tw twc t P pn pc plan hl0 w a1 a3 a4 hsm hth q1 q2 h0 hls
   | true =>
    cases hpl : M.isTurns f plan with
    | false => exact couchPlays_b2 f Aw At Ar nw cw nt ct nr cr Tw tw twc t P pn pc plan hl0 w a1 a3 a4 hsm hth q1 q2 h0 hls hpl
    | true => exact couchPlays_b3 f Aw At Ar nw cw nt ct nr cr Tw tw twc t P pn pc plan hl0 w a1 a3 a4 hsm hth q1 q2 h0 hls hpl
  ·
   exact couchPlays_a f Aw At Ar nw cw nt ct nr cr Tw tw twc t P pn pc plan hl0 w a1 a3 a4 hsm hth q1 q2 h0
 ·
  exact couchPlays_no f Aw At Ar nw cw nt ct nr cr Tw tw twc t P pn pc plan hl0 w hs hno

end Go.Proofs.Ytgimcephbeajlaa
