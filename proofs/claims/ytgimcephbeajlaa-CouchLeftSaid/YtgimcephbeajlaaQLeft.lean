import Derived.Test.YtgimcephbeajlaaC35
import Derived.Test.YtgimcephbeajlaaC27
import Derived.Test.YtgimcephbeajlaaC23
import Derived.Test.YtgimcephbeajlaaC24
import Derived.Deep.DeepCutAuto
set_option linter.unusedSimpArgs false
set_option linter.unusedVariables false
namespace Go.Proofs.Ytgimcephbeajlaa
open Go.RowKit Go.Shelf

set_option maxRecDepth 100000 in
set_option maxHeartbeats 2000000 in
theorem couchLeft_no (f : M.Cf) (Aw At Ar : Option Addr) (nw cw nt ct nr cr : Nat) (hl0 : -9223372036854775808 ≤ f.last) (a : Int) (a0 : 0 ≤ a) (a1 : a < 256) (w : World) (hs : M.small nw nt nr → CS w w.heap.size f Aw At Ar nw cw nt ct nr cr) (hno : M.rdy f nw nt nr = false) :
  Calls Try.prog 16 #[.agg #[.int .i64 f.last, .int .i64 f.size, .int .i64 f.cool, .int .i64 f.die, .int .i64 f.burn, .int .i64 f.st.lo, .int .i64 f.st.hi, .slice Aw nw cw, .slice At nt ct, .slice Ar nr cr], .int .u8 a] w fun e w' => e = .returned (.bool true) ∧ Ev w w' := by
 have HRD := hid (fun W (hE : Ev w W) => by have := ready_c f Aw At Ar nw cw nt ct nr cr hl0 W (fun h => (hs h).ev hE); rw [hno] at this; exact this)
 clear hs hno
 go_enter Try.func16, Try.ntmps16
 go_wp2_with (first | (go_at_call 50; with_reducible refine (HRD.out _ (Ev.alloc (Ev.refl _) _)).mono ?_; rintro e w1 ⟨rfl, hb1⟩; have hG : Ev w w1 := (Ev.alloc (Ev.refl _) _).trans hb1; have Q0 := hid (hb1.heap (alloc1 w (.cells #[.int .i64 f.last, .int .i64 f.size, .int .i64 f.cool, .int .i64 f.die, .int .i64 f.burn, .int .i64 f.st.lo, .int .i64 f.st.hi, .slice Aw nw cw, .slice At nt ct, .slice Ar nr cr] 28)).1); obtain ⟨y0, y1, y2, y3, y4, y5, y6, y7, y8, y9⟩ := cells10 Q0.out) | (go_at_call 19; with_reducible refine (awake_c _).mono ?_; rintro e w99 ⟨rfl, hb99⟩) | (with_reducible refine ⟨trivial, ?_⟩))
 go_ret
 exact ⟨rfl, hG.trans hb99⟩

set_option maxRecDepth 100000 in
set_option maxHeartbeats 8000000 in
theorem couchLeft_yes (f : M.Cf) (Aw At Ar : Option Addr) (nw cw nt ct nr cr : Nat) (hl0 : -9223372036854775808 ≤ f.last) (a : Int) (a0 : 0 ≤ a) (a1 : a < 256) (w : World) (HCS : Hid (CS w w.heap.size f Aw At Ar nw cw nt ct nr cr)) (hr : M.rdy f nw nt nr = true) (hsm : M.small nw nt nr) (h0 : M.check f = 0) :
  Calls Try.prog 16 #[.agg #[.int .i64 f.last, .int .i64 f.size, .int .i64 f.cool, .int .i64 f.die, .int .i64 f.burn, .int .i64 f.st.lo, .int .i64 f.st.hi, .slice Aw nw cw, .slice At nt ct, .slice Ar nr cr], .int .u8 a] w fun e w' => e = .returned (.bool true) ∧ Ev w w' := by
 obtain ⟨s0, s1, s2⟩ := hsm
 have HRD := hid (fun W (hE : Ev w W) => by have := ready_c f Aw At Ar nw cw nt ct nr cr hl0 W (fun _ => HCS.out.ev hE); rw [hr] at this; exact this)
 have hl5 : nr ≤ 5 := by rw [← HCS.out.r.len]; exact (M.check0 h0).2.1
 have hlen : f.rds.length = nr := HCS.out.r.len
 obtain ⟨b, hb, hob, hf1, hbl, hri, hel, hsho⟩ := M.leave_spec h0 hlen
 obtain ⟨an, han⟩ : ∃ an : Nat, a = an := ⟨a.toNat, by omega⟩
 subst han
 have hP : 0 < 2 ^ nr := Nat.pow_pos (by omega)
 have hpw := pow_lt128 (n := nr) (by omega)
 obtain ⟨t, ht1, ht2⟩ : ∃ t : Nat, t ≤ 2 ^ nr - 1 ∧ Go.bits .and .i64 (an : Int) ((2 ^ nr - 1 : Nat) : Int) = (t : Int) := ⟨an &&& (2 ^ nr - 1), Nat.and_le_right, bits_and_nat (by omega) (by omega)⟩
 obtain ⟨_, _, an1⟩ := bits_three (a := 2 ^ nr - 1) (b := b) hpw (by omega)
 obtain ⟨_, _, an2⟩ := bits_three (a := 2 ^ nr - 1) (b := t) hpw (by omega)
 have x1 : M.butB nr b < 2 ^ nr := Nat.xor_lt_two_pow (by omega) (Nat.lt_of_le_of_lt Nat.and_le_left (by omega))
 have x2 : M.butB nr t < 2 ^ nr := Nat.xor_lt_two_pow (by omega) (Nat.lt_of_le_of_lt Nat.and_le_left (by omega))
 rw [show (2 ^ nr - 1) ^^^ ((2 ^ nr - 1) &&& b) = M.butB nr b from rfl] at an1
 rw [show (2 ^ nr - 1) ^^^ ((2 ^ nr - 1) &&& t) = M.butB nr t from rfl] at an2
 have hsh := hsho t (by omega)
 have HLV := hid (fun (Bw : Option Addr) (dw : Nat) (Bt : Option Addr) (dt : Nat) (Br : Option Addr) (dr : Nat) W (h : CS W W.heap.size f Bw Bt Br nw dw nt dt nr dr) => Leave_ok f Bw Bt Br nw dw nt dt nr dr hl0 W h h0)
 have hfl := fun W => Full_c f Aw At Ar nw cw nt ct nr cr (by omega) W
 have hls : ∀ y, (M.keepK y f.rds 0).length ≤ 5 := fun y => by have := M.keepK_len y f.rds 0; omega
 have hms : ∀ y, ∀ l ∈ M.keepK y f.rds 0, l ∈ f.rds := fun y l h => M.keepK_sub h
 have hbt := fun W => Bits_c t (by omega) W
 generalize hk1 : M.keepK (M.butB nr b) f.rds 0 = ls1 at hf1
 generalize hk2 : M.keepK (M.butB nr t) f.rds 0 = ls2 at hsh
 have hl1 : ls1.length ≤ 5 := by rw [← hk1]; exact hls _
 have hl2 : ls2.length ≤ 5 := by rw [← hk2]; exact hls _
 have hs1 : ∀ l ∈ ls1, l ∈ f.rds := by rw [← hk1]; exact hms _
 have hs2 : ∀ l ∈ ls2, l ∈ f.rds := by rw [← hk2]; exact hms _
 obtain ⟨m1, hm1⟩ : ∃ m, ls1.length = m := ⟨_, rfl⟩
 obtain ⟨m2, hm2⟩ : ∃ m, ls2.length = m := ⟨_, rfl⟩
 have m15 : m1 ≤ 5 := by omega
 have m25 : m2 ≤ 5 := by omega
 have HSM1 := hid (fun W (hE : Ev w W) => someB_c f ls1 m1 Aw At Ar nw cw nt ct nr cr (by omega) (M.butB nr b) (by omega) hk1 hm1 W (HCS.out.ev hE))
 have HSM2 := hid (fun W (hE : Ev w W) => someB_c f ls2 m2 Aw At Ar nw cw nt ct nr cr (by omega) (M.butB nr t) (by omega) hk2 hm2 W (HCS.out.ev hE))
 have HWO1 := hid (fun (Bw : Option Addr) (dw : Nat) (Bt : Option Addr) (dt : Nat) (Br : Option Addr) (dr : Nat) W (h : CS W W.heap.size (M.withL f ls1) Bw Bt Br nw dw nt dt m1 dr) => BoundsL_ok f ls1 Bw Bt Br nw dw nt dt m1 dr hl0 h0 hl1 hs1 hf1 W h)
 have HWY2 := hid (fun (hf : M.fit f ls2 = true) (Bw : Option Addr) (dw : Nat) (Bt : Option Addr) (dt : Nat) (Br : Option Addr) (dr : Nat) W (h : CS W W.heap.size (M.withL f ls2) Bw Bt Br nw dw nt dt m2 dr) => BoundsL_ok f ls2 Bw Bt Br nw dw nt dt m2 dr hl0 h0 hl2 hs2 hf W h)
 have HWN2 := hid (fun (hf : M.fit f ls2 = false) (Bw : Option Addr) (dw : Nat) (Bt : Option Addr) (dt : Nat) (Br : Option Addr) (dr : Nat) W (h : CS W W.heap.size (M.withL f ls2) Bw Bt Br nw dw nt dt m2 dr) => BoundsL_no f ls2 Bw Bt Br nw dw nt dt m2 dr hl0 h0 hl2 hs2 hf W h)
 have HSH := hid (fun B1 d1 B2 d2 W h1 h2 => Shorter_c B1 B2 (M.bits t).length d1 (M.shortest (M.spares f) nr).length d2 (M.bits t) (M.shortest (M.spares f) nr) W h1 h2)
 generalize M.butB nr b = y1_ at an1 HSM1
 generalize M.butB nr t = y2_ at an2 HSM2
 generalize M.bits t = bt at hbt HSH hsh
 generalize M.shortest (M.spares f) nr = best at HLV hob hbl hri hel HSH hsh
 generalize 2 ^ nr - 1 = F at hfl ht2 an1 an2
 have hsb : Hid (∀ (k : Nat) (x : Int), best[k]? = some x → ∃ xn : Nat, x = xn ∧ xn < nr) := hid (fun k x hx => hel x (List.mem_of_getElem? hx))
 have hup : Hid (∀ (k : Nat) (x y : Int), best[k]? = some y → best[k + 1]? = some x → y < x) := hid (fun k x y => M.rises_at best k x y hri)
 have HOB := hid hob
 have HFL := hid hfl
 have HBT := hid hbt
 have HSX := hid hsh
 have HT2 := hid ht2
 have g8 : IntKind.i64.wrap (an : Int) = an := IntWalk.i64_in _ (by omega)
 clear hr hlen hb hob hf1 hri hel hsho ht1 hP hpw x1 x2 hsh hfl hls hms hbt hk1 hk2 hs1 hs2 hl1 hl2 hm1 hm2 ht2
 go_enter Try.func16, Try.ntmps16
 go_upto_region 6 with (first | (go_at_call 50; with_reducible refine (HRD.out _ (Ev.alloc (Ev.refl _) _)).mono ?_; rintro e w1 ⟨rfl, hb1⟩; have hG : Ev w w1 := (Ev.alloc (Ev.refl _) _).trans hb1; have Q0 := hid (hb1.heap (alloc1 w (.cells #[.int .i64 f.last, .int .i64 f.size, .int .i64 f.cool, .int .i64 f.die, .int .i64 f.burn, .int .i64 f.st.lo, .int .i64 f.st.hi, .slice Aw nw cw, .slice At nt ct, .slice Ar nr cr] 28)).1); obtain ⟨y0, y1, y2, y3, y4, y5, y6, y7, y8, y9⟩ := cells10 Q0.out) | (go_at_call 21; with_reducible refine (Heap_c f Aw At Ar nw cw nt ct nr cr (by omega) (by omega) (by omega) _ (HCS.out.ev hG)).mono ?_; rintro e x2 ⟨⟨Bw2, dw2, Bt2, dt2, Br2, dr2, rfl, hc⟩, hb⟩; have HE2 := hid (hG.trans hb); have HV2 := hid (hb); have HC2 := hid hc; clear hc hb) | (go_at_call 41; with_reducible refine (HLV.out Bw2 dw2 Bt2 dt2 Br2 dr2 _ HC2.out).mono ?_; rintro e x3 ⟨⟨BT, dT, rfl, ht⟩, hb⟩; have HE3 := hid (HE2.out.trans hb); have HV3 := hid (HV2.out.trans hb); have HT3 := hid ht; clear ht; clear hb))
 clear y0 y1 y2 y3 y4 y5 y6 y7 y8 y9
 go_wp2
 go_loopw [7, 8] (fun v i wr => ∃ k acc : Nat, v = .int .i64 acc ∧ i = .int .i64 k ∧ k ≤ best.length ∧ acc < 128 ∧ Ev x3 wr ∧ Hid (M.orAll (best.drop k) acc = b)) (fun _ i _ => best.length - (intOf i).toNat)
 case atStart => exact ⟨0, 0, rfl, rfl, by omega, by omega, Ev.refl _, HOB⟩
 case round =>
  obtain ⟨k, acc, rfl, rfl, hk, hacc, hB, hT⟩ := hrel
  obtain ⟨W1, hW1⟩ : ∃ x, x = wr := ⟨_, rfl⟩
  subst hW1
  have Q1 := hid ((HV3.out.trans hB).heap Q0.out)
  obtain ⟨y0, y1, y2, y3, y4, y5, y6, y7, y8, y9⟩ := cells10 Q1.out
  have l0 := heap_lt Q1.out
  have hBs := hB.size
  by_cases hlt : k < best.length
  ·
   obtain ⟨bb, off, x, hA, hbb, hx, hd, e0⟩ := HT3.out.int hB hlt
   have hcap := HT3.out.cap
   have hT2 := hT.out
   rw [hd] at hT2
   obtain ⟨xn, rfl, hxn⟩ := hsb.out k x hx
   have hT3 : M.orAll (best.drop (k + 1)) (acc ||| 2 ^ xn) = b := hT2
   obtain ⟨p1, p2, p3⟩ := or_fact7 (a := acc) (i := xn) hacc (by omega)
   have HTN := hid hT3
   have hx0 : ¬ ((xn : Int) < 0) := by omega
   have hx1 : ¬ ((xn : Int) ≥ nr) := by omega
   have hx2 : (xn : Int) < nr := by omega
   have hd0 : decide ((xn : Int) < 0) = false := decide_eq_false hx0
   have hd1 : decide ((nr : Int) ≤ xn) = false := decide_eq_false (by omega)
   have lbb : bb < W1.heap.size := by omega
   subst hA
   clear hT2 hT3 hd
   generalize acc ||| 2 ^ xn = acc2 at p2 p3 HTN
   by_cases hk0 : k = 0
   ·
    subst hk0
    simp only [Nat.add_zero] at e0
    rw [show (((0 : Nat)) : Int) = 0 from rfl]
    have hn0 : (0 : Int) < best.length := by omega
    clear hx
    go_wp2_with (go_quiet (fail))
    exact ⟨⟨1, acc2, rfl, by go_num, by omega, p3, hB.drewN _, HTN⟩, by simp [intOf]; omega⟩
   ·
    obtain ⟨m, rfl⟩ : ∃ m, k = m + 1 := ⟨k - 1, by omega⟩
    obtain ⟨b2, off2, y, hbb2, hb2, hy, _, e1⟩ := HT3.out.int hB (show m < best.length by omega)
    obtain ⟨rfl, rfl⟩ : bb = b2 ∧ off = off2 := by simpa using hbb2
    have hk1 : ((m + 1 : Nat) : Int) - 1 = (m : Int) := by omega
    have s2 : IntKind.i64.wrap (((m + 1 : Nat) : Int) - 1) = (m : Int) := by rw [hk1]; exact IntWalk.i64_in _ (by omega)
    have s3 : IntKind.i64.wrap ((m : Int) + 1 - 1) = (m : Int) := by rw [show (m : Int) + 1 - 1 = m by omega]; exact IntWalk.i64_in _ (by omega)
    have hpos : (0 : Int) < (m : Int) + 1 := by omega
    have hyx := hup.out m _ _ hy hx
    have hle : ¬ (xn : Int) ≤ y := by omega
    clear hk1 hbb2 hy hx hk0
    go_wp2_with (go_quiet (fail))
    exact ⟨⟨m + 1 + 1, acc2, rfl, by go_num, by omega, p3, hB.drewN _, HTN⟩, by simp [intOf]; omega⟩
  ·
   have hab : acc = b := by rw [← hT.out, List.drop_eq_nil_of_le (by omega)]; rfl
   subst hab
   have ht2 := HT2.out
   have hn9 : ¬ ((k : Int) < best.length) := by omega
   have hX1 := hid (HE3.out.trans hB)
   go_upto_region 14 with (go_at_call 61; with_reducible refine (HFL.out _).mono ?_; rintro e x4 ⟨rfl, hb⟩; have HB4 := hid (hB.trans hb); have HX4 := hid (hX1.out.trans hb); have Q4 := hid (hb.heap Q1.out); clear hb; clear y0 y1 y2 y3 y4 y5 y6 y7 y8 y9; obtain ⟨y0, y1, y2, y3, y4, y5, y6, y7, y8, y9⟩ := cells10 Q4.out)
   have lbx := heap_lt Q4.out
   have HSE : Hid (∀ w', Ev x4 w' → (∀ o, w'.cell? ⟨w.heap.size, o, none⟩ = x4.cell? ⟨w.heap.size, o, none⟩)) := hid (fun w' h => fun o => h.cells.1 _ o lbx)
   refine wp_region_held_drew (S := fun w' => (∀ o, w'.cell? ⟨w.heap.size, o, none⟩ = x4.cell? ⟨w.heap.size, o, none⟩)) (by kernel_rfl) (fun o => rfl) (fun hHeld => ?_)
   refine tkH 0 (some 77) ?_
   (try simp only [Act.put, sA, sB, sC])
   refine tkH 1 (some 78) ?_
   (try simp only [Act.put, sA, sB, sC])
   refine tkH 3 (some 80) ?_
   (try simp only [Act.put, sA, sB, sC])
   refine wpAnyH_one (i := 2) rfl (by kernel_rfl) (by rfl) (fun K hK => ?_)
   go_simp
   refine (HFL.out _).mono ?_
   rintro e z2 ⟨rfl, hb2⟩
   have hy2 : Ev x4 z2 := Ev.trans (Ev.drew (Ev.refl _)) hb2
   refine hK.out _ _ (HSE.out _ hy2) (fun hHeld => ?_)
   clear hK K
   (try simp only [Act.put, sA, sB, sC])
   refine tkH 4 (some 81) ?_
   (try simp only [Act.put, sA, sB, sC])
   refine wpAnyH_one (i := 5) rfl (by kernel_rfl) (by rfl) (fun K hK => ?_)
   go_simp
   refine (HSM1.out _ (HX4.out.trans hy2)).mono ?_
   rintro e z5 ⟨⟨S, sd, rfl, hc2⟩, hb5⟩
   have hy5 : Ev x4 z5 := Ev.trans hy2 hb5
   refine hK.out _ _ (HSE.out _ hy5) (fun hHeld => ?_)
   clear hK K
   (try simp only [Act.put, sA, sB, sC])
   refine wpAnyH_one (i := 6) rfl (by kernel_rfl) (by rfl) (fun K hK => ?_)
   go_simp
   refine (HeapL_c f ls1 Aw At S nw cw nt ct m1 sd (by omega) (by omega) (by omega) _ hc2).mono ?_
   rintro e z6 ⟨⟨Bw5, dw5, Bt5, dt5, Br5, dr5, rfl, hc3⟩, hb6⟩
   have hy6 : Ev x4 z6 := Ev.trans hy5 hb6
   refine hK.out _ _ (HSE.out _ hy6) (fun hHeld => ?_)
   clear hK K
   (try simp only [Act.put, sA, sB, sC])
   refine wpAnyH_one (i := 7) rfl (by kernel_rfl) (by rfl) (fun K hK => ?_)
   go_simp
   refine (HWO1.out Bw5 dw5 Bt5 dt5 Br5 dr5 _ hc3).mono ?_
   rintro e z7 ⟨⟨rb, dB, rfl⟩, hb7⟩
   have hy7 : Ev x4 z7 := Ev.trans hy6 hb7
   refine hK.out _ _ (HSE.out _ hy7) (fun hHeld => ?_)
   clear hK K
   (try simp only [Act.put, sA, sB, sC])
   refine tkH 8 (some 76) ?_
   (try simp only [Act.put, sA, sB, sC])
   refine tkH 9 (some 85) ?_
   (try simp only [Act.put, sA, sB, sC])
   refine tkH 10 (some 86) ?_
   (try simp only [Act.put, sA, sB, sC])
   refine tkH 11 (some 10) ?_
   (try simp only [Act.put, sA, sB, sC])
   refine tkH 12 (some 11) ?_
   (try simp only [Act.put, sA, sB, sC])
   refine wpAnyH_done (by kernel_rfl) ?_ _
   have hB5 := hy7
   obtain ⟨x5, hx5⟩ : ∃ x, x = z7 := ⟨_, rfl⟩
   subst hx5
   have HX5 := hid (HX4.out.trans hB5)
   have Q5 := hid (hB5.heap Q4.out)
   have HB5 := hid (HB4.out.trans hB5)
   have lbx := heap_lt Q5.out
   clear y0 y1 y2 y3 y4 y5 y6 y7 y8 y9
   clear HSE hb2 hb5 hb6 hb7 hy2 hy5 hy6 hy7 hc2 hc3 hHeld
   obtain ⟨y0, y1, y2, y3, y4, y5, y6, y7, y8, y9⟩ := cells10 Q5.out
   cases hft : M.fit f ls2 with
   | true =>
    have HWO2 := hid (fun (Bw : Option Addr) (dw : Nat) (Bt : Option Addr) (dt : Nat) (Br : Option Addr) (dr : Nat) W h => HWY2.out hft Bw dw Bt dt Br dr W h)
    have hsh9 := HSX.out hft
    rw [hsh9] at HSH
    clear HWY2 HWN2 HSX hft hsh9 HSM1 HWO1 hB5
    go_upto_region 15 with fail
    have HSE : Hid (∀ w', Ev x5 w' → (∀ o, w'.cell? ⟨w.heap.size, o, none⟩ = x5.cell? ⟨w.heap.size, o, none⟩)) := hid (fun w' h => fun o => h.cells.1 _ o lbx)
    refine wp_region_held_drew (S := fun w' => (∀ o, w'.cell? ⟨w.heap.size, o, none⟩ = x5.cell? ⟨w.heap.size, o, none⟩)) (by kernel_rfl) (fun o => rfl) (fun hHeld => ?_)
    refine tkH 0 (some 88) ?_
    (try simp only [Act.put, sA, sB, sC])
    refine tkH 1 (some 89) ?_
    (try simp only [Act.put, sA, sB, sC])
    refine tkH 3 (some 91) ?_
    (try simp only [Act.put, sA, sB, sC])
    refine wpAnyH_one (i := 2) rfl (by kernel_rfl) (by rfl) (fun K hK => ?_)
    go_simp
    refine (HFL.out _).mono ?_
    rintro e z2 ⟨rfl, hb2⟩
    have hy2 : Ev x5 z2 := Ev.trans (Ev.drew (Ev.refl _)) hb2
    refine hK.out _ _ (HSE.out _ hy2) (fun hHeld => ?_)
    clear hK K
    (try simp only [Act.put, sA, sB, sC])
    refine tkH 4 (some 92) ?_
    (try simp only [Act.put, sA, sB, sC])
    refine wpAnyH_one (i := 5) rfl (by kernel_rfl) (by rfl) (fun K hK => ?_)
    go_simp
    refine (HSM2.out _ (HX5.out.trans hy2)).mono ?_
    rintro e z5 ⟨⟨S, sd, rfl, hc2⟩, hb5⟩
    have hy5 : Ev x5 z5 := Ev.trans hy2 hb5
    refine hK.out _ _ (HSE.out _ hy5) (fun hHeld => ?_)
    clear hK K
    (try simp only [Act.put, sA, sB, sC])
    refine wpAnyH_one (i := 6) rfl (by kernel_rfl) (by rfl) (fun K hK => ?_)
    go_simp
    refine (HeapL_c f ls2 Aw At S nw cw nt ct m2 sd (by omega) (by omega) (by omega) _ hc2).mono ?_
    rintro e z6 ⟨⟨Bw5, dw5, Bt5, dt5, Br5, dr5, rfl, hc3⟩, hb6⟩
    have hy6 : Ev x5 z6 := Ev.trans hy5 hb6
    refine hK.out _ _ (HSE.out _ hy6) (fun hHeld => ?_)
    clear hK K
    (try simp only [Act.put, sA, sB, sC])
    refine wpAnyH_one (i := 7) rfl (by kernel_rfl) (by rfl) (fun K hK => ?_)
    go_simp
    refine (HWO2.out Bw5 dw5 Bt5 dt5 Br5 dr5 _ hc3).mono ?_
    rintro e z7 ⟨⟨rb, dB, rfl⟩, hb7⟩
    have hy7 : Ev x5 z7 := Ev.trans hy6 hb7
    refine hK.out _ _ (HSE.out _ hy7) (fun hHeld => ?_)
    clear hK K
    (try simp only [Act.put, sA, sB, sC])
    refine tkH 8 (some 87) ?_
    (try simp only [Act.put, sA, sB, sC])
    refine tkH 9 (some 96) ?_
    (try simp only [Act.put, sA, sB, sC])
    refine tkH 10 (some 97) ?_
    (try simp only [Act.put, sA, sB, sC])
    refine tkH 11 (some 12) ?_
    (try simp only [Act.put, sA, sB, sC])
    refine tkH 12 (some 13) ?_
    (try simp only [Act.put, sA, sB, sC])
    refine wpAnyH_done (by kernel_rfl) ?_ _
    have HX6 := hid (HX5.out.trans hy7)
    have HV6 := hid (HB5.out.trans hy7)
    clear y0 y1 y2 y3 y4 y5 y6 y7 y8 y9
    go_wp2_with (first | (go_at_call 63; with_reducible refine (HBT.out _).mono ?_; rintro e z8 ⟨⟨B9, d9, rfl, hs9⟩, hb⟩; have HS9 := hid hs9; have HE7 := hid (HX6.out.trans hb); have HZ7 := hid (HV6.out.trans hb); clear hs9 hb) | (go_at_call 62; with_reducible refine (HSH.out B9 d9 BT dT _ HS9.out (HT3.out.ev HZ7.out)).mono ?_; rintro e z9 ⟨rfl, hb⟩; have HE8 := hid (HE7.out.trans hb); clear hb) | (go_at_call 19; with_reducible refine (awake_c _).mono ?_; rintro e w99 ⟨rfl, hb99⟩) | (with_reducible refine ⟨trivial, ?_⟩))
    go_ret
    exact ⟨rfl, HE8.out.trans hb99⟩
   | false =>
    have HWO2 := hid (fun (Bw : Option Addr) (dw : Nat) (Bt : Option Addr) (dt : Nat) (Br : Option Addr) (dr : Nat) W h => HWN2.out hft Bw dw Bt dt Br dr W h)
    clear HWY2 HWN2 HSX hft HSH HSM1 HWO1 HBT hB5
    go_upto_region 15 with fail
    have HSE : Hid (∀ w', Ev x5 w' → (∀ o, w'.cell? ⟨w.heap.size, o, none⟩ = x5.cell? ⟨w.heap.size, o, none⟩)) := hid (fun w' h => fun o => h.cells.1 _ o lbx)
    refine wp_region_held_drew (S := fun w' => (∀ o, w'.cell? ⟨w.heap.size, o, none⟩ = x5.cell? ⟨w.heap.size, o, none⟩)) (by kernel_rfl) (fun o => rfl) (fun hHeld => ?_)
    refine tkH 0 (some 88) ?_
    (try simp only [Act.put, sA, sB, sC])
    refine tkH 1 (some 89) ?_
    (try simp only [Act.put, sA, sB, sC])
    refine tkH 3 (some 91) ?_
    (try simp only [Act.put, sA, sB, sC])
    refine wpAnyH_one (i := 2) rfl (by kernel_rfl) (by rfl) (fun K hK => ?_)
    go_simp
    refine (HFL.out _).mono ?_
    rintro e z2 ⟨rfl, hb2⟩
    have hy2 : Ev x5 z2 := Ev.trans (Ev.drew (Ev.refl _)) hb2
    refine hK.out _ _ (HSE.out _ hy2) (fun hHeld => ?_)
    clear hK K
    (try simp only [Act.put, sA, sB, sC])
    refine tkH 4 (some 92) ?_
    (try simp only [Act.put, sA, sB, sC])
    refine wpAnyH_one (i := 5) rfl (by kernel_rfl) (by rfl) (fun K hK => ?_)
    go_simp
    refine (HSM2.out _ (HX5.out.trans hy2)).mono ?_
    rintro e z5 ⟨⟨S, sd, rfl, hc2⟩, hb5⟩
    have hy5 : Ev x5 z5 := Ev.trans hy2 hb5
    refine hK.out _ _ (HSE.out _ hy5) (fun hHeld => ?_)
    clear hK K
    (try simp only [Act.put, sA, sB, sC])
    refine wpAnyH_one (i := 6) rfl (by kernel_rfl) (by rfl) (fun K hK => ?_)
    go_simp
    refine (HeapL_c f ls2 Aw At S nw cw nt ct m2 sd (by omega) (by omega) (by omega) _ hc2).mono ?_
    rintro e z6 ⟨⟨Bw5, dw5, Bt5, dt5, Br5, dr5, rfl, hc3⟩, hb6⟩
    have hy6 : Ev x5 z6 := Ev.trans hy5 hb6
    refine hK.out _ _ (HSE.out _ hy6) (fun hHeld => ?_)
    clear hK K
    (try simp only [Act.put, sA, sB, sC])
    refine wpAnyH_one (i := 7) rfl (by kernel_rfl) (by rfl) (fun K hK => ?_)
    go_simp
    refine (HWO2.out Bw5 dw5 Bt5 dt5 Br5 dr5 _ hc3).mono ?_
    rintro e z7 ⟨rfl, hb7⟩
    have hy7 : Ev x5 z7 := Ev.trans hy6 hb7
    refine hK.out _ _ (HSE.out _ hy7) (fun hHeld => ?_)
    clear hK K
    (try simp only [Act.put, sA, sB, sC])
    refine tkH 8 (some 87) ?_
    (try simp only [Act.put, sA, sB, sC])
    refine tkH 9 (some 96) ?_
    (try simp only [Act.put, sA, sB, sC])
    refine tkH 10 (some 97) ?_
    (try simp only [Act.put, sA, sB, sC])
    refine tkH 11 (some 12) ?_
    (try simp only [Act.put, sA, sB, sC])
    refine tkH 12 (some 13) ?_
    (try simp only [Act.put, sA, sB, sC])
    refine wpAnyH_done (by kernel_rfl) ?_ _
    have HX6 := hid (HX5.out.trans hy7)
    clear y0 y1 y2 y3 y4 y5 y6 y7 y8 y9
    go_wp2_with (first | (go_at_call 19; with_reducible refine (awake_c _).mono ?_; rintro e w99 ⟨rfl, hb99⟩) | (with_reducible refine ⟨trivial, ?_⟩))
    go_ret
    exact ⟨rfl, HX6.out.trans hb99⟩

theorem couchLeft_c (f : M.Cf) (Aw At Ar : Option Addr) (nw cw nt ct nr cr : Nat) (hl0 : -9223372036854775808 ≤ f.last) (a : Int) (a0 : 0 ≤ a) (a1 : a < 256) (w : World) (hs : M.small nw nt nr → CS w w.heap.size f Aw At Ar nw cw nt ct nr cr) :
  Calls Try.prog 16 #[.agg #[.int .i64 f.last, .int .i64 f.size, .int .i64 f.cool, .int .i64 f.die, .int .i64 f.burn, .int .i64 f.st.lo, .int .i64 f.st.hi, .slice Aw nw cw, .slice At nt ct, .slice Ar nr cr], .int .u8 a] w fun e w' => e = .returned (.bool true) ∧ Ev w w' := by
 cases hr : M.rdy f nw nt nr with
 | false => exact couchLeft_no f Aw At Ar nw cw nt ct nr cr hl0 a a0 a1 w hs hr
 | true =>
  have h1 := hr
  unfold M.rdy at h1
  rw [Bool.and_eq_true, Bool.and_eq_true, decide_eq_true_eq, decide_eq_true_eq] at h1
  obtain ⟨⟨hsm, _⟩, h0⟩ := h1
  exact couchLeft_yes f Aw At Ar nw cw nt ct nr cr hl0 a a0 a1 w (hid (hs hsm)) hr hsm h0

end Go.Proofs.Ytgimcephbeajlaa
