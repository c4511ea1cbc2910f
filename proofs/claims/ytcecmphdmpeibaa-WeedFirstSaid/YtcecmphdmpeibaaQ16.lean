import Derived.Test.YtcecmphdmpeibaaL30
set_option linter.unusedSimpArgs false
set_option linter.unusedVariables false
namespace Go.Proofs.Ytcecmphdmpeibaa
open Go.RowKit

set_option maxRecDepth 100000 in
set_option maxHeartbeats 4000000 in
theorem weedFirst_c (f : M.Fl) (A : Option Addr) (n c : Nat) (w : World) (hs : n ≤ 7 → Sl tcs 5 w w.heap.size A n c f.ts) :
    Calls Try.prog 16 #[.agg #[.int .i64 f.rows, .int .i64 f.wds, .int .i64 f.lf.lo, .int .i64 f.lf.hi, .slice A n c]] w fun e w' => e = .returned (.bool true) ∧ Ev w w' := by
  have hrd := fun W (hE : Ev w W) => ready_c f A n c W (fun h => (hs h).ev hE)
  cases hready : M.rdy f n with
  | false =>
    rw [hready] at hrd
    have HRD := hid hrd
    clear hrd hready hs
    go_enter Try.func16, Try.ntmps16
    go_wp2_with (first | (go_at_call 52; ((with_reducible refine (HRD.out _ (Ev.alloc (Ev.refl _) _)).mono ?_); rintro e w1 ⟨rfl, hb1⟩; have HQ := hid (hb1.heap (alloc1 w (.cells #[.int .i64 f.rows, .int .i64 f.wds, .int .i64 f.lf.lo, .int .i64 f.lf.hi, .slice A n c] 26)).1); obtain ⟨q0, q1, q2, q3, q4⟩ := cells5 HQ.out; have hE1 : Ev w w1 := Ev.trans (Ev.alloc (Ev.refl _) _) hb1; have hG1 := Ev.refl w1)) | (go_at_call 21; ((with_reducible refine (awake_c _).mono ?_); rintro e w2 ⟨rfl, hb2⟩; have hG2 := hG1.trans hb2)))
    go_ret
    exact ⟨rfl, hE1.trans hG2⟩
  | true =>
    rw [hready] at hrd
    unfold M.rdy at hready
    simp only [Bool.and_eq_true, decide_eq_true_eq] at hready
    obtain ⟨⟨h7, _⟩, h0⟩ := hready
    replace hs := hs h7
    obtain ⟨r1, r7, d1, d3, _, n5⟩ := M.check_bd h0
    have hsl := hs.len
    have hfd := fun W (hE : Ev w W) => Field_c f A n c (by omega) W (hs.ev hE)
    have hfi := fun B d W (h : Sl tcs 5 W W.heap.size B n d f.ts) => First_c f B n d W h
    have hdn := fun B d W (h : Sl tcs 5 W W.heap.size B n d f.ts) => done_w f B n d W h
    unfold fv at hfi
    have HRD := hid hrd
    have HFD := hid hfd
    rcases M.first_some h0 with ⟨hf1, hf2⟩ | ⟨k, hf1, hk, hb1, hb2⟩
    · simp only [hf1] at hfi
      rw [hf2] at hdn
      have HFI := hid hfi
      have HDN := hid hdn
      clear hrd hfd hfi hdn hf1 hf2 h0 hs h7 hsl
      go_enter Try.func16, Try.ntmps16
      go_wp2_with (first | (go_at_call 52; ((with_reducible refine (HRD.out _ (Ev.alloc (Ev.refl _) _)).mono ?_); rintro e w1 ⟨rfl, hb1⟩; have HQ := hid (hb1.heap (alloc1 w (.cells #[.int .i64 f.rows, .int .i64 f.wds, .int .i64 f.lf.lo, .int .i64 f.lf.hi, .slice A n c] 26)).1); obtain ⟨q0, q1, q2, q3, q4⟩ := cells5 HQ.out; have hE1 : Ev w w1 := Ev.trans (Ev.alloc (Ev.refl _) _) hb1; have hG1 := Ev.refl w1)) | (go_at_call 24; ((with_reducible refine (HFD.out _ hE1).mono ?_); rintro e w2 ⟨⟨B2, d2, rfl, hs2⟩, hb2⟩; have hG2 := hG1.trans hb2; clear q0 q1 q2 q3 q4; obtain ⟨q0, q1, q2, q3, q4⟩ := cells5 (hG2.heap HQ.out); have HS2 := hid hs2; clear hs2)) | (go_at_call 43; ((with_reducible refine (HFI.out _ _ _ HS2.out).mono ?_); rintro e w3 ⟨rfl, hb3⟩; have hG3 := hG2.trans hb3; clear q0 q1 q2 q3 q4; obtain ⟨q0, q1, q2, q3, q4⟩ := cells5 (hG3.heap HQ.out))) | (go_at_call 24; ((with_reducible refine (HFD.out _ (hE1.trans hG3)).mono ?_); rintro e w4 ⟨⟨B4, d4, rfl, hs4⟩, hb4⟩; have hG4 := hG3.trans hb4; clear q0 q1 q2 q3 q4; obtain ⟨q0, q1, q2, q3, q4⟩ := cells5 (hG4.heap HQ.out); have HS4 := hid hs4; clear hs4)) | (go_at_call 28; ((with_reducible refine (HDN.out _ _ _ HS4.out).mono ?_); rintro e w5 ⟨⟨v5, rfl⟩, hb5⟩; have hG5 := hG4.trans hb5; clear q0 q1 q2 q3 q4; obtain ⟨q0, q1, q2, q3, q4⟩ := cells5 (hG5.heap HQ.out))) | (go_at_call 21; ((with_reducible refine (awake_c _).mono ?_); rintro e w6 ⟨rfl, hb6⟩; have hG6 := hG5.trans hb6)))
      go_ret
      exact ⟨rfl, hE1.trans hG6⟩
    · simp only [hf1] at hfi
      have hk4 : k ≤ 4 := by omega
      have s0 : IntKind.i64.wrap ((n : Int) - 1) = (n : Int) - 1 := IntWalk.i64_in _ (by omega)
      obtain ⟨p1, p2⟩ := wrap_pow (n := k) (by omega)
      obtain ⟨p3, p4⟩ := wrap_pow2 hk4
      have hl1 : 2 ^ k - 1 ≤ 127 := by have := pow_lt128 (n := k) (by omega); omega
      have hl2 : 2 ^ (k + 1) - 1 ≤ 127 := by have := pow_lt128 (n := k + 1) (by omega); omega
      have hsm1 := fun W (hE : Ev w W) => some_c f A n c (by omega) (2 ^ k - 1) (by omega) W (hs.ev hE)
      have hfd1 : ∀ B d W (h : Sl tcs 5 W W.heap.size B (M.keepK (2 ^ k - 1) f.ts 0).length d (M.keepK (2 ^ k - 1) f.ts 0)), Calls Try.prog 24 #[.agg #[.int .i64 f.rows, .int .i64 f.wds, .int .i64 f.lf.lo, .int .i64 f.lf.hi, .slice B (M.keepK (2 ^ k - 1) f.ts 0).length d]] W fun e w' => (∃ B' d', e = .returned (.agg #[.int .i64 f.rows, .int .i64 f.wds, .int .i64 f.lf.lo, .int .i64 f.lf.hi, .slice B' (M.keepK (2 ^ k - 1) f.ts 0).length d']) ∧ Sl tcs 5 w' w'.heap.size B' (M.keepK (2 ^ k - 1) f.ts 0).length d' (M.keepK (2 ^ k - 1) f.ts 0)) ∧ Ev W w' := fun B d W h => Field_c (M.subF f (2 ^ k - 1)) B _ d (by have := M.keepK_len (2 ^ k - 1) f.ts 0; omega) W h
      have hdn1 : ∀ B d W (h : Sl tcs 5 W W.heap.size B (M.keepK (2 ^ k - 1) f.ts 0).length d (M.keepK (2 ^ k - 1) f.ts 0)), Calls Try.prog 28 #[.agg #[.int .i64 f.rows, .int .i64 f.wds, .int .i64 f.lf.lo, .int .i64 f.lf.hi, .slice B (M.keepK (2 ^ k - 1) f.ts 0).length d]] W fun e w' => (∃ v, e = .returned (.tuple #[v, .int .i64 (M.begin (M.subF f (2 ^ k - 1)) true)])) ∧ Ev W w' := fun B d W h => done_w (M.subF f (2 ^ k - 1)) B _ d W h
      have hsm2 := fun W (hE : Ev w W) => some_c f A n c (by omega) (2 ^ (k + 1) - 1) (by omega) W (hs.ev hE)
      have hfd2 : ∀ B d W (h : Sl tcs 5 W W.heap.size B (M.keepK (2 ^ (k + 1) - 1) f.ts 0).length d (M.keepK (2 ^ (k + 1) - 1) f.ts 0)), Calls Try.prog 24 #[.agg #[.int .i64 f.rows, .int .i64 f.wds, .int .i64 f.lf.lo, .int .i64 f.lf.hi, .slice B (M.keepK (2 ^ (k + 1) - 1) f.ts 0).length d]] W fun e w' => (∃ B' d', e = .returned (.agg #[.int .i64 f.rows, .int .i64 f.wds, .int .i64 f.lf.lo, .int .i64 f.lf.hi, .slice B' (M.keepK (2 ^ (k + 1) - 1) f.ts 0).length d']) ∧ Sl tcs 5 w' w'.heap.size B' (M.keepK (2 ^ (k + 1) - 1) f.ts 0).length d' (M.keepK (2 ^ (k + 1) - 1) f.ts 0)) ∧ Ev W w' := fun B d W h => Field_c (M.subF f (2 ^ (k + 1) - 1)) B _ d (by have := M.keepK_len (2 ^ (k + 1) - 1) f.ts 0; omega) W h
      have hdn2 : ∀ B d W (h : Sl tcs 5 W W.heap.size B (M.keepK (2 ^ (k + 1) - 1) f.ts 0).length d (M.keepK (2 ^ (k + 1) - 1) f.ts 0)), Calls Try.prog 28 #[.agg #[.int .i64 f.rows, .int .i64 f.wds, .int .i64 f.lf.lo, .int .i64 f.lf.hi, .slice B (M.keepK (2 ^ (k + 1) - 1) f.ts 0).length d]] W fun e w' => (∃ v, e = .returned (.tuple #[v, .int .i64 (M.begin (M.subF f (2 ^ (k + 1) - 1)) true)])) ∧ Ev W w' := fun B d W h => done_w (M.subF f (2 ^ (k + 1) - 1)) B _ d W h
      rw [hb1] at hdn1
      rw [hb2] at hdn2
      have hin := fun W => In_s (k : Int) 0 ((n : Int) - 1) W
      rw [show M.isIn (k : Int) 0 ((n : Int) - 1) = true by unfold M.isIn; simp only [Bool.and_eq_true, decide_eq_true_eq]; omega] at hin
      generalize M.keepK (2 ^ k - 1) f.ts 0 = ts1 at hsm1 hfd1 hdn1
      generalize M.keepK (2 ^ (k + 1) - 1) f.ts 0 = ts2 at hsm2 hfd2 hdn2
      generalize ts1.length = m1 at hsm1 hfd1 hdn1
      generalize ts2.length = m2 at hsm2 hfd2 hdn2
      generalize 2 ^ k - 1 = b1 at p2 hl1 hsm1
      generalize 2 ^ (k + 1) - 1 = b2 at p4 hl2 hsm2
      have HFI := hid hfi
      have HIN := hid hin
      have HSM1 := hid hsm1
      have HFD1 := hid hfd1
      have HDN1 := hid hdn1
      have HSM2 := hid hsm2
      have HFD2 := hid hfd2
      have HDN2 := hid hdn2
      clear hrd hfd hfi hdn hf1 hb1 hb2 h0 hs hsl hin hsm1 hfd1 hdn1 hsm2 hfd2 hdn2
      go_enter Try.func16, Try.ntmps16
      go_wp2_with (first | (go_at_call 52; ((with_reducible refine (HRD.out _ (Ev.alloc (Ev.refl _) _)).mono ?_); rintro e w1 ⟨rfl, hb1⟩; have HQ := hid (hb1.heap (alloc1 w (.cells #[.int .i64 f.rows, .int .i64 f.wds, .int .i64 f.lf.lo, .int .i64 f.lf.hi, .slice A n c] 26)).1); obtain ⟨q0, q1, q2, q3, q4⟩ := cells5 HQ.out; have hE1 : Ev w w1 := Ev.trans (Ev.alloc (Ev.refl _) _) hb1; have hG1 := Ev.refl w1)) | (go_at_call 24; ((with_reducible refine (HFD.out _ hE1).mono ?_); rintro e w2 ⟨⟨B2, d2, rfl, hs2⟩, hb2⟩; have hG2 := hG1.trans hb2; clear q0 q1 q2 q3 q4; obtain ⟨q0, q1, q2, q3, q4⟩ := cells5 (hG2.heap HQ.out); have HS2 := hid hs2; clear hs2)) | (go_at_call 43; ((with_reducible refine (HFI.out _ _ _ HS2.out).mono ?_); rintro e w3 ⟨rfl, hb3⟩; have hG3 := hG2.trans hb3; clear q0 q1 q2 q3 q4; obtain ⟨q0, q1, q2, q3, q4⟩ := cells5 (hG3.heap HQ.out))) | (go_at_call 33; ((with_reducible refine (HIN.out _).mono ?_); rintro e w9 ⟨rfl, rfl⟩)) | (go_at_call 62; ((with_reducible refine (HSM1.out _ (hE1.trans hG3)).mono ?_); rintro e w4 ⟨⟨B4, d4, rfl, hs4⟩, hb4⟩; have hG4 := hG3.trans hb4; clear q0 q1 q2 q3 q4; obtain ⟨q0, q1, q2, q3, q4⟩ := cells5 (hG4.heap HQ.out); have HS4 := hid hs4; clear hs4)) | (go_at_call 24; ((with_reducible refine (HFD1.out _ _ _ HS4.out).mono ?_); rintro e w5 ⟨⟨B5, d5, rfl, hs5⟩, hb5⟩; have hG5 := hG4.trans hb5; clear q0 q1 q2 q3 q4; obtain ⟨q0, q1, q2, q3, q4⟩ := cells5 (hG5.heap HQ.out); have HS5 := hid hs5; clear hs5)) | (go_at_call 28; ((with_reducible refine (HDN1.out _ _ _ HS5.out).mono ?_); rintro e w6 ⟨⟨v6, rfl⟩, hb6⟩; have hG6 := hG5.trans hb6; clear q0 q1 q2 q3 q4; obtain ⟨q0, q1, q2, q3, q4⟩ := cells5 (hG6.heap HQ.out))) | (go_at_call 62; ((with_reducible refine (HSM2.out _ (hE1.trans hG6)).mono ?_); rintro e w7 ⟨⟨B7, d7, rfl, hs7⟩, hb7⟩; have hG7 := hG6.trans hb7; clear q0 q1 q2 q3 q4; obtain ⟨q0, q1, q2, q3, q4⟩ := cells5 (hG7.heap HQ.out); have HS7 := hid hs7; clear hs7)) | (go_at_call 24; ((with_reducible refine (HFD2.out _ _ _ HS7.out).mono ?_); rintro e w8 ⟨⟨B8, d8, rfl, hs8⟩, hb8⟩; have hG8 := hG7.trans hb8; clear q0 q1 q2 q3 q4; obtain ⟨q0, q1, q2, q3, q4⟩ := cells5 (hG8.heap HQ.out); have HS8 := hid hs8; clear hs8)) | (go_at_call 28; ((with_reducible refine (HDN2.out _ _ _ HS8.out).mono ?_); rintro e w9 ⟨⟨v9, rfl⟩, hb9⟩; have hG9 := hG8.trans hb9; clear q0 q1 q2 q3 q4; obtain ⟨q0, q1, q2, q3, q4⟩ := cells5 (hG9.heap HQ.out))) | (go_at_call 21; ((with_reducible refine (awake_c _).mono ?_); rintro e w10 ⟨rfl, hb10⟩; have hG10 := hG9.trans hb10)))
      go_ret
      exact ⟨rfl, hE1.trans hG10⟩

end Go.Proofs.Ytcecmphdmpeibaa
