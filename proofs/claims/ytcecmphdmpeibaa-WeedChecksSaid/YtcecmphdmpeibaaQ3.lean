import Derived.Test.YtcecmphdmpeibaaL13
namespace Go.Proofs.Ytcecmphdmpeibaa
open Go.RowKit

theorem M.prove_same {f : M.Fl} (h : M.check f = 0) (tr : List Int) : M.proveTruth f tr = M.isTruth f tr := by
  obtain ⟨r1, r7, d1, d3, _, n5⟩ := M.check_bd h
  rw [Bool.eq_iff_iff, M.isTruth_iff h]
  unfold M.proveTruth M.Say M.Tru
  simp only [h, decide_true, Bool.true_and, Bool.and_eq_true, decide_eq_true_eq, List.all_eq_true, M.wrong_none n5]
  constructor
  · rintro ⟨h1, h2, h3, h4⟩
    refine ⟨⟨h1, fun y hy => ?_⟩, h3, h4⟩
    have := h2 y hy
    simp only [M.canSay, M.hasWd, Bool.or_eq_true, beq_iff_eq, Bool.and_eq_true, decide_eq_true_eq] at this
    omega
  · rintro ⟨⟨h1, h2⟩, h3, h4⟩
    refine ⟨h1, fun y hy => ?_, h3, h4⟩
    have := h2 y hy
    simp only [M.canSay, M.hasWd, Bool.or_eq_true, beq_iff_eq, Bool.and_eq_true, decide_eq_true_eq]
    omega
theorem M.prove_not {f : M.Fl} (h : M.check f ≠ 0) (tr : List Int) : M.proveTruth f tr = false := by
  unfold M.proveTruth
  simp [h]

set_option maxRecDepth 100000 in
set_option maxHeartbeats 2000000 in
theorem weedChecks_c (f : M.Fl) (A : Option Addr) (n c : Nat) (B : Option Addr) (m d : Nat) (tr : List Int) (w : World) (hs : n ≤ 7 → Sl tcs 5 w w.heap.size A n c f.ts) (ht : m ≤ 9 → Sl ics 1 w w.heap.size B m d tr) (hnil : B = none → d = 0) :
    Calls Try.prog 3 #[.agg #[.int .i64 f.rows, .int .i64 f.wds, .int .i64 f.lf.lo, .int .i64 f.lf.hi, .slice A n c], .slice B m d] w fun e w' => e = .returned (.bool true) ∧ Ev w w' := by
  have hth := fun W (hE : Ev w W) => Thin_any f A n c W (fun h => (hs h).ev hE)
  cases hthin : (decide (n ≤ 7) && M.thin f) with
  | false =>
    rw [hthin] at hth
    have HTH := hid hth
    clear hth hthin hs ht
    go_enter Try.func3, Try.ntmps3
    go_wp2_with (first | (go_at_call 20; ((with_reducible refine (HTH.out _ (Ev.alloc (Ev.refl _) _)).mono ?_); rintro e w1 ⟨rfl, hb1⟩)) | (go_at_call 21; ((with_reducible refine (awake_c _).mono ?_); rintro e w2 ⟨rfl, hb2⟩)))
    go_ret
    exact ⟨rfl, Ev.trans (Ev.trans (Ev.alloc (Ev.refl _) _) hb1) hb2⟩
  | true =>
    rw [hthin] at hth
    simp only [Bool.and_eq_true, decide_eq_true_eq] at hthin
    obtain ⟨h7, _⟩ := hthin
    replace hs := hs h7
    have HTH := hid hth
    by_cases h9 : m ≤ 9
    · replace ht := ht h9
      have hfd := fun W (hE : Ev w W) => Field_c f A n c (by omega) W (hs.ev hE)
      have hls := fun W (hE : Ev w W) => list_c B m d tr (by omega) hnil W (ht.ev hE)
      have hfa := fun W (hE : Ev w W) => fault_c f A n c W (hs.ev hE)
      have hck := fun B d W (h : Sl tcs 5 W W.heap.size B n d f.ts) => check_c f B n d W h
      have hpt := fun B2 d2 B3 d3 W (h : Sl tcs 5 W W.heap.size B2 n d2 f.ts) (h2 : Sl ics 1 W W.heap.size B3 m d3 tr) => ProveTruth_c f tr B3 m d3 B2 n d2 W h h2
      unfold fv at hck hpt
      have HFD := hid hfd
      have HLS := hid hls
      by_cases h0 : M.check f = 0
      · obtain ⟨r1, r7, d1, d3, _, _⟩ := M.check_bd h0
        have hist := fun W (hE : Ev w W) => IsTruth_c f A n c B m d tr r1 r7 d1 d3 (M.tin_of h0) W (hs.ev hE) (ht.ev hE)
        rw [h0] at hck hfa
        rw [M.prove_same h0] at hpt
        generalize M.isTruth f tr = b at hist hpt
        have HCK := hid hck
        have HFA := hid hfa
        have HPT := hid hpt
        have HIST := hid hist
        clear hth hfd hls hfa hck hpt hist hs ht h0
        go_enter Try.func3, Try.ntmps3
        go_wp2_with (first | (go_at_call 20; ((with_reducible refine (HTH.out _ (Ev.alloc (Ev.refl _) _)).mono ?_); rintro e w1 ⟨rfl, hb1⟩; have HQ := hid (hb1.heap (alloc1 w (.cells #[.int .i64 f.rows, .int .i64 f.wds, .int .i64 f.lf.lo, .int .i64 f.lf.hi, .slice A n c] 26)).1); obtain ⟨q0, q1, q2, q3, q4⟩ := cells5 HQ.out; have hE1 : Ev w w1 := Ev.trans (Ev.alloc (Ev.refl _) _) hb1)) | (go_at_call 22; ((with_reducible refine (HFA.out _ hE1).mono ?_); rintro e w2 ⟨rfl, hb2⟩; clear q0 q1 q2 q3 q4; obtain ⟨q0, q1, q2, q3, q4⟩ := cells5 (hb2.heap HQ.out); have hE2 := hE1.trans hb2)) | (go_at_call 23; ((with_reducible refine (HCK.out _ _ _ HS3.out).mono ?_); rintro e w4 ⟨rfl, hb4⟩; clear q0 q1 q2 q3 q4; obtain ⟨q0, q1, q2, q3, q4⟩ := cells5 (((hb2.trans hb3).trans hb4).heap HQ.out); have hE4 := hE3.trans hb4)) | (go_at_call 24; ((with_reducible refine (HFD.out _ hE4).mono ?_); rintro e w5 ⟨⟨B5, d5, rfl, hs5⟩, hb5⟩; have HS5 := hid hs5; clear hs5 q0 q1 q2 q3 q4; obtain ⟨q0, q1, q2, q3, q4⟩ := cells5 ((((hb2.trans hb3).trans hb4).trans hb5).heap HQ.out); have hE5 := hE4.trans hb5)) | (go_at_call 24; ((with_reducible refine (HFD.out _ hE2).mono ?_); rintro e w3 ⟨⟨B3, d3', rfl, hs3⟩, hb3⟩; have HS3 := hid hs3; have hE3 := hE2.trans hb3; clear hs3)) | (go_at_call 26; ((with_reducible refine (HLS.out _ hE5).mono ?_); rintro e w6 ⟨⟨B6, d6, rfl, hs6⟩, hb6⟩; have HS6 := hid hs6; have hE6 := hE5.trans hb6; clear hs6)) | (go_at_call 25; ((with_reducible refine (HPT.out _ _ _ _ _ (HS5.out.ev hb6) HS6.out).mono ?_); rintro e w7 ⟨rfl, hb7⟩; have hE7 := hE6.trans hb7; clear q0 q1 q2 q3 q4; obtain ⟨q0, q1, q2, q3, q4⟩ := cells5 ((((((hb2.trans hb3).trans hb4).trans hb5).trans hb6).trans hb7).heap HQ.out))) | (go_at_call 27; ((with_reducible refine (HIST.out _ hE7).mono ?_); rintro e w8 ⟨rfl, hb8⟩; have hE8 := hE7.trans hb8)) | (go_at_call 21; ((with_reducible refine (awake_c _).mono ?_); rintro e w9 ⟨rfl, hb9⟩)))
        go_ret
        exact ⟨rfl, hE8.trans hb9⟩
      · rw [M.prove_not h0] at hpt
        generalize M.check f = k at h0 hck hfa
        have hne : (k == 0) = false := by simpa using h0
        have HCK := hid hck
        have HFA := hid hfa
        have HPT := hid hpt
        clear hth hfd hls hfa hck hpt hs ht h0
        go_enter Try.func3, Try.ntmps3
        go_wp2_with (first | (go_at_call 20; ((with_reducible refine (HTH.out _ (Ev.alloc (Ev.refl _) _)).mono ?_); rintro e w1 ⟨rfl, hb1⟩; have HQ := hid (hb1.heap (alloc1 w (.cells #[.int .i64 f.rows, .int .i64 f.wds, .int .i64 f.lf.lo, .int .i64 f.lf.hi, .slice A n c] 26)).1); obtain ⟨q0, q1, q2, q3, q4⟩ := cells5 HQ.out; have hE1 : Ev w w1 := Ev.trans (Ev.alloc (Ev.refl _) _) hb1)) | (go_at_call 22; ((with_reducible refine (HFA.out _ hE1).mono ?_); rintro e w2 ⟨rfl, hb2⟩; clear q0 q1 q2 q3 q4; obtain ⟨q0, q1, q2, q3, q4⟩ := cells5 (hb2.heap HQ.out); have hE2 := hE1.trans hb2)) | (go_at_call 23; ((with_reducible refine (HCK.out _ _ _ HS3.out).mono ?_); rintro e w4 ⟨rfl, hb4⟩; clear q0 q1 q2 q3 q4; obtain ⟨q0, q1, q2, q3, q4⟩ := cells5 (((hb2.trans hb3).trans hb4).heap HQ.out); have hE4 := hE3.trans hb4)) | (go_at_call 24; ((with_reducible refine (HFD.out _ hE4).mono ?_); rintro e w5 ⟨⟨B5, d5, rfl, hs5⟩, hb5⟩; have HS5 := hid hs5; clear hs5 q0 q1 q2 q3 q4; obtain ⟨q0, q1, q2, q3, q4⟩ := cells5 ((((hb2.trans hb3).trans hb4).trans hb5).heap HQ.out); have hE5 := hE4.trans hb5)) | (go_at_call 24; ((with_reducible refine (HFD.out _ hE2).mono ?_); rintro e w3 ⟨⟨B3, d3', rfl, hs3⟩, hb3⟩; have HS3 := hid hs3; have hE3 := hE2.trans hb3; clear hs3)) | (go_at_call 26; ((with_reducible refine (HLS.out _ hE5).mono ?_); rintro e w6 ⟨⟨B6, d6, rfl, hs6⟩, hb6⟩; have HS6 := hid hs6; have hE6 := hE5.trans hb6; clear hs6)) | (go_at_call 25; ((with_reducible refine (HPT.out _ _ _ _ _ (HS5.out.ev hb6) HS6.out).mono ?_); rintro e w7 ⟨rfl, hb7⟩; have hE7 := hE6.trans hb7)) | (go_at_call 21; ((with_reducible refine (awake_c _).mono ?_); rintro e w9 ⟨rfl, hb9⟩)))
        go_ret
        exact ⟨rfl, hE7.trans hb9⟩
    · have hb : (9 : Int) < m := by omega
      clear hth hs ht h9
      go_enter Try.func3, Try.ntmps3
      go_wp2_with (first | (go_at_call 20; ((with_reducible refine (HTH.out _ (Ev.alloc (Ev.refl _) _)).mono ?_); rintro e w1 ⟨rfl, hb1⟩)) | (go_at_call 21; ((with_reducible refine (awake_c _).mono ?_); rintro e w2 ⟨rfl, hb2⟩)))
      go_ret
      exact ⟨rfl, Ev.trans (Ev.trans (Ev.alloc (Ev.refl _) _) hb1) hb2⟩

end Go.Proofs.Ytcecmphdmpeibaa
