import Derived.Test.YtcecmphdmpeibaaL20
namespace Go.Proofs.Ytcecmphdmpeibaa
open Go.RowKit

set_option maxRecDepth 100000 in
set_option maxHeartbeats 2000000 in
theorem weedLeaves_c (f : M.Fl) (A : Option Addr) (n c : Nat) (w : World) (hs : n ≤ 7 → Sl tcs 5 w w.heap.size A n c f.ts) :
    Calls Try.prog 8 #[.agg #[.int .i64 f.rows, .int .i64 f.wds, .int .i64 f.lf.lo, .int .i64 f.lf.hi, .slice A n c]] w fun e w' => e = .returned (.bool true) ∧ Ev w w' := by
  have hth := fun W (hE : Ev w W) => Thin_any f A n c W (fun h => (hs h).ev hE)
  cases hthin : (decide (n ≤ 7) && M.thin f) with
  | false =>
    rw [hthin] at hth
    have HTH := hid hth
    clear hth hthin hs
    go_enter Try.func8, Try.ntmps8
    go_wp2_with (first | (go_at_call 20; ((with_reducible refine (HTH.out _ (Ev.alloc (Ev.refl _) _)).mono ?_); rintro e w1 ⟨rfl, hb1⟩; have HQ := hid (hb1.heap (alloc1 w (.cells #[.int .i64 f.rows, .int .i64 f.wds, .int .i64 f.lf.lo, .int .i64 f.lf.hi, .slice A n c] 26)).1); obtain ⟨q0, q1, q2, q3, q4⟩ := cells5 HQ.out; have hE1 : Ev w w1 := Ev.trans (Ev.alloc (Ev.refl _) _) hb1; have hG1 := Ev.refl w1)) | (go_at_call 21; ((with_reducible refine (awake_c _).mono ?_); rintro e w2 ⟨rfl, hb2⟩; have hG2 := hG1.trans hb2)))
    go_ret
    exact ⟨rfl, hE1.trans hG2⟩
  | true =>
    rw [hthin] at hth
    simp only [Bool.and_eq_true, decide_eq_true_eq] at hthin
    obtain ⟨h7, _⟩ := hthin
    replace hs := hs h7
    have HTH := hid hth
    have hfd := fun W (hE : Ev w W) => Field_c f A n c (by omega) W (hs.ev hE)
    have hfi := fun B d W (h : Sl tcs 5 W W.heap.size B n d f.ts) => First_c f B n d W h
    have hlv := fun B d W (h : Sl tcs 5 W W.heap.size B n d f.ts) => Leave_c f B n d W h
    have hfa := fun W (hE : Ev w W) => fault_c f A n c W (hs.ev hE)
    unfold fv at hfi hlv
    have HFD := hid hfd
    by_cases h0 : M.check f = 0
    · obtain ⟨r1, r7, d1, d3, _, n5⟩ := M.check_bd h0
      have hn : f.ts.length = n := hs.len
      have hal := fun W (hE : Ev w W) => All_c f r1 r7 d1 d3 (M.tin_of h0) A n c (by omega) W (hs.ev hE)
      have hrl := fun B m d W (h : Sl ncs 1 W W.heap.size B m d (M.rall f)) => rLeave_c f.rows f.wds f.lf.lo f.lf.hi A n c (by omega) B m d (M.rall f) (M.rall_small h0) W h
      have hrf := fun B m d W (h : Sl ncs 1 W W.heap.size B m d (M.rall f)) => rFirst_c f.rows f.wds f.lf.lo f.lf.hi A n c (by omega) B m d (M.rall f) (M.rall_small h0) W h
      have hls := M.leave_same h0
      have hfs := M.first_same h0
      rw [hn] at hls hfs
      rw [← hls] at hrl
      simp only [h0, ↓reduceIte] at hlv
      have hsm := fun B2 d2 B3 d3 W h2 h3 => same_c B2 B3 (M.leaveBest f).length d2 (M.leaveBest f).length d3 (M.leaveBest f) (M.leaveBest f) W h2 h3
      simp only [decide_true] at hsm
      rw [h0] at hfa
      generalize M.leaveBest f = best at hlv hrl hsm
      have HFA := hid hfa
      have HLV := hid hlv
      have HAL := hid hal
      have HRL := hid hrl
      have HSM := hid hsm
      rcases hfs with ⟨f1, f2⟩ | ⟨f1, f2⟩
      · rw [f2] at hfi
        generalize M.rfirst (M.rall f) 0 n = due at f1 hrf
        have HFI := hid hfi
        have HRF := hid hrf
        clear hth hfd hfi hlv hfa hs h0 hn hal hrl hrf hls f2 hsm
        go_enter Try.func8, Try.ntmps8
        go_wp2_with (first | (go_at_call 20; ((with_reducible refine (HTH.out _ (Ev.alloc (Ev.refl _) _)).mono ?_); rintro e w1 ⟨rfl, hb1⟩; have HQ := hid (hb1.heap (alloc1 w (.cells #[.int .i64 f.rows, .int .i64 f.wds, .int .i64 f.lf.lo, .int .i64 f.lf.hi, .slice A n c] 26)).1); obtain ⟨q0, q1, q2, q3, q4⟩ := cells5 HQ.out; have hE1 : Ev w w1 := Ev.trans (Ev.alloc (Ev.refl _) _) hb1; have hG1 := Ev.refl w1)) | (go_at_call 24; ((with_reducible refine (HFD.out _ hE1).mono ?_); rintro e w2 ⟨⟨B2, d2, rfl, hs2⟩, hb2⟩; have hG2 := hG1.trans hb2; clear q0 q1 q2 q3 q4; obtain ⟨q0, q1, q2, q3, q4⟩ := cells5 (hG2.heap HQ.out); have HS2 := hid hs2; clear hs2)) | (go_at_call 43; ((with_reducible refine (HFI.out _ _ _ HS2.out).mono ?_); rintro e w3 ⟨rfl, hb3⟩; have hG3 := hG2.trans hb3; clear q0 q1 q2 q3 q4; obtain ⟨q0, q1, q2, q3, q4⟩ := cells5 (hG3.heap HQ.out))) | (go_at_call 24; ((with_reducible refine (HFD.out _ (hE1.trans hG3)).mono ?_); rintro e w4 ⟨⟨B4, d4, rfl, hs4⟩, hb4⟩; have hG4 := hG3.trans hb4; clear q0 q1 q2 q3 q4; obtain ⟨q0, q1, q2, q3, q4⟩ := cells5 (hG4.heap HQ.out); have HS4 := hid hs4; clear hs4)) | (go_at_call 44; ((with_reducible refine (HLV.out _ _ _ HS4.out).mono ?_); rintro e w5 ⟨⟨B5, d5, rfl, hs5⟩, hb5⟩; have hG5 := hG4.trans hb5; clear q0 q1 q2 q3 q4; obtain ⟨q0, q1, q2, q3, q4⟩ := cells5 (hG5.heap HQ.out); have HS5 := hid hs5; clear hs5)) | (go_at_call 22; ((with_reducible refine (HFA.out _ (hE1.trans hG5)).mono ?_); rintro e w6 ⟨rfl, hb6⟩; have hG6 := hG5.trans hb6; clear q0 q1 q2 q3 q4; obtain ⟨q0, q1, q2, q3, q4⟩ := cells5 (hG6.heap HQ.out))) | (go_at_call 45; ((with_reducible refine (HAL.out _ (hE1.trans hG6)).mono ?_); rintro e w7 ⟨⟨B7, m7, d7, rfl, hs7⟩, hb7⟩; have hG7 := hG6.trans hb7; clear q0 q1 q2 q3 q4; obtain ⟨q0, q1, q2, q3, q4⟩ := cells5 (hG7.heap HQ.out); have HS7 := hid hs7; clear hs7)) | (go_at_call 46; ((with_reducible refine (HRL.out _ _ _ _ HS7.out).mono ?_); rintro e w8 ⟨⟨B8, d8, rfl, hs8⟩, hb8⟩; have hG8 := hG7.trans hb8; clear q0 q1 q2 q3 q4; obtain ⟨q0, q1, q2, q3, q4⟩ := cells5 (hG8.heap HQ.out); have HS8 := hid hs8; clear hs8)) | (go_at_call 34; ((with_reducible refine (HSM.out _ _ _ _ _ (HS5.out.ev ((hb6.trans hb7).trans hb8)) HS8.out).mono ?_); rintro e w9 ⟨rfl, hb9⟩; have hG9 := hG8.trans hb9; clear q0 q1 q2 q3 q4; obtain ⟨q0, q1, q2, q3, q4⟩ := cells5 (hG9.heap HQ.out))) | (go_at_call 47; ((with_reducible refine (HRF.out _ _ _ _ (HS7.out.ev (hb8.trans hb9))).mono ?_); rintro e w10 ⟨rfl, hb10⟩; have hG10 := hG9.trans hb10; clear q0 q1 q2 q3 q4; obtain ⟨q0, q1, q2, q3, q4⟩ := cells5 (hG10.heap HQ.out))) | (go_at_call 21; ((with_reducible refine (awake_c _).mono ?_); rintro e w11 ⟨rfl, hb11⟩; have hG11 := hG10.trans hb11)))
        go_ret
        exact ⟨rfl, hE1.trans hG11⟩
      · rw [f2] at hfi
        generalize M.rfirst (M.rall f) 0 n = due at f1 hrf hfi
        have f3 : ¬ due < 0 := by omega
        have HFI := hid hfi
        have HRF := hid hrf
        clear hth hfd hfi hlv hfa hs h0 hn hal hrl hrf hls f2 hsm
        go_enter Try.func8, Try.ntmps8
        go_wp2_with (first | (go_at_call 20; ((with_reducible refine (HTH.out _ (Ev.alloc (Ev.refl _) _)).mono ?_); rintro e w1 ⟨rfl, hb1⟩; have HQ := hid (hb1.heap (alloc1 w (.cells #[.int .i64 f.rows, .int .i64 f.wds, .int .i64 f.lf.lo, .int .i64 f.lf.hi, .slice A n c] 26)).1); obtain ⟨q0, q1, q2, q3, q4⟩ := cells5 HQ.out; have hE1 : Ev w w1 := Ev.trans (Ev.alloc (Ev.refl _) _) hb1; have hG1 := Ev.refl w1)) | (go_at_call 24; ((with_reducible refine (HFD.out _ hE1).mono ?_); rintro e w2 ⟨⟨B2, d2, rfl, hs2⟩, hb2⟩; have hG2 := hG1.trans hb2; clear q0 q1 q2 q3 q4; obtain ⟨q0, q1, q2, q3, q4⟩ := cells5 (hG2.heap HQ.out); have HS2 := hid hs2; clear hs2)) | (go_at_call 43; ((with_reducible refine (HFI.out _ _ _ HS2.out).mono ?_); rintro e w3 ⟨rfl, hb3⟩; have hG3 := hG2.trans hb3; clear q0 q1 q2 q3 q4; obtain ⟨q0, q1, q2, q3, q4⟩ := cells5 (hG3.heap HQ.out))) | (go_at_call 24; ((with_reducible refine (HFD.out _ (hE1.trans hG3)).mono ?_); rintro e w4 ⟨⟨B4, d4, rfl, hs4⟩, hb4⟩; have hG4 := hG3.trans hb4; clear q0 q1 q2 q3 q4; obtain ⟨q0, q1, q2, q3, q4⟩ := cells5 (hG4.heap HQ.out); have HS4 := hid hs4; clear hs4)) | (go_at_call 44; ((with_reducible refine (HLV.out _ _ _ HS4.out).mono ?_); rintro e w5 ⟨⟨B5, d5, rfl, hs5⟩, hb5⟩; have hG5 := hG4.trans hb5; clear q0 q1 q2 q3 q4; obtain ⟨q0, q1, q2, q3, q4⟩ := cells5 (hG5.heap HQ.out); have HS5 := hid hs5; clear hs5)) | (go_at_call 22; ((with_reducible refine (HFA.out _ (hE1.trans hG5)).mono ?_); rintro e w6 ⟨rfl, hb6⟩; have hG6 := hG5.trans hb6; clear q0 q1 q2 q3 q4; obtain ⟨q0, q1, q2, q3, q4⟩ := cells5 (hG6.heap HQ.out))) | (go_at_call 45; ((with_reducible refine (HAL.out _ (hE1.trans hG6)).mono ?_); rintro e w7 ⟨⟨B7, m7, d7, rfl, hs7⟩, hb7⟩; have hG7 := hG6.trans hb7; clear q0 q1 q2 q3 q4; obtain ⟨q0, q1, q2, q3, q4⟩ := cells5 (hG7.heap HQ.out); have HS7 := hid hs7; clear hs7)) | (go_at_call 46; ((with_reducible refine (HRL.out _ _ _ _ HS7.out).mono ?_); rintro e w8 ⟨⟨B8, d8, rfl, hs8⟩, hb8⟩; have hG8 := hG7.trans hb8; clear q0 q1 q2 q3 q4; obtain ⟨q0, q1, q2, q3, q4⟩ := cells5 (hG8.heap HQ.out); have HS8 := hid hs8; clear hs8)) | (go_at_call 34; ((with_reducible refine (HSM.out _ _ _ _ _ (HS5.out.ev ((hb6.trans hb7).trans hb8)) HS8.out).mono ?_); rintro e w9 ⟨rfl, hb9⟩; have hG9 := hG8.trans hb9; clear q0 q1 q2 q3 q4; obtain ⟨q0, q1, q2, q3, q4⟩ := cells5 (hG9.heap HQ.out))) | (go_at_call 47; ((with_reducible refine (HRF.out _ _ _ _ (HS7.out.ev (hb8.trans hb9))).mono ?_); rintro e w10 ⟨rfl, hb10⟩; have hG10 := hG9.trans hb10; clear q0 q1 q2 q3 q4; obtain ⟨q0, q1, q2, q3, q4⟩ := cells5 (hG10.heap HQ.out))) | (go_at_call 21; ((with_reducible refine (awake_c _).mono ?_); rintro e w11 ⟨rfl, hb11⟩; have hG11 := hG10.trans hb11)))
        go_ret
        exact ⟨rfl, hE1.trans hG11⟩
    · have hfe : M.First f = (0, M.check f) := by unfold M.First; rw [if_neg h0]
      rw [hfe] at hfi
      simp only [h0, ↓reduceIte] at hlv
      generalize M.check f = k at h0 hfa hfi hlv
      have hne : (k != 0) = true := by simpa using h0
      have HFA := hid hfa
      have HFI := hid hfi
      have HLV := hid hlv
      clear hth hfd hfi hlv hfa hs h0 hfe
      go_enter Try.func8, Try.ntmps8
      go_wp2_with (first | (go_at_call 20; ((with_reducible refine (HTH.out _ (Ev.alloc (Ev.refl _) _)).mono ?_); rintro e w1 ⟨rfl, hb1⟩; have HQ := hid (hb1.heap (alloc1 w (.cells #[.int .i64 f.rows, .int .i64 f.wds, .int .i64 f.lf.lo, .int .i64 f.lf.hi, .slice A n c] 26)).1); obtain ⟨q0, q1, q2, q3, q4⟩ := cells5 HQ.out; have hE1 : Ev w w1 := Ev.trans (Ev.alloc (Ev.refl _) _) hb1; have hG1 := Ev.refl w1)) | (go_at_call 24; ((with_reducible refine (HFD.out _ hE1).mono ?_); rintro e w2 ⟨⟨B2, d2, rfl, hs2⟩, hb2⟩; have hG2 := hG1.trans hb2; clear q0 q1 q2 q3 q4; obtain ⟨q0, q1, q2, q3, q4⟩ := cells5 (hG2.heap HQ.out); have HS2 := hid hs2; clear hs2)) | (go_at_call 43; ((with_reducible refine (HFI.out _ _ _ HS2.out).mono ?_); rintro e w3 ⟨rfl, hb3⟩; have hG3 := hG2.trans hb3; clear q0 q1 q2 q3 q4; obtain ⟨q0, q1, q2, q3, q4⟩ := cells5 (hG3.heap HQ.out))) | (go_at_call 24; ((with_reducible refine (HFD.out _ (hE1.trans hG3)).mono ?_); rintro e w4 ⟨⟨B4, d4, rfl, hs4⟩, hb4⟩; have hG4 := hG3.trans hb4; clear q0 q1 q2 q3 q4; obtain ⟨q0, q1, q2, q3, q4⟩ := cells5 (hG4.heap HQ.out); have HS4 := hid hs4; clear hs4)) | (go_at_call 44; ((with_reducible refine (HLV.out _ _ _ HS4.out).mono ?_); rintro e w5 ⟨rfl, hb5⟩; have hG5 := hG4.trans hb5; clear q0 q1 q2 q3 q4; obtain ⟨q0, q1, q2, q3, q4⟩ := cells5 (hG5.heap HQ.out))) | (go_at_call 22; ((with_reducible refine (HFA.out _ (hE1.trans hG5)).mono ?_); rintro e w6 ⟨rfl, hb6⟩; have hG6 := hG5.trans hb6; clear q0 q1 q2 q3 q4; obtain ⟨q0, q1, q2, q3, q4⟩ := cells5 (hG6.heap HQ.out))) | (go_at_call 21; ((with_reducible refine (awake_c _).mono ?_); rintro e w7 ⟨rfl, hb7⟩; have hG7 := hG6.trans hb7)))
      go_ret
      exact ⟨rfl, hE1.trans hG7⟩

end Go.Proofs.Ytcecmphdmpeibaa
