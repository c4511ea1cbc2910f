import Derived.Test.YtcecmphdmpeibaaL27
namespace Go.Proofs.Ytcecmphdmpeibaa
open Go.RowKit

theorem M.rtruths_few {f : M.Fl} (h : M.check f = 0) : (M.rtruths f).length ≤ 16384 := by
  obtain ⟨r1, r7, d1, d3, _, _⟩ := M.check_bd h
  obtain ⟨P, hP, hP2, -⟩ := M.power_nat r1 r7 d1 d3
  unfold M.rtruths M.rtruthsK
  refine Nat.le_trans (List.length_filter_le _ _) ?_
  rw [List.length_map, List.length_range', hP]
  exact hP2

set_option maxRecDepth 100000 in
set_option maxHeartbeats 2000000 in
theorem weedNexts_c (f : M.Fl) (A : Option Addr) (n c : Nat) (x : Int) (w : World) (hs : n ≤ 7 → Sl tcs 5 w w.heap.size A n c f.ts) :
    Calls Try.prog 7 #[.agg #[.int .i64 f.rows, .int .i64 f.wds, .int .i64 f.lf.lo, .int .i64 f.lf.hi, .slice A n c], .int .i64 x] w fun e w' => e = .returned (.bool true) ∧ Ev w w' := by
  have hth := fun W (hE : Ev w W) => Thin_any f A n c W (fun h => (hs h).ev hE)
  cases hthin : (decide (n ≤ 7) && M.thin f) with
  | false =>
    rw [hthin] at hth
    have HTH := hid hth
    clear hth hthin hs
    go_enter Try.func7, Try.ntmps7
    go_wp2_with (first | (go_at_call 20; ((with_reducible refine (HTH.out _ (Ev.alloc (Ev.refl _) _)).mono ?_); rintro e w1 ⟨rfl, hb1⟩; have HQ := hid (hb1.heap (alloc1 w (.cells #[.int .i64 f.rows, .int .i64 f.wds, .int .i64 f.lf.lo, .int .i64 f.lf.hi, .slice A n c] 26)).1); obtain ⟨q0, q1, q2, q3, q4⟩ := cells5 HQ.out; have hE1 : Ev w w1 := Ev.trans (Ev.alloc (Ev.refl _) _) hb1; have hG1 := Ev.refl w1)) | (go_at_call 21; ((with_reducible refine (awake_c _).mono ?_); rintro e w2 ⟨rfl, hb2⟩; have hG2 := hG1.trans hb2)))
    go_ret
    exact ⟨rfl, hE1.trans hG2⟩
  | true =>
    rw [hthin] at hth
    simp only [Bool.and_eq_true, decide_eq_true_eq] at hthin
    obtain ⟨h7, _⟩ := hthin
    replace hs := hs h7
    have HTH := hid hth
    have hfd := fun W (hE : Ev w W) => Field_c f A n c (by omega) W (hs.ev hE)
    have hnx := fun B d W (h : Sl tcs 5 W W.heap.size B n d f.ts) => Next_c f x B n d W h
    have hfa := fun W (hE : Ev w W) => fault_c f A n c W (hs.ev hE)
    have hsw := fun W (hE : Ev w W) => sure_w f A n c W (hs.ev hE)
    have hsu := fun W (hE : Ev w W) => sure_c f A n c W (hs.ev hE)
    have hin := fun W => In_s x 0 (f.wds - 1) W
    rw [M.isIn_wd] at hin
    unfold fv at hnx
    have HFD := hid hfd
    by_cases h0 : M.check f = 0
    · obtain ⟨r1, r7, d1, d3, _, _⟩ := M.check_bd h0
      rw [h0] at hfa
      have HFA := hid hfa
      cases hr : M.hasWd f x with
      | false =>
        have hb : M.begin f (M.hasWd f x) = 2 := by rw [M.begin_ref f _ h0, hr]; rfl
        rw [hr] at hb hin
        simp only [hr, hb, show ¬ (2 : Int) = 0 from by decide, ↓reduceIte] at hnx
        generalize M.sureE f = k at hsw
        have HNX := hid hnx
        have HSW := hid hsw
        have HIN := hid hin
        clear hth hfd hnx hfa hsw hsu hin hs h0 hr hb
        go_enter Try.func7, Try.ntmps7
        go_wp2_with (first | (go_at_call 20; ((with_reducible refine (HTH.out _ (Ev.alloc (Ev.refl _) _)).mono ?_); rintro e w1 ⟨rfl, hb1⟩; have HQ := hid (hb1.heap (alloc1 w (.cells #[.int .i64 f.rows, .int .i64 f.wds, .int .i64 f.lf.lo, .int .i64 f.lf.hi, .slice A n c] 26)).1); obtain ⟨q0, q1, q2, q3, q4⟩ := cells5 HQ.out; have hE1 : Ev w w1 := Ev.trans (Ev.alloc (Ev.refl _) _) hb1; have hG1 := Ev.refl w1)) | (go_at_call 24; ((with_reducible refine (HFD.out _ hE1).mono ?_); rintro e w2 ⟨⟨B2, d2, rfl, hs2⟩, hb2⟩; have hG2 := hG1.trans hb2; clear q0 q1 q2 q3 q4; obtain ⟨q0, q1, q2, q3, q4⟩ := cells5 (hG2.heap HQ.out); have HS2 := hid hs2; clear hs2)) | (go_at_call 41; ((with_reducible refine (HNX.out _ _ _ HS2.out).mono ?_); rintro e w3 ⟨rfl, hb3⟩; have hG3 := hG2.trans hb3; clear q0 q1 q2 q3 q4; obtain ⟨q0, q1, q2, q3, q4⟩ := cells5 (hG3.heap HQ.out))) | (go_at_call 29; ((with_reducible refine (HSW.out _ (hE1.trans hG3)).mono ?_); rintro e w4 ⟨⟨v4, rfl⟩, hb4⟩; have hG4 := hG3.trans hb4; clear q0 q1 q2 q3 q4; obtain ⟨q0, q1, q2, q3, q4⟩ := cells5 (hG4.heap HQ.out))) | (go_at_call 22; ((with_reducible refine (HFA.out _ (hE1.trans hG4)).mono ?_); rintro e w5 ⟨rfl, hb5⟩; have hG5 := hG4.trans hb5; clear q0 q1 q2 q3 q4; obtain ⟨q0, q1, q2, q3, q4⟩ := cells5 (hG5.heap HQ.out))) | (go_at_call 33; ((with_reducible refine (HIN.out _).mono ?_); rintro e w6 ⟨rfl, rfl⟩)) | (go_at_call 21; ((with_reducible refine (awake_c _).mono ?_); rintro e w6 ⟨rfl, hb6⟩; have hG6 := hG5.trans hb6)))
        go_ret
        exact ⟨rfl, hE1.trans hG6⟩
      | true =>
        have hb : M.begin f (M.hasWd f x) = M.sureE f := by rw [M.begin_ref f _ h0, hr]; rfl
        rw [hr] at hb hin
        by_cases hq : M.sureE f = 0
        · have hne : M.rtruths f ≠ [] := by
            intro he
            unfold M.sureE at hq
            rw [h0, he] at hq
            simp at hq
          have hrn := fun B d W (h : LL W B (M.rtruths f).length d (M.rtruths f)) => rNext_c f x h0 A n c (M.rtruths f).length (M.rtruths_few h0) B (M.rtruths f).length d (M.rtruths f) W (Nat.le_refl _) hne (fun t ht => ((M.mem_rtruths h0 t).1 ht).1) h
          simp only [hr, hb, hq, ↓reduceIte, M.next_same h0] at hnx
          simp only [hq, ↓reduceIte] at hsu
          generalize M.rnext f x (M.rtruths f) = res at hnx hrn
          obtain ⟨u, v⟩ := res
          simp only at hnx hrn
          have HNX := hid hnx
          have HSU := hid hsu
          have HIN := hid hin
          have HRN := hid hrn
          clear hth hfd hnx hfa hsw hsu hin hs h0 hr hb hq hrn hne
          go_enter Try.func7, Try.ntmps7
          go_wp2_with (first | (go_at_call 20; ((with_reducible refine (HTH.out _ (Ev.alloc (Ev.refl _) _)).mono ?_); rintro e w1 ⟨rfl, hb1⟩; have HQ := hid (hb1.heap (alloc1 w (.cells #[.int .i64 f.rows, .int .i64 f.wds, .int .i64 f.lf.lo, .int .i64 f.lf.hi, .slice A n c] 26)).1); obtain ⟨q0, q1, q2, q3, q4⟩ := cells5 HQ.out; have hE1 : Ev w w1 := Ev.trans (Ev.alloc (Ev.refl _) _) hb1; have hG1 := Ev.refl w1)) | (go_at_call 24; ((with_reducible refine (HFD.out _ hE1).mono ?_); rintro e w2 ⟨⟨B2, d2, rfl, hs2⟩, hb2⟩; have hG2 := hG1.trans hb2; clear q0 q1 q2 q3 q4; obtain ⟨q0, q1, q2, q3, q4⟩ := cells5 (hG2.heap HQ.out); have HS2 := hid hs2; clear hs2)) | (go_at_call 41; ((with_reducible refine (HNX.out _ _ _ HS2.out).mono ?_); rintro e w3 ⟨rfl, hb3⟩; have hG3 := hG2.trans hb3; clear q0 q1 q2 q3 q4; obtain ⟨q0, q1, q2, q3, q4⟩ := cells5 (hG3.heap HQ.out))) | (go_at_call 29; ((with_reducible refine (HSU.out _ (hE1.trans hG3)).mono ?_); rintro e w4 ⟨⟨B4, d4, rfl, hl4⟩, hb4⟩; have hG4 := hG3.trans hb4; clear q0 q1 q2 q3 q4; obtain ⟨q0, q1, q2, q3, q4⟩ := cells5 (hG4.heap HQ.out); have HL4 := hid hl4; clear hl4)) | (go_at_call 22; ((with_reducible refine (HFA.out _ (hE1.trans hG4)).mono ?_); rintro e w5 ⟨rfl, hb5⟩; have hG5 := hG4.trans hb5; clear q0 q1 q2 q3 q4; obtain ⟨q0, q1, q2, q3, q4⟩ := cells5 (hG5.heap HQ.out))) | (go_at_call 33; ((with_reducible refine (HIN.out _).mono ?_); rintro e w6 ⟨rfl, rfl⟩)) | (go_at_call 42; ((with_reducible refine (HRN.out _ _ _ (HL4.out.ev hb5)).mono ?_); rintro e w6 ⟨rfl, hb6⟩; have hG6 := hG5.trans hb6)) | (go_at_call 21; ((with_reducible refine (awake_c _).mono ?_); rintro e w7 ⟨rfl, hb7⟩; have hG7 := hG6.trans hb7)))
          go_ret
          exact ⟨rfl, hE1.trans hG7⟩
        · simp only [hr, hb, hq, ↓reduceIte] at hnx
          simp only [hq, ↓reduceIte] at hsu
          generalize M.sureE f = k at hq hsu hnx
          have hne : (k != 0) = true := by simpa using hq
          have HNX := hid hnx
          have HSU := hid hsu
          have HIN := hid hin
          clear hth hfd hnx hfa hsw hsu hin hs h0 hr hb hq
          go_enter Try.func7, Try.ntmps7
          go_wp2_with (first | (go_at_call 20; ((with_reducible refine (HTH.out _ (Ev.alloc (Ev.refl _) _)).mono ?_); rintro e w1 ⟨rfl, hb1⟩; have HQ := hid (hb1.heap (alloc1 w (.cells #[.int .i64 f.rows, .int .i64 f.wds, .int .i64 f.lf.lo, .int .i64 f.lf.hi, .slice A n c] 26)).1); obtain ⟨q0, q1, q2, q3, q4⟩ := cells5 HQ.out; have hE1 : Ev w w1 := Ev.trans (Ev.alloc (Ev.refl _) _) hb1; have hG1 := Ev.refl w1)) | (go_at_call 24; ((with_reducible refine (HFD.out _ hE1).mono ?_); rintro e w2 ⟨⟨B2, d2, rfl, hs2⟩, hb2⟩; have hG2 := hG1.trans hb2; clear q0 q1 q2 q3 q4; obtain ⟨q0, q1, q2, q3, q4⟩ := cells5 (hG2.heap HQ.out); have HS2 := hid hs2; clear hs2)) | (go_at_call 41; ((with_reducible refine (HNX.out _ _ _ HS2.out).mono ?_); rintro e w3 ⟨rfl, hb3⟩; have hG3 := hG2.trans hb3; clear q0 q1 q2 q3 q4; obtain ⟨q0, q1, q2, q3, q4⟩ := cells5 (hG3.heap HQ.out))) | (go_at_call 29; ((with_reducible refine (HSU.out _ (hE1.trans hG3)).mono ?_); rintro e w4 ⟨rfl, hb4⟩; have hG4 := hG3.trans hb4; clear q0 q1 q2 q3 q4; obtain ⟨q0, q1, q2, q3, q4⟩ := cells5 (hG4.heap HQ.out))) | (go_at_call 22; ((with_reducible refine (HFA.out _ (hE1.trans hG4)).mono ?_); rintro e w5 ⟨rfl, hb5⟩; have hG5 := hG4.trans hb5; clear q0 q1 q2 q3 q4; obtain ⟨q0, q1, q2, q3, q4⟩ := cells5 (hG5.heap HQ.out))) | (go_at_call 33; ((with_reducible refine (HIN.out _).mono ?_); rintro e w6 ⟨rfl, rfl⟩)) | (go_at_call 21; ((with_reducible refine (awake_c _).mono ?_); rintro e w6 ⟨rfl, hb6⟩; have hG6 := hG5.trans hb6)))
          go_ret
          exact ⟨rfl, hE1.trans hG6⟩
    · have hb : M.begin f (M.hasWd f x) = M.check f := by unfold M.begin; rw [if_neg h0]
      have hse : M.sureE f = M.check f := by unfold M.sureE; rw [if_neg h0]
      simp only [hb, h0, ↓reduceIte] at hnx
      rw [hse] at hsw
      generalize M.check f = k at h0 hfa hnx hsw
      have hne : (k != 0) = true := by simpa using h0
      have hne2 : (k == 0) = false := by simpa using h0
      have HNX := hid hnx
      have HSW := hid hsw
      have HFA := hid hfa
      clear hth hfd hnx hfa hsw hsu hin hs h0 hb hse
      go_enter Try.func7, Try.ntmps7
      go_wp2_with (first | (go_at_call 20; ((with_reducible refine (HTH.out _ (Ev.alloc (Ev.refl _) _)).mono ?_); rintro e w1 ⟨rfl, hb1⟩; have HQ := hid (hb1.heap (alloc1 w (.cells #[.int .i64 f.rows, .int .i64 f.wds, .int .i64 f.lf.lo, .int .i64 f.lf.hi, .slice A n c] 26)).1); obtain ⟨q0, q1, q2, q3, q4⟩ := cells5 HQ.out; have hE1 : Ev w w1 := Ev.trans (Ev.alloc (Ev.refl _) _) hb1; have hG1 := Ev.refl w1)) | (go_at_call 24; ((with_reducible refine (HFD.out _ hE1).mono ?_); rintro e w2 ⟨⟨B2, d2, rfl, hs2⟩, hb2⟩; have hG2 := hG1.trans hb2; clear q0 q1 q2 q3 q4; obtain ⟨q0, q1, q2, q3, q4⟩ := cells5 (hG2.heap HQ.out); have HS2 := hid hs2; clear hs2)) | (go_at_call 41; ((with_reducible refine (HNX.out _ _ _ HS2.out).mono ?_); rintro e w3 ⟨rfl, hb3⟩; have hG3 := hG2.trans hb3; clear q0 q1 q2 q3 q4; obtain ⟨q0, q1, q2, q3, q4⟩ := cells5 (hG3.heap HQ.out))) | (go_at_call 29; ((with_reducible refine (HSW.out _ (hE1.trans hG3)).mono ?_); rintro e w4 ⟨⟨v4, rfl⟩, hb4⟩; have hG4 := hG3.trans hb4; clear q0 q1 q2 q3 q4; obtain ⟨q0, q1, q2, q3, q4⟩ := cells5 (hG4.heap HQ.out))) | (go_at_call 22; ((with_reducible refine (HFA.out _ (hE1.trans hG4)).mono ?_); rintro e w5 ⟨rfl, hb5⟩; have hG5 := hG4.trans hb5; clear q0 q1 q2 q3 q4; obtain ⟨q0, q1, q2, q3, q4⟩ := cells5 (hG5.heap HQ.out))) | (go_at_call 21; ((with_reducible refine (awake_c _).mono ?_); rintro e w6 ⟨rfl, hb6⟩; have hG6 := hG5.trans hb6)))
      go_ret
      exact ⟨rfl, hE1.trans hG6⟩

end Go.Proofs.Ytcecmphdmpeibaa
