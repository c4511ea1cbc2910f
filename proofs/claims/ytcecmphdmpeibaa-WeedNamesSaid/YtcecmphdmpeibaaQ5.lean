import Derived.Test.YtcecmphdmpeibaaL14
namespace Go.Proofs.Ytcecmphdmpeibaa
open Go.RowKit

theorem M.whoF_same {f : M.Fl} (h : M.check f = 0) {row : Int} (r0 : 0 ≤ row) (r1 : row < f.rows) (x : Int) : M.whoF row (M.truths f) x = M.whoF row (M.rtruths f) x := by
  unfold M.whoF
  rw [Bool.eq_iff_iff, List.any_eq_true, List.any_eq_true]
  have hg : ∀ l ∈ M.rtruths f, (M.pad l).getD row.toNat 0 = l.getD row.toNat 0 := fun l hl => M.pad_get (by have := ((M.mem_rtruths h l).1 hl).1.1; omega)
  constructor
  · rintro ⟨t, ht, hx⟩
    obtain ⟨l, hl, rfl⟩ := (M.truths_same h t).1 ht
    exact ⟨l, hl, by rw [← hg l hl]; exact hx⟩
  · rintro ⟨l, hl, hx⟩
    exact ⟨M.pad l, (M.truths_same h _).2 ⟨l, hl, rfl⟩, by rw [hg l hl]; exact hx⟩
theorem M.who_same {f : M.Fl} (h : M.check f = 0) {row : Int} (r0 : 0 ≤ row) (r1 : row < f.rows) : M.who f row (M.truths f) = M.who f row (M.rtruths f) := by
  unfold M.who
  generalize (f.wds + 1).toNat = j
  suffices ∀ j k, M.whoFrom row (M.truths f) k j = M.whoFrom row (M.rtruths f) k j from this j 0
  intro j
  induction j with
  | zero => intro k; rfl
  | succ j ih => intro k; rw [M.whoFrom, M.whoFrom, ih, M.whoF_same h r0 r1]
theorem M.isIn_row (f : M.Fl) (r : Int) : M.isIn r 0 (f.rows - 1) = M.hasRow f r := by
  unfold M.isIn M.hasRow
  rw [Bool.eq_iff_iff]
  simp only [Bool.and_eq_true, decide_eq_true_eq]
  omega
theorem M.isIn_wd (f : M.Fl) (r : Int) : M.isIn r 0 (f.wds - 1) = M.hasWd f r := by
  unfold M.isIn M.hasWd
  rw [Bool.eq_iff_iff]
  simp only [Bool.and_eq_true, decide_eq_true_eq]
  omega
/-- sure, where its list is of no use. -/
theorem sure_w (f : M.Fl) (A : Option Addr) (n c : Nat) (w : World) (hs : Sl tcs 5 w w.heap.size A n c f.ts) :
    Calls Try.prog 29 #[.agg #[.int .i64 f.rows, .int .i64 f.wds, .int .i64 f.lf.lo, .int .i64 f.lf.hi, .slice A n c]] w fun e w' => (∃ v, e = .returned (.tuple #[v, .int .i64 (M.sureE f)])) ∧ Ev w w' := by
  refine (sure_c f A n c w hs).mono ?_
  rintro e w' ⟨h, hE⟩
  refine ⟨?_, hE⟩
  by_cases h0 : M.sureE f = 0
  · rw [if_pos h0] at h
    obtain ⟨B, d, rfl, _⟩ := h
    exact ⟨_, by rw [h0]⟩
  · rw [if_neg h0] at h
    exact ⟨_, h⟩
theorem M.rt_len {f : M.Fl} (h : M.check f = 0) : ∀ t ∈ M.rtruths f, (t.length : Int) = f.rows := fun t ht => ((M.mem_rtruths h t).1 ht).1.1
theorem M.begin_ref (f : M.Fl) (b : Bool) (h : M.check f = 0) : M.begin f b = if b then M.sureE f else 2 := by
  rw [M.sure_begin]
  unfold M.begin
  simp [h]

set_option maxRecDepth 100000 in
set_option maxHeartbeats 2000000 in
theorem weedWho_c (f : M.Fl) (A : Option Addr) (n c : Nat) (row : Int) (w : World) (hs : n ≤ 7 → Sl tcs 5 w w.heap.size A n c f.ts) :
    Calls Try.prog 5 #[.agg #[.int .i64 f.rows, .int .i64 f.wds, .int .i64 f.lf.lo, .int .i64 f.lf.hi, .slice A n c], .int .i64 row] w fun e w' => e = .returned (.bool true) ∧ Ev w w' := by
  have hth := fun W (hE : Ev w W) => Thin_any f A n c W (fun h => (hs h).ev hE)
  cases hthin : (decide (n ≤ 7) && M.thin f) with
  | false =>
    rw [hthin] at hth
    have HTH := hid hth
    clear hth hthin hs
    go_enter Try.func5, Try.ntmps5
    go_wp2_with (first | (go_at_call 20; ((with_reducible refine (HTH.out _ (Ev.alloc (Ev.refl _) _)).mono ?_); rintro e w1 ⟨rfl, hb1⟩; have HQ := hid (hb1.heap (alloc1 w (.cells #[.int .i64 f.rows, .int .i64 f.wds, .int .i64 f.lf.lo, .int .i64 f.lf.hi, .slice A n c] 26)).1); obtain ⟨q0, q1, q2, q3, q4⟩ := cells5 HQ.out; have hE1 : Ev w w1 := Ev.trans (Ev.alloc (Ev.refl _) _) hb1; have hG1 := Ev.refl w1)) | (go_at_call 21; ((with_reducible refine (awake_c _).mono ?_); rintro e w2 ⟨rfl, hb2⟩; have hG2 := hG1.trans hb2)))
    go_ret
    exact ⟨rfl, hE1.trans hG2⟩
  | true =>
    rw [hthin] at hth
    simp only [Bool.and_eq_true, decide_eq_true_eq] at hthin
    obtain ⟨h7, _⟩ := hthin
    replace hs := hs h7
    have HTH := hid hth
    have hfd := fun W (hE : Ev w W) => Field_c f A n c (by omega) W (hs.ev hE)
    have hwh := fun B d W (h : Sl tcs 5 W W.heap.size B n d f.ts) => Who_c f row B n d W h
    have hfa := fun W (hE : Ev w W) => fault_c f A n c W (hs.ev hE)
    have hsw := fun W (hE : Ev w W) => sure_w f A n c W (hs.ev hE)
    have hsu := fun W (hE : Ev w W) => sure_c f A n c W (hs.ev hE)
    have hin := fun W => In_s row 0 (f.rows - 1) W
    rw [M.isIn_row] at hin
    unfold fv at hwh
    have HFD := hid hfd
    by_cases h0 : M.check f = 0
    · obtain ⟨r1, r7, d1, d3, _, _⟩ := M.check_bd h0
      rw [h0] at hfa
      have HFA := hid hfa
      cases hr : M.hasRow f row with
      | false =>
        have hb : M.begin f (M.hasRow f row) = 2 := by rw [M.begin_ref f _ h0, hr]; rfl
        rw [hr] at hb hin
        simp only [hr, hb, show ¬ (2 : Int) = 0 from by decide, ↓reduceIte] at hwh
        generalize M.sureE f = k at hsw
        have HWH := hid hwh
        have HSW := hid hsw
        have HIN := hid hin
        clear hth hfd hwh hfa hsw hsu hin hs h0 hr hb
        go_enter Try.func5, Try.ntmps5
        go_wp2_with (first | (go_at_call 20; ((with_reducible refine (HTH.out _ (Ev.alloc (Ev.refl _) _)).mono ?_); rintro e w1 ⟨rfl, hb1⟩; have HQ := hid (hb1.heap (alloc1 w (.cells #[.int .i64 f.rows, .int .i64 f.wds, .int .i64 f.lf.lo, .int .i64 f.lf.hi, .slice A n c] 26)).1); obtain ⟨q0, q1, q2, q3, q4⟩ := cells5 HQ.out; have hE1 : Ev w w1 := Ev.trans (Ev.alloc (Ev.refl _) _) hb1; have hG1 := Ev.refl w1)) | (go_at_call 24; ((with_reducible refine (HFD.out _ hE1).mono ?_); rintro e w2 ⟨⟨B2, d2, rfl, hs2⟩, hb2⟩; have hG2 := hG1.trans hb2; clear q0 q1 q2 q3 q4; obtain ⟨q0, q1, q2, q3, q4⟩ := cells5 (hG2.heap HQ.out); have HS2 := hid hs2; clear hs2)) | (go_at_call 32; ((with_reducible refine (HWH.out _ _ _ HS2.out).mono ?_); rintro e w3 ⟨rfl, hb3⟩; have hG3 := hG2.trans hb3; clear q0 q1 q2 q3 q4; obtain ⟨q0, q1, q2, q3, q4⟩ := cells5 (hG3.heap HQ.out))) | (go_at_call 29; ((with_reducible refine (HSW.out _ (hE1.trans hG3)).mono ?_); rintro e w4 ⟨⟨v4, rfl⟩, hb4⟩; have hG4 := hG3.trans hb4; clear q0 q1 q2 q3 q4; obtain ⟨q0, q1, q2, q3, q4⟩ := cells5 (hG4.heap HQ.out))) | (go_at_call 22; ((with_reducible refine (HFA.out _ (hE1.trans hG4)).mono ?_); rintro e w5 ⟨rfl, hb5⟩; have hG5 := hG4.trans hb5; clear q0 q1 q2 q3 q4; obtain ⟨q0, q1, q2, q3, q4⟩ := cells5 (hG5.heap HQ.out))) | (go_at_call 33; ((with_reducible refine (HIN.out _).mono ?_); rintro e w6 ⟨rfl, rfl⟩)) | (go_at_call 21; ((with_reducible refine (awake_c _).mono ?_); rintro e w6 ⟨rfl, hb6⟩; have hG6 := hG5.trans hb6)))
        go_ret
        exact ⟨rfl, hE1.trans hG6⟩
      | true =>
        have hb : M.begin f (M.hasRow f row) = M.sureE f := by rw [M.begin_ref f _ h0, hr]; rfl
        have hrr : 0 ≤ row ∧ row < f.rows := by
          unfold M.hasRow at hr
          simpa [Bool.and_eq_true, decide_eq_true_eq] using hr
        rw [hr] at hb hin
        by_cases hq : M.sureE f = 0
        · have hrw := fun B d W (h : LL W B (M.rtruths f).length d (M.rtruths f)) => rWho_c f row h0 hrr.1 hrr.2 A n c B (M.rtruths f).length d (M.rtruths f) (M.rt_len h0) W h
          simp only [hr, hb, hq, ↓reduceIte, M.who_same h0 hrr.1 hrr.2] at hwh
          simp only [hq, ↓reduceIte] at hsu
          have hsm := fun B2 d2 B3 d3 W h2 h3 => same_c B2 B3 (M.who f row (M.rtruths f)).length d2 (M.who f row (M.rtruths f)).length d3 (M.who f row (M.rtruths f)) (M.who f row (M.rtruths f)) W h2 h3
          simp only [decide_true] at hsm
          have HWH := hid hwh
          have HSU := hid hsu
          have HIN := hid hin
          have HRW := hid hrw
          have HSM := hid hsm
          clear hth hfd hwh hfa hsw hsu hin hs h0 hr hb hrr hq hrw hsm
          go_enter Try.func5, Try.ntmps5
          go_wp2_with (first | (go_at_call 20; ((with_reducible refine (HTH.out _ (Ev.alloc (Ev.refl _) _)).mono ?_); rintro e w1 ⟨rfl, hb1⟩; have HQ := hid (hb1.heap (alloc1 w (.cells #[.int .i64 f.rows, .int .i64 f.wds, .int .i64 f.lf.lo, .int .i64 f.lf.hi, .slice A n c] 26)).1); obtain ⟨q0, q1, q2, q3, q4⟩ := cells5 HQ.out; have hE1 : Ev w w1 := Ev.trans (Ev.alloc (Ev.refl _) _) hb1; have hG1 := Ev.refl w1)) | (go_at_call 24; ((with_reducible refine (HFD.out _ hE1).mono ?_); rintro e w2 ⟨⟨B2, d2, rfl, hs2⟩, hb2⟩; have hG2 := hG1.trans hb2; clear q0 q1 q2 q3 q4; obtain ⟨q0, q1, q2, q3, q4⟩ := cells5 (hG2.heap HQ.out); have HS2 := hid hs2; clear hs2)) | (go_at_call 32; ((with_reducible refine (HWH.out _ _ _ HS2.out).mono ?_); rintro e w3 ⟨⟨B3, d3', rfl, hs3⟩, hb3⟩; have hG3 := hG2.trans hb3; clear q0 q1 q2 q3 q4; obtain ⟨q0, q1, q2, q3, q4⟩ := cells5 (hG3.heap HQ.out); have HS3 := hid hs3; clear hs3)) | (go_at_call 29; ((with_reducible refine (HSU.out _ (hE1.trans hG3)).mono ?_); rintro e w4 ⟨⟨B4, d4, rfl, hl4⟩, hb4⟩; have hG4 := hG3.trans hb4; clear q0 q1 q2 q3 q4; obtain ⟨q0, q1, q2, q3, q4⟩ := cells5 (hG4.heap HQ.out); have HL4 := hid hl4; clear hl4)) | (go_at_call 22; ((with_reducible refine (HFA.out _ (hE1.trans hG4)).mono ?_); rintro e w5 ⟨rfl, hb5⟩; have hG5 := hG4.trans hb5; clear q0 q1 q2 q3 q4; obtain ⟨q0, q1, q2, q3, q4⟩ := cells5 (hG5.heap HQ.out))) | (go_at_call 33; ((with_reducible refine (HIN.out _).mono ?_); rintro e w6 ⟨rfl, rfl⟩)) | (go_at_call 35; ((with_reducible refine (HRW.out _ _ _ (HL4.out.ev hb5)).mono ?_); rintro e w6 ⟨⟨B6, d6, rfl, hs6⟩, hb6⟩; have hG6 := hG5.trans hb6; have HS6 := hid hs6; clear hs6)) | (go_at_call 34; ((with_reducible refine (HSM.out _ _ _ _ _ (HS3.out.ev ((hb4.trans hb5).trans hb6)) HS6.out).mono ?_); rintro e w7 ⟨rfl, hb7⟩; have hG7 := hG6.trans hb7)) | (go_at_call 21; ((with_reducible refine (awake_c _).mono ?_); rintro e w8 ⟨rfl, hb8⟩; have hG8 := hG7.trans hb8)))
          go_ret
          exact ⟨rfl, hE1.trans hG8⟩
        · simp only [hr, hb, hq, ↓reduceIte] at hwh
          simp only [hq, ↓reduceIte] at hsu
          generalize M.sureE f = k at hq hsu hwh
          have hne : (k != 0) = true := by simpa using hq
          have HWH := hid hwh
          have HSU := hid hsu
          have HIN := hid hin
          clear hth hfd hwh hfa hsw hsu hin hs h0 hr hb hrr hq
          go_enter Try.func5, Try.ntmps5
          go_wp2_with (first | (go_at_call 20; ((with_reducible refine (HTH.out _ (Ev.alloc (Ev.refl _) _)).mono ?_); rintro e w1 ⟨rfl, hb1⟩; have HQ := hid (hb1.heap (alloc1 w (.cells #[.int .i64 f.rows, .int .i64 f.wds, .int .i64 f.lf.lo, .int .i64 f.lf.hi, .slice A n c] 26)).1); obtain ⟨q0, q1, q2, q3, q4⟩ := cells5 HQ.out; have hE1 : Ev w w1 := Ev.trans (Ev.alloc (Ev.refl _) _) hb1; have hG1 := Ev.refl w1)) | (go_at_call 24; ((with_reducible refine (HFD.out _ hE1).mono ?_); rintro e w2 ⟨⟨B2, d2, rfl, hs2⟩, hb2⟩; have hG2 := hG1.trans hb2; clear q0 q1 q2 q3 q4; obtain ⟨q0, q1, q2, q3, q4⟩ := cells5 (hG2.heap HQ.out); have HS2 := hid hs2; clear hs2)) | (go_at_call 32; ((with_reducible refine (HWH.out _ _ _ HS2.out).mono ?_); rintro e w3 ⟨rfl, hb3⟩; have hG3 := hG2.trans hb3; clear q0 q1 q2 q3 q4; obtain ⟨q0, q1, q2, q3, q4⟩ := cells5 (hG3.heap HQ.out))) | (go_at_call 29; ((with_reducible refine (HSU.out _ (hE1.trans hG3)).mono ?_); rintro e w4 ⟨rfl, hb4⟩; have hG4 := hG3.trans hb4; clear q0 q1 q2 q3 q4; obtain ⟨q0, q1, q2, q3, q4⟩ := cells5 (hG4.heap HQ.out))) | (go_at_call 22; ((with_reducible refine (HFA.out _ (hE1.trans hG4)).mono ?_); rintro e w5 ⟨rfl, hb5⟩; have hG5 := hG4.trans hb5; clear q0 q1 q2 q3 q4; obtain ⟨q0, q1, q2, q3, q4⟩ := cells5 (hG5.heap HQ.out))) | (go_at_call 33; ((with_reducible refine (HIN.out _).mono ?_); rintro e w6 ⟨rfl, rfl⟩)) | (go_at_call 21; ((with_reducible refine (awake_c _).mono ?_); rintro e w6 ⟨rfl, hb6⟩; have hG6 := hG5.trans hb6)))
          go_ret
          exact ⟨rfl, hE1.trans hG6⟩
    · have hb : M.begin f (M.hasRow f row) = M.check f := by unfold M.begin; rw [if_neg h0]
      have hse : M.sureE f = M.check f := by unfold M.sureE; rw [if_neg h0]
      simp only [hb, h0, ↓reduceIte] at hwh
      rw [hse] at hsw
      generalize M.check f = k at h0 hfa hwh hsw
      have hne : (k != 0) = true := by simpa using h0
      have hne2 : (k == 0) = false := by simpa using h0
      have HWH := hid hwh
      have HSW := hid hsw
      have HFA := hid hfa
      clear hth hfd hwh hfa hsw hsu hin hs h0 hb hse
      go_enter Try.func5, Try.ntmps5
      go_wp2_with (first | (go_at_call 20; ((with_reducible refine (HTH.out _ (Ev.alloc (Ev.refl _) _)).mono ?_); rintro e w1 ⟨rfl, hb1⟩; have HQ := hid (hb1.heap (alloc1 w (.cells #[.int .i64 f.rows, .int .i64 f.wds, .int .i64 f.lf.lo, .int .i64 f.lf.hi, .slice A n c] 26)).1); obtain ⟨q0, q1, q2, q3, q4⟩ := cells5 HQ.out; have hE1 : Ev w w1 := Ev.trans (Ev.alloc (Ev.refl _) _) hb1; have hG1 := Ev.refl w1)) | (go_at_call 24; ((with_reducible refine (HFD.out _ hE1).mono ?_); rintro e w2 ⟨⟨B2, d2, rfl, hs2⟩, hb2⟩; have hG2 := hG1.trans hb2; clear q0 q1 q2 q3 q4; obtain ⟨q0, q1, q2, q3, q4⟩ := cells5 (hG2.heap HQ.out); have HS2 := hid hs2; clear hs2)) | (go_at_call 32; ((with_reducible refine (HWH.out _ _ _ HS2.out).mono ?_); rintro e w3 ⟨rfl, hb3⟩; have hG3 := hG2.trans hb3; clear q0 q1 q2 q3 q4; obtain ⟨q0, q1, q2, q3, q4⟩ := cells5 (hG3.heap HQ.out))) | (go_at_call 29; ((with_reducible refine (HSW.out _ (hE1.trans hG3)).mono ?_); rintro e w4 ⟨⟨v4, rfl⟩, hb4⟩; have hG4 := hG3.trans hb4; clear q0 q1 q2 q3 q4; obtain ⟨q0, q1, q2, q3, q4⟩ := cells5 (hG4.heap HQ.out))) | (go_at_call 22; ((with_reducible refine (HFA.out _ (hE1.trans hG4)).mono ?_); rintro e w5 ⟨rfl, hb5⟩; have hG5 := hG4.trans hb5; clear q0 q1 q2 q3 q4; obtain ⟨q0, q1, q2, q3, q4⟩ := cells5 (hG5.heap HQ.out))) | (go_at_call 21; ((with_reducible refine (awake_c _).mono ?_); rintro e w6 ⟨rfl, hb6⟩; have hG6 := hG5.trans hb6)))
      go_ret
      exact ⟨rfl, hE1.trans hG6⟩

end Go.Proofs.Ytcecmphdmpeibaa
