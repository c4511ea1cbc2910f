import Derived.Test.YtcecmphdmpeibaaL34
set_option linter.unusedSimpArgs false
set_option linter.unusedVariables false
namespace Go.Proofs.Ytcecmphdmpeibaa
open Go.RowKit

set_option maxRecDepth 100000 in
set_option maxHeartbeats 4000000 in
theorem weedAnswer_c (f : M.Fl) (A : Option Addr) (n c : Nat) (a : Int) (a0 : 0 ≤ a) (a1 : a < 256) (w : World) (hs : n ≤ 7 → Sl tcs 5 w w.heap.size A n c f.ts) :
    Calls Try.prog 13 #[.agg #[.int .i64 f.rows, .int .i64 f.wds, .int .i64 f.lf.lo, .int .i64 f.lf.hi, .slice A n c], .int .u8 a] w fun e w' => e = .returned (.bool true) ∧ Ev w w' := by
  have hrd := fun W (hE : Ev w W) => ready_c f A n c W (fun h => (hs h).ev hE)
  cases hready : M.rdy f n with
  | false =>
    rw [hready] at hrd
    have HRD := hid hrd
    clear hrd hready hs
    go_enter Try.func13, Try.ntmps13
    go_wp2_with (first | (go_at_call 52; ((with_reducible refine (HRD.out _ (Ev.alloc (Ev.refl _) _)).mono ?_); rintro e w1 ⟨rfl, hb1⟩; have HQ := hid (hb1.heap (alloc1 w (.cells #[.int .i64 f.rows, .int .i64 f.wds, .int .i64 f.lf.lo, .int .i64 f.lf.hi, .slice A n c] 26)).1); obtain ⟨q0, q1, q2, q3, q4⟩ := cells5 HQ.out; have hE1 : Ev w w1 := Ev.trans (Ev.alloc (Ev.refl _) _) hb1; have hG1 := Ev.refl w1)) | (go_at_call 21; ((with_reducible refine (awake_c _).mono ?_); rintro e w2 ⟨rfl, hb2⟩; have hG2 := hG1.trans hb2)))
    go_ret
    exact ⟨rfl, hE1.trans hG2⟩
  | true =>
    rw [hready] at hrd
    unfold M.rdy at hready
    simp only [Bool.and_eq_true, decide_eq_true_eq] at hready
    obtain ⟨⟨h7, _⟩, h0⟩ := hready
    replace hs := hs h7
    obtain ⟨r1, r7, d1, d3, _, n5'⟩ := M.check_bd h0
    have s6 : IntKind.i64.wrap ((n : Int) + f.wds) = (n : Int) + f.wds := IntWalk.i64_in _ (by omega)
    by_cases h5 : (n : Int) + f.wds > 5
    · have h5' : (5 : Int) < (n : Int) + f.wds := h5
      have HRD := hid hrd
      clear hrd h0 hs
      go_enter Try.func13, Try.ntmps13
      go_wp2_with (first | (go_at_call 52; ((with_reducible refine (HRD.out _ (Ev.alloc (Ev.refl _) _)).mono ?_); rintro e w1 ⟨rfl, hb1⟩; have HQ := hid (hb1.heap (alloc1 w (.cells #[.int .i64 f.rows, .int .i64 f.wds, .int .i64 f.lf.lo, .int .i64 f.lf.hi, .slice A n c] 26)).1); obtain ⟨q0, q1, q2, q3, q4⟩ := cells5 HQ.out; have hE1 : Ev w w1 := Ev.trans (Ev.alloc (Ev.refl _) _) hb1; have hG1 := Ev.refl w1)) | (go_at_call 21; ((with_reducible refine (awake_c _).mono ?_); rintro e w2 ⟨rfl, hb2⟩; have hG2 := hG1.trans hb2)))
      go_ret
      exact ⟨rfl, hE1.trans hG2⟩
    · have h5' : ¬ (5 : Int) < (n : Int) + f.wds := h5
      have hsl := hs.len
      have hn5 : (f.ts.length : Int) + f.wds ≤ 5 := by omega
      have hfd := fun W (hE : Ev w W) => Field_c f A n c (by omega) W (hs.ev hE)
      have s1 : IntKind.i64.wrap a = a := IntWalk.i64_in _ (by omega)
      obtain ⟨k, hk⟩ : ∃ k, a % f.wds = k := ⟨_, rfl⟩
      have hk0 : 0 ≤ k := by rw [← hk]; exact Int.emod_nonneg _ (by omega)
      have hk1 : k < f.wds := by rw [← hk]; exact Int.emod_lt_of_pos _ (by omega)
      have hk2 : a.tmod f.wds = k := by rw [Int.tmod_eq_emod_of_nonneg a0]; exact hk
      have s3 : IntKind.i64.wrap k = k := IntWalk.i64_in _ (by omega)
      have z2 : (f.wds == 0) = false := by simp; omega
      have z3 : ¬ (f.wds = 0) := by omega
      have hwd : M.hasWd f k = true := by
        unfold M.hasWd
        simp only [Bool.and_eq_true, decide_eq_true_eq]
        omega
      have has := fun B d W (h : Sl tcs 5 W W.heap.size B n d f.ts) => Ask_c f k B n d W h
      have hnx := fun B d W (h : Sl tcs 5 W W.heap.size B n d f.ts) => Next_c f k B n d W h
      have hbg : M.begin f (M.hasWd f k) = M.sureE f := by rw [M.begin_ref f _ h0, hwd]; rfl
      unfold fv at has hnx
      have HRD := hid hrd
      have HFD := hid hfd
      by_cases hz : M.rtruths f = []
      · have hsE : M.sureE f = 11 := by unfold M.sureE; rw [if_pos h0, if_pos (by rw [hz]; rfl)]
        simp only [hbg, hsE, show ¬ (11 : Int) = 0 from by decide, ↓reduceIte] at has hnx
        have HAS := hid has
        have HNX := hid hnx
        clear hrd hfd has hnx hbg hwd hz hsE hs h0 hn5 hsl
        go_enter Try.func13, Try.ntmps13
        go_wp2_with (first | (go_at_call 52; ((with_reducible refine (HRD.out _ (Ev.alloc (Ev.refl _) _)).mono ?_); rintro e w1 ⟨rfl, hb1⟩; have HQ := hid (hb1.heap (alloc1 w (.cells #[.int .i64 f.rows, .int .i64 f.wds, .int .i64 f.lf.lo, .int .i64 f.lf.hi, .slice A n c] 26)).1); obtain ⟨q0, q1, q2, q3, q4⟩ := cells5 HQ.out; have hE1 : Ev w w1 := Ev.trans (Ev.alloc (Ev.refl _) _) hb1; have hG1 := Ev.refl w1)) | (go_at_call 24; ((with_reducible refine (HFD.out _ hE1).mono ?_); rintro e w2 ⟨⟨B2, d2, rfl, hs2⟩, hb2⟩; have hG2 := hG1.trans hb2; clear q0 q1 q2 q3 q4; obtain ⟨q0, q1, q2, q3, q4⟩ := cells5 (hG2.heap HQ.out); have HS2 := hid hs2; clear hs2)) | (go_at_call 36; ((with_reducible refine (HAS.out _ _ _ HS2.out).mono ?_); rintro e w3 ⟨rfl, hb3⟩; have hG3 := hG2.trans hb3; clear q0 q1 q2 q3 q4; obtain ⟨q0, q1, q2, q3, q4⟩ := cells5 (hG3.heap HQ.out))) | (go_at_call 24; ((with_reducible refine (HFD.out _ (hE1.trans hG3)).mono ?_); rintro e w4 ⟨⟨B4, d4, rfl, hs4⟩, hb4⟩; have hG4 := hG3.trans hb4; clear q0 q1 q2 q3 q4; obtain ⟨q0, q1, q2, q3, q4⟩ := cells5 (hG4.heap HQ.out); have HS4 := hid hs4; clear hs4)) | (go_at_call 41; ((with_reducible refine (HNX.out _ _ _ HS4.out).mono ?_); rintro e w5 ⟨rfl, hb5⟩; have hG5 := hG4.trans hb5; clear q0 q1 q2 q3 q4; obtain ⟨q0, q1, q2, q3, q4⟩ := cells5 (hG5.heap HQ.out))) | (go_at_call 21; ((with_reducible refine (awake_c _).mono ?_); rintro e w6 ⟨rfl, hb6⟩; have hG6 := hG5.trans hb6)))
        go_ret
        exact ⟨rfl, hE1.trans hG6⟩
      · have hsE : M.sureE f = 0 := by unfold M.sureE; rw [if_pos h0, if_neg (by intro e; exact hz (List.eq_nil_of_length_eq_zero e))]
        obtain ⟨g1, g2, g3, g4⟩ := M.answer_spec h0 hz k
        have hbl := M.askBest_len h0 k
        simp only [hbg, hsE, ↓reduceIte] at has hnx
        rw [M.next_same h0, M.rnext_q] at hnx
        generalize hqq : M.q f k (M.rtruths f) = q at g1 g2 g3 g4 hnx
        have HAS := hid has
        generalize M.askBest f k = best at HAS g2 g3 hbl
        clear has
        rcases g4 with ⟨g5, g6⟩ | ⟨row, g5, g6, g7, g8, g9⟩
        · rw [g6, g5] at hnx
          have hb0 : best.length = 0 := g3.1 g5
          obtain rfl : best = [] := List.eq_nil_of_length_eq_zero hb0
          subst g5
          have HNX := hid hnx
          clear hrd hfd hnx hbg hwd hz hsE hs h0 hn5 hsl hqq g6 g3 g2 hb0
          go_enter Try.func13, Try.ntmps13
          go_wp2_with (first | (go_at_call 52; ((with_reducible refine (HRD.out _ (Ev.alloc (Ev.refl _) _)).mono ?_); rintro e w1 ⟨rfl, hb1⟩; have HQ := hid (hb1.heap (alloc1 w (.cells #[.int .i64 f.rows, .int .i64 f.wds, .int .i64 f.lf.lo, .int .i64 f.lf.hi, .slice A n c] 26)).1); obtain ⟨q0, q1, q2, q3, q4⟩ := cells5 HQ.out; have hE1 : Ev w w1 := Ev.trans (Ev.alloc (Ev.refl _) _) hb1; have hG1 := Ev.refl w1)) | (go_at_call 24; ((with_reducible refine (HFD.out _ hE1).mono ?_); rintro e w2 ⟨⟨B2, d2, rfl, hs2⟩, hb2⟩; have hG2 := hG1.trans hb2; clear q0 q1 q2 q3 q4; obtain ⟨q0, q1, q2, q3, q4⟩ := cells5 (hG2.heap HQ.out); have HS2 := hid hs2; clear hs2)) | (go_at_call 36; ((with_reducible refine (HAS.out _ _ _ HS2.out).mono ?_); rintro e w3 ⟨⟨B3, d3', rfl, hs3⟩, hb3⟩; have hG3 := hG2.trans hb3; clear q0 q1 q2 q3 q4; obtain ⟨q0, q1, q2, q3, q4⟩ := cells5 (hG3.heap HQ.out); have HS3 := hid hs3; clear hs3)) | (go_at_call 24; ((with_reducible refine (HFD.out _ (hE1.trans hG3)).mono ?_); rintro e w4 ⟨⟨B4, d4, rfl, hs4⟩, hb4⟩; have hG4 := hG3.trans hb4; clear q0 q1 q2 q3 q4; obtain ⟨q0, q1, q2, q3, q4⟩ := cells5 (hG4.heap HQ.out); have HS4 := hid hs4; clear hs4)) | (go_at_call 41; ((with_reducible refine (HNX.out _ _ _ HS4.out).mono ?_); rintro e w5 ⟨rfl, hb5⟩; have hG5 := hG4.trans hb5; clear q0 q1 q2 q3 q4; obtain ⟨q0, q1, q2, q3, q4⟩ := cells5 (hG5.heap HQ.out))) | (go_at_call 21; ((with_reducible refine (awake_c _).mono ?_); rintro e w6 ⟨rfl, hb6⟩; have hG6 := hG5.trans hb6)))
          go_ret
          exact ⟨rfl, hE1.trans hG6⟩
        · rw [g5] at hnx
          obtain ⟨D, hD⟩ := Int.eq_ofNat_of_zero_le (show 0 ≤ f.wds by omega)
          have hDn : f.wds.toNat = D := by omega
          have hb0 : ¬ ((best.length : Int) = 0) := by omega
          have hb0b : (((best.length : Nat) : Int) == 0) = false := by simpa using hb0
          have hq0 : ¬ (q = 0) := by omega
          have hq0b : (q == 0) = false := by simpa using hq0
          have hql : ¬ q < 0 := by omega
          have hqb : ¬ q > (best.length : Int) := by omega
          have hqb2 : ¬ (best.length : Int) < q := by omega
          have s7 : IntKind.i64.wrap (f.rows - 1) = f.rows - 1 := IntWalk.i64_in _ (by omega)
          have s8 : IntKind.i64.wrap (q - 1) = q - 1 := IntWalk.i64_in _ (by omega)
          have hin := fun W => In_s (row : Int) 0 (f.rows - 1) W
          rw [show M.isIn (row : Int) 0 (f.rows - 1) = true by unfold M.isIn; simp only [Bool.and_eq_true, decide_eq_true_eq]; omega] at hin
          have hna := fun (who : Int) (hw : -1 ≤ who ∧ who < f.wds) => M.next_ans h0 g6 hw hn5 hwd
          have hq8 : q ≤ 8 := by omega
          have HNA := hid hna
          have HNX := hid hnx
          have HIN := hid hin
          have HHS := hid hs
          have HD := hid hD
          have HDN := hid hDn
          have G8 := hid g8
          have G9 := hid g9
          have HQ0 := hid (fun (l : List (List Int)) => (M.q_bd r1 k _ l (Nat.le_refl _)).1)
          have HKN := hid (show ∀ l : List (List Int), l.length = 0 → M.q f k l = 0 from fun l hl => by obtain rfl : l = [] := List.eq_nil_of_length_eq_zero hl; rw [M.q_eq, M.known_nil]; rfl)
          have HKL := hid (M.ansK_len)
          clear hrd hfd hnx hbg hwd hz hsE hs h0 hqq g3 hin hna hD hDn g8 g9 g5
          go_enter Try.func13, Try.ntmps13
          go_wp2_with (first | (go_at_call 52; ((with_reducible refine (HRD.out _ (Ev.alloc (Ev.refl _) _)).mono ?_); rintro e w1 ⟨rfl, hb1⟩; have HQ := hid (hb1.heap (alloc1 w (.cells #[.int .i64 f.rows, .int .i64 f.wds, .int .i64 f.lf.lo, .int .i64 f.lf.hi, .slice A n c] 26)).1); obtain ⟨q0, q1, q2, q3, q4⟩ := cells5 HQ.out; have hE1 : Ev w w1 := Ev.trans (Ev.alloc (Ev.refl _) _) hb1; have hG1 := Ev.refl w1)) | (go_at_call 24; ((with_reducible refine (HFD.out _ hE1).mono ?_); rintro e w2 ⟨⟨B2, d2, rfl, hs2⟩, hb2⟩; have hG2 := hG1.trans hb2; clear q0 q1 q2 q3 q4; obtain ⟨q0, q1, q2, q3, q4⟩ := cells5 (hG2.heap HQ.out); have HS2 := hid hs2; clear hs2)) | (go_at_call 36; ((with_reducible refine (HAS.out _ _ _ HS2.out).mono ?_); rintro e w3 ⟨⟨B3, d3', rfl, hs3⟩, hb3⟩; have hG3 := hG2.trans hb3; clear q0 q1 q2 q3 q4; obtain ⟨q0, q1, q2, q3, q4⟩ := cells5 (hG3.heap HQ.out); have HS3 := hid hs3; clear hs3)) | (go_at_call 24; ((with_reducible refine (HFD.out _ (hE1.trans hG3)).mono ?_); rintro e w4 ⟨⟨B4, d4, rfl, hs4⟩, hb4⟩; have hG4 := hG3.trans hb4; clear q0 q1 q2 q3 q4; obtain ⟨q0, q1, q2, q3, q4⟩ := cells5 (hG4.heap HQ.out); have HS4 := hid hs4; clear hs4)) | (go_at_call 41; ((with_reducible refine (HNX.out _ _ _ HS4.out).mono ?_); rintro e w5 ⟨rfl, hb5⟩; have hG5 := hG4.trans hb5; clear q0 q1 q2 q3 q4; obtain ⟨q0, q1, q2, q3, q4⟩ := cells5 (hG5.heap HQ.out))) | (go_at_call 33; ((with_reducible refine (HIN.out _).mono ?_); rintro e w9 ⟨rfl, rfl⟩)))
          have hE5 := hE1.trans hG5
          have HQ5 := hid (hG5.heap HQ.out)
          go_loopw [11, 12] (fun vm vi wr => ∃ j : Nat, ∃ y : Int, vm = .int .i64 y ∧ vi = .int .i64 ((j : Int) - 1) ∧ j ≤ D + 1 ∧ 0 ≤ y ∧ y ≤ 100 ∧ Ev w wr ∧ Hid (wr.heap[w.heap.size]? = some (.cells #[.int .i64 f.rows, .int .i64 f.wds, .int .i64 f.lf.lo, .int .i64 f.lf.hi, .slice A n c] 26 (0, 0))) ∧ Hid (M.maxes (fun s => M.q f k (M.agreeing (M.rtruths f) row s)) ((M.saids f).drop j) y = q - 1)) (fun _ vi _ => D + 1 - (intOf vi + 1).toNat)
          case atStart => exact ⟨0, 0, rfl, rfl, by omega, by omega, by omega, hE5, HQ5, G8⟩
          case round =>
            obtain ⟨j, y, rfl, rfl, hj, hy0, hy1, hB, hQ, hM⟩ := hrel
            clear q0 q1 q2 q3 q4
            obtain ⟨q0, q1, q2, q3, q4⟩ := cells5 hQ.out
            have hlq := heap_lt hQ.out
            by_cases hlt : j < D + 1
            · have hltI : (j : Int) - 1 < f.wds := by have := HD.out; omega
              have hw : -1 ≤ (j : Int) - 1 ∧ (j : Int) - 1 < f.wds := by omega
              have hm2 : M.maxes (fun s => M.q f k (M.agreeing (M.rtruths f) row s)) ((M.saids f).drop (j + 1)) (max y (M.q f k (M.agreeing (M.rtruths f) row ((j : Int) - 1)))) = q - 1 := by
                have := hM.out
                rw [saids_drop HD.out hlt] at this
                exact this
              have hsm : (j : Int) - 1 ∈ M.saids f := by
                have := saids_drop (f := f) HD.out hlt
                exact List.mem_of_mem_drop (by rw [this]; exact List.mem_cons_self ..)
              have hqlt := G9.out _ hsm
              obtain ⟨n1, n2⟩ := HNA.out _ hw
              have hkl := HKL.out ((j : Int) - 1) (row : Int) f.wds.toNat 0
              have han := fun W (hE : Ev w W) => answered_c f A n c (by omega) (row : Int) ((j : Int) - 1) f.wds.toNat (by omega) (by omega) W (HHS.out.ev hE)
              have hfa : ∀ B d W (h : Sl tcs 5 W W.heap.size B (f.ts ++ M.ansK ((j : Int) - 1) (row : Int) 0 f.wds.toNat).length d (f.ts ++ M.ansK ((j : Int) - 1) (row : Int) 0 f.wds.toNat)), Calls Try.prog 24 #[.agg #[.int .i64 f.rows, .int .i64 f.wds, .int .i64 f.lf.lo, .int .i64 f.lf.hi, .slice B (f.ts ++ M.ansK ((j : Int) - 1) (row : Int) 0 f.wds.toNat).length d]] W fun e w' => (∃ B' d', e = .returned (.agg #[.int .i64 f.rows, .int .i64 f.wds, .int .i64 f.lf.lo, .int .i64 f.lf.hi, .slice B' (f.ts ++ M.ansK ((j : Int) - 1) (row : Int) 0 f.wds.toNat).length d']) ∧ Sl tcs 5 w' w'.heap.size B' (f.ts ++ M.ansK ((j : Int) - 1) (row : Int) 0 f.wds.toNat).length d' (f.ts ++ M.ansK ((j : Int) - 1) (row : Int) 0 f.wds.toNat)) ∧ Ev W w' := fun B d W h => Field_c (M.ansF f (row : Int) ((j : Int) - 1)) B _ d (by rw [List.length_append]; omega) W h
              have hnb : ∀ B d W (h : Sl tcs 5 W W.heap.size B (f.ts ++ M.ansK ((j : Int) - 1) (row : Int) 0 f.wds.toNat).length d (f.ts ++ M.ansK ((j : Int) - 1) (row : Int) 0 f.wds.toNat)), Calls Try.prog 41 #[.agg #[.int .i64 f.rows, .int .i64 f.wds, .int .i64 f.lf.lo, .int .i64 f.lf.hi, .slice B (f.ts ++ M.ansK ((j : Int) - 1) (row : Int) 0 f.wds.toNat).length d], .int .i64 k] W fun e w' => (if M.begin (M.ansF f (row : Int) ((j : Int) - 1)) (M.hasWd (M.ansF f (row : Int) ((j : Int) - 1)) k) = 0 then e = .returned (.tuple #[.int .i64 (M.Next (M.ansF f (row : Int) ((j : Int) - 1)) k).1, .int .i64 (M.Next (M.ansF f (row : Int) ((j : Int) - 1)) k).2, .int .i64 0]) else e = .returned (.tuple #[.int .i64 0, .int .i64 0, .int .i64 (M.begin (M.ansF f (row : Int) ((j : Int) - 1)) (M.hasWd (M.ansF f (row : Int) ((j : Int) - 1)) k))])) ∧ Ev W w' := fun B d W h => Next_c (M.ansF f (row : Int) ((j : Int) - 1)) k B _ d W h
              rw [n2, n1] at hnb
              generalize (M.Next (M.ansF f (row : Int) ((j : Int) - 1)) k).1 = nr at hnb
              generalize f.ts ++ M.ansK ((j : Int) - 1) (row : Int) 0 f.wds.toNat = ts1 at han hfa hnb
              generalize ts1.length = m1 at han hfa hnb
              have hp0 := HQ0.out (M.agreeing (M.rtruths f) row ((j : Int) - 1))
              have hkn := HKN.out (M.agreeing (M.rtruths f) row ((j : Int) - 1))
              generalize M.agreeing (M.rtruths f) row ((j : Int) - 1) = part at hnb hm2 hqlt hp0 hkn
              generalize M.q f k part = qp at hnb hm2 hqlt hp0 hkn
              have HAN := hid han
              have HFA := hid hfa
              clear n1 n2 han hfa hsm hkl hw
              by_cases hpz : part.length = 0
              · obtain rfl := hkn hpz
                rw [show max y 0 = y by omega] at hm2
                simp only [hpz, ↓reduceIte, show ¬ (11 : Int) = 0 from by decide] at hnb
                clear HNA
                have HNA := hid hnb
                have HM2 := hid hm2
                clear hnb hm2 hkn hpz
                go_wp2_with (first | (go_at_call 60; ((with_reducible refine (HAN.out _ hB).mono ?_); rintro e w6 ⟨⟨B6, d6, rfl, hs6⟩, hb6⟩; have HS6 := hid hs6; clear hs6; clear q0 q1 q2 q3 q4; obtain ⟨q0, q1, q2, q3, q4⟩ := cells5 ((hb6).heap hQ.out))) | (go_at_call 24; ((with_reducible refine (HFA.out _ _ _ HS6.out).mono ?_); rintro e w7 ⟨⟨B7, d7, rfl, hs7⟩, hb7⟩; have HS7 := hid hs7; clear hs7; clear q0 q1 q2 q3 q4; obtain ⟨q0, q1, q2, q3, q4⟩ := cells5 ((hb6.trans hb7).heap hQ.out))) | (go_at_call 41; ((with_reducible refine (HNA.out _ _ _ HS7.out).mono ?_); rintro e w8 ⟨rfl, hb8⟩; clear q0 q1 q2 q3 q4; obtain ⟨q0, q1, q2, q3, q4⟩ := cells5 (((hb6.trans hb7).trans hb8).heap hQ.out))))
                exact ⟨⟨j + 1, y, rfl, by go_num, by omega, hy0, hy1, hB.trans ((hb6.trans hb7).trans hb8), hid (((hb6.trans hb7).trans hb8).heap hQ.out), HM2⟩, by simp [intOf]; omega⟩
              · simp only [hpz, ↓reduceIte] at hnb
                have hng : ¬ qp ≥ q := by omega
                have hng2 : ¬ q ≤ qp := by omega
                clear HNA
                have HNA := hid hnb
                have HM2 := hid hm2
                clear hnb hm2 hkn hpz
                go_wp2_with (first | (go_at_call 60; ((with_reducible refine (HAN.out _ hB).mono ?_); rintro e w6 ⟨⟨B6, d6, rfl, hs6⟩, hb6⟩; have HS6 := hid hs6; clear hs6; clear q0 q1 q2 q3 q4; obtain ⟨q0, q1, q2, q3, q4⟩ := cells5 ((hb6).heap hQ.out))) | (go_at_call 24; ((with_reducible refine (HFA.out _ _ _ HS6.out).mono ?_); rintro e w7 ⟨⟨B7, d7, rfl, hs7⟩, hb7⟩; have HS7 := hid hs7; clear hs7; clear q0 q1 q2 q3 q4; obtain ⟨q0, q1, q2, q3, q4⟩ := cells5 ((hb6.trans hb7).heap hQ.out))) | (go_at_call 41; ((with_reducible refine (HNA.out _ _ _ HS7.out).mono ?_); rintro e w8 ⟨rfl, hb8⟩; clear q0 q1 q2 q3 q4; obtain ⟨q0, q1, q2, q3, q4⟩ := cells5 (((hb6.trans hb7).trans hb8).heap hQ.out))))
                exact ⟨⟨j + 1, max y qp, by (congr 1; split <;> omega), by go_num, by omega, by omega, by omega, hB.trans ((hb6.trans hb7).trans hb8), hid (((hb6.trans hb7).trans hb8).heap hQ.out), HM2⟩, by simp [intOf]; omega⟩
            · obtain rfl : j = D + 1 := by omega
              have hltI : ¬ (((D + 1 : Nat) : Int) - 1 < f.wds) := by have := HD.out; omega
              have hm2 := hM.out
              rw [saids_end HD.out] at hm2
              simp only [M.maxes] at hm2
              have hyb : (y == q - 1) = true := by simpa using hm2
              clear hm2
              go_wp2_with (first | (go_at_call 21; ((with_reducible refine (awake_c _).mono ?_); rintro e w15 ⟨rfl, hb15⟩)))
              go_ret
              exact ⟨rfl, hB.trans hb15⟩

end Go.Proofs.Ytcecmphdmpeibaa
