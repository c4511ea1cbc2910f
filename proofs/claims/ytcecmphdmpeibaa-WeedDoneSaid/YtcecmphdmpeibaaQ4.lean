import Derived.Test.YtcecmphdmpeibaaL13
namespace Go.Proofs.Ytcecmphdmpeibaa
open Go.RowKit

set_option maxRecDepth 100000 in
set_option maxHeartbeats 2000000 in
theorem weedDone_c (f : M.Fl) (A : Option Addr) (n c : Nat) (w : World) (hs : n ≤ 7 → Sl tcs 5 w w.heap.size A n c f.ts) :
    Calls Try.prog 4 #[.agg #[.int .i64 f.rows, .int .i64 f.wds, .int .i64 f.lf.lo, .int .i64 f.lf.hi, .slice A n c]] w fun e w' => e = .returned (.bool true) ∧ Ev w w' := by
  have hth := fun W (hE : Ev w W) => Thin_any f A n c W (fun h => (hs h).ev hE)
  cases ht : (decide (n ≤ 7) && M.thin f) with
  | false =>
    rw [ht] at hth
    have HTH := hid hth
    clear hth ht hs
    go_enter Try.func4, Try.ntmps4
    go_wp2_with (first | (go_at_call 20; ((with_reducible refine (HTH.out _ (Ev.alloc (Ev.refl _) _)).mono ?_); rintro e w1 ⟨rfl, hb1⟩)) | (go_at_call 21; ((with_reducible refine (awake_c _).mono ?_); rintro e w2 ⟨rfl, hb2⟩)))
    go_ret
    exact ⟨rfl, Ev.trans (Ev.trans (Ev.alloc (Ev.refl _) _) hb1) hb2⟩
  | true =>
    rw [ht] at hth
    simp only [Bool.and_eq_true, decide_eq_true_eq] at ht
    obtain ⟨h7, _⟩ := ht
    replace hs := hs h7
    have hfd := fun W (hE : Ev w W) => Field_c f A n c (by omega) W (hs.ev hE)
    have hdn := fun B d W (h : Sl tcs 5 W W.heap.size B n d f.ts) => Done_c f B n d W h
    have hsu := fun W (hE : Ev w W) => sure_c f A n c W (hs.ev hE)
    unfold fv at hdn
    have HTH := hid hth
    have HFD := hid hfd
    by_cases hb : M.begin f true = 0
    · have hse : M.sureE f = 0 := by rw [M.sure_begin]; exact hb
      simp only [hse, ↓reduceIte] at hsu
      simp only [hb, ↓reduceIte] at hdn
      obtain ⟨r1, r7, d1, d3, _, _⟩ := M.check_bd (M.begin_check hb)
      obtain ⟨D, hD⟩ := Int.eq_ofNat_of_zero_le (show 0 ≤ f.wds by omega)
      have hdl : (M.done f).length = D := by rw [M.done_len]; omega
      rw [hdl] at hdn
      have hne : ((D : Int) != f.wds) = false := by simp [hD]
      have HDN := hid hdn
      have HSU := hid hsu
      have HD := hid hD
      have HB := hid hb
      have HPOS := hid (M.rt_pos (M.begin_check hb))
      clear hth hfd hdn hsu hse hb hD hdl hs
      go_enter Try.func4, Try.ntmps4
      go_wp2_with (first | (go_at_call 20; ((with_reducible refine (HTH.out _ (Ev.alloc (Ev.refl _) _)).mono ?_); rintro e w1 ⟨rfl, hb1⟩; have HQ := hid (hb1.heap (alloc1 w (.cells #[.int .i64 f.rows, .int .i64 f.wds, .int .i64 f.lf.lo, .int .i64 f.lf.hi, .slice A n c] 26)).1); obtain ⟨q0, q1, q2, q3, q4⟩ := cells5 HQ.out; have hE1 : Ev w w1 := Ev.trans (Ev.alloc (Ev.refl _) _) hb1)) | (go_at_call 24; ((with_reducible refine (HFD.out _ hE1).mono ?_); rintro e w2 ⟨⟨B2, d2, rfl, hs2⟩, hb2⟩; have HS2 := hid hs2; clear hs2 q0 q1 q2 q3 q4)) | (go_at_call 28; ((with_reducible refine (HDN.out _ _ _ HS2.out).mono ?_); rintro e w3 ⟨⟨B3, d3', rfl, hs3⟩, hb3⟩; have HS3 := hid hs3; clear hs3; obtain ⟨q0, q1, q2, q3, q4⟩ := cells5 ((hb2.trans hb3).heap HQ.out))) | (go_at_call 29; ((with_reducible refine (HSU.out _ ((hE1.trans hb2).trans hb3)).mono ?_); rintro e w4 ⟨⟨B4, d4, rfl, hl4⟩, hb4⟩; have HL4 := hid hl4; clear hl4 q0 q1 q2 q3 q4; obtain ⟨q0, q1, q2, q3, q4⟩ := cells5 (((hb2.trans hb3).trans hb4).heap HQ.out))))
      have hEw : Ev w w4 := ((hE1.trans hb2).trans hb3).trans hb4
      have hs4 := HS3.out.ev hb4
      have HS4 := hid hs4
      have hDs := hs4.small
      clear hs4 HS3 q0 q1 q2 q3 q4 HQ
      go_loopw [7] (fun i wr => ∃ k : Nat, i = .int .i64 k ∧ k ≤ D ∧ Ev w4 wr) (fun i _ => D - (intOf i).toNat)
      case atStart => exact ⟨0, rfl, by omega, Ev.refl _⟩
      case round =>
        obtain ⟨k, rfl, hk, hB⟩ := hrel
        by_cases hlt : k < D
        · obtain ⟨b, off, r, rfl, hbl, hx, _, hcc⟩ := HS4.out.at_ hB hlt
          rw [M.done_at HB.out HD.out hlt] at hx
          obtain rfl : M.rdone k (M.rtruths f) = r := by simpa using hx
          have e0 := hcc 0 _ rfl
          have e1 := hcc 1 _ rfl
          simp only [Nat.add_zero] at e0
          have hbr : b < wr.heap.size := by have := hB.size; omega
          have hrd := fun W (hE : Ev wr W) => rDone_c (k : Int) B4 (M.rtruths f).length d4 (M.rtruths f) HPOS.out W ((HL4.out.ev hB).ev hE)
          have HRD := hid hrd
          have HSE : Hid (∀ w', Ev wr w' → Ev wr w' ∧ (∀ o, w'.cell? ⟨b, o, none⟩ = wr.cell? ⟨b, o, none⟩)) := hid (fun w' h => ⟨h, fun o => h.cells.1 _ o hbr⟩)
          clear hcc hx hrd
          generalize M.rdone k (M.rtruths f) = rr at e0 e1 HRD
          go_wp2_with (go_region_held3 (fun w' => Ev wr w' ∧ (∀ o, w'.cell? ⟨b, o, none⟩ = wr.cell? ⟨b, o, none⟩)) (exact HSE.out _ (by repeat (first | with_reducible exact Ev.refl wr | (with_reducible assumption) | with_reducible refine Ev.drew ?_ | with_reducible refine Ev.alloc ?_ _))) (first | (go_at_call 31; ((with_reducible refine (HRD.out _ (by first | exact Ev.refl _ | exact Ev.drew (Ev.refl _))).mono ?_); rintro e w5 ⟨rfl, hb5⟩; have hc5 : Ev wr w5 := (by first | exact hb5 | exact Ev.trans (Ev.drew (Ev.refl _)) hb5))) | (go_at_call 30; ((with_reducible refine (to_c rr _).mono ?_); rintro e w6 ⟨rfl, hb6⟩; have hc6 : Ev wr w6 := hc5.trans hb6))))
          exact ⟨⟨k + 1, by go_num, by omega, hB.trans hc6⟩, by simp [intOf]; omega⟩
        · have hkD : k = D := by omega
          subst hkD
          go_wp2_with (first | (go_at_call 21; ((with_reducible refine (awake_c _).mono ?_); rintro e w5 ⟨rfl, hb5⟩)))
          go_ret
          exact ⟨rfl, (hEw.trans hB).trans hb5⟩
    · have hse : M.sureE f = M.begin f true := M.sure_begin f
      rw [hse] at hsu
      simp only [hb, ↓reduceIte] at hsu hdn
      generalize M.begin f true = k at hb hsu hdn
      have hne : (k != 0) = true := by simpa using hb
      have HDN := hid hdn
      have HSU := hid hsu
      clear hth hfd hdn hsu hse hb hs
      go_enter Try.func4, Try.ntmps4
      go_wp2_with (first | (go_at_call 20; ((with_reducible refine (HTH.out _ (Ev.alloc (Ev.refl _) _)).mono ?_); rintro e w1 ⟨rfl, hb1⟩; have HQ := hid (hb1.heap (alloc1 w (.cells #[.int .i64 f.rows, .int .i64 f.wds, .int .i64 f.lf.lo, .int .i64 f.lf.hi, .slice A n c] 26)).1); obtain ⟨q0, q1, q2, q3, q4⟩ := cells5 HQ.out; have hE1 : Ev w w1 := Ev.trans (Ev.alloc (Ev.refl _) _) hb1)) | (go_at_call 24; ((with_reducible refine (HFD.out _ hE1).mono ?_); rintro e w2 ⟨⟨B2, d2, rfl, hs2⟩, hb2⟩; have HS2 := hid hs2; clear hs2 q0 q1 q2 q3 q4)) | (go_at_call 28; ((with_reducible refine (HDN.out _ _ _ HS2.out).mono ?_); rintro e w3 ⟨rfl, hb3⟩; obtain ⟨q0, q1, q2, q3, q4⟩ := cells5 ((hb2.trans hb3).heap HQ.out))) | (go_at_call 29; ((with_reducible refine (HSU.out _ ((hE1.trans hb2).trans hb3)).mono ?_); rintro e w4 ⟨rfl, hb4⟩; clear q0 q1 q2 q3 q4; obtain ⟨q0, q1, q2, q3, q4⟩ := cells5 (((hb2.trans hb3).trans hb4).heap HQ.out))) | (go_at_call 21; ((with_reducible refine (awake_c _).mono ?_); rintro e w5 ⟨rfl, hb5⟩)))
      go_ret
      exact ⟨rfl, (((hE1.trans hb2).trans hb3).trans hb4).trans hb5⟩

end Go.Proofs.Ytcecmphdmpeibaa
