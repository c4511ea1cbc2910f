import Derived.Test.YtcecmphdmpeibaaL24
import Derived.Test.YtcecmphdmpeibaaQ5
namespace Go.Proofs.Ytcecmphdmpeibaa
open Go.RowKit

set_option maxRecDepth 100000 in
set_option maxHeartbeats 2000000 in
theorem weedAsks_c (f : M.Fl) (A : Option Addr) (n c : Nat) (x : Int) (B : Option Addr) (m d : Nat) (l : List Int) (w : World) (hs : n ≤ 7 → Sl tcs 5 w w.heap.size A n c f.ts) (ht : m ≤ 9 → Sl ics 1 w w.heap.size B m d l) (hnil : B = none → d = 0) :
    Calls Try.prog 6 #[.agg #[.int .i64 f.rows, .int .i64 f.wds, .int .i64 f.lf.lo, .int .i64 f.lf.hi, .slice A n c], .int .i64 x, .slice B m d] w fun e w' => e = .returned (.bool true) ∧ Ev w w' := by
  have hth := fun W (hE : Ev w W) => Thin_any f A n c W (fun h => (hs h).ev hE)
  cases hthin : (decide (n ≤ 7) && M.thin f) with
  | false =>
    rw [hthin] at hth
    have HTH := hid hth
    clear hth hthin hs ht
    go_enter Try.func6, Try.ntmps6
    go_wp2_with (first | (go_at_call 20; ((with_reducible refine (HTH.out _ (Ev.alloc (Ev.refl _) _)).mono ?_); rintro e w1 ⟨rfl, hb1⟩; have HQ := hid (hb1.heap (alloc1 w (.cells #[.int .i64 f.rows, .int .i64 f.wds, .int .i64 f.lf.lo, .int .i64 f.lf.hi, .slice A n c] 26)).1); obtain ⟨q0, q1, q2, q3, q4⟩ := cells5 HQ.out; have hE1 : Ev w w1 := Ev.trans (Ev.alloc (Ev.refl _) _) hb1; have hG1 := Ev.refl w1)) | (go_at_call 21; ((with_reducible refine (awake_c _).mono ?_); rintro e w2 ⟨rfl, hb2⟩; have hG2 := hG1.trans hb2)))
    go_ret
    exact ⟨rfl, hE1.trans hG2⟩
  | true =>
    rw [hthin] at hth
    simp only [Bool.and_eq_true, decide_eq_true_eq] at hthin
    obtain ⟨h7, _⟩ := hthin
    replace hs := hs h7
    have HTH := hid hth
    by_cases h9 : m ≤ 9
    · replace ht := ht h9
      have hfd := fun W (hE : Ev w W) => Field_c f A n c (by omega) W (hs.ev hE)
      have hls := fun W (hE : Ev w W) => list_c B m d l (by omega) hnil W (ht.ev hE)
      have has := fun B d W (h : Sl tcs 5 W W.heap.size B n d f.ts) => Ask_c f x B n d W h
      have hpa := fun B2 d2 B3 d3 W (h : Sl tcs 5 W W.heap.size B2 n d2 f.ts) (h2 : Sl ics 1 W W.heap.size B3 m d3 l) => ProveAsk_c f x l B3 m d3 B2 n d2 W h h2
      have hfa := fun W (hE : Ev w W) => fault_c f A n c W (hs.ev hE)
      have hsw := fun W (hE : Ev w W) => sure_w f A n c W (hs.ev hE)
      have hsu := fun W (hE : Ev w W) => sure_c f A n c W (hs.ev hE)
      have hin := fun W => In_s x 0 (f.wds - 1) W
      rw [M.isIn_wd] at hin
      unfold fv at has hpa
      have HFD := hid hfd
      have HLS := hid hls
      have hm9 : ¬ (9 : Int) < m := by omega
      by_cases h0 : M.check f = 0
      · obtain ⟨r1, r7, d1, d3, _, _⟩ := M.check_bd h0
        rw [h0] at hfa
        have HFA := hid hfa
        cases hr : M.hasWd f x with
        | false =>
          have hb : M.begin f (M.hasWd f x) = 2 := by rw [M.begin_ref f _ h0, hr]; rfl
          have hp : M.proveAsk f x l = false := by unfold M.proveAsk; rw [hb]; rfl
          rw [hp] at hpa
          rw [hr] at hb hin
          simp only [hr, hb, show ¬ (2 : Int) = 0 from by decide, ↓reduceIte] at has
          generalize M.sureE f = k at hsw
          have HAS := hid has
          have HPA := hid hpa
          have HSW := hid hsw
          have HIN := hid hin
          clear hth hfd hls has hpa hfa hsw hsu hin hs ht h0 hr hb hp h9 h7
          go_enter Try.func6, Try.ntmps6
          go_wp2_with (first | (go_at_call 20; ((with_reducible refine (HTH.out _ (Ev.alloc (Ev.refl _) _)).mono ?_); rintro e w1 ⟨rfl, hb1⟩; have HQ := hid (hb1.heap (alloc1 w (.cells #[.int .i64 f.rows, .int .i64 f.wds, .int .i64 f.lf.lo, .int .i64 f.lf.hi, .slice A n c] 26)).1); obtain ⟨q0, q1, q2, q3, q4⟩ := cells5 HQ.out; have hE1 : Ev w w1 := Ev.trans (Ev.alloc (Ev.refl _) _) hb1; have hG1 := Ev.refl w1)) | (go_at_call 24; ((with_reducible refine (HFD.out _ hE1).mono ?_); rintro e w2 ⟨⟨B2, d2, rfl, hs2⟩, hb2⟩; have hG2 := hG1.trans hb2; clear q0 q1 q2 q3 q4; obtain ⟨q0, q1, q2, q3, q4⟩ := cells5 (hG2.heap HQ.out); have HS2 := hid hs2; clear hs2)) | (go_at_call 36; ((with_reducible refine (HAS.out _ _ _ HS2.out).mono ?_); rintro e w3 ⟨rfl, hb3⟩; have hG3 := hG2.trans hb3; clear q0 q1 q2 q3 q4; obtain ⟨q0, q1, q2, q3, q4⟩ := cells5 (hG3.heap HQ.out))) | (go_at_call 24; ((with_reducible refine (HFD.out _ (hE1.trans hG3)).mono ?_); rintro e w4 ⟨⟨B4, d4, rfl, hs4⟩, hb4⟩; have hG4 := hG3.trans hb4; clear q0 q1 q2 q3 q4; obtain ⟨q0, q1, q2, q3, q4⟩ := cells5 (hG4.heap HQ.out); have HS4 := hid hs4; clear hs4)) | (go_at_call 26; ((with_reducible refine (HLS.out _ (hE1.trans hG4)).mono ?_); rintro e w5 ⟨⟨B5, d5, rfl, hs5⟩, hb5⟩; have hG5 := hG4.trans hb5; clear q0 q1 q2 q3 q4; obtain ⟨q0, q1, q2, q3, q4⟩ := cells5 (hG5.heap HQ.out); have HS5 := hid hs5; clear hs5)) | (go_at_call 37; ((with_reducible refine (HPA.out _ _ _ _ _ (HS4.out.ev hb5) HS5.out).mono ?_); rintro e w6 ⟨rfl, hb6⟩; have hG6 := hG5.trans hb6; clear q0 q1 q2 q3 q4; obtain ⟨q0, q1, q2, q3, q4⟩ := cells5 (hG6.heap HQ.out))) | (go_at_call 29; ((with_reducible refine (HSW.out _ (hE1.trans hG6)).mono ?_); rintro e w7 ⟨⟨v7, rfl⟩, hb7⟩; have hG7 := hG6.trans hb7; clear q0 q1 q2 q3 q4; obtain ⟨q0, q1, q2, q3, q4⟩ := cells5 (hG7.heap HQ.out))) | (go_at_call 22; ((with_reducible refine (HFA.out _ (hE1.trans hG7)).mono ?_); rintro e w8 ⟨rfl, hb8⟩; have hG8 := hG7.trans hb8; clear q0 q1 q2 q3 q4; obtain ⟨q0, q1, q2, q3, q4⟩ := cells5 (hG8.heap HQ.out))) | (go_at_call 33; ((with_reducible refine (HIN.out _).mono ?_); rintro e w9 ⟨rfl, rfl⟩)) | (go_at_call 21; ((with_reducible refine (awake_c _).mono ?_); rintro e w9 ⟨rfl, hb9⟩; have hG9 := hG8.trans hb9)))
          go_ret
          exact ⟨rfl, hE1.trans hG9⟩
        | true =>
          have hb : M.begin f (M.hasWd f x) = M.sureE f := by rw [M.begin_ref f _ h0, hr]; rfl
          by_cases hq : M.sureE f = 0
          · obtain ⟨hi1, hi2⟩ := M.isRows_same h0 x l
            have hp : M.proveAsk f x l = ((M.rowsK f l none 0).2 && M.rsettles x (M.rowsK f l none 0).1 (M.rtruths f)) := by unfold M.proveAsk; rw [hb, hq, hi1]; rfl
            rw [hp] at hpa
            rw [hr] at hb hin
            have hlen : ∀ t ∈ M.rtruths f, t.length = f.rows.toNat := fun t ht => by have := M.rt_len h0 t ht; omega
            have hir := fun W (hE : Ev w W) => IsRows_c f r1 r7 A n c B m d l W (ht.ev hE)
            have hra := fun B d W (h : LL W B (M.rtruths f).length d (M.rtruths f)) => rAsk_c f r1 r7 x A n c B (M.rtruths f).length d (M.rtruths f) hlen W h
            rw [← M.ask_same h0 x] at hra
            simp only [hr, hb, hq, ↓reduceIte] at has
            simp only [hq, ↓reduceIte] at hsu
            have hsm := fun B2 d2 B3 d3 W h2 h3 => same_c B2 B3 (M.askBest f x).length d2 (M.askBest f x).length d3 (M.askBest f x) (M.askBest f x) W h2 h3
            simp only [decide_true] at hsm
            have hst := fun b (hb : b ≤ 127) B d W (h : LL W B (M.rtruths f).length d (M.rtruths f)) => Settles_c x b f.rows.toNat hb (by omega) (by omega) B (M.rtruths f).length d (M.rtruths f) hlen W h
            generalize hv1 : (M.rowsK f l none 0).1 = b1 at hpa hir hi2
            replace hst := hst b1 hi2
            generalize M.rsettles x b1 (M.rtruths f) = b2 at hpa hst
            generalize M.askBest f x = best at has hra hsm
            have HAS := hid has
            have HSU := hid hsu
            have HIN := hid hin
            have HRA := hid hra
            have HSM := hid hsm
            have HST := hid hst
            cases hv2 : (M.rowsK f l none 0).2 with
            | false =>
              rw [hv2, Bool.false_and] at hpa
              rw [hv2] at hir
              have HPA := hid hpa
              have HIR := hid hir
              clear hth hfd hls has hpa hfa hsw hsu hin hs ht h0 hr hb hp h9 h7 hq hi1 hi2 hlen hir hra hsm hst hv1 hv2
              go_enter Try.func6, Try.ntmps6
              go_wp2_with (first | (go_at_call 20; ((with_reducible refine (HTH.out _ (Ev.alloc (Ev.refl _) _)).mono ?_); rintro e w1 ⟨rfl, hb1⟩; have HQ := hid (hb1.heap (alloc1 w (.cells #[.int .i64 f.rows, .int .i64 f.wds, .int .i64 f.lf.lo, .int .i64 f.lf.hi, .slice A n c] 26)).1); obtain ⟨q0, q1, q2, q3, q4⟩ := cells5 HQ.out; have hE1 : Ev w w1 := Ev.trans (Ev.alloc (Ev.refl _) _) hb1; have hG1 := Ev.refl w1)) | (go_at_call 24; ((with_reducible refine (HFD.out _ hE1).mono ?_); rintro e w2 ⟨⟨B2, d2, rfl, hs2⟩, hb2⟩; have hG2 := hG1.trans hb2; clear q0 q1 q2 q3 q4; obtain ⟨q0, q1, q2, q3, q4⟩ := cells5 (hG2.heap HQ.out); have HS2 := hid hs2; clear hs2)) | (go_at_call 36; ((with_reducible refine (HAS.out _ _ _ HS2.out).mono ?_); rintro e w3 ⟨⟨B3, d3', rfl, hs3⟩, hb3⟩; have hG3 := hG2.trans hb3; clear q0 q1 q2 q3 q4; obtain ⟨q0, q1, q2, q3, q4⟩ := cells5 (hG3.heap HQ.out); have HS3 := hid hs3; clear hs3)) | (go_at_call 24; ((with_reducible refine (HFD.out _ (hE1.trans hG3)).mono ?_); rintro e w4 ⟨⟨B4, d4, rfl, hs4⟩, hb4⟩; have hG4 := hG3.trans hb4; clear q0 q1 q2 q3 q4; obtain ⟨q0, q1, q2, q3, q4⟩ := cells5 (hG4.heap HQ.out); have HS4 := hid hs4; clear hs4)) | (go_at_call 26; ((with_reducible refine (HLS.out _ (hE1.trans hG4)).mono ?_); rintro e w5 ⟨⟨B5, d5, rfl, hs5⟩, hb5⟩; have hG5 := hG4.trans hb5; clear q0 q1 q2 q3 q4; obtain ⟨q0, q1, q2, q3, q4⟩ := cells5 (hG5.heap HQ.out); have HS5 := hid hs5; clear hs5)) | (go_at_call 37; ((with_reducible refine (HPA.out _ _ _ _ _ (HS4.out.ev hb5) HS5.out).mono ?_); rintro e w6 ⟨rfl, hb6⟩; have hG6 := hG5.trans hb6; clear q0 q1 q2 q3 q4; obtain ⟨q0, q1, q2, q3, q4⟩ := cells5 (hG6.heap HQ.out))) | (go_at_call 29; ((with_reducible refine (HSU.out _ (hE1.trans hG6)).mono ?_); rintro e w7 ⟨⟨B7, d7, rfl, hl7⟩, hb7⟩; have hG7 := hG6.trans hb7; clear q0 q1 q2 q3 q4; obtain ⟨q0, q1, q2, q3, q4⟩ := cells5 (hG7.heap HQ.out); have HL7 := hid hl7; clear hl7)) | (go_at_call 22; ((with_reducible refine (HFA.out _ (hE1.trans hG7)).mono ?_); rintro e w8 ⟨rfl, hb8⟩; have hG8 := hG7.trans hb8; clear q0 q1 q2 q3 q4; obtain ⟨q0, q1, q2, q3, q4⟩ := cells5 (hG8.heap HQ.out))) | (go_at_call 33; ((with_reducible refine (HIN.out _).mono ?_); rintro e w9 ⟨rfl, rfl⟩)) | (go_at_call 38; ((with_reducible refine (HIR.out _ (hE1.trans hG8)).mono ?_); rintro e w9 ⟨rfl, hb9⟩; have hG9 := hG8.trans hb9; clear q0 q1 q2 q3 q4; obtain ⟨q0, q1, q2, q3, q4⟩ := cells5 (hG9.heap HQ.out))) | (go_at_call 40; ((with_reducible refine (HRA.out _ _ _ (HL7.out.ev (hb8.trans hb9))).mono ?_); rintro e w10 ⟨⟨B11, d11, rfl, hs11⟩, hb10⟩; have hG10 := hG9.trans hb10; clear q0 q1 q2 q3 q4; obtain ⟨q0, q1, q2, q3, q4⟩ := cells5 (hG10.heap HQ.out); have HS11 := hid hs11; clear hs11)) | (go_at_call 34; ((with_reducible refine (HSM.out _ _ _ _ _ (HS3.out.ev ((((((hb4.trans hb5).trans hb6).trans hb7).trans hb8).trans hb9).trans hb10)) HS11.out).mono ?_); rintro e w11 ⟨rfl, hb11⟩; have hG11 := hG10.trans hb11; clear q0 q1 q2 q3 q4; obtain ⟨q0, q1, q2, q3, q4⟩ := cells5 (hG11.heap HQ.out))) | (go_at_call 21; ((with_reducible refine (awake_c _).mono ?_); rintro e w12 ⟨rfl, hb12⟩; have hG12 := hG11.trans hb12)))
              go_ret
              exact ⟨rfl, hE1.trans hG12⟩
            | true =>
              rw [hv2, Bool.true_and] at hpa
              rw [hv2] at hir
              have HPA := hid hpa
              have HIR := hid hir
              clear hth hfd hls has hpa hfa hsw hsu hin hs ht h0 hr hb hp h9 h7 hq hi1 hi2 hlen hir hra hsm hst hv1 hv2
              go_enter Try.func6, Try.ntmps6
              go_wp2_with (first | (go_at_call 20; ((with_reducible refine (HTH.out _ (Ev.alloc (Ev.refl _) _)).mono ?_); rintro e w1 ⟨rfl, hb1⟩; have HQ := hid (hb1.heap (alloc1 w (.cells #[.int .i64 f.rows, .int .i64 f.wds, .int .i64 f.lf.lo, .int .i64 f.lf.hi, .slice A n c] 26)).1); obtain ⟨q0, q1, q2, q3, q4⟩ := cells5 HQ.out; have hE1 : Ev w w1 := Ev.trans (Ev.alloc (Ev.refl _) _) hb1; have hG1 := Ev.refl w1)) | (go_at_call 24; ((with_reducible refine (HFD.out _ hE1).mono ?_); rintro e w2 ⟨⟨B2, d2, rfl, hs2⟩, hb2⟩; have hG2 := hG1.trans hb2; clear q0 q1 q2 q3 q4; obtain ⟨q0, q1, q2, q3, q4⟩ := cells5 (hG2.heap HQ.out); have HS2 := hid hs2; clear hs2)) | (go_at_call 36; ((with_reducible refine (HAS.out _ _ _ HS2.out).mono ?_); rintro e w3 ⟨⟨B3, d3', rfl, hs3⟩, hb3⟩; have hG3 := hG2.trans hb3; clear q0 q1 q2 q3 q4; obtain ⟨q0, q1, q2, q3, q4⟩ := cells5 (hG3.heap HQ.out); have HS3 := hid hs3; clear hs3)) | (go_at_call 24; ((with_reducible refine (HFD.out _ (hE1.trans hG3)).mono ?_); rintro e w4 ⟨⟨B4, d4, rfl, hs4⟩, hb4⟩; have hG4 := hG3.trans hb4; clear q0 q1 q2 q3 q4; obtain ⟨q0, q1, q2, q3, q4⟩ := cells5 (hG4.heap HQ.out); have HS4 := hid hs4; clear hs4)) | (go_at_call 26; ((with_reducible refine (HLS.out _ (hE1.trans hG4)).mono ?_); rintro e w5 ⟨⟨B5, d5, rfl, hs5⟩, hb5⟩; have hG5 := hG4.trans hb5; clear q0 q1 q2 q3 q4; obtain ⟨q0, q1, q2, q3, q4⟩ := cells5 (hG5.heap HQ.out); have HS5 := hid hs5; clear hs5)) | (go_at_call 37; ((with_reducible refine (HPA.out _ _ _ _ _ (HS4.out.ev hb5) HS5.out).mono ?_); rintro e w6 ⟨rfl, hb6⟩; have hG6 := hG5.trans hb6; clear q0 q1 q2 q3 q4; obtain ⟨q0, q1, q2, q3, q4⟩ := cells5 (hG6.heap HQ.out))) | (go_at_call 29; ((with_reducible refine (HSU.out _ (hE1.trans hG6)).mono ?_); rintro e w7 ⟨⟨B7, d7, rfl, hl7⟩, hb7⟩; have hG7 := hG6.trans hb7; clear q0 q1 q2 q3 q4; obtain ⟨q0, q1, q2, q3, q4⟩ := cells5 (hG7.heap HQ.out); have HL7 := hid hl7; clear hl7)) | (go_at_call 22; ((with_reducible refine (HFA.out _ (hE1.trans hG7)).mono ?_); rintro e w8 ⟨rfl, hb8⟩; have hG8 := hG7.trans hb8; clear q0 q1 q2 q3 q4; obtain ⟨q0, q1, q2, q3, q4⟩ := cells5 (hG8.heap HQ.out))) | (go_at_call 33; ((with_reducible refine (HIN.out _).mono ?_); rintro e w9 ⟨rfl, rfl⟩)) | (go_at_call 38; ((with_reducible refine (HIR.out _ (hE1.trans hG8)).mono ?_); rintro e w9 ⟨rfl, hb9⟩; have hG9 := hG8.trans hb9; clear q0 q1 q2 q3 q4; obtain ⟨q0, q1, q2, q3, q4⟩ := cells5 (hG9.heap HQ.out))) | (go_at_call 39; ((with_reducible refine (HST.out _ _ _ (HL7.out.ev (hb8.trans hb9))).mono ?_); rintro e w10 ⟨rfl, hb10⟩; have hG10 := hG9.trans hb10; clear q0 q1 q2 q3 q4; obtain ⟨q0, q1, q2, q3, q4⟩ := cells5 (hG10.heap HQ.out))) | (go_at_call 40; ((with_reducible refine (HRA.out _ _ _ (HL7.out.ev ((hb8.trans hb9).trans hb10))).mono ?_); rintro e w11 ⟨⟨B11, d11, rfl, hs11⟩, hb11⟩; have hG11 := hG10.trans hb11; clear q0 q1 q2 q3 q4; obtain ⟨q0, q1, q2, q3, q4⟩ := cells5 (hG11.heap HQ.out); have HS11 := hid hs11; clear hs11)) | (go_at_call 34; ((with_reducible refine (HSM.out _ _ _ _ _ (HS3.out.ev (((((((hb4.trans hb5).trans hb6).trans hb7).trans hb8).trans hb9).trans hb10).trans hb11)) HS11.out).mono ?_); rintro e w12 ⟨rfl, hb12⟩; have hG12 := hG11.trans hb12; clear q0 q1 q2 q3 q4; obtain ⟨q0, q1, q2, q3, q4⟩ := cells5 (hG12.heap HQ.out))) | (go_at_call 21; ((with_reducible refine (awake_c _).mono ?_); rintro e w13 ⟨rfl, hb13⟩; have hG13 := hG12.trans hb13)))
              go_ret
              exact ⟨rfl, hE1.trans hG13⟩
          · have hp : M.proveAsk f x l = false := by unfold M.proveAsk; rw [hb]; simp [hq]
            rw [hp] at hpa
            rw [hr] at hb hin
            simp only [hr, hb, hq, ↓reduceIte] at has
            simp only [hq, ↓reduceIte] at hsu
            generalize M.sureE f = k at hq hsu has
            have hne : (k != 0) = true := by simpa using hq
            have HAS := hid has
            have HPA := hid hpa
            have HSU := hid hsu
            have HIN := hid hin
            clear hth hfd hls has hpa hfa hsw hsu hin hs ht h0 hr hb hp h9 h7 hq
            go_enter Try.func6, Try.ntmps6
            go_wp2_with (first | (go_at_call 20; ((with_reducible refine (HTH.out _ (Ev.alloc (Ev.refl _) _)).mono ?_); rintro e w1 ⟨rfl, hb1⟩; have HQ := hid (hb1.heap (alloc1 w (.cells #[.int .i64 f.rows, .int .i64 f.wds, .int .i64 f.lf.lo, .int .i64 f.lf.hi, .slice A n c] 26)).1); obtain ⟨q0, q1, q2, q3, q4⟩ := cells5 HQ.out; have hE1 : Ev w w1 := Ev.trans (Ev.alloc (Ev.refl _) _) hb1; have hG1 := Ev.refl w1)) | (go_at_call 24; ((with_reducible refine (HFD.out _ hE1).mono ?_); rintro e w2 ⟨⟨B2, d2, rfl, hs2⟩, hb2⟩; have hG2 := hG1.trans hb2; clear q0 q1 q2 q3 q4; obtain ⟨q0, q1, q2, q3, q4⟩ := cells5 (hG2.heap HQ.out); have HS2 := hid hs2; clear hs2)) | (go_at_call 36; ((with_reducible refine (HAS.out _ _ _ HS2.out).mono ?_); rintro e w3 ⟨rfl, hb3⟩; have hG3 := hG2.trans hb3; clear q0 q1 q2 q3 q4; obtain ⟨q0, q1, q2, q3, q4⟩ := cells5 (hG3.heap HQ.out))) | (go_at_call 24; ((with_reducible refine (HFD.out _ (hE1.trans hG3)).mono ?_); rintro e w4 ⟨⟨B4, d4, rfl, hs4⟩, hb4⟩; have hG4 := hG3.trans hb4; clear q0 q1 q2 q3 q4; obtain ⟨q0, q1, q2, q3, q4⟩ := cells5 (hG4.heap HQ.out); have HS4 := hid hs4; clear hs4)) | (go_at_call 26; ((with_reducible refine (HLS.out _ (hE1.trans hG4)).mono ?_); rintro e w5 ⟨⟨B5, d5, rfl, hs5⟩, hb5⟩; have hG5 := hG4.trans hb5; clear q0 q1 q2 q3 q4; obtain ⟨q0, q1, q2, q3, q4⟩ := cells5 (hG5.heap HQ.out); have HS5 := hid hs5; clear hs5)) | (go_at_call 37; ((with_reducible refine (HPA.out _ _ _ _ _ (HS4.out.ev hb5) HS5.out).mono ?_); rintro e w6 ⟨rfl, hb6⟩; have hG6 := hG5.trans hb6; clear q0 q1 q2 q3 q4; obtain ⟨q0, q1, q2, q3, q4⟩ := cells5 (hG6.heap HQ.out))) | (go_at_call 29; ((with_reducible refine (HSU.out _ (hE1.trans hG6)).mono ?_); rintro e w7 ⟨rfl, hb7⟩; have hG7 := hG6.trans hb7; clear q0 q1 q2 q3 q4; obtain ⟨q0, q1, q2, q3, q4⟩ := cells5 (hG7.heap HQ.out))) | (go_at_call 22; ((with_reducible refine (HFA.out _ (hE1.trans hG7)).mono ?_); rintro e w8 ⟨rfl, hb8⟩; have hG8 := hG7.trans hb8; clear q0 q1 q2 q3 q4; obtain ⟨q0, q1, q2, q3, q4⟩ := cells5 (hG8.heap HQ.out))) | (go_at_call 33; ((with_reducible refine (HIN.out _).mono ?_); rintro e w9 ⟨rfl, rfl⟩)) | (go_at_call 21; ((with_reducible refine (awake_c _).mono ?_); rintro e w9 ⟨rfl, hb9⟩; have hG9 := hG8.trans hb9)))
            go_ret
            exact ⟨rfl, hE1.trans hG9⟩
      · have hb : M.begin f (M.hasWd f x) = M.check f := by unfold M.begin; rw [if_neg h0]
        have hse : M.sureE f = M.check f := by unfold M.sureE; rw [if_neg h0]
        have hp : M.proveAsk f x l = false := by unfold M.proveAsk; rw [hb]; simp [h0]
        rw [hp] at hpa
        simp only [hb, h0, ↓reduceIte] at has
        rw [hse] at hsw
        generalize M.check f = k at h0 hfa has hsw
        have hne : (k != 0) = true := by simpa using h0
        have hne2 : (k == 0) = false := by simpa using h0
        have HAS := hid has
        have HPA := hid hpa
        have HSW := hid hsw
        have HFA := hid hfa
        clear hth hfd hls has hpa hfa hsw hsu hin hs ht h0 hb hse hp h9 h7
        go_enter Try.func6, Try.ntmps6
        go_wp2_with (first | (go_at_call 20; ((with_reducible refine (HTH.out _ (Ev.alloc (Ev.refl _) _)).mono ?_); rintro e w1 ⟨rfl, hb1⟩; have HQ := hid (hb1.heap (alloc1 w (.cells #[.int .i64 f.rows, .int .i64 f.wds, .int .i64 f.lf.lo, .int .i64 f.lf.hi, .slice A n c] 26)).1); obtain ⟨q0, q1, q2, q3, q4⟩ := cells5 HQ.out; have hE1 : Ev w w1 := Ev.trans (Ev.alloc (Ev.refl _) _) hb1; have hG1 := Ev.refl w1)) | (go_at_call 24; ((with_reducible refine (HFD.out _ hE1).mono ?_); rintro e w2 ⟨⟨B2, d2, rfl, hs2⟩, hb2⟩; have hG2 := hG1.trans hb2; clear q0 q1 q2 q3 q4; obtain ⟨q0, q1, q2, q3, q4⟩ := cells5 (hG2.heap HQ.out); have HS2 := hid hs2; clear hs2)) | (go_at_call 36; ((with_reducible refine (HAS.out _ _ _ HS2.out).mono ?_); rintro e w3 ⟨rfl, hb3⟩; have hG3 := hG2.trans hb3; clear q0 q1 q2 q3 q4; obtain ⟨q0, q1, q2, q3, q4⟩ := cells5 (hG3.heap HQ.out))) | (go_at_call 24; ((with_reducible refine (HFD.out _ (hE1.trans hG3)).mono ?_); rintro e w4 ⟨⟨B4, d4, rfl, hs4⟩, hb4⟩; have hG4 := hG3.trans hb4; clear q0 q1 q2 q3 q4; obtain ⟨q0, q1, q2, q3, q4⟩ := cells5 (hG4.heap HQ.out); have HS4 := hid hs4; clear hs4)) | (go_at_call 26; ((with_reducible refine (HLS.out _ (hE1.trans hG4)).mono ?_); rintro e w5 ⟨⟨B5, d5, rfl, hs5⟩, hb5⟩; have hG5 := hG4.trans hb5; clear q0 q1 q2 q3 q4; obtain ⟨q0, q1, q2, q3, q4⟩ := cells5 (hG5.heap HQ.out); have HS5 := hid hs5; clear hs5)) | (go_at_call 37; ((with_reducible refine (HPA.out _ _ _ _ _ (HS4.out.ev hb5) HS5.out).mono ?_); rintro e w6 ⟨rfl, hb6⟩; have hG6 := hG5.trans hb6; clear q0 q1 q2 q3 q4; obtain ⟨q0, q1, q2, q3, q4⟩ := cells5 (hG6.heap HQ.out))) | (go_at_call 29; ((with_reducible refine (HSW.out _ (hE1.trans hG6)).mono ?_); rintro e w7 ⟨⟨v7, rfl⟩, hb7⟩; have hG7 := hG6.trans hb7; clear q0 q1 q2 q3 q4; obtain ⟨q0, q1, q2, q3, q4⟩ := cells5 (hG7.heap HQ.out))) | (go_at_call 22; ((with_reducible refine (HFA.out _ (hE1.trans hG7)).mono ?_); rintro e w8 ⟨rfl, hb8⟩; have hG8 := hG7.trans hb8; clear q0 q1 q2 q3 q4; obtain ⟨q0, q1, q2, q3, q4⟩ := cells5 (hG8.heap HQ.out))) | (go_at_call 21; ((with_reducible refine (awake_c _).mono ?_); rintro e w9 ⟨rfl, hb9⟩; have hG9 := hG8.trans hb9)))
        go_ret
        exact ⟨rfl, hE1.trans hG9⟩
    · have hb : (9 : Int) < m := by omega
      clear hth hs ht h9
      go_enter Try.func6, Try.ntmps6
      go_wp2_with (first | (go_at_call 20; ((with_reducible refine (HTH.out _ (Ev.alloc (Ev.refl _) _)).mono ?_); rintro e w1 ⟨rfl, hb1⟩; have HQ := hid (hb1.heap (alloc1 w (.cells #[.int .i64 f.rows, .int .i64 f.wds, .int .i64 f.lf.lo, .int .i64 f.lf.hi, .slice A n c] 26)).1); obtain ⟨q0, q1, q2, q3, q4⟩ := cells5 HQ.out; have hE1 : Ev w w1 := Ev.trans (Ev.alloc (Ev.refl _) _) hb1; have hG1 := Ev.refl w1)) | (go_at_call 21; ((with_reducible refine (awake_c _).mono ?_); rintro e w2 ⟨rfl, hb2⟩; have hG2 := hG1.trans hb2)))
      go_ret
      exact ⟨rfl, hE1.trans hG2⟩

end Go.Proofs.Ytcecmphdmpeibaa
