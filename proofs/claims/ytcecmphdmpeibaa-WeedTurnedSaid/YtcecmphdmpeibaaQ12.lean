import Derived.Test.YtcecmphdmpeibaaL28
set_option linter.unusedSimpArgs false
set_option linter.unusedVariables false
namespace Go.Proofs.Ytcecmphdmpeibaa
open Go.RowKit

theorem M.askBest_rows {f : M.Fl} (h : M.check f = 0) (x : Int) : (M.rowsK f (M.askBest f x) none 0).2 = true ∧ M.rsettles x (M.rowsK f (M.askBest f x) none 0).1 (M.rtruths f) = true ∧ ∀ n, n ≤ 2 ^ f.rows.toNat - 1 → M.shorter (M.bits n) (M.askBest f x) = true → M.rsettles x n (M.rtruths f) = false := by
  obtain ⟨r1, r7, d1, d3, _, _⟩ := M.check_bd h
  have hP : 0 < 2 ^ f.rows.toNat := Nat.pow_pos (by omega)
  have hall : M.rsettles x (2 ^ f.rows.toNat - 1) (M.rtruths f) = true := by
    rw [← M.settle_same h x (by omega), M.bits_all r7]
    exact M.settles_all (good_of h) x
  obtain ⟨h1, h2, h3⟩ := M.pick_spec (fun b => M.rsettles x b (M.rtruths f)) (2 ^ f.rows.toNat - 1 + 1) 0 (M.bits (2 ^ f.rows.toNat - 1))
  rw [← M.ask_same h x] at h1 h2 h3
  have hc : ∃ c, c < 2 ^ f.rows.toNat ∧ M.rsettles x c (M.rtruths f) = true ∧ M.askBest f x = M.bits c := by
    rcases h1 with h1 | ⟨c, _, h5, h6, h7⟩
    · exact ⟨_, by omega, hall, h1⟩
    · exact ⟨c, by omega, h6, h7⟩
  obtain ⟨c, hc, hqc, he⟩ := hc
  obtain ⟨i1, i2⟩ := M.isRows_same h x (M.askBest f x)
  have hset : M.settles f x (M.truths f) (M.askBest f x) = true := by rw [he, M.settle_same h x hc]; exact hqc
  have hrise := M.bits_rise (sz := f.rows.toNat) (by omega) hc
  rw [← he] at hrise
  obtain ⟨_, g1, g2⟩ := (M.rises_rise _ _ _ (Int.le_refl _)).1 hrise
  have hrow : (M.askBest f x).all (M.hasRow f) = true := by
    rw [List.all_eq_true]
    intro y hy
    have := g2 y hy
    simp only [M.hasRow, Bool.and_eq_true, decide_eq_true_eq]
    omega
  rw [g1, hrow, hset, Bool.true_and, Bool.true_and] at i1
  have i3 := i1.symm
  rw [Bool.and_eq_true] at i3
  refine ⟨i3.1, i3.2, fun n hn hs => ?_⟩
  cases hq : M.rsettles x n (M.rtruths f) with
  | false => rfl
  | true => rw [h3 n (Nat.zero_le _) (by omega) hq] at hs; cases hs

theorem M.askBest_len {f : M.Fl} (h : M.check f = 0) (x : Int) : (M.askBest f x).length ≤ 7 := by
  obtain ⟨r1, r7, d1, d3, _, _⟩ := M.check_bd h
  have hP : 0 < 2 ^ f.rows.toNat := Nat.pow_pos (by omega)
  have hb : ∀ b, (M.bits b).length ≤ 7 := fun b => by
    have : ∀ j p, (M.bitsK b p j).length ≤ j := by
      intro j
      induction j with
      | zero => intro p; exact Nat.le_refl _
      | succ j ih =>
        intro p
        rw [M.bitsK, List.length_append]
        have := ih (p + 1)
        split <;> simp <;> omega
    exact this 7 0
  rw [M.ask_same h x]
  rcases (M.pick_spec (fun b => M.rsettles x b (M.rtruths f)) (2 ^ f.rows.toNat - 1 + 1) 0 (M.bits (2 ^ f.rows.toNat - 1))).1 with h1 | ⟨c, _, _, _, h1⟩
  · rw [h1]; exact hb _
  · rw [h1]; exact hb _

theorem u8_bd {a : Int} (h : (Lit.int .u8 a).wf = true) : 0 ≤ a ∧ a < 256 := by
  have h2 : (decide ((0 : Int) ≤ a) && decide (a ≤ 255)) = true := h
  simp only [Bool.and_eq_true, decide_eq_true_eq] at h2
  omega

set_option maxRecDepth 100000 in
set_option maxHeartbeats 4000000 in
theorem weedSettled_c (f : M.Fl) (A : Option Addr) (n c : Nat) (a b : Int) (a0 : 0 ≤ a) (a1 : a < 256) (b0 : 0 ≤ b) (b1 : b < 256) (w : World) (hs : n ≤ 7 → Sl tcs 5 w w.heap.size A n c f.ts) :
    Calls Try.prog 12 #[.agg #[.int .i64 f.rows, .int .i64 f.wds, .int .i64 f.lf.lo, .int .i64 f.lf.hi, .slice A n c], .int .u8 a, .int .u8 b] w fun e w' => e = .returned (.bool true) ∧ Ev w w' := by
  have hrd := fun W (hE : Ev w W) => ready_c f A n c W (fun h => (hs h).ev hE)
  cases hready : M.rdy f n with
  | false =>
    rw [hready] at hrd
    have HRD := hid hrd
    clear hrd hready hs
    go_enter Try.func12, Try.ntmps12
    go_wp2_with (first | (go_at_call 52; ((with_reducible refine (HRD.out _ (Ev.alloc (Ev.refl _) _)).mono ?_); rintro e w1 ⟨rfl, hb1⟩; have HQ := hid (hb1.heap (alloc1 w (.cells #[.int .i64 f.rows, .int .i64 f.wds, .int .i64 f.lf.lo, .int .i64 f.lf.hi, .slice A n c] 26)).1); obtain ⟨q0, q1, q2, q3, q4⟩ := cells5 HQ.out; have hE1 : Ev w w1 := Ev.trans (Ev.alloc (Ev.refl _) _) hb1; have hG1 := Ev.refl w1)) | (go_at_call 21; ((with_reducible refine (awake_c _).mono ?_); rintro e w2 ⟨rfl, hb2⟩; have hG2 := hG1.trans hb2)))
    go_ret
    exact ⟨rfl, hE1.trans hG2⟩
  | true =>
    rw [hready] at hrd
    unfold M.rdy at hready
    simp only [Bool.and_eq_true, decide_eq_true_eq] at hready
    obtain ⟨⟨h7, _⟩, h0⟩ := hready
    replace hs := hs h7
    obtain ⟨r1, r7, d1, d3, _, _⟩ := M.check_bd h0
    have ht := M.tally_of h0
    have hfd := fun W (hE : Ev w W) => Field_c f A n c (by omega) W (hs.ev hE)
    have htr := fun W (hE : Ev w W) => (Truths_c f r1 r7 d1 d3 (fun t hm => by have := ht t hm; omega) A n c W (hs.ev hE)).mono (R' := fun e w' => (∃ B d, e = .returned (.slice B (M.rtruths f).length d) ∧ LL w' B (M.rtruths f).length d (M.rtruths f)) ∧ Ev W w') (by
      rintro e w' ⟨⟨B, m, d, rfl, hl⟩, hb⟩
      have := hl.len
      exact ⟨⟨B, d, by rw [this], by rw [this]; exact hl⟩, hb⟩)
    have s1 : IntKind.i64.wrap a = a := IntWalk.i64_in _ (by omega)
    have s2 : IntKind.i64.wrap b = b := IntWalk.i64_in _ (by omega)
    obtain ⟨k, hk⟩ : ∃ k, a % f.wds = k := ⟨_, rfl⟩
    have hk0 : 0 ≤ k := by rw [← hk]; exact Int.emod_nonneg _ (by omega)
    have hk1 : k < f.wds := by rw [← hk]; exact Int.emod_lt_of_pos _ (by omega)
    have hk2 : a.tmod f.wds = k := by rw [Int.tmod_eq_emod_of_nonneg a0]; exact hk
    have s3 : IntKind.i64.wrap k = k := IntWalk.i64_in _ (by omega)
    have z2 : (f.wds == 0) = false := by simp; omega
    have z3 : ¬ (f.wds = 0) := by omega
    have hwd : M.hasWd f k = true := by
      unfold M.hasWd
      simp only [Bool.and_eq_true, decide_eq_true_eq]
      omega
    have has := fun B d W (h : Sl tcs 5 W W.heap.size B n d f.ts) => Ask_c f k B n d W h
    have hpa := fun B2 d2 B3 d3 W (h : Sl tcs 5 W W.heap.size B2 n d2 f.ts) (h2 : Sl ics 1 W W.heap.size B3 (M.askBest f k).length d3 (M.askBest f k)) => ProveAsk_c f k (M.askBest f k) B3 (M.askBest f k).length d3 B2 n d2 W h h2
    have hbg : M.begin f (M.hasWd f k) = M.sureE f := by rw [M.begin_ref f _ h0, hwd]; rfl
    unfold fv at has hpa
    have hlen : ∀ t ∈ M.rtruths f, t.length = f.rows.toNat := fun t ht => by have := M.rt_len h0 t ht; omega
    by_cases hz : (M.rtruths f).length = 0
    · have hsE : M.sureE f = 11 := by unfold M.sureE; rw [if_pos h0, if_pos hz]
      rw [hz] at htr
      generalize M.rtruths f = l at htr
      simp only [hbg, hsE, show ¬ (11 : Int) = 0 from by decide, ↓reduceIte] at has
      have HRD := hid hrd
      have HFD := hid hfd
      have HTR := hid htr
      have HAS := hid has
      clear hrd hfd htr has hpa hbg hwd hlen hz hsE hs ht h0 h7
      go_enter Try.func12, Try.ntmps12
      go_wp2_with (first | (go_at_call 52; ((with_reducible refine (HRD.out _ (Ev.alloc (Ev.refl _) _)).mono ?_); rintro e w1 ⟨rfl, hb1⟩; have HQ := hid (hb1.heap (alloc1 w (.cells #[.int .i64 f.rows, .int .i64 f.wds, .int .i64 f.lf.lo, .int .i64 f.lf.hi, .slice A n c] 26)).1); obtain ⟨q0, q1, q2, q3, q4⟩ := cells5 HQ.out; have hE1 : Ev w w1 := Ev.trans (Ev.alloc (Ev.refl _) _) hb1; have hG1 := Ev.refl w1)) | (go_at_call 24; ((with_reducible refine (HFD.out _ hE1).mono ?_); rintro e w2 ⟨⟨B2, d2, rfl, hs2⟩, hb2⟩; have hG2 := hG1.trans hb2; clear q0 q1 q2 q3 q4; obtain ⟨q0, q1, q2, q3, q4⟩ := cells5 (hG2.heap HQ.out); have HS2 := hid hs2; clear hs2)) | (go_at_call 36; ((with_reducible refine (HAS.out _ _ _ HS2.out).mono ?_); rintro e w3 ⟨rfl, hb3⟩; have hG3 := hG2.trans hb3; clear q0 q1 q2 q3 q4; obtain ⟨q0, q1, q2, q3, q4⟩ := cells5 (hG3.heap HQ.out))) | (go_at_call 57; ((with_reducible refine (HTR.out _ (hE1.trans hG3)).mono ?_); rintro e w4 ⟨⟨B4, d4, rfl, hl4⟩, hb4⟩; have hG4 := hG3.trans hb4; clear q0 q1 q2 q3 q4; obtain ⟨q0, q1, q2, q3, q4⟩ := cells5 (hG4.heap HQ.out); have HL4 := hid hl4; clear hl4)) | (go_at_call 21; ((with_reducible refine (awake_c _).mono ?_); rintro e w5 ⟨rfl, hb5⟩; have hG5 := hG4.trans hb5)))
      go_ret
      exact ⟨rfl, hE1.trans hG5⟩
    · have hsE : M.sureE f = 0 := by unfold M.sureE; rw [if_pos h0, if_neg hz]
      obtain ⟨k1, k2, k3⟩ := M.askBest_rows h0 k
      obtain ⟨i1, i2⟩ := M.isRows_same h0 k (M.askBest f k)
      have hbl := M.askBest_len h0 k
      have hp : M.proveAsk f k (M.askBest f k) = true := by unfold M.proveAsk; rw [hbg, hsE, i1, k1, k2]; rfl
      rw [hp] at hpa
      have hir := fun B d W (h : Sl ics 1 W W.heap.size B (M.askBest f k).length d (M.askBest f k)) => IsRows_c f r1 r7 A n c B (M.askBest f k).length d (M.askBest f k) W h
      have hst := fun v (hv : v ≤ 127) B d W (h : LL W B (M.rtruths f).length d (M.rtruths f)) => Settles_c k v f.rows.toNat hv (by omega) (by omega) B (M.rtruths f).length d (M.rtruths f) hlen W h
      have hs1 := hst _ i2
      rw [k2] at hs1
      rw [k1] at hir
      generalize hv1 : (M.rowsK f (M.askBest f k) none 0).1 = v1 at hir hs1
      simp only [hbg, hsE, ↓reduceIte] at has
      obtain ⟨R, hR⟩ := Int.eq_ofNat_of_zero_le (show 0 ≤ f.rows by omega)
      have hR7 : R ≤ 7 := by omega
      have hRn : f.rows.toNat = R := by omega
      rw [hRn] at k3
      obtain ⟨p1, p2⟩ := wrap_pow hR7
      have hF : 2 ^ R - 1 ≤ 127 := by have := pow_lt128 hR7; omega
      obtain ⟨nn, hn1, hn2⟩ := and_mask b0 b1 hR7
      have hPF : (2 : Int) ^ R - 1 = ((2 ^ R - 1 : Nat) : Int) := by
        have h1 : 0 < 2 ^ R := Nat.pow_pos (by omega)
        have h2 : ((2 ^ R : Nat) : Int) = (2 : Int) ^ R := by simp
        omega
      have hk3 := k3 nn hn1
      have hs2 := hst nn (by omega)
      have hbt := fun W => Bits_c nn (by omega) W
      have hsh := fun B1 d1 B2 d2 W h1 h2 => Shorter_c B1 B2 (M.bits nn).length d1 (M.askBest f k).length d2 (M.bits nn) (M.askBest f k) W h1 h2
      generalize M.bits nn = bn at hk3 hbt hsh
      have hls := fun B d W (h : Sl ics 1 W W.heap.size B (M.askBest f k).length d (M.askBest f k)) => list_d B (M.askBest f k).length d (M.askBest f k) (by omega) W h
      generalize M.askBest f k = best at has hpa hir hk3 hsh hls
      have hzt : ¬ (((M.rtruths f).length : Int) = 0) := by omega
      have hzb : (((M.rtruths f).length : Int) == 0) = false := by simpa using hzt
      generalize M.rsettles k nn (M.rtruths f) = sn at hk3 hs2
      generalize M.rtruths f = l at htr hs1 hs2 hzt hzb
      rw [hR] at has hpa hir hrd hfd htr ⊢
      generalize hFF : 2 ^ R - 1 = F at p2 hF hPF hn2
      have HRD := hid hrd
      have HFD := hid hfd
      have HTR := hid htr
      have HAS := hid has
      have HPA := hid hpa
      have HIR := hid hir
      have HS1 := hid hs1
      have HBT := hid hbt
      have HLS := hid hls
      cases hss : M.shorter bn best with
      | false =>
        rw [hss] at hsh
        have HSH := hid hsh
        clear hrd hfd htr has hpa hbg hwd hlen hz hsE hs ht h0 h7 hir hst hs1 hs2 hbt hls hsh hss hk3 k1 k2 k3 i1 i2 hp hv1 hR hRn hn1 hFF hk
        go_enter Try.func12, Try.ntmps12
        go_wp2_with (first | (go_at_call 52; ((with_reducible refine (HRD.out _ (Ev.alloc (Ev.refl _) _)).mono ?_); rintro e w1 ⟨rfl, hb1⟩; have HQ := hid (hb1.heap (alloc1 w (.cells #[.int .i64 (R : Int), .int .i64 f.wds, .int .i64 f.lf.lo, .int .i64 f.lf.hi, .slice A n c] 26)).1); obtain ⟨q0, q1, q2, q3, q4⟩ := cells5 HQ.out; have hE1 : Ev w w1 := Ev.trans (Ev.alloc (Ev.refl _) _) hb1; have hG1 := Ev.refl w1)) | (go_at_call 24; ((with_reducible refine (HFD.out _ hE1).mono ?_); rintro e w2 ⟨⟨B2, d2, rfl, hs2⟩, hb2⟩; have hG2 := hG1.trans hb2; clear q0 q1 q2 q3 q4; obtain ⟨q0, q1, q2, q3, q4⟩ := cells5 (hG2.heap HQ.out); have HS2 := hid hs2; clear hs2)) | (go_at_call 36; ((with_reducible refine (HAS.out _ _ _ HS2.out).mono ?_); rintro e w3 ⟨⟨B3, d3', rfl, hs3⟩, hb3⟩; have hG3 := hG2.trans hb3; clear q0 q1 q2 q3 q4; obtain ⟨q0, q1, q2, q3, q4⟩ := cells5 (hG3.heap HQ.out); have HS3 := hid hs3; clear hs3)) | (go_at_call 57; ((with_reducible refine (HTR.out _ (hE1.trans hG3)).mono ?_); rintro e w4 ⟨⟨B4, d4, rfl, hl4⟩, hb4⟩; have hG4 := hG3.trans hb4; clear q0 q1 q2 q3 q4; obtain ⟨q0, q1, q2, q3, q4⟩ := cells5 (hG4.heap HQ.out); have HL4 := hid hl4; clear hl4)) | (go_at_call 38; ((with_reducible refine (HIR.out _ _ _ (HS3.out.ev hb4)).mono ?_); rintro e w5 ⟨rfl, hb5⟩; have hG5 := hG4.trans hb5; clear q0 q1 q2 q3 q4; obtain ⟨q0, q1, q2, q3, q4⟩ := cells5 (hG5.heap HQ.out))) | (go_at_call 39; ((with_reducible refine (HS1.out _ _ _ (HL4.out.ev hb5)).mono ?_); rintro e w6 ⟨rfl, hb6⟩; have hG6 := hG5.trans hb6; clear q0 q1 q2 q3 q4; obtain ⟨q0, q1, q2, q3, q4⟩ := cells5 (hG6.heap HQ.out))) | (go_at_call 24; ((with_reducible refine (HFD.out _ (hE1.trans hG6)).mono ?_); rintro e w7 ⟨⟨B7, d7, rfl, hs7⟩, hb7⟩; have hG7 := hG6.trans hb7; clear q0 q1 q2 q3 q4; obtain ⟨q0, q1, q2, q3, q4⟩ := cells5 (hG7.heap HQ.out); have HS7 := hid hs7; clear hs7)) | (go_at_call 26; ((with_reducible refine (HLS.out _ _ _ (HS3.out.ev (((hb4.trans hb5).trans hb6).trans hb7))).mono ?_); rintro e w8 ⟨⟨B8, d8, rfl, hs8⟩, hb8⟩; have hG8 := hG7.trans hb8; clear q0 q1 q2 q3 q4; obtain ⟨q0, q1, q2, q3, q4⟩ := cells5 (hG8.heap HQ.out); have HS8 := hid hs8; clear hs8)) | (go_at_call 37; ((with_reducible refine (HPA.out _ _ _ _ _ (HS7.out.ev hb8) HS8.out).mono ?_); rintro e w9 ⟨rfl, hb9⟩; have hG9 := hG8.trans hb9; clear q0 q1 q2 q3 q4; obtain ⟨q0, q1, q2, q3, q4⟩ := cells5 (hG9.heap HQ.out))) | (go_at_call 59; ((with_reducible refine (HBT.out _).mono ?_); rintro e w10 ⟨⟨B10, d10, rfl, hs10⟩, hb10⟩; have hG10 := hG9.trans hb10; clear q0 q1 q2 q3 q4; obtain ⟨q0, q1, q2, q3, q4⟩ := cells5 (hG10.heap HQ.out); have HS10 := hid hs10; clear hs10)) | (go_at_call 58; ((with_reducible refine (HSH.out _ _ _ _ _ HS10.out (HS3.out.ev ((((((hb4.trans hb5).trans hb6).trans hb7).trans hb8).trans hb9).trans hb10))).mono ?_); rintro e w11 ⟨rfl, hb11⟩; have hG11 := hG10.trans hb11; clear q0 q1 q2 q3 q4; obtain ⟨q0, q1, q2, q3, q4⟩ := cells5 (hG11.heap HQ.out))) | (go_at_call 21; ((with_reducible refine (awake_c _).mono ?_); rintro e w12 ⟨rfl, hb12⟩; have hG12 := hG11.trans hb12)))
        go_ret
        exact ⟨rfl, hE1.trans hG12⟩
      | true =>
        rw [hk3 hss] at hs2
        rw [hss] at hsh
        have HSH := hid hsh
        have HS2n := hid hs2
        clear hrd hfd htr has hpa hbg hwd hlen hz hsE hs ht h0 h7 hir hst hs1 hs2 hbt hls hsh hss hk3 k1 k2 k3 i1 i2 hp hv1 hR hRn hn1 hFF hk
        go_enter Try.func12, Try.ntmps12
        go_wp2_with (first | (go_at_call 52; ((with_reducible refine (HRD.out _ (Ev.alloc (Ev.refl _) _)).mono ?_); rintro e w1 ⟨rfl, hb1⟩; have HQ := hid (hb1.heap (alloc1 w (.cells #[.int .i64 (R : Int), .int .i64 f.wds, .int .i64 f.lf.lo, .int .i64 f.lf.hi, .slice A n c] 26)).1); obtain ⟨q0, q1, q2, q3, q4⟩ := cells5 HQ.out; have hE1 : Ev w w1 := Ev.trans (Ev.alloc (Ev.refl _) _) hb1; have hG1 := Ev.refl w1)) | (go_at_call 24; ((with_reducible refine (HFD.out _ hE1).mono ?_); rintro e w2 ⟨⟨B2, d2, rfl, hs2⟩, hb2⟩; have hG2 := hG1.trans hb2; clear q0 q1 q2 q3 q4; obtain ⟨q0, q1, q2, q3, q4⟩ := cells5 (hG2.heap HQ.out); have HS2 := hid hs2; clear hs2)) | (go_at_call 36; ((with_reducible refine (HAS.out _ _ _ HS2.out).mono ?_); rintro e w3 ⟨⟨B3, d3', rfl, hs3⟩, hb3⟩; have hG3 := hG2.trans hb3; clear q0 q1 q2 q3 q4; obtain ⟨q0, q1, q2, q3, q4⟩ := cells5 (hG3.heap HQ.out); have HS3 := hid hs3; clear hs3)) | (go_at_call 57; ((with_reducible refine (HTR.out _ (hE1.trans hG3)).mono ?_); rintro e w4 ⟨⟨B4, d4, rfl, hl4⟩, hb4⟩; have hG4 := hG3.trans hb4; clear q0 q1 q2 q3 q4; obtain ⟨q0, q1, q2, q3, q4⟩ := cells5 (hG4.heap HQ.out); have HL4 := hid hl4; clear hl4)) | (go_at_call 38; ((with_reducible refine (HIR.out _ _ _ (HS3.out.ev hb4)).mono ?_); rintro e w5 ⟨rfl, hb5⟩; have hG5 := hG4.trans hb5; clear q0 q1 q2 q3 q4; obtain ⟨q0, q1, q2, q3, q4⟩ := cells5 (hG5.heap HQ.out))) | (go_at_call 39; ((with_reducible refine (HS1.out _ _ _ (HL4.out.ev hb5)).mono ?_); rintro e w6 ⟨rfl, hb6⟩; have hG6 := hG5.trans hb6; clear q0 q1 q2 q3 q4; obtain ⟨q0, q1, q2, q3, q4⟩ := cells5 (hG6.heap HQ.out))) | (go_at_call 24; ((with_reducible refine (HFD.out _ (hE1.trans hG6)).mono ?_); rintro e w7 ⟨⟨B7, d7, rfl, hs7⟩, hb7⟩; have hG7 := hG6.trans hb7; clear q0 q1 q2 q3 q4; obtain ⟨q0, q1, q2, q3, q4⟩ := cells5 (hG7.heap HQ.out); have HS7 := hid hs7; clear hs7)) | (go_at_call 26; ((with_reducible refine (HLS.out _ _ _ (HS3.out.ev (((hb4.trans hb5).trans hb6).trans hb7))).mono ?_); rintro e w8 ⟨⟨B8, d8, rfl, hs8⟩, hb8⟩; have hG8 := hG7.trans hb8; clear q0 q1 q2 q3 q4; obtain ⟨q0, q1, q2, q3, q4⟩ := cells5 (hG8.heap HQ.out); have HS8 := hid hs8; clear hs8)) | (go_at_call 37; ((with_reducible refine (HPA.out _ _ _ _ _ (HS7.out.ev hb8) HS8.out).mono ?_); rintro e w9 ⟨rfl, hb9⟩; have hG9 := hG8.trans hb9; clear q0 q1 q2 q3 q4; obtain ⟨q0, q1, q2, q3, q4⟩ := cells5 (hG9.heap HQ.out))) | (go_at_call 59; ((with_reducible refine (HBT.out _).mono ?_); rintro e w10 ⟨⟨B10, d10, rfl, hs10⟩, hb10⟩; have hG10 := hG9.trans hb10; clear q0 q1 q2 q3 q4; obtain ⟨q0, q1, q2, q3, q4⟩ := cells5 (hG10.heap HQ.out); have HS10 := hid hs10; clear hs10)) | (go_at_call 58; ((with_reducible refine (HSH.out _ _ _ _ _ HS10.out (HS3.out.ev ((((((hb4.trans hb5).trans hb6).trans hb7).trans hb8).trans hb9).trans hb10))).mono ?_); rintro e w11 ⟨rfl, hb11⟩; have hG11 := hG10.trans hb11; clear q0 q1 q2 q3 q4; obtain ⟨q0, q1, q2, q3, q4⟩ := cells5 (hG11.heap HQ.out))) | (go_at_call 39; ((with_reducible refine (HS2n.out _ _ _ (HL4.out.ev ((((((hb5.trans hb6).trans hb7).trans hb8).trans hb9).trans hb10).trans hb11))).mono ?_); rintro e w12 ⟨rfl, hb12⟩; have hG12 := hG11.trans hb12; clear q0 q1 q2 q3 q4; obtain ⟨q0, q1, q2, q3, q4⟩ := cells5 (hG12.heap HQ.out))) | (go_at_call 21; ((with_reducible refine (awake_c _).mono ?_); rintro e w13 ⟨rfl, hb13⟩; have hG13 := hG12.trans hb13)))
        go_ret
        exact ⟨rfl, hE1.trans hG13⟩

end Go.Proofs.Ytcecmphdmpeibaa
