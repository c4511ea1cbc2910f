import Derived.Test.YtcecmphdmpeibaaL30
set_option linter.unusedSimpArgs false
set_option linter.unusedVariables false
namespace Go.Proofs.Ytcecmphdmpeibaa
open Go.RowKit

theorem M.rises_at : ∀ (l : List Int) (k : Nat) (x y : Int), M.rises l = true → l[k]? = some y → l[k + 1]? = some x → y < x
  | [], k, x, y, _, h, _ => by simp at h
  | [a], k, x, y, _, _, h => by simp at h
  | a :: b :: r, k, x, y, h, h1, h2 => by
    rw [M.rises, Bool.and_eq_true, decide_eq_true_eq] at h
    cases k with
    | zero =>
      simp at h1 h2
      omega
    | succ k => exact M.rises_at (b :: r) k x y h.2 (by simpa using h1) (by simpa using h2)

def M.orAll (l : List Int) (acc : Nat) : Nat := l.foldl (fun a i => a ||| 2 ^ i.toNat) acc
theorem orAll_table : ((List.range 6).all fun n => (List.range (2 ^ n)).all fun b => decide (M.orAll (M.bits b) 0 = b)) = true := by decide +kernel

/-- What Leave's list is. -/
theorem M.leave_spec {f : M.Fl} (h : M.check f = 0) : ∃ b, b < 2 ^ f.ts.length ∧ M.orAll (M.leaveBest f) 0 = b ∧ M.can (M.rall f) ((2 ^ f.ts.length - 1) ^^^ ((2 ^ f.ts.length - 1) &&& b)) = true ∧ (M.leaveBest f).length ≤ 7 ∧ M.rises (M.leaveBest f) = true ∧ (∀ x ∈ M.leaveBest f, ∃ xn : Nat, x = xn ∧ xn < f.ts.length) ∧ ∀ t, t < 2 ^ f.ts.length → M.can (M.rall f) ((2 ^ f.ts.length - 1) ^^^ ((2 ^ f.ts.length - 1) &&& t)) = true → M.shorter (M.bits t) (M.leaveBest f) = false := by
  obtain ⟨_, _, _, _, _, n5⟩ := M.check_bd h
  have hP : 0 < 2 ^ f.ts.length := Nat.pow_pos (by omega)
  obtain ⟨h1, h2, h3⟩ := M.pick_spec (fun b => M.can (M.rall f) ((2 ^ f.ts.length - 1) ^^^ ((2 ^ f.ts.length - 1) &&& b))) (2 ^ f.ts.length - 1 + 1) 0 (M.bits (2 ^ f.ts.length - 1))
  rw [← M.leave_same h] at h1 h2 h3
  have hall : M.can (M.rall f) ((2 ^ f.ts.length - 1) ^^^ ((2 ^ f.ts.length - 1) &&& (2 ^ f.ts.length - 1))) = true := by
    rw [Nat.and_self, Nat.xor_self]; exact M.can_zero h
  have hc : ∃ c, c < 2 ^ f.ts.length ∧ M.can (M.rall f) ((2 ^ f.ts.length - 1) ^^^ ((2 ^ f.ts.length - 1) &&& c)) = true ∧ M.leaveBest f = M.bits c := by
    rcases h1 with h1 | ⟨c, _, h5, h6, h7⟩
    · exact ⟨_, by omega, hall, h1⟩
    · exact ⟨c, by omega, h6, h7⟩
  obtain ⟨c, hc, hqc, he⟩ := hc
  have hrise := M.bits_rise (sz := f.ts.length) (by omega) hc
  rw [← he] at hrise
  obtain ⟨_, g1, g2⟩ := (M.rises_rise _ _ _ (Int.le_refl _)).1 hrise
  have h0 := orAll_table
  rw [List.all_eq_true] at h0
  have h4 := h0 f.ts.length (List.mem_range.2 (by omega))
  rw [List.all_eq_true] at h4
  have h5 := h4 c (List.mem_range.2 hc)
  rw [decide_eq_true_eq, ← he] at h5
  have hl : (M.leaveBest f).length ≤ 7 := by
    rcases M.Rise_len hrise (by omega) with h | h
    · rw [h]; simp
    · omega
  exact ⟨c, hc, h5, hqc, hl, g1, fun x hx => by have := g2 x hx; exact ⟨x.toNat, by omega, by omega⟩, fun t ht hq => h3 t (Nat.zero_le _) (by omega) hq⟩

set_option maxRecDepth 100000 in
set_option maxHeartbeats 4000000 in
theorem weedLeft_c (f : M.Fl) (A : Option Addr) (n c : Nat) (a : Int) (a0 : 0 ≤ a) (a1 : a < 256) (w : World) (hs : n ≤ 7 → Sl tcs 5 w w.heap.size A n c f.ts) :
    Calls Try.prog 17 #[.agg #[.int .i64 f.rows, .int .i64 f.wds, .int .i64 f.lf.lo, .int .i64 f.lf.hi, .slice A n c], .int .u8 a] w fun e w' => e = .returned (.bool true) ∧ Ev w w' := by
  have hrd := fun W (hE : Ev w W) => ready_c f A n c W (fun h => (hs h).ev hE)
  cases hready : M.rdy f n with
  | false =>
    rw [hready] at hrd
    have HRD := hid hrd
    clear hrd hready hs
    go_enter Try.func17, Try.ntmps17
    go_wp2_with (first | (go_at_call 52; ((with_reducible refine (HRD.out _ (Ev.alloc (Ev.refl _) _)).mono ?_); rintro e w1 ⟨rfl, hb1⟩; have HQ := hid (hb1.heap (alloc1 w (.cells #[.int .i64 f.rows, .int .i64 f.wds, .int .i64 f.lf.lo, .int .i64 f.lf.hi, .slice A n c] 26)).1); obtain ⟨q0, q1, q2, q3, q4⟩ := cells5 HQ.out; have hE1 : Ev w w1 := Ev.trans (Ev.alloc (Ev.refl _) _) hb1; have hG1 := Ev.refl w1)) | (go_at_call 21; ((with_reducible refine (awake_c _).mono ?_); rintro e w2 ⟨rfl, hb2⟩; have hG2 := hG1.trans hb2)))
    go_ret
    exact ⟨rfl, hE1.trans hG2⟩
  | true =>
    rw [hready] at hrd
    unfold M.rdy at hready
    simp only [Bool.and_eq_true, decide_eq_true_eq] at hready
    obtain ⟨⟨h7, _⟩, h0⟩ := hready
    replace hs := hs h7
    obtain ⟨r1, r7, d1, d3, _, n5'⟩ := M.check_bd h0
    have hsl := hs.len
    have n5 : n ≤ 5 := by omega
    obtain ⟨b, hb, hob, hcb, hbl, hri, hel, hsho⟩ := M.leave_spec h0
    rw [hsl] at hb hcb hel hsho
    have hfd := fun W (hE : Ev w W) => Field_c f A n c (by omega) W (hs.ev hE)
    have hlv := fun B d W (h : Sl tcs 5 W W.heap.size B n d f.ts) => Leave_c f B n d W h
    have hfl := fun W => Full_c f.rows f.wds f.lf.lo f.lf.hi A n c n5 W
    simp only [h0, ↓reduceIte] at hlv
    unfold fv at hlv
    have hpw := pow_lt128 (n := n) (by omega)
    obtain ⟨t, ht1, ht2⟩ := and_mask a0 a1 (r := n) (by omega)
    have hP : 0 < 2 ^ n := Nat.pow_pos (by omega)
    obtain ⟨_, _, an1⟩ := bits_three (a := 2 ^ n - 1) (b := b) hpw (by omega)
    obtain ⟨_, _, an2⟩ := bits_three (a := 2 ^ n - 1) (b := t) hpw (by omega)
    have x1 : (2 ^ n - 1) ^^^ ((2 ^ n - 1) &&& b) < 2 ^ n := Nat.xor_lt_two_pow (by omega) (Nat.lt_of_le_of_lt Nat.and_le_left (by omega))
    have x2 : (2 ^ n - 1) ^^^ ((2 ^ n - 1) &&& t) < 2 ^ n := Nat.xor_lt_two_pow (by omega) (Nat.lt_of_le_of_lt Nat.and_le_left (by omega))
    have hs2 := hsho t (by omega)
    have e1 := M.begin_sub h0 (by rw [hsl]; exact x1)
    have e2 := M.begin_sub h0 (by rw [hsl]; exact x2)
    rw [hcb, if_pos rfl] at e1
    have hbt := fun W => Bits_c t (by omega) W
    have hsh := fun B1 d1 B2 d2 W h1 h2 => Shorter_c B1 B2 (M.bits t).length d1 (M.leaveBest f).length d2 (M.bits t) (M.leaveBest f) W h1 h2
    generalize (2 ^ n - 1) ^^^ ((2 ^ n - 1) &&& b) = y1 at an1 x1 e1
    generalize (2 ^ n - 1) ^^^ ((2 ^ n - 1) &&& t) = y2 at an2 x2 e2 hs2
    have hsm1 := fun W (hE : Ev w W) => some_c f A n c (by omega) (y1) (by omega) W (hs.ev hE)
    have hfd1 : ∀ B d W (h : Sl tcs 5 W W.heap.size B (M.keepK (y1) f.ts 0).length d (M.keepK (y1) f.ts 0)), Calls Try.prog 24 #[.agg #[.int .i64 f.rows, .int .i64 f.wds, .int .i64 f.lf.lo, .int .i64 f.lf.hi, .slice B (M.keepK (y1) f.ts 0).length d]] W fun e w' => (∃ B' d', e = .returned (.agg #[.int .i64 f.rows, .int .i64 f.wds, .int .i64 f.lf.lo, .int .i64 f.lf.hi, .slice B' (M.keepK (y1) f.ts 0).length d']) ∧ Sl tcs 5 w' w'.heap.size B' (M.keepK (y1) f.ts 0).length d' (M.keepK (y1) f.ts 0)) ∧ Ev W w' := fun B d W h => Field_c (M.subF f (y1)) B _ d (by have := M.keepK_len (y1) f.ts 0; omega) W h
    have hdn1 : ∀ B d W (h : Sl tcs 5 W W.heap.size B (M.keepK (y1) f.ts 0).length d (M.keepK (y1) f.ts 0)), Calls Try.prog 28 #[.agg #[.int .i64 f.rows, .int .i64 f.wds, .int .i64 f.lf.lo, .int .i64 f.lf.hi, .slice B (M.keepK (y1) f.ts 0).length d]] W fun e w' => (∃ v, e = .returned (.tuple #[v, .int .i64 (M.begin (M.subF f (y1)) true)])) ∧ Ev W w' := fun B d W h => done_w (M.subF f (y1)) B _ d W h
    have hsm2 := fun W (hE : Ev w W) => some_c f A n c (by omega) (y2) (by omega) W (hs.ev hE)
    have hfd2 : ∀ B d W (h : Sl tcs 5 W W.heap.size B (M.keepK (y2) f.ts 0).length d (M.keepK (y2) f.ts 0)), Calls Try.prog 24 #[.agg #[.int .i64 f.rows, .int .i64 f.wds, .int .i64 f.lf.lo, .int .i64 f.lf.hi, .slice B (M.keepK (y2) f.ts 0).length d]] W fun e w' => (∃ B' d', e = .returned (.agg #[.int .i64 f.rows, .int .i64 f.wds, .int .i64 f.lf.lo, .int .i64 f.lf.hi, .slice B' (M.keepK (y2) f.ts 0).length d']) ∧ Sl tcs 5 w' w'.heap.size B' (M.keepK (y2) f.ts 0).length d' (M.keepK (y2) f.ts 0)) ∧ Ev W w' := fun B d W h => Field_c (M.subF f (y2)) B _ d (by have := M.keepK_len (y2) f.ts 0; omega) W h
    have hdn2 : ∀ B d W (h : Sl tcs 5 W W.heap.size B (M.keepK (y2) f.ts 0).length d (M.keepK (y2) f.ts 0)), Calls Try.prog 28 #[.agg #[.int .i64 f.rows, .int .i64 f.wds, .int .i64 f.lf.lo, .int .i64 f.lf.hi, .slice B (M.keepK (y2) f.ts 0).length d]] W fun e w' => (∃ v, e = .returned (.tuple #[v, .int .i64 (M.begin (M.subF f (y2)) true)])) ∧ Ev W w' := fun B d W h => done_w (M.subF f (y2)) B _ d W h
    rw [e1] at hdn1
    rw [e2] at hdn2
    generalize M.keepK y1 f.ts 0 = ts1 at hsm1 hfd1 hdn1
    generalize M.keepK y2 f.ts 0 = ts2 at hsm2 hfd2 hdn2
    generalize ts1.length = m1 at hsm1 hfd1 hdn1
    generalize ts2.length = m2 at hsm2 hfd2 hdn2
    generalize M.bits t = bt at hbt hsh hs2
    generalize M.leaveBest f = best at hlv hob hbl hri hel hsh hs2
    generalize M.can (M.rall f) y2 = cn at hdn2 hs2
    generalize 2 ^ n - 1 = F at hfl ht2 an1 an2
    have hsb : Hid (∀ (k : Nat) (x : Int), best[k]? = some x → ∃ xn : Nat, x = xn ∧ xn < n) := hid (fun k x hx => hel x (List.mem_of_getElem? hx))
    have hup : Hid (∀ (k : Nat) (x y : Int), best[k]? = some y → best[k + 1]? = some x → y < x) := hid (fun k x y => M.rises_at best k x y hri)
    have HOB := hid hob
    have HFL := hid hfl
    have HRD := hid hrd
    have HFD := hid hfd
    have HLV := hid hlv
    have HSM1 := hid hsm1
    have HFD1 := hid hfd1
    have HDN1 := hid hdn1
    have HSM2 := hid hsm2
    have HFD2 := hid hfd2
    have HDN2 := hid hdn2
    have HBT := hid hbt
    have HSH := hid hsh
    have HS2N := hid hs2
    have HT2 := hid ht2
    clear hrd hfd hlv hfl h0 hs hsl hsm1 hfd1 hdn1 hsm2 hfd2 hdn2 hbt hsh hs2 e1 e2 hcb hel hsho hri hob hpw hP x1 x2 ht2
    go_enter Try.func17, Try.ntmps17
    go_wp2_with (first | (go_at_call 52; ((with_reducible refine (HRD.out _ (Ev.alloc (Ev.refl _) _)).mono ?_); rintro e w1 ⟨rfl, hb1⟩; have HQ := hid (hb1.heap (alloc1 w (.cells #[.int .i64 f.rows, .int .i64 f.wds, .int .i64 f.lf.lo, .int .i64 f.lf.hi, .slice A n c] 26)).1); obtain ⟨q0, q1, q2, q3, q4⟩ := cells5 HQ.out; have hE1 : Ev w w1 := Ev.trans (Ev.alloc (Ev.refl _) _) hb1; have hG1 := Ev.refl w1)) | (go_at_call 24; ((with_reducible refine (HFD.out _ hE1).mono ?_); rintro e w2 ⟨⟨B2, d2, rfl, hs2⟩, hb2⟩; have hG2 := hG1.trans hb2; clear q0 q1 q2 q3 q4; obtain ⟨q0, q1, q2, q3, q4⟩ := cells5 (hG2.heap HQ.out); have HS2 := hid hs2; clear hs2)) | (go_at_call 44; ((with_reducible refine (HLV.out _ _ _ HS2.out).mono ?_); rintro e w3 ⟨⟨B3, d3', rfl, hs3⟩, hb3⟩; have hG3 := hG2.trans hb3; clear q0 q1 q2 q3 q4; obtain ⟨q0, q1, q2, q3, q4⟩ := cells5 (hG3.heap HQ.out); have HS3 := hid hs3; clear hs3)))
    have hE3 := hE1.trans hG3
    go_loopw [7, 8] (fun v i wr => ∃ k acc : Nat, v = .int .i64 acc ∧ i = .int .i64 k ∧ k ≤ best.length ∧ acc < 128 ∧ Ev w3 wr ∧ Hid (M.orAll (best.drop k) acc = b)) (fun _ i _ => best.length - (intOf i).toNat)
    case atStart => exact ⟨0, 0, rfl, rfl, by omega, by omega, Ev.refl _, HOB⟩
    case round =>
      obtain ⟨k, acc, rfl, rfl, hk, hacc, hB, hT⟩ := hrel
      clear q0 q1 q2 q3 q4
      obtain ⟨q0, q1, q2, q3, q4⟩ := cells5 ((hG3.trans hB).heap HQ.out)
      have ht := HS3.out
      have hcap := ht.cap
      by_cases hlt : k < best.length
      · obtain ⟨bb, off, x, rfl, hbb, hx, hd, e0⟩ := ht.int hB hlt
        have s1 : IntKind.i64.wrap ((n : Int) - 1) = (n : Int) - 1 := IntWalk.i64_in _ (by omega)
        have hT2 := hT.out
        rw [hd] at hT2
        obtain ⟨xn, rfl, hxn⟩ := hsb.out k x hx
        have hT3 : M.orAll (best.drop (k + 1)) (acc ||| 2 ^ xn) = b := hT2
        have hin : M.isIn (xn : Int) 0 ((n : Int) - 1) = true := by
          unfold M.isIn
          simp only [Bool.and_eq_true, decide_eq_true_eq]
          omega
        obtain ⟨p1, p2, p3⟩ := or_fact7 (a := acc) (i := xn) hacc (by omega)
        have HT3 := hid hT3
        clear hT2 hT3 hd ht
        generalize acc ||| 2 ^ xn = acc2 at p2 p3 HT3
        by_cases hk0 : k = 0
        · subst hk0
          simp only [Nat.add_zero] at e0
          clear hx
          go_wp2_with (go_quiet ((go_at_call 33; exact Calls.quiet_of_same (In_s _ _ _ _))))
          exact ⟨⟨1, acc2, rfl, by go_num, by omega, p3, hB.drewN _, HT3⟩, by simp [intOf]; omega⟩
        · obtain ⟨k', rfl⟩ : ∃ k', k = k' + 1 := ⟨k - 1, by omega⟩
          obtain ⟨b2, off2, y, hA2, hb2, hy, _, e1⟩ := HS3.out.int hB (show k' < best.length by omega)
          cases hA2
          have hk1 : ((k' + 1 : Nat) : Int) - 1 = (k' : Int) := by omega
          have s2 : IntKind.i64.wrap (((k' + 1 : Nat) : Int) - 1) = (k' : Int) := by rw [hk1]; exact IntWalk.i64_in _ (by omega)
          have s3 : IntKind.i64.wrap ((k' : Int) + 1 - 1) = (k' : Int) := by rw [show (k' : Int) + 1 - 1 = k' by omega]; exact IntWalk.i64_in _ (by omega)
          have hpos : (0 : Int) < (k' : Int) + 1 := by omega
          have hlt2 := hup.out k' _ _ hy hx
          have hle : ¬ (xn : Int) ≤ y := by omega
          clear hk1 hy hk0 hx
          go_wp2_with (go_quiet ((go_at_call 33; exact Calls.quiet_of_same (In_s _ _ _ _))))
          exact ⟨⟨k' + 1 + 1, acc2, rfl, by go_num, by omega, p3, hB.drewN _, HT3⟩, by simp [intOf]; omega⟩
      · have hab : acc = b := by rw [← hT.out, List.drop_eq_nil_of_le (by omega)]; rfl
        subst hab
        have ht2 := HT2.out
        go_wp2_with (first | (go_at_call 63; ((with_reducible refine (HFL.out _).mono ?_); rintro e w4 ⟨rfl, hb4⟩; clear q0 q1 q2 q3 q4; obtain ⟨q0, q1, q2, q3, q4⟩ := cells5 (((hG3.trans hB).trans hb4).heap HQ.out))))
        have hE4 := (hE3.trans hB).trans hb4
        have hlq := heap_lt (((hG3.trans hB).trans hb4).heap HQ.out)
        have HSE1 : Hid (∀ w', Ev w4 w' → Ev w4 w' ∧ (∀ o, w'.cell? ⟨w.heap.size, o, none⟩ = w4.cell? ⟨w.heap.size, o, none⟩)) := hid (fun w' h => ⟨h, fun o => h.cells.1 _ o (by have := (hE4).size; omega)⟩)
        go_region_held3 (fun w' => Ev w4 w' ∧ (∀ o, w'.cell? ⟨w.heap.size, o, none⟩ = w4.cell? ⟨w.heap.size, o, none⟩)) (exact HSE1.out _ (by repeat (first | with_reducible exact Ev.refl w4 | (with_reducible assumption) | with_reducible refine Ev.drew ?_))) (first | (go_at_call 63; with_reducible refine (HFL.out _).mono ?_; rintro e w5 ⟨rfl, hb5⟩; have hc5 : Ev w4 w5 := (by first | exact (Ev.refl _).trans hb5 | exact (Ev.drew (Ev.refl _)).trans hb5)) | (go_at_call 62; with_reducible refine (HSM1.out _ ((hE4).trans (by first | exact hc5 | exact Ev.drew hc5))).mono ?_; rintro e w6 ⟨⟨B6, d6, rfl, hs6⟩, hb6⟩; have hc6 : Ev w4 w6 := (by first | exact (hc5).trans hb6 | exact (Ev.drew (hc5)).trans hb6); have HS6 := hid hs6; clear hs6) | (go_at_call 24; with_reducible refine (HFD1.out _ _ _ (by first | exact HS6.out | exact HS6.out.ev (Ev.drew (Ev.refl _)))).mono ?_; rintro e w7 ⟨⟨B7, d7, rfl, hs7⟩, hb7⟩; have hc7 : Ev w4 w7 := (by first | exact (hc6).trans hb7 | exact (Ev.drew (hc6)).trans hb7); have HS7 := hid hs7; clear hs7) | (go_at_call 28; with_reducible refine (HDN1.out _ _ _ (by first | exact HS7.out | exact HS7.out.ev (Ev.drew (Ev.refl _)))).mono ?_; rintro e w8 ⟨⟨v8, rfl⟩, hb8⟩; have hc8 : Ev w4 w8 := (by first | exact (hc7).trans hb8 | exact (Ev.drew (hc7)).trans hb8)))
        have hE8 := hE4.trans hc8
        have hQ8 := (((hG3.trans hB).trans hb4).trans hc8).heap HQ.out
        clear ht2
        obtain ⟨r0, r1', r2, r3, r4⟩ := cells5 hQ8
        have hlq8 := heap_lt hQ8
        have HQ8 := hid hQ8
        clear hQ8 an1
        cases cn with
        | true =>
          have hsh2 := HSH.out
          rw [HS2N.out rfl] at hsh2
          have HSH2 := hid hsh2
          have hdn2 := HDN2.out
          simp only [↓reduceIte] at hdn2
          clear hsh2 HDN2
          have HDN2 := hid hdn2
          clear hdn2
          go_wp2_with fail
          have HSE2 : Hid (∀ w', Ev w8 w' → Ev w8 w' ∧ (∀ o, w'.cell? ⟨w.heap.size, o, none⟩ = w8.cell? ⟨w.heap.size, o, none⟩)) := hid (fun w' h => ⟨h, fun o => h.cells.1 _ o (by have := (hE8).size; omega)⟩)
          go_region_held3 (fun w' => Ev w8 w' ∧ (∀ o, w'.cell? ⟨w.heap.size, o, none⟩ = w8.cell? ⟨w.heap.size, o, none⟩)) (exact HSE2.out _ (by repeat (first | with_reducible exact Ev.refl w8 | (with_reducible assumption) | with_reducible refine Ev.drew ?_))) (first | (go_at_call 63; with_reducible refine (HFL.out _).mono ?_; rintro e w9 ⟨rfl, hb9⟩; have hc9 : Ev w8 w9 := (by first | exact (Ev.refl _).trans hb9 | exact (Ev.drew (Ev.refl _)).trans hb9)) | (go_at_call 62; with_reducible refine (HSM2.out _ ((hE8).trans (by first | exact hc9 | exact Ev.drew hc9))).mono ?_; rintro e w10 ⟨⟨B10, d10, rfl, hs10⟩, hb10⟩; have hc10 : Ev w8 w10 := (by first | exact (hc9).trans hb10 | exact (Ev.drew (hc9)).trans hb10); have HS10 := hid hs10; clear hs10) | (go_at_call 24; with_reducible refine (HFD2.out _ _ _ (by first | exact HS10.out | exact HS10.out.ev (Ev.drew (Ev.refl _)))).mono ?_; rintro e w11 ⟨⟨B11, d11, rfl, hs11⟩, hb11⟩; have hc11 : Ev w8 w11 := (by first | exact (hc10).trans hb11 | exact (Ev.drew (hc10)).trans hb11); have HS11 := hid hs11; clear hs11) | (go_at_call 28; with_reducible refine (HDN2.out _ _ _ (by first | exact HS11.out | exact HS11.out.ev (Ev.drew (Ev.refl _)))).mono ?_; rintro e w12 ⟨⟨v12, rfl⟩, hb12⟩; have hc12 : Ev w8 w12 := (by first | exact (hc11).trans hb12 | exact (Ev.drew (hc11)).trans hb12)))
          have hE12 := hE8.trans hc12
          have hS12 := HS3.out.ev (((hB.trans hb4).trans hc8).trans hc12)
          have HS12 := hid hS12
          clear q0 q1 q2 q3 q4 r0 r1' r2 r3 r4 hS12
          go_wp2_with (first | (go_at_call 59; ((with_reducible refine (HBT.out _).mono ?_); rintro e w13 ⟨⟨B13, d13, rfl, hs13⟩, hb13⟩; have HS13 := hid hs13; clear hs13)) | (go_at_call 58; ((with_reducible refine (HSH2.out _ _ _ _ _ HS13.out (HS12.out.ev hb13)).mono ?_); rintro e w14 ⟨rfl, hb14⟩)) | (go_at_call 21; ((with_reducible refine (awake_c _).mono ?_); rintro e w15 ⟨rfl, hb15⟩)))
          go_ret
          exact ⟨rfl, ((hE12.trans hb13).trans hb14).trans hb15⟩
        | false =>
          have hdn2 := HDN2.out
          simp only [Bool.false_eq_true, ↓reduceIte] at hdn2
          clear HDN2
          have HDN2 := hid hdn2
          clear hdn2
          go_wp2_with fail
          have HSE2 : Hid (∀ w', Ev w8 w' → Ev w8 w' ∧ (∀ o, w'.cell? ⟨w.heap.size, o, none⟩ = w8.cell? ⟨w.heap.size, o, none⟩)) := hid (fun w' h => ⟨h, fun o => h.cells.1 _ o (by have := (hE8).size; omega)⟩)
          go_region_held3 (fun w' => Ev w8 w' ∧ (∀ o, w'.cell? ⟨w.heap.size, o, none⟩ = w8.cell? ⟨w.heap.size, o, none⟩)) (exact HSE2.out _ (by repeat (first | with_reducible exact Ev.refl w8 | (with_reducible assumption) | with_reducible refine Ev.drew ?_))) (first | (go_at_call 63; with_reducible refine (HFL.out _).mono ?_; rintro e w9 ⟨rfl, hb9⟩; have hc9 : Ev w8 w9 := (by first | exact (Ev.refl _).trans hb9 | exact (Ev.drew (Ev.refl _)).trans hb9)) | (go_at_call 62; with_reducible refine (HSM2.out _ ((hE8).trans (by first | exact hc9 | exact Ev.drew hc9))).mono ?_; rintro e w10 ⟨⟨B10, d10, rfl, hs10⟩, hb10⟩; have hc10 : Ev w8 w10 := (by first | exact (hc9).trans hb10 | exact (Ev.drew (hc9)).trans hb10); have HS10 := hid hs10; clear hs10) | (go_at_call 24; with_reducible refine (HFD2.out _ _ _ (by first | exact HS10.out | exact HS10.out.ev (Ev.drew (Ev.refl _)))).mono ?_; rintro e w11 ⟨⟨B11, d11, rfl, hs11⟩, hb11⟩; have hc11 : Ev w8 w11 := (by first | exact (hc10).trans hb11 | exact (Ev.drew (hc10)).trans hb11); have HS11 := hid hs11; clear hs11) | (go_at_call 28; with_reducible refine (HDN2.out _ _ _ (by first | exact HS11.out | exact HS11.out.ev (Ev.drew (Ev.refl _)))).mono ?_; rintro e w12 ⟨⟨v12, rfl⟩, hb12⟩; have hc12 : Ev w8 w12 := (by first | exact (hc11).trans hb12 | exact (Ev.drew (hc11)).trans hb12)))
          have hE12 := hE8.trans hc12
          clear q0 q1 q2 q3 q4 r0 r1' r2 r3 r4
          go_wp2_with (first | (go_at_call 21; ((with_reducible refine (awake_c _).mono ?_); rintro e w15 ⟨rfl, hb15⟩)))
          go_ret
          exact ⟨rfl, hE12.trans hb15⟩

end Go.Proofs.Ytcecmphdmpeibaa
