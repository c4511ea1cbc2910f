import Derived.Test.YtcecmphdmpeibaaL19
namespace Go.Proofs.Ytcecmphdmpeibaa
open Go.RowKit

/-- The rows of a list as bits, while it rises and has rows alone. -/
def M.rowsK (f : M.Fl) : List Int → Option Int → Nat → Nat × Bool
  | [], _, acc => (acc, true)
  | x :: r, prev, acc => if !M.isIn x 0 (f.rows - 1) || (match prev with | none => false | some p => decide (x ≤ p)) then (0, false) else M.rowsK f r (some x) (acc ||| 2 ^ x.toNat)

def M.notUp (prev : Option Int) (x : Int) : Bool := match prev with | none => false | some p => decide (x ≤ p)
theorem M.rowsK_cons (f : M.Fl) (x : Int) (r : List Int) (prev : Option Int) (acc : Nat) : M.rowsK f (x :: r) prev acc = if !M.isIn x 0 (f.rows - 1) || M.notUp prev x then (0, false) else M.rowsK f r (some x) (acc ||| 2 ^ x.toNat) := by cases prev <;> rfl

theorem or_fact7 {a i : Nat} (ha : a < 128) (hi : i ≤ 6) : wrap64 (2 ^ i) = 2 ^ i ∧ bits .or .i64 (a : Int) (2 ^ i) = ((a ||| 2 ^ i : Nat) : Int) ∧ a ||| 2 ^ i < 128 := by
  have h2 : 2 ^ i < 128 := by
    have : i = 0 ∨ i = 1 ∨ i = 2 ∨ i = 3 ∨ i = 4 ∨ i = 5 ∨ i = 6 := by omega
    rcases this with rfl | rfl | rfl | rfl | rfl | rfl | rfl <;> decide
  have h := (bits_three (a := a) (b := 2 ^ i) ha h2).2.1
  have hc : ((2 ^ i : Nat) : Int) = (2 : Int) ^ i := by simp
  rw [hc] at h
  exact ⟨(wrap_pow (by omega)).1, h, Nat.or_lt_two_pow (n := 7) ha h2⟩

set_option maxRecDepth 100000 in
set_option maxHeartbeats 2000000 in
theorem IsRows_c (f : M.Fl) (r1 : 1 ≤ f.rows) (r7 : f.rows ≤ 7) (A : Option Addr) (n c : Nat) (B : Option Addr) (m d : Nat) (l : List Int) (w : World) (ht : Sl ics 1 w w.heap.size B m d l) :
    Calls Try.prog 38 #[.agg #[.int .i64 f.rows, .int .i64 f.wds, .int .i64 f.lf.lo, .int .i64 f.lf.hi, .slice A n c], .slice B m d] w fun e w' => e = .returned (.tuple #[.int .i64 (M.rowsK f l none 0).1, .bool (M.rowsK f l none 0).2]) ∧ Ev w w' := by
  have hsm := ht.small
  go_enter Try.func38, Try.ntmps38
  go_wp2
  generalize hW0 : World.alloc w _ = W0
  have hE0 : Ev w W0 := by rw [← hW0]; exact Ev.alloc (Ev.refl _) _
  have hal := alloc1 w (.cells #[.int .i64 f.rows, .int .i64 f.wds, .int .i64 f.lf.lo, .int .i64 f.lf.hi, .slice A n c] 26)
  rw [hW0] at hal
  have HQ := hid hal.1
  clear hal hW0
  go_loopw [6, 7] (fun v i wr => ∃ k acc : Nat, v = .int .i64 acc ∧ i = .int .i64 k ∧ k ≤ m ∧ acc < 128 ∧ Ev W0 wr ∧ Hid (M.rowsK f (l.drop k) (if k = 0 then none else l[k - 1]?) acc = M.rowsK f l none 0)) (fun _ i _ => m - (intOf i).toNat)
  case atStart => exact ⟨0, 0, rfl, rfl, by omega, by omega, Ev.refl _, hid rfl⟩
  case round =>
    obtain ⟨k, acc, rfl, rfl, hk, hacc, hB, hT⟩ := hrel
    obtain ⟨q0, q1, q2, q3, q4⟩ := cells5 (hB.heap HQ.out)
    by_cases hlt : k < m
    · obtain ⟨b, off, x, rfl, hb, hx, hd, e0⟩ := ht.int (hE0.trans hB) hlt
      have s1 : IntKind.i64.wrap (f.rows - 1) = f.rows - 1 := IntWalk.i64_in _ (by omega)
      have hT2 := hT.out
      rw [hd, M.rowsK_cons] at hT2
      have HX := hid hx
      clear hx hd
      cases hin : M.isIn x 0 (f.rows - 1) with
      | false =>
        rw [hin] at hT2
        have HT2 := hid hT2
        clear hT2
        go_wp2_with (go_quiet ((go_at_call 33; exact Calls.quiet_of_same (In_s _ _ _ _))))
        go_ret2
        exact ⟨by rw [← HT2.out]; rfl, hE0.trans (hB.drewN _)⟩
      | true =>
        obtain ⟨xn, rfl⟩ : ∃ xn : Nat, x = xn := Int.eq_ofNat_of_zero_le (by
          simp only [M.isIn, Bool.and_eq_true, decide_eq_true_eq] at hin
          omega)
        have hx6 : xn ≤ 6 := by
          simp only [M.isIn, Bool.and_eq_true, decide_eq_true_eq] at hin
          omega
        obtain ⟨p1, p2, p3⟩ := or_fact7 (a := acc) (i := xn) hacc hx6
        rw [hin, Int.toNat_natCast] at hT2
        by_cases hk0 : k = 0
        · subst hk0
          simp only [Nat.add_zero] at e0
          have HT2 := hid (show M.rowsK f (l.drop 1) (some (xn : Int)) (acc ||| 2 ^ xn) = M.rowsK f l none 0 by simpa [M.notUp] using hT2)
          clear hT2
          generalize acc ||| 2 ^ xn = acc2 at p2 p3 HT2
          go_wp2_with (go_quiet ((go_at_call 33; exact Calls.quiet_of_same (In_s _ _ _ _))))
          refine ⟨⟨1, acc2, rfl, by go_num, by omega, p3, hB.drewN _, hid ?_⟩, by simp [intOf]; omega⟩
          rw [← HT2.out]
          simp [HX.out]
        · obtain ⟨k', rfl⟩ : ∃ k', k = k' + 1 := ⟨k - 1, by omega⟩
          obtain ⟨b2, off2, y, hA2, hb2, hy, _, e1⟩ := ht.int (hE0.trans hB) (show k' < m by omega)
          cases hA2
          rw [if_neg (show ¬ (k' + 1 = 0) by omega), Nat.add_sub_cancel, hy] at hT2
          have hk1 : ((k' + 1 : Nat) : Int) - 1 = (k' : Int) := by omega
          have s2 : IntKind.i64.wrap (((k' + 1 : Nat) : Int) - 1) = (k' : Int) := by rw [hk1]; exact IntWalk.i64_in _ (by omega)
          have s3 : IntKind.i64.wrap ((k' : Int) + 1 - 1) = (k' : Int) := by rw [show (k' : Int) + 1 - 1 = k' by omega]; exact IntWalk.i64_in _ (by omega)
          have hpos : (0 : Int) < (k' : Int) + 1 := by omega
          clear hk1
          have HY := hid hy
          clear hy hk0
          by_cases hle : (xn : Int) ≤ y
          · have HT2 := hid (show (0, false) = M.rowsK f l none 0 by simpa [M.notUp, hle] using hT2)
            clear hT2 p1 p2 p3
            go_wp2_with (go_quiet ((go_at_call 33; exact Calls.quiet_of_same (In_s _ _ _ _))))
            go_ret2
            exact ⟨by rw [← HT2.out]; rfl, hE0.trans (hB.drewN _)⟩
          · have HT2 := hid (show M.rowsK f (l.drop (k' + 1 + 1)) (some (xn : Int)) (acc ||| 2 ^ xn) = M.rowsK f l none 0 by simpa [M.notUp, hle] using hT2)
            have hle2 : y < (xn : Int) := by omega
            clear hT2
            generalize acc ||| 2 ^ xn = acc2 at p2 p3 HT2
            go_wp2_with (go_quiet ((go_at_call 33; exact Calls.quiet_of_same (In_s _ _ _ _))))
            refine ⟨⟨k' + 1 + 1, acc2, rfl, by go_num, by omega, p3, hB.drewN _, hid ?_⟩, by simp [intOf]; omega⟩
            rw [← HT2.out]
            simp [HX.out]
    · have hT2 := hT.out
      rw [ht.done hlt, M.rowsK] at hT2
      have HT2 := hid hT2
      clear hT2
      go_wp2
      go_ret2
      exact ⟨by rw [← HT2.out]; rfl, hE0.trans hB⟩

end Go.Proofs.Ytcecmphdmpeibaa
