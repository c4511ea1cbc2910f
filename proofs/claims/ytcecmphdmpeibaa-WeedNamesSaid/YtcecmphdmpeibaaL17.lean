import Derived.Test.YtcecmphdmpeibaaL16
namespace Go.Proofs.Ytcecmphdmpeibaa
open Go.RowKit

/-- The first number of tallies that are not right together. -/
def M.rfirst (all : List Nat) : Nat → Nat → Int
  | _, 0 => -1
  | k, j + 1 => if M.can all (2 ^ (k + 1) - 1) then M.rfirst all (k + 1) j else (k : Int)

theorem wrap_pow2 {n : Nat} (hn : n ≤ 4) : wrap64 (2 * 2 ^ n) = 2 * 2 ^ n ∧ wrap64 (2 * (2 : Int) ^ n - 1) = ((2 ^ (n + 1) - 1 : Nat) : Int) := by
  have : n = 0 ∨ n = 1 ∨ n = 2 ∨ n = 3 ∨ n = 4 := by omega
  rcases this with rfl | rfl | rfl | rfl | rfl <;> decide +kernel
theorem pow_lt128 {n : Nat} (hn : n ≤ 7) : 2 ^ n - 1 < 128 := by
  have : n = 0 ∨ n = 1 ∨ n = 2 ∨ n = 3 ∨ n = 4 ∨ n = 5 ∨ n = 6 ∨ n = 7 := by omega
  rcases this with rfl | rfl | rfl | rfl | rfl | rfl | rfl | rfl <;> decide

set_option maxRecDepth 100000 in
set_option maxHeartbeats 1000000 in
theorem rFirst_c (rows wds lo hi : Int) (A : Option Addr) (n c : Nat) (hn : n ≤ 5) (B : Option Addr) (m d : Nat) (all : List Nat) (hall : ∀ a ∈ all, a < 128) (w : World) (hs : Sl ncs 1 w w.heap.size B m d all) :
    Calls Try.prog 47 #[.agg #[.int .i64 rows, .int .i64 wds, .int .i64 lo, .int .i64 hi, .slice A n c], .slice B m d] w fun e w' => e = .returned (.int .i64 (M.rfirst all 0 n)) ∧ Ev w w' := by
  have HS := hid hs
  clear hs
  go_enter Try.func47, Try.ntmps47
  go_wp2
  generalize hW0 : World.alloc w _ = W0
  have hE0 : Ev w W0 := by rw [← hW0]; exact Ev.alloc (Ev.refl _) _
  have hal := alloc1 w (.cells #[.int .i64 rows, .int .i64 wds, .int .i64 lo, .int .i64 hi, .slice A n c] 26)
  rw [hW0] at hal
  obtain ⟨q0, q1, q2, q3, q4⟩ := cells5 hal.1
  clear hal hW0
  go_loop [5] (fun i => ∃ k : Nat, i = .int .i64 k ∧ k ≤ n ∧ Hid (M.rfirst all k (n - k) = M.rfirst all 0 n)) (fun i => n - (intOf i).toNat)
  case atStart => exact ⟨0, rfl, by omega, hid rfl⟩
  case round =>
    obtain ⟨k, rfl, hk, hT⟩ := hrel
    by_cases hlt : k < n
    · obtain ⟨p1, p2⟩ := wrap_pow2 (n := k) (by omega)
      have hcan := Can_c B m d all hall (2 ^ (k + 1) - 1) (pow_lt128 (by omega)) W0 (HS.out.ev hE0)
      have hT2 := hT.out
      rw [show n - k = (n - (k + 1)) + 1 from by omega, M.rfirst] at hT2
      cases hc : M.can all (2 ^ (k + 1) - 1) with
      | true =>
        rw [hc] at hcan hT2
        have HT2 := hid hT2
        have HCAN := hid hcan
        clear hT2 hcan hc
        go_wp2_with (go_at_call 96; ((with_reducible refine HCAN.out.mono ?_); rintro e w1 ⟨rfl, rfl⟩))
        go_round
        case rel => exact ⟨k + 1, by go_num, by omega, HT2⟩
        case measure => simp [intOf]; omega
      | false =>
        rw [hc] at hcan hT2
        have HT2 := hid hT2
        have HCAN := hid hcan
        clear hT2 hcan hc
        go_wp2_with (go_at_call 96; ((with_reducible refine HCAN.out.mono ?_); rintro e w1 ⟨rfl, rfl⟩))
        go_ret
        exact ⟨ret_int (by rw [← HT2.out]; rfl), hE0⟩
    · have hT2 := hT.out
      rw [show n - k = 0 from by omega] at hT2
      have HT2 := hid hT2
      clear hT2
      go_wp2
      go_ret
      exact ⟨ret_int (by rw [← HT2.out]; rfl), hE0⟩

/-- The shortest of some lists: those of the numbers from b on, by a test. -/
def M.pick (p : Nat → Bool) : Nat → Nat → List Int → List Int
  | _, 0, best => best
  | b, j + 1, best => M.pick p (b + 1) j (if M.shorter (M.bits b) best && p b then M.bits b else best)

set_option maxRecDepth 100000 in
set_option maxHeartbeats 2000000 in
theorem rLeave_k (rows wds lo hi : Int) (A : Option Addr) (n c F : Nat) (hF : F ≤ 31) (hfull : ∀ W, Calls Try.prog 63 #[.agg #[.int .i64 rows, .int .i64 wds, .int .i64 lo, .int .i64 hi, .slice A n c]] W fun e w' => e = .returned (.int .i64 F) ∧ Ev W w') (B : Option Addr) (m d : Nat) (all : List Nat) (hall : ∀ a ∈ all, a < 128) (w : World) (hs : Sl ncs 1 w w.heap.size B m d all) :
    Calls Try.prog 46 #[.agg #[.int .i64 rows, .int .i64 wds, .int .i64 lo, .int .i64 hi, .slice A n c], .slice B m d] w fun e w' => (∃ B d, e = .returned (.slice B (M.pick (fun b => M.can all (F ^^^ (F &&& b))) 0 (F + 1) (M.bits F)).length d) ∧ Sl ics 1 w' w'.heap.size B (M.pick (fun b => M.can all (F ^^^ (F &&& b))) 0 (F + 1) (M.bits F)).length d (M.pick (fun b => M.can all (F ^^^ (F &&& b))) 0 (F + 1) (M.bits F))) ∧ Ev w w' := by
  have HFULL := hid hfull
  generalize hpp : (fun b => M.can all (F ^^^ (F &&& b))) = p
  have hpk : ∀ k, p k = M.can all (F ^^^ (F &&& k)) := fun k => by rw [← hpp]
  generalize htg : M.pick p 0 (F + 1) (M.bits F) = target
  have HPK := hid hpk
  have HTG := hid htg
  have HS := hid hs
  clear hfull hpp hpk htg hs
  go_enter Try.func46, Try.ntmps46
  go_wp2_with (first | (go_at_call 63; ((with_reducible refine (HFULL.out _).mono ?_); rintro e w1 ⟨rfl, hb1⟩; have HQ := hid (hb1.heap (alloc1 w (.cells #[.int .i64 rows, .int .i64 wds, .int .i64 lo, .int .i64 hi, .slice A n c] 26)).1); have hE1 : Ev w w1 := Ev.trans (Ev.alloc (Ev.refl _) _) hb1)) | (go_at_call 59; ((with_reducible refine (Bits_c F (by omega) _).mono ?_); rintro e w2 ⟨⟨B2, d2, rfl, hs2⟩, hb2⟩; have HS2 := hid hs2; clear hs2)))
  have HQ2 := hid (hb2.heap HQ.out)
  have hE2 := hE1.trans hb2
  clear HQ
  go_loopw [5, 6] (fun v i wr => ∃ k : Nat, ∃ best : List Int, ∃ Bs : Option Addr, ∃ ms ds : Nat, v = .slice Bs ms ds ∧ i = .int .i64 k ∧ k ≤ F + 1 ∧ Ev w wr ∧ Hid (wr.heap[w.heap.size]? = some (.cells #[.int .i64 rows, .int .i64 wds, .int .i64 lo, .int .i64 hi, .slice A n c] 26 (0, 0))) ∧ Hid (Sl ics 1 wr wr.heap.size Bs ms ds best) ∧ Hid (M.pick p k (F + 1 - k) best = target)) (fun _ i _ => F + 1 - (intOf i).toNat)
  case atStart => exact ⟨0, M.bits F, B2, _, d2, rfl, rfl, by omega, hE2, HQ2, HS2, HTG⟩
  case round =>
    obtain ⟨k, best, Bs, ms, ds, rfl, rfl, hk, hB, hQ, hS, hT⟩ := hrel
    obtain ⟨q0, q1, q2, q3, q4⟩ := cells5 hQ.out
    have hlq := heap_lt hQ.out
    by_cases hlt : k < F + 1
    · have hltI : (k : Int) ≤ F := by omega
      have hT2 := hT.out
      rw [show F + 1 - k = (F + 1 - (k + 1)) + 1 from by omega, M.pick] at hT2
      have hsh := fun B1 d1 B2 d2 W h1 h2 => Shorter_c B1 B2 (M.bits k).length d1 ms d2 (M.bits k) best W h1 h2
      obtain ⟨_, _, han⟩ := bits_three (a := F) (b := k) (by omega) (by omega)
      have hz128 : F ^^^ (F &&& k) < 128 := Nat.xor_lt_two_pow (n := 7) (show F < 2 ^ 7 by omega) (Nat.lt_of_le_of_lt Nat.and_le_left (show F < 2 ^ 7 by omega))
      have hcan := fun W (hE : Ev w W) => Can_c B m d all hall (F ^^^ (F &&& k)) hz128 W (HS.out.ev hE)
      have hpk := HPK.out k
      generalize F ^^^ (F &&& k) = z at han hcan hpk
      cases hss : M.shorter (M.bits k) best with
      | false =>
        rw [hss] at hsh hT2
        have HT2 := hid hT2
        have HSH := hid hsh
        clear hT2 hsh hss hcan hpk han hz128
        go_wp2_with (first | (go_at_call 63; ((with_reducible refine (HFULL.out _).mono ?_); rintro e w1 ⟨rfl, hb1⟩; clear q0 q1 q2 q3 q4; obtain ⟨q0, q1, q2, q3, q4⟩ := cells5 (hb1.heap hQ.out))) | (go_at_call 59; ((with_reducible refine (Bits_c k (by omega) _).mono ?_); rintro e w2 ⟨⟨B2, d2, rfl, hs2⟩, hb2⟩; have HS2 := hid hs2; clear hs2; clear q0 q1 q2 q3 q4; obtain ⟨q0, q1, q2, q3, q4⟩ := cells5 ((hb1.trans hb2).heap hQ.out))) | (go_at_call 58; ((with_reducible refine (HSH.out _ _ _ _ _ HS2.out (hS.out.ev (hb1.trans hb2))).mono ?_); rintro e w3 ⟨rfl, hb3⟩; clear q0 q1 q2 q3 q4; obtain ⟨q0, q1, q2, q3, q4⟩ := cells5 (((hb1.trans hb2).trans hb3).heap hQ.out))))
        have hG := (hb1.trans hb2).trans hb3
        exact ⟨⟨k + 1, best, Bs, ms, ds, rfl, by go_num, by omega, hB.trans hG, hid (hG.heap hQ.out), hid (hS.out.ev hG), hid (by have := HT2.out; simpa using this)⟩, by simp [intOf]; omega⟩
      | true =>
        rw [hss] at hsh hT2
        cases hcc : M.can all z with
        | false =>
          rw [hcc] at hcan hpk
          rw [hpk] at hT2
          have HT2 := hid hT2
          have HSH := hid hsh
          have HCAN := hid hcan
          clear hT2 hsh hss hcan hpk hcc hz128
          go_wp2_with (first | (go_at_call 63; ((with_reducible refine (HFULL.out _).mono ?_); rintro e w1 ⟨rfl, hb1⟩; clear q0 q1 q2 q3 q4; obtain ⟨q0, q1, q2, q3, q4⟩ := cells5 (hb1.heap hQ.out))) | (go_at_call 59; ((with_reducible refine (Bits_c k (by omega) _).mono ?_); rintro e w2 ⟨⟨B2, d2, rfl, hs2⟩, hb2⟩; have HS2 := hid hs2; clear hs2; clear q0 q1 q2 q3 q4; obtain ⟨q0, q1, q2, q3, q4⟩ := cells5 ((hb1.trans hb2).heap hQ.out))) | (go_at_call 58; ((with_reducible refine (HSH.out _ _ _ _ _ HS2.out (hS.out.ev (hb1.trans hb2))).mono ?_); rintro e w3 ⟨rfl, hb3⟩; clear q0 q1 q2 q3 q4; obtain ⟨q0, q1, q2, q3, q4⟩ := cells5 (((hb1.trans hb2).trans hb3).heap hQ.out))) | (go_at_call 63; ((with_reducible refine (HFULL.out _).mono ?_); rintro e w4 ⟨rfl, hb4⟩; have hG := ((hb1.trans hb2).trans hb3).trans hb4)) | (go_at_call 96; ((with_reducible refine (HCAN.out _ (hB.trans hG)).mono ?_); rintro e w5 ⟨rfl, rfl⟩)))
          exact ⟨⟨k + 1, best, Bs, ms, ds, rfl, by go_num, by omega, hB.trans hG, hid (hG.heap hQ.out), hid (hS.out.ev hG), hid (by have := HT2.out; simpa using this)⟩, by simp [intOf]; omega⟩
        | true =>
          rw [hcc] at hcan hpk
          rw [hpk] at hT2
          have HT2 := hid hT2
          have HSH := hid hsh
          have HCAN := hid hcan
          clear hT2 hsh hss hcan hpk hcc hz128
          go_wp2_with (first | (go_at_call 63; ((with_reducible refine (HFULL.out _).mono ?_); rintro e w1 ⟨rfl, hb1⟩; clear q0 q1 q2 q3 q4; obtain ⟨q0, q1, q2, q3, q4⟩ := cells5 (hb1.heap hQ.out))) | (go_at_call 59; ((with_reducible refine (Bits_c k (by omega) _).mono ?_); rintro e w2 ⟨⟨B2, d2, rfl, hs2⟩, hb2⟩; have HS2 := hid hs2; clear hs2; clear q0 q1 q2 q3 q4; obtain ⟨q0, q1, q2, q3, q4⟩ := cells5 ((hb1.trans hb2).heap hQ.out))) | (go_at_call 58; ((with_reducible refine (HSH.out _ _ _ _ _ HS2.out (hS.out.ev (hb1.trans hb2))).mono ?_); rintro e w3 ⟨rfl, hb3⟩; clear q0 q1 q2 q3 q4; obtain ⟨q0, q1, q2, q3, q4⟩ := cells5 (((hb1.trans hb2).trans hb3).heap hQ.out))) | (go_at_call 63; ((with_reducible refine (HFULL.out _).mono ?_); rintro e w4 ⟨rfl, hb4⟩; have hG := ((hb1.trans hb2).trans hb3).trans hb4)) | (go_at_call 96; ((with_reducible refine (HCAN.out _ (hB.trans hG)).mono ?_); rintro e w5 ⟨rfl, rfl⟩)))
          exact ⟨⟨k + 1, M.bits k, B2, (M.bits k).length, d2, rfl, by go_num, by omega, hB.trans hG, hid (hG.heap hQ.out), hid (HS2.out.ev (hb3.trans hb4)), hid (by have := HT2.out; simpa using this)⟩, by simp [intOf]; omega⟩
    · have hT2 := hT.out
      have hnI : ¬ (k : Int) ≤ F := by omega
      rw [show F + 1 - k = 0 from by omega, M.pick] at hT2
      obtain rfl := hT2
      have hml := hS.out.len
      have HML := hid hml
      clear hml
      go_wp2_with (first | (go_at_call 63; ((with_reducible refine (HFULL.out _).mono ?_); rintro e w1 ⟨rfl, hb1⟩; clear q0 q1 q2 q3 q4; obtain ⟨q0, q1, q2, q3, q4⟩ := cells5 (hb1.heap hQ.out))))
      go_ret
      rw [HML.out]
      exact ⟨⟨Bs, ds, rfl, hS.out.ev hb1⟩, hB.trans hb1⟩

theorem rLeave_c (rows wds lo hi : Int) (A : Option Addr) (n c : Nat) (hn : n ≤ 5) (B : Option Addr) (m d : Nat) (all : List Nat) (hall : ∀ a ∈ all, a < 128) (w : World) (hs : Sl ncs 1 w w.heap.size B m d all) :
    Calls Try.prog 46 #[.agg #[.int .i64 rows, .int .i64 wds, .int .i64 lo, .int .i64 hi, .slice A n c], .slice B m d] w fun e w' => (∃ B d, e = .returned (.slice B (M.pick (fun b => M.can all ((2 ^ n - 1) ^^^ ((2 ^ n - 1) &&& b))) 0 (2 ^ n - 1 + 1) (M.bits (2 ^ n - 1))).length d) ∧ Sl ics 1 w' w'.heap.size B (M.pick (fun b => M.can all ((2 ^ n - 1) ^^^ ((2 ^ n - 1) &&& b))) 0 (2 ^ n - 1 + 1) (M.bits (2 ^ n - 1))).length d (M.pick (fun b => M.can all ((2 ^ n - 1) ^^^ ((2 ^ n - 1) &&& b))) 0 (2 ^ n - 1 + 1) (M.bits (2 ^ n - 1)))) ∧ Ev w w' := by
  have hF : 2 ^ n - 1 ≤ 31 := by
    have : n = 0 ∨ n = 1 ∨ n = 2 ∨ n = 3 ∨ n = 4 ∨ n = 5 := by omega
    rcases this with rfl | rfl | rfl | rfl | rfl | rfl <;> decide
  exact rLeave_k rows wds lo hi A n c (2 ^ n - 1) hF (fun W => Full_c rows wds lo hi A n c hn W) B m d all hall w hs

end Go.Proofs.Ytcecmphdmpeibaa
