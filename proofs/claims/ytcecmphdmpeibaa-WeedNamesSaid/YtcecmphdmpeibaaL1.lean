import Derived.Test.YtcecmphdmpeibaaU1
namespace Go.Proofs.Ytcecmphdmpeibaa
open Go.RowKit

/-- From low to high. -/
def M.isIn (n lo hi : Int) : Bool := decide (lo ≤ n) && decide (n ≤ hi)
/-- A range with numbers from low to high alone, and one at least. -/
def M.within (r : M.Rg) (lo hi : Int) : Bool := decide (lo ≤ r.lo) && (decide (r.lo ≤ r.hi) && decide (r.hi ≤ hi))

set_option maxHeartbeats 400000 in
theorem In_s (n lo hi : Int) (w : World) : Calls Try.prog 33 #[.int .i64 n, .int .i64 lo, .int .i64 hi] w fun e w' => e = .returned (.bool (M.isIn n lo hi)) ∧ w' = w := by
  go_enter Try.func33, Try.ntmps33
  go_wp2
  all_goals (go_ret; exact ⟨ret_bool (by simp only [M.isIn]; first | (simp only [*]; simp; done) | (simp; omega)), rfl⟩)

theorem In_c (n lo hi : Int) (w : World) : Calls Try.prog 33 #[.int .i64 n, .int .i64 lo, .int .i64 hi] w fun e w' => e = .returned (.bool (M.isIn n lo hi)) ∧ Ev w w' :=
  (In_s n lo hi w).mono fun _ _ h => ⟨h.1, by rw [h.2]; exact Ev.refl _⟩

set_option maxHeartbeats 400000 in
theorem Within_c (r : M.Rg) (lo hi : Int) (w : World) : Calls Try.prog 99 #[.agg #[.int .i64 r.lo, .int .i64 r.hi], .int .i64 lo, .int .i64 hi] w fun e w' => e = .returned (.bool (M.within r lo hi)) ∧ Ev w w' := by
  go_enter Try.func99, Try.ntmps99
  go_wp2
  all_goals (go_ret; exact ⟨ret_bool (by simp only [M.within]; first | (simp only [*]; simp; done) | (simp; omega)), Ev.alloc (Ev.refl _) _⟩)

set_option maxRecDepth 100000 in
set_option maxHeartbeats 1000000 in
theorem Many_k (r d : Nat) (lf : M.Rg) (A : Option Addr) (n c : Nat) (w : World) (hr : r ≤ 7) (hd : d ≤ 3) :
    Calls Try.prog 65 #[.agg #[.int .i64 r, .int .i64 d, .int .i64 lf.lo, .int .i64 lf.hi, .slice A n c]] w fun e w' => e = .returned (.int .i64 (((d + 1) ^ r : Nat) : Int)) ∧ Ev w w' := by
  go_enter Try.func65, Try.ntmps65
  go_wp2
  go_loop [3, 4] (fun m i => ∃ k p : Nat, i = .int .i64 k ∧ k ≤ r ∧ m = .int .i64 p ∧ Hid (p = (d + 1) ^ k)) (fun _ i => r - (intOf i).toNat)
  case atStart => exact ⟨0, 1, rfl, by omega, rfl, hid rfl⟩
  case round =>
    obtain ⟨k, p, rfl, hk, rfl, hp⟩ := hrel
    by_cases hlt : k < r
    · have hle : p ≤ 4096 := by rw [hp.out]; exact pow_le6 _ _ (by omega) (by omega) (by omega)
      obtain ⟨b1, b2⟩ := mul_bd p d hle hd
      go_wp2
      go_round
      case rel => exact ⟨k + 1, p * (d + 1), by go_num, by omega, by congr 1, hid (by rw [hp.out, Nat.pow_succ])⟩
      case measure => simp [intOf]; omega
    · go_wp2
      go_ret
      obtain rfl : k = r := by omega
      exact ⟨ret_int (by rw [hp.out]; simp), (Ev.alloc (Ev.refl _) _)⟩

theorem Many_c (f : M.Fl) (A : Option Addr) (n c : Nat) (w : World) (h0 : 0 ≤ f.rows) (h1 : f.rows ≤ 7) (h2 : 0 ≤ f.wds) (h3 : f.wds ≤ 3) :
    Calls Try.prog 65 #[.agg #[.int .i64 f.rows, .int .i64 f.wds, .int .i64 f.lf.lo, .int .i64 f.lf.hi, .slice A n c]] w fun e w' => e = .returned (.int .i64 (M.power f)) ∧ Ev w w' := by
  obtain ⟨r, hr⟩ := Int.eq_ofNat_of_zero_le h0
  obtain ⟨d, hd⟩ := Int.eq_ofNat_of_zero_le h2
  have := Many_k r d f.lf A n c w (by omega) (by omega)
  unfold M.power
  rw [hr, hd]
  simpa using this

/-- A tally's test, in the reference's words. -/
theorem M.vt_ref (f : M.Fl) (t : M.Tl) : M.validTally f t = (M.isIn t.wd 0 (f.wds - 1) && (M.isIn t.fr 0 (f.rows - 1) && (M.isIn t.to t.fr (f.rows - 1) && M.within t.ct 0 f.rows))) := by
  unfold M.validTally M.isIn M.within M.hasWd M.hasRow M.upTo
  rw [Bool.eq_iff_iff]
  simp only [Bool.and_eq_true, decide_eq_true_eq]
  omega
theorem M.upTo_within (r : M.Rg) (l : Int) : M.upTo r l = M.within r 0 l := rfl

end Go.Proofs.Ytcecmphdmpeibaa
