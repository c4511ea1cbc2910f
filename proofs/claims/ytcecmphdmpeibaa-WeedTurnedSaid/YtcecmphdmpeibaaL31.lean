import Derived.Test.YtcecmphdmpeibaaL30
set_option linter.unusedSimpArgs false
set_option linter.unusedVariables false
namespace Go.Proofs.Ytcecmphdmpeibaa
open Go.RowKit

/-- A range lies inside another one. -/
def M.inside (a b : M.Rg) : Bool := decide (b.lo ≤ a.lo) && decide (a.hi ≤ b.hi)
def M.inR (n : Int) (r : M.Rg) : Bool := decide (r.lo ≤ n) && decide (n ≤ r.hi)

set_option maxRecDepth 100000 in
set_option maxHeartbeats 1000000 in
theorem inside_c (a b : M.Rg) (w : World) :
    Calls Try.prog 61 #[.agg #[.int .i64 a.lo, .int .i64 a.hi], .agg #[.int .i64 b.lo, .int .i64 b.hi]] w fun e w' => e = .returned (.bool (M.inside a b)) ∧ Ev w w' := by
  go_enter Try.func61, Try.ntmps61
  go_wp2
  all_goals (go_ret; exact ⟨ret_bool (by simp only [M.inside]; first | (simp only [*]; simp; done) | (simp; omega)), Ev.alloc (Ev.alloc (Ev.refl _) _) _⟩)

set_option maxRecDepth 100000 in
set_option maxHeartbeats 1000000 in
theorem inR_c (n : Int) (r : M.Rg) (w : World) :
    Calls Try.prog 55 #[.int .i64 n, .agg #[.int .i64 r.lo, .int .i64 r.hi]] w fun e w' => e = .returned (.bool (M.inR n r)) ∧ Ev w w' := by
  go_enter Try.func55, Try.ntmps55
  go_wp2
  all_goals (go_ret; exact ⟨ret_bool (by simp only [M.inR]; first | (simp only [*]; simp; done) | (simp; omega)), Ev.alloc (Ev.refl _) _⟩)

def M.has (l : List Int) (n : Int) : Bool := l.any (· == n)

set_option maxRecDepth 100000 in
set_option maxHeartbeats 1000000 in
theorem has_c (B : Option Addr) (m d : Nat) (l : List Int) (n : Int) (w : World) (hs : Sl ics 1 w w.heap.size B m d l) :
    Calls Try.prog 56 #[.slice B m d, .int .i64 n] w fun e w' => e = .returned (.bool (M.has l n)) ∧ w' = w := by
  have hsm := hs.small
  go_enter Try.func56, Try.ntmps56
  go_wp2
  go_loop [5] (fun i => ∃ k : Nat, i = .int .i64 k ∧ k ≤ m ∧ Hid (M.has (l.drop k) n = M.has l n)) (fun i => m - (intOf i).toNat)
  case atStart => exact ⟨0, rfl, by omega, hid rfl⟩
  case round =>
    obtain ⟨k, rfl, hk, hT⟩ := hrel
    by_cases hlt : k < m
    · obtain ⟨b, off, x, rfl, hb, hx, hd, e0⟩ := hs.int (Below.refl _ w) hlt
      have hT2 := hT.out
      rw [hd] at hT2
      have hcap := hs.cap
      clear hx hd
      by_cases hxn : x = n
      · have hbe : (x == n) = true := by simpa using hxn
        have HT2 := hid (show M.has l n = true by rw [← hT2]; unfold M.has; rw [List.any_cons, hbe]; rfl)
        clear hT2 hxn
        go_wp2
        go_ret
        exact ⟨ret_bool HT2.out.symm, rfl⟩
      · have hbe : (x == n) = false := by simpa using hxn
        have HT2 := hid (show M.has (l.drop (k + 1)) n = M.has l n by rw [← hT2]; unfold M.has; rw [List.any_cons, hbe]; rfl)
        clear hT2 hxn
        go_wp2
        go_round
        case rel => exact ⟨k + 1, by go_num, by omega, HT2⟩
        case measure => simp [intOf]; omega
    · have HT2 := hid (show M.has l n = false by rw [← hT.out, hs.done hlt]; rfl)
      go_wp2
      go_ret
      exact ⟨ret_bool HT2.out.symm, rfl⟩

end Go.Proofs.Ytcecmphdmpeibaa
