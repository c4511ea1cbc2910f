import Derived.Test.YtcecmphdmpeibaaU1
namespace Go.Proofs.Ytcecmphdmpeibaa
open Go.RowKit

theorem bits_small : ((List.range 128).all fun (a : Nat) => (List.range 128).all fun (b : Nat) => decide (bits .and .i64 (a : Int) (b : Int) = ((a &&& b : Nat) : Int)) && (decide (bits .or .i64 (a : Int) (b : Int) = ((a ||| b : Nat) : Int)) && decide (bits .andNot .i64 (a : Int) (b : Int) = ((a ^^^ (a &&& b) : Nat) : Int)))) = true := by decide +kernel

theorem bits_three {a b : Nat} (ha : a < 128) (hb : b < 128) : bits .and .i64 (a : Int) (b : Int) = ((a &&& b : Nat) : Int) ∧ bits .or .i64 (a : Int) (b : Int) = ((a ||| b : Nat) : Int) ∧ bits .andNot .i64 (a : Int) (b : Int) = ((a ^^^ (a &&& b) : Nat) : Int) := by
  have h := bits_small
  rw [List.all_eq_true] at h
  have h1 := h a (List.mem_range.2 ha)
  rw [List.all_eq_true] at h1
  have h2 := h1 b (List.mem_range.2 hb)
  simpa [Bool.and_eq_true, decide_eq_true_eq] using h2

end Go.Proofs.Ytcecmphdmpeibaa
