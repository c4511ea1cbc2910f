import Derived.Test.YtgimcephbeajlaaQDanger11
import Derived.Test.YtgimcephbeajlaaQDanger10
import Derived.Test.YtgimcephbeajlaaQDanger01
set_option linter.unusedSimpArgs false
set_option linter.unusedVariables false
namespace Go.Proofs.Ytgimcephbeajlaa
open Go.RowKit Go.Shelf

theorem couchDanger_yes (f : M.Cf) (Aw At Ar : Option Addr) (nw cw nt ct nr cr : Nat) (hl0 : -9223372036854775808 ≤ f.last) (wn : Nat) (hwn : wn < 65536) (n : Nat) (hn : n < 65536) (w : World) (HCS : Hid (CS w w.heap.size f Aw At Ar nw cw nt ct nr cr)) (hr : M.rdy f nw nt nr = true) (hsm : M.small nw nt nr) (h0 : M.check f = 0) :
  Calls Try.prog 11 #[.agg #[.int .i64 f.last, .int .i64 f.size, .int .i64 f.cool, .int .i64 f.die, .int .i64 f.burn, .int .i64 f.st.lo, .int .i64 f.st.hi, .slice Aw nw cw, .slice At nt ct, .slice Ar nr cr], .int .u16 (wn : Int), .int .u16 (n : Int)] w fun e w' => e = .returned (.bool true) ∧ Ev w w' := by
 by_cases ht : M.truths f = []
 ·
  exact couchDanger_e f Aw At Ar nw cw nt ct nr cr hl0 wn hwn n hn w HCS hr hsm h0 ht
 ·
  cases hfr : M.fear f (M.truths f) (M.trn f n) with
  | none => exact couchDanger_n f Aw At Ar nw cw nt ct nr cr hl0 wn hwn n hn w HCS hr hsm h0 ht hfr
  | some i =>
   have h3 := (M.fear_some (M.check0 h0).2.2.1 (M.truths_listed h0) hfr).2.2.1
   cases hb1 : M.burnsAt f (M.truths f) (M.trn f n) i with
   | true =>
    cases hb2 : M.diesAt f (M.truths f) (M.trn f n) i with
    | true => exact couchDanger_11 f Aw At Ar nw cw nt ct nr cr hl0 wn hwn n hn w HCS hr hsm h0 ht i hfr hb1 hb2
    | false => exact couchDanger_10 f Aw At Ar nw cw nt ct nr cr hl0 wn hwn n hn w HCS hr hsm h0 ht i hfr hb1 hb2
   | false =>
    cases hb2 : M.diesAt f (M.truths f) (M.trn f n) i with
    | true => exact couchDanger_01 f Aw At Ar nw cw nt ct nr cr hl0 wn hwn n hn w HCS hr hsm h0 ht i hfr hb1 hb2
    | false => rw [hb1, hb2] at h3; cases h3
theorem couchDanger_c (f : M.Cf) (Aw At Ar : Option Addr) (nw cw nt ct nr cr : Nat) (hl0 : -9223372036854775808 ≤ f.last) (wn : Nat) (hwn : wn < 65536) (n : Nat) (hn : n < 65536) (w : World) (hs : M.small nw nt nr → CS w w.heap.size f Aw At Ar nw cw nt ct nr cr) :
  Calls Try.prog 11 #[.agg #[.int .i64 f.last, .int .i64 f.size, .int .i64 f.cool, .int .i64 f.die, .int .i64 f.burn, .int .i64 f.st.lo, .int .i64 f.st.hi, .slice Aw nw cw, .slice At nt ct, .slice Ar nr cr], .int .u16 (wn : Int), .int .u16 (n : Int)] w fun e w' => e = .returned (.bool true) ∧ Ev w w' := by
 cases hr : M.rdy f nw nt nr with
 | false => exact couchDanger_no f Aw At Ar nw cw nt ct nr cr hl0 wn hwn n hn w hs hr
 | true =>
  have h1 := hr
  unfold M.rdy at h1
  rw [Bool.and_eq_true, Bool.and_eq_true, decide_eq_true_eq, decide_eq_true_eq] at h1
  obtain ⟨⟨hsm, _⟩, h0⟩ := h1
  exact couchDanger_yes f Aw At Ar nw cw nt ct nr cr hl0 wn hwn n hn w (hid (hs hsm)) hr hsm h0

theorem couchDanger_i (f : M.Cf) (Aw At Ar : Option Addr) (nw cw nt ct nr cr : Nat) (hl0 : -9223372036854775808 ≤ f.last) (a1 : Int) (p1 : 0 ≤ a1) (q1 : a1 < 65536) (a2 : Int) (p2 : 0 ≤ a2) (q2 : a2 < 65536) (w : World) (hs : M.small nw nt nr → CS w w.heap.size f Aw At Ar nw cw nt ct nr cr) :
  Calls Try.prog 11 #[.agg #[.int .i64 f.last, .int .i64 f.size, .int .i64 f.cool, .int .i64 f.die, .int .i64 f.burn, .int .i64 f.st.lo, .int .i64 f.st.hi, .slice Aw nw cw, .slice At nt ct, .slice Ar nr cr], .int .u16 a1, .int .u16 a2] w fun e w' => e = .returned (.bool true) ∧ Ev w w' := by
 obtain ⟨n, rfl⟩ : ∃ n : Nat, a1 = n := ⟨a1.toNat, by omega⟩
 obtain ⟨m, rfl⟩ : ∃ m : Nat, a2 = m := ⟨a2.toNat, by omega⟩
 exact couchDanger_c f Aw At Ar nw cw nt ct nr cr hl0 n (by omega) m (by omega) w hs

end Go.Proofs.Ytgimcephbeajlaa
