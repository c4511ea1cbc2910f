import Derived.Test.YtcecmphdmpeibaaL15
import Derived.Test.YtcecmphdmpeibaaU6
namespace Go.Proofs.Ytcecmphdmpeibaa
open Go.RowKit

set_option maxRecDepth 100000 in
set_option maxHeartbeats 1000000 in
theorem Before_c (A B : Option Addr) (n c m d : Nat) (a b : List Int) (w : World) (ha : Sl ics 1 w w.heap.size A n c a) (hb : Sl ics 1 w w.heap.size B m d b) :
    Calls Try.prog 98 #[.slice A n c, .slice B m d] w fun e w' => e = .returned (.bool (M.lexlt a b)) ∧ Ev w w' := by
  have hsm := ha.small
  have hsm' := hb.small
  have HLA := hid ha.len
  have HLB := hid hb.len
  go_enter Try.func98, Try.ntmps98
  go_wp2
  go_loopw [5] (fun i wr => ∃ k : Nat, i = .int .i64 k ∧ k ≤ n ∧ k ≤ m ∧ Ev w wr ∧ Hid (M.lexlt (a.drop k) (b.drop k) = M.lexlt a b)) (fun i _ => n - (intOf i).toNat)
  case atStart => exact ⟨0, rfl, by omega, by omega, Ev.refl _, hid rfl⟩
  case round =>
    obtain ⟨k, rfl, hk, hk', hE, HT⟩ := hrel
    by_cases hlt : k < n
    · by_cases hlt' : k < m
      · obtain ⟨b1, o1, x, rfl, hb1, hx, hxd, e1⟩ := ha.int hE hlt
        obtain ⟨b2, o2, y, rfl, hb2, hy, hyd, e2⟩ := hb.int hE hlt'
        have ht := HT.out
        rw [hxd, hyd] at ht
        have HT2 := hid ht
        clear hx hy hxd hyd ht
        by_cases hxy : x = y
        · have hne2 : (x != y) = false := by simpa using hxy
          have HXY := hid hxy
          clear hxy
          go_wp2_with (go_quiet (fail))
          refine ⟨⟨k + 1, by go_num, by omega, by omega, hE.drewN _, hid ?_⟩, by simp [intOf]; omega⟩
          rw [← HT2.out, HXY.out]
          simp [M.lexlt]
        · have hne2 : (x != y) = true := by simpa using hxy
          by_cases hl : x < y
          · have HV := hid (show M.lexlt a b = true by rw [← HT2.out]; simp [M.lexlt, hl])
            clear hxy
            go_wp2_with (go_quiet (fail))
            go_ret
            exact ⟨ret_bool HV.out.symm, by first | exact (hE.drewN _).drewN _ | exact hE.drewN _⟩
          · have HV := hid (show M.lexlt a b = false by rw [← HT2.out]; simp [M.lexlt, hl, hxy])
            clear hxy
            go_wp2_with (go_quiet (fail))
            go_ret
            exact ⟨ret_bool HV.out.symm, by first | exact (hE.drewN _).drewN _ | exact hE.drewN _⟩
      · have hv : M.lexlt a b = false := by
          rw [← HT.out, hb.done hlt']
          cases a.drop k <;> rfl
        have HV := hid hv
        clear hv
        go_wp2
        go_ret
        exact ⟨ret_bool (by rw [HV.out]; simp; omega), hE⟩
    · have hv : M.lexlt a b = decide (n < m) := by
        rw [← HT.out, ha.done hlt]
        by_cases hlt' : k < m
        · obtain ⟨_, _, y, _, _, _, hyd, _⟩ := hb.at_ hE hlt'
          rw [hyd]
          have : n < m := by omega
          simp [M.lexlt, this]
        · rw [hb.done hlt']
          have : ¬ n < m := by omega
          simp [M.lexlt, this]
      have HV := hid hv
      clear hv
      go_wp2
      go_ret
      exact ⟨ret_bool (by rw [HV.out]), hE⟩

set_option maxRecDepth 100000 in
set_option maxHeartbeats 1000000 in
theorem Shorter_c (A B : Option Addr) (n c m d : Nat) (a b : List Int) (w : World) (ha : Sl ics 1 w w.heap.size A n c a) (hb : Sl ics 1 w w.heap.size B m d b) :
    Calls Try.prog 58 #[.slice A n c, .slice B m d] w fun e w' => e = .returned (.bool (M.shorter a b)) ∧ Ev w w' := by
  have hsm := ha.small
  have hsm' := hb.small
  have HBF := hid fun W (hE : Ev w W) => Before_c A B n c m d a b W (ha.ev hE) (hb.ev hE)
  have hv : M.shorter a b = (decide (n < m) || (decide (n = m) && M.lexlt a b)) := by unfold M.shorter; rw [ha.len, hb.len]
  by_cases h1 : n < m
  · have HV := hid (show M.shorter a b = true by rw [hv]; simp [h1])
    clear hv
    go_enter Try.func58, Try.ntmps58
    go_wp2
    go_ret
    exact ⟨ret_bool HV.out.symm, Ev.refl _⟩
  · by_cases h2 : n = m
    · subst h2
      have HV := hid (show M.shorter a b = M.lexlt a b by rw [hv]; simp)
      clear hv h1
      go_enter Try.func58, Try.ntmps58
      go_wp2_with (go_at_call 98; ((with_reducible refine (HBF.out _ (Ev.refl _)).mono ?_); rintro e w1 ⟨rfl, hb1⟩))
      go_ret
      exact ⟨ret_bool HV.out.symm, hb1⟩
    · have HV := hid (show M.shorter a b = false by rw [hv]; simp [h1, h2])
      have hne : ((n : Int) == (m : Int)) = false := by simp; omega
      clear hv h2
      go_enter Try.func58, Try.ntmps58
      go_wp2
      go_ret
      exact ⟨ret_bool HV.out.symm, Ev.refl _⟩

/-- 2 to the power of at most five, less one. -/
theorem wrap_pow {n : Nat} (hn : n ≤ 7) : wrap64 (2 ^ n) = 2 ^ n ∧ wrap64 ((2 : Int) ^ n - 1) = ((2 ^ n - 1 : Nat) : Int) := by
  have : n = 0 ∨ n = 1 ∨ n = 2 ∨ n = 3 ∨ n = 4 ∨ n = 5 ∨ n = 6 ∨ n = 7 := by omega
  rcases this with rfl | rfl | rfl | rfl | rfl | rfl | rfl | rfl <;> decide +kernel

set_option maxRecDepth 100000 in
set_option maxHeartbeats 1000000 in
theorem Full_c (rows wds lo hi : Int) (A : Option Addr) (n c : Nat) (hn : n ≤ 5) (w : World) :
    Calls Try.prog 63 #[.agg #[.int .i64 rows, .int .i64 wds, .int .i64 lo, .int .i64 hi, .slice A n c]] w fun e w' => e = .returned (.int .i64 ((2 ^ n - 1 : Nat) : Int)) ∧ Ev w w' := by
  obtain ⟨p1, p2⟩ := wrap_pow (n := n) (by omega)
  have P2 := hid p2
  clear p2
  go_enter Try.func63, Try.ntmps63
  go_wp2
  go_ret
  exact ⟨ret_int P2.out, Ev.alloc (Ev.refl _) _⟩

def M.can (all : List Nat) (t : Nat) : Bool := all.any fun a => decide (a &&& t = t)
def ncs (a : Nat) : List Value := [.int .i64 a]

set_option maxRecDepth 100000 in
set_option maxHeartbeats 1000000 in
theorem Can_c (A : Option Addr) (n c : Nat) (all : List Nat) (hall : ∀ a ∈ all, a < 128) (t : Nat) (ht : t < 128) (w : World) (hs : Sl ncs 1 w w.heap.size A n c all) :
    Calls Try.prog 96 #[.slice A n c, .int .i64 t] w fun e w' => e = .returned (.bool (M.can all t)) ∧ w' = w := by
  have hsm := hs.small
  go_enter Try.func96, Try.ntmps96
  go_wp2
  go_loop [5] (fun i => ∃ k : Nat, i = .int .i64 k ∧ k ≤ n ∧ Hid (M.can (all.drop k) t = M.can all t)) (fun i => n - (intOf i).toNat)
  case atStart => exact ⟨0, rfl, by omega, hid rfl⟩
  case round =>
    obtain ⟨k, rfl, hk, hT⟩ := hrel
    by_cases hlt : k < n
    · obtain ⟨b, off, x, rfl, hb, hx, hd, hcc⟩ := hs.at_ (Below.refl _ w) hlt
      have e0 := hcc 0 _ rfl
      simp only [Nat.add_zero, Nat.mul_one] at e0
      obtain ⟨hba, _, _⟩ := bits_three (hall x (List.mem_of_getElem? hx)) ht
      have hT2 := hT.out
      rw [hd] at hT2
      have HT2 := hid hT2
      clear hcc hx hd hT2
      generalize hz : x &&& t = z at hba
      have HZ := hid hz
      clear hz
      by_cases hzt : z = t
      · have hbe : ((z : Int) == (t : Int)) = true := by simp; omega
        have HV := hid (show M.can all t = true by rw [← HT2.out]; simp [M.can, HZ.out, hzt])
        clear hzt
        go_wp2
        go_ret
        exact ⟨ret_bool HV.out.symm, rfl⟩
      · have hbe : ((z : Int) == (t : Int)) = false := by simp; omega
        have HV := hid (show M.can (all.drop (k + 1)) t = M.can all t by rw [← HT2.out]; simp [M.can, HZ.out, hzt])
        clear hzt
        go_wp2
        go_round
        case rel => exact ⟨k + 1, by go_num, by omega, HV⟩
        case measure => simp [intOf]; omega
    · have HV := hid (show M.can all t = false by rw [← hT.out, hs.done hlt]; rfl)
      go_wp2
      go_ret
      exact ⟨ret_bool HV.out.symm, rfl⟩

end Go.Proofs.Ytcecmphdmpeibaa
