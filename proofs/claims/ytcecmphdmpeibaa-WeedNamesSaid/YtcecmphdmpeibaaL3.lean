import Derived.Test.YtcecmphdmpeibaaL2
import Derived.Test.YtcecmphdmpeibaaU1
namespace Go.Proofs.Ytcecmphdmpeibaa
open Go.RowKit

theorem fault_c (f : M.Fl) (A : Option Addr) (n c : Nat) (w : World) (hs : Sl tcs 5 w w.heap.size A n c f.ts) :
    Calls Try.prog 22 #[.agg #[.int .i64 f.rows, .int .i64 f.wds, .int .i64 f.lf.lo, .int .i64 f.lf.hi, .slice A n c]] w fun e w' => e = .returned (.int .i64 (M.check f)) ∧ Ev w w' := by
  have hsE := fun W (hE : Ev w W) => Fault_c f A n c W (hs.ev hE)
  have H := hid hsE
  clear hsE
  go_enter Try.func22, Try.ntmps22
  go_wp2_with (go_at_call 64; ((with_reducible refine (H.out _ (Ev.alloc (Ev.refl _) _)).mono ?_); rintro e w1 ⟨rfl, hb1⟩))
  go_ret
  exact ⟨rfl, Ev.trans (Ev.alloc (Ev.refl _) _) hb1⟩

/-- At most 7 tallies, and at most 250 lists if it is valid. -/
def M.thin (f : M.Fl) : Bool := decide (f.ts.length ≤ 7) && (decide (M.check f ≠ 0) || decide (M.power f ≤ 250))

theorem M.check_bd {f : M.Fl} (h : M.check f = 0) : 1 ≤ f.rows ∧ f.rows ≤ 7 ∧ 1 ≤ f.wds ∧ f.wds ≤ 3 ∧ M.power f ≤ 2500 ∧ f.ts.length ≤ 5 := by
  unfold M.check at h
  split at h
  · simp at h
  · rename_i h0
    split at h
    · simp at h
    · rename_i h1
      simp only [Bool.not_eq_false] at h1
      obtain ⟨h2, h3⟩ := valid_bd h1
      split at h
      · simp at h
      · omega

set_option maxRecDepth 100000 in
set_option maxHeartbeats 1000000 in
theorem Thin_c (f : M.Fl) (A : Option Addr) (n c : Nat) (w : World) (hs : Sl tcs 5 w w.heap.size A n c f.ts) :
    Calls Try.prog 20 #[.agg #[.int .i64 f.rows, .int .i64 f.wds, .int .i64 f.lf.lo, .int .i64 f.lf.hi, .slice A n c]] w fun e w' => e = .returned (.bool (M.thin f)) ∧ Ev w w' := by
  have hsm := hs.small
  have HL := hid hs.len
  have hsE := fun W (hE : Ev w W) => Fault_c f A n c W (hs.ev hE)
  by_cases h7 : n ≤ 7
  · by_cases h0 : M.check f = 0
    · obtain ⟨r1, r7, d1, d3, _, _⟩ := M.check_bd h0
      have hv : M.thin f = decide (M.power f ≤ 250) := by unfold M.thin; rw [HL.out]; simp [h7, h0]
      rw [h0] at hsE
      have H := hid hsE
      have HV := hid hv
      clear hsE hv h0
      go_enter Try.func20, Try.ntmps20
      go_wp2_with (first | (go_at_call 64; ((with_reducible refine (H.out _ (Ev.alloc (Ev.refl _) _)).mono ?_); rintro e w1 ⟨rfl, hb1⟩; have hq := hb1.heap (alloc1 w (.cells #[.int .i64 f.rows, .int .i64 f.wds, .int .i64 f.lf.lo, .int .i64 f.lf.hi, .slice A n c] 26)).1; obtain ⟨q0, q1, q2, q3, q4⟩ := cells5 hq; have HQ := hid hq; clear hq)) | (go_at_call 65; ((with_reducible refine (Many_c f A n c _ (by omega) (by omega) (by omega) (by omega)).mono ?_); rintro e w2 ⟨rfl, hb2⟩)))
      go_ret
      exact ⟨ret_bool HV.out.symm, Ev.trans (Ev.trans (Ev.alloc (Ev.refl _) _) hb1) hb2⟩
    · have hv : M.thin f = true := by unfold M.thin; rw [HL.out]; simp [h7, h0]
      generalize hk : M.check f = k at h0 hsE
      have hne : (k != 0) = true := by simpa using h0
      have H := hid hsE
      have HV := hid hv
      clear hsE hv h0 hk
      go_enter Try.func20, Try.ntmps20
      go_wp2_with (first | (go_at_call 64; ((with_reducible refine (H.out _ (Ev.alloc (Ev.refl _) _)).mono ?_); rintro e w1 ⟨rfl, hb1⟩)))
      go_ret
      exact ⟨ret_bool HV.out.symm, Ev.trans (Ev.alloc (Ev.refl _) _) hb1⟩
  · have hv : M.thin f = false := by unfold M.thin; rw [HL.out]; simp; omega
    have HV := hid hv
    clear hsE hv
    go_enter Try.func20, Try.ntmps20
    go_wp2
    go_ret
    exact ⟨ret_bool HV.out.symm, Ev.alloc (Ev.refl _) _⟩

set_option maxRecDepth 100000 in
set_option maxHeartbeats 1000000 in
theorem Did_n (A : Option Addr) (n c : Nat) (l : List Int) (x : Int) (fr to : Nat) (h1 : fr ≤ to) (h2 : to < n) (w : World) (hs : Sl ics 1 w w.heap.size A n c l) :
    Calls Try.prog 54 #[.slice A n c, .int .i64 x, .int .i64 fr, .int .i64 to] w fun e w' => e = .returned (.int .i64 (M.count l x fr to)) ∧ w' = w := by
  have hsm := hs.small
  have HL := hid hs.len
  go_enter Try.func54, Try.ntmps54
  go_wp2
  go_loop [9, 10] (fun m i => ∃ k : Nat, ∃ p : Int, i = .int .i64 (fr + k : Nat) ∧ k ≤ to + 1 - fr ∧ m = .int .i64 p ∧ 0 ≤ p ∧ p ≤ k ∧ Hid (p + M.cnt x (((l.drop fr).take (to + 1 - fr)).drop k) = M.count l x fr to)) (fun _ i => to + 1 - (intOf i).toNat)
  case atStart => exact ⟨0, 0, rfl, by omega, rfl, by omega, by omega, hid (by simp [M.count])⟩
  case round =>
    obtain ⟨k, p, rfl, hk, rfl, hp0, hp1, hp⟩ := hrel
    by_cases hlt : k < to + 1 - fr
    · obtain ⟨b, off, y, rfl, hb, hx, hd0, e0⟩ := hs.int (Below.refl _ w) (show fr + k < n by omega)
      have hd : ((l.drop fr).take (to + 1 - fr)).drop k = y :: ((l.drop fr).take (to + 1 - fr)).drop (k + 1) := drop_some (by rw [List.getElem?_take, if_pos hlt, List.getElem?_drop]; exact hx)
      have HD := hid hd
      clear hd hx hd0
      by_cases hyx : y = x
      · have hb : (y == x) = true := by simpa using hyx
        have HY := hid hyx
        clear hyx
        go_wp2
        go_round
        case rel => exact ⟨k + 1, p + 1, by go_num, by omega, rfl, by omega, by omega, hid (by rw [← hp.out, HD.out]; simp only [M.cnt]; rw [if_pos HY.out]; omega)⟩
        case measure => simp [intOf]; omega
      · have hb : (y == x) = false := by simpa using hyx
        have HY := hid hyx
        clear hyx
        go_wp2
        go_round
        case rel => exact ⟨k + 1, p, by go_num, by omega, rfl, by omega, by omega, hid (by rw [← hp.out, HD.out]; simp only [M.cnt]; rw [if_neg HY.out]; omega)⟩
        case measure => simp [intOf]; omega
    · have hd : ((l.drop fr).take (to + 1 - fr)).drop k = [] := List.drop_eq_nil_of_le (by rw [List.length_take]; omega)
      have HD := hid hd
      clear hd
      go_wp2
      go_ret
      exact ⟨ret_int (by rw [← hp.out, HD.out]; simp [M.cnt]), rfl⟩

theorem Did_s (A : Option Addr) (n c : Nat) (l : List Int) (x fr to : Int) (h0 : 0 ≤ fr) (h1 : fr ≤ to) (h2 : to < n) (w : World) (hs : Sl ics 1 w w.heap.size A n c l) :
    Calls Try.prog 54 #[.slice A n c, .int .i64 x, .int .i64 fr, .int .i64 to] w fun e w' => e = .returned (.int .i64 (M.count l x fr to)) ∧ w' = w := by
  obtain ⟨a, rfl⟩ := Int.eq_ofNat_of_zero_le h0
  obtain ⟨b, rfl⟩ := Int.eq_ofNat_of_zero_le (show 0 ≤ to by omega)
  exact Did_n A n c l x a b (by omega) (by omega) w hs

end Go.Proofs.Ytcecmphdmpeibaa
