import Derived.Test.YtffbkbcjddigdaaA1
set_option linter.unusedSimpArgs false
set_option linter.unusedVariables false
namespace Go.Proofs.Ytffbkbcjddigdaa
open Go.RowKit

structure M.Lk where
  wk : Int
  ct : M.Rg
deriving DecidableEq
structure M.Cf where
  last : Int
  gr : List M.Rg
  wet : List Int
  base : List Int
  crops : List Int
  ripe : Int
  late : Int
  trod : Int
  looks : List M.Lk
deriving DecidableEq
def lkc (l : M.Lk) : List Value := [.int .i64 l.wk, .int .i64 l.ct.lo, .int .i64 l.ct.hi]
def M.hasWeek (f : M.Cf) (x : Int) : Bool := decide (0 ≤ x) && decide (x ≤ f.last)
def M.isPlan (f : M.Cf) (l : List Int) : Bool := decide (l.length ≤ f.base.length) && (M.rises l && l.all (M.hasWeek f))
def M.isGrowth (r : M.Rg) : Bool := M.upTo r 50
def M.validLook (f : M.Cf) (l : M.Lk) : Bool := M.hasWeek f l.wk && M.upTo l.ct 1000
def M.validCare (f : M.Cf) : Bool := M.holds ⟨1, 10⟩ f.ripe && (M.holds ⟨0, 50⟩ f.late && M.holds ⟨0, 100⟩ f.trod)

theorem cells9 {W : World} {b : Nat} {t : TypeId} {v0 v1 v2 v3 v4 v5 v6 v7 v8 : Value} (h : W.heap[b]? = some (.cells #[v0, v1, v2, v3, v4, v5, v6, v7, v8] t (0, 0))) :
    W.cell? ⟨b, 0, none⟩ = some v0 ∧ W.cell? ⟨b, 1, none⟩ = some v1 ∧ W.cell? ⟨b, 2, none⟩ = some v2 ∧ W.cell? ⟨b, 3, none⟩ = some v3 ∧ W.cell? ⟨b, 4, none⟩ = some v4 ∧ W.cell? ⟨b, 5, none⟩ = some v5 ∧ W.cell? ⟨b, 6, none⟩ = some v6 ∧ W.cell? ⟨b, 7, none⟩ = some v7 ∧ W.cell? ⟨b, 8, none⟩ = some v8 :=
  ⟨cell_in h 0, cell_in h 1, cell_in h 2, cell_in h 3, cell_in h 4, cell_in h 5, cell_in h 6, cell_in h 7, cell_in h 8⟩

set_option maxRecDepth 100000 in
set_option maxHeartbeats 400000 in
theorem hasWeek_c (f : M.Cf) (Ag Aw Ab Ac Al : Option Addr) (ng cg nw cw nb cb nc cc nl cl : Nat) (n : Int) (w : World) :
    Calls Try.prog 67 #[.agg #[.int .i64 f.last, .slice Ag ng cg, .slice Aw nw cw, .slice Ab nb cb, .slice Ac nc cc, .int .i64 f.ripe, .int .i64 f.late, .int .i64 f.trod, .slice Al nl cl], .int .i64 n] w fun e w' => e = .returned (.bool (M.hasWeek f n)) ∧ Ev w w' := by
  go_enter Try.func67, Try.ntmps67
  go_wp2
  all_goals (go_ret; exact ⟨ret_bool (by simp only [M.hasWeek]; first | (simp only [*]; simp; done) | (simp; omega)), Ev.alloc (Ev.refl _) _⟩)

set_option maxRecDepth 100000 in
set_option maxHeartbeats 400000 in
theorem isGrowth_c (r : M.Rg) (w : World) :
    Calls Try.prog 110 #[.agg #[.int .i64 r.lo, .int .i64 r.hi]] w fun e w' => e = .returned (.bool (M.isGrowth r)) ∧ Ev w w' := by
  have hu := fun W => upTo_e r 50 W
  generalize hb : M.upTo r 50 = b at hu
  have HU := hid hu
  have HB := hid hb
  clear hu hb
  go_enter Try.func110, Try.ntmps110
  go_wp2_with (go_at_call 114; with_reducible refine (HU.out _).mono ?_; rintro e w1 ⟨rfl, hb1⟩)
  go_ret
  exact ⟨ret_bool HB.out.symm, Ev.trans (Ev.alloc (Ev.refl _) _) hb1⟩

set_option maxRecDepth 100000 in
set_option maxHeartbeats 1000000 in
theorem validLook_c (f : M.Cf) (Ag Aw Ab Ac Al : Option Addr) (ng cg nw cw nb cb nc cc nl cl : Nat) (l : M.Lk) (w : World) :
    Calls Try.prog 94 #[.agg #[.int .i64 f.last, .slice Ag ng cg, .slice Aw nw cw, .slice Ab nb cb, .slice Ac nc cc, .int .i64 f.ripe, .int .i64 f.late, .int .i64 f.trod, .slice Al nl cl], .agg #[.int .i64 l.wk, .int .i64 l.ct.lo, .int .i64 l.ct.hi]] w fun e w' => e = .returned (.bool (M.validLook f l)) ∧ Ev w w' := by
  have hw := fun W => hasWeek_c f Ag Aw Ab Ac Al ng cg nw cw nb cb nc cc nl cl l.wk W
  have hu := fun W => upTo_e l.ct 1000 W
  have HD := hid (show M.validLook f l = (M.hasWeek f l.wk && M.upTo l.ct 1000) from rfl)
  generalize M.hasWeek f l.wk = a at hw HD
  generalize M.upTo l.ct 1000 = b at hu HD
  have HW := hid hw
  have HU := hid hu
  clear hw hu
  cases a <;> cases b
  all_goals (
    go_enter Try.func94, Try.ntmps94
    go_wp2_with (first | (go_at_call 67; with_reducible refine (HW.out _).mono ?_; rintro e w1 ⟨rfl, hb1⟩; obtain ⟨x0, x1, x2⟩ := cells3 (hb1.heap (alloc2 w (.cells #[.int .i64 f.last, .slice Ag ng cg, .slice Aw nw cw, .slice Ab nb cb, .slice Ac nc cc, .int .i64 f.ripe, .int .i64 f.late, .int .i64 f.trod, .slice Al nl cl] 38) (.cells #[.int .i64 l.wk, .int .i64 l.ct.lo, .int .i64 l.ct.hi] 73)).2.1)) | (go_at_call 114; with_reducible refine (HU.out _).mono ?_; rintro e w2 ⟨rfl, hb2⟩))
    go_ret
    exact ⟨ret_bool HD.out.symm, by first | exact Ev.trans (Ev.trans (Ev.alloc (Ev.alloc (Ev.refl _) _) _) hb1) hb2 | exact Ev.trans (Ev.alloc (Ev.alloc (Ev.refl _) _) _) hb1⟩)

set_option maxRecDepth 100000 in
set_option maxHeartbeats 1000000 in
theorem allWeek_c (f : M.Cf) (Ag Aw Ab Ac Al : Option Addr) (ng cg nw cw nb cb nc cc nl cl : Nat) (A : Option Addr) (n c : Nat) (xs : List Int) (w : World) (hs : Sl ics 1 w w.heap.size A n c xs) :
    Calls Try.prog 85 #[.slice A n c, .func (.func 67) #[.agg #[.int .i64 f.last, .slice Ag ng cg, .slice Aw nw cw, .slice Ab nb cb, .slice Ac nc cc, .int .i64 f.ripe, .int .i64 f.late, .int .i64 f.trod, .slice Al nl cl]] #[]] w fun e w' => e = .returned (.bool (xs.all (M.hasWeek f))) ∧ Ev w w' := by
  have hsm := hs.small
  go_enter Try.func85, Try.ntmps85
  go_wp2
  go_loopw [9] (fun i wr => ∃ k : Nat, i = .int .i64 k ∧ k ≤ n ∧ Ev w wr ∧ Hid ((xs.drop k).all (M.hasWeek f) = xs.all (M.hasWeek f))) (fun i _ => n - (intOf i).toNat)
  case atStart => exact ⟨0, rfl, by omega, Ev.refl _, hid rfl⟩
  case round =>
    obtain ⟨k, rfl, hk, hB, hall⟩ := hrel
    by_cases hlt : k < n
    · obtain ⟨b, off, x, rfl, hb, hx, hd, hcc⟩ := hs.at_ hB hlt
      have e0 := hcc 0 _ rfl
      simp only [Nat.add_zero, Nat.mul_one] at e0
      have hcap := hs.cap
      have H := hid hd
      clear hd hx hcc
      have hcon := fun W => hasWeek_c f Ag Aw Ab Ac Al ng cg nw cw nb cb nc cc nl cl x W
      cases hv : M.hasWeek f x with
      | true =>
        rw [hv] at hcon
        have HC := hid hcon
        have HV := hid hv
        clear hcon hv
        go_wp2_with (go_at_call 67; with_reducible refine (HC.out _).mono ?_; rintro e w1 ⟨rfl, hb1⟩)
        refine ⟨⟨k + 1, by go_num, by omega, by first | exact hB.trans hb1 | exact hB.trans (Ev.trans (Ev.alloc (Ev.refl _) _) hb1), ?_⟩, by simp [intOf]; omega⟩
        exact hid (by rw [← hall.out, H.out, List.all_cons, HV.out, Bool.true_and])
      | false =>
        rw [hv] at hcon
        have HC := hid hcon
        have HV := hid hv
        clear hcon hv
        go_wp2_with (go_at_call 67; with_reducible refine (HC.out _).mono ?_; rintro e w1 ⟨rfl, hb1⟩)
        go_ret
        exact ⟨ret_bool (by rw [← hall.out, H.out, List.all_cons, HV.out, Bool.false_and]), by first | exact hB.trans hb1 | exact hB.trans (Ev.trans (Ev.alloc (Ev.refl _) _) hb1)⟩
    · have H := hid (hs.done hlt)
      go_wp2
      go_ret
      exact ⟨ret_bool (by rw [← hall.out, H.out]; rfl), hB⟩

set_option maxRecDepth 100000 in
set_option maxHeartbeats 1000000 in
theorem allHolds_c (r : M.Rg) (A : Option Addr) (n c : Nat) (xs : List Int) (w : World) (hs : Sl ics 1 w w.heap.size A n c xs) :
    Calls Try.prog 85 #[.slice A n c, .func (.func 83) #[.agg #[.int .i64 r.lo, .int .i64 r.hi]] #[]] w fun e w' => e = .returned (.bool (xs.all (M.holds r))) ∧ Ev w w' := by
  have hsm := hs.small
  go_enter Try.func85, Try.ntmps85
  go_wp2
  go_loopw [9] (fun i wr => ∃ k : Nat, i = .int .i64 k ∧ k ≤ n ∧ Ev w wr ∧ Hid ((xs.drop k).all (M.holds r) = xs.all (M.holds r))) (fun i _ => n - (intOf i).toNat)
  case atStart => exact ⟨0, rfl, by omega, Ev.refl _, hid rfl⟩
  case round =>
    obtain ⟨k, rfl, hk, hB, hall⟩ := hrel
    by_cases hlt : k < n
    · obtain ⟨b, off, x, rfl, hb, hx, hd, hcc⟩ := hs.at_ hB hlt
      have e0 := hcc 0 _ rfl
      simp only [Nat.add_zero, Nat.mul_one] at e0
      have hcap := hs.cap
      have H := hid hd
      clear hd hx hcc
      have hcon := fun W => holds_e r x W
      cases hv : M.holds r x with
      | true =>
        rw [hv] at hcon
        have HC := hid hcon
        have HV := hid hv
        clear hcon hv
        go_wp2_with (go_at_call 83; with_reducible refine (HC.out _).mono ?_; rintro e w1 ⟨rfl, hb1⟩)
        refine ⟨⟨k + 1, by go_num, by omega, by first | exact hB.trans hb1 | exact hB.trans (Ev.trans (Ev.alloc (Ev.refl _) _) hb1), ?_⟩, by simp [intOf]; omega⟩
        exact hid (by rw [← hall.out, H.out, List.all_cons, HV.out, Bool.true_and])
      | false =>
        rw [hv] at hcon
        have HC := hid hcon
        have HV := hid hv
        clear hcon hv
        go_wp2_with (go_at_call 83; with_reducible refine (HC.out _).mono ?_; rintro e w1 ⟨rfl, hb1⟩)
        go_ret
        exact ⟨ret_bool (by rw [← hall.out, H.out, List.all_cons, HV.out, Bool.false_and]), by first | exact hB.trans hb1 | exact hB.trans (Ev.trans (Ev.alloc (Ev.refl _) _) hb1)⟩
    · have H := hid (hs.done hlt)
      go_wp2
      go_ret
      exact ⟨ret_bool (by rw [← hall.out, H.out]; rfl), hB⟩

set_option maxRecDepth 100000 in
set_option maxHeartbeats 1000000 in
theorem allGrowth_c  (A : Option Addr) (n c : Nat) (xs : List M.Rg) (w : World) (hs : Sl rgc 2 w w.heap.size A n c xs) :
    Calls Try.prog 109 #[.slice A n c, .func (.func 110) #[] #[]] w fun e w' => e = .returned (.bool (xs.all (M.isGrowth))) ∧ Ev w w' := by
  have hsm := hs.small
  go_enter Try.func109, Try.ntmps109
  go_wp2
  go_loopw [9] (fun i wr => ∃ k : Nat, i = .int .i64 k ∧ k ≤ n ∧ Ev w wr ∧ Hid ((xs.drop k).all (M.isGrowth) = xs.all (M.isGrowth))) (fun i _ => n - (intOf i).toNat)
  case atStart => exact ⟨0, rfl, by omega, Ev.refl _, hid rfl⟩
  case round =>
    obtain ⟨k, rfl, hk, hB, hall⟩ := hrel
    by_cases hlt : k < n
    · obtain ⟨b, off, x, rfl, hb, hx, hd, hcc⟩ := hs.at_ hB hlt
      have e0 := hcc 0 _ rfl
      have e1 := hcc 1 _ rfl
      simp only [Nat.add_zero, Nat.mul_one] at e0
      have hcap := hs.cap
      have H := hid hd
      clear hd hx hcc
      have hcon := fun W => isGrowth_c x W
      cases hv : M.isGrowth x with
      | true =>
        rw [hv] at hcon
        have HC := hid hcon
        have HV := hid hv
        clear hcon hv
        go_wp2_with (go_at_call 110; with_reducible refine (HC.out _).mono ?_; rintro e w1 ⟨rfl, hb1⟩)
        refine ⟨⟨k + 1, by go_num, by omega, by first | exact hB.trans hb1 | exact hB.trans (Ev.trans (Ev.alloc (Ev.refl _) _) hb1), ?_⟩, by simp [intOf]; omega⟩
        exact hid (by rw [← hall.out, H.out, List.all_cons, HV.out, Bool.true_and])
      | false =>
        rw [hv] at hcon
        have HC := hid hcon
        have HV := hid hv
        clear hcon hv
        go_wp2_with (go_at_call 110; with_reducible refine (HC.out _).mono ?_; rintro e w1 ⟨rfl, hb1⟩)
        go_ret
        exact ⟨ret_bool (by rw [← hall.out, H.out, List.all_cons, HV.out, Bool.false_and]), by first | exact hB.trans hb1 | exact hB.trans (Ev.trans (Ev.alloc (Ev.refl _) _) hb1)⟩
    · have H := hid (hs.done hlt)
      go_wp2
      go_ret
      exact ⟨ret_bool (by rw [← hall.out, H.out]; rfl), hB⟩

set_option maxRecDepth 100000 in
set_option maxHeartbeats 1000000 in
theorem allLook_c (f : M.Cf) (Ag Aw Ab Ac Al : Option Addr) (ng cg nw cw nb cb nc cc nl cl : Nat) (A : Option Addr) (n c : Nat) (xs : List M.Lk) (w : World) (hs : Sl lkc 3 w w.heap.size A n c xs) :
    Calls Try.prog 89 #[.slice A n c, .func (.func 94) #[.agg #[.int .i64 f.last, .slice Ag ng cg, .slice Aw nw cw, .slice Ab nb cb, .slice Ac nc cc, .int .i64 f.ripe, .int .i64 f.late, .int .i64 f.trod, .slice Al nl cl]] #[]] w fun e w' => e = .returned (.bool (xs.all (M.validLook f))) ∧ Ev w w' := by
  have hsm := hs.small
  go_enter Try.func89, Try.ntmps89
  go_wp2
  go_loopw [9] (fun i wr => ∃ k : Nat, i = .int .i64 k ∧ k ≤ n ∧ Ev w wr ∧ Hid ((xs.drop k).all (M.validLook f) = xs.all (M.validLook f))) (fun i _ => n - (intOf i).toNat)
  case atStart => exact ⟨0, rfl, by omega, Ev.refl _, hid rfl⟩
  case round =>
    obtain ⟨k, rfl, hk, hB, hall⟩ := hrel
    by_cases hlt : k < n
    · obtain ⟨b, off, x, rfl, hb, hx, hd, hcc⟩ := hs.at_ hB hlt
      have e0 := hcc 0 _ rfl
      have e1 := hcc 1 _ rfl
      have e2 := hcc 2 _ rfl
      simp only [Nat.add_zero, Nat.mul_one] at e0
      have hcap := hs.cap
      have H := hid hd
      clear hd hx hcc
      have hcon := fun W => validLook_c f Ag Aw Ab Ac Al ng cg nw cw nb cb nc cc nl cl x W
      cases hv : M.validLook f x with
      | true =>
        rw [hv] at hcon
        have HC := hid hcon
        have HV := hid hv
        clear hcon hv
        go_wp2_with (go_at_call 94; with_reducible refine (HC.out _).mono ?_; rintro e w1 ⟨rfl, hb1⟩)
        refine ⟨⟨k + 1, by go_num, by omega, by first | exact hB.trans hb1 | exact hB.trans (Ev.trans (Ev.alloc (Ev.refl _) _) hb1), ?_⟩, by simp [intOf]; omega⟩
        exact hid (by rw [← hall.out, H.out, List.all_cons, HV.out, Bool.true_and])
      | false =>
        rw [hv] at hcon
        have HC := hid hcon
        have HV := hid hv
        clear hcon hv
        go_wp2_with (go_at_call 94; with_reducible refine (HC.out _).mono ?_; rintro e w1 ⟨rfl, hb1⟩)
        go_ret
        exact ⟨ret_bool (by rw [← hall.out, H.out, List.all_cons, HV.out, Bool.false_and]), by first | exact hB.trans hb1 | exact hB.trans (Ev.trans (Ev.alloc (Ev.refl _) _) hb1)⟩
    · have H := hid (hs.done hlt)
      go_wp2
      go_ret
      exact ⟨ret_bool (by rw [← hall.out, H.out]; rfl), hB⟩

end Go.Proofs.Ytffbkbcjddigdaa
