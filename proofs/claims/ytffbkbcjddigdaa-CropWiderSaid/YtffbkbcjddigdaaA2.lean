import Derived.Test.YtffbkbcjddigdaaA1
set_option linter.unusedSimpArgs false
set_option linter.unusedVariables false
namespace Go.Proofs.Ytffbkbcjddigdaa
open Go.RowKit

structure M.Lk where
 wk : Int
 ct : M.Rg
deriving DecidableEq
structure M.Cf where
 last : Int
 gr : List M.Rg
 wet : List Int
 base : List Int
 crops : List Int
 ripe : Int
 late : Int
 trod : Int
 looks : List M.Lk
deriving DecidableEq
def lkc (l : M.Lk) : List Value := [.int .i64 l.wk, .int .i64 l.ct.lo, .int .i64 l.ct.hi]
def M.hasWeek (f : M.Cf) (x : Int) : Bool := decide (0 ≤ x) && decide (x ≤ f.last)
def M.isPlan (f : M.Cf) (l : List Int) : Bool := decide (l.length ≤ f.base.length) && (M.rises l && l.all (M.hasWeek f))
def M.isGrowth (r : M.Rg) : Bool := M.upTo r 50
def M.validLook (f : M.Cf) (l : M.Lk) : Bool := M.hasWeek f l.wk && M.upTo l.ct 1000
def M.validCare (f : M.Cf) : Bool := M.holds ⟨1, 10⟩ f.ripe && (M.holds ⟨0, 50⟩ f.late && M.holds ⟨0, 100⟩ f.trod)

theorem cells9 {W : World} {b : Nat} {t : TypeId} {v0 v1 v2 v3 v4 v5 v6 v7 v8 : Value} (h : W.heap[b]? = some (.cells #[v0, v1, v2, v3, v4, v5, v6, v7, v8] t (0, 0))) :
  W.cell? ⟨b, 0, none⟩ = some v0 ∧ W.cell? ⟨b, 1, none⟩ = some v1 ∧ W.cell? ⟨b, 2, none⟩ = some v2 ∧ W.cell? ⟨b, 3, none⟩ = some v3 ∧ W.cell? ⟨b, 4, none⟩ = some v4 ∧ W.cell? ⟨b, 5, none⟩ = some v5 ∧ W.cell? ⟨b, 6, none⟩ = some v6 ∧ W.cell? ⟨b, 7, none⟩ = some v7 ∧ W.cell? ⟨b, 8, none⟩ = some v8 :=
 ⟨cell_in h 0, cell_in h 1, cell_in h 2, cell_in h 3, cell_in h 4, cell_in h 5, cell_in h 6, cell_in h 7, cell_in h 8⟩

set_option maxRecDepth 100000 in
set_option maxHeartbeats 400000 in
theorem hasWeek_c (f : M.Cf) (Ag Aw Ab Ac Al : Option Addr) (ng cg nw cw nb cb nc cc nl cl : Nat) (n : Int) (w : World) :
  Calls Try.prog 67 #[.agg #[.int .i64 f.last, .slice Ag ng cg, .slice Aw nw cw, .slice Ab nb cb, .slice Ac nc cc, .int .i64 f.ripe, .int .i64 f.late, .int .i64 f.trod, .slice Al nl cl], .int .i64 n] w fun e w' => e = .returned (.bool (M.hasWeek f n)) ∧ Ev w w' := by
 go_enter Try.func67, Try.ntmps67
 go_wp2
 all_goals (go_ret; exact ⟨ret_bool (by simp only [M.hasWeek]; first | (simp only [*]; simp; done) | (simp; omega)), Ev.alloc (Ev.refl _) _⟩)

set_option maxRecDepth 100000 in
set_option maxHeartbeats 400000 in
theorem isGrowth_c (r : M.Rg) (w : World) :
  Calls Try.prog 110 #[.agg #[.int .i64 r.lo, .int .i64 r.hi]] w fun e w' => e = .returned (.bool (M.isGrowth r)) ∧ Ev w w' := by
 have hu := fun W => upTo_e r 50 W
 generalize hb : M.upTo r 50 = b at hu
 have HU := hid hu
 have HB := hid hb
 clear hu hb
 go_enter Try.func110, Try.ntmps110
 go_wp2_with (go_at_call 114; with_reducible refine (HU.out _).mono ?_; rintro e w1 ⟨rfl, hb1⟩)
 go_ret
 exact ⟨ret_bool HB.out.symm, Ev.trans (Ev.alloc (Ev.refl _) _) hb1⟩

set_option maxRecDepth 100000 in
set_option maxHeartbeats 1000000 in
theorem validLook_c (f : M.Cf) (Ag Aw Ab Ac Al : Option Addr) (ng cg nw cw nb cb nc cc nl cl : Nat) (l : M.Lk) (w : World) :
  Calls Try.prog 94 #[.agg #[.int .i64 f.last, .slice Ag ng cg, .slice Aw nw cw, .slice Ab nb cb, .slice Ac nc cc, .int .i64 f.ripe, .int .i64 f.late, .int .i64 f.trod, .slice Al nl cl], .agg #[.int .i64 l.wk, .int .i64 l.ct.lo, .int .i64 l.ct.hi]] w fun e w' => e = .returned (.bool (M.validLook f l)) ∧ Ev w w' := by
 have hw := fun W => hasWeek_c f Ag Aw Ab Ac Al ng cg nw cw nb cb nc cc nl cl l.wk W
 have hu := fun W => upTo_e l.ct 1000 W
 have HD := hid (show M.validLook f l = (M.hasWeek f l.wk && M.upTo l.ct 1000) from rfl)
 generalize M.hasWeek f l.wk = a at hw HD
 generalize M.upTo l.ct 1000 = b at hu HD
 have HW := hid hw
 have HU := hid hu
 clear hw hu
 cases a <;> cases b
 all_goals (
  go_enter Try.func94, Try.ntmps94
  go_wp2_with (first | (go_at_call 67; with_reducible refine (HW.out _).mono ?_; rintro e w1 ⟨rfl, hb1⟩; obtain ⟨x0, x1, x2⟩ := cells3 (hb1.heap (alloc2 w (.cells #[.int .i64 f.last, .slice Ag ng cg, .slice Aw nw cw, .slice Ab nb cb, .slice Ac nc cc, .int .i64 f.ripe, .int .i64 f.late, .int .i64 f.trod, .slice Al nl cl] 38) (.cells #[.int .i64 l.wk, .int .i64 l.ct.lo, .int .i64 l.ct.hi] 73)).2.1)) | (go_at_call 114; with_reducible refine (HU.out _).mono ?_; rintro e w2 ⟨rfl, hb2⟩))
  go_ret
  exact ⟨ret_bool HD.out.symm, by first | exact Ev.trans (Ev.trans (Ev.alloc (Ev.alloc (Ev.refl _) _) _) hb1) hb2 | exact Ev.trans (Ev.alloc (Ev.alloc (Ev.refl _) _) _) hb1⟩)

set_option maxRecDepth 100000 in
set_option maxHeartbeats 1000000 in
theorem allWeek_c (f : M.Cf) (Ag Aw Ab Ac Al : Option Addr) (ng cg nw cw nb cb nc cc nl cl : Nat) (A : Option Addr) (n c : Nat) (xs : List Int) (w : World) (hs : Sl ics 1 w w.heap.size A n c xs) :
  Calls Try.prog 85 #[.slice A n c, .func (.func 67) #[.agg #[.int .i64 f.last, .slice Ag ng cg, .slice Aw nw cw, .slice Ab nb cb, .slice Ac nc cc, .int .i64 f.ripe, .int .i64 f.late, .int .i64 f.trod, .slice Al nl cl]] #[]] w fun e w' => e = .returned (.bool (xs.all (M.hasWeek f))) ∧ Ev w w' := by
 have hsm := hs.small
 go_enter Try.func85, Try.ntmps85
 go_wp2
 go_loopw [9] (fun i wr => ∃ k : Nat, i = .int .i64 k ∧ k ≤ n ∧ Ev w wr ∧ Hid ((xs.drop k).all (M.hasWeek f) = xs.all (M.hasWeek f))) (fun i _ => n - (intOf i).toNat)
 case atStart => exact ⟨0, rfl, by omega, Ev.refl _, hid rfl⟩
 case round =>
  obtain ⟨k, rfl, hk, hB, hall⟩ := hrel
  by_cases hlt : k < n
  ·
   obtain ⟨b, off, x, rfl, hb, hx, hd, hcc⟩ := hs.at_ hB hlt
   have e0 := hcc 0 _ rfl
   simp only [Nat.add_zero, Nat.mul_one] at e0
   have hcap := hs.cap
   have H := hid hd
   clear hd hx hcc
   have hcon := fun W => hasWeek_c f Ag Aw Ab Ac Al ng cg nw cw nb cb nc cc nl cl x W
   cases hv : M.hasWeek f x with
   | true =>
    rw [hv] at hcon
    have HC := hid hcon
    have HV := hid hv
    clear hcon hv
    go_wp2_with (go_at_call 67; with_reducible refine (HC.out _).mono ?_; rintro e w1 ⟨rfl, hb1⟩)
    refine ⟨⟨k + 1, by go_num, by omega, by first | exact hB.trans hb1 | exact hB.trans (Ev.trans (Ev.alloc (Ev.refl _) _) hb1), ?_⟩, by simp [intOf]; omega⟩
    exact hid (by rw [← hall.out, H.out, List.all_cons, HV.out, Bool.true_and])
   | false =>
    rw [hv] at hcon
    have HC := hid hcon
    have HV := hid hv
    clear hcon hv
    go_wp2_with (go_at_call 67; with_reducible refine (HC.out _).mono ?_; rintro e w1 ⟨rfl, hb1⟩)
    go_ret
    exact ⟨ret_bool (by rw [← hall.out, H.out, List.all_cons, HV.out, Bool.false_and]), by first | exact hB.trans hb1 | exact hB.trans (Ev.trans (Ev.alloc (Ev.refl _) _) hb1)⟩
  ·
   have H := hid (hs.done hlt)
   go_wp2
   go_ret
   exact ⟨ret_bool (by rw [← hall.out, H.out]; rfl), hB⟩

set_option maxRecDepth 100000 in
set_option maxHeartbeats 1000000 in
theorem allHolds_c (r : M.Rg) (A : Option Addr) (n c : Nat) (xs : List Int) (w : World) (hs : Sl ics 1 w w.heap.size A n c xs) :
  Calls Try.prog 85 #[.slice A n c, .func (.func 83) #[.agg #[.int .i64 r.lo, .int .i64 r.hi]] #[]] w fun e w' => e = .returned (.bool (xs.all (M.holds r))) ∧ Ev w w' := by
 have hsm := hs.small
 go_enter Try.func85, Try.ntmps85
 go_wp2
 go_loopw [9] (fun i wr => ∃ k : Nat, i = .int .i64 k ∧ k ≤ n ∧ Ev w wr ∧ Hid ((xs.drop k).all (M.holds r) = xs.all (M.holds r))) (fun i _ => n - (intOf i).toNat)
 case atStart => exact ⟨0, rfl, by omega, Ev.refl _, hid rfl⟩
 case round =>
  obtain ⟨k, rfl, hk, hB, hall⟩ := hrel
  by_cases hlt : k < n
  ·
   obtain ⟨b, off, x, rfl, hb, hx, hd, hcc⟩ := hs.at_ hB hlt
   have e0 := hcc 0 _ rfl
   simp only [Nat.add_zero, Nat.mul_one] at e0
   have hcap := hs.cap
   have H := hid hd
   clear hd hx hcc
   have hcon := fun W => holds_e r x W
   cases hv : M.holds r x with
   | true =>
    rw [hv] at hcon
    have HC := hid hcon
    have HV := hid hv
    clear hcon hv
    go_wp2_with (go_at_call 83; with_reducible refine (HC.out _).mono ?_; rintro e w1 ⟨rfl, hb1⟩)
    refine ⟨⟨k + 1, by go_num, by omega, by first | exact hB.trans hb1 | exact hB.trans (Ev.trans (Ev.alloc (Ev.refl _) _) hb1), ?_⟩, by simp [intOf]; omega⟩
    exact hid (by rw [← hall.out, H.out, List.all_cons, HV.out, Bool.true_and])
   | false =>
    rw [hv] at hcon
    have HC := hid hcon
    have HV := hid hv
    clear hcon hv
    go_wp2_with (go_at_call 83; with_reducible refine (HC.out _).mono ?_; rintro e w1 ⟨rfl, hb1⟩)
    go_ret
    exact ⟨ret_bool (by rw [← hall.out, H.out, List.all_cons, HV.out, Bool.false_and]), by first | exact hB.trans hb1 | exact hB.trans (Ev.trans (Ev.alloc (Ev.refl _) _) hb1)⟩
  ·
   have H := hid (hs.done hlt)
   go_wp2
   go_ret
   exact ⟨ret_bool (by rw [← hall.out, H.out]; rfl), hB⟩

set_option maxRecDepth 100000 in
set_option maxHeartbeats 1000000 in
theorem allGrowth_c  (A : Option Addr) (n c : Nat) (xs : List M.Rg) (w : World) (hs : Sl rgc 2 w w.heap.size A n c xs) :
  Calls Try.prog 109 #[.slice A n c, .func (.func 110) #[] #[]] w fun e w' => e = .returned (.bool (xs.all (M.isGrowth))) ∧ Ev w w' := by
 have hsm := hs.small
 go_enter Try.func109, Try.ntmps109
 go_wp2
 go_loopw [9] (fun i wr => ∃ k : Nat, i = .int .i64 k ∧ k ≤ n ∧ Ev w wr ∧ Hid ((xs.drop k).all (M.isGrowth) = xs.all (M.isGrowth))) (fun i _ => n - (intOf i).toNat)
 case atStart => exact ⟨0, rfl, by omega, Ev.refl _, hid rfl⟩
 case round =>
  obtain ⟨k, rfl, hk, hB, hall⟩ := hrel
  by_cases hlt : k < n
  ·
   obtain ⟨b, off, x, rfl, hb, hx, hd, hcc⟩ := hs.at_ hB hlt
   have e0 := hcc 0 _ rfl
   have e1 := hcc 1 _ rfl
   simp only [Nat.add_zero, Nat.mul_one] at e0
   have hcap := hs.cap
   have H := hid hd
   clear hd hx hcc
   have hcon := fun W => isGrowth_c x W
   cases hv : M.isGrowth x with
   | true =>
    rw [hv] at hcon
    have HC := hid hcon
    have HV := hid hv
    clear hcon hv
    go_wp2_with (go_at_call 110; with_reducible refine (HC.out _).mono ?_; rintro e w1 ⟨rfl, hb1⟩)
    refine ⟨⟨k + 1, by go_num, by omega, by first | exact hB.trans hb1 | exact hB.trans (Ev.trans (Ev.alloc (Ev.refl _) _) hb1), ?_⟩, by simp [intOf]; omega⟩
    exact hid (by rw [← hall.out, H.out, List.all_cons, HV.out, Bool.true_and])
   | false =>
    rw [hv] at hcon
    have HC := hid hcon
    have HV := hid hv
    clear hcon hv
    go_wp2_with (go_at_call 110; with_reducible refine (HC.out _).mono ?_; rintro e w1 ⟨rfl, hb1⟩)
    go_ret
    exact ⟨ret_bool (by rw [← hall.out, H.out, List.all_cons, HV.out, Bool.false_and]), by first | exact hB.trans hb1 | exact hB.trans (Ev.trans (Ev.alloc (Ev.refl _) _) hb1)⟩
  ·
   have H := hid (hs.done hlt)
   go_wp2
   go_ret
   exact ⟨ret_bool (by rw [← hall.out, H.out]; rfl), hB⟩

set_option maxRecDepth 100000 in
set_option maxHeartbeats 1000000 in
theorem allLook_c (f : M.Cf) (Ag Aw Ab Ac Al : Option Addr) (ng cg nw cw nb cb nc cc nl cl : Nat) (A : Option Addr) (n c : Nat) (xs : List M.Lk) (w : World) (hs : Sl lkc 3 w w.heap.size A n c xs) :
  Calls Try.prog 89 #[.slice A n c, .func (.func 94) #[.agg #[.int .i64 f.last, .slice Ag ng cg, .slice Aw nw cw, .slice Ab nb cb, .slice Ac nc cc, .int .i64 f.ripe, .int .i64 f.late, .int .i64 f.trod, .slice Al nl cl]] #[]] w fun e w' => e = .returned (.bool (xs.all (M.validLook f))) ∧ Ev w w' := by
 have hsm := hs.small
 go_enter Try.func89, Try.ntmps89
 go_wp2
 go_loopw [9] (fun i wr => ∃ k : Nat, i = .int .i64 k ∧ k ≤ n ∧ Ev w wr ∧ Hid ((xs.drop k).all (M.validLook f) = xs.all (M.validLook f))) (fun i _ => n - (intOf i).toNat)
 case atStart => exact ⟨0, rfl, by omega, Ev.refl _, hid rfl⟩
 case round =>
  obtain ⟨k, rfl, hk, hB, hall⟩ := hrel
  by_cases hlt : k < n
  ·
   obtain ⟨b, off, x, rfl, hb, hx, hd, hcc⟩ := hs.at_ hB hlt
   have e0 := hcc 0 _ rfl
   have e1 := hcc 1 _ rfl
   have e2 := hcc 2 _ rfl
   simp only [Nat.add_zero, Nat.mul_one] at e0
   have hcap := hs.cap
   have H := hid hd
   clear hd hx hcc
   have hcon := fun W => validLook_c f Ag Aw Ab Ac Al ng cg nw cw nb cb nc cc nl cl x W
   cases hv : M.validLook f x with
   | true =>
    rw [hv] at hcon
    have HC := hid hcon
    have HV := hid hv
    clear hcon hv
    go_wp2_with (go_at_call 94; with_reducible refine (HC.out _).mono ?_; rintro e w1 ⟨rfl, hb1⟩)
    refine ⟨⟨k + 1, by go_num, by omega, by first | exact hB.trans hb1 | exact hB.trans (Ev.trans (Ev.alloc (Ev.refl _) _) hb1), ?_⟩, by simp [intOf]; omega⟩
    exact hid (by rw [← hall.out, H.out, List.all_cons, HV.out, Bool.true_and])
   | false =>
    rw [hv] at hcon
    have HC := hid hcon
    have HV := hid hv
    clear hcon hv
    go_wp2_with (go_at_call 94; with_reducible refine (HC.out _).mono ?_; rintro e w1 ⟨rfl, hb1⟩)
    go_ret
    exact ⟨ret_bool (by rw [← hall.out, H.out, List.all_cons, HV.out, Bool.false_and]), by first | exact hB.trans hb1 | exact hB.trans (Ev.trans (Ev.alloc (Ev.refl _) _) hb1)⟩
  ·
   have H := hid (hs.done hlt)
   go_wp2
   go_ret
   exact ⟨ret_bool (by rw [← hall.out, H.out]; rfl), hB⟩

end Go.Proofs.Ytffbkbcjddigdaa

set_option linter.unusedSimpArgs false
set_option linter.unusedVariables false
namespace Go.Proofs.Ytffbkbcjddigdaa
open Go.RowKit

set_option maxRecDepth 100000 in
set_option maxHeartbeats 1000000 in
theorem isPlan_c (f : M.Cf) (Ag Aw Ab Ac Al : Option Addr) (ng cg nw cw nb cb nc cc nl cl : Nat) (hb : f.base.length = nb) (hnb : nb ≤ 1099511627776) (A : Option Addr) (n c : Nat) (xs : List Int) (w : World) (hs : Sl ics 1 w w.heap.size A n c xs) :
  Calls Try.prog 54 #[.agg #[.int .i64 f.last, .slice Ag ng cg, .slice Aw nw cw, .slice Ab nb cb, .slice Ac nc cc, .int .i64 f.ripe, .int .i64 f.late, .int .i64 f.trod, .slice Al nl cl], .slice A n c] w fun e w' => e = .returned (.bool (M.isPlan f xs)) ∧ Ev w w' := by
 have hln := hs.len
 have hri := fun W (hE : Ev w W) => rises_c A n c xs W (hs.ev hE)
 have haw := fun W (hE : Ev w W) => allWeek_c f Ag Aw Ab Ac Al ng cg nw cw nb cb nc cc nl cl A n c xs W (hs.ev hE)
 have HD := hid (show M.isPlan f xs = (decide (n ≤ nb) && (M.rises xs && xs.all (M.hasWeek f))) by unfold M.isPlan; rw [hln, hb])
 generalize M.rises xs = a at hri HD
 generalize xs.all (M.hasWeek f) = b at haw HD
 have HRI := hid hri
 have HAW := hid haw
 have hsm := hs.small
 clear hri haw hs hln hb
 by_cases h : n ≤ nb
 ·
  have h1 : (n : Int) ≤ nb := by omega
  rw [decide_eq_true h] at HD
  clear h
  cases a
  ·
   go_enter Try.func54, Try.ntmps54
   go_wp2_with (go_at_call 84; with_reducible refine (HRI.out _ (Ev.alloc (Ev.refl _) _)).mono ?_; rintro e w1 ⟨rfl, hb1⟩)
   go_ret
   exact ⟨ret_bool HD.out.symm, Ev.trans (Ev.alloc (Ev.refl _) _) hb1⟩
  ·
   go_enter Try.func54, Try.ntmps54
   go_wp2_with (first | (go_at_call 84; with_reducible refine (HRI.out _ (Ev.alloc (Ev.refl _) _)).mono ?_; rintro e w1 ⟨rfl, hb1⟩; obtain ⟨y0, y1, y2, y3, y4, y5, y6, y7, y8⟩ := cells9 (hb1.heap (alloc1 w (.cells #[.int .i64 f.last, .slice Ag ng cg, .slice Aw nw cw, .slice Ab nb cb, .slice Ac nc cc, .int .i64 f.ripe, .int .i64 f.late, .int .i64 f.trod, .slice Al nl cl] 38)).1); have hE1 : Ev w w1 := Ev.trans (Ev.alloc (Ev.refl _) _) hb1) | (go_at_call 85; with_reducible refine (HAW.out _ hE1).mono ?_; rintro e w2 ⟨rfl, hb2⟩))
   go_ret
   exact ⟨ret_bool HD.out.symm, hE1.trans hb2⟩
 ·
  have h1 : ¬ ((n : Int) ≤ nb) := by omega
  have h2 : (nb : Int) < n := by omega
  rw [decide_eq_false h] at HD
  clear h
  go_enter Try.func54, Try.ntmps54
  go_wp2
  go_ret
  exact ⟨ret_bool HD.out.symm, Ev.alloc (Ev.refl _) _⟩

set_option maxRecDepth 100000 in
set_option maxHeartbeats 1000000 in
theorem validCare_c (f : M.Cf) (Ag Aw Ab Ac Al : Option Addr) (ng cg nw cw nb cb nc cc nl cl : Nat) (w : World) :
  Calls Try.prog 93 #[.agg #[.int .i64 f.last, .slice Ag ng cg, .slice Aw nw cw, .slice Ab nb cb, .slice Ac nc cc, .int .i64 f.ripe, .int .i64 f.late, .int .i64 f.trod, .slice Al nl cl]] w fun e w' => e = .returned (.bool (M.validCare f)) ∧ Ev w w' := by
 have h1 : ∀ W, Calls Try.prog 83 #[.agg #[.int .i64 1, .int .i64 10], .int .i64 f.ripe] W fun e w' => e = .returned (.bool (M.holds ⟨1, 10⟩ f.ripe)) ∧ Ev W w' := fun W => holds_e ⟨1, 10⟩ f.ripe W
 have h2 : ∀ W, Calls Try.prog 83 #[.agg #[.int .i64 0, .int .i64 50], .int .i64 f.late] W fun e w' => e = .returned (.bool (M.holds ⟨0, 50⟩ f.late)) ∧ Ev W w' := fun W => holds_e ⟨0, 50⟩ f.late W
 have h3 : ∀ W, Calls Try.prog 83 #[.agg #[.int .i64 0, .int .i64 100], .int .i64 f.trod] W fun e w' => e = .returned (.bool (M.holds ⟨0, 100⟩ f.trod)) ∧ Ev W w' := fun W => holds_e ⟨0, 100⟩ f.trod W
 have HD := hid (show M.validCare f = (M.holds ⟨1, 10⟩ f.ripe && (M.holds ⟨0, 50⟩ f.late && M.holds ⟨0, 100⟩ f.trod)) from rfl)
 generalize M.holds ⟨1, 10⟩ f.ripe = a at h1 HD
 generalize M.holds ⟨0, 50⟩ f.late = b at h2 HD
 generalize M.holds ⟨0, 100⟩ f.trod = c at h3 HD
 have H1 := hid h1
 have H2 := hid h2
 have H3 := hid h3
 clear h1 h2 h3
 cases a <;> cases b
 all_goals (
  go_enter Try.func93, Try.ntmps93
  go_wp2_with (first | (go_at_call 83; with_reducible refine (H1.out _).mono ?_; rintro e w1 ⟨rfl, hb1⟩; have hE1 : Ev w w1 := Ev.trans (Ev.alloc (Ev.refl _) _) hb1; have hG : Ev w w1 := hE1; obtain ⟨y0, y1, y2, y3, y4, y5, y6, y7, y8⟩ := cells9 (hb1.heap (alloc1 w (.cells #[.int .i64 f.last, .slice Ag ng cg, .slice Aw nw cw, .slice Ab nb cb, .slice Ac nc cc, .int .i64 f.ripe, .int .i64 f.late, .int .i64 f.trod, .slice Al nl cl] 38)).1); have HQ := hid (hb1.heap (alloc1 w (.cells #[.int .i64 f.last, .slice Ag ng cg, .slice Aw nw cw, .slice Ab nb cb, .slice Ac nc cc, .int .i64 f.ripe, .int .i64 f.late, .int .i64 f.trod, .slice Al nl cl] 38)).1)) | (go_at_call 83; with_reducible refine (H2.out _).mono ?_; rintro e w2 ⟨rfl, hb2⟩; replace hG := hG.trans hb2; clear y0 y1 y2 y3 y4 y5 y6 y7 y8; obtain ⟨y0, y1, y2, y3, y4, y5, y6, y7, y8⟩ := cells9 (hb2.heap HQ.out)) | (go_at_call 83; with_reducible refine (H3.out _).mono ?_; rintro e w3 ⟨rfl, hb3⟩; replace hG := hG.trans hb3))
  go_ret
  exact ⟨ret_bool HD.out.symm, hG⟩)

theorem isNaN_c (x : Int) (w : World) : Calls Try.prog 121 #[.int .i64 x] w fun e w' => e = .returned (.bool false) ∧ w' = w := by
 go_enter Try.func121, Try.ntmps121
 go_wp2
 go_ret
 exact ⟨rfl, rfl⟩

/-- What cmp.Compare says. -/
def M.cmp (x y : Int) : Int := if x < y then -1 else if y < x then 1 else 0
theorem M.cmp_neg (x y : Int) : (M.cmp x y < 0) ↔ x < y := by
 unfold M.cmp
 split
 ·
  omega
 ·
  split <;> omega
theorem compare_c (x y : Int) (w : World) : Calls Try.prog 112 #[.int .i64 x, .int .i64 y] w fun e w' => e = .returned (.int .i64 (M.cmp x y)) ∧ w' = w := by
 by_cases h : x < y
 ·
  have h' : ¬ (y < x) := by omega
  have hc : M.cmp x y = -1 := by unfold M.cmp; rw [if_pos h]
  rw [hc]
  go_enter Try.func112, Try.ntmps112
  go_wp2_with (first | (go_at_call 121; with_reducible refine (isNaN_c _ _).mono ?_; rintro e w1 ⟨rfl, h1⟩; cases h1))
  go_ret
  exact ⟨rfl, rfl⟩
 ·
  by_cases h2 : y < x
  ·
   have hc : M.cmp x y = 1 := by unfold M.cmp; rw [if_neg h, if_pos h2]
   rw [hc]
   go_enter Try.func112, Try.ntmps112
   go_wp2_with (first | (go_at_call 121; with_reducible refine (isNaN_c _ _).mono ?_; rintro e w1 ⟨rfl, h1⟩; cases h1))
   go_ret
   exact ⟨rfl, rfl⟩
  ·
   have hc : M.cmp x y = 0 := by unfold M.cmp; rw [if_neg h, if_neg h2]
   rw [hc]
   go_enter Try.func112, Try.ntmps112
   go_wp2_with (first | (go_at_call 121; with_reducible refine (isNaN_c _ _).mono ?_; rintro e w1 ⟨rfl, h1⟩; cases h1))
   go_ret
   exact ⟨rfl, rfl⟩
theorem falling_c (a b : Int) (w : World) : Calls Try.prog 111 #[.int .i64 a, .int .i64 b] w fun e w' => e = .returned (.int .i64 (M.cmp b a)) ∧ w' = w := by
 go_enter Try.func111, Try.ntmps111
 go_wp2_with (go_at_call 112; with_reducible refine (compare_c _ _ _).mono ?_; rintro e w1 ⟨rfl, h1⟩; cases h1)
 go_ret
 exact ⟨rfl, rfl⟩

/-- No number is greater than the one before it. -/
def M.falls (xs : List Int) : Bool := (List.range (xs.length - 1)).all fun j => decide (xs.getD (j + 1) 0 ≤ xs.getD j 0)
theorem M.falls_iff (xs : List Int) : M.falls xs = true ↔ ∀ j, j + 1 < xs.length → xs.getD (j + 1) 0 ≤ xs.getD j 0 := by
 unfold M.falls
 simp only [List.all_eq_true, List.mem_range, decide_eq_true_eq]
 exact ⟨fun h j hj => h j (by omega), fun h j hj => h j (by omega)⟩

set_option maxRecDepth 100000 in
set_option maxHeartbeats 1000000 in
theorem sorted_c (A : Option Addr) (n c : Nat) (xs : List Int) (w : World) (hs : Sl ics 1 w w.heap.size A n c xs) :
  Calls Try.prog 113 #[.slice A n c, .func (.func 111) #[] #[]] w fun e w' => e = .returned (.bool (M.falls xs)) ∧ Ev w w' := by
 have hsm := hs.small
 have hln := hs.len
 have s0 : IntKind.i64.wrap ((n : Int) - 1) = (n : Int) - 1 := IntWalk.i64_in _ (by omega)
 have HLN := hid hln
 clear hln
 go_enter Try.func113, Try.ntmps113
 go_wp2
 go_loopw [5] (fun i wr => ∃ k : Int, i = .int .i64 k ∧ -1 ≤ k ∧ k < n ∧ Ev w wr ∧ Hid (∀ j : Nat, k ≤ j → j + 1 < n → xs.getD (j + 1) 0 ≤ xs.getD j 0)) (fun i _ => (intOf i + 1).toNat)
 case atStart => exact ⟨(n : Int) - 1, rfl, by omega, by omega, Ev.refl _, hid (fun j h1 h2 => by omega)⟩
 case round =>
  obtain ⟨k, rfl, hk0, hk, hB, hall⟩ := hrel
  by_cases hlt : 0 < k
  ·
   obtain ⟨q, rfl⟩ : ∃ q : Nat, k = (q : Int) := ⟨k.toNat, by omega⟩
   obtain ⟨m, hm⟩ : ∃ m : Nat, (q : Int) - 1 = (m : Int) := ⟨q - 1, by omega⟩
   have hq1 : q = m + 1 := by omega
   have hm1 : q < n := by omega
   obtain ⟨b, off, hA, hbl, hcc⟩ := hs.cells (by omega)
   subst hA
   have hx1 : xs[q]? = some (xs[q]'(by have := HLN.out; omega)) := List.getElem?_eq_getElem _
   have hx0 : xs[m]? = some (xs[m]'(by have := HLN.out; omega)) := List.getElem?_eq_getElem _
   have g1 : xs.getD q 0 = xs[q]'(by have := HLN.out; omega) := by rw [List.getD_eq_getElem?_getD, hx1]; rfl
   have g0 : xs.getD m 0 = xs[m]'(by have := HLN.out; omega) := by rw [List.getD_eq_getElem?_getD, hx0]; rfl
   have e1 := (hB.cells.1 _ _ hbl).trans (hcc q _ hx1 0 _ rfl)
   have e0 := (hB.cells.1 _ _ hbl).trans (hcc m _ hx0 0 _ rfl)
   rw [← g1] at e1
   rw [← g0] at e0
   simp only [Nat.mul_one, Nat.add_zero] at e0 e1
   have hcap := hs.cap
   have s1 : IntKind.i64.wrap ((q : Int) - 1) = m := by rw [hm]; exact IntWalk.i64_in _ (by omega)
   have hbw : b < wr.heap.size := by have := hB.size; omega
   obtain ⟨y, hy⟩ : ∃ y, xs.getD q 0 = y := ⟨_, rfl⟩
   have HQ1 := hid hq1
   have HM := hid hm
   obtain ⟨z, hz⟩ : ∃ z, xs.getD m 0 = z := ⟨_, rfl⟩
   rw [hy] at e1
   rw [hz] at e0
   have HY := hid hy
   have HZ := hid hz
   have hcn := M.cmp_neg z y
   have HFC := hid (fun W => falling_c y z W)
   generalize M.cmp z y = v at hcn HFC
   have HSE : Hid (∀ w', Ev wr w' → Ev wr w' ∧ (∀ o, w'.cell? ⟨b, o, none⟩ = wr.cell? ⟨b, o, none⟩)) := hid (fun w' h => ⟨h, fun o => h.cells.1 _ o hbw⟩)
   have hmn : m < n := by omega
   clear hy hz hx1 hx0 g1 g0 hcc hm hq1
   by_cases hv : v < 0
   ·
    have hzy := hcn.1 hv
    clear hcn
    go_wp2_with (go_region_held3 (fun w' => Ev wr w' ∧ (∀ o, w'.cell? ⟨b, o, none⟩ = wr.cell? ⟨b, o, none⟩)) (exact HSE.out _ (by repeat (first | with_reducible exact Ev.refl wr | (with_reducible assumption) | with_reducible refine Ev.drew ?_))) (first | (go_at_call 111; ((with_reducible refine (HFC.out _).mono ?_); rintro e w1 ⟨rfl, h1⟩; cases h1))))
    go_ret
    refine ⟨ret_bool ?_, by first | exact hB | exact hB.trans (Ev.drew (Ev.refl _)) | exact hB.trans (Ev.drew (Ev.drew (Ev.refl _)))⟩
    cases hf : M.falls xs with
    | false => rfl
    | true =>
     have := (M.falls_iff xs).1 hf m (by rw [HLN.out]; have := HQ1.out; omega)
     rw [← HQ1.out, HY.out, HZ.out] at this
     omega
   ·
    have hzy : ¬ (z < y) := fun h => hv (hcn.2 h)
    clear hcn
    go_wp2_with (go_region_held3 (fun w' => Ev wr w' ∧ (∀ o, w'.cell? ⟨b, o, none⟩ = wr.cell? ⟨b, o, none⟩)) (exact HSE.out _ (by repeat (first | with_reducible exact Ev.refl wr | (with_reducible assumption) | with_reducible refine Ev.drew ?_))) (first | (go_at_call 111; ((with_reducible refine (HFC.out _).mono ?_); rintro e w1 ⟨rfl, h1⟩; cases h1))))
    refine ⟨⟨m, by go_num, by omega, by omega, by first | exact hB | exact hB.trans (Ev.drew (Ev.refl _)), hid (fun j h1 h2 => ?_)⟩, by have := HM.out; simp [intOf]; omega⟩
    by_cases hj : j = m
    ·
     subst hj; rw [← HQ1.out, HY.out, HZ.out]; omega
    ·
     exact hall.out j (by have := HM.out; omega) h2
  ·
   have HF := hid (show M.falls xs = true from (M.falls_iff xs).2 (fun j hj => hall.out j (by omega) (by rw [← HLN.out]; exact hj)))
   go_wp2
   go_ret
   exact ⟨ret_bool HF.out.symm, hB⟩

end Go.Proofs.Ytffbkbcjddigdaa

set_option linter.unusedSimpArgs false
set_option linter.unusedVariables false
namespace Go.Proofs.Ytffbkbcjddigdaa
open Go.RowKit

theorem info55 : (Try.prog.info? 57).map (fun i => (i.zero, i.size, i.bytes)) = some (some (.agg #[.int .i64 0, .int .i64 0]), 2, 16) := by kernel_rfl
theorem rgc_len (ys : List M.Rg) : ∀ y ∈ ys, (rgc y).length = 2 := fun _ _ => rfl
theorem rgc_one (ys : List M.Rg) : ∀ u ∈ ys.flatMap rgc, u.oneCell' = true := by
 intro u hu
 obtain ⟨y, _, hy⟩ := List.mem_flatMap.1 hu
 simp [rgc] at hy
 rcases hy with rfl | rfl <;> rfl
/-- What the slices of a field hold. -/
structure CS (w : World) (B : Nat) (f : M.Cf) (Ag Aw Ab Ac Al : Option Addr) (ng cg nw cw nb cb nc cc nl cl : Nat) : Prop where
 g : Sl rgc 2 w B Ag ng cg f.gr
 w_ : Sl ics 1 w B Aw nw cw f.wet
 b : Sl ics 1 w B Ab nb cb f.base
 c : Sl ics 1 w B Ac nc cc f.crops
 l : Sl lkc 3 w B Al nl cl f.looks
theorem CS.ev {w w' : World} {f : M.Cf} {Ag Aw Ab Ac Al : Option Addr} {ng cg nw cw nb cb nc cc nl cl : Nat} (h : CS w w.heap.size f Ag Aw Ab Ac Al ng cg nw cw nb cb nc cc nl cl) (hE : Ev w w') : CS w' w'.heap.size f Ag Aw Ab Ac Al ng cg nw cw nb cb nc cc nl cl :=
 ⟨h.g.ev hE, h.w_.ev hE, h.b.ev hE, h.c.ev hE, h.l.ev hE⟩

theorem eq_nil (c : Nat) (wx : World) : (binOp .eql 35 (.slice none 0 c) (.slice none 0 0)).run Try.prog wx = .ok (.bool true) wx := by
 simp [binOp, Op.equal, Op.maxDepth, Lib.run_equalIn_slice_nil wx 9999 35 57 none 0 c 0 0 Try.underlying35]
theorem ne_nil (ad : Addr) (n c : Nat) (wx : World) : (binOp .eql 35 (.slice (some ad) n c) (.slice none 0 0)).run Try.prog wx = .ok (.bool false) wx := by
 simp [binOp, Op.equal, Op.maxDepth, Lib.run_equalIn_slice_nil wx 9999 35 57 (some ad) n c 0 0 Try.underlying35]

set_option maxRecDepth 100000 in
set_option maxHeartbeats 1000000 in
theorem cloneR_c (A : Option Addr) (n c : Nat) (xs : List M.Rg) (hn : n ≤ 1000) (w : World) (hs : Sl rgc 2 w w.heap.size A n c xs) :
  Calls Try.prog 108 #[.slice A n c] w fun e w' => (∃ B d, e = .returned (.slice B n d) ∧ w'.ownsRow w.heap.size 57 2 (.slice B n d) n (xs.flatMap rgc)) ∧ Ev w w' := by
 obtain ⟨i0, hi0, hz0, hz1, hz2⟩ := info_parts info55
 cases A with
 | none =>
  have hm0 : n = 0 := by
   rcases Nat.eq_zero_or_pos n with h | h
   ·
    exact h
   ·
    obtain ⟨b, off, hA, _⟩ := hs.cells h; cases hA
  subst hm0
  obtain rfl : xs = [] := List.eq_nil_of_length_eq_zero hs.len
  have hq : ∀ wx : World, (binOp .eql 35 (.slice none 0 c) (.slice none 0 0)).run Try.prog wx = .ok (.bool true) wx := fun wx => eq_nil c wx
  go_enter Try.func108, Try.ntmps108
  go_wp2
  go_ret
  exact ⟨⟨none, 0, rfl, World.ownsRow_nil _ _ _ _⟩, Ev.refl _⟩
 | some ad =>
  have HS := hid hs
  have hq : ∀ wx : World, (binOp .eql 35 (.slice (some ad) n c) (.slice none 0 0)).run Try.prog wx = .ok (.bool false) wx := fun wx => ne_nil ad n c wx
  clear hs
  go_enter Try.func108, Try.ntmps108
  go_wp2_with (at_builtin; refine append_sl (enc := rgc) rfl (.tmp 5) (.tmp 6) 35 rfl w.heap.size 57 i0 _ 2 16 Try.underlying35 hi0 hz0 hz1 hz2 rfl (by decide) _ 0 [] rfl (World.ownsRow_lit w _ 0 (Nat.le_refl _) (by decide) rfl) (some ad) n c xs _ rfl (HS.out.ev (Ev.alloc (Ev.refl _) _)) (rgc_len _) (rgc_one xs) (fun h => by cases h) (by unfold maxLen; omega) (by omega) (by simp) ?_; intro v' w3 hown' hgrow; have hown2 : w3.ownsRow w.heap.size 57 2 v' n (xs.flatMap rgc) := (by simpa using hown'); obtain ⟨B, d, rfl⟩ := own_form hown2; have HG := hid hgrow; have HO := hid hown2; clear hown' hown2 hgrow)
  go_ret
  exact ⟨⟨B, d, rfl, HO.out⟩, Ev.grown (Ev.alloc (Ev.refl _) _) HG.out (fun k e => by have e2 : some w.heap.size = some k := e; simp at e2; omega)⟩

/-- What a week's Wet leaves open. -/
def M.wr (s : Int) : M.Rg := if s = 2 then ⟨0, 1⟩ else ⟨s, s⟩
def M.ranges (f : M.Cf) : List M.Rg := f.gr ++ f.wet.map M.wr

set_option maxRecDepth 100000 in
set_option maxHeartbeats 2000000 in
theorem ranges_c (f : M.Cf) (Ag Aw Ab Ac Al : Option Addr) (ng cg nw cw nb cb nc cc nl cl : Nat) (hn : ng ≤ 100) (hw : nw ≤ 100) (w : World) (hs : CS w w.heap.size f Ag Aw Ab Ac Al ng cg nw cw nb cb nc cc nl cl) :
  Calls Try.prog 82 #[.agg #[.int .i64 f.last, .slice Ag ng cg, .slice Aw nw cw, .slice Ab nb cb, .slice Ac nc cc, .int .i64 f.ripe, .int .i64 f.late, .int .i64 f.trod, .slice Al nl cl]] w fun e w' => (∃ B d, e = .returned (.slice B (ng + nw) d) ∧ Sl rgc 2 w' w'.heap.size B (ng + nw) d (M.ranges f)) ∧ Ev w w' := by
 obtain ⟨i0, hi0, hz0, hz1, hz2⟩ := info_parts info55
 have HCL := hid (fun W (hE : Ev w W) => cloneR_c Ag ng cg f.gr (by omega) W (hs.g.ev hE))
 have hw_ := hs.w_
 have hwl := hs.w_.len
 clear hs
 go_enter Try.func82, Try.ntmps82
 go_upto_region 2 with (go_at_call 108; with_reducible refine (HCL.out _ (Ev.alloc (Ev.refl _) _)).mono ?_; rintro e w1 ⟨⟨B, d, rfl, hown0⟩, hb1⟩; have HO0 := hid hown0; clear hown0; obtain ⟨y0, y1, y2, y3, y4, y5, y6, y7, y8⟩ := cells9 (hb1.heap (alloc1 w (.cells #[.int .i64 f.last, .slice Ag ng cg, .slice Aw nw cw, .slice Ab nb cb, .slice Ac nc cc, .int .i64 f.ripe, .int .i64 f.late, .int .i64 f.trod, .slice Al nl cl] 38)).1))
 have hE1 : Ev w w1 := Ev.trans (Ev.alloc (Ev.refl _) _) hb1
 have hown1 : w1.ownsRow (w.heap.size + 1) 57 2 (.slice B ng d) ng (f.gr.flatMap rgc) := by have := HO0.out; simpa using this
 have hs1 := hb1.size
 simp at hs1
 go_upto_region 3 with fail
 go_loopw [3, 13] (fun v i wr => ∃ k : Nat, ∃ V : Option Addr, ∃ dd : Nat, v = .slice V (ng + k) dd ∧ i = .int .i64 k ∧ k ≤ nw ∧ Ev w wr ∧ wr.ownsRow (w.heap.size + 1) 57 2 (.slice V (ng + k) dd) (ng + k) ((f.gr ++ (f.wet.take k).map M.wr).flatMap rgc) ∧ w.heap.size + 1 ≤ wr.heap.size) (fun _ i _ => nw - (intOf i).toNat)
 case atStart => exact ⟨0, B, d, rfl, rfl, by omega, hE1, by simpa using hown1, by omega⟩
 case round =>
  obtain ⟨k, V, dd, rfl, rfl, hk, hB, hown, hBr⟩ := hrel
  by_cases hlt : k < nw
  ·
   obtain ⟨b, off, x, rfl, hb, hx, hd, e0⟩ := hw_.int hB hlt
   have hcap := hw_.cap
   have HTK := hid (show f.wet.take (k + 1) = f.wet.take k ++ [x] by rw [List.take_add_one, hx]; rfl)
   clear hx hd
   by_cases h2 : x = 2
   ·
    subst h2
    have HWR := hid (show (List.map M.wr [(2 : Int)]).flatMap rgc = [.int .i64 0, .int .i64 1] from rfl)
    go_upto_region 8 with fail
    generalize hW2 : World.alloc wr _ = W2
    have hE2 : Ev wr W2 := by rw [← hW2]; exact Ev.alloc (Ev.refl _) _
    have HQ2 := hid (show W2.heap[wr.heap.size]? = some (.cells #[.int .i64 0, .int .i64 1] 57 (0, 0)) by rw [← hW2]; exact (alloc1 wr _).1)
    have hs2 := hE2.size
    clear hW2
    obtain ⟨z0, z1⟩ := cells2 HQ2.out
    go_wp2_with (at_builtin; refine wpList_append_own_at _ rfl (.tmp 23) (.tmp 25) 35 rfl (w.heap.size + 1) 57 i0 _ 2 16 Try.underlying35 hi0 hz0 hz1 hz2 rfl (by decide) _ (ng + k) ((f.gr ++ (f.wet.take k).map M.wr).flatMap rgc) rfl ((hown.ev hE2).alloc _) ⟨W2.heap.size, 0, none⟩ 1 1 [.int .i64 0, .int .i64 1] rfl rfl (news_in (alloc1 W2 _).1) (by simp [Value.oneCell']) (by unfold maxLen; omega) (by omega) (by simp; omega) ?_; intro v' w3 hown' hgrow _ _; have hown3 : w3.ownsRow (w.heap.size + 1) 57 2 v' (ng + (k + 1)) ((f.gr ++ (f.wet.take (k + 1)).map M.wr).flatMap rgc) := (by rw [HTK.out, List.map_append, ← List.append_assoc, List.flatMap_append, HWR.out]; exact hown'); obtain ⟨V', cc', rfl⟩ := own_form hown3; have HE3 := hid (Ev.grown ((hB.trans hE2).alloc (.cells #[.int .i64 0, .int .i64 1] 57)) hgrow (fun q e => by have := (hown.lt q e).1; omega) : Ev w w3); have HO3 := hid hown3; have hG3 : w.heap.size + 1 ≤ w3.heap.size := (by have := hgrow.size; simp at this; omega); clear hown' hown3 hgrow)
    exact ⟨⟨k + 1, V', cc', rfl, by go_num, by omega, HE3.out, HO3.out, by have := HE3.out.size; have := hG3; omega⟩, by simp [intOf]; omega⟩
   ·
    have HWR := hid (show (List.map M.wr [x]).flatMap rgc = [.int .i64 x, .int .i64 x] by simp [M.wr, h2, rgc])
    have b2 : (x == 2) = false := by simpa using h2
    go_upto_region 8 with fail
    generalize hW2 : World.alloc wr _ = W2
    have hE2 : Ev wr W2 := by rw [← hW2]; exact Ev.alloc (Ev.refl _) _
    have HQ2 := hid (show W2.heap[wr.heap.size]? = some (.cells #[.int .i64 x, .int .i64 x] 57 (0, 0)) by rw [← hW2]; exact (alloc1 wr _).1)
    have hs2 := hE2.size
    clear hW2
    obtain ⟨z0, z1⟩ := cells2 HQ2.out
    go_wp2_with (at_builtin; refine wpList_append_own_at _ rfl (.tmp 23) (.tmp 25) 35 rfl (w.heap.size + 1) 57 i0 _ 2 16 Try.underlying35 hi0 hz0 hz1 hz2 rfl (by decide) _ (ng + k) ((f.gr ++ (f.wet.take k).map M.wr).flatMap rgc) rfl ((hown.ev hE2).alloc _) ⟨W2.heap.size, 0, none⟩ 1 1 [.int .i64 x, .int .i64 x] rfl rfl (news_in (alloc1 W2 _).1) (by simp [Value.oneCell']) (by unfold maxLen; omega) (by omega) (by simp; omega) ?_; intro v' w3 hown' hgrow _ _; have hown3 : w3.ownsRow (w.heap.size + 1) 57 2 v' (ng + (k + 1)) ((f.gr ++ (f.wet.take (k + 1)).map M.wr).flatMap rgc) := (by rw [HTK.out, List.map_append, ← List.append_assoc, List.flatMap_append, HWR.out]; exact hown'); obtain ⟨V', cc', rfl⟩ := own_form hown3; have HE3 := hid (Ev.grown ((hB.trans hE2).alloc (.cells #[.int .i64 x, .int .i64 x] 57)) hgrow (fun q e => by have := (hown.lt q e).1; omega) : Ev w w3); have HO3 := hid hown3; have hG3 : w.heap.size + 1 ≤ w3.heap.size := (by have := hgrow.size; simp at this; omega); clear hown' hown3 hgrow)
    exact ⟨⟨k + 1, V', cc', rfl, by go_num, by omega, HE3.out, HO3.out, by have := HE3.out.size; have := hG3; omega⟩, by simp [intOf]; omega⟩
  ·
   obtain rfl : k = nw := by omega
   have ht : f.wet.take k = f.wet := List.take_of_length_le (by omega)
   rw [ht] at hown
   have HOW := hid hown
   clear hown ht
   go_wp2
   go_ret
   exact ⟨⟨V, dd, rfl, sl_own (by decide) (rgc_len _) (by omega) HOW.out⟩, hB⟩

end Go.Proofs.Ytffbkbcjddigdaa

set_option linter.unusedSimpArgs false
set_option linter.unusedVariables false
namespace Go.Proofs.Ytffbkbcjddigdaa
open Go.RowKit

/-- The product of sizes passes the limit. -/
def M.tooMany : List M.Rg → Int → Bool
 | [], _ => false
 | r :: rs, m => if 2000 < m * (r.hi - r.lo + 1) then true else M.tooMany rs (m * (r.hi - r.lo + 1))

set_option maxRecDepth 100000 in
set_option maxHeartbeats 1000000 in
theorem hasTooMany_c (f : M.Cf) (Ag Aw Ab Ac Al : Option Addr) (ng cg nw cw nb cb nc cc nl cl : Nat) (hn : ng ≤ 100) (hw : nw ≤ 100) (hr : ∀ r ∈ M.ranges f, 0 ≤ r.lo ∧ r.lo ≤ r.hi ∧ r.hi ≤ 50) (w : World) (hs : CS w w.heap.size f Ag Aw Ab Ac Al ng cg nw cw nb cb nc cc nl cl) :
  Calls Try.prog 61 #[.agg #[.int .i64 f.last, .slice Ag ng cg, .slice Aw nw cw, .slice Ab nb cb, .slice Ac nc cc, .int .i64 f.ripe, .int .i64 f.late, .int .i64 f.trod, .slice Al nl cl]] w fun e w' => e = .returned (.bool (M.tooMany (M.ranges f) 1)) ∧ Ev w w' := by
 have HRG := hid (fun W (hE : Ev w W) => ranges_c f Ag Aw Ab Ac Al ng cg nw cw nb cb nc cc nl cl hn hw W (hs.ev hE))
 have HR := hid hr
 clear hs hr
 generalize hxs : M.ranges f = xs at HRG HR
 clear hxs
 go_enter Try.func61, Try.ntmps61
 go_upto_region 3 with (go_at_call 82; with_reducible refine (HRG.out _ (Ev.alloc (Ev.refl _) _)).mono ?_; rintro e w1 ⟨⟨B, d, rfl, hsl⟩, hb1⟩; have HS := hid hsl; clear hsl)
 have hE1 : Ev w w1 := Ev.trans (Ev.alloc (Ev.refl _) _) hb1
 generalize hN : ng + nw = N at *
 have hN2 : N ≤ 200 := by omega
 have hN3 : ((ng : Int) + nw) = N := by omega
 go_loopw [3, 9] (fun v i wr => ∃ k : Nat, ∃ m : Int, v = .int .i64 m ∧ i = .int .i64 k ∧ k ≤ N ∧ 1 ≤ m ∧ m ≤ 2000 ∧ Ev w1 wr ∧ Hid (M.tooMany (xs.drop k) m = M.tooMany xs 1)) (fun _ i _ => N - (intOf i).toNat)
 case atStart => exact ⟨0, 1, rfl, rfl, by omega, by omega, by omega, Ev.refl _, hid rfl⟩
 case round =>
  obtain ⟨k, m, rfl, rfl, hk, hm0, hm1, hB, hT⟩ := hrel
  by_cases hlt : k < N
  ·
   obtain ⟨b, off, x, rfl, hb, hx, hd, hcc⟩ := HS.out.at_ hB hlt
   have e0 := hcc 0 _ rfl
   have e1 := hcc 1 _ rfl
   simp only [Nat.add_zero] at e0
   have hcap := HS.out.cap
   obtain ⟨x1, x2, x3⟩ := HR.out x (List.mem_of_getElem? hx)
   have hT2 := hT.out
   rw [hd, M.tooMany] at hT2
   have HT2 := hid hT2
   obtain ⟨s, hsz⟩ : ∃ s : Int, x.hi - x.lo = s := ⟨_, rfl⟩
   obtain ⟨s1, hs1⟩ : ∃ s1 : Int, s + 1 = s1 := ⟨_, rfl⟩
   have hs51 : 1 ≤ s1 ∧ s1 ≤ 51 := by omega
   obtain ⟨p, hp⟩ : ∃ p : Int, m * s1 = p := ⟨_, rfl⟩
   have hp0 : 1 ≤ p := by rw [← hp]; exact (by have := Int.mul_le_mul hm0 hs51.1 (by omega) (by omega); omega)
   have hp1 : p ≤ 2000 * 51 := by rw [← hp]; exact Int.mul_le_mul hm1 hs51.2 (by omega) (by omega)
   have g1 : IntKind.i64.wrap s = s := IntWalk.i64_in _ (by omega)
   have g2 : IntKind.i64.wrap s1 = s1 := IntWalk.i64_in _ (by omega)
   have g3 : IntKind.i64.wrap p = p := IntWalk.i64_in _ (by omega)
   have HP := hid (show m * (x.hi - x.lo + 1) = p by rw [hsz, hs1, hp])
   have HEW := hid hB
   clear hx hd hcc hT hT2 x1 x2 x3 hB
   by_cases h2 : 2000 < p
   ·
    go_wp2
    go_ret
    refine ⟨ret_bool ?_, ?_⟩
    ·
     rw [← HT2.out, HP.out, if_pos h2]
    ·
     exact hE1.trans (Ev.alloc HEW.out _)
   ·
    have h3 : p ≤ 2000 := by omega
    go_wp2
    refine ⟨⟨k + 1, p, rfl, by go_num, by omega, hp0, h3, Ev.alloc HEW.out _, hid ?_⟩, by simp [intOf]; omega⟩
    rw [← HT2.out, HP.out, if_neg h2]
  ·
   have hd : xs.drop k = [] := HS.out.done hlt
   have HF := hid (show M.tooMany xs 1 = false by rw [← hT.out, hd]; rfl)
   go_wp2
   go_ret
   exact ⟨ret_bool HF.out.symm, hE1.trans hB⟩

def M.validBase (f : M.Cf) : Bool := decide (1 ≤ f.base.length) && (f.base.all (M.holds ⟨0, 200⟩) && M.falls f.base)
def M.validWeeks (f : M.Cf) : Bool := decide (0 ≤ f.last) && (decide ((f.gr.length : Int) = f.last + 1) && (f.gr.all M.isGrowth && (decide ((f.wet.length : Int) = f.last + 1) && f.wet.all (M.holds ⟨0, 2⟩))))
def M.valid (f : M.Cf) : Bool := M.validWeeks f && (M.validBase f && (M.validCare f && (M.isPlan f f.crops && f.looks.all (M.validLook f))))
def M.check (f : M.Cf) : Int := if 9 < f.last ∨ 3 < f.base.length ∨ 5 < f.looks.length then 3 else if M.valid f = false then 1 else if M.tooMany (M.ranges f) 1 then 3 else 0

set_option maxRecDepth 100000 in
set_option maxHeartbeats 1000000 in
theorem validBase_c (f : M.Cf) (Ag Aw Ab Ac Al : Option Addr) (ng cg nw cw nb cb nc cc nl cl : Nat) (w : World) (hs : CS w w.heap.size f Ag Aw Ab Ac Al ng cg nw cw nb cb nc cc nl cl) :
  Calls Try.prog 92 #[.agg #[.int .i64 f.last, .slice Ag ng cg, .slice Aw nw cw, .slice Ab nb cb, .slice Ac nc cc, .int .i64 f.ripe, .int .i64 f.late, .int .i64 f.trod, .slice Al nl cl]] w fun e w' => e = .returned (.bool (M.validBase f)) ∧ Ev w w' := by
 have hln := hs.b.len
 have hsm := hs.b.small
 have h1 : ∀ W, Ev w W → Calls Try.prog 85 #[.slice Ab nb cb, .func (.func 83) #[.agg #[.int .i64 0, .int .i64 200]] #[]] W fun e w' => e = .returned (.bool (f.base.all (M.holds ⟨0, 200⟩))) ∧ Ev W w' := fun W hE => allHolds_c ⟨0, 200⟩ Ab nb cb f.base W (hs.b.ev hE)
 have h2 := fun W (hE : Ev w W) => sorted_c Ab nb cb f.base W (hs.b.ev hE)
 have HD := hid (show M.validBase f = (decide (1 ≤ nb) && (f.base.all (M.holds ⟨0, 200⟩) && M.falls f.base)) by unfold M.validBase; rw [hln])
 generalize f.base.all (M.holds ⟨0, 200⟩) = a at h1 HD
 generalize M.falls f.base = b at h2 HD
 have H1 := hid h1
 have H2 := hid h2
 clear h1 h2 hs hln
 by_cases h : 1 ≤ nb
 ·
  have g1 : (1 : Int) ≤ nb := by omega
  have g2 : (nb : Int) ≥ 1 := by omega
  rw [decide_eq_true h] at HD
  clear h
  cases a
  all_goals (
   go_enter Try.func92, Try.ntmps92
   go_wp2_with (first | (go_at_call 85; with_reducible refine (H1.out _ (Ev.alloc (Ev.refl _) _)).mono ?_; rintro e w1 ⟨rfl, hb1⟩; have hG : Ev w w1 := Ev.trans (Ev.alloc (Ev.refl _) _) hb1; obtain ⟨y0, y1, y2, y3, y4, y5, y6, y7, y8⟩ := cells9 (hb1.heap (alloc1 w (.cells #[.int .i64 f.last, .slice Ag ng cg, .slice Aw nw cw, .slice Ab nb cb, .slice Ac nc cc, .int .i64 f.ripe, .int .i64 f.late, .int .i64 f.trod, .slice Al nl cl] 38)).1)) | (go_at_call 113; with_reducible refine (H2.out _ hG).mono ?_; rintro e w2 ⟨rfl, hb2⟩; replace hG := hG.trans hb2))
   go_ret
   exact ⟨ret_bool HD.out.symm, hG⟩)
 ·
  have g1 : ¬ ((1 : Int) ≤ nb) := by omega
  have g2 : ¬ ((nb : Int) ≥ 1) := by omega
  have g3 : (nb : Int) < 1 := by omega
  rw [decide_eq_false h] at HD
  clear h
  go_enter Try.func92, Try.ntmps92
  go_wp2
  go_ret
  exact ⟨ret_bool HD.out.symm, Ev.alloc (Ev.refl _) _⟩

set_option maxRecDepth 100000 in
set_option maxHeartbeats 2000000 in
theorem validWeeks_c (f : M.Cf) (Ag Aw Ab Ac Al : Option Addr) (ng cg nw cw nb cb nc cc nl cl : Nat) (hl0 : -9223372036854775808 ≤ f.last) (hl1 : f.last ≤ 9) (w : World) (hs : CS w w.heap.size f Ag Aw Ab Ac Al ng cg nw cw nb cb nc cc nl cl) :
  Calls Try.prog 91 #[.agg #[.int .i64 f.last, .slice Ag ng cg, .slice Aw nw cw, .slice Ab nb cb, .slice Ac nc cc, .int .i64 f.ripe, .int .i64 f.late, .int .i64 f.trod, .slice Al nl cl]] w fun e w' => e = .returned (.bool (M.validWeeks f)) ∧ Ev w w' := by
 have hlg := hs.g.len
 have hlw := hs.w_.len
 have hsg := hs.g.small
 have hsw := hs.w_.small
 have h1 := fun W (hE : Ev w W) => allGrowth_c Ag ng cg f.gr W (hs.g.ev hE)
 have h2 : ∀ W, Ev w W → Calls Try.prog 85 #[.slice Aw nw cw, .func (.func 83) #[.agg #[.int .i64 0, .int .i64 2]] #[]] W fun e w' => e = .returned (.bool (f.wet.all (M.holds ⟨0, 2⟩))) ∧ Ev W w' := fun W hE => allHolds_c ⟨0, 2⟩ Aw nw cw f.wet W (hs.w_.ev hE)
 have HD := hid (show M.validWeeks f = (decide (0 ≤ f.last) && (decide ((ng : Int) = f.last + 1) && (f.gr.all M.isGrowth && (decide ((nw : Int) = f.last + 1) && f.wet.all (M.holds ⟨0, 2⟩))))) by unfold M.validWeeks; rw [hlg, hlw])
 generalize f.gr.all M.isGrowth = a at h1 HD
 generalize f.wet.all (M.holds ⟨0, 2⟩) = b at h2 HD
 have H1 := hid h1
 have H2 := hid h2
 have s1 : IntKind.i64.wrap (f.last + 1) = f.last + 1 := IntWalk.i64_in _ (by omega)
 clear h1 h2 hs hlg hlw
 by_cases q1 : 0 ≤ f.last
 ·
  have q1' : f.last ≥ 0 := q1
  rw [decide_eq_true q1] at HD
  by_cases q2 : (ng : Int) = f.last + 1
  ·
   have q2b : ((ng : Int) == f.last + 1) = true := by simpa using q2
   rw [decide_eq_true q2] at HD
   clear q2
   cases a
   ·
    go_enter Try.func91, Try.ntmps91
    go_wp2_with (first | (go_at_call 109; with_reducible refine (H1.out _ (Ev.alloc (Ev.refl _) _)).mono ?_; rintro e w1 ⟨rfl, hb1⟩; have hG : Ev w w1 := Ev.trans (Ev.alloc (Ev.refl _) _) hb1))
    go_ret
    exact ⟨ret_bool HD.out.symm, hG⟩
   ·
    by_cases q3 : (nw : Int) = f.last + 1
    ·
     have q3b : ((nw : Int) == f.last + 1) = true := by simpa using q3
     rw [decide_eq_true q3] at HD
     clear q3
     go_enter Try.func91, Try.ntmps91
     go_wp2_with (first | (go_at_call 109; with_reducible refine (H1.out _ (Ev.alloc (Ev.refl _) _)).mono ?_; rintro e w1 ⟨rfl, hb1⟩; have hG : Ev w w1 := Ev.trans (Ev.alloc (Ev.refl _) _) hb1; obtain ⟨y0, y1, y2, y3, y4, y5, y6, y7, y8⟩ := cells9 (hb1.heap (alloc1 w (.cells #[.int .i64 f.last, .slice Ag ng cg, .slice Aw nw cw, .slice Ab nb cb, .slice Ac nc cc, .int .i64 f.ripe, .int .i64 f.late, .int .i64 f.trod, .slice Al nl cl] 38)).1)) | (go_at_call 85; with_reducible refine (H2.out _ hG).mono ?_; rintro e w2 ⟨rfl, hb2⟩; replace hG := hG.trans hb2))
     go_ret
     exact ⟨ret_bool HD.out.symm, hG⟩
    ·
     have q3b : ((nw : Int) == f.last + 1) = false := by simpa using q3
     rw [decide_eq_false q3] at HD
     clear q3
     go_enter Try.func91, Try.ntmps91
     go_wp2_with (first | (go_at_call 109; with_reducible refine (H1.out _ (Ev.alloc (Ev.refl _) _)).mono ?_; rintro e w1 ⟨rfl, hb1⟩; have hG : Ev w w1 := Ev.trans (Ev.alloc (Ev.refl _) _) hb1; obtain ⟨y0, y1, y2, y3, y4, y5, y6, y7, y8⟩ := cells9 (hb1.heap (alloc1 w (.cells #[.int .i64 f.last, .slice Ag ng cg, .slice Aw nw cw, .slice Ab nb cb, .slice Ac nc cc, .int .i64 f.ripe, .int .i64 f.late, .int .i64 f.trod, .slice Al nl cl] 38)).1)))
     go_ret
     exact ⟨ret_bool HD.out.symm, hG⟩
  ·
   have q2b : ((ng : Int) == f.last + 1) = false := by simpa using q2
   rw [decide_eq_false q2] at HD
   clear q2
   go_enter Try.func91, Try.ntmps91
   go_wp2
   go_ret
   exact ⟨ret_bool HD.out.symm, Ev.alloc (Ev.refl _) _⟩
 ·
  have q1' : ¬ (f.last ≥ 0) := q1
  have q1'' : f.last < 0 := by omega
  rw [decide_eq_false q1] at HD
  go_enter Try.func91, Try.ntmps91
  go_wp2
  go_ret
  exact ⟨ret_bool HD.out.symm, Ev.alloc (Ev.refl _) _⟩

end Go.Proofs.Ytffbkbcjddigdaa

set_option linter.unusedSimpArgs false
set_option linter.unusedVariables false
namespace Go.Proofs.Ytffbkbcjddigdaa
open Go.RowKit

set_option maxRecDepth 100000 in
set_option maxHeartbeats 4000000 in
theorem valid_c (f : M.Cf) (Ag Aw Ab Ac Al : Option Addr) (ng cg nw cw nb cb nc cc nl cl : Nat) (hl0 : -9223372036854775808 ≤ f.last) (hl1 : f.last ≤ 9) (w : World) (hs : CS w w.heap.size f Ag Aw Ab Ac Al ng cg nw cw nb cb nc cc nl cl) :
  Calls Try.prog 60 #[.agg #[.int .i64 f.last, .slice Ag ng cg, .slice Aw nw cw, .slice Ab nb cb, .slice Ac nc cc, .int .i64 f.ripe, .int .i64 f.late, .int .i64 f.trod, .slice Al nl cl]] w fun e w' => e = .returned (.bool (M.valid f)) ∧ Ev w w' := by
 have h1 := fun W (hE : Ev w W) => validWeeks_c f Ag Aw Ab Ac Al ng cg nw cw nb cb nc cc nl cl hl0 hl1 W (hs.ev hE)
 have h2 := fun W (hE : Ev w W) => validBase_c f Ag Aw Ab Ac Al ng cg nw cw nb cb nc cc nl cl W (hs.ev hE)
 have h3 := fun W (hE : Ev w W) => validCare_c f Ag Aw Ab Ac Al ng cg nw cw nb cb nc cc nl cl W
 have h4 := fun W (hE : Ev w W) => isPlan_c f Ag Aw Ab Ac Al ng cg nw cw nb cb nc cc nl cl hs.b.len hs.b.small Ac nc cc f.crops W (hs.c.ev hE)
 have h5 := fun W (hE : Ev w W) => allLook_c f Ag Aw Ab Ac Al ng cg nw cw nb cb nc cc nl cl Al nl cl f.looks W (hs.l.ev hE)
 have HD := hid (show M.valid f = (M.validWeeks f && (M.validBase f && (M.validCare f && (M.isPlan f f.crops && f.looks.all (M.validLook f))))) from rfl)
 generalize M.validWeeks f = a at h1 HD
 generalize M.validBase f = b at h2 HD
 generalize M.validCare f = c at h3 HD
 generalize M.isPlan f f.crops = d at h4 HD
 generalize f.looks.all (M.validLook f) = e at h5 HD
 have H1 := hid h1
 have H2 := hid h2
 have H3 := hid h3
 have H4 := hid h4
 have H5 := hid h5
 clear h1 h2 h3 h4 h5 hs hl0 hl1
 cases a
 ·
  go_enter Try.func60, Try.ntmps60
  go_wp2_with (first | (go_at_call 91; with_reducible refine (H1.out _ (Ev.alloc (Ev.refl _) _)).mono ?_; rintro e w1 ⟨rfl, hb1⟩; have hG : Ev w w1 := Ev.trans (Ev.alloc (Ev.refl _) _) hb1; have HB := hid (hb1.heap (alloc1 w (.cells #[.int .i64 f.last, .slice Ag ng cg, .slice Aw nw cw, .slice Ab nb cb, .slice Ac nc cc, .int .i64 f.ripe, .int .i64 f.late, .int .i64 f.trod, .slice Al nl cl] 38)).1); obtain ⟨y0, y1, y2, y3, y4, y5, y6, y7, y8⟩ := cells9 HB.out) | (go_at_call 92; with_reducible refine (H2.out _ hG).mono ?_; rintro e w2 ⟨rfl, hb2⟩; replace hG := hG.trans hb2; replace HB := hid (hb2.heap HB.out); clear y0 y1 y2 y3 y4 y5 y6 y7 y8; obtain ⟨y0, y1, y2, y3, y4, y5, y6, y7, y8⟩ := cells9 HB.out) | (go_at_call 93; with_reducible refine (H3.out _ hG).mono ?_; rintro e w3 ⟨rfl, hb3⟩; replace hG := hG.trans hb3; replace HB := hid (hb3.heap HB.out); clear y0 y1 y2 y3 y4 y5 y6 y7 y8; obtain ⟨y0, y1, y2, y3, y4, y5, y6, y7, y8⟩ := cells9 HB.out) | (go_at_call 54; with_reducible refine (H4.out _ hG).mono ?_; rintro e w4 ⟨rfl, hb4⟩; replace hG := hG.trans hb4; replace HB := hid (hb4.heap HB.out); clear y0 y1 y2 y3 y4 y5 y6 y7 y8; obtain ⟨y0, y1, y2, y3, y4, y5, y6, y7, y8⟩ := cells9 HB.out) | (go_at_call 89; with_reducible refine (H5.out _ hG).mono ?_; rintro e w5 ⟨rfl, hb5⟩; replace hG := hG.trans hb5; replace HB := hid (hb5.heap HB.out); clear y0 y1 y2 y3 y4 y5 y6 y7 y8; obtain ⟨y0, y1, y2, y3, y4, y5, y6, y7, y8⟩ := cells9 HB.out))
  go_ret
  exact ⟨ret_bool HD.out.symm, hG⟩
 ·
  cases b
  ·
   go_enter Try.func60, Try.ntmps60
   go_wp2_with (first | (go_at_call 91; with_reducible refine (H1.out _ (Ev.alloc (Ev.refl _) _)).mono ?_; rintro e w1 ⟨rfl, hb1⟩; have hG : Ev w w1 := Ev.trans (Ev.alloc (Ev.refl _) _) hb1; have HB := hid (hb1.heap (alloc1 w (.cells #[.int .i64 f.last, .slice Ag ng cg, .slice Aw nw cw, .slice Ab nb cb, .slice Ac nc cc, .int .i64 f.ripe, .int .i64 f.late, .int .i64 f.trod, .slice Al nl cl] 38)).1); obtain ⟨y0, y1, y2, y3, y4, y5, y6, y7, y8⟩ := cells9 HB.out) | (go_at_call 92; with_reducible refine (H2.out _ hG).mono ?_; rintro e w2 ⟨rfl, hb2⟩; replace hG := hG.trans hb2; replace HB := hid (hb2.heap HB.out); clear y0 y1 y2 y3 y4 y5 y6 y7 y8; obtain ⟨y0, y1, y2, y3, y4, y5, y6, y7, y8⟩ := cells9 HB.out) | (go_at_call 93; with_reducible refine (H3.out _ hG).mono ?_; rintro e w3 ⟨rfl, hb3⟩; replace hG := hG.trans hb3; replace HB := hid (hb3.heap HB.out); clear y0 y1 y2 y3 y4 y5 y6 y7 y8; obtain ⟨y0, y1, y2, y3, y4, y5, y6, y7, y8⟩ := cells9 HB.out) | (go_at_call 54; with_reducible refine (H4.out _ hG).mono ?_; rintro e w4 ⟨rfl, hb4⟩; replace hG := hG.trans hb4; replace HB := hid (hb4.heap HB.out); clear y0 y1 y2 y3 y4 y5 y6 y7 y8; obtain ⟨y0, y1, y2, y3, y4, y5, y6, y7, y8⟩ := cells9 HB.out) | (go_at_call 89; with_reducible refine (H5.out _ hG).mono ?_; rintro e w5 ⟨rfl, hb5⟩; replace hG := hG.trans hb5; replace HB := hid (hb5.heap HB.out); clear y0 y1 y2 y3 y4 y5 y6 y7 y8; obtain ⟨y0, y1, y2, y3, y4, y5, y6, y7, y8⟩ := cells9 HB.out))
   go_ret
   exact ⟨ret_bool HD.out.symm, hG⟩
  ·
   cases c
   ·
    go_enter Try.func60, Try.ntmps60
    go_wp2_with (first | (go_at_call 91; with_reducible refine (H1.out _ (Ev.alloc (Ev.refl _) _)).mono ?_; rintro e w1 ⟨rfl, hb1⟩; have hG : Ev w w1 := Ev.trans (Ev.alloc (Ev.refl _) _) hb1; have HB := hid (hb1.heap (alloc1 w (.cells #[.int .i64 f.last, .slice Ag ng cg, .slice Aw nw cw, .slice Ab nb cb, .slice Ac nc cc, .int .i64 f.ripe, .int .i64 f.late, .int .i64 f.trod, .slice Al nl cl] 38)).1); obtain ⟨y0, y1, y2, y3, y4, y5, y6, y7, y8⟩ := cells9 HB.out) | (go_at_call 92; with_reducible refine (H2.out _ hG).mono ?_; rintro e w2 ⟨rfl, hb2⟩; replace hG := hG.trans hb2; replace HB := hid (hb2.heap HB.out); clear y0 y1 y2 y3 y4 y5 y6 y7 y8; obtain ⟨y0, y1, y2, y3, y4, y5, y6, y7, y8⟩ := cells9 HB.out) | (go_at_call 93; with_reducible refine (H3.out _ hG).mono ?_; rintro e w3 ⟨rfl, hb3⟩; replace hG := hG.trans hb3; replace HB := hid (hb3.heap HB.out); clear y0 y1 y2 y3 y4 y5 y6 y7 y8; obtain ⟨y0, y1, y2, y3, y4, y5, y6, y7, y8⟩ := cells9 HB.out) | (go_at_call 54; with_reducible refine (H4.out _ hG).mono ?_; rintro e w4 ⟨rfl, hb4⟩; replace hG := hG.trans hb4; replace HB := hid (hb4.heap HB.out); clear y0 y1 y2 y3 y4 y5 y6 y7 y8; obtain ⟨y0, y1, y2, y3, y4, y5, y6, y7, y8⟩ := cells9 HB.out) | (go_at_call 89; with_reducible refine (H5.out _ hG).mono ?_; rintro e w5 ⟨rfl, hb5⟩; replace hG := hG.trans hb5; replace HB := hid (hb5.heap HB.out); clear y0 y1 y2 y3 y4 y5 y6 y7 y8; obtain ⟨y0, y1, y2, y3, y4, y5, y6, y7, y8⟩ := cells9 HB.out))
    go_ret
    exact ⟨ret_bool HD.out.symm, hG⟩
   ·
    cases d
    all_goals (
     go_enter Try.func60, Try.ntmps60
     go_wp2_with (first | (go_at_call 91; with_reducible refine (H1.out _ (Ev.alloc (Ev.refl _) _)).mono ?_; rintro e w1 ⟨rfl, hb1⟩; have hG : Ev w w1 := Ev.trans (Ev.alloc (Ev.refl _) _) hb1; have HB := hid (hb1.heap (alloc1 w (.cells #[.int .i64 f.last, .slice Ag ng cg, .slice Aw nw cw, .slice Ab nb cb, .slice Ac nc cc, .int .i64 f.ripe, .int .i64 f.late, .int .i64 f.trod, .slice Al nl cl] 38)).1); obtain ⟨y0, y1, y2, y3, y4, y5, y6, y7, y8⟩ := cells9 HB.out) | (go_at_call 92; with_reducible refine (H2.out _ hG).mono ?_; rintro e w2 ⟨rfl, hb2⟩; replace hG := hG.trans hb2; replace HB := hid (hb2.heap HB.out); clear y0 y1 y2 y3 y4 y5 y6 y7 y8; obtain ⟨y0, y1, y2, y3, y4, y5, y6, y7, y8⟩ := cells9 HB.out) | (go_at_call 93; with_reducible refine (H3.out _ hG).mono ?_; rintro e w3 ⟨rfl, hb3⟩; replace hG := hG.trans hb3; replace HB := hid (hb3.heap HB.out); clear y0 y1 y2 y3 y4 y5 y6 y7 y8; obtain ⟨y0, y1, y2, y3, y4, y5, y6, y7, y8⟩ := cells9 HB.out) | (go_at_call 54; with_reducible refine (H4.out _ hG).mono ?_; rintro e w4 ⟨rfl, hb4⟩; replace hG := hG.trans hb4; replace HB := hid (hb4.heap HB.out); clear y0 y1 y2 y3 y4 y5 y6 y7 y8; obtain ⟨y0, y1, y2, y3, y4, y5, y6, y7, y8⟩ := cells9 HB.out) | (go_at_call 89; with_reducible refine (H5.out _ hG).mono ?_; rintro e w5 ⟨rfl, hb5⟩; replace hG := hG.trans hb5; replace HB := hid (hb5.heap HB.out); clear y0 y1 y2 y3 y4 y5 y6 y7 y8; obtain ⟨y0, y1, y2, y3, y4, y5, y6, y7, y8⟩ := cells9 HB.out))
     go_ret
     exact ⟨ret_bool HD.out.symm, hG⟩)

theorem M.valid_parts {f : M.Cf} (h : M.valid f = true) : 0 ≤ f.last ∧ (f.gr.length : Int) = f.last + 1 ∧ (∀ r ∈ f.gr, M.isGrowth r = true) ∧ (f.wet.length : Int) = f.last + 1 ∧ (∀ s ∈ f.wet, 0 ≤ s ∧ s ≤ 2) ∧ 1 ≤ f.base.length ∧ (∀ s ∈ f.base, 0 ≤ s ∧ s ≤ 200) ∧ M.falls f.base = true ∧ (1 ≤ f.ripe ∧ f.ripe ≤ 10) ∧ (0 ≤ f.late ∧ f.late ≤ 50) ∧ (0 ≤ f.trod ∧ f.trod ≤ 100) ∧ M.isPlan f f.crops = true ∧ ∀ l ∈ f.looks, M.validLook f l = true := by
 unfold M.valid M.validWeeks M.validBase M.validCare M.holds at h
 simp only [Bool.and_eq_true, decide_eq_true_eq, List.all_eq_true] at h
 obtain ⟨⟨a1, a2, a3, a4, a5⟩, ⟨b1, b2, b3⟩, ⟨c1, c2, c3⟩, d1, e1⟩ := h
 exact ⟨a1, a2, a3, a4, a5, b1, b2, b3, c1, c2, c3, d1, e1⟩
theorem M.ranges_bd {f : M.Cf} (h : M.valid f = true) : ∀ r ∈ M.ranges f, 0 ≤ r.lo ∧ r.lo ≤ r.hi ∧ r.hi ≤ 50 := by
 obtain ⟨_, _, a3, _, a5, _⟩ := M.valid_parts h
 intro r hr
 rcases List.mem_append.1 hr with hr | hr
 ·
  have := a3 r hr
  unfold M.isGrowth M.upTo at this
  simp only [Bool.and_eq_true, decide_eq_true_eq] at this
  omega
 ·
  obtain ⟨s, hs, rfl⟩ := List.mem_map.1 hr
  have := a5 s hs
  unfold M.wr
  split
  ·
   simp
  ·
   simp; omega

set_option maxRecDepth 100000 in
set_option maxHeartbeats 4000000 in
theorem check_c (f : M.Cf) (Ag Aw Ab Ac Al : Option Addr) (ng cg nw cw nb cb nc cc nl cl : Nat) (hl0 : -9223372036854775808 ≤ f.last) (w : World) (hs : CS w w.heap.size f Ag Aw Ab Ac Al ng cg nw cw nb cb nc cc nl cl) :
  Calls Try.prog 21 #[.agg #[.int .i64 f.last, .slice Ag ng cg, .slice Aw nw cw, .slice Ab nb cb, .slice Ac nc cc, .int .i64 f.ripe, .int .i64 f.late, .int .i64 f.trod, .slice Al nl cl]] w fun e w' => e = .returned (.int .i64 (M.check f)) ∧ Ev w w' := by
 have hlb := hs.b.len
 have hll := hs.l.len
 have hbs := hs.b.small
 have hls := hs.l.small
 by_cases q1 : 9 < f.last
 ·
  have HD := hid (show M.check f = 3 by unfold M.check; rw [if_pos (.inl q1)])
  have q1' : f.last > 9 := q1
  clear hs
  go_enter Try.func21, Try.ntmps21
  go_wp2
  go_ret
  exact ⟨by rw [HD.out]; rfl, Ev.alloc (Ev.refl _) _⟩
 ·
  by_cases q2 : 3 < nb
  ·
   have HD := hid (show M.check f = 3 by unfold M.check; rw [if_pos (.inr (.inl (by omega)))])
   have q1' : ¬ (f.last > 9) := q1
   have q1'' : f.last ≤ 9 := by omega
   have q2' : (3 : Int) < nb := by omega
   have q2'' : (nb : Int) > 3 := by omega
   clear hs hlb hll
   go_enter Try.func21, Try.ntmps21
   go_wp2
   go_ret
   exact ⟨by rw [HD.out]; rfl, Ev.alloc (Ev.refl _) _⟩
  ·
   by_cases q3 : 5 < nl
   ·
    have HD := hid (show M.check f = 3 by unfold M.check; rw [if_pos (.inr (.inr (by omega)))])
    have q1' : ¬ (f.last > 9) := q1
    have q1'' : f.last ≤ 9 := by omega
    have q2' : ¬ ((3 : Int) < nb) := by omega
    have q2'' : ¬ ((nb : Int) > 3) := by omega
    have q3' : (5 : Int) < nl := by omega
    have q3'' : (nl : Int) > 5 := by omega
    clear hs hlb hll
    go_enter Try.func21, Try.ntmps21
    go_wp2
    go_ret
    exact ⟨by rw [HD.out]; rfl, Ev.alloc (Ev.refl _) _⟩
   ·
    have HD := hid (show M.check f = if M.valid f = false then 1 else if M.tooMany (M.ranges f) 1 then 3 else 0 by unfold M.check; rw [if_neg (by omega)])
    have h1 := fun W (hE : Ev w W) => valid_c f Ag Aw Ab Ac Al ng cg nw cw nb cb nc cc nl cl hl0 (by omega) W (hs.ev hE)
    have h2 := fun (hv : M.valid f = true) W (hE : Ev w W) => hasTooMany_c f Ag Aw Ab Ac Al ng cg nw cw nb cb nc cc nl cl (by have := M.valid_parts hv; have := hs.g.len; omega) (by have := M.valid_parts hv; have := hs.w_.len; omega) (M.ranges_bd hv) W (hs.ev hE)
    generalize M.tooMany (M.ranges f) 1 = t at h2 HD
    generalize M.valid f = v at h1 h2 HD
    have q1' : ¬ (f.last > 9) := q1
    have q1'' : f.last ≤ 9 := by omega
    have q2' : ¬ ((3 : Int) < nb) := by omega
    have q2'' : ¬ ((nb : Int) > 3) := by omega
    have q3' : ¬ ((5 : Int) < nl) := by omega
    have q3'' : ¬ ((nl : Int) > 5) := by omega
    have H1 := hid h1
    clear h1 hs hlb hll
    cases v
    ·
     have HE := hid (HD.out.trans (if_pos rfl))
     clear h2 HD
     go_enter Try.func21, Try.ntmps21
     go_wp2_with (first | (go_at_call 60; with_reducible refine (H1.out _ (Ev.alloc (Ev.refl _) _)).mono ?_; rintro e w1 ⟨rfl, hb1⟩; have hG : Ev w w1 := Ev.trans (Ev.alloc (Ev.refl _) _) hb1; have HB := hid (hb1.heap (alloc1 w (.cells #[.int .i64 f.last, .slice Ag ng cg, .slice Aw nw cw, .slice Ab nb cb, .slice Ac nc cc, .int .i64 f.ripe, .int .i64 f.late, .int .i64 f.trod, .slice Al nl cl] 38)).1); obtain ⟨y0, y1, y2, y3, y4, y5, y6, y7, y8⟩ := cells9 HB.out))
     go_ret
     exact ⟨by rw [HE.out]; rfl, hG⟩
    ·
     have HE := hid (HD.out.trans (if_neg (by decide)))
     have H2 := hid (h2 rfl)
     clear h2 HD
     cases t
     all_goals (
      go_enter Try.func21, Try.ntmps21
      go_wp2_with (first | (go_at_call 60; with_reducible refine (H1.out _ (Ev.alloc (Ev.refl _) _)).mono ?_; rintro e w1 ⟨rfl, hb1⟩; have hG : Ev w w1 := Ev.trans (Ev.alloc (Ev.refl _) _) hb1; have HB := hid (hb1.heap (alloc1 w (.cells #[.int .i64 f.last, .slice Ag ng cg, .slice Aw nw cw, .slice Ab nb cb, .slice Ac nc cc, .int .i64 f.ripe, .int .i64 f.late, .int .i64 f.trod, .slice Al nl cl] 38)).1); obtain ⟨y0, y1, y2, y3, y4, y5, y6, y7, y8⟩ := cells9 HB.out) | (go_at_call 61; with_reducible refine (H2.out _ hG).mono ?_; rintro e w2 ⟨rfl, hb2⟩; replace hG := hG.trans hb2; replace HB := hid (hb2.heap HB.out); clear y0 y1 y2 y3 y4 y5 y6 y7 y8; obtain ⟨y0, y1, y2, y3, y4, y5, y6, y7, y8⟩ := cells9 HB.out))
      go_ret
      exact ⟨by rw [HE.out]; rfl, hG⟩)

end Go.Proofs.Ytffbkbcjddigdaa
