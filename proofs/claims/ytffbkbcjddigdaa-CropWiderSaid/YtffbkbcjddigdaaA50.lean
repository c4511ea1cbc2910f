import Derived.Test.YtffbkbcjddigdaaA46
set_option linter.unusedSimpArgs false
set_option linter.unusedVariables false
namespace Go.Proofs.Ytffbkbcjddigdaa
open Go.RowKit Go.Shelf

set_option maxRecDepth 100000 in
set_option maxHeartbeats 400000 in
theorem Size_c (r : M.Rg) (h0 : 0 ≤ r.lo) (h1 : r.lo ≤ r.hi) (h2 : r.hi ≤ 50) (w : World) : Calls Try.prog 76 #[.agg #[.int .i64 r.lo, .int .i64 r.hi]] w fun e w' => e = .returned (.int .i64 (r.hi - r.lo + 1)) ∧ Ev w w' := by
 have g1 : IntKind.i64.wrap (r.hi - r.lo) = r.hi - r.lo := IntWalk.i64_in _ (by omega)
 have g2 : IntKind.i64.wrap (r.hi - r.lo + 1) = r.hi - r.lo + 1 := IntWalk.i64_in _ (by omega)
 go_enter Try.func76, Try.ntmps76
 go_wp2
 go_ret
 exact ⟨rfl, Ev.alloc (Ev.refl _) _⟩

def M.waysI (s : Int) : Int := if s = 2 then 2 else 1
set_option maxRecDepth 100000 in
set_option maxHeartbeats 400000 in
theorem Ways_c (s : Int) (h0 : 0 ≤ s) (h1 : s ≤ 2) (w : World) : Calls Try.prog 77 #[.int .i64 s] w fun e w' => e = .returned (.int .i64 (M.waysI s)) ∧ Ev w w' := by
 have h : s = 0 ∨ s = 1 ∨ s = 2 := by omega
 rcases h with rfl | rfl | rfl
 all_goals
  go_enter Try.func77, Try.ntmps77
  go_wp2
  go_ret
  exact ⟨rfl, Ev.refl _⟩

/-- A list rises behind a number that may be there, and its numbers are weeks. -/
def M.okL (f : M.Cf) : Option Int → List Int → Bool
 | _, [] => true
 | p, x :: r => M.hasWeek f x && ((match p with | none => true | some y => decide (y < x)) && M.okL f (some x) r)
theorem M.okL_some (f : M.Cf) : ∀ (l : List Int) (y : Int), M.okL f (some y) l = (M.rises (y :: l) && l.all (M.hasWeek f))
 | [], y => rfl
 | x :: r, y => by
  rw [show M.okL f (some y) (x :: r) = (M.hasWeek f x && (decide (y < x) && M.okL f (some x) r)) from rfl, show M.rises (y :: x :: r) = (decide (y < x) && M.rises (x :: r)) from rfl, M.okL_some f r x, List.all_cons]
  generalize M.hasWeek f x = b1
  generalize decide (y < x) = b2
  generalize M.rises (x :: r) = b3
  generalize r.all (M.hasWeek f) = b4
  cases b1 <;> cases b2 <;> cases b3 <;> cases b4 <;> rfl
theorem M.okL_none (f : M.Cf) (l : List Int) : M.okL f none l = (M.rises l && l.all (M.hasWeek f)) := by
 cases l with
 | nil => rfl
 | cons x r =>
  unfold M.okL
  rw [M.okL_some f r x, List.all_cons]
  cases M.hasWeek f x <;> simp
def M.prv (l : List Int) (k : Nat) : Option Int := if k = 0 then none else some (l.getD (k - 1) 0)

set_option maxRecDepth 100000 in
set_option maxHeartbeats 2000000 in
theorem rIsPlan_c (f : M.Cf) (Ag Aw Ab Ac Al : Option Addr) (ng cg nw cw nb cb nc cc nl cl : Nat) (hbl : f.base.length = nb) (hnb : nb ≤ 1099511627776) (X : Option Addr) (n c : Nat) (xs : List Int) (w : World) (hs : Sl ics 1 w w.heap.size X n c xs) :
  Calls Try.prog 24 #[.agg #[.int .i64 f.last, .slice Ag ng cg, .slice Aw nw cw, .slice Ab nb cb, .slice Ac nc cc, .int .i64 f.ripe, .int .i64 f.late, .int .i64 f.trod, .slice Al nl cl], .slice X n c] w fun e w' => e = .returned (.bool (M.isPlan f xs)) ∧ Ev w w' := by
 have hsm := hs.small
 have hln := hs.len
 have HP := hid (show M.isPlan f xs = (decide (n ≤ nb) && M.okL f none xs) by unfold M.isPlan; rw [M.okL_none, hln, hbl])
 clear hln
 go_enter Try.func24, Try.ntmps24
 go_wp2
 generalize hW0 : World.alloc w _ = W0
 have hE0 : Ev w W0 := by rw [← hW0]; exact Ev.alloc (Ev.refl _) _
 have Q0 := hid (show W0.heap[w.heap.size]? = some (.cells #[.int .i64 f.last, .slice Ag ng cg, .slice Aw nw cw, .slice Ab nb cb, .slice Ac nc cc, .int .i64 f.ripe, .int .i64 f.late, .int .i64 f.trod, .slice Al nl cl] 26 (0, 0)) from by rw [← hW0]; exact (alloc1 w _).1)
 clear hW0
 go_loopw [5] (fun i wr => ∃ k : Nat, i = .int .i64 k ∧ k ≤ n ∧ Ev W0 wr ∧ Hid (M.okL f (M.prv xs k) (xs.drop k) = M.okL f none xs)) (fun i _ => n - (intOf i).toNat)
 case atStart => exact ⟨0, rfl, by omega, Ev.refl _, hid rfl⟩
 case round =>
  obtain ⟨k, rfl, hk, hB, HM⟩ := hrel
  obtain ⟨W1, hW1⟩ : ∃ x, x = wr := ⟨_, rfl⟩
  subst hW1
  have q1 := hB.heap Q0.out
  obtain ⟨q0_, _, _, qb_, _, _, _, _, _⟩ := cells9 q1
  have l0 := heap_lt q1
  clear q1
  by_cases hlt : k < n
  ·
   obtain ⟨b, off, x, rfl, hb, hx, hxd, e0⟩ := hs.int (hE0.trans hB) hlt
   have lb : b < W1.heap.size := by have := (hE0.trans hB).size; omega
   have hcap := hs.cap
   have HXX := hid hx
   have hiw : M.hasWeek f x = M.isIn x 0 f.last := rfl
   have hin := fun W => In_c x 0 f.last W
   rw [← hiw] at hin
   have HNX := hid (show xs.getD k 0 = x by rw [List.getD_eq_getElem?_getD, hx]; rfl)
   clear hiw hx
   have HSE : Hid (∀ w', Ev W1 w' → (∀ o, w'.cell? ⟨w.heap.size, o, none⟩ = W1.cell? ⟨w.heap.size, o, none⟩) ∧ (∀ o, w'.cell? ⟨b, o, none⟩ = W1.cell? ⟨b, o, none⟩)) := hid (fun w' h => ⟨fun o => h.cells.1 _ o l0, fun o => h.cells.1 _ o lb⟩)
   cases hhw : M.hasWeek f x with
   | false =>
    rw [hhw] at hin
    have HIN := hid hin
    have HHW := hid hhw
    have HM2 := hid (show false = M.okL f none xs by rw [← HM.out, hxd]; unfold M.okL; rw [HHW.out]; rfl)
    clear hin hhw hxd
    go_upto_region 4 with fail
    refine wp_region_held_drew (S := fun w' => (∀ o, w'.cell? ⟨w.heap.size, o, none⟩ = W1.cell? ⟨w.heap.size, o, none⟩) ∧ (∀ o, w'.cell? ⟨b, o, none⟩ = W1.cell? ⟨b, o, none⟩)) (by kernel_rfl) (⟨fun o => rfl, fun o => rfl⟩) (fun hHeld => ?_)
    refine tkH 0 (some 12) ?_
    (try simp only [Act.put, sA, sB, sC])
    refine tkH 1 (some 13) ?_
    (try simp only [Act.put, sA, sB, sC])
    refine tkH 2 (some 14) ?_
    (try simp only [Act.put, sA, sB, sC])
    refine tkH 3 (some 15) ?_
    (try simp only [Act.put, sA, sB, sC])
    refine tkH 4 (some 16) ?_
    (try simp only [Act.put, sA, sB, sC])
    refine tkH 5 (some 17) ?_
    (try simp only [Act.put, sA, sB, sC])
    refine wpAnyH_one (i := 6) rfl (by kernel_rfl) (by rfl) (fun K hK => ?_)
    go_simp
    refine (HIN.out _).mono ?_
    rintro e w1 ⟨rfl, hb1⟩
    have hE1 : Ev W1 w1 := Ev.trans (Ev.drew (Ev.refl _)) hb1
    refine hK.out _ _ (HSE.out _ hE1) (fun hHeld => ?_)
    clear hK K
    (try simp only [Act.put, List.setIfInBounds_toArray, List.set_cons_zero, List.set_cons_succ])
    refine tkH 7 (some 19) ?_
    (try simp only [Act.put, sA, sB, sC])
    refine tkH 8 (some 20) ?_
    (try simp only [Act.put, sA, sB, sC])
    refine wpAnyH_skip (i := 9) (some 21) rfl (by kernel_rfl) (by kernel_rfl) (by kernel_rfl) (fun _ _ _ h => h) (by rfl) (by assumption) ?_
    (try simp only [Act.put, List.setIfInBounds_toArray, List.set_cons_zero, List.set_cons_succ])
    refine wpAnyH_skip (i := 10) (some 22) rfl (by kernel_rfl) (by kernel_rfl) (by kernel_rfl) (fun _ _ _ h => h) (by rfl) (by assumption) ?_
    (try simp only [Act.put, List.setIfInBounds_toArray, List.set_cons_zero, List.set_cons_succ])
    refine wpAnyH_skip (i := 11) (some 23) rfl (by kernel_rfl) (by kernel_rfl) (by kernel_rfl) (fun _ _ _ h => h) (by rfl) (by assumption) ?_
    (try simp only [Act.put, List.setIfInBounds_toArray, List.set_cons_zero, List.set_cons_succ])
    refine wpAnyH_skip (i := 12) (some 24) rfl (by kernel_rfl) (by kernel_rfl) (by kernel_rfl) (fun _ _ _ h => h) (by rfl) (by assumption) ?_
    (try simp only [Act.put, List.setIfInBounds_toArray, List.set_cons_zero, List.set_cons_succ])
    refine wpAnyH_skip (i := 13) (some 25) rfl (by kernel_rfl) (by kernel_rfl) (by kernel_rfl) (fun _ _ _ h => h) (by rfl) (by assumption) ?_
    (try simp only [Act.put, List.setIfInBounds_toArray, List.set_cons_zero, List.set_cons_succ])
    refine wpAnyH_skip (i := 14) (some 26) rfl (by kernel_rfl) (by kernel_rfl) (by kernel_rfl) (fun _ _ _ h => h) (by rfl) (by assumption) ?_
    (try simp only [Act.put, List.setIfInBounds_toArray, List.set_cons_zero, List.set_cons_succ])
    refine wpAnyH_skip (i := 15) (some 27) rfl (by kernel_rfl) (by kernel_rfl) (by kernel_rfl) (fun _ _ _ h => h) (by rfl) (by assumption) ?_
    (try simp only [Act.put, List.setIfInBounds_toArray, List.set_cons_zero, List.set_cons_succ])
    refine wpAnyH_skip (i := 16) (some 28) rfl (by kernel_rfl) (by kernel_rfl) (by kernel_rfl) (fun _ _ _ h => h) (by rfl) (by assumption) ?_
    (try simp only [Act.put, List.setIfInBounds_toArray, List.set_cons_zero, List.set_cons_succ])
    refine wpAnyH_skip (i := 17) (some 29) rfl (by kernel_rfl) (by kernel_rfl) (by kernel_rfl) (fun _ _ _ h => h) (by rfl) (by assumption) ?_
    (try simp only [Act.put, List.setIfInBounds_toArray, List.set_cons_zero, List.set_cons_succ])
    refine wpAnyH_skip (i := 18) (some 30) rfl (by kernel_rfl) (by kernel_rfl) (by kernel_rfl) (fun _ _ _ h => h) (by rfl) (by assumption) ?_
    (try simp only [Act.put, List.setIfInBounds_toArray, List.set_cons_zero, List.set_cons_succ])
    refine wpAnyH_skip (i := 19) (some 31) rfl (by kernel_rfl) (by kernel_rfl) (by kernel_rfl) (fun _ _ _ h => h) (by rfl) (by assumption) ?_
    (try simp only [Act.put, List.setIfInBounds_toArray, List.set_cons_zero, List.set_cons_succ])
    refine wpAnyH_skip (i := 20) (some 32) rfl (by kernel_rfl) (by kernel_rfl) (by kernel_rfl) (fun _ _ _ h => h) (by rfl) (by assumption) ?_
    (try simp only [Act.put, List.setIfInBounds_toArray, List.set_cons_zero, List.set_cons_succ])
    refine wpAnyH_skip (i := 21) (some 33) rfl (by kernel_rfl) (by kernel_rfl) (by kernel_rfl) (fun _ _ _ h => h) (by rfl) (by assumption) ?_
    (try simp only [Act.put, List.setIfInBounds_toArray, List.set_cons_zero, List.set_cons_succ])
    refine wpAnyH_skip (i := 22) (some 34) rfl (by kernel_rfl) (by kernel_rfl) (by kernel_rfl) (fun _ _ _ h => h) (by rfl) (by assumption) ?_
    (try simp only [Act.put, List.setIfInBounds_toArray, List.set_cons_zero, List.set_cons_succ])
    refine tkH 23 (some 35) ?_
    (try simp only [Act.put, sA, sB, sC])
    refine wpAnyH_done (by kernel_rfl) ?_ _
    go_wp2
    go_ret
    exact ⟨ret_bool (by rw [HP.out, ← HM2.out]; simp), hE0.trans (hB.trans hE1)⟩
   | true =>
    rw [hhw] at hin
    have HIN := hid hin
    have HHW := hid hhw
    clear hin hhw
    rcases Nat.eq_zero_or_pos k with hk0 | hk0
    ·
     subst hk0
     have HM2 := hid (show M.okL f (M.prv xs 1) (xs.drop 1) = M.okL f none xs by rw [← HM.out, hxd]; show _ = M.okL f none (x :: xs.drop 1); rw [show M.okL f none (x :: xs.drop 1) = (M.hasWeek f x && (true && M.okL f (some x) (xs.drop 1))) from rfl, HHW.out, Bool.true_and, Bool.true_and]; unfold M.prv; rw [if_neg (by omega)]; show M.okL f (some (xs.getD 0 0)) _ = _; rw [HNX.out])
     clear hxd
     simp only [Nat.add_zero] at e0
     rw [show (((0 : Nat)) : Int) = 0 from rfl]
     have hn0 : (0 : Int) < n := by omega
     go_upto_region 4 with fail
     refine wp_region_held_drew (S := fun w' => (∀ o, w'.cell? ⟨w.heap.size, o, none⟩ = W1.cell? ⟨w.heap.size, o, none⟩) ∧ (∀ o, w'.cell? ⟨b, o, none⟩ = W1.cell? ⟨b, o, none⟩)) (by kernel_rfl) (⟨fun o => rfl, fun o => rfl⟩) (fun hHeld => ?_)
     refine tkH 0 (some 12) ?_
     (try simp only [Act.put, sA, sB, sC])
     refine tkH 1 (some 13) ?_
     (try simp only [Act.put, sA, sB, sC])
     refine tkH 2 (some 14) ?_
     (try simp only [Act.put, sA, sB, sC])
     refine tkH 3 (some 15) ?_
     (try simp only [Act.put, sA, sB, sC])
     refine tkH 4 (some 16) ?_
     (try simp only [Act.put, sA, sB, sC])
     refine tkH 5 (some 17) ?_
     (try simp only [Act.put, sA, sB, sC])
     refine wpAnyH_one (i := 6) rfl (by kernel_rfl) (by rfl) (fun K hK => ?_)
     go_simp
     refine (HIN.out _).mono ?_
     rintro e w1 ⟨rfl, hb1⟩
     have hE1 : Ev W1 w1 := Ev.trans (Ev.drew (Ev.refl _)) hb1
     refine hK.out _ _ (HSE.out _ hE1) (fun hHeld => ?_)
     clear hK K
     (try simp only [Act.put, List.setIfInBounds_toArray, List.set_cons_zero, List.set_cons_succ])
     refine tkH 7 (some 19) ?_
     (try simp only [Act.put, sA, sB, sC])
     refine tkH 8 (some 20) ?_
     (try simp only [Act.put, sA, sB, sC])
     refine tkH 9 (some 21) ?_
     (try simp only [Act.put, sA, sB, sC])
     refine tkH 10 (some 22) ?_
     (try simp only [Act.put, sA, sB, sC])
     refine tkH 11 (some 23) ?_
     (try simp only [Act.put, sA, sB, sC])
     refine wpAnyH_skip (i := 12) (some 24) rfl (by kernel_rfl) (by kernel_rfl) (by kernel_rfl) (fun _ _ _ h => h) (by rfl) (by assumption) ?_
     (try simp only [Act.put, List.setIfInBounds_toArray, List.set_cons_zero, List.set_cons_succ])
     refine wpAnyH_skip (i := 13) (some 25) rfl (by kernel_rfl) (by kernel_rfl) (by kernel_rfl) (fun _ _ _ h => h) (by rfl) (by assumption) ?_
     (try simp only [Act.put, List.setIfInBounds_toArray, List.set_cons_zero, List.set_cons_succ])
     refine wpAnyH_skip (i := 14) (some 26) rfl (by kernel_rfl) (by kernel_rfl) (by kernel_rfl) (fun _ _ _ h => h) (by rfl) (by assumption) ?_
     (try simp only [Act.put, List.setIfInBounds_toArray, List.set_cons_zero, List.set_cons_succ])
     refine wpAnyH_skip (i := 15) (some 27) rfl (by kernel_rfl) (by kernel_rfl) (by kernel_rfl) (fun _ _ _ h => h) (by rfl) (by assumption) ?_
     (try simp only [Act.put, List.setIfInBounds_toArray, List.set_cons_zero, List.set_cons_succ])
     refine wpAnyH_skip (i := 16) (some 28) rfl (by kernel_rfl) (by kernel_rfl) (by kernel_rfl) (fun _ _ _ h => h) (by rfl) (by assumption) ?_
     (try simp only [Act.put, List.setIfInBounds_toArray, List.set_cons_zero, List.set_cons_succ])
     refine wpAnyH_skip (i := 17) (some 29) rfl (by kernel_rfl) (by kernel_rfl) (by kernel_rfl) (fun _ _ _ h => h) (by rfl) (by assumption) ?_
     (try simp only [Act.put, List.setIfInBounds_toArray, List.set_cons_zero, List.set_cons_succ])
     refine wpAnyH_skip (i := 18) (some 30) rfl (by kernel_rfl) (by kernel_rfl) (by kernel_rfl) (fun _ _ _ h => h) (by rfl) (by assumption) ?_
     (try simp only [Act.put, List.setIfInBounds_toArray, List.set_cons_zero, List.set_cons_succ])
     refine wpAnyH_skip (i := 19) (some 31) rfl (by kernel_rfl) (by kernel_rfl) (by kernel_rfl) (fun _ _ _ h => h) (by rfl) (by assumption) ?_
     (try simp only [Act.put, List.setIfInBounds_toArray, List.set_cons_zero, List.set_cons_succ])
     refine wpAnyH_skip (i := 20) (some 32) rfl (by kernel_rfl) (by kernel_rfl) (by kernel_rfl) (fun _ _ _ h => h) (by rfl) (by assumption) ?_
     (try simp only [Act.put, List.setIfInBounds_toArray, List.set_cons_zero, List.set_cons_succ])
     refine wpAnyH_skip (i := 21) (some 33) rfl (by kernel_rfl) (by kernel_rfl) (by kernel_rfl) (fun _ _ _ h => h) (by rfl) (by assumption) ?_
     (try simp only [Act.put, List.setIfInBounds_toArray, List.set_cons_zero, List.set_cons_succ])
     refine tkH 22 (some 34) ?_
     (try simp only [Act.put, sA, sB, sC])
     refine tkH 23 (some 35) ?_
     (try simp only [Act.put, sA, sB, sC])
     refine wpAnyH_done (by kernel_rfl) ?_ _
     go_wp2
     exact ⟨⟨1, by go_num, by omega, hB.trans hE1, HM2⟩, by simp [intOf]; omega⟩
    ·
     obtain ⟨m, hm⟩ : ∃ m : Nat, (k : Int) - 1 = m := ⟨k - 1, by omega⟩
     obtain ⟨b2, off2, y, hbb, hb2, hy, _, e1⟩ := hs.int (hE0.trans hB) (show m < n by omega)
     obtain ⟨rfl, rfl⟩ : b = b2 ∧ off = off2 := by simpa using hbb
     have i1 : (k : Int) > 0 := by omega
     have i2 : (0 : Int) < k := by omega
     have s1 : IntKind.i64.wrap ((k : Int) - 1) = m := by rw [hm]; exact IntWalk.i64_in _ (by omega)
     have mp : m < n := by omega
     have HPV := hid (show M.prv xs k = some y by unfold M.prv; rw [if_neg (by omega), show k - 1 = m by omega, List.getD_eq_getElem?_getD, hy]; rfl)
     have HM2 := hid (show (decide (y < x) && M.okL f (some x) (xs.drop (k + 1))) = M.okL f none xs by rw [← HM.out, hxd, HPV.out, show M.okL f (some y) (x :: xs.drop (k + 1)) = (M.hasWeek f x && (decide (y < x) && M.okL f (some x) (xs.drop (k + 1)))) from rfl, HHW.out, Bool.true_and])
     have HN2 := hid (show M.prv xs (k + 1) = some x by unfold M.prv; rw [if_neg (by omega), Nat.add_sub_cancel, HNX.out])
     clear hxd hbb hy hm
     by_cases hyx : y < x
     ·
      have t1 : decide (x ≤ y) = false := by simp; omega
      have t2 : ¬ (x ≤ y) := by omega
      have HM3 := hid (show M.okL f (M.prv xs (k + 1)) (xs.drop (k + 1)) = M.okL f none xs by rw [HN2.out, ← HM2.out]; simp [hyx])
      clear hyx
      go_upto_region 4 with fail
      refine wp_region_held_drew (S := fun w' => (∀ o, w'.cell? ⟨w.heap.size, o, none⟩ = W1.cell? ⟨w.heap.size, o, none⟩) ∧ (∀ o, w'.cell? ⟨b, o, none⟩ = W1.cell? ⟨b, o, none⟩)) (by kernel_rfl) (⟨fun o => rfl, fun o => rfl⟩) (fun hHeld => ?_)
      refine tkH 0 (some 12) ?_
      (try simp only [Act.put, sA, sB, sC])
      refine tkH 1 (some 13) ?_
      (try simp only [Act.put, sA, sB, sC])
      refine tkH 2 (some 14) ?_
      (try simp only [Act.put, sA, sB, sC])
      refine tkH 3 (some 15) ?_
      (try simp only [Act.put, sA, sB, sC])
      refine tkH 4 (some 16) ?_
      (try simp only [Act.put, sA, sB, sC])
      refine tkH 5 (some 17) ?_
      (try simp only [Act.put, sA, sB, sC])
      refine wpAnyH_one (i := 6) rfl (by kernel_rfl) (by rfl) (fun K hK => ?_)
      go_simp
      refine (HIN.out _).mono ?_
      rintro e w1 ⟨rfl, hb1⟩
      have hE1 : Ev W1 w1 := Ev.trans (Ev.drew (Ev.refl _)) hb1
      refine hK.out _ _ (HSE.out _ hE1) (fun hHeld => ?_)
      clear hK K
      (try simp only [Act.put, List.setIfInBounds_toArray, List.set_cons_zero, List.set_cons_succ])
      refine tkH 7 (some 19) ?_
      (try simp only [Act.put, sA, sB, sC])
      refine tkH 8 (some 20) ?_
      (try simp only [Act.put, sA, sB, sC])
      refine tkH 9 (some 21) ?_
      (try simp only [Act.put, sA, sB, sC])
      refine tkH 10 (some 22) ?_
      (try simp only [Act.put, sA, sB, sC])
      refine tkH 11 (some 23) ?_
      (try simp only [Act.put, sA, sB, sC])
      refine tkH 12 (some 24) ?_
      (try simp only [Act.put, sA, sB, sC])
      refine tkH 13 (some 25) ?_
      (try simp only [Act.put, sA, sB, sC])
      refine tkH 14 (some 26) ?_
      (try simp only [Act.put, sA, sB, sC])
      refine tkH 15 (some 27) ?_
      (try simp only [Act.put, sA, sB, sC])
      refine tkH 16 (some 28) ?_
      (try simp only [Act.put, sA, sB, sC])
      refine tkH 17 (some 29) ?_
      (try simp only [Act.put, sA, sB, sC])
      refine tkH 18 (some 30) ?_
      (try simp only [Act.put, sA, sB, sC])
      refine tkH 19 (some 31) ?_
      (try simp only [Act.put, sA, sB, sC])
      refine tkH 20 (some 32) ?_
      (try simp only [Act.put, sA, sB, sC])
      refine tkH 21 (some 33) ?_
      (try simp only [Act.put, sA, sB, sC])
      refine tkH 22 (some 34) ?_
      (try simp only [Act.put, sA, sB, sC])
      refine tkH 23 (some 35) ?_
      (try simp only [Act.put, sA, sB, sC])
      refine wpAnyH_done (by kernel_rfl) ?_ _
      go_wp2
      exact ⟨⟨k + 1, by go_num, by omega, hB.trans hE1, HM3⟩, by simp [intOf]; omega⟩
     ·
      have t1 : decide (x ≤ y) = true := by simp; omega
      have t2 : x ≤ y := by omega
      have HM3 := hid (show false = M.okL f none xs by rw [← HM2.out]; simp [hyx])
      clear hyx
      go_upto_region 4 with fail
      refine wp_region_held_drew (S := fun w' => (∀ o, w'.cell? ⟨w.heap.size, o, none⟩ = W1.cell? ⟨w.heap.size, o, none⟩) ∧ (∀ o, w'.cell? ⟨b, o, none⟩ = W1.cell? ⟨b, o, none⟩)) (by kernel_rfl) (⟨fun o => rfl, fun o => rfl⟩) (fun hHeld => ?_)
      refine tkH 0 (some 12) ?_
      (try simp only [Act.put, sA, sB, sC])
      refine tkH 1 (some 13) ?_
      (try simp only [Act.put, sA, sB, sC])
      refine tkH 2 (some 14) ?_
      (try simp only [Act.put, sA, sB, sC])
      refine tkH 3 (some 15) ?_
      (try simp only [Act.put, sA, sB, sC])
      refine tkH 4 (some 16) ?_
      (try simp only [Act.put, sA, sB, sC])
      refine tkH 5 (some 17) ?_
      (try simp only [Act.put, sA, sB, sC])
      refine wpAnyH_one (i := 6) rfl (by kernel_rfl) (by rfl) (fun K hK => ?_)
      go_simp
      refine (HIN.out _).mono ?_
      rintro e w1 ⟨rfl, hb1⟩
      have hE1 : Ev W1 w1 := Ev.trans (Ev.drew (Ev.refl _)) hb1
      refine hK.out _ _ (HSE.out _ hE1) (fun hHeld => ?_)
      clear hK K
      (try simp only [Act.put, List.setIfInBounds_toArray, List.set_cons_zero, List.set_cons_succ])
      refine tkH 7 (some 19) ?_
      (try simp only [Act.put, sA, sB, sC])
      refine tkH 8 (some 20) ?_
      (try simp only [Act.put, sA, sB, sC])
      refine tkH 9 (some 21) ?_
      (try simp only [Act.put, sA, sB, sC])
      refine tkH 10 (some 22) ?_
      (try simp only [Act.put, sA, sB, sC])
      refine tkH 11 (some 23) ?_
      (try simp only [Act.put, sA, sB, sC])
      refine tkH 12 (some 24) ?_
      (try simp only [Act.put, sA, sB, sC])
      refine tkH 13 (some 25) ?_
      (try simp only [Act.put, sA, sB, sC])
      refine tkH 14 (some 26) ?_
      (try simp only [Act.put, sA, sB, sC])
      refine tkH 15 (some 27) ?_
      (try simp only [Act.put, sA, sB, sC])
      refine tkH 16 (some 28) ?_
      (try simp only [Act.put, sA, sB, sC])
      refine tkH 17 (some 29) ?_
      (try simp only [Act.put, sA, sB, sC])
      refine tkH 18 (some 30) ?_
      (try simp only [Act.put, sA, sB, sC])
      refine tkH 19 (some 31) ?_
      (try simp only [Act.put, sA, sB, sC])
      refine tkH 20 (some 32) ?_
      (try simp only [Act.put, sA, sB, sC])
      refine tkH 21 (some 33) ?_
      (try simp only [Act.put, sA, sB, sC])
      refine tkH 22 (some 34) ?_
      (try simp only [Act.put, sA, sB, sC])
      refine tkH 23 (some 35) ?_
      (try simp only [Act.put, sA, sB, sC])
      refine wpAnyH_done (by kernel_rfl) ?_ _
      go_wp2
      go_ret
      exact ⟨ret_bool (by rw [HP.out, ← HM3.out]; simp), hE0.trans (hB.trans hE1)⟩
  ·
   obtain rfl : k = n := by omega
   have HM2 := hid (show true = M.okL f none xs by rw [← HM.out, hs.done (by omega)]; rfl)
   by_cases hnn : k ≤ nb
   ·
    have hd : decide ((k : Int) ≤ nb) = true := by simp; omega
    have hd2 : (k : Int) ≤ nb := by omega
    go_wp2
    go_ret
    exact ⟨ret_bool (by rw [HP.out, ← HM2.out]; simp [hnn]), hE0.trans hB⟩
   ·
    have hd : decide ((k : Int) ≤ nb) = false := by simp; omega
    have hd2 : ¬ ((k : Int) ≤ nb) := by omega
    go_wp2
    go_ret
    exact ⟨ret_bool (by rw [HP.out, ← HM2.out]; simp [hnn]), hE0.trans hB⟩

end Go.Proofs.Ytffbkbcjddigdaa

set_option linter.unusedSimpArgs false
set_option linter.unusedVariables false
namespace Go.Proofs.Ytffbkbcjddigdaa
open Go.RowKit Go.Shelf

/-- How many truths there are without looks, up to 3000. -/
def M.manyK : List M.Rg → List Int → Int → Int
 | r :: gs, s :: ws, n => M.manyK gs ws (min 3000 (n * (r.hi - r.lo + 1) * M.waysI s))
 | _, _, n => n
def M.many (f : M.Cf) : Int := M.manyK f.gr f.wet 1
def M.prodR : List M.Rg → Int
 | [] => 1
 | r :: rs => (r.hi - r.lo + 1) * M.prodR rs
theorem M.prodR_pos : ∀ (l : List M.Rg), (∀ r ∈ l, r.lo ≤ r.hi) → 1 ≤ M.prodR l
 | [], _ => by simp [M.prodR]
 | r :: rs, h => by
  have h1 := M.prodR_pos rs (fun x hx => h x (by simp [hx]))
  have h2 := h r (by simp)
  unfold M.prodR
  have := Int.mul_le_mul (show (1 : Int) ≤ r.hi - r.lo + 1 by omega) h1 (by omega) (by omega)
  omega
theorem M.prodR_append : ∀ (a b : List M.Rg), M.prodR (a ++ b) = M.prodR a * M.prodR b
 | [], b => by simp [M.prodR]
 | r :: rs, b => by
  rw [List.cons_append, show M.prodR (r :: (rs ++ b)) = (r.hi - r.lo + 1) * M.prodR (rs ++ b) from rfl, show M.prodR (r :: rs) = (r.hi - r.lo + 1) * M.prodR rs from rfl, M.prodR_append rs b, Int.mul_assoc]
theorem M.tooMany_prod : ∀ (l : List M.Rg) (m : Int), 1 ≤ m → (∀ r ∈ l, r.lo ≤ r.hi) → m ≤ 2000 → (M.tooMany l m = true ↔ 2000 < m * M.prodR l)
 | [], m, _, _, h2 => by unfold M.tooMany M.prodR; simp; omega
 | r :: rs, m, hm, h, h2 => by
  have hp := M.prodR_pos rs (fun x hx => h x (by simp [hx]))
  have hr := h r (by simp)
  have hq : 1 ≤ m * (r.hi - r.lo + 1) := by
   have := Int.mul_le_mul hm (show (1 : Int) ≤ r.hi - r.lo + 1 by omega) (by omega) (by omega)
   omega
  unfold M.tooMany M.prodR
  rw [← Int.mul_assoc]
  by_cases hb : 2000 < m * (r.hi - r.lo + 1)
  ·
   rw [if_pos hb]
   have := Int.mul_le_mul (Int.le_refl (m * (r.hi - r.lo + 1))) hp (by omega) (by omega)
   simp only [Int.mul_one] at this
   simp; omega
  ·
   rw [if_neg hb, M.tooMany_prod rs _ hq (fun x hx => h x (by simp [hx])) (by omega)]
theorem M.ways_wr (s : Int) : (M.wr s).hi - (M.wr s).lo + 1 = M.waysI s := by
 unfold M.wr M.waysI
 split <;> simp
theorem M.ways_pos (s : Int) : 1 ≤ M.waysI s ∧ M.waysI s ≤ 2 := by unfold M.waysI; split <;> omega
theorem M.manyK_min : ∀ (gs : List M.Rg) (ws : List Int) (n : Int), gs.length = ws.length → (∀ r ∈ gs, r.lo ≤ r.hi) → 1 ≤ n → n ≤ 3000 → M.manyK gs ws n = min 3000 (n * (M.prodR gs * M.prodR (ws.map M.wr)))
 | [], [], n, _, _, h1, h2 => by unfold M.manyK; simp [M.prodR]; omega
 | r :: gs, s :: ws, n, hl, h, h1, h2 => by
  have hp := M.prodR_pos gs (fun x hx => h x (by simp [hx]))
  have hp2 := M.prodR_pos (ws.map M.wr) (fun x hx => by obtain ⟨y, _, rfl⟩ := List.mem_map.1 hx; unfold M.wr; split <;> simp)
  have hr := h r (by simp)
  have hw := M.ways_pos s
  have hPP : 1 ≤ M.prodR gs * M.prodR (ws.map M.wr) := by
   have := Int.mul_le_mul hp hp2 (by omega) (by omega)
   omega
  have hsz : 1 ≤ n * (r.hi - r.lo + 1) * M.waysI s := by
   have a1 := Int.mul_le_mul h1 (show (1 : Int) ≤ r.hi - r.lo + 1 by omega) (by omega) (by omega)
   have a2 := Int.mul_le_mul (show 1 ≤ n * (r.hi - r.lo + 1) by omega) hw.1 (by omega) (by omega)
   omega
  have he : n * (M.prodR (r :: gs) * M.prodR ((s :: ws).map M.wr)) = n * (r.hi - r.lo + 1) * M.waysI s * (M.prodR gs * M.prodR (ws.map M.wr)) := by
   rw [List.map_cons]
   rw [show M.prodR (r :: gs) = (r.hi - r.lo + 1) * M.prodR gs from rfl, show M.prodR (M.wr s :: ws.map M.wr) = ((M.wr s).hi - (M.wr s).lo + 1) * M.prodR (ws.map M.wr) from rfl, M.ways_wr]
   simp only [Int.mul_assoc, Int.mul_left_comm, Int.mul_comm]
  rw [he, show M.manyK (r :: gs) (s :: ws) n = M.manyK gs ws (min 3000 (n * (r.hi - r.lo + 1) * M.waysI s)) from rfl]
  generalize n * (r.hi - r.lo + 1) * M.waysI s = q at hsz ⊢
  rw [M.manyK_min gs ws _ (by simpa using hl) (fun x hx => h x (by simp [hx])) (by omega) (by omega)]
  generalize M.prodR gs * M.prodR (ws.map M.wr) = P at hPP ⊢
  by_cases hq : q ≤ 3000
  ·
   rw [show min 3000 q = q by omega]
  ·
   rw [show min 3000 q = 3000 by omega]
   have a1 := Int.mul_le_mul (Int.le_refl 3000) hPP (by omega) (by omega)
   have a2 := Int.mul_le_mul (show (3000 : Int) ≤ q by omega) hPP (by omega) (by omega)
   omega
 | [], _ :: _, _, hl, _, _, _ => by simp at hl
 | _ :: _, [], _, hl, _, _, _ => by simp at hl
theorem M.many_min {f : M.Cf} (hv : M.valid f = true) : M.many f = min 3000 (M.prodR (M.ranges f)) := by
 obtain ⟨h0, h1, h2, h3, h4, _⟩ := M.valid_parts hv
 have hg : ∀ r ∈ f.gr, r.lo ≤ r.hi := fun r hr => by
  have := h2 r hr
  unfold M.isGrowth M.upTo at this
  simp only [Bool.and_eq_true, decide_eq_true_eq] at this
  omega
 unfold M.many M.ranges
 rw [M.manyK_min f.gr f.wet 1 (by omega) hg (by omega) (by omega), M.prodR_append, Int.one_mul]
theorem M.many_too {f : M.Cf} (hv : M.valid f = true) : decide (2000 < M.many f) = M.tooMany (M.ranges f) 1 := by
 have hm := M.many_min hv
 obtain ⟨h0, h1, h2, h3, h4, _⟩ := M.valid_parts hv
 have hr : ∀ r ∈ M.ranges f, r.lo ≤ r.hi := fun r hr => by
  unfold M.ranges at hr
  rcases List.mem_append.1 hr with hr | hr
  ·
   have := h2 r hr
   unfold M.isGrowth M.upTo at this
   simp only [Bool.and_eq_true, decide_eq_true_eq] at this
   omega
  ·
   obtain ⟨y, _, rfl⟩ := List.mem_map.1 hr
   unfold M.wr; split <;> simp
 have ht := M.tooMany_prod (M.ranges f) 1 (by omega) hr (by omega)
 rw [Int.one_mul] at ht
 rw [Bool.eq_iff_iff, ht, decide_eq_true_eq, hm]
 omega

set_option maxRecDepth 100000 in
set_option maxHeartbeats 2000000 in
theorem Many_c (f : M.Cf) (Ag Aw Ab Ac Al : Option Addr) (ng cg nw cw nb cb nc cc nl cl : Nat) (hl : f.gr.length = f.wet.length) (hg : ∀ r ∈ f.gr, 0 ≤ r.lo ∧ r.lo ≤ r.hi ∧ r.hi ≤ 50) (hwt : ∀ s ∈ f.wet, 0 ≤ s ∧ s ≤ 2) (w : World) (hs : CS w w.heap.size f Ag Aw Ab Ac Al ng cg nw cw nb cb nc cc nl cl) :
  Calls Try.prog 43 #[.agg #[.int .i64 f.last, .slice Ag ng cg, .slice Aw nw cw, .slice Ab nb cb, .slice Ac nc cc, .int .i64 f.ripe, .int .i64 f.late, .int .i64 f.trod, .slice Al nl cl]] w fun e w' => e = .returned (.int .i64 (M.many f)) ∧ Ev w w' := by
 have hsm := hs.g.small
 have hgl := hs.g.len
 have hwl := hs.w_.len
 have hnn : ng = nw := by omega
 have HNN := hid hnn
 have HG := hid hg
 have HW := hid hwt
 clear hg hwt hgl hwl hl hnn
 go_enter Try.func43, Try.ntmps43
 go_wp2
 generalize hW0 : World.alloc w _ = W0
 have hE0 : Ev w W0 := by rw [← hW0]; exact Ev.alloc (Ev.refl _) _
 have Q0 := hid (show W0.heap[w.heap.size]? = some (.cells #[.int .i64 f.last, .slice Ag ng cg, .slice Aw nw cw, .slice Ab nb cb, .slice Ac nc cc, .int .i64 f.ripe, .int .i64 f.late, .int .i64 f.trod, .slice Al nl cl] 26 (0, 0)) from by rw [← hW0]; exact (alloc1 w _).1)
 clear hW0
 go_loopw [3, 4] (fun a i wr => ∃ (k : Nat) (n : Int), i = .int .i64 k ∧ a = .int .i64 n ∧ k ≤ ng ∧ 1 ≤ n ∧ n ≤ 3000 ∧ Ev W0 wr ∧ Hid (M.manyK (f.gr.drop k) (f.wet.drop k) n = M.many f)) (fun _ i _ => ng - (intOf i).toNat)
 case atStart => exact ⟨0, 1, rfl, rfl, by omega, by omega, by omega, Ev.refl _, hid rfl⟩
 case round =>
  obtain ⟨k, n, rfl, rfl, hk, hn1, hn2, hB, HM⟩ := hrel
  obtain ⟨W1, hW1⟩ : ∃ x, x = wr := ⟨_, rfl⟩
  subst hW1
  have q1 := hB.heap Q0.out
  obtain ⟨q0_, qg_, qw_, _, _, _, _, _, _⟩ := cells9 q1
  have l0 := heap_lt q1
  clear q1
  by_cases hlt : k < ng
  ·
   obtain ⟨b, off, r, hA, hb, hx, hxd, hcc⟩ := hs.g.at_ (hE0.trans hB) hlt
   have e0 := hcc 0 _ rfl
   have e1 := hcc 1 _ rfl
   simp only [Nat.add_zero] at e0
   obtain ⟨b2, off2, s, hA2, hb2, hy, hyd, e2⟩ := hs.w_.int (hE0.trans hB) (show k < nw by have := HNN.out; omega)
   have lb : b < W1.heap.size := by have := (hE0.trans hB).size; omega
   have lb2 : b2 < W1.heap.size := by have := (hE0.trans hB).size; omega
   have hcap := hs.g.cap
   have hcap2 := hs.w_.cap
   subst hA hA2
   have hr := HG.out r (List.mem_of_getElem? hx)
   have hs2 := HW.out s (List.mem_of_getElem? hy)
   have HSZ := hid (fun W => Size_c r hr.1 hr.2.1 hr.2.2 W)
   have HWY := hid (fun W => Ways_c s hs2.1 hs2.2 W)
   have HM1 := hid (show M.manyK (f.gr.drop (k + 1)) (f.wet.drop (k + 1)) (min 3000 (n * (r.hi - r.lo + 1) * M.waysI s)) = M.many f by rw [← HM.out, hxd, hyd]; rfl)
   have hwp := M.ways_pos s
   generalize M.waysI s = y at HWY HM1 hwp
   have hz1 : 1 ≤ r.hi - r.lo + 1 := by omega
   have hz2 : r.hi - r.lo + 1 ≤ 51 := by omega
   generalize r.hi - r.lo + 1 = z at HSZ HM1 hz1 hz2
   have p1 : 1 ≤ n * z := by have := Int.mul_le_mul hn1 hz1 (by omega) (by omega); omega
   have p2 : n * z ≤ 153000 := by have := Int.mul_le_mul hn2 hz2 (by omega) (by omega); omega
   have g1 : IntKind.i64.wrap (n * z) = n * z := IntWalk.i64_in _ (by omega)
   generalize hq1 : n * z = q at HM1 p1 p2 g1
   have p3 : 1 ≤ q * y := by have := Int.mul_le_mul p1 hwp.1 (by omega) (by omega); omega
   have p4 : q * y ≤ 306000 := by have := Int.mul_le_mul p2 hwp.2 (by omega) (by omega); omega
   have g2 : IntKind.i64.wrap (q * y) = q * y := IntWalk.i64_in _ (by omega)
   generalize hq2 : q * y = q2 at HM1 p3 p4 g2
   have hk2 : k < nw := by have := HNN.out; omega
   have q30 : 1 ≤ min 3000 q2 ∧ min 3000 q2 ≤ 3000 := by omega
   clear hx hxd hy hyd hcc hr hs2 hwp
   have HSE : Hid (∀ w', Ev W1 w' → (∀ o, w'.cell? ⟨w.heap.size, o, none⟩ = W1.cell? ⟨w.heap.size, o, none⟩) ∧ (∀ o, w'.cell? ⟨b, o, none⟩ = W1.cell? ⟨b, o, none⟩) ∧ (∀ o, w'.cell? ⟨b2, o, none⟩ = W1.cell? ⟨b2, o, none⟩)) := hid (fun w' h => ⟨fun o => h.cells.1 _ o l0, fun o => h.cells.1 _ o lb, fun o => h.cells.1 _ o lb2⟩)
   by_cases hmn : 3000 ≤ q2
   ·
    have HM2 := hid (show M.manyK (f.gr.drop (k + 1)) (f.wet.drop (k + 1)) 3000 = M.many f by rw [← HM1.out]; congr 1; omega)
    have hmn0 : ¬ (q2 < 3000) := by omega
    have hq3 : (1 : Int) ≤ 3000 := by omega
    have hq4 : (3000 : Int) ≤ 3000 := by omega
    go_upto_region 5 with fail
    refine wp_region_held_drew (S := fun w' => (∀ o, w'.cell? ⟨w.heap.size, o, none⟩ = W1.cell? ⟨w.heap.size, o, none⟩) ∧ (∀ o, w'.cell? ⟨b, o, none⟩ = W1.cell? ⟨b, o, none⟩) ∧ (∀ o, w'.cell? ⟨b2, o, none⟩ = W1.cell? ⟨b2, o, none⟩)) (by kernel_rfl) (⟨fun o => rfl, fun o => rfl, fun o => rfl⟩) (fun hHeld => ?_)
    refine tkH 0 (some 12) ?_
    (try simp only [Act.put, sA, sB, sC])
    refine tkH 1 (some 13) ?_
    (try simp only [Act.put, sA, sB, sC])
    refine tkH 2 (some 14) ?_
    (try simp only [Act.put, sA, sB, sC])
    refine tkH 3 (some 15) ?_
    (try simp only [Act.put, sA, sB, sC])
    refine tkH 4 (some 16) ?_
    (try simp only [Act.put, sA, sB, sC])
    refine tkH 5 (some 17) ?_
    (try simp only [Act.put, sA, sB, sC])
    refine tkH 8 (some 20) ?_
    (try simp only [Act.put, sA, sB, sC])
    refine tkH 9 (some 21) ?_
    (try simp only [Act.put, sA, sB, sC])
    refine tkH 10 (some 22) ?_
    (try simp only [Act.put, sA, sB, sC])
    refine tkH 11 (some 23) ?_
    (try simp only [Act.put, sA, sB, sC])
    refine tkH 12 (some 24) ?_
    (try simp only [Act.put, sA, sB, sC])
    refine wpAnyH_one (i := 6) rfl (by kernel_rfl) (by rfl) (fun K hK => ?_)
    go_simp
    refine (HSZ.out _).mono ?_
    rintro e w1 ⟨rfl, hb1⟩
    have hE1 : Ev W1 w1 := Ev.trans (Ev.drew (Ev.refl _)) hb1
    refine hK.out _ _ (HSE.out _ hE1) (fun hHeld => ?_)
    clear hK K
    (try simp only [Act.put, List.setIfInBounds_toArray, List.set_cons_zero, List.set_cons_succ])
    refine tkH 7 (some 19) ?_
    (try simp only [Act.put, sA, sB, sC])
    refine wpAnyH_one (i := 13) rfl (by kernel_rfl) (by rfl) (fun K hK => ?_)
    go_simp
    refine (HWY.out _).mono ?_
    rintro e w2 ⟨rfl, hb2⟩
    have hE2 : Ev W1 w2 := Ev.trans hE1 hb2
    refine hK.out _ _ (HSE.out _ hE2) (fun hHeld => ?_)
    clear hK K
    (try simp only [Act.put, List.setIfInBounds_toArray, List.set_cons_zero, List.set_cons_succ])
    refine tkH 14 (some 26) ?_
    (try simp only [Act.put, sA, sB, sC])
    refine tkH 15 (some 27) ?_
    (try simp only [Act.put, sA, sB, sC])
    refine tkH 16 (some 3) ?_
    (try simp only [Act.put, sA, sB, sC])
    refine wpAnyH_done (by kernel_rfl) ?_ _
    go_wp2
    exact ⟨⟨k + 1, _, by go_num, rfl, by omega, hq3, hq4, hB.trans hE2, HM2⟩, by simp [intOf]; omega⟩
   ·
    have HM2 := hid (show M.manyK (f.gr.drop (k + 1)) (f.wet.drop (k + 1)) q2 = M.many f by rw [← HM1.out]; congr 1; omega)
    have hq3 : 1 ≤ q2 := by omega
    have hq4 : q2 ≤ 3000 := by omega
    have hmn2 : q2 < 3000 := by omega
    go_upto_region 5 with fail
    refine wp_region_held_drew (S := fun w' => (∀ o, w'.cell? ⟨w.heap.size, o, none⟩ = W1.cell? ⟨w.heap.size, o, none⟩) ∧ (∀ o, w'.cell? ⟨b, o, none⟩ = W1.cell? ⟨b, o, none⟩) ∧ (∀ o, w'.cell? ⟨b2, o, none⟩ = W1.cell? ⟨b2, o, none⟩)) (by kernel_rfl) (⟨fun o => rfl, fun o => rfl, fun o => rfl⟩) (fun hHeld => ?_)
    refine tkH 0 (some 12) ?_
    (try simp only [Act.put, sA, sB, sC])
    refine tkH 1 (some 13) ?_
    (try simp only [Act.put, sA, sB, sC])
    refine tkH 2 (some 14) ?_
    (try simp only [Act.put, sA, sB, sC])
    refine tkH 3 (some 15) ?_
    (try simp only [Act.put, sA, sB, sC])
    refine tkH 4 (some 16) ?_
    (try simp only [Act.put, sA, sB, sC])
    refine tkH 5 (some 17) ?_
    (try simp only [Act.put, sA, sB, sC])
    refine tkH 8 (some 20) ?_
    (try simp only [Act.put, sA, sB, sC])
    refine tkH 9 (some 21) ?_
    (try simp only [Act.put, sA, sB, sC])
    refine tkH 10 (some 22) ?_
    (try simp only [Act.put, sA, sB, sC])
    refine tkH 11 (some 23) ?_
    (try simp only [Act.put, sA, sB, sC])
    refine tkH 12 (some 24) ?_
    (try simp only [Act.put, sA, sB, sC])
    refine wpAnyH_one (i := 6) rfl (by kernel_rfl) (by rfl) (fun K hK => ?_)
    go_simp
    refine (HSZ.out _).mono ?_
    rintro e w1 ⟨rfl, hb1⟩
    have hE1 : Ev W1 w1 := Ev.trans (Ev.drew (Ev.refl _)) hb1
    refine hK.out _ _ (HSE.out _ hE1) (fun hHeld => ?_)
    clear hK K
    (try simp only [Act.put, List.setIfInBounds_toArray, List.set_cons_zero, List.set_cons_succ])
    refine tkH 7 (some 19) ?_
    (try simp only [Act.put, sA, sB, sC])
    refine wpAnyH_one (i := 13) rfl (by kernel_rfl) (by rfl) (fun K hK => ?_)
    go_simp
    refine (HWY.out _).mono ?_
    rintro e w2 ⟨rfl, hb2⟩
    have hE2 : Ev W1 w2 := Ev.trans hE1 hb2
    refine hK.out _ _ (HSE.out _ hE2) (fun hHeld => ?_)
    clear hK K
    (try simp only [Act.put, List.setIfInBounds_toArray, List.set_cons_zero, List.set_cons_succ])
    refine tkH 14 (some 26) ?_
    (try simp only [Act.put, sA, sB, sC])
    refine tkH 15 (some 27) ?_
    (try simp only [Act.put, sA, sB, sC])
    refine tkH 16 (some 3) ?_
    (try simp only [Act.put, sA, sB, sC])
    refine wpAnyH_done (by kernel_rfl) ?_ _
    go_wp2
    exact ⟨⟨k + 1, _, by go_num, rfl, by omega, hq3, hq4, hB.trans hE2, HM2⟩, by simp [intOf]; omega⟩
  ·
   obtain rfl : k = ng := by omega
   have HM2 := hid (show n = M.many f by rw [← HM.out, hs.g.done (by omega)]; rfl)
   go_wp2
   go_ret
   exact ⟨by rw [← HM2.out]; rfl, hE0.trans hB⟩

end Go.Proofs.Ytffbkbcjddigdaa
