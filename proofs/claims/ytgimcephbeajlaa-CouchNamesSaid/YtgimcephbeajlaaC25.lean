import Derived.Test.YtgimcephbeajlaaC24
set_option linter.unusedSimpArgs false
set_option linter.unusedVariables false
namespace Go.Proofs.Ytgimcephbeajlaa
open Go.RowKit Go.Shelf

set_option maxRecDepth 100000 in
set_option maxHeartbeats 400000 in
theorem Size_c (r : M.Rg) (h0 : 0 ≤ r.lo) (h1 : r.lo ≤ r.hi) (h2 : r.hi ≤ 500) (w : World) : Calls Try.prog 86 #[.agg #[.int .i64 r.lo, .int .i64 r.hi]] w fun e w' => e = .returned (.int .i64 (r.hi - r.lo + 1)) ∧ Ev w w' := by
 have g1 : IntKind.i64.wrap (r.hi - r.lo) = r.hi - r.lo := IntWalk.i64_in _ (by omega)
 have g2 : IntKind.i64.wrap (r.hi - r.lo + 1) = r.hi - r.lo + 1 := IntWalk.i64_in _ (by omega)
 go_enter Try.func86, Try.ntmps86
 go_wp2
 go_ret
 exact ⟨rfl, Ev.alloc (Ev.refl _) _⟩

/-- A list rises behind a number that may be there, and its numbers are weeks. -/
def M.okL (f : M.Cf) : Option Int → List Int → Bool
 | _, [] => true
 | p, x :: r => M.hasHour f x && ((match p with | none => true | some y => decide (y < x)) && M.okL f (some x) r)
theorem M.okL_some (f : M.Cf) : ∀ (l : List Int) (y : Int), M.okL f (some y) l = (M.rises (y :: l) && l.all (M.hasHour f))
 | [], y => rfl
 | x :: r, y => by
  rw [show M.okL f (some y) (x :: r) = (M.hasHour f x && (decide (y < x) && M.okL f (some x) r)) from rfl, show M.rises (y :: x :: r) = (decide (y < x) && M.rises (x :: r)) from rfl, M.okL_some f r x, List.all_cons]
  generalize M.hasHour f x = b1
  generalize decide (y < x) = b2
  generalize M.rises (x :: r) = b3
  generalize r.all (M.hasHour f) = b4
  cases b1 <;> cases b2 <;> cases b3 <;> cases b4 <;> rfl
theorem M.okL_none (f : M.Cf) (l : List Int) : M.okL f none l = (M.rises l && l.all (M.hasHour f)) := by
 cases l with
 | nil => rfl
 | cons x r =>
  unfold M.okL
  rw [M.okL_some f r x, List.all_cons]
  cases M.hasHour f x <;> simp
def M.prv (l : List Int) (k : Nat) : Option Int := if k = 0 then none else some (l.getD (k - 1) 0)

set_option maxRecDepth 100000 in
set_option maxHeartbeats 2000000 in
theorem rIsTurns_c (f : M.Cf) (Aw At Ar : Option Addr) (nw cw nt ct nr cr : Nat) (X : Option Addr) (n c : Nat) (xs : List Int) (w : World) (hs : Sl ics 1 w w.heap.size X n c xs) :
  Calls Try.prog 29 #[.agg #[.int .i64 f.last, .int .i64 f.size, .int .i64 f.cool, .int .i64 f.die, .int .i64 f.burn, .int .i64 f.st.lo, .int .i64 f.st.hi, .slice Aw nw cw, .slice At nt ct, .slice Ar nr cr], .slice X n c] w fun e w' => e = .returned (.bool (M.isTurns f xs)) ∧ Ev w w' := by
 have hsm := hs.small
 have hln := hs.len
 have HP := hid (show M.isTurns f xs = M.okL f none xs by unfold M.isTurns; rw [M.okL_none])
 clear hln
 go_enter Try.func29, Try.ntmps29
 go_wp2
 generalize hW0 : World.alloc w _ = W0
 have hE0 : Ev w W0 := by rw [← hW0]; exact Ev.alloc (Ev.refl _) _
 have Q0 := hid (show W0.heap[w.heap.size]? = some (.cells #[.int .i64 f.last, .int .i64 f.size, .int .i64 f.cool, .int .i64 f.die, .int .i64 f.burn, .int .i64 f.st.lo, .int .i64 f.st.hi, .slice Aw nw cw, .slice At nt ct, .slice Ar nr cr] 28 (0, 0)) from by rw [← hW0]; exact (alloc1 w _).1)
 clear hW0
 go_loopw [5] (fun i wr => ∃ k : Nat, i = .int .i64 k ∧ k ≤ n ∧ Ev W0 wr ∧ Hid (M.okL f (M.prv xs k) (xs.drop k) = M.okL f none xs)) (fun i _ => n - (intOf i).toNat)
 case atStart => exact ⟨0, rfl, by omega, Ev.refl _, hid rfl⟩
 case round =>
  obtain ⟨k, rfl, hk, hB, HM⟩ := hrel
  obtain ⟨W1, hW1⟩ : ∃ x, x = wr := ⟨_, rfl⟩
  subst hW1
  have q1 := hB.heap Q0.out
  obtain ⟨q0_, _, _, _, _, _, _, _, _, _⟩ := cells10 q1
  have l0 := heap_lt q1
  clear q1
  by_cases hlt : k < n
  ·
   obtain ⟨b, off, x, rfl, hb, hx, hxd, e0⟩ := hs.int (hE0.trans hB) hlt
   have lb : b < W1.heap.size := by have := (hE0.trans hB).size; omega
   have hcap := hs.cap
   have HXX := hid hx
   have hiw : M.hasHour f x = M.isIn x 0 f.last := rfl
   have hin := fun W => In_c x 0 f.last W
   rw [← hiw] at hin
   have HNX := hid (show xs.getD k 0 = x by rw [List.getD_eq_getElem?_getD, hx]; rfl)
   clear hiw hx
   have HSE : Hid (∀ w', Ev W1 w' → (∀ o, w'.cell? ⟨w.heap.size, o, none⟩ = W1.cell? ⟨w.heap.size, o, none⟩) ∧ (∀ o, w'.cell? ⟨b, o, none⟩ = W1.cell? ⟨b, o, none⟩)) := hid (fun w' h => ⟨fun o => h.cells.1 _ o l0, fun o => h.cells.1 _ o lb⟩)
   cases hhw : M.hasHour f x with
   | false =>
    rw [hhw] at hin
    have HIN := hid hin
    have HHW := hid hhw
    have HM2 := hid (show false = M.okL f none xs by rw [← HM.out, hxd]; unfold M.okL; rw [HHW.out]; rfl)
    clear hin hhw hxd
    go_upto_region 4 with fail
    refine wp_region_held_drew (S := fun w' => (∀ o, w'.cell? ⟨w.heap.size, o, none⟩ = W1.cell? ⟨w.heap.size, o, none⟩) ∧ (∀ o, w'.cell? ⟨b, o, none⟩ = W1.cell? ⟨b, o, none⟩)) (by kernel_rfl) (⟨fun o => rfl, fun o => rfl⟩) (fun hHeld => ?_)
    refine tkH 0 (some 12) ?_
    (try simp only [Act.put, sA, sB, sC])
    refine tkH 1 (some 13) ?_
    (try simp only [Act.put, sA, sB, sC])
    refine tkH 2 (some 14) ?_
    (try simp only [Act.put, sA, sB, sC])
    refine tkH 3 (some 15) ?_
    (try simp only [Act.put, sA, sB, sC])
    refine tkH 4 (some 16) ?_
    (try simp only [Act.put, sA, sB, sC])
    refine tkH 5 (some 17) ?_
    (try simp only [Act.put, sA, sB, sC])
    refine wpAnyH_one (i := 6) rfl (by kernel_rfl) (by rfl) (fun K hK => ?_)
    go_simp
    refine (HIN.out _).mono ?_
    rintro e w1 ⟨rfl, hb1⟩
    have hE1 : Ev W1 w1 := Ev.trans (Ev.drew (Ev.refl _)) hb1
    refine hK.out _ _ (HSE.out _ hE1) (fun hHeld => ?_)
    clear hK K
    (try simp only [Act.put, List.setIfInBounds_toArray, List.set_cons_zero, List.set_cons_succ])
    refine tkH 7 (some 19) ?_
    (try simp only [Act.put, sA, sB, sC])
    refine tkH 8 (some 20) ?_
    (try simp only [Act.put, sA, sB, sC])
    refine wpAnyH_skip (i := 9) (some 21) rfl (by kernel_rfl) (by kernel_rfl) (by kernel_rfl) (fun _ _ _ h => h) (by rfl) (by assumption) ?_
    (try simp only [Act.put, List.setIfInBounds_toArray, List.set_cons_zero, List.set_cons_succ])
    refine wpAnyH_skip (i := 10) (some 22) rfl (by kernel_rfl) (by kernel_rfl) (by kernel_rfl) (fun _ _ _ h => h) (by rfl) (by assumption) ?_
    (try simp only [Act.put, List.setIfInBounds_toArray, List.set_cons_zero, List.set_cons_succ])
    refine wpAnyH_skip (i := 11) (some 23) rfl (by kernel_rfl) (by kernel_rfl) (by kernel_rfl) (fun _ _ _ h => h) (by rfl) (by assumption) ?_
    (try simp only [Act.put, List.setIfInBounds_toArray, List.set_cons_zero, List.set_cons_succ])
    refine wpAnyH_skip (i := 12) (some 24) rfl (by kernel_rfl) (by kernel_rfl) (by kernel_rfl) (fun _ _ _ h => h) (by rfl) (by assumption) ?_
    (try simp only [Act.put, List.setIfInBounds_toArray, List.set_cons_zero, List.set_cons_succ])
    refine wpAnyH_skip (i := 13) (some 25) rfl (by kernel_rfl) (by kernel_rfl) (by kernel_rfl) (fun _ _ _ h => h) (by rfl) (by assumption) ?_
    (try simp only [Act.put, List.setIfInBounds_toArray, List.set_cons_zero, List.set_cons_succ])
    refine wpAnyH_skip (i := 14) (some 26) rfl (by kernel_rfl) (by kernel_rfl) (by kernel_rfl) (fun _ _ _ h => h) (by rfl) (by assumption) ?_
    (try simp only [Act.put, List.setIfInBounds_toArray, List.set_cons_zero, List.set_cons_succ])
    refine wpAnyH_skip (i := 15) (some 27) rfl (by kernel_rfl) (by kernel_rfl) (by kernel_rfl) (fun _ _ _ h => h) (by rfl) (by assumption) ?_
    (try simp only [Act.put, List.setIfInBounds_toArray, List.set_cons_zero, List.set_cons_succ])
    refine wpAnyH_skip (i := 16) (some 28) rfl (by kernel_rfl) (by kernel_rfl) (by kernel_rfl) (fun _ _ _ h => h) (by rfl) (by assumption) ?_
    (try simp only [Act.put, List.setIfInBounds_toArray, List.set_cons_zero, List.set_cons_succ])
    refine wpAnyH_skip (i := 17) (some 29) rfl (by kernel_rfl) (by kernel_rfl) (by kernel_rfl) (fun _ _ _ h => h) (by rfl) (by assumption) ?_
    (try simp only [Act.put, List.setIfInBounds_toArray, List.set_cons_zero, List.set_cons_succ])
    refine wpAnyH_skip (i := 18) (some 30) rfl (by kernel_rfl) (by kernel_rfl) (by kernel_rfl) (fun _ _ _ h => h) (by rfl) (by assumption) ?_
    (try simp only [Act.put, List.setIfInBounds_toArray, List.set_cons_zero, List.set_cons_succ])
    refine wpAnyH_skip (i := 19) (some 31) rfl (by kernel_rfl) (by kernel_rfl) (by kernel_rfl) (fun _ _ _ h => h) (by rfl) (by assumption) ?_
    (try simp only [Act.put, List.setIfInBounds_toArray, List.set_cons_zero, List.set_cons_succ])
    refine wpAnyH_skip (i := 20) (some 32) rfl (by kernel_rfl) (by kernel_rfl) (by kernel_rfl) (fun _ _ _ h => h) (by rfl) (by assumption) ?_
    (try simp only [Act.put, List.setIfInBounds_toArray, List.set_cons_zero, List.set_cons_succ])
    refine wpAnyH_skip (i := 21) (some 33) rfl (by kernel_rfl) (by kernel_rfl) (by kernel_rfl) (fun _ _ _ h => h) (by rfl) (by assumption) ?_
    (try simp only [Act.put, List.setIfInBounds_toArray, List.set_cons_zero, List.set_cons_succ])
    refine wpAnyH_skip (i := 22) (some 34) rfl (by kernel_rfl) (by kernel_rfl) (by kernel_rfl) (fun _ _ _ h => h) (by rfl) (by assumption) ?_
    (try simp only [Act.put, List.setIfInBounds_toArray, List.set_cons_zero, List.set_cons_succ])
    refine tkH 23 (some 35) ?_
    (try simp only [Act.put, sA, sB, sC])
    refine wpAnyH_done (by kernel_rfl) ?_ _
    go_wp2
    go_ret
    exact ⟨ret_bool (by rw [HP.out, ← HM2.out]), hE0.trans (hB.trans hE1)⟩
   | true =>
    rw [hhw] at hin
    have HIN := hid hin
    have HHW := hid hhw
    clear hin hhw
    rcases Nat.eq_zero_or_pos k with hk0 | hk0
    ·
     subst hk0
     have HM2 := hid (show M.okL f (M.prv xs 1) (xs.drop 1) = M.okL f none xs by rw [← HM.out, hxd]; show _ = M.okL f none (x :: xs.drop 1); rw [show M.okL f none (x :: xs.drop 1) = (M.hasHour f x && (true && M.okL f (some x) (xs.drop 1))) from rfl, HHW.out, Bool.true_and, Bool.true_and]; unfold M.prv; rw [if_neg (by omega)]; show M.okL f (some (xs.getD 0 0)) _ = _; rw [HNX.out])
     clear hxd
     simp only [Nat.add_zero] at e0
     rw [show (((0 : Nat)) : Int) = 0 from rfl]
     have hn0 : (0 : Int) < n := by omega
     go_upto_region 4 with fail
     refine wp_region_held_drew (S := fun w' => (∀ o, w'.cell? ⟨w.heap.size, o, none⟩ = W1.cell? ⟨w.heap.size, o, none⟩) ∧ (∀ o, w'.cell? ⟨b, o, none⟩ = W1.cell? ⟨b, o, none⟩)) (by kernel_rfl) (⟨fun o => rfl, fun o => rfl⟩) (fun hHeld => ?_)
     refine tkH 0 (some 12) ?_
     (try simp only [Act.put, sA, sB, sC])
     refine tkH 1 (some 13) ?_
     (try simp only [Act.put, sA, sB, sC])
     refine tkH 2 (some 14) ?_
     (try simp only [Act.put, sA, sB, sC])
     refine tkH 3 (some 15) ?_
     (try simp only [Act.put, sA, sB, sC])
     refine tkH 4 (some 16) ?_
     (try simp only [Act.put, sA, sB, sC])
     refine tkH 5 (some 17) ?_
     (try simp only [Act.put, sA, sB, sC])
     refine wpAnyH_one (i := 6) rfl (by kernel_rfl) (by rfl) (fun K hK => ?_)
     go_simp
     refine (HIN.out _).mono ?_
     rintro e w1 ⟨rfl, hb1⟩
     have hE1 : Ev W1 w1 := Ev.trans (Ev.drew (Ev.refl _)) hb1
     refine hK.out _ _ (HSE.out _ hE1) (fun hHeld => ?_)
     clear hK K
     (try simp only [Act.put, List.setIfInBounds_toArray, List.set_cons_zero, List.set_cons_succ])
     refine tkH 7 (some 19) ?_
     (try simp only [Act.put, sA, sB, sC])
     refine tkH 8 (some 20) ?_
     (try simp only [Act.put, sA, sB, sC])
     refine tkH 9 (some 21) ?_
     (try simp only [Act.put, sA, sB, sC])
     refine tkH 10 (some 22) ?_
     (try simp only [Act.put, sA, sB, sC])
     refine tkH 11 (some 23) ?_
     (try simp only [Act.put, sA, sB, sC])
     refine wpAnyH_skip (i := 12) (some 24) rfl (by kernel_rfl) (by kernel_rfl) (by kernel_rfl) (fun _ _ _ h => h) (by rfl) (by assumption) ?_
     (try simp only [Act.put, List.setIfInBounds_toArray, List.set_cons_zero, List.set_cons_succ])
     refine wpAnyH_skip (i := 13) (some 25) rfl (by kernel_rfl) (by kernel_rfl) (by kernel_rfl) (fun _ _ _ h => h) (by rfl) (by assumption) ?_
     (try simp only [Act.put, List.setIfInBounds_toArray, List.set_cons_zero, List.set_cons_succ])
     refine wpAnyH_skip (i := 14) (some 26) rfl (by kernel_rfl) (by kernel_rfl) (by kernel_rfl) (fun _ _ _ h => h) (by rfl) (by assumption) ?_
     (try simp only [Act.put, List.setIfInBounds_toArray, List.set_cons_zero, List.set_cons_succ])
     refine wpAnyH_skip (i := 15) (some 27) rfl (by kernel_rfl) (by kernel_rfl) (by kernel_rfl) (fun _ _ _ h => h) (by rfl) (by assumption) ?_
     (try simp only [Act.put, List.setIfInBounds_toArray, List.set_cons_zero, List.set_cons_succ])
     refine wpAnyH_skip (i := 16) (some 28) rfl (by kernel_rfl) (by kernel_rfl) (by kernel_rfl) (fun _ _ _ h => h) (by rfl) (by assumption) ?_
     (try simp only [Act.put, List.setIfInBounds_toArray, List.set_cons_zero, List.set_cons_succ])
     refine wpAnyH_skip (i := 17) (some 29) rfl (by kernel_rfl) (by kernel_rfl) (by kernel_rfl) (fun _ _ _ h => h) (by rfl) (by assumption) ?_
     (try simp only [Act.put, List.setIfInBounds_toArray, List.set_cons_zero, List.set_cons_succ])
     refine wpAnyH_skip (i := 18) (some 30) rfl (by kernel_rfl) (by kernel_rfl) (by kernel_rfl) (fun _ _ _ h => h) (by rfl) (by assumption) ?_
     (try simp only [Act.put, List.setIfInBounds_toArray, List.set_cons_zero, List.set_cons_succ])
     refine wpAnyH_skip (i := 19) (some 31) rfl (by kernel_rfl) (by kernel_rfl) (by kernel_rfl) (fun _ _ _ h => h) (by rfl) (by assumption) ?_
     (try simp only [Act.put, List.setIfInBounds_toArray, List.set_cons_zero, List.set_cons_succ])
     refine wpAnyH_skip (i := 20) (some 32) rfl (by kernel_rfl) (by kernel_rfl) (by kernel_rfl) (fun _ _ _ h => h) (by rfl) (by assumption) ?_
     (try simp only [Act.put, List.setIfInBounds_toArray, List.set_cons_zero, List.set_cons_succ])
     refine wpAnyH_skip (i := 21) (some 33) rfl (by kernel_rfl) (by kernel_rfl) (by kernel_rfl) (fun _ _ _ h => h) (by rfl) (by assumption) ?_
     (try simp only [Act.put, List.setIfInBounds_toArray, List.set_cons_zero, List.set_cons_succ])
     refine tkH 22 (some 34) ?_
     (try simp only [Act.put, sA, sB, sC])
     refine tkH 23 (some 35) ?_
     (try simp only [Act.put, sA, sB, sC])
     refine wpAnyH_done (by kernel_rfl) ?_ _
     go_wp2
     exact ⟨⟨1, by go_num, by omega, hB.trans hE1, HM2⟩, by simp [intOf]; omega⟩
    ·
     obtain ⟨m, hm⟩ : ∃ m : Nat, (k : Int) - 1 = m := ⟨k - 1, by omega⟩
     obtain ⟨b2, off2, y, hbb, hb2, hy, _, e1⟩ := hs.int (hE0.trans hB) (show m < n by omega)
     obtain ⟨rfl, rfl⟩ : b = b2 ∧ off = off2 := by simpa using hbb
     have i1 : (k : Int) > 0 := by omega
     have i2 : (0 : Int) < k := by omega
     have s1 : IntKind.i64.wrap ((k : Int) - 1) = m := by rw [hm]; exact IntWalk.i64_in _ (by omega)
     have mp : m < n := by omega
     have HPV := hid (show M.prv xs k = some y by unfold M.prv; rw [if_neg (by omega), show k - 1 = m by omega, List.getD_eq_getElem?_getD, hy]; rfl)
     have HM2 := hid (show (decide (y < x) && M.okL f (some x) (xs.drop (k + 1))) = M.okL f none xs by rw [← HM.out, hxd, HPV.out, show M.okL f (some y) (x :: xs.drop (k + 1)) = (M.hasHour f x && (decide (y < x) && M.okL f (some x) (xs.drop (k + 1)))) from rfl, HHW.out, Bool.true_and])
     have HN2 := hid (show M.prv xs (k + 1) = some x by unfold M.prv; rw [if_neg (by omega), Nat.add_sub_cancel, HNX.out])
     clear hxd hbb hy hm
     by_cases hyx : y < x
     ·
      have t1 : decide (x ≤ y) = false := by simp; omega
      have t2 : ¬ (x ≤ y) := by omega
      have HM3 := hid (show M.okL f (M.prv xs (k + 1)) (xs.drop (k + 1)) = M.okL f none xs by rw [HN2.out, ← HM2.out]; simp [hyx])
      clear hyx
      go_upto_region 4 with fail
      refine wp_region_held_drew (S := fun w' => (∀ o, w'.cell? ⟨w.heap.size, o, none⟩ = W1.cell? ⟨w.heap.size, o, none⟩) ∧ (∀ o, w'.cell? ⟨b, o, none⟩ = W1.cell? ⟨b, o, none⟩)) (by kernel_rfl) (⟨fun o => rfl, fun o => rfl⟩) (fun hHeld => ?_)
      refine tkH 0 (some 12) ?_
      (try simp only [Act.put, sA, sB, sC])
      refine tkH 1 (some 13) ?_
      (try simp only [Act.put, sA, sB, sC])
      refine tkH 2 (some 14) ?_
      (try simp only [Act.put, sA, sB, sC])
      refine tkH 3 (some 15) ?_
      (try simp only [Act.put, sA, sB, sC])
      refine tkH 4 (some 16) ?_
      (try simp only [Act.put, sA, sB, sC])
      refine tkH 5 (some 17) ?_
      (try simp only [Act.put, sA, sB, sC])
      refine wpAnyH_one (i := 6) rfl (by kernel_rfl) (by rfl) (fun K hK => ?_)
      go_simp
      refine (HIN.out _).mono ?_
      rintro e w1 ⟨rfl, hb1⟩
      have hE1 : Ev W1 w1 := Ev.trans (Ev.drew (Ev.refl _)) hb1
      refine hK.out _ _ (HSE.out _ hE1) (fun hHeld => ?_)
      clear hK K
      (try simp only [Act.put, List.setIfInBounds_toArray, List.set_cons_zero, List.set_cons_succ])
      refine tkH 7 (some 19) ?_
      (try simp only [Act.put, sA, sB, sC])
      refine tkH 8 (some 20) ?_
      (try simp only [Act.put, sA, sB, sC])
      refine tkH 9 (some 21) ?_
      (try simp only [Act.put, sA, sB, sC])
      refine tkH 10 (some 22) ?_
      (try simp only [Act.put, sA, sB, sC])
      refine tkH 11 (some 23) ?_
      (try simp only [Act.put, sA, sB, sC])
      refine tkH 12 (some 24) ?_
      (try simp only [Act.put, sA, sB, sC])
      refine tkH 13 (some 25) ?_
      (try simp only [Act.put, sA, sB, sC])
      refine tkH 14 (some 26) ?_
      (try simp only [Act.put, sA, sB, sC])
      refine tkH 15 (some 27) ?_
      (try simp only [Act.put, sA, sB, sC])
      refine tkH 16 (some 28) ?_
      (try simp only [Act.put, sA, sB, sC])
      refine tkH 17 (some 29) ?_
      (try simp only [Act.put, sA, sB, sC])
      refine tkH 18 (some 30) ?_
      (try simp only [Act.put, sA, sB, sC])
      refine tkH 19 (some 31) ?_
      (try simp only [Act.put, sA, sB, sC])
      refine tkH 20 (some 32) ?_
      (try simp only [Act.put, sA, sB, sC])
      refine tkH 21 (some 33) ?_
      (try simp only [Act.put, sA, sB, sC])
      refine tkH 22 (some 34) ?_
      (try simp only [Act.put, sA, sB, sC])
      refine tkH 23 (some 35) ?_
      (try simp only [Act.put, sA, sB, sC])
      refine wpAnyH_done (by kernel_rfl) ?_ _
      go_wp2
      exact ⟨⟨k + 1, by go_num, by omega, hB.trans hE1, HM3⟩, by simp [intOf]; omega⟩
     ·
      have t1 : decide (x ≤ y) = true := by simp; omega
      have t2 : x ≤ y := by omega
      have HM3 := hid (show false = M.okL f none xs by rw [← HM2.out]; simp [hyx])
      clear hyx
      go_upto_region 4 with fail
      refine wp_region_held_drew (S := fun w' => (∀ o, w'.cell? ⟨w.heap.size, o, none⟩ = W1.cell? ⟨w.heap.size, o, none⟩) ∧ (∀ o, w'.cell? ⟨b, o, none⟩ = W1.cell? ⟨b, o, none⟩)) (by kernel_rfl) (⟨fun o => rfl, fun o => rfl⟩) (fun hHeld => ?_)
      refine tkH 0 (some 12) ?_
      (try simp only [Act.put, sA, sB, sC])
      refine tkH 1 (some 13) ?_
      (try simp only [Act.put, sA, sB, sC])
      refine tkH 2 (some 14) ?_
      (try simp only [Act.put, sA, sB, sC])
      refine tkH 3 (some 15) ?_
      (try simp only [Act.put, sA, sB, sC])
      refine tkH 4 (some 16) ?_
      (try simp only [Act.put, sA, sB, sC])
      refine tkH 5 (some 17) ?_
      (try simp only [Act.put, sA, sB, sC])
      refine wpAnyH_one (i := 6) rfl (by kernel_rfl) (by rfl) (fun K hK => ?_)
      go_simp
      refine (HIN.out _).mono ?_
      rintro e w1 ⟨rfl, hb1⟩
      have hE1 : Ev W1 w1 := Ev.trans (Ev.drew (Ev.refl _)) hb1
      refine hK.out _ _ (HSE.out _ hE1) (fun hHeld => ?_)
      clear hK K
      (try simp only [Act.put, List.setIfInBounds_toArray, List.set_cons_zero, List.set_cons_succ])
      refine tkH 7 (some 19) ?_
      (try simp only [Act.put, sA, sB, sC])
      refine tkH 8 (some 20) ?_
      (try simp only [Act.put, sA, sB, sC])
      refine tkH 9 (some 21) ?_
      (try simp only [Act.put, sA, sB, sC])
      refine tkH 10 (some 22) ?_
      (try simp only [Act.put, sA, sB, sC])
      refine tkH 11 (some 23) ?_
      (try simp only [Act.put, sA, sB, sC])
      refine tkH 12 (some 24) ?_
      (try simp only [Act.put, sA, sB, sC])
      refine tkH 13 (some 25) ?_
      (try simp only [Act.put, sA, sB, sC])
      refine tkH 14 (some 26) ?_
      (try simp only [Act.put, sA, sB, sC])
      refine tkH 15 (some 27) ?_
      (try simp only [Act.put, sA, sB, sC])
      refine tkH 16 (some 28) ?_
      (try simp only [Act.put, sA, sB, sC])
      refine tkH 17 (some 29) ?_
      (try simp only [Act.put, sA, sB, sC])
      refine tkH 18 (some 30) ?_
      (try simp only [Act.put, sA, sB, sC])
      refine tkH 19 (some 31) ?_
      (try simp only [Act.put, sA, sB, sC])
      refine tkH 20 (some 32) ?_
      (try simp only [Act.put, sA, sB, sC])
      refine tkH 21 (some 33) ?_
      (try simp only [Act.put, sA, sB, sC])
      refine tkH 22 (some 34) ?_
      (try simp only [Act.put, sA, sB, sC])
      refine tkH 23 (some 35) ?_
      (try simp only [Act.put, sA, sB, sC])
      refine wpAnyH_done (by kernel_rfl) ?_ _
      go_wp2
      go_ret
      exact ⟨ret_bool (by rw [HP.out, ← HM3.out]), hE0.trans (hB.trans hE1)⟩
  ·
   obtain rfl : k = n := by omega
   have HM2 := hid (show true = M.okL f none xs by rw [← HM.out, hs.done (by omega)]; rfl)
   go_wp2
   go_ret
   exact ⟨ret_bool (by rw [HP.out, ← HM2.out]), hE0.trans hB⟩

/-- How many truths there are without readings, up to 3000. -/
def M.manyK : List M.Rg → Int → Int
 | [], n => n
 | r :: rs, n => M.manyK rs (min 3000 (n * (r.hi - r.lo + 1)))
def M.many (f : M.Cf) : Int := M.manyK f.wet (f.st.hi - f.st.lo + 1)
theorem M.manyK_max : ∀ (l : List M.Rg) (n : Int), (∀ r ∈ l, r.lo ≤ r.hi) → 2000 < n → 2000 < M.manyK l n
 | [], n, _, h => h
 | r :: rs, n, hl, h => by
  have hr := hl r (by simp)
  have := Int.mul_le_mul (show (2001 : Int) ≤ n by omega) (show (1 : Int) ≤ r.hi - r.lo + 1 by omega) (by omega) (by omega)
  unfold M.manyK
  exact M.manyK_max rs _ (fun x hx => hl x (by simp [hx])) (by omega)
theorem M.many_tooK : ∀ (l : List M.Rg) (n : Int), (∀ r ∈ l, r.lo ≤ r.hi) → n ≤ 2000 → (M.tooMany l n = true ↔ 2000 < M.manyK l n)
 | [], n, _, h => by unfold M.tooMany M.manyK; simp; omega
 | r :: rs, n, hl, h => by
  unfold M.tooMany M.manyK
  generalize hq : n * (r.hi - r.lo + 1) = q
  by_cases hb : 2000 < q
  ·
   rw [if_pos hb]
   have := M.manyK_max rs (min 3000 q) (fun x hx => hl x (by simp [hx])) (by omega)
   simp [this]
  ·
   rw [if_neg hb, M.many_tooK rs _ (fun x hx => hl x (by simp [hx])) (by omega), show min 3000 q = q by omega]
theorem M.many_too (f : M.Cf) (hst : f.st.lo ≤ f.st.hi) (hs2 : f.st.hi - f.st.lo ≤ 500) (hl : ∀ r ∈ f.wet, r.lo ≤ r.hi) : M.tooMany (M.ranges f) 1 = true ↔ 2000 < M.many f := by
 unfold M.ranges M.many M.tooMany
 rw [Int.one_mul, if_neg (by omega)]
 exact M.many_tooK f.wet _ hl (by omega)

set_option maxRecDepth 100000 in
set_option maxHeartbeats 2000000 in
theorem Many_c (f : M.Cf) (Aw At Ar : Option Addr) (nw cw nt ct nr cr : Nat) (hst : 0 ≤ f.st.lo ∧ f.st.lo ≤ f.st.hi ∧ f.st.hi ≤ 500) (hg : ∀ r ∈ f.wet, 0 ≤ r.lo ∧ r.lo ≤ r.hi ∧ r.hi ≤ 20) (w : World) (hs : CS w w.heap.size f Aw At Ar nw cw nt ct nr cr) :
  Calls Try.prog 57 #[.agg #[.int .i64 f.last, .int .i64 f.size, .int .i64 f.cool, .int .i64 f.die, .int .i64 f.burn, .int .i64 f.st.lo, .int .i64 f.st.hi, .slice Aw nw cw, .slice At nt ct, .slice Ar nr cr]] w fun e w' => e = .returned (.int .i64 (M.many f)) ∧ Ev w w' := by
 have hsm := hs.w_.small
 have HG := hid hg
 have HS0 := hid (fun W => Size_c f.st hst.1 hst.2.1 hst.2.2 W)
 have HM0 := hid (show M.manyK f.wet (f.st.hi - f.st.lo + 1) = M.many f from rfl)
 have hs1 : 1 ≤ f.st.hi - f.st.lo + 1 := by omega
 have hs2 : f.st.hi - f.st.lo + 1 ≤ 3000 := by omega
 generalize f.st.hi - f.st.lo + 1 = sz at HS0 HM0 hs1 hs2
 have HQ := hid (alloc1 w (.cells #[.int .i64 f.last, .int .i64 f.size, .int .i64 f.cool, .int .i64 f.die, .int .i64 f.burn, .int .i64 f.st.lo, .int .i64 f.st.hi, .slice Aw nw cw, .slice At nt ct, .slice Ar nr cr] 28)).1
 obtain ⟨y0, y1, y2, y3, y4, y5, y6, y7, y8, y9⟩ := cells10 HQ.out
 clear hg
 go_enter Try.func57, Try.ntmps57
 go_wp2_with (go_at_call 86; with_reducible refine (HS0.out _).mono ?_; rintro e W0 ⟨rfl, hb0⟩)
 have hE0 : Ev w W0 := Ev.trans (Ev.alloc (Ev.refl _) _) hb0
 have Q0 := hid (hb0.heap HQ.out)
 clear y0 y1 y2 y3 y4 y5 y6 y7 y8 y9
 go_loopw [3, 4] (fun a i wr => ∃ (k : Nat) (n : Int), i = .int .i64 k ∧ a = .int .i64 n ∧ k ≤ nw ∧ 1 ≤ n ∧ n ≤ 3000 ∧ Ev W0 wr ∧ Hid (M.manyK (f.wet.drop k) n = M.many f)) (fun _ i _ => nw - (intOf i).toNat)
 case atStart => exact ⟨0, sz, rfl, rfl, by omega, hs1, hs2, Ev.refl _, HM0⟩
 case round =>
  obtain ⟨k, n, rfl, rfl, hk, hn1, hn2, hB, HM⟩ := hrel
  have q1 := hB.heap Q0.out
  obtain ⟨y0, y1, y2, y3, y4, y5, y6, y7, y8, y9⟩ := cells10 q1
  have l0 := heap_lt q1
  clear q1
  by_cases hlt : k < nw
  ·
   obtain ⟨b, off, r, rfl, hb, hx, hxd, hcc⟩ := hs.w_.at_ (hE0.trans hB) hlt
   have e0 := hcc 0 _ rfl
   have e1 := hcc 1 _ rfl
   simp only [Nat.add_zero] at e0
   have hcap := hs.w_.cap
   have hr := HG.out r (List.mem_of_getElem? hx)
   have HSZ := hid (fun W => Size_c r hr.1 hr.2.1 (by omega) W)
   have HM1 := hid (show M.manyK (f.wet.drop (k + 1)) (min 3000 (n * (r.hi - r.lo + 1))) = M.many f by rw [← HM.out, hxd]; rfl)
   have hz1 : 1 ≤ r.hi - r.lo + 1 := by omega
   have hz2 : r.hi - r.lo + 1 ≤ 21 := by omega
   generalize r.hi - r.lo + 1 = z at HSZ HM1 hz1 hz2
   have p1 : 1 ≤ n * z := by have := Int.mul_le_mul hn1 hz1 (by omega) (by omega); omega
   have p2 : n * z ≤ 63000 := by have := Int.mul_le_mul hn2 hz2 (by omega) (by omega); omega
   have g1 : IntKind.i64.wrap (n * z) = n * z := IntWalk.i64_in _ (by omega)
   generalize hq1 : n * z = q at HM1 p1 p2 g1
   clear hx hxd hcc hr
   by_cases hmn : 3000 ≤ q
   ·
    have HM2 := hid (show M.manyK (f.wet.drop (k + 1)) 3000 = M.many f by rw [← HM1.out]; congr 1; omega)
    have hmn0 : ¬ (q < 3000) := by omega
    have hmn1 : min 3000 q = 3000 := by omega
    go_wp2_with (go_at_call 86; with_reducible refine (HSZ.out _).mono ?_; rintro e w1 ⟨rfl, hb1⟩)
    all_goals exact ⟨⟨k + 1, 3000, by go_num, by first | rfl | (simp; done) | (simp; omega), by omega, by omega, by omega, hB.trans hb1, HM2⟩, by simp [intOf]; omega⟩
   ·
    have HM2 := hid (show M.manyK (f.wet.drop (k + 1)) q = M.many f by rw [← HM1.out]; congr 1; omega)
    have hmn0 : q < 3000 := by omega
    have hmn1 : min 3000 q = q := by omega
    go_wp2_with (go_at_call 86; with_reducible refine (HSZ.out _).mono ?_; rintro e w1 ⟨rfl, hb1⟩)
    all_goals exact ⟨⟨k + 1, q, by go_num, by first | rfl | (simp; done) | (simp; omega), by omega, by omega, by omega, hB.trans hb1, HM2⟩, by simp [intOf]; omega⟩
  ·
   have HM2 := hid (show n = M.many f by rw [← HM.out, hs.w_.done hlt]; rfl)
   go_wp2
   go_ret
   exact ⟨ret_int HM2.out, hE0.trans hB⟩

end Go.Proofs.Ytgimcephbeajlaa
