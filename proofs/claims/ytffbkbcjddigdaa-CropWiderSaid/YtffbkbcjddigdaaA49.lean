import Derived.Test.YtffbkbcjddigdaaA46
import Derived.Deep.DeepCutAuto
set_option linter.unusedSimpArgs false
set_option linter.unusedVariables false
namespace Go.Proofs.Ytffbkbcjddigdaa
open Go.RowKit Go.Shelf

theorem own_set9 {w : World} {base : Nat} {e t : TypeId} {size : Nat} {v : Value} {n : Nat} {xs : List Value} {b : Nat} {cs : Array Value} {v0 v1 v2 v3 v4 v5 v6 v7 v8 : Value} (h : w.ownsRow base e size v n xs) (hb : w.heap[b]? = some (.cells cs t (0, 0))) (ht : t ≠ e) :
  (((((((((w.setCell ⟨b, 0, none⟩ v0).setCell ⟨b, 1, none⟩ v1).setCell ⟨b, 2, none⟩ v2).setCell ⟨b, 3, none⟩ v3).setCell ⟨b, 4, none⟩ v4).setCell ⟨b, 5, none⟩ v5).setCell ⟨b, 6, none⟩ v6).setCell ⟨b, 7, none⟩ v7).setCell ⟨b, 8, none⟩ v8).ownsRow base e size v n xs := by
 have g1 := set_heap_same (j := 0) (v := v0) hb
 have r1 := own_set (j := 0) (u := v0) h hb ht
 have g2 := set_heap_same (j := 1) (v := v1) g1
 have r2 := own_set (j := 1) (u := v1) r1 g1 ht
 have g3 := set_heap_same (j := 2) (v := v2) g2
 have r3 := own_set (j := 2) (u := v2) r2 g2 ht
 have g4 := set_heap_same (j := 3) (v := v3) g3
 have r4 := own_set (j := 3) (u := v3) r3 g3 ht
 have g5 := set_heap_same (j := 4) (v := v4) g4
 have r5 := own_set (j := 4) (u := v4) r4 g4 ht
 have g6 := set_heap_same (j := 5) (v := v5) g5
 have r6 := own_set (j := 5) (u := v5) r5 g5 ht
 have g7 := set_heap_same (j := 6) (v := v6) g6
 have r7 := own_set (j := 6) (u := v6) r6 g6 ht
 have g8 := set_heap_same (j := 7) (v := v7) g7
 have r8 := own_set (j := 7) (u := v7) r7 g7 ht
 have g9 := set_heap_same (j := 8) (v := v8) g8
 have r9 := own_set (j := 8) (u := v8) r8 g8 ht
 exact r9
set_option maxRecDepth 100000 in
set_option maxHeartbeats 4000000 in
theorem Field_c (f : M.Cf) (Ag Aw Ab Ac Al : Option Addr) (ng cg nw cw nb cb nc cc nl cl : Nat) (hng : ng ≤ 1000) (hnw : nw ≤ 1000) (hnb : nb ≤ 1000) (hnc : nc ≤ 1000) (hnl : nl ≤ 1000) (w : World) (hs : CS w w.heap.size f Ag Aw Ab Ac Al ng cg nw cw nb cb nc cc nl cl) :
  Calls Try.prog 16 #[.agg #[.int .i64 f.last, .slice Ag ng cg, .slice Aw nw cw, .slice Ab nb cb, .slice Ac nc cc, .int .i64 f.ripe, .int .i64 f.late, .int .i64 f.trod, .slice Al nl cl]] w fun e w' => (∃ Bg dg Bw dw Bb db Bc dc Bl dl, e = .returned (.agg #[.int .i64 f.last, .slice Bg ng dg, .slice Bw nw dw, .slice Bb nb db, .slice Bc nc dc, .int .i64 f.ripe, .int .i64 f.late, .int .i64 f.trod, .slice Bl nl dl]) ∧ CS w' w'.heap.size f Bg Bw Bb Bc Bl ng dg nw dw nb db nc dc nl dl) ∧ Ev w w' := by
 obtain ⟨i0, hi0, hz0, hz1, hz2⟩ := info_parts info55
 obtain ⟨j0, hj0, hy0, hy1, hy2⟩ := info_parts infoLk
 go_enter Try.func16, Try.ntmps16
 go_upto_region 1 with fail
 generalize hW0 : World.alloc (World.alloc w _) _ = W0
 have hE0 : Ev w W0 := by rw [← hW0]; exact Ev.alloc (Ev.alloc (Ev.refl _) _) _
 have hal := alloc2 w (.cells #[.int .i64 f.last, .slice Ag ng cg, .slice Aw nw cw, .slice Ab nb cb, .slice Ac nc cc, .int .i64 f.ripe, .int .i64 f.late, .int .i64 f.trod, .slice Al nl cl] 26) (.cells #[.int .i64 0, .slice none 0 0, .slice none 0 0, .slice none 0 0, .slice none 0 0, .int .i64 0, .int .i64 0, .int .i64 0, .slice none 0 0] 38)
 rw [hW0] at hal
 have Q0 := hid hal.1
 have Q1 := hid hal.2.1
 have hzl : w.heap.size + 2 ≤ W0.heap.size := by rw [hal.2.2]; exact Nat.le_refl _
 clear hal hW0
 obtain ⟨q0, q1, q2, q3, q4, q5, q6, q7, q8⟩ := cells9 Q0.out
 have l0 := heap_lt Q0.out
 have HSE : Hid (∀ w', Ev W0 w' → (∀ o, w'.cell? ⟨w.heap.size, o, none⟩ = W0.cell? ⟨w.heap.size, o, none⟩)) := hid (fun w' h => fun o => h.cells.1 _ o l0)
 go_cut [3] (fun v W1 => ∃ (p : Nat) (L1 : Option Addr) (d1 : Nat) (L2 : Option Addr) (d2 : Nat) (L3 : Option Addr) (d3 : Nat), v = .pointer (some ⟨p, 0, none⟩) ∧ Ev W0 W1 ∧ W0.heap.size ≤ p ∧ Hid (W1.heap[p]? = some (.cells #[.int .i64 f.last, .slice none 0 0, .slice L1 nw d1, .slice L2 nb d2, .slice L3 nc d3, .int .i64 f.ripe, .int .i64 f.late, .int .i64 f.trod, .slice none 0 0] 38 (0, 0))) ∧ Hid (W1.ownsRow W0.heap.size 3 1 (.slice L1 nw d1) nw (f.wet.flatMap ics)) ∧ Hid (W1.ownsRow W0.heap.size 3 1 (.slice L2 nb d2) nb (f.base.flatMap ics)) ∧ Hid (W1.ownsRow W0.heap.size 3 1 (.slice L3 nc d3) nc (f.crops.flatMap ics)))
 case first =>
  refine wp_region_held_drew (S := fun w' => (∀ o, w'.cell? ⟨w.heap.size, o, none⟩ = W0.cell? ⟨w.heap.size, o, none⟩)) (by kernel_rfl) (fun o => rfl) (fun hHeld => ?_)
  refine tkH 0 (some 6) ?_
  (try simp only [Act.put, sA, sB, sC])
  refine tkH 1 (some 7) ?_
  (try simp only [Act.put, sA, sB, sC])
  refine tkH 2 (some 8) ?_
  (try simp only [Act.put, sA, sB, sC])
  refine tkH 3 (some 9) ?_
  (try simp only [Act.put, sA, sB, sC])
  refine tkH 5 (some 11) ?_
  (try simp only [Act.put, sA, sB, sC])
  refine tkH 6 (some 12) ?_
  (try simp only [Act.put, sA, sB, sC])
  refine tkH 8 (some 14) ?_
  (try simp only [Act.put, sA, sB, sC])
  refine tkH 9 (some 15) ?_
  (try simp only [Act.put, sA, sB, sC])
  refine tkH 11 (some 17) ?_
  (try simp only [Act.put, sA, sB, sC])
  refine tkH 12 (some 18) ?_
  (try simp only [Act.put, sA, sB, sC])
  refine tkH 13 (some 19) ?_
  (try simp only [Act.put, sA, sB, sC])
  refine tkH 14 (some 20) ?_
  (try simp only [Act.put, sA, sB, sC])
  refine tkH 15 (some 21) ?_
  (try simp only [Act.put, sA, sB, sC])
  refine tkH 16 (some 22) ?_
  (try simp only [Act.put, sA, sB, sC])
  refine wpAnyH_ready (rs := [4, 18]) (by kernel_rfl) (by simp) ?_
  refine AllReadyH.cons rfl (fun K hK => ?_) (AllReadyH.cons rfl (fun K hK => ?_) (AllReadyH.nil))
  ·
   go_simp
   refine (list_c _ _ _ f.wet (by omega) _ (hs.w_.ev (hE0.trans (Ev.drew (Ev.refl _))))).mono ?_
   rintro e x1 ⟨⟨L1, d1, rfl, ho1⟩, hb1⟩
   have hx1 : Ev W0 x1 := Ev.trans (Ev.drew (Ev.refl _)) hb1
   have hz1 := (show Ev W0 _ from (Ev.drew (Ev.refl _))).size
   refine hK.out _ _ (HSE.out _ hx1) (fun hHeld => ?_)
   clear hK K
   (try simp only [Act.put, List.setIfInBounds_toArray, List.set_cons_zero, List.set_cons_succ])
   refine wpAnyH_ready (rs := [7, 18]) (by kernel_rfl) (by simp) ?_
   refine AllReadyH.cons rfl (fun K hK => ?_) (AllReadyH.cons rfl (fun K hK => ?_) (AllReadyH.nil))
   ·
    go_simp
    refine (list_c _ _ _ f.base (by omega) _ (hs.b.ev (hE0.trans hx1))).mono ?_
    rintro e x2 ⟨⟨L2, d2, rfl, ho2⟩, hb2⟩
    have hx2 : Ev W0 x2 := Ev.trans hx1 hb2
    have hz2 := (show Ev W0 _ from hx1).size
    refine hK.out _ _ (HSE.out _ hx2) (fun hHeld => ?_)
    clear hK K
    (try simp only [Act.put, List.setIfInBounds_toArray, List.set_cons_zero, List.set_cons_succ])
    refine wpAnyH_ready (rs := [10, 18]) (by kernel_rfl) (by simp) ?_
    refine AllReadyH.cons rfl (fun K hK => ?_) (AllReadyH.cons rfl (fun K hK => ?_) (AllReadyH.nil))
    ·
     go_simp
     refine (list_c _ _ _ f.crops (by omega) _ (hs.c.ev (hE0.trans hx2))).mono ?_
     rintro e x3 ⟨⟨L3, d3, rfl, ho3⟩, hb3⟩
     have hx3 : Ev W0 x3 := Ev.trans hx2 hb3
     have hz3 := (show Ev W0 _ from hx2).size
     refine hK.out _ _ (HSE.out _ hx3) (fun hHeld => ?_)
     clear hK K
     (try simp only [Act.put, List.setIfInBounds_toArray, List.set_cons_zero, List.set_cons_succ])
     refine tkH 17 (some 23) ?_
     (try simp only [Act.put, sA, sB, sC])
     refine wpAnyH_one (i := 18) rfl (by kernel_rfl) (by rfl) (fun K hK => ?_)
     go_simp
     generalize hWA : World.alloc x3 _ = WA
     have hal := alloc1 x3 (.cells #[.int .i64 0, .slice none 0 0, .slice none 0 0, .slice none 0 0, .slice none 0 0, .int .i64 0, .int .i64 0, .int .i64 0, .slice none 0 0] 38)
     have hbA : Ev x3 WA := by rw [← hWA]; exact Ev.alloc (Ev.refl _) _
     have hqA := hal.1
     rw [hWA] at hqA
     have hxA : Ev W0 WA := hx3.trans hbA
     have hpz : W0.heap.size ≤ x3.heap.size := hx3.size
     clear hal hWA
     refine hK.out _ _ (HSE.out _ hxA) (fun hHeld => ?_)
     clear hK K
     (try simp only [Act.put, List.setIfInBounds_toArray, List.set_cons_zero, List.set_cons_succ])
     refine wpAnyH_one (i := 19) rfl (by kernel_rfl) (by rfl) (fun K hK => ?_)
     have hq9 := hqA
     obtain ⟨z0, z1, z2, z3, z4, z5, z6, z7, z8⟩ := cells9 hq9
     obtain ⟨f0, f1, f2, f3, f4, f5, f6, f7, f8⟩ := frz9 hq9
     have HQ9 := hid hq9
     have hne : w.heap.size ≠ x3.heap.size := by omega
     clear hq9
     go_simp
     refine hK.out _ _ (fun o => (cell_set_ne hne).trans ((cell_set_ne hne).trans ((cell_set_ne hne).trans ((cell_set_ne hne).trans ((cell_set_ne hne).trans ((cell_set_ne hne).trans ((cell_set_ne hne).trans ((cell_set_ne hne).trans ((cell_set_ne hne).trans (HSE.out _ hxA o)))))))))) (fun hHeld => ?_)
     clear hK K
     (try simp only [Act.put, List.setIfInBounds_toArray, List.set_cons_zero, List.set_cons_succ])
     refine wpAnyH_done (by kernel_rfl) ?_ _
     go_wp2_with fail
     go_meet
     refine ⟨x3.heap.size, L1, d1, L2, d2, L3, d3, rfl, ?_, hpz, hid (set9 HQ9.out), hid (own_set9 (own_base (((ho1.ev hb2).ev hb3).ev hbA) hz1) HQ9.out (by decide)), hid (own_set9 (own_base ((ho2.ev hb3).ev hbA) hz2) HQ9.out (by decide)), hid (own_set9 (own_base (ho3.ev hbA) hz3) HQ9.out (by decide))⟩
     exact Ev.setCell (Ev.setCell (Ev.setCell (Ev.setCell (Ev.setCell (Ev.setCell (Ev.setCell (Ev.setCell (Ev.setCell hxA hpz _) hpz _) hpz _) hpz _) hpz _) hpz _) hpz _) hpz _) hpz _
    ·
     go_simp
     generalize hWA : World.alloc x2 _ = WA
     have hal := alloc1 x2 (.cells #[.int .i64 0, .slice none 0 0, .slice none 0 0, .slice none 0 0, .slice none 0 0, .int .i64 0, .int .i64 0, .int .i64 0, .slice none 0 0] 38)
     have hbA : Ev x2 WA := by rw [← hWA]; exact Ev.alloc (Ev.refl _) _
     have hqA := hal.1
     rw [hWA] at hqA
     have hxA : Ev W0 WA := hx2.trans hbA
     have hpz : W0.heap.size ≤ x2.heap.size := hx2.size
     clear hal hWA
     refine hK.out _ _ (HSE.out _ hxA) (fun hHeld => ?_)
     clear hK K
     (try simp only [Act.put, List.setIfInBounds_toArray, List.set_cons_zero, List.set_cons_succ])
     refine wpAnyH_one (i := 10) rfl (by kernel_rfl) (by rfl) (fun K hK => ?_)
     go_simp
     refine (list_c _ _ _ f.crops (by omega) _ (hs.c.ev (hE0.trans hxA))).mono ?_
     rintro e x3 ⟨⟨L3, d3, rfl, ho3⟩, hb3⟩
     have hx3 : Ev W0 x3 := Ev.trans hxA hb3
     have hz3 := (show Ev W0 _ from hxA).size
     refine hK.out _ _ (HSE.out _ hx3) (fun hHeld => ?_)
     clear hK K
     (try simp only [Act.put, List.setIfInBounds_toArray, List.set_cons_zero, List.set_cons_succ])
     refine tkH 17 (some 23) ?_
     (try simp only [Act.put, sA, sB, sC])
     refine wpAnyH_one (i := 19) rfl (by kernel_rfl) (by rfl) (fun K hK => ?_)
     have hq9 := (hb3.heap hqA)
     obtain ⟨z0, z1, z2, z3, z4, z5, z6, z7, z8⟩ := cells9 hq9
     obtain ⟨f0, f1, f2, f3, f4, f5, f6, f7, f8⟩ := frz9 hq9
     have HQ9 := hid hq9
     have hne : w.heap.size ≠ x2.heap.size := by omega
     clear hq9
     go_simp
     refine hK.out _ _ (fun o => (cell_set_ne hne).trans ((cell_set_ne hne).trans ((cell_set_ne hne).trans ((cell_set_ne hne).trans ((cell_set_ne hne).trans ((cell_set_ne hne).trans ((cell_set_ne hne).trans ((cell_set_ne hne).trans ((cell_set_ne hne).trans (HSE.out _ hx3 o)))))))))) (fun hHeld => ?_)
     clear hK K
     (try simp only [Act.put, List.setIfInBounds_toArray, List.set_cons_zero, List.set_cons_succ])
     refine wpAnyH_done (by kernel_rfl) ?_ _
     go_wp2_with fail
     go_meet
     refine ⟨x2.heap.size, L1, d1, L2, d2, L3, d3, rfl, ?_, hpz, hid (set9 HQ9.out), hid (own_set9 (own_base (((ho1.ev hb2).ev hbA).ev hb3) hz1) HQ9.out (by decide)), hid (own_set9 (own_base ((ho2.ev hbA).ev hb3) hz2) HQ9.out (by decide)), hid (own_set9 (own_base ho3 hz3) HQ9.out (by decide))⟩
     exact Ev.setCell (Ev.setCell (Ev.setCell (Ev.setCell (Ev.setCell (Ev.setCell (Ev.setCell (Ev.setCell (Ev.setCell hx3 hpz _) hpz _) hpz _) hpz _) hpz _) hpz _) hpz _) hpz _) hpz _
   ·
    go_simp
    generalize hWA : World.alloc x1 _ = WA
    have hal := alloc1 x1 (.cells #[.int .i64 0, .slice none 0 0, .slice none 0 0, .slice none 0 0, .slice none 0 0, .int .i64 0, .int .i64 0, .int .i64 0, .slice none 0 0] 38)
    have hbA : Ev x1 WA := by rw [← hWA]; exact Ev.alloc (Ev.refl _) _
    have hqA := hal.1
    rw [hWA] at hqA
    have hxA : Ev W0 WA := hx1.trans hbA
    have hpz : W0.heap.size ≤ x1.heap.size := hx1.size
    clear hal hWA
    refine hK.out _ _ (HSE.out _ hxA) (fun hHeld => ?_)
    clear hK K
    (try simp only [Act.put, List.setIfInBounds_toArray, List.set_cons_zero, List.set_cons_succ])
    refine wpAnyH_one (i := 7) rfl (by kernel_rfl) (by rfl) (fun K hK => ?_)
    go_simp
    refine (list_c _ _ _ f.base (by omega) _ (hs.b.ev (hE0.trans hxA))).mono ?_
    rintro e x2 ⟨⟨L2, d2, rfl, ho2⟩, hb2⟩
    have hx2 : Ev W0 x2 := Ev.trans hxA hb2
    have hz2 := (show Ev W0 _ from hxA).size
    refine hK.out _ _ (HSE.out _ hx2) (fun hHeld => ?_)
    clear hK K
    (try simp only [Act.put, List.setIfInBounds_toArray, List.set_cons_zero, List.set_cons_succ])
    refine wpAnyH_one (i := 10) rfl (by kernel_rfl) (by rfl) (fun K hK => ?_)
    go_simp
    refine (list_c _ _ _ f.crops (by omega) _ (hs.c.ev (hE0.trans hx2))).mono ?_
    rintro e x3 ⟨⟨L3, d3, rfl, ho3⟩, hb3⟩
    have hx3 : Ev W0 x3 := Ev.trans hx2 hb3
    have hz3 := (show Ev W0 _ from hx2).size
    refine hK.out _ _ (HSE.out _ hx3) (fun hHeld => ?_)
    clear hK K
    (try simp only [Act.put, List.setIfInBounds_toArray, List.set_cons_zero, List.set_cons_succ])
    refine tkH 17 (some 23) ?_
    (try simp only [Act.put, sA, sB, sC])
    refine wpAnyH_one (i := 19) rfl (by kernel_rfl) (by rfl) (fun K hK => ?_)
    have hq9 := (hb3.heap (hb2.heap hqA))
    obtain ⟨z0, z1, z2, z3, z4, z5, z6, z7, z8⟩ := cells9 hq9
    obtain ⟨f0, f1, f2, f3, f4, f5, f6, f7, f8⟩ := frz9 hq9
    have HQ9 := hid hq9
    have hne : w.heap.size ≠ x1.heap.size := by omega
    clear hq9
    go_simp
    refine hK.out _ _ (fun o => (cell_set_ne hne).trans ((cell_set_ne hne).trans ((cell_set_ne hne).trans ((cell_set_ne hne).trans ((cell_set_ne hne).trans ((cell_set_ne hne).trans ((cell_set_ne hne).trans ((cell_set_ne hne).trans ((cell_set_ne hne).trans (HSE.out _ hx3 o)))))))))) (fun hHeld => ?_)
    clear hK K
    (try simp only [Act.put, List.setIfInBounds_toArray, List.set_cons_zero, List.set_cons_succ])
    refine wpAnyH_done (by kernel_rfl) ?_ _
    go_wp2_with fail
    go_meet
    refine ⟨x1.heap.size, L1, d1, L2, d2, L3, d3, rfl, ?_, hpz, hid (set9 HQ9.out), hid (own_set9 (own_base (((ho1.ev hbA).ev hb2).ev hb3) hz1) HQ9.out (by decide)), hid (own_set9 (own_base (ho2.ev hb3) hz2) HQ9.out (by decide)), hid (own_set9 (own_base ho3 hz3) HQ9.out (by decide))⟩
    exact Ev.setCell (Ev.setCell (Ev.setCell (Ev.setCell (Ev.setCell (Ev.setCell (Ev.setCell (Ev.setCell (Ev.setCell hx3 hpz _) hpz _) hpz _) hpz _) hpz _) hpz _) hpz _) hpz _) hpz _
  ·
   go_simp
   generalize hWA : World.drew (World.alloc W0 _) = WA
   have hal := alloc1 W0 (.cells #[.int .i64 0, .slice none 0 0, .slice none 0 0, .slice none 0 0, .slice none 0 0, .int .i64 0, .int .i64 0, .int .i64 0, .slice none 0 0] 38)
   have hbA : Ev W0 WA := by rw [← hWA]; exact Ev.drew (Ev.alloc (Ev.refl _) _)
   have hqA := (show Ev (World.alloc W0 (.cells #[.int .i64 0, .slice none 0 0, .slice none 0 0, .slice none 0 0, .slice none 0 0, .int .i64 0, .int .i64 0, .int .i64 0, .slice none 0 0] 38)) WA from by rw [← hWA]; exact Ev.drew (Ev.refl _)).heap hal.1
   have hxA : Ev W0 WA := hbA
   have hpz : W0.heap.size ≤ W0.heap.size := Nat.le_refl _
   clear hal hWA
   refine hK.out _ _ (HSE.out _ hxA) (fun hHeld => ?_)
   clear hK K
   (try simp only [Act.put, List.setIfInBounds_toArray, List.set_cons_zero, List.set_cons_succ])
   refine wpAnyH_one (i := 4) rfl (by kernel_rfl) (by rfl) (fun K hK => ?_)
   go_simp
   refine (list_c _ _ _ f.wet (by omega) _ (hs.w_.ev (hE0.trans hxA))).mono ?_
   rintro e x1 ⟨⟨L1, d1, rfl, ho1⟩, hb1⟩
   have hx1 : Ev W0 x1 := Ev.trans hxA hb1
   have hz1 := (show Ev W0 _ from hxA).size
   refine hK.out _ _ (HSE.out _ hx1) (fun hHeld => ?_)
   clear hK K
   (try simp only [Act.put, List.setIfInBounds_toArray, List.set_cons_zero, List.set_cons_succ])
   refine wpAnyH_one (i := 7) rfl (by kernel_rfl) (by rfl) (fun K hK => ?_)
   go_simp
   refine (list_c _ _ _ f.base (by omega) _ (hs.b.ev (hE0.trans hx1))).mono ?_
   rintro e x2 ⟨⟨L2, d2, rfl, ho2⟩, hb2⟩
   have hx2 : Ev W0 x2 := Ev.trans hx1 hb2
   have hz2 := (show Ev W0 _ from hx1).size
   refine hK.out _ _ (HSE.out _ hx2) (fun hHeld => ?_)
   clear hK K
   (try simp only [Act.put, List.setIfInBounds_toArray, List.set_cons_zero, List.set_cons_succ])
   refine wpAnyH_one (i := 10) rfl (by kernel_rfl) (by rfl) (fun K hK => ?_)
   go_simp
   refine (list_c _ _ _ f.crops (by omega) _ (hs.c.ev (hE0.trans hx2))).mono ?_
   rintro e x3 ⟨⟨L3, d3, rfl, ho3⟩, hb3⟩
   have hx3 : Ev W0 x3 := Ev.trans hx2 hb3
   have hz3 := (show Ev W0 _ from hx2).size
   refine hK.out _ _ (HSE.out _ hx3) (fun hHeld => ?_)
   clear hK K
   (try simp only [Act.put, List.setIfInBounds_toArray, List.set_cons_zero, List.set_cons_succ])
   refine tkH 17 (some 23) ?_
   (try simp only [Act.put, sA, sB, sC])
   refine wpAnyH_one (i := 19) rfl (by kernel_rfl) (by rfl) (fun K hK => ?_)
   have hq9 := (hb3.heap (hb2.heap (hb1.heap hqA)))
   obtain ⟨z0, z1, z2, z3, z4, z5, z6, z7, z8⟩ := cells9 hq9
   obtain ⟨f0, f1, f2, f3, f4, f5, f6, f7, f8⟩ := frz9 hq9
   have HQ9 := hid hq9
   have hne : w.heap.size ≠ W0.heap.size := by omega
   clear hq9
   go_simp
   refine hK.out _ _ (fun o => (cell_set_ne hne).trans ((cell_set_ne hne).trans ((cell_set_ne hne).trans ((cell_set_ne hne).trans ((cell_set_ne hne).trans ((cell_set_ne hne).trans ((cell_set_ne hne).trans ((cell_set_ne hne).trans ((cell_set_ne hne).trans (HSE.out _ hx3 o)))))))))) (fun hHeld => ?_)
   clear hK K
   (try simp only [Act.put, List.setIfInBounds_toArray, List.set_cons_zero, List.set_cons_succ])
   refine wpAnyH_done (by kernel_rfl) ?_ _
   go_wp2_with fail
   go_meet
   refine ⟨W0.heap.size, L1, d1, L2, d2, L3, d3, rfl, ?_, hpz, hid (set9 HQ9.out), hid (own_set9 (own_base ((ho1.ev hb2).ev hb3) hz1) HQ9.out (by decide)), hid (own_set9 (own_base (ho2.ev hb3) hz2) HQ9.out (by decide)), hid (own_set9 (own_base ho3 hz3) HQ9.out (by decide))⟩
   exact Ev.setCell (Ev.setCell (Ev.setCell (Ev.setCell (Ev.setCell (Ev.setCell (Ev.setCell (Ev.setCell (Ev.setCell hx3 hpz _) hpz _) hpz _) hpz _) hpz _) hpz _) hpz _) hpz _) hpz _
 case rest =>
  obtain ⟨p, L1, d1, L2, d2, L3, d3, rfl, hE1, hp0, HC1, HR1, HR2, HR3⟩ := hcut
  have Q0c := hid (hE1.heap Q0.out)
  have Q1c := hid (hE1.heap Q1.out)
  have hpw := heap_lt HC1.out
  have hEw := hE0.trans hE1
  have hzw : w.heap.size + 2 ≤ p := by omega
  clear q0 q1 q2 q3 q4 q5 q6 q7 q8 HSE Q0 Q1
  go_wp2_with fail
  go_loopw [4] (fun i wr => ∃ k : Nat, ∃ V : Option Addr, ∃ ce : Nat, i = .int .i64 k ∧ k ≤ ng ∧ Ev w wr ∧ Hid (wr.heap[w.heap.size]? = some (.cells #[.int .i64 f.last, .slice Ag ng cg, .slice Aw nw cw, .slice Ab nb cb, .slice Ac nc cc, .int .i64 f.ripe, .int .i64 f.late, .int .i64 f.trod, .slice Al nl cl] 26 (0, 0))) ∧ Hid (wr.heap[w.heap.size + 1]? = some (.cells #[.int .i64 0, .slice none 0 0, .slice none 0 0, .slice none 0 0, .slice none 0 0, .int .i64 0, .int .i64 0, .int .i64 0, .slice none 0 0] 38 (0, 0))) ∧ Hid (wr.heap[p]? = some (.cells #[.int .i64 f.last, .slice V k ce, .slice L1 nw d1, .slice L2 nb d2, .slice L3 nc d3, .int .i64 f.ripe, .int .i64 f.late, .int .i64 f.trod, .slice none 0 0] 38 (0, 0))) ∧ Hid (wr.ownsRow (p + 1) 57 2 (.slice V k ce) k ((f.gr.take k).flatMap rgc)) ∧ Hid (wr.ownsRow W0.heap.size 3 1 (.slice L1 nw d1) nw (f.wet.flatMap ics)) ∧ Hid (wr.ownsRow W0.heap.size 3 1 (.slice L2 nb d2) nb (f.base.flatMap ics)) ∧ Hid (wr.ownsRow W0.heap.size 3 1 (.slice L3 nc d3) nc (f.crops.flatMap ics))) (fun i _ => ng - (intOf i).toNat)
  case atStart => exact ⟨0, none, 0, rfl, by omega, hEw, Q0c, Q1c, HC1, hid (World.ownsRow_nil _ _ _ _), HR1, HR2, HR3⟩
  case round =>
   obtain ⟨k, V, ce, rfl, hk, hB, hQ0, hQ1, hC, hown, hR1, hR2, hR3⟩ := hrel
   clear Q0c Q1c HC1 HR1 HR2 HR3
   obtain ⟨q0, q1, q2, q3, q4, q5, q6, q7, q8⟩ := cells9 hQ0.out
   have lq := heap_lt hQ0.out
   have lp := heap_lt hC.out
   have hBs := hB.size
   by_cases hlt : k < ng
   ·
    obtain ⟨b, off, x, rfl, hb, hx, hd, hcc⟩ := hs.g.at_ hB hlt
    have e0 := hcc 0 _ rfl
    have e1 := hcc 1 _ rfl
    simp only [Nat.add_zero] at e0
    have HX := hid hx
    clear hd hx hcc
    go_upto_region 5 with fail
    obtain ⟨y0, y1, y2, y3, y4, y5, y6, y7, y8⟩ := cells9 hC.out
    have lb : b < wr.heap.size := by omega
    have HSE : Hid (∀ w', Ev wr w' → (∀ o, w'.cell? ⟨p, o, none⟩ = wr.cell? ⟨p, o, none⟩) ∧ (∀ o, w'.cell? ⟨w.heap.size, o, none⟩ = wr.cell? ⟨w.heap.size, o, none⟩) ∧ (∀ o, w'.cell? ⟨b, o, none⟩ = wr.cell? ⟨b, o, none⟩)) := hid (fun w' h => ⟨fun o => h.cells.1 _ o lp, fun o => h.cells.1 _ o lq, fun o => h.cells.1 _ o lb⟩)
    refine wp_region_K (c := 11) (S := fun w' => (∀ o, w'.cell? ⟨p, o, none⟩ = wr.cell? ⟨p, o, none⟩) ∧ (∀ o, w'.cell? ⟨w.heap.size, o, none⟩ = wr.cell? ⟨w.heap.size, o, none⟩) ∧ (∀ o, w'.cell? ⟨b, o, none⟩ = wr.cell? ⟨b, o, none⟩)) (by kernel_rfl) (⟨fun o => rfl, fun o => rfl, fun o => rfl⟩) (fun hHeld => ?_)
    refine wpAnyK_takeD (i := 0) (v := ?_) (some 31) rfl rfl rfl (by kernel_rfl) (by kernel_rfl) (by kernel_rfl) (by kernel_rfl) (fun _ _ _ h => h) (Or.inl ⟨by rfl, ?hy⟩) (by assumption) ?_
    case hy => (intro w hSw; (try dsimp only at hSw); go_simp; with_reducible rfl)
    (try simp only [Act.put, List.setIfInBounds_toArray, List.set_cons_zero, List.set_cons_succ])
    refine wpAnyK_takeD (i := 1) (v := ?_) (some 32) rfl rfl rfl (by kernel_rfl) (by kernel_rfl) (by kernel_rfl) (by kernel_rfl) (fun _ _ _ h => h) (Or.inl ⟨by rfl, ?hy⟩) (by assumption) ?_
    case hy => (intro w hSw; (try dsimp only at hSw); go_simp; with_reducible rfl)
    (try simp only [Act.put, List.setIfInBounds_toArray, List.set_cons_zero, List.set_cons_succ])
    refine wpAnyK_takeD (i := 2) (v := ?_) (some 33) rfl rfl rfl (by kernel_rfl) (by kernel_rfl) (by kernel_rfl) (by kernel_rfl) (fun _ _ _ h => h) (Or.inl ⟨by rfl, ?hy⟩) (by assumption) ?_
    case hy => (intro w hSw; (try dsimp only at hSw); go_simp; with_reducible rfl)
    (try simp only [Act.put, List.setIfInBounds_toArray, List.set_cons_zero, List.set_cons_succ])
    refine wpAnyK_takeD (i := 3) (v := ?_) (some 34) rfl rfl rfl (by kernel_rfl) (by kernel_rfl) (by kernel_rfl) (by kernel_rfl) (fun _ _ _ h => h) (Or.inl ⟨by rfl, ?hy⟩) (by assumption) ?_
    case hy => (intro w hSw; (try dsimp only at hSw); go_simp; with_reducible rfl)
    (try simp only [Act.put, List.setIfInBounds_toArray, List.set_cons_zero, List.set_cons_succ])
    refine wpAnyK_takeD (i := 4) (v := ?_) (some 35) rfl rfl rfl (by kernel_rfl) (by kernel_rfl) (by kernel_rfl) (by kernel_rfl) (fun _ _ _ h => h) (Or.inl ⟨by rfl, ?hy⟩) (by assumption) ?_
    case hy => (intro w hSw; (try dsimp only at hSw); go_simp; with_reducible rfl)
    (try simp only [Act.put, List.setIfInBounds_toArray, List.set_cons_zero, List.set_cons_succ])
    refine wpAnyK_takeD (i := 5) (v := ?_) (some 36) rfl rfl rfl (by kernel_rfl) (by kernel_rfl) (by kernel_rfl) (by kernel_rfl) (fun _ _ _ h => h) (Or.inl ⟨by rfl, ?hy⟩) (by assumption) ?_
    case hy => (intro w hSw; (try dsimp only at hSw); go_simp; with_reducible rfl)
    (try simp only [Act.put, List.setIfInBounds_toArray, List.set_cons_zero, List.set_cons_succ])
    refine wpAnyK_takeD (i := 6) (v := ?_) (some 37) rfl rfl rfl (by kernel_rfl) (by kernel_rfl) (by kernel_rfl) (by kernel_rfl) (fun _ _ _ h => h) (Or.inl ⟨by rfl, ?hy⟩) (by assumption) ?_
    case hy => (intro w hSw; (try dsimp only at hSw); go_simp; with_reducible rfl)
    (try simp only [Act.put, List.setIfInBounds_toArray, List.set_cons_zero, List.set_cons_succ])
    refine wpAnyK_one (i := 7) rfl (by kernel_rfl) (by rfl) (by decide) (fun K hK => ?_)
    go_simp
    refine (to_c _ _).mono ?_
    rintro e w1 ⟨rfl, hb1⟩
    have hE9 : Ev wr w1 := Ev.trans (Ev.drew (Ev.refl _)) hb1
    refine hK.out _ _ (HSE.out _ hE9) (fun hHeld => ?_)
    clear hK K
    (try simp only [Act.put, List.setIfInBounds_toArray, List.set_cons_zero, List.set_cons_succ])
    refine wpAnyK_one (i := 8) rfl (by kernel_rfl) (by rfl) (by decide) (fun K hK => ?_)
    go_simp
    generalize hW2 : World.alloc w1 _ = w2
    have hal := alloc1 w1 (.cells #[.int .i64 x.lo, .int .i64 x.hi] 57)
    rw [hW2] at hal
    have hbA : Ev w1 w2 := by rw [← hW2]; exact Ev.alloc (Ev.refl _) _
    have hEA : Ev wr w2 := hE9.trans hbA
    have HAL := hid hal.1
    have hsz2 := hal.2
    clear hal hW2
    refine hK.out _ _ (HSE.out _ hEA) (fun hHeld => ?_)
    clear hK K
    (try simp only [Act.put, List.setIfInBounds_toArray, List.set_cons_zero, List.set_cons_succ])
    refine wpAnyK_one (i := 9) rfl (by kernel_rfl) (by rfl) (by decide) (fun K hK => ?_)
    have hown1 := hown.out.ev hEA
    have hps := hEA.size
    refine wp_append_own _ (.tmp 32) (.tmp 39) 35 rfl (p + 1) 57 i0 _ 2 16 Try.underlying35 hi0 hz0 hz1 hz2 rfl (by decide) _ k ((f.gr.take k).flatMap rgc) rfl hown1 ⟨w1.heap.size, 0, none⟩ 1 1 [.int .i64 x.lo, .int .i64 x.hi] rfl rfl (news_in HAL.out) (by simp [Value.oneCell']) (by unfold maxLen; omega) (by omega) (by omega) ?_
    intro v' w3 hown' hgrow _
    have htk : (f.gr.take (k + 1)) = f.gr.take k ++ [x] := by rw [List.take_add_one, HX.out]; rfl
    have hown3 : w3.ownsRow (p + 1) 57 2 v' (k + 1) ((f.gr.take (k + 1)).flatMap rgc) := by rw [htk, List.flatMap_append]; exact hown'
    obtain ⟨V', ce', rfl⟩ := own_form hown3
    have hltA := hown1.lt
    have hqp := (hgrow.block p (by omega) (fun e => by have := (hltA p e.symm).1; omega)).trans (hEA.heap hC.out)
    have h0g := (hgrow.block w.heap.size (by omega) (fun e => by have := (hltA _ e.symm).1; omega)).trans (hEA.heap hQ0.out)
    have h1g := (hgrow.block (w.heap.size + 1) (by omega) (fun e => by have := (hltA _ e.symm).1; omega)).trans (hEA.heap hQ1.out)
    have hbg := hgrow.block b (by omega) (fun e => by have := (hltA _ e.symm).1; omega)
    have hSg : (∀ o, w3.cell? ⟨p, o, none⟩ = wr.cell? ⟨p, o, none⟩) ∧ (∀ o, w3.cell? ⟨w.heap.size, o, none⟩ = wr.cell? ⟨w.heap.size, o, none⟩) ∧ (∀ o, w3.cell? ⟨b, o, none⟩ = wr.cell? ⟨b, o, none⟩) := ⟨fun o => World.cell?_of_block (w := wr) (hqp.trans hC.out.symm), fun o => World.cell?_of_block (w := wr) (h0g.trans hQ0.out.symm), fun o => (World.cell?_of_block hbg).trans ((HSE.out _ hEA).2.2 o)⟩
    have HQP := hid hqp
    have H0G := hid h0g
    have H1G := hid h1g
    have HE3 := hid (Ev.grown (hB.trans hEA) hgrow (fun k e => by have := (hltA k e).1; omega))
    have HW1 := hid ((hR1.out.ev hEA).kept hgrow (own_ne (own_base hown1 (Nat.zero_le _)) (own_base (hR1.out.ev hEA) (Nat.zero_le _)) (by decide)))
    have HW2 := hid ((hR2.out.ev hEA).kept hgrow (own_ne (own_base hown1 (Nat.zero_le _)) (own_base (hR2.out.ev hEA) (Nat.zero_le _)) (by decide)))
    have HW3 := hid ((hR3.out.ev hEA).kept hgrow (own_ne (own_base hown1 (Nat.zero_le _)) (own_base (hR3.out.ev hEA) (Nat.zero_le _)) (by decide)))
    have HO3 := hid hown3
    clear h0g h1g htk hltA hown' hbg hgrow hown1 hown3
    refine hK.out _ _ (hSg) (fun hHeld => ?_)
    clear hK K
    (try simp only [Act.put, List.setIfInBounds_toArray, List.set_cons_zero, List.set_cons_succ])
    refine wpAnyK_takeD (i := 10) (v := ?_) (some 41) rfl rfl rfl (by kernel_rfl) (by kernel_rfl) (by kernel_rfl) (by kernel_rfl) (fun _ _ _ h => h) (Or.inl ⟨by rfl, ?hy⟩) (by assumption) ?_
    case hy => (intro w hSw; (try dsimp only at hSw); go_simp; with_reducible rfl)
    (try simp only [Act.put, List.setIfInBounds_toArray, List.set_cons_zero, List.set_cons_succ])
    obtain ⟨f0, f1, f2, f3, f4, f5, f6, f7, f8⟩ := frz9 HQP.out
    refine wpAnyK_last rfl (by kernel_rfl) (by rfl) (fun K hK => ?_)
    go_simp
    refine hK.out _ _ ?_
    clear hK K
    (try simp only [Act.put, List.setIfInBounds_toArray, List.set_cons_zero, List.set_cons_succ])
    refine wpAnyK_done (by kernel_rfl) ?_ _
    go_wp2
    refine ⟨⟨k + 1, V', ce', by go_num, by omega, Ev.setCell HE3.out (by simp; omega) _, hid (set_heap H0G.out (by omega)), hid (set_heap H1G.out (by omega)), hid ?_, hid (own_set HO3.out HQP.out (by decide)), hid (own_set HW1.out HQP.out (by decide)), hid (own_set HW2.out HQP.out (by decide)), hid (own_set HW3.out HQP.out (by decide))⟩, by simp [intOf]; omega⟩
    rw [set_heap_same HQP.out]
    rfl
   ·
    obtain rfl : ng = k := by omega
    have hsl := hs.g.len
    have ht : f.gr.take ng = f.gr := List.take_of_length_le (by omega)
    rw [ht] at hown
    clear hsl ht
    obtain ⟨V0, hV0⟩ : ∃ x, x = V := ⟨_, rfl⟩
    obtain ⟨c0, hc0⟩ : ∃ x, x = ce := ⟨_, rfl⟩
    subst hV0 hc0
    go_wp2
    go_loopw [5] (fun i wr => ∃ k : Nat, ∃ V : Option Addr, ∃ ce : Nat, i = .int .i64 k ∧ k ≤ nl ∧ Ev w wr ∧ Hid (wr.heap[w.heap.size]? = some (.cells #[.int .i64 f.last, .slice Ag ng cg, .slice Aw nw cw, .slice Ab nb cb, .slice Ac nc cc, .int .i64 f.ripe, .int .i64 f.late, .int .i64 f.trod, .slice Al nl cl] 26 (0, 0))) ∧ Hid (wr.heap[w.heap.size + 1]? = some (.cells #[.int .i64 0, .slice none 0 0, .slice none 0 0, .slice none 0 0, .slice none 0 0, .int .i64 0, .int .i64 0, .int .i64 0, .slice none 0 0] 38 (0, 0))) ∧ Hid (wr.heap[p]? = some (.cells #[.int .i64 f.last, .slice V0 ng c0, .slice L1 nw d1, .slice L2 nb d2, .slice L3 nc d3, .int .i64 f.ripe, .int .i64 f.late, .int .i64 f.trod, .slice V k ce] 38 (0, 0))) ∧ Hid (wr.ownsRow (p + 1) 73 3 (.slice V k ce) k ((f.looks.take k).flatMap lkc)) ∧ Hid (wr.ownsRow W0.heap.size 3 1 (.slice L1 nw d1) nw (f.wet.flatMap ics)) ∧ Hid (wr.ownsRow W0.heap.size 3 1 (.slice L2 nb d2) nb (f.base.flatMap ics)) ∧ Hid (wr.ownsRow W0.heap.size 3 1 (.slice L3 nc d3) nc (f.crops.flatMap ics)) ∧ Hid (wr.ownsRow (p + 1) 57 2 (.slice V0 ng c0) ng (f.gr.flatMap rgc))) (fun i _ => nl - (intOf i).toNat)
    case atStart => exact ⟨0, none, 0, rfl, by omega, hB, hQ0, hQ1, hC, hid (World.ownsRow_nil _ _ _ _), hR1, hR2, hR3, hown⟩
    case round =>
     clear hB hQ0 hQ1 hC hown hR1 hR2 hR3 q0 q1 q2 q3 q4 q5 q6 q7 q8 lq lp hBs hk hlt
     rename_i wl _ _ _ _ _
     obtain ⟨k, V, ce, rfl, hk, hB, hQ0, hQ1, hC, hown, hR1, hR2, hR3, hRG⟩ := hrel
     obtain ⟨q0, q1, q2, q3, q4, q5, q6, q7, q8⟩ := cells9 hQ0.out
     have lq := heap_lt hQ0.out
     have lp := heap_lt hC.out
     have hBs := hB.size
     by_cases hlt : k < nl
     ·
      obtain ⟨b, off, x, rfl, hb, hx, hd, hcc⟩ := hs.l.at_ hB hlt
      have e0 := hcc 0 _ rfl
      have e1 := hcc 1 _ rfl
      have e2 := hcc 2 _ rfl
      simp only [Nat.add_zero] at e0
      have HX := hid hx
      clear hd hx hcc
      go_upto_region 9 with fail
      obtain ⟨y0, y1, y2, y3, y4, y5, y6, y7, y8⟩ := cells9 hC.out
      have lb : b < wr.heap.size := by omega
      have HSE : Hid (∀ w', Ev wr w' → (∀ o, w'.cell? ⟨p, o, none⟩ = wr.cell? ⟨p, o, none⟩) ∧ (∀ o, w'.cell? ⟨w.heap.size, o, none⟩ = wr.cell? ⟨w.heap.size, o, none⟩) ∧ (∀ o, w'.cell? ⟨b, o, none⟩ = wr.cell? ⟨b, o, none⟩)) := hid (fun w' h => ⟨fun o => h.cells.1 _ o lp, fun o => h.cells.1 _ o lq, fun o => h.cells.1 _ o lb⟩)
      refine wp_region_K (c := 19) (S := fun w' => (∀ o, w'.cell? ⟨p, o, none⟩ = wr.cell? ⟨p, o, none⟩) ∧ (∀ o, w'.cell? ⟨w.heap.size, o, none⟩ = wr.cell? ⟨w.heap.size, o, none⟩) ∧ (∀ o, w'.cell? ⟨b, o, none⟩ = wr.cell? ⟨b, o, none⟩)) (by kernel_rfl) (⟨fun o => rfl, fun o => rfl, fun o => rfl⟩) (fun hHeld => ?_)
      refine wpAnyK_takeD (i := 0) (v := ?_) (some 49) rfl rfl rfl (by kernel_rfl) (by kernel_rfl) (by kernel_rfl) (by kernel_rfl) (fun _ _ _ h => h) (Or.inl ⟨by rfl, ?hy⟩) (by assumption) ?_
      case hy => (intro w hSw; (try dsimp only at hSw); go_simp; with_reducible rfl)
      (try simp only [Act.put, List.setIfInBounds_toArray, List.set_cons_zero, List.set_cons_succ])
      refine wpAnyK_takeD (i := 1) (v := ?_) (some 50) rfl rfl rfl (by kernel_rfl) (by kernel_rfl) (by kernel_rfl) (by kernel_rfl) (fun _ _ _ h => h) (Or.inl ⟨by rfl, ?hy⟩) (by assumption) ?_
      case hy => (intro w hSw; (try dsimp only at hSw); go_simp; with_reducible rfl)
      (try simp only [Act.put, List.setIfInBounds_toArray, List.set_cons_zero, List.set_cons_succ])
      refine wpAnyK_takeD (i := 2) (v := ?_) (some 51) rfl rfl rfl (by kernel_rfl) (by kernel_rfl) (by kernel_rfl) (by kernel_rfl) (fun _ _ _ h => h) (Or.inl ⟨by rfl, ?hy⟩) (by assumption) ?_
      case hy => (intro w hSw; (try dsimp only at hSw); go_simp; with_reducible rfl)
      (try simp only [Act.put, List.setIfInBounds_toArray, List.set_cons_zero, List.set_cons_succ])
      refine wpAnyK_takeD (i := 3) (v := ?_) (some 52) rfl rfl rfl (by kernel_rfl) (by kernel_rfl) (by kernel_rfl) (by kernel_rfl) (fun _ _ _ h => h) (Or.inl ⟨by rfl, ?hy⟩) (by assumption) ?_
      case hy => (intro w hSw; (try dsimp only at hSw); go_simp; with_reducible rfl)
      (try simp only [Act.put, List.setIfInBounds_toArray, List.set_cons_zero, List.set_cons_succ])
      refine wpAnyK_takeD (i := 4) (v := ?_) (some 53) rfl rfl rfl (by kernel_rfl) (by kernel_rfl) (by kernel_rfl) (by kernel_rfl) (fun _ _ _ h => h) (Or.inl ⟨by rfl, ?hy⟩) (by assumption) ?_
      case hy => (intro w hSw; (try dsimp only at hSw); go_simp; with_reducible rfl)
      (try simp only [Act.put, List.setIfInBounds_toArray, List.set_cons_zero, List.set_cons_succ])
      refine wpAnyK_takeD (i := 5) (v := ?_) (some 54) rfl rfl rfl (by kernel_rfl) (by kernel_rfl) (by kernel_rfl) (by kernel_rfl) (fun _ _ _ h => h) (Or.inl ⟨by rfl, ?hy⟩) (by assumption) ?_
      case hy => (intro w hSw; (try dsimp only at hSw); go_simp; with_reducible rfl)
      (try simp only [Act.put, List.setIfInBounds_toArray, List.set_cons_zero, List.set_cons_succ])
      refine wpAnyK_takeD (i := 6) (v := ?_) (some 55) rfl rfl rfl (by kernel_rfl) (by kernel_rfl) (by kernel_rfl) (by kernel_rfl) (fun _ _ _ h => h) (Or.inl ⟨by rfl, ?hy⟩) (by assumption) ?_
      case hy => (intro w hSw; (try dsimp only at hSw); go_simp; with_reducible rfl)
      (try simp only [Act.put, List.setIfInBounds_toArray, List.set_cons_zero, List.set_cons_succ])
      refine wpAnyK_takeD (i := 7) (v := ?_) (some 56) rfl rfl rfl (by kernel_rfl) (by kernel_rfl) (by kernel_rfl) (by kernel_rfl) (fun _ _ _ h => h) (Or.inl ⟨by rfl, ?hy⟩) (by assumption) ?_
      case hy => (intro w hSw; (try dsimp only at hSw); go_simp; with_reducible rfl)
      (try simp only [Act.put, List.setIfInBounds_toArray, List.set_cons_zero, List.set_cons_succ])
      refine wpAnyK_takeD (i := 8) (v := ?_) (some 57) rfl rfl rfl (by kernel_rfl) (by kernel_rfl) (by kernel_rfl) (by kernel_rfl) (fun _ _ _ h => h) (Or.inl ⟨by rfl, ?hy⟩) (by assumption) ?_
      case hy => (intro w hSw; (try dsimp only at hSw); go_simp; with_reducible rfl)
      (try simp only [Act.put, List.setIfInBounds_toArray, List.set_cons_zero, List.set_cons_succ])
      refine wpAnyK_takeD (i := 9) (v := ?_) (some 58) rfl rfl rfl (by kernel_rfl) (by kernel_rfl) (by kernel_rfl) (by kernel_rfl) (fun _ _ _ h => h) (Or.inl ⟨by rfl, ?hy⟩) (by assumption) ?_
      case hy => (intro w hSw; (try dsimp only at hSw); go_simp; with_reducible rfl)
      (try simp only [Act.put, List.setIfInBounds_toArray, List.set_cons_zero, List.set_cons_succ])
      refine wpAnyK_takeD (i := 10) (v := ?_) (some 59) rfl rfl rfl (by kernel_rfl) (by kernel_rfl) (by kernel_rfl) (by kernel_rfl) (fun _ _ _ h => h) (Or.inl ⟨by rfl, ?hy⟩) (by assumption) ?_
      case hy => (intro w hSw; (try dsimp only at hSw); go_simp; with_reducible rfl)
      (try simp only [Act.put, List.setIfInBounds_toArray, List.set_cons_zero, List.set_cons_succ])
      refine wpAnyK_takeD (i := 11) (v := ?_) (some 60) rfl rfl rfl (by kernel_rfl) (by kernel_rfl) (by kernel_rfl) (by kernel_rfl) (fun _ _ _ h => h) (Or.inl ⟨by rfl, ?hy⟩) (by assumption) ?_
      case hy => (intro w hSw; (try dsimp only at hSw); go_simp; with_reducible rfl)
      (try simp only [Act.put, List.setIfInBounds_toArray, List.set_cons_zero, List.set_cons_succ])
      refine wpAnyK_takeD (i := 12) (v := ?_) (some 61) rfl rfl rfl (by kernel_rfl) (by kernel_rfl) (by kernel_rfl) (by kernel_rfl) (fun _ _ _ h => h) (Or.inl ⟨by rfl, ?hy⟩) (by assumption) ?_
      case hy => (intro w hSw; (try dsimp only at hSw); go_simp; with_reducible rfl)
      (try simp only [Act.put, List.setIfInBounds_toArray, List.set_cons_zero, List.set_cons_succ])
      refine wpAnyK_takeD (i := 13) (v := ?_) (some 62) rfl rfl rfl (by kernel_rfl) (by kernel_rfl) (by kernel_rfl) (by kernel_rfl) (fun _ _ _ h => h) (Or.inl ⟨by rfl, ?hy⟩) (by assumption) ?_
      case hy => (intro w hSw; (try dsimp only at hSw); go_simp; with_reducible rfl)
      (try simp only [Act.put, List.setIfInBounds_toArray, List.set_cons_zero, List.set_cons_succ])
      refine wpAnyK_one (i := 14) rfl (by kernel_rfl) (by rfl) (by decide) (fun K hK => ?_)
      go_simp
      refine (to_c _ _).mono ?_
      rintro e w1 ⟨rfl, hb1⟩
      have hE9 : Ev wr w1 := Ev.trans (Ev.drew (Ev.refl _)) hb1
      refine hK.out _ _ (HSE.out _ hE9) (fun hHeld => ?_)
      clear hK K
      (try simp only [Act.put, List.setIfInBounds_toArray, List.set_cons_zero, List.set_cons_succ])
      refine wpAnyK_takeD (i := 15) (v := ?_) (some 64) rfl rfl rfl (by kernel_rfl) (by kernel_rfl) (by kernel_rfl) (by kernel_rfl) (fun _ _ _ h => h) (Or.inl ⟨by rfl, ?hy⟩) (by assumption) ?_
      case hy => (intro w hSw; (try dsimp only at hSw); go_simp; with_reducible rfl)
      (try simp only [Act.put, List.setIfInBounds_toArray, List.set_cons_zero, List.set_cons_succ])
      refine wpAnyK_one (i := 16) rfl (by kernel_rfl) (by rfl) (by decide) (fun K hK => ?_)
      go_simp
      generalize hW2 : World.alloc w1 _ = w2
      have hal := alloc1 w1 (.cells #[.int .i64 x.wk, .int .i64 x.ct.lo, .int .i64 x.ct.hi] 73)
      rw [hW2] at hal
      have hbA : Ev w1 w2 := by rw [← hW2]; exact Ev.alloc (Ev.refl _) _
      have hEA : Ev wr w2 := hE9.trans hbA
      have HAL := hid hal.1
      have hsz2 := hal.2
      clear hal hW2
      refine hK.out _ _ (HSE.out _ hEA) (fun hHeld => ?_)
      clear hK K
      (try simp only [Act.put, List.setIfInBounds_toArray, List.set_cons_zero, List.set_cons_succ])
      refine wpAnyK_one (i := 17) rfl (by kernel_rfl) (by rfl) (by decide) (fun K hK => ?_)
      have hown1 := hown.out.ev hEA
      have hps := hEA.size
      refine wp_append_own _ (.tmp 50) (.tmp 65) 36 rfl (p + 1) 73 j0 _ 3 24 Try.underlying36 hj0 hy0 hy1 hy2 rfl (by decide) _ k ((f.looks.take k).flatMap lkc) rfl hown1 ⟨w1.heap.size, 0, none⟩ 1 1 [.int .i64 x.wk, .int .i64 x.ct.lo, .int .i64 x.ct.hi] rfl rfl (news_in HAL.out) (by simp [Value.oneCell']) (by unfold maxLen; omega) (by omega) (by omega) ?_
      intro v' w3 hown' hgrow _
      have htk : (f.looks.take (k + 1)) = f.looks.take k ++ [x] := by rw [List.take_add_one, HX.out]; rfl
      have hown3 : w3.ownsRow (p + 1) 73 3 v' (k + 1) ((f.looks.take (k + 1)).flatMap lkc) := by rw [htk, List.flatMap_append]; exact hown'
      obtain ⟨V', ce', rfl⟩ := own_form hown3
      have hltA := hown1.lt
      have hqp := (hgrow.block p (by omega) (fun e => by have := (hltA p e.symm).1; omega)).trans (hEA.heap hC.out)
      have h0g := (hgrow.block w.heap.size (by omega) (fun e => by have := (hltA _ e.symm).1; omega)).trans (hEA.heap hQ0.out)
      have h1g := (hgrow.block (w.heap.size + 1) (by omega) (fun e => by have := (hltA _ e.symm).1; omega)).trans (hEA.heap hQ1.out)
      have hbg := hgrow.block b (by omega) (fun e => by have := (hltA _ e.symm).1; omega)
      have hSg : (∀ o, w3.cell? ⟨p, o, none⟩ = wr.cell? ⟨p, o, none⟩) ∧ (∀ o, w3.cell? ⟨w.heap.size, o, none⟩ = wr.cell? ⟨w.heap.size, o, none⟩) ∧ (∀ o, w3.cell? ⟨b, o, none⟩ = wr.cell? ⟨b, o, none⟩) := ⟨fun o => World.cell?_of_block (w := wr) (hqp.trans hC.out.symm), fun o => World.cell?_of_block (w := wr) (h0g.trans hQ0.out.symm), fun o => (World.cell?_of_block hbg).trans ((HSE.out _ hEA).2.2 o)⟩
      have HQP := hid hqp
      have H0G := hid h0g
      have H1G := hid h1g
      have HE3 := hid (Ev.grown (hB.trans hEA) hgrow (fun k e => by have := (hltA k e).1; omega))
      have HW1 := hid ((hR1.out.ev hEA).kept hgrow (own_ne (own_base hown1 (Nat.zero_le _)) (own_base (hR1.out.ev hEA) (Nat.zero_le _)) (by decide)))
      have HW2 := hid ((hR2.out.ev hEA).kept hgrow (own_ne (own_base hown1 (Nat.zero_le _)) (own_base (hR2.out.ev hEA) (Nat.zero_le _)) (by decide)))
      have HW3 := hid ((hR3.out.ev hEA).kept hgrow (own_ne (own_base hown1 (Nat.zero_le _)) (own_base (hR3.out.ev hEA) (Nat.zero_le _)) (by decide)))
      have HWG := hid ((hRG.out.ev hEA).kept hgrow (own_ne (own_base hown1 (Nat.zero_le _)) (own_base (hRG.out.ev hEA) (Nat.zero_le _)) (by decide)))
      have HO3 := hid hown3
      clear h0g h1g htk hltA hown' hbg hgrow hown1 hown3
      refine hK.out _ _ (hSg) (fun hHeld => ?_)
      clear hK K
      (try simp only [Act.put, List.setIfInBounds_toArray, List.set_cons_zero, List.set_cons_succ])
      refine wpAnyK_takeD (i := 18) (v := ?_) (some 67) rfl rfl rfl (by kernel_rfl) (by kernel_rfl) (by kernel_rfl) (by kernel_rfl) (fun _ _ _ h => h) (Or.inl ⟨by rfl, ?hy⟩) (by assumption) ?_
      case hy => (intro w hSw; (try dsimp only at hSw); go_simp; with_reducible rfl)
      (try simp only [Act.put, List.setIfInBounds_toArray, List.set_cons_zero, List.set_cons_succ])
      obtain ⟨f0, f1, f2, f3, f4, f5, f6, f7, f8⟩ := frz9 HQP.out
      refine wpAnyK_last rfl (by kernel_rfl) (by rfl) (fun K hK => ?_)
      go_simp
      refine hK.out _ _ ?_
      clear hK K
      (try simp only [Act.put, List.setIfInBounds_toArray, List.set_cons_zero, List.set_cons_succ])
      refine wpAnyK_done (by kernel_rfl) ?_ _
      go_wp2
      refine ⟨⟨k + 1, V', ce', by go_num, by omega, Ev.setCell HE3.out (by simp; omega) _, hid (set_heap H0G.out (by omega)), hid (set_heap H1G.out (by omega)), hid ?_, hid (own_set HO3.out HQP.out (by decide)), hid (own_set HW1.out HQP.out (by decide)), hid (own_set HW2.out HQP.out (by decide)), hid (own_set HW3.out HQP.out (by decide)), hid (own_set HWG.out HQP.out (by decide))⟩, by simp [intOf]; omega⟩
      rw [set_heap_same HQP.out]
      rfl
     ·
      obtain rfl : nl = k := by omega
      have hsl := hs.l.len
      have ht : f.looks.take nl = f.looks := List.take_of_length_le (by omega)
      rw [ht] at hown
      obtain ⟨y0, y1, y2, y3, y4, y5, y6, y7, y8⟩ := cells9 hC.out
      obtain ⟨z0, z1, z2, z3, z4, z5, z6, z7, z8⟩ := cells9 hQ1.out
      obtain ⟨f0, f1, f2, f3, f4, f5, f6, f7, f8⟩ := frz9 hQ1.out
      clear hsl ht
      go_wp2
      have hF := set9 (v0 := .int .i64 f.last) (v1 := .slice V0 ng c0) (v2 := .slice L1 nw d1) (v3 := .slice L2 nb d2) (v4 := .slice L3 nc d3) (v5 := .int .i64 f.ripe) (v6 := .int .i64 f.late) (v7 := .int .i64 f.trod) (v8 := .slice V nl ce) hQ1.out
      obtain ⟨x0, x1, x2, x3, x4, x5, x6, x7, x8⟩ := cells9 hF
      have o0 := own_set9 (v0 := .int .i64 f.last) (v1 := .slice V0 ng c0) (v2 := .slice L1 nw d1) (v3 := .slice L2 nb d2) (v4 := .slice L3 nc d3) (v5 := .int .i64 f.ripe) (v6 := .int .i64 f.late) (v7 := .int .i64 f.trod) (v8 := .slice V nl ce) hRG.out hQ1.out (by decide)
      have o1 := own_set9 (v0 := .int .i64 f.last) (v1 := .slice V0 ng c0) (v2 := .slice L1 nw d1) (v3 := .slice L2 nb d2) (v4 := .slice L3 nc d3) (v5 := .int .i64 f.ripe) (v6 := .int .i64 f.late) (v7 := .int .i64 f.trod) (v8 := .slice V nl ce) hR1.out hQ1.out (by decide)
      have o2 := own_set9 (v0 := .int .i64 f.last) (v1 := .slice V0 ng c0) (v2 := .slice L1 nw d1) (v3 := .slice L2 nb d2) (v4 := .slice L3 nc d3) (v5 := .int .i64 f.ripe) (v6 := .int .i64 f.late) (v7 := .int .i64 f.trod) (v8 := .slice V nl ce) hR2.out hQ1.out (by decide)
      have o3 := own_set9 (v0 := .int .i64 f.last) (v1 := .slice V0 ng c0) (v2 := .slice L1 nw d1) (v3 := .slice L2 nb d2) (v4 := .slice L3 nc d3) (v5 := .int .i64 f.ripe) (v6 := .int .i64 f.late) (v7 := .int .i64 f.trod) (v8 := .slice V nl ce) hR3.out hQ1.out (by decide)
      have o4 := own_set9 (v0 := .int .i64 f.last) (v1 := .slice V0 ng c0) (v2 := .slice L1 nw d1) (v3 := .slice L2 nb d2) (v4 := .slice L3 nc d3) (v5 := .int .i64 f.ripe) (v6 := .int .i64 f.late) (v7 := .int .i64 f.trod) (v8 := .slice V nl ce) hown.out hQ1.out (by decide)
      refine bodyPost_ret (v := .agg #[.int .i64 f.last, .slice V0 ng c0, .slice L1 nw d1, .slice L2 nb d2, .slice L3 nc d3, .int .i64 f.ripe, .int .i64 f.late, .int .i64 f.trod, .slice V nl ce]) (by simp [results, Try.results16, go_sem, x0, x1, x2, x3, x4, x5, x6, x7, x8]) rfl ⟨⟨_, _, _, _, _, _, _, _, _, _, rfl, ⟨?_, ?_, ?_, ?_, ?_⟩⟩, ?_⟩
      ·
       exact sl_own (enc := rgc) (by decide) (rgc_len _) (by omega) o0
      ·
       exact sl_own (enc := ics) (by decide) (ics_len _) (by omega) o1
      ·
       exact sl_own (enc := ics) (by decide) (ics_len _) (by omega) o2
      ·
       exact sl_own (enc := ics) (by decide) (ics_len _) (by omega) o3
      ·
       exact sl_own (enc := lkc) (by decide) (lkc_len _) (by omega) o4
      ·
       exact Ev.setCell (Ev.setCell (Ev.setCell (Ev.setCell (Ev.setCell (Ev.setCell (Ev.setCell (Ev.setCell (Ev.setCell hB (by simp) _) (by simp) _) (by simp) _) (by simp) _) (by simp) _) (by simp) _) (by simp) _) (by simp) _) (by simp) _

end Go.Proofs.Ytffbkbcjddigdaa
