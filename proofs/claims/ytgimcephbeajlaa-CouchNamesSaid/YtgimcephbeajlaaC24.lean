import Derived.Test.YtgimcephbeajlaaC23
import Derived.Deep.DeepCutAuto
set_option linter.unusedSimpArgs false
set_option linter.unusedVariables false
namespace Go.Proofs.Ytgimcephbeajlaa
open Go.RowKit Go.Shelf

theorem own_set10 {w : World} {base : Nat} {e t : TypeId} {size : Nat} {v : Value} {n : Nat} {xs : List Value} {b : Nat} {cs : Array Value} {v0 v1 v2 v3 v4 v5 v6 v7 v8 v9 : Value} (h : w.ownsRow base e size v n xs) (hb : w.heap[b]? = some (.cells cs t (0, 0))) (ht : t ≠ e) :
  ((((((((((w.setCell ⟨b, 0, none⟩ v0).setCell ⟨b, 1, none⟩ v1).setCell ⟨b, 2, none⟩ v2).setCell ⟨b, 3, none⟩ v3).setCell ⟨b, 4, none⟩ v4).setCell ⟨b, 5, none⟩ v5).setCell ⟨b, 6, none⟩ v6).setCell ⟨b, 7, none⟩ v7).setCell ⟨b, 8, none⟩ v8).setCell ⟨b, 9, none⟩ v9).ownsRow base e size v n xs := by
 have g1 := set_heap_same (j := 0) (v := v0) hb
 have r1 := own_set (j := 0) (u := v0) h hb ht
 have g2 := set_heap_same (j := 1) (v := v1) g1
 have r2 := own_set (j := 1) (u := v1) r1 g1 ht
 have g3 := set_heap_same (j := 2) (v := v2) g2
 have r3 := own_set (j := 2) (u := v2) r2 g2 ht
 have g4 := set_heap_same (j := 3) (v := v3) g3
 have r4 := own_set (j := 3) (u := v3) r3 g3 ht
 have g5 := set_heap_same (j := 4) (v := v4) g4
 have r5 := own_set (j := 4) (u := v4) r4 g4 ht
 have g6 := set_heap_same (j := 5) (v := v5) g5
 have r6 := own_set (j := 5) (u := v5) r5 g5 ht
 have g7 := set_heap_same (j := 6) (v := v6) g6
 have r7 := own_set (j := 6) (u := v6) r6 g6 ht
 have g8 := set_heap_same (j := 7) (v := v7) g7
 have r8 := own_set (j := 7) (u := v7) r7 g7 ht
 have g9 := set_heap_same (j := 8) (v := v8) g8
 have r9 := own_set (j := 8) (u := v8) r8 g8 ht
 have g10 := set_heap_same (j := 9) (v := v9) g9
 have r10 := own_set (j := 9) (u := v9) r9 g9 ht
 exact r10
set_option maxRecDepth 100000 in
set_option maxHeartbeats 4000000 in
theorem Heap_c (f : M.Cf) (Aw At Ar : Option Addr) (nw cw nt ct nr cr : Nat) (hnw : nw ≤ 1000) (hnt : nt ≤ 1000) (hnr : nr ≤ 1000) (w : World) (hs : CS w w.heap.size f Aw At Ar nw cw nt ct nr cr) :
  Calls Try.prog 21 #[.agg #[.int .i64 f.last, .int .i64 f.size, .int .i64 f.cool, .int .i64 f.die, .int .i64 f.burn, .int .i64 f.st.lo, .int .i64 f.st.hi, .slice Aw nw cw, .slice At nt ct, .slice Ar nr cr]] w fun e w' => (∃ Bw dw Bt dt Br dr, e = .returned (.agg #[.int .i64 f.last, .int .i64 f.size, .int .i64 f.cool, .int .i64 f.die, .int .i64 f.burn, .int .i64 f.st.lo, .int .i64 f.st.hi, .slice Bw nw dw, .slice Bt nt dt, .slice Br nr dr]) ∧ CS w' w'.heap.size f Bw Bt Br nw dw nt dt nr dr) ∧ Ev w w' := by
 obtain ⟨i0, hi0, hz0, hz1, hz2⟩ := info_parts info55
 obtain ⟨j0, hj0, hy0, hy1, hy2⟩ := info_parts infoRd
 go_enter Try.func21, Try.ntmps21
 go_upto_region 1 with fail
 generalize hW0 : World.alloc (World.alloc w _) _ = W0
 have hE0 : Ev w W0 := by rw [← hW0]; exact Ev.alloc (Ev.alloc (Ev.refl _) _) _
 have hal := alloc2 w (.cells #[.int .i64 f.last, .int .i64 f.size, .int .i64 f.cool, .int .i64 f.die, .int .i64 f.burn, .int .i64 f.st.lo, .int .i64 f.st.hi, .slice Aw nw cw, .slice At nt ct, .slice Ar nr cr] 28) (.cells #[.int .i64 0, .int .i64 0, .int .i64 0, .int .i64 0, .int .i64 0, .int .i64 0, .int .i64 0, .slice none 0 0, .slice none 0 0, .slice none 0 0] 40)
 rw [hW0] at hal
 have Q0 := hid hal.1
 have Q1 := hid hal.2.1
 have hzl : w.heap.size + 2 ≤ W0.heap.size := by rw [hal.2.2]; exact Nat.le_refl _
 clear hal hW0
 obtain ⟨q0, q1, q2, q3, q4, q5, q6, q7, q8, q9⟩ := cells10 Q0.out
 have l0 := heap_lt Q0.out
 have HSE : Hid (∀ w', Ev W0 w' → (∀ o, w'.cell? ⟨w.heap.size, o, none⟩ = W0.cell? ⟨w.heap.size, o, none⟩)) := hid (fun w' h => fun o => h.cells.1 _ o l0)
 go_cut [3] (fun v W1 => ∃ (p : Nat) (L1 : Option Addr) (d1 : Nat), v = .pointer (some ⟨p, 0, none⟩) ∧ Ev W0 W1 ∧ W0.heap.size ≤ p ∧ Hid (W1.heap[p]? = some (.cells #[.int .i64 f.last, .int .i64 f.size, .int .i64 f.cool, .int .i64 f.die, .int .i64 f.burn, .int .i64 f.st.lo, .int .i64 f.st.hi, .slice none 0 0, .slice L1 nt d1, .slice none 0 0] 40 (0, 0))) ∧ Hid (W1.ownsRow W0.heap.size 3 1 (.slice L1 nt d1) nt (f.turns.flatMap ics)))
 case first =>
  refine wp_region_held_drew (S := fun w' => (∀ o, w'.cell? ⟨w.heap.size, o, none⟩ = W0.cell? ⟨w.heap.size, o, none⟩)) (by kernel_rfl) (fun o => rfl) (fun hHeld => ?_)
  refine tkH 0 (some 7) ?_
  (try simp only [Act.put, sA, sB, sC])
  refine tkH 1 (some 8) ?_
  (try simp only [Act.put, sA, sB, sC])
  refine tkH 2 (some 9) ?_
  (try simp only [Act.put, sA, sB, sC])
  refine tkH 3 (some 10) ?_
  (try simp only [Act.put, sA, sB, sC])
  refine tkH 4 (some 11) ?_
  (try simp only [Act.put, sA, sB, sC])
  refine tkH 5 (some 12) ?_
  (try simp only [Act.put, sA, sB, sC])
  refine tkH 6 (some 13) ?_
  (try simp only [Act.put, sA, sB, sC])
  refine tkH 7 (some 14) ?_
  (try simp only [Act.put, sA, sB, sC])
  refine tkH 8 (some 15) ?_
  (try simp only [Act.put, sA, sB, sC])
  refine tkH 9 (some 16) ?_
  (try simp only [Act.put, sA, sB, sC])
  refine tkH 10 (some 17) ?_
  (try simp only [Act.put, sA, sB, sC])
  refine tkH 11 (some 18) ?_
  (try simp only [Act.put, sA, sB, sC])
  refine tkH 13 (some 20) ?_
  (try simp only [Act.put, sA, sB, sC])
  refine tkH 14 (some 21) ?_
  (try simp only [Act.put, sA, sB, sC])
  refine wpAnyH_ready (rs := [12, 17]) (by kernel_rfl) (by simp) ?_
  refine AllReadyH.cons rfl (fun K hK => ?_) (AllReadyH.cons rfl (fun K hK => ?_) (AllReadyH.nil))
  ·
   go_simp
   refine (to_c f.st _).mono ?_
   rintro e v1 ⟨rfl, hb1⟩
   have hE1 : Ev W0 v1 := Ev.trans (Ev.drew (Ev.refl _)) hb1
   refine hK.out _ _ (HSE.out _ hE1) (fun hHeld => ?_)
   clear hK K
   (try simp only [Act.put, List.setIfInBounds_toArray, List.set_cons_zero, List.set_cons_succ])
   refine wpAnyH_ready (rs := [15, 17]) (by kernel_rfl) (by simp) ?_
   refine AllReadyH.cons rfl (fun K hK => ?_) (AllReadyH.cons rfl (fun K hK => ?_) (AllReadyH.nil))
   ·
    go_simp
    refine (list_c _ _ _ f.turns (by omega) _ (hs.t.ev (hE0.trans hE1))).mono ?_
    rintro e v2 ⟨⟨L1, d1, rfl, ho⟩, hb2⟩
    have hE2 : Ev W0 v2 := Ev.trans hE1 hb2
    have HR2 := hid (own_base ho (Ev.size hE1))
    clear ho
    refine hK.out _ _ (HSE.out _ hE2) (fun hHeld => ?_)
    clear hK K
    (try simp only [Act.put, List.setIfInBounds_toArray, List.set_cons_zero, List.set_cons_succ])
    refine tkH 16 (some 23) ?_
    (try simp only [Act.put, sA, sB, sC])
    refine wpAnyH_one (i := 17) rfl (by kernel_rfl) (by rfl) (fun K hK => ?_)
    go_simp
    generalize hWA : World.alloc v2 _ = v3
    have hal : (World.alloc v2 (.cells #[.int .i64 0, .int .i64 0, .int .i64 0, .int .i64 0, .int .i64 0, .int .i64 0, .int .i64 0, .slice none 0 0, .slice none 0 0, .slice none 0 0] 40)).heap[v2.heap.size]? = _ := (alloc1 v2 (.cells #[.int .i64 0, .int .i64 0, .int .i64 0, .int .i64 0, .int .i64 0, .int .i64 0, .int .i64 0, .slice none 0 0, .slice none 0 0, .slice none 0 0] 40)).1
    rw [hWA] at hal
    have HA3 : Hid (v3.heap[v2.heap.size]? = some (.cells #[.int .i64 0, .int .i64 0, .int .i64 0, .int .i64 0, .int .i64 0, .int .i64 0, .int .i64 0, .slice none 0 0, .slice none 0 0, .slice none 0 0] 40 (0, 0))) := hid hal
    have hb3 : Ev v2 v3 := by rw [← hWA]; exact Ev.alloc (Ev.refl _) _
    have hE3 : Ev W0 v3 := Ev.trans hE2 hb3
    have hqw : W0.heap.size ≤ v2.heap.size := Ev.size hE2
    clear hWA hal
    have HR3 := hid (HR2.out.ev hb3)
    refine hK.out _ _ (HSE.out _ hE3) (fun hHeld => ?_)
    clear hK K
    (try simp only [Act.put, List.setIfInBounds_toArray, List.set_cons_zero, List.set_cons_succ])
    refine wpAnyH_one (i := 18) rfl (by kernel_rfl) (by rfl) (fun K hK => ?_)
    have hA := HA3.out
    obtain ⟨z0, z1, z2, z3, z4, z5, z6, z7, z8, z9⟩ := cells10 hA
    obtain ⟨f0, f1, f2, f3, f4, f5, f6, f7, f8, f9⟩ := frz10 hA
    go_simp
    generalize hXF : World.setCell _ _ _ = XF
    have HXF : Hid (XF.heap[v2.heap.size]? = some (.cells #[.int .i64 f.last, .int .i64 f.size, .int .i64 f.cool, .int .i64 f.die, .int .i64 f.burn, .int .i64 f.st.lo, .int .i64 f.st.hi, .slice none 0 0, .slice L1 nt d1, .slice none 0 0] 40 (0, 0))) := hid (by rw [← hXF]; exact set10 hA)
    have hEF : Ev W0 XF := by rw [← hXF]; exact (Ev.setCell (Ev.setCell (Ev.setCell (Ev.setCell (Ev.setCell (Ev.setCell (Ev.setCell (Ev.setCell (Ev.setCell (Ev.setCell hE3 (show W0.heap.size ≤ v2.heap.size from hqw) _) (show W0.heap.size ≤ v2.heap.size from hqw) _) (show W0.heap.size ≤ v2.heap.size from hqw) _) (show W0.heap.size ≤ v2.heap.size from hqw) _) (show W0.heap.size ≤ v2.heap.size from hqw) _) (show W0.heap.size ≤ v2.heap.size from hqw) _) (show W0.heap.size ≤ v2.heap.size from hqw) _) (show W0.heap.size ≤ v2.heap.size from hqw) _) (show W0.heap.size ≤ v2.heap.size from hqw) _) (show W0.heap.size ≤ v2.heap.size from hqw) _)
    have HOF : Hid (XF.ownsRow W0.heap.size 3 1 (.slice L1 nt d1) nt (f.turns.flatMap ics)) := hid (by rw [← hXF]; exact own_set10 HR3.out hA (by decide))
    clear hXF z0 z1 z2 z3 z4 z5 z6 z7 z8 z9 f0 f1 f2 f3 f4 f5 f6 f7 f8 f9 hA
    refine hK.out _ _ (HSE.out _ hEF) (fun hHeld => ?_)
    clear hK K
    (try simp only [Act.put, List.setIfInBounds_toArray, List.set_cons_zero, List.set_cons_succ])
    refine wpAnyH_done (by kernel_rfl) ?_ _
    go_wp2_with fail
    go_meet
    exact ⟨v2.heap.size, L1, d1, rfl, hEF, hqw, HXF, HOF⟩
   ·
    go_simp
    generalize hWA : World.alloc v1 _ = v2
    have hal : (World.alloc v1 (.cells #[.int .i64 0, .int .i64 0, .int .i64 0, .int .i64 0, .int .i64 0, .int .i64 0, .int .i64 0, .slice none 0 0, .slice none 0 0, .slice none 0 0] 40)).heap[v1.heap.size]? = _ := (alloc1 v1 (.cells #[.int .i64 0, .int .i64 0, .int .i64 0, .int .i64 0, .int .i64 0, .int .i64 0, .int .i64 0, .slice none 0 0, .slice none 0 0, .slice none 0 0] 40)).1
    rw [hWA] at hal
    have HA2 : Hid (v2.heap[v1.heap.size]? = some (.cells #[.int .i64 0, .int .i64 0, .int .i64 0, .int .i64 0, .int .i64 0, .int .i64 0, .int .i64 0, .slice none 0 0, .slice none 0 0, .slice none 0 0] 40 (0, 0))) := hid hal
    have hb2 : Ev v1 v2 := by rw [← hWA]; exact Ev.alloc (Ev.refl _) _
    have hE2 : Ev W0 v2 := Ev.trans hE1 hb2
    have hqw : W0.heap.size ≤ v1.heap.size := Ev.size hE1
    clear hWA hal
    refine hK.out _ _ (HSE.out _ hE2) (fun hHeld => ?_)
    clear hK K
    (try simp only [Act.put, List.setIfInBounds_toArray, List.set_cons_zero, List.set_cons_succ])
    refine wpAnyH_one (i := 15) rfl (by kernel_rfl) (by rfl) (fun K hK => ?_)
    go_simp
    refine (list_c _ _ _ f.turns (by omega) _ (hs.t.ev (hE0.trans hE2))).mono ?_
    rintro e v3 ⟨⟨L1, d1, rfl, ho⟩, hb3⟩
    have hE3 : Ev W0 v3 := Ev.trans hE2 hb3
    have HA3 := hid (hb3.heap HA2.out)
    have HR3 := hid (own_base ho (Ev.size hE2))
    clear ho
    refine hK.out _ _ (HSE.out _ hE3) (fun hHeld => ?_)
    clear hK K
    (try simp only [Act.put, List.setIfInBounds_toArray, List.set_cons_zero, List.set_cons_succ])
    refine tkH 16 (some 23) ?_
    (try simp only [Act.put, sA, sB, sC])
    refine wpAnyH_one (i := 18) rfl (by kernel_rfl) (by rfl) (fun K hK => ?_)
    have hA := HA3.out
    obtain ⟨z0, z1, z2, z3, z4, z5, z6, z7, z8, z9⟩ := cells10 hA
    obtain ⟨f0, f1, f2, f3, f4, f5, f6, f7, f8, f9⟩ := frz10 hA
    go_simp
    generalize hXF : World.setCell _ _ _ = XF
    have HXF : Hid (XF.heap[v1.heap.size]? = some (.cells #[.int .i64 f.last, .int .i64 f.size, .int .i64 f.cool, .int .i64 f.die, .int .i64 f.burn, .int .i64 f.st.lo, .int .i64 f.st.hi, .slice none 0 0, .slice L1 nt d1, .slice none 0 0] 40 (0, 0))) := hid (by rw [← hXF]; exact set10 hA)
    have hEF : Ev W0 XF := by rw [← hXF]; exact (Ev.setCell (Ev.setCell (Ev.setCell (Ev.setCell (Ev.setCell (Ev.setCell (Ev.setCell (Ev.setCell (Ev.setCell (Ev.setCell hE3 (show W0.heap.size ≤ v1.heap.size from hqw) _) (show W0.heap.size ≤ v1.heap.size from hqw) _) (show W0.heap.size ≤ v1.heap.size from hqw) _) (show W0.heap.size ≤ v1.heap.size from hqw) _) (show W0.heap.size ≤ v1.heap.size from hqw) _) (show W0.heap.size ≤ v1.heap.size from hqw) _) (show W0.heap.size ≤ v1.heap.size from hqw) _) (show W0.heap.size ≤ v1.heap.size from hqw) _) (show W0.heap.size ≤ v1.heap.size from hqw) _) (show W0.heap.size ≤ v1.heap.size from hqw) _)
    have HOF : Hid (XF.ownsRow W0.heap.size 3 1 (.slice L1 nt d1) nt (f.turns.flatMap ics)) := hid (by rw [← hXF]; exact own_set10 HR3.out hA (by decide))
    clear hXF z0 z1 z2 z3 z4 z5 z6 z7 z8 z9 f0 f1 f2 f3 f4 f5 f6 f7 f8 f9 hA
    refine hK.out _ _ (HSE.out _ hEF) (fun hHeld => ?_)
    clear hK K
    (try simp only [Act.put, List.setIfInBounds_toArray, List.set_cons_zero, List.set_cons_succ])
    refine wpAnyH_done (by kernel_rfl) ?_ _
    go_wp2_with fail
    go_meet
    exact ⟨v1.heap.size, L1, d1, rfl, hEF, hqw, HXF, HOF⟩
  ·
   go_simp
   generalize hWA : World.drew (World.alloc W0 _) = v1
   have hal : (World.drew (World.alloc W0 (.cells #[.int .i64 0, .int .i64 0, .int .i64 0, .int .i64 0, .int .i64 0, .int .i64 0, .int .i64 0, .slice none 0 0, .slice none 0 0, .slice none 0 0] 40))).heap[W0.heap.size]? = _ := (alloc1 W0 (.cells #[.int .i64 0, .int .i64 0, .int .i64 0, .int .i64 0, .int .i64 0, .int .i64 0, .int .i64 0, .slice none 0 0, .slice none 0 0, .slice none 0 0] 40)).1
   rw [hWA] at hal
   have HA1 : Hid (v1.heap[W0.heap.size]? = some (.cells #[.int .i64 0, .int .i64 0, .int .i64 0, .int .i64 0, .int .i64 0, .int .i64 0, .int .i64 0, .slice none 0 0, .slice none 0 0, .slice none 0 0] 40 (0, 0))) := hid hal
   have hb1 : Ev W0 v1 := by rw [← hWA]; exact Ev.drew (Ev.alloc (Ev.refl _) _)
   have hE1 : Ev W0 v1 := hb1
   have hqw : W0.heap.size ≤ W0.heap.size := Nat.le_refl _
   clear hWA hal
   refine hK.out _ _ (HSE.out _ hE1) (fun hHeld => ?_)
   clear hK K
   (try simp only [Act.put, List.setIfInBounds_toArray, List.set_cons_zero, List.set_cons_succ])
   refine wpAnyH_one (i := 12) rfl (by kernel_rfl) (by rfl) (fun K hK => ?_)
   go_simp
   refine (to_c f.st _).mono ?_
   rintro e v2 ⟨rfl, hb2⟩
   have hE2 : Ev W0 v2 := Ev.trans hE1 hb2
   have HA2 := hid (hb2.heap HA1.out)
   refine hK.out _ _ (HSE.out _ hE2) (fun hHeld => ?_)
   clear hK K
   (try simp only [Act.put, List.setIfInBounds_toArray, List.set_cons_zero, List.set_cons_succ])
   refine wpAnyH_one (i := 15) rfl (by kernel_rfl) (by rfl) (fun K hK => ?_)
   go_simp
   refine (list_c _ _ _ f.turns (by omega) _ (hs.t.ev (hE0.trans hE2))).mono ?_
   rintro e v3 ⟨⟨L1, d1, rfl, ho⟩, hb3⟩
   have hE3 : Ev W0 v3 := Ev.trans hE2 hb3
   have HA3 := hid (hb3.heap HA2.out)
   have HR3 := hid (own_base ho (Ev.size hE2))
   clear ho
   refine hK.out _ _ (HSE.out _ hE3) (fun hHeld => ?_)
   clear hK K
   (try simp only [Act.put, List.setIfInBounds_toArray, List.set_cons_zero, List.set_cons_succ])
   refine tkH 16 (some 23) ?_
   (try simp only [Act.put, sA, sB, sC])
   refine wpAnyH_one (i := 18) rfl (by kernel_rfl) (by rfl) (fun K hK => ?_)
   have hA := HA3.out
   obtain ⟨z0, z1, z2, z3, z4, z5, z6, z7, z8, z9⟩ := cells10 hA
   obtain ⟨f0, f1, f2, f3, f4, f5, f6, f7, f8, f9⟩ := frz10 hA
   go_simp
   generalize hXF : World.setCell _ _ _ = XF
   have HXF : Hid (XF.heap[W0.heap.size]? = some (.cells #[.int .i64 f.last, .int .i64 f.size, .int .i64 f.cool, .int .i64 f.die, .int .i64 f.burn, .int .i64 f.st.lo, .int .i64 f.st.hi, .slice none 0 0, .slice L1 nt d1, .slice none 0 0] 40 (0, 0))) := hid (by rw [← hXF]; exact set10 hA)
   have hEF : Ev W0 XF := by rw [← hXF]; exact (Ev.setCell (Ev.setCell (Ev.setCell (Ev.setCell (Ev.setCell (Ev.setCell (Ev.setCell (Ev.setCell (Ev.setCell (Ev.setCell hE3 (show W0.heap.size ≤ W0.heap.size from hqw) _) (show W0.heap.size ≤ W0.heap.size from hqw) _) (show W0.heap.size ≤ W0.heap.size from hqw) _) (show W0.heap.size ≤ W0.heap.size from hqw) _) (show W0.heap.size ≤ W0.heap.size from hqw) _) (show W0.heap.size ≤ W0.heap.size from hqw) _) (show W0.heap.size ≤ W0.heap.size from hqw) _) (show W0.heap.size ≤ W0.heap.size from hqw) _) (show W0.heap.size ≤ W0.heap.size from hqw) _) (show W0.heap.size ≤ W0.heap.size from hqw) _)
   have HOF : Hid (XF.ownsRow W0.heap.size 3 1 (.slice L1 nt d1) nt (f.turns.flatMap ics)) := hid (by rw [← hXF]; exact own_set10 HR3.out hA (by decide))
   clear hXF z0 z1 z2 z3 z4 z5 z6 z7 z8 z9 f0 f1 f2 f3 f4 f5 f6 f7 f8 f9 hA
   refine hK.out _ _ (HSE.out _ hEF) (fun hHeld => ?_)
   clear hK K
   (try simp only [Act.put, List.setIfInBounds_toArray, List.set_cons_zero, List.set_cons_succ])
   refine wpAnyH_done (by kernel_rfl) ?_ _
   go_wp2_with fail
   go_meet
   exact ⟨W0.heap.size, L1, d1, rfl, hEF, hqw, HXF, HOF⟩
 case rest =>
  obtain ⟨p, L1, d1, rfl, hE1, hp0, HC1, HR1⟩ := hcut
  have Q0c := hid (hE1.heap Q0.out)
  have Q1c := hid (hE1.heap Q1.out)
  have hpw := heap_lt HC1.out
  have hEw := hE0.trans hE1
  have hzw : w.heap.size + 2 ≤ p := by omega
  clear q0 q1 q2 q3 q4 q5 q6 q7 q8 q9; clear HSE Q0 Q1
  go_wp2_with fail
  go_loopw [4] (fun i wr => ∃ k : Nat, ∃ V : Option Addr, ∃ ce : Nat, i = .int .i64 k ∧ k ≤ nw ∧ Ev w wr ∧ Hid (wr.heap[w.heap.size]? = some (.cells #[.int .i64 f.last, .int .i64 f.size, .int .i64 f.cool, .int .i64 f.die, .int .i64 f.burn, .int .i64 f.st.lo, .int .i64 f.st.hi, .slice Aw nw cw, .slice At nt ct, .slice Ar nr cr] 28 (0, 0))) ∧ Hid (wr.heap[w.heap.size + 1]? = some (.cells #[.int .i64 0, .int .i64 0, .int .i64 0, .int .i64 0, .int .i64 0, .int .i64 0, .int .i64 0, .slice none 0 0, .slice none 0 0, .slice none 0 0] 40 (0, 0))) ∧ Hid (wr.heap[p]? = some (.cells #[.int .i64 f.last, .int .i64 f.size, .int .i64 f.cool, .int .i64 f.die, .int .i64 f.burn, .int .i64 f.st.lo, .int .i64 f.st.hi, .slice V k ce, .slice L1 nt d1, .slice none 0 0] 40 (0, 0))) ∧ Hid (wr.ownsRow (p + 1) 36 2 (.slice V k ce) k ((f.wet.take k).flatMap rgc)) ∧ Hid (wr.ownsRow W0.heap.size 3 1 (.slice L1 nt d1) nt (f.turns.flatMap ics))) (fun i _ => nw - (intOf i).toNat)
  case atStart => exact ⟨0, none, 0, rfl, by omega, hEw, Q0c, Q1c, HC1, hid (World.ownsRow_nil _ _ _ _), HR1⟩
  case round =>
   obtain ⟨k, V, ce, rfl, hk, hB, hQ0, hQ1, hC, hown, hR1⟩ := hrel
   clear Q0c Q1c HC1 HR1
   obtain ⟨q0, q1, q2, q3, q4, q5, q6, q7, q8, q9⟩ := cells10 hQ0.out
   have lq := heap_lt hQ0.out
   have lp := heap_lt hC.out
   have hBs := hB.size
   by_cases hlt : k < nw
   ·
    obtain ⟨b, off, x, rfl, hb, hx, hd, hcc⟩ := hs.w_.at_ hB hlt
    have e0 := hcc 0 _ rfl
    have e1 := hcc 1 _ rfl
    simp only [Nat.add_zero] at e0
    have HX := hid hx
    clear hd hx hcc
    go_upto_region 5 with fail
    obtain ⟨y0, y1, y2, y3, y4, y5, y6, y7, y8, y9⟩ := cells10 hC.out
    have lb : b < wr.heap.size := by omega
    have HSE : Hid (∀ w', Ev wr w' → (∀ o, w'.cell? ⟨p, o, none⟩ = wr.cell? ⟨p, o, none⟩) ∧ (∀ o, w'.cell? ⟨w.heap.size, o, none⟩ = wr.cell? ⟨w.heap.size, o, none⟩) ∧ (∀ o, w'.cell? ⟨b, o, none⟩ = wr.cell? ⟨b, o, none⟩)) := hid (fun w' h => ⟨fun o => h.cells.1 _ o lp, fun o => h.cells.1 _ o lq, fun o => h.cells.1 _ o lb⟩)
    refine wp_region_K (c := 11) (S := fun w' => (∀ o, w'.cell? ⟨p, o, none⟩ = wr.cell? ⟨p, o, none⟩) ∧ (∀ o, w'.cell? ⟨w.heap.size, o, none⟩ = wr.cell? ⟨w.heap.size, o, none⟩) ∧ (∀ o, w'.cell? ⟨b, o, none⟩ = wr.cell? ⟨b, o, none⟩)) (by kernel_rfl) (⟨fun o => rfl, fun o => rfl, fun o => rfl⟩) (fun hHeld => ?_)
    refine wpAnyK_takeD (i := 0) (v := ?_) (some 31) rfl rfl rfl (by kernel_rfl) (by kernel_rfl) (by kernel_rfl) (by kernel_rfl) (fun _ _ _ h => h) (Or.inl ⟨by rfl, ?hy⟩) (by assumption) ?_
    case hy => (intro w hSw; (try dsimp only at hSw); go_simp; with_reducible rfl)
    (try simp only [Act.put, List.setIfInBounds_toArray, List.set_cons_zero, List.set_cons_succ])
    refine wpAnyK_takeD (i := 1) (v := ?_) (some 32) rfl rfl rfl (by kernel_rfl) (by kernel_rfl) (by kernel_rfl) (by kernel_rfl) (fun _ _ _ h => h) (Or.inl ⟨by rfl, ?hy⟩) (by assumption) ?_
    case hy => (intro w hSw; (try dsimp only at hSw); go_simp; with_reducible rfl)
    (try simp only [Act.put, List.setIfInBounds_toArray, List.set_cons_zero, List.set_cons_succ])
    refine wpAnyK_takeD (i := 2) (v := ?_) (some 33) rfl rfl rfl (by kernel_rfl) (by kernel_rfl) (by kernel_rfl) (by kernel_rfl) (fun _ _ _ h => h) (Or.inl ⟨by rfl, ?hy⟩) (by assumption) ?_
    case hy => (intro w hSw; (try dsimp only at hSw); go_simp; with_reducible rfl)
    (try simp only [Act.put, List.setIfInBounds_toArray, List.set_cons_zero, List.set_cons_succ])
    refine wpAnyK_takeD (i := 3) (v := ?_) (some 34) rfl rfl rfl (by kernel_rfl) (by kernel_rfl) (by kernel_rfl) (by kernel_rfl) (fun _ _ _ h => h) (Or.inl ⟨by rfl, ?hy⟩) (by assumption) ?_
    case hy => (intro w hSw; (try dsimp only at hSw); go_simp; with_reducible rfl)
    (try simp only [Act.put, List.setIfInBounds_toArray, List.set_cons_zero, List.set_cons_succ])
    refine wpAnyK_takeD (i := 4) (v := ?_) (some 35) rfl rfl rfl (by kernel_rfl) (by kernel_rfl) (by kernel_rfl) (by kernel_rfl) (fun _ _ _ h => h) (Or.inl ⟨by rfl, ?hy⟩) (by assumption) ?_
    case hy => (intro w hSw; (try dsimp only at hSw); go_simp; with_reducible rfl)
    (try simp only [Act.put, List.setIfInBounds_toArray, List.set_cons_zero, List.set_cons_succ])
    refine wpAnyK_takeD (i := 5) (v := ?_) (some 36) rfl rfl rfl (by kernel_rfl) (by kernel_rfl) (by kernel_rfl) (by kernel_rfl) (fun _ _ _ h => h) (Or.inl ⟨by rfl, ?hy⟩) (by assumption) ?_
    case hy => (intro w hSw; (try dsimp only at hSw); go_simp; with_reducible rfl)
    (try simp only [Act.put, List.setIfInBounds_toArray, List.set_cons_zero, List.set_cons_succ])
    refine wpAnyK_takeD (i := 6) (v := ?_) (some 37) rfl rfl rfl (by kernel_rfl) (by kernel_rfl) (by kernel_rfl) (by kernel_rfl) (fun _ _ _ h => h) (Or.inl ⟨by rfl, ?hy⟩) (by assumption) ?_
    case hy => (intro w hSw; (try dsimp only at hSw); go_simp; with_reducible rfl)
    (try simp only [Act.put, List.setIfInBounds_toArray, List.set_cons_zero, List.set_cons_succ])
    refine wpAnyK_one (i := 7) rfl (by kernel_rfl) (by rfl) (by decide) (fun K hK => ?_)
    go_simp
    refine (to_c _ _).mono ?_
    rintro e w1 ⟨rfl, hb1⟩
    have hE9 : Ev wr w1 := Ev.trans (Ev.drew (Ev.refl _)) hb1
    refine hK.out _ _ (HSE.out _ hE9) (fun hHeld => ?_)
    clear hK K
    (try simp only [Act.put, List.setIfInBounds_toArray, List.set_cons_zero, List.set_cons_succ])
    refine wpAnyK_one (i := 8) rfl (by kernel_rfl) (by rfl) (by decide) (fun K hK => ?_)
    go_simp
    generalize hW2 : World.alloc w1 _ = w2
    have hal := alloc1 w1 (.cells #[.int .i64 x.lo, .int .i64 x.hi] 36)
    rw [hW2] at hal
    have hbA : Ev w1 w2 := by rw [← hW2]; exact Ev.alloc (Ev.refl _) _
    have hEA : Ev wr w2 := hE9.trans hbA
    have HAL := hid hal.1
    have hsz2 := hal.2
    clear hal hW2
    refine hK.out _ _ (HSE.out _ hEA) (fun hHeld => ?_)
    clear hK K
    (try simp only [Act.put, List.setIfInBounds_toArray, List.set_cons_zero, List.set_cons_succ])
    refine wpAnyK_one (i := 9) rfl (by kernel_rfl) (by rfl) (by decide) (fun K hK => ?_)
    have hown1 := hown.out.ev hEA
    have hps := hEA.size
    refine wp_append_own _ (.tmp 32) (.tmp 39) 37 rfl (p + 1) 36 i0 _ 2 16 Try.underlying37 hi0 hz0 hz1 hz2 rfl (by decide) _ k ((f.wet.take k).flatMap rgc) rfl hown1 ⟨w1.heap.size, 0, none⟩ 1 1 [.int .i64 x.lo, .int .i64 x.hi] rfl rfl (news_in HAL.out) (by simp [Value.oneCell']) (by unfold maxLen; omega) (by omega) (by omega) ?_
    intro v' w3 hown' hgrow _
    have htk : (f.wet.take (k + 1)) = f.wet.take k ++ [x] := (by rw [List.take_add_one, HX.out]; rfl)
    have hown3 : w3.ownsRow (p + 1) 36 2 v' (k + 1) ((f.wet.take (k + 1)).flatMap rgc) := (by rw [htk, List.flatMap_append]; exact hown')
    obtain ⟨V', ce', rfl⟩ := own_form hown3
    have hltA := hown1.lt
    have hqp := (hgrow.block p (by omega) (fun e => by have := (hltA p e.symm).1; omega)).trans (hEA.heap hC.out)
    have h0g := (hgrow.block w.heap.size (by omega) (fun e => by have := (hltA _ e.symm).1; omega)).trans (hEA.heap hQ0.out)
    have h1g := (hgrow.block (w.heap.size + 1) (by omega) (fun e => by have := (hltA _ e.symm).1; omega)).trans (hEA.heap hQ1.out)
    have hbg := hgrow.block b (by omega) (fun e => by have := (hltA _ e.symm).1; omega)
    have hSg : (∀ o, w3.cell? ⟨p, o, none⟩ = wr.cell? ⟨p, o, none⟩) ∧ (∀ o, w3.cell? ⟨w.heap.size, o, none⟩ = wr.cell? ⟨w.heap.size, o, none⟩) ∧ (∀ o, w3.cell? ⟨b, o, none⟩ = wr.cell? ⟨b, o, none⟩) := ⟨fun o => World.cell?_of_block (w := wr) (hqp.trans hC.out.symm), fun o => World.cell?_of_block (w := wr) (h0g.trans hQ0.out.symm), fun o => (World.cell?_of_block hbg).trans ((HSE.out _ hEA).2.2 o)⟩
    have HQP := hid hqp
    have H0G := hid h0g
    have H1G := hid h1g
    have HE3 := hid (Ev.grown (hB.trans hEA) hgrow (fun k e => by have := (hltA k e).1; omega))
    have HW1 := hid ((hR1.out.ev hEA).kept hgrow (own_ne (own_base hown1 (Nat.zero_le _)) (own_base (hR1.out.ev hEA) (Nat.zero_le _)) (by decide)))
    have HO3 := hid hown3
    clear h0g h1g htk hltA hown' hbg hgrow hown1 hown3
    refine hK.out _ _ (hSg) (fun hHeld => ?_)
    clear hK K
    (try simp only [Act.put, List.setIfInBounds_toArray, List.set_cons_zero, List.set_cons_succ])
    refine wpAnyK_takeD (i := 10) (v := ?_) (some 41) rfl rfl rfl (by kernel_rfl) (by kernel_rfl) (by kernel_rfl) (by kernel_rfl) (fun _ _ _ h => h) (Or.inl ⟨by rfl, ?hy⟩) (by assumption) ?_
    case hy => (intro w hSw; (try dsimp only at hSw); go_simp; with_reducible rfl)
    (try simp only [Act.put, List.setIfInBounds_toArray, List.set_cons_zero, List.set_cons_succ])
    obtain ⟨f0, f1, f2, f3, f4, f5, f6, f7, f8, f9⟩ := frz10 HQP.out
    refine wpAnyK_last rfl (by kernel_rfl) (by rfl) (fun K hK => ?_)
    go_simp
    refine hK.out _ _ ?_
    clear hK K
    (try simp only [Act.put, List.setIfInBounds_toArray, List.set_cons_zero, List.set_cons_succ])
    refine wpAnyK_done (by kernel_rfl) ?_ _
    go_wp2
    refine ⟨⟨k + 1, V', ce', by go_num, by omega, Ev.setCell HE3.out (by simp; omega) _, hid (set_heap H0G.out (by omega)), hid (set_heap H1G.out (by omega)), hid ?_, hid (own_set HO3.out HQP.out (by decide)), hid (own_set HW1.out HQP.out (by decide))⟩, by simp [intOf]; omega⟩
    rw [set_heap_same HQP.out]
    rfl
   ·
    obtain rfl : nw = k := by omega
    have hsl := hs.w_.len
    have ht : f.wet.take nw = f.wet := List.take_of_length_le (by omega)
    rw [ht] at hown
    clear hsl ht
    obtain ⟨V0, hV0⟩ : ∃ x, x = V := ⟨_, rfl⟩
    obtain ⟨c0, hc0⟩ : ∃ x, x = ce := ⟨_, rfl⟩
    subst hV0 hc0
    go_wp2
    go_loopw [5] (fun i wr => ∃ k : Nat, ∃ V : Option Addr, ∃ ce : Nat, i = .int .i64 k ∧ k ≤ nr ∧ Ev w wr ∧ Hid (wr.heap[w.heap.size]? = some (.cells #[.int .i64 f.last, .int .i64 f.size, .int .i64 f.cool, .int .i64 f.die, .int .i64 f.burn, .int .i64 f.st.lo, .int .i64 f.st.hi, .slice Aw nw cw, .slice At nt ct, .slice Ar nr cr] 28 (0, 0))) ∧ Hid (wr.heap[w.heap.size + 1]? = some (.cells #[.int .i64 0, .int .i64 0, .int .i64 0, .int .i64 0, .int .i64 0, .int .i64 0, .int .i64 0, .slice none 0 0, .slice none 0 0, .slice none 0 0] 40 (0, 0))) ∧ Hid (wr.heap[p]? = some (.cells #[.int .i64 f.last, .int .i64 f.size, .int .i64 f.cool, .int .i64 f.die, .int .i64 f.burn, .int .i64 f.st.lo, .int .i64 f.st.hi, .slice V0 nw c0, .slice L1 nt d1, .slice V k ce] 40 (0, 0))) ∧ Hid (wr.ownsRow (p + 1) 79 3 (.slice V k ce) k ((f.rds.take k).flatMap rdc)) ∧ Hid (wr.ownsRow W0.heap.size 3 1 (.slice L1 nt d1) nt (f.turns.flatMap ics)) ∧ Hid (wr.ownsRow (p + 1) 36 2 (.slice V0 nw c0) nw (f.wet.flatMap rgc))) (fun i _ => nr - (intOf i).toNat)
    case atStart => exact ⟨0, none, 0, rfl, by omega, hB, hQ0, hQ1, hC, hid (World.ownsRow_nil _ _ _ _), hR1, hown⟩
    case round =>
     clear hB hQ0 hQ1 hC hown hR1 q0 q1 q2 q3 q4 q5 q6 q7 q8 q9 lq lp hBs hk hlt
     rename_i wl _ _ _ _ _
     obtain ⟨k, V, ce, rfl, hk, hB, hQ0, hQ1, hC, hown, hR1, hRG⟩ := hrel
     obtain ⟨q0, q1, q2, q3, q4, q5, q6, q7, q8, q9⟩ := cells10 hQ0.out
     have lq := heap_lt hQ0.out
     have lp := heap_lt hC.out
     have hBs := hB.size
     by_cases hlt : k < nr
     ·
      obtain ⟨b, off, x, rfl, hb, hx, hd, hcc⟩ := hs.r.at_ hB hlt
      have e0 := hcc 0 _ rfl
      have e1 := hcc 1 _ rfl
      have e2 := hcc 2 _ rfl
      simp only [Nat.add_zero] at e0
      have HX := hid hx
      clear hd hx hcc
      obtain ⟨y0, y1, y2, y3, y4, y5, y6, y7, y8, y9⟩ := cells10 hC.out
      have lb : b < wr.heap.size := by omega
      have HSE : Hid (∀ w', Ev wr w' → (∀ o, w'.cell? ⟨p, o, none⟩ = wr.cell? ⟨p, o, none⟩) ∧ (∀ o, w'.cell? ⟨w.heap.size, o, none⟩ = wr.cell? ⟨w.heap.size, o, none⟩) ∧ (∀ o, w'.cell? ⟨b, o, none⟩ = wr.cell? ⟨b, o, none⟩)) := hid (fun w' h => ⟨fun o => h.cells.1 _ o lp, fun o => h.cells.1 _ o lq, fun o => h.cells.1 _ o lb⟩)
      have hEA : Ev wr ((wr.alloc (.cells #[.int .i64 x.hr, .int .i64 x.sn, .int .i64 x.er] 96)).alloc (.cells #[.int .i64 x.hr, .int .i64 x.sn, .int .i64 x.er] 79)) := Ev.alloc (Ev.alloc (Ev.refl _) _) _
      have hown1 := hown.out.ev hEA
      have hps := hEA.size
      have HAL := hid (alloc2 wr (.cells #[.int .i64 x.hr, .int .i64 x.sn, .int .i64 x.er] 96) (.cells #[.int .i64 x.hr, .int .i64 x.sn, .int .i64 x.er] 79)).2.1
      have hsz2 := (alloc2 wr (.cells #[.int .i64 x.hr, .int .i64 x.sn, .int .i64 x.er] 96) (.cells #[.int .i64 x.hr, .int .i64 x.sn, .int .i64 x.er] 79)).2.2
      go_wp2_with (at_builtin; refine wpList_append_own_at _ rfl (.tmp 55) (.tmp 63) 38 rfl (p + 1) 79 j0 _ 3 24 Try.underlying38 hj0 hy0 hy1 hy2 rfl (by decide) _ k ((f.rds.take k).flatMap rdc) rfl hown1 ⟨wr.heap.size + 1, 0, none⟩ 1 1 [.int .i64 x.hr, .int .i64 x.sn, .int .i64 x.er] rfl rfl (news_in HAL.out) (by simp [Value.oneCell']) (by unfold maxLen; omega) (by omega) (by omega) ?_; intro v' w3 hown' hgrow _ _; have htk : (f.rds.take (k + 1)) = f.rds.take k ++ [x] := (by rw [List.take_add_one, HX.out]; rfl); have hown3 : w3.ownsRow (p + 1) 79 3 v' (k + 1) ((f.rds.take (k + 1)).flatMap rdc) := (by rw [htk, List.flatMap_append]; exact hown'); obtain ⟨V', ce', rfl⟩ := own_form hown3; have hltA := hown1.lt; have hqp := (hgrow.block p (by omega) (fun e => by have := (hltA p e.symm).1; omega)).trans (hEA.heap hC.out); have h0g := (hgrow.block w.heap.size (by omega) (fun e => by have := (hltA _ e.symm).1; omega)).trans (hEA.heap hQ0.out); have h1g := (hgrow.block (w.heap.size + 1) (by omega) (fun e => by have := (hltA _ e.symm).1; omega)).trans (hEA.heap hQ1.out); have hbg := hgrow.block b (by omega) (fun e => by have := (hltA _ e.symm).1; omega); have hSg : (∀ o, w3.cell? ⟨p, o, none⟩ = wr.cell? ⟨p, o, none⟩) ∧ (∀ o, w3.cell? ⟨w.heap.size, o, none⟩ = wr.cell? ⟨w.heap.size, o, none⟩) ∧ (∀ o, w3.cell? ⟨b, o, none⟩ = wr.cell? ⟨b, o, none⟩) := ⟨fun o => World.cell?_of_block (w := wr) (hqp.trans hC.out.symm), fun o => World.cell?_of_block (w := wr) (h0g.trans hQ0.out.symm), fun o => (World.cell?_of_block hbg).trans ((HSE.out _ hEA).2.2 o)⟩; have HQP := hid hqp; have H0G := hid h0g; have H1G := hid h1g; have HE3 := hid (Ev.grown (hB.trans hEA) hgrow (fun k e => by have := (hltA k e).1; omega)); have HW1 := hid ((hR1.out.ev hEA).kept hgrow (own_ne (own_base hown1 (Nat.zero_le _)) (own_base (hR1.out.ev hEA) (Nat.zero_le _)) (by decide))); have HWG := hid ((hRG.out.ev hEA).kept hgrow (own_ne (own_base hown1 (Nat.zero_le _)) (own_base (hRG.out.ev hEA) (Nat.zero_le _)) (by decide))); have HO3 := hid hown3; clear h0g h1g htk hltA hown' hbg hgrow hown1 hown3; clear hSg y0 y1 y2 y3 y4 y5 y6 y7 y8 y9; obtain ⟨y0, y1, y2, y3, y4, y5, y6, y7, y8, y9⟩ := cells10 HQP.out; obtain ⟨f0, f1, f2, f3, f4, f5, f6, f7, f8, f9⟩ := frz10 HQP.out)
      refine ⟨⟨k + 1, V', ce', by go_num, by omega, Ev.setCell HE3.out (by simp; omega) _, hid (set_heap H0G.out (by omega)), hid (set_heap H1G.out (by omega)), hid ?_, hid (own_set HO3.out HQP.out (by decide)), hid (own_set HW1.out HQP.out (by decide)), hid (own_set HWG.out HQP.out (by decide))⟩, by simp [intOf]; omega⟩
      rw [set_heap_same HQP.out]
      rfl
     ·
      obtain rfl : nr = k := by omega
      have hsl := hs.r.len
      have ht : f.rds.take nr = f.rds := List.take_of_length_le (by omega)
      rw [ht] at hown
      obtain ⟨y0, y1, y2, y3, y4, y5, y6, y7, y8, y9⟩ := cells10 hC.out
      obtain ⟨z0, z1, z2, z3, z4, z5, z6, z7, z8, z9⟩ := cells10 hQ1.out
      obtain ⟨f0, f1, f2, f3, f4, f5, f6, f7, f8, f9⟩ := frz10 hQ1.out
      clear hsl ht
      go_wp2
      have hF := set10 (v0 := .int .i64 f.last) (v1 := .int .i64 f.size) (v2 := .int .i64 f.cool) (v3 := .int .i64 f.die) (v4 := .int .i64 f.burn) (v5 := .int .i64 f.st.lo) (v6 := .int .i64 f.st.hi) (v7 := .slice V0 nw c0) (v8 := .slice L1 nt d1) (v9 := .slice V nr ce) hQ1.out
      obtain ⟨x0, x1, x2, x3, x4, x5, x6, x7, x8, x9⟩ := cells10 hF
      have o0 := own_set10 (v0 := .int .i64 f.last) (v1 := .int .i64 f.size) (v2 := .int .i64 f.cool) (v3 := .int .i64 f.die) (v4 := .int .i64 f.burn) (v5 := .int .i64 f.st.lo) (v6 := .int .i64 f.st.hi) (v7 := .slice V0 nw c0) (v8 := .slice L1 nt d1) (v9 := .slice V nr ce) hRG.out hQ1.out (by decide)
      have o1 := own_set10 (v0 := .int .i64 f.last) (v1 := .int .i64 f.size) (v2 := .int .i64 f.cool) (v3 := .int .i64 f.die) (v4 := .int .i64 f.burn) (v5 := .int .i64 f.st.lo) (v6 := .int .i64 f.st.hi) (v7 := .slice V0 nw c0) (v8 := .slice L1 nt d1) (v9 := .slice V nr ce) hR1.out hQ1.out (by decide)
      have o4 := own_set10 (v0 := .int .i64 f.last) (v1 := .int .i64 f.size) (v2 := .int .i64 f.cool) (v3 := .int .i64 f.die) (v4 := .int .i64 f.burn) (v5 := .int .i64 f.st.lo) (v6 := .int .i64 f.st.hi) (v7 := .slice V0 nw c0) (v8 := .slice L1 nt d1) (v9 := .slice V nr ce) hown.out hQ1.out (by decide)
      refine bodyPost_ret (v := .agg #[.int .i64 f.last, .int .i64 f.size, .int .i64 f.cool, .int .i64 f.die, .int .i64 f.burn, .int .i64 f.st.lo, .int .i64 f.st.hi, .slice V0 nw c0, .slice L1 nt d1, .slice V nr ce]) (by simp [results, Try.results21, go_sem, x0, x1, x2, x3, x4, x5, x6, x7, x8, x9]) rfl ⟨⟨_, _, _, _, _, _, rfl, ⟨?_, ?_, ?_⟩⟩, ?_⟩
      ·
       exact sl_own (enc := rgc) (by decide) (rgc_len _) (by omega) o0
      ·
       exact sl_own (enc := ics) (by decide) (ics_len _) (by omega) o1
      ·
       exact sl_own (enc := rdc) (by decide) (rdc_len _) (by omega) o4
      ·
       exact Ev.setCell (Ev.setCell (Ev.setCell (Ev.setCell (Ev.setCell (Ev.setCell (Ev.setCell (Ev.setCell (Ev.setCell (Ev.setCell hB (by simp) _) (by simp) _) (by simp) _) (by simp) _) (by simp) _) (by simp) _) (by simp) _) (by simp) _) (by simp) _) (by simp) _

end Go.Proofs.Ytgimcephbeajlaa
