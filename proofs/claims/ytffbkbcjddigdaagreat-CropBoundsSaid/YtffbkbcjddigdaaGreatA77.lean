import Derived.Test.YtffbkbcjddigdaaGreatA75
import Derived.Deep.DeepCutAuto
set_option linter.unusedSimpArgs false
set_option linter.unusedVariables false
namespace Go.Proofs.YtffbkbcjddigdaaGreat
open Go.RowKit Go.Shelf

/-- The bounds of a crop, as the reference finds them. -/
def M.bdR (f : M.Cf) (ts : List M.Tr) (plan : List Int) (i : Nat) : M.Bd := ⟨M.widen ⟨1099511627776, -1⟩ (ts.map fun t => (M.crop f t plan i).wt), M.strength f plan i, M.widen ⟨1099511627776, -1⟩ (ts.map fun t => (M.crop f t plan i).wo)⟩
theorem set5' {W : World} {b : Nat} {t : TypeId} {z0 z1 z2 z3 z4 v0 v1 v2 v3 v4 : Value} (h : W.heap[b]? = some (.cells #[z0, z1, z2, z3, z4] t (0, 0))) :
  (((((W.setCell ⟨b, 0, none⟩ v0).setCell ⟨b, 1, none⟩ v1).setCell ⟨b, 2, none⟩ v2).setCell ⟨b, 3, none⟩ v3).setCell ⟨b, 4, none⟩ v4).heap[b]? = some (.cells #[v0, v1, v2, v3, v4] t (0, 0)) := by
 rw [set_heap_same (set_heap_same (set_heap_same (set_heap_same (set_heap_same h))))]; rfl

set_option maxRecDepth 100000 in
set_option maxHeartbeats 8000000 in
theorem rBounds_c (f : M.Cf) (Ag Aw Ab Ac Al : Option Addr) (ng cg nw cw nb cb nc cc nl cl : Nat) (L : Option Addr) (ln lc : Nat) (ts : List M.Tr) (P : Option Addr) (pn pc : Nat) (plan : List Int) (i : Nat) (hi : i < pn) (h0 : M.check f = 0) (hts : ∀ t ∈ ts, M.listed f t = true) (hpl : M.isPlan f plan = true) (w : World) (hs : CS w w.heap.size f Ag Aw Ab Ac Al ng cg nw cw nb cb nc cc nl cl) (hl : TL w L ln lc ts) (hp : Sl ics 1 w w.heap.size P pn pc plan) :
  Calls Tryz.prog 21 #[.agg #[.int .i64 f.last, .slice Ag ng cg, .slice Aw nw cw, .slice Ab nb cb, .slice Ac nc cc, .int .i64 f.ripe, .int .i64 f.late, .int .i64 f.trod, .slice Al nl cl], .slice L ln lc, .slice P pn pc, .int .i64 i] w fun e w' => e = .returned (.agg #[.int .i64 (M.bdR f ts plan i).wt.lo, .int .i64 (M.bdR f ts plan i).wt.hi, .int .i64 (M.bdR f ts plan i).st, .int .i64 (M.bdR f ts plan i).wo.lo, .int .i64 (M.bdR f ts plan i).wo.hi]) ∧ Ev w w' := by
 have hv := (M.check0 h0).2.2.2.1
 have hl9 := (M.check0 h0).1
 have hvp := M.valid_parts hv
 obtain ⟨hpb, hpr, hpw⟩ := M.plan_parts hpl
 have hbl := hs.b.len
 have hplen := hp.len
 have HST := hid (fun W (hE : Ev w W) => rStrength_c f Ag Aw Ab Ac Al ng cg nw cw nb cb nc cc nl cl P pn pc plan i hi (by omega) (fun x hx => by have := hpw x hx; omega) hvp.2.2.2.2.2.2.1 hvp.2.2.2.2.2.2.2.2.1 hvp.2.2.2.2.2.2.2.2.2.1 W (hs.b.ev hE) (hp.ev hE))
 have HCX := hid (fun (Tg Tw : Option Addr) (tg tgc tw twc : Nat) (t : M.Tr) (ht : t ∈ ts) W (hE : Ev w W) (hg : Sl ics 1 W W.heap.size Tg tg tgc t.gr) (hwt : Sl ics 1 W W.heap.size Tw tw twc t.wet) => rCropped_c f Ag Aw Ab Ac Al ng cg nw cw nb cb nc cc nl cl Tg Tw tg tgc tw twc t P pn pc plan i hi h0 (hts t ht) hpl W (hs.ev hE) hg hwt (hp.ev hE))
 have htl := hl.len
 have HL := hid hl
 have HTL := hid htl
 have hsm : ln ≤ 1099511627776 := by obtain ⟨_, h1, _⟩ := hl; exact h1.small
 obtain ⟨g1, hg1⟩ : ∃ g : M.Tr → Int, g = fun t => (M.crop f t plan i).wt := ⟨_, rfl⟩
 obtain ⟨g2, hg2⟩ : ∃ g : M.Tr → Int, g = fun t => (M.crop f t plan i).wo := ⟨_, rfl⟩
 have HG1 := hid (fun t => show g1 t = (M.crop f t plan i).wt from by rw [hg1])
 have HG2 := hid (fun t => show g2 t = (M.crop f t plan i).wo from by rw [hg2])
 have hres : M.bdR f ts plan i = ⟨M.widen ⟨1099511627776, -1⟩ (ts.map g1), M.strength f plan i, M.widen ⟨1099511627776, -1⟩ (ts.map g2)⟩ := by rw [hg1, hg2]; rfl
 generalize M.bdR f ts plan i = res at hres ⊢
 subst hres
 generalize M.strength f plan i = st at HST ⊢
 have HR1 := hid (rfl : M.widen ⟨1099511627776, -1⟩ (ts.map g1) = M.widen ⟨1099511627776, -1⟩ (ts.map g1))
 have HR2 := hid (rfl : M.widen ⟨1099511627776, -1⟩ (ts.map g2) = M.widen ⟨1099511627776, -1⟩ (ts.map g2))
 generalize hq1 : M.widen ⟨1099511627776, -1⟩ (ts.map g1) = res1 at HR1 ⊢
 generalize hq2 : M.widen ⟨1099511627776, -1⟩ (ts.map g2) = res2 at HR2 ⊢
 replace HR1 := hid hq1
 replace HR2 := hid hq2
 have hi0 : (0 : Int) ≤ i := by omega
 clear hs hl hp h0 hpl htl hts hg1 hg2 hv hl9 hvp hpb hpr hpw hbl hplen hq1 hq2
 go_enter Tryz.func21, Tryz.ntmps21
 go_upto_region 1 with fail
 generalize hW0 : World.alloc (World.alloc w _) _ = W0
 have hE0 : Ev w W0 := by rw [← hW0]; exact Ev.alloc (Ev.alloc (Ev.refl _) _) _
 have hal := alloc2 w (.cells #[.int .i64 f.last, .slice Ag ng cg, .slice Aw nw cw, .slice Ab nb cb, .slice Ac nc cc, .int .i64 f.ripe, .int .i64 f.late, .int .i64 f.trod, .slice Al nl cl] 26) (.cells #[.int .i64 0, .int .i64 0, .int .i64 0, .int .i64 0, .int .i64 0] 52)
 rw [hW0] at hal
 have Q0 := hid hal.1
 have Q1 := hid hal.2.1
 have HZ := hid hal.2.2
 clear hal hW0
 obtain ⟨y0, y1, y2, y3, y4, y5, y6, y7, y8⟩ := cells9 Q0.out
 have l0 := heap_lt Q0.out
 have HSE : Hid (∀ w', Ev W0 w' → (∀ o, w'.cell? ⟨w.heap.size, o, none⟩ = W0.cell? ⟨w.heap.size, o, none⟩)) := hid (fun w' h => fun o => h.cells.1 _ o l0)
 go_cut [9] (fun v W => ∃ p : Nat, v = .pointer (some ⟨p, 0, none⟩) ∧ w.heap.size + 2 ≤ p ∧ Ev w W ∧ Hid (W.heap[w.heap.size]? = some (.cells #[.int .i64 f.last, .slice Ag ng cg, .slice Aw nw cw, .slice Ab nb cb, .slice Ac nc cc, .int .i64 f.ripe, .int .i64 f.late, .int .i64 f.trod, .slice Al nl cl] 26 (0, 0))) ∧ Hid (W.heap[w.heap.size + 1]? = some (.cells #[.int .i64 0, .int .i64 0, .int .i64 0, .int .i64 0, .int .i64 0] 52 (0, 0))) ∧ Hid (W.heap[p]? = some (.cells #[.int .i64 1099511627776, .int .i64 (-1), .int .i64 st, .int .i64 1099511627776, .int .i64 (-1)] 52 (0, 0))))
 case first =>
  refine wp_region_held_drew (S := fun w' => (∀ o, w'.cell? ⟨w.heap.size, o, none⟩ = W0.cell? ⟨w.heap.size, o, none⟩)) (by kernel_rfl) (fun o => rfl) (fun hHeld => ?_)
  refine tkH 1 (some 13) ?_
  (try simp only [Act.put, sA, sB, sC])
  refine tkH 2 (some 14) ?_
  (try simp only [Act.put, sA, sB, sC])
  refine tkH 3 (some 15) ?_
  (try simp only [Act.put, sA, sB, sC])
  refine wpAnyH_ready (rs := [0, 7]) (by kernel_rfl) (by simp) ?_
  refine AllReadyH.cons rfl (fun K hK => ?_) (AllReadyH.cons rfl (fun K hK => ?_) (AllReadyH.nil))
  ·
   go_simp
   refine (Empty_c _).mono ?_
   rintro e z0 ⟨rfl, hb0⟩
   have hy0 : Ev W0 z0 := Ev.trans (Ev.drew (Ev.refl _)) hb0
   refine hK.out _ _ (HSE.out _ hy0) (fun hHeld => ?_)
   clear hK K
   (try simp only [Act.put, List.setIfInBounds_toArray, List.set_cons_zero, List.set_cons_succ])
   refine wpAnyH_ready (rs := [4, 7]) (by kernel_rfl) (by simp) ?_
   refine AllReadyH.cons rfl (fun K hK => ?_) (AllReadyH.cons rfl (fun K hK => ?_) (AllReadyH.nil))
   ·
    go_simp
    refine (HST.out _ (hE0.trans hy0)).mono ?_
    rintro e z4 ⟨rfl, hb4⟩
    have hy4 : Ev W0 z4 := Ev.trans hy0 hb4
    refine hK.out _ _ (HSE.out _ hy4) (fun hHeld => ?_)
    clear hK K
    (try simp only [Act.put, List.setIfInBounds_toArray, List.set_cons_zero, List.set_cons_succ])
    refine wpAnyH_ready (rs := [5, 7]) (by kernel_rfl) (by simp) ?_
    refine AllReadyH.cons rfl (fun K hK => ?_) (AllReadyH.cons rfl (fun K hK => ?_) (AllReadyH.nil))
    ·
     go_simp
     refine (Empty_c _).mono ?_
     rintro e z5 ⟨rfl, hb5⟩
     have hy5 : Ev W0 z5 := Ev.trans hy4 hb5
     refine hK.out _ _ (HSE.out _ hy5) (fun hHeld => ?_)
     clear hK K
     (try simp only [Act.put, List.setIfInBounds_toArray, List.set_cons_zero, List.set_cons_succ])
     refine tkH 6 (some 18) ?_
     (try simp only [Act.put, sA, sB, sC])
     refine wpAnyH_one (i := 7) rfl (by kernel_rfl) (by rfl) (fun K hK => ?_)
     go_simp
     generalize hWA : World.alloc z5 _ = WA
     have hal := alloc1 z5 (.cells #[.int .i64 0, .int .i64 0, .int .i64 0, .int .i64 0, .int .i64 0] 52)
     have hbA : Ev z5 WA := by rw [← hWA]; exact Ev.alloc (Ev.refl _) _
     have hqA := hal.1
     rw [hWA] at hqA
     have hxA : Ev W0 WA := hy5.trans hbA
     have hpA : W0.heap.size ≤ z5.heap.size := hy5.size
     clear hal hWA
     refine hK.out _ _ (HSE.out _ hxA) (fun hHeld => ?_)
     clear hK K
     (try simp only [Act.put, List.setIfInBounds_toArray, List.set_cons_zero, List.set_cons_succ])
     refine wpAnyH_one (i := 8) rfl (by kernel_rfl) (by rfl) (fun K hK => ?_)
     have hq9 := hid hqA
     obtain ⟨u0, u1, u2, u3, u4⟩ := cells5 hq9.out
     obtain ⟨v0, v1, v2, v3, v4⟩ := frz5 hq9.out
     have hpp : w.heap.size + 2 ≤ z5.heap.size := by have := HZ.out; have := hpA; omega
     have hne : w.heap.size ≠ z5.heap.size := by omega
     go_simp
     refine hK.out _ _ (fun o => (cell_set_ne hne).trans ((cell_set_ne hne).trans ((cell_set_ne hne).trans ((cell_set_ne hne).trans ((cell_set_ne hne).trans (HSE.out _ hxA o)))))) (fun hHeld => ?_)
     clear hK K
     (try simp only [Act.put, List.setIfInBounds_toArray, List.set_cons_zero, List.set_cons_succ])
     refine wpAnyH_done (by kernel_rfl) ?_ _
     go_wp2_with fail
     go_meet
     exact ⟨z5.heap.size, rfl, hpp, (Ev.setCell (Ev.setCell (Ev.setCell (Ev.setCell (Ev.setCell (hE0.trans hxA) (by show w.heap.size ≤ z5.heap.size; omega) _) (by show w.heap.size ≤ z5.heap.size; omega) _) (by show w.heap.size ≤ z5.heap.size; omega) _) (by show w.heap.size ≤ z5.heap.size; omega) _) (by show w.heap.size ≤ z5.heap.size; omega) _), hid (set_heap (set_heap (set_heap (set_heap (set_heap (hxA.heap Q0.out) (by omega)) (by omega)) (by omega)) (by omega)) (by omega)), hid (set_heap (set_heap (set_heap (set_heap (set_heap (hxA.heap Q1.out) (by omega)) (by omega)) (by omega)) (by omega)) (by omega)), hid (set5' hq9.out)⟩
    ·
     go_simp
     generalize hWA : World.alloc z4 _ = WA
     have hal := alloc1 z4 (.cells #[.int .i64 0, .int .i64 0, .int .i64 0, .int .i64 0, .int .i64 0] 52)
     have hbA : Ev z4 WA := by rw [← hWA]; exact Ev.alloc (Ev.refl _) _
     have hqA := hal.1
     rw [hWA] at hqA
     have hxA : Ev W0 WA := hy4.trans hbA
     have hpA : W0.heap.size ≤ z4.heap.size := hy4.size
     clear hal hWA
     refine hK.out _ _ (HSE.out _ hxA) (fun hHeld => ?_)
     clear hK K
     (try simp only [Act.put, List.setIfInBounds_toArray, List.set_cons_zero, List.set_cons_succ])
     refine wpAnyH_one (i := 5) rfl (by kernel_rfl) (by rfl) (fun K hK => ?_)
     go_simp
     refine (Empty_c _).mono ?_
     rintro e z5 ⟨rfl, hb5⟩
     have hy5 : Ev W0 z5 := Ev.trans hxA hb5
     refine hK.out _ _ (HSE.out _ hy5) (fun hHeld => ?_)
     clear hK K
     (try simp only [Act.put, List.setIfInBounds_toArray, List.set_cons_zero, List.set_cons_succ])
     refine tkH 6 (some 18) ?_
     (try simp only [Act.put, sA, sB, sC])
     refine wpAnyH_one (i := 8) rfl (by kernel_rfl) (by rfl) (fun K hK => ?_)
     have hq9 := hid (hb5.heap hqA)
     obtain ⟨u0, u1, u2, u3, u4⟩ := cells5 hq9.out
     obtain ⟨v0, v1, v2, v3, v4⟩ := frz5 hq9.out
     have hpp : w.heap.size + 2 ≤ z4.heap.size := by have := HZ.out; have := hpA; omega
     have hne : w.heap.size ≠ z4.heap.size := by omega
     go_simp
     refine hK.out _ _ (fun o => (cell_set_ne hne).trans ((cell_set_ne hne).trans ((cell_set_ne hne).trans ((cell_set_ne hne).trans ((cell_set_ne hne).trans (HSE.out _ hy5 o)))))) (fun hHeld => ?_)
     clear hK K
     (try simp only [Act.put, List.setIfInBounds_toArray, List.set_cons_zero, List.set_cons_succ])
     refine wpAnyH_done (by kernel_rfl) ?_ _
     go_wp2_with fail
     go_meet
     exact ⟨z4.heap.size, rfl, hpp, (Ev.setCell (Ev.setCell (Ev.setCell (Ev.setCell (Ev.setCell (hE0.trans hy5) (by show w.heap.size ≤ z4.heap.size; omega) _) (by show w.heap.size ≤ z4.heap.size; omega) _) (by show w.heap.size ≤ z4.heap.size; omega) _) (by show w.heap.size ≤ z4.heap.size; omega) _) (by show w.heap.size ≤ z4.heap.size; omega) _), hid (set_heap (set_heap (set_heap (set_heap (set_heap (hy5.heap Q0.out) (by omega)) (by omega)) (by omega)) (by omega)) (by omega)), hid (set_heap (set_heap (set_heap (set_heap (set_heap (hy5.heap Q1.out) (by omega)) (by omega)) (by omega)) (by omega)) (by omega)), hid (set5' hq9.out)⟩
   ·
    go_simp
    generalize hWA : World.alloc z0 _ = WA
    have hal := alloc1 z0 (.cells #[.int .i64 0, .int .i64 0, .int .i64 0, .int .i64 0, .int .i64 0] 52)
    have hbA : Ev z0 WA := by rw [← hWA]; exact Ev.alloc (Ev.refl _) _
    have hqA := hal.1
    rw [hWA] at hqA
    have hxA : Ev W0 WA := hy0.trans hbA
    have hpA : W0.heap.size ≤ z0.heap.size := hy0.size
    clear hal hWA
    refine hK.out _ _ (HSE.out _ hxA) (fun hHeld => ?_)
    clear hK K
    (try simp only [Act.put, List.setIfInBounds_toArray, List.set_cons_zero, List.set_cons_succ])
    refine wpAnyH_one (i := 4) rfl (by kernel_rfl) (by rfl) (fun K hK => ?_)
    go_simp
    refine (HST.out _ (hE0.trans hxA)).mono ?_
    rintro e z4 ⟨rfl, hb4⟩
    have hy4 : Ev W0 z4 := Ev.trans hxA hb4
    refine hK.out _ _ (HSE.out _ hy4) (fun hHeld => ?_)
    clear hK K
    (try simp only [Act.put, List.setIfInBounds_toArray, List.set_cons_zero, List.set_cons_succ])
    refine wpAnyH_one (i := 5) rfl (by kernel_rfl) (by rfl) (fun K hK => ?_)
    go_simp
    refine (Empty_c _).mono ?_
    rintro e z5 ⟨rfl, hb5⟩
    have hy5 : Ev W0 z5 := Ev.trans hy4 hb5
    refine hK.out _ _ (HSE.out _ hy5) (fun hHeld => ?_)
    clear hK K
    (try simp only [Act.put, List.setIfInBounds_toArray, List.set_cons_zero, List.set_cons_succ])
    refine tkH 6 (some 18) ?_
    (try simp only [Act.put, sA, sB, sC])
    refine wpAnyH_one (i := 8) rfl (by kernel_rfl) (by rfl) (fun K hK => ?_)
    have hq9 := hid (hb5.heap (hb4.heap hqA))
    obtain ⟨u0, u1, u2, u3, u4⟩ := cells5 hq9.out
    obtain ⟨v0, v1, v2, v3, v4⟩ := frz5 hq9.out
    have hpp : w.heap.size + 2 ≤ z0.heap.size := by have := HZ.out; have := hpA; omega
    have hne : w.heap.size ≠ z0.heap.size := by omega
    go_simp
    refine hK.out _ _ (fun o => (cell_set_ne hne).trans ((cell_set_ne hne).trans ((cell_set_ne hne).trans ((cell_set_ne hne).trans ((cell_set_ne hne).trans (HSE.out _ hy5 o)))))) (fun hHeld => ?_)
    clear hK K
    (try simp only [Act.put, List.setIfInBounds_toArray, List.set_cons_zero, List.set_cons_succ])
    refine wpAnyH_done (by kernel_rfl) ?_ _
    go_wp2_with fail
    go_meet
    exact ⟨z0.heap.size, rfl, hpp, (Ev.setCell (Ev.setCell (Ev.setCell (Ev.setCell (Ev.setCell (hE0.trans hy5) (by show w.heap.size ≤ z0.heap.size; omega) _) (by show w.heap.size ≤ z0.heap.size; omega) _) (by show w.heap.size ≤ z0.heap.size; omega) _) (by show w.heap.size ≤ z0.heap.size; omega) _) (by show w.heap.size ≤ z0.heap.size; omega) _), hid (set_heap (set_heap (set_heap (set_heap (set_heap (hy5.heap Q0.out) (by omega)) (by omega)) (by omega)) (by omega)) (by omega)), hid (set_heap (set_heap (set_heap (set_heap (set_heap (hy5.heap Q1.out) (by omega)) (by omega)) (by omega)) (by omega)) (by omega)), hid (set5' hq9.out)⟩
  ·
   go_simp
   generalize hWA : World.drew (World.alloc W0 _) = WA
   have hal := alloc1 W0 (.cells #[.int .i64 0, .int .i64 0, .int .i64 0, .int .i64 0, .int .i64 0] 52)
   have hbA : Ev W0 WA := by rw [← hWA]; exact Ev.drew (Ev.alloc (Ev.refl _) _)
   have hqA := (show Ev (World.alloc W0 (.cells #[.int .i64 0, .int .i64 0, .int .i64 0, .int .i64 0, .int .i64 0] 52)) WA from by rw [← hWA]; exact Ev.drew (Ev.refl _)).heap hal.1
   have hxA : Ev W0 WA := hbA
   have hpA : W0.heap.size ≤ W0.heap.size := Nat.le_refl _
   clear hal hWA
   refine hK.out _ _ (HSE.out _ hxA) (fun hHeld => ?_)
   clear hK K
   (try simp only [Act.put, List.setIfInBounds_toArray, List.set_cons_zero, List.set_cons_succ])
   refine wpAnyH_one (i := 0) rfl (by kernel_rfl) (by rfl) (fun K hK => ?_)
   go_simp
   refine (Empty_c _).mono ?_
   rintro e z0 ⟨rfl, hb0⟩
   have hy0 : Ev W0 z0 := Ev.trans hxA hb0
   refine hK.out _ _ (HSE.out _ hy0) (fun hHeld => ?_)
   clear hK K
   (try simp only [Act.put, List.setIfInBounds_toArray, List.set_cons_zero, List.set_cons_succ])
   refine wpAnyH_one (i := 4) rfl (by kernel_rfl) (by rfl) (fun K hK => ?_)
   go_simp
   refine (HST.out _ (hE0.trans hy0)).mono ?_
   rintro e z4 ⟨rfl, hb4⟩
   have hy4 : Ev W0 z4 := Ev.trans hy0 hb4
   refine hK.out _ _ (HSE.out _ hy4) (fun hHeld => ?_)
   clear hK K
   (try simp only [Act.put, List.setIfInBounds_toArray, List.set_cons_zero, List.set_cons_succ])
   refine wpAnyH_one (i := 5) rfl (by kernel_rfl) (by rfl) (fun K hK => ?_)
   go_simp
   refine (Empty_c _).mono ?_
   rintro e z5 ⟨rfl, hb5⟩
   have hy5 : Ev W0 z5 := Ev.trans hy4 hb5
   refine hK.out _ _ (HSE.out _ hy5) (fun hHeld => ?_)
   clear hK K
   (try simp only [Act.put, List.setIfInBounds_toArray, List.set_cons_zero, List.set_cons_succ])
   refine tkH 6 (some 18) ?_
   (try simp only [Act.put, sA, sB, sC])
   refine wpAnyH_one (i := 8) rfl (by kernel_rfl) (by rfl) (fun K hK => ?_)
   have hq9 := hid (hb5.heap (hb4.heap (hb0.heap hqA)))
   obtain ⟨u0, u1, u2, u3, u4⟩ := cells5 hq9.out
   obtain ⟨v0, v1, v2, v3, v4⟩ := frz5 hq9.out
   have hpp : w.heap.size + 2 ≤ W0.heap.size := by have := HZ.out; have := hpA; omega
   have hne : w.heap.size ≠ W0.heap.size := by omega
   go_simp
   refine hK.out _ _ (fun o => (cell_set_ne hne).trans ((cell_set_ne hne).trans ((cell_set_ne hne).trans ((cell_set_ne hne).trans ((cell_set_ne hne).trans (HSE.out _ hy5 o)))))) (fun hHeld => ?_)
   clear hK K
   (try simp only [Act.put, List.setIfInBounds_toArray, List.set_cons_zero, List.set_cons_succ])
   refine wpAnyH_done (by kernel_rfl) ?_ _
   go_wp2_with fail
   go_meet
   exact ⟨W0.heap.size, rfl, hpp, (Ev.setCell (Ev.setCell (Ev.setCell (Ev.setCell (Ev.setCell (hE0.trans hy5) (by show w.heap.size ≤ W0.heap.size; omega) _) (by show w.heap.size ≤ W0.heap.size; omega) _) (by show w.heap.size ≤ W0.heap.size; omega) _) (by show w.heap.size ≤ W0.heap.size; omega) _) (by show w.heap.size ≤ W0.heap.size; omega) _), hid (set_heap (set_heap (set_heap (set_heap (set_heap (hy5.heap Q0.out) (by omega)) (by omega)) (by omega)) (by omega)) (by omega)), hid (set_heap (set_heap (set_heap (set_heap (set_heap (hy5.heap Q1.out) (by omega)) (by omega)) (by omega)) (by omega)) (by omega)), hid (set5' hq9.out)⟩
 case rest =>
  clear y0 y1 y2 y3 y4 y5 y6 y7 y8
  clear HSE l0 HST Q0 Q1 HZ hE0
  obtain ⟨p, rfl, hpw, hEw, Q0, Q1, QC⟩ := hcut
  obtain ⟨W2, hW2⟩ : ∃ x, x = wc := ⟨_, rfl⟩
  subst hW2
  go_wp2_with fail
  go_loopw [10] (fun i wr => ∃ (k : Nat) (r1 r2 : M.Rg), i = .int .i64 k ∧ k ≤ ln ∧ Ev w wr ∧ Hid (wr.heap[w.heap.size]? = some (.cells #[.int .i64 f.last, .slice Ag ng cg, .slice Aw nw cw, .slice Ab nb cb, .slice Ac nc cc, .int .i64 f.ripe, .int .i64 f.late, .int .i64 f.trod, .slice Al nl cl] 26 (0, 0))) ∧ Hid (wr.heap[w.heap.size + 1]? = some (.cells #[.int .i64 0, .int .i64 0, .int .i64 0, .int .i64 0, .int .i64 0] 52 (0, 0))) ∧ Hid (wr.heap[p]? = some (.cells #[.int .i64 r1.lo, .int .i64 r1.hi, .int .i64 st, .int .i64 r2.lo, .int .i64 r2.hi] 52 (0, 0))) ∧ Hid (M.widen r1 ((ts.drop k).map g1) = res1) ∧ Hid (M.widen r2 ((ts.drop k).map g2) = res2)) (fun i _ => ln - (intOf i).toNat)
  case atStart => exact ⟨0, ⟨1099511627776, -1⟩, ⟨1099511627776, -1⟩, rfl, by omega, hEw, Q0, Q1, QC, hid (by rw [List.drop_zero]; exact HR1.out), hid (by rw [List.drop_zero]; exact HR2.out)⟩
  case round =>
   obtain ⟨k, r1, r2, rfl, hk, hB, hQ0, hQ1, hC, HM1, HM2⟩ := hrel
   obtain ⟨W1, hW1⟩ : ∃ x, x = wr := ⟨_, rfl⟩
   subst hW1
   clear Q0 Q1 QC HR1 HR2
   obtain ⟨y0, y1, y2, y3, y4, y5, y6, y7, y8⟩ := cells9 hQ0.out
   have lq := heap_lt hQ0.out
   have lp := heap_lt hC.out
   by_cases hlt : k < ln
   ·
    obtain ⟨vs, hvs, hrs⟩ := HL.out
    have hlt' : k < ts.length := by rw [HTL.out]; exact hlt
    have hdr : ts.drop k = ts[k] :: ts.drop (k + 1) := List.drop_eq_getElem_cons hlt'
    have htk : ts[k]? = some ts[k] := List.getElem?_eq_getElem _
    generalize ts[k] = t at hdr htk
    have htm := List.mem_of_getElem? htk
    obtain ⟨b, off, v, hA, hb, hx, hxd, hcc⟩ := hvs.at_ hB hlt
    obtain ⟨t1, t2, t3, t4⟩ := (hrs.ev hB).2 k v t hx htk
    have e0 := hcc 0 _ rfl
    have e1 := hcc 1 _ rfl
    simp only [Nat.add_zero] at e0
    have hcap := hvs.cap
    have lb : b < W1.heap.size := by have := hB.size; omega
    have hsg := sl_own (enc := ics) (by decide) (ics_len _) (by omega) t1
    have hsw := sl_own (enc := ics) (by decide) (ics_len _) (by omega) t2
    have HT := hid (fun W (hE : Ev W1 W) => HCX.out v.1.1 v.2.1 v.1.2.1 v.1.2.2 v.2.2.1 v.2.2.2 t htm W (hB.trans hE) (hsg.ev hE) (hsw.ev hE))
    have hM1 := HM1.out
    have hM2 := HM2.out
    rw [hdr, List.map_cons, M.widen, HG1.out] at hM1
    rw [hdr, List.map_cons, M.widen, HG2.out] at hM2
    generalize M.crop f t plan i = cr at HT hM1 hM2
    have HWD1 := hid (fun W => Wider_c r1 cr.wt W)
    have HWD2 := hid (fun W => Wider_c r2 cr.wo W)
    generalize M.wider r1 cr.wt = s1 at HWD1 hM1
    generalize M.wider r2 cr.wo = s2 at HWD2 hM2
    have HN1 := hid hM1
    have HN2 := hid hM2
    subst hA
    clear hx hxd hcc hvs hrs t1 t2 htk htm hsg hsw hM1 hM2 HM1 HM2 hdr
    go_upto_region 5 with fail
    have HSE : Hid (∀ w', Ev W1 w' → (∀ o, w'.cell? ⟨w.heap.size, o, none⟩ = W1.cell? ⟨w.heap.size, o, none⟩) ∧ (∀ o, w'.cell? ⟨b, o, none⟩ = W1.cell? ⟨b, o, none⟩)) := hid (fun w' h => ⟨fun o => h.cells.1 _ o lq, fun o => h.cells.1 _ o lb⟩)
    go_cut [11] (fun v W => ∃ q : Nat, v = .pointer (some ⟨q, 0, none⟩) ∧ W1.heap.size ≤ q ∧ Ev W1 W ∧ Hid (W.heap[q]? = some (.cells #[.int .i64 cr.wt, .int .i64 cr.st, .int .i64 cr.wo] 86 (0, 0))))
    case first =>
     refine wp_region_held_drew (S := fun w' => (∀ o, w'.cell? ⟨w.heap.size, o, none⟩ = W1.cell? ⟨w.heap.size, o, none⟩) ∧ (∀ o, w'.cell? ⟨b, o, none⟩ = W1.cell? ⟨b, o, none⟩)) (by kernel_rfl) (⟨fun o => rfl, fun o => rfl⟩) (fun hHeld => ?_)
     refine tkH 0 (some 25) ?_
     (try simp only [Act.put, sA, sB, sC])
     refine tkH 1 (some 26) ?_
     (try simp only [Act.put, sA, sB, sC])
     refine tkH 2 (some 27) ?_
     (try simp only [Act.put, sA, sB, sC])
     refine tkH 3 (some 28) ?_
     (try simp only [Act.put, sA, sB, sC])
     refine tkH 4 (some 29) ?_
     (try simp only [Act.put, sA, sB, sC])
     refine tkH 5 (some 30) ?_
     (try simp only [Act.put, sA, sB, sC])
     refine tkH 6 (some 31) ?_
     (try simp only [Act.put, sA, sB, sC])
     refine wpAnyH_ready (rs := [7, 8]) (by kernel_rfl) (by simp) ?_
     refine AllReadyH.cons rfl (fun K hK => ?_) (AllReadyH.cons rfl (fun K hK => ?_) (AllReadyH.nil))
     ·
      go_simp
      refine (HT.out _ (Ev.drew (Ev.refl _))).mono ?_
      rintro e z7 ⟨rfl, hb7⟩
      have hy7 : Ev W1 z7 := Ev.trans (Ev.drew (Ev.refl _)) hb7
      refine hK.out _ _ (HSE.out _ hy7) (fun hHeld => ?_)
      clear hK K
      (try simp only [Act.put, List.setIfInBounds_toArray, List.set_cons_zero, List.set_cons_succ])
      refine wpAnyH_one (i := 8) rfl (by kernel_rfl) (by rfl) (fun K hK => ?_)
      go_simp
      generalize hWA : World.alloc z7 _ = WA
      have hal := alloc1 z7 (.cells #[.int .i64 0, .int .i64 0, .int .i64 0] 86)
      have hbA : Ev z7 WA := by rw [← hWA]; exact Ev.alloc (Ev.refl _) _
      have hqA := hal.1
      rw [hWA] at hqA
      have hxA : Ev W1 WA := hy7.trans hbA
      have hpA : W1.heap.size ≤ z7.heap.size := hy7.size
      clear hal hWA
      refine hK.out _ _ (HSE.out _ hxA) (fun hHeld => ?_)
      clear hK K
      (try simp only [Act.put, List.setIfInBounds_toArray, List.set_cons_zero, List.set_cons_succ])
      refine wpAnyH_one (i := 9) rfl (by kernel_rfl) (by rfl) (fun K hK => ?_)
      have hq9 := hid hqA
      obtain ⟨u0, u1, u2⟩ := cells3 hq9.out
      obtain ⟨v0, v1, v2⟩ := frz3 hq9.out
      have hn1 : w.heap.size ≠ z7.heap.size := by omega
      have hn2 : b ≠ z7.heap.size := by omega
      go_simp
      refine hK.out _ _ (⟨fun o => (cell_set_ne hn1).trans ((cell_set_ne hn1).trans ((cell_set_ne hn1).trans ((HSE.out _ hxA).1 o))), fun o => (cell_set_ne hn2).trans ((cell_set_ne hn2).trans ((cell_set_ne hn2).trans ((HSE.out _ hxA).2 o)))⟩) (fun hHeld => ?_)
      clear hK K
      (try simp only [Act.put, List.setIfInBounds_toArray, List.set_cons_zero, List.set_cons_succ])
      refine wpAnyH_done (by kernel_rfl) ?_ _
      go_wp2_with fail
      go_meet
      exact ⟨z7.heap.size, rfl, hpA, Ev.setCell (Ev.setCell (Ev.setCell hxA hpA _) hpA _) hpA _, hid (set3' hq9.out)⟩
     ·
      go_simp
      generalize hWA : World.drew (World.alloc W1 _) = WA
      have hal := alloc1 W1 (.cells #[.int .i64 0, .int .i64 0, .int .i64 0] 86)
      have hbA : Ev W1 WA := by rw [← hWA]; exact Ev.drew (Ev.alloc (Ev.refl _) _)
      have hqA := (show Ev (World.alloc W1 (.cells #[.int .i64 0, .int .i64 0, .int .i64 0] 86)) WA from by rw [← hWA]; exact Ev.drew (Ev.refl _)).heap hal.1
      have hxA : Ev W1 WA := hbA
      have hpA : W1.heap.size ≤ W1.heap.size := Nat.le_refl _
      clear hal hWA
      refine hK.out _ _ (HSE.out _ hxA) (fun hHeld => ?_)
      clear hK K
      (try simp only [Act.put, List.setIfInBounds_toArray, List.set_cons_zero, List.set_cons_succ])
      refine wpAnyH_one (i := 7) rfl (by kernel_rfl) (by rfl) (fun K hK => ?_)
      go_simp
      refine (HT.out _ hxA).mono ?_
      rintro e z7 ⟨rfl, hb7⟩
      have hy7 : Ev W1 z7 := Ev.trans hxA hb7
      refine hK.out _ _ (HSE.out _ hy7) (fun hHeld => ?_)
      clear hK K
      (try simp only [Act.put, List.setIfInBounds_toArray, List.set_cons_zero, List.set_cons_succ])
      refine wpAnyH_one (i := 9) rfl (by kernel_rfl) (by rfl) (fun K hK => ?_)
      have hq9 := hid (hb7.heap hqA)
      obtain ⟨u0, u1, u2⟩ := cells3 hq9.out
      obtain ⟨v0, v1, v2⟩ := frz3 hq9.out
      have hn1 : w.heap.size ≠ W1.heap.size := by omega
      have hn2 : b ≠ W1.heap.size := by omega
      go_simp
      refine hK.out _ _ (⟨fun o => (cell_set_ne hn1).trans ((cell_set_ne hn1).trans ((cell_set_ne hn1).trans ((HSE.out _ hy7).1 o))), fun o => (cell_set_ne hn2).trans ((cell_set_ne hn2).trans ((cell_set_ne hn2).trans ((HSE.out _ hy7).2 o)))⟩) (fun hHeld => ?_)
      clear hK K
      (try simp only [Act.put, List.setIfInBounds_toArray, List.set_cons_zero, List.set_cons_succ])
      refine wpAnyH_done (by kernel_rfl) ?_ _
      go_wp2_with fail
      go_meet
      exact ⟨W1.heap.size, rfl, hpA, Ev.setCell (Ev.setCell (Ev.setCell hy7 hpA _) hpA _) hpA _, hid (set3' hq9.out)⟩
    case rest =>
     clear y0 y1 y2 y3 y4 y5 y6 y7 y8
     clear HSE HT e0 e1
     obtain ⟨q, rfl, hqW, hEc, HQ⟩ := hcut
     obtain ⟨W3, hW3⟩ : ∃ x, x = wc := ⟨_, rfl⟩
     subst hW3
     have HC3 := hid (hEc.heap hC.out)
     obtain ⟨d0, d1, d2⟩ := cells3 HQ.out
     have lq3 := heap_lt HQ.out
     have hqp : q ≠ p := by omega
     go_upto_region 6 with fail
     have HSE : Hid (∀ w', Ev W3 w' → (∀ o, w'.cell? ⟨q, o, none⟩ = W3.cell? ⟨q, o, none⟩)) := hid (fun w' h => fun o => h.cells.1 _ o lq3)
     refine wp_region_held_drew (S := fun w' => (∀ o, w'.cell? ⟨q, o, none⟩ = W3.cell? ⟨q, o, none⟩)) (by kernel_rfl) (fun o => rfl) (fun hHeld => ?_)
     refine tkH 0 (some 33) ?_
     (try simp only [Act.put, sA, sB, sC])
     refine tkH 2 (some 35) ?_
     (try simp only [Act.put, sA, sB, sC])
     refine tkH 3 (some 36) ?_
     (try simp only [Act.put, sA, sB, sC])
     refine tkH 5 (some 38) ?_
     (try simp only [Act.put, sA, sB, sC])
     refine tkH 7 (some 40) ?_
     (try simp only [Act.put, sA, sB, sC])
     refine tkH 8 (some 41) ?_
     (try simp only [Act.put, sA, sB, sC])
     refine wpAnyH_ready (rs := [1, 6]) (by kernel_rfl) (by simp) ?_
     refine AllReadyH.cons rfl (fun K hK => ?_) (AllReadyH.cons rfl (fun K hK => ?_) (AllReadyH.nil))
     ·
      obtain ⟨c0, c1, c2, c3, c4⟩ := cells5 ((Ev.refl W3).heap HC3.out)
      go_simp
      clear c0 c1 c2 c3 c4
      refine hK.out _ _ (HSE.out _ (Ev.drew (Ev.refl _))) (fun hHeld => ?_)
      clear hK K
      (try simp only [Act.put, List.setIfInBounds_toArray, List.set_cons_zero, List.set_cons_succ])
      refine wpAnyH_ready (rs := [4, 6]) (by kernel_rfl) (by simp) ?_
      refine AllReadyH.cons rfl (fun K hK => ?_) (AllReadyH.cons rfl (fun K hK => ?_) (AllReadyH.nil))
      ·
       go_simp
       refine (HWD1.out _).mono ?_
       rintro e z4 ⟨rfl, hb4⟩
       have hy4 : Ev W3 z4 := Ev.trans (Ev.drew (Ev.refl _)) hb4
       refine hK.out _ _ (HSE.out _ hy4) (fun hHeld => ?_)
       clear hK K
       (try simp only [Act.put, List.setIfInBounds_toArray, List.set_cons_zero, List.set_cons_succ])
       refine wpAnyH_one (i := 6) rfl (by kernel_rfl) (by rfl) (fun K hK => ?_)
       obtain ⟨c0, c1, c2, c3, c4⟩ := cells5 (hy4.heap HC3.out)
       go_simp
       clear c0 c1 c2 c3 c4
       refine hK.out _ _ (HSE.out _ hy4) (fun hHeld => ?_)
       clear hK K
       (try simp only [Act.put, List.setIfInBounds_toArray, List.set_cons_zero, List.set_cons_succ])
       refine tkH 10 (some 43) ?_
       (try simp only [Act.put, sA, sB, sC])
       refine wpAnyH_one (i := 9) rfl (by kernel_rfl) (by rfl) (fun K hK => ?_)
       go_simp
       refine (HWD2.out _).mono ?_
       rintro e z9 ⟨rfl, hb9⟩
       have hy9 : Ev W3 z9 := Ev.trans hy4 hb9
       refine hK.out _ _ (HSE.out _ hy9) (fun hHeld => ?_)
       clear hK K
       (try simp only [Act.put, List.setIfInBounds_toArray, List.set_cons_zero, List.set_cons_succ])
       refine wpAnyH_one (i := 11) rfl (by kernel_rfl) (by rfl) (fun K hK => ?_)
       have HP4 := hid (hy9.heap HC3.out)
       obtain ⟨c0, c1, c2, c3, c4⟩ := cells5 HP4.out
       obtain ⟨f0, f1, f2, f3, f4⟩ := frz5 HP4.out
       go_simp
       generalize hX1 : World.setCell (World.setCell z9 _ _) _ _ = X1
       have HP5 := hid (show X1.heap[p]? = some (.cells #[.int .i64 s1.lo, .int .i64 s1.hi, .int .i64 st, .int .i64 r2.lo, .int .i64 r2.hi] 52 (0, 0)) from by rw [← hX1, set_heap_same (set_heap_same HP4.out)]; rfl)
       have tr : ∀ (d : Nat) (ob : Obj), d ≠ p → z9.heap[d]? = some ob → X1.heap[d]? = some ob := fun d ob hd h => by rw [← hX1]; exact set_heap (set_heap h hd) hd
       have H0X := hid (tr _ _ (by omega) (hy9.heap (hEc.heap hQ0.out)))
       have H1X := hid (tr _ _ (by omega) (hy9.heap (hEc.heap hQ1.out)))
       have HQX := hid (tr _ _ hqp (hy9.heap HQ.out))
       have HEX := hid (show Ev w X1 from by rw [← hX1]; exact Ev.setCell (Ev.setCell ((hB.trans hEc).trans hy9) (show w.heap.size ≤ p by omega) _) (show w.heap.size ≤ p by omega) _)
       clear hX1 tr c0 c1 c2 c3 c4 f0 f1 f2 f3 f4
       refine hK.out _ _ (fun o => World.cell?_of_block (w := W3) (HQX.out.trans HQ.out.symm)) (fun hHeld => ?_)
       clear hK K
       (try simp only [Act.put, List.setIfInBounds_toArray, List.set_cons_zero, List.set_cons_succ])
       refine tkH 12 (some 44) ?_
       (try simp only [Act.put, sA, sB, sC])
       refine wpAnyH_one (i := 13) rfl (by kernel_rfl) (by rfl) (fun K hK => ?_)
       obtain ⟨c0, c1, c2, c3, c4⟩ := cells5 HP5.out
       obtain ⟨f0, f1, f2, f3, f4⟩ := frz5 HP5.out
       go_simp
       refine hK.out _ _ (fun o => (cell_set_ne hqp).trans ((cell_set_ne hqp).trans (World.cell?_of_block (w := W3) (HQX.out.trans HQ.out.symm)))) (fun hHeld => ?_)
       clear hK K
       (try simp only [Act.put, List.setIfInBounds_toArray, List.set_cons_zero, List.set_cons_succ])
       refine wpAnyH_done (by kernel_rfl) ?_ _
       go_wp2
       refine ⟨⟨k + 1, s1, s2, by go_num, by omega, Ev.setCell (Ev.setCell HEX.out (show w.heap.size ≤ p by omega) _) (show w.heap.size ≤ p by omega) _, hid (set_heap (set_heap H0X.out (by omega)) (by omega)), hid (set_heap (set_heap H1X.out (by omega)) (by omega)), hid ?_, HN1, HN2⟩, by simp [intOf]; omega⟩
       rw [set_heap_same (set_heap_same HP5.out)]
       rfl
      ·
       obtain ⟨c0, c1, c2, c3, c4⟩ := cells5 ((Ev.refl W3).heap HC3.out)
       go_simp
       clear c0 c1 c2 c3 c4
       refine hK.out _ _ (HSE.out _ (Ev.drew (Ev.refl _))) (fun hHeld => ?_)
       clear hK K
       (try simp only [Act.put, List.setIfInBounds_toArray, List.set_cons_zero, List.set_cons_succ])
       refine wpAnyH_one (i := 4) rfl (by kernel_rfl) (by rfl) (fun K hK => ?_)
       go_simp
       refine (HWD1.out _).mono ?_
       rintro e z4 ⟨rfl, hb4⟩
       have hy4 : Ev W3 z4 := Ev.trans (Ev.drew (Ev.refl _)) hb4
       refine hK.out _ _ (HSE.out _ hy4) (fun hHeld => ?_)
       clear hK K
       (try simp only [Act.put, List.setIfInBounds_toArray, List.set_cons_zero, List.set_cons_succ])
       refine tkH 10 (some 43) ?_
       (try simp only [Act.put, sA, sB, sC])
       refine wpAnyH_one (i := 9) rfl (by kernel_rfl) (by rfl) (fun K hK => ?_)
       go_simp
       refine (HWD2.out _).mono ?_
       rintro e z9 ⟨rfl, hb9⟩
       have hy9 : Ev W3 z9 := Ev.trans hy4 hb9
       refine hK.out _ _ (HSE.out _ hy9) (fun hHeld => ?_)
       clear hK K
       (try simp only [Act.put, List.setIfInBounds_toArray, List.set_cons_zero, List.set_cons_succ])
       refine wpAnyH_one (i := 11) rfl (by kernel_rfl) (by rfl) (fun K hK => ?_)
       have HP4 := hid (hy9.heap HC3.out)
       obtain ⟨c0, c1, c2, c3, c4⟩ := cells5 HP4.out
       obtain ⟨f0, f1, f2, f3, f4⟩ := frz5 HP4.out
       go_simp
       generalize hX1 : World.setCell (World.setCell z9 _ _) _ _ = X1
       have HP5 := hid (show X1.heap[p]? = some (.cells #[.int .i64 s1.lo, .int .i64 s1.hi, .int .i64 st, .int .i64 r2.lo, .int .i64 r2.hi] 52 (0, 0)) from by rw [← hX1, set_heap_same (set_heap_same HP4.out)]; rfl)
       have tr : ∀ (d : Nat) (ob : Obj), d ≠ p → z9.heap[d]? = some ob → X1.heap[d]? = some ob := fun d ob hd h => by rw [← hX1]; exact set_heap (set_heap h hd) hd
       have H0X := hid (tr _ _ (by omega) (hy9.heap (hEc.heap hQ0.out)))
       have H1X := hid (tr _ _ (by omega) (hy9.heap (hEc.heap hQ1.out)))
       have HQX := hid (tr _ _ hqp (hy9.heap HQ.out))
       have HEX := hid (show Ev w X1 from by rw [← hX1]; exact Ev.setCell (Ev.setCell ((hB.trans hEc).trans hy9) (show w.heap.size ≤ p by omega) _) (show w.heap.size ≤ p by omega) _)
       clear hX1 tr c0 c1 c2 c3 c4 f0 f1 f2 f3 f4
       refine hK.out _ _ (fun o => World.cell?_of_block (w := W3) (HQX.out.trans HQ.out.symm)) (fun hHeld => ?_)
       clear hK K
       (try simp only [Act.put, List.setIfInBounds_toArray, List.set_cons_zero, List.set_cons_succ])
       refine tkH 12 (some 44) ?_
       (try simp only [Act.put, sA, sB, sC])
       refine wpAnyH_one (i := 13) rfl (by kernel_rfl) (by rfl) (fun K hK => ?_)
       obtain ⟨c0, c1, c2, c3, c4⟩ := cells5 HP5.out
       obtain ⟨f0, f1, f2, f3, f4⟩ := frz5 HP5.out
       go_simp
       refine hK.out _ _ (fun o => (cell_set_ne hqp).trans ((cell_set_ne hqp).trans (World.cell?_of_block (w := W3) (HQX.out.trans HQ.out.symm)))) (fun hHeld => ?_)
       clear hK K
       (try simp only [Act.put, List.setIfInBounds_toArray, List.set_cons_zero, List.set_cons_succ])
       refine wpAnyH_done (by kernel_rfl) ?_ _
       go_wp2
       refine ⟨⟨k + 1, s1, s2, by go_num, by omega, Ev.setCell (Ev.setCell HEX.out (show w.heap.size ≤ p by omega) _) (show w.heap.size ≤ p by omega) _, hid (set_heap (set_heap H0X.out (by omega)) (by omega)), hid (set_heap (set_heap H1X.out (by omega)) (by omega)), hid ?_, HN1, HN2⟩, by simp [intOf]; omega⟩
       rw [set_heap_same (set_heap_same HP5.out)]
       rfl
     ·
      obtain ⟨c0, c1, c2, c3, c4⟩ := cells5 ((Ev.refl W3).heap HC3.out)
      go_simp
      clear c0 c1 c2 c3 c4
      refine hK.out _ _ (HSE.out _ (Ev.drew (Ev.refl _))) (fun hHeld => ?_)
      clear hK K
      (try simp only [Act.put, List.setIfInBounds_toArray, List.set_cons_zero, List.set_cons_succ])
      refine wpAnyH_one (i := 1) rfl (by kernel_rfl) (by rfl) (fun K hK => ?_)
      obtain ⟨c0, c1, c2, c3, c4⟩ := cells5 ((Ev.refl W3).heap HC3.out)
      go_simp
      clear c0 c1 c2 c3 c4
      refine hK.out _ _ (HSE.out _ (Ev.drew (Ev.refl _))) (fun hHeld => ?_)
      clear hK K
      (try simp only [Act.put, List.setIfInBounds_toArray, List.set_cons_zero, List.set_cons_succ])
      refine wpAnyH_one (i := 4) rfl (by kernel_rfl) (by rfl) (fun K hK => ?_)
      go_simp
      refine (HWD1.out _).mono ?_
      rintro e z4 ⟨rfl, hb4⟩
      have hy4 : Ev W3 z4 := Ev.trans (Ev.drew (Ev.refl _)) hb4
      refine hK.out _ _ (HSE.out _ hy4) (fun hHeld => ?_)
      clear hK K
      (try simp only [Act.put, List.setIfInBounds_toArray, List.set_cons_zero, List.set_cons_succ])
      refine tkH 10 (some 43) ?_
      (try simp only [Act.put, sA, sB, sC])
      refine wpAnyH_one (i := 9) rfl (by kernel_rfl) (by rfl) (fun K hK => ?_)
      go_simp
      refine (HWD2.out _).mono ?_
      rintro e z9 ⟨rfl, hb9⟩
      have hy9 : Ev W3 z9 := Ev.trans hy4 hb9
      refine hK.out _ _ (HSE.out _ hy9) (fun hHeld => ?_)
      clear hK K
      (try simp only [Act.put, List.setIfInBounds_toArray, List.set_cons_zero, List.set_cons_succ])
      refine wpAnyH_one (i := 11) rfl (by kernel_rfl) (by rfl) (fun K hK => ?_)
      have HP4 := hid (hy9.heap HC3.out)
      obtain ⟨c0, c1, c2, c3, c4⟩ := cells5 HP4.out
      obtain ⟨f0, f1, f2, f3, f4⟩ := frz5 HP4.out
      go_simp
      generalize hX1 : World.setCell (World.setCell z9 _ _) _ _ = X1
      have HP5 := hid (show X1.heap[p]? = some (.cells #[.int .i64 s1.lo, .int .i64 s1.hi, .int .i64 st, .int .i64 r2.lo, .int .i64 r2.hi] 52 (0, 0)) from by rw [← hX1, set_heap_same (set_heap_same HP4.out)]; rfl)
      have tr : ∀ (d : Nat) (ob : Obj), d ≠ p → z9.heap[d]? = some ob → X1.heap[d]? = some ob := fun d ob hd h => by rw [← hX1]; exact set_heap (set_heap h hd) hd
      have H0X := hid (tr _ _ (by omega) (hy9.heap (hEc.heap hQ0.out)))
      have H1X := hid (tr _ _ (by omega) (hy9.heap (hEc.heap hQ1.out)))
      have HQX := hid (tr _ _ hqp (hy9.heap HQ.out))
      have HEX := hid (show Ev w X1 from by rw [← hX1]; exact Ev.setCell (Ev.setCell ((hB.trans hEc).trans hy9) (show w.heap.size ≤ p by omega) _) (show w.heap.size ≤ p by omega) _)
      clear hX1 tr c0 c1 c2 c3 c4 f0 f1 f2 f3 f4
      refine hK.out _ _ (fun o => World.cell?_of_block (w := W3) (HQX.out.trans HQ.out.symm)) (fun hHeld => ?_)
      clear hK K
      (try simp only [Act.put, List.setIfInBounds_toArray, List.set_cons_zero, List.set_cons_succ])
      refine tkH 12 (some 44) ?_
      (try simp only [Act.put, sA, sB, sC])
      refine wpAnyH_one (i := 13) rfl (by kernel_rfl) (by rfl) (fun K hK => ?_)
      obtain ⟨c0, c1, c2, c3, c4⟩ := cells5 HP5.out
      obtain ⟨f0, f1, f2, f3, f4⟩ := frz5 HP5.out
      go_simp
      refine hK.out _ _ (fun o => (cell_set_ne hqp).trans ((cell_set_ne hqp).trans (World.cell?_of_block (w := W3) (HQX.out.trans HQ.out.symm)))) (fun hHeld => ?_)
      clear hK K
      (try simp only [Act.put, List.setIfInBounds_toArray, List.set_cons_zero, List.set_cons_succ])
      refine wpAnyH_done (by kernel_rfl) ?_ _
      go_wp2
      refine ⟨⟨k + 1, s1, s2, by go_num, by omega, Ev.setCell (Ev.setCell HEX.out (show w.heap.size ≤ p by omega) _) (show w.heap.size ≤ p by omega) _, hid (set_heap (set_heap H0X.out (by omega)) (by omega)), hid (set_heap (set_heap H1X.out (by omega)) (by omega)), hid ?_, HN1, HN2⟩, by simp [intOf]; omega⟩
      rw [set_heap_same (set_heap_same HP5.out)]
      rfl
   ·
    have HR1 := hid (show r1 = res1 by rw [← HM1.out, List.drop_eq_nil_of_le (by rw [HTL.out]; omega)]; rfl)
    have HR2 := hid (show r2 = res2 by rw [← HM2.out, List.drop_eq_nil_of_le (by rw [HTL.out]; omega)]; rfl)
    have hn2 : ¬ ((k : Int) < ln) := by omega
    obtain ⟨c0, c1, c2, c3, c4⟩ := cells5 hC.out
    obtain ⟨z0, z1, z2, z3, z4⟩ := cells5 hQ1.out
    obtain ⟨f0, f1, f2, f3, f4⟩ := frz5 hQ1.out
    clear HM1 HM2
    go_wp2_with fail
    have hF := set5' (v0 := .int .i64 r1.lo) (v1 := .int .i64 r1.hi) (v2 := .int .i64 st) (v3 := .int .i64 r2.lo) (v4 := .int .i64 r2.hi) hQ1.out
    obtain ⟨d0, d1, d2, d3, d4⟩ := cells5 hF
    refine bodyPost_ret (v := .agg #[.int .i64 r1.lo, .int .i64 r1.hi, .int .i64 st, .int .i64 r2.lo, .int .i64 r2.hi]) (by simp [results, Tryz.results21, go_sem, d0, d1, d2, d3, d4]) rfl ⟨by rw [HR1.out, HR2.out], ?_⟩
    exact Ev.setCell (Ev.setCell (Ev.setCell (Ev.setCell (Ev.setCell hB (by simp) _) (by simp) _) (by simp) _) (by simp) _) (by simp) _

end Go.Proofs.YtffbkbcjddigdaaGreat
