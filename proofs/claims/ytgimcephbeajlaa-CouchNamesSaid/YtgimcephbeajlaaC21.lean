import Derived.Test.YtgimcephbeajlaaC20
set_option linter.unusedSimpArgs false
set_option linter.unusedVariables false
namespace Go.Proofs.Ytgimcephbeajlaa
open Go.RowKit Go.Shelf

set_option maxRecDepth 100000 in
set_option maxHeartbeats 2000000 in
theorem ProveTruth_chk (f : M.Cf) (Aw At Ar : Option Addr) (nw cw nt ct nr cr : Nat) (Tw : Option Addr) (tw twc : Nat) (t : M.Tr) (hl0 : -9223372036854775808 ≤ f.last) (w : World) (hs : CS w w.heap.size f Aw At Ar nw cw nt ct nr cr) (hwt : Sl ics 1 w w.heap.size Tw tw twc t.wet) (h0 : M.check f ≠ 0) :
  Calls Try.prog 24 #[.agg #[.int .i64 f.last, .int .i64 f.size, .int .i64 f.cool, .int .i64 f.die, .int .i64 f.burn, .int .i64 f.st.lo, .int .i64 f.st.hi, .slice Aw nw cw, .slice At nt ct, .slice Ar nr cr], .agg #[.int .i64 t.st, .slice Tw tw twc]] w fun e w' => e = .returned (.bool false) ∧ Ev w w' := by
 have HCK := hid (fun W (hE : Ev w W) => check_c f Aw At Ar nw cw nt ct nr cr hl0 W (hs.ev hE))
 generalize M.check f = ec at HCK h0
 have he : (ec == 0) = false := by simpa using h0
 have he2 : decide (ec = 0) = false := by simpa using h0
 clear h0
 go_enter Try.func24, Try.ntmps24
 go_upto_region 1 with fail
 generalize hW0 : World.alloc (World.alloc w _) _ = W0
 have hE0 : Ev w W0 := by rw [← hW0]; exact Ev.alloc (Ev.alloc (Ev.refl _) _) _
 have hal := alloc2 w (.cells #[.int .i64 f.last, .int .i64 f.size, .int .i64 f.cool, .int .i64 f.die, .int .i64 f.burn, .int .i64 f.st.lo, .int .i64 f.st.hi, .slice Aw nw cw, .slice At nt ct, .slice Ar nr cr] 40) (.cells #[.int .i64 t.st, .slice Tw tw twc] 42)
 rw [hW0] at hal
 have Q0 := hid hal.1
 have Q1 := hid hal.2.1
 clear hal hW0
 obtain ⟨y0, y1, y2, y3, y4, y5, y6, y7, y8, y9⟩ := cells10 Q0.out
 obtain ⟨x0, x1⟩ := cells2 Q1.out
 have l0 := heap_lt Q0.out
 have l1 := heap_lt Q1.out
 have HSE : Hid (∀ w', Ev W0 w' → (∀ o, w'.cell? ⟨w.heap.size, o, none⟩ = W0.cell? ⟨w.heap.size, o, none⟩) ∧ (∀ o, w'.cell? ⟨w.heap.size + 1, o, none⟩ = W0.cell? ⟨w.heap.size + 1, o, none⟩)) := hid (fun w' h => ⟨fun o => h.cells.1 _ o l0, fun o => h.cells.1 _ o l1⟩)
 refine wp_region_held_drew (S := fun w' => (∀ o, w'.cell? ⟨w.heap.size, o, none⟩ = W0.cell? ⟨w.heap.size, o, none⟩) ∧ (∀ o, w'.cell? ⟨w.heap.size + 1, o, none⟩ = W0.cell? ⟨w.heap.size + 1, o, none⟩)) (by kernel_rfl) (⟨fun o => rfl, fun o => rfl⟩) (fun hHeld => ?_)
 refine tkH 0 (some 5) ?_
 (try simp only [Act.put, sA, sB, sC])
 refine wpAnyH_one (i := 1) rfl (by kernel_rfl) (by rfl) (fun K hK => ?_)
 go_simp
 refine (HCK.out _ (hE0.trans (Ev.drew (Ev.refl _)))).mono ?_
 rintro e w4 ⟨rfl, hb4⟩
 have hE4 : Ev W0 w4 := Ev.trans (Ev.drew (Ev.refl _)) hb4
 refine hK.out _ _ (HSE.out _ hE4) (fun hHeld => ?_)
 clear hK K
 (try simp only [Act.put, List.setIfInBounds_toArray, List.set_cons_zero, List.set_cons_succ])
 refine tkH 2 (some 7) ?_
 (try simp only [Act.put, sA, sB, sC])
 refine tkH 3 (some 8) ?_
 (try simp only [Act.put, sA, sB, sC])
 refine wpAnyH_skip (i := 4) (some 9) rfl (by kernel_rfl) (by kernel_rfl) (by kernel_rfl) (fun _ _ _ h => h) (by rfl) (by assumption) ?_
 (try simp only [Act.put, List.setIfInBounds_toArray, List.set_cons_zero, List.set_cons_succ])
 refine wpAnyH_skip (i := 5) (some 10) rfl (by kernel_rfl) (by kernel_rfl) (by kernel_rfl) (fun _ _ _ h => h) (by rfl) (by assumption) ?_
 (try simp only [Act.put, List.setIfInBounds_toArray, List.set_cons_zero, List.set_cons_succ])
 refine wpAnyH_pass (i := 6) (some 11) rfl rfl (by kernel_rfl) (by rfl) (by assumption) ?_
 (try simp only [Act.put, List.setIfInBounds_toArray, List.set_cons_zero, List.set_cons_succ])
 refine tkH 7 (some 12) ?_
 (try simp only [Act.put, sA, sB, sC])
 refine tkH 8 (some 13) ?_
 (try simp only [Act.put, sA, sB, sC])
 refine wpAnyH_skip (i := 9) (some 14) rfl (by kernel_rfl) (by kernel_rfl) (by kernel_rfl) (fun _ _ _ h => h) (by rfl) (by assumption) ?_
 (try simp only [Act.put, List.setIfInBounds_toArray, List.set_cons_zero, List.set_cons_succ])
 refine wpAnyH_skip (i := 11) (some 16) rfl (by kernel_rfl) (by kernel_rfl) (by kernel_rfl) (fun _ _ _ h => h) (by rfl) (by assumption) ?_
 (try simp only [Act.put, List.setIfInBounds_toArray, List.set_cons_zero, List.set_cons_succ])
 refine wpAnyH_skip (i := 12) (some 17) rfl (by kernel_rfl) (by kernel_rfl) (by kernel_rfl) (fun _ _ _ h => h) (by rfl) (by assumption) ?_
 (try simp only [Act.put, List.setIfInBounds_toArray, List.set_cons_zero, List.set_cons_succ])
 refine wpAnyH_skip (i := 13) (some 18) rfl (by kernel_rfl) (by kernel_rfl) (by kernel_rfl) (fun _ _ _ h => h) (by rfl) (by assumption) ?_
 (try simp only [Act.put, List.setIfInBounds_toArray, List.set_cons_zero, List.set_cons_succ])
 refine wpAnyH_skip (i := 15) (some 20) rfl (by kernel_rfl) (by kernel_rfl) (by kernel_rfl) (fun _ _ _ h => h) (by rfl) (by assumption) ?_
 (try simp only [Act.put, List.setIfInBounds_toArray, List.set_cons_zero, List.set_cons_succ])
 refine wpAnyH_skip (i := 16) (some 21) rfl (by kernel_rfl) (by kernel_rfl) (by kernel_rfl) (fun _ _ _ h => h) (by rfl) (by assumption) ?_
 (try simp only [Act.put, List.setIfInBounds_toArray, List.set_cons_zero, List.set_cons_succ])
 refine wpAnyH_pass (i := 10) (some 15) rfl rfl (by kernel_rfl) (by rfl) (by assumption) ?_
 (try simp only [Act.put, List.setIfInBounds_toArray, List.set_cons_zero, List.set_cons_succ])
 refine wpAnyH_pass (i := 14) (some 19) rfl rfl (by kernel_rfl) (by rfl) (by assumption) ?_
 (try simp only [Act.put, List.setIfInBounds_toArray, List.set_cons_zero, List.set_cons_succ])
 refine wpAnyH_pass (i := 17) (some 22) rfl rfl (by kernel_rfl) (by rfl) (by assumption) ?_
 (try simp only [Act.put, List.setIfInBounds_toArray, List.set_cons_zero, List.set_cons_succ])
 refine tkH 18 (some 23) ?_
 (try simp only [Act.put, sA, sB, sC])
 refine tkH 19 (some 4) ?_
 (try simp only [Act.put, sA, sB, sC])
 refine wpAnyH_done (by kernel_rfl) ?_ _
 go_wp2
 go_ret
 exact ⟨rfl, hE0.trans hE4⟩

set_option maxRecDepth 100000 in
set_option maxHeartbeats 2000000 in
theorem ProveTruth_bad (f : M.Cf) (Aw At Ar : Option Addr) (nw cw nt ct nr cr : Nat) (Tw : Option Addr) (tw twc : Nat) (t : M.Tr) (hl0 : -9223372036854775808 ≤ f.last) (w : World) (hs : CS w w.heap.size f Aw At Ar nw cw nt ct nr cr) (hwt : Sl ics 1 w w.heap.size Tw tw twc t.wet) (h0 : M.check f = 0) (hb : M.listed f t = false) :
  Calls Try.prog 24 #[.agg #[.int .i64 f.last, .int .i64 f.size, .int .i64 f.cool, .int .i64 f.die, .int .i64 f.burn, .int .i64 f.st.lo, .int .i64 f.st.hi, .slice Aw nw cw, .slice At nt ct, .slice Ar nr cr], .agg #[.int .i64 t.st, .slice Tw tw twc]] w fun e w' => e = .returned (.bool false) ∧ Ev w w' := by
 have HCK := hid (fun W (hE : Ev w W) => check_c f Aw At Ar nw cw nt ct nr cr hl0 W (hs.ev hE))
 rw [h0] at HCK
 have HTR := hid (fun W (hE : Ev w W) => isTruth_c f Aw At Ar nw cw nt ct nr cr Tw tw twc t W (hs.ev hE) (hwt.ev hE))
 rw [hb] at HTR
 clear h0
 go_enter Try.func24, Try.ntmps24
 go_upto_region 1 with fail
 generalize hW0 : World.alloc (World.alloc w _) _ = W0
 have hE0 : Ev w W0 := by rw [← hW0]; exact Ev.alloc (Ev.alloc (Ev.refl _) _) _
 have hal := alloc2 w (.cells #[.int .i64 f.last, .int .i64 f.size, .int .i64 f.cool, .int .i64 f.die, .int .i64 f.burn, .int .i64 f.st.lo, .int .i64 f.st.hi, .slice Aw nw cw, .slice At nt ct, .slice Ar nr cr] 40) (.cells #[.int .i64 t.st, .slice Tw tw twc] 42)
 rw [hW0] at hal
 have Q0 := hid hal.1
 have Q1 := hid hal.2.1
 clear hal hW0
 obtain ⟨y0, y1, y2, y3, y4, y5, y6, y7, y8, y9⟩ := cells10 Q0.out
 obtain ⟨x0, x1⟩ := cells2 Q1.out
 have l0 := heap_lt Q0.out
 have l1 := heap_lt Q1.out
 have HSE : Hid (∀ w', Ev W0 w' → (∀ o, w'.cell? ⟨w.heap.size, o, none⟩ = W0.cell? ⟨w.heap.size, o, none⟩) ∧ (∀ o, w'.cell? ⟨w.heap.size + 1, o, none⟩ = W0.cell? ⟨w.heap.size + 1, o, none⟩)) := hid (fun w' h => ⟨fun o => h.cells.1 _ o l0, fun o => h.cells.1 _ o l1⟩)
 refine wp_region_held_drew (S := fun w' => (∀ o, w'.cell? ⟨w.heap.size, o, none⟩ = W0.cell? ⟨w.heap.size, o, none⟩) ∧ (∀ o, w'.cell? ⟨w.heap.size + 1, o, none⟩ = W0.cell? ⟨w.heap.size + 1, o, none⟩)) (by kernel_rfl) (⟨fun o => rfl, fun o => rfl⟩) (fun hHeld => ?_)
 refine tkH 0 (some 5) ?_
 (try simp only [Act.put, sA, sB, sC])
 refine wpAnyH_one (i := 1) rfl (by kernel_rfl) (by rfl) (fun K hK => ?_)
 go_simp
 refine (HCK.out _ (hE0.trans (Ev.drew (Ev.refl _)))).mono ?_
 rintro e w4 ⟨rfl, hb4⟩
 have hE4 : Ev W0 w4 := Ev.trans (Ev.drew (Ev.refl _)) hb4
 refine hK.out _ _ (HSE.out _ hE4) (fun hHeld => ?_)
 clear hK K
 (try simp only [Act.put, List.setIfInBounds_toArray, List.set_cons_zero, List.set_cons_succ])
 refine tkH 2 (some 7) ?_
 (try simp only [Act.put, sA, sB, sC])
 refine tkH 3 (some 8) ?_
 (try simp only [Act.put, sA, sB, sC])
 refine tkH 4 (some 9) ?_
 (try simp only [Act.put, sA, sB, sC])
 refine tkH 5 (some 10) ?_
 (try simp only [Act.put, sA, sB, sC])
 refine wpAnyH_one (i := 6) rfl (by kernel_rfl) (by rfl) (fun K hK => ?_)
 go_simp
 refine (HTR.out _ (hE0.trans hE4)).mono ?_
 rintro e w5 ⟨rfl, hb5⟩
 have hE5 : Ev W0 w5 := hE4.trans hb5
 refine hK.out _ _ (HSE.out _ hE5) (fun hHeld => ?_)
 clear hK K
 (try simp only [Act.put, List.setIfInBounds_toArray, List.set_cons_zero, List.set_cons_succ])
 refine tkH 7 (some 12) ?_
 (try simp only [Act.put, sA, sB, sC])
 refine tkH 8 (some 13) ?_
 (try simp only [Act.put, sA, sB, sC])
 refine wpAnyH_skip (i := 9) (some 14) rfl (by kernel_rfl) (by kernel_rfl) (by kernel_rfl) (fun _ _ _ h => h) (by rfl) (by assumption) ?_
 (try simp only [Act.put, List.setIfInBounds_toArray, List.set_cons_zero, List.set_cons_succ])
 refine wpAnyH_skip (i := 11) (some 16) rfl (by kernel_rfl) (by kernel_rfl) (by kernel_rfl) (fun _ _ _ h => h) (by rfl) (by assumption) ?_
 (try simp only [Act.put, List.setIfInBounds_toArray, List.set_cons_zero, List.set_cons_succ])
 refine wpAnyH_skip (i := 12) (some 17) rfl (by kernel_rfl) (by kernel_rfl) (by kernel_rfl) (fun _ _ _ h => h) (by rfl) (by assumption) ?_
 (try simp only [Act.put, List.setIfInBounds_toArray, List.set_cons_zero, List.set_cons_succ])
 refine wpAnyH_skip (i := 13) (some 18) rfl (by kernel_rfl) (by kernel_rfl) (by kernel_rfl) (fun _ _ _ h => h) (by rfl) (by assumption) ?_
 (try simp only [Act.put, List.setIfInBounds_toArray, List.set_cons_zero, List.set_cons_succ])
 refine wpAnyH_skip (i := 15) (some 20) rfl (by kernel_rfl) (by kernel_rfl) (by kernel_rfl) (fun _ _ _ h => h) (by rfl) (by assumption) ?_
 (try simp only [Act.put, List.setIfInBounds_toArray, List.set_cons_zero, List.set_cons_succ])
 refine wpAnyH_skip (i := 16) (some 21) rfl (by kernel_rfl) (by kernel_rfl) (by kernel_rfl) (fun _ _ _ h => h) (by rfl) (by assumption) ?_
 (try simp only [Act.put, List.setIfInBounds_toArray, List.set_cons_zero, List.set_cons_succ])
 refine wpAnyH_pass (i := 10) (some 15) rfl rfl (by kernel_rfl) (by rfl) (by assumption) ?_
 (try simp only [Act.put, List.setIfInBounds_toArray, List.set_cons_zero, List.set_cons_succ])
 refine wpAnyH_pass (i := 14) (some 19) rfl rfl (by kernel_rfl) (by rfl) (by assumption) ?_
 (try simp only [Act.put, List.setIfInBounds_toArray, List.set_cons_zero, List.set_cons_succ])
 refine wpAnyH_pass (i := 17) (some 22) rfl rfl (by kernel_rfl) (by rfl) (by assumption) ?_
 (try simp only [Act.put, List.setIfInBounds_toArray, List.set_cons_zero, List.set_cons_succ])
 refine tkH 18 (some 23) ?_
 (try simp only [Act.put, sA, sB, sC])
 refine tkH 19 (some 4) ?_
 (try simp only [Act.put, sA, sB, sC])
 refine wpAnyH_done (by kernel_rfl) ?_ _
 go_wp2
 go_ret
 exact ⟨rfl, hE0.trans hE5⟩

set_option maxRecDepth 100000 in
set_option maxHeartbeats 4000000 in
theorem ProveTruth_ok (f : M.Cf) (Aw At Ar : Option Addr) (nw cw nt ct nr cr : Nat) (Tw : Option Addr) (tw twc : Nat) (t : M.Tr) (hl0 : -9223372036854775808 ≤ f.last) (w : World) (hs : CS w w.heap.size f Aw At Ar nw cw nt ct nr cr) (hwt : Sl ics 1 w w.heap.size Tw tw twc t.wet) (h0 : M.check f = 0) (ha : M.listed f t = true) :
  Calls Try.prog 24 #[.agg #[.int .i64 f.last, .int .i64 f.size, .int .i64 f.cool, .int .i64 f.die, .int .i64 f.burn, .int .i64 f.st.lo, .int .i64 f.st.hi, .slice Aw nw cw, .slice At nt ct, .slice Ar nr cr], .agg #[.int .i64 t.st, .slice Tw tw twc]] w fun e w' => e = .returned (.bool (M.right f t)) ∧ Ev w w' := by
 have HCK := hid (fun W (hE : Ev w W) => check_c f Aw At Ar nw cw nt ct nr cr hl0 W (hs.ev hE))
 have hc0 := h0
 rw [h0] at HCK
 have HTR := hid (fun W (hE : Ev w W) => isTruth_c f Aw At Ar nw cw nt ct nr cr Tw tw twc t W (hs.ev hE) (hwt.ev hE))
 rw [ha] at HTR
 obtain ⟨hl9, _, hv, _⟩ := M.check0 hc0
 have hvp := M.valid_parts hv
 have hln : (M.heats f t f.turns).length = 10 := M.heats_len (by have := M.listed_bd hv ha; omega)
 obtain ⟨a0, a1, a2, a3, a4, a5, a6, a7, a8, a9, hhe⟩ := list10 hln
 have HPC := hid (fun p mb W (hE : Ev w W) hpc hmi => (show Calls Try.prog 68 #[.pointer (some ⟨p, 0, none⟩), .agg #[.int .i64 t.st, .slice Tw tw twc], .slice At nt ct] W fun e w' => e = .returned (.agg #[.int .i64 a0, .int .i64 a1, .int .i64 a2, .int .i64 a3, .int .i64 a4, .int .i64 a5, .int .i64 a6, .int .i64 a7, .int .i64 a8, .int .i64 a9]) ∧ (∃ g', Loads f g' ∧ MapIs Try.prog 139 w' mb g') ∧ Mo mb W w' from by
  have h := play_c f Aw At Ar nw cw nt ct nr cr none none 0 0 0 0 p mb Tw tw twc t At nt ct f.turns hv hl9 ha (fun _ => none) (fun k v h => by simp at h) W hpc hmi (hwt.ev hE) (hs.ev hE).t
  rw [hhe] at h
  simpa only [sv, List.map_cons, List.map_nil] using h))
 have HSR := hid (fun W => start_c f Aw At Ar nw cw nt ct nr cr W)
 have HSH := hid (fun W (hE : Ev w W) => showAll_c a0 a1 a2 a3 a4 a5 a6 a7 a8 a9 Ar nr cr f.rds (M.rds_bd hc0) W (hs.ev hE).r)
 have HR := hid (show M.right f t = f.rds.all (M.shows [a0, a1, a2, a3, a4, a5, a6, a7, a8, a9]) by unfold M.right M.own; rw [hhe])
 generalize f.rds.all (M.shows [a0, a1, a2, a3, a4, a5, a6, a7, a8, a9]) = rr at HSH HR
 clear h0 hln hhe hv hvp hc0
 go_enter Try.func24, Try.ntmps24
 go_upto_region 1 with fail
 generalize hW0 : World.alloc (World.alloc w _) _ = W0
 have hE0 : Ev w W0 := by rw [← hW0]; exact Ev.alloc (Ev.alloc (Ev.refl _) _) _
 have hal := alloc2 w (.cells #[.int .i64 f.last, .int .i64 f.size, .int .i64 f.cool, .int .i64 f.die, .int .i64 f.burn, .int .i64 f.st.lo, .int .i64 f.st.hi, .slice Aw nw cw, .slice At nt ct, .slice Ar nr cr] 40) (.cells #[.int .i64 t.st, .slice Tw tw twc] 42)
 rw [hW0] at hal
 have Q0 := hid hal.1
 have Q1 := hid hal.2.1
 clear hal hW0
 obtain ⟨y0, y1, y2, y3, y4, y5, y6, y7, y8, y9⟩ := cells10 Q0.out
 obtain ⟨x0, x1⟩ := cells2 Q1.out
 have l0 := heap_lt Q0.out
 have l1 := heap_lt Q1.out
 have HSE : Hid (∀ w', Ev W0 w' → (∀ o, w'.cell? ⟨w.heap.size, o, none⟩ = W0.cell? ⟨w.heap.size, o, none⟩) ∧ (∀ o, w'.cell? ⟨w.heap.size + 1, o, none⟩ = W0.cell? ⟨w.heap.size + 1, o, none⟩)) := hid (fun w' h => ⟨fun o => h.cells.1 _ o l0, fun o => h.cells.1 _ o l1⟩)
 refine wp_region_held_drew (S := fun w' => (∀ o, w'.cell? ⟨w.heap.size, o, none⟩ = W0.cell? ⟨w.heap.size, o, none⟩) ∧ (∀ o, w'.cell? ⟨w.heap.size + 1, o, none⟩ = W0.cell? ⟨w.heap.size + 1, o, none⟩)) (by kernel_rfl) (⟨fun o => rfl, fun o => rfl⟩) (fun hHeld => ?_)
 refine tkH 0 (some 5) ?_
 (try simp only [Act.put, sA, sB, sC])
 refine wpAnyH_one (i := 1) rfl (by kernel_rfl) (by rfl) (fun K hK => ?_)
 go_simp
 refine (HCK.out _ (hE0.trans (Ev.drew (Ev.refl _)))).mono ?_
 rintro e w4 ⟨rfl, hb4⟩
 have hE4 : Ev W0 w4 := Ev.trans (Ev.drew (Ev.refl _)) hb4
 refine hK.out _ _ (HSE.out _ hE4) (fun hHeld => ?_)
 clear hK K
 (try simp only [Act.put, List.setIfInBounds_toArray, List.set_cons_zero, List.set_cons_succ])
 refine tkH 2 (some 7) ?_
 (try simp only [Act.put, sA, sB, sC])
 refine tkH 3 (some 8) ?_
 (try simp only [Act.put, sA, sB, sC])
 refine tkH 4 (some 9) ?_
 (try simp only [Act.put, sA, sB, sC])
 refine tkH 5 (some 10) ?_
 (try simp only [Act.put, sA, sB, sC])
 refine wpAnyH_one (i := 6) rfl (by kernel_rfl) (by rfl) (fun K hK => ?_)
 go_simp
 refine (HTR.out _ (hE0.trans hE4)).mono ?_
 rintro e w5 ⟨rfl, hb5⟩
 have hE5 : Ev W0 w5 := hE4.trans hb5
 refine hK.out _ _ (HSE.out _ hE5) (fun hHeld => ?_)
 clear hK K
 (try simp only [Act.put, List.setIfInBounds_toArray, List.set_cons_zero, List.set_cons_succ])
 refine tkH 7 (some 12) ?_
 (try simp only [Act.put, sA, sB, sC])
 refine tkH 8 (some 13) ?_
 (try simp only [Act.put, sA, sB, sC])
 refine tkH 9 (some 14) ?_
 (try simp only [Act.put, sA, sB, sC])
 refine tkH 11 (some 16) ?_
 (try simp only [Act.put, sA, sB, sC])
 refine tkH 12 (some 17) ?_
 (try simp only [Act.put, sA, sB, sC])
 refine tkH 13 (some 18) ?_
 (try simp only [Act.put, sA, sB, sC])
 refine tkH 15 (some 20) ?_
 (try simp only [Act.put, sA, sB, sC])
 refine tkH 16 (some 21) ?_
 (try simp only [Act.put, sA, sB, sC])
 refine wpAnyH_one (i := 10) rfl (by kernel_rfl) (by rfl) (fun K hK => ?_)
 go_simp
 refine (HSR.out _).mono ?_
 rintro e w6 ⟨⟨p, mb, rfl, hp0, hm0, hpc, hmi⟩, hb6⟩
 have hE6 : Ev W0 w6 := hE5.trans hb6
 have HPA := hid (HPC.out p mb w6 (hE0.trans hE6) hpc hmi)
 have hm0' : W0.heap.size ≤ mb := Nat.le_trans hE5.size hm0
 clear hpc hmi
 refine hK.out _ _ (HSE.out _ hE6) (fun hHeld => ?_)
 clear hK K
 (try simp only [Act.put, List.setIfInBounds_toArray, List.set_cons_zero, List.set_cons_succ])
 refine wpAnyH_one (i := 14) rfl (by kernel_rfl) (by rfl) (fun K hK => ?_)
 go_simp
 refine HPA.out.mono ?_
 rintro e w7 ⟨rfl, _, hm7⟩
 have hE7 : Ev W0 w7 := Mo.evr hE6 hm7 hm0'
 refine hK.out _ _ (HSE.out _ hE7) (fun hHeld => ?_)
 clear hK K
 (try simp only [Act.put, List.setIfInBounds_toArray, List.set_cons_zero, List.set_cons_succ])
 refine wpAnyH_one (i := 17) rfl (by kernel_rfl) (by rfl) (fun K hK => ?_)
 go_simp
 refine (HSH.out _ (hE0.trans hE7)).mono ?_
 rintro e w8 ⟨rfl, hb8⟩
 have hE8 : Ev W0 w8 := hE7.trans hb8
 refine hK.out _ _ (HSE.out _ hE8) (fun hHeld => ?_)
 clear hK K
 (try simp only [Act.put, List.setIfInBounds_toArray, List.set_cons_zero, List.set_cons_succ])
 refine tkH 18 (some 23) ?_
 (try simp only [Act.put, sA, sB, sC])
 refine tkH 19 (some 4) ?_
 (try simp only [Act.put, sA, sB, sC])
 refine wpAnyH_done (by kernel_rfl) ?_ _
 go_wp2
 go_ret
 exact ⟨by rw [HR.out]; rfl, hE0.trans hE8⟩

end Go.Proofs.Ytgimcephbeajlaa
