import Derived.Test.YtffbkbcjddigdaaA42
set_option linter.unusedSimpArgs false
set_option linter.unusedVariables false
namespace Go.Proofs.Ytffbkbcjddigdaa
open Go.RowKit Go.Shelf

theorem wpAnyH_pass {P : Program} {md : Region.Mode} {ops : Array Oper} {Q : Exit → Act → World → Prop} {S : World → Prop} {i : Nat} {o : Oper} {fuel : Nat} {listed : Array Bool} {a : Act} {w : World} (d : Option Tmp) (ho : ops[i]? = some o) (hd : o.dst = d) (hr : Region.ready md ops listed = [i]) (hw : Region.wanted o (yielded ops a.tmps) = false) (hS : S w)
  (h : wpAnyH P md ops Q S fuel (listed.setIfInBounds i true) (a.put d undef) w) : wpAnyH P md ops Q S (fuel + 1) listed a w := by
 subst hd
 refine ⟨fun h0 => (by rw [hr] at h0; cases h0), fun j hj => ?_⟩
 rw [hr] at hj
 obtain rfl : j = i := by simpa using hj
 unfold wpOp
 rw [ho]
 simp only [hw]
 exact ⟨hS, h⟩
set_option maxRecDepth 100000 in
set_option maxHeartbeats 2000000 in
theorem ProveTruth_chk (f : M.Cf) (Ag Aw Ab Ac Al : Option Addr) (ng cg nw cw nb cb nc cc nl cl : Nat) (Tg Tw : Option Addr) (tg tgc tw twc : Nat) (t : M.Tr) (hl0 : -9223372036854775808 ≤ f.last) (w : World) (hs : CS w w.heap.size f Ag Aw Ab Ac Al ng cg nw cw nb cb nc cc nl cl) (hg : Sl ics 1 w w.heap.size Tg tg tgc t.gr) (hwt : Sl ics 1 w w.heap.size Tw tw twc t.wet) (h0 : M.check f ≠ 0) :
  Calls Try.prog 19 #[.agg #[.int .i64 f.last, .slice Ag ng cg, .slice Aw nw cw, .slice Ab nb cb, .slice Ac nc cc, .int .i64 f.ripe, .int .i64 f.late, .int .i64 f.trod, .slice Al nl cl], .agg #[.slice Tg tg tgc, .slice Tw tw twc]] w fun e w' => e = .returned (.bool false) ∧ Ev w w' := by
 have HCK := hid (fun W (hE : Ev w W) => check_c f Ag Aw Ab Ac Al ng cg nw cw nb cb nc cc nl cl hl0 W (hs.ev hE))
 generalize M.check f = ec at HCK h0
 have he : (ec == 0) = false := by simpa using h0
 have he2 : decide (ec = 0) = false := by simpa using h0
 clear h0
 go_enter Try.func19, Try.ntmps19
 go_upto_region 1 with fail
 generalize hW0 : World.alloc (World.alloc w _) _ = W0
 have hE0 : Ev w W0 := by rw [← hW0]; exact Ev.alloc (Ev.alloc (Ev.refl _) _) _
 have hal := alloc2 w (.cells #[.int .i64 f.last, .slice Ag ng cg, .slice Aw nw cw, .slice Ab nb cb, .slice Ac nc cc, .int .i64 f.ripe, .int .i64 f.late, .int .i64 f.trod, .slice Al nl cl] 38) (.cells #[.slice Tg tg tgc, .slice Tw tw twc] 40)
 rw [hW0] at hal
 have Q0 := hid hal.1
 have Q1 := hid hal.2.1
 clear hal hW0
 obtain ⟨y0, y1, y2, y3, y4, y5, y6, y7, y8⟩ := cells9 Q0.out
 obtain ⟨x0, x1⟩ := cells2 Q1.out
 have l0 := heap_lt Q0.out
 have l1 := heap_lt Q1.out
 have HSE : Hid (∀ w', Ev W0 w' → (∀ o, w'.cell? ⟨w.heap.size, o, none⟩ = W0.cell? ⟨w.heap.size, o, none⟩) ∧ (∀ o, w'.cell? ⟨w.heap.size + 1, o, none⟩ = W0.cell? ⟨w.heap.size + 1, o, none⟩)) := hid (fun w' h => ⟨fun o => h.cells.1 _ o l0, fun o => h.cells.1 _ o l1⟩)
 refine wp_region_held_drew (S := fun w' => (∀ o, w'.cell? ⟨w.heap.size, o, none⟩ = W0.cell? ⟨w.heap.size, o, none⟩) ∧ (∀ o, w'.cell? ⟨w.heap.size + 1, o, none⟩ = W0.cell? ⟨w.heap.size + 1, o, none⟩)) (by kernel_rfl) (⟨fun o => rfl, fun o => rfl⟩) (fun hHeld => ?_)
 refine tkH 0 (some 5) ?_
 (try simp only [Act.put, sA, sB, sC])
 refine wpAnyH_one (i := 1) rfl (by kernel_rfl) (by rfl) (fun K hK => ?_)
 go_simp
 refine (HCK.out _ (hE0.trans (Ev.drew (Ev.refl _)))).mono ?_
 rintro e w4 ⟨rfl, hb4⟩
 have hE4 : Ev W0 w4 := Ev.trans (Ev.drew (Ev.refl _)) hb4
 refine hK.out _ _ (HSE.out _ hE4) (fun hHeld => ?_)
 clear hK K
 (try simp only [Act.put, List.setIfInBounds_toArray, List.set_cons_zero, List.set_cons_succ])
 refine tkH 2 (some 7) ?_
 (try simp only [Act.put, sA, sB, sC])
 refine tkH 3 (some 8) ?_
 (try simp only [Act.put, sA, sB, sC])
 refine wpAnyH_skip (i := 4) (some 9) rfl (by kernel_rfl) (by kernel_rfl) (by kernel_rfl) (fun _ _ _ h => h) (by rfl) (by assumption) ?_
 (try simp only [Act.put, List.setIfInBounds_toArray, List.set_cons_zero, List.set_cons_succ])
 refine wpAnyH_skip (i := 5) (some 10) rfl (by kernel_rfl) (by kernel_rfl) (by kernel_rfl) (fun _ _ _ h => h) (by rfl) (by assumption) ?_
 (try simp only [Act.put, List.setIfInBounds_toArray, List.set_cons_zero, List.set_cons_succ])
 refine wpAnyH_pass (i := 6) (some 11) rfl rfl (by kernel_rfl) (by rfl) (by assumption) ?_
 (try simp only [Act.put, List.setIfInBounds_toArray, List.set_cons_zero, List.set_cons_succ])
 refine tkH 7 (some 12) ?_
 (try simp only [Act.put, sA, sB, sC])
 refine tkH 8 (some 13) ?_
 (try simp only [Act.put, sA, sB, sC])
 refine wpAnyH_skip (i := 9) (some 14) rfl (by kernel_rfl) (by kernel_rfl) (by kernel_rfl) (fun _ _ _ h => h) (by rfl) (by assumption) ?_
 (try simp only [Act.put, List.setIfInBounds_toArray, List.set_cons_zero, List.set_cons_succ])
 refine wpAnyH_skip (i := 10) (some 15) rfl (by kernel_rfl) (by kernel_rfl) (by kernel_rfl) (fun _ _ _ h => h) (by rfl) (by assumption) ?_
 (try simp only [Act.put, List.setIfInBounds_toArray, List.set_cons_zero, List.set_cons_succ])
 refine wpAnyH_skip (i := 11) (some 16) rfl (by kernel_rfl) (by kernel_rfl) (by kernel_rfl) (fun _ _ _ h => h) (by rfl) (by assumption) ?_
 (try simp only [Act.put, List.setIfInBounds_toArray, List.set_cons_zero, List.set_cons_succ])
 refine wpAnyH_skip (i := 12) (some 17) rfl (by kernel_rfl) (by kernel_rfl) (by kernel_rfl) (fun _ _ _ h => h) (by rfl) (by assumption) ?_
 (try simp only [Act.put, List.setIfInBounds_toArray, List.set_cons_zero, List.set_cons_succ])
 refine wpAnyH_skip (i := 14) (some 19) rfl (by kernel_rfl) (by kernel_rfl) (by kernel_rfl) (fun _ _ _ h => h) (by rfl) (by assumption) ?_
 (try simp only [Act.put, List.setIfInBounds_toArray, List.set_cons_zero, List.set_cons_succ])
 refine wpAnyH_skip (i := 15) (some 20) rfl (by kernel_rfl) (by kernel_rfl) (by kernel_rfl) (fun _ _ _ h => h) (by rfl) (by assumption) ?_
 (try simp only [Act.put, List.setIfInBounds_toArray, List.set_cons_zero, List.set_cons_succ])
 refine wpAnyH_pass (i := 13) (some 18) rfl rfl (by kernel_rfl) (by rfl) (by assumption) ?_
 (try simp only [Act.put, List.setIfInBounds_toArray, List.set_cons_zero, List.set_cons_succ])
 refine wpAnyH_pass (i := 16) (some 21) rfl rfl (by kernel_rfl) (by rfl) (by assumption) ?_
 (try simp only [Act.put, List.setIfInBounds_toArray, List.set_cons_zero, List.set_cons_succ])
 refine tkH 17 (some 22) ?_
 (try simp only [Act.put, sA, sB, sC])
 refine tkH 18 (some 4) ?_
 (try simp only [Act.put, sA, sB, sC])
 refine wpAnyH_done (by kernel_rfl) ?_ _
 go_wp2
 go_ret
 exact ⟨rfl, hE0.trans hE4⟩

set_option maxRecDepth 100000 in
set_option maxHeartbeats 2000000 in
theorem ProveTruth_bad (f : M.Cf) (Ag Aw Ab Ac Al : Option Addr) (ng cg nw cw nb cb nc cc nl cl : Nat) (Tg Tw : Option Addr) (tg tgc tw twc : Nat) (t : M.Tr) (hl0 : -9223372036854775808 ≤ f.last) (w : World) (hs : CS w w.heap.size f Ag Aw Ab Ac Al ng cg nw cw nb cb nc cc nl cl) (hg : Sl ics 1 w w.heap.size Tg tg tgc t.gr) (hwt : Sl ics 1 w w.heap.size Tw tw twc t.wet) (h0 : M.check f = 0) (hb : M.listed f t = false) :
  Calls Try.prog 19 #[.agg #[.int .i64 f.last, .slice Ag ng cg, .slice Aw nw cw, .slice Ab nb cb, .slice Ac nc cc, .int .i64 f.ripe, .int .i64 f.late, .int .i64 f.trod, .slice Al nl cl], .agg #[.slice Tg tg tgc, .slice Tw tw twc]] w fun e w' => e = .returned (.bool false) ∧ Ev w w' := by
 have HCK := hid (fun W (hE : Ev w W) => check_c f Ag Aw Ab Ac Al ng cg nw cw nb cb nc cc nl cl hl0 W (hs.ev hE))
 rw [h0] at HCK
 obtain ⟨hl9, hb3, _, hv, _⟩ := M.check0 h0
 have hvp := M.valid_parts hv
 have hgn := hs.g.len
 have hwn := hs.w_.len
 have HTR := hid (fun W (hE : Ev w W) => isTruth_c f Ag Aw Ab Ac Al ng cg nw cw nb cb nc cc nl cl Tg Tw tg tgc tw twc t (by omega) (by omega) W (hs.ev hE) (hg.ev hE) (hwt.ev hE))
 rw [hb] at HTR
 clear hvp hgn hwn h0
 go_enter Try.func19, Try.ntmps19
 go_upto_region 1 with fail
 generalize hW0 : World.alloc (World.alloc w _) _ = W0
 have hE0 : Ev w W0 := by rw [← hW0]; exact Ev.alloc (Ev.alloc (Ev.refl _) _) _
 have hal := alloc2 w (.cells #[.int .i64 f.last, .slice Ag ng cg, .slice Aw nw cw, .slice Ab nb cb, .slice Ac nc cc, .int .i64 f.ripe, .int .i64 f.late, .int .i64 f.trod, .slice Al nl cl] 38) (.cells #[.slice Tg tg tgc, .slice Tw tw twc] 40)
 rw [hW0] at hal
 have Q0 := hid hal.1
 have Q1 := hid hal.2.1
 clear hal hW0
 obtain ⟨y0, y1, y2, y3, y4, y5, y6, y7, y8⟩ := cells9 Q0.out
 obtain ⟨x0, x1⟩ := cells2 Q1.out
 have l0 := heap_lt Q0.out
 have l1 := heap_lt Q1.out
 have HSE : Hid (∀ w', Ev W0 w' → (∀ o, w'.cell? ⟨w.heap.size, o, none⟩ = W0.cell? ⟨w.heap.size, o, none⟩) ∧ (∀ o, w'.cell? ⟨w.heap.size + 1, o, none⟩ = W0.cell? ⟨w.heap.size + 1, o, none⟩)) := hid (fun w' h => ⟨fun o => h.cells.1 _ o l0, fun o => h.cells.1 _ o l1⟩)
 refine wp_region_held_drew (S := fun w' => (∀ o, w'.cell? ⟨w.heap.size, o, none⟩ = W0.cell? ⟨w.heap.size, o, none⟩) ∧ (∀ o, w'.cell? ⟨w.heap.size + 1, o, none⟩ = W0.cell? ⟨w.heap.size + 1, o, none⟩)) (by kernel_rfl) (⟨fun o => rfl, fun o => rfl⟩) (fun hHeld => ?_)
 refine tkH 0 (some 5) ?_
 (try simp only [Act.put, sA, sB, sC])
 refine wpAnyH_one (i := 1) rfl (by kernel_rfl) (by rfl) (fun K hK => ?_)
 go_simp
 refine (HCK.out _ (hE0.trans (Ev.drew (Ev.refl _)))).mono ?_
 rintro e w4 ⟨rfl, hb4⟩
 have hE4 : Ev W0 w4 := Ev.trans (Ev.drew (Ev.refl _)) hb4
 refine hK.out _ _ (HSE.out _ hE4) (fun hHeld => ?_)
 clear hK K
 (try simp only [Act.put, List.setIfInBounds_toArray, List.set_cons_zero, List.set_cons_succ])
 refine tkH 2 (some 7) ?_
 (try simp only [Act.put, sA, sB, sC])
 refine tkH 3 (some 8) ?_
 (try simp only [Act.put, sA, sB, sC])
 refine tkH 4 (some 9) ?_
 (try simp only [Act.put, sA, sB, sC])
 refine tkH 5 (some 10) ?_
 (try simp only [Act.put, sA, sB, sC])
 refine wpAnyH_one (i := 6) rfl (by kernel_rfl) (by rfl) (fun K hK => ?_)
 go_simp
 refine (HTR.out _ (hE0.trans hE4)).mono ?_
 rintro e w5 ⟨rfl, hb5⟩
 have hE5 : Ev W0 w5 := hE4.trans hb5
 refine hK.out _ _ (HSE.out _ hE5) (fun hHeld => ?_)
 clear hK K
 (try simp only [Act.put, List.setIfInBounds_toArray, List.set_cons_zero, List.set_cons_succ])
 refine tkH 7 (some 12) ?_
 (try simp only [Act.put, sA, sB, sC])
 refine tkH 8 (some 13) ?_
 (try simp only [Act.put, sA, sB, sC])
 refine wpAnyH_skip (i := 9) (some 14) rfl (by kernel_rfl) (by kernel_rfl) (by kernel_rfl) (fun _ _ _ h => h) (by rfl) (by assumption) ?_
 (try simp only [Act.put, List.setIfInBounds_toArray, List.set_cons_zero, List.set_cons_succ])
 refine wpAnyH_skip (i := 10) (some 15) rfl (by kernel_rfl) (by kernel_rfl) (by kernel_rfl) (fun _ _ _ h => h) (by rfl) (by assumption) ?_
 (try simp only [Act.put, List.setIfInBounds_toArray, List.set_cons_zero, List.set_cons_succ])
 refine wpAnyH_skip (i := 11) (some 16) rfl (by kernel_rfl) (by kernel_rfl) (by kernel_rfl) (fun _ _ _ h => h) (by rfl) (by assumption) ?_
 (try simp only [Act.put, List.setIfInBounds_toArray, List.set_cons_zero, List.set_cons_succ])
 refine wpAnyH_skip (i := 12) (some 17) rfl (by kernel_rfl) (by kernel_rfl) (by kernel_rfl) (fun _ _ _ h => h) (by rfl) (by assumption) ?_
 (try simp only [Act.put, List.setIfInBounds_toArray, List.set_cons_zero, List.set_cons_succ])
 refine wpAnyH_skip (i := 14) (some 19) rfl (by kernel_rfl) (by kernel_rfl) (by kernel_rfl) (fun _ _ _ h => h) (by rfl) (by assumption) ?_
 (try simp only [Act.put, List.setIfInBounds_toArray, List.set_cons_zero, List.set_cons_succ])
 refine wpAnyH_skip (i := 15) (some 20) rfl (by kernel_rfl) (by kernel_rfl) (by kernel_rfl) (fun _ _ _ h => h) (by rfl) (by assumption) ?_
 (try simp only [Act.put, List.setIfInBounds_toArray, List.set_cons_zero, List.set_cons_succ])
 refine wpAnyH_pass (i := 13) (some 18) rfl rfl (by kernel_rfl) (by rfl) (by assumption) ?_
 (try simp only [Act.put, List.setIfInBounds_toArray, List.set_cons_zero, List.set_cons_succ])
 refine wpAnyH_pass (i := 16) (some 21) rfl rfl (by kernel_rfl) (by rfl) (by assumption) ?_
 (try simp only [Act.put, List.setIfInBounds_toArray, List.set_cons_zero, List.set_cons_succ])
 refine tkH 17 (some 22) ?_
 (try simp only [Act.put, sA, sB, sC])
 refine tkH 18 (some 4) ?_
 (try simp only [Act.put, sA, sB, sC])
 refine wpAnyH_done (by kernel_rfl) ?_ _
 go_wp2
 go_ret
 exact ⟨rfl, hE0.trans hE5⟩

set_option maxRecDepth 100000 in
set_option maxHeartbeats 2000000 in
theorem ProveTruth_ok (f : M.Cf) (Ag Aw Ab Ac Al : Option Addr) (ng cg nw cw nb cb nc cc nl cl : Nat) (Tg Tw : Option Addr) (tg tgc tw twc : Nat) (t : M.Tr) (hl0 : -9223372036854775808 ≤ f.last) (w : World) (hs : CS w w.heap.size f Ag Aw Ab Ac Al ng cg nw cw nb cb nc cc nl cl) (hg : Sl ics 1 w w.heap.size Tg tg tgc t.gr) (hwt : Sl ics 1 w w.heap.size Tw tw twc t.wet) (h0 : M.check f = 0) (ha : M.listed f t = true) :
  Calls Try.prog 19 #[.agg #[.int .i64 f.last, .slice Ag ng cg, .slice Aw nw cw, .slice Ab nb cb, .slice Ac nc cc, .int .i64 f.ripe, .int .i64 f.late, .int .i64 f.trod, .slice Al nl cl], .agg #[.slice Tg tg tgc, .slice Tw tw twc]] w fun e w' => e = .returned (.bool (M.right f t)) ∧ Ev w w' := by
 have HCK := hid (fun W (hE : Ev w W) => check_c f Ag Aw Ab Ac Al ng cg nw cw nb cb nc cc nl cl hl0 W (hs.ev hE))
 rw [h0] at HCK
 obtain ⟨hl9, hb3, _, hv, _⟩ := M.check0 h0
 have hvp := M.valid_parts hv
 have hgn := hs.g.len
 have hwn := hs.w_.len
 have HTR := hid (fun W (hE : Ev w W) => isTruth_c f Ag Aw Ab Ac Al ng cg nw cw nb cb nc cc nl cl Tg Tw tg tgc tw twc t (by omega) (by omega) W (hs.ev hE) (hg.ev hE) (hwt.ev hE))
 rw [ha] at HTR
 have htb := M.listed_bd hv ha
 have htg := hg.len
 have hwl := M.weights_len (gs := t.gr) (plan := f.crops) (by have := htb.1; omega)
 obtain ⟨a0, a1, a2, a3, a4, a5, a6, a7, a8, a9, hwe⟩ := list10 hwl
 have HWT := hid (fun W (hE : Ev w W) => show Calls Try.prog 58 #[.agg #[.int .i64 f.last, .slice Ag ng cg, .slice Aw nw cw, .slice Ab nb cb, .slice Ac nc cc, .int .i64 f.ripe, .int .i64 f.late, .int .i64 f.trod, .slice Al nl cl], .agg #[.slice Tg tg tgc, .slice Tw tw twc], .slice Ac nc cc] W fun e w' => e = .returned (.agg #[.int .i64 a0, .int .i64 a1, .int .i64 a2, .int .i64 a3, .int .i64 a4, .int .i64 a5, .int .i64 a6, .int .i64 a7, .int .i64 a8, .int .i64 a9]) ∧ Ev W w' from by
  have h := weights_c f Ag Aw Ab Ac Al ng cg nw cw nb cb nc cc nl cl Tg Tw tg tgc tw twc t.gr Ac nc cc f.crops hl9 (by have := htb.1; omega) htb.2.2.1 W (hg.ev hE) (hs.c.ev hE)
  rw [hwe] at h
  simpa only [sv, List.map_cons, List.map_nil] using h)
 have HSH := hid (fun W (hE : Ev w W) => showsAll_c a0 a1 a2 a3 a4 a5 a6 a7 a8 a9 Al nl cl f.looks (M.look_bd h0) W (hs.l.ev hE))
 have HR := hid (show M.right f t = f.looks.all (M.shows [a0, a1, a2, a3, a4, a5, a6, a7, a8, a9]) by unfold M.right; rw [hwe])
 generalize f.looks.all (M.shows [a0, a1, a2, a3, a4, a5, a6, a7, a8, a9]) = rr at HSH HR
 clear hvp hgn hwn h0 htb htg hwl hwe
 go_enter Try.func19, Try.ntmps19
 go_upto_region 1 with fail
 generalize hW0 : World.alloc (World.alloc w _) _ = W0
 have hE0 : Ev w W0 := by rw [← hW0]; exact Ev.alloc (Ev.alloc (Ev.refl _) _) _
 have hal := alloc2 w (.cells #[.int .i64 f.last, .slice Ag ng cg, .slice Aw nw cw, .slice Ab nb cb, .slice Ac nc cc, .int .i64 f.ripe, .int .i64 f.late, .int .i64 f.trod, .slice Al nl cl] 38) (.cells #[.slice Tg tg tgc, .slice Tw tw twc] 40)
 rw [hW0] at hal
 have Q0 := hid hal.1
 have Q1 := hid hal.2.1
 clear hal hW0
 obtain ⟨y0, y1, y2, y3, y4, y5, y6, y7, y8⟩ := cells9 Q0.out
 obtain ⟨x0, x1⟩ := cells2 Q1.out
 have l0 := heap_lt Q0.out
 have l1 := heap_lt Q1.out
 have HSE : Hid (∀ w', Ev W0 w' → (∀ o, w'.cell? ⟨w.heap.size, o, none⟩ = W0.cell? ⟨w.heap.size, o, none⟩) ∧ (∀ o, w'.cell? ⟨w.heap.size + 1, o, none⟩ = W0.cell? ⟨w.heap.size + 1, o, none⟩)) := hid (fun w' h => ⟨fun o => h.cells.1 _ o l0, fun o => h.cells.1 _ o l1⟩)
 refine wp_region_held_drew (S := fun w' => (∀ o, w'.cell? ⟨w.heap.size, o, none⟩ = W0.cell? ⟨w.heap.size, o, none⟩) ∧ (∀ o, w'.cell? ⟨w.heap.size + 1, o, none⟩ = W0.cell? ⟨w.heap.size + 1, o, none⟩)) (by kernel_rfl) (⟨fun o => rfl, fun o => rfl⟩) (fun hHeld => ?_)
 refine tkH 0 (some 5) ?_
 (try simp only [Act.put, sA, sB, sC])
 refine wpAnyH_one (i := 1) rfl (by kernel_rfl) (by rfl) (fun K hK => ?_)
 go_simp
 refine (HCK.out _ (hE0.trans (Ev.drew (Ev.refl _)))).mono ?_
 rintro e w4 ⟨rfl, hb4⟩
 have hE4 : Ev W0 w4 := Ev.trans (Ev.drew (Ev.refl _)) hb4
 refine hK.out _ _ (HSE.out _ hE4) (fun hHeld => ?_)
 clear hK K
 (try simp only [Act.put, List.setIfInBounds_toArray, List.set_cons_zero, List.set_cons_succ])
 refine tkH 2 (some 7) ?_
 (try simp only [Act.put, sA, sB, sC])
 refine tkH 3 (some 8) ?_
 (try simp only [Act.put, sA, sB, sC])
 refine tkH 4 (some 9) ?_
 (try simp only [Act.put, sA, sB, sC])
 refine tkH 5 (some 10) ?_
 (try simp only [Act.put, sA, sB, sC])
 refine wpAnyH_one (i := 6) rfl (by kernel_rfl) (by rfl) (fun K hK => ?_)
 go_simp
 refine (HTR.out _ (hE0.trans hE4)).mono ?_
 rintro e w5 ⟨rfl, hb5⟩
 have hE5 : Ev W0 w5 := hE4.trans hb5
 refine hK.out _ _ (HSE.out _ hE5) (fun hHeld => ?_)
 clear hK K
 (try simp only [Act.put, List.setIfInBounds_toArray, List.set_cons_zero, List.set_cons_succ])
 refine tkH 7 (some 12) ?_
 (try simp only [Act.put, sA, sB, sC])
 refine tkH 8 (some 13) ?_
 (try simp only [Act.put, sA, sB, sC])
 refine tkH 9 (some 14) ?_
 (try simp only [Act.put, sA, sB, sC])
 refine tkH 10 (some 15) ?_
 (try simp only [Act.put, sA, sB, sC])
 refine tkH 11 (some 16) ?_
 (try simp only [Act.put, sA, sB, sC])
 refine tkH 12 (some 17) ?_
 (try simp only [Act.put, sA, sB, sC])
 refine tkH 14 (some 19) ?_
 (try simp only [Act.put, sA, sB, sC])
 refine tkH 15 (some 20) ?_
 (try simp only [Act.put, sA, sB, sC])
 refine wpAnyH_one (i := 13) rfl (by kernel_rfl) (by rfl) (fun K hK => ?_)
 go_simp
 refine (HWT.out _ (hE0.trans hE5)).mono ?_
 rintro e w6 ⟨rfl, hb6⟩
 have hE6 : Ev W0 w6 := hE5.trans hb6
 refine hK.out _ _ (HSE.out _ hE6) (fun hHeld => ?_)
 clear hK K
 (try simp only [Act.put, List.setIfInBounds_toArray, List.set_cons_zero, List.set_cons_succ])
 refine wpAnyH_one (i := 16) rfl (by kernel_rfl) (by rfl) (fun K hK => ?_)
 go_simp
 refine (HSH.out _ (hE0.trans hE6)).mono ?_
 rintro e w7 ⟨rfl, hb7⟩
 have hE7 : Ev W0 w7 := hE6.trans hb7
 refine hK.out _ _ (HSE.out _ hE7) (fun hHeld => ?_)
 clear hK K
 (try simp only [Act.put, List.setIfInBounds_toArray, List.set_cons_zero, List.set_cons_succ])
 refine tkH 17 (some 22) ?_
 (try simp only [Act.put, sA, sB, sC])
 refine tkH 18 (some 4) ?_
 (try simp only [Act.put, sA, sB, sC])
 refine wpAnyH_done (by kernel_rfl) ?_ _
 go_wp2
 go_ret
 exact ⟨by rw [HR.out]; rfl, hE0.trans hE7⟩

set_option maxRecDepth 100000 in
set_option maxHeartbeats 2000000 in
theorem ProveWorth_err (f : M.Cf) (Ag Aw Ab Ac Al : Option Addr) (ng cg nw cw nb cb nc cc nl cl : Nat) (P : Option Addr) (pn pc : Nat) (plan : List Int) (wo : Int) (hl0 : -9223372036854775808 ≤ f.last) (w : World) (hs : CS w w.heap.size f Ag Aw Ab Ac Al ng cg nw cw nb cb nc cc nl cl) (hp : Sl ics 1 w w.heap.size P pn pc plan) (h0 : M.begin f (M.isPlan f plan) ≠ 0) :
  Calls Try.prog 33 #[.agg #[.int .i64 f.last, .slice Ag ng cg, .slice Aw nw cw, .slice Ab nb cb, .slice Ac nc cc, .int .i64 f.ripe, .int .i64 f.late, .int .i64 f.trod, .slice Al nl cl], .slice P pn pc, .int .i64 wo] w fun e w' => e = .returned (.bool false) ∧ Ev w w' := by
 have HIP := hid (fun W (hE : Ev w W) => isPlan_c f Ag Aw Ab Ac Al ng cg nw cw nb cb nc cc nl cl hs.b.len hs.b.small P pn pc plan W (hp.ev hE))
 generalize M.isPlan f plan = nm at HIP h0
 have HBG := hid (fun W (hE : Ev w W) => begin_err f Ag Aw Ab Ac Al ng cg nw cw nb cb nc cc nl cl hl0 nm h0 W (hs.ev hE))
 generalize M.begin f nm = ec at HBG h0
 have he : (ec == 0) = false := by simpa using h0
 have he2 : decide (ec = 0) = false := by simpa using h0
 clear h0
 go_enter Try.func33, Try.ntmps33
 go_upto_region 1 with fail
 generalize hW0 : World.alloc w _ = W0
 have hE0 : Ev w W0 := by rw [← hW0]; exact Ev.alloc (Ev.refl _) _
 have hal := alloc1 w (.cells #[.int .i64 f.last, .slice Ag ng cg, .slice Aw nw cw, .slice Ab nb cb, .slice Ac nc cc, .int .i64 f.ripe, .int .i64 f.late, .int .i64 f.trod, .slice Al nl cl] 38)
 rw [hW0] at hal
 have Q0 := hid hal.1
 clear hal hW0
 obtain ⟨y0, y1, y2, y3, y4, y5, y6, y7, y8⟩ := cells9 Q0.out
 have l0 := heap_lt Q0.out
 have HSE : Hid (∀ w', Ev W0 w' → (∀ o, w'.cell? ⟨w.heap.size, o, none⟩ = W0.cell? ⟨w.heap.size, o, none⟩)) := hid (fun w' h => fun o => h.cells.1 _ o l0)
 refine wp_region_held_drew (S := fun w' => (∀ o, w'.cell? ⟨w.heap.size, o, none⟩ = W0.cell? ⟨w.heap.size, o, none⟩)) (by kernel_rfl) (fun o => rfl) (fun hHeld => ?_)
 refine tkH 0 (some 10) ?_
 (try simp only [Act.put, sA, sB, sC])
 refine tkH 1 (some 11) ?_
 (try simp only [Act.put, sA, sB, sC])
 refine tkH 2 (some 12) ?_
 (try simp only [Act.put, sA, sB, sC])
 refine wpAnyH_one (i := 3) rfl (by kernel_rfl) (by rfl) (fun K hK => ?_)
 go_simp
 refine (HIP.out _ (hE0.trans (Ev.drew (Ev.refl _)))).mono ?_
 rintro e w4 ⟨rfl, hb4⟩
 have hE4 : Ev W0 w4 := Ev.trans (Ev.drew (Ev.refl _)) hb4
 refine hK.out _ _ (HSE.out _ hE4) (fun hHeld => ?_)
 clear hK K
 (try simp only [Act.put, List.setIfInBounds_toArray, List.set_cons_zero, List.set_cons_succ])
 refine wpAnyH_one (i := 4) rfl (by kernel_rfl) (by rfl) (fun K hK => ?_)
 go_simp
 refine (HBG.out _ (hE0.trans hE4)).mono ?_
 rintro e w5 ⟨rfl, hb5⟩
 have hE5 : Ev W0 w5 := hE4.trans hb5
 refine hK.out _ _ (HSE.out _ hE5) (fun hHeld => ?_)
 clear hK K
 (try simp only [Act.put, List.setIfInBounds_toArray, List.set_cons_zero, List.set_cons_succ])
 refine tkH 5 (some 9) ?_
 (try simp only [Act.put, sA, sB, sC])
 refine tkH 6 (some 15) ?_
 (try simp only [Act.put, sA, sB, sC])
 refine tkH 7 (some 16) ?_
 (try simp only [Act.put, sA, sB, sC])
 refine tkH 8 (some 7) ?_
 (try simp only [Act.put, sA, sB, sC])
 refine tkH 9 (some 8) ?_
 (try simp only [Act.put, sA, sB, sC])
 refine wpAnyH_done (by kernel_rfl) ?_ _
 clear y0 y1 y2 y3 y4 y5 y6 y7 y8
 go_wp2_with (refine ⟨trivial, ?_⟩)
 go_ret
 exact ⟨rfl, hE0.trans hE5⟩

set_option maxRecDepth 100000 in
set_option maxHeartbeats 2000000 in
theorem ProveWorth_ok (f : M.Cf) (Ag Aw Ab Ac Al : Option Addr) (ng cg nw cw nb cb nc cc nl cl : Nat) (P : Option Addr) (pn pc : Nat) (plan : List Int) (wo : Int) (hl0 : -9223372036854775808 ≤ f.last) (w : World) (hs : CS w w.heap.size f Ag Aw Ab Ac Al ng cg nw cw nb cb nc cc nl cl) (hp : Sl ics 1 w w.heap.size P pn pc plan) (h0 : M.begin f (M.isPlan f plan) = 0) :
  Calls Try.prog 33 #[.agg #[.int .i64 f.last, .slice Ag ng cg, .slice Aw nw cw, .slice Ab nb cb, .slice Ac nc cc, .int .i64 f.ripe, .int .i64 f.late, .int .i64 f.trod, .slice Al nl cl], .slice P pn pc, .int .i64 wo] w fun e w' => e = .returned (.bool (decide (wo ≤ (M.worth f plan).lo))) ∧ Ev w w' := by
 obtain ⟨hc0, hnm, hne⟩ := M.begin0 h0
 have hts := M.truths_listed hc0
 have hpl := hnm
 have HIP := hid (fun W (hE : Ev w W) => isPlan_c f Ag Aw Ab Ac Al ng cg nw cw nb cb nc cc nl cl hs.b.len hs.b.small P pn pc plan W (hp.ev hE))
 rw [hnm] at HIP h0
 have HBG := hid (fun W (hE : Ev w W) => begin_ok f Ag Aw Ab Ac Al ng cg nw cw nb cb nc cc nl cl hl0 true h0 W (hs.ev hE))
 clear h0
 go_enter Try.func33, Try.ntmps33
 go_upto_region 1 with fail
 generalize hW0 : World.alloc w _ = W0
 have hE0 : Ev w W0 := by rw [← hW0]; exact Ev.alloc (Ev.refl _) _
 have hal := alloc1 w (.cells #[.int .i64 f.last, .slice Ag ng cg, .slice Aw nw cw, .slice Ab nb cb, .slice Ac nc cc, .int .i64 f.ripe, .int .i64 f.late, .int .i64 f.trod, .slice Al nl cl] 38)
 rw [hW0] at hal
 have Q0 := hid hal.1
 clear hal hW0
 obtain ⟨y0, y1, y2, y3, y4, y5, y6, y7, y8⟩ := cells9 Q0.out
 have l0 := heap_lt Q0.out
 have HSE : Hid (∀ w', Ev W0 w' → (∀ o, w'.cell? ⟨w.heap.size, o, none⟩ = W0.cell? ⟨w.heap.size, o, none⟩)) := hid (fun w' h => fun o => h.cells.1 _ o l0)
 refine wp_region_held_drew (S := fun w' => (∀ o, w'.cell? ⟨w.heap.size, o, none⟩ = W0.cell? ⟨w.heap.size, o, none⟩)) (by kernel_rfl) (fun o => rfl) (fun hHeld => ?_)
 refine tkH 0 (some 10) ?_
 (try simp only [Act.put, sA, sB, sC])
 refine tkH 1 (some 11) ?_
 (try simp only [Act.put, sA, sB, sC])
 refine tkH 2 (some 12) ?_
 (try simp only [Act.put, sA, sB, sC])
 refine wpAnyH_one (i := 3) rfl (by kernel_rfl) (by rfl) (fun K hK => ?_)
 go_simp
 refine (HIP.out _ (hE0.trans (Ev.drew (Ev.refl _)))).mono ?_
 rintro e w4 ⟨rfl, hb4⟩
 have hE4 : Ev W0 w4 := Ev.trans (Ev.drew (Ev.refl _)) hb4
 refine hK.out _ _ (HSE.out _ hE4) (fun hHeld => ?_)
 clear hK K
 (try simp only [Act.put, List.setIfInBounds_toArray, List.set_cons_zero, List.set_cons_succ])
 refine wpAnyH_one (i := 4) rfl (by kernel_rfl) (by rfl) (fun K hK => ?_)
 go_simp
 refine (HBG.out _ (hE0.trans hE4)).mono ?_
 rintro e w5 ⟨⟨At, As, nt, ct, ns, cs, p, mb, rfl, hwc, hmb⟩, hb5⟩
 have hE5 : Ev W0 w5 := hE4.trans hb5
 refine hK.out _ _ (HSE.out _ hE5) (fun hHeld => ?_)
 clear hK K
 (try simp only [Act.put, List.setIfInBounds_toArray, List.set_cons_zero, List.set_cons_succ])
 refine tkH 5 (some 9) ?_
 (try simp only [Act.put, sA, sB, sC])
 refine tkH 6 (some 15) ?_
 (try simp only [Act.put, sA, sB, sC])
 refine tkH 7 (some 16) ?_
 (try simp only [Act.put, sA, sB, sC])
 refine tkH 8 (some 7) ?_
 (try simp only [Act.put, sA, sB, sC])
 refine tkH 9 (some 8) ?_
 (try simp only [Act.put, sA, sB, sC])
 refine wpAnyH_done (by kernel_rfl) ?_ _
 have hs4 := hE4.size
 have hs0 := hE0.size
 have hnt : 0 < nt := by
  rw [← hwc.ntl]
  exact List.length_pos_iff.2 hne
 have HWO := hid (worths_c f Ag Aw Ab Ac Al ng cg nw cw nb cb nc cc nl cl At As nt ct ns cs p mb P pn pc plan (M.truths f) (M.stands f) hc0 hts hpl w5 hwc ((hp.ev hE0).ev hE5))
 have HSPX := hid (fun B d W (h : Sl ics 1 W W.heap.size B nt d ((M.truths f).map fun t => M.total f t plan)) => (show Calls Try.prog 65 #[.slice B nt d] W fun e w' => e = .returned (.agg #[.int .i64 (M.worth f plan).lo, .int .i64 (M.worth f plan).hi]) ∧ Ev W w' from spanL_c B nt d _ W hnt h))
 have fieldLo' := fieldLo (M.worth f plan).lo (M.worth f plan).hi
 clear y0 y1 y2 y3 y4 y5 y6 y7 y8 hwc
 go_wp2_with (first | (go_at_call 66; with_reducible refine HWO.out.mono ?_; rintro e w6 ⟨⟨B, d, rfl, hsl⟩, hw6, hm6⟩; have HSP := hid (HSPX.out B d w6 hsl); have HM6 := hid hm6; clear hsl hw6 hm6) | (go_at_call 65; with_reducible refine HSP.out.mono ?_; rintro e w7 ⟨rfl, hb7⟩) | (refine ⟨trivial, ?_⟩))
 go_ret
 exact ⟨rfl, (Mo.evr (hE0.trans hE5) HM6.out (by omega)).trans hb7⟩

end Go.Proofs.Ytffbkbcjddigdaa
