import Derived.Test.YtgimcephbeajlaaC16
set_option linter.unusedSimpArgs false
set_option linter.unusedVariables false
namespace Go.Proofs.Ytgimcephbeajlaa
open Go.RowKit Go.Shelf

theorem M.begin0 {f : M.Cf} {nm : Bool} (h : M.begin f nm = 0) : M.check f = 0 ∧ nm = true ∧ M.truths f ≠ [] := by
 unfold M.begin at h
 by_cases hc : M.check f = 0
 ·
  rw [if_neg (by simp [hc])] at h
  cases nm with
  | false => simp at h
  | true =>
   refine ⟨hc, rfl, fun ht => ?_⟩
   rw [if_neg (by simp), if_pos ht] at h
   simp at h
 ·
  rw [if_pos hc] at h
  exact absurd h hc
theorem M.truths_listed {f : M.Cf} (h0 : M.check f = 0) : ∀ t ∈ M.truths f, M.listed f t = true := fun t ht => by
 unfold M.truths at ht
 exact (M.mem_allTruths f t).1 (List.mem_filter.1 ht).1
/-- The list of a caller's, where a work has been begun. -/
theorem Sl.low {α : Type} {enc : α → List Value} {sz : Nat} {w w' : World} {A : Option Addr} {n c : Nat} {xs : List α} (h : Sl enc sz w w.heap.size A n c xs) (he : Ev w w') : Sl enc sz w' w.heap.size A n c xs := h.keep he (Nat.le_refl _)
theorem Wc.tb {w : World} {f : M.Cf} {Aw At Ar : Option Addr} {nw cw nt ct nr cr : Nat} {Ts Ss : Option Addr} {ns cs ms ds p mb : Nat} {b0 : Nat} {ts : List M.Tr} {ss : List (List Int)} (h : Wc w f Aw At Ar nw cw nt ct nr cr Ts Ss ns cs ms ds p mb b0 ts ss) : ∀ j, (Value.slice Ts ns cs).ownBlock = some j → b0 ≤ j := fun j hj => by
 obtain ⟨_, ho, _⟩ := h.tr
 exact (own_ge ho j hj).1

set_option maxRecDepth 100000 in
set_option maxHeartbeats 2000000 in
theorem Bounds_err (f : M.Cf) (Aw At Ar : Option Addr) (nw cw nt ct nr cr : Nat) (P : Option Addr) (pn pc : Nat) (plan : List Int) (hl0 : -9223372036854775808 ≤ f.last) (w : World) (hs : CS w w.heap.size f Aw At Ar nw cw nt ct nr cr) (hp : Sl ics 1 w w.heap.size P pn pc plan) (h0 : M.begin f (M.isTurns f plan) ≠ 0) :
  Calls Try.prog 31 #[.agg #[.int .i64 f.last, .int .i64 f.size, .int .i64 f.cool, .int .i64 f.die, .int .i64 f.burn, .int .i64 f.st.lo, .int .i64 f.st.hi, .slice Aw nw cw, .slice At nt ct, .slice Ar nr cr], .slice P pn pc] w fun e w' => e = .returned (.tuple #[.slice none 0 0, .int .i64 (M.begin f (M.isTurns f plan))]) ∧ Ev w w' := by
 have HIP := hid (fun W (hE : Ev w W) => isTurns_c f Aw At Ar nw cw nt ct nr cr P pn pc plan W (hp.ev hE))
 generalize M.isTurns f plan = nm at HIP h0
 have HBG := hid (fun W (hE : Ev w W) => begin_err f Aw At Ar nw cw nt ct nr cr hl0 nm h0 W (hs.ev hE))
 generalize M.begin f nm = ec at HBG h0
 have he : (ec == 0) = false := by simpa using h0
 have he2 : decide (ec = 0) = false := by simpa using h0
 clear h0
 go_enter Try.func31, Try.ntmps31
 go_upto_region 1 with fail
 generalize hW0 : World.alloc w _ = W0
 have hE0 : Ev w W0 := by rw [← hW0]; exact Ev.alloc (Ev.refl _) _
 have hal := alloc1 w (.cells #[.int .i64 f.last, .int .i64 f.size, .int .i64 f.cool, .int .i64 f.die, .int .i64 f.burn, .int .i64 f.st.lo, .int .i64 f.st.hi, .slice Aw nw cw, .slice At nt ct, .slice Ar nr cr] 40)
 rw [hW0] at hal
 have Q0 := hid hal.1
 clear hal hW0
 obtain ⟨y0, y1, y2, y3, y4, y5, y6, y7, y8, y9⟩ := cells10 Q0.out
 have l0 := heap_lt Q0.out
 have HSE : Hid (∀ w', Ev W0 w' → (∀ o, w'.cell? ⟨w.heap.size, o, none⟩ = W0.cell? ⟨w.heap.size, o, none⟩)) := hid (fun w' h => fun o => h.cells.1 _ o l0)
 refine wp_region_held_drew (S := fun w' => (∀ o, w'.cell? ⟨w.heap.size, o, none⟩ = W0.cell? ⟨w.heap.size, o, none⟩)) (by kernel_rfl) (fun o => rfl) (fun hHeld => ?_)
 refine tkH 0 (some 9) ?_
 (try simp only [Act.put, sA, sB, sC])
 refine tkH 1 (some 10) ?_
 (try simp only [Act.put, sA, sB, sC])
 refine tkH 2 (some 11) ?_
 (try simp only [Act.put, sA, sB, sC])
 refine wpAnyH_one (i := 3) rfl (by kernel_rfl) (by rfl) (fun K hK => ?_)
 go_simp
 refine (HIP.out _ (hE0.trans (Ev.drew (Ev.refl _)))).mono ?_
 rintro e w4 ⟨rfl, hb4⟩
 have hE4 : Ev W0 w4 := Ev.trans (Ev.drew (Ev.refl _)) hb4
 refine hK.out _ _ (HSE.out _ hE4) (fun hHeld => ?_)
 clear hK K
 (try simp only [Act.put, List.setIfInBounds_toArray, List.set_cons_zero, List.set_cons_succ])
 refine wpAnyH_one (i := 4) rfl (by kernel_rfl) (by rfl) (fun K hK => ?_)
 go_simp
 refine (HBG.out _ (hE0.trans hE4)).mono ?_
 rintro e w5 ⟨rfl, hb5⟩
 have hE5 : Ev W0 w5 := hE4.trans hb5
 refine hK.out _ _ (HSE.out _ hE5) (fun hHeld => ?_)
 clear hK K
 (try simp only [Act.put, List.setIfInBounds_toArray, List.set_cons_zero, List.set_cons_succ])
 refine tkH 5 (some 8) ?_
 (try simp only [Act.put, sA, sB, sC])
 refine tkH 6 (some 14) ?_
 (try simp only [Act.put, sA, sB, sC])
 refine tkH 7 (some 15) ?_
 (try simp only [Act.put, sA, sB, sC])
 refine tkH 8 (some 6) ?_
 (try simp only [Act.put, sA, sB, sC])
 refine tkH 9 (some 7) ?_
 (try simp only [Act.put, sA, sB, sC])
 refine wpAnyH_done (by kernel_rfl) ?_ _
 clear y0 y1 y2 y3 y4 y5 y6 y7 y8 y9
 go_wp2
 go_ret2
 exact ⟨rfl, hE0.trans hE5⟩

set_option maxRecDepth 100000 in
set_option maxHeartbeats 2000000 in
theorem Bounds_ok (f : M.Cf) (Aw At Ar : Option Addr) (nw cw nt ct nr cr : Nat) (P : Option Addr) (pn pc : Nat) (plan : List Int) (hl0 : -9223372036854775808 ≤ f.last) (w : World) (hs : CS w w.heap.size f Aw At Ar nw cw nt ct nr cr) (hp : Sl ics 1 w w.heap.size P pn pc plan) (h0 : M.begin f (M.isTurns f plan) = 0) :
  Calls Try.prog 31 #[.agg #[.int .i64 f.last, .int .i64 f.size, .int .i64 f.cool, .int .i64 f.die, .int .i64 f.burn, .int .i64 f.st.lo, .int .i64 f.st.hi, .slice Aw nw cw, .slice At nt ct, .slice Ar nr cr], .slice P pn pc] w fun e w' => (∃ B d, e = .returned (.tuple #[.slice B nw d, .int .i64 0]) ∧ Sl rgc 2 w' w'.heap.size B nw d (M.bounds f (M.truths f) plan)) ∧ Ev w w' := by
 obtain ⟨hc0, hpl, hne⟩ := M.begin0 h0
 have hts := M.truths_listed hc0
 have HIP := hid (fun W (hE : Ev w W) => isTurns_c f Aw At Ar nw cw nt ct nr cr P pn pc plan W (hp.ev hE))
 rw [hpl] at HIP h0
 have HBG := hid (fun W (hE : Ev w W) => begin_ok f Aw At Ar nw cw nt ct nr cr hl0 true h0 W (hs.ev hE))
 clear h0
 go_enter Try.func31, Try.ntmps31
 go_upto_region 1 with fail
 generalize hW0 : World.alloc w _ = W0
 have hE0 : Ev w W0 := by rw [← hW0]; exact Ev.alloc (Ev.refl _) _
 have hal := alloc1 w (.cells #[.int .i64 f.last, .int .i64 f.size, .int .i64 f.cool, .int .i64 f.die, .int .i64 f.burn, .int .i64 f.st.lo, .int .i64 f.st.hi, .slice Aw nw cw, .slice At nt ct, .slice Ar nr cr] 40)
 rw [hW0] at hal
 have Q0 := hid hal.1
 clear hal hW0
 obtain ⟨y0, y1, y2, y3, y4, y5, y6, y7, y8, y9⟩ := cells10 Q0.out
 have l0 := heap_lt Q0.out
 have HSE : Hid (∀ w', Ev W0 w' → (∀ o, w'.cell? ⟨w.heap.size, o, none⟩ = W0.cell? ⟨w.heap.size, o, none⟩)) := hid (fun w' h => fun o => h.cells.1 _ o l0)
 refine wp_region_held_drew (S := fun w' => (∀ o, w'.cell? ⟨w.heap.size, o, none⟩ = W0.cell? ⟨w.heap.size, o, none⟩)) (by kernel_rfl) (fun o => rfl) (fun hHeld => ?_)
 refine tkH 0 (some 9) ?_
 (try simp only [Act.put, sA, sB, sC])
 refine tkH 1 (some 10) ?_
 (try simp only [Act.put, sA, sB, sC])
 refine tkH 2 (some 11) ?_
 (try simp only [Act.put, sA, sB, sC])
 refine wpAnyH_one (i := 3) rfl (by kernel_rfl) (by rfl) (fun K hK => ?_)
 go_simp
 refine (HIP.out _ (hE0.trans (Ev.drew (Ev.refl _)))).mono ?_
 rintro e w4 ⟨rfl, hb4⟩
 have hE4 : Ev W0 w4 := Ev.trans (Ev.drew (Ev.refl _)) hb4
 refine hK.out _ _ (HSE.out _ hE4) (fun hHeld => ?_)
 clear hK K
 (try simp only [Act.put, List.setIfInBounds_toArray, List.set_cons_zero, List.set_cons_succ])
 refine wpAnyH_one (i := 4) rfl (by kernel_rfl) (by rfl) (fun K hK => ?_)
 go_simp
 refine (HBG.out _ (hE0.trans hE4)).mono ?_
 rintro e w5 ⟨⟨Ts, Ss, ns, cs, ms, ds, p, mb, rfl, hwc⟩, hb5⟩
 have hE5 : Ev W0 w5 := hE4.trans hb5
 refine hK.out _ _ (HSE.out _ hE5) (fun hHeld => ?_)
 clear hK K
 (try simp only [Act.put, List.setIfInBounds_toArray, List.set_cons_zero, List.set_cons_succ])
 refine tkH 5 (some 8) ?_
 (try simp only [Act.put, sA, sB, sC])
 refine tkH 6 (some 14) ?_
 (try simp only [Act.put, sA, sB, sC])
 refine tkH 7 (some 15) ?_
 (try simp only [Act.put, sA, sB, sC])
 refine tkH 8 (some 6) ?_
 (try simp only [Act.put, sA, sB, sC])
 refine tkH 9 (some 7) ?_
 (try simp only [Act.put, sA, sB, sC])
 refine wpAnyH_done (by kernel_rfl) ?_ _
 have hs4 := hE4.size
 have hs0 := hE0.size
 have hnt : 0 < ns := by
  rw [← hwc.len]
  exact List.length_pos_iff.2 hne
 have hm0 := hwc.b1
 have htb := hwc.tb
 have HBO := hid (bounds_c f Aw At Ar nw cw nt ct nr cr Ts Ss ns cs ms ds p mb P pn pc plan w4.heap.size (M.truths f) (M.stands f) hc0 hnt hts w5 hwc ((hp.ev hE0).ev hE5))
 clear y0 y1 y2 y3 y4 y5 y6 y7 y8 y9; clear hwc
 go_wp2_with (go_at_call 75; with_reducible refine HBO.out.mono ?_; rintro e w6 ⟨⟨B, d, rfl, hsl⟩, hw6, hm6⟩; have HSL := hid hsl; have HM6 := hid hm6; clear hsl hw6 hm6)
 go_ret2
 exact ⟨⟨B, d, rfl, HSL.out⟩, Mo.evr (hE0.trans hE5) HM6.out (by omega)⟩

set_option maxRecDepth 100000 in
set_option maxHeartbeats 2000000 in
theorem Keeps_err (f : M.Cf) (Aw At Ar : Option Addr) (nw cw nt ct nr cr : Nat) (P : Option Addr) (pn pc : Nat) (plan : List Int) (hl0 : -9223372036854775808 ≤ f.last) (w : World) (hs : CS w w.heap.size f Aw At Ar nw cw nt ct nr cr) (hp : Sl ics 1 w w.heap.size P pn pc plan) (h0 : M.begin f (M.isTurns f plan) ≠ 0) :
  Calls Try.prog 32 #[.agg #[.int .i64 f.last, .int .i64 f.size, .int .i64 f.cool, .int .i64 f.die, .int .i64 f.burn, .int .i64 f.st.lo, .int .i64 f.st.hi, .slice Aw nw cw, .slice At nt ct, .slice Ar nr cr], .slice P pn pc] w fun e w' => e = .returned (.tuple #[.int .i64 0, .int .i64 (M.begin f (M.isTurns f plan))]) ∧ Ev w w' := by
 have HIP := hid (fun W (hE : Ev w W) => isTurns_c f Aw At Ar nw cw nt ct nr cr P pn pc plan W (hp.ev hE))
 generalize M.isTurns f plan = nm at HIP h0
 have HBG := hid (fun W (hE : Ev w W) => begin_err f Aw At Ar nw cw nt ct nr cr hl0 nm h0 W (hs.ev hE))
 generalize M.begin f nm = ec at HBG h0
 have he : (ec == 0) = false := by simpa using h0
 have he2 : decide (ec = 0) = false := by simpa using h0
 clear h0
 go_enter Try.func32, Try.ntmps32
 go_upto_region 1 with fail
 generalize hW0 : World.alloc w _ = W0
 have hE0 : Ev w W0 := by rw [← hW0]; exact Ev.alloc (Ev.refl _) _
 have hal := alloc1 w (.cells #[.int .i64 f.last, .int .i64 f.size, .int .i64 f.cool, .int .i64 f.die, .int .i64 f.burn, .int .i64 f.st.lo, .int .i64 f.st.hi, .slice Aw nw cw, .slice At nt ct, .slice Ar nr cr] 40)
 rw [hW0] at hal
 have Q0 := hid hal.1
 clear hal hW0
 obtain ⟨y0, y1, y2, y3, y4, y5, y6, y7, y8, y9⟩ := cells10 Q0.out
 have l0 := heap_lt Q0.out
 have HSE : Hid (∀ w', Ev W0 w' → (∀ o, w'.cell? ⟨w.heap.size, o, none⟩ = W0.cell? ⟨w.heap.size, o, none⟩)) := hid (fun w' h => fun o => h.cells.1 _ o l0)
 refine wp_region_held_drew (S := fun w' => (∀ o, w'.cell? ⟨w.heap.size, o, none⟩ = W0.cell? ⟨w.heap.size, o, none⟩)) (by kernel_rfl) (fun o => rfl) (fun hHeld => ?_)
 refine tkH 0 (some 9) ?_
 (try simp only [Act.put, sA, sB, sC])
 refine tkH 1 (some 10) ?_
 (try simp only [Act.put, sA, sB, sC])
 refine tkH 2 (some 11) ?_
 (try simp only [Act.put, sA, sB, sC])
 refine wpAnyH_one (i := 3) rfl (by kernel_rfl) (by rfl) (fun K hK => ?_)
 go_simp
 refine (HIP.out _ (hE0.trans (Ev.drew (Ev.refl _)))).mono ?_
 rintro e w4 ⟨rfl, hb4⟩
 have hE4 : Ev W0 w4 := Ev.trans (Ev.drew (Ev.refl _)) hb4
 refine hK.out _ _ (HSE.out _ hE4) (fun hHeld => ?_)
 clear hK K
 (try simp only [Act.put, List.setIfInBounds_toArray, List.set_cons_zero, List.set_cons_succ])
 refine wpAnyH_one (i := 4) rfl (by kernel_rfl) (by rfl) (fun K hK => ?_)
 go_simp
 refine (HBG.out _ (hE0.trans hE4)).mono ?_
 rintro e w5 ⟨rfl, hb5⟩
 have hE5 : Ev W0 w5 := hE4.trans hb5
 refine hK.out _ _ (HSE.out _ hE5) (fun hHeld => ?_)
 clear hK K
 (try simp only [Act.put, List.setIfInBounds_toArray, List.set_cons_zero, List.set_cons_succ])
 refine tkH 5 (some 8) ?_
 (try simp only [Act.put, sA, sB, sC])
 refine tkH 6 (some 14) ?_
 (try simp only [Act.put, sA, sB, sC])
 refine tkH 7 (some 15) ?_
 (try simp only [Act.put, sA, sB, sC])
 refine tkH 8 (some 6) ?_
 (try simp only [Act.put, sA, sB, sC])
 refine tkH 9 (some 7) ?_
 (try simp only [Act.put, sA, sB, sC])
 refine wpAnyH_done (by kernel_rfl) ?_ _
 clear y0 y1 y2 y3 y4 y5 y6 y7 y8 y9
 go_wp2
 go_ret2
 exact ⟨rfl, hE0.trans hE5⟩

set_option maxRecDepth 100000 in
set_option maxHeartbeats 2000000 in
theorem Keeps_ok (f : M.Cf) (Aw At Ar : Option Addr) (nw cw nt ct nr cr : Nat) (P : Option Addr) (pn pc : Nat) (plan : List Int) (hl0 : -9223372036854775808 ≤ f.last) (w : World) (hs : CS w w.heap.size f Aw At Ar nw cw nt ct nr cr) (hp : Sl ics 1 w w.heap.size P pn pc plan) (h0 : M.begin f (M.isTurns f plan) = 0) :
  Calls Try.prog 32 #[.agg #[.int .i64 f.last, .int .i64 f.size, .int .i64 f.cool, .int .i64 f.die, .int .i64 f.burn, .int .i64 f.st.lo, .int .i64 f.st.hi, .slice Aw nw cw, .slice At nt ct, .slice Ar nr cr], .slice P pn pc] w fun e w' => e = .returned (.tuple #[.int .i64 (M.keepsOf f (M.truths f) plan), .int .i64 0]) ∧ Ev w w' := by
 obtain ⟨hc0, hpl, hne⟩ := M.begin0 h0
 have hts := M.truths_listed hc0
 have HIP := hid (fun W (hE : Ev w W) => isTurns_c f Aw At Ar nw cw nt ct nr cr P pn pc plan W (hp.ev hE))
 rw [hpl] at HIP h0
 have HBG := hid (fun W (hE : Ev w W) => begin_ok f Aw At Ar nw cw nt ct nr cr hl0 true h0 W (hs.ev hE))
 clear h0
 go_enter Try.func32, Try.ntmps32
 go_upto_region 1 with fail
 generalize hW0 : World.alloc w _ = W0
 have hE0 : Ev w W0 := by rw [← hW0]; exact Ev.alloc (Ev.refl _) _
 have hal := alloc1 w (.cells #[.int .i64 f.last, .int .i64 f.size, .int .i64 f.cool, .int .i64 f.die, .int .i64 f.burn, .int .i64 f.st.lo, .int .i64 f.st.hi, .slice Aw nw cw, .slice At nt ct, .slice Ar nr cr] 40)
 rw [hW0] at hal
 have Q0 := hid hal.1
 clear hal hW0
 obtain ⟨y0, y1, y2, y3, y4, y5, y6, y7, y8, y9⟩ := cells10 Q0.out
 have l0 := heap_lt Q0.out
 have HSE : Hid (∀ w', Ev W0 w' → (∀ o, w'.cell? ⟨w.heap.size, o, none⟩ = W0.cell? ⟨w.heap.size, o, none⟩)) := hid (fun w' h => fun o => h.cells.1 _ o l0)
 refine wp_region_held_drew (S := fun w' => (∀ o, w'.cell? ⟨w.heap.size, o, none⟩ = W0.cell? ⟨w.heap.size, o, none⟩)) (by kernel_rfl) (fun o => rfl) (fun hHeld => ?_)
 refine tkH 0 (some 9) ?_
 (try simp only [Act.put, sA, sB, sC])
 refine tkH 1 (some 10) ?_
 (try simp only [Act.put, sA, sB, sC])
 refine tkH 2 (some 11) ?_
 (try simp only [Act.put, sA, sB, sC])
 refine wpAnyH_one (i := 3) rfl (by kernel_rfl) (by rfl) (fun K hK => ?_)
 go_simp
 refine (HIP.out _ (hE0.trans (Ev.drew (Ev.refl _)))).mono ?_
 rintro e w4 ⟨rfl, hb4⟩
 have hE4 : Ev W0 w4 := Ev.trans (Ev.drew (Ev.refl _)) hb4
 refine hK.out _ _ (HSE.out _ hE4) (fun hHeld => ?_)
 clear hK K
 (try simp only [Act.put, List.setIfInBounds_toArray, List.set_cons_zero, List.set_cons_succ])
 refine wpAnyH_one (i := 4) rfl (by kernel_rfl) (by rfl) (fun K hK => ?_)
 go_simp
 refine (HBG.out _ (hE0.trans hE4)).mono ?_
 rintro e w5 ⟨⟨Ts, Ss, ns, cs, ms, ds, p, mb, rfl, hwc⟩, hb5⟩
 have hE5 : Ev W0 w5 := hE4.trans hb5
 refine hK.out _ _ (HSE.out _ hE5) (fun hHeld => ?_)
 clear hK K
 (try simp only [Act.put, List.setIfInBounds_toArray, List.set_cons_zero, List.set_cons_succ])
 refine tkH 5 (some 8) ?_
 (try simp only [Act.put, sA, sB, sC])
 refine tkH 6 (some 14) ?_
 (try simp only [Act.put, sA, sB, sC])
 refine tkH 7 (some 15) ?_
 (try simp only [Act.put, sA, sB, sC])
 refine tkH 8 (some 6) ?_
 (try simp only [Act.put, sA, sB, sC])
 refine tkH 9 (some 7) ?_
 (try simp only [Act.put, sA, sB, sC])
 refine wpAnyH_done (by kernel_rfl) ?_ _
 have hs4 := hE4.size
 have hs0 := hE0.size
 have hnt : 0 < ns := by
  rw [← hwc.len]
  exact List.length_pos_iff.2 hne
 have hm0 := hwc.b1
 have htb := hwc.tb
 have HBO := hid (keeps_c f Aw At Ar nw cw nt ct nr cr Ts Ss ns cs ms ds p mb P pn pc plan w4.heap.size (M.truths f) (M.stands f) hc0 hts w5 hwc (((hp.ev hE0).ev hE4).low hb5))
 clear y0 y1 y2 y3 y4 y5 y6 y7 y8 y9; clear hwc
 go_wp2_with (go_at_call 76; with_reducible refine HBO.out.mono ?_; rintro e w6 ⟨rfl, _, hm6⟩)
 go_ret2
 exact ⟨rfl, Mt.evr (hE0.trans hE5) hm6 (by omega) (fun j hj => by have := htb j hj; omega)⟩

set_option maxRecDepth 100000 in
set_option maxHeartbeats 2000000 in
theorem ProveKeeps_err (f : M.Cf) (Aw At Ar : Option Addr) (nw cw nt ct nr cr : Nat) (P : Option Addr) (pn pc : Nat) (plan : List Int) (hl0 : -9223372036854775808 ≤ f.last) (w : World) (hs : CS w w.heap.size f Aw At Ar nw cw nt ct nr cr) (hp : Sl ics 1 w w.heap.size P pn pc plan) (h0 : M.begin f (M.isTurns f plan) ≠ 0) :
  Calls Try.prog 33 #[.agg #[.int .i64 f.last, .int .i64 f.size, .int .i64 f.cool, .int .i64 f.die, .int .i64 f.burn, .int .i64 f.st.lo, .int .i64 f.st.hi, .slice Aw nw cw, .slice At nt ct, .slice Ar nr cr], .slice P pn pc] w fun e w' => e = .returned (.bool false) ∧ Ev w w' := by
 have HIP := hid (fun W (hE : Ev w W) => isTurns_c f Aw At Ar nw cw nt ct nr cr P pn pc plan W (hp.ev hE))
 generalize M.isTurns f plan = nm at HIP h0
 have HBG := hid (fun W (hE : Ev w W) => begin_err f Aw At Ar nw cw nt ct nr cr hl0 nm h0 W (hs.ev hE))
 generalize M.begin f nm = ec at HBG h0
 have he : (ec == 0) = false := by simpa using h0
 have he2 : decide (ec = 0) = false := by simpa using h0
 clear h0
 go_enter Try.func33, Try.ntmps33
 go_upto_region 1 with fail
 generalize hW0 : World.alloc w _ = W0
 have hE0 : Ev w W0 := by rw [← hW0]; exact Ev.alloc (Ev.refl _) _
 have hal := alloc1 w (.cells #[.int .i64 f.last, .int .i64 f.size, .int .i64 f.cool, .int .i64 f.die, .int .i64 f.burn, .int .i64 f.st.lo, .int .i64 f.st.hi, .slice Aw nw cw, .slice At nt ct, .slice Ar nr cr] 40)
 rw [hW0] at hal
 have Q0 := hid hal.1
 clear hal hW0
 obtain ⟨y0, y1, y2, y3, y4, y5, y6, y7, y8, y9⟩ := cells10 Q0.out
 have l0 := heap_lt Q0.out
 have HSE : Hid (∀ w', Ev W0 w' → (∀ o, w'.cell? ⟨w.heap.size, o, none⟩ = W0.cell? ⟨w.heap.size, o, none⟩)) := hid (fun w' h => fun o => h.cells.1 _ o l0)
 refine wp_region_held_drew (S := fun w' => (∀ o, w'.cell? ⟨w.heap.size, o, none⟩ = W0.cell? ⟨w.heap.size, o, none⟩)) (by kernel_rfl) (fun o => rfl) (fun hHeld => ?_)
 refine tkH 0 (some 8) ?_
 (try simp only [Act.put, sA, sB, sC])
 refine tkH 1 (some 9) ?_
 (try simp only [Act.put, sA, sB, sC])
 refine tkH 2 (some 10) ?_
 (try simp only [Act.put, sA, sB, sC])
 refine wpAnyH_one (i := 3) rfl (by kernel_rfl) (by rfl) (fun K hK => ?_)
 go_simp
 refine (HIP.out _ (hE0.trans (Ev.drew (Ev.refl _)))).mono ?_
 rintro e w4 ⟨rfl, hb4⟩
 have hE4 : Ev W0 w4 := Ev.trans (Ev.drew (Ev.refl _)) hb4
 refine hK.out _ _ (HSE.out _ hE4) (fun hHeld => ?_)
 clear hK K
 (try simp only [Act.put, List.setIfInBounds_toArray, List.set_cons_zero, List.set_cons_succ])
 refine wpAnyH_one (i := 4) rfl (by kernel_rfl) (by rfl) (fun K hK => ?_)
 go_simp
 refine (HBG.out _ (hE0.trans hE4)).mono ?_
 rintro e w5 ⟨rfl, hb5⟩
 have hE5 : Ev W0 w5 := hE4.trans hb5
 refine hK.out _ _ (HSE.out _ hE5) (fun hHeld => ?_)
 clear hK K
 (try simp only [Act.put, List.setIfInBounds_toArray, List.set_cons_zero, List.set_cons_succ])
 refine tkH 5 (some 7) ?_
 (try simp only [Act.put, sA, sB, sC])
 refine tkH 6 (some 13) ?_
 (try simp only [Act.put, sA, sB, sC])
 refine tkH 7 (some 14) ?_
 (try simp only [Act.put, sA, sB, sC])
 refine tkH 8 (some 5) ?_
 (try simp only [Act.put, sA, sB, sC])
 refine tkH 9 (some 6) ?_
 (try simp only [Act.put, sA, sB, sC])
 refine wpAnyH_done (by kernel_rfl) ?_ _
 clear y0 y1 y2 y3 y4 y5 y6 y7 y8 y9
 go_wp2_with (refine ⟨trivial, ?_⟩)
 go_ret
 exact ⟨rfl, hE0.trans hE5⟩

set_option maxRecDepth 100000 in
set_option maxHeartbeats 2000000 in
theorem ProveKeeps_ok (f : M.Cf) (Aw At Ar : Option Addr) (nw cw nt ct nr cr : Nat) (P : Option Addr) (pn pc : Nat) (plan : List Int) (hl0 : -9223372036854775808 ≤ f.last) (w : World) (hs : CS w w.heap.size f Aw At Ar nw cw nt ct nr cr) (hp : Sl ics 1 w w.heap.size P pn pc plan) (h0 : M.begin f (M.isTurns f plan) = 0) :
  Calls Try.prog 33 #[.agg #[.int .i64 f.last, .int .i64 f.size, .int .i64 f.cool, .int .i64 f.die, .int .i64 f.burn, .int .i64 f.st.lo, .int .i64 f.st.hi, .slice Aw nw cw, .slice At nt ct, .slice Ar nr cr], .slice P pn pc] w fun e w' => e = .returned (.bool ((M.truths f).all fun t => M.stays f t plan)) ∧ Ev w w' := by
 obtain ⟨hc0, hpl, hne⟩ := M.begin0 h0
 have hts := M.truths_listed hc0
 have HIP := hid (fun W (hE : Ev w W) => isTurns_c f Aw At Ar nw cw nt ct nr cr P pn pc plan W (hp.ev hE))
 rw [hpl] at HIP h0
 have HBG := hid (fun W (hE : Ev w W) => begin_ok f Aw At Ar nw cw nt ct nr cr hl0 true h0 W (hs.ev hE))
 clear h0
 go_enter Try.func33, Try.ntmps33
 go_upto_region 1 with fail
 generalize hW0 : World.alloc w _ = W0
 have hE0 : Ev w W0 := by rw [← hW0]; exact Ev.alloc (Ev.refl _) _
 have hal := alloc1 w (.cells #[.int .i64 f.last, .int .i64 f.size, .int .i64 f.cool, .int .i64 f.die, .int .i64 f.burn, .int .i64 f.st.lo, .int .i64 f.st.hi, .slice Aw nw cw, .slice At nt ct, .slice Ar nr cr] 40)
 rw [hW0] at hal
 have Q0 := hid hal.1
 clear hal hW0
 obtain ⟨y0, y1, y2, y3, y4, y5, y6, y7, y8, y9⟩ := cells10 Q0.out
 have l0 := heap_lt Q0.out
 have HSE : Hid (∀ w', Ev W0 w' → (∀ o, w'.cell? ⟨w.heap.size, o, none⟩ = W0.cell? ⟨w.heap.size, o, none⟩)) := hid (fun w' h => fun o => h.cells.1 _ o l0)
 refine wp_region_held_drew (S := fun w' => (∀ o, w'.cell? ⟨w.heap.size, o, none⟩ = W0.cell? ⟨w.heap.size, o, none⟩)) (by kernel_rfl) (fun o => rfl) (fun hHeld => ?_)
 refine tkH 0 (some 8) ?_
 (try simp only [Act.put, sA, sB, sC])
 refine tkH 1 (some 9) ?_
 (try simp only [Act.put, sA, sB, sC])
 refine tkH 2 (some 10) ?_
 (try simp only [Act.put, sA, sB, sC])
 refine wpAnyH_one (i := 3) rfl (by kernel_rfl) (by rfl) (fun K hK => ?_)
 go_simp
 refine (HIP.out _ (hE0.trans (Ev.drew (Ev.refl _)))).mono ?_
 rintro e w4 ⟨rfl, hb4⟩
 have hE4 : Ev W0 w4 := Ev.trans (Ev.drew (Ev.refl _)) hb4
 refine hK.out _ _ (HSE.out _ hE4) (fun hHeld => ?_)
 clear hK K
 (try simp only [Act.put, List.setIfInBounds_toArray, List.set_cons_zero, List.set_cons_succ])
 refine wpAnyH_one (i := 4) rfl (by kernel_rfl) (by rfl) (fun K hK => ?_)
 go_simp
 refine (HBG.out _ (hE0.trans hE4)).mono ?_
 rintro e w5 ⟨⟨Ts, Ss, ns, cs, ms, ds, p, mb, rfl, hwc⟩, hb5⟩
 have hE5 : Ev W0 w5 := hE4.trans hb5
 refine hK.out _ _ (HSE.out _ hE5) (fun hHeld => ?_)
 clear hK K
 (try simp only [Act.put, List.setIfInBounds_toArray, List.set_cons_zero, List.set_cons_succ])
 refine tkH 5 (some 7) ?_
 (try simp only [Act.put, sA, sB, sC])
 refine tkH 6 (some 13) ?_
 (try simp only [Act.put, sA, sB, sC])
 refine tkH 7 (some 14) ?_
 (try simp only [Act.put, sA, sB, sC])
 refine tkH 8 (some 5) ?_
 (try simp only [Act.put, sA, sB, sC])
 refine tkH 9 (some 6) ?_
 (try simp only [Act.put, sA, sB, sC])
 refine wpAnyH_done (by kernel_rfl) ?_ _
 have hs4 := hE4.size
 have hs0 := hE0.size
 have hnt : 0 < ns := by
  rw [← hwc.len]
  exact List.length_pos_iff.2 hne
 have hm0 := hwc.b1
 have htb := hwc.tb
 have HBO := hid (keepsAlways_c f Aw At Ar nw cw nt ct nr cr Ts Ss ns cs ms ds p mb P pn pc plan w4.heap.size (M.truths f) (M.stands f) hc0 hts w5 hwc ((hp.ev hE0).ev hE5))
 clear y0 y1 y2 y3 y4 y5 y6 y7 y8 y9; clear hwc
 go_wp2_with (first | (go_at_call 77; with_reducible refine HBO.out.mono ?_; rintro e w6 ⟨rfl, _, hm6⟩) | (refine ⟨trivial, ?_⟩))
 go_ret
 exact ⟨rfl, Mt.evr (hE0.trans hE5) hm6 (by omega) (fun j hj => by have := htb j hj; omega)⟩

set_option maxRecDepth 100000 in
set_option maxHeartbeats 2000000 in
theorem Play_chk (f : M.Cf) (Aw At Ar : Option Addr) (nw cw nt ct nr cr : Nat) (Tw : Option Addr) (tw twc : Nat) (t : M.Tr) (P : Option Addr) (pn pc : Nat) (plan : List Int) (hl0 : -9223372036854775808 ≤ f.last) (w : World) (hs : CS w w.heap.size f Aw At Ar nw cw nt ct nr cr) (hwt : Sl ics 1 w w.heap.size Tw tw twc t.wet) (hp : Sl ics 1 w w.heap.size P pn pc plan) (h0 : M.check f ≠ 0) :
  Calls Try.prog 20 #[.agg #[.int .i64 f.last, .int .i64 f.size, .int .i64 f.cool, .int .i64 f.die, .int .i64 f.burn, .int .i64 f.st.lo, .int .i64 f.st.hi, .slice Aw nw cw, .slice At nt ct, .slice Ar nr cr], .agg #[.int .i64 t.st, .slice Tw tw twc], .slice P pn pc] w fun e w' => e = .returned (.tuple #[.slice none 0 0, .int .i64 (M.check f)]) ∧ Ev w w' := by
 have HCK := hid (fun W (hE : Ev w W) => check_c f Aw At Ar nw cw nt ct nr cr hl0 W (hs.ev hE))
 generalize M.check f = ec at HCK h0
 have he : (ec == 0) = false := by simpa using h0
 clear h0
 go_enter Try.func20, Try.ntmps20
 go_upto_region 1 with fail
 generalize hW0 : World.alloc (World.alloc w _) _ = W0
 have hE0 : Ev w W0 := by rw [← hW0]; exact Ev.alloc (Ev.alloc (Ev.refl _) _) _
 have hal := alloc2 w (.cells #[.int .i64 f.last, .int .i64 f.size, .int .i64 f.cool, .int .i64 f.die, .int .i64 f.burn, .int .i64 f.st.lo, .int .i64 f.st.hi, .slice Aw nw cw, .slice At nt ct, .slice Ar nr cr] 40) (.cells #[.int .i64 t.st, .slice Tw tw twc] 42)
 rw [hW0] at hal
 have Q0 := hid hal.1
 have Q1 := hid hal.2.1
 have HZ := hid hal.2.2
 clear hal hW0
 obtain ⟨y0, y1, y2, y3, y4, y5, y6, y7, y8, y9⟩ := cells10 Q0.out
 obtain ⟨x0, x1⟩ := cells2 Q1.out
 go_wp2_with (go_at_call 26; with_reducible refine (HCK.out _ hE0).mono ?_; rintro e w1 ⟨rfl, hb1⟩; obtain ⟨y0, y1, y2, y3, y4, y5, y6, y7, y8, y9⟩ := cells10 (hb1.heap Q0.out); obtain ⟨x0, x1⟩ := cells2 (hb1.heap Q1.out); have hG := hE0.trans hb1)
 go_ret2
 exact ⟨rfl, hG⟩

set_option maxRecDepth 100000 in
set_option maxHeartbeats 2000000 in
theorem Play_badt (f : M.Cf) (Aw At Ar : Option Addr) (nw cw nt ct nr cr : Nat) (Tw : Option Addr) (tw twc : Nat) (t : M.Tr) (P : Option Addr) (pn pc : Nat) (plan : List Int) (hl0 : -9223372036854775808 ≤ f.last) (w : World) (hs : CS w w.heap.size f Aw At Ar nw cw nt ct nr cr) (hwt : Sl ics 1 w w.heap.size Tw tw twc t.wet) (hp : Sl ics 1 w w.heap.size P pn pc plan) (h0 : M.check f = 0) (hb : M.listed f t = false) :
  Calls Try.prog 20 #[.agg #[.int .i64 f.last, .int .i64 f.size, .int .i64 f.cool, .int .i64 f.die, .int .i64 f.burn, .int .i64 f.st.lo, .int .i64 f.st.hi, .slice Aw nw cw, .slice At nt ct, .slice Ar nr cr], .agg #[.int .i64 t.st, .slice Tw tw twc], .slice P pn pc] w fun e w' => e = .returned (.tuple #[.slice none 0 0, .int .i64 2]) ∧ Ev w w' := by
 have HCK := hid (fun W (hE : Ev w W) => check_c f Aw At Ar nw cw nt ct nr cr hl0 W (hs.ev hE))
 rw [h0] at HCK
 have HTR := hid (fun W (hE : Ev w W) => isTruth_c f Aw At Ar nw cw nt ct nr cr Tw tw twc t W (hs.ev hE) (hwt.ev hE))
 have HIP := hid (fun W (hE : Ev w W) => isTurns_c f Aw At Ar nw cw nt ct nr cr P pn pc plan W (hp.ev hE))
 rw [hb] at HTR
 clear h0
 go_enter Try.func20, Try.ntmps20
 go_upto_region 1 with fail
 generalize hW0 : World.alloc (World.alloc w _) _ = W0
 have hE0 : Ev w W0 := by rw [← hW0]; exact Ev.alloc (Ev.alloc (Ev.refl _) _) _
 have hal := alloc2 w (.cells #[.int .i64 f.last, .int .i64 f.size, .int .i64 f.cool, .int .i64 f.die, .int .i64 f.burn, .int .i64 f.st.lo, .int .i64 f.st.hi, .slice Aw nw cw, .slice At nt ct, .slice Ar nr cr] 40) (.cells #[.int .i64 t.st, .slice Tw tw twc] 42)
 rw [hW0] at hal
 have Q0 := hid hal.1
 have Q1 := hid hal.2.1
 have HZ := hid hal.2.2
 clear hal hW0
 obtain ⟨y0, y1, y2, y3, y4, y5, y6, y7, y8, y9⟩ := cells10 Q0.out
 obtain ⟨x0, x1⟩ := cells2 Q1.out
 go_wp2_with (first | (go_at_call 26; with_reducible refine (HCK.out _ hE0).mono ?_; rintro e w1 ⟨rfl, hb1⟩; obtain ⟨y0, y1, y2, y3, y4, y5, y6, y7, y8, y9⟩ := cells10 (hb1.heap Q0.out); obtain ⟨x0, x1⟩ := cells2 (hb1.heap Q1.out); have hG := hE0.trans hb1) | (go_at_call 65; with_reducible refine (HTR.out _ hG).mono ?_; rintro e w2 ⟨rfl, hb2⟩; obtain ⟨y0, y1, y2, y3, y4, y5, y6, y7, y8, y9⟩ := cells10 (hb2.heap (hb1.heap Q0.out)); have hG2 := hG.trans hb2) | (go_at_call 66; with_reducible refine (HIP.out _ hG2).mono ?_; rintro e w3 ⟨rfl, hb3⟩; have hG3 := hG2.trans hb3) | (refine ⟨trivial, ?_⟩))
 go_ret2
 exact ⟨rfl, hG2⟩

set_option maxRecDepth 100000 in
set_option maxHeartbeats 2000000 in
theorem Play_badp (f : M.Cf) (Aw At Ar : Option Addr) (nw cw nt ct nr cr : Nat) (Tw : Option Addr) (tw twc : Nat) (t : M.Tr) (P : Option Addr) (pn pc : Nat) (plan : List Int) (hl0 : -9223372036854775808 ≤ f.last) (w : World) (hs : CS w w.heap.size f Aw At Ar nw cw nt ct nr cr) (hwt : Sl ics 1 w w.heap.size Tw tw twc t.wet) (hp : Sl ics 1 w w.heap.size P pn pc plan) (h0 : M.check f = 0) (ha : M.listed f t = true) (hb : M.isTurns f plan = false) :
  Calls Try.prog 20 #[.agg #[.int .i64 f.last, .int .i64 f.size, .int .i64 f.cool, .int .i64 f.die, .int .i64 f.burn, .int .i64 f.st.lo, .int .i64 f.st.hi, .slice Aw nw cw, .slice At nt ct, .slice Ar nr cr], .agg #[.int .i64 t.st, .slice Tw tw twc], .slice P pn pc] w fun e w' => e = .returned (.tuple #[.slice none 0 0, .int .i64 2]) ∧ Ev w w' := by
 have HCK := hid (fun W (hE : Ev w W) => check_c f Aw At Ar nw cw nt ct nr cr hl0 W (hs.ev hE))
 rw [h0] at HCK
 have HTR := hid (fun W (hE : Ev w W) => isTruth_c f Aw At Ar nw cw nt ct nr cr Tw tw twc t W (hs.ev hE) (hwt.ev hE))
 have HIP := hid (fun W (hE : Ev w W) => isTurns_c f Aw At Ar nw cw nt ct nr cr P pn pc plan W (hp.ev hE))
 rw [ha] at HTR
 rw [hb] at HIP
 clear h0
 go_enter Try.func20, Try.ntmps20
 go_upto_region 1 with fail
 generalize hW0 : World.alloc (World.alloc w _) _ = W0
 have hE0 : Ev w W0 := by rw [← hW0]; exact Ev.alloc (Ev.alloc (Ev.refl _) _) _
 have hal := alloc2 w (.cells #[.int .i64 f.last, .int .i64 f.size, .int .i64 f.cool, .int .i64 f.die, .int .i64 f.burn, .int .i64 f.st.lo, .int .i64 f.st.hi, .slice Aw nw cw, .slice At nt ct, .slice Ar nr cr] 40) (.cells #[.int .i64 t.st, .slice Tw tw twc] 42)
 rw [hW0] at hal
 have Q0 := hid hal.1
 have Q1 := hid hal.2.1
 have HZ := hid hal.2.2
 clear hal hW0
 obtain ⟨y0, y1, y2, y3, y4, y5, y6, y7, y8, y9⟩ := cells10 Q0.out
 obtain ⟨x0, x1⟩ := cells2 Q1.out
 go_wp2_with (first | (go_at_call 26; with_reducible refine (HCK.out _ hE0).mono ?_; rintro e w1 ⟨rfl, hb1⟩; obtain ⟨y0, y1, y2, y3, y4, y5, y6, y7, y8, y9⟩ := cells10 (hb1.heap Q0.out); obtain ⟨x0, x1⟩ := cells2 (hb1.heap Q1.out); have hG := hE0.trans hb1) | (go_at_call 65; with_reducible refine (HTR.out _ hG).mono ?_; rintro e w2 ⟨rfl, hb2⟩; obtain ⟨y0, y1, y2, y3, y4, y5, y6, y7, y8, y9⟩ := cells10 (hb2.heap (hb1.heap Q0.out)); have hG2 := hG.trans hb2) | (go_at_call 66; with_reducible refine (HIP.out _ hG2).mono ?_; rintro e w3 ⟨rfl, hb3⟩; have hG3 := hG2.trans hb3) | (refine ⟨trivial, ?_⟩))
 go_ret2
 exact ⟨rfl, hG3⟩

set_option maxRecDepth 100000 in
set_option maxHeartbeats 4000000 in
theorem Play_ok (f : M.Cf) (Aw At Ar : Option Addr) (nw cw nt ct nr cr : Nat) (Tw : Option Addr) (tw twc : Nat) (t : M.Tr) (P : Option Addr) (pn pc : Nat) (plan : List Int) (hl0 : -9223372036854775808 ≤ f.last) (w : World) (hs : CS w w.heap.size f Aw At Ar nw cw nt ct nr cr) (hwt : Sl ics 1 w w.heap.size Tw tw twc t.wet) (hp : Sl ics 1 w w.heap.size P pn pc plan) (h0 : M.check f = 0) (ha : M.listed f t = true) (hb : M.isTurns f plan = true) :
  Calls Try.prog 20 #[.agg #[.int .i64 f.last, .int .i64 f.size, .int .i64 f.cool, .int .i64 f.die, .int .i64 f.burn, .int .i64 f.st.lo, .int .i64 f.st.hi, .slice Aw nw cw, .slice At nt ct, .slice Ar nr cr], .agg #[.int .i64 t.st, .slice Tw tw twc], .slice P pn pc] w fun e w' => (∃ B d, e = .returned (.tuple #[.slice B nw d, .int .i64 0]) ∧ Sl ics 1 w' w'.heap.size B nw d ((M.heats f t plan).take nw)) ∧ Ev w w' := by
 have HCK := hid (fun W (hE : Ev w W) => check_c f Aw At Ar nw cw nt ct nr cr hl0 W (hs.ev hE))
 have hc0 := h0
 rw [h0] at HCK
 have HTR := hid (fun W (hE : Ev w W) => isTruth_c f Aw At Ar nw cw nt ct nr cr Tw tw twc t W (hs.ev hE) (hwt.ev hE))
 have HIP := hid (fun W (hE : Ev w W) => isTurns_c f Aw At Ar nw cw nt ct nr cr P pn pc plan W (hp.ev hE))
 obtain ⟨hl9, _, hv, _⟩ := M.check0 hc0
 have hvp := M.valid_parts hv
 have hln : (M.heats f t plan).length = 10 := M.heats_len (by have := M.listed_bd hv ha; omega)
 have hnw : (nw : Int) = f.last + 1 := by have := hs.w_.len; omega
 have hnw10 : nw ≤ 10 := by omega
 have s0 : IntKind.i64.wrap (f.last + 1) = (nw : Int) := by rw [← hnw]; exact IntWalk.i64_in _ (by omega)
 obtain ⟨a0, a1, a2, a3, a4, a5, a6, a7, a8, a9, hhe⟩ := list10 hln
 have HPC := hid (fun p mb W (hE : Ev w W) hpc hmi => (show Calls Try.prog 68 #[.pointer (some ⟨p, 0, none⟩), .agg #[.int .i64 t.st, .slice Tw tw twc], .slice P pn pc] W fun e w' => e = .returned (.agg #[.int .i64 a0, .int .i64 a1, .int .i64 a2, .int .i64 a3, .int .i64 a4, .int .i64 a5, .int .i64 a6, .int .i64 a7, .int .i64 a8, .int .i64 a9]) ∧ (∃ g', Loads f g' ∧ MapIs Try.prog 139 w' mb g') ∧ Mo mb W w' from by
  have h := play_c f Aw At Ar nw cw nt ct nr cr none none 0 0 0 0 p mb Tw tw twc t P pn pc plan hv hl9 ha (fun _ => none) (fun k v h => by simp at h) W hpc hmi (hwt.ev hE) (hp.ev hE)
  rw [hhe] at h
  simpa only [sv, List.map_cons, List.map_nil] using h))
 have HSR := hid (fun W => start_c f Aw At Ar nw cw nt ct nr cr W)
 rw [hhe]
 rw [ha] at HTR
 rw [hb] at HIP
 clear hvp h0 hhe hln hc0 hv
 go_enter Try.func20, Try.ntmps20
 go_upto_region 1 with fail
 generalize hW0 : World.alloc (World.alloc w _) _ = W0
 have hE0 : Ev w W0 := by rw [← hW0]; exact Ev.alloc (Ev.alloc (Ev.refl _) _) _
 have hal := alloc2 w (.cells #[.int .i64 f.last, .int .i64 f.size, .int .i64 f.cool, .int .i64 f.die, .int .i64 f.burn, .int .i64 f.st.lo, .int .i64 f.st.hi, .slice Aw nw cw, .slice At nt ct, .slice Ar nr cr] 40) (.cells #[.int .i64 t.st, .slice Tw tw twc] 42)
 rw [hW0] at hal
 have Q0 := hid hal.1
 have Q1 := hid hal.2.1
 have HZ := hid hal.2.2
 clear hal hW0
 obtain ⟨y0, y1, y2, y3, y4, y5, y6, y7, y8, y9⟩ := cells10 Q0.out
 obtain ⟨x0, x1⟩ := cells2 Q1.out
 go_upto_region 6 with (first | (go_at_call 26; with_reducible refine (HCK.out _ hE0).mono ?_; rintro e w1 ⟨rfl, hb1⟩; obtain ⟨y0, y1, y2, y3, y4, y5, y6, y7, y8, y9⟩ := cells10 (hb1.heap Q0.out); obtain ⟨x0, x1⟩ := cells2 (hb1.heap Q1.out); have hG := hE0.trans hb1) | (go_at_call 65; with_reducible refine (HTR.out _ hG).mono ?_; rintro e w2 ⟨rfl, hb2⟩; obtain ⟨y0, y1, y2, y3, y4, y5, y6, y7, y8, y9⟩ := cells10 (hb2.heap (hb1.heap Q0.out)); have hG2 := hG.trans hb2) | (go_at_call 66; with_reducible refine (HIP.out _ hG2).mono ?_; rintro e w3 ⟨rfl, hb3⟩; have hG3 := hG2.trans hb3) | (refine ⟨trivial, ?_⟩))
 have q0 := (hb3.heap (hb2.heap (hb1.heap Q0.out)))
 have q1 := (hb3.heap (hb2.heap (hb1.heap Q1.out)))
 have HQ0 := hid q0
 clear y0 y1 y2 y3 y4 y5 y6 y7 y8 y9; clear x0 x1
 obtain ⟨y0, y1, y2, y3, y4, y5, y6, y7, y8, y9⟩ := cells10 q0
 obtain ⟨x0, x1⟩ := cells2 q1
 have l0 := heap_lt q0
 have l1 := heap_lt q1
 clear q0 q1
 have HSE : Hid (∀ w', Ev w3 w' → (∀ o, w'.cell? ⟨w.heap.size, o, none⟩ = w3.cell? ⟨w.heap.size, o, none⟩) ∧ (∀ o, w'.cell? ⟨w.heap.size + 1, o, none⟩ = w3.cell? ⟨w.heap.size + 1, o, none⟩)) := hid (fun w' h => ⟨fun o => h.cells.1 _ o l0, fun o => h.cells.1 _ o l1⟩)
 refine wp_region_held_drew (S := fun w' => (∀ o, w'.cell? ⟨w.heap.size, o, none⟩ = w3.cell? ⟨w.heap.size, o, none⟩) ∧ (∀ o, w'.cell? ⟨w.heap.size + 1, o, none⟩ = w3.cell? ⟨w.heap.size + 1, o, none⟩)) (by kernel_rfl) (⟨fun o => rfl, fun o => rfl⟩) (fun hHeld => ?_)
 refine tkH 0 (some 25) ?_
 (try simp only [Act.put, sA, sB, sC])
 refine tkH 2 (some 27) ?_
 (try simp only [Act.put, sA, sB, sC])
 refine tkH 3 (some 28) ?_
 (try simp only [Act.put, sA, sB, sC])
 refine wpAnyH_ready (rs := [1, 5]) (by kernel_rfl) (by simp) ?_
 refine AllReadyH.cons rfl (fun K hK => ?_) (AllReadyH.cons rfl (fun K hK => ?_) (AllReadyH.nil))
 ·
  go_simp
  refine (HSR.out _).mono ?_
  rintro e w4 ⟨⟨p, mb, rfl, hp0, hm0, hpc, hmi⟩, hb4⟩
  have hE4 : Ev w3 w4 := Ev.trans (Ev.drew (Ev.refl _)) hb4
  have hm3 : w3.heap.size ≤ mb := Nat.le_trans (Ev.size (Ev.drew (Ev.refl _))) hm0
  have HP4 := hid hpc
  have HM4 := hid hmi
  clear hpc hmi
  refine hK.out _ _ (HSE.out _ hE4) (fun hHeld => ?_)
  clear hK K
  (try simp only [Act.put, List.setIfInBounds_toArray, List.set_cons_zero, List.set_cons_succ])
  refine wpAnyH_ready (rs := [4, 5]) (by kernel_rfl) (by simp) ?_
  refine AllReadyH.cons rfl (fun K hK => ?_) (AllReadyH.cons rfl (fun K hK => ?_) (AllReadyH.nil))
  ·
   go_simp
   refine (HPC.out p mb _ (hG3.trans hE4) HP4.out HM4.out).mono ?_
   rintro e w5 ⟨rfl, hmp5, hm5⟩
   have hE5 : Ev w3 w5 := Mo.evr hE4 hm5 hm3
   refine hK.out _ _ (HSE.out _ hE5) (fun hHeld => ?_)
   clear hK K
   (try simp only [Act.put, List.setIfInBounds_toArray, List.set_cons_zero, List.set_cons_succ])
   refine wpAnyH_one (i := 5) rfl (by kernel_rfl) (by rfl) (fun K hK => ?_)
   go_simp
   generalize hWA : World.alloc w5 _ = w6
   have hal : (World.alloc w5 (.cells #[.int .i64 0, .int .i64 0, .int .i64 0, .int .i64 0, .int .i64 0, .int .i64 0, .int .i64 0, .int .i64 0, .int .i64 0, .int .i64 0] 109)).heap[w5.heap.size]? = _ := (alloc1 w5 (.cells #[.int .i64 0, .int .i64 0, .int .i64 0, .int .i64 0, .int .i64 0, .int .i64 0, .int .i64 0, .int .i64 0, .int .i64 0, .int .i64 0] 109)).1
   rw [hWA] at hal
   have HA6 : Hid (w6.heap[w5.heap.size]? = some (.cells #[.int .i64 0, .int .i64 0, .int .i64 0, .int .i64 0, .int .i64 0, .int .i64 0, .int .i64 0, .int .i64 0, .int .i64 0, .int .i64 0] 109 (0, 0))) := hid hal
   have hb6 : Ev w5 w6 := by rw [← hWA]; exact Ev.alloc (Ev.refl _) _
   have hE6 : Ev w3 w6 := Ev.trans hE5 hb6
   have hqw : w3.heap.size ≤ w5.heap.size := Ev.size hE5
   clear hWA hal
   refine hK.out _ _ (HSE.out _ hE6) (fun hHeld => ?_)
   clear hK K
   (try simp only [Act.put, List.setIfInBounds_toArray, List.set_cons_zero, List.set_cons_succ])
   refine wpAnyH_one (i := 6) rfl (by kernel_rfl) (by rfl) (fun K hK => ?_)
   have hA := HA6.out
   obtain ⟨z0, z1, z2, z3, z4, z5, z6, z7, z8, z9⟩ := cells10 hA
   obtain ⟨f0, f1, f2, f3, f4, f5, f6, f7, f8, f9⟩ := frz10 hA
   go_simp
   generalize hXF : World.setCell _ _ _ = XF
   have HXF : Hid (XF.heap[w5.heap.size]? = some (.cells #[.int .i64 a0, .int .i64 a1, .int .i64 a2, .int .i64 a3, .int .i64 a4, .int .i64 a5, .int .i64 a6, .int .i64 a7, .int .i64 a8, .int .i64 a9] 109 (0, 0))) := hid (by rw [← hXF]; exact set10 hA)
   have hEF : Ev w3 XF := by rw [← hXF]; exact (Ev.setCell (Ev.setCell (Ev.setCell (Ev.setCell (Ev.setCell (Ev.setCell (Ev.setCell (Ev.setCell (Ev.setCell (Ev.setCell hE6 (show w3.heap.size ≤ w5.heap.size from hqw) _) (show w3.heap.size ≤ w5.heap.size from hqw) _) (show w3.heap.size ≤ w5.heap.size from hqw) _) (show w3.heap.size ≤ w5.heap.size from hqw) _) (show w3.heap.size ≤ w5.heap.size from hqw) _) (show w3.heap.size ≤ w5.heap.size from hqw) _) (show w3.heap.size ≤ w5.heap.size from hqw) _) (show w3.heap.size ≤ w5.heap.size from hqw) _) (show w3.heap.size ≤ w5.heap.size from hqw) _) (show w3.heap.size ≤ w5.heap.size from hqw) _)
   clear hXF z0 z1 z2 z3 z4 z5 z6 z7 z8 z9 f0 f1 f2 f3 f4 f5 f6 f7 f8 f9 hA
   refine hK.out _ _ (HSE.out _ hEF) (fun hHeld => ?_)
   clear hK K
   (try simp only [Act.put, List.setIfInBounds_toArray, List.set_cons_zero, List.set_cons_succ])
   refine wpAnyH_done (by kernel_rfl) ?_ _
   have g1 := fun wx => (show (Instr.sliceAt 109 (.pointer (some ⟨w5.heap.size, 0, none⟩)) none (some (.int .i64 (f.last + 1))) none).run Try.prog wx = .ok (.slice (some ⟨w5.heap.size, 0, none⟩) nw 10) wx from by rw [← hnw]; exact slice_arr w5.heap.size nw hnw10 wx)
   go_wp2_with fail
   go_ret2
   exact ⟨⟨some ⟨w5.heap.size, 0, none⟩, 10, rfl, (sl_block (enc := ics) (n := 10) (xs := [a0, a1, a2, a3, a4, a5, a6, a7, a8, a9]) (by decide) (ics_len _) (by omega) rfl HXF.out).take hnw10⟩, hG3.trans hEF⟩
  ·
   go_simp
   generalize hWA : World.alloc w4 _ = w5
   have hal : (World.alloc w4 (.cells #[.int .i64 0, .int .i64 0, .int .i64 0, .int .i64 0, .int .i64 0, .int .i64 0, .int .i64 0, .int .i64 0, .int .i64 0, .int .i64 0] 109)).heap[w4.heap.size]? = _ := (alloc1 w4 (.cells #[.int .i64 0, .int .i64 0, .int .i64 0, .int .i64 0, .int .i64 0, .int .i64 0, .int .i64 0, .int .i64 0, .int .i64 0, .int .i64 0] 109)).1
   rw [hWA] at hal
   have HA5 : Hid (w5.heap[w4.heap.size]? = some (.cells #[.int .i64 0, .int .i64 0, .int .i64 0, .int .i64 0, .int .i64 0, .int .i64 0, .int .i64 0, .int .i64 0, .int .i64 0, .int .i64 0] 109 (0, 0))) := hid hal
   have hb5 : Ev w4 w5 := by rw [← hWA]; exact Ev.alloc (Ev.refl _) _
   have hE5 : Ev w3 w5 := Ev.trans hE4 hb5
   have hqw : w3.heap.size ≤ w4.heap.size := Ev.size hE4
   clear hWA hal
   have HP5 := hid (hb5.heap HP4.out)
   have HM5 := hid (HM4.out.keep hb5 HM4.out.lt)
   have hqm : w4.heap.size ≠ mb := by have := HM4.out.lt; omega
   refine hK.out _ _ (HSE.out _ hE5) (fun hHeld => ?_)
   clear hK K
   (try simp only [Act.put, List.setIfInBounds_toArray, List.set_cons_zero, List.set_cons_succ])
   refine wpAnyH_one (i := 4) rfl (by kernel_rfl) (by rfl) (fun K hK => ?_)
   go_simp
   refine (HPC.out p mb _ (hG3.trans hE5) HP5.out HM5.out).mono ?_
   rintro e w6 ⟨rfl, hmp5, hm5⟩
   have hE6 : Ev w3 w6 := Mo.evr hE5 hm5 hm3
   have HA6 := hid (hm5.heap HA5.out hqm)
   refine hK.out _ _ (HSE.out _ hE6) (fun hHeld => ?_)
   clear hK K
   (try simp only [Act.put, List.setIfInBounds_toArray, List.set_cons_zero, List.set_cons_succ])
   refine wpAnyH_one (i := 6) rfl (by kernel_rfl) (by rfl) (fun K hK => ?_)
   have hA := HA6.out
   obtain ⟨z0, z1, z2, z3, z4, z5, z6, z7, z8, z9⟩ := cells10 hA
   obtain ⟨f0, f1, f2, f3, f4, f5, f6, f7, f8, f9⟩ := frz10 hA
   go_simp
   generalize hXF : World.setCell _ _ _ = XF
   have HXF : Hid (XF.heap[w4.heap.size]? = some (.cells #[.int .i64 a0, .int .i64 a1, .int .i64 a2, .int .i64 a3, .int .i64 a4, .int .i64 a5, .int .i64 a6, .int .i64 a7, .int .i64 a8, .int .i64 a9] 109 (0, 0))) := hid (by rw [← hXF]; exact set10 hA)
   have hEF : Ev w3 XF := by rw [← hXF]; exact (Ev.setCell (Ev.setCell (Ev.setCell (Ev.setCell (Ev.setCell (Ev.setCell (Ev.setCell (Ev.setCell (Ev.setCell (Ev.setCell hE6 (show w3.heap.size ≤ w4.heap.size from hqw) _) (show w3.heap.size ≤ w4.heap.size from hqw) _) (show w3.heap.size ≤ w4.heap.size from hqw) _) (show w3.heap.size ≤ w4.heap.size from hqw) _) (show w3.heap.size ≤ w4.heap.size from hqw) _) (show w3.heap.size ≤ w4.heap.size from hqw) _) (show w3.heap.size ≤ w4.heap.size from hqw) _) (show w3.heap.size ≤ w4.heap.size from hqw) _) (show w3.heap.size ≤ w4.heap.size from hqw) _) (show w3.heap.size ≤ w4.heap.size from hqw) _)
   clear hXF z0 z1 z2 z3 z4 z5 z6 z7 z8 z9 f0 f1 f2 f3 f4 f5 f6 f7 f8 f9 hA
   refine hK.out _ _ (HSE.out _ hEF) (fun hHeld => ?_)
   clear hK K
   (try simp only [Act.put, List.setIfInBounds_toArray, List.set_cons_zero, List.set_cons_succ])
   refine wpAnyH_done (by kernel_rfl) ?_ _
   have g1 := fun wx => (show (Instr.sliceAt 109 (.pointer (some ⟨w4.heap.size, 0, none⟩)) none (some (.int .i64 (f.last + 1))) none).run Try.prog wx = .ok (.slice (some ⟨w4.heap.size, 0, none⟩) nw 10) wx from by rw [← hnw]; exact slice_arr w4.heap.size nw hnw10 wx)
   go_wp2_with fail
   go_ret2
   exact ⟨⟨some ⟨w4.heap.size, 0, none⟩, 10, rfl, (sl_block (enc := ics) (n := 10) (xs := [a0, a1, a2, a3, a4, a5, a6, a7, a8, a9]) (by decide) (ics_len _) (by omega) rfl HXF.out).take hnw10⟩, hG3.trans hEF⟩
 ·
  go_simp
  generalize hWA : World.drew (World.alloc w3 _) = w4
  have hal : (World.drew (World.alloc w3 (.cells #[.int .i64 0, .int .i64 0, .int .i64 0, .int .i64 0, .int .i64 0, .int .i64 0, .int .i64 0, .int .i64 0, .int .i64 0, .int .i64 0] 109))).heap[w3.heap.size]? = _ := (alloc1 w3 (.cells #[.int .i64 0, .int .i64 0, .int .i64 0, .int .i64 0, .int .i64 0, .int .i64 0, .int .i64 0, .int .i64 0, .int .i64 0, .int .i64 0] 109)).1
  rw [hWA] at hal
  have HA4 : Hid (w4.heap[w3.heap.size]? = some (.cells #[.int .i64 0, .int .i64 0, .int .i64 0, .int .i64 0, .int .i64 0, .int .i64 0, .int .i64 0, .int .i64 0, .int .i64 0, .int .i64 0] 109 (0, 0))) := hid hal
  have hb4 : Ev w3 w4 := by rw [← hWA]; exact Ev.drew (Ev.alloc (Ev.refl _) _)
  have hE4 : Ev w3 w4 := hb4
  have hqw : w3.heap.size ≤ w3.heap.size := Nat.le_refl _
  clear hWA hal
  refine hK.out _ _ (HSE.out _ hE4) (fun hHeld => ?_)
  clear hK K
  (try simp only [Act.put, List.setIfInBounds_toArray, List.set_cons_zero, List.set_cons_succ])
  refine wpAnyH_one (i := 1) rfl (by kernel_rfl) (by rfl) (fun K hK => ?_)
  go_simp
  refine (HSR.out _).mono ?_
  rintro e w5 ⟨⟨p, mb, rfl, hp0, hm0, hpc, hmi⟩, hb5⟩
  have hE5 : Ev w3 w5 := Ev.trans hE4 hb5
  have hm3 : w3.heap.size ≤ mb := Nat.le_trans (Ev.size hE4) hm0
  have HP5 := hid hpc
  have HM5 := hid hmi
  clear hpc hmi
  have HA5 := hid (hb5.heap HA4.out)
  have hqm : w3.heap.size ≠ mb := by have := heap_lt HA4.out; omega
  refine hK.out _ _ (HSE.out _ hE5) (fun hHeld => ?_)
  clear hK K
  (try simp only [Act.put, List.setIfInBounds_toArray, List.set_cons_zero, List.set_cons_succ])
  refine wpAnyH_one (i := 4) rfl (by kernel_rfl) (by rfl) (fun K hK => ?_)
  go_simp
  refine (HPC.out p mb _ (hG3.trans hE5) HP5.out HM5.out).mono ?_
  rintro e w6 ⟨rfl, hmp5, hm5⟩
  have hE6 : Ev w3 w6 := Mo.evr hE5 hm5 hm3
  have HA6 := hid (hm5.heap HA5.out hqm)
  refine hK.out _ _ (HSE.out _ hE6) (fun hHeld => ?_)
  clear hK K
  (try simp only [Act.put, List.setIfInBounds_toArray, List.set_cons_zero, List.set_cons_succ])
  refine wpAnyH_one (i := 6) rfl (by kernel_rfl) (by rfl) (fun K hK => ?_)
  have hA := HA6.out
  obtain ⟨z0, z1, z2, z3, z4, z5, z6, z7, z8, z9⟩ := cells10 hA
  obtain ⟨f0, f1, f2, f3, f4, f5, f6, f7, f8, f9⟩ := frz10 hA
  go_simp
  generalize hXF : World.setCell _ _ _ = XF
  have HXF : Hid (XF.heap[w3.heap.size]? = some (.cells #[.int .i64 a0, .int .i64 a1, .int .i64 a2, .int .i64 a3, .int .i64 a4, .int .i64 a5, .int .i64 a6, .int .i64 a7, .int .i64 a8, .int .i64 a9] 109 (0, 0))) := hid (by rw [← hXF]; exact set10 hA)
  have hEF : Ev w3 XF := by rw [← hXF]; exact (Ev.setCell (Ev.setCell (Ev.setCell (Ev.setCell (Ev.setCell (Ev.setCell (Ev.setCell (Ev.setCell (Ev.setCell (Ev.setCell hE6 (show w3.heap.size ≤ w3.heap.size from hqw) _) (show w3.heap.size ≤ w3.heap.size from hqw) _) (show w3.heap.size ≤ w3.heap.size from hqw) _) (show w3.heap.size ≤ w3.heap.size from hqw) _) (show w3.heap.size ≤ w3.heap.size from hqw) _) (show w3.heap.size ≤ w3.heap.size from hqw) _) (show w3.heap.size ≤ w3.heap.size from hqw) _) (show w3.heap.size ≤ w3.heap.size from hqw) _) (show w3.heap.size ≤ w3.heap.size from hqw) _) (show w3.heap.size ≤ w3.heap.size from hqw) _)
  clear hXF z0 z1 z2 z3 z4 z5 z6 z7 z8 z9 f0 f1 f2 f3 f4 f5 f6 f7 f8 f9 hA
  refine hK.out _ _ (HSE.out _ hEF) (fun hHeld => ?_)
  clear hK K
  (try simp only [Act.put, List.setIfInBounds_toArray, List.set_cons_zero, List.set_cons_succ])
  refine wpAnyH_done (by kernel_rfl) ?_ _
  have g1 := fun wx => (show (Instr.sliceAt 109 (.pointer (some ⟨w3.heap.size, 0, none⟩)) none (some (.int .i64 (f.last + 1))) none).run Try.prog wx = .ok (.slice (some ⟨w3.heap.size, 0, none⟩) nw 10) wx from by rw [← hnw]; exact slice_arr w3.heap.size nw hnw10 wx)
  go_wp2_with fail
  go_ret2
  exact ⟨⟨some ⟨w3.heap.size, 0, none⟩, 10, rfl, (sl_block (enc := ics) (n := 10) (xs := [a0, a1, a2, a3, a4, a5, a6, a7, a8, a9]) (by decide) (ics_len _) (by omega) rfl HXF.out).take hnw10⟩, hG3.trans hEF⟩

end Go.Proofs.Ytgimcephbeajlaa
