import Derived.Test.YtgimcephbeajlaaC18
set_option linter.unusedSimpArgs false
set_option linter.unusedVariables false
namespace Go.Proofs.Ytgimcephbeajlaa
open Go.RowKit Go.Shelf

set_option maxRecDepth 100000 in
set_option maxHeartbeats 2000000 in
theorem Fear_err (f : M.Cf) (Aw At Ar : Option Addr) (nw cw nt ct nr cr : Nat) (P : Option Addr) (pn pc : Nat) (plan : List Int) (hl0 : -9223372036854775808 ≤ f.last) (w : World) (hs : CS w w.heap.size f Aw At Ar nw cw nt ct nr cr) (hp : Sl ics 1 w w.heap.size P pn pc plan) (h0 : M.begin f (M.isTurns f plan) ≠ 0) :
  Calls Try.prog 38 #[.agg #[.int .i64 f.last, .int .i64 f.size, .int .i64 f.cool, .int .i64 f.die, .int .i64 f.burn, .int .i64 f.st.lo, .int .i64 f.st.hi, .slice Aw nw cw, .slice At nt ct, .slice Ar nr cr], .slice P pn pc] w fun e w' => e = .returned (.tuple #[.agg #[.int .i64 0, .bool false, .bool false], .int .i64 (M.begin f (M.isTurns f plan))]) ∧ Ev w w' := by
 have HIP := hid (fun W (hE : Ev w W) => isTurns_c f Aw At Ar nw cw nt ct nr cr P pn pc plan W (hp.ev hE))
 generalize M.isTurns f plan = nm at HIP h0
 have HBG := hid (fun W (hE : Ev w W) => begin_err f Aw At Ar nw cw nt ct nr cr hl0 nm h0 W (hs.ev hE))
 generalize M.begin f nm = ec at HBG h0
 have he : (ec == 0) = false := by simpa using h0
 have he2 : decide (ec = 0) = false := by simpa using h0
 clear h0
 go_enter Try.func38, Try.ntmps38
 go_upto_region 1 with fail
 generalize hW0 : World.alloc (World.alloc w _) _ = W0
 have hE0 : Ev w W0 := by rw [← hW0]; exact Ev.alloc (Ev.alloc (Ev.refl _) _) _
 have hal := alloc2 w (.cells #[.int .i64 f.last, .int .i64 f.size, .int .i64 f.cool, .int .i64 f.die, .int .i64 f.burn, .int .i64 f.st.lo, .int .i64 f.st.hi, .slice Aw nw cw, .slice At nt ct, .slice Ar nr cr] 40) (.cells #[.int .i64 0, .bool false, .bool false] 64)
 rw [hW0] at hal
 have Q0 := hid hal.1
 have Q1 := hid hal.2.1
 have HZ := hid hal.2.2
 clear hal hW0
 obtain ⟨y0, y1, y2, y3, y4, y5, y6, y7, y8, y9⟩ := cells10 Q0.out
 have l0 := heap_lt Q0.out
 have HSE : Hid (∀ w', Ev W0 w' → (∀ o, w'.cell? ⟨w.heap.size, o, none⟩ = W0.cell? ⟨w.heap.size, o, none⟩)) := hid (fun w' h => fun o => h.cells.1 _ o l0)
 refine wp_region_held_drew (S := fun w' => (∀ o, w'.cell? ⟨w.heap.size, o, none⟩ = W0.cell? ⟨w.heap.size, o, none⟩)) (by kernel_rfl) (fun o => rfl) (fun hHeld => ?_)
 refine tkH 0 (some 11) ?_
 (try simp only [Act.put, sA, sB, sC])
 refine tkH 1 (some 12) ?_
 (try simp only [Act.put, sA, sB, sC])
 refine tkH 2 (some 13) ?_
 (try simp only [Act.put, sA, sB, sC])
 refine wpAnyH_one (i := 3) rfl (by kernel_rfl) (by rfl) (fun K hK => ?_)
 go_simp
 refine (HIP.out _ (hE0.trans (Ev.drew (Ev.refl _)))).mono ?_
 rintro e w4 ⟨rfl, hb4⟩
 have hE4 : Ev W0 w4 := Ev.trans (Ev.drew (Ev.refl _)) hb4
 refine hK.out _ _ (HSE.out _ hE4) (fun hHeld => ?_)
 clear hK K
 (try simp only [Act.put, List.setIfInBounds_toArray, List.set_cons_zero, List.set_cons_succ])
 refine wpAnyH_one (i := 4) rfl (by kernel_rfl) (by rfl) (fun K hK => ?_)
 go_simp
 refine (HBG.out _ (hE0.trans hE4)).mono ?_
 rintro e w5 ⟨rfl, hb5⟩
 have hE5 : Ev W0 w5 := hE4.trans hb5
 refine hK.out _ _ (HSE.out _ hE5) (fun hHeld => ?_)
 clear hK K
 (try simp only [Act.put, List.setIfInBounds_toArray, List.set_cons_zero, List.set_cons_succ])
 refine tkH 5 (some 10) ?_
 (try simp only [Act.put, sA, sB, sC])
 refine tkH 6 (some 16) ?_
 (try simp only [Act.put, sA, sB, sC])
 refine tkH 7 (some 17) ?_
 (try simp only [Act.put, sA, sB, sC])
 refine tkH 8 (some 6) ?_
 (try simp only [Act.put, sA, sB, sC])
 refine tkH 9 (some 7) ?_
 (try simp only [Act.put, sA, sB, sC])
 refine wpAnyH_done (by kernel_rfl) ?_ _
 have q1 := hE5.heap Q1.out
 obtain ⟨z0, z1, z2⟩ := cells3 q1
 obtain ⟨f0, f1, f2⟩ := frz3 q1
 have HQ := hid q1
 clear q1; clear y0 y1 y2 y3 y4 y5 y6 y7 y8 y9
 go_wp2
 have hF := set3 (v0 := .int .i64 0) (v1 := .bool false) (v2 := .bool false) HQ.out
 obtain ⟨d0, d1, d2⟩ := cells3 hF
 refine bodyPost_ret (v := .tuple #[.agg #[.int .i64 0, .bool false, .bool false], .int .i64 ec]) (by simp [results, Try.results38, go_sem, d0, d1, d2]) rfl ⟨rfl, ?_⟩
 exact Ev.setCell (Ev.setCell (Ev.setCell (hE0.trans hE5) (by simp) _) (by simp) _) (by simp) _

set_option maxRecDepth 100000 in
set_option maxHeartbeats 2000000 in
theorem Fear_none (f : M.Cf) (Aw At Ar : Option Addr) (nw cw nt ct nr cr : Nat) (P : Option Addr) (pn pc : Nat) (plan : List Int) (hl0 : -9223372036854775808 ≤ f.last) (w : World) (hs : CS w w.heap.size f Aw At Ar nw cw nt ct nr cr) (hp : Sl ics 1 w w.heap.size P pn pc plan) (h0 : M.begin f (M.isTurns f plan) = 0) (hn : M.fear f (M.truths f) plan = none) :
  Calls Try.prog 38 #[.agg #[.int .i64 f.last, .int .i64 f.size, .int .i64 f.cool, .int .i64 f.die, .int .i64 f.burn, .int .i64 f.st.lo, .int .i64 f.st.hi, .slice Aw nw cw, .slice At nt ct, .slice Ar nr cr], .slice P pn pc] w fun e w' => e = .returned (.tuple #[.agg #[.int .i64 0, .bool false, .bool false], .int .i64 7]) ∧ Ev w w' := by
 obtain ⟨hc0, hpl, hne⟩ := M.begin0 h0
 have hts := M.truths_listed hc0
 have HIP := hid (fun W (hE : Ev w W) => isTurns_c f Aw At Ar nw cw nt ct nr cr P pn pc plan W (hp.ev hE))
 rw [hpl] at HIP h0
 have HBG := hid (fun W (hE : Ev w W) => begin_ok f Aw At Ar nw cw nt ct nr cr hl0 true h0 W (hs.ev hE))
 clear h0
 have HFV := hid (show M.fearV f (M.truths f) plan = .tuple #[.agg #[.int .i64 0, .bool false, .bool false], .bool false] by unfold M.fearV; rw [hn])
 go_enter Try.func38, Try.ntmps38
 go_upto_region 1 with fail
 generalize hW0 : World.alloc (World.alloc w _) _ = W0
 have hE0 : Ev w W0 := by rw [← hW0]; exact Ev.alloc (Ev.alloc (Ev.refl _) _) _
 have hal := alloc2 w (.cells #[.int .i64 f.last, .int .i64 f.size, .int .i64 f.cool, .int .i64 f.die, .int .i64 f.burn, .int .i64 f.st.lo, .int .i64 f.st.hi, .slice Aw nw cw, .slice At nt ct, .slice Ar nr cr] 40) (.cells #[.int .i64 0, .bool false, .bool false] 64)
 rw [hW0] at hal
 have Q0 := hid hal.1
 have Q1 := hid hal.2.1
 have HZ := hid hal.2.2
 clear hal hW0
 obtain ⟨y0, y1, y2, y3, y4, y5, y6, y7, y8, y9⟩ := cells10 Q0.out
 have l0 := heap_lt Q0.out
 have HSE : Hid (∀ w', Ev W0 w' → (∀ o, w'.cell? ⟨w.heap.size, o, none⟩ = W0.cell? ⟨w.heap.size, o, none⟩)) := hid (fun w' h => fun o => h.cells.1 _ o l0)
 refine wp_region_held_drew (S := fun w' => (∀ o, w'.cell? ⟨w.heap.size, o, none⟩ = W0.cell? ⟨w.heap.size, o, none⟩)) (by kernel_rfl) (fun o => rfl) (fun hHeld => ?_)
 refine tkH 0 (some 11) ?_
 (try simp only [Act.put, sA, sB, sC])
 refine tkH 1 (some 12) ?_
 (try simp only [Act.put, sA, sB, sC])
 refine tkH 2 (some 13) ?_
 (try simp only [Act.put, sA, sB, sC])
 refine wpAnyH_one (i := 3) rfl (by kernel_rfl) (by rfl) (fun K hK => ?_)
 go_simp
 refine (HIP.out _ (hE0.trans (Ev.drew (Ev.refl _)))).mono ?_
 rintro e w4 ⟨rfl, hb4⟩
 have hE4 : Ev W0 w4 := Ev.trans (Ev.drew (Ev.refl _)) hb4
 refine hK.out _ _ (HSE.out _ hE4) (fun hHeld => ?_)
 clear hK K
 (try simp only [Act.put, List.setIfInBounds_toArray, List.set_cons_zero, List.set_cons_succ])
 refine wpAnyH_one (i := 4) rfl (by kernel_rfl) (by rfl) (fun K hK => ?_)
 go_simp
 refine (HBG.out _ (hE0.trans hE4)).mono ?_
 rintro e w5 ⟨⟨Ts, Ss, ns, cs, ms, ds, p, mb, rfl, hwc⟩, hb5⟩
 have hE5 : Ev W0 w5 := hE4.trans hb5
 refine hK.out _ _ (HSE.out _ hE5) (fun hHeld => ?_)
 clear hK K
 (try simp only [Act.put, List.setIfInBounds_toArray, List.set_cons_zero, List.set_cons_succ])
 refine tkH 5 (some 10) ?_
 (try simp only [Act.put, sA, sB, sC])
 refine tkH 6 (some 16) ?_
 (try simp only [Act.put, sA, sB, sC])
 refine tkH 7 (some 17) ?_
 (try simp only [Act.put, sA, sB, sC])
 refine tkH 8 (some 6) ?_
 (try simp only [Act.put, sA, sB, sC])
 refine tkH 9 (some 7) ?_
 (try simp only [Act.put, sA, sB, sC])
 refine wpAnyH_done (by kernel_rfl) ?_ _
 have hs4 := hE4.size
 have hs0 := hE0.size
 have hnt : 0 < ns := by
  rw [← hwc.len]
  exact List.length_pos_iff.2 hne
 have hm0 := hwc.b1
 have htb := hwc.tb
 have hcon := fear_c f Aw At Ar nw cw nt ct nr cr Ts Ss ns cs ms ds p mb P pn pc plan w4.heap.size (M.truths f) (M.stands f) hc0 hts w5 hwc ((hp.ev hE0).ev hE5)
 rw [HFV.out] at hcon
 have HBO := hid hcon
 have hmb : mb < w5.heap.size := by obtain ⟨_, _, hm⟩ := hwc.mp; exact hm.lt
 have q5 := hE5.heap Q1.out
 have hz := HZ.out
 have HQ5 := hid q5
 clear y0 y1 y2 y3 y4 y5 y6 y7 y8 y9; clear hwc hcon q5
 go_wp2_with (go_at_call 79; with_reducible refine HBO.out.mono ?_; rintro e w6 ⟨rfl, hm6⟩; have q1 := hm6.heap HQ5.out (by omega); have lgd := heap_lt q1; obtain ⟨z0, z1, z2⟩ := cells3 q1; obtain ⟨f0, f1, f2⟩ := frz3 q1; have HQ6 := hid q1; clear q1)
 have hE6 := Mo.evr (hE0.trans hE5) hm6 (by omega)
 have hF := (Ev.alloc (Ev.refl _) (.cells #[.int .i64 0, .bool false, .bool false] 64)).heap (set3 (v0 := .int .i64 0) (v1 := .bool false) (v2 := .bool false) HQ6.out)
 obtain ⟨d0, d1, d2⟩ := cells3 hF
 refine bodyPost_ret (v := .tuple #[.agg #[.int .i64 0, .bool false, .bool false], .int .i64 7]) (by simp [results, Try.results38, go_sem, d0, d1, d2]) rfl ⟨rfl, ?_⟩
 exact Ev.alloc (Ev.setCell (Ev.setCell (Ev.setCell hE6 (by simp) _) (by simp) _) (by simp) _) _

set_option maxRecDepth 100000 in
set_option maxHeartbeats 2000000 in
theorem Fear_ok (f : M.Cf) (Aw At Ar : Option Addr) (nw cw nt ct nr cr : Nat) (P : Option Addr) (pn pc : Nat) (plan : List Int) (hl0 : -9223372036854775808 ≤ f.last) (w : World) (hs : CS w w.heap.size f Aw At Ar nw cw nt ct nr cr) (hp : Sl ics 1 w w.heap.size P pn pc plan) (h0 : M.begin f (M.isTurns f plan) = 0) (i : Nat) (hn : M.fear f (M.truths f) plan = some i) :
  Calls Try.prog 38 #[.agg #[.int .i64 f.last, .int .i64 f.size, .int .i64 f.cool, .int .i64 f.die, .int .i64 f.burn, .int .i64 f.st.lo, .int .i64 f.st.hi, .slice Aw nw cw, .slice At nt ct, .slice Ar nr cr], .slice P pn pc] w fun e w' => e = .returned (.tuple #[.agg #[.int .i64 (i : Int), .bool (M.burnsAt f (M.truths f) plan i), .bool (M.diesAt f (M.truths f) plan i)], .int .i64 0]) ∧ Ev w w' := by
 obtain ⟨hc0, hpl, hne⟩ := M.begin0 h0
 have hts := M.truths_listed hc0
 have HIP := hid (fun W (hE : Ev w W) => isTurns_c f Aw At Ar nw cw nt ct nr cr P pn pc plan W (hp.ev hE))
 rw [hpl] at HIP h0
 have HBG := hid (fun W (hE : Ev w W) => begin_ok f Aw At Ar nw cw nt ct nr cr hl0 true h0 W (hs.ev hE))
 clear h0
 have HFV := hid (show M.fearV f (M.truths f) plan = .tuple #[.agg #[.int .i64 (i : Int), .bool (M.burnsAt f (M.truths f) plan i), .bool (M.diesAt f (M.truths f) plan i)], .bool true] by unfold M.fearV; rw [hn])
 generalize M.burnsAt f (M.truths f) plan i = va at HFV ⊢
 generalize M.diesAt f (M.truths f) plan i = vb at HFV ⊢
 go_enter Try.func38, Try.ntmps38
 go_upto_region 1 with fail
 generalize hW0 : World.alloc (World.alloc w _) _ = W0
 have hE0 : Ev w W0 := by rw [← hW0]; exact Ev.alloc (Ev.alloc (Ev.refl _) _) _
 have hal := alloc2 w (.cells #[.int .i64 f.last, .int .i64 f.size, .int .i64 f.cool, .int .i64 f.die, .int .i64 f.burn, .int .i64 f.st.lo, .int .i64 f.st.hi, .slice Aw nw cw, .slice At nt ct, .slice Ar nr cr] 40) (.cells #[.int .i64 0, .bool false, .bool false] 64)
 rw [hW0] at hal
 have Q0 := hid hal.1
 have Q1 := hid hal.2.1
 have HZ := hid hal.2.2
 clear hal hW0
 obtain ⟨y0, y1, y2, y3, y4, y5, y6, y7, y8, y9⟩ := cells10 Q0.out
 have l0 := heap_lt Q0.out
 have HSE : Hid (∀ w', Ev W0 w' → (∀ o, w'.cell? ⟨w.heap.size, o, none⟩ = W0.cell? ⟨w.heap.size, o, none⟩)) := hid (fun w' h => fun o => h.cells.1 _ o l0)
 refine wp_region_held_drew (S := fun w' => (∀ o, w'.cell? ⟨w.heap.size, o, none⟩ = W0.cell? ⟨w.heap.size, o, none⟩)) (by kernel_rfl) (fun o => rfl) (fun hHeld => ?_)
 refine tkH 0 (some 11) ?_
 (try simp only [Act.put, sA, sB, sC])
 refine tkH 1 (some 12) ?_
 (try simp only [Act.put, sA, sB, sC])
 refine tkH 2 (some 13) ?_
 (try simp only [Act.put, sA, sB, sC])
 refine wpAnyH_one (i := 3) rfl (by kernel_rfl) (by rfl) (fun K hK => ?_)
 go_simp
 refine (HIP.out _ (hE0.trans (Ev.drew (Ev.refl _)))).mono ?_
 rintro e w4 ⟨rfl, hb4⟩
 have hE4 : Ev W0 w4 := Ev.trans (Ev.drew (Ev.refl _)) hb4
 refine hK.out _ _ (HSE.out _ hE4) (fun hHeld => ?_)
 clear hK K
 (try simp only [Act.put, List.setIfInBounds_toArray, List.set_cons_zero, List.set_cons_succ])
 refine wpAnyH_one (i := 4) rfl (by kernel_rfl) (by rfl) (fun K hK => ?_)
 go_simp
 refine (HBG.out _ (hE0.trans hE4)).mono ?_
 rintro e w5 ⟨⟨Ts, Ss, ns, cs, ms, ds, p, mb, rfl, hwc⟩, hb5⟩
 have hE5 : Ev W0 w5 := hE4.trans hb5
 refine hK.out _ _ (HSE.out _ hE5) (fun hHeld => ?_)
 clear hK K
 (try simp only [Act.put, List.setIfInBounds_toArray, List.set_cons_zero, List.set_cons_succ])
 refine tkH 5 (some 10) ?_
 (try simp only [Act.put, sA, sB, sC])
 refine tkH 6 (some 16) ?_
 (try simp only [Act.put, sA, sB, sC])
 refine tkH 7 (some 17) ?_
 (try simp only [Act.put, sA, sB, sC])
 refine tkH 8 (some 6) ?_
 (try simp only [Act.put, sA, sB, sC])
 refine tkH 9 (some 7) ?_
 (try simp only [Act.put, sA, sB, sC])
 refine wpAnyH_done (by kernel_rfl) ?_ _
 have hs4 := hE4.size
 have hs0 := hE0.size
 have hnt : 0 < ns := by
  rw [← hwc.len]
  exact List.length_pos_iff.2 hne
 have hm0 := hwc.b1
 have htb := hwc.tb
 have hcon := fear_c f Aw At Ar nw cw nt ct nr cr Ts Ss ns cs ms ds p mb P pn pc plan w4.heap.size (M.truths f) (M.stands f) hc0 hts w5 hwc ((hp.ev hE0).ev hE5)
 rw [HFV.out] at hcon
 have HBO := hid hcon
 have hmb : mb < w5.heap.size := by obtain ⟨_, _, hm⟩ := hwc.mp; exact hm.lt
 have q5 := hE5.heap Q1.out
 have hz := HZ.out
 have HQ5 := hid q5
 clear y0 y1 y2 y3 y4 y5 y6 y7 y8 y9; clear hwc hcon q5
 go_wp2_with (go_at_call 79; with_reducible refine HBO.out.mono ?_; rintro e w6 ⟨rfl, hm6⟩; have q1 := hm6.heap HQ5.out (by omega); have lgd := heap_lt q1; obtain ⟨z0, z1, z2⟩ := cells3 q1; obtain ⟨f0, f1, f2⟩ := frz3 q1; have HQ6 := hid q1; clear q1)
 have hE6 := Mo.evr (hE0.trans hE5) hm6 (by omega)
 have hF := (Ev.alloc (Ev.refl _) (.cells #[.int .i64 (i : Int), .bool va, .bool vb] 64)).heap (set3 (v0 := .int .i64 (i : Int)) (v1 := .bool va) (v2 := .bool vb) HQ6.out)
 obtain ⟨d0, d1, d2⟩ := cells3 hF
 refine bodyPost_ret (v := .tuple #[.agg #[.int .i64 (i : Int), .bool va, .bool vb], .int .i64 0]) (by simp [results, Try.results38, go_sem, d0, d1, d2]) rfl ⟨rfl, ?_⟩
 exact Ev.alloc (Ev.setCell (Ev.setCell (Ev.setCell hE6 (by simp) _) (by simp) _) (by simp) _) _

end Go.Proofs.Ytgimcephbeajlaa
