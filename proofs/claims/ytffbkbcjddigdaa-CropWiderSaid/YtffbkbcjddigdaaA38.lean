import Derived.Test.YtffbkbcjddigdaaA36
set_option linter.unusedSimpArgs false
set_option linter.unusedVariables false
namespace Go.Proofs.Ytffbkbcjddigdaa
open Go.RowKit Go.Shelf

set_option maxRecDepth 100000 in
set_option maxHeartbeats 2000000 in
theorem Worth_err (f : M.Cf) (Ag Aw Ab Ac Al : Option Addr) (ng cg nw cw nb cb nc cc nl cl : Nat) (P : Option Addr) (pn pc : Nat) (plan : List Int) (hl0 : -9223372036854775808 ≤ f.last)  (w : World) (hs : CS w w.heap.size f Ag Aw Ab Ac Al ng cg nw cw nb cb nc cc nl cl) (hp : Sl ics 1 w w.heap.size P pn pc plan) (h0 : M.begin f (M.isPlan f plan) ≠ 0) :
  Calls Try.prog 29 #[.agg #[.int .i64 f.last, .slice Ag ng cg, .slice Aw nw cw, .slice Ab nb cb, .slice Ac nc cc, .int .i64 f.ripe, .int .i64 f.late, .int .i64 f.trod, .slice Al nl cl], .slice P pn pc] w fun e w' => e = .returned (.tuple #[.agg #[.int .i64 0, .int .i64 0], .int .i64 (M.begin f (M.isPlan f plan))]) ∧ Ev w w' := by
 have HIP := hid (fun W (hE : Ev w W) => isPlan_c f Ag Aw Ab Ac Al ng cg nw cw nb cb nc cc nl cl hs.b.len hs.b.small P pn pc plan W (hp.ev hE))
 generalize M.isPlan f plan = nm at HIP h0
 have HBG := hid (fun W (hE : Ev w W) => begin_err f Ag Aw Ab Ac Al ng cg nw cw nb cb nc cc nl cl hl0 nm h0 W (hs.ev hE))
 generalize M.begin f nm = ec at HBG h0
 have he : (ec == 0) = false := by simpa using h0
 clear h0
 go_enter Try.func29, Try.ntmps29
 go_upto_region 1 with fail
 generalize hW0 : World.alloc (World.alloc w _) _ = W0
 have hE0 : Ev w W0 := by rw [← hW0]; exact Ev.alloc (Ev.alloc (Ev.refl _) _) _
 have hal := alloc2 w (.cells #[.int .i64 f.last, .slice Ag ng cg, .slice Aw nw cw, .slice Ab nb cb, .slice Ac nc cc, .int .i64 f.ripe, .int .i64 f.late, .int .i64 f.trod, .slice Al nl cl] 38) (.cells #[.int .i64 0, .int .i64 0] 57)
 rw [hW0] at hal
 have Q0 := hid hal.1
 have Q1 := hid hal.2.1
 clear hal hW0
 obtain ⟨y0, y1, y2, y3, y4, y5, y6, y7, y8⟩ := cells9 Q0.out
 have l0 := heap_lt Q0.out
 have HSE : Hid (∀ w', Ev W0 w' → (∀ o, w'.cell? ⟨w.heap.size, o, none⟩ = W0.cell? ⟨w.heap.size, o, none⟩)) := hid (fun w' h => fun o => h.cells.1 _ o l0)
 refine wp_region_held_drew (S := fun w' => (∀ o, w'.cell? ⟨w.heap.size, o, none⟩ = W0.cell? ⟨w.heap.size, o, none⟩)) (by kernel_rfl) (fun o => rfl) (fun hHeld => ?_)
 refine tkH 0 (some 9) ?_
 (try simp only [Act.put, sA, sB, sC])
 refine tkH 1 (some 10) ?_
 (try simp only [Act.put, sA, sB, sC])
 refine tkH 2 (some 11) ?_
 (try simp only [Act.put, sA, sB, sC])
 refine wpAnyH_one (i := 3) rfl (by kernel_rfl) (by rfl) (fun K hK => ?_)
 go_simp
 refine (HIP.out _ (hE0.trans (Ev.drew (Ev.refl _)))).mono ?_
 rintro e w4 ⟨rfl, hb4⟩
 have hE4 : Ev W0 w4 := Ev.trans (Ev.drew (Ev.refl _)) hb4
 refine hK.out _ _ (HSE.out _ hE4) (fun hHeld => ?_)
 clear hK K
 (try simp only [Act.put, List.setIfInBounds_toArray, List.set_cons_zero, List.set_cons_succ])
 refine wpAnyH_one (i := 4) rfl (by kernel_rfl) (by rfl) (fun K hK => ?_)
 go_simp
 refine (HBG.out _ (hE0.trans hE4)).mono ?_
 rintro e w5 ⟨rfl, hb5⟩
 have hE5 : Ev W0 w5 := hE4.trans hb5
 refine hK.out _ _ (HSE.out _ hE5) (fun hHeld => ?_)
 clear hK K
 (try simp only [Act.put, List.setIfInBounds_toArray, List.set_cons_zero, List.set_cons_succ])
 refine tkH 5 (some 8) ?_
 (try simp only [Act.put, sA, sB, sC])
 refine tkH 6 (some 14) ?_
 (try simp only [Act.put, sA, sB, sC])
 refine tkH 7 (some 15) ?_
 (try simp only [Act.put, sA, sB, sC])
 refine tkH 8 (some 6) ?_
 (try simp only [Act.put, sA, sB, sC])
 refine tkH 9 (some 7) ?_
 (try simp only [Act.put, sA, sB, sC])
 refine wpAnyH_done (by kernel_rfl) ?_ _
 have q1 := hE5.heap Q1.out
 obtain ⟨z0, z1⟩ := cells2 q1
 obtain ⟨f0, f1⟩ := frz2 q1
 have HQ := hid q1
 clear q1 y0 y1 y2 y3 y4 y5 y6 y7 y8
 go_wp2
 have hF : ((w5.setCell ⟨w.heap.size + 1, 0, none⟩ (.int .i64 0)).setCell ⟨w.heap.size + 1, 1, none⟩ (.int .i64 0)).heap[w.heap.size + 1]? = some (.cells #[.int .i64 0, .int .i64 0] 57 (0, 0)) := by
  rw [set_heap_same (set_heap_same HQ.out)]; rfl
 obtain ⟨d0, d1⟩ := cells2 hF
 refine bodyPost_ret (v := .tuple #[.agg #[.int .i64 0, .int .i64 0], .int .i64 ec]) (by simp [results, Try.results29, go_sem, d0, d1]) rfl ⟨rfl, ?_⟩
 exact Ev.setCell (Ev.setCell (hE0.trans hE5) (by simp) _) (by simp) _

set_option maxRecDepth 100000 in
set_option maxHeartbeats 2000000 in
theorem Standing_err (f : M.Cf) (Ag Aw Ab Ac Al : Option Addr) (ng cg nw cw nb cb nc cc nl cl : Nat) (wk : Int) (hl0 : -9223372036854775808 ≤ f.last)  (w : World) (hs : CS w w.heap.size f Ag Aw Ab Ac Al ng cg nw cw nb cb nc cc nl cl) (h0 : M.begin f (M.hasWeek f wk) ≠ 0) :
  Calls Try.prog 30 #[.agg #[.int .i64 f.last, .slice Ag ng cg, .slice Aw nw cw, .slice Ab nb cb, .slice Ac nc cc, .int .i64 f.ripe, .int .i64 f.late, .int .i64 f.trod, .slice Al nl cl], .int .i64 wk] w fun e w' => e = .returned (.tuple #[.agg #[.int .i64 0, .int .i64 0], .int .i64 (M.begin f (M.hasWeek f wk))]) ∧ Ev w w' := by
 have HIP := hid (fun W (hE : Ev w W) => hasWeek_c f Ag Aw Ab Ac Al ng cg nw cw nb cb nc cc nl cl wk W)
 generalize M.hasWeek f wk = nm at HIP h0
 have HBG := hid (fun W (hE : Ev w W) => begin_err f Ag Aw Ab Ac Al ng cg nw cw nb cb nc cc nl cl hl0 nm h0 W (hs.ev hE))
 generalize M.begin f nm = ec at HBG h0
 have he : (ec == 0) = false := by simpa using h0
 clear h0
 go_enter Try.func30, Try.ntmps30
 go_upto_region 1 with fail
 generalize hW0 : World.alloc (World.alloc w _) _ = W0
 have hE0 : Ev w W0 := by rw [← hW0]; exact Ev.alloc (Ev.alloc (Ev.refl _) _) _
 have hal := alloc2 w (.cells #[.int .i64 f.last, .slice Ag ng cg, .slice Aw nw cw, .slice Ab nb cb, .slice Ac nc cc, .int .i64 f.ripe, .int .i64 f.late, .int .i64 f.trod, .slice Al nl cl] 38) (.cells #[.int .i64 0, .int .i64 0] 57)
 rw [hW0] at hal
 have Q0 := hid hal.1
 have Q1 := hid hal.2.1
 clear hal hW0
 obtain ⟨y0, y1, y2, y3, y4, y5, y6, y7, y8⟩ := cells9 Q0.out
 have l0 := heap_lt Q0.out
 have HSE : Hid (∀ w', Ev W0 w' → (∀ o, w'.cell? ⟨w.heap.size, o, none⟩ = W0.cell? ⟨w.heap.size, o, none⟩)) := hid (fun w' h => fun o => h.cells.1 _ o l0)
 refine wp_region_held_drew (S := fun w' => (∀ o, w'.cell? ⟨w.heap.size, o, none⟩ = W0.cell? ⟨w.heap.size, o, none⟩)) (by kernel_rfl) (fun o => rfl) (fun hHeld => ?_)
 refine tkH 0 (some 9) ?_
 (try simp only [Act.put, sA, sB, sC])
 refine tkH 1 (some 10) ?_
 (try simp only [Act.put, sA, sB, sC])
 refine tkH 2 (some 11) ?_
 (try simp only [Act.put, sA, sB, sC])
 refine wpAnyH_one (i := 3) rfl (by kernel_rfl) (by rfl) (fun K hK => ?_)
 go_simp
 refine (HIP.out _ (hE0.trans (Ev.drew (Ev.refl _)))).mono ?_
 rintro e w4 ⟨rfl, hb4⟩
 have hE4 : Ev W0 w4 := Ev.trans (Ev.drew (Ev.refl _)) hb4
 refine hK.out _ _ (HSE.out _ hE4) (fun hHeld => ?_)
 clear hK K
 (try simp only [Act.put, List.setIfInBounds_toArray, List.set_cons_zero, List.set_cons_succ])
 refine wpAnyH_one (i := 4) rfl (by kernel_rfl) (by rfl) (fun K hK => ?_)
 go_simp
 refine (HBG.out _ (hE0.trans hE4)).mono ?_
 rintro e w5 ⟨rfl, hb5⟩
 have hE5 : Ev W0 w5 := hE4.trans hb5
 refine hK.out _ _ (HSE.out _ hE5) (fun hHeld => ?_)
 clear hK K
 (try simp only [Act.put, List.setIfInBounds_toArray, List.set_cons_zero, List.set_cons_succ])
 refine tkH 5 (some 8) ?_
 (try simp only [Act.put, sA, sB, sC])
 refine tkH 6 (some 14) ?_
 (try simp only [Act.put, sA, sB, sC])
 refine tkH 7 (some 15) ?_
 (try simp only [Act.put, sA, sB, sC])
 refine tkH 8 (some 6) ?_
 (try simp only [Act.put, sA, sB, sC])
 refine tkH 9 (some 7) ?_
 (try simp only [Act.put, sA, sB, sC])
 refine wpAnyH_done (by kernel_rfl) ?_ _
 have q1 := hE5.heap Q1.out
 obtain ⟨z0, z1⟩ := cells2 q1
 obtain ⟨f0, f1⟩ := frz2 q1
 have HQ := hid q1
 clear q1 y0 y1 y2 y3 y4 y5 y6 y7 y8
 go_wp2
 have hF : ((w5.setCell ⟨w.heap.size + 1, 0, none⟩ (.int .i64 0)).setCell ⟨w.heap.size + 1, 1, none⟩ (.int .i64 0)).heap[w.heap.size + 1]? = some (.cells #[.int .i64 0, .int .i64 0] 57 (0, 0)) := by
  rw [set_heap_same (set_heap_same HQ.out)]; rfl
 obtain ⟨d0, d1⟩ := cells2 hF
 refine bodyPost_ret (v := .tuple #[.agg #[.int .i64 0, .int .i64 0], .int .i64 ec]) (by simp [results, Try.results30, go_sem, d0, d1]) rfl ⟨rfl, ?_⟩
 exact Ev.setCell (Ev.setCell (hE0.trans hE5) (by simp) _) (by simp) _

theorem M.begin0 {f : M.Cf} {nm : Bool} (h : M.begin f nm = 0) : M.check f = 0 ∧ nm = true ∧ M.truths f ≠ [] := by
 unfold M.begin at h
 by_cases hc : M.check f = 0
 ·
  rw [if_neg (by simp [hc])] at h
  cases nm with
  | false => simp at h
  | true =>
   refine ⟨hc, rfl, fun ht => ?_⟩
   rw [if_neg (by simp), if_pos ht] at h
   simp at h
 ·
  rw [if_pos hc] at h
  exact absurd h hc
theorem M.truths_listed {f : M.Cf} (h0 : M.check f = 0) : ∀ t ∈ M.truths f, M.listed f t = true := fun t ht => by
 unfold M.truths at ht
 exact (M.mem_allTruths (M.check0 h0).2.2.2.1 t).1 (List.mem_filter.1 ht).1
theorem Wc.ntl {w : World} {f : M.Cf} {Ag Aw Ab Ac Al : Option Addr} {ng cg nw cw nb cb nc cc nl cl : Nat} {At As : Option Addr} {nt ct ns cs p mb : Nat} {ts : List M.Tr} {ss : List (List Int)} (h : Wc w f Ag Aw Ab Ac Al ng cg nw cw nb cb nc cc nl cl At As nt ct ns cs p mb ts ss) : ts.length = nt := by
 obtain ⟨vs, h1, h2⟩ := h.tr
 rw [← h2.1, h1.len]
/-- What a plan is worth. -/
def M.worth (f : M.Cf) (plan : List Int) : M.Rg := M.span ((M.truths f).map fun t => M.total f t plan)

set_option maxRecDepth 100000 in
set_option maxHeartbeats 2000000 in
theorem Worth_ok (f : M.Cf) (Ag Aw Ab Ac Al : Option Addr) (ng cg nw cw nb cb nc cc nl cl : Nat) (P : Option Addr) (pn pc : Nat) (plan : List Int) (hl0 : -9223372036854775808 ≤ f.last) (w : World) (hs : CS w w.heap.size f Ag Aw Ab Ac Al ng cg nw cw nb cb nc cc nl cl) (hp : Sl ics 1 w w.heap.size P pn pc plan) (h0 : M.begin f (M.isPlan f plan) = 0) :
  Calls Try.prog 29 #[.agg #[.int .i64 f.last, .slice Ag ng cg, .slice Aw nw cw, .slice Ab nb cb, .slice Ac nc cc, .int .i64 f.ripe, .int .i64 f.late, .int .i64 f.trod, .slice Al nl cl], .slice P pn pc] w fun e w' => e = .returned (.tuple #[.agg #[.int .i64 (M.worth f plan).lo, .int .i64 (M.worth f plan).hi], .int .i64 0]) ∧ Ev w w' := by
 obtain ⟨hc0, hnm, hne⟩ := M.begin0 h0
 have hts := M.truths_listed hc0
 have hpl := hnm
 have HIP := hid (fun W (hE : Ev w W) => isPlan_c f Ag Aw Ab Ac Al ng cg nw cw nb cb nc cc nl cl hs.b.len hs.b.small P pn pc plan W (hp.ev hE))
 rw [hnm] at HIP h0
 have HBG := hid (fun W (hE : Ev w W) => begin_ok f Ag Aw Ab Ac Al ng cg nw cw nb cb nc cc nl cl hl0 true h0 W (hs.ev hE))
 clear h0
 go_enter Try.func29, Try.ntmps29
 go_upto_region 1 with fail
 generalize hW0 : World.alloc (World.alloc w _) _ = W0
 have hE0 : Ev w W0 := by rw [← hW0]; exact Ev.alloc (Ev.alloc (Ev.refl _) _) _
 have hal := alloc2 w (.cells #[.int .i64 f.last, .slice Ag ng cg, .slice Aw nw cw, .slice Ab nb cb, .slice Ac nc cc, .int .i64 f.ripe, .int .i64 f.late, .int .i64 f.trod, .slice Al nl cl] 38) (.cells #[.int .i64 0, .int .i64 0] 57)
 rw [hW0] at hal
 have Q0 := hid hal.1
 have Q1 := hid hal.2.1
 have HZ := hid hal.2.2
 clear hal hW0
 obtain ⟨y0, y1, y2, y3, y4, y5, y6, y7, y8⟩ := cells9 Q0.out
 have l0 := heap_lt Q0.out
 have HSE : Hid (∀ w', Ev W0 w' → (∀ o, w'.cell? ⟨w.heap.size, o, none⟩ = W0.cell? ⟨w.heap.size, o, none⟩)) := hid (fun w' h => fun o => h.cells.1 _ o l0)
 refine wp_region_held_drew (S := fun w' => (∀ o, w'.cell? ⟨w.heap.size, o, none⟩ = W0.cell? ⟨w.heap.size, o, none⟩)) (by kernel_rfl) (fun o => rfl) (fun hHeld => ?_)
 refine tkH 0 (some 9) ?_
 (try simp only [Act.put, sA, sB, sC])
 refine tkH 1 (some 10) ?_
 (try simp only [Act.put, sA, sB, sC])
 refine tkH 2 (some 11) ?_
 (try simp only [Act.put, sA, sB, sC])
 refine wpAnyH_one (i := 3) rfl (by kernel_rfl) (by rfl) (fun K hK => ?_)
 go_simp
 refine (HIP.out _ (hE0.trans (Ev.drew (Ev.refl _)))).mono ?_
 rintro e w4 ⟨rfl, hb4⟩
 have hE4 : Ev W0 w4 := Ev.trans (Ev.drew (Ev.refl _)) hb4
 refine hK.out _ _ (HSE.out _ hE4) (fun hHeld => ?_)
 clear hK K
 (try simp only [Act.put, List.setIfInBounds_toArray, List.set_cons_zero, List.set_cons_succ])
 refine wpAnyH_one (i := 4) rfl (by kernel_rfl) (by rfl) (fun K hK => ?_)
 go_simp
 refine (HBG.out _ (hE0.trans hE4)).mono ?_
 rintro e w5 ⟨⟨At, As, nt, ct, ns, cs, p, mb, rfl, hwc, hmb⟩, hb5⟩
 have hE5 : Ev W0 w5 := hE4.trans hb5
 refine hK.out _ _ (HSE.out _ hE5) (fun hHeld => ?_)
 clear hK K
 (try simp only [Act.put, List.setIfInBounds_toArray, List.set_cons_zero, List.set_cons_succ])
 refine tkH 5 (some 8) ?_
 (try simp only [Act.put, sA, sB, sC])
 refine tkH 6 (some 14) ?_
 (try simp only [Act.put, sA, sB, sC])
 refine tkH 7 (some 15) ?_
 (try simp only [Act.put, sA, sB, sC])
 refine tkH 8 (some 6) ?_
 (try simp only [Act.put, sA, sB, sC])
 refine tkH 9 (some 7) ?_
 (try simp only [Act.put, sA, sB, sC])
 refine wpAnyH_done (by kernel_rfl) ?_ _
 have q1 := hE5.heap Q1.out
 have hs4 := hE4.size
 have hZ := HZ.out
 have hnt : 0 < nt := by
  rw [← hwc.ntl]
  exact List.length_pos_iff.2 hne
 have HWC := hid hwc
 have HQ := hid q1
 clear q1 y0 y1 y2 y3 y4 y5 y6 y7 y8 hwc
 have HWO := hid (worths_c f Ag Aw Ab Ac Al ng cg nw cw nb cb nc cc nl cl At As nt ct ns cs p mb P pn pc plan (M.truths f) (M.stands f) hc0 hts hpl w5 HWC.out ((hp.ev hE0).ev hE5))
 have HSPX := hid (fun B d W (h : Sl ics 1 W W.heap.size B nt d ((M.truths f).map fun t => M.total f t plan)) => (show Calls Try.prog 65 #[.slice B nt d] W fun e w' => e = .returned (.agg #[.int .i64 (M.worth f plan).lo, .int .i64 (M.worth f plan).hi]) ∧ Ev W w' from spanL_c B nt d _ W hnt h))
 go_wp2_with (first | (go_at_call 66; with_reducible refine HWO.out.mono ?_; rintro e w6 ⟨⟨B, d, rfl, hsl⟩, hw6, hm6⟩; have HSP := hid (HSPX.out B d w6 hsl); have HM6 := hid hm6; clear hsl hw6 hm6) | (go_at_call 65; with_reducible refine HSP.out.mono ?_; rintro e w7 ⟨rfl, hb7⟩; have q7 := hb7.heap (HM6.out.heap HQ.out (by omega)); have hE7 := (Mo.evr (hE0.trans hE5) HM6.out (by omega)).trans hb7; obtain ⟨z0, z1⟩ := cells2 q7; obtain ⟨f0, f1⟩ := frz2 q7; have HQ7 := hid q7; have HE7 := hid hE7; clear q7 hE7))
 have hF : ((w7.setCell ⟨w.heap.size + 1, 0, none⟩ (.int .i64 (M.worth f plan).lo)).setCell ⟨w.heap.size + 1, 1, none⟩ (.int .i64 (M.worth f plan).hi)).heap[w.heap.size + 1]? = some (.cells #[.int .i64 (M.worth f plan).lo, .int .i64 (M.worth f plan).hi] 57 (0, 0)) := by
  rw [set_heap_same (set_heap_same HQ7.out)]; rfl
 obtain ⟨d0, d1⟩ := cells2 hF
 refine bodyPost_ret (v := .tuple #[.agg #[.int .i64 (M.worth f plan).lo, .int .i64 (M.worth f plan).hi], .int .i64 0]) (by simp [results, Try.results29, go_sem, d0, d1]) rfl ⟨rfl, ?_⟩
 exact Ev.setCell (Ev.setCell HE7.out (by simp) _) (by simp) _

set_option maxRecDepth 100000 in
set_option maxHeartbeats 2000000 in
theorem Standing_ok (f : M.Cf) (Ag Aw Ab Ac Al : Option Addr) (ng cg nw cw nb cb nc cc nl cl : Nat) (k : Nat) (hl0 : -9223372036854775808 ≤ f.last) (w : World) (hs : CS w w.heap.size f Ag Aw Ab Ac Al ng cg nw cw nb cb nc cc nl cl) (h0 : M.begin f (M.hasWeek f k) = 0) :
  Calls Try.prog 30 #[.agg #[.int .i64 f.last, .slice Ag ng cg, .slice Aw nw cw, .slice Ab nb cb, .slice Ac nc cc, .int .i64 f.ripe, .int .i64 f.late, .int .i64 f.trod, .slice Al nl cl], .int .i64 k] w fun e w' => e = .returned (.tuple #[.agg #[.int .i64 (M.on f (M.truths f) k).lo, .int .i64 (M.on f (M.truths f) k).hi], .int .i64 0]) ∧ Ev w w' := by
 obtain ⟨hc0, hnm, hne⟩ := M.begin0 h0
 have hts := M.truths_listed hc0
 have hwk : (0 : Int) ≤ k ∧ (k : Int) ≤ f.last := by
  have h := hnm
  unfold M.hasWeek at h
  simpa using h
 have HIP := hid (fun W (hE : Ev w W) => hasWeek_c f Ag Aw Ab Ac Al ng cg nw cw nb cb nc cc nl cl k W)
 rw [hnm] at HIP h0
 have HBG := hid (fun W (hE : Ev w W) => begin_ok f Ag Aw Ab Ac Al ng cg nw cw nb cb nc cc nl cl hl0 true h0 W (hs.ev hE))
 clear h0
 go_enter Try.func30, Try.ntmps30
 go_upto_region 1 with fail
 generalize hW0 : World.alloc (World.alloc w _) _ = W0
 have hE0 : Ev w W0 := by rw [← hW0]; exact Ev.alloc (Ev.alloc (Ev.refl _) _) _
 have hal := alloc2 w (.cells #[.int .i64 f.last, .slice Ag ng cg, .slice Aw nw cw, .slice Ab nb cb, .slice Ac nc cc, .int .i64 f.ripe, .int .i64 f.late, .int .i64 f.trod, .slice Al nl cl] 38) (.cells #[.int .i64 0, .int .i64 0] 57)
 rw [hW0] at hal
 have Q0 := hid hal.1
 have Q1 := hid hal.2.1
 have HZ := hid hal.2.2
 clear hal hW0
 obtain ⟨y0, y1, y2, y3, y4, y5, y6, y7, y8⟩ := cells9 Q0.out
 have l0 := heap_lt Q0.out
 have HSE : Hid (∀ w', Ev W0 w' → (∀ o, w'.cell? ⟨w.heap.size, o, none⟩ = W0.cell? ⟨w.heap.size, o, none⟩)) := hid (fun w' h => fun o => h.cells.1 _ o l0)
 refine wp_region_held_drew (S := fun w' => (∀ o, w'.cell? ⟨w.heap.size, o, none⟩ = W0.cell? ⟨w.heap.size, o, none⟩)) (by kernel_rfl) (fun o => rfl) (fun hHeld => ?_)
 refine tkH 0 (some 9) ?_
 (try simp only [Act.put, sA, sB, sC])
 refine tkH 1 (some 10) ?_
 (try simp only [Act.put, sA, sB, sC])
 refine tkH 2 (some 11) ?_
 (try simp only [Act.put, sA, sB, sC])
 refine wpAnyH_one (i := 3) rfl (by kernel_rfl) (by rfl) (fun K hK => ?_)
 go_simp
 refine (HIP.out _ (hE0.trans (Ev.drew (Ev.refl _)))).mono ?_
 rintro e w4 ⟨rfl, hb4⟩
 have hE4 : Ev W0 w4 := Ev.trans (Ev.drew (Ev.refl _)) hb4
 refine hK.out _ _ (HSE.out _ hE4) (fun hHeld => ?_)
 clear hK K
 (try simp only [Act.put, List.setIfInBounds_toArray, List.set_cons_zero, List.set_cons_succ])
 refine wpAnyH_one (i := 4) rfl (by kernel_rfl) (by rfl) (fun K hK => ?_)
 go_simp
 refine (HBG.out _ (hE0.trans hE4)).mono ?_
 rintro e w5 ⟨⟨At, As, nt, ct, ns, cs, p, mb, rfl, hwc, hmb⟩, hb5⟩
 have hE5 : Ev W0 w5 := hE4.trans hb5
 refine hK.out _ _ (HSE.out _ hE5) (fun hHeld => ?_)
 clear hK K
 (try simp only [Act.put, List.setIfInBounds_toArray, List.set_cons_zero, List.set_cons_succ])
 refine tkH 5 (some 8) ?_
 (try simp only [Act.put, sA, sB, sC])
 refine tkH 6 (some 14) ?_
 (try simp only [Act.put, sA, sB, sC])
 refine tkH 7 (some 15) ?_
 (try simp only [Act.put, sA, sB, sC])
 refine tkH 8 (some 6) ?_
 (try simp only [Act.put, sA, sB, sC])
 refine tkH 9 (some 7) ?_
 (try simp only [Act.put, sA, sB, sC])
 refine wpAnyH_done (by kernel_rfl) ?_ _
 have q1 := hE5.heap Q1.out
 have hs4 := hE4.size
 have hZ := HZ.out
 have hnt : 0 < nt := by
  rw [← hwc.ntl]
  exact List.length_pos_iff.2 hne
 have HWC := hid hwc
 have HQ := hid q1
 clear q1 y0 y1 y2 y3 y4 y5 y6 y7 y8 hwc
 have HST := hid (standing_c f Ag Aw Ab Ac Al ng cg nw cw nb cb nc cc nl cl At As nt ct ns cs p mb (M.truths f) (M.stands f) hc0 hnt hts k hwk.2 w5 HWC.out)
 go_wp2_with (go_at_call 68; with_reducible refine HST.out.mono ?_; rintro e w7 ⟨rfl, hb7⟩; have q7 := hb7.heap HQ.out; have hE7 := (hE0.trans hE5).trans hb7; obtain ⟨z0, z1⟩ := cells2 q7; obtain ⟨f0, f1⟩ := frz2 q7; have HQ7 := hid q7; have HE7 := hid hE7; clear q7 hE7)
 have hF : ((w7.setCell ⟨w.heap.size + 1, 0, none⟩ (.int .i64 (M.on f (M.truths f) k).lo)).setCell ⟨w.heap.size + 1, 1, none⟩ (.int .i64 (M.on f (M.truths f) k).hi)).heap[w.heap.size + 1]? = some (.cells #[.int .i64 (M.on f (M.truths f) k).lo, .int .i64 (M.on f (M.truths f) k).hi] 57 (0, 0)) := by
  rw [set_heap_same (set_heap_same HQ7.out)]; rfl
 obtain ⟨d0, d1⟩ := cells2 hF
 refine bodyPost_ret (v := .tuple #[.agg #[.int .i64 (M.on f (M.truths f) k).lo, .int .i64 (M.on f (M.truths f) k).hi], .int .i64 0]) (by simp [results, Try.results30, go_sem, d0, d1]) rfl ⟨rfl, ?_⟩
 exact Ev.setCell (Ev.setCell HE7.out (by simp) _) (by simp) _

end Go.Proofs.Ytffbkbcjddigdaa

set_option linter.unusedSimpArgs false
set_option linter.unusedVariables false
namespace Go.Proofs.Ytffbkbcjddigdaa
open Go.RowKit Go.Shelf

set_option maxRecDepth 100000 in
set_option maxHeartbeats 2000000 in
theorem Bounds_err (f : M.Cf) (Ag Aw Ab Ac Al : Option Addr) (ng cg nw cw nb cb nc cc nl cl : Nat) (P : Option Addr) (pn pc : Nat) (plan : List Int) (hl0 : -9223372036854775808 ≤ f.last) (w : World) (hs : CS w w.heap.size f Ag Aw Ab Ac Al ng cg nw cw nb cb nc cc nl cl) (hp : Sl ics 1 w w.heap.size P pn pc plan) (h0 : M.begin f (M.isPlan f plan) ≠ 0) :
  Calls Try.prog 34 #[.agg #[.int .i64 f.last, .slice Ag ng cg, .slice Aw nw cw, .slice Ab nb cb, .slice Ac nc cc, .int .i64 f.ripe, .int .i64 f.late, .int .i64 f.trod, .slice Al nl cl], .slice P pn pc] w fun e w' => e = .returned (.tuple #[.slice none 0 0, .int .i64 (M.begin f (M.isPlan f plan))]) ∧ Ev w w' := by
 have HIP := hid (fun W (hE : Ev w W) => isPlan_c f Ag Aw Ab Ac Al ng cg nw cw nb cb nc cc nl cl hs.b.len hs.b.small P pn pc plan W (hp.ev hE))
 generalize M.isPlan f plan = nm at HIP h0
 have HBG := hid (fun W (hE : Ev w W) => begin_err f Ag Aw Ab Ac Al ng cg nw cw nb cb nc cc nl cl hl0 nm h0 W (hs.ev hE))
 generalize M.begin f nm = ec at HBG h0
 have he : (ec == 0) = false := by simpa using h0
 clear h0
 go_enter Try.func34, Try.ntmps34
 go_upto_region 1 with fail
 generalize hW0 : World.alloc w _ = W0
 have hE0 : Ev w W0 := by rw [← hW0]; exact Ev.alloc (Ev.refl _) _
 have hal := alloc1 w (.cells #[.int .i64 f.last, .slice Ag ng cg, .slice Aw nw cw, .slice Ab nb cb, .slice Ac nc cc, .int .i64 f.ripe, .int .i64 f.late, .int .i64 f.trod, .slice Al nl cl] 38)
 rw [hW0] at hal
 have Q0 := hid hal.1
 clear hal hW0
 obtain ⟨y0, y1, y2, y3, y4, y5, y6, y7, y8⟩ := cells9 Q0.out
 have l0 := heap_lt Q0.out
 have HSE : Hid (∀ w', Ev W0 w' → (∀ o, w'.cell? ⟨w.heap.size, o, none⟩ = W0.cell? ⟨w.heap.size, o, none⟩)) := hid (fun w' h => fun o => h.cells.1 _ o l0)
 refine wp_region_held_drew (S := fun w' => (∀ o, w'.cell? ⟨w.heap.size, o, none⟩ = W0.cell? ⟨w.heap.size, o, none⟩)) (by kernel_rfl) (fun o => rfl) (fun hHeld => ?_)
 refine tkH 0 (some 9) ?_
 (try simp only [Act.put, sA, sB, sC])
 refine tkH 1 (some 10) ?_
 (try simp only [Act.put, sA, sB, sC])
 refine tkH 2 (some 11) ?_
 (try simp only [Act.put, sA, sB, sC])
 refine wpAnyH_one (i := 3) rfl (by kernel_rfl) (by rfl) (fun K hK => ?_)
 go_simp
 refine (HIP.out _ (hE0.trans (Ev.drew (Ev.refl _)))).mono ?_
 rintro e w4 ⟨rfl, hb4⟩
 have hE4 : Ev W0 w4 := Ev.trans (Ev.drew (Ev.refl _)) hb4
 refine hK.out _ _ (HSE.out _ hE4) (fun hHeld => ?_)
 clear hK K
 (try simp only [Act.put, List.setIfInBounds_toArray, List.set_cons_zero, List.set_cons_succ])
 refine wpAnyH_one (i := 4) rfl (by kernel_rfl) (by rfl) (fun K hK => ?_)
 go_simp
 refine (HBG.out _ (hE0.trans hE4)).mono ?_
 rintro e w5 ⟨rfl, hb5⟩
 have hE5 : Ev W0 w5 := hE4.trans hb5
 refine hK.out _ _ (HSE.out _ hE5) (fun hHeld => ?_)
 clear hK K
 (try simp only [Act.put, List.setIfInBounds_toArray, List.set_cons_zero, List.set_cons_succ])
 refine tkH 5 (some 8) ?_
 (try simp only [Act.put, sA, sB, sC])
 refine tkH 6 (some 14) ?_
 (try simp only [Act.put, sA, sB, sC])
 refine tkH 7 (some 15) ?_
 (try simp only [Act.put, sA, sB, sC])
 refine tkH 8 (some 6) ?_
 (try simp only [Act.put, sA, sB, sC])
 refine tkH 9 (some 7) ?_
 (try simp only [Act.put, sA, sB, sC])
 refine wpAnyH_done (by kernel_rfl) ?_ _
 clear y0 y1 y2 y3 y4 y5 y6 y7 y8
 go_wp2
 go_ret2
 exact ⟨rfl, hE0.trans hE5⟩

set_option maxRecDepth 100000 in
set_option maxHeartbeats 2000000 in
theorem Bounds_ok (f : M.Cf) (Ag Aw Ab Ac Al : Option Addr) (ng cg nw cw nb cb nc cc nl cl : Nat) (P : Option Addr) (pn pc : Nat) (plan : List Int) (hl0 : -9223372036854775808 ≤ f.last) (w : World) (hs : CS w w.heap.size f Ag Aw Ab Ac Al ng cg nw cw nb cb nc cc nl cl) (hp : Sl ics 1 w w.heap.size P pn pc plan) (h0 : M.begin f (M.isPlan f plan) = 0) :
  Calls Try.prog 34 #[.agg #[.int .i64 f.last, .slice Ag ng cg, .slice Aw nw cw, .slice Ab nb cb, .slice Ac nc cc, .int .i64 f.ripe, .int .i64 f.late, .int .i64 f.trod, .slice Al nl cl], .slice P pn pc] w fun e w' => (∃ B d, e = .returned (.tuple #[.slice B pn d, .int .i64 0]) ∧ Sl bdc 5 w' w'.heap.size B pn d (M.bounds f (M.truths f) plan)) ∧ Ev w w' := by
 obtain ⟨hc0, hpl, hne⟩ := M.begin0 h0
 have hts := M.truths_listed hc0
 have HIP := hid (fun W (hE : Ev w W) => isPlan_c f Ag Aw Ab Ac Al ng cg nw cw nb cb nc cc nl cl hs.b.len hs.b.small P pn pc plan W (hp.ev hE))
 rw [hpl] at HIP h0
 have HBG := hid (fun W (hE : Ev w W) => begin_ok f Ag Aw Ab Ac Al ng cg nw cw nb cb nc cc nl cl hl0 true h0 W (hs.ev hE))
 clear h0
 go_enter Try.func34, Try.ntmps34
 go_upto_region 1 with fail
 generalize hW0 : World.alloc w _ = W0
 have hE0 : Ev w W0 := by rw [← hW0]; exact Ev.alloc (Ev.refl _) _
 have hal := alloc1 w (.cells #[.int .i64 f.last, .slice Ag ng cg, .slice Aw nw cw, .slice Ab nb cb, .slice Ac nc cc, .int .i64 f.ripe, .int .i64 f.late, .int .i64 f.trod, .slice Al nl cl] 38)
 rw [hW0] at hal
 have Q0 := hid hal.1
 clear hal hW0
 obtain ⟨y0, y1, y2, y3, y4, y5, y6, y7, y8⟩ := cells9 Q0.out
 have l0 := heap_lt Q0.out
 have HSE : Hid (∀ w', Ev W0 w' → (∀ o, w'.cell? ⟨w.heap.size, o, none⟩ = W0.cell? ⟨w.heap.size, o, none⟩)) := hid (fun w' h => fun o => h.cells.1 _ o l0)
 refine wp_region_held_drew (S := fun w' => (∀ o, w'.cell? ⟨w.heap.size, o, none⟩ = W0.cell? ⟨w.heap.size, o, none⟩)) (by kernel_rfl) (fun o => rfl) (fun hHeld => ?_)
 refine tkH 0 (some 9) ?_
 (try simp only [Act.put, sA, sB, sC])
 refine tkH 1 (some 10) ?_
 (try simp only [Act.put, sA, sB, sC])
 refine tkH 2 (some 11) ?_
 (try simp only [Act.put, sA, sB, sC])
 refine wpAnyH_one (i := 3) rfl (by kernel_rfl) (by rfl) (fun K hK => ?_)
 go_simp
 refine (HIP.out _ (hE0.trans (Ev.drew (Ev.refl _)))).mono ?_
 rintro e w4 ⟨rfl, hb4⟩
 have hE4 : Ev W0 w4 := Ev.trans (Ev.drew (Ev.refl _)) hb4
 refine hK.out _ _ (HSE.out _ hE4) (fun hHeld => ?_)
 clear hK K
 (try simp only [Act.put, List.setIfInBounds_toArray, List.set_cons_zero, List.set_cons_succ])
 refine wpAnyH_one (i := 4) rfl (by kernel_rfl) (by rfl) (fun K hK => ?_)
 go_simp
 refine (HBG.out _ (hE0.trans hE4)).mono ?_
 rintro e w5 ⟨⟨At, As, nt, ct, ns, cs, p, mb, rfl, hwc, hmb⟩, hb5⟩
 have hE5 : Ev W0 w5 := hE4.trans hb5
 refine hK.out _ _ (HSE.out _ hE5) (fun hHeld => ?_)
 clear hK K
 (try simp only [Act.put, List.setIfInBounds_toArray, List.set_cons_zero, List.set_cons_succ])
 refine tkH 5 (some 8) ?_
 (try simp only [Act.put, sA, sB, sC])
 refine tkH 6 (some 14) ?_
 (try simp only [Act.put, sA, sB, sC])
 refine tkH 7 (some 15) ?_
 (try simp only [Act.put, sA, sB, sC])
 refine tkH 8 (some 6) ?_
 (try simp only [Act.put, sA, sB, sC])
 refine tkH 9 (some 7) ?_
 (try simp only [Act.put, sA, sB, sC])
 refine wpAnyH_done (by kernel_rfl) ?_ _
 have hs4 := hE4.size
 have hs0 := hE0.size
 have hnt : 0 < nt := by
  rw [← hwc.ntl]
  exact List.length_pos_iff.2 hne
 have HBO := hid (bounds_c f Ag Aw Ab Ac Al ng cg nw cw nb cb nc cc nl cl At As nt ct ns cs p mb P pn pc plan (M.truths f) (M.stands f) hc0 hnt hts hpl w5 hwc ((hp.ev hE0).ev hE5))
 clear y0 y1 y2 y3 y4 y5 y6 y7 y8 hwc
 go_wp2_with (go_at_call 72; with_reducible refine HBO.out.mono ?_; rintro e w6 ⟨⟨B, d, rfl, hsl⟩, hw6, hm6⟩; have HSL := hid hsl; have HM6 := hid hm6; clear hsl hw6 hm6)
 go_ret2
 exact ⟨⟨B, d, rfl, HSL.out⟩, Mo.evr (hE0.trans hE5) HM6.out (by omega)⟩

set_option maxRecDepth 100000 in
set_option maxHeartbeats 2000000 in
theorem Best_err (f : M.Cf) (Ag Aw Ab Ac Al : Option Addr) (ng cg nw cw nb cb nc cc nl cl : Nat) (hl0 : -9223372036854775808 ≤ f.last) (w : World) (hs : CS w w.heap.size f Ag Aw Ab Ac Al ng cg nw cw nb cb nc cc nl cl) (h0 : M.begin f true ≠ 0) :
  Calls Try.prog 35 #[.agg #[.int .i64 f.last, .slice Ag ng cg, .slice Aw nw cw, .slice Ab nb cb, .slice Ac nc cc, .int .i64 f.ripe, .int .i64 f.late, .int .i64 f.trod, .slice Al nl cl]] w fun e w' => e = .returned (.tuple #[.slice none 0 0, .int .i64 0, .int .i64 (M.begin f true)]) ∧ Ev w w' := by
 have HBG := hid (fun W (hE : Ev w W) => begin_err f Ag Aw Ab Ac Al ng cg nw cw nb cb nc cc nl cl hl0 true h0 W (hs.ev hE))
 generalize M.begin f true = ec at HBG h0
 have he : (ec == 0) = false := by simpa using h0
 clear h0
 go_enter Try.func35, Try.ntmps35
 go_upto_region 1 with fail
 generalize hW0 : World.alloc w _ = W0
 have hE0 : Ev w W0 := by rw [← hW0]; exact Ev.alloc (Ev.refl _) _
 have hal := alloc1 w (.cells #[.int .i64 f.last, .slice Ag ng cg, .slice Aw nw cw, .slice Ab nb cb, .slice Ac nc cc, .int .i64 f.ripe, .int .i64 f.late, .int .i64 f.trod, .slice Al nl cl] 38)
 rw [hW0] at hal
 have Q0 := hid hal.1
 clear hal hW0
 obtain ⟨y0, y1, y2, y3, y4, y5, y6, y7, y8⟩ := cells9 Q0.out
 have l0 := heap_lt Q0.out
 go_wp2_with (first | (go_at_call 64; with_reducible refine (HBG.out _ hE0).mono ?_; rintro e w5 ⟨rfl, hb5⟩; have hE5 := hE0.trans hb5) | (go_at_call 73; with_reducible refine HBO.out.mono ?_; rintro e w6 ⟨⟨B, d, rfl, hsl⟩, hw6, hm6⟩; have HSL := hid hsl; have HM6 := hid hm6; clear hsl hw6 hm6))
 refine bodyPost_ret (v := .tuple #[.slice none 0 0, .int .i64 0, .int .i64 ec]) (by simp [results, Try.results35, go_sem]) rfl ⟨rfl, hE5⟩

set_option maxRecDepth 100000 in
set_option maxHeartbeats 2000000 in
theorem Best_ok (f : M.Cf) (Ag Aw Ab Ac Al : Option Addr) (ng cg nw cw nb cb nc cc nl cl : Nat) (hl0 : -9223372036854775808 ≤ f.last) (w : World) (hs : CS w w.heap.size f Ag Aw Ab Ac Al ng cg nw cw nb cb nc cc nl cl) (h0 : M.begin f true = 0) :
  Calls Try.prog 35 #[.agg #[.int .i64 f.last, .slice Ag ng cg, .slice Aw nw cw, .slice Ab nb cb, .slice Ac nc cc, .int .i64 f.ripe, .int .i64 f.late, .int .i64 f.trod, .slice Al nl cl]] w fun e w' => (∃ B d, e = .returned (.tuple #[.slice B (M.best f (M.truths f)).1.length d, .int .i64 (M.best f (M.truths f)).2, .int .i64 0]) ∧ Sl ics 1 w' w'.heap.size B (M.best f (M.truths f)).1.length d (M.best f (M.truths f)).1) ∧ Ev w w' := by
 obtain ⟨hc0, _, hne⟩ := M.begin0 h0
 have hts := M.truths_listed hc0
 have HBG := hid (fun W (hE : Ev w W) => begin_ok f Ag Aw Ab Ac Al ng cg nw cw nb cb nc cc nl cl hl0 true h0 W (hs.ev hE))
 have HBB := hid (fun At As nt ct ns cs p mb W (hwc : Wc W f Ag Aw Ab Ac Al ng cg nw cw nb cb nc cc nl cl At As nt ct ns cs p mb (M.truths f) (M.stands f)) => best_c f Ag Aw Ab Ac Al ng cg nw cw nb cb nc cc nl cl At As nt ct ns cs p mb (M.truths f) (M.stands f) hc0 (by rw [← hwc.ntl]; exact List.length_pos_iff.2 hne) hts W hwc)
 clear h0
 go_enter Try.func35, Try.ntmps35
 go_upto_region 1 with fail
 generalize hW0 : World.alloc w _ = W0
 have hE0 : Ev w W0 := by rw [← hW0]; exact Ev.alloc (Ev.refl _) _
 have hal := alloc1 w (.cells #[.int .i64 f.last, .slice Ag ng cg, .slice Aw nw cw, .slice Ab nb cb, .slice Ac nc cc, .int .i64 f.ripe, .int .i64 f.late, .int .i64 f.trod, .slice Al nl cl] 38)
 rw [hW0] at hal
 have Q0 := hid hal.1
 clear hal hW0
 obtain ⟨y0, y1, y2, y3, y4, y5, y6, y7, y8⟩ := cells9 Q0.out
 have l0 := heap_lt Q0.out
 have hs0 := hE0.size
 go_wp2_with (first | (go_at_call 64; with_reducible refine (HBG.out _ hE0).mono ?_; rintro e w5 ⟨⟨At, As, nt, ct, ns, cs, p, mb, rfl, hwc, hmb⟩, hb5⟩; have hE5 := hE0.trans hb5; have HBO := hid (HBB.out At As nt ct ns cs p mb w5 hwc); clear hwc) | (go_at_call 73; with_reducible refine HBO.out.mono ?_; rintro e w6 ⟨⟨B, d, rfl, hsl⟩, hw6, hm6⟩; have HSL := hid hsl; have HM6 := hid hm6; clear hsl hw6 hm6))
 refine bodyPost_ret (v := .tuple #[.slice B (M.best f (M.truths f)).1.length d, .int .i64 (M.best f (M.truths f)).2, .int .i64 0]) (by simp [results, Try.results35, go_sem]) rfl ⟨⟨B, d, rfl, HSL.out⟩, Mo.evr hE5 HM6.out (by omega)⟩

end Go.Proofs.Ytffbkbcjddigdaa

set_option linter.unusedSimpArgs false
set_option linter.unusedVariables false
namespace Go.Proofs.Ytffbkbcjddigdaa
open Go.RowKit Go.Shelf

set_option maxRecDepth 100000 in
set_option maxHeartbeats 2000000 in
theorem Play_chk (f : M.Cf) (Ag Aw Ab Ac Al : Option Addr) (ng cg nw cw nb cb nc cc nl cl : Nat) (Tg Tw : Option Addr) (tg tgc tw twc : Nat) (t : M.Tr) (P : Option Addr) (pn pc : Nat) (plan : List Int) (hl0 : -9223372036854775808 ≤ f.last) (w : World) (hs : CS w w.heap.size f Ag Aw Ab Ac Al ng cg nw cw nb cb nc cc nl cl) (hg : Sl ics 1 w w.heap.size Tg tg tgc t.gr) (hwt : Sl ics 1 w w.heap.size Tw tw twc t.wet) (hp : Sl ics 1 w w.heap.size P pn pc plan) (h0 : M.check f ≠ 0) :
  Calls Try.prog 15 #[.agg #[.int .i64 f.last, .slice Ag ng cg, .slice Aw nw cw, .slice Ab nb cb, .slice Ac nc cc, .int .i64 f.ripe, .int .i64 f.late, .int .i64 f.trod, .slice Al nl cl], .agg #[.slice Tg tg tgc, .slice Tw tw twc], .slice P pn pc] w fun e w' => e = .returned (.tuple #[.slice none 0 0, .int .i64 (M.check f)]) ∧ Ev w w' := by
 have HCK := hid (fun W (hE : Ev w W) => check_c f Ag Aw Ab Ac Al ng cg nw cw nb cb nc cc nl cl hl0 W (hs.ev hE))
 generalize M.check f = ec at HCK h0
 have he : (ec == 0) = false := by simpa using h0
 clear h0
 go_enter Try.func15, Try.ntmps15
 go_upto_region 1 with fail
 generalize hW0 : World.alloc (World.alloc w _) _ = W0
 have hE0 : Ev w W0 := by rw [← hW0]; exact Ev.alloc (Ev.alloc (Ev.refl _) _) _
 have hal := alloc2 w (.cells #[.int .i64 f.last, .slice Ag ng cg, .slice Aw nw cw, .slice Ab nb cb, .slice Ac nc cc, .int .i64 f.ripe, .int .i64 f.late, .int .i64 f.trod, .slice Al nl cl] 38) (.cells #[.slice Tg tg tgc, .slice Tw tw twc] 40)
 rw [hW0] at hal
 have Q0 := hid hal.1
 have Q1 := hid hal.2.1
 have HZ := hid hal.2.2
 clear hal hW0
 obtain ⟨y0, y1, y2, y3, y4, y5, y6, y7, y8⟩ := cells9 Q0.out
 obtain ⟨x0, x1⟩ := cells2 Q1.out
 go_wp2_with (go_at_call 21; with_reducible refine (HCK.out _ hE0).mono ?_; rintro e w1 ⟨rfl, hb1⟩; obtain ⟨y0, y1, y2, y3, y4, y5, y6, y7, y8⟩ := cells9 (hb1.heap Q0.out); obtain ⟨x0, x1⟩ := cells2 (hb1.heap Q1.out); have hG := hE0.trans hb1)
 go_ret2
 exact ⟨rfl, hG⟩

set_option maxRecDepth 100000 in
set_option maxHeartbeats 2000000 in
theorem Play_badt (f : M.Cf) (Ag Aw Ab Ac Al : Option Addr) (ng cg nw cw nb cb nc cc nl cl : Nat) (Tg Tw : Option Addr) (tg tgc tw twc : Nat) (t : M.Tr) (P : Option Addr) (pn pc : Nat) (plan : List Int) (hl0 : -9223372036854775808 ≤ f.last) (w : World) (hs : CS w w.heap.size f Ag Aw Ab Ac Al ng cg nw cw nb cb nc cc nl cl) (hg : Sl ics 1 w w.heap.size Tg tg tgc t.gr) (hwt : Sl ics 1 w w.heap.size Tw tw twc t.wet) (hp : Sl ics 1 w w.heap.size P pn pc plan) (h0 : M.check f = 0) (hb : M.listed f t = false) :
  Calls Try.prog 15 #[.agg #[.int .i64 f.last, .slice Ag ng cg, .slice Aw nw cw, .slice Ab nb cb, .slice Ac nc cc, .int .i64 f.ripe, .int .i64 f.late, .int .i64 f.trod, .slice Al nl cl], .agg #[.slice Tg tg tgc, .slice Tw tw twc], .slice P pn pc] w fun e w' => e = .returned (.tuple #[.slice none 0 0, .int .i64 2]) ∧ Ev w w' := by
 have HCK := hid (fun W (hE : Ev w W) => check_c f Ag Aw Ab Ac Al ng cg nw cw nb cb nc cc nl cl hl0 W (hs.ev hE))
 rw [h0] at HCK
 obtain ⟨hl9, hb3, _, hv, _⟩ := M.check0 h0
 have hvp := M.valid_parts hv
 have hgn := hs.g.len
 have hwn := hs.w_.len
 have HTR := hid (fun W (hE : Ev w W) => isTruth_c f Ag Aw Ab Ac Al ng cg nw cw nb cb nc cc nl cl Tg Tw tg tgc tw twc t (by omega) (by omega) W (hs.ev hE) (hg.ev hE) (hwt.ev hE))
 have HIP := hid (fun W (hE : Ev w W) => isPlan_c f Ag Aw Ab Ac Al ng cg nw cw nb cb nc cc nl cl hs.b.len hs.b.small P pn pc plan W (hp.ev hE))
 rw [hb] at HTR
 clear hvp hgn hwn h0
 go_enter Try.func15, Try.ntmps15
 go_upto_region 1 with fail
 generalize hW0 : World.alloc (World.alloc w _) _ = W0
 have hE0 : Ev w W0 := by rw [← hW0]; exact Ev.alloc (Ev.alloc (Ev.refl _) _) _
 have hal := alloc2 w (.cells #[.int .i64 f.last, .slice Ag ng cg, .slice Aw nw cw, .slice Ab nb cb, .slice Ac nc cc, .int .i64 f.ripe, .int .i64 f.late, .int .i64 f.trod, .slice Al nl cl] 38) (.cells #[.slice Tg tg tgc, .slice Tw tw twc] 40)
 rw [hW0] at hal
 have Q0 := hid hal.1
 have Q1 := hid hal.2.1
 have HZ := hid hal.2.2
 clear hal hW0
 obtain ⟨y0, y1, y2, y3, y4, y5, y6, y7, y8⟩ := cells9 Q0.out
 obtain ⟨x0, x1⟩ := cells2 Q1.out
 go_wp2_with (first | (go_at_call 21; with_reducible refine (HCK.out _ hE0).mono ?_; rintro e w1 ⟨rfl, hb1⟩; obtain ⟨y0, y1, y2, y3, y4, y5, y6, y7, y8⟩ := cells9 (hb1.heap Q0.out); obtain ⟨x0, x1⟩ := cells2 (hb1.heap Q1.out); have hG := hE0.trans hb1) | (go_at_call 53; with_reducible refine (HTR.out _ hG).mono ?_; rintro e w2 ⟨rfl, hb2⟩; obtain ⟨y0, y1, y2, y3, y4, y5, y6, y7, y8⟩ := cells9 (hb2.heap (hb1.heap Q0.out)); have hG2 := hG.trans hb2) | (go_at_call 54; with_reducible refine (HIP.out _ hG2).mono ?_; rintro e w3 ⟨rfl, hb3⟩; have hG3 := hG2.trans hb3) | (refine ⟨trivial, ?_⟩))
 go_ret2
 exact ⟨rfl, hG2⟩

set_option maxRecDepth 100000 in
set_option maxHeartbeats 2000000 in
theorem Play_badp (f : M.Cf) (Ag Aw Ab Ac Al : Option Addr) (ng cg nw cw nb cb nc cc nl cl : Nat) (Tg Tw : Option Addr) (tg tgc tw twc : Nat) (t : M.Tr) (P : Option Addr) (pn pc : Nat) (plan : List Int) (hl0 : -9223372036854775808 ≤ f.last) (w : World) (hs : CS w w.heap.size f Ag Aw Ab Ac Al ng cg nw cw nb cb nc cc nl cl) (hg : Sl ics 1 w w.heap.size Tg tg tgc t.gr) (hwt : Sl ics 1 w w.heap.size Tw tw twc t.wet) (hp : Sl ics 1 w w.heap.size P pn pc plan) (h0 : M.check f = 0) (ha : M.listed f t = true) (hb : M.isPlan f plan = false) :
  Calls Try.prog 15 #[.agg #[.int .i64 f.last, .slice Ag ng cg, .slice Aw nw cw, .slice Ab nb cb, .slice Ac nc cc, .int .i64 f.ripe, .int .i64 f.late, .int .i64 f.trod, .slice Al nl cl], .agg #[.slice Tg tg tgc, .slice Tw tw twc], .slice P pn pc] w fun e w' => e = .returned (.tuple #[.slice none 0 0, .int .i64 2]) ∧ Ev w w' := by
 have HCK := hid (fun W (hE : Ev w W) => check_c f Ag Aw Ab Ac Al ng cg nw cw nb cb nc cc nl cl hl0 W (hs.ev hE))
 rw [h0] at HCK
 obtain ⟨hl9, hb3, _, hv, _⟩ := M.check0 h0
 have hvp := M.valid_parts hv
 have hgn := hs.g.len
 have hwn := hs.w_.len
 have HTR := hid (fun W (hE : Ev w W) => isTruth_c f Ag Aw Ab Ac Al ng cg nw cw nb cb nc cc nl cl Tg Tw tg tgc tw twc t (by omega) (by omega) W (hs.ev hE) (hg.ev hE) (hwt.ev hE))
 have HIP := hid (fun W (hE : Ev w W) => isPlan_c f Ag Aw Ab Ac Al ng cg nw cw nb cb nc cc nl cl hs.b.len hs.b.small P pn pc plan W (hp.ev hE))
 rw [ha] at HTR
 rw [hb] at HIP
 clear hvp hgn hwn h0
 go_enter Try.func15, Try.ntmps15
 go_upto_region 1 with fail
 generalize hW0 : World.alloc (World.alloc w _) _ = W0
 have hE0 : Ev w W0 := by rw [← hW0]; exact Ev.alloc (Ev.alloc (Ev.refl _) _) _
 have hal := alloc2 w (.cells #[.int .i64 f.last, .slice Ag ng cg, .slice Aw nw cw, .slice Ab nb cb, .slice Ac nc cc, .int .i64 f.ripe, .int .i64 f.late, .int .i64 f.trod, .slice Al nl cl] 38) (.cells #[.slice Tg tg tgc, .slice Tw tw twc] 40)
 rw [hW0] at hal
 have Q0 := hid hal.1
 have Q1 := hid hal.2.1
 have HZ := hid hal.2.2
 clear hal hW0
 obtain ⟨y0, y1, y2, y3, y4, y5, y6, y7, y8⟩ := cells9 Q0.out
 obtain ⟨x0, x1⟩ := cells2 Q1.out
 go_wp2_with (first | (go_at_call 21; with_reducible refine (HCK.out _ hE0).mono ?_; rintro e w1 ⟨rfl, hb1⟩; obtain ⟨y0, y1, y2, y3, y4, y5, y6, y7, y8⟩ := cells9 (hb1.heap Q0.out); obtain ⟨x0, x1⟩ := cells2 (hb1.heap Q1.out); have hG := hE0.trans hb1) | (go_at_call 53; with_reducible refine (HTR.out _ hG).mono ?_; rintro e w2 ⟨rfl, hb2⟩; obtain ⟨y0, y1, y2, y3, y4, y5, y6, y7, y8⟩ := cells9 (hb2.heap (hb1.heap Q0.out)); have hG2 := hG.trans hb2) | (go_at_call 54; with_reducible refine (HIP.out _ hG2).mono ?_; rintro e w3 ⟨rfl, hb3⟩; have hG3 := hG2.trans hb3) | (refine ⟨trivial, ?_⟩))
 go_ret2
 exact ⟨rfl, hG3⟩

set_option maxRecDepth 100000 in
set_option maxHeartbeats 2000000 in
theorem Play_ok (f : M.Cf) (Ag Aw Ab Ac Al : Option Addr) (ng cg nw cw nb cb nc cc nl cl : Nat) (Tg Tw : Option Addr) (tg tgc tw twc : Nat) (t : M.Tr) (P : Option Addr) (pn pc : Nat) (plan : List Int) (hl0 : -9223372036854775808 ≤ f.last) (w : World) (hs : CS w w.heap.size f Ag Aw Ab Ac Al ng cg nw cw nb cb nc cc nl cl) (hg : Sl ics 1 w w.heap.size Tg tg tgc t.gr) (hwt : Sl ics 1 w w.heap.size Tw tw twc t.wet) (hp : Sl ics 1 w w.heap.size P pn pc plan) (h0 : M.check f = 0) (ha : M.listed f t = true) (hb : M.isPlan f plan = true) :
  Calls Try.prog 15 #[.agg #[.int .i64 f.last, .slice Ag ng cg, .slice Aw nw cw, .slice Ab nb cb, .slice Ac nc cc, .int .i64 f.ripe, .int .i64 f.late, .int .i64 f.trod, .slice Al nl cl], .agg #[.slice Tg tg tgc, .slice Tw tw twc], .slice P pn pc] w fun e w' => (∃ B d, e = .returned (.tuple #[.slice B pn d, .int .i64 0]) ∧ w'.ownsRow w.heap.size 50 3 (.slice B pn d) pn ((M.play f t plan).flatMap crc)) ∧ Ev w w' := by
 have HCK := hid (fun W (hE : Ev w W) => check_c f Ag Aw Ab Ac Al ng cg nw cw nb cb nc cc nl cl hl0 W (hs.ev hE))
 rw [h0] at HCK
 obtain ⟨hl9, hb3, _, hv, _⟩ := M.check0 h0
 have hvp := M.valid_parts hv
 have hgn := hs.g.len
 have hwn := hs.w_.len
 have HTR := hid (fun W (hE : Ev w W) => isTruth_c f Ag Aw Ab Ac Al ng cg nw cw nb cb nc cc nl cl Tg Tw tg tgc tw twc t (by omega) (by omega) W (hs.ev hE) (hg.ev hE) (hwt.ev hE))
 have HIP := hid (fun W (hE : Ev w W) => isPlan_c f Ag Aw Ab Ac Al ng cg nw cw nb cb nc cc nl cl hs.b.len hs.b.small P pn pc plan W (hp.ev hE))
 have hnb := hs.b.len
 have HPC := hid (fun p mb W (hE : Ev w W) hpc hmi => play_c f Ag Aw Ab Ac Al ng cg nw cw nb cb nc cc nl cl none none 0 0 0 0 p mb Tg Tw tg tgc tw twc t P pn pc plan hv hl9 (by omega) ha hb (fun _ => none) (fun k v h => by simp at h) W hpc (hs.ev hE) hmi (hg.ev hE) (hwt.ev hE) (hp.ev hE))
 have HSR := hid (fun W => start_c f Ag Aw Ab Ac Al ng cg nw cw nb cb nc cc nl cl W)
 rw [ha] at HTR
 rw [hb] at HIP
 clear hvp hgn hwn h0 hnb
 go_enter Try.func15, Try.ntmps15
 go_upto_region 1 with fail
 generalize hW0 : World.alloc (World.alloc w _) _ = W0
 have hE0 : Ev w W0 := by rw [← hW0]; exact Ev.alloc (Ev.alloc (Ev.refl _) _) _
 have hal := alloc2 w (.cells #[.int .i64 f.last, .slice Ag ng cg, .slice Aw nw cw, .slice Ab nb cb, .slice Ac nc cc, .int .i64 f.ripe, .int .i64 f.late, .int .i64 f.trod, .slice Al nl cl] 38) (.cells #[.slice Tg tg tgc, .slice Tw tw twc] 40)
 rw [hW0] at hal
 have Q0 := hid hal.1
 have Q1 := hid hal.2.1
 have HZ := hid hal.2.2
 clear hal hW0
 obtain ⟨y0, y1, y2, y3, y4, y5, y6, y7, y8⟩ := cells9 Q0.out
 obtain ⟨x0, x1⟩ := cells2 Q1.out
 go_upto_region 6 with (first | (go_at_call 21; with_reducible refine (HCK.out _ hE0).mono ?_; rintro e w1 ⟨rfl, hb1⟩; obtain ⟨y0, y1, y2, y3, y4, y5, y6, y7, y8⟩ := cells9 (hb1.heap Q0.out); obtain ⟨x0, x1⟩ := cells2 (hb1.heap Q1.out); have hG := hE0.trans hb1) | (go_at_call 53; with_reducible refine (HTR.out _ hG).mono ?_; rintro e w2 ⟨rfl, hb2⟩; obtain ⟨y0, y1, y2, y3, y4, y5, y6, y7, y8⟩ := cells9 (hb2.heap (hb1.heap Q0.out)); have hG2 := hG.trans hb2) | (go_at_call 54; with_reducible refine (HIP.out _ hG2).mono ?_; rintro e w3 ⟨rfl, hb3⟩; have hG3 := hG2.trans hb3) | (refine ⟨trivial, ?_⟩))
 have q0 := (hb3.heap (hb2.heap (hb1.heap Q0.out)))
 have q1 := (hb3.heap (hb2.heap (hb1.heap Q1.out)))
 clear y0 y1 y2 y3 y4 y5 y6 y7 y8 x0 x1
 obtain ⟨y0, y1, y2, y3, y4, y5, y6, y7, y8⟩ := cells9 q0
 obtain ⟨x0, x1⟩ := cells2 q1
 have l0 := heap_lt q0
 have l1 := heap_lt q1
 clear q0 q1
 have HSE : Hid (∀ w', Ev w3 w' → (∀ o, w'.cell? ⟨w.heap.size, o, none⟩ = w3.cell? ⟨w.heap.size, o, none⟩) ∧ (∀ o, w'.cell? ⟨w.heap.size + 1, o, none⟩ = w3.cell? ⟨w.heap.size + 1, o, none⟩)) := hid (fun w' h => ⟨fun o => h.cells.1 _ o l0, fun o => h.cells.1 _ o l1⟩)
 refine wp_region_held_drew (S := fun w' => (∀ o, w'.cell? ⟨w.heap.size, o, none⟩ = w3.cell? ⟨w.heap.size, o, none⟩) ∧ (∀ o, w'.cell? ⟨w.heap.size + 1, o, none⟩ = w3.cell? ⟨w.heap.size + 1, o, none⟩)) (by kernel_rfl) (⟨fun o => rfl, fun o => rfl⟩) (fun hHeld => ?_)
 refine tkH 0 (some 24) ?_
 (try simp only [Act.put, sA, sB, sC])
 refine tkH 2 (some 26) ?_
 (try simp only [Act.put, sA, sB, sC])
 refine tkH 3 (some 27) ?_
 (try simp only [Act.put, sA, sB, sC])
 refine wpAnyH_one (i := 1) rfl (by kernel_rfl) (by rfl) (fun K hK => ?_)
 go_simp
 refine (HSR.out _).mono ?_
 rintro e w4 ⟨⟨p, mb, rfl, hp0, hm0, hpc, hmi⟩, hb4⟩
 have hE4 : Ev w3 w4 := Ev.trans (Ev.drew (Ev.refl _)) hb4
 have HPA := hid (HPC.out p mb w4 (hG3.trans hE4) hpc hmi)
 have hm0' : w3.heap.size ≤ mb := hm0
 clear hpc hmi
 refine hK.out _ _ (HSE.out _ hE4) (fun hHeld => ?_)
 clear hK K
 (try simp only [Act.put, List.setIfInBounds_toArray, List.set_cons_zero, List.set_cons_succ])
 refine wpAnyH_one (i := 4) rfl (by kernel_rfl) (by rfl) (fun K hK => ?_)
 go_simp
 refine HPA.out.mono ?_
 rintro e w5 ⟨⟨B, d, rfl, hown⟩, hmp5, hm5⟩
 have hE5 : Ev w3 w5 := Mo.evr hE4 hm5 hm0'
 have HO := hid hown
 clear hown hmp5
 refine hK.out _ _ (HSE.out _ hE5) (fun hHeld => ?_)
 clear hK K
 (try simp only [Act.put, List.setIfInBounds_toArray, List.set_cons_zero, List.set_cons_succ])
 refine tkH 5 (some 6) ?_
 (try simp only [Act.put, sA, sB, sC])
 refine tkH 6 (some 7) ?_
 (try simp only [Act.put, sA, sB, sC])
 refine wpAnyH_done (by kernel_rfl) ?_ _
 have hs3 := hG3.size
 have hs4 := hE4.size
 go_wp2
 go_ret2
 exact ⟨⟨B, d, rfl, own_base HO.out (by omega)⟩, hG3.trans hE5⟩

end Go.Proofs.Ytffbkbcjddigdaa

set_option linter.unusedSimpArgs false
set_option linter.unusedVariables false
namespace Go.Proofs.Ytffbkbcjddigdaa
open Go.RowKit Go.Shelf

set_option maxRecDepth 100000 in
set_option maxHeartbeats 2000000 in
theorem Worst_err (f : M.Cf) (Ag Aw Ab Ac Al : Option Addr) (ng cg nw cw nb cb nc cc nl cl : Nat) (P : Option Addr) (pn pc : Nat) (plan : List Int) (hl0 : -9223372036854775808 ≤ f.last) (w : World) (hs : CS w w.heap.size f Ag Aw Ab Ac Al ng cg nw cw nb cb nc cc nl cl) (hp : Sl ics 1 w w.heap.size P pn pc plan) (h0 : M.begin f (M.isPlan f plan) ≠ 0) :
  Calls Try.prog 51 #[.agg #[.int .i64 f.last, .slice Ag ng cg, .slice Aw nw cw, .slice Ab nb cb, .slice Ac nc cc, .int .i64 f.ripe, .int .i64 f.late, .int .i64 f.trod, .slice Al nl cl], .slice P pn pc] w fun e w' => e = .returned (.tuple #[.agg #[.slice none 0 0, .slice none 0 0], .int .i64 (M.begin f (M.isPlan f plan))]) ∧ Ev w w' := by
 have HIP := hid (fun W (hE : Ev w W) => isPlan_c f Ag Aw Ab Ac Al ng cg nw cw nb cb nc cc nl cl hs.b.len hs.b.small P pn pc plan W (hp.ev hE))
 generalize M.isPlan f plan = nm at HIP h0
 have HBG := hid (fun W (hE : Ev w W) => begin_err f Ag Aw Ab Ac Al ng cg nw cw nb cb nc cc nl cl hl0 nm h0 W (hs.ev hE))
 generalize M.begin f nm = ec at HBG h0
 have he : (ec == 0) = false := by simpa using h0
 clear h0
 go_enter Try.func51, Try.ntmps51
 go_upto_region 1 with fail
 generalize hW0 : World.alloc (World.alloc w _) _ = W0
 have hE0 : Ev w W0 := by rw [← hW0]; exact Ev.alloc (Ev.alloc (Ev.refl _) _) _
 have hal := alloc2 w (.cells #[.int .i64 f.last, .slice Ag ng cg, .slice Aw nw cw, .slice Ab nb cb, .slice Ac nc cc, .int .i64 f.ripe, .int .i64 f.late, .int .i64 f.trod, .slice Al nl cl] 38) (.cells #[.slice none 0 0, .slice none 0 0] 40)
 rw [hW0] at hal
 have Q0 := hid hal.1
 have Q1 := hid hal.2.1
 clear hal hW0
 obtain ⟨y0, y1, y2, y3, y4, y5, y6, y7, y8⟩ := cells9 Q0.out
 have l0 := heap_lt Q0.out
 have HSE : Hid (∀ w', Ev W0 w' → (∀ o, w'.cell? ⟨w.heap.size, o, none⟩ = W0.cell? ⟨w.heap.size, o, none⟩)) := hid (fun w' h => fun o => h.cells.1 _ o l0)
 refine wp_region_held_drew (S := fun w' => (∀ o, w'.cell? ⟨w.heap.size, o, none⟩ = W0.cell? ⟨w.heap.size, o, none⟩)) (by kernel_rfl) (fun o => rfl) (fun hHeld => ?_)
 refine tkH 0 (some 10) ?_
 (try simp only [Act.put, sA, sB, sC])
 refine tkH 1 (some 11) ?_
 (try simp only [Act.put, sA, sB, sC])
 refine tkH 2 (some 12) ?_
 (try simp only [Act.put, sA, sB, sC])
 refine wpAnyH_one (i := 3) rfl (by kernel_rfl) (by rfl) (fun K hK => ?_)
 go_simp
 refine (HIP.out _ (hE0.trans (Ev.drew (Ev.refl _)))).mono ?_
 rintro e w4 ⟨rfl, hb4⟩
 have hE4 : Ev W0 w4 := Ev.trans (Ev.drew (Ev.refl _)) hb4
 refine hK.out _ _ (HSE.out _ hE4) (fun hHeld => ?_)
 clear hK K
 (try simp only [Act.put, List.setIfInBounds_toArray, List.set_cons_zero, List.set_cons_succ])
 refine wpAnyH_one (i := 4) rfl (by kernel_rfl) (by rfl) (fun K hK => ?_)
 go_simp
 refine (HBG.out _ (hE0.trans hE4)).mono ?_
 rintro e w5 ⟨rfl, hb5⟩
 have hE5 : Ev W0 w5 := hE4.trans hb5
 refine hK.out _ _ (HSE.out _ hE5) (fun hHeld => ?_)
 clear hK K
 (try simp only [Act.put, List.setIfInBounds_toArray, List.set_cons_zero, List.set_cons_succ])
 refine tkH 5 (some 9) ?_
 (try simp only [Act.put, sA, sB, sC])
 refine tkH 6 (some 15) ?_
 (try simp only [Act.put, sA, sB, sC])
 refine tkH 7 (some 16) ?_
 (try simp only [Act.put, sA, sB, sC])
 refine tkH 8 (some 6) ?_
 (try simp only [Act.put, sA, sB, sC])
 refine tkH 9 (some 7) ?_
 (try simp only [Act.put, sA, sB, sC])
 refine wpAnyH_done (by kernel_rfl) ?_ _
 have q1 := hE5.heap Q1.out
 obtain ⟨z0, z1⟩ := cells2 q1
 obtain ⟨f0, f1⟩ := frz2 q1
 have HQ := hid q1
 clear q1 y0 y1 y2 y3 y4 y5 y6 y7 y8
 go_wp2
 have hF : ((w5.setCell ⟨w.heap.size + 1, 0, none⟩ (.slice none 0 0)).setCell ⟨w.heap.size + 1, 1, none⟩ (.slice none 0 0)).heap[w.heap.size + 1]? = some (.cells #[.slice none 0 0, .slice none 0 0] 40 (0, 0)) := by
  rw [set_heap_same (set_heap_same HQ.out)]; rfl
 obtain ⟨d0, d1⟩ := cells2 hF
 refine bodyPost_ret (v := .tuple #[.agg #[.slice none 0 0, .slice none 0 0], .int .i64 ec]) (by simp [results, Try.results51, go_sem, d0, d1]) rfl ⟨rfl, ?_⟩
 exact Ev.setCell (Ev.setCell (hE0.trans hE5) (by simp) _) (by simp) _

end Go.Proofs.Ytffbkbcjddigdaa
