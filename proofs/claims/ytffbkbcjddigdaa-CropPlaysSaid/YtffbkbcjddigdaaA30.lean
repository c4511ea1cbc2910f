import Derived.Test.YtffbkbcjddigdaaA29
set_option linter.unusedSimpArgs false
set_option linter.unusedVariables false
namespace Go.Proofs.Ytffbkbcjddigdaa
open Go.RowKit Go.Shelf

/-- From the least number to the greatest one. -/
def M.span : List Int → M.Rg
  | [] => ⟨0, 0⟩
  | x :: xs => ⟨M.least x xs, M.most x xs⟩
def M.total (f : M.Cf) (t : M.Tr) (plan : List Int) : Int := ((M.play f t plan).map M.Cr.wo).sum
set_option maxRecDepth 100000 in
set_option maxHeartbeats 2000000 in
theorem span_c (A : Option Addr) (m d : Nat) (x : Int) (xs : List Int) (w : World) (hs : Sl ics 1 w w.heap.size A (m + 1) d (x :: xs)) :
    Calls Try.prog 65 #[.slice A (m + 1) d] w fun e w' => e = .returned (.agg #[.int .i64 (M.least x xs), .int .i64 (M.most x xs)]) ∧ Ev w w' := by
  obtain ⟨b, off, hA, hb, hc⟩ := hs.cells (by omega)
  subst hA
  obtain ⟨T, t1, t2, hsT⟩ := tail1 hs
  have hcap := hs.cap
  have e0 := hc 0 x rfl 0 _ rfl
  simp only [Nat.zero_mul, Nat.add_zero] at e0
  have HL := hid (fun W (hE : Ev w W) => least_c x T m (d - 1) xs W (hsT.ev hE))
  have HM := hid (fun W (hE : Ev w W) => most_c (some ⟨b, off, none⟩) (m + 1) d x xs W (hs.ev hE))
  have m0 : (0 : Int) < (m : Int) + 1 := by omega
  generalize M.least x xs = lo at HL
  generalize M.most x xs = hi at HM
  clear hs hc hsT
  go_enter Try.func65, Try.ntmps65
  go_upto_region 1 with fail
  generalize hW0 : World.alloc w _ = W0
  have hE0 : Ev w W0 := by rw [← hW0]; exact Ev.alloc (Ev.refl _) _
  have hal := alloc1 w (.cells #[.int .i64 0, .int .i64 0] 57)
  rw [hW0] at hal
  have Q0 := hid hal.1
  have y0 := (hE0.cells.1 b off hb).trans e0
  have lb : b < W0.heap.size := by have := hE0.size; omega
  clear hal hW0 e0
  have HSE : Hid (∀ w', Ev W0 w' → (∀ o, w'.cell? ⟨b, o, none⟩ = W0.cell? ⟨b, o, none⟩)) := hid (fun w' h => fun o => h.cells.1 _ o lb)
  refine wp_region_held_drew (S := fun w' => (∀ o, w'.cell? ⟨b, o, none⟩ = W0.cell? ⟨b, o, none⟩)) (by kernel_rfl) (fun o => rfl) (fun hHeld => ?_)
  refine tkH 0 (some 3) ?_
  (try simp only [Act.put, sA, sB, sC])
  refine tkH 1 (some 4) ?_
  (try simp only [Act.put, sA, sB, sC])
  refine tkH 2 (some 5) ?_
  (try simp only [Act.put, sA, sB, sC])
  refine tkH 3 (some 6) ?_
  (try simp only [Act.put, sA, sB, sC])
  refine tkH 4 (some 7) ?_
  (try simp only [Act.put, sA, sB, sC])
  refine tkH 6 (some 9) ?_
  (try simp only [Act.put, sA, sB, sC])
  refine wpAnyH_one (i := 5) rfl (by kernel_rfl) (by rfl) (fun K hK => ?_)
  go_simp
  refine (HL.out _ (hE0.trans (Ev.drew (Ev.refl _)))).mono ?_
  rintro e w1 ⟨rfl, hb1⟩
  have hE1 : Ev W0 w1 := Ev.trans (Ev.drew (Ev.refl _)) hb1
  refine hK.out _ _ (HSE.out _ hE1) (fun hHeld => ?_)
  clear hK K
  (try simp only [Act.put, List.setIfInBounds_toArray, List.set_cons_zero, List.set_cons_succ])
  refine wpAnyH_one (i := 7) rfl (by kernel_rfl) (by rfl) (fun K hK => ?_)
  go_simp
  refine (HM.out _ (hE0.trans hE1)).mono ?_
  rintro e w2 ⟨rfl, hb2⟩
  have hE2 : Ev W0 w2 := hE1.trans hb2
  refine hK.out _ _ (HSE.out _ hE2) (fun hHeld => ?_)
  clear hK K
  (try simp only [Act.put, List.setIfInBounds_toArray, List.set_cons_zero, List.set_cons_succ])
  refine tkH 8 (some 11) ?_
  (try simp only [Act.put, sA, sB, sC])
  have hq2 := hE2.heap Q0.out
  obtain ⟨g0, g1⟩ := cells2 hq2
  obtain ⟨f0, f1⟩ := frz2 hq2
  have HQ2 := hid hq2
  clear hq2
  refine wpAnyH_one (i := 9) rfl (by kernel_rfl) (by rfl) (fun K hK => ?_)
  go_simp
  have hF : ((w2.setCell ⟨w.heap.size, 0, none⟩ (.int .i64 lo)).setCell ⟨w.heap.size, 1, none⟩ (.int .i64 hi)).heap[w.heap.size]? = some (.cells #[.int .i64 lo, .int .i64 hi] 57 (0, 0)) := by
    rw [set_heap_same (set_heap_same HQ2.out)]; rfl
  have HF := hid hF
  clear hF
  refine hK.out _ _ (fun o => (cell_set_ne (by simp; omega)).trans ((cell_set_ne (by simp; omega)).trans (HSE.out _ hE2 o))) (fun hHeld => ?_)
  clear hK K
  (try simp only [Act.put, List.setIfInBounds_toArray, List.set_cons_zero, List.set_cons_succ])
  refine wpAnyH_done (by kernel_rfl) ?_ _
  go_wp2_with fail
  obtain ⟨d0, d1⟩ := cells2 HF.out
  refine bodyPost_ret (v := .agg #[.int .i64 lo, .int .i64 hi]) (by simp [results, Try.results65, go_sem, d0, d1]) rfl ⟨rfl, ?_⟩
  exact Ev.setCell (Ev.setCell (hE0.trans hE2) (by simp) _) (by simp) _

end Go.Proofs.Ytffbkbcjddigdaa
