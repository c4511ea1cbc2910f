import Derived.Test.YtffbkbcjddigdaaA46
set_option linter.unusedSimpArgs false
set_option linter.unusedVariables false
namespace Go.Proofs.Ytffbkbcjddigdaa
open Go.RowKit Go.Shelf

def M.oneL : List M.Lk := [⟨2, ⟨25, 25⟩⟩, ⟨1, ⟨18, 18⟩⟩]
/-- The chapter's field, with some of its looks. -/
def M.oneF (k : Nat) : M.Cf := ⟨4, [⟨10, 12⟩, ⟨8, 8⟩, ⟨6, 6⟩, ⟨4, 5⟩, ⟨2, 2⟩], [0, 2, 0, 1, 0], [20, 15], [], 2, 4, 50, M.oneL.take k⟩
/-- A region's operations, condition and end by names. -/
theorem wpAnyH_name {P : Program} {md : Region.Mode} {ops : Array Oper} {Q : Exit → Act → World → Prop} {S : World → Prop} {fuel : Nat} {listed : Array Bool} {a : Act} {w : World} (h : ∀ O q, Hid (O = ops) → Hid (q = Q) → wpAnyH P md O q S fuel listed a w) : wpAnyH P md ops Q S fuel listed a w := h _ _ (hid rfl) (hid rfl)

def M.oneG : List M.Rg := [⟨10, 12⟩, ⟨8, 8⟩, ⟨6, 6⟩, ⟨4, 5⟩, ⟨2, 2⟩]
/-- A list in a block that is newer than a world's. -/
def SlAt {α : Type} (W0 : World) (enc : α → List Value) (sz : Nat) (W : World) (p n : Nat) (xs : List α) : Prop := Sl enc sz W W.heap.size (some ⟨p, 0, none⟩) n n xs ∧ W0.heap.size ≤ p
theorem SlAt.ev {α : Type} {W0 : World} {enc : α → List Value} {sz : Nat} {W W' : World} {p n : Nat} {xs : List α} (h : SlAt W0 enc sz W p n xs) (he : Ev W W') : SlAt W0 enc sz W' p n xs := ⟨h.1.ev he, h.2⟩

theorem Sl.far9 {α : Type} {enc : α → List Value} {sz : Nat} {w : World} {A : Option Addr} {n c : Nat} {xs : List α} (h : Sl enc sz w w.heap.size A n c xs) {b : Nat} {v0 v1 v2 v3 v4 v5 v6 v7 v8 : Value} (hne : 0 < n → ∀ a, A = some a → a.block ≠ b) :
  Sl enc sz (((((((((w.setCell ⟨b, 0, none⟩ v0).setCell ⟨b, 1, none⟩ v1).setCell ⟨b, 2, none⟩ v2).setCell ⟨b, 3, none⟩ v3).setCell ⟨b, 4, none⟩ v4).setCell ⟨b, 5, none⟩ v5).setCell ⟨b, 6, none⟩ v6).setCell ⟨b, 7, none⟩ v7).setCell ⟨b, 8, none⟩ v8) ((((((((((w.setCell ⟨b, 0, none⟩ v0).setCell ⟨b, 1, none⟩ v1).setCell ⟨b, 2, none⟩ v2).setCell ⟨b, 3, none⟩ v3).setCell ⟨b, 4, none⟩ v4).setCell ⟨b, 5, none⟩ v5).setCell ⟨b, 6, none⟩ v6).setCell ⟨b, 7, none⟩ v7).setCell ⟨b, 8, none⟩ v8)).heap.size A n c xs := by
 rw [show ((((((((((w.setCell ⟨b, 0, none⟩ v0).setCell ⟨b, 1, none⟩ v1).setCell ⟨b, 2, none⟩ v2).setCell ⟨b, 3, none⟩ v3).setCell ⟨b, 4, none⟩ v4).setCell ⟨b, 5, none⟩ v5).setCell ⟨b, 6, none⟩ v6).setCell ⟨b, 7, none⟩ v7).setCell ⟨b, 8, none⟩ v8)).heap.size = w.heap.size by simp]
 exact (((((((((h.far hne).far hne).far hne).far hne).far hne).far hne).far hne).far hne).far hne)

set_option maxRecDepth 100000 in
set_option maxHeartbeats 4000000 in
theorem one_c (k : Nat) (hk : k ≤ 2) (w : World) :
  Calls Try.prog 28 #[.int .i64 k] w fun e w' => (∃ B1 B2 B3 B4, e = .returned (.agg #[.int .i64 4, .slice B1 5 5, .slice B2 5 5, .slice B3 2 2, .slice none 0 0, .int .i64 2, .int .i64 4, .int .i64 50, .slice B4 k 2]) ∧ CS w' w'.heap.size (M.oneF k) B1 B2 B3 none B4 5 5 5 5 2 2 0 0 k 2) ∧ Ev w w' := by
 have hki : (k : Int) ≤ 2 := by omega
 go_enter Try.func28, Try.ntmps28
 go_upto_region 2 with (first | (go_at_call 32; with_reducible refine (between_c 25 25 _).mono ?_; rintro e w1 ⟨rfl, hb1⟩) | (go_at_call 32; with_reducible refine (between_c 18 18 _).mono ?_; rintro e w2 ⟨rfl, hb2⟩))
 generalize hW0 : World.alloc w2 _ = W0
 refine wp_region_held_drew (S := fun _ => True) (by kernel_rfl) trivial (fun hHeld => ?_)
 refine tkH 8 (some 17) ?_
 (try simp only [Act.put, sA, sB, sC])
 refine tkH 9 (some 18) ?_
 (try simp only [Act.put, sA, sB, sC])
 refine tkH 10 (some 19) ?_
 (try simp only [Act.put, sA, sB, sC])
 refine wpAnyH_name (fun O q hO hq => ?_)
 have hsl := sl_lit w2 73 M.oneL 2 #[.int .i64 2, .int .i64 25, .int .i64 25, .int .i64 1, .int .i64 18, .int .i64 18] rfl (by omega) (lkc_len _) rfl
 rw [hW0] at hsl
 have hE0 : Ev w W0 := by rw [← hW0]; exact Ev.alloc (Ev.trans (Ev.trans (Ev.alloc (Ev.refl _) _) hb1) hb2) _
 have hz0 := hb2.size
 have hz1 := hb1.size
 have hzw := hE0.size
 have hq0 := (Ev.trans hb1 hb2).heap (alloc1 w (.cells #[.int .i64 0, .slice none 0 0, .slice none 0 0, .slice none 0 0, .slice none 0 0, .int .i64 0, .int .i64 0, .int .i64 0, .slice none 0 0] 38)).1
 have hq1 := (show Ev w2 W0 from by rw [← hW0]; exact Ev.alloc (Ev.refl _) _).heap hq0
 have HQ0 := hid hq1
 have HSL := hid hsl
 have h2s : w.heap.size < w2.heap.size := by simp at hz1; omega
 have h20 : w2.heap.size < W0.heap.size := by rw [← hW0]; simp
 clear hq0 hq1 hsl hz1 hW0 hb1 hb2
 have N_0_1_2_3_4_5_6_7 : ∀ (W : World) (p5 : Nat) (p6 : Nat) (p7 : Nat), Ev W0 W → Hid (SlAt W0 rgc 2 W p5 5 M.oneG) → Hid (SlAt W0 ics 1 W p6 5 [0, 2, 0, 1, 0]) → Hid (SlAt W0 ics 1 W p7 2 [20, 15]) → wpAnyH Try.prog .any O q (fun _ => True) 2 #[true, true, true, true, true, true, true, true, true, true, true, false, false] { tmps := #[.int .i64 (k : Int), undef, .pointer (some ⟨w.heap.size, 0, none⟩), (.slice (some ⟨w2.heap.size, 0, none⟩) 2 2), .agg #[.int .i64 25, .int .i64 25], .agg #[.int .i64 2, .int .i64 25, .int .i64 25], .agg #[.int .i64 18, .int .i64 18], .agg #[.int .i64 1, .int .i64 18, .int .i64 18], (.slice (some ⟨w2.heap.size, 0, none⟩) 2 2), .agg #[.int .i64 10, .int .i64 12], .agg #[.int .i64 8, .int .i64 8], .agg #[.int .i64 6, .int .i64 6], .agg #[.int .i64 4, .int .i64 5], .agg #[.int .i64 2, .int .i64 2], .slice (some ⟨p5, 0, none⟩) 5 5, .slice (some ⟨p6, 0, none⟩) 5 5, .slice (some ⟨p7, 0, none⟩) 2 2, (.slice (some ⟨w2.heap.size, 0, none⟩) 2 2), .int .i64 (k : Int), .slice (some ⟨w2.heap.size, 0, none⟩) k 2, undef], defers := [] } W := by
  intro W p5 p6 p7 hE h5_0 h6_0 h7_0
  refine wpAnyH_takeD (i := 11) (v := ?_) (some 20) (by rw [hO.out]; rfl) rfl (by rw [hO.out]; kernel_rfl) (by rw [hO.out]; kernel_rfl) (by rw [hO.out]; kernel_rfl) (by rw [hq.out]; exact fun _ _ _ h => h) (Or.inl ⟨by rfl, ?hy⟩) trivial ?_
  case hy => (intro w hSw; (try dsimp only at hSw); go_simp; with_reducible rfl)
  (try simp only [Act.put, List.setIfInBounds_toArray, List.set_cons_zero, List.set_cons_succ])
  refine wpAnyH_ready (rs := [12]) (by rw [hO.out]; kernel_rfl) (by simp) ?_
  refine AllReadyH.cons (by rw [hO.out]; rfl) (fun K hK => ?_) AllReadyH.nil
  have hq9 := hE.heap HQ0.out
  obtain ⟨z0, z1, z2, z3, z4, z5, z6, z7, z8⟩ := cells9 hq9
  obtain ⟨f0, f1, f2, f3, f4, f5, f6, f7, f8⟩ := frz9 hq9
  have HQ9 := hid hq9
  clear hq9
  go_simp
  refine hK.out _ _ trivial (fun _ => ?_)
  refine wpAnyH_done (by rw [hO.out]; kernel_rfl) ?_ _
  rw [hq.out]
  go_wp2
  have hF := set9 (v0 := .int .i64 4) (v1 := .slice (some ⟨p5, 0, none⟩) 5 5) (v2 := .slice (some ⟨p6, 0, none⟩) 5 5) (v3 := .slice (some ⟨p7, 0, none⟩) 2 2) (v4 := .slice none 0 0) (v5 := .int .i64 2) (v6 := .int .i64 4) (v7 := .int .i64 50) (v8 := .slice (some ⟨w2.heap.size, 0, none⟩) k 2) HQ9.out
  obtain ⟨d0, d1, d2, d3, d4, d5, d6, d7, d8⟩ := cells9 hF
  have g5 := h5_0.out
  have g6 := h6_0.out
  have g7 := h7_0.out
  have r1 := Sl.far9 (b := w.heap.size) (v0 := .int .i64 4) (v1 := .slice (some ⟨p5, 0, none⟩) 5 5) (v2 := .slice (some ⟨p6, 0, none⟩) 5 5) (v3 := .slice (some ⟨p7, 0, none⟩) 2 2) (v4 := .slice none 0 0) (v5 := .int .i64 2) (v6 := .int .i64 4) (v7 := .int .i64 50) (v8 := .slice (some ⟨w2.heap.size, 0, none⟩) k 2) g5.1 (fun _ a ha => by cases ha; have := g5.2; show p5 ≠ w.heap.size; omega)
  have r2 := Sl.far9 (b := w.heap.size) (v0 := .int .i64 4) (v1 := .slice (some ⟨p5, 0, none⟩) 5 5) (v2 := .slice (some ⟨p6, 0, none⟩) 5 5) (v3 := .slice (some ⟨p7, 0, none⟩) 2 2) (v4 := .slice none 0 0) (v5 := .int .i64 2) (v6 := .int .i64 4) (v7 := .int .i64 50) (v8 := .slice (some ⟨w2.heap.size, 0, none⟩) k 2) g6.1 (fun _ a ha => by cases ha; have := g6.2; show p6 ≠ w.heap.size; omega)
  have r3 := Sl.far9 (b := w.heap.size) (v0 := .int .i64 4) (v1 := .slice (some ⟨p5, 0, none⟩) 5 5) (v2 := .slice (some ⟨p6, 0, none⟩) 5 5) (v3 := .slice (some ⟨p7, 0, none⟩) 2 2) (v4 := .slice none 0 0) (v5 := .int .i64 2) (v6 := .int .i64 4) (v7 := .int .i64 50) (v8 := .slice (some ⟨w2.heap.size, 0, none⟩) k 2) g7.1 (fun _ a ha => by cases ha; have := g7.2; show p7 ≠ w.heap.size; omega)
  have r4 := Sl.far9 (b := w.heap.size) (v0 := .int .i64 4) (v1 := .slice (some ⟨p5, 0, none⟩) 5 5) (v2 := .slice (some ⟨p6, 0, none⟩) 5 5) (v3 := .slice (some ⟨p7, 0, none⟩) 2 2) (v4 := .slice none 0 0) (v5 := .int .i64 2) (v6 := .int .i64 4) (v7 := .int .i64 50) (v8 := .slice (some ⟨w2.heap.size, 0, none⟩) k 2) ((HSL.out.ev hE).take hk) (fun _ a ha => by cases ha; show w2.heap.size ≠ w.heap.size; omega)
  refine bodyPost_ret (v := .agg #[.int .i64 4, .slice (some ⟨p5, 0, none⟩) 5 5, .slice (some ⟨p6, 0, none⟩) 5 5, .slice (some ⟨p7, 0, none⟩) 2 2, .slice none 0 0, .int .i64 2, .int .i64 4, .int .i64 50, .slice (some ⟨w2.heap.size, 0, none⟩) k 2]) (by simp [results, Try.results28, go_sem, d0, d1, d2, d3, d4, d5, d6, d7, d8]) rfl ⟨⟨_, _, _, _, rfl, ⟨r1, r2, r3, Sl.nil, r4⟩⟩, ?_⟩
  exact Ev.setCell (Ev.setCell (Ev.setCell (Ev.setCell (Ev.setCell (Ev.setCell (Ev.setCell (Ev.setCell (Ev.setCell (hE0.trans hE) (by simp) _) (by simp) _) (by simp) _) (by simp) _) (by simp) _) (by simp) _) (by simp) _) (by simp) _) (by simp) _
 have N_0_1_2_3_4_6_7 : ∀ (W : World) (p6 : Nat) (p7 : Nat), Ev W0 W → Hid (SlAt W0 ics 1 W p6 5 [0, 2, 0, 1, 0]) → Hid (SlAt W0 ics 1 W p7 2 [20, 15]) → wpAnyH Try.prog .any O q (fun _ => True) 3 #[true, true, true, true, true, false, true, true, true, true, true, false, false] { tmps := #[.int .i64 (k : Int), undef, .pointer (some ⟨w.heap.size, 0, none⟩), (.slice (some ⟨w2.heap.size, 0, none⟩) 2 2), .agg #[.int .i64 25, .int .i64 25], .agg #[.int .i64 2, .int .i64 25, .int .i64 25], .agg #[.int .i64 18, .int .i64 18], .agg #[.int .i64 1, .int .i64 18, .int .i64 18], (.slice (some ⟨w2.heap.size, 0, none⟩) 2 2), .agg #[.int .i64 10, .int .i64 12], .agg #[.int .i64 8, .int .i64 8], .agg #[.int .i64 6, .int .i64 6], .agg #[.int .i64 4, .int .i64 5], .agg #[.int .i64 2, .int .i64 2], undef, .slice (some ⟨p6, 0, none⟩) 5 5, .slice (some ⟨p7, 0, none⟩) 2 2, (.slice (some ⟨w2.heap.size, 0, none⟩) 2 2), .int .i64 (k : Int), .slice (some ⟨w2.heap.size, 0, none⟩) k 2, undef], defers := [] } W := by
  intro W p6 p7 hE h6_0 h7_0
  refine wpAnyH_ready (rs := [5]) (by rw [hO.out]; kernel_rfl) (by simp) ?_
  refine AllReadyH.cons (by rw [hO.out]; rfl) (fun K hK => ?_) (AllReadyH.nil)
  go_simp
  generalize hW9 : World.alloc W _ = w9
  have hs9 := sl_lit W 57 M.oneG 5 #[.int .i64 10, .int .i64 12, .int .i64 8, .int .i64 8, .int .i64 6, .int .i64 6, .int .i64 4, .int .i64 5, .int .i64 2, .int .i64 2] rfl (by omega) (rgc_len _) rfl
  rw [hW9] at hs9
  have hE8 : Ev W w9 := by rw [← hW9]; exact Ev.alloc (Ev.refl _) _
  have hE9 := hE.trans hE8
  have hWz := hE.size
  refine hK.out _ _ trivial (fun _ => ?_)
  (try simp only [Act.put, List.setIfInBounds_toArray, List.set_cons_zero, List.set_cons_succ])
  exact N_0_1_2_3_4_5_6_7 _ _ p6 p7 hE9 (hid ⟨hs9, hWz⟩) (hid (h6_0.out.ev hE8)) (hid (h7_0.out.ev hE8))
 have N_0_1_2_3_4_5_6 : ∀ (W : World) (p5 : Nat) (p6 : Nat), Ev W0 W → Hid (SlAt W0 rgc 2 W p5 5 M.oneG) → Hid (SlAt W0 ics 1 W p6 5 [0, 2, 0, 1, 0]) → wpAnyH Try.prog .any O q (fun _ => True) 3 #[true, true, true, true, true, true, true, false, true, true, true, false, false] { tmps := #[.int .i64 (k : Int), undef, .pointer (some ⟨w.heap.size, 0, none⟩), (.slice (some ⟨w2.heap.size, 0, none⟩) 2 2), .agg #[.int .i64 25, .int .i64 25], .agg #[.int .i64 2, .int .i64 25, .int .i64 25], .agg #[.int .i64 18, .int .i64 18], .agg #[.int .i64 1, .int .i64 18, .int .i64 18], (.slice (some ⟨w2.heap.size, 0, none⟩) 2 2), .agg #[.int .i64 10, .int .i64 12], .agg #[.int .i64 8, .int .i64 8], .agg #[.int .i64 6, .int .i64 6], .agg #[.int .i64 4, .int .i64 5], .agg #[.int .i64 2, .int .i64 2], .slice (some ⟨p5, 0, none⟩) 5 5, .slice (some ⟨p6, 0, none⟩) 5 5, undef, (.slice (some ⟨w2.heap.size, 0, none⟩) 2 2), .int .i64 (k : Int), .slice (some ⟨w2.heap.size, 0, none⟩) k 2, undef], defers := [] } W := by
  intro W p5 p6 hE h5_0 h6_0
  refine wpAnyH_ready (rs := [7]) (by rw [hO.out]; kernel_rfl) (by simp) ?_
  refine AllReadyH.cons (by rw [hO.out]; rfl) (fun K hK => ?_) (AllReadyH.nil)
  go_simp
  generalize hW9 : World.alloc W _ = w9
  have hs9 := sl_lit W 3 [20, 15] 2 #[.int .i64 20, .int .i64 15] rfl (by omega) (ics_len _) rfl
  rw [hW9] at hs9
  have hE8 : Ev W w9 := by rw [← hW9]; exact Ev.alloc (Ev.refl _) _
  have hE9 := hE.trans hE8
  have hWz := hE.size
  refine hK.out _ _ trivial (fun _ => ?_)
  (try simp only [Act.put, List.setIfInBounds_toArray, List.set_cons_zero, List.set_cons_succ])
  exact N_0_1_2_3_4_5_6_7 _ p5 p6 _ hE9 (hid (h5_0.out.ev hE8)) (hid (h6_0.out.ev hE8)) (hid ⟨hs9, hWz⟩)
 have N_0_1_2_3_4_5_7 : ∀ (W : World) (p5 : Nat) (p7 : Nat), Ev W0 W → Hid (SlAt W0 rgc 2 W p5 5 M.oneG) → Hid (SlAt W0 ics 1 W p7 2 [20, 15]) → wpAnyH Try.prog .any O q (fun _ => True) 3 #[true, true, true, true, true, true, false, true, true, true, true, false, false] { tmps := #[.int .i64 (k : Int), undef, .pointer (some ⟨w.heap.size, 0, none⟩), (.slice (some ⟨w2.heap.size, 0, none⟩) 2 2), .agg #[.int .i64 25, .int .i64 25], .agg #[.int .i64 2, .int .i64 25, .int .i64 25], .agg #[.int .i64 18, .int .i64 18], .agg #[.int .i64 1, .int .i64 18, .int .i64 18], (.slice (some ⟨w2.heap.size, 0, none⟩) 2 2), .agg #[.int .i64 10, .int .i64 12], .agg #[.int .i64 8, .int .i64 8], .agg #[.int .i64 6, .int .i64 6], .agg #[.int .i64 4, .int .i64 5], .agg #[.int .i64 2, .int .i64 2], .slice (some ⟨p5, 0, none⟩) 5 5, undef, .slice (some ⟨p7, 0, none⟩) 2 2, (.slice (some ⟨w2.heap.size, 0, none⟩) 2 2), .int .i64 (k : Int), .slice (some ⟨w2.heap.size, 0, none⟩) k 2, undef], defers := [] } W := by
  intro W p5 p7 hE h5_0 h7_0
  refine wpAnyH_ready (rs := [6]) (by rw [hO.out]; kernel_rfl) (by simp) ?_
  refine AllReadyH.cons (by rw [hO.out]; rfl) (fun K hK => ?_) (AllReadyH.nil)
  go_simp
  generalize hW9 : World.alloc W _ = w9
  have hs9 := sl_lit W 3 [0, 2, 0, 1, 0] 5 #[.int .i64 0, .int .i64 2, .int .i64 0, .int .i64 1, .int .i64 0] rfl (by omega) (ics_len _) rfl
  rw [hW9] at hs9
  have hE8 : Ev W w9 := by rw [← hW9]; exact Ev.alloc (Ev.refl _) _
  have hE9 := hE.trans hE8
  have hWz := hE.size
  refine hK.out _ _ trivial (fun _ => ?_)
  (try simp only [Act.put, List.setIfInBounds_toArray, List.set_cons_zero, List.set_cons_succ])
  exact N_0_1_2_3_4_5_6_7 _ p5 _ p7 hE9 (hid (h5_0.out.ev hE8)) (hid ⟨hs9, hWz⟩) (hid (h7_0.out.ev hE8))
 have N_0_1_2_3_4_6 : ∀ (W : World) (p6 : Nat), Ev W0 W → Hid (SlAt W0 ics 1 W p6 5 [0, 2, 0, 1, 0]) → wpAnyH Try.prog .any O q (fun _ => True) 4 #[true, true, true, true, true, false, true, false, true, true, true, false, false] { tmps := #[.int .i64 (k : Int), undef, .pointer (some ⟨w.heap.size, 0, none⟩), (.slice (some ⟨w2.heap.size, 0, none⟩) 2 2), .agg #[.int .i64 25, .int .i64 25], .agg #[.int .i64 2, .int .i64 25, .int .i64 25], .agg #[.int .i64 18, .int .i64 18], .agg #[.int .i64 1, .int .i64 18, .int .i64 18], (.slice (some ⟨w2.heap.size, 0, none⟩) 2 2), .agg #[.int .i64 10, .int .i64 12], .agg #[.int .i64 8, .int .i64 8], .agg #[.int .i64 6, .int .i64 6], .agg #[.int .i64 4, .int .i64 5], .agg #[.int .i64 2, .int .i64 2], undef, .slice (some ⟨p6, 0, none⟩) 5 5, undef, (.slice (some ⟨w2.heap.size, 0, none⟩) 2 2), .int .i64 (k : Int), .slice (some ⟨w2.heap.size, 0, none⟩) k 2, undef], defers := [] } W := by
  intro W p6 hE h6_0
  refine wpAnyH_ready (rs := [5, 7]) (by rw [hO.out]; kernel_rfl) (by simp) ?_
  refine AllReadyH.cons (by rw [hO.out]; rfl) (fun K hK => ?_) (AllReadyH.cons (by rw [hO.out]; rfl) (fun K hK => ?_) (AllReadyH.nil))
  ·
   go_simp
   generalize hW9 : World.alloc W _ = w9
   have hs9 := sl_lit W 57 M.oneG 5 #[.int .i64 10, .int .i64 12, .int .i64 8, .int .i64 8, .int .i64 6, .int .i64 6, .int .i64 4, .int .i64 5, .int .i64 2, .int .i64 2] rfl (by omega) (rgc_len _) rfl
   rw [hW9] at hs9
   have hE8 : Ev W w9 := by rw [← hW9]; exact Ev.alloc (Ev.refl _) _
   have hE9 := hE.trans hE8
   have hWz := hE.size
   refine hK.out _ _ trivial (fun _ => ?_)
   (try simp only [Act.put, List.setIfInBounds_toArray, List.set_cons_zero, List.set_cons_succ])
   exact N_0_1_2_3_4_5_6 _ _ p6 hE9 (hid ⟨hs9, hWz⟩) (hid (h6_0.out.ev hE8))
  ·
   go_simp
   generalize hW9 : World.alloc W _ = w9
   have hs9 := sl_lit W 3 [20, 15] 2 #[.int .i64 20, .int .i64 15] rfl (by omega) (ics_len _) rfl
   rw [hW9] at hs9
   have hE8 : Ev W w9 := by rw [← hW9]; exact Ev.alloc (Ev.refl _) _
   have hE9 := hE.trans hE8
   have hWz := hE.size
   refine hK.out _ _ trivial (fun _ => ?_)
   (try simp only [Act.put, List.setIfInBounds_toArray, List.set_cons_zero, List.set_cons_succ])
   exact N_0_1_2_3_4_6_7 _ p6 _ hE9 (hid (h6_0.out.ev hE8)) (hid ⟨hs9, hWz⟩)
 have N_0_1_2_3_6_7 : ∀ (W : World) (p6 : Nat) (p7 : Nat), Ev W0 W → Hid (SlAt W0 ics 1 W p6 5 [0, 2, 0, 1, 0]) → Hid (SlAt W0 ics 1 W p7 2 [20, 15]) → wpAnyH Try.prog .any O q (fun _ => True) 4 #[true, true, true, true, false, false, true, true, true, true, true, false, false] { tmps := #[.int .i64 (k : Int), undef, .pointer (some ⟨w.heap.size, 0, none⟩), (.slice (some ⟨w2.heap.size, 0, none⟩) 2 2), .agg #[.int .i64 25, .int .i64 25], .agg #[.int .i64 2, .int .i64 25, .int .i64 25], .agg #[.int .i64 18, .int .i64 18], .agg #[.int .i64 1, .int .i64 18, .int .i64 18], (.slice (some ⟨w2.heap.size, 0, none⟩) 2 2), .agg #[.int .i64 10, .int .i64 12], .agg #[.int .i64 8, .int .i64 8], .agg #[.int .i64 6, .int .i64 6], .agg #[.int .i64 4, .int .i64 5], undef, undef, .slice (some ⟨p6, 0, none⟩) 5 5, .slice (some ⟨p7, 0, none⟩) 2 2, (.slice (some ⟨w2.heap.size, 0, none⟩) 2 2), .int .i64 (k : Int), .slice (some ⟨w2.heap.size, 0, none⟩) k 2, undef], defers := [] } W := by
  intro W p6 p7 hE h6_0 h7_0
  refine wpAnyH_ready (rs := [4]) (by rw [hO.out]; kernel_rfl) (by simp) ?_
  refine AllReadyH.cons (by rw [hO.out]; rfl) (fun K hK => ?_) (AllReadyH.nil)
  go_simp
  refine (between_c 2 2 _).mono ?_
  rintro e w9 ⟨rfl, hE8⟩
  have hE9 := hE.trans hE8
  refine hK.out _ _ trivial (fun _ => ?_)
  (try simp only [Act.put, List.setIfInBounds_toArray, List.set_cons_zero, List.set_cons_succ])
  exact N_0_1_2_3_4_6_7 _ p6 p7 hE9 (hid (h6_0.out.ev hE8)) (hid (h7_0.out.ev hE8))
 have N_0_1_2_3_4_7 : ∀ (W : World) (p7 : Nat), Ev W0 W → Hid (SlAt W0 ics 1 W p7 2 [20, 15]) → wpAnyH Try.prog .any O q (fun _ => True) 4 #[true, true, true, true, true, false, false, true, true, true, true, false, false] { tmps := #[.int .i64 (k : Int), undef, .pointer (some ⟨w.heap.size, 0, none⟩), (.slice (some ⟨w2.heap.size, 0, none⟩) 2 2), .agg #[.int .i64 25, .int .i64 25], .agg #[.int .i64 2, .int .i64 25, .int .i64 25], .agg #[.int .i64 18, .int .i64 18], .agg #[.int .i64 1, .int .i64 18, .int .i64 18], (.slice (some ⟨w2.heap.size, 0, none⟩) 2 2), .agg #[.int .i64 10, .int .i64 12], .agg #[.int .i64 8, .int .i64 8], .agg #[.int .i64 6, .int .i64 6], .agg #[.int .i64 4, .int .i64 5], .agg #[.int .i64 2, .int .i64 2], undef, undef, .slice (some ⟨p7, 0, none⟩) 2 2, (.slice (some ⟨w2.heap.size, 0, none⟩) 2 2), .int .i64 (k : Int), .slice (some ⟨w2.heap.size, 0, none⟩) k 2, undef], defers := [] } W := by
  intro W p7 hE h7_0
  refine wpAnyH_ready (rs := [5, 6]) (by rw [hO.out]; kernel_rfl) (by simp) ?_
  refine AllReadyH.cons (by rw [hO.out]; rfl) (fun K hK => ?_) (AllReadyH.cons (by rw [hO.out]; rfl) (fun K hK => ?_) (AllReadyH.nil))
  ·
   go_simp
   generalize hW9 : World.alloc W _ = w9
   have hs9 := sl_lit W 57 M.oneG 5 #[.int .i64 10, .int .i64 12, .int .i64 8, .int .i64 8, .int .i64 6, .int .i64 6, .int .i64 4, .int .i64 5, .int .i64 2, .int .i64 2] rfl (by omega) (rgc_len _) rfl
   rw [hW9] at hs9
   have hE8 : Ev W w9 := by rw [← hW9]; exact Ev.alloc (Ev.refl _) _
   have hE9 := hE.trans hE8
   have hWz := hE.size
   refine hK.out _ _ trivial (fun _ => ?_)
   (try simp only [Act.put, List.setIfInBounds_toArray, List.set_cons_zero, List.set_cons_succ])
   exact N_0_1_2_3_4_5_7 _ _ p7 hE9 (hid ⟨hs9, hWz⟩) (hid (h7_0.out.ev hE8))
  ·
   go_simp
   generalize hW9 : World.alloc W _ = w9
   have hs9 := sl_lit W 3 [0, 2, 0, 1, 0] 5 #[.int .i64 0, .int .i64 2, .int .i64 0, .int .i64 1, .int .i64 0] rfl (by omega) (ics_len _) rfl
   rw [hW9] at hs9
   have hE8 : Ev W w9 := by rw [← hW9]; exact Ev.alloc (Ev.refl _) _
   have hE9 := hE.trans hE8
   have hWz := hE.size
   refine hK.out _ _ trivial (fun _ => ?_)
   (try simp only [Act.put, List.setIfInBounds_toArray, List.set_cons_zero, List.set_cons_succ])
   exact N_0_1_2_3_4_6_7 _ _ p7 hE9 (hid ⟨hs9, hWz⟩) (hid (h7_0.out.ev hE8))
 have N_0_1_2_3_4_5 : ∀ (W : World) (p5 : Nat), Ev W0 W → Hid (SlAt W0 rgc 2 W p5 5 M.oneG) → wpAnyH Try.prog .any O q (fun _ => True) 4 #[true, true, true, true, true, true, false, false, true, true, true, false, false] { tmps := #[.int .i64 (k : Int), undef, .pointer (some ⟨w.heap.size, 0, none⟩), (.slice (some ⟨w2.heap.size, 0, none⟩) 2 2), .agg #[.int .i64 25, .int .i64 25], .agg #[.int .i64 2, .int .i64 25, .int .i64 25], .agg #[.int .i64 18, .int .i64 18], .agg #[.int .i64 1, .int .i64 18, .int .i64 18], (.slice (some ⟨w2.heap.size, 0, none⟩) 2 2), .agg #[.int .i64 10, .int .i64 12], .agg #[.int .i64 8, .int .i64 8], .agg #[.int .i64 6, .int .i64 6], .agg #[.int .i64 4, .int .i64 5], .agg #[.int .i64 2, .int .i64 2], .slice (some ⟨p5, 0, none⟩) 5 5, undef, undef, (.slice (some ⟨w2.heap.size, 0, none⟩) 2 2), .int .i64 (k : Int), .slice (some ⟨w2.heap.size, 0, none⟩) k 2, undef], defers := [] } W := by
  intro W p5 hE h5_0
  refine wpAnyH_ready (rs := [6, 7]) (by rw [hO.out]; kernel_rfl) (by simp) ?_
  refine AllReadyH.cons (by rw [hO.out]; rfl) (fun K hK => ?_) (AllReadyH.cons (by rw [hO.out]; rfl) (fun K hK => ?_) (AllReadyH.nil))
  ·
   go_simp
   generalize hW9 : World.alloc W _ = w9
   have hs9 := sl_lit W 3 [0, 2, 0, 1, 0] 5 #[.int .i64 0, .int .i64 2, .int .i64 0, .int .i64 1, .int .i64 0] rfl (by omega) (ics_len _) rfl
   rw [hW9] at hs9
   have hE8 : Ev W w9 := by rw [← hW9]; exact Ev.alloc (Ev.refl _) _
   have hE9 := hE.trans hE8
   have hWz := hE.size
   refine hK.out _ _ trivial (fun _ => ?_)
   (try simp only [Act.put, List.setIfInBounds_toArray, List.set_cons_zero, List.set_cons_succ])
   exact N_0_1_2_3_4_5_6 _ p5 _ hE9 (hid (h5_0.out.ev hE8)) (hid ⟨hs9, hWz⟩)
  ·
   go_simp
   generalize hW9 : World.alloc W _ = w9
   have hs9 := sl_lit W 3 [20, 15] 2 #[.int .i64 20, .int .i64 15] rfl (by omega) (ics_len _) rfl
   rw [hW9] at hs9
   have hE8 : Ev W w9 := by rw [← hW9]; exact Ev.alloc (Ev.refl _) _
   have hE9 := hE.trans hE8
   have hWz := hE.size
   refine hK.out _ _ trivial (fun _ => ?_)
   (try simp only [Act.put, List.setIfInBounds_toArray, List.set_cons_zero, List.set_cons_succ])
   exact N_0_1_2_3_4_5_7 _ p5 _ hE9 (hid (h5_0.out.ev hE8)) (hid ⟨hs9, hWz⟩)
 have N_0_1_2_3_7 : ∀ (W : World) (p7 : Nat), Ev W0 W → Hid (SlAt W0 ics 1 W p7 2 [20, 15]) → wpAnyH Try.prog .any O q (fun _ => True) 5 #[true, true, true, true, false, false, false, true, true, true, true, false, false] { tmps := #[.int .i64 (k : Int), undef, .pointer (some ⟨w.heap.size, 0, none⟩), (.slice (some ⟨w2.heap.size, 0, none⟩) 2 2), .agg #[.int .i64 25, .int .i64 25], .agg #[.int .i64 2, .int .i64 25, .int .i64 25], .agg #[.int .i64 18, .int .i64 18], .agg #[.int .i64 1, .int .i64 18, .int .i64 18], (.slice (some ⟨w2.heap.size, 0, none⟩) 2 2), .agg #[.int .i64 10, .int .i64 12], .agg #[.int .i64 8, .int .i64 8], .agg #[.int .i64 6, .int .i64 6], .agg #[.int .i64 4, .int .i64 5], undef, undef, undef, .slice (some ⟨p7, 0, none⟩) 2 2, (.slice (some ⟨w2.heap.size, 0, none⟩) 2 2), .int .i64 (k : Int), .slice (some ⟨w2.heap.size, 0, none⟩) k 2, undef], defers := [] } W := by
  intro W p7 hE h7_0
  refine wpAnyH_ready (rs := [4, 6]) (by rw [hO.out]; kernel_rfl) (by simp) ?_
  refine AllReadyH.cons (by rw [hO.out]; rfl) (fun K hK => ?_) (AllReadyH.cons (by rw [hO.out]; rfl) (fun K hK => ?_) (AllReadyH.nil))
  ·
   go_simp
   refine (between_c 2 2 _).mono ?_
   rintro e w9 ⟨rfl, hE8⟩
   have hE9 := hE.trans hE8
   refine hK.out _ _ trivial (fun _ => ?_)
   (try simp only [Act.put, List.setIfInBounds_toArray, List.set_cons_zero, List.set_cons_succ])
   exact N_0_1_2_3_4_7 _ p7 hE9 (hid (h7_0.out.ev hE8))
  ·
   go_simp
   generalize hW9 : World.alloc W _ = w9
   have hs9 := sl_lit W 3 [0, 2, 0, 1, 0] 5 #[.int .i64 0, .int .i64 2, .int .i64 0, .int .i64 1, .int .i64 0] rfl (by omega) (ics_len _) rfl
   rw [hW9] at hs9
   have hE8 : Ev W w9 := by rw [← hW9]; exact Ev.alloc (Ev.refl _) _
   have hE9 := hE.trans hE8
   have hWz := hE.size
   refine hK.out _ _ trivial (fun _ => ?_)
   (try simp only [Act.put, List.setIfInBounds_toArray, List.set_cons_zero, List.set_cons_succ])
   exact N_0_1_2_3_6_7 _ _ p7 hE9 (hid ⟨hs9, hWz⟩) (hid (h7_0.out.ev hE8))
 have N_0_1_2_3_4 : ∀ (W : World), Ev W0 W → wpAnyH Try.prog .any O q (fun _ => True) 5 #[true, true, true, true, true, false, false, false, true, true, true, false, false] { tmps := #[.int .i64 (k : Int), undef, .pointer (some ⟨w.heap.size, 0, none⟩), (.slice (some ⟨w2.heap.size, 0, none⟩) 2 2), .agg #[.int .i64 25, .int .i64 25], .agg #[.int .i64 2, .int .i64 25, .int .i64 25], .agg #[.int .i64 18, .int .i64 18], .agg #[.int .i64 1, .int .i64 18, .int .i64 18], (.slice (some ⟨w2.heap.size, 0, none⟩) 2 2), .agg #[.int .i64 10, .int .i64 12], .agg #[.int .i64 8, .int .i64 8], .agg #[.int .i64 6, .int .i64 6], .agg #[.int .i64 4, .int .i64 5], .agg #[.int .i64 2, .int .i64 2], undef, undef, undef, (.slice (some ⟨w2.heap.size, 0, none⟩) 2 2), .int .i64 (k : Int), .slice (some ⟨w2.heap.size, 0, none⟩) k 2, undef], defers := [] } W := by
  intro W  hE 
  refine wpAnyH_ready (rs := [5, 6, 7]) (by rw [hO.out]; kernel_rfl) (by simp) ?_
  refine AllReadyH.cons (by rw [hO.out]; rfl) (fun K hK => ?_) (AllReadyH.cons (by rw [hO.out]; rfl) (fun K hK => ?_) (AllReadyH.cons (by rw [hO.out]; rfl) (fun K hK => ?_) (AllReadyH.nil)))
  ·
   go_simp
   generalize hW9 : World.alloc W _ = w9
   have hs9 := sl_lit W 57 M.oneG 5 #[.int .i64 10, .int .i64 12, .int .i64 8, .int .i64 8, .int .i64 6, .int .i64 6, .int .i64 4, .int .i64 5, .int .i64 2, .int .i64 2] rfl (by omega) (rgc_len _) rfl
   rw [hW9] at hs9
   have hE8 : Ev W w9 := by rw [← hW9]; exact Ev.alloc (Ev.refl _) _
   have hE9 := hE.trans hE8
   have hWz := hE.size
   refine hK.out _ _ trivial (fun _ => ?_)
   (try simp only [Act.put, List.setIfInBounds_toArray, List.set_cons_zero, List.set_cons_succ])
   exact N_0_1_2_3_4_5 _ _ hE9 (hid ⟨hs9, hWz⟩)
  ·
   go_simp
   generalize hW9 : World.alloc W _ = w9
   have hs9 := sl_lit W 3 [0, 2, 0, 1, 0] 5 #[.int .i64 0, .int .i64 2, .int .i64 0, .int .i64 1, .int .i64 0] rfl (by omega) (ics_len _) rfl
   rw [hW9] at hs9
   have hE8 : Ev W w9 := by rw [← hW9]; exact Ev.alloc (Ev.refl _) _
   have hE9 := hE.trans hE8
   have hWz := hE.size
   refine hK.out _ _ trivial (fun _ => ?_)
   (try simp only [Act.put, List.setIfInBounds_toArray, List.set_cons_zero, List.set_cons_succ])
   exact N_0_1_2_3_4_6 _ _ hE9 (hid ⟨hs9, hWz⟩)
  ·
   go_simp
   generalize hW9 : World.alloc W _ = w9
   have hs9 := sl_lit W 3 [20, 15] 2 #[.int .i64 20, .int .i64 15] rfl (by omega) (ics_len _) rfl
   rw [hW9] at hs9
   have hE8 : Ev W w9 := by rw [← hW9]; exact Ev.alloc (Ev.refl _) _
   have hE9 := hE.trans hE8
   have hWz := hE.size
   refine hK.out _ _ trivial (fun _ => ?_)
   (try simp only [Act.put, List.setIfInBounds_toArray, List.set_cons_zero, List.set_cons_succ])
   exact N_0_1_2_3_4_7 _ _ hE9 (hid ⟨hs9, hWz⟩)
 have N_0_1_2_6_7 : ∀ (W : World) (p6 : Nat) (p7 : Nat), Ev W0 W → Hid (SlAt W0 ics 1 W p6 5 [0, 2, 0, 1, 0]) → Hid (SlAt W0 ics 1 W p7 2 [20, 15]) → wpAnyH Try.prog .any O q (fun _ => True) 5 #[true, true, true, false, false, false, true, true, true, true, true, false, false] { tmps := #[.int .i64 (k : Int), undef, .pointer (some ⟨w.heap.size, 0, none⟩), (.slice (some ⟨w2.heap.size, 0, none⟩) 2 2), .agg #[.int .i64 25, .int .i64 25], .agg #[.int .i64 2, .int .i64 25, .int .i64 25], .agg #[.int .i64 18, .int .i64 18], .agg #[.int .i64 1, .int .i64 18, .int .i64 18], (.slice (some ⟨w2.heap.size, 0, none⟩) 2 2), .agg #[.int .i64 10, .int .i64 12], .agg #[.int .i64 8, .int .i64 8], .agg #[.int .i64 6, .int .i64 6], undef, undef, undef, .slice (some ⟨p6, 0, none⟩) 5 5, .slice (some ⟨p7, 0, none⟩) 2 2, (.slice (some ⟨w2.heap.size, 0, none⟩) 2 2), .int .i64 (k : Int), .slice (some ⟨w2.heap.size, 0, none⟩) k 2, undef], defers := [] } W := by
  intro W p6 p7 hE h6_0 h7_0
  refine wpAnyH_ready (rs := [3]) (by rw [hO.out]; kernel_rfl) (by simp) ?_
  refine AllReadyH.cons (by rw [hO.out]; rfl) (fun K hK => ?_) (AllReadyH.nil)
  go_simp
  refine (between_c 4 5 _).mono ?_
  rintro e w9 ⟨rfl, hE8⟩
  have hE9 := hE.trans hE8
  refine hK.out _ _ trivial (fun _ => ?_)
  (try simp only [Act.put, List.setIfInBounds_toArray, List.set_cons_zero, List.set_cons_succ])
  exact N_0_1_2_3_6_7 _ p6 p7 hE9 (hid (h6_0.out.ev hE8)) (hid (h7_0.out.ev hE8))
 have N_0_1_2_3_6 : ∀ (W : World) (p6 : Nat), Ev W0 W → Hid (SlAt W0 ics 1 W p6 5 [0, 2, 0, 1, 0]) → wpAnyH Try.prog .any O q (fun _ => True) 5 #[true, true, true, true, false, false, true, false, true, true, true, false, false] { tmps := #[.int .i64 (k : Int), undef, .pointer (some ⟨w.heap.size, 0, none⟩), (.slice (some ⟨w2.heap.size, 0, none⟩) 2 2), .agg #[.int .i64 25, .int .i64 25], .agg #[.int .i64 2, .int .i64 25, .int .i64 25], .agg #[.int .i64 18, .int .i64 18], .agg #[.int .i64 1, .int .i64 18, .int .i64 18], (.slice (some ⟨w2.heap.size, 0, none⟩) 2 2), .agg #[.int .i64 10, .int .i64 12], .agg #[.int .i64 8, .int .i64 8], .agg #[.int .i64 6, .int .i64 6], .agg #[.int .i64 4, .int .i64 5], undef, undef, .slice (some ⟨p6, 0, none⟩) 5 5, undef, (.slice (some ⟨w2.heap.size, 0, none⟩) 2 2), .int .i64 (k : Int), .slice (some ⟨w2.heap.size, 0, none⟩) k 2, undef], defers := [] } W := by
  intro W p6 hE h6_0
  refine wpAnyH_ready (rs := [4, 7]) (by rw [hO.out]; kernel_rfl) (by simp) ?_
  refine AllReadyH.cons (by rw [hO.out]; rfl) (fun K hK => ?_) (AllReadyH.cons (by rw [hO.out]; rfl) (fun K hK => ?_) (AllReadyH.nil))
  ·
   go_simp
   refine (between_c 2 2 _).mono ?_
   rintro e w9 ⟨rfl, hE8⟩
   have hE9 := hE.trans hE8
   refine hK.out _ _ trivial (fun _ => ?_)
   (try simp only [Act.put, List.setIfInBounds_toArray, List.set_cons_zero, List.set_cons_succ])
   exact N_0_1_2_3_4_6 _ p6 hE9 (hid (h6_0.out.ev hE8))
  ·
   go_simp
   generalize hW9 : World.alloc W _ = w9
   have hs9 := sl_lit W 3 [20, 15] 2 #[.int .i64 20, .int .i64 15] rfl (by omega) (ics_len _) rfl
   rw [hW9] at hs9
   have hE8 : Ev W w9 := by rw [← hW9]; exact Ev.alloc (Ev.refl _) _
   have hE9 := hE.trans hE8
   have hWz := hE.size
   refine hK.out _ _ trivial (fun _ => ?_)
   (try simp only [Act.put, List.setIfInBounds_toArray, List.set_cons_zero, List.set_cons_succ])
   exact N_0_1_2_3_6_7 _ p6 _ hE9 (hid (h6_0.out.ev hE8)) (hid ⟨hs9, hWz⟩)
 have N_0_1_6_7 : ∀ (W : World) (p6 : Nat) (p7 : Nat), Ev W0 W → Hid (SlAt W0 ics 1 W p6 5 [0, 2, 0, 1, 0]) → Hid (SlAt W0 ics 1 W p7 2 [20, 15]) → wpAnyH Try.prog .any O q (fun _ => True) 6 #[true, true, false, false, false, false, true, true, true, true, true, false, false] { tmps := #[.int .i64 (k : Int), undef, .pointer (some ⟨w.heap.size, 0, none⟩), (.slice (some ⟨w2.heap.size, 0, none⟩) 2 2), .agg #[.int .i64 25, .int .i64 25], .agg #[.int .i64 2, .int .i64 25, .int .i64 25], .agg #[.int .i64 18, .int .i64 18], .agg #[.int .i64 1, .int .i64 18, .int .i64 18], (.slice (some ⟨w2.heap.size, 0, none⟩) 2 2), .agg #[.int .i64 10, .int .i64 12], .agg #[.int .i64 8, .int .i64 8], undef, undef, undef, undef, .slice (some ⟨p6, 0, none⟩) 5 5, .slice (some ⟨p7, 0, none⟩) 2 2, (.slice (some ⟨w2.heap.size, 0, none⟩) 2 2), .int .i64 (k : Int), .slice (some ⟨w2.heap.size, 0, none⟩) k 2, undef], defers := [] } W := by
  intro W p6 p7 hE h6_0 h7_0
  refine wpAnyH_ready (rs := [2]) (by rw [hO.out]; kernel_rfl) (by simp) ?_
  refine AllReadyH.cons (by rw [hO.out]; rfl) (fun K hK => ?_) (AllReadyH.nil)
  go_simp
  refine (between_c 6 6 _).mono ?_
  rintro e w9 ⟨rfl, hE8⟩
  have hE9 := hE.trans hE8
  refine hK.out _ _ trivial (fun _ => ?_)
  (try simp only [Act.put, List.setIfInBounds_toArray, List.set_cons_zero, List.set_cons_succ])
  exact N_0_1_2_6_7 _ p6 p7 hE9 (hid (h6_0.out.ev hE8)) (hid (h7_0.out.ev hE8))
 have N_0_1_2_7 : ∀ (W : World) (p7 : Nat), Ev W0 W → Hid (SlAt W0 ics 1 W p7 2 [20, 15]) → wpAnyH Try.prog .any O q (fun _ => True) 6 #[true, true, true, false, false, false, false, true, true, true, true, false, false] { tmps := #[.int .i64 (k : Int), undef, .pointer (some ⟨w.heap.size, 0, none⟩), (.slice (some ⟨w2.heap.size, 0, none⟩) 2 2), .agg #[.int .i64 25, .int .i64 25], .agg #[.int .i64 2, .int .i64 25, .int .i64 25], .agg #[.int .i64 18, .int .i64 18], .agg #[.int .i64 1, .int .i64 18, .int .i64 18], (.slice (some ⟨w2.heap.size, 0, none⟩) 2 2), .agg #[.int .i64 10, .int .i64 12], .agg #[.int .i64 8, .int .i64 8], .agg #[.int .i64 6, .int .i64 6], undef, undef, undef, undef, .slice (some ⟨p7, 0, none⟩) 2 2, (.slice (some ⟨w2.heap.size, 0, none⟩) 2 2), .int .i64 (k : Int), .slice (some ⟨w2.heap.size, 0, none⟩) k 2, undef], defers := [] } W := by
  intro W p7 hE h7_0
  refine wpAnyH_ready (rs := [3, 6]) (by rw [hO.out]; kernel_rfl) (by simp) ?_
  refine AllReadyH.cons (by rw [hO.out]; rfl) (fun K hK => ?_) (AllReadyH.cons (by rw [hO.out]; rfl) (fun K hK => ?_) (AllReadyH.nil))
  ·
   go_simp
   refine (between_c 4 5 _).mono ?_
   rintro e w9 ⟨rfl, hE8⟩
   have hE9 := hE.trans hE8
   refine hK.out _ _ trivial (fun _ => ?_)
   (try simp only [Act.put, List.setIfInBounds_toArray, List.set_cons_zero, List.set_cons_succ])
   exact N_0_1_2_3_7 _ p7 hE9 (hid (h7_0.out.ev hE8))
  ·
   go_simp
   generalize hW9 : World.alloc W _ = w9
   have hs9 := sl_lit W 3 [0, 2, 0, 1, 0] 5 #[.int .i64 0, .int .i64 2, .int .i64 0, .int .i64 1, .int .i64 0] rfl (by omega) (ics_len _) rfl
   rw [hW9] at hs9
   have hE8 : Ev W w9 := by rw [← hW9]; exact Ev.alloc (Ev.refl _) _
   have hE9 := hE.trans hE8
   have hWz := hE.size
   refine hK.out _ _ trivial (fun _ => ?_)
   (try simp only [Act.put, List.setIfInBounds_toArray, List.set_cons_zero, List.set_cons_succ])
   exact N_0_1_2_6_7 _ _ p7 hE9 (hid ⟨hs9, hWz⟩) (hid (h7_0.out.ev hE8))
 have N_0_1_2_6 : ∀ (W : World) (p6 : Nat), Ev W0 W → Hid (SlAt W0 ics 1 W p6 5 [0, 2, 0, 1, 0]) → wpAnyH Try.prog .any O q (fun _ => True) 6 #[true, true, true, false, false, false, true, false, true, true, true, false, false] { tmps := #[.int .i64 (k : Int), undef, .pointer (some ⟨w.heap.size, 0, none⟩), (.slice (some ⟨w2.heap.size, 0, none⟩) 2 2), .agg #[.int .i64 25, .int .i64 25], .agg #[.int .i64 2, .int .i64 25, .int .i64 25], .agg #[.int .i64 18, .int .i64 18], .agg #[.int .i64 1, .int .i64 18, .int .i64 18], (.slice (some ⟨w2.heap.size, 0, none⟩) 2 2), .agg #[.int .i64 10, .int .i64 12], .agg #[.int .i64 8, .int .i64 8], .agg #[.int .i64 6, .int .i64 6], undef, undef, undef, .slice (some ⟨p6, 0, none⟩) 5 5, undef, (.slice (some ⟨w2.heap.size, 0, none⟩) 2 2), .int .i64 (k : Int), .slice (some ⟨w2.heap.size, 0, none⟩) k 2, undef], defers := [] } W := by
  intro W p6 hE h6_0
  refine wpAnyH_ready (rs := [3, 7]) (by rw [hO.out]; kernel_rfl) (by simp) ?_
  refine AllReadyH.cons (by rw [hO.out]; rfl) (fun K hK => ?_) (AllReadyH.cons (by rw [hO.out]; rfl) (fun K hK => ?_) (AllReadyH.nil))
  ·
   go_simp
   refine (between_c 4 5 _).mono ?_
   rintro e w9 ⟨rfl, hE8⟩
   have hE9 := hE.trans hE8
   refine hK.out _ _ trivial (fun _ => ?_)
   (try simp only [Act.put, List.setIfInBounds_toArray, List.set_cons_zero, List.set_cons_succ])
   exact N_0_1_2_3_6 _ p6 hE9 (hid (h6_0.out.ev hE8))
  ·
   go_simp
   generalize hW9 : World.alloc W _ = w9
   have hs9 := sl_lit W 3 [20, 15] 2 #[.int .i64 20, .int .i64 15] rfl (by omega) (ics_len _) rfl
   rw [hW9] at hs9
   have hE8 : Ev W w9 := by rw [← hW9]; exact Ev.alloc (Ev.refl _) _
   have hE9 := hE.trans hE8
   have hWz := hE.size
   refine hK.out _ _ trivial (fun _ => ?_)
   (try simp only [Act.put, List.setIfInBounds_toArray, List.set_cons_zero, List.set_cons_succ])
   exact N_0_1_2_6_7 _ p6 _ hE9 (hid (h6_0.out.ev hE8)) (hid ⟨hs9, hWz⟩)
 have N_0_1_2_3 : ∀ (W : World), Ev W0 W → wpAnyH Try.prog .any O q (fun _ => True) 6 #[true, true, true, true, false, false, false, false, true, true, true, false, false] { tmps := #[.int .i64 (k : Int), undef, .pointer (some ⟨w.heap.size, 0, none⟩), (.slice (some ⟨w2.heap.size, 0, none⟩) 2 2), .agg #[.int .i64 25, .int .i64 25], .agg #[.int .i64 2, .int .i64 25, .int .i64 25], .agg #[.int .i64 18, .int .i64 18], .agg #[.int .i64 1, .int .i64 18, .int .i64 18], (.slice (some ⟨w2.heap.size, 0, none⟩) 2 2), .agg #[.int .i64 10, .int .i64 12], .agg #[.int .i64 8, .int .i64 8], .agg #[.int .i64 6, .int .i64 6], .agg #[.int .i64 4, .int .i64 5], undef, undef, undef, undef, (.slice (some ⟨w2.heap.size, 0, none⟩) 2 2), .int .i64 (k : Int), .slice (some ⟨w2.heap.size, 0, none⟩) k 2, undef], defers := [] } W := by
  intro W  hE 
  refine wpAnyH_ready (rs := [4, 6, 7]) (by rw [hO.out]; kernel_rfl) (by simp) ?_
  refine AllReadyH.cons (by rw [hO.out]; rfl) (fun K hK => ?_) (AllReadyH.cons (by rw [hO.out]; rfl) (fun K hK => ?_) (AllReadyH.cons (by rw [hO.out]; rfl) (fun K hK => ?_) (AllReadyH.nil)))
  ·
   go_simp
   refine (between_c 2 2 _).mono ?_
   rintro e w9 ⟨rfl, hE8⟩
   have hE9 := hE.trans hE8
   refine hK.out _ _ trivial (fun _ => ?_)
   (try simp only [Act.put, List.setIfInBounds_toArray, List.set_cons_zero, List.set_cons_succ])
   exact N_0_1_2_3_4 _  hE9 
  ·
   go_simp
   generalize hW9 : World.alloc W _ = w9
   have hs9 := sl_lit W 3 [0, 2, 0, 1, 0] 5 #[.int .i64 0, .int .i64 2, .int .i64 0, .int .i64 1, .int .i64 0] rfl (by omega) (ics_len _) rfl
   rw [hW9] at hs9
   have hE8 : Ev W w9 := by rw [← hW9]; exact Ev.alloc (Ev.refl _) _
   have hE9 := hE.trans hE8
   have hWz := hE.size
   refine hK.out _ _ trivial (fun _ => ?_)
   (try simp only [Act.put, List.setIfInBounds_toArray, List.set_cons_zero, List.set_cons_succ])
   exact N_0_1_2_3_6 _ _ hE9 (hid ⟨hs9, hWz⟩)
  ·
   go_simp
   generalize hW9 : World.alloc W _ = w9
   have hs9 := sl_lit W 3 [20, 15] 2 #[.int .i64 20, .int .i64 15] rfl (by omega) (ics_len _) rfl
   rw [hW9] at hs9
   have hE8 : Ev W w9 := by rw [← hW9]; exact Ev.alloc (Ev.refl _) _
   have hE9 := hE.trans hE8
   have hWz := hE.size
   refine hK.out _ _ trivial (fun _ => ?_)
   (try simp only [Act.put, List.setIfInBounds_toArray, List.set_cons_zero, List.set_cons_succ])
   exact N_0_1_2_3_7 _ _ hE9 (hid ⟨hs9, hWz⟩)
 have N_0_1_7 : ∀ (W : World) (p7 : Nat), Ev W0 W → Hid (SlAt W0 ics 1 W p7 2 [20, 15]) → wpAnyH Try.prog .any O q (fun _ => True) 7 #[true, true, false, false, false, false, false, true, true, true, true, false, false] { tmps := #[.int .i64 (k : Int), undef, .pointer (some ⟨w.heap.size, 0, none⟩), (.slice (some ⟨w2.heap.size, 0, none⟩) 2 2), .agg #[.int .i64 25, .int .i64 25], .agg #[.int .i64 2, .int .i64 25, .int .i64 25], .agg #[.int .i64 18, .int .i64 18], .agg #[.int .i64 1, .int .i64 18, .int .i64 18], (.slice (some ⟨w2.heap.size, 0, none⟩) 2 2), .agg #[.int .i64 10, .int .i64 12], .agg #[.int .i64 8, .int .i64 8], undef, undef, undef, undef, undef, .slice (some ⟨p7, 0, none⟩) 2 2, (.slice (some ⟨w2.heap.size, 0, none⟩) 2 2), .int .i64 (k : Int), .slice (some ⟨w2.heap.size, 0, none⟩) k 2, undef], defers := [] } W := by
  intro W p7 hE h7_0
  refine wpAnyH_ready (rs := [2, 6]) (by rw [hO.out]; kernel_rfl) (by simp) ?_
  refine AllReadyH.cons (by rw [hO.out]; rfl) (fun K hK => ?_) (AllReadyH.cons (by rw [hO.out]; rfl) (fun K hK => ?_) (AllReadyH.nil))
  ·
   go_simp
   refine (between_c 6 6 _).mono ?_
   rintro e w9 ⟨rfl, hE8⟩
   have hE9 := hE.trans hE8
   refine hK.out _ _ trivial (fun _ => ?_)
   (try simp only [Act.put, List.setIfInBounds_toArray, List.set_cons_zero, List.set_cons_succ])
   exact N_0_1_2_7 _ p7 hE9 (hid (h7_0.out.ev hE8))
  ·
   go_simp
   generalize hW9 : World.alloc W _ = w9
   have hs9 := sl_lit W 3 [0, 2, 0, 1, 0] 5 #[.int .i64 0, .int .i64 2, .int .i64 0, .int .i64 1, .int .i64 0] rfl (by omega) (ics_len _) rfl
   rw [hW9] at hs9
   have hE8 : Ev W w9 := by rw [← hW9]; exact Ev.alloc (Ev.refl _) _
   have hE9 := hE.trans hE8
   have hWz := hE.size
   refine hK.out _ _ trivial (fun _ => ?_)
   (try simp only [Act.put, List.setIfInBounds_toArray, List.set_cons_zero, List.set_cons_succ])
   exact N_0_1_6_7 _ _ p7 hE9 (hid ⟨hs9, hWz⟩) (hid (h7_0.out.ev hE8))
 have N_0_1_2 : ∀ (W : World), Ev W0 W → wpAnyH Try.prog .any O q (fun _ => True) 7 #[true, true, true, false, false, false, false, false, true, true, true, false, false] { tmps := #[.int .i64 (k : Int), undef, .pointer (some ⟨w.heap.size, 0, none⟩), (.slice (some ⟨w2.heap.size, 0, none⟩) 2 2), .agg #[.int .i64 25, .int .i64 25], .agg #[.int .i64 2, .int .i64 25, .int .i64 25], .agg #[.int .i64 18, .int .i64 18], .agg #[.int .i64 1, .int .i64 18, .int .i64 18], (.slice (some ⟨w2.heap.size, 0, none⟩) 2 2), .agg #[.int .i64 10, .int .i64 12], .agg #[.int .i64 8, .int .i64 8], .agg #[.int .i64 6, .int .i64 6], undef, undef, undef, undef, undef, (.slice (some ⟨w2.heap.size, 0, none⟩) 2 2), .int .i64 (k : Int), .slice (some ⟨w2.heap.size, 0, none⟩) k 2, undef], defers := [] } W := by
  intro W  hE 
  refine wpAnyH_ready (rs := [3, 6, 7]) (by rw [hO.out]; kernel_rfl) (by simp) ?_
  refine AllReadyH.cons (by rw [hO.out]; rfl) (fun K hK => ?_) (AllReadyH.cons (by rw [hO.out]; rfl) (fun K hK => ?_) (AllReadyH.cons (by rw [hO.out]; rfl) (fun K hK => ?_) (AllReadyH.nil)))
  ·
   go_simp
   refine (between_c 4 5 _).mono ?_
   rintro e w9 ⟨rfl, hE8⟩
   have hE9 := hE.trans hE8
   refine hK.out _ _ trivial (fun _ => ?_)
   (try simp only [Act.put, List.setIfInBounds_toArray, List.set_cons_zero, List.set_cons_succ])
   exact N_0_1_2_3 _  hE9 
  ·
   go_simp
   generalize hW9 : World.alloc W _ = w9
   have hs9 := sl_lit W 3 [0, 2, 0, 1, 0] 5 #[.int .i64 0, .int .i64 2, .int .i64 0, .int .i64 1, .int .i64 0] rfl (by omega) (ics_len _) rfl
   rw [hW9] at hs9
   have hE8 : Ev W w9 := by rw [← hW9]; exact Ev.alloc (Ev.refl _) _
   have hE9 := hE.trans hE8
   have hWz := hE.size
   refine hK.out _ _ trivial (fun _ => ?_)
   (try simp only [Act.put, List.setIfInBounds_toArray, List.set_cons_zero, List.set_cons_succ])
   exact N_0_1_2_6 _ _ hE9 (hid ⟨hs9, hWz⟩)
  ·
   go_simp
   generalize hW9 : World.alloc W _ = w9
   have hs9 := sl_lit W 3 [20, 15] 2 #[.int .i64 20, .int .i64 15] rfl (by omega) (ics_len _) rfl
   rw [hW9] at hs9
   have hE8 : Ev W w9 := by rw [← hW9]; exact Ev.alloc (Ev.refl _) _
   have hE9 := hE.trans hE8
   have hWz := hE.size
   refine hK.out _ _ trivial (fun _ => ?_)
   (try simp only [Act.put, List.setIfInBounds_toArray, List.set_cons_zero, List.set_cons_succ])
   exact N_0_1_2_7 _ _ hE9 (hid ⟨hs9, hWz⟩)
 have N_0_1_6 : ∀ (W : World) (p6 : Nat), Ev W0 W → Hid (SlAt W0 ics 1 W p6 5 [0, 2, 0, 1, 0]) → wpAnyH Try.prog .any O q (fun _ => True) 7 #[true, true, false, false, false, false, true, false, true, true, true, false, false] { tmps := #[.int .i64 (k : Int), undef, .pointer (some ⟨w.heap.size, 0, none⟩), (.slice (some ⟨w2.heap.size, 0, none⟩) 2 2), .agg #[.int .i64 25, .int .i64 25], .agg #[.int .i64 2, .int .i64 25, .int .i64 25], .agg #[.int .i64 18, .int .i64 18], .agg #[.int .i64 1, .int .i64 18, .int .i64 18], (.slice (some ⟨w2.heap.size, 0, none⟩) 2 2), .agg #[.int .i64 10, .int .i64 12], .agg #[.int .i64 8, .int .i64 8], undef, undef, undef, undef, .slice (some ⟨p6, 0, none⟩) 5 5, undef, (.slice (some ⟨w2.heap.size, 0, none⟩) 2 2), .int .i64 (k : Int), .slice (some ⟨w2.heap.size, 0, none⟩) k 2, undef], defers := [] } W := by
  intro W p6 hE h6_0
  refine wpAnyH_ready (rs := [2, 7]) (by rw [hO.out]; kernel_rfl) (by simp) ?_
  refine AllReadyH.cons (by rw [hO.out]; rfl) (fun K hK => ?_) (AllReadyH.cons (by rw [hO.out]; rfl) (fun K hK => ?_) (AllReadyH.nil))
  ·
   go_simp
   refine (between_c 6 6 _).mono ?_
   rintro e w9 ⟨rfl, hE8⟩
   have hE9 := hE.trans hE8
   refine hK.out _ _ trivial (fun _ => ?_)
   (try simp only [Act.put, List.setIfInBounds_toArray, List.set_cons_zero, List.set_cons_succ])
   exact N_0_1_2_6 _ p6 hE9 (hid (h6_0.out.ev hE8))
  ·
   go_simp
   generalize hW9 : World.alloc W _ = w9
   have hs9 := sl_lit W 3 [20, 15] 2 #[.int .i64 20, .int .i64 15] rfl (by omega) (ics_len _) rfl
   rw [hW9] at hs9
   have hE8 : Ev W w9 := by rw [← hW9]; exact Ev.alloc (Ev.refl _) _
   have hE9 := hE.trans hE8
   have hWz := hE.size
   refine hK.out _ _ trivial (fun _ => ?_)
   (try simp only [Act.put, List.setIfInBounds_toArray, List.set_cons_zero, List.set_cons_succ])
   exact N_0_1_6_7 _ p6 _ hE9 (hid (h6_0.out.ev hE8)) (hid ⟨hs9, hWz⟩)
 have N_0_6_7 : ∀ (W : World) (p6 : Nat) (p7 : Nat), Ev W0 W → Hid (SlAt W0 ics 1 W p6 5 [0, 2, 0, 1, 0]) → Hid (SlAt W0 ics 1 W p7 2 [20, 15]) → wpAnyH Try.prog .any O q (fun _ => True) 7 #[true, false, false, false, false, false, true, true, true, true, true, false, false] { tmps := #[.int .i64 (k : Int), undef, .pointer (some ⟨w.heap.size, 0, none⟩), (.slice (some ⟨w2.heap.size, 0, none⟩) 2 2), .agg #[.int .i64 25, .int .i64 25], .agg #[.int .i64 2, .int .i64 25, .int .i64 25], .agg #[.int .i64 18, .int .i64 18], .agg #[.int .i64 1, .int .i64 18, .int .i64 18], (.slice (some ⟨w2.heap.size, 0, none⟩) 2 2), .agg #[.int .i64 10, .int .i64 12], undef, undef, undef, undef, undef, .slice (some ⟨p6, 0, none⟩) 5 5, .slice (some ⟨p7, 0, none⟩) 2 2, (.slice (some ⟨w2.heap.size, 0, none⟩) 2 2), .int .i64 (k : Int), .slice (some ⟨w2.heap.size, 0, none⟩) k 2, undef], defers := [] } W := by
  intro W p6 p7 hE h6_0 h7_0
  refine wpAnyH_ready (rs := [1]) (by rw [hO.out]; kernel_rfl) (by simp) ?_
  refine AllReadyH.cons (by rw [hO.out]; rfl) (fun K hK => ?_) (AllReadyH.nil)
  go_simp
  refine (between_c 8 8 _).mono ?_
  rintro e w9 ⟨rfl, hE8⟩
  have hE9 := hE.trans hE8
  refine hK.out _ _ trivial (fun _ => ?_)
  (try simp only [Act.put, List.setIfInBounds_toArray, List.set_cons_zero, List.set_cons_succ])
  exact N_0_1_6_7 _ p6 p7 hE9 (hid (h6_0.out.ev hE8)) (hid (h7_0.out.ev hE8))
 have N_0_6 : ∀ (W : World) (p6 : Nat), Ev W0 W → Hid (SlAt W0 ics 1 W p6 5 [0, 2, 0, 1, 0]) → wpAnyH Try.prog .any O q (fun _ => True) 8 #[true, false, false, false, false, false, true, false, true, true, true, false, false] { tmps := #[.int .i64 (k : Int), undef, .pointer (some ⟨w.heap.size, 0, none⟩), (.slice (some ⟨w2.heap.size, 0, none⟩) 2 2), .agg #[.int .i64 25, .int .i64 25], .agg #[.int .i64 2, .int .i64 25, .int .i64 25], .agg #[.int .i64 18, .int .i64 18], .agg #[.int .i64 1, .int .i64 18, .int .i64 18], (.slice (some ⟨w2.heap.size, 0, none⟩) 2 2), .agg #[.int .i64 10, .int .i64 12], undef, undef, undef, undef, undef, .slice (some ⟨p6, 0, none⟩) 5 5, undef, (.slice (some ⟨w2.heap.size, 0, none⟩) 2 2), .int .i64 (k : Int), .slice (some ⟨w2.heap.size, 0, none⟩) k 2, undef], defers := [] } W := by
  intro W p6 hE h6_0
  refine wpAnyH_ready (rs := [1, 7]) (by rw [hO.out]; kernel_rfl) (by simp) ?_
  refine AllReadyH.cons (by rw [hO.out]; rfl) (fun K hK => ?_) (AllReadyH.cons (by rw [hO.out]; rfl) (fun K hK => ?_) (AllReadyH.nil))
  ·
   go_simp
   refine (between_c 8 8 _).mono ?_
   rintro e w9 ⟨rfl, hE8⟩
   have hE9 := hE.trans hE8
   refine hK.out _ _ trivial (fun _ => ?_)
   (try simp only [Act.put, List.setIfInBounds_toArray, List.set_cons_zero, List.set_cons_succ])
   exact N_0_1_6 _ p6 hE9 (hid (h6_0.out.ev hE8))
  ·
   go_simp
   generalize hW9 : World.alloc W _ = w9
   have hs9 := sl_lit W 3 [20, 15] 2 #[.int .i64 20, .int .i64 15] rfl (by omega) (ics_len _) rfl
   rw [hW9] at hs9
   have hE8 : Ev W w9 := by rw [← hW9]; exact Ev.alloc (Ev.refl _) _
   have hE9 := hE.trans hE8
   have hWz := hE.size
   refine hK.out _ _ trivial (fun _ => ?_)
   (try simp only [Act.put, List.setIfInBounds_toArray, List.set_cons_zero, List.set_cons_succ])
   exact N_0_6_7 _ p6 _ hE9 (hid (h6_0.out.ev hE8)) (hid ⟨hs9, hWz⟩)
 have N_0_7 : ∀ (W : World) (p7 : Nat), Ev W0 W → Hid (SlAt W0 ics 1 W p7 2 [20, 15]) → wpAnyH Try.prog .any O q (fun _ => True) 8 #[true, false, false, false, false, false, false, true, true, true, true, false, false] { tmps := #[.int .i64 (k : Int), undef, .pointer (some ⟨w.heap.size, 0, none⟩), (.slice (some ⟨w2.heap.size, 0, none⟩) 2 2), .agg #[.int .i64 25, .int .i64 25], .agg #[.int .i64 2, .int .i64 25, .int .i64 25], .agg #[.int .i64 18, .int .i64 18], .agg #[.int .i64 1, .int .i64 18, .int .i64 18], (.slice (some ⟨w2.heap.size, 0, none⟩) 2 2), .agg #[.int .i64 10, .int .i64 12], undef, undef, undef, undef, undef, undef, .slice (some ⟨p7, 0, none⟩) 2 2, (.slice (some ⟨w2.heap.size, 0, none⟩) 2 2), .int .i64 (k : Int), .slice (some ⟨w2.heap.size, 0, none⟩) k 2, undef], defers := [] } W := by
  intro W p7 hE h7_0
  refine wpAnyH_ready (rs := [1, 6]) (by rw [hO.out]; kernel_rfl) (by simp) ?_
  refine AllReadyH.cons (by rw [hO.out]; rfl) (fun K hK => ?_) (AllReadyH.cons (by rw [hO.out]; rfl) (fun K hK => ?_) (AllReadyH.nil))
  ·
   go_simp
   refine (between_c 8 8 _).mono ?_
   rintro e w9 ⟨rfl, hE8⟩
   have hE9 := hE.trans hE8
   refine hK.out _ _ trivial (fun _ => ?_)
   (try simp only [Act.put, List.setIfInBounds_toArray, List.set_cons_zero, List.set_cons_succ])
   exact N_0_1_7 _ p7 hE9 (hid (h7_0.out.ev hE8))
  ·
   go_simp
   generalize hW9 : World.alloc W _ = w9
   have hs9 := sl_lit W 3 [0, 2, 0, 1, 0] 5 #[.int .i64 0, .int .i64 2, .int .i64 0, .int .i64 1, .int .i64 0] rfl (by omega) (ics_len _) rfl
   rw [hW9] at hs9
   have hE8 : Ev W w9 := by rw [← hW9]; exact Ev.alloc (Ev.refl _) _
   have hE9 := hE.trans hE8
   have hWz := hE.size
   refine hK.out _ _ trivial (fun _ => ?_)
   (try simp only [Act.put, List.setIfInBounds_toArray, List.set_cons_zero, List.set_cons_succ])
   exact N_0_6_7 _ _ p7 hE9 (hid ⟨hs9, hWz⟩) (hid (h7_0.out.ev hE8))
 have N_6_7 : ∀ (W : World) (p6 : Nat) (p7 : Nat), Ev W0 W → Hid (SlAt W0 ics 1 W p6 5 [0, 2, 0, 1, 0]) → Hid (SlAt W0 ics 1 W p7 2 [20, 15]) → wpAnyH Try.prog .any O q (fun _ => True) 8 #[false, false, false, false, false, false, true, true, true, true, true, false, false] { tmps := #[.int .i64 (k : Int), undef, .pointer (some ⟨w.heap.size, 0, none⟩), (.slice (some ⟨w2.heap.size, 0, none⟩) 2 2), .agg #[.int .i64 25, .int .i64 25], .agg #[.int .i64 2, .int .i64 25, .int .i64 25], .agg #[.int .i64 18, .int .i64 18], .agg #[.int .i64 1, .int .i64 18, .int .i64 18], (.slice (some ⟨w2.heap.size, 0, none⟩) 2 2), undef, undef, undef, undef, undef, undef, .slice (some ⟨p6, 0, none⟩) 5 5, .slice (some ⟨p7, 0, none⟩) 2 2, (.slice (some ⟨w2.heap.size, 0, none⟩) 2 2), .int .i64 (k : Int), .slice (some ⟨w2.heap.size, 0, none⟩) k 2, undef], defers := [] } W := by
  intro W p6 p7 hE h6_0 h7_0
  refine wpAnyH_ready (rs := [0]) (by rw [hO.out]; kernel_rfl) (by simp) ?_
  refine AllReadyH.cons (by rw [hO.out]; rfl) (fun K hK => ?_) (AllReadyH.nil)
  go_simp
  refine (between_c 10 12 _).mono ?_
  rintro e w9 ⟨rfl, hE8⟩
  have hE9 := hE.trans hE8
  refine hK.out _ _ trivial (fun _ => ?_)
  (try simp only [Act.put, List.setIfInBounds_toArray, List.set_cons_zero, List.set_cons_succ])
  exact N_0_6_7 _ p6 p7 hE9 (hid (h6_0.out.ev hE8)) (hid (h7_0.out.ev hE8))
 have N_0_1 : ∀ (W : World), Ev W0 W → wpAnyH Try.prog .any O q (fun _ => True) 8 #[true, true, false, false, false, false, false, false, true, true, true, false, false] { tmps := #[.int .i64 (k : Int), undef, .pointer (some ⟨w.heap.size, 0, none⟩), (.slice (some ⟨w2.heap.size, 0, none⟩) 2 2), .agg #[.int .i64 25, .int .i64 25], .agg #[.int .i64 2, .int .i64 25, .int .i64 25], .agg #[.int .i64 18, .int .i64 18], .agg #[.int .i64 1, .int .i64 18, .int .i64 18], (.slice (some ⟨w2.heap.size, 0, none⟩) 2 2), .agg #[.int .i64 10, .int .i64 12], .agg #[.int .i64 8, .int .i64 8], undef, undef, undef, undef, undef, undef, (.slice (some ⟨w2.heap.size, 0, none⟩) 2 2), .int .i64 (k : Int), .slice (some ⟨w2.heap.size, 0, none⟩) k 2, undef], defers := [] } W := by
  intro W  hE 
  refine wpAnyH_ready (rs := [2, 6, 7]) (by rw [hO.out]; kernel_rfl) (by simp) ?_
  refine AllReadyH.cons (by rw [hO.out]; rfl) (fun K hK => ?_) (AllReadyH.cons (by rw [hO.out]; rfl) (fun K hK => ?_) (AllReadyH.cons (by rw [hO.out]; rfl) (fun K hK => ?_) (AllReadyH.nil)))
  ·
   go_simp
   refine (between_c 6 6 _).mono ?_
   rintro e w9 ⟨rfl, hE8⟩
   have hE9 := hE.trans hE8
   refine hK.out _ _ trivial (fun _ => ?_)
   (try simp only [Act.put, List.setIfInBounds_toArray, List.set_cons_zero, List.set_cons_succ])
   exact N_0_1_2 _  hE9 
  ·
   go_simp
   generalize hW9 : World.alloc W _ = w9
   have hs9 := sl_lit W 3 [0, 2, 0, 1, 0] 5 #[.int .i64 0, .int .i64 2, .int .i64 0, .int .i64 1, .int .i64 0] rfl (by omega) (ics_len _) rfl
   rw [hW9] at hs9
   have hE8 : Ev W w9 := by rw [← hW9]; exact Ev.alloc (Ev.refl _) _
   have hE9 := hE.trans hE8
   have hWz := hE.size
   refine hK.out _ _ trivial (fun _ => ?_)
   (try simp only [Act.put, List.setIfInBounds_toArray, List.set_cons_zero, List.set_cons_succ])
   exact N_0_1_6 _ _ hE9 (hid ⟨hs9, hWz⟩)
  ·
   go_simp
   generalize hW9 : World.alloc W _ = w9
   have hs9 := sl_lit W 3 [20, 15] 2 #[.int .i64 20, .int .i64 15] rfl (by omega) (ics_len _) rfl
   rw [hW9] at hs9
   have hE8 : Ev W w9 := by rw [← hW9]; exact Ev.alloc (Ev.refl _) _
   have hE9 := hE.trans hE8
   have hWz := hE.size
   refine hK.out _ _ trivial (fun _ => ?_)
   (try simp only [Act.put, List.setIfInBounds_toArray, List.set_cons_zero, List.set_cons_succ])
   exact N_0_1_7 _ _ hE9 (hid ⟨hs9, hWz⟩)
 have N_7 : ∀ (W : World) (p7 : Nat), Ev W0 W → Hid (SlAt W0 ics 1 W p7 2 [20, 15]) → wpAnyH Try.prog .any O q (fun _ => True) 9 #[false, false, false, false, false, false, false, true, true, true, true, false, false] { tmps := #[.int .i64 (k : Int), undef, .pointer (some ⟨w.heap.size, 0, none⟩), (.slice (some ⟨w2.heap.size, 0, none⟩) 2 2), .agg #[.int .i64 25, .int .i64 25], .agg #[.int .i64 2, .int .i64 25, .int .i64 25], .agg #[.int .i64 18, .int .i64 18], .agg #[.int .i64 1, .int .i64 18, .int .i64 18], (.slice (some ⟨w2.heap.size, 0, none⟩) 2 2), undef, undef, undef, undef, undef, undef, undef, .slice (some ⟨p7, 0, none⟩) 2 2, (.slice (some ⟨w2.heap.size, 0, none⟩) 2 2), .int .i64 (k : Int), .slice (some ⟨w2.heap.size, 0, none⟩) k 2, undef], defers := [] } W := by
  intro W p7 hE h7_0
  refine wpAnyH_ready (rs := [0, 6]) (by rw [hO.out]; kernel_rfl) (by simp) ?_
  refine AllReadyH.cons (by rw [hO.out]; rfl) (fun K hK => ?_) (AllReadyH.cons (by rw [hO.out]; rfl) (fun K hK => ?_) (AllReadyH.nil))
  ·
   go_simp
   refine (between_c 10 12 _).mono ?_
   rintro e w9 ⟨rfl, hE8⟩
   have hE9 := hE.trans hE8
   refine hK.out _ _ trivial (fun _ => ?_)
   (try simp only [Act.put, List.setIfInBounds_toArray, List.set_cons_zero, List.set_cons_succ])
   exact N_0_7 _ p7 hE9 (hid (h7_0.out.ev hE8))
  ·
   go_simp
   generalize hW9 : World.alloc W _ = w9
   have hs9 := sl_lit W 3 [0, 2, 0, 1, 0] 5 #[.int .i64 0, .int .i64 2, .int .i64 0, .int .i64 1, .int .i64 0] rfl (by omega) (ics_len _) rfl
   rw [hW9] at hs9
   have hE8 : Ev W w9 := by rw [← hW9]; exact Ev.alloc (Ev.refl _) _
   have hE9 := hE.trans hE8
   have hWz := hE.size
   refine hK.out _ _ trivial (fun _ => ?_)
   (try simp only [Act.put, List.setIfInBounds_toArray, List.set_cons_zero, List.set_cons_succ])
   exact N_6_7 _ _ p7 hE9 (hid ⟨hs9, hWz⟩) (hid (h7_0.out.ev hE8))
 have N_6 : ∀ (W : World) (p6 : Nat), Ev W0 W → Hid (SlAt W0 ics 1 W p6 5 [0, 2, 0, 1, 0]) → wpAnyH Try.prog .any O q (fun _ => True) 9 #[false, false, false, false, false, false, true, false, true, true, true, false, false] { tmps := #[.int .i64 (k : Int), undef, .pointer (some ⟨w.heap.size, 0, none⟩), (.slice (some ⟨w2.heap.size, 0, none⟩) 2 2), .agg #[.int .i64 25, .int .i64 25], .agg #[.int .i64 2, .int .i64 25, .int .i64 25], .agg #[.int .i64 18, .int .i64 18], .agg #[.int .i64 1, .int .i64 18, .int .i64 18], (.slice (some ⟨w2.heap.size, 0, none⟩) 2 2), undef, undef, undef, undef, undef, undef, .slice (some ⟨p6, 0, none⟩) 5 5, undef, (.slice (some ⟨w2.heap.size, 0, none⟩) 2 2), .int .i64 (k : Int), .slice (some ⟨w2.heap.size, 0, none⟩) k 2, undef], defers := [] } W := by
  intro W p6 hE h6_0
  refine wpAnyH_ready (rs := [0, 7]) (by rw [hO.out]; kernel_rfl) (by simp) ?_
  refine AllReadyH.cons (by rw [hO.out]; rfl) (fun K hK => ?_) (AllReadyH.cons (by rw [hO.out]; rfl) (fun K hK => ?_) (AllReadyH.nil))
  ·
   go_simp
   refine (between_c 10 12 _).mono ?_
   rintro e w9 ⟨rfl, hE8⟩
   have hE9 := hE.trans hE8
   refine hK.out _ _ trivial (fun _ => ?_)
   (try simp only [Act.put, List.setIfInBounds_toArray, List.set_cons_zero, List.set_cons_succ])
   exact N_0_6 _ p6 hE9 (hid (h6_0.out.ev hE8))
  ·
   go_simp
   generalize hW9 : World.alloc W _ = w9
   have hs9 := sl_lit W 3 [20, 15] 2 #[.int .i64 20, .int .i64 15] rfl (by omega) (ics_len _) rfl
   rw [hW9] at hs9
   have hE8 : Ev W w9 := by rw [← hW9]; exact Ev.alloc (Ev.refl _) _
   have hE9 := hE.trans hE8
   have hWz := hE.size
   refine hK.out _ _ trivial (fun _ => ?_)
   (try simp only [Act.put, List.setIfInBounds_toArray, List.set_cons_zero, List.set_cons_succ])
   exact N_6_7 _ p6 _ hE9 (hid (h6_0.out.ev hE8)) (hid ⟨hs9, hWz⟩)
 have N_0 : ∀ (W : World), Ev W0 W → wpAnyH Try.prog .any O q (fun _ => True) 9 #[true, false, false, false, false, false, false, false, true, true, true, false, false] { tmps := #[.int .i64 (k : Int), undef, .pointer (some ⟨w.heap.size, 0, none⟩), (.slice (some ⟨w2.heap.size, 0, none⟩) 2 2), .agg #[.int .i64 25, .int .i64 25], .agg #[.int .i64 2, .int .i64 25, .int .i64 25], .agg #[.int .i64 18, .int .i64 18], .agg #[.int .i64 1, .int .i64 18, .int .i64 18], (.slice (some ⟨w2.heap.size, 0, none⟩) 2 2), .agg #[.int .i64 10, .int .i64 12], undef, undef, undef, undef, undef, undef, undef, (.slice (some ⟨w2.heap.size, 0, none⟩) 2 2), .int .i64 (k : Int), .slice (some ⟨w2.heap.size, 0, none⟩) k 2, undef], defers := [] } W := by
  intro W  hE 
  refine wpAnyH_ready (rs := [1, 6, 7]) (by rw [hO.out]; kernel_rfl) (by simp) ?_
  refine AllReadyH.cons (by rw [hO.out]; rfl) (fun K hK => ?_) (AllReadyH.cons (by rw [hO.out]; rfl) (fun K hK => ?_) (AllReadyH.cons (by rw [hO.out]; rfl) (fun K hK => ?_) (AllReadyH.nil)))
  ·
   go_simp
   refine (between_c 8 8 _).mono ?_
   rintro e w9 ⟨rfl, hE8⟩
   have hE9 := hE.trans hE8
   refine hK.out _ _ trivial (fun _ => ?_)
   (try simp only [Act.put, List.setIfInBounds_toArray, List.set_cons_zero, List.set_cons_succ])
   exact N_0_1 _  hE9 
  ·
   go_simp
   generalize hW9 : World.alloc W _ = w9
   have hs9 := sl_lit W 3 [0, 2, 0, 1, 0] 5 #[.int .i64 0, .int .i64 2, .int .i64 0, .int .i64 1, .int .i64 0] rfl (by omega) (ics_len _) rfl
   rw [hW9] at hs9
   have hE8 : Ev W w9 := by rw [← hW9]; exact Ev.alloc (Ev.refl _) _
   have hE9 := hE.trans hE8
   have hWz := hE.size
   refine hK.out _ _ trivial (fun _ => ?_)
   (try simp only [Act.put, List.setIfInBounds_toArray, List.set_cons_zero, List.set_cons_succ])
   exact N_0_6 _ _ hE9 (hid ⟨hs9, hWz⟩)
  ·
   go_simp
   generalize hW9 : World.alloc W _ = w9
   have hs9 := sl_lit W 3 [20, 15] 2 #[.int .i64 20, .int .i64 15] rfl (by omega) (ics_len _) rfl
   rw [hW9] at hs9
   have hE8 : Ev W w9 := by rw [← hW9]; exact Ev.alloc (Ev.refl _) _
   have hE9 := hE.trans hE8
   have hWz := hE.size
   refine hK.out _ _ trivial (fun _ => ?_)
   (try simp only [Act.put, List.setIfInBounds_toArray, List.set_cons_zero, List.set_cons_succ])
   exact N_0_7 _ _ hE9 (hid ⟨hs9, hWz⟩)
 have N_0 : ∀ (W : World), Ev W0 W → wpAnyH Try.prog .any O q (fun _ => True) 10 #[false, false, false, false, false, false, false, false, true, true, true, false, false] { tmps := #[.int .i64 (k : Int), undef, .pointer (some ⟨w.heap.size, 0, none⟩), (.slice (some ⟨w2.heap.size, 0, none⟩) 2 2), .agg #[.int .i64 25, .int .i64 25], .agg #[.int .i64 2, .int .i64 25, .int .i64 25], .agg #[.int .i64 18, .int .i64 18], .agg #[.int .i64 1, .int .i64 18, .int .i64 18], (.slice (some ⟨w2.heap.size, 0, none⟩) 2 2), undef, undef, undef, undef, undef, undef, undef, undef, (.slice (some ⟨w2.heap.size, 0, none⟩) 2 2), .int .i64 (k : Int), .slice (some ⟨w2.heap.size, 0, none⟩) k 2, undef], defers := [] } W := by
  intro W  hE 
  refine wpAnyH_ready (rs := [0, 6, 7]) (by rw [hO.out]; kernel_rfl) (by simp) ?_
  refine AllReadyH.cons (by rw [hO.out]; rfl) (fun K hK => ?_) (AllReadyH.cons (by rw [hO.out]; rfl) (fun K hK => ?_) (AllReadyH.cons (by rw [hO.out]; rfl) (fun K hK => ?_) (AllReadyH.nil)))
  ·
   go_simp
   refine (between_c 10 12 _).mono ?_
   rintro e w9 ⟨rfl, hE8⟩
   have hE9 := hE.trans hE8
   refine hK.out _ _ trivial (fun _ => ?_)
   (try simp only [Act.put, List.setIfInBounds_toArray, List.set_cons_zero, List.set_cons_succ])
   exact N_0 _  hE9 
  ·
   go_simp
   generalize hW9 : World.alloc W _ = w9
   have hs9 := sl_lit W 3 [0, 2, 0, 1, 0] 5 #[.int .i64 0, .int .i64 2, .int .i64 0, .int .i64 1, .int .i64 0] rfl (by omega) (ics_len _) rfl
   rw [hW9] at hs9
   have hE8 : Ev W w9 := by rw [← hW9]; exact Ev.alloc (Ev.refl _) _
   have hE9 := hE.trans hE8
   have hWz := hE.size
   refine hK.out _ _ trivial (fun _ => ?_)
   (try simp only [Act.put, List.setIfInBounds_toArray, List.set_cons_zero, List.set_cons_succ])
   exact N_6 _ _ hE9 (hid ⟨hs9, hWz⟩)
  ·
   go_simp
   generalize hW9 : World.alloc W _ = w9
   have hs9 := sl_lit W 3 [20, 15] 2 #[.int .i64 20, .int .i64 15] rfl (by omega) (ics_len _) rfl
   rw [hW9] at hs9
   have hE8 : Ev W w9 := by rw [← hW9]; exact Ev.alloc (Ev.refl _) _
   have hE9 := hE.trans hE8
   have hWz := hE.size
   refine hK.out _ _ trivial (fun _ => ?_)
   (try simp only [Act.put, List.setIfInBounds_toArray, List.set_cons_zero, List.set_cons_succ])
   exact N_7 _ _ hE9 (hid ⟨hs9, hWz⟩)
 exact N_0 _ (Ev.drew (Ev.refl _))

end Go.Proofs.Ytffbkbcjddigdaa
