import Derived.Test.YtcecmphdmpeibaaL38
set_option linter.unusedSimpArgs false
set_option linter.unusedVariables false
namespace Go.Proofs.Ytcecmphdmpeibaa
open Go.RowKit

set_option maxRecDepth 100000 in
set_option maxHeartbeats 8000000 in
theorem weedMore_c (f : M.Fl) (t : M.Tl) (A : Option Addr) (n c : Nat) (a b : Int) (a0 : 0 ≤ a) (a1 : a < 256) (b0 : 0 ≤ b) (b1 : b < 256) (hnc : n ≤ c) (hn : n ≤ 3518437208782) (w : World) (hs : Sl0 tcs 5 w w.heap.size A n f.ts) :
    Calls Try.prog 14 #[.agg #[.int .i64 f.rows, .int .i64 f.wds, .int .i64 f.lf.lo, .int .i64 f.lf.hi, .slice A n c], .agg #[.int .i64 t.wd, .int .i64 t.fr, .int .i64 t.to, .int .i64 t.ct.lo, .int .i64 t.ct.hi], .int .u8 a, .int .u8 b] w fun e w' => e = .returned (.bool true) ∧ Ev w w' := by
  obtain ⟨i0, hi0, hz0, hz1, hz2⟩ := info_parts info90
  have hln := hs.len
  go_enter Try.func14, Try.ntmps14
  go_upto_region 1 with fail
  generalize hW0 : World.alloc (World.alloc w _) _ = W0
  have hE0 : Ev w W0 := by rw [← hW0]; exact Ev.alloc (Ev.alloc (Ev.refl _) _) _
  have hal := alloc2 w (.cells #[.int .i64 f.rows, .int .i64 f.wds, .int .i64 f.lf.lo, .int .i64 f.lf.hi, .slice A n c] 26) (.cells #[.int .i64 t.wd, .int .i64 t.fr, .int .i64 t.to, .int .i64 t.ct.lo, .int .i64 t.ct.hi] 90)
  rw [hW0] at hal
  have Q0 := hid hal.1
  have Q1 := hid hal.2.1
  have HZ0 := hid hal.2.2
  clear hal hW0
  obtain ⟨q0, q1, q2, q3, q4⟩ := cells5 Q0.out
  have hlq := heap_lt Q0.out
  go_upto_region 2 with fail
  generalize hW2 : World.alloc W0 _ = W2
  have hE2 : Ev W0 W2 := by rw [← hW2]; exact Ev.alloc (Ev.refl _) _
  have hal := alloc1 W0 (.cells #[.int .i64 f.rows, .int .i64 f.wds, .int .i64 f.lf.lo, .int .i64 f.lf.hi, .slice A n c] 26)
  rw [hW2] at hal
  have HC2 := hid hal.1
  have HZ2 := hal.2
  have Q0c := hid (hE2.heap Q0.out)
  have Q1c := hid (hE2.heap Q1.out)
  have HEW := hid (hE0.trans hE2)
  have hzz := HZ0.out
  have hpa : w.heap.size + 2 ≤ W0.heap.size := by omega
  have hpb : W0.heap.size + 1 ≤ W2.heap.size := by omega
  clear hW2 hal hE2 Q0 Q1 q0 q1 q2 q3 q4 HZ0 hE0 hlq hzz HZ2
  generalize W0.heap.size = p at *
  obtain ⟨q0, q1, q2, q3, q4⟩ := cells5 Q0c.out
  obtain ⟨y0, y1, y2, y3, y4⟩ := cells5 Q1c.out
  have HS := hid hs
  have hlq : w.heap.size < W2.heap.size := by omega
  have hlq1 : w.heap.size + 1 < W2.heap.size := by omega
  have HSE : Hid (∀ w', Ev W2 w' → (∀ o, w'.cell? ⟨w.heap.size, o, none⟩ = W2.cell? ⟨w.heap.size, o, none⟩) ∧ (∀ o, w'.cell? ⟨w.heap.size + 1, o, none⟩ = W2.cell? ⟨w.heap.size + 1, o, none⟩)) := hid (fun w' h => ⟨fun o => h.cells.1 _ o hlq, fun o => h.cells.1 _ o hlq1⟩)
  clear hs
  go_cut [8] (fun v W1 => v = .bool false ∧ ∃ V : Option Addr, ∃ cc : Nat, Ev w W1 ∧ W1.heap[w.heap.size]? = some (.cells #[.int .i64 f.rows, .int .i64 f.wds, .int .i64 f.lf.lo, .int .i64 f.lf.hi, .slice A n c] 26 (0, 0)) ∧ W1.heap[p]? = some (.cells #[.int .i64 f.rows, .int .i64 f.wds, .int .i64 f.lf.lo, .int .i64 f.lf.hi, .slice V (n + 1) cc] 26 (0, 0)) ∧ (n ≤ 7 → Sl tcs 5 W1 W1.heap.size V (n + 1) cc (f.ts ++ [t])))
  case first =>
    refine wp_region_held_drew (S := fun w' => (∀ o, w'.cell? ⟨w.heap.size, o, none⟩ = W2.cell? ⟨w.heap.size, o, none⟩) ∧ (∀ o, w'.cell? ⟨w.heap.size + 1, o, none⟩ = W2.cell? ⟨w.heap.size + 1, o, none⟩)) (by kernel_rfl) ⟨fun o => rfl, fun o => rfl⟩ (fun hHeld => ?_)
    refine wpAnyH_take (i := 1) (v := ?_) rfl (by kernel_rfl) (by kernel_rfl) (by kernel_rfl) (fun _ _ _ h => h) (Or.inl ⟨by rfl, ?hy⟩) (by assumption) ?_
    case hy => (intro w hSw; (try dsimp only at hSw); go_simp; with_reducible rfl)
    (try simp only [Act.put, List.setIfInBounds_toArray, List.set_cons_zero, List.set_cons_succ])
    refine wpAnyH_take (i := 2) (v := ?_) rfl (by kernel_rfl) (by kernel_rfl) (by kernel_rfl) (fun _ _ _ h => h) (Or.inl ⟨by rfl, ?hy⟩) (by assumption) ?_
    case hy => (intro w hSw; (try dsimp only at hSw); go_simp; with_reducible rfl)
    (try simp only [Act.put, List.setIfInBounds_toArray, List.set_cons_zero, List.set_cons_succ])
    refine wpAnyH_take (i := 4) (v := ?_) rfl (by kernel_rfl) (by kernel_rfl) (by kernel_rfl) (fun _ _ _ h => h) (Or.inl ⟨by rfl, ?hy⟩) (by assumption) ?_
    case hy => (intro w hSw; (try dsimp only at hSw); go_simp; with_reducible rfl)
    (try simp only [Act.put, List.setIfInBounds_toArray, List.set_cons_zero, List.set_cons_succ])
    refine wpAnyH_ready (rs := [0, 5]) (by kernel_rfl) (by simp) ?_
    refine AllReadyH.cons rfl (fun K hK => ?_) (AllReadyH.cons rfl (fun K hK => ?_) AllReadyH.nil)
    · go_simp
      refine hK.out _ _ (HSE.out _ (Ev.alloc (Ev.drew (Ev.refl W2)) _)) (fun hHeld => ?_)
      clear hK K
      (try simp only [Act.put, List.setIfInBounds_toArray, List.set_cons_zero, List.set_cons_succ])
      refine wpAnyH_ready (rs := [3, 5]) (by kernel_rfl) (by simp) ?_
      refine AllReadyH.cons rfl (fun K hK => ?_) (AllReadyH.cons rfl (fun K hK => ?_) AllReadyH.nil)
      · have hEA := hid (Ev.alloc (Ev.drew (Ev.refl W2)) (.cells #[] 90))
        refine step_append_any (enc := tcs) rfl (.tmp 37) (.tmp 39) 24 rfl W2.heap.size 90 i0 _ 5 40 Try.underlying24 hi0 hz0 hz1 hz2 rfl (by decide) _ 0 [] rfl ((World.ownsRow_lit W2 #[] 0 (Nat.le_refl _) (by decide) rfl).ev (by repeat (first | exact Ev.refl _ | refine Ev.drew ?_ | refine Ev.alloc ?_ _))) A n c f.ts _ rfl (HS.out.ev (HEW.out.trans (by repeat (first | exact Ev.refl _ | refine Ev.drew ?_ | refine Ev.alloc ?_ _)))) (tcs_len _) (tcs_one _) (by unfold maxLen; omega) (by omega) (by first | (simp; done) | (simp; omega)) ?_
        intro v' w3 hown' hgrow
        have hown3 : w3.ownsRow W2.heap.size 90 5 v' n (f.ts.flatMap tcs) := (by simpa using hown')
        have HE3 := hid (Ev.grown (by repeat (first | exact Ev.refl _ | refine Ev.drew ?_ | refine Ev.alloc ?_ _)) hgrow (fun k e => by have e2 : some W2.heap.size = some k := e; simp at e2; omega) : Ev W2 w3)
        refine hK.out _ _ (HSE.out _ HE3.out) (fun hHeld => ?_)
        clear hK K
        (try simp only [Act.put, List.setIfInBounds_toArray, List.set_cons_zero, List.set_cons_succ])
        refine wpAnyH_ready (rs := [5]) (by kernel_rfl) (by simp) ?_
        refine AllReadyH.cons rfl (fun K hK => ?_) AllReadyH.nil
        go_simp
        refine hK.out _ _ (HSE.out _ (Ev.alloc HE3.out _)) (fun hHeld => ?_)
        clear hK K
        (try simp only [Act.put, List.setIfInBounds_toArray, List.set_cons_zero, List.set_cons_succ])
        refine wpAnyH_ready (rs := [6]) (by kernel_rfl) (by simp) ?_
        refine AllReadyH.cons rfl (fun K hK => ?_) AllReadyH.nil
        refine step_append_own rfl (.tmp 40) (.tmp 42) 24 rfl W2.heap.size 90 i0 _ 5 40 Try.underlying24 hi0 hz0 hz1 hz2 rfl (by decide) v' n (f.ts.flatMap tcs) rfl (hown3.alloc _) ⟨w3.heap.size, 0, none⟩ 1 1 [.int .i64 t.wd, .int .i64 t.fr, .int .i64 t.to, .int .i64 t.ct.lo, .int .i64 t.ct.hi] rfl rfl (news_in (alloc1 w3 _).1) (by simp [Value.oneCell']) (by unfold maxLen; omega) (by omega) (Nat.le_trans HE3.out.size (by first | exact Nat.le_refl _ | (simp; done) | (simp; omega))) ?_
        intro v2 w4 hown2 hgrow2 _
        have hown4 : w4.ownsRow W2.heap.size 90 5 v2 (n + 1) ((f.ts ++ [t]).flatMap tcs) := by rw [List.flatMap_append]; exact hown2
        obtain ⟨V, cc, rfl⟩ := own_form hown4
        have HE4 := hid (Ev.grown (Ev.alloc HE3.out _) hgrow2 (fun k e => (hown3.lt k e).1))
        have HX4 := hid (HE4.out.heap HC2.out)
        have HQ4 := hid (HE4.out.heap Q0c.out)
        clear hown2 hgrow2
        obtain ⟨y0, y1, y2, y3, y4⟩ := cells5 HX4.out
        obtain ⟨f0, f1, f2, f3, f4⟩ := frz5 HX4.out
        refine hK.out _ _ (HSE.out _ HE4.out) (fun hHeld => ?_)
        clear hK K
        (try simp only [Act.put, List.setIfInBounds_toArray, List.set_cons_zero, List.set_cons_succ])
        refine wpAnyH_take (i := 7) (v := ?_) rfl (by kernel_rfl) (by kernel_rfl) (by kernel_rfl) (fun _ _ _ h => h) (Or.inl ⟨by rfl, ?hy⟩) (by assumption) ?_
        case hy => (intro w hSw; (try dsimp only at hSw); go_simp; with_reducible rfl)
        (try simp only [Act.put, List.setIfInBounds_toArray, List.set_cons_zero, List.set_cons_succ])
        refine wpAnyH_ready (rs := [8]) (by kernel_rfl) (by simp) ?_
        refine AllReadyH.cons rfl (fun K hK => ?_) AllReadyH.nil
        go_simp
        refine hK.out _ _ (⟨fun o => (cell_set_ne (show w.heap.size ≠ p by omega)).trans ((HSE.out _ HE4.out).1 o), fun o => (cell_set_ne (show w.heap.size + 1 ≠ p by omega)).trans ((HSE.out _ HE4.out).2 o)⟩) (fun hHeld => ?_)
        clear hK K
        (try simp only [Act.put, List.setIfInBounds_toArray, List.set_cons_zero, List.set_cons_succ])
        refine wpAnyH_done (by kernel_rfl) ?_ _
        go_wp2_with fail
        go_meet
        have hown5 := ownsRow_setCell_below hown4 (a := ⟨p, 4, none⟩) (show p < W2.heap.size by omega) (.slice V (n + 1) cc)
        exact ⟨rfl, V, cc, Ev.setCell (HEW.out.trans HE4.out) (by simp; omega) _, set_heap HQ4.out (by omega), by rw [set_heap_same HX4.out]; rfl, fun h => sl_own (by decide) (tcs_len _) (by omega) hown5⟩
      · go_simp
        refine hK.out _ _ (HSE.out _ (Ev.alloc (Ev.alloc (Ev.drew (Ev.refl W2)) _) _)) (fun hHeld => ?_)
        clear hK K
        (try simp only [Act.put, List.setIfInBounds_toArray, List.set_cons_zero, List.set_cons_succ])
        refine wpAnyH_ready (rs := [3]) (by kernel_rfl) (by simp) ?_
        refine AllReadyH.cons rfl (fun K hK => ?_) AllReadyH.nil
        have hEA := hid (Ev.alloc (Ev.alloc (Ev.drew (Ev.refl W2)) (.cells #[] 90)) (.cells #[.int .i64 t.wd, .int .i64 t.fr, .int .i64 t.to, .int .i64 t.ct.lo, .int .i64 t.ct.hi] 90))
        refine step_append_any (enc := tcs) rfl (.tmp 37) (.tmp 39) 24 rfl W2.heap.size 90 i0 _ 5 40 Try.underlying24 hi0 hz0 hz1 hz2 rfl (by decide) _ 0 [] rfl ((World.ownsRow_lit W2 #[] 0 (Nat.le_refl _) (by decide) rfl).ev (by repeat (first | exact Ev.refl _ | refine Ev.drew ?_ | refine Ev.alloc ?_ _))) A n c f.ts _ rfl (HS.out.ev (HEW.out.trans (by repeat (first | exact Ev.refl _ | refine Ev.drew ?_ | refine Ev.alloc ?_ _)))) (tcs_len _) (tcs_one _) (by unfold maxLen; omega) (by omega) (by first | (simp; done) | (simp; omega)) ?_
        intro v' w3 hown' hgrow
        have hown3 : w3.ownsRow W2.heap.size 90 5 v' n (f.ts.flatMap tcs) := (by simpa using hown')
        have HE3 := hid (Ev.grown (by repeat (first | exact Ev.refl _ | refine Ev.drew ?_ | refine Ev.alloc ?_ _)) hgrow (fun k e => by have e2 : some W2.heap.size = some k := e; simp at e2; omega) : Ev W2 w3)
        have HM := hid ((hgrow.block (W2.heap.size + 1) (by simp) (fun e => by have e2 : some W2.heap.size = some (W2.heap.size + 1) := e.symm; simp at e2)).trans (alloc2 W2 (.cells #[] 90) (.cells #[.int .i64 t.wd, .int .i64 t.fr, .int .i64 t.to, .int .i64 t.ct.lo, .int .i64 t.ct.hi] 90)).2.1 : w3.heap[W2.heap.size + 1]? = some (.cells #[.int .i64 t.wd, .int .i64 t.fr, .int .i64 t.to, .int .i64 t.ct.lo, .int .i64 t.ct.hi] 90 (0, 0)))
        refine hK.out _ _ (HSE.out _ HE3.out) (fun hHeld => ?_)
        clear hK K
        (try simp only [Act.put, List.setIfInBounds_toArray, List.set_cons_zero, List.set_cons_succ])
        refine wpAnyH_ready (rs := [6]) (by kernel_rfl) (by simp) ?_
        refine AllReadyH.cons rfl (fun K hK => ?_) AllReadyH.nil
        refine step_append_own rfl (.tmp 40) (.tmp 42) 24 rfl W2.heap.size 90 i0 _ 5 40 Try.underlying24 hi0 hz0 hz1 hz2 rfl (by decide) v' n (f.ts.flatMap tcs) rfl hown3 ⟨W2.heap.size + 1, 0, none⟩ 1 1 [.int .i64 t.wd, .int .i64 t.fr, .int .i64 t.to, .int .i64 t.ct.lo, .int .i64 t.ct.hi] rfl rfl (news_in HM.out) (by simp [Value.oneCell']) (by unfold maxLen; omega) (by omega) (Nat.le_trans HE3.out.size (by first | exact Nat.le_refl _ | (simp; done) | (simp; omega))) ?_
        intro v2 w4 hown2 hgrow2 _
        have hown4 : w4.ownsRow W2.heap.size 90 5 v2 (n + 1) ((f.ts ++ [t]).flatMap tcs) := by rw [List.flatMap_append]; exact hown2
        obtain ⟨V, cc, rfl⟩ := own_form hown4
        have HE4 := hid (Ev.grown (HE3.out) hgrow2 (fun k e => (hown3.lt k e).1))
        have HX4 := hid (HE4.out.heap HC2.out)
        have HQ4 := hid (HE4.out.heap Q0c.out)
        clear hown2 hgrow2
        obtain ⟨y0, y1, y2, y3, y4⟩ := cells5 HX4.out
        obtain ⟨f0, f1, f2, f3, f4⟩ := frz5 HX4.out
        refine hK.out _ _ (HSE.out _ HE4.out) (fun hHeld => ?_)
        clear hK K
        (try simp only [Act.put, List.setIfInBounds_toArray, List.set_cons_zero, List.set_cons_succ])
        refine wpAnyH_take (i := 7) (v := ?_) rfl (by kernel_rfl) (by kernel_rfl) (by kernel_rfl) (fun _ _ _ h => h) (Or.inl ⟨by rfl, ?hy⟩) (by assumption) ?_
        case hy => (intro w hSw; (try dsimp only at hSw); go_simp; with_reducible rfl)
        (try simp only [Act.put, List.setIfInBounds_toArray, List.set_cons_zero, List.set_cons_succ])
        refine wpAnyH_ready (rs := [8]) (by kernel_rfl) (by simp) ?_
        refine AllReadyH.cons rfl (fun K hK => ?_) AllReadyH.nil
        go_simp
        refine hK.out _ _ (⟨fun o => (cell_set_ne (show w.heap.size ≠ p by omega)).trans ((HSE.out _ HE4.out).1 o), fun o => (cell_set_ne (show w.heap.size + 1 ≠ p by omega)).trans ((HSE.out _ HE4.out).2 o)⟩) (fun hHeld => ?_)
        clear hK K
        (try simp only [Act.put, List.setIfInBounds_toArray, List.set_cons_zero, List.set_cons_succ])
        refine wpAnyH_done (by kernel_rfl) ?_ _
        go_wp2_with fail
        go_meet
        have hown5 := ownsRow_setCell_below hown4 (a := ⟨p, 4, none⟩) (show p < W2.heap.size by omega) (.slice V (n + 1) cc)
        exact ⟨rfl, V, cc, Ev.setCell (HEW.out.trans HE4.out) (by simp; omega) _, set_heap HQ4.out (by omega), by rw [set_heap_same HX4.out]; rfl, fun h => sl_own (by decide) (tcs_len _) (by omega) hown5⟩
    · go_simp
      refine hK.out _ _ (HSE.out _ (Ev.alloc (Ev.drew (Ev.refl W2)) _)) (fun hHeld => ?_)
      clear hK K
      (try simp only [Act.put, List.setIfInBounds_toArray, List.set_cons_zero, List.set_cons_succ])
      refine wpAnyH_ready (rs := [0]) (by kernel_rfl) (by simp) ?_
      refine AllReadyH.cons rfl (fun K hK => ?_) AllReadyH.nil
      go_simp
      refine hK.out _ _ (HSE.out _ (Ev.alloc (Ev.alloc (Ev.drew (Ev.refl W2)) _) _)) (fun hHeld => ?_)
      clear hK K
      (try simp only [Act.put, List.setIfInBounds_toArray, List.set_cons_zero, List.set_cons_succ])
      refine wpAnyH_ready (rs := [3]) (by kernel_rfl) (by simp) ?_
      refine AllReadyH.cons rfl (fun K hK => ?_) AllReadyH.nil
      have hEA := hid (Ev.alloc (Ev.alloc (Ev.drew (Ev.refl W2)) (.cells #[.int .i64 t.wd, .int .i64 t.fr, .int .i64 t.to, .int .i64 t.ct.lo, .int .i64 t.ct.hi] 90)) (.cells #[] 90))
      have hOW : ((W2.alloc (.cells #[.int .i64 t.wd, .int .i64 t.fr, .int .i64 t.to, .int .i64 t.ct.lo, .int .i64 t.ct.hi] 90)).alloc (.cells #[] 90)).ownsRow W2.heap.size 90 5 (.slice (some ⟨W2.heap.size + 1, 0, none⟩) 0 0) 0 (([] : List M.Tl).flatMap tcs) := by
        have h := World.ownsRow_lit (base := W2.heap.size) (e := 90) (size := 5) (W2.alloc (.cells #[.int .i64 t.wd, .int .i64 t.fr, .int .i64 t.to, .int .i64 t.ct.lo, .int .i64 t.ct.hi] 90)) #[] 0 (by simp) (by decide) rfl
        rw [World.size_alloc] at h
        exact h
      refine step_append_any (enc := tcs) rfl (.tmp 37) (.tmp 39) 24 rfl W2.heap.size 90 i0 _ 5 40 Try.underlying24 hi0 hz0 hz1 hz2 rfl (by decide) _ 0 [] rfl (hOW.ev (by repeat (first | exact Ev.refl _ | refine Ev.drew ?_ | refine Ev.alloc ?_ _))) A n c f.ts _ rfl (HS.out.ev (HEW.out.trans (by repeat (first | exact Ev.refl _ | refine Ev.drew ?_ | refine Ev.alloc ?_ _)))) (tcs_len _) (tcs_one _) (by unfold maxLen; omega) (by omega) (by first | (simp; done) | (simp; omega)) ?_
      intro v' w3 hown' hgrow
      have hown3 : w3.ownsRow W2.heap.size 90 5 v' n (f.ts.flatMap tcs) := (by simpa using hown')
      have HE3 := hid (Ev.grown (by repeat (first | exact Ev.refl _ | refine Ev.drew ?_ | refine Ev.alloc ?_ _)) hgrow (fun k e => by have e2 : some (W2.heap.size + 1) = some k := e; simp at e2; omega) : Ev W2 w3)
      have HM := hid ((hgrow.block W2.heap.size (by simp; omega) (fun e => by have e2 : some (W2.heap.size + 1) = some W2.heap.size := e.symm; simp at e2)).trans (alloc2 W2 (.cells #[.int .i64 t.wd, .int .i64 t.fr, .int .i64 t.to, .int .i64 t.ct.lo, .int .i64 t.ct.hi] 90) (.cells #[] 90)).1 : w3.heap[W2.heap.size]? = some (.cells #[.int .i64 t.wd, .int .i64 t.fr, .int .i64 t.to, .int .i64 t.ct.lo, .int .i64 t.ct.hi] 90 (0, 0)))
      refine hK.out _ _ (HSE.out _ HE3.out) (fun hHeld => ?_)
      clear hK K
      (try simp only [Act.put, List.setIfInBounds_toArray, List.set_cons_zero, List.set_cons_succ])
      refine wpAnyH_ready (rs := [6]) (by kernel_rfl) (by simp) ?_
      refine AllReadyH.cons rfl (fun K hK => ?_) AllReadyH.nil
      refine step_append_own rfl (.tmp 40) (.tmp 42) 24 rfl W2.heap.size 90 i0 _ 5 40 Try.underlying24 hi0 hz0 hz1 hz2 rfl (by decide) v' n (f.ts.flatMap tcs) rfl hown3 ⟨W2.heap.size, 0, none⟩ 1 1 [.int .i64 t.wd, .int .i64 t.fr, .int .i64 t.to, .int .i64 t.ct.lo, .int .i64 t.ct.hi] rfl rfl (news_in HM.out) (by simp [Value.oneCell']) (by unfold maxLen; omega) (by omega) (Nat.le_trans HE3.out.size (by first | exact Nat.le_refl _ | (simp; done) | (simp; omega))) ?_
      intro v2 w4 hown2 hgrow2 _
      have hown4 : w4.ownsRow W2.heap.size 90 5 v2 (n + 1) ((f.ts ++ [t]).flatMap tcs) := by rw [List.flatMap_append]; exact hown2
      obtain ⟨V, cc, rfl⟩ := own_form hown4
      have HE4 := hid (Ev.grown (HE3.out) hgrow2 (fun k e => (hown3.lt k e).1))
      have HX4 := hid (HE4.out.heap HC2.out)
      have HQ4 := hid (HE4.out.heap Q0c.out)
      clear hown2 hgrow2
      obtain ⟨y0, y1, y2, y3, y4⟩ := cells5 HX4.out
      obtain ⟨f0, f1, f2, f3, f4⟩ := frz5 HX4.out
      refine hK.out _ _ (HSE.out _ HE4.out) (fun hHeld => ?_)
      clear hK K
      (try simp only [Act.put, List.setIfInBounds_toArray, List.set_cons_zero, List.set_cons_succ])
      refine wpAnyH_take (i := 7) (v := ?_) rfl (by kernel_rfl) (by kernel_rfl) (by kernel_rfl) (fun _ _ _ h => h) (Or.inl ⟨by rfl, ?hy⟩) (by assumption) ?_
      case hy => (intro w hSw; (try dsimp only at hSw); go_simp; with_reducible rfl)
      (try simp only [Act.put, List.setIfInBounds_toArray, List.set_cons_zero, List.set_cons_succ])
      refine wpAnyH_ready (rs := [8]) (by kernel_rfl) (by simp) ?_
      refine AllReadyH.cons rfl (fun K hK => ?_) AllReadyH.nil
      go_simp
      refine hK.out _ _ (⟨fun o => (cell_set_ne (show w.heap.size ≠ p by omega)).trans ((HSE.out _ HE4.out).1 o), fun o => (cell_set_ne (show w.heap.size + 1 ≠ p by omega)).trans ((HSE.out _ HE4.out).2 o)⟩) (fun hHeld => ?_)
      clear hK K
      (try simp only [Act.put, List.setIfInBounds_toArray, List.set_cons_zero, List.set_cons_succ])
      refine wpAnyH_done (by kernel_rfl) ?_ _
      go_wp2_with fail
      go_meet
      have hown5 := ownsRow_setCell_below hown4 (a := ⟨p, 4, none⟩) (show p < W2.heap.size by omega) (.slice V (n + 1) cc)
      exact ⟨rfl, V, cc, Ev.setCell (HEW.out.trans HE4.out) (by simp; omega) _, set_heap HQ4.out (by omega), by rw [set_heap_same HX4.out]; rfl, fun h => sl_own (by decide) (tcs_len _) (by omega) hown5⟩
  case rest =>
    obtain ⟨rfl, V, cc, hEc, hQc, hXc, hSx⟩ := hcut
    have HQ := hid hQc
    have HX := hid hXc
    have HSX0 := hid hSx
    have HEC := hid hEc
    clear q0 q1 q2 q3 q4 y0 y1 y2 y3 y4 hEc hQc hXc hSx
    obtain ⟨q0, q1, q2, q3, q4⟩ := cells5 HQ.out
    obtain ⟨x0, x1, x2, x3, x4⟩ := cells5 HX.out
    have hlq := heap_lt HQ.out
    have hlx := heap_lt HX.out
    have hrf := fun W (hE : Ev wc W) => ready_c f A n c W (fun h => (HS.out.sl hnc (by omega)).ev (HEC.out.trans hE))
    have hrx : ∀ W, Ev wc W → Calls Try.prog 52 #[.agg #[.int .i64 f.rows, .int .i64 f.wds, .int .i64 f.lf.lo, .int .i64 f.lf.hi, .slice V (n + 1) cc]] W fun e w' => e = .returned (.bool (M.rdy (M.moreF f t) (n + 1))) ∧ Ev W w' := fun W hE => ready_c (M.moreF f t) V (n + 1) cc W (fun h => (HSX0.out (by omega)).ev hE)
    cases hr1 : M.rdy f n with
    | false =>
      rw [hr1] at hrf
      have HRF := hid hrf
      clear hrf hrx hr1
      go_wp2_with (first | (go_at_call 52; ((with_reducible refine (HRF.out _ (Ev.refl wc)).mono ?_); rintro e w2 ⟨rfl, hb2⟩; have hG2 := hb2; clear q0 q1 q2 q3 q4 x0 x1 x2 x3 x4; obtain ⟨q0, q1, q2, q3, q4⟩ := cells5 (hb2.heap HQ.out); obtain ⟨x0, x1, x2, x3, x4⟩ := cells5 (hb2.heap HX.out))) | (go_at_call 21; ((with_reducible refine (awake_c _).mono ?_); rintro e w4 ⟨rfl, hb4⟩; have hG4 := hG2.trans hb4)))
      go_ret
      exact ⟨rfl, HEC.out.trans hG4⟩
    | true =>
      rw [hr1] at hrf
      have HRF := hid hrf
      clear hrf
      cases hr2 : M.rdy (M.moreF f t) (n + 1) with
      | false =>
        rw [hr2] at hrx
        have HRX := hid hrx
        clear hrx hr1 hr2
        go_wp2_with (first | (go_at_call 52; ((with_reducible refine (HRX.out _ hG2).mono ?_); rintro e w3 ⟨rfl, hb3⟩; have hG3 := hG2.trans hb3; clear q0 q1 q2 q3 q4 x0 x1 x2 x3 x4; obtain ⟨q0, q1, q2, q3, q4⟩ := cells5 (hG3.heap HQ.out); obtain ⟨x0, x1, x2, x3, x4⟩ := cells5 (hG3.heap HX.out))) | (go_at_call 52; ((with_reducible refine (HRF.out _ (Ev.refl wc)).mono ?_); rintro e w2 ⟨rfl, hb2⟩; have hG2 := hb2; clear q0 q1 q2 q3 q4 x0 x1 x2 x3 x4; obtain ⟨q0, q1, q2, q3, q4⟩ := cells5 (hb2.heap HQ.out); obtain ⟨x0, x1, x2, x3, x4⟩ := cells5 (hb2.heap HX.out))) | (go_at_call 21; ((with_reducible refine (awake_c _).mono ?_); rintro e w4 ⟨rfl, hb4⟩; have hG4 := hG3.trans hb4)))
        go_ret
        exact ⟨rfl, HEC.out.trans hG4⟩
      | true =>
        rw [hr2] at hrx
        have HRX := hid hrx
        unfold M.rdy at hr1 hr2
        simp only [Bool.and_eq_true, decide_eq_true_eq] at hr1 hr2
        obtain ⟨⟨h7, _⟩, h0⟩ := hr1
        obtain ⟨⟨_, _⟩, g0⟩ := hr2
        clear hrx
        have hs := HS.out.sl hnc (by omega)
        have hsx := HSX0.out h7
        obtain ⟨r1, r7, d1, d3, _, n5'⟩ := M.check_bd h0
        have hsub := M.more_sub h0 g0 rfl rfl rfl (t := t) rfl
        have hlm := M.leave_more h0 g0 rfl rfl rfl (t := t) rfl
        have hnil := M.leave_nil g0
        have hl7 : (M.leaveBest f).length ≤ 7 := by obtain ⟨_, _, _, _, h, _⟩ := M.leave_spec h0; exact h
        have hg7 : (M.leaveBest (M.moreF f t)).length ≤ 7 := by obtain ⟨_, _, _, _, h, _⟩ := M.leave_spec g0; exact h
        have s1 : IntKind.i64.wrap a = a := IntWalk.i64_in _ (by omega)
        have s2 : IntKind.i64.wrap b = b := IntWalk.i64_in _ (by omega)
        obtain ⟨k, hk⟩ : ∃ k : Nat, a % f.wds = (k : Int) := Int.eq_ofNat_of_zero_le (Int.emod_nonneg _ (by omega))
        obtain ⟨r, hr⟩ : ∃ r : Nat, b % f.rows = (r : Int) := Int.eq_ofNat_of_zero_le (Int.emod_nonneg _ (by omega))
        have hk1 : (k : Int) < f.wds := by rw [← hk]; exact Int.emod_lt_of_pos _ (by omega)
        have hr1 : (r : Int) < f.rows := by rw [← hr]; exact Int.emod_lt_of_pos _ (by omega)
        have hk2 : a.tmod f.wds = (k : Int) := by rw [Int.tmod_eq_emod_of_nonneg a0]; exact hk
        have hr2 : b.tmod f.rows = (r : Int) := by rw [Int.tmod_eq_emod_of_nonneg b0]; exact hr
        have s3 : IntKind.i64.wrap (k : Int) = (k : Int) := IntWalk.i64_in _ (by omega)
        have s4 : IntKind.i64.wrap (r : Int) = (r : Int) := IntWalk.i64_in _ (by omega)
        have z2 : (f.wds == 0) = false := by simp; omega
        have z3 : ¬ (f.wds = 0) := by omega
        have z4 : (f.rows == 0) = false := by simp; omega
        have z5 : ¬ (f.rows = 0) := by omega
        go_upto_region 5 with (first | (go_at_call 52; ((with_reducible refine (HRX.out _ hG2).mono ?_); rintro e w3 ⟨rfl, hb3⟩; have hG3 := hG2.trans hb3; clear q0 q1 q2 q3 q4 x0 x1 x2 x3 x4; obtain ⟨q0, q1, q2, q3, q4⟩ := cells5 (hG3.heap HQ.out); obtain ⟨x0, x1, x2, x3, x4⟩ := cells5 (hG3.heap HX.out))) | (go_at_call 52; ((with_reducible refine (HRF.out _ (Ev.refl wc)).mono ?_); rintro e w2 ⟨rfl, hb2⟩; have hG2 := hb2; clear q0 q1 q2 q3 q4 x0 x1 x2 x3 x4; obtain ⟨q0, q1, q2, q3, q4⟩ := cells5 (hb2.heap HQ.out); obtain ⟨x0, x1, x2, x3, x4⟩ := cells5 (hb2.heap HX.out))))
        go_upto_region 6 with (go_quiet (fail))
        generalize hWd : World.drewN w3 _ = wd
        have hbd : Ev w3 wd := by rw [← hWd]; exact Ev.drewN (Ev.refl _) _
        have hG3' := hid (hG3.trans hbd)
        clear hWd q0 q1 q2 q3 q4 x0 x1 x2 x3 x4 s1 s2 s3 s4 z2 z3 z4 z5 hk hr hk2 hr2 hG3 hG2 hb2 hb3 hbd HRF HRX
        have hG3 := hG3'.out
        clear hG3'
        obtain ⟨q0, q1, q2, q3, q4⟩ := cells5 (hG3.heap HQ.out)
        have hfd := fun W (hE : Ev wc W) => Field_c f A n c (by omega) W (hs.ev (HEC.out.trans hE))
        have hfx : ∀ W, Ev wc W → Calls Try.prog 24 #[.agg #[.int .i64 f.rows, .int .i64 f.wds, .int .i64 f.lf.lo, .int .i64 f.lf.hi, .slice V (n + 1) cc]] W fun e w' => (∃ B d, e = .returned (.agg #[.int .i64 f.rows, .int .i64 f.wds, .int .i64 f.lf.lo, .int .i64 f.lf.hi, .slice B (n + 1) d]) ∧ Sl tcs 5 w' w'.heap.size B (n + 1) d (f.ts ++ [t])) ∧ Ev W w' := fun W hE => Field_c (M.moreF f t) V (n + 1) cc (by omega) W (hsx.ev hE)
        have hlv : ∀ B d W, Sl tcs 5 W W.heap.size B n d (f.ts) → Calls Try.prog 44 #[.agg #[.int .i64 f.rows, .int .i64 f.wds, .int .i64 f.lf.lo, .int .i64 f.lf.hi, .slice B n d]] W fun e w' => (∃ B' d', e = .returned (.tuple #[.slice B' (M.leaveBest f).length d', .int .i64 0])) ∧ Ev W w' := by
          intro B d W h
          have h' := (fun B n d W h => Leave_c f B n d W h) B n d W h
          unfold fv at h'
          simp only [h0, ↓reduceIte] at h'
          exact h'.mono (fun e w' ⟨⟨B', d', h1, _⟩, h2⟩ => ⟨⟨B', d', h1⟩, h2⟩)
        have hlx : ∀ B d W, Sl tcs 5 W W.heap.size B (n + 1) d ((f.ts ++ [t])) → Calls Try.prog 44 #[.agg #[.int .i64 f.rows, .int .i64 f.wds, .int .i64 f.lf.lo, .int .i64 f.lf.hi, .slice B (n + 1) d]] W fun e w' => (∃ B' d', e = .returned (.tuple #[.slice B' (M.leaveBest (M.moreF f t)).length d', .int .i64 0])) ∧ Ev W w' := by
          intro B d W h
          have h' := (fun B n d W h => Leave_c (M.moreF f t) B n d W h) B (n + 1) d W h
          unfold fv at h'
          simp only [g0, ↓reduceIte] at h'
          exact h'.mono (fun e w' ⟨⟨B', d', h1, _⟩, h2⟩ => ⟨⟨B', d', h1⟩, h2⟩)
        generalize (M.leaveBest f).length = lf at hlm hl7 hlv
        generalize (M.leaveBest (M.moreF f t)).length = lg at hlm hg7 hnil hlx
        have t1 : ¬ ((lg : Int) < lf) := by omega
        have t2 : ¬ ((lg : Int) > (lf : Int) + 1) := by omega
        have t2' : ¬ ((lf : Int) + 1 < lg) := by omega
        have t3 : IntKind.i64.wrap ((lf : Int) + 1) = lf + 1 := IntWalk.i64_in _ (by omega)
        have HFD := hid hfd
        have HFX := hid hfx
        have HLV := hid hlv
        have HLX := hid hlx
        clear hfd hfx hlv hlx
        go_upto_region 7 with (first | (go_at_call 44; ((with_reducible refine (HLV.out _ _ _ HS4.out).mono ?_); rintro e w5 ⟨⟨B5, d5, rfl⟩, hb5⟩; have hG5 := hG4.trans hb5; clear HS4)) | (go_at_call 24; ((with_reducible refine (HFD.out _ hG3).mono ?_); rintro e w4 ⟨⟨B4, d4, rfl, hs4⟩, hb4⟩; have hG4 := hG3.trans hb4; have HS4 := hid hs4; clear hs4)))
        clear q0 q1 q2 q3 q4
        obtain ⟨x0, x1, x2, x3, x4⟩ := cells5 (hG5.heap HX.out)
        go_upto_region 8 with (first | (go_at_call 44; ((with_reducible refine (HLX.out _ _ _ HS6.out).mono ?_); rintro e w7 ⟨⟨B7, d7, rfl⟩, hb7⟩; have hG7 := hG6.trans hb7; clear HS6)) | (go_at_call 24; ((with_reducible refine (HFX.out _ hG5).mono ?_); rintro e w6 ⟨⟨B6, d6, rfl, hs6⟩, hb6⟩; have hG6 := hG5.trans hb6; have HS6 := hid hs6; clear hs6)))
        clear x0 x1 x2 x3 x4
        obtain ⟨q0, q1, q2, q3, q4⟩ := cells5 (hG7.heap HQ.out)
        rcases Nat.eq_zero_or_pos lg with hz | hz
        · have hne := hnil.1 hz
          subst hz
          obtain rfl : lf = 0 := by omega
          have hnf : M.rtruths f ≠ [] := fun e => by
            obtain ⟨l, hl⟩ := List.exists_mem_of_ne_nil _ hne
            have := hsub l hl
            rw [e] at this
            cases this
          obtain ⟨D, hD⟩ := Int.eq_ofNat_of_zero_le (show 0 ≤ f.wds by omega)
          have hsf : M.sureE f = 0 := by unfold M.sureE; rw [if_pos h0, if_neg (by intro e; exact hnf (List.eq_nil_of_length_eq_zero e))]
          have hsg : M.sureE (M.moreF f t) = 0 := by unfold M.sureE; rw [if_pos g0, if_neg (by intro e; exact hne (List.eq_nil_of_length_eq_zero e))]
          have hbt : M.begin f true = 0 := by rw [M.begin_ref f _ h0]; exact hsf
          have gbt : M.begin (M.moreF f t) true = 0 := by rw [M.begin_ref _ _ g0]; exact hsg
          have hrow : M.begin f (M.hasRow f (r : Int)) = 0 := by
            have : M.hasRow f (r : Int) = true := by
              unfold M.hasRow
              simp only [Bool.and_eq_true, decide_eq_true_eq]
              omega
            rw [this]; exact hbt
          have grow : M.begin (M.moreF f t) (M.hasRow (M.moreF f t) (r : Int)) = 0 := by
            have : M.hasRow (M.moreF f t) (r : Int) = true := by
              unfold M.hasRow
              simp only [Bool.and_eq_true, decide_eq_true_eq]
              exact ⟨by omega, hr1⟩
            rw [this]; exact gbt
          have hwd : M.begin f (M.hasWd f (k : Int)) = 0 := by
            have : M.hasWd f (k : Int) = true := by
              unfold M.hasWd
              simp only [Bool.and_eq_true, decide_eq_true_eq]
              omega
            rw [this]; exact hbt
          have gwd : M.begin (M.moreF f t) (M.hasWd (M.moreF f t) (k : Int)) = 0 := by
            have : M.hasWd (M.moreF f t) (k : Int) = true := by
              unfold M.hasWd
              simp only [Bool.and_eq_true, decide_eq_true_eq]
              exact ⟨by omega, hk1⟩
            rw [this]; exact gbt
          have hdl : (M.done f).length = D := by rw [M.done_len]; omega
          have gdl : (M.done (M.moreF f t)).length = D := by rw [M.done_len]; show f.wds.toNat = D; omega
          have HDS : Hid (∀ j, j < D → ∃ y z, (M.done (M.moreF f t))[j]? = some y ∧ (M.done f)[j]? = some z ∧ M.inside y z = true) := hid (fun j hj => M.done_sub (f := (M.moreF f t)) (g := f) hbt gbt hD rfl hsub hj)
          have HWS : Hid (∀ y ∈ M.who (M.moreF f t) (r : Int) (M.truths (M.moreF f t)), M.has (M.who f (r : Int) (M.truths f)) y = true) := hid (by
            rw [M.who_same h0 (by omega) hr1, M.who_same g0 (by omega) (show (r : Int) < (M.moreF f t).rows from hr1)]
            exact M.who_sub (f := f) (g := (M.moreF f t)) rfl hsub)
          have has_ := M.ask_sub h0 g0 rfl (k : Int) hsub
          have hnx := M.next_sub h0 g0 rfl rfl (k : Int) hsub
          have hdn : ∀ B d W, Sl tcs 5 W W.heap.size B n d (f.ts) → Calls Try.prog 28 #[.agg #[.int .i64 f.rows, .int .i64 f.wds, .int .i64 f.lf.lo, .int .i64 f.lf.hi, .slice B n d]] W fun e w' => (∃ B' d', e = .returned (.tuple #[.slice B' D d', .int .i64 0]) ∧ Sl rgc 2 w' w'.heap.size B' D d' (M.done f)) ∧ Ev W w' := by
            intro B d W h
            have h' := (fun B n d W h => Done_c f B n d W h) B n d W h
            unfold fv at h'
            simp only [hbt, hdl, ↓reduceIte] at h'
            exact h'.mono (fun e w' h => h)
          have hdx : ∀ B d W, Sl tcs 5 W W.heap.size B (n + 1) d ((f.ts ++ [t])) → Calls Try.prog 28 #[.agg #[.int .i64 f.rows, .int .i64 f.wds, .int .i64 f.lf.lo, .int .i64 f.lf.hi, .slice B (n + 1) d]] W fun e w' => (∃ B' d', e = .returned (.tuple #[.slice B' D d', .int .i64 0]) ∧ Sl rgc 2 w' w'.heap.size B' D d' (M.done (M.moreF f t))) ∧ Ev W w' := by
            intro B d W h
            have h' := (fun B n d W h => Done_c (M.moreF f t) B n d W h) B (n + 1) d W h
            unfold fv at h'
            simp only [gbt, gdl, ↓reduceIte] at h'
            exact h'.mono (fun e w' h => h)
          have hwh : ∀ B d W, Sl tcs 5 W W.heap.size B n d (f.ts) → Calls Try.prog 32 #[.agg #[.int .i64 f.rows, .int .i64 f.wds, .int .i64 f.lf.lo, .int .i64 f.lf.hi, .slice B n d], .int .i64 r] W fun e w' => (∃ B' d', e = .returned (.tuple #[.slice B' (M.who f (r : Int) (M.truths f)).length d', .int .i64 0]) ∧ Sl ics 1 w' w'.heap.size B' (M.who f (r : Int) (M.truths f)).length d' ((M.who f (r : Int) (M.truths f)))) ∧ Ev W w' := by
            intro B d W h
            have h' := (fun B n d W h => Who_c f (r : Int) B n d W h) B n d W h
            unfold fv at h'
            simp only [hrow, ↓reduceIte] at h'
            exact h'.mono (fun e w' h => h)
          have hwx : ∀ B d W, Sl tcs 5 W W.heap.size B (n + 1) d ((f.ts ++ [t])) → Calls Try.prog 32 #[.agg #[.int .i64 f.rows, .int .i64 f.wds, .int .i64 f.lf.lo, .int .i64 f.lf.hi, .slice B (n + 1) d], .int .i64 r] W fun e w' => (∃ B' d', e = .returned (.tuple #[.slice B' (M.who (M.moreF f t) (r : Int) (M.truths (M.moreF f t))).length d', .int .i64 0]) ∧ Sl ics 1 w' w'.heap.size B' (M.who (M.moreF f t) (r : Int) (M.truths (M.moreF f t))).length d' ((M.who (M.moreF f t) (r : Int) (M.truths (M.moreF f t))))) ∧ Ev W w' := by
            intro B d W h
            have h' := (fun B n d W h => Who_c (M.moreF f t) (r : Int) B n d W h) B (n + 1) d W h
            unfold fv at h'
            simp only [grow, ↓reduceIte] at h'
            exact h'.mono (fun e w' h => h)
          have hak : ∀ B d W, Sl tcs 5 W W.heap.size B n d (f.ts) → Calls Try.prog 36 #[.agg #[.int .i64 f.rows, .int .i64 f.wds, .int .i64 f.lf.lo, .int .i64 f.lf.hi, .slice B n d], .int .i64 k] W fun e w' => (∃ B' d', e = .returned (.tuple #[.slice B' (M.askBest f (k : Int)).length d', .int .i64 0])) ∧ Ev W w' := by
            intro B d W h
            have h' := (fun B n d W h => Ask_c f (k : Int) B n d W h) B n d W h
            unfold fv at h'
            simp only [hwd, ↓reduceIte] at h'
            exact h'.mono (fun e w' ⟨⟨B', d', h1, _⟩, h2⟩ => ⟨⟨B', d', h1⟩, h2⟩)
          have hax : ∀ B d W, Sl tcs 5 W W.heap.size B (n + 1) d ((f.ts ++ [t])) → Calls Try.prog 36 #[.agg #[.int .i64 f.rows, .int .i64 f.wds, .int .i64 f.lf.lo, .int .i64 f.lf.hi, .slice B (n + 1) d], .int .i64 k] W fun e w' => (∃ B' d', e = .returned (.tuple #[.slice B' (M.askBest (M.moreF f t) (k : Int)).length d', .int .i64 0])) ∧ Ev W w' := by
            intro B d W h
            have h' := (fun B n d W h => Ask_c (M.moreF f t) (k : Int) B n d W h) B (n + 1) d W h
            unfold fv at h'
            simp only [gwd, ↓reduceIte] at h'
            exact h'.mono (fun e w' ⟨⟨B', d', h1, _⟩, h2⟩ => ⟨⟨B', d', h1⟩, h2⟩)
          have hne1 : ∀ B d W, Sl tcs 5 W W.heap.size B n d (f.ts) → Calls Try.prog 41 #[.agg #[.int .i64 f.rows, .int .i64 f.wds, .int .i64 f.lf.lo, .int .i64 f.lf.hi, .slice B n d], .int .i64 k] W fun e w' => e = .returned (.tuple #[.int .i64 (M.Next f (k : Int)).1, .int .i64 (M.Next f (k : Int)).2, .int .i64 0]) ∧ Ev W w' := by
            intro B d W h
            have h' := (fun B n d W h => Next_c f (k : Int) B n d W h) B n d W h
            unfold fv at h'
            simp only [hwd, ↓reduceIte] at h'
            exact h'.mono (fun e w' h => h)
          have hne2 : ∀ B d W, Sl tcs 5 W W.heap.size B (n + 1) d ((f.ts ++ [t])) → Calls Try.prog 41 #[.agg #[.int .i64 f.rows, .int .i64 f.wds, .int .i64 f.lf.lo, .int .i64 f.lf.hi, .slice B (n + 1) d], .int .i64 k] W fun e w' => e = .returned (.tuple #[.int .i64 (M.Next (M.moreF f t) (k : Int)).1, .int .i64 (M.Next (M.moreF f t) (k : Int)).2, .int .i64 0]) ∧ Ev W w' := by
            intro B d W h
            have h' := (fun B n d W h => Next_c (M.moreF f t) (k : Int) B n d W h) B (n + 1) d W h
            unfold fv at h'
            simp only [gwd, ↓reduceIte] at h'
            exact h'.mono (fun e w' h => h)
          generalize M.done f = df at hdn HDS
          generalize M.done (M.moreF f t) = dg at hdx HDS
          generalize M.who f (r : Int) (M.truths f) = wf at hwh HWS
          generalize M.who (M.moreF f t) (r : Int) (M.truths (M.moreF f t)) = wg at hwx HWS
          generalize (M.askBest f (k : Int)).length = la at hak has_
          generalize (M.askBest (M.moreF f t) (k : Int)).length = lb at hax has_
          generalize M.Next f (k : Int) = qa at hne1 hnx
          generalize M.Next (M.moreF f t) (k : Int) = qb at hne2 hnx
          obtain ⟨qa1, qa2⟩ := qa
          obtain ⟨qb1, qb2⟩ := qb
          dsimp only at hne1 hne2 hnx
          have hdw : f.wds = (D : Int) := hD
          have HDW := hid hdw
          have hD3 : D ≤ 3 := by omega
          have u1 : ((D : Int) != f.wds) = false := by simp; omega
          have u2 : decide ((lb : Int) > la) = false := by simp; omega
          have u3 : decide (qb2 > qa2) = false := by simp; omega
          have u4 : ((D : Int) == f.wds) = true := by simp; omega
          have u5 : ¬ ((lb : Int) > la) := by omega
          have u6 : ¬ (qb2 > qa2) := by omega
          have u7 : ¬ ((la : Int) < lb) := by omega
          have u8 : ¬ (qa2 < qb2) := by omega
          have HDN := hid hdn
          have HDX := hid hdx
          have HWH := hid hwh
          have HWX := hid hwx
          have HAK := hid hak
          have HAX := hid hax
          have HNE := hid hne1
          have HNX := hid hne2
          clear hdn hdx hwh hwx hak hax hne1 hne2 hbt gbt hrow grow hwd gwd hsf hsg hdl gdl hsub hne hnf hnil hlm hl7 hg7 hD hdw h0 g0 hs hsx has_ hnx
          go_upto_region 12 with fail
          go_upto_region 13 with (first | (go_at_call 28; ((with_reducible refine (HDN.out _ _ _ HS8.out).mono ?_); rintro e w9 ⟨⟨B9, d9, rfl, hs9⟩, hb9⟩; have hG9 := hG8.trans hb9; clear HS8; have HS9 := hid hs9; clear hs9)) | (go_at_call 24; ((with_reducible refine (HFD.out _ hG7).mono ?_); rintro e w8 ⟨⟨B8, d8, rfl, hs8⟩, hb8⟩; have hG8 := hG7.trans hb8; have HS8 := hid hs8; clear hs8)))
          clear q0 q1 q2 q3 q4
          obtain ⟨x0, x1, x2, x3, x4⟩ := cells5 (hG9.heap HX.out)
          go_upto_region 14 with (first | (go_at_call 28; ((with_reducible refine (HDX.out _ _ _ HS10.out).mono ?_); rintro e w11 ⟨⟨B11, d11, rfl, hs11⟩, hb11⟩; have hG11 := hG10.trans hb11; clear HS10; have HS11 := hid hs11; clear hs11)) | (go_at_call 24; ((with_reducible refine (HFX.out _ hG9).mono ?_); rintro e w10 ⟨⟨B10, d10, rfl, hs10⟩, hb10⟩; have hG10 := hG9.trans hb10; have HS10 := hid hs10; clear hs10)))
          clear x0 x1 x2 x3 x4
          obtain ⟨q0, q1, q2, q3, q4⟩ := cells5 (hG11.heap HQ.out)
          go_upto_region 15 with (first | (go_at_call 32; ((with_reducible refine (HWH.out _ _ _ HS12.out).mono ?_); rintro e w13 ⟨⟨B13, d13, rfl, hs13⟩, hb13⟩; have hG13 := hG12.trans hb13; clear HS12; have HS13 := hid hs13; clear hs13)) | (go_at_call 24; ((with_reducible refine (HFD.out _ hG11).mono ?_); rintro e w12 ⟨⟨B12, d12, rfl, hs12⟩, hb12⟩; have hG12 := hG11.trans hb12; have HS12 := hid hs12; clear hs12)))
          clear q0 q1 q2 q3 q4
          obtain ⟨x0, x1, x2, x3, x4⟩ := cells5 (hG13.heap HX.out)
          go_upto_region 16 with (first | (go_at_call 32; ((with_reducible refine (HWX.out _ _ _ HS14.out).mono ?_); rintro e w15 ⟨⟨B15, d15, rfl, hs15⟩, hb15⟩; have hG15 := hG14.trans hb15; clear HS14; have HS15 := hid hs15; clear hs15)) | (go_at_call 24; ((with_reducible refine (HFX.out _ hG13).mono ?_); rintro e w14 ⟨⟨B14, d14, rfl, hs14⟩, hb14⟩; have hG14 := hG13.trans hb14; have HS14 := hid hs14; clear hs14)))
          clear x0 x1 x2 x3 x4
          obtain ⟨q0, q1, q2, q3, q4⟩ := cells5 (hG15.heap HQ.out)
          go_upto_region 17 with (first | (go_at_call 36; ((with_reducible refine (HAK.out _ _ _ HS16.out).mono ?_); rintro e w17 ⟨⟨B17, d17, rfl⟩, hb17⟩; have hG17 := hG16.trans hb17; clear HS16)) | (go_at_call 24; ((with_reducible refine (HFD.out _ hG15).mono ?_); rintro e w16 ⟨⟨B16, d16, rfl, hs16⟩, hb16⟩; have hG16 := hG15.trans hb16; have HS16 := hid hs16; clear hs16)))
          clear q0 q1 q2 q3 q4
          obtain ⟨x0, x1, x2, x3, x4⟩ := cells5 (hG17.heap HX.out)
          go_upto_region 18 with (first | (go_at_call 36; ((with_reducible refine (HAX.out _ _ _ HS18.out).mono ?_); rintro e w19 ⟨⟨B19, d19, rfl⟩, hb19⟩; have hG19 := hG18.trans hb19; clear HS18)) | (go_at_call 24; ((with_reducible refine (HFX.out _ hG17).mono ?_); rintro e w18 ⟨⟨B18, d18, rfl, hs18⟩, hb18⟩; have hG18 := hG17.trans hb18; have HS18 := hid hs18; clear hs18)))
          clear x0 x1 x2 x3 x4
          obtain ⟨q0, q1, q2, q3, q4⟩ := cells5 (hG19.heap HQ.out)
          go_upto_region 19 with (first | (go_at_call 41; ((with_reducible refine (HNE.out _ _ _ HS20.out).mono ?_); rintro e w21 ⟨rfl, hb21⟩; have hG21 := hG20.trans hb21; clear HS20)) | (go_at_call 24; ((with_reducible refine (HFD.out _ hG19).mono ?_); rintro e w20 ⟨⟨B20, d20, rfl, hs20⟩, hb20⟩; have hG20 := hG19.trans hb20; have HS20 := hid hs20; clear hs20)))
          clear q0 q1 q2 q3 q4
          obtain ⟨x0, x1, x2, x3, x4⟩ := cells5 (hG21.heap HX.out)
          go_upto_region 20 with (first | (go_at_call 41; ((with_reducible refine (HNX.out _ _ _ HS22.out).mono ?_); rintro e w23 ⟨rfl, hb23⟩; have hG23 := hG22.trans hb23; clear HS22)) | (go_at_call 24; ((with_reducible refine (HFX.out _ hG21).mono ?_); rintro e w22 ⟨⟨B22, d22, rfl, hs22⟩, hb22⟩; have hG22 := hG21.trans hb22; have HS22 := hid hs22; clear hs22)))
          clear x0 x1 x2 x3 x4
          obtain ⟨q0, q1, q2, q3, q4⟩ := cells5 (hG23.heap HQ.out)
          have hA9 : Ev w9 w23 := (((((((((((((hb10.trans hb11).trans hb12).trans hb13).trans hb14).trans hb15).trans hb16).trans hb17).trans hb18).trans hb19).trans hb20).trans hb21).trans hb22).trans hb23)
          have hA11 : Ev w11 w23 := (((((((((((hb12.trans hb13).trans hb14).trans hb15).trans hb16).trans hb17).trans hb18).trans hb19).trans hb20).trans hb21).trans hb22).trans hb23)
          have hA13 : Ev w13 w23 := (((((((((hb14.trans hb15).trans hb16).trans hb17).trans hb18).trans hb19).trans hb20).trans hb21).trans hb22).trans hb23)
          have hA15 : Ev w15 w23 := (((((((hb16.trans hb17).trans hb18).trans hb19).trans hb20).trans hb21).trans hb22).trans hb23)
          clear hb4 hb5 hb6 hb7 hb8 hb9 hb10 hb11 hb12 hb13 hb14 hb15 hb16 hb17 hb18 hb19 hb20 hb21 hb22 hb23
          obtain ⟨W0, hW0⟩ : ∃ W0, W0 = w23 := ⟨_, rfl⟩
          have HW0 := hid hW0
          clear hW0
          go_cut [212] (fun v wx => v = .bool false ∧ wx = W0)
          case first =>
            go_wp2_with fail
            go_meet
            exact ⟨by first | rfl | exact congrArg Value.bool (decide_eq_false (by omega)), HW0.out.symm⟩
          case rest =>
          obtain ⟨rfl, hwc⟩ := hcut
          have hwc2 := (hwc.trans HW0.out).symm
          clear hwc HW0
          subst hwc2
          go_wp2_with fail
          go_loopw [34] (fun i wr => ∃ j : Nat, i = .int .i64 j ∧ j ≤ D ∧ Ev w23 wr) (fun i _ => D - (intOf i).toNat)
          case atStart => exact ⟨0, rfl, by omega, Ev.refl _⟩
          case round =>
            obtain ⟨j, rfl, hj, hB⟩ := hrel
            clear q0 q1 q2 q3 q4
            by_cases hlt : j < D
            · obtain ⟨ba, oa, xa, rfl, hba, hxa, _, hca⟩ := HS9.out.at_ (hA9.trans hB) hlt
              obtain ⟨bb, ob, xb, rfl, hbb, hxb, _, hcb⟩ := HS11.out.at_ (hA11.trans hB) hlt
              obtain ⟨y, z, hy, hz, hin⟩ := HDS.out j hlt
              obtain rfl : y = xb := Option.some.inj (hy.symm.trans hxb)
              obtain rfl : z = xa := Option.some.inj (hz.symm.trans hxa)
              have e0 := hca 0 _ rfl
              have e1 := hca 1 _ rfl
              have e2 := hcb 0 _ rfl
              have e3 := hcb 1 _ rfl
              simp only [Nat.add_zero] at e0 e2
              have hic := fun W => inside_c y z W
              rw [hin] at hic
              have HIN := hid hic
              have hba2 : ba < wr.heap.size := by have := (hA9.trans hB).size; omega
              have hbb2 : bb < wr.heap.size := by have := (hA11.trans hB).size; omega
              have hcp1 := HS9.out.cap
              have hcp2 := HS11.out.cap
              have HSE : Hid (∀ w', Ev wr w' → Ev wr w' ∧ (∀ o, w'.cell? ⟨ba, o, none⟩ = wr.cell? ⟨ba, o, none⟩) ∧ (∀ o, w'.cell? ⟨bb, o, none⟩ = wr.cell? ⟨bb, o, none⟩)) := hid (fun w' h => ⟨h, fun o => h.cells.1 _ o hba2, fun o => h.cells.1 _ o hbb2⟩)
              clear hic hy hz hxa hxb hca hcb hin
              go_wp2_with (go_region_held3 (fun w' => Ev wr w' ∧ (∀ o, w'.cell? ⟨ba, o, none⟩ = wr.cell? ⟨ba, o, none⟩) ∧ (∀ o, w'.cell? ⟨bb, o, none⟩ = wr.cell? ⟨bb, o, none⟩)) (exact HSE.out _ (by repeat (first | with_reducible exact Ev.refl wr | (with_reducible assumption) | with_reducible refine Ev.drew ?_ | with_reducible refine Ev.alloc ?_ _))) (first | (go_at_call 61; ((with_reducible refine (HIN.out _).mono ?_); rintro e w25 ⟨rfl, hb25⟩; have hc25 : Ev wr w25 := (by first | exact hb25 | exact Ev.trans (Ev.drew (Ev.refl _)) hb25)))))
              exact ⟨⟨j + 1, by go_num, by omega, hB.trans hc25⟩, by simp [intOf]; omega⟩
            · have hA13' := hA13.trans hB
              have hA15' := hA15.trans hB
              have hsw := HS13.out.ev hA13'
              have hsg := HS15.out.ev hA15'
              have HHC := hid (fun y => has_c B13 wf.length d13 wf y wr hsw)
              have HGX := hid hsg
              clear hsw hsg
              have hwgs := HGX.out.small
              go_wp2_with fail
              go_loop [35] (fun i => ∃ j : Nat, i = .int .i64 j ∧ j ≤ wg.length) (fun i => wg.length - (intOf i).toNat)
              case atStart => exact ⟨0, rfl, by omega⟩
              case round =>
                obtain ⟨j2, rfl, hj2⟩ := hrel
                by_cases hlt2 : j2 < wg.length
                · obtain ⟨bb, ob, y, rfl, hbb, hy, _, hcb⟩ := HGX.out.at_ (Below.refl _ _) hlt2
                  have e0 := hcb 0 _ rfl
                  have hcp := HGX.out.cap
                  simp only [Nat.add_zero, Nat.mul_one] at e0
                  have hhas := HWS.out y (List.mem_of_getElem? hy)
                  have hhc := HHC.out y
                  rw [hhas] at hhc
                  have HHY := hid hhc
                  clear hhc hhas hy hcb
                  go_wp2_with (first | (go_at_call 56; ((with_reducible refine HHY.out.mono ?_); rintro e w26 ⟨rfl, rfl⟩)))
                  exact ⟨⟨j2 + 1, by go_num, by omega⟩, by simp [intOf]; omega⟩
                · go_wp2_with (first | (go_at_call 21; ((with_reducible refine (awake_c _).mono ?_); rintro e w27 ⟨rfl, hb27⟩)))
                  go_ret
                  exact ⟨rfl, HEC.out.trans ((hG23.trans hB).trans hb27)⟩
        · have t4 : (lg : Int) > 0 := by omega
          have t5 : (0 : Int) < lg := by omega
          clear hnil hlm hl7 hg7 h0 g0 hsub hs hsx
          clear q0 q1 q2 q3 q4
          go_wp2_with (first | (go_at_call 21; ((with_reducible refine (awake_c _).mono ?_); rintro e w8 ⟨rfl, hb8⟩; have hG8 := hG7.trans hb8)))
          go_ret
          exact ⟨rfl, HEC.out.trans hG8⟩

end Go.Proofs.Ytcecmphdmpeibaa
