import Derived.Test.YtcecmphdmpeibaaL28
import Derived.Test.YtcecmphdmpeibaaL10
set_option linter.unusedSimpArgs false
set_option linter.unusedVariables false
namespace Go.Proofs.Ytcecmphdmpeibaa
open Go.RowKit

/-- Those of some tallies whose bits are set. -/
def M.keepK (b : Nat) : List M.Tl → Nat → List M.Tl
  | [], _ => []
  | t :: r, i => (if b / 2 ^ i % 2 = 1 then [t] else []) ++ M.keepK b r (i + 1)
def M.subF (f : M.Fl) (b : Nat) : M.Fl := ⟨f.rows, f.wds, f.lf, M.keepK b f.ts 0⟩
theorem info90 : (Try.prog.info? 90).map (fun i => (i.zero, i.size, i.bytes)) = some (some (.agg #[.int .i64 0, .int .i64 0, .int .i64 0, .int .i64 0, .int .i64 0]), 5, 40) := by kernel_rfl

set_option maxRecDepth 100000 in
set_option maxHeartbeats 4000000 in
theorem some_c (f : M.Fl) (A : Option Addr) (n c : Nat) (hn : n ≤ 7) (rb : Nat) (hrb : rb ≤ 127) (w : World) (hs : Sl tcs 5 w w.heap.size A n c f.ts) :
    Calls Try.prog 62 #[.agg #[.int .i64 f.rows, .int .i64 f.wds, .int .i64 f.lf.lo, .int .i64 f.lf.hi, .slice A n c], .int .i64 rb] w fun e w' => (∃ B d, e = .returned (.agg #[.int .i64 f.rows, .int .i64 f.wds, .int .i64 f.lf.lo, .int .i64 f.lf.hi, .slice B (M.keepK rb f.ts 0).length d]) ∧ Sl tcs 5 w' w'.heap.size B (M.keepK rb f.ts 0).length d (M.keepK rb f.ts 0)) ∧ Ev w w' := by
  obtain ⟨i0, hi0, hz0, hz1, hz2⟩ := info_parts info90
  go_enter Try.func62, Try.ntmps62
  go_upto_region 1 with fail
  generalize hW0 : World.alloc (World.alloc w _) _ = W0
  have hE0 : Ev w W0 := by rw [← hW0]; exact Ev.alloc (Ev.alloc (Ev.refl _) _) _
  have hal := alloc2 w (.cells #[.int .i64 f.rows, .int .i64 f.wds, .int .i64 f.lf.lo, .int .i64 f.lf.hi, .slice A n c] 26) (.cells #[.int .i64 0, .int .i64 0, .int .i64 0, .int .i64 0, .slice none 0 0] 26)
  rw [hW0] at hal
  have Q0 := hid hal.1
  have Q1 := hid hal.2.1
  have HZ0 := hid hal.2.2
  clear hal hW0
  obtain ⟨q0, q1, q2, q3, q4⟩ := cells5 Q0.out
  have hlq := heap_lt Q0.out
  have hzl : w.heap.size + 2 ≤ W0.heap.size := by rw [HZ0.out]; exact Nat.le_refl _
  go_wp2_with fail
  generalize hW2 : World.alloc W0 _ = W2
  have hE2 : Ev W0 W2 := by rw [← hW2]; exact Ev.alloc (Ev.refl _) _
  have hC2 : W2.heap[W0.heap.size]? = some (.cells #[.int .i64 f.rows, .int .i64 f.wds, .int .i64 f.lf.lo, .int .i64 f.lf.hi, .slice none 0 0] 26 (0, 0)) := by rw [← hW2]; exact (alloc1 W0 _).1
  have Q0c := hid (hE2.heap Q0.out)
  have Q1c := hid (hE2.heap Q1.out)
  have HC2 := hid hC2
  have hEw := hE0.trans hE2
  have hpw := heap_lt hC2
  clear hW2 hC2 hE2 Q0 Q1 q0 q1 q2 q3 q4
  generalize W0.heap.size = p at *
  go_loopw [6] (fun i wr => ∃ k : Nat, ∃ ys : List M.Tl, ∃ V : Option Addr, ∃ cc : Nat, i = .int .i64 k ∧ k ≤ n ∧ Ev w wr ∧ Hid (wr.heap[w.heap.size]? = some (.cells #[.int .i64 f.rows, .int .i64 f.wds, .int .i64 f.lf.lo, .int .i64 f.lf.hi, .slice A n c] 26 (0, 0))) ∧ Hid (wr.heap[w.heap.size + 1]? = some (.cells #[.int .i64 0, .int .i64 0, .int .i64 0, .int .i64 0, .slice none 0 0] 26 (0, 0))) ∧ Hid (wr.heap[p]? = some (.cells #[.int .i64 f.rows, .int .i64 f.wds, .int .i64 f.lf.lo, .int .i64 f.lf.hi, .slice V ys.length cc] 26 (0, 0))) ∧ wr.ownsRow (p + 1) 90 5 (.slice V ys.length cc) ys.length (ys.flatMap tcs) ∧ ys.length ≤ k ∧ Hid (ys ++ M.keepK rb (f.ts.drop k) k = M.keepK rb f.ts 0)) (fun i _ => n - (intOf i).toNat)
  case atStart => exact ⟨0, [], none, 0, rfl, by omega, hEw, Q0c, Q1c, HC2, World.ownsRow_nil _ _ _ _, by simp, hid rfl⟩
  case round =>
    obtain ⟨k, ys, V, cc, rfl, hk, hB, hQ0, hQ1, hC, hown, hyk, hP⟩ := hrel
    obtain ⟨q0, q1, q2, q3, q4⟩ := cells5 hQ0.out
    have hlq := heap_lt hQ0.out
    have hlp := heap_lt hC.out
    by_cases hlt : k < n
    · obtain ⟨b, off, x, rfl, hb, hx, hd, hcc⟩ := hs.at_ hB hlt
      have e0 := hcc 0 _ rfl
      have e1 := hcc 1 _ rfl
      have e2 := hcc 2 _ rfl
      have e3 := hcc 3 _ rfl
      have e4 := hcc 4 _ rfl
      simp only [Nat.add_zero] at e0
      have hp2 := hP.out
      rw [hd, M.keepK] at hp2
      have g1 : (rb : Int) / 2 ^ k = ((rb / 2 ^ k : Nat) : Int) := by simp
      clear hd hx hcc
      have hcap := hs.cap
      generalize rb / 2 ^ k = q at g1 hp2
      by_cases hq : q % 2 = 1
      · have g2 : (q : Int) % 2 = 1 := by omega
        have g3 : (q : Int).tmod 2 = 1 := by rw [Int.tmod_eq_emod_of_nonneg (by omega)]; exact g2
        rw [if_pos hq] at hp2
        have HP2 := hid hp2
        clear hp2 hq
        go_wp2_with fail
        obtain ⟨y0, y1, y2, y3, y4⟩ := cells5 hC.out
        obtain ⟨f0, f1, f2, f3, f4⟩ := frz5 hC.out
        have hlb : b < wr.heap.size := by have := hB.size; omega
        have HSE : Hid (∀ w', Ev wr w' → (∀ o, w'.cell? ⟨w.heap.size, o, none⟩ = wr.cell? ⟨w.heap.size, o, none⟩) ∧ (∀ o, w'.cell? ⟨b, o, none⟩ = wr.cell? ⟨b, o, none⟩)) := hid (fun w' h => ⟨fun o => h.cells.1 _ o hlq, fun o => h.cells.1 _ o hlb⟩)
        refine wp_region_held_drew (S := fun w' => (∀ o, w'.cell? ⟨w.heap.size, o, none⟩ = wr.cell? ⟨w.heap.size, o, none⟩) ∧ (∀ o, w'.cell? ⟨b, o, none⟩ = wr.cell? ⟨b, o, none⟩)) (by kernel_rfl) ⟨fun o => rfl, fun o => rfl⟩ (fun hHeld => ?_)
        refine wpAnyH_take (i := 0) (v := ?_) rfl (by kernel_rfl) (by kernel_rfl) (by kernel_rfl) (fun _ _ _ h => h) (Or.inl ⟨by rfl, ?hy⟩) (by assumption) ?_
        case hy => (intro w hSw; (try dsimp only at hSw); go_simp; with_reducible rfl)
        (try simp only [Act.put, List.setIfInBounds_toArray, List.set_cons_zero, List.set_cons_succ])
        refine wpAnyH_take (i := 2) (v := ?_) rfl (by kernel_rfl) (by kernel_rfl) (by kernel_rfl) (fun _ _ _ h => h) (Or.inl ⟨by rfl, ?hy⟩) (by assumption) ?_
        case hy => (intro w hSw; (try dsimp only at hSw); go_simp; with_reducible rfl)
        (try simp only [Act.put, List.setIfInBounds_toArray, List.set_cons_zero, List.set_cons_succ])
        refine wpAnyH_take (i := 3) (v := ?_) rfl (by kernel_rfl) (by kernel_rfl) (by kernel_rfl) (fun _ _ _ h => h) (Or.inl ⟨by rfl, ?hy⟩) (by assumption) ?_
        case hy => (intro w hSw; (try dsimp only at hSw); go_simp; with_reducible rfl)
        (try simp only [Act.put, List.setIfInBounds_toArray, List.set_cons_zero, List.set_cons_succ])
        refine wpAnyH_take (i := 4) (v := ?_) rfl (by kernel_rfl) (by kernel_rfl) (by kernel_rfl) (fun _ _ _ h => h) (Or.inl ⟨by rfl, ?hy⟩) (by assumption) ?_
        case hy => (intro w hSw; (try dsimp only at hSw); go_simp; with_reducible rfl)
        (try simp only [Act.put, List.setIfInBounds_toArray, List.set_cons_zero, List.set_cons_succ])
        refine wpAnyH_take (i := 5) (v := ?_) rfl (by kernel_rfl) (by kernel_rfl) (by kernel_rfl) (fun _ _ _ h => h) (Or.inl ⟨by rfl, ?hy⟩) (by assumption) ?_
        case hy => (intro w hSw; (try dsimp only at hSw); go_simp; with_reducible rfl)
        (try simp only [Act.put, List.setIfInBounds_toArray, List.set_cons_zero, List.set_cons_succ])
        refine wpAnyH_take (i := 6) (v := ?_) rfl (by kernel_rfl) (by kernel_rfl) (by kernel_rfl) (fun _ _ _ h => h) (Or.inl ⟨by rfl, ?hy⟩) (by assumption) ?_
        case hy => (intro w hSw; (try dsimp only at hSw); go_simp; with_reducible rfl)
        (try simp only [Act.put, List.setIfInBounds_toArray, List.set_cons_zero, List.set_cons_succ])
        refine wpAnyH_ready (rs := [1, 7]) (by kernel_rfl) (by simp) ?_
        refine AllReadyH.cons rfl (fun K hK => ?_) (AllReadyH.cons rfl (fun K hK => ?_) AllReadyH.nil)
        · go_simp
          refine hK.out _ _ (⟨fun o => rfl, fun o => rfl⟩) (fun hHeld => ?_)
          clear hK K
          (try simp only [Act.put, List.setIfInBounds_toArray, List.set_cons_zero, List.set_cons_succ])
          clear f0 f1 f2 f3 f4
          refine wpAnyH_ready (rs := [7]) (by kernel_rfl) (by simp) ?_
          refine AllReadyH.cons rfl (fun K hK => ?_) AllReadyH.nil
          go_simp
          refine hK.out _ _ (HSE.out _ (Ev.alloc (Ev.drew (Ev.refl wr)) _)) (fun hHeld => ?_)
          clear hK K
          (try simp only [Act.put, List.setIfInBounds_toArray, List.set_cons_zero, List.set_cons_succ])
          have hEA := hid (Ev.alloc (Ev.drew (Ev.refl wr)) (.cells #[.int .i64 x.wd, .int .i64 x.fr, .int .i64 x.to, .int .i64 x.ct.lo, .int .i64 x.ct.hi] 90))
          refine wpAnyH_ready (rs := [8]) (by kernel_rfl) (by simp) ?_
          refine AllReadyH.cons rfl (fun K hK => ?_) AllReadyH.nil
          have hown2 := hown.ev hEA.out
          refine step_append_own rfl (.tmp 23) (.tmp 29) 24 rfl (p + 1) 90 i0 _ 5 40 Try.underlying24 hi0 hz0 hz1 hz2 rfl (by decide) _ ys.length (ys.flatMap tcs) rfl hown2 ⟨wr.heap.size, 0, none⟩ 1 1 [.int .i64 x.wd, .int .i64 x.fr, .int .i64 x.to, .int .i64 x.ct.lo, .int .i64 x.ct.hi] rfl rfl (news_in (alloc1 wr.drew _).1) (by simp [Value.oneCell']) (by unfold maxLen; omega) (by omega) (by simp; omega) ?_
          intro v' w3 hown' hgrow _
          have hown3 : w3.ownsRow (p + 1) 90 5 v' (ys ++ [x]).length ((ys ++ [x]).flatMap tcs) := by rw [List.flatMap_append, List.length_append]; exact hown'
          obtain ⟨V', cc', rfl, _⟩ := Sl.of_own (enc := tcs) (sz := 5) (by decide) (tcs_len _) (by simp; omega) hown3
          have hltA := hown.lt
          have hqp := (hgrow.block p (by simp; omega) (fun e => by have := (hltA p e.symm).1; omega)).trans (hEA.out.heap hC.out)
          have HQP := hid hqp
          have h0g := (hgrow.block w.heap.size (by simp; omega) (fun e => by have := (hltA _ e.symm).1; omega)).trans (hEA.out.heap hQ0.out)
          have h1g := (hgrow.block (w.heap.size + 1) (by simp; omega) (fun e => by have := (hltA _ e.symm).1; omega)).trans (hEA.out.heap hQ1.out)
          have H0G := hid h0g
          have H1G := hid h1g
          have hSg : (∀ o, w3.cell? ⟨w.heap.size, o, none⟩ = wr.cell? ⟨w.heap.size, o, none⟩) ∧ (∀ o, w3.cell? ⟨b, o, none⟩ = wr.cell? ⟨b, o, none⟩) := ⟨fun o => (World.cell?_of_block (hgrow.block w.heap.size (by simp; omega) (fun e => by have := (hltA _ e.symm).1; omega))).trans ((HSE.out _ hEA.out).1 o), fun o => (World.cell?_of_block (hgrow.block b (by simp; omega) (fun e => by have := (hltA _ e.symm).1; omega))).trans ((HSE.out _ hEA.out).2 o)⟩
          have HSG := hid hSg
          have HE3 := hid (Ev.grown (hB.trans hEA.out) hgrow (fun k e => by have := (hltA k e).1; omega))
          have hltB := hid hltA
          clear hqp h0g h1g hSg hltA hown'
          clear y0 y1 y2 y3 y4
          obtain ⟨y0, y1, y2, y3, y4⟩ := cells5 HQP.out
          obtain ⟨f0, f1, f2, f3, f4⟩ := frz5 HQP.out
          refine hK.out _ _ (HSG.out) (fun hHeld => ?_)
          clear hK K
          (try simp only [Act.put, List.setIfInBounds_toArray, List.set_cons_zero, List.set_cons_succ])
          refine wpAnyH_take (i := 9) (v := ?_) rfl (by kernel_rfl) (by kernel_rfl) (by kernel_rfl) (fun _ _ _ h => h) (Or.inl ⟨by rfl, ?hy⟩) (by assumption) ?_
          case hy => (intro w hSw; (try dsimp only at hSw); go_simp; with_reducible rfl)
          (try simp only [Act.put, List.setIfInBounds_toArray, List.set_cons_zero, List.set_cons_succ])
          refine wpAnyH_ready (rs := [10]) (by kernel_rfl) (by simp) ?_
          refine AllReadyH.cons rfl (fun K hK => ?_) AllReadyH.nil
          go_simp
          refine hK.out _ _ (⟨fun o => (cell_set_ne (show w.heap.size ≠ p by omega)).trans (HSG.out.1 o), fun o => (cell_set_ne (show b ≠ p by omega)).trans (HSG.out.2 o)⟩) (fun hHeld => ?_)
          clear hK K
          (try simp only [Act.put, List.setIfInBounds_toArray, List.set_cons_zero, List.set_cons_succ])
          refine wpAnyH_done (by kernel_rfl) ?_ _
          go_wp2
          refine ⟨⟨k + 1, ys ++ [x], V', cc', by go_num, by omega, Ev.setCell HE3.out (by simp; omega) _, hid (set_heap H0G.out (by omega)), hid (set_heap H1G.out (by omega)), hid ?_, ownsRow_setCell_below hown3 (by simp) _, by simp; omega, hid (by rw [List.append_assoc]; exact HP2.out)⟩, by simp [intOf]; omega⟩
          rw [set_heap_same HQP.out, List.length_append]
          rfl
        · clear f0 f1 f2 f3 f4
          go_simp
          refine hK.out _ _ (HSE.out _ (Ev.alloc (Ev.drew (Ev.refl wr)) _)) (fun hHeld => ?_)
          clear hK K
          (try simp only [Act.put, List.setIfInBounds_toArray, List.set_cons_zero, List.set_cons_succ])
          refine wpAnyH_ready (rs := [1]) (by kernel_rfl) (by simp) ?_
          refine AllReadyH.cons rfl (fun K hK => ?_) AllReadyH.nil
          go_simp
          refine hK.out _ _ (HSE.out _ (by first | exact Ev.alloc (Ev.drew (Ev.refl wr)) _ | exact Ev.drew (Ev.alloc (Ev.refl wr) _))) (fun hHeld => ?_)
          clear hK K
          (try simp only [Act.put, List.setIfInBounds_toArray, List.set_cons_zero, List.set_cons_succ])
          have hEA := hid (Ev.alloc (Ev.drew (Ev.refl wr)) (.cells #[.int .i64 x.wd, .int .i64 x.fr, .int .i64 x.to, .int .i64 x.ct.lo, .int .i64 x.ct.hi] 90))
          refine wpAnyH_ready (rs := [8]) (by kernel_rfl) (by simp) ?_
          refine AllReadyH.cons rfl (fun K hK => ?_) AllReadyH.nil
          have hown2 := hown.ev hEA.out
          refine step_append_own rfl (.tmp 23) (.tmp 29) 24 rfl (p + 1) 90 i0 _ 5 40 Try.underlying24 hi0 hz0 hz1 hz2 rfl (by decide) _ ys.length (ys.flatMap tcs) rfl hown2 ⟨wr.heap.size, 0, none⟩ 1 1 [.int .i64 x.wd, .int .i64 x.fr, .int .i64 x.to, .int .i64 x.ct.lo, .int .i64 x.ct.hi] rfl rfl (news_in (alloc1 wr.drew _).1) (by simp [Value.oneCell']) (by unfold maxLen; omega) (by omega) (by simp; omega) ?_
          intro v' w3 hown' hgrow _
          have hown3 : w3.ownsRow (p + 1) 90 5 v' (ys ++ [x]).length ((ys ++ [x]).flatMap tcs) := by rw [List.flatMap_append, List.length_append]; exact hown'
          obtain ⟨V', cc', rfl, _⟩ := Sl.of_own (enc := tcs) (sz := 5) (by decide) (tcs_len _) (by simp; omega) hown3
          have hltA := hown.lt
          have hqp := (hgrow.block p (by simp; omega) (fun e => by have := (hltA p e.symm).1; omega)).trans (hEA.out.heap hC.out)
          have HQP := hid hqp
          have h0g := (hgrow.block w.heap.size (by simp; omega) (fun e => by have := (hltA _ e.symm).1; omega)).trans (hEA.out.heap hQ0.out)
          have h1g := (hgrow.block (w.heap.size + 1) (by simp; omega) (fun e => by have := (hltA _ e.symm).1; omega)).trans (hEA.out.heap hQ1.out)
          have H0G := hid h0g
          have H1G := hid h1g
          have hSg : (∀ o, w3.cell? ⟨w.heap.size, o, none⟩ = wr.cell? ⟨w.heap.size, o, none⟩) ∧ (∀ o, w3.cell? ⟨b, o, none⟩ = wr.cell? ⟨b, o, none⟩) := ⟨fun o => (World.cell?_of_block (hgrow.block w.heap.size (by simp; omega) (fun e => by have := (hltA _ e.symm).1; omega))).trans ((HSE.out _ hEA.out).1 o), fun o => (World.cell?_of_block (hgrow.block b (by simp; omega) (fun e => by have := (hltA _ e.symm).1; omega))).trans ((HSE.out _ hEA.out).2 o)⟩
          have HSG := hid hSg
          have HE3 := hid (Ev.grown (hB.trans hEA.out) hgrow (fun k e => by have := (hltA k e).1; omega))
          have hltB := hid hltA
          clear hqp h0g h1g hSg hltA hown'
          clear y0 y1 y2 y3 y4
          obtain ⟨y0, y1, y2, y3, y4⟩ := cells5 HQP.out
          obtain ⟨f0, f1, f2, f3, f4⟩ := frz5 HQP.out
          refine hK.out _ _ (HSG.out) (fun hHeld => ?_)
          clear hK K
          (try simp only [Act.put, List.setIfInBounds_toArray, List.set_cons_zero, List.set_cons_succ])
          refine wpAnyH_take (i := 9) (v := ?_) rfl (by kernel_rfl) (by kernel_rfl) (by kernel_rfl) (fun _ _ _ h => h) (Or.inl ⟨by rfl, ?hy⟩) (by assumption) ?_
          case hy => (intro w hSw; (try dsimp only at hSw); go_simp; with_reducible rfl)
          (try simp only [Act.put, List.setIfInBounds_toArray, List.set_cons_zero, List.set_cons_succ])
          refine wpAnyH_ready (rs := [10]) (by kernel_rfl) (by simp) ?_
          refine AllReadyH.cons rfl (fun K hK => ?_) AllReadyH.nil
          go_simp
          refine hK.out _ _ (⟨fun o => (cell_set_ne (show w.heap.size ≠ p by omega)).trans (HSG.out.1 o), fun o => (cell_set_ne (show b ≠ p by omega)).trans (HSG.out.2 o)⟩) (fun hHeld => ?_)
          clear hK K
          (try simp only [Act.put, List.setIfInBounds_toArray, List.set_cons_zero, List.set_cons_succ])
          refine wpAnyH_done (by kernel_rfl) ?_ _
          go_wp2
          refine ⟨⟨k + 1, ys ++ [x], V', cc', by go_num, by omega, Ev.setCell HE3.out (by simp; omega) _, hid (set_heap H0G.out (by omega)), hid (set_heap H1G.out (by omega)), hid ?_, ownsRow_setCell_below hown3 (by simp) _, by simp; omega, hid (by rw [List.append_assoc]; exact HP2.out)⟩, by simp [intOf]; omega⟩
          rw [set_heap_same HQP.out, List.length_append]
          rfl
      · have g2 : (q : Int) % 2 = 0 := by omega
        have g3 : (q : Int).tmod 2 = 0 := by rw [Int.tmod_eq_emod_of_nonneg (by omega)]; exact g2
        rw [if_neg hq] at hp2
        have HP2 := hid hp2
        clear hp2 hq
        go_wp2_with fail
        exact ⟨⟨k + 1, ys, V, cc, by go_num, by omega, hB, hQ0, hQ1, hC, hown, by omega, HP2⟩, by simp [intOf]; omega⟩
    · have hsl := hs.len
      have hp2 := hP.out
      rw [List.drop_eq_nil_of_le (by omega), M.keepK, List.append_nil] at hp2
      obtain ⟨y0, y1, y2, y3, y4⟩ := cells5 hC.out
      obtain ⟨z0, z1, z2, z3, z4⟩ := cells5 hQ1.out
      obtain ⟨f0, f1, f2, f3, f4⟩ := frz5 hQ1.out
      have HP2 := hid hp2
      clear hsl hp2 q0 q1 q2 q3
      go_wp2
      have hF := set5 hQ1.out (v0 := .int .i64 f.rows) (v1 := .int .i64 f.wds) (v2 := .int .i64 f.lf.lo) (v3 := .int .i64 f.lf.hi) (v4 := .slice V ys.length cc)
      obtain ⟨x0, x1, x2, x3, x4⟩ := cells5 hF
      have hown5 := ownsRow_setCell_below (ownsRow_setCell_below (ownsRow_setCell_below (ownsRow_setCell_below (ownsRow_setCell_below hown (a := ⟨w.heap.size + 1, 0, none⟩) (by first | (simp; done) | (simp; omega)) (.int .i64 f.rows)) (a := ⟨w.heap.size + 1, 1, none⟩) (by first | (simp; done) | (simp; omega)) (.int .i64 f.wds)) (a := ⟨w.heap.size + 1, 2, none⟩) (by first | (simp; done) | (simp; omega)) (.int .i64 f.lf.lo)) (a := ⟨w.heap.size + 1, 3, none⟩) (by first | (simp; done) | (simp; omega)) (.int .i64 f.lf.hi)) (a := ⟨w.heap.size + 1, 4, none⟩) (by first | (simp; done) | (simp; omega)) (.slice V ys.length cc)
      have hys := HP2.out
      refine bodyPost_ret (v := .agg #[.int .i64 f.rows, .int .i64 f.wds, .int .i64 f.lf.lo, .int .i64 f.lf.hi, .slice V ys.length cc]) (by simp [results, Try.results62, go_sem, x0, x1, x2, x3, x4]) rfl ⟨⟨V, cc, by rw [← hys], ?_⟩, ?_⟩
      · rw [← hys]; exact sl_own (by decide) (tcs_len _) (by omega) hown5
      · refine Ev.setCell (Ev.setCell (Ev.setCell (Ev.setCell (Ev.setCell hB ?_ _) ?_ _) ?_ _) ?_ _) ?_ _ <;> simp

end Go.Proofs.Ytcecmphdmpeibaa
