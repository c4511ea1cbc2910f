import Derived.Test.YtcecmphdmpeibaaL9
import Derived.Test.YtcecmphdmpeibaaU5
import Derived.Deep.DeepCutAuto
set_option linter.unusedSimpArgs false
namespace Go.Proofs.Ytcecmphdmpeibaa
open Go.RowKit

theorem set5_ne {w : World} {b p : Nat} {v0 v1 v2 v3 v4 : Value} (h : b ≠ p) (o : Nat) : (((((w.setCell ⟨p, 0, none⟩ v0).setCell ⟨p, 1, none⟩ v1).setCell ⟨p, 2, none⟩ v2).setCell ⟨p, 3, none⟩ v3).setCell ⟨p, 4, none⟩ v4).cell? ⟨b, o, none⟩ = w.cell? ⟨b, o, none⟩ := by
  rw [cell_set_ne h, cell_set_ne h, cell_set_ne h, cell_set_ne h, cell_set_ne h]

set_option maxRecDepth 100000 in
set_option maxHeartbeats 2000000 in
theorem Field_c (f : M.Fl) (A : Option Addr) (n c : Nat) (hn : n ≤ 100) (w : World) (hs : Sl tcs 5 w w.heap.size A n c f.ts) :
    Calls Try.prog 24 #[.agg #[.int .i64 f.rows, .int .i64 f.wds, .int .i64 f.lf.lo, .int .i64 f.lf.hi, .slice A n c]] w fun e w' => (∃ B d, e = .returned (.agg #[.int .i64 f.rows, .int .i64 f.wds, .int .i64 f.lf.lo, .int .i64 f.lf.hi, .slice B n d]) ∧ Sl tcs 5 w' w'.heap.size B n d f.ts) ∧ Ev w w' := by
  obtain ⟨i0, hi0, hz0, hz1, hz2⟩ := info_parts info73
  go_enter Try.func24, Try.ntmps24
  go_upto_region 1 with fail
  generalize hW0 : World.alloc (World.alloc w _) _ = W0
  have hE0 : Ev w W0 := by rw [← hW0]; exact Ev.alloc (Ev.alloc (Ev.refl _) _) _
  have hal := alloc2 w (.cells #[.int .i64 f.rows, .int .i64 f.wds, .int .i64 f.lf.lo, .int .i64 f.lf.hi, .slice A n c] 26) (.cells #[.int .i64 0, .int .i64 0, .int .i64 0, .int .i64 0, .slice none 0 0] 36)
  rw [hW0] at hal
  have Q0 := hid hal.1
  have Q1 := hid hal.2.1
  have HZ0 := hid hal.2.2
  have hzl : w.heap.size + 2 ≤ W0.heap.size := by rw [HZ0.out]; exact Nat.le_refl _
  clear hal hW0
  obtain ⟨q0, q1, q2, q3, q4⟩ := cells5 Q0.out
  have hlq := heap_lt Q0.out
  have HSE : Hid (∀ w', Ev W0 w' → ∀ o, w'.cell? ⟨w.heap.size, o, none⟩ = W0.cell? ⟨w.heap.size, o, none⟩) := hid (fun w' h o => h.cells.1 _ o hlq)
  go_cut [3] (fun v W1 => ∃ p : Nat, v = .pointer (some ⟨p, 0, none⟩) ∧ Ev W0 W1 ∧ W0.heap.size ≤ p ∧ W1.heap[p]? = some (.cells #[.int .i64 f.rows, .int .i64 f.wds, .int .i64 f.lf.lo, .int .i64 f.lf.hi, .slice none 0 0] 36 (0, 0)))
  case first =>
    refine wp_region_held_drew (S := fun w' => ∀ o, w'.cell? ⟨w.heap.size, o, none⟩ = W0.cell? ⟨w.heap.size, o, none⟩) (by kernel_rfl) (fun o => rfl) (fun hHeld => ?_)
    refine wpAnyH_take (i := 0) (v := ?_) rfl (by kernel_rfl) (by kernel_rfl) (by kernel_rfl) (fun _ _ _ h => h) (Or.inl ⟨by rfl, ?hy⟩) (by assumption) ?_
    case hy => (intro w hSw; (try dsimp only at hSw); go_simp; with_reducible rfl)
    (try simp only [Act.put, List.setIfInBounds_toArray, List.set_cons_zero, List.set_cons_succ])
    refine wpAnyH_take (i := 1) (v := ?_) rfl (by kernel_rfl) (by kernel_rfl) (by kernel_rfl) (fun _ _ _ h => h) (Or.inl ⟨by rfl, ?hy⟩) (by assumption) ?_
    case hy => (intro w hSw; (try dsimp only at hSw); go_simp; with_reducible rfl)
    (try simp only [Act.put, List.setIfInBounds_toArray, List.set_cons_zero, List.set_cons_succ])
    refine wpAnyH_take (i := 2) (v := ?_) rfl (by kernel_rfl) (by kernel_rfl) (by kernel_rfl) (fun _ _ _ h => h) (Or.inl ⟨by rfl, ?hy⟩) (by assumption) ?_
    case hy => (intro w hSw; (try dsimp only at hSw); go_simp; with_reducible rfl)
    (try simp only [Act.put, List.setIfInBounds_toArray, List.set_cons_zero, List.set_cons_succ])
    refine wpAnyH_take (i := 3) (v := ?_) rfl (by kernel_rfl) (by kernel_rfl) (by kernel_rfl) (fun _ _ _ h => h) (Or.inl ⟨by rfl, ?hy⟩) (by assumption) ?_
    case hy => (intro w hSw; (try dsimp only at hSw); go_simp; with_reducible rfl)
    (try simp only [Act.put, List.setIfInBounds_toArray, List.set_cons_zero, List.set_cons_succ])
    refine wpAnyH_take (i := 4) (v := ?_) rfl (by kernel_rfl) (by kernel_rfl) (by kernel_rfl) (fun _ _ _ h => h) (Or.inl ⟨by rfl, ?hy⟩) (by assumption) ?_
    case hy => (intro w hSw; (try dsimp only at hSw); go_simp; with_reducible rfl)
    (try simp only [Act.put, List.setIfInBounds_toArray, List.set_cons_zero, List.set_cons_succ])
    refine wpAnyH_take (i := 5) (v := ?_) rfl (by kernel_rfl) (by kernel_rfl) (by kernel_rfl) (fun _ _ _ h => h) (Or.inl ⟨by rfl, ?hy⟩) (by assumption) ?_
    case hy => (intro w hSw; (try dsimp only at hSw); go_simp; with_reducible rfl)
    (try simp only [Act.put, List.setIfInBounds_toArray, List.set_cons_zero, List.set_cons_succ])
    refine wpAnyH_ready (rs := [6, 8]) (by kernel_rfl) (by simp) ?_
    refine AllReadyH.cons rfl (fun K hK => ?_) (AllReadyH.cons rfl (fun K hK => ?_) AllReadyH.nil)
    · go_simp
      refine (to_c f.lf _).mono ?_
      rintro e w1 ⟨rfl, hb1⟩
      refine hK.out _ _ (HSE.out _ (Ev.trans (Ev.drew (Ev.refl _)) hb1)) (fun hHeld => ?_)
      clear hK K
      (try simp only [Act.put, List.setIfInBounds_toArray, List.set_cons_zero, List.set_cons_succ])
      refine wpAnyH_take (i := 7) (v := ?_) rfl (by kernel_rfl) (by kernel_rfl) (by kernel_rfl) (fun _ _ _ h => h) (Or.inl ⟨by rfl, ?hy⟩) (by assumption) ?_
      case hy => (intro w hSw; (try dsimp only at hSw); go_simp; with_reducible rfl)
      (try simp only [Act.put, List.setIfInBounds_toArray, List.set_cons_zero, List.set_cons_succ])
      refine wpAnyH_ready (rs := [8]) (by kernel_rfl) (by simp) ?_
      refine AllReadyH.cons rfl (fun K hK => ?_) AllReadyH.nil
      go_simp
      refine hK.out _ _ (HSE.out _ (Ev.alloc (Ev.trans (Ev.drew (Ev.refl _)) hb1) _)) (fun hHeld => ?_)
      clear hK K
      (try simp only [Act.put, List.setIfInBounds_toArray, List.set_cons_zero, List.set_cons_succ])
      refine wpAnyH_ready (rs := [9]) (by kernel_rfl) (by simp) ?_
      refine AllReadyH.cons rfl (fun K hK => ?_) AllReadyH.nil
      go_simp
      refine hK.out _ _ (HSE.out _ (Ev.alloc (Ev.trans (Ev.drew (Ev.refl _)) hb1) _)) (fun hHeld => ?_)
      clear hK K
      (try simp only [Act.put, List.setIfInBounds_toArray, List.set_cons_zero, List.set_cons_succ])
      refine wpAnyH_done (by kernel_rfl) ?_ _
      go_wp2_with fail
      go_meet
      exact ⟨w1.heap.size, rfl, Ev.alloc (Ev.trans (Ev.drew (Ev.refl _)) hb1) _, by have := hb1.size; simp at this; omega, (alloc1 w1 _).1⟩
    · go_simp
      refine hK.out _ _ (HSE.out _ (Ev.alloc (Ev.drew (Ev.refl _)) _)) (fun hHeld => ?_)
      clear hK K
      (try simp only [Act.put, List.setIfInBounds_toArray, List.set_cons_zero, List.set_cons_succ])
      refine wpAnyH_ready (rs := [6]) (by kernel_rfl) (by simp) ?_
      refine AllReadyH.cons rfl (fun K hK => ?_) AllReadyH.nil
      go_simp
      refine (to_c f.lf _).mono ?_
      rintro e w1 ⟨rfl, hb1⟩
      have hq9 : w1.heap[W0.heap.size]? = some (.cells #[.int .i64 0, .int .i64 0, .int .i64 0, .int .i64 0, .slice none 0 0] 36 (0, 0)) := hb1.heap (alloc1 W0.drew (.cells #[.int .i64 0, .int .i64 0, .int .i64 0, .int .i64 0, .slice none 0 0] 36)).1
      obtain ⟨y0, y1, y2, y3, y4⟩ := cells5 hq9
      obtain ⟨f0, f1, f2, f3, f4⟩ := frz5 hq9
      have HQ9 := hid hq9
      clear hq9
      have hE9 := hid (Ev.trans (Ev.alloc (Ev.drew (Ev.refl W0)) (.cells #[.int .i64 0, .int .i64 0, .int .i64 0, .int .i64 0, .slice none 0 0] 36)) hb1)
      refine hK.out _ _ (HSE.out _ hE9.out) (fun hHeld => ?_)
      clear hK K
      (try simp only [Act.put, List.setIfInBounds_toArray, List.set_cons_zero, List.set_cons_succ])
      refine wpAnyH_take (i := 7) (v := ?_) rfl (by kernel_rfl) (by kernel_rfl) (by kernel_rfl) (fun _ _ _ h => h) (Or.inl ⟨by rfl, ?hy⟩) (by assumption) ?_
      case hy => (intro w hSw; (try dsimp only at hSw); go_simp; with_reducible rfl)
      (try simp only [Act.put, List.setIfInBounds_toArray, List.set_cons_zero, List.set_cons_succ])
      refine wpAnyH_ready (rs := [9]) (by kernel_rfl) (by simp) ?_
      refine AllReadyH.cons rfl (fun K hK => ?_) AllReadyH.nil
      go_simp
      refine hK.out _ _ (fun o => (set5_ne (show w.heap.size ≠ W0.heap.size by omega) o).trans (HSE.out _ hE9.out o)) (fun hHeld => ?_)
      clear hK K
      (try simp only [Act.put, List.setIfInBounds_toArray, List.set_cons_zero, List.set_cons_succ])
      refine wpAnyH_done (by kernel_rfl) ?_ _
      go_wp2_with fail
      go_meet
      refine ⟨W0.heap.size, rfl, ?_, Nat.le_refl _, set5 HQ9.out⟩
      refine Ev.setCell (Ev.setCell (Ev.setCell (Ev.setCell (Ev.setCell hE9.out ?_ _) ?_ _) ?_ _) ?_ _) ?_ _ <;> simp
  case rest =>
    obtain ⟨p, rfl, hE1, hp0, hC1⟩ := hcut
    have Q0c := hid (hE1.heap Q0.out)
    have Q1c := hid (hE1.heap Q1.out)
    have HC1 := hid hC1
    have hpw := heap_lt hC1
    have hEw := hE0.trans hE1
    have hzw : w.heap.size + 2 ≤ p := by omega
    clear hC1 q0 q1 q2 q3 q4 HSE Q0 Q1
    go_wp2_with fail
    go_loopw [4] (fun i wr => ∃ k : Nat, ∃ V : Option Addr, ∃ cc : Nat, i = .int .i64 k ∧ k ≤ n ∧ Ev w wr ∧ Hid (wr.heap[w.heap.size]? = some (.cells #[.int .i64 f.rows, .int .i64 f.wds, .int .i64 f.lf.lo, .int .i64 f.lf.hi, .slice A n c] 26 (0, 0))) ∧ Hid (wr.heap[w.heap.size + 1]? = some (.cells #[.int .i64 0, .int .i64 0, .int .i64 0, .int .i64 0, .slice none 0 0] 36 (0, 0))) ∧ Hid (wr.heap[p]? = some (.cells #[.int .i64 f.rows, .int .i64 f.wds, .int .i64 f.lf.lo, .int .i64 f.lf.hi, .slice V k cc] 36 (0, 0))) ∧ wr.ownsRow (p + 1) 73 5 (.slice V k cc) k ((f.ts.take k).flatMap tcs)) (fun i _ => n - (intOf i).toNat)
    case atStart => exact ⟨0, none, 0, rfl, by omega, hEw, Q0c, Q1c, HC1, World.ownsRow_nil _ _ _ _⟩
    case round =>
      obtain ⟨k, V, cc, rfl, hk, hB, hQ0, hQ1, hC, hown⟩ := hrel
      obtain ⟨q0, q1, q2, q3, q4⟩ := cells5 hQ0.out
      have hlq := heap_lt hQ0.out
      have hlp := heap_lt hC.out
      by_cases hlt : k < n
      · obtain ⟨b, off, x, rfl, hb, hx, hd, hcc⟩ := hs.at_ hB hlt
        have e0 := hcc 0 _ rfl
        have e1 := hcc 1 _ rfl
        have e2 := hcc 2 _ rfl
        have e3 := hcc 3 _ rfl
        have e4 := hcc 4 _ rfl
        simp only [Nat.add_zero] at e0
        have HX := hid hx
        clear hd hx hcc
        go_wp2_with fail
        generalize hW1 : World.alloc wr _ = W1
        have hE2 : Ev wr W1 := by rw [← hW1]; exact Ev.alloc (Ev.refl _) _
        have hT := (alloc1 wr (.cells #[.int .i64 x.wd, .int .i64 x.fr, .int .i64 x.to, .int .i64 x.ct.lo, .int .i64 x.ct.hi] 90))
        rw [hW1] at hT
        have hTs := hT.2
        obtain ⟨t0, t1, t2, t3, t4⟩ := cells5 hT.1
        clear hT hW1 e0 e1 e2 e3 e4 q0 q1 q2 q3 q4
        obtain ⟨y0, y1, y2, y3, y4⟩ := cells5 (hE2.heap hC.out)
        obtain ⟨f0, f1, f2, f3, f4⟩ := frz5 (hE2.heap hC.out)
        have HCW := hid (hE2.heap hC.out)
        have hown1 := hown.ev hE2
        have hlt1 := hid hown1.lt
        have hlw : wr.heap.size < W1.heap.size := by omega
        have HSE : Hid (∀ w', Ev W1 w' → ∀ o, w'.cell? ⟨wr.heap.size, o, none⟩ = W1.cell? ⟨wr.heap.size, o, none⟩) := hid (fun w' h o => h.cells.1 _ o hlw)
        refine wp_region_held_drew (S := fun w' => ∀ o, w'.cell? ⟨wr.heap.size, o, none⟩ = W1.cell? ⟨wr.heap.size, o, none⟩) (by kernel_rfl) (fun o => rfl) (fun hHeld => ?_)
        refine wpAnyH_take (i := 0) (v := ?_) rfl (by kernel_rfl) (by kernel_rfl) (by kernel_rfl) (fun _ _ _ h => h) (Or.inl ⟨by rfl, ?hy⟩) (by assumption) ?_
        case hy => (intro w hSw; (try dsimp only at hSw); go_simp; with_reducible rfl)
        (try simp only [Act.put, List.setIfInBounds_toArray, List.set_cons_zero, List.set_cons_succ])
        refine wpAnyH_take (i := 2) (v := ?_) rfl (by kernel_rfl) (by kernel_rfl) (by kernel_rfl) (fun _ _ _ h => h) (Or.inl ⟨by rfl, ?hy⟩) (by assumption) ?_
        case hy => (intro w hSw; (try dsimp only at hSw); go_simp; with_reducible rfl)
        (try simp only [Act.put, List.setIfInBounds_toArray, List.set_cons_zero, List.set_cons_succ])
        refine wpAnyH_take (i := 3) (v := ?_) rfl (by kernel_rfl) (by kernel_rfl) (by kernel_rfl) (fun _ _ _ h => h) (Or.inl ⟨by rfl, ?hy⟩) (by assumption) ?_
        case hy => (intro w hSw; (try dsimp only at hSw); go_simp; with_reducible rfl)
        (try simp only [Act.put, List.setIfInBounds_toArray, List.set_cons_zero, List.set_cons_succ])
        refine wpAnyH_take (i := 4) (v := ?_) rfl (by kernel_rfl) (by kernel_rfl) (by kernel_rfl) (fun _ _ _ h => h) (Or.inl ⟨by rfl, ?hy⟩) (by assumption) ?_
        case hy => (intro w hSw; (try dsimp only at hSw); go_simp; with_reducible rfl)
        (try simp only [Act.put, List.setIfInBounds_toArray, List.set_cons_zero, List.set_cons_succ])
        refine wpAnyH_take (i := 5) (v := ?_) rfl (by kernel_rfl) (by kernel_rfl) (by kernel_rfl) (fun _ _ _ h => h) (Or.inl ⟨by rfl, ?hy⟩) (by assumption) ?_
        case hy => (intro w hSw; (try dsimp only at hSw); go_simp; with_reducible rfl)
        (try simp only [Act.put, List.setIfInBounds_toArray, List.set_cons_zero, List.set_cons_succ])
        refine wpAnyH_take (i := 6) (v := ?_) rfl (by kernel_rfl) (by kernel_rfl) (by kernel_rfl) (fun _ _ _ h => h) (Or.inl ⟨by rfl, ?hy⟩) (by assumption) ?_
        case hy => (intro w hSw; (try dsimp only at hSw); go_simp; with_reducible rfl)
        (try simp only [Act.put, List.setIfInBounds_toArray, List.set_cons_zero, List.set_cons_succ])
        refine wpAnyH_take (i := 7) (v := ?_) rfl (by kernel_rfl) (by kernel_rfl) (by kernel_rfl) (fun _ _ _ h => h) (Or.inl ⟨by rfl, ?hy⟩) (by assumption) ?_
        case hy => (intro w hSw; (try dsimp only at hSw); go_simp; with_reducible rfl)
        (try simp only [Act.put, List.setIfInBounds_toArray, List.set_cons_zero, List.set_cons_succ])
        refine wpAnyH_take (i := 8) (v := ?_) rfl (by kernel_rfl) (by kernel_rfl) (by kernel_rfl) (fun _ _ _ h => h) (Or.inl ⟨by rfl, ?hy⟩) (by assumption) ?_
        case hy => (intro w hSw; (try dsimp only at hSw); go_simp; with_reducible rfl)
        (try simp only [Act.put, List.setIfInBounds_toArray, List.set_cons_zero, List.set_cons_succ])
        refine wpAnyH_take (i := 9) (v := ?_) rfl (by kernel_rfl) (by kernel_rfl) (by kernel_rfl) (fun _ _ _ h => h) (Or.inl ⟨by rfl, ?hy⟩) (by assumption) ?_
        case hy => (intro w hSw; (try dsimp only at hSw); go_simp; with_reducible rfl)
        (try simp only [Act.put, List.setIfInBounds_toArray, List.set_cons_zero, List.set_cons_succ])
        refine wpAnyH_ready (rs := [1, 10]) (by kernel_rfl) (by simp) ?_
        refine AllReadyH.cons rfl (fun K hK => ?_) (AllReadyH.cons rfl (fun K hK => ?_) AllReadyH.nil)
        · go_simp
          refine hK.out _ _ (fun o => rfl) (fun hHeld => ?_)
          clear hK K
          (try simp only [Act.put, List.setIfInBounds_toArray, List.set_cons_zero, List.set_cons_succ])
          clear f0 f1 f2 f3 f4
          refine wpAnyH_ready (rs := [10]) (by kernel_rfl) (by simp) ?_
          refine AllReadyH.cons rfl (fun K hK => ?_) AllReadyH.nil
          go_simp
          refine (to_c x.ct _).mono ?_
          rintro e w1 ⟨rfl, hb1⟩
          have hE9 := hid (Ev.trans (Ev.drew (Ev.refl W1)) hb1)
          refine hK.out _ _ (HSE.out _ hE9.out) (fun hHeld => ?_)
          clear hK K
          (try simp only [Act.put, List.setIfInBounds_toArray, List.set_cons_zero, List.set_cons_succ])
          refine wpAnyH_take (i := 11) (v := ?_) rfl (by kernel_rfl) (by kernel_rfl) (by kernel_rfl) (fun _ _ _ h => h) (Or.inl ⟨by rfl, ?hy⟩) (by assumption) ?_
          case hy => (intro w hSw; (try dsimp only at hSw); go_simp; with_reducible rfl)
          (try simp only [Act.put, List.setIfInBounds_toArray, List.set_cons_zero, List.set_cons_succ])
          refine wpAnyH_ready (rs := [12]) (by kernel_rfl) (by simp) ?_
          refine AllReadyH.cons rfl (fun K hK => ?_) AllReadyH.nil
          go_simp
          refine hK.out _ _ (HSE.out _ (Ev.alloc hE9.out _)) (fun hHeld => ?_)
          clear hK K
          (try simp only [Act.put, List.setIfInBounds_toArray, List.set_cons_zero, List.set_cons_succ])
          have hEA := hid (Ev.alloc hE9.out (.cells #[.int .i64 x.wd, .int .i64 x.fr, .int .i64 x.to, .int .i64 x.ct.lo, .int .i64 x.ct.hi] 73))
          refine wpAnyH_ready (rs := [13]) (by kernel_rfl) (by simp) ?_
          refine AllReadyH.cons rfl (fun K hK => ?_) AllReadyH.nil
          have hown2 := hown1.ev hEA.out
          have hps := hE9.out.size
          refine step_append_own rfl (.tmp 27) (.tmp 38) 34 rfl (p + 1) 73 i0 _ 5 40 Try.underlying34 hi0 hz0 hz1 hz2 rfl (by decide) _ k ((f.ts.take k).flatMap tcs) rfl hown2 ⟨w1.heap.size, 0, none⟩ 1 1 [.int .i64 x.wd, .int .i64 x.fr, .int .i64 x.to, .int .i64 x.ct.lo, .int .i64 x.ct.hi] rfl rfl (news_in (alloc1 w1 _).1) (by simp [Value.oneCell']) (by unfold maxLen; omega) (by omega) (by simp; omega) ?_
          intro v' w3 hown' hgrow _
          have htk : (f.ts.take (k + 1)) = f.ts.take k ++ [x] := by rw [List.take_add_one, HX.out]; rfl
          have hown3 : w3.ownsRow (p + 1) 73 5 v' (k + 1) ((f.ts.take (k + 1)).flatMap tcs) := by rw [htk, List.flatMap_append]; exact hown'
          obtain ⟨V', cc', rfl, _⟩ := Sl.of_own (enc := tcs) (sz := 5) (by decide) (tcs_len _) (by omega) hown3
          have hltA := hown.lt
          have hqp := (hgrow.block p (by simp; omega) (fun e => by have := (hltA p e.symm).1; omega)).trans (hEA.out.heap HCW.out)
          have HQP := hid hqp
          have h0g := (hgrow.block w.heap.size (by simp; omega) (fun e => by have := (hltA _ e.symm).1; omega)).trans (hEA.out.heap (hE2.heap hQ0.out))
          have h1g := (hgrow.block (w.heap.size + 1) (by simp; omega) (fun e => by have := (hltA _ e.symm).1; omega)).trans (hEA.out.heap (hE2.heap hQ1.out))
          have H0G := hid h0g
          have H1G := hid h1g
          have hSg : ∀ o, w3.cell? ⟨wr.heap.size, o, none⟩ = W1.cell? ⟨wr.heap.size, o, none⟩ := fun o => (World.cell?_of_block (hgrow.block wr.heap.size (by simp; omega) (fun e => by have := (hltA _ e.symm).2; omega))).trans (HSE.out _ hEA.out o)
          have HSG := hid hSg
          have HE3 := hid (Ev.grown (hB.trans (hE2.trans hEA.out)) hgrow (fun k e => by have := (hltA k e).1; omega))
          have hltB := hid hltA
          clear hqp h0g h1g hSg htk hltA hown'
          clear y0 y1 y2 y3 y4
          obtain ⟨y0, y1, y2, y3, y4⟩ := cells5 HQP.out
          obtain ⟨f0, f1, f2, f3, f4⟩ := frz5 HQP.out
          refine hK.out _ _ (HSG.out) (fun hHeld => ?_)
          clear hK K
          (try simp only [Act.put, List.setIfInBounds_toArray, List.set_cons_zero, List.set_cons_succ])
          refine wpAnyH_take (i := 14) (v := ?_) rfl (by kernel_rfl) (by kernel_rfl) (by kernel_rfl) (fun _ _ _ h => h) (Or.inl ⟨by rfl, ?hy⟩) (by assumption) ?_
          case hy => (intro w hSw; (try dsimp only at hSw); go_simp; with_reducible rfl)
          (try simp only [Act.put, List.setIfInBounds_toArray, List.set_cons_zero, List.set_cons_succ])
          refine wpAnyH_ready (rs := [15]) (by kernel_rfl) (by simp) ?_
          refine AllReadyH.cons rfl (fun K hK => ?_) AllReadyH.nil
          go_simp
          refine hK.out _ _ (fun o => (cell_set_ne (show wr.heap.size ≠ p by omega)).trans (HSG.out o)) (fun hHeld => ?_)
          clear hK K
          (try simp only [Act.put, List.setIfInBounds_toArray, List.set_cons_zero, List.set_cons_succ])
          refine wpAnyH_done (by kernel_rfl) ?_ _
          go_wp2
          refine ⟨⟨k + 1, V', cc', by go_num, by omega, Ev.setCell HE3.out (by simp; omega) _, hid (set_heap H0G.out (by omega)), hid (set_heap H1G.out (by omega)), hid ?_, ownsRow_setCell_below hown3 (by simp) _⟩, by simp [intOf]; omega⟩
          rw [set_heap_same HQP.out]
          rfl
        · clear f0 f1 f2 f3 f4
          go_simp
          refine (to_c x.ct _).mono ?_
          rintro e w1 ⟨rfl, hb1⟩
          have hE9 := hid (Ev.trans (Ev.drew (Ev.refl W1)) hb1)
          refine hK.out _ _ (HSE.out _ hE9.out) (fun hHeld => ?_)
          clear hK K
          (try simp only [Act.put, List.setIfInBounds_toArray, List.set_cons_zero, List.set_cons_succ])
          clear y0 y1 y2 y3 y4
          obtain ⟨y0, y1, y2, y3, y4⟩ := cells5 (hE9.out.heap HCW.out)
          refine wpAnyH_take (i := 11) (v := ?_) rfl (by kernel_rfl) (by kernel_rfl) (by kernel_rfl) (fun _ _ _ h => h) (Or.inl ⟨by rfl, ?hy⟩) (by assumption) ?_
          case hy => (intro w hSw; (try dsimp only at hSw); go_simp; with_reducible rfl)
          (try simp only [Act.put, List.setIfInBounds_toArray, List.set_cons_zero, List.set_cons_succ])
          refine wpAnyH_ready (rs := [1, 12]) (by kernel_rfl) (by simp) ?_
          refine AllReadyH.cons rfl (fun K hK => ?_) (AllReadyH.cons rfl (fun K hK => ?_) AllReadyH.nil)
          · go_simp
            refine hK.out _ _ (HSE.out _ hE9.out) (fun hHeld => ?_)
            clear hK K
            (try simp only [Act.put, List.setIfInBounds_toArray, List.set_cons_zero, List.set_cons_succ])
            refine wpAnyH_ready (rs := [12]) (by kernel_rfl) (by simp) ?_
            refine AllReadyH.cons rfl (fun K hK => ?_) AllReadyH.nil
            go_simp
            refine hK.out _ _ (HSE.out _ (Ev.alloc hE9.out _)) (fun hHeld => ?_)
            clear hK K
            (try simp only [Act.put, List.setIfInBounds_toArray, List.set_cons_zero, List.set_cons_succ])
            have hEA := hid (Ev.alloc hE9.out (.cells #[.int .i64 x.wd, .int .i64 x.fr, .int .i64 x.to, .int .i64 x.ct.lo, .int .i64 x.ct.hi] 73))
            refine wpAnyH_ready (rs := [13]) (by kernel_rfl) (by simp) ?_
            refine AllReadyH.cons rfl (fun K hK => ?_) AllReadyH.nil
            have hown2 := hown1.ev hEA.out
            have hps := hE9.out.size
            refine step_append_own rfl (.tmp 27) (.tmp 38) 34 rfl (p + 1) 73 i0 _ 5 40 Try.underlying34 hi0 hz0 hz1 hz2 rfl (by decide) _ k ((f.ts.take k).flatMap tcs) rfl hown2 ⟨w1.heap.size, 0, none⟩ 1 1 [.int .i64 x.wd, .int .i64 x.fr, .int .i64 x.to, .int .i64 x.ct.lo, .int .i64 x.ct.hi] rfl rfl (news_in (alloc1 w1 _).1) (by simp [Value.oneCell']) (by unfold maxLen; omega) (by omega) (by simp; omega) ?_
            intro v' w3 hown' hgrow _
            have htk : (f.ts.take (k + 1)) = f.ts.take k ++ [x] := by rw [List.take_add_one, HX.out]; rfl
            have hown3 : w3.ownsRow (p + 1) 73 5 v' (k + 1) ((f.ts.take (k + 1)).flatMap tcs) := by rw [htk, List.flatMap_append]; exact hown'
            obtain ⟨V', cc', rfl, _⟩ := Sl.of_own (enc := tcs) (sz := 5) (by decide) (tcs_len _) (by omega) hown3
            have hltA := hown.lt
            have hqp := (hgrow.block p (by simp; omega) (fun e => by have := (hltA p e.symm).1; omega)).trans (hEA.out.heap HCW.out)
            have HQP := hid hqp
            have h0g := (hgrow.block w.heap.size (by simp; omega) (fun e => by have := (hltA _ e.symm).1; omega)).trans (hEA.out.heap (hE2.heap hQ0.out))
            have h1g := (hgrow.block (w.heap.size + 1) (by simp; omega) (fun e => by have := (hltA _ e.symm).1; omega)).trans (hEA.out.heap (hE2.heap hQ1.out))
            have H0G := hid h0g
            have H1G := hid h1g
            have hSg : ∀ o, w3.cell? ⟨wr.heap.size, o, none⟩ = W1.cell? ⟨wr.heap.size, o, none⟩ := fun o => (World.cell?_of_block (hgrow.block wr.heap.size (by simp; omega) (fun e => by have := (hltA _ e.symm).2; omega))).trans (HSE.out _ hEA.out o)
            have HSG := hid hSg
            have HE3 := hid (Ev.grown (hB.trans (hE2.trans hEA.out)) hgrow (fun k e => by have := (hltA k e).1; omega))
            have hltB := hid hltA
            clear hqp h0g h1g hSg htk hltA hown'
            clear y0 y1 y2 y3 y4
            obtain ⟨y0, y1, y2, y3, y4⟩ := cells5 HQP.out
            obtain ⟨f0, f1, f2, f3, f4⟩ := frz5 HQP.out
            refine hK.out _ _ (HSG.out) (fun hHeld => ?_)
            clear hK K
            (try simp only [Act.put, List.setIfInBounds_toArray, List.set_cons_zero, List.set_cons_succ])
            refine wpAnyH_take (i := 14) (v := ?_) rfl (by kernel_rfl) (by kernel_rfl) (by kernel_rfl) (fun _ _ _ h => h) (Or.inl ⟨by rfl, ?hy⟩) (by assumption) ?_
            case hy => (intro w hSw; (try dsimp only at hSw); go_simp; with_reducible rfl)
            (try simp only [Act.put, List.setIfInBounds_toArray, List.set_cons_zero, List.set_cons_succ])
            refine wpAnyH_ready (rs := [15]) (by kernel_rfl) (by simp) ?_
            refine AllReadyH.cons rfl (fun K hK => ?_) AllReadyH.nil
            go_simp
            refine hK.out _ _ (fun o => (cell_set_ne (show wr.heap.size ≠ p by omega)).trans (HSG.out o)) (fun hHeld => ?_)
            clear hK K
            (try simp only [Act.put, List.setIfInBounds_toArray, List.set_cons_zero, List.set_cons_succ])
            refine wpAnyH_done (by kernel_rfl) ?_ _
            go_wp2
            refine ⟨⟨k + 1, V', cc', by go_num, by omega, Ev.setCell HE3.out (by simp; omega) _, hid (set_heap H0G.out (by omega)), hid (set_heap H1G.out (by omega)), hid ?_, ownsRow_setCell_below hown3 (by simp) _⟩, by simp [intOf]; omega⟩
            rw [set_heap_same HQP.out]
            rfl
          · go_simp
            refine hK.out _ _ (HSE.out _ (Ev.alloc hE9.out _)) (fun hHeld => ?_)
            clear hK K
            (try simp only [Act.put, List.setIfInBounds_toArray, List.set_cons_zero, List.set_cons_succ])
            clear y0 y1 y2 y3 y4
            obtain ⟨y0, y1, y2, y3, y4⟩ := cells5 ((Ev.alloc hE9.out (.cells #[.int .i64 x.wd, .int .i64 x.fr, .int .i64 x.to, .int .i64 x.ct.lo, .int .i64 x.ct.hi] 73)).heap HCW.out)
            refine wpAnyH_ready (rs := [1]) (by kernel_rfl) (by simp) ?_
            refine AllReadyH.cons rfl (fun K hK => ?_) AllReadyH.nil
            go_simp
            refine hK.out _ _ (HSE.out _ (Ev.alloc hE9.out _)) (fun hHeld => ?_)
            clear hK K
            (try simp only [Act.put, List.setIfInBounds_toArray, List.set_cons_zero, List.set_cons_succ])
            have hEA := hid (Ev.alloc hE9.out (.cells #[.int .i64 x.wd, .int .i64 x.fr, .int .i64 x.to, .int .i64 x.ct.lo, .int .i64 x.ct.hi] 73))
            refine wpAnyH_ready (rs := [13]) (by kernel_rfl) (by simp) ?_
            refine AllReadyH.cons rfl (fun K hK => ?_) AllReadyH.nil
            have hown2 := hown1.ev hEA.out
            have hps := hE9.out.size
            refine step_append_own rfl (.tmp 27) (.tmp 38) 34 rfl (p + 1) 73 i0 _ 5 40 Try.underlying34 hi0 hz0 hz1 hz2 rfl (by decide) _ k ((f.ts.take k).flatMap tcs) rfl hown2 ⟨w1.heap.size, 0, none⟩ 1 1 [.int .i64 x.wd, .int .i64 x.fr, .int .i64 x.to, .int .i64 x.ct.lo, .int .i64 x.ct.hi] rfl rfl (news_in (alloc1 w1 _).1) (by simp [Value.oneCell']) (by unfold maxLen; omega) (by omega) (by simp; omega) ?_
            intro v' w3 hown' hgrow _
            have htk : (f.ts.take (k + 1)) = f.ts.take k ++ [x] := by rw [List.take_add_one, HX.out]; rfl
            have hown3 : w3.ownsRow (p + 1) 73 5 v' (k + 1) ((f.ts.take (k + 1)).flatMap tcs) := by rw [htk, List.flatMap_append]; exact hown'
            obtain ⟨V', cc', rfl, _⟩ := Sl.of_own (enc := tcs) (sz := 5) (by decide) (tcs_len _) (by omega) hown3
            have hltA := hown.lt
            have hqp := (hgrow.block p (by simp; omega) (fun e => by have := (hltA p e.symm).1; omega)).trans (hEA.out.heap HCW.out)
            have HQP := hid hqp
            have h0g := (hgrow.block w.heap.size (by simp; omega) (fun e => by have := (hltA _ e.symm).1; omega)).trans (hEA.out.heap (hE2.heap hQ0.out))
            have h1g := (hgrow.block (w.heap.size + 1) (by simp; omega) (fun e => by have := (hltA _ e.symm).1; omega)).trans (hEA.out.heap (hE2.heap hQ1.out))
            have H0G := hid h0g
            have H1G := hid h1g
            have hSg : ∀ o, w3.cell? ⟨wr.heap.size, o, none⟩ = W1.cell? ⟨wr.heap.size, o, none⟩ := fun o => (World.cell?_of_block (hgrow.block wr.heap.size (by simp; omega) (fun e => by have := (hltA _ e.symm).2; omega))).trans (HSE.out _ hEA.out o)
            have HSG := hid hSg
            have HE3 := hid (Ev.grown (hB.trans (hE2.trans hEA.out)) hgrow (fun k e => by have := (hltA k e).1; omega))
            have hltB := hid hltA
            clear hqp h0g h1g hSg htk hltA hown'
            clear y0 y1 y2 y3 y4
            obtain ⟨y0, y1, y2, y3, y4⟩ := cells5 HQP.out
            obtain ⟨f0, f1, f2, f3, f4⟩ := frz5 HQP.out
            refine hK.out _ _ (HSG.out) (fun hHeld => ?_)
            clear hK K
            (try simp only [Act.put, List.setIfInBounds_toArray, List.set_cons_zero, List.set_cons_succ])
            refine wpAnyH_take (i := 14) (v := ?_) rfl (by kernel_rfl) (by kernel_rfl) (by kernel_rfl) (fun _ _ _ h => h) (Or.inl ⟨by rfl, ?hy⟩) (by assumption) ?_
            case hy => (intro w hSw; (try dsimp only at hSw); go_simp; with_reducible rfl)
            (try simp only [Act.put, List.setIfInBounds_toArray, List.set_cons_zero, List.set_cons_succ])
            refine wpAnyH_ready (rs := [15]) (by kernel_rfl) (by simp) ?_
            refine AllReadyH.cons rfl (fun K hK => ?_) AllReadyH.nil
            go_simp
            refine hK.out _ _ (fun o => (cell_set_ne (show wr.heap.size ≠ p by omega)).trans (HSG.out o)) (fun hHeld => ?_)
            clear hK K
            (try simp only [Act.put, List.setIfInBounds_toArray, List.set_cons_zero, List.set_cons_succ])
            refine wpAnyH_done (by kernel_rfl) ?_ _
            go_wp2
            refine ⟨⟨k + 1, V', cc', by go_num, by omega, Ev.setCell HE3.out (by simp; omega) _, hid (set_heap H0G.out (by omega)), hid (set_heap H1G.out (by omega)), hid ?_, ownsRow_setCell_below hown3 (by simp) _⟩, by simp [intOf]; omega⟩
            rw [set_heap_same HQP.out]
            rfl
      · have hkn : k = n := by omega
        subst hkn
        have hsl := hs.len
        have ht : f.ts.take k = f.ts := List.take_of_length_le (by omega)
        rw [ht] at hown
        obtain ⟨y0, y1, y2, y3, y4⟩ := cells5 hC.out
        obtain ⟨z0, z1, z2, z3, z4⟩ := cells5 hQ1.out
        obtain ⟨f0, f1, f2, f3, f4⟩ := frz5 hQ1.out
        clear hsl ht q0 q1 q2 q3
        go_wp2
        have hF := set5 hQ1.out (v0 := .int .i64 f.rows) (v1 := .int .i64 f.wds) (v2 := .int .i64 f.lf.lo) (v3 := .int .i64 f.lf.hi) (v4 := .slice V k cc)
        obtain ⟨x0, x1, x2, x3, x4⟩ := cells5 hF
        have hown5 := ownsRow_setCell_below (ownsRow_setCell_below (ownsRow_setCell_below (ownsRow_setCell_below (ownsRow_setCell_below hown (a := ⟨w.heap.size + 1, 0, none⟩) (by simp; omega) (.int .i64 f.rows)) (a := ⟨w.heap.size + 1, 1, none⟩) (by simp; omega) (.int .i64 f.wds)) (a := ⟨w.heap.size + 1, 2, none⟩) (by simp; omega) (.int .i64 f.lf.lo)) (a := ⟨w.heap.size + 1, 3, none⟩) (by simp; omega) (.int .i64 f.lf.hi)) (a := ⟨w.heap.size + 1, 4, none⟩) (by simp; omega) (.slice V k cc)
        refine bodyPost_ret (v := .agg #[.int .i64 f.rows, .int .i64 f.wds, .int .i64 f.lf.lo, .int .i64 f.lf.hi, .slice V k cc]) (by simp [results, Try.results24, go_sem, x0, x1, x2, x3, x4]) rfl ⟨⟨V, cc, rfl, ?_⟩, ?_⟩
        · exact sl_own (by decide) (tcs_len _) (by omega) hown5
        · refine Ev.setCell (Ev.setCell (Ev.setCell (Ev.setCell (Ev.setCell hB ?_ _) ?_ _) ?_ _) ?_ _) ?_ _ <;> simp

end Go.Proofs.Ytcecmphdmpeibaa
