import Derived.Test.YtcecmphdmpeibaaL40
set_option linter.unusedSimpArgs false
set_option linter.unusedVariables false
namespace Go.Proofs.Ytcecmphdmpeibaa
open Go.RowKit

/-- Two values have no block in common. -/
def Ap (v u : Value) : Prop := ∀ g, v.ownBlock = some g → u.ownBlock = some g → False
theorem Ap.symm {v u : Value} (h : Ap v u) : Ap u v := fun g h1 h2 => h g h2 h1
theorem Ap.ne {v u : Value} (h : Ap v u) : u.ownBlock = none ∨ u.ownBlock ≠ v.ownBlock := by
  cases hu : u.ownBlock with
  | none => exact .inl rfl
  | some g => exact .inr (fun e => h g e.symm hu)
theorem Ap.grow {v u v' : Value} {m : Nat} (h : Ap v u) (hu : ∀ g, u.ownBlock = some g → g < m) (hat : v'.ownBlock = v.ownBlock ∨ v'.ownBlock = some m) : Ap v' u := by
  intro g h1 h2
  rcases hat with e | e
  · exact h g (e ▸ h1) h2
  · rw [h1] at e
    injection e with e
    subst e
    exact absurd (hu _ h2) (by omega)
theorem own_set_ne {w : World} {base : Nat} {e : TypeId} {size : Nat} {v : Value} {n : Nat} {xs : List Value} {b j : Nat} {u : Value} (h : w.ownsRow base e size v n xs) (hne : v.ownBlock ≠ some b) : (w.setCell ⟨b, j, none⟩ u).ownsRow base e size v n xs := by
  refine ⟨h.1, ?_⟩
  rcases h.2 with hn | ⟨g, cap, cur, rfl, hb, hg, rest⟩
  · exact .inl hn
  · exact .inr ⟨g, cap, cur, rfl, hb, set_heap hg (fun e => hne (by subst e; rfl)), rest⟩

set_option maxRecDepth 100000 in
set_option maxHeartbeats 20000000 in
theorem weedTurned_c (f : M.Fl) (A : Option Addr) (n c : Nat) (a b : Int) (a0 : 0 ≤ a) (a1 : a < 256) (b0 : 0 ≤ b) (b1 : b < 256) (w : World) (hs : n ≤ 7 → Sl tcs 5 w w.heap.size A n c f.ts) :
    Calls Try.prog 18 #[.agg #[.int .i64 f.rows, .int .i64 f.wds, .int .i64 f.lf.lo, .int .i64 f.lf.hi, .slice A n c], .int .u8 a, .int .u8 b] w fun e w' => e = .returned (.bool true) ∧ Ev w w' := by
  have hrd := fun W (hE : Ev w W) => ready_c f A n c W (fun h => (hs h).ev hE)
  cases hready : M.rdy f n with
  | false =>
    rw [hready] at hrd
    have HRD := hid hrd
    clear hrd hready hs
    go_enter Try.func18, Try.ntmps18
    go_wp2_with (first | (go_at_call 52; ((with_reducible refine (HRD.out _ (Ev.alloc (Ev.refl _) _)).mono ?_); rintro e w1 ⟨rfl, hb1⟩; have HQ := hid (hb1.heap (alloc1 w (.cells #[.int .i64 f.rows, .int .i64 f.wds, .int .i64 f.lf.lo, .int .i64 f.lf.hi, .slice A n c] 26)).1); obtain ⟨q0, q1, q2, q3, q4⟩ := cells5 HQ.out; have hE1 : Ev w w1 := Ev.trans (Ev.alloc (Ev.refl _) _) hb1; have hG1 := Ev.refl w1)) | (go_at_call 21; ((with_reducible refine (awake_c _).mono ?_); rintro e w2 ⟨rfl, hb2⟩; have hG2 := hG1.trans hb2)))
    go_ret
    exact ⟨rfl, hE1.trans hG2⟩
  | true =>
    rw [hready] at hrd
    unfold M.rdy at hready
    simp only [Bool.and_eq_true, decide_eq_true_eq] at hready
    obtain ⟨⟨h7, _⟩, h0⟩ := hready
    replace hs := hs h7
    obtain ⟨r1, r7, d1, d3, _, n5'⟩ := M.check_bd h0
    have HRD := hid hrd
    have HS := hid hs
    have hln := hs.len
    have hn5 : n ≤ 5 := by omega
    have HLN := hid hln
    obtain ⟨i0, hi0, hz0, hz1, hz2⟩ := info_parts info90
    obtain ⟨ia, hk⟩ : ∃ k : Nat, a % f.wds = (k : Int) := Int.eq_ofNat_of_zero_le (Int.emod_nonneg _ (by omega))
    obtain ⟨ib, hr⟩ : ∃ r : Nat, b % f.wds = (r : Int) := Int.eq_ofNat_of_zero_le (Int.emod_nonneg _ (by omega))
    have hk1 : (ia : Int) < f.wds := by rw [← hk]; exact Int.emod_lt_of_pos _ (by omega)
    have hr1 : (ib : Int) < f.wds := by rw [← hr]; exact Int.emod_lt_of_pos _ (by omega)
    have hk2 : a.tmod f.wds = (ia : Int) := by rw [Int.tmod_eq_emod_of_nonneg a0]; exact hk
    have hr2 : b.tmod f.wds = (ib : Int) := by rw [Int.tmod_eq_emod_of_nonneg b0]; exact hr
    have s1 : IntKind.i64.wrap a = a := IntWalk.i64_in _ (by omega)
    have s2 : IntKind.i64.wrap b = b := IntWalk.i64_in _ (by omega)
    have s3 : IntKind.i64.wrap (ia : Int) = (ia : Int) := IntWalk.i64_in _ (by omega)
    have s4 : IntKind.i64.wrap (ib : Int) = (ib : Int) := IntWalk.i64_in _ (by omega)
    have z2 : (f.wds == 0) = false := by simp; omega
    have z3 : ¬ (f.wds = 0) := by omega
    have HTS := hid (M.tally_of h0)
    have H0 := hid h0
    clear hrd hs h0 hln
    go_enter Try.func18, Try.ntmps18
    go_upto_region 3 with (go_at_call 52; ((with_reducible refine (HRD.out _ (Ev.alloc (Ev.refl _) _)).mono ?_); rintro e w1 ⟨rfl, hb1⟩; have HQ := hid (hb1.heap (alloc1 w (.cells #[.int .i64 f.rows, .int .i64 f.wds, .int .i64 f.lf.lo, .int .i64 f.lf.hi, .slice A n c] 26)).1); obtain ⟨q0, q1, q2, q3, q4⟩ := cells5 HQ.out; have hE1 : Ev w w1 := Ev.trans (Ev.alloc (Ev.refl _) _) hb1; have hG1 := Ev.refl w1))
    go_upto_region 4 with (go_quiet (fail))
    generalize hWd : World.drewN w1 _ = wd
    have hbd : Ev w1 wd := by rw [← hWd]; exact Ev.drewN (Ev.refl _) _
    have HQ' := hid (hbd.heap HQ.out)
    have hE1' := hid (hE1.trans hbd)
    clear hWd hbd hb1 hG1 q0 q1 q2 q3 q4 hk hr hk2 hr2 s1 s2 s3 s4 z2 z3 HQ hE1 HRD
    obtain ⟨q0, q1, q2, q3, q4⟩ := cells5 HQ'.out
    have hlq := heap_lt HQ'.out
    have HSE : Hid (∀ w', Ev wd w' → (∀ o, w'.cell? ⟨w.heap.size, o, none⟩ = wd.cell? ⟨w.heap.size, o, none⟩)) := hid (fun w' h => fun o => h.cells.1 _ o hlq)
    go_cut [9, 10] (fun v u W1 => ∃ px py : Nat, v = .pointer (some ⟨px, 0, none⟩) ∧ u = .pointer (some ⟨py, 0, none⟩) ∧ px ≠ py ∧ w.heap.size < px ∧ w.heap.size < py ∧ Ev w W1 ∧ W1.heap[w.heap.size]? = some (.cells #[.int .i64 f.rows, .int .i64 f.wds, .int .i64 f.lf.lo, .int .i64 f.lf.hi, .slice A n c] 26 (0, 0)) ∧ W1.heap[px]? = some (.cells #[.int .i64 f.rows, .int .i64 f.wds, .int .i64 f.lf.lo, .int .i64 f.lf.hi, .slice A n c] 26 (0, 0)) ∧ W1.heap[py]? = some (.cells #[.int .i64 f.rows, .int .i64 f.wds, .int .i64 f.lf.lo, .int .i64 f.lf.hi, .slice A n c] 26 (0, 0)))
    case first =>
      refine wp_region_held_drew (S := fun w' => ∀ o, w'.cell? ⟨w.heap.size, o, none⟩ = wd.cell? ⟨w.heap.size, o, none⟩) (by kernel_rfl) (fun o => rfl) (fun hHeld => ?_)
      refine wpAnyH_take (i := 0) (v := ?_) rfl (by kernel_rfl) (by kernel_rfl) (by kernel_rfl) (fun _ _ _ h => h) (Or.inl ⟨by rfl, ?hy⟩) (by assumption) ?_
      case hy => (intro w hSw; (try dsimp only at hSw); go_simp; with_reducible rfl)
      (try simp only [Act.put, List.setIfInBounds_toArray, List.set_cons_zero, List.set_cons_succ])
      refine wpAnyH_take (i := 1) (v := ?_) rfl (by kernel_rfl) (by kernel_rfl) (by kernel_rfl) (fun _ _ _ h => h) (Or.inl ⟨by rfl, ?hy⟩) (by assumption) ?_
      case hy => (intro w hSw; (try dsimp only at hSw); go_simp; with_reducible rfl)
      (try simp only [Act.put, List.setIfInBounds_toArray, List.set_cons_zero, List.set_cons_succ])
      refine wpAnyH_ready (rs := [2, 3]) (by kernel_rfl) (by simp) ?_
      refine AllReadyH.cons rfl (fun K hK => ?_) (AllReadyH.cons rfl (fun K hK => ?_) (AllReadyH.nil))
      · go_simp
        refine hK.out _ _ (HSE.out _ (Ev.alloc (Ev.drew (Ev.refl wd)) _)) (fun hHeld => ?_)
        clear hK K
        (try simp only [Act.put, List.setIfInBounds_toArray, List.set_cons_zero, List.set_cons_succ])
        refine wpAnyH_ready (rs := [3]) (by kernel_rfl) (by simp) ?_
        refine AllReadyH.cons rfl (fun K hK => ?_) AllReadyH.nil
        go_simp
        refine hK.out _ _ (HSE.out _ (Ev.alloc (Ev.alloc (Ev.drew (Ev.refl wd)) _) _)) (fun hHeld => ?_)
        clear hK K
        (try simp only [Act.put, List.setIfInBounds_toArray, List.set_cons_zero, List.set_cons_succ])
        refine wpAnyH_ready (rs := [4]) (by kernel_rfl) (by simp) ?_
        refine AllReadyH.cons rfl (fun K hK => ?_) AllReadyH.nil
        go_simp
        refine hK.out _ _ (HSE.out _ (Ev.drew (Ev.alloc (Ev.alloc (Ev.refl wd) _) _))) (fun hHeld => ?_)
        clear hK K
        (try simp only [Act.put, List.setIfInBounds_toArray, List.set_cons_zero, List.set_cons_succ])
        refine wpAnyH_ready (rs := [5]) (by kernel_rfl) (by simp) ?_
        refine AllReadyH.cons rfl (fun K hK => ?_) AllReadyH.nil
        go_simp
        refine hK.out _ _ (HSE.out _ (Ev.drew (Ev.alloc (Ev.alloc (Ev.refl wd) _) _))) (fun hHeld => ?_)
        clear hK K
        (try simp only [Act.put, List.setIfInBounds_toArray, List.set_cons_zero, List.set_cons_succ])
        refine wpAnyH_done (by kernel_rfl) ?_ _
        go_wp2_with fail
        go_meet
        exact ⟨wd.heap.size, wd.heap.size + 1, rfl, rfl, by omega, by omega, by omega, Ev.drew (Ev.alloc (Ev.alloc hE1'.out _) _), (Ev.alloc (Ev.alloc (Ev.refl wd) _) _).heap HQ'.out, (alloc2 wd _ _).1, (alloc2 wd _ _).2.1⟩
      · go_simp
        refine hK.out _ _ (HSE.out _ (Ev.alloc (Ev.drew (Ev.refl wd)) _)) (fun hHeld => ?_)
        clear hK K
        (try simp only [Act.put, List.setIfInBounds_toArray, List.set_cons_zero, List.set_cons_succ])
        refine wpAnyH_ready (rs := [2]) (by kernel_rfl) (by simp) ?_
        refine AllReadyH.cons rfl (fun K hK => ?_) AllReadyH.nil
        go_simp
        refine hK.out _ _ (HSE.out _ (Ev.alloc (Ev.alloc (Ev.drew (Ev.refl wd)) _) _)) (fun hHeld => ?_)
        clear hK K
        (try simp only [Act.put, List.setIfInBounds_toArray, List.set_cons_zero, List.set_cons_succ])
        refine wpAnyH_ready (rs := [4]) (by kernel_rfl) (by simp) ?_
        refine AllReadyH.cons rfl (fun K hK => ?_) AllReadyH.nil
        go_simp
        refine hK.out _ _ (HSE.out _ (Ev.drew (Ev.alloc (Ev.alloc (Ev.refl wd) _) _))) (fun hHeld => ?_)
        clear hK K
        (try simp only [Act.put, List.setIfInBounds_toArray, List.set_cons_zero, List.set_cons_succ])
        refine wpAnyH_ready (rs := [5]) (by kernel_rfl) (by simp) ?_
        refine AllReadyH.cons rfl (fun K hK => ?_) AllReadyH.nil
        go_simp
        refine hK.out _ _ (HSE.out _ (Ev.drew (Ev.alloc (Ev.alloc (Ev.refl wd) _) _))) (fun hHeld => ?_)
        clear hK K
        (try simp only [Act.put, List.setIfInBounds_toArray, List.set_cons_zero, List.set_cons_succ])
        refine wpAnyH_done (by kernel_rfl) ?_ _
        go_wp2_with fail
        go_meet
        exact ⟨wd.heap.size + 1, wd.heap.size, rfl, rfl, by omega, by omega, by omega, Ev.drew (Ev.alloc (Ev.alloc hE1'.out _) _), (Ev.alloc (Ev.alloc (Ev.refl wd) _) _).heap HQ'.out, (alloc2 wd _ _).2.1, (alloc2 wd _ _).1⟩
    case rest =>
      obtain ⟨px, py, rfl, rfl, hne, hpx, hpy, hEc, hQc, hXc, hYc⟩ := hcut
      have HQc := hid hQc
      have HXc := hid hXc
      have HYc := hid hYc
      have HEc := hid hEc
      clear q0 q1 q2 q3 q4 hEc hQc hXc hYc HSE HQ' hE1' hlq
      obtain ⟨x0, x1, x2, x3, x4⟩ := cells5 HXc.out
      obtain ⟨f0, f1, f2, f3, f4⟩ := frz5 HXc.out
      obtain ⟨y0, y1, y2, y3, y4⟩ := cells5 HYc.out
      obtain ⟨g0, g1, g2, g3, g4⟩ := frz5 HYc.out
      have hpxc := heap_lt HXc.out
      have hpyc := heap_lt HYc.out
      have hne' : py ≠ px := fun e => hne e.symm
      go_upto_region 6 with fail
      generalize hW5 : World.setCell (World.setCell wc _ _) _ _ = w5
      have HX5 := hid (show w5.heap[px]? = some (.cells #[.int .i64 f.rows, .int .i64 f.wds, .int .i64 f.lf.lo, .int .i64 f.lf.hi, .slice none 0 0] 26 (0, 0)) by rw [← hW5]; exact set_heap (by rw [set_heap_same HXc.out]; rfl) hne)
      have HY5 := hid (show w5.heap[py]? = some (.cells #[.int .i64 f.rows, .int .i64 f.wds, .int .i64 f.lf.lo, .int .i64 f.lf.hi, .slice none 0 0] 26 (0, 0)) by rw [← hW5, set_heap_same (set_heap HYc.out hne')]; rfl)
      have HQ5 := hid (show w5.heap[w.heap.size]? = some (.cells #[.int .i64 f.rows, .int .i64 f.wds, .int .i64 f.lf.lo, .int .i64 f.lf.hi, .slice A n c] 26 (0, 0)) by rw [← hW5]; exact set_heap (set_heap HQc.out (by omega)) (by omega))
      have hE5 : Ev w w5 := by rw [← hW5]; exact Ev.setCell (Ev.setCell HEc.out (by simp; omega) _) (by simp; omega) _
      have hB5 : w5.heap.size = wc.heap.size := by rw [← hW5]; simp
      obtain ⟨B, hBB⟩ : ∃ B, B = w5.heap.size := ⟨_, rfl⟩
      have hpxB : px < B := by omega
      have hpyB : py < B := by omega
      have hBle : B ≤ w5.heap.size := by omega
      clear hW5 x0 x1 x2 x3 x4 f0 f1 f2 f3 f4 y0 y1 y2 y3 y4 g0 g1 g2 g3 g4 hB5 hpxc hpyc hBB
      go_wp2_with fail
      go_loopw [11] (fun i wr => ∃ k : Nat, ∃ Vx Vy : Option Addr, ∃ cx cy : Nat, i = .int .i64 k ∧ k ≤ n ∧ Ev w wr ∧ Hid (wr.heap[w.heap.size]? = some (.cells #[.int .i64 f.rows, .int .i64 f.wds, .int .i64 f.lf.lo, .int .i64 f.lf.hi, .slice A n c] 26 (0, 0))) ∧ Hid (wr.heap[px]? = some (.cells #[.int .i64 f.rows, .int .i64 f.wds, .int .i64 f.lf.lo, .int .i64 f.lf.hi, .slice Vx k cx] 26 (0, 0))) ∧ Hid (wr.heap[py]? = some (.cells #[.int .i64 f.rows, .int .i64 f.wds, .int .i64 f.lf.lo, .int .i64 f.lf.hi, .slice Vy k cy] 26 (0, 0))) ∧ wr.ownsRow B 90 5 (.slice Vx k cx) k (((f.ts.take k).map (M.turnT f.rows)).flatMap tcs) ∧ wr.ownsRow B 90 5 (.slice Vy k cy) k (((f.ts.take k).map (M.swT ia ib)).flatMap tcs) ∧ Ap (.slice Vx k cx) (.slice Vy k cy) ∧ B ≤ wr.heap.size) (fun i _ => n - (intOf i).toNat)
      case atStart => exact ⟨0, none, none, 0, 0, rfl, by omega, hE5, HQ5, HX5, HY5, World.ownsRow_nil _ _ _ _, World.ownsRow_nil _ _ _ _, (fun g h => by simp [Value.ownBlock] at h), hBle⟩
      case round =>
        obtain ⟨k, Vx, Vy, cx, cy, rfl, hk, hB, hQ, hX, hY, hox, hoy, hap, hBr⟩ := hrel
        obtain ⟨q0, q1, q2, q3, q4⟩ := cells5 hQ.out
        have hlQ := heap_lt hQ.out
        by_cases hlt : k < n
        · obtain ⟨bt, off, t, rfl, hbt, hx, _, hcc⟩ := HS.out.at_ hB hlt
          have e0 := hcc 0 _ rfl
          have e1 := hcc 1 _ rfl
          have e2 := hcc 2 _ rfl
          have e3 := hcc 3 _ rfl
          have e4 := hcc 4 _ rfl
          simp only [Nat.add_zero] at e0
          obtain ⟨t1, t2, t3, t4, t5, t6, t7, t8⟩ := HTS.out t (List.mem_of_getElem? hx)
          have HTK : Hid (f.ts.take (k + 1) = f.ts.take k ++ [t]) := hid (by rw [List.take_add_one, hx]; rfl)
          have v1 : IntKind.i64.wrap (f.rows - 1) = f.rows - 1 := IntWalk.i64_in _ (by omega)
          have v2 : IntKind.i64.wrap (f.rows - 1 - t.to) = f.rows - 1 - t.to := IntWalk.i64_in _ (by omega)
          have v3 : IntKind.i64.wrap (f.rows - 1 - t.fr) = f.rows - 1 - t.fr := IntWalk.i64_in _ (by omega)
          have hcap := HS.out.cap
          have hbt2 : bt < wr.heap.size := by have := hB.size; omega
          clear hcc hx hbt
          go_upto_region 10 with fail
          generalize hW1 : World.alloc wr _ = W1
          have hb1 : Ev wr W1 := by rw [← hW1]; exact Ev.alloc (Ev.refl _) _
          have HT := hid (show W1.heap[wr.heap.size]? = some (.cells #[.int .i64 t.wd, .int .i64 t.fr, .int .i64 t.to, .int .i64 t.ct.lo, .int .i64 t.ct.hi] 90 (0, 0)) by rw [← hW1]; exact (alloc1 wr _).1)
          have hs1 : W1.heap.size = wr.heap.size + 1 := by rw [← hW1]; exact (alloc1 wr _).2
          have HQ1 := hid (hb1.heap hQ.out)
          have HX1 := hid (hb1.heap hX.out)
          have HY1 := hid (hb1.heap hY.out)
          have hx1 := hox.ev hb1
          have hy1 := hoy.ev hb1
          have ltx := hox.lt
          have lty := hoy.lt
          have hlX := heap_lt hX.out
          have hlY := heap_lt hY.out
          have hlQ := heap_lt hQ.out
          clear hW1 q0 q1 q2 q3 q4 e0 e1 e2 e3 e4
          obtain ⟨q0, q1, q2, q3, q4⟩ := cells5 HQ1.out
          obtain ⟨x0, x1, x2, x3, x4⟩ := cells5 HX1.out
          obtain ⟨z0, z1, z2, z3, z4⟩ := cells5 HT.out
          have hBW1 : B ≤ W1.heap.size := by omega
          have HSZ := hid hs1
          clear hs1
          go_upto_region 11 with (at_builtin; refine wpList_append_own_at _ rfl (.tmp 59) (.tmp 77) 24 rfl B 90 i0 _ 5 40 Try.underlying24 hi0 hz0 hz1 hz2 rfl (by decide) _ k (((f.ts.take k).map (M.turnT f.rows)).flatMap tcs) rfl (hx1.alloc _) ⟨W1.heap.size, 0, none⟩ 1 1 [.int .i64 t.wd, .int .i64 (f.rows - 1 - t.to), .int .i64 (f.rows - 1 - t.fr), .int .i64 t.ct.lo, .int .i64 t.ct.hi] rfl rfl (news_in (alloc1 W1 _).1) (by simp [Value.oneCell']) (by unfold maxLen; omega) (by omega) (by simp; omega) ?_; intro v' w3 hown' hgrow _ hat; have hown3 : w3.ownsRow B 90 5 v' (k + 1) (((f.ts.take (k + 1)).map (M.turnT f.rows)).flatMap tcs) := (by rw [HTK.out, List.map_append, List.flatMap_append]; exact hown'); have hAp : Ap v' (.slice Vy k cy) := hap.grow (fun g e => by have := (lty g e).2; have := HSZ.out; simp; omega) hat; obtain ⟨Vx', cx', rfl⟩ := own_form hown3; have ne1 : ∀ q, q < B → ¬ (some q = (Value.slice Vx k cx).ownBlock) := fun q hq e => absurd (ltx q e.symm).1 (by omega); have ne2 : ¬ (some wr.heap.size = (Value.slice Vx k cx).ownBlock) := fun e => absurd (ltx _ e.symm).2 (by omega); have hEA := hid (Ev.alloc (Ev.refl W1) (.cells #[.int .i64 t.wd, .int .i64 (f.rows - 1 - t.to), .int .i64 (f.rows - 1 - t.fr), .int .i64 t.ct.lo, .int .i64 t.ct.hi] 90)); have sz1 := HSZ.out; have HX3 := hid ((hgrow.block px (by simp; omega) (ne1 px hpxB)).trans (hEA.out.heap HX1.out)); have HY3 := hid ((hgrow.block py (by simp; omega) (ne1 py hpyB)).trans (hEA.out.heap HY1.out)); have HQ3 := hid ((hgrow.block w.heap.size (by simp; omega) (ne1 _ (by omega))).trans (hEA.out.heap HQ1.out)); have HT3 := hid ((hgrow.block wr.heap.size (by simp; omega) ne2).trans (hEA.out.heap HT.out)); have hE3 := hid (Ev.grown ((hB.trans hb1).alloc (.cells #[.int .i64 t.wd, .int .i64 (f.rows - 1 - t.to), .int .i64 (f.rows - 1 - t.fr), .int .i64 t.ct.lo, .int .i64 t.ct.hi] 90)) hgrow (fun k e => by have := (ltx k e).1; omega) : Ev w w3); clear x0 x1 x2 x3 x4 q0 q1 q2 q3 q4 z0 z1 z2 z3 z4; obtain ⟨x0, x1, x2, x3, x4⟩ := cells5 HX3.out; obtain ⟨f0, f1, f2, f3, f4⟩ := frz5 HX3.out; have hoy3 := hid ((hy1.alloc (.cells #[.int .i64 t.wd, .int .i64 (f.rows - 1 - t.to), .int .i64 (f.rows - 1 - t.fr), .int .i64 t.ct.lo, .int .i64 t.ct.hi] 90)).kept hgrow hap.ne); have nbx : (Value.slice Vx' (k + 1) cx').ownBlock ≠ some wr.heap.size := (fun e => by rcases hat with h | h; (rw [h] at e; exact absurd (ltx _ e).2 (by omega)); (rw [h] at e; simp at e; omega)); have nby : (Value.slice Vy k cy).ownBlock ≠ some wr.heap.size := (fun e => absurd (lty _ e).2 (by omega)))
          generalize hW4 : World.setCell w3 _ _ = W4
          have HX4 := hid (show W4.heap[px]? = some (.cells #[.int .i64 f.rows, .int .i64 f.wds, .int .i64 f.lf.lo, .int .i64 f.lf.hi, .slice Vx' (k + 1) cx'] 26 (0, 0)) by rw [← hW4, set_heap_same HX3.out]; rfl)
          have HY4 := hid (show W4.heap[py]? = some (.cells #[.int .i64 f.rows, .int .i64 f.wds, .int .i64 f.lf.lo, .int .i64 f.lf.hi, .slice Vy k cy] 26 (0, 0)) by rw [← hW4]; exact set_heap HY3.out hne')
          have HQ4 := hid (show W4.heap[w.heap.size]? = some (.cells #[.int .i64 f.rows, .int .i64 f.wds, .int .i64 f.lf.lo, .int .i64 f.lf.hi, .slice (some ⟨bt, off, none⟩) n c] 26 (0, 0)) by rw [← hW4]; exact set_heap HQ3.out (by omega))
          have HT4 := hid (show W4.heap[wr.heap.size]? = some (.cells #[.int .i64 t.wd, .int .i64 t.fr, .int .i64 t.to, .int .i64 t.ct.lo, .int .i64 t.ct.hi] 90 (0, 0)) by rw [← hW4]; exact set_heap HT3.out (by omega))
          have hE4 : Ev w W4 := by rw [← hW4]; exact Ev.setCell hE3.out (by simp; omega) _
          have hox4 := show W4.ownsRow B 90 5 (.slice Vx' (k + 1) cx') (k + 1) (((f.ts.take (k + 1)).map (M.turnT f.rows)).flatMap tcs) by rw [← hW4]; exact ownsRow_setCell_below hown3 (by simp; omega) _
          have hoy4 := show W4.ownsRow B 90 5 (.slice Vy k cy) k (((f.ts.take k).map (M.swT ia ib)).flatMap tcs) by rw [← hW4]; exact ownsRow_setCell_below hoy3.out (by simp; omega) _
          clear hW4 hown' hown3 hoy3 hgrow hat HX3 HY3 HQ3 HT3 hE3 HX1 HY1 HQ1 HT hb1 hx1 hy1 x0 x1 x2 x3 x4 f0 f1 f2 f3 f4 hEA hox hoy hap HSZ
          obtain ⟨z0, z1, z2, z3, z4⟩ := cells5 HT4.out
          obtain ⟨f0, f1, f2, f3, f4⟩ := frz5 HT4.out
          have hl4 := heap_lt HT4.out
          have lty := hoy4.lt
          go_upto_if 83 with fail
          go_cut [12] (fun v W1 => v = .pointer (some ⟨wr.heap.size, 0, none⟩) ∧ ∃ sx : Int, [t].map (M.swT ia ib) = [⟨sx, t.fr, t.to, t.ct⟩] ∧ Ev w W1 ∧ W1.heap[px]? = some (.cells #[.int .i64 f.rows, .int .i64 f.wds, .int .i64 f.lf.lo, .int .i64 f.lf.hi, .slice Vx' (k + 1) cx'] 26 (0, 0)) ∧ W1.heap[py]? = some (.cells #[.int .i64 f.rows, .int .i64 f.wds, .int .i64 f.lf.lo, .int .i64 f.lf.hi, .slice Vy k cy] 26 (0, 0)) ∧ W1.heap[w.heap.size]? = some (.cells #[.int .i64 f.rows, .int .i64 f.wds, .int .i64 f.lf.lo, .int .i64 f.lf.hi, .slice (some ⟨bt, off, none⟩) n c] 26 (0, 0)) ∧ W1.heap[wr.heap.size]? = some (.cells #[.int .i64 sx, .int .i64 t.fr, .int .i64 t.to, .int .i64 t.ct.lo, .int .i64 t.ct.hi] 90 (0, 0)) ∧ W1.ownsRow B 90 5 (.slice Vx' (k + 1) cx') (k + 1) (((f.ts.take (k + 1)).map (M.turnT f.rows)).flatMap tcs) ∧ W1.ownsRow B 90 5 (.slice Vy k cy) k (((f.ts.take k).map (M.swT ia ib)).flatMap tcs))
          case first =>
            rcases Int.decEq t.wd ia with h1 | h1
            · rcases Int.decEq t.wd ib with h2 | h2
              · have HSW : Hid ([t].map (M.swT ia ib) = [⟨t.wd, t.fr, t.to, t.ct⟩]) := hid (by simp [M.swT, M.sw, h1, h2])
                have b1 : (t.wd == (ia : Int)) = false := by simpa using h1
                have b2 : (t.wd == (ib : Int)) = false := by simpa using h2
                clear h1 h2
                go_wp2_with fail
                go_meet
                exact ⟨rfl, t.wd, HSW.out, hE4, HX4.out, HY4.out, HQ4.out, HT4.out, hox4, hoy4⟩
              · have HSW : Hid ([t].map (M.swT ia ib) = [⟨(ia : Int), t.fr, t.to, t.ct⟩]) := hid (by simp [M.swT, M.sw, h1, h2])
                have b1 : (t.wd == (ia : Int)) = false := by simpa using h1
                have b2 : (t.wd == (ib : Int)) = true := by simpa using h2
                clear h1 h2
                go_wp2_with fail
                go_meet
                refine ⟨rfl, (ia : Int), HSW.out, Ev.setCell hE4 (by simp; omega) _, set_heap HX4.out (by omega), set_heap HY4.out (by omega), set_heap HQ4.out (by omega), ?_, own_set_ne hox4 nbx, own_set_ne hoy4 nby⟩
                rw [set_heap_same HT4.out]
                rfl
            · have HSW : Hid ([t].map (M.swT ia ib) = [⟨(ib : Int), t.fr, t.to, t.ct⟩]) := hid (by simp [M.swT, M.sw, h1])
              have b1 : (t.wd == (ia : Int)) = true := by simpa using h1
              clear h1
              go_wp2_with fail
              go_meet
              refine ⟨rfl, (ib : Int), HSW.out, Ev.setCell hE4 (by simp; omega) _, set_heap HX4.out (by omega), set_heap HY4.out (by omega), set_heap HQ4.out (by omega), ?_, own_set_ne hox4 nbx, own_set_ne hoy4 nby⟩
              rw [set_heap_same HT4.out]
              rfl
          case rest =>
          obtain ⟨rfl, sx, hSW, hE5, hX5, hY5, hQ5, hT5, hox5, hoy5⟩ := hcut
          obtain ⟨W5, hW5⟩ : ∃ x, x = wc := ⟨_, rfl⟩
          subst hW5
          have HSW := hid hSW
          have HX5 := hid hX5
          have HY5 := hid hY5
          have HQ5 := hid hQ5
          have HT5 := hid hT5
          clear hSW hX5 hY5 hQ5 hT5 HX4 HY4 HQ4 HT4 hE4 hox4 hoy4 z0 z1 z2 z3 z4 f0 f1 f2 f3 f4
          have hB5 : B ≤ W5.heap.size := by have := heap_lt HT5.out; omega
          obtain ⟨z0, z1, z2, z3, z4⟩ := cells5 HT5.out
          obtain ⟨y0, y1, y2, y3, y4⟩ := cells5 HY5.out
          obtain ⟨q0, q1, q2, q3, q4⟩ := cells5 HQ5.out
          have hl5t := heap_lt HT5.out
          go_wp2_with (at_builtin; refine wpList_append_own_at _ rfl (.tmp 93) (.tmp 95) 24 rfl B 90 i0 _ 5 40 Try.underlying24 hi0 hz0 hz1 hz2 rfl (by decide) _ k (((f.ts.take k).map (M.swT ia ib)).flatMap tcs) rfl (hoy5.alloc _) ⟨W5.heap.size, 0, none⟩ 1 1 [.int .i64 sx, .int .i64 t.fr, .int .i64 t.to, .int .i64 t.ct.lo, .int .i64 t.ct.hi] rfl rfl (news_in (alloc1 W5 _).1) (by simp [Value.oneCell']) (by unfold maxLen; omega) (by omega) (by simp; omega) ?_; intro v' w6 hown' hgrow _ hat; have hown6 : w6.ownsRow B 90 5 v' (k + 1) (((f.ts.take (k + 1)).map (M.swT ia ib)).flatMap tcs) := (by rw [HTK.out, List.map_append, List.flatMap_append, HSW.out]; exact hown'); have hAp6 : Ap (.slice Vx' (k + 1) cx') v' := (Ap.grow hAp.symm (fun g e => by have := (hox5.lt g e).2; simp; omega) hat).symm; obtain ⟨Vy', cy', rfl⟩ := own_form hown6; have hlt5 := hoy5.lt; have ne1 : ∀ q, q < B → ¬ (some q = (Value.slice Vy k cy).ownBlock) := fun q hq e => absurd (hlt5 q e.symm).1 (by omega); have hEA := hid (Ev.alloc (Ev.refl W5) (.cells #[.int .i64 sx, .int .i64 t.fr, .int .i64 t.to, .int .i64 t.ct.lo, .int .i64 t.ct.hi] 90)); have hl5 := heap_lt HX5.out; have hl5' := heap_lt HY5.out; have hl5q := heap_lt HQ5.out; have HX6 := hid ((hgrow.block px (by simp; omega) (ne1 px hpxB)).trans (hEA.out.heap HX5.out)); have HY6 := hid ((hgrow.block py (by simp; omega) (ne1 py hpyB)).trans (hEA.out.heap HY5.out)); have HQ6 := hid ((hgrow.block w.heap.size (by simp; omega) (ne1 _ (by omega))).trans (hEA.out.heap HQ5.out)); have hE6 := hid (Ev.grown (hE5.alloc (.cells #[.int .i64 sx, .int .i64 t.fr, .int .i64 t.to, .int .i64 t.ct.lo, .int .i64 t.ct.hi] 90)) hgrow (fun k e => by have := (hlt5 k e).1; omega) : Ev w w6); have hE6B := hid (show B ≤ w6.heap.size by have := hgrow.size; simp at this; omega); clear q0 q1 q2 q3 q4 z0 z1 z2 z3 z4 y0 y1 y2 y3 y4; obtain ⟨y0, y1, y2, y3, y4⟩ := cells5 HY6.out; obtain ⟨f0, f1, f2, f3, f4⟩ := frz5 HY6.out; have hox6 := hid ((hox5.alloc (.cells #[.int .i64 sx, .int .i64 t.fr, .int .i64 t.to, .int .i64 t.ct.lo, .int .i64 t.ct.hi] 90)).kept hgrow hAp.symm.ne))
          refine ⟨⟨k + 1, Vx', Vy', cx', cy', by go_num, by omega, Ev.setCell hE6.out (by simp; omega) _, hid (set_heap HQ6.out (by omega)), hid (set_heap HX6.out hne), hid ?_, ownsRow_setCell_below hox6.out (by simp; omega) _, ownsRow_setCell_below hown6 (by simp; omega) _, hAp6, by have := hE6B.out; simp; omega⟩, by simp [intOf]; omega⟩
          rw [set_heap_same HY6.out]
          rfl
        · have hkn : n = k := by omega
          subst hkn
          obtain ⟨wz, hwz⟩ : ∃ x, x = wr := ⟨_, rfl⟩
          subst hwz
          have h0 := H0.out
          have htk : f.ts.take n = f.ts := List.take_of_length_le (by have := HLN.out; omega)
          rw [htk] at hox hoy
          have hsx : Sl tcs 5 wz wz.heap.size Vx n cx (f.ts.map (M.turnT f.rows)) := sl_own (by decide) (tcs_len _) (by omega) hox
          have hsy : Sl tcs 5 wz wz.heap.size Vy n cy (f.ts.map (M.swT (ia : Int) (ib : Int))) := sl_own (by decide) (tcs_len _) (by omega) hoy
          have HQz := hQ
          have HXz := hX
          have HYz := hY
          have HSx := hid hsx
          have HSy := hid hsy
          have HBz := hid hB
          clear hox hoy hap hQ hX hY htk hsx hsy q0 q1 q2 q3 q4 hBr
          obtain ⟨q0, q1, q2, q3, q4⟩ := cells5 HQz.out
          have hck1 := M.turn_check h0
          have hck2 := M.sw_check h0 (a := (ia : Int)) (b := (ib : Int)) (by omega) hk1 (by omega) hr1
          have hl2 := M.sw_leave h0 (a := (ia : Int)) (b := (ib : Int)) (by omega) hk1 (by omega) hr1
          have hl7 : (M.leaveBest f).length ≤ 7 := by obtain ⟨_, _, _, _, h, _⟩ := M.leave_spec h0; exact h
          have hbf : M.begin f true = M.sureE f := by rw [M.begin_ref f _ h0]; rfl
          have hbx : M.begin (M.turnF f) true = M.sureE f := by rw [M.begin_ref _ _ hck1]; exact M.turn_sure h0
          have hby : M.begin (M.swF (ia : Int) (ib : Int) f) true = M.sureE f := by rw [M.begin_ref _ _ hck2]; exact M.sw_sure h0 (by omega) hk1 (by omega) hr1
          have hfd := fun W (hE : Ev wz W) => Field_c f A n c (by omega) W (HS.out.ev (HBz.out.trans hE))
          have hfx : ∀ W, Ev wz W → Calls Try.prog 24 #[.agg #[.int .i64 f.rows, .int .i64 f.wds, .int .i64 f.lf.lo, .int .i64 f.lf.hi, .slice Vx n cx]] W fun e w' => (∃ B d, e = .returned (.agg #[.int .i64 f.rows, .int .i64 f.wds, .int .i64 f.lf.lo, .int .i64 f.lf.hi, .slice B n d]) ∧ Sl tcs 5 w' w'.heap.size B n d (f.ts.map (M.turnT f.rows))) ∧ Ev W w' := fun W hE => Field_c (M.turnF f) Vx n cx (by omega) W (HSx.out.ev hE)
          have hfy : ∀ W, Ev wz W → Calls Try.prog 24 #[.agg #[.int .i64 f.rows, .int .i64 f.wds, .int .i64 f.lf.lo, .int .i64 f.lf.hi, .slice Vy n cy]] W fun e w' => (∃ B d, e = .returned (.agg #[.int .i64 f.rows, .int .i64 f.wds, .int .i64 f.lf.lo, .int .i64 f.lf.hi, .slice B n d]) ∧ Sl tcs 5 w' w'.heap.size B n d (f.ts.map (M.swT (ia : Int) (ib : Int)))) ∧ Ev W w' := fun W hE => Field_c (M.swF (ia : Int) (ib : Int) f) Vy n cy (by omega) W (HSy.out.ev hE)
          have hlv : ∀ B d W, Sl tcs 5 W W.heap.size B n d (f.ts) → Calls Try.prog 44 #[.agg #[.int .i64 f.rows, .int .i64 f.wds, .int .i64 f.lf.lo, .int .i64 f.lf.hi, .slice B n d]] W fun e w' => (∃ B' d', e = .returned (.tuple #[.slice B' (M.leaveBest f).length d', .int .i64 0])) ∧ Ev W w' := by
            intro B d W h
            have h' := (fun B n d W h => Leave_c f B n d W h) B n d W h
            unfold fv at h'
            simp only [h0, ↓reduceIte] at h'
            exact h'.mono (fun e w' ⟨⟨B', d', h1, _⟩, h2⟩ => ⟨⟨B', d', h1⟩, h2⟩)
          have hly : ∀ B d W, Sl tcs 5 W W.heap.size B n d ((f.ts.map (M.swT (ia : Int) (ib : Int)))) → Calls Try.prog 44 #[.agg #[.int .i64 f.rows, .int .i64 f.wds, .int .i64 f.lf.lo, .int .i64 f.lf.hi, .slice B n d]] W fun e w' => (∃ B' d', e = .returned (.tuple #[.slice B' (M.leaveBest (M.swF (ia : Int) (ib : Int) f)).length d', .int .i64 0])) ∧ Ev W w' := by
            intro B d W h
            have h' := (fun B n d W h => Leave_c (M.swF (ia : Int) (ib : Int) f) B n d W h) B n d W h
            unfold fv at h'
            simp only [hck2, ↓reduceIte] at h'
            exact h'.mono (fun e w' ⟨⟨B', d', h1, _⟩, h2⟩ => ⟨⟨B', d', h1⟩, h2⟩)
          rw [hl2] at hly
          generalize (M.leaveBest f).length = lf at hlv hly hl7 hl2
          clear hl2
          have HFD := hid hfd
          have HFX := hid hfx
          have HFY := hid hfy
          have HLV := hid hlv
          have HLY := hid hly
          clear hfd hfx hfy hlv hly
          obtain ⟨D, hD⟩ := Int.eq_ofNat_of_zero_le (show 0 ≤ f.wds by omega)
          have hD3 : D ≤ 3 := by omega
          have haD : ia < D := by omega
          have hbD : ib < D := by omega
          by_cases hz : (M.rtruths f).length = 0
          · as_aux_lemma =>
            have hsE : M.sureE f = 11 := by unfold M.sureE; rw [if_pos h0, if_pos hz]
            rw [hsE] at hbf hbx hby
            have hdn : ∀ B d W, Sl tcs 5 W W.heap.size B n d (f.ts) → Calls Try.prog 28 #[.agg #[.int .i64 f.rows, .int .i64 f.wds, .int .i64 f.lf.lo, .int .i64 f.lf.hi, .slice B n d]] W fun e w' => e = .returned (.tuple #[.slice none 0 0, .int .i64 11]) ∧ Ev W w' := by
              intro B d W h
              have h' := (fun B n d W h => Done_c f B n d W h) B n d W h
              unfold fv at h'
              simp only [hbf, show ¬ (11 : Int) = 0 from by decide, ↓reduceIte] at h'
              exact h'.mono (fun e w' h => h)
            have hdx : ∀ B d W, Sl tcs 5 W W.heap.size B n d ((f.ts.map (M.turnT f.rows))) → Calls Try.prog 28 #[.agg #[.int .i64 f.rows, .int .i64 f.wds, .int .i64 f.lf.lo, .int .i64 f.lf.hi, .slice B n d]] W fun e w' => e = .returned (.tuple #[.slice none 0 0, .int .i64 11]) ∧ Ev W w' := by
              intro B d W h
              have h' := (fun B n d W h => Done_c (M.turnF f) B n d W h) B n d W h
              unfold fv at h'
              simp only [hbx, show ¬ (11 : Int) = 0 from by decide, ↓reduceIte] at h'
              exact h'.mono (fun e w' h => h)
            have hdy : ∀ B d W, Sl tcs 5 W W.heap.size B n d ((f.ts.map (M.swT (ia : Int) (ib : Int)))) → Calls Try.prog 28 #[.agg #[.int .i64 f.rows, .int .i64 f.wds, .int .i64 f.lf.lo, .int .i64 f.lf.hi, .slice B n d]] W fun e w' => e = .returned (.tuple #[.slice none 0 0, .int .i64 11]) ∧ Ev W w' := by
              intro B d W h
              have h' := (fun B n d W h => Done_c (M.swF (ia : Int) (ib : Int) f) B n d W h) B n d W h
              unfold fv at h'
              simp only [hby, show ¬ (11 : Int) = 0 from by decide, ↓reduceIte] at h'
              exact h'.mono (fun e w' h => h)
            have HDN := hid hdn
            have HDX := hid hdx
            have HDY := hid hdy
            clear hdn hdx hdy hbf hbx hby hsE hz hck1 hck2 h0 hD HTS
            have hG0 := Ev.refl wz
            go_upto_region 17 with (first | (go_at_call 44; ((with_reducible refine (HLV.out _ _ _ HS1.out).mono ?_); rintro e w2 ⟨⟨B2, d2, rfl⟩, hb2⟩; have hG2 := hG1.trans hb2; clear HS1)) | (go_at_call 24; ((with_reducible refine (HFD.out _ hG0).mono ?_); rintro e w1 ⟨⟨B1, d1, rfl, hs1⟩, hb1⟩; have hG1 := hG0.trans hb1; have HS1 := hid hs1; clear hs1)))
            clear q0 q1 q2 q3 q4
            obtain ⟨y0, y1, y2, y3, y4⟩ := cells5 (hG2.heap HYz.out)
            go_upto_region 20 with (first | (go_at_call 44; ((with_reducible refine (HLY.out _ _ _ HS3.out).mono ?_); rintro e w4 ⟨⟨B4, d4, rfl⟩, hb4⟩; have hG4 := hG3.trans hb4; clear HS3)) | (go_at_call 24; ((with_reducible refine (HFY.out _ hG2).mono ?_); rintro e w3 ⟨⟨B3, d3, rfl, hs3⟩, hb3⟩; have hG3 := hG2.trans hb3; have HS3 := hid hs3; clear hs3)))
            clear y0 y1 y2 y3 y4
            obtain ⟨q0, q1, q2, q3, q4⟩ := cells5 (hG4.heap HQz.out)
            go_upto_region 21 with (first | (go_at_call 28; ((with_reducible refine (HDN.out _ _ _ HS5.out).mono ?_); rintro e w6 ⟨rfl, hb6⟩; have hG6 := hG5.trans hb6; clear HS5)) | (go_at_call 24; ((with_reducible refine (HFD.out _ hG4).mono ?_); rintro e w5 ⟨⟨B5, d5, rfl, hs5⟩, hb5⟩; have hG5 := hG4.trans hb5; have HS5 := hid hs5; clear hs5)))
            clear q0 q1 q2 q3 q4
            obtain ⟨x0, x1, x2, x3, x4⟩ := cells5 (hG6.heap HXz.out)
            go_upto_region 22 with (first | (go_at_call 28; ((with_reducible refine (HDX.out _ _ _ HS7.out).mono ?_); rintro e w8 ⟨rfl, hb8⟩; have hG8 := hG7.trans hb8; clear HS7)) | (go_at_call 24; ((with_reducible refine (HFX.out _ hG6).mono ?_); rintro e w7 ⟨⟨B7, d7, rfl, hs7⟩, hb7⟩; have hG7 := hG6.trans hb7; have HS7 := hid hs7; clear hs7)))
            clear x0 x1 x2 x3 x4
            obtain ⟨y0, y1, y2, y3, y4⟩ := cells5 (hG8.heap HYz.out)
            go_wp2_with (first | (go_at_call 28; ((with_reducible refine (HDY.out _ _ _ HS9.out).mono ?_); rintro e w10 ⟨rfl, hb10⟩; have hG10 := hG9.trans hb10; clear HS9)) | (go_at_call 24; ((with_reducible refine (HFY.out _ hG8).mono ?_); rintro e w9 ⟨⟨B9, d9, rfl, hs9⟩, hb9⟩; have hG9 := hG8.trans hb9; have HS9 := hid hs9; clear hs9)) | (go_at_call 21; ((with_reducible refine (awake_c _).mono ?_); rintro e w11 ⟨rfl, hb11⟩; have hG11 := hG10.trans hb11)))
            go_ret
            exact ⟨rfl, HBz.out.trans hG11⟩
          · as_aux_lemma =>
            have hsE : M.sureE f = 0 := by unfold M.sureE; rw [if_pos h0, if_neg hz]
            rw [hsE] at hbf hbx hby
            have hdl : (M.done f).length = D := by rw [M.done_len]; omega
            have hdlx : (M.done (M.turnF f)).length = D := by rw [M.done_len]; show f.wds.toNat = D; omega
            have hdly : (M.done (M.swF (ia : Int) (ib : Int) f)).length = D := by rw [M.done_len]; show f.wds.toNat = D; omega
            have el : ∀ e : M.Fl, M.check e = 0 → M.begin e true = 0 → e.wds = D → ∀ k, k < D → (M.done e)[k]? = some (M.rdone k (M.rtruths e)) := by
              intro e e0 eb ed k hk
              unfold M.done
              rw [List.getElem?_map, List.getElem?_range (by omega)]
              simp only [Option.map_some]
              rw [M.done_same e0 (begin_some eb)]
            obtain ⟨rr, hrr⟩ : ∃ rr : Nat → M.Rg, ∀ k, rr k = M.rdone k (M.rtruths f) := ⟨_, fun _ => rfl⟩
            have hdf : ∀ k, k < D → (M.done f)[k]? = some (rr k) := fun k hk => by rw [hrr]; exact el f h0 hbf hD k hk
            have hdx0 : ∀ k, k < D → (M.done (M.turnF f))[k]? = some (rr k) := fun k hk => by rw [hrr, ← M.turn_rdone h0]; exact el (M.turnF f) hck1 hbx hD k hk
            have hdy0 : ∀ k j : Nat, k < D → M.sw ia ib (j : Int) = (k : Int) → (M.done (M.swF (ia : Int) (ib : Int) f))[k]? = some (rr j) := fun k j hk hj => by
              rw [hrr, ← M.sw_rdone h0 (a := (ia : Int)) (b := (ib : Int)) (by omega) hk1 (by omega) hr1, hj]; exact el (M.swF (ia : Int) (ib : Int) f) hck2 hby hD k hk
            have hwi : M.hasWd f ia = true := by unfold M.hasWd; simp only [Bool.and_eq_true, decide_eq_true_eq]; omega
            have hwx : M.hasWd (M.turnF f) ia = true := hwi
            have haf : M.begin f (M.hasWd f ia) = 0 := by rw [hwi]; exact hbf
            have hax : M.begin (M.turnF f) (M.hasWd (M.turnF f) ia) = 0 := by rw [hwx]; exact hbx
            have hla := M.turn_ask h0 (ia : Int)
            have hla7 := M.askBest_len h0 (ia : Int)
            have hdn : ∀ B d W, Sl tcs 5 W W.heap.size B n d (f.ts) → Calls Try.prog 28 #[.agg #[.int .i64 f.rows, .int .i64 f.wds, .int .i64 f.lf.lo, .int .i64 f.lf.hi, .slice B n d]] W fun e w' => (∃ B' d', e = .returned (.tuple #[.slice B' D d', .int .i64 0]) ∧ Sl rgc 2 w' w'.heap.size B' D d' (M.done f)) ∧ Ev W w' := by
              intro B d W h
              have h' := (fun B n d W h => Done_c f B n d W h) B n d W h
              unfold fv at h'
              simp only [hbf, hdl, ↓reduceIte] at h'
              exact h'.mono (fun e w' h => h)
            have hdx : ∀ B d W, Sl tcs 5 W W.heap.size B n d ((f.ts.map (M.turnT f.rows))) → Calls Try.prog 28 #[.agg #[.int .i64 f.rows, .int .i64 f.wds, .int .i64 f.lf.lo, .int .i64 f.lf.hi, .slice B n d]] W fun e w' => (∃ B' d', e = .returned (.tuple #[.slice B' D d', .int .i64 0]) ∧ Sl rgc 2 w' w'.heap.size B' D d' (M.done (M.turnF f))) ∧ Ev W w' := by
              intro B d W h
              have h' := (fun B n d W h => Done_c (M.turnF f) B n d W h) B n d W h
              unfold fv at h'
              simp only [hbx, hdlx, ↓reduceIte] at h'
              exact h'.mono (fun e w' h => h)
            have hdy : ∀ B d W, Sl tcs 5 W W.heap.size B n d ((f.ts.map (M.swT (ia : Int) (ib : Int)))) → Calls Try.prog 28 #[.agg #[.int .i64 f.rows, .int .i64 f.wds, .int .i64 f.lf.lo, .int .i64 f.lf.hi, .slice B n d]] W fun e w' => (∃ B' d', e = .returned (.tuple #[.slice B' D d', .int .i64 0]) ∧ Sl rgc 2 w' w'.heap.size B' D d' (M.done (M.swF (ia : Int) (ib : Int) f))) ∧ Ev W w' := by
              intro B d W h
              have h' := (fun B n d W h => Done_c (M.swF (ia : Int) (ib : Int) f) B n d W h) B n d W h
              unfold fv at h'
              simp only [hby, hdly, ↓reduceIte] at h'
              exact h'.mono (fun e w' h => h)
            have has : ∀ B d W, Sl tcs 5 W W.heap.size B n d (f.ts) → Calls Try.prog 36 #[.agg #[.int .i64 f.rows, .int .i64 f.wds, .int .i64 f.lf.lo, .int .i64 f.lf.hi, .slice B n d], .int .i64 ia] W fun e w' => (∃ B' d', e = .returned (.tuple #[.slice B' (M.askBest f ia).length d', .int .i64 0])) ∧ Ev W w' := by
              intro B d W h
              have h' := (fun B n d W h => Ask_c f ia B n d W h) B n d W h
              unfold fv at h'
              simp only [haf, ↓reduceIte] at h'
              exact h'.mono (fun e w' ⟨⟨B', d', h1, _⟩, h2⟩ => ⟨⟨B', d', h1⟩, h2⟩)
            have hax2 : ∀ B d W, Sl tcs 5 W W.heap.size B n d ((f.ts.map (M.turnT f.rows))) → Calls Try.prog 36 #[.agg #[.int .i64 f.rows, .int .i64 f.wds, .int .i64 f.lf.lo, .int .i64 f.lf.hi, .slice B n d], .int .i64 ia] W fun e w' => (∃ B' d', e = .returned (.tuple #[.slice B' (M.askBest (M.turnF f) ia).length d', .int .i64 0])) ∧ Ev W w' := by
              intro B d W h
              have h' := (fun B n d W h => Ask_c (M.turnF f) ia B n d W h) B n d W h
              unfold fv at h'
              simp only [hax, ↓reduceIte] at h'
              exact h'.mono (fun e w' ⟨⟨B', d', h1, _⟩, h2⟩ => ⟨⟨B', d', h1⟩, h2⟩)
            rw [hla] at hax2
            generalize (M.askBest f ia).length = la at has hax2 hla7 hla
            generalize M.done f = df at hdn hdf
            generalize M.done (M.turnF f) = dx at hdx hdx0
            generalize M.done (M.swF (ia : Int) (ib : Int) f) = dy at hdy hdy0
            have HDF := hid hdf
            have HDX0 := hid hdx0
            have HDY0 := hid hdy0
            have HDN := hid hdn
            have HDX := hid hdx
            have HDY := hid hdy
            have HAS := hid has
            have HAX := hid hax2
            have w1 : ((D : Int) != f.wds) = false := by simp; omega
            clear hdn hdx hdy hbf hbx hby hsE hz hck1 hck2 h0 hdl hdlx hdly el hrr hdf hdx0 hdy0 hwi hwx haf hax hla has hax2 hD HTS
            have hG0 := Ev.refl wz
            go_upto_region 17 with (first | (go_at_call 44; ((with_reducible refine (HLV.out _ _ _ HS1.out).mono ?_); rintro e w2 ⟨⟨B2, d2, rfl⟩, hb2⟩; have hG2 := hG1.trans hb2; clear HS1)) | (go_at_call 24; ((with_reducible refine (HFD.out _ hG0).mono ?_); rintro e w1 ⟨⟨B1, d1, rfl, hs1⟩, hb1⟩; have hG1 := hG0.trans hb1; have HS1 := hid hs1; clear hs1)))
            clear q0 q1 q2 q3 q4
            obtain ⟨y0, y1, y2, y3, y4⟩ := cells5 (hG2.heap HYz.out)
            go_upto_region 20 with (first | (go_at_call 44; ((with_reducible refine (HLY.out _ _ _ HS3.out).mono ?_); rintro e w4 ⟨⟨B4, d4, rfl⟩, hb4⟩; have hG4 := hG3.trans hb4; clear HS3)) | (go_at_call 24; ((with_reducible refine (HFY.out _ hG2).mono ?_); rintro e w3 ⟨⟨B3, d3, rfl, hs3⟩, hb3⟩; have hG3 := hG2.trans hb3; have HS3 := hid hs3; clear hs3)))
            clear y0 y1 y2 y3 y4
            obtain ⟨q0, q1, q2, q3, q4⟩ := cells5 (hG4.heap HQz.out)
            go_upto_region 21 with (first | (go_at_call 28; ((with_reducible refine (HDN.out _ _ _ HS5.out).mono ?_); rintro e w6 ⟨⟨B6, d6, rfl, hs6⟩, hb6⟩; have hG6 := hG5.trans hb6; clear HS5; have HS6 := hid hs6; clear hs6)) | (go_at_call 24; ((with_reducible refine (HFD.out _ hG4).mono ?_); rintro e w5 ⟨⟨B5, d5, rfl, hs5⟩, hb5⟩; have hG5 := hG4.trans hb5; have HS5 := hid hs5; clear hs5)))
            clear q0 q1 q2 q3 q4
            obtain ⟨x0, x1, x2, x3, x4⟩ := cells5 (hG6.heap HXz.out)
            go_upto_region 22 with (first | (go_at_call 28; ((with_reducible refine (HDX.out _ _ _ HS7.out).mono ?_); rintro e w8 ⟨⟨B8, d8, rfl, hs8⟩, hb8⟩; have hG8 := hG7.trans hb8; clear HS7; have HS8 := hid hs8; clear hs8)) | (go_at_call 24; ((with_reducible refine (HFX.out _ hG6).mono ?_); rintro e w7 ⟨⟨B7, d7, rfl, hs7⟩, hb7⟩; have hG7 := hG6.trans hb7; have HS7 := hid hs7; clear hs7)))
            clear x0 x1 x2 x3 x4
            obtain ⟨y0, y1, y2, y3, y4⟩ := cells5 (hG8.heap HYz.out)
            go_upto_region 25 with (first | (go_at_call 28; ((with_reducible refine (HDY.out _ _ _ HS9.out).mono ?_); rintro e w10 ⟨⟨B10, d10, rfl, hs10⟩, hb10⟩; have hG10 := hG9.trans hb10; clear HS9; have HS10 := hid hs10; clear hs10)) | (go_at_call 24; ((with_reducible refine (HFY.out _ hG8).mono ?_); rintro e w9 ⟨⟨B9, d9, rfl, hs9⟩, hb9⟩; have hG9 := hG8.trans hb9; have HS9 := hid hs9; clear hs9)))
            clear y0 y1 y2 y3 y4
            obtain ⟨q0, q1, q2, q3, q4⟩ := cells5 (hG10.heap HQz.out)
            go_upto_region 26 with (first | (go_at_call 36; ((with_reducible refine (HAS.out _ _ _ HS11.out).mono ?_); rintro e w12 ⟨⟨B12, d12, rfl⟩, hb12⟩; have hG12 := hG11.trans hb12; clear HS11)) | (go_at_call 24; ((with_reducible refine (HFD.out _ hG10).mono ?_); rintro e w11 ⟨⟨B11, d11, rfl, hs11⟩, hb11⟩; have hG11 := hG10.trans hb11; have HS11 := hid hs11; clear hs11)))
            clear q0 q1 q2 q3 q4
            obtain ⟨x0, x1, x2, x3, x4⟩ := cells5 (hG12.heap HXz.out)
            go_upto_region 27 with (first | (go_at_call 36; ((with_reducible refine (HAX.out _ _ _ HS13.out).mono ?_); rintro e w14 ⟨⟨B14, d14, rfl⟩, hb14⟩; have hG14 := hG13.trans hb14; clear HS13)) | (go_at_call 24; ((with_reducible refine (HFX.out _ hG12).mono ?_); rintro e w13 ⟨⟨B13, d13, rfl, hs13⟩, hb13⟩; have hG13 := hG12.trans hb13; have HS13 := hid hs13; clear hs13)))
            clear x0 x1 x2 x3 x4
            obtain ⟨q0, q1, q2, q3, q4⟩ := cells5 (hG14.heap HQz.out)
            have HL := hid (HS6.out.ev ((((((((hb7.trans hb8).trans hb9).trans hb10).trans hb11).trans hb12).trans hb13).trans hb14)))
            have HM := hid (HS8.out.ev ((((((hb9.trans hb10).trans hb11).trans hb12).trans hb13).trans hb14)))
            have HN := hid (HS10.out.ev ((((hb11.trans hb12).trans hb13).trans hb14)))
            have HG14 := hid hG14
            clear hb1 hb2 hb3 hb4 hb5 hb6 hb7 hb8 hb9 hb10 hb11 hb12 hb13 hb14 hG0 hG1 hG2 hG3 hG4 hG5 hG6 hG7 hG8 hG9 hG10 hG11 hG12 hG13 hG14 HS6 HS8 HS10 HFD HFX HFY HLV HLY HDN HDX HDY HAS HAX HS HSx HSy
            obtain ⟨bl, ol, rfl, hbl, hcl⟩ := HL.out.cells (by omega)
            obtain ⟨bm, om, rfl, hbm, hcm⟩ := HM.out.cells (by omega)
            obtain ⟨bn, on_, rfl, hbn, hcn⟩ := HN.out.cells (by omega)
            have hp1 := HL.out.cap
            have hp2 := HM.out.cap
            have hp3 := HN.out.cap
            have l0 := hcl ia _ (HDF.out ia haD) 0 _ rfl
            have l1 := hcl ia _ (HDF.out ia haD) 1 _ rfl
            have l2 := hcl ib _ (HDF.out ib hbD) 0 _ rfl
            have l3 := hcl ib _ (HDF.out ib hbD) 1 _ rfl
            have m0 := hcn ib _ (HDY0.out ib ia hbD (by unfold M.sw; simp)) 0 _ rfl
            have m1 := hcn ib _ (HDY0.out ib ia hbD (by unfold M.sw; simp)) 1 _ rfl
            have m2 := hcn ia _ (HDY0.out ia ib haD (by unfold M.sw; split <;> simp_all)) 0 _ rfl
            have m3 := hcn ia _ (HDY0.out ia ib haD (by unfold M.sw; split <;> simp_all)) 1 _ rfl
            simp only [Nat.add_zero] at l0 l2 m0 m2
            have HCL := hid hcl
            have HCM := hid hcm
            have HCN := hid hcn
            clear hcl hcm hcn
            go_wp2_with (go_quiet (fail))
            generalize hWd : World.drewN w14 _ = wd
            have hwd : Ev w14 wd := by rw [← hWd]; exact Ev.drewN (Ev.refl _) _
            clear hWd l0 l1 l2 l3 m0 m1 m2 m3 q0 q1 q2 q3 q4
            have HWD := hid hwd
            clear hwd
            go_loopw [27] (fun i wr => ∃ j : Nat, i = .int .i64 j ∧ j ≤ D ∧ Ev w14 wr) (fun i _ => D - (intOf i).toNat)
            case atStart => exact ⟨0, rfl, by omega, HWD.out⟩
            case round =>
              obtain ⟨j, rfl, hj, hB⟩ := hrel
              by_cases hlt : j < D
              · have l0 := (hB.cells.1 _ _ hbl).trans (HCL.out j _ (HDF.out j hlt) 0 _ rfl)
                have l1 := (hB.cells.1 _ _ hbl).trans (HCL.out j _ (HDF.out j hlt) 1 _ rfl)
                have m0 := (hB.cells.1 _ _ hbm).trans (HCM.out j _ (HDX0.out j hlt) 0 _ rfl)
                have m1 := (hB.cells.1 _ _ hbm).trans (HCM.out j _ (HDX0.out j hlt) 1 _ rfl)
                simp only [Nat.add_zero] at l0 m0
                have HBB := hid hB
                have hend : ∀ N, Ev w14 (World.drewN wr N) := fun N => hB.trans (Ev.drewN (Ev.refl _) N)
                have HEND := hid hend
                clear hB hend
                rcases Nat.decEq j ia with ha | ha
                · have b1 : ((j : Int) != (ia : Int)) = true := by simp; omega
                  rcases Nat.decEq j ib with hb | hb
                  · have b2 : ((j : Int) != (ib : Int)) = true := by simp; omega
                    have n0 := (HBB.out.cells.1 _ _ hbn).trans (HCN.out j _ (HDY0.out j j hlt (by unfold M.sw; rw [if_neg (by omega), if_neg (by omega)])) 0 _ rfl)
                    have n1 := (HBB.out.cells.1 _ _ hbn).trans (HCN.out j _ (HDY0.out j j hlt (by unfold M.sw; rw [if_neg (by omega), if_neg (by omega)])) 1 _ rfl)
                    simp only [Nat.add_zero] at n0
                    clear ha hb
                    go_wp2_with (go_quiet (fail))
                    exact ⟨⟨j + 1, by go_num, by omega, HEND.out _⟩, by simp [intOf]; omega⟩
                  · have b2 : ((j : Int) != (ib : Int)) = false := by simp; omega
                    clear ha hb
                    go_wp2_with (go_quiet (fail))
                    exact ⟨⟨j + 1, by go_num, by omega, HEND.out _⟩, by simp [intOf]; omega⟩
                · have b1 : ((j : Int) != (ia : Int)) = false := by simp; omega
                  clear ha
                  go_wp2_with (go_quiet (fail))
                  exact ⟨⟨j + 1, by go_num, by omega, HEND.out _⟩, by simp [intOf]; omega⟩
              · go_wp2_with (first | (go_at_call 21; ((with_reducible refine (awake_c _).mono ?_); rintro e w16 ⟨rfl, hb16⟩)))
                go_ret
                exact ⟨rfl, HBz.out.trans (HG14.out.trans (hB.trans hb16))⟩

end Go.Proofs.Ytcecmphdmpeibaa
