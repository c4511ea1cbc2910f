import Derived.Test.YtcecmphdmpeibaaL39
set_option linter.unusedSimpArgs false
set_option linter.unusedVariables false
namespace Go.Proofs.Ytcecmphdmpeibaa
open Go.RowKit

theorem flat_set : ∀ (ts : List M.Tl) (j : Nat) (t : M.Tl) (r : M.Rg), ts[j]? = some t → (ts.set j ⟨t.wd, t.fr, t.to, r⟩).flatMap tcs = ((ts.flatMap tcs).set (j * 5 + 3) (.int .i64 r.lo)).set (j * 5 + 3 + 1) (.int .i64 r.hi)
  | [], j, t, r, h => by simp at h
  | s :: ts, 0, t, r, h => by
    obtain rfl : s = t := by simpa using h
    simp [tcs]
  | s :: ts, j + 1, t, r, h => by
    have ih := flat_set ts j t r (by simpa using h)
    rw [List.set_cons_succ, List.flatMap_cons, ih, List.flatMap_cons, show (j + 1) * 5 + 3 = j * 5 + 3 + 5 from by omega, show j * 5 + 3 + 5 + 1 = j * 5 + 3 + 1 + 5 from by omega]
    simp [tcs]

theorem drew_heap (W : World) : W.drew.heap = W.heap := rfl

/-- A tally's count is stored in a row of one's own. -/
theorem own_set2 {w : World} {base n cc gb j : Nat} {ts : List M.Tl} {t : M.Tl} {r : M.Rg} {x y : Int} (h : w.ownsRow base 90 5 (.slice (some ⟨gb, 0, none⟩) n cc) n (ts.flatMap tcs)) (ht : ts[j]? = some t) (hx : x = r.lo) (hy : y = r.hi) :
    ((w.setCell ⟨gb, j * 5 + 3, none⟩ (.int .i64 x)).setCell ⟨gb, j * 5 + 3 + 1, none⟩ (.int .i64 y)).ownsRow base 90 5 (.slice (some ⟨gb, 0, none⟩) n cc) n ((ts.set j ⟨t.wd, t.fr, t.to, r⟩).flatMap tcs) := by
  subst hx hy
  obtain ⟨h1, h2⟩ := h
  rcases h2 with ⟨h2, _⟩ | ⟨g, cap, cur, h2, hb, hg, hn, hm, hs, ht2⟩
  · cases h2
  · obtain ⟨rfl, rfl⟩ : gb = g ∧ cc = cap := by simpa using h2
    refine ⟨?_, .inr ⟨gb, cc, (cur.setIfInBounds (j * 5 + 3) (.int .i64 r.lo)).setIfInBounds (j * 5 + 3 + 1) (.int .i64 r.hi), rfl, hb, set_heap_same (set_heap_same hg), hn, hm, by simpa using hs, ?_⟩⟩
    · rw [flat_set ts j t r ht, List.length_set, List.length_set]; exact h1
    · rw [flat_set ts j t r ht, ← ht2]
      simp [List.take_set]

set_option maxRecDepth 100000 in
set_option maxHeartbeats 8000000 in
theorem weedWider_c (f : M.Fl) (A : Option Addr) (n c : Nat) (a b : Int) (a0 : 0 ≤ a) (a1 : a < 256) (b0 : 0 ≤ b) (b1 : b < 256) (w : World) (hs : n ≤ 7 → Sl tcs 5 w w.heap.size A n c f.ts) :
    Calls Try.prog 15 #[.agg #[.int .i64 f.rows, .int .i64 f.wds, .int .i64 f.lf.lo, .int .i64 f.lf.hi, .slice A n c], .int .u8 a, .int .u8 b] w fun e w' => e = .returned (.bool true) ∧ Ev w w' := by
  have hrd := fun W (hE : Ev w W) => ready_c f A n c W (fun h => (hs h).ev hE)
  cases hready : M.rdy f n with
  | false =>
    rw [hready] at hrd
    have HRD := hid hrd
    clear hrd hready hs
    go_enter Try.func15, Try.ntmps15
    go_wp2_with (first | (go_at_call 52; ((with_reducible refine (HRD.out _ (Ev.alloc (Ev.refl _) _)).mono ?_); rintro e w1 ⟨rfl, hb1⟩; have HQ := hid (hb1.heap (alloc1 w (.cells #[.int .i64 f.rows, .int .i64 f.wds, .int .i64 f.lf.lo, .int .i64 f.lf.hi, .slice A n c] 26)).1); obtain ⟨q0, q1, q2, q3, q4⟩ := cells5 HQ.out; have hE1 : Ev w w1 := Ev.trans (Ev.alloc (Ev.refl _) _) hb1; have hG1 := Ev.refl w1)) | (go_at_call 21; ((with_reducible refine (awake_c _).mono ?_); rintro e w2 ⟨rfl, hb2⟩; have hG2 := hG1.trans hb2)))
    go_ret
    exact ⟨rfl, hE1.trans hG2⟩
  | true =>
    rw [hready] at hrd
    unfold M.rdy at hready
    simp only [Bool.and_eq_true, decide_eq_true_eq] at hready
    obtain ⟨⟨h7, _⟩, h0⟩ := hready
    replace hs := hs h7
    obtain ⟨r1, r7, d1', d3, _, n5'⟩ := M.check_bd h0
    have HRD := hid hrd
    have HS := hid hs
    have hln := hs.len
    obtain ⟨i0, hi0, hz0, hz1, hz2⟩ := info_parts info90
    clear hrd hs
    go_enter Try.func15, Try.ntmps15
    go_upto_region 3 with (go_at_call 52; ((with_reducible refine (HRD.out _ (Ev.alloc (Ev.refl _) _)).mono ?_); rintro e w1 ⟨rfl, hb1⟩; have HQ := hid (hb1.heap (alloc1 w (.cells #[.int .i64 f.rows, .int .i64 f.wds, .int .i64 f.lf.lo, .int .i64 f.lf.hi, .slice A n c] 26)).1); obtain ⟨q0, q1, q2, q3, q4⟩ := cells5 HQ.out; have hE1 : Ev w w1 := Ev.trans (Ev.alloc (Ev.refl _) _) hb1; have hG1 := Ev.refl w1))
    go_upto_region 4 with fail
    generalize hW2 : World.alloc w1 _ = W2
    have hE2 : Ev w1 W2 := by rw [← hW2]; exact Ev.alloc (Ev.refl _) _
    have hal := alloc1 w1 (.cells #[.int .i64 f.rows, .int .i64 f.wds, .int .i64 f.lf.lo, .int .i64 f.lf.hi, .slice A n c] 26)
    rw [hW2] at hal
    have HC2 := hid hal.1
    have hpz := Nat.le_of_eq hal.2.symm
    have Q0c := hid (hE2.heap HQ.out)
    have hEw := hE1.trans hE2
    have hpw := heap_lt HQ.out
    have hwl := hE1.size
    clear hW2 hal hE2 q0 q1 q2 q3 q4 HQ hE1 hG1 hb1
    generalize w1.heap.size = p at *
    have hlw2 : w.heap.size < W2.heap.size := by omega
    have hlp2 : p < W2.heap.size := by omega
    obtain ⟨q0, q1, q2, q3, q4⟩ := cells5 Q0c.out
    obtain ⟨y0, y1, y2, y3, y4⟩ := cells5 HC2.out
    obtain ⟨f0, f1, f2, f3, f4⟩ := frz5 HC2.out
    go_upto_region 5 with (at_builtin; refine append_any (enc := tcs) rfl (.tmp 24) (.tmp 26) 24 rfl (p + 1) 90 i0 _ 5 40 Try.underlying24 hi0 hz0 hz1 hz2 rfl (by decide) _ 0 [] rfl (World.ownsRow_lit W2 _ 0 (by omega) (by decide) rfl) A n c f.ts _ rfl (HS.out.ev (hEw.alloc _)) (tcs_len _) (tcs_one _) (by unfold maxLen; omega) (by omega) (by simp; omega) ?_; intro v' w3 hown' hgrow; have hown2 : w3.ownsRow (p + 1) 90 5 v' n (f.ts.flatMap tcs) := (by simpa using hown'); obtain ⟨V, cc, rfl, _⟩ := Sl.of_own (enc := tcs) (sz := 5) (by decide) (tcs_len _) (by omega) hown2; have HQP := hid ((hgrow.block p (by simp; omega) (fun e => by have e2 : some W2.heap.size = some p := e.symm; simp at e2; omega)).trans ((Ev.alloc (Ev.refl W2) _).heap HC2.out)); have H0G := hid ((hgrow.block w.heap.size (by simp; omega) (fun e => by have e2 : some W2.heap.size = some w.heap.size := e.symm; simp at e2; omega)).trans ((Ev.alloc (Ev.refl W2) _).heap Q0c.out)); have HE3 := hid (Ev.grown (hEw.alloc _) hgrow (fun k e => by have e2 : some W2.heap.size = some k := e; simp at e2; omega)); clear y0 y1 y2 y3 y4 f0 f1 f2 f3 f4 q0 q1 q2 q3 q4; obtain ⟨y0, y1, y2, y3, y4⟩ := cells5 HQP.out; obtain ⟨f0, f1, f2, f3, f4⟩ := frz5 HQP.out; obtain ⟨q0, q1, q2, q3, q4⟩ := cells5 H0G.out)
    generalize hW4 : World.setCell w3 _ _ = W4
    have HX : Hid (W4.heap[p]? = some (.cells #[.int .i64 f.rows, .int .i64 f.wds, .int .i64 f.lf.lo, .int .i64 f.lf.hi, .slice V n cc] 26 (0, 0))) := hid (by rw [← hW4, set_heap_same HQP.out]; rfl)
    have HQ := hid (show W4.heap[w.heap.size]? = some (.cells #[.int .i64 f.rows, .int .i64 f.wds, .int .i64 f.lf.lo, .int .i64 f.lf.hi, .slice A n c] 26 (0, 0)) by rw [← hW4]; exact set_heap H0G.out (by omega))
    have HOWN := hid (show W4.ownsRow (p + 1) 90 5 (.slice V n cc) n (f.ts.flatMap tcs) by rw [← hW4]; exact ownsRow_setCell_below hown2 (by simp) _)
    have HE4 := hid (show Ev w W4 by rw [← hW4]; exact Ev.setCell HE3.out (by simp; omega) _)
    clear hW4 hown2 hown' hgrow HQP H0G HE3 y0 y1 y2 y3 y4 f0 f1 f2 f3 f4 q0 q1 q2 q3 q4 HC2 Q0c hEw
    obtain ⟨q0, q1, q2, q3, q4⟩ := cells5 HQ.out
    obtain ⟨x0, x1, x2, x3, x4⟩ := cells5 HX.out
    obtain ⟨f0, f1, f2, f3, f4⟩ := frz5 HX.out
    obtain ⟨l0, l1, l2⟩ := M.left_of h0
    obtain ⟨j, hj⟩ : ∃ j : Nat, a % ((n : Int) + 1) = (j : Int) := Int.eq_ofNat_of_zero_le (Int.emod_nonneg _ (by omega))
    have hj1 : (j : Int) < (n : Int) + 1 := by rw [← hj]; exact Int.emod_lt_of_pos _ (by omega)
    have hj2 : a.tmod ((n : Int) + 1) = (j : Int) := by rw [Int.tmod_eq_emod_of_nonneg a0]; exact hj
    obtain ⟨d1, hd1⟩ : ∃ d : Int, b % 3 = d := ⟨_, rfl⟩
    obtain ⟨e3, he3⟩ : ∃ d : Int, b / 3 = d := ⟨_, rfl⟩
    obtain ⟨d2, hd2⟩ : ∃ d : Int, e3 % 3 = d := ⟨_, rfl⟩
    have p1 : 0 ≤ d1 := by omega
    have p2 : 0 ≤ d2 := by omega
    have hd1' : b.tmod 3 = d1 := by rw [Int.tmod_eq_emod_of_nonneg b0]; exact hd1
    have he3' : b.tdiv 3 = e3 := by rw [Int.tdiv_eq_ediv_of_nonneg b0]; exact he3
    have hd2' : e3.tmod 3 = d2 := by rw [Int.tmod_eq_emod_of_nonneg (by omega)]; exact hd2
    have s1 : IntKind.i64.wrap a = a := IntWalk.i64_in _ (by omega)
    have s2 : IntKind.i64.wrap b = b := IntWalk.i64_in _ (by omega)
    have s3 : IntKind.i64.wrap ((n : Int) + 1) = n + 1 := IntWalk.i64_in _ (by omega)
    have s4 : IntKind.i64.wrap (j : Int) = j := IntWalk.i64_in _ (by omega)
    have s5 : IntKind.i64.wrap d1 = d1 := IntWalk.i64_in _ (by omega)
    have s6 : IntKind.i64.wrap d2 = d2 := IntWalk.i64_in _ (by omega)
    have s7 : IntKind.i64.wrap e3 = e3 := IntWalk.i64_in _ (by omega)
    have z1 : (((n : Int) + 1) == 0) = false := by simp; omega
    have z2 : ¬ ((n : Int) + 1 = 0) := by omega
    have H0 := hid h0
    have hxw : w.heap.size < W4.heap.size := heap_lt HQ.out
    have hxp : p < W4.heap.size := heap_lt HX.out
    clear h0 hj hi0 hz0 hz1 hz2
    rcases Nat.eq_zero_or_pos j with hj0 | hj0
    · subst hj0
      have s8 : IntKind.i64.wrap (f.lf.lo - d1) = f.lf.lo - d1 := IntWalk.i64_in _ (by omega)
      have s9 : IntKind.i64.wrap (f.lf.hi + d2) = f.lf.hi + d2 := IntWalk.i64_in _ (by omega)
      go_upto_region 9 with fail
      go_cut [6] (fun v W1 => v = .bool false ∧ ∃ V : Option Addr, ∃ cc : Nat, ∃ g : M.Fl, M.check g = 0 ∧ M.Wide f g ∧ Ev w W1 ∧ W1.heap[w.heap.size]? = some (.cells #[.int .i64 f.rows, .int .i64 f.wds, .int .i64 f.lf.lo, .int .i64 f.lf.hi, .slice A n c] 26 (0, 0)) ∧ W1.heap[p]? = some (.cells #[.int .i64 f.rows, .int .i64 f.wds, .int .i64 g.lf.lo, .int .i64 g.lf.hi, .slice V n cc] 26 (0, 0)) ∧ Sl tcs 5 W1 W1.heap.size V n cc g.ts)
      case first =>
        refine wp_region_held_drew (S := fun w' => ∀ o, w'.cell? ⟨w.heap.size, o, none⟩ = W4.cell? ⟨w.heap.size, o, none⟩) (by kernel_rfl) (fun o => rfl) (fun hHeld => ?_)
        refine wpAnyH_take (i := 0) (v := ?_) rfl (by kernel_rfl) (by kernel_rfl) (by kernel_rfl) (fun _ _ _ h => h) (Or.inl ⟨by rfl, ?hy⟩) (by assumption) ?_
        case hy => (intro w hSw; (try dsimp only at hSw); go_simp; with_reducible rfl)
        (try simp only [Act.put, List.setIfInBounds_toArray, List.set_cons_zero, List.set_cons_succ])
        refine wpAnyH_take (i := 1) (v := ?_) rfl (by kernel_rfl) (by kernel_rfl) (by kernel_rfl) (fun _ _ _ h => h) (Or.inl ⟨by rfl, ?hy⟩) (by assumption) ?_
        case hy => (intro w hSw; (try dsimp only at hSw); go_simp; with_reducible rfl)
        (try simp only [Act.put, List.setIfInBounds_toArray, List.set_cons_zero, List.set_cons_succ])
        refine wpAnyH_take (i := 2) (v := ?_) rfl (by kernel_rfl) (by kernel_rfl) (by kernel_rfl) (fun _ _ _ h => h) (Or.inl ⟨by rfl, ?hy⟩) (by assumption) ?_
        case hy => (intro w hSw; (try dsimp only at hSw); go_simp; with_reducible rfl)
        (try simp only [Act.put, List.setIfInBounds_toArray, List.set_cons_zero, List.set_cons_succ])
        refine wpAnyH_take (i := 3) (v := ?_) rfl (by kernel_rfl) (by kernel_rfl) (by kernel_rfl) (fun _ _ _ h => h) (Or.inl ⟨by rfl, ?hy⟩) (by assumption) ?_
        case hy => (intro w hSw; (try dsimp only at hSw); go_simp; with_reducible rfl)
        (try simp only [Act.put, List.setIfInBounds_toArray, List.set_cons_zero, List.set_cons_succ])
        refine wpAnyH_take (i := 4) (v := ?_) rfl (by kernel_rfl) (by kernel_rfl) (by kernel_rfl) (fun _ _ _ h => h) (Or.inl ⟨by rfl, ?hy⟩) (by assumption) ?_
        case hy => (intro w hSw; (try dsimp only at hSw); go_simp; with_reducible rfl)
        (try simp only [Act.put, List.setIfInBounds_toArray, List.set_cons_zero, List.set_cons_succ])
        refine wpAnyH_take (i := 6) (v := ?_) rfl (by kernel_rfl) (by kernel_rfl) (by kernel_rfl) (fun _ _ _ h => h) (Or.inl ⟨by rfl, ?hy⟩) (by assumption) ?_
        case hy => (intro w hSw; (try dsimp only at hSw); go_simp; with_reducible rfl)
        (try simp only [Act.put, List.setIfInBounds_toArray, List.set_cons_zero, List.set_cons_succ])
        refine wpAnyH_take (i := 7) (v := ?_) rfl (by kernel_rfl) (by kernel_rfl) (by kernel_rfl) (fun _ _ _ h => h) (Or.inl ⟨by rfl, ?hy⟩) (by assumption) ?_
        case hy => (intro w hSw; (try dsimp only at hSw); go_simp; with_reducible rfl)
        (try simp only [Act.put, List.setIfInBounds_toArray, List.set_cons_zero, List.set_cons_succ])
        refine wpAnyH_take (i := 8) (v := ?_) rfl (by kernel_rfl) (by kernel_rfl) (by kernel_rfl) (fun _ _ _ h => h) (Or.inl ⟨by rfl, ?hy⟩) (by assumption) ?_
        case hy => (intro w hSw; (try dsimp only at hSw); go_simp; with_reducible rfl)
        (try simp only [Act.put, List.setIfInBounds_toArray, List.set_cons_zero, List.set_cons_succ])
        refine wpAnyH_take (i := 11) (v := ?_) rfl (by kernel_rfl) (by kernel_rfl) (by kernel_rfl) (fun _ _ _ h => h) (Or.inl ⟨by rfl, ?hy⟩) (by assumption) ?_
        case hy => (intro w hSw; (try dsimp only at hSw); go_simp; with_reducible rfl)
        (try simp only [Act.put, List.setIfInBounds_toArray, List.set_cons_zero, List.set_cons_succ])
        refine wpAnyH_take (i := 12) (v := ?_) rfl (by kernel_rfl) (by kernel_rfl) (by kernel_rfl) (fun _ _ _ h => h) (Or.inl ⟨by rfl, ?hy⟩) (by assumption) ?_
        case hy => (intro w hSw; (try dsimp only at hSw); go_simp; with_reducible rfl)
        (try simp only [Act.put, List.setIfInBounds_toArray, List.set_cons_zero, List.set_cons_succ])
        refine wpAnyH_take (i := 13) (v := ?_) rfl (by kernel_rfl) (by kernel_rfl) (by kernel_rfl) (fun _ _ _ h => h) (Or.inl ⟨by rfl, ?hy⟩) (by assumption) ?_
        case hy => (intro w hSw; (try dsimp only at hSw); go_simp; with_reducible rfl)
        (try simp only [Act.put, List.setIfInBounds_toArray, List.set_cons_zero, List.set_cons_succ])
        refine wpAnyH_take (i := 14) (v := ?_) rfl (by kernel_rfl) (by kernel_rfl) (by kernel_rfl) (fun _ _ _ h => h) (Or.inl ⟨by rfl, ?hy⟩) (by assumption) ?_
        case hy => (intro w hSw; (try dsimp only at hSw); go_simp; with_reducible rfl)
        (try simp only [Act.put, List.setIfInBounds_toArray, List.set_cons_zero, List.set_cons_succ])
        refine wpAnyH_take (i := 15) (v := ?_) rfl (by kernel_rfl) (by kernel_rfl) (by kernel_rfl) (fun _ _ _ h => h) (Or.inl ⟨by rfl, ?hy⟩) (by assumption) ?_
        case hy => (intro w hSw; (try dsimp only at hSw); go_simp; with_reducible rfl)
        (try simp only [Act.put, List.setIfInBounds_toArray, List.set_cons_zero, List.set_cons_succ])
        refine wpAnyH_take (i := 17) (v := ?_) rfl (by kernel_rfl) (by kernel_rfl) (by kernel_rfl) (fun _ _ _ h => h) (Or.inl ⟨by rfl, ?hy⟩) (by assumption) ?_
        case hy => (intro w hSw; (try dsimp only at hSw); go_simp; with_reducible rfl)
        (try simp only [Act.put, List.setIfInBounds_toArray, List.set_cons_zero, List.set_cons_succ])
        refine wpAnyH_take (i := 18) (v := ?_) rfl (by kernel_rfl) (by kernel_rfl) (by kernel_rfl) (fun _ _ _ h => h) (Or.inl ⟨by rfl, ?hy⟩) (by assumption) ?_
        case hy => (intro w hSw; (try dsimp only at hSw); go_simp; with_reducible rfl)
        (try simp only [Act.put, List.setIfInBounds_toArray, List.set_cons_zero, List.set_cons_succ])
        refine wpAnyH_take (i := 19) (v := ?_) rfl (by kernel_rfl) (by kernel_rfl) (by kernel_rfl) (fun _ _ _ h => h) (Or.inl ⟨by rfl, ?hy⟩) (by assumption) ?_
        case hy => (intro w hSw; (try dsimp only at hSw); go_simp; with_reducible rfl)
        (try simp only [Act.put, List.setIfInBounds_toArray, List.set_cons_zero, List.set_cons_succ])
        refine wpAnyH_take (i := 20) (v := ?_) rfl (by kernel_rfl) (by kernel_rfl) (by kernel_rfl) (fun _ _ _ h => h) (Or.inl ⟨by rfl, ?hy⟩) (by assumption) ?_
        case hy => (intro w hSw; (try dsimp only at hSw); go_simp; with_reducible rfl)
        (try simp only [Act.put, List.setIfInBounds_toArray, List.set_cons_zero, List.set_cons_succ])
        refine wpAnyH_ready (rs := [5, 16]) (by kernel_rfl) (by simp) ?_
        refine AllReadyH.cons rfl (fun K hK => ?_) (AllReadyH.cons rfl (fun K hK => ?_) (AllReadyH.nil))
        · go_simp
          refine hK.out _ _ (hHeld) (fun hHeld => ?_)
          clear hK K
          (try simp only [Act.put, List.setIfInBounds_toArray, List.set_cons_zero, List.set_cons_succ])
          refine wpAnyH_take (i := 9) (v := ?_) rfl (by kernel_rfl) (by kernel_rfl) (by kernel_rfl) (fun _ _ _ h => h) (Or.inl ⟨by rfl, ?hy⟩) (by assumption) ?_
          case hy => (intro w hSw; (try dsimp only at hSw); go_simp; with_reducible rfl)
          (try simp only [Act.put, List.setIfInBounds_toArray, List.set_cons_zero, List.set_cons_succ])
          refine wpAnyH_take (i := 10) (v := ?_) rfl (by kernel_rfl) (by kernel_rfl) (by kernel_rfl) (fun _ _ _ h => h) (Or.inl ⟨by rfl, ?hy⟩) (by assumption) ?_
          case hy => (intro w hSw; (try dsimp only at hSw); go_simp; with_reducible rfl)
          (try simp only [Act.put, List.setIfInBounds_toArray, List.set_cons_zero, List.set_cons_succ])
          refine wpAnyH_ready (rs := [16]) (by kernel_rfl) (by simp) ?_
          refine AllReadyH.cons rfl (fun K hK => ?_) (AllReadyH.nil)
          go_simp
          refine hK.out _ _ (hHeld) (fun hHeld => ?_)
          clear hK K
          (try simp only [Act.put, List.setIfInBounds_toArray, List.set_cons_zero, List.set_cons_succ])
          refine wpAnyH_take (i := 21) (v := ?_) rfl (by kernel_rfl) (by kernel_rfl) (by kernel_rfl) (fun _ _ _ h => h) (Or.inl ⟨by rfl, ?hy⟩) (by assumption) ?_
          case hy => (intro w hSw; (try dsimp only at hSw); go_simp; with_reducible rfl)
          (try simp only [Act.put, List.setIfInBounds_toArray, List.set_cons_zero, List.set_cons_succ])
          refine wpAnyH_take (i := 22) (v := ?_) rfl (by kernel_rfl) (by kernel_rfl) (by kernel_rfl) (fun _ _ _ h => h) (Or.inl ⟨by rfl, ?hy⟩) (by assumption) ?_
          case hy => (intro w hSw; (try dsimp only at hSw); go_simp; with_reducible rfl)
          (try simp only [Act.put, List.setIfInBounds_toArray, List.set_cons_zero, List.set_cons_succ])
          refine wpAnyH_take (i := 23) (v := ?_) rfl (by kernel_rfl) (by kernel_rfl) (by kernel_rfl) (fun _ _ _ h => h) (Or.inl ⟨by rfl, ?hy⟩) (by assumption) ?_
          case hy => (intro w hSw; (try dsimp only at hSw); go_simp; with_reducible rfl)
          (try simp only [Act.put, List.setIfInBounds_toArray, List.set_cons_zero, List.set_cons_succ])
          refine wpAnyH_take (i := 24) (v := ?_) rfl (by kernel_rfl) (by kernel_rfl) (by kernel_rfl) (fun _ _ _ h => h) (Or.inl ⟨by rfl, ?hy⟩) (by assumption) ?_
          case hy => (intro w hSw; (try dsimp only at hSw); go_simp; with_reducible rfl)
          (try simp only [Act.put, List.setIfInBounds_toArray, List.set_cons_zero, List.set_cons_succ])
          refine wpAnyH_ready (rs := [25]) (by kernel_rfl) (by simp) ?_
          refine AllReadyH.cons rfl (fun K hK => ?_) (AllReadyH.nil)
          go_simp
          refine hK.out _ _ (fun o => (cell_set_ne (show w.heap.size ≠ p by omega)).trans (hHeld o)) (fun hHeld => ?_)
          clear hK K
          (try simp only [Act.put, List.setIfInBounds_toArray, List.set_cons_zero, List.set_cons_succ])
          refine wpAnyH_take (i := 26) (v := ?_) rfl (by kernel_rfl) (by kernel_rfl) (by kernel_rfl) (fun _ _ _ h => h) (Or.inl ⟨by rfl, ?hy⟩) (by assumption) ?_
          case hy => (intro w hSw; (try dsimp only at hSw); go_simp; with_reducible rfl)
          (try simp only [Act.put, List.setIfInBounds_toArray, List.set_cons_zero, List.set_cons_succ])
          refine wpAnyH_take (i := 27) (v := ?_) rfl (by kernel_rfl) (by kernel_rfl) (by kernel_rfl) (fun _ _ _ h => h) (Or.inl ⟨by rfl, ?hy⟩) (by assumption) ?_
          case hy => (intro w hSw; (try dsimp only at hSw); go_simp; with_reducible rfl)
          (try simp only [Act.put, List.setIfInBounds_toArray, List.set_cons_zero, List.set_cons_succ])
          refine wpAnyH_ready (rs := [28]) (by kernel_rfl) (by simp) ?_
          refine AllReadyH.cons rfl (fun K hK => ?_) (AllReadyH.nil)
          go_simp
          refine hK.out _ _ (fun o => (cell_set_ne (show w.heap.size ≠ p by omega)).trans (hHeld o)) (fun hHeld => ?_)
          clear hK K
          (try simp only [Act.put, List.setIfInBounds_toArray, List.set_cons_zero, List.set_cons_succ])
          refine wpAnyH_done (by kernel_rfl) ?_ _
          go_wp2_with fail
          all_goals (
            go_meet
            obtain ⟨g1, g2⟩ := M.widL_ok H0.out p1 p2
            refine ⟨rfl, V, cc, M.widL f d1 d2, g1, g2, ?_, ?_, ?_, ?_⟩
            · exact Ev.drew (Ev.setCell (Ev.setCell HE4.out (by simp; omega) _) (by simp; omega) _)
            · rw [drew_heap]; exact set_heap (set_heap HQ.out (by omega)) (by omega)
            · rw [drew_heap, set_heap_same (set_heap_same HX.out)]
              simp [M.widL, M.widR] <;> omega
            · exact sl_own (by decide) (tcs_len _) (by omega) ((ownsRow_setCell_below (ownsRow_setCell_below HOWN.out (by simp) _) (by simp) _).ev (Ev.drew (Ev.refl _))))
        · go_simp
          refine hK.out _ _ (hHeld) (fun hHeld => ?_)
          clear hK K
          (try simp only [Act.put, List.setIfInBounds_toArray, List.set_cons_zero, List.set_cons_succ])
          refine wpAnyH_take (i := 21) (v := ?_) rfl (by kernel_rfl) (by kernel_rfl) (by kernel_rfl) (fun _ _ _ h => h) (Or.inl ⟨by rfl, ?hy⟩) (by assumption) ?_
          case hy => (intro w hSw; (try dsimp only at hSw); go_simp; with_reducible rfl)
          (try simp only [Act.put, List.setIfInBounds_toArray, List.set_cons_zero, List.set_cons_succ])
          refine wpAnyH_take (i := 22) (v := ?_) rfl (by kernel_rfl) (by kernel_rfl) (by kernel_rfl) (fun _ _ _ h => h) (Or.inl ⟨by rfl, ?hy⟩) (by assumption) ?_
          case hy => (intro w hSw; (try dsimp only at hSw); go_simp; with_reducible rfl)
          (try simp only [Act.put, List.setIfInBounds_toArray, List.set_cons_zero, List.set_cons_succ])
          refine wpAnyH_ready (rs := [5]) (by kernel_rfl) (by simp) ?_
          refine AllReadyH.cons rfl (fun K hK => ?_) (AllReadyH.nil)
          go_simp
          refine hK.out _ _ (hHeld) (fun hHeld => ?_)
          clear hK K
          (try simp only [Act.put, List.setIfInBounds_toArray, List.set_cons_zero, List.set_cons_succ])
          refine wpAnyH_take (i := 9) (v := ?_) rfl (by kernel_rfl) (by kernel_rfl) (by kernel_rfl) (fun _ _ _ h => h) (Or.inl ⟨by rfl, ?hy⟩) (by assumption) ?_
          case hy => (intro w hSw; (try dsimp only at hSw); go_simp; with_reducible rfl)
          (try simp only [Act.put, List.setIfInBounds_toArray, List.set_cons_zero, List.set_cons_succ])
          refine wpAnyH_take (i := 10) (v := ?_) rfl (by kernel_rfl) (by kernel_rfl) (by kernel_rfl) (fun _ _ _ h => h) (Or.inl ⟨by rfl, ?hy⟩) (by assumption) ?_
          case hy => (intro w hSw; (try dsimp only at hSw); go_simp; with_reducible rfl)
          (try simp only [Act.put, List.setIfInBounds_toArray, List.set_cons_zero, List.set_cons_succ])
          refine wpAnyH_take (i := 23) (v := ?_) rfl (by kernel_rfl) (by kernel_rfl) (by kernel_rfl) (fun _ _ _ h => h) (Or.inl ⟨by rfl, ?hy⟩) (by assumption) ?_
          case hy => (intro w hSw; (try dsimp only at hSw); go_simp; with_reducible rfl)
          (try simp only [Act.put, List.setIfInBounds_toArray, List.set_cons_zero, List.set_cons_succ])
          refine wpAnyH_take (i := 24) (v := ?_) rfl (by kernel_rfl) (by kernel_rfl) (by kernel_rfl) (fun _ _ _ h => h) (Or.inl ⟨by rfl, ?hy⟩) (by assumption) ?_
          case hy => (intro w hSw; (try dsimp only at hSw); go_simp; with_reducible rfl)
          (try simp only [Act.put, List.setIfInBounds_toArray, List.set_cons_zero, List.set_cons_succ])
          refine wpAnyH_ready (rs := [25]) (by kernel_rfl) (by simp) ?_
          refine AllReadyH.cons rfl (fun K hK => ?_) (AllReadyH.nil)
          go_simp
          refine hK.out _ _ (fun o => (cell_set_ne (show w.heap.size ≠ p by omega)).trans (hHeld o)) (fun hHeld => ?_)
          clear hK K
          (try simp only [Act.put, List.setIfInBounds_toArray, List.set_cons_zero, List.set_cons_succ])
          refine wpAnyH_take (i := 26) (v := ?_) rfl (by kernel_rfl) (by kernel_rfl) (by kernel_rfl) (fun _ _ _ h => h) (Or.inl ⟨by rfl, ?hy⟩) (by assumption) ?_
          case hy => (intro w hSw; (try dsimp only at hSw); go_simp; with_reducible rfl)
          (try simp only [Act.put, List.setIfInBounds_toArray, List.set_cons_zero, List.set_cons_succ])
          refine wpAnyH_take (i := 27) (v := ?_) rfl (by kernel_rfl) (by kernel_rfl) (by kernel_rfl) (fun _ _ _ h => h) (Or.inl ⟨by rfl, ?hy⟩) (by assumption) ?_
          case hy => (intro w hSw; (try dsimp only at hSw); go_simp; with_reducible rfl)
          (try simp only [Act.put, List.setIfInBounds_toArray, List.set_cons_zero, List.set_cons_succ])
          refine wpAnyH_ready (rs := [28]) (by kernel_rfl) (by simp) ?_
          refine AllReadyH.cons rfl (fun K hK => ?_) (AllReadyH.nil)
          go_simp
          refine hK.out _ _ (fun o => (cell_set_ne (show w.heap.size ≠ p by omega)).trans (hHeld o)) (fun hHeld => ?_)
          clear hK K
          (try simp only [Act.put, List.setIfInBounds_toArray, List.set_cons_zero, List.set_cons_succ])
          refine wpAnyH_done (by kernel_rfl) ?_ _
          go_wp2_with fail
          all_goals (
            go_meet
            obtain ⟨g1, g2⟩ := M.widL_ok H0.out p1 p2
            refine ⟨rfl, V, cc, M.widL f d1 d2, g1, g2, ?_, ?_, ?_, ?_⟩
            · exact Ev.drew (Ev.setCell (Ev.setCell HE4.out (by simp; omega) _) (by simp; omega) _)
            · rw [drew_heap]; exact set_heap (set_heap HQ.out (by omega)) (by omega)
            · rw [drew_heap, set_heap_same (set_heap_same HX.out)]
              simp [M.widL, M.widR] <;> omega
            · exact sl_own (by decide) (tcs_len _) (by omega) ((ownsRow_setCell_below (ownsRow_setCell_below HOWN.out (by simp) _) (by simp) _).ev (Ev.drew (Ev.refl _))))
      case rest =>
        obtain ⟨rfl, V, cc, g, g0, hwi, hEc, hQc, hXc, hSx⟩ := hcut
        have HQ := hid hQc
        have HX := hid hXc
        have HSX := hid hSx
        have HEC := hid hEc
        have h0 := H0.out
        have hgr := hwi.rows
        have hgw := hwi.wds
        have hgl := hwi.len
        obtain ⟨grows, gwds, glf, gts⟩ := g
        dsimp only at hgr hgw
        subst hgr hgw
        clear q0 q1 q2 q3 q4 x0 x1 x2 x3 x4 hEc hQc hXc
        obtain ⟨q0, q1, q2, q3, q4⟩ := cells5 HQ.out
        have hlq := heap_lt HQ.out
        have hlx := heap_lt HX.out
        have hfd := fun W (hE : Ev wc W) => Field_c f A n c (by omega) W (HS.out.ev (HEC.out.trans hE))
        have hfx : ∀ W, Ev wc W → Calls Try.prog 24 #[.agg #[.int .i64 f.rows, .int .i64 f.wds, .int .i64 glf.lo, .int .i64 glf.hi, .slice V n cc]] W fun e w' => (∃ B d, e = .returned (.agg #[.int .i64 f.rows, .int .i64 f.wds, .int .i64 glf.lo, .int .i64 glf.hi, .slice B n d]) ∧ Sl tcs 5 w' w'.heap.size B n d gts) ∧ Ev W w' := fun W hE => Field_c ⟨f.rows, f.wds, glf, gts⟩ V n cc (by omega) W (HSX.out.ev hE)
        have hlm := hwi.leave h0 g0
        have hl7 : (M.leaveBest f).length ≤ 7 := by obtain ⟨_, _, _, _, h, _⟩ := M.leave_spec h0; exact h
        have hnil := M.leave_nil h0
        have hlv : ∀ B d W, Sl tcs 5 W W.heap.size B n d (f.ts) → Calls Try.prog 44 #[.agg #[.int .i64 f.rows, .int .i64 f.wds, .int .i64 f.lf.lo, .int .i64 f.lf.hi, .slice B n d]] W fun e w' => (∃ B' d', e = .returned (.tuple #[.slice B' (M.leaveBest f).length d', .int .i64 0])) ∧ Ev W w' := by
          intro B d W h
          have h' := (fun B n d W h => Leave_c f B n d W h) B n d W h
          unfold fv at h'
          simp only [h0, ↓reduceIte] at h'
          exact h'.mono (fun e w' ⟨⟨B', d', h1, _⟩, h2⟩ => ⟨⟨B', d', h1⟩, h2⟩)
        have hlx : ∀ B d W, Sl tcs 5 W W.heap.size B n d (gts) → Calls Try.prog 44 #[.agg #[.int .i64 f.rows, .int .i64 f.wds, .int .i64 glf.lo, .int .i64 glf.hi, .slice B n d]] W fun e w' => (∃ B' d', e = .returned (.tuple #[.slice B' (M.leaveBest ⟨f.rows, f.wds, glf, gts⟩).length d', .int .i64 0])) ∧ Ev W w' := by
          intro B d W h
          have h' := (fun B n d W h => Leave_c ⟨f.rows, f.wds, glf, gts⟩ B n d W h) B n d W h
          unfold fv at h'
          simp only [g0, ↓reduceIte] at h'
          exact h'.mono (fun e w' ⟨⟨B', d', h1, _⟩, h2⟩ => ⟨⟨B', d', h1⟩, h2⟩)
        generalize (M.leaveBest f).length = lf at hlm hl7 hnil hlv
        generalize (M.leaveBest ⟨f.rows, f.wds, glf, gts⟩).length = lg at hlm hlx
        have c1 : ¬ ((lg : Int) > lf) := by omega
        have c2 : ¬ ((lf : Int) < lg) := by omega
        have HFD := hid hfd
        have HFX := hid hfx
        have HLV := hid hlv
        have HLX := hid hlx
        clear hfd hfx hlv hlx
        have hG3 := Ev.refl wc
        rcases Nat.eq_zero_or_pos lf with hz | hz
        · have hne := hnil.1 hz
          subst hz
          obtain rfl : lg = 0 := by omega
          have hsub := hwi.sub h0 g0
          have hng : M.rtruths ⟨f.rows, f.wds, glf, gts⟩ ≠ [] := fun e => by
            obtain ⟨l, hl⟩ := List.exists_mem_of_ne_nil _ hne
            have := hsub l hl
            rw [e] at this
            cases this
          obtain ⟨D, hD⟩ := Int.eq_ofNat_of_zero_le (show 0 ≤ f.wds by omega)
          have hbt : M.begin f true = 0 := by rw [M.begin_ref f _ h0]; show M.sureE f = 0; unfold M.sureE; rw [if_pos h0, if_neg (by intro e; exact hne (List.eq_nil_of_length_eq_zero e))]
          have gbt : M.begin ⟨f.rows, f.wds, glf, gts⟩ true = 0 := by rw [M.begin_ref _ _ g0]; show M.sureE _ = 0; unfold M.sureE; rw [if_pos g0, if_neg (by intro e; exact hng (List.eq_nil_of_length_eq_zero e))]
          have hdl : (M.done f).length = D := by rw [M.done_len]; omega
          have gdl : (M.done ⟨f.rows, f.wds, glf, gts⟩).length = D := by rw [M.done_len]; show f.wds.toNat = D; omega
          have HDS : Hid (∀ k, k < D → ∃ y z, (M.done f)[k]? = some y ∧ (M.done ⟨f.rows, f.wds, glf, gts⟩)[k]? = some z ∧ M.inside y z = true) := hid (fun k hk => M.done_sub gbt hbt hD rfl hsub hk)
          have hdn : ∀ B d W, Sl tcs 5 W W.heap.size B n d (f.ts) → Calls Try.prog 28 #[.agg #[.int .i64 f.rows, .int .i64 f.wds, .int .i64 f.lf.lo, .int .i64 f.lf.hi, .slice B n d]] W fun e w' => (∃ B' d', e = .returned (.tuple #[.slice B' D d', .int .i64 0]) ∧ Sl rgc 2 w' w'.heap.size B' D d' (M.done f)) ∧ Ev W w' := by
            intro B d W h
            have h' := (fun B n d W h => Done_c f B n d W h) B n d W h
            unfold fv at h'
            simp only [hbt, hdl, ↓reduceIte] at h'
            exact h'.mono (fun e w' h => h)
          have hdx : ∀ B d W, Sl tcs 5 W W.heap.size B n d (gts) → Calls Try.prog 28 #[.agg #[.int .i64 f.rows, .int .i64 f.wds, .int .i64 glf.lo, .int .i64 glf.hi, .slice B n d]] W fun e w' => (∃ B' d', e = .returned (.tuple #[.slice B' D d', .int .i64 0]) ∧ Sl rgc 2 w' w'.heap.size B' D d' (M.done ⟨f.rows, f.wds, glf, gts⟩)) ∧ Ev W w' := by
            intro B d W h
            have h' := (fun B n d W h => Done_c ⟨f.rows, f.wds, glf, gts⟩ B n d W h) B n d W h
            unfold fv at h'
            simp only [gbt, gdl, ↓reduceIte] at h'
            exact h'.mono (fun e w' h => h)
          generalize M.done f = df at hdn HDS
          generalize M.done ⟨f.rows, f.wds, glf, gts⟩ = dg at hdx HDS
          have hD3 : D ≤ 3 := by omega
          have u1 : ((D : Int) != f.wds) = false := by simp; omega
          have u4 : ((D : Int) == f.wds) = true := by simp; omega
          have HDN := hid hdn
          have HDX := hid hdx
          clear hdn hdx hbt gbt hdl gdl hsub hne hng hnil hlm hl7 hD hwi g0 h0 hSx
          go_upto_region 11 with (first | (go_at_call 44; ((with_reducible refine (HLV.out _ _ _ HS4.out).mono ?_); rintro e w5 ⟨⟨B5, d5, rfl⟩, hb5⟩; have hG5 := hG4.trans hb5; clear HS4)) | (go_at_call 24; ((with_reducible refine (HFD.out _ hG3).mono ?_); rintro e w4 ⟨⟨B4, d4, rfl, hs4⟩, hb4⟩; have hG4 := hG3.trans hb4; have HS4 := hid hs4; clear hs4)))
          clear q0 q1 q2 q3 q4
          obtain ⟨x0, x1, x2, x3, x4⟩ := cells5 (hG5.heap HX.out)
          go_upto_region 12 with (first | (go_at_call 44; ((with_reducible refine (HLX.out _ _ _ HS6.out).mono ?_); rintro e w7 ⟨⟨B7, d7, rfl⟩, hb7⟩; have hG7 := hG6.trans hb7; clear HS6)) | (go_at_call 24; ((with_reducible refine (HFX.out _ hG5).mono ?_); rintro e w6 ⟨⟨B6, d6, rfl, hs6⟩, hb6⟩; have hG6 := hG5.trans hb6; have HS6 := hid hs6; clear hs6)))
          clear x0 x1 x2 x3 x4
          obtain ⟨q0, q1, q2, q3, q4⟩ := cells5 (hG7.heap HQ.out)
          go_upto_region 16 with fail
          go_upto_region 17 with (first | (go_at_call 28; ((with_reducible refine (HDN.out _ _ _ HS8.out).mono ?_); rintro e w9 ⟨⟨B9, d9, rfl, hs9⟩, hb9⟩; have hG9 := hG8.trans hb9; clear HS8; have HS9 := hid hs9; clear hs9)) | (go_at_call 24; ((with_reducible refine (HFD.out _ hG7).mono ?_); rintro e w8 ⟨⟨B8, d8, rfl, hs8⟩, hb8⟩; have hG8 := hG7.trans hb8; have HS8 := hid hs8; clear hs8)))
          clear q0 q1 q2 q3 q4
          obtain ⟨x0, x1, x2, x3, x4⟩ := cells5 (hG9.heap HX.out)
          go_upto_region 18 with (first | (go_at_call 28; ((with_reducible refine (HDX.out _ _ _ HS10.out).mono ?_); rintro e w11 ⟨⟨B11, d11, rfl, hs11⟩, hb11⟩; have hG11 := hG10.trans hb11; clear HS10; have HS11 := hid hs11; clear hs11)) | (go_at_call 24; ((with_reducible refine (HFX.out _ hG9).mono ?_); rintro e w10 ⟨⟨B10, d10, rfl, hs10⟩, hb10⟩; have hG10 := hG9.trans hb10; have HS10 := hid hs10; clear hs10)))
          clear x0 x1 x2 x3 x4
          obtain ⟨q0, q1, q2, q3, q4⟩ := cells5 (hG11.heap HQ.out)
          have hA1 : Ev w9 w11 := (hb10.trans hb11)
          have hA2 : Ev w11 w11 := Ev.refl _
          clear hb4 hb5 hb6 hb7 hb8 hb9 hb10 hb11
          obtain ⟨W0, hW0⟩ : ∃ W0, W0 = w11 := ⟨_, rfl⟩
          have HW0 := hid hW0
          clear hW0
          go_cut [132] (fun v wx => v = .bool false ∧ wx = W0)
          case first =>
            go_wp2_with fail
            go_meet
            exact ⟨by first | rfl | exact congrArg Value.bool (decide_eq_false (by omega)), HW0.out.symm⟩
          case rest =>
          obtain ⟨rfl, hwc⟩ := hcut
          have hwc2 := (hwc.trans HW0.out).symm
          clear hwc HW0
          subst hwc2
          go_wp2_with fail
          go_loopw [18] (fun i wr => ∃ j : Nat, i = .int .i64 j ∧ j ≤ D ∧ Ev w11 wr) (fun i _ => D - (intOf i).toNat)
          case atStart => exact ⟨0, rfl, by omega, Ev.refl _⟩
          case round =>
            obtain ⟨j, rfl, hj, hB⟩ := hrel
            clear q0 q1 q2 q3 q4
            by_cases hlt : j < D
            · obtain ⟨ba, oa, xa, rfl, hba, hxa, _, hca⟩ := HS9.out.at_ (hA1.trans hB) hlt
              obtain ⟨bb, ob, xb, rfl, hbb, hxb, _, hcb⟩ := HS11.out.at_ (hA2.trans hB) hlt
              obtain ⟨y, z, hy, hz, hin⟩ := HDS.out j hlt
              obtain rfl : y = xa := Option.some.inj (hy.symm.trans hxa)
              obtain rfl : z = xb := Option.some.inj (hz.symm.trans hxb)
              have e0 := hca 0 _ rfl
              have e1 := hca 1 _ rfl
              have e2 := hcb 0 _ rfl
              have e3 := hcb 1 _ rfl
              simp only [Nat.add_zero] at e0 e2
              have hic := fun W => inside_c y z W
              rw [hin] at hic
              have HIN := hid hic
              have hba2 : ba < wr.heap.size := by have := (hA1.trans hB).size; omega
              have hbb2 : bb < wr.heap.size := by have := (hA2.trans hB).size; omega
              have hcp1 := HS9.out.cap
              have hcp2 := HS11.out.cap
              have HSE : Hid (∀ w', Ev wr w' → Ev wr w' ∧ (∀ o, w'.cell? ⟨ba, o, none⟩ = wr.cell? ⟨ba, o, none⟩) ∧ (∀ o, w'.cell? ⟨bb, o, none⟩ = wr.cell? ⟨bb, o, none⟩)) := hid (fun w' h => ⟨h, fun o => h.cells.1 _ o hba2, fun o => h.cells.1 _ o hbb2⟩)
              clear hic hy hz hxa hxb hca hcb hin
              go_wp2_with (go_region_held3 (fun w' => Ev wr w' ∧ (∀ o, w'.cell? ⟨ba, o, none⟩ = wr.cell? ⟨ba, o, none⟩) ∧ (∀ o, w'.cell? ⟨bb, o, none⟩ = wr.cell? ⟨bb, o, none⟩)) (exact HSE.out _ (by repeat (first | with_reducible exact Ev.refl wr | (with_reducible assumption) | with_reducible refine Ev.drew ?_ | with_reducible refine Ev.alloc ?_ _))) (first | (go_at_call 61; ((with_reducible refine (HIN.out _).mono ?_); rintro e w25 ⟨rfl, hb25⟩; have hc25 : Ev wr w25 := (by first | exact hb25 | exact Ev.trans (Ev.drew (Ev.refl _)) hb25)))))
              exact ⟨⟨j + 1, by go_num, by omega, hB.trans hc25⟩, by simp [intOf]; omega⟩
            · go_wp2_with (first | (go_at_call 21; ((with_reducible refine (awake_c _).mono ?_); rintro e w27 ⟨rfl, hb27⟩)))
              go_ret
              exact ⟨rfl, HEC.out.trans ((hG11.trans hB).trans hb27)⟩
        · have c4 : (lf : Int) > 0 := by omega
          have c5 : (0 : Int) < lf := by omega
          clear hnil hlm hl7 h0 g0 hwi hSx
          go_upto_region 11 with (first | (go_at_call 44; ((with_reducible refine (HLV.out _ _ _ HS4.out).mono ?_); rintro e w5 ⟨⟨B5, d5, rfl⟩, hb5⟩; have hG5 := hG4.trans hb5; clear HS4)) | (go_at_call 24; ((with_reducible refine (HFD.out _ hG3).mono ?_); rintro e w4 ⟨⟨B4, d4, rfl, hs4⟩, hb4⟩; have hG4 := hG3.trans hb4; have HS4 := hid hs4; clear hs4)))
          clear q0 q1 q2 q3 q4
          obtain ⟨x0, x1, x2, x3, x4⟩ := cells5 (hG5.heap HX.out)
          go_upto_region 12 with (first | (go_at_call 44; ((with_reducible refine (HLX.out _ _ _ HS6.out).mono ?_); rintro e w7 ⟨⟨B7, d7, rfl⟩, hb7⟩; have hG7 := hG6.trans hb7; clear HS6)) | (go_at_call 24; ((with_reducible refine (HFX.out _ hG5).mono ?_); rintro e w6 ⟨⟨B6, d6, rfl, hs6⟩, hb6⟩; have hG6 := hG5.trans hb6; have HS6 := hid hs6; clear hs6)))
          clear x0 x1 x2 x3 x4
          obtain ⟨q0, q1, q2, q3, q4⟩ := cells5 (hG7.heap HQ.out)
          clear q0 q1 q2 q3 q4
          go_wp2_with (first | (go_at_call 21; ((with_reducible refine (awake_c _).mono ?_); rintro e w8 ⟨rfl, hb8⟩; have hG8 := hG7.trans hb8)))
          go_ret
          exact ⟨rfl, HEC.out.trans hG8⟩
    · obtain ⟨i, rfl⟩ : ∃ i, j = i + 1 := ⟨j - 1, by omega⟩
      have hin : i < n := by omega
      have ht : f.ts[i]? = some (f.ts[i]'(by omega)) := List.getElem?_eq_getElem _
      generalize f.ts[i]'(by omega) = t at ht
      obtain ⟨_, _, _, _, _, u0, u1, u2⟩ := M.tally_of H0.out t (List.mem_of_getElem? ht)
      have HT := hid ht
      have hsl := sl_own (enc := tcs) (by decide) (tcs_len _) (by omega) HOWN.out
      obtain ⟨gb, off, x, hV, hgb, hx, _, hcc⟩ := hsl.at_ (Below.refl _ _) hin
      obtain rfl : t = x := Option.some.inj (ht.symm.trans hx)
      have hgo : off = 0 ∧ p + 1 ≤ gb ∧ ∃ cur, W4.heap[gb]? = some (.cells cur 90 (0, 0)) := by
        rcases HOWN.out.2 with ⟨h2, _⟩ | ⟨g, cap, cur, h2, hb, hg, _⟩
        · rw [hV] at h2; cases h2
        · rw [hV] at h2
          obtain ⟨⟨rfl, rfl⟩, _⟩ : (gb = g ∧ off = 0) ∧ cc = cap := by simpa using h2
          exact ⟨rfl, hb, cur, hg⟩
      obtain ⟨rfl, hgp, cur, hgc⟩ := hgo
      subst hV
      have e0 := hcc 3 _ rfl
      have e1 := hcc 4 _ rfl
      have k0 := frozen_in hgc (i * 5 + 3)
      have k1 := frozen_in hgc (i * 5 + 3 + 1)
      simp only [Nat.zero_add] at e0 e1
      rw [show i * 5 + 4 = i * 5 + 3 + 1 from rfl] at e1
      have s8 : IntKind.i64.wrap (t.ct.lo - d1) = t.ct.lo - d1 := IntWalk.i64_in _ (by omega)
      have s9 : IntKind.i64.wrap (t.ct.hi + d2) = t.ct.hi + d2 := IntWalk.i64_in _ (by omega)
      have s10 : IntKind.i64.wrap (((i + 1 : Nat) : Int) - 1) = i := by rw [show ((i + 1 : Nat) : Int) - 1 = i by omega]; exact IntWalk.i64_in _ (by omega)
      have hcap := hsl.cap
      clear hcc hx ht hgc hsl
      go_upto_region 9 with fail
      go_cut [6] (fun v W1 => v = .bool false ∧ ∃ V : Option Addr, ∃ cc : Nat, ∃ g : M.Fl, M.check g = 0 ∧ M.Wide f g ∧ Ev w W1 ∧ W1.heap[w.heap.size]? = some (.cells #[.int .i64 f.rows, .int .i64 f.wds, .int .i64 f.lf.lo, .int .i64 f.lf.hi, .slice A n c] 26 (0, 0)) ∧ W1.heap[p]? = some (.cells #[.int .i64 f.rows, .int .i64 f.wds, .int .i64 g.lf.lo, .int .i64 g.lf.hi, .slice V n cc] 26 (0, 0)) ∧ Sl tcs 5 W1 W1.heap.size V n cc g.ts)
      case first =>
        refine wp_region_held_drew (S := fun w' => ∀ o, w'.cell? ⟨w.heap.size, o, none⟩ = W4.cell? ⟨w.heap.size, o, none⟩) (by kernel_rfl) (fun o => rfl) (fun hHeld => ?_)
        refine wpAnyH_take (i := 0) (v := ?_) rfl (by kernel_rfl) (by kernel_rfl) (by kernel_rfl) (fun _ _ _ h => h) (Or.inl ⟨by rfl, ?hy⟩) (by assumption) ?_
        case hy => (intro w hSw; (try dsimp only at hSw); go_simp; with_reducible rfl)
        (try simp only [Act.put, List.setIfInBounds_toArray, List.set_cons_zero, List.set_cons_succ])
        refine wpAnyH_take (i := 1) (v := ?_) rfl (by kernel_rfl) (by kernel_rfl) (by kernel_rfl) (fun _ _ _ h => h) (Or.inl ⟨by rfl, ?hy⟩) (by assumption) ?_
        case hy => (intro w hSw; (try dsimp only at hSw); go_simp; with_reducible rfl)
        (try simp only [Act.put, List.setIfInBounds_toArray, List.set_cons_zero, List.set_cons_succ])
        refine wpAnyH_take (i := 2) (v := ?_) rfl (by kernel_rfl) (by kernel_rfl) (by kernel_rfl) (fun _ _ _ h => h) (Or.inl ⟨by rfl, ?hy⟩) (by assumption) ?_
        case hy => (intro w hSw; (try dsimp only at hSw); go_simp; with_reducible rfl)
        (try simp only [Act.put, List.setIfInBounds_toArray, List.set_cons_zero, List.set_cons_succ])
        refine wpAnyH_take (i := 3) (v := ?_) rfl (by kernel_rfl) (by kernel_rfl) (by kernel_rfl) (fun _ _ _ h => h) (Or.inl ⟨by rfl, ?hy⟩) (by assumption) ?_
        case hy => (intro w hSw; (try dsimp only at hSw); go_simp; with_reducible rfl)
        (try simp only [Act.put, List.setIfInBounds_toArray, List.set_cons_zero, List.set_cons_succ])
        refine wpAnyH_take (i := 4) (v := ?_) rfl (by kernel_rfl) (by kernel_rfl) (by kernel_rfl) (fun _ _ _ h => h) (Or.inl ⟨by rfl, ?hy⟩) (by assumption) ?_
        case hy => (intro w hSw; (try dsimp only at hSw); go_simp; with_reducible rfl)
        (try simp only [Act.put, List.setIfInBounds_toArray, List.set_cons_zero, List.set_cons_succ])
        refine wpAnyH_take (i := 6) (v := ?_) rfl (by kernel_rfl) (by kernel_rfl) (by kernel_rfl) (fun _ _ _ h => h) (Or.inl ⟨by rfl, ?hy⟩) (by assumption) ?_
        case hy => (intro w hSw; (try dsimp only at hSw); go_simp; with_reducible rfl)
        (try simp only [Act.put, List.setIfInBounds_toArray, List.set_cons_zero, List.set_cons_succ])
        refine wpAnyH_take (i := 7) (v := ?_) rfl (by kernel_rfl) (by kernel_rfl) (by kernel_rfl) (fun _ _ _ h => h) (Or.inl ⟨by rfl, ?hy⟩) (by assumption) ?_
        case hy => (intro w hSw; (try dsimp only at hSw); go_simp; with_reducible rfl)
        (try simp only [Act.put, List.setIfInBounds_toArray, List.set_cons_zero, List.set_cons_succ])
        refine wpAnyH_take (i := 8) (v := ?_) rfl (by kernel_rfl) (by kernel_rfl) (by kernel_rfl) (fun _ _ _ h => h) (Or.inl ⟨by rfl, ?hy⟩) (by assumption) ?_
        case hy => (intro w hSw; (try dsimp only at hSw); go_simp; with_reducible rfl)
        (try simp only [Act.put, List.setIfInBounds_toArray, List.set_cons_zero, List.set_cons_succ])
        refine wpAnyH_take (i := 11) (v := ?_) rfl (by kernel_rfl) (by kernel_rfl) (by kernel_rfl) (fun _ _ _ h => h) (Or.inl ⟨by rfl, ?hy⟩) (by assumption) ?_
        case hy => (intro w hSw; (try dsimp only at hSw); go_simp; with_reducible rfl)
        (try simp only [Act.put, List.setIfInBounds_toArray, List.set_cons_zero, List.set_cons_succ])
        refine wpAnyH_take (i := 12) (v := ?_) rfl (by kernel_rfl) (by kernel_rfl) (by kernel_rfl) (fun _ _ _ h => h) (Or.inl ⟨by rfl, ?hy⟩) (by assumption) ?_
        case hy => (intro w hSw; (try dsimp only at hSw); go_simp; with_reducible rfl)
        (try simp only [Act.put, List.setIfInBounds_toArray, List.set_cons_zero, List.set_cons_succ])
        refine wpAnyH_take (i := 13) (v := ?_) rfl (by kernel_rfl) (by kernel_rfl) (by kernel_rfl) (fun _ _ _ h => h) (Or.inl ⟨by rfl, ?hy⟩) (by assumption) ?_
        case hy => (intro w hSw; (try dsimp only at hSw); go_simp; with_reducible rfl)
        (try simp only [Act.put, List.setIfInBounds_toArray, List.set_cons_zero, List.set_cons_succ])
        refine wpAnyH_take (i := 14) (v := ?_) rfl (by kernel_rfl) (by kernel_rfl) (by kernel_rfl) (fun _ _ _ h => h) (Or.inl ⟨by rfl, ?hy⟩) (by assumption) ?_
        case hy => (intro w hSw; (try dsimp only at hSw); go_simp; with_reducible rfl)
        (try simp only [Act.put, List.setIfInBounds_toArray, List.set_cons_zero, List.set_cons_succ])
        refine wpAnyH_take (i := 15) (v := ?_) rfl (by kernel_rfl) (by kernel_rfl) (by kernel_rfl) (fun _ _ _ h => h) (Or.inl ⟨by rfl, ?hy⟩) (by assumption) ?_
        case hy => (intro w hSw; (try dsimp only at hSw); go_simp; with_reducible rfl)
        (try simp only [Act.put, List.setIfInBounds_toArray, List.set_cons_zero, List.set_cons_succ])
        refine wpAnyH_take (i := 17) (v := ?_) rfl (by kernel_rfl) (by kernel_rfl) (by kernel_rfl) (fun _ _ _ h => h) (Or.inl ⟨by rfl, ?hy⟩) (by assumption) ?_
        case hy => (intro w hSw; (try dsimp only at hSw); go_simp; with_reducible rfl)
        (try simp only [Act.put, List.setIfInBounds_toArray, List.set_cons_zero, List.set_cons_succ])
        refine wpAnyH_take (i := 18) (v := ?_) rfl (by kernel_rfl) (by kernel_rfl) (by kernel_rfl) (fun _ _ _ h => h) (Or.inl ⟨by rfl, ?hy⟩) (by assumption) ?_
        case hy => (intro w hSw; (try dsimp only at hSw); go_simp; with_reducible rfl)
        (try simp only [Act.put, List.setIfInBounds_toArray, List.set_cons_zero, List.set_cons_succ])
        refine wpAnyH_take (i := 19) (v := ?_) rfl (by kernel_rfl) (by kernel_rfl) (by kernel_rfl) (fun _ _ _ h => h) (Or.inl ⟨by rfl, ?hy⟩) (by assumption) ?_
        case hy => (intro w hSw; (try dsimp only at hSw); go_simp; with_reducible rfl)
        (try simp only [Act.put, List.setIfInBounds_toArray, List.set_cons_zero, List.set_cons_succ])
        refine wpAnyH_take (i := 20) (v := ?_) rfl (by kernel_rfl) (by kernel_rfl) (by kernel_rfl) (fun _ _ _ h => h) (Or.inl ⟨by rfl, ?hy⟩) (by assumption) ?_
        case hy => (intro w hSw; (try dsimp only at hSw); go_simp; with_reducible rfl)
        (try simp only [Act.put, List.setIfInBounds_toArray, List.set_cons_zero, List.set_cons_succ])
        refine wpAnyH_ready (rs := [5, 16]) (by kernel_rfl) (by simp) ?_
        refine AllReadyH.cons rfl (fun K hK => ?_) (AllReadyH.cons rfl (fun K hK => ?_) (AllReadyH.nil))
        · go_simp
          refine hK.out _ _ (hHeld) (fun hHeld => ?_)
          clear hK K
          (try simp only [Act.put, List.setIfInBounds_toArray, List.set_cons_zero, List.set_cons_succ])
          refine wpAnyH_take (i := 9) (v := ?_) rfl (by kernel_rfl) (by kernel_rfl) (by kernel_rfl) (fun _ _ _ h => h) (Or.inl ⟨by rfl, ?hy⟩) (by assumption) ?_
          case hy => (intro w hSw; (try dsimp only at hSw); go_simp; with_reducible rfl)
          (try simp only [Act.put, List.setIfInBounds_toArray, List.set_cons_zero, List.set_cons_succ])
          refine wpAnyH_take (i := 10) (v := ?_) rfl (by kernel_rfl) (by kernel_rfl) (by kernel_rfl) (fun _ _ _ h => h) (Or.inl ⟨by rfl, ?hy⟩) (by assumption) ?_
          case hy => (intro w hSw; (try dsimp only at hSw); go_simp; with_reducible rfl)
          (try simp only [Act.put, List.setIfInBounds_toArray, List.set_cons_zero, List.set_cons_succ])
          refine wpAnyH_ready (rs := [16]) (by kernel_rfl) (by simp) ?_
          refine AllReadyH.cons rfl (fun K hK => ?_) (AllReadyH.nil)
          go_simp
          refine hK.out _ _ (hHeld) (fun hHeld => ?_)
          clear hK K
          (try simp only [Act.put, List.setIfInBounds_toArray, List.set_cons_zero, List.set_cons_succ])
          refine wpAnyH_take (i := 21) (v := ?_) rfl (by kernel_rfl) (by kernel_rfl) (by kernel_rfl) (fun _ _ _ h => h) (Or.inl ⟨by rfl, ?hy⟩) (by assumption) ?_
          case hy => (intro w hSw; (try dsimp only at hSw); go_simp; with_reducible rfl)
          (try simp only [Act.put, List.setIfInBounds_toArray, List.set_cons_zero, List.set_cons_succ])
          refine wpAnyH_take (i := 22) (v := ?_) rfl (by kernel_rfl) (by kernel_rfl) (by kernel_rfl) (fun _ _ _ h => h) (Or.inl ⟨by rfl, ?hy⟩) (by assumption) ?_
          case hy => (intro w hSw; (try dsimp only at hSw); go_simp; with_reducible rfl)
          (try simp only [Act.put, List.setIfInBounds_toArray, List.set_cons_zero, List.set_cons_succ])
          refine wpAnyH_take (i := 23) (v := ?_) rfl (by kernel_rfl) (by kernel_rfl) (by kernel_rfl) (fun _ _ _ h => h) (Or.inl ⟨by rfl, ?hy⟩) (by assumption) ?_
          case hy => (intro w hSw; (try dsimp only at hSw); go_simp; with_reducible rfl)
          (try simp only [Act.put, List.setIfInBounds_toArray, List.set_cons_zero, List.set_cons_succ])
          refine wpAnyH_take (i := 24) (v := ?_) rfl (by kernel_rfl) (by kernel_rfl) (by kernel_rfl) (fun _ _ _ h => h) (Or.inl ⟨by rfl, ?hy⟩) (by assumption) ?_
          case hy => (intro w hSw; (try dsimp only at hSw); go_simp; with_reducible rfl)
          (try simp only [Act.put, List.setIfInBounds_toArray, List.set_cons_zero, List.set_cons_succ])
          refine wpAnyH_ready (rs := [25]) (by kernel_rfl) (by simp) ?_
          refine AllReadyH.cons rfl (fun K hK => ?_) (AllReadyH.nil)
          go_simp
          refine hK.out _ _ (fun o => (cell_set_ne (show w.heap.size ≠ gb by omega)).trans (hHeld o)) (fun hHeld => ?_)
          clear hK K
          (try simp only [Act.put, List.setIfInBounds_toArray, List.set_cons_zero, List.set_cons_succ])
          refine wpAnyH_take (i := 26) (v := ?_) rfl (by kernel_rfl) (by kernel_rfl) (by kernel_rfl) (fun _ _ _ h => h) (Or.inl ⟨by rfl, ?hy⟩) (by assumption) ?_
          case hy => (intro w hSw; (try dsimp only at hSw); go_simp; with_reducible rfl)
          (try simp only [Act.put, List.setIfInBounds_toArray, List.set_cons_zero, List.set_cons_succ])
          refine wpAnyH_take (i := 27) (v := ?_) rfl (by kernel_rfl) (by kernel_rfl) (by kernel_rfl) (fun _ _ _ h => h) (Or.inl ⟨by rfl, ?hy⟩) (by assumption) ?_
          case hy => (intro w hSw; (try dsimp only at hSw); go_simp; with_reducible rfl)
          (try simp only [Act.put, List.setIfInBounds_toArray, List.set_cons_zero, List.set_cons_succ])
          refine wpAnyH_ready (rs := [28]) (by kernel_rfl) (by simp) ?_
          refine AllReadyH.cons rfl (fun K hK => ?_) (AllReadyH.nil)
          go_simp
          refine hK.out _ _ (fun o => (cell_set_ne (show w.heap.size ≠ gb by omega)).trans (hHeld o)) (fun hHeld => ?_)
          clear hK K
          (try simp only [Act.put, List.setIfInBounds_toArray, List.set_cons_zero, List.set_cons_succ])
          refine wpAnyH_done (by kernel_rfl) ?_ _
          go_wp2_with fail
          all_goals (
            go_meet
            obtain ⟨g1, g2⟩ := M.widT_ok H0.out HT.out p1 p2
            refine ⟨rfl, some ⟨gb, 0, none⟩, cc, M.widT f i t d1 d2, g1, g2, ?_, ?_, ?_, ?_⟩
            · exact Ev.drew (Ev.setCell (Ev.setCell HE4.out (by simp; omega) _) (by simp; omega) _)
            · rw [drew_heap]; exact set_heap (set_heap HQ.out (by omega)) (by omega)
            · rw [drew_heap]; exact set_heap (set_heap HX.out (by omega)) (by omega)
            · refine sl_own (by decide) (tcs_len _) (by omega) ((own_set2 HOWN.out HT.out ?_ ?_).ev (Ev.drew (Ev.refl _)))
              · simp [M.widR] <;> omega
              · simp [M.widR] <;> omega)
        · go_simp
          refine hK.out _ _ (hHeld) (fun hHeld => ?_)
          clear hK K
          (try simp only [Act.put, List.setIfInBounds_toArray, List.set_cons_zero, List.set_cons_succ])
          refine wpAnyH_take (i := 21) (v := ?_) rfl (by kernel_rfl) (by kernel_rfl) (by kernel_rfl) (fun _ _ _ h => h) (Or.inl ⟨by rfl, ?hy⟩) (by assumption) ?_
          case hy => (intro w hSw; (try dsimp only at hSw); go_simp; with_reducible rfl)
          (try simp only [Act.put, List.setIfInBounds_toArray, List.set_cons_zero, List.set_cons_succ])
          refine wpAnyH_take (i := 22) (v := ?_) rfl (by kernel_rfl) (by kernel_rfl) (by kernel_rfl) (fun _ _ _ h => h) (Or.inl ⟨by rfl, ?hy⟩) (by assumption) ?_
          case hy => (intro w hSw; (try dsimp only at hSw); go_simp; with_reducible rfl)
          (try simp only [Act.put, List.setIfInBounds_toArray, List.set_cons_zero, List.set_cons_succ])
          refine wpAnyH_ready (rs := [5]) (by kernel_rfl) (by simp) ?_
          refine AllReadyH.cons rfl (fun K hK => ?_) (AllReadyH.nil)
          go_simp
          refine hK.out _ _ (hHeld) (fun hHeld => ?_)
          clear hK K
          (try simp only [Act.put, List.setIfInBounds_toArray, List.set_cons_zero, List.set_cons_succ])
          refine wpAnyH_take (i := 9) (v := ?_) rfl (by kernel_rfl) (by kernel_rfl) (by kernel_rfl) (fun _ _ _ h => h) (Or.inl ⟨by rfl, ?hy⟩) (by assumption) ?_
          case hy => (intro w hSw; (try dsimp only at hSw); go_simp; with_reducible rfl)
          (try simp only [Act.put, List.setIfInBounds_toArray, List.set_cons_zero, List.set_cons_succ])
          refine wpAnyH_take (i := 10) (v := ?_) rfl (by kernel_rfl) (by kernel_rfl) (by kernel_rfl) (fun _ _ _ h => h) (Or.inl ⟨by rfl, ?hy⟩) (by assumption) ?_
          case hy => (intro w hSw; (try dsimp only at hSw); go_simp; with_reducible rfl)
          (try simp only [Act.put, List.setIfInBounds_toArray, List.set_cons_zero, List.set_cons_succ])
          refine wpAnyH_take (i := 23) (v := ?_) rfl (by kernel_rfl) (by kernel_rfl) (by kernel_rfl) (fun _ _ _ h => h) (Or.inl ⟨by rfl, ?hy⟩) (by assumption) ?_
          case hy => (intro w hSw; (try dsimp only at hSw); go_simp; with_reducible rfl)
          (try simp only [Act.put, List.setIfInBounds_toArray, List.set_cons_zero, List.set_cons_succ])
          refine wpAnyH_take (i := 24) (v := ?_) rfl (by kernel_rfl) (by kernel_rfl) (by kernel_rfl) (fun _ _ _ h => h) (Or.inl ⟨by rfl, ?hy⟩) (by assumption) ?_
          case hy => (intro w hSw; (try dsimp only at hSw); go_simp; with_reducible rfl)
          (try simp only [Act.put, List.setIfInBounds_toArray, List.set_cons_zero, List.set_cons_succ])
          refine wpAnyH_ready (rs := [25]) (by kernel_rfl) (by simp) ?_
          refine AllReadyH.cons rfl (fun K hK => ?_) (AllReadyH.nil)
          go_simp
          refine hK.out _ _ (fun o => (cell_set_ne (show w.heap.size ≠ gb by omega)).trans (hHeld o)) (fun hHeld => ?_)
          clear hK K
          (try simp only [Act.put, List.setIfInBounds_toArray, List.set_cons_zero, List.set_cons_succ])
          refine wpAnyH_take (i := 26) (v := ?_) rfl (by kernel_rfl) (by kernel_rfl) (by kernel_rfl) (fun _ _ _ h => h) (Or.inl ⟨by rfl, ?hy⟩) (by assumption) ?_
          case hy => (intro w hSw; (try dsimp only at hSw); go_simp; with_reducible rfl)
          (try simp only [Act.put, List.setIfInBounds_toArray, List.set_cons_zero, List.set_cons_succ])
          refine wpAnyH_take (i := 27) (v := ?_) rfl (by kernel_rfl) (by kernel_rfl) (by kernel_rfl) (fun _ _ _ h => h) (Or.inl ⟨by rfl, ?hy⟩) (by assumption) ?_
          case hy => (intro w hSw; (try dsimp only at hSw); go_simp; with_reducible rfl)
          (try simp only [Act.put, List.setIfInBounds_toArray, List.set_cons_zero, List.set_cons_succ])
          refine wpAnyH_ready (rs := [28]) (by kernel_rfl) (by simp) ?_
          refine AllReadyH.cons rfl (fun K hK => ?_) (AllReadyH.nil)
          go_simp
          refine hK.out _ _ (fun o => (cell_set_ne (show w.heap.size ≠ gb by omega)).trans (hHeld o)) (fun hHeld => ?_)
          clear hK K
          (try simp only [Act.put, List.setIfInBounds_toArray, List.set_cons_zero, List.set_cons_succ])
          refine wpAnyH_done (by kernel_rfl) ?_ _
          go_wp2_with fail
          all_goals (
            go_meet
            obtain ⟨g1, g2⟩ := M.widT_ok H0.out HT.out p1 p2
            refine ⟨rfl, some ⟨gb, 0, none⟩, cc, M.widT f i t d1 d2, g1, g2, ?_, ?_, ?_, ?_⟩
            · exact Ev.drew (Ev.setCell (Ev.setCell HE4.out (by simp; omega) _) (by simp; omega) _)
            · rw [drew_heap]; exact set_heap (set_heap HQ.out (by omega)) (by omega)
            · rw [drew_heap]; exact set_heap (set_heap HX.out (by omega)) (by omega)
            · refine sl_own (by decide) (tcs_len _) (by omega) ((own_set2 HOWN.out HT.out ?_ ?_).ev (Ev.drew (Ev.refl _)))
              · simp [M.widR] <;> omega
              · simp [M.widR] <;> omega)
      case rest =>
        obtain ⟨rfl, V, cc, g, g0, hwi, hEc, hQc, hXc, hSx⟩ := hcut
        have HQ := hid hQc
        have HX := hid hXc
        have HSX := hid hSx
        have HEC := hid hEc
        have h0 := H0.out
        have hgr := hwi.rows
        have hgw := hwi.wds
        have hgl := hwi.len
        obtain ⟨grows, gwds, glf, gts⟩ := g
        dsimp only at hgr hgw
        subst hgr hgw
        clear q0 q1 q2 q3 q4 x0 x1 x2 x3 x4 hEc hQc hXc
        obtain ⟨q0, q1, q2, q3, q4⟩ := cells5 HQ.out
        have hlq := heap_lt HQ.out
        have hlx := heap_lt HX.out
        have hfd := fun W (hE : Ev wc W) => Field_c f A n c (by omega) W (HS.out.ev (HEC.out.trans hE))
        have hfx : ∀ W, Ev wc W → Calls Try.prog 24 #[.agg #[.int .i64 f.rows, .int .i64 f.wds, .int .i64 glf.lo, .int .i64 glf.hi, .slice V n cc]] W fun e w' => (∃ B d, e = .returned (.agg #[.int .i64 f.rows, .int .i64 f.wds, .int .i64 glf.lo, .int .i64 glf.hi, .slice B n d]) ∧ Sl tcs 5 w' w'.heap.size B n d gts) ∧ Ev W w' := fun W hE => Field_c ⟨f.rows, f.wds, glf, gts⟩ V n cc (by omega) W (HSX.out.ev hE)
        have hlm := hwi.leave h0 g0
        have hl7 : (M.leaveBest f).length ≤ 7 := by obtain ⟨_, _, _, _, h, _⟩ := M.leave_spec h0; exact h
        have hnil := M.leave_nil h0
        have hlv : ∀ B d W, Sl tcs 5 W W.heap.size B n d (f.ts) → Calls Try.prog 44 #[.agg #[.int .i64 f.rows, .int .i64 f.wds, .int .i64 f.lf.lo, .int .i64 f.lf.hi, .slice B n d]] W fun e w' => (∃ B' d', e = .returned (.tuple #[.slice B' (M.leaveBest f).length d', .int .i64 0])) ∧ Ev W w' := by
          intro B d W h
          have h' := (fun B n d W h => Leave_c f B n d W h) B n d W h
          unfold fv at h'
          simp only [h0, ↓reduceIte] at h'
          exact h'.mono (fun e w' ⟨⟨B', d', h1, _⟩, h2⟩ => ⟨⟨B', d', h1⟩, h2⟩)
        have hlx : ∀ B d W, Sl tcs 5 W W.heap.size B n d (gts) → Calls Try.prog 44 #[.agg #[.int .i64 f.rows, .int .i64 f.wds, .int .i64 glf.lo, .int .i64 glf.hi, .slice B n d]] W fun e w' => (∃ B' d', e = .returned (.tuple #[.slice B' (M.leaveBest ⟨f.rows, f.wds, glf, gts⟩).length d', .int .i64 0])) ∧ Ev W w' := by
          intro B d W h
          have h' := (fun B n d W h => Leave_c ⟨f.rows, f.wds, glf, gts⟩ B n d W h) B n d W h
          unfold fv at h'
          simp only [g0, ↓reduceIte] at h'
          exact h'.mono (fun e w' ⟨⟨B', d', h1, _⟩, h2⟩ => ⟨⟨B', d', h1⟩, h2⟩)
        generalize (M.leaveBest f).length = lf at hlm hl7 hnil hlv
        generalize (M.leaveBest ⟨f.rows, f.wds, glf, gts⟩).length = lg at hlm hlx
        have c1 : ¬ ((lg : Int) > lf) := by omega
        have c2 : ¬ ((lf : Int) < lg) := by omega
        have HFD := hid hfd
        have HFX := hid hfx
        have HLV := hid hlv
        have HLX := hid hlx
        clear hfd hfx hlv hlx
        have hG3 := Ev.refl wc
        rcases Nat.eq_zero_or_pos lf with hz | hz
        · have hne := hnil.1 hz
          subst hz
          obtain rfl : lg = 0 := by omega
          have hsub := hwi.sub h0 g0
          have hng : M.rtruths ⟨f.rows, f.wds, glf, gts⟩ ≠ [] := fun e => by
            obtain ⟨l, hl⟩ := List.exists_mem_of_ne_nil _ hne
            have := hsub l hl
            rw [e] at this
            cases this
          obtain ⟨D, hD⟩ := Int.eq_ofNat_of_zero_le (show 0 ≤ f.wds by omega)
          have hbt : M.begin f true = 0 := by rw [M.begin_ref f _ h0]; show M.sureE f = 0; unfold M.sureE; rw [if_pos h0, if_neg (by intro e; exact hne (List.eq_nil_of_length_eq_zero e))]
          have gbt : M.begin ⟨f.rows, f.wds, glf, gts⟩ true = 0 := by rw [M.begin_ref _ _ g0]; show M.sureE _ = 0; unfold M.sureE; rw [if_pos g0, if_neg (by intro e; exact hng (List.eq_nil_of_length_eq_zero e))]
          have hdl : (M.done f).length = D := by rw [M.done_len]; omega
          have gdl : (M.done ⟨f.rows, f.wds, glf, gts⟩).length = D := by rw [M.done_len]; show f.wds.toNat = D; omega
          have HDS : Hid (∀ k, k < D → ∃ y z, (M.done f)[k]? = some y ∧ (M.done ⟨f.rows, f.wds, glf, gts⟩)[k]? = some z ∧ M.inside y z = true) := hid (fun k hk => M.done_sub gbt hbt hD rfl hsub hk)
          have hdn : ∀ B d W, Sl tcs 5 W W.heap.size B n d (f.ts) → Calls Try.prog 28 #[.agg #[.int .i64 f.rows, .int .i64 f.wds, .int .i64 f.lf.lo, .int .i64 f.lf.hi, .slice B n d]] W fun e w' => (∃ B' d', e = .returned (.tuple #[.slice B' D d', .int .i64 0]) ∧ Sl rgc 2 w' w'.heap.size B' D d' (M.done f)) ∧ Ev W w' := by
            intro B d W h
            have h' := (fun B n d W h => Done_c f B n d W h) B n d W h
            unfold fv at h'
            simp only [hbt, hdl, ↓reduceIte] at h'
            exact h'.mono (fun e w' h => h)
          have hdx : ∀ B d W, Sl tcs 5 W W.heap.size B n d (gts) → Calls Try.prog 28 #[.agg #[.int .i64 f.rows, .int .i64 f.wds, .int .i64 glf.lo, .int .i64 glf.hi, .slice B n d]] W fun e w' => (∃ B' d', e = .returned (.tuple #[.slice B' D d', .int .i64 0]) ∧ Sl rgc 2 w' w'.heap.size B' D d' (M.done ⟨f.rows, f.wds, glf, gts⟩)) ∧ Ev W w' := by
            intro B d W h
            have h' := (fun B n d W h => Done_c ⟨f.rows, f.wds, glf, gts⟩ B n d W h) B n d W h
            unfold fv at h'
            simp only [gbt, gdl, ↓reduceIte] at h'
            exact h'.mono (fun e w' h => h)
          generalize M.done f = df at hdn HDS
          generalize M.done ⟨f.rows, f.wds, glf, gts⟩ = dg at hdx HDS
          have hD3 : D ≤ 3 := by omega
          have u1 : ((D : Int) != f.wds) = false := by simp; omega
          have u4 : ((D : Int) == f.wds) = true := by simp; omega
          have HDN := hid hdn
          have HDX := hid hdx
          clear hdn hdx hbt gbt hdl gdl hsub hne hng hnil hlm hl7 hD hwi g0 h0 hSx
          go_upto_region 11 with (first | (go_at_call 44; ((with_reducible refine (HLV.out _ _ _ HS4.out).mono ?_); rintro e w5 ⟨⟨B5, d5, rfl⟩, hb5⟩; have hG5 := hG4.trans hb5; clear HS4)) | (go_at_call 24; ((with_reducible refine (HFD.out _ hG3).mono ?_); rintro e w4 ⟨⟨B4, d4, rfl, hs4⟩, hb4⟩; have hG4 := hG3.trans hb4; have HS4 := hid hs4; clear hs4)))
          clear q0 q1 q2 q3 q4
          obtain ⟨x0, x1, x2, x3, x4⟩ := cells5 (hG5.heap HX.out)
          go_upto_region 12 with (first | (go_at_call 44; ((with_reducible refine (HLX.out _ _ _ HS6.out).mono ?_); rintro e w7 ⟨⟨B7, d7, rfl⟩, hb7⟩; have hG7 := hG6.trans hb7; clear HS6)) | (go_at_call 24; ((with_reducible refine (HFX.out _ hG5).mono ?_); rintro e w6 ⟨⟨B6, d6, rfl, hs6⟩, hb6⟩; have hG6 := hG5.trans hb6; have HS6 := hid hs6; clear hs6)))
          clear x0 x1 x2 x3 x4
          obtain ⟨q0, q1, q2, q3, q4⟩ := cells5 (hG7.heap HQ.out)
          go_upto_region 16 with fail
          go_upto_region 17 with (first | (go_at_call 28; ((with_reducible refine (HDN.out _ _ _ HS8.out).mono ?_); rintro e w9 ⟨⟨B9, d9, rfl, hs9⟩, hb9⟩; have hG9 := hG8.trans hb9; clear HS8; have HS9 := hid hs9; clear hs9)) | (go_at_call 24; ((with_reducible refine (HFD.out _ hG7).mono ?_); rintro e w8 ⟨⟨B8, d8, rfl, hs8⟩, hb8⟩; have hG8 := hG7.trans hb8; have HS8 := hid hs8; clear hs8)))
          clear q0 q1 q2 q3 q4
          obtain ⟨x0, x1, x2, x3, x4⟩ := cells5 (hG9.heap HX.out)
          go_upto_region 18 with (first | (go_at_call 28; ((with_reducible refine (HDX.out _ _ _ HS10.out).mono ?_); rintro e w11 ⟨⟨B11, d11, rfl, hs11⟩, hb11⟩; have hG11 := hG10.trans hb11; clear HS10; have HS11 := hid hs11; clear hs11)) | (go_at_call 24; ((with_reducible refine (HFX.out _ hG9).mono ?_); rintro e w10 ⟨⟨B10, d10, rfl, hs10⟩, hb10⟩; have hG10 := hG9.trans hb10; have HS10 := hid hs10; clear hs10)))
          clear x0 x1 x2 x3 x4
          obtain ⟨q0, q1, q2, q3, q4⟩ := cells5 (hG11.heap HQ.out)
          have hA1 : Ev w9 w11 := (hb10.trans hb11)
          have hA2 : Ev w11 w11 := Ev.refl _
          clear hb4 hb5 hb6 hb7 hb8 hb9 hb10 hb11
          obtain ⟨W0, hW0⟩ : ∃ W0, W0 = w11 := ⟨_, rfl⟩
          have HW0 := hid hW0
          clear hW0
          go_cut [132] (fun v wx => v = .bool false ∧ wx = W0)
          case first =>
            go_wp2_with fail
            go_meet
            exact ⟨by first | rfl | exact congrArg Value.bool (decide_eq_false (by omega)), HW0.out.symm⟩
          case rest =>
          obtain ⟨rfl, hwc⟩ := hcut
          have hwc2 := (hwc.trans HW0.out).symm
          clear hwc HW0
          subst hwc2
          go_wp2_with fail
          go_loopw [18] (fun i wr => ∃ j : Nat, i = .int .i64 j ∧ j ≤ D ∧ Ev w11 wr) (fun i _ => D - (intOf i).toNat)
          case atStart => exact ⟨0, rfl, by omega, Ev.refl _⟩
          case round =>
            obtain ⟨j, rfl, hj, hB⟩ := hrel
            clear q0 q1 q2 q3 q4
            by_cases hlt : j < D
            · obtain ⟨ba, oa, xa, rfl, hba, hxa, _, hca⟩ := HS9.out.at_ (hA1.trans hB) hlt
              obtain ⟨bb, ob, xb, rfl, hbb, hxb, _, hcb⟩ := HS11.out.at_ (hA2.trans hB) hlt
              obtain ⟨y, z, hy, hz, hin⟩ := HDS.out j hlt
              obtain rfl : y = xa := Option.some.inj (hy.symm.trans hxa)
              obtain rfl : z = xb := Option.some.inj (hz.symm.trans hxb)
              have e0 := hca 0 _ rfl
              have e1 := hca 1 _ rfl
              have e2 := hcb 0 _ rfl
              have e3 := hcb 1 _ rfl
              simp only [Nat.add_zero] at e0 e2
              have hic := fun W => inside_c y z W
              rw [hin] at hic
              have HIN := hid hic
              have hba2 : ba < wr.heap.size := by have := (hA1.trans hB).size; omega
              have hbb2 : bb < wr.heap.size := by have := (hA2.trans hB).size; omega
              have hcp1 := HS9.out.cap
              have hcp2 := HS11.out.cap
              have HSE : Hid (∀ w', Ev wr w' → Ev wr w' ∧ (∀ o, w'.cell? ⟨ba, o, none⟩ = wr.cell? ⟨ba, o, none⟩) ∧ (∀ o, w'.cell? ⟨bb, o, none⟩ = wr.cell? ⟨bb, o, none⟩)) := hid (fun w' h => ⟨h, fun o => h.cells.1 _ o hba2, fun o => h.cells.1 _ o hbb2⟩)
              clear hic hy hz hxa hxb hca hcb hin
              go_wp2_with (go_region_held3 (fun w' => Ev wr w' ∧ (∀ o, w'.cell? ⟨ba, o, none⟩ = wr.cell? ⟨ba, o, none⟩) ∧ (∀ o, w'.cell? ⟨bb, o, none⟩ = wr.cell? ⟨bb, o, none⟩)) (exact HSE.out _ (by repeat (first | with_reducible exact Ev.refl wr | (with_reducible assumption) | with_reducible refine Ev.drew ?_ | with_reducible refine Ev.alloc ?_ _))) (first | (go_at_call 61; ((with_reducible refine (HIN.out _).mono ?_); rintro e w25 ⟨rfl, hb25⟩; have hc25 : Ev wr w25 := (by first | exact hb25 | exact Ev.trans (Ev.drew (Ev.refl _)) hb25)))))
              exact ⟨⟨j + 1, by go_num, by omega, hB.trans hc25⟩, by simp [intOf]; omega⟩
            · go_wp2_with (first | (go_at_call 21; ((with_reducible refine (awake_c _).mono ?_); rintro e w27 ⟨rfl, hb27⟩)))
              go_ret
              exact ⟨rfl, HEC.out.trans ((hG11.trans hB).trans hb27)⟩
        · have c4 : (lf : Int) > 0 := by omega
          have c5 : (0 : Int) < lf := by omega
          clear hnil hlm hl7 h0 g0 hwi hSx
          go_upto_region 11 with (first | (go_at_call 44; ((with_reducible refine (HLV.out _ _ _ HS4.out).mono ?_); rintro e w5 ⟨⟨B5, d5, rfl⟩, hb5⟩; have hG5 := hG4.trans hb5; clear HS4)) | (go_at_call 24; ((with_reducible refine (HFD.out _ hG3).mono ?_); rintro e w4 ⟨⟨B4, d4, rfl, hs4⟩, hb4⟩; have hG4 := hG3.trans hb4; have HS4 := hid hs4; clear hs4)))
          clear q0 q1 q2 q3 q4
          obtain ⟨x0, x1, x2, x3, x4⟩ := cells5 (hG5.heap HX.out)
          go_upto_region 12 with (first | (go_at_call 44; ((with_reducible refine (HLX.out _ _ _ HS6.out).mono ?_); rintro e w7 ⟨⟨B7, d7, rfl⟩, hb7⟩; have hG7 := hG6.trans hb7; clear HS6)) | (go_at_call 24; ((with_reducible refine (HFX.out _ hG5).mono ?_); rintro e w6 ⟨⟨B6, d6, rfl, hs6⟩, hb6⟩; have hG6 := hG5.trans hb6; have HS6 := hid hs6; clear hs6)))
          clear x0 x1 x2 x3 x4
          obtain ⟨q0, q1, q2, q3, q4⟩ := cells5 (hG7.heap HQ.out)
          clear q0 q1 q2 q3 q4
          go_wp2_with (first | (go_at_call 21; ((with_reducible refine (awake_c _).mono ?_); rintro e w8 ⟨rfl, hb8⟩; have hG8 := hG7.trans hb8)))
          go_ret
          exact ⟨rfl, HEC.out.trans hG8⟩

end Go.Proofs.Ytcecmphdmpeibaa
