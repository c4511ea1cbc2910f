import Derived.Test.YtffbkbcjddigdaaA52
set_option linter.unusedSimpArgs false
set_option linter.unusedVariables false
namespace Go.Proofs.Ytffbkbcjddigdaa
open Go.RowKit Go.Shelf

set_option maxRecDepth 100000 in
set_option maxHeartbeats 8000000 in
theorem Fault_0 (f : M.Cf) (Ag Aw Ab Ac Al : Option Addr) (ng cg nw cw nb cb nc cc nl cl : Nat) (hl0 : -9223372036854775808 ≤ f.last) (w : World) (hs : CS w w.heap.size f Ag Aw Ab Ac Al ng cg nw cw nb cb nc cc nl cl) (h3 : ¬ (9 < f.last ∨ 3 < f.base.length ∨ 5 < f.looks.length)) (hgood : 0 ≤ f.last ∧ (ng : Int) = f.last + 1 ∧ (nw : Int) = f.last + 1 ∧ nb ≠ 0 ∧ M.isIn f.ripe 1 10 = true ∧ M.isIn f.late 0 50 = true ∧ M.isIn f.trod 0 100 = true ∧ M.isPlan f f.crops = true) :
  Calls Try.prog 50 #[.agg #[.int .i64 f.last, .slice Ag ng cg, .slice Aw nw cw, .slice Ab nb cb, .slice Ac nc cc, .int .i64 f.ripe, .int .i64 f.late, .int .i64 f.trod, .slice Al nl cl]] w fun e w' => e = .returned (.int .i64 (M.check f)) ∧ Ev w w' := by
 have hlb := hs.b.len
 have hll := hs.l.len
 have hbs := hs.b.small
 have hls := hs.l.small
 have h3' := h3
 rw [hlb, hll] at h3'
 have q1n : ¬ (f.last > 9) := by omega
 have q1m : f.last ≤ 9 := by omega
 have q2n : ¬ ((nb : Int) > 3) := by omega
 have q2m : ¬ ((3 : Int) < nb) := by omega
 have q3n : ¬ ((nl : Int) > 5) := by omega
 have q3m : ¬ ((5 : Int) < nl) := by omega
 obtain ⟨q4m, e1, e2, q7, q8, q9, q10, q11⟩ := hgood
 have q4n : ¬ (f.last < 0) := by omega
 have gw : IntKind.i64.wrap (f.last + 1) = f.last + 1 := IntWalk.i64_in _ (by omega)
 have q5n : ((ng : Int) != f.last + 1) = false := by simpa using e1
 have q6n : ((nw : Int) != f.last + 1) = false := by simpa using e2
 have q7n : ((nb : Int) == 0) = false := by simp; omega
 have HI1 := hid (fun W => In_s f.ripe 1 10 W)
 rw [q8] at HI1
 have HI2 := hid (fun W => In_s f.late 0 50 W)
 rw [q9] at HI2
 have HI3 := hid (fun W => In_s f.trod 0 100 W)
 rw [q10] at HI3
 have HIP := hid (fun W (hE : Ev w W) => rIsPlan_c f Ag Aw Ab Ac Al ng cg nw cw nb cb nc cc nl cl hs.b.len hs.b.small Ac nc cc f.crops W (hs.c.ev hE))
 rw [q11] at HIP
 have E1 := hid e1
 have E2 := hid e2
 have Q8 := hid q8
 have Q9 := hid q9
 have Q10 := hid q10
 have Q11 := hid q11
 have H3 := hid h3
 have HS := hid hs
 have HLB := hid hlb
 have HLL := hid hll
 clear e1 e2 q8 q9 q10 q11 h3 h3' hs hlb hll
 go_enter Try.func50, Try.ntmps50
 go_wp2_with (first | (go_at_call 45; with_reducible refine (HI1.out _).mono ?_; rintro e _ ⟨rfl, rfl⟩) | (go_at_call 45; with_reducible refine (HI2.out _).mono ?_; rintro e _ ⟨rfl, rfl⟩) | (go_at_call 45; with_reducible refine (HI3.out _).mono ?_; rintro e _ ⟨rfl, rfl⟩) | (go_at_call 24; with_reducible refine (HIP.out _ (Ev.alloc (Ev.refl _) _)).mono ?_; rintro e w1 ⟨rfl, hb1⟩; have HB := hid (hb1.heap (alloc1 w (.cells #[.int .i64 f.last, .slice Ag ng cg, .slice Aw nw cw, .slice Ab nb cb, .slice Ac nc cc, .int .i64 f.ripe, .int .i64 f.late, .int .i64 f.trod, .slice Al nl cl] 26)).1); have hG : Ev w w1 := Ev.trans (Ev.alloc (Ev.refl _) _) hb1; obtain ⟨y0, y1, y2, y3, y4, y5, y6, y7, y8⟩ := cells9 HB.out) | (refine ⟨trivial, ?_⟩))
 clear y0 y1 y2 y3 y4 y5 y6 y7 y8
 go_loopw [3] (fun i wr => ∃ k : Nat, i = .int .i64 k ∧ k ≤ ng ∧ Ev w1 wr ∧ Hid ((∀ r ∈ f.gr.take k, M.isGrowth r = true) ∧ (∀ s ∈ f.wet.take k, 0 ≤ s ∧ s ≤ 2))) (fun i _ => ng + 1 - (intOf i).toNat)
 case atStart => exact ⟨0, rfl, by omega, Ev.refl _, hid ⟨fun r hr => by simp at hr, fun r hr => by simp at hr⟩⟩
 case round =>
  obtain ⟨k, rfl, hk, hB, HM⟩ := hrel
  obtain ⟨W1, hW1⟩ : ∃ x, x = wr := ⟨_, rfl⟩
  subst hW1
  have HB1 := hid (hB.heap HB.out)
  obtain ⟨t0, t1, t2, t3, t4, t5, t6, t7, t8⟩ := cells9 HB1.out
  by_cases hlt : k < ng
  ·
   obtain ⟨b, off, r, hA, hb, hx, hxd, hcc⟩ := HS.out.g.at_ (hG.trans hB) hlt
   have e0 := hcc 0 _ rfl
   have e1 := hcc 1 _ rfl
   simp only [Nat.add_zero] at e0
   obtain ⟨b2, off2, s, hA2, hb2, hy, hyd, e2⟩ := HS.out.w_.int (hG.trans hB) (show k < nw by have := E1.out; have := E2.out; omega)
   have lb2 : b2 < W1.heap.size := by have := (hG.trans hB).size; omega
   have hcap := HS.out.g.cap
   have hcap2 := HS.out.w_.cap
   have hk2 : k < nw := by have := E1.out; have := E2.out; omega
   have hle : (k : Int) ≤ f.last := by have := E1.out; omega
   have HX := hid hx
   have HY := hid hy
   subst hA hA2
   clear hx hxd hy hyd hcc
   have hwi := fun W => Within_c r 0 50 W
   have his := fun W => In_s s 0 2 W
   cases hgb : M.within r 0 50 with
   | false =>
    have HD := hid (M.check_1 (f := f) H3.out (M.not_valid (p := M.isGrowth r = true) (by rw [show M.isGrowth r = M.within r 0 50 from rfl, hgb]; decide) (fun hv => (M.valid_parts hv).2.2.1 r (List.mem_of_getElem? HX.out))))
    rw [hgb] at hwi
    have HWI := hid hwi
    clear hwi his hgb HS
    go_wp2_with (first | (go_at_call 79; with_reducible refine (HWI.out _).mono ?_; rintro e w5 ⟨rfl, hb5⟩; have hE5 : Ev W1 w5 := hb5; obtain ⟨y0, y1, y2, y3, y4, y5, y6, y7, y8⟩ := cells9 (hb5.heap HB1.out); have z2 := (hb5.cells.1 b2 _ lb2).trans e2) | (refine ⟨trivial, ?_⟩))
    go_ret
    exact ⟨by rw [HD.out]; rfl, hG.trans (hB.trans hE5)⟩
   | true =>
    rw [hgb] at hwi
    have HWI := hid hwi
    have HGB := hid hgb
    clear hwi hgb
    cases hsb : M.isIn s 0 2 with
    | false =>
     have HD := hid (M.check_1 (f := f) H3.out (M.not_valid (p := 0 ≤ s ∧ s ≤ 2) (by intro h; rw [show M.isIn s 0 2 = (decide (0 ≤ s) && decide (s ≤ 2)) from rfl] at hsb; simp [h] at hsb) (fun hv => (M.valid_parts hv).2.2.2.2.1 s (List.mem_of_getElem? HY.out))))
     rw [hsb] at his
     have HIS := hid his
     clear his hsb HS
     go_wp2_with (first | (go_at_call 79; with_reducible refine (HWI.out _).mono ?_; rintro e w5 ⟨rfl, hb5⟩; have hE5 : Ev W1 w5 := hb5; obtain ⟨y0, y1, y2, y3, y4, y5, y6, y7, y8⟩ := cells9 (hb5.heap HB1.out); have z2 := (hb5.cells.1 b2 _ lb2).trans e2) | (go_at_call 45; with_reducible refine (HIS.out _).mono ?_; rintro e _ ⟨rfl, rfl⟩) | (refine ⟨trivial, ?_⟩))
     go_ret
     exact ⟨by rw [HD.out]; rfl, hG.trans (hB.trans hE5)⟩
    | true =>
     have HSB := hid (show 0 ≤ s ∧ s ≤ 2 by unfold M.isIn at hsb; simpa using hsb)
     rw [hsb] at his
     have HIS := hid his
     clear his hsb
     go_wp2_with (first | (go_at_call 79; with_reducible refine (HWI.out _).mono ?_; rintro e w5 ⟨rfl, hb5⟩; have hE5 : Ev W1 w5 := hb5; obtain ⟨y0, y1, y2, y3, y4, y5, y6, y7, y8⟩ := cells9 (hb5.heap HB1.out); have z2 := (hb5.cells.1 b2 _ lb2).trans e2) | (go_at_call 45; with_reducible refine (HIS.out _).mono ?_; rintro e _ ⟨rfl, rfl⟩) | (refine ⟨trivial, ?_⟩))
     exact ⟨⟨k + 1, by go_num, by omega, hB.trans hE5, hid ⟨fun q hq => by
      rw [List.take_add_one, HX.out] at hq
      rcases List.mem_append.1 hq with hq | hq
      ·
       exact HM.out.1 q hq
      ·
       obtain rfl : q = r := by simpa using hq
       exact HGB.out, fun q hq => by
      rw [List.take_add_one, HY.out] at hq
      rcases List.mem_append.1 hq with hq | hq
      ·
       exact HM.out.2 q hq
      ·
       obtain rfl : q = s := by simpa using hq
       exact HSB.out⟩⟩, by simp [intOf]; omega⟩
  ·
   have hnk : ng = k := by omega
   have hle : ¬ ((k : Int) ≤ f.last) := by have := E1.out; omega
   have HGW := hid (show (∀ r ∈ f.gr, M.isGrowth r = true) ∧ (∀ s ∈ f.wet, 0 ≤ s ∧ s ≤ 2) by
    have h := HM.out
    rw [List.take_of_length_le (by have := HS.out.g.len; omega), List.take_of_length_le (by have := HS.out.w_.len; have := E1.out; have := E2.out; omega)] at h
    exact h)
   clear HM hnk hk hlt
   go_wp2
   have hG1 := hid (hG.trans hB)
   clear hle t0 t1 t2 t3 t4 t5 t6 t7 t8
   go_loopw [4] (fun i wr => ∃ k : Nat, i = .int .i64 k ∧ k ≤ nb ∧ Ev W1 wr ∧ Hid (∀ j, j < k → (0 ≤ f.base.getD j 0 ∧ f.base.getD j 0 ≤ 200) ∧ (0 < j → f.base.getD j 0 ≤ f.base.getD (j - 1) 0))) (fun i _ => nb - (intOf i).toNat)
   case atStart => exact ⟨0, rfl, by omega, Ev.refl _, hid (fun j hj => absurd hj (by omega))⟩
   case round =>
    clear hB hG hb1 HB
    obtain ⟨W2, hW2⟩ : ∃ x, x = wr := ⟨_, rfl⟩
    subst hW2
    rename_i kA _ _ _
    obtain ⟨k, rfl, hk, hB, HM⟩ := hrel
    have HB2 := hid (hB.heap HB1.out)
    obtain ⟨t0, t1, t2, t3, t4, t5, t6, t7, t8⟩ := cells9 HB2.out
    have l0 := heap_lt HB2.out
    by_cases hlt : k < nb
    ·
     obtain ⟨b, off, x, hA, hb, hx, hxd, e0⟩ := HS.out.b.int (hG1.out.trans hB) hlt
     have lb : b < W2.heap.size := by have := (hG1.out.trans hB).size; omega
     have hcap := HS.out.b.cap
     have hin := fun W => In_c x 0 200 W
     have HNX := hid (show f.base.getD k 0 = x by rw [List.getD_eq_getElem?_getD, hx]; rfl)
     have HXM := hid (List.mem_of_getElem? hx)
     subst hA
     clear hxd hx
     have HSE : Hid (∀ w', Ev W2 w' → (∀ o, w'.cell? ⟨w.heap.size, o, none⟩ = W2.cell? ⟨w.heap.size, o, none⟩) ∧ (∀ o, w'.cell? ⟨b, o, none⟩ = W2.cell? ⟨b, o, none⟩)) := hid (fun w' h => ⟨fun o => h.cells.1 _ o l0, fun o => h.cells.1 _ o lb⟩)
     cases hxb : M.isIn x 0 200 with
     | false =>
      have HD := hid (M.check_1 (f := f) H3.out (M.not_valid (p := 0 ≤ x ∧ x ≤ 200) (by intro h; rw [show M.isIn x 0 200 = (decide (0 ≤ x) && decide (x ≤ 200)) from rfl] at hxb; simp [h] at hxb) (fun hv => (M.valid_parts hv).2.2.2.2.2.2.1 x HXM.out)))
      rw [hxb] at hin
      have HIN := hid hin
      clear hin hxb HS
      go_upto_region 13 with fail
      refine wp_region_held_drew (S := fun w' => (∀ o, w'.cell? ⟨w.heap.size, o, none⟩ = W2.cell? ⟨w.heap.size, o, none⟩) ∧ (∀ o, w'.cell? ⟨b, o, none⟩ = W2.cell? ⟨b, o, none⟩)) (by kernel_rfl) (⟨fun o => rfl, fun o => rfl⟩) (fun hHeld => ?_)
      refine tkH 0 (some 102) ?_
      (try simp only [Act.put, sA, sB, sC])
      refine tkH 1 (some 103) ?_
      (try simp only [Act.put, sA, sB, sC])
      refine tkH 2 (some 104) ?_
      (try simp only [Act.put, sA, sB, sC])
      refine tkH 3 (some 105) ?_
      (try simp only [Act.put, sA, sB, sC])
      refine tkH 4 (some 106) ?_
      (try simp only [Act.put, sA, sB, sC])
      refine wpAnyH_one (i := 5) rfl (by kernel_rfl) (by rfl) (fun K hK => ?_)
      go_simp
      refine (HIN.out _).mono ?_
      rintro e w5 ⟨rfl, hb5⟩
      have hE5 : Ev W2 w5 := Ev.trans (Ev.drew (Ev.refl _)) hb5
      refine hK.out _ _ (HSE.out _ hE5) (fun hHeld => ?_)
      clear hK K
      (try simp only [Act.put, List.setIfInBounds_toArray, List.set_cons_zero, List.set_cons_succ])
      refine tkH 6 (some 108) ?_
      (try simp only [Act.put, sA, sB, sC])
      refine tkH 7 (some 109) ?_
      (try simp only [Act.put, sA, sB, sC])
      refine wpAnyH_skip (i := 8) (some 110) rfl (by kernel_rfl) (by kernel_rfl) (by kernel_rfl) (fun _ _ _ h => h) (by rfl) (by assumption) ?_
      (try simp only [Act.put, List.setIfInBounds_toArray, List.set_cons_zero, List.set_cons_succ])
      refine wpAnyH_skip (i := 9) (some 111) rfl (by kernel_rfl) (by kernel_rfl) (by kernel_rfl) (fun _ _ _ h => h) (by rfl) (by assumption) ?_
      (try simp only [Act.put, List.setIfInBounds_toArray, List.set_cons_zero, List.set_cons_succ])
      refine wpAnyH_skip (i := 10) (some 112) rfl (by kernel_rfl) (by kernel_rfl) (by kernel_rfl) (fun _ _ _ h => h) (by rfl) (by assumption) ?_
      (try simp only [Act.put, List.setIfInBounds_toArray, List.set_cons_zero, List.set_cons_succ])
      refine wpAnyH_skip (i := 11) (some 113) rfl (by kernel_rfl) (by kernel_rfl) (by kernel_rfl) (fun _ _ _ h => h) (by rfl) (by assumption) ?_
      (try simp only [Act.put, List.setIfInBounds_toArray, List.set_cons_zero, List.set_cons_succ])
      refine wpAnyH_skip (i := 12) (some 114) rfl (by kernel_rfl) (by kernel_rfl) (by kernel_rfl) (fun _ _ _ h => h) (by rfl) (by assumption) ?_
      (try simp only [Act.put, List.setIfInBounds_toArray, List.set_cons_zero, List.set_cons_succ])
      refine wpAnyH_skip (i := 13) (some 115) rfl (by kernel_rfl) (by kernel_rfl) (by kernel_rfl) (fun _ _ _ h => h) (by rfl) (by assumption) ?_
      (try simp only [Act.put, List.setIfInBounds_toArray, List.set_cons_zero, List.set_cons_succ])
      refine wpAnyH_skip (i := 14) (some 116) rfl (by kernel_rfl) (by kernel_rfl) (by kernel_rfl) (fun _ _ _ h => h) (by rfl) (by assumption) ?_
      (try simp only [Act.put, List.setIfInBounds_toArray, List.set_cons_zero, List.set_cons_succ])
      refine wpAnyH_skip (i := 15) (some 117) rfl (by kernel_rfl) (by kernel_rfl) (by kernel_rfl) (fun _ _ _ h => h) (by rfl) (by assumption) ?_
      (try simp only [Act.put, List.setIfInBounds_toArray, List.set_cons_zero, List.set_cons_succ])
      refine wpAnyH_skip (i := 16) (some 118) rfl (by kernel_rfl) (by kernel_rfl) (by kernel_rfl) (fun _ _ _ h => h) (by rfl) (by assumption) ?_
      (try simp only [Act.put, List.setIfInBounds_toArray, List.set_cons_zero, List.set_cons_succ])
      refine wpAnyH_skip (i := 17) (some 119) rfl (by kernel_rfl) (by kernel_rfl) (by kernel_rfl) (fun _ _ _ h => h) (by rfl) (by assumption) ?_
      (try simp only [Act.put, List.setIfInBounds_toArray, List.set_cons_zero, List.set_cons_succ])
      refine wpAnyH_skip (i := 18) (some 120) rfl (by kernel_rfl) (by kernel_rfl) (by kernel_rfl) (fun _ _ _ h => h) (by rfl) (by assumption) ?_
      (try simp only [Act.put, List.setIfInBounds_toArray, List.set_cons_zero, List.set_cons_succ])
      refine wpAnyH_skip (i := 19) (some 121) rfl (by kernel_rfl) (by kernel_rfl) (by kernel_rfl) (fun _ _ _ h => h) (by rfl) (by assumption) ?_
      (try simp only [Act.put, List.setIfInBounds_toArray, List.set_cons_zero, List.set_cons_succ])
      refine wpAnyH_skip (i := 20) (some 122) rfl (by kernel_rfl) (by kernel_rfl) (by kernel_rfl) (fun _ _ _ h => h) (by rfl) (by assumption) ?_
      (try simp only [Act.put, List.setIfInBounds_toArray, List.set_cons_zero, List.set_cons_succ])
      refine wpAnyH_skip (i := 21) (some 123) rfl (by kernel_rfl) (by kernel_rfl) (by kernel_rfl) (fun _ _ _ h => h) (by rfl) (by assumption) ?_
      (try simp only [Act.put, List.setIfInBounds_toArray, List.set_cons_zero, List.set_cons_succ])
      refine wpAnyH_skip (i := 22) (some 124) rfl (by kernel_rfl) (by kernel_rfl) (by kernel_rfl) (fun _ _ _ h => h) (by rfl) (by assumption) ?_
      (try simp only [Act.put, List.setIfInBounds_toArray, List.set_cons_zero, List.set_cons_succ])
      refine wpAnyH_skip (i := 23) (some 125) rfl (by kernel_rfl) (by kernel_rfl) (by kernel_rfl) (fun _ _ _ h => h) (by rfl) (by assumption) ?_
      (try simp only [Act.put, List.setIfInBounds_toArray, List.set_cons_zero, List.set_cons_succ])
      refine tkH 24 (some 126) ?_
      (try simp only [Act.put, sA, sB, sC])
      refine wpAnyH_done (by kernel_rfl) ?_ _
      go_wp2
      go_ret
      exact ⟨by rw [HD.out]; rfl, hG1.out.trans (hB.trans hE5)⟩
     | true =>
      have HXB := hid (show 0 ≤ x ∧ x ≤ 200 by unfold M.isIn at hxb; simpa using hxb)
      rw [hxb] at hin
      have HIN := hid hin
      clear hin hxb
      rcases Nat.eq_zero_or_pos k with hk0 | hk0
      ·
       subst hk0
       simp only [Nat.add_zero] at e0
       rw [show (((0 : Nat)) : Int) = 0 from rfl]
       have hn0 : (0 : Int) < nb := by omega
       go_upto_region 13 with fail
       refine wp_region_held_drew (S := fun w' => (∀ o, w'.cell? ⟨w.heap.size, o, none⟩ = W2.cell? ⟨w.heap.size, o, none⟩) ∧ (∀ o, w'.cell? ⟨b, o, none⟩ = W2.cell? ⟨b, o, none⟩)) (by kernel_rfl) (⟨fun o => rfl, fun o => rfl⟩) (fun hHeld => ?_)
       refine tkH 0 (some 102) ?_
       (try simp only [Act.put, sA, sB, sC])
       refine tkH 1 (some 103) ?_
       (try simp only [Act.put, sA, sB, sC])
       refine tkH 2 (some 104) ?_
       (try simp only [Act.put, sA, sB, sC])
       refine tkH 3 (some 105) ?_
       (try simp only [Act.put, sA, sB, sC])
       refine tkH 4 (some 106) ?_
       (try simp only [Act.put, sA, sB, sC])
       refine wpAnyH_one (i := 5) rfl (by kernel_rfl) (by rfl) (fun K hK => ?_)
       go_simp
       refine (HIN.out _).mono ?_
       rintro e w5 ⟨rfl, hb5⟩
       have hE5 : Ev W2 w5 := Ev.trans (Ev.drew (Ev.refl _)) hb5
       refine hK.out _ _ (HSE.out _ hE5) (fun hHeld => ?_)
       clear hK K
       (try simp only [Act.put, List.setIfInBounds_toArray, List.set_cons_zero, List.set_cons_succ])
       refine tkH 6 (some 108) ?_
       (try simp only [Act.put, sA, sB, sC])
       refine tkH 7 (some 109) ?_
       (try simp only [Act.put, sA, sB, sC])
       refine tkH 8 (some 110) ?_
       (try simp only [Act.put, sA, sB, sC])
       refine tkH 9 (some 111) ?_
       (try simp only [Act.put, sA, sB, sC])
       refine tkH 10 (some 112) ?_
       (try simp only [Act.put, sA, sB, sC])
       refine wpAnyH_skip (i := 11) (some 113) rfl (by kernel_rfl) (by kernel_rfl) (by kernel_rfl) (fun _ _ _ h => h) (by rfl) (by assumption) ?_
       (try simp only [Act.put, List.setIfInBounds_toArray, List.set_cons_zero, List.set_cons_succ])
       refine wpAnyH_skip (i := 12) (some 114) rfl (by kernel_rfl) (by kernel_rfl) (by kernel_rfl) (fun _ _ _ h => h) (by rfl) (by assumption) ?_
       (try simp only [Act.put, List.setIfInBounds_toArray, List.set_cons_zero, List.set_cons_succ])
       refine wpAnyH_skip (i := 13) (some 115) rfl (by kernel_rfl) (by kernel_rfl) (by kernel_rfl) (fun _ _ _ h => h) (by rfl) (by assumption) ?_
       (try simp only [Act.put, List.setIfInBounds_toArray, List.set_cons_zero, List.set_cons_succ])
       refine wpAnyH_skip (i := 14) (some 116) rfl (by kernel_rfl) (by kernel_rfl) (by kernel_rfl) (fun _ _ _ h => h) (by rfl) (by assumption) ?_
       (try simp only [Act.put, List.setIfInBounds_toArray, List.set_cons_zero, List.set_cons_succ])
       refine wpAnyH_skip (i := 15) (some 117) rfl (by kernel_rfl) (by kernel_rfl) (by kernel_rfl) (fun _ _ _ h => h) (by rfl) (by assumption) ?_
       (try simp only [Act.put, List.setIfInBounds_toArray, List.set_cons_zero, List.set_cons_succ])
       refine wpAnyH_skip (i := 16) (some 118) rfl (by kernel_rfl) (by kernel_rfl) (by kernel_rfl) (fun _ _ _ h => h) (by rfl) (by assumption) ?_
       (try simp only [Act.put, List.setIfInBounds_toArray, List.set_cons_zero, List.set_cons_succ])
       refine wpAnyH_skip (i := 17) (some 119) rfl (by kernel_rfl) (by kernel_rfl) (by kernel_rfl) (fun _ _ _ h => h) (by rfl) (by assumption) ?_
       (try simp only [Act.put, List.setIfInBounds_toArray, List.set_cons_zero, List.set_cons_succ])
       refine wpAnyH_skip (i := 18) (some 120) rfl (by kernel_rfl) (by kernel_rfl) (by kernel_rfl) (fun _ _ _ h => h) (by rfl) (by assumption) ?_
       (try simp only [Act.put, List.setIfInBounds_toArray, List.set_cons_zero, List.set_cons_succ])
       refine wpAnyH_skip (i := 19) (some 121) rfl (by kernel_rfl) (by kernel_rfl) (by kernel_rfl) (fun _ _ _ h => h) (by rfl) (by assumption) ?_
       (try simp only [Act.put, List.setIfInBounds_toArray, List.set_cons_zero, List.set_cons_succ])
       refine wpAnyH_skip (i := 20) (some 122) rfl (by kernel_rfl) (by kernel_rfl) (by kernel_rfl) (fun _ _ _ h => h) (by rfl) (by assumption) ?_
       (try simp only [Act.put, List.setIfInBounds_toArray, List.set_cons_zero, List.set_cons_succ])
       refine wpAnyH_skip (i := 21) (some 123) rfl (by kernel_rfl) (by kernel_rfl) (by kernel_rfl) (fun _ _ _ h => h) (by rfl) (by assumption) ?_
       (try simp only [Act.put, List.setIfInBounds_toArray, List.set_cons_zero, List.set_cons_succ])
       refine wpAnyH_skip (i := 22) (some 124) rfl (by kernel_rfl) (by kernel_rfl) (by kernel_rfl) (fun _ _ _ h => h) (by rfl) (by assumption) ?_
       (try simp only [Act.put, List.setIfInBounds_toArray, List.set_cons_zero, List.set_cons_succ])
       refine tkH 23 (some 125) ?_
       (try simp only [Act.put, sA, sB, sC])
       refine tkH 24 (some 126) ?_
       (try simp only [Act.put, sA, sB, sC])
       refine wpAnyH_done (by kernel_rfl) ?_ _
       go_wp2
       exact ⟨⟨1, by go_num, by omega, hB.trans hE5, hid (fun j hj => by
        by_cases hjk : j < 0
        ·
         exact HM.out j hjk
        ·
         obtain rfl : j = 0 := by omega
         rw [HNX.out]
         exact ⟨HXB.out, fun h => absurd h (by omega)⟩)⟩, by simp [intOf]; omega⟩
      ·
       obtain ⟨m, hm⟩ : ∃ m : Nat, (k : Int) - 1 = m := ⟨k - 1, by omega⟩
       obtain ⟨b2, off2, y, hbb, hb2, hy, _, e1⟩ := HS.out.b.int (hG1.out.trans hB) (show m < nb by omega)
       obtain ⟨rfl, rfl⟩ : b = b2 ∧ off = off2 := by simpa using hbb
       have i1 : (k : Int) > 0 := by omega
       have i2 : (0 : Int) < k := by omega
       have s1 : IntKind.i64.wrap ((k : Int) - 1) = m := by rw [hm]; exact IntWalk.i64_in _ (by omega)
       have mp : m < nb := by omega
       have HNY := hid (show f.base.getD (k - 1) 0 = y by rw [show k - 1 = m by omega, List.getD_eq_getElem?_getD, hy]; rfl)
       clear hbb hy hm
       by_cases hyx : x ≤ y
       ·
        have t1 : ¬ (x > y) := by omega
        have t1b : ¬ (y < x) := by omega
        go_upto_region 13 with fail
        refine wp_region_held_drew (S := fun w' => (∀ o, w'.cell? ⟨w.heap.size, o, none⟩ = W2.cell? ⟨w.heap.size, o, none⟩) ∧ (∀ o, w'.cell? ⟨b, o, none⟩ = W2.cell? ⟨b, o, none⟩)) (by kernel_rfl) (⟨fun o => rfl, fun o => rfl⟩) (fun hHeld => ?_)
        refine tkH 0 (some 102) ?_
        (try simp only [Act.put, sA, sB, sC])
        refine tkH 1 (some 103) ?_
        (try simp only [Act.put, sA, sB, sC])
        refine tkH 2 (some 104) ?_
        (try simp only [Act.put, sA, sB, sC])
        refine tkH 3 (some 105) ?_
        (try simp only [Act.put, sA, sB, sC])
        refine tkH 4 (some 106) ?_
        (try simp only [Act.put, sA, sB, sC])
        refine wpAnyH_one (i := 5) rfl (by kernel_rfl) (by rfl) (fun K hK => ?_)
        go_simp
        refine (HIN.out _).mono ?_
        rintro e w5 ⟨rfl, hb5⟩
        have hE5 : Ev W2 w5 := Ev.trans (Ev.drew (Ev.refl _)) hb5
        refine hK.out _ _ (HSE.out _ hE5) (fun hHeld => ?_)
        clear hK K
        (try simp only [Act.put, List.setIfInBounds_toArray, List.set_cons_zero, List.set_cons_succ])
        refine tkH 6 (some 108) ?_
        (try simp only [Act.put, sA, sB, sC])
        refine tkH 7 (some 109) ?_
        (try simp only [Act.put, sA, sB, sC])
        refine tkH 8 (some 110) ?_
        (try simp only [Act.put, sA, sB, sC])
        refine tkH 9 (some 111) ?_
        (try simp only [Act.put, sA, sB, sC])
        refine tkH 10 (some 112) ?_
        (try simp only [Act.put, sA, sB, sC])
        refine tkH 11 (some 113) ?_
        (try simp only [Act.put, sA, sB, sC])
        refine tkH 12 (some 114) ?_
        (try simp only [Act.put, sA, sB, sC])
        refine tkH 13 (some 115) ?_
        (try simp only [Act.put, sA, sB, sC])
        refine tkH 14 (some 116) ?_
        (try simp only [Act.put, sA, sB, sC])
        refine tkH 15 (some 117) ?_
        (try simp only [Act.put, sA, sB, sC])
        refine tkH 16 (some 118) ?_
        (try simp only [Act.put, sA, sB, sC])
        refine tkH 17 (some 119) ?_
        (try simp only [Act.put, sA, sB, sC])
        refine tkH 18 (some 120) ?_
        (try simp only [Act.put, sA, sB, sC])
        refine tkH 19 (some 121) ?_
        (try simp only [Act.put, sA, sB, sC])
        refine tkH 20 (some 122) ?_
        (try simp only [Act.put, sA, sB, sC])
        refine tkH 21 (some 123) ?_
        (try simp only [Act.put, sA, sB, sC])
        refine tkH 22 (some 124) ?_
        (try simp only [Act.put, sA, sB, sC])
        refine tkH 23 (some 125) ?_
        (try simp only [Act.put, sA, sB, sC])
        refine tkH 24 (some 126) ?_
        (try simp only [Act.put, sA, sB, sC])
        refine wpAnyH_done (by kernel_rfl) ?_ _
        go_wp2
        exact ⟨⟨k + 1, by go_num, by omega, hB.trans hE5, hid (fun j hj => by
         by_cases hjk : j < k
         ·
          exact HM.out j hjk
         ·
          obtain rfl : j = k := by omega
          rw [HNX.out]
          exact ⟨HXB.out, fun _ => by rw [HNY.out]; exact hyx⟩)⟩, by simp [intOf]; omega⟩
       ·
        have t1 : x > y := by omega
        have t1b : y < x := by omega
        have HD := hid (M.check_1 (f := f) H3.out (M.not_valid (p := x ≤ y) hyx (fun hv => by have := M.falls_at.1 (M.valid_parts hv).2.2.2.2.2.2.2.1 k hk0 (by have := HLB.out; omega); rw [HNX.out, HNY.out] at this; exact this)))
        go_upto_region 13 with fail
        refine wp_region_held_drew (S := fun w' => (∀ o, w'.cell? ⟨w.heap.size, o, none⟩ = W2.cell? ⟨w.heap.size, o, none⟩) ∧ (∀ o, w'.cell? ⟨b, o, none⟩ = W2.cell? ⟨b, o, none⟩)) (by kernel_rfl) (⟨fun o => rfl, fun o => rfl⟩) (fun hHeld => ?_)
        refine tkH 0 (some 102) ?_
        (try simp only [Act.put, sA, sB, sC])
        refine tkH 1 (some 103) ?_
        (try simp only [Act.put, sA, sB, sC])
        refine tkH 2 (some 104) ?_
        (try simp only [Act.put, sA, sB, sC])
        refine tkH 3 (some 105) ?_
        (try simp only [Act.put, sA, sB, sC])
        refine tkH 4 (some 106) ?_
        (try simp only [Act.put, sA, sB, sC])
        refine wpAnyH_one (i := 5) rfl (by kernel_rfl) (by rfl) (fun K hK => ?_)
        go_simp
        refine (HIN.out _).mono ?_
        rintro e w5 ⟨rfl, hb5⟩
        have hE5 : Ev W2 w5 := Ev.trans (Ev.drew (Ev.refl _)) hb5
        refine hK.out _ _ (HSE.out _ hE5) (fun hHeld => ?_)
        clear hK K
        (try simp only [Act.put, List.setIfInBounds_toArray, List.set_cons_zero, List.set_cons_succ])
        refine tkH 6 (some 108) ?_
        (try simp only [Act.put, sA, sB, sC])
        refine tkH 7 (some 109) ?_
        (try simp only [Act.put, sA, sB, sC])
        refine tkH 8 (some 110) ?_
        (try simp only [Act.put, sA, sB, sC])
        refine tkH 9 (some 111) ?_
        (try simp only [Act.put, sA, sB, sC])
        refine tkH 10 (some 112) ?_
        (try simp only [Act.put, sA, sB, sC])
        refine tkH 11 (some 113) ?_
        (try simp only [Act.put, sA, sB, sC])
        refine tkH 12 (some 114) ?_
        (try simp only [Act.put, sA, sB, sC])
        refine tkH 13 (some 115) ?_
        (try simp only [Act.put, sA, sB, sC])
        refine tkH 14 (some 116) ?_
        (try simp only [Act.put, sA, sB, sC])
        refine tkH 15 (some 117) ?_
        (try simp only [Act.put, sA, sB, sC])
        refine tkH 16 (some 118) ?_
        (try simp only [Act.put, sA, sB, sC])
        refine tkH 17 (some 119) ?_
        (try simp only [Act.put, sA, sB, sC])
        refine tkH 18 (some 120) ?_
        (try simp only [Act.put, sA, sB, sC])
        refine tkH 19 (some 121) ?_
        (try simp only [Act.put, sA, sB, sC])
        refine tkH 20 (some 122) ?_
        (try simp only [Act.put, sA, sB, sC])
        refine tkH 21 (some 123) ?_
        (try simp only [Act.put, sA, sB, sC])
        refine tkH 22 (some 124) ?_
        (try simp only [Act.put, sA, sB, sC])
        refine tkH 23 (some 125) ?_
        (try simp only [Act.put, sA, sB, sC])
        refine tkH 24 (some 126) ?_
        (try simp only [Act.put, sA, sB, sC])
        refine wpAnyH_done (by kernel_rfl) ?_ _
        go_wp2
        go_ret
        exact ⟨by rw [HD.out]; rfl, hG1.out.trans (hB.trans hE5)⟩
    ·
     have hnk : nb = k := by omega
     have HBB := hid (show (∀ s ∈ f.base, 0 ≤ s ∧ s ≤ 200) ∧ M.falls f.base = true from ⟨fun s hs' => by
      obtain ⟨j, hj, hjs⟩ := List.getElem_of_mem hs'
      have h := (HM.out j (by have := HLB.out; omega)).1
      rw [List.getD_eq_getElem?_getD, List.getElem?_eq_getElem hj, hjs] at h
      exact h, M.falls_at.2 fun j h0 hj => (HM.out j (by have := HLB.out; omega)).2 h0⟩)
     clear HM
     have hlt2 : ¬ ((k : Int) < nb) := by omega
     go_wp2
     have hG2 := hid (hG1.out.trans hB)
     clear t0 t1 t2 t3 t4 t5 t6 t7 t8 hlt2 hnk hlt hk
     go_loopw [5] (fun i wr => ∃ k : Nat, i = .int .i64 k ∧ k ≤ nl ∧ Ev W2 wr ∧ Hid (∀ l ∈ f.looks.take k, M.validLook f l = true)) (fun i _ => nl - (intOf i).toNat)
     case atStart => exact ⟨0, rfl, by omega, Ev.refl _, hid (fun r hr => by simp at hr)⟩
     case round =>
      clear hB l0
      obtain ⟨W3, hW3⟩ : ∃ x, x = wr := ⟨_, rfl⟩
      subst hW3
      rename_i kB _ _ _
      obtain ⟨k, rfl, hk, hB, HM⟩ := hrel
      have HB3 := hid (hB.heap HB2.out)
      obtain ⟨t0, t1, t2, t3, t4, t5, t6, t7, t8⟩ := cells9 HB3.out
      have l0 := heap_lt HB3.out
      by_cases hlt : k < nl
      ·
       obtain ⟨b, off, x, hA, hb, hx, hxd, hcc⟩ := HS.out.l.at_ (hG2.out.trans hB) hlt
       have e0 := hcc 0 _ rfl
       have e1 := hcc 1 _ rfl
       have e2 := hcc 2 _ rfl
       simp only [Nat.add_zero] at e0
       have lb : b < W3.heap.size := by have := (hG2.out.trans hB).size; omega
       have hcap := HS.out.l.cap
       have HX := hid hx
       subst hA
       clear hxd hx hcc
       have hin := fun W => In_c x.wk 0 f.last W
       have hwi := fun W => Within_c x.ct 0 1000 W
       have HVL := hid (show M.validLook f x = (M.isIn x.wk 0 f.last && M.within x.ct 0 1000) from rfl)
       have HSE : Hid (∀ w', Ev W3 w' → (∀ o, w'.cell? ⟨w.heap.size, o, none⟩ = W3.cell? ⟨w.heap.size, o, none⟩) ∧ (∀ o, w'.cell? ⟨b, o, none⟩ = W3.cell? ⟨b, o, none⟩)) := hid (fun w' h => ⟨fun o => h.cells.1 _ o l0, fun o => h.cells.1 _ o lb⟩)
       cases hxb : M.isIn x.wk 0 f.last with
       | false =>
        have HD := hid (M.check_1 (f := f) H3.out (M.not_valid (p := M.validLook f x = true) (by rw [HVL.out, hxb]; simp) (fun hv => (M.valid_parts hv).2.2.2.2.2.2.2.2.2.2.2.2 x (List.mem_of_getElem? HX.out))))
        rw [hxb] at hin
        have HIN := hid hin
        clear hin hxb HS hwi
        go_upto_region 18 with fail
        refine wp_region_held_drew (S := fun w' => (∀ o, w'.cell? ⟨w.heap.size, o, none⟩ = W3.cell? ⟨w.heap.size, o, none⟩) ∧ (∀ o, w'.cell? ⟨b, o, none⟩ = W3.cell? ⟨b, o, none⟩)) (by kernel_rfl) (⟨fun o => rfl, fun o => rfl⟩) (fun hHeld => ?_)
        refine tkH 0 (some 134) ?_
        (try simp only [Act.put, sA, sB, sC])
        refine tkH 1 (some 135) ?_
        (try simp only [Act.put, sA, sB, sC])
        refine tkH 2 (some 136) ?_
        (try simp only [Act.put, sA, sB, sC])
        refine tkH 3 (some 137) ?_
        (try simp only [Act.put, sA, sB, sC])
        refine tkH 4 (some 138) ?_
        (try simp only [Act.put, sA, sB, sC])
        refine tkH 5 (some 139) ?_
        (try simp only [Act.put, sA, sB, sC])
        refine tkH 6 (some 140) ?_
        (try simp only [Act.put, sA, sB, sC])
        refine tkH 7 (some 141) ?_
        (try simp only [Act.put, sA, sB, sC])
        refine wpAnyH_one (i := 8) rfl (by kernel_rfl) (by rfl) (fun K hK => ?_)
        go_simp
        refine (HIN.out _).mono ?_
        rintro e w5 ⟨rfl, hb⟩
        have hE5 : Ev W3 w5 := Ev.trans (Ev.drew (Ev.refl _)) hb
        refine hK.out _ _ (HSE.out _ hE5) (fun hHeld => ?_)
        clear hK K
        (try simp only [Act.put, List.setIfInBounds_toArray, List.set_cons_zero, List.set_cons_succ])
        refine tkH 9 (some 143) ?_
        (try simp only [Act.put, sA, sB, sC])
        refine tkH 10 (some 144) ?_
        (try simp only [Act.put, sA, sB, sC])
        refine wpAnyH_skip (i := 11) (some 145) rfl (by kernel_rfl) (by kernel_rfl) (by kernel_rfl) (fun _ _ _ h => h) (by rfl) (by assumption) ?_
        (try simp only [Act.put, List.setIfInBounds_toArray, List.set_cons_zero, List.set_cons_succ])
        refine wpAnyH_skip (i := 12) (some 146) rfl (by kernel_rfl) (by kernel_rfl) (by kernel_rfl) (fun _ _ _ h => h) (by rfl) (by assumption) ?_
        (try simp only [Act.put, List.setIfInBounds_toArray, List.set_cons_zero, List.set_cons_succ])
        refine wpAnyH_skip (i := 13) (some 147) rfl (by kernel_rfl) (by kernel_rfl) (by kernel_rfl) (fun _ _ _ h => h) (by rfl) (by assumption) ?_
        (try simp only [Act.put, List.setIfInBounds_toArray, List.set_cons_zero, List.set_cons_succ])
        refine wpAnyH_skip (i := 14) (some 148) rfl (by kernel_rfl) (by kernel_rfl) (by kernel_rfl) (fun _ _ _ h => h) (by rfl) (by assumption) ?_
        (try simp only [Act.put, List.setIfInBounds_toArray, List.set_cons_zero, List.set_cons_succ])
        refine wpAnyH_skip (i := 15) (some 149) rfl (by kernel_rfl) (by kernel_rfl) (by kernel_rfl) (fun _ _ _ h => h) (by rfl) (by assumption) ?_
        (try simp only [Act.put, List.setIfInBounds_toArray, List.set_cons_zero, List.set_cons_succ])
        refine wpAnyH_skip (i := 16) (some 150) rfl (by kernel_rfl) (by kernel_rfl) (by kernel_rfl) (fun _ _ _ h => h) (by rfl) (by assumption) ?_
        (try simp only [Act.put, List.setIfInBounds_toArray, List.set_cons_zero, List.set_cons_succ])
        refine wpAnyH_skip (i := 17) (some 151) rfl (by kernel_rfl) (by kernel_rfl) (by kernel_rfl) (fun _ _ _ h => h) (by rfl) (by assumption) ?_
        (try simp only [Act.put, List.setIfInBounds_toArray, List.set_cons_zero, List.set_cons_succ])
        refine wpAnyH_skip (i := 18) (some 152) rfl (by kernel_rfl) (by kernel_rfl) (by kernel_rfl) (fun _ _ _ h => h) (by rfl) (by assumption) ?_
        (try simp only [Act.put, List.setIfInBounds_toArray, List.set_cons_zero, List.set_cons_succ])
        refine tkH 19 (some 153) ?_
        (try simp only [Act.put, sA, sB, sC])
        refine wpAnyH_done (by kernel_rfl) ?_ _
        go_wp2
        go_ret
        exact ⟨by rw [HD.out]; rfl, hG2.out.trans (hB.trans hE5)⟩
       | true =>
        rw [hxb] at hin
        have HIN := hid hin
        have HXB := hid hxb
        clear hin hxb
        cases hwb : M.within x.ct 0 1000 with
        | false =>
         have HD := hid (M.check_1 (f := f) H3.out (M.not_valid (p := M.validLook f x = true) (by rw [HVL.out, hwb]; simp) (fun hv => (M.valid_parts hv).2.2.2.2.2.2.2.2.2.2.2.2 x (List.mem_of_getElem? HX.out))))
         rw [hwb] at hwi
         have HWI := hid hwi
         clear hwi hwb HS
         go_upto_region 18 with fail
         refine wp_region_held_drew (S := fun w' => (∀ o, w'.cell? ⟨w.heap.size, o, none⟩ = W3.cell? ⟨w.heap.size, o, none⟩) ∧ (∀ o, w'.cell? ⟨b, o, none⟩ = W3.cell? ⟨b, o, none⟩)) (by kernel_rfl) (⟨fun o => rfl, fun o => rfl⟩) (fun hHeld => ?_)
         refine tkH 0 (some 134) ?_
         (try simp only [Act.put, sA, sB, sC])
         refine tkH 1 (some 135) ?_
         (try simp only [Act.put, sA, sB, sC])
         refine tkH 2 (some 136) ?_
         (try simp only [Act.put, sA, sB, sC])
         refine tkH 3 (some 137) ?_
         (try simp only [Act.put, sA, sB, sC])
         refine tkH 4 (some 138) ?_
         (try simp only [Act.put, sA, sB, sC])
         refine tkH 5 (some 139) ?_
         (try simp only [Act.put, sA, sB, sC])
         refine tkH 6 (some 140) ?_
         (try simp only [Act.put, sA, sB, sC])
         refine tkH 7 (some 141) ?_
         (try simp only [Act.put, sA, sB, sC])
         refine wpAnyH_one (i := 8) rfl (by kernel_rfl) (by rfl) (fun K hK => ?_)
         go_simp
         refine (HIN.out _).mono ?_
         rintro e w5 ⟨rfl, hb⟩
         have hE5 : Ev W3 w5 := Ev.trans (Ev.drew (Ev.refl _)) hb
         refine hK.out _ _ (HSE.out _ hE5) (fun hHeld => ?_)
         clear hK K
         (try simp only [Act.put, List.setIfInBounds_toArray, List.set_cons_zero, List.set_cons_succ])
         refine tkH 9 (some 143) ?_
         (try simp only [Act.put, sA, sB, sC])
         refine tkH 10 (some 144) ?_
         (try simp only [Act.put, sA, sB, sC])
         refine tkH 11 (some 145) ?_
         (try simp only [Act.put, sA, sB, sC])
         refine tkH 12 (some 146) ?_
         (try simp only [Act.put, sA, sB, sC])
         refine tkH 13 (some 147) ?_
         (try simp only [Act.put, sA, sB, sC])
         refine tkH 14 (some 148) ?_
         (try simp only [Act.put, sA, sB, sC])
         refine tkH 15 (some 149) ?_
         (try simp only [Act.put, sA, sB, sC])
         refine tkH 16 (some 150) ?_
         (try simp only [Act.put, sA, sB, sC])
         refine wpAnyH_one (i := 17) rfl (by kernel_rfl) (by rfl) (fun K hK => ?_)
         go_simp
         refine (HWI.out _).mono ?_
         rintro e w6 ⟨rfl, hb⟩
         have hE6 : Ev W3 w6 := Ev.trans hE5 hb
         refine hK.out _ _ (HSE.out _ hE6) (fun hHeld => ?_)
         clear hK K
         (try simp only [Act.put, List.setIfInBounds_toArray, List.set_cons_zero, List.set_cons_succ])
         refine tkH 18 (some 152) ?_
         (try simp only [Act.put, sA, sB, sC])
         refine tkH 19 (some 153) ?_
         (try simp only [Act.put, sA, sB, sC])
         refine wpAnyH_done (by kernel_rfl) ?_ _
         go_wp2
         go_ret
         exact ⟨by rw [HD.out]; rfl, hG2.out.trans (hB.trans hE6)⟩
        | true =>
         have HVT := hid (show M.validLook f x = true by rw [HVL.out, HXB.out, hwb]; rfl)
         rw [hwb] at hwi
         have HWI := hid hwi
         clear hwi hwb
         go_upto_region 18 with fail
         refine wp_region_held_drew (S := fun w' => (∀ o, w'.cell? ⟨w.heap.size, o, none⟩ = W3.cell? ⟨w.heap.size, o, none⟩) ∧ (∀ o, w'.cell? ⟨b, o, none⟩ = W3.cell? ⟨b, o, none⟩)) (by kernel_rfl) (⟨fun o => rfl, fun o => rfl⟩) (fun hHeld => ?_)
         refine tkH 0 (some 134) ?_
         (try simp only [Act.put, sA, sB, sC])
         refine tkH 1 (some 135) ?_
         (try simp only [Act.put, sA, sB, sC])
         refine tkH 2 (some 136) ?_
         (try simp only [Act.put, sA, sB, sC])
         refine tkH 3 (some 137) ?_
         (try simp only [Act.put, sA, sB, sC])
         refine tkH 4 (some 138) ?_
         (try simp only [Act.put, sA, sB, sC])
         refine tkH 5 (some 139) ?_
         (try simp only [Act.put, sA, sB, sC])
         refine tkH 6 (some 140) ?_
         (try simp only [Act.put, sA, sB, sC])
         refine tkH 7 (some 141) ?_
         (try simp only [Act.put, sA, sB, sC])
         refine wpAnyH_one (i := 8) rfl (by kernel_rfl) (by rfl) (fun K hK => ?_)
         go_simp
         refine (HIN.out _).mono ?_
         rintro e w5 ⟨rfl, hb⟩
         have hE5 : Ev W3 w5 := Ev.trans (Ev.drew (Ev.refl _)) hb
         refine hK.out _ _ (HSE.out _ hE5) (fun hHeld => ?_)
         clear hK K
         (try simp only [Act.put, List.setIfInBounds_toArray, List.set_cons_zero, List.set_cons_succ])
         refine tkH 9 (some 143) ?_
         (try simp only [Act.put, sA, sB, sC])
         refine tkH 10 (some 144) ?_
         (try simp only [Act.put, sA, sB, sC])
         refine tkH 11 (some 145) ?_
         (try simp only [Act.put, sA, sB, sC])
         refine tkH 12 (some 146) ?_
         (try simp only [Act.put, sA, sB, sC])
         refine tkH 13 (some 147) ?_
         (try simp only [Act.put, sA, sB, sC])
         refine tkH 14 (some 148) ?_
         (try simp only [Act.put, sA, sB, sC])
         refine tkH 15 (some 149) ?_
         (try simp only [Act.put, sA, sB, sC])
         refine tkH 16 (some 150) ?_
         (try simp only [Act.put, sA, sB, sC])
         refine wpAnyH_one (i := 17) rfl (by kernel_rfl) (by rfl) (fun K hK => ?_)
         go_simp
         refine (HWI.out _).mono ?_
         rintro e w6 ⟨rfl, hb⟩
         have hE6 : Ev W3 w6 := Ev.trans hE5 hb
         refine hK.out _ _ (HSE.out _ hE6) (fun hHeld => ?_)
         clear hK K
         (try simp only [Act.put, List.setIfInBounds_toArray, List.set_cons_zero, List.set_cons_succ])
         refine tkH 18 (some 152) ?_
         (try simp only [Act.put, sA, sB, sC])
         refine tkH 19 (some 153) ?_
         (try simp only [Act.put, sA, sB, sC])
         refine wpAnyH_done (by kernel_rfl) ?_ _
         go_wp2
         exact ⟨⟨k + 1, by go_num, by omega, hB.trans hE6, hid (fun q hq => by
          rw [List.take_add_one, HX.out] at hq
          rcases List.mem_append.1 hq with hq | hq
          ·
           exact HM.out q hq
          ·
           obtain rfl : q = x := by simpa using hq
           exact HVT.out)⟩, by simp [intOf]; omega⟩
      ·
       have hnk : nl = k := by omega
       have HLV := hid (show ∀ l ∈ f.looks, M.validLook f l = true by
        have h := HM.out
        rw [List.take_of_length_le (by have := HLL.out; omega)] at h
        exact h)
       have hlt2 : ¬ ((k : Int) < nl) := by omega
       clear hnk
       have hgr : ∀ r ∈ f.gr, 0 ≤ r.lo ∧ r.lo ≤ r.hi ∧ r.hi ≤ 50 := fun r hr => by
        have := HGW.out.1 r hr
        unfold M.isGrowth M.upTo at this
        simpa only [Bool.and_eq_true, decide_eq_true_eq] using this
       have hv : M.valid f = true := by
        have a1 := HS.out.g.len
        have a2 := HS.out.w_.len
        have a3 := E1.out
        have a4 := E2.out
        have b1 := Q8.out
        have b2 := Q9.out
        have b3 := Q10.out
        unfold M.isIn at b1 b2 b3
        simp only [Bool.and_eq_true, decide_eq_true_eq] at b1 b2 b3
        unfold M.valid M.validWeeks M.validBase M.validCare M.holds
        simp only [Bool.and_eq_true, decide_eq_true_eq, List.all_eq_true]
        exact ⟨⟨q4m, by omega, HGW.out.1, by omega, HGW.out.2⟩, ⟨by have := HLB.out; omega, HBB.out.1, HBB.out.2⟩, ⟨b1, b2, b3⟩, Q11.out, HLV.out⟩
       have hd := M.check_v H3.out hv
       rw [← M.many_too hv] at hd
       have HMC := hid (fun W (hE : Ev w W) => Many_c f Ag Aw Ab Ac Al ng cg nw cw nb cb nc cc nl cl (by have a1 := HS.out.g.len; have a2 := HS.out.w_.len; have a3 := E1.out; have a4 := E2.out; omega) hgr HGW.out.2 W (HS.out.ev hE))
       generalize M.many f = mm at hd HMC
       clear HM hgr hv HS
       by_cases hmm : 2000 < mm
       ·
        have HD := hid (show M.check f = 3 by rw [hd, if_pos (by simpa using hmm)])
        have hm1 : mm > 2000 := by omega
        clear hd
        go_wp2_with (go_at_call 43; with_reducible refine (HMC.out _ (hG2.out.trans hB)).mono ?_; rintro e w9 ⟨rfl, hb9⟩)
        go_ret
        exact ⟨by rw [HD.out]; rfl, (hG2.out.trans hB).trans hb9⟩
       ·
        have HD := hid (show M.check f = 0 by rw [hd, if_neg (by simpa using hmm)])
        have hm1 : ¬ (mm > 2000) := by omega
        clear hd
        go_wp2_with (go_at_call 43; with_reducible refine (HMC.out _ (hG2.out.trans hB)).mono ?_; rintro e w9 ⟨rfl, hb9⟩)
        go_ret
        exact ⟨by rw [HD.out]; rfl, (hG2.out.trans hB).trans hb9⟩

theorem Fault_c (f : M.Cf) (Ag Aw Ab Ac Al : Option Addr) (ng cg nw cw nb cb nc cc nl cl : Nat) (hl0 : -9223372036854775808 ≤ f.last) (w : World) (hs : CS w w.heap.size f Ag Aw Ab Ac Al ng cg nw cw nb cb nc cc nl cl) :
  Calls Try.prog 50 #[.agg #[.int .i64 f.last, .slice Ag ng cg, .slice Aw nw cw, .slice Ab nb cb, .slice Ac nc cc, .int .i64 f.ripe, .int .i64 f.late, .int .i64 f.trod, .slice Al nl cl]] w fun e w' => e = .returned (.int .i64 (M.check f)) ∧ Ev w w' := by
 by_cases h3 : 9 < f.last ∨ 3 < f.base.length ∨ 5 < f.looks.length
 ·
  exact Fault_3 f Ag Aw Ab Ac Al ng cg nw cw nb cb nc cc nl cl hl0 w hs h3
 ·
  by_cases hg : 0 ≤ f.last ∧ (ng : Int) = f.last + 1 ∧ (nw : Int) = f.last + 1 ∧ nb ≠ 0 ∧ M.isIn f.ripe 1 10 = true ∧ M.isIn f.late 0 50 = true ∧ M.isIn f.trod 0 100 = true ∧ M.isPlan f f.crops = true
  ·
   exact Fault_0 f Ag Aw Ab Ac Al ng cg nw cw nb cb nc cc nl cl hl0 w hs h3 hg
  ·
   exact Fault_1 f Ag Aw Ab Ac Al ng cg nw cw nb cb nc cc nl cl hl0 w hs h3 hg

end Go.Proofs.Ytffbkbcjddigdaa
