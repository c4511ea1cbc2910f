import Derived.Test.YtgimcephbeajlaaC1
import Derived.Lib.AppendZerosOnto
import Derived.Lib.SliceRun
set_option linter.unusedSimpArgs false
set_option linter.unusedVariables false
namespace Go.Proofs.Ytgimcephbeajlaa
open Go.RowKit

set_option maxRecDepth 100000 in
set_option maxHeartbeats 2000000 in
theorem validHours_c (f : M.Cf) (Aw At Ar : Option Addr) (nw cw nt ct nr cr : Nat) (hl0 : -9223372036854775808 ≤ f.last) (hl1 : f.last ≤ 9) (w : World) (hs : CS w w.heap.size f Aw At Ar nw cw nt ct nr cr) :
  Calls Try.prog 99 #[.agg #[.int .i64 f.last, .int .i64 f.size, .int .i64 f.cool, .int .i64 f.die, .int .i64 f.burn, .int .i64 f.st.lo, .int .i64 f.st.hi, .slice Aw nw cw, .slice At nt ct, .slice Ar nr cr]] w fun e w' => e = .returned (.bool (M.validHours f)) ∧ Ev w w' := by
 have hlw := hs.w_.len
 have hsw := hs.w_.small
 have h1 := fun W (hE : Ev w W) => allWet_c Aw nw cw f.wet W (hs.w_.ev hE)
 have h2 := fun W (hE : Ev w W) => isTurns_c f Aw At Ar nw cw nt ct nr cr At nt ct f.turns W (hs.t.ev hE)
 have HD := hid (show M.validHours f = (decide (0 ≤ f.last) && (decide ((nw : Int) = f.last + 1) && (f.wet.all M.isWet && M.isTurns f f.turns))) by unfold M.validHours; rw [hlw])
 generalize f.wet.all M.isWet = a at h1 HD
 generalize M.isTurns f f.turns = b at h2 HD
 have H1 := hid h1
 have H2 := hid h2
 have s1 : IntKind.i64.wrap (f.last + 1) = f.last + 1 := IntWalk.i64_in _ (by omega)
 clear h1 h2 hs hlw
 by_cases q1 : 0 ≤ f.last
 ·
  have q1' : f.last ≥ 0 := q1
  rw [decide_eq_true q1] at HD
  by_cases q2 : (nw : Int) = f.last + 1
  ·
   have q2b : ((nw : Int) == f.last + 1) = true := by simpa using q2
   rw [decide_eq_true q2] at HD
   clear q2
   cases a
   ·
    go_enter Try.func99, Try.ntmps99
    go_wp2_with (first | (go_at_call 117; with_reducible refine (H1.out _ (Ev.alloc (Ev.refl _) _)).mono ?_; rintro e w1 ⟨rfl, hb1⟩; have hG : Ev w w1 := Ev.trans (Ev.alloc (Ev.refl _) _) hb1; obtain ⟨y0, y1, y2, y3, y4, y5, y6, y7, y8, y9⟩ := cells10 (hb1.heap (alloc1 w (.cells #[.int .i64 f.last, .int .i64 f.size, .int .i64 f.cool, .int .i64 f.die, .int .i64 f.burn, .int .i64 f.st.lo, .int .i64 f.st.hi, .slice Aw nw cw, .slice At nt ct, .slice Ar nr cr] 40)).1)))
    go_ret
    exact ⟨ret_bool HD.out.symm, hG⟩
   ·
    go_enter Try.func99, Try.ntmps99
    go_wp2_with (first | (go_at_call 117; with_reducible refine (H1.out _ (Ev.alloc (Ev.refl _) _)).mono ?_; rintro e w1 ⟨rfl, hb1⟩; have hG : Ev w w1 := Ev.trans (Ev.alloc (Ev.refl _) _) hb1; obtain ⟨y0, y1, y2, y3, y4, y5, y6, y7, y8, y9⟩ := cells10 (hb1.heap (alloc1 w (.cells #[.int .i64 f.last, .int .i64 f.size, .int .i64 f.cool, .int .i64 f.die, .int .i64 f.burn, .int .i64 f.st.lo, .int .i64 f.st.hi, .slice Aw nw cw, .slice At nt ct, .slice Ar nr cr] 40)).1)) | (go_at_call 66; with_reducible refine (H2.out _ hG).mono ?_; rintro e w2 ⟨rfl, hb2⟩; replace hG := hG.trans hb2))
    go_ret
    exact ⟨ret_bool HD.out.symm, hG⟩
  ·
   have q2b : ((nw : Int) == f.last + 1) = false := by simpa using q2
   rw [decide_eq_false q2] at HD
   clear q2
   go_enter Try.func99, Try.ntmps99
   go_wp2
   go_ret
   exact ⟨ret_bool HD.out.symm, Ev.alloc (Ev.refl _) _⟩
 ·
  have q1' : ¬ (f.last ≥ 0) := q1
  have q1'' : f.last < 0 := by omega
  rw [decide_eq_false q1] at HD
  go_enter Try.func99, Try.ntmps99
  go_wp2
  go_ret
  exact ⟨ret_bool HD.out.symm, Ev.alloc (Ev.refl _) _⟩

set_option maxRecDepth 100000 in
set_option maxHeartbeats 2000000 in
theorem valid_c (f : M.Cf) (Aw At Ar : Option Addr) (nw cw nt ct nr cr : Nat) (hl0 : -9223372036854775808 ≤ f.last) (hl1 : f.last ≤ 9) (w : World) (hs : CS w w.heap.size f Aw At Ar nw cw nt ct nr cr) :
  Calls Try.prog 70 #[.agg #[.int .i64 f.last, .int .i64 f.size, .int .i64 f.cool, .int .i64 f.die, .int .i64 f.burn, .int .i64 f.st.lo, .int .i64 f.st.hi, .slice Aw nw cw, .slice At nt ct, .slice Ar nr cr]] w fun e w' => e = .returned (.bool (M.valid f)) ∧ Ev w w' := by
 have h0 : ∀ W, Ev w W → Calls Try.prog 90 #[.agg #[.int .i64 0, .int .i64 20], .int .i64 f.size] W fun e w' => e = .returned (.bool (M.holds ⟨0, 20⟩ f.size)) ∧ Ev W w' := fun W _ => holds_e ⟨0, 20⟩ f.size W
 have h1 : ∀ W, Ev w W → Calls Try.prog 90 #[.agg #[.int .i64 0, .int .i64 100], .int .i64 f.cool] W fun e w' => e = .returned (.bool (M.holds ⟨0, 100⟩ f.cool)) ∧ Ev W w' := fun W _ => holds_e ⟨0, 100⟩ f.cool W
 have h2 := fun W (hE : Ev w W) => validHeats_c f Aw At Ar nw cw nt ct nr cr W
 have h3 := fun W (hE : Ev w W) => validHours_c f Aw At Ar nw cw nt ct nr cr hl0 hl1 W (hs.ev hE)
 have h4 := fun W (hE : Ev w W) => allRd_c f Aw At Ar nw cw nt ct nr cr Ar nr cr f.rds W (hs.r.ev hE)
 have HD := hid (show M.valid f = (M.holds ⟨0, 20⟩ f.size && (M.holds ⟨0, 100⟩ f.cool && (M.validHeats f && (M.validHours f && (f.rds.all (M.validRd f)))))) from rfl)
 generalize M.holds ⟨0, 20⟩ f.size = a0 at h0 HD
 generalize M.holds ⟨0, 100⟩ f.cool = a1 at h1 HD
 generalize M.validHeats f = a2 at h2 HD
 generalize M.validHours f = a3 at h3 HD
 generalize f.rds.all (M.validRd f) = a4 at h4 HD
 have H0 := hid h0
 have H1 := hid h1
 have H2 := hid h2
 have H3 := hid h3
 have H4 := hid h4
 clear h0 h1 h2 h3 h4 hs hl0 hl1
 cases a0
 ·
  go_enter Try.func70, Try.ntmps70
  go_wp2_with (first | (go_at_call 90; with_reducible refine (H0.out _ (Ev.alloc (Ev.refl _) _)).mono ?_; rintro e w1 ⟨rfl, hb1⟩; have hG : Ev w w1 := Ev.trans (Ev.alloc (Ev.refl _) _) hb1; have HB := hid (hb1.heap (alloc1 w (.cells #[.int .i64 f.last, .int .i64 f.size, .int .i64 f.cool, .int .i64 f.die, .int .i64 f.burn, .int .i64 f.st.lo, .int .i64 f.st.hi, .slice Aw nw cw, .slice At nt ct, .slice Ar nr cr] 40)).1); obtain ⟨y0, y1, y2, y3, y4, y5, y6, y7, y8, y9⟩ := cells10 HB.out))
  go_ret
  exact ⟨ret_bool HD.out.symm, hG⟩
 ·
  cases a1
  ·
   go_enter Try.func70, Try.ntmps70
   go_wp2_with (first | (go_at_call 90; with_reducible refine (H0.out _ (Ev.alloc (Ev.refl _) _)).mono ?_; rintro e w1 ⟨rfl, hb1⟩; have hG : Ev w w1 := Ev.trans (Ev.alloc (Ev.refl _) _) hb1; have HB := hid (hb1.heap (alloc1 w (.cells #[.int .i64 f.last, .int .i64 f.size, .int .i64 f.cool, .int .i64 f.die, .int .i64 f.burn, .int .i64 f.st.lo, .int .i64 f.st.hi, .slice Aw nw cw, .slice At nt ct, .slice Ar nr cr] 40)).1); obtain ⟨y0, y1, y2, y3, y4, y5, y6, y7, y8, y9⟩ := cells10 HB.out) | (go_at_call 90; with_reducible refine (H1.out _ hG).mono ?_; rintro e w2 ⟨rfl, hb2⟩; replace hG := hG.trans hb2; replace HB := hid (hb2.heap HB.out); clear y0 y1 y2 y3 y4 y5 y6 y7 y8 y9; obtain ⟨y0, y1, y2, y3, y4, y5, y6, y7, y8, y9⟩ := cells10 HB.out))
   go_ret
   exact ⟨ret_bool HD.out.symm, hG⟩
  ·
   cases a2
   ·
    go_enter Try.func70, Try.ntmps70
    go_wp2_with (first | (go_at_call 90; with_reducible refine (H0.out _ (Ev.alloc (Ev.refl _) _)).mono ?_; rintro e w1 ⟨rfl, hb1⟩; have hG : Ev w w1 := Ev.trans (Ev.alloc (Ev.refl _) _) hb1; have HB := hid (hb1.heap (alloc1 w (.cells #[.int .i64 f.last, .int .i64 f.size, .int .i64 f.cool, .int .i64 f.die, .int .i64 f.burn, .int .i64 f.st.lo, .int .i64 f.st.hi, .slice Aw nw cw, .slice At nt ct, .slice Ar nr cr] 40)).1); obtain ⟨y0, y1, y2, y3, y4, y5, y6, y7, y8, y9⟩ := cells10 HB.out) | (go_at_call 90; with_reducible refine (H1.out _ hG).mono ?_; rintro e w2 ⟨rfl, hb2⟩; replace hG := hG.trans hb2; replace HB := hid (hb2.heap HB.out); clear y0 y1 y2 y3 y4 y5 y6 y7 y8 y9; obtain ⟨y0, y1, y2, y3, y4, y5, y6, y7, y8, y9⟩ := cells10 HB.out) | (go_at_call 98; with_reducible refine (H2.out _ hG).mono ?_; rintro e w3 ⟨rfl, hb3⟩; replace hG := hG.trans hb3; replace HB := hid (hb3.heap HB.out); clear y0 y1 y2 y3 y4 y5 y6 y7 y8 y9; obtain ⟨y0, y1, y2, y3, y4, y5, y6, y7, y8, y9⟩ := cells10 HB.out))
    go_ret
    exact ⟨ret_bool HD.out.symm, hG⟩
   ·
    cases a3
    ·
     go_enter Try.func70, Try.ntmps70
     go_wp2_with (first | (go_at_call 90; with_reducible refine (H0.out _ (Ev.alloc (Ev.refl _) _)).mono ?_; rintro e w1 ⟨rfl, hb1⟩; have hG : Ev w w1 := Ev.trans (Ev.alloc (Ev.refl _) _) hb1; have HB := hid (hb1.heap (alloc1 w (.cells #[.int .i64 f.last, .int .i64 f.size, .int .i64 f.cool, .int .i64 f.die, .int .i64 f.burn, .int .i64 f.st.lo, .int .i64 f.st.hi, .slice Aw nw cw, .slice At nt ct, .slice Ar nr cr] 40)).1); obtain ⟨y0, y1, y2, y3, y4, y5, y6, y7, y8, y9⟩ := cells10 HB.out) | (go_at_call 90; with_reducible refine (H1.out _ hG).mono ?_; rintro e w2 ⟨rfl, hb2⟩; replace hG := hG.trans hb2; replace HB := hid (hb2.heap HB.out); clear y0 y1 y2 y3 y4 y5 y6 y7 y8 y9; obtain ⟨y0, y1, y2, y3, y4, y5, y6, y7, y8, y9⟩ := cells10 HB.out) | (go_at_call 98; with_reducible refine (H2.out _ hG).mono ?_; rintro e w3 ⟨rfl, hb3⟩; replace hG := hG.trans hb3; replace HB := hid (hb3.heap HB.out); clear y0 y1 y2 y3 y4 y5 y6 y7 y8 y9; obtain ⟨y0, y1, y2, y3, y4, y5, y6, y7, y8, y9⟩ := cells10 HB.out) | (go_at_call 99; with_reducible refine (H3.out _ hG).mono ?_; rintro e w4 ⟨rfl, hb4⟩; replace hG := hG.trans hb4; replace HB := hid (hb4.heap HB.out); clear y0 y1 y2 y3 y4 y5 y6 y7 y8 y9; obtain ⟨y0, y1, y2, y3, y4, y5, y6, y7, y8, y9⟩ := cells10 HB.out))
     go_ret
     exact ⟨ret_bool HD.out.symm, hG⟩
    ·
     go_enter Try.func70, Try.ntmps70
     go_wp2_with (first | (go_at_call 90; with_reducible refine (H0.out _ (Ev.alloc (Ev.refl _) _)).mono ?_; rintro e w1 ⟨rfl, hb1⟩; have hG : Ev w w1 := Ev.trans (Ev.alloc (Ev.refl _) _) hb1; have HB := hid (hb1.heap (alloc1 w (.cells #[.int .i64 f.last, .int .i64 f.size, .int .i64 f.cool, .int .i64 f.die, .int .i64 f.burn, .int .i64 f.st.lo, .int .i64 f.st.hi, .slice Aw nw cw, .slice At nt ct, .slice Ar nr cr] 40)).1); obtain ⟨y0, y1, y2, y3, y4, y5, y6, y7, y8, y9⟩ := cells10 HB.out) | (go_at_call 90; with_reducible refine (H1.out _ hG).mono ?_; rintro e w2 ⟨rfl, hb2⟩; replace hG := hG.trans hb2; replace HB := hid (hb2.heap HB.out); clear y0 y1 y2 y3 y4 y5 y6 y7 y8 y9; obtain ⟨y0, y1, y2, y3, y4, y5, y6, y7, y8, y9⟩ := cells10 HB.out) | (go_at_call 98; with_reducible refine (H2.out _ hG).mono ?_; rintro e w3 ⟨rfl, hb3⟩; replace hG := hG.trans hb3; replace HB := hid (hb3.heap HB.out); clear y0 y1 y2 y3 y4 y5 y6 y7 y8 y9; obtain ⟨y0, y1, y2, y3, y4, y5, y6, y7, y8, y9⟩ := cells10 HB.out) | (go_at_call 99; with_reducible refine (H3.out _ hG).mono ?_; rintro e w4 ⟨rfl, hb4⟩; replace hG := hG.trans hb4; replace HB := hid (hb4.heap HB.out); clear y0 y1 y2 y3 y4 y5 y6 y7 y8 y9; obtain ⟨y0, y1, y2, y3, y4, y5, y6, y7, y8, y9⟩ := cells10 HB.out) | (go_at_call 96; with_reducible refine (H4.out _ hG).mono ?_; rintro e w5 ⟨rfl, hb5⟩; replace hG := hG.trans hb5; replace HB := hid (hb5.heap HB.out); clear y0 y1 y2 y3 y4 y5 y6 y7 y8 y9; obtain ⟨y0, y1, y2, y3, y4, y5, y6, y7, y8, y9⟩ := cells10 HB.out))
     go_ret
     exact ⟨ret_bool HD.out.symm, hG⟩

theorem info55 : (Try.prog.info? 36).map (fun i => (i.zero, i.size, i.bytes)) = some (some (.agg #[.int .i64 0, .int .i64 0]), 2, 16) := by kernel_rfl
set_option maxRecDepth 100000 in
set_option maxHeartbeats 1000000 in
theorem growR_c (n : Nat) (hn : n ≤ 100000) (w : World) :
  Calls Try.prog 133 #[.slice none 0 0, .int .i64 n] w fun e w' => (∃ B d, e = .returned (.slice B 0 d) ∧ w'.ownsRow w.heap.size 36 2 (.slice B 0 d) 0 []) ∧ Ev w w' := by
 rcases Nat.eq_zero_or_pos n with h0 | h0
 ·
  subst h0
  go_enter Try.func133, Try.ntmps133
  go_wp2
  go_ret
  exact ⟨⟨none, 0, rfl, World.ownsRow_nil _ _ _ _⟩, Ev.refl _⟩
 ·
  obtain ⟨i0, hi0, hz0, hz1, hz2⟩ := info_parts info55
  have hold : (Builtin.firstCells i0.size 0 (.slice none 0 0)).run Try.prog w.drew = .ok ([] : List Value).toArray w.drew := run_firstCells_none w.drew i0.size 0 0 0
  have hrz : ∀ ty, (Builtin.append_ #[37, 3] ty #[.slice none 0 0, .int .i64 n]).run Try.prog w = _ := fun ty =>
   Lib.run_append_grow_zeros w 37 3 ty 36 i0 (.agg #[.int .i64 0, .int .i64 0]) .i64 .i64 Try.underlying37 Try.underlying3 hi0 hz0 none 0 0 [] hold n (by omega) (by omega) (by omega) (by omega) (by rw [hz2]; omega) (growslice_fits (by omega) (by rw [hz2]; omega))
  have hGn : 0 + n ≤ grownCap w (0 + n) 0 36 := grownCap_ge w _ _ _
  have hGm : grownCap w (0 + n) 0 36 ≤ maxLen := grownCap_le_maxLen w (0 + n) 0 36 (by unfold maxLen; omega)
  generalize grownCap w (0 + n) 0 36 = G at hrz hGn hGm
  rw [Nat.zero_add] at hGn hrz
  have hG63 : G ≤ 9223372036854775807 := by unfold maxLen at hGm; omega
  have HGM := hid hGm
  have HSZ := hid (show (([] : List Value).toArray ++ Builtin.zeroCells (Value.agg #[.int .i64 0, .int .i64 0]).cells n ++ Builtin.zeroCells (Value.agg #[.int .i64 0, .int .i64 0]).cells (G - n)).size = G * 2 by
   simp [Builtin.zeroCells, Value.cells]; try omega)
  generalize ([] : List Value).toArray ++ Builtin.zeroCells (Value.agg #[.int .i64 0, .int .i64 0]).cells n ++ Builtin.zeroCells (Value.agg #[.int .i64 0, .int .i64 0]).cells (G - n) = Z at hrz HSZ
  have n1 : ¬ ((n : Int) < 0) := by omega
  have n2 : (n : Int) > 0 := by omega
  clear hGm
  go_enter Try.func133, Try.ntmps133
  go_wp2_with (at_builtin; refine Lib.wpList_append_run _ rfl _ _ _ _ rfl _ _ rfl rfl _ _ (hrz _) ?_)
  go_ret
  refine ⟨⟨_, _, rfl, rfl, .inr ⟨w.heap.size, G, Z, rfl, Nat.le_refl _, ?_, by omega, HGM.out, HSZ.out, by simp⟩⟩, Ev.alloc (Ev.drew (Ev.refl _)) _⟩
  exact (alloc1 w.drew _).1
set_option maxRecDepth 100000 in
set_option maxHeartbeats 2000000 in
theorem concatR_c (b : Nat) (A1 A2 : Option Addr) (n1 c1 n2 c2 : Nat) (xs ys : List M.Rg) (h1 : n1 ≤ 1000) (h2 : n2 ≤ 1000) (w : World) (ha : Sl rgc 2 w w.heap.size A1 n1 c1 xs) (hb : Sl rgc 2 w w.heap.size A2 n2 c2 ys)
  (x0 : w.cell? ⟨b, 0, none⟩ = some (.slice A1 n1 c1)) (x1 : w.cell? ⟨b, 1, none⟩ = some (.slice A2 n2 c2)) (hbl : b < w.heap.size) :
  Calls Try.prog 119 #[.slice (some ⟨b, 0, none⟩) 2 2] w fun e w' => (∃ B d, e = .returned (.slice B (n1 + n2) d) ∧ Sl rgc 2 w' w'.heap.size B (n1 + n2) d (xs ++ ys)) ∧ Ev w w' := by
 obtain ⟨i0, hi0, hz0, hz1, hz2⟩ := info_parts info55
 have HG := hid (fun W => show Calls Try.prog 133 #[.slice none 0 0, .int .i64 ((n1 : Int) + n2)] W _ by
  have h := growR_c (n1 + n2) (by omega) W
  rw [show ((n1 + n2 : Nat) : Int) = (n1 : Int) + n2 from by omega] at h
  exact h)
 have HA := hid ha
 have HB := hid hb
 have m1 : (0 : Int) ≤ n1 := by omega
 have m2 : (0 : Int) ≤ n2 := by omega
 have m3 : ¬ ((n1 : Int) < 0) := by omega
 have m4 : ¬ ((n1 : Int) + n2 < 0) := by omega
 have g1 : (n1 : Int) ≤ 1000 := by omega
 have g2 : (n2 : Int) ≤ 1000 := by omega
 clear ha hb
 go_enter Try.func119, Try.ntmps119
 go_wp2
 refine wp_loop_rounds 3 ?_
 iterate 3 (rw [rounds_succ]; go_wp2_with (go_at_call 133; with_reducible refine (HG.out _).mono ?_; rintro e w1 ⟨⟨B, d, rfl, hown⟩, hb1⟩; have z0 := (hb1.cells.1 b 0 hbl).trans x0; have X1 := hid x1; have HO := hid hown; clear hown x0 x1))
 refine wp_loop_rounds 3 ?_
 rw [rounds_succ]
 go_wp2_with ((at_builtin; refine append_any (enc := rgc) rfl (.tmp 31) (.tmp 32) 37 rfl w.heap.size 36 i0 _ 2 16 Try.underlying37 hi0 hz0 hz1 hz2 rfl (by decide) _ 0 [] rfl HO.out A1 n1 c1 xs _ rfl (HA.out.ev hb1) (rgc_len _) (rgc_one _) (by unfold maxLen; omega) (by omega) (by first | exact Nat.le_refl _ | exact hb1.size | exact hE2.size) ?_; intro v' w2 hown' hgrow; have hown2 : w2.ownsRow w.heap.size 36 2 v' n1 (xs.flatMap rgc) := (by simpa using hown'); have hE2 : Ev w w2 := Ev.grown hb1 hgrow (fun k e => (HO.out.lt k e).1); obtain ⟨V, cc, rfl⟩ := own_form hown2; have HO2 := hid hown2; have z1 := (hE2.cells.1 b 1 hbl).trans X1.out; clear hown' hown2 hgrow z0))
 rw [rounds_succ]
 go_wp2_with ((at_builtin; refine append_any (enc := rgc) rfl (.tmp 31) (.tmp 32) 37 rfl w.heap.size 36 i0 _ 2 16 Try.underlying37 hi0 hz0 hz1 hz2 rfl (by decide) _ n1 xs rfl HO2.out A2 n2 c2 ys _ rfl (HB.out.ev hE2) (rgc_len _) (rgc_one _) (by unfold maxLen; omega) (by omega) (by first | exact Nat.le_refl _ | exact hb1.size | exact hE2.size) ?_; intro v' w3 hown' hgrow; have hE3 : Ev w w3 := Ev.grown hE2 hgrow (fun k e => (HO2.out.lt k e).1); obtain ⟨V3, cc3, rfl⟩ := own_form hown'; have HO3 := hid hown'; clear hown' hgrow z1))
 rw [rounds_succ]
 go_wp2
 go_ret
 exact ⟨⟨V3, cc3, rfl, sl_own (by decide) (rgc_len _) (by omega) HO3.out⟩, hE3⟩

set_option maxRecDepth 100000 in
set_option maxHeartbeats 2000000 in
theorem ranges_c (f : M.Cf) (Aw At Ar : Option Addr) (nw cw nt ct nr cr : Nat) (hw : nw ≤ 100) (w : World) (hs : CS w w.heap.size f Aw At Ar nw cw nt ct nr cr) :
  Calls Try.prog 101 #[.agg #[.int .i64 f.last, .int .i64 f.size, .int .i64 f.cool, .int .i64 f.die, .int .i64 f.burn, .int .i64 f.st.lo, .int .i64 f.st.hi, .slice Aw nw cw, .slice At nt ct, .slice Ar nr cr]] w fun e w' => (∃ B d, e = .returned (.slice B (nw + 1) d) ∧ Sl rgc 2 w' w'.heap.size B (nw + 1) d (M.ranges f)) ∧ Ev w w' := by
 have hal := alloc3 w (.cells #[.int .i64 f.last, .int .i64 f.size, .int .i64 f.cool, .int .i64 f.die, .int .i64 f.burn, .int .i64 f.st.lo, .int .i64 f.st.hi, .slice Aw nw cw, .slice At nt ct, .slice Ar nr cr] 40) (.cells #[.int .i64 f.st.lo, .int .i64 f.st.hi] 36) (.cells #[.slice (some ⟨w.heap.size + 1, 0, none⟩) 1 1, .slice Aw nw cw] 37)
 have hE : Ev w _ := Ev.alloc (Ev.alloc (Ev.alloc (Ev.refl w) (.cells #[.int .i64 f.last, .int .i64 f.size, .int .i64 f.cool, .int .i64 f.die, .int .i64 f.burn, .int .i64 f.st.lo, .int .i64 f.st.hi, .slice Aw nw cw, .slice At nt ct, .slice Ar nr cr] 40)) (.cells #[.int .i64 f.st.lo, .int .i64 f.st.hi] 36)) (.cells #[.slice (some ⟨w.heap.size + 1, 0, none⟩) 1 1, .slice Aw nw cw] 37)
 have h1 := sl_block (enc := rgc) (n := 1) (xs := [f.st]) (by decide) (rgc_len _) (by omega) rfl hal.2.1
 have HC := hid (concatR_c (w.heap.size + 2) (some ⟨w.heap.size + 1, 0, none⟩) Aw 1 1 nw cw [f.st] f.wet (by omega) (by omega) _ h1 (hs.w_.ev hE) (cell_in hal.2.2.1 0) (cell_in hal.2.2.1 1) (heap_lt hal.2.2.1))
 have HN := hid (show 1 + nw = nw + 1 by omega)
 clear hs hal h1
 go_enter Try.func101, Try.ntmps101
 go_wp2_with (go_at_call 119; with_reducible refine (HC.out).mono ?_; rintro e w1 ⟨⟨B1, d1, rfl, hn1⟩, hb1⟩; have HN1 := hid hn1; clear hn1)
 go_ret
 exact ⟨⟨B1, d1, by rw [HN.out]; rfl, by have := HN1.out; rw [HN.out] at this; exact this⟩, hE.trans hb1⟩

/-- The product of sizes passes the limit. -/
def M.tooMany : List M.Rg → Int → Bool
 | [], _ => false
 | r :: rs, m => if 2000 < m * (r.hi - r.lo + 1) then true else M.tooMany rs (m * (r.hi - r.lo + 1))

set_option maxRecDepth 100000 in
set_option maxHeartbeats 1000000 in
theorem hasTooMany_c (f : M.Cf) (Aw At Ar : Option Addr) (nw cw nt ct nr cr : Nat) (hw : nw ≤ 100) (hr : ∀ r ∈ M.ranges f, 0 ≤ r.lo ∧ r.lo ≤ r.hi ∧ r.hi ≤ 500) (w : World) (hs : CS w w.heap.size f Aw At Ar nw cw nt ct nr cr) :
  Calls Try.prog 71 #[.agg #[.int .i64 f.last, .int .i64 f.size, .int .i64 f.cool, .int .i64 f.die, .int .i64 f.burn, .int .i64 f.st.lo, .int .i64 f.st.hi, .slice Aw nw cw, .slice At nt ct, .slice Ar nr cr]] w fun e w' => e = .returned (.bool (M.tooMany (M.ranges f) 1)) ∧ Ev w w' := by
 have HRG := hid (fun W (hE : Ev w W) => ranges_c f Aw At Ar nw cw nt ct nr cr hw W (hs.ev hE))
 have HR := hid hr
 clear hs hr
 generalize hxs : M.ranges f = xs at HRG HR
 clear hxs
 go_enter Try.func71, Try.ntmps71
 go_upto_region 3 with (go_at_call 101; with_reducible refine (HRG.out _ (Ev.alloc (Ev.refl _) _)).mono ?_; rintro e w1 ⟨⟨B, d, rfl, hsl⟩, hb1⟩; have HS := hid hsl; clear hsl)
 have hE1 : Ev w w1 := Ev.trans (Ev.alloc (Ev.refl _) _) hb1
 generalize hN : nw + 1 = N at *
 have hN2 : N ≤ 200 := by omega
 have hN3 : ((nw : Int) + 1) = N := by omega
 go_loopw [3, 9] (fun v i wr => ∃ k : Nat, ∃ m : Int, v = .int .i64 m ∧ i = .int .i64 k ∧ k ≤ N ∧ 1 ≤ m ∧ m ≤ 2000 ∧ Ev w1 wr ∧ Hid (M.tooMany (xs.drop k) m = M.tooMany xs 1)) (fun _ i _ => N - (intOf i).toNat)
 case atStart => exact ⟨0, 1, rfl, rfl, by omega, by omega, by omega, Ev.refl _, hid rfl⟩
 case round =>
  obtain ⟨k, m, rfl, rfl, hk, hm0, hm1, hB, hT⟩ := hrel
  by_cases hlt : k < N
  ·
   obtain ⟨b, off, x, rfl, hb, hx, hd, hcc⟩ := HS.out.at_ hB hlt
   have e0 := hcc 0 _ rfl
   have e1 := hcc 1 _ rfl
   simp only [Nat.add_zero] at e0
   have hcap := HS.out.cap
   obtain ⟨x1, x2, x3⟩ := HR.out x (List.mem_of_getElem? hx)
   have hT2 := hT.out
   rw [hd, M.tooMany] at hT2
   have HT2 := hid hT2
   obtain ⟨s, hsz⟩ : ∃ s : Int, x.hi - x.lo = s := ⟨_, rfl⟩
   obtain ⟨s1, hs1⟩ : ∃ s1 : Int, s + 1 = s1 := ⟨_, rfl⟩
   have hs5 : 1 ≤ s1 ∧ s1 ≤ 501 := by omega
   obtain ⟨p, hp⟩ : ∃ p : Int, m * s1 = p := ⟨_, rfl⟩
   have hp0 : 1 ≤ p := by rw [← hp]; exact (by have := Int.mul_le_mul hm0 hs5.1 (by omega) (by omega); omega)
   have hp1 : p ≤ 2000 * 501 := by rw [← hp]; exact Int.mul_le_mul hm1 hs5.2 (by omega) (by omega)
   have g1 : IntKind.i64.wrap s = s := IntWalk.i64_in _ (by omega)
   have g2 : IntKind.i64.wrap s1 = s1 := IntWalk.i64_in _ (by omega)
   have g3 : IntKind.i64.wrap p = p := IntWalk.i64_in _ (by omega)
   have HP := hid (show m * (x.hi - x.lo + 1) = p by rw [hsz, hs1, hp])
   have HEW := hid hB
   clear hx hd hcc hT hT2 x1 x2 x3 hB
   by_cases h2 : 2000 < p
   ·
    go_wp2
    go_ret
    refine ⟨ret_bool ?_, ?_⟩
    ·
     rw [← HT2.out, HP.out, if_pos h2]
    ·
     exact hE1.trans (Ev.alloc HEW.out _)
   ·
    have h3 : p ≤ 2000 := by omega
    go_wp2
    refine ⟨⟨k + 1, p, rfl, by go_num, by omega, hp0, h3, Ev.alloc HEW.out _, hid ?_⟩, by simp [intOf]; omega⟩
    rw [← HT2.out, HP.out, if_neg h2]
  ·
   have hd : xs.drop k = [] := HS.out.done hlt
   have HF := hid (show M.tooMany xs 1 = false by rw [← hT.out, hd]; rfl)
   go_wp2
   go_ret
   exact ⟨ret_bool HF.out.symm, hE1.trans hB⟩

def M.check (f : M.Cf) : Int := if 9 < f.last ∨ 5 < f.rds.length then 3 else if M.valid f = false then 1 else if M.tooMany (M.ranges f) 1 then 3 else 0
theorem M.valid_parts {f : M.Cf} (h : M.valid f = true) : (0 ≤ f.size ∧ f.size ≤ 20) ∧ (0 ≤ f.cool ∧ f.cool ≤ 100) ∧ (0 ≤ f.die ∧ f.die ≤ f.burn ∧ f.burn ≤ 500) ∧ (0 ≤ f.st.lo ∧ f.st.lo ≤ f.st.hi ∧ f.st.hi ≤ 500) ∧ 0 ≤ f.last ∧ (f.wet.length : Int) = f.last + 1 ∧ (∀ r ∈ f.wet, M.isWet r = true) ∧ M.isTurns f f.turns = true ∧ ∀ x ∈ f.rds, M.validRd f x = true := by
 unfold M.valid M.validHeats M.validHours M.holds M.upTo at h
 simp only [Bool.and_eq_true, decide_eq_true_eq, List.all_eq_true] at h
 obtain ⟨a1, b1, ⟨c1, c2⟩, ⟨d1, d2, d3, d4⟩, e1⟩ := h
 exact ⟨a1, b1, c1, c2, d1, d2, d3, d4, e1⟩
theorem M.wet_bd {f : M.Cf} (h : M.valid f = true) : ∀ r ∈ f.wet, 0 ≤ r.lo ∧ r.lo ≤ r.hi ∧ r.hi ≤ 20 := by
 obtain ⟨_, _, _, _, _, _, a3, _⟩ := M.valid_parts h
 intro r hr
 have := a3 r hr
 unfold M.isWet M.upTo at this
 simp only [Bool.and_eq_true, decide_eq_true_eq] at this
 omega
theorem M.ranges_bd {f : M.Cf} (h : M.valid f = true) : ∀ r ∈ M.ranges f, 0 ≤ r.lo ∧ r.lo ≤ r.hi ∧ r.hi ≤ 500 := by
 obtain ⟨_, _, _, a4, _⟩ := M.valid_parts h
 intro r hr
 rcases List.mem_cons.1 hr with rfl | hr
 ·
  exact a4
 ·
  have := M.wet_bd h r hr
  omega

set_option maxRecDepth 100000 in
set_option maxHeartbeats 4000000 in
theorem check_c (f : M.Cf) (Aw At Ar : Option Addr) (nw cw nt ct nr cr : Nat) (hl0 : -9223372036854775808 ≤ f.last) (w : World) (hs : CS w w.heap.size f Aw At Ar nw cw nt ct nr cr) :
  Calls Try.prog 26 #[.agg #[.int .i64 f.last, .int .i64 f.size, .int .i64 f.cool, .int .i64 f.die, .int .i64 f.burn, .int .i64 f.st.lo, .int .i64 f.st.hi, .slice Aw nw cw, .slice At nt ct, .slice Ar nr cr]] w fun e w' => e = .returned (.int .i64 (M.check f)) ∧ Ev w w' := by
 have hll := hs.r.len
 have hls := hs.r.small
 by_cases q1 : 9 < f.last
 ·
  have HD := hid (show M.check f = 3 by unfold M.check; rw [if_pos (.inl q1)])
  have q1' : f.last > 9 := q1
  clear hs
  go_enter Try.func26, Try.ntmps26
  go_wp2
  go_ret
  exact ⟨by rw [HD.out]; rfl, Ev.alloc (Ev.refl _) _⟩
 ·
  by_cases q3 : 5 < nr
  ·
   have HD := hid (show M.check f = 3 by unfold M.check; rw [if_pos (.inr (by omega))])
   have q1' : ¬ (f.last > 9) := q1
   have q1'' : f.last ≤ 9 := by omega
   have q3' : (5 : Int) < nr := by omega
   have q3'' : (nr : Int) > 5 := by omega
   clear hs hll
   go_enter Try.func26, Try.ntmps26
   go_wp2
   go_ret
   exact ⟨by rw [HD.out]; rfl, Ev.alloc (Ev.refl _) _⟩
  ·
   have HD := hid (show M.check f = if M.valid f = false then 1 else if M.tooMany (M.ranges f) 1 then 3 else 0 by unfold M.check; rw [if_neg (by omega)])
   have h1 := fun W (hE : Ev w W) => valid_c f Aw At Ar nw cw nt ct nr cr hl0 (by omega) W (hs.ev hE)
   have h2 := fun (hv : M.valid f = true) W (hE : Ev w W) => hasTooMany_c f Aw At Ar nw cw nt ct nr cr (by have := M.valid_parts hv; have := hs.w_.len; omega) (M.ranges_bd hv) W (hs.ev hE)
   generalize M.tooMany (M.ranges f) 1 = t at h2 HD
   generalize M.valid f = v at h1 h2 HD
   have q1' : ¬ (f.last > 9) := q1
   have q1'' : f.last ≤ 9 := by omega
   have q3' : ¬ ((5 : Int) < nr) := by omega
   have q3'' : ¬ ((nr : Int) > 5) := by omega
   have H1 := hid h1
   clear h1 hs hll
   cases v
   ·
    have HE := hid (HD.out.trans (if_pos rfl))
    clear h2 HD
    go_enter Try.func26, Try.ntmps26
    go_wp2_with (first | (go_at_call 70; with_reducible refine (H1.out _ (Ev.alloc (Ev.refl _) _)).mono ?_; rintro e w1 ⟨rfl, hb1⟩; have hG : Ev w w1 := Ev.trans (Ev.alloc (Ev.refl _) _) hb1; have HB := hid (hb1.heap (alloc1 w (.cells #[.int .i64 f.last, .int .i64 f.size, .int .i64 f.cool, .int .i64 f.die, .int .i64 f.burn, .int .i64 f.st.lo, .int .i64 f.st.hi, .slice Aw nw cw, .slice At nt ct, .slice Ar nr cr] 40)).1); obtain ⟨y0, y1, y2, y3, y4, y5, y6, y7, y8, y9⟩ := cells10 HB.out))
    go_ret
    exact ⟨by rw [HE.out]; rfl, hG⟩
   ·
    have HE := hid (HD.out.trans (if_neg (by decide)))
    have H2 := hid (h2 rfl)
    clear h2 HD
    cases t
    all_goals (
     go_enter Try.func26, Try.ntmps26
     go_wp2_with (first | (go_at_call 70; with_reducible refine (H1.out _ (Ev.alloc (Ev.refl _) _)).mono ?_; rintro e w1 ⟨rfl, hb1⟩; have hG : Ev w w1 := Ev.trans (Ev.alloc (Ev.refl _) _) hb1; have HB := hid (hb1.heap (alloc1 w (.cells #[.int .i64 f.last, .int .i64 f.size, .int .i64 f.cool, .int .i64 f.die, .int .i64 f.burn, .int .i64 f.st.lo, .int .i64 f.st.hi, .slice Aw nw cw, .slice At nt ct, .slice Ar nr cr] 40)).1); obtain ⟨y0, y1, y2, y3, y4, y5, y6, y7, y8, y9⟩ := cells10 HB.out) | (go_at_call 71; with_reducible refine (H2.out _ hG).mono ?_; rintro e w2 ⟨rfl, hb2⟩; replace hG := hG.trans hb2; replace HB := hid (hb2.heap HB.out); clear y0 y1 y2 y3 y4 y5 y6 y7 y8 y9; obtain ⟨y0, y1, y2, y3, y4, y5, y6, y7, y8, y9⟩ := cells10 HB.out))
     go_ret
     exact ⟨by rw [HE.out]; rfl, hG⟩)

end Go.Proofs.Ytgimcephbeajlaa
