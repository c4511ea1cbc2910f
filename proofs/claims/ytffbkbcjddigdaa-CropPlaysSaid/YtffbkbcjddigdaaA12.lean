import Derived.Test.YtffbkbcjddigdaaA11
import Derived.Lib.AppendZerosOnto
import Derived.Lib.SliceRun
set_option linter.unusedSimpArgs false
set_option linter.unusedVariables false
namespace Go.Proofs.Ytffbkbcjddigdaa
open Go.RowKit

set_option maxRecDepth 100000 in
set_option maxHeartbeats 1000000 in
theorem grow_c (n : Nat) (hn : n ≤ 100000) (w : World) :
    Calls Try.prog 107 #[.slice none 0 0, .int .i64 n] w fun e w' => (∃ B d, e = .returned (.slice B 0 d) ∧ w'.ownsRow w.heap.size 3 1 (.slice B 0 d) 0 []) ∧ Ev w w' := by
  rcases Nat.eq_zero_or_pos n with h0 | h0
  · subst h0
    go_enter Try.func107, Try.ntmps107
    go_wp2
    go_ret
    exact ⟨⟨none, 0, rfl, World.ownsRow_nil _ _ _ _⟩, Ev.refl _⟩
  · obtain ⟨i0, hi0, hz0, hz1, hz2⟩ := info_parts info3
    have hold : (Builtin.firstCells i0.size 0 (.slice none 0 0)).run Try.prog w.drew = .ok ([] : List Value).toArray w.drew := run_firstCells_none w.drew i0.size 0 0 0
    have hrz : ∀ ty, (Builtin.append_ #[23, 3] ty #[.slice none 0 0, .int .i64 n]).run Try.prog w = _ := fun ty =>
      Lib.run_append_grow_zeros w 23 3 ty 3 i0 (.int .i64 0) .i64 .i64 Try.underlying23 Try.underlying3 hi0 hz0 none 0 0 [] hold n (by omega) (by omega) (by omega) (by omega) (by rw [hz2]; omega) (growslice_fits (by omega) (by rw [hz2]; omega))
    have hGn : 0 + n ≤ grownCap w (0 + n) 0 3 := grownCap_ge w _ _ _
    have hGm : grownCap w (0 + n) 0 3 ≤ maxLen := grownCap_le_maxLen w (0 + n) 0 3 (by unfold maxLen; omega)
    generalize grownCap w (0 + n) 0 3 = G at hrz hGn hGm
    rw [Nat.zero_add] at hGn hrz
    have hG63 : G ≤ 9223372036854775807 := by unfold maxLen at hGm; omega
    have HGM := hid hGm
    have HSZ := hid (show (([] : List Value).toArray ++ Builtin.zeroCells (Value.int .i64 0).cells n ++ Builtin.zeroCells (Value.int .i64 0).cells (G - n)).size = G * 1 by
      simp [Builtin.zeroCells, Value.cells]; omega)
    generalize ([] : List Value).toArray ++ Builtin.zeroCells (Value.int .i64 0).cells n ++ Builtin.zeroCells (Value.int .i64 0).cells (G - n) = Z at hrz HSZ
    have n1 : ¬ ((n : Int) < 0) := by omega
    have n2 : (n : Int) > 0 := by omega
    clear hGm
    go_enter Try.func107, Try.ntmps107
    go_wp2_with (at_builtin; refine Lib.wpList_append_run _ rfl _ _ _ _ rfl _ _ rfl rfl _ _ (hrz _) ?_)
    go_ret
    refine ⟨⟨_, _, rfl, rfl, .inr ⟨w.heap.size, G, Z, rfl, Nat.le_refl _, ?_, by omega, HGM.out, HSZ.out, by simp⟩⟩, Ev.alloc (Ev.drew (Ev.refl _)) _⟩
    exact (alloc1 w.drew _).1

set_option maxRecDepth 100000 in
set_option maxHeartbeats 2000000 in
theorem concat_c (b : Nat) (A1 A2 : Option Addr) (n1 c1 n2 c2 : Nat) (xs ys : List Int) (h1 : n1 ≤ 1000) (h2 : n2 ≤ 1000) (w : World) (ha : Sl ics 1 w w.heap.size A1 n1 c1 xs) (hb : Sl ics 1 w w.heap.size A2 n2 c2 ys)
    (x0 : w.cell? ⟨b, 0, none⟩ = some (.slice A1 n1 c1)) (x1 : w.cell? ⟨b, 1, none⟩ = some (.slice A2 n2 c2)) (hbl : b < w.heap.size) :
    Calls Try.prog 81 #[.slice (some ⟨b, 0, none⟩) 2 2] w fun e w' => (∃ B d, e = .returned (.slice B (n1 + n2) d) ∧ Sl ics 1 w' w'.heap.size B (n1 + n2) d (xs ++ ys)) ∧ Ev w w' := by
  obtain ⟨i0, hi0, hz0, hz1, hz2⟩ := info_parts info3
  have HG := hid (fun W => show Calls Try.prog 107 #[.slice none 0 0, .int .i64 ((n1 : Int) + n2)] W _ by
    have h := grow_c (n1 + n2) (by omega) W
    rw [show ((n1 + n2 : Nat) : Int) = (n1 : Int) + n2 from by omega] at h
    exact h)
  have HA := hid ha
  have HB := hid hb
  have m1 : (0 : Int) ≤ n1 := by omega
  have m2 : (0 : Int) ≤ n2 := by omega
  have m3 : ¬ ((n1 : Int) < 0) := by omega
  have m4 : ¬ ((n1 : Int) + n2 < 0) := by omega
  have g1 : (n1 : Int) ≤ 1000 := by omega
  have g2 : (n2 : Int) ≤ 1000 := by omega
  clear ha hb
  go_enter Try.func81, Try.ntmps81
  go_wp2
  refine wp_loop_rounds 3 ?_
  iterate 3 (rw [rounds_succ]; go_wp2_with (go_at_call 107; with_reducible refine (HG.out _).mono ?_; rintro e w1 ⟨⟨B, d, rfl, hown⟩, hb1⟩; have z0 := (hb1.cells.1 b 0 hbl).trans x0; have X1 := hid x1; have HO := hid hown; clear hown x0 x1))
  refine wp_loop_rounds 3 ?_
  rw [rounds_succ]
  go_wp2_with ((at_builtin; refine append_any (enc := ics) rfl (.tmp 31) (.tmp 32) 23 rfl w.heap.size 3 i0 _ 1 8 Try.underlying23 hi0 hz0 hz1 hz2 rfl (by decide) _ 0 [] rfl HO.out A1 n1 c1 xs _ rfl (HA.out.ev hb1) (ics_len _) (ics_one _) (by unfold maxLen; omega) (by omega) (by first | exact Nat.le_refl _ | exact hb1.size | exact hE2.size) ?_; intro v' w2 hown' hgrow; have hown2 : w2.ownsRow w.heap.size 3 1 v' n1 (xs.flatMap ics) := (by simpa using hown'); have hE2 : Ev w w2 := Ev.grown hb1 hgrow (fun k e => (HO.out.lt k e).1); obtain ⟨V, cc, rfl⟩ := own_form hown2; have HO2 := hid hown2; have z1 := (hE2.cells.1 b 1 hbl).trans X1.out; clear hown' hown2 hgrow z0))
  rw [rounds_succ]
  go_wp2_with ((at_builtin; refine append_any (enc := ics) rfl (.tmp 31) (.tmp 32) 23 rfl w.heap.size 3 i0 _ 1 8 Try.underlying23 hi0 hz0 hz1 hz2 rfl (by decide) _ n1 xs rfl HO2.out A2 n2 c2 ys _ rfl (HB.out.ev hE2) (ics_len _) (ics_one _) (by unfold maxLen; omega) (by omega) (by first | exact Nat.le_refl _ | exact hb1.size | exact hE2.size) ?_; intro v' w3 hown' hgrow; have hE3 : Ev w w3 := Ev.grown hE2 hgrow (fun k e => (HO2.out.lt k e).1); obtain ⟨V3, cc3, rfl⟩ := own_form hown'; have HO3 := hid hown'; clear hown' hgrow z1))
  rw [rounds_succ]
  go_wp2
  go_ret
  exact ⟨⟨V3, cc3, rfl, sl_own (by decide) (ics_len _) (by omega) HO3.out⟩, hE3⟩

/-- A truth. -/
structure M.Tr where
  gr : List Int
  wet : List Int
deriving DecidableEq
/-- Numbers are in ranges, one in each. -/
def M.inAll : List Int → List M.Rg → Bool
  | [], [] => true
  | x :: xs, r :: rs => M.holds r x && M.inAll xs rs
  | _, _ => false
def M.listed (f : M.Cf) (t : M.Tr) : Bool := decide (t.gr.length = f.gr.length) && (decide (t.wet.length = f.wet.length) && M.inAll (t.gr ++ t.wet) (M.ranges f))

end Go.Proofs.Ytffbkbcjddigdaa
