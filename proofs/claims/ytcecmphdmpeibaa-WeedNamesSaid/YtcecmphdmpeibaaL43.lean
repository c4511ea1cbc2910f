import Derived.Test.YtcecmphdmpeibaaU6
import Derived.Test.YtcecmphdmpeibaaL29
set_option linter.unusedSimpArgs false
set_option linter.unusedVariables false
namespace Go.Proofs.Ytcecmphdmpeibaa
open Go.RowKit

set_option maxRecDepth 100000 in
set_option maxHeartbeats 1000000 in
theorem four_o (A : Option Addr) (m c : Nat) (ms : List M.Tl) (w : World) (hs : Sl tcs 5 w w.heap.size A m c ms) (hm : m ≤ 10) (hnil : A = none → c = 0) :
    Calls Try.prog 48 #[.slice A m c] w fun e w' => (∃ B d, e = .returned (fv (M.four ms) (.slice B (2 + m) d)) ∧ Sl tcs 5 w' w'.heap.size B (2 + m) d (M.four ms).ts ∧ w'.ownsRow (w.heap.size + 1) 73 5 (.slice B (2 + m) d) (2 + m) ((M.four ms).ts.flatMap tcs)) ∧ Ev w w' := by
  obtain ⟨i0, hi, hz0, hz1, hz2⟩ := info_parts info73
  have HS := hid hs
  clear hs
  unfold fv
  have hQ := (alloc1 w (.cells #[.int .i64 0, .int .i64 0, .int .i64 0, .int .i64 0, .slice none 0 0] 36)).1
  have HQ := hid hQ
  clear hQ
  have hzs : (Value.agg #[.int .i64 0, .int .i64 0, .int .i64 0, .int .i64 0, .int .i64 0]).cells.size = 5 := rfl
  go_enter Try.func48, Try.ntmps48
  go_wp2_with (first | (go_at_call 49; ((with_reducible refine (between_c 2 3 _).mono ?_); rintro e w1 ⟨rfl, hb1⟩)) | (go_at_call 49; ((with_reducible refine (between_c 1 2 _).mono ?_); rintro e w2 ⟨rfl, hb2⟩; have hz3 := (hb1.trans hb2).size; simp at hz3)) | (at_builtin; refine append_sl (enc := tcs) rfl (.tmp 7) (.tmp 8) 34 rfl (w.heap.size + 1) 73 i0 _ 5 40 Try.underlying34 hi hz0 hz1 hz2 hzs (by decide) _ 2 M.four2 rfl (World.ownsRow_lit w2 _ 2 hz3 (by decide) rfl) A m c ms _ rfl (HS.out.ev ((Ev.trans (Ev.trans (Ev.alloc (Ev.refl _) _) hb1) hb2).alloc _)) (tcs_len _) (tcs_one _) hnil (by unfold maxLen; omega) (by omega) (by simp; omega) ?_; intro v' w3 hown' hgrow; obtain ⟨B, d, rfl, hsl⟩ := Sl.of_own (enc := tcs) (sz := 5) (by decide) (tcs_len _) (by omega) hown'; have hq3 := (hgrow.block w.heap.size (by simp; omega) (fun e => by have e2 : some w.heap.size = some w2.heap.size := e; simp at e2; omega)).trans (((Ev.trans (Ev.trans (Ev.refl _) hb1) hb2).alloc _).heap HQ.out); obtain ⟨g0, g1, g2, g3, g4⟩ := cells5 hq3; obtain ⟨f0, f1, f2, f3, f4⟩ := frz5 hq3; have HQ3 := hid hq3; clear hq3))
  have hE3 : Ev w w3 := Ev.grown ((Ev.trans (Ev.trans (Ev.alloc (Ev.refl _) _) hb1) hb2).alloc _) hgrow (fun k e => by have e2 : some w2.heap.size = some k := e; simp at e2; omega)
  have hF := set5 HQ3.out (v0 := .int .i64 4) (v1 := .int .i64 2) (v2 := .int .i64 0) (v3 := .int .i64 0) (v4 := .slice B (2 + m) d)
  obtain ⟨x0, x1, x2, x3, x4⟩ := cells5 hF
  have hown5 := ownsRow_setCell_below (ownsRow_setCell_below (ownsRow_setCell_below (ownsRow_setCell_below (ownsRow_setCell_below hown' (a := ⟨w.heap.size, 0, none⟩) (by simp) (.int .i64 4)) (a := ⟨w.heap.size, 1, none⟩) (by simp) (.int .i64 2)) (a := ⟨w.heap.size, 2, none⟩) (by simp) (.int .i64 0)) (a := ⟨w.heap.size, 3, none⟩) (by simp) (.int .i64 0)) (a := ⟨w.heap.size, 4, none⟩) (by simp) (.slice B (2 + m) d)
  obtain ⟨B', d', hv', hsl5⟩ := Sl.of_own (enc := tcs) (sz := 5) (by decide) (tcs_len _) (by omega) hown5
  obtain ⟨rfl, rfl⟩ : B = B' ∧ d = d' := by simpa using hv'
  have hE5 := Ev.setCell (Ev.setCell (Ev.setCell (Ev.setCell (Ev.setCell hE3 (p := ⟨w.heap.size, 0, none⟩) (Nat.le_refl _) (.int .i64 4)) (p := ⟨w.heap.size, 1, none⟩) (Nat.le_refl _) (.int .i64 2)) (p := ⟨w.heap.size, 2, none⟩) (Nat.le_refl _) (.int .i64 0)) (p := ⟨w.heap.size, 3, none⟩) (Nat.le_refl _) (.int .i64 0)) (p := ⟨w.heap.size, 4, none⟩) (Nat.le_refl _) (.slice B (2 + m) d)
  clear hF hv' hown' hsl g0 g1 g2 g3 g4 f0 f1 f2 f3 f4
  refine bodyPost_ret (v := .agg #[.int .i64 4, .int .i64 2, .int .i64 0, .int .i64 0, .slice B (2 + m) d]) (by simp [results, Try.results48, go_sem, x0, x1, x2, x3, x4]) rfl ⟨⟨B, d, rfl, ?_, ?_⟩, ?_⟩
  · exact hsl5
  · exact hown5
  · exact hE5


/-- Tallies whose cells a block holds. -/
theorem sl_cur {W : World} {b d n : Nat} {cur : Array Value} {xs : List M.Tl} (hd : n ≤ d) (hn : n ≤ 100) (hg : W.heap[b]? = some (.cells cur 73 (0, 0))) (ht : cur.toList.take (n * 5) = xs.flatMap tcs) (hx : xs.length = n) : Sl tcs 5 W W.heap.size (some ⟨b, 0, none⟩) n d xs := by
  refine ⟨hx, hd, by omega, fun _ => ⟨b, 0, rfl, heap_lt hg, fun k x hk j v hj => ?_⟩⟩
  have h := flat_get tcs 5 xs (tcs_len _) k x hk j v hj
  rw [← ht, List.getElem?_take] at h
  split at h
  · rw [Nat.zero_add, cell_in hg, ← Array.getElem?_toList]; exact h
  · cases h

theorem four_f (w : World) : Calls Try.prog 48 #[.slice none 0 0] w fun e w' => (∃ b d cur, e = .returned (.agg #[.int .i64 4, .int .i64 2, .int .i64 0, .int .i64 0, .slice (some ⟨b, 0, none⟩) 2 d]) ∧ w.heap.size < b ∧ 2 ≤ d ∧ w'.heap[b]? = some (.cells cur 73 (0, 0)) ∧ cur.toList.take 10 = M.four2.flatMap tcs) ∧ Ev w w' := by
  refine (four_o none 0 0 [] w ⟨rfl, Nat.le_refl _, by omega, fun h => by omega⟩ (by omega) (fun _ => rfl)).mono ?_
  rintro e w' ⟨⟨B, d, he, hsl, hown⟩, hb⟩
  rcases hown.2 with ⟨h2, _⟩ | ⟨g, cap, cur, h2, hg1, hg, hn, _, _, ht⟩
  · cases h2
  · obtain ⟨rfl, rfl⟩ : B = some ⟨g, 0, none⟩ ∧ d = cap := by simpa using h2
    exact ⟨⟨g, d, cur, he, by omega, by simpa using hn, hg, by simpa [M.four, M.four2] using ht⟩, hb⟩

theorem nm_who (A : Option Addr) (c : Nat) (W : World) (hs : Sl tcs 5 W W.heap.size A 2 c M.four2) : Calls Try.prog 32 #[.agg #[.int .i64 4, .int .i64 2, .int .i64 0, .int .i64 1, .slice A 2 c], .int .i64 3] W fun e w' => (∃ B d, e = .returned (.tuple #[.slice B 3 d, .int .i64 0]) ∧ Sl ics 1 w' w'.heap.size B 3 d [-1, 0, 1]) ∧ Ev W w' := by
  have h := Who_c ⟨4, 2, ⟨0, 1⟩, M.four2⟩ 3 A 2 c W hs
  simp only [show M.begin ⟨4, 2, ⟨0, 1⟩, M.four2⟩ (M.hasRow ⟨4, 2, ⟨0, 1⟩, M.four2⟩ 3) = 0 from by decide +kernel, show M.who ⟨4, 2, ⟨0, 1⟩, M.four2⟩ 3 (M.truths ⟨4, 2, ⟨0, 1⟩, M.four2⟩) = [-1, 0, 1] from by decide +kernel, ↓reduceIte] at h
  exact h
theorem nm_ask (A : Option Addr) (c : Nat) (W : World) (hs : Sl tcs 5 W W.heap.size A 2 c (M.four []).ts) : Calls Try.prog 36 #[.agg #[.int .i64 4, .int .i64 2, .int .i64 0, .int .i64 0, .slice A 2 c], .int .i64 0] W fun e w' => (∃ B d, e = .returned (.tuple #[.slice B 4 d, .int .i64 0]) ∧ Sl ics 1 w' w'.heap.size B 4 d [0, 1, 2, 3]) ∧ Ev W w' := by
  have h := Ask_c (M.four []) 0 A 2 c W hs
  simp only [show M.begin (M.four []) (M.hasWd (M.four []) 0) = 0 from by decide +kernel, show M.askBest (M.four []) 0 = [0, 1, 2, 3] from by decide +kernel, ↓reduceIte] at h
  exact h
theorem nm_next (A : Option Addr) (c : Nat) (W : World) (hs : Sl tcs 5 W W.heap.size A 3 c (M.four [M.two]).ts) : Calls Try.prog 41 #[.agg #[.int .i64 4, .int .i64 2, .int .i64 0, .int .i64 0, .slice A 3 c], .int .i64 0] W fun e w' => e = .returned (.tuple #[.int .i64 2, .int .i64 2, .int .i64 0]) ∧ Ev W w' := by
  have h := Next_c (M.four [M.two]) 0 A 3 c W hs
  simp only [show M.begin (M.four [M.two]) (M.hasWd (M.four [M.two]) 0) = 0 from by decide +kernel, show M.Next (M.four [M.two]) 0 = (2, 2) from by decide +kernel, ↓reduceIte] at h
  exact h
theorem nm_leave (A : Option Addr) (c : Nat) (W : World) (hs : Sl tcs 5 W W.heap.size A 2 c (M.four []).ts) : Calls Try.prog 44 #[.agg #[.int .i64 4, .int .i64 2, .int .i64 0, .int .i64 0, .slice A 2 c]] W fun e w' => (∃ B d, e = .returned (.tuple #[.slice B 0 d, .int .i64 0])) ∧ Ev W w' := by
  have h := Leave_c (M.four []) A 2 c W hs
  simp only [show M.check (M.four []) = 0 from by decide +kernel, show M.leaveBest (M.four []) = [] from by decide +kernel, ↓reduceIte] at h
  exact h.mono (fun e w' ⟨⟨B, d, h1, _⟩, h2⟩ => ⟨⟨B, d, h1⟩, h2⟩)
theorem nm_known (W : World) : Calls Try.prog 41 #[.agg #[.int .i64 3, .int .i64 1, .int .i64 0, .int .i64 0, .slice none 0 0], .int .i64 0] W fun e w' => e = .returned (.tuple #[.int .i64 (-1), .int .i64 0, .int .i64 0]) ∧ Ev W w' := by
  have h := Next_c ⟨3, 1, ⟨0, 0⟩, []⟩ 0 none 0 0 W ⟨rfl, Nat.le_refl _, by omega, fun h => by omega⟩
  simp only [show M.begin ⟨3, 1, ⟨0, 0⟩, []⟩ (M.hasWd ⟨3, 1, ⟨0, 0⟩, []⟩ 0) = 0 from by decide +kernel, show M.Next ⟨3, 1, ⟨0, 0⟩, []⟩ 0 = (-1, 0) from by decide +kernel, ↓reduceIte] at h
  exact h
theorem nm_who4 (A : Option Addr) (c : Nat) (W : World) (hs : Sl tcs 5 W W.heap.size A 3 c (M.four [M.bad]).ts) : Calls Try.prog 32 #[.agg #[.int .i64 4, .int .i64 2, .int .i64 0, .int .i64 0, .slice A 3 c], .int .i64 4] W fun e w' => e = .returned (.tuple #[.slice none 0 0, .int .i64 2]) ∧ Ev W w' := by
  have h := Who_c (M.four [M.bad]) 4 A 3 c W hs
  simp only [show M.begin (M.four [M.bad]) (M.hasRow (M.four [M.bad]) 4) = 2 from by decide +kernel, show ¬ (2 : Int) = 0 from by decide, ↓reduceIte] at h
  exact h
theorem nm_who0 (A : Option Addr) (c : Nat) (W : World) (hs : Sl tcs 5 W W.heap.size A 3 c (M.four [M.bad]).ts) : Calls Try.prog 32 #[.agg #[.int .i64 4, .int .i64 2, .int .i64 0, .int .i64 0, .slice A 3 c], .int .i64 0] W fun e w' => e = .returned (.tuple #[.slice none 0 0, .int .i64 11]) ∧ Ev W w' := by
  have h := Who_c (M.four [M.bad]) 0 A 3 c W hs
  simp only [show M.begin (M.four [M.bad]) (M.hasRow (M.four [M.bad]) 0) = 11 from by decide +kernel, show ¬ (11 : Int) = 0 from by decide, ↓reduceIte] at h
  exact h
theorem nm_ask2 (A : Option Addr) (c : Nat) (W : World) (hs : Sl tcs 5 W W.heap.size A 2 c (M.four []).ts) : Calls Try.prog 36 #[.agg #[.int .i64 4, .int .i64 2, .int .i64 0, .int .i64 0, .slice A 2 c], .int .i64 2] W fun e w' => e = .returned (.tuple #[.slice none 0 0, .int .i64 2]) ∧ Ev W w' := by
  have h := Ask_c (M.four []) 2 A 2 c W hs
  simp only [show M.begin (M.four []) (M.hasWd (M.four []) 2) = 2 from by decide +kernel, show ¬ (2 : Int) = 0 from by decide, ↓reduceIte] at h
  exact h
theorem nm_next1 (A : Option Addr) (c : Nat) (W : World) (hs : Sl tcs 5 W W.heap.size A 2 c (M.four []).ts) : Calls Try.prog 41 #[.agg #[.int .i64 4, .int .i64 2, .int .i64 0, .int .i64 0, .slice A 2 c], .int .i64 (-1)] W fun e w' => e = .returned (.tuple #[.int .i64 0, .int .i64 0, .int .i64 2]) ∧ Ev W w' := by
  have h := Next_c (M.four []) (-1) A 2 c W hs
  simp only [show M.begin (M.four []) (M.hasWd (M.four []) (-1)) = 2 from by decide +kernel, show ¬ (2 : Int) = 0 from by decide, ↓reduceIte] at h
  exact h
theorem nm_first (A : Option Addr) (c : Nat) (W : World) (hs : Sl tcs 5 W W.heap.size A 2 c (M.four []).ts) : Calls Try.prog 43 #[.agg #[.int .i64 4, .int .i64 2, .int .i64 0, .int .i64 0, .slice A 2 c]] W fun e w' => e = .returned (.tuple #[.int .i64 0, .int .i64 7]) ∧ Ev W w' := by
  have h := First_c (M.four []) A 2 c W hs
  rw [show M.First (M.four []) = (0, 7) from by decide +kernel] at h
  exact h
theorem nm_done (A : Option Addr) (c : Nat) (W : World) (hs : Sl tcs 5 W W.heap.size A 3 c (M.four [M.bad]).ts) : Calls Try.prog 28 #[.agg #[.int .i64 4, .int .i64 2, .int .i64 0, .int .i64 0, .slice A 3 c]] W fun e w' => e = .returned (.tuple #[.slice none 0 0, .int .i64 11]) ∧ Ev W w' := by
  have h := Done_c (M.four [M.bad]) A 3 c W hs
  simp only [show M.begin (M.four [M.bad]) true = 11 from by decide +kernel, show ¬ (11 : Int) = 0 from by decide, ↓reduceIte] at h
  exact h

theorem same3_c (B : Option Addr) (d : Nat) (W0 W : World) (hs : Sl ics 1 W0 W0.heap.size B 3 d [-1, 0, 1]) (hE : Ev W0 W) :
    Calls Try.prog 34 #[.slice B 3 d, .slice (some ⟨W.heap.size, 0, none⟩) 3 3] (W.alloc (.cells #[.int .i64 (-1), .int .i64 0, .int .i64 1] 3)) fun e w' => e = .returned (.bool true) ∧ Ev W w' := by
  refine Calls.mono (same_c B _ 3 d 3 3 [-1, 0, 1] [-1, 0, 1] _ (hs.ev (hE.alloc _)) (sl_lit W 3 [-1, 0, 1] 3 _ rfl (by omega) (fun _ _ => rfl) rfl)) ?_
  rintro e w' ⟨rfl, h⟩
  exact ⟨by simp, Ev.trans (Ev.alloc (Ev.refl _) _) h⟩
theorem same4_c (B : Option Addr) (d : Nat) (W0 W : World) (hs : Sl ics 1 W0 W0.heap.size B 4 d [0, 1, 2, 3]) (hE : Ev W0 W) :
    Calls Try.prog 34 #[.slice B 4 d, .slice (some ⟨W.heap.size, 0, none⟩) 4 4] (W.alloc (.cells #[.int .i64 0, .int .i64 1, .int .i64 2, .int .i64 3] 3)) fun e w' => e = .returned (.bool true) ∧ Ev W w' := by
  refine Calls.mono (same_c B _ 4 d 4 4 [0, 1, 2, 3] [0, 1, 2, 3] _ (hs.ev (hE.alloc _)) (sl_lit W 3 [0, 1, 2, 3] 4 _ rfl (by omega) (fun _ _ => rfl) rfl)) ?_
  rintro e w' ⟨rfl, h⟩
  exact ⟨by simp, Ev.trans (Ev.alloc (Ev.refl _) _) h⟩
theorem nm_pt0 (A : Option Addr) (c : Nat) (W : World) (hs : Sl tcs 5 W W.heap.size A 2 c (M.four []).ts) :
    Calls Try.prog 25 #[.agg #[.int .i64 4, .int .i64 2, .int .i64 0, .int .i64 0, .slice A 2 c], .slice (some ⟨W.heap.size, 0, none⟩) 4 4] (W.alloc (.cells #[.int .i64 0, .int .i64 0, .int .i64 1, .int .i64 0] 3)) fun e w' => e = .returned (.bool true) ∧ Ev W w' := by
  have h := ProveTruth_c (M.four []) [0, 0, 1, 0] (some ⟨W.heap.size, 0, none⟩) 4 4 A 2 c (W.alloc (.cells #[.int .i64 0, .int .i64 0, .int .i64 1, .int .i64 0] 3)) (hs.ev (Ev.alloc (Ev.refl _) _)) (sl_lit W 3 [0, 0, 1, 0] 4 _ rfl (by omega) (fun _ _ => rfl) rfl)
  rw [show M.proveTruth (M.four []) [0, 0, 1, 0] = true from by decide +kernel] at h
  exact h.mono (fun e w' h => ⟨h.1, Ev.trans (Ev.alloc (Ev.refl _) _) h.2⟩)
theorem nm_pt1 (A : Option Addr) (c : Nat) (W : World) (hs : Sl tcs 5 W W.heap.size A 2 c (M.four []).ts) :
    Calls Try.prog 25 #[.agg #[.int .i64 4, .int .i64 2, .int .i64 0, .int .i64 0, .slice A 2 c], .slice (some ⟨W.heap.size, 0, none⟩) 4 4] (W.alloc (.cells #[.int .i64 0, .int .i64 0, .int .i64 0, .int .i64 0] 3)) fun e w' => e = .returned (.bool false) ∧ Ev W w' := by
  have h := ProveTruth_c (M.four []) [0, 0, 0, 0] (some ⟨W.heap.size, 0, none⟩) 4 4 A 2 c (W.alloc (.cells #[.int .i64 0, .int .i64 0, .int .i64 0, .int .i64 0] 3)) (hs.ev (Ev.alloc (Ev.refl _) _)) (sl_lit W 3 [0, 0, 0, 0] 4 _ rfl (by omega) (fun _ _ => rfl) rfl)
  rw [show M.proveTruth (M.four []) [0, 0, 0, 0] = false from by decide +kernel] at h
  exact h.mono (fun e w' h => ⟨h.1, Ev.trans (Ev.alloc (Ev.refl _) _) h.2⟩)
theorem nm_pt2 (A : Option Addr) (c : Nat) (W : World) (hs : Sl tcs 5 W W.heap.size A 2 c (M.four []).ts) :
    Calls Try.prog 25 #[.agg #[.int .i64 4, .int .i64 2, .int .i64 0, .int .i64 0, .slice A 2 c], .slice (some ⟨W.heap.size, 0, none⟩) 4 4] (W.alloc (.cells #[.int .i64 0, .int .i64 0, .int .i64 0, .int .i64 (-1)] 3)) fun e w' => e = .returned (.bool false) ∧ Ev W w' := by
  have h := ProveTruth_c (M.four []) [0, 0, 0, -1] (some ⟨W.heap.size, 0, none⟩) 4 4 A 2 c (W.alloc (.cells #[.int .i64 0, .int .i64 0, .int .i64 0, .int .i64 (-1)] 3)) (hs.ev (Ev.alloc (Ev.refl _) _)) (sl_lit W 3 [0, 0, 0, -1] 4 _ rfl (by omega) (fun _ _ => rfl) rfl)
  rw [show M.proveTruth (M.four []) [0, 0, 0, -1] = false from by decide +kernel] at h
  exact h.mono (fun e w' h => ⟨h.1, Ev.trans (Ev.alloc (Ev.refl _) _) h.2⟩)
theorem nm_pt3 (A : Option Addr) (c : Nat) (W : World) (hs : Sl tcs 5 W W.heap.size A 2 c (M.four []).ts) :
    Calls Try.prog 25 #[.agg #[.int .i64 4, .int .i64 2, .int .i64 0, .int .i64 0, .slice A 2 c], .slice (some ⟨W.heap.size, 0, none⟩) 3 3] (W.alloc (.cells #[.int .i64 0, .int .i64 0, .int .i64 0] 3)) fun e w' => e = .returned (.bool false) ∧ Ev W w' := by
  have h := ProveTruth_c (M.four []) [0, 0, 0] (some ⟨W.heap.size, 0, none⟩) 3 3 A 2 c (W.alloc (.cells #[.int .i64 0, .int .i64 0, .int .i64 0] 3)) (hs.ev (Ev.alloc (Ev.refl _) _)) (sl_lit W 3 [0, 0, 0] 3 _ rfl (by omega) (fun _ _ => rfl) rfl)
  rw [show M.proveTruth (M.four []) [0, 0, 0] = false from by decide +kernel] at h
  exact h.mono (fun e w' h => ⟨h.1, Ev.trans (Ev.alloc (Ev.refl _) _) h.2⟩)
theorem nm_pa0 (A : Option Addr) (c : Nat) (W : World) (hs : Sl tcs 5 W W.heap.size A 3 c (M.four [M.two]).ts) :
    Calls Try.prog 37 #[.agg #[.int .i64 4, .int .i64 2, .int .i64 0, .int .i64 0, .slice A 3 c], .int .i64 0, .slice (some ⟨W.heap.size, 0, none⟩) 2 2] (W.alloc (.cells #[.int .i64 2, .int .i64 3] 3)) fun e w' => e = .returned (.bool true) ∧ Ev W w' := by
  have h := ProveAsk_c (M.four [M.two]) 0 [2, 3] (some ⟨W.heap.size, 0, none⟩) 2 2 A 3 c (W.alloc (.cells #[.int .i64 2, .int .i64 3] 3)) (hs.ev (Ev.alloc (Ev.refl _) _)) (sl_lit W 3 [2, 3] 2 _ rfl (by omega) (fun _ _ => rfl) rfl)
  rw [show M.proveAsk (M.four [M.two]) 0 [2, 3] = true from by decide +kernel] at h
  exact h.mono (fun e w' h => ⟨h.1, Ev.trans (Ev.alloc (Ev.refl _) _) h.2⟩)
theorem nm_pa1 (A : Option Addr) (c : Nat) (W : World) (hs : Sl tcs 5 W W.heap.size A 3 c (M.four [M.two]).ts) :
    Calls Try.prog 37 #[.agg #[.int .i64 4, .int .i64 2, .int .i64 0, .int .i64 0, .slice A 3 c], .int .i64 0, .slice (some ⟨W.heap.size, 0, none⟩) 1 1] (W.alloc (.cells #[.int .i64 2] 3)) fun e w' => e = .returned (.bool false) ∧ Ev W w' := by
  have h := ProveAsk_c (M.four [M.two]) 0 [2] (some ⟨W.heap.size, 0, none⟩) 1 1 A 3 c (W.alloc (.cells #[.int .i64 2] 3)) (hs.ev (Ev.alloc (Ev.refl _) _)) (sl_lit W 3 [2] 1 _ rfl (by omega) (fun _ _ => rfl) rfl)
  rw [show M.proveAsk (M.four [M.two]) 0 [2] = false from by decide +kernel] at h
  exact h.mono (fun e w' h => ⟨h.1, Ev.trans (Ev.alloc (Ev.refl _) _) h.2⟩)
theorem nm_pa2 (A : Option Addr) (c : Nat) (W : World) (hs : Sl tcs 5 W W.heap.size A 3 c (M.four [M.two]).ts) :
    Calls Try.prog 37 #[.agg #[.int .i64 4, .int .i64 2, .int .i64 0, .int .i64 0, .slice A 3 c], .int .i64 0, .slice (some ⟨W.heap.size, 0, none⟩) 2 2] (W.alloc (.cells #[.int .i64 3, .int .i64 2] 3)) fun e w' => e = .returned (.bool false) ∧ Ev W w' := by
  have h := ProveAsk_c (M.four [M.two]) 0 [3, 2] (some ⟨W.heap.size, 0, none⟩) 2 2 A 3 c (W.alloc (.cells #[.int .i64 3, .int .i64 2] 3)) (hs.ev (Ev.alloc (Ev.refl _) _)) (sl_lit W 3 [3, 2] 2 _ rfl (by omega) (fun _ _ => rfl) rfl)
  rw [show M.proveAsk (M.four [M.two]) 0 [3, 2] = false from by decide +kernel] at h
  exact h.mono (fun e w' h => ⟨h.1, Ev.trans (Ev.alloc (Ev.refl _) _) h.2⟩)
theorem nm_pa3 (A : Option Addr) (c : Nat) (W : World) (hs : Sl tcs 5 W W.heap.size A 3 c (M.four [M.two]).ts) :
    Calls Try.prog 37 #[.agg #[.int .i64 4, .int .i64 2, .int .i64 0, .int .i64 0, .slice A 3 c], .int .i64 2, .slice none 0 0] W fun e w' => e = .returned (.bool false) ∧ Ev W w' := by
  have h := ProveAsk_c (M.four [M.two]) 2 [] none 0 0 A 3 c W hs ⟨rfl, Nat.le_refl _, by omega, fun h => by omega⟩
  rw [show M.proveAsk (M.four [M.two]) 2 [] = false from by decide +kernel] at h
  exact h
theorem nm_pa4 (A : Option Addr) (c : Nat) (W : World) (hs : Sl tcs 5 W W.heap.size A 3 c (M.four [M.bad]).ts) :
    Calls Try.prog 37 #[.agg #[.int .i64 4, .int .i64 2, .int .i64 0, .int .i64 0, .slice A 3 c], .int .i64 0, .slice none 0 0] W fun e w' => e = .returned (.bool false) ∧ Ev W w' := by
  have h := ProveAsk_c (M.four [M.bad]) 0 [] none 0 0 A 3 c W hs ⟨rfl, Nat.le_refl _, by omega, fun h => by omega⟩
  rw [show M.proveAsk (M.four [M.bad]) 0 [] = false from by decide +kernel] at h
  exact h
theorem nm_ck_rows (A : Option Addr) (c : Nat) (W : World) (hs : Sl tcs 5 W W.heap.size A 2 c M.four2) :
    Calls Try.prog 23 #[.agg #[.int .i64 8, .int .i64 2, .int .i64 0, .int .i64 0, .slice A 2 c]] W fun e w' => e = .returned (.int .i64 3) ∧ Ev W w' := by
  have h := check_c ⟨8, 2, ⟨0, 0⟩, M.four2⟩ A 2 c W hs
  rw [show M.check ⟨8, 2, ⟨0, 0⟩, M.four2⟩ = 3 from by decide +kernel] at h
  exact h
theorem nm_ck_wds (A : Option Addr) (c : Nat) (W : World) (hs : Sl tcs 5 W W.heap.size A 2 c M.four2) :
    Calls Try.prog 23 #[.agg #[.int .i64 4, .int .i64 4, .int .i64 0, .int .i64 0, .slice A 2 c]] W fun e w' => e = .returned (.int .i64 3) ∧ Ev W w' := by
  have h := check_c ⟨4, 4, ⟨0, 0⟩, M.four2⟩ A 2 c W hs
  rw [show M.check ⟨4, 4, ⟨0, 0⟩, M.four2⟩ = 3 from by decide +kernel] at h
  exact h
theorem nm_ck_left (A : Option Addr) (c : Nat) (W : World) (hs : Sl tcs 5 W W.heap.size A 2 c M.four2) :
    Calls Try.prog 23 #[.agg #[.int .i64 4, .int .i64 2, .int .i64 0, .int .i64 5, .slice A 2 c]] W fun e w' => e = .returned (.int .i64 1) ∧ Ev W w' := by
  have h := check_c ⟨4, 2, ⟨0, 5⟩, M.four2⟩ A 2 c W hs
  rw [show M.check ⟨4, 2, ⟨0, 5⟩, M.four2⟩ = 1 from by decide +kernel] at h
  exact h
theorem nm_ck_tally (A : Option Addr) (c : Nat) (W : World) (hs : Sl tcs 5 W W.heap.size A 2 c [⟨2, 0, 2, ⟨2, 3⟩⟩, ⟨1, 2, 3, ⟨1, 2⟩⟩]) :
    Calls Try.prog 23 #[.agg #[.int .i64 4, .int .i64 2, .int .i64 0, .int .i64 0, .slice A 2 c]] W fun e w' => e = .returned (.int .i64 1) ∧ Ev W w' := by
  have h := check_c ⟨4, 2, ⟨0, 0⟩, [⟨2, 0, 2, ⟨2, 3⟩⟩, ⟨1, 2, 3, ⟨1, 2⟩⟩]⟩ A 2 c W hs
  rw [show M.check ⟨4, 2, ⟨0, 0⟩, [⟨2, 0, 2, ⟨2, 3⟩⟩, ⟨1, 2, 3, ⟨1, 2⟩⟩]⟩ = 1 from by decide +kernel] at h
  exact h
theorem nm_ck_str (A : Option Addr) (c : Nat) (W : World) (hs : Sl tcs 5 W W.heap.size A 2 c [⟨0, 3, 2, ⟨2, 3⟩⟩, ⟨1, 2, 3, ⟨1, 2⟩⟩]) :
    Calls Try.prog 23 #[.agg #[.int .i64 4, .int .i64 2, .int .i64 0, .int .i64 0, .slice A 2 c]] W fun e w' => e = .returned (.int .i64 1) ∧ Ev W w' := by
  have h := check_c ⟨4, 2, ⟨0, 0⟩, [⟨0, 3, 2, ⟨2, 3⟩⟩, ⟨1, 2, 3, ⟨1, 2⟩⟩]⟩ A 2 c W hs
  rw [show M.check ⟨4, 2, ⟨0, 0⟩, [⟨0, 3, 2, ⟨2, 3⟩⟩, ⟨1, 2, 3, ⟨1, 2⟩⟩]⟩ = 1 from by decide +kernel] at h
  exact h
theorem nm_ck_many (A : Option Addr) (c : Nat) (W : World) (hs : Sl tcs 5 W W.heap.size A 6 c (List.replicate 6 ⟨0, 0, 0, ⟨0, 0⟩⟩)) :
    Calls Try.prog 23 #[.agg #[.int .i64 4, .int .i64 2, .int .i64 0, .int .i64 0, .slice A 6 c]] W fun e w' => e = .returned (.int .i64 3) ∧ Ev W w' := by
  have h := check_c ⟨4, 2, ⟨0, 0⟩, (List.replicate 6 ⟨0, 0, 0, ⟨0, 0⟩⟩)⟩ A 6 c W hs
  rw [show M.check ⟨4, 2, ⟨0, 0⟩, (List.replicate 6 ⟨0, 0, 0, ⟨0, 0⟩⟩)⟩ = 3 from by decide +kernel] at h
  exact h
theorem nm_ck_pow (A : Option Addr) (c : Nat) (W : World) (hs : Sl tcs 5 W W.heap.size A 2 c M.four2) :
    Calls Try.prog 23 #[.agg #[.int .i64 6, .int .i64 3, .int .i64 0, .int .i64 0, .slice A 2 c]] W fun e w' => e = .returned (.int .i64 3) ∧ Ev W w' := by
  have h := check_c ⟨6, 3, ⟨0, 0⟩, M.four2⟩ A 2 c W hs
  rw [show M.check ⟨6, 3, ⟨0, 0⟩, M.four2⟩ = 3 from by decide +kernel] at h
  exact h
theorem nm_ck_tired (A : Option Addr) (c : Nat) (W : World) (hs : Sl tcs 5 W W.heap.size A 2 c M.four2) :
    Calls Try.prog 23 #[.agg #[.int .i64 0, .int .i64 2, .int .i64 0, .int .i64 0, .slice A 2 c]] W fun e w' => e = .returned (.int .i64 1) ∧ Ev W w' := by
  have h := check_c ⟨0, 2, ⟨0, 0⟩, M.four2⟩ A 2 c W hs
  rw [show M.check ⟨0, 2, ⟨0, 0⟩, M.four2⟩ = 1 from by decide +kernel] at h
  exact h

theorem make34 (wx : World) : (Instr.makeSlice 34 (.int .i64 6) (.int .i64 6)).run Try.prog wx = .ok (.slice (some ⟨wx.heap.size, 0, none⟩) 6 6) (wx.alloc (.cells (Array.replicate 30 (.int .i64 0)) 73)) := by
  obtain ⟨i0, hi, hz0, hz1, hz2⟩ := info_parts info73
  have := run_makeSlice wx 34 73 i0 _ Try.underlying34 hi hz0 .i64 .i64 6 6 (by omega) (by omega) (by rw [hz1]; omega) (by rw [hz2]; omega) (by omega)
  rw [hz1, show madeCells (Value.agg #[.int .i64 0, .int .i64 0, .int .i64 0, .int .i64 0, .int .i64 0]).cells (Int.toNat 6 * 5) = Array.replicate 30 (.int .i64 0) from by kernel_rfl] at this
  exact this
theorem alloc8 (w : World) (a b c d e f g h : Obj) {W : World} (hW : ((((((((w.alloc a).alloc b).alloc c).alloc d).alloc e).alloc f).alloc g).alloc h) = W) :
    W.heap[w.heap.size]? = some a ∧ W.heap[w.heap.size + 1]? = some b ∧ W.heap[w.heap.size + 1 + 1]? = some c ∧ W.heap[w.heap.size + 1 + 1 + 1]? = some d ∧ W.heap[w.heap.size + 1 + 1 + 1 + 1]? = some e ∧ W.heap[w.heap.size + 1 + 1 + 1 + 1 + 1]? = some f ∧ W.heap[w.heap.size + 1 + 1 + 1 + 1 + 1 + 1]? = some g ∧ W.heap[w.heap.size + 1 + 1 + 1 + 1 + 1 + 1 + 1]? = some h ∧ W.heap.size = w.heap.size + 8 ∧ Ev w W := by
  subst hW
  obtain ⟨h1, h2, h3, h4, hs⟩ := alloc4 w a b c d
  obtain ⟨g1, g2, g3, g4, gs⟩ := alloc4 ((((w.alloc a).alloc b).alloc c).alloc d) e f g h
  have old : ∀ k o, ((((w.alloc a).alloc b).alloc c).alloc d).heap[k]? = some o → ((((((((w.alloc a).alloc b).alloc c).alloc d).alloc e).alloc f).alloc g).alloc h).heap[k]? = some o := fun k o hk => heap_old h (heap_old g (heap_old f (heap_old e hk)))
  rw [hs] at g1 g2 g3 g4 gs
  refine ⟨old _ _ h1, old _ _ h2, old _ _ h3, old _ _ h4, g1, g2, g3, g4, gs, ?_⟩
  exact Ev.alloc (Ev.alloc (Ev.alloc (Ev.alloc (Ev.alloc (Ev.alloc (Ev.alloc (Ev.alloc (Ev.refl _) _) _) _) _) _) _) _) _
theorem take_get {c : Array Value} {xs : List Value} {n j : Nat} {v : Value} (ht : c.toList.take n = xs) (hj : xs[j]? = some v) : c[j]? = some v := by
  rw [← ht, List.getElem?_take] at hj
  split at hj
  · rw [← Array.getElem?_toList]; exact hj
  · cases hj
theorem set_take (c : Array Value) (n j : Nat) (v : Value) : (c.setIfInBounds j v).toList.take n = (c.toList.take n).set j v := by
  simp [List.take_set]

end Go.Proofs.Ytcecmphdmpeibaa
