import Derived.Test.YtcecmphdmpeibaaL31
set_option linter.unusedSimpArgs false
set_option linter.unusedVariables false
namespace Go.Proofs.Ytcecmphdmpeibaa
open Go.RowKit

/-- append of any list to a row of one's own. -/
theorem append_any {α : Type} {enc : α → List Value} {P : Program} {w : World} {ops : Array Oper} {rest : List Oper} {o : Oper} {a : Act} {Q : Exit → Act → World → Prop} (hgd : o.guard = none) (s x : Operand) (t : TypeId)
    (ho : o.op = .call { callee := .builtin .append, args := #[s, x], argTypes := #[t, t] })
    (base : Nat) (e : TypeId) (i : TypeInfo) (z : Value) (size bytes : Nat) (ht : P.underlying t = some (.slice e)) (hi : P.info? e = some i) (hz : i.zero = some z)
    (hsize : i.size = size) (hby : i.bytes = bytes) (hzs : z.cells.size = size) (hsz : 0 < size)
    (v : Value) (n : Nat) (xs : List α) (hs : a.eval s = v) (hown : w.ownsRow base e size v n (xs.flatMap enc))
    (A : Option Addr) (m c : Nat) (ys : List α) (B : Nat) (hx : a.eval x = .slice A m c) (hsl : Sl enc size w B A m c ys) (henc : ∀ y ∈ ys, (enc y).length = size) (h1 : ∀ u ∈ ys.flatMap enc, u.oneCell' = true)
    (h63 : n + m ≤ maxLen) (hbytes : (n + m) * bytes ≤ 140737488355328) (hbase : base ≤ w.heap.size)
    (h : ∀ v' w', w'.ownsRow base e size v' (n + m) ((xs ++ ys).flatMap enc) → w.grownBy w' v.ownBlock → wpList P ops Q rest (a.put o.dst v') w') : wpList P ops Q (o :: rest) a w := by
  cases A with
  | some ad => exact append_sl hgd s x t ho base e i z size bytes ht hi hz hsize hby hzs hsz v n xs hs hown (some ad) m c ys B hx hsl henc h1 (fun e => by cases e) h63 hbytes hbase h
  | none =>
    have hm : m = 0 := by
      rcases Nat.eq_zero_or_pos m with h | h
      · exact h
      · obtain ⟨b, off, hA, _⟩ := hsl.cells h; cases hA
    subst hm
    obtain rfl : ys = [] := List.eq_nil_of_length_eq_zero hsl.len
    refine wpList_append_none hgd s x t ho base e i size ht hi v n _ hs hown c hx (h v w ?_ ⟨rfl, rfl, rfl, Nat.le_refl _, fun _ _ _ => rfl⟩)
    simpa using hown

/-- What an answer adds to the tallies. -/
def M.ansK (who row : Int) : Nat → Nat → List M.Tl
  | _, 0 => []
  | i, j + 1 => (if (i : Int) = who then [⟨i, row, row, ⟨1, 1⟩⟩] else []) ++ ((if who < 0 then [⟨i, row, row, ⟨0, 0⟩⟩] else []) ++ M.ansK who row (i + 1) j)

set_option maxRecDepth 100000 in
set_option maxHeartbeats 4000000 in
theorem answered_c (f : M.Fl) (A : Option Addr) (n c : Nat) (hn : n ≤ 7) (row who : Int) (D : Nat) (hD : f.wds = D) (hD3 : D ≤ 3) (w : World) (hs : Sl tcs 5 w w.heap.size A n c f.ts) :
    Calls Try.prog 60 #[.agg #[.int .i64 f.rows, .int .i64 f.wds, .int .i64 f.lf.lo, .int .i64 f.lf.hi, .slice A n c], .int .i64 row, .int .i64 who] w fun e w' => (∃ B d, e = .returned (.agg #[.int .i64 f.rows, .int .i64 f.wds, .int .i64 f.lf.lo, .int .i64 f.lf.hi, .slice B (f.ts ++ M.ansK who row 0 D).length d]) ∧ Sl tcs 5 w' w'.heap.size B (f.ts ++ M.ansK who row 0 D).length d (f.ts ++ M.ansK who row 0 D)) ∧ Ev w w' := by
  obtain ⟨i0, hi0, hz0, hz1, hz2⟩ := info_parts info90
  have hln := hs.len
  have HD := hid hD
  clear hD
  generalize htot : f.ts ++ M.ansK who row 0 D = tot
  have HTOT := hid htot
  clear htot
  go_enter Try.func60, Try.ntmps60
  go_upto_region 1 with fail
  generalize hW0 : World.alloc (World.alloc w _) _ = W0
  have hE0 : Ev w W0 := by rw [← hW0]; exact Ev.alloc (Ev.alloc (Ev.refl _) _) _
  have hal := alloc2 w (.cells #[.int .i64 f.rows, .int .i64 f.wds, .int .i64 f.lf.lo, .int .i64 f.lf.hi, .slice A n c] 26) (.cells #[.int .i64 0, .int .i64 0, .int .i64 0, .int .i64 0, .slice none 0 0] 26)
  rw [hW0] at hal
  have Q0 := hid hal.1
  have Q1 := hid hal.2.1
  have HZ0 := hid hal.2.2
  clear hal hW0
  obtain ⟨q0, q1, q2, q3, q4⟩ := cells5 Q0.out
  have hlq := heap_lt Q0.out
  have hzl : w.heap.size + 2 ≤ W0.heap.size := by rw [HZ0.out]; exact Nat.le_refl _
  go_upto_region 2 with fail
  generalize hW2 : World.alloc W0 _ = W2
  have hE2 : Ev W0 W2 := by rw [← hW2]; exact Ev.alloc (Ev.refl _) _
  have hC2 : W2.heap[W0.heap.size]? = some (.cells #[.int .i64 f.rows, .int .i64 f.wds, .int .i64 f.lf.lo, .int .i64 f.lf.hi, .slice A n c] 26 (0, 0)) := by rw [← hW2]; exact (alloc1 W0 _).1
  have Q0c := hid (hE2.heap Q0.out)
  have Q1c := hid (hE2.heap Q1.out)
  have HC2 := hid hC2
  have hEw := hE0.trans hE2
  have hpw := heap_lt hC2
  clear hW2 hC2 hE2 Q0 Q1 q0 q1 q2 q3 q4
  generalize W0.heap.size = p at *
  obtain ⟨q0, q1, q2, q3, q4⟩ := cells5 Q0c.out
  obtain ⟨y0, y1, y2, y3, y4⟩ := cells5 HC2.out
  obtain ⟨f0, f1, f2, f3, f4⟩ := frz5 HC2.out
  have HS := hid hs
  have hlw : w.heap.size < W2.heap.size := by omega
  clear hs
  go_wp2_with (at_builtin; refine append_any (enc := tcs) rfl (.tmp 10) (.tmp 12) 24 rfl (p + 1) 90 i0 _ 5 40 Try.underlying24 hi0 hz0 hz1 hz2 rfl (by decide) _ 0 [] rfl (World.ownsRow_lit W2 _ 0 (by omega) (by decide) rfl) A n c f.ts _ rfl (HS.out.ev (hEw.alloc _)) (tcs_len _) (tcs_one _) (by unfold maxLen; omega) (by omega) (by simp; omega) ?_; intro v' w3 hown' hgrow; have hown2 : w3.ownsRow (p + 1) 90 5 v' n (f.ts.flatMap tcs) := (by simpa using hown'); obtain ⟨V, cc, rfl, _⟩ := Sl.of_own (enc := tcs) (sz := 5) (by decide) (tcs_len _) (by omega) hown2; have HQP := hid ((hgrow.block p (by simp; omega) (fun e => by have e2 : some W2.heap.size = some p := e.symm; simp at e2; omega)).trans ((Ev.alloc (Ev.refl W2) _).heap HC2.out)); have H0G := hid ((hgrow.block w.heap.size (by simp; omega) (fun e => by have e2 : some W2.heap.size = some w.heap.size := e.symm; simp at e2; omega)).trans ((Ev.alloc (Ev.refl W2) _).heap Q0c.out)); have H1G := hid ((hgrow.block (w.heap.size + 1) (by simp; omega) (fun e => by have e2 : some W2.heap.size = some (w.heap.size + 1) := e.symm; simp at e2; omega)).trans ((Ev.alloc (Ev.refl W2) _).heap Q1c.out)); have HE3 := hid (Ev.grown (hEw.alloc _) hgrow (fun k e => by have e2 : some W2.heap.size = some k := e; simp at e2; omega)); clear y0 y1 y2 y3 y4 f0 f1 f2 f3 f4 q0 q1 q2 q3 q4; obtain ⟨y0, y1, y2, y3, y4⟩ := cells5 HQP.out; obtain ⟨f0, f1, f2, f3, f4⟩ := frz5 HQP.out; obtain ⟨q0, q1, q2, q3, q4⟩ := cells5 H0G.out)
  clear y0 y1 y2 y3 y4 f0 f1 f2 f3 f4 q0 q1 q2 q3 q4
  go_loopw [8] (fun i wr => ∃ k : Nat, ∃ ys : List M.Tl, ∃ V : Option Addr, ∃ cc : Nat, i = .int .i64 k ∧ k ≤ D ∧ Ev w wr ∧ Hid (wr.heap[w.heap.size]? = some (.cells #[.int .i64 f.rows, .int .i64 f.wds, .int .i64 f.lf.lo, .int .i64 f.lf.hi, .slice A n c] 26 (0, 0))) ∧ Hid (wr.heap[w.heap.size + 1]? = some (.cells #[.int .i64 0, .int .i64 0, .int .i64 0, .int .i64 0, .slice none 0 0] 26 (0, 0))) ∧ Hid (wr.heap[p]? = some (.cells #[.int .i64 f.rows, .int .i64 f.wds, .int .i64 f.lf.lo, .int .i64 f.lf.hi, .slice V ys.length cc] 26 (0, 0))) ∧ wr.ownsRow (p + 1) 90 5 (.slice V ys.length cc) ys.length (ys.flatMap tcs) ∧ ys.length ≤ n + k ∧ Hid (ys ++ M.ansK who row k (D - k) = tot)) (fun i _ => D - (intOf i).toNat)
  case atStart => exact ⟨0, f.ts, V, cc, rfl, by omega, Ev.setCell HE3.out (by simp; omega) _, hid (set_heap H0G.out (by omega)), hid (set_heap H1G.out (by omega)), hid (by rw [set_heap_same HQP.out, hln]; rfl), by rw [hln]; exact ownsRow_setCell_below hown2 (by simp) _, by omega, HTOT⟩
  case round =>
    obtain ⟨k, ys, V, cc, rfl, hk, hB, hQ0, hQ1, hC, hown, hyk, hP⟩ := hrel
    obtain ⟨q0, q1, q2, q3, q4⟩ := cells5 hQ0.out
    obtain ⟨y0, y1, y2, y3, y4⟩ := cells5 hC.out
    obtain ⟨f0, f1, f2, f3, f4⟩ := frz5 hC.out
    have hlq := heap_lt hQ0.out
    have hlp := heap_lt hC.out
    by_cases hlt : k < D
    · have hltI : (k : Int) < f.wds := by have := HD.out; omega
      have hp2 := hP.out
      rw [show D - k = (D - (k + 1)) + 1 from by omega, M.ansK] at hp2
      by_cases h1 : (k : Int) = who
      · have hw0 : ¬ who < 0 := by omega
        rw [if_pos h1, if_neg hw0, List.nil_append] at hp2
        have HP2 := hid hp2
        have hbe : ((k : Int) == who) = true := by simpa using h1
        clear hp2 h1
        go_wp2_with (at_builtin; refine wpList_append_own _ rfl (.tmp 25) (.tmp 31) 24 rfl (p + 1) 90 i0 _ 5 40 Try.underlying24 hi0 hz0 hz1 hz2 rfl (by decide) _ ys.length (ys.flatMap tcs) rfl (hown.alloc _) ⟨wr.heap.size, 0, none⟩ 1 1 [.int .i64 k, .int .i64 row, .int .i64 row, .int .i64 1, .int .i64 1] rfl rfl (news_in (alloc1 wr _).1) (by simp [Value.oneCell']) (by unfold maxLen; omega) (by omega) (by simp; omega) ?_; intro v' w3 hown' hgrow _; have hown3 : w3.ownsRow (p + 1) 90 5 v' (ys ++ [(⟨k, row, row, ⟨1, 1⟩⟩ : M.Tl)]).length ((ys ++ [(⟨k, row, row, ⟨1, 1⟩⟩ : M.Tl)]).flatMap tcs) := (by rw [List.flatMap_append, List.length_append]; exact hown'); obtain ⟨V', cc', rfl, _⟩ := Sl.of_own (enc := tcs) (sz := 5) (by decide) (tcs_len _) (by simp; omega) hown3; have hltA := hown.lt; have hEA := hid (Ev.alloc (Ev.refl wr) (.cells #[.int .i64 k, .int .i64 row, .int .i64 row, .int .i64 1, .int .i64 1] 90)); have HQP := hid ((hgrow.block p (by simp; omega) (fun e => by have := (hltA p e.symm).1; omega)).trans (hEA.out.heap hC.out)); have H0G := hid ((hgrow.block w.heap.size (by simp; omega) (fun e => by have := (hltA _ e.symm).1; omega)).trans (hEA.out.heap hQ0.out)); have H1G := hid ((hgrow.block (w.heap.size + 1) (by simp; omega) (fun e => by have := (hltA _ e.symm).1; omega)).trans (hEA.out.heap hQ1.out)); have HE3 := hid (Ev.grown (hB.alloc (.cells #[.int .i64 k, .int .i64 row, .int .i64 row, .int .i64 1, .int .i64 1] 90)) hgrow (fun k e => by have := (hltA k e).1; omega)); clear y0 y1 y2 y3 y4 f0 f1 f2 f3 f4 q0 q1 q2 q3 q4 hltA; obtain ⟨y0, y1, y2, y3, y4⟩ := cells5 HQP.out; obtain ⟨f0, f1, f2, f3, f4⟩ := frz5 HQP.out; obtain ⟨q0, q1, q2, q3, q4⟩ := cells5 H0G.out)
        refine ⟨⟨k + 1, ys ++ [(⟨k, row, row, ⟨1, 1⟩⟩ : M.Tl)], V', cc', by go_num, by omega, Ev.setCell HE3.out (by simp; omega) _, hid (set_heap H0G.out (by omega)), hid (set_heap H1G.out (by omega)), hid ?_, ownsRow_setCell_below hown3 (by simp) _, by simp; omega, hid (by rw [List.append_assoc]; exact HP2.out)⟩, by simp [intOf]; omega⟩
        rw [set_heap_same HQP.out, List.length_append]
        rfl
      · have hbe : ((k : Int) == who) = false := by simpa using h1
        rw [if_neg h1, List.nil_append] at hp2
        clear h1
        by_cases hw0 : who < 0
        · rw [if_pos hw0] at hp2
          have HP2 := hid hp2
          clear hp2
          go_wp2_with (at_builtin; refine wpList_append_own _ rfl (.tmp 37) (.tmp 42) 24 rfl (p + 1) 90 i0 _ 5 40 Try.underlying24 hi0 hz0 hz1 hz2 rfl (by decide) _ ys.length (ys.flatMap tcs) rfl (hown.alloc _) ⟨wr.heap.size, 0, none⟩ 1 1 [.int .i64 k, .int .i64 row, .int .i64 row, .int .i64 0, .int .i64 0] rfl rfl (news_in (alloc1 wr _).1) (by simp [Value.oneCell']) (by unfold maxLen; omega) (by omega) (by simp; omega) ?_; intro v' w3 hown' hgrow _; have hown3 : w3.ownsRow (p + 1) 90 5 v' (ys ++ [(⟨k, row, row, ⟨0, 0⟩⟩ : M.Tl)]).length ((ys ++ [(⟨k, row, row, ⟨0, 0⟩⟩ : M.Tl)]).flatMap tcs) := (by rw [List.flatMap_append, List.length_append]; exact hown'); obtain ⟨V', cc', rfl, _⟩ := Sl.of_own (enc := tcs) (sz := 5) (by decide) (tcs_len _) (by simp; omega) hown3; have hltA := hown.lt; have hEA := hid (Ev.alloc (Ev.refl wr) (.cells #[.int .i64 k, .int .i64 row, .int .i64 row, .int .i64 0, .int .i64 0] 90)); have HQP := hid ((hgrow.block p (by simp; omega) (fun e => by have := (hltA p e.symm).1; omega)).trans (hEA.out.heap hC.out)); have H0G := hid ((hgrow.block w.heap.size (by simp; omega) (fun e => by have := (hltA _ e.symm).1; omega)).trans (hEA.out.heap hQ0.out)); have H1G := hid ((hgrow.block (w.heap.size + 1) (by simp; omega) (fun e => by have := (hltA _ e.symm).1; omega)).trans (hEA.out.heap hQ1.out)); have HE3 := hid (Ev.grown (hB.alloc (.cells #[.int .i64 k, .int .i64 row, .int .i64 row, .int .i64 0, .int .i64 0] 90)) hgrow (fun k e => by have := (hltA k e).1; omega)); clear y0 y1 y2 y3 y4 f0 f1 f2 f3 f4 q0 q1 q2 q3 q4 hltA; obtain ⟨y0, y1, y2, y3, y4⟩ := cells5 HQP.out; obtain ⟨f0, f1, f2, f3, f4⟩ := frz5 HQP.out; obtain ⟨q0, q1, q2, q3, q4⟩ := cells5 H0G.out)
          refine ⟨⟨k + 1, ys ++ [(⟨k, row, row, ⟨0, 0⟩⟩ : M.Tl)], V', cc', by go_num, by omega, Ev.setCell HE3.out (by simp; omega) _, hid (set_heap H0G.out (by omega)), hid (set_heap H1G.out (by omega)), hid ?_, ownsRow_setCell_below hown3 (by simp) _, by simp; omega, hid (by rw [List.append_assoc]; exact HP2.out)⟩, by simp [intOf]; omega⟩
          rw [set_heap_same HQP.out, List.length_append]
          rfl
        · rw [if_neg hw0, List.nil_append] at hp2
          have HP2 := hid hp2
          clear hp2 y0 y1 y2 y3 y4 f0 f1 f2 f3 f4
          go_wp2
          exact ⟨⟨k + 1, ys, V, cc, by go_num, by omega, hB, hQ0, hQ1, hC, hown, by omega, HP2⟩, by simp [intOf]; omega⟩
    · have hltI : ¬ (k : Int) < f.wds := by have := HD.out; omega
      have hp2 := hP.out
      rw [show D - k = 0 from by omega, M.ansK, List.append_nil] at hp2
      obtain ⟨z0, z1, z2, z3, z4⟩ := cells5 hQ1.out
      clear f0 f1 f2 f3 f4
      obtain ⟨f0, f1, f2, f3, f4⟩ := frz5 hQ1.out
      have HP2 := hid hp2
      clear hp2 q0 q2 q3
      go_wp2
      have hF := set5 hQ1.out (v0 := .int .i64 f.rows) (v1 := .int .i64 f.wds) (v2 := .int .i64 f.lf.lo) (v3 := .int .i64 f.lf.hi) (v4 := .slice V ys.length cc)
      obtain ⟨x0, x1, x2, x3, x4⟩ := cells5 hF
      have hown5 := ownsRow_setCell_below (ownsRow_setCell_below (ownsRow_setCell_below (ownsRow_setCell_below (ownsRow_setCell_below hown (a := ⟨w.heap.size + 1, 0, none⟩) (by first | (simp; done) | (simp; omega)) (.int .i64 f.rows)) (a := ⟨w.heap.size + 1, 1, none⟩) (by first | (simp; done) | (simp; omega)) (.int .i64 f.wds)) (a := ⟨w.heap.size + 1, 2, none⟩) (by first | (simp; done) | (simp; omega)) (.int .i64 f.lf.lo)) (a := ⟨w.heap.size + 1, 3, none⟩) (by first | (simp; done) | (simp; omega)) (.int .i64 f.lf.hi)) (a := ⟨w.heap.size + 1, 4, none⟩) (by first | (simp; done) | (simp; omega)) (.slice V ys.length cc)
      obtain rfl := HP2.out
      refine bodyPost_ret (v := .agg #[.int .i64 f.rows, .int .i64 f.wds, .int .i64 f.lf.lo, .int .i64 f.lf.hi, .slice V ys.length cc]) (by simp [results, Try.results60, go_sem, x0, x1, x2, x3, x4]) rfl ⟨⟨V, cc, rfl, ?_⟩, ?_⟩
      · exact sl_own (by decide) (tcs_len _) (by omega) hown5
      · refine Ev.setCell (Ev.setCell (Ev.setCell (Ev.setCell (Ev.setCell hB ?_ _) ?_ _) ?_ _) ?_ _) ?_ _ <;> simp

end Go.Proofs.Ytcecmphdmpeibaa
