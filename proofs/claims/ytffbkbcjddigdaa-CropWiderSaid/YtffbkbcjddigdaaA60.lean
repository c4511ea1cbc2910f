import Derived.Test.YtffbkbcjddigdaaA54
import Derived.Test.YtffbkbcjddigdaaA49
set_option linter.unusedSimpArgs false
set_option linter.unusedVariables false
namespace Go.Proofs.Ytffbkbcjddigdaa
open Go.RowKit Go.Shelf

/-- Those of some looks whose bits are set. -/
def M.keepK (b : Nat) : List M.Lk → Nat → List M.Lk
 | [], _ => []
 | t :: r, i => (if b / 2 ^ i % 2 = 1 then [t] else []) ++ M.keepK b r (i + 1)
/-- A field with other looks. -/
def M.withL (f : M.Cf) (ls : List M.Lk) : M.Cf := ⟨f.last, f.gr, f.wet, f.base, f.crops, f.ripe, f.late, f.trod, ls⟩
def M.subF (f : M.Cf) (b : Nat) : M.Cf := M.withL f (M.keepK b f.looks 0)
theorem M.keepK_len (b : Nat) : ∀ (ts : List M.Lk) (i : Nat), (M.keepK b ts i).length ≤ ts.length
 | [], _ => Nat.le_refl _
 | t :: r, i => by
  rw [M.keepK, List.length_append, List.length_cons]
  have := M.keepK_len b r (i + 1)
  split <;> simp <;> omega
theorem M.mem_keepK (b : Nat) (t : M.Lk) : ∀ (ts : List M.Lk) (i : Nat), t ∈ M.keepK b ts i ↔ ∃ j, ts[j]? = some t ∧ b / 2 ^ (i + j) % 2 = 1
 | [], i => by simp [M.keepK]
 | x :: r, i => by
  rw [M.keepK, List.mem_append, M.mem_keepK b t r (i + 1)]
  constructor
  ·
   rintro (h | ⟨j, h1, h2⟩)
   ·
    split at h
    ·
     rename_i hb
     obtain rfl := List.mem_singleton.1 h
     exact ⟨0, rfl, hb⟩
    ·
     cases h
   ·
    exact ⟨j + 1, by simpa using h1, by rw [show i + (j + 1) = i + 1 + j from by omega]; exact h2⟩
  ·
   rintro ⟨j, h1, h2⟩
   cases j with
   | zero =>
    left
    rw [if_pos (by simpa using h2)]
    simpa using h1.symm
   | succ j =>
    right
    exact ⟨j, by simpa using h1, by rw [show i + 1 + j = i + (j + 1) from by omega]; exact h2⟩
theorem M.keepK_sub {b : Nat} {ts : List M.Lk} {i : Nat} {t : M.Lk} (h : t ∈ M.keepK b ts i) : t ∈ ts := by
 obtain ⟨j, h1, _⟩ := (M.mem_keepK b t ts i).1 h
 exact List.mem_of_getElem? h1
theorem infoRL : (Try.prog.info? 90).map (fun i => (i.zero, i.size, i.bytes)) = some (some (.agg #[.int .i64 0, .int .i64 0, .int .i64 0]), 3, 24) := by kernel_rfl

set_option maxRecDepth 100000 in
set_option maxHeartbeats 4000000 in
theorem some_c (f : M.Cf) (Ag Aw Ab Ac Al : Option Addr) (ng cg nw cw nb cb nc cc nl cl : Nat) (hn : nl ≤ 7) (rb : Nat) (hrb : rb ≤ 127) (w : World) (hs : CS w w.heap.size f Ag Aw Ab Ac Al ng cg nw cw nb cb nc cc nl cl) :
  Calls Try.prog 46 #[.agg #[.int .i64 f.last, .slice Ag ng cg, .slice Aw nw cw, .slice Ab nb cb, .slice Ac nc cc, .int .i64 f.ripe, .int .i64 f.late, .int .i64 f.trod, .slice Al nl cl], .int .i64 rb] w fun e w' => (∃ B d, e = .returned (.agg #[.int .i64 f.last, .slice Ag ng cg, .slice Aw nw cw, .slice Ab nb cb, .slice Ac nc cc, .int .i64 f.ripe, .int .i64 f.late, .int .i64 f.trod, .slice B (M.keepK rb f.looks 0).length d]) ∧ CS w' w'.heap.size (M.subF f rb) Ag Aw Ab Ac B ng cg nw cw nb cb nc cc (M.keepK rb f.looks 0).length d) ∧ Ev w w' := by
 obtain ⟨i0, hi0, hz0, hz1, hz2⟩ := info_parts infoRL
 go_enter Try.func46, Try.ntmps46
 go_upto_region 1 with fail
 generalize hW0 : World.alloc (World.alloc w _) _ = W0
 have hE0 : Ev w W0 := by rw [← hW0]; exact Ev.alloc (Ev.alloc (Ev.refl _) _) _
 have hal := alloc2 w (.cells #[.int .i64 f.last, .slice Ag ng cg, .slice Aw nw cw, .slice Ab nb cb, .slice Ac nc cc, .int .i64 f.ripe, .int .i64 f.late, .int .i64 f.trod, .slice Al nl cl] 26) (.cells #[.int .i64 0, .slice none 0 0, .slice none 0 0, .slice none 0 0, .slice none 0 0, .int .i64 0, .int .i64 0, .int .i64 0, .slice none 0 0] 26)
 rw [hW0] at hal
 have Q0 := hid hal.1
 have Q1 := hid hal.2.1
 have hzl : w.heap.size + 2 ≤ W0.heap.size := by rw [hal.2.2]; exact Nat.le_refl _
 clear hal hW0
 obtain ⟨q0, q1, q2, q3, q4, q5, q6, q7, q8⟩ := cells9 Q0.out
 go_wp2_with fail
 generalize hW2 : World.alloc W0 _ = W2
 have hE2 : Ev W0 W2 := by rw [← hW2]; exact Ev.alloc (Ev.refl _) _
 have hC2 : W2.heap[W0.heap.size]? = some (.cells #[.int .i64 f.last, .slice Ag ng cg, .slice Aw nw cw, .slice Ab nb cb, .slice Ac nc cc, .int .i64 f.ripe, .int .i64 f.late, .int .i64 f.trod, .slice none 0 0] 26 (0, 0)) := by rw [← hW2]; exact (alloc1 W0 _).1
 have Q0c := hid (hE2.heap Q0.out)
 have Q1c := hid (hE2.heap Q1.out)
 have HC2 := hid hC2
 have hEw := hE0.trans hE2
 have hpw := heap_lt hC2
 clear hW2 hC2 hE2 Q0 Q1 q0 q1 q2 q3 q4 q5 q6 q7 q8
 generalize W0.heap.size = p at *
 go_loopw [6] (fun i wr => ∃ k : Nat, ∃ ys : List M.Lk, ∃ V : Option Addr, ∃ ce : Nat, i = .int .i64 k ∧ k ≤ nl ∧ Ev w wr ∧ Hid (wr.heap[w.heap.size]? = some (.cells #[.int .i64 f.last, .slice Ag ng cg, .slice Aw nw cw, .slice Ab nb cb, .slice Ac nc cc, .int .i64 f.ripe, .int .i64 f.late, .int .i64 f.trod, .slice Al nl cl] 26 (0, 0))) ∧ Hid (wr.heap[w.heap.size + 1]? = some (.cells #[.int .i64 0, .slice none 0 0, .slice none 0 0, .slice none 0 0, .slice none 0 0, .int .i64 0, .int .i64 0, .int .i64 0, .slice none 0 0] 26 (0, 0))) ∧ Hid (wr.heap[p]? = some (.cells #[.int .i64 f.last, .slice Ag ng cg, .slice Aw nw cw, .slice Ab nb cb, .slice Ac nc cc, .int .i64 f.ripe, .int .i64 f.late, .int .i64 f.trod, .slice V ys.length ce] 26 (0, 0))) ∧ Hid (wr.ownsRow (p + 1) 90 3 (.slice V ys.length ce) ys.length (ys.flatMap lkc)) ∧ ys.length ≤ k ∧ Hid (ys ++ M.keepK rb (f.looks.drop k) k = M.keepK rb f.looks 0)) (fun i _ => nl - (intOf i).toNat)
 case atStart => exact ⟨0, [], none, 0, rfl, by omega, hEw, Q0c, Q1c, HC2, hid (World.ownsRow_nil _ _ _ _), by simp, hid rfl⟩
 case round =>
  obtain ⟨k, ys, V, ce, rfl, hk, hB, hQ0, hQ1, hC, hown, hyk, hP⟩ := hrel
  obtain ⟨W1, hW1⟩ : ∃ x, x = wr := ⟨_, rfl⟩
  subst hW1
  clear Q0c Q1c HC2
  obtain ⟨q0, q1, q2, q3, q4, q5, q6, q7, q8⟩ := cells9 hQ0.out
  have lq := heap_lt hQ0.out
  have lp := heap_lt hC.out
  have hBs := hB.size
  by_cases hlt : k < nl
  ·
   obtain ⟨b, off, x, hA, hb, hx, hd, hcc⟩ := hs.l.at_ hB hlt
   have e0 := hcc 0 _ rfl
   have e1 := hcc 1 _ rfl
   have e2 := hcc 2 _ rfl
   simp only [Nat.add_zero] at e0
   have hp2 := hP.out
   rw [hd, M.keepK] at hp2
   have g1 : (rb : Int) / 2 ^ k = ((rb / 2 ^ k : Nat) : Int) := by simp
   have hcap := hs.l.cap
   have lb : b < W1.heap.size := by omega
   subst hA
   clear hd hx hcc
   generalize rb / 2 ^ k = q at g1 hp2
   by_cases hq : q % 2 = 1
   ·
    have g2 : (q : Int) % 2 = 1 := by omega
    have g3 : (q : Int).tmod 2 = 1 := by rw [Int.tmod_eq_emod_of_nonneg (by omega)]; exact g2
    rw [if_pos hq] at hp2
    have HP2 := hid hp2
    clear hp2 hq
    go_upto_region 7 with fail
    obtain ⟨y0, y1, y2, y3, y4, y5, y6, y7, y8⟩ := cells9 hC.out
    have HSE : Hid (∀ w', Ev W1 w' → (∀ o, w'.cell? ⟨p, o, none⟩ = W1.cell? ⟨p, o, none⟩) ∧ (∀ o, w'.cell? ⟨w.heap.size, o, none⟩ = W1.cell? ⟨w.heap.size, o, none⟩) ∧ (∀ o, w'.cell? ⟨b, o, none⟩ = W1.cell? ⟨b, o, none⟩)) := hid (fun w' h => ⟨fun o => h.cells.1 _ o lp, fun o => h.cells.1 _ o lq, fun o => h.cells.1 _ o lb⟩)
    refine wp_region_K (c := 10) (S := fun w' => (∀ o, w'.cell? ⟨p, o, none⟩ = W1.cell? ⟨p, o, none⟩) ∧ (∀ o, w'.cell? ⟨w.heap.size, o, none⟩ = W1.cell? ⟨w.heap.size, o, none⟩) ∧ (∀ o, w'.cell? ⟨b, o, none⟩ = W1.cell? ⟨b, o, none⟩)) (by kernel_rfl) (⟨fun o => rfl, fun o => rfl, fun o => rfl⟩) (fun hHeld => ?_)
    refine wpAnyK_takeD (i := 0) (v := ?_) (some 22) rfl rfl rfl (by kernel_rfl) (by kernel_rfl) (by kernel_rfl) (by kernel_rfl) (fun _ _ _ h => h) (Or.inl ⟨by rfl, ?hy⟩) (by assumption) ?_
    case hy => (intro w hSw; (try dsimp only at hSw); go_simp; with_reducible rfl)
    (try simp only [Act.put, List.setIfInBounds_toArray, List.set_cons_zero, List.set_cons_succ])
    refine wpAnyK_takeD (i := 1) (v := ?_) (some 23) rfl rfl rfl (by kernel_rfl) (by kernel_rfl) (by kernel_rfl) (by kernel_rfl) (fun _ _ _ h => h) (Or.inl ⟨by rfl, ?hy⟩) (by assumption) ?_
    case hy => (intro w hSw; (try dsimp only at hSw); go_simp; with_reducible rfl)
    (try simp only [Act.put, List.setIfInBounds_toArray, List.set_cons_zero, List.set_cons_succ])
    refine wpAnyK_takeD (i := 2) (v := ?_) (some 24) rfl rfl rfl (by kernel_rfl) (by kernel_rfl) (by kernel_rfl) (by kernel_rfl) (fun _ _ _ h => h) (Or.inl ⟨by rfl, ?hy⟩) (by assumption) ?_
    case hy => (intro w hSw; (try dsimp only at hSw); go_simp; with_reducible rfl)
    (try simp only [Act.put, List.setIfInBounds_toArray, List.set_cons_zero, List.set_cons_succ])
    refine wpAnyK_takeD (i := 3) (v := ?_) (some 25) rfl rfl rfl (by kernel_rfl) (by kernel_rfl) (by kernel_rfl) (by kernel_rfl) (fun _ _ _ h => h) (Or.inl ⟨by rfl, ?hy⟩) (by assumption) ?_
    case hy => (intro w hSw; (try dsimp only at hSw); go_simp; with_reducible rfl)
    (try simp only [Act.put, List.setIfInBounds_toArray, List.set_cons_zero, List.set_cons_succ])
    refine wpAnyK_takeD (i := 4) (v := ?_) (some 26) rfl rfl rfl (by kernel_rfl) (by kernel_rfl) (by kernel_rfl) (by kernel_rfl) (fun _ _ _ h => h) (Or.inl ⟨by rfl, ?hy⟩) (by assumption) ?_
    case hy => (intro w hSw; (try dsimp only at hSw); go_simp; with_reducible rfl)
    (try simp only [Act.put, List.setIfInBounds_toArray, List.set_cons_zero, List.set_cons_succ])
    refine wpAnyK_takeD (i := 5) (v := ?_) (some 27) rfl rfl rfl (by kernel_rfl) (by kernel_rfl) (by kernel_rfl) (by kernel_rfl) (fun _ _ _ h => h) (Or.inl ⟨by rfl, ?hy⟩) (by assumption) ?_
    case hy => (intro w hSw; (try dsimp only at hSw); go_simp; with_reducible rfl)
    (try simp only [Act.put, List.setIfInBounds_toArray, List.set_cons_zero, List.set_cons_succ])
    refine wpAnyK_takeD (i := 6) (v := ?_) (some 28) rfl rfl rfl (by kernel_rfl) (by kernel_rfl) (by kernel_rfl) (by kernel_rfl) (fun _ _ _ h => h) (Or.inl ⟨by rfl, ?hy⟩) (by assumption) ?_
    case hy => (intro w hSw; (try dsimp only at hSw); go_simp; with_reducible rfl)
    (try simp only [Act.put, List.setIfInBounds_toArray, List.set_cons_zero, List.set_cons_succ])
    refine wpAnyK_one (i := 7) rfl (by kernel_rfl) (by rfl) (by decide) (fun K hK => ?_)
    go_simp
    generalize hW2 : World.drew (World.alloc W1 _) = w2
    have hal := alloc1 W1 (.cells #[.int .i64 x.wk, .int .i64 x.ct.lo, .int .i64 x.ct.hi] 90)
    have hEA : Ev W1 w2 := by rw [← hW2]; exact Ev.drew (Ev.alloc (Ev.refl _) _)
    have HAL := hid ((show Ev (World.alloc W1 (.cells #[.int .i64 x.wk, .int .i64 x.ct.lo, .int .i64 x.ct.hi] 90)) w2 from by rw [← hW2]; exact Ev.drew (Ev.refl _)).heap hal.1)
    have hsz2 : w2.heap.size = W1.heap.size + 1 := by rw [← hW2]; exact hal.2
    clear hal hW2
    refine hK.out _ _ (HSE.out _ hEA) (fun hHeld => ?_)
    clear hK K
    (try simp only [Act.put, List.setIfInBounds_toArray, List.set_cons_zero, List.set_cons_succ])
    refine wpAnyK_one (i := 8) rfl (by kernel_rfl) (by rfl) (by decide) (fun K hK => ?_)
    have hown1 := hown.out.ev hEA
    have hps := hEA.size
    refine wp_append_own _ (.tmp 23) (.tmp 29) 24 rfl (p + 1) 90 i0 _ 3 24 Try.underlying24 hi0 hz0 hz1 hz2 rfl (by decide) _ ys.length (ys.flatMap lkc) rfl hown1 ⟨W1.heap.size, 0, none⟩ 1 1 [.int .i64 x.wk, .int .i64 x.ct.lo, .int .i64 x.ct.hi] rfl rfl (news_in HAL.out) (by simp [Value.oneCell']) (by unfold maxLen; omega) (by omega) (by omega) ?_
    intro v' w3 hown' hgrow _
    have hown3 : w3.ownsRow (p + 1) 90 3 v' (ys ++ [x]).length ((ys ++ [x]).flatMap lkc) := by rw [List.flatMap_append, List.length_append]; exact hown'
    obtain ⟨V', ce', rfl⟩ := own_form hown3
    have hltA := hown1.lt
    have hqp := (hgrow.block p (by omega) (fun e => by have := (hltA p e.symm).1; omega)).trans (hEA.heap hC.out)
    have h0g := (hgrow.block w.heap.size (by omega) (fun e => by have := (hltA _ e.symm).1; omega)).trans (hEA.heap hQ0.out)
    have h1g := (hgrow.block (w.heap.size + 1) (by omega) (fun e => by have := (hltA _ e.symm).1; omega)).trans (hEA.heap hQ1.out)
    have hbg := hgrow.block b (by omega) (fun e => by have := (hltA _ e.symm).1; omega)
    have hSg : (∀ o, w3.cell? ⟨p, o, none⟩ = W1.cell? ⟨p, o, none⟩) ∧ (∀ o, w3.cell? ⟨w.heap.size, o, none⟩ = W1.cell? ⟨w.heap.size, o, none⟩) ∧ (∀ o, w3.cell? ⟨b, o, none⟩ = W1.cell? ⟨b, o, none⟩) := ⟨fun o => World.cell?_of_block (w := W1) (hqp.trans hC.out.symm), fun o => World.cell?_of_block (w := W1) (h0g.trans hQ0.out.symm), fun o => (World.cell?_of_block hbg).trans ((HSE.out _ hEA).2.2 o)⟩
    have HQP := hid hqp
    have H0G := hid h0g
    have H1G := hid h1g
    have HE3 := hid (Ev.grown (hB.trans hEA) hgrow (fun k e => by have := (hltA k e).1; omega))
    have HO3 := hid hown3
    clear h0g h1g hltA hown' hbg hgrow hown1 hown3
    refine hK.out _ _ (hSg) (fun hHeld => ?_)
    clear hK K
    (try simp only [Act.put, List.setIfInBounds_toArray, List.set_cons_zero, List.set_cons_succ])
    refine wpAnyK_takeD (i := 9) (v := ?_) (some 31) rfl rfl rfl (by kernel_rfl) (by kernel_rfl) (by kernel_rfl) (by kernel_rfl) (fun _ _ _ h => h) (Or.inl ⟨by rfl, ?hy⟩) (by assumption) ?_
    case hy => (intro w hSw; (try dsimp only at hSw); go_simp; with_reducible rfl)
    (try simp only [Act.put, List.setIfInBounds_toArray, List.set_cons_zero, List.set_cons_succ])
    obtain ⟨f0, f1, f2, f3, f4, f5, f6, f7, f8⟩ := frz9 HQP.out
    refine wpAnyK_last rfl (by kernel_rfl) (by rfl) (fun K hK => ?_)
    go_simp
    refine hK.out _ _ ?_
    clear hK K
    (try simp only [Act.put, List.setIfInBounds_toArray, List.set_cons_zero, List.set_cons_succ])
    refine wpAnyK_done (by kernel_rfl) ?_ _
    go_wp2
    refine ⟨⟨k + 1, ys ++ [x], V', ce', by go_num, by omega, Ev.setCell HE3.out (by simp; omega) _, hid (set_heap H0G.out (by omega)), hid (set_heap H1G.out (by omega)), hid ?_, hid (own_set HO3.out HQP.out (by decide)), by simp; omega, hid (by rw [List.append_assoc]; exact HP2.out)⟩, by simp [intOf]; omega⟩
    rw [set_heap_same HQP.out, List.length_append]
    rfl
   ·
    have g2 : (q : Int) % 2 = 0 := by omega
    have g3 : (q : Int).tmod 2 = 0 := by rw [Int.tmod_eq_emod_of_nonneg (by omega)]; exact g2
    rw [if_neg hq, List.nil_append] at hp2
    have HP2 := hid hp2
    clear hp2 hq
    go_wp2_with fail
    exact ⟨⟨k + 1, ys, V, ce, by go_num, by omega, hB, hQ0, hQ1, hC, hown, by omega, HP2⟩, by simp [intOf]; omega⟩
  ·
   have hP2 := hid (show ys = M.keepK rb f.looks 0 by rw [← hP.out, hs.l.done (by omega)]; simp [M.keepK])
   have hn2 : ¬ ((k : Int) < nl) := by omega
   obtain ⟨y0, y1, y2, y3, y4, y5, y6, y7, y8⟩ := cells9 hC.out
   obtain ⟨z0, z1, z2, z3, z4, z5, z6, z7, z8⟩ := cells9 hQ1.out
   obtain ⟨f0, f1, f2, f3, f4, f5, f6, f7, f8⟩ := frz9 hQ1.out
   have HS := hid hs
   clear hs hP
   go_wp2_with fail
   have hF := set9 (v0 := .int .i64 f.last) (v1 := .slice Ag ng cg) (v2 := .slice Aw nw cw) (v3 := .slice Ab nb cb) (v4 := .slice Ac nc cc) (v5 := .int .i64 f.ripe) (v6 := .int .i64 f.late) (v7 := .int .i64 f.trod) (v8 := .slice V ys.length ce) hQ1.out
   obtain ⟨x0, x1, x2, x3, x4, x5, x6, x7, x8⟩ := cells9 hF
   have o4 := own_set9 (v0 := .int .i64 f.last) (v1 := .slice Ag ng cg) (v2 := .slice Aw nw cw) (v3 := .slice Ab nb cb) (v4 := .slice Ac nc cc) (v5 := .int .i64 f.ripe) (v6 := .int .i64 f.late) (v7 := .int .i64 f.trod) (v8 := .slice V ys.length ce) hown.out hQ1.out (by decide)
   have hsl := sl_own (enc := lkc) (by decide) (lkc_len _) (by omega) o4
   have hE9 := Ev.setCell (Ev.setCell (Ev.setCell (Ev.setCell (Ev.setCell (Ev.setCell (Ev.setCell (Ev.setCell (Ev.setCell hB (p := ⟨w.heap.size + 1, 0, none⟩) (by simp) (.int .i64 f.last)) (p := ⟨w.heap.size + 1, 1, none⟩) (by simp) (.slice Ag ng cg)) (p := ⟨w.heap.size + 1, 2, none⟩) (by simp) (.slice Aw nw cw)) (p := ⟨w.heap.size + 1, 3, none⟩) (by simp) (.slice Ab nb cb)) (p := ⟨w.heap.size + 1, 4, none⟩) (by simp) (.slice Ac nc cc)) (p := ⟨w.heap.size + 1, 5, none⟩) (by simp) (.int .i64 f.ripe)) (p := ⟨w.heap.size + 1, 6, none⟩) (by simp) (.int .i64 f.late)) (p := ⟨w.heap.size + 1, 7, none⟩) (by simp) (.int .i64 f.trod)) (p := ⟨w.heap.size + 1, 8, none⟩) (by simp) (.slice V ys.length ce)
   have hcs := HS.out.ev hE9
   have hy := hP2.out
   subst hy
   exact bodyPost_ret (v := .agg #[.int .i64 f.last, .slice Ag ng cg, .slice Aw nw cw, .slice Ab nb cb, .slice Ac nc cc, .int .i64 f.ripe, .int .i64 f.late, .int .i64 f.trod, .slice V (M.keepK rb f.looks 0).length ce]) (by simp [results, Try.results46, go_sem, x0, x1, x2, x3, x4, x5, x6, x7, x8]) rfl ⟨⟨V, ce, rfl, ⟨hcs.g, hcs.w_, hcs.b, hcs.c, hsl⟩⟩, hE9⟩

set_option maxRecDepth 100000 in
set_option maxHeartbeats 1000000 in
theorem Full_c (f : M.Cf) (Ag Aw Ab Ac Al : Option Addr) (ng cg nw cw nb cb nc cc nl cl : Nat) (hn : nl ≤ 7) (w : World) :
  Calls Try.prog 47 #[.agg #[.int .i64 f.last, .slice Ag ng cg, .slice Aw nw cw, .slice Ab nb cb, .slice Ac nc cc, .int .i64 f.ripe, .int .i64 f.late, .int .i64 f.trod, .slice Al nl cl]] w fun e w' => e = .returned (.int .i64 ((2 ^ nl - 1 : Nat) : Int)) ∧ Ev w w' := by
 have h : nl = 0 ∨ nl = 1 ∨ nl = 2 ∨ nl = 3 ∨ nl = 4 ∨ nl = 5 ∨ nl = 6 ∨ nl = 7 := by omega
 rcases h with rfl | rfl | rfl | rfl | rfl | rfl | rfl | rfl
 all_goals
  go_enter Try.func47, Try.ntmps47
  go_wp2
  go_ret
  exact ⟨by first | rfl | (simp; done), Ev.alloc (Ev.refl _) _⟩

end Go.Proofs.Ytffbkbcjddigdaa

set_option linter.unusedSimpArgs false
set_option linter.unusedVariables false
namespace Go.Proofs.Ytffbkbcjddigdaa
open Go.RowKit Go.Shelf

theorem M.bit_low (n i : Nat) : ((2 ^ n - 1) / 2 ^ i % 2 = 1) ↔ i < n := by
 have h := Nat.testBit_two_pow_sub_one n i
 rw [Nat.testBit_eq_decide_div_mod_eq] at h
 constructor
 ·
  intro h1
  rw [decide_eq_true h1] at h
  simpa using h.symm
 ·
  intro h1
  rw [decide_eq_true h1] at h
  simpa using h
theorem M.keepK_low (n : Nat) : ∀ (ls : List M.Lk) (i : Nat), M.keepK (2 ^ n - 1) ls i = ls.take (n - i)
 | [], i => by simp [M.keepK]
 | x :: r, i => by
  rw [M.keepK, M.keepK_low n r (i + 1)]
  by_cases h : i < n
  ·
   rw [if_pos ((M.bit_low n i).2 h), show n - i = (n - (i + 1)) + 1 by omega, List.take_succ_cons]; rfl
  ·
   rw [if_neg (fun hb => h ((M.bit_low n i).1 hb)), show n - i = 0 by omega, show n - (i + 1) = 0 by omega]; simp
theorem M.fit_any (f : M.Cf) (ls : List M.Lk) : M.fit f ls = (M.allTruths f).any fun t => ls.all (M.shows (M.weights t.gr f.crops)) := by
 unfold M.fit
 exact M.stands_any f (fun x => ls.all (M.shows x))
theorem M.truths_fit (f : M.Cf) (ls : List M.Lk) : M.truths (M.withL f ls) = [] ↔ M.fit f ls = false := by
 rw [M.fit_any, show M.truths (M.withL f ls) = (M.allTruths f).filter (fun t => ls.all (M.shows (M.weights t.gr f.crops))) from rfl, List.filter_eq_nil_iff, List.any_eq_false]
theorem M.check_with {f : M.Cf} (h0 : M.check f = 0) {ls : List M.Lk} (hl : ls.length ≤ 5) (hs : ∀ l ∈ ls, l ∈ f.looks) : M.check (M.withL f ls) = 0 := by
 obtain ⟨h9, hb, _, hv, ht⟩ := M.check0 h0
 have hv2 : M.valid (M.withL f ls) = true := by
  unfold M.valid at hv ⊢
  simp only [Bool.and_eq_true, List.all_eq_true] at hv ⊢
  exact ⟨hv.1, hv.2.1, hv.2.2.1, hv.2.2.2.1, fun l hl => hv.2.2.2.2 l (hs l hl)⟩
 have h3 : ¬ (9 < (M.withL f ls).last ∨ 3 < (M.withL f ls).base.length ∨ 5 < (M.withL f ls).looks.length) := by
  show ¬ (9 < f.last ∨ 3 < f.base.length ∨ 5 < ls.length)
  omega
 rw [M.check_v h3 hv2, show M.ranges (M.withL f ls) = M.ranges f from rfl, ht]
 rfl
theorem M.plan_nil (f : M.Cf) : M.isPlan f [] = true := by unfold M.isPlan; simp [M.rises]
theorem M.begin_with {f : M.Cf} (h0 : M.check f = 0) {ls : List M.Lk} (hl : ls.length ≤ 5) (hs : ∀ l ∈ ls, l ∈ f.looks) : M.begin (M.withL f ls) (M.isPlan (M.withL f ls) []) = if M.fit f ls then 0 else 11 := by
 unfold M.begin
 rw [M.check_with h0 hl hs, M.plan_nil, if_neg (by simp), if_neg (by simp)]
 cases hf : M.fit f ls with
 | false => rw [if_pos ((M.truths_fit f ls).2 hf)]; rfl
 | true =>
  rw [if_neg (fun h => by rw [(M.truths_fit f ls).1 h] at hf; cases hf)]; rfl
theorem M.wrongK_spec (f : M.Cf) : ∀ (j k : Nat), (M.wrongK f k j = (0, 7) ∧ ∀ i, k ≤ i → i < k + j → M.fit f (f.looks.take (i + 1)) = true) ∨ (∃ m : Nat, k ≤ m ∧ m < k + j ∧ M.wrongK f k j = ((m : Int), 0) ∧ M.fit f (f.looks.take (m + 1)) = false ∧ ∀ i, k ≤ i → i < m → M.fit f (f.looks.take (i + 1)) = true)
 | 0, k => .inl ⟨rfl, fun i h1 h2 => by omega⟩
 | j + 1, k => by
  cases hf : M.fit f (f.looks.take (k + 1)) with
  | false => exact .inr ⟨k, Nat.le_refl _, by omega, by unfold M.wrongK; rw [if_neg (by rw [hf]; decide)], hf, fun i h1 h2 => by omega⟩
  | true =>
   have he : M.wrongK f k (j + 1) = M.wrongK f (k + 1) j := by
    rw [M.wrongK, if_pos hf]
   rw [he]
   rcases M.wrongK_spec f j (k + 1) with ⟨h1, h2⟩ | ⟨m, h1, h2, h3, h4, h5⟩
   ·
    refine .inl ⟨h1, fun i hi hj => ?_⟩
    by_cases hik : i = k
    ·
     rw [hik]; exact hf
    ·
     exact h2 i (by omega) (by omega)
   ·
    refine .inr ⟨m, by omega, by omega, h3, h4, fun i hi hj => ?_⟩
    by_cases hik : i = k
    ·
     rw [hik]; exact hf
    ·
     exact h5 i (by omega) (by omega)
theorem M.fit_nil {f : M.Cf} (hv : M.valid f = true) : M.fit f [] = true := by
 rw [M.fit_any]
 have hp := M.valid_parts hv
 have hr : ∀ r ∈ M.ranges f, r.lo ≤ r.hi := fun r hr => (M.ranges_bd hv r hr).2.1
 have hin : ∀ (rs : List M.Rg), (∀ r ∈ rs, r.lo ≤ r.hi) → M.inAll (rs.map M.Rg.lo) rs = true := by
  intro rs
  induction rs with
  | nil => intro _; rfl
  | cons r rs ih =>
   intro h
   rw [List.map_cons, M.inAll, ih (fun x hx => h x (by simp [hx])), Bool.and_true]
   unfold M.holds
   simp [h r (by simp)]
 have hl : M.listed f ⟨(M.ranges f).map M.Rg.lo |>.take f.gr.length, (M.ranges f).map M.Rg.lo |>.drop f.gr.length⟩ = true := by
  unfold M.listed
  rw [List.take_append_drop, hin _ hr]
  have : (M.ranges f).length = f.gr.length + f.wet.length := by unfold M.ranges; simp
  simp [this]
 rw [List.any_eq_true]
 exact ⟨_, (M.mem_allTruths hv _).2 hl, rfl⟩
theorem M.wrong_7 {f : M.Cf} (h0 : M.check f = 0) (h : M.wrong f = (0, 7)) : M.fit f f.looks = true := by
 unfold M.wrong at h
 rw [if_pos h0] at h
 rcases M.wrongK_spec f f.looks.length 0 with ⟨_, h2⟩ | ⟨m, _, _, h3, _⟩
 ·
  rcases Nat.eq_zero_or_pos f.looks.length with hz | hz
  ·
   rw [List.eq_nil_of_length_eq_zero hz]
   exact M.fit_nil (M.check0 h0).2.2.2.1
  ·
   have := h2 (f.looks.length - 1) (by omega) (by omega)
   rwa [show f.looks.length - 1 + 1 = f.looks.length by omega, List.take_length] at this
 ·
  rw [h3] at h
  simp at h
theorem M.wrong_cases {f : M.Cf} (h0 : M.check f = 0) : M.wrong f = (0, 7) ∨ ∃ m : Nat, m < f.looks.length ∧ M.wrong f = ((m : Int), 0) ∧ M.fit f (f.looks.take (m + 1)) = false ∧ M.fit f (f.looks.take m) = true := by
 have hw : M.wrong f = M.wrongK f 0 f.looks.length := by unfold M.wrong; rw [if_pos h0]
 rw [hw]
 rcases M.wrongK_spec f f.looks.length 0 with ⟨h1, _⟩ | ⟨m, _, h2, h3, h4, h5⟩
 ·
  exact .inl h1
 ·
  refine .inr ⟨m, by omega, h3, h4, ?_⟩
  rcases Nat.eq_zero_or_pos m with hz | hz
  ·
   subst hz
   exact M.fit_nil (M.check0 h0).2.2.2.1
  ·
   have := h5 (m - 1) (by omega) (by omega)
   rwa [show m - 1 + 1 = m by omega] at this

theorem FieldL_c (f : M.Cf) (ls : List M.Lk) (Ag Aw Ab Ac Al : Option Addr) (ng cg nw cw nb cb nc cc nl cl : Nat) (hng : ng ≤ 1000) (hnw : nw ≤ 1000) (hnb : nb ≤ 1000) (hnc : nc ≤ 1000) (hnl : nl ≤ 1000) (w : World) (hs : CS w w.heap.size (M.withL f ls) Ag Aw Ab Ac Al ng cg nw cw nb cb nc cc nl cl) :
  Calls Try.prog 16 #[.agg #[.int .i64 f.last, .slice Ag ng cg, .slice Aw nw cw, .slice Ab nb cb, .slice Ac nc cc, .int .i64 f.ripe, .int .i64 f.late, .int .i64 f.trod, .slice Al nl cl]] w fun e w' => (∃ Bg dg Bw dw Bb db Bc dc Bl dl, e = .returned (.agg #[.int .i64 f.last, .slice Bg ng dg, .slice Bw nw dw, .slice Bb nb db, .slice Bc nc dc, .int .i64 f.ripe, .int .i64 f.late, .int .i64 f.trod, .slice Bl nl dl]) ∧ CS w' w'.heap.size (M.withL f ls) Bg Bw Bb Bc Bl ng dg nw dw nb db nc dc nl dl) ∧ Ev w w' := Field_c (M.withL f ls) Ag Aw Ab Ac Al ng cg nw cw nb cb nc cc nl cl hng hnw hnb hnc hnl w hs
theorem WorthL_ok (f : M.Cf) (ls : List M.Lk) (Ag Aw Ab Ac Al : Option Addr) (ng cg nw cw nb cb nc cc nl cl : Nat) (hl0 : -9223372036854775808 ≤ f.last) (h0 : M.check f = 0) (hl : ls.length ≤ 5) (hss : ∀ l ∈ ls, l ∈ f.looks) (hf : M.fit f ls = true) (w : World) (hs : CS w w.heap.size (M.withL f ls) Ag Aw Ab Ac Al ng cg nw cw nb cb nc cc nl cl) :
  Calls Try.prog 29 #[.agg #[.int .i64 f.last, .slice Ag ng cg, .slice Aw nw cw, .slice Ab nb cb, .slice Ac nc cc, .int .i64 f.ripe, .int .i64 f.late, .int .i64 f.trod, .slice Al nl cl], .slice none 0 0] w fun e w' => (∃ a b, e = .returned (.tuple #[.agg #[.int .i64 a, .int .i64 b], .int .i64 0])) ∧ Ev w w' :=
 (Worth_ok (M.withL f ls) Ag Aw Ab Ac Al ng cg nw cw nb cb nc cc nl cl none 0 0 [] hl0 w hs Sl.nil (by rw [M.begin_with h0 hl hss, if_pos hf])).mono fun e w' h => ⟨⟨_, _, h.1⟩, h.2⟩
theorem WorthL_no (f : M.Cf) (ls : List M.Lk) (Ag Aw Ab Ac Al : Option Addr) (ng cg nw cw nb cb nc cc nl cl : Nat) (hl0 : -9223372036854775808 ≤ f.last) (h0 : M.check f = 0) (hl : ls.length ≤ 5) (hss : ∀ l ∈ ls, l ∈ f.looks) (hf : M.fit f ls = false) (w : World) (hs : CS w w.heap.size (M.withL f ls) Ag Aw Ab Ac Al ng cg nw cw nb cb nc cc nl cl) :
  Calls Try.prog 29 #[.agg #[.int .i64 f.last, .slice Ag ng cg, .slice Aw nw cw, .slice Ab nb cb, .slice Ac nc cc, .int .i64 f.ripe, .int .i64 f.late, .int .i64 f.trod, .slice Al nl cl], .slice none 0 0] w fun e w' => e = .returned (.tuple #[.agg #[.int .i64 0, .int .i64 0], .int .i64 11]) ∧ Ev w w' := by
 have hb := M.begin_with h0 hl hss
 rw [if_neg (by rw [hf]; decide)] at hb
 refine (Worth_err (M.withL f ls) Ag Aw Ab Ac Al ng cg nw cw nb cb nc cc nl cl none 0 0 [] hl0 w hs Sl.nil (by rw [hb]; decide)).mono fun e w' h => ⟨?_, h.2⟩
 rw [h.1, hb]
theorem someB_c (f : M.Cf) (ls : List M.Lk) (m : Nat) (Ag Aw Ab Ac Al : Option Addr) (ng cg nw cw nb cb nc cc nl cl : Nat) (hn : nl ≤ 7) (rb : Nat) (hrb : rb ≤ 127) (hk : M.keepK rb f.looks 0 = ls) (hm : ls.length = m) (w : World) (hs : CS w w.heap.size f Ag Aw Ab Ac Al ng cg nw cw nb cb nc cc nl cl) :
  Calls Try.prog 46 #[.agg #[.int .i64 f.last, .slice Ag ng cg, .slice Aw nw cw, .slice Ab nb cb, .slice Ac nc cc, .int .i64 f.ripe, .int .i64 f.late, .int .i64 f.trod, .slice Al nl cl], .int .i64 rb] w fun e w' => (∃ B d, e = .returned (.agg #[.int .i64 f.last, .slice Ag ng cg, .slice Aw nw cw, .slice Ab nb cb, .slice Ac nc cc, .int .i64 f.ripe, .int .i64 f.late, .int .i64 f.trod, .slice B m d]) ∧ CS w' w'.heap.size (M.withL f ls) Ag Aw Ab Ac B ng cg nw cw nb cb nc cc m d) ∧ Ev w w' := by
 subst hk
 subst hm
 exact some_c f Ag Aw Ab Ac Al ng cg nw cw nb cb nc cc nl cl hn rb hrb w hs

end Go.Proofs.Ytffbkbcjddigdaa

set_option linter.unusedSimpArgs false
set_option linter.unusedVariables false
namespace Go.Proofs.Ytffbkbcjddigdaa
open Go.RowKit

theorem M.rises_at : ∀ (l : List Int) (k : Nat) (x y : Int), M.rises l = true → l[k]? = some y → l[k + 1]? = some x → y < x
 | [], k, x, y, _, h, _ => by simp at h
 | [a], k, x, y, _, _, h => by simp at h
 | a :: b :: r, k, x, y, h, h1, h2 => by
  rw [M.rises, Bool.and_eq_true, decide_eq_true_eq] at h
  cases k with
  | zero =>
   simp at h1 h2
   omega
  | succ k => exact M.rises_at (b :: r) k x y h.2 (by simpa using h1) (by simpa using h2)
def M.orAll (l : List Int) (acc : Nat) : Nat := l.foldl (fun a i => a ||| 2 ^ i.toNat) acc
theorem orAll_table : ((List.range 6).all fun n => (List.range (2 ^ n)).all fun b => decide (M.orAll (M.bits b) 0 = b)) = true := by decide +kernel
/-- All looks but those whose bits are set. -/
def M.butB (n b : Nat) : Nat := (2 ^ n - 1) ^^^ ((2 ^ n - 1) &&& b)
theorem but_table : ((List.range 6).all fun n => (List.range (2 ^ n)).all fun b => (List.range n).all fun j => decide ((M.butB n b / 2 ^ j % 2 = 1) ↔ ¬ ((j : Int) ∈ M.bits b))) = true := by decide +kernel
theorem M.but_bit {n b j : Nat} (hn : n ≤ 5) (hb : b < 2 ^ n) (hj : j < n) : (M.butB n b / 2 ^ j % 2 = 1) ↔ ¬ ((j : Int) ∈ M.bits b) := by
 have h0 := but_table
 rw [List.all_eq_true] at h0
 have h1 := h0 n (List.mem_range.2 (by omega))
 rw [List.all_eq_true] at h1
 have h2 := h1 b (List.mem_range.2 hb)
 rw [List.all_eq_true] at h2
 have h3 := h2 j (List.mem_range.2 hj)
 exact of_decide_eq_true h3
theorem M.woK_keep {n b : Nat} (hn : n ≤ 5) (hb : b < 2 ^ n) : ∀ (ls : List M.Lk) (k : Nat), k + ls.length = n → M.woK (M.bits b) ls k = M.keepK (M.butB n b) ls k
 | [], _, _ => rfl
 | x :: r, k, h => by
  have hk : k < n := by simp at h; omega
  have hr := M.woK_keep hn hb r (k + 1) (by simp at h; omega)
  have hbit := M.but_bit hn hb hk
  rw [M.woK, M.keepK, hr]
  by_cases hm : (k : Int) ∈ M.bits b
  ·
   rw [if_pos hm, if_neg (fun h => hbit.1 h hm), List.nil_append]
  ·
   rw [if_neg hm, if_pos (hbit.2 hm)]; rfl
theorem M.spares_bits {f : M.Cf} {n b : Nat} (hl : f.looks.length = n) (hn : n ≤ 5) (hb : b < 2 ^ n) : M.spares f (M.bits b) = M.fit f (M.keepK (M.butB n b) f.looks 0) := by
 unfold M.spares M.without
 rw [M.woK_keep hn hb f.looks 0 (by omega)]
theorem M.keepK_zero : ∀ (ls : List M.Lk) (i : Nat), M.keepK 0 ls i = []
 | [], _ => rfl
 | x :: r, i => by rw [M.keepK, M.keepK_zero r (i + 1), if_neg (by simp)]; rfl
/-- What Leave's list is. -/
theorem M.leave_spec {f : M.Cf} (h : M.check f = 0) {n : Nat} (hl : f.looks.length = n) : ∃ b, b < 2 ^ n ∧ M.orAll (M.shortest (M.spares f) n) 0 = b ∧ M.fit f (M.keepK (M.butB n b) f.looks 0) = true ∧ (M.shortest (M.spares f) n).length ≤ 7 ∧ M.rises (M.shortest (M.spares f) n) = true ∧ (∀ x ∈ M.shortest (M.spares f) n, ∃ xn : Nat, x = xn ∧ xn < n) ∧ ∀ t, t < 2 ^ n → M.fit f (M.keepK (M.butB n t) f.looks 0) = true → M.shorter (M.bits t) (M.shortest (M.spares f) n) = false := by
 have n5 : n ≤ 5 := by rw [← hl]; exact (M.check0 h).2.2.1
 have hP : 0 < 2 ^ n := Nat.pow_pos (by omega)
 have hall : M.fit f (M.keepK (M.butB n (2 ^ n - 1)) f.looks 0) = true := by
  unfold M.butB
  rw [Nat.and_self, Nat.xor_self, M.keepK_zero]
  exact M.fit_nil (M.check0 h).2.2.2.1
 have hsame := M.shortest_pick (p := M.spares f) (q := fun b => M.fit f (M.keepK (M.butB n b) f.looks 0)) (sz := n) (by omega) (fun b hb => M.spares_bits hl n5 hb) hall
 obtain ⟨h1, h2, h3⟩ := M.pick_spec (fun b => M.fit f (M.keepK (M.butB n b) f.looks 0)) (2 ^ n - 1 + 1) 0 (M.bits (2 ^ n - 1))
 rw [← hsame] at h1 h2 h3
 have hc : ∃ c, c < 2 ^ n ∧ M.fit f (M.keepK (M.butB n c) f.looks 0) = true ∧ M.shortest (M.spares f) n = M.bits c := by
  rcases h1 with h1 | ⟨c, _, h5, h6, h7⟩
  ·
   exact ⟨_, by omega, hall, h1⟩
  ·
   exact ⟨c, by omega, h6, h7⟩
 obtain ⟨c, hc, hqc, he⟩ := hc
 have hrise := M.bits_rise (sz := n) (by omega) hc
 rw [← he] at hrise
 have g1 := M.rises_rise hrise
 have g2 := M.rise_bd hrise
 have h0 := orAll_table
 rw [List.all_eq_true] at h0
 have h4 := h0 n (List.mem_range.2 (by omega))
 rw [List.all_eq_true] at h4
 have h5 := h4 c (List.mem_range.2 hc)
 rw [decide_eq_true_eq, ← he] at h5
 have hl7 : (M.shortest (M.spares f) n).length ≤ 7 := by
  rcases M.Rise_len hrise (by omega) with h | h
  ·
   rw [h]; simp
  ·
   omega
 exact ⟨c, hc, h5, hqc, hl7, g1, fun x hx => by have := g2 x hx; exact ⟨x.toNat, by omega, by omega⟩, fun t ht hq => h3 t (Nat.zero_le _) (by omega) hq⟩

end Go.Proofs.Ytffbkbcjddigdaa
