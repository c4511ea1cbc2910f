import Derived.Test.YtgimcephbeajlaaC27
set_option linter.unusedSimpArgs false
set_option linter.unusedVariables false
namespace Go.Proofs.Ytgimcephbeajlaa
open Go.RowKit Go.Shelf

/-- Those of some looks whose bits are set. -/
def M.keepK (b : Nat) : List M.Rd → Nat → List M.Rd
 | [], _ => []
 | t :: r, i => (if b / 2 ^ i % 2 = 1 then [t] else []) ++ M.keepK b r (i + 1)
/-- A field with other looks. -/
def M.withL (f : M.Cf) (ls : List M.Rd) : M.Cf := ⟨f.last, f.size, f.cool, f.die, f.burn, f.st, f.wet, f.turns, ls⟩
def M.subF (f : M.Cf) (b : Nat) : M.Cf := M.withL f (M.keepK b f.rds 0)
theorem M.keepK_len (b : Nat) : ∀ (ts : List M.Rd) (i : Nat), (M.keepK b ts i).length ≤ ts.length
 | [], _ => Nat.le_refl _
 | t :: r, i => by
  rw [M.keepK, List.length_append, List.length_cons]
  have := M.keepK_len b r (i + 1)
  split <;> simp <;> omega
theorem M.mem_keepK (b : Nat) (t : M.Rd) : ∀ (ts : List M.Rd) (i : Nat), t ∈ M.keepK b ts i ↔ ∃ j, ts[j]? = some t ∧ b / 2 ^ (i + j) % 2 = 1
 | [], i => by simp [M.keepK]
 | x :: r, i => by
  rw [M.keepK, List.mem_append, M.mem_keepK b t r (i + 1)]
  constructor
  ·
   rintro (h | ⟨j, h1, h2⟩)
   ·
    split at h
    ·
     rename_i hb
     obtain rfl := List.mem_singleton.1 h
     exact ⟨0, rfl, hb⟩
    ·
     cases h
   ·
    exact ⟨j + 1, by simpa using h1, by rw [show i + (j + 1) = i + 1 + j from by omega]; exact h2⟩
  ·
   rintro ⟨j, h1, h2⟩
   cases j with
   | zero =>
    left
    rw [if_pos (by simpa using h2)]
    simpa using h1.symm
   | succ j =>
    right
    exact ⟨j, by simpa using h1, by rw [show i + 1 + j = i + (j + 1) from by omega]; exact h2⟩
theorem M.keepK_sub {b : Nat} {ts : List M.Rd} {i : Nat} {t : M.Rd} (h : t ∈ M.keepK b ts i) : t ∈ ts := by
 obtain ⟨j, h1, _⟩ := (M.mem_keepK b t ts i).1 h
 exact List.mem_of_getElem? h1
theorem infoRR : (Try.prog.info? 96).map (fun i => (i.zero, i.size, i.bytes)) = some (some (.agg #[.int .i64 0, .int .i64 0, .int .i64 0]), 3, 24) := by kernel_rfl

set_option maxRecDepth 100000 in
set_option maxHeartbeats 4000000 in
theorem somel_c (f : M.Cf) (Aw At Ar : Option Addr) (nw cw nt ct nr cr : Nat) (hn : nr ≤ 7) (rb : Nat) (hrb : rb ≤ 127) (w : World) (hs : CS w w.heap.size f Aw At Ar nw cw nt ct nr cr) :
  Calls Try.prog 60 #[.agg #[.int .i64 f.last, .int .i64 f.size, .int .i64 f.cool, .int .i64 f.die, .int .i64 f.burn, .int .i64 f.st.lo, .int .i64 f.st.hi, .slice Aw nw cw, .slice At nt ct, .slice Ar nr cr], .int .i64 rb] w fun e w' => (∃ B d, e = .returned (.agg #[.int .i64 f.last, .int .i64 f.size, .int .i64 f.cool, .int .i64 f.die, .int .i64 f.burn, .int .i64 f.st.lo, .int .i64 f.st.hi, .slice Aw nw cw, .slice At nt ct, .slice B (M.keepK rb f.rds 0).length d]) ∧ CS w' w'.heap.size (M.subF f rb) Aw At B nw cw nt ct (M.keepK rb f.rds 0).length d) ∧ Ev w w' := by
 obtain ⟨i0, hi0, hz0, hz1, hz2⟩ := info_parts infoRR
 go_enter Try.func60, Try.ntmps60
 go_upto_region 1 with fail
 generalize hW0 : World.alloc (World.alloc w _) _ = W0
 have hE0 : Ev w W0 := by rw [← hW0]; exact Ev.alloc (Ev.alloc (Ev.refl _) _) _
 have hal := alloc2 w (.cells #[.int .i64 f.last, .int .i64 f.size, .int .i64 f.cool, .int .i64 f.die, .int .i64 f.burn, .int .i64 f.st.lo, .int .i64 f.st.hi, .slice Aw nw cw, .slice At nt ct, .slice Ar nr cr] 28) (.cells #[.int .i64 0, .int .i64 0, .int .i64 0, .int .i64 0, .int .i64 0, .int .i64 0, .int .i64 0, .slice none 0 0, .slice none 0 0, .slice none 0 0] 28)
 rw [hW0] at hal
 have Q0 := hid hal.1
 have Q1 := hid hal.2.1
 have hzl : w.heap.size + 2 ≤ W0.heap.size := by rw [hal.2.2]; exact Nat.le_refl _
 clear hal hW0
 obtain ⟨q0, q1, q2, q3, q4, q5, q6, q7, q8, q9⟩ := cells10 Q0.out
 go_wp2_with fail
 generalize hW2 : World.alloc W0 _ = W2
 have hE2 : Ev W0 W2 := by rw [← hW2]; exact Ev.alloc (Ev.refl _) _
 have hC2 : W2.heap[W0.heap.size]? = some (.cells #[.int .i64 f.last, .int .i64 f.size, .int .i64 f.cool, .int .i64 f.die, .int .i64 f.burn, .int .i64 f.st.lo, .int .i64 f.st.hi, .slice Aw nw cw, .slice At nt ct, .slice none 0 0] 28 (0, 0)) := by rw [← hW2]; exact (alloc1 W0 _).1
 have Q0c := hid (hE2.heap Q0.out)
 have Q1c := hid (hE2.heap Q1.out)
 have HC2 := hid hC2
 have hEw := hE0.trans hE2
 have hpw := heap_lt hC2
 clear hW2 hC2 hE2 Q0 Q1 q0 q1 q2 q3 q4 q5 q6 q7 q8 q9
 generalize W0.heap.size = p at *
 go_loopw [6] (fun i wr => ∃ k : Nat, ∃ ys : List M.Rd, ∃ V : Option Addr, ∃ ce : Nat, i = .int .i64 k ∧ k ≤ nr ∧ Ev w wr ∧ Hid (wr.heap[w.heap.size]? = some (.cells #[.int .i64 f.last, .int .i64 f.size, .int .i64 f.cool, .int .i64 f.die, .int .i64 f.burn, .int .i64 f.st.lo, .int .i64 f.st.hi, .slice Aw nw cw, .slice At nt ct, .slice Ar nr cr] 28 (0, 0))) ∧ Hid (wr.heap[w.heap.size + 1]? = some (.cells #[.int .i64 0, .int .i64 0, .int .i64 0, .int .i64 0, .int .i64 0, .int .i64 0, .int .i64 0, .slice none 0 0, .slice none 0 0, .slice none 0 0] 28 (0, 0))) ∧ Hid (wr.heap[p]? = some (.cells #[.int .i64 f.last, .int .i64 f.size, .int .i64 f.cool, .int .i64 f.die, .int .i64 f.burn, .int .i64 f.st.lo, .int .i64 f.st.hi, .slice Aw nw cw, .slice At nt ct, .slice V ys.length ce] 28 (0, 0))) ∧ Hid (wr.ownsRow (p + 1) 96 3 (.slice V ys.length ce) ys.length (ys.flatMap rdc)) ∧ ys.length ≤ k ∧ Hid (ys ++ M.keepK rb (f.rds.drop k) k = M.keepK rb f.rds 0)) (fun i _ => nr - (intOf i).toNat)
 case atStart => exact ⟨0, [], none, 0, rfl, by omega, hEw, Q0c, Q1c, HC2, hid (World.ownsRow_nil _ _ _ _), by simp, hid rfl⟩
 case round =>
  obtain ⟨k, ys, V, ce, rfl, hk, hB, hQ0, hQ1, hC, hown, hyk, hP⟩ := hrel
  obtain ⟨W1, hW1⟩ : ∃ x, x = wr := ⟨_, rfl⟩
  subst hW1
  clear Q0c Q1c HC2
  obtain ⟨q0, q1, q2, q3, q4, q5, q6, q7, q8, q9⟩ := cells10 hQ0.out
  have lq := heap_lt hQ0.out
  have lp := heap_lt hC.out
  have hBs := hB.size
  by_cases hlt : k < nr
  ·
   obtain ⟨b, off, x, hA, hb, hx, hd, hcc⟩ := hs.r.at_ hB hlt
   have e0 := hcc 0 _ rfl
   have e1 := hcc 1 _ rfl
   have e2 := hcc 2 _ rfl
   simp only [Nat.add_zero] at e0
   have hp2 := hP.out
   rw [hd, M.keepK] at hp2
   have g1 : (rb : Int) / 2 ^ k = ((rb / 2 ^ k : Nat) : Int) := by simp
   have hcap := hs.r.cap
   have lb : b < W1.heap.size := by omega
   subst hA
   clear hd hx hcc
   generalize rb / 2 ^ k = q at g1 hp2
   by_cases hq : q % 2 = 1
   ·
    have g2 : (q : Int) % 2 = 1 := by omega
    have g3 : (q : Int).tmod 2 = 1 := by rw [Int.tmod_eq_emod_of_nonneg (by omega)]; exact g2
    rw [if_pos hq] at hp2
    have HP2 := hid hp2
    clear hp2 hq
    go_upto_region 7 with fail
    obtain ⟨y0, y1, y2, y3, y4, y5, y6, y7, y8, y9⟩ := cells10 hC.out
    have HSE : Hid (∀ w', Ev W1 w' → (∀ o, w'.cell? ⟨p, o, none⟩ = W1.cell? ⟨p, o, none⟩) ∧ (∀ o, w'.cell? ⟨w.heap.size, o, none⟩ = W1.cell? ⟨w.heap.size, o, none⟩) ∧ (∀ o, w'.cell? ⟨b, o, none⟩ = W1.cell? ⟨b, o, none⟩)) := hid (fun w' h => ⟨fun o => h.cells.1 _ o lp, fun o => h.cells.1 _ o lq, fun o => h.cells.1 _ o lb⟩)
    refine wp_region_K (c := 10) (S := fun w' => (∀ o, w'.cell? ⟨p, o, none⟩ = W1.cell? ⟨p, o, none⟩) ∧ (∀ o, w'.cell? ⟨w.heap.size, o, none⟩ = W1.cell? ⟨w.heap.size, o, none⟩) ∧ (∀ o, w'.cell? ⟨b, o, none⟩ = W1.cell? ⟨b, o, none⟩)) (by kernel_rfl) (⟨fun o => rfl, fun o => rfl, fun o => rfl⟩) (fun hHeld => ?_)
    refine wpAnyK_takeD (i := 0) (v := ?_) (some 22) rfl rfl rfl (by kernel_rfl) (by kernel_rfl) (by kernel_rfl) (by kernel_rfl) (fun _ _ _ h => h) (Or.inl ⟨by rfl, ?hy⟩) (by assumption) ?_
    case hy => (intro w hSw; (try dsimp only at hSw); go_simp; with_reducible rfl)
    (try simp only [Act.put, List.setIfInBounds_toArray, List.set_cons_zero, List.set_cons_succ])
    refine wpAnyK_takeD (i := 1) (v := ?_) (some 23) rfl rfl rfl (by kernel_rfl) (by kernel_rfl) (by kernel_rfl) (by kernel_rfl) (fun _ _ _ h => h) (Or.inl ⟨by rfl, ?hy⟩) (by assumption) ?_
    case hy => (intro w hSw; (try dsimp only at hSw); go_simp; with_reducible rfl)
    (try simp only [Act.put, List.setIfInBounds_toArray, List.set_cons_zero, List.set_cons_succ])
    refine wpAnyK_takeD (i := 2) (v := ?_) (some 24) rfl rfl rfl (by kernel_rfl) (by kernel_rfl) (by kernel_rfl) (by kernel_rfl) (fun _ _ _ h => h) (Or.inl ⟨by rfl, ?hy⟩) (by assumption) ?_
    case hy => (intro w hSw; (try dsimp only at hSw); go_simp; with_reducible rfl)
    (try simp only [Act.put, List.setIfInBounds_toArray, List.set_cons_zero, List.set_cons_succ])
    refine wpAnyK_takeD (i := 3) (v := ?_) (some 25) rfl rfl rfl (by kernel_rfl) (by kernel_rfl) (by kernel_rfl) (by kernel_rfl) (fun _ _ _ h => h) (Or.inl ⟨by rfl, ?hy⟩) (by assumption) ?_
    case hy => (intro w hSw; (try dsimp only at hSw); go_simp; with_reducible rfl)
    (try simp only [Act.put, List.setIfInBounds_toArray, List.set_cons_zero, List.set_cons_succ])
    refine wpAnyK_takeD (i := 4) (v := ?_) (some 26) rfl rfl rfl (by kernel_rfl) (by kernel_rfl) (by kernel_rfl) (by kernel_rfl) (fun _ _ _ h => h) (Or.inl ⟨by rfl, ?hy⟩) (by assumption) ?_
    case hy => (intro w hSw; (try dsimp only at hSw); go_simp; with_reducible rfl)
    (try simp only [Act.put, List.setIfInBounds_toArray, List.set_cons_zero, List.set_cons_succ])
    refine wpAnyK_takeD (i := 5) (v := ?_) (some 27) rfl rfl rfl (by kernel_rfl) (by kernel_rfl) (by kernel_rfl) (by kernel_rfl) (fun _ _ _ h => h) (Or.inl ⟨by rfl, ?hy⟩) (by assumption) ?_
    case hy => (intro w hSw; (try dsimp only at hSw); go_simp; with_reducible rfl)
    (try simp only [Act.put, List.setIfInBounds_toArray, List.set_cons_zero, List.set_cons_succ])
    refine wpAnyK_takeD (i := 6) (v := ?_) (some 28) rfl rfl rfl (by kernel_rfl) (by kernel_rfl) (by kernel_rfl) (by kernel_rfl) (fun _ _ _ h => h) (Or.inl ⟨by rfl, ?hy⟩) (by assumption) ?_
    case hy => (intro w hSw; (try dsimp only at hSw); go_simp; with_reducible rfl)
    (try simp only [Act.put, List.setIfInBounds_toArray, List.set_cons_zero, List.set_cons_succ])
    refine wpAnyK_one (i := 7) rfl (by kernel_rfl) (by rfl) (by decide) (fun K hK => ?_)
    go_simp
    generalize hW2 : World.drew (World.alloc W1 _) = w2
    have hal := alloc1 W1 (.cells #[.int .i64 x.hr, .int .i64 x.sn, .int .i64 x.er] 96)
    have hEA : Ev W1 w2 := by rw [← hW2]; exact Ev.drew (Ev.alloc (Ev.refl _) _)
    have HAL := hid ((show Ev (World.alloc W1 (.cells #[.int .i64 x.hr, .int .i64 x.sn, .int .i64 x.er] 96)) w2 from by rw [← hW2]; exact Ev.drew (Ev.refl _)).heap hal.1)
    have hsz2 : w2.heap.size = W1.heap.size + 1 := by rw [← hW2]; exact hal.2
    clear hal hW2
    refine hK.out _ _ (HSE.out _ hEA) (fun hHeld => ?_)
    clear hK K
    (try simp only [Act.put, List.setIfInBounds_toArray, List.set_cons_zero, List.set_cons_succ])
    refine wpAnyK_one (i := 8) rfl (by kernel_rfl) (by rfl) (by decide) (fun K hK => ?_)
    have hown1 := hown.out.ev hEA
    have hps := hEA.size
    refine wp_append_own _ (.tmp 23) (.tmp 29) 26 rfl (p + 1) 96 i0 _ 3 24 Try.underlying26 hi0 hz0 hz1 hz2 rfl (by decide) _ ys.length (ys.flatMap rdc) rfl hown1 ⟨W1.heap.size, 0, none⟩ 1 1 [.int .i64 x.hr, .int .i64 x.sn, .int .i64 x.er] rfl rfl (news_in HAL.out) (by simp [Value.oneCell']) (by unfold maxLen; omega) (by omega) (by omega) ?_
    intro v' w3 hown' hgrow _
    have hown3 : w3.ownsRow (p + 1) 96 3 v' (ys ++ [x]).length ((ys ++ [x]).flatMap rdc) := by rw [List.flatMap_append, List.length_append]; exact hown'
    obtain ⟨V', ce', rfl⟩ := own_form hown3
    have hltA := hown1.lt
    have hqp := (hgrow.block p (by omega) (fun e => by have := (hltA p e.symm).1; omega)).trans (hEA.heap hC.out)
    have h0g := (hgrow.block w.heap.size (by omega) (fun e => by have := (hltA _ e.symm).1; omega)).trans (hEA.heap hQ0.out)
    have h1g := (hgrow.block (w.heap.size + 1) (by omega) (fun e => by have := (hltA _ e.symm).1; omega)).trans (hEA.heap hQ1.out)
    have hbg := hgrow.block b (by omega) (fun e => by have := (hltA _ e.symm).1; omega)
    have hSg : (∀ o, w3.cell? ⟨p, o, none⟩ = W1.cell? ⟨p, o, none⟩) ∧ (∀ o, w3.cell? ⟨w.heap.size, o, none⟩ = W1.cell? ⟨w.heap.size, o, none⟩) ∧ (∀ o, w3.cell? ⟨b, o, none⟩ = W1.cell? ⟨b, o, none⟩) := ⟨fun o => World.cell?_of_block (w := W1) (hqp.trans hC.out.symm), fun o => World.cell?_of_block (w := W1) (h0g.trans hQ0.out.symm), fun o => (World.cell?_of_block hbg).trans ((HSE.out _ hEA).2.2 o)⟩
    have HQP := hid hqp
    have H0G := hid h0g
    have H1G := hid h1g
    have HE3 := hid (Ev.grown (hB.trans hEA) hgrow (fun k e => by have := (hltA k e).1; omega))
    have HO3 := hid hown3
    clear h0g h1g hltA hown' hbg hgrow hown1 hown3
    refine hK.out _ _ (hSg) (fun hHeld => ?_)
    clear hK K
    (try simp only [Act.put, List.setIfInBounds_toArray, List.set_cons_zero, List.set_cons_succ])
    refine wpAnyK_takeD (i := 9) (v := ?_) (some 31) rfl rfl rfl (by kernel_rfl) (by kernel_rfl) (by kernel_rfl) (by kernel_rfl) (fun _ _ _ h => h) (Or.inl ⟨by rfl, ?hy⟩) (by assumption) ?_
    case hy => (intro w hSw; (try dsimp only at hSw); go_simp; with_reducible rfl)
    (try simp only [Act.put, List.setIfInBounds_toArray, List.set_cons_zero, List.set_cons_succ])
    obtain ⟨f0, f1, f2, f3, f4, f5, f6, f7, f8, f9⟩ := frz10 HQP.out
    refine wpAnyK_last rfl (by kernel_rfl) (by rfl) (fun K hK => ?_)
    go_simp
    refine hK.out _ _ ?_
    clear hK K
    (try simp only [Act.put, List.setIfInBounds_toArray, List.set_cons_zero, List.set_cons_succ])
    refine wpAnyK_done (by kernel_rfl) ?_ _
    go_wp2
    refine ⟨⟨k + 1, ys ++ [x], V', ce', by go_num, by omega, Ev.setCell HE3.out (by simp; omega) _, hid (set_heap H0G.out (by omega)), hid (set_heap H1G.out (by omega)), hid ?_, hid (own_set HO3.out HQP.out (by decide)), by simp; omega, hid (by rw [List.append_assoc]; exact HP2.out)⟩, by simp [intOf]; omega⟩
    rw [set_heap_same HQP.out, List.length_append]
    rfl
   ·
    have g2 : (q : Int) % 2 = 0 := by omega
    have g3 : (q : Int).tmod 2 = 0 := by rw [Int.tmod_eq_emod_of_nonneg (by omega)]; exact g2
    rw [if_neg hq, List.nil_append] at hp2
    have HP2 := hid hp2
    clear hp2 hq
    go_wp2_with fail
    exact ⟨⟨k + 1, ys, V, ce, by go_num, by omega, hB, hQ0, hQ1, hC, hown, by omega, HP2⟩, by simp [intOf]; omega⟩
  ·
   have hP2 := hid (show ys = M.keepK rb f.rds 0 by rw [← hP.out, hs.r.done (by omega)]; simp [M.keepK])
   have hn2 : ¬ ((k : Int) < nr) := by omega
   obtain ⟨y0, y1, y2, y3, y4, y5, y6, y7, y8, y9⟩ := cells10 hC.out
   obtain ⟨z0, z1, z2, z3, z4, z5, z6, z7, z8, z9⟩ := cells10 hQ1.out
   obtain ⟨f0, f1, f2, f3, f4, f5, f6, f7, f8, f9⟩ := frz10 hQ1.out
   have HS := hid hs
   clear hs hP
   go_wp2_with fail
   have hF := set10 (v0 := .int .i64 f.last) (v1 := .int .i64 f.size) (v2 := .int .i64 f.cool) (v3 := .int .i64 f.die) (v4 := .int .i64 f.burn) (v5 := .int .i64 f.st.lo) (v6 := .int .i64 f.st.hi) (v7 := .slice Aw nw cw) (v8 := .slice At nt ct) (v9 := .slice V ys.length ce) hQ1.out
   obtain ⟨x0, x1, x2, x3, x4, x5, x6, x7, x8, x9⟩ := cells10 hF
   have o4 := own_set10 (v0 := .int .i64 f.last) (v1 := .int .i64 f.size) (v2 := .int .i64 f.cool) (v3 := .int .i64 f.die) (v4 := .int .i64 f.burn) (v5 := .int .i64 f.st.lo) (v6 := .int .i64 f.st.hi) (v7 := .slice Aw nw cw) (v8 := .slice At nt ct) (v9 := .slice V ys.length ce) hown.out hQ1.out (by decide)
   have hsl := sl_own (enc := rdc) (by decide) (rdc_len _) (by omega) o4
   have hE9 := Ev.setCell (Ev.setCell (Ev.setCell (Ev.setCell (Ev.setCell (Ev.setCell (Ev.setCell (Ev.setCell (Ev.setCell (Ev.setCell hB (p := ⟨w.heap.size + 1, 0, none⟩) (by simp) (.int .i64 f.last)) (p := ⟨w.heap.size + 1, 1, none⟩) (by simp) (.int .i64 f.size)) (p := ⟨w.heap.size + 1, 2, none⟩) (by simp) (.int .i64 f.cool)) (p := ⟨w.heap.size + 1, 3, none⟩) (by simp) (.int .i64 f.die)) (p := ⟨w.heap.size + 1, 4, none⟩) (by simp) (.int .i64 f.burn)) (p := ⟨w.heap.size + 1, 5, none⟩) (by simp) (.int .i64 f.st.lo)) (p := ⟨w.heap.size + 1, 6, none⟩) (by simp) (.int .i64 f.st.hi)) (p := ⟨w.heap.size + 1, 7, none⟩) (by simp) (.slice Aw nw cw)) (p := ⟨w.heap.size + 1, 8, none⟩) (by simp) (.slice At nt ct)) (p := ⟨w.heap.size + 1, 9, none⟩) (by simp) (.slice V ys.length ce)
   have hcs := HS.out.ev hE9
   have hy := hP2.out
   subst hy
   exact bodyPost_ret (v := .agg #[.int .i64 f.last, .int .i64 f.size, .int .i64 f.cool, .int .i64 f.die, .int .i64 f.burn, .int .i64 f.st.lo, .int .i64 f.st.hi, .slice Aw nw cw, .slice At nt ct, .slice V (M.keepK rb f.rds 0).length ce]) (by simp [results, Try.results60, go_sem, x0, x1, x2, x3, x4, x5, x6, x7, x8, x9]) rfl ⟨⟨V, ce, rfl, ⟨hcs.w_, hcs.t, hsl⟩⟩, hE9⟩

end Go.Proofs.Ytgimcephbeajlaa
