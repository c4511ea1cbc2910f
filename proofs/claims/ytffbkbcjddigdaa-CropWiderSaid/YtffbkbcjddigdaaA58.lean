import Derived.Test.YtffbkbcjddigdaaA55
set_option linter.unusedSimpArgs false
set_option linter.unusedVariables false
namespace Go.Proofs.Ytffbkbcjddigdaa
open Go.RowKit Go.Shelf

theorem M.inAll_at : ∀ (ns : List Int) (rs : List M.Rg), M.inAll ns rs = true ↔ ns.length = rs.length ∧ ∀ (j : Nat) (n : Int) (r : M.Rg), ns[j]? = some n → rs[j]? = some r → M.holds r n = true
 | [], [] => by simp [M.inAll]
 | [], _ :: _ => by simp [M.inAll]
 | _ :: _, [] => by simp [M.inAll]
 | x :: xs, r :: rs => by
  rw [M.inAll, Bool.and_eq_true, M.inAll_at xs rs]
  constructor
  ·
   rintro ⟨h1, h2, h3⟩
   refine ⟨by simp [h2], fun j n q hn hq => ?_⟩
   cases j with
   | zero => simp at hn hq; subst hn hq; exact h1
   | succ j => exact h3 j n q (by simpa using hn) (by simpa using hq)
  ·
   rintro ⟨h1, h2⟩
   exact ⟨h2 0 x r rfl rfl, by simpa using h1, fun j n q hn hq => h2 (j + 1) n q (by simpa using hn) (by simpa using hq)⟩
/-- The k-th week is as it must be. -/
def M.wkOk (f : M.Cf) (t : M.Tr) (j : Nat) : Prop := ∀ x r u s, t.gr[j]? = some x → f.gr[j]? = some r → t.wet[j]? = some u → f.wet[j]? = some s → M.holds r x = true ∧ M.holds (M.wr s) u = true
theorem M.listed_at {f : M.Cf} {t : M.Tr} (h1 : t.gr.length = f.gr.length) (h2 : t.wet.length = f.wet.length) (h3 : f.gr.length = f.wet.length) : M.listed f t = true ↔ ∀ j, j < t.gr.length → M.wkOk f t j := by
 unfold M.listed M.ranges
 rw [Bool.and_eq_true, Bool.and_eq_true, decide_eq_true_eq, decide_eq_true_eq, M.inAll_at]
 constructor
 ·
  rintro ⟨_, _, _, h⟩ j hj x r u s hx hr hu hs
  refine ⟨h j x r (by rw [List.getElem?_append_left hj]; exact hx) (by rw [List.getElem?_append_left (by omega)]; exact hr), h (t.gr.length + j) u (M.wr s) ?_ ?_⟩
  ·
   rw [List.getElem?_append_right (by omega), Nat.add_sub_cancel_left]; exact hu
  ·
   rw [List.getElem?_append_right (by omega), h1, Nat.add_sub_cancel_left, List.getElem?_map, hs]; rfl
 ·
  intro h
  refine ⟨h1, h2, by simp [h1, h2], fun j n r hn hr => ?_⟩
  by_cases hj : j < t.gr.length
  ·
   rw [List.getElem?_append_left hj] at hn
   rw [List.getElem?_append_left (by omega)] at hr
   exact (h j hj n r (t.wet[j]'(by omega)) (f.wet[j]'(by omega)) hn hr (List.getElem?_eq_getElem _) (List.getElem?_eq_getElem _)).1
  ·
   rw [List.getElem?_append_right (by omega)] at hn
   rw [List.getElem?_append_right (by omega), List.getElem?_map] at hr
   have hl := (List.getElem?_eq_some_iff.1 hn).1
   cases hs : f.wet[j - f.gr.length]? with
   | none => rw [hs] at hr; cases hr
   | some s =>
    rw [hs] at hr
    obtain rfl : M.wr s = r := by simpa using hr
    rw [← h1] at hs
    exact (h (j - t.gr.length) (by omega) (t.gr[j - t.gr.length]'(by omega)) (f.gr[j - t.gr.length]'(by omega)) n s (List.getElem?_eq_getElem _) (List.getElem?_eq_getElem _) hn hs).2

set_option maxRecDepth 100000 in
set_option maxHeartbeats 4000000 in
theorem rIsListed_c (f : M.Cf) (Ag Aw Ab Ac Al : Option Addr) (ng cg nw cw nb cb nc cc nl cl : Nat) (Tg Tw : Option Addr) (tg tgc tw twc : Nat) (t : M.Tr) (hv : M.valid f = true) (w : World) (hs : CS w w.heap.size f Ag Aw Ab Ac Al ng cg nw cw nb cb nc cc nl cl) (hg : Sl ics 1 w w.heap.size Tg tg tgc t.gr) (hwt : Sl ics 1 w w.heap.size Tw tw twc t.wet) :
  Calls Try.prog 23 #[.agg #[.int .i64 f.last, .slice Ag ng cg, .slice Aw nw cw, .slice Ab nb cb, .slice Ac nc cc, .int .i64 f.ripe, .int .i64 f.late, .int .i64 f.trod, .slice Al nl cl], .agg #[.slice Tg tg tgc, .slice Tw tw twc]] w fun e w' => e = .returned (.bool (M.listed f t)) ∧ Ev w w' := by
 have hvp := M.valid_parts hv
 have g1 := hs.g.len
 have g2 := hs.w_.len
 have g3 := hg.len
 have g4 := hwt.len
 have hsm := hg.small
 by_cases q1 : tg = ng
 case neg =>
  have HD := hid (show M.listed f t = false by unfold M.listed; rw [decide_eq_false (by omega)]; rfl)
  have q1a : ((tg : Int) != ng) = true := by simp; omega
  clear hs hg hwt hvp hv g1 g2 g3 g4
  go_enter Try.func23, Try.ntmps23
  go_wp2_with (with_reducible refine ⟨trivial, ?_⟩)
  go_ret
  exact ⟨ret_bool HD.out.symm, Ev.alloc (Ev.alloc (Ev.refl _) _) _⟩
 by_cases q2 : tw = nw
 case neg =>
  have HD := hid (show M.listed f t = false by unfold M.listed; rw [decide_eq_false (show ¬ (t.wet.length = f.wet.length) by omega)]; simp)
  have q1a : ((tg : Int) != ng) = false := by simp; omega
  have q2a : ((tw : Int) != nw) = true := by simp; omega
  clear hs hg hwt hvp hv g1 g2 g3 g4 q1
  go_enter Try.func23, Try.ntmps23
  go_wp2_with (with_reducible refine ⟨trivial, ?_⟩)
  go_ret
  exact ⟨ret_bool HD.out.symm, Ev.alloc (Ev.alloc (Ev.refl _) _) _⟩
 have q1a : ((tg : Int) != ng) = false := by simp; omega
 have q2a : ((tw : Int) != nw) = false := by simp; omega
 have e1 : t.gr.length = f.gr.length := by omega
 have e2 : t.wet.length = f.wet.length := by omega
 have e3 : f.gr.length = f.wet.length := by omega
 have HLA := hid (M.listed_at e1 e2 e3)
 have HLN := hid (show tg = ng ∧ tw = nw ∧ nw = ng ∧ t.gr.length = tg from ⟨q1, q2, by omega, g3⟩)
 have HWB := hid hvp.2.2.2.2.1
 have HS := hid hs
 have HG := hid hg
 have HT := hid hwt
 clear hs hg hwt hvp hv g1 g2 g3 g4 q1 q2 e1 e2 e3
 go_enter Try.func23, Try.ntmps23
 go_wp2_with (with_reducible refine ⟨trivial, ?_⟩)
 generalize hW0 : World.alloc (World.alloc w _) _ = W0
 have hE0 : Ev w W0 := by rw [← hW0]; exact Ev.alloc (Ev.alloc (Ev.refl _) _) _
 have hal := alloc2 w (.cells #[.int .i64 f.last, .slice Ag ng cg, .slice Aw nw cw, .slice Ab nb cb, .slice Ac nc cc, .int .i64 f.ripe, .int .i64 f.late, .int .i64 f.trod, .slice Al nl cl] 26) (.cells #[.slice Tg tg tgc, .slice Tw tw twc] 28)
 rw [hW0] at hal
 have Q0 := hid hal.1
 have Q1 := hid hal.2.1
 clear hW0 hal
 go_loopw [5] (fun i wr => ∃ k : Nat, i = .int .i64 k ∧ k ≤ tg ∧ Ev W0 wr ∧ Hid (∀ j, j < k → M.wkOk f t j)) (fun i _ => tg - (intOf i).toNat)
 case atStart => exact ⟨0, rfl, by omega, Ev.refl _, hid (fun j hj => absurd hj (by omega))⟩
 case round =>
  obtain ⟨k, rfl, hk, hB, HM⟩ := hrel
  obtain ⟨W1, hW1⟩ : ∃ x, x = wr := ⟨_, rfl⟩
  subst hW1
  obtain ⟨y0, y1, y2, y3, y4, y5, y6, y7, y8⟩ := cells9 (hB.heap Q0.out)
  obtain ⟨c0, c1⟩ := cells2 (hB.heap Q1.out)
  have l0 := heap_lt (hB.heap Q0.out)
  have l1 := heap_lt (hB.heap Q1.out)
  have hzB := (hE0.trans hB).size
  by_cases hlt : k < tg
  ·
   obtain ⟨bx, ox, x, hA1, hbx, hx, _, e1⟩ := HG.out.int (hE0.trans hB) hlt
   obtain ⟨br, or, r, hA2, hbr, hr, _, hcr⟩ := HS.out.g.at_ (hE0.trans hB) (show k < ng by have := HLN.out; omega)
   obtain ⟨bu, ou, u, hA3, hbu, hu, _, e3⟩ := HT.out.int (hE0.trans hB) (show k < tw by have := HLN.out; omega)
   obtain ⟨bs, os, s, hA4, hbs, hss, _, e4⟩ := HS.out.w_.int (hE0.trans hB) (show k < nw by have := HLN.out; omega)
   have r0 := hcr 0 _ rfl
   have r1 := hcr 1 _ rfl
   simp only [Nat.add_zero] at r0
   have n1 : k < ng := by have := HLN.out; omega
   have n2 : k < tw := by have := HLN.out; omega
   have n3 : k < nw := by have := HLN.out; omega
   have p1 := HG.out.cap
   have p2 := HS.out.g.cap
   have p3 := HT.out.cap
   have p4 := HS.out.w_.cap
   have lx : bx < W1.heap.size := by omega
   have lr : br < W1.heap.size := by omega
   have lu : bu < W1.heap.size := by omega
   have ls : bs < W1.heap.size := by omega
   have hs2 := HWB.out s (List.mem_of_getElem? hss)
   have HOK := hid (show M.wkOk f t k ↔ (M.isIn x r.lo r.hi = true ∧ M.holds (M.wr s) u = true) from ⟨fun h => h x r u s hx hr hu hss, fun h x' r' u' s' hx' hr' hu' hs' => by
    rw [hx] at hx'; rw [hr] at hr'; rw [hu] at hu'; rw [hss] at hs'
    cases hx'; cases hr'; cases hu'; cases hs'
    exact h⟩)
   have HBAD := hid (show ¬ M.wkOk f t k → false = M.listed f t by
    intro hn
    cases hl : M.listed f t with
    | false => rfl
    | true => exact absurd (HLA.out.1 hl k (by have := HLN.out; omega)) hn)
   have HGOOD := hid (show M.wkOk f t k → ∀ j, j < k + 1 → M.wkOk f t j from fun h j hj => by
    by_cases hjk : j < k
    ·
     exact HM.out j hjk
    ·
     obtain rfl : j = k := by omega
     exact h)
   subst hA1 hA2 hA3 hA4
   clear hx hr hu hss hcr
   have hi1 := fun W => In_c x r.lo r.hi W
   have hi2 := fun W => In_c u 0 1 W
   have HSE : Hid (∀ w', Ev W1 w' → (∀ o, w'.cell? ⟨w.heap.size, o, none⟩ = W1.cell? ⟨w.heap.size, o, none⟩) ∧ (∀ o, w'.cell? ⟨w.heap.size + 1, o, none⟩ = W1.cell? ⟨w.heap.size + 1, o, none⟩) ∧ (∀ o, w'.cell? ⟨bx, o, none⟩ = W1.cell? ⟨bx, o, none⟩) ∧ (∀ o, w'.cell? ⟨br, o, none⟩ = W1.cell? ⟨br, o, none⟩) ∧ (∀ o, w'.cell? ⟨bu, o, none⟩ = W1.cell? ⟨bu, o, none⟩) ∧ (∀ o, w'.cell? ⟨bs, o, none⟩ = W1.cell? ⟨bs, o, none⟩)) := hid (fun w' h => ⟨fun o => h.cells.1 _ o l0, fun o => h.cells.1 _ o l1, fun o => h.cells.1 _ o lx, fun o => h.cells.1 _ o lr, fun o => h.cells.1 _ o lu, fun o => h.cells.1 _ o ls⟩)
   cases hb1 : M.isIn x r.lo r.hi with
   | false =>
    have HF := hid (HBAD.out (by rw [HOK.out, hb1]; simp))
    rw [hb1] at hi1
    have HI1 := hid hi1
    clear hi1 hi2 hb1
    go_upto_region 6 with fail
    refine wp_region_held_drew (S := fun w' => (∀ o, w'.cell? ⟨w.heap.size, o, none⟩ = W1.cell? ⟨w.heap.size, o, none⟩) ∧ (∀ o, w'.cell? ⟨w.heap.size + 1, o, none⟩ = W1.cell? ⟨w.heap.size + 1, o, none⟩) ∧ (∀ o, w'.cell? ⟨bx, o, none⟩ = W1.cell? ⟨bx, o, none⟩) ∧ (∀ o, w'.cell? ⟨br, o, none⟩ = W1.cell? ⟨br, o, none⟩) ∧ (∀ o, w'.cell? ⟨bu, o, none⟩ = W1.cell? ⟨bu, o, none⟩) ∧ (∀ o, w'.cell? ⟨bs, o, none⟩ = W1.cell? ⟨bs, o, none⟩)) (by kernel_rfl) (⟨fun o => rfl, fun o => rfl, fun o => rfl, fun o => rfl, fun o => rfl, fun o => rfl⟩) (fun hHeld => ?_)
    refine tkH 0 (some 29) ?_
    (try simp only [Act.put, sA, sB, sC])
    refine tkH 1 (some 30) ?_
    (try simp only [Act.put, sA, sB, sC])
    refine tkH 2 (some 31) ?_
    (try simp only [Act.put, sA, sB, sC])
    refine tkH 3 (some 32) ?_
    (try simp only [Act.put, sA, sB, sC])
    refine tkH 4 (some 33) ?_
    (try simp only [Act.put, sA, sB, sC])
    refine tkH 5 (some 34) ?_
    (try simp only [Act.put, sA, sB, sC])
    refine tkH 6 (some 35) ?_
    (try simp only [Act.put, sA, sB, sC])
    refine tkH 7 (some 36) ?_
    (try simp only [Act.put, sA, sB, sC])
    refine tkH 8 (some 37) ?_
    (try simp only [Act.put, sA, sB, sC])
    refine tkH 9 (some 38) ?_
    (try simp only [Act.put, sA, sB, sC])
    refine tkH 10 (some 39) ?_
    (try simp only [Act.put, sA, sB, sC])
    refine tkH 11 (some 40) ?_
    (try simp only [Act.put, sA, sB, sC])
    refine tkH 12 (some 41) ?_
    (try simp only [Act.put, sA, sB, sC])
    refine tkH 13 (some 42) ?_
    (try simp only [Act.put, sA, sB, sC])
    refine tkH 14 (some 43) ?_
    (try simp only [Act.put, sA, sB, sC])
    refine tkH 15 (some 44) ?_
    (try simp only [Act.put, sA, sB, sC])
    refine tkH 16 (some 45) ?_
    (try simp only [Act.put, sA, sB, sC])
    refine wpAnyH_one (i := 17) rfl (by kernel_rfl) (by rfl) (fun K hK => ?_)
    go_simp
    refine (HI1.out _).mono ?_
    rintro e x1 ⟨rfl, hb⟩
    have hV1 : Ev W1 x1 := Ev.trans (Ev.drew (Ev.refl _)) hb
    refine hK.out _ _ (HSE.out _ hV1) (fun hHeld => ?_)
    clear hK K
    (try simp only [Act.put, List.setIfInBounds_toArray, List.set_cons_zero, List.set_cons_succ])
    refine tkH 18 (some 47) ?_
    (try simp only [Act.put, sA, sB, sC])
    refine tkH 19 (some 48) ?_
    (try simp only [Act.put, sA, sB, sC])
    refine wpAnyH_skip (i := 20) (some 49) rfl (by kernel_rfl) (by kernel_rfl) (by kernel_rfl) (fun _ _ _ h => h) (by rfl) (by assumption) ?_
    (try simp only [Act.put, List.setIfInBounds_toArray, List.set_cons_zero, List.set_cons_succ])
    refine wpAnyH_skip (i := 21) (some 50) rfl (by kernel_rfl) (by kernel_rfl) (by kernel_rfl) (fun _ _ _ h => h) (by rfl) (by assumption) ?_
    (try simp only [Act.put, List.setIfInBounds_toArray, List.set_cons_zero, List.set_cons_succ])
    refine wpAnyH_skip (i := 22) (some 51) rfl (by kernel_rfl) (by kernel_rfl) (by kernel_rfl) (fun _ _ _ h => h) (by rfl) (by assumption) ?_
    (try simp only [Act.put, List.setIfInBounds_toArray, List.set_cons_zero, List.set_cons_succ])
    refine wpAnyH_skip (i := 23) (some 52) rfl (by kernel_rfl) (by kernel_rfl) (by kernel_rfl) (fun _ _ _ h => h) (by rfl) (by assumption) ?_
    (try simp only [Act.put, List.setIfInBounds_toArray, List.set_cons_zero, List.set_cons_succ])
    refine wpAnyH_skip (i := 24) (some 53) rfl (by kernel_rfl) (by kernel_rfl) (by kernel_rfl) (fun _ _ _ h => h) (by rfl) (by assumption) ?_
    (try simp only [Act.put, List.setIfInBounds_toArray, List.set_cons_zero, List.set_cons_succ])
    refine wpAnyH_skip (i := 25) (some 54) rfl (by kernel_rfl) (by kernel_rfl) (by kernel_rfl) (fun _ _ _ h => h) (by rfl) (by assumption) ?_
    (try simp only [Act.put, List.setIfInBounds_toArray, List.set_cons_zero, List.set_cons_succ])
    refine wpAnyH_skip (i := 26) (some 55) rfl (by kernel_rfl) (by kernel_rfl) (by kernel_rfl) (fun _ _ _ h => h) (by rfl) (by assumption) ?_
    (try simp only [Act.put, List.setIfInBounds_toArray, List.set_cons_zero, List.set_cons_succ])
    refine tkH 27 (some 56) ?_
    (try simp only [Act.put, sA, sB, sC])
    refine tkH 28 (some 57) ?_
    (try simp only [Act.put, sA, sB, sC])
    refine wpAnyH_skip (i := 29) (some 58) rfl (by kernel_rfl) (by kernel_rfl) (by kernel_rfl) (fun _ _ _ h => h) (by rfl) (by assumption) ?_
    (try simp only [Act.put, List.setIfInBounds_toArray, List.set_cons_zero, List.set_cons_succ])
    refine wpAnyH_skip (i := 30) (some 59) rfl (by kernel_rfl) (by kernel_rfl) (by kernel_rfl) (fun _ _ _ h => h) (by rfl) (by assumption) ?_
    (try simp only [Act.put, List.setIfInBounds_toArray, List.set_cons_zero, List.set_cons_succ])
    refine wpAnyH_skip (i := 31) (some 60) rfl (by kernel_rfl) (by kernel_rfl) (by kernel_rfl) (fun _ _ _ h => h) (by rfl) (by assumption) ?_
    (try simp only [Act.put, List.setIfInBounds_toArray, List.set_cons_zero, List.set_cons_succ])
    refine wpAnyH_skip (i := 32) (some 61) rfl (by kernel_rfl) (by kernel_rfl) (by kernel_rfl) (fun _ _ _ h => h) (by rfl) (by assumption) ?_
    (try simp only [Act.put, List.setIfInBounds_toArray, List.set_cons_zero, List.set_cons_succ])
    refine wpAnyH_skip (i := 33) (some 62) rfl (by kernel_rfl) (by kernel_rfl) (by kernel_rfl) (fun _ _ _ h => h) (by rfl) (by assumption) ?_
    (try simp only [Act.put, List.setIfInBounds_toArray, List.set_cons_zero, List.set_cons_succ])
    refine wpAnyH_skip (i := 34) (some 63) rfl (by kernel_rfl) (by kernel_rfl) (by kernel_rfl) (fun _ _ _ h => h) (by rfl) (by assumption) ?_
    (try simp only [Act.put, List.setIfInBounds_toArray, List.set_cons_zero, List.set_cons_succ])
    refine wpAnyH_skip (i := 35) (some 64) rfl (by kernel_rfl) (by kernel_rfl) (by kernel_rfl) (fun _ _ _ h => h) (by rfl) (by assumption) ?_
    (try simp only [Act.put, List.setIfInBounds_toArray, List.set_cons_zero, List.set_cons_succ])
    refine wpAnyH_skip (i := 36) (some 65) rfl (by kernel_rfl) (by kernel_rfl) (by kernel_rfl) (fun _ _ _ h => h) (by rfl) (by assumption) ?_
    (try simp only [Act.put, List.setIfInBounds_toArray, List.set_cons_zero, List.set_cons_succ])
    refine wpAnyH_skip (i := 37) (some 66) rfl (by kernel_rfl) (by kernel_rfl) (by kernel_rfl) (fun _ _ _ h => h) (by rfl) (by assumption) ?_
    (try simp only [Act.put, List.setIfInBounds_toArray, List.set_cons_zero, List.set_cons_succ])
    refine wpAnyH_skip (i := 38) (some 67) rfl (by kernel_rfl) (by kernel_rfl) (by kernel_rfl) (fun _ _ _ h => h) (by rfl) (by assumption) ?_
    (try simp only [Act.put, List.setIfInBounds_toArray, List.set_cons_zero, List.set_cons_succ])
    refine wpAnyH_skip (i := 39) (some 68) rfl (by kernel_rfl) (by kernel_rfl) (by kernel_rfl) (fun _ _ _ h => h) (by rfl) (by assumption) ?_
    (try simp only [Act.put, List.setIfInBounds_toArray, List.set_cons_zero, List.set_cons_succ])
    refine wpAnyH_skip (i := 40) (some 69) rfl (by kernel_rfl) (by kernel_rfl) (by kernel_rfl) (fun _ _ _ h => h) (by rfl) (by assumption) ?_
    (try simp only [Act.put, List.setIfInBounds_toArray, List.set_cons_zero, List.set_cons_succ])
    refine wpAnyH_skip (i := 41) (some 70) rfl (by kernel_rfl) (by kernel_rfl) (by kernel_rfl) (fun _ _ _ h => h) (by rfl) (by assumption) ?_
    (try simp only [Act.put, List.setIfInBounds_toArray, List.set_cons_zero, List.set_cons_succ])
    refine wpAnyH_skip (i := 42) (some 71) rfl (by kernel_rfl) (by kernel_rfl) (by kernel_rfl) (fun _ _ _ h => h) (by rfl) (by assumption) ?_
    (try simp only [Act.put, List.setIfInBounds_toArray, List.set_cons_zero, List.set_cons_succ])
    refine wpAnyH_skip (i := 43) (some 72) rfl (by kernel_rfl) (by kernel_rfl) (by kernel_rfl) (fun _ _ _ h => h) (by rfl) (by assumption) ?_
    (try simp only [Act.put, List.setIfInBounds_toArray, List.set_cons_zero, List.set_cons_succ])
    refine wpAnyH_skip (i := 44) (some 73) rfl (by kernel_rfl) (by kernel_rfl) (by kernel_rfl) (fun _ _ _ h => h) (by rfl) (by assumption) ?_
    (try simp only [Act.put, List.setIfInBounds_toArray, List.set_cons_zero, List.set_cons_succ])
    refine wpAnyH_skip (i := 45) (some 74) rfl (by kernel_rfl) (by kernel_rfl) (by kernel_rfl) (fun _ _ _ h => h) (by rfl) (by assumption) ?_
    (try simp only [Act.put, List.setIfInBounds_toArray, List.set_cons_zero, List.set_cons_succ])
    refine wpAnyH_skip (i := 46) (some 75) rfl (by kernel_rfl) (by kernel_rfl) (by kernel_rfl) (fun _ _ _ h => h) (by rfl) (by assumption) ?_
    (try simp only [Act.put, List.setIfInBounds_toArray, List.set_cons_zero, List.set_cons_succ])
    refine wpAnyH_skip (i := 47) (some 76) rfl (by kernel_rfl) (by kernel_rfl) (by kernel_rfl) (fun _ _ _ h => h) (by rfl) (by assumption) ?_
    (try simp only [Act.put, List.setIfInBounds_toArray, List.set_cons_zero, List.set_cons_succ])
    refine tkH 48 (some 77) ?_
    (try simp only [Act.put, sA, sB, sC])
    refine wpAnyH_done (by kernel_rfl) ?_ _
    go_wp2
    go_ret
    exact ⟨ret_bool HF.out, hE0.trans (hB.trans hV1)⟩
   | true =>
    rw [hb1] at hi1
    have HI1 := hid hi1
    have HB1 := hid hb1
    clear hi1 hb1
    cases hb2 : M.isIn u 0 1 with
    | false =>
     have hh : M.holds (M.wr s) u = false := by
      cases hw : M.holds (M.wr s) u with
      | false => rfl
      | true =>
       exfalso
       unfold M.isIn at hb2
       unfold M.holds M.wr at hw
       by_cases h2 : s = 2
       ·
        rw [if_pos h2] at hw
        simp only [Bool.and_eq_true, decide_eq_true_eq] at hw
        simp [hw] at hb2
       ·
        rw [if_neg h2] at hw
        simp only [Bool.and_eq_true, decide_eq_true_eq] at hw
        rw [decide_eq_true (by omega), decide_eq_true (by omega)] at hb2
        cases hb2
     have HF := hid (HBAD.out (by rw [HOK.out, hh]; simp))
     rw [hb2] at hi2
     have HI2 := hid hi2
     clear hi2 hb2 hh
     go_upto_region 6 with fail
     refine wp_region_held_drew (S := fun w' => (∀ o, w'.cell? ⟨w.heap.size, o, none⟩ = W1.cell? ⟨w.heap.size, o, none⟩) ∧ (∀ o, w'.cell? ⟨w.heap.size + 1, o, none⟩ = W1.cell? ⟨w.heap.size + 1, o, none⟩) ∧ (∀ o, w'.cell? ⟨bx, o, none⟩ = W1.cell? ⟨bx, o, none⟩) ∧ (∀ o, w'.cell? ⟨br, o, none⟩ = W1.cell? ⟨br, o, none⟩) ∧ (∀ o, w'.cell? ⟨bu, o, none⟩ = W1.cell? ⟨bu, o, none⟩) ∧ (∀ o, w'.cell? ⟨bs, o, none⟩ = W1.cell? ⟨bs, o, none⟩)) (by kernel_rfl) (⟨fun o => rfl, fun o => rfl, fun o => rfl, fun o => rfl, fun o => rfl, fun o => rfl⟩) (fun hHeld => ?_)
     refine tkH 0 (some 29) ?_
     (try simp only [Act.put, sA, sB, sC])
     refine tkH 1 (some 30) ?_
     (try simp only [Act.put, sA, sB, sC])
     refine tkH 2 (some 31) ?_
     (try simp only [Act.put, sA, sB, sC])
     refine tkH 3 (some 32) ?_
     (try simp only [Act.put, sA, sB, sC])
     refine tkH 4 (some 33) ?_
     (try simp only [Act.put, sA, sB, sC])
     refine tkH 5 (some 34) ?_
     (try simp only [Act.put, sA, sB, sC])
     refine tkH 6 (some 35) ?_
     (try simp only [Act.put, sA, sB, sC])
     refine tkH 7 (some 36) ?_
     (try simp only [Act.put, sA, sB, sC])
     refine tkH 8 (some 37) ?_
     (try simp only [Act.put, sA, sB, sC])
     refine tkH 9 (some 38) ?_
     (try simp only [Act.put, sA, sB, sC])
     refine tkH 10 (some 39) ?_
     (try simp only [Act.put, sA, sB, sC])
     refine tkH 11 (some 40) ?_
     (try simp only [Act.put, sA, sB, sC])
     refine tkH 12 (some 41) ?_
     (try simp only [Act.put, sA, sB, sC])
     refine tkH 13 (some 42) ?_
     (try simp only [Act.put, sA, sB, sC])
     refine tkH 14 (some 43) ?_
     (try simp only [Act.put, sA, sB, sC])
     refine tkH 15 (some 44) ?_
     (try simp only [Act.put, sA, sB, sC])
     refine tkH 16 (some 45) ?_
     (try simp only [Act.put, sA, sB, sC])
     refine wpAnyH_one (i := 17) rfl (by kernel_rfl) (by rfl) (fun K hK => ?_)
     go_simp
     refine (HI1.out _).mono ?_
     rintro e x1 ⟨rfl, hb⟩
     have hV1 : Ev W1 x1 := Ev.trans (Ev.drew (Ev.refl _)) hb
     refine hK.out _ _ (HSE.out _ hV1) (fun hHeld => ?_)
     clear hK K
     (try simp only [Act.put, List.setIfInBounds_toArray, List.set_cons_zero, List.set_cons_succ])
     refine tkH 18 (some 47) ?_
     (try simp only [Act.put, sA, sB, sC])
     refine tkH 19 (some 48) ?_
     (try simp only [Act.put, sA, sB, sC])
     refine tkH 20 (some 49) ?_
     (try simp only [Act.put, sA, sB, sC])
     refine tkH 21 (some 50) ?_
     (try simp only [Act.put, sA, sB, sC])
     refine tkH 22 (some 51) ?_
     (try simp only [Act.put, sA, sB, sC])
     refine tkH 23 (some 52) ?_
     (try simp only [Act.put, sA, sB, sC])
     refine tkH 24 (some 53) ?_
     (try simp only [Act.put, sA, sB, sC])
     refine wpAnyH_one (i := 25) rfl (by kernel_rfl) (by rfl) (fun K hK => ?_)
     go_simp
     refine (HI2.out _).mono ?_
     rintro e x2 ⟨rfl, hb⟩
     have hV2 : Ev W1 x2 := Ev.trans hV1 hb
     refine hK.out _ _ (HSE.out _ hV2) (fun hHeld => ?_)
     clear hK K
     (try simp only [Act.put, List.setIfInBounds_toArray, List.set_cons_zero, List.set_cons_succ])
     refine tkH 26 (some 55) ?_
     (try simp only [Act.put, sA, sB, sC])
     refine tkH 27 (some 56) ?_
     (try simp only [Act.put, sA, sB, sC])
     refine tkH 28 (some 57) ?_
     (try simp only [Act.put, sA, sB, sC])
     refine wpAnyH_skip (i := 29) (some 58) rfl (by kernel_rfl) (by kernel_rfl) (by kernel_rfl) (fun _ _ _ h => h) (by rfl) (by assumption) ?_
     (try simp only [Act.put, List.setIfInBounds_toArray, List.set_cons_zero, List.set_cons_succ])
     refine wpAnyH_skip (i := 30) (some 59) rfl (by kernel_rfl) (by kernel_rfl) (by kernel_rfl) (fun _ _ _ h => h) (by rfl) (by assumption) ?_
     (try simp only [Act.put, List.setIfInBounds_toArray, List.set_cons_zero, List.set_cons_succ])
     refine wpAnyH_skip (i := 31) (some 60) rfl (by kernel_rfl) (by kernel_rfl) (by kernel_rfl) (fun _ _ _ h => h) (by rfl) (by assumption) ?_
     (try simp only [Act.put, List.setIfInBounds_toArray, List.set_cons_zero, List.set_cons_succ])
     refine wpAnyH_skip (i := 32) (some 61) rfl (by kernel_rfl) (by kernel_rfl) (by kernel_rfl) (fun _ _ _ h => h) (by rfl) (by assumption) ?_
     (try simp only [Act.put, List.setIfInBounds_toArray, List.set_cons_zero, List.set_cons_succ])
     refine wpAnyH_skip (i := 33) (some 62) rfl (by kernel_rfl) (by kernel_rfl) (by kernel_rfl) (fun _ _ _ h => h) (by rfl) (by assumption) ?_
     (try simp only [Act.put, List.setIfInBounds_toArray, List.set_cons_zero, List.set_cons_succ])
     refine wpAnyH_skip (i := 34) (some 63) rfl (by kernel_rfl) (by kernel_rfl) (by kernel_rfl) (fun _ _ _ h => h) (by rfl) (by assumption) ?_
     (try simp only [Act.put, List.setIfInBounds_toArray, List.set_cons_zero, List.set_cons_succ])
     refine wpAnyH_skip (i := 35) (some 64) rfl (by kernel_rfl) (by kernel_rfl) (by kernel_rfl) (fun _ _ _ h => h) (by rfl) (by assumption) ?_
     (try simp only [Act.put, List.setIfInBounds_toArray, List.set_cons_zero, List.set_cons_succ])
     refine wpAnyH_skip (i := 36) (some 65) rfl (by kernel_rfl) (by kernel_rfl) (by kernel_rfl) (fun _ _ _ h => h) (by rfl) (by assumption) ?_
     (try simp only [Act.put, List.setIfInBounds_toArray, List.set_cons_zero, List.set_cons_succ])
     refine wpAnyH_skip (i := 37) (some 66) rfl (by kernel_rfl) (by kernel_rfl) (by kernel_rfl) (fun _ _ _ h => h) (by rfl) (by assumption) ?_
     (try simp only [Act.put, List.setIfInBounds_toArray, List.set_cons_zero, List.set_cons_succ])
     refine wpAnyH_skip (i := 38) (some 67) rfl (by kernel_rfl) (by kernel_rfl) (by kernel_rfl) (fun _ _ _ h => h) (by rfl) (by assumption) ?_
     (try simp only [Act.put, List.setIfInBounds_toArray, List.set_cons_zero, List.set_cons_succ])
     refine wpAnyH_skip (i := 39) (some 68) rfl (by kernel_rfl) (by kernel_rfl) (by kernel_rfl) (fun _ _ _ h => h) (by rfl) (by assumption) ?_
     (try simp only [Act.put, List.setIfInBounds_toArray, List.set_cons_zero, List.set_cons_succ])
     refine wpAnyH_skip (i := 40) (some 69) rfl (by kernel_rfl) (by kernel_rfl) (by kernel_rfl) (fun _ _ _ h => h) (by rfl) (by assumption) ?_
     (try simp only [Act.put, List.setIfInBounds_toArray, List.set_cons_zero, List.set_cons_succ])
     refine wpAnyH_skip (i := 41) (some 70) rfl (by kernel_rfl) (by kernel_rfl) (by kernel_rfl) (fun _ _ _ h => h) (by rfl) (by assumption) ?_
     (try simp only [Act.put, List.setIfInBounds_toArray, List.set_cons_zero, List.set_cons_succ])
     refine wpAnyH_skip (i := 42) (some 71) rfl (by kernel_rfl) (by kernel_rfl) (by kernel_rfl) (fun _ _ _ h => h) (by rfl) (by assumption) ?_
     (try simp only [Act.put, List.setIfInBounds_toArray, List.set_cons_zero, List.set_cons_succ])
     refine wpAnyH_skip (i := 43) (some 72) rfl (by kernel_rfl) (by kernel_rfl) (by kernel_rfl) (fun _ _ _ h => h) (by rfl) (by assumption) ?_
     (try simp only [Act.put, List.setIfInBounds_toArray, List.set_cons_zero, List.set_cons_succ])
     refine wpAnyH_skip (i := 44) (some 73) rfl (by kernel_rfl) (by kernel_rfl) (by kernel_rfl) (fun _ _ _ h => h) (by rfl) (by assumption) ?_
     (try simp only [Act.put, List.setIfInBounds_toArray, List.set_cons_zero, List.set_cons_succ])
     refine wpAnyH_skip (i := 45) (some 74) rfl (by kernel_rfl) (by kernel_rfl) (by kernel_rfl) (fun _ _ _ h => h) (by rfl) (by assumption) ?_
     (try simp only [Act.put, List.setIfInBounds_toArray, List.set_cons_zero, List.set_cons_succ])
     refine wpAnyH_skip (i := 46) (some 75) rfl (by kernel_rfl) (by kernel_rfl) (by kernel_rfl) (fun _ _ _ h => h) (by rfl) (by assumption) ?_
     (try simp only [Act.put, List.setIfInBounds_toArray, List.set_cons_zero, List.set_cons_succ])
     refine wpAnyH_skip (i := 47) (some 76) rfl (by kernel_rfl) (by kernel_rfl) (by kernel_rfl) (fun _ _ _ h => h) (by rfl) (by assumption) ?_
     (try simp only [Act.put, List.setIfInBounds_toArray, List.set_cons_zero, List.set_cons_succ])
     refine tkH 48 (some 77) ?_
     (try simp only [Act.put, sA, sB, sC])
     refine wpAnyH_done (by kernel_rfl) ?_ _
     go_wp2
     go_ret
     exact ⟨ret_bool HF.out, hE0.trans (hB.trans hV2)⟩
    | true =>
     have hu2 : 0 ≤ u ∧ u ≤ 1 := by unfold M.isIn at hb2; simpa using hb2
     rw [hb2] at hi2
     have HI2 := hid hi2
     clear hi2 hb2
     by_cases h2 : s = 2
     ·
      have HN := hid (HGOOD.out (by rw [HOK.out]; refine ⟨HB1.out, ?_⟩; unfold M.holds M.wr; rw [if_pos h2]; simp; omega))
      have t2 : (s != 2) = false := by simp [h2]
      clear h2
      go_upto_region 6 with fail
      refine wp_region_held_drew (S := fun w' => (∀ o, w'.cell? ⟨w.heap.size, o, none⟩ = W1.cell? ⟨w.heap.size, o, none⟩) ∧ (∀ o, w'.cell? ⟨w.heap.size + 1, o, none⟩ = W1.cell? ⟨w.heap.size + 1, o, none⟩) ∧ (∀ o, w'.cell? ⟨bx, o, none⟩ = W1.cell? ⟨bx, o, none⟩) ∧ (∀ o, w'.cell? ⟨br, o, none⟩ = W1.cell? ⟨br, o, none⟩) ∧ (∀ o, w'.cell? ⟨bu, o, none⟩ = W1.cell? ⟨bu, o, none⟩) ∧ (∀ o, w'.cell? ⟨bs, o, none⟩ = W1.cell? ⟨bs, o, none⟩)) (by kernel_rfl) (⟨fun o => rfl, fun o => rfl, fun o => rfl, fun o => rfl, fun o => rfl, fun o => rfl⟩) (fun hHeld => ?_)
      refine tkH 0 (some 29) ?_
      (try simp only [Act.put, sA, sB, sC])
      refine tkH 1 (some 30) ?_
      (try simp only [Act.put, sA, sB, sC])
      refine tkH 2 (some 31) ?_
      (try simp only [Act.put, sA, sB, sC])
      refine tkH 3 (some 32) ?_
      (try simp only [Act.put, sA, sB, sC])
      refine tkH 4 (some 33) ?_
      (try simp only [Act.put, sA, sB, sC])
      refine tkH 5 (some 34) ?_
      (try simp only [Act.put, sA, sB, sC])
      refine tkH 6 (some 35) ?_
      (try simp only [Act.put, sA, sB, sC])
      refine tkH 7 (some 36) ?_
      (try simp only [Act.put, sA, sB, sC])
      refine tkH 8 (some 37) ?_
      (try simp only [Act.put, sA, sB, sC])
      refine tkH 9 (some 38) ?_
      (try simp only [Act.put, sA, sB, sC])
      refine tkH 10 (some 39) ?_
      (try simp only [Act.put, sA, sB, sC])
      refine tkH 11 (some 40) ?_
      (try simp only [Act.put, sA, sB, sC])
      refine tkH 12 (some 41) ?_
      (try simp only [Act.put, sA, sB, sC])
      refine tkH 13 (some 42) ?_
      (try simp only [Act.put, sA, sB, sC])
      refine tkH 14 (some 43) ?_
      (try simp only [Act.put, sA, sB, sC])
      refine tkH 15 (some 44) ?_
      (try simp only [Act.put, sA, sB, sC])
      refine tkH 16 (some 45) ?_
      (try simp only [Act.put, sA, sB, sC])
      refine wpAnyH_one (i := 17) rfl (by kernel_rfl) (by rfl) (fun K hK => ?_)
      go_simp
      refine (HI1.out _).mono ?_
      rintro e x1 ⟨rfl, hb⟩
      have hV1 : Ev W1 x1 := Ev.trans (Ev.drew (Ev.refl _)) hb
      refine hK.out _ _ (HSE.out _ hV1) (fun hHeld => ?_)
      clear hK K
      (try simp only [Act.put, List.setIfInBounds_toArray, List.set_cons_zero, List.set_cons_succ])
      refine tkH 18 (some 47) ?_
      (try simp only [Act.put, sA, sB, sC])
      refine tkH 19 (some 48) ?_
      (try simp only [Act.put, sA, sB, sC])
      refine tkH 20 (some 49) ?_
      (try simp only [Act.put, sA, sB, sC])
      refine tkH 21 (some 50) ?_
      (try simp only [Act.put, sA, sB, sC])
      refine tkH 22 (some 51) ?_
      (try simp only [Act.put, sA, sB, sC])
      refine tkH 23 (some 52) ?_
      (try simp only [Act.put, sA, sB, sC])
      refine tkH 24 (some 53) ?_
      (try simp only [Act.put, sA, sB, sC])
      refine wpAnyH_one (i := 25) rfl (by kernel_rfl) (by rfl) (fun K hK => ?_)
      go_simp
      refine (HI2.out _).mono ?_
      rintro e x2 ⟨rfl, hb⟩
      have hV2 : Ev W1 x2 := Ev.trans hV1 hb
      refine hK.out _ _ (HSE.out _ hV2) (fun hHeld => ?_)
      clear hK K
      (try simp only [Act.put, List.setIfInBounds_toArray, List.set_cons_zero, List.set_cons_succ])
      refine tkH 26 (some 55) ?_
      (try simp only [Act.put, sA, sB, sC])
      refine tkH 27 (some 56) ?_
      (try simp only [Act.put, sA, sB, sC])
      refine tkH 28 (some 57) ?_
      (try simp only [Act.put, sA, sB, sC])
      refine tkH 29 (some 58) ?_
      (try simp only [Act.put, sA, sB, sC])
      refine tkH 30 (some 59) ?_
      (try simp only [Act.put, sA, sB, sC])
      refine tkH 31 (some 60) ?_
      (try simp only [Act.put, sA, sB, sC])
      refine tkH 32 (some 61) ?_
      (try simp only [Act.put, sA, sB, sC])
      refine tkH 33 (some 62) ?_
      (try simp only [Act.put, sA, sB, sC])
      refine tkH 34 (some 63) ?_
      (try simp only [Act.put, sA, sB, sC])
      refine tkH 35 (some 64) ?_
      (try simp only [Act.put, sA, sB, sC])
      refine wpAnyH_skip (i := 36) (some 65) rfl (by kernel_rfl) (by kernel_rfl) (by kernel_rfl) (fun _ _ _ h => h) (by rfl) (by assumption) ?_
      (try simp only [Act.put, List.setIfInBounds_toArray, List.set_cons_zero, List.set_cons_succ])
      refine wpAnyH_skip (i := 37) (some 66) rfl (by kernel_rfl) (by kernel_rfl) (by kernel_rfl) (fun _ _ _ h => h) (by rfl) (by assumption) ?_
      (try simp only [Act.put, List.setIfInBounds_toArray, List.set_cons_zero, List.set_cons_succ])
      refine wpAnyH_skip (i := 38) (some 67) rfl (by kernel_rfl) (by kernel_rfl) (by kernel_rfl) (fun _ _ _ h => h) (by rfl) (by assumption) ?_
      (try simp only [Act.put, List.setIfInBounds_toArray, List.set_cons_zero, List.set_cons_succ])
      refine wpAnyH_skip (i := 39) (some 68) rfl (by kernel_rfl) (by kernel_rfl) (by kernel_rfl) (fun _ _ _ h => h) (by rfl) (by assumption) ?_
      (try simp only [Act.put, List.setIfInBounds_toArray, List.set_cons_zero, List.set_cons_succ])
      refine wpAnyH_skip (i := 40) (some 69) rfl (by kernel_rfl) (by kernel_rfl) (by kernel_rfl) (fun _ _ _ h => h) (by rfl) (by assumption) ?_
      (try simp only [Act.put, List.setIfInBounds_toArray, List.set_cons_zero, List.set_cons_succ])
      refine wpAnyH_skip (i := 41) (some 70) rfl (by kernel_rfl) (by kernel_rfl) (by kernel_rfl) (fun _ _ _ h => h) (by rfl) (by assumption) ?_
      (try simp only [Act.put, List.setIfInBounds_toArray, List.set_cons_zero, List.set_cons_succ])
      refine wpAnyH_skip (i := 42) (some 71) rfl (by kernel_rfl) (by kernel_rfl) (by kernel_rfl) (fun _ _ _ h => h) (by rfl) (by assumption) ?_
      (try simp only [Act.put, List.setIfInBounds_toArray, List.set_cons_zero, List.set_cons_succ])
      refine wpAnyH_skip (i := 43) (some 72) rfl (by kernel_rfl) (by kernel_rfl) (by kernel_rfl) (fun _ _ _ h => h) (by rfl) (by assumption) ?_
      (try simp only [Act.put, List.setIfInBounds_toArray, List.set_cons_zero, List.set_cons_succ])
      refine wpAnyH_skip (i := 44) (some 73) rfl (by kernel_rfl) (by kernel_rfl) (by kernel_rfl) (fun _ _ _ h => h) (by rfl) (by assumption) ?_
      (try simp only [Act.put, List.setIfInBounds_toArray, List.set_cons_zero, List.set_cons_succ])
      refine wpAnyH_skip (i := 45) (some 74) rfl (by kernel_rfl) (by kernel_rfl) (by kernel_rfl) (fun _ _ _ h => h) (by rfl) (by assumption) ?_
      (try simp only [Act.put, List.setIfInBounds_toArray, List.set_cons_zero, List.set_cons_succ])
      refine wpAnyH_skip (i := 46) (some 75) rfl (by kernel_rfl) (by kernel_rfl) (by kernel_rfl) (fun _ _ _ h => h) (by rfl) (by assumption) ?_
      (try simp only [Act.put, List.setIfInBounds_toArray, List.set_cons_zero, List.set_cons_succ])
      refine tkH 47 (some 76) ?_
      (try simp only [Act.put, sA, sB, sC])
      refine tkH 48 (some 77) ?_
      (try simp only [Act.put, sA, sB, sC])
      refine wpAnyH_done (by kernel_rfl) ?_ _
      go_wp2
      exact ⟨⟨k + 1, by go_num, by omega, hB.trans hV2, HN⟩, by simp [intOf]; omega⟩
     ·
      have t2 : (s != 2) = true := by simpa using h2
      by_cases h3 : u = s
      ·
       have HN := hid (HGOOD.out (by rw [HOK.out]; refine ⟨HB1.out, ?_⟩; unfold M.holds M.wr; rw [if_neg h2]; simp; omega))
       have t3 : (u != s) = false := by simp [h3]
       clear h2 h3
       go_upto_region 6 with fail
       refine wp_region_held_drew (S := fun w' => (∀ o, w'.cell? ⟨w.heap.size, o, none⟩ = W1.cell? ⟨w.heap.size, o, none⟩) ∧ (∀ o, w'.cell? ⟨w.heap.size + 1, o, none⟩ = W1.cell? ⟨w.heap.size + 1, o, none⟩) ∧ (∀ o, w'.cell? ⟨bx, o, none⟩ = W1.cell? ⟨bx, o, none⟩) ∧ (∀ o, w'.cell? ⟨br, o, none⟩ = W1.cell? ⟨br, o, none⟩) ∧ (∀ o, w'.cell? ⟨bu, o, none⟩ = W1.cell? ⟨bu, o, none⟩) ∧ (∀ o, w'.cell? ⟨bs, o, none⟩ = W1.cell? ⟨bs, o, none⟩)) (by kernel_rfl) (⟨fun o => rfl, fun o => rfl, fun o => rfl, fun o => rfl, fun o => rfl, fun o => rfl⟩) (fun hHeld => ?_)
       refine tkH 0 (some 29) ?_
       (try simp only [Act.put, sA, sB, sC])
       refine tkH 1 (some 30) ?_
       (try simp only [Act.put, sA, sB, sC])
       refine tkH 2 (some 31) ?_
       (try simp only [Act.put, sA, sB, sC])
       refine tkH 3 (some 32) ?_
       (try simp only [Act.put, sA, sB, sC])
       refine tkH 4 (some 33) ?_
       (try simp only [Act.put, sA, sB, sC])
       refine tkH 5 (some 34) ?_
       (try simp only [Act.put, sA, sB, sC])
       refine tkH 6 (some 35) ?_
       (try simp only [Act.put, sA, sB, sC])
       refine tkH 7 (some 36) ?_
       (try simp only [Act.put, sA, sB, sC])
       refine tkH 8 (some 37) ?_
       (try simp only [Act.put, sA, sB, sC])
       refine tkH 9 (some 38) ?_
       (try simp only [Act.put, sA, sB, sC])
       refine tkH 10 (some 39) ?_
       (try simp only [Act.put, sA, sB, sC])
       refine tkH 11 (some 40) ?_
       (try simp only [Act.put, sA, sB, sC])
       refine tkH 12 (some 41) ?_
       (try simp only [Act.put, sA, sB, sC])
       refine tkH 13 (some 42) ?_
       (try simp only [Act.put, sA, sB, sC])
       refine tkH 14 (some 43) ?_
       (try simp only [Act.put, sA, sB, sC])
       refine tkH 15 (some 44) ?_
       (try simp only [Act.put, sA, sB, sC])
       refine tkH 16 (some 45) ?_
       (try simp only [Act.put, sA, sB, sC])
       refine wpAnyH_one (i := 17) rfl (by kernel_rfl) (by rfl) (fun K hK => ?_)
       go_simp
       refine (HI1.out _).mono ?_
       rintro e x1 ⟨rfl, hb⟩
       have hV1 : Ev W1 x1 := Ev.trans (Ev.drew (Ev.refl _)) hb
       refine hK.out _ _ (HSE.out _ hV1) (fun hHeld => ?_)
       clear hK K
       (try simp only [Act.put, List.setIfInBounds_toArray, List.set_cons_zero, List.set_cons_succ])
       refine tkH 18 (some 47) ?_
       (try simp only [Act.put, sA, sB, sC])
       refine tkH 19 (some 48) ?_
       (try simp only [Act.put, sA, sB, sC])
       refine tkH 20 (some 49) ?_
       (try simp only [Act.put, sA, sB, sC])
       refine tkH 21 (some 50) ?_
       (try simp only [Act.put, sA, sB, sC])
       refine tkH 22 (some 51) ?_
       (try simp only [Act.put, sA, sB, sC])
       refine tkH 23 (some 52) ?_
       (try simp only [Act.put, sA, sB, sC])
       refine tkH 24 (some 53) ?_
       (try simp only [Act.put, sA, sB, sC])
       refine wpAnyH_one (i := 25) rfl (by kernel_rfl) (by rfl) (fun K hK => ?_)
       go_simp
       refine (HI2.out _).mono ?_
       rintro e x2 ⟨rfl, hb⟩
       have hV2 : Ev W1 x2 := Ev.trans hV1 hb
       refine hK.out _ _ (HSE.out _ hV2) (fun hHeld => ?_)
       clear hK K
       (try simp only [Act.put, List.setIfInBounds_toArray, List.set_cons_zero, List.set_cons_succ])
       refine tkH 26 (some 55) ?_
       (try simp only [Act.put, sA, sB, sC])
       refine tkH 27 (some 56) ?_
       (try simp only [Act.put, sA, sB, sC])
       refine tkH 28 (some 57) ?_
       (try simp only [Act.put, sA, sB, sC])
       refine tkH 29 (some 58) ?_
       (try simp only [Act.put, sA, sB, sC])
       refine tkH 30 (some 59) ?_
       (try simp only [Act.put, sA, sB, sC])
       refine tkH 31 (some 60) ?_
       (try simp only [Act.put, sA, sB, sC])
       refine tkH 32 (some 61) ?_
       (try simp only [Act.put, sA, sB, sC])
       refine tkH 33 (some 62) ?_
       (try simp only [Act.put, sA, sB, sC])
       refine tkH 34 (some 63) ?_
       (try simp only [Act.put, sA, sB, sC])
       refine tkH 35 (some 64) ?_
       (try simp only [Act.put, sA, sB, sC])
       refine tkH 36 (some 65) ?_
       (try simp only [Act.put, sA, sB, sC])
       refine tkH 37 (some 66) ?_
       (try simp only [Act.put, sA, sB, sC])
       refine tkH 38 (some 67) ?_
       (try simp only [Act.put, sA, sB, sC])
       refine tkH 39 (some 68) ?_
       (try simp only [Act.put, sA, sB, sC])
       refine tkH 40 (some 69) ?_
       (try simp only [Act.put, sA, sB, sC])
       refine tkH 41 (some 70) ?_
       (try simp only [Act.put, sA, sB, sC])
       refine tkH 42 (some 71) ?_
       (try simp only [Act.put, sA, sB, sC])
       refine tkH 43 (some 72) ?_
       (try simp only [Act.put, sA, sB, sC])
       refine tkH 44 (some 73) ?_
       (try simp only [Act.put, sA, sB, sC])
       refine tkH 45 (some 74) ?_
       (try simp only [Act.put, sA, sB, sC])
       refine tkH 46 (some 75) ?_
       (try simp only [Act.put, sA, sB, sC])
       refine tkH 47 (some 76) ?_
       (try simp only [Act.put, sA, sB, sC])
       refine tkH 48 (some 77) ?_
       (try simp only [Act.put, sA, sB, sC])
       refine wpAnyH_done (by kernel_rfl) ?_ _
       go_wp2
       exact ⟨⟨k + 1, by go_num, by omega, hB.trans hV2, HN⟩, by simp [intOf]; omega⟩
      ·
       have HF := hid (HBAD.out (by rw [HOK.out]; intro h; have h := h.2; unfold M.holds M.wr at h; rw [if_neg h2] at h; simp at h; omega))
       have t3 : (u != s) = true := by simpa using h3
       clear h2 h3
       go_upto_region 6 with fail
       refine wp_region_held_drew (S := fun w' => (∀ o, w'.cell? ⟨w.heap.size, o, none⟩ = W1.cell? ⟨w.heap.size, o, none⟩) ∧ (∀ o, w'.cell? ⟨w.heap.size + 1, o, none⟩ = W1.cell? ⟨w.heap.size + 1, o, none⟩) ∧ (∀ o, w'.cell? ⟨bx, o, none⟩ = W1.cell? ⟨bx, o, none⟩) ∧ (∀ o, w'.cell? ⟨br, o, none⟩ = W1.cell? ⟨br, o, none⟩) ∧ (∀ o, w'.cell? ⟨bu, o, none⟩ = W1.cell? ⟨bu, o, none⟩) ∧ (∀ o, w'.cell? ⟨bs, o, none⟩ = W1.cell? ⟨bs, o, none⟩)) (by kernel_rfl) (⟨fun o => rfl, fun o => rfl, fun o => rfl, fun o => rfl, fun o => rfl, fun o => rfl⟩) (fun hHeld => ?_)
       refine tkH 0 (some 29) ?_
       (try simp only [Act.put, sA, sB, sC])
       refine tkH 1 (some 30) ?_
       (try simp only [Act.put, sA, sB, sC])
       refine tkH 2 (some 31) ?_
       (try simp only [Act.put, sA, sB, sC])
       refine tkH 3 (some 32) ?_
       (try simp only [Act.put, sA, sB, sC])
       refine tkH 4 (some 33) ?_
       (try simp only [Act.put, sA, sB, sC])
       refine tkH 5 (some 34) ?_
       (try simp only [Act.put, sA, sB, sC])
       refine tkH 6 (some 35) ?_
       (try simp only [Act.put, sA, sB, sC])
       refine tkH 7 (some 36) ?_
       (try simp only [Act.put, sA, sB, sC])
       refine tkH 8 (some 37) ?_
       (try simp only [Act.put, sA, sB, sC])
       refine tkH 9 (some 38) ?_
       (try simp only [Act.put, sA, sB, sC])
       refine tkH 10 (some 39) ?_
       (try simp only [Act.put, sA, sB, sC])
       refine tkH 11 (some 40) ?_
       (try simp only [Act.put, sA, sB, sC])
       refine tkH 12 (some 41) ?_
       (try simp only [Act.put, sA, sB, sC])
       refine tkH 13 (some 42) ?_
       (try simp only [Act.put, sA, sB, sC])
       refine tkH 14 (some 43) ?_
       (try simp only [Act.put, sA, sB, sC])
       refine tkH 15 (some 44) ?_
       (try simp only [Act.put, sA, sB, sC])
       refine tkH 16 (some 45) ?_
       (try simp only [Act.put, sA, sB, sC])
       refine wpAnyH_one (i := 17) rfl (by kernel_rfl) (by rfl) (fun K hK => ?_)
       go_simp
       refine (HI1.out _).mono ?_
       rintro e x1 ⟨rfl, hb⟩
       have hV1 : Ev W1 x1 := Ev.trans (Ev.drew (Ev.refl _)) hb
       refine hK.out _ _ (HSE.out _ hV1) (fun hHeld => ?_)
       clear hK K
       (try simp only [Act.put, List.setIfInBounds_toArray, List.set_cons_zero, List.set_cons_succ])
       refine tkH 18 (some 47) ?_
       (try simp only [Act.put, sA, sB, sC])
       refine tkH 19 (some 48) ?_
       (try simp only [Act.put, sA, sB, sC])
       refine tkH 20 (some 49) ?_
       (try simp only [Act.put, sA, sB, sC])
       refine tkH 21 (some 50) ?_
       (try simp only [Act.put, sA, sB, sC])
       refine tkH 22 (some 51) ?_
       (try simp only [Act.put, sA, sB, sC])
       refine tkH 23 (some 52) ?_
       (try simp only [Act.put, sA, sB, sC])
       refine tkH 24 (some 53) ?_
       (try simp only [Act.put, sA, sB, sC])
       refine wpAnyH_one (i := 25) rfl (by kernel_rfl) (by rfl) (fun K hK => ?_)
       go_simp
       refine (HI2.out _).mono ?_
       rintro e x2 ⟨rfl, hb⟩
       have hV2 : Ev W1 x2 := Ev.trans hV1 hb
       refine hK.out _ _ (HSE.out _ hV2) (fun hHeld => ?_)
       clear hK K
       (try simp only [Act.put, List.setIfInBounds_toArray, List.set_cons_zero, List.set_cons_succ])
       refine tkH 26 (some 55) ?_
       (try simp only [Act.put, sA, sB, sC])
       refine tkH 27 (some 56) ?_
       (try simp only [Act.put, sA, sB, sC])
       refine tkH 28 (some 57) ?_
       (try simp only [Act.put, sA, sB, sC])
       refine tkH 29 (some 58) ?_
       (try simp only [Act.put, sA, sB, sC])
       refine tkH 30 (some 59) ?_
       (try simp only [Act.put, sA, sB, sC])
       refine tkH 31 (some 60) ?_
       (try simp only [Act.put, sA, sB, sC])
       refine tkH 32 (some 61) ?_
       (try simp only [Act.put, sA, sB, sC])
       refine tkH 33 (some 62) ?_
       (try simp only [Act.put, sA, sB, sC])
       refine tkH 34 (some 63) ?_
       (try simp only [Act.put, sA, sB, sC])
       refine tkH 35 (some 64) ?_
       (try simp only [Act.put, sA, sB, sC])
       refine tkH 36 (some 65) ?_
       (try simp only [Act.put, sA, sB, sC])
       refine tkH 37 (some 66) ?_
       (try simp only [Act.put, sA, sB, sC])
       refine tkH 38 (some 67) ?_
       (try simp only [Act.put, sA, sB, sC])
       refine tkH 39 (some 68) ?_
       (try simp only [Act.put, sA, sB, sC])
       refine tkH 40 (some 69) ?_
       (try simp only [Act.put, sA, sB, sC])
       refine tkH 41 (some 70) ?_
       (try simp only [Act.put, sA, sB, sC])
       refine tkH 42 (some 71) ?_
       (try simp only [Act.put, sA, sB, sC])
       refine tkH 43 (some 72) ?_
       (try simp only [Act.put, sA, sB, sC])
       refine tkH 44 (some 73) ?_
       (try simp only [Act.put, sA, sB, sC])
       refine tkH 45 (some 74) ?_
       (try simp only [Act.put, sA, sB, sC])
       refine tkH 46 (some 75) ?_
       (try simp only [Act.put, sA, sB, sC])
       refine tkH 47 (some 76) ?_
       (try simp only [Act.put, sA, sB, sC])
       refine tkH 48 (some 77) ?_
       (try simp only [Act.put, sA, sB, sC])
       refine wpAnyH_done (by kernel_rfl) ?_ _
       go_wp2
       go_ret
       exact ⟨ret_bool HF.out, hE0.trans (hB.trans hV2)⟩
  ·
   have HT2 := hid (show true = M.listed f t from (HLA.out.2 (fun j hj => HM.out j (by have := HLN.out; omega))).symm)
   have hn : ¬ ((k : Int) < tg) := by omega
   go_wp2
   go_ret
   exact ⟨ret_bool HT2.out, hE0.trans hB⟩

end Go.Proofs.Ytffbkbcjddigdaa

set_option linter.unusedSimpArgs false
set_option linter.unusedVariables false
namespace Go.Proofs.Ytffbkbcjddigdaa
open Go.RowKit Go.Shelf

set_option maxRecDepth 100000 in
set_option maxHeartbeats 2000000 in
theorem rRight_c (f : M.Cf) (Ag Aw Ab Ac Al : Option Addr) (ng cg nw cw nb cb nc cc nl cl : Nat) (Tg Tw : Option Addr) (tg tgc tw twc : Nat) (t : M.Tr) (l : M.Lk) (hv : M.valid f = true) (hl9 : f.last ≤ 9) (hls : M.listed f t = true) (hlk : 0 ≤ l.wk ∧ l.wk ≤ f.last) (w : World) (hs : CS w w.heap.size f Ag Aw Ab Ac Al ng cg nw cw nb cb nc cc nl cl) (hg : Sl ics 1 w w.heap.size Tg tg tgc t.gr) (hwt : Sl ics 1 w w.heap.size Tw tw twc t.wet) :
  Calls Try.prog 62 #[.agg #[.int .i64 f.last, .slice Ag ng cg, .slice Aw nw cw, .slice Ab nb cb, .slice Ac nc cc, .int .i64 f.ripe, .int .i64 f.late, .int .i64 f.trod, .slice Al nl cl], .agg #[.slice Tg tg tgc, .slice Tw tw twc], .agg #[.int .i64 l.wk, .int .i64 l.ct.lo, .int .i64 l.ct.hi]] w fun e w' => e = .returned (.bool (M.shows (M.weights t.gr f.crops) l)) ∧ Ev w w' := by
 have hvp := M.valid_parts hv
 obtain ⟨hpb, hpr, hpw⟩ := M.plan_parts hvp.2.2.2.2.2.2.2.2.2.2.2.1
 obtain ⟨htg, htw, hgb, _⟩ := M.listed_bd hv hls
 have l1 := hs.g.len
 have l4 := hg.len
 obtain ⟨wk, hwk⟩ : ∃ wk : Nat, l.wk = wk := ⟨l.wk.toNat, by omega⟩
 have HSX := hid (fun W (hE : Ev w W) => rStanding_c Tg Tw tg tgc tw twc t.gr Ac nc cc f.crops wk (by omega) (by omega) hpr (fun q hq => (hpw q hq).1) hgb W (hg.ev hE) (hs.c.ev hE))
 have HR := hid (show M.isIn ((M.weights t.gr f.crops).getD wk 0) l.ct.lo l.ct.hi = M.shows (M.weights t.gr f.crops) l by unfold M.shows; rw [hwk, Int.toNat_natCast]; rfl)
 generalize (M.weights t.gr f.crops).getD wk 0 = a at HSX HR
 generalize M.shows (M.weights t.gr f.crops) l = res at HR ⊢
 rw [hwk]
 clear hvp hpb hpr hpw htg htw hgb l1 l4 hlk hwk hs hg hwt hv hls
 go_enter Try.func62, Try.ntmps62
 go_upto_region 1 with fail
 generalize hW0 : World.alloc (World.alloc (World.alloc w _) _) _ = W0
 have hE0 : Ev w W0 := by rw [← hW0]; exact Ev.alloc (Ev.alloc (Ev.alloc (Ev.refl _) _) _) _
 have hal := alloc3 w (.cells #[.int .i64 f.last, .slice Ag ng cg, .slice Aw nw cw, .slice Ab nb cb, .slice Ac nc cc, .int .i64 f.ripe, .int .i64 f.late, .int .i64 f.trod, .slice Al nl cl] 26) (.cells #[.slice Tg tg tgc, .slice Tw tw twc] 28) (.cells #[.int .i64 wk, .int .i64 l.ct.lo, .int .i64 l.ct.hi] 90)
 rw [hW0] at hal
 have Q0 := hid hal.1
 have Q1 := hid hal.2.1
 have Q2 := hid hal.2.2.1
 clear hal hW0
 obtain ⟨y0, y1, y2, y3, y4, y5, y6, y7, y8⟩ := cells9 Q0.out
 obtain ⟨c0, c1⟩ := cells2 Q1.out
 obtain ⟨d0, d1, d2⟩ := cells3 Q2.out
 have k0 := heap_lt Q0.out
 have k1 := heap_lt Q1.out
 have k2 := heap_lt Q2.out
 have HSE : Hid (∀ w', Ev W0 w' → (∀ o, w'.cell? ⟨w.heap.size, o, none⟩ = W0.cell? ⟨w.heap.size, o, none⟩) ∧ (∀ o, w'.cell? ⟨w.heap.size + 1, o, none⟩ = W0.cell? ⟨w.heap.size + 1, o, none⟩) ∧ (∀ o, w'.cell? ⟨w.heap.size + 1 + 1, o, none⟩ = W0.cell? ⟨w.heap.size + 1 + 1, o, none⟩)) := hid (fun w' h => ⟨fun o => h.cells.1 _ o k0, fun o => h.cells.1 _ o k1, fun o => h.cells.1 _ o k2⟩)
 refine wp_region_held_drew (S := fun w' => (∀ o, w'.cell? ⟨w.heap.size, o, none⟩ = W0.cell? ⟨w.heap.size, o, none⟩) ∧ (∀ o, w'.cell? ⟨w.heap.size + 1, o, none⟩ = W0.cell? ⟨w.heap.size + 1, o, none⟩) ∧ (∀ o, w'.cell? ⟨w.heap.size + 1 + 1, o, none⟩ = W0.cell? ⟨w.heap.size + 1 + 1, o, none⟩)) (by kernel_rfl) (⟨fun o => rfl, fun o => rfl, fun o => rfl⟩) (fun hHeld => ?_)
 refine tkH 0 (some 7) ?_
 (try simp only [Act.put, sA, sB, sC])
 refine tkH 1 (some 8) ?_
 (try simp only [Act.put, sA, sB, sC])
 refine tkH 2 (some 9) ?_
 (try simp only [Act.put, sA, sB, sC])
 refine tkH 3 (some 10) ?_
 (try simp only [Act.put, sA, sB, sC])
 refine tkH 4 (some 11) ?_
 (try simp only [Act.put, sA, sB, sC])
 refine tkH 6 (some 13) ?_
 (try simp only [Act.put, sA, sB, sC])
 refine tkH 7 (some 14) ?_
 (try simp only [Act.put, sA, sB, sC])
 refine tkH 8 (some 15) ?_
 (try simp only [Act.put, sA, sB, sC])
 refine tkH 9 (some 16) ?_
 (try simp only [Act.put, sA, sB, sC])
 refine tkH 10 (some 17) ?_
 (try simp only [Act.put, sA, sB, sC])
 refine tkH 11 (some 18) ?_
 (try simp only [Act.put, sA, sB, sC])
 refine wpAnyH_one (i := 5) rfl (by kernel_rfl) (by rfl) (fun K hK => ?_)
 go_simp
 refine (HSX.out _ (hE0.trans (Ev.drew (Ev.refl _)))).mono ?_
 rintro e x1 ⟨rfl, hb⟩
 have hV1 : Ev W0 x1 := Ev.trans (Ev.drew (Ev.refl _)) hb
 refine hK.out _ _ (HSE.out _ hV1) (fun hHeld => ?_)
 clear hK K
 (try simp only [Act.put, List.setIfInBounds_toArray, List.set_cons_zero, List.set_cons_succ])
 refine wpAnyH_one (i := 12) rfl (by kernel_rfl) (by rfl) (fun K hK => ?_)
 go_simp
 refine (In_c _ _ _ _).mono ?_
 rintro e x2 ⟨rfl, hb⟩
 have hV2 : Ev W0 x2 := Ev.trans hV1 hb
 refine hK.out _ _ (HSE.out _ hV2) (fun hHeld => ?_)
 clear hK K
 (try simp only [Act.put, List.setIfInBounds_toArray, List.set_cons_zero, List.set_cons_succ])
 refine tkH 13 (some 6) ?_
 (try simp only [Act.put, sA, sB, sC])
 refine wpAnyH_done (by kernel_rfl) ?_ _
 go_wp2
 go_ret
 exact ⟨ret_bool HR.out, hE0.trans hV2⟩

set_option maxRecDepth 100000 in
set_option maxHeartbeats 4000000 in
theorem rIsTruth_c (f : M.Cf) (Ag Aw Ab Ac Al : Option Addr) (ng cg nw cw nb cb nc cc nl cl : Nat) (Tg Tw : Option Addr) (tg tgc tw twc : Nat) (t : M.Tr) (hv : M.valid f = true) (hl9 : f.last ≤ 9) (w : World) (hs : CS w w.heap.size f Ag Aw Ab Ac Al ng cg nw cw nb cb nc cc nl cl) (hg : Sl ics 1 w w.heap.size Tg tg tgc t.gr) (hwt : Sl ics 1 w w.heap.size Tw tw twc t.wet) :
  Calls Try.prog 22 #[.agg #[.int .i64 f.last, .slice Ag ng cg, .slice Aw nw cw, .slice Ab nb cb, .slice Ac nc cc, .int .i64 f.ripe, .int .i64 f.late, .int .i64 f.trod, .slice Al nl cl], .agg #[.slice Tg tg tgc, .slice Tw tw twc]] w fun e w' => e = .returned (.bool (M.listed f t && M.right f t)) ∧ Ev w w' := by
 have hil := fun W (hE : Ev w W) => rIsListed_c f Ag Aw Ab Ac Al ng cg nw cw nb cb nc cc nl cl Tg Tw tg tgc tw twc t hv W (hs.ev hE) (hg.ev hE) (hwt.ev hE)
 cases hls : M.listed f t with
 | false =>
  rw [hls] at hil
  have HIL := hid hil
  clear hil hls hs hg hwt hv
  go_enter Try.func22, Try.ntmps22
  go_wp2_with (go_at_call 23; with_reducible refine (HIL.out _ (Ev.alloc (Ev.alloc (Ev.refl _) _) _)).mono ?_; rintro e w1 ⟨rfl, hb1⟩)
  go_ret
  exact ⟨rfl, (Ev.alloc (Ev.alloc (Ev.refl _) _) _).trans hb1⟩
 | true =>
  rw [hls] at hil
  have HIL := hid hil
  have HRX := hid (fun (l : M.Lk) (hl : l ∈ f.looks) W (hE : Ev w W) => rRight_c f Ag Aw Ab Ac Al ng cg nw cw nb cb nc cc nl cl Tg Tw tg tgc tw twc t l hv hl9 hls (by
   have h1 := (M.valid_parts hv).2.2.2.2.2.2.2.2.2.2.2.2 l hl
   unfold M.validLook M.hasWeek at h1
   simp only [Bool.and_eq_true, decide_eq_true_eq] at h1
   exact h1.1) W (hs.ev hE) (hg.ev hE) (hwt.ev hE))
  have HRR := hid (show (true && M.right f t) = f.looks.all (M.shows (M.weights t.gr f.crops)) from rfl)
  have HL := hid hs.l
  clear hil hls hg hwt hv hs
  go_enter Try.func22, Try.ntmps22
  go_wp2_with (go_at_call 23; with_reducible refine (HIL.out _ (Ev.alloc (Ev.alloc (Ev.refl _) _) _)).mono ?_; rintro e w1 ⟨rfl, hb1⟩)
  have hG : Ev w w1 := (Ev.alloc (Ev.alloc (Ev.refl _) _) _).trans hb1
  have hal := alloc2 w (.cells #[.int .i64 f.last, .slice Ag ng cg, .slice Aw nw cw, .slice Ab nb cb, .slice Ac nc cc, .int .i64 f.ripe, .int .i64 f.late, .int .i64 f.trod, .slice Al nl cl] 26) (.cells #[.slice Tg tg tgc, .slice Tw tw twc] 28)
  have Q0 := hid (hb1.heap hal.1)
  have Q1 := hid (hb1.heap hal.2.1)
  have hsm := HL.out.small
  clear hal
  go_loopw [5] (fun i wr => ∃ k : Nat, i = .int .i64 k ∧ k ≤ nl ∧ Ev w1 wr ∧ Hid ((f.looks.drop k).all (M.shows (M.weights t.gr f.crops)) = f.looks.all (M.shows (M.weights t.gr f.crops)))) (fun i _ => nl - (intOf i).toNat)
  case atStart => exact ⟨0, rfl, by omega, Ev.refl _, hid rfl⟩
  case round =>
   obtain ⟨k, rfl, hk, hB, HM⟩ := hrel
   obtain ⟨W1, hW1⟩ : ∃ x, x = wr := ⟨_, rfl⟩
   subst hW1
   obtain ⟨y0, y1, y2, y3, y4, y5, y6, y7, y8⟩ := cells9 (hB.heap Q0.out)
   obtain ⟨c0, c1⟩ := cells2 (hB.heap Q1.out)
   have l0 := heap_lt (hB.heap Q0.out)
   have l1 := heap_lt (hB.heap Q1.out)
   have hzB := (hG.trans hB).size
   by_cases hlt : k < nl
   ·
    obtain ⟨b, off, x, hA, hb, hx, hxd, hcc⟩ := HL.out.at_ (hG.trans hB) hlt
    have e0 := hcc 0 _ rfl
    have e1 := hcc 1 _ rfl
    have e2 := hcc 2 _ rfl
    simp only [Nat.add_zero] at e0
    have lb : b < W1.heap.size := by omega
    have hcap := HL.out.cap
    have hrt := HRX.out x (List.mem_of_getElem? hx)
    have hM := HM.out
    rw [hxd, List.all_cons] at hM
    subst hA
    clear hx hxd hcc
    have HSE : Hid (∀ w', Ev W1 w' → (∀ o, w'.cell? ⟨w.heap.size, o, none⟩ = W1.cell? ⟨w.heap.size, o, none⟩) ∧ (∀ o, w'.cell? ⟨w.heap.size + 1, o, none⟩ = W1.cell? ⟨w.heap.size + 1, o, none⟩) ∧ (∀ o, w'.cell? ⟨b, o, none⟩ = W1.cell? ⟨b, o, none⟩)) := hid (fun w' h => ⟨fun o => h.cells.1 _ o l0, fun o => h.cells.1 _ o l1, fun o => h.cells.1 _ o lb⟩)
    cases hsx : M.shows (M.weights t.gr f.crops) x with
    | false =>
     rw [hsx] at hM hrt
     have HRT := hid hrt
     have HF := hid (show false = (true && M.right f t) by rw [HRR.out, ← hM]; rfl)
     clear hrt hM hsx
     go_upto_region 6 with fail
     refine wp_region_held_drew (S := fun w' => (∀ o, w'.cell? ⟨w.heap.size, o, none⟩ = W1.cell? ⟨w.heap.size, o, none⟩) ∧ (∀ o, w'.cell? ⟨w.heap.size + 1, o, none⟩ = W1.cell? ⟨w.heap.size + 1, o, none⟩) ∧ (∀ o, w'.cell? ⟨b, o, none⟩ = W1.cell? ⟨b, o, none⟩)) (by kernel_rfl) (⟨fun o => rfl, fun o => rfl, fun o => rfl⟩) (fun hHeld => ?_)
     refine tkH 0 (some 17) ?_
     (try simp only [Act.put, sA, sB, sC])
     refine tkH 1 (some 18) ?_
     (try simp only [Act.put, sA, sB, sC])
     refine tkH 2 (some 19) ?_
     (try simp only [Act.put, sA, sB, sC])
     refine tkH 3 (some 20) ?_
     (try simp only [Act.put, sA, sB, sC])
     refine tkH 4 (some 21) ?_
     (try simp only [Act.put, sA, sB, sC])
     refine tkH 5 (some 22) ?_
     (try simp only [Act.put, sA, sB, sC])
     refine tkH 6 (some 23) ?_
     (try simp only [Act.put, sA, sB, sC])
     refine wpAnyH_one (i := 7) rfl (by kernel_rfl) (by rfl) (fun K hK => ?_)
     go_simp
     refine (HRT.out _ (hG.trans (hB.trans (Ev.drew (Ev.refl _))))).mono ?_
     rintro e x1 ⟨rfl, hb⟩
     have hV1 : Ev W1 x1 := Ev.trans (Ev.drew (Ev.refl _)) hb
     refine hK.out _ _ (HSE.out _ hV1) (fun hHeld => ?_)
     clear hK K
     (try simp only [Act.put, List.setIfInBounds_toArray, List.set_cons_zero, List.set_cons_succ])
     refine tkH 8 (some 25) ?_
     (try simp only [Act.put, sA, sB, sC])
     refine wpAnyH_done (by kernel_rfl) ?_ _
     go_wp2
     go_ret
     exact ⟨ret_bool HF.out, hG.trans (hB.trans hV1)⟩
    | true =>
     rw [hsx, Bool.true_and] at hM
     rw [hsx] at hrt
     have HRT := hid hrt
     have HN := hid hM
     clear hrt hM hsx
     go_upto_region 6 with fail
     refine wp_region_held_drew (S := fun w' => (∀ o, w'.cell? ⟨w.heap.size, o, none⟩ = W1.cell? ⟨w.heap.size, o, none⟩) ∧ (∀ o, w'.cell? ⟨w.heap.size + 1, o, none⟩ = W1.cell? ⟨w.heap.size + 1, o, none⟩) ∧ (∀ o, w'.cell? ⟨b, o, none⟩ = W1.cell? ⟨b, o, none⟩)) (by kernel_rfl) (⟨fun o => rfl, fun o => rfl, fun o => rfl⟩) (fun hHeld => ?_)
     refine tkH 0 (some 17) ?_
     (try simp only [Act.put, sA, sB, sC])
     refine tkH 1 (some 18) ?_
     (try simp only [Act.put, sA, sB, sC])
     refine tkH 2 (some 19) ?_
     (try simp only [Act.put, sA, sB, sC])
     refine tkH 3 (some 20) ?_
     (try simp only [Act.put, sA, sB, sC])
     refine tkH 4 (some 21) ?_
     (try simp only [Act.put, sA, sB, sC])
     refine tkH 5 (some 22) ?_
     (try simp only [Act.put, sA, sB, sC])
     refine tkH 6 (some 23) ?_
     (try simp only [Act.put, sA, sB, sC])
     refine wpAnyH_one (i := 7) rfl (by kernel_rfl) (by rfl) (fun K hK => ?_)
     go_simp
     refine (HRT.out _ (hG.trans (hB.trans (Ev.drew (Ev.refl _))))).mono ?_
     rintro e x1 ⟨rfl, hb⟩
     have hV1 : Ev W1 x1 := Ev.trans (Ev.drew (Ev.refl _)) hb
     refine hK.out _ _ (HSE.out _ hV1) (fun hHeld => ?_)
     clear hK K
     (try simp only [Act.put, List.setIfInBounds_toArray, List.set_cons_zero, List.set_cons_succ])
     refine tkH 8 (some 25) ?_
     (try simp only [Act.put, sA, sB, sC])
     refine wpAnyH_done (by kernel_rfl) ?_ _
     go_wp2
     exact ⟨⟨k + 1, by go_num, by omega, hB.trans hV1, HN⟩, by simp [intOf]; omega⟩
   ·
    have HT := hid (show true = (true && M.right f t) by rw [HRR.out, ← HM.out, HL.out.done (by omega)]; rfl)
    have hn : ¬ ((k : Int) < nl) := by omega
    go_wp2
    go_ret
    exact ⟨ret_bool HT.out, hG.trans hB⟩

end Go.Proofs.Ytffbkbcjddigdaa
