import Derived.Test.YtffbkbcjddigdaaGreatA58
set_option linter.unusedSimpArgs false
set_option linter.unusedVariables false
namespace Go.Proofs.YtffbkbcjddigdaaGreat
open Go.RowKit Go.Shelf

/-- A list of truths. -/
def TL (w : World) (L : Option Addr) (n c : Nat) (ts : List M.Tr) : Prop := ∃ vs : List Td, Sl thc 2 w w.heap.size L n c vs ∧ TRows 0 w vs ts
theorem TL.ev {w w' : World} {L : Option Addr} {n c : Nat} {ts : List M.Tr} (h : TL w L n c ts) (hE : Ev w w') : TL w' L n c ts := by
 obtain ⟨vs, h1, h2⟩ := h
 exact ⟨vs, h1.ev hE, h2.ev hE⟩
theorem TL.len {w : World} {L : Option Addr} {n c : Nat} {ts : List M.Tr} (h : TL w L n c ts) : ts.length = n := by
 obtain ⟨vs, h1, h2⟩ := h
 rw [← h2.1, h1.len]
theorem M.rg_ext {p q : M.Rg} (h1 : p.lo = q.lo) (h2 : p.hi = q.hi) : p = q := by
 cases p
 cases q
 simp only at h1 h2
 subst h1 h2
 rfl
theorem M.span_in {l : List Int} {y : Int} (h : y ∈ l) : (M.span l).lo ≤ y ∧ y ≤ (M.span l).hi := by
 cases l with
 | nil => cases h
 | cons x xs =>
  have h1 := M.least_le x xs
  have h2 := M.most_ge x xs
  show M.least x xs ≤ y ∧ y ≤ M.most x xs
  rcases List.mem_cons.1 h with rfl | h
  ·
   exact ⟨h1.1, h2.1⟩
  ·
   exact ⟨h1.2 y h, h2.2 y h⟩
theorem M.span_two {l : List Int} (h : l ≠ []) : (M.span l).lo ∈ l ∧ (M.span l).hi ∈ l := by
 cases l with
 | nil => exact absurd rfl h
 | cons x xs =>
  show M.least x xs ∈ x :: xs ∧ M.most x xs ∈ x :: xs
  refine ⟨?_, ?_⟩
  ·
   rcases M.least_mem x xs with h1 | h1
   ·
    rw [h1]; simp
   ·
    exact List.mem_cons_of_mem _ h1
  ·
   rcases M.most_mem x xs with h1 | h1
   ·
    rw [h1]; simp
   ·
    exact List.mem_cons_of_mem _ h1
/-- The span is said by its ends. -/
theorem M.span_is {l : List Int} {r : M.Rg} (h1 : r.lo ∈ l) (h2 : r.hi ∈ l) (h3 : ∀ y ∈ l, r.lo ≤ y ∧ y ≤ r.hi) : r = M.span l := by
 have hn : l ≠ [] := fun e => by rw [e] at h1; cases h1
 obtain ⟨m1, m2⟩ := M.span_two hn
 have a := M.span_in h1
 have b := M.span_in h2
 have c := h3 _ m1
 have d := h3 _ m2
 exact M.rg_ext (by omega) (by omega)
/-- The span depends on what is in the list alone. -/
theorem M.span_set {a b : List Int} (h : ∀ y, y ∈ a ↔ y ∈ b) (hn : a ≠ []) : M.span a = M.span b := by
 obtain ⟨m1, m2⟩ := M.span_two hn
 exact M.span_is ((h _).1 m1) ((h _).1 m2) (fun y hy => M.span_in ((h y).2 hy))
/-- The reference's bounds are the program's. -/
theorem M.widen_span {l : List Int} (hn : l ≠ []) (hb : ∀ y ∈ l, 0 ≤ y ∧ y ≤ 1099511627776) : M.widen ⟨1099511627776, -1⟩ l = M.span l := by
 obtain ⟨_, _, h3, h4, h5⟩ := M.widen_spec l ⟨1099511627776, -1⟩
 generalize M.widen ⟨1099511627776, -1⟩ l = z at h3 h4 h5 ⊢
 obtain ⟨y, hy⟩ : ∃ y, y ∈ l := by
  cases l with
  | nil => exact absurd rfl hn
  | cons y r => exact ⟨y, by simp⟩
 have a := h3 y hy
 have b := hb y hy
 refine M.span_is ?_ ?_ h3
 ·
  rcases h4 with h4 | h4
  ·
   simp only at h4
   have : z.lo = y := by omega
   rw [this]
   exact hy
  ·
   exact h4
 ·
  rcases h5 with h5 | h5
  ·
   simp only at h5
   omega
  ·
   exact h5
def M.totK (f : M.Cf) (t : M.Tr) (plan : List Int) (k : Nat) : Int := (((List.range k).map (M.crop f t plan)).map M.Cr.wo).sum
theorem M.totK_succ (f : M.Cf) (t : M.Tr) (plan : List Int) (k : Nat) : M.totK f t plan (k + 1) = M.totK f t plan k + (M.crop f t plan k).wo := by
 unfold M.totK
 rw [List.range_succ, List.map_append, List.map_append, List.sum_append]
 simp
theorem M.totK_all (f : M.Cf) (t : M.Tr) (plan : List Int) : M.totK f t plan plan.length = M.total f t plan := rfl
theorem M.crop_wo {f : M.Cf} {t : M.Tr} {plan : List Int} (h0 : M.check f = 0) (htr : M.listed f t = true) {i : Nat} (hi : i < plan.length) : 0 ≤ (M.crop f t plan i).wo ∧ (M.crop f t plan i).wo ≤ 100000 :=
 (M.crop_bd h0 htr (M.crop f t plan i) (by unfold M.play; exact List.mem_map.2 ⟨i, List.mem_range.2 hi, rfl⟩)).2.2
theorem M.totK_bd {f : M.Cf} {t : M.Tr} {plan : List Int} (h0 : M.check f = 0) (htr : M.listed f t = true) : ∀ k : Nat, k ≤ plan.length → 0 ≤ M.totK f t plan k ∧ M.totK f t plan k ≤ 100000 * k
 | 0, _ => by simp [M.totK]
 | k + 1, h => by
  have ih := M.totK_bd (plan := plan) h0 htr k (by omega)
  have hc := M.crop_wo (plan := plan) h0 htr (i := k) (by omega)
  rw [M.totK_succ]
  omega
theorem M.total_bd {f : M.Cf} {t : M.Tr} {plan : List Int} (h0 : M.check f = 0) (htr : M.listed f t = true) (hpl : M.isPlan f plan = true) : 0 ≤ M.total f t plan ∧ M.total f t plan ≤ 300000 := by
 have h1 := M.totK_bd h0 htr (plan := plan) plan.length (Nat.le_refl _)
 rw [M.totK_all] at h1
 have h2 := (M.plan_parts hpl).1
 have h3 := (M.check0 h0).2.1
 omega
/-- The bounds of a plan's worth, and of the weight on the field, as the reference finds them. -/
def M.worthR (f : M.Cf) (ts : List M.Tr) (plan : List Int) : M.Rg := M.widen ⟨1099511627776, -1⟩ (ts.map fun t => M.total f t plan)
def M.onR (f : M.Cf) (ts : List M.Tr) (wk : Nat) : M.Rg := M.widen ⟨1099511627776, -1⟩ (ts.map fun t => (M.weights t.gr f.crops).getD wk 0)

set_option maxRecDepth 100000 in
theorem fieldWo (a b c : Int) (W : World) : (Instr.field 86 (.agg #[.int .i64 a, .int .i64 b, .int .i64 c]) 2).run Tryz.prog W = .ok (.int .i64 c) W := by
 first
  | rfl
  | simp [Instr.field, run_underlying Tryz.underlying86, part, cellsIn, typeInfo, Result.andThen]
set_option maxHeartbeats 400000 in
theorem Empty_c (w : World) : Calls Tryz.prog 54 #[] w fun e w' => e = .returned (.agg #[.int .i64 1099511627776, .int .i64 (-1)]) ∧ Ev w w' := by
 go_enter Tryz.func54, Tryz.ntmps54
 go_wp2
 all_goals (refine bodyPost_ret (v := .agg #[.int .i64 1099511627776, .int .i64 (-1)]) (by simp [results, Tryz.results54, go_sem] <;> omega) rfl ⟨rfl, ?_⟩)
 all_goals (repeat first | exact Ev.refl _ | refine Ev.alloc ?_ _ | refine Ev.setCell ?_ (by simp) _)

set_option maxRecDepth 100000 in
set_option maxHeartbeats 2000000 in
theorem rTotal_c (f : M.Cf) (Ag Aw Ab Ac Al : Option Addr) (ng cg nw cw nb cb nc cc nl cl : Nat) (Tg Tw : Option Addr) (tg tgc tw twc : Nat) (t : M.Tr) (P : Option Addr) (pn pc : Nat) (plan : List Int) (h0 : M.check f = 0) (hls : M.listed f t = true) (hpl : M.isPlan f plan = true) (w : World) (hs : CS w w.heap.size f Ag Aw Ab Ac Al ng cg nw cw nb cb nc cc nl cl) (hg : Sl ics 1 w w.heap.size Tg tg tgc t.gr) (hwt : Sl ics 1 w w.heap.size Tw tw twc t.wet) (hp : Sl ics 1 w w.heap.size P pn pc plan) :
  Calls Tryz.prog 28 #[.agg #[.int .i64 f.last, .slice Ag ng cg, .slice Aw nw cw, .slice Ab nb cb, .slice Ac nc cc, .int .i64 f.ripe, .int .i64 f.late, .int .i64 f.trod, .slice Al nl cl], .agg #[.slice Tg tg tgc, .slice Tw tw twc], .slice P pn pc] w fun e w' => e = .returned (.int .i64 (M.total f t plan)) ∧ Ev w w' := by
 have hlen := hp.len
 have hpn : pn ≤ 3 := by have := (M.plan_parts hpl).1; have := (M.check0 h0).2.1; omega
 have HCX := hid (fun (i : Nat) (hi : i < pn) W (hE : Ev w W) => rCropped_c f Ag Aw Ab Ac Al ng cg nw cw nb cb nc cc nl cl Tg Tw tg tgc tw twc t P pn pc plan i hi h0 hls hpl W (hs.ev hE) (hg.ev hE) (hwt.ev hE) (hp.ev hE))
 have HBD := hid (fun (i : Nat) (hi : i < pn) => M.crop_wo (plan := plan) h0 hls (i := i) (by omega))
 have HTOT := hid (show M.totK f t plan pn = M.total f t plan by rw [← hlen, M.totK_all])
 generalize M.total f t plan = res at HTOT
 clear hs hg hwt hp h0 hls hpl hlen
 go_enter Tryz.func28, Tryz.ntmps28
 go_upto_region 1 with fail
 generalize hW0 : World.alloc (World.alloc w _) _ = W0
 have hE0 : Ev w W0 := by rw [← hW0]; exact Ev.alloc (Ev.alloc (Ev.refl _) _) _
 have hal := alloc2 w (.cells #[.int .i64 f.last, .slice Ag ng cg, .slice Aw nw cw, .slice Ab nb cb, .slice Ac nc cc, .int .i64 f.ripe, .int .i64 f.late, .int .i64 f.trod, .slice Al nl cl] 26) (.cells #[.slice Tg tg tgc, .slice Tw tw twc] 65)
 rw [hW0] at hal
 have Q0 := hid hal.1
 have Q1 := hid hal.2.1
 clear hal hW0
 go_wp2_with fail
 go_loopw [7, 8] (fun a i wr => ∃ (k : Nat) (s : Int), a = .int .i64 s ∧ i = .int .i64 k ∧ k ≤ pn ∧ 0 ≤ s ∧ s ≤ 100000 * k ∧ Ev W0 wr ∧ Hid (s = M.totK f t plan k)) (fun _ i _ => pn - (intOf i).toNat)
 case atStart => exact ⟨0, 0, rfl, rfl, by omega, by omega, by omega, Ev.refl _, hid rfl⟩
 case round =>
  obtain ⟨k, s, rfl, rfl, hk, hs0, hs1, hB, HM⟩ := hrel
  obtain ⟨W1, hW1⟩ : ∃ x, x = wr := ⟨_, rfl⟩
  subst hW1
  obtain ⟨y0, y1, y2, y3, y4, y5, y6, y7, y8⟩ := cells9 (hB.heap Q0.out)
  obtain ⟨c0, c1⟩ := cells2 (hB.heap Q1.out)
  by_cases hlt : k < pn
  ·
   have hcr := HBD.out k hlt
   have HC := hid (HCX.out k hlt)
   have HM2 := hid (show s + (M.crop f t plan k).wo = M.totK f t plan (k + 1) by rw [M.totK_succ, HM.out])
   generalize M.crop f t plan k = cr at HC hcr HM2
   have fieldWo' := fieldWo cr.wt cr.st cr.wo
   have g1 : IntKind.i64.wrap (s + cr.wo) = s + cr.wo := IntWalk.i64_in _ (by omega)
   clear HM
   go_wp2_with (go_at_call 40; with_reducible refine (HC.out _ (hE0.trans hB)).mono ?_; rintro e w1 ⟨rfl, hb1⟩)
   exact ⟨⟨k + 1, s + cr.wo, rfl, by go_num, by omega, by omega, by omega, hB.trans hb1, HM2⟩, by simp [intOf]; omega⟩
  ·
   obtain rfl : k = pn := by omega
   have HR := hid (show s = res by rw [HM.out, HTOT.out])
   clear HM
   go_wp2
   go_ret
   exact ⟨by rw [← HR.out]; rfl, hE0.trans hB⟩

set_option maxRecDepth 100000 in
set_option maxHeartbeats 4000000 in
theorem rWorth_c (f : M.Cf) (Ag Aw Ab Ac Al : Option Addr) (ng cg nw cw nb cb nc cc nl cl : Nat) (L : Option Addr) (ln lc : Nat) (ts : List M.Tr) (P : Option Addr) (pn pc : Nat) (plan : List Int) (h0 : M.check f = 0) (hts : ∀ t ∈ ts, M.listed f t = true) (hpl : M.isPlan f plan = true) (w : World) (hs : CS w w.heap.size f Ag Aw Ab Ac Al ng cg nw cw nb cb nc cc nl cl) (hl : TL w L ln lc ts) (hp : Sl ics 1 w w.heap.size P pn pc plan) :
  Calls Tryz.prog 20 #[.agg #[.int .i64 f.last, .slice Ag ng cg, .slice Aw nw cw, .slice Ab nb cb, .slice Ac nc cc, .int .i64 f.ripe, .int .i64 f.late, .int .i64 f.trod, .slice Al nl cl], .slice L ln lc, .slice P pn pc] w fun e w' => e = .returned (.agg #[.int .i64 (M.worthR f ts plan).lo, .int .i64 (M.worthR f ts plan).hi]) ∧ Ev w w' := by
 have HTX := hid (fun (Tg Tw : Option Addr) (tg tgc tw twc : Nat) (t : M.Tr) (ht : t ∈ ts) W (hE : Ev w W) (hg : Sl ics 1 W W.heap.size Tg tg tgc t.gr) (hwt : Sl ics 1 W W.heap.size Tw tw twc t.wet) => rTotal_c f Ag Aw Ab Ac Al ng cg nw cw nb cb nc cc nl cl Tg Tw tg tgc tw twc t P pn pc plan h0 (hts t ht) hpl W (hs.ev hE) hg hwt (hp.ev hE))
 clear hs hp h0 hpl hts
 have htl := hl.len
 have HL := hid hl
 have HTL := hid htl
 obtain ⟨g, hgg⟩ : ∃ g : M.Tr → Int, g = fun t => M.total f t plan := ⟨_, rfl⟩
 have HRES := hid (show M.widen ⟨1099511627776, -1⟩ (ts.map g) = M.worthR f ts plan from by rw [hgg]; rfl)
 have HGG := hid hgg
 generalize M.worthR f ts plan = res at HRES
 have hsm : ln ≤ 1099511627776 := by obtain ⟨_, h1, _⟩ := hl; exact h1.small
 clear hl htl hgg
 go_enter Tryz.func20, Tryz.ntmps20
 go_upto_region 1 with fail
 generalize hW0 : World.alloc (World.alloc w _) _ = W0
 have hE0 : Ev w W0 := by rw [← hW0]; exact Ev.alloc (Ev.alloc (Ev.refl _) _) _
 have hal := alloc2 w (.cells #[.int .i64 f.last, .slice Ag ng cg, .slice Aw nw cw, .slice Ab nb cb, .slice Ac nc cc, .int .i64 f.ripe, .int .i64 f.late, .int .i64 f.trod, .slice Al nl cl] 26) (.cells #[.int .i64 0, .int .i64 0] 49)
 rw [hW0] at hal
 have Q0 := hid hal.1
 have Q1 := hid hal.2.1
 have HZ := hid hal.2.2
 clear hal hW0
 go_upto_region 2 with (go_at_call 54; with_reducible refine (Empty_c _).mono ?_; rintro e w1 ⟨rfl, hb1⟩)
 generalize hW2 : World.alloc w1 _ = W2
 have hE2 : Ev w1 W2 := by rw [← hW2]; exact Ev.alloc (Ev.refl _) _
 have hal := alloc1 w1 (.cells #[.int .i64 1099511627776, .int .i64 (-1)] 49)
 rw [hW2] at hal
 have QC := hid hal.1
 have Q0c := hid ((hb1.trans hE2).heap Q0.out)
 have Q1c := hid ((hb1.trans hE2).heap Q1.out)
 have hEw := (hE0.trans hb1).trans hE2
 have hpw : w.heap.size + 2 ≤ w1.heap.size := by have := HZ.out; have := hb1.size; omega
 clear hal hW2 Q0 Q1 HZ
 generalize w1.heap.size = p at QC hpw
 go_wp2_with fail
 go_loopw [8] (fun i wr => ∃ (k : Nat) (r : M.Rg), i = .int .i64 k ∧ k ≤ ln ∧ Ev w wr ∧ Hid (wr.heap[w.heap.size]? = some (.cells #[.int .i64 f.last, .slice Ag ng cg, .slice Aw nw cw, .slice Ab nb cb, .slice Ac nc cc, .int .i64 f.ripe, .int .i64 f.late, .int .i64 f.trod, .slice Al nl cl] 26 (0, 0))) ∧ Hid (wr.heap[w.heap.size + 1]? = some (.cells #[.int .i64 0, .int .i64 0] 49 (0, 0))) ∧ Hid (wr.heap[p]? = some (.cells #[.int .i64 r.lo, .int .i64 r.hi] 49 (0, 0))) ∧ Hid (M.widen r ((ts.drop k).map g) = res)) (fun i _ => ln - (intOf i).toNat)
 case atStart => exact ⟨0, ⟨1099511627776, -1⟩, rfl, by omega, hEw, Q0c, Q1c, QC, hid (by rw [List.drop_zero]; exact HRES.out)⟩
 case round =>
  obtain ⟨k, r, rfl, hk, hB, hQ0, hQ1, hC, HM⟩ := hrel
  obtain ⟨W1, hW1⟩ : ∃ x, x = wr := ⟨_, rfl⟩
  subst hW1
  clear Q0c Q1c QC
  obtain ⟨y0, y1, y2, y3, y4, y5, y6, y7, y8⟩ := cells9 hQ0.out
  obtain ⟨c0, c1⟩ := cells2 hC.out
  have lq := heap_lt hQ0.out
  have lp := heap_lt hC.out
  by_cases hlt : k < ln
  ·
   obtain ⟨vs, hvs, hrs⟩ := HL.out
   have hlt' : k < ts.length := by rw [HTL.out]; exact hlt
   have hdr : ts.drop k = ts[k] :: ts.drop (k + 1) := List.drop_eq_getElem_cons hlt'
   have htk : ts[k]? = some ts[k] := List.getElem?_eq_getElem _
   generalize ts[k] = t at hdr htk
   have htm := List.mem_of_getElem? htk
   obtain ⟨b, off, v, hA, hb, hx, hxd, hcc⟩ := hvs.at_ hB hlt
   obtain ⟨r1, r2, r3, r4⟩ := (hrs.ev hB).2 k v t hx htk
   have e0 := hcc 0 _ rfl
   have e1 := hcc 1 _ rfl
   simp only [Nat.add_zero] at e0
   have hcap := hvs.cap
   have lb : b < W1.heap.size := by have := hB.size; omega
   have hsg := sl_own (enc := ics) (by decide) (ics_len _) (by omega) r1
   have hsw := sl_own (enc := ics) (by decide) (ics_len _) (by omega) r2
   have HT := hid (fun W (hE : Ev W1 W) => HTX.out v.1.1 v.2.1 v.1.2.1 v.1.2.2 v.2.2.1 v.2.2.2 t htm W (hB.trans hE) (hsg.ev hE) (hsw.ev hE))
   have hM := HM.out
   rw [hdr, List.map_cons, M.widen, HGG.out] at hM
   simp only at hM
   rw [← HGG.out] at hM
   generalize M.total f t plan = n at HT hM
   have HWD := hid (fun W => Wider_c r n W)
   generalize M.wider r n = rr at HWD hM
   have HM2 := hid hM
   subst hA
   clear hx hxd hcc hvs hrs r1 r2 htk htm hsg hsw hM HM hdr
   go_upto_region 5 with fail
   have HSE : Hid (∀ w', Ev W1 w' → (∀ o, w'.cell? ⟨p, o, none⟩ = W1.cell? ⟨p, o, none⟩) ∧ (∀ o, w'.cell? ⟨w.heap.size, o, none⟩ = W1.cell? ⟨w.heap.size, o, none⟩) ∧ (∀ o, w'.cell? ⟨b, o, none⟩ = W1.cell? ⟨b, o, none⟩)) := hid (fun w' h => ⟨fun o => h.cells.1 _ o lp, fun o => h.cells.1 _ o lq, fun o => h.cells.1 _ o lb⟩)
   refine wp_region_K (c := 9) (S := fun w' => (∀ o, w'.cell? ⟨p, o, none⟩ = W1.cell? ⟨p, o, none⟩) ∧ (∀ o, w'.cell? ⟨w.heap.size, o, none⟩ = W1.cell? ⟨w.heap.size, o, none⟩) ∧ (∀ o, w'.cell? ⟨b, o, none⟩ = W1.cell? ⟨b, o, none⟩)) (by kernel_rfl) (⟨fun o => rfl, fun o => rfl, fun o => rfl⟩) (fun hHeld => ?_)
   refine wpAnyK_takeD (i := 0) (v := ?_) (some 16) rfl rfl rfl (by kernel_rfl) (by kernel_rfl) (by kernel_rfl) (by kernel_rfl) (fun _ _ _ h => h) (Or.inl ⟨by rfl, ?hy⟩) (by assumption) ?_
   case hy => (intro w hSw; (try dsimp only at hSw); go_simp; with_reducible rfl)
   (try simp only [Act.put, List.setIfInBounds_toArray, List.set_cons_zero, List.set_cons_succ])
   refine wpAnyK_takeD (i := 1) (v := ?_) (some 17) rfl rfl rfl (by kernel_rfl) (by kernel_rfl) (by kernel_rfl) (by kernel_rfl) (fun _ _ _ h => h) (Or.inl ⟨by rfl, ?hy⟩) (by assumption) ?_
   case hy => (intro w hSw; (try dsimp only at hSw); go_simp; with_reducible rfl)
   (try simp only [Act.put, List.setIfInBounds_toArray, List.set_cons_zero, List.set_cons_succ])
   refine wpAnyK_takeD (i := 2) (v := ?_) (some 18) rfl rfl rfl (by kernel_rfl) (by kernel_rfl) (by kernel_rfl) (by kernel_rfl) (fun _ _ _ h => h) (Or.inl ⟨by rfl, ?hy⟩) (by assumption) ?_
   case hy => (intro w hSw; (try dsimp only at hSw); go_simp; with_reducible rfl)
   (try simp only [Act.put, List.setIfInBounds_toArray, List.set_cons_zero, List.set_cons_succ])
   refine wpAnyK_takeD (i := 3) (v := ?_) (some 19) rfl rfl rfl (by kernel_rfl) (by kernel_rfl) (by kernel_rfl) (by kernel_rfl) (fun _ _ _ h => h) (Or.inl ⟨by rfl, ?hy⟩) (by assumption) ?_
   case hy => (intro w hSw; (try dsimp only at hSw); go_simp; with_reducible rfl)
   (try simp only [Act.put, List.setIfInBounds_toArray, List.set_cons_zero, List.set_cons_succ])
   refine wpAnyK_takeD (i := 4) (v := ?_) (some 20) rfl rfl rfl (by kernel_rfl) (by kernel_rfl) (by kernel_rfl) (by kernel_rfl) (fun _ _ _ h => h) (Or.inl ⟨by rfl, ?hy⟩) (by assumption) ?_
   case hy => (intro w hSw; (try dsimp only at hSw); go_simp; with_reducible rfl)
   (try simp only [Act.put, List.setIfInBounds_toArray, List.set_cons_zero, List.set_cons_succ])
   refine wpAnyK_takeD (i := 5) (v := ?_) (some 21) rfl rfl rfl (by kernel_rfl) (by kernel_rfl) (by kernel_rfl) (by kernel_rfl) (fun _ _ _ h => h) (Or.inl ⟨by rfl, ?hy⟩) (by assumption) ?_
   case hy => (intro w hSw; (try dsimp only at hSw); go_simp; with_reducible rfl)
   (try simp only [Act.put, List.setIfInBounds_toArray, List.set_cons_zero, List.set_cons_succ])
   refine wpAnyK_takeD (i := 6) (v := ?_) (some 22) rfl rfl rfl (by kernel_rfl) (by kernel_rfl) (by kernel_rfl) (by kernel_rfl) (fun _ _ _ h => h) (Or.inl ⟨by rfl, ?hy⟩) (by assumption) ?_
   case hy => (intro w hSw; (try dsimp only at hSw); go_simp; with_reducible rfl)
   (try simp only [Act.put, List.setIfInBounds_toArray, List.set_cons_zero, List.set_cons_succ])
   refine wpAnyK_one (i := 7) rfl (by kernel_rfl) (by rfl) (by decide) (fun K hK => ?_)
   go_simp
   refine (HT.out _ (Ev.drew (Ev.refl _))).mono ?_
   rintro e x1 ⟨rfl, hb1⟩
   have hV1 : Ev W1 x1 := Ev.trans (Ev.drew (Ev.refl _)) hb1
   refine hK.out _ _ (HSE.out _ hV1) (fun hHeld => ?_)
   clear hK K
   (try simp only [Act.put, List.setIfInBounds_toArray, List.set_cons_zero, List.set_cons_succ])
   refine wpAnyK_one (i := 8) rfl (by kernel_rfl) (by rfl) (by decide) (fun K hK => ?_)
   go_simp
   refine (HWD.out _).mono ?_
   rintro e x2 ⟨rfl, hb2⟩
   have hV2 : Ev W1 x2 := hV1.trans hb2
   refine hK.out _ _ (HSE.out _ hV2) (fun hHeld => ?_)
   clear hK K
   (try simp only [Act.put, List.setIfInBounds_toArray, List.set_cons_zero, List.set_cons_succ])
   have HQP := hid (hV2.heap hC.out)
   obtain ⟨g0, g1⟩ := cells2 HQP.out
   obtain ⟨f0, f1⟩ := frz2 HQP.out
   refine wpAnyK_last rfl (by kernel_rfl) (by rfl) (fun K hK => ?_)
   go_simp
   refine hK.out _ _ ?_
   clear hK K
   (try simp only [Act.put, List.setIfInBounds_toArray, List.set_cons_zero, List.set_cons_succ])
   refine wpAnyK_done (by kernel_rfl) ?_ _
   go_wp2
   refine ⟨⟨k + 1, rr, by go_num, by omega, Ev.setCell (Ev.setCell (hB.trans hV2) (show w.heap.size ≤ p by omega) _) (show w.heap.size ≤ p by omega) _, hid (set_heap (set_heap (hV2.heap hQ0.out) (by omega)) (by omega)), hid (set_heap (set_heap (hV2.heap hQ1.out) (by omega)) (by omega)), hid ?_, HM2⟩, by simp [intOf]; omega⟩
   rw [set_heap_same (set_heap_same HQP.out)]
   rfl
  ·
   have HR := hid (show r = res by rw [← HM.out, List.drop_eq_nil_of_le (by rw [HTL.out]; omega)]; rfl)
   have hn2 : ¬ ((k : Int) < ln) := by omega
   obtain ⟨z0, z1⟩ := cells2 hQ1.out
   obtain ⟨f0, f1⟩ := frz2 hQ1.out
   clear HM
   go_wp2_with fail
   have hF := set2 (v0 := .int .i64 r.lo) (v1 := .int .i64 r.hi) hQ1.out
   obtain ⟨d0, d1⟩ := cells2 hF
   refine bodyPost_ret (v := .agg #[.int .i64 r.lo, .int .i64 r.hi]) (by simp [results, Tryz.results20, go_sem, d0, d1]) rfl ⟨by rw [HR.out], ?_⟩
   exact Ev.setCell (Ev.setCell hB (by simp) _) (by simp) _

set_option maxRecDepth 100000 in
set_option maxHeartbeats 4000000 in
theorem rOn_c (f : M.Cf) (Ag Aw Ab Ac Al : Option Addr) (ng cg nw cw nb cb nc cc nl cl : Nat) (L : Option Addr) (ln lc : Nat) (ts : List M.Tr) (wk : Nat) (h0 : M.check f = 0) (hts : ∀ t ∈ ts, M.listed f t = true) (hwk : (wk : Int) ≤ f.last) (w : World) (hs : CS w w.heap.size f Ag Aw Ab Ac Al ng cg nw cw nb cb nc cc nl cl) (hl : TL w L ln lc ts) :
  Calls Tryz.prog 24 #[.agg #[.int .i64 f.last, .slice Ag ng cg, .slice Aw nw cw, .slice Ab nb cb, .slice Ac nc cc, .int .i64 f.ripe, .int .i64 f.late, .int .i64 f.trod, .slice Al nl cl], .slice L ln lc, .int .i64 wk] w fun e w' => e = .returned (.agg #[.int .i64 (M.onR f ts wk).lo, .int .i64 (M.onR f ts wk).hi]) ∧ Ev w w' := by
 have hv := (M.check0 h0).2.2.2.1
 have hl9 := (M.check0 h0).1
 have hvp := M.valid_parts hv
 obtain ⟨hpb, hpr, hpw⟩ := M.plan_parts hvp.2.2.2.2.2.2.2.2.2.2.2.1
 have HTX := hid (fun (Tg Tw : Option Addr) (tg tgc tw twc : Nat) (t : M.Tr) (ht : t ∈ ts) W (hE : Ev w W) (hg : Sl ics 1 W W.heap.size Tg tg tgc t.gr) (hwt : Sl ics 1 W W.heap.size Tw tw twc t.wet) => by
  obtain ⟨htg, htw, hgb, _⟩ := M.listed_bd hv (hts t ht)
  have h4 := hg.len
  have h5 := hvp.2.1
  exact rStanding_c Tg Tw tg tgc tw twc t.gr Ac nc cc f.crops wk (by omega) (by omega) hpr (fun q hq => (hpw q hq).1) hgb W hg (hs.c.ev hE))
 clear hs h0 hts hv hvp hpb hpr hpw hl9
 have htl := hl.len
 have HL := hid hl
 have HTL := hid htl
 obtain ⟨g, hgg⟩ : ∃ g : M.Tr → Int, g = fun t => (M.weights t.gr f.crops).getD wk 0 := ⟨_, rfl⟩
 have HRES := hid (show M.widen ⟨1099511627776, -1⟩ (ts.map g) = M.onR f ts wk from by rw [hgg]; rfl)
 have HGG := hid hgg
 generalize M.onR f ts wk = res at HRES
 have hsm : ln ≤ 1099511627776 := by obtain ⟨_, h1, _⟩ := hl; exact h1.small
 clear hl htl hgg
 go_enter Tryz.func24, Tryz.ntmps24
 go_upto_region 1 with fail
 generalize hW0 : World.alloc (World.alloc w _) _ = W0
 have hE0 : Ev w W0 := by rw [← hW0]; exact Ev.alloc (Ev.alloc (Ev.refl _) _) _
 have hal := alloc2 w (.cells #[.int .i64 f.last, .slice Ag ng cg, .slice Aw nw cw, .slice Ab nb cb, .slice Ac nc cc, .int .i64 f.ripe, .int .i64 f.late, .int .i64 f.trod, .slice Al nl cl] 26) (.cells #[.int .i64 0, .int .i64 0] 49)
 rw [hW0] at hal
 have Q0 := hid hal.1
 have Q1 := hid hal.2.1
 have HZ := hid hal.2.2
 clear hal hW0
 go_upto_region 2 with (go_at_call 54; with_reducible refine (Empty_c _).mono ?_; rintro e w1 ⟨rfl, hb1⟩)
 generalize hW2 : World.alloc w1 _ = W2
 have hE2 : Ev w1 W2 := by rw [← hW2]; exact Ev.alloc (Ev.refl _) _
 have hal := alloc1 w1 (.cells #[.int .i64 1099511627776, .int .i64 (-1)] 49)
 rw [hW2] at hal
 have QC := hid hal.1
 have Q0c := hid ((hb1.trans hE2).heap Q0.out)
 have Q1c := hid ((hb1.trans hE2).heap Q1.out)
 have hEw := (hE0.trans hb1).trans hE2
 have hpw : w.heap.size + 2 ≤ w1.heap.size := by have := HZ.out; have := hb1.size; omega
 clear hal hW2 Q0 Q1 HZ
 generalize w1.heap.size = p at QC hpw
 go_wp2_with fail
 go_loopw [8] (fun i wr => ∃ (k : Nat) (r : M.Rg), i = .int .i64 k ∧ k ≤ ln ∧ Ev w wr ∧ Hid (wr.heap[w.heap.size]? = some (.cells #[.int .i64 f.last, .slice Ag ng cg, .slice Aw nw cw, .slice Ab nb cb, .slice Ac nc cc, .int .i64 f.ripe, .int .i64 f.late, .int .i64 f.trod, .slice Al nl cl] 26 (0, 0))) ∧ Hid (wr.heap[w.heap.size + 1]? = some (.cells #[.int .i64 0, .int .i64 0] 49 (0, 0))) ∧ Hid (wr.heap[p]? = some (.cells #[.int .i64 r.lo, .int .i64 r.hi] 49 (0, 0))) ∧ Hid (M.widen r ((ts.drop k).map g) = res)) (fun i _ => ln - (intOf i).toNat)
 case atStart => exact ⟨0, ⟨1099511627776, -1⟩, rfl, by omega, hEw, Q0c, Q1c, QC, hid (by rw [List.drop_zero]; exact HRES.out)⟩
 case round =>
  obtain ⟨k, r, rfl, hk, hB, hQ0, hQ1, hC, HM⟩ := hrel
  obtain ⟨W1, hW1⟩ : ∃ x, x = wr := ⟨_, rfl⟩
  subst hW1
  clear Q0c Q1c QC
  obtain ⟨y0, y1, y2, y3, y4, y5, y6, y7, y8⟩ := cells9 hQ0.out
  obtain ⟨c0, c1⟩ := cells2 hC.out
  have lq := heap_lt hQ0.out
  have lp := heap_lt hC.out
  by_cases hlt : k < ln
  ·
   obtain ⟨vs, hvs, hrs⟩ := HL.out
   have hlt' : k < ts.length := by rw [HTL.out]; exact hlt
   have hdr : ts.drop k = ts[k] :: ts.drop (k + 1) := List.drop_eq_getElem_cons hlt'
   have htk : ts[k]? = some ts[k] := List.getElem?_eq_getElem _
   generalize ts[k] = t at hdr htk
   have htm := List.mem_of_getElem? htk
   obtain ⟨b, off, v, hA, hb, hx, hxd, hcc⟩ := hvs.at_ hB hlt
   obtain ⟨r1, r2, r3, r4⟩ := (hrs.ev hB).2 k v t hx htk
   have e0 := hcc 0 _ rfl
   have e1 := hcc 1 _ rfl
   simp only [Nat.add_zero] at e0
   have hcap := hvs.cap
   have lb : b < W1.heap.size := by have := hB.size; omega
   have hsg := sl_own (enc := ics) (by decide) (ics_len _) (by omega) r1
   have hsw := sl_own (enc := ics) (by decide) (ics_len _) (by omega) r2
   have HT := hid (fun W (hE : Ev W1 W) => HTX.out v.1.1 v.2.1 v.1.2.1 v.1.2.2 v.2.2.1 v.2.2.2 t htm W (hB.trans hE) (hsg.ev hE) (hsw.ev hE))
   have hM := HM.out
   rw [hdr, List.map_cons, M.widen, HGG.out] at hM
   simp only at hM
   rw [← HGG.out] at hM
   generalize (M.weights t.gr f.crops).getD wk 0 = n at HT hM
   have HWD := hid (fun W => Wider_c r n W)
   generalize M.wider r n = rr at HWD hM
   have HM2 := hid hM
   subst hA
   clear hx hxd hcc hvs hrs r1 r2 htk htm hsg hsw hM HM hdr
   go_upto_region 5 with fail
   have HSE : Hid (∀ w', Ev W1 w' → (∀ o, w'.cell? ⟨p, o, none⟩ = W1.cell? ⟨p, o, none⟩) ∧ (∀ o, w'.cell? ⟨w.heap.size, o, none⟩ = W1.cell? ⟨w.heap.size, o, none⟩) ∧ (∀ o, w'.cell? ⟨b, o, none⟩ = W1.cell? ⟨b, o, none⟩)) := hid (fun w' h => ⟨fun o => h.cells.1 _ o lp, fun o => h.cells.1 _ o lq, fun o => h.cells.1 _ o lb⟩)
   refine wp_region_K (c := 10) (S := fun w' => (∀ o, w'.cell? ⟨p, o, none⟩ = W1.cell? ⟨p, o, none⟩) ∧ (∀ o, w'.cell? ⟨w.heap.size, o, none⟩ = W1.cell? ⟨w.heap.size, o, none⟩) ∧ (∀ o, w'.cell? ⟨b, o, none⟩ = W1.cell? ⟨b, o, none⟩)) (by kernel_rfl) (⟨fun o => rfl, fun o => rfl, fun o => rfl⟩) (fun hHeld => ?_)
   refine wpAnyK_takeD (i := 0) (v := ?_) (some 16) rfl rfl rfl (by kernel_rfl) (by kernel_rfl) (by kernel_rfl) (by kernel_rfl) (fun _ _ _ h => h) (Or.inl ⟨by rfl, ?hy⟩) (by assumption) ?_
   case hy => (intro w hSw; (try dsimp only at hSw); go_simp; with_reducible rfl)
   (try simp only [Act.put, List.setIfInBounds_toArray, List.set_cons_zero, List.set_cons_succ])
   refine wpAnyK_takeD (i := 1) (v := ?_) (some 17) rfl rfl rfl (by kernel_rfl) (by kernel_rfl) (by kernel_rfl) (by kernel_rfl) (fun _ _ _ h => h) (Or.inl ⟨by rfl, ?hy⟩) (by assumption) ?_
   case hy => (intro w hSw; (try dsimp only at hSw); go_simp; with_reducible rfl)
   (try simp only [Act.put, List.setIfInBounds_toArray, List.set_cons_zero, List.set_cons_succ])
   refine wpAnyK_takeD (i := 2) (v := ?_) (some 18) rfl rfl rfl (by kernel_rfl) (by kernel_rfl) (by kernel_rfl) (by kernel_rfl) (fun _ _ _ h => h) (Or.inl ⟨by rfl, ?hy⟩) (by assumption) ?_
   case hy => (intro w hSw; (try dsimp only at hSw); go_simp; with_reducible rfl)
   (try simp only [Act.put, List.setIfInBounds_toArray, List.set_cons_zero, List.set_cons_succ])
   refine wpAnyK_takeD (i := 3) (v := ?_) (some 19) rfl rfl rfl (by kernel_rfl) (by kernel_rfl) (by kernel_rfl) (by kernel_rfl) (fun _ _ _ h => h) (Or.inl ⟨by rfl, ?hy⟩) (by assumption) ?_
   case hy => (intro w hSw; (try dsimp only at hSw); go_simp; with_reducible rfl)
   (try simp only [Act.put, List.setIfInBounds_toArray, List.set_cons_zero, List.set_cons_succ])
   refine wpAnyK_takeD (i := 4) (v := ?_) (some 20) rfl rfl rfl (by kernel_rfl) (by kernel_rfl) (by kernel_rfl) (by kernel_rfl) (fun _ _ _ h => h) (Or.inl ⟨by rfl, ?hy⟩) (by assumption) ?_
   case hy => (intro w hSw; (try dsimp only at hSw); go_simp; with_reducible rfl)
   (try simp only [Act.put, List.setIfInBounds_toArray, List.set_cons_zero, List.set_cons_succ])
   refine wpAnyK_takeD (i := 5) (v := ?_) (some 21) rfl rfl rfl (by kernel_rfl) (by kernel_rfl) (by kernel_rfl) (by kernel_rfl) (fun _ _ _ h => h) (Or.inl ⟨by rfl, ?hy⟩) (by assumption) ?_
   case hy => (intro w hSw; (try dsimp only at hSw); go_simp; with_reducible rfl)
   (try simp only [Act.put, List.setIfInBounds_toArray, List.set_cons_zero, List.set_cons_succ])
   refine wpAnyK_takeD (i := 6) (v := ?_) (some 22) rfl rfl rfl (by kernel_rfl) (by kernel_rfl) (by kernel_rfl) (by kernel_rfl) (fun _ _ _ h => h) (Or.inl ⟨by rfl, ?hy⟩) (by assumption) ?_
   case hy => (intro w hSw; (try dsimp only at hSw); go_simp; with_reducible rfl)
   (try simp only [Act.put, List.setIfInBounds_toArray, List.set_cons_zero, List.set_cons_succ])
   refine wpAnyK_takeD (i := 7) (v := ?_) (some 23) rfl rfl rfl (by kernel_rfl) (by kernel_rfl) (by kernel_rfl) (by kernel_rfl) (fun _ _ _ h => h) (Or.inl ⟨by rfl, ?hy⟩) (by assumption) ?_
   case hy => (intro w hSw; (try dsimp only at hSw); go_simp; with_reducible rfl)
   (try simp only [Act.put, List.setIfInBounds_toArray, List.set_cons_zero, List.set_cons_succ])
   refine wpAnyK_one (i := 8) rfl (by kernel_rfl) (by rfl) (by decide) (fun K hK => ?_)
   go_simp
   refine (HT.out _ (Ev.drew (Ev.refl _))).mono ?_
   rintro e x1 ⟨rfl, hb1⟩
   have hV1 : Ev W1 x1 := Ev.trans (Ev.drew (Ev.refl _)) hb1
   refine hK.out _ _ (HSE.out _ hV1) (fun hHeld => ?_)
   clear hK K
   (try simp only [Act.put, List.setIfInBounds_toArray, List.set_cons_zero, List.set_cons_succ])
   refine wpAnyK_one (i := 9) rfl (by kernel_rfl) (by rfl) (by decide) (fun K hK => ?_)
   go_simp
   refine (HWD.out _).mono ?_
   rintro e x2 ⟨rfl, hb2⟩
   have hV2 : Ev W1 x2 := hV1.trans hb2
   refine hK.out _ _ (HSE.out _ hV2) (fun hHeld => ?_)
   clear hK K
   (try simp only [Act.put, List.setIfInBounds_toArray, List.set_cons_zero, List.set_cons_succ])
   have HQP := hid (hV2.heap hC.out)
   obtain ⟨g0, g1⟩ := cells2 HQP.out
   obtain ⟨f0, f1⟩ := frz2 HQP.out
   refine wpAnyK_last rfl (by kernel_rfl) (by rfl) (fun K hK => ?_)
   go_simp
   refine hK.out _ _ ?_
   clear hK K
   (try simp only [Act.put, List.setIfInBounds_toArray, List.set_cons_zero, List.set_cons_succ])
   refine wpAnyK_done (by kernel_rfl) ?_ _
   go_wp2
   refine ⟨⟨k + 1, rr, by go_num, by omega, Ev.setCell (Ev.setCell (hB.trans hV2) (show w.heap.size ≤ p by omega) _) (show w.heap.size ≤ p by omega) _, hid (set_heap (set_heap (hV2.heap hQ0.out) (by omega)) (by omega)), hid (set_heap (set_heap (hV2.heap hQ1.out) (by omega)) (by omega)), hid ?_, HM2⟩, by simp [intOf]; omega⟩
   rw [set_heap_same (set_heap_same HQP.out)]
   rfl
  ·
   have HR := hid (show r = res by rw [← HM.out, List.drop_eq_nil_of_le (by rw [HTL.out]; omega)]; rfl)
   have hn2 : ¬ ((k : Int) < ln) := by omega
   obtain ⟨z0, z1⟩ := cells2 hQ1.out
   obtain ⟨f0, f1⟩ := frz2 hQ1.out
   clear HM
   go_wp2_with fail
   have hF := set2 (v0 := .int .i64 r.lo) (v1 := .int .i64 r.hi) hQ1.out
   obtain ⟨d0, d1⟩ := cells2 hF
   refine bodyPost_ret (v := .agg #[.int .i64 r.lo, .int .i64 r.hi]) (by simp [results, Tryz.results24, go_sem, d0, d1]) rfl ⟨by rw [HR.out], ?_⟩
   exact Ev.setCell (Ev.setCell hB (by simp) _) (by simp) _

end Go.Proofs.YtffbkbcjddigdaaGreat
