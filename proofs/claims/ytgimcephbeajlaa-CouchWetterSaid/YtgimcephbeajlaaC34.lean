import Derived.Test.YtgimcephbeajlaaC33
import Derived.Test.YtgimcephbeajlaaC19
set_option linter.unusedSimpArgs false
set_option linter.unusedVariables false
namespace Go.Proofs.Ytgimcephbeajlaa
open Go.RowKit Go.Shelf

theorem M.rg_ext {p q : M.Rg} (h1 : p.lo = q.lo) (h2 : p.hi = q.hi) : p = q := by
 cases p
 cases q
 simp only at h1 h2
 subst h1 h2
 rfl
theorem M.span_in {l : List Int} {y : Int} (h : y ∈ l) : (M.span l).lo ≤ y ∧ y ≤ (M.span l).hi := by
 cases l with
 | nil => cases h
 | cons x xs =>
  have h1 := M.least_le x xs
  have h2 := M.most_ge x xs
  show M.least x xs ≤ y ∧ y ≤ M.most x xs
  rcases List.mem_cons.1 h with rfl | h
  ·
   exact ⟨h1.1, h2.1⟩
  ·
   exact ⟨h1.2 y h, h2.2 y h⟩
theorem M.span_two {l : List Int} (h : l ≠ []) : (M.span l).lo ∈ l ∧ (M.span l).hi ∈ l := by
 cases l with
 | nil => exact absurd rfl h
 | cons x xs =>
  show M.least x xs ∈ x :: xs ∧ M.most x xs ∈ x :: xs
  refine ⟨?_, ?_⟩
  ·
   rcases M.least_mem x xs with h1 | h1
   ·
    rw [h1]; simp
   ·
    exact List.mem_cons_of_mem _ h1
  ·
   rcases M.most_mem x xs with h1 | h1
   ·
    rw [h1]; simp
   ·
    exact List.mem_cons_of_mem _ h1
theorem M.span_is {l : List Int} {r : M.Rg} (h1 : r.lo ∈ l) (h2 : r.hi ∈ l) (h3 : ∀ y ∈ l, r.lo ≤ y ∧ y ≤ r.hi) : r = M.span l := by
 have hn : l ≠ [] := fun e => by rw [e] at h1; cases h1
 obtain ⟨m1, m2⟩ := M.span_two hn
 have a := M.span_in h1
 have b := M.span_in h2
 have c := h3 _ m1
 have d := h3 _ m2
 exact M.rg_ext (by omega) (by omega)
theorem M.span_set {a b : List Int} (h : ∀ y, y ∈ a ↔ y ∈ b) (hn : a ≠ []) : M.span a = M.span b := by
 obtain ⟨m1, m2⟩ := M.span_two hn
 exact M.span_is ((h _).1 m1) ((h _).1 m2) (fun y hy => M.span_in ((h y).2 hy))
theorem M.widen_span {l : List Int} (hn : l ≠ []) (hb : ∀ y ∈ l, 0 ≤ y ∧ y ≤ 1099511627776) : M.widen ⟨1099511627776, -1⟩ l = M.span l := by
 obtain ⟨_, _, h3, h4, h5⟩ := M.widen_spec l ⟨1099511627776, -1⟩
 generalize M.widen ⟨1099511627776, -1⟩ l = z at h3 h4 h5 ⊢
 obtain ⟨y, hy⟩ : ∃ y, y ∈ l := by
  cases l with
  | nil => exact absurd rfl hn
  | cons y r => exact ⟨y, by simp⟩
 have a := h3 y hy
 have b := hb y hy
 refine M.span_is ?_ ?_ h3
 ·
  rcases h4 with h4 | h4
  ·
   simp only at h4
   have : z.lo = y := by omega
   rw [this]
   exact hy
  ·
   exact h4
 ·
  rcases h5 with h5 | h5
  ·
   simp only at h5
   omega
  ·
   exact h5
/-- The bounds of an hour, as the reference finds them. -/
def M.bdR (f : M.Cf) (ts : List M.Tr) (plan : List Int) (i : Nat) : M.Rg := M.widen ⟨1099511627776, -1⟩ (ts.map fun t => M.heatN f t plan (i + 1))
theorem M.bdR_burns {f : M.Cf} (hv : M.valid f = true) {ts : List M.Tr} (hts : ∀ t ∈ ts, M.listed f t = true) (plan : List Int) {i : Nat} (hi : i < f.wet.length) : M.burnsAt f ts plan i = decide (f.burn < (M.bdR f ts plan i).hi) := by
 obtain ⟨_, _, b1, _⟩ := M.valid_parts hv
 obtain ⟨_, _, h3, _, h5⟩ := M.widen_spec (ts.map fun t => M.heatN f t plan (i + 1)) ⟨1099511627776, -1⟩
 unfold M.bdR
 generalize M.widen ⟨1099511627776, -1⟩ (ts.map fun t => M.heatN f t plan (i + 1)) = z at h3 h5 ⊢
 unfold M.burnsAt
 rw [Bool.eq_iff_iff, List.any_eq_true, decide_eq_true_eq]
 constructor
 ·
  rintro ⟨x, hx, hb⟩
  obtain ⟨t, ht, rfl⟩ := List.mem_map.1 hx
  rw [M.heats_getD plan (by rw [(M.listed_bd hv (hts t ht)).2.1]; exact hi), decide_eq_true_eq] at hb
  have := h3 _ (List.mem_map.2 ⟨t, ht, rfl⟩)
  omega
 ·
  intro hb
  rcases h5 with h5 | h5
  ·
   simp only at h5; omega
  ·
   obtain ⟨t, ht, he⟩ := List.mem_map.1 h5
   refine ⟨_, List.mem_map.2 ⟨t, ht, rfl⟩, ?_⟩
   rw [M.heats_getD plan (by rw [(M.listed_bd hv (hts t ht)).2.1]; exact hi), he]
   exact decide_eq_true hb
theorem M.bdR_dies {f : M.Cf} (hv : M.valid f = true) {ts : List M.Tr} (hts : ∀ t ∈ ts, M.listed f t = true) (plan : List Int) {i : Nat} (hi : i < f.wet.length) : M.diesAt f ts plan i = decide ((M.bdR f ts plan i).lo < f.die) := by
 obtain ⟨_, _, b1, _⟩ := M.valid_parts hv
 obtain ⟨_, _, h3, h4, _⟩ := M.widen_spec (ts.map fun t => M.heatN f t plan (i + 1)) ⟨1099511627776, -1⟩
 unfold M.bdR
 generalize M.widen ⟨1099511627776, -1⟩ (ts.map fun t => M.heatN f t plan (i + 1)) = z at h3 h4 ⊢
 unfold M.diesAt
 rw [Bool.eq_iff_iff, List.any_eq_true, decide_eq_true_eq]
 constructor
 ·
  rintro ⟨x, hx, hb⟩
  obtain ⟨t, ht, rfl⟩ := List.mem_map.1 hx
  rw [M.heats_getD plan (by rw [(M.listed_bd hv (hts t ht)).2.1]; exact hi), decide_eq_true_eq] at hb
  have := h3 _ (List.mem_map.2 ⟨t, ht, rfl⟩)
  omega
 ·
  intro hb
  rcases h4 with h4 | h4
  ·
   simp only at h4; omega
  ·
   obtain ⟨t, ht, he⟩ := List.mem_map.1 h4
   refine ⟨_, List.mem_map.2 ⟨t, ht, rfl⟩, ?_⟩
   rw [M.heats_getD plan (by rw [(M.listed_bd hv (hts t ht)).2.1]; exact hi), he]
   exact decide_eq_true hb
theorem M.stays_iff {f : M.Cf} (hv : M.valid f = true) {t : M.Tr} (hl : M.listed f t = true) (plan : List Int) : M.stays f t plan = true ↔ ∀ j, j < f.wet.length → M.isIn (M.heatN f t plan (j + 1)) f.die f.burn = true := by
 have hwl := (M.listed_bd hv hl).2.1
 unfold M.stays
 rw [Bool.not_eq_true', List.any_eq_false]
 constructor
 ·
  intro h j hj
  have h1 := h (M.heatN f t plan (j + 1)) (List.mem_of_getElem? (i := j) (by rw [List.getElem?_take_of_lt hj, M.heats_at plan (by omega)]))
  unfold M.isLost at h1
  unfold M.isIn
  simp only [Bool.or_eq_true, decide_eq_true_eq, Bool.and_eq_true] at h1 ⊢
  omega
 ·
  intro h x hx
  obtain ⟨j, hj, rfl⟩ := List.getElem_of_mem hx
  have hj2 : j < f.wet.length := by rw [List.length_take] at hj; omega
  have e : ((M.heats f t plan).take f.wet.length)[j] = M.heatN f t plan (j + 1) := by
   have h2 : ((M.heats f t plan).take f.wet.length)[j]? = some (M.heatN f t plan (j + 1)) := by rw [List.getElem?_take_of_lt hj2, M.heats_at plan (by omega)]
   rw [List.getElem?_eq_getElem hj] at h2
   exact Option.some.inj h2
  have h1 := h j hj2
  rw [e]
  unfold M.isIn at h1
  unfold M.isLost
  simp only [Bool.or_eq_true, decide_eq_true_eq, Bool.and_eq_true] at h1 ⊢
  omega
theorem M.keeps_count (f : M.Cf) (ts : List M.Tr) (plan : List Int) : M.keepsOf f ts plan = if ts.countP (fun t => M.stays f t plan) = ts.length then 1 else if ts.countP (fun t => M.stays f t plan) = 0 then 2 else 3 := by
 unfold M.keepsOf
 by_cases h1 : ts.countP (fun t => M.stays f t plan) = ts.length
 ·
  rw [if_pos h1, if_pos (List.all_eq_true.2 (List.countP_eq_length.1 h1))]
 ·
  rw [if_neg h1, if_neg (fun h => h1 (List.countP_eq_length.2 (List.all_eq_true.1 h)))]
  by_cases h2 : ts.countP (fun t => M.stays f t plan) = 0
  ·
   rw [if_pos h2, if_neg (by rw [Bool.not_eq_true, List.any_eq_false]; exact fun t ht => by simpa using List.countP_eq_zero.1 h2 t ht)]
  ·
   rw [if_neg h2, if_pos (by
    cases hb : ts.any fun t => M.stays f t plan with
    | true => rfl
    | false => exact absurd (List.countP_eq_zero.2 (fun t ht => by have := List.any_eq_false.1 hb t ht; simpa using this)) h2)]

set_option maxRecDepth 100000 in
set_option maxHeartbeats 8000000 in
theorem rBounds_c (f : M.Cf) (Aw At Ar : Option Addr) (nw cw nt ct nr cr : Nat) (L : Option Addr) (ln lc : Nat) (ts : List M.Tr) (P : Option Addr) (pn pc : Nat) (plan : List Int) (i : Nat) (hi : i < nw) (h0 : M.check f = 0) (hts : ∀ t ∈ ts, M.listed f t = true) (w : World) (hs : CS w w.heap.size f Aw At Ar nw cw nt ct nr cr) (hl : TL w L ln lc ts) (hp : Sl ics 1 w w.heap.size P pn pc plan) :
  Calls Try.prog 37 #[.agg #[.int .i64 f.last, .int .i64 f.size, .int .i64 f.cool, .int .i64 f.die, .int .i64 f.burn, .int .i64 f.st.lo, .int .i64 f.st.hi, .slice Aw nw cw, .slice At nt ct, .slice Ar nr cr], .slice L ln lc, .slice P pn pc, .int .i64 i] w fun e w' => e = .returned (.agg #[.int .i64 (M.bdR f ts plan i).lo, .int .i64 (M.bdR f ts plan i).hi]) ∧ Ev w w' := by
 obtain ⟨hl9, _, hv, _⟩ := M.check0 h0
 have hwl := hs.w_.len
 have htl := hl.len
 have HCX := hid (fun (Tw : Option Addr) (tw twc : Nat) (t : M.Tr) (ht : t ∈ ts) W (hE : Ev w W) (hwt : Sl ics 1 W W.heap.size Tw tw twc t.wet) => Heat_c f Aw At Ar nw cw nt ct nr cr Tw tw twc t P pn pc plan hv hl9 (hts t ht) (i + 1) (i : Int) (by omega) (by have := hwt.len; have := (M.listed_bd hv (hts t ht)).2.1; omega) W (hs.ev hE) hwt (hp.ev hE))
 have HL := hid hl
 have HTL := hid htl
 have hsm : ln ≤ 1099511627776 := by obtain ⟨_, h1, _⟩ := hl; exact h1.small
 have hres : M.bdR f ts plan i = M.widen ⟨1099511627776, -1⟩ (ts.map fun t => M.heatN f t plan (i + 1)) := rfl
 have HBD := hid (fun t ht => (M.heatN_bd hv (hts t ht) plan (i + 1) (by have := (M.listed_bd hv (hts t ht)).2.1; omega)))
 obtain ⟨g, hg⟩ : ∃ g : M.Tr → Int, g = fun t => M.heatN f t plan (i + 1) := ⟨_, rfl⟩
 have HG := hid (fun t => show g t = M.heatN f t plan (i + 1) from by rw [hg])
 rw [← hg] at hres
 generalize M.bdR f ts plan i = res at hres ⊢
 have HR := hid hres.symm
 clear hs hl hp h0 htl hts hg hv hl9 hwl hres
 go_enter Try.func37, Try.ntmps37
 go_upto_region 2 with fail
 generalize hW0 : World.alloc (World.alloc (World.alloc w _) _) _ = W0
 have hE0 : Ev w W0 := by rw [← hW0]; exact Ev.alloc (Ev.alloc (Ev.alloc (Ev.refl _) _) _) _
 have hal := alloc3 w (.cells #[.int .i64 f.last, .int .i64 f.size, .int .i64 f.cool, .int .i64 f.die, .int .i64 f.burn, .int .i64 f.st.lo, .int .i64 f.st.hi, .slice Aw nw cw, .slice At nt ct, .slice Ar nr cr] 28) (.cells #[.int .i64 0, .int .i64 0] 23) (.cells #[.int .i64 1099511627776, .int .i64 (-1)] 23)
 rw [hW0] at hal
 have Q0 := hid hal.1
 have Q1 := hid hal.2.1
 have QC := hid hal.2.2.1
 clear hal hW0
 go_wp2_with fail
 go_loopw [10] (fun i wr => ∃ (k : Nat) (r : M.Rg), i = .int .i64 k ∧ k ≤ ln ∧ Ev w wr ∧ Hid (wr.heap[w.heap.size]? = some (.cells #[.int .i64 f.last, .int .i64 f.size, .int .i64 f.cool, .int .i64 f.die, .int .i64 f.burn, .int .i64 f.st.lo, .int .i64 f.st.hi, .slice Aw nw cw, .slice At nt ct, .slice Ar nr cr] 28 (0, 0))) ∧ Hid (wr.heap[w.heap.size + 1]? = some (.cells #[.int .i64 0, .int .i64 0] 23 (0, 0))) ∧ Hid (wr.heap[w.heap.size + 1 + 1]? = some (.cells #[.int .i64 r.lo, .int .i64 r.hi] 23 (0, 0))) ∧ Hid (M.widen r ((ts.drop k).map g) = res)) (fun i _ => ln - (intOf i).toNat)
 case atStart => exact ⟨0, ⟨1099511627776, -1⟩, rfl, by omega, hE0, Q0, Q1, QC, hid (by rw [List.drop_zero]; exact HR.out)⟩
 case round =>
  obtain ⟨k, r, rfl, hk, hB, hQ0, hQ1, hC, HM⟩ := hrel
  obtain ⟨W1, hW1⟩ : ∃ x, x = wr := ⟨_, rfl⟩
  subst hW1
  clear Q0 Q1 QC HR
  obtain ⟨y0, y1, y2, y3, y4, y5, y6, y7, y8, y9⟩ := cells10 hQ0.out
  have lq := heap_lt hQ0.out
  have lc2 := heap_lt hC.out
  by_cases hlt : k < ln
  ·
   have HBT := HBD.out
   obtain ⟨vs, hvs, hrs⟩ := HL.out
   have hlt' : k < ts.length := by rw [HTL.out]; exact hlt
   have hdr : ts.drop k = ts[k] :: ts.drop (k + 1) := List.drop_eq_getElem_cons hlt'
   have htk : ts[k]? = some ts[k] := List.getElem?_eq_getElem _
   generalize ts[k] = t at hdr htk
   have htm := List.mem_of_getElem? htk
   obtain ⟨b, off, v, hA, hb, hx, hxd, hcc⟩ := hvs.at_ hB hlt
   obtain ⟨t1, t2, t3⟩ := (hrs.ev hB).2 k v t hx htk
   have e0 := hcc 0 _ rfl
   have e1 := hcc 1 _ rfl
   simp only [Nat.add_zero] at e0
   rw [t1] at e0
   have hcap := hvs.cap
   have lb : b < W1.heap.size := by have := hB.size; omega
   have hsw := sl_own (enc := ics) (by decide) (ics_len _) (by omega) t2
   have HT := hid (fun W (hE : Ev W1 W) => HCX.out v.2.1 v.2.2.1 v.2.2.2 t htm W (hB.trans hE) (hsw.ev hE))
   subst hA
   have hbt := HBT t htm
   have hM := HM.out
   rw [hdr, List.map_cons, M.widen, HG.out] at hM
   generalize M.heatN f t plan (i + 1) = n at HT hM hbt
   have HM2 := hid hM
   clear HBT hM HM hdr hx hxd hcc hvs hrs t1 t2 htk htm hsw
   go_upto_region 5 with fail
   have HSE : Hid (∀ w', Ev W1 w' → (∀ o, w'.cell? ⟨w.heap.size, o, none⟩ = W1.cell? ⟨w.heap.size, o, none⟩) ∧ (∀ o, w'.cell? ⟨b, o, none⟩ = W1.cell? ⟨b, o, none⟩)) := hid (fun w' h => ⟨fun o => h.cells.1 _ o lq, fun o => h.cells.1 _ o lb⟩)
   refine wp_region_held_drew (S := fun w' => (∀ o, w'.cell? ⟨w.heap.size, o, none⟩ = W1.cell? ⟨w.heap.size, o, none⟩) ∧ (∀ o, w'.cell? ⟨b, o, none⟩ = W1.cell? ⟨b, o, none⟩)) (by kernel_rfl) (⟨fun o => rfl, fun o => rfl⟩) (fun hHeld => ?_)
   refine tkH 0 (some 19) ?_
   (try simp only [Act.put, sA, sB, sC])
   refine tkH 1 (some 20) ?_
   (try simp only [Act.put, sA, sB, sC])
   refine tkH 2 (some 21) ?_
   (try simp only [Act.put, sA, sB, sC])
   refine tkH 3 (some 22) ?_
   (try simp only [Act.put, sA, sB, sC])
   refine tkH 4 (some 23) ?_
   (try simp only [Act.put, sA, sB, sC])
   refine tkH 5 (some 24) ?_
   (try simp only [Act.put, sA, sB, sC])
   refine tkH 6 (some 25) ?_
   (try simp only [Act.put, sA, sB, sC])
   refine wpAnyH_one (i := 7) rfl (by kernel_rfl) (by rfl) (fun K hK => ?_)
   go_simp
   refine (HT.out _ (Ev.drew (Ev.refl _))).mono ?_
   rintro e z7 ⟨rfl, hb7⟩
   have hy7 : Ev W1 z7 := Ev.trans (Ev.drew (Ev.refl _)) hb7
   refine hK.out _ _ (HSE.out _ hy7) (fun hHeld => ?_)
   clear hK K
   (try simp only [Act.put, List.setIfInBounds_toArray, List.set_cons_zero, List.set_cons_succ])
   refine tkH 8 (some 11) ?_
   (try simp only [Act.put, sA, sB, sC])
   refine wpAnyH_done (by kernel_rfl) ?_ _
   have HC7 := hid (hy7.heap hC.out)
   have H0 := hid (hy7.heap hQ0.out)
   have H1 := hid (hy7.heap hQ1.out)
   clear y0 y1 y2 y3 y4 y5 y6 y7 y8 y9 e0 e1
   obtain ⟨c0, c1⟩ := cells2 HC7.out
   obtain ⟨f0, f1⟩ := frz2 HC7.out
   have hE7 := hB.trans hy7
   clear hHeld hy7 hb7 HSE HT
   by_cases q1 : n < r.lo
   ·
    have m1 : min r.lo n = n := by omega
    by_cases q2 : r.hi < n
    ·
     have m2 : max r.hi n = n := by omega
     have HN : Hid (M.widen ⟨n, n⟩ ((ts.drop (k + 1)).map g) = res) := hid (by rw [← HM2.out, show M.wider r n = ⟨n, n⟩ by unfold M.wider; rw [if_pos q1, if_pos q2]])
     go_wp2
     all_goals (
      refine ⟨⟨k + 1, ⟨n, n⟩, by go_num, by omega, Ev.setCell (Ev.setCell hE7 (by show w.heap.size ≤ w.heap.size + 1 + 1; omega) _) (by show w.heap.size ≤ w.heap.size + 1 + 1; omega) _, hid (set_heap (set_heap H0.out (by omega)) (by omega)), hid (set_heap (set_heap H1.out (by omega)) (by omega)), hid ?_, HN⟩, by simp [intOf]; omega⟩
      rw [set_heap_same (set_heap_same HC7.out)]
      rfl)
    ·
     have m2 : max r.hi n = r.hi := by omega
     have q2' : n ≤ r.hi := by omega
     have HN : Hid (M.widen ⟨n, r.hi⟩ ((ts.drop (k + 1)).map g) = res) := hid (by rw [← HM2.out, show M.wider r n = ⟨n, r.hi⟩ by unfold M.wider; rw [if_pos q1, if_neg q2]])
     go_wp2
     all_goals (
      refine ⟨⟨k + 1, ⟨n, r.hi⟩, by go_num, by omega, Ev.setCell (Ev.setCell hE7 (by show w.heap.size ≤ w.heap.size + 1 + 1; omega) _) (by show w.heap.size ≤ w.heap.size + 1 + 1; omega) _, hid (set_heap (set_heap H0.out (by omega)) (by omega)), hid (set_heap (set_heap H1.out (by omega)) (by omega)), hid ?_, HN⟩, by simp [intOf]; omega⟩
      rw [set_heap_same (set_heap_same HC7.out)]
      rfl)
   ·
    have m1 : min r.lo n = r.lo := by omega
    have q1' : r.lo ≤ n := by omega
    by_cases q2 : r.hi < n
    ·
     have m2 : max r.hi n = n := by omega
     have HN : Hid (M.widen ⟨r.lo, n⟩ ((ts.drop (k + 1)).map g) = res) := hid (by rw [← HM2.out, show M.wider r n = ⟨r.lo, n⟩ by unfold M.wider; rw [if_neg q1, if_pos q2]])
     go_wp2
     all_goals (
      refine ⟨⟨k + 1, ⟨r.lo, n⟩, by go_num, by omega, Ev.setCell (Ev.setCell hE7 (by show w.heap.size ≤ w.heap.size + 1 + 1; omega) _) (by show w.heap.size ≤ w.heap.size + 1 + 1; omega) _, hid (set_heap (set_heap H0.out (by omega)) (by omega)), hid (set_heap (set_heap H1.out (by omega)) (by omega)), hid ?_, HN⟩, by simp [intOf]; omega⟩
      rw [set_heap_same (set_heap_same HC7.out)]
      rfl)
    ·
     have m2 : max r.hi n = r.hi := by omega
     have q2' : n ≤ r.hi := by omega
     have HN : Hid (M.widen ⟨r.lo, r.hi⟩ ((ts.drop (k + 1)).map g) = res) := hid (by rw [← HM2.out, show M.wider r n = ⟨r.lo, r.hi⟩ by unfold M.wider; rw [if_neg q1, if_neg q2]])
     go_wp2
     all_goals (
      refine ⟨⟨k + 1, ⟨r.lo, r.hi⟩, by go_num, by omega, Ev.setCell (Ev.setCell hE7 (by show w.heap.size ≤ w.heap.size + 1 + 1; omega) _) (by show w.heap.size ≤ w.heap.size + 1 + 1; omega) _, hid (set_heap (set_heap H0.out (by omega)) (by omega)), hid (set_heap (set_heap H1.out (by omega)) (by omega)), hid ?_, HN⟩, by simp [intOf]; omega⟩
      rw [set_heap_same (set_heap_same HC7.out)]
      rfl)
  ·
   have HRR := hid (show r = res by rw [← HM.out, List.drop_eq_nil_of_le (by rw [HTL.out]; omega)]; rfl)
   have hn2 : ¬ ((k : Int) < ln) := by omega
   obtain ⟨c0, c1⟩ := cells2 hC.out
   obtain ⟨z0, z1⟩ := cells2 hQ1.out
   obtain ⟨f0, f1⟩ := frz2 hQ1.out
   clear HM
   go_wp2_with fail
   have hF := set2' (v0 := (.int .i64 r.lo : Value)) (v1 := (.int .i64 r.hi : Value)) hQ1.out
   obtain ⟨d0, d1⟩ := cells2 hF
   refine bodyPost_ret (v := .agg #[.int .i64 r.lo, .int .i64 r.hi]) (by simp [results, Try.results37, go_sem, d0, d1]) rfl ⟨by rw [HRR.out], ?_⟩
   exact Ev.setCell (Ev.setCell hB (by simp) _) (by simp) _

set_option maxRecDepth 100000 in
set_option maxHeartbeats 4000000 in
theorem Kept_c (f : M.Cf) (Aw At Ar : Option Addr) (nw cw nt ct nr cr : Nat) (Tw : Option Addr) (tw twc : Nat) (t : M.Tr) (P : Option Addr) (pn pc : Nat) (plan : List Int) (h0 : M.check f = 0) (hls : M.listed f t = true) (w : World) (hs : CS w w.heap.size f Aw At Ar nw cw nt ct nr cr) (hwt : Sl ics 1 w w.heap.size Tw tw twc t.wet) (hp : Sl ics 1 w w.heap.size P pn pc plan) :
  Calls Try.prog 78 #[.agg #[.int .i64 f.last, .int .i64 f.size, .int .i64 f.cool, .int .i64 f.die, .int .i64 f.burn, .int .i64 f.st.lo, .int .i64 f.st.hi, .slice Aw nw cw, .slice At nt ct, .slice Ar nr cr], .agg #[.int .i64 t.st, .slice Tw tw twc], .slice P pn pc] w fun e w' => e = .returned (.bool (M.stays f t plan)) ∧ Ev w w' := by
 obtain ⟨hl9, _, hv, _⟩ := M.check0 h0
 have hwl := hs.w_.len
 have htl := hwt.len
 have hlw := (M.listed_bd hv hls).2.1
 have hlast := (M.valid_parts hv).2.2.2.2.2.1
 have hl00 := (M.valid_parts hv).2.2.2.2.1
 have HHX := hid (fun (i : Nat) (hi : i < nw) W (hE : Ev w W) => Heat_c f Aw At Ar nw cw nt ct nr cr Tw tw twc t P pn pc plan hv hl9 hls (i + 1) (i : Int) (by omega) (by omega) W (hs.ev hE) (hwt.ev hE) (hp.ev hE))
 have HST := hid (M.stays_iff hv hls plan)
 have HNW := hid (show (nw : Int) = f.last + 1 ∧ f.wet.length = nw from ⟨by omega, hwl⟩)
 generalize M.stays f t plan = st at HST ⊢
 have hnl : (nw : Int) = f.last + 1 := by omega
 clear hs hwt hp h0 hls hv hwl htl hlw hlast
 go_enter Try.func78, Try.ntmps78
 go_wp2
 generalize hW0 : World.alloc (World.alloc w _) _ = W0
 have hE0 : Ev w W0 := by rw [← hW0]; exact Ev.alloc (Ev.alloc (Ev.refl _) _) _
 have hal := alloc2 w (.cells #[.int .i64 f.last, .int .i64 f.size, .int .i64 f.cool, .int .i64 f.die, .int .i64 f.burn, .int .i64 f.st.lo, .int .i64 f.st.hi, .slice Aw nw cw, .slice At nt ct, .slice Ar nr cr] 28) (.cells #[.int .i64 t.st, .slice Tw tw twc] 30)
 rw [hW0] at hal
 have Q0 := hid hal.1
 have Q1 := hid hal.2.1
 clear hal hW0
 go_loopw [7] (fun i wr => ∃ k : Nat, i = .int .i64 k ∧ k ≤ nw ∧ Ev W0 wr ∧ Hid (∀ j, j < k → M.isIn (M.heatN f t plan (j + 1)) f.die f.burn = true)) (fun i _ => nw - (intOf i).toNat)
 case atStart => exact ⟨0, rfl, by omega, Ev.refl _, hid (fun j hj => absurd hj (by omega))⟩
 case round =>
  obtain ⟨k, rfl, hk, hB, HM⟩ := hrel
  obtain ⟨W1, hW1⟩ : ∃ x, x = wr := ⟨_, rfl⟩
  subst hW1
  obtain ⟨y0, y1, y2, y3, y4, y5, y6, y7, y8, y9⟩ := cells10 (hB.heap Q0.out)
  obtain ⟨c0, c1⟩ := cells2 (hB.heap Q1.out)
  have l0 := heap_lt (hB.heap Q0.out)
  have l1 := heap_lt (hB.heap Q1.out)
  by_cases hlt : k < nw
  ·
   have hle : (k : Int) ≤ f.last := by omega
   have HHT := hid (fun W hE => HHX.out k hlt W hE)
   have hin := fun W => In_c (M.heatN f t plan (k + 1)) f.die f.burn W
   have HBAD := hid (fun h : M.isIn (M.heatN f t plan (k + 1)) f.die f.burn = false => show false = st from by
    cases st with
    | false => rfl
    | true => rw [HST.out.1 rfl k (by have := HNW.out.2; omega)] at h; cases h)
   have HGOOD := hid (fun h : M.isIn (M.heatN f t plan (k + 1)) f.die f.burn = true => show ∀ j, j < k + 1 → M.isIn (M.heatN f t plan (j + 1)) f.die f.burn = true from fun j hj => by
    by_cases hjk : j < k
    ·
     exact HM.out j hjk
    ·
     obtain rfl : j = k := by omega
     exact h)
   cases hb : M.isIn (M.heatN f t plan (k + 1)) f.die f.burn with
   | false =>
    have HF := hid (HBAD.out hb)
    rw [hb] at hin
    have HIN := hid hin
    clear hin hb HBAD HGOOD
    generalize M.heatN f t plan (k + 1) = n at HHT HIN
    have HSE : Hid (∀ w', Ev W1 w' → (∀ o, w'.cell? ⟨w.heap.size, o, none⟩ = W1.cell? ⟨w.heap.size, o, none⟩) ∧ (∀ o, w'.cell? ⟨w.heap.size + 1, o, none⟩ = W1.cell? ⟨w.heap.size + 1, o, none⟩)) := hid (fun w' h => ⟨fun o => h.cells.1 _ o l0, fun o => h.cells.1 _ o l1⟩)
    go_upto_region 4 with fail
    refine wp_region_held_drew (S := fun w' => (∀ o, w'.cell? ⟨w.heap.size, o, none⟩ = W1.cell? ⟨w.heap.size, o, none⟩) ∧ (∀ o, w'.cell? ⟨w.heap.size + 1, o, none⟩ = W1.cell? ⟨w.heap.size + 1, o, none⟩)) (by kernel_rfl) (⟨fun o => rfl, fun o => rfl⟩) (fun hHeld => ?_)
    refine tkH 0 (some 14) ?_
    (try simp only [Act.put, sA, sB, sC])
    refine tkH 1 (some 15) ?_
    (try simp only [Act.put, sA, sB, sC])
    refine tkH 2 (some 16) ?_
    (try simp only [Act.put, sA, sB, sC])
    refine tkH 3 (some 17) ?_
    (try simp only [Act.put, sA, sB, sC])
    refine tkH 5 (some 19) ?_
    (try simp only [Act.put, sA, sB, sC])
    refine tkH 6 (some 20) ?_
    (try simp only [Act.put, sA, sB, sC])
    refine tkH 7 (some 21) ?_
    (try simp only [Act.put, sA, sB, sC])
    refine tkH 8 (some 22) ?_
    (try simp only [Act.put, sA, sB, sC])
    refine wpAnyH_one (i := 4) rfl (by kernel_rfl) (by rfl) (fun K hK => ?_)
    go_simp
    refine (HHT.out _ ((hE0.trans hB).trans (Ev.drew (Ev.refl _)))).mono ?_
    rintro e z4 ⟨rfl, hb4⟩
    have hy4 : Ev W1 z4 := Ev.trans (Ev.drew (Ev.refl _)) hb4
    refine hK.out _ _ (HSE.out _ hy4) (fun hHeld => ?_)
    clear hK K
    (try simp only [Act.put, List.setIfInBounds_toArray, List.set_cons_zero, List.set_cons_succ])
    refine wpAnyH_one (i := 9) rfl (by kernel_rfl) (by rfl) (fun K hK => ?_)
    go_simp
    refine (HIN.out _).mono ?_
    rintro e z9 ⟨rfl, hb9⟩
    have hy9 : Ev W1 z9 := Ev.trans hy4 hb9
    refine hK.out _ _ (HSE.out _ hy9) (fun hHeld => ?_)
    clear hK K
    (try simp only [Act.put, List.setIfInBounds_toArray, List.set_cons_zero, List.set_cons_succ])
    refine tkH 10 (some 24) ?_
    (try simp only [Act.put, sA, sB, sC])
    refine wpAnyH_done (by kernel_rfl) ?_ _
    go_wp2
    go_ret
    exact ⟨ret_bool HF.out, hE0.trans (hB.trans hy9)⟩
   | true =>
    have HN := hid (HGOOD.out hb)
    rw [hb] at hin
    have HIN := hid hin
    clear hin hb HBAD HGOOD
    generalize M.heatN f t plan (k + 1) = n at HHT HIN
    have HSE : Hid (∀ w', Ev W1 w' → (∀ o, w'.cell? ⟨w.heap.size, o, none⟩ = W1.cell? ⟨w.heap.size, o, none⟩) ∧ (∀ o, w'.cell? ⟨w.heap.size + 1, o, none⟩ = W1.cell? ⟨w.heap.size + 1, o, none⟩)) := hid (fun w' h => ⟨fun o => h.cells.1 _ o l0, fun o => h.cells.1 _ o l1⟩)
    go_upto_region 4 with fail
    refine wp_region_held_drew (S := fun w' => (∀ o, w'.cell? ⟨w.heap.size, o, none⟩ = W1.cell? ⟨w.heap.size, o, none⟩) ∧ (∀ o, w'.cell? ⟨w.heap.size + 1, o, none⟩ = W1.cell? ⟨w.heap.size + 1, o, none⟩)) (by kernel_rfl) (⟨fun o => rfl, fun o => rfl⟩) (fun hHeld => ?_)
    refine tkH 0 (some 14) ?_
    (try simp only [Act.put, sA, sB, sC])
    refine tkH 1 (some 15) ?_
    (try simp only [Act.put, sA, sB, sC])
    refine tkH 2 (some 16) ?_
    (try simp only [Act.put, sA, sB, sC])
    refine tkH 3 (some 17) ?_
    (try simp only [Act.put, sA, sB, sC])
    refine tkH 5 (some 19) ?_
    (try simp only [Act.put, sA, sB, sC])
    refine tkH 6 (some 20) ?_
    (try simp only [Act.put, sA, sB, sC])
    refine tkH 7 (some 21) ?_
    (try simp only [Act.put, sA, sB, sC])
    refine tkH 8 (some 22) ?_
    (try simp only [Act.put, sA, sB, sC])
    refine wpAnyH_one (i := 4) rfl (by kernel_rfl) (by rfl) (fun K hK => ?_)
    go_simp
    refine (HHT.out _ ((hE0.trans hB).trans (Ev.drew (Ev.refl _)))).mono ?_
    rintro e z4 ⟨rfl, hb4⟩
    have hy4 : Ev W1 z4 := Ev.trans (Ev.drew (Ev.refl _)) hb4
    refine hK.out _ _ (HSE.out _ hy4) (fun hHeld => ?_)
    clear hK K
    (try simp only [Act.put, List.setIfInBounds_toArray, List.set_cons_zero, List.set_cons_succ])
    refine wpAnyH_one (i := 9) rfl (by kernel_rfl) (by rfl) (fun K hK => ?_)
    go_simp
    refine (HIN.out _).mono ?_
    rintro e z9 ⟨rfl, hb9⟩
    have hy9 : Ev W1 z9 := Ev.trans hy4 hb9
    refine hK.out _ _ (HSE.out _ hy9) (fun hHeld => ?_)
    clear hK K
    (try simp only [Act.put, List.setIfInBounds_toArray, List.set_cons_zero, List.set_cons_succ])
    refine tkH 10 (some 24) ?_
    (try simp only [Act.put, sA, sB, sC])
    refine wpAnyH_done (by kernel_rfl) ?_ _
    go_wp2
    exact ⟨⟨k + 1, by go_num, by omega, hB.trans hy9, HN⟩, by simp [intOf]; omega⟩
  ·
   have HT2 := hid (show true = st from (HST.out.2 (fun j hj => HM.out j (by have := HNW.out.2; omega))).symm)
   have hn : ¬ ((k : Int) ≤ f.last) := by omega
   go_wp2
   go_ret
   exact ⟨ret_bool HT2.out, hE0.trans hB⟩

set_option maxRecDepth 100000 in
set_option maxHeartbeats 4000000 in
theorem rKeeps_c (f : M.Cf) (Aw At Ar : Option Addr) (nw cw nt ct nr cr : Nat) (L : Option Addr) (ln lc : Nat) (ts : List M.Tr) (P : Option Addr) (pn pc : Nat) (plan : List Int) (h0 : M.check f = 0) (hts : ∀ t ∈ ts, M.listed f t = true) (w : World) (hs : CS w w.heap.size f Aw At Ar nw cw nt ct nr cr) (hl : TL w L ln lc ts) (hp : Sl ics 1 w w.heap.size P pn pc plan) :
  Calls Try.prog 35 #[.agg #[.int .i64 f.last, .int .i64 f.size, .int .i64 f.cool, .int .i64 f.die, .int .i64 f.burn, .int .i64 f.st.lo, .int .i64 f.st.hi, .slice Aw nw cw, .slice At nt ct, .slice Ar nr cr], .slice L ln lc, .slice P pn pc] w fun e w' => e = .returned (.int .i64 (M.keepsOf f ts plan)) ∧ Ev w w' := by
 have htl := hl.len
 have HCX := hid (fun (Tw : Option Addr) (tw twc : Nat) (t : M.Tr) (ht : t ∈ ts) W (hE : Ev w W) (hwt : Sl ics 1 W W.heap.size Tw tw twc t.wet) => Kept_c f Aw At Ar nw cw nt ct nr cr Tw tw twc t P pn pc plan h0 (hts t ht) W (hs.ev hE) hwt (hp.ev hE))
 have HL := hid hl
 have HTL := hid htl
 have hsm : ln ≤ 1099511627776 := by obtain ⟨_, h1, _⟩ := hl; exact h1.small
 have hres := M.keeps_count f ts plan
 rw [htl] at hres
 obtain ⟨g, hg⟩ : ∃ g : M.Tr → Bool, g = fun t => M.stays f t plan := ⟨_, rfl⟩
 have HG := hid (fun t => show M.stays f t plan = g t from by rw [hg])
 rw [← hg] at hres
 generalize M.keepsOf f ts plan = res at hres ⊢
 have HR := hid hres
 clear hs hl hp h0 htl hts hg hres
 go_enter Try.func35, Try.ntmps35
 go_wp2
 generalize hW0 : World.alloc w _ = W0
 have hE0 : Ev w W0 := by rw [← hW0]; exact Ev.alloc (Ev.refl _) _
 have hal := alloc1 w (.cells #[.int .i64 f.last, .int .i64 f.size, .int .i64 f.cool, .int .i64 f.die, .int .i64 f.burn, .int .i64 f.st.lo, .int .i64 f.st.hi, .slice Aw nw cw, .slice At nt ct, .slice Ar nr cr] 28)
 rw [hW0] at hal
 have Q0 := hid hal.1
 clear hal hW0
 go_loopw [7, 8] (fun a i wr => ∃ (k m : Nat), a = .int .i64 m ∧ i = .int .i64 k ∧ k ≤ ln ∧ m ≤ k ∧ Ev w wr ∧ Hid (wr.heap[w.heap.size]? = some (.cells #[.int .i64 f.last, .int .i64 f.size, .int .i64 f.cool, .int .i64 f.die, .int .i64 f.burn, .int .i64 f.st.lo, .int .i64 f.st.hi, .slice Aw nw cw, .slice At nt ct, .slice Ar nr cr] 28 (0, 0))) ∧ Hid (m + (ts.drop k).countP g = ts.countP g)) (fun _ i _ => ln - (intOf i).toNat)
 case atStart => exact ⟨0, 0, rfl, rfl, by omega, by omega, hE0, Q0, hid (by rw [List.drop_zero, Nat.zero_add])⟩
 case round =>
  obtain ⟨k, m, rfl, rfl, hk, hm, hB, hQ0, HM⟩ := hrel
  obtain ⟨W1, hW1⟩ : ∃ x, x = wr := ⟨_, rfl⟩
  subst hW1
  clear Q0
  obtain ⟨y0, y1, y2, y3, y4, y5, y6, y7, y8, y9⟩ := cells10 hQ0.out
  have lq := heap_lt hQ0.out
  by_cases hlt : k < ln
  ·
   obtain ⟨vs, hvs, hrs⟩ := HL.out
   have hlt' : k < ts.length := by rw [HTL.out]; exact hlt
   have hdr : ts.drop k = ts[k] :: ts.drop (k + 1) := List.drop_eq_getElem_cons hlt'
   have htk : ts[k]? = some ts[k] := List.getElem?_eq_getElem _
   generalize ts[k] = t at hdr htk
   have htm := List.mem_of_getElem? htk
   obtain ⟨b, off, v, hA, hb, hx, hxd, hcc⟩ := hvs.at_ hB hlt
   obtain ⟨t1, t2, t3⟩ := (hrs.ev hB).2 k v t hx htk
   have e0 := hcc 0 _ rfl
   have e1 := hcc 1 _ rfl
   simp only [Nat.add_zero] at e0
   rw [t1] at e0
   have hcap := hvs.cap
   have lb : b < W1.heap.size := by have := hB.size; omega
   have hsw := sl_own (enc := ics) (by decide) (ics_len _) (by omega) t2
   have HT := hid (fun W (hE : Ev W1 W) => HCX.out v.2.1 v.2.2.1 v.2.2.2 t htm W (hB.trans hE) (hsw.ev hE))
   subst hA
   clear hx hxd hcc hvs hrs t1 t2 htk htm hsw
   have hT := HT.out
   have hM := HM.out
   rw [hdr] at hM
   clear HT HM hdr
   have HSE : Hid (∀ w', Ev W1 w' → (∀ o, w'.cell? ⟨w.heap.size, o, none⟩ = W1.cell? ⟨w.heap.size, o, none⟩) ∧ (∀ o, w'.cell? ⟨b, o, none⟩ = W1.cell? ⟨b, o, none⟩)) := hid (fun w' h => ⟨fun o => h.cells.1 _ o lq, fun o => h.cells.1 _ o lb⟩)
   cases hgt : g t with
   | false =>
    rw [HG.out, hgt] at hT
    rw [List.countP_cons_of_neg (by rw [hgt]; decide)] at hM
    have HT := hid hT
    have HN := hid hM
    clear hT hM hgt
    go_upto_region 5 with fail
    refine wp_region_held_drew (S := fun w' => (∀ o, w'.cell? ⟨w.heap.size, o, none⟩ = W1.cell? ⟨w.heap.size, o, none⟩) ∧ (∀ o, w'.cell? ⟨b, o, none⟩ = W1.cell? ⟨b, o, none⟩)) (by kernel_rfl) (⟨fun o => rfl, fun o => rfl⟩) (fun hHeld => ?_)
    refine tkH 0 (some 15) ?_
    (try simp only [Act.put, sA, sB, sC])
    refine tkH 1 (some 16) ?_
    (try simp only [Act.put, sA, sB, sC])
    refine tkH 2 (some 17) ?_
    (try simp only [Act.put, sA, sB, sC])
    refine tkH 3 (some 18) ?_
    (try simp only [Act.put, sA, sB, sC])
    refine tkH 4 (some 19) ?_
    (try simp only [Act.put, sA, sB, sC])
    refine tkH 5 (some 20) ?_
    (try simp only [Act.put, sA, sB, sC])
    refine wpAnyH_one (i := 6) rfl (by kernel_rfl) (by rfl) (fun K hK => ?_)
    go_simp
    refine (HT.out _ (Ev.drew (Ev.refl _))).mono ?_
    rintro e z6 ⟨rfl, hb6⟩
    have hy6 : Ev W1 z6 := Ev.trans (Ev.drew (Ev.refl _)) hb6
    refine hK.out _ _ (HSE.out _ hy6) (fun hHeld => ?_)
    clear hK K
    (try simp only [Act.put, List.setIfInBounds_toArray, List.set_cons_zero, List.set_cons_succ])
    refine wpAnyH_done (by kernel_rfl) ?_ _
    have HQ6 := hid (hy6.heap hQ0.out)
    go_wp2
    exact ⟨⟨k + 1, m, rfl, by go_num, by omega, by omega, hB.trans hy6, HQ6, HN⟩, by simp [intOf]; omega⟩
   | true =>
    rw [HG.out, hgt] at hT
    rw [List.countP_cons_of_pos (by rw [hgt])] at hM
    have HT := hid hT
    have HN := hid (show (m + 1) + (ts.drop (k + 1)).countP g = ts.countP g by omega)
    clear hT hM hgt
    go_upto_region 5 with fail
    refine wp_region_held_drew (S := fun w' => (∀ o, w'.cell? ⟨w.heap.size, o, none⟩ = W1.cell? ⟨w.heap.size, o, none⟩) ∧ (∀ o, w'.cell? ⟨b, o, none⟩ = W1.cell? ⟨b, o, none⟩)) (by kernel_rfl) (⟨fun o => rfl, fun o => rfl⟩) (fun hHeld => ?_)
    refine tkH 0 (some 15) ?_
    (try simp only [Act.put, sA, sB, sC])
    refine tkH 1 (some 16) ?_
    (try simp only [Act.put, sA, sB, sC])
    refine tkH 2 (some 17) ?_
    (try simp only [Act.put, sA, sB, sC])
    refine tkH 3 (some 18) ?_
    (try simp only [Act.put, sA, sB, sC])
    refine tkH 4 (some 19) ?_
    (try simp only [Act.put, sA, sB, sC])
    refine tkH 5 (some 20) ?_
    (try simp only [Act.put, sA, sB, sC])
    refine wpAnyH_one (i := 6) rfl (by kernel_rfl) (by rfl) (fun K hK => ?_)
    go_simp
    refine (HT.out _ (Ev.drew (Ev.refl _))).mono ?_
    rintro e z6 ⟨rfl, hb6⟩
    have hy6 : Ev W1 z6 := Ev.trans (Ev.drew (Ev.refl _)) hb6
    refine hK.out _ _ (HSE.out _ hy6) (fun hHeld => ?_)
    clear hK K
    (try simp only [Act.put, List.setIfInBounds_toArray, List.set_cons_zero, List.set_cons_succ])
    refine wpAnyH_done (by kernel_rfl) ?_ _
    have HQ6 := hid (hy6.heap hQ0.out)
    go_wp2
    exact ⟨⟨k + 1, m + 1, by go_num, by go_num, by omega, by omega, hB.trans hy6, HQ6, HN⟩, by simp [intOf]; omega⟩
  ·
   have hM := HM.out
   rw [List.drop_eq_nil_of_le (by rw [HTL.out]; omega)] at hM
   have hmc : m = ts.countP g := by simpa using hM
   have hR := HR.out
   rw [← hmc] at hR
   have hn2 : ¬ ((k : Int) < ln) := by omega
   clear HM hM hmc
   by_cases h1 : m = ln
   ·
    rw [if_pos h1] at hR
    have HV := hid hR.symm
    have t1 : ((m : Int) == (ln : Int)) = true := by simp; omega
    clear hR h1
    go_wp2
    go_ret
    exact ⟨ret_int HV.out, hB⟩
   ·
    rw [if_neg h1] at hR
    have t1 : ((m : Int) == (ln : Int)) = false := by simp; omega
    by_cases h2 : m = 0
    ·
     rw [if_pos h2] at hR
     have HV := hid hR.symm
     have t2 : ((m : Int) == 0) = true := by simp; omega
     clear hR h2 h1
     go_wp2
     go_ret
     exact ⟨ret_int HV.out, hB⟩
    ·
     rw [if_neg h2] at hR
     have HV := hid hR.symm
     have t2 : ((m : Int) == 0) = false := by simp; omega
     clear hR h2 h1
     go_wp2
     go_ret
     exact ⟨ret_int HV.out, hB⟩

end Go.Proofs.Ytgimcephbeajlaa
