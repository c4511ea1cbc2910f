import Derived.Test.YtgimcephbeajlaaC34
set_option linter.unusedSimpArgs false
set_option linter.unusedVariables false
namespace Go.Proofs.Ytgimcephbeajlaa
open Go.RowKit Go.Shelf

theorem set3' {W : World} {b : Nat} {t : TypeId} {z0 z1 z2 v0 v1 v2 : Value} (h : W.heap[b]? = some (.cells #[z0, z1, z2] t (0, 0))) :
  (((W.setCell ⟨b, 0, none⟩ v0).setCell ⟨b, 1, none⟩ v1).setCell ⟨b, 2, none⟩ v2).heap[b]? = some (.cells #[v0, v1, v2] t (0, 0)) := by
 rw [set_heap_same (set_heap_same (set_heap_same h))]; rfl
theorem M.bd_is {f : M.Cf} (h0 : M.check f = 0) (hn : M.truths f ≠ []) (plan : List Int) {i : Nat} (hi : i < f.wet.length) : M.bdR f (M.rtr f) plan i = M.span (M.at f (M.truths f) plan i) := by
 have hv := (M.check0 h0).2.2.1
 have hn2 : M.rtr f ≠ [] := fun e => hn ((M.rtr_nil h0).1 e)
 unfold M.bdR M.at
 rw [M.widen_span (by simpa using hn2)]
 ·
  refine M.span_set (fun y => ?_) (by simpa using hn2)
  simp only [List.mem_map]
  constructor
  ·
   rintro ⟨t, ht, rfl⟩
   exact ⟨t, (M.rtr_mem h0).1 ht, M.heats_getD plan (by rw [(M.listed_bd hv (M.rtr_listed h0 t ht)).2.1]; exact hi)⟩
  ·
   rintro ⟨t, ht, rfl⟩
   exact ⟨t, (M.rtr_mem h0).2 ht, (M.heats_getD plan (by rw [(M.listed_bd hv (M.truths_listed h0 t ht)).2.1]; exact hi)).symm⟩
 ·
  intro y hy
  obtain ⟨t, ht, rfl⟩ := List.mem_map.1 hy
  have h1 := M.listed_bd hv (M.rtr_listed h0 t ht)
  have h2 := M.heatN_bd hv (M.rtr_listed h0 t ht) plan (i + 1) (by omega)
  have h3 := (M.valid_parts hv).2.2.2.2.2.1
  have h4 := (M.check0 h0).1
  omega
theorem M.any_is {f : M.Cf} (h0 : M.check f = 0) (p : M.Tr → Bool) : (M.rtr f).any p = (M.truths f).any p := by
 rw [Bool.eq_iff_iff, List.any_eq_true, List.any_eq_true]
 simp only [M.rtr_mem h0]
theorem M.all_is {f : M.Cf} (h0 : M.check f = 0) (p : M.Tr → Bool) : (M.rtr f).all p = (M.truths f).all p := by
 rw [Bool.eq_iff_iff, List.all_eq_true, List.all_eq_true]
 simp only [M.rtr_mem h0]
theorem M.keeps_is {f : M.Cf} (h0 : M.check f = 0) (plan : List Int) : M.keepsOf f (M.rtr f) plan = M.keepsOf f (M.truths f) plan := by
 unfold M.keepsOf
 rw [M.all_is h0, M.any_is h0]
theorem M.keeps_one (f : M.Cf) (ts : List M.Tr) (plan : List Int) : (M.keepsOf f ts plan == 1) = ts.all fun t => M.stays f t plan := by
 unfold M.keepsOf
 cases h : ts.all fun t => M.stays f t plan with
 | true => rfl
 | false => rw [if_neg (by decide)]; split <;> rfl
theorem M.burns_is {f : M.Cf} (h0 : M.check f = 0) (plan : List Int) (i : Nat) : M.burnsAt f (M.rtr f) plan i = M.burnsAt f (M.truths f) plan i := by
 unfold M.burnsAt
 rw [List.any_map, List.any_map, M.any_is h0]
theorem M.dies_is {f : M.Cf} (h0 : M.check f = 0) (plan : List Int) (i : Nat) : M.diesAt f (M.rtr f) plan i = M.diesAt f (M.truths f) plan i := by
 unfold M.diesAt
 rw [List.any_map, List.any_map, M.any_is h0]
theorem M.fear_is {f : M.Cf} (h0 : M.check f = 0) (plan : List Int) : M.fear f (M.rtr f) plan = M.fear f (M.truths f) plan := by
 unfold M.fear
 simp only [M.burns_is h0, M.dies_is h0]
theorem M.fearV_is {f : M.Cf} (h0 : M.check f = 0) (plan : List Int) : M.fearV f (M.rtr f) plan = M.fearV f (M.truths f) plan := by
 unfold M.fearV
 simp only [M.fear_is h0, M.burns_is h0, M.dies_is h0]

set_option maxRecDepth 100000 in
set_option maxHeartbeats 8000000 in
theorem rFear_c (f : M.Cf) (Aw At Ar : Option Addr) (nw cw nt ct nr cr : Nat) (L : Option Addr) (ln lc : Nat) (ts : List M.Tr) (P : Option Addr) (pn pc : Nat) (plan : List Int) (h0 : M.check f = 0) (hts : ∀ t ∈ ts, M.listed f t = true) (w : World) (hs : CS w w.heap.size f Aw At Ar nw cw nt ct nr cr) (hl : TL w L ln lc ts) (hp : Sl ics 1 w w.heap.size P pn pc plan) :
  Calls Try.prog 39 #[.agg #[.int .i64 f.last, .int .i64 f.size, .int .i64 f.cool, .int .i64 f.die, .int .i64 f.burn, .int .i64 f.st.lo, .int .i64 f.st.hi, .slice Aw nw cw, .slice At nt ct, .slice Ar nr cr], .slice L ln lc, .slice P pn pc] w fun e w' => e = .returned (M.fearV f ts plan) ∧ Ev w w' := by
 obtain ⟨hl9, _, hv, _⟩ := M.check0 h0
 have hwl := hs.w_.len
 have hlast := (M.valid_parts hv).2.2.2.2.2.1
 have hnl : (nw : Int) = f.last + 1 := by omega
 have HBX := hid (fun (i : Nat) (hi : i < nw) W (hE : Ev w W) => rBounds_c f Aw At Ar nw cw nt ct nr cr L ln lc ts P pn pc plan i hi h0 hts W (hs.ev hE) (hl.ev hE) (hp.ev hE))
 have HB1 := hid (fun (i : Nat) (hi : i < nw) => M.bdR_burns hv hts plan (i := i) (by omega))
 have HB2 := hid (fun (i : Nat) (hi : i < nw) => M.bdR_dies hv hts plan (i := i) (by omega))
 have HFE := hid (show M.seek (fun i => M.burnsAt f ts plan i || M.diesAt f ts plan i) nw 0 = M.fear f ts plan by unfold M.fear; rw [hwl])
 clear hs hl hp h0 hts hv hwl hlast
 go_enter Try.func39, Try.ntmps39
 go_wp2
 generalize hW0 : World.alloc (World.alloc w _) _ = W0
 have hE0 : Ev w W0 := by rw [← hW0]; exact Ev.alloc (Ev.alloc (Ev.refl _) _) _
 have hal := alloc2 w (.cells #[.int .i64 f.last, .int .i64 f.size, .int .i64 f.cool, .int .i64 f.die, .int .i64 f.burn, .int .i64 f.st.lo, .int .i64 f.st.hi, .slice Aw nw cw, .slice At nt ct, .slice Ar nr cr] 28) (.cells #[.int .i64 0, .bool false, .bool false] 67)
 rw [hW0] at hal
 have Q0 := hid hal.1
 have Q1 := hid hal.2.1
 clear hal hW0
 go_loopw [8] (fun i wr => ∃ k : Nat, i = .int .i64 k ∧ k ≤ nw ∧ Ev w wr ∧ Hid (wr.heap[w.heap.size]? = some (.cells #[.int .i64 f.last, .int .i64 f.size, .int .i64 f.cool, .int .i64 f.die, .int .i64 f.burn, .int .i64 f.st.lo, .int .i64 f.st.hi, .slice Aw nw cw, .slice At nt ct, .slice Ar nr cr] 28 (0, 0))) ∧ Hid (wr.heap[w.heap.size + 1]? = some (.cells #[.int .i64 0, .bool false, .bool false] 67 (0, 0))) ∧ Hid (M.seek (fun i => M.burnsAt f ts plan i || M.diesAt f ts plan i) (nw - k) k = M.fear f ts plan)) (fun i _ => nw - (intOf i).toNat)
 case atStart => exact ⟨0, rfl, by omega, hE0, Q0, Q1, HFE⟩
 case round =>
  obtain ⟨k, rfl, hk, hB, hQ0, hQ1, hS⟩ := hrel
  obtain ⟨W1, hW1⟩ : ∃ x, x = wr := ⟨_, rfl⟩
  subst hW1
  clear Q0 Q1 HFE
  obtain ⟨y0, y1, y2, y3, y4, y5, y6, y7, y8, y9⟩ := cells10 hQ0.out
  obtain ⟨w0, w1_, w2_⟩ := cells3 hQ1.out
  have lq0 := heap_lt hQ0.out
  have lq1 := heap_lt hQ1.out
  by_cases hlt : k < nw
  ·
   have hle : (k : Int) ≤ f.last := by omega
   have hbd := fun W hE => HBX.out k hlt W hE
   have hb1 := HB1.out k hlt
   have hb2 := HB2.out k hlt
   have hs2 := hS.out
   rw [show nw - k = (nw - (k + 1)) + 1 by omega, M.seek] at hs2
   have HS := hid hs2
   generalize M.bdR f ts plan k = r at hbd hb1 hb2
   have HBD := hid hbd
   clear hbd hs2 hS
   cases h1 : M.burnsAt f ts plan k with
   | true =>
    rw [h1] at hb1
    replace hb1 := hb1.symm
    cases h2 : M.diesAt f ts plan k with
    | true =>
     rw [h2] at hb2
     replace hb2 := hb2.symm
     have q1 : (f.burn < r.hi) := by simpa using hb1
     have q1' : (r.hi > f.burn) := q1
     have q2 : (r.lo < f.die) := by simpa using hb2
     have d1 : decide (f.burn < r.hi) = true := by simpa using hb1
     have d1' : decide (r.hi > f.burn) = true := d1
     have d2 : decide (r.lo < f.die) = true := by simpa using hb2
     have HV := hid (show M.fearV f ts plan = .tuple #[.agg #[.int .i64 (k : Int), .bool true, .bool true], .bool true] by
      unfold M.fearV
      rw [← HS.out, if_pos (by rw [h1, h2]; rfl)]
      show Value.tuple #[.agg #[.int .i64 (k : Int), .bool (M.burnsAt f ts plan k), .bool (M.diesAt f ts plan k)], .bool true] = _
      rw [h1, h2])
     clear hb1 hb2 h1 h2 HS
     go_wp2_with (go_at_call 37; with_reducible refine (HBD.out _ hB).mono ?_; rintro e z3 ⟨rfl, hb3⟩; clear y0 y1 y2 y3 y4 y5 y6 y7 y8 y9 w0 w1_ w2_; obtain ⟨y0, y1, y2, y3, y4, y5, y6, y7, y8, y9⟩ := cells10 (hb3.heap hQ0.out); obtain ⟨w0, w1_, w2_⟩ := cells3 (hb3.heap hQ1.out); obtain ⟨f0, f1, f2⟩ := frz3 (hb3.heap hQ1.out); have lz0 := heap_lt (hb3.heap hQ0.out); have lz1 := heap_lt (hb3.heap hQ1.out))
     have hQ3 := hb3.heap hQ1.out
     have hF := (Ev.alloc (Ev.refl _) (.cells #[.int .i64 r.lo, .int .i64 r.hi] 23)).heap (set3' (v0 := .int .i64 (k : Int)) (v1 := .bool true) (v2 := .bool true) hQ3)
     obtain ⟨u0, u1, u2⟩ := cells3 hF
     refine bodyPost_ret (v := .tuple #[.agg #[.int .i64 (k : Int), .bool true, .bool true], .bool true]) (by simp [results, Try.results39, go_sem, u0, u1, u2]) rfl ⟨by rw [HV.out], ?_⟩
     exact Ev.alloc (Ev.setCell (Ev.setCell (Ev.setCell (hB.trans hb3) (by show w.heap.size ≤ w.heap.size + 1; omega) _) (by show w.heap.size ≤ w.heap.size + 1; omega) _) (by show w.heap.size ≤ w.heap.size + 1; omega) _) _
    | false =>
     rw [h2] at hb2
     replace hb2 := hb2.symm
     have q1 : (f.burn < r.hi) := by simpa using hb1
     have q1' : (r.hi > f.burn) := q1
     have q2 : ¬ (r.lo < f.die) := by simpa using hb2
     have d1 : decide (f.burn < r.hi) = true := by simpa using hb1
     have d1' : decide (r.hi > f.burn) = true := d1
     have d2 : decide (r.lo < f.die) = false := by simpa using hb2
     have HV := hid (show M.fearV f ts plan = .tuple #[.agg #[.int .i64 (k : Int), .bool true, .bool false], .bool true] by
      unfold M.fearV
      rw [← HS.out, if_pos (by rw [h1, h2]; rfl)]
      show Value.tuple #[.agg #[.int .i64 (k : Int), .bool (M.burnsAt f ts plan k), .bool (M.diesAt f ts plan k)], .bool true] = _
      rw [h1, h2])
     clear hb1 hb2 h1 h2 HS
     go_wp2_with (go_at_call 37; with_reducible refine (HBD.out _ hB).mono ?_; rintro e z3 ⟨rfl, hb3⟩; clear y0 y1 y2 y3 y4 y5 y6 y7 y8 y9 w0 w1_ w2_; obtain ⟨y0, y1, y2, y3, y4, y5, y6, y7, y8, y9⟩ := cells10 (hb3.heap hQ0.out); obtain ⟨w0, w1_, w2_⟩ := cells3 (hb3.heap hQ1.out); obtain ⟨f0, f1, f2⟩ := frz3 (hb3.heap hQ1.out); have lz0 := heap_lt (hb3.heap hQ0.out); have lz1 := heap_lt (hb3.heap hQ1.out))
     have hQ3 := hb3.heap hQ1.out
     have hF := (Ev.alloc (Ev.refl _) (.cells #[.int .i64 r.lo, .int .i64 r.hi] 23)).heap (set3' (v0 := .int .i64 (k : Int)) (v1 := .bool true) (v2 := .bool false) hQ3)
     obtain ⟨u0, u1, u2⟩ := cells3 hF
     refine bodyPost_ret (v := .tuple #[.agg #[.int .i64 (k : Int), .bool true, .bool false], .bool true]) (by simp [results, Try.results39, go_sem, u0, u1, u2]) rfl ⟨by rw [HV.out], ?_⟩
     exact Ev.alloc (Ev.setCell (Ev.setCell (Ev.setCell (hB.trans hb3) (by show w.heap.size ≤ w.heap.size + 1; omega) _) (by show w.heap.size ≤ w.heap.size + 1; omega) _) (by show w.heap.size ≤ w.heap.size + 1; omega) _) _
   | false =>
    rw [h1] at hb1
    replace hb1 := hb1.symm
    cases h2 : M.diesAt f ts plan k with
    | true =>
     rw [h2] at hb2
     replace hb2 := hb2.symm
     have q1 : ¬ (f.burn < r.hi) := by simpa using hb1
     have q1' : ¬ (r.hi > f.burn) := q1
     have q2 : (r.lo < f.die) := by simpa using hb2
     have d1 : decide (f.burn < r.hi) = false := by simpa using hb1
     have d1' : decide (r.hi > f.burn) = false := d1
     have d2 : decide (r.lo < f.die) = true := by simpa using hb2
     have HV := hid (show M.fearV f ts plan = .tuple #[.agg #[.int .i64 (k : Int), .bool false, .bool true], .bool true] by
      unfold M.fearV
      rw [← HS.out, if_pos (by rw [h1, h2]; rfl)]
      show Value.tuple #[.agg #[.int .i64 (k : Int), .bool (M.burnsAt f ts plan k), .bool (M.diesAt f ts plan k)], .bool true] = _
      rw [h1, h2])
     clear hb1 hb2 h1 h2 HS
     go_wp2_with (go_at_call 37; with_reducible refine (HBD.out _ hB).mono ?_; rintro e z3 ⟨rfl, hb3⟩; clear y0 y1 y2 y3 y4 y5 y6 y7 y8 y9 w0 w1_ w2_; obtain ⟨y0, y1, y2, y3, y4, y5, y6, y7, y8, y9⟩ := cells10 (hb3.heap hQ0.out); obtain ⟨w0, w1_, w2_⟩ := cells3 (hb3.heap hQ1.out); obtain ⟨f0, f1, f2⟩ := frz3 (hb3.heap hQ1.out); have lz0 := heap_lt (hb3.heap hQ0.out); have lz1 := heap_lt (hb3.heap hQ1.out))
     have hQ3 := hb3.heap hQ1.out
     have hF := (Ev.alloc (Ev.refl _) (.cells #[.int .i64 r.lo, .int .i64 r.hi] 23)).heap (set3' (v0 := .int .i64 (k : Int)) (v1 := .bool false) (v2 := .bool true) hQ3)
     obtain ⟨u0, u1, u2⟩ := cells3 hF
     refine bodyPost_ret (v := .tuple #[.agg #[.int .i64 (k : Int), .bool false, .bool true], .bool true]) (by simp [results, Try.results39, go_sem, u0, u1, u2]) rfl ⟨by rw [HV.out], ?_⟩
     exact Ev.alloc (Ev.setCell (Ev.setCell (Ev.setCell (hB.trans hb3) (by show w.heap.size ≤ w.heap.size + 1; omega) _) (by show w.heap.size ≤ w.heap.size + 1; omega) _) (by show w.heap.size ≤ w.heap.size + 1; omega) _) _
    | false =>
     rw [h2] at hb2
     replace hb2 := hb2.symm
     have q1 : ¬ (f.burn < r.hi) := by simpa using hb1
     have q1' : ¬ (r.hi > f.burn) := q1
     have q2 : ¬ (r.lo < f.die) := by simpa using hb2
     have d1 : decide (f.burn < r.hi) = false := by simpa using hb1
     have d1' : decide (r.hi > f.burn) = false := d1
     have d2 : decide (r.lo < f.die) = false := by simpa using hb2
     have HN := hid (show M.seek (fun i => M.burnsAt f ts plan i || M.diesAt f ts plan i) (nw - (k + 1)) (k + 1) = M.fear f ts plan by rw [← HS.out, if_neg (by rw [h1, h2]; decide)])
     clear hb1 hb2 h1 h2 HS
     go_wp2_with (go_at_call 37; with_reducible refine (HBD.out _ hB).mono ?_; rintro e z3 ⟨rfl, hb3⟩; clear y0 y1 y2 y3 y4 y5 y6 y7 y8 y9 w0 w1_ w2_; obtain ⟨y0, y1, y2, y3, y4, y5, y6, y7, y8, y9⟩ := cells10 (hb3.heap hQ0.out); obtain ⟨w0, w1_, w2_⟩ := cells3 (hb3.heap hQ1.out); obtain ⟨f0, f1, f2⟩ := frz3 (hb3.heap hQ1.out); have lz0 := heap_lt (hb3.heap hQ0.out); have lz1 := heap_lt (hb3.heap hQ1.out))
     have hb4 : Ev z3 (z3.alloc (.cells #[.int .i64 r.lo, .int .i64 r.hi] 23)) := Ev.alloc (Ev.refl _) _
     exact ⟨⟨k + 1, by go_num, by omega, (hB.trans hb3).trans hb4, hid (hb4.heap (hb3.heap hQ0.out)), hid (hb4.heap (hb3.heap hQ1.out)), HN⟩, by simp [intOf]; omega⟩
  ·
   have hn : ¬ ((k : Int) ≤ f.last) := by omega
   have HV := hid (show M.fearV f ts plan = .tuple #[.agg #[.int .i64 0, .bool false, .bool false], .bool false] by
    unfold M.fearV
    rw [← hS.out, show nw - k = 0 by omega]
    rfl)
   obtain ⟨f0, f1, f2⟩ := frz3 hQ1.out
   clear hS
   go_wp2_with fail
   have hF := set3' (v0 := (.int .i64 0 : Value)) (v1 := (.bool false : Value)) (v2 := (.bool false : Value)) hQ1.out
   obtain ⟨u0, u1, u2⟩ := cells3 hF
   refine bodyPost_ret (v := .tuple #[.agg #[.int .i64 0, .bool false, .bool false], .bool false]) (by simp [results, Try.results39, go_sem, u0, u1, u2]) rfl ⟨by rw [HV.out], ?_⟩
   exact Ev.setCell (Ev.setCell (Ev.setCell hB (by simp) _) (by simp) _) (by simp) _

/-- Are all bounds within other ones? -/
def M.narrow : List M.Rg → List M.Rg → Bool
 | [], [] => true
 | a :: u, b :: v => M.inside a b && M.narrow u v
 | _, _ => false

set_option maxRecDepth 100000 in
set_option maxHeartbeats 4000000 in
theorem narrower_c (X Y : Option Addr) (n c m d : Nat) (xs ys : List M.Rg) (w : World) (hx : Sl rgc 2 w w.heap.size X n c xs) (hy : Sl rgc 2 w w.heap.size Y m d ys) :
  Calls Try.prog 59 #[.slice X n c, .slice Y m d] w fun e w' => e = .returned (.bool (M.narrow xs ys)) ∧ Ev w w' := by
 have hxl := hx.len
 have hyl := hy.len
 have hsm := hx.small
 by_cases hnm : n = m
 case neg =>
  have HD := hid (show M.narrow xs ys = false by
   have : xs.length ≠ ys.length := by omega
   clear hx hy hxl hyl
   revert ys
   induction xs with
   | nil => intro ys h; cases ys with
    | nil => simp at h
    | cons y ys => rfl
   | cons x xs ih => intro ys h; cases ys with
    | nil => rfl
    | cons y ys => rw [M.narrow, ih ys (by simpa using h), Bool.and_false])
  have t1 : ((n : Int) != (m : Int)) = true := by simp; omega
  clear hx hy hxl hyl
  go_enter Try.func59, Try.ntmps59
  go_wp2
  go_ret
  exact ⟨ret_bool HD.out.symm, Ev.refl _⟩
 subst hnm
 have t1 : ((n : Int) != (n : Int)) = false := by simp
 have HX := hid hx
 have HY := hid hy
 have HL := hid hyl
 clear hx hy hxl hyl
 go_enter Try.func59, Try.ntmps59
 go_wp2
 go_loopw [5] (fun i wr => ∃ k : Nat, i = .int .i64 k ∧ k ≤ n ∧ Ev w wr ∧ Hid (M.narrow (xs.drop k) (ys.drop k) = M.narrow xs ys)) (fun i _ => n - (intOf i).toNat)
 case atStart => exact ⟨0, rfl, by omega, Ev.refl _, hid rfl⟩
 case round =>
  obtain ⟨k, rfl, hk, hB, HM⟩ := hrel
  obtain ⟨W1, hW1⟩ : ∃ x, x = wr := ⟨_, rfl⟩
  subst hW1
  by_cases hlt : k < n
  ·
   obtain ⟨b1, o1, x, hA1, hb1, hxx, hxd, hc1⟩ := HX.out.at_ hB hlt
   obtain ⟨b2, o2, y, hA2, hb2, hyy, hyd, hc2⟩ := HY.out.at_ hB hlt
   have e0 := hc1 0 _ rfl
   have e1 := hc1 1 _ rfl
   have e2 := hc2 0 _ rfl
   have e3 := hc2 1 _ rfl
   simp only [Nat.add_zero] at e0 e2
   have p1 := HX.out.cap
   have p2 := HY.out.cap
   have hBs := hB.size
   have l1 : b1 < W1.heap.size := by omega
   have l2 : b2 < W1.heap.size := by omega
   have hM := HM.out
   rw [hxd, hyd, M.narrow] at hM
   have hin := fun W => inside_c x y W
   subst hA1 hA2
   clear hxx hyy hxd hyd hc1 hc2 HM
   have HSE : Hid (∀ w', Ev W1 w' → (∀ o, w'.cell? ⟨b1, o, none⟩ = W1.cell? ⟨b1, o, none⟩) ∧ (∀ o, w'.cell? ⟨b2, o, none⟩ = W1.cell? ⟨b2, o, none⟩)) := hid (fun w' h => ⟨fun o => h.cells.1 _ o l1, fun o => h.cells.1 _ o l2⟩)
   cases hi : M.inside x y with
   | false =>
    rw [hi] at hin hM
    have HIN := hid hin
    have HF := hid (show false = M.narrow xs ys by rw [← hM]; rfl)
    clear hin hM hi
    go_upto_region 6 with fail
    refine wp_region_held_drew (S := fun w' => (∀ o, w'.cell? ⟨b1, o, none⟩ = W1.cell? ⟨b1, o, none⟩) ∧ (∀ o, w'.cell? ⟨b2, o, none⟩ = W1.cell? ⟨b2, o, none⟩)) (by kernel_rfl) (⟨fun o => rfl, fun o => rfl⟩) (fun hHeld => ?_)
    refine tkH 0 (some 17) ?_
    (try simp only [Act.put, sA, sB, sC])
    refine tkH 1 (some 18) ?_
    (try simp only [Act.put, sA, sB, sC])
    refine tkH 2 (some 19) ?_
    (try simp only [Act.put, sA, sB, sC])
    refine tkH 3 (some 20) ?_
    (try simp only [Act.put, sA, sB, sC])
    refine tkH 4 (some 21) ?_
    (try simp only [Act.put, sA, sB, sC])
    refine tkH 5 (some 22) ?_
    (try simp only [Act.put, sA, sB, sC])
    refine tkH 6 (some 23) ?_
    (try simp only [Act.put, sA, sB, sC])
    refine tkH 7 (some 24) ?_
    (try simp only [Act.put, sA, sB, sC])
    refine wpAnyH_one (i := 8) rfl (by kernel_rfl) (by rfl) (fun K hK => ?_)
    go_simp
    refine (HIN.out _).mono ?_
    rintro e z8 ⟨rfl, hb8⟩
    have hy8 : Ev W1 z8 := Ev.trans (Ev.drew (Ev.refl _)) hb8
    refine hK.out _ _ (HSE.out _ hy8) (fun hHeld => ?_)
    clear hK K
    (try simp only [Act.put, List.setIfInBounds_toArray, List.set_cons_zero, List.set_cons_succ])
    refine tkH 9 (some 26) ?_
    (try simp only [Act.put, sA, sB, sC])
    refine wpAnyH_done (by kernel_rfl) ?_ _
    go_wp2
    go_ret
    exact ⟨ret_bool HF.out, hB.trans hy8⟩
   | true =>
    rw [hi, Bool.true_and] at hM
    rw [hi] at hin
    have HIN := hid hin
    have HN := hid hM
    clear hin hM hi
    go_upto_region 6 with fail
    refine wp_region_held_drew (S := fun w' => (∀ o, w'.cell? ⟨b1, o, none⟩ = W1.cell? ⟨b1, o, none⟩) ∧ (∀ o, w'.cell? ⟨b2, o, none⟩ = W1.cell? ⟨b2, o, none⟩)) (by kernel_rfl) (⟨fun o => rfl, fun o => rfl⟩) (fun hHeld => ?_)
    refine tkH 0 (some 17) ?_
    (try simp only [Act.put, sA, sB, sC])
    refine tkH 1 (some 18) ?_
    (try simp only [Act.put, sA, sB, sC])
    refine tkH 2 (some 19) ?_
    (try simp only [Act.put, sA, sB, sC])
    refine tkH 3 (some 20) ?_
    (try simp only [Act.put, sA, sB, sC])
    refine tkH 4 (some 21) ?_
    (try simp only [Act.put, sA, sB, sC])
    refine tkH 5 (some 22) ?_
    (try simp only [Act.put, sA, sB, sC])
    refine tkH 6 (some 23) ?_
    (try simp only [Act.put, sA, sB, sC])
    refine tkH 7 (some 24) ?_
    (try simp only [Act.put, sA, sB, sC])
    refine wpAnyH_one (i := 8) rfl (by kernel_rfl) (by rfl) (fun K hK => ?_)
    go_simp
    refine (HIN.out _).mono ?_
    rintro e z8 ⟨rfl, hb8⟩
    have hy8 : Ev W1 z8 := Ev.trans (Ev.drew (Ev.refl _)) hb8
    refine hK.out _ _ (HSE.out _ hy8) (fun hHeld => ?_)
    clear hK K
    (try simp only [Act.put, List.setIfInBounds_toArray, List.set_cons_zero, List.set_cons_succ])
    refine tkH 9 (some 26) ?_
    (try simp only [Act.put, sA, sB, sC])
    refine wpAnyH_done (by kernel_rfl) ?_ _
    go_wp2
    exact ⟨⟨k + 1, by go_num, by omega, hB.trans hy8, HN⟩, by simp [intOf]; omega⟩
  ·
   have HT := hid (show true = M.narrow xs ys by rw [← HM.out, HX.out.done (by omega), HY.out.done (by omega)]; rfl)
   have hn : ¬ ((k : Int) < n) := by omega
   go_wp2
   go_ret
   exact ⟨ret_bool HT.out, hB⟩

end Go.Proofs.Ytgimcephbeajlaa
