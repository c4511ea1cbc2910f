import Derived.Test.YtgimcephbeajlaaA1
set_option linter.unusedSimpArgs false
set_option linter.unusedVariables false
namespace Go.Proofs.Ytgimcephbeajlaa
open Go.RowKit

structure M.Rd where
 hr : Int
 sn : Int
 er : Int
deriving DecidableEq
structure M.Cf where
 last : Int
 size : Int
 cool : Int
 die : Int
 burn : Int
 st : M.Rg
 wet : List M.Rg
 turns : List Int
 rds : List M.Rd
deriving DecidableEq
def rdc (x : M.Rd) : List Value := [.int .i64 x.hr, .int .i64 x.sn, .int .i64 x.er]
def M.hasHour (f : M.Cf) (x : Int) : Bool := decide (0 ≤ x) && decide (x ≤ f.last)
def M.isTurns (f : M.Cf) (l : List Int) : Bool := M.rises l && l.all (M.hasHour f)
def M.isWet (r : M.Rg) : Bool := M.upTo r 20
def M.validRd (f : M.Cf) (x : M.Rd) : Bool := M.hasHour f x.hr && (M.holds ⟨0, 1000⟩ x.sn && M.holds ⟨0, 50⟩ x.er)
def M.validHeats (f : M.Cf) : Bool := M.upTo ⟨f.die, f.burn⟩ 500 && M.upTo f.st 500
def M.validHours (f : M.Cf) : Bool := decide (0 ≤ f.last) && (decide ((f.wet.length : Int) = f.last + 1) && (f.wet.all M.isWet && M.isTurns f f.turns))
def M.valid (f : M.Cf) : Bool := M.holds ⟨0, 20⟩ f.size && (M.holds ⟨0, 100⟩ f.cool && (M.validHeats f && (M.validHours f && f.rds.all (M.validRd f))))
def M.ranges (f : M.Cf) : List M.Rg := f.st :: f.wet
theorem M.idx_in (v : Int) : ∀ (xs : List Int) (k : Int), 0 ≤ k → (0 ≤ M.idx v xs k ↔ v ∈ xs)
 | [], k, hk => by simp [M.idx]
 | y :: r, k, hk => by
  unfold M.idx
  by_cases h : v = y
  ·
   rw [if_pos h]; simp [h, hk]
  ·
   rw [if_neg h, M.idx_in v r (k + 1) (by omega)]; simp [h]
theorem list10 {l : List Int} (h : l.length = 10) : ∃ a0 a1 a2 a3 a4 a5 a6 a7 a8 a9, l = [a0, a1, a2, a3, a4, a5, a6, a7, a8, a9] := by
 match l, h with
 | [a0, a1, a2, a3, a4, a5, a6, a7, a8, a9], _ => exact ⟨a0, a1, a2, a3, a4, a5, a6, a7, a8, a9, rfl⟩
theorem cells10 {W : World} {b : Nat} {t : TypeId} {v0 v1 v2 v3 v4 v5 v6 v7 v8 v9 : Value} (h : W.heap[b]? = some (.cells #[v0, v1, v2, v3, v4, v5, v6, v7, v8, v9] t (0, 0))) :
  W.cell? ⟨b, 0, none⟩ = some v0 ∧ W.cell? ⟨b, 1, none⟩ = some v1 ∧ W.cell? ⟨b, 2, none⟩ = some v2 ∧ W.cell? ⟨b, 3, none⟩ = some v3 ∧ W.cell? ⟨b, 4, none⟩ = some v4 ∧ W.cell? ⟨b, 5, none⟩ = some v5 ∧ W.cell? ⟨b, 6, none⟩ = some v6 ∧ W.cell? ⟨b, 7, none⟩ = some v7 ∧ W.cell? ⟨b, 8, none⟩ = some v8 ∧ W.cell? ⟨b, 9, none⟩ = some v9 :=
 ⟨cell_in h 0, cell_in h 1, cell_in h 2, cell_in h 3, cell_in h 4, cell_in h 5, cell_in h 6, cell_in h 7, cell_in h 8, cell_in h 9⟩
theorem frz10 {W : World} {b : Nat} {cs : Array Value} {t : TypeId} (h : W.heap[b]? = some (.cells cs t (0, 0))) : W.frozen? ⟨b, 0, none⟩ = false ∧ W.frozen? ⟨b, 1, none⟩ = false ∧ W.frozen? ⟨b, 2, none⟩ = false ∧ W.frozen? ⟨b, 3, none⟩ = false ∧ W.frozen? ⟨b, 4, none⟩ = false ∧ W.frozen? ⟨b, 5, none⟩ = false ∧ W.frozen? ⟨b, 6, none⟩ = false ∧ W.frozen? ⟨b, 7, none⟩ = false ∧ W.frozen? ⟨b, 8, none⟩ = false ∧ W.frozen? ⟨b, 9, none⟩ = false :=
 ⟨frozen_in h 0, frozen_in h 1, frozen_in h 2, frozen_in h 3, frozen_in h 4, frozen_in h 5, frozen_in h 6, frozen_in h 7, frozen_in h 8, frozen_in h 9⟩
theorem set10 {W : World} {b : Nat} {t : TypeId} {z0 z1 z2 z3 z4 z5 z6 z7 z8 z9 v0 v1 v2 v3 v4 v5 v6 v7 v8 v9 : Value} (h : W.heap[b]? = some (.cells #[z0, z1, z2, z3, z4, z5, z6, z7, z8, z9] t (0, 0))) :
  ((((((((((W.setCell ⟨b, 0, none⟩ v0).setCell ⟨b, 1, none⟩ v1).setCell ⟨b, 2, none⟩ v2).setCell ⟨b, 3, none⟩ v3).setCell ⟨b, 4, none⟩ v4).setCell ⟨b, 5, none⟩ v5).setCell ⟨b, 6, none⟩ v6).setCell ⟨b, 7, none⟩ v7).setCell ⟨b, 8, none⟩ v8).setCell ⟨b, 9, none⟩ v9).heap[b]? = some (.cells #[v0, v1, v2, v3, v4, v5, v6, v7, v8, v9] t (0, 0)) := by
 have h0 := h
 have h1 := set_heap_same (j := 0) (v := v0) h0
 have h2 := set_heap_same (j := 1) (v := v1) h1
 have h3 := set_heap_same (j := 2) (v := v2) h2
 have h4 := set_heap_same (j := 3) (v := v3) h3
 have h5 := set_heap_same (j := 4) (v := v4) h4
 have h6 := set_heap_same (j := 5) (v := v5) h5
 have h7 := set_heap_same (j := 6) (v := v6) h6
 have h8 := set_heap_same (j := 7) (v := v7) h7
 have h9 := set_heap_same (j := 8) (v := v8) h8
 have h10 := set_heap_same (j := 9) (v := v9) h9
 rw [h10]
 simp
theorem take_set_succ {l : List Int} {k : Nat} {x : Int} (h : k < l.length) : (l.set k x).take (k + 1) = l.take k ++ [x] := by
 rw [List.take_add_one, List.take_set_of_le (Nat.le_refl _), List.getElem?_set_self h]; rfl
theorem cells_set {l : List Int} {k : Nat} {x : Int} : (l.map (Value.int .i64)).toArray.setIfInBounds k (.int .i64 x) = ((l.set k x).map (Value.int .i64)).toArray := by
 simp [List.map_set]
set_option maxRecDepth 100000 in
set_option maxHeartbeats 1000000 in
theorem contains_c (A : Option Addr) (n c : Nat) (xs : List Int) (v : Int) (w : World) (hs : Sl ics 1 w w.heap.size A n c xs) :
  Calls Try.prog 95 #[.slice A n c, .int .i64 v] w fun e w' => e = .returned (.bool (decide (v ∈ xs))) ∧ Ev w w' := by
 have h1 := fun W (hE : Ev w W) => idx_c A n c xs v W (hs.ev hE)
 have hi := M.idx_in v xs 0 (Int.le_refl _)
 generalize M.idx v xs 0 = x at h1 hi
 have H1 := hid h1
 clear h1 hs
 by_cases h : 0 ≤ x
 ·
  have h' : x ≥ 0 := h
  have HD := hid (decide_eq_true (hi.1 h))
  clear hi
  go_enter Try.func95, Try.ntmps95
  go_wp2_with (go_at_call 115; with_reducible refine (H1.out _ (Ev.refl _)).mono ?_; rintro e w1 ⟨rfl, hb1⟩)
  go_ret
  exact ⟨ret_bool HD.out.symm, hb1⟩
 ·
  have h' : ¬ (x ≥ 0) := h
  have h'' : x < 0 := by omega
  have HD := hid (decide_eq_false (fun q => h (hi.2 q)))
  clear hi
  go_enter Try.func95, Try.ntmps95
  go_wp2_with (go_at_call 115; with_reducible refine (H1.out _ (Ev.refl _)).mono ?_; rintro e w1 ⟨rfl, hb1⟩)
  go_ret
  exact ⟨ret_bool (by rw [HD.out]; first | rfl | (simp; omega)), hb1⟩
theorem rgc_len (ys : List M.Rg) : ∀ y ∈ ys, (rgc y).length = 2 := fun _ _ => rfl
theorem rgc_one (ys : List M.Rg) : ∀ u ∈ ys.flatMap rgc, u.oneCell' = true := by
 intro u hu
 obtain ⟨y, _, hy⟩ := List.mem_flatMap.1 hu
 simp [rgc] at hy
 rcases hy with rfl | rfl <;> rfl
theorem sl_block {α : Type} {enc : α → List Value} {sz : Nat} {w : World} {b n : Nat} {t : TypeId} {xs : List α} (hsz : 0 < sz) (henc : ∀ x ∈ xs, (enc x).length = sz) (hn : n ≤ 1099511627776) (hl : xs.length = n) (h : w.heap[b]? = some (.cells (xs.flatMap enc).toArray t (0, 0))) :
  Sl enc sz w w.heap.size (some ⟨b, 0, none⟩) n n xs := by
 refine ⟨hl, Nat.le_refl _, hn, fun _ => ⟨b, 0, rfl, heap_lt h, fun k x hk j v hj => ?_⟩⟩
 rw [cell_in h, Nat.zero_add, List.getElem?_toArray]
 exact flat_get enc sz xs henc k x hk j v hj
theorem take_set_succ' {α : Type} {l : List α} {k : Nat} {x : α} (h : k < l.length) : (l.set k x).take (k + 1) = l.take k ++ [x] := by
 rw [List.take_add_one, List.take_set_of_le (Nat.le_refl _), List.getElem?_set_self h]; rfl
theorem rdc_len (ys : List M.Rd) : ∀ y ∈ ys, (rdc y).length = 3 := fun _ _ => rfl
/-- What the slices of a heap hold. -/
structure CS (w : World) (B : Nat) (f : M.Cf) (Aw At Ar : Option Addr) (nw cw nt ct nr cr : Nat) : Prop where
 w_ : Sl rgc 2 w B Aw nw cw f.wet
 t : Sl ics 1 w B At nt ct f.turns
 r : Sl rdc 3 w B Ar nr cr f.rds
theorem CS.ev {w w' : World} {f : M.Cf} {Aw At Ar : Option Addr} {nw cw nt ct nr cr : Nat} (h : CS w w.heap.size f Aw At Ar nw cw nt ct nr cr) (hE : Ev w w') : CS w' w'.heap.size f Aw At Ar nw cw nt ct nr cr :=
 ⟨h.w_.ev hE, h.t.ev hE, h.r.ev hE⟩

set_option maxRecDepth 100000 in
set_option maxHeartbeats 1000000 in
theorem hasHour_c (f : M.Cf) (Aw At Ar : Option Addr) (nw cw nt ct nr cr : Nat) (n : Int) (w : World) :
  Calls Try.prog 93 #[.agg #[.int .i64 f.last, .int .i64 f.size, .int .i64 f.cool, .int .i64 f.die, .int .i64 f.burn, .int .i64 f.st.lo, .int .i64 f.st.hi, .slice Aw nw cw, .slice At nt ct, .slice Ar nr cr], .int .i64 n] w fun e w' => e = .returned (.bool (M.hasHour f n)) ∧ Ev w w' := by
 go_enter Try.func93, Try.ntmps93
 go_wp2
 all_goals (go_ret; exact ⟨ret_bool (by simp only [M.hasHour]; first | (simp only [*]; simp; done) | (simp; omega)), Ev.alloc (Ev.refl _) _⟩)

set_option maxRecDepth 100000 in
set_option maxHeartbeats 1000000 in
theorem isWet_c (r : M.Rg) (w : World) :
  Calls Try.prog 118 #[.agg #[.int .i64 r.lo, .int .i64 r.hi]] w fun e w' => e = .returned (.bool (M.isWet r)) ∧ Ev w w' := by
 have hu := fun W => upTo_e r 20 W
 generalize hb : M.upTo r 20 = b at hu
 have HU := hid hu
 have HB := hid hb
 clear hu hb
 go_enter Try.func118, Try.ntmps118
 go_wp2_with (go_at_call 116; with_reducible refine (HU.out _).mono ?_; rintro e w1 ⟨rfl, hb1⟩)
 go_ret
 exact ⟨ret_bool HB.out.symm, Ev.trans (Ev.alloc (Ev.refl _) _) hb1⟩

set_option maxRecDepth 100000 in
set_option maxHeartbeats 2000000 in
theorem validRd_c (f : M.Cf) (Aw At Ar : Option Addr) (nw cw nt ct nr cr : Nat) (x : M.Rd) (w : World) :
  Calls Try.prog 100 #[.agg #[.int .i64 f.last, .int .i64 f.size, .int .i64 f.cool, .int .i64 f.die, .int .i64 f.burn, .int .i64 f.st.lo, .int .i64 f.st.hi, .slice Aw nw cw, .slice At nt ct, .slice Ar nr cr], .agg #[.int .i64 x.hr, .int .i64 x.sn, .int .i64 x.er]] w fun e w' => e = .returned (.bool (M.validRd f x)) ∧ Ev w w' := by
 have h0 := fun W (hE : Ev w W) => hasHour_c f Aw At Ar nw cw nt ct nr cr x.hr W
 have h1 : ∀ W, Ev w W → Calls Try.prog 90 #[.agg #[.int .i64 0, .int .i64 1000], .int .i64 x.sn] W fun e w' => e = .returned (.bool (M.holds ⟨0, 1000⟩ x.sn)) ∧ Ev W w' := fun W _ => holds_e ⟨0, 1000⟩ x.sn W
 have h2 : ∀ W, Ev w W → Calls Try.prog 90 #[.agg #[.int .i64 0, .int .i64 50], .int .i64 x.er] W fun e w' => e = .returned (.bool (M.holds ⟨0, 50⟩ x.er)) ∧ Ev W w' := fun W _ => holds_e ⟨0, 50⟩ x.er W
 have HD := hid (show M.validRd f x = (M.hasHour f x.hr && (M.holds ⟨0, 1000⟩ x.sn && (M.holds ⟨0, 50⟩ x.er))) from rfl)
 generalize M.hasHour f x.hr = a0 at h0 HD
 generalize M.holds ⟨0, 1000⟩ x.sn = a1 at h1 HD
 generalize M.holds ⟨0, 50⟩ x.er = a2 at h2 HD
 have H0 := hid h0
 have H1 := hid h1
 have H2 := hid h2
 clear h0 h1 h2
 cases a0
 ·
  go_enter Try.func100, Try.ntmps100
  go_wp2_with (first | (go_at_call 93; with_reducible refine (H0.out _ (Ev.alloc (Ev.alloc (Ev.refl _) _) _)).mono ?_; rintro e w1 ⟨rfl, hb1⟩; have hG : Ev w w1 := Ev.trans (Ev.alloc (Ev.alloc (Ev.refl _) _) _) hb1; have HB := hid (hb1.heap (alloc2 w (.cells #[.int .i64 f.last, .int .i64 f.size, .int .i64 f.cool, .int .i64 f.die, .int .i64 f.burn, .int .i64 f.st.lo, .int .i64 f.st.hi, .slice Aw nw cw, .slice At nt ct, .slice Ar nr cr] 40) (.cells #[.int .i64 x.hr, .int .i64 x.sn, .int .i64 x.er] 79)).2.1); obtain ⟨x0, x1, x2⟩ := cells3 HB.out))
  go_ret
  exact ⟨ret_bool HD.out.symm, hG⟩
 ·
  cases a1
  ·
   go_enter Try.func100, Try.ntmps100
   go_wp2_with (first | (go_at_call 93; with_reducible refine (H0.out _ (Ev.alloc (Ev.alloc (Ev.refl _) _) _)).mono ?_; rintro e w1 ⟨rfl, hb1⟩; have hG : Ev w w1 := Ev.trans (Ev.alloc (Ev.alloc (Ev.refl _) _) _) hb1; have HB := hid (hb1.heap (alloc2 w (.cells #[.int .i64 f.last, .int .i64 f.size, .int .i64 f.cool, .int .i64 f.die, .int .i64 f.burn, .int .i64 f.st.lo, .int .i64 f.st.hi, .slice Aw nw cw, .slice At nt ct, .slice Ar nr cr] 40) (.cells #[.int .i64 x.hr, .int .i64 x.sn, .int .i64 x.er] 79)).2.1); obtain ⟨x0, x1, x2⟩ := cells3 HB.out) | (go_at_call 90; with_reducible refine (H1.out _ hG).mono ?_; rintro e w2 ⟨rfl, hb2⟩; replace hG := hG.trans hb2; replace HB := hid (hb2.heap HB.out); clear x0 x1 x2; obtain ⟨x0, x1, x2⟩ := cells3 HB.out))
   go_ret
   exact ⟨ret_bool HD.out.symm, hG⟩
  ·
   go_enter Try.func100, Try.ntmps100
   go_wp2_with (first | (go_at_call 93; with_reducible refine (H0.out _ (Ev.alloc (Ev.alloc (Ev.refl _) _) _)).mono ?_; rintro e w1 ⟨rfl, hb1⟩; have hG : Ev w w1 := Ev.trans (Ev.alloc (Ev.alloc (Ev.refl _) _) _) hb1; have HB := hid (hb1.heap (alloc2 w (.cells #[.int .i64 f.last, .int .i64 f.size, .int .i64 f.cool, .int .i64 f.die, .int .i64 f.burn, .int .i64 f.st.lo, .int .i64 f.st.hi, .slice Aw nw cw, .slice At nt ct, .slice Ar nr cr] 40) (.cells #[.int .i64 x.hr, .int .i64 x.sn, .int .i64 x.er] 79)).2.1); obtain ⟨x0, x1, x2⟩ := cells3 HB.out) | (go_at_call 90; with_reducible refine (H1.out _ hG).mono ?_; rintro e w2 ⟨rfl, hb2⟩; replace hG := hG.trans hb2; replace HB := hid (hb2.heap HB.out); clear x0 x1 x2; obtain ⟨x0, x1, x2⟩ := cells3 HB.out) | (go_at_call 90; with_reducible refine (H2.out _ hG).mono ?_; rintro e w3 ⟨rfl, hb3⟩; replace hG := hG.trans hb3; replace HB := hid (hb3.heap HB.out); clear x0 x1 x2; obtain ⟨x0, x1, x2⟩ := cells3 HB.out))
   go_ret
   exact ⟨ret_bool HD.out.symm, hG⟩

set_option maxRecDepth 100000 in
set_option maxHeartbeats 1000000 in
theorem allHour_c (f : M.Cf) (Aw At Ar : Option Addr) (nw cw nt ct nr cr : Nat) (A : Option Addr) (n c : Nat) (xs : List Int) (w : World) (hs : Sl ics 1 w w.heap.size A n c xs) :
  Calls Try.prog 92 #[.slice A n c, .func (.func 93) #[.agg #[.int .i64 f.last, .int .i64 f.size, .int .i64 f.cool, .int .i64 f.die, .int .i64 f.burn, .int .i64 f.st.lo, .int .i64 f.st.hi, .slice Aw nw cw, .slice At nt ct, .slice Ar nr cr]] #[]] w fun e w' => e = .returned (.bool (xs.all (M.hasHour f))) ∧ Ev w w' := by
 have hsm := hs.small
 go_enter Try.func92, Try.ntmps92
 go_wp2
 go_loopw [9] (fun i wr => ∃ k : Nat, i = .int .i64 k ∧ k ≤ n ∧ Ev w wr ∧ Hid ((xs.drop k).all (M.hasHour f) = xs.all (M.hasHour f))) (fun i _ => n - (intOf i).toNat)
 case atStart => exact ⟨0, rfl, by omega, Ev.refl _, hid rfl⟩
 case round =>
  obtain ⟨k, rfl, hk, hB, hall⟩ := hrel
  by_cases hlt : k < n
  ·
   obtain ⟨b, off, x, rfl, hb, hx, hd, hcc⟩ := hs.at_ hB hlt
   have e0 := hcc 0 _ rfl
   simp only [Nat.add_zero, Nat.mul_one] at e0
   have hcap := hs.cap
   have H := hid hd
   clear hd hx hcc
   have hcon := fun W => hasHour_c f Aw At Ar nw cw nt ct nr cr x W
   cases hv : (M.hasHour f) x with
   | true =>
    rw [hv] at hcon
    have HC := hid hcon
    have HV := hid hv
    clear hcon hv
    go_wp2_with (go_at_call 93; with_reducible refine (HC.out _).mono ?_; rintro e w1 ⟨rfl, hb1⟩)
    refine ⟨⟨k + 1, by go_num, by omega, by first | exact hB.trans hb1 | exact hB.trans (Ev.trans (Ev.alloc (Ev.refl _) _) hb1), ?_⟩, by simp [intOf]; omega⟩
    exact hid (by rw [← hall.out, H.out, List.all_cons, HV.out, Bool.true_and])
   | false =>
    rw [hv] at hcon
    have HC := hid hcon
    have HV := hid hv
    clear hcon hv
    go_wp2_with (go_at_call 93; with_reducible refine (HC.out _).mono ?_; rintro e w1 ⟨rfl, hb1⟩)
    go_ret
    exact ⟨ret_bool (by rw [← hall.out, H.out, List.all_cons, HV.out, Bool.false_and]), by first | exact hB.trans hb1 | exact hB.trans (Ev.trans (Ev.alloc (Ev.refl _) _) hb1)⟩
  ·
   have H := hid (hs.done hlt)
   go_wp2
   go_ret
   exact ⟨ret_bool (by rw [← hall.out, H.out]; rfl), hB⟩

set_option maxRecDepth 100000 in
set_option maxHeartbeats 1000000 in
theorem allWet_c  (A : Option Addr) (n c : Nat) (xs : List M.Rg) (w : World) (hs : Sl rgc 2 w w.heap.size A n c xs) :
  Calls Try.prog 117 #[.slice A n c, .func (.func 118) #[] #[]] w fun e w' => e = .returned (.bool (xs.all (M.isWet))) ∧ Ev w w' := by
 have hsm := hs.small
 go_enter Try.func117, Try.ntmps117
 go_wp2
 go_loopw [9] (fun i wr => ∃ k : Nat, i = .int .i64 k ∧ k ≤ n ∧ Ev w wr ∧ Hid ((xs.drop k).all (M.isWet) = xs.all (M.isWet))) (fun i _ => n - (intOf i).toNat)
 case atStart => exact ⟨0, rfl, by omega, Ev.refl _, hid rfl⟩
 case round =>
  obtain ⟨k, rfl, hk, hB, hall⟩ := hrel
  by_cases hlt : k < n
  ·
   obtain ⟨b, off, x, rfl, hb, hx, hd, hcc⟩ := hs.at_ hB hlt
   have e0 := hcc 0 _ rfl
   have e1 := hcc 1 _ rfl
   simp only [Nat.add_zero] at e0
   have hcap := hs.cap
   have H := hid hd
   clear hd hx hcc
   have hcon := fun W => isWet_c x W
   cases hv : (M.isWet) x with
   | true =>
    rw [hv] at hcon
    have HC := hid hcon
    have HV := hid hv
    clear hcon hv
    go_wp2_with (go_at_call 118; with_reducible refine (HC.out _).mono ?_; rintro e w1 ⟨rfl, hb1⟩)
    refine ⟨⟨k + 1, by go_num, by omega, by first | exact hB.trans hb1 | exact hB.trans (Ev.trans (Ev.alloc (Ev.refl _) _) hb1), ?_⟩, by simp [intOf]; omega⟩
    exact hid (by rw [← hall.out, H.out, List.all_cons, HV.out, Bool.true_and])
   | false =>
    rw [hv] at hcon
    have HC := hid hcon
    have HV := hid hv
    clear hcon hv
    go_wp2_with (go_at_call 118; with_reducible refine (HC.out _).mono ?_; rintro e w1 ⟨rfl, hb1⟩)
    go_ret
    exact ⟨ret_bool (by rw [← hall.out, H.out, List.all_cons, HV.out, Bool.false_and]), by first | exact hB.trans hb1 | exact hB.trans (Ev.trans (Ev.alloc (Ev.refl _) _) hb1)⟩
  ·
   have H := hid (hs.done hlt)
   go_wp2
   go_ret
   exact ⟨ret_bool (by rw [← hall.out, H.out]; rfl), hB⟩

set_option maxRecDepth 100000 in
set_option maxHeartbeats 1000000 in
theorem allRd_c (f : M.Cf) (Aw At Ar : Option Addr) (nw cw nt ct nr cr : Nat) (A : Option Addr) (n c : Nat) (xs : List M.Rd) (w : World) (hs : Sl rdc 3 w w.heap.size A n c xs) :
  Calls Try.prog 96 #[.slice A n c, .func (.func 100) #[.agg #[.int .i64 f.last, .int .i64 f.size, .int .i64 f.cool, .int .i64 f.die, .int .i64 f.burn, .int .i64 f.st.lo, .int .i64 f.st.hi, .slice Aw nw cw, .slice At nt ct, .slice Ar nr cr]] #[]] w fun e w' => e = .returned (.bool (xs.all (M.validRd f))) ∧ Ev w w' := by
 have hsm := hs.small
 go_enter Try.func96, Try.ntmps96
 go_wp2
 go_loopw [9] (fun i wr => ∃ k : Nat, i = .int .i64 k ∧ k ≤ n ∧ Ev w wr ∧ Hid ((xs.drop k).all (M.validRd f) = xs.all (M.validRd f))) (fun i _ => n - (intOf i).toNat)
 case atStart => exact ⟨0, rfl, by omega, Ev.refl _, hid rfl⟩
 case round =>
  obtain ⟨k, rfl, hk, hB, hall⟩ := hrel
  by_cases hlt : k < n
  ·
   obtain ⟨b, off, x, rfl, hb, hx, hd, hcc⟩ := hs.at_ hB hlt
   have e0 := hcc 0 _ rfl
   have e1 := hcc 1 _ rfl
   have e2 := hcc 2 _ rfl
   simp only [Nat.add_zero] at e0
   have hcap := hs.cap
   have H := hid hd
   clear hd hx hcc
   have hcon := fun W => validRd_c f Aw At Ar nw cw nt ct nr cr x W
   cases hv : (M.validRd f) x with
   | true =>
    rw [hv] at hcon
    have HC := hid hcon
    have HV := hid hv
    clear hcon hv
    go_wp2_with (go_at_call 100; with_reducible refine (HC.out _).mono ?_; rintro e w1 ⟨rfl, hb1⟩)
    refine ⟨⟨k + 1, by go_num, by omega, by first | exact hB.trans hb1 | exact hB.trans (Ev.trans (Ev.alloc (Ev.refl _) _) hb1), ?_⟩, by simp [intOf]; omega⟩
    exact hid (by rw [← hall.out, H.out, List.all_cons, HV.out, Bool.true_and])
   | false =>
    rw [hv] at hcon
    have HC := hid hcon
    have HV := hid hv
    clear hcon hv
    go_wp2_with (go_at_call 100; with_reducible refine (HC.out _).mono ?_; rintro e w1 ⟨rfl, hb1⟩)
    go_ret
    exact ⟨ret_bool (by rw [← hall.out, H.out, List.all_cons, HV.out, Bool.false_and]), by first | exact hB.trans hb1 | exact hB.trans (Ev.trans (Ev.alloc (Ev.refl _) _) hb1)⟩
  ·
   have H := hid (hs.done hlt)
   go_wp2
   go_ret
   exact ⟨ret_bool (by rw [← hall.out, H.out]; rfl), hB⟩

set_option maxRecDepth 100000 in
set_option maxHeartbeats 2000000 in
theorem isTurns_c (f : M.Cf) (Aw At Ar : Option Addr) (nw cw nt ct nr cr : Nat) (A : Option Addr) (n c : Nat) (xs : List Int) (w : World) (hs : Sl ics 1 w w.heap.size A n c xs) :
  Calls Try.prog 66 #[.agg #[.int .i64 f.last, .int .i64 f.size, .int .i64 f.cool, .int .i64 f.die, .int .i64 f.burn, .int .i64 f.st.lo, .int .i64 f.st.hi, .slice Aw nw cw, .slice At nt ct, .slice Ar nr cr], .slice A n c] w fun e w' => e = .returned (.bool (M.isTurns f xs)) ∧ Ev w w' := by
 have h0 := fun W (hE : Ev w W) => rises_c A n c xs W (hs.ev hE)
 have h1 := fun W (hE : Ev w W) => allHour_c f Aw At Ar nw cw nt ct nr cr A n c xs W (hs.ev hE)
 have HD := hid (show M.isTurns f xs = (M.rises xs && (xs.all (M.hasHour f))) from rfl)
 generalize M.rises xs = a0 at h0 HD
 generalize xs.all (M.hasHour f) = a1 at h1 HD
 have H0 := hid h0
 have H1 := hid h1
 clear h0 h1 hs
 cases a0
 ·
  go_enter Try.func66, Try.ntmps66
  go_wp2_with (first | (go_at_call 91; with_reducible refine (H0.out _ (Ev.alloc (Ev.refl _) _)).mono ?_; rintro e w1 ⟨rfl, hb1⟩; have hG : Ev w w1 := Ev.trans (Ev.alloc (Ev.refl _) _) hb1; have HB := hid (hb1.heap (alloc1 w (.cells #[.int .i64 f.last, .int .i64 f.size, .int .i64 f.cool, .int .i64 f.die, .int .i64 f.burn, .int .i64 f.st.lo, .int .i64 f.st.hi, .slice Aw nw cw, .slice At nt ct, .slice Ar nr cr] 40)).1); obtain ⟨y0, y1, y2, y3, y4, y5, y6, y7, y8, y9⟩ := cells10 HB.out))
  go_ret
  exact ⟨ret_bool HD.out.symm, hG⟩
 ·
  go_enter Try.func66, Try.ntmps66
  go_wp2_with (first | (go_at_call 91; with_reducible refine (H0.out _ (Ev.alloc (Ev.refl _) _)).mono ?_; rintro e w1 ⟨rfl, hb1⟩; have hG : Ev w w1 := Ev.trans (Ev.alloc (Ev.refl _) _) hb1; have HB := hid (hb1.heap (alloc1 w (.cells #[.int .i64 f.last, .int .i64 f.size, .int .i64 f.cool, .int .i64 f.die, .int .i64 f.burn, .int .i64 f.st.lo, .int .i64 f.st.hi, .slice Aw nw cw, .slice At nt ct, .slice Ar nr cr] 40)).1); obtain ⟨y0, y1, y2, y3, y4, y5, y6, y7, y8, y9⟩ := cells10 HB.out) | (go_at_call 92; with_reducible refine (H1.out _ hG).mono ?_; rintro e w2 ⟨rfl, hb2⟩; replace hG := hG.trans hb2; replace HB := hid (hb2.heap HB.out); clear y0 y1 y2 y3 y4 y5 y6 y7 y8 y9; obtain ⟨y0, y1, y2, y3, y4, y5, y6, y7, y8, y9⟩ := cells10 HB.out))
  go_ret
  exact ⟨ret_bool HD.out.symm, hG⟩

set_option maxRecDepth 100000 in
set_option maxHeartbeats 2000000 in
theorem validHeats_c (f : M.Cf) (Aw At Ar : Option Addr) (nw cw nt ct nr cr : Nat) (w : World) :
  Calls Try.prog 98 #[.agg #[.int .i64 f.last, .int .i64 f.size, .int .i64 f.cool, .int .i64 f.die, .int .i64 f.burn, .int .i64 f.st.lo, .int .i64 f.st.hi, .slice Aw nw cw, .slice At nt ct, .slice Ar nr cr]] w fun e w' => e = .returned (.bool (M.validHeats f)) ∧ Ev w w' := by
 have h0 : ∀ W, Ev w W → Calls Try.prog 116 #[.agg #[.int .i64 f.die, .int .i64 f.burn], .int .i64 500] W fun e w' => e = .returned (.bool (M.upTo ⟨f.die, f.burn⟩ 500)) ∧ Ev W w' := fun W _ => upTo_e ⟨f.die, f.burn⟩ 500 W
 have h1 : ∀ W, Ev w W → Calls Try.prog 116 #[.agg #[.int .i64 f.st.lo, .int .i64 f.st.hi], .int .i64 500] W fun e w' => e = .returned (.bool (M.upTo f.st 500)) ∧ Ev W w' := fun W _ => upTo_e f.st 500 W
 have HD := hid (show M.validHeats f = (M.upTo ⟨f.die, f.burn⟩ 500 && (M.upTo f.st 500)) from rfl)
 generalize M.upTo ⟨f.die, f.burn⟩ 500 = a0 at h0 HD
 generalize M.upTo f.st 500 = a1 at h1 HD
 have H0 := hid h0
 have H1 := hid h1
 clear h0 h1
 cases a0
 ·
  go_enter Try.func98, Try.ntmps98
  go_wp2_with (first | (go_at_call 116; with_reducible refine (H0.out _ (Ev.alloc (Ev.alloc (Ev.refl _) _) _)).mono ?_; rintro e w1 ⟨rfl, hb1⟩; have hG : Ev w w1 := Ev.trans (Ev.alloc (Ev.alloc (Ev.refl _) _) _) hb1; have HB := hid (hb1.heap (alloc2 w (.cells #[.int .i64 f.last, .int .i64 f.size, .int .i64 f.cool, .int .i64 f.die, .int .i64 f.burn, .int .i64 f.st.lo, .int .i64 f.st.hi, .slice Aw nw cw, .slice At nt ct, .slice Ar nr cr] 40) (.cells #[.int .i64 f.die, .int .i64 f.burn] 36)).1); obtain ⟨y0, y1, y2, y3, y4, y5, y6, y7, y8, y9⟩ := cells10 HB.out))
  go_ret
  exact ⟨ret_bool HD.out.symm, hG⟩
 ·
  go_enter Try.func98, Try.ntmps98
  go_wp2_with (first | (go_at_call 116; with_reducible refine (H0.out _ (Ev.alloc (Ev.alloc (Ev.refl _) _) _)).mono ?_; rintro e w1 ⟨rfl, hb1⟩; have hG : Ev w w1 := Ev.trans (Ev.alloc (Ev.alloc (Ev.refl _) _) _) hb1; have HB := hid (hb1.heap (alloc2 w (.cells #[.int .i64 f.last, .int .i64 f.size, .int .i64 f.cool, .int .i64 f.die, .int .i64 f.burn, .int .i64 f.st.lo, .int .i64 f.st.hi, .slice Aw nw cw, .slice At nt ct, .slice Ar nr cr] 40) (.cells #[.int .i64 f.die, .int .i64 f.burn] 36)).1); obtain ⟨y0, y1, y2, y3, y4, y5, y6, y7, y8, y9⟩ := cells10 HB.out) | (go_at_call 116; with_reducible refine (H1.out _ hG).mono ?_; rintro e w2 ⟨rfl, hb2⟩; replace hG := hG.trans hb2; replace HB := hid (hb2.heap HB.out); clear y0 y1 y2 y3 y4 y5 y6 y7 y8 y9; obtain ⟨y0, y1, y2, y3, y4, y5, y6, y7, y8, y9⟩ := cells10 HB.out))
  go_ret
  exact ⟨ret_bool HD.out.symm, hG⟩

end Go.Proofs.Ytgimcephbeajlaa
