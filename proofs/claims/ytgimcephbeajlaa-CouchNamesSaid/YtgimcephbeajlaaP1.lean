import Derived.Test.YtgimcephbeajlaaC27
import Derived.Deep.Slices
set_option linter.unusedVariables false
set_option maxRecDepth 100000
namespace Go.Proofs.Ytgimcephbeajlaa
open Go.ChangeShapes Go.WideShapes Go.ChangeAt Go.RowKit Go.Deep

theorem lst2 {α : Type} {l : List α} (h : l.length = 2) : ∃ a b, l = [a, b] := by
 match l, h with
 | [a, b], _ => exact ⟨a, b, rfl⟩
theorem lst3 {α : Type} {l : List α} (h : l.length = 3) : ∃ a b c, l = [a, b, c] := by
 match l, h with
 | [a, b, c], _ => exact ⟨a, b, c, rfl⟩
theorem lst9 {α : Type} {l : List α} (h : l.length = 9) : ∃ a b c d e f g i j, l = [a, b, c, d, e, f, g, i, j] := by
 match l, h with
 | [a, b, c, d, e, f, g, i, j], _ => exact ⟨a, b, c, d, e, f, g, i, j, rfl⟩
theorem lst10 {α : Type} {l : List α} (h : l.length = 10) : ∃ a b c d e f g i j k, l = [a, b, c, d, e, f, g, i, j, k] := by
 match l, h with
 | [a, b, c, d, e, f, g, i, j, k], _ => exact ⟨a, b, c, d, e, f, g, i, j, k, rfl⟩
theorem i64_bd {a : Int} (h : (Lit.int .i64 a).wf = true) : -9223372036854775808 ≤ a ∧ a ≤ 9223372036854775807 := by
 have h2 : (decide ((-9223372036854775808 : Int) ≤ a) && decide (a ≤ 9223372036854775807)) = true := h
 simp only [Bool.and_eq_true, decide_eq_true_eq] at h2
 omega
theorem u8_bd {a : Int} (h : (Lit.int .u8 a).wf = true) : 0 ≤ a ∧ a < 256 := by
 have h2 : (decide ((0 : Int) ≤ a) && decide (a ≤ 255)) = true := h
 simp only [Bool.and_eq_true, decide_eq_true_eq] at h2
 omega
theorem u16_bd {a : Int} (h : (Lit.int .u16 a).wf = true) : 0 ≤ a ∧ a < 65536 := by
 have h2 : (decide ((0 : Int) ≤ a) && decide (a ≤ 65535)) = true := h
 simp only [Bool.and_eq_true, decide_eq_true_eq] at h2
 omega

section
variable {H : Type} {enc : TypeId × Value → H} {w : World} {base : Nat} {sp : Nat → Bool} {held : Bool}

theorem cells23 : Try.prog.cellsOf 23 = 2 := by kernel_rfl
theorem cells3' : Try.prog.cellsOf 3 = 1 := by kernel_rfl
theorem cellsLk : Try.prog.cellsOf 96 = 3 := by kernel_rfl
theorem cellsSR : Try.prog.cellsOf 24 = 1 := by kernel_rfl
theorem cellsSI : Try.prog.cellsOf 25 = 1 := by kernel_rfl
theorem cellsSL : Try.prog.cellsOf 26 = 1 := by kernel_rfl
theorem cellsFd : Try.prog.cellsOf 28 = 10 := by kernel_rfl

/-- One number of a struct's cells. -/
theorem num_of {n : Nat} {cs : List Value} {x : Option (DataW H × List MemPlace)} {y : DataW H × List MemPlace} (h : DataW.trod enc Try.prog w base sp held n 3 cs = x) (hx : x = some y) : ∃ z : Int, cs = [.int .i64 z] ∧ Wf z := by
 rw [hx] at h
 obtain ⟨z, h1, _, h3⟩ := DataW.trod_int Try.underlying3 h
 exact ⟨z, h1, h3⟩

/-- A range's cells. -/
theorem range_of {n : Nat} {cs : List Value} {y : DataW H × List MemPlace} (h : DataW.trod enc Try.prog w base sp held n 23 cs = some y) : ∃ r : M.Rg, cs = [.int .i64 r.lo, .int .i64 r.hi] ∧ Wf r.lo ∧ Wf r.hi := by
 obtain ⟨xs, m, _, _, hl, hxl, hf⟩ := DataW.trod_struct Try.underlying23 h
 rw [cells23] at hl
 obtain ⟨a, b, rfl⟩ := lst2 hl
 obtain ⟨x0, x1, rfl⟩ := lst2 (l := xs) hxl
 have h0 := hf 0 { name := "Lo", type := 3, offset := 0, embedded := false, tag := "", pkgPath := "", byteOffset := 0 } rfl
 have h1 := hf 1 { name := "Hi", type := 3, offset := 1, embedded := false, tag := "", pkgPath := "", byteOffset := 8 } rfl
 dsimp only at h0 h1
 rw [cells3'] at h0 h1
 obtain ⟨lo, e0, w0⟩ := num_of h0 rfl
 obtain ⟨hi, e1, w1⟩ := num_of h1 rfl
 simp at e0 e1
 exact ⟨⟨lo, hi⟩, by rw [e0, e1], w0, w1⟩

/-- A reading's cells. -/
theorem reading_of {n : Nat} {cs : List Value} {y : DataW H × List MemPlace} (h : DataW.trod enc Try.prog w base sp held n 96 cs = some y) : ∃ t : M.Rd, cs = rdc t := by
 obtain ⟨xs, m, _, _, hl, hxl, hf⟩ := DataW.trod_struct Try.underlying96 h
 rw [cellsLk] at hl
 obtain ⟨a, b, c, rfl⟩ := lst3 hl
 obtain ⟨x0, x1, x2, rfl⟩ := lst3 (l := xs) hxl
 have h0 := hf 0 { name := "Hour", type := 3, offset := 0, embedded := false, tag := "", pkgPath := "", byteOffset := 0 } rfl
 have h1 := hf 1 { name := "Seen", type := 3, offset := 1, embedded := false, tag := "", pkgPath := "", byteOffset := 8 } rfl
 have h2 := hf 2 { name := "Error", type := 3, offset := 2, embedded := false, tag := "", pkgPath := "", byteOffset := 16 } rfl
 dsimp only at h0 h1 h2
 rw [cells3'] at h0 h1 h2
 obtain ⟨v0, e0, _⟩ := num_of h0 rfl
 obtain ⟨v1, e1, _⟩ := num_of h1 rfl
 obtain ⟨v2, e2, _⟩ := num_of h2 rfl
 simp at e0 e1 e2
 exact ⟨⟨v0, v1, v2⟩, by rw [e0, e1, e2]; rfl⟩

/-- The elements of a list, one for each index, as a list. -/
theorem pick_list {α : Type} (p : Nat → α → Prop) : ∀ (n : Nat), (∀ k, k < n → ∃ x, p k x) → ∃ xs : List α, xs.length = n ∧ ∀ k x, xs[k]? = some x → p k x
 | 0, _ => ⟨[], rfl, by simp⟩
 | n + 1, h => by
  obtain ⟨xs, h1, h2⟩ := pick_list p n (fun k hk => h k (by omega))
  obtain ⟨x, hx⟩ := h n (by omega)
  refine ⟨xs ++ [x], by simp [h1], fun k y hk => ?_⟩
  by_cases hkn : k < n
  ·
   rw [List.getElem?_append_left (by omega)] at hk
   exact h2 k y hk
  ·
   have : k = n := by
    have := (List.getElem?_eq_some_iff.1 hk).1
    simp at this
    omega
   subst this
   rw [List.getElem?_append_right (by omega), h1, Nat.sub_self] at hk
   simp at hk
   rw [← hk]; exact hx

/-- A slice that came in, of elements of sz cells each. -/
theorem slice_of {α : Type} {enc2 : α → List Value} {t e sz : Nat} (ht : Try.prog.underlying t = some (.slice e)) (hsz : Try.prog.cellsOf e = sz) (hlen : ∀ x, (enc2 x).length = sz) (hpos : 0 < sz) {fuel : Nat} {cs : List Value} {y : DataW H × List MemPlace} (hspare : sp = fun _ => true)
  (hel : ∀ {n : Nat} {cs : List Value} {y : DataW H × List MemPlace}, DataW.trod enc Try.prog w base sp held n e cs = some y → ∃ x : α, cs = enc2 x)
  (h : DataW.trod enc Try.prog w base sp held fuel t cs = some y) :
  ∃ (A : Option Addr) (n c : Nat) (xs : List α), cs = [.slice A n c] ∧ n ≤ c ∧ c ≤ maxLen ∧ xs.length = n ∧ (A = none → c = 0) ∧ (n ≤ 1099511627776 → Sl enc2 sz w w.heap.size A n c xs) := by
 rcases open_slice ht h with ⟨h1, _⟩ | ⟨a, n, c, m, fu, D, Pl, h1, _, hnc, hcm, hm, _, hi⟩
 ·
  exact ⟨none, 0, 0, [], h1, Nat.le_refl _, Nat.zero_le _, rfl, fun _ => rfl, fun _ => ⟨rfl, Nat.le_refl _, by omega, fun h => by omega⟩⟩
 ·
  rw [hspare] at hm
  simp only [↓reduceIte] at hm
  have hp : ∀ k, k < n → ∃ x : α, ∀ (j : Nat) (v : Value), (enc2 x)[j]? = some v → w.cell? (a.add (k * sz + j)) = some v := by
   intro k hk
   obtain ⟨cs', hc, ht'⟩ := hi k (by omega)
   obtain ⟨x, rfl⟩ := hel ht'
   rw [hsz] at hc
   obtain ⟨_, _, hat⟩ := World.cells?_some hc
   refine ⟨x, fun j v hj => ?_⟩
   have hjl : j < sz := by have := (List.getElem?_eq_some_iff.1 hj).1; rw [hlen] at this; exact this
   have := hat j hjl
   rw [add_add] at this
   rw [this]; exact hj
  obtain ⟨xs, hx1, hx2⟩ := pick_list _ n hp
  refine ⟨some a, n, c, xs, h1, hnc, hcm, hx1, (fun h => by cases h), fun hsm => ⟨hx1, hnc, hsm, fun hn => ?_⟩⟩
  obtain ⟨b, off, spot⟩ := a
  have hx0 : xs[0]? = some (xs[0]'(by omega)) := List.getElem?_eq_getElem _
  have hv : (enc2 (xs[0]'(by omega)))[0]? = some ((enc2 (xs[0]'(by omega)))[0]'(by rw [hlen]; exact hpos)) := List.getElem?_eq_getElem _
  have h0 := hx2 0 _ hx0 0 _ hv
  have hspot : spot = none := by simpa [Addr.add] using World.cell?_spot h0
  subst hspot
  refine ⟨b, off, rfl, ?_, fun k x hk j v hj => ?_⟩
  ·
   have := World.block_lt_of_cell? w _ h0
   simpa [Addr.add] using this
  ·
   have := hx2 k x hk j v hj
   rw [Go.WideShapes.add_plain] at this
   rw [Nat.add_assoc]; exact this

/-- A number list that came in, of any size. -/
theorem int_of {n : Nat} {cs : List Value} {y : DataW H × List MemPlace} (h : DataW.trod enc Try.prog w base sp held n 3 cs = some y) : ∃ z : Int, cs = ics z := by
 obtain ⟨z, h1, _⟩ := num_of h rfl
 exact ⟨z, h1⟩
set_option maxRecDepth 100000 in
/-- A heap that came in. -/
theorem heap_of {r : Reach} {b0 : Nat} {v : Value} {d : DataW H} {p : List MemPlace} (hv : Value.okWide Try.prog w r b0 28 v) (h : DataW.Trod enc Try.prog w base (fun _ => true) held 28 v d p) :
  ∃ (f : M.Cf) (Aw At Ar : Option Addr) (nw cw nt ct nr cr : Nat), v = .agg #[.int .i64 f.last, .int .i64 f.size, .int .i64 f.cool, .int .i64 f.die, .int .i64 f.burn, .int .i64 f.st.lo, .int .i64 f.st.hi, .slice Aw nw cw, .slice At nt ct, .slice Ar nr cr] ∧ -9223372036854775808 ≤ f.last ∧ (f.wet.length = nw ∧ f.turns.length = nt ∧ f.rds.length = nr) ∧ (M.small nw nt nr → CS w w.heap.size f Aw At Ar nw cw nt ct nr cr) := by
 obtain ⟨cs, rfl, hsz⟩ := okWide_struct Try.underlying28 hv
 obtain ⟨fuel, hf0⟩ := h
 obtain ⟨xs, m, _, _, _, hxl, hf⟩ := DataW.trod_struct Try.underlying28 hf0
 rw [cellsFd] at hsz
 obtain ⟨l⟩ := cs
 obtain ⟨u0, u1, u2, u3, u4, u5, u6, u7, u8, u9, rfl⟩ := lst10 (l := l) (by simpa using hsz)
 obtain ⟨x0, x1, x2, x3, x4, x5, x6, x7, x8, rfl⟩ := lst9 (l := xs) hxl
 have h0 := hf 0 { name := "Last", type := 3, offset := 0, embedded := false, tag := "", pkgPath := "", byteOffset := 0 } rfl
 have h1 := hf 1 { name := "Size", type := 3, offset := 1, embedded := false, tag := "", pkgPath := "", byteOffset := 8 } rfl
 have h2 := hf 2 { name := "Cool", type := 3, offset := 2, embedded := false, tag := "", pkgPath := "", byteOffset := 16 } rfl
 have h3 := hf 3 { name := "Die", type := 3, offset := 3, embedded := false, tag := "", pkgPath := "", byteOffset := 24 } rfl
 have h4 := hf 4 { name := "Burn", type := 3, offset := 4, embedded := false, tag := "", pkgPath := "", byteOffset := 32 } rfl
 have h5 := hf 5 { name := "Start", type := 23, offset := 5, embedded := false, tag := "", pkgPath := "", byteOffset := 40 } rfl
 have h6 := hf 6 { name := "Wet", type := 24, offset := 7, embedded := false, tag := "", pkgPath := "", byteOffset := 56 } rfl
 have h7 := hf 7 { name := "Turns", type := 25, offset := 8, embedded := false, tag := "", pkgPath := "", byteOffset := 80 } rfl
 have h8 := hf 8 { name := "Readings", type := 26, offset := 9, embedded := false, tag := "", pkgPath := "", byteOffset := 104 } rfl
 dsimp only at h0 h1 h2 h3 h4 h5 h6 h7 h8
 rw [cells3'] at h0 h1 h2 h3 h4
 rw [cells23] at h5
 rw [cellsSR] at h6
 rw [cellsSI] at h7
 rw [cellsSL] at h8
 obtain ⟨v0, e0, w0⟩ := num_of h0 rfl
 obtain ⟨v1, e1, w1⟩ := num_of h1 rfl
 obtain ⟨v2, e2, w2⟩ := num_of h2 rfl
 obtain ⟨v3, e3, w3⟩ := num_of h3 rfl
 obtain ⟨v4, e4, w4⟩ := num_of h4 rfl
 obtain ⟨st, e5, _⟩ := range_of (h5.trans (rfl : _ = some x5))
 obtain ⟨Aw, nw, cw, tw, e6, _, _, l6, _, s6⟩ := slice_of (sp := fun _ => true) (enc2 := rgc) Try.underlying24 cells23 (fun _ => rfl) (by decide) rfl (fun h => by obtain ⟨r, hr, _⟩ := range_of h; exact ⟨r, hr⟩) (h6.trans (rfl : _ = some x6))
 obtain ⟨At, nt, ct, tt, e7, _, _, l7, _, s7⟩ := slice_of (sp := fun _ => true) (enc2 := ics) Try.underlying25 cells3' (fun _ => rfl) (by decide) rfl (fun h => int_of h) (h7.trans (rfl : _ = some x7))
 obtain ⟨Ar, nr, cr, tr, e8, _, _, l8, _, s8⟩ := slice_of (sp := fun _ => true) (enc2 := rdc) Try.underlying26 cellsLk (fun _ => rfl) (by decide) rfl (fun h => reading_of h) (h8.trans (rfl : _ = some x8))
 simp [Value.cells] at e0 e1 e2 e3 e4 e5 e6 e7 e8
 obtain ⟨e5, e5'⟩ := e5
 subst e0 e1 e2 e3 e4 e5 e5' e6 e7 e8
 refine ⟨⟨v0, v1, v2, v3, v4, st, tw, tt, tr⟩, Aw, At, Ar, nw, cw, nt, ct, nr, cr, rfl, (i64_bd w0).1, ⟨l6, l7, l8⟩, fun hs => ?_⟩
 obtain ⟨q0, q1, q2⟩ := hs
 exact ⟨s6 (by omega), s7 (by omega), s8 (by omega)⟩

set_option maxRecDepth 100000 in
/-- A truth that came in. -/
theorem truth_of {r : Reach} {b0 : Nat} {v : Value} {d : DataW H} {p : List MemPlace} (hv : Value.okWide Try.prog w r b0 30 v) (h : DataW.Trod enc Try.prog w base (fun _ => true) held 30 v d p) :
  ∃ (t : M.Tr) (Tw : Option Addr) (tw twc : Nat), v = .agg #[.int .i64 t.st, .slice Tw tw twc] ∧ (tw ≤ 1000 → Sl ics 1 w w.heap.size Tw tw twc t.wet) := by
 obtain ⟨cs, rfl, hsz⟩ := okWide_struct Try.underlying30 hv
 obtain ⟨fuel, hf0⟩ := h
 obtain ⟨xs, m, _, _, _, hxl, hf⟩ := DataW.trod_struct Try.underlying30 hf0
 rw [show Try.prog.cellsOf 30 = 2 by kernel_rfl] at hsz
 obtain ⟨l⟩ := cs
 obtain ⟨u0, u1, rfl⟩ := lst2 (l := l) (by simpa using hsz)
 obtain ⟨x0, x1, rfl⟩ := lst2 (l := xs) hxl
 have h0 := hf 0 { name := "Start", type := 3, offset := 0, embedded := false, tag := "", pkgPath := "", byteOffset := 0 } rfl
 have h1 := hf 1 { name := "Wet", type := 25, offset := 1, embedded := false, tag := "", pkgPath := "", byteOffset := 8 } rfl
 dsimp only at h0 h1
 rw [cells3'] at h0
 rw [cellsSI] at h1
 obtain ⟨v0, e0, _⟩ := num_of h0 rfl
 obtain ⟨Tw, tw, twc, lw, e1, _, _, _, _, s1⟩ := slice_of (sp := fun _ => true) (enc2 := ics) Try.underlying25 cells3' (fun _ => rfl) (by decide) rfl (fun h => int_of h) (h1.trans (rfl : _ = some x1))
 simp [Value.cells] at e0 e1
 subst e0 e1
 exact ⟨⟨v0, lw⟩, Tw, tw, twc, rfl, fun h => s1 (by omega)⟩

end

section
variable {H : Type} {enc : TypeId × Value → H} {w : World} {base : Nat} {held : Bool}

/-- A list of numbers that came in; what holds of the numbers of their kind holds of them. -/
theorem nums_of {t e : TypeId} {k : IntKind} {r : Reach} {b0 : Nat} {v : Value} {d : DataW H} {p : List MemPlace} (ht : Try.prog.underlying t = some (.slice e)) (he : Try.prog.underlying e = some (.int k)) (hc : Try.prog.cellsOf e = 1) (hv : Value.okWide Try.prog w r b0 t v)
  (h : DataW.Trod enc Try.prog w base (fun _ => true) held t v d p) :
  ∃ (A : Option Addr) (n c : Nat) (xs : List Int), v = .slice A n c ∧ n ≤ c ∧ c ≤ maxLen ∧ xs.length = n ∧ (A = none → c = 0) ∧ (n ≤ 1099511627776 → Sl (fun x => [Value.int k x]) 1 w w.heap.size A n c xs) ∧ ∀ x ∈ xs, (Lit.int k x).wf = true := by
 obtain ⟨A0, n0, c0, rfl⟩ := okWide_slice ht hv
 obtain ⟨fuel, hf⟩ := h
 rcases Go.ChangeShapes.open_ints ht he hc (by simpa [Value.cells] using hf) with ⟨h1, _⟩ | ⟨a, n, c, zs, h1, _, hnc, hcm, hz, _, hcell, hwf⟩
 ·
  simp at h1
  obtain ⟨rfl, rfl, rfl⟩ := h1
  exact ⟨none, 0, 0, [], rfl, Nat.le_refl _, Nat.zero_le _, rfl, fun _ => rfl, fun _ => ⟨rfl, Nat.le_refl _, by omega, fun h => by omega⟩, by simp⟩
 ·
  simp at h1
  obtain ⟨rfl, rfl, rfl⟩ := h1
  simp only [↓reduceIte] at hz
  refine ⟨some a, n0, c0, zs.take n0, rfl, hnc, hcm, by simp; omega, (fun h => by cases h), fun hsm => ⟨by simp; omega, hnc, hsm, fun hn => ?_⟩, fun x hx => hwf x (List.mem_of_mem_take hx)⟩
  obtain ⟨b, off, spot⟩ := a
  have h0 := hcell 0 (by omega)
  have hspot : spot = none := by simpa [Addr.add] using World.cell?_spot h0
  subst hspot
  refine ⟨b, off, rfl, ?_, fun j x hj i u hi => ?_⟩
  ·
   have := World.block_lt_of_cell? w _ h0
   simpa [Addr.add] using this
  ·
   have hjl := (List.getElem?_eq_some_iff.1 hj).1
   have hj2 : zs[j]? = some x := by
    rw [List.getElem?_take] at hj
    split at hj
    ·
     exact hj
    ·
     cases hj
   have hi0 : i = 0 := by
    have := (List.getElem?_eq_some_iff.1 hi).1
    simp at this; exact this
   subst hi0
   have := hcell j (by have := (List.getElem?_eq_some_iff.1 hj2).1; exact this)
   rw [Go.WideShapes.add_plain] at this
   simp at hi
   rw [Nat.mul_one, Nat.add_zero, this, ← hi]
   rw [List.getD_eq_getElem?_getD, hj2]
   rfl

theorem ints_of {r : Reach} {b0 : Nat} {v : Value} {d : DataW H} {p : List MemPlace} (hv : Value.okWide Try.prog w r b0 25 v) (h : DataW.Trod enc Try.prog w base (fun _ => true) held 25 v d p) :
  ∃ (A : Option Addr) (n c : Nat) (xs : List Int), v = .slice A n c ∧ n ≤ c ∧ c ≤ maxLen ∧ xs.length = n ∧ (A = none → c = 0) ∧ (n ≤ 1099511627776 → Sl ics 1 w w.heap.size A n c xs) ∧ ∀ x ∈ xs, (Lit.int .i64 x).wf = true :=
 nums_of Try.underlying25 Try.underlying3 cells3' hv h
end

end Go.Proofs.Ytgimcephbeajlaa
