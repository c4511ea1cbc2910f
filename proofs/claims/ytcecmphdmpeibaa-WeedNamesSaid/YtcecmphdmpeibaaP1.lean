import Derived.Test.YtcecmphdmpeibaaU5
import Derived.Deep.Slices
namespace Go.Proofs.Ytcecmphdmpeibaa
open Go.ChangeShapes Go.WideShapes Go.ChangeAt Go.RowKit Go.Deep

theorem lst2 {α : Type} {l : List α} (h : l.length = 2) : ∃ a b, l = [a, b] := by
  match l, h with
  | [a, b], _ => exact ⟨a, b, rfl⟩
theorem lst4 {α : Type} {l : List α} (h : l.length = 4) : ∃ a b c d, l = [a, b, c, d] := by
  match l, h with
  | [a, b, c, d], _ => exact ⟨a, b, c, d, rfl⟩
theorem lst5 {α : Type} {l : List α} (h : l.length = 5) : ∃ a b c d e, l = [a, b, c, d, e] := by
  match l, h with
  | [a, b, c, d, e], _ => exact ⟨a, b, c, d, e, rfl⟩

section
variable {H : Type} {enc : TypeId × Value → H} {w : World} {base : Nat} {sp : Nat → Bool} {held : Bool}

theorem cells23 : Try.prog.cellsOf 23 = 2 := by kernel_rfl
theorem cells3' : Try.prog.cellsOf 3 = 1 := by kernel_rfl
theorem cells90 : Try.prog.cellsOf 90 = 5 := by kernel_rfl
theorem cells24 : Try.prog.cellsOf 24 = 1 := by kernel_rfl
theorem cells26 : Try.prog.cellsOf 26 = 5 := by kernel_rfl

/-- One number of a struct's cells. -/
theorem num_of {n : Nat} {cs : List Value} {x : Option (DataW H × List MemPlace)} {y : DataW H × List MemPlace} (h : DataW.trod enc Try.prog w base sp held n 3 cs = x) (hx : x = some y) : ∃ z : Int, cs = [.int .i64 z] ∧ Wf z := by
  rw [hx] at h
  obtain ⟨z, h1, _, h3⟩ := DataW.trod_int Try.underlying3 h
  exact ⟨z, h1, h3⟩

/-- A range's cells. -/
theorem range_of {n : Nat} {cs : List Value} {y : DataW H × List MemPlace} (h : DataW.trod enc Try.prog w base sp held n 23 cs = some y) : ∃ r : M.Rg, cs = [.int .i64 r.lo, .int .i64 r.hi] ∧ Wf r.lo ∧ Wf r.hi := by
  obtain ⟨xs, m, _, _, hl, hxl, hf⟩ := DataW.trod_struct Try.underlying23 h
  rw [cells23] at hl
  obtain ⟨a, b, rfl⟩ := lst2 hl
  obtain ⟨x0, x1, rfl⟩ := lst2 (l := xs) hxl
  have h0 := hf 0 { name := "Lo", type := 3, offset := 0, embedded := false, tag := "", pkgPath := "", byteOffset := 0 } rfl
  have h1 := hf 1 { name := "Hi", type := 3, offset := 1, embedded := false, tag := "", pkgPath := "", byteOffset := 8 } rfl
  dsimp only at h0 h1
  rw [cells3'] at h0 h1
  obtain ⟨lo, e0, w0⟩ := num_of h0 rfl
  obtain ⟨hi, e1, w1⟩ := num_of h1 rfl
  simp at e0 e1
  exact ⟨⟨lo, hi⟩, by rw [e0, e1], w0, w1⟩

/-- A tally's cells. -/
theorem tally_of {n : Nat} {cs : List Value} {y : DataW H × List MemPlace} (h : DataW.trod enc Try.prog w base sp held n 90 cs = some y) : ∃ t : M.Tl, cs = tcs t := by
  obtain ⟨xs, m, _, _, hl, hxl, hf⟩ := DataW.trod_struct Try.underlying90 h
  rw [cells90] at hl
  obtain ⟨a, b, c, d, e, rfl⟩ := lst5 hl
  obtain ⟨x0, x1, x2, x3, rfl⟩ := lst4 (l := xs) hxl
  have h0 := hf 0 { name := "Weeder", type := 3, offset := 0, embedded := false, tag := "", pkgPath := "", byteOffset := 0 } rfl
  have h1 := hf 1 { name := "From", type := 3, offset := 1, embedded := false, tag := "", pkgPath := "", byteOffset := 8 } rfl
  have h2 := hf 2 { name := "To", type := 3, offset := 2, embedded := false, tag := "", pkgPath := "", byteOffset := 16 } rfl
  have h3 := hf 3 { name := "Count", type := 23, offset := 3, embedded := false, tag := "", pkgPath := "", byteOffset := 24 } rfl
  dsimp only at h0 h1 h2 h3
  rw [cells3'] at h0 h1 h2
  rw [cells23] at h3
  obtain ⟨v0, e0, _⟩ := num_of h0 rfl
  obtain ⟨v1, e1, _⟩ := num_of h1 rfl
  obtain ⟨v2, e2, _⟩ := num_of h2 rfl
  obtain ⟨r, e3, _⟩ := range_of (h3.trans (rfl : _ = some x3))
  simp at e0 e1 e2 e3
  exact ⟨⟨v0, v1, v2, r⟩, by rw [e0, e1, e2, e3.1, e3.2]; rfl⟩

/-- The elements of a list, one for each index, as a list. -/
theorem pick_list {α : Type} (p : Nat → α → Prop) : ∀ (n : Nat), (∀ k, k < n → ∃ x, p k x) → ∃ xs : List α, xs.length = n ∧ ∀ k x, xs[k]? = some x → p k x
  | 0, _ => ⟨[], rfl, by simp⟩
  | n + 1, h => by
    obtain ⟨xs, h1, h2⟩ := pick_list p n (fun k hk => h k (by omega))
    obtain ⟨x, hx⟩ := h n (by omega)
    refine ⟨xs ++ [x], by simp [h1], fun k y hk => ?_⟩
    by_cases hkn : k < n
    · rw [List.getElem?_append_left (by omega)] at hk
      exact h2 k y hk
    · have : k = n := by
        have := (List.getElem?_eq_some_iff.1 hk).1
        simp at this
        omega
      subst this
      rw [List.getElem?_append_right (by omega), h1, Nat.sub_self] at hk
      simp at hk
      rw [← hk]; exact hx

/-- A slice that came in, of elements of sz cells each. -/
theorem slice_of {α : Type} {enc2 : α → List Value} {t e sz : Nat} (ht : Try.prog.underlying t = some (.slice e)) (hsz : Try.prog.cellsOf e = sz) (hlen : ∀ x, (enc2 x).length = sz) (hpos : 0 < sz) {fuel : Nat} {cs : List Value} {y : DataW H × List MemPlace} (hspare : sp = fun _ => true)
    (hel : ∀ {n : Nat} {cs : List Value} {y : DataW H × List MemPlace}, DataW.trod enc Try.prog w base sp held n e cs = some y → ∃ x : α, cs = enc2 x)
    (h : DataW.trod enc Try.prog w base sp held fuel t cs = some y) :
    ∃ (A : Option Addr) (n c : Nat) (xs : List α), cs = [.slice A n c] ∧ n ≤ c ∧ c ≤ maxLen ∧ xs.length = n ∧ (A = none → c = 0) ∧ (n ≤ 1099511627776 → Sl enc2 sz w w.heap.size A n c xs) := by
  rcases open_slice ht h with ⟨h1, _⟩ | ⟨a, n, c, m, fu, D, Pl, h1, _, hnc, hcm, hm, _, hi⟩
  · exact ⟨none, 0, 0, [], h1, Nat.le_refl _, Nat.zero_le _, rfl, fun _ => rfl, fun _ => ⟨rfl, Nat.le_refl _, by omega, fun h => by omega⟩⟩
  · rw [hspare] at hm
    simp only [↓reduceIte] at hm
    have hp : ∀ k, k < n → ∃ x : α, ∀ (j : Nat) (v : Value), (enc2 x)[j]? = some v → w.cell? (a.add (k * sz + j)) = some v := by
      intro k hk
      obtain ⟨cs', hc, ht'⟩ := hi k (by omega)
      obtain ⟨x, rfl⟩ := hel ht'
      rw [hsz] at hc
      obtain ⟨_, _, hat⟩ := World.cells?_some hc
      refine ⟨x, fun j v hj => ?_⟩
      have hjl : j < sz := by have := (List.getElem?_eq_some_iff.1 hj).1; rw [hlen] at this; exact this
      have := hat j hjl
      rw [add_add] at this
      rw [this]; exact hj
    obtain ⟨xs, hx1, hx2⟩ := pick_list _ n hp
    refine ⟨some a, n, c, xs, h1, hnc, hcm, hx1, (fun h => by cases h), fun hsm => ⟨hx1, hnc, hsm, fun hn => ?_⟩⟩
    obtain ⟨b, off, spot⟩ := a
    have hx0 : xs[0]? = some (xs[0]'(by omega)) := List.getElem?_eq_getElem _
    have hv : (enc2 (xs[0]'(by omega)))[0]? = some ((enc2 (xs[0]'(by omega)))[0]'(by rw [hlen]; exact hpos)) := List.getElem?_eq_getElem _
    have h0 := hx2 0 _ hx0 0 _ hv
    have hspot : spot = none := by simpa [Addr.add] using World.cell?_spot h0
    subst hspot
    refine ⟨b, off, rfl, ?_, fun k x hk j v hj => ?_⟩
    · have := World.block_lt_of_cell? w _ h0
      simpa [Addr.add] using this
    · have := hx2 k x hk j v hj
      rw [Go.WideShapes.add_plain] at this
      rw [Nat.add_assoc]; exact this

set_option maxRecDepth 100000 in
/-- A field that came in. -/
theorem field_of {r : Reach} {b0 : Nat} {v : Value} {d : DataW H} {p : List MemPlace} (hv : Value.okWide Try.prog w r b0 26 v) (h : DataW.Trod enc Try.prog w base (fun _ => true) held 26 v d p) :
    ∃ (f : M.Fl) (A : Option Addr) (n c : Nat), v = .agg #[.int .i64 f.rows, .int .i64 f.wds, .int .i64 f.lf.lo, .int .i64 f.lf.hi, .slice A n c] ∧ f.ts.length = n ∧ n ≤ c ∧ c ≤ maxLen ∧ (A = none → c = 0) ∧ Wf f.rows ∧ Wf f.wds ∧ Wf f.lf.lo ∧ Wf f.lf.hi ∧ (n ≤ 1099511627776 → Sl tcs 5 w w.heap.size A n c f.ts) := by
  obtain ⟨cs, rfl, hsz⟩ := okWide_struct Try.underlying26 hv
  obtain ⟨fuel, hf0⟩ := h
  obtain ⟨xs, m, _, _, _, hxl, hf⟩ := DataW.trod_struct Try.underlying26 hf0
  rw [cells26] at hsz
  obtain ⟨l⟩ := cs
  obtain ⟨a, b, c, e, g, rfl⟩ := lst5 (l := l) (by simpa using hsz)
  obtain ⟨x0, x1, x2, x3, rfl⟩ := lst4 (l := xs) hxl
  have h0 := hf 0 { name := "Rows", type := 3, offset := 0, embedded := false, tag := "", pkgPath := "", byteOffset := 0 } rfl
  have h1 := hf 1 { name := "Weeders", type := 3, offset := 1, embedded := false, tag := "", pkgPath := "", byteOffset := 8 } rfl
  have h2 := hf 2 { name := "Left", type := 23, offset := 2, embedded := false, tag := "", pkgPath := "", byteOffset := 16 } rfl
  have h3 := hf 3 { name := "Tallies", type := 24, offset := 4, embedded := false, tag := "", pkgPath := "", byteOffset := 32 } rfl
  dsimp only at h0 h1 h2 h3
  rw [cells3'] at h0 h1
  rw [cells23] at h2
  rw [cells24] at h3
  obtain ⟨v0, e0, w0⟩ := num_of h0 rfl
  obtain ⟨v1, e1, w1⟩ := num_of h1 rfl
  obtain ⟨r, e2, w2, w3⟩ := range_of (h2.trans (rfl : _ = some x2))
  obtain ⟨A, n, c', ts, e3, hnc, hcm, htl, hA, hsl⟩ := slice_of (sp := fun _ => true) (enc2 := tcs) Try.underlying24 cells90 (fun _ => rfl) (by decide) rfl (fun h => tally_of h) (h3.trans (rfl : _ = some x3))
  simp [Value.cells] at e0 e1 e2 e3
  obtain ⟨e2, e2'⟩ := e2
  subst e0 e1 e2 e2' e3
  exact ⟨⟨v0, v1, r, ts⟩, A, n, c', rfl, htl, hnc, hcm, hA, w0, w1, w2, w3, hsl⟩

end

end Go.Proofs.Ytcecmphdmpeibaa
