import Derived.Test.YtcecmphdmpeibaaP1
import Derived.Test.YtcecmphdmpeibaaL9
set_option linter.unusedVariables false
set_option maxRecDepth 100000
namespace Go.Proofs.Ytcecmphdmpeibaa
open Go.ChangeShapes Go.WideShapes Go.ChangeAt Go.RowKit Go.Deep

section
variable {H : Type} {enc : TypeId × Value → H} {w : World} {base : Nat} {held : Bool}

/-- A list of numbers that came in; what holds of the numbers of their kind holds of them. -/
theorem nums_of {t e : TypeId} {k : IntKind} {r : Reach} {b0 : Nat} {v : Value} {d : DataW H} {p : List MemPlace} (ht : Try.prog.underlying t = some (.slice e)) (he : Try.prog.underlying e = some (.int k)) (hc : Try.prog.cellsOf e = 1) (hv : Value.okWide Try.prog w r b0 t v)
    (h : DataW.Trod enc Try.prog w base (fun _ => true) held t v d p) :
    ∃ (A : Option Addr) (n c : Nat) (xs : List Int), v = .slice A n c ∧ n ≤ c ∧ c ≤ maxLen ∧ xs.length = n ∧ (A = none → c = 0) ∧ (n ≤ 1099511627776 → Sl (fun x => [Value.int k x]) 1 w w.heap.size A n c xs) ∧ ∀ x ∈ xs, (Lit.int k x).wf = true := by
  obtain ⟨A0, n0, c0, rfl⟩ := okWide_slice ht hv
  obtain ⟨fuel, hf⟩ := h
  rcases Go.ChangeShapes.open_ints ht he hc (by simpa [Value.cells] using hf) with ⟨h1, _⟩ | ⟨a, n, c, zs, h1, _, hnc, hcm, hz, _, hcell, hwf⟩
  · simp at h1
    obtain ⟨rfl, rfl, rfl⟩ := h1
    exact ⟨none, 0, 0, [], rfl, Nat.le_refl _, Nat.zero_le _, rfl, fun _ => rfl, fun _ => ⟨rfl, Nat.le_refl _, by omega, fun h => by omega⟩, by simp⟩
  · simp at h1
    obtain ⟨rfl, rfl, rfl⟩ := h1
    simp only [↓reduceIte] at hz
    refine ⟨some a, n0, c0, zs.take n0, rfl, hnc, hcm, by simp; omega, (fun h => by cases h), fun hsm => ⟨by simp; omega, hnc, hsm, fun hn => ?_⟩, fun x hx => hwf x (List.mem_of_mem_take hx)⟩
    obtain ⟨b, off, spot⟩ := a
    have h0 := hcell 0 (by omega)
    have hspot : spot = none := by simpa [Addr.add] using World.cell?_spot h0
    subst hspot
    refine ⟨b, off, rfl, ?_, fun j x hj i u hi => ?_⟩
    · have := World.block_lt_of_cell? w _ h0
      simpa [Addr.add] using this
    · have hjl := (List.getElem?_eq_some_iff.1 hj).1
      have hj2 : zs[j]? = some x := by
        rw [List.getElem?_take] at hj
        split at hj
        · exact hj
        · cases hj
      have hi0 : i = 0 := by
        have := (List.getElem?_eq_some_iff.1 hi).1
        simp at this; exact this
      subst hi0
      have := hcell j (by have := (List.getElem?_eq_some_iff.1 hj2).1; exact this)
      rw [Go.WideShapes.add_plain] at this
      simp at hi
      rw [Nat.mul_one, Nat.add_zero, this, ← hi]
      rw [List.getD_eq_getElem?_getD, hj2]
      rfl

theorem cells75 : Try.prog.cellsOf 75 = 1 := by kernel_rfl

theorem ints_of {r : Reach} {b0 : Nat} {v : Value} {d : DataW H} {p : List MemPlace} (hv : Value.okWide Try.prog w r b0 27 v) (h : DataW.Trod enc Try.prog w base (fun _ => true) held 27 v d p) :
    ∃ (A : Option Addr) (n c : Nat) (xs : List Int), v = .slice A n c ∧ n ≤ c ∧ c ≤ maxLen ∧ xs.length = n ∧ (A = none → c = 0) ∧ (n ≤ 1099511627776 → Sl ics 1 w w.heap.size A n c xs) ∧ ∀ x ∈ xs, (Lit.int .i64 x).wf = true :=
  nums_of Try.underlying27 Try.underlying3 cells3' hv h

/-- A word: two bytes. -/
def wcs (x : Int) : List Value := [.int .u16 x]
theorem words_of {r : Reach} {b0 : Nat} {v : Value} {d : DataW H} {p : List MemPlace} (hv : Value.okWide Try.prog w r b0 76 v) (h : DataW.Trod enc Try.prog w base (fun _ => true) held 76 v d p) :
    ∃ (A : Option Addr) (n c : Nat) (xs : List Int), v = .slice A n c ∧ n ≤ c ∧ c ≤ maxLen ∧ xs.length = n ∧ (A = none → c = 0) ∧ (n ≤ 1099511627776 → Sl wcs 1 w w.heap.size A n c xs) ∧ ∀ x ∈ xs, (Lit.int .u16 x).wf = true :=
  nums_of Try.underlying76 Try.underlying75 cells75 hv h

theorem tallyv_of {r : Reach} {b0 : Nat} {v : Value} {d : DataW H} {p : List MemPlace} (hv : Value.okWide Try.prog w r b0 90 v) (h : DataW.Trod enc Try.prog w base (fun _ => true) held 90 v d p) :
    ∃ t : M.Tl, v = .agg #[.int .i64 t.wd, .int .i64 t.fr, .int .i64 t.to, .int .i64 t.ct.lo, .int .i64 t.ct.hi] ∧ True := by
  obtain ⟨cs, rfl, hsz⟩ := okWide_struct Try.underlying90 hv
  obtain ⟨fuel, hf⟩ := h
  obtain ⟨l⟩ := cs
  rw [cells90] at hsz
  obtain ⟨a, b, c, e, g, rfl⟩ := lst5 (l := l) (by simpa using hsz)
  obtain ⟨t, ht⟩ := tally_of hf
  simp [Value.cells, tcs] at ht
  obtain ⟨h0, h1, h2, h3, h4⟩ := ht
  subst h0 h1 h2 h3 h4
  exact ⟨t, rfl, trivial⟩

end

end Go.Proofs.Ytcecmphdmpeibaa
