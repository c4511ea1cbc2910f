import Derived.Test.YtgimcephbeajlaaP1
set_option linter.unusedVariables false
set_option maxRecDepth 100000
namespace Go.Proofs.Ytgimcephbeajlaa
open Go.ChangeShapes Go.WideShapes Go.ChangeAt Go.RowKit Go.Deep

theorem cellsU16 : Try.prog.cellsOf 81 = 1 := by kernel_rfl
section
variable {H : Type} {enc : TypeId × Value → H} {w : World} {base : Nat} {held : Bool}

/-- Words that came in, of any number. -/
theorem words_of0 {r : Reach} {b0 : Nat} {v : Value} {d : DataW H} {p : List MemPlace} (hv : Value.okWide Try.prog w r b0 82 v) (h : DataW.Trod enc Try.prog w base (fun _ => true) held 82 v d p) :
  ∃ (A : Option Addr) (n c : Nat) (xs : List Int), v = .slice A n c ∧ n ≤ c ∧ c ≤ maxLen ∧ Sl0 wcs 1 w w.heap.size A n xs ∧ ∀ x ∈ xs, 0 ≤ x ∧ x < 65536 := by
 obtain ⟨A0, n0, c0, rfl⟩ := okWide_slice Try.underlying82 hv
 obtain ⟨fuel, hf⟩ := h
 rcases Go.ChangeShapes.open_ints Try.underlying82 Try.underlying81 cellsU16 (by simpa [Value.cells] using hf) with ⟨h1, _⟩ | ⟨a, n, c, zs, h1, _, hnc, hcm, hz, _, hcell, hwf⟩
 ·
  simp at h1
  obtain ⟨rfl, rfl, rfl⟩ := h1
  exact ⟨none, 0, 0, [], rfl, Nat.le_refl _, Nat.zero_le _, ⟨rfl, fun h => by omega⟩, by simp⟩
 ·
  simp at h1
  obtain ⟨rfl, rfl, rfl⟩ := h1
  simp only [↓reduceIte] at hz
  refine ⟨some a, n0, c0, zs.take n0, rfl, hnc, hcm, ⟨by simp; omega, fun hn => ?_⟩, fun x hx => u16_bd (hwf x (List.mem_of_mem_take hx))⟩
  obtain ⟨b, off, spot⟩ := a
  have h0 := hcell 0 (by omega)
  have hspot : spot = none := by simpa [Addr.add] using World.cell?_spot h0
  subst hspot
  refine ⟨b, off, rfl, ?_, fun j x hj i u hi => ?_⟩
  ·
   have := World.block_lt_of_cell? w _ h0
   simpa [Addr.add] using this
  ·
   have hj2 : zs[j]? = some x := by
    rw [List.getElem?_take] at hj
    split at hj
    ·
     exact hj
    ·
     cases hj
   have hi0 : i = 0 := by
    have := (List.getElem?_eq_some_iff.1 hi).1
    simp [wcs] at this; exact this
   subst hi0
   have := hcell j (by have := (List.getElem?_eq_some_iff.1 hj2).1; exact this)
   rw [Go.WideShapes.add_plain] at this
   simp [wcs] at hi
   rw [Nat.mul_one, Nat.add_zero, this, ← hi]
   rw [List.getD_eq_getElem?_getD, hj2]
   rfl
end

end Go.Proofs.Ytgimcephbeajlaa
