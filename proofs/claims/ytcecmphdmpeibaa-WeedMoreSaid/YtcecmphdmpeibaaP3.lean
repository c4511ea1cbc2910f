import Derived.Test.YtcecmphdmpeibaaP2
import Derived.Test.YtcecmphdmpeibaaL38
import Derived.SizedLaws
set_option linter.unusedVariables false
set_option maxRecDepth 100000
namespace Go.Proofs.Ytcecmphdmpeibaa
open Go.ChangeShapes Go.WideShapes Go.ChangeAt Go.RowKit Go.Deep

section
variable {H : Type} {enc : TypeId × Value → H} {w : World} {base : Nat} {sp : Nat → Bool} {held : Bool}

/-- A slice that came in, of elements of sz cells each, of any length. -/
theorem slice_of0 {α : Type} {enc2 : α → List Value} {t e sz : Nat} (ht : Try.prog.underlying t = some (.slice e)) (hsz : Try.prog.cellsOf e = sz) (hlen : ∀ x, (enc2 x).length = sz) (hpos : 0 < sz) {fuel : Nat} {cs : List Value} {y : DataW H × List MemPlace} (hspare : sp = fun _ => true)
    (hel : ∀ {n : Nat} {cs : List Value} {y : DataW H × List MemPlace}, DataW.trod enc Try.prog w base sp held n e cs = some y → ∃ x : α, cs = enc2 x)
    (h : DataW.trod enc Try.prog w base sp held fuel t cs = some y) :
    ∃ (A : Option Addr) (n c : Nat) (xs : List α), cs = [.slice A n c] ∧ n ≤ c ∧ Sl0 enc2 sz w w.heap.size A n xs ∧ ((y.1 = .nil ∧ c = 0) ∨ ∃ es rs, y.1 = .slice es rs ∧ es.length + rs.length = c) := by
  rcases open_slice ht h with ⟨h1, hx⟩ | ⟨a, n, c, m, fu, D, Pl, h1, _, hnc, hcm, hm, hx, hi⟩
  · exact ⟨none, 0, 0, [], h1, Nat.le_refl _, ⟨rfl, fun h => by omega⟩, .inl ⟨by rw [hx], rfl⟩⟩
  · rw [hspare] at hm
    simp only [↓reduceIte] at hm
    have hp : ∀ k, k < n → ∃ x : α, ∀ (j : Nat) (v : Value), (enc2 x)[j]? = some v → w.cell? (a.add (k * sz + j)) = some v := by
      intro k hk
      obtain ⟨cs', hc, ht'⟩ := hi k (by omega)
      obtain ⟨x, rfl⟩ := hel ht'
      rw [hsz] at hc
      obtain ⟨_, _, hat⟩ := World.cells?_some hc
      refine ⟨x, fun j v hj => ?_⟩
      have hjl : j < sz := by have := (List.getElem?_eq_some_iff.1 hj).1; rw [hlen] at this; exact this
      have := hat j hjl
      rw [add_add] at this
      rw [this]; exact hj
    obtain ⟨xs, hx1, hx2⟩ := pick_list _ n hp
    refine ⟨some a, n, c, xs, h1, hnc, ⟨hx1, fun hn => ?_⟩, .inr ⟨_, _, by rw [hx], by simp; omega⟩⟩
    obtain ⟨b, off, spot⟩ := a
    have hx0 : xs[0]? = some (xs[0]'(by omega)) := List.getElem?_eq_getElem _
    have hv : (enc2 (xs[0]'(by omega)))[0]? = some ((enc2 (xs[0]'(by omega)))[0]'(by rw [hlen]; exact hpos)) := List.getElem?_eq_getElem _
    have h0 := hx2 0 _ hx0 0 _ hv
    have hspot : spot = none := by simpa [Addr.add] using World.cell?_spot h0
    subst hspot
    refine ⟨b, off, rfl, ?_, fun k x hk j v hj => ?_⟩
    · have := World.block_lt_of_cell? w _ h0
      simpa [Addr.add] using this
    · have := hx2 k x hk j v hj
      rw [Go.WideShapes.add_plain] at this
      rw [Nat.add_assoc]; exact this

/-- A field that came in, with tallies of any number. -/
theorem field_of0 {r : Reach} {b0 : Nat} {v : Value} {d : DataW H} {p : List MemPlace} (hv : Value.okWide Try.prog w r b0 26 v) (h : DataW.Trod enc Try.prog w base (fun _ => true) held 26 v d p) :
    ∃ (f : M.Fl) (A : Option Addr) (n c : Nat), v = .agg #[.int .i64 f.rows, .int .i64 f.wds, .int .i64 f.lf.lo, .int .i64 f.lf.hi, .slice A n c] ∧ n ≤ c ∧ Wf f.rows ∧ Wf f.wds ∧ Wf f.lf.lo ∧ Wf f.lf.hi ∧ Sl0 tcs 5 w w.heap.size A n f.ts ∧
      ∃ e0 e1 e2 e3, d = .agg [e0, e1, e2, e3] ∧ ((e3 = .nil ∧ c = 0) ∨ ∃ es rs, e3 = .slice es rs ∧ es.length + rs.length = c) := by
  obtain ⟨cs, rfl, hsz⟩ := okWide_struct Try.underlying26 hv
  obtain ⟨fuel, hf0⟩ := h
  obtain ⟨xs, m, _, hd, _, hxl, hf⟩ := DataW.trod_struct Try.underlying26 hf0
  rw [cells26] at hsz
  obtain ⟨l⟩ := cs
  obtain ⟨a, b, c, e, g, rfl⟩ := lst5 (l := l) (by simpa using hsz)
  obtain ⟨x0, x1, x2, x3, rfl⟩ := lst4 (l := xs) hxl
  have h0 := hf 0 { name := "Rows", type := 3, offset := 0, embedded := false, tag := "", pkgPath := "", byteOffset := 0 } rfl
  have h1 := hf 1 { name := "Weeders", type := 3, offset := 1, embedded := false, tag := "", pkgPath := "", byteOffset := 8 } rfl
  have h2 := hf 2 { name := "Left", type := 23, offset := 2, embedded := false, tag := "", pkgPath := "", byteOffset := 16 } rfl
  have h3 := hf 3 { name := "Tallies", type := 24, offset := 4, embedded := false, tag := "", pkgPath := "", byteOffset := 32 } rfl
  dsimp only at h0 h1 h2 h3
  rw [cells3'] at h0 h1
  rw [cells23] at h2
  rw [cells24] at h3
  obtain ⟨v0, e0, w0⟩ := num_of h0 rfl
  obtain ⟨v1, e1, w1⟩ := num_of h1 rfl
  obtain ⟨r, e2, w2, w3⟩ := range_of (h2.trans (rfl : _ = some x2))
  obtain ⟨A, n, c', ts, e3, hnc, hsl, hsz3⟩ := slice_of0 (sp := fun _ => true) (enc2 := tcs) Try.underlying24 cells90 (fun _ => rfl) (by decide) rfl (fun h => tally_of h) (h3.trans (rfl : _ = some x3))
  simp [Value.cells] at e0 e1 e2 e3
  obtain ⟨e2, e2'⟩ := e2
  subst e0 e1 e2 e2' e3
  simp only [List.map_cons, List.map_nil, Prod.mk.injEq] at hd
  exact ⟨⟨v0, v1, r, ts⟩, A, n, c', rfl, hnc, w0, w1, w2, w3, hsl, _, _, _, _, hd.1, hsz3⟩

theorem bytes90 : Try.prog.bytesOf 90 = 40 := by kernel_rfl

/-- How many tallies a field of some data can have room for. -/
theorem field_size {ts : List TypeId} {ds : List (DataW H)} (hsz : (DataW.weightsEach Try.prog ts ds).all (· ≤ reachBytes) = true) {j : Nat} (ht : ts[j]? = some 26) {d : DataW H} (hd : ds[j]? = some d) {c : Nat}
    (hw : ∃ e0 e1 e2 e3, d = .agg [e0, e1, e2, e3] ∧ ((e3 = .nil ∧ c = 0) ∨ ∃ es rs, e3 = .slice es rs ∧ es.length + rs.length = c)) : c ≤ 3518437208780 := by
  obtain ⟨e0, e1, e2, e3, rfl, hw⟩ := hw
  rcases hw with ⟨_, rfl⟩ | ⟨es, rs, rfl, rfl⟩
  · omega
  · have hm : (es.length + rs.length) * Try.prog.bytesOf 90 ∈ (DataW.agg [e0, e1, e2, .slice es rs]).weights Try.prog 26 := by
      simp [DataW.weights, Try.underlying26, DataW.weightsEach, Try.underlying24]
    have h1 : (es.length + rs.length) * Try.prog.bytesOf 90 ≤ reachBytes := by
      have := List.all_eq_true.1 hsz _ (DataW.weights_mem_each ht hd _ hm)
      simpa using this
    rw [bytes90] at h1
    have h2 : reachBytes = 140737488351232 := by decide
    omega

end

end Go.Proofs.Ytcecmphdmpeibaa
