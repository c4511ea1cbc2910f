import Derived.Test.YtffbkbcjddigdaaP5
import Derived.SizedLaws
set_option linter.unusedVariables false
set_option maxRecDepth 100000
namespace Go.Proofs.Ytffbkbcjddigdaa
open Go.ChangeShapes Go.WideShapes Go.ChangeAt Go.RowKit Go.Deep

section
variable {H : Type} {enc : TypeId × Value → H} {w : World} {base : Nat} {sp : Nat → Bool} {held : Bool}

/-- A slice that came in, of elements of sz cells each, of any length. -/
theorem slice_of0 {α : Type} {enc2 : α → List Value} {t e sz : Nat} (ht : Try.prog.underlying t = some (.slice e)) (hsz : Try.prog.cellsOf e = sz) (hlen : ∀ x, (enc2 x).length = sz) (hpos : 0 < sz) {fuel : Nat} {cs : List Value} {y : DataW H × List MemPlace} (hspare : sp = fun _ => true)
  (hel : ∀ {n : Nat} {cs : List Value} {y : DataW H × List MemPlace}, DataW.trod enc Try.prog w base sp held n e cs = some y → ∃ x : α, cs = enc2 x)
  (h : DataW.trod enc Try.prog w base sp held fuel t cs = some y) :
  ∃ (A : Option Addr) (n c : Nat) (xs : List α), cs = [.slice A n c] ∧ n ≤ c ∧ Sl0 enc2 sz w w.heap.size A n xs ∧ ((y.1 = .nil ∧ c = 0) ∨ ∃ es rs, y.1 = .slice es rs ∧ es.length + rs.length = c) := by
 rcases open_slice ht h with ⟨h1, hx⟩ | ⟨a, n, c, m, fu, D, Pl, h1, _, hnc, hcm, hm, hx, hi⟩
 ·
  exact ⟨none, 0, 0, [], h1, Nat.le_refl _, ⟨rfl, fun h => by omega⟩, .inl ⟨by rw [hx], rfl⟩⟩
 ·
  rw [hspare] at hm
  simp only [↓reduceIte] at hm
  have hp : ∀ k, k < n → ∃ x : α, ∀ (j : Nat) (v : Value), (enc2 x)[j]? = some v → w.cell? (a.add (k * sz + j)) = some v := by
   intro k hk
   obtain ⟨cs', hc, ht'⟩ := hi k (by omega)
   obtain ⟨x, rfl⟩ := hel ht'
   rw [hsz] at hc
   obtain ⟨_, _, hat⟩ := World.cells?_some hc
   refine ⟨x, fun j v hj => ?_⟩
   have hjl : j < sz := by have := (List.getElem?_eq_some_iff.1 hj).1; rw [hlen] at this; exact this
   have := hat j hjl
   rw [add_add] at this
   rw [this]; exact hj
  obtain ⟨xs, hx1, hx2⟩ := pick_list _ n hp
  refine ⟨some a, n, c, xs, h1, hnc, ⟨hx1, fun hn => ?_⟩, .inr ⟨_, _, by rw [hx], by simp; omega⟩⟩
  obtain ⟨b, off, spot⟩ := a
  have hx0 : xs[0]? = some (xs[0]'(by omega)) := List.getElem?_eq_getElem _
  have hv : (enc2 (xs[0]'(by omega)))[0]? = some ((enc2 (xs[0]'(by omega)))[0]'(by rw [hlen]; exact hpos)) := List.getElem?_eq_getElem _
  have h0 := hx2 0 _ hx0 0 _ hv
  have hspot : spot = none := by simpa [Addr.add] using World.cell?_spot h0
  subst hspot
  refine ⟨b, off, rfl, ?_, fun k x hk j v hj => ?_⟩
  ·
   have := World.block_lt_of_cell? w _ h0
   simpa [Addr.add] using this
  ·
   have := hx2 k x hk j v hj
   rw [Go.WideShapes.add_plain] at this
   rw [Nat.add_assoc]; exact this

set_option maxRecDepth 100000 in
/-- A field that came in, with any number of Wets. -/
theorem field_ofW {r : Reach} {b0 : Nat} {v : Value} {d : DataW H} {p : List MemPlace} (hv : Value.okWide Try.prog w r b0 26 v) (h : DataW.Trod enc Try.prog w base (fun _ => true) held 26 v d p) :
  ∃ (f : M.Cf) (Ag Aw Ab Ac Al : Option Addr) (ng cg nw cw nb cb nc cc nl cl : Nat), v = .agg #[.int .i64 f.last, .slice Ag ng cg, .slice Aw nw cw, .slice Ab nb cb, .slice Ac nc cc, .int .i64 f.ripe, .int .i64 f.late, .int .i64 f.trod, .slice Al nl cl] ∧ -9223372036854775808 ≤ f.last ∧ (f.gr.length = ng ∧ f.wet.length = nw ∧ f.base.length = nb ∧ f.crops.length = nc ∧ f.looks.length = nl) ∧ (M.small ng nw nb nc nl → CS w w.heap.size f Ag Aw Ab Ac Al ng cg nw cw nb cb nc cc nl cl) ∧ nw ≤ cw ∧ Sl0 ics 1 w w.heap.size Aw nw f.wet ∧ ∃ e0 e1 e2 e3 e4 e5 e6 e7 e8, d = .agg [e0, e1, e2, e3, e4, e5, e6, e7, e8] ∧ ((e2 = .nil ∧ cw = 0) ∨ ∃ es rs, e2 = .slice es rs ∧ es.length + rs.length = cw) := by
 obtain ⟨cs, rfl, hsz⟩ := okWide_struct Try.underlying26 hv
 obtain ⟨fuel, hf0⟩ := h
 obtain ⟨xs, m, _, hd, _, hxl, hf⟩ := DataW.trod_struct Try.underlying26 hf0
 rw [cellsFd] at hsz
 obtain ⟨l⟩ := cs
 obtain ⟨u0, u1, u2, u3, u4, u5, u6, u7, u8, rfl⟩ := lst9 (l := l) (by simpa using hsz)
 obtain ⟨x0, x1, x2, x3, x4, x5, x6, x7, x8, rfl⟩ := lst9 (l := xs) hxl
 have h0 := hf 0 { name := "Last", type := 3, offset := 0, embedded := false, tag := "", pkgPath := "", byteOffset := 0 } rfl
 have h1 := hf 1 { name := "Growth", type := 22, offset := 1, embedded := false, tag := "", pkgPath := "", byteOffset := 8 } rfl
 have h2 := hf 2 { name := "Wet", type := 23, offset := 2, embedded := false, tag := "", pkgPath := "", byteOffset := 32 } rfl
 have h3 := hf 3 { name := "Base", type := 23, offset := 3, embedded := false, tag := "", pkgPath := "", byteOffset := 56 } rfl
 have h4 := hf 4 { name := "Crops", type := 23, offset := 4, embedded := false, tag := "", pkgPath := "", byteOffset := 80 } rfl
 have h5 := hf 5 { name := "Ripe", type := 3, offset := 5, embedded := false, tag := "", pkgPath := "", byteOffset := 104 } rfl
 have h6 := hf 6 { name := "Late", type := 3, offset := 6, embedded := false, tag := "", pkgPath := "", byteOffset := 112 } rfl
 have h7 := hf 7 { name := "Trod", type := 3, offset := 7, embedded := false, tag := "", pkgPath := "", byteOffset := 120 } rfl
 have h8 := hf 8 { name := "Looks", type := 24, offset := 8, embedded := false, tag := "", pkgPath := "", byteOffset := 128 } rfl
 dsimp only at h0 h1 h2 h3 h4 h5 h6 h7 h8
 rw [cells3'] at h0 h5 h6 h7
 rw [cellsSR] at h1
 rw [cellsSI] at h2 h3 h4
 rw [cellsSL] at h8
 obtain ⟨v0, e0, w0⟩ := num_of h0 rfl
 obtain ⟨v5, e5, w5⟩ := num_of h5 rfl
 obtain ⟨v6, e6, w6⟩ := num_of h6 rfl
 obtain ⟨v7, e7, w7⟩ := num_of h7 rfl
 obtain ⟨Ag, ng, cg, tg, e1, _, _, l1, _, s1⟩ := slice_of (sp := fun _ => true) (enc2 := rgc) Try.underlying22 cells23 (fun _ => rfl) (by decide) rfl (fun h => by obtain ⟨r, hr, _⟩ := range_of h; exact ⟨r, hr⟩) (h1.trans (rfl : _ = some x1))
 obtain ⟨Aw, nw, cw, tw, e2, hnc, s2, hsz2⟩ := slice_of0 (sp := fun _ => true) (enc2 := ics) Try.underlying23 cells3' (fun _ => rfl) (by decide) rfl (fun h => int_of h) (h2.trans (rfl : _ = some x2))
 obtain ⟨Ab, nb, cb, tb, e3, _, _, l3, _, s3⟩ := slice_of (sp := fun _ => true) (enc2 := ics) Try.underlying23 cells3' (fun _ => rfl) (by decide) rfl (fun h => int_of h) (h3.trans (rfl : _ = some x3))
 obtain ⟨Ac, nc, cc, tc, e4, _, _, l4, _, s4⟩ := slice_of (sp := fun _ => true) (enc2 := ics) Try.underlying23 cells3' (fun _ => rfl) (by decide) rfl (fun h => int_of h) (h4.trans (rfl : _ = some x4))
 obtain ⟨Al, nl, cl, tl, e8, _, _, l8, _, s8⟩ := slice_of (sp := fun _ => true) (enc2 := lkc) Try.underlying24 cellsLk (fun _ => rfl) (by decide) rfl (fun h => look_of h) (h8.trans (rfl : _ = some x8))
 simp only [List.map_cons, List.map_nil, Prod.mk.injEq] at hd
 simp [Value.cells] at e0 e1 e2 e3 e4 e5 e6 e7 e8
 subst e0 e1 e2 e3 e4 e5 e6 e7 e8
 refine ⟨⟨v0, tg, tw, tb, tc, v5, v6, v7, tl⟩, Ag, Aw, Ab, Ac, Al, ng, cg, nw, cw, nb, cb, nc, cc, nl, cl, rfl, (i64_bd w0).1, ⟨l1, s2.len, l3, l4, l8⟩, fun hs => ?_, hnc, s2, _, _, _, _, _, _, _, _, _, hd.1, hsz2⟩
 obtain ⟨q0, q1, q2, q3, q4⟩ := hs
 exact ⟨s1 (by omega), s2.sl hnc (by omega), s3 (by omega), s4 (by omega), s8 (by omega)⟩

theorem bytes3 : Try.prog.bytesOf 3 = 8 := by kernel_rfl
/-- How many Wets a field of some data can have room for. -/
theorem wets_size {ts : List TypeId} {ds : List (DataW H)} (hsz : (DataW.weightsEach Try.prog ts ds).all (· ≤ reachBytes) = true) {j : Nat} (ht : ts[j]? = some 26) {d : DataW H} (hd : ds[j]? = some d) {c : Nat}
  (hw : ∃ e0 e1 e2 e3 e4 e5 e6 e7 e8, d = .agg [e0, e1, e2, e3, e4, e5, e6, e7, e8] ∧ ((e2 = .nil ∧ c = 0) ∨ ∃ es rs, e2 = .slice es rs ∧ es.length + rs.length = c)) : c ≤ 17592186044416 := by
 obtain ⟨e0, e1, e2, e3, e4, e5, e6, e7, e8, rfl, hw⟩ := hw
 rcases hw with ⟨_, rfl⟩ | ⟨es, rs, rfl, rfl⟩
 ·
  omega
 ·
  have hm : (es.length + rs.length) * Try.prog.bytesOf 3 ∈ (DataW.agg [e0, e1, .slice es rs, e3, e4, e5, e6, e7, e8]).weights Try.prog 26 := by
   simp [DataW.weights, Try.underlying26, DataW.weightsEach, Try.underlying23]
  have h1 : (es.length + rs.length) * Try.prog.bytesOf 3 ≤ reachBytes := by
   have := List.all_eq_true.1 hsz _ (DataW.weights_mem_each ht hd _ hm)
   simpa using this
  rw [bytes3] at h1
  have h2 : reachBytes = 140737488351232 := by decide
  omega
end

end Go.Proofs.Ytffbkbcjddigdaa
