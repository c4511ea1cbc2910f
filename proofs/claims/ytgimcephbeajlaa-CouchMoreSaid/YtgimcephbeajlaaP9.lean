import Derived.Test.YtgimcephbeajlaaP1
import Derived.SizedLaws
set_option linter.unusedVariables false
set_option maxRecDepth 100000
namespace Go.Proofs.Ytgimcephbeajlaa
open Go.ChangeShapes Go.WideShapes Go.ChangeAt Go.RowKit Go.Deep

section
variable {H : Type} {enc : TypeId × Value → H} {w : World} {base : Nat} {sp : Nat → Bool} {held : Bool}

/-- A slice that came in, of elements of sz cells each, of any length. -/
theorem slice_of0 {α : Type} {enc2 : α → List Value} {t e sz : Nat} (ht : Try.prog.underlying t = some (.slice e)) (hsz : Try.prog.cellsOf e = sz) (hlen : ∀ x, (enc2 x).length = sz) (hpos : 0 < sz) {fuel : Nat} {cs : List Value} {y : DataW H × List MemPlace} (hspare : sp = fun _ => true)
  (hel : ∀ {n : Nat} {cs : List Value} {y : DataW H × List MemPlace}, DataW.trod enc Try.prog w base sp held n e cs = some y → ∃ x : α, cs = enc2 x)
  (h : DataW.trod enc Try.prog w base sp held fuel t cs = some y) :
  ∃ (A : Option Addr) (n c : Nat) (xs : List α), cs = [.slice A n c] ∧ n ≤ c ∧ Sl0 enc2 sz w w.heap.size A n xs ∧ ((y.1 = .nil ∧ c = 0) ∨ ∃ es rs, y.1 = .slice es rs ∧ es.length + rs.length = c) := by
 rcases open_slice ht h with ⟨h1, hx⟩ | ⟨a, n, c, m, fu, D, Pl, h1, _, hnc, hcm, hm, hx, hi⟩
 ·
  exact ⟨none, 0, 0, [], h1, Nat.le_refl _, ⟨rfl, fun h => by omega⟩, .inl ⟨by rw [hx], rfl⟩⟩
 ·
  rw [hspare] at hm
  simp only [↓reduceIte] at hm
  have hp : ∀ k, k < n → ∃ x : α, ∀ (j : Nat) (v : Value), (enc2 x)[j]? = some v → w.cell? (a.add (k * sz + j)) = some v := by
   intro k hk
   obtain ⟨cs', hc, ht'⟩ := hi k (by omega)
   obtain ⟨x, rfl⟩ := hel ht'
   rw [hsz] at hc
   obtain ⟨_, _, hat⟩ := World.cells?_some hc
   refine ⟨x, fun j v hj => ?_⟩
   have hjl : j < sz := by have := (List.getElem?_eq_some_iff.1 hj).1; rw [hlen] at this; exact this
   have := hat j hjl
   rw [add_add] at this
   rw [this]; exact hj
  obtain ⟨xs, hx1, hx2⟩ := pick_list _ n hp
  refine ⟨some a, n, c, xs, h1, hnc, ⟨hx1, fun hn => ?_⟩, .inr ⟨_, _, by rw [hx], by simp; omega⟩⟩
  obtain ⟨b, off, spot⟩ := a
  have hx0 : xs[0]? = some (xs[0]'(by omega)) := List.getElem?_eq_getElem _
  have hv : (enc2 (xs[0]'(by omega)))[0]? = some ((enc2 (xs[0]'(by omega)))[0]'(by rw [hlen]; exact hpos)) := List.getElem?_eq_getElem _
  have h0 := hx2 0 _ hx0 0 _ hv
  have hspot : spot = none := by simpa [Addr.add] using World.cell?_spot h0
  subst hspot
  refine ⟨b, off, rfl, ?_, fun k x hk j v hj => ?_⟩
  ·
   have := World.block_lt_of_cell? w _ h0
   simpa [Addr.add] using this
  ·
   have := hx2 k x hk j v hj
   rw [Go.WideShapes.add_plain] at this
   rw [Nat.add_assoc]; exact this

set_option maxRecDepth 100000 in
/-- A heap that came in, with any number of readings. -/
theorem heap_ofR {r : Reach} {b0 : Nat} {v : Value} {d : DataW H} {p : List MemPlace} (hv : Value.okWide Try.prog w r b0 28 v) (h : DataW.Trod enc Try.prog w base (fun _ => true) held 28 v d p) :
  ∃ (f : M.Cf) (Aw At Ar : Option Addr) (nw cw nt ct nr cr : Nat), v = .agg #[.int .i64 f.last, .int .i64 f.size, .int .i64 f.cool, .int .i64 f.die, .int .i64 f.burn, .int .i64 f.st.lo, .int .i64 f.st.hi, .slice Aw nw cw, .slice At nt ct, .slice Ar nr cr] ∧ -9223372036854775808 ≤ f.last ∧ (f.wet.length = nw ∧ f.turns.length = nt ∧ f.rds.length = nr) ∧ (M.small nw nt nr → CS w w.heap.size f Aw At Ar nw cw nt ct nr cr) ∧ nr ≤ cr ∧ Sl0 rdc 3 w w.heap.size Ar nr f.rds ∧ ∃ e0 e1 e2 e3 e4 e5 e6 e7 e8, d = .agg [e0, e1, e2, e3, e4, e5, e6, e7, e8] ∧ ((e8 = .nil ∧ cr = 0) ∨ ∃ es rs, e8 = .slice es rs ∧ es.length + rs.length = cr) := by
 obtain ⟨cs, rfl, hsz⟩ := okWide_struct Try.underlying28 hv
 obtain ⟨fuel, hf0⟩ := h
 obtain ⟨xs, m, _, hd, _, hxl, hf⟩ := DataW.trod_struct Try.underlying28 hf0
 rw [cellsFd] at hsz
 obtain ⟨l⟩ := cs
 obtain ⟨u0, u1, u2, u3, u4, u5, u6, u7, u8, u9, rfl⟩ := lst10 (l := l) (by simpa using hsz)
 obtain ⟨x0, x1, x2, x3, x4, x5, x6, x7, x8, rfl⟩ := lst9 (l := xs) hxl
 have h0 := hf 0 { name := "Last", type := 3, offset := 0, embedded := false, tag := "", pkgPath := "", byteOffset := 0 } rfl
 have h1 := hf 1 { name := "Size", type := 3, offset := 1, embedded := false, tag := "", pkgPath := "", byteOffset := 8 } rfl
 have h2 := hf 2 { name := "Cool", type := 3, offset := 2, embedded := false, tag := "", pkgPath := "", byteOffset := 16 } rfl
 have h3 := hf 3 { name := "Die", type := 3, offset := 3, embedded := false, tag := "", pkgPath := "", byteOffset := 24 } rfl
 have h4 := hf 4 { name := "Burn", type := 3, offset := 4, embedded := false, tag := "", pkgPath := "", byteOffset := 32 } rfl
 have h5 := hf 5 { name := "Start", type := 23, offset := 5, embedded := false, tag := "", pkgPath := "", byteOffset := 40 } rfl
 have h6 := hf 6 { name := "Wet", type := 24, offset := 7, embedded := false, tag := "", pkgPath := "", byteOffset := 56 } rfl
 have h7 := hf 7 { name := "Turns", type := 25, offset := 8, embedded := false, tag := "", pkgPath := "", byteOffset := 80 } rfl
 have h8 := hf 8 { name := "Readings", type := 26, offset := 9, embedded := false, tag := "", pkgPath := "", byteOffset := 104 } rfl
 dsimp only at h0 h1 h2 h3 h4 h5 h6 h7 h8
 rw [cells3'] at h0 h1 h2 h3 h4
 rw [cells23] at h5
 rw [cellsSR] at h6
 rw [cellsSI] at h7
 rw [cellsSL] at h8
 obtain ⟨v0, e0, w0⟩ := num_of h0 rfl
 obtain ⟨v1, e1, w1⟩ := num_of h1 rfl
 obtain ⟨v2, e2, w2⟩ := num_of h2 rfl
 obtain ⟨v3, e3, w3⟩ := num_of h3 rfl
 obtain ⟨v4, e4, w4⟩ := num_of h4 rfl
 obtain ⟨st, e5, _⟩ := range_of (h5.trans (rfl : _ = some x5))
 obtain ⟨Aw, nw, cw, tw, e6, _, _, l6, _, s6⟩ := slice_of (sp := fun _ => true) (enc2 := rgc) Try.underlying24 cells23 (fun _ => rfl) (by decide) rfl (fun h => by obtain ⟨r, hr, _⟩ := range_of h; exact ⟨r, hr⟩) (h6.trans (rfl : _ = some x6))
 obtain ⟨At, nt, ct, tt, e7, _, _, l7, _, s7⟩ := slice_of (sp := fun _ => true) (enc2 := ics) Try.underlying25 cells3' (fun _ => rfl) (by decide) rfl (fun h => int_of h) (h7.trans (rfl : _ = some x7))
 obtain ⟨Ar, nr, cr, tr, e8, hnc, s8, hsz8⟩ := slice_of0 (sp := fun _ => true) (enc2 := rdc) Try.underlying26 cellsLk (fun _ => rfl) (by decide) rfl (fun h => reading_of h) (h8.trans (rfl : _ = some x8))
 simp only [List.map_cons, List.map_nil, Prod.mk.injEq] at hd
 simp [Value.cells] at e0 e1 e2 e3 e4 e5 e6 e7 e8
 obtain ⟨e5, e5'⟩ := e5
 subst e0 e1 e2 e3 e4 e5 e5' e6 e7 e8
 refine ⟨⟨v0, v1, v2, v3, v4, st, tw, tt, tr⟩, Aw, At, Ar, nw, cw, nt, ct, nr, cr, rfl, (i64_bd w0).1, ⟨l6, l7, s8.len⟩, fun hs => ?_, hnc, s8, _, _, _, _, _, _, _, _, _, hd.1, hsz8⟩
 obtain ⟨q0, q1, q2⟩ := hs
 exact ⟨s6 (by omega), s7 (by omega), s8.sl hnc (by omega)⟩

/-- A reading that came in. -/
theorem readv_of {r : Reach} {b0 : Nat} {v : Value} {d : DataW H} {p : List MemPlace} (hv : Value.okWide Try.prog w r b0 96 v) (h : DataW.Trod enc Try.prog w base (fun _ => true) held 96 v d p) :
  ∃ l : M.Rd, v = .agg #[.int .i64 l.hr, .int .i64 l.sn, .int .i64 l.er] := by
 obtain ⟨cs, rfl, hsz⟩ := okWide_struct Try.underlying96 hv
 obtain ⟨fuel, hf⟩ := h
 obtain ⟨l⟩ := cs
 rw [cellsLk] at hsz
 obtain ⟨a, b, c, rfl⟩ := lst3 (l := l) (by simpa using hsz)
 obtain ⟨t, ht⟩ := reading_of hf
 simp [Value.cells, rdc] at ht
 obtain ⟨h0, h1, h2⟩ := ht
 subst h0 h1 h2
 exact ⟨t, rfl⟩
theorem bytesRd : Try.prog.bytesOf 96 = 24 := by kernel_rfl
/-- How many readings a heap of some data can have room for. -/
theorem reads_size {ts : List TypeId} {ds : List (DataW H)} (hsz : (DataW.weightsEach Try.prog ts ds).all (· ≤ reachBytes) = true) {j : Nat} (ht : ts[j]? = some 28) {d : DataW H} (hd : ds[j]? = some d) {c : Nat}
  (hw : ∃ e0 e1 e2 e3 e4 e5 e6 e7 e8, d = .agg [e0, e1, e2, e3, e4, e5, e6, e7, e8] ∧ ((e8 = .nil ∧ c = 0) ∨ ∃ es rs, e8 = .slice es rs ∧ es.length + rs.length = c)) : c ≤ 5864062014700 := by
 obtain ⟨e0, e1, e2, e3, e4, e5, e6, e7, e8, rfl, hw⟩ := hw
 rcases hw with ⟨_, rfl⟩ | ⟨es, rs, rfl, rfl⟩
 ·
  omega
 ·
  have hm : (es.length + rs.length) * Try.prog.bytesOf 96 ∈ (DataW.agg [e0, e1, e2, e3, e4, e5, e6, e7, .slice es rs]).weights Try.prog 28 := by
   simp [DataW.weights, Try.underlying28, DataW.weightsEach, Try.underlying26]
  have h1 : (es.length + rs.length) * Try.prog.bytesOf 96 ≤ reachBytes := by
   have := List.all_eq_true.1 hsz _ (DataW.weights_mem_each ht hd _ hm)
   simpa using this
  rw [bytesRd] at h1
  have h2 : reachBytes = 140737488351232 := by decide
  omega
end

end Go.Proofs.Ytgimcephbeajlaa
