import Derived.Test.YtffbkbcjddigdaaA69
set_option linter.unusedSimpArgs false
set_option linter.unusedVariables false
namespace Go.Proofs.Ytffbkbcjddigdaa
open Go.RowKit Go.Shelf

theorem own_lit {w : World} {base n c g : Nat} {l : List Int} (h : w.ownsRow base 3 1 (.slice (some ⟨g, 0, none⟩) n c) n (l.flatMap ics)) (hn : 0 < n) : g < w.heap.size ∧ n ≤ c ∧ l.length = n ∧ (∀ j, j < n → w.frozen? ⟨g, j, none⟩ = false) ∧ ∀ (j : Nat) (x : Int), l[j]? = some x → w.cell? ⟨g, j, none⟩ = some (.int .i64 x) := by
 obtain ⟨g', hg, _, h1, h2, h3, h4, h5⟩ := own_some h hn
 obtain rfl : g = g' := by simpa using hg
 exact ⟨h1, h2, h3, h4, h5⟩
/-- Two truths in blocks of their own, with lists of their own; those of the second one lie in newer blocks. -/
structure TwS (b W : World) (p1 p2 gB gD gC gW B3 ng dg nw dw eg ew : Nat) (c1 c2 : Array Value) (t u : M.Tr) : Prop where
 ev : Ev b W
 l1 : b.heap.size ≤ p1
 l2 : b.heap.size ≤ p2
 ne : p1 ≠ p2
 h1 : W.heap[p1]? = some (.cells c1 28 (0, 0))
 h2 : W.heap[p2]? = some (.cells c2 28 (0, 0))
 r1 : W.ownsRow 0 3 1 (.slice (some ⟨gB, 0, none⟩) ng dg) ng (t.gr.flatMap ics)
 r2 : W.ownsRow 0 3 1 (.slice (some ⟨gD, 0, none⟩) nw dw) nw (t.wet.flatMap ics)
 r3 : W.ownsRow 0 3 1 (.slice (some ⟨gC, 0, none⟩) ng eg) ng (u.gr.flatMap ics)
 r4 : W.ownsRow 0 3 1 (.slice (some ⟨gW, 0, none⟩) nw ew) nw (u.wet.flatMap ics)
 k1 : gB < B3
 k2 : gD < B3
 k3 : B3 ≤ gC
 k4 : B3 ≤ gW
 k5 : gC ≠ gW
 k6 : b.heap.size ≤ B3
section
variable {b W W' : World} {p1 p2 gB gD gC gW B3 ng dg nw dw eg ew : Nat} {c1 c2 : Array Value} {t u : M.Tr}
theorem TwS.evs (h : TwS b W p1 p2 gB gD gC gW B3 ng dg nw dw eg ew c1 c2 t u) (hE : Ev W W') : TwS b W' p1 p2 gB gD gC gW B3 ng dg nw dw eg ew c1 c2 t u :=
 ⟨h.ev.trans hE, h.l1, h.l2, h.ne, hE.heap h.h1, hE.heap h.h2, h.r1.ev hE, h.r2.ev hE, h.r3.ev hE, h.r4.ev hE, h.k1, h.k2, h.k3, h.k4, h.k5, h.k6⟩
theorem TwS.set1 {z0 z1 v0 v1 : Value} (h : TwS b W p1 p2 gB gD gC gW B3 ng dg nw dw eg ew #[z0, z1] c2 t u) : TwS b ((W.setCell ⟨p1, 0, none⟩ v0).setCell ⟨p1, 1, none⟩ v1) p1 p2 gB gD gC gW B3 ng dg nw dw eg ew #[v0, v1] c2 t u := by
 have q := set_heap_same (j := 0) (v := v0) h.h1
 exact ⟨Ev.setCell (Ev.setCell h.ev h.l1 _) h.l1 _, h.l1, h.l2, h.ne, set2 h.h1, set_heap (set_heap h.h2 h.ne.symm) h.ne.symm, own_set (own_set h.r1 h.h1 (by decide)) q (by decide), own_set (own_set h.r2 h.h1 (by decide)) q (by decide), own_set (own_set h.r3 h.h1 (by decide)) q (by decide), own_set (own_set h.r4 h.h1 (by decide)) q (by decide), h.k1, h.k2, h.k3, h.k4, h.k5, h.k6⟩
theorem TwS.set2 {z0 z1 v0 v1 : Value} (h : TwS b W p1 p2 gB gD gC gW B3 ng dg nw dw eg ew c1 #[z0, z1] t u) : TwS b ((W.setCell ⟨p2, 0, none⟩ v0).setCell ⟨p2, 1, none⟩ v1) p1 p2 gB gD gC gW B3 ng dg nw dw eg ew c1 #[v0, v1] t u := by
 have q := set_heap_same (j := 0) (v := v0) h.h2
 exact ⟨Ev.setCell (Ev.setCell h.ev h.l2 _) h.l2 _, h.l1, h.l2, h.ne, set_heap (set_heap h.h1 h.ne) h.ne, Go.Proofs.Ytffbkbcjddigdaa.set2 h.h2, own_set (own_set h.r1 h.h2 (by decide)) q (by decide), own_set (own_set h.r2 h.h2 (by decide)) q (by decide), own_set (own_set h.r3 h.h2 (by decide)) q (by decide), own_set (own_set h.r4 h.h2 (by decide)) q (by decide), h.k1, h.k2, h.k3, h.k4, h.k5, h.k6⟩
theorem TwS.nep (h : TwS b W p1 p2 gB gD gC gW B3 ng dg nw dw eg ew c1 c2 t u) : p1 ≠ gC ∧ p1 ≠ gW ∧ p2 ≠ gC ∧ p2 ≠ gW := by
 have e1 := own_neB h.r3 h.h1 (by decide)
 have e2 := own_neB h.r4 h.h1 (by decide)
 have e3 := own_neB h.r3 h.h2 (by decide)
 have e4 := own_neB h.r4 h.h2 (by decide)
 exact ⟨fun e => e1 (by rw [e]; rfl), fun e => e2 (by rw [e]; rfl), fun e => e3 (by rw [e]; rfl), fun e => e4 (by rw [e]; rfl)⟩
theorem own_far {w : World} {base : Nat} {e : TypeId} {size : Nat} {g n d : Nat} {k : Nat} {xs : List Value} {b' j : Nat} {v : Value} (h : w.ownsRow base e size (.slice (some ⟨g, 0, none⟩) n d) k xs) (hne : g ≠ b') : (w.setCell ⟨b', j, none⟩ v).ownsRow base e size (.slice (some ⟨g, 0, none⟩) n d) k xs :=
 own_set_ne h (fun e => hne (Option.some.inj e))
theorem TwS.put1 (h : TwS b W p1 p2 gB gD gC gW B3 ng dg nw dw eg ew c1 c2 t u) (j : Nat) (x : Int) : TwS b (W.setCell ⟨gC, j, none⟩ (.int .i64 x)) p1 p2 gB gD gC gW B3 ng dg nw dw eg ew c1 c2 t ⟨u.gr.set j x, u.wet⟩ := by
 obtain ⟨n1, n2, n3, n4⟩ := h.nep
 have k1 := h.k1; have k2 := h.k2; have k3 := h.k3; have k4 := h.k4; have k5 := h.k5; have k6 := h.k6
 exact ⟨Ev.setCell h.ev (show b.heap.size ≤ gC by omega) _, h.l1, h.l2, h.ne, set_heap h.h1 n1, set_heap h.h2 n3, own_far h.r1 (by omega), own_far h.r2 (by omega), own_putI h.r3 j x, own_far h.r4 (by omega), h.k1, h.k2, h.k3, h.k4, h.k5, h.k6⟩
theorem TwS.put2 (h : TwS b W p1 p2 gB gD gC gW B3 ng dg nw dw eg ew c1 c2 t u) (j : Nat) (x : Int) : TwS b (W.setCell ⟨gW, j, none⟩ (.int .i64 x)) p1 p2 gB gD gC gW B3 ng dg nw dw eg ew c1 c2 t ⟨u.gr, u.wet.set j x⟩ := by
 obtain ⟨n1, n2, n3, n4⟩ := h.nep
 have k1 := h.k1; have k2 := h.k2; have k3 := h.k3; have k4 := h.k4; have k5 := h.k5; have k6 := h.k6
 exact ⟨Ev.setCell h.ev (show b.heap.size ≤ gW by omega) _, h.l1, h.l2, h.ne, set_heap h.h1 n2, set_heap h.h2 n4, own_far h.r1 (by omega), own_far h.r2 (by omega), own_far h.r3 (by omega), own_putI h.r4 j x, h.k1, h.k2, h.k3, h.k4, h.k5, h.k6⟩
end
theorem M.over_succ {t u : M.Tr} {k : Nat} {x y : Int} (hx : t.gr[k]? = some x) (hy : t.wet[k]? = some y) (h1 : t.gr.length = u.gr.length) (h2 : t.wet.length = u.wet.length) : (⟨(M.over t u k).gr.set k x, (M.over t u k).wet.set k y⟩ : M.Tr) = M.over t u (k + 1) := by
 unfold M.over
 rw [M.over_set hx h1, M.over_set hy h2]
theorem M.over_zero (t u : M.Tr) : M.over t u 0 = u := by unfold M.over; simp
end Go.Proofs.Ytffbkbcjddigdaa
