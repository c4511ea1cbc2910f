import Derived.Test.YtffbkbcjddigdaaA80
import Derived.Test.YtffbkbcjddigdaaA69
set_option linter.unusedSimpArgs false
set_option linter.unusedVariables false
namespace Go.Proofs.Ytffbkbcjddigdaa
open Go.RowKit Go.Shelf

/-- A row of one's own that isn't empty has a block; its cells can be read and written (elements of any size). -/
theorem own_someN {w : World} {base n c size : Nat} {e : TypeId} {V : Option Addr} {xs : List Value} (h : w.ownsRow base e size (.slice V n c) n xs) (hn : 0 < n) : ∃ g, V = some ⟨g, 0, none⟩ ∧ base ≤ g ∧ g < w.heap.size ∧ n ≤ c ∧ (∀ j, w.frozen? ⟨g, j, none⟩ = false) ∧ ∀ (j : Nat) (u : Value), xs[j]? = some u → w.cell? ⟨g, j, none⟩ = some u := by
 rcases h.2 with ⟨hv, h0⟩ | ⟨g, cap, cur, hv, hb, hg, h1, h2, h3, h4⟩
 ·
  omega
 ·
  cases hv
  refine ⟨g, rfl, hb, heap_lt hg, h1, fun j => frozen_in hg j, fun j u hu => ?_⟩
  rw [cell_in hg j]
  rw [← h4, List.getElem?_take] at hu
  split at hu
  ·
   simpa using hu
  ·
   cases hu
theorem own_putN {w : World} {base : Nat} {e : TypeId} {n g cap size : Nat} {xs : List Value} (h : w.ownsRow base e size (.slice (some ⟨g, 0, none⟩) n cap) n xs) (j : Nat) (u : Value) : (w.setCell ⟨g, j, none⟩ u).ownsRow base e size (.slice (some ⟨g, 0, none⟩) n cap) n (xs.set j u) := by
 refine ⟨by rw [List.length_set]; exact h.1, ?_⟩
 rcases h.2 with ⟨hn, _⟩ | ⟨g', cap', cur, hv, hb, hg, h1, h2, h3, h4⟩
 ·
  cases hn
 ·
  cases hv
  refine .inr ⟨g, cap, cur.setIfInBounds j u, rfl, hb, set_heap_same hg, h1, h2, by simp [h3], ?_⟩
  rw [← h4, Array.toList_setIfInBounds, List.take_set]
theorem rgc_at : ∀ (G : List M.Rg) (k : Nat) (r : M.Rg), G[k]? = some r → (G.flatMap rgc)[2 * k]? = some (.int .i64 r.lo) ∧ (G.flatMap rgc)[2 * k + 1]? = some (.int .i64 r.hi)
 | [], k, r, h => by simp at h
 | x :: G, 0, r, h => by simp at h; subst h; simp [rgc]
 | x :: G, k + 1, r, h => by
  have := rgc_at G k r (by simpa using h)
  rw [show 2 * (k + 1) = 2 * k + 1 + 1 by omega]
  simpa [rgc] using this
theorem rgc_set : ∀ (G : List M.Rg) (k : Nat) (r : M.Rg), (((G.flatMap rgc).set (2 * k) (.int .i64 r.lo)).set (2 * k + 1) (.int .i64 r.hi)) = (G.set k r).flatMap rgc ∨ G.length ≤ k
 | [], k, r => .inr (by simp)
 | x :: G, 0, r => .inl (by simp [rgc])
 | x :: G, k + 1, r => by
  rcases rgc_set G k r with h | h
  ·
   left
   rw [show 2 * (k + 1) = 2 * k + 1 + 1 by omega]
   simpa [rgc] using h
  ·
   right
   simp only [List.length_cons]
   omega
theorem lkc_at : ∀ (L : List M.Lk) (k : Nat) (r : M.Lk), L[k]? = some r → (L.flatMap lkc)[3 * k + 1]? = some (.int .i64 r.ct.lo) ∧ (L.flatMap lkc)[3 * k + 2]? = some (.int .i64 r.ct.hi)
 | [], k, r, h => by simp at h
 | x :: L, 0, r, h => by simp at h; subst h; simp [lkc]
 | x :: L, k + 1, r, h => by
  have := lkc_at L k r (by simpa using h)
  rw [show 3 * (k + 1) + 1 = 3 * k + 1 + 1 + 1 + 1 by omega, show 3 * (k + 1) + 2 = 3 * k + 2 + 1 + 1 + 1 by omega]
  simpa [lkc] using this
end Go.Proofs.Ytffbkbcjddigdaa
