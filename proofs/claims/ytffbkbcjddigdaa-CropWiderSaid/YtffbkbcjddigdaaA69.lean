import Derived.Test.YtffbkbcjddigdaaA66
import Derived.Test.YtffbkbcjddigdaaA67
set_option linter.unusedSimpArgs false
set_option linter.unusedVariables false
namespace Go.Proofs.Ytffbkbcjddigdaa
open Go.RowKit Go.Shelf

/-- A cell of a row of one's own is written. -/
theorem own_put {w : World} {base : Nat} {e : TypeId} {n g cap : Nat} {xs : List Value} (h : w.ownsRow base e 1 (.slice (some ⟨g, 0, none⟩) n cap) n xs) (j : Nat) (u : Value) : (w.setCell ⟨g, j, none⟩ u).ownsRow base e 1 (.slice (some ⟨g, 0, none⟩) n cap) n (xs.set j u) := by
 refine ⟨by rw [List.length_set]; exact h.1, ?_⟩
 rcases h.2 with ⟨hn, _⟩ | ⟨g', cap', cur, hv, hb, hg, h1, h2, h3, h4⟩
 ·
  cases hn
 ·
  cases hv
  refine .inr ⟨g, cap, cur.setIfInBounds j u, rfl, hb, set_heap_same hg, h1, h2, by simp [h3], ?_⟩
  rw [← h4, Array.toList_setIfInBounds, List.take_set]
theorem own_putI {w : World} {base n g cap : Nat} {l : List Int} (h : w.ownsRow base 3 1 (.slice (some ⟨g, 0, none⟩) n cap) n (l.flatMap ics)) (j : Nat) (x : Int) : (w.setCell ⟨g, j, none⟩ (.int .i64 x)).ownsRow base 3 1 (.slice (some ⟨g, 0, none⟩) n cap) n ((l.set j x).flatMap ics) := by
 have := own_put h j (.int .i64 x)
 rw [ics_map] at this ⊢
 rw [List.map_set]
 exact this
/-- A row of one's own that isn't empty has a block; its cells can be written. -/
theorem own_some {w : World} {base n c : Nat} {V : Option Addr} {l : List Int} (h : w.ownsRow base 3 1 (.slice V n c) n (l.flatMap ics)) (hn : 0 < n) : ∃ g, V = some ⟨g, 0, none⟩ ∧ base ≤ g ∧ g < w.heap.size ∧ n ≤ c ∧ l.length = n ∧ (∀ j, j < n → w.frozen? ⟨g, j, none⟩ = false) ∧ ∀ (j : Nat) (x : Int), l[j]? = some x → w.cell? ⟨g, j, none⟩ = some (.int .i64 x) := by
 have hlen : l.length = n := by have := h.1; rw [ics_map, List.length_map] at this; omega
 rcases h.2 with ⟨hv, h0⟩ | ⟨g, cap, cur, hv, hb, hg, h1, h2, h3, h4⟩
 ·
  omega
 ·
  cases hv
  refine ⟨g, rfl, hb, heap_lt hg, h1, hlen, fun j _ => frozen_in hg j, fun j x hx => ?_⟩
  rw [cell_in hg j]
  have h5 : (cur.toList.take (n * 1))[j]? = some (.int .i64 x) := by rw [h4, ics_map, List.getElem?_map, hx]; rfl
  have hj := (List.getElem?_eq_some_iff.1 hx).1
  rw [List.getElem?_take, if_pos (by omega)] at h5
  simpa using h5
theorem M.over_set {a b : List Int} {k : Nat} {x : Int} (hx : a[k]? = some x) (hl : a.length = b.length) : (a.take k ++ b.drop k).set k x = a.take (k + 1) ++ b.drop (k + 1) := by
 have hk := (List.getElem?_eq_some_iff.1 hx).1
 refine List.ext_getElem? (fun j => ?_)
 rw [List.getElem?_set]
 by_cases hj : k = j
 ·
  subst hj
  rw [if_pos rfl, if_pos (by simp; omega), List.getElem?_append_left (by simp; omega), List.getElem?_take, if_pos (by omega), hx]
 ·
  rw [if_neg hj]
  rcases Nat.lt_or_ge j k with h | h
  ·
   rw [List.getElem?_append_left (by simp; omega), List.getElem?_append_left (by simp; omega), List.getElem?_take, List.getElem?_take, if_pos h, if_pos (by omega)]
  ·
   rw [List.getElem?_append_right (by simp; omega), List.getElem?_append_right (by simp; omega), List.getElem?_drop, List.getElem?_drop, List.length_take, List.length_take, Nat.min_eq_left (by omega), Nat.min_eq_left (by omega)]
   congr 1
   omega
/-- A truth up to a week, and another one from then on. -/
def M.over (t u : M.Tr) (m : Nat) : M.Tr := ⟨t.gr.take m ++ u.gr.drop m, t.wet.take m ++ u.wet.drop m⟩
theorem M.over_listed {f : M.Cf} (hv : M.valid f = true) {t u : M.Tr} (ht : M.listed f t = true) (hu : M.listed f u = true) (m : Nat) : M.listed f (M.over t u m) = true := by
 have hlt := M.listed_len hv ht
 have hlu := M.listed_len hv hu
 have hw := M.weeks_eq hv
 have hf := (M.valid_parts hv).2.1
 have hkt := (M.listed_at (f := f) (t := t) (by omega) (by omega) hw).1 ht
 have hku := (M.listed_at (f := f) (t := u) (by omega) (by omega) hw).1 hu
 have h1 : (M.over t u m).gr.length = f.gr.length := by unfold M.over; simp; omega
 have h2 : (M.over t u m).wet.length = f.wet.length := by unfold M.over; simp; omega
 refine (M.listed_at h1 h2 hw).2 (fun j hj => ?_)
 intro x r v s hx hr hv2 hs
 unfold M.over at hx hv2
 rw [h1] at hj
 rcases Nat.lt_or_ge j m with h | h
 ·
  rw [List.getElem?_append_left (by simp; omega), List.getElem?_take, if_pos h] at hx hv2
  exact hkt j (by omega) x r v s hx hr hv2 hs
 ·
  rw [List.getElem?_append_right (by simp; omega), List.getElem?_drop, List.length_take] at hx hv2
  rw [show m + (j - min m t.gr.length) = j by omega] at hx
  rw [show m + (j - min m t.wet.length) = j by omega] at hv2
  exact hku j (by omega) x r v s hx hr hv2 hs
theorem M.over_up {t u : M.Tr} {m : Nat} (hm : m ≤ t.gr.length) : ∀ k, k ≤ m → M.upK t.gr k = M.upK (M.over t u m).gr k := fun k hk => by
 unfold M.upK M.over
 rw [List.take_append_of_le_length (by simp; omega), List.take_take, Nat.min_eq_left hk]
theorem M.over_wet {t u : M.Tr} {m j : Nat} (hj : j < m) (hm : m ≤ t.wet.length) : t.wet.getD j 0 = (M.over t u m).wet.getD j 0 := by
 unfold M.over
 rw [List.getD_eq_getElem?_getD, List.getD_eq_getElem?_getD, List.getElem?_append_left (by simp; omega), List.getElem?_take, if_pos hj]
/-- With another truth behind a crop's week, and without the crops behind it, it is the same. -/
theorem M.apart {f : M.Cf} {t u : M.Tr} {p : List Int} (hv : M.valid f = true) (ht : M.listed f t = true) (hu : M.listed f u = true) (hp : M.isPlan f p = true) {i : Nat} {x : Int} (hx : p[i]? = some x) : M.crop f (M.over t u (x.toNat + 1)) (p.take (i + 1)) i = M.crop f t p i := by
 have h1 := (M.prevW_le hp hx).2
 have hlt := M.listed_len hv ht
 exact M.crop_take hv ht (M.over_listed hv ht hu _) hp (Nat.lt_succ_self i) hx (M.over_up (by omega)) (M.over_wet (by omega) (by omega))
end Go.Proofs.Ytffbkbcjddigdaa
