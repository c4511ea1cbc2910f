import Derived.Test.YtffbkbcjddigdaaA19
set_option linter.unusedSimpArgs false
set_option linter.unusedVariables false
namespace Go.Proofs.Ytffbkbcjddigdaa
open Go.RowKit

theorem eqI_nil (c : Nat) (wx : World) : (binOp .eql 23 (.slice none 0 c) (.slice none 0 0)).run Try.prog wx = .ok (.bool true) wx := by
  simp [binOp, Op.equal, Op.maxDepth, Lib.run_equalIn_slice_nil wx 9999 23 3 none 0 c 0 0 Try.underlying23]
theorem neI_nil (ad : Addr) (n c : Nat) (wx : World) : (binOp .eql 23 (.slice (some ad) n c) (.slice none 0 0)).run Try.prog wx = .ok (.bool false) wx := by
  simp [binOp, Op.equal, Op.maxDepth, Lib.run_equalIn_slice_nil wx 9999 23 3 (some ad) n c 0 0 Try.underlying23]

set_option maxRecDepth 100000 in
set_option maxHeartbeats 1000000 in
theorem cloneI_c (A : Option Addr) (n c : Nat) (xs : List Int) (hn : n ≤ 1000) (w : World) (hs : Sl ics 1 w w.heap.size A n c xs) :
    Calls Try.prog 104 #[.slice A n c] w fun e w' => (∃ B d, e = .returned (.slice B n d) ∧ w'.ownsRow w.heap.size 3 1 (.slice B n d) n (xs.flatMap ics)) ∧ Ev w w' := by
  obtain ⟨i0, hi0, hz0, hz1, hz2⟩ := info_parts info3
  cases A with
  | none =>
    have hm0 : n = 0 := by
      rcases Nat.eq_zero_or_pos n with h | h
      · exact h
      · obtain ⟨b, off, hA, _⟩ := hs.cells h; cases hA
    subst hm0
    obtain rfl : xs = [] := List.eq_nil_of_length_eq_zero hs.len
    have hq : ∀ wx : World, (binOp .eql 23 (.slice none 0 c) (.slice none 0 0)).run Try.prog wx = .ok (.bool true) wx := fun wx => eqI_nil c wx
    go_enter Try.func104, Try.ntmps104
    go_wp2
    go_ret
    exact ⟨⟨none, 0, rfl, World.ownsRow_nil _ _ _ _⟩, Ev.refl _⟩
  | some ad =>
    have HS := hid hs
    have hq : ∀ wx : World, (binOp .eql 23 (.slice (some ad) n c) (.slice none 0 0)).run Try.prog wx = .ok (.bool false) wx := fun wx => neI_nil ad n c wx
    clear hs
    go_enter Try.func104, Try.ntmps104
    go_wp2_with (at_builtin; refine append_sl (enc := ics) rfl (.tmp 5) (.tmp 6) 23 rfl w.heap.size 3 i0 _ 1 8 Try.underlying23 hi0 hz0 hz1 hz2 rfl (by decide) _ 0 [] rfl (World.ownsRow_lit w _ 0 (Nat.le_refl _) (by decide) rfl) (some ad) n c xs _ rfl (HS.out.ev (Ev.alloc (Ev.refl _) _)) (ics_len _) (ics_one _) (fun h => by cases h) (by unfold maxLen; omega) (by omega) (by simp) ?_; intro v' w3 hown' hgrow; have hown2 : w3.ownsRow w.heap.size 3 1 v' n (xs.flatMap ics) := (by simpa using hown'); obtain ⟨B, d, rfl⟩ := own_form hown2; have HG := hid hgrow; have HO := hid hown2; clear hown' hown2 hgrow)
    go_ret
    exact ⟨⟨B, d, rfl, HO.out⟩, Ev.grown (Ev.alloc (Ev.refl _) _) HG.out (fun k e => by have e2 : some w.heap.size = some k := e; simp at e2; omega)⟩

end Go.Proofs.Ytffbkbcjddigdaa

set_option linter.unusedSimpArgs false
set_option linter.unusedVariables false
namespace Go.Proofs.Ytffbkbcjddigdaa
open Go.RowKit Go.Shelf
attribute [local go_sem] Oper.semAt_some

def M.parts (f : M.Cf) : List (List Int) := (M.ranges f).map fun r => M.fromTo r.lo (r.hi - r.lo + 1).toNat
def M.cutAt (weeks : Nat) (x : List Int) : M.Tr := ⟨x.take weeks, x.drop weeks⟩
/-- All truths without regard to looks. -/
def M.allTruths (f : M.Cf) : List M.Tr := (M.choices (M.parts f)).map (M.cutAt (f.last + 1).toNat)
/-- What the iterator over truths hands over. -/
def thHx (_ B : Nat) (t : M.Tr) (av : Array Value) (W : World) : Prop :=
  ∃ B1 d1 B2 d2 n1 n2, av = #[.agg #[.slice B1 n1 d1, .slice B2 n2 d2]] ∧ W.ownsRow B 3 1 (.slice B1 n1 d1) n1 (t.gr.flatMap ics) ∧ W.ownsRow B 3 1 (.slice B2 n2 d2) n2 (t.wet.flatMap ics) ∧ n1 ≤ 100 ∧ n2 ≤ 100

def RowsB (b0 : Nat) (W : World) (vs : List Hd) (xs : List (List Int)) : Prop :=
  vs.length = xs.length ∧ ∀ (j : Nat) (v : Hd) (x : List Int), vs[j]? = some v → xs[j]? = some x → W.ownsRow b0 3 1 (.slice v.1 v.2.1 v.2.2) v.2.1 (x.flatMap ics) ∧ v.2.1 ≤ 1000
theorem RowsB.nil (b0 : Nat) (W : World) : RowsB b0 W [] [] := ⟨rfl, fun j v x h => by simp at h⟩
theorem RowsB.ev {b0 : Nat} {W W' : World} {vs : List Hd} {xs : List (List Int)} (h : RowsB b0 W vs xs) (he : Ev W W') : RowsB b0 W' vs xs :=
  ⟨h.1, fun j v x hv hx => ⟨(h.2 j v x hv hx).1.ev he, (h.2 j v x hv hx).2⟩⟩
theorem RowsB.grown {b0 : Nat} {w w' : World} {vs : List Hd} {xs : List (List Int)} (h : RowsB b0 w vs xs) {n2 : Nat} {v2 : Value} {x2 : List Value} (h2 : w.ownsRow b0 23 1 v2 n2 x2) (hg : w.grownBy w' v2.ownBlock) : RowsB b0 w' vs xs :=
  ⟨h.1, fun j v x hv hx => ⟨(h.2 j v x hv hx).1.kept hg (own_ne h2 (h.2 j v x hv hx).1 (by decide)), (h.2 j v x hv hx).2⟩⟩
theorem RowsB.snoc {b0 : Nat} {W : World} {vs : List Hd} {xs : List (List Int)} (h : RowsB b0 W vs xs) {v : Hd} {x : List Int} (hx : W.ownsRow b0 3 1 (.slice v.1 v.2.1 v.2.2) v.2.1 (x.flatMap ics)) (hn : v.2.1 ≤ 1000) : RowsB b0 W (vs ++ [v]) (xs ++ [x]) := by
  refine ⟨by simp [h.1], fun j u y hu hy => ?_⟩
  rcases Nat.lt_or_ge j vs.length with hj | hj
  · rw [List.getElem?_append_left hj] at hu
    rw [List.getElem?_append_left (by rw [← h.1]; exact hj)] at hy
    exact h.2 j u y hu hy
  · rw [List.getElem?_append_right hj] at hu
    rw [List.getElem?_append_right (by rw [← h.1]; exact hj), ← h.1] at hy
    have h0 : j - vs.length = 0 := by
      rcases Nat.eq_zero_or_pos (j - vs.length) with h0 | h0
      · exact h0
      · rw [List.getElem?_eq_none (by simp; omega)] at hu; cases hu
    rw [h0] at hu hy
    simp at hu hy
    subst hu hy
    exact ⟨hx, hn⟩

theorem RowsB.pr {b0 : Nat} {W : World} {vs : List Hd} {xs : List (List Int)} (h : RowsB b0 W vs xs) {V : Option Addr} {L cc : Nat} (hL : L ≤ 100) (hh : W.ownsRow b0 23 1 (.slice V L cc) L (vs.flatMap hdc)) :
    PR (fun k => b0 ≤ k ∧ k < W.heap.size) W V L vs xs := by
  have hs := sl_own (enc := hdc) (by decide) (hdc_len vs) (by omega) hh
  refine ⟨by rw [← h.1]; exact hs.len, fun t ht => ?_⟩
  obtain ⟨b, off, rfl, hlt, hc⟩ := hs.cells (by omega)
  have hv : vs[t]? = some (vs[t]'(by rw [hs.len]; exact ht)) := List.getElem?_eq_getElem _
  generalize vs[t]'(by rw [hs.len]; exact ht) = v at hv
  have hx : xs[t]? = some (xs[t]'(by rw [← h.1, hs.len]; exact ht)) := List.getElem?_eq_getElem _
  generalize xs[t]'(by rw [← h.1, hs.len]; exact ht) = x at hx
  obtain ⟨hr, hn⟩ := h.2 t v x hv hx
  have hrs := sl_own (enc := ics) (by decide) (ics_len x) (by omega) hr
  have hcell := hc t v hv 0 _ rfl
  refine ⟨b, off, v.1, v.2.1, v.2.2, x, rfl, ⟨(hh.lt b rfl).1, hlt⟩, hv, by simpa using hcell, hx, hrs.len, hrs.cap, hn, fun j y hj => ?_⟩
  obtain ⟨b', o', hA, hlt', hc'⟩ := hrs.cells (by have := (List.getElem?_eq_some_iff.1 hj).1; have := hrs.len; omega)
  have hcell' := hc' j y hj 0 _ rfl
  exact ⟨b', o', hA, ⟨(hr.lt b' (by rw [hA]; rfl)).1, hlt'⟩, by simpa using hcell'⟩

theorem one2 (ys : List Hd) : ∀ u ∈ ys.flatMap hdc, u.oneCell' = true := by
  intro u hu
  obtain ⟨y, _, hy⟩ := List.mem_flatMap.1 hu
  simp [hdc] at hy
  subst hy; rfl

end Go.Proofs.Ytffbkbcjddigdaa
