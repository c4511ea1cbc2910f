import Derived.Test.YtffbkbcjddigdaaA22
import Derived.Sort.CutIn
set_option linter.unusedSimpArgs false
set_option linter.unusedVariables false
namespace Go.Proofs.Ytffbkbcjddigdaa
open Go.RowKit Go.Shelf
attribute [local go_sem] Oper.semAt_some

/-- All looks are right. -/
def M.right (f : M.Cf) (t : M.Tr) : Bool := f.looks.all (M.shows (M.weights t.gr f.crops))
def M.truths (f : M.Cf) : List M.Tr := (M.allTruths f).filter (M.right f)
def M.stK (f : M.Cf) : List (List Int) → List M.Tr → List (List Int)
  | acc, [] => acc
  | acc, t :: r => M.stK f (if acc.getLast? = some (M.weights t.gr f.crops) then acc else acc ++ [M.weights t.gr f.crops]) r
def M.stands (f : M.Cf) : List (List Int) := M.stK f [] (M.allTruths f)
theorem M.stK_snoc (f : M.Cf) : ∀ (acc : List (List Int)) (ts : List M.Tr) (t : M.Tr), M.stK f acc (ts ++ [t]) = (if (M.stK f acc ts).getLast? = some (M.weights t.gr f.crops) then M.stK f acc ts else M.stK f acc ts ++ [M.weights t.gr f.crops])
  | _, [], _ => rfl
  | acc, u :: r, t => by
    show M.stK f _ (r ++ [t]) = _
    rw [M.stK_snoc f _ r t]
    rfl
theorem M.stK_len (f : M.Cf) : ∀ (acc : List (List Int)) (ts : List M.Tr), (M.stK f acc ts).length ≤ acc.length + ts.length
  | _, [] => by simp [M.stK]
  | acc, t :: r => by
    unfold M.stK
    refine Nat.le_trans (M.stK_len f _ r) ?_
    split <;> simp <;> omega
theorem M.stK_10 (f : M.Cf) : ∀ (acc : List (List Int)) (ts : List M.Tr), (∀ x ∈ acc, x.length = 10) → (∀ t ∈ ts, t.gr.length ≤ 10) → ∀ x ∈ M.stK f acc ts, x.length = 10
  | _, [], h, _ => h
  | acc, t :: r, h, ht => by
    unfold M.stK
    refine M.stK_10 f _ r ?_ (fun u hu => ht u (by simp [hu]))
    split
    · exact h
    · intro x hx
      rcases List.mem_append.1 hx with hx | hx
      · exact h x hx
      · rw [show x = M.weights t.gr f.crops by simpa using hx]; exact M.weights_len (ht t (by simp))
theorem M.stK_any (f : M.Cf) (p : List Int → Bool) : ∀ (acc : List (List Int)) (ts : List M.Tr), (M.stK f acc ts).any p = (acc.any p || ts.any fun t => p (M.weights t.gr f.crops))
  | acc, [] => by simp [M.stK]
  | acc, t :: r => by
    unfold M.stK
    rw [M.stK_any f p _ r, List.any_cons]
    split
    · rename_i h
      have hm : M.weights t.gr f.crops ∈ acc := List.mem_of_getLast? h
      cases hp : p (M.weights t.gr f.crops) with
      | true => rw [List.any_eq_true.2 ⟨_, hm, hp⟩]; simp
      | false => simp
    · rw [List.any_append]; simp [Bool.or_assoc]
theorem M.stands_any (f : M.Cf) (p : List Int → Bool) : (M.stands f).any p = (M.allTruths f).any fun t => p (M.weights t.gr f.crops) := by
  unfold M.stands; rw [M.stK_any]; simp

/-- The values of a truth. -/
abbrev Td := Hd × Hd
def thc (v : Td) : List Value := [.slice v.1.1 v.1.2.1 v.1.2.2, .slice v.2.1 v.2.2.1 v.2.2.2]
theorem thc_len (ys : List Td) : ∀ y ∈ ys, (thc y).length = 2 := fun _ _ => rfl
theorem thc_one (ys : List Td) : ∀ u ∈ ys.flatMap thc, u.oneCell' = true := by
  intro u hu
  obtain ⟨y, _, hy⟩ := List.mem_flatMap.1 hu
  simp [thc] at hy
  rcases hy with rfl | rfl <;> rfl
def TRow (b0 : Nat) (W : World) (v : Td) (t : M.Tr) : Prop :=
  W.ownsRow b0 3 1 (.slice v.1.1 v.1.2.1 v.1.2.2) v.1.2.1 (t.gr.flatMap ics) ∧ W.ownsRow b0 3 1 (.slice v.2.1 v.2.2.1 v.2.2.2) v.2.2.1 (t.wet.flatMap ics) ∧ v.1.2.1 ≤ 100 ∧ v.2.2.1 ≤ 100
def TRows (b0 : Nat) (W : World) (vs : List Td) (ts : List M.Tr) : Prop := vs.length = ts.length ∧ ∀ (j : Nat) (v : Td) (t : M.Tr), vs[j]? = some v → ts[j]? = some t → TRow b0 W v t
theorem TRows.nil (b0 : Nat) (W : World) : TRows b0 W [] [] := ⟨rfl, fun j v x h => by simp at h⟩
theorem TRow.imp {b0 : Nat} {W W' : World} {v : Td} {t : M.Tr} (h : TRow b0 W v t) (hi : ∀ (u : Value) (n : Nat) (xs : List Value), W.ownsRow b0 3 1 u n xs → W'.ownsRow b0 3 1 u n xs) : TRow b0 W' v t := ⟨hi _ _ _ h.1, hi _ _ _ h.2.1, h.2.2⟩
theorem TRows.imp {b0 : Nat} {W W' : World} {vs : List Td} {ts : List M.Tr} (h : TRows b0 W vs ts) (hi : ∀ (u : Value) (n : Nat) (xs : List Value), W.ownsRow b0 3 1 u n xs → W'.ownsRow b0 3 1 u n xs) : TRows b0 W' vs ts :=
  ⟨h.1, fun j v t hv ht => (h.2 j v t hv ht).imp hi⟩
theorem TRows.ev {b0 : Nat} {W W' : World} {vs : List Td} {ts : List M.Tr} (h : TRows b0 W vs ts) (he : Ev W W') : TRows b0 W' vs ts := h.imp fun _ _ _ h => h.ev he
theorem TRows.base {b0 b1 : Nat} {W : World} {vs : List Td} {ts : List M.Tr} (h : TRows b0 W vs ts) (hb : b1 ≤ b0) : TRows b1 W vs ts :=
  ⟨h.1, fun j v t hv ht => ⟨own_base (h.2 j v t hv ht).1 hb, own_base (h.2 j v t hv ht).2.1 hb, (h.2 j v t hv ht).2.2⟩⟩
theorem TRows.grown {b0 b1 : Nat} {w w' : World} {vs : List Td} {ts : List M.Tr} (h : TRows b0 w vs ts) {e sz n2 : Nat} {v2 : Value} {x2 : List Value} (h2 : w.ownsRow b1 e sz v2 n2 x2) (he : e ≠ 3) (hg : w.grownBy w' v2.ownBlock) : TRows b0 w' vs ts :=
  h.imp fun _ _ _ h => h.kept hg (own_ne (own_base h2 (Nat.zero_le _)) (own_base h (Nat.zero_le _)) he)
theorem TRows.snoc {b0 : Nat} {W : World} {vs : List Td} {xs : List M.Tr} (h : TRows b0 W vs xs) {v : Td} {x : M.Tr} (hx : TRow b0 W v x) : TRows b0 W (vs ++ [v]) (xs ++ [x]) := by
  refine ⟨by simp [h.1], fun j u y hu hy => ?_⟩
  rcases Nat.lt_or_ge j vs.length with hj | hj
  · rw [List.getElem?_append_left hj] at hu
    rw [List.getElem?_append_left (by rw [← h.1]; exact hj)] at hy
    exact h.2 j u y hu hy
  · rw [List.getElem?_append_right hj] at hu
    rw [List.getElem?_append_right (by rw [← h.1]; exact hj), ← h.1] at hy
    have h0 : j - vs.length = 0 := by
      rcases Nat.eq_zero_or_pos (j - vs.length) with h0 | h0
      · exact h0
      · rw [List.getElem?_eq_none (by simp; omega)] at hu; cases hu
    rw [h0] at hu hy
    simp at hu hy
    subst hu hy
    exact hx
theorem own_set {w : World} {base : Nat} {e t : TypeId} {size : Nat} {v : Value} {n : Nat} {xs : List Value} {b j : Nat} {cs : Array Value} {u : Value} (h : w.ownsRow base e size v n xs) (hb : w.heap[b]? = some (.cells cs t (0, 0))) (ht : t ≠ e) : (w.setCell ⟨b, j, none⟩ u).ownsRow base e size v n xs := by
  refine ⟨h.1, ?_⟩
  rcases h.2 with hn | ⟨g, cap, cur, rfl, hbg, hgg, rest⟩
  · exact .inl hn
  · refine .inr ⟨g, cap, cur, rfl, hbg, set_heap hgg ?_, rest⟩
    rintro rfl
    rw [hb] at hgg
    cases hgg
    exact ht rfl
theorem own_mo {P : Program} {kt : TypeId} {w w' : World} {mb : Nat} {g : Value → Option Value} {base : Nat} {e : TypeId} {size : Nat} {v : Value} {n : Nat} {xs : List Value} (h : w.ownsRow base e size v n xs) (hm : MapIs P kt w mb g) (hb : Mo mb w w') : w'.ownsRow base e size v n xs := by
  refine ⟨h.1, ?_⟩
  rcases h.2 with hn | ⟨k, cap, cur, rfl, hbg, hgg, rest⟩
  · exact .inl hn
  · exact .inr ⟨k, cap, cur, rfl, hbg, hb.heap hgg (map_ne hm hgg), rest⟩

/-- A field at work. -/
structure Wc (w : World) (f : M.Cf) (Ag Aw Ab Ac Al : Option Addr) (ng cg nw cw nb cb nc cc nl cl : Nat) (At As : Option Addr) (nt ct ns cs p mb : Nat) (ts : List M.Tr) (ss : List (List Int)) : Prop where
  hd : w.heap[p]? = some (.cells #[.int .i64 f.last, .slice Ag ng cg, .slice Aw nw cw, .slice Ab nb cb, .slice Ac nc cc, .int .i64 f.ripe, .int .i64 f.late, .int .i64 f.trod, .slice Al nl cl, .slice At nt ct, .slice As ns cs, .map (some mb)] 136 (0, 0))
  fd : CS w w.heap.size f Ag Aw Ab Ac Al ng cg nw cw nb cb nc cc nl cl
  tr : ∃ vs : List Td, Sl thc 2 w w.heap.size At nt ct vs ∧ TRows 0 w vs ts
  st : Sl scs 10 w w.heap.size As ns cs ss
  s10 : ∀ x ∈ ss, x.length = 10
  mp : ∃ g, Loads f g ∧ MapIs Try.prog 143 w mb g
  n1 : nt ≤ 2000
  n2 : ns ≤ 2000
theorem Wc.mo {w w' : World} {f : M.Cf} {Ag Aw Ab Ac Al : Option Addr} {ng cg nw cw nb cb nc cc nl cl : Nat} {At As : Option Addr} {nt ct ns cs p mb : Nat} {ts : List M.Tr} {ss : List (List Int)} (h : Wc w f Ag Aw Ab Ac Al ng cg nw cw nb cb nc cc nl cl At As nt ct ns cs p mb ts ss) (hb : Mo mb w w') (hm : ∃ g, Loads f g ∧ MapIs Try.prog 143 w' mb g) : Wc w' f Ag Aw Ab Ac Al ng cg nw cw nb cb nc cc nl cl At As nt ct ns cs p mb ts ss := by
  obtain ⟨g, _, hg⟩ := h.mp
  obtain ⟨vs, hv, hr⟩ := h.tr
  exact ⟨hb.heap h.hd (map_ne hg h.hd), h.fd.mo hg hb, ⟨vs, hv.mo hg hb (Nat.le_refl _) hb.size, hr.imp fun _ _ _ ho => own_mo ho hg hb⟩, h.st.mo hg hb (Nat.le_refl _) hb.size, h.s10, hm, h.n1, h.n2⟩
theorem Wc.ev {w w' : World} {f : M.Cf} {Ag Aw Ab Ac Al : Option Addr} {ng cg nw cw nb cb nc cc nl cl : Nat} {At As : Option Addr} {nt ct ns cs p mb : Nat} {ts : List M.Tr} {ss : List (List Int)} (h : Wc w f Ag Aw Ab Ac Al ng cg nw cw nb cb nc cc nl cl At As nt ct ns cs p mb ts ss) (hb : Ev w w') : Wc w' f Ag Aw Ab Ac Al ng cg nw cw nb cb nc cc nl cl At As nt ct ns cs p mb ts ss := by
  obtain ⟨g, hl, hg⟩ := h.mp
  exact h.mo (Mo.ev hb) ⟨g, hl, hg.keep hb hg.lt⟩

end Go.Proofs.Ytffbkbcjddigdaa
