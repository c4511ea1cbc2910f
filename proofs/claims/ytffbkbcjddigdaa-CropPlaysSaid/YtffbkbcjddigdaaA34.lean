import Derived.Test.YtffbkbcjddigdaaA33
set_option linter.unusedSimpArgs false
set_option linter.unusedVariables false
namespace Go.Proofs.Ytffbkbcjddigdaa
open Go.RowKit Go.Shelf

/-- The bounds of a crop of a plan. -/
structure M.Bd where
  wt : M.Rg
  st : Int
  wo : M.Rg
def bdc (b : M.Bd) : List Value := [.int .i64 b.wt.lo, .int .i64 b.wt.hi, .int .i64 b.st, .int .i64 b.wo.lo, .int .i64 b.wo.hi]
theorem bdc_len (ys : List M.Bd) : ∀ y ∈ ys, (bdc y).length = 5 := fun _ _ => rfl
def M.bd0 : M.Bd := ⟨⟨0, 0⟩, 0, ⟨0, 0⟩⟩
theorem set_bd : ∀ (ys : List M.Bd) (k : Nat) (r : M.Bd), k < ys.length → (((((ys.flatMap bdc).set (k * 5) (.int .i64 r.wt.lo)).set (k * 5 + 1) (.int .i64 r.wt.hi)).set (k * 5 + 2) (.int .i64 r.st)).set (k * 5 + 3) (.int .i64 r.wo.lo)).set (k * 5 + 4) (.int .i64 r.wo.hi) = (ys.set k r).flatMap bdc
  | [], _, _, h => by simp at h
  | y :: t, 0, r, _ => by simp [bdc, List.flatMap_cons]
  | y :: t, k + 1, r, h => by
    rw [List.flatMap_cons, List.set_cons_succ, List.flatMap_cons, ← set_bd t k r (by simpa using h)]
    show (((((Value.int .i64 y.wt.lo :: Value.int .i64 y.wt.hi :: Value.int .i64 y.st :: Value.int .i64 y.wo.lo :: Value.int .i64 y.wo.hi :: t.flatMap bdc).set ((k + 1) * 5) _).set ((k + 1) * 5 + 1) _).set ((k + 1) * 5 + 2) _).set ((k + 1) * 5 + 3) _).set ((k + 1) * 5 + 4) _ = _
    rw [show (k + 1) * 5 = k * 5 + 1 + 1 + 1 + 1 + 1 from by omega]
    simp only [List.set_cons_succ]
    rfl
theorem bd_get (ys : List M.Bd) (k : Nat) (h : k < ys.length) : ∃ a b c d e, (ys.flatMap bdc)[k * 5]? = some (.int .i64 a) ∧ (ys.flatMap bdc)[k * 5 + 1]? = some (.int .i64 b) ∧ (ys.flatMap bdc)[k * 5 + 2]? = some (.int .i64 c) ∧ (ys.flatMap bdc)[k * 5 + 3]? = some (.int .i64 d) ∧ (ys.flatMap bdc)[k * 5 + 4]? = some (.int .i64 e) := by
  have hx : ys[k]? = some (ys[k]'h) := List.getElem?_eq_getElem _
  exact ⟨_, _, _, _, _, flat_get bdc 5 ys (fun _ _ => rfl) k _ hx 0 _ rfl, flat_get bdc 5 ys (fun _ _ => rfl) k _ hx 1 _ rfl, flat_get bdc 5 ys (fun _ _ => rfl) k _ hx 2 _ rfl, flat_get bdc 5 ys (fun _ _ => rfl) k _ hx 3 _ rfl, flat_get bdc 5 ys (fun _ _ => rfl) k _ hx 4 _ rfl⟩
theorem zeros_bd : ∀ D : Nat, madeCells (Value.agg #[.int .i64 0, .int .i64 0, .int .i64 0, .int .i64 0, .int .i64 0]).cells (D * 5) = ((List.replicate D M.bd0).flatMap bdc).toArray := by
  intro D
  have h : ∀ D : Nat, ((List.replicate D M.bd0).flatMap bdc) = List.replicate (D * 5) (Value.int .i64 0) := by
    intro D
    induction D with
    | zero => rfl
    | succ D ih =>
      rw [List.replicate_succ, List.flatMap_cons, ih, show (D + 1) * 5 = D * 5 + 1 + 1 + 1 + 1 + 1 from by omega]
      simp [bdc, M.bd0, List.replicate_succ]
  rw [h D]
  unfold madeCells
  apply Array.ext
  · simp
  · intro i h1 h2
    have h3 : i % 5 < 5 := Nat.mod_lt _ (by omega)
    have h4 : ∀ j : Nat, j < 5 → (Value.agg #[.int .i64 0, .int .i64 0, .int .i64 0, .int .i64 0, .int .i64 0]).cells.getD j default = .int .i64 0 := by
      intro j hj
      match j, hj with
      | 0, _ => rfl
      | 1, _ => rfl
      | 2, _ => rfl
      | 3, _ => rfl
      | 4, _ => rfl
    simp [Value.cells] at h4 ⊢
    first | exact h4 _ h3 | (have := h4 _ h3; simpa using this)
theorem infoBd : (Try.prog.info? 81).map (fun i => (i.zero, i.size, i.bytes)) = some (some (Value.agg #[.int .i64 0, .int .i64 0, .int .i64 0, .int .i64 0, .int .i64 0]), 5, 40) := by kernel_rfl
theorem makeBd (L : Nat) (hL : L ≤ 100) (wx : World) : (Instr.makeSlice 65 (.int .i64 L) (.int .i64 L)).run Try.prog wx = .ok (.slice (some ⟨wx.heap.size, 0, none⟩) L L) (wx.alloc (.cells ((List.replicate L M.bd0).flatMap bdc).toArray 81)) := by
  obtain ⟨i0, hi, hz0, hz1, hz2⟩ := info_parts infoBd
  have := run_makeSlice wx 65 81 i0 _ Try.underlying65 hi hz0 .i64 .i64 L L (by omega) (by omega) (by rw [hz1]; omega) (by rw [hz2]; omega) (by omega)
  rw [hz1, Int.toNat_natCast, zeros_bd L] at this
  exact this
theorem infoCs : (Try.prog.info? 31).map (fun i => (i.zero, i.size, i.bytes)) = some (some (.slice none 0 0), 1, 24) := by kernel_rfl

theorem PRow.base {b0 b1 : Nat} {W : World} {v : Hd} {x : List M.Cr} (h : PRow b0 W v x) (hb : b1 ≤ b0) : PRow b1 W v x := ⟨own_base h.1 hb, h.2⟩
theorem PRows.base {b0 b1 : Nat} {W : World} {vs : List Hd} {xs : List (List M.Cr)} (h : PRows b0 W vs xs) (hb : b1 ≤ b0) : PRows b1 W vs xs := ⟨h.1, fun j v t hv ht => (h.2 j v t hv ht).base hb⟩
theorem PRows.grown {b0 b1 : Nat} {w w' : World} {vs : List Hd} {xs : List (List M.Cr)} (h : PRows b0 w vs xs) {e sz n2 : Nat} {v2 : Value} {x2 : List Value} (h2 : w.ownsRow b1 e sz v2 n2 x2) (he : e ≠ 50) (hg : w.grownBy w' v2.ownBlock) : PRows b0 w' vs xs :=
  h.imp fun _ _ _ h => h.kept hg (own_ne (own_base h2 (Nat.zero_le _)) (own_base h (Nat.zero_le _)) he)
theorem PRows.mo {P : Program} {kt : TypeId} {g : Value → Option Value} {b0 mb : Nat} {w w' : World} {vs : List Hd} {xs : List (List M.Cr)} (h : PRows b0 w vs xs) (hm : MapIs P kt w mb g) (hb : Mo mb w w') : PRows b0 w' vs xs := h.imp fun _ _ _ ho => own_mo ho hm hb
theorem Mo.grown {mb : Nat} {a b c : World} {row : Option Nat} (h : Mo mb a b) (hg : b.grownBy c row) (hr : ∀ q, row = some q → a.heap.size ≤ q) : Mo mb a c :=
  ⟨hg.os.trans h.os, hg.tape.trans h.tape, hg.output.trans h.output, Nat.le_trans h.size hg.size, fun k hk hn => (hg.block k (Nat.lt_of_lt_of_le hk h.size) (fun e => by have := hr k e.symm; omega)).trans (h.block k hk hn)⟩
theorem own_neB {w : World} {base : Nat} {e t : TypeId} {size : Nat} {v : Value} {n : Nat} {xs : List Value} (h : w.ownsRow base e size v n xs) {b : Nat} {cs : Array Value} {z : Nat × Nat} (hb : w.heap[b]? = some (.cells cs t z)) (ht : t ≠ e) : some b ≠ v.ownBlock := fun q => by
  obtain ⟨c, hc⟩ := own_block_type h q.symm
  rw [hb] at hc
  cases hc
  exact ht rfl
theorem map_neB {P : Program} {kt : TypeId} {w : World} {mb : Nat} {g : Value → Option Value} (hm : MapIs P kt w mb g) {base : Nat} {e : TypeId} {size : Nat} {v : Value} {n : Nat} {xs : List Value} (h : w.ownsRow base e size v n xs) : some mb ≠ v.ownBlock := fun q => by
  obtain ⟨c, hc⟩ := own_block_type h q.symm
  exact map_ne hm hc rfl

/-- The bounds of a plan's crops over some truths. -/
def M.bounds (f : M.Cf) (ts : List M.Tr) (plan : List Int) : List M.Bd :=
  (List.range plan.length).map fun i => ⟨M.gauge M.Cr.wt (ts.map fun t => M.play f t plan) i, M.strength f plan i, M.gauge M.Cr.wo (ts.map fun t => M.play f t plan) i⟩

end Go.Proofs.Ytffbkbcjddigdaa
