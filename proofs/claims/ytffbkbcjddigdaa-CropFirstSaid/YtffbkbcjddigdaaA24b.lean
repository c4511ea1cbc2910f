import Derived.Test.YtffbkbcjddigdaaA24
set_option linter.unusedSimpArgs false
set_option linter.unusedVariables false
namespace Go.Proofs.Ytffbkbcjddigdaa
open Go.RowKit Go.Shelf
attribute [local go_sem] Oper.semAt_some

theorem upon_in {l n : Nat} {P : Program} {o : Oper} {a : Act} {K : Act → World → Prop} {Q : Exit → Act → World → Prop} {r : Result Next} (h : o.upon P a K Q r) : o.uponIn (Fence.wide.inRound l) n P a K Q r := by
  cases r with
  | ok x w' =>
    cases x <;> simp only [Oper.upon, Oper.uponIn] at h ⊢ <;> first
      | exact h
      | exact ⟨fun h => (by cases h), CallsIn.inRound l (callsIn_wide.2 h)⟩
      | exact h.elim
      | exact ⟨fun h => (by cases h), fun c cs _ => let ⟨v, w', r, s⟩ := h c cs; ⟨v, w', r, stepsIn_wide.2 s⟩⟩
  | halt x w' => cases x <;> simp only [Oper.upon, Oper.uponIn] at h ⊢ <;> exact h

theorem wpAnyR_takeD {l n : Nat} {P : Program} {ops : Array Oper} {Q : Exit → Act → World → Prop} {md : Region.Mode} {S : World → Prop} {i : Nat} {oi : Oper} {v : Value} {fuel : Nat} {listed : Array Bool} {a : Act} {w : World} (d : Option Tmp) (hi : ops[i]? = some oi) (hd : oi.dst = d)
    (hs : Region.noSelect ops = true) (hf : Region.free md ops listed i = true) (hr : (Region.ready md ops listed).contains i = true)
    (hQ : ∀ c a w, Q (.panic c) (a.put d v) w → Q (.panic c) a w) (hy : YieldsIf P ops S oi v a) (hS : S w)
    (h : wpAnyR l n P md ops Q S fuel (listed.setIfInBounds i true) (a.put d v) w) : wpAnyR l n P md ops Q S (fuel + 1) listed a w := by
  subst hd
  exact wpAnyR_take hi hs hf hr hQ hy hS h
theorem wpAnyR_skip {l n : Nat} {P : Program} {ops : Array Oper} {Q : Exit → Act → World → Prop} {md : Region.Mode} {S : World → Prop} {i : Nat} {fuel : Nat} {listed : Array Bool} {a : Act} {w : World} (d : Option Tmp) (hi : (ops[i]?).map Oper.dst = some d)
    (hs : Region.noSelect ops = true) (hf : Region.free md ops listed i = true) (hr : (Region.ready md ops listed).contains i = true)
    (hQ : ∀ c a w, Q (.panic c) (a.put d undef) w → Q (.panic c) a w) (hw : (match ops[i]? with | some o => Region.wanted o (yielded ops a.tmps) | none => true) = false) (hS : S w)
    (h : wpAnyR l n P md ops Q S fuel (listed.setIfInBounds i true) (a.put d undef) w) : wpAnyR l n P md ops Q S (fuel + 1) listed a w := by
  cases ho : ops[i]? with
  | none => rw [ho] at hi; cases hi
  | some o =>
    rw [ho] at hi hw
    obtain rfl : o.dst = d := by simpa using hi
    exact wpAnyR_take ho hs hf hr hQ (Or.inr ⟨hw, rfl⟩) hS h

theorem wideWt : (match Try.prog.underlying 111 with | some (.array _ _) | some (.struct _) => true | _ => false) = true := by rw [Try.underlying111]
theorem rowWt : (111 : TypeId) < Try.prog.types.size := by rw [show Try.prog.types.size = 193 from Try.types_size]; decide
set_option maxRecDepth 100000 in
theorem lawWt : Go.WideMaps.KeyLaw Try.prog 111 := deep_law_laid laidOut (m := 2) (by omega) rowWt (by kernel_rfl) wideWt
set_option maxRecDepth 100000 in
theorem keyWt {l : List Int} (hl : l.length = 10) (h : ∀ x ∈ l, Wf x) : ∃ k, keyOf Try.prog 111 (sv l) = some k := by
  obtain ⟨a0, a1, a2, a3, a4, a5, a6, a7, a8, a9, rfl⟩ := list10 hl
  have hk : Try.prog.keyType 111 = true := by kernel_rfl
  have hcl : Try.prog.cellsOf 111 = 10 := by kernel_rfl
  have hc3 : Try.prog.cellsOf 3 = 1 := by kernel_rfl
  have hf : (Value.agg #[Value.int .i64 a0, .int .i64 a1, .int .i64 a2, .int .i64 a3, .int .i64 a4, .int .i64 a5, .int .i64 a6, .int .i64 a7, .int .i64 a8, .int .i64 a9]).formed Try.prog 111 = true := by simp [Value.formed, Try.underlying111, hcl]
  have hsz : Try.prog.types.size = 193 := Try.types_size
  show ∃ k, keyOf Try.prog 111 (.agg #[Value.int .i64 a0, .int .i64 a1, .int .i64 a2, .int .i64 a3, .int .i64 a4, .int .i64 a5, .int .i64 a6, .int .i64 a7, .int .i64 a8, .int .i64 a9]) = some k
  unfold keyOf
  rw [Try.underlying111]
  simp only [hk, hf, Bool.and_self, if_true, hsz]
  unfold Program.keyLits
  rw [Try.underlying111]
  simp [hcl, hc3, Value.cells, show List.range 10 = [0, 1, 2, 3, 4, 5, 6, 7, 8, 9] from rfl, lits3 192 a0 (h _ (by simp)), lits3 192 a1 (h _ (by simp)), lits3 192 a2 (h _ (by simp)), lits3 192 a3 (h _ (by simp)), lits3 192 a4 (h _ (by simp)), lits3 192 a5 (h _ (by simp)), lits3 192 a6 (h _ (by simp)), lits3 192 a7 (h _ (by simp)), lits3 192 a8 (h _ (by simp)), lits3 192 a9 (h _ (by simp))]
set_option maxRecDepth 100000 in
theorem eqWt {x y : List Int} (hx : x.length = 10) (hy : y.length = 10) (wx : ∀ z ∈ x, Wf z) (wy : ∀ z ∈ y, Wf z) (W : World) : (Op.equalIn 10000 111 (sv x) (sv y)).run Try.prog W = .ok (decide (x = y)) W := by
  obtain ⟨kx, hkx⟩ := keyWt hx wx
  obtain ⟨ky, hky⟩ := keyWt hy wy
  obtain ⟨r, hr, hiff⟩ := run_equal_deep (P := Try.prog) W (m := 2) (by omega) (k := 111) (by kernel_rfl) wideWt hkx hky
  have e : r = decide (x = y) := by
    rw [Bool.eq_iff_iff, hiff, decide_eq_true_eq]
    constructor
    · intro h
      rw [h] at hkx
      exact sv_inj (lawWt.inj hkx hky)
    · intro h
      subst h
      rw [hkx] at hky
      exact Option.some.inj hky
  rw [← e]
  exact hr
theorem M.stK_bd (f : M.Cf) : ∀ (acc : List (List Int)) (ts : List M.Tr), (∀ x ∈ acc, ∀ y ∈ x, 0 ≤ y ∧ y ≤ 500) → (∀ t ∈ ts, t.gr.length ≤ 10 ∧ ∀ g ∈ t.gr, 0 ≤ g ∧ g ≤ 50) → ∀ x ∈ M.stK f acc ts, ∀ y ∈ x, 0 ≤ y ∧ y ≤ 500
  | _, [], h, _ => h
  | acc, t :: r, h, ht => by
    unfold M.stK
    refine M.stK_bd f _ r ?_ (fun u hu => ht u (by simp [hu]))
    split
    · exact h
    · intro x hx
      rcases List.mem_append.1 hx with hx | hx
      · exact h x hx
      · rw [show x = M.weights t.gr f.crops by simpa using hx]; exact M.weights_bd (ht t (by simp)).1 (ht t (by simp)).2
/-- What a round of open's loop keeps. -/
structure Kp (B p : Nat) (X Y : World) : Prop where
  os : Y.os = X.os
  tape : Y.tape = X.tape
  output : Y.output = X.output
  size : X.heap.size ≤ Y.heap.size
  block : ∀ k, k < B → k ≠ p → k < X.heap.size → Y.heap[k]? = X.heap[k]?
theorem Kp.refl (B p : Nat) (X : World) : Kp B p X X := ⟨rfl, rfl, rfl, Nat.le_refl _, fun _ _ _ _ => rfl⟩
theorem Kp.trans {B p : Nat} {X Y Z : World} (h : Kp B p X Y) (k : Kp B p Y Z) : Kp B p X Z :=
  ⟨k.os.trans h.os, k.tape.trans h.tape, k.output.trans h.output, Nat.le_trans h.size k.size, fun i h1 h2 h3 => (k.block i h1 h2 (Nat.lt_of_lt_of_le h3 h.size)).trans (h.block i h1 h2 h3)⟩
theorem Kp.ev {B p : Nat} {X Y : World} (h : Ev X Y) : Kp B p X Y := ⟨h.os, h.tape, h.output, h.size, fun k _ _ hk => h.block k hk⟩
theorem Kp.grown {B p : Nat} {X Y : World} {row : Option Nat} (hg : X.grownBy Y row) (hr : ∀ k, row = some k → B ≤ k) : Kp B p X Y :=
  ⟨hg.os, hg.tape, hg.output, hg.size, fun k h1 _ h3 => hg.block k h3 (fun e => by have := hr k e.symm; omega)⟩
theorem Kp.setCell {B p : Nat} (X : World) (j : Nat) (v : Value) : Kp B p X (X.setCell ⟨p, j, none⟩ v) :=
  ⟨rfl, rfl, rfl, by simp [World.setCell], fun k _ h2 _ => Below.heap_setCell _ _ _ _ h2⟩

end Go.Proofs.Ytffbkbcjddigdaa
