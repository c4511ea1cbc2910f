import Derived.Test.YtffbkbcjddigdaaA13
set_option linter.unusedSimpArgs false
set_option linter.unusedVariables false
namespace Go.Proofs.Ytffbkbcjddigdaa
open Go.RowKit

/-- A crop. -/
structure M.Cr where
  wt : Int
  st : Int
  wo : Int
deriving DecidableEq
def crc (c : M.Cr) : List Value := [.int .i64 c.wt, .int .i64 c.st, .int .i64 c.wo]
theorem crc_len (ys : List M.Cr) : ∀ y ∈ ys, (crc y).length = 3 := fun _ _ => rfl
/-- What is left of the weight in a week. -/
def M.left (f : M.Cf) (t : M.Tr) (plan : List Int) (wk : Int) : Int := M.leaves f ((M.weights t.gr plan).getD wk.toNat 0) (t.wet.getD wk.toNat 0 == 1)
def M.crop (f : M.Cf) (t : M.Tr) (plan : List Int) (i : Nat) : M.Cr := ⟨M.left f t plan (plan.getD i 0), M.strength f plan i, M.left f t plan (plan.getD i 0) * M.strength f plan i⟩
def M.play (f : M.Cf) (t : M.Tr) (plan : List Int) : List M.Cr := (List.range plan.length).map (M.crop f t plan)
theorem M.play_len (f : M.Cf) (t : M.Tr) (plan : List Int) : (M.play f t plan).length = plan.length := by simp [M.play]

theorem M.wK_bd (plan : List Int) : ∀ (gs : List Int) (k : Nat) (m : Int), 0 ≤ m → (∀ g ∈ gs, 0 ≤ g ∧ g ≤ 50) → ∀ x ∈ M.wK plan gs k m, 0 ≤ x ∧ x ≤ m + 50 * gs.length
  | [], _, _, _, _, x, hx => by simp [M.wK] at hx
  | g :: gs, k, m, hm, hg, x, hx => by
    have h1 := hg g (by simp)
    have h2 : ∀ y ∈ gs, 0 ≤ y ∧ y ≤ 50 := fun y hy => hg y (by simp [hy])
    rw [M.wK, List.mem_cons] at hx
    rw [List.length_cons]
    rcases hx with rfl | hx
    · omega
    · split at hx
      · have := M.wK_bd plan gs (k + 1) 0 (by omega) h2 x hx; omega
      · have := M.wK_bd plan gs (k + 1) (m + g) (by omega) h2 x hx; omega
theorem M.weights_bd {gs plan : List Int} (hl : gs.length ≤ 10) (hg : ∀ g ∈ gs, 0 ≤ g ∧ g ≤ 50) : ∀ x ∈ M.weights gs plan, 0 ≤ x ∧ x ≤ 500 := by
  intro x hx
  unfold M.weights at hx
  rcases List.mem_append.1 hx with hx | hx
  · have := M.wK_bd plan gs 0 0 (by omega) hg x hx; omega
  · rw [List.mem_replicate] at hx; omega
theorem M.weights_len {gs plan : List Int} (hl : gs.length ≤ 10) : (M.weights gs plan).length = 10 := by
  unfold M.weights; rw [List.length_append, M.wK_len, List.length_replicate]; omega
theorem getD_bd {l : List Int} {lo hi : Int} (h0 : lo ≤ 0) (h1 : 0 ≤ hi) (h : ∀ x ∈ l, lo ≤ x ∧ x ≤ hi) (k : Nat) : lo ≤ l.getD k 0 ∧ l.getD k 0 ≤ hi := by
  rw [List.getD_eq_getElem?_getD]
  cases hx : l[k]? with
  | none => exact ⟨h0, h1⟩
  | some x => exact h x (List.mem_of_getElem? hx)
theorem M.leaves_bd {f : M.Cf} (ht : 0 ≤ f.trod ∧ f.trod ≤ 100) {a : Int} (h0 : 0 ≤ a) (b : Bool) : 0 ≤ M.leaves f a b ∧ M.leaves f a b ≤ a := by
  unfold M.leaves
  split
  · have h1 : a * f.trod ≤ a * 100 := Int.mul_le_mul_of_nonneg_left ht.2 h0
    have h2 : 0 ≤ a * f.trod := Int.mul_nonneg h0 ht.1
    omega
  · omega
theorem M.strength_bd {f : M.Cf} (hb : ∀ x ∈ f.base, 0 ≤ x ∧ x ≤ 200) (hl : 0 ≤ f.late) (plan : List Int) (i : Nat) : 0 ≤ M.strength f plan i ∧ M.strength f plan i ≤ 200 := by
  have h1 := getD_bd (by omega) (by omega) hb i
  unfold M.strength
  have h2 : 0 ≤ max 0 (M.age plan i - f.ripe) * f.late := Int.mul_nonneg (by omega) hl
  omega

theorem M.inAll_mem : ∀ (ns : List Int) (rs : List M.Rg), M.inAll ns rs = true → ∀ n ∈ ns, ∃ r ∈ rs, M.holds r n = true
  | [], _, _, n, hn => by simp at hn
  | x :: xs, [], h, _, _ => by simp [M.inAll] at h
  | x :: xs, r :: rs, h, n, hn => by
    rw [M.inAll, Bool.and_eq_true] at h
    rcases List.mem_cons.1 hn with rfl | hn
    · exact ⟨r, by simp, h.1⟩
    · obtain ⟨r', hr, hh⟩ := M.inAll_mem xs rs h.2 n hn
      exact ⟨r', by simp [hr], hh⟩
theorem M.listed_bd {f : M.Cf} (hv : M.valid f = true) {t : M.Tr} (h : M.listed f t = true) : t.gr.length = f.gr.length ∧ t.wet.length = f.wet.length ∧ (∀ g ∈ t.gr, 0 ≤ g ∧ g ≤ 50) ∧ (∀ g ∈ t.wet, 0 ≤ g ∧ g ≤ 50) := by
  unfold M.listed at h
  simp only [Bool.and_eq_true, decide_eq_true_eq] at h
  have hb : ∀ n ∈ t.gr ++ t.wet, 0 ≤ n ∧ n ≤ 50 := fun n hn => by
    obtain ⟨r, hr, hh⟩ := M.inAll_mem _ _ h.2.2 n hn
    have := M.ranges_bd hv r hr
    simp [M.holds] at hh
    omega
  exact ⟨h.1, h.2.1, fun g hg => hb g (by simp [hg]), fun g hg => hb g (by simp [hg])⟩

theorem set_tri : ∀ (ys : List M.Cr) (k : Nat) (r : M.Cr), k < ys.length → (((ys.flatMap crc).set (k * 3) (.int .i64 r.wt)).set (k * 3 + 1) (.int .i64 r.st)).set (k * 3 + 2) (.int .i64 r.wo) = (ys.set k r).flatMap crc
  | [], _, _, h => by simp at h
  | y :: t, 0, r, _ => by simp [crc, List.flatMap_cons]
  | y :: t, k + 1, r, h => by
    rw [List.flatMap_cons, List.set_cons_succ, List.flatMap_cons, ← set_tri t k r (by simpa using h)]
    show (((Value.int .i64 y.wt :: Value.int .i64 y.st :: Value.int .i64 y.wo :: t.flatMap crc).set ((k + 1) * 3) _).set ((k + 1) * 3 + 1) _).set ((k + 1) * 3 + 2) _ = _
    rw [show (k + 1) * 3 = k * 3 + 1 + 1 + 1 from by omega]
    simp only [List.set_cons_succ]
    rfl
theorem tri_get (ys : List M.Cr) (k : Nat) (h : k < ys.length) : ∃ a b c, (ys.flatMap crc)[k * 3]? = some (.int .i64 a) ∧ (ys.flatMap crc)[k * 3 + 1]? = some (.int .i64 b) ∧ (ys.flatMap crc)[k * 3 + 2]? = some (.int .i64 c) := by
  have hx : ys[k]? = some (ys[k]'h) := List.getElem?_eq_getElem _
  exact ⟨_, _, _, flat_get crc 3 ys (fun _ _ => rfl) k _ hx 0 _ rfl, flat_get crc 3 ys (fun _ _ => rfl) k _ hx 1 _ rfl, flat_get crc 3 ys (fun _ _ => rfl) k _ hx 2 _ rfl⟩
theorem zeros_tri : ∀ D : Nat, madeCells (Value.agg #[.int .i64 0, .int .i64 0, .int .i64 0]).cells (D * 3) = ((List.replicate D (⟨0, 0, 0⟩ : M.Cr)).flatMap crc).toArray := by
  intro D
  have h : ∀ D : Nat, ((List.replicate D (⟨0, 0, 0⟩ : M.Cr)).flatMap crc) = List.replicate (D * 3) (Value.int .i64 0) := by
    intro D
    induction D with
    | zero => rfl
    | succ D ih =>
      rw [List.replicate_succ, List.flatMap_cons, ih, show (D + 1) * 3 = D * 3 + 1 + 1 + 1 from by omega]
      simp [crc, List.replicate_succ]
  rw [h D]
  unfold madeCells
  apply Array.ext
  · simp
  · intro i h1 h2
    have h3 : i % 3 < 3 := Nat.mod_lt _ (by omega)
    have h4 : ∀ j : Nat, j < 3 → (Value.agg #[.int .i64 0, .int .i64 0, .int .i64 0]).cells.getD j default = .int .i64 0 := by
      intro j hj
      match j, hj with
      | 0, _ => rfl
      | 1, _ => rfl
      | 2, _ => rfl
    simp [Value.cells] at h4 ⊢
    first | exact h4 _ h3 | (have := h4 _ h3; simpa using this)
theorem infoCr : (Try.prog.info? 50).map (fun i => (i.zero, i.size, i.bytes)) = some (some (.agg #[.int .i64 0, .int .i64 0, .int .i64 0]), 3, 24) := by kernel_rfl
theorem makeCr (L : Nat) (hL : L ≤ 100) (wx : World) : (Instr.makeSlice 31 (.int .i64 L) (.int .i64 L)).run Try.prog wx = .ok (.slice (some ⟨wx.heap.size, 0, none⟩) L L) (wx.alloc (.cells ((List.replicate L (⟨0, 0, 0⟩ : M.Cr)).flatMap crc).toArray 50)) := by
  obtain ⟨i0, hi, hz0, hz1, hz2⟩ := info_parts infoCr
  have := run_makeSlice wx 31 50 i0 _ Try.underlying31 hi hz0 .i64 .i64 L L (by omega) (by omega) (by rw [hz1]; omega) (by rw [hz2]; omega) (by omega)
  rw [hz1, Int.toNat_natCast, zeros_tri L] at this
  exact this

end Go.Proofs.Ytffbkbcjddigdaa
