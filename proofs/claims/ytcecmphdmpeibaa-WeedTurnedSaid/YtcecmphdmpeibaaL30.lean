import Derived.Test.YtcecmphdmpeibaaL29
import Derived.Test.YtcecmphdmpeibaaL20
set_option linter.unusedSimpArgs false
set_option linter.unusedVariables false
namespace Go.Proofs.Ytcecmphdmpeibaa
open Go.RowKit

theorem M.keepK_len (b : Nat) : ∀ (ts : List M.Tl) (i : Nat), (M.keepK b ts i).length ≤ ts.length
  | [], _ => Nat.le_refl _
  | t :: r, i => by
    rw [M.keepK, List.length_append, List.length_cons]
    have := M.keepK_len b r (i + 1)
    split <;> simp <;> omega
theorem M.mem_keepK (b : Nat) (t : M.Tl) : ∀ (ts : List M.Tl) (i : Nat), t ∈ M.keepK b ts i ↔ ∃ j, ts[j]? = some t ∧ b / 2 ^ (i + j) % 2 = 1
  | [], i => by simp [M.keepK]
  | x :: r, i => by
    rw [M.keepK, List.mem_append, M.mem_keepK b t r (i + 1)]
    constructor
    · rintro (h | ⟨j, h1, h2⟩)
      · split at h
        · rename_i hb
          obtain rfl := List.mem_singleton.1 h
          exact ⟨0, rfl, hb⟩
        · cases h
      · exact ⟨j + 1, by simpa using h1, by rw [show i + (j + 1) = i + 1 + j from by omega]; exact h2⟩
    · rintro ⟨j, h1, h2⟩
      cases j with
      | zero =>
        left
        rw [if_pos (by simpa using h2)]
        simpa using h1.symm
      | succ j =>
        right
        exact ⟨j, by simpa using h1, by rw [show i + 1 + j = i + (j + 1) from by omega]; exact h2⟩
theorem M.keepK_sub {b : Nat} {ts : List M.Tl} {i : Nat} {t : M.Tl} (h : t ∈ M.keepK b ts i) : t ∈ ts := by
  obtain ⟨j, h1, _⟩ := (M.mem_keepK b t ts i).1 h
  exact List.mem_of_getElem? h1
theorem M.keepK_all (b : Nat) : ∀ (ts : List M.Tl) (i : Nat), (∀ j, j < ts.length → b / 2 ^ (i + j) % 2 = 1) → M.keepK b ts i = ts
  | [], _, _ => rfl
  | t :: r, i, h => by
    rw [M.keepK, if_pos (by have := h 0 (by simp); simpa using this), M.keepK_all b r (i + 1) (fun j hj => by rw [show i + 1 + j = i + (j + 1) from by omega]; exact h (j + 1) (by simpa using hj))]
    rfl

theorem M.valid_of {f : M.Fl} (h : M.check f = 0) : M.valid f = true := by
  unfold M.check at h
  split at h
  · simp at h
  · split at h
    · simp at h
    · rename_i h1
      simpa using h1
theorem M.check_sub {f : M.Fl} (h : M.check f = 0) (b : Nat) : M.check (M.subF f b) = 0 := by
  obtain ⟨r1, r7, d1, d3, hp, n5⟩ := M.check_bd h
  have hl := M.keepK_len b f.ts 0
  have hv : M.valid (M.subF f b) = true := by
    have hv0 := M.valid_of h
    simp only [M.valid, Bool.and_eq_true, decide_eq_true_eq, List.all_eq_true] at hv0 ⊢
    exact ⟨hv0.1, hv0.2.1, hv0.2.2.1, fun t ht => hv0.2.2.2 t (M.keepK_sub ht)⟩
  unfold M.check
  show (if f.rows > 7 ∨ f.wds > 3 ∨ (M.keepK b f.ts 0).length > 5 then (3 : Int) else if M.valid (M.subF f b) = false then 1 else if M.power f > 2500 then 3 else 0) = 0
  rw [if_neg (show ¬ (f.rows > 7 ∨ f.wds > 3 ∨ (M.keepK b f.ts 0).length > 5) by omega), if_neg (by rw [hv]; decide), if_neg (show ¬ M.power f > 2500 by omega)]

theorem some_table : ((List.range 6).all fun n => (M.bools n).all fun x => (List.range (2 ^ n)).all fun b => decide (decide (M.tobits x 0 0 &&& b = b) = (List.range n).all fun j => b / 2 ^ j % 2 != 1 || !(x.getD j false))) = true := by decide +kernel
theorem M.some_bits {n : Nat} (hn : n ≤ 5) {x : List Bool} (hx : x.length = n) {b : Nat} (hb : b < 2 ^ n) : (M.tobits x 0 0 &&& b = b) ↔ ∀ j, j < n → b / 2 ^ j % 2 = 1 → x.getD j false = false := by
  have h0 := some_table
  rw [List.all_eq_true] at h0
  have h1 := h0 n (List.mem_range.2 (by omega))
  rw [List.all_eq_true] at h1
  have h2 := h1 x (by rw [← hx]; exact M.mem_bools x)
  rw [List.all_eq_true] at h2
  have h3 := h2 b (List.mem_range.2 hb)
  rw [decide_eq_true_eq] at h3
  rw [← decide_eq_true_eq (p := M.tobits x 0 0 &&& b = b), h3, List.all_eq_true]
  constructor
  · intro h j hj hb
    have := h j (List.mem_range.2 hj)
    simpa [hb] using this
  · intro h j hj
    have := h j (List.mem_range.1 hj)
    by_cases hb : b / 2 ^ j % 2 = 1
    · rw [this hb]; simp
    · have hb0 : b / 2 ^ j % 2 = 0 := by omega
      rw [hb0]; rfl

/-- Some tallies can be kept together if some whole list keeps them. -/
theorem M.can_iff {f : M.Fl} (h : M.check f = 0) {b : Nat} (hb : b < 2 ^ f.ts.length) : M.can (M.rall f) b = true ↔ ∃ l, M.Say f l ∧ M.Tru (M.subF f b) l := by
  obtain ⟨r1, r7, d1, d3, hp, n5⟩ := M.check_bd h
  have htl := M.tally_of h
  have key : ∀ l, M.Say f l → ((M.rbits f l &&& b = b) ↔ ∀ ty ∈ M.keepK b f.ts 0, M.holds ty.ct (M.count (M.pad l) ty.wd ty.fr ty.to) = true) := by
    intro l hl
    rw [M.rbits, M.rbits_map, M.some_bits n5 (by simp) hb]
    have hg : ∀ j t, f.ts[j]? = some t → (f.ts.map fun t => !M.holds t.ct (M.count l t.wd t.fr t.to)).getD j false = !M.holds t.ct (M.count (M.pad l) t.wd t.fr t.to) := by
      intro j t ht
      have h1 := htl t (List.mem_of_getElem? ht)
      have h2 := hl.1
      rw [List.getD_eq_getElem?_getD, List.getElem?_map, ht, M.count_pad (by omega) (by omega)]
      rfl
    constructor
    · intro hx t ht
      obtain ⟨j, h1, h2⟩ := (M.mem_keepK b t _ _).1 ht
      rw [Nat.zero_add] at h2
      obtain ⟨hj, _⟩ := List.getElem?_eq_some_iff.1 h1
      have := hx j hj h2
      rw [hg j t h1] at this
      simpa using this
    · intro hx j hj hbj
      have ht : f.ts[j]? = some f.ts[j] := List.getElem?_eq_getElem hj
      rw [hg j _ ht, hx _ ((M.mem_keepK b _ _ _).2 ⟨j, ht, by rw [Nat.zero_add]; exact hbj⟩)]
      rfl
  unfold M.can
  rw [List.any_eq_true]
  constructor
  · rintro ⟨a, ha, hab⟩
    obtain ⟨i, _, _, h3, rfl⟩ := (M.mem_rallK f a _ _).1 ha
    obtain ⟨h4, h5⟩ := (M.isAllowed_iff h).1 h3
    exact ⟨_, h4, h5, (key _ h4).1 (by simpa using hab)⟩
  · rintro ⟨l, hl, h1, h2⟩
    obtain ⟨i, hi, rfl⟩ := M.nth_of_say h hl
    exact ⟨_, (M.mem_rallK f _ _ _).2 ⟨i, Nat.zero_le _, by omega, (M.isAllowed_iff h).2 ⟨hl, h1⟩, rfl⟩, by simpa using (key _ hl).2 h2⟩

/-- A field of some tallies: whether it can be true. -/
theorem M.begin_sub {f : M.Fl} (h : M.check f = 0) {b : Nat} (hb : b < 2 ^ f.ts.length) : M.begin (M.subF f b) true = if M.can (M.rall f) b then 0 else 11 := by
  rw [← M.sure_begin]
  have hc := M.check_sub h b
  unfold M.sureE
  rw [if_pos hc]
  cases hk : M.can (M.rall f) b with
  | true =>
    obtain ⟨l, h1, h2⟩ := (M.can_iff h hb).1 hk
    have hm : l ∈ M.rtruths (M.subF f b) := (M.mem_rtruths hc l).2 ⟨h1, h2⟩
    rw [if_neg (by intro he; rw [List.eq_nil_of_length_eq_zero he] at hm; cases hm)]
    rfl
  | false =>
    rw [if_pos]
    · rfl
    · rcases hr : M.rtruths (M.subF f b) with _ | ⟨l, r⟩
      · rfl
      · have hm : l ∈ M.rtruths (M.subF f b) := by rw [hr]; simp
        obtain ⟨h1, h2⟩ := (M.mem_rtruths hc l).1 hm
        rw [(M.can_iff h hb).2 ⟨l, h1, h2⟩] at hk
        cases hk

theorem M.can_zero {f : M.Fl} (h : M.check f = 0) : M.can (M.rall f) 0 = true := by
  obtain ⟨a, ha⟩ := M.rall_some h
  unfold M.can
  rw [List.any_eq_true]
  exact ⟨a, ha, by simp⟩
theorem all_bits : ((List.range 8).all fun n => (List.range n).all fun j => decide ((2 ^ n - 1) / 2 ^ j % 2 = 1)) = true := by decide +kernel
theorem M.some_all {f : M.Fl} (hn : f.ts.length ≤ 7) : M.subF f (2 ^ f.ts.length - 1) = f := by
  have h0 := all_bits
  rw [List.all_eq_true] at h0
  have h1 := h0 f.ts.length (List.mem_range.2 (by omega))
  rw [List.all_eq_true] at h1
  unfold M.subF
  rw [M.keepK_all _ _ _ (fun j hj => by have := h1 j (List.mem_range.2 hj); rw [Nat.zero_add]; simpa using this)]

theorem M.rfirst_spec (all : List Nat) : ∀ (j k : Nat), (M.rfirst all k j < 0 ∧ ∀ i, k ≤ i → i < k + j → M.can all (2 ^ (i + 1) - 1) = true) ∨ ∃ i : Nat, M.rfirst all k j = i ∧ k ≤ i ∧ i < k + j ∧ M.can all (2 ^ (i + 1) - 1) = false ∧ ∀ i', k ≤ i' → i' < i → M.can all (2 ^ (i' + 1) - 1) = true
  | 0, k => .inl ⟨by show (-1 : Int) < 0; decide, fun i h1 h2 => by omega⟩
  | j + 1, k => by
    rw [M.rfirst]
    cases hc : M.can all (2 ^ (k + 1) - 1) with
    | false =>
      right
      rw [if_neg (by decide)]
      exact ⟨k, rfl, Nat.le_refl _, by omega, hc, fun i' h1 h2 => by omega⟩
    | true =>
      rw [if_pos rfl]
      rcases M.rfirst_spec all j (k + 1) with ⟨h1, h2⟩ | ⟨i, h1, h2, h3, h4, h5⟩
      · refine .inl ⟨h1, fun i hi hi2 => ?_⟩
        rcases Nat.eq_or_lt_of_le hi with rfl | hlt
        · exact hc
        · exact h2 i hlt (by omega)
      · refine .inr ⟨i, h1, by omega, by omega, h4, fun i' hi hi2 => ?_⟩
        rcases Nat.eq_or_lt_of_le hi with rfl | hlt
        · exact hc
        · exact h5 i' hlt hi2

/-- What First says, in terms of fields of some tallies. -/
theorem M.first_some {f : M.Fl} (h : M.check f = 0) : (M.First f = (0, 7) ∧ M.begin f true = 0) ∨ ∃ k : Nat, M.First f = ((k : Int), 0) ∧ k < f.ts.length ∧ M.begin (M.subF f (2 ^ k - 1)) true = 0 ∧ M.begin (M.subF f (2 ^ (k + 1) - 1)) true = 11 := by
  obtain ⟨_, _, _, _, _, n5⟩ := M.check_bd h
  have hpw : ∀ i, i ≤ f.ts.length → 2 ^ i - 1 < 2 ^ f.ts.length := fun i hi => by
    have h1 : 0 < 2 ^ i := Nat.pow_pos (by omega)
    have h2 : 2 ^ i ≤ 2 ^ f.ts.length := Nat.pow_le_pow_right (by omega) hi
    omega
  rcases M.rfirst_spec (M.rall f) f.ts.length 0 with ⟨h1, h2⟩ | ⟨i, h1, _, h3, h4, h5⟩
  · left
    rcases M.first_same h with ⟨_, h4⟩ | ⟨h3, _⟩
    · refine ⟨h4, ?_⟩
      have hb := M.begin_sub h (b := 2 ^ f.ts.length - 1) (hpw _ (Nat.le_refl _))
      rw [M.some_all (by omega)] at hb
      rw [hb, if_pos]
      rcases Nat.eq_zero_or_pos f.ts.length with h0 | h0
      · rw [h0]; exact M.can_zero h
      · have := h2 (f.ts.length - 1) (Nat.zero_le _) (by omega)
        rwa [show f.ts.length - 1 + 1 = f.ts.length from by omega] at this
    · omega
  · right
    rcases M.first_same h with ⟨h6, _⟩ | ⟨_, h7⟩
    · omega
    · refine ⟨i, by rw [h7, h1], by omega, ?_, ?_⟩
      · rw [M.begin_sub h (hpw i (by omega)), if_pos]
        rcases Nat.eq_zero_or_pos i with h0 | h0
        · rw [h0]; exact M.can_zero h
        · have := h5 (i - 1) (Nat.zero_le _) (by omega)
          rwa [show i - 1 + 1 = i from by omega] at this
      · rw [M.begin_sub h (hpw (i + 1) (by omega)), h4]; rfl

/-- Done, where its ranges are of no use. -/
theorem done_w (f : M.Fl) (A : Option Addr) (n c : Nat) (w : World) (hs : Sl tcs 5 w w.heap.size A n c f.ts) :
    Calls Try.prog 28 #[.agg #[.int .i64 f.rows, .int .i64 f.wds, .int .i64 f.lf.lo, .int .i64 f.lf.hi, .slice A n c]] w fun e w' => (∃ v, e = .returned (.tuple #[v, .int .i64 (M.begin f true)])) ∧ Ev w w' := by
  refine (Done_c f A n c w hs).mono ?_
  rintro e w' ⟨h, hE⟩
  refine ⟨?_, hE⟩
  by_cases h0 : M.begin f true = 0
  · rw [if_pos h0] at h
    obtain ⟨B, d, rfl, _⟩ := h
    exact ⟨_, by rw [h0]⟩
  · rw [if_neg h0] at h
    exact ⟨_, h⟩

end Go.Proofs.Ytcecmphdmpeibaa
