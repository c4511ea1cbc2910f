import Derived.Test.YtcecmphdmpeibaaL18
import Derived.Test.YtcecmphdmpeibaaL19
namespace Go.Proofs.Ytcecmphdmpeibaa
open Go.RowKit

/-- A pattern of faults as bits: those that are right. -/
def M.tobits : List Bool → Nat → Nat → Nat
  | [], _, acc => acc
  | b :: r, i, acc => M.tobits r (i + 1) (if !b then acc ||| 2 ^ i else acc)

theorem M.rbits_map (l : List Int) : ∀ (ts : List M.Tl) (i acc : Nat), M.rbitsK l ts i acc = M.tobits (ts.map fun t => !M.holds t.ct (M.count l t.wd t.fr t.to)) i acc
  | [], _, _ => rfl
  | t :: r, i, acc => by
    rw [M.rbitsK, List.map_cons, M.tobits, M.rbits_map l r]
    simp

theorem M.wrong_take {f : M.Fl} (hn : f.ts.length ≤ 5) (s : List Int) : (M.wrong f s).take f.ts.length = f.ts.map fun t => !M.holds t.ct (M.count s t.wd t.fr t.to) := by
  unfold M.wrong M.wrongAt
  match h : f.ts, hn with
  | [], _ => rfl
  | [t0], _ => rfl
  | [t0, t1], _ => rfl
  | [t0, t1, t2], _ => rfl
  | [t0, t1, t2, t3], _ => rfl
  | [t0, t1, t2, t3, t4], _ => rfl
theorem M.wrong_drop {f : M.Fl} (hn : f.ts.length ≤ 5) (s : List Int) : M.wrong f s = (M.wrong f s).take f.ts.length ++ List.replicate (5 - f.ts.length) false := by
  unfold M.wrong M.wrongAt
  match h : f.ts, hn with
  | [], _ => rfl
  | [t0], _ => rfl
  | [t0, t1], _ => rfl
  | [t0, t1, t2], _ => rfl
  | [t0, t1, t2, t3], _ => rfl
  | [t0, t1, t2, t3, t4], _ => rfl

/-- All lists of Booleans of a length. -/
def M.bools : Nat → List (List Bool)
  | 0 => [[]]
  | n + 1 => (M.bools n).flatMap fun l => [false :: l, true :: l]
theorem M.mem_bools : ∀ (l : List Bool), l ∈ M.bools l.length
  | [] => by simp [M.bools]
  | b :: r => by
    rw [List.length_cons, M.bools, List.mem_flatMap]
    exact ⟨r, M.mem_bools r, by cases b <;> simp⟩

theorem leave_table : ((List.range 6).all fun n => (M.bools n).all fun x => ((List.range n).all fun k => decide (M.agree1 (k + 1) (x ++ List.replicate (5 - n) false) = decide (M.tobits x 0 0 &&& (2 ^ (k + 1) - 1) = 2 ^ (k + 1) - 1))) && (decide (M.tobits x 0 0 < 128) && (List.range (2 ^ n)).all fun b => decide (M.spares1 (M.bits b) (x ++ List.replicate (5 - n) false) = decide (M.tobits x 0 0 &&& ((2 ^ n - 1) ^^^ ((2 ^ n - 1) &&& b)) = (2 ^ n - 1) ^^^ ((2 ^ n - 1) &&& b))))) = true := by decide +kernel

theorem M.table {n : Nat} (hn : n ≤ 5) {x : List Bool} (hx : x.length = n) : (∀ k, k < n → M.agree1 (k + 1) (x ++ List.replicate (5 - n) false) = decide (M.tobits x 0 0 &&& (2 ^ (k + 1) - 1) = 2 ^ (k + 1) - 1)) ∧ M.tobits x 0 0 < 128 ∧
    ∀ b, b < 2 ^ n → M.spares1 (M.bits b) (x ++ List.replicate (5 - n) false) = decide (M.tobits x 0 0 &&& ((2 ^ n - 1) ^^^ ((2 ^ n - 1) &&& b)) = (2 ^ n - 1) ^^^ ((2 ^ n - 1) &&& b)) := by
  have h0 := leave_table
  rw [List.all_eq_true] at h0
  have h1 := h0 n (List.mem_range.2 (by omega))
  rw [List.all_eq_true] at h1
  have h2 := h1 x (by rw [← hx]; exact M.mem_bools x)
  simp only [Bool.and_eq_true, List.all_eq_true, decide_eq_true_eq] at h2
  obtain ⟨h3, h4, h5⟩ := h2
  exact ⟨fun k hk => h3 k (List.mem_range.2 hk), h4, fun b hb => h5 b (List.mem_range.2 hb)⟩

theorem M.mem_sees (f : M.Fl) : ∀ (ss : List (List Int)) (acc : List (List Bool)) (x : List Bool), x ∈ M.sees f acc ss ↔ x ∈ acc ∨ ∃ s ∈ ss, x = M.wrong f s
  | [], acc, x => by simp [M.sees]
  | s :: r, acc, x => by
    rw [M.sees, M.mem_sees f r]
    constructor
    · rintro (h | ⟨t, h1, h2⟩)
      · split at h
        · exact .inl h
        · rcases List.mem_append.1 h with h | h
          · exact .inl h
          · exact .inr ⟨s, by simp, by simpa using h⟩
      · exact .inr ⟨t, by simp [h1], h2⟩
    · rintro (h | ⟨t, h1, h2⟩)
      · left
        split
        · exact h
        · simp [h]
      · rcases List.mem_cons.1 h1 with rfl | h1
        · left
          split
          · rename_i ha
            rw [List.any_eq_true] at ha
            obtain ⟨y, hy, he⟩ := ha
            rw [h2, of_decide_eq_true he]
            exact hy
          · simp [h2]
        · exact .inr ⟨t, h1, h2⟩

theorem M.isAllowed_iff {f : M.Fl} (h : M.check f = 0) {l : List Int} : M.isAllowed f l = true ↔ M.Say f l ∧ M.allows f (M.pad l) = true := by
  obtain ⟨r1, r7, d1, d3, _, _⟩ := M.check_bd h
  unfold M.isAllowed M.Say M.allows M.isIn
  simp only [Bool.and_eq_true, decide_eq_true_eq, List.all_eq_true]
  constructor
  · rintro ⟨h1, h2, h3⟩
    exact ⟨⟨h2, fun y hy => by have := h1 y hy; omega⟩, by rw [M.count_pad (by omega) (by omega)]; exact h3⟩
  · rintro ⟨⟨h2, h1⟩, h3⟩
    exact ⟨fun y hy => by have := h1 y hy; omega, h2, by rw [M.count_pad (by omega) (by omega)] at h3; exact h3⟩

theorem M.mem_rallK (f : M.Fl) (a : Nat) : ∀ (j k : Nat), a ∈ M.rallK f k j ↔ ∃ i, k ≤ i ∧ i < k + j ∧ M.isAllowed f (M.nth f i) = true ∧ a = M.rbits f (M.nth f i)
  | 0, k => by
    simp only [M.rallK, List.not_mem_nil, false_iff]
    rintro ⟨i, h1, h2, _⟩
    omega
  | j + 1, k => by
    rw [M.rallK, List.mem_append, M.mem_rallK f a j (k + 1)]
    constructor
    · rintro (h | ⟨i, h1, h2, h3⟩)
      · split at h
        · rename_i hc
          exact ⟨k, Nat.le_refl _, by omega, hc, by simpa using h⟩
        · cases h
      · exact ⟨i, by omega, by omega, h3⟩
    · rintro ⟨i, h1, h2, h3, h4⟩
      rcases Nat.eq_or_lt_of_le h1 with rfl | h5
      · left
        rw [if_pos h3]; simp [h4]
      · exact .inr ⟨i, by omega, by omega, h3, h4⟩

/-- The reference's bits are those of the program's patterns. -/
theorem M.rall_finds {f : M.Fl} (h : M.check f = 0) (a : Nat) : a ∈ M.rall f ↔ ∃ x ∈ M.finds f, a = M.tobits (x.take f.ts.length) 0 0 := by
  obtain ⟨r1, r7, d1, d3, _, n5⟩ := M.check_bd h
  have ht := M.tally_of h
  have hb : ∀ l, M.Say f l → M.rbits f l = M.tobits ((M.wrong f (M.pad l)).take f.ts.length) 0 0 := by
    intro l hl
    rw [M.wrong_take n5, M.rbits, M.rbits_map]
    congr 1
    apply List.map_congr_left
    intro t hm
    have := ht t hm
    have := hl.1
    rw [M.count_pad (by omega) (by omega)]
  unfold M.rall
  rw [M.mem_rallK]
  unfold M.finds
  constructor
  · rintro ⟨i, _, _, h3, rfl⟩
    obtain ⟨hs, ha⟩ := (M.isAllowed_iff h).1 h3
    refine ⟨M.wrong f (M.pad (M.nth f i)), (M.mem_sees f _ _ _).2 (.inr ⟨M.pad (M.nth f i), (M.mem_sheets (good_of h) _).2 ⟨_, hs, rfl, ha⟩, rfl⟩), hb _ hs⟩
  · rintro ⟨x, hx, rfl⟩
    rcases (M.mem_sees f _ _ _).1 hx with hx | ⟨s, hs, rfl⟩
    · cases hx
    · obtain ⟨l, h1, rfl, h2⟩ := (M.mem_sheets (good_of h) s).1 hs
      obtain ⟨n, hn, rfl⟩ := M.nth_of_say h h1
      exact ⟨n, Nat.zero_le _, by omega, (M.isAllowed_iff h).2 ⟨h1, h2⟩, (hb _ h1).symm⟩

theorem M.finds_form {f : M.Fl} (h : M.check f = 0) {x : List Bool} (hx : x ∈ M.finds f) : (x.take f.ts.length).length = f.ts.length ∧ x = x.take f.ts.length ++ List.replicate (5 - f.ts.length) false := by
  obtain ⟨_, _, _, _, _, n5⟩ := M.check_bd h
  rcases (M.mem_sees f _ _ _).1 hx with hx | ⟨s, hs, rfl⟩
  · cases hx
  · exact ⟨by rw [M.wrong_take n5, List.length_map], M.wrong_drop n5 s⟩

theorem M.agree_can {f : M.Fl} (h : M.check f = 0) {k : Nat} (hk : k < f.ts.length) : M.agreeAll (k + 1) (M.finds f) = M.can (M.rall f) (2 ^ (k + 1) - 1) := by
  obtain ⟨_, _, _, _, _, n5⟩ := M.check_bd h
  unfold M.agreeAll M.can
  rw [Bool.eq_iff_iff, List.any_eq_true, List.any_eq_true]
  constructor
  · rintro ⟨x, hx, hp⟩
    obtain ⟨h1, h2⟩ := M.finds_form h hx
    obtain ⟨t1, _, _⟩ := M.table n5 h1
    rw [h2, t1 k hk] at hp
    exact ⟨_, (M.rall_finds h _).2 ⟨x, hx, rfl⟩, hp⟩
  · rintro ⟨a, ha, hp⟩
    obtain ⟨x, hx, rfl⟩ := (M.rall_finds h _).1 ha
    obtain ⟨h1, h2⟩ := M.finds_form h hx
    obtain ⟨t1, _, _⟩ := M.table n5 h1
    refine ⟨x, hx, ?_⟩
    rw [h2, t1 k hk]
    exact hp
theorem M.spare_can {f : M.Fl} (h : M.check f = 0) {b : Nat} (hb : b < 2 ^ f.ts.length) : M.sparesAll (M.bits b) (M.finds f) = M.can (M.rall f) ((2 ^ f.ts.length - 1) ^^^ ((2 ^ f.ts.length - 1) &&& b)) := by
  obtain ⟨_, _, _, _, _, n5⟩ := M.check_bd h
  unfold M.sparesAll M.can
  rw [Bool.eq_iff_iff, List.any_eq_true, List.any_eq_true]
  constructor
  · rintro ⟨x, hx, hp⟩
    obtain ⟨h1, h2⟩ := M.finds_form h hx
    obtain ⟨_, _, t1⟩ := M.table n5 h1
    rw [h2, t1 b hb] at hp
    exact ⟨_, (M.rall_finds h _).2 ⟨x, hx, rfl⟩, hp⟩
  · rintro ⟨a, ha, hp⟩
    obtain ⟨x, hx, rfl⟩ := (M.rall_finds h _).1 ha
    obtain ⟨h1, h2⟩ := M.finds_form h hx
    obtain ⟨_, _, t1⟩ := M.table n5 h1
    refine ⟨x, hx, ?_⟩
    rw [h2, t1 b hb]
    exact hp
theorem M.rall_small {f : M.Fl} (h : M.check f = 0) : ∀ a ∈ M.rall f, a < 128 := by
  obtain ⟨_, _, _, _, _, n5⟩ := M.check_bd h
  intro a ha
  obtain ⟨x, hx, rfl⟩ := (M.rall_finds h _).1 ha
  exact (M.table n5 (M.finds_form h hx).1).2.1

theorem M.cnt_rep (x y : Int) : ∀ n : Nat, M.cnt x (List.replicate n y) = if y = x then (n : Int) else 0
  | 0 => by simp [M.cnt]
  | n + 1 => by
    rw [List.replicate_succ, M.cnt, M.cnt_rep x y n]
    split <;> omega
theorem M.cnt_app (x : Int) : ∀ (a b : List Int), M.cnt x (a ++ b) = M.cnt x a + M.cnt x b
  | [], b => by simp [M.cnt]
  | y :: a, b => by rw [List.cons_append, M.cnt, M.cnt, M.cnt_app x a b]; omega

/-- Some list is allowed: as many rows are left as Left asks at least. -/
theorem M.some_allowed {f : M.Fl} (h : M.check f = 0) : ∃ l, M.isAllowed f l = true := by
  obtain ⟨r1, r7, d1, d3, _, n5⟩ := M.check_bd h
  obtain ⟨l0, l1, l2⟩ := M.left_of h
  refine ⟨List.replicate f.lf.lo.toNat (-1) ++ List.replicate (f.rows - f.lf.lo).toNat 0, ?_⟩
  have hlen : (List.replicate f.lf.lo.toNat (-1 : Int) ++ List.replicate (f.rows - f.lf.lo).toNat 0).length = f.rows.toNat := by simp; omega
  unfold M.isAllowed M.isIn
  simp only [Bool.and_eq_true, decide_eq_true_eq, List.all_eq_true]
  refine ⟨fun y hy => ?_, by rw [hlen]; omega, ?_⟩
  · rcases List.mem_append.1 hy with hy | hy
    · have := (List.mem_replicate.1 hy).2; omega
    · have := (List.mem_replicate.1 hy).2; omega
  · unfold M.count
    rw [show Int.toNat 0 = 0 from rfl, List.drop_zero, List.take_of_length_le (by rw [hlen]; omega), M.cnt_app, M.cnt_rep, M.cnt_rep]
    unfold M.holds
    simp only [Bool.and_eq_true, decide_eq_true_eq, ↓reduceIte]
    rw [if_neg (by decide)]
    omega
theorem M.rall_some {f : M.Fl} (h : M.check f = 0) : ∃ a, a ∈ M.rall f := by
  obtain ⟨l, hl⟩ := M.some_allowed h
  obtain ⟨n, hn, rfl⟩ := M.nth_of_say h ((M.isAllowed_iff h).1 hl).1
  exact ⟨_, (M.mem_rallK f _ _ _).2 ⟨n, Nat.zero_le _, by omega, hl, rfl⟩⟩

theorem M.leave_same {f : M.Fl} (h : M.check f = 0) : M.leaveBest f = M.pick (fun b => M.can (M.rall f) ((2 ^ f.ts.length - 1) ^^^ ((2 ^ f.ts.length - 1) &&& b))) 0 (2 ^ f.ts.length - 1 + 1) (M.bits (2 ^ f.ts.length - 1)) := by
  obtain ⟨_, _, _, _, _, n5⟩ := M.check_bd h
  unfold M.leaveBest
  refine M.shortest_pick (by omega) (fun b hb => M.spare_can h hb) ?_
  obtain ⟨a, ha⟩ := M.rall_some h
  unfold M.can
  rw [List.any_eq_true]
  refine ⟨a, ha, ?_⟩
  rw [Nat.and_self, Nat.xor_self, Nat.and_zero]
  rfl

theorem M.first_k {f : M.Fl} (h : M.check f = 0) : ∀ (j k : Nat), k + j = f.ts.length → (M.rfirst (M.rall f) k j < 0 ∧ M.firstK (M.finds f) k j = (0, 7)) ∨ (0 ≤ M.rfirst (M.rall f) k j ∧ M.firstK (M.finds f) k j = (M.rfirst (M.rall f) k j, 0))
  | 0, k, _ => .inl ⟨(by show (-1 : Int) < 0; decide), rfl⟩
  | j + 1, k, hk => by
    rw [M.rfirst, M.firstK, M.agree_can h (k := k) (by omega)]
    split
    · exact M.first_k h j (k + 1) (by omega)
    · exact .inr ⟨by omega, rfl⟩
theorem M.first_same {f : M.Fl} (h : M.check f = 0) : (M.rfirst (M.rall f) 0 f.ts.length < 0 ∧ M.First f = (0, 7)) ∨ (0 ≤ M.rfirst (M.rall f) 0 f.ts.length ∧ M.First f = (M.rfirst (M.rall f) 0 f.ts.length, 0)) := by
  unfold M.First
  rw [if_pos h]
  exact M.first_k h _ 0 (by omega)

end Go.Proofs.Ytcecmphdmpeibaa
