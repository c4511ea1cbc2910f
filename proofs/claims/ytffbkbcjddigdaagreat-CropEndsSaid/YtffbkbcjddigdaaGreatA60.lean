import Derived.Test.YtffbkbcjddigdaaGreatA54
import Derived.Test.YtffbkbcjddigdaaGreatA49
set_option linter.unusedSimpArgs false
set_option linter.unusedVariables false
namespace Go.Proofs.YtffbkbcjddigdaaGreat
open Go.RowKit Go.Shelf

/-- Those of some looks whose bits are set. -/
def M.keepK (b : Nat) : List M.Lk → Nat → List M.Lk
 | [], _ => []
 | t :: r, i => (if b / 2 ^ i % 2 = 1 then [t] else []) ++ M.keepK b r (i + 1)
/-- A field with other looks. -/
def M.withL (f : M.Cf) (ls : List M.Lk) : M.Cf := ⟨f.last, f.gr, f.wet, f.base, f.crops, f.ripe, f.late, f.trod, ls⟩
def M.subF (f : M.Cf) (b : Nat) : M.Cf := M.withL f (M.keepK b f.looks 0)
theorem M.keepK_len (b : Nat) : ∀ (ts : List M.Lk) (i : Nat), (M.keepK b ts i).length ≤ ts.length
 | [], _ => Nat.le_refl _
 | t :: r, i => by
  rw [M.keepK, List.length_append, List.length_cons]
  have := M.keepK_len b r (i + 1)
  split <;> simp <;> omega
theorem M.mem_keepK (b : Nat) (t : M.Lk) : ∀ (ts : List M.Lk) (i : Nat), t ∈ M.keepK b ts i ↔ ∃ j, ts[j]? = some t ∧ b / 2 ^ (i + j) % 2 = 1
 | [], i => by simp [M.keepK]
 | x :: r, i => by
  rw [M.keepK, List.mem_append, M.mem_keepK b t r (i + 1)]
  constructor
  ·
   rintro (h | ⟨j, h1, h2⟩)
   ·
    split at h
    ·
     rename_i hb
     obtain rfl := List.mem_singleton.1 h
     exact ⟨0, rfl, hb⟩
    ·
     cases h
   ·
    exact ⟨j + 1, by simpa using h1, by rw [show i + (j + 1) = i + 1 + j from by omega]; exact h2⟩
  ·
   rintro ⟨j, h1, h2⟩
   cases j with
   | zero =>
    left
    rw [if_pos (by simpa using h2)]
    simpa using h1.symm
   | succ j =>
    right
    exact ⟨j, by simpa using h1, by rw [show i + 1 + j = i + (j + 1) from by omega]; exact h2⟩
theorem M.keepK_sub {b : Nat} {ts : List M.Lk} {i : Nat} {t : M.Lk} (h : t ∈ M.keepK b ts i) : t ∈ ts := by
 obtain ⟨j, h1, _⟩ := (M.mem_keepK b t ts i).1 h
 exact List.mem_of_getElem? h1
theorem infoRL : (Tryz.prog.info? 106).map (fun i => (i.zero, i.size, i.bytes)) = some (some (.agg #[.int .i64 0, .int .i64 0, .int .i64 0]), 3, 24) := by kernel_rfl


set_option maxRecDepth 100000 in
set_option maxHeartbeats 1000000 in
theorem Full_c (f : M.Cf) (Ag Aw Ab Ac Al : Option Addr) (ng cg nw cw nb cb nc cc nl cl : Nat) (hn : nl ≤ 7) (w : World) :
  Calls Tryz.prog 71 #[.agg #[.int .i64 f.last, .slice Ag ng cg, .slice Aw nw cw, .slice Ab nb cb, .slice Ac nc cc, .int .i64 f.ripe, .int .i64 f.late, .int .i64 f.trod, .slice Al nl cl]] w fun e w' => e = .returned (.int .i64 ((2 ^ nl - 1 : Nat) : Int)) ∧ Ev w w' := by
 have h : nl = 0 ∨ nl = 1 ∨ nl = 2 ∨ nl = 3 ∨ nl = 4 ∨ nl = 5 ∨ nl = 6 ∨ nl = 7 := by omega
 rcases h with rfl | rfl | rfl | rfl | rfl | rfl | rfl | rfl
 all_goals
  go_enter Tryz.func71, Tryz.ntmps71
  go_wp2
  go_ret
  exact ⟨by first | rfl | (simp; done), Ev.alloc (Ev.refl _) _⟩

end Go.Proofs.YtffbkbcjddigdaaGreat

set_option linter.unusedSimpArgs false
set_option linter.unusedVariables false
namespace Go.Proofs.YtffbkbcjddigdaaGreat
open Go.RowKit Go.Shelf

theorem M.bit_low (n i : Nat) : ((2 ^ n - 1) / 2 ^ i % 2 = 1) ↔ i < n := by
 have h := Nat.testBit_two_pow_sub_one n i
 rw [Nat.testBit_eq_decide_div_mod_eq] at h
 constructor
 ·
  intro h1
  rw [decide_eq_true h1] at h
  simpa using h.symm
 ·
  intro h1
  rw [decide_eq_true h1] at h
  simpa using h
theorem M.keepK_low (n : Nat) : ∀ (ls : List M.Lk) (i : Nat), M.keepK (2 ^ n - 1) ls i = ls.take (n - i)
 | [], i => by simp [M.keepK]
 | x :: r, i => by
  rw [M.keepK, M.keepK_low n r (i + 1)]
  by_cases h : i < n
  ·
   rw [if_pos ((M.bit_low n i).2 h), show n - i = (n - (i + 1)) + 1 by omega, List.take_succ_cons]; rfl
  ·
   rw [if_neg (fun hb => h ((M.bit_low n i).1 hb)), show n - i = 0 by omega, show n - (i + 1) = 0 by omega]; simp
theorem M.fit_any (f : M.Cf) (ls : List M.Lk) : M.fit f ls = (M.allTruths f).any fun t => ls.all (M.shows (M.weights t.gr f.crops)) := by
 unfold M.fit
 exact M.stands_any f (fun x => ls.all (M.shows x))
theorem M.truths_fit (f : M.Cf) (ls : List M.Lk) : M.truths (M.withL f ls) = [] ↔ M.fit f ls = false := by
 rw [M.fit_any, show M.truths (M.withL f ls) = (M.allTruths f).filter (fun t => ls.all (M.shows (M.weights t.gr f.crops))) from rfl, List.filter_eq_nil_iff, List.any_eq_false]
theorem M.check_with {f : M.Cf} (h0 : M.check f = 0) {ls : List M.Lk} (hl : ls.length ≤ 5) (hs : ∀ l ∈ ls, l ∈ f.looks) : M.check (M.withL f ls) = 0 := by
 obtain ⟨h9, hb, _, hv, ht⟩ := M.check0 h0
 have hv2 : M.valid (M.withL f ls) = true := by
  unfold M.valid at hv ⊢
  simp only [Bool.and_eq_true, List.all_eq_true] at hv ⊢
  exact ⟨hv.1, hv.2.1, hv.2.2.1, hv.2.2.2.1, fun l hl => hv.2.2.2.2 l (hs l hl)⟩
 have h3 : ¬ (9 < (M.withL f ls).last ∨ 3 < (M.withL f ls).base.length ∨ 5 < (M.withL f ls).looks.length) := by
  show ¬ (9 < f.last ∨ 3 < f.base.length ∨ 5 < ls.length)
  omega
 rw [M.check_v h3 hv2, show M.ranges (M.withL f ls) = M.ranges f from rfl, ht]
 rfl
theorem M.plan_nil (f : M.Cf) : M.isPlan f [] = true := by unfold M.isPlan; simp [M.rises]
theorem M.begin_with {f : M.Cf} (h0 : M.check f = 0) {ls : List M.Lk} (hl : ls.length ≤ 5) (hs : ∀ l ∈ ls, l ∈ f.looks) : M.begin (M.withL f ls) (M.isPlan (M.withL f ls) []) = if M.fit f ls then 0 else 11 := by
 unfold M.begin
 rw [M.check_with h0 hl hs, M.plan_nil, if_neg (by simp), if_neg (by simp)]
 cases hf : M.fit f ls with
 | false => rw [if_pos ((M.truths_fit f ls).2 hf)]; rfl
 | true =>
  rw [if_neg (fun h => by rw [(M.truths_fit f ls).1 h] at hf; cases hf)]; rfl
theorem M.wrongK_spec (f : M.Cf) : ∀ (j k : Nat), (M.wrongK f k j = (0, 7) ∧ ∀ i, k ≤ i → i < k + j → M.fit f (f.looks.take (i + 1)) = true) ∨ (∃ m : Nat, k ≤ m ∧ m < k + j ∧ M.wrongK f k j = ((m : Int), 0) ∧ M.fit f (f.looks.take (m + 1)) = false ∧ ∀ i, k ≤ i → i < m → M.fit f (f.looks.take (i + 1)) = true)
 | 0, k => .inl ⟨rfl, fun i h1 h2 => by omega⟩
 | j + 1, k => by
  cases hf : M.fit f (f.looks.take (k + 1)) with
  | false => exact .inr ⟨k, Nat.le_refl _, by omega, by unfold M.wrongK; rw [if_neg (by rw [hf]; decide)], hf, fun i h1 h2 => by omega⟩
  | true =>
   have he : M.wrongK f k (j + 1) = M.wrongK f (k + 1) j := by
    rw [M.wrongK, if_pos hf]
   rw [he]
   rcases M.wrongK_spec f j (k + 1) with ⟨h1, h2⟩ | ⟨m, h1, h2, h3, h4, h5⟩
   ·
    refine .inl ⟨h1, fun i hi hj => ?_⟩
    by_cases hik : i = k
    ·
     rw [hik]; exact hf
    ·
     exact h2 i (by omega) (by omega)
   ·
    refine .inr ⟨m, by omega, by omega, h3, h4, fun i hi hj => ?_⟩
    by_cases hik : i = k
    ·
     rw [hik]; exact hf
    ·
     exact h5 i (by omega) (by omega)
theorem M.fit_nil {f : M.Cf} (hv : M.valid f = true) : M.fit f [] = true := by
 rw [M.fit_any]
 have hp := M.valid_parts hv
 have hr : ∀ r ∈ M.ranges f, r.lo ≤ r.hi := fun r hr => (M.ranges_bd hv r hr).2.1
 have hin : ∀ (rs : List M.Rg), (∀ r ∈ rs, r.lo ≤ r.hi) → M.inAll (rs.map M.Rg.lo) rs = true := by
  intro rs
  induction rs with
  | nil => intro _; rfl
  | cons r rs ih =>
   intro h
   rw [List.map_cons, M.inAll, ih (fun x hx => h x (by simp [hx])), Bool.and_true]
   unfold M.holds
   simp [h r (by simp)]
 have hl : M.listed f ⟨(M.ranges f).map M.Rg.lo |>.take f.gr.length, (M.ranges f).map M.Rg.lo |>.drop f.gr.length⟩ = true := by
  unfold M.listed
  rw [List.take_append_drop, hin _ hr]
  have : (M.ranges f).length = f.gr.length + f.wet.length := by unfold M.ranges; simp
  simp [this]
 rw [List.any_eq_true]
 exact ⟨_, (M.mem_allTruths hv _).2 hl, rfl⟩
theorem M.wrong_7 {f : M.Cf} (h0 : M.check f = 0) (h : M.wrong f = (0, 7)) : M.fit f f.looks = true := by
 unfold M.wrong at h
 rw [if_pos h0] at h
 rcases M.wrongK_spec f f.looks.length 0 with ⟨_, h2⟩ | ⟨m, _, _, h3, _⟩
 ·
  rcases Nat.eq_zero_or_pos f.looks.length with hz | hz
  ·
   rw [List.eq_nil_of_length_eq_zero hz]
   exact M.fit_nil (M.check0 h0).2.2.2.1
  ·
   have := h2 (f.looks.length - 1) (by omega) (by omega)
   rwa [show f.looks.length - 1 + 1 = f.looks.length by omega, List.take_length] at this
 ·
  rw [h3] at h
  simp at h
theorem M.wrong_cases {f : M.Cf} (h0 : M.check f = 0) : M.wrong f = (0, 7) ∨ ∃ m : Nat, m < f.looks.length ∧ M.wrong f = ((m : Int), 0) ∧ M.fit f (f.looks.take (m + 1)) = false ∧ M.fit f (f.looks.take m) = true := by
 have hw : M.wrong f = M.wrongK f 0 f.looks.length := by unfold M.wrong; rw [if_pos h0]
 rw [hw]
 rcases M.wrongK_spec f f.looks.length 0 with ⟨h1, _⟩ | ⟨m, _, h2, h3, h4, h5⟩
 ·
  exact .inl h1
 ·
  refine .inr ⟨m, by omega, h3, h4, ?_⟩
  rcases Nat.eq_zero_or_pos m with hz | hz
  ·
   subst hz
   exact M.fit_nil (M.check0 h0).2.2.2.1
  ·
   have := h5 (m - 1) (by omega) (by omega)
   rwa [show m - 1 + 1 = m by omega] at this

theorem FieldL_c (f : M.Cf) (ls : List M.Lk) (Ag Aw Ab Ac Al : Option Addr) (ng cg nw cw nb cb nc cc nl cl : Nat) (hng : ng ≤ 1000) (hnw : nw ≤ 1000) (hnb : nb ≤ 1000) (hnc : nc ≤ 1000) (hnl : nl ≤ 1000) (w : World) (hs : CS w w.heap.size (M.withL f ls) Ag Aw Ab Ac Al ng cg nw cw nb cb nc cc nl cl) :
  Calls Tryz.prog 13 #[.agg #[.int .i64 f.last, .slice Ag ng cg, .slice Aw nw cw, .slice Ab nb cb, .slice Ac nc cc, .int .i64 f.ripe, .int .i64 f.late, .int .i64 f.trod, .slice Al nl cl]] w fun e w' => (∃ Bg dg Bw dw Bb db Bc dc Bl dl, e = .returned (.agg #[.int .i64 f.last, .slice Bg ng dg, .slice Bw nw dw, .slice Bb nb db, .slice Bc nc dc, .int .i64 f.ripe, .int .i64 f.late, .int .i64 f.trod, .slice Bl nl dl]) ∧ CS w' w'.heap.size (M.withL f ls) Bg Bw Bb Bc Bl ng dg nw dw nb db nc dc nl dl) ∧ Ev w w' := Field_c (M.withL f ls) Ag Aw Ab Ac Al ng cg nw cw nb cb nc cc nl cl hng hnw hnb hnc hnl w hs
theorem WorthL_ok (f : M.Cf) (ls : List M.Lk) (Ag Aw Ab Ac Al : Option Addr) (ng cg nw cw nb cb nc cc nl cl : Nat) (hl0 : -9223372036854775808 ≤ f.last) (h0 : M.check f = 0) (hl : ls.length ≤ 5) (hss : ∀ l ∈ ls, l ∈ f.looks) (hf : M.fit f ls = true) (w : World) (hs : CS w w.heap.size (M.withL f ls) Ag Aw Ab Ac Al ng cg nw cw nb cb nc cc nl cl) :
  Calls Tryz.prog 15 #[.agg #[.int .i64 f.last, .slice Ag ng cg, .slice Aw nw cw, .slice Ab nb cb, .slice Ac nc cc, .int .i64 f.ripe, .int .i64 f.late, .int .i64 f.trod, .slice Al nl cl], .slice none 0 0] w fun e w' => (∃ a b, e = .returned (.tuple #[.agg #[.int .i64 a, .int .i64 b], .int .i64 0])) ∧ Ev w w' :=
 (Worth_ok (M.withL f ls) Ag Aw Ab Ac Al ng cg nw cw nb cb nc cc nl cl none 0 0 [] hl0 w hs Sl.nil (by rw [M.begin_with h0 hl hss, if_pos hf])).mono fun e w' h => ⟨⟨_, _, h.1⟩, h.2⟩
theorem WorthL_no (f : M.Cf) (ls : List M.Lk) (Ag Aw Ab Ac Al : Option Addr) (ng cg nw cw nb cb nc cc nl cl : Nat) (hl0 : -9223372036854775808 ≤ f.last) (h0 : M.check f = 0) (hl : ls.length ≤ 5) (hss : ∀ l ∈ ls, l ∈ f.looks) (hf : M.fit f ls = false) (w : World) (hs : CS w w.heap.size (M.withL f ls) Ag Aw Ab Ac Al ng cg nw cw nb cb nc cc nl cl) :
  Calls Tryz.prog 15 #[.agg #[.int .i64 f.last, .slice Ag ng cg, .slice Aw nw cw, .slice Ab nb cb, .slice Ac nc cc, .int .i64 f.ripe, .int .i64 f.late, .int .i64 f.trod, .slice Al nl cl], .slice none 0 0] w fun e w' => e = .returned (.tuple #[.agg #[.int .i64 0, .int .i64 0], .int .i64 11]) ∧ Ev w w' := by
 have hb := M.begin_with h0 hl hss
 rw [if_neg (by rw [hf]; decide)] at hb
 refine (Worth_err (M.withL f ls) Ag Aw Ab Ac Al ng cg nw cw nb cb nc cc nl cl none 0 0 [] hl0 w hs Sl.nil (by rw [hb]; decide)).mono fun e w' h => ⟨?_, h.2⟩
 rw [h.1, hb]

end Go.Proofs.YtffbkbcjddigdaaGreat

set_option linter.unusedSimpArgs false
set_option linter.unusedVariables false
namespace Go.Proofs.YtffbkbcjddigdaaGreat
open Go.RowKit

theorem M.rises_at : ∀ (l : List Int) (k : Nat) (x y : Int), M.rises l = true → l[k]? = some y → l[k + 1]? = some x → y < x
 | [], k, x, y, _, h, _ => by simp at h
 | [a], k, x, y, _, _, h => by simp at h
 | a :: b :: r, k, x, y, h, h1, h2 => by
  rw [M.rises, Bool.and_eq_true, decide_eq_true_eq] at h
  cases k with
  | zero =>
   simp at h1 h2
   omega
  | succ k => exact M.rises_at (b :: r) k x y h.2 (by simpa using h1) (by simpa using h2)
def M.orAll (l : List Int) (acc : Nat) : Nat := l.foldl (fun a i => a ||| 2 ^ i.toNat) acc
theorem orAll_table : ((List.range 6).all fun n => (List.range (2 ^ n)).all fun b => decide (M.orAll (M.bits b) 0 = b)) = true := by decide +kernel
/-- All looks but those whose bits are set. -/
def M.butB (n b : Nat) : Nat := (2 ^ n - 1) ^^^ ((2 ^ n - 1) &&& b)
theorem but_table : ((List.range 6).all fun n => (List.range (2 ^ n)).all fun b => (List.range n).all fun j => decide ((M.butB n b / 2 ^ j % 2 = 1) ↔ ¬ ((j : Int) ∈ M.bits b))) = true := by decide +kernel
theorem M.but_bit {n b j : Nat} (hn : n ≤ 5) (hb : b < 2 ^ n) (hj : j < n) : (M.butB n b / 2 ^ j % 2 = 1) ↔ ¬ ((j : Int) ∈ M.bits b) := by
 have h0 := but_table
 rw [List.all_eq_true] at h0
 have h1 := h0 n (List.mem_range.2 (by omega))
 rw [List.all_eq_true] at h1
 have h2 := h1 b (List.mem_range.2 hb)
 rw [List.all_eq_true] at h2
 have h3 := h2 j (List.mem_range.2 hj)
 exact of_decide_eq_true h3
theorem M.woK_keep {n b : Nat} (hn : n ≤ 5) (hb : b < 2 ^ n) : ∀ (ls : List M.Lk) (k : Nat), k + ls.length = n → M.woK (M.bits b) ls k = M.keepK (M.butB n b) ls k
 | [], _, _ => rfl
 | x :: r, k, h => by
  have hk : k < n := by simp at h; omega
  have hr := M.woK_keep hn hb r (k + 1) (by simp at h; omega)
  have hbit := M.but_bit hn hb hk
  rw [M.woK, M.keepK, hr]
  by_cases hm : (k : Int) ∈ M.bits b
  ·
   rw [if_pos hm, if_neg (fun h => hbit.1 h hm), List.nil_append]
  ·
   rw [if_neg hm, if_pos (hbit.2 hm)]; rfl
theorem M.spares_bits {f : M.Cf} {n b : Nat} (hl : f.looks.length = n) (hn : n ≤ 5) (hb : b < 2 ^ n) : M.spares f (M.bits b) = M.fit f (M.keepK (M.butB n b) f.looks 0) := by
 unfold M.spares M.without
 rw [M.woK_keep hn hb f.looks 0 (by omega)]
theorem M.keepK_zero : ∀ (ls : List M.Lk) (i : Nat), M.keepK 0 ls i = []
 | [], _ => rfl
 | x :: r, i => by rw [M.keepK, M.keepK_zero r (i + 1), if_neg (by simp)]; rfl
/-- What Leave's list is. -/
theorem M.leave_spec {f : M.Cf} (h : M.check f = 0) {n : Nat} (hl : f.looks.length = n) : ∃ b, b < 2 ^ n ∧ M.orAll (M.shortest (M.spares f) n) 0 = b ∧ M.fit f (M.keepK (M.butB n b) f.looks 0) = true ∧ (M.shortest (M.spares f) n).length ≤ 7 ∧ M.rises (M.shortest (M.spares f) n) = true ∧ (∀ x ∈ M.shortest (M.spares f) n, ∃ xn : Nat, x = xn ∧ xn < n) ∧ ∀ t, t < 2 ^ n → M.fit f (M.keepK (M.butB n t) f.looks 0) = true → M.shorter (M.bits t) (M.shortest (M.spares f) n) = false := by
 have n5 : n ≤ 5 := by rw [← hl]; exact (M.check0 h).2.2.1
 have hP : 0 < 2 ^ n := Nat.pow_pos (by omega)
 have hall : M.fit f (M.keepK (M.butB n (2 ^ n - 1)) f.looks 0) = true := by
  unfold M.butB
  rw [Nat.and_self, Nat.xor_self, M.keepK_zero]
  exact M.fit_nil (M.check0 h).2.2.2.1
 have hsame := M.shortest_pick (p := M.spares f) (q := fun b => M.fit f (M.keepK (M.butB n b) f.looks 0)) (sz := n) (by omega) (fun b hb => M.spares_bits hl n5 hb) hall
 obtain ⟨h1, h2, h3⟩ := M.pick_spec (fun b => M.fit f (M.keepK (M.butB n b) f.looks 0)) (2 ^ n - 1 + 1) 0 (M.bits (2 ^ n - 1))
 rw [← hsame] at h1 h2 h3
 have hc : ∃ c, c < 2 ^ n ∧ M.fit f (M.keepK (M.butB n c) f.looks 0) = true ∧ M.shortest (M.spares f) n = M.bits c := by
  rcases h1 with h1 | ⟨c, _, h5, h6, h7⟩
  ·
   exact ⟨_, by omega, hall, h1⟩
  ·
   exact ⟨c, by omega, h6, h7⟩
 obtain ⟨c, hc, hqc, he⟩ := hc
 have hrise := M.bits_rise (sz := n) (by omega) hc
 rw [← he] at hrise
 have g1 := M.rises_rise hrise
 have g2 := M.rise_bd hrise
 have h0 := orAll_table
 rw [List.all_eq_true] at h0
 have h4 := h0 n (List.mem_range.2 (by omega))
 rw [List.all_eq_true] at h4
 have h5 := h4 c (List.mem_range.2 hc)
 rw [decide_eq_true_eq, ← he] at h5
 have hl7 : (M.shortest (M.spares f) n).length ≤ 7 := by
  rcases M.Rise_len hrise (by omega) with h | h
  ·
   rw [h]; simp
  ·
   omega
 exact ⟨c, hc, h5, hqc, hl7, g1, fun x hx => by have := g2 x hx; exact ⟨x.toNat, by omega, by omega⟩, fun t ht hq => h3 t (Nat.zero_le _) (by omega) hq⟩

end Go.Proofs.YtffbkbcjddigdaaGreat
