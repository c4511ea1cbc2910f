import Derived.Test.YtffbkbcjddigdaaGreatA76
import Derived.Test.YtffbkbcjddigdaaGreatA62
import Derived.Test.YtffbkbcjddigdaaGreatA60
set_option linter.unusedSimpArgs false
set_option linter.unusedVariables false
namespace Go.Proofs.YtffbkbcjddigdaaGreat
open Go.RowKit Go.Shelf

theorem M.cmpL_neg : ∀ (x y : List Int), M.cmpL x y < 0 ↔ M.lexlt x y = true
 | [], [] => by simp [M.cmpL, M.lexlt]
 | [], _ :: _ => by simp [M.cmpL, M.lexlt]
 | _ :: _, [] => by simp [M.cmpL, M.lexlt]
 | a :: r, b :: s => by
  rw [M.cmpL, M.lexlt, Bool.or_eq_true, Bool.and_eq_true, decide_eq_true_eq, decide_eq_true_eq]
  by_cases h1 : a < b
  ·
   rw [if_pos h1]; simp [h1]
  ·
   rw [if_neg h1]
   by_cases h2 : b < a
   ·
    rw [if_pos h2]
    constructor
    ·
     intro h; omega
    ·
     rintro (h | ⟨h, _⟩) <;> omega
   ·
    rw [if_neg h2, M.cmpL_neg r s]
    constructor
    ·
     intro h; exact .inr ⟨by omega, h⟩
    ·
     rintro (h | ⟨_, h⟩)
     ·
      omega
     ·
      exact h
/-- Whether a list is better than the best one so far. -/
def M.bet (v : List Int → Int) (s : List Int × Int) (x : List Int) : Bool := decide (s.2 < v x) || (decide (v x = s.2) && M.lexlt x s.1)
def M.pickB (v : List Int → Int) (s : List Int × Int) (x : List Int) : List Int × Int := if M.bet v s x then (x, v x) else s
theorem M.bet_iff {v : List Int → Int} {s : List Int × Int} {x : List Int} : M.bet v s x = true ↔ s.2 < v x ∨ (v x = s.2 ∧ M.lexlt x s.1 = true) := by
 unfold M.bet
 simp only [Bool.or_eq_true, Bool.and_eq_true, decide_eq_true_eq]
/-- What a walk over lists gives: nothing that it met is better. -/
theorem M.fold_bet (v : List Int → Int) : ∀ (l : List (List Int)) (s : List Int × Int), (l.foldl (M.pickB v) s = s ∨ ∃ x ∈ l, l.foldl (M.pickB v) s = (x, v x)) ∧ (s.2 < (l.foldl (M.pickB v) s).2 ∨ (s.2 = (l.foldl (M.pickB v) s).2 ∧ M.lexlt s.1 (l.foldl (M.pickB v) s).1 = false)) ∧ ∀ x ∈ l, M.bet v (l.foldl (M.pickB v) s) x = false
 | [], s => ⟨.inl rfl, .inr ⟨rfl, M.lexlt_irrefl _⟩, fun x hx => by cases hx⟩
 | x :: r, s => by
  obtain ⟨h1, h2, h3⟩ := M.fold_bet v r (M.pickB v s x)
  rw [List.foldl_cons]
  generalize r.foldl (M.pickB v) (M.pickB v s x) = z at h1 h2 h3 ⊢
  have hp : (M.bet v s x = true ∧ M.pickB v s x = (x, v x)) ∨ (M.bet v s x = false ∧ M.pickB v s x = s) := by
   unfold M.pickB
   cases hb : M.bet v s x with
   | true => exact .inl ⟨rfl, if_pos rfl⟩
   | false => exact .inr ⟨rfl, if_neg (by decide)⟩
  have key : ∀ p q : List Int × Int, (p.2 < q.2 ∨ (p.2 = q.2 ∧ M.lexlt p.1 q.1 = false)) → ¬ (q.2 < p.2 ∨ (p.2 = q.2 ∧ M.lexlt p.1 q.1 = true)) := fun p q h hh => by
   rcases h with h | ⟨h, h'⟩ <;> rcases hh with hh | ⟨hh, hh'⟩
   ·
    omega
   ·
    omega
   ·
    omega
   ·
    rw [h'] at hh'; cases hh'
  rcases hp with ⟨hb, hp⟩ | ⟨hb, hp⟩
  ·
   rw [hp] at h1 h2
   rw [M.bet_iff] at hb
   refine ⟨?_, ?_, fun y hy => ?_⟩
   ·
    rcases h1 with h1 | ⟨y, hy, h1⟩
    ·
     exact .inr ⟨x, by simp, h1⟩
    ·
     exact .inr ⟨y, by simp [hy], h1⟩
   ·
    simp only at h2
    rcases h2 with h2 | ⟨h2, h2'⟩
    ·
     left; omega
    ·
     rcases hb with hb | ⟨hb, hb'⟩
     ·
      left; omega
     ·
      right
      refine ⟨by omega, ?_⟩
      cases hs : M.lexlt s.1 z.1 with
      | false => rfl
      | true => rw [M.lexlt_trans hb' hs] at h2'; cases h2'
   ·
    rcases List.mem_cons.1 hy with rfl | hy
    ·
     cases hz : M.bet v z y with
     | false => rfl
     | true =>
      rw [M.bet_iff] at hz
      exact absurd hz (key (y, v y) z h2)
    ·
     exact h3 y hy
  ·
   rw [hp] at h1 h2
   refine ⟨?_, h2, fun y hy => ?_⟩
   ·
    rcases h1 with h1 | ⟨y, hy, h1⟩
    ·
     exact .inl h1
    ·
     exact .inr ⟨y, by simp [hy], h1⟩
   ·
    rcases List.mem_cons.1 hy with rfl | hy
    ·
     cases hz : M.bet v z y with
     | false => rfl
     | true =>
      rw [M.bet_iff] at hz
      have hn : ¬ M.bet v s y = true := by rw [hb]; decide
      rw [M.bet_iff] at hn
      exfalso
      apply hn
      rcases h2 with h2 | ⟨h2, h2'⟩ <;> rcases hz with hz | ⟨hz, hz'⟩
      ·
       left; omega
      ·
       left; omega
      ·
       left; omega
      ·
       right
       refine ⟨by omega, ?_⟩
       rcases M.lexlt_tri y s.1 with h | h | h
       ·
        exact h
       ·
        rw [h] at hz'; rw [hz'] at h2'; cases h2'
       ·
        rw [M.lexlt_trans h hz'] at h2'; cases h2'
    ·
     exact h3 y hy
/-- Two walks over the same lists, in any orders, give the same. -/
theorem M.fold_same {v : List Int → Int} {a b : List (List Int)} (h : ∀ x, x ≠ [] → (x ∈ a ↔ x ∈ b)) (h0 : v [] = 0) : a.foldl (M.pickB v) ([], 0) = b.foldl (M.pickB v) ([], 0) := by
 obtain ⟨a1, a2, a3⟩ := M.fold_bet v a ([], 0)
 obtain ⟨b1, b2, b3⟩ := M.fold_bet v b ([], 0)
 generalize a.foldl (M.pickB v) ([], 0) = y at a1 a2 a3 ⊢
 generalize b.foldl (M.pickB v) ([], 0) = z at b1 b2 b3 ⊢
 have form : ∀ (l : List (List Int)) (y : List Int × Int), (y = ([], 0) ∨ ∃ x ∈ l, y = (x, v x)) → y.2 = v y.1 ∧ (y.1 = [] ∨ y.1 ∈ l) := fun l y hy => by
  rcases hy with rfl | ⟨x, hx, rfl⟩
  ·
   exact ⟨h0.symm, .inl rfl⟩
  ·
   exact ⟨rfl, .inr hx⟩
 obtain ⟨y1, y2⟩ := form a y a1
 obtain ⟨z1, z2⟩ := form b z b1
 have cross : ∀ (l : List (List Int)) (y z : List Int × Int), z.2 = v z.1 → ((([] : List Int), (0 : Int)).2 < y.2 ∨ ((([] : List Int), (0 : Int)).2 = y.2 ∧ M.lexlt (([] : List Int), (0 : Int)).1 y.1 = false)) → (∀ x ∈ l, M.bet v y x = false) → (z.1 = [] ∨ z.1 ∈ l) → ¬ (y.2 < z.2 ∨ (z.2 = y.2 ∧ M.lexlt z.1 y.1 = true)) := fun l y z hz hs ha hm hh => by
  rcases hm with hm | hm
  ·
   rw [hm] at hh hz
   rw [h0] at hz
   simp only at hs
   rcases hs with hs | ⟨hs, hs'⟩ <;> rcases hh with hh | ⟨hh, hh'⟩
   ·
    omega
   ·
    omega
   ·
    omega
   ·
    rw [hs'] at hh'; cases hh'
  ·
   have := ha _ hm
   have hn : ¬ M.bet v y z.1 = true := by rw [this]; decide
   rw [M.bet_iff, ← hz] at hn
   exact hn hh
 have ya : y.1 = [] ∨ y.1 ∈ b := by
  by_cases hy : y.1 = []
  ·
   exact .inl hy
  ·
   exact .inr ((h _ hy).1 (y2.resolve_left hy))
 have za : z.1 = [] ∨ z.1 ∈ a := by
  by_cases hz : z.1 = []
  ·
   exact .inl hz
  ·
   exact .inr ((h _ hz).2 (z2.resolve_left hz))
 have c1 := cross a y z z1 a2 a3 za
 have c2 := cross b z y y1 b2 b3 ya
 have e2 : y.2 = z.2 := by omega
 have e1 : y.1 = z.1 := by
  rcases M.lexlt_tri y.1 z.1 with h | h | h
  ·
   exact absurd (.inr ⟨e2, h⟩) c2
  ·
   exact h
  ·
   exact absurd (.inr ⟨e2.symm, h⟩) c1
 exact Prod.ext e1 e2
theorem M.fold_eq {v w : List Int → Int} : ∀ (l : List (List Int)) (s : List Int × Int), (∀ x ∈ l, v x = w x) → l.foldl (M.pickB v) s = l.foldl (M.pickB w) s
 | [], _, _ => rfl
 | x :: r, s, h => by
  rw [List.foldl_cons, List.foldl_cons, M.fold_eq r _ (fun y hy => h y (by simp [hy]))]
  have hx := h x (by simp)
  unfold M.pickB M.bet
  rw [hx]
/-- All plans, as the program goes through them. -/
def M.plansP (f : M.Cf) : List (List Int) := (List.range (f.base.length + 1)).flatMap fun L => M.incr (f.last + 1).toNat L 0
theorem M.bestS_pick (f : M.Cf) (ts : List M.Tr) : M.bestS f ts = M.pickB (M.sure f ts) := by
 funext s x
 have h : (M.bet (M.sure f ts) s x = true) ↔ (s.2 < M.sure f ts x ∨ (M.sure f ts x = s.2 ∧ M.cmpL x s.1 < 0)) := by rw [M.bet_iff, M.cmpL_neg]
 unfold M.bestS M.pickB
 by_cases hb : M.bet (M.sure f ts) s x = true
 ·
  rw [if_pos hb]
  have := h.1 hb
  first
   | rw [if_pos this]
   | rw [if_pos (by simpa using this)]
   | (simp only [this]; simp)
 ·
  rw [if_neg hb]
  have := fun hh => hb (h.2 hh)
  first
   | rw [if_neg this]
   | rw [if_neg (by simpa using this)]
theorem M.best_fold (f : M.Cf) (ts : List M.Tr) : M.best f ts = (M.plansP f).foldl (M.pickB (M.sure f ts)) ([], 0) := by
 unfold M.best M.plansP
 rw [List.foldl_flatMap, ← M.bestS_pick]
 rfl
theorem M.rise_of' {sz : Nat} : ∀ (x : List Int) (frm : Int), M.rises x = true → (∀ a ∈ x, a < sz) → (∀ a ∈ x, frm ≤ a) → M.Rise sz frm x
 | [], _, _, _, _ => trivial
 | a :: r, frm, hr, h1, h2 => ⟨h2 a (by simp), h1 a (by simp), M.rise_of' r (a + 1) (M.rises_tail hr) (fun b hb => h1 b (by simp [hb])) (fun b hb => by have := M.rises_lt hr b hb; omega)⟩
theorem M.mem_plansP {f : M.Cf} (h9 : 0 ≤ f.last ∧ f.last ≤ 9) {x : List Int} : x ∈ M.plansP f ↔ M.isPlan f x = true := by
 unfold M.plansP
 rw [List.mem_flatMap]
 constructor
 ·
  rintro ⟨L, hL, hx⟩
  exact M.incr_plan h9 (by have := List.mem_range.1 hL; omega) hx
 ·
  intro hp
  obtain ⟨hl, hr, hb⟩ := M.plan_parts hp
  exact ⟨x.length, List.mem_range.2 (by omega), (M.mem_incr _ _ _ _).2 ⟨rfl, M.rise_of' x _ hr (fun a ha => by have := hb a ha; omega) (fun a ha => by have := hb a ha; simpa using this.1)⟩⟩
/-- All plans but the empty one, as the reference goes through them. -/
def M.plansR (f : M.Cf) (b j : Nat) : List (List Int) := ((List.range' b j).map M.bits10).filter fun x => decide (x.length ≤ f.base.length)
def M.rbF (f : M.Cf) (v : List Int → Int) : Nat → Nat → List Int × Int → List Int × Int
 | _, 0, s => s
 | b, j + 1, s => M.rbF f v (b + 1) j (if (M.bits10 b).length ≤ f.base.length then M.pickB v s (M.bits10 b) else s)
theorem M.rbF_fold (f : M.Cf) (v : List Int → Int) : ∀ (j b : Nat) (s : List Int × Int), M.rbF f v b j s = (M.plansR f b j).foldl (M.pickB v) s
 | 0, _, _ => rfl
 | j + 1, b, s => by
  rw [M.rbF, M.rbF_fold f v j (b + 1)]
  unfold M.plansR
  rw [List.range'_succ, List.map_cons, List.filter_cons]
  by_cases h : (M.bits10 b).length ≤ f.base.length
  ·
   rw [if_pos h, if_pos (decide_eq_true h), List.foldl_cons]
  ·
   rw [if_neg h, if_neg (by simpa using h)]
theorem incr_bits10 : ((List.range 11).all fun sz => (List.range 4).all fun L => (M.incr sz L 0).all fun x => decide (M.bits10 (M.mask2 x) = x) && decide (M.mask2 x < 2 ^ sz) && (decide (L = 0) || decide (1 ≤ M.mask2 x))) = true := by decide +kernel
theorem M.mem_plansR {f : M.Cf} (hv : M.valid f = true) (hl9 : f.last ≤ 9) (hb3 : f.base.length ≤ 3) {x : List Int} (hx : x ≠ []) : x ∈ M.plansR f 1 (2 ^ (f.last.toNat + 1) - 1) ↔ M.isPlan f x = true := by
 have h0 := (M.valid_parts hv).1
 have h9 : 0 ≤ f.last ∧ f.last ≤ 9 := ⟨h0, hl9⟩
 unfold M.plansR
 rw [List.mem_filter, List.mem_map, decide_eq_true_eq]
 constructor
 ·
  rintro ⟨⟨b, hb, rfl⟩, hl⟩
  have h2 := List.mem_range'_1.1 hb
  have := M.planned_plan hv hl9 (b := b) (by omega)
  rwa [List.take_of_length_le hl] at this
 ·
  intro hp
  have hpl := (M.plan_parts hp).1
  refine ⟨⟨M.mask2 x, ?_, ?_⟩, hpl⟩
  all_goals
   have hm := (M.mem_plansP h9).2 hp
   unfold M.plansP at hm
   obtain ⟨L, hL, hm⟩ := List.mem_flatMap.1 hm
   have hL4 := List.mem_range.1 hL
   have t0 := incr_bits10
   rw [List.all_eq_true] at t0
   have t1 := t0 (f.last + 1).toNat (List.mem_range.2 (by omega))
   rw [List.all_eq_true] at t1
   have t2 := t1 L (List.mem_range.2 (by omega))
   rw [List.all_eq_true] at t2
   have t3 := t2 x hm
   rw [Bool.and_eq_true, Bool.and_eq_true, decide_eq_true_eq, decide_eq_true_eq, Bool.or_eq_true, decide_eq_true_eq, decide_eq_true_eq] at t3
  ·
   have hL0 : L ≠ 0 := fun e => by
    subst e
    exact hx (List.eq_nil_of_length_eq_zero ((M.mem_incr _ _ _ _).1 hm).1)
   have h1 := t3.2.resolve_left hL0
   have h2 := t3.1.2
   rw [show (f.last + 1).toNat = f.last.toNat + 1 by omega] at h2
   exact List.mem_range'_1.2 ⟨h1, by omega⟩
  ·
   exact t3.1.1
theorem M.worth_ir {f : M.Cf} (h0 : M.check f = 0) (hn : M.truths f ≠ []) {plan : List Int} (hpl : M.isPlan f plan = true) : M.worthR f (M.rtr f) plan = M.worth f plan := by
 have hn2 : M.rtr f ≠ [] := fun e => hn ((M.rtr_nil h0).1 e)
 unfold M.worthR M.worth
 rw [M.widen_span (by simpa using hn2)]
 ·
  refine M.span_set (fun y => ?_) (by simpa using hn2)
  simp only [List.mem_map, M.rtr_mem h0]
 ·
  intro y hy
  obtain ⟨t, ht, rfl⟩ := List.mem_map.1 hy
  have := M.total_bd h0 (M.rtr_listed h0 t ht) hpl
  omega
theorem M.sure_nil' (f : M.Cf) {ts : List M.Tr} (h : ts ≠ []) : M.sure f ts [] = 0 := by
 have h1 := (M.span_two (l := ts.map fun t => M.total f t []) (by simpa using h)).1
 obtain ⟨t, _, ht⟩ := List.mem_map.1 h1
 show (M.span (ts.map fun t => M.total f t [])).lo = 0
 rw [← ht]
 rfl
/-- The best plan of the reference is the program's. -/
theorem M.best_is {f : M.Cf} (h0 : M.check f = 0) (hn : M.truths f ≠ []) : M.rbF f (fun x => (M.worthR f (M.rtr f) x).lo) 1 (2 ^ (f.last.toNat + 1) - 1) ([], (M.worthR f (M.rtr f) []).lo) = M.best f (M.truths f) := by
 have hv := (M.check_ok h0).1
 have hl9 := (M.check0 h0).1
 have hb3 := (M.check0 h0).2.1
 have h9 : 0 ≤ f.last ∧ f.last ≤ 9 := ⟨(M.valid_parts hv).1, hl9⟩
 have hs0 := M.sure_nil' f hn
 have hw : ∀ x, M.isPlan f x = true → (M.worthR f (M.rtr f) x).lo = M.sure f (M.truths f) x := fun x hx => by rw [M.worth_ir h0 hn hx]; rfl
 rw [hw [] (M.plan_nil f), hs0, M.rbF_fold, M.best_fold]
 rw [M.fold_eq (v := fun x => (M.worthR f (M.rtr f) x).lo) (w := M.sure f (M.truths f)) _ _ (fun x hx => by
  by_cases hx0 : x = []
  ·
   rw [hx0]; exact hw [] (M.plan_nil f)
  ·
   exact hw x ((M.mem_plansR hv hl9 hb3 hx0).1 hx))]
 exact M.fold_same (fun x hx0 => by rw [M.mem_plansR hv hl9 hb3 hx0, M.mem_plansP h9]) hs0
/-- No plan is better than the best one. -/
theorem M.best_least {f : M.Cf} (h0 : M.check f = 0) (hn : M.truths f ≠ []) : M.isPlan f (M.best f (M.truths f)).1 = true ∧ M.sure f (M.truths f) (M.best f (M.truths f)).1 = (M.best f (M.truths f)).2 ∧ ∀ p, M.isPlan f p = true → M.sure f (M.truths f) p ≤ (M.best f (M.truths f)).2 ∧ (M.sure f (M.truths f) p = (M.best f (M.truths f)).2 → M.lexlt p (M.best f (M.truths f)).1 = false) := by
 have h9 : 0 ≤ f.last ∧ f.last ≤ 9 := ⟨(M.valid_parts (M.check_ok h0).1).1, (M.check0 h0).1⟩
 obtain ⟨a1, a2, a3⟩ := M.fold_bet (M.sure f (M.truths f)) (M.plansP f) ([], 0)
 rw [← M.best_fold] at a1 a2 a3
 generalize M.best f (M.truths f) = z at a1 a2 a3 ⊢
 have hp : M.isPlan f z.1 = true ∧ M.sure f (M.truths f) z.1 = z.2 := by
  rcases a1 with rfl | ⟨x, hx, rfl⟩
  ·
   exact ⟨M.plan_nil f, M.sure_nil' f hn⟩
  ·
   exact ⟨(M.mem_plansP h9).1 hx, rfl⟩
 refine ⟨hp.1, hp.2, fun p hpp => ?_⟩
 have hb : ¬ M.bet (M.sure f (M.truths f)) z p = true := by rw [a3 p ((M.mem_plansP h9).2 hpp)]; decide
 rw [M.bet_iff] at hb
 refine ⟨by omega, fun he => ?_⟩
 cases hl : M.lexlt p z.1 with
 | false => rfl
 | true => exact absurd (.inr ⟨he, hl⟩) hb
theorem wrap_last {l : Nat} (hl : l ≤ 9) : wrap64 (2 * 2 ^ l) = ((2 ^ (l + 1) : Nat) : Int) := by
 have : l = 0 ∨ l = 1 ∨ l = 2 ∨ l = 3 ∨ l = 4 ∨ l = 5 ∨ l = 6 ∨ l = 7 ∨ l = 8 ∨ l = 9 := by omega
 rcases this with rfl | rfl | rfl | rfl | rfl | rfl | rfl | rfl | rfl | rfl <;> decide +kernel
set_option maxRecDepth 100000 in
theorem fieldRL2 (a b : Int) (W : World) : (Instr.field 49 (.agg #[.int .i64 a, .int .i64 b]) 0).run Tryz.prog W = .ok (.int .i64 a) W := by
 first
  | rfl
  | simp [Instr.field, run_underlying Tryz.underlying49, part, cellsIn, typeInfo, Result.andThen]

set_option maxRecDepth 100000 in
set_option maxHeartbeats 8000000 in
theorem rBest_c (f : M.Cf) (Ag Aw Ab Ac Al : Option Addr) (ng cg nw cw nb cb nc cc nl cl : Nat) (L : Option Addr) (ln lc : Nat) (ts : List M.Tr) (h0 : M.check f = 0) (hts : ∀ t ∈ ts, M.listed f t = true) (w : World) (hs : CS w w.heap.size f Ag Aw Ab Ac Al ng cg nw cw nb cb nc cc nl cl) (hl : TL w L ln lc ts) :
  Calls Tryz.prog 30 #[.agg #[.int .i64 f.last, .slice Ag ng cg, .slice Aw nw cw, .slice Ab nb cb, .slice Ac nc cc, .int .i64 f.ripe, .int .i64 f.late, .int .i64 f.trod, .slice Al nl cl], .slice L ln lc] w fun e w' => (∃ B d, e = .returned (.tuple #[.slice B (M.rbF f (fun x => (M.worthR f ts x).lo) 1 (2 ^ (f.last.toNat + 1) - 1) ([], (M.worthR f ts []).lo)).1.length d, .int .i64 (M.rbF f (fun x => (M.worthR f ts x).lo) 1 (2 ^ (f.last.toNat + 1) - 1) ([], (M.worthR f ts []).lo)).2]) ∧ Sl ics 1 w' w'.heap.size B (M.rbF f (fun x => (M.worthR f ts x).lo) 1 (2 ^ (f.last.toNat + 1) - 1) ([], (M.worthR f ts []).lo)).1.length d (M.rbF f (fun x => (M.worthR f ts x).lo) 1 (2 ^ (f.last.toNat + 1) - 1) ([], (M.worthR f ts []).lo)).1) ∧ Ev w w' := by
 have hv := (M.check_ok h0).1
 have hl9 := (M.check0 h0).1
 have hb3 := (M.check0 h0).2.1
 have hbl := hs.b.len
 have h00 := (M.valid_parts hv).1
 obtain ⟨l, hl_⟩ : ∃ l : Nat, f.last = l := ⟨f.last.toNat, by omega⟩
 have hl9n : l ≤ 9 := by omega
 have hlt : f.last.toNat = l := by omega
 have p1 := wrap_last hl9n
 rw [hlt]
 have hN1 : 1 ≤ 2 ^ (l + 1) := Nat.pow_pos (by omega)
 have hN2 : 2 ^ (l + 1) ≤ 2 ^ 10 := Nat.pow_le_pow_right (by omega) (by omega)
 have HPP := hid (fun b (hb : b < 2 ^ (l + 1)) (hx : (M.bits10 b).length ≤ nb) => by
  have := M.planned_plan hv hl9 (b := b) (by rw [hlt]; omega)
  rwa [List.take_of_length_le (by rw [hbl]; exact hx)] at this)
 have HWN := hid (fun W (hE : Ev w W) => rWorth_c f Ag Aw Ab Ac Al ng cg nw cw nb cb nc cc nl cl L ln lc ts none 0 0 [] h0 hts (M.plan_nil f) W (hs.ev hE) (hl.ev hE) Sl.nil)
 have HWP := hid (fun (P : Option Addr) (pn pc : Nat) (plan : List Int) (hpl : M.isPlan f plan = true) W (hE : Ev w W) (hp : Sl ics 1 W W.heap.size P pn pc plan) => rWorth_c f Ag Aw Ab Ac Al ng cg nw cw nb cb nc cc nl cl L ln lc ts P pn pc plan h0 hts hpl W (hs.ev hE) (hl.ev hE) hp)
 obtain ⟨v, hvv⟩ : ∃ v : List Int → Int, v = fun x => (M.worthR f ts x).lo := ⟨_, rfl⟩
 have HV := hid (fun x => show (M.worthR f ts x).lo = v x from by rw [hvv])
 rw [← hvv]
 have HRB := hid (fun b j s => show M.rbF f v b (j + 1) s = M.rbF f v (b + 1) j (if (M.bits10 b).length ≤ nb then M.pickB v s (M.bits10 b) else s) from by rw [M.rbF, hbl])
 rw [HV.out []]
 generalize 2 ^ (l + 1) = N at p1 hN1 hN2 HPP
 generalize htg : M.rbF f v 1 (N - 1) ([], v []) = target
 have HTG := hid htg
 have HTE := hid (fun b s => show M.rbF f v b 0 s = s from rfl)
 obtain ⟨rbf, hrbf⟩ : ∃ g, g = M.rbF f v := ⟨_, rfl⟩
 rw [← hrbf] at HTG HRB HTE
 have fieldRL' := fun hi => fieldRL2 (v []) hi
 have hwn := HWN.out
 rw [HV.out []] at hwn
 replace HWN := hid hwn
 generalize hwh : (M.worthR f ts []).hi = wh at HWN
 have fieldRL' := fieldRL2 (v []) wh
 clear hs hl hv hl9 hb3 h0 hts htg hlt hrbf hvv h00 hbl hwn hwh
 rw [hl_] at HWN HWP ⊢
 have HLL := hid hl_
 clear hl_
 go_enter Tryz.func30, Tryz.ntmps30
 go_upto_region 1 with fail
 generalize hW0 : World.alloc w _ = W0
 have hE0 : Ev w W0 := by rw [← hW0]; exact Ev.alloc (Ev.refl _) _
 have hal := alloc1 w (.cells #[.int .i64 l, .slice Ag ng cg, .slice Aw nw cw, .slice Ab nb cb, .slice Ac nc cc, .int .i64 f.ripe, .int .i64 f.late, .int .i64 f.trod, .slice Al nl cl] 26)
 rw [hW0] at hal
 have Q0 := hid hal.1
 clear hal hW0
 obtain ⟨y0, y1, y2, y3, y4, y5, y6, y7, y8⟩ := cells9 Q0.out
 go_upto_region 3 with (go_at_call 20; with_reducible refine (HWN.out _ hE0).mono ?_; rintro e x0 ⟨rfl, hb0⟩)
 have HQ0 := hid (hb0.heap Q0.out)
 have hE1 := hE0.trans hb0
 clear Q0 y0 y1 y2 y3 y4 y5 y6 y7 y8 fieldRL' HWN
 go_wp2_with fail
 go_loopw [6, 7, 8] (fun a u i wr => ∃ (b : Nat) (best : List Int) (n : Int) (Bs : Option Addr) (ms ds : Nat), a = .slice Bs ms ds ∧ u = .int .i64 n ∧ i = .int .i64 b ∧ 1 ≤ b ∧ b ≤ N ∧ Ev w wr ∧ Hid (wr.heap[w.heap.size]? = some (.cells #[.int .i64 l, .slice Ag ng cg, .slice Aw nw cw, .slice Ab nb cb, .slice Ac nc cc, .int .i64 f.ripe, .int .i64 f.late, .int .i64 f.trod, .slice Al nl cl] 26 (0, 0))) ∧ Hid (Sl ics 1 wr wr.heap.size Bs ms ds best) ∧ Hid (rbf b (N - b) (best, n) = target)) (fun _ _ i _ => N - (intOf i).toNat)
 case atStart => exact ⟨1, [], v [], none, 0, 0, rfl, rfl, rfl, by omega, by omega, hE1, HQ0, hid Sl.nil, HTG⟩
 case round =>
  obtain ⟨b, best, n, Bs, ms, ds, rfl, rfl, rfl, hb1_, hbN, hB, hQ, hS, hT⟩ := hrel
  obtain ⟨W1, hW1⟩ : ∃ x, x = wr := ⟨_, rfl⟩
  subst hW1
  clear HQ0
  obtain ⟨y0, y1, y2, y3, y4, y5, y6, y7, y8⟩ := cells9 hQ.out
  by_cases hlt : b < N
  ·
   have hltI : (b : Int) < N := by omega
   have hT2 := hT.out
   rw [show N - b = (N - (b + 1)) + 1 from by omega, HRB.out] at hT2
   have HBT := hid (fun W => Bits10_c b (by omega) W)
   have hpp := HPP.out b hlt
   generalize M.bits10 b = x at HBT hT2 hpp
   obtain ⟨xl, hxl⟩ : ∃ xl, x.length = xl := ⟨_, rfl⟩
   rw [hxl] at hT2 hpp HBT
   clear hT
   by_cases hlen : xl ≤ nb
   ·
    rw [if_pos hlen] at hT2
    have HWX := hid (fun (B : Option Addr) (d : Nat) W (hE : Ev w W) (h : Sl ics 1 W W.heap.size B xl d x) => by have := HWP.out B xl d x (hpp hlen) W hE h; rw [HV.out x] at this; exact this)
    generalize hwx : (M.worthR f ts x).hi = wh at HWX
    have HBE := hid (fun (B : Option Addr) (d : Nat) W (h1 : Sl ics 1 W W.heap.size B xl d x) (h2 : Sl ics 1 W W.heap.size Bs ms ds best) => Before_c B Bs xl d ms ds x best W h1 h2)
    have hg1 : ¬ ((xl : Int) > nb) := by omega
    have hpb : M.pickB v (best, n) x = if (decide (n < v x) || (decide (v x = n) && M.lexlt x best)) then (x, v x) else (best, n) := rfl
    rw [hpb] at hT2
    generalize v x = vx at HWX hT2
    have fieldRL' := fieldRL2 vx wh
    clear hpb hpp hwx
    rcases Int.lt_trichotomy n vx with h1 | h1 | h1
    ·
     have HT2 := hid (show rbf (b + 1) (N - (b + 1)) (x, vx) = target by rw [← hT2, decide_eq_true h1]; rfl)
     have k1 : vx > n := h1
     clear hT2 h1
     go_wp2_with (first | (go_at_call 64; with_reducible refine (HBT.out _).mono ?_; rintro e x1 ⟨⟨B2, d2, rfl, hs2⟩, hb1⟩; have HS2 := hid hs2; clear hs2; clear y0 y1 y2 y3 y4 y5 y6 y7 y8; obtain ⟨y0, y1, y2, y3, y4, y5, y6, y7, y8⟩ := cells9 (hb1.heap hQ.out)) | (go_at_call 20; with_reducible refine (HWX.out B2 d2 _ (hB.trans hb1) HS2.out).mono ?_; rintro e x2 ⟨rfl, hb2⟩; have hG := hb1.trans hb2; clear y0 y1 y2 y3 y4 y5 y6 y7 y8; obtain ⟨y0, y1, y2, y3, y4, y5, y6, y7, y8⟩ := cells9 (hG.heap hQ.out)) | (with_reducible refine ⟨trivial, ?_⟩))
     exact ⟨⟨b + 1, x, vx, B2, xl, d2, rfl, rfl, by go_num, by omega, by omega, hB.trans hG, hid (hG.heap hQ.out), hid (HS2.out.ev hb2), HT2⟩, by simp [intOf]; omega⟩
    ·
     subst h1
     cases hlx : M.lexlt x best with
     | true =>
      have HT2 := hid (show rbf (b + 1) (N - (b + 1)) (x, n) = target by rw [← hT2, hlx]; simp)
      rw [hlx] at HBE
      have k1 : ¬ (n > n) := by omega
      have k2 : (n == n) = true := by simp
      clear hT2 hlx
      go_wp2_with (first | (go_at_call 64; with_reducible refine (HBT.out _).mono ?_; rintro e x1 ⟨⟨B2, d2, rfl, hs2⟩, hb1⟩; have HS2 := hid hs2; clear hs2; clear y0 y1 y2 y3 y4 y5 y6 y7 y8; obtain ⟨y0, y1, y2, y3, y4, y5, y6, y7, y8⟩ := cells9 (hb1.heap hQ.out)) | (go_at_call 20; with_reducible refine (HWX.out B2 d2 _ (hB.trans hb1) HS2.out).mono ?_; rintro e x2 ⟨rfl, hb2⟩; have hG := hb1.trans hb2; clear y0 y1 y2 y3 y4 y5 y6 y7 y8; obtain ⟨y0, y1, y2, y3, y4, y5, y6, y7, y8⟩ := cells9 (hG.heap hQ.out)) | (go_at_call 41; with_reducible refine (HBE.out B2 d2 _ (HS2.out.ev hb2) (hS.out.ev hG)).mono ?_; rintro e x3 ⟨rfl, hb3⟩; have hG3 := hG.trans hb3; clear y0 y1 y2 y3 y4 y5 y6 y7 y8; obtain ⟨y0, y1, y2, y3, y4, y5, y6, y7, y8⟩ := cells9 (hG3.heap hQ.out)) | (with_reducible refine ⟨trivial, ?_⟩))
      exact ⟨⟨b + 1, x, n, B2, xl, d2, rfl, rfl, by go_num, by omega, by omega, hB.trans hG3, hid (hG3.heap hQ.out), hid (HS2.out.ev (hb2.trans hb3)), HT2⟩, by simp [intOf]; omega⟩
     | false =>
      have HT2 := hid (show rbf (b + 1) (N - (b + 1)) (best, n) = target by rw [← hT2, hlx]; simp)
      rw [hlx] at HBE
      have k1 : ¬ (n > n) := by omega
      have k2 : (n == n) = true := by simp
      clear hT2 hlx
      go_wp2_with (first | (go_at_call 64; with_reducible refine (HBT.out _).mono ?_; rintro e x1 ⟨⟨B2, d2, rfl, hs2⟩, hb1⟩; have HS2 := hid hs2; clear hs2; clear y0 y1 y2 y3 y4 y5 y6 y7 y8; obtain ⟨y0, y1, y2, y3, y4, y5, y6, y7, y8⟩ := cells9 (hb1.heap hQ.out)) | (go_at_call 20; with_reducible refine (HWX.out B2 d2 _ (hB.trans hb1) HS2.out).mono ?_; rintro e x2 ⟨rfl, hb2⟩; have hG := hb1.trans hb2; clear y0 y1 y2 y3 y4 y5 y6 y7 y8; obtain ⟨y0, y1, y2, y3, y4, y5, y6, y7, y8⟩ := cells9 (hG.heap hQ.out)) | (go_at_call 41; with_reducible refine (HBE.out B2 d2 _ (HS2.out.ev hb2) (hS.out.ev hG)).mono ?_; rintro e x3 ⟨rfl, hb3⟩; have hG3 := hG.trans hb3; clear y0 y1 y2 y3 y4 y5 y6 y7 y8; obtain ⟨y0, y1, y2, y3, y4, y5, y6, y7, y8⟩ := cells9 (hG3.heap hQ.out)) | (with_reducible refine ⟨trivial, ?_⟩))
      exact ⟨⟨b + 1, best, n, Bs, ms, ds, rfl, rfl, by go_num, by omega, by omega, hB.trans hG3, hid (hG3.heap hQ.out), hid (hS.out.ev hG3), HT2⟩, by simp [intOf]; omega⟩
    ·
     have HT2 := hid (show rbf (b + 1) (N - (b + 1)) (best, n) = target by rw [← hT2, decide_eq_false (by omega), decide_eq_false (by omega)]; rfl)
     have k1 : ¬ (vx > n) := by omega
     have k2 : (vx == n) = false := by simp; omega
     clear hT2 h1
     go_wp2_with (first | (go_at_call 64; with_reducible refine (HBT.out _).mono ?_; rintro e x1 ⟨⟨B2, d2, rfl, hs2⟩, hb1⟩; have HS2 := hid hs2; clear hs2; clear y0 y1 y2 y3 y4 y5 y6 y7 y8; obtain ⟨y0, y1, y2, y3, y4, y5, y6, y7, y8⟩ := cells9 (hb1.heap hQ.out)) | (go_at_call 20; with_reducible refine (HWX.out B2 d2 _ (hB.trans hb1) HS2.out).mono ?_; rintro e x2 ⟨rfl, hb2⟩; have hG := hb1.trans hb2; clear y0 y1 y2 y3 y4 y5 y6 y7 y8; obtain ⟨y0, y1, y2, y3, y4, y5, y6, y7, y8⟩ := cells9 (hG.heap hQ.out)) | (with_reducible refine ⟨trivial, ?_⟩))
     exact ⟨⟨b + 1, best, n, Bs, ms, ds, rfl, rfl, by go_num, by omega, by omega, hB.trans hG, hid (hG.heap hQ.out), hid (hS.out.ev hG), HT2⟩, by simp [intOf]; omega⟩
   ·
    rw [if_neg hlen] at hT2
    have HT2 := hid hT2
    have hg1 : (xl : Int) > nb := by omega
    clear hT2 hpp
    go_wp2_with (first | (go_at_call 64; with_reducible refine (HBT.out _).mono ?_; rintro e x1 ⟨⟨B2, d2, rfl, hs2⟩, hb1⟩; have HS2 := hid hs2; clear hs2; clear y0 y1 y2 y3 y4 y5 y6 y7 y8; obtain ⟨y0, y1, y2, y3, y4, y5, y6, y7, y8⟩ := cells9 (hb1.heap hQ.out)))
    exact ⟨⟨b + 1, best, n, Bs, ms, ds, rfl, rfl, by go_num, by omega, by omega, hB.trans hb1, hid (hb1.heap hQ.out), hid (hS.out.ev hb1), HT2⟩, by simp [intOf]; omega⟩
  ·
   obtain rfl : b = N := by omega
   have hT2 := hT.out
   rw [Nat.sub_self, HTE.out] at hT2
   subst hT2
   have hltI : ¬ ((b : Int) < b) := by omega
   have HML := hid hS.out.len
   clear hT HTG
   go_wp2_with fail
   refine bodyPost_ret (v := .tuple #[.slice Bs ms ds, .int .i64 n]) (by simp [results, Tryz.results30, go_sem]) rfl ⟨⟨Bs, ds, ?_, ?_⟩, hB⟩
   ·
    rw [HML.out]
   ·
    rw [HML.out]
    exact hS.out

end Go.Proofs.YtffbkbcjddigdaaGreat
