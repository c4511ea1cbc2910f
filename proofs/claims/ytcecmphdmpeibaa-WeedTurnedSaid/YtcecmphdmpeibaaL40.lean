import Derived.Test.YtcecmphdmpeibaaL39
set_option linter.unusedSimpArgs false
set_option linter.unusedVariables false
namespace Go.Proofs.Ytcecmphdmpeibaa
open Go.RowKit

/-- Two numbers change places. -/
def M.sw (a b x : Int) : Int := if x = a then b else if x = b then a else x
theorem M.sw_sw (a b x : Int) : M.sw a b (M.sw a b x) = x := by
  unfold M.sw
  split <;> split <;> (try split) <;> omega
theorem M.sw_inj {a b x y : Int} (h : M.sw a b x = M.sw a b y) : x = y := by rw [← M.sw_sw a b x, h, M.sw_sw]
theorem M.sw_bd {a b x d : Int} (a0 : 0 ≤ a) (a1 : a < d) (b0 : 0 ≤ b) (b1 : b < d) : (-1 ≤ x ∧ x < d) → (-1 ≤ M.sw a b x ∧ M.sw a b x < d) := by
  unfold M.sw
  split <;> (try split) <;> omega
theorem M.sw_bd0 {a b x d : Int} (a0 : 0 ≤ a) (a1 : a < d) (b0 : 0 ≤ b) (b1 : b < d) : (0 ≤ x ∧ x < d) → (0 ≤ M.sw a b x ∧ M.sw a b x < d) := by
  unfold M.sw
  split <;> (try split) <;> omega
theorem M.sw_neg {a b : Int} (a0 : 0 ≤ a) (b0 : 0 ≤ b) : M.sw a b (-1) = -1 := by
  unfold M.sw
  split <;> (try split) <;> omega

/-- The field with its rows numbered from the other end. -/
def M.turnT (R : Int) (t : M.Tl) : M.Tl := ⟨t.wd, R - 1 - t.to, R - 1 - t.fr, t.ct⟩
def M.turnF (f : M.Fl) : M.Fl := ⟨f.rows, f.wds, f.lf, f.ts.map (M.turnT f.rows)⟩
/-- The field with two weeders' numbers exchanged. -/
def M.swT (a b : Int) (t : M.Tl) : M.Tl := ⟨M.sw a b t.wd, t.fr, t.to, t.ct⟩
def M.swF (a b : Int) (f : M.Fl) : M.Fl := ⟨f.rows, f.wds, f.lf, f.ts.map (M.swT a b)⟩

theorem M.turn_turn (f : M.Fl) : M.turnF (M.turnF f) = f := by
  obtain ⟨r, d, l, ts⟩ := f
  unfold M.turnF
  simp only [List.map_map]
  congr 1
  refine (List.map_congr_left (g := id) fun t _ => ?_).trans (List.map_id _)
  obtain ⟨w, fr, tt, ct⟩ := t
  simp only [Function.comp, M.turnT, id]
  congr 1 <;> omega
theorem M.swF_swF (a b : Int) (f : M.Fl) : M.swF a b (M.swF a b f) = f := by
  obtain ⟨r, d, l, ts⟩ := f
  unfold M.swF
  simp only [List.map_map]
  congr 1
  refine (List.map_congr_left (g := id) fun t _ => ?_).trans (List.map_id _)
  obtain ⟨w, fr, tt, ct⟩ := t
  simp only [Function.comp, M.swT, id, M.sw_sw]

theorem M.turn_check {f : M.Fl} (h : M.check f = 0) : M.check (M.turnF f) = 0 := by
  obtain ⟨l0, l1, l2⟩ := M.left_of h
  refine M.check_of h rfl rfl (by simp [M.turnF]) ?_ ?_
  · show M.upTo f.lf f.rows = true
    simp only [M.upTo, Bool.and_eq_true, decide_eq_true_eq]
    exact ⟨l0, l1, l2⟩
  · intro u hu
    obtain ⟨t, ht, rfl⟩ := List.mem_map.1 hu
    obtain ⟨t1, t2, t3, t4, t5, t6, t7, t8⟩ := M.tally_of h t ht
    show (decide (0 ≤ t.wd) && decide (t.wd < f.wds) && (decide (0 ≤ f.rows - 1 - t.to) && decide (f.rows - 1 - t.to < f.rows) && (decide (0 ≤ f.rows - 1 - t.fr) && decide (f.rows - 1 - t.fr < f.rows) && (decide (f.rows - 1 - t.to ≤ f.rows - 1 - t.fr) && M.upTo t.ct f.rows)))) = true
    simp only [M.upTo, Bool.and_eq_true, decide_eq_true_eq]
    exact ⟨⟨t1, t2⟩, ⟨by omega, by omega⟩, ⟨by omega, by omega⟩, by omega, t6, t7, t8⟩
theorem M.sw_check {f : M.Fl} (h : M.check f = 0) {a b : Int} (a0 : 0 ≤ a) (a1 : a < f.wds) (b0 : 0 ≤ b) (b1 : b < f.wds) : M.check (M.swF a b f) = 0 := by
  obtain ⟨l0, l1, l2⟩ := M.left_of h
  refine M.check_of h rfl rfl (by simp [M.swF]) ?_ ?_
  · show M.upTo f.lf f.rows = true
    simp only [M.upTo, Bool.and_eq_true, decide_eq_true_eq]
    exact ⟨l0, l1, l2⟩
  · intro u hu
    obtain ⟨t, ht, rfl⟩ := List.mem_map.1 hu
    obtain ⟨t1, t2, t3, t4, t5, t6, t7, t8⟩ := M.tally_of h t ht
    have hb := M.sw_bd0 (x := t.wd) a0 a1 b0 b1 ⟨t1, t2⟩
    show (decide (0 ≤ M.sw a b t.wd) && decide (M.sw a b t.wd < f.wds) && (decide (0 ≤ t.fr) && decide (t.fr < f.rows) && (decide (0 ≤ t.to) && decide (t.to < f.rows) && (decide (t.fr ≤ t.to) && M.upTo t.ct f.rows)))) = true
    simp only [M.upTo, Bool.and_eq_true, decide_eq_true_eq]
    exact ⟨hb, ⟨t3, by omega⟩, ⟨by omega, t5⟩, t4, t6, t7, t8⟩

theorem M.cnt_append (x : Int) : ∀ (a b : List Int), M.cnt x (a ++ b) = M.cnt x a + M.cnt x b
  | [], b => by simp [M.cnt]
  | y :: a, b => by
    rw [List.cons_append, M.cnt, M.cnt, M.cnt_append x a b]
    omega
theorem M.cnt_rev (x : Int) : ∀ (a : List Int), M.cnt x a.reverse = M.cnt x a
  | [] => rfl
  | y :: a => by
    rw [List.reverse_cons, M.cnt_append, M.cnt_rev x a, M.cnt, M.cnt, M.cnt]
    omega
theorem M.cnt_sw (a b x : Int) : ∀ (l : List Int), M.cnt (M.sw a b x) (l.map (M.sw a b)) = M.cnt x l
  | [] => rfl
  | y :: l => by
    rw [List.map_cons, M.cnt, M.cnt, M.cnt_sw a b x l]
    by_cases h : y = x
    · rw [if_pos h, if_pos (by rw [h])]
    · rw [if_neg h, if_neg (fun e => h (M.sw_inj e))]
theorem M.rnum_cnt (x : Int) (l : List Int) : M.rnum x l = M.cnt x l := by
  unfold M.rnum M.count
  rw [List.take_of_length_le (by simp; omega)]
  simp

theorem M.count_turn {l : List Int} {x fr tt : Int} (h0 : 0 ≤ fr) (h1 : fr ≤ tt) (h2 : tt < l.length) : M.count l.reverse x ((l.length : Int) - 1 - tt) ((l.length : Int) - 1 - fr) = M.count l x fr tt := by
  unfold M.count
  rw [List.drop_reverse, List.take_reverse, M.cnt_rev]
  congr 1
  rw [List.drop_take, List.length_take]
  congr 1
  · omega
  · congr 1
    omega
theorem M.count_sw {l : List Int} {x fr tt a b : Int} : M.count (l.map (M.sw a b)) (M.sw a b x) fr tt = M.count l x fr tt := by
  unfold M.count
  rw [← List.map_drop, ← List.map_take, M.cnt_sw]

theorem M.turn_say {f : M.Fl} {l : List Int} (h : M.Say f l) : M.Say (M.turnF f) l.reverse :=
  ⟨by rw [List.length_reverse]; exact h.1, fun y hy => h.2 y (List.mem_reverse.1 hy)⟩
theorem M.sw_say {f : M.Fl} {l : List Int} {a b : Int} (a0 : 0 ≤ a) (a1 : a < f.wds) (b0 : 0 ≤ b) (b1 : b < f.wds) (h : M.Say f l) : M.Say (M.swF a b f) (l.map (M.sw a b)) :=
  ⟨by rw [List.length_map]; exact h.1, fun y hy => by
    obtain ⟨z, hz, rfl⟩ := List.mem_map.1 hy
    exact M.sw_bd a0 a1 b0 b1 (h.2 z hz)⟩

theorem M.turn_count {f : M.Fl} (h : M.check f = 0) {l : List Int} (hs : M.Say f l) {x fr tt : Int} (h0 : 0 ≤ fr) (h1 : fr ≤ tt) (h2 : tt < f.rows) : M.count (M.pad l.reverse) x (f.rows - 1 - tt) (f.rows - 1 - fr) = M.count (M.pad l) x fr tt := by
  have hl := hs.1
  rw [M.count_pad (by omega) (by rw [List.length_reverse]; omega), M.count_pad (by omega) (by omega), ← hl]
  exact M.count_turn h0 h1 (by omega)
theorem M.sw_count {f : M.Fl} {l : List Int} (hs : M.Say f l) {a b x fr tt : Int} (h1 : 0 ≤ tt) (h2 : tt < f.rows) : M.count (M.pad (l.map (M.sw a b))) (M.sw a b x) fr tt = M.count (M.pad l) x fr tt := by
  have hl := hs.1
  rw [M.count_pad h1 (by rw [List.length_map]; omega), M.count_pad h1 (by omega)]
  exact M.count_sw

theorem M.turn_allows {f : M.Fl} (h : M.check f = 0) {l : List Int} (hs : M.Say f l) : M.allows (M.turnF f) (M.pad l.reverse) = M.allows f (M.pad l) := by
  obtain ⟨r1, _⟩ := M.check_bd h
  have := M.turn_count h hs (x := -1) (fr := 0) (tt := f.rows - 1) (by omega) (by omega) (by omega)
  unfold M.allows
  show M.holds f.lf (M.count (M.pad l.reverse) (-1) 0 (f.rows - 1)) = _
  rw [← this]
  congr 2 <;> omega
theorem M.sw_allows {f : M.Fl} (h : M.check f = 0) {l : List Int} (hs : M.Say f l) {a b : Int} (a0 : 0 ≤ a) (b0 : 0 ≤ b) : M.allows (M.swF a b f) (M.pad (l.map (M.sw a b))) = M.allows f (M.pad l) := by
  obtain ⟨r1, _⟩ := M.check_bd h
  have := M.sw_count hs (a := a) (b := b) (x := -1) (fr := 0) (tt := f.rows - 1) (by omega) (by omega)
  rw [M.sw_neg a0 b0] at this
  unfold M.allows
  show M.holds f.lf (M.count (M.pad (l.map (M.sw a b))) (-1) 0 (f.rows - 1)) = _
  rw [this]

theorem M.turn_sub {f : M.Fl} (h : M.check f = 0) : ∀ l ∈ M.rtruths f, l.reverse ∈ M.rtruths (M.turnF f) := by
  intro l hl
  obtain ⟨h1, h2, h3⟩ := (M.mem_rtruths h l).1 hl
  refine (M.mem_rtruths (M.turn_check h) _).2 ⟨M.turn_say h1, by rw [M.turn_allows h h1]; exact h2, fun u hu => ?_⟩
  obtain ⟨t, ht, rfl⟩ := List.mem_map.1 hu
  have hv := M.tally_of h t ht
  have := M.turn_count h h1 (x := t.wd) (fr := t.fr) (tt := t.to) (by omega) (by omega) (by omega)
  show M.holds t.ct (M.count (M.pad l.reverse) t.wd (f.rows - 1 - t.to) (f.rows - 1 - t.fr)) = true
  rw [this]
  exact h3 t ht
theorem M.sw_sub {f : M.Fl} (h : M.check f = 0) {a b : Int} (a0 : 0 ≤ a) (a1 : a < f.wds) (b0 : 0 ≤ b) (b1 : b < f.wds) : ∀ l ∈ M.rtruths f, l.map (M.sw a b) ∈ M.rtruths (M.swF a b f) := by
  intro l hl
  obtain ⟨h1, h2, h3⟩ := (M.mem_rtruths h l).1 hl
  refine (M.mem_rtruths (M.sw_check h a0 a1 b0 b1) _).2 ⟨M.sw_say a0 a1 b0 b1 h1, by rw [M.sw_allows h h1 a0 b0]; exact h2, fun u hu => ?_⟩
  obtain ⟨t, ht, rfl⟩ := List.mem_map.1 hu
  have hv := M.tally_of h t ht
  have := M.sw_count h1 (a := a) (b := b) (x := t.wd) (fr := t.fr) (tt := t.to) (by omega) (by omega)
  show M.holds t.ct (M.count (M.pad (l.map (M.sw a b))) (M.sw a b t.wd) t.fr t.to) = true
  rw [this]
  exact h3 t ht

theorem M.turn_mem {f : M.Fl} (h : M.check f = 0) (l : List Int) : l ∈ M.rtruths (M.turnF f) ↔ l.reverse ∈ M.rtruths f := by
  constructor
  · intro hl
    have := M.turn_sub (M.turn_check h) l hl
    rwa [M.turn_turn] at this
  · intro hl
    have := M.turn_sub h _ hl
    rwa [List.reverse_reverse] at this
theorem M.sw_mem {f : M.Fl} (h : M.check f = 0) {a b : Int} (a0 : 0 ≤ a) (a1 : a < f.wds) (b0 : 0 ≤ b) (b1 : b < f.wds) (l : List Int) : l ∈ M.rtruths (M.swF a b f) ↔ l.map (M.sw a b) ∈ M.rtruths f := by
  have hid : ∀ l : List Int, (l.map (M.sw a b)).map (M.sw a b) = l := fun l => by
    rw [List.map_map]
    exact (List.map_congr_left (g := id) fun t _ => M.sw_sw a b t).trans (List.map_id _)
  constructor
  · intro hl
    have := M.sw_sub (M.sw_check h a0 a1 b0 b1) a0 a1 b0 b1 l hl
    rwa [M.swF_swF] at this
  · intro hl
    have := M.sw_sub h a0 a1 b0 b1 _ hl
    rwa [hid] at this

theorem M.rdone_ext {x y : Int} {p q : List (List Int)} (h1 : ∀ t ∈ p, ∃ u ∈ q, M.rnum y u = M.rnum x t) (h2 : ∀ u ∈ q, ∃ t ∈ p, M.rnum x t = M.rnum y u) : M.rdone x p = M.rdone y q := by
  obtain ⟨a1, a2, a3, a4, a5⟩ := M.widen_spec (p.map (M.rnum x)) ⟨M.big, -M.big⟩
  obtain ⟨b1, b2, b3, b4, b5⟩ := M.widen_spec (q.map (M.rnum y)) ⟨M.big, -M.big⟩
  have ra : M.rdone x p = M.widen ⟨M.big, -M.big⟩ (p.map (M.rnum x)) := rfl
  have rb : M.rdone y q = M.widen ⟨M.big, -M.big⟩ (q.map (M.rnum y)) := rfl
  rw [← ra] at a1 a2 a3 a4 a5
  rw [← rb] at b1 b2 b3 b4 b5
  have hp : ∀ n ∈ p.map (M.rnum x), n ∈ q.map (M.rnum y) := fun n hn => by
    obtain ⟨t, ht, rfl⟩ := List.mem_map.1 hn
    obtain ⟨u, hu, he⟩ := h1 t ht
    exact List.mem_map.2 ⟨u, hu, he⟩
  have hq : ∀ n ∈ q.map (M.rnum y), n ∈ p.map (M.rnum x) := fun n hn => by
    obtain ⟨t, ht, rfl⟩ := List.mem_map.1 hn
    obtain ⟨u, hu, he⟩ := h2 t ht
    exact List.mem_map.2 ⟨u, hu, he⟩
  have e1 : (M.rdone x p).lo = (M.rdone y q).lo := by
    apply Int.le_antisymm
    · rcases b4 with b4 | b4
      · rw [b4]; exact a1
      · exact (a3 _ (hq _ b4)).1
    · rcases a4 with a4 | a4
      · rw [a4]; exact b1
      · exact (b3 _ (hp _ a4)).1
  have e2 : (M.rdone x p).hi = (M.rdone y q).hi := by
    apply Int.le_antisymm
    · rcases a5 with a5 | a5
      · rw [a5]; exact b2
      · exact (b3 _ (hp _ a5)).2
    · rcases b5 with b5 | b5
      · rw [b5]; exact a2
      · exact (a3 _ (hq _ b5)).2
  generalize M.rdone x p = P at e1 e2
  generalize M.rdone y q = Q at e1 e2
  obtain ⟨_, _⟩ := P
  obtain ⟨_, _⟩ := Q
  simp only at e1 e2
  subst e1 e2
  rfl

theorem M.turn_rdone {f : M.Fl} (h : M.check f = 0) (x : Int) : M.rdone x (M.rtruths (M.turnF f)) = M.rdone x (M.rtruths f) :=
  M.rdone_ext (fun t ht => ⟨t.reverse, (M.turn_mem h t).1 ht, by rw [M.rnum_cnt, M.rnum_cnt, M.cnt_rev]⟩)
    (fun u hu => ⟨u.reverse, M.turn_sub h u hu, by rw [M.rnum_cnt, M.rnum_cnt, M.cnt_rev]⟩)
theorem M.sw_rdone {f : M.Fl} (h : M.check f = 0) {a b : Int} (a0 : 0 ≤ a) (a1 : a < f.wds) (b0 : 0 ≤ b) (b1 : b < f.wds) (x : Int) : M.rdone (M.sw a b x) (M.rtruths (M.swF a b f)) = M.rdone x (M.rtruths f) :=
  M.rdone_ext (fun t ht => ⟨t.map (M.sw a b), (M.sw_mem h a0 a1 b0 b1 t).1 ht, by rw [M.rnum_cnt, M.rnum_cnt, ← M.cnt_sw a b (M.sw a b x) t, M.sw_sw]⟩)
    (fun u hu => ⟨u.map (M.sw a b), M.sw_sub h a0 a1 b0 b1 u hu, by rw [M.rnum_cnt, M.rnum_cnt, M.cnt_sw]⟩)

theorem M.turn_sure {f : M.Fl} (h : M.check f = 0) : M.sureE (M.turnF f) = M.sureE f := by
  unfold M.sureE
  rw [if_pos h, if_pos (M.turn_check h)]
  have : (M.rtruths (M.turnF f)).length = 0 ↔ (M.rtruths f).length = 0 := by
    constructor
    · intro e
      refine List.length_eq_zero_iff.2 (List.eq_nil_iff_forall_not_mem.2 fun l hl => ?_)
      have := M.turn_sub h l hl
      rw [List.eq_nil_of_length_eq_zero e] at this
      cases this
    · intro e
      refine List.length_eq_zero_iff.2 (List.eq_nil_iff_forall_not_mem.2 fun l hl => ?_)
      have := (M.turn_mem h l).1 hl
      rw [List.eq_nil_of_length_eq_zero e] at this
      cases this
  by_cases e : (M.rtruths f).length = 0
  · rw [if_pos e, if_pos (this.2 e)]
  · rw [if_neg e, if_neg (fun x => e (this.1 x))]
theorem M.sw_sure {f : M.Fl} (h : M.check f = 0) {a b : Int} (a0 : 0 ≤ a) (a1 : a < f.wds) (b0 : 0 ≤ b) (b1 : b < f.wds) : M.sureE (M.swF a b f) = M.sureE f := by
  unfold M.sureE
  rw [if_pos h, if_pos (M.sw_check h a0 a1 b0 b1)]
  have : (M.rtruths (M.swF a b f)).length = 0 ↔ (M.rtruths f).length = 0 := by
    constructor
    · intro e
      refine List.length_eq_zero_iff.2 (List.eq_nil_iff_forall_not_mem.2 fun l hl => ?_)
      have := M.sw_sub h a0 a1 b0 b1 l hl
      rw [List.eq_nil_of_length_eq_zero e] at this
      cases this
    · intro e
      refine List.length_eq_zero_iff.2 (List.eq_nil_iff_forall_not_mem.2 fun l hl => ?_)
      have := (M.sw_mem h a0 a1 b0 b1 l).1 hl
      rw [List.eq_nil_of_length_eq_zero e] at this
      cases this
  by_cases e : (M.rtruths f).length = 0
  · rw [if_pos e, if_pos (this.2 e)]
  · rw [if_neg e, if_neg (fun x => e (this.1 x))]

/-- The same tallies are left out. -/
theorem M.leave_of_spare {f g : M.Fl} (hf : M.check f = 0) (hg : M.check g = 0) (hl : g.ts.length = f.ts.length) (h : ∀ c, M.Spare f c → M.Spare g c) : (M.leaveBest g).length ≤ (M.leaveBest f).length := by
  obtain ⟨c, hc, hs, he⟩ := M.leave_spare hf
  have := M.leave_least hg (by rw [hl]; exact hc) (h c hs)
  rw [he]
  exact this
theorem M.sw_spare {f : M.Fl} (h : M.check f = 0) {a b : Int} (a0 : 0 ≤ a) (a1 : a < f.wds) (b0 : 0 ≤ b) (b1 : b < f.wds) {c : Nat} (hs : M.Spare f c) : M.Spare (M.swF a b f) c := by
  obtain ⟨l, s1, s2, s3⟩ := hs
  refine ⟨l.map (M.sw a b), M.sw_say a0 a1 b0 b1 s1, by rw [M.sw_allows h s1 a0 b0]; exact s2, fun j u hu hj => ?_⟩
  have hu2 : (f.ts.map (M.swT a b))[j]? = some u := hu
  rw [List.getElem?_map] at hu2
  obtain ⟨t, ht, rfl⟩ := Option.map_eq_some_iff.1 hu2
  have hv := M.tally_of h t (List.mem_of_getElem? ht)
  have := M.sw_count s1 (a := a) (b := b) (x := t.wd) (fr := t.fr) (tt := t.to) (by omega) (by omega)
  show M.holds t.ct (M.count (M.pad (l.map (M.sw a b))) (M.sw a b t.wd) t.fr t.to) = true
  rw [this]
  exact s3 j t ht hj
theorem M.sw_leave {f : M.Fl} (h : M.check f = 0) {a b : Int} (a0 : 0 ≤ a) (a1 : a < f.wds) (b0 : 0 ≤ b) (b1 : b < f.wds) : (M.leaveBest (M.swF a b f)).length = (M.leaveBest f).length := by
  have hg := M.sw_check h a0 a1 b0 b1
  apply Nat.le_antisymm
  · exact M.leave_of_spare h hg (by simp [M.swF]) (fun c hc => M.sw_spare h a0 a1 b0 b1 hc)
  · have := M.leave_of_spare hg (by rw [M.swF_swF]; exact h) (by simp [M.swF]) (fun c hc => M.sw_spare (f := M.swF a b f) hg a0 a1 b0 b1 hc)
    rwa [M.swF_swF] at this

/-- A set of rows, turned. -/
def M.rv (R c : Nat) : Nat := (List.range R).foldl (fun acc j => acc * 2 + c / 2 ^ j % 2) 0
theorem rv_table : ((List.range 8).all fun R => (List.range (2 ^ R)).all fun c => decide (M.rv R c < 2 ^ R) && (decide ((M.bits (M.rv R c)).length = (M.bits c).length) && (List.range R).all fun j => decide (M.rv R c / 2 ^ j % 2 = c / 2 ^ (R - 1 - j) % 2))) = true := by decide +kernel
theorem M.rv_spec {R c : Nat} (hR : R ≤ 7) (hc : c < 2 ^ R) : M.rv R c < 2 ^ R ∧ (M.bits (M.rv R c)).length = (M.bits c).length ∧ ∀ j, j < R → M.rv R c / 2 ^ j % 2 = c / 2 ^ (R - 1 - j) % 2 := by
  have h0 := rv_table
  rw [List.all_eq_true] at h0
  have h1 := h0 R (List.mem_range.2 (by omega))
  rw [List.all_eq_true] at h1
  have h2 := h1 c (List.mem_range.2 (by omega))
  simp only [Bool.and_eq_true, List.all_eq_true, decide_eq_true_eq] at h2
  exact ⟨h2.1, h2.2.1, fun j hj => h2.2.2 j (List.mem_range.2 hj)⟩

theorem M.getD_rev {l : List Int} {j : Nat} (hj : j < l.length) : l.reverse.getD j 0 = l.getD (l.length - 1 - j) 0 := by
  rw [List.getD_eq_getElem?_getD, List.getD_eq_getElem?_getD, List.getElem?_reverse hj]

theorem M.turn_settles {f : M.Fl} (h : M.check f = 0) {x : Int} {c : Nat} (hc : c < 2 ^ f.rows.toNat) (hs : M.rsettles x c (M.rtruths f) = true) : M.rsettles x (M.rv f.rows.toNat c) (M.rtruths (M.turnF f)) = true := by
  obtain ⟨r1, r7, _⟩ := M.check_bd h
  obtain ⟨_, _, v3⟩ := M.rv_spec (by omega) hc
  have hl : ∀ t ∈ M.rtruths f, t.length = f.rows.toNat := fun t ht => by have := M.rt_len h t ht; omega
  have hl2 : ∀ t ∈ M.rtruths (M.turnF f), t.length = f.rows.toNat := fun t ht => by
    have := M.rt_len (M.turn_check h) t ht
    have e : (M.turnF f).rows = f.rows := rfl
    omega
  rw [M.rsettles_iff hl] at hs
  rw [M.rsettles_iff hl2]
  intro t ht u hu he
  have := hs _ ((M.turn_mem h t).1 ht) _ ((M.turn_mem h u).1 hu) (fun r hr hb => by
    rw [M.getD_rev (by rw [hl2 t ht]; exact hr), M.getD_rev (by rw [hl2 u hu]; exact hr), hl2 t ht, hl2 u hu]
    refine he _ (by omega) ?_
    rw [v3 _ (by omega), show f.rows.toNat - 1 - (f.rows.toNat - 1 - r) = r from by omega]
    exact hb)
  rw [M.rnum_cnt, M.rnum_cnt, M.cnt_rev, M.cnt_rev] at this
  rw [M.rnum_cnt, M.rnum_cnt]
  exact this

theorem M.ask_le {f : M.Fl} (h : M.check f = 0) (x : Int) {c : Nat} (hc : c < 2 ^ f.rows.toNat) (hs : M.rsettles x c (M.rtruths f) = true) : (M.askBest f x).length ≤ (M.bits c).length := by
  obtain ⟨_, _, k3⟩ := M.askBest_rows h x
  cases hsh : M.shorter (M.bits c) (M.askBest f x) with
  | true => rw [k3 c (by omega) hsh] at hs; cases hs
  | false =>
    rcases Nat.lt_or_ge (M.bits c).length (M.askBest f x).length with h1 | h1
    · rw [(M.shorter_iff _ _).2 (.inl h1)] at hsh; cases hsh
    · exact h1
theorem M.turn_ask {f : M.Fl} (h : M.check f = 0) (x : Int) : (M.askBest (M.turnF f) x).length = (M.askBest f x).length := by
  have key : ∀ e : M.Fl, M.check e = 0 → (M.askBest (M.turnF e) x).length ≤ (M.askBest e x).length := by
    intro e he
    obtain ⟨r1, r7, _⟩ := M.check_bd he
    obtain ⟨c, hc, hs, hb⟩ := M.askBest_bits he x
    obtain ⟨v1, v2, _⟩ := M.rv_spec (R := e.rows.toNat) (by omega) hc
    have := M.ask_le (M.turn_check he) x (c := M.rv e.rows.toNat c) v1 (M.turn_settles he hc hs)
    rw [v2] at this
    rw [hb]
    exact this
  apply Nat.le_antisymm
  · exact key f h
  · have := key (M.turnF f) (M.turn_check h)
    rwa [M.turn_turn] at this

end Go.Proofs.Ytcecmphdmpeibaa
