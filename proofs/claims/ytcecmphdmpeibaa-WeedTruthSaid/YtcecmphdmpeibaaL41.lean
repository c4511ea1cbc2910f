import Derived.Test.YtcecmphdmpeibaaL38
set_option linter.unusedSimpArgs false
set_option linter.unusedVariables false
namespace Go.Proofs.Ytcecmphdmpeibaa
open Go.RowKit

/-- One of some words, 0 if there is none. -/
def M.word (ws : List Int) (i : Nat) : Int := if ws.length = 0 then 0 else ws.getD (i % ws.length) 0
/-- A tally that is right in a list, by a word. -/
def M.toldT (f : M.Fl) (t : List Int) (x : Int) : M.Tl :=
  ⟨x % f.wds, x / 4 % f.rows, x / 4 % f.rows + x / 32 % (f.rows - x / 4 % f.rows),
    ⟨max 0 (M.count t (x % f.wds) (x / 4 % f.rows) (x / 4 % f.rows + x / 32 % (f.rows - x / 4 % f.rows)) - x / 256 % 2),
     min f.rows (M.count t (x % f.wds) (x / 4 % f.rows) (x / 4 % f.rows + x / 32 % (f.rows - x / 4 % f.rows)) + x / 512 % 2)⟩⟩
def M.toldN (ws : List Int) : Nat := (M.word ws 0 % 6).toNat
def M.toldL (f : M.Fl) (t : List Int) : M.Rg := ⟨min f.lf.lo (M.count t (-1) 0 (f.rows - 1)), max f.lf.hi (M.count t (-1) 0 (f.rows - 1))⟩
def M.toldF (f : M.Fl) (t : List Int) (ws : List Int) : M.Fl := ⟨f.rows, f.wds, M.toldL f t, (List.range (M.toldN ws)).map fun i => M.toldT f t (M.word ws (i + 1))⟩

theorem M.word_bd {ws : List Int} (h : ∀ x ∈ ws, 0 ≤ x ∧ x < 65536) (i : Nat) : 0 ≤ M.word ws i ∧ M.word ws i < 65536 := by
  unfold M.word
  split
  · omega
  · rename_i h0
    have hlt : i % ws.length < ws.length := Nat.mod_lt _ (by omega)
    rw [List.getD_eq_getElem?_getD, List.getElem?_eq_getElem hlt, Option.getD_some]
    exact h _ (List.getElem_mem hlt)
theorem M.toldN_le {ws : List Int} : M.toldN ws ≤ 5 := by unfold M.toldN; omega

theorem M.count_bd {f : M.Fl} {t : List Int} (hs : M.Say f t) {x fr tt : Int} (h0 : 0 ≤ fr) (h1 : fr ≤ tt) (h2 : tt < f.rows) : 0 ≤ M.count t x fr tt ∧ M.count t x fr tt ≤ f.rows := by
  have hb := M.cnt_bd x ((t.drop fr.toNat).take (tt.toNat + 1 - fr.toNat))
  have hl : ((t.drop fr.toNat).take (tt.toNat + 1 - fr.toNat)).length ≤ t.length := by rw [List.length_take, List.length_drop]; omega
  have := hs.1
  unfold M.count
  omega

theorem M.toldT_bd {f : M.Fl} (h : M.check f = 0) {t : List Int} (hs : M.Say f t) {x : Int} (x0 : 0 ≤ x) :
    0 ≤ (M.toldT f t x).wd ∧ (M.toldT f t x).wd < f.wds ∧ 0 ≤ (M.toldT f t x).fr ∧ (M.toldT f t x).fr ≤ (M.toldT f t x).to ∧ (M.toldT f t x).to < f.rows := by
  obtain ⟨r1, r7, d1, d3, _, _⟩ := M.check_bd h
  have a0 := Int.emod_nonneg x (show f.wds ≠ 0 by omega)
  have a1 := Int.emod_lt_of_pos x (show 0 < f.wds by omega)
  have b0 := Int.emod_nonneg (x / 4) (show f.rows ≠ 0 by omega)
  have b1 := Int.emod_lt_of_pos (x / 4) (show 0 < f.rows by omega)
  have c0 := Int.emod_nonneg (x / 32) (show f.rows - x / 4 % f.rows ≠ 0 by omega)
  have c1 := Int.emod_lt_of_pos (x / 32) (show 0 < f.rows - x / 4 % f.rows by omega)
  simp only [M.toldT]
  omega

theorem M.toldT_ct {f : M.Fl} (h : M.check f = 0) {t : List Int} (hs : M.Say f t) {x : Int} (x0 : 0 ≤ x) :
    M.upTo (M.toldT f t x).ct f.rows = true ∧ M.holds (M.toldT f t x).ct (M.count t (M.toldT f t x).wd (M.toldT f t x).fr (M.toldT f t x).to) = true := by
  obtain ⟨e0, e1, e2, e3, e4⟩ := M.toldT_bd h hs x0
  have hc := M.count_bd hs (x := (M.toldT f t x).wd) e2 e3 e4
  have p0 : 0 ≤ x / 256 % 2 := by omega
  have p1 : 0 ≤ x / 512 % 2 := by omega
  simp only [M.toldT] at hc ⊢
  generalize M.count t (x % f.wds) (x / 4 % f.rows) (x / 4 % f.rows + x / 32 % (f.rows - x / 4 % f.rows)) = n at hc ⊢
  generalize x / 256 % 2 = p at p0 ⊢
  generalize x / 512 % 2 = q at p1 ⊢
  unfold M.upTo M.holds
  simp only [Bool.and_eq_true, decide_eq_true_eq]
  omega

theorem M.told_check {f : M.Fl} (h : M.check f = 0) {t : List Int} (hs : M.Say f t) {ws : List Int} (hw : ∀ x ∈ ws, 0 ≤ x ∧ x < 65536) : M.check (M.toldF f t ws) = 0 := by
  obtain ⟨r1, r7, d1, d3, hp, n5⟩ := M.check_bd h
  obtain ⟨l0, l1, l2⟩ := M.left_of h
  have hc := M.count_bd hs (x := -1) (fr := 0) (tt := f.rows - 1) (by omega) (by omega) (by omega)
  have hN := M.toldN_le (ws := ws)
  have hv : M.valid (M.toldF f t ws) = true := by
    unfold M.valid
    simp only [Bool.and_eq_true, decide_eq_true_eq, List.all_eq_true]
    refine ⟨by show 1 ≤ f.rows; omega, by show 1 ≤ f.wds; omega, ?_, ?_⟩
    · show M.upTo (M.toldL f t) f.rows = true
      unfold M.upTo M.toldL
      simp only [Bool.and_eq_true, decide_eq_true_eq]
      omega
    · intro u hu
      obtain ⟨i, _, rfl⟩ := List.mem_map.1 hu
      have hb := (M.word_bd hw (i + 1)).1
      obtain ⟨e0, e1, e2, e3, e4⟩ := M.toldT_bd h hs hb
      have e5 := (M.toldT_ct h hs hb).1
      show (decide (0 ≤ (M.toldT f t (M.word ws (i + 1))).wd) && decide ((M.toldT f t (M.word ws (i + 1))).wd < f.wds) && (decide (0 ≤ (M.toldT f t (M.word ws (i + 1))).fr) && decide ((M.toldT f t (M.word ws (i + 1))).fr < f.rows) && (decide (0 ≤ (M.toldT f t (M.word ws (i + 1))).to) && decide ((M.toldT f t (M.word ws (i + 1))).to < f.rows) && (decide ((M.toldT f t (M.word ws (i + 1))).fr ≤ (M.toldT f t (M.word ws (i + 1))).to) && M.upTo (M.toldT f t (M.word ws (i + 1))).ct f.rows)))) = true
      simp only [Bool.and_eq_true, decide_eq_true_eq]
      exact ⟨⟨e0, e1⟩, ⟨e2, by omega⟩, ⟨by omega, e4⟩, e3, e5⟩
  have hpw : M.power (M.toldF f t ws) = M.power f := rfl
  have hr : (M.toldF f t ws).rows = f.rows := rfl
  have hd : (M.toldF f t ws).wds = f.wds := rfl
  have hl : (M.toldF f t ws).ts.length = M.toldN ws := by simp [M.toldF]
  unfold M.check
  rw [if_neg (by omega), hv, hpw, if_neg (by decide), if_neg (by omega)]

theorem M.told_tru {f : M.Fl} (h : M.check f = 0) {t : List Int} (hs : M.Say f t) {ws : List Int} (hw : ∀ x ∈ ws, 0 ≤ x ∧ x < 65536) : M.Say (M.toldF f t ws) t ∧ M.Tru (M.toldF f t ws) t := by
  obtain ⟨r1, r7, d1, d3, hp, n5⟩ := M.check_bd h
  have hl := hs.1
  refine ⟨hs, ?_, ?_⟩
  · unfold M.allows
    show M.holds (M.toldL f t) (M.count (M.pad t) (-1) 0 (f.rows - 1)) = true
    rw [M.count_pad (by omega) (by omega)]
    unfold M.holds M.toldL
    simp only [Bool.and_eq_true, decide_eq_true_eq]
    omega
  · intro u hu
    obtain ⟨i, _, rfl⟩ := List.mem_map.1 hu
    have hb := (M.word_bd hw (i + 1)).1
    obtain ⟨e0, e1, e2, e3, e4⟩ := M.toldT_bd h hs hb
    rw [M.count_pad (by omega) (by omega)]
    exact (M.toldT_ct h hs hb).2
theorem M.told_mem {f : M.Fl} (h : M.check f = 0) {t : List Int} (hs : M.Say f t) {ws : List Int} (hw : ∀ x ∈ ws, 0 ≤ x ∧ x < 65536) : t ∈ M.rtruths (M.toldF f t ws) :=
  (M.mem_rtruths (M.told_check h hs hw) t).2 (M.told_tru h hs hw)

theorem M.begin_of_mem {f : M.Fl} (h : M.check f = 0) {t : List Int} (ht : t ∈ M.rtruths f) (b : Bool) (hb : b = true) : M.begin f b = 0 := by
  rw [M.begin_ref f b h, hb, if_pos rfl]
  unfold M.sureE
  rw [if_pos h, if_neg (by intro e; rw [List.eq_nil_of_length_eq_zero e] at ht; cases ht)]
theorem M.first_of_mem {f : M.Fl} (h : M.check f = 0) {t : List Int} (ht : t ∈ M.rtruths f) : M.First f = (0, 7) := by
  rcases M.first_some h with ⟨h1, _⟩ | ⟨k, _, hk, _, h2⟩
  · exact h1
  · exfalso
    obtain ⟨s1, s2, s3⟩ := (M.mem_rtruths h t).1 ht
    have hck : M.check (M.subF f (2 ^ (k + 1) - 1)) = 0 := by
      by_cases hc : M.check (M.subF f (2 ^ (k + 1) - 1)) = 0
      · exact hc
      · unfold M.begin at h2
        rw [if_neg hc] at h2
        have : M.check (M.subF f (2 ^ (k + 1) - 1)) ≠ 11 := by unfold M.check; split <;> (try split) <;> (try split) <;> omega
        exact absurd h2 this
    have hm : t ∈ M.rtruths (M.subF f (2 ^ (k + 1) - 1)) := (M.mem_rtruths hck t).2 ⟨s1, s2, fun u hu => by
      obtain ⟨j, hj, _⟩ := (M.mem_keepK _ _ _ _).1 hu
      exact s3 u (List.mem_of_getElem? hj)⟩
    rw [M.begin_of_mem hck hm true rfl] at h2
    cases h2
theorem M.prove_of_mem {f : M.Fl} (h : M.check f = 0) {t : List Int} (ht : t ∈ M.rtruths f) : M.proveTruth f t = true := by
  obtain ⟨_, _, _, _, _, n5⟩ := M.check_bd h
  obtain ⟨s1, s2, s3⟩ := (M.mem_rtruths h t).1 ht
  unfold M.proveTruth
  simp only [Bool.and_eq_true, decide_eq_true_eq, List.all_eq_true]
  refine ⟨h, s1.1, fun y hy => ?_, s2, (M.wrong_none n5 _).2 s3⟩
  have := s1.2 y hy
  unfold M.canSay M.hasWd
  by_cases h1 : y = -1
  · simp [h1]
  · simp [h1]; omega
theorem M.who_of_mem {f : M.Fl} (h : M.check f = 0) {t : List Int} (ht : t ∈ M.rtruths f) {r : Nat} (hr : r < t.length) : M.has (M.who f r (M.truths f)) (t.getD r 0) = true := by
  obtain ⟨r1, r7, d1, d3, _, n5⟩ := M.check_bd h
  obtain ⟨s1, _⟩ := (M.mem_rtruths h t).1 ht
  unfold M.has M.who
  rw [List.any_eq_true]
  have hm : t.getD r 0 ∈ t := by
    rw [List.getD_eq_getElem?_getD, List.getElem?_eq_getElem hr, Option.getD_some]
    exact List.getElem_mem hr
  have := s1.2 _ hm
  refine ⟨t.getD r 0, (M.mem_whoFrom _ _).2 ⟨by omega, by omega, ?_⟩, by simp⟩
  unfold M.whoF
  rw [List.any_eq_true]
  exact ⟨M.pad t, (M.truths_same h _).2 ⟨t, ht, rfl⟩, by rw [Int.toNat_natCast, M.pad_get hr]; simp⟩

theorem M.rdone_mem {x : Int} {l : List (List Int)} {t : List Int} (ht : t ∈ l) : M.inR (M.rnum x t) (M.rdone x l) = true := by
  obtain ⟨_, _, a3, _, _⟩ := M.widen_spec (l.map (M.rnum x)) ⟨M.big, -M.big⟩
  have := a3 _ (List.mem_map.2 ⟨t, ht, rfl⟩)
  unfold M.inR M.rdone
  simp only [Bool.and_eq_true, decide_eq_true_eq]
  exact this

theorem M.rnum_cnt2 (x : Int) (l : List Int) : M.rnum x l = M.cnt x l := by
  unfold M.rnum M.count
  rw [List.take_of_length_le (by simp; omega)]
  simp

/-- How many rows the first weeders did, and how many were left. -/
def M.sumTo (t : List Int) : Nat → Int
  | 0 => M.cnt (-1) t
  | k + 1 => M.sumTo t k + M.cnt (k : Int) t
theorem M.sumTo_cons (y : Int) (t : List Int) : ∀ (k : Nat), M.sumTo (y :: t) k = M.sumTo t k + (if -1 ≤ y ∧ y < (k : Int) then 1 else 0)
  | 0 => by
    show (if y = -1 then 1 else 0) + M.cnt (-1) t = M.cnt (-1) t + _
    by_cases h : y = -1
    · rw [if_pos h, if_pos (by omega)]; omega
    · rw [if_neg h, if_neg (by omega)]; omega
  | k + 1 => by
    show M.sumTo (y :: t) k + M.cnt (k : Int) (y :: t) = M.sumTo t k + M.cnt (k : Int) t + _
    rw [M.sumTo_cons y t k, M.cnt]
    by_cases h : y = (k : Int)
    · rw [if_pos h, if_neg (by omega), if_pos (by omega)]; omega
    · rw [if_neg h]
      by_cases h2 : -1 ≤ y ∧ y < (k : Int)
      · rw [if_pos h2, if_pos (by omega)]; omega
      · rw [if_neg h2, if_neg (by omega)]; omega
theorem M.sumTo_all : ∀ (t : List Int) (D : Nat), (∀ y ∈ t, -1 ≤ y ∧ y < (D : Int)) → M.sumTo t D = t.length
  | [], D, _ => by
    have : ∀ k, M.sumTo [] k = 0 := fun k => by
      induction k with
      | zero => rfl
      | succ k ih => show M.sumTo [] k + 0 = 0; omega
    rw [this]; rfl
  | y :: t, D, h => by
    rw [M.sumTo_cons, M.sumTo_all t D (fun z hz => h z (by simp [hz])), if_pos (h y (by simp))]
    simp
theorem M.sumTo_bd (t : List Int) : ∀ k : Nat, 0 ≤ M.sumTo t k ∧ M.sumTo t k ≤ (k + 1) * t.length
  | 0 => by have := M.cnt_bd (-1) t; simp [M.sumTo]; omega
  | k + 1 => by
    have h1 := M.sumTo_bd t k
    have h2 := M.cnt_bd (k : Int) t
    have : M.sumTo t (k + 1) = M.sumTo t k + M.cnt (k : Int) t := rfl
    rw [this]
    push_cast
    have e : ((k : Int) + 1 + 1) * t.length = (k + 1) * t.length + t.length := by rw [Int.add_mul ((k : Int) + 1) 1, Int.one_mul]
    omega

end Go.Proofs.Ytcecmphdmpeibaa
