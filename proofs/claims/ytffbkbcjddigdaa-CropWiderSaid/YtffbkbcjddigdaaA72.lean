import Derived.Test.YtffbkbcjddigdaaA71
import Derived.Test.YtffbkbcjddigdaaA60
set_option linter.unusedSimpArgs false
set_option linter.unusedVariables false
namespace Go.Proofs.Ytffbkbcjddigdaa
open Go.RowKit Go.Shelf

theorem M.span_le {l : List Int} {y : Int} (h : y ∈ l) : (M.span l).lo ≤ y ∧ y ≤ (M.span l).hi := by
 cases l with
 | nil => cases h
 | cons x xs =>
  have h1 := M.least_le x xs
  have h2 := M.most_ge x xs
  show M.least x xs ≤ y ∧ y ≤ M.most x xs
  rcases List.mem_cons.1 h with rfl | h
  ·
   exact ⟨h1.1, h2.1⟩
  ·
   exact ⟨h1.2 y h, h2.2 y h⟩
theorem M.span_mem2 {l : List Int} (h : l ≠ []) : (M.span l).lo ∈ l ∧ (M.span l).hi ∈ l := by
 cases l with
 | nil => exact absurd rfl h
 | cons x xs =>
  show M.least x xs ∈ x :: xs ∧ M.most x xs ∈ x :: xs
  refine ⟨?_, ?_⟩
  ·
   rcases M.least_mem x xs with h1 | h1
   ·
    rw [h1]; simp
   ·
    exact List.mem_cons_of_mem _ h1
  ·
   rcases M.most_mem x xs with h1 | h1
   ·
    rw [h1]; simp
   ·
    exact List.mem_cons_of_mem _ h1
theorem M.span_sub {a b : List Int} (ha : a ≠ []) (h : ∀ y ∈ a, y ∈ b) : (M.span b).lo ≤ (M.span a).lo ∧ (M.span a).hi ≤ (M.span b).hi :=
 ⟨(M.span_le (h _ (M.span_mem2 ha).1)).1, (M.span_le (h _ (M.span_mem2 ha).2)).2⟩
/-- A plan rises, so it is among those that are gone through. -/
theorem M.rise_of {sz : Nat} : ∀ (x : List Int) (frm : Int), M.rises x = true → (∀ a ∈ x, a < sz) → (∀ a ∈ x, frm ≤ a) → M.Rise sz frm x
 | [], _, _, _, _ => trivial
 | a :: r, frm, hr, h1, h2 => ⟨h2 a (by simp), h1 a (by simp), M.rise_of r (a + 1) (M.rises_tail hr) (fun b hb => h1 b (by simp [hb])) (fun b hb => by have := M.rises_lt hr b hb; omega)⟩
theorem M.plan_incr {f : M.Cf} {x : List Int} (h : M.isPlan f x = true) (h0 : 0 ≤ f.last) : x ∈ M.incr (f.last + 1).toNat x.length 0 := by
 obtain ⟨_, hr, hb⟩ := M.plan_parts h
 refine (M.mem_incr _ _ _ _).2 ⟨rfl, M.rise_of x _ hr (fun a ha => by have := hb a ha; omega) (fun a ha => by have := hb a ha; simpa using this.1)⟩
theorem M.fold_best (f : M.Cf) (ts : List M.Tr) : ∀ (l : List (List Int)) (s : List Int × Int), s.2 ≤ (l.foldl (M.bestS f ts) s).2 ∧ (∀ x ∈ l, M.sure f ts x ≤ (l.foldl (M.bestS f ts) s).2) ∧ (l.foldl (M.bestS f ts) s = s ∨ ∃ x ∈ l, l.foldl (M.bestS f ts) s = (x, M.sure f ts x))
 | [], s => ⟨Int.le_refl _, fun x hx => (by cases hx), .inl rfl⟩
 | x :: r, s => by
  have ih := M.fold_best f ts r (M.bestS f ts s x)
  rw [List.foldl_cons]
  have h1 : s.2 ≤ (M.bestS f ts s x).2 ∧ M.sure f ts x ≤ (M.bestS f ts s x).2 ∧ (M.bestS f ts s x = s ∨ M.bestS f ts s x = (x, M.sure f ts x)) := by
   unfold M.bestS
   split
   ·
    rename_i h
    refine ⟨?_, Int.le_refl _, .inr rfl⟩
    show s.2 ≤ M.sure f ts x
    omega
   ·
    rename_i h
    exact ⟨Int.le_refl _, by omega, .inl rfl⟩
  refine ⟨by omega, fun y hy => ?_, ?_⟩
  ·
   rcases List.mem_cons.1 hy with rfl | hy
   ·
    omega
   ·
    exact ih.2.1 y hy
  ·
   rcases ih.2.2 with h2 | ⟨y, hy, h2⟩
   ·
    rcases h1.2.2 with h3 | h3
    ·
     exact .inl (h2.trans h3)
    ·
     exact .inr ⟨x, by simp, h2.trans h3⟩
   ·
    exact .inr ⟨y, by simp [hy], h2⟩
theorem M.fold_len (f : M.Cf) (ts : List M.Tr) : ∀ (Ls : List Nat) (s : List Int × Int), s.2 ≤ (Ls.foldl (M.bestL f ts) s).2 ∧ (∀ L ∈ Ls, ∀ x ∈ M.incr (f.last + 1).toNat L 0, M.sure f ts x ≤ (Ls.foldl (M.bestL f ts) s).2) ∧ (Ls.foldl (M.bestL f ts) s = s ∨ ∃ L ∈ Ls, ∃ x ∈ M.incr (f.last + 1).toNat L 0, Ls.foldl (M.bestL f ts) s = (x, M.sure f ts x))
 | [], s => ⟨Int.le_refl _, fun x hx => (by cases hx), .inl rfl⟩
 | L :: r, s => by
  have ih := M.fold_len f ts r (M.bestL f ts s L)
  have h1 := M.fold_best f ts (M.incr (f.last + 1).toNat L 0) s
  rw [show (M.incr (f.last + 1).toNat L 0).foldl (M.bestS f ts) s = M.bestL f ts s L from rfl] at h1
  rw [List.foldl_cons]
  refine ⟨by omega, fun K hK x hx => ?_, ?_⟩
  ·
   rcases List.mem_cons.1 hK with rfl | hK
   ·
    have := h1.2.1 x hx; omega
   ·
    exact ih.2.1 K hK x hx
  ·
   rcases ih.2.2 with h2 | ⟨K, hK, y, hy, h2⟩
   ·
    rcases h1.2.2 with h3 | ⟨x, hx, h3⟩
    ·
     exact .inl (h2.trans h3)
    ·
     exact .inr ⟨L, by simp, x, hx, h2.trans h3⟩
   ·
    exact .inr ⟨K, by simp [hK], y, hy, h2⟩
theorem M.sure_nil (f : M.Cf) {ts : List M.Tr} (h : ts ≠ []) : M.sure f ts [] = 0 := by
 have h1 := (M.span_mem2 (l := ts.map fun t => M.total f t []) (by simpa using h)).1
 obtain ⟨t, _, ht⟩ := List.mem_map.1 h1
 show (M.span (ts.map fun t => M.total f t [])).lo = 0
 rw [← ht]
 rfl
/-- The best plan has the greatest sure worth. -/
theorem M.best_spec {f : M.Cf} {ts : List M.Tr} (h9 : 0 ≤ f.last ∧ f.last ≤ 9) (h : ts ≠ []) : (∀ p, M.isPlan f p = true → M.sure f ts p ≤ (M.best f ts).2) ∧ M.isPlan f (M.best f ts).1 = true ∧ M.sure f ts (M.best f ts).1 = (M.best f ts).2 := by
 obtain ⟨h1, h2, h3⟩ := M.fold_len f ts (List.range (f.base.length + 1)) ([], 0)
 rw [show (List.range (f.base.length + 1)).foldl (M.bestL f ts) ([], 0) = M.best f ts from rfl] at h1 h2 h3
 refine ⟨fun p hp => h2 p.length (List.mem_range.2 (by have := (M.plan_parts hp).1; omega)) p (M.plan_incr hp h9.1), ?_⟩
 rcases h3 with h3 | ⟨L, hL, x, hx, h3⟩
 ·
  rw [h3]
  exact ⟨by unfold M.isPlan; simp [M.rises], M.sure_nil f h⟩
 ·
  rw [h3]
  exact ⟨M.incr_plan h9 (by have := List.mem_range.1 hL; omega) hx, rfl⟩
/-- With fewer truths a plan is sure to be worth no less. -/
theorem M.sure_sub {f : M.Cf} {a b : List M.Tr} (ha : a ≠ []) (h : ∀ t ∈ a, t ∈ b) (p : List Int) : M.sure f b p ≤ M.sure f a p :=
 (M.span_sub (a := a.map fun t => M.total f t p) (b := b.map fun t => M.total f t p) (by simpa using ha) (fun y hy => by
  obtain ⟨t, ht, rfl⟩ := List.mem_map.1 hy
  exact List.mem_map.2 ⟨t, h t ht, rfl⟩)).1
theorem M.best_sub {f : M.Cf} {a b : List M.Tr} (h9 : 0 ≤ f.last ∧ f.last ≤ 9) (ha : a ≠ []) (h : ∀ t ∈ a, t ∈ b) : (M.best f b).2 ≤ (M.best f a).2 := by
 have hb : b ≠ [] := fun e => by
  cases a with
  | nil => exact ha rfl
  | cons t r => have := h t (by simp); rw [e] at this; cases this
 obtain ⟨_, h2, h3⟩ := M.best_spec h9 hb
 have h4 := (M.best_spec h9 ha).1 _ h2
 have h5 := M.sure_sub ha h (M.best f b).1 (f := f)
 omega
/-- What can be left out, by bits. -/
theorem M.leave_bits {f : M.Cf} (h : M.check f = 0) {n : Nat} (hl : f.looks.length = n) : ∃ c, c < 2 ^ n ∧ M.fit f (M.keepK (M.butB n c) f.looks 0) = true ∧ M.shortest (M.spares f) n = M.bits c := by
 have n5 : n ≤ 5 := by rw [← hl]; exact (M.check0 h).2.2.1
 have hP : 0 < 2 ^ n := Nat.pow_pos (by omega)
 have hall : M.fit f (M.keepK (M.butB n (2 ^ n - 1)) f.looks 0) = true := by
  unfold M.butB
  rw [Nat.and_self, Nat.xor_self, M.keepK_zero]
  exact M.fit_nil (M.check0 h).2.2.2.1
 have hsame := M.shortest_pick (p := M.spares f) (q := fun b => M.fit f (M.keepK (M.butB n b) f.looks 0)) (sz := n) (by omega) (fun b hb => M.spares_bits hl n5 hb) hall
 obtain ⟨h1, _, _⟩ := M.pick_spec (fun b => M.fit f (M.keepK (M.butB n b) f.looks 0)) (2 ^ n - 1 + 1) 0 (M.bits (2 ^ n - 1))
 rw [← hsame] at h1
 rcases h1 with h1 | ⟨c, _, h5, h6, h7⟩
 ·
  exact ⟨_, by omega, hall, h1⟩
 ·
  exact ⟨c, by omega, h6, h7⟩
theorem M.leave_least {f : M.Cf} (h : M.check f = 0) {n : Nat} (hl : f.looks.length = n) {t : Nat} (ht : t < 2 ^ n) (hf : M.fit f (M.keepK (M.butB n t) f.looks 0) = true) : (M.shortest (M.spares f) n).length ≤ (M.bits t).length := by
 obtain ⟨_, _, _, _, _, _, _, h7⟩ := M.leave_spec h hl
 have := h7 t ht hf
 rcases Nat.lt_or_ge (M.bits t).length (M.shortest (M.spares f) n).length with h1 | h1
 ·
  rw [(M.shorter_iff _ _).2 (.inl h1)] at this; cases this
 ·
  exact h1
theorem more_table : ((List.range 5).all fun n => ((List.range (2 ^ n)).all fun c => decide ((M.bits (c + 2 ^ n)).length = (M.bits c).length + 1) && (decide (((n : Nat) : Int) ∈ M.bits (c + 2 ^ n)) && (List.range n).all fun j => decide ((((j : Nat) : Int) ∈ M.bits (c + 2 ^ n)) ↔ (((j : Nat) : Int) ∈ M.bits c)))) && (List.range (2 ^ (n + 1))).all fun d => decide ((M.bits (d % 2 ^ n)).length ≤ (M.bits d).length) && (List.range n).all fun j => decide ((((j : Nat) : Int) ∈ M.bits (d % 2 ^ n)) ↔ (((j : Nat) : Int) ∈ M.bits d))) = true := by decide +kernel
theorem M.fit_mono {f : M.Cf} {a b : List M.Lk} (h : ∀ l ∈ b, l ∈ a) (ha : M.fit f a = true) : M.fit f b = true := by
 rw [M.fit_any, List.any_eq_true] at ha ⊢
 obtain ⟨t, h1, h2⟩ := ha
 exact ⟨t, h1, by rw [List.all_eq_true] at h2 ⊢; exact fun l hl => h2 l (h l hl)⟩
theorem M.fit_with (f : M.Cf) (ls a : List M.Lk) : M.fit (M.withL f ls) a = M.fit f a := by
 rw [M.fit_any, M.fit_any]
 rfl
/-- One more look: as many are left out, or one more. -/
theorem M.leave_more {f : M.Cf} {l : M.Lk} (hf : M.check f = 0) (hg : M.check (M.withL f (f.looks ++ [l])) = 0) {n : Nat} (hl : f.looks.length = n) : (M.shortest (M.spares f) n).length ≤ (M.shortest (M.spares (M.withL f (f.looks ++ [l]))) (n + 1)).length ∧ (M.shortest (M.spares (M.withL f (f.looks ++ [l]))) (n + 1)).length ≤ (M.shortest (M.spares f) n).length + 1 := by
 have hgl : (M.withL f (f.looks ++ [l])).looks.length = n + 1 := by show (f.looks ++ [l]).length = n + 1; simp [hl]
 have n5 : n + 1 ≤ 5 := by rw [← hgl]; exact (M.check0 hg).2.2.1
 have h0 := more_table
 rw [List.all_eq_true] at h0
 have h1 := h0 n (List.mem_range.2 (by omega))
 simp only [Bool.and_eq_true, List.all_eq_true, decide_eq_true_eq] at h1
 obtain ⟨ta, tb⟩ := h1
 have hpow : 2 ^ (n + 1) = 2 * 2 ^ n := by rw [Nat.pow_succ]; omega
 constructor
 ·
  obtain ⟨d, hd, hfit, he⟩ := M.leave_bits hg hgl
  obtain ⟨b1, b2⟩ := tb d (List.mem_range.2 hd)
  rw [M.fit_with] at hfit
  have hm : d % 2 ^ n < 2 ^ n := Nat.mod_lt _ (Nat.pow_pos (by omega))
  have := M.leave_least hf hl hm (M.fit_mono (fun u hu => by
   obtain ⟨j, hj, hb⟩ := (M.mem_keepK _ _ _ _).1 hu
   rw [Nat.zero_add] at hb
   have hjn : j < n := by have := (List.getElem?_eq_some_iff.1 hj).1; omega
   refine (M.mem_keepK _ _ _ _).2 ⟨j, ?_, ?_⟩
   ·
    show (f.looks ++ [l])[j]? = some u
    rw [List.getElem?_append_left (by omega)]; exact hj
   ·
    rw [Nat.zero_add]
    exact (M.but_bit n5 hd (by omega)).2 (fun hm2 => (M.but_bit (by omega) hm hjn).1 hb ((b2 j (List.mem_range.2 hjn)).2 hm2))) hfit)
  rw [he]
  omega
 ·
  obtain ⟨c, hc, hfit, he⟩ := M.leave_bits hf hl
  obtain ⟨a1, a2, a3⟩ := ta c (List.mem_range.2 hc)
  have hcd : c + 2 ^ n < 2 ^ (n + 1) := by omega
  have := M.leave_least hg hgl hcd (by
   rw [M.fit_with]
   refine M.fit_mono (fun u hu => ?_) hfit
   obtain ⟨j, hj, hb⟩ := (M.mem_keepK _ _ _ _).1 hu
   rw [Nat.zero_add] at hb
   have hj2 : (f.looks ++ [l])[j]? = some u := hj
   have hjn1 : j < n + 1 := by have := (List.getElem?_eq_some_iff.1 hj2).1; simp at this; omega
   have hnm := (M.but_bit n5 hcd hjn1).1 hb
   have hjn : j < n := by
    rcases Nat.lt_or_ge j n with h | h
    ·
     exact h
    ·
     obtain rfl : j = n := by omega
     exact absurd a2 hnm
   rw [List.getElem?_append_left (by omega)] at hj2
   exact (M.mem_keepK _ _ _ _).2 ⟨j, hj2, by rw [Nat.zero_add]; exact (M.but_bit (by omega) hc hjn).2 (fun hm2 => hnm ((a3 j (List.mem_range.2 hjn)).2 hm2))⟩)
  rw [he, ← a1]
  exact this
/-- With more looks there are no other truths. -/
theorem M.truths_more {f : M.Cf} {a b : List M.Lk} (h : ∀ l ∈ b, l ∈ a) : ∀ t ∈ M.truths (M.withL f a), t ∈ M.truths (M.withL f b) := fun t ht => by
 unfold M.truths at ht ⊢
 rw [List.mem_filter] at ht ⊢
 refine ⟨ht.1, ?_⟩
 have h2 := ht.2
 unfold M.right at h2 ⊢
 rw [List.all_eq_true] at h2 ⊢
 exact fun l hl => h2 l (h l hl)
end Go.Proofs.Ytffbkbcjddigdaa
