import Derived.Test.YtgimcephbeajlaaC36
import Derived.Test.YtgimcephbeajlaaC27
import Derived.Test.YtgimcephbeajlaaC23
import Derived.Test.YtgimcephbeajlaaC24
import Derived.Test.YtgimcephbeajlaaC35
set_option linter.unusedSimpArgs false
set_option linter.unusedVariables false
namespace Go.Proofs.Ytgimcephbeajlaa
open Go.RowKit Go.Shelf

theorem own_put {w : World} {base : Nat} {e : TypeId} {n g cap : Nat} {xs : List Value} (h : w.ownsRow base e 1 (.slice (some ⟨g, 0, none⟩) n cap) n xs) (j : Nat) (u : Value) : (w.setCell ⟨g, j, none⟩ u).ownsRow base e 1 (.slice (some ⟨g, 0, none⟩) n cap) n (xs.set j u) := by
 refine ⟨by rw [List.length_set]; exact h.1, ?_⟩
 rcases h.2 with ⟨hn, _⟩ | ⟨g', cap', cur, hv, hb, hg, h1, h2, h3, h4⟩
 ·
  cases hn
 ·
  cases hv
  refine .inr ⟨g, cap, cur.setIfInBounds j u, rfl, hb, set_heap_same hg, h1, h2, by simp [h3], ?_⟩
  rw [← h4, Array.toList_setIfInBounds, List.take_set]
theorem own_putI {w : World} {base n g cap : Nat} {l : List Int} (h : w.ownsRow base 3 1 (.slice (some ⟨g, 0, none⟩) n cap) n (l.flatMap ics)) (j : Nat) (x : Int) : (w.setCell ⟨g, j, none⟩ (.int .i64 x)).ownsRow base 3 1 (.slice (some ⟨g, 0, none⟩) n cap) n ((l.set j x).flatMap ics) := by
 have := own_put h j (.int .i64 x)
 rw [ics_map] at this ⊢
 rw [List.map_set]
 exact this
theorem own_some {w : World} {base n c : Nat} {V : Option Addr} {l : List Int} (h : w.ownsRow base 3 1 (.slice V n c) n (l.flatMap ics)) (hn : 0 < n) : ∃ g, V = some ⟨g, 0, none⟩ ∧ base ≤ g ∧ g < w.heap.size ∧ n ≤ c ∧ l.length = n ∧ (∀ j, j < n → w.frozen? ⟨g, j, none⟩ = false) ∧ ∀ (j : Nat) (x : Int), l[j]? = some x → w.cell? ⟨g, j, none⟩ = some (.int .i64 x) := by
 have hlen : l.length = n := by have := h.1; rw [ics_map, List.length_map] at this; omega
 rcases h.2 with ⟨hv, h0⟩ | ⟨g, cap, cur, hv, hb, hg, h1, h2, h3, h4⟩
 ·
  omega
 ·
  cases hv
  refine ⟨g, rfl, hb, heap_lt hg, h1, hlen, fun j _ => frozen_in hg j, fun j x hx => ?_⟩
  rw [cell_in hg j]
  have h5 : (cur.toList.take (n * 1))[j]? = some (.int .i64 x) := by rw [h4, ics_map, List.getElem?_map, hx]; rfl
  have hj := (List.getElem?_eq_some_iff.1 hx).1
  rw [List.getElem?_take, if_pos (by omega)] at h5
  simpa using h5
theorem M.cool_mono {f : M.Cf} (hc : 0 ≤ f.cool ∧ f.cool ≤ 100) {a b : Int} (h0 : 0 ≤ a) (h : a ≤ b) (c : Bool) : M.cool f a c ≤ M.cool f b c := by
 unfold M.cool
 cases c with
 | false => simpa using h
 | true =>
  rw [if_pos rfl, if_pos rfl]
  obtain ⟨d, hd⟩ : ∃ d, b = a + d := ⟨b - a, by omega⟩
  subst hd
  have h1 : d * f.cool ≤ d * 100 := Int.mul_le_mul_of_nonneg_left hc.2 (by omega)
  rw [Int.add_mul]
  generalize a * f.cool = p
  generalize d * f.cool = q at h1
  omega
theorem M.cool_true {f : M.Cf} (hc : 0 ≤ f.cool ∧ f.cool ≤ 100) {a : Int} (h0 : 0 ≤ a) (c : Bool) : M.cool f a true ≤ M.cool f a c := by
 have h1 : 0 ≤ a * f.cool := Int.mul_nonneg h0 hc.1
 unfold M.cool
 rw [if_pos rfl]
 split
 ·
  omega
 ·
  generalize a * f.cool = p at h1
  omega
theorem M.rise_mono {f : M.Cf} (hs : 0 ≤ f.size ∧ f.size ≤ 20) {x y : Int} (h : x ≤ y) : f.size * x / 10 ≤ f.size * y / 10 := by
 have := Int.mul_le_mul_of_nonneg_left h hs.1
 generalize f.size * x = p at this ⊢
 generalize f.size * y = q at this ⊢
 omega
theorem M.heat_wet {f : M.Cf} (hv : M.valid f = true) {t u : M.Tr} (ht : M.listed f t = true) (hu : M.listed f u = true) (hst : t.st ≤ u.st) (hw : ∀ j : Nat, t.wet.getD j 0 ≤ u.wet.getD j 0) (p : List Int) : ∀ i : Nat, i ≤ t.wet.length → M.heatN f t p i ≤ M.heatN f u p i
 | 0, _ => hst
 | i + 1, hi => by
  obtain ⟨s1, c1, _⟩ := M.valid_parts hv
  have ih := M.heat_wet hv ht hu hst hw p i (by omega)
  have h0 := (M.heatN_bd hv ht p i (by omega)).1
  have h1 := M.cool_mono c1 h0 ih (decide ((i : Int) ∈ p))
  have h2 := M.rise_mono s1 (hw i)
  unfold M.heatN
  omega
theorem M.heat_same {f : M.Cf} {t u : M.Tr} (hst : t.st = u.st) (k : Nat) (hw : ∀ j : Nat, j < k → t.wet.getD j 0 = u.wet.getD j 0) (p : List Int) : ∀ i : Nat, i ≤ k → M.heatN f t p i = M.heatN f u p i
 | 0, _ => hst
 | i + 1, hi => by
  rw [M.heatN, M.heatN, M.heat_same hst k hw p i (by omega), hw i (by omega)]
theorem M.heat_more {f : M.Cf} (hv : M.valid f = true) {t : M.Tr} (ht : M.listed f t = true) {p q : List Int} (k : Nat) (h : ∀ j : Nat, j ≠ k → ((j : Int) ∈ q ↔ (j : Int) ∈ p)) (hk : (k : Int) ∈ q) : ∀ i : Nat, i ≤ t.wet.length → M.heatN f t q i ≤ M.heatN f t p i ∧ (i ≤ k → M.heatN f t q i = M.heatN f t p i)
 | 0, _ => ⟨Int.le_refl _, fun _ => rfl⟩
 | i + 1, hi => by
  obtain ⟨s1, c1, _⟩ := M.valid_parts hv
  obtain ⟨h1, h2⟩ := M.heat_more hv ht k h hk i (by omega)
  have h0 := (M.heatN_bd hv ht q i (by omega)).1
  unfold M.heatN
  by_cases hik : i = k
  ·
   subst hik
   refine ⟨?_, fun hc => absurd hc (by omega)⟩
   rw [decide_eq_true hk]
   have a1 := M.cool_true c1 h0 (decide ((i : Int) ∈ p))
   have a2 := M.cool_mono c1 h0 h1 (decide ((i : Int) ∈ p))
   omega
  ·
   rw [decide_eq_decide.2 (h i hik)]
   refine ⟨?_, fun hc => by rw [h2 (by omega)]⟩
   have a2 := M.cool_mono c1 h0 h1 (decide ((i : Int) ∈ p))
   omega
theorem M.mem_bitsK (b : Nat) (x : Int) : ∀ (j p : Nat), x ∈ M.bitsK b p j ↔ ∃ i, p ≤ i ∧ i < p + j ∧ x = (i : Int) ∧ b.testBit i = true
 | 0, p => by
  simp only [M.bitsK, List.not_mem_nil, false_iff]
  rintro ⟨i, h1, h2, _⟩
  omega
 | j + 1, p => by
  have hb : (b / 2 ^ p % 2 = 1) ↔ b.testBit p = true := by rw [Nat.testBit_eq_decide_div_mod_eq, decide_eq_true_eq]
  rw [M.bitsK, List.mem_append, M.mem_bitsK b x j (p + 1)]
  constructor
  ·
   rintro (h | ⟨i, h1, h2, h3, h4⟩)
   ·
    by_cases hc : b / 2 ^ p % 2 = 1
    ·
     rw [if_pos hc] at h
     exact ⟨p, Nat.le_refl _, by omega, List.mem_singleton.1 h, hb.1 hc⟩
    ·
     rw [if_neg hc] at h
     cases h
   ·
    exact ⟨i, by omega, by omega, h3, h4⟩
  ·
   rintro ⟨i, h1, h2, h3, h4⟩
   rcases Nat.eq_or_lt_of_le h1 with rfl | h5
   ·
    exact .inl (by rw [if_pos (hb.2 h4), h3]; simp)
   ·
    exact .inr ⟨i, by omega, by omega, h3, h4⟩
theorem M.mem_trn {f : M.Cf} {n j : Nat} : (j : Int) ∈ M.trn f n ↔ j < 10 ∧ n.testBit j = true ∧ j < f.last.toNat + 1 := by
 unfold M.trn M.bits10
 rw [M.mem_bitsK]
 constructor
 ·
  rintro ⟨i, _, h2, h3, h4⟩
  obtain rfl : j = i := by omega
  rw [Nat.testBit_and, Nat.testBit_two_pow_sub_one, Bool.and_eq_true, decide_eq_true_eq] at h4
  exact ⟨by omega, h4.1, h4.2⟩
 ·
  rintro ⟨h1, h2, h3⟩
  refine ⟨j, Nat.zero_le _, by omega, rfl, ?_⟩
  rw [Nat.testBit_and, Nat.testBit_two_pow_sub_one, h2, decide_eq_true h3]
  rfl
theorem M.trn_or {f : M.Cf} {n k : Nat} (hk : k < 10) (hkl : k < f.last.toNat + 1) : (k : Int) ∈ M.trn f (n ||| 2 ^ k) ∧ ∀ j : Nat, j ≠ k → ((j : Int) ∈ M.trn f (n ||| 2 ^ k) ↔ (j : Int) ∈ M.trn f n) := by
 refine ⟨M.mem_trn.2 ⟨hk, ?_, hkl⟩, fun j hj => ?_⟩
 ·
  rw [Nat.testBit_or, Nat.testBit_two_pow_self, Bool.or_true]
 ·
  rw [M.mem_trn, M.mem_trn, Nat.testBit_or, Nat.testBit_two_pow, decide_eq_false (fun e => hj e.symm), Bool.or_false]
theorem M.set_listed {f : M.Cf} {t : M.Tr} (ht : M.listed f t = true) {k : Nat} {r : M.Rg} {x : Int} (hr : f.wet[k]? = some r) (hx : M.holds r x = true) : M.listed f ⟨t.st, t.wet.set k x⟩ = true := by
 unfold M.listed at ht ⊢
 simp only [Bool.and_eq_true, decide_eq_true_eq] at ht ⊢
 refine ⟨ht.1, by rw [List.length_set]; exact ht.2.1, ?_⟩
 have hin := (M.inAll_at _ _).1 ht.2.2
 refine (M.inAll_at _ _).2 ⟨by rw [List.length_set]; exact hin.1, fun j y r' hy hr' => ?_⟩
 rw [List.getElem?_set] at hy
 by_cases hj : k = j
 ·
  subst hj
  rw [if_pos rfl] at hy
  split at hy
  ·
   obtain rfl := Option.some.inj hy
   rw [hr] at hr'
   obtain rfl := Option.some.inj hr'
   exact hx
  ·
   cases hy
 ·
  rw [if_neg hj] at hy
  exact hin.2 j y r' hy hr'
theorem M.start_listed {f : M.Cf} {t : M.Tr} (ht : M.listed f t = true) {x : Int} (hx : M.holds f.st x = true) : M.listed f ⟨x, t.wet⟩ = true := by
 unfold M.listed at ht ⊢
 simp only [Bool.and_eq_true, decide_eq_true_eq] at ht ⊢
 exact ⟨hx, ht.2⟩
theorem M.getD_set (l : List Int) (k j : Nat) (x : Int) : (l.set k x).getD j 0 = if k = j ∧ j < l.length then x else l.getD j 0 := by
 rw [List.getD_eq_getElem?_getD, List.getElem?_set, List.getD_eq_getElem?_getD]
 by_cases hj : k = j
 ·
  subst hj
  rw [if_pos rfl]
  by_cases hl : k < l.length
  ·
   rw [if_pos hl, if_pos ⟨rfl, hl⟩]; rfl
  ·
   rw [if_neg hl, if_neg (fun h => hl h.2), List.getElem?_eq_none (by omega)]
 ·
  rw [if_neg hj, if_neg (fun h => hj h.1)]

end Go.Proofs.Ytgimcephbeajlaa
