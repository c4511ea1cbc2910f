import Derived.Test.YtffbkbcjddigdaaA23
set_option linter.unusedSimpArgs false
set_option linter.unusedVariables false
namespace Go.Proofs.Ytffbkbcjddigdaa
open Go.RowKit Go.Shelf
attribute [local go_sem] Oper.semAt_some

theorem wpAnyR_two {l n : Nat} {P : Program} {ops : Array Oper} {Q : Exit → Act → World → Prop} {md : Region.Mode} {S : World → Prop} {i j : Nat} {oi oj : Oper} {fuel : Nat} {listed : Array Bool} {a : Act} {w : World} (hoi : ops[i]? = some oi) (hoj : ops[j]? = some oj) (hr : Region.ready md ops listed = [i, j]) (hwi : Region.wanted oi (yielded ops a.tmps) = true) (hwj : Region.wanted oj (yielded ops a.tmps) = true)
    (h1 : ∀ K : Act → World → Prop, Hid (∀ a' w', S w' → (S w' → wpAnyR l n P md ops Q S fuel (listed.setIfInBounds i true) a' w') → K a' w') → oi.uponIn (Fence.wide.inRound l) n P a K Q ((execOp a.eval oi).run P w))
    (h2 : ∀ K : Act → World → Prop, Hid (∀ a' w', S w' → (S w' → wpAnyR l n P md ops Q S fuel (listed.setIfInBounds j true) a' w') → K a' w') → oj.uponIn (Fence.wide.inRound l) n P a K Q ((execOp a.eval oj).run P w)) : wpAnyR l n P md ops Q S (fuel + 1) listed a w := by
  refine ⟨fun h0 => (by rw [hr] at h0; cases h0), fun k hk => ?_⟩
  rw [hr] at hk
  rcases List.mem_cons.1 hk with rfl | hk
  · unfold wpOpR
    rw [hoi]
    simp only [hwi, if_true]
    exact h1 _ (fun a' w' hS hk => ⟨hS, hk hS⟩)
  · obtain rfl : k = j := by simpa using hk
    unfold wpOpR
    rw [hoj]
    simp only [hwj, if_true]
    exact h2 _ (fun a' w' hS hk => ⟨hS, hk hS⟩)

theorem own_keep {X Y : World} {c : Nat} {r : Loop} {base : Nat} {e : TypeId} {size : Nat} {v : Value} {n : Nat} {xs : List Value} (h : X.ownsRow base e size v n xs) (hc : X.heap[c]? = some (.loop r)) (hk : ∀ k, k ≠ c → k < X.heap.size → Y.heap[k]? = X.heap[k]?) : Y.ownsRow base e size v n xs := by
  refine ⟨h.1, ?_⟩
  rcases h.2 with hn | ⟨g, cap, cur, rfl, hbg, hgg, rest⟩
  · exact .inl hn
  · refine .inr ⟨g, cap, cur, rfl, hbg, (hk g ?_ (heap_lt hgg)).trans hgg, rest⟩
    rintro rfl
    rw [hc] at hgg
    cases hgg

theorem M.choices_few : ∀ (rs : List M.Rg) (m : Nat), 1 ≤ m → m ≤ 2000 → (∀ r ∈ rs, r.lo ≤ r.hi) → M.tooMany rs m = false → m * (M.choices (rs.map fun r => M.fromTo r.lo (r.hi - r.lo + 1).toNat)).length ≤ 2000
  | [], m, _, h, _, _ => by simpa [M.choices] using h
  | r :: rs, m, h1, h2, hr, ht => by
    have hr1 := hr r (by simp)
    obtain ⟨s, hs⟩ : ∃ s : Nat, r.hi - r.lo + 1 = s := ⟨(r.hi - r.lo + 1).toNat, by omega⟩
    have hs1 : 1 ≤ s := by omega
    rw [List.map_cons, M.choices]
    rw [M.tooMany, hs] at ht
    have hlen : ∀ (l : List Int) (q : List (List Int)), (l.flatMap fun x => q.map (x :: ·)).length = l.length * q.length := by
      intro l q
      induction l with
      | nil => simp
      | cons y t ih => rw [List.flatMap_cons, List.length_append, List.length_map, ih, List.length_cons, Nat.succ_mul]; omega
    rw [hlen, hs, Int.toNat_natCast, M.fromTo_len, ← Nat.mul_assoc]
    split at ht
    · cases ht
    · rename_i hn
      have e : ((m * s : Nat) : Int) = (m : Int) * s := by simp
      rw [← e] at ht hn
      exact M.choices_few rs (m * s) (Nat.mul_pos h1 hs1) (by omega) (fun q hq => hr q (by simp [hq])) ht
theorem M.truths_few {f : M.Cf} (hv : M.valid f = true) (ht : M.tooMany (M.ranges f) 1 = false) : (M.allTruths f).length ≤ 2000 := by
  have h := M.choices_few (M.ranges f) 1 (by omega) (by omega) (fun r hr => by have := M.ranges_bd hv r hr; omega) ht
  unfold M.allTruths M.parts
  rw [List.length_map]
  omega
theorem M.allTruths_len {f : M.Cf} (hv : M.valid f = true) : ∀ t ∈ M.allTruths f, (t.gr.length : Int) = f.last + 1 ∧ (t.wet.length : Int) = f.last + 1 := by
  intro t ht
  obtain ⟨v1, v2, _, v4, _⟩ := M.valid_parts hv
  unfold M.allTruths at ht
  obtain ⟨x, hx, rfl⟩ := List.mem_map.1 ht
  have hl := M.choices_len _ x hx
  rw [M.parts_len] at hl
  have hr : (M.ranges f).length = f.gr.length + f.wet.length := by simp [M.ranges]
  unfold M.cutAt
  simp only [List.length_take, List.length_drop]
  omega
theorem M.fromTo_mem (lo : Int) : ∀ (k : Nat) (x : Int), x ∈ M.fromTo lo k ↔ lo ≤ x ∧ x < lo + k
  | 0, x => by simp [M.fromTo]
  | k + 1, x => by
    rw [M.fromTo, List.mem_append, M.fromTo_mem lo k x]
    simp
    omega
theorem M.choices_mem : ∀ (rs : List M.Rg) (x : List Int), x ∈ M.choices (rs.map fun r => M.fromTo r.lo (r.hi - r.lo + 1).toNat) ↔ M.inAll x rs = true
  | [], x => by
    cases x <;> simp [M.choices, M.inAll]
  | r :: rs, x => by
    rw [List.map_cons, M.choices, List.mem_flatMap]
    cases x with
    | nil => simp [M.inAll]
    | cons y t =>
      rw [M.inAll, Bool.and_eq_true, ← M.choices_mem rs t]
      constructor
      · rintro ⟨z, hz, h⟩
        obtain ⟨u, hu, he⟩ := List.mem_map.1 h
        cases he
        rw [M.fromTo_mem] at hz
        refine ⟨?_, hu⟩
        simp [M.holds]
        omega
      · rintro ⟨h1, h2⟩
        simp [M.holds] at h1
        exact ⟨y, (M.fromTo_mem _ _ _).2 (by omega), List.mem_map.2 ⟨t, h2, rfl⟩⟩
theorem M.mem_allTruths {f : M.Cf} (hv : M.valid f = true) (t : M.Tr) : t ∈ M.allTruths f ↔ M.listed f t = true := by
  obtain ⟨v1, v2, _, v4, _⟩ := M.valid_parts hv
  unfold M.allTruths M.listed M.parts
  rw [List.mem_map]
  simp only [Bool.and_eq_true, decide_eq_true_eq]
  constructor
  · rintro ⟨x, hx, rfl⟩
    have hl := M.choices_len _ x hx
    rw [List.length_map] at hl
    have hr : (M.ranges f).length = f.gr.length + f.wet.length := by simp [M.ranges]
    refine ⟨by unfold M.cutAt; simp only [List.length_take]; omega, by unfold M.cutAt; simp only [List.length_drop]; omega, ?_⟩
    rw [show (M.cutAt (f.last + 1).toNat x).gr ++ (M.cutAt (f.last + 1).toNat x).wet = x from List.take_append_drop _ _]
    exact (M.choices_mem _ _).1 hx
  · rintro ⟨h1, h2, h3⟩
    refine ⟨t.gr ++ t.wet, (M.choices_mem _ _).2 h3, ?_⟩
    have hg : (f.last + 1).toNat = t.gr.length := by omega
    unfold M.cutAt
    rw [hg, List.take_left, List.drop_left]

end Go.Proofs.Ytffbkbcjddigdaa
