import Derived.Test.YtffbkbcjddigdaaA72
set_option linter.unusedSimpArgs false
set_option linter.unusedVariables false
namespace Go.Proofs.Ytffbkbcjddigdaa
open Go.RowKit Go.Shelf

/-- The bounds of a plan's crops hold each truth's crops. -/
theorem M.bounds_hold {f : M.Cf} {ts : List M.Tr} {plan : List Int} {t : M.Tr} (ht : t ∈ ts) {i : Nat} (hi : i < plan.length) {b : M.Bd} (hb : (M.bounds f ts plan)[i]? = some b) :
  (b.wt.lo ≤ (M.crop f t plan i).wt ∧ (M.crop f t plan i).wt ≤ b.wt.hi) ∧ b.st = (M.crop f t plan i).st ∧ (b.wo.lo ≤ (M.crop f t plan i).wo ∧ (M.crop f t plan i).wo ≤ b.wo.hi) := by
 unfold M.bounds at hb
 rw [List.getElem?_map, List.getElem?_range hi, Option.map_some] at hb
 obtain rfl := Option.some.inj hb
 have hg : (M.play f t plan).getD i ⟨0, 0, 0⟩ = M.crop f t plan i := by rw [List.getD_eq_getElem?_getD, M.play_at hi]; rfl
 have key : ∀ g : M.Cr → Int, (M.gauge g (ts.map fun t => M.play f t plan) i).lo ≤ g (M.crop f t plan i) ∧ g (M.crop f t plan i) ≤ (M.gauge g (ts.map fun t => M.play f t plan) i).hi := fun g => by
  unfold M.gauge
  refine M.span_le (List.mem_map.2 ⟨M.play f t plan, List.mem_map.2 ⟨t, ht, rfl⟩, ?_⟩)
  rw [hg]
 exact ⟨key M.Cr.wt, rfl, key M.Cr.wo⟩
theorem M.bounds_len (f : M.Cf) (ts : List M.Tr) (plan : List Int) : (M.bounds f ts plan).length = plan.length := by simp [M.bounds]
theorem M.worth_hold {f : M.Cf} {plan : List Int} {t : M.Tr} (ht : t ∈ M.truths f) : (M.worth f plan).lo ≤ M.total f t plan ∧ M.total f t plan ≤ (M.worth f plan).hi :=
 M.span_le (List.mem_map.2 ⟨t, ht, rfl⟩)
theorem M.on_hold {f : M.Cf} {t : M.Tr} {ts : List M.Tr} (ht : t ∈ ts) (wk : Int) : (M.on f ts wk).lo ≤ (M.weights t.gr f.crops).getD wk.toNat 0 ∧ (M.weights t.gr f.crops).getD wk.toNat 0 ≤ (M.on f ts wk).hi :=
 M.span_le (List.mem_map.2 ⟨t, ht, rfl⟩)
/-- A field whose looks are right together: nothing has to be left out, and no look is wrong. -/
theorem M.fit_left {f : M.Cf} (h : M.check f = 0) {n : Nat} (hl : f.looks.length = n) (hf : M.fit f f.looks = true) : M.shortest (M.spares f) n = [] := by
 have hb : M.butB n 0 = 2 ^ n - 1 := by unfold M.butB; simp
 have := M.leave_least h hl (t := 0) (Nat.pow_pos (by omega)) (by rw [hb, M.keepK_low, Nat.sub_zero, ← hl, List.take_length]; exact hf)
 exact List.eq_nil_of_length_eq_zero (by simpa [M.bits, M.bitsK] using this)
theorem M.fit_wrong {f : M.Cf} (h : M.check f = 0) (hf : M.fit f f.looks = true) : M.wrong f = (0, 7) := by
 rcases M.wrong_cases h with hw | ⟨m, hm, _, h1, _⟩
 ·
  exact hw
 ·
  rw [M.fit_mono (fun l hl => List.mem_of_mem_take hl) hf] at h1
  cases h1
theorem M.truth_fit {f : M.Cf} {t : M.Tr} (ht : t ∈ M.truths f) : M.fit f f.looks = true := by
 unfold M.truths at ht
 rw [List.mem_filter] at ht
 rw [M.fit_any, List.any_eq_true]
 exact ⟨t, ht.1, ht.2⟩
/-- A listed truth in which all looks are right is one of the field. -/
theorem M.mem_truths {f : M.Cf} (h : M.check f = 0) {t : M.Tr} : t ∈ M.truths f ↔ M.listed f t = true ∧ ∀ l ∈ f.looks, M.shows (M.weights t.gr f.crops) l = true := by
 unfold M.truths
 rw [List.mem_filter, M.mem_allTruths (M.check_ok h).1]
 unfold M.right
 rw [List.all_eq_true]
end Go.Proofs.Ytffbkbcjddigdaa
