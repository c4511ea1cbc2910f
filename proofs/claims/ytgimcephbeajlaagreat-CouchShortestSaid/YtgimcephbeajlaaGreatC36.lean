import Derived.Test.YtgimcephbeajlaaGreatC34
set_option linter.unusedSimpArgs false
set_option linter.unusedVariables false
namespace Go.Proofs.YtgimcephbeajlaaGreat
open Go.RowKit Go.Shelf

theorem set3' {W : World} {b : Nat} {t : TypeId} {z0 z1 z2 v0 v1 v2 : Value} (h : W.heap[b]? = some (.cells #[z0, z1, z2] t (0, 0))) :
  (((W.setCell ⟨b, 0, none⟩ v0).setCell ⟨b, 1, none⟩ v1).setCell ⟨b, 2, none⟩ v2).heap[b]? = some (.cells #[v0, v1, v2] t (0, 0)) := by
 rw [set_heap_same (set_heap_same (set_heap_same h))]; rfl
theorem M.bd_is {f : M.Cf} (h0 : M.check f = 0) (hn : M.truths f ≠ []) (plan : List Int) {i : Nat} (hi : i < f.wet.length) : M.bdR f (M.rtr f) plan i = M.span (M.at f (M.truths f) plan i) := by
 have hv := (M.check0 h0).2.2.1
 have hn2 : M.rtr f ≠ [] := fun e => hn ((M.rtr_nil h0).1 e)
 unfold M.bdR M.at
 rw [M.widen_span (by simpa using hn2)]
 ·
  refine M.span_set (fun y => ?_) (by simpa using hn2)
  simp only [List.mem_map]
  constructor
  ·
   rintro ⟨t, ht, rfl⟩
   exact ⟨t, (M.rtr_mem h0).1 ht, M.heats_getD plan (by rw [(M.listed_bd hv (M.rtr_listed h0 t ht)).2.1]; exact hi)⟩
  ·
   rintro ⟨t, ht, rfl⟩
   exact ⟨t, (M.rtr_mem h0).2 ht, (M.heats_getD plan (by rw [(M.listed_bd hv (M.truths_listed h0 t ht)).2.1]; exact hi)).symm⟩
 ·
  intro y hy
  obtain ⟨t, ht, rfl⟩ := List.mem_map.1 hy
  have h1 := M.listed_bd hv (M.rtr_listed h0 t ht)
  have h2 := M.heatN_bd hv (M.rtr_listed h0 t ht) plan (i + 1) (by omega)
  have h3 := (M.valid_parts hv).2.2.2.2.2.1
  have h4 := (M.check0 h0).1
  omega
theorem M.any_is {f : M.Cf} (h0 : M.check f = 0) (p : M.Tr → Bool) : (M.rtr f).any p = (M.truths f).any p := by
 rw [Bool.eq_iff_iff, List.any_eq_true, List.any_eq_true]
 simp only [M.rtr_mem h0]
theorem M.all_is {f : M.Cf} (h0 : M.check f = 0) (p : M.Tr → Bool) : (M.rtr f).all p = (M.truths f).all p := by
 rw [Bool.eq_iff_iff, List.all_eq_true, List.all_eq_true]
 simp only [M.rtr_mem h0]
theorem M.keeps_is {f : M.Cf} (h0 : M.check f = 0) (plan : List Int) : M.keepsOf f (M.rtr f) plan = M.keepsOf f (M.truths f) plan := by
 unfold M.keepsOf
 rw [M.all_is h0, M.any_is h0]
theorem M.keeps_one (f : M.Cf) (ts : List M.Tr) (plan : List Int) : (M.keepsOf f ts plan == 1) = ts.all fun t => M.stays f t plan := by
 unfold M.keepsOf
 cases h : ts.all fun t => M.stays f t plan with
 | true => rfl
 | false => rw [if_neg (by decide)]; split <;> rfl
theorem M.burns_is {f : M.Cf} (h0 : M.check f = 0) (plan : List Int) (i : Nat) : M.burnsAt f (M.rtr f) plan i = M.burnsAt f (M.truths f) plan i := by
 unfold M.burnsAt
 rw [List.any_map, List.any_map, M.any_is h0]
theorem M.dies_is {f : M.Cf} (h0 : M.check f = 0) (plan : List Int) (i : Nat) : M.diesAt f (M.rtr f) plan i = M.diesAt f (M.truths f) plan i := by
 unfold M.diesAt
 rw [List.any_map, List.any_map, M.any_is h0]
theorem M.fear_is {f : M.Cf} (h0 : M.check f = 0) (plan : List Int) : M.fear f (M.rtr f) plan = M.fear f (M.truths f) plan := by
 unfold M.fear
 simp only [M.burns_is h0, M.dies_is h0]
theorem M.fearV_is {f : M.Cf} (h0 : M.check f = 0) (plan : List Int) : M.fearV f (M.rtr f) plan = M.fearV f (M.truths f) plan := by
 unfold M.fearV
 simp only [M.fear_is h0, M.burns_is h0, M.dies_is h0]


/-- Are all bounds within other ones? -/
def M.narrow : List M.Rg → List M.Rg → Bool
 | [], [] => true
 | a :: u, b :: v => M.inside a b && M.narrow u v
 | _, _ => false


end Go.Proofs.YtgimcephbeajlaaGreat
