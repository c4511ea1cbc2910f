import Derived.Test.YtffbkbcjddigdaaA8
set_option linter.unusedSimpArgs false
set_option linter.unusedVariables false
namespace Go.Proofs.Ytffbkbcjddigdaa
open Go.RowKit

def M.age (plan : List Int) (i : Nat) : Int := if i = 0 then plan.getD 0 0 + 1 else plan.getD i 0 - plan.getD (i - 1) 0
def M.strength (f : M.Cf) (plan : List Int) (i : Nat) : Int := max 0 (f.base.getD i 0 - max 0 (M.age plan i - f.ripe) * f.late)
/-- A number of a list, in a later world. -/
theorem Sl.getD_ {w wr : World} {A : Option Addr} {n c : Nat} {xs : List Int} (h : Sl ics 1 w w.heap.size A n c xs) (hE : Ev w wr) (hn : 0 < n) : ∃ b off, A = some ⟨b, off, none⟩ ∧ b < w.heap.size ∧ ∀ k, k < n → wr.cell? ⟨b, off + k, none⟩ = some (.int .i64 (xs.getD k 0)) ∧ xs.getD k 0 ∈ xs := by
  obtain ⟨b, off, hA, hb, hc⟩ := h.cells hn
  refine ⟨b, off, hA, hb, fun k hk => ?_⟩
  have hl := h.len
  have hx : xs[k]? = some (xs.getD k 0) := by
    rw [List.getD_eq_getElem?_getD, List.getElem?_eq_getElem (by omega)]; rfl
  have := (hE.cells.1 _ _ hb).trans (hc k _ hx 0 _ rfl)
  exact ⟨by simpa using this, List.mem_of_getElem? hx⟩

set_option maxRecDepth 100000 in
set_option maxHeartbeats 4000000 in
theorem strength_c (f : M.Cf) (Ag Aw Ab Ac Al : Option Addr) (ng cg nw cw nb cb nc cc nl cl : Nat) (P : Option Addr) (pn pc : Nat) (plan : List Int) (i : Nat) (hi : i < pn) (hib : i < nb) (hpl : ∀ x ∈ plan, 0 ≤ x ∧ x ≤ 9) (hb : ∀ x ∈ f.base, 0 ≤ x ∧ x ≤ 200) (hr : 1 ≤ f.ripe ∧ f.ripe ≤ 10) (ht : 0 ≤ f.late ∧ f.late ≤ 50) (w : World) (hs : Sl ics 1 w w.heap.size Ab nb cb f.base) (hp : Sl ics 1 w w.heap.size P pn pc plan) :
    Calls Try.prog 87 #[.agg #[.int .i64 f.last, .slice Ag ng cg, .slice Aw nw cw, .slice Ab nb cb, .slice Ac nc cc, .int .i64 f.ripe, .int .i64 f.late, .int .i64 f.trod, .slice Al nl cl], .slice P pn pc, .int .i64 i] w fun e w' => e = .returned (.int .i64 (M.strength f plan i)) ∧ Ev w w' := by
  obtain ⟨bp, op, rfl, hbp, hcp⟩ := hp.getD_ (Ev.refl w) (by omega)
  obtain ⟨bb, ob, rfl, hbb, hcb⟩ := hs.getD_ (Ev.refl w) (by omega)
  have hpc := hp.cap
  have hbc := hs.cap
  have hps := hp.small
  have hbs := hs.small
  obtain ⟨e0, e0m⟩ := hcp i hi
  obtain ⟨e1, e1m⟩ := hcb i hib
  have p0 := hpl _ e0m
  have b0 := hb _ e1m
  obtain ⟨bi, hbi⟩ : ∃ x, f.base.getD i 0 = x := ⟨_, rfl⟩
  rw [hbi] at e1 b0
  have HBI := hid hbi
  obtain ⟨pi, hpi⟩ : ∃ x, plan.getD i 0 = x := ⟨_, rfl⟩
  rw [hpi] at e0 p0
  have HPI := hid hpi
  have g0 : IntKind.i64.wrap (pi + 1) = pi + 1 := IntWalk.i64_in _ (by omega)
  clear hbi hpi e0m e1m hb hs hp
  rcases Nat.eq_zero_or_pos i with hi0 | hi0
  · subst hi0
    simp only [Nat.add_zero] at e0 e1
    rw [show (((0 : Nat)) : Int) = 0 from rfl]
    have HAG := hid (show M.age plan 0 = pi + 1 by unfold M.age; rw [if_pos rfl, HPI.out])
    obtain ⟨d, hdd⟩ : ∃ d, pi + 1 - f.ripe = d := ⟨_, rfl⟩
    have hd9 : d ≤ 10 := by omega
    have hd0 : -10 ≤ d := by omega
    clear hcp hcb
    go_enter Try.func87, Try.ntmps87
    go_upto_region 4 with fail
    by_cases hd : 0 < d
    · have hm : max 0 d = d := by omega
      obtain ⟨q, hq⟩ : ∃ q : Int, d * f.late = q := ⟨_, rfl⟩
      have hq0 : 0 ≤ q := by rw [← hq]; exact Int.mul_nonneg (by omega) (by omega)
      have hq1 : q ≤ 10 * 50 := by rw [← hq]; exact Int.mul_le_mul (by omega) (by omega) (by omega) (by omega)
      have HS := hid (show M.strength f plan 0 = max 0 (bi - q) by unfold M.strength; rw [HAG.out, hdd, hm, hq, HBI.out])
      have g2 : IntKind.i64.wrap d = d := IntWalk.i64_in _ (by omega)
      have g3 : IntKind.i64.wrap q = q := IntWalk.i64_in _ (by omega)
      have g4 : IntKind.i64.wrap (bi - q) = bi - q := IntWalk.i64_in _ (by omega)
      have hd1 : ¬ (d ≤ 0) := by omega
      have hd2 : ¬ (d < 0) := by omega
      have hd3 : (0 : Int) ≤ d := by omega
      clear hm
      go_wp2_with (go_quiet (fail))
      all_goals (go_ret; exact ⟨by rw [HS.out]; first | rfl | (congr 3; omega) | (simp; omega), by repeat (first | exact Ev.refl _ | refine Ev.drewN ?_ _ | refine Ev.drew ?_ | refine Ev.alloc ?_ _)⟩)
    · have hm : max 0 d = 0 := by omega
      have HS := hid (show M.strength f plan 0 = max 0 bi by unfold M.strength; rw [HAG.out, hdd, hm, Int.zero_mul, Int.sub_zero, HBI.out])
      have g2 : IntKind.i64.wrap d = d := IntWalk.i64_in _ (by omega)
      have hd3 : d ≤ 0 := by omega
      have g5 : IntKind.i64.wrap bi = bi := IntWalk.i64_in _ (by omega)
      clear hm
      go_wp2_with (go_quiet (fail))
      all_goals (go_ret; exact ⟨by rw [HS.out]; first | rfl | (congr 3; omega) | (simp; omega), by repeat (first | exact Ev.refl _ | refine Ev.drewN ?_ _ | refine Ev.drew ?_ | refine Ev.alloc ?_ _)⟩)
  · obtain ⟨m, hm⟩ : ∃ m : Nat, (i : Int) - 1 = m := ⟨i - 1, by omega⟩
    have hmi : i - 1 = m := by omega
    obtain ⟨e2, e2m⟩ := hcp m (by omega)
    have q0 := hpl _ e2m
    obtain ⟨pj, hpj⟩ : ∃ x, plan.getD m 0 = x := ⟨_, rfl⟩
    rw [hpj] at e2 q0
    have HAG := hid (show M.age plan i = pi - pj by unfold M.age; rw [if_neg (by omega), HPI.out, hmi, hpj])
    obtain ⟨d, hdd⟩ : ∃ d, pi - pj - f.ripe = d := ⟨_, rfl⟩
    have hd9 : d ≤ 10 := by omega
    have hd0 : -20 ≤ d := by omega
    have i1 : (i : Int) > 0 := by omega
    have i2 : (0 : Int) < i := by omega
    have s1 : IntKind.i64.wrap ((i : Int) - 1) = m := by rw [hm]; exact IntWalk.i64_in _ (by omega)
    have s2 : IntKind.i64.wrap (pi - pj) = pi - pj := IntWalk.i64_in _ (by omega)
    have mp : m < pn := by omega
    clear hcp hcb hm hmi e2m hpj
    go_enter Try.func87, Try.ntmps87
    go_upto_region 4 with (go_quiet (fail))
    by_cases hd : 0 < d
    · have hm : max 0 d = d := by omega
      obtain ⟨q, hq⟩ : ∃ q : Int, d * f.late = q := ⟨_, rfl⟩
      have hq0 : 0 ≤ q := by rw [← hq]; exact Int.mul_nonneg (by omega) (by omega)
      have hq1 : q ≤ 10 * 50 := by rw [← hq]; exact Int.mul_le_mul (by omega) (by omega) (by omega) (by omega)
      have HS := hid (show M.strength f plan i = max 0 (bi - q) by unfold M.strength; rw [HAG.out, hdd, hm, hq, HBI.out])
      have g2 : IntKind.i64.wrap d = d := IntWalk.i64_in _ (by omega)
      have g3 : IntKind.i64.wrap q = q := IntWalk.i64_in _ (by omega)
      have g4 : IntKind.i64.wrap (bi - q) = bi - q := IntWalk.i64_in _ (by omega)
      have hd1 : ¬ (d ≤ 0) := by omega
      have hd2 : ¬ (d < 0) := by omega
      have hd3 : (0 : Int) ≤ d := by omega
      clear hm
      go_wp2_with (go_quiet (fail))
      all_goals (go_ret; exact ⟨by rw [HS.out]; first | rfl | (congr 3; omega) | (simp; omega), by repeat (first | exact Ev.refl _ | refine Ev.drewN ?_ _ | refine Ev.drew ?_ | refine Ev.alloc ?_ _)⟩)
    · have hm : max 0 d = 0 := by omega
      have HS := hid (show M.strength f plan i = max 0 bi by unfold M.strength; rw [HAG.out, hdd, hm, Int.zero_mul, Int.sub_zero, HBI.out])
      have g2 : IntKind.i64.wrap d = d := IntWalk.i64_in _ (by omega)
      have hd3 : d ≤ 0 := by omega
      have g5 : IntKind.i64.wrap bi = bi := IntWalk.i64_in _ (by omega)
      clear hm
      go_wp2_with (go_quiet (fail))
      all_goals (go_ret; exact ⟨by rw [HS.out]; first | rfl | (congr 3; omega) | (simp; omega), by repeat (first | exact Ev.refl _ | refine Ev.drewN ?_ _ | refine Ev.drew ?_ | refine Ev.alloc ?_ _)⟩)
end Go.Proofs.Ytffbkbcjddigdaa
