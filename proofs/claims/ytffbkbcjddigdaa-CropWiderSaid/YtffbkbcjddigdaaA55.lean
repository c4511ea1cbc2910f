import Derived.Test.YtffbkbcjddigdaaA46
set_option linter.unusedSimpArgs false
set_option linter.unusedVariables false
namespace Go.Proofs.Ytffbkbcjddigdaa
open Go.RowKit Go.Shelf

/-- From which week on the field has grown, by a plan, up to some week. -/
def M.fromL : List Int → Int → Int → Int
 | [], _, a => a
 | p :: r, k, a => M.fromL r k (if p < k then p + 1 else a)
theorem M.fromL_same : ∀ (l : List Int) (k a : Int), k ∉ l → M.fromL l (k + 1) a = M.fromL l k a
 | [], _, _, _ => rfl
 | p :: r, k, a, h => by
  unfold M.fromL
  have hp : p ≠ k := fun e => h (by simp [e])
  rw [show (if p < k + 1 then p + 1 else a) = (if p < k then p + 1 else a) by
   by_cases h1 : p < k
   ·
    rw [if_pos h1, if_pos (by omega)]
   ·
    rw [if_neg h1, if_neg (by omega)]]
  exact M.fromL_same r k _ (fun hm => h (by simp [hm]))
theorem M.fromL_none : ∀ (l : List Int) (k a : Int), (∀ q ∈ l, k ≤ q) → M.fromL l k a = a
 | [], _, _, _ => rfl
 | p :: r, k, a, h => by
  unfold M.fromL
  rw [if_neg (by have := h p (by simp); omega)]
  exact M.fromL_none r k a (fun q hq => h q (by simp [hq]))
theorem M.rises_tail {x : Int} {r : List Int} (h : M.rises (x :: r) = true) : M.rises r = true := by
 cases r with
 | nil => rfl
 | cons y s =>
  rw [show M.rises (x :: y :: s) = (decide (x < y) && M.rises (y :: s)) from rfl, Bool.and_eq_true] at h
  exact h.2
theorem M.rises_lt : ∀ {x : Int} {r : List Int}, M.rises (x :: r) = true → ∀ q ∈ r, x < q
 | x, [], _, q, hq => by simp at hq
 | x, y :: s, h, q, hq => by
  rw [show M.rises (x :: y :: s) = (decide (x < y) && M.rises (y :: s)) from rfl, Bool.and_eq_true, decide_eq_true_eq] at h
  rcases List.mem_cons.1 hq with rfl | hq
  ·
   exact h.1
  ·
   have := M.rises_lt h.2 q hq
   omega
theorem M.fromL_at : ∀ (l : List Int) (k a : Int), M.rises l = true → k ∈ l → M.fromL l (k + 1) a = k + 1
 | [], _, _, _, h => by simp at h
 | p :: r, k, a, hr, h => by
  unfold M.fromL
  by_cases hp : p = k
  ·
   subst hp
   rw [if_pos (by omega)]
   exact M.fromL_none r _ _ (fun q hq => by have := M.rises_lt hr q hq; omega)
  ·
   exact M.fromL_at r k _ (M.rises_tail hr) (by
    rcases List.mem_cons.1 h with h | h
    ·
     exact absurd h.symm hp
    ·
     exact h)
theorem M.fromL_bd : ∀ (l : List Int) (k a : Int), 0 ≤ a → a ≤ k → (∀ q ∈ l, 0 ≤ q) → 0 ≤ M.fromL l k a ∧ M.fromL l k a ≤ k
 | [], _, a, h0, h1, _ => ⟨h0, h1⟩
 | p :: r, k, a, h0, h1, h => by
  unfold M.fromL
  have := h p (by simp)
  by_cases hp : p < k
  ·
   rw [if_pos hp]; exact M.fromL_bd r k _ (by omega) (by omega) (fun q hq => h q (by simp [hq]))
  ·
   rw [if_neg hp]; exact M.fromL_bd r k _ h0 h1 (fun q hq => h q (by simp [hq]))
/-- What the first weeks grow. -/
def M.upK (gs : List Int) (k : Nat) : Int := (gs.take k).sum
theorem M.upK_succ {gs : List Int} {k : Nat} {g : Int} (h : gs[k]? = some g) : M.upK gs (k + 1) = M.upK gs k + g := by
 unfold M.upK
 rw [List.take_add_one, h, List.sum_append]
 simp
theorem M.wK_at (gs plan : List Int) (hr : M.rises plan = true) (h0 : ∀ q ∈ plan, 0 ≤ q) : ∀ (l : List Int) (k : Nat) (m : Int), gs.drop k = l → m = M.upK gs k - M.upK gs (M.fromL plan k 0).toNat →
  ∀ j, j < l.length → (M.wK plan l k m).getD j 0 = M.upK gs (k + j + 1) - M.upK gs (M.fromL plan (k + j : Nat) 0).toNat
 | [], _, _, _, _, j, hj => by simp at hj
 | g :: l, k, m, hd, hm, j, hj => by
  have hg : gs[k]? = some g := by rw [← List.head?_drop, hd]; rfl
  have hd2 : gs.drop (k + 1) = l := by rw [← List.tail_drop, hd]; rfl
  have hu := M.upK_succ hg
  cases j with
  | zero =>
   show m + g = M.upK gs (k + 1) - M.upK gs (M.fromL plan (k : Nat) 0).toNat
   rw [hm, hu]
   omega
  | succ j =>
   rw [show (M.wK plan (g :: l) k m).getD (j + 1) 0 = (M.wK plan l (k + 1) (if (k : Int) ∈ plan then 0 else m + g)).getD j 0 from rfl]
   rw [M.wK_at gs plan hr h0 l (k + 1) _ hd2 ?_ j (by simpa using hj)]
   ·
    rw [show k + 1 + j = k + (j + 1) by omega]
   ·
    by_cases hk : (k : Int) ∈ plan
    ·
     rw [if_pos hk, show ((k + 1 : Nat) : Int) = (k : Int) + 1 by omega, M.fromL_at plan k 0 hr hk, show ((k : Int) + 1).toNat = k + 1 by omega]
     omega
    ·
     rw [if_neg hk, show ((k + 1 : Nat) : Int) = (k : Int) + 1 by omega, M.fromL_same plan k 0 hk, hu, hm]
     omega
theorem M.weights_at {gs plan : List Int} (hr : M.rises plan = true) (h0 : ∀ q ∈ plan, 0 ≤ q) {k : Nat} (hk : k < gs.length) : (M.weights gs plan).getD k 0 = M.upK gs (k + 1) - M.upK gs (M.fromL plan k 0).toNat := by
 have h := M.wK_at gs plan hr h0 gs 0 0 rfl (by show (0 : Int) = M.upK gs 0 - M.upK gs (M.fromL plan 0 0).toNat; rw [M.fromL_none plan 0 0 (fun q hq => h0 q hq)]; simp [M.upK]) k hk
 rw [Nat.zero_add] at h
 unfold M.weights
 rw [List.getD_eq_getElem?_getD, List.getElem?_append_left (by rw [M.wK_len]; exact hk), ← List.getD_eq_getElem?_getD]
 exact h
theorem M.upK_bd {gs : List Int} (hg : ∀ g ∈ gs, 0 ≤ g ∧ g ≤ 50) : ∀ (k : Nat), k ≤ gs.length → 0 ≤ M.upK gs k ∧ M.upK gs k ≤ 50 * k
 | 0, _ => by unfold M.upK; simp
 | k + 1, hk => by
  have hx : gs[k]? = some (gs[k]'(by omega)) := List.getElem?_eq_getElem _
  have := M.upK_bd hg k (by omega)
  have h2 := hg _ (List.mem_of_getElem? hx)
  rw [M.upK_succ hx]
  omega
theorem M.upK_le {gs : List Int} (hg : ∀ g ∈ gs, 0 ≤ g ∧ g ≤ 50) (a : Nat) : ∀ (b : Nat), b ≤ gs.length → a ≤ b → M.upK gs a ≤ M.upK gs b ∧ M.upK gs b - M.upK gs a ≤ 50 * (b - a)
 | 0, _, h => by
  obtain rfl : a = 0 := by omega
  simp
 | b + 1, hb, h => by
  rcases Nat.lt_or_ge a (b + 1) with hl | hl
  ·
   have hx : gs[b]? = some (gs[b]'(by omega)) := List.getElem?_eq_getElem _
   have := M.upK_le hg a b (by omega) (by omega)
   have h2 := hg _ (List.mem_of_getElem? hx)
   rw [M.upK_succ hx]
   omega
  ·
   obtain rfl : a = b + 1 := by omega
   omega

set_option maxRecDepth 100000 in
set_option maxHeartbeats 2000000 in
theorem rStanding_c (Tg Tw : Option Addr) (tg tgc tw twc : Nat) (gs : List Int) (P : Option Addr) (pn pc : Nat) (plan : List Int) (wk : Nat) (hwk : wk < tg) (ht : tg ≤ 10) (hr : M.rises plan = true) (hp0 : ∀ q ∈ plan, 0 ≤ q) (hgb : ∀ g ∈ gs, 0 ≤ g ∧ g ≤ 50) (w : World) (hg : Sl ics 1 w w.heap.size Tg tg tgc gs) (hp : Sl ics 1 w w.heap.size P pn pc plan) :
  Calls Try.prog 41 #[.agg #[.slice Tg tg tgc, .slice Tw tw twc], .slice P pn pc, .int .i64 wk] w fun e w' => e = .returned (.int .i64 ((M.weights gs plan).getD wk 0)) ∧ Ev w w' := by
 have hsm := hp.small
 have HW := hid (M.weights_at hr hp0 (k := wk) (gs := gs) (by rw [hg.len]; exact hwk))
 have HP0 := hid hp0
 have HGB := hid hgb
 have HGL := hid hg.len
 have HFB := hid (M.fromL_bd plan wk 0 (by omega) (by omega) hp0)
 generalize (M.weights gs plan).getD wk 0 = res at HW ⊢
 clear hr hp0 hgb
 go_enter Try.func41, Try.ntmps41
 go_wp2
 generalize hW0 : World.alloc w _ = W0
 have hE0 : Ev w W0 := by rw [← hW0]; exact Ev.alloc (Ev.refl _) _
 have Q0 := hid (show W0.heap[w.heap.size]? = some (.cells #[.slice Tg tg tgc, .slice Tw tw twc] 28 (0, 0)) from by rw [← hW0]; exact (alloc1 w _).1)
 clear hW0
 go_loopw [7, 8] (fun a i wr => ∃ (k : Nat) (n : Int), i = .int .i64 k ∧ a = .int .i64 n ∧ k ≤ pn ∧ 0 ≤ n ∧ n ≤ wk ∧ Ev W0 wr ∧ Hid (M.fromL (plan.drop k) wk n = M.fromL plan wk 0)) (fun _ i _ => pn - (intOf i).toNat)
 case atStart => exact ⟨0, 0, rfl, rfl, by omega, by omega, by omega, Ev.refl _, hid rfl⟩
 case round =>
  obtain ⟨k, n, rfl, rfl, hk, hn0, hn1, hB, HM⟩ := hrel
  by_cases hlt : k < pn
  ·
   obtain ⟨b, off, x, hA, hb, hx, hxd, e0⟩ := hp.int (hE0.trans hB) hlt
   have hcap := hp.cap
   have hx0 := HP0.out x (List.mem_of_getElem? hx)
   subst hA
   by_cases hxw : x < wk
   ·
    have HM2 := hid (show M.fromL (plan.drop (k + 1)) wk (x + 1) = M.fromL plan wk 0 by rw [← HM.out, hxd]; unfold M.fromL; rw [if_pos hxw]; cases plan.drop (k + 1) <;> rfl)
    have g1 : IntKind.i64.wrap (x + 1) = x + 1 := IntWalk.i64_in _ (by omega)
    clear hx hxd
    go_wp2
    exact ⟨⟨k + 1, x + 1, by go_num, rfl, by omega, by omega, by omega, hB, HM2⟩, by simp [intOf]; omega⟩
   ·
    have HM2 := hid (show M.fromL (plan.drop (k + 1)) wk n = M.fromL plan wk 0 by rw [← HM.out, hxd]; unfold M.fromL; rw [if_neg hxw]; cases plan.drop (k + 1) <;> rfl)
    clear hx hxd
    go_wp2
    exact ⟨⟨k + 1, n, by go_num, rfl, by omega, by omega, by omega, hB, HM2⟩, by simp [intOf]; omega⟩
  ·
   have HM2 := hid (show n = M.fromL plan wk 0 by rw [← HM.out, hp.done (by omega)]; rfl)
   obtain ⟨m, hm⟩ : ∃ m : Nat, n = m := ⟨n.toNat, by omega⟩
   subst hm
   have hmw : m ≤ wk := by omega
   have HM3 := hid (show (M.fromL plan wk 0).toNat = m by rw [← HM2.out]; simp)
   clear HM hn0 hn1
   go_wp2
   go_loopw [9, 10] (fun a i wr => ∃ (k : Nat) (n : Int), i = .int .i64 k ∧ a = .int .i64 n ∧ m ≤ k ∧ k ≤ wk + 1 ∧ Ev W0 wr ∧ Hid (n = M.upK gs k - M.upK gs m)) (fun _ i _ => wk + 1 - (intOf i).toNat)
   case atStart => exact ⟨m, 0, rfl, rfl, by omega, by omega, hB, hid (by omega)⟩
   case round =>
    clear hB hlt hk
    rename_i wl _ _ _ _
    obtain ⟨k, n, rfl, rfl, hmk, hk, hB, HM⟩ := hrel
    obtain ⟨c0, c1⟩ := cells2 (hB.heap Q0.out)
    by_cases hlt : k ≤ wk
    ·
     obtain ⟨b, off, x, hA, hb, hx, hxd, e0⟩ := hg.int (hE0.trans hB) (show k < tg by omega)
     have hcap := hg.cap
     have hx0 := HGB.out x (List.mem_of_getElem? hx)
     have hkg : k < tg := by omega
     have hle : (k : Int) ≤ wk := by omega
     have hbd := M.upK_le HGB.out m k (by rw [HGL.out]; omega) hmk
     have HM2 := hid (show n + x = M.upK gs (k + 1) - M.upK gs m by rw [M.upK_succ hx, HM.out]; omega)
     have hn0 : 0 ≤ n ∧ n ≤ 500 := by have := HM.out; omega
     have g1 : IntKind.i64.wrap (n + x) = n + x := IntWalk.i64_in _ (by omega)
     subst hA
     clear hx hxd hbd
     go_wp2
     exact ⟨⟨k + 1, n + x, by go_num, rfl, by omega, by omega, hB, HM2⟩, by simp [intOf]; omega⟩
    ·
     have hkw : k = wk + 1 := by omega
     have hle : ¬ ((k : Int) ≤ wk) := by omega
     have HR := hid (show n = res by rw [HW.out, HM3.out, HM.out, hkw])
     clear hkw
     go_wp2
     go_ret
     exact ⟨by rw [← HR.out]; rfl, hE0.trans hB⟩

end Go.Proofs.Ytffbkbcjddigdaa

set_option linter.unusedSimpArgs false
set_option linter.unusedVariables false
namespace Go.Proofs.Ytffbkbcjddigdaa
open Go.RowKit Go.Shelf

set_option maxRecDepth 100000 in
set_option maxHeartbeats 4000000 in
theorem rStrength_c (f : M.Cf) (Ag Aw Ab Ac Al : Option Addr) (ng cg nw cw nb cb nc cc nl cl : Nat) (P : Option Addr) (pn pc : Nat) (plan : List Int) (i : Nat) (hi : i < pn) (hib : i < nb) (hpl : ∀ x ∈ plan, 0 ≤ x ∧ x ≤ 9) (hb : ∀ x ∈ f.base, 0 ≤ x ∧ x ≤ 200) (hr : 1 ≤ f.ripe ∧ f.ripe ≤ 10) (ht : 0 ≤ f.late ∧ f.late ≤ 50) (w : World) (hs : Sl ics 1 w w.heap.size Ab nb cb f.base) (hp : Sl ics 1 w w.heap.size P pn pc plan) :
  Calls Try.prog 63 #[.agg #[.int .i64 f.last, .slice Ag ng cg, .slice Aw nw cw, .slice Ab nb cb, .slice Ac nc cc, .int .i64 f.ripe, .int .i64 f.late, .int .i64 f.trod, .slice Al nl cl], .slice P pn pc, .int .i64 i] w fun e w' => e = .returned (.int .i64 (M.strength f plan i)) ∧ Ev w w' := by
 obtain ⟨bp, op, rfl, hbp, hcp⟩ := hp.getD_ (Ev.refl w) (by omega)
 obtain ⟨bb, ob, rfl, hbb, hcb⟩ := hs.getD_ (Ev.refl w) (by omega)
 have hpc := hp.cap
 have hbc := hs.cap
 have hps := hp.small
 have hbs := hs.small
 obtain ⟨e0, e0m⟩ := hcp i hi
 obtain ⟨e1, e1m⟩ := hcb i hib
 have p0 := hpl _ e0m
 have b0 := hb _ e1m
 obtain ⟨bi, hbi⟩ : ∃ x, f.base.getD i 0 = x := ⟨_, rfl⟩
 rw [hbi] at e1 b0
 have HBI := hid hbi
 obtain ⟨pi, hpi⟩ : ∃ x, plan.getD i 0 = x := ⟨_, rfl⟩
 rw [hpi] at e0 p0
 have HPI := hid hpi
 have g0 : IntKind.i64.wrap (pi + 1) = pi + 1 := IntWalk.i64_in _ (by omega)
 clear hbi hpi e0m e1m hb hs hp
 rcases Nat.eq_zero_or_pos i with hi0 | hi0
 ·
  subst hi0
  simp only [Nat.add_zero] at e0 e1
  rw [show (((0 : Nat)) : Int) = 0 from rfl]
  have HAG := hid (show M.age plan 0 = pi + 1 by unfold M.age; rw [if_pos rfl, HPI.out])
  obtain ⟨d, hdd⟩ : ∃ d, pi + 1 - f.ripe = d := ⟨_, rfl⟩
  have hd9 : d ≤ 10 := by omega
  have hd0 : -10 ≤ d := by omega
  clear hcp hcb
  go_enter Try.func63, Try.ntmps63
  go_upto_region 4 with fail
  by_cases hd : 0 < d
  ·
   have hm : max 0 d = d := by omega
   obtain ⟨q, hq⟩ : ∃ q : Int, d * f.late = q := ⟨_, rfl⟩
   have hq0 : 0 ≤ q := by rw [← hq]; exact Int.mul_nonneg (by omega) (by omega)
   have hqc : f.late * d = q := by rw [Int.mul_comm]; exact hq
   have hq1 : q ≤ 10 * 50 := by rw [← hq]; exact Int.mul_le_mul (by omega) (by omega) (by omega) (by omega)
   have HS := hid (show M.strength f plan 0 = max 0 (bi - q) by unfold M.strength; rw [HAG.out, hdd, hm, hq, HBI.out])
   have g2 : IntKind.i64.wrap d = d := IntWalk.i64_in _ (by omega)
   have g3 : IntKind.i64.wrap q = q := IntWalk.i64_in _ (by omega)
   have g4 : IntKind.i64.wrap (bi - q) = bi - q := IntWalk.i64_in _ (by omega)
   have hd1 : ¬ (d ≤ 0) := by omega
   have hd2 : ¬ (d < 0) := by omega
   have hd3 : (0 : Int) ≤ d := by omega
   clear hm
   go_wp2_with (go_quiet (fail))
   all_goals (go_ret; exact ⟨by rw [HS.out]; first | rfl | (congr 3; omega) | (simp; omega), by repeat (first | exact Ev.refl _ | refine Ev.drewN ?_ _ | refine Ev.drew ?_ | refine Ev.alloc ?_ _)⟩)
  ·
   have hm : max 0 d = 0 := by omega
   have HS := hid (show M.strength f plan 0 = max 0 bi by unfold M.strength; rw [HAG.out, hdd, hm, Int.zero_mul, Int.sub_zero, HBI.out])
   have g2 : IntKind.i64.wrap d = d := IntWalk.i64_in _ (by omega)
   have hd3 : d ≤ 0 := by omega
   have g5 : IntKind.i64.wrap bi = bi := IntWalk.i64_in _ (by omega)
   clear hm
   go_wp2_with (go_quiet (fail))
   all_goals (go_ret; exact ⟨by rw [HS.out]; first | rfl | (congr 3; omega) | (simp; omega), by repeat (first | exact Ev.refl _ | refine Ev.drewN ?_ _ | refine Ev.drew ?_ | refine Ev.alloc ?_ _)⟩)
 ·
  obtain ⟨m, hm⟩ : ∃ m : Nat, (i : Int) - 1 = m := ⟨i - 1, by omega⟩
  have hmi : i - 1 = m := by omega
  obtain ⟨e2, e2m⟩ := hcp m (by omega)
  have q0 := hpl _ e2m
  obtain ⟨pj, hpj⟩ : ∃ x, plan.getD m 0 = x := ⟨_, rfl⟩
  rw [hpj] at e2 q0
  have HAG := hid (show M.age plan i = pi - pj by unfold M.age; rw [if_neg (by omega), HPI.out, hmi, hpj])
  obtain ⟨d, hdd⟩ : ∃ d, pi - pj - f.ripe = d := ⟨_, rfl⟩
  have hd9 : d ≤ 10 := by omega
  have hd0 : -20 ≤ d := by omega
  have i1 : (i : Int) > 0 := by omega
  have i2 : (0 : Int) < i := by omega
  have s1 : IntKind.i64.wrap ((i : Int) - 1) = m := by rw [hm]; exact IntWalk.i64_in _ (by omega)
  have s2 : IntKind.i64.wrap (pi - pj) = pi - pj := IntWalk.i64_in _ (by omega)
  have mp : m < pn := by omega
  clear hcp hcb hm hmi e2m hpj
  go_enter Try.func63, Try.ntmps63
  go_upto_region 4 with (go_quiet (fail))
  by_cases hd : 0 < d
  ·
   have hm : max 0 d = d := by omega
   obtain ⟨q, hq⟩ : ∃ q : Int, d * f.late = q := ⟨_, rfl⟩
   have hq0 : 0 ≤ q := by rw [← hq]; exact Int.mul_nonneg (by omega) (by omega)
   have hqc : f.late * d = q := by rw [Int.mul_comm]; exact hq
   have hq1 : q ≤ 10 * 50 := by rw [← hq]; exact Int.mul_le_mul (by omega) (by omega) (by omega) (by omega)
   have HS := hid (show M.strength f plan i = max 0 (bi - q) by unfold M.strength; rw [HAG.out, hdd, hm, hq, HBI.out])
   have g2 : IntKind.i64.wrap d = d := IntWalk.i64_in _ (by omega)
   have g3 : IntKind.i64.wrap q = q := IntWalk.i64_in _ (by omega)
   have g4 : IntKind.i64.wrap (bi - q) = bi - q := IntWalk.i64_in _ (by omega)
   have hd1 : ¬ (d ≤ 0) := by omega
   have hd2 : ¬ (d < 0) := by omega
   have hd3 : (0 : Int) ≤ d := by omega
   clear hm
   go_wp2_with (go_quiet (fail))
   all_goals (go_ret; exact ⟨by rw [HS.out]; first | rfl | (congr 3; omega) | (simp; omega), by repeat (first | exact Ev.refl _ | refine Ev.drewN ?_ _ | refine Ev.drew ?_ | refine Ev.alloc ?_ _)⟩)
  ·
   have hm : max 0 d = 0 := by omega
   have HS := hid (show M.strength f plan i = max 0 bi by unfold M.strength; rw [HAG.out, hdd, hm, Int.zero_mul, Int.sub_zero, HBI.out])
   have g2 : IntKind.i64.wrap d = d := IntWalk.i64_in _ (by omega)
   have hd3 : d ≤ 0 := by omega
   have g5 : IntKind.i64.wrap bi = bi := IntWalk.i64_in _ (by omega)
   clear hm
   go_wp2_with (go_quiet (fail))
   all_goals (go_ret; exact ⟨by rw [HS.out]; first | rfl | (congr 3; omega) | (simp; omega), by repeat (first | exact Ev.refl _ | refine Ev.drewN ?_ _ | refine Ev.drew ?_ | refine Ev.alloc ?_ _)⟩)

end Go.Proofs.Ytffbkbcjddigdaa

set_option linter.unusedSimpArgs false
set_option linter.unusedVariables false
namespace Go.Proofs.Ytffbkbcjddigdaa
open Go.RowKit Go.Shelf

theorem M.plan_parts {f : M.Cf} {plan : List Int} (h : M.isPlan f plan = true) : plan.length ≤ f.base.length ∧ M.rises plan = true ∧ ∀ x ∈ plan, 0 ≤ x ∧ x ≤ f.last := by
 unfold M.isPlan at h
 simp only [Bool.and_eq_true, decide_eq_true_eq, List.all_eq_true] at h
 refine ⟨h.1, h.2.1, fun x hx => ?_⟩
 have := h.2.2 x hx
 unfold M.hasWeek at this
 simpa only [Bool.and_eq_true, decide_eq_true_eq] using this
theorem set3' {W : World} {b : Nat} {t : TypeId} {z0 z1 z2 v0 v1 v2 : Value} (h : W.heap[b]? = some (.cells #[z0, z1, z2] t (0, 0))) :
  (((W.setCell ⟨b, 0, none⟩ v0).setCell ⟨b, 1, none⟩ v1).setCell ⟨b, 2, none⟩ v2).heap[b]? = some (.cells #[v0, v1, v2] t (0, 0)) := by
 rw [set_heap_same (set_heap_same (set_heap_same h))]; rfl

set_option maxRecDepth 100000 in
set_option maxHeartbeats 4000000 in
theorem rCropped_c (f : M.Cf) (Ag Aw Ab Ac Al : Option Addr) (ng cg nw cw nb cb nc cc nl cl : Nat) (Tg Tw : Option Addr) (tg tgc tw twc : Nat) (t : M.Tr) (P : Option Addr) (pn pc : Nat) (plan : List Int) (i : Nat) (hi : i < pn) (h0 : M.check f = 0) (hls : M.listed f t = true) (hpl : M.isPlan f plan = true) (w : World) (hs : CS w w.heap.size f Ag Aw Ab Ac Al ng cg nw cw nb cb nc cc nl cl) (hg : Sl ics 1 w w.heap.size Tg tg tgc t.gr) (hwt : Sl ics 1 w w.heap.size Tw tw twc t.wet) (hp : Sl ics 1 w w.heap.size P pn pc plan) :
  Calls Try.prog 26 #[.agg #[.int .i64 f.last, .slice Ag ng cg, .slice Aw nw cw, .slice Ab nb cb, .slice Ac nc cc, .int .i64 f.ripe, .int .i64 f.late, .int .i64 f.trod, .slice Al nl cl], .agg #[.slice Tg tg tgc, .slice Tw tw twc], .slice P pn pc, .int .i64 i] w fun e w' => e = .returned (.agg #[.int .i64 (M.crop f t plan i).wt, .int .i64 (M.crop f t plan i).st, .int .i64 (M.crop f t plan i).wo]) ∧ Ev w w' := by
 obtain ⟨hl9, hb3, _, hv, _⟩ := M.check0 h0
 have hvp := M.valid_parts hv
 obtain ⟨hpb, hpr, hpw⟩ := M.plan_parts hpl
 obtain ⟨htg, htw, hgb, _⟩ := M.listed_bd hv hls
 have l1 := hs.g.len
 have l2 := hs.w_.len
 have l3 := hs.b.len
 have l4 := hg.len
 have l5 := hwt.len
 have l6 := hp.len
 have hcr := M.crop_bd h0 hls (M.crop f t plan i) (by unfold M.play; exact List.mem_map.2 ⟨i, List.mem_range.2 (by omega), rfl⟩)
 obtain ⟨wk, hwk⟩ : ∃ wk : Nat, plan.getD i 0 = wk := by
  have hm : plan.getD i 0 ∈ plan := by rw [List.getD_eq_getElem?_getD, List.getElem?_eq_getElem (by omega)]; exact List.getElem_mem _
  have := hpw _ hm
  exact ⟨(plan.getD i 0).toNat, by omega⟩
 have hwl : (wk : Int) ≤ f.last := by
  have hm : plan.getD i 0 ∈ plan := by rw [List.getD_eq_getElem?_getD, List.getElem?_eq_getElem (by omega)]; exact List.getElem_mem _
  have := hpw _ hm
  omega
 have hwtg : wk < tg := by omega
 have hwtw : wk < tw := by omega
 have HSX := hid (fun W (hE : Ev w W) => rStanding_c Tg Tw tg tgc tw twc t.gr P pn pc plan wk hwtg (by omega) hpr (fun q hq => (hpw q hq).1) hgb W (hg.ev hE) (hp.ev hE))
 have HST := hid (fun W (hE : Ev w W) => rStrength_c f Ag Aw Ab Ac Al ng cg nw cw nb cb nc cc nl cl P pn pc plan i hi (by omega) (fun x hx => by have := hpw x hx; omega) hvp.2.2.2.2.2.2.1 hvp.2.2.2.2.2.2.2.2.1 hvp.2.2.2.2.2.2.2.2.2.1 W (hs.b.ev hE) (hp.ev hE))
 have hab := getD_bd (l := M.weights t.gr plan) (lo := 0) (hi := 500) (by omega) (by omega) (M.weights_bd (by omega) hgb) wk
 have HL := hid (show M.crop f t plan i = ⟨M.leaves f ((M.weights t.gr plan).getD wk 0) (t.wet.getD wk 0 == 1), M.strength f plan i, M.leaves f ((M.weights t.gr plan).getD wk 0) (t.wet.getD wk 0 == 1) * M.strength f plan i⟩ by unfold M.crop M.left; rw [hwk, Int.toNat_natCast])
 have htr := hvp.2.2.2.2.2.2.2.2.2.2.1
 have HWX := hid hwt
 have HPX := hid hp
 have hpc := hp.cap
 have hwc := hwt.cap
 have HWK := hid hwk
 clear hvp hpb hpr hpw htg htw hgb l1 l2 l3 l4 l5 l6 hs hg hwt hp hls hpl h0 hv hwk hl9 hb3
 generalize M.crop f t plan i = cr at HL hcr
 generalize (M.weights t.gr plan).getD wk 0 = a at HSX HL hab
 generalize M.strength f plan i = st at HST HL
 obtain ⟨u, hu⟩ : ∃ u, t.wet.getD wk 0 = u := ⟨_, rfl⟩
 rw [hu] at HL
 have HU := hid hu
 clear hu
 have hi0 : (0 : Int) ≤ i := by omega
 go_enter Try.func26, Try.ntmps26
 go_upto_region 1 with fail
 generalize hW0 : World.alloc (World.alloc (World.alloc w _) _) _ = W0
 have hE0 : Ev w W0 := by rw [← hW0]; exact Ev.alloc (Ev.alloc (Ev.alloc (Ev.refl _) _) _) _
 have hal := alloc3 w (.cells #[.int .i64 f.last, .slice Ag ng cg, .slice Aw nw cw, .slice Ab nb cb, .slice Ac nc cc, .int .i64 f.ripe, .int .i64 f.late, .int .i64 f.trod, .slice Al nl cl] 26) (.cells #[.slice Tg tg tgc, .slice Tw tw twc] 28) (.cells #[.int .i64 0, .int .i64 0, .int .i64 0] 51)
 rw [hW0] at hal
 have Q0 := hid hal.1
 have Q1 := hid hal.2.1
 have Q2 := hid hal.2.2.1
 clear hal hW0
 obtain ⟨x0, x1⟩ := cells2 Q1.out
 have l1 := heap_lt Q1.out
 obtain ⟨bp, op, rfl, hbp, hcp⟩ := HPX.out.getD_ hE0 (by omega)
 have e0 := (hcp i hi).1
 rw [HWK.out] at e0
 clear hcp
 have lp : bp < W0.heap.size := by have := hE0.size; omega
 have HSE : Hid (∀ w', Ev W0 w' → (∀ o, w'.cell? ⟨w.heap.size + 1, o, none⟩ = W0.cell? ⟨w.heap.size + 1, o, none⟩) ∧ (∀ o, w'.cell? ⟨bp, o, none⟩ = W0.cell? ⟨bp, o, none⟩)) := hid (fun w' h => ⟨fun o => h.cells.1 _ o l1, fun o => h.cells.1 _ o lp⟩)
 refine wp_region_held_drew (S := fun w' => (∀ o, w'.cell? ⟨w.heap.size + 1, o, none⟩ = W0.cell? ⟨w.heap.size + 1, o, none⟩) ∧ (∀ o, w'.cell? ⟨bp, o, none⟩ = W0.cell? ⟨bp, o, none⟩)) (by kernel_rfl) (⟨fun o => rfl, fun o => rfl⟩) (fun hHeld => ?_)
 refine tkH 0 (some 11) ?_
 (try simp only [Act.put, sA, sB, sC])
 refine tkH 1 (some 12) ?_
 (try simp only [Act.put, sA, sB, sC])
 refine tkH 2 (some 13) ?_
 (try simp only [Act.put, sA, sB, sC])
 refine tkH 3 (some 14) ?_
 (try simp only [Act.put, sA, sB, sC])
 refine tkH 4 (some 15) ?_
 (try simp only [Act.put, sA, sB, sC])
 refine tkH 5 (some 16) ?_
 (try simp only [Act.put, sA, sB, sC])
 refine wpAnyH_one (i := 6) rfl (by kernel_rfl) (by rfl) (fun K hK => ?_)
 go_simp
 refine (HSX.out _ (hE0.trans (Ev.drew (Ev.refl _)))).mono ?_
 rintro e w1 ⟨rfl, hb1⟩
 have hE1 : Ev W0 w1 := Ev.trans (Ev.drew (Ev.refl _)) hb1
 refine hK.out _ _ (HSE.out _ hE1) (fun hHeld => ?_)
 clear hK K
 (try simp only [Act.put, List.setIfInBounds_toArray, List.set_cons_zero, List.set_cons_succ])
 refine tkH 7 (some 9) ?_
 (try simp only [Act.put, sA, sB, sC])
 refine wpAnyH_done (by kernel_rfl) ?_ _
 obtain ⟨y0, y1, y2, y3, y4, y5, y6, y7, y8⟩ := cells9 (hE1.heap Q0.out)
 obtain ⟨bw, ow, rfl, hbw, hcw⟩ := HWX.out.getD_ (hE0.trans hE1) (by omega)
 have e2 := (hcw wk hwtw).1
 rw [HU.out] at e2
 clear hcw
 have k1 := heap_lt (hE1.heap Q1.out)
 have k2 : bp < w1.heap.size := by have := hE1.size; omega
 have hbw2 : bw < w1.heap.size := by have := (hE0.trans hE1).size; omega
 by_cases hu1 : u = 1
 ·
  have t1 : (u == 1) = true := by simp [hu1]
  rw [t1] at HL
  have HUU := hid hu1
  clear hu1
  obtain ⟨q, hq⟩ : ∃ q : Int, a * f.trod = q := ⟨_, rfl⟩
  have hq0 : 0 ≤ q := by rw [← hq]; exact Int.mul_nonneg (by omega) (by omega)
  have hq1 : q ≤ 500 * 100 := by rw [← hq]; exact Int.mul_le_mul (by omega) (by omega) (by omega) (by omega)
  have td : q.tdiv 100 = q / 100 := Int.tdiv_eq_ediv_of_nonneg hq0
  have s1 : IntKind.i64.wrap q = q := IntWalk.i64_in _ (by omega)
  obtain ⟨d, hd⟩ : ∃ d : Int, q / 100 = d := ⟨_, rfl⟩
  have s2 : IntKind.i64.wrap d = d := IntWalk.i64_in _ (by omega)
  have s3 : IntKind.i64.wrap (a - d) = a - d := IntWalk.i64_in _ (by omega)
  have HC := hid (show cr = ⟨a - d, st, (a - d) * st⟩ by rw [HL.out]; unfold M.leaves; rw [if_pos rfl, hq, hd])
  have hwo : 0 ≤ (a - d) * st ∧ (a - d) * st ≤ 100000 := by have := hcr.2.2; rw [HC.out] at this; exact this
  have s4 : IntKind.i64.wrap ((a - d) * st) = (a - d) * st := IntWalk.i64_in _ (by omega)
  clear hcr HL
  go_upto_region 2 with fail
  have HSE : Hid (∀ w', Ev w1 w' → (∀ o, w'.cell? ⟨w.heap.size + 1, o, none⟩ = w1.cell? ⟨w.heap.size + 1, o, none⟩) ∧ (∀ o, w'.cell? ⟨bp, o, none⟩ = w1.cell? ⟨bp, o, none⟩) ∧ (∀ o, w'.cell? ⟨bw, o, none⟩ = w1.cell? ⟨bw, o, none⟩)) := hid (fun w' h => ⟨fun o => h.cells.1 _ o k1, fun o => h.cells.1 _ o k2, fun o => h.cells.1 _ o hbw2⟩)
  refine wp_region_held_drew (S := fun w' => (∀ o, w'.cell? ⟨w.heap.size + 1, o, none⟩ = w1.cell? ⟨w.heap.size + 1, o, none⟩) ∧ (∀ o, w'.cell? ⟨bp, o, none⟩ = w1.cell? ⟨bp, o, none⟩) ∧ (∀ o, w'.cell? ⟨bw, o, none⟩ = w1.cell? ⟨bw, o, none⟩)) (by kernel_rfl) (⟨fun o => rfl, fun o => rfl, fun o => rfl⟩) (fun hHeld => ?_)
  refine tkH 0 (some 18) ?_
  (try simp only [Act.put, sA, sB, sC])
  refine tkH 1 (some 19) ?_
  (try simp only [Act.put, sA, sB, sC])
  refine tkH 2 (some 20) ?_
  (try simp only [Act.put, sA, sB, sC])
  refine tkH 3 (some 21) ?_
  (try simp only [Act.put, sA, sB, sC])
  refine tkH 4 (some 22) ?_
  (try simp only [Act.put, sA, sB, sC])
  refine tkH 5 (some 23) ?_
  (try simp only [Act.put, sA, sB, sC])
  refine tkH 6 (some 24) ?_
  (try simp only [Act.put, sA, sB, sC])
  refine tkH 7 (some 25) ?_
  (try simp only [Act.put, sA, sB, sC])
  refine tkH 8 (some 26) ?_
  (try simp only [Act.put, sA, sB, sC])
  refine wpAnyH_done (by kernel_rfl) ?_ _
  generalize hWd : World.drew w1 = wd
  have hEd : Ev w1 wd := by rw [← hWd]; exact Ev.drew (Ev.refl _)
  have hEwd := hid (hE1.trans hEd)
  clear hWd y0 y1 y2 y3 y4 y5 y6 y7 y8
  obtain ⟨y0, y1, y2, y3, y4, y5, y6, y7, y8⟩ := cells9 (hEwd.out.heap Q0.out)
  go_wp2_with (go_at_call 63; with_reducible refine (HST.out _ (hE0.trans hEwd.out)).mono ?_; rintro e w2 ⟨rfl, hb2⟩; have q2 := hb2.heap (hEwd.out.heap Q2.out); obtain ⟨z0, z1, z2⟩ := cells3 q2; obtain ⟨f0, f1, f2⟩ := frz3 q2; have HQ2 := hid q2; have HE2 := hid ((hE0.trans hEwd.out).trans hb2); clear q2)
  have hF := set3' (v0 := .int .i64 (a - d)) (v1 := .int .i64 st) (v2 := .int .i64 ((a - d) * st)) HQ2.out
  obtain ⟨d0, d1, d2⟩ := cells3 hF
  refine bodyPost_ret (v := .agg #[.int .i64 (a - d), .int .i64 st, .int .i64 ((a - d) * st)]) (by simp [results, Try.results26, go_sem, d0, d1, d2]) rfl ⟨by rw [HC.out], ?_⟩
  exact Ev.setCell (Ev.setCell (Ev.setCell HE2.out (by show w.heap.size ≤ w.heap.size + 1 + 1; omega) _) (by show w.heap.size ≤ w.heap.size + 1 + 1; omega) _) (by show w.heap.size ≤ w.heap.size + 1 + 1; omega) _
 ·
  have t1 : (u == 1) = false := by simpa using hu1
  rw [t1] at HL
  clear hu1
  have HC := hid (show cr = ⟨a, st, a * st⟩ by rw [HL.out]; rfl)
  have hwo : 0 ≤ a * st ∧ a * st ≤ 100000 := by have := hcr.2.2; rw [HC.out] at this; exact this
  have s4 : IntKind.i64.wrap (a * st) = a * st := IntWalk.i64_in _ (by omega)
  clear hcr HL
  go_upto_region 2 with fail
  have HSE : Hid (∀ w', Ev w1 w' → (∀ o, w'.cell? ⟨w.heap.size + 1, o, none⟩ = w1.cell? ⟨w.heap.size + 1, o, none⟩) ∧ (∀ o, w'.cell? ⟨bp, o, none⟩ = w1.cell? ⟨bp, o, none⟩) ∧ (∀ o, w'.cell? ⟨bw, o, none⟩ = w1.cell? ⟨bw, o, none⟩)) := hid (fun w' h => ⟨fun o => h.cells.1 _ o k1, fun o => h.cells.1 _ o k2, fun o => h.cells.1 _ o hbw2⟩)
  refine wp_region_held_drew (S := fun w' => (∀ o, w'.cell? ⟨w.heap.size + 1, o, none⟩ = w1.cell? ⟨w.heap.size + 1, o, none⟩) ∧ (∀ o, w'.cell? ⟨bp, o, none⟩ = w1.cell? ⟨bp, o, none⟩) ∧ (∀ o, w'.cell? ⟨bw, o, none⟩ = w1.cell? ⟨bw, o, none⟩)) (by kernel_rfl) (⟨fun o => rfl, fun o => rfl, fun o => rfl⟩) (fun hHeld => ?_)
  refine tkH 0 (some 18) ?_
  (try simp only [Act.put, sA, sB, sC])
  refine tkH 1 (some 19) ?_
  (try simp only [Act.put, sA, sB, sC])
  refine tkH 2 (some 20) ?_
  (try simp only [Act.put, sA, sB, sC])
  refine tkH 3 (some 21) ?_
  (try simp only [Act.put, sA, sB, sC])
  refine tkH 4 (some 22) ?_
  (try simp only [Act.put, sA, sB, sC])
  refine tkH 5 (some 23) ?_
  (try simp only [Act.put, sA, sB, sC])
  refine tkH 6 (some 24) ?_
  (try simp only [Act.put, sA, sB, sC])
  refine tkH 7 (some 25) ?_
  (try simp only [Act.put, sA, sB, sC])
  refine tkH 8 (some 26) ?_
  (try simp only [Act.put, sA, sB, sC])
  refine wpAnyH_done (by kernel_rfl) ?_ _
  generalize hWd : World.drew w1 = wd
  have hEd : Ev w1 wd := by rw [← hWd]; exact Ev.drew (Ev.refl _)
  have hEwd := hid (hE1.trans hEd)
  clear hWd y0 y1 y2 y3 y4 y5 y6 y7 y8
  obtain ⟨y0, y1, y2, y3, y4, y5, y6, y7, y8⟩ := cells9 (hEwd.out.heap Q0.out)
  go_wp2_with (go_at_call 63; with_reducible refine (HST.out _ (hE0.trans hEwd.out)).mono ?_; rintro e w2 ⟨rfl, hb2⟩; have q2 := hb2.heap (hEwd.out.heap Q2.out); obtain ⟨z0, z1, z2⟩ := cells3 q2; obtain ⟨f0, f1, f2⟩ := frz3 q2; have HQ2 := hid q2; have HE2 := hid ((hE0.trans hEwd.out).trans hb2); clear q2)
  have hF := set3' (v0 := .int .i64 a) (v1 := .int .i64 st) (v2 := .int .i64 (a * st)) HQ2.out
  obtain ⟨d0, d1, d2⟩ := cells3 hF
  refine bodyPost_ret (v := .agg #[.int .i64 a, .int .i64 st, .int .i64 (a * st)]) (by simp [results, Try.results26, go_sem, d0, d1, d2]) rfl ⟨by rw [HC.out], ?_⟩
  exact Ev.setCell (Ev.setCell (Ev.setCell HE2.out (by show w.heap.size ≤ w.heap.size + 1 + 1; omega) _) (by show w.heap.size ≤ w.heap.size + 1 + 1; omega) _) (by show w.heap.size ≤ w.heap.size + 1 + 1; omega) _

end Go.Proofs.Ytffbkbcjddigdaa
