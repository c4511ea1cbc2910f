import Derived.Test.YtgimcephbeajlaaC8
set_option linter.unusedSimpArgs false
set_option linter.unusedVariables false
namespace Go.Proofs.Ytgimcephbeajlaa
open Go.RowKit Go.Shelf

set_option maxRecDepth 100000 in
set_option maxHeartbeats 1000000 in
theorem Has_c (A : Option Addr) (n c : Nat) (xs : List Int) (v : Int) (w : World) (hs : Sl ics 1 w w.heap.size A n c xs) :
  Calls Try.prog 73 #[.slice A n c, .int .i64 v] w fun e w' => e = .returned (.bool (decide (v ∈ xs))) ∧ Ev w w' := by
 have hsm := hs.small
 go_enter Try.func73, Try.ntmps73
 go_wp2
 go_loop [5] (fun i => ∃ k : Nat, i = .int .i64 k ∧ k ≤ n ∧ Hid (decide (v ∈ xs.drop k) = decide (v ∈ xs))) (fun i => n - (intOf i).toNat)
 case atStart => exact ⟨0, rfl, by omega, hid (by simp)⟩
 case round =>
  obtain ⟨k, rfl, hk, hp⟩ := hrel
  by_cases hlt : k < n
  ·
   obtain ⟨b, off, x, rfl, hb, hx, hd, e0⟩ := hs.int (Below.refl _ w) hlt
   have H := hid hd
   have hcap := hs.cap
   clear hd hx
   by_cases hvx : x = v
   ·
    have hB : (x == v) = true := by simpa using hvx
    have HV := hid (show true = decide (v ∈ x :: xs.drop (k + 1)) by rw [hvx]; simp)
    clear hvx
    go_wp2
    go_ret
    exact ⟨ret_bool (by rw [← hp.out, H.out]; exact HV.out), Ev.refl _⟩
   ·
    have hB : (x == v) = false := by simpa using hvx
    have HV := hid (show decide (v ∈ x :: xs.drop (k + 1)) = decide (v ∈ xs.drop (k + 1)) from decide_eq_decide.2 (by rw [List.mem_cons]; exact ⟨fun h => h.resolve_left (fun e => hvx e.symm), .inr⟩))
    clear hvx
    go_wp2
    go_round
    case rel => exact ⟨k + 1, by go_num, by omega, hid (by rw [← hp.out, H.out]; exact HV.out.symm)⟩
    case measure => simp [intOf]; omega
  ·
   have H := hid (hs.done hlt)
   go_wp2
   go_ret
   exact ⟨ret_bool (by rw [← hp.out, H.out]; simp), Ev.refl _⟩

/-- The heat behind k hours. -/
def M.heatN (f : M.Cf) (t : M.Tr) (turns : List Int) : Nat → Int
 | 0 => t.st
 | k + 1 => M.cool f (M.heatN f t turns k) (decide ((k : Int) ∈ turns)) + f.size * t.wet.getD k 0 / 10
theorem M.heatN_bd {f : M.Cf} (hv : M.valid f = true) {t : M.Tr} (h : M.listed f t = true) (turns : List Int) : ∀ k : Nat, k ≤ t.wet.length → 0 ≤ M.heatN f t turns k ∧ M.heatN f t turns k ≤ 500 + 40 * k
 | 0, _ => by have := (M.listed_bd hv h).1; unfold M.heatN; omega
 | k + 1, hk => by
  obtain ⟨s1, c1, _⟩ := M.valid_parts hv
  have ih := M.heatN_bd hv h turns k (by omega)
  have hx : 0 ≤ t.wet.getD k 0 ∧ t.wet.getD k 0 ≤ 20 := getD_bd (by omega) (by omega) (M.listed_bd hv h).2.2 k
  have h1 := M.rise_bd s1 hx
  have h2 := M.cool_bd c1 ih.1 (decide ((k : Int) ∈ turns))
  unfold M.heatN
  generalize f.size * t.wet.getD k 0 = q at h1
  generalize M.cool f (M.heatN f t turns k) (decide ((k : Int) ∈ turns)) = a at h2
  omega
theorem M.hK_at (f : M.Cf) (t : M.Tr) (turns : List Int) : ∀ (xs : List Int) (k : Nat) (m : Int), (∀ (j : Nat) (x : Int), xs[j]? = some x → t.wet.getD (k + j) 0 = x) → m = M.heatN f t turns k → ∀ i, i < xs.length → (M.hK f turns xs k m)[i]? = some (M.heatN f t turns (k + i + 1))
 | [], _, _, _, _, i, h => by simp at h
 | x :: xs, k, m, hx, hm, i, h => by
  have hy : M.cool f m (decide ((k : Int) ∈ turns)) + f.size * x / 10 = M.heatN f t turns (k + 1) := by
   have h0 := hx 0 x rfl
   rw [Nat.add_zero] at h0
   rw [M.heatN, h0, hm]
  rw [M.hK]
  cases i with
  | zero => rw [List.getElem?_cons_zero, hy]
  | succ i =>
   rw [List.getElem?_cons_succ, M.hK_at f t turns xs (k + 1) _ (fun j y hj => by rw [show k + 1 + j = k + (j + 1) by omega]; exact hx (j + 1) y (by rw [List.getElem?_cons_succ]; exact hj)) hy i (by simpa using h), show k + 1 + i + 1 = k + (i + 1) + 1 by omega]
theorem M.heats_at {f : M.Cf} {t : M.Tr} (turns : List Int) {i : Nat} (h : i < t.wet.length) : (M.heats f t turns)[i]? = some (M.heatN f t turns (i + 1)) := by
 unfold M.heats
 rw [List.getElem?_append_left (by rw [M.hK_len]; exact h), M.hK_at f t turns t.wet 0 t.st (fun j x hj => by rw [Nat.zero_add, List.getD_eq_getElem?_getD, hj]; rfl) rfl i h, Nat.zero_add]
theorem M.heats_getD {f : M.Cf} {t : M.Tr} (turns : List Int) {i : Nat} (h : i < t.wet.length) : (M.heats f t turns).getD i 0 = M.heatN f t turns (i + 1) := by
 rw [List.getD_eq_getElem?_getD, M.heats_at turns h]; rfl

set_option maxRecDepth 100000 in
set_option maxHeartbeats 4000000 in
theorem Heat_c (f : M.Cf) (Aw At Ar : Option Addr) (nw cw nt ct nr cr : Nat) (Tw : Option Addr) (tw twc : Nat) (t : M.Tr) (P : Option Addr) (pn pc : Nat) (plan : List Int) (hv : M.valid f = true) (hl9 : f.last ≤ 9) (hls : M.listed f t = true) : ∀ (k : Nat) (h : Int), h + 1 = k → k ≤ tw → ∀ (w : World), CS w w.heap.size f Aw At Ar nw cw nt ct nr cr → Sl ics 1 w w.heap.size Tw tw twc t.wet → Sl ics 1 w w.heap.size P pn pc plan →
  Calls Try.prog 30 #[.agg #[.int .i64 f.last, .int .i64 f.size, .int .i64 f.cool, .int .i64 f.die, .int .i64 f.burn, .int .i64 f.st.lo, .int .i64 f.st.hi, .slice Aw nw cw, .slice At nt ct, .slice Ar nr cr], .agg #[.int .i64 t.st, .slice Tw tw twc], .slice P pn pc, .int .i64 h] w fun e w' => e = .returned (.int .i64 (M.heatN f t plan k)) ∧ Ev w w' := by
 intro k
 induction k with
 | zero =>
  intro h hh hk w hs hwt hp
  have hlt : h < 0 := by omega
  clear hs hwt hp hh hk
  go_enter Try.func30, Try.ntmps30
  go_wp2
  go_ret
  exact ⟨rfl, Ev.alloc (Ev.alloc (Ev.refl _) _) _⟩
 | succ k ih =>
  intro h hh hk w hs hwt hp
  obtain rfl : h = (k : Int) := by omega
  obtain ⟨s1, c1', _⟩ := M.valid_parts hv
  obtain ⟨_, _, b3⟩ := M.listed_bd hv hls
  have hbd := M.heatN_bd hv hls plan k (by have := hwt.len; omega)
  have htw : tw ≤ 10 := by
   have h1 := (M.listed_bd hv hls).2.1
   have h2 := (M.valid_parts hv).2.2.2.2.2.1
   have := hwt.len
   omega
  have HIH := hid (fun W (hE : Ev w W) => ih ((k : Int) - 1) (by omega) (by omega) W (hs.ev hE) (hwt.ev hE) (hp.ev hE))
  have HHC := hid (fun W (hE : Ev w W) => Has_c P pn pc plan (k : Int) W (hp.ev hE))
  obtain ⟨bw, ow, y, rfl, hbw, hyx, _, e0⟩ := hwt.int (Below.refl _ _) (show k < tw by omega)
  have hyb := b3 y (List.mem_of_getElem? hyx)
  have hcap := hwt.cap
  have HE0 := hid e0
  have hv2 : M.heatN f t plan (k + 1) = M.cool f (M.heatN f t plan k) (decide ((k : Int) ∈ plan)) + f.size * y / 10 := by rw [M.heatN, List.getD_eq_getElem?_getD, hyx]; rfl
  generalize M.heatN f t plan (k + 1) = res at hv2 ⊢
  generalize M.heatN f t plan k = m at HIH hv2 hbd
  obtain ⟨bb, hbb⟩ : ∃ bb, decide ((k : Int) ∈ plan) = bb := ⟨_, rfl⟩
  rw [hbb] at HHC hv2
  have hrb := M.rise_bd s1 hyb
  obtain ⟨q, hq⟩ : ∃ q : Int, f.size * y = q := ⟨_, rfl⟩
  rw [hq] at hrb hv2
  have r1 : q.tdiv 10 = q / 10 := Int.tdiv_eq_ediv_of_nonneg hrb.1
  have r2 : IntKind.i64.wrap q = q := IntWalk.i64_in _ (by omega)
  obtain ⟨d, hd⟩ : ∃ d : Int, q / 10 = d := ⟨_, rfl⟩
  rw [hd] at hv2
  have r3 : IntKind.i64.wrap d = d := IntWalk.i64_in _ (by omega)
  have hdb : 0 ≤ d ∧ d ≤ 40 := by omega
  have hn : ¬ ((k : Int) < 0) := by omega
  have k0 : (0 : Int) ≤ k := by omega
  have kt : (k : Int) < tw := by omega
  have g1 : IntKind.i64.wrap ((k : Int) - 1) = (k : Int) - 1 := IntWalk.i64_in _ (by omega)
  have hm1 : 0 ≤ m * f.cool := Int.mul_nonneg hbd.1 c1'.1
  have hm2 : m * f.cool ≤ m * 100 := Int.mul_le_mul_of_nonneg_left c1'.2 hbd.1
  clear ih hs hwt hp hh hyx e0 hls hv s1 c1' b3 hbb
  cases bb with
  | true =>
   unfold M.cool at hv2
   rw [if_pos rfl] at hv2
   obtain ⟨q1, hq1⟩ : ∃ q1 : Int, m * f.cool = q1 := ⟨_, rfl⟩
   rw [hq1] at hv2 hm1 hm2
   have r4 : IntKind.i64.wrap q1 = q1 := IntWalk.i64_in _ (by omega)
   have r5 : q1.tdiv 100 = q1 / 100 := Int.tdiv_eq_ediv_of_nonneg hm1
   obtain ⟨d1, hd1⟩ : ∃ d1 : Int, q1 / 100 = d1 := ⟨_, rfl⟩
   rw [hd1] at hv2
   have r6 : IntKind.i64.wrap d1 = d1 := IntWalk.i64_in _ (by omega)
   have r7 : IntKind.i64.wrap (m - d1) = m - d1 := IntWalk.i64_in _ (by omega)
   have r8 : IntKind.i64.wrap (m - d1 + d) = m - d1 + d := IntWalk.i64_in _ (by omega)
   have HV := hid hv2.symm
   clear hv2
   go_enter Try.func30, Try.ntmps30
   go_upto_region 3 with fail
   generalize hW0 : World.alloc (World.alloc w _) _ = W0
   have hE0 : Ev w W0 := by rw [← hW0]; exact Ev.alloc (Ev.alloc (Ev.refl _) _) _
   have hal := alloc2 w (.cells #[.int .i64 f.last, .int .i64 f.size, .int .i64 f.cool, .int .i64 f.die, .int .i64 f.burn, .int .i64 f.st.lo, .int .i64 f.st.hi, .slice Aw nw cw, .slice At nt ct, .slice Ar nr cr] 28) (.cells #[.int .i64 t.st, .slice (some ⟨bw, ow, none⟩) tw twc] 30)
   rw [hW0] at hal
   have Q0 := hid hal.1
   have Q1 := hid hal.2.1
   clear hal hW0
   obtain ⟨y0, y1, y2, y3, y4, y5, y6, y7, y8, y9⟩ := cells10 Q0.out
   obtain ⟨c0, c1⟩ := cells2 Q1.out
   go_upto_region 4 with (go_at_call 30; with_reducible refine (HIH.out _ hE0).mono ?_; rintro e w1 ⟨rfl, hb1⟩)
   clear y0 y1 y2 y3 y4 y5 y6 y7 y8 y9 c0 c1
   go_upto_region 6 with (go_at_call 73; with_reducible refine (HHC.out _ (hE0.trans hb1)).mono ?_; rintro e w2 ⟨rfl, hb2⟩; have hE2 : Ev w w2 := (hE0.trans hb1).trans hb2; obtain ⟨y0, y1, y2, y3, y4, y5, y6, y7, y8, y9⟩ := cells10 (hb2.heap (hb1.heap Q0.out)); obtain ⟨c0, c1⟩ := cells2 (hb2.heap (hb1.heap Q1.out)))
   have e1 : w2.cell? ⟨bw, ow + k, none⟩ = some (.int .i64 y) := (hE2.cells.1 bw _ hbw).trans HE0.out
   go_wp2_with (go_quiet (fail))
   go_ret
   exact ⟨ret_int HV.out, (hE2).drewN _⟩
  | false =>
   unfold M.cool at hv2
   rw [if_neg (by decide)] at hv2
   have r8 : IntKind.i64.wrap (m + d) = m + d := IntWalk.i64_in _ (by omega)
   have HV := hid hv2.symm
   clear hv2 hm1 hm2
   go_enter Try.func30, Try.ntmps30
   go_upto_region 3 with fail
   generalize hW0 : World.alloc (World.alloc w _) _ = W0
   have hE0 : Ev w W0 := by rw [← hW0]; exact Ev.alloc (Ev.alloc (Ev.refl _) _) _
   have hal := alloc2 w (.cells #[.int .i64 f.last, .int .i64 f.size, .int .i64 f.cool, .int .i64 f.die, .int .i64 f.burn, .int .i64 f.st.lo, .int .i64 f.st.hi, .slice Aw nw cw, .slice At nt ct, .slice Ar nr cr] 28) (.cells #[.int .i64 t.st, .slice (some ⟨bw, ow, none⟩) tw twc] 30)
   rw [hW0] at hal
   have Q0 := hid hal.1
   have Q1 := hid hal.2.1
   clear hal hW0
   obtain ⟨y0, y1, y2, y3, y4, y5, y6, y7, y8, y9⟩ := cells10 Q0.out
   obtain ⟨c0, c1⟩ := cells2 Q1.out
   go_upto_region 4 with (go_at_call 30; with_reducible refine (HIH.out _ hE0).mono ?_; rintro e w1 ⟨rfl, hb1⟩)
   clear y0 y1 y2 y3 y4 y5 y6 y7 y8 y9 c0 c1
   go_upto_region 6 with (go_at_call 73; with_reducible refine (HHC.out _ (hE0.trans hb1)).mono ?_; rintro e w2 ⟨rfl, hb2⟩; have hE2 : Ev w w2 := (hE0.trans hb1).trans hb2; obtain ⟨y0, y1, y2, y3, y4, y5, y6, y7, y8, y9⟩ := cells10 (hb2.heap (hb1.heap Q0.out)); obtain ⟨c0, c1⟩ := cells2 (hb2.heap (hb1.heap Q1.out)))
   have e1 : w2.cell? ⟨bw, ow + k, none⟩ = some (.int .i64 y) := (hE2.cells.1 bw _ hbw).trans HE0.out
   go_wp2_with (go_quiet (fail))
   go_ret
   exact ⟨ret_int HV.out, (hE2).drewN _⟩

theorem M.inAll_at : ∀ (ns : List Int) (rs : List M.Rg), M.inAll ns rs = true ↔ ns.length = rs.length ∧ ∀ (j : Nat) (n : Int) (r : M.Rg), ns[j]? = some n → rs[j]? = some r → M.holds r n = true
 | [], [] => by simp [M.inAll]
 | [], _ :: _ => by simp [M.inAll]
 | _ :: _, [] => by simp [M.inAll]
 | x :: xs, r :: rs => by
  rw [M.inAll, Bool.and_eq_true, M.inAll_at xs rs]
  constructor
  ·
   rintro ⟨h1, h2, h3⟩
   refine ⟨by simp [h2], fun j n q hn hq => ?_⟩
   cases j with
   | zero => simp at hn hq; subst hn hq; exact h1
   | succ j => exact h3 j n q (by simpa using hn) (by simpa using hq)
  ·
   rintro ⟨h1, h2⟩
   exact ⟨h2 0 x r rfl rfl, by simpa using h1, fun j n q hn hq => h2 (j + 1) n q (by simpa using hn) (by simpa using hq)⟩
theorem M.inAll_bad {ns : List Int} {rs : List M.Rg} {k : Nat} {x : Int} {r : M.Rg} (hx : ns[k]? = some x) (hr : rs[k]? = some r) (h : M.holds r x = false) : M.inAll ns rs = false := by
 cases hh : M.inAll ns rs with
 | false => rfl
 | true => rw [((M.inAll_at ns rs).1 hh).2 k x r hx hr] at h; cases h

set_option maxRecDepth 100000 in
set_option maxHeartbeats 4000000 in
theorem rIsListed_c (f : M.Cf) (Aw At Ar : Option Addr) (nw cw nt ct nr cr : Nat) (Tw : Option Addr) (tw twc : Nat) (t : M.Tr) (w : World) (hs : CS w w.heap.size f Aw At Ar nw cw nt ct nr cr) (hwt : Sl ics 1 w w.heap.size Tw tw twc t.wet) :
  Calls Try.prog 28 #[.agg #[.int .i64 f.last, .int .i64 f.size, .int .i64 f.cool, .int .i64 f.die, .int .i64 f.burn, .int .i64 f.st.lo, .int .i64 f.st.hi, .slice Aw nw cw, .slice At nt ct, .slice Ar nr cr], .agg #[.int .i64 t.st, .slice Tw tw twc]] w fun e w' => e = .returned (.bool (M.listed f t)) ∧ Ev w w' := by
 have g2 := hs.w_.len
 have g4 := hwt.len
 have hsm := hwt.small
 by_cases q2 : tw = nw
 case neg =>
  have HD := hid (show M.listed f t = false by unfold M.listed; rw [decide_eq_false (show ¬ (t.wet.length = f.wet.length) by omega)]; simp)
  have q2a : ((tw : Int) != nw) = true := by simp; omega
  clear hs hwt g2 g4
  go_enter Try.func28, Try.ntmps28
  go_wp2_with (with_reducible refine ⟨trivial, ?_⟩)
  go_ret
  exact ⟨ret_bool HD.out.symm, Ev.alloc (Ev.alloc (Ev.refl _) _) _⟩
 have q2a : ((tw : Int) != nw) = false := by simp; omega
 have hi1 := fun W => In_s t.st f.st.lo f.st.hi W
 cases hst : M.isIn t.st f.st.lo f.st.hi with
 | false =>
  have HD := hid (show M.listed f t = false by unfold M.listed; rw [show M.holds f.st t.st = M.isIn t.st f.st.lo f.st.hi from rfl, hst]; rfl)
  rw [hst] at hi1
  have HI1 := hid hi1
  clear hs hwt g2 g4 hi1 hst
  go_enter Try.func28, Try.ntmps28
  go_wp2_with (first | (go_at_call 54; with_reducible refine (HI1.out _).mono ?_; rintro e _ ⟨rfl, rfl⟩) | (with_reducible refine ⟨trivial, ?_⟩))
  go_ret
  exact ⟨ret_bool HD.out.symm, Ev.alloc (Ev.alloc (Ev.refl _) _) _⟩
 | true =>
  rw [hst] at hi1
  have HI1 := hid hi1
  have HLD := hid (show M.listed f t = M.inAll t.wet f.wet by unfold M.listed; rw [show M.holds f.st t.st = M.isIn t.st f.st.lo f.st.hi from rfl, hst, decide_eq_true (show t.wet.length = f.wet.length by omega)]; rfl)
  have HLN := hid (show tw = nw ∧ t.wet.length = tw ∧ t.wet.length = f.wet.length from ⟨q2, g4, by omega⟩)
  have HS := hid hs
  have HT := hid hwt
  clear hs hwt g2 g4 hi1 hst q2
  go_enter Try.func28, Try.ntmps28
  go_wp2_with (first | (go_at_call 54; with_reducible refine (HI1.out _).mono ?_; rintro e _ ⟨rfl, rfl⟩) | (with_reducible refine ⟨trivial, ?_⟩))
  generalize hW0 : World.alloc (World.alloc w _) _ = W0
  have hE0 : Ev w W0 := by rw [← hW0]; exact Ev.alloc (Ev.alloc (Ev.refl _) _) _
  have hal := alloc2 w (.cells #[.int .i64 f.last, .int .i64 f.size, .int .i64 f.cool, .int .i64 f.die, .int .i64 f.burn, .int .i64 f.st.lo, .int .i64 f.st.hi, .slice Aw nw cw, .slice At nt ct, .slice Ar nr cr] 28) (.cells #[.int .i64 t.st, .slice Tw tw twc] 30)
  rw [hW0] at hal
  have Q0 := hid hal.1
  have Q1 := hid hal.2.1
  clear hW0 hal
  go_loopw [5] (fun i wr => ∃ k : Nat, i = .int .i64 k ∧ k ≤ tw ∧ Ev W0 wr ∧ Hid (∀ (j : Nat) (x : Int) (r : M.Rg), j < k → t.wet[j]? = some x → f.wet[j]? = some r → M.holds r x = true)) (fun i _ => tw - (intOf i).toNat)
  case atStart => exact ⟨0, rfl, by omega, Ev.refl _, hid (fun j _ _ hj => absurd hj (by omega))⟩
  case round =>
   obtain ⟨k, rfl, hk, hB, HM⟩ := hrel
   obtain ⟨W1, hW1⟩ : ∃ x, x = wr := ⟨_, rfl⟩
   subst hW1
   obtain ⟨y0, y1, y2, y3, y4, y5, y6, y7, y8, y9⟩ := cells10 (hB.heap Q0.out)
   obtain ⟨c0, c1⟩ := cells2 (hB.heap Q1.out)
   have l0 := heap_lt (hB.heap Q0.out)
   have l1 := heap_lt (hB.heap Q1.out)
   have hzB := (hE0.trans hB).size
   by_cases hlt : k < tw
   ·
    obtain ⟨bx, ox, x, hA1, hbx, hx, _, e1⟩ := HT.out.int (hE0.trans hB) hlt
    have n1 : k < nw := by have := HLN.out; omega
    obtain ⟨br, or, r, hA2, hbr, hr, _, hcr⟩ := HS.out.w_.at_ (hE0.trans hB) n1
    have r0 := hcr 0 _ rfl
    have r1 := hcr 1 _ rfl
    simp only [Nat.add_zero] at r0
    have p1 := HT.out.cap
    have p2 := HS.out.w_.cap
    have lx : bx < W1.heap.size := by omega
    have lr : br < W1.heap.size := by omega
    have hi2 := fun W => In_c x r.lo r.hi W
    have HBAD := hid (fun h : M.holds r x = false => (HLD.out.trans (M.inAll_bad hx hr h)).symm)
    have HGOOD := hid (fun h : M.holds r x = true => show ∀ (j : Nat) (x' : Int) (r' : M.Rg), j < k + 1 → t.wet[j]? = some x' → f.wet[j]? = some r' → M.holds r' x' = true from fun j x' r' hj hx' hr' => by
     by_cases hjk : j < k
     ·
      exact HM.out j x' r' hjk hx' hr'
     ·
      obtain rfl : j = k := by omega
      rw [hx] at hx'; rw [hr] at hr'
      cases hx'; cases hr'
      exact h)
    subst hA1 hA2
    clear hx hr hcr
    have HSE : Hid (∀ w', Ev W1 w' → (∀ o, w'.cell? ⟨w.heap.size, o, none⟩ = W1.cell? ⟨w.heap.size, o, none⟩) ∧ (∀ o, w'.cell? ⟨w.heap.size + 1, o, none⟩ = W1.cell? ⟨w.heap.size + 1, o, none⟩) ∧ (∀ o, w'.cell? ⟨bx, o, none⟩ = W1.cell? ⟨bx, o, none⟩) ∧ (∀ o, w'.cell? ⟨br, o, none⟩ = W1.cell? ⟨br, o, none⟩)) := hid (fun w' h => ⟨fun o => h.cells.1 _ o l0, fun o => h.cells.1 _ o l1, fun o => h.cells.1 _ o lx, fun o => h.cells.1 _ o lr⟩)
    cases hb2 : M.isIn x r.lo r.hi with
    | false =>
     have HF := hid (HBAD.out hb2)
     rw [hb2] at hi2
     have HI2 := hid hi2
     clear hi2 hb2
     go_upto_region 6 with fail
     refine wp_region_held_drew (S := fun w' => (∀ o, w'.cell? ⟨w.heap.size, o, none⟩ = W1.cell? ⟨w.heap.size, o, none⟩) ∧ (∀ o, w'.cell? ⟨w.heap.size + 1, o, none⟩ = W1.cell? ⟨w.heap.size + 1, o, none⟩) ∧ (∀ o, w'.cell? ⟨bx, o, none⟩ = W1.cell? ⟨bx, o, none⟩) ∧ (∀ o, w'.cell? ⟨br, o, none⟩ = W1.cell? ⟨br, o, none⟩)) (by kernel_rfl) (⟨fun o => rfl, fun o => rfl, fun o => rfl, fun o => rfl⟩) (fun hHeld => ?_)
     refine tkH 0 (some 32) ?_
     (try simp only [Act.put, sA, sB, sC])
     refine tkH 1 (some 33) ?_
     (try simp only [Act.put, sA, sB, sC])
     refine tkH 2 (some 34) ?_
     (try simp only [Act.put, sA, sB, sC])
     refine tkH 3 (some 35) ?_
     (try simp only [Act.put, sA, sB, sC])
     refine tkH 4 (some 36) ?_
     (try simp only [Act.put, sA, sB, sC])
     refine tkH 5 (some 37) ?_
     (try simp only [Act.put, sA, sB, sC])
     refine tkH 6 (some 38) ?_
     (try simp only [Act.put, sA, sB, sC])
     refine tkH 7 (some 39) ?_
     (try simp only [Act.put, sA, sB, sC])
     refine tkH 8 (some 40) ?_
     (try simp only [Act.put, sA, sB, sC])
     refine tkH 9 (some 41) ?_
     (try simp only [Act.put, sA, sB, sC])
     refine tkH 10 (some 42) ?_
     (try simp only [Act.put, sA, sB, sC])
     refine tkH 11 (some 43) ?_
     (try simp only [Act.put, sA, sB, sC])
     refine tkH 12 (some 44) ?_
     (try simp only [Act.put, sA, sB, sC])
     refine tkH 13 (some 45) ?_
     (try simp only [Act.put, sA, sB, sC])
     refine tkH 14 (some 46) ?_
     (try simp only [Act.put, sA, sB, sC])
     refine tkH 15 (some 47) ?_
     (try simp only [Act.put, sA, sB, sC])
     refine tkH 16 (some 48) ?_
     (try simp only [Act.put, sA, sB, sC])
     refine wpAnyH_one (i := 17) rfl (by kernel_rfl) (by rfl) (fun K hK => ?_)
     go_simp
     refine (HI2.out _).mono ?_
     rintro e x1 ⟨rfl, hb⟩
     have hV1 : Ev W1 x1 := Ev.trans (Ev.drew (Ev.refl _)) hb
     refine hK.out _ _ (HSE.out _ hV1) (fun hHeld => ?_)
     clear hK K
     (try simp only [Act.put, List.setIfInBounds_toArray, List.set_cons_zero, List.set_cons_succ])
     refine tkH 18 (some 50) ?_
     (try simp only [Act.put, sA, sB, sC])
     refine wpAnyH_done (by kernel_rfl) ?_ _
     go_wp2
     go_ret
     exact ⟨ret_bool HF.out, hE0.trans (hB.trans hV1)⟩
    | true =>
     have HN := hid (HGOOD.out hb2)
     rw [hb2] at hi2
     have HI2 := hid hi2
     clear hi2 hb2
     go_upto_region 6 with fail
     refine wp_region_held_drew (S := fun w' => (∀ o, w'.cell? ⟨w.heap.size, o, none⟩ = W1.cell? ⟨w.heap.size, o, none⟩) ∧ (∀ o, w'.cell? ⟨w.heap.size + 1, o, none⟩ = W1.cell? ⟨w.heap.size + 1, o, none⟩) ∧ (∀ o, w'.cell? ⟨bx, o, none⟩ = W1.cell? ⟨bx, o, none⟩) ∧ (∀ o, w'.cell? ⟨br, o, none⟩ = W1.cell? ⟨br, o, none⟩)) (by kernel_rfl) (⟨fun o => rfl, fun o => rfl, fun o => rfl, fun o => rfl⟩) (fun hHeld => ?_)
     refine tkH 0 (some 32) ?_
     (try simp only [Act.put, sA, sB, sC])
     refine tkH 1 (some 33) ?_
     (try simp only [Act.put, sA, sB, sC])
     refine tkH 2 (some 34) ?_
     (try simp only [Act.put, sA, sB, sC])
     refine tkH 3 (some 35) ?_
     (try simp only [Act.put, sA, sB, sC])
     refine tkH 4 (some 36) ?_
     (try simp only [Act.put, sA, sB, sC])
     refine tkH 5 (some 37) ?_
     (try simp only [Act.put, sA, sB, sC])
     refine tkH 6 (some 38) ?_
     (try simp only [Act.put, sA, sB, sC])
     refine tkH 7 (some 39) ?_
     (try simp only [Act.put, sA, sB, sC])
     refine tkH 8 (some 40) ?_
     (try simp only [Act.put, sA, sB, sC])
     refine tkH 9 (some 41) ?_
     (try simp only [Act.put, sA, sB, sC])
     refine tkH 10 (some 42) ?_
     (try simp only [Act.put, sA, sB, sC])
     refine tkH 11 (some 43) ?_
     (try simp only [Act.put, sA, sB, sC])
     refine tkH 12 (some 44) ?_
     (try simp only [Act.put, sA, sB, sC])
     refine tkH 13 (some 45) ?_
     (try simp only [Act.put, sA, sB, sC])
     refine tkH 14 (some 46) ?_
     (try simp only [Act.put, sA, sB, sC])
     refine tkH 15 (some 47) ?_
     (try simp only [Act.put, sA, sB, sC])
     refine tkH 16 (some 48) ?_
     (try simp only [Act.put, sA, sB, sC])
     refine wpAnyH_one (i := 17) rfl (by kernel_rfl) (by rfl) (fun K hK => ?_)
     go_simp
     refine (HI2.out _).mono ?_
     rintro e x1 ⟨rfl, hb⟩
     have hV1 : Ev W1 x1 := Ev.trans (Ev.drew (Ev.refl _)) hb
     refine hK.out _ _ (HSE.out _ hV1) (fun hHeld => ?_)
     clear hK K
     (try simp only [Act.put, List.setIfInBounds_toArray, List.set_cons_zero, List.set_cons_succ])
     refine tkH 18 (some 50) ?_
     (try simp only [Act.put, sA, sB, sC])
     refine wpAnyH_done (by kernel_rfl) ?_ _
     go_wp2
     exact ⟨⟨k + 1, by go_num, by omega, hB.trans hV1, HN⟩, by simp [intOf]; omega⟩
   ·
    have HT2 := hid (show true = M.listed f t from (HLD.out.trans ((M.inAll_at _ _).2 ⟨HLN.out.2.2, fun j x r hx hr => HM.out j x r (by have := (List.getElem?_eq_some_iff.1 hx).1; have := HLN.out; omega) hx hr⟩)).symm)
    have hn : ¬ ((k : Int) < tw) := by omega
    go_wp2
    go_ret
    exact ⟨ret_bool HT2.out, hE0.trans hB⟩

end Go.Proofs.Ytgimcephbeajlaa
