import Derived.Test.YtgimcephbeajlaaGreatC8
set_option linter.unusedSimpArgs false
set_option linter.unusedVariables false
namespace Go.Proofs.YtgimcephbeajlaaGreat
open Go.RowKit Go.Shelf

set_option maxRecDepth 100000 in
set_option maxHeartbeats 1000000 in
theorem Has_c (A : Option Addr) (n c : Nat) (xs : List Int) (v : Int) (w : World) (hs : Sl ics 1 w w.heap.size A n c xs) :
  Calls Tryz.prog 63 #[.slice A n c, .int .i64 v] w fun e w' => e = .returned (.bool (decide (v ∈ xs))) ∧ Ev w w' := by
 have hsm := hs.small
 go_enter Tryz.func63, Tryz.ntmps63
 go_wp2
 go_loop [5] (fun i => ∃ k : Nat, i = .int .i64 k ∧ k ≤ n ∧ Hid (decide (v ∈ xs.drop k) = decide (v ∈ xs))) (fun i => n - (intOf i).toNat)
 case atStart => exact ⟨0, rfl, by omega, hid (by simp)⟩
 case round =>
  obtain ⟨k, rfl, hk, hp⟩ := hrel
  by_cases hlt : k < n
  ·
   obtain ⟨b, off, x, rfl, hb, hx, hd, e0⟩ := hs.int (Below.refl _ w) hlt
   have H := hid hd
   have hcap := hs.cap
   clear hd hx
   by_cases hvx : x = v
   ·
    have hB : (x == v) = true := by simpa using hvx
    have HV := hid (show true = decide (v ∈ x :: xs.drop (k + 1)) by rw [hvx]; simp)
    clear hvx
    go_wp2
    go_ret
    exact ⟨ret_bool (by rw [← hp.out, H.out]; exact HV.out), Ev.refl _⟩
   ·
    have hB : (x == v) = false := by simpa using hvx
    have HV := hid (show decide (v ∈ x :: xs.drop (k + 1)) = decide (v ∈ xs.drop (k + 1)) from decide_eq_decide.2 (by rw [List.mem_cons]; exact ⟨fun h => h.resolve_left (fun e => hvx e.symm), .inr⟩))
    clear hvx
    go_wp2
    go_round
    case rel => exact ⟨k + 1, by go_num, by omega, hid (by rw [← hp.out, H.out]; exact HV.out.symm)⟩
    case measure => simp [intOf]; omega
  ·
   have H := hid (hs.done hlt)
   go_wp2
   go_ret
   exact ⟨ret_bool (by rw [← hp.out, H.out]; simp), Ev.refl _⟩

/-- The heat behind k hours. -/
def M.heatN (f : M.Cf) (t : M.Tr) (turns : List Int) : Nat → Int
 | 0 => t.st
 | k + 1 => M.cool f (M.heatN f t turns k) (decide ((k : Int) ∈ turns)) + f.size * t.wet.getD k 0 / 10
theorem M.heatN_bd {f : M.Cf} (hv : M.valid f = true) {t : M.Tr} (h : M.listed f t = true) (turns : List Int) : ∀ k : Nat, k ≤ t.wet.length → 0 ≤ M.heatN f t turns k ∧ M.heatN f t turns k ≤ 500 + 40 * k
 | 0, _ => by have := (M.listed_bd hv h).1; unfold M.heatN; omega
 | k + 1, hk => by
  obtain ⟨s1, c1, _⟩ := M.valid_parts hv
  have ih := M.heatN_bd hv h turns k (by omega)
  have hx : 0 ≤ t.wet.getD k 0 ∧ t.wet.getD k 0 ≤ 20 := getD_bd (by omega) (by omega) (M.listed_bd hv h).2.2 k
  have h1 := M.rise_bd s1 hx
  have h2 := M.cool_bd c1 ih.1 (decide ((k : Int) ∈ turns))
  unfold M.heatN
  generalize f.size * t.wet.getD k 0 = q at h1
  generalize M.cool f (M.heatN f t turns k) (decide ((k : Int) ∈ turns)) = a at h2
  omega
theorem M.hK_at (f : M.Cf) (t : M.Tr) (turns : List Int) : ∀ (xs : List Int) (k : Nat) (m : Int), (∀ (j : Nat) (x : Int), xs[j]? = some x → t.wet.getD (k + j) 0 = x) → m = M.heatN f t turns k → ∀ i, i < xs.length → (M.hK f turns xs k m)[i]? = some (M.heatN f t turns (k + i + 1))
 | [], _, _, _, _, i, h => by simp at h
 | x :: xs, k, m, hx, hm, i, h => by
  have hy : M.cool f m (decide ((k : Int) ∈ turns)) + f.size * x / 10 = M.heatN f t turns (k + 1) := by
   have h0 := hx 0 x rfl
   rw [Nat.add_zero] at h0
   rw [M.heatN, h0, hm]
  rw [M.hK]
  cases i with
  | zero => rw [List.getElem?_cons_zero, hy]
  | succ i =>
   rw [List.getElem?_cons_succ, M.hK_at f t turns xs (k + 1) _ (fun j y hj => by rw [show k + 1 + j = k + (j + 1) by omega]; exact hx (j + 1) y (by rw [List.getElem?_cons_succ]; exact hj)) hy i (by simpa using h), show k + 1 + i + 1 = k + (i + 1) + 1 by omega]
theorem M.heats_at {f : M.Cf} {t : M.Tr} (turns : List Int) {i : Nat} (h : i < t.wet.length) : (M.heats f t turns)[i]? = some (M.heatN f t turns (i + 1)) := by
 unfold M.heats
 rw [List.getElem?_append_left (by rw [M.hK_len]; exact h), M.hK_at f t turns t.wet 0 t.st (fun j x hj => by rw [Nat.zero_add, List.getD_eq_getElem?_getD, hj]; rfl) rfl i h, Nat.zero_add]
theorem M.heats_getD {f : M.Cf} {t : M.Tr} (turns : List Int) {i : Nat} (h : i < t.wet.length) : (M.heats f t turns).getD i 0 = M.heatN f t turns (i + 1) := by
 rw [List.getD_eq_getElem?_getD, M.heats_at turns h]; rfl

set_option maxRecDepth 100000 in
set_option maxHeartbeats 4000000 in
theorem Heat_c (f : M.Cf) (Aw At Ar : Option Addr) (nw cw nt ct nr cr : Nat) (Tw : Option Addr) (tw twc : Nat) (t : M.Tr) (P : Option Addr) (pn pc : Nat) (plan : List Int) (hv : M.valid f = true) (hl9 : f.last ≤ 9) (hls : M.listed f t = true) : ∀ (k : Nat) (h : Int), h + 1 = k → k ≤ tw → ∀ (w : World), CS w w.heap.size f Aw At Ar nw cw nt ct nr cr → Sl ics 1 w w.heap.size Tw tw twc t.wet → Sl ics 1 w w.heap.size P pn pc plan →
  Calls Tryz.prog 44 #[.agg #[.int .i64 f.last, .int .i64 f.size, .int .i64 f.cool, .int .i64 f.die, .int .i64 f.burn, .int .i64 f.st.lo, .int .i64 f.st.hi, .slice Aw nw cw, .slice At nt ct, .slice Ar nr cr], .agg #[.int .i64 t.st, .slice Tw tw twc], .slice P pn pc, .int .i64 h] w fun e w' => e = .returned (.int .i64 (M.heatN f t plan k)) ∧ Ev w w' := by
 intro k
 induction k with
 | zero =>
  intro h hh hk w hs hwt hp
  have hlt : h < 0 := by omega
  clear hs hwt hp hh hk
  go_enter Tryz.func44, Tryz.ntmps44
  go_wp2
  go_ret
  exact ⟨rfl, Ev.alloc (Ev.alloc (Ev.refl _) _) _⟩
 | succ k ih =>
  intro h hh hk w hs hwt hp
  obtain rfl : h = (k : Int) := by omega
  obtain ⟨s1, c1', _⟩ := M.valid_parts hv
  obtain ⟨_, _, b3⟩ := M.listed_bd hv hls
  have hbd := M.heatN_bd hv hls plan k (by have := hwt.len; omega)
  have htw : tw ≤ 10 := by
   have h1 := (M.listed_bd hv hls).2.1
   have h2 := (M.valid_parts hv).2.2.2.2.2.1
   have := hwt.len
   omega
  have HIH := hid (fun W (hE : Ev w W) => ih ((k : Int) - 1) (by omega) (by omega) W (hs.ev hE) (hwt.ev hE) (hp.ev hE))
  have HHC := hid (fun W (hE : Ev w W) => Has_c P pn pc plan (k : Int) W (hp.ev hE))
  obtain ⟨bw, ow, y, rfl, hbw, hyx, _, e0⟩ := hwt.int (Below.refl _ _) (show k < tw by omega)
  have hyb := b3 y (List.mem_of_getElem? hyx)
  have hcap := hwt.cap
  have HE0 := hid e0
  have hv2 : M.heatN f t plan (k + 1) = M.cool f (M.heatN f t plan k) (decide ((k : Int) ∈ plan)) + f.size * y / 10 := by rw [M.heatN, List.getD_eq_getElem?_getD, hyx]; rfl
  generalize M.heatN f t plan (k + 1) = res at hv2 ⊢
  generalize M.heatN f t plan k = m at HIH hv2 hbd
  obtain ⟨bb, hbb⟩ : ∃ bb, decide ((k : Int) ∈ plan) = bb := ⟨_, rfl⟩
  rw [hbb] at HHC hv2
  have hrb := M.rise_bd s1 hyb
  obtain ⟨q, hq⟩ : ∃ q : Int, f.size * y = q := ⟨_, rfl⟩
  rw [hq] at hrb hv2
  have r1 : q.tdiv 10 = q / 10 := Int.tdiv_eq_ediv_of_nonneg hrb.1
  have r2 : IntKind.i64.wrap q = q := IntWalk.i64_in _ (by omega)
  obtain ⟨d, hd⟩ : ∃ d : Int, q / 10 = d := ⟨_, rfl⟩
  rw [hd] at hv2
  have r3 : IntKind.i64.wrap d = d := IntWalk.i64_in _ (by omega)
  have hdb : 0 ≤ d ∧ d ≤ 40 := by omega
  have hn : ¬ ((k : Int) < 0) := by omega
  have k0 : (0 : Int) ≤ k := by omega
  have kt : (k : Int) < tw := by omega
  have g1 : IntKind.i64.wrap ((k : Int) - 1) = (k : Int) - 1 := IntWalk.i64_in _ (by omega)
  have hm1 : 0 ≤ m * f.cool := Int.mul_nonneg hbd.1 c1'.1
  have hm2 : m * f.cool ≤ m * 100 := Int.mul_le_mul_of_nonneg_left c1'.2 hbd.1
  clear ih hs hwt hp hh hyx e0 hls hv s1 c1' b3 hbb
  cases bb with
  | true =>
   unfold M.cool at hv2
   rw [if_pos rfl] at hv2
   obtain ⟨q1, hq1⟩ : ∃ q1 : Int, m * f.cool = q1 := ⟨_, rfl⟩
   rw [hq1] at hv2 hm1 hm2
   have r4 : IntKind.i64.wrap q1 = q1 := IntWalk.i64_in _ (by omega)
   have r5 : q1.tdiv 100 = q1 / 100 := Int.tdiv_eq_ediv_of_nonneg hm1
   obtain ⟨d1, hd1⟩ : ∃ d1 : Int, q1 / 100 = d1 := ⟨_, rfl⟩
   rw [hd1] at hv2
   have r6 : IntKind.i64.wrap d1 = d1 := IntWalk.i64_in _ (by omega)
   have r7 : IntKind.i64.wrap (m - d1) = m - d1 := IntWalk.i64_in _ (by omega)
   have r8 : IntKind.i64.wrap (m - d1 + d) = m - d1 + d := IntWalk.i64_in _ (by omega)
   have HV := hid hv2.symm
   clear hv2
   go_enter Tryz.func44, Tryz.ntmps44
   go_upto_region 3 with fail
   generalize hW0 : World.alloc (World.alloc w _) _ = W0
   have hE0 : Ev w W0 := by rw [← hW0]; exact Ev.alloc (Ev.alloc (Ev.refl _) _) _
   have hal := alloc2 w (.cells #[.int .i64 f.last, .int .i64 f.size, .int .i64 f.cool, .int .i64 f.die, .int .i64 f.burn, .int .i64 f.st.lo, .int .i64 f.st.hi, .slice Aw nw cw, .slice At nt ct, .slice Ar nr cr] 28) (.cells #[.int .i64 t.st, .slice (some ⟨bw, ow, none⟩) tw twc] 55)
   rw [hW0] at hal
   have Q0 := hid hal.1
   have Q1 := hid hal.2.1
   clear hal hW0
   obtain ⟨y0, y1, y2, y3, y4, y5, y6, y7, y8, y9⟩ := cells10 Q0.out
   obtain ⟨c0, c1⟩ := cells2 Q1.out
   go_upto_region 4 with (go_at_call 44; with_reducible refine (HIH.out _ hE0).mono ?_; rintro e w1 ⟨rfl, hb1⟩)
   clear y0 y1 y2 y3 y4 y5 y6 y7 y8 y9 c0 c1
   go_upto_region 6 with (go_at_call 63; with_reducible refine (HHC.out _ (hE0.trans hb1)).mono ?_; rintro e w2 ⟨rfl, hb2⟩; have hE2 : Ev w w2 := (hE0.trans hb1).trans hb2; obtain ⟨y0, y1, y2, y3, y4, y5, y6, y7, y8, y9⟩ := cells10 (hb2.heap (hb1.heap Q0.out)); obtain ⟨c0, c1⟩ := cells2 (hb2.heap (hb1.heap Q1.out)))
   have e1 : w2.cell? ⟨bw, ow + k, none⟩ = some (.int .i64 y) := (hE2.cells.1 bw _ hbw).trans HE0.out
   go_wp2_with (go_quiet (fail))
   go_ret
   exact ⟨ret_int HV.out, (hE2).drewN _⟩
  | false =>
   unfold M.cool at hv2
   rw [if_neg (by decide)] at hv2
   have r8 : IntKind.i64.wrap (m + d) = m + d := IntWalk.i64_in _ (by omega)
   have HV := hid hv2.symm
   clear hv2 hm1 hm2
   go_enter Tryz.func44, Tryz.ntmps44
   go_upto_region 3 with fail
   generalize hW0 : World.alloc (World.alloc w _) _ = W0
   have hE0 : Ev w W0 := by rw [← hW0]; exact Ev.alloc (Ev.alloc (Ev.refl _) _) _
   have hal := alloc2 w (.cells #[.int .i64 f.last, .int .i64 f.size, .int .i64 f.cool, .int .i64 f.die, .int .i64 f.burn, .int .i64 f.st.lo, .int .i64 f.st.hi, .slice Aw nw cw, .slice At nt ct, .slice Ar nr cr] 28) (.cells #[.int .i64 t.st, .slice (some ⟨bw, ow, none⟩) tw twc] 55)
   rw [hW0] at hal
   have Q0 := hid hal.1
   have Q1 := hid hal.2.1
   clear hal hW0
   obtain ⟨y0, y1, y2, y3, y4, y5, y6, y7, y8, y9⟩ := cells10 Q0.out
   obtain ⟨c0, c1⟩ := cells2 Q1.out
   go_upto_region 4 with (go_at_call 44; with_reducible refine (HIH.out _ hE0).mono ?_; rintro e w1 ⟨rfl, hb1⟩)
   clear y0 y1 y2 y3 y4 y5 y6 y7 y8 y9 c0 c1
   go_upto_region 6 with (go_at_call 63; with_reducible refine (HHC.out _ (hE0.trans hb1)).mono ?_; rintro e w2 ⟨rfl, hb2⟩; have hE2 : Ev w w2 := (hE0.trans hb1).trans hb2; obtain ⟨y0, y1, y2, y3, y4, y5, y6, y7, y8, y9⟩ := cells10 (hb2.heap (hb1.heap Q0.out)); obtain ⟨c0, c1⟩ := cells2 (hb2.heap (hb1.heap Q1.out)))
   have e1 : w2.cell? ⟨bw, ow + k, none⟩ = some (.int .i64 y) := (hE2.cells.1 bw _ hbw).trans HE0.out
   go_wp2_with (go_quiet (fail))
   go_ret
   exact ⟨ret_int HV.out, (hE2).drewN _⟩

theorem M.inAll_at : ∀ (ns : List Int) (rs : List M.Rg), M.inAll ns rs = true ↔ ns.length = rs.length ∧ ∀ (j : Nat) (n : Int) (r : M.Rg), ns[j]? = some n → rs[j]? = some r → M.holds r n = true
 | [], [] => by simp [M.inAll]
 | [], _ :: _ => by simp [M.inAll]
 | _ :: _, [] => by simp [M.inAll]
 | x :: xs, r :: rs => by
  rw [M.inAll, Bool.and_eq_true, M.inAll_at xs rs]
  constructor
  ·
   rintro ⟨h1, h2, h3⟩
   refine ⟨by simp [h2], fun j n q hn hq => ?_⟩
   cases j with
   | zero => simp at hn hq; subst hn hq; exact h1
   | succ j => exact h3 j n q (by simpa using hn) (by simpa using hq)
  ·
   rintro ⟨h1, h2⟩
   exact ⟨h2 0 x r rfl rfl, by simpa using h1, fun j n q hn hq => h2 (j + 1) n q (by simpa using hn) (by simpa using hq)⟩
theorem M.inAll_bad {ns : List Int} {rs : List M.Rg} {k : Nat} {x : Int} {r : M.Rg} (hx : ns[k]? = some x) (hr : rs[k]? = some r) (h : M.holds r x = false) : M.inAll ns rs = false := by
 cases hh : M.inAll ns rs with
 | false => rfl
 | true => rw [((M.inAll_at ns rs).1 hh).2 k x r hx hr] at h; cases h


end Go.Proofs.YtgimcephbeajlaaGreat
