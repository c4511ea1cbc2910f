import Derived.Test.YtffbkbcjddigdaaGreatA76
import Derived.Test.YtffbkbcjddigdaaGreatA66
import Derived.Test.YtffbkbcjddigdaaGreatA62
import Derived.Test.YtffbkbcjddigdaaGreatA54
import Derived.Test.YtffbkbcjddigdaaGreatA48
import Derived.Test.YtffbkbcjddigdaaGreatA49
import Derived.Deep.DeepCutAuto
set_option linter.unusedSimpArgs false
set_option linter.unusedVariables false
namespace Go.Proofs.YtffbkbcjddigdaaGreat
open Go.RowKit Go.Shelf

/-- Bits are set where a list of truth values says so. -/
def M.orL : List Bool → Nat → Nat → Nat
 | [], _, acc => acc
 | e :: r, j, acc => M.orL r (j + 1) (if e then acc ||| 2 ^ j else acc)
theorem M.orL_test : ∀ (l : List Bool) (k acc q : Nat), (M.orL l k acc).testBit q = true ↔ (acc.testBit q = true ∨ (k ≤ q ∧ l[q - k]? = some true))
 | [], k, acc, q => by simp [M.orL]
 | x :: r, k, acc, q => by
  rw [M.orL, M.orL_test r (k + 1) _ q]
  have h1 : ((if x then acc ||| 2 ^ k else acc).testBit q = true) ↔ (acc.testBit q = true ∨ (k = q ∧ x = true)) := by
   cases x with
   | false => simp
   | true => simp [Nat.testBit_or, Nat.testBit_two_pow]
  rw [h1]
  constructor
  ·
   rintro ((h | ⟨rfl, h⟩) | ⟨h2, h3⟩)
   ·
    exact .inl h
   ·
    exact .inr ⟨Nat.le_refl _, by simp [h]⟩
   ·
    exact .inr ⟨by omega, by rw [show q - k = (q - (k + 1)) + 1 by omega, List.getElem?_cons_succ]; exact h3⟩
  ·
   rintro (h | ⟨h2, h3⟩)
   ·
    exact .inl (.inl h)
   ·
    rcases Nat.eq_or_lt_of_le h2 with rfl | h5
    ·
     rw [Nat.sub_self] at h3
     exact .inl (.inr ⟨rfl, by simpa using h3⟩)
    ·
     refine .inr ⟨by omega, ?_⟩
     rw [show q - k = (q - (k + 1)) + 1 by omega, List.getElem?_cons_succ] at h3
     exact h3
def M.metL (es : M.Tr → List Bool) : List M.Tr → Nat → Nat
 | [], acc => acc
 | t :: r, acc => M.metL es r (M.orL (es t) 0 acc)
theorem M.metL_test (es : M.Tr → List Bool) : ∀ (l : List M.Tr) (acc q : Nat), (M.metL es l acc).testBit q = true ↔ (acc.testBit q = true ∨ ∃ t ∈ l, (es t)[q]? = some true)
 | [], acc, q => by simp [M.metL]
 | t :: r, acc, q => by
  rw [M.metL, M.metL_test es r _ q, M.orL_test]
  simp only [Nat.zero_le, Nat.sub_zero, true_and, List.mem_cons, exists_eq_or_imp, or_assoc]
/-- All four ends are met. -/
theorem M.met_15 {es : M.Tr → List Bool} {l : List M.Tr} (h4 : ∀ t, (es t).length = 4) (h : ∀ q, q < 4 → ∃ t ∈ l, (es t)[q]? = some true) : M.metL es l 0 = 15 := by
 apply Nat.eq_of_testBit_eq
 intro q
 rw [show (15 : Nat) = 2 ^ 4 - 1 from rfl, Nat.testBit_two_pow_sub_one]
 by_cases hq : q < 4
 ·
  rw [decide_eq_true hq]
  exact (M.metL_test es l 0 q).2 (.inr (h q hq))
 ·
  rw [decide_eq_false hq]
  cases hb : (M.metL es l 0).testBit q with
  | false => rfl
  | true =>
   rcases (M.metL_test es l 0 q).1 hb with h1 | ⟨t, _, h1⟩
   ·
    simp at h1
   ·
    rw [List.getElem?_eq_none (by rw [h4]; omega)] at h1
    cases h1
def M.es0 (f : M.Cf) (plan : List Int) (t : M.Tr) : List Bool := [M.total f t plan == (M.worth f plan).lo, M.total f t plan == (M.worth f plan).hi, true, true]
def M.es1 (f : M.Cf) (plan : List Int) (m : Nat) (x : M.Bd) (t : M.Tr) : List Bool := [M.total f t plan == (M.worth f plan).lo, M.total f t plan == (M.worth f plan).hi, (M.crop f t plan m).wt == x.wt.lo, (M.crop f t plan m).wt == x.wt.hi]
theorem M.ends_worth {f : M.Cf} (h0 : M.check f = 0) (hn : M.truths f ≠ []) (plan : List Int) : (∃ t ∈ M.rtr f, M.total f t plan = (M.worth f plan).lo) ∧ ∃ t ∈ M.rtr f, M.total f t plan = (M.worth f plan).hi := by
 obtain ⟨h1, h2⟩ := M.span_two (l := (M.truths f).map fun t => M.total f t plan) (by simpa using hn)
 obtain ⟨t, a1, a2⟩ := List.mem_map.1 h1
 obtain ⟨u, b1, b2⟩ := List.mem_map.1 h2
 exact ⟨⟨t, (M.rtr_mem h0).2 a1, a2⟩, ⟨u, (M.rtr_mem h0).2 b1, b2⟩⟩
theorem M.ends_crop {f : M.Cf} (h0 : M.check f = 0) (hn : M.truths f ≠ []) {plan : List Int} {m : Nat} {x : M.Bd} (hx : (M.bounds f (M.truths f) plan)[m]? = some x) : (∃ t ∈ M.rtr f, (M.crop f t plan m).wt = x.wt.lo) ∧ ∃ t ∈ M.rtr f, (M.crop f t plan m).wt = x.wt.hi := by
 have hk : m < plan.length := by
  have h := (List.getElem?_eq_some_iff.1 hx).1
  simpa [M.bounds] using h
 unfold M.bounds at hx
 rw [List.getElem?_map, List.getElem?_range hk, Option.map_some] at hx
 obtain rfl := Option.some.inj hx
 have hgd : ∀ t, (M.play f t plan).getD m ⟨0, 0, 0⟩ = M.crop f t plan m := fun t => by rw [List.getD_eq_getElem?_getD, M.play_at hk]; rfl
 obtain ⟨h1, h2⟩ := M.span_two (l := ((M.truths f).map fun t => M.play f t plan).map fun c => (c.getD m ⟨0, 0, 0⟩).wt) (by simpa using hn)
 obtain ⟨c1, a1, a2⟩ := List.mem_map.1 h1
 obtain ⟨t, a3, rfl⟩ := List.mem_map.1 a1
 obtain ⟨c2, b1, b2⟩ := List.mem_map.1 h2
 obtain ⟨u, b3, rfl⟩ := List.mem_map.1 b1
 rw [hgd] at a2 b2
 exact ⟨⟨t, (M.rtr_mem h0).2 a3, a2⟩, ⟨u, (M.rtr_mem h0).2 b3, b2⟩⟩
theorem M.met_es0 {f : M.Cf} (h0 : M.check f = 0) (hn : M.truths f ≠ []) (plan : List Int) : M.metL (M.es0 f plan) (M.rtr f) 0 = 15 := by
 obtain ⟨⟨t, a1, a2⟩, ⟨u, b1, b2⟩⟩ := M.ends_worth h0 hn plan
 refine M.met_15 (fun _ => rfl) (fun q hq => ?_)
 have : q = 0 ∨ q = 1 ∨ q = 2 ∨ q = 3 := by omega
 rcases this with rfl | rfl | rfl | rfl
 ·
  exact ⟨t, a1, by simp [M.es0, a2]⟩
 ·
  exact ⟨u, b1, by simp [M.es0, b2]⟩
 ·
  exact ⟨t, a1, rfl⟩
 ·
  exact ⟨t, a1, rfl⟩
theorem M.met_es1 {f : M.Cf} (h0 : M.check f = 0) (hn : M.truths f ≠ []) {plan : List Int} {m : Nat} {x : M.Bd} (hx : (M.bounds f (M.truths f) plan)[m]? = some x) : M.metL (M.es1 f plan m x) (M.rtr f) 0 = 15 := by
 obtain ⟨⟨t, a1, a2⟩, ⟨u, b1, b2⟩⟩ := M.ends_worth h0 hn plan
 obtain ⟨⟨t', c1, c2⟩, ⟨u', d1, d2⟩⟩ := M.ends_crop h0 hn hx
 refine M.met_15 (fun _ => rfl) (fun q hq => ?_)
 have : q = 0 ∨ q = 1 ∨ q = 2 ∨ q = 3 := by omega
 rcases this with rfl | rfl | rfl | rfl
 ·
  exact ⟨t, a1, by simp [M.es1, a2]⟩
 ·
  exact ⟨u, b1, by simp [M.es1, b2]⟩
 ·
  exact ⟨t', c1, by simp [M.es1, c2]⟩
 ·
  exact ⟨u', d1, by simp [M.es1, d2]⟩
set_option maxRecDepth 100000 in
theorem fieldWt (a b c : Int) (W : World) : (Instr.field 86 (.agg #[.int .i64 a, .int .i64 b, .int .i64 c]) 0).run Tryz.prog W = .ok (.int .i64 a) W := by
 first
  | rfl
  | simp [Instr.field, run_underlying Tryz.underlying86, part, cellsIn, typeInfo, Result.andThen]

set_option maxRecDepth 100000 in
set_option maxHeartbeats 2000000 in
theorem cropEnds_no (f : M.Cf) (Ag Aw Ab Ac Al : Option Addr) (ng cg nw cw nb cb nc cc nl cl : Nat) (hl0 : -9223372036854775808 ≤ f.last) (b : Int) (b0 : 0 ≤ b) (b1 : b < 65536) (w : World) (hs : M.small ng nw nb nc nl → CS w w.heap.size f Ag Aw Ab Ac Al ng cg nw cw nb cb nc cc nl cl) (hno : M.rdy f ng nw nb nc nl = false) :
  Calls Tryz.prog 8 #[.agg #[.int .i64 f.last, .slice Ag ng cg, .slice Aw nw cw, .slice Ab nb cb, .slice Ac nc cc, .int .i64 f.ripe, .int .i64 f.late, .int .i64 f.trod, .slice Al nl cl], .int .u16 b] w fun e w' => e = .returned (.bool true) ∧ Ev w w' := by
 have HRD := hid (fun W (hE : Ev w W) => by have := ready_c f Ag Aw Ab Ac Al ng cg nw cw nb cb nc cc nl cl hl0 W (fun h => (hs h).ev hE); rw [hno] at this; exact this)
 clear hs hno
 go_enter Tryz.func8, Tryz.ntmps8
 go_wp2_with (first | (go_at_call 37; with_reducible refine (HRD.out _ (Ev.alloc (Ev.refl _) _)).mono ?_; rintro e w1 ⟨rfl, hb1⟩; have hG : Ev w w1 := (Ev.alloc (Ev.refl _) _).trans hb1; have Q0 := hid (hb1.heap (alloc1 w (.cells #[.int .i64 f.last, .slice Ag ng cg, .slice Aw nw cw, .slice Ab nb cb, .slice Ac nc cc, .int .i64 f.ripe, .int .i64 f.late, .int .i64 f.trod, .slice Al nl cl] 26)).1); obtain ⟨y0, y1, y2, y3, y4, y5, y6, y7, y8⟩ := cells9 Q0.out) | (go_at_call 11; with_reducible refine (awake_c _).mono ?_; rintro e w99 ⟨rfl, hb99⟩))
 go_ret
 exact ⟨rfl, hG.trans hb99⟩

set_option maxRecDepth 100000 in
set_option maxHeartbeats 8000000 in
theorem cropEnds_none (f : M.Cf) (Ag Aw Ab Ac Al : Option Addr) (ng cg nw cw nb cb nc cc nl cl : Nat) (hl0 : -9223372036854775808 ≤ f.last) (b : Int) (b0 : 0 ≤ b) (b1 : b < 65536) (w : World) (HCS : Hid (CS w w.heap.size f Ag Aw Ab Ac Al ng cg nw cw nb cb nc cc nl cl)) (hr : M.rdy f ng nw nb nc nl = true) (hsm : M.small ng nw nb nc nl) (h0 : M.check f = 0) (ht : M.truths f = []) :
  Calls Tryz.prog 8 #[.agg #[.int .i64 f.last, .slice Ag ng cg, .slice Aw nw cw, .slice Ab nb cb, .slice Ac nc cc, .int .i64 f.ripe, .int .i64 f.late, .int .i64 f.trod, .slice Al nl cl], .int .u16 b] w fun e w' => e = .returned (.bool true) ∧ Ev w w' := by
 obtain ⟨s0, s1, s2, s3, s4⟩ := hsm
 have HRD := hid (fun W (hE : Ev w W) => by have := ready_c f Ag Aw Ab Ac Al ng cg nw cw nb cb nc cc nl cl hl0 W (fun _ => HCS.out.ev hE); rw [hr] at this; exact this)
 have HTR := hid (fun W (hE : Ev w W) => Truths_c f Ag Aw Ab Ac Al ng cg nw cw nb cb nc cc nl cl h0 W (HCS.out.ev hE))
 have hv := (M.check_ok h0).1
 have hl9 := (M.check0 h0).1
 have hb3 := (M.check0 h0).2.1
 have hbl := HCS.out.b.len
 have HPN := hid (fun W => planned_c f Ag Aw Ab Ac Al ng cg nw cw nb cb nc cc nl cl hv hl9 b b0 b1 W hbl (by omega))
 have HBG := hid (fun p (hp : M.isPlan f p = true) => show M.begin f (M.isPlan f p) = 11 from by unfold M.begin; rw [if_neg (by simp [h0]), hp, if_neg (by simp), if_pos ht])
 have HLN := hid (show (M.rtr f).length = 0 by rw [(M.rtr_nil h0).2 ht]; rfl)
 clear hr
 go_enter Tryz.func8, Tryz.ntmps8
 go_upto_region 4 with (first | (go_at_call 37; with_reducible refine (HRD.out _ (Ev.alloc (Ev.refl _) _)).mono ?_; rintro e w1 ⟨rfl, hb1⟩; have hG : Ev w w1 := (Ev.alloc (Ev.refl _) _).trans hb1; have Q0 := hid (hb1.heap (alloc1 w (.cells #[.int .i64 f.last, .slice Ag ng cg, .slice Aw nw cw, .slice Ab nb cb, .slice Ac nc cc, .int .i64 f.ripe, .int .i64 f.late, .int .i64 f.trod, .slice Al nl cl] 26)).1); obtain ⟨y0, y1, y2, y3, y4, y5, y6, y7, y8⟩ := cells9 Q0.out) | (go_at_call 38; with_reducible refine (HPN.out _).mono ?_; rintro e x2 ⟨⟨plan, hpl, PB, PD, rfl, hsl⟩, hb⟩; have HE2 := hid (hG.trans hb); have HV2 := hid hb; have HSP := hid hsl; have HP2 := hid (Ev.refl x2); clear hsl hb; clear y0 y1 y2 y3 y4 y5 y6 y7 y8; obtain ⟨y0, y1, y2, y3, y4, y5, y6, y7, y8⟩ := cells9 (HV2.out.heap Q0.out)))
 have hpl3 : plan.length ≤ 3 := by have := (M.plan_parts hpl).1; omega
 generalize hpn : plan.length = pn at HSP hpl3 ⊢
 have HBO := hid (fun (Bg : Option Addr) (dg : Nat) (Bw : Option Addr) (dw : Nat) (Bb : Option Addr) (db : Nat) (Bc : Option Addr) (dc : Nat) (Bl : Option Addr) (dl : Nat) (L : Option Addr) (d : Nat) W (h : CS W W.heap.size f Bg Bw Bb Bc Bl ng dg nw dw nb db nc dc nl dl) (hp : Sl ics 1 W W.heap.size L pn d plan) => by have := Bounds_err f Bg Bw Bb Bc Bl ng dg nw dw nb db nc dc nl dl L pn d plan hl0 W h hp (by rw [HBG.out plan hpl]; decide); rw [HBG.out plan hpl] at this; exact this)
 have HWO := hid (fun (Bg : Option Addr) (dg : Nat) (Bw : Option Addr) (dw : Nat) (Bb : Option Addr) (db : Nat) (Bc : Option Addr) (dc : Nat) (Bl : Option Addr) (dl : Nat) (L : Option Addr) (d : Nat) W (h : CS W W.heap.size f Bg Bw Bb Bc Bl ng dg nw dw nb db nc dc nl dl) (hp : Sl ics 1 W W.heap.size L pn d plan) => by have := Worth_err f Bg Bw Bb Bc Bl ng dg nw dw nb db nc dc nl dl L pn d plan hl0 W h hp (by rw [HBG.out plan hpl]; decide); rw [HBG.out plan hpl] at this; exact this)
 clear ht h0 HBG
 go_upto_region 5 with (first | (go_at_call 13; with_reducible refine (Field_c f Ag Aw Ab Ac Al ng cg nw cw nb cb nc cc nl cl (by omega) (by omega) (by omega) (by omega) (by omega) _ (HCS.out.ev HE2.out)).mono ?_; rintro e x3 ⟨⟨Bg3, dg3, Bw3, dw3, Bb3, db3, Bc3, dc3, Bl3, dl3, rfl, hc⟩, hb⟩; have HE3 := hid (HE2.out.trans hb); have HV3 := hid (HV2.out.trans hb); have HP3 := hid (HP2.out.trans hb); have HC3 := hid hc; clear hc hb) | (go_at_call 14; with_reducible refine (list_c PB pn PD plan (by omega) _ (HSP.out.ev HP3.out)).mono ?_; rintro e x4 ⟨⟨L4, dL4, rfl, ho⟩, hb⟩; have HE4 := hid (HE3.out.trans hb); have HV4 := hid (HV3.out.trans hb); have HP4 := hid (HP3.out.trans hb); have HO4 := hid (sl_own (enc := ics) (by decide) (ics_len _) (by omega) ho); have HC4 := hid (HC3.out.ev hb); clear ho hb) | (go_at_call 12; with_reducible refine (HBO.out Bg3 dg3 Bw3 dw3 Bb3 db3 Bc3 dc3 Bl3 dl3 L4 dL4 _ HC4.out HO4.out).mono ?_; rintro e x5 ⟨rfl, hb⟩; have HE5 := hid (HE4.out.trans hb); have HV5 := hid (HV4.out.trans hb); have HP5 := hid (HP4.out.trans hb); clear hb; clear y0 y1 y2 y3 y4 y5 y6 y7 y8; obtain ⟨y0, y1, y2, y3, y4, y5, y6, y7, y8⟩ := cells9 (HV5.out.heap Q0.out)))
 go_upto_region 6 with (first | (go_at_call 13; with_reducible refine (Field_c f Ag Aw Ab Ac Al ng cg nw cw nb cb nc cc nl cl (by omega) (by omega) (by omega) (by omega) (by omega) _ (HCS.out.ev HE5.out)).mono ?_; rintro e x6 ⟨⟨Bg6, dg6, Bw6, dw6, Bb6, db6, Bc6, dc6, Bl6, dl6, rfl, hc⟩, hb⟩; have HE6 := hid (HE5.out.trans hb); have HV6 := hid (HV5.out.trans hb); have HP6 := hid (HP5.out.trans hb); have HC6 := hid hc; clear hc hb) | (go_at_call 14; with_reducible refine (list_c PB pn PD plan (by omega) _ (HSP.out.ev HP6.out)).mono ?_; rintro e x7 ⟨⟨L7, dL7, rfl, ho⟩, hb⟩; have HE7 := hid (HE6.out.trans hb); have HV7 := hid (HV6.out.trans hb); have HP7 := hid (HP6.out.trans hb); have HO7 := hid (sl_own (enc := ics) (by decide) (ics_len _) (by omega) ho); have HC7 := hid (HC6.out.ev hb); clear ho hb) | (go_at_call 15; with_reducible refine (HWO.out Bg6 dg6 Bw6 dw6 Bb6 db6 Bc6 dc6 Bl6 dl6 L7 dL7 _ HC7.out HO7.out).mono ?_; rintro e x8 ⟨rfl, hb⟩; have HE8 := hid (HE7.out.trans hb); have HV8 := hid (HV7.out.trans hb); have HP8 := hid (HP7.out.trans hb); clear hb; clear y0 y1 y2 y3 y4 y5 y6 y7 y8; obtain ⟨y0, y1, y2, y3, y4, y5, y6, y7, y8⟩ := cells9 (HV8.out.heap Q0.out)))
 generalize hWA : World.alloc x8 _ = WA
 have hEA : Ev x8 WA := by rw [← hWA]; exact Ev.alloc (Ev.refl _) _
 have hal := alloc1 x8 (.cells #[.int .i64 0, .int .i64 0] 40)
 rw [hWA] at hal
 have HR := hid hal.1
 have HE9 := hid (HE8.out.trans hEA)
 have HV9 := hid (HV8.out.trans hEA)
 have HP9 := hid (HP8.out.trans hEA)
 have HA9 := hid (Ev.refl WA)
 clear hal hWA hEA HC3 HC4 HC6 HC7 HO4 HO7 HBO HWO y0 y1 y2 y3 y4 y5 y6 y7 y8
 generalize x8.heap.size = r at HR
 obtain ⟨y0, y1, y2, y3, y4, y5, y6, y7, y8⟩ := cells9 (HV9.out.heap Q0.out)
 obtain ⟨z0, z1⟩ := cells2 HR.out
 go_upto_region 7 with (go_at_call 39; with_reducible refine (HTR.out _ HE9.out).mono ?_; rintro e x10 ⟨⟨LB, lm, ld, rfl, hm, htl⟩, hb⟩; have HE10 := hid (HE9.out.trans hb); have HV10 := hid (HV9.out.trans hb); have HP10 := hid (HP9.out.trans hb); have HA10 := hid (HA9.out.trans hb); have HTL := hid htl; clear htl; clear hb; clear y0 y1 y2 y3 y4 y5 y6 y7 y8; obtain ⟨y0, y1, y2, y3, y4, y5, y6, y7, y8⟩ := cells9 (HV10.out.heap Q0.out); clear z0 z1; obtain ⟨z0, z1⟩ := cells2 (HA10.out.heap HR.out))
 have hlm := HTL.out.len
 rw [HLN.out] at hlm
 subst hlm
 go_wp2_with (first | (go_at_call 11; with_reducible refine (awake_c _).mono ?_; rintro e w99 ⟨rfl, hb99⟩) | (with_reducible refine ⟨trivial, ?_⟩))
 go_ret
 exact ⟨rfl, HE10.out.trans hb99⟩

set_option maxRecDepth 1000000 in
set_option maxHeartbeats 16000000 in
theorem cropEnds_yes (f : M.Cf) (Ag Aw Ab Ac Al : Option Addr) (ng cg nw cw nb cb nc cc nl cl : Nat) (hl0 : -9223372036854775808 ≤ f.last) (b : Int) (b0 : 0 ≤ b) (b1 : b < 65536) (w : World) (HCS : Hid (CS w w.heap.size f Ag Aw Ab Ac Al ng cg nw cw nb cb nc cc nl cl)) (hr : M.rdy f ng nw nb nc nl = true) (hsm : M.small ng nw nb nc nl) (h0 : M.check f = 0) (ht : M.truths f ≠ []) :
  Calls Tryz.prog 8 #[.agg #[.int .i64 f.last, .slice Ag ng cg, .slice Aw nw cw, .slice Ab nb cb, .slice Ac nc cc, .int .i64 f.ripe, .int .i64 f.late, .int .i64 f.trod, .slice Al nl cl], .int .u16 b] w fun e w' => e = .returned (.bool true) ∧ Ev w w' := by
 obtain ⟨s0, s1, s2, s3, s4⟩ := hsm
 have HRD := hid (fun W (hE : Ev w W) => by have := ready_c f Ag Aw Ab Ac Al ng cg nw cw nb cb nc cc nl cl hl0 W (fun _ => HCS.out.ev hE); rw [hr] at this; exact this)
 have HTR := hid (fun W (hE : Ev w W) => Truths_c f Ag Aw Ab Ac Al ng cg nw cw nb cb nc cc nl cl h0 W (HCS.out.ev hE))
 have hv := (M.check_ok h0).1
 have hl9 := (M.check0 h0).1
 have hb3 := (M.check0 h0).2.1
 have hbl := HCS.out.b.len
 have HPN := hid (fun W => planned_c f Ag Aw Ab Ac Al ng cg nw cw nb cb nc cc nl cl hv hl9 b b0 b1 W hbl (by omega))
 have HBG := hid (fun p (hp : M.isPlan f p = true) => show M.begin f (M.isPlan f p) = 0 from by unfold M.begin; rw [if_neg (by simp [h0]), hp, if_neg (by simp), if_neg ht])
 have HTO_ := hid (fun (Tg Tw : Option Addr) (tg tgc tw twc : Nat) (t : M.Tr) (h : t ∈ M.rtr f) (plan : List Int) (hpl : M.isPlan f plan = true) W (hE : Ev w W) (hg : Sl ics 1 W W.heap.size Tg tg tgc t.gr) (hw : Sl ics 1 W W.heap.size Tw tw twc t.wet) (B : Option Addr) (pn d : Nat) (hp : Sl ics 1 W W.heap.size B pn d plan) => rTotal_c f Ag Aw Ab Ac Al ng cg nw cw nb cb nc cc nl cl Tg Tw tg tgc tw twc t B pn d plan h0 (M.rtr_listed h0 t h) hpl W (HCS.out.ev hE) hg hw hp)
 have HCR_ := hid (fun (Tg Tw : Option Addr) (tg tgc tw twc : Nat) (t : M.Tr) (h : t ∈ M.rtr f) (plan : List Int) (hpl : M.isPlan f plan = true) W (hE : Ev w W) (hg : Sl ics 1 W W.heap.size Tg tg tgc t.gr) (hw : Sl ics 1 W W.heap.size Tw tw twc t.wet) (B : Option Addr) (pn d : Nat) (hp : Sl ics 1 W W.heap.size B pn d plan) (i : Nat) (hi : i < pn) => rCropped_c f Ag Aw Ab Ac Al ng cg nw cw nb cb nc cc nl cl Tg Tw tg tgc tw twc t B pn d plan i hi h0 (M.rtr_listed h0 t h) hpl W (HCS.out.ev hE) hg hw hp)
 clear hr
 go_enter Tryz.func8, Tryz.ntmps8
 go_upto_region 4 with (first | (go_at_call 37; with_reducible refine (HRD.out _ (Ev.alloc (Ev.refl _) _)).mono ?_; rintro e w1 ⟨rfl, hb1⟩; have hG : Ev w w1 := (Ev.alloc (Ev.refl _) _).trans hb1; have Q0 := hid (hb1.heap (alloc1 w (.cells #[.int .i64 f.last, .slice Ag ng cg, .slice Aw nw cw, .slice Ab nb cb, .slice Ac nc cc, .int .i64 f.ripe, .int .i64 f.late, .int .i64 f.trod, .slice Al nl cl] 26)).1); obtain ⟨y0, y1, y2, y3, y4, y5, y6, y7, y8⟩ := cells9 Q0.out) | (go_at_call 38; with_reducible refine (HPN.out _).mono ?_; rintro e x2 ⟨⟨plan, hpl, PB, PD, rfl, hsl⟩, hb⟩; have HE2 := hid (hG.trans hb); have HV2 := hid hb; have HSP := hid hsl; have HP2 := hid (Ev.refl x2); clear hsl hb; clear y0 y1 y2 y3 y4 y5 y6 y7 y8; obtain ⟨y0, y1, y2, y3, y4, y5, y6, y7, y8⟩ := cells9 (HV2.out.heap Q0.out)))
 have hpl3 : plan.length ≤ 3 := by have := (M.plan_parts hpl).1; omega
 generalize hpn : plan.length = pn at HSP hpl3 ⊢
 have HBO := hid (fun (Bg : Option Addr) (dg : Nat) (Bw : Option Addr) (dw : Nat) (Bb : Option Addr) (db : Nat) (Bc : Option Addr) (dc : Nat) (Bl : Option Addr) (dl : Nat) (L : Option Addr) (d : Nat) W (h : CS W W.heap.size f Bg Bw Bb Bc Bl ng dg nw dw nb db nc dc nl dl) (hp : Sl ics 1 W W.heap.size L pn d plan) => Bounds_ok f Bg Bw Bb Bc Bl ng dg nw dw nb db nc dc nl dl L pn d plan hl0 W h hp (HBG.out plan hpl))
 have HWO := hid (fun (Bg : Option Addr) (dg : Nat) (Bw : Option Addr) (dw : Nat) (Bb : Option Addr) (db : Nat) (Bc : Option Addr) (dc : Nat) (Bl : Option Addr) (dl : Nat) (L : Option Addr) (d : Nat) W (h : CS W W.heap.size f Bg Bw Bb Bc Bl ng dg nw dw nb db nc dc nl dl) (hp : Sl ics 1 W W.heap.size L pn d plan) => Worth_ok f Bg Bw Bb Bc Bl ng dg nw dw nb db nc dc nl dl L pn d plan hl0 W h hp (HBG.out plan hpl))
 generalize hwf : M.worth f plan = wf at HWO
 clear HBG
 go_upto_region 5 with (first | (go_at_call 13; with_reducible refine (Field_c f Ag Aw Ab Ac Al ng cg nw cw nb cb nc cc nl cl (by omega) (by omega) (by omega) (by omega) (by omega) _ (HCS.out.ev HE2.out)).mono ?_; rintro e x3 ⟨⟨Bg3, dg3, Bw3, dw3, Bb3, db3, Bc3, dc3, Bl3, dl3, rfl, hc⟩, hb⟩; have HE3 := hid (HE2.out.trans hb); have HV3 := hid (HV2.out.trans hb); have HP3 := hid (HP2.out.trans hb); have HC3 := hid hc; clear hc hb) | (go_at_call 14; with_reducible refine (list_c PB pn PD plan (by omega) _ (HSP.out.ev HP3.out)).mono ?_; rintro e x4 ⟨⟨L4, dL4, rfl, ho⟩, hb⟩; have HE4 := hid (HE3.out.trans hb); have HV4 := hid (HV3.out.trans hb); have HP4 := hid (HP3.out.trans hb); have HO4 := hid (sl_own (enc := ics) (by decide) (ics_len _) (by omega) ho); have HC4 := hid (HC3.out.ev hb); clear ho hb) | (go_at_call 12; with_reducible refine (HBO.out Bg3 dg3 Bw3 dw3 Bb3 db3 Bc3 dc3 Bl3 dl3 L4 dL4 _ HC4.out HO4.out).mono ?_; rintro e x5 ⟨⟨BB, dB, rfl, hbs⟩, hb⟩; have HE5 := hid (HE4.out.trans hb); have HV5 := hid (HV4.out.trans hb); have HP5 := hid (HP4.out.trans hb); have HB5 := hid hbs; have HX5 := hid (Ev.refl x5); clear hbs; clear hb; clear y0 y1 y2 y3 y4 y5 y6 y7 y8; obtain ⟨y0, y1, y2, y3, y4, y5, y6, y7, y8⟩ := cells9 (HV5.out.heap Q0.out)))
 go_upto_region 6 with (first | (go_at_call 13; with_reducible refine (Field_c f Ag Aw Ab Ac Al ng cg nw cw nb cb nc cc nl cl (by omega) (by omega) (by omega) (by omega) (by omega) _ (HCS.out.ev HE5.out)).mono ?_; rintro e x6 ⟨⟨Bg6, dg6, Bw6, dw6, Bb6, db6, Bc6, dc6, Bl6, dl6, rfl, hc⟩, hb⟩; have HE6 := hid (HE5.out.trans hb); have HV6 := hid (HV5.out.trans hb); have HP6 := hid (HP5.out.trans hb); have HX6 := hid (HX5.out.trans hb); have HC6 := hid hc; clear hc hb) | (go_at_call 14; with_reducible refine (list_c PB pn PD plan (by omega) _ (HSP.out.ev HP6.out)).mono ?_; rintro e x7 ⟨⟨L7, dL7, rfl, ho⟩, hb⟩; have HE7 := hid (HE6.out.trans hb); have HV7 := hid (HV6.out.trans hb); have HP7 := hid (HP6.out.trans hb); have HX7 := hid (HX6.out.trans hb); have HO7 := hid (sl_own (enc := ics) (by decide) (ics_len _) (by omega) ho); have HC7 := hid (HC6.out.ev hb); clear ho hb) | (go_at_call 15; with_reducible refine (HWO.out Bg6 dg6 Bw6 dw6 Bb6 db6 Bc6 dc6 Bl6 dl6 L7 dL7 _ HC7.out HO7.out).mono ?_; rintro e x8 ⟨rfl, hb⟩; have HE8 := hid (HE7.out.trans hb); have HV8 := hid (HV7.out.trans hb); have HP8 := hid (HP7.out.trans hb); have HX8 := hid (HX7.out.trans hb); clear hb; clear y0 y1 y2 y3 y4 y5 y6 y7 y8; obtain ⟨y0, y1, y2, y3, y4, y5, y6, y7, y8⟩ := cells9 (HV8.out.heap Q0.out)))
 generalize hWA : World.alloc x8 _ = WA
 have hEA : Ev x8 WA := by rw [← hWA]; exact Ev.alloc (Ev.refl _) _
 have hal := alloc1 x8 (.cells #[.int .i64 wf.lo, .int .i64 wf.hi] 40)
 rw [hWA] at hal
 have HR := hid hal.1
 have HE9 := hid (HE8.out.trans hEA)
 have HV9 := hid (HV8.out.trans hEA)
 have HP9 := hid (HP8.out.trans hEA)
 have HA9 := hid (Ev.refl WA)
 have HX9 := hid (HX8.out.trans hEA)
 clear hal hWA hEA HC3 HC4 HC6 HC7 HO4 HO7 HBO HWO y0 y1 y2 y3 y4 y5 y6 y7 y8
 generalize x8.heap.size = r at HR
 obtain ⟨y0, y1, y2, y3, y4, y5, y6, y7, y8⟩ := cells9 (HV9.out.heap Q0.out)
 obtain ⟨z0, z1⟩ := cells2 HR.out
 go_upto_region 7 with (go_at_call 39; with_reducible refine (HTR.out _ HE9.out).mono ?_; rintro e x10 ⟨⟨LB, lm, ld, rfl, hm, htl⟩, hb⟩; have HE10 := hid (HE9.out.trans hb); have HV10 := hid (HV9.out.trans hb); have HP10 := hid (HP9.out.trans hb); have HA10 := hid (HA9.out.trans hb); have HX10 := hid (HX9.out.trans hb); have HTL := hid htl; clear htl; clear hb; clear y0 y1 y2 y3 y4 y5 y6 y7 y8; obtain ⟨y0, y1, y2, y3, y4, y5, y6, y7, y8⟩ := cells9 (HV10.out.heap Q0.out); clear z0 z1; obtain ⟨z0, z1⟩ := cells2 (HA10.out.heap HR.out))
 have HTLN := hid HTL.out.len
 have HTX := hid (fun (Tg Tw : Option Addr) (tg tgc tw twc : Nat) (t : M.Tr) (h : t ∈ M.rtr f) W (hE : Ev x10 W) (hg : Sl ics 1 W W.heap.size Tg tg tgc t.gr) (hw : Sl ics 1 W W.heap.size Tw tw twc t.wet) => HTO_.out Tg Tw tg tgc tw twc t h plan hpl W (HE10.out.trans hE) hg hw PB pn PD (HSP.out.ev (HP10.out.trans hE)))
 have HCX := hid (fun (i : Nat) (hi : i < pn) (Tg Tw : Option Addr) (tg tgc tw twc : Nat) (t : M.Tr) (h : t ∈ M.rtr f) W (hE : Ev x10 W) (hg : Sl ics 1 W W.heap.size Tg tg tgc t.gr) (hw : Sl ics 1 W W.heap.size Tw tw twc t.wet) => HCR_.out Tg Tw tg tgc tw twc t h plan hpl W (HE10.out.trans hE) hg hw PB pn PD (HSP.out.ev (HP10.out.trans hE)) i hi)
 have hlm := hm
 by_cases hp0 : pn = 0
 ·
  clear HCX
  have HMET := hid (M.met_es0 h0 ht plan)
  obtain ⟨es, hes⟩ : ∃ es : M.Tr → List Bool, es = M.es0 f plan := ⟨_, rfl⟩
  rw [← hes] at HMET
  have HES := hid (fun t => show es t = [M.total f t plan == wf.lo, M.total f t plan == wf.hi, true, true] from by rw [hes, ← hwf]; rfl)
  clear hes hwf h0 ht
  subst hp0
  have s1 : IntKind.i64.wrap (((0 : Nat) : Int) - 1) = -1 := by decide
  skip
  clear y0 y1 y2 y3 y4 y5 y6 y7 y8 z0 z1
  go_wp2_with (first | (with_reducible refine ⟨trivial, ?_⟩))
  go_loopw [11, 12] (fun a i wr => ∃ (k mm : Nat), a = .int .i64 mm ∧ i = .int .i64 k ∧ k ≤ lm ∧ mm < 128 ∧ Ev x10 wr ∧ Hid (M.metL es ((M.rtr f).drop k) mm = 15)) (fun _ i _ => lm - (intOf i).toNat)
  case atStart => exact ⟨0, 0, rfl, rfl, by omega, by omega, Ev.refl _, hid (by rw [List.drop_zero]; exact HMET.out)⟩
  case round =>
   obtain ⟨k, mm, rfl, rfl, hk, hmm, hB, HM⟩ := hrel
   obtain ⟨W1, hW1⟩ : ∃ x, x = wr := ⟨_, rfl⟩
   subst hW1
   obtain ⟨y0, y1, y2, y3, y4, y5, y6, y7, y8⟩ := cells9 ((HV10.out.trans hB).heap Q0.out)
   have HRW := hid ((HA10.out.trans hB).heap HR.out)
   obtain ⟨z0, z1⟩ := cells2 HRW.out
   have l0 := heap_lt ((HV10.out.trans hB).heap Q0.out)
   have l1 := heap_lt HRW.out
   by_cases hlt : k < lm
   ·
    obtain ⟨vs, hvs, hrs⟩ := HTL.out
    have hlt' : k < (M.rtr f).length := by rw [HTLN.out]; exact hlt
    have hdr : (M.rtr f).drop k = (M.rtr f)[k] :: (M.rtr f).drop (k + 1) := List.drop_eq_getElem_cons hlt'
    have htk : (M.rtr f)[k]? = some (M.rtr f)[k] := List.getElem?_eq_getElem _
    generalize (M.rtr f)[k] = t at hdr htk
    have htm := List.mem_of_getElem? htk
    obtain ⟨bk, off, v, hA, hb, hxv, hxd, hcc⟩ := (hvs.ev hB).at_ (Below.refl _ _) hlt
    obtain ⟨r1, r2, r3, r4⟩ := (hrs.ev hB).2 k v t hxv htk
    have e0' := hcc 0 _ rfl
    have e1' := hcc 1 _ rfl
    simp only [Nat.add_zero] at e0'
    have hcap := hvs.cap
    have hsg := sl_own (enc := ics) (by decide) (ics_len _) (by omega) r1
    have hsw := sl_own (enc := ics) (by decide) (ics_len _) (by omega) r2
    have HTO := hid (fun W (hE : Ev W1 W) => HTX.out v.1.1 v.2.1 v.1.2.1 v.1.2.2 v.2.2.1 v.2.2.2 t htm W (hB.trans hE) (hsg.ev hE) (hsw.ev hE))
    have hM := HM.out
    rw [hdr, M.metL, HES.out] at hM
    generalize M.total f t plan = tt at HTO hM
    have HM2 := hid hM
    subst hA
    clear hxv hxd hcc hvs hrs r1 r2 htk htm hsg hsw hM HM hdr hlt'
    go_upto_region 15 with fail
    have HSE : Hid (∀ w', Ev W1 w' → (∀ o, w'.cell? ⟨w.heap.size, o, none⟩ = W1.cell? ⟨w.heap.size, o, none⟩) ∧ (∀ o, w'.cell? ⟨r, o, none⟩ = W1.cell? ⟨r, o, none⟩) ∧ (∀ o, w'.cell? ⟨bk, o, none⟩ = W1.cell? ⟨bk, o, none⟩)) := hid (fun w' h => ⟨fun o => h.cells.1 _ o l0, fun o => h.cells.1 _ o l1, fun o => h.cells.1 _ o hb⟩)
    refine wp_region_held_drew (S := fun w' => (∀ o, w'.cell? ⟨w.heap.size, o, none⟩ = W1.cell? ⟨w.heap.size, o, none⟩) ∧ (∀ o, w'.cell? ⟨r, o, none⟩ = W1.cell? ⟨r, o, none⟩) ∧ (∀ o, w'.cell? ⟨bk, o, none⟩ = W1.cell? ⟨bk, o, none⟩)) (by kernel_rfl) (⟨fun o => rfl, fun o => rfl, fun o => rfl⟩) (fun hHeld => ?_)
    refine tkH 0 (some 75) ?_
    (try simp only [Act.put, sA, sB, sC])
    refine tkH 1 (some 76) ?_
    (try simp only [Act.put, sA, sB, sC])
    refine tkH 2 (some 77) ?_
    (try simp only [Act.put, sA, sB, sC])
    refine tkH 3 (some 78) ?_
    (try simp only [Act.put, sA, sB, sC])
    refine tkH 4 (some 79) ?_
    (try simp only [Act.put, sA, sB, sC])
    refine tkH 5 (some 80) ?_
    (try simp only [Act.put, sA, sB, sC])
    refine wpAnyH_one (i := 6) rfl (by kernel_rfl) (by rfl) (fun K hK => ?_)
    go_simp
    refine (HTO.out _ (Ev.drew (Ev.refl _))).mono ?_
    rintro e z6 ⟨rfl, hb6⟩
    have hy6 : Ev W1 z6 := Ev.trans (Ev.drew (Ev.refl _)) hb6
    refine hK.out _ _ (HSE.out _ hy6) (fun hHeld => ?_)
    clear hK K
    (try simp only [Act.put, sA, sB, sC])
    refine tkH 7 (some 13) ?_
    (try simp only [Act.put, sA, sB, sC])
    refine wpAnyH_done (by kernel_rfl) ?_ _
    go_upto_region 17 with fail
    generalize hWA : World.alloc z6 _ = W3
    have hEA : Ev z6 W3 := by rw [← hWA]; exact Ev.alloc (Ev.refl _) _
    have hal := alloc1 z6 (.cells #[.bool (tt == wf.lo), .bool (tt == wf.hi), .bool true, .bool true] 84)
    rw [hWA] at hal
    have HQ3 := hid hal.1
    have hE3 := hy6.trans hEA
    have hqW : W1.heap.size ≤ z6.heap.size := hy6.size
    clear hal hWA hHeld HSE y0 y1 y2 y3 y4 y5 y6 y7 y8 z0 z1 e0' e1'
    generalize z6.heap.size = q at HQ3 hqW
    obtain ⟨e0, he0⟩ : ∃ e, (tt == wf.lo) = e := ⟨_, rfl⟩
    obtain ⟨e1, he1⟩ : ∃ e, (tt == wf.hi) = e := ⟨_, rfl⟩
    obtain ⟨e2, he2⟩ : ∃ e, true = e := ⟨_, rfl⟩
    obtain ⟨e3, he3⟩ : ∃ e, true = e := ⟨_, rfl⟩
    have HQ4 := hid (show W3.heap[q]? = some (.cells #[.bool e0, .bool e1, .bool e2, .bool e3] 84 (0, 0)) from by rw [← he0, ← he1, ← he2, ← he3]; exact HQ3.out)
    have HM3 := hid (show M.metL es ((M.rtr f).drop (k + 1)) (M.orL [e0, e1, e2, e3] 0 mm) = 15 from by rw [← he0, ← he1, ← he2, ← he3]; exact HM2.out)
    clear he0 he1 he2 he3 HM2 HQ3
    obtain ⟨tgt, htgt⟩ : ∃ tgt, M.orL [e0, e1, e2, e3] 0 mm = tgt := ⟨_, rfl⟩
    rw [htgt] at HM3
    have HTGT := hid htgt
    clear htgt
    go_wp2_with fail
    go_loopw [11, 17] (fun a i wr => ∃ (j acc : Nat), a = .int .i64 acc ∧ i = .int .i64 j ∧ j ≤ 4 ∧ acc < 128 ∧ W3 = wr ∧ Hid (M.orL ([e0, e1, e2, e3].drop j) j acc = tgt)) (fun _ i _ => 4 - (intOf i).toNat)
    case atStart => exact ⟨0, mm, rfl, rfl, by omega, hmm, rfl, HTGT⟩
    case round =>
     obtain ⟨j, acc, rfl, rfl, hj, hacc, hw, hO⟩ := hrel
     subst hw
     by_cases hj4 : j < 4
     ·
      obtain ⟨ej, hej, hcj, hfj⟩ : ∃ ej : Bool, [e0, e1, e2, e3].drop j = ej :: [e0, e1, e2, e3].drop (j + 1) ∧ W3.cell? ⟨q, j, none⟩ = some (.bool ej) ∧ True := by
       have : j = 0 ∨ j = 1 ∨ j = 2 ∨ j = 3 := by omega
       rcases this with rfl | rfl | rfl | rfl
       ·
        exact ⟨e0, rfl, cell_in HQ4.out 0, trivial⟩
       ·
        exact ⟨e1, rfl, cell_in HQ4.out 1, trivial⟩
       ·
        exact ⟨e2, rfl, cell_in HQ4.out 2, trivial⟩
       ·
        exact ⟨e3, rfl, cell_in HQ4.out 3, trivial⟩
      obtain ⟨p1, p2, p3⟩ := or_fact7 (a := acc) (i := j) hacc (by omega)
      have hO2 := hO.out
      rw [hej, M.orL] at hO2
      clear hej hfj hO
      cases ej with
      | true =>
       have HO2 := hid (show M.orL ([e0, e1, e2, e3].drop (j + 1)) (j + 1) (acc ||| 2 ^ j) = tgt by simpa using hO2)
       clear hO2
       generalize acc ||| 2 ^ j = acc2 at p2 p3 HO2
       go_wp2_with fail
       exact ⟨⟨j + 1, acc2, rfl, by go_num, by omega, p3, by first | exact trivial | rfl, HO2⟩, by simp [intOf]; omega⟩
      | false =>
       have HO2 := hid (show M.orL ([e0, e1, e2, e3].drop (j + 1)) (j + 1) acc = tgt by simpa using hO2)
       clear hO2 p1 p2 p3
       go_wp2_with fail
       exact ⟨⟨j + 1, acc, rfl, by go_num, by omega, hacc, by first | exact trivial | rfl, HO2⟩, by simp [intOf]; omega⟩
     ·
      obtain rfl : j = 4 := by omega
      have HO2 := hid (show acc = tgt from hO.out)
      have hn4 : ¬ (((4 : Nat) : Int) < 4) := by omega
      clear hO
      go_wp2_with fail
      exact ⟨⟨k + 1, acc, rfl, by go_num, by omega, hacc, hB.trans hE3, hid (by rw [HO2.out]; exact HM3.out)⟩, by simp [intOf]; omega⟩
   ·
    obtain rfl : k = lm := by omega
    have hm15 := HM.out
    rw [List.drop_eq_nil_of_le (by rw [HTLN.out]; exact Nat.le_refl _), M.metL] at hm15
    have c1_ : ((mm : Int) == 15) = true := by simp; omega
    have hn2 : ¬ ((k : Int) < k) := by omega
    clear HM hm15
    go_wp2_with (first | (go_at_call 11; with_reducible refine (awake_c _).mono ?_; rintro e w99 ⟨rfl, hb99⟩) | (with_reducible refine ⟨trivial, ?_⟩))
    go_ret
    exact ⟨rfl, (HE10.out.trans hB).trans hb99⟩
 ·
  have HBQ := hid (fun (q : Nat) (hq : x10.heap.size ≤ q) (b' ob : Nat) (h : BB = some ⟨b', ob, none⟩) => show b' ≠ q from by
   obtain ⟨b2, o2, hA2, hb2, _⟩ := (HB5.out.ev HX10.out).cells (by omega)
   rw [h] at hA2
   cases hA2
   omega)
  obtain ⟨m, hpm⟩ : ∃ m, pn = m + 1 := ⟨pn - 1, by omega⟩
  have hmp : m < pn := by omega
  have hxs : ∃ x, (M.bounds f (M.truths f) plan)[m]? = some x := ⟨_, List.getElem?_eq_getElem (by simp [M.bounds]; omega)⟩
  obtain ⟨x, hx⟩ := hxs
  have HMET := hid (M.met_es1 h0 ht hx)
  have HBC := hid (HCX.out m hmp)
  have HXX := hid hx
  obtain ⟨es, hes⟩ : ∃ es : M.Tr → List Bool, es = M.es1 f plan m x := ⟨_, rfl⟩
  rw [← hes] at HMET
  have HES := hid (fun t => show es t = [M.total f t plan == wf.lo, M.total f t plan == wf.hi, (M.crop f t plan m).wt == x.wt.lo, (M.crop f t plan m).wt == x.wt.hi] from by rw [hes, ← hwf]; rfl)
  clear hes hwf h0 ht
  have HBX := hid (HB5.out.ev (HX10.out.trans (Ev.refl _)))
  have s1 : IntKind.i64.wrap ((pn : Int) - 1) = m := by rw [show (pn : Int) - 1 = m by omega]; exact IntWalk.i64_in _ (by omega)
  clear hpm hx HCX
  clear y0 y1 y2 y3 y4 y5 y6 y7 y8 z0 z1
  go_wp2_with (first | (with_reducible refine ⟨trivial, ?_⟩))
  go_loopw [11, 12] (fun a i wr => ∃ (k mm : Nat), a = .int .i64 mm ∧ i = .int .i64 k ∧ k ≤ lm ∧ mm < 128 ∧ Ev x10 wr ∧ Hid (M.metL es ((M.rtr f).drop k) mm = 15)) (fun _ i _ => lm - (intOf i).toNat)
  case atStart => exact ⟨0, 0, rfl, rfl, by omega, by omega, Ev.refl _, hid (by rw [List.drop_zero]; exact HMET.out)⟩
  case round =>
   obtain ⟨k, mm, rfl, rfl, hk, hmm, hB, HM⟩ := hrel
   obtain ⟨W1, hW1⟩ : ∃ x, x = wr := ⟨_, rfl⟩
   subst hW1
   obtain ⟨y0, y1, y2, y3, y4, y5, y6, y7, y8⟩ := cells9 ((HV10.out.trans hB).heap Q0.out)
   have HRW := hid ((HA10.out.trans hB).heap HR.out)
   obtain ⟨z0, z1⟩ := cells2 HRW.out
   have l0 := heap_lt ((HV10.out.trans hB).heap Q0.out)
   have l1 := heap_lt HRW.out
   by_cases hlt : k < lm
   ·
    obtain ⟨vs, hvs, hrs⟩ := HTL.out
    have hlt' : k < (M.rtr f).length := by rw [HTLN.out]; exact hlt
    have hdr : (M.rtr f).drop k = (M.rtr f)[k] :: (M.rtr f).drop (k + 1) := List.drop_eq_getElem_cons hlt'
    have htk : (M.rtr f)[k]? = some (M.rtr f)[k] := List.getElem?_eq_getElem _
    generalize (M.rtr f)[k] = t at hdr htk
    have htm := List.mem_of_getElem? htk
    obtain ⟨bk, off, v, hA, hb, hxv, hxd, hcc⟩ := (hvs.ev hB).at_ (Below.refl _ _) hlt
    obtain ⟨r1, r2, r3, r4⟩ := (hrs.ev hB).2 k v t hxv htk
    have e0' := hcc 0 _ rfl
    have e1' := hcc 1 _ rfl
    simp only [Nat.add_zero] at e0'
    have hcap := hvs.cap
    have hsg := sl_own (enc := ics) (by decide) (ics_len _) (by omega) r1
    have hsw := sl_own (enc := ics) (by decide) (ics_len _) (by omega) r2
    have HTO := hid (fun W (hE : Ev W1 W) => HTX.out v.1.1 v.2.1 v.1.2.1 v.1.2.2 v.2.2.1 v.2.2.2 t htm W (hB.trans hE) (hsg.ev hE) (hsw.ev hE))
    have HCC := hid (fun W (hE : Ev W1 W) => HBC.out v.1.1 v.2.1 v.1.2.1 v.1.2.2 v.2.2.1 v.2.2.2 t htm W (hB.trans hE) (hsg.ev hE) (hsw.ev hE))
    have hM := HM.out
    rw [hdr, M.metL, HES.out] at hM
    generalize M.total f t plan = tt at HTO hM
    generalize M.crop f t plan m = cr at HCC hM
    have fieldWt' := fieldWt cr.wt cr.st cr.wo
    have HM2 := hid hM
    subst hA
    clear hxv hxd hcc hvs hrs r1 r2 htk htm hsg hsw hM HM hdr hlt'
    go_upto_region 15 with fail
    have HSE : Hid (∀ w', Ev W1 w' → (∀ o, w'.cell? ⟨w.heap.size, o, none⟩ = W1.cell? ⟨w.heap.size, o, none⟩) ∧ (∀ o, w'.cell? ⟨r, o, none⟩ = W1.cell? ⟨r, o, none⟩) ∧ (∀ o, w'.cell? ⟨bk, o, none⟩ = W1.cell? ⟨bk, o, none⟩)) := hid (fun w' h => ⟨fun o => h.cells.1 _ o l0, fun o => h.cells.1 _ o l1, fun o => h.cells.1 _ o hb⟩)
    refine wp_region_held_drew (S := fun w' => (∀ o, w'.cell? ⟨w.heap.size, o, none⟩ = W1.cell? ⟨w.heap.size, o, none⟩) ∧ (∀ o, w'.cell? ⟨r, o, none⟩ = W1.cell? ⟨r, o, none⟩) ∧ (∀ o, w'.cell? ⟨bk, o, none⟩ = W1.cell? ⟨bk, o, none⟩)) (by kernel_rfl) (⟨fun o => rfl, fun o => rfl, fun o => rfl⟩) (fun hHeld => ?_)
    refine tkH 0 (some 75) ?_
    (try simp only [Act.put, sA, sB, sC])
    refine tkH 1 (some 76) ?_
    (try simp only [Act.put, sA, sB, sC])
    refine tkH 2 (some 77) ?_
    (try simp only [Act.put, sA, sB, sC])
    refine tkH 3 (some 78) ?_
    (try simp only [Act.put, sA, sB, sC])
    refine tkH 4 (some 79) ?_
    (try simp only [Act.put, sA, sB, sC])
    refine tkH 5 (some 80) ?_
    (try simp only [Act.put, sA, sB, sC])
    refine wpAnyH_one (i := 6) rfl (by kernel_rfl) (by rfl) (fun K hK => ?_)
    go_simp
    refine (HTO.out _ (Ev.drew (Ev.refl _))).mono ?_
    rintro e z6 ⟨rfl, hb6⟩
    have hy6 : Ev W1 z6 := Ev.trans (Ev.drew (Ev.refl _)) hb6
    refine hK.out _ _ (HSE.out _ hy6) (fun hHeld => ?_)
    clear hK K
    (try simp only [Act.put, sA, sB, sC])
    refine tkH 7 (some 13) ?_
    (try simp only [Act.put, sA, sB, sC])
    refine wpAnyH_done (by kernel_rfl) ?_ _
    go_upto_region 17 with fail
    generalize hWA : World.alloc z6 _ = W3
    have hEA : Ev z6 W3 := by rw [← hWA]; exact Ev.alloc (Ev.refl _) _
    have hal := alloc1 z6 (.cells #[.bool (tt == wf.lo), .bool (tt == wf.hi), .bool true, .bool true] 84)
    rw [hWA] at hal
    have HQ3 := hid hal.1
    have hE3 := hy6.trans hEA
    have hqW : W1.heap.size ≤ z6.heap.size := hy6.size
    have E0 := hid e0'
    have E1 := hid e1'
    clear hal hWA hHeld HSE y0 y1 y2 y3 y4 y5 y6 y7 y8 z0 z1 e0' e1'
    generalize z6.heap.size = q at HQ3 hqW
    obtain ⟨y0, y1, y2, y3, y4, y5, y6, y7, y8⟩ := cells9 (((HV10.out.trans hB).trans hE3).heap Q0.out)
    have l0 := heap_lt (((HV10.out.trans hB).trans hE3).heap Q0.out)
    have e0' := (hE3.cells.1 bk _ hb).trans E0.out
    have e1' := (hE3.cells.1 bk _ hb).trans E1.out
    have lbk : bk < W3.heap.size := by have := hE3.size; omega
    go_upto_region 19 with fail
    have HSF : Hid (∀ w', Ev W3 w' → (∀ o, w'.cell? ⟨w.heap.size, o, none⟩ = W3.cell? ⟨w.heap.size, o, none⟩) ∧ (∀ o, w'.cell? ⟨bk, o, none⟩ = W3.cell? ⟨bk, o, none⟩)) := hid (fun w' h => ⟨fun o => h.cells.1 _ o l0, fun o => h.cells.1 _ o lbk⟩)
    refine wp_region_held_drew (S := fun w' => (∀ o, w'.cell? ⟨w.heap.size, o, none⟩ = W3.cell? ⟨w.heap.size, o, none⟩) ∧ (∀ o, w'.cell? ⟨bk, o, none⟩ = W3.cell? ⟨bk, o, none⟩)) (by kernel_rfl) (⟨fun o => rfl, fun o => rfl⟩) (fun hHeld => ?_)
    refine tkH 0 (some 96) ?_
    (try simp only [Act.put, sA, sB, sC])
    refine tkH 1 (some 97) ?_
    (try simp only [Act.put, sA, sB, sC])
    refine tkH 2 (some 98) ?_
    (try simp only [Act.put, sA, sB, sC])
    refine tkH 3 (some 99) ?_
    (try simp only [Act.put, sA, sB, sC])
    refine tkH 4 (some 100) ?_
    (try simp only [Act.put, sA, sB, sC])
    refine tkH 5 (some 101) ?_
    (try simp only [Act.put, sA, sB, sC])
    refine tkH 6 (some 102) ?_
    (try simp only [Act.put, sA, sB, sC])
    refine wpAnyH_one (i := 7) rfl (by kernel_rfl) (by rfl) (fun K hK => ?_)
    go_simp
    refine (HCC.out _ (hE3.trans (Ev.drew (Ev.refl _)))).mono ?_
    rintro e z7 ⟨rfl, hb7⟩
    have hy7 : Ev W3 z7 := Ev.trans (Ev.drew (Ev.refl _)) hb7
    refine hK.out _ _ (HSF.out _ hy7) (fun hHeld => ?_)
    clear hK K
    (try simp only [Act.put, sA, sB, sC])
    refine tkH 8 (some 104) ?_
    (try simp only [Act.put, sA, sB, sC])
    refine tkH 9 (some 16) ?_
    (try simp only [Act.put, sA, sB, sC])
    refine wpAnyH_done (by kernel_rfl) ?_ _
    obtain ⟨bb, ob, xx, hAb, hbb, hxx, _, hcb⟩ := (HBX.out.ev ((hB.trans hE3).trans hy7)).at_ (Below.refl _ _) hmp
    rw [HXX.out] at hxx
    obtain rfl := Option.some.inj hxx
    have c0_ := hcb 0 _ rfl
    have c1_ := hcb 1 _ rfl
    simp only [Nat.add_zero] at c0_
    have hcapb := HBX.out.cap
    have HQ7 := hid (hy7.heap HQ3.out)
    have lqz := heap_lt HQ7.out
    have hbq : bb ≠ q := HBQ.out q (by have := hB.size; omega) bb ob hAb
    subst hAb
    clear y0 y1 y2 y3 y4 y5 y6 y7 y8 e0' e1' hHeld HSF hcb hxx
    go_upto_region 20 with fail
    have HSG : Hid (∀ w', Ev z7 w' → (∀ o, w'.cell? ⟨bb, o, none⟩ = z7.cell? ⟨bb, o, none⟩)) := hid (fun w' h => fun o => h.cells.1 _ o hbb)
    refine wp_region_held_drew (S := fun w' => (∀ o, w'.cell? ⟨bb, o, none⟩ = z7.cell? ⟨bb, o, none⟩)) (by kernel_rfl) (fun o => rfl) (fun hHeld => ?_)
    refine tkH 0 (some 105) ?_
    (try simp only [Act.put, sA, sB, sC])
    refine tkH 1 (some 106) ?_
    (try simp only [Act.put, sA, sB, sC])
    refine tkH 2 (some 107) ?_
    (try simp only [Act.put, sA, sB, sC])
    refine tkH 3 (some 108) ?_
    (try simp only [Act.put, sA, sB, sC])
    refine tkH 4 (some 109) ?_
    (try simp only [Act.put, sA, sB, sC])
    refine tkH 5 (some 110) ?_
    (try simp only [Act.put, sA, sB, sC])
    refine tkH 6 (some 111) ?_
    (try simp only [Act.put, sA, sB, sC])
    refine tkH 7 (some 112) ?_
    (try simp only [Act.put, sA, sB, sC])
    refine tkH 8 (some 113) ?_
    (try simp only [Act.put, sA, sB, sC])
    refine tkH 9 (some 114) ?_
    (try simp only [Act.put, sA, sB, sC])
    refine tkH 10 (some 115) ?_
    (try simp only [Act.put, sA, sB, sC])
    refine tkH 11 (some 116) ?_
    (try simp only [Act.put, sA, sB, sC])
    refine tkH 12 (some 117) ?_
    (try simp only [Act.put, sA, sB, sC])
    refine tkH 13 (some 118) ?_
    (try simp only [Act.put, sA, sB, sC])
    refine tkH 14 (some 119) ?_
    (try simp only [Act.put, sA, sB, sC])
    refine tkH 15 (some 120) ?_
    (try simp only [Act.put, sA, sB, sC])
    refine tkH 16 (some 121) ?_
    (try simp only [Act.put, sA, sB, sC])
    refine wpAnyH_one (i := 17) rfl (by kernel_rfl) (by rfl) (fun K hK => ?_)
    have q2 := cell_in HQ7.out 2
    have v2 := frozen_in HQ7.out 2
    go_simp
    generalize hX1 : World.setCell _ _ _ = X1
    have HX1 := hid (show X1.heap[q]? = some (.cells #[.bool (tt == wf.lo), .bool (tt == wf.hi), .bool (cr.wt == x.wt.lo), .bool true] 84 (0, 0)) from by rw [← hX1]; exact (set_heap_same HQ7.out).trans rfl)
    have HS1 := hid (show ∀ o, X1.cell? ⟨bb, o, none⟩ = z7.cell? ⟨bb, o, none⟩ from fun o => by rw [← hX1]; exact cell_set_ne hbq)
    have HE1 := hid (show Ev x10 X1 from by rw [← hX1]; first | exact Ev.setCell (p := ⟨q, 2, none⟩) ((hB.trans hE3).trans hy7) (by have := hB.size; show x10.heap.size ≤ q; omega) _ | exact Ev.setCell (p := ⟨q, 2, none⟩) (((hB.trans hE3).trans hy7).trans (Ev.drew (Ev.refl _))) (by have := hB.size; show x10.heap.size ≤ q; omega) _)
    clear hX1 q2 v2
    refine hK.out _ _ (HS1.out) (fun hHeld => ?_)
    clear hK K
    (try simp only [Act.put, sA, sB, sC])
    refine tkH 18 (some 122) ?_
    (try simp only [Act.put, sA, sB, sC])
    refine wpAnyH_one (i := 19) rfl (by kernel_rfl) (by rfl) (fun K hK => ?_)
    have q3 := cell_in HX1.out 3
    have v3 := frozen_in HX1.out 3
    go_simp
    generalize hX2 : World.setCell _ _ _ = X2
    have HX2 := hid (show X2.heap[q]? = some (.cells #[.bool (tt == wf.lo), .bool (tt == wf.hi), .bool (cr.wt == x.wt.lo), .bool (cr.wt == x.wt.hi)] 84 (0, 0)) from by rw [← hX2]; exact (set_heap_same HX1.out).trans rfl)
    have HE2 := hid (show Ev x10 X2 from by rw [← hX2]; exact Ev.setCell (p := ⟨q, 3, none⟩) HE1.out (by have := hB.size; show x10.heap.size ≤ q; omega) _)
    have HS2 := hid (show ∀ o, X2.cell? ⟨bb, o, none⟩ = z7.cell? ⟨bb, o, none⟩ from fun o => by rw [← hX2]; exact (cell_set_ne hbq).trans (HS1.out o))
    clear hX2 q3 v3
    refine hK.out _ _ (HS2.out) (fun hHeld => ?_)
    clear hK K
    (try simp only [Act.put, sA, sB, sC])
    refine wpAnyH_done (by kernel_rfl) ?_ _
    have HE6 := hid (HE2.out.trans (Ev.drew (Ev.refl _)))
    have HX6 := hid (show X2.drew.heap[q]? = some _ from HX2.out)
    generalize X2.drew = W6 at HE6 HX6 ⊢
    clear hHeld HSG HS1 HS2 c0_ c1_
    obtain ⟨e0, he0⟩ : ∃ e, (tt == wf.lo) = e := ⟨_, rfl⟩
    obtain ⟨e1, he1⟩ : ∃ e, (tt == wf.hi) = e := ⟨_, rfl⟩
    obtain ⟨e2, he2⟩ : ∃ e, (cr.wt == x.wt.lo) = e := ⟨_, rfl⟩
    obtain ⟨e3, he3⟩ : ∃ e, (cr.wt == x.wt.hi) = e := ⟨_, rfl⟩
    have HQ4 := hid (show W6.heap[q]? = some (.cells #[.bool e0, .bool e1, .bool e2, .bool e3] 84 (0, 0)) from by rw [← he0, ← he1, ← he2, ← he3]; exact HX6.out)
    have HM3 := hid (show M.metL es ((M.rtr f).drop (k + 1)) (M.orL [e0, e1, e2, e3] 0 mm) = 15 from by rw [← he0, ← he1, ← he2, ← he3]; exact HM2.out)
    clear he0 he1 he2 he3 HM2 HX2 HX1 HQ7 HQ3
    obtain ⟨tgt, htgt⟩ : ∃ tgt, M.orL [e0, e1, e2, e3] 0 mm = tgt := ⟨_, rfl⟩
    rw [htgt] at HM3
    have HTGT := hid htgt
    clear htgt
    go_wp2_with fail
    go_loopw [11, 17] (fun a i wr => ∃ (j acc : Nat), a = .int .i64 acc ∧ i = .int .i64 j ∧ j ≤ 4 ∧ acc < 128 ∧ W6 = wr ∧ Hid (M.orL ([e0, e1, e2, e3].drop j) j acc = tgt)) (fun _ i _ => 4 - (intOf i).toNat)
    case atStart => exact ⟨0, mm, rfl, rfl, by omega, hmm, rfl, HTGT⟩
    case round =>
     obtain ⟨j, acc, rfl, rfl, hj, hacc, hw, hO⟩ := hrel
     subst hw
     by_cases hj4 : j < 4
     ·
      obtain ⟨ej, hej, hcj, hfj⟩ : ∃ ej : Bool, [e0, e1, e2, e3].drop j = ej :: [e0, e1, e2, e3].drop (j + 1) ∧ W6.cell? ⟨q, j, none⟩ = some (.bool ej) ∧ True := by
       have : j = 0 ∨ j = 1 ∨ j = 2 ∨ j = 3 := by omega
       rcases this with rfl | rfl | rfl | rfl
       ·
        exact ⟨e0, rfl, cell_in HQ4.out 0, trivial⟩
       ·
        exact ⟨e1, rfl, cell_in HQ4.out 1, trivial⟩
       ·
        exact ⟨e2, rfl, cell_in HQ4.out 2, trivial⟩
       ·
        exact ⟨e3, rfl, cell_in HQ4.out 3, trivial⟩
      obtain ⟨p1, p2, p3⟩ := or_fact7 (a := acc) (i := j) hacc (by omega)
      have hO2 := hO.out
      rw [hej, M.orL] at hO2
      clear hej hfj hO
      cases ej with
      | true =>
       have HO2 := hid (show M.orL ([e0, e1, e2, e3].drop (j + 1)) (j + 1) (acc ||| 2 ^ j) = tgt by simpa using hO2)
       clear hO2
       generalize acc ||| 2 ^ j = acc2 at p2 p3 HO2
       go_wp2_with fail
       exact ⟨⟨j + 1, acc2, rfl, by go_num, by omega, p3, by first | exact trivial | rfl, HO2⟩, by simp [intOf]; omega⟩
      | false =>
       have HO2 := hid (show M.orL ([e0, e1, e2, e3].drop (j + 1)) (j + 1) acc = tgt by simpa using hO2)
       clear hO2 p1 p2 p3
       go_wp2_with fail
       exact ⟨⟨j + 1, acc, rfl, by go_num, by omega, hacc, by first | exact trivial | rfl, HO2⟩, by simp [intOf]; omega⟩
     ·
      obtain rfl : j = 4 := by omega
      have HO2 := hid (show acc = tgt from hO.out)
      have hn4 : ¬ (((4 : Nat) : Int) < 4) := by omega
      clear hO
      go_wp2_with fail
      exact ⟨⟨k + 1, acc, rfl, by go_num, by omega, hacc, HE6.out, hid (by rw [HO2.out]; exact HM3.out)⟩, by simp [intOf]; omega⟩
   ·
    obtain rfl : k = lm := by omega
    have hm15 := HM.out
    rw [List.drop_eq_nil_of_le (by rw [HTLN.out]; exact Nat.le_refl _), M.metL] at hm15
    have c1_ : ((mm : Int) == 15) = true := by simp; omega
    have hn2 : ¬ ((k : Int) < k) := by omega
    clear HM hm15
    go_wp2_with (first | (go_at_call 11; with_reducible refine (awake_c _).mono ?_; rintro e w99 ⟨rfl, hb99⟩) | (with_reducible refine ⟨trivial, ?_⟩))
    go_ret
    exact ⟨rfl, (HE10.out.trans hB).trans hb99⟩

theorem cropEnds_c (f : M.Cf) (Ag Aw Ab Ac Al : Option Addr) (ng cg nw cw nb cb nc cc nl cl : Nat) (hl0 : -9223372036854775808 ≤ f.last) (b : Int) (b0 : 0 ≤ b) (b1 : b < 65536) (w : World) (hs : M.small ng nw nb nc nl → CS w w.heap.size f Ag Aw Ab Ac Al ng cg nw cw nb cb nc cc nl cl) :
  Calls Tryz.prog 8 #[.agg #[.int .i64 f.last, .slice Ag ng cg, .slice Aw nw cw, .slice Ab nb cb, .slice Ac nc cc, .int .i64 f.ripe, .int .i64 f.late, .int .i64 f.trod, .slice Al nl cl], .int .u16 b] w fun e w' => e = .returned (.bool true) ∧ Ev w w' := by
 cases hr : M.rdy f ng nw nb nc nl with
 | false => exact cropEnds_no f Ag Aw Ab Ac Al ng cg nw cw nb cb nc cc nl cl hl0 b b0 b1 w hs hr
 | true =>
  have key : M.small ng nw nb nc nl ∧ M.check f = 0 := by
   have h := hr
   unfold M.rdy at h
   rw [Bool.and_eq_true, Bool.and_eq_true, decide_eq_true_eq, decide_eq_true_eq] at h
   exact ⟨h.1.1, h.2⟩
  have HCS := hid (hs key.1)
  by_cases ht : M.truths f = []
  ·
   exact cropEnds_none f Ag Aw Ab Ac Al ng cg nw cw nb cb nc cc nl cl hl0 b b0 b1 w HCS hr key.1 key.2 ht
  ·
   exact cropEnds_yes f Ag Aw Ab Ac Al ng cg nw cw nb cb nc cc nl cl hl0 b b0 b1 w HCS hr key.1 key.2 ht

end Go.Proofs.YtffbkbcjddigdaaGreat
