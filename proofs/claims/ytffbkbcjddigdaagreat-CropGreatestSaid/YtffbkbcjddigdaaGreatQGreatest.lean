import Derived.Test.YtffbkbcjddigdaaGreatA79
import Derived.Test.YtffbkbcjddigdaaGreatA66
import Derived.Test.YtffbkbcjddigdaaGreatA62
import Derived.Test.YtffbkbcjddigdaaGreatA54
import Derived.Test.YtffbkbcjddigdaaGreatA48
import Derived.Test.YtffbkbcjddigdaaGreatA49
import Derived.Deep.DeepCutAuto
set_option linter.unusedSimpArgs false
set_option linter.unusedVariables false
namespace Go.Proofs.YtffbkbcjddigdaaGreat
open Go.RowKit Go.Shelf

set_option maxRecDepth 100000 in
set_option maxHeartbeats 2000000 in
theorem cropGreatest_no (f : M.Cf) (Ag Aw Ab Ac Al : Option Addr) (ng cg nw cw nb cb nc cc nl cl : Nat) (hl0 : -9223372036854775808 ≤ f.last) (a b : Int) (a0 : 0 ≤ a) (a1 : a < 65536) (b0 : 0 ≤ b) (b1 : b < 65536) (w : World) (hs : M.small ng nw nb nc nl → CS w w.heap.size f Ag Aw Ab Ac Al ng cg nw cw nb cb nc cc nl cl) (hno : M.rdy f ng nw nb nc nl = false) :
  Calls Tryz.prog 9 #[.agg #[.int .i64 f.last, .slice Ag ng cg, .slice Aw nw cw, .slice Ab nb cb, .slice Ac nc cc, .int .i64 f.ripe, .int .i64 f.late, .int .i64 f.trod, .slice Al nl cl], .int .u16 a, .int .u16 b] w fun e w' => e = .returned (.bool true) ∧ Ev w w' := by
 have HRD := hid (fun W (hE : Ev w W) => by have := ready_c f Ag Aw Ab Ac Al ng cg nw cw nb cb nc cc nl cl hl0 W (fun h => (hs h).ev hE); rw [hno] at this; exact this)
 clear hs hno
 go_enter Tryz.func9, Tryz.ntmps9
 go_wp2_with (first | (go_at_call 37; with_reducible refine (HRD.out _ (Ev.alloc (Ev.refl _) _)).mono ?_; rintro e w1 ⟨rfl, hb1⟩; have hG : Ev w w1 := (Ev.alloc (Ev.refl _) _).trans hb1; have Q0 := hid (hb1.heap (alloc1 w (.cells #[.int .i64 f.last, .slice Ag ng cg, .slice Aw nw cw, .slice Ab nb cb, .slice Ac nc cc, .int .i64 f.ripe, .int .i64 f.late, .int .i64 f.trod, .slice Al nl cl] 26)).1); obtain ⟨y0, y1, y2, y3, y4, y5, y6, y7, y8⟩ := cells9 Q0.out) | (go_at_call 11; with_reducible refine (awake_c _).mono ?_; rintro e w99 ⟨rfl, hb99⟩))
 go_ret
 exact ⟨rfl, hG.trans hb99⟩

set_option maxRecDepth 100000 in
set_option maxHeartbeats 4000000 in
theorem cropGreatest_none (f : M.Cf) (Ag Aw Ab Ac Al : Option Addr) (ng cg nw cw nb cb nc cc nl cl : Nat) (hl0 : -9223372036854775808 ≤ f.last) (a b : Int) (a0 : 0 ≤ a) (a1 : a < 65536) (b0 : 0 ≤ b) (b1 : b < 65536) (w : World) (HCS : Hid (CS w w.heap.size f Ag Aw Ab Ac Al ng cg nw cw nb cb nc cc nl cl)) (hr : M.rdy f ng nw nb nc nl = true) (hsm : M.small ng nw nb nc nl) (h0 : M.check f = 0) (ht : M.truths f = []) :
  Calls Tryz.prog 9 #[.agg #[.int .i64 f.last, .slice Ag ng cg, .slice Aw nw cw, .slice Ab nb cb, .slice Ac nc cc, .int .i64 f.ripe, .int .i64 f.late, .int .i64 f.trod, .slice Al nl cl], .int .u16 a, .int .u16 b] w fun e w' => e = .returned (.bool true) ∧ Ev w w' := by
 obtain ⟨s0, s1, s2, s3, s4⟩ := hsm
 have HRD := hid (fun W (hE : Ev w W) => by have := ready_c f Ag Aw Ab Ac Al ng cg nw cw nb cb nc cc nl cl hl0 W (fun _ => HCS.out.ev hE); rw [hr] at this; exact this)
 have HTR := hid (fun W (hE : Ev w W) => Truths_c f Ag Aw Ab Ac Al ng cg nw cw nb cb nc cc nl cl h0 W (HCS.out.ev hE))
 have hbg : M.begin f true = 11 := by unfold M.begin; rw [if_neg (by simp [h0]), if_neg (by simp), if_pos ht]
 have HBS := hid (fun (Bg : Option Addr) (dg : Nat) (Bw : Option Addr) (dw : Nat) (Bb : Option Addr) (db : Nat) (Bc : Option Addr) (dc : Nat) (Bl : Option Addr) (dl : Nat) W (h : CS W W.heap.size f Bg Bw Bb Bc Bl ng dg nw dw nb db nc dc nl dl) => by have := Best_err f Bg Bw Bb Bc Bl ng dg nw dw nb db nc dc nl dl hl0 W h (by rw [hbg]; decide); rw [hbg] at this; exact this)
 have HLN := hid (show (M.rtr f).length = 0 by rw [(M.rtr_nil h0).2 ht]; rfl)
 clear hr hbg ht h0
 go_enter Tryz.func9, Tryz.ntmps9
 go_upto_region 5 with (first | (go_at_call 37; with_reducible refine (HRD.out _ (Ev.alloc (Ev.refl _) _)).mono ?_; rintro e w1 ⟨rfl, hb1⟩; have hG : Ev w w1 := (Ev.alloc (Ev.refl _) _).trans hb1; have Q0 := hid (hb1.heap (alloc1 w (.cells #[.int .i64 f.last, .slice Ag ng cg, .slice Aw nw cw, .slice Ab nb cb, .slice Ac nc cc, .int .i64 f.ripe, .int .i64 f.late, .int .i64 f.trod, .slice Al nl cl] 26)).1); obtain ⟨y0, y1, y2, y3, y4, y5, y6, y7, y8⟩ := cells9 Q0.out) | (go_at_call 13; with_reducible refine (Field_c f Ag Aw Ab Ac Al ng cg nw cw nb cb nc cc nl cl (by omega) (by omega) (by omega) (by omega) (by omega) _ (HCS.out.ev hG)).mono ?_; rintro e x2 ⟨⟨Bg2, dg2, Bw2, dw2, Bb2, db2, Bc2, dc2, Bl2, dl2, rfl, hc⟩, hb⟩; have HE2 := hid (hG.trans hb); have HV2 := hid hb; have HC2 := hid hc; clear hc hb) | (go_at_call 29; with_reducible refine (HBS.out Bg2 dg2 Bw2 dw2 Bb2 db2 Bc2 dc2 Bl2 dl2 _ HC2.out).mono ?_; rintro e x3 ⟨rfl, hb⟩; have HE3 := hid (HE2.out.trans hb); have HV3 := hid (HV2.out.trans hb); clear hb; clear y0 y1 y2 y3 y4 y5 y6 y7 y8; obtain ⟨y0, y1, y2, y3, y4, y5, y6, y7, y8⟩ := cells9 (HV3.out.heap Q0.out)) | (go_at_call 39; with_reducible refine (HTR.out _ HE3.out).mono ?_; rintro e x4 ⟨⟨LB, lm, ld, rfl, hm, htl⟩, hb⟩; have HE4 := hid (HE3.out.trans hb); have HV4 := hid (HV3.out.trans hb); have HTL := hid htl; clear htl; clear hb; clear y0 y1 y2 y3 y4 y5 y6 y7 y8; obtain ⟨y0, y1, y2, y3, y4, y5, y6, y7, y8⟩ := cells9 (HV4.out.heap Q0.out)))
 have hlm := HTL.out.len
 rw [HLN.out] at hlm
 subst hlm
 go_wp2_with (first | (go_at_call 11; with_reducible refine (awake_c _).mono ?_; rintro e w99 ⟨rfl, hb99⟩) | (with_reducible refine ⟨trivial, ?_⟩))
 go_ret
 exact ⟨rfl, HE4.out.trans hb99⟩

set_option maxRecDepth 1000000 in
set_option maxHeartbeats 16000000 in
theorem cropGreatest_yes (f : M.Cf) (Ag Aw Ab Ac Al : Option Addr) (ng cg nw cw nb cb nc cc nl cl : Nat) (hl0 : -9223372036854775808 ≤ f.last) (a b : Int) (a0 : 0 ≤ a) (a1 : a < 65536) (b0 : 0 ≤ b) (b1 : b < 65536) (w : World) (HCS : Hid (CS w w.heap.size f Ag Aw Ab Ac Al ng cg nw cw nb cb nc cc nl cl)) (hr : M.rdy f ng nw nb nc nl = true) (hsm : M.small ng nw nb nc nl) (h0 : M.check f = 0) (ht : M.truths f ≠ []) :
  Calls Tryz.prog 9 #[.agg #[.int .i64 f.last, .slice Ag ng cg, .slice Aw nw cw, .slice Ab nb cb, .slice Ac nc cc, .int .i64 f.ripe, .int .i64 f.late, .int .i64 f.trod, .slice Al nl cl], .int .u16 a, .int .u16 b] w fun e w' => e = .returned (.bool true) ∧ Ev w w' := by
 obtain ⟨s0, s1, s2, s3, s4⟩ := hsm
 have HRD := hid (fun W (hE : Ev w W) => by have := ready_c f Ag Aw Ab Ac Al ng cg nw cw nb cb nc cc nl cl hl0 W (fun _ => HCS.out.ev hE); rw [hr] at this; exact this)
 have HTR := hid (fun W (hE : Ev w W) => Truths_c f Ag Aw Ab Ac Al ng cg nw cw nb cb nc cc nl cl h0 W (HCS.out.ev hE))
 have hv := (M.check_ok h0).1
 have hl9 := (M.check0 h0).1
 have hb3 := (M.check0 h0).2.1
 have hbl := HCS.out.b.len
 have hbg : M.begin f true = 0 := by unfold M.begin; rw [if_neg (by simp [h0]), if_neg (by simp), if_neg ht]
 have HBG := hid (fun p (hp : M.isPlan f p = true) => show M.begin f (M.isPlan f p) = 0 from by rw [hp]; exact hbg)
 have HBS := hid (fun (Bg : Option Addr) (dg : Nat) (Bw : Option Addr) (dw : Nat) (Bb : Option Addr) (db : Nat) (Bc : Option Addr) (dc : Nat) (Bl : Option Addr) (dl : Nat) W (h : CS W W.heap.size f Bg Bw Bb Bc Bl ng dg nw dw nb db nc dc nl dl) => Best_ok f Bg Bw Bb Bc Bl ng dg nw dw nb db nc dc nl dl hl0 W h hbg)
 obtain ⟨e1, e2, e3⟩ := M.best_least h0 ht
 have hsn := fun p => show (M.worth f p).lo = M.sure f (M.truths f) p from rfl
 generalize M.best f (M.truths f) = bb at HBS e1 e2 e3
 obtain ⟨best, n⟩ := bb
 simp only at HBS e1 e2 e3
 have hbw : (M.worth f best).lo = n := by rw [hsn]; exact e2
 have hbln := (M.plan_parts e1).1
 obtain ⟨tm, htm, hte⟩ : ∃ t ∈ M.truths f, M.total f t best = n := by
  have := (M.span_two (l := (M.truths f).map fun t => M.total f t best) (by simpa using ht)).1
  rw [show (M.span ((M.truths f).map fun t => M.total f t best)).lo = n from hbw] at this
  obtain ⟨t, h1, h2⟩ := List.mem_map.1 this
  exact ⟨t, h1, h2⟩
 have hnb := M.total_bd h0 (M.truths_listed h0 tm htm) e1
 rw [hte] at hnb
 have HIB := hid (fun B d W (h : Sl ics 1 W W.heap.size B best.length d best) => by have := rIsPlan_c f Ag Aw Ab Ac Al ng cg nw cw nb cb nc cc nl cl HCS.out.b.len HCS.out.b.small B best.length d best W h; rw [e1] at this; exact this)
 have HP1 := hid (fun (Bg : Option Addr) (dg : Nat) (Bw : Option Addr) (dw : Nat) (Bb : Option Addr) (db : Nat) (Bc : Option Addr) (dc : Nat) (Bl : Option Addr) (dl : Nat) (L : Option Addr) (d : Nat) W (h : CS W W.heap.size f Bg Bw Bb Bc Bl ng dg nw dw nb db nc dc nl dl) (hp : Sl ics 1 W W.heap.size L best.length d best) => by have := ProveWorth_ok f Bg Bw Bb Bc Bl ng dg nw dw nb db nc dc nl dl L best.length d best n hl0 W h hp (HBG.out best e1); rw [hbw, decide_eq_true (Int.le_refl n)] at this; exact this)
 have HP2 := hid (fun (Bg : Option Addr) (dg : Nat) (Bw : Option Addr) (dw : Nat) (Bb : Option Addr) (db : Nat) (Bc : Option Addr) (dc : Nat) (Bl : Option Addr) (dl : Nat) (L : Option Addr) (d : Nat) W (h : CS W W.heap.size f Bg Bw Bb Bc Bl ng dg nw dw nb db nc dc nl dl) (hp : Sl ics 1 W W.heap.size L best.length d best) => by have := ProveWorth_ok f Bg Bw Bb Bc Bl ng dg nw dw nb db nc dc nl dl L best.length d best (n + 1) hl0 W h hp (HBG.out best e1); rw [hbw, decide_eq_false (show ¬ n + 1 ≤ n by omega)] at this; exact this)
 have g1 : IntKind.i64.wrap (n + 1) = n + 1 := IntWalk.i64_in _ (by omega)
 have HE3_ := hid e3
 have HTS := hid (fun t (h : t ∈ M.rtr f) => show M.listed f t = true ∧ n ≤ M.total f t best from ⟨M.rtr_listed h0 t h, by
  rw [← hbw]
  exact (M.span_in (List.mem_map.2 ⟨t, (M.rtr_mem h0).1 h, rfl⟩)).1⟩)
 have HTO_ := hid (fun (Tg Tw : Option Addr) (tg tgc tw twc : Nat) (t : M.Tr) (h : t ∈ M.rtr f) W (hE : Ev w W) (hg : Sl ics 1 W W.heap.size Tg tg tgc t.gr) (hw : Sl ics 1 W W.heap.size Tw tw twc t.wet) (B : Option Addr) (d : Nat) (hp : Sl ics 1 W W.heap.size B best.length d best) => rTotal_c f Ag Aw Ab Ac Al ng cg nw cw nb cb nc cc nl cl Tg Tw tg tgc tw twc t B best.length d best h0 (M.rtr_listed h0 t h) e1 W (HCS.out.ev hE) hg hw hp)
 have HPN := hid (fun W => planned_c f Ag Aw Ab Ac Al ng cg nw cw nb cb nc cc nl cl hv hl9 b b0 b1 W hbl (by omega))
 have HNE := hid (fun h => ht ((M.rtr_nil h0).1 h))
 obtain ⟨an, rfl⟩ : ∃ an : Nat, a = an := ⟨a.toNat, by omega⟩
 have m3 : IntKind.i64.wrap (an : Int) = an := IntWalk.i64_in _ (by omega)
 clear hr hbg e2 e3 hsn hbw htm hte
 go_enter Tryz.func9, Tryz.ntmps9
 go_upto_region 5 with (first | (go_at_call 37; with_reducible refine (HRD.out _ (Ev.alloc (Ev.refl _) _)).mono ?_; rintro e w1 ⟨rfl, hb1⟩; have hG : Ev w w1 := (Ev.alloc (Ev.refl _) _).trans hb1; have Q0 := hid (hb1.heap (alloc1 w (.cells #[.int .i64 f.last, .slice Ag ng cg, .slice Aw nw cw, .slice Ab nb cb, .slice Ac nc cc, .int .i64 f.ripe, .int .i64 f.late, .int .i64 f.trod, .slice Al nl cl] 26)).1); obtain ⟨y0, y1, y2, y3, y4, y5, y6, y7, y8⟩ := cells9 Q0.out) | (go_at_call 13; with_reducible refine (Field_c f Ag Aw Ab Ac Al ng cg nw cw nb cb nc cc nl cl (by omega) (by omega) (by omega) (by omega) (by omega) _ (HCS.out.ev hG)).mono ?_; rintro e x2 ⟨⟨Bg2, dg2, Bw2, dw2, Bb2, db2, Bc2, dc2, Bl2, dl2, rfl, hc⟩, hb⟩; have HE2 := hid (hG.trans hb); have HV2 := hid hb; have HC2 := hid hc; clear hc hb) | (go_at_call 29; with_reducible refine (HBS.out Bg2 dg2 Bw2 dw2 Bb2 db2 Bc2 dc2 Bl2 dl2 _ HC2.out).mono ?_; rintro e x3 ⟨⟨BT, dT, rfl, hbt⟩, hb⟩; have HE3 := hid (HE2.out.trans hb); have HV3 := hid (HV2.out.trans hb); have HT3 := hid hbt; have HX3 := hid (Ev.refl x3); clear hbt; clear hb; clear y0 y1 y2 y3 y4 y5 y6 y7 y8; obtain ⟨y0, y1, y2, y3, y4, y5, y6, y7, y8⟩ := cells9 (HV3.out.heap Q0.out)) | (go_at_call 39; with_reducible refine (HTR.out _ HE3.out).mono ?_; rintro e x4 ⟨⟨LB, lm, ld, rfl, hm, htl⟩, hb⟩; have HE4 := hid (HE3.out.trans hb); have HV4 := hid (HV3.out.trans hb); have HX4 := hid (HX3.out.trans hb); have HTL := hid htl; clear htl; clear hb; clear y0 y1 y2 y3 y4 y5 y6 y7 y8; obtain ⟨y0, y1, y2, y3, y4, y5, y6, y7, y8⟩ := cells9 (HV4.out.heap Q0.out)))
 have hlm := HTL.out.len
 have hlm0 : lm ≠ 0 := fun e => HNE.out (List.eq_nil_of_length_eq_zero (by rw [hlm, e]))
 have hlmb : ((lm : Int) == 0) = false := by simp; omega
 go_upto_region 7 with fail
 obtain ⟨vs, hvs, hrs⟩ := HTL.out
 have m0 : ¬ ((lm : Int) = 0) := by omega
 have m1 : (an : Int).tmod lm = ((an % lm : Nat) : Int) := by rw [Int.tmod_eq_emod_of_nonneg (by omega)]; exact (Int.natCast_emod an lm).symm
 have m2 : (an : Int) % lm = ((an % lm : Nat) : Int) := (Int.natCast_emod an lm).symm
 have haq : an % lm < lm := Nat.mod_lt _ (by omega)
 generalize an % lm = aq at m1 m2 haq
 have m4 : IntKind.i64.wrap (aq : Int) = aq := IntWalk.i64_in _ (by omega)
 obtain ⟨bk, off, v, hA, hb, hx, hxd, hcc⟩ := hvs.at_ (Below.refl _ _) haq
 have haq' : aq < (M.rtr f).length := by rw [hlm]; exact haq
 have htk : (M.rtr f)[aq]? = some (M.rtr f)[aq] := List.getElem?_eq_getElem _
 generalize (M.rtr f)[aq] = t at htk
 have htm := List.mem_of_getElem? htk
 obtain ⟨r1, r2, r3, r4⟩ := hrs.2 aq v t hx htk
 have e0 := hcc 0 _ rfl
 have e1 := hcc 1 _ rfl
 simp only [Nat.add_zero] at e0
 have hcap := hvs.cap
 have hsg := sl_own (enc := ics) (by decide) (ics_len _) (by omega) r1
 have hsw := sl_own (enc := ics) (by decide) (ics_len _) (by omega) r2
 have hbt := HT3.out.ev HX4.out
 have HTO := hid (fun W (hE : Ev x4 W) => HTO_.out v.1.1 v.2.1 v.1.2.1 v.1.2.2 v.2.2.1 v.2.2.2 t htm W (HE4.out.trans hE) (hsg.ev hE) (hsw.ev hE) BT dT (hbt.ev hE))
 have hn := (HTS.out t htm).2
 generalize M.total f t best = tt at HTO hn
 have k1 : ¬ (tt < n) := by omega
 subst hA
 clear hx hxd hcc hvs hrs r1 r2 htk htm hsg hsw hbt haq' HTS HTO_ HNE
 have l0 := heap_lt (HV4.out.heap Q0.out)
 have HSE : Hid (∀ w', Ev x4 w' → (∀ o, w'.cell? ⟨w.heap.size, o, none⟩ = x4.cell? ⟨w.heap.size, o, none⟩) ∧ (∀ o, w'.cell? ⟨bk, o, none⟩ = x4.cell? ⟨bk, o, none⟩)) := hid (fun w' h => ⟨fun o => h.cells.1 _ o l0, fun o => h.cells.1 _ o hb⟩)
 refine wp_region_held_drew (S := fun w' => (∀ o, w'.cell? ⟨w.heap.size, o, none⟩ = x4.cell? ⟨w.heap.size, o, none⟩) ∧ (∀ o, w'.cell? ⟨bk, o, none⟩ = x4.cell? ⟨bk, o, none⟩)) (by kernel_rfl) (⟨fun o => rfl, fun o => rfl⟩) (fun hHeld => ?_)
 refine tkH 0 (some 41) ?_
 (try simp only [Act.put, sA, sB, sC])
 refine tkH 1 (some 42) ?_
 (try simp only [Act.put, sA, sB, sC])
 refine tkH 2 (some 43) ?_
 (try simp only [Act.put, sA, sB, sC])
 refine tkH 3 (some 44) ?_
 (try simp only [Act.put, sA, sB, sC])
 refine tkH 4 (some 45) ?_
 (try simp only [Act.put, sA, sB, sC])
 refine wpAnyH_one (i := 5) rfl (by kernel_rfl) (by rfl) (fun K hK => ?_)
 go_simp
 refine (HIB.out BT dT _ ((HT3.out.ev HX4.out).ev (Ev.drew (Ev.refl _)))).mono ?_
 rintro e z5 ⟨rfl, hb5⟩
 have hy5 : Ev x4 z5 := Ev.trans (Ev.drew (Ev.refl _)) hb5
 refine hK.out _ _ (HSE.out _ hy5) (fun hHeld => ?_)
 clear hK K
 (try simp only [Act.put, sA, sB, sC])
 refine tkH 6 (some 47) ?_
 (try simp only [Act.put, sA, sB, sC])
 refine tkH 7 (some 48) ?_
 (try simp only [Act.put, sA, sB, sC])
 refine tkH 8 (some 49) ?_
 (try simp only [Act.put, sA, sB, sC])
 refine tkH 9 (some 50) ?_
 (try simp only [Act.put, sA, sB, sC])
 refine tkH 10 (some 51) ?_
 (try simp only [Act.put, sA, sB, sC])
 refine tkH 11 (some 52) ?_
 (try simp only [Act.put, sA, sB, sC])
 refine tkH 12 (some 53) ?_
 (try simp only [Act.put, sA, sB, sC])
 refine tkH 13 (some 54) ?_
 (try simp only [Act.put, sA, sB, sC])
 refine tkH 14 (some 55) ?_
 (try simp only [Act.put, sA, sB, sC])
 refine tkH 15 (some 56) ?_
 (try simp only [Act.put, sA, sB, sC])
 refine tkH 16 (some 57) ?_
 (try simp only [Act.put, sA, sB, sC])
 refine tkH 17 (some 58) ?_
 (try simp only [Act.put, sA, sB, sC])
 refine tkH 18 (some 59) ?_
 (try simp only [Act.put, sA, sB, sC])
 refine tkH 20 (some 61) ?_
 (try simp only [Act.put, sA, sB, sC])
 refine wpAnyH_one (i := 19) rfl (by kernel_rfl) (by rfl) (fun K hK => ?_)
 go_simp
 refine (HTO.out _ hy5).mono ?_
 rintro e z19 ⟨rfl, hb19⟩
 have hy19 : Ev x4 z19 := Ev.trans hy5 hb19
 refine hK.out _ _ (HSE.out _ hy19) (fun hHeld => ?_)
 clear hK K
 (try simp only [Act.put, sA, sB, sC])
 refine tkH 21 (some 62) ?_
 (try simp only [Act.put, sA, sB, sC])
 refine tkH 22 (some 63) ?_
 (try simp only [Act.put, sA, sB, sC])
 refine tkH 23 (some 64) ?_
 (try simp only [Act.put, sA, sB, sC])
 refine tkH 24 (some 65) ?_
 (try simp only [Act.put, sA, sB, sC])
 refine tkH 26 (some 67) ?_
 (try simp only [Act.put, sA, sB, sC])
 refine tkH 28 (some 69) ?_
 (try simp only [Act.put, sA, sB, sC])
 refine wpAnyH_one (i := 25) rfl (by kernel_rfl) (by rfl) (fun K hK => ?_)
 go_simp
 refine (Field_c f Ag Aw Ab Ac Al ng cg nw cw nb cb nc cc nl cl (by omega) (by omega) (by omega) (by omega) (by omega) _ (HCS.out.ev (HE4.out.trans hy19))).mono ?_
 rintro e z25 ⟨⟨Bg25, dg25, Bw25, dw25, Bb25, db25, Bc25, dc25, Bl25, dl25, rfl, hc25⟩, hb25⟩
 have hy25 : Ev x4 z25 := Ev.trans hy19 hb25
 refine hK.out _ _ (HSE.out _ hy25) (fun hHeld => ?_)
 clear hK K
 (try simp only [Act.put, sA, sB, sC])
 refine wpAnyH_one (i := 27) rfl (by kernel_rfl) (by rfl) (fun K hK => ?_)
 go_simp
 refine (list_c BT best.length dT best (by omega) _ ((HT3.out.ev HX4.out).ev hy25)).mono ?_
 rintro e z27 ⟨⟨L27, dL27, rfl, ho27⟩, hb27⟩
 have hy27 : Ev x4 z27 := Ev.trans hy25 hb27
 have hs27 := sl_own (enc := ics) (by decide) (ics_len _) (by omega) ho27
 refine hK.out _ _ (HSE.out _ hy27) (fun hHeld => ?_)
 clear hK K
 (try simp only [Act.put, sA, sB, sC])
 refine wpAnyH_one (i := 29) rfl (by kernel_rfl) (by rfl) (fun K hK => ?_)
 go_simp
 refine (HP1.out Bg25 dg25 Bw25 dw25 Bb25 db25 Bc25 dc25 Bl25 dl25 L27 dL27 _ (hc25.ev hb27) hs27).mono ?_
 rintro e z29 ⟨rfl, hb29⟩
 have hy29 : Ev x4 z29 := Ev.trans hy27 hb29
 refine hK.out _ _ (HSE.out _ hy29) (fun hHeld => ?_)
 clear hK K
 (try simp only [Act.put, sA, sB, sC])
 refine tkH 30 (some 71) ?_
 (try simp only [Act.put, sA, sB, sC])
 refine tkH 31 (some 72) ?_
 (try simp only [Act.put, sA, sB, sC])
 refine tkH 32 (some 73) ?_
 (try simp only [Act.put, sA, sB, sC])
 refine tkH 33 (some 74) ?_
 (try simp only [Act.put, sA, sB, sC])
 refine tkH 35 (some 76) ?_
 (try simp only [Act.put, sA, sB, sC])
 refine tkH 37 (some 78) ?_
 (try simp only [Act.put, sA, sB, sC])
 refine tkH 38 (some 79) ?_
 (try simp only [Act.put, sA, sB, sC])
 refine wpAnyH_one (i := 34) rfl (by kernel_rfl) (by rfl) (fun K hK => ?_)
 go_simp
 refine (Field_c f Ag Aw Ab Ac Al ng cg nw cw nb cb nc cc nl cl (by omega) (by omega) (by omega) (by omega) (by omega) _ (HCS.out.ev (HE4.out.trans hy29))).mono ?_
 rintro e z34 ⟨⟨Bg34, dg34, Bw34, dw34, Bb34, db34, Bc34, dc34, Bl34, dl34, rfl, hc34⟩, hb34⟩
 have hy34 : Ev x4 z34 := Ev.trans hy29 hb34
 refine hK.out _ _ (HSE.out _ hy34) (fun hHeld => ?_)
 clear hK K
 (try simp only [Act.put, sA, sB, sC])
 refine wpAnyH_one (i := 36) rfl (by kernel_rfl) (by rfl) (fun K hK => ?_)
 go_simp
 refine (list_c BT best.length dT best (by omega) _ ((HT3.out.ev HX4.out).ev hy34)).mono ?_
 rintro e z36 ⟨⟨L36, dL36, rfl, ho36⟩, hb36⟩
 have hy36 : Ev x4 z36 := Ev.trans hy34 hb36
 have hs36 := sl_own (enc := ics) (by decide) (ics_len _) (by omega) ho36
 refine hK.out _ _ (HSE.out _ hy36) (fun hHeld => ?_)
 clear hK K
 (try simp only [Act.put, sA, sB, sC])
 refine wpAnyH_one (i := 39) rfl (by kernel_rfl) (by rfl) (fun K hK => ?_)
 go_simp
 refine (HP2.out Bg34 dg34 Bw34 dw34 Bb34 db34 Bc34 dc34 Bl34 dl34 L36 dL36 _ (hc34.ev hb36) hs36).mono ?_
 rintro e z39 ⟨rfl, hb39⟩
 have hy39 : Ev x4 z39 := Ev.trans hy36 hb39
 refine hK.out _ _ (HSE.out _ hy39) (fun hHeld => ?_)
 clear hK K
 (try simp only [Act.put, sA, sB, sC])
 refine tkH 40 (some 81) ?_
 (try simp only [Act.put, sA, sB, sC])
 refine wpAnyH_done (by kernel_rfl) ?_ _
 obtain ⟨x5, hx5⟩ : ∃ x, x = z39 := ⟨_, rfl⟩
 subst hx5
 have HE5 := hid (HE4.out.trans hy39)
 have HV5 := hid (HV4.out.trans hy39)
 have HT5 := hid (HX4.out.trans hy39)
 clear HSE hHeld e0 e1 l0 k1 hn m0 m1 m2 m3 m4 g1 haq HTO HP1 HP2 HIB y0 y1 y2 y3 y4 y5 y6 y7 y8
 clear hb5 hy5 hb19 hy19 hb25 hy25 hb27 hy27 hb29 hy29 hb34 hy34 hb36 hy36 hb39 hy39 hc25 hc34 ho27 ho36 hs27 hs36
 obtain ⟨y0, y1, y2, y3, y4, y5, y6, y7, y8⟩ := cells9 (HV5.out.heap Q0.out)
 go_upto_region 10 with (go_at_call 38; with_reducible refine (HPN.out _).mono ?_; rintro e x6 ⟨⟨plan, hpl, PB, PD, rfl, hsl⟩, hb⟩; have HE6 := hid (HE5.out.trans hb); have HV6 := hid (HV5.out.trans hb); have HT6 := hid (HT5.out.trans hb); have HSP := hid hsl; have HP6 := hid (Ev.refl x6); clear hsl hb; clear y0 y1 y2 y3 y4 y5 y6 y7 y8; obtain ⟨y0, y1, y2, y3, y4, y5, y6, y7, y8⟩ := cells9 (HV6.out.heap Q0.out))
 have hpl3 : plan.length ≤ 3 := by have := (M.plan_parts hpl).1; omega
 generalize hpn : plan.length = pn at HSP hpl3 ⊢
 have hq := HE3_.out plan hpl
 rw [show M.sure f (M.truths f) plan = (M.worth f plan).lo from rfl] at hq
 have HWO := hid (fun (Bg : Option Addr) (dg : Nat) (Bw : Option Addr) (dw : Nat) (Bb : Option Addr) (db : Nat) (Bc : Option Addr) (dc : Nat) (Bl : Option Addr) (dl : Nat) (L : Option Addr) (d : Nat) W (h : CS W W.heap.size f Bg Bw Bb Bc Bl ng dg nw dw nb db nc dc nl dl) (hp : Sl ics 1 W W.heap.size L pn d plan) => Worth_ok f Bg Bw Bb Bc Bl ng dg nw dw nb db nc dc nl dl L pn d plan hl0 W h hp (HBG.out plan hpl))
 have HWS := hid (fun (Bg : Option Addr) (dg : Nat) (Bw : Option Addr) (dw : Nat) (Bb : Option Addr) (db : Nat) (Bc : Option Addr) (dc : Nat) (Bl : Option Addr) (dl : Nat) (L : Option Addr) (d : Nat) W (h : CS W W.heap.size f Bg Bw Bb Bc Bl ng dg nw dw nb db nc dc nl dl) (hp : Sl ics 1 W W.heap.size L pn d plan) => Worst_ok f Bg Bw Bb Bc Bl ng dg nw dw nb db nc dc nl dl L pn d plan hl0 W h hp (HBG.out plan hpl))
 generalize M.worth f plan = wf at HWO HWS hq
 clear HE3_ HBG
 go_upto_region 11 with (first | (go_at_call 13; with_reducible refine (Field_c f Ag Aw Ab Ac Al ng cg nw cw nb cb nc cc nl cl (by omega) (by omega) (by omega) (by omega) (by omega) _ (HCS.out.ev HE6.out)).mono ?_; rintro e x7 ⟨⟨Bg7, dg7, Bw7, dw7, Bb7, db7, Bc7, dc7, Bl7, dl7, rfl, hc⟩, hb⟩; have HE7 := hid (HE6.out.trans hb); have HV7 := hid (HV6.out.trans hb); have HT7 := hid (HT6.out.trans hb); have HP7 := hid (HP6.out.trans hb); have HC7 := hid hc; clear hc hb) | (go_at_call 14; with_reducible refine (list_c PB pn PD plan (by omega) _ (HSP.out.ev HP7.out)).mono ?_; rintro e x8 ⟨⟨L8, dL8, rfl, ho⟩, hb⟩; have HE8 := hid (HE7.out.trans hb); have HV8 := hid (HV7.out.trans hb); have HT8 := hid (HT7.out.trans hb); have HP8 := hid (HP7.out.trans hb); have HO8 := hid (sl_own (enc := ics) (by decide) (ics_len _) (by omega) ho); have HC8 := hid (HC7.out.ev hb); clear ho hb) | (go_at_call 15; with_reducible refine (HWO.out Bg7 dg7 Bw7 dw7 Bb7 db7 Bc7 dc7 Bl7 dl7 L8 dL8 _ HC8.out HO8.out).mono ?_; rintro e x9 ⟨rfl, hb⟩; have HE9 := hid (HE8.out.trans hb); have HV9 := hid (HV8.out.trans hb); have HT9 := hid (HT8.out.trans hb); have HP9 := hid (HP8.out.trans hb); clear hb; clear y0 y1 y2 y3 y4 y5 y6 y7 y8; obtain ⟨y0, y1, y2, y3, y4, y5, y6, y7, y8⟩ := cells9 (HV9.out.heap Q0.out)))
 generalize hWA : World.alloc x9 _ = WA
 have hEA : Ev x9 WA := by rw [← hWA]; exact Ev.alloc (Ev.refl _) _
 have hal := alloc1 x9 (.cells #[.int .i64 wf.lo, .int .i64 wf.hi] 40)
 rw [hWA] at hal
 have HR := hid hal.1
 have HE10 := hid (HE9.out.trans hEA)
 have HV10 := hid (HV9.out.trans hEA)
 have HT10 := hid (HT9.out.trans hEA)
 have HP10 := hid (HP9.out.trans hEA)
 have HA10 := hid (Ev.refl WA)
 clear hal hWA hEA HC7 HC8 HO8 HWO y0 y1 y2 y3 y4 y5 y6 y7 y8
 generalize x9.heap.size = r at HR
 obtain ⟨y0, y1, y2, y3, y4, y5, y6, y7, y8⟩ := cells9 (HV10.out.heap Q0.out)
 obtain ⟨z0, z1⟩ := cells2 HR.out
 go_upto_region 12 with (first | (go_at_call 13; with_reducible refine (Field_c f Ag Aw Ab Ac Al ng cg nw cw nb cb nc cc nl cl (by omega) (by omega) (by omega) (by omega) (by omega) _ (HCS.out.ev HE10.out)).mono ?_; rintro e x11 ⟨⟨Bg11, dg11, Bw11, dw11, Bb11, db11, Bc11, dc11, Bl11, dl11, rfl, hc⟩, hb⟩; have HE11 := hid (HE10.out.trans hb); have HV11 := hid (HV10.out.trans hb); have HT11 := hid (HT10.out.trans hb); have HP11 := hid (HP10.out.trans hb); have HA11 := hid (HA10.out.trans hb); have HC11 := hid hc; clear hc hb) | (go_at_call 14; with_reducible refine (list_c PB pn PD plan (by omega) _ (HSP.out.ev HP11.out)).mono ?_; rintro e x12 ⟨⟨L12, dL12, rfl, ho⟩, hb⟩; have HE12 := hid (HE11.out.trans hb); have HV12 := hid (HV11.out.trans hb); have HT12 := hid (HT11.out.trans hb); have HP12 := hid (HP11.out.trans hb); have HA12 := hid (HA11.out.trans hb); have HO12 := hid (sl_own (enc := ics) (by decide) (ics_len _) (by omega) ho); have HC12 := hid (HC11.out.ev hb); clear ho hb) | (go_at_call 25; with_reducible refine (HWS.out Bg11 dg11 Bw11 dw11 Bb11 db11 Bc11 dc11 Bl11 dl11 L12 dL12 _ HC12.out HO12.out).mono ?_; rintro e x13 ⟨⟨t2, Tg, Tw, tg, tgc, tw, twc, htm, hto, rfl, hsg, hsw⟩, hb⟩; have HE13 := hid (HE12.out.trans hb); have HV13 := hid (HV12.out.trans hb); have HT13 := hid (HT12.out.trans hb); have HP13 := hid (HP12.out.trans hb); have HA13 := hid (HA12.out.trans hb); have HTG := hid hsg; have HTW := hid hsw; have HT2 := hid (And.intro htm hto); clear hsg hsw htm hto; clear hb; clear y0 y1 y2 y3 y4 y5 y6 y7 y8; obtain ⟨y0, y1, y2, y3, y4, y5, y6, y7, y8⟩ := cells9 (HV13.out.heap Q0.out); clear z0 z1; obtain ⟨z0, z1⟩ := cells2 (HA13.out.heap HR.out)))
 generalize hWB : World.alloc x13 _ = WB
 have hEB : Ev x13 WB := by rw [← hWB]; exact Ev.alloc (Ev.refl _) _
 have hal := alloc1 x13 (.cells #[.slice Tg tg tgc, .slice Tw tw twc] 61)
 rw [hWB] at hal
 have HQ := hid hal.1
 have HE14 := hid (HE13.out.trans hEB)
 have HV14 := hid (HV13.out.trans hEB)
 have HT14 := hid (HT13.out.trans hEB)
 have HP14 := hid (HP13.out.trans hEB)
 have HA14 := hid (HA13.out.trans hEB)
 have HTG2 := hid (HTG.out.ev hEB)
 have HTW2 := hid (HTW.out.ev hEB)
 clear hal hWB hEB HC11 HC12 HO12 HWS HTG HTW y0 y1 y2 y3 y4 y5 y6 y7 y8 z0 z1
 generalize x13.heap.size = q at HQ
 obtain ⟨y0, y1, y2, y3, y4, y5, y6, y7, y8⟩ := cells9 (HV14.out.heap Q0.out)
 obtain ⟨z0, z1⟩ := cells2 (HA14.out.heap HR.out)
 obtain ⟨u0, u1⟩ := cells2 HQ.out
 have l0 := heap_lt (HV14.out.heap Q0.out)
 have l1 := heap_lt (HA14.out.heap HR.out)
 have l2 := heap_lt HQ.out
 obtain ⟨htm, hto⟩ := HT2.out
 have hls := M.truths_listed h0 t2 htm
 have hrt : M.right f t2 = true := by unfold M.truths at htm; exact (List.mem_filter.1 htm).2
 have HPT := hid (fun (Bg : Option Addr) (dg : Nat) (Bw : Option Addr) (dw : Nat) (Bb : Option Addr) (db : Nat) (Bc : Option Addr) (dc : Nat) (Bl : Option Addr) (dl : Nat) W (hE : Ev WB W) (h : CS W W.heap.size f Bg Bw Bb Bc Bl ng dg nw dw nb db nc dc nl dl) => by have := ProveTruth_ok f Bg Bw Bb Bc Bl ng dg nw dw nb db nc dc nl dl Tg Tw tg tgc tw twc t2 hl0 W h (HTG2.out.ev hE) (HTW2.out.ev hE) h0 hls; rw [hrt] at this; exact this)
 have HPL := hid (fun (Bg : Option Addr) (dg : Nat) (Bw : Option Addr) (dw : Nat) (Bb : Option Addr) (db : Nat) (Bc : Option Addr) (dc : Nat) (Bl : Option Addr) (dl : Nat) (L : Option Addr) (d : Nat) W (hE : Ev WB W) (h : CS W W.heap.size f Bg Bw Bb Bc Bl ng dg nw dw nb db nc dc nl dl) (hp : Sl ics 1 W W.heap.size L pn d plan) => Play_ok f Bg Bw Bb Bc Bl ng dg nw dw nb db nc dc nl dl Tg Tw tg tgc tw twc t2 L pn d plan hl0 W h (HTG2.out.ev hE) (HTW2.out.ev hE) hp h0 hls hpl)
 have HBE := hid (fun (hl : M.lexlt plan best = false) W (hE : Ev WB W) => (by have := Before_c PB BT pn PD best.length dT plan best W (HSP.out.ev (HP14.out.trans hE)) (HT3.out.ev (HT14.out.trans hE)); rw [hl] at this; exact this))
 have HCW := hid (fun k (hk : k < pn) => M.crop_wo (plan := plan) h0 hls (i := k) (by omega))
 have HTK := hid (show M.totK f t2 plan pn = wf.lo by rw [← hpn, M.totK_all]; exact hto)
 have HPA := hid (fun k (hk : k < pn) => M.play_at (f := f) (t := t2) (p := plan) (i := k) (by omega))
 clear hto htm hls hrt hpl hpn h0 HT2
 have HSE : Hid (∀ w', Ev WB w' → (∀ o, w'.cell? ⟨w.heap.size, o, none⟩ = WB.cell? ⟨w.heap.size, o, none⟩) ∧ (∀ o, w'.cell? ⟨r, o, none⟩ = WB.cell? ⟨r, o, none⟩) ∧ (∀ o, w'.cell? ⟨q, o, none⟩ = WB.cell? ⟨q, o, none⟩)) := hid (fun w' h => ⟨fun o => h.cells.1 _ o l0, fun o => h.cells.1 _ o l1, fun o => h.cells.1 _ o l2⟩)
 go_cut [130] (fun v W => v = .bool false ∧ Ev WB W)
 case first =>
  have k2 : ¬ (wf.lo > n) := by omega
  by_cases heq : wf.lo = n
  ·
   have hbe := HBE.out (hq.2 heq)
   replace HBE := hid hbe
   have k3 : (wf.lo == n) = true := by simp [heq]
   clear heq hq hbe
   refine wp_region_held_drew (S := fun w' => (∀ o, w'.cell? ⟨w.heap.size, o, none⟩ = WB.cell? ⟨w.heap.size, o, none⟩) ∧ (∀ o, w'.cell? ⟨r, o, none⟩ = WB.cell? ⟨r, o, none⟩) ∧ (∀ o, w'.cell? ⟨q, o, none⟩ = WB.cell? ⟨q, o, none⟩)) (by kernel_rfl) (⟨fun o => rfl, fun o => rfl, fun o => rfl⟩) (fun hHeld => ?_)
   refine tkH 0 (some 101) ?_
   (try simp only [Act.put, sA, sB, sC])
   refine tkH 1 (some 102) ?_
   (try simp only [Act.put, sA, sB, sC])
   refine tkH 2 (some 103) ?_
   (try simp only [Act.put, sA, sB, sC])
   refine tkH 3 (some 104) ?_
   (try simp only [Act.put, sA, sB, sC])
   refine tkH 4 (some 105) ?_
   (try simp only [Act.put, sA, sB, sC])
   refine tkH 5 (some 106) ?_
   (try simp only [Act.put, sA, sB, sC])
   refine tkH 6 (some 107) ?_
   (try simp only [Act.put, sA, sB, sC])
   refine tkH 7 (some 108) ?_
   (try simp only [Act.put, sA, sB, sC])
   refine tkH 8 (some 109) ?_
   (try simp only [Act.put, sA, sB, sC])
   refine tkH 9 (some 110) ?_
   (try simp only [Act.put, sA, sB, sC])
   refine tkH 10 (some 111) ?_
   (try simp only [Act.put, sA, sB, sC])
   refine tkH 11 (some 112) ?_
   (try simp only [Act.put, sA, sB, sC])
   refine tkH 12 (some 113) ?_
   (try simp only [Act.put, sA, sB, sC])
   refine tkH 13 (some 114) ?_
   (try simp only [Act.put, sA, sB, sC])
   refine tkH 14 (some 115) ?_
   (try simp only [Act.put, sA, sB, sC])
   refine tkH 15 (some 116) ?_
   (try simp only [Act.put, sA, sB, sC])
   refine tkH 16 (some 117) ?_
   (try simp only [Act.put, sA, sB, sC])
   refine tkH 17 (some 118) ?_
   (try simp only [Act.put, sA, sB, sC])
   refine tkH 18 (some 119) ?_
   (try simp only [Act.put, sA, sB, sC])
   refine tkH 19 (some 120) ?_
   (try simp only [Act.put, sA, sB, sC])
   refine wpAnyH_one (i := 20) rfl (by kernel_rfl) (by rfl) (fun K hK => ?_)
   go_simp
   refine (HBE.out _ (Ev.drew (Ev.refl _))).mono ?_
   rintro e z20 ⟨rfl, hb20⟩
   have hy20 : Ev WB z20 := Ev.trans (Ev.drew (Ev.refl _)) hb20
   refine hK.out _ _ (HSE.out _ hy20) (fun hHeld => ?_)
   clear hK K
   (try simp only [Act.put, sA, sB, sC])
   refine tkH 21 (some 122) ?_
   (try simp only [Act.put, sA, sB, sC])
   refine tkH 22 (some 123) ?_
   (try simp only [Act.put, sA, sB, sC])
   refine tkH 23 (some 124) ?_
   (try simp only [Act.put, sA, sB, sC])
   refine tkH 24 (some 125) ?_
   (try simp only [Act.put, sA, sB, sC])
   refine tkH 26 (some 127) ?_
   (try simp only [Act.put, sA, sB, sC])
   refine wpAnyH_one (i := 25) rfl (by kernel_rfl) (by rfl) (fun K hK => ?_)
   go_simp
   refine (Field_c f Ag Aw Ab Ac Al ng cg nw cw nb cb nc cc nl cl (by omega) (by omega) (by omega) (by omega) (by omega) _ (HCS.out.ev (HE14.out.trans hy20))).mono ?_
   rintro e z25 ⟨⟨Bg25, dg25, Bw25, dw25, Bb25, db25, Bc25, dc25, Bl25, dl25, rfl, hc25⟩, hb25⟩
   have hy25 : Ev WB z25 := Ev.trans hy20 hb25
   refine hK.out _ _ (HSE.out _ hy25) (fun hHeld => ?_)
   clear hK K
   (try simp only [Act.put, sA, sB, sC])
   refine wpAnyH_one (i := 27) rfl (by kernel_rfl) (by rfl) (fun K hK => ?_)
   go_simp
   refine (HPT.out Bg25 dg25 Bw25 dw25 Bb25 db25 Bc25 dc25 Bl25 dl25 _ hy25 hc25).mono ?_
   rintro e z27 ⟨rfl, hb27⟩
   have hy27 : Ev WB z27 := Ev.trans hy25 hb27
   refine hK.out _ _ (HSE.out _ hy27) (fun hHeld => ?_)
   clear hK K
   (try simp only [Act.put, sA, sB, sC])
   refine tkH 28 (some 129) ?_
   (try simp only [Act.put, sA, sB, sC])
   refine tkH 29 (some 130) ?_
   (try simp only [Act.put, sA, sB, sC])
   refine wpAnyH_done (by kernel_rfl) ?_ _
   go_wp2_with fail
   go_meet
   exact ⟨rfl, hy27⟩
  ·
   have k3 : (wf.lo == n) = false := by simpa using heq
   clear heq hq HBE
   refine wp_region_held_drew (S := fun w' => (∀ o, w'.cell? ⟨w.heap.size, o, none⟩ = WB.cell? ⟨w.heap.size, o, none⟩) ∧ (∀ o, w'.cell? ⟨r, o, none⟩ = WB.cell? ⟨r, o, none⟩) ∧ (∀ o, w'.cell? ⟨q, o, none⟩ = WB.cell? ⟨q, o, none⟩)) (by kernel_rfl) (⟨fun o => rfl, fun o => rfl, fun o => rfl⟩) (fun hHeld => ?_)
   refine tkH 0 (some 101) ?_
   (try simp only [Act.put, sA, sB, sC])
   refine tkH 1 (some 102) ?_
   (try simp only [Act.put, sA, sB, sC])
   refine tkH 2 (some 103) ?_
   (try simp only [Act.put, sA, sB, sC])
   refine tkH 3 (some 104) ?_
   (try simp only [Act.put, sA, sB, sC])
   refine tkH 4 (some 105) ?_
   (try simp only [Act.put, sA, sB, sC])
   refine tkH 5 (some 106) ?_
   (try simp only [Act.put, sA, sB, sC])
   refine tkH 6 (some 107) ?_
   (try simp only [Act.put, sA, sB, sC])
   refine tkH 7 (some 108) ?_
   (try simp only [Act.put, sA, sB, sC])
   refine tkH 8 (some 109) ?_
   (try simp only [Act.put, sA, sB, sC])
   refine tkH 9 (some 110) ?_
   (try simp only [Act.put, sA, sB, sC])
   refine tkH 10 (some 111) ?_
   (try simp only [Act.put, sA, sB, sC])
   refine tkH 11 (some 112) ?_
   (try simp only [Act.put, sA, sB, sC])
   refine tkH 12 (some 113) ?_
   (try simp only [Act.put, sA, sB, sC])
   refine tkH 13 (some 114) ?_
   (try simp only [Act.put, sA, sB, sC])
   refine tkH 14 (some 115) ?_
   (try simp only [Act.put, sA, sB, sC])
   refine tkH 15 (some 116) ?_
   (try simp only [Act.put, sA, sB, sC])
   refine tkH 16 (some 117) ?_
   (try simp only [Act.put, sA, sB, sC])
   refine tkH 17 (some 118) ?_
   (try simp only [Act.put, sA, sB, sC])
   refine wpAnyH_skip (i := 18) (some 119) rfl (by kernel_rfl) (by kernel_rfl) (by kernel_rfl) (fun _ _ _ h => h) (by rfl) (by assumption) ?_
   (try simp only [Act.put, sA, sB, sC])
   refine wpAnyH_skip (i := 19) (some 120) rfl (by kernel_rfl) (by kernel_rfl) (by kernel_rfl) (fun _ _ _ h => h) (by rfl) (by assumption) ?_
   (try simp only [Act.put, sA, sB, sC])
   refine wpAnyH_skip (i := 20) (some 121) rfl (by kernel_rfl) (by kernel_rfl) (by kernel_rfl) (fun _ _ _ h => h) (by rfl) (by assumption) ?_
   (try simp only [Act.put, sA, sB, sC])
   refine tkH 21 (some 122) ?_
   (try simp only [Act.put, sA, sB, sC])
   refine tkH 22 (some 123) ?_
   (try simp only [Act.put, sA, sB, sC])
   refine tkH 23 (some 124) ?_
   (try simp only [Act.put, sA, sB, sC])
   refine tkH 24 (some 125) ?_
   (try simp only [Act.put, sA, sB, sC])
   refine tkH 26 (some 127) ?_
   (try simp only [Act.put, sA, sB, sC])
   refine wpAnyH_one (i := 25) rfl (by kernel_rfl) (by rfl) (fun K hK => ?_)
   go_simp
   refine (Field_c f Ag Aw Ab Ac Al ng cg nw cw nb cb nc cc nl cl (by omega) (by omega) (by omega) (by omega) (by omega) _ (HCS.out.ev (HE14.out.trans (Ev.drew (Ev.refl _))))).mono ?_
   rintro e z25 ⟨⟨Bg25, dg25, Bw25, dw25, Bb25, db25, Bc25, dc25, Bl25, dl25, rfl, hc25⟩, hb25⟩
   have hy25 : Ev WB z25 := Ev.trans (Ev.drew (Ev.refl _)) hb25
   refine hK.out _ _ (HSE.out _ hy25) (fun hHeld => ?_)
   clear hK K
   (try simp only [Act.put, sA, sB, sC])
   refine wpAnyH_one (i := 27) rfl (by kernel_rfl) (by rfl) (fun K hK => ?_)
   go_simp
   refine (HPT.out Bg25 dg25 Bw25 dw25 Bb25 db25 Bc25 dc25 Bl25 dl25 _ hy25 hc25).mono ?_
   rintro e z27 ⟨rfl, hb27⟩
   have hy27 : Ev WB z27 := Ev.trans hy25 hb27
   refine hK.out _ _ (HSE.out _ hy27) (fun hHeld => ?_)
   clear hK K
   (try simp only [Act.put, sA, sB, sC])
   refine tkH 28 (some 129) ?_
   (try simp only [Act.put, sA, sB, sC])
   refine tkH 29 (some 130) ?_
   (try simp only [Act.put, sA, sB, sC])
   refine wpAnyH_done (by kernel_rfl) ?_ _
   go_wp2_with fail
   go_meet
   exact ⟨rfl, hy27⟩
 case rest =>
  obtain ⟨rfl, hX⟩ := hcut
  obtain ⟨W5, hW5⟩ : ∃ x, x = wc := ⟨_, rfl⟩
  subst hW5
  have HE15 := hid (HE14.out.trans hX)
  have HP15 := hid (HP14.out.trans hX)
  have HWX := hid hX
  have HV15 := hid (HV14.out.trans hX)
  have HR15 := hid ((HA14.out.trans hX).heap HR.out)
  have HQ15 := hid (hX.heap HQ.out)
  clear HSE l0 l1 l2 y0 y1 y2 y3 y4 y5 y6 y7 y8 z0 z1 u0 u1 hX HBE HPT hq
  obtain ⟨y0, y1, y2, y3, y4, y5, y6, y7, y8⟩ := cells9 (HV15.out.heap Q0.out)
  obtain ⟨u0, u1⟩ := cells2 HQ15.out
  have l0 := heap_lt (HV15.out.heap Q0.out)
  have l2 := heap_lt HQ15.out
  go_upto_region 14 with fail
  have HSF : Hid (∀ w', Ev W5 w' → (∀ o, w'.cell? ⟨w.heap.size, o, none⟩ = W5.cell? ⟨w.heap.size, o, none⟩) ∧ (∀ o, w'.cell? ⟨q, o, none⟩ = W5.cell? ⟨q, o, none⟩)) := hid (fun w' h => ⟨fun o => h.cells.1 _ o l0, fun o => h.cells.1 _ o l2⟩)
  refine wp_region_held_drew (S := fun w' => (∀ o, w'.cell? ⟨w.heap.size, o, none⟩ = W5.cell? ⟨w.heap.size, o, none⟩) ∧ (∀ o, w'.cell? ⟨q, o, none⟩ = W5.cell? ⟨q, o, none⟩)) (by kernel_rfl) (⟨fun o => rfl, fun o => rfl⟩) (fun hHeld => ?_)
  refine tkH 0 (some 132) ?_
  (try simp only [Act.put, sA, sB, sC])
  refine tkH 2 (some 134) ?_
  (try simp only [Act.put, sA, sB, sC])
  refine tkH 3 (some 135) ?_
  (try simp only [Act.put, sA, sB, sC])
  refine wpAnyH_one (i := 1) rfl (by kernel_rfl) (by rfl) (fun K hK => ?_)
  go_simp
  refine (Field_c f Ag Aw Ab Ac Al ng cg nw cw nb cb nc cc nl cl (by omega) (by omega) (by omega) (by omega) (by omega) _ (HCS.out.ev (HE15.out.trans (Ev.drew (Ev.refl _))))).mono ?_
  rintro e z1 ⟨⟨Bg1, dg1, Bw1, dw1, Bb1, db1, Bc1, dc1, Bl1, dl1, rfl, hc1⟩, hb1⟩
  have hy1 : Ev W5 z1 := Ev.trans (Ev.drew (Ev.refl _)) hb1
  refine hK.out _ _ (HSF.out _ hy1) (fun hHeld => ?_)
  clear hK K
  (try simp only [Act.put, sA, sB, sC])
  refine wpAnyH_one (i := 4) rfl (by kernel_rfl) (by rfl) (fun K hK => ?_)
  go_simp
  refine (list_c PB pn PD plan (by omega) _ ((HSP.out.ev HP15.out).ev hy1)).mono ?_
  rintro e z4 ⟨⟨L4, dL4, rfl, ho4⟩, hb4⟩
  have hy4 : Ev W5 z4 := Ev.trans hy1 hb4
  have hs4 := sl_own (enc := ics) (by decide) (ics_len _) (by omega) ho4
  refine hK.out _ _ (HSF.out _ hy4) (fun hHeld => ?_)
  clear hK K
  (try simp only [Act.put, sA, sB, sC])
  refine wpAnyH_one (i := 5) rfl (by kernel_rfl) (by rfl) (fun K hK => ?_)
  go_simp
  refine (HPL.out Bg1 dg1 Bw1 dw1 Bb1 db1 Bc1 dc1 Bl1 dl1 L4 dL4 _ (HWX.out.trans hy4) (hc1.ev hb4) hs4).mono ?_
  rintro e z5 ⟨⟨BP, dP, rfl, ho5⟩, hb5⟩
  have hy5 : Ev W5 z5 := Ev.trans hy4 hb5
  have hs5 := sl_own (enc := crc) (by decide) (fun _ _ => rfl) (by omega) ho5
  refine hK.out _ _ (HSF.out _ hy5) (fun hHeld => ?_)
  clear hK K
  (try simp only [Act.put, sA, sB, sC])
  refine tkH 6 (some 131) ?_
  (try simp only [Act.put, sA, sB, sC])
  refine tkH 7 (some 138) ?_
  (try simp only [Act.put, sA, sB, sC])
  refine tkH 8 (some 139) ?_
  (try simp only [Act.put, sA, sB, sC])
  refine tkH 9 (some 16) ?_
  (try simp only [Act.put, sA, sB, sC])
  refine tkH 10 (some 17) ?_
  (try simp only [Act.put, sA, sB, sC])
  refine wpAnyH_done (by kernel_rfl) ?_ _
  have HPX := hid hs5
  have HE16 := hid (HE15.out.trans hy5)
  have HR16 := hid (hy5.heap HR15.out)
  clear y0 y1 y2 y3 y4 y5 y6 y7 y8 u0 u1 hHeld HSF hc1 ho4 hs4 ho5 hs5 hb1 hb4 hb5 hy1 hy4
  go_wp2_with (first | (with_reducible refine ⟨trivial, ?_⟩))
  go_loopw [18, 19] (fun a i wr => ∃ (k : Nat) (s : Int), a = .int .i64 s ∧ i = .int .i64 k ∧ k ≤ pn ∧ 0 ≤ s ∧ s ≤ 100000 * k ∧ Ev z5 wr ∧ Hid (s = M.totK f t2 plan k)) (fun _ i _ => pn - (intOf i).toNat)
  case atStart => exact ⟨0, 0, rfl, rfl, by omega, by omega, by omega, Ev.refl _, hid rfl⟩
  case round =>
   obtain ⟨k, s, rfl, rfl, hk, hs0, hs1, hB, HM⟩ := hrel
   obtain ⟨W1, hW1⟩ : ∃ x, x = wr := ⟨_, rfl⟩
   subst hW1
   by_cases hlt : k < pn
   ·
    obtain ⟨bk2, off2, x, hA, hb, hx, hxd, hcc⟩ := HPX.out.at_ hB hlt
    have hxx := HPA.out k hlt
    rw [hx] at hxx
    obtain rfl := Option.some.inj hxx
    have hcr := HCW.out k hlt
    have HM2 := hid (show s + (M.crop f t2 plan k).wo = M.totK f t2 plan (k + 1) by rw [M.totK_succ, HM.out])
    generalize M.crop f t2 plan k = cr at hcr HM2 hcc
    have e2 := hcc 2 _ rfl
    have hcap := HPX.out.cap
    have g1 : IntKind.i64.wrap (s + cr.wo) = s + cr.wo := IntWalk.i64_in _ (by omega)
    subst hA
    clear HM hx hxd hcc hxx
    go_wp2_with fail
    exact ⟨⟨k + 1, s + cr.wo, rfl, by go_num, by omega, by omega, by omega, hB, HM2⟩, by simp [intOf]; omega⟩
   ·
    obtain rfl : k = pn := by omega
    obtain rfl : s = wf.lo := by rw [HM.out, HTK.out]
    have hn2 : ¬ ((k : Int) < k) := by omega
    obtain ⟨z0, z1⟩ := cells2 (hB.heap HR16.out)
    have c4_ : (wf.lo == wf.lo) = true := by simp
    clear HM
    go_wp2_with (first | (go_at_call 11; with_reducible refine (awake_c _).mono ?_; rintro e w99 ⟨rfl, hb99⟩) | (with_reducible refine ⟨trivial, ?_⟩))
    go_ret
    exact ⟨rfl, (HE16.out.trans hB).trans hb99⟩

theorem cropGreatest_c (f : M.Cf) (Ag Aw Ab Ac Al : Option Addr) (ng cg nw cw nb cb nc cc nl cl : Nat) (hl0 : -9223372036854775808 ≤ f.last) (a b : Int) (a0 : 0 ≤ a) (a1 : a < 65536) (b0 : 0 ≤ b) (b1 : b < 65536) (w : World) (hs : M.small ng nw nb nc nl → CS w w.heap.size f Ag Aw Ab Ac Al ng cg nw cw nb cb nc cc nl cl) :
  Calls Tryz.prog 9 #[.agg #[.int .i64 f.last, .slice Ag ng cg, .slice Aw nw cw, .slice Ab nb cb, .slice Ac nc cc, .int .i64 f.ripe, .int .i64 f.late, .int .i64 f.trod, .slice Al nl cl], .int .u16 a, .int .u16 b] w fun e w' => e = .returned (.bool true) ∧ Ev w w' := by
 cases hr : M.rdy f ng nw nb nc nl with
 | false => exact cropGreatest_no f Ag Aw Ab Ac Al ng cg nw cw nb cb nc cc nl cl hl0 a b a0 a1 b0 b1 w hs hr
 | true =>
  have key : M.small ng nw nb nc nl ∧ M.check f = 0 := by
   have h := hr
   unfold M.rdy at h
   rw [Bool.and_eq_true, Bool.and_eq_true, decide_eq_true_eq, decide_eq_true_eq] at h
   exact ⟨h.1.1, h.2⟩
  have HCS := hid (hs key.1)
  by_cases ht : M.truths f = []
  ·
   exact cropGreatest_none f Ag Aw Ab Ac Al ng cg nw cw nb cb nc cc nl cl hl0 a b a0 a1 b0 b1 w HCS hr key.1 key.2 ht
  ·
   exact cropGreatest_yes f Ag Aw Ab Ac Al ng cg nw cw nb cb nc cc nl cl hl0 a b a0 a1 b0 b1 w HCS hr key.1 key.2 ht

end Go.Proofs.YtffbkbcjddigdaaGreat
