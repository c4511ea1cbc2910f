import Derived.Test.YtgimcephbeajlaaC36
import Derived.Test.YtgimcephbeajlaaC27
import Derived.Test.YtgimcephbeajlaaC23
import Derived.Test.YtgimcephbeajlaaC24
import Derived.Test.YtgimcephbeajlaaC35
set_option linter.unusedSimpArgs false
set_option linter.unusedVariables false
namespace Go.Proofs.Ytgimcephbeajlaa
open Go.RowKit Go.Shelf

set_option maxRecDepth 100000 in
set_option maxHeartbeats 2000000 in
theorem couchEnds_no (f : M.Cf) (Aw At Ar : Option Addr) (nw cw nt ct nr cr : Nat) (hl0 : -9223372036854775808 ≤ f.last) (n : Nat) (hn : n < 65536) (hr0 : Nat) (hh : hr0 < 256) (w : World) (hs : M.small nw nt nr → CS w w.heap.size f Aw At Ar nw cw nt ct nr cr) (hno : M.rdy f nw nt nr = false) :
  Calls Try.prog 9 #[.agg #[.int .i64 f.last, .int .i64 f.size, .int .i64 f.cool, .int .i64 f.die, .int .i64 f.burn, .int .i64 f.st.lo, .int .i64 f.st.hi, .slice Aw nw cw, .slice At nt ct, .slice Ar nr cr], .int .u16 (n : Int), .int .u8 (hr0 : Int)] w fun e w' => e = .returned (.bool true) ∧ Ev w w' := by
 have HRD := hid (fun W (hE : Ev w W) => by have := ready_c f Aw At Ar nw cw nt ct nr cr hl0 W (fun h => (hs h).ev hE); rw [hno] at this; exact this)
 clear hs hno
 go_enter Try.func9, Try.ntmps9
 go_wp2_with (first | (go_at_call 50; with_reducible refine (HRD.out _ (Ev.alloc (Ev.refl _) _)).mono ?_; rintro e w1 ⟨rfl, hb1⟩; have hG : Ev w w1 := (Ev.alloc (Ev.refl _) _).trans hb1; have Q0 := hid (hb1.heap (alloc1 w (.cells #[.int .i64 f.last, .int .i64 f.size, .int .i64 f.cool, .int .i64 f.die, .int .i64 f.burn, .int .i64 f.st.lo, .int .i64 f.st.hi, .slice Aw nw cw, .slice At nt ct, .slice Ar nr cr] 28)).1); obtain ⟨y0, y1, y2, y3, y4, y5, y6, y7, y8, y9⟩ := cells10 Q0.out) | (go_at_call 19; with_reducible refine (awake_c _).mono ?_; rintro e w99 ⟨rfl, hb99⟩) | (with_reducible refine ⟨trivial, ?_⟩))
 go_ret
 exact ⟨rfl, hG.trans hb99⟩

set_option maxRecDepth 100000 in
set_option maxHeartbeats 4000000 in
theorem couchEnds_e (f : M.Cf) (Aw At Ar : Option Addr) (nw cw nt ct nr cr : Nat) (hl0 : -9223372036854775808 ≤ f.last) (n : Nat) (hn : n < 65536) (hr0 : Nat) (hh : hr0 < 256) (w : World) (HCS : Hid (CS w w.heap.size f Aw At Ar nw cw nt ct nr cr)) (hr : M.rdy f nw nt nr = true) (hsm : M.small nw nt nr) (h0 : M.check f = 0) (ht : M.truths f = []) :
  Calls Try.prog 9 #[.agg #[.int .i64 f.last, .int .i64 f.size, .int .i64 f.cool, .int .i64 f.die, .int .i64 f.burn, .int .i64 f.st.lo, .int .i64 f.st.hi, .slice Aw nw cw, .slice At nt ct, .slice Ar nr cr], .int .u16 (n : Int), .int .u8 (hr0 : Int)] w fun e w' => e = .returned (.bool true) ∧ Ev w w' := by
 obtain ⟨s0, s1, s2⟩ := hsm
 have HRD := hid (fun W (hE : Ev w W) => by have := ready_c f Aw At Ar nw cw nt ct nr cr hl0 W (fun _ => HCS.out.ev hE); rw [hr] at this; exact this)
 obtain ⟨hl9, _, hv, _⟩ := M.check0 h0
 have hlast := (M.valid_parts hv).2.2.2.2.2.1
 have hwl := HCS.out.w_.len
 have hl00 := (M.valid_parts hv).2.2.2.2.1
 have hnl : (nw : Int) = f.last + 1 := by omega
 have hnw0 : 0 < nw := by omega
 have hnw10 : nw ≤ 10 := by omega
 obtain ⟨kk, hkk⟩ : ∃ kk, hr0 % nw = kk := ⟨_, rfl⟩
 have hkl : kk < nw := by rw [← hkk]; exact Nat.mod_lt _ hnw0
 have g1 : IntKind.i64.wrap (f.last + 1) = f.last + 1 := IntWalk.i64_in _ (by omega)
 have g2 : IntKind.i64.wrap (hr0 : Int) = (hr0 : Int) := IntWalk.i64_in _ (by omega)
 have g0 : ¬ (f.last + 1 = 0) := by omega
 have m1 : (hr0 : Int) % (f.last + 1) = (kk : Int) := by rw [← hnl, ← hkk]; exact (Int.natCast_emod hr0 nw).symm
 have m2 : (hr0 : Int).tmod (f.last + 1) = (kk : Int) := by rw [Int.tmod_eq_emod_of_nonneg (by omega)]; exact m1
 have g3 : IntKind.i64.wrap (kk : Int) = (kk : Int) := IntWalk.i64_in _ (by omega)
 have hpl := M.trn_ok hv n
 have HTU := hid (fun W => turned_c f Aw At Ar nw cw nt ct nr cr hv hl9 n hn W)
 have hpnl := M.trn_len f n
 obtain ⟨plan, hplan⟩ : ∃ p, M.trn f n = p := ⟨_, rfl⟩
 obtain ⟨pn, hpn⟩ : ∃ p, plan.length = p := ⟨_, rfl⟩
 rw [hplan, hpn] at HTU
 rw [hplan] at hpl hpnl
 rw [hpn] at hpnl
 clear hplan
 have HTR := hid (fun W (hE : Ev w W) => Truths_c f Aw At Ar nw cw nt ct nr cr h0 W (HCS.out.ev hE))
 have hbg : M.begin f (M.isTurns f plan) = 11 := by unfold M.begin; rw [if_neg (by simp [h0]), hpl, if_neg (by simp), if_pos ht]
 have HBO := hid (fun (Bw : Option Addr) (dw : Nat) (Bt : Option Addr) (dt : Nat) (Br : Option Addr) (dr : Nat) (L : Option Addr) (d : Nat) W (h : CS W W.heap.size f Bw Bt Br nw dw nt dt nr dr) (h3 : Sl ics 1 W W.heap.size L pn d plan) => Bounds_err f Bw Bt Br nw dw nt dt nr dr L pn d plan hl0 W h h3 (by rw [hbg]; decide))
 rw [hbg] at HBO
 have HRN := hid ((M.rtr_nil h0).2 ht)
 clear hr h0 hv ht hpl hbg hwl hlast hl9 hkk
 go_enter Try.func9, Try.ntmps9
 go_upto_region 3 with (first | (go_at_call 50; with_reducible refine (HRD.out _ (Ev.alloc (Ev.refl _) _)).mono ?_; rintro e w1 ⟨rfl, hb1⟩; have hG : Ev w w1 := (Ev.alloc (Ev.refl _) _).trans hb1; have Q0 := hid (hb1.heap (alloc1 w (.cells #[.int .i64 f.last, .int .i64 f.size, .int .i64 f.cool, .int .i64 f.die, .int .i64 f.burn, .int .i64 f.st.lo, .int .i64 f.st.hi, .slice Aw nw cw, .slice At nt ct, .slice Ar nr cr] 28)).1); obtain ⟨y0, y1, y2, y3, y4, y5, y6, y7, y8, y9⟩ := cells10 Q0.out) | (with_reducible refine ⟨trivial, ?_⟩))
 have l0 := heap_lt Q0.out
 have HSE : Hid (∀ w', Ev w1 w' → (∀ o, w'.cell? ⟨w.heap.size, o, none⟩ = w1.cell? ⟨w.heap.size, o, none⟩)) := hid (fun w' h => fun o => h.cells.1 _ o l0)
 refine wp_region_held_drew (S := fun w' => (∀ o, w'.cell? ⟨w.heap.size, o, none⟩ = w1.cell? ⟨w.heap.size, o, none⟩)) (by kernel_rfl) (fun o => rfl) (fun hHeld => ?_)
 refine tkH 0 (some 20) ?_
 (try simp only [Act.put, sA, sB, sC])
 refine tkH 1 (some 21) ?_
 (try simp only [Act.put, sA, sB, sC])
 refine tkH 3 (some 23) ?_
 (try simp only [Act.put, sA, sB, sC])
 refine tkH 4 (some 24) ?_
 (try simp only [Act.put, sA, sB, sC])
 refine tkH 5 (some 25) ?_
 (try simp only [Act.put, sA, sB, sC])
 refine tkH 6 (some 26) ?_
 (try simp only [Act.put, sA, sB, sC])
 refine tkH 7 (some 27) ?_
 (try simp only [Act.put, sA, sB, sC])
 refine tkH 8 (some 28) ?_
 (try simp only [Act.put, sA, sB, sC])
 refine wpAnyH_one (i := 2) rfl (by kernel_rfl) (by rfl) (fun K hK => ?_)
 go_simp
 refine (HTU.out _).mono ?_
 rintro e z2 ⟨⟨BTN, dTN, rfl, htn⟩, hb2⟩
 have hy2 : Ev w1 z2 := Ev.trans (Ev.drew (Ev.refl _)) hb2
 refine hK.out _ _ (HSE.out _ hy2) (fun hHeld => ?_)
 clear hK K
 (try simp only [Act.put, sA, sB, sC])
 refine tkH 9 (some 7) ?_
 (try simp only [Act.put, sA, sB, sC])
 refine tkH 10 (some 8) ?_
 (try simp only [Act.put, sA, sB, sC])
 refine wpAnyH_done (by kernel_rfl) ?_ _
 obtain ⟨x2, hx2⟩ : ∃ x, x = z2 := ⟨_, rfl⟩
 subst hx2
 have HE2 := hid (hG.trans hy2)
 have HV2 := hid hy2
 have HW2 := hid (Ev.refl x2)
 have HTN := hid htn
 clear hb2 hy2 htn HSE hHeld y0 y1 y2 y3 y4 y5 y6 y7 y8 y9
 obtain ⟨y0, y1, y2, y3, y4, y5, y6, y7, y8, y9⟩ := cells10 (HV2.out.heap Q0.out)
 go_upto_region 6 with (first | (go_at_call 21; with_reducible refine (Heap_c f Aw At Ar nw cw nt ct nr cr (by omega) (by omega) (by omega) _ (HCS.out.ev HE2.out)).mono ?_; rintro e x3 ⟨⟨Bw3, dw3, Bt3, dt3, Br3, dr3, rfl, hc⟩, hb⟩; have HE3 := hid (HE2.out.trans hb); have HV3 := hid (HV2.out.trans hb); have HW3 := hid (HW2.out.trans hb); have HC3 := hid hc; clear hc hb) | (go_at_call 23; with_reducible refine (list_c BTN pn dTN plan (by omega) _ (HTN.out.ev HW3.out)).mono ?_; rintro e x4 ⟨⟨L4, D4, rfl, hc⟩, hb⟩; have HE4 := hid (HE3.out.trans hb); have HV4 := hid (HV3.out.trans hb); have HW4 := hid (HW3.out.trans hb); have HL4 := hid (sl_own (enc := ics) (by decide) (ics_len _) (by omega) hc); have HM4 := hid hb; clear hc hb) | (go_at_call 31; with_reducible refine (HBO.out Bw3 dw3 Bt3 dt3 Br3 dr3 L4 D4 _ (HC3.out.ev HM4.out) HL4.out).mono ?_; rintro e x5 ⟨rfl, hb⟩; have HE5 := hid (HE4.out.trans hb); have HV5 := hid (HV4.out.trans hb); have HW5 := hid (HW4.out.trans hb); clear hb; clear y0 y1 y2 y3 y4 y5 y6 y7 y8 y9; obtain ⟨y0, y1, y2, y3, y4, y5, y6, y7, y8, y9⟩ := cells10 (HV5.out.heap Q0.out)) | (go_at_call 55; with_reducible refine (HTR.out _ HE5.out).mono ?_; rintro e x6 ⟨⟨LB, lm, ld, rfl, hm, htl⟩, hb⟩; have HE6 := hid (HE5.out.trans hb); have HV6 := hid (HV5.out.trans hb); have HW6 := hid (HW5.out.trans hb); have HTL := hid htl; have HT6 := hid (Ev.refl x6); clear htl; clear hb; clear y0 y1 y2 y3 y4 y5 y6 y7 y8 y9; obtain ⟨y0, y1, y2, y3, y4, y5, y6, y7, y8, y9⟩ := cells10 (HV6.out.heap Q0.out)))
 have hlm : lm = 0 := by rw [← HTL.out.len, HRN.out]; rfl
 subst hlm
 go_wp2_with (first | (go_at_call 19; with_reducible refine (awake_c _).mono ?_; rintro e w99 ⟨rfl, hb99⟩) | (with_reducible refine ⟨trivial, ?_⟩))
 go_ret
 exact ⟨rfl, HE6.out.trans hb99⟩

set_option maxRecDepth 100000 in
set_option maxHeartbeats 8000000 in
theorem couchEnds_o (f : M.Cf) (Aw At Ar : Option Addr) (nw cw nt ct nr cr : Nat) (hl0 : -9223372036854775808 ≤ f.last) (n : Nat) (hn : n < 65536) (hr0 : Nat) (hh : hr0 < 256) (w : World) (HCS : Hid (CS w w.heap.size f Aw At Ar nw cw nt ct nr cr)) (hr : M.rdy f nw nt nr = true) (hsm : M.small nw nt nr) (h0 : M.check f = 0) (ht : M.truths f ≠ []) :
  Calls Try.prog 9 #[.agg #[.int .i64 f.last, .int .i64 f.size, .int .i64 f.cool, .int .i64 f.die, .int .i64 f.burn, .int .i64 f.st.lo, .int .i64 f.st.hi, .slice Aw nw cw, .slice At nt ct, .slice Ar nr cr], .int .u16 (n : Int), .int .u8 (hr0 : Int)] w fun e w' => e = .returned (.bool true) ∧ Ev w w' := by
 obtain ⟨s0, s1, s2⟩ := hsm
 have HRD := hid (fun W (hE : Ev w W) => by have := ready_c f Aw At Ar nw cw nt ct nr cr hl0 W (fun _ => HCS.out.ev hE); rw [hr] at this; exact this)
 obtain ⟨hl9, _, hv, _⟩ := M.check0 h0
 have hlast := (M.valid_parts hv).2.2.2.2.2.1
 have hwl := HCS.out.w_.len
 have hl00 := (M.valid_parts hv).2.2.2.2.1
 have hnl : (nw : Int) = f.last + 1 := by omega
 have hnw0 : 0 < nw := by omega
 have hnw10 : nw ≤ 10 := by omega
 obtain ⟨kk, hkk⟩ : ∃ kk, hr0 % nw = kk := ⟨_, rfl⟩
 have hkl : kk < nw := by rw [← hkk]; exact Nat.mod_lt _ hnw0
 have g1 : IntKind.i64.wrap (f.last + 1) = f.last + 1 := IntWalk.i64_in _ (by omega)
 have g2 : IntKind.i64.wrap (hr0 : Int) = (hr0 : Int) := IntWalk.i64_in _ (by omega)
 have g0 : ¬ (f.last + 1 = 0) := by omega
 have m1 : (hr0 : Int) % (f.last + 1) = (kk : Int) := by rw [← hnl, ← hkk]; exact (Int.natCast_emod hr0 nw).symm
 have m2 : (hr0 : Int).tmod (f.last + 1) = (kk : Int) := by rw [Int.tmod_eq_emod_of_nonneg (by omega)]; exact m1
 have g3 : IntKind.i64.wrap (kk : Int) = (kk : Int) := IntWalk.i64_in _ (by omega)
 have hpl := M.trn_ok hv n
 have HTU := hid (fun W => turned_c f Aw At Ar nw cw nt ct nr cr hv hl9 n hn W)
 have hpnl := M.trn_len f n
 obtain ⟨plan, hplan⟩ : ∃ p, M.trn f n = p := ⟨_, rfl⟩
 obtain ⟨pn, hpn⟩ : ∃ p, plan.length = p := ⟨_, rfl⟩
 rw [hplan, hpn] at HTU
 rw [hplan] at hpl hpnl
 rw [hpn] at hpnl
 clear hplan
 have HTR := hid (fun W (hE : Ev w W) => Truths_c f Aw At Ar nw cw nt ct nr cr h0 W (HCS.out.ev hE))
 have hbg : M.begin f (M.isTurns f plan) = 0 := by unfold M.begin; rw [if_neg (by simp [h0]), hpl, if_neg (by simp), if_neg ht]
 have HBO := hid (fun (Bw : Option Addr) (dw : Nat) (Bt : Option Addr) (dt : Nat) (Br : Option Addr) (dr : Nat) (L : Option Addr) (d : Nat) W (h : CS W W.heap.size f Bw Bt Br nw dw nt dt nr dr) (h3 : Sl ics 1 W W.heap.size L pn d plan) => Bounds_ok f Bw Bt Br nw dw nt dt nr dr L pn d plan hl0 W h h3 hbg)
 obtain ⟨ts, hts⟩ : ∃ ts, M.rtr f = ts := ⟨_, rfl⟩
 have hlst : ∀ t ∈ ts, M.listed f t = true := by rw [← hts]; exact M.rtr_listed h0
 have HCX := hid (fun (Tw : Option Addr) (tw twc : Nat) (t : M.Tr) (ht : t ∈ ts) W (hE : Ev w W) (hwt : Sl ics 1 W W.heap.size Tw tw twc t.wet) (P : Option Addr) (pc : Nat) (hp : Sl ics 1 W W.heap.size P pn pc plan) => Heat_c f Aw At Ar nw cw nt ct nr cr Tw tw twc t P pn pc plan hv hl9 (hlst t ht) (kk + 1) (kk : Int) (by omega) (by have := hwt.len; have := (M.listed_bd hv (hlst t ht)).2.1; omega) W (HCS.out.ev hE) hwt hp)
 obtain ⟨r, hrr⟩ : ∃ r, M.span (M.at f (M.truths f) plan kk) = r := ⟨_, rfl⟩
 have hrt : r = M.bdR f ts plan kk := by rw [← hts, M.bd_is h0 ht plan (by omega), hrr]
 have hsp := M.span_two (l := M.at f (M.truths f) plan kk) (by unfold M.at; simpa using ht)
 rw [hrr] at hsp
 have hany : ∀ v, v ∈ M.at f (M.truths f) plan kk → (ts.any fun t => M.heatN f t plan (kk + 1) == v) = true := by
  intro v hv2
  obtain ⟨t, ht1, rfl⟩ := List.mem_map.1 hv2
  rw [List.any_eq_true]
  refine ⟨t, by rw [← hts]; exact (M.rtr_mem h0).2 ht1, ?_⟩
  rw [M.heats_getD plan (by rw [(M.listed_bd hv (M.truths_listed h0 t ht1)).2.1]; omega)]
  simp
 have HY1 := hid (hany _ hsp.1)
 have HY2 := hid (hany _ hsp.2)
 have HXN := hid (fun (x : M.Rg) (hx : (M.bounds f (M.truths f) plan)[kk]? = some x) => show x = r by
  unfold M.bounds at hx
  rw [List.getElem?_map, List.getElem?_range (by omega), Option.map_some, hrr] at hx
  exact (Option.some.inj hx).symm)
 have c6_ : ((nw : Int) != f.last + 1) = false := by simp; omega
 obtain ⟨g1_, hg1⟩ : ∃ g : M.Tr → Bool, g = fun t => M.heatN f t plan (kk + 1) == r.lo := ⟨_, rfl⟩
 obtain ⟨g2_, hg2⟩ : ∃ g : M.Tr → Bool, g = fun t => M.heatN f t plan (kk + 1) == r.hi := ⟨_, rfl⟩
 have HG1 := hid (fun t => show g1_ t = (M.heatN f t plan (kk + 1) == r.lo) by rw [hg1])
 have HG2 := hid (fun t => show g2_ t = (M.heatN f t plan (kk + 1) == r.hi) by rw [hg2])
 rw [← hg1] at HY1
 rw [← hg2] at HY2
 rw [hts] at HTR
 clear hr h0 hv ht hpl hbg hwl hlast hl9 hkk hts hlst hrr hrt hsp hany hg1 hg2
 go_enter Try.func9, Try.ntmps9
 go_upto_region 3 with (first | (go_at_call 50; with_reducible refine (HRD.out _ (Ev.alloc (Ev.refl _) _)).mono ?_; rintro e w1 ⟨rfl, hb1⟩; have hG : Ev w w1 := (Ev.alloc (Ev.refl _) _).trans hb1; have Q0 := hid (hb1.heap (alloc1 w (.cells #[.int .i64 f.last, .int .i64 f.size, .int .i64 f.cool, .int .i64 f.die, .int .i64 f.burn, .int .i64 f.st.lo, .int .i64 f.st.hi, .slice Aw nw cw, .slice At nt ct, .slice Ar nr cr] 28)).1); obtain ⟨y0, y1, y2, y3, y4, y5, y6, y7, y8, y9⟩ := cells10 Q0.out) | (with_reducible refine ⟨trivial, ?_⟩))
 have l0 := heap_lt Q0.out
 have HSE : Hid (∀ w', Ev w1 w' → (∀ o, w'.cell? ⟨w.heap.size, o, none⟩ = w1.cell? ⟨w.heap.size, o, none⟩)) := hid (fun w' h => fun o => h.cells.1 _ o l0)
 refine wp_region_held_drew (S := fun w' => (∀ o, w'.cell? ⟨w.heap.size, o, none⟩ = w1.cell? ⟨w.heap.size, o, none⟩)) (by kernel_rfl) (fun o => rfl) (fun hHeld => ?_)
 refine tkH 0 (some 20) ?_
 (try simp only [Act.put, sA, sB, sC])
 refine tkH 1 (some 21) ?_
 (try simp only [Act.put, sA, sB, sC])
 refine tkH 3 (some 23) ?_
 (try simp only [Act.put, sA, sB, sC])
 refine tkH 4 (some 24) ?_
 (try simp only [Act.put, sA, sB, sC])
 refine tkH 5 (some 25) ?_
 (try simp only [Act.put, sA, sB, sC])
 refine tkH 6 (some 26) ?_
 (try simp only [Act.put, sA, sB, sC])
 refine tkH 7 (some 27) ?_
 (try simp only [Act.put, sA, sB, sC])
 refine tkH 8 (some 28) ?_
 (try simp only [Act.put, sA, sB, sC])
 refine wpAnyH_one (i := 2) rfl (by kernel_rfl) (by rfl) (fun K hK => ?_)
 go_simp
 refine (HTU.out _).mono ?_
 rintro e z2 ⟨⟨BTN, dTN, rfl, htn⟩, hb2⟩
 have hy2 : Ev w1 z2 := Ev.trans (Ev.drew (Ev.refl _)) hb2
 refine hK.out _ _ (HSE.out _ hy2) (fun hHeld => ?_)
 clear hK K
 (try simp only [Act.put, sA, sB, sC])
 refine tkH 9 (some 7) ?_
 (try simp only [Act.put, sA, sB, sC])
 refine tkH 10 (some 8) ?_
 (try simp only [Act.put, sA, sB, sC])
 refine wpAnyH_done (by kernel_rfl) ?_ _
 obtain ⟨x2, hx2⟩ : ∃ x, x = z2 := ⟨_, rfl⟩
 subst hx2
 have HE2 := hid (hG.trans hy2)
 have HV2 := hid hy2
 have HW2 := hid (Ev.refl x2)
 have HTN := hid htn
 clear hb2 hy2 htn HSE hHeld y0 y1 y2 y3 y4 y5 y6 y7 y8 y9
 obtain ⟨y0, y1, y2, y3, y4, y5, y6, y7, y8, y9⟩ := cells10 (HV2.out.heap Q0.out)
 go_upto_region 6 with (first | (go_at_call 21; with_reducible refine (Heap_c f Aw At Ar nw cw nt ct nr cr (by omega) (by omega) (by omega) _ (HCS.out.ev HE2.out)).mono ?_; rintro e x3 ⟨⟨Bw3, dw3, Bt3, dt3, Br3, dr3, rfl, hc⟩, hb⟩; have HE3 := hid (HE2.out.trans hb); have HV3 := hid (HV2.out.trans hb); have HW3 := hid (HW2.out.trans hb); have HC3 := hid hc; clear hc hb) | (go_at_call 23; with_reducible refine (list_c BTN pn dTN plan (by omega) _ (HTN.out.ev HW3.out)).mono ?_; rintro e x4 ⟨⟨L4, D4, rfl, hc⟩, hb⟩; have HE4 := hid (HE3.out.trans hb); have HV4 := hid (HV3.out.trans hb); have HW4 := hid (HW3.out.trans hb); have HL4 := hid (sl_own (enc := ics) (by decide) (ics_len _) (by omega) hc); have HM4 := hid hb; clear hc hb) | (go_at_call 31; with_reducible refine (HBO.out Bw3 dw3 Bt3 dt3 Br3 dr3 L4 D4 _ (HC3.out.ev HM4.out) HL4.out).mono ?_; rintro e x5 ⟨⟨BB, dB, rfl, hbb⟩, hb⟩; have HE5 := hid (HE4.out.trans hb); have HV5 := hid (HV4.out.trans hb); have HW5 := hid (HW4.out.trans hb); have HB5 := hid (Ev.refl x5); have HRB := hid hbb; clear hbb; clear hb; clear y0 y1 y2 y3 y4 y5 y6 y7 y8 y9; obtain ⟨y0, y1, y2, y3, y4, y5, y6, y7, y8, y9⟩ := cells10 (HV5.out.heap Q0.out)) | (go_at_call 55; with_reducible refine (HTR.out _ HE5.out).mono ?_; rintro e x6 ⟨⟨LB, lm, ld, rfl, hm, htl⟩, hb⟩; have HE6 := hid (HE5.out.trans hb); have HV6 := hid (HV5.out.trans hb); have HW6 := hid (HW5.out.trans hb); have HB6 := hid (HB5.out.trans hb); have HTL := hid htl; clear htl; clear hb; clear y0 y1 y2 y3 y4 y5 y6 y7 y8 y9; obtain ⟨y0, y1, y2, y3, y4, y5, y6, y7, y8, y9⟩ := cells10 (HV6.out.heap Q0.out)))
 obtain ⟨bl, ol, x, hA, hbl, hx, _, hcc⟩ := (HRB.out.ev HB6.out).at_ (Below.refl _ _) hkl
 obtain rfl : r = x := (HXN.out x hx).symm
 have HC0 := hid (hcc 0 _ rfl)
 have HC1 := hid (hcc 1 _ rfl)
 simp only [Nat.add_zero] at HC0
 have hcapB := HRB.out.cap
 have lbb6 : bl < x6.heap.size := hbl
 subst hA
 have HL := hid HTL.out
 replace HTL := hid HL.out.len
 clear hx hcc
 have hsm : lm ≤ 1099511627776 := by omega
 go_upto_region 12 with (with_reducible refine ⟨trivial, ?_⟩)
 clear y0 y1 y2 y3 y4 y5 y6 y7 y8 y9
 go_loopw [12, 13, 14] (fun a b i wr => ∃ (k : Nat) (lw hg : Bool), a = .bool lw ∧ b = .bool hg ∧ i = .int .i64 k ∧ k ≤ lm ∧ Ev x6 wr ∧ Hid ((lw || (ts.drop k).any g1_) = true) ∧ Hid ((hg || (ts.drop k).any g2_) = true)) (fun _ _ i _ => lm - (intOf i).toNat)
 case atStart => exact ⟨0, false, false, rfl, rfl, rfl, by omega, Ev.refl _, hid (by simpa using HY1.out), hid (by simpa using HY2.out)⟩
 case round =>
  obtain ⟨k, lw, hg, rfl, rfl, rfl, hk, hB, hM1, hM2⟩ := hrel
  obtain ⟨W1, hW1⟩ : ∃ x, x = wr := ⟨_, rfl⟩
  subst hW1
  obtain ⟨y0, y1, y2, y3, y4, y5, y6, y7, y8, y9⟩ := cells10 (hB.heap (HV6.out.heap Q0.out))
  have l0' := heap_lt (hB.heap (HV6.out.heap Q0.out))
  by_cases hlt : k < lm
  ·
   have hCX0 := HCX.out
   have HP6 := hid (HTN.out.ev (HW6.out.trans hB))
   have HCX := hid (fun (Tw : Option Addr) (tw twc : Nat) (t : M.Tr) (ht : t ∈ ts) W (hE : Ev x6 W) (hwt : Sl ics 1 W W.heap.size Tw tw twc t.wet) => hCX0 Tw tw twc t ht W (HE6.out.trans hE) hwt BTN dTN (HTN.out.ev (HW6.out.trans hE)))
   obtain ⟨vs, hvs, hrs⟩ := HL.out
   have hlt' : k < ts.length := by rw [HTL.out]; exact hlt
   have hdr : ts.drop k = ts[k] :: ts.drop (k + 1) := List.drop_eq_getElem_cons hlt'
   have htk : ts[k]? = some ts[k] := List.getElem?_eq_getElem _
   generalize ts[k] = t at hdr htk
   have htm := List.mem_of_getElem? htk
   obtain ⟨b, off, v, hA, hb, hx, hxd, hcc⟩ := hvs.at_ hB hlt
   obtain ⟨t1, t2, t3⟩ := (hrs.ev hB).2 k v t hx htk
   have e0 := hcc 0 _ rfl
   have e1 := hcc 1 _ rfl
   simp only [Nat.add_zero] at e0
   rw [t1] at e0
   have hcap := hvs.cap
   have lb : b < W1.heap.size := by have := hB.size; omega
   have hsw := sl_own (enc := ics) (by decide) (ics_len _) (by omega) t2
   have HT := hid (fun W (hE : Ev W1 W) => HCX.out v.2.1 v.2.2.1 v.2.2.2 t htm W (hB.trans hE) (hsw.ev hE))
   subst hA
   clear hx hxd hcc hvs hrs t1 t2 htk htm hsw
   have hM1 := hM1.out
   have hM2 := hM2.out
   rw [hdr, List.any_cons, HG1.out] at hM1
   rw [hdr, List.any_cons, HG2.out] at hM2
   generalize M.heatN f t plan (kk + 1) = m at HT hM1 hM2
   obtain ⟨e1b, he1⟩ : ∃ b, (m == r.lo) = b := ⟨_, rfl⟩
   obtain ⟨e2b, he2⟩ : ∃ b, (m == r.hi) = b := ⟨_, rfl⟩
   rw [he1] at hM1
   rw [he2] at hM2
   have HM1 := hid hM1
   have HM2 := hid hM2
   clear hM1 hM2 hdr hCX0 HCX HP6
   have HSE : Hid (∀ w', Ev W1 w' → (∀ o, w'.cell? ⟨w.heap.size, o, none⟩ = W1.cell? ⟨w.heap.size, o, none⟩) ∧ (∀ o, w'.cell? ⟨b, o, none⟩ = W1.cell? ⟨b, o, none⟩)) := hid (fun w' h => ⟨fun o => h.cells.1 _ o l0', fun o => h.cells.1 _ o lb⟩)
   go_upto_region 14 with fail
   refine wp_region_held_drew (S := fun w' => (∀ o, w'.cell? ⟨w.heap.size, o, none⟩ = W1.cell? ⟨w.heap.size, o, none⟩) ∧ (∀ o, w'.cell? ⟨b, o, none⟩ = W1.cell? ⟨b, o, none⟩)) (by kernel_rfl) (⟨fun o => rfl, fun o => rfl⟩) (fun hHeld => ?_)
   refine tkH 0 (some 63) ?_
   (try simp only [Act.put, sA, sB, sC])
   refine tkH 1 (some 64) ?_
   (try simp only [Act.put, sA, sB, sC])
   refine tkH 2 (some 65) ?_
   (try simp only [Act.put, sA, sB, sC])
   refine tkH 3 (some 66) ?_
   (try simp only [Act.put, sA, sB, sC])
   refine tkH 4 (some 67) ?_
   (try simp only [Act.put, sA, sB, sC])
   refine tkH 5 (some 68) ?_
   (try simp only [Act.put, sA, sB, sC])
   refine tkH 6 (some 69) ?_
   (try simp only [Act.put, sA, sB, sC])
   refine wpAnyH_one (i := 7) rfl (by kernel_rfl) (by rfl) (fun K hK => ?_)
   go_simp
   refine (HT.out _ (Ev.drew (Ev.refl _))).mono ?_
   rintro e z7 ⟨rfl, hb7⟩
   have hy7 : Ev W1 z7 := Ev.trans (Ev.drew (Ev.refl _)) hb7
   refine hK.out _ _ (HSE.out _ hy7) (fun hHeld => ?_)
   clear hK K
   (try simp only [Act.put, sA, sB, sC])
   refine tkH 8 (some 15) ?_
   (try simp only [Act.put, sA, sB, sC])
   refine wpAnyH_done (by kernel_rfl) ?_ _
   have hE7 := hB.trans hy7
   have e4 := (hE7.cells.1 bl (ol + kk * 2) lbb6).trans HC0.out
   have e5 := (hE7.cells.1 bl (ol + kk * 2 + 1) lbb6).trans HC1.out
   have hE1 : (m == r.lo) = e1b := he1
   have hE2 : (m == r.hi) = e2b := he2
   clear hHeld hb7 hy7 HSE HT e0 e1 he1 he2
   cases lw with
   | true =>
    cases hg with
    | true =>
     have HN1 : Hid ((true || (ts.drop (k + 1)).any g1_) = true) := hid (by first | (simp; done) | simpa using HM1.out)
     have HN2 : Hid ((true || (ts.drop (k + 1)).any g2_) = true) := hid (by first | (simp; done) | simpa using HM2.out)
     go_wp2_with (go_quiet (fail))
     exact ⟨⟨k + 1, true, true, rfl, rfl, by go_num, by omega, hE7.drewN _, HN1, HN2⟩, by simp [intOf]; omega⟩
    | false =>
     have HN1 : Hid ((true || (ts.drop (k + 1)).any g1_) = true) := hid (by first | (simp; done) | simpa using HM1.out)
     have HN2 : Hid ((e2b || (ts.drop (k + 1)).any g2_) = true) := hid (by first | (simp; done) | simpa using HM2.out)
     go_wp2_with (go_quiet (fail))
     exact ⟨⟨k + 1, true, e2b, rfl, rfl, by go_num, by omega, hE7.drewN _, HN1, HN2⟩, by simp [intOf]; omega⟩
   | false =>
    cases hg with
    | true =>
     have HN1 : Hid ((e1b || (ts.drop (k + 1)).any g1_) = true) := hid (by first | (simp; done) | simpa using HM1.out)
     have HN2 : Hid ((true || (ts.drop (k + 1)).any g2_) = true) := hid (by first | (simp; done) | simpa using HM2.out)
     go_wp2_with (go_quiet (fail))
     exact ⟨⟨k + 1, e1b, true, rfl, rfl, by go_num, by omega, hE7.drewN _, HN1, HN2⟩, by simp [intOf]; omega⟩
    | false =>
     have HN1 : Hid ((e1b || (ts.drop (k + 1)).any g1_) = true) := hid (by first | (simp; done) | simpa using HM1.out)
     have HN2 : Hid ((e2b || (ts.drop (k + 1)).any g2_) = true) := hid (by first | (simp; done) | simpa using HM2.out)
     go_wp2_with (go_quiet (fail))
     exact ⟨⟨k + 1, e1b, e2b, rfl, rfl, by go_num, by omega, hE7.drewN _, HN1, HN2⟩, by simp [intOf]; omega⟩
  ·
   have h1 := hM1.out
   have h2 := hM2.out
   rw [List.drop_eq_nil_of_le (by rw [HTL.out]; omega)] at h1 h2
   obtain rfl : lw = true := by simpa using h1
   obtain rfl : hg = true := by simpa using h2
   have hn2 : ¬ ((k : Int) < lm) := by omega
   clear h1 h2
   go_wp2_with (first | (go_at_call 19; with_reducible refine (awake_c _).mono ?_; rintro e w99 ⟨rfl, hb99⟩) | (with_reducible refine ⟨trivial, ?_⟩))
   go_ret
   exact ⟨rfl, (HE6.out.trans hB).trans hb99⟩

theorem couchEnds_yes (f : M.Cf) (Aw At Ar : Option Addr) (nw cw nt ct nr cr : Nat) (hl0 : -9223372036854775808 ≤ f.last) (n : Nat) (hn : n < 65536) (hr0 : Nat) (hh : hr0 < 256) (w : World) (HCS : Hid (CS w w.heap.size f Aw At Ar nw cw nt ct nr cr)) (hr : M.rdy f nw nt nr = true) (hsm : M.small nw nt nr) (h0 : M.check f = 0) :
  Calls Try.prog 9 #[.agg #[.int .i64 f.last, .int .i64 f.size, .int .i64 f.cool, .int .i64 f.die, .int .i64 f.burn, .int .i64 f.st.lo, .int .i64 f.st.hi, .slice Aw nw cw, .slice At nt ct, .slice Ar nr cr], .int .u16 (n : Int), .int .u8 (hr0 : Int)] w fun e w' => e = .returned (.bool true) ∧ Ev w w' := by
 by_cases ht : M.truths f = []
 ·
  exact couchEnds_e f Aw At Ar nw cw nt ct nr cr hl0 n hn hr0 hh w HCS hr hsm h0 ht
 ·
  exact couchEnds_o f Aw At Ar nw cw nt ct nr cr hl0 n hn hr0 hh w HCS hr hsm h0 ht
theorem couchEnds_c (f : M.Cf) (Aw At Ar : Option Addr) (nw cw nt ct nr cr : Nat) (hl0 : -9223372036854775808 ≤ f.last) (n : Nat) (hn : n < 65536) (hr0 : Nat) (hh : hr0 < 256) (w : World) (hs : M.small nw nt nr → CS w w.heap.size f Aw At Ar nw cw nt ct nr cr) :
  Calls Try.prog 9 #[.agg #[.int .i64 f.last, .int .i64 f.size, .int .i64 f.cool, .int .i64 f.die, .int .i64 f.burn, .int .i64 f.st.lo, .int .i64 f.st.hi, .slice Aw nw cw, .slice At nt ct, .slice Ar nr cr], .int .u16 (n : Int), .int .u8 (hr0 : Int)] w fun e w' => e = .returned (.bool true) ∧ Ev w w' := by
 cases hr : M.rdy f nw nt nr with
 | false => exact couchEnds_no f Aw At Ar nw cw nt ct nr cr hl0 n hn hr0 hh w hs hr
 | true =>
  have h1 := hr
  unfold M.rdy at h1
  rw [Bool.and_eq_true, Bool.and_eq_true, decide_eq_true_eq, decide_eq_true_eq] at h1
  obtain ⟨⟨hsm, _⟩, h0⟩ := h1
  exact couchEnds_yes f Aw At Ar nw cw nt ct nr cr hl0 n hn hr0 hh w (hid (hs hsm)) hr hsm h0

theorem couchEnds_i (f : M.Cf) (Aw At Ar : Option Addr) (nw cw nt ct nr cr : Nat) (hl0 : -9223372036854775808 ≤ f.last) (a1 : Int) (p1 : 0 ≤ a1) (q1 : a1 < 65536) (a2 : Int) (p2 : 0 ≤ a2) (q2 : a2 < 256) (w : World) (hs : M.small nw nt nr → CS w w.heap.size f Aw At Ar nw cw nt ct nr cr) :
  Calls Try.prog 9 #[.agg #[.int .i64 f.last, .int .i64 f.size, .int .i64 f.cool, .int .i64 f.die, .int .i64 f.burn, .int .i64 f.st.lo, .int .i64 f.st.hi, .slice Aw nw cw, .slice At nt ct, .slice Ar nr cr], .int .u16 a1, .int .u8 a2] w fun e w' => e = .returned (.bool true) ∧ Ev w w' := by
 obtain ⟨n, rfl⟩ : ∃ n : Nat, a1 = n := ⟨a1.toNat, by omega⟩
 obtain ⟨m, rfl⟩ : ∃ m : Nat, a2 = m := ⟨a2.toNat, by omega⟩
 exact couchEnds_c f Aw At Ar nw cw nt ct nr cr hl0 n (by omega) m (by omega) w hs

end Go.Proofs.Ytgimcephbeajlaa
