import Derived.Test.YtgimcephbeajlaaQTruthA
set_option linter.unusedSimpArgs false
set_option linter.unusedVariables false
namespace Go.Proofs.Ytgimcephbeajlaa
open Go.RowKit Go.Shelf

theorem inR_t (n : Int) (r : M.Rg) (b : Bool) (h : M.inR n r = b) (w : World) : Calls Try.prog 53 #[.int .i64 n, .agg #[.int .i64 r.lo, .int .i64 r.hi]] w fun e w' => e = .returned (.bool b) ∧ Ev w w' := by
 subst h
 exact inR_c n r w
theorem In_t (n lo hi : Int) (b : Bool) (h : M.isIn n lo hi = b) (w : World) : Calls Try.prog 54 #[.int .i64 n, .int .i64 lo, .int .i64 hi] w fun e w' => e = .returned (.bool b) ∧ Ev w w' := by
 subst h
 exact In_c n lo hi w
theorem In_u (n lo hi : Int) (b : Bool) (h : M.isIn n lo hi = b) (w : World) : Calls Try.prog 54 #[.int .i64 n, .int .i64 lo, .int .i64 hi] w fun e w' => e = .returned (.bool b) ∧ w' = w := by
 subst h
 exact In_s n lo hi w

set_option maxRecDepth 100000 in
set_option maxHeartbeats 2000000 in
theorem couchTruth_no (f : M.Cf) (Aw At Ar : Option Addr) (nw cw nt ct nr cr : Nat) (hl0 : -9223372036854775808 ≤ f.last) (wn : Nat) (hwn : wn < 65536) (B : Option Addr) (bn bc : Nat) (ws : List Int) (hws : ∀ x ∈ ws, 0 ≤ x ∧ x < 65536) (hbc : bn ≤ bc) (hbm : bc ≤ maxLen) (n : Nat) (hn : n < 65536) (w : World) (hs : M.small nw nt nr → CS w w.heap.size f Aw At Ar nw cw nt ct nr cr) (hno : M.rdy f nw nt nr = false) :
  Calls Try.prog 8 #[.agg #[.int .i64 f.last, .int .i64 f.size, .int .i64 f.cool, .int .i64 f.die, .int .i64 f.burn, .int .i64 f.st.lo, .int .i64 f.st.hi, .slice Aw nw cw, .slice At nt ct, .slice Ar nr cr], .int .u16 (wn : Int), .slice B bn bc, .int .u16 (n : Int)] w fun e w' => e = .returned (.bool true) ∧ Ev w w' := by
 have HRD := hid (fun W (hE : Ev w W) => by have := ready_c f Aw At Ar nw cw nt ct nr cr hl0 W (fun h => (hs h).ev hE); rw [hno] at this; exact this)
 clear hs hno
 go_enter Try.func8, Try.ntmps8
 go_wp2_with (first | (go_at_call 50; with_reducible refine (HRD.out _ (Ev.alloc (Ev.refl _) _)).mono ?_; rintro e w1 ⟨rfl, hb1⟩; have hG : Ev w w1 := (Ev.alloc (Ev.refl _) _).trans hb1; have Q0 := hid (hb1.heap (alloc1 w (.cells #[.int .i64 f.last, .int .i64 f.size, .int .i64 f.cool, .int .i64 f.die, .int .i64 f.burn, .int .i64 f.st.lo, .int .i64 f.st.hi, .slice Aw nw cw, .slice At nt ct, .slice Ar nr cr] 28)).1); obtain ⟨y0, y1, y2, y3, y4, y5, y6, y7, y8, y9⟩ := cells10 Q0.out) | (go_at_call 19; with_reducible refine (awake_c _).mono ?_; rintro e w99 ⟨rfl, hb99⟩) | (with_reducible refine ⟨trivial, ?_⟩))
 go_ret
 exact ⟨rfl, hG.trans hb99⟩

set_option maxRecDepth 100000 in
set_option maxHeartbeats 16000000 in
theorem couchTruth_yes (f : M.Cf) (Aw At Ar : Option Addr) (nw cw nt ct nr cr : Nat) (hl0 : -9223372036854775808 ≤ f.last) (wn : Nat) (hwn : wn < 65536) (B : Option Addr) (bn bc : Nat) (ws : List Int) (hws : ∀ x ∈ ws, 0 ≤ x ∧ x < 65536) (hbc : bn ≤ bc) (hbm : bc ≤ maxLen) (n : Nat) (hn : n < 65536) (w : World) (HCS : Hid (CS w w.heap.size f Aw At Ar nw cw nt ct nr cr)) (hr : M.rdy f nw nt nr = true) (hsm : M.small nw nt nr) (h0 : M.check f = 0) (HWS : Hid (Sl0 wcs 1 w w.heap.size B bn ws)) :
  Calls Try.prog 8 #[.agg #[.int .i64 f.last, .int .i64 f.size, .int .i64 f.cool, .int .i64 f.die, .int .i64 f.burn, .int .i64 f.st.lo, .int .i64 f.st.hi, .slice Aw nw cw, .slice At nt ct, .slice Ar nr cr], .int .u16 (wn : Int), .slice B bn bc, .int .u16 (n : Int)] w fun e w' => e = .returned (.bool true) ∧ Ev w w' := by
 obtain ⟨s0, s1, s2⟩ := hsm
 have HRD := hid (fun W (hE : Ev w W) => by have := ready_c f Aw At Ar nw cw nt ct nr cr hl0 W (fun _ => HCS.out.ev hE); rw [hr] at this; exact this)
 obtain ⟨hl9, _, hv, _⟩ := M.check0 h0
 have hlast := (M.valid_parts hv).2.2.2.2.2.1
 have hwl := HCS.out.w_.len
 have hl00 := (M.valid_parts hv).2.2.2.2.1
 have hnl : (nw : Int) = f.last + 1 := by omega
 have hnw0 : 0 < nw := by omega
 have hnw10 : nw ≤ 10 := by omega
 have HLK := hid (fun W (hE : Ev w W) => Looked_c f Aw At Ar nw cw nt ct nr cr h0 wn hwn B bn bc ws hws hbc hbm W (HCS.out.ev hE) (HWS.out.ev hE))
 have g1 : IntKind.i64.wrap (f.last + 1) = f.last + 1 := IntWalk.i64_in _ (by omega)
 have c6_ : ((nw : Int) != f.last + 1) = false := by simp; omega
 have c7_ : ((nw : Int) != (nw : Int)) = false := by simp
 have hpl := M.trn_ok hv n
 have HTU := hid (fun W => turned_c f Aw At Ar nw cw nt ct nr cr hv hl9 n hn W)
 have hpnl := M.trn_len f n
 obtain ⟨plan, hplan⟩ : ∃ p, M.trn f n = p := ⟨_, rfl⟩
 obtain ⟨pn, hpn⟩ : ∃ p, plan.length = p := ⟨_, rfl⟩
 rw [hplan, hpn] at HTU
 rw [hplan] at hpl hpnl
 rw [hpn] at hpnl
 clear hplan
 have HH0 := hid h0
 have HPL := hid hpl
 have HHV := hid hv
 have HWL := hid hwl
 have HI3 := hid (fun W => In_s 3 1 3 W)
 clear hr h0 hv hwl hlast hl9 hpl hnl
 go_enter Try.func8, Try.ntmps8
 go_upto_region 3 with (first | (go_at_call 50; with_reducible refine (HRD.out _ (Ev.alloc (Ev.refl _) _)).mono ?_; rintro e w1 ⟨rfl, hb1⟩; have hG : Ev w w1 := (Ev.alloc (Ev.refl _) _).trans hb1; have Q0 := hid (hb1.heap (alloc1 w (.cells #[.int .i64 f.last, .int .i64 f.size, .int .i64 f.cool, .int .i64 f.die, .int .i64 f.burn, .int .i64 f.st.lo, .int .i64 f.st.hi, .slice Aw nw cw, .slice At nt ct, .slice Ar nr cr] 28)).1); obtain ⟨y0, y1, y2, y3, y4, y5, y6, y7, y8, y9⟩ := cells10 Q0.out) | (with_reducible refine ⟨trivial, ?_⟩))
 go_upto_region 4 with (first | (go_at_call 51; with_reducible refine (HLK.out _ hG).mono ?_; rintro e x2 ⟨⟨t, ls, Vx, dx, Tb, td, hlt, hl5, hgd, rfl, hcx, htw⟩, hb⟩; have HE2 := hid (hG.trans hb); have HV2 := hid hb; have HCX := hid hcx; have HTW := hid htw; have HGD := hid (And.intro hlt hgd); clear hb hcx htw hlt hgd; clear y0 y1 y2 y3 y4 y5 y6 y7 y8 y9; obtain ⟨y0, y1, y2, y3, y4, y5, y6, y7, y8, y9⟩ := cells10 (HV2.out.heap Q0.out)) | (with_reducible refine ⟨trivial, ?_⟩))
 generalize hx4 : World.alloc (World.alloc x2 _) _ = x4
 have hE4 : Ev x2 x4 := by rw [← hx4]; exact Ev.alloc (Ev.alloc (Ev.refl _) _) _
 have hal := alloc2 x2 (.cells #[.int .i64 f.last, .int .i64 f.size, .int .i64 f.cool, .int .i64 f.die, .int .i64 f.burn, .int .i64 f.st.lo, .int .i64 f.st.hi, .slice Aw nw cw, .slice At nt ct, .slice Vx ls.length dx] 28) (.cells #[.int .i64 t.st, .slice Tb nw td] 30)
 rw [hx4] at hal
 have HXB := hid hal.1
 have HTB := hid hal.2.1
 clear hal hx4
 have lpx := heap_lt (HV2.out.heap Q0.out)
 obtain ⟨px, hpx⟩ : ∃ p, p = x2.heap.size := ⟨_, rfl⟩
 rw [← hpx] at HXB HTB lpx ⊢
 obtain ⟨nx, hnx⟩ : ∃ m, ls.length = m := ⟨_, rfl⟩
 rw [hnx] at HCX HXB ⊢
 have hnx5 : nx ≤ 5 := by omega
 have HE4 := hid (HE2.out.trans hE4)
 have HV4 := hid (HV2.out.trans hE4)
 have HX4 := hid (Ev.refl x4)
 have HC4 := hid (HCX.out.ev hE4)
 have HT4 := hid (HTW.out.ev hE4)
 clear hpx hE4 HCX HTW HLK y0 y1 y2 y3 y4 y5 y6 y7 y8 y9
 have HHX := hid (fun W (h : CS W W.heap.size (M.withL f ls) Aw At Vx nw cw nt ct nx dx) => HeapL_c f ls Aw At Vx nw cw nt ct nx dx (by omega) (by omega) (by omega) W h)
 have HPY := hid (fun (Bw : Option Addr) (dw : Nat) (Bt : Option Addr) (dt : Nat) (Br : Option Addr) (dr : Nat) (T1 : Option Addr) (u1 : Nat) (L : Option Addr) (d : Nat) W (h : CS W W.heap.size (M.withL f ls) Bw Bt Br nw dw nt dt nx dr) (h1 : Sl ics 1 W W.heap.size T1 nw u1 t.wet) (h3 : Sl ics 1 W W.heap.size L pn d plan) => PlayL_ok f ls Bw Bt Br nw dw nt dt nx dr hl0 HH0.out t HGD.out.1 hl5 (fun l hl => (HGD.out.2 l hl).1) (fun l hl => (HGD.out.2 l hl).2) L pn d plan T1 nw u1 W h h1 h3 HPL.out)
 have HBN := hid (fun (Bw : Option Addr) (dw : Nat) (Bt : Option Addr) (dt : Nat) (Br : Option Addr) (dr : Nat) (L : Option Addr) (d : Nat) W (h : CS W W.heap.size (M.withL f ls) Bw Bt Br nw dw nt dt nx dr) (h3 : Sl ics 1 W W.heap.size L pn d plan) => BoundsT_ok f ls Bw Bt Br nw dw nt dt nx dr hl0 HH0.out t HGD.out.1 hl5 (fun l hl => (HGD.out.2 l hl).1) (fun l hl => (HGD.out.2 l hl).2) L pn d plan W h h3 HPL.out)
 have HKP := hid (fun (Bw : Option Addr) (dw : Nat) (Bt : Option Addr) (dt : Nat) (Br : Option Addr) (dr : Nat) (L : Option Addr) (d : Nat) W (h : CS W W.heap.size (M.withL f ls) Bw Bt Br nw dw nt dt nx dr) (h3 : Sl ics 1 W W.heap.size L pn d plan) => KeepsT_ok f ls Bw Bt Br nw dw nt dt nx dr hl0 HH0.out t HGD.out.1 hl5 (fun l hl => (HGD.out.2 l hl).1) (fun l hl => (HGD.out.2 l hl).2) L pn d plan W h h3 HPL.out)
 have HLV := hid (fun (Bw : Option Addr) (dw : Nat) (Bt : Option Addr) (dt : Nat) (Br : Option Addr) (dr : Nat) W (h : CS W W.heap.size (M.withL f ls) Bw Bt Br nw dw nt dt nx dr) => LeaveT_ok f ls Bw Bt Br nw dw nt dt nx dr hl0 HH0.out t HGD.out.1 hl5 (fun l hl => (HGD.out.2 l hl).1) (fun l hl => (HGD.out.2 l hl).2) W h )
 have HFR := hid (fun (Bw : Option Addr) (dw : Nat) (Bt : Option Addr) (dt : Nat) (Br : Option Addr) (dr : Nat) W (h : CS W W.heap.size (M.withL f ls) Bw Bt Br nw dw nt dt nx dr) => FirstT_c f ls Bw Bt Br nw dw nt dt nx dr hl0 HH0.out t HGD.out.1 hl5 (fun l hl => (HGD.out.2 l hl).1) (fun l hl => (HGD.out.2 l hl).2) W h )
 have HPT := hid (fun (Bw : Option Addr) (dw : Nat) (Bt : Option Addr) (dt : Nat) (Br : Option Addr) (dr : Nat) (T1 : Option Addr) (u1 : Nat) W (h : CS W W.heap.size (M.withL f ls) Bw Bt Br nw dw nt dt nx dr) (h1 : Sl ics 1 W W.heap.size T1 nw u1 t.wet) => ProveT_ok f ls Bw Bt Br nw dw nt dt nx dr hl0 HH0.out t HGD.out.1 hl5 (fun l hl => (HGD.out.2 l hl).1) (fun l hl => (HGD.out.2 l hl).2) T1 nw u1 W h h1 )
 have hti := M.lk_in HGD.out.1 (fun l hl => (HGD.out.2 l hl).2)
 have hrw := fun (k : Nat) (x : Int) (r : M.Rg) (hk : k < nw) hx hr => M.lk_row (f := M.withL f ls) hti (plan := plan) (n := nw) (k := k) hk (x := x) (r := r) hx hr
 have hky := M.lk_keeps (f := M.withL f ls) hti plan
 have hsy : M.stays (M.withL f ls) t plan = ((M.heats (M.withL f ls) t plan).take nw).all (fun x => M.isIn x f.die f.burn) := by
  unfold M.stays
  rw [show (M.withL f ls).wet.length = nw from HWL.out]
  exact M.lk_lost (M.withL f ls) _
 rw [hsy] at hky
 generalize (M.heats (M.withL f ls) t plan).take nw = vs at HPY hrw hky
 generalize M.bounds (M.withL f ls) (M.truths (M.withL f ls)) plan = bs at HBN hrw
 generalize M.keepsOf (M.withL f ls) (M.truths (M.withL f ls)) plan = vk at HKP hky
 have HRW := hid hrw
 have HKY := hid hky
 clear hti hrw hky hsy hl5 hnx
 obtain ⟨y0, y1, y2, y3, y4, y5, y6, y7, y8, y9⟩ := cells10 (HV4.out.heap Q0.out)
 go_upto_region 5 with (first | (go_at_call 52; with_reducible refine (HTU.out _).mono ?_; rintro e x5 ⟨⟨BTN, dTN, rfl, htn⟩, hb⟩; have HE5 := hid (HE4.out.trans hb); have HV5 := hid (HV4.out.trans hb); have HX5 := hid (HX4.out.trans hb); have HW5 := hid (Ev.refl x5); have HTN := hid htn; clear htn; clear hb) | (with_reducible refine ⟨trivial, ?_⟩))
 clear y0 y1 y2 y3 y4 y5 y6 y7 y8 y9
 obtain ⟨u0, u1, u2, u3, u4, u5, u6, u7, u8, u9⟩ := cells10 (HX5.out.heap HXB.out)
 obtain ⟨c0, c1⟩ := cells2 (HX5.out.heap HTB.out)
 have l0 := heap_lt (HX5.out.heap HXB.out)
 have l1 := heap_lt (HX5.out.heap HTB.out)
 have HSE : Hid (∀ w', Ev x5 w' → (∀ o, w'.cell? ⟨px, o, none⟩ = x5.cell? ⟨px, o, none⟩) ∧ (∀ o, w'.cell? ⟨px + 1, o, none⟩ = x5.cell? ⟨px + 1, o, none⟩)) := hid (fun w' h => ⟨fun o => h.cells.1 _ o l0, fun o => h.cells.1 _ o l1⟩)
 refine wp_region_held_drew (S := fun w' => (∀ o, w'.cell? ⟨px, o, none⟩ = x5.cell? ⟨px, o, none⟩) ∧ (∀ o, w'.cell? ⟨px + 1, o, none⟩ = x5.cell? ⟨px + 1, o, none⟩)) (by kernel_rfl) (⟨fun o => rfl, fun o => rfl⟩) (fun hHeld => ?_)
 refine tkH 0 (some 39) ?_
 (try simp only [Act.put, sA, sB, sC])
 refine tkH 2 (some 41) ?_
 (try simp only [Act.put, sA, sB, sC])
 refine tkH 4 (some 43) ?_
 (try simp only [Act.put, sA, sB, sC])
 refine wpAnyH_one (i := 1) rfl (by kernel_rfl) (by rfl) (fun K hK => ?_)
 go_simp
 refine (HHX.out _ (HC4.out.ev (HX5.out.trans (Ev.drew (Ev.refl _))))).mono ?_
 rintro e z1 ⟨⟨Bw3, dw3, Bt3, dt3, Br3, dr3, rfl, hc⟩, hb1⟩
 have hy1 : Ev x5 z1 := Ev.trans (Ev.drew (Ev.refl _)) hb1
 refine hK.out _ _ (HSE.out _ hy1) (fun hHeld => ?_)
 clear hK K
 (try simp only [Act.put, sA, sB, sC])
 refine wpAnyH_one (i := 3) rfl (by kernel_rfl) (by rfl) (fun K hK => ?_)
 go_simp
 refine (Truth_c Tb nw td t (by omega) _ (HT4.out.ev (HX5.out.trans hy1))).mono ?_
 rintro e z3 ⟨⟨T1, u1_, rfl, ht1⟩, hb3⟩
 have hy3 : Ev x5 z3 := Ev.trans hy1 hb3
 refine hK.out _ _ (HSE.out _ hy3) (fun hHeld => ?_)
 clear hK K
 (try simp only [Act.put, sA, sB, sC])
 refine wpAnyH_one (i := 5) rfl (by kernel_rfl) (by rfl) (fun K hK => ?_)
 go_simp
 refine (list_c BTN pn dTN plan (by omega) _ (HTN.out.ev hy3)).mono ?_
 rintro e z5 ⟨⟨L, dL, rfl, hl3⟩, hb5⟩
 have hy5 : Ev x5 z5 := Ev.trans hy3 hb5
 refine hK.out _ _ (HSE.out _ hy5) (fun hHeld => ?_)
 clear hK K
 (try simp only [Act.put, sA, sB, sC])
 refine wpAnyH_one (i := 6) rfl (by kernel_rfl) (by rfl) (fun K hK => ?_)
 go_simp
 refine (HPY.out Bw3 dw3 Bt3 dt3 Br3 dr3 T1 u1_ L dL _ ((hc.ev hb3).ev hb5) (ht1.ev hb5) (sl_own (enc := ics) (by decide) (ics_len _) (by omega) hl3)).mono ?_
 rintro e z6 ⟨⟨BP, dP, rfl, hown⟩, hb6⟩
 have hy6 : Ev x5 z6 := Ev.trans hy5 hb6
 refine hK.out _ _ (HSE.out _ hy6) (fun hHeld => ?_)
 clear hK K
 (try simp only [Act.put, sA, sB, sC])
 refine tkH 7 (some 38) ?_
 (try simp only [Act.put, sA, sB, sC])
 refine tkH 8 (some 46) ?_
 (try simp only [Act.put, sA, sB, sC])
 refine tkH 9 (some 47) ?_
 (try simp only [Act.put, sA, sB, sC])
 refine tkH 10 (some 12) ?_
 (try simp only [Act.put, sA, sB, sC])
 refine tkH 11 (some 13) ?_
 (try simp only [Act.put, sA, sB, sC])
 refine wpAnyH_done (by kernel_rfl) ?_ _
 obtain ⟨x6, hx6⟩ : ∃ x, x = z6 := ⟨_, rfl⟩
 subst hx6
 have HE6 := hid (HE5.out.trans hy6)
 have HV6 := hid (HV5.out.trans hy6)
 have HX6 := hid (HX5.out.trans hy6)
 have HW6 := hid (HW5.out.trans hy6)
 have HP6 := hid (Ev.refl x6)
 have HVS := hid hown
 clear hc ht1 hl3 hown HSE hHeld c0 c1 l0 l1 u0 u1 u2 u3 u4 u5 u6 u7 u8 u9
 obtain ⟨u0, u1, u2, u3, u4, u5, u6, u7, u8, u9⟩ := cells10 (HX6.out.heap HXB.out)
 go_upto_region 7 with (first | (go_at_call 21; with_reducible refine (HHX.out _ (HC4.out.ev HX6.out)).mono ?_; rintro e x7 ⟨⟨Bw7, dw7, Bt7, dt7, Br7, dr7, rfl, hc⟩, hb⟩; have HE7 := hid (HE6.out.trans hb); have HV7 := hid (HV6.out.trans hb); have HX7 := hid (HX6.out.trans hb); have HW7 := hid (HW6.out.trans hb); have HP7 := hid (HP6.out.trans hb); have HC7 := hid hc; clear hc hb) | (go_at_call 23; with_reducible refine (list_c BTN pn dTN plan (by omega) _ (HTN.out.ev HW7.out)).mono ?_; rintro e x8 ⟨⟨L8, D8, rfl, hc⟩, hb⟩; have HE8 := hid (HE7.out.trans hb); have HV8 := hid (HV7.out.trans hb); have HX8 := hid (HX7.out.trans hb); have HW8 := hid (HW7.out.trans hb); have HP8 := hid (HP7.out.trans hb); have HL8 := hid (sl_own (enc := ics) (by decide) (ics_len _) (by omega) hc); have HM8 := hid hb; clear hc hb) | (go_at_call 31; with_reducible refine (HBN.out Bw7 dw7 Bt7 dt7 Br7 dr7 L8 D8 _ (HC7.out.ev HM8.out) HL8.out).mono ?_; rintro e x9 ⟨⟨BB, dB, rfl, hbb⟩, hb⟩; have HE9 := hid (HE8.out.trans hb); have HV9 := hid (HV8.out.trans hb); have HX9 := hid (HX8.out.trans hb); have HW9 := hid (HW8.out.trans hb); have HP9 := hid (HP8.out.trans hb); have HB9 := hid (Ev.refl x9); have HBB := hid hbb; clear hbb; clear u0 u1 u2 u3 u4 u5 u6 u7 u8 u9; obtain ⟨u0, u1, u2, u3, u4, u5, u6, u7, u8, u9⟩ := cells10 (HX9.out.heap HXB.out); clear hb) | (with_reducible refine ⟨trivial, ?_⟩))
 go_upto_region 8 with (first | (go_at_call 21; with_reducible refine (HHX.out _ (HC4.out.ev HX9.out)).mono ?_; rintro e x10 ⟨⟨Bw10, dw10, Bt10, dt10, Br10, dr10, rfl, hc⟩, hb⟩; have HE10 := hid (HE9.out.trans hb); have HV10 := hid (HV9.out.trans hb); have HX10 := hid (HX9.out.trans hb); have HW10 := hid (HW9.out.trans hb); have HP10 := hid (HP9.out.trans hb); have HB10 := hid (HB9.out.trans hb); have HC10 := hid hc; clear hc hb) | (go_at_call 23; with_reducible refine (list_c BTN pn dTN plan (by omega) _ (HTN.out.ev HW10.out)).mono ?_; rintro e x11 ⟨⟨L11, D11, rfl, hc⟩, hb⟩; have HE11 := hid (HE10.out.trans hb); have HV11 := hid (HV10.out.trans hb); have HX11 := hid (HX10.out.trans hb); have HW11 := hid (HW10.out.trans hb); have HP11 := hid (HP10.out.trans hb); have HB11 := hid (HB10.out.trans hb); have HL11 := hid (sl_own (enc := ics) (by decide) (ics_len _) (by omega) hc); have HM11 := hid hb; clear hc hb) | (go_at_call 32; with_reducible refine (HKP.out Bw10 dw10 Bt10 dt10 Br10 dr10 L11 D11 _ (HC10.out.ev HM11.out) HL11.out).mono ?_; rintro e x12 ⟨rfl, hb⟩; have HE12 := hid (HE11.out.trans hb); have HV12 := hid (HV11.out.trans hb); have HX12 := hid (HX11.out.trans hb); have HW12 := hid (HW11.out.trans hb); have HP12 := hid (HP11.out.trans hb); have HB12 := hid (HB11.out.trans hb); clear u0 u1 u2 u3 u4 u5 u6 u7 u8 u9; obtain ⟨u0, u1, u2, u3, u4, u5, u6, u7, u8, u9⟩ := cells10 (HX12.out.heap HXB.out); clear hb) | (with_reducible refine ⟨trivial, ?_⟩))
 go_upto_region 9 with (first | (go_at_call 21; with_reducible refine (HHX.out _ (HC4.out.ev HX12.out)).mono ?_; rintro e x13 ⟨⟨Bw13, dw13, Bt13, dt13, Br13, dr13, rfl, hc⟩, hb⟩; have HE13 := hid (HE12.out.trans hb); have HV13 := hid (HV12.out.trans hb); have HX13 := hid (HX12.out.trans hb); have HW13 := hid (HW12.out.trans hb); have HP13 := hid (HP12.out.trans hb); have HB13 := hid (HB12.out.trans hb); have HC13 := hid hc; clear hc hb) | (go_at_call 41; with_reducible refine (HLV.out Bw13 dw13 Bt13 dt13 Br13 dr13 _ HC13.out).mono ?_; rintro e x14 ⟨⟨BO, dO, rfl⟩, hb⟩; have HE14 := hid (HE13.out.trans hb); have HV14 := hid (HV13.out.trans hb); have HX14 := hid (HX13.out.trans hb); have HW14 := hid (HW13.out.trans hb); have HP14 := hid (HP13.out.trans hb); have HB14 := hid (HB13.out.trans hb); clear u0 u1 u2 u3 u4 u5 u6 u7 u8 u9; obtain ⟨u0, u1, u2, u3, u4, u5, u6, u7, u8, u9⟩ := cells10 (HX14.out.heap HXB.out); clear hb) | (with_reducible refine ⟨trivial, ?_⟩))
 go_upto_region 10 with (first | (go_at_call 21; with_reducible refine (HHX.out _ (HC4.out.ev HX14.out)).mono ?_; rintro e x15 ⟨⟨Bw15, dw15, Bt15, dt15, Br15, dr15, rfl, hc⟩, hb⟩; have HE15 := hid (HE14.out.trans hb); have HV15 := hid (HV14.out.trans hb); have HX15 := hid (HX14.out.trans hb); have HW15 := hid (HW14.out.trans hb); have HP15 := hid (HP14.out.trans hb); have HB15 := hid (HB14.out.trans hb); have HC15 := hid hc; clear hc hb) | (go_at_call 40; with_reducible refine (HFR.out Bw15 dw15 Bt15 dt15 Br15 dr15 _ HC15.out).mono ?_; rintro e x16 ⟨rfl, hb⟩; have HE16 := hid (HE15.out.trans hb); have HV16 := hid (HV15.out.trans hb); have HX16 := hid (HX15.out.trans hb); have HW16 := hid (HW15.out.trans hb); have HP16 := hid (HP15.out.trans hb); have HB16 := hid (HB15.out.trans hb); clear u0 u1 u2 u3 u4 u5 u6 u7 u8 u9; obtain ⟨u0, u1, u2, u3, u4, u5, u6, u7, u8, u9⟩ := cells10 (HX16.out.heap HXB.out); clear hb) | (with_reducible refine ⟨trivial, ?_⟩))
 obtain ⟨y0, y1, y2, y3, y4, y5, y6, y7, y8, y9⟩ := cells10 (HV16.out.heap Q0.out)
 obtain ⟨c0, c1⟩ := cells2 (HX16.out.heap HTB.out)
 have l0 := heap_lt (HV16.out.heap Q0.out)
 have l1 := heap_lt (HX16.out.heap HXB.out)
 have l2 := heap_lt (HX16.out.heap HTB.out)
 have HSE : Hid (∀ w', Ev x16 w' → (∀ o, w'.cell? ⟨w.heap.size, o, none⟩ = x16.cell? ⟨w.heap.size, o, none⟩) ∧ (∀ o, w'.cell? ⟨px, o, none⟩ = x16.cell? ⟨px, o, none⟩) ∧ (∀ o, w'.cell? ⟨px + 1, o, none⟩ = x16.cell? ⟨px + 1, o, none⟩)) := hid (fun w' h => ⟨fun o => h.cells.1 _ o l0, fun o => h.cells.1 _ o l1, fun o => h.cells.1 _ o l2⟩)
 refine wp_region_held_drew (S := fun w' => (∀ o, w'.cell? ⟨w.heap.size, o, none⟩ = x16.cell? ⟨w.heap.size, o, none⟩) ∧ (∀ o, w'.cell? ⟨px, o, none⟩ = x16.cell? ⟨px, o, none⟩) ∧ (∀ o, w'.cell? ⟨px + 1, o, none⟩ = x16.cell? ⟨px + 1, o, none⟩)) (by kernel_rfl) (⟨fun o => rfl, fun o => rfl, fun o => rfl⟩) (fun hHeld => ?_)
 refine tkH 0 (some 76) ?_
 (try simp only [Act.put, sA, sB, sC])
 refine tkH 1 (some 77) ?_
 (try simp only [Act.put, sA, sB, sC])
 refine tkH 2 (some 78) ?_
 (try simp only [Act.put, sA, sB, sC])
 refine tkH 3 (some 79) ?_
 (try simp only [Act.put, sA, sB, sC])
 refine tkH 4 (some 80) ?_
 (try simp only [Act.put, sA, sB, sC])
 refine tkH 5 (some 81) ?_
 (try simp only [Act.put, sA, sB, sC])
 refine tkH 6 (some 82) ?_
 (try simp only [Act.put, sA, sB, sC])
 refine tkH 7 (some 83) ?_
 (try simp only [Act.put, sA, sB, sC])
 refine tkH 8 (some 84) ?_
 (try simp only [Act.put, sA, sB, sC])
 refine tkH 9 (some 85) ?_
 (try simp only [Act.put, sA, sB, sC])
 refine tkH 10 (some 86) ?_
 (try simp only [Act.put, sA, sB, sC])
 refine tkH 11 (some 87) ?_
 (try simp only [Act.put, sA, sB, sC])
 refine tkH 12 (some 88) ?_
 (try simp only [Act.put, sA, sB, sC])
 refine tkH 13 (some 89) ?_
 (try simp only [Act.put, sA, sB, sC])
 refine tkH 14 (some 90) ?_
 (try simp only [Act.put, sA, sB, sC])
 refine tkH 15 (some 91) ?_
 (try simp only [Act.put, sA, sB, sC])
 refine tkH 16 (some 92) ?_
 (try simp only [Act.put, sA, sB, sC])
 refine tkH 17 (some 93) ?_
 (try simp only [Act.put, sA, sB, sC])
 refine tkH 18 (some 94) ?_
 (try simp only [Act.put, sA, sB, sC])
 refine tkH 19 (some 95) ?_
 (try simp only [Act.put, sA, sB, sC])
 refine tkH 20 (some 96) ?_
 (try simp only [Act.put, sA, sB, sC])
 refine tkH 21 (some 97) ?_
 (try simp only [Act.put, sA, sB, sC])
 refine tkH 22 (some 98) ?_
 (try simp only [Act.put, sA, sB, sC])
 refine tkH 23 (some 99) ?_
 (try simp only [Act.put, sA, sB, sC])
 refine tkH 24 (some 100) ?_
 (try simp only [Act.put, sA, sB, sC])
 refine tkH 25 (some 101) ?_
 (try simp only [Act.put, sA, sB, sC])
 refine tkH 26 (some 102) ?_
 (try simp only [Act.put, sA, sB, sC])
 refine tkH 27 (some 103) ?_
 (try simp only [Act.put, sA, sB, sC])
 refine tkH 28 (some 104) ?_
 (try simp only [Act.put, sA, sB, sC])
 refine tkH 29 (some 105) ?_
 (try simp only [Act.put, sA, sB, sC])
 refine tkH 30 (some 106) ?_
 (try simp only [Act.put, sA, sB, sC])
 refine tkH 31 (some 107) ?_
 (try simp only [Act.put, sA, sB, sC])
 refine tkH 32 (some 108) ?_
 (try simp only [Act.put, sA, sB, sC])
 refine tkH 33 (some 109) ?_
 (try simp only [Act.put, sA, sB, sC])
 refine tkH 34 (some 110) ?_
 (try simp only [Act.put, sA, sB, sC])
 refine tkH 35 (some 111) ?_
 (try simp only [Act.put, sA, sB, sC])
 refine tkH 36 (some 112) ?_
 (try simp only [Act.put, sA, sB, sC])
 refine tkH 37 (some 113) ?_
 (try simp only [Act.put, sA, sB, sC])
 refine tkH 38 (some 114) ?_
 (try simp only [Act.put, sA, sB, sC])
 refine tkH 39 (some 115) ?_
 (try simp only [Act.put, sA, sB, sC])
 refine tkH 41 (some 117) ?_
 (try simp only [Act.put, sA, sB, sC])
 refine wpAnyH_one (i := 40) rfl (by kernel_rfl) (by rfl) (fun K hK => ?_)
 go_simp
 refine (HHX.out _ (HC4.out.ev (HX16.out.trans (Ev.drew (Ev.refl _))))).mono ?_
 rintro e z40 ⟨⟨Bw17, dw17, Bt17, dt17, Br17, dr17, rfl, hc17⟩, hb40⟩
 have hy40 : Ev x16 z40 := Ev.trans (Ev.drew (Ev.refl _)) hb40
 refine hK.out _ _ (HSE.out _ hy40) (fun hHeld => ?_)
 clear hK K
 (try simp only [Act.put, sA, sB, sC])
 refine wpAnyH_one (i := 42) rfl (by kernel_rfl) (by rfl) (fun K hK => ?_)
 go_simp
 refine (Truth_c Tb nw td t (by omega) _ (HT4.out.ev (HX16.out.trans hy40))).mono ?_
 rintro e z42 ⟨⟨T2, u2_, rfl, ht2⟩, hb42⟩
 have hy42 : Ev x16 z42 := Ev.trans hy40 hb42
 refine hK.out _ _ (HSE.out _ hy42) (fun hHeld => ?_)
 clear hK K
 (try simp only [Act.put, sA, sB, sC])
 refine wpAnyH_one (i := 43) rfl (by kernel_rfl) (by rfl) (fun K hK => ?_)
 go_simp
 refine (HPT.out Bw17 dw17 Bt17 dt17 Br17 dr17 T2 u2_ _ (hc17.ev hb42) ht2).mono ?_
 rintro e z43 ⟨rfl, hb43⟩
 have hy43 : Ev x16 z43 := Ev.trans hy42 hb43
 refine hK.out _ _ (HSE.out _ hy43) (fun hHeld => ?_)
 clear hK K
 (try simp only [Act.put, sA, sB, sC])
 refine tkH 44 (some 120) ?_
 (try simp only [Act.put, sA, sB, sC])
 refine tkH 45 (some 121) ?_
 (try simp only [Act.put, sA, sB, sC])
 refine wpAnyH_done (by kernel_rfl) ?_ _
 obtain ⟨x17, hx17⟩ : ∃ x, x = z43 := ⟨_, rfl⟩
 subst hx17
 have HE17 := hid (HE16.out.trans hy43)
 have HV17 := hid (HV16.out.trans hy43)
 have HP17 := hid (HP16.out.trans hy43)
 have HB17 := hid (HB16.out.trans hy43)
 clear hc17 ht2 HSE hHeld c0 c1 l0 l1 l2 u0 u1 u2 u3 u4 u5 u6 u7 u8 u9 y0 y1 y2 y3 y4 y5 y6 y7 y8 y9
 go_wp2_with fail
 go_loopw [22, 23] (fun b i wr => ∃ (k : Nat) (kb : Bool), b = .bool kb ∧ i = .int .i64 k ∧ k ≤ nw ∧ Ev x17 wr ∧ Hid ((kb && (vs.drop k).all (fun x => M.isIn x f.die f.burn)) = vs.all (fun x => M.isIn x f.die f.burn))) (fun _ i _ => nw - (intOf i).toNat)
 case atStart => exact ⟨0, true, rfl, rfl, by omega, Ev.refl _, hid (by simp)⟩
 case round =>
  obtain ⟨k, kb, rfl, rfl, hk, hB, HAL⟩ := hrel
  obtain ⟨W1, hW1⟩ : ∃ x, x = wr := ⟨_, rfl⟩
  subst hW1
  by_cases hlt : k < nw
  ·
   obtain ⟨b1, o1, x, hA1, hb1, hxx, hxd, e0⟩ := (HVS.out.ev (HP17.out.trans hB)).int (Below.refl _ _) hlt
   obtain ⟨b2, o2, r, hA2, hb2, hrr, _, hc2⟩ := (HBB.out.ev (HB17.out.trans hB)).at_ (Below.refl _ _) hlt
   have e2 := hc2 0 _ rfl
   have e3 := hc2 1 _ rfl
   simp only [Nat.add_zero] at e2
   have p1 := HVS.out.cap
   have p2 := HBB.out.cap
   have hin := HRW.out k x r hlt hxx hrr
   have HIN := hid (fun W => inR_t x r true hin W)
   have HXD := hid hxd
   have hEv := HV17.out.trans hB
   subst hA1 hA2
   clear hxx hrr hc2 hin hxd
   go_upto_region 16 with fail
   have HSE : Hid (∀ w', Ev W1 w' → (∀ o, w'.cell? ⟨b1, o, none⟩ = W1.cell? ⟨b1, o, none⟩) ∧ (∀ o, w'.cell? ⟨b2, o, none⟩ = W1.cell? ⟨b2, o, none⟩)) := hid (fun w' h => ⟨fun o => h.cells.1 _ o hb1, fun o => h.cells.1 _ o hb2⟩)
   refine wp_region_held_drew (S := fun w' => (∀ o, w'.cell? ⟨b1, o, none⟩ = W1.cell? ⟨b1, o, none⟩) ∧ (∀ o, w'.cell? ⟨b2, o, none⟩ = W1.cell? ⟨b2, o, none⟩)) (by kernel_rfl) (⟨fun o => rfl, fun o => rfl⟩) (fun hHeld => ?_)
   refine tkH 0 (some 128) ?_
   (try simp only [Act.put, sA, sB, sC])
   refine tkH 1 (some 129) ?_
   (try simp only [Act.put, sA, sB, sC])
   refine tkH 2 (some 130) ?_
   (try simp only [Act.put, sA, sB, sC])
   refine tkH 3 (some 131) ?_
   (try simp only [Act.put, sA, sB, sC])
   refine tkH 4 (some 132) ?_
   (try simp only [Act.put, sA, sB, sC])
   refine tkH 5 (some 133) ?_
   (try simp only [Act.put, sA, sB, sC])
   refine tkH 6 (some 134) ?_
   (try simp only [Act.put, sA, sB, sC])
   refine tkH 7 (some 135) ?_
   (try simp only [Act.put, sA, sB, sC])
   refine wpAnyH_one (i := 8) rfl (by kernel_rfl) (by rfl) (fun K hK => ?_)
   go_simp
   refine (HIN.out _).mono ?_
   rintro e z8 ⟨rfl, hb8⟩
   have hy8 : Ev W1 z8 := Ev.trans (Ev.drew (Ev.refl _)) hb8
   refine hK.out _ _ (HSE.out _ hy8) (fun hHeld => ?_)
   clear hK K
   (try simp only [Act.put, sA, sB, sC])
   refine tkH 9 (some 137) ?_
   (try simp only [Act.put, sA, sB, sC])
   refine wpAnyH_done (by kernel_rfl) ?_ _
   obtain ⟨W2, hW2⟩ : ∃ x, x = z8 := ⟨_, rfl⟩
   subst hW2
   have hE2 : Ev W1 W2 := hy8
   have e1 := (hE2.cells.1 b1 (o1 + k) hb1).trans e0
   clear e0 e2 e3 HSE hHeld
   obtain ⟨y0, y1, y2, y3, y4, y5, y6, y7, y8, y9⟩ := cells10 ((hEv.trans hE2).heap Q0.out)
   have l0 := heap_lt ((hEv.trans hE2).heap Q0.out)
   have l1 : b1 < W2.heap.size := by have := hE2.size; omega
   have HSE : Hid (∀ w', Ev W2 w' → (∀ o, w'.cell? ⟨b1, o, none⟩ = W2.cell? ⟨b1, o, none⟩) ∧ (∀ o, w'.cell? ⟨w.heap.size, o, none⟩ = W2.cell? ⟨w.heap.size, o, none⟩)) := hid (fun w' h => ⟨fun o => h.cells.1 _ o l1, fun o => h.cells.1 _ o l0⟩)
   have HH2 := hid hE2
   cases kb with
   | false =>
    have HN := hid (show (false && (vs.drop (k + 1)).all (fun x => M.isIn x f.die f.burn)) = vs.all (fun x => M.isIn x f.die f.burn) from HAL.out)
    clear HAL hE2
    go_upto_region 18 with fail
    refine wp_region_held_drew (S := fun w' => (∀ o, w'.cell? ⟨b1, o, none⟩ = W2.cell? ⟨b1, o, none⟩) ∧ (∀ o, w'.cell? ⟨w.heap.size, o, none⟩ = W2.cell? ⟨w.heap.size, o, none⟩)) (by kernel_rfl) (⟨fun o => rfl, fun o => rfl⟩) (fun hHeld => ?_)
    refine tkH 0 (some 138) ?_
    (try simp only [Act.put, sA, sB, sC])
    refine tkH 1 (some 139) ?_
    (try simp only [Act.put, sA, sB, sC])
    refine wpAnyH_skip (i := 2) (some 140) rfl (by kernel_rfl) (by kernel_rfl) (by kernel_rfl) (fun _ _ _ h => h) (by rfl) (by assumption) ?_
    (try simp only [Act.put, sA, sB, sC])
    refine wpAnyH_skip (i := 3) (some 141) rfl (by kernel_rfl) (by kernel_rfl) (by kernel_rfl) (fun _ _ _ h => h) (by rfl) (by assumption) ?_
    (try simp only [Act.put, sA, sB, sC])
    refine wpAnyH_skip (i := 4) (some 142) rfl (by kernel_rfl) (by kernel_rfl) (by kernel_rfl) (fun _ _ _ h => h) (by rfl) (by assumption) ?_
    (try simp only [Act.put, sA, sB, sC])
    refine wpAnyH_skip (i := 5) (some 143) rfl (by kernel_rfl) (by kernel_rfl) (by kernel_rfl) (fun _ _ _ h => h) (by rfl) (by assumption) ?_
    (try simp only [Act.put, sA, sB, sC])
    refine wpAnyH_skip (i := 6) (some 144) rfl (by kernel_rfl) (by kernel_rfl) (by kernel_rfl) (fun _ _ _ h => h) (by rfl) (by assumption) ?_
    (try simp only [Act.put, sA, sB, sC])
    refine wpAnyH_skip (i := 7) (some 145) rfl (by kernel_rfl) (by kernel_rfl) (by kernel_rfl) (fun _ _ _ h => h) (by rfl) (by assumption) ?_
    (try simp only [Act.put, sA, sB, sC])
    refine wpAnyH_skip (i := 8) (some 146) rfl (by kernel_rfl) (by kernel_rfl) (by kernel_rfl) (fun _ _ _ h => h) (by rfl) (by assumption) ?_
    (try simp only [Act.put, sA, sB, sC])
    refine wpAnyH_skip (i := 9) (some 147) rfl (by kernel_rfl) (by kernel_rfl) (by kernel_rfl) (fun _ _ _ h => h) (by rfl) (by assumption) ?_
    (try simp only [Act.put, sA, sB, sC])
    refine wpAnyH_skip (i := 10) (some 148) rfl (by kernel_rfl) (by kernel_rfl) (by kernel_rfl) (fun _ _ _ h => h) (by rfl) (by assumption) ?_
    (try simp only [Act.put, sA, sB, sC])
    refine tkH 11 (some 149) ?_
    (try simp only [Act.put, sA, sB, sC])
    refine tkH 12 (some 22) ?_
    (try simp only [Act.put, sA, sB, sC])
    refine wpAnyH_done (by kernel_rfl) ?_ _
    go_wp2
    exact ⟨⟨k + 1, false, rfl, by go_num, by omega, hB.trans (HH2.out.trans (by first | exact Ev.drew (Ev.refl _) | exact Ev.refl _)), HN⟩, by simp [intOf]; omega⟩
   | true =>
    obtain ⟨iv, hiv⟩ : ∃ b, M.isIn x f.die f.burn = b := ⟨_, rfl⟩
    have HIX := hid (fun W => In_t x f.die f.burn iv hiv W)
    have HN := hid (show (iv && (vs.drop (k + 1)).all (fun x => M.isIn x f.die f.burn)) = vs.all (fun x => M.isIn x f.die f.burn) from by have h1 := HAL.out; rw [HXD.out, List.all_cons, hiv] at h1; exact h1)
    clear HAL hE2 hiv
    go_upto_region 18 with fail
    refine wp_region_held_drew (S := fun w' => (∀ o, w'.cell? ⟨b1, o, none⟩ = W2.cell? ⟨b1, o, none⟩) ∧ (∀ o, w'.cell? ⟨w.heap.size, o, none⟩ = W2.cell? ⟨w.heap.size, o, none⟩)) (by kernel_rfl) (⟨fun o => rfl, fun o => rfl⟩) (fun hHeld => ?_)
    refine tkH 0 (some 138) ?_
    (try simp only [Act.put, sA, sB, sC])
    refine tkH 1 (some 139) ?_
    (try simp only [Act.put, sA, sB, sC])
    refine tkH 2 (some 140) ?_
    (try simp only [Act.put, sA, sB, sC])
    refine tkH 3 (some 141) ?_
    (try simp only [Act.put, sA, sB, sC])
    refine tkH 4 (some 142) ?_
    (try simp only [Act.put, sA, sB, sC])
    refine tkH 5 (some 143) ?_
    (try simp only [Act.put, sA, sB, sC])
    refine tkH 6 (some 144) ?_
    (try simp only [Act.put, sA, sB, sC])
    refine tkH 7 (some 145) ?_
    (try simp only [Act.put, sA, sB, sC])
    refine tkH 8 (some 146) ?_
    (try simp only [Act.put, sA, sB, sC])
    refine tkH 9 (some 147) ?_
    (try simp only [Act.put, sA, sB, sC])
    refine wpAnyH_one (i := 10) rfl (by kernel_rfl) (by rfl) (fun K hK => ?_)
    go_simp
    refine (HIX.out _).mono ?_
    rintro e z10 ⟨rfl, hb10⟩
    have hy10 : Ev W2 z10 := Ev.trans (Ev.drew (Ev.refl _)) hb10
    refine hK.out _ _ (HSE.out _ hy10) (fun hHeld => ?_)
    clear hK K
    (try simp only [Act.put, sA, sB, sC])
    refine tkH 11 (some 149) ?_
    (try simp only [Act.put, sA, sB, sC])
    refine tkH 12 (some 22) ?_
    (try simp only [Act.put, sA, sB, sC])
    refine wpAnyH_done (by kernel_rfl) ?_ _
    go_wp2
    exact ⟨⟨k + 1, iv, rfl, by go_num, by omega, hB.trans (HH2.out.trans hy10), HN⟩, by simp [intOf]; omega⟩
  ·
   have hkb : kb = vs.all (fun x => M.isIn x f.die f.burn) := by have h1 := HAL.out; rw [HVS.out.done hlt] at h1; simpa using h1
   have hn2 : ¬ ((k : Int) < (nw : Int)) := by omega
   clear HAL
   rcases HKY.out with ⟨h1, h2⟩ | ⟨h1, h2⟩ | h1
   ·
    obtain rfl : kb = true := hkb.trans h2
    clear HKY hkb h2
    subst h1
    have HIN := hid (fun W => In_u 1 1 3 true (by decide) W)
    go_wp2_with (first | (go_at_call 54; with_reducible refine (HIN.out _).mono ?_; rintro e wz ⟨rfl, hwz⟩; replace hwz := hwz.symm; subst hwz) | (go_at_call 19; with_reducible refine (awake_c _).mono ?_; rintro e w99 ⟨rfl, hb99⟩) | (with_reducible refine ⟨trivial, ?_⟩))
    go_ret
    exact ⟨rfl, HE17.out.trans (hB.trans hb99)⟩
   ·
    obtain rfl : kb = false := hkb.trans h2
    clear HKY hkb h2
    subst h1
    have HIN := hid (fun W => In_u 2 1 3 true (by decide) W)
    go_wp2_with (first | (go_at_call 54; with_reducible refine (HIN.out _).mono ?_; rintro e wz ⟨rfl, hwz⟩; replace hwz := hwz.symm; subst hwz) | (go_at_call 19; with_reducible refine (awake_c _).mono ?_; rintro e w99 ⟨rfl, hb99⟩) | (with_reducible refine ⟨trivial, ?_⟩))
    go_ret
    exact ⟨rfl, HE17.out.trans (hB.trans hb99)⟩
   ·
    clear HKY hkb
    subst h1
    cases kb with
    | false =>
     have HIN := hid (fun W => In_u 3 1 3 true (by decide) W)
     go_wp2_with (first | (go_at_call 54; with_reducible refine (HIN.out _).mono ?_; rintro e wz ⟨rfl, hwz⟩; replace hwz := hwz.symm; subst hwz) | (go_at_call 19; with_reducible refine (awake_c _).mono ?_; rintro e w99 ⟨rfl, hb99⟩) | (with_reducible refine ⟨trivial, ?_⟩))
     go_ret
     exact ⟨rfl, HE17.out.trans (hB.trans hb99)⟩
    | true =>
     have HIN := hid (fun W => In_u 3 1 3 true (by decide) W)
     go_wp2_with (first | (go_at_call 54; with_reducible refine (HIN.out _).mono ?_; rintro e wz ⟨rfl, hwz⟩; replace hwz := hwz.symm; subst hwz) | (go_at_call 19; with_reducible refine (awake_c _).mono ?_; rintro e w99 ⟨rfl, hb99⟩) | (with_reducible refine ⟨trivial, ?_⟩))
     go_ret
     exact ⟨rfl, HE17.out.trans (hB.trans hb99)⟩

theorem couchTruth_c (f : M.Cf) (Aw At Ar : Option Addr) (nw cw nt ct nr cr : Nat) (hl0 : -9223372036854775808 ≤ f.last) (wn : Nat) (hwn : wn < 65536) (B : Option Addr) (bn bc : Nat) (ws : List Int) (hws : ∀ x ∈ ws, 0 ≤ x ∧ x < 65536) (hbc : bn ≤ bc) (hbm : bc ≤ maxLen) (n : Nat) (hn : n < 65536) (w : World) (hs : M.small nw nt nr → CS w w.heap.size f Aw At Ar nw cw nt ct nr cr) (hw : Sl0 wcs 1 w w.heap.size B bn ws) :
  Calls Try.prog 8 #[.agg #[.int .i64 f.last, .int .i64 f.size, .int .i64 f.cool, .int .i64 f.die, .int .i64 f.burn, .int .i64 f.st.lo, .int .i64 f.st.hi, .slice Aw nw cw, .slice At nt ct, .slice Ar nr cr], .int .u16 (wn : Int), .slice B bn bc, .int .u16 (n : Int)] w fun e w' => e = .returned (.bool true) ∧ Ev w w' := by
 cases hr : M.rdy f nw nt nr with
 | false => exact couchTruth_no f Aw At Ar nw cw nt ct nr cr hl0 wn hwn B bn bc ws hws hbc hbm n hn w hs hr
 | true =>
  have h1 := hr
  unfold M.rdy at h1
  rw [Bool.and_eq_true, Bool.and_eq_true, decide_eq_true_eq, decide_eq_true_eq] at h1
  obtain ⟨⟨hsm, _⟩, h0⟩ := h1
  exact couchTruth_yes f Aw At Ar nw cw nt ct nr cr hl0 wn hwn B bn bc ws hws hbc hbm n hn w (hid (hs hsm)) hr hsm h0 (hid hw)
theorem couchTruth_i (f : M.Cf) (Aw At Ar : Option Addr) (nw cw nt ct nr cr : Nat) (hl0 : -9223372036854775808 ≤ f.last) (a1 : Int) (p1 : 0 ≤ a1) (q1 : a1 < 65536) (B : Option Addr) (bn bc : Nat) (ws : List Int) (hws : ∀ x ∈ ws, 0 ≤ x ∧ x < 65536) (hbc : bn ≤ bc) (hbm : bc ≤ maxLen) (a2 : Int) (p2 : 0 ≤ a2) (q2 : a2 < 65536) (w : World) (hs : M.small nw nt nr → CS w w.heap.size f Aw At Ar nw cw nt ct nr cr) (hw : Sl0 wcs 1 w w.heap.size B bn ws) :
  Calls Try.prog 8 #[.agg #[.int .i64 f.last, .int .i64 f.size, .int .i64 f.cool, .int .i64 f.die, .int .i64 f.burn, .int .i64 f.st.lo, .int .i64 f.st.hi, .slice Aw nw cw, .slice At nt ct, .slice Ar nr cr], .int .u16 a1, .slice B bn bc, .int .u16 a2] w fun e w' => e = .returned (.bool true) ∧ Ev w w' := by
 obtain ⟨n1, rfl⟩ : ∃ n : Nat, a1 = n := ⟨a1.toNat, by omega⟩
 obtain ⟨n2, rfl⟩ : ∃ n : Nat, a2 = n := ⟨a2.toNat, by omega⟩
 exact couchTruth_c f Aw At Ar nw cw nt ct nr cr hl0 n1 (by omega) B bn bc ws hws hbc hbm n2 (by omega) w hs hw

end Go.Proofs.Ytgimcephbeajlaa
