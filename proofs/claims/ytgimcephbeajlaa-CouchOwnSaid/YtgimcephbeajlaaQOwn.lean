import Derived.Test.YtgimcephbeajlaaQWetterA
import Derived.Deep.DeepCutAuto
set_option linter.unusedSimpArgs false
set_option linter.unusedVariables false
namespace Go.Proofs.Ytgimcephbeajlaa
open Go.RowKit Go.Shelf

theorem M.check_vd {f : M.Cf} (h0 : M.check f = 0) {ls : List M.Rd} (hl : ls.length ≤ 5) (hs : ∀ l ∈ ls, M.validRd f l = true) : M.check (M.withL f ls) = 0 := by
 obtain ⟨h9, hb, hv, ht⟩ := M.check0 h0
 have hv2 : M.valid (M.withL f ls) = true := by
  unfold M.valid at hv ⊢
  simp only [Bool.and_eq_true, List.all_eq_true] at hv ⊢
  exact ⟨hv.1, hv.2.1, hv.2.2.1, hv.2.2.2.1, fun l hl => hs l hl⟩
 have h3 : ¬ (9 < (M.withL f ls).last ∨ 5 < (M.withL f ls).rds.length) := by
  show ¬ (9 < f.last ∨ 5 < ls.length)
  omega
 unfold M.check
 rw [if_neg h3, if_neg (by rw [hv2]; decide), show M.ranges (M.withL f ls) = M.ranges f from rfl, ht]
 rfl
theorem M.right_own {f : M.Cf} {t : M.Tr} {k : Nat} {e : Int} (hk : k < t.wet.length) (he : 0 ≤ e) : M.right (M.withL f (f.rds ++ [⟨(k : Int), M.heatN f t f.turns (k + 1), e⟩])) t = M.right f t := by
 unfold M.right
 rw [M.own_with]
 show (f.rds ++ [(⟨(k : Int), M.heatN f t f.turns (k + 1), e⟩ : M.Rd)]).all (M.shows (M.own f t)) = _
 rw [List.all_append]
 have : M.shows (M.own f t) ⟨(k : Int), M.heatN f t f.turns (k + 1), e⟩ = true := by
  unfold M.shows M.own M.holds
  simp only [Int.toNat_natCast]
  simp only [Bool.and_eq_true, decide_eq_true_eq]
  rw [M.heats_getD f.turns hk]
  omega
 simp [this]
theorem rdc_one (ys : List M.Rd) : ∀ u ∈ ys.flatMap rdc, u.oneCell' = true := by
 intro u hu
 obtain ⟨y, _, hy⟩ := List.mem_flatMap.1 hu
 simp [rdc] at hy
 rcases hy with rfl | rfl | rfl <;> rfl
theorem ProveL_ok (f : M.Cf) (ls : List M.Rd) (Aw At Ar : Option Addr) (nw cw nt ct nr cr : Nat) (Tw : Option Addr) (tw twc : Nat) (t : M.Tr) (hl0 : -9223372036854775808 ≤ f.last) (w : World) (hs : CS w w.heap.size (M.withL f ls) Aw At Ar nw cw nt ct nr cr) (hwt : Sl ics 1 w w.heap.size Tw tw twc t.wet) (h0 : M.check (M.withL f ls) = 0) (ha : M.listed f t = true) :
  Calls Try.prog 24 #[.agg #[.int .i64 f.last, .int .i64 f.size, .int .i64 f.cool, .int .i64 f.die, .int .i64 f.burn, .int .i64 f.st.lo, .int .i64 f.st.hi, .slice Aw nw cw, .slice At nt ct, .slice Ar nr cr], .agg #[.int .i64 t.st, .slice Tw tw twc]] w fun e w' => e = .returned (.bool (M.right (M.withL f ls) t)) ∧ Ev w w' := ProveTruth_ok (M.withL f ls) Aw At Ar nw cw nt ct nr cr Tw tw twc t hl0 w hs hwt h0 ha
set_option maxRecDepth 100000 in
set_option maxHeartbeats 2000000 in
theorem couchOwn_no (f : M.Cf) (Aw At Ar : Option Addr) (nw cw nt ct nr cr : Nat) (hl0 : -9223372036854775808 ≤ f.last) (wn : Nat) (hwn : wn < 65536) (hr0 : Nat) (hh : hr0 < 256) (mr : Nat) (hm : mr < 256) (w : World) (hs : M.small nw nt nr → CS w w.heap.size f Aw At Ar nw cw nt ct nr cr) (hno : M.rdy f nw nt nr = false) :
  Calls Try.prog 12 #[.agg #[.int .i64 f.last, .int .i64 f.size, .int .i64 f.cool, .int .i64 f.die, .int .i64 f.burn, .int .i64 f.st.lo, .int .i64 f.st.hi, .slice Aw nw cw, .slice At nt ct, .slice Ar nr cr], .int .u16 (wn : Int), .int .u8 (hr0 : Int), .int .u8 (mr : Int)] w fun e w' => e = .returned (.bool true) ∧ Ev w w' := by
 have HRD := hid (fun W (hE : Ev w W) => by have := ready_c f Aw At Ar nw cw nt ct nr cr hl0 W (fun h => (hs h).ev hE); rw [hno] at this; exact this)
 clear hs hno
 go_enter Try.func12, Try.ntmps12
 go_wp2_with (first | (go_at_call 50; with_reducible refine (HRD.out _ (Ev.alloc (Ev.refl _) _)).mono ?_; rintro e w1 ⟨rfl, hb1⟩; have hG : Ev w w1 := (Ev.alloc (Ev.refl _) _).trans hb1; have Q0 := hid (hb1.heap (alloc1 w (.cells #[.int .i64 f.last, .int .i64 f.size, .int .i64 f.cool, .int .i64 f.die, .int .i64 f.burn, .int .i64 f.st.lo, .int .i64 f.st.hi, .slice Aw nw cw, .slice At nt ct, .slice Ar nr cr] 28)).1); obtain ⟨y0, y1, y2, y3, y4, y5, y6, y7, y8, y9⟩ := cells10 Q0.out) | (go_at_call 19; with_reducible refine (awake_c _).mono ?_; rintro e w99 ⟨rfl, hb99⟩) | (with_reducible refine ⟨trivial, ?_⟩))
 go_ret
 exact ⟨rfl, hG.trans hb99⟩

set_option maxRecDepth 100000 in
set_option maxHeartbeats 2000000 in
theorem couchOwn_big (f : M.Cf) (Aw At Ar : Option Addr) (nw cw nt ct nr cr : Nat) (hl0 : -9223372036854775808 ≤ f.last) (wn : Nat) (hwn : wn < 65536) (hr0 : Nat) (hh : hr0 < 256) (mr : Nat) (hm : mr < 256) (w : World) (HCS : Hid (CS w w.heap.size f Aw At Ar nw cw nt ct nr cr)) (hr : M.rdy f nw nt nr = true) (hsm : M.small nw nt nr) (h0 : M.check f = 0) (hb : 4 < nr) :
  Calls Try.prog 12 #[.agg #[.int .i64 f.last, .int .i64 f.size, .int .i64 f.cool, .int .i64 f.die, .int .i64 f.burn, .int .i64 f.st.lo, .int .i64 f.st.hi, .slice Aw nw cw, .slice At nt ct, .slice Ar nr cr], .int .u16 (wn : Int), .int .u8 (hr0 : Int), .int .u8 (mr : Int)] w fun e w' => e = .returned (.bool true) ∧ Ev w w' := by
 obtain ⟨s0, s1, s2⟩ := hsm
 have HRD := hid (fun W (hE : Ev w W) => by have := ready_c f Aw At Ar nw cw nt ct nr cr hl0 W (fun _ => HCS.out.ev hE); rw [hr] at this; exact this)
 have hbI : (nr : Int) > 4 := by omega
 clear hr h0
 go_enter Try.func12, Try.ntmps12
 go_wp2_with (first | (go_at_call 50; with_reducible refine (HRD.out _ (Ev.alloc (Ev.refl _) _)).mono ?_; rintro e w1 ⟨rfl, hb1⟩; have hG : Ev w w1 := (Ev.alloc (Ev.refl _) _).trans hb1; have Q0 := hid (hb1.heap (alloc1 w (.cells #[.int .i64 f.last, .int .i64 f.size, .int .i64 f.cool, .int .i64 f.die, .int .i64 f.burn, .int .i64 f.st.lo, .int .i64 f.st.hi, .slice Aw nw cw, .slice At nt ct, .slice Ar nr cr] 28)).1); obtain ⟨y0, y1, y2, y3, y4, y5, y6, y7, y8, y9⟩ := cells10 Q0.out) | (go_at_call 19; with_reducible refine (awake_c _).mono ?_; rintro e w99 ⟨rfl, hb99⟩) | (with_reducible refine ⟨trivial, ?_⟩))
 go_ret
 exact ⟨rfl, hG.trans hb99⟩

set_option maxRecDepth 100000 in
set_option maxHeartbeats 16000000 in
theorem couchOwn_yes (f : M.Cf) (Aw At Ar : Option Addr) (nw cw nt ct nr cr : Nat) (hl0 : -9223372036854775808 ≤ f.last) (wn : Nat) (hwn : wn < 65536) (hr0 : Nat) (hh : hr0 < 256) (mr : Nat) (hm : mr < 256) (w : World) (HCS : Hid (CS w w.heap.size f Aw At Ar nw cw nt ct nr cr)) (hr : M.rdy f nw nt nr = true) (hsm : M.small nw nt nr) (h0 : M.check f = 0) (hb4 : nr ≤ 4) :
  Calls Try.prog 12 #[.agg #[.int .i64 f.last, .int .i64 f.size, .int .i64 f.cool, .int .i64 f.die, .int .i64 f.burn, .int .i64 f.st.lo, .int .i64 f.st.hi, .slice Aw nw cw, .slice At nt ct, .slice Ar nr cr], .int .u16 (wn : Int), .int .u8 (hr0 : Int), .int .u8 (mr : Int)] w fun e w' => e = .returned (.bool true) ∧ Ev w w' := by
 obtain ⟨s0, s1, s2⟩ := hsm
 have HRD := hid (fun W (hE : Ev w W) => by have := ready_c f Aw At Ar nw cw nt ct nr cr hl0 W (fun _ => HCS.out.ev hE); rw [hr] at this; exact this)
 obtain ⟨hl9, _, hv, _⟩ := M.check0 h0
 have hlast := (M.valid_parts hv).2.2.2.2.2.1
 have hwl := HCS.out.w_.len
 have hl00 := (M.valid_parts hv).2.2.2.2.1
 have hnl : (nw : Int) = f.last + 1 := by omega
 have hnw0 : 0 < nw := by omega
 have hnw10 : nw ≤ 10 := by omega
 obtain ⟨kk, hkk⟩ : ∃ kk, hr0 % nw = kk := ⟨_, rfl⟩
 have hkl : kk < nw := by rw [← hkk]; exact Nat.mod_lt _ hnw0
 have hklI : (kk : Int) < (nw : Int) := by omega
 have hk0I : (0 : Int) ≤ (kk : Int) := by omega
 have g1 : IntKind.i64.wrap (f.last + 1) = f.last + 1 := IntWalk.i64_in _ (by omega)
 have g2 : IntKind.i64.wrap (hr0 : Int) = (hr0 : Int) := IntWalk.i64_in _ (by omega)
 have g0 : ¬ (f.last + 1 = 0) := by omega
 have m1 : (hr0 : Int) % (f.last + 1) = (kk : Int) := by rw [← hnl, ← hkk]; exact (Int.natCast_emod hr0 nw).symm
 have m2 : (hr0 : Int).tmod (f.last + 1) = (kk : Int) := by rw [Int.tmod_eq_emod_of_nonneg (by omega)]; exact m1
 have g3 : IntKind.i64.wrap (kk : Int) = (kk : Int) := IntWalk.i64_in _ (by omega)
 obtain ⟨hmn, hm2⟩ := M.many_nat h0
 have hmp := M.many_pos h0
 have hst := (M.valid_parts hv).2.2.2.1
 have HMN := hid (fun W (hE : Ev w W) => by have := Many_c f Aw At Ar nw cw nt ct nr cr hst (M.wet_bd hv) W (HCS.out.ev hE); rw [hmn] at this; exact this)
 generalize M.prodN (M.ranges f) = Pm at HMN hm2 hmp
 obtain ⟨qn, hqn⟩ : ∃ q, wn % Pm = q := ⟨_, rfl⟩
 have hql : qn < Pm := by rw [← hqn]; exact Nat.mod_lt _ (by omega)
 have p0 : ¬ ((Pm : Int) = 0) := by omega
 have p0' : ¬ (Pm = 0) := by omega
 have p1 : (wn : Int) % (Pm : Int) = (qn : Int) := by rw [← hqn]; exact (Int.natCast_emod wn Pm).symm
 have p2_ : (wn : Int).tmod (Pm : Int) = (qn : Int) := by rw [Int.tmod_eq_emod_of_nonneg (by omega)]; exact p1
 have p3_ : IntKind.i64.wrap (qn : Int) = (qn : Int) := IntWalk.i64_in _ (by omega)
 have p4_ : IntKind.i64.wrap (wn : Int) = (wn : Int) := IntWalk.i64_in _ (by omega)
 have HNT := hid (fun W (hE : Ev w W) => Nth_c f Aw At Ar nw cw nt ct nr cr hv hl9 qn (by omega) W (HCS.out.ev hE))
 have htls := M.nth_listed hv qn
 obtain ⟨t, ht⟩ : ∃ t, M.nth f qn = t := ⟨_, rfl⟩
 rw [ht] at HNT htls
 have htl : t.wet.length = nw := by have := (M.listed_bd hv htls).2.1; omega
 obtain ⟨mo, hmo⟩ : ∃ m, mr % 51 = m := ⟨_, rfl⟩
 have hmo4 : mo < 51 := by omega
 have q1 : (mr : Int) % 51 = (mo : Int) := by rw [← hmo]; exact (Int.natCast_emod mr 51).symm
 have q2 : (mr : Int).tmod 51 = (mo : Int) := by rw [Int.tmod_eq_emod_of_nonneg (by omega)]; exact q1
 have q3 : IntKind.i64.wrap (mr : Int) = (mr : Int) := IntWalk.i64_in _ (by omega)
 have q4 : IntKind.i64.wrap (mo : Int) = (mo : Int) := IntWalk.i64_in _ (by omega)
 have hpl := (M.valid_parts hv).2.2.2.2.2.2.2.1
 have hvb := M.heatN_bd hv htls f.turns (kk + 1) (by omega)
 have hro := M.right_own (f := f) (t := t) (k := kk) (e := (mo : Int)) (by omega) (by omega)
 have HXA := hid (fun (i : Nat) (x : Int) (hi : i < nw) (hx : ((M.heats f t f.turns).take nw)[i]? = some x) => show M.heatN f t f.turns (i + 1) = x by
  rw [List.getElem?_take_of_lt hi, M.heats_at f.turns (by omega)] at hx
  exact Option.some.inj hx)
 obtain ⟨vh, hvh⟩ : ∃ v, M.heatN f t f.turns (kk + 1) = v := ⟨_, rfl⟩
 have HVH := hid hvh
 rw [hvh] at hvb hro
 have hl5 : f.rds.length = nr := HCS.out.r.len
 have hcx : M.check (M.withL f (f.rds ++ [(⟨(kk : Int), vh, (mo : Int)⟩ : M.Rd)])) = 0 := M.check_vd h0 (by rw [List.length_append]; simp; omega) (fun l hl => by
  rcases List.mem_append.1 hl with hl | hl
  ·
   exact (M.valid_parts hv).2.2.2.2.2.2.2.2 l hl
  ·
   obtain rfl := List.mem_singleton.1 hl
   unfold M.validRd M.hasHour M.holds
   simp only [Bool.and_eq_true, decide_eq_true_eq]
   omega)
 have HPA := hid (fun (Bw : Option Addr) (dw : Nat) (Bt : Option Addr) (dt : Nat) (Br : Option Addr) (dr : Nat) (T1 : Option Addr) (u1 : Nat) (L : Option Addr) (d : Nat) W (h : CS W W.heap.size f Bw Bt Br nw dw nt dt nr dr) (h1 : Sl ics 1 W W.heap.size T1 nw u1 t.wet) (h3 : Sl ics 1 W W.heap.size L nt d f.turns) => Play_ok f Bw Bt Br nw dw nt dt nr dr T1 nw u1 t L nt d f.turns hl0 W h h1 h3 h0 htls hpl)
 have HP1 := hid (fun (Bw : Option Addr) (dw : Nat) (Bt : Option Addr) (dt : Nat) (Br : Option Addr) (dr : Nat) (T1 : Option Addr) (u1 : Nat) W (h : CS W W.heap.size f Bw Bt Br nw dw nt dt nr dr) (h1 : Sl ics 1 W W.heap.size T1 nw u1 t.wet) => ProveTruth_ok f Bw Bt Br nw dw nt dt nr dr T1 nw u1 t hl0 W h h1 h0 htls)
 have HP2 := hid (fun (Bw : Option Addr) (dw : Nat) (Bt : Option Addr) (dt : Nat) (Br : Option Addr) (dr : Nat) (T1 : Option Addr) (u1 : Nat) W (h : CS W W.heap.size (M.withL f (f.rds ++ [(⟨(kk : Int), vh, (mo : Int)⟩ : M.Rd)])) Bw Bt Br nw dw nt dt (nr + 1) dr) (h1 : Sl ics 1 W W.heap.size T1 nw u1 t.wet) => by have := ProveL_ok f (f.rds ++ [(⟨(kk : Int), vh, (mo : Int)⟩ : M.Rd)]) Bw Bt Br nw dw nt dt (nr + 1) dr T1 nw u1 t hl0 W h h1 hcx htls; rw [hro] at this; exact this)
 have HH2 := hid (fun (Br : Option Addr) (dr : Nat) W (h : CS W W.heap.size (M.withL f (f.rds ++ [(⟨(kk : Int), vh, (mo : Int)⟩ : M.Rd)])) Aw At Br nw cw nt ct (nr + 1) dr) => HeapL_c f (f.rds ++ [(⟨(kk : Int), vh, (mo : Int)⟩ : M.Rd)]) Aw At Br nw cw nt ct (nr + 1) dr (by omega) (by omega) (by omega) W h)
 generalize M.right f t = rt at HP1 HP2
 have c5_ : (rt == rt) = true := by simp
 have HIN := hid (fun W => by have := In_s vh 0 1000 W; rw [show M.isIn vh 0 1000 = true by unfold M.isIn; simp; omega] at this; exact this)
 have HRS := hid HCS.out.r
 have hbI : ¬ ((nr : Int) > 4) := by omega
 have c6_ : ((nw : Int) != f.last + 1) = false := by simp; omega
 clear hr h0 hv hpl hwl hlast hl9 hkk hqn htls hst hmo ht hmn hnl hvb hro hvh hcx htl
 go_enter Try.func12, Try.ntmps12
 go_upto_region 3 with (first | (go_at_call 50; with_reducible refine (HRD.out _ (Ev.alloc (Ev.refl _) _)).mono ?_; rintro e w1 ⟨rfl, hb1⟩; have hG : Ev w w1 := (Ev.alloc (Ev.refl _) _).trans hb1; have Q0 := hid (hb1.heap (alloc1 w (.cells #[.int .i64 f.last, .int .i64 f.size, .int .i64 f.cool, .int .i64 f.die, .int .i64 f.burn, .int .i64 f.st.lo, .int .i64 f.st.hi, .slice Aw nw cw, .slice At nt ct, .slice Ar nr cr] 28)).1); obtain ⟨y0, y1, y2, y3, y4, y5, y6, y7, y8, y9⟩ := cells10 Q0.out) | (with_reducible refine ⟨trivial, ?_⟩))
 have l0 := heap_lt Q0.out
 have HSE : Hid (∀ w', Ev w1 w' → (∀ o, w'.cell? ⟨w.heap.size, o, none⟩ = w1.cell? ⟨w.heap.size, o, none⟩)) := hid (fun w' h => fun o => h.cells.1 _ o l0)
 go_cut [9] (fun v W => ∃ (p : Nat) (Bw : Option Addr) (dw : Nat), v = .pointer (some ⟨p, 0, none⟩) ∧ w1.heap.size ≤ p ∧ Ev w1 W ∧ Hid (W.heap[p]? = some (.cells #[.int .i64 t.st, .slice Bw nw dw] 30 (0, 0))) ∧ Hid (W.ownsRow w1.heap.size 3 1 (.slice Bw nw dw) nw (t.wet.flatMap ics)))
 case first =>
  refine wp_region_held_drew (S := fun w' => (∀ o, w'.cell? ⟨w.heap.size, o, none⟩ = w1.cell? ⟨w.heap.size, o, none⟩)) (by kernel_rfl) (fun o => rfl) (fun hHeld => ?_)
  refine tkH 0 (some 24) ?_
  (try simp only [Act.put, sA, sB, sC])
  refine tkH 1 (some 25) ?_
  (try simp only [Act.put, sA, sB, sC])
  refine tkH 2 (some 26) ?_
  (try simp only [Act.put, sA, sB, sC])
  refine tkH 3 (some 27) ?_
  (try simp only [Act.put, sA, sB, sC])
  refine wpAnyH_ready (rs := [4, 7]) (by kernel_rfl) (by simp) ?_
  refine AllReadyH.cons rfl (fun K hK => ?_) (AllReadyH.cons rfl (fun K hK => ?_) (AllReadyH.nil))
  ·
   go_simp
   refine (HMN.out _ (hG.trans (Ev.drew (Ev.refl _)))).mono ?_
   rintro e z4 ⟨rfl, hb4⟩
   have hy4 : Ev w1 z4 := Ev.trans (Ev.drew (Ev.refl _)) hb4
   refine hK.out _ _ (HSE.out _ hy4) (fun hHeld => ?_)
   clear hK K
   (try simp only [Act.put, sA, sB, sC])
   refine tkH 5 (some 29) ?_
   (try simp only [Act.put, sA, sB, sC])
   refine wpAnyH_ready (rs := [6, 7]) (by kernel_rfl) (by simp) ?_
   refine AllReadyH.cons rfl (fun K hK => ?_) (AllReadyH.cons rfl (fun K hK => ?_) (AllReadyH.nil))
   ·
    go_simp
    refine (HNT.out _ (hG.trans hy4)).mono ?_
    rintro e z6 ⟨⟨Bw, dw, rfl, ho⟩, hb6⟩
    have hy6 : Ev w1 z6 := Ev.trans hy4 hb6
    refine hK.out _ _ (HSE.out _ hy6) (fun hHeld => ?_)
    clear hK K
    (try simp only [Act.put, sA, sB, sC])
    refine wpAnyH_one (i := 7) rfl (by kernel_rfl) (by rfl) (fun K hK => ?_)
    go_simp
    generalize hWA : World.alloc z6 _ = WA
    have hal := alloc1 z6 (.cells #[.int .i64 0, .slice none 0 0] 30)
    have hbA : Ev z6 WA := by rw [← hWA]; exact Ev.alloc (Ev.refl _) _
    have hqA := hal.1
    rw [hWA] at hqA
    have hxA : Ev w1 WA := hy6.trans hbA
    have hpA : w1.heap.size ≤ z6.heap.size := hy6.size
    clear hal hWA
    refine hK.out _ _ (HSE.out _ hxA) (fun hHeld => ?_)
    clear hK K
    (try simp only [Act.put, sA, sB, sC])
    refine wpAnyH_one (i := 8) rfl (by kernel_rfl) (by rfl) (fun K hK => ?_)
    have hq9 := hid hqA
    obtain ⟨u0, u1⟩ := cells2 hq9.out
    obtain ⟨v0, v1⟩ := frz2 hq9.out
    have hne : w.heap.size ≠ z6.heap.size := by have := hpA; have := l0; omega
    go_simp
    refine hK.out _ _ (fun o => (cell_set_ne hne).trans ((cell_set_ne hne).trans (HSE.out _ hxA o))) (fun hHeld => ?_)
    clear hK K
    (try simp only [Act.put, sA, sB, sC])
    refine wpAnyH_done (by kernel_rfl) ?_ _
    go_wp2_with fail
    go_meet
    exact ⟨z6.heap.size, Bw, dw, rfl, hpA, Ev.setCell (Ev.setCell hxA hpA _) hpA _, hid (set2' hq9.out), hid (own_set (own_set (own_base (ho.ev hbA) hy4.size) hq9.out (by decide)) (set_heap_same hq9.out) (by decide))⟩
   ·
    go_simp
    generalize hWA : World.alloc z4 _ = WA
    have hal := alloc1 z4 (.cells #[.int .i64 0, .slice none 0 0] 30)
    have hbA : Ev z4 WA := by rw [← hWA]; exact Ev.alloc (Ev.refl _) _
    have hqA := hal.1
    rw [hWA] at hqA
    have hxA : Ev w1 WA := hy4.trans hbA
    have hpA : w1.heap.size ≤ z4.heap.size := hy4.size
    clear hal hWA
    refine hK.out _ _ (HSE.out _ hxA) (fun hHeld => ?_)
    clear hK K
    (try simp only [Act.put, sA, sB, sC])
    refine wpAnyH_one (i := 6) rfl (by kernel_rfl) (by rfl) (fun K hK => ?_)
    go_simp
    refine (HNT.out _ (hG.trans hxA)).mono ?_
    rintro e z6 ⟨⟨Bw, dw, rfl, ho⟩, hb6⟩
    have hy6 : Ev w1 z6 := Ev.trans hxA hb6
    refine hK.out _ _ (HSE.out _ hy6) (fun hHeld => ?_)
    clear hK K
    (try simp only [Act.put, sA, sB, sC])
    refine wpAnyH_one (i := 8) rfl (by kernel_rfl) (by rfl) (fun K hK => ?_)
    have hq9 := hid (hb6.heap hqA)
    obtain ⟨u0, u1⟩ := cells2 hq9.out
    obtain ⟨v0, v1⟩ := frz2 hq9.out
    have hne : w.heap.size ≠ z4.heap.size := by have := hpA; have := l0; omega
    go_simp
    refine hK.out _ _ (fun o => (cell_set_ne hne).trans ((cell_set_ne hne).trans (HSE.out _ hy6 o))) (fun hHeld => ?_)
    clear hK K
    (try simp only [Act.put, sA, sB, sC])
    refine wpAnyH_done (by kernel_rfl) ?_ _
    go_wp2_with fail
    go_meet
    exact ⟨z4.heap.size, Bw, dw, rfl, hpA, Ev.setCell (Ev.setCell hy6 hpA _) hpA _, hid (set2' hq9.out), hid (own_set (own_set (own_base ho hxA.size) hq9.out (by decide)) (set_heap_same hq9.out) (by decide))⟩
  ·
   go_simp
   generalize hWA : World.drew (World.alloc w1 _) = WA
   have hal := alloc1 w1 (.cells #[.int .i64 0, .slice none 0 0] 30)
   have hbA : Ev w1 WA := by rw [← hWA]; exact Ev.drew (Ev.alloc (Ev.refl _) _)
   have hqA := (show Ev (World.alloc w1 (.cells #[.int .i64 0, .slice none 0 0] 30)) WA from by rw [← hWA]; exact Ev.drew (Ev.refl _)).heap hal.1
   have hxA : Ev w1 WA := hbA
   have hpA : w1.heap.size ≤ w1.heap.size := Nat.le_refl _
   clear hal hWA
   refine hK.out _ _ (HSE.out _ hxA) (fun hHeld => ?_)
   clear hK K
   (try simp only [Act.put, sA, sB, sC])
   refine wpAnyH_one (i := 4) rfl (by kernel_rfl) (by rfl) (fun K hK => ?_)
   go_simp
   refine (HMN.out _ (hG.trans hxA)).mono ?_
   rintro e z4 ⟨rfl, hb4⟩
   have hy4 : Ev w1 z4 := Ev.trans hxA hb4
   refine hK.out _ _ (HSE.out _ hy4) (fun hHeld => ?_)
   clear hK K
   (try simp only [Act.put, sA, sB, sC])
   refine tkH 5 (some 29) ?_
   (try simp only [Act.put, sA, sB, sC])
   refine wpAnyH_one (i := 6) rfl (by kernel_rfl) (by rfl) (fun K hK => ?_)
   go_simp
   refine (HNT.out _ (hG.trans hy4)).mono ?_
   rintro e z6 ⟨⟨Bw, dw, rfl, ho⟩, hb6⟩
   have hy6 : Ev w1 z6 := Ev.trans hy4 hb6
   refine hK.out _ _ (HSE.out _ hy6) (fun hHeld => ?_)
   clear hK K
   (try simp only [Act.put, sA, sB, sC])
   refine wpAnyH_one (i := 8) rfl (by kernel_rfl) (by rfl) (fun K hK => ?_)
   have hq9 := hid (hb6.heap (hb4.heap hqA))
   obtain ⟨u0, u1⟩ := cells2 hq9.out
   obtain ⟨v0, v1⟩ := frz2 hq9.out
   have hne : w.heap.size ≠ w1.heap.size := by have := hpA; have := l0; omega
   go_simp
   refine hK.out _ _ (fun o => (cell_set_ne hne).trans ((cell_set_ne hne).trans (HSE.out _ hy6 o))) (fun hHeld => ?_)
   clear hK K
   (try simp only [Act.put, sA, sB, sC])
   refine wpAnyH_done (by kernel_rfl) ?_ _
   go_wp2_with fail
   go_meet
   exact ⟨w1.heap.size, Bw, dw, rfl, hpA, Ev.setCell (Ev.setCell hy6 hpA _) hpA _, hid (set2' hq9.out), hid (own_set (own_set (own_base ho hy4.size) hq9.out (by decide)) (set_heap_same hq9.out) (by decide))⟩
 case rest =>
  clear y0 y1 y2 y3 y4 y5 y6 y7 y8 y9
  clear HSE HMN HNT
  obtain ⟨p, Bw, dw, rfl, hpw, hEw, HQT, HOW⟩ := hcut
  obtain ⟨x2, hx2⟩ : ∃ x, x = wc := ⟨_, rfl⟩
  subst hx2
  have HE2 := hid (hG.trans hEw)
  have HV2 := hid hEw
  clear hEw
  have HSW := hid (sl_own (enc := ics) (by decide) (ics_len _) (by omega) HOW.out)
  obtain ⟨y0, y1, y2, y3, y4, y5, y6, y7, y8, y9⟩ := cells10 (HV2.out.heap Q0.out)
  go_upto_region 5 with fail
  obtain ⟨c0, c1⟩ := cells2 HQT.out
  have l0 := heap_lt (HV2.out.heap Q0.out)
  have l1 := heap_lt HQT.out
  have HSE : Hid (∀ w', Ev x2 w' → (∀ o, w'.cell? ⟨w.heap.size, o, none⟩ = x2.cell? ⟨w.heap.size, o, none⟩) ∧ (∀ o, w'.cell? ⟨p, o, none⟩ = x2.cell? ⟨p, o, none⟩)) := hid (fun w' h => ⟨fun o => h.cells.1 _ o l0, fun o => h.cells.1 _ o l1⟩)
  refine wp_region_held_drew (S := fun w' => (∀ o, w'.cell? ⟨w.heap.size, o, none⟩ = x2.cell? ⟨w.heap.size, o, none⟩) ∧ (∀ o, w'.cell? ⟨p, o, none⟩ = x2.cell? ⟨p, o, none⟩)) (by kernel_rfl) (⟨fun o => rfl, fun o => rfl⟩) (fun hHeld => ?_)
  refine tkH 0 (some 38) ?_
  (try simp only [Act.put, sA, sB, sC])
  refine tkH 2 (some 40) ?_
  (try simp only [Act.put, sA, sB, sC])
  refine tkH 4 (some 42) ?_
  (try simp only [Act.put, sA, sB, sC])
  refine tkH 5 (some 43) ?_
  (try simp only [Act.put, sA, sB, sC])
  refine wpAnyH_one (i := 1) rfl (by kernel_rfl) (by rfl) (fun K hK => ?_)
  go_simp
  refine (Heap_c f Aw At Ar nw cw nt ct nr cr (by omega) (by omega) (by omega) _ (HCS.out.ev (HE2.out.trans (Ev.drew (Ev.refl _))))).mono ?_
  rintro e z1 ⟨⟨Bw3, dw3, Bt3, dt3, Br3, dr3, rfl, hc⟩, hb1⟩
  have hy1 : Ev x2 z1 := Ev.trans (Ev.drew (Ev.refl _)) hb1
  refine hK.out _ _ (HSE.out _ hy1) (fun hHeld => ?_)
  clear hK K
  (try simp only [Act.put, sA, sB, sC])
  refine wpAnyH_one (i := 3) rfl (by kernel_rfl) (by rfl) (fun K hK => ?_)
  go_simp
  refine (Truth_c Bw nw dw t (by omega) _ (HSW.out.ev hy1)).mono ?_
  rintro e z3 ⟨⟨T1, u1, rfl, ht1⟩, hb3⟩
  have hy3 : Ev x2 z3 := Ev.trans hy1 hb3
  refine hK.out _ _ (HSE.out _ hy3) (fun hHeld => ?_)
  clear hK K
  (try simp only [Act.put, sA, sB, sC])
  refine wpAnyH_one (i := 6) rfl (by kernel_rfl) (by rfl) (fun K hK => ?_)
  go_simp
  refine (list_c At nt ct f.turns (by omega) _ (HCS.out.ev (HE2.out.trans hy3)).t).mono ?_
  rintro e z6 ⟨⟨L, dL, rfl, hl3⟩, hb6⟩
  have hy6 : Ev x2 z6 := Ev.trans hy3 hb6
  refine hK.out _ _ (HSE.out _ hy6) (fun hHeld => ?_)
  clear hK K
  (try simp only [Act.put, sA, sB, sC])
  refine wpAnyH_one (i := 7) rfl (by kernel_rfl) (by rfl) (fun K hK => ?_)
  go_simp
  refine (HPA.out Bw3 dw3 Bt3 dt3 Br3 dr3 T1 u1 L dL _ ((hc.ev hb3).ev hb6) (ht1.ev hb6) (sl_own (enc := ics) (by decide) (ics_len _) (by omega) hl3)).mono ?_
  rintro e z7 ⟨⟨BP, dP, rfl, hown⟩, hb7⟩
  have hy7 : Ev x2 z7 := Ev.trans hy6 hb7
  refine hK.out _ _ (HSE.out _ hy7) (fun hHeld => ?_)
  clear hK K
  (try simp only [Act.put, sA, sB, sC])
  refine tkH 8 (some 37) ?_
  (try simp only [Act.put, sA, sB, sC])
  refine tkH 9 (some 46) ?_
  (try simp only [Act.put, sA, sB, sC])
  refine tkH 10 (some 47) ?_
  (try simp only [Act.put, sA, sB, sC])
  refine tkH 11 (some 11) ?_
  (try simp only [Act.put, sA, sB, sC])
  refine tkH 12 (some 12) ?_
  (try simp only [Act.put, sA, sB, sC])
  refine wpAnyH_done (by kernel_rfl) ?_ _
  obtain ⟨x3, hx3⟩ : ∃ x, x = z7 := ⟨_, rfl⟩
  subst hx3
  have HE3 := hid (HE2.out.trans hy7)
  have HV3 := hid (HV2.out.trans hy7)
  have HT3 := hid hy7
  have HO3 := hid hown
  clear hc ht1 hl3 hown HSE hHeld c0 c1 y0 y1 y2 y3 y4 y5 y6 y7 y8 y9
  obtain ⟨y0, y1, y2, y3, y4, y5, y6, y7, y8, y9⟩ := cells10 (HV3.out.heap Q0.out)
  go_upto_region 9 with (with_reducible refine ⟨trivial, ?_⟩)
  generalize hW4 : World.alloc x3 _ = W2
  have hE4 : Ev x3 W2 := by rw [← hW4]; exact Ev.alloc (Ev.refl _) _
  have hal := alloc1 x3 (.cells #[.int .i64 f.last, .int .i64 f.size, .int .i64 f.cool, .int .i64 f.die, .int .i64 f.burn, .int .i64 f.st.lo, .int .i64 f.st.hi, .slice Aw nw cw, .slice At nt ct, .slice Ar nr cr] 28)
  rw [hW4] at hal
  have HC2 := hid hal.1
  have hpx : x3.heap.size + 1 ≤ W2.heap.size := by have := hal.2; omega
  have HEW := hid (HE3.out.trans hE4)
  have HV4 := hid (HV3.out.trans hE4)
  have HT4 := hid (HT3.out.trans hE4)
  have H34 := hid hE4
  clear hW4 hal y0 y1 y2 y3 y4 y5 y6 y7 y8 y9
  obtain ⟨bl, ol, v, hA, hbl, hx, _, e0⟩ := (HO3.out.ev H34.out).int (Below.refl _ _) hkl
  obtain rfl : vh = v := HVH.out.symm.trans (HXA.out kk v hkl hx)
  have hbl3 : bl < x3.heap.size := by
   obtain ⟨b3, o3, _, h3, h4, _⟩ := HO3.out.int (Below.refl _ _) hkl
   rw [hA] at h3
   cases h3
   exact h4
  have hcapP := HO3.out.cap
  subst hA
  clear hx
  have lx3 : w.heap.size < x3.heap.size := heap_lt (HV3.out.heap Q0.out)
  have lp3 : p < x3.heap.size := heap_lt (HT3.out.heap HQT.out)
  generalize hpxx : x3.heap.size = px at HC2 hpx hbl3 lx3 lp3
  have hEb : ∀ W, Ev W2 W → Ev x3 W := fun W h => H34.out.trans h
  obtain ⟨i0, hi0, hz0, hz1, hz2⟩ := info_parts infoRR
  obtain ⟨y0, y1, y2, y3, y4, y5, y6, y7, y8, y9⟩ := cells10 (HV4.out.heap Q0.out)
  have l0 := heap_lt (HV4.out.heap Q0.out)
  have lbl : bl < W2.heap.size := by omega
  have HSE : Hid (∀ w', Ev W2 w' → (∀ o, w'.cell? ⟨w.heap.size, o, none⟩ = W2.cell? ⟨w.heap.size, o, none⟩) ∧ (∀ o, w'.cell? ⟨bl, o, none⟩ = W2.cell? ⟨bl, o, none⟩)) := hid (fun w' h => ⟨fun o => h.cells.1 _ o l0, fun o => h.cells.1 _ o lbl⟩)
  go_cut [] (fun W => ∃ (V : Option Addr) (cx : Nat), Ev x3 W ∧ Hid (W.heap[px]? = some (.cells #[.int .i64 f.last, .int .i64 f.size, .int .i64 f.cool, .int .i64 f.die, .int .i64 f.burn, .int .i64 f.st.lo, .int .i64 f.st.hi, .slice Aw nw cw, .slice At nt ct, .slice V (nr + 1) cx] 28 (0, 0))) ∧ Hid (Sl rdc 3 W W.heap.size V (nr + 1) cx (f.rds ++ [(⟨(kk : Int), vh, (mo : Int)⟩ : M.Rd)])))
  case first =>
   refine wp_region_held_drew (S := fun w' => (∀ o, w'.cell? ⟨w.heap.size, o, none⟩ = W2.cell? ⟨w.heap.size, o, none⟩) ∧ (∀ o, w'.cell? ⟨bl, o, none⟩ = W2.cell? ⟨bl, o, none⟩)) (by kernel_rfl) (⟨fun o => rfl, fun o => rfl⟩) (fun hHeld => ?_)
   refine tkH 1 (some 60) ?_
   (try simp only [Act.put, sA, sB, sC])
   refine tkH 2 (some 61) ?_
   (try simp only [Act.put, sA, sB, sC])
   refine tkH 4 (some 63) ?_
   (try simp only [Act.put, sA, sB, sC])
   refine tkH 5 (some 64) ?_
   (try simp only [Act.put, sA, sB, sC])
   refine tkH 6 (some 65) ?_
   (try simp only [Act.put, sA, sB, sC])
   refine tkH 7 (some 66) ?_
   (try simp only [Act.put, sA, sB, sC])
   refine tkH 8 (some 67) ?_
   (try simp only [Act.put, sA, sB, sC])
   refine tkH 9 (some 68) ?_
   (try simp only [Act.put, sA, sB, sC])
   refine tkH 10 (some 69) ?_
   (try simp only [Act.put, sA, sB, sC])
   refine tkH 11 (some 70) ?_
   (try simp only [Act.put, sA, sB, sC])
   refine tkH 12 (some 71) ?_
   (try simp only [Act.put, sA, sB, sC])
   refine wpAnyH_ready (rs := [0, 13]) (by kernel_rfl) (by simp) ?_
   refine AllReadyH.cons rfl (fun K hK => ?_) (AllReadyH.cons rfl (fun K hK => ?_) AllReadyH.nil)
   ·
    go_simp
    refine hK.out _ _ (HSE.out _ (Ev.alloc (Ev.drew (Ev.refl W2)) _)) (fun hHeld => ?_)
    clear hK K
    (try simp only [Act.put, sA, sB, sC])
    refine wpAnyH_ready (rs := [3, 13]) (by kernel_rfl) (by simp) ?_
    refine AllReadyH.cons rfl (fun K hK => ?_) (AllReadyH.cons rfl (fun K hK => ?_) AllReadyH.nil)
    ·
     have hEA := hid (Ev.alloc (Ev.drew (Ev.refl W2)) (.cells #[] 96))
     refine step_append_any (enc := rdc) rfl (.tmp 59) (.tmp 61) 26 rfl W2.heap.size 96 i0 _ 3 24 Try.underlying26 hi0 hz0 hz1 hz2 rfl (by decide) _ 0 [] rfl ((World.ownsRow_lit W2 #[] 0 (Nat.le_refl _) (by decide) rfl).ev (by repeat (first | exact Ev.refl _ | refine Ev.drew ?_ | refine Ev.alloc ?_ _))) Ar nr cr f.rds _ rfl (Sl0.ev ⟨HRS.out.len, HRS.out.cells⟩ (HEW.out.trans (by repeat (first | exact Ev.refl _ | refine Ev.drew ?_ | refine Ev.alloc ?_ _)))) (rdc_len _) (rdc_one _) (by unfold maxLen; omega) (by omega) (by first | (simp; done) | (simp; omega)) ?_
     intro v' w3 hown' hgrow
     have hown3 : w3.ownsRow W2.heap.size 96 3 v' nr (f.rds.flatMap rdc) := (by simpa using hown')
     have HE3_ := hid (Ev.grown (by repeat (first | exact Ev.refl _ | refine Ev.drew ?_ | refine Ev.alloc ?_ _)) hgrow (fun k e => by have e2 : some W2.heap.size = some k := e; simp at e2; omega) : Ev W2 w3)
     refine hK.out _ _ (HSE.out _ HE3_.out) (fun hHeld => ?_)
     clear hK K
     (try simp only [Act.put, sA, sB, sC])
     refine wpAnyH_ready (rs := [13]) (by kernel_rfl) (by simp) ?_
     refine AllReadyH.cons rfl (fun K hK => ?_) AllReadyH.nil
     go_simp
     refine hK.out _ _ (HSE.out _ (Ev.alloc HE3_.out _)) (fun hHeld => ?_)
     clear hK K
     (try simp only [Act.put, sA, sB, sC])
     refine wpAnyH_ready (rs := [14]) (by kernel_rfl) (by simp) ?_
     refine AllReadyH.cons rfl (fun K hK => ?_) AllReadyH.nil
     refine step_append_own rfl (.tmp 62) (.tmp 72) 26 rfl W2.heap.size 96 i0 _ 3 24 Try.underlying26 hi0 hz0 hz1 hz2 rfl (by decide) v' nr (f.rds.flatMap rdc) rfl (hown3.alloc _) ⟨w3.heap.size, 0, none⟩ 1 1 [.int .i64 (kk : Int), .int .i64 vh, .int .i64 (mo : Int)] rfl rfl (news_in (alloc1 w3 _).1) (by simp [Value.oneCell']) (by unfold maxLen; omega) (by omega) (Nat.le_trans HE3_.out.size (by first | exact Nat.le_refl _ | (simp; done) | (simp; omega))) ?_
     intro v2 w4 hown2 hgrow2 _
     have hown4 : w4.ownsRow W2.heap.size 96 3 v2 (nr + 1) ((f.rds ++ [(⟨(kk : Int), vh, (mo : Int)⟩ : M.Rd)]).flatMap rdc) := by rw [List.flatMap_append]; exact hown2
     obtain ⟨V, cx, rfl⟩ := own_form hown4
     have HE4_ := hid (Ev.grown (Ev.alloc HE3_.out _) hgrow2 (fun k e => (hown3.lt k e).1))
     have HX4 := hid (HE4_.out.heap HC2.out)
     clear hown2 hgrow2 y0 y1 y2 y3 y4 y5 y6 y7 y8 y9
     obtain ⟨y0, y1, y2, y3, y4, y5, y6, y7, y8, y9⟩ := cells10 HX4.out
     obtain ⟨f0, f1, f2, f3, f4, f5, f6, f7, f8, f9⟩ := frz10 HX4.out
     refine hK.out _ _ (HSE.out _ HE4_.out) (fun hHeld => ?_)
     clear hK K
     (try simp only [Act.put, sA, sB, sC])
     refine tkH 15 (some 74) ?_
     (try simp only [Act.put, sA, sB, sC])
     refine wpAnyH_ready (rs := [16]) (by kernel_rfl) (by simp) ?_
     refine AllReadyH.cons rfl (fun K hK => ?_) AllReadyH.nil
     go_simp
     refine hK.out _ _ (⟨fun o => (cell_set_ne (show w.heap.size ≠ px by omega)).trans ((HSE.out _ HE4_.out).1 o), fun o => (cell_set_ne (show bl ≠ px by omega)).trans ((HSE.out _ HE4_.out).2 o)⟩) (fun hHeld => ?_)
     clear hK K
     (try simp only [Act.put, sA, sB, sC])
     refine wpAnyH_done (by kernel_rfl) ?_ _
     go_wp2_with fail
     go_meet
     have hown5 := ownsRow_setCell_below hown4 (a := ⟨px, 9, none⟩) (show px < W2.heap.size by omega) (.slice V (nr + 1) cx)
     exact ⟨V, cx, Ev.setCell (hEb _ HE4_.out) (show x3.heap.size ≤ px by omega) _, hid (by rw [set_heap_same HX4.out]; rfl), hid (sl_own (by decide) (rdc_len _) (by omega) hown5)⟩
    ·
     go_simp
     refine hK.out _ _ (HSE.out _ (Ev.alloc (Ev.alloc (Ev.drew (Ev.refl W2)) _) _)) (fun hHeld => ?_)
     clear hK K
     (try simp only [Act.put, sA, sB, sC])
     refine wpAnyH_ready (rs := [3]) (by kernel_rfl) (by simp) ?_
     refine AllReadyH.cons rfl (fun K hK => ?_) AllReadyH.nil
     have hEA := hid (Ev.alloc (Ev.alloc (Ev.drew (Ev.refl W2)) (.cells #[] 96)) (.cells #[.int .i64 (kk : Int), .int .i64 vh, .int .i64 (mo : Int)] 96))
     refine step_append_any (enc := rdc) rfl (.tmp 59) (.tmp 61) 26 rfl W2.heap.size 96 i0 _ 3 24 Try.underlying26 hi0 hz0 hz1 hz2 rfl (by decide) _ 0 [] rfl ((World.ownsRow_lit W2 #[] 0 (Nat.le_refl _) (by decide) rfl).ev (by repeat (first | exact Ev.refl _ | refine Ev.drew ?_ | refine Ev.alloc ?_ _))) Ar nr cr f.rds _ rfl (Sl0.ev ⟨HRS.out.len, HRS.out.cells⟩ (HEW.out.trans (by repeat (first | exact Ev.refl _ | refine Ev.drew ?_ | refine Ev.alloc ?_ _)))) (rdc_len _) (rdc_one _) (by unfold maxLen; omega) (by omega) (by first | (simp; done) | (simp; omega)) ?_
     intro v' w3 hown' hgrow
     have hown3 : w3.ownsRow W2.heap.size 96 3 v' nr (f.rds.flatMap rdc) := (by simpa using hown')
     have HE3_ := hid (Ev.grown (by repeat (first | exact Ev.refl _ | refine Ev.drew ?_ | refine Ev.alloc ?_ _)) hgrow (fun k e => by have e2 : some W2.heap.size = some k := e; simp at e2; omega) : Ev W2 w3)
     have HM := hid ((hgrow.block (W2.heap.size + 1) (by simp) (fun e => by have e2 : some W2.heap.size = some (W2.heap.size + 1) := e.symm; simp at e2)).trans (alloc2 W2 (.cells #[] 96) (.cells #[.int .i64 (kk : Int), .int .i64 vh, .int .i64 (mo : Int)] 96)).2.1 : w3.heap[W2.heap.size + 1]? = some (.cells #[.int .i64 (kk : Int), .int .i64 vh, .int .i64 (mo : Int)] 96 (0, 0)))
     refine hK.out _ _ (HSE.out _ HE3_.out) (fun hHeld => ?_)
     clear hK K
     (try simp only [Act.put, sA, sB, sC])
     refine wpAnyH_ready (rs := [14]) (by kernel_rfl) (by simp) ?_
     refine AllReadyH.cons rfl (fun K hK => ?_) AllReadyH.nil
     refine step_append_own rfl (.tmp 62) (.tmp 72) 26 rfl W2.heap.size 96 i0 _ 3 24 Try.underlying26 hi0 hz0 hz1 hz2 rfl (by decide) v' nr (f.rds.flatMap rdc) rfl hown3 ⟨W2.heap.size + 1, 0, none⟩ 1 1 [.int .i64 (kk : Int), .int .i64 vh, .int .i64 (mo : Int)] rfl rfl (news_in HM.out) (by simp [Value.oneCell']) (by unfold maxLen; omega) (by omega) (Nat.le_trans HE3_.out.size (by first | exact Nat.le_refl _ | (simp; done) | (simp; omega))) ?_
     intro v2 w4 hown2 hgrow2 _
     have hown4 : w4.ownsRow W2.heap.size 96 3 v2 (nr + 1) ((f.rds ++ [(⟨(kk : Int), vh, (mo : Int)⟩ : M.Rd)]).flatMap rdc) := by rw [List.flatMap_append]; exact hown2
     obtain ⟨V, cx, rfl⟩ := own_form hown4
     have HE4_ := hid (Ev.grown (HE3_.out) hgrow2 (fun k e => (hown3.lt k e).1))
     have HX4 := hid (HE4_.out.heap HC2.out)
     clear hown2 hgrow2 y0 y1 y2 y3 y4 y5 y6 y7 y8 y9
     obtain ⟨y0, y1, y2, y3, y4, y5, y6, y7, y8, y9⟩ := cells10 HX4.out
     obtain ⟨f0, f1, f2, f3, f4, f5, f6, f7, f8, f9⟩ := frz10 HX4.out
     refine hK.out _ _ (HSE.out _ HE4_.out) (fun hHeld => ?_)
     clear hK K
     (try simp only [Act.put, sA, sB, sC])
     refine tkH 15 (some 74) ?_
     (try simp only [Act.put, sA, sB, sC])
     refine wpAnyH_ready (rs := [16]) (by kernel_rfl) (by simp) ?_
     refine AllReadyH.cons rfl (fun K hK => ?_) AllReadyH.nil
     go_simp
     refine hK.out _ _ (⟨fun o => (cell_set_ne (show w.heap.size ≠ px by omega)).trans ((HSE.out _ HE4_.out).1 o), fun o => (cell_set_ne (show bl ≠ px by omega)).trans ((HSE.out _ HE4_.out).2 o)⟩) (fun hHeld => ?_)
     clear hK K
     (try simp only [Act.put, sA, sB, sC])
     refine wpAnyH_done (by kernel_rfl) ?_ _
     go_wp2_with fail
     go_meet
     have hown5 := ownsRow_setCell_below hown4 (a := ⟨px, 9, none⟩) (show px < W2.heap.size by omega) (.slice V (nr + 1) cx)
     exact ⟨V, cx, Ev.setCell (hEb _ HE4_.out) (show x3.heap.size ≤ px by omega) _, hid (by rw [set_heap_same HX4.out]; rfl), hid (sl_own (by decide) (rdc_len _) (by omega) hown5)⟩
   ·
    go_simp
    refine hK.out _ _ (HSE.out _ (Ev.alloc (Ev.drew (Ev.refl W2)) _)) (fun hHeld => ?_)
    clear hK K
    (try simp only [Act.put, sA, sB, sC])
    refine wpAnyH_ready (rs := [0]) (by kernel_rfl) (by simp) ?_
    refine AllReadyH.cons rfl (fun K hK => ?_) AllReadyH.nil
    go_simp
    refine hK.out _ _ (HSE.out _ (Ev.alloc (Ev.alloc (Ev.drew (Ev.refl W2)) _) _)) (fun hHeld => ?_)
    clear hK K
    (try simp only [Act.put, sA, sB, sC])
    refine wpAnyH_ready (rs := [3]) (by kernel_rfl) (by simp) ?_
    refine AllReadyH.cons rfl (fun K hK => ?_) AllReadyH.nil
    have hEA := hid (Ev.alloc (Ev.alloc (Ev.drew (Ev.refl W2)) (.cells #[.int .i64 (kk : Int), .int .i64 vh, .int .i64 (mo : Int)] 96)) (.cells #[] 96))
    have hOW : ((W2.alloc (.cells #[.int .i64 (kk : Int), .int .i64 vh, .int .i64 (mo : Int)] 96)).alloc (.cells #[] 96)).ownsRow W2.heap.size 96 3 (.slice (some ⟨W2.heap.size + 1, 0, none⟩) 0 0) 0 (([] : List M.Rd).flatMap rdc) := by
     have h := World.ownsRow_lit (base := W2.heap.size) (e := 96) (size := 3) (W2.alloc (.cells #[.int .i64 (kk : Int), .int .i64 vh, .int .i64 (mo : Int)] 96)) #[] 0 (by simp) (by decide) rfl
     rw [World.size_alloc] at h
     exact h
    refine step_append_any (enc := rdc) rfl (.tmp 59) (.tmp 61) 26 rfl W2.heap.size 96 i0 _ 3 24 Try.underlying26 hi0 hz0 hz1 hz2 rfl (by decide) _ 0 [] rfl (hOW.ev (by repeat (first | exact Ev.refl _ | refine Ev.drew ?_ | refine Ev.alloc ?_ _))) Ar nr cr f.rds _ rfl (Sl0.ev ⟨HRS.out.len, HRS.out.cells⟩ (HEW.out.trans (by repeat (first | exact Ev.refl _ | refine Ev.drew ?_ | refine Ev.alloc ?_ _)))) (rdc_len _) (rdc_one _) (by unfold maxLen; omega) (by omega) (by first | (simp; done) | (simp; omega)) ?_
    intro v' w3 hown' hgrow
    have hown3 : w3.ownsRow W2.heap.size 96 3 v' nr (f.rds.flatMap rdc) := (by simpa using hown')
    have HE3_ := hid (Ev.grown (by repeat (first | exact Ev.refl _ | refine Ev.drew ?_ | refine Ev.alloc ?_ _)) hgrow (fun k e => by have e2 : some (W2.heap.size + 1) = some k := e; simp at e2; omega) : Ev W2 w3)
    have HM := hid ((hgrow.block W2.heap.size (by simp; omega) (fun e => by have e2 : some (W2.heap.size + 1) = some W2.heap.size := e.symm; simp at e2)).trans (alloc2 W2 (.cells #[.int .i64 (kk : Int), .int .i64 vh, .int .i64 (mo : Int)] 96) (.cells #[] 96)).1 : w3.heap[W2.heap.size]? = some (.cells #[.int .i64 (kk : Int), .int .i64 vh, .int .i64 (mo : Int)] 96 (0, 0)))
    refine hK.out _ _ (HSE.out _ HE3_.out) (fun hHeld => ?_)
    clear hK K
    (try simp only [Act.put, sA, sB, sC])
    refine wpAnyH_ready (rs := [14]) (by kernel_rfl) (by simp) ?_
    refine AllReadyH.cons rfl (fun K hK => ?_) AllReadyH.nil
    refine step_append_own rfl (.tmp 62) (.tmp 72) 26 rfl W2.heap.size 96 i0 _ 3 24 Try.underlying26 hi0 hz0 hz1 hz2 rfl (by decide) v' nr (f.rds.flatMap rdc) rfl hown3 ⟨W2.heap.size, 0, none⟩ 1 1 [.int .i64 (kk : Int), .int .i64 vh, .int .i64 (mo : Int)] rfl rfl (news_in HM.out) (by simp [Value.oneCell']) (by unfold maxLen; omega) (by omega) (Nat.le_trans HE3_.out.size (by first | exact Nat.le_refl _ | (simp; done) | (simp; omega))) ?_
    intro v2 w4 hown2 hgrow2 _
    have hown4 : w4.ownsRow W2.heap.size 96 3 v2 (nr + 1) ((f.rds ++ [(⟨(kk : Int), vh, (mo : Int)⟩ : M.Rd)]).flatMap rdc) := by rw [List.flatMap_append]; exact hown2
    obtain ⟨V, cx, rfl⟩ := own_form hown4
    have HE4_ := hid (Ev.grown (HE3_.out) hgrow2 (fun k e => (hown3.lt k e).1))
    have HX4 := hid (HE4_.out.heap HC2.out)
    clear hown2 hgrow2 y0 y1 y2 y3 y4 y5 y6 y7 y8 y9
    obtain ⟨y0, y1, y2, y3, y4, y5, y6, y7, y8, y9⟩ := cells10 HX4.out
    obtain ⟨f0, f1, f2, f3, f4, f5, f6, f7, f8, f9⟩ := frz10 HX4.out
    refine hK.out _ _ (HSE.out _ HE4_.out) (fun hHeld => ?_)
    clear hK K
    (try simp only [Act.put, sA, sB, sC])
    refine tkH 15 (some 74) ?_
    (try simp only [Act.put, sA, sB, sC])
    refine wpAnyH_ready (rs := [16]) (by kernel_rfl) (by simp) ?_
    refine AllReadyH.cons rfl (fun K hK => ?_) AllReadyH.nil
    go_simp
    refine hK.out _ _ (⟨fun o => (cell_set_ne (show w.heap.size ≠ px by omega)).trans ((HSE.out _ HE4_.out).1 o), fun o => (cell_set_ne (show bl ≠ px by omega)).trans ((HSE.out _ HE4_.out).2 o)⟩) (fun hHeld => ?_)
    clear hK K
    (try simp only [Act.put, sA, sB, sC])
    refine wpAnyH_done (by kernel_rfl) ?_ _
    go_wp2_with fail
    go_meet
    have hown5 := ownsRow_setCell_below hown4 (a := ⟨px, 9, none⟩) (show px < W2.heap.size by omega) (.slice V (nr + 1) cx)
    exact ⟨V, cx, Ev.setCell (hEb _ HE4_.out) (show x3.heap.size ≤ px by omega) _, hid (by rw [set_heap_same HX4.out]; rfl), hid (sl_own (by decide) (rdc_len _) (by omega) hown5)⟩
  case rest =>
   clear y0 y1 y2 y3 y4 y5 y6 y7 y8 y9
   clear HSE e0
   obtain ⟨V, cx, hEx, HXB, HXR⟩ := hcut
   obtain ⟨x5, hx5⟩ : ∃ x, x = wc := ⟨_, rfl⟩
   subst hx5
   have HE5 := hid (HE3.out.trans hEx)
   have HV5 := hid (HV3.out.trans hEx)
   have HT5 := hid (HT3.out.trans hEx)
   have HR5 := hid hEx
   clear hEx
   obtain ⟨b6, o6, v6, hA6, hb6, hx6, _, e0⟩ := (HO3.out.ev HR5.out).int (Below.refl _ _) hkl
   obtain rfl : vh = v6 := HVH.out.symm.trans (HXA.out kk v6 hkl hx6)
   cases hA6
   clear hx6
   obtain ⟨y0, y1, y2, y3, y4, y5, y6, y7, y8, y9⟩ := cells10 (HV5.out.heap Q0.out)
   go_upto_region 12 with (go_at_call 54; with_reducible refine (HIN.out _).mono ?_; rintro e wz ⟨rfl, hwz⟩; replace hwz := hwz.symm; subst hwz)
   obtain ⟨c0, c1⟩ := cells2 (HT5.out.heap HQT.out)
   obtain ⟨u0, u1, u2, u3, u4, u5, u6, u7, u8, u9⟩ := cells10 HXB.out
   have l0 := heap_lt (HV5.out.heap Q0.out)
   have l1 := heap_lt (HT5.out.heap HQT.out)
   have l2 := heap_lt HXB.out
   have HCX := hid (show CS x5 x5.heap.size (M.withL f (f.rds ++ [(⟨(kk : Int), vh, (mo : Int)⟩ : M.Rd)])) Aw At V nw cw nt ct (nr + 1) cx from ⟨(HCS.out.ev HE5.out).w_, (HCS.out.ev HE5.out).t, HXR.out⟩)
   have HSE : Hid (∀ w', Ev x5 w' → (∀ o, w'.cell? ⟨w.heap.size, o, none⟩ = x5.cell? ⟨w.heap.size, o, none⟩) ∧ (∀ o, w'.cell? ⟨p, o, none⟩ = x5.cell? ⟨p, o, none⟩) ∧ (∀ o, w'.cell? ⟨px, o, none⟩ = x5.cell? ⟨px, o, none⟩)) := hid (fun w' h => ⟨fun o => h.cells.1 _ o l0, fun o => h.cells.1 _ o l1, fun o => h.cells.1 _ o l2⟩)
   refine wp_region_held_drew (S := fun w' => (∀ o, w'.cell? ⟨w.heap.size, o, none⟩ = x5.cell? ⟨w.heap.size, o, none⟩) ∧ (∀ o, w'.cell? ⟨p, o, none⟩ = x5.cell? ⟨p, o, none⟩) ∧ (∀ o, w'.cell? ⟨px, o, none⟩ = x5.cell? ⟨px, o, none⟩)) (by kernel_rfl) (⟨fun o => rfl, fun o => rfl, fun o => rfl⟩) (fun hHeld => ?_)
   refine tkH 0 (some 82) ?_
   (try simp only [Act.put, sA, sB, sC])
   refine tkH 2 (some 84) ?_
   (try simp only [Act.put, sA, sB, sC])
   refine tkH 5 (some 87) ?_
   (try simp only [Act.put, sA, sB, sC])
   refine tkH 7 (some 89) ?_
   (try simp only [Act.put, sA, sB, sC])
   refine wpAnyH_one (i := 1) rfl (by kernel_rfl) (by rfl) (fun K hK => ?_)
   go_simp
   refine (Heap_c f Aw At Ar nw cw nt ct nr cr (by omega) (by omega) (by omega) _ (HCS.out.ev (HE5.out.trans (Ev.drew (Ev.refl _))))).mono ?_
   rintro e z1 ⟨⟨Bw6, dw6, Bt6, dt6, Br6, dr6, rfl, hc⟩, hb1⟩
   have hy1 : Ev x5 z1 := Ev.trans (Ev.drew (Ev.refl _)) hb1
   refine hK.out _ _ (HSE.out _ hy1) (fun hHeld => ?_)
   clear hK K
   (try simp only [Act.put, sA, sB, sC])
   refine wpAnyH_one (i := 3) rfl (by kernel_rfl) (by rfl) (fun K hK => ?_)
   go_simp
   refine (Truth_c Bw nw dw t (by omega) _ (HSW.out.ev (HT5.out.trans hy1))).mono ?_
   rintro e z3 ⟨⟨T3, u3_, rfl, ht3⟩, hb3⟩
   have hy3 : Ev x5 z3 := Ev.trans hy1 hb3
   refine hK.out _ _ (HSE.out _ hy3) (fun hHeld => ?_)
   clear hK K
   (try simp only [Act.put, sA, sB, sC])
   refine wpAnyH_one (i := 4) rfl (by kernel_rfl) (by rfl) (fun K hK => ?_)
   go_simp
   refine (HP1.out Bw6 dw6 Bt6 dt6 Br6 dr6 T3 u3_ _ (hc.ev hb3) ht3).mono ?_
   rintro e z4 ⟨rfl, hb4⟩
   have hy4 : Ev x5 z4 := Ev.trans hy3 hb4
   refine hK.out _ _ (HSE.out _ hy4) (fun hHeld => ?_)
   clear hK K
   (try simp only [Act.put, sA, sB, sC])
   refine wpAnyH_one (i := 6) rfl (by kernel_rfl) (by rfl) (fun K hK => ?_)
   go_simp
   refine (HH2.out V cx _ (HCX.out.ev hy4)).mono ?_
   rintro e z6 ⟨⟨Bw7, dw7, Bt7, dt7, Br7, dr7, rfl, hc7⟩, hb6⟩
   have hy6 : Ev x5 z6 := Ev.trans hy4 hb6
   refine hK.out _ _ (HSE.out _ hy6) (fun hHeld => ?_)
   clear hK K
   (try simp only [Act.put, sA, sB, sC])
   refine wpAnyH_one (i := 8) rfl (by kernel_rfl) (by rfl) (fun K hK => ?_)
   go_simp
   refine (Truth_c Bw nw dw t (by omega) _ (HSW.out.ev (HT5.out.trans hy6))).mono ?_
   rintro e z8 ⟨⟨T8, u8_, rfl, ht8⟩, hb8⟩
   have hy8 : Ev x5 z8 := Ev.trans hy6 hb8
   refine hK.out _ _ (HSE.out _ hy8) (fun hHeld => ?_)
   clear hK K
   (try simp only [Act.put, sA, sB, sC])
   refine wpAnyH_one (i := 9) rfl (by kernel_rfl) (by rfl) (fun K hK => ?_)
   go_simp
   refine (HP2.out Bw7 dw7 Bt7 dt7 Br7 dr7 T8 u8_ _ (hc7.ev hb8) ht8).mono ?_
   rintro e z9 ⟨rfl, hb9⟩
   have hy9 : Ev x5 z9 := Ev.trans hy8 hb9
   refine hK.out _ _ (HSE.out _ hy9) (fun hHeld => ?_)
   clear hK K
   (try simp only [Act.put, sA, sB, sC])
   refine tkH 10 (some 92) ?_
   (try simp only [Act.put, sA, sB, sC])
   refine tkH 11 (some 93) ?_
   (try simp only [Act.put, sA, sB, sC])
   refine wpAnyH_one (i := 12) rfl (by kernel_rfl) (by rfl) (fun K hK => ?_)
   go_simp
   refine (awake_c _).mono ?_
   rintro e z12 ⟨rfl, hb12⟩
   have hy12 : Ev x5 z12 := Ev.trans hy9 hb12
   refine hK.out _ _ (HSE.out _ hy12) (fun hHeld => ?_)
   clear hK K
   (try simp only [Act.put, sA, sB, sC])
   refine tkH 13 (some 95) ?_
   (try simp only [Act.put, sA, sB, sC])
   refine tkH 14 (some 8) ?_
   (try simp only [Act.put, sA, sB, sC])
   refine wpAnyH_done (by kernel_rfl) ?_ _
   go_wp2
   go_ret
   exact ⟨rfl, HE5.out.trans hy12⟩

theorem couchOwn_c (f : M.Cf) (Aw At Ar : Option Addr) (nw cw nt ct nr cr : Nat) (hl0 : -9223372036854775808 ≤ f.last) (wn : Nat) (hwn : wn < 65536) (hr0 : Nat) (hh : hr0 < 256) (mr : Nat) (hm : mr < 256) (w : World) (hs : M.small nw nt nr → CS w w.heap.size f Aw At Ar nw cw nt ct nr cr) :
  Calls Try.prog 12 #[.agg #[.int .i64 f.last, .int .i64 f.size, .int .i64 f.cool, .int .i64 f.die, .int .i64 f.burn, .int .i64 f.st.lo, .int .i64 f.st.hi, .slice Aw nw cw, .slice At nt ct, .slice Ar nr cr], .int .u16 (wn : Int), .int .u8 (hr0 : Int), .int .u8 (mr : Int)] w fun e w' => e = .returned (.bool true) ∧ Ev w w' := by
 cases hr : M.rdy f nw nt nr with
 | false => exact couchOwn_no f Aw At Ar nw cw nt ct nr cr hl0 wn hwn hr0 hh mr hm w hs hr
 | true =>
  have h1 := hr
  unfold M.rdy at h1
  rw [Bool.and_eq_true, Bool.and_eq_true, decide_eq_true_eq, decide_eq_true_eq] at h1
  obtain ⟨⟨hsm, _⟩, h0⟩ := h1
  by_cases hb : 4 < nr
  ·
   exact couchOwn_big f Aw At Ar nw cw nt ct nr cr hl0 wn hwn hr0 hh mr hm w (hid (hs hsm)) hr hsm h0 hb
  ·
   exact couchOwn_yes f Aw At Ar nw cw nt ct nr cr hl0 wn hwn hr0 hh mr hm w (hid (hs hsm)) hr hsm h0 (by omega)
theorem couchOwn_i (f : M.Cf) (Aw At Ar : Option Addr) (nw cw nt ct nr cr : Nat) (hl0 : -9223372036854775808 ≤ f.last) (a1 : Int) (p1 : 0 ≤ a1) (q1 : a1 < 65536) (a2 : Int) (p2 : 0 ≤ a2) (q2 : a2 < 256) (a3 : Int) (p3 : 0 ≤ a3) (q3 : a3 < 256) (w : World) (hs : M.small nw nt nr → CS w w.heap.size f Aw At Ar nw cw nt ct nr cr) :
  Calls Try.prog 12 #[.agg #[.int .i64 f.last, .int .i64 f.size, .int .i64 f.cool, .int .i64 f.die, .int .i64 f.burn, .int .i64 f.st.lo, .int .i64 f.st.hi, .slice Aw nw cw, .slice At nt ct, .slice Ar nr cr], .int .u16 a1, .int .u8 a2, .int .u8 a3] w fun e w' => e = .returned (.bool true) ∧ Ev w w' := by
 obtain ⟨n1, rfl⟩ : ∃ n : Nat, a1 = n := ⟨a1.toNat, by omega⟩
 obtain ⟨n2, rfl⟩ : ∃ n : Nat, a2 = n := ⟨a2.toNat, by omega⟩
 obtain ⟨n3, rfl⟩ : ∃ n : Nat, a3 = n := ⟨a3.toNat, by omega⟩
 exact couchOwn_c f Aw At Ar nw cw nt ct nr cr hl0 n1 (by omega) n2 (by omega) n3 (by omega) w hs

end Go.Proofs.Ytgimcephbeajlaa
