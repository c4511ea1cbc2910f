import Derived.Test.YtgimcephbeajlaaQWetterA
import Derived.Deep.DeepCutAuto
set_option linter.unusedSimpArgs false
set_option linter.unusedVariables false
namespace Go.Proofs.Ytgimcephbeajlaa
open Go.RowKit Go.Shelf

theorem rdc_one' (ys : List M.Rd) : ∀ u ∈ ys.flatMap rdc, u.oneCell' = true := by
 intro u hu
 obtain ⟨y, _, hy⟩ := List.mem_flatMap.1 hu
 simp [rdc] at hy
 rcases hy with rfl | rfl | rfl <;> rfl

set_option maxRecDepth 100000 in
set_option maxHeartbeats 16000000 in
theorem Looked_c (f : M.Cf) (Aw At Ar : Option Addr) (nw cw nt ct nr cr : Nat) (h0 : M.check f = 0) (wn : Nat) (hwn : wn < 65536) (B : Option Addr) (bn bc : Nat) (ws : List Int) (hws : ∀ x ∈ ws, 0 ≤ x ∧ x < 65536) (hbc : bn ≤ bc) (hbm : bc ≤ maxLen) (w : World) (hs : CS w w.heap.size f Aw At Ar nw cw nt ct nr cr) (hw : Sl0 wcs 1 w w.heap.size B bn ws) :
  Calls Try.prog 51 #[.agg #[.int .i64 f.last, .int .i64 f.size, .int .i64 f.cool, .int .i64 f.die, .int .i64 f.burn, .int .i64 f.st.lo, .int .i64 f.st.hi, .slice Aw nw cw, .slice At nt ct, .slice Ar nr cr], .int .u16 (wn : Int), .slice B bn bc] w fun e w' => (∃ (t : M.Tr) (ls : List M.Rd) (V : Option Addr) (d : Nat) (Bw : Option Addr) (dw : Nat), M.listed f t = true ∧ ls.length ≤ 5 ∧ (∀ l ∈ ls, (M.validRd f l = true ∧ M.shows (M.own f t) l = true)) ∧ e = .returned (.tuple #[.agg #[.int .i64 f.last, .int .i64 f.size, .int .i64 f.cool, .int .i64 f.die, .int .i64 f.burn, .int .i64 f.st.lo, .int .i64 f.st.hi, .slice Aw nw cw, .slice At nt ct, .slice V ls.length d], .agg #[.int .i64 t.st, .slice Bw nw dw]]) ∧ CS w' w'.heap.size (M.withL f ls) Aw At V nw cw nt ct ls.length d ∧ Sl ics 1 w' w'.heap.size Bw nw dw t.wet) ∧ Ev w w' := by
 obtain ⟨i0, hi0, hz0, hz1, hz2⟩ := info_parts infoRR
 obtain ⟨hl9, _, hv, _⟩ := M.check0 h0
 have hlast := (M.valid_parts hv).2.2.2.2.2.1
 have hl00 := (M.valid_parts hv).2.2.2.2.1
 have HCS := hid hs
 have hwl := hs.w_.len
 have hnl : (nw : Int) = f.last + 1 := by omega
 have hnw0 : 0 < nw := by omega
 have hnw10 : nw ≤ 10 := by omega
 obtain ⟨hmn, hm2⟩ := M.many_nat h0
 have hmp := M.many_pos h0
 have hst := (M.valid_parts hv).2.2.2.1
 have HMN := hid (fun W (hE : Ev w W) => by have := Many_c f Aw At Ar nw cw nt ct nr cr hst (M.wet_bd hv) W (HCS.out.ev hE); rw [hmn] at this; exact this)
 generalize M.prodN (M.ranges f) = Pm at HMN hm2 hmp
 obtain ⟨qn, hqn⟩ : ∃ q, wn % Pm = q := ⟨_, rfl⟩
 have hql : qn < Pm := by rw [← hqn]; exact Nat.mod_lt _ (by omega)
 have p0 : ¬ ((Pm : Int) = 0) := by omega
 have p0' : ¬ (Pm = 0) := by omega
 have p1 : (wn : Int) % (Pm : Int) = (qn : Int) := by rw [← hqn]; exact (Int.natCast_emod wn Pm).symm
 have p2_ : (wn : Int).tmod (Pm : Int) = (qn : Int) := by rw [Int.tmod_eq_emod_of_nonneg (by omega)]; exact p1
 have p3_ : IntKind.i64.wrap (qn : Int) = (qn : Int) := IntWalk.i64_in _ (by omega)
 have p4_ : IntKind.i64.wrap (wn : Int) = (wn : Int) := IntWalk.i64_in _ (by omega)
 have HNT := hid (fun W (hE : Ev w W) => Nth_c f Aw At Ar nw cw nt ct nr cr hv hl9 qn (by omega) W (HCS.out.ev hE))
 have hls := M.nth_listed hv qn
 obtain ⟨t, ht⟩ : ∃ t, M.nth f qn = t := ⟨_, rfl⟩
 rw [ht] at HNT hls
 have htl : t.wet.length = nw := by have := (M.listed_bd hv hls).2.1; omega
 have HWS := hid hw
 have HWD := hid (fun i (hi : i ≤ 100) W (hE : Ev w W) => word_c B bn bc ws hws i hi W (HWS.out.ev hE) hbc hbm)
 have HWB := hid (fun i => M.word_bd hws i)
 have HHX := hid (fun (lk : Nat) (hlk : lk < nw) (Tw : Option Addr) (twc : Nat) W (hE : Ev w W) (hwt : Sl ics 1 W W.heap.size Tw nw twc t.wet) => Heat_c f Aw At Ar nw cw nt ct nr cr Tw nw twc t At nt ct f.turns hv hl9 hls (lk + 1) (lk : Int) (by omega) (by omega) W (HCS.out.ev hE) hwt (HCS.out.ev hE).t)
 have HBD := hid (fun (lk : Nat) (hlk : lk < nw) => M.heatN_bd hv hls f.turns (lk + 1) (by omega))
 have HOWN := hid (fun (lk : Nat) (hlk : lk < nw) => show (M.own f t).getD lk 0 = M.heatN f t f.turns (lk + 1) from M.heats_getD f.turns (by omega))
 have HNL := hid hnl
 have HLS := hid hls
 clear hs hw hmn hwl hws hv hlast hls ht hst htl hnl h0 hqn hwn
 go_enter Try.func51, Try.ntmps51
 go_upto_region 1 with fail
 generalize hW0 : World.alloc (World.alloc (World.alloc w _) _) _ = W0
 have hE0 : Ev w W0 := by rw [← hW0]; exact Ev.alloc (Ev.alloc (Ev.alloc (Ev.refl _) _) _) _
 have hal := alloc3 w (.cells #[.int .i64 f.last, .int .i64 f.size, .int .i64 f.cool, .int .i64 f.die, .int .i64 f.burn, .int .i64 f.st.lo, .int .i64 f.st.hi, .slice Aw nw cw, .slice At nt ct, .slice Ar nr cr] 28) (.cells #[.int .i64 0, .int .i64 0, .int .i64 0, .int .i64 0, .int .i64 0, .int .i64 0, .int .i64 0, .slice none 0 0, .slice none 0 0, .slice none 0 0] 28) (.cells #[.int .i64 0, .slice none 0 0] 30)
 rw [hW0] at hal
 have Q0 := hid hal.1
 have Q1 := hid hal.2.1
 have Q2 := hid hal.2.2.1
 have HZ0 := hid (show W0.heap.size = w.heap.size + 3 from hal.2.2.2)
 clear hal hW0
 obtain ⟨y0, y1, y2, y3, y4, y5, y6, y7, y8, y9⟩ := cells10 Q0.out
 have l0 := heap_lt Q0.out
 have HSE : Hid (∀ w', Ev W0 w' → (∀ o, w'.cell? ⟨w.heap.size, o, none⟩ = W0.cell? ⟨w.heap.size, o, none⟩)) := hid (fun w' h => fun o => h.cells.1 _ o l0)
 go_cut [8] (fun v W => ∃ (q : Nat) (Bw : Option Addr) (dw : Nat), v = .pointer (some ⟨q, 0, none⟩) ∧ W0.heap.size ≤ q ∧ Ev W0 W ∧ Hid (W.heap[q]? = some (.cells #[.int .i64 t.st, .slice Bw nw dw] 30 (0, 0))) ∧ Hid (W.ownsRow 0 3 1 (.slice Bw nw dw) nw (t.wet.flatMap ics)))
 case first =>
  refine wp_region_held_drew (S := fun w' => (∀ o, w'.cell? ⟨w.heap.size, o, none⟩ = W0.cell? ⟨w.heap.size, o, none⟩)) (by kernel_rfl) (fun o => rfl) (fun hHeld => ?_)
  refine tkH 0 (some 13) ?_
  (try simp only [Act.put, sA, sB, sC])
  refine tkH 1 (some 14) ?_
  (try simp only [Act.put, sA, sB, sC])
  refine tkH 2 (some 15) ?_
  (try simp only [Act.put, sA, sB, sC])
  refine tkH 3 (some 16) ?_
  (try simp only [Act.put, sA, sB, sC])
  refine wpAnyH_ready (rs := [4, 7]) (by kernel_rfl) (by simp) ?_
  refine AllReadyH.cons rfl (fun K hK => ?_) (AllReadyH.cons rfl (fun K hK => ?_) (AllReadyH.nil))
  ·
   go_simp
   refine (HMN.out _ (hE0.trans (Ev.drew (Ev.refl _)))).mono ?_
   rintro e z4 ⟨rfl, hb4⟩
   have hy4 : Ev W0 z4 := Ev.trans (Ev.drew (Ev.refl _)) hb4
   refine hK.out _ _ (HSE.out _ hy4) (fun hHeld => ?_)
   clear hK K
   (try simp only [Act.put, List.setIfInBounds_toArray, List.set_cons_zero, List.set_cons_succ])
   refine tkH 5 (some 18) ?_
   (try simp only [Act.put, sA, sB, sC])
   refine wpAnyH_ready (rs := [6, 7]) (by kernel_rfl) (by simp) ?_
   refine AllReadyH.cons rfl (fun K hK => ?_) (AllReadyH.cons rfl (fun K hK => ?_) (AllReadyH.nil))
   ·
    go_simp
    refine (HNT.out _ (hE0.trans hy4)).mono ?_
    rintro e z6 ⟨⟨Bw, dw, rfl, ho⟩, hb6⟩
    have hy6 : Ev W0 z6 := Ev.trans hy4 hb6
    refine hK.out _ _ (HSE.out _ hy6) (fun hHeld => ?_)
    clear hK K
    (try simp only [Act.put, List.setIfInBounds_toArray, List.set_cons_zero, List.set_cons_succ])
    refine wpAnyH_one (i := 7) rfl (by kernel_rfl) (by rfl) (fun K hK => ?_)
    go_simp
    generalize hWA : World.alloc z6 _ = WA
    have hal := alloc1 z6 (.cells #[.int .i64 0, .slice none 0 0] 30)
    have hbA : Ev z6 WA := by rw [← hWA]; exact Ev.alloc (Ev.refl _) _
    have hqA := hal.1
    rw [hWA] at hqA
    have hxA : Ev W0 WA := hy6.trans hbA
    have hpA : W0.heap.size ≤ z6.heap.size := hy6.size
    clear hal hWA
    refine hK.out _ _ (HSE.out _ hxA) (fun hHeld => ?_)
    clear hK K
    (try simp only [Act.put, List.setIfInBounds_toArray, List.set_cons_zero, List.set_cons_succ])
    refine wpAnyH_one (i := 8) rfl (by kernel_rfl) (by rfl) (fun K hK => ?_)
    have hq9 := hid hqA
    obtain ⟨u0, u1⟩ := cells2 hq9.out
    obtain ⟨v0, v1⟩ := frz2 hq9.out
    have hne : w.heap.size ≠ z6.heap.size := by have := hpA; have := HZ0.out; omega
    go_simp
    refine hK.out _ _ (fun o => (cell_set_ne hne).trans ((cell_set_ne hne).trans (HSE.out _ hxA o))) (fun hHeld => ?_)
    clear hK K
    (try simp only [Act.put, List.setIfInBounds_toArray, List.set_cons_zero, List.set_cons_succ])
    refine wpAnyH_done (by kernel_rfl) ?_ _
    go_wp2_with fail
    go_meet
    exact ⟨z6.heap.size, Bw, dw, rfl, hpA, Ev.setCell (Ev.setCell hxA hpA _) hpA _, hid (set2' hq9.out), hid (own_set (own_set (own_base (ho.ev hbA) (Nat.zero_le _)) hq9.out (by decide)) (set_heap_same hq9.out) (by decide))⟩
   ·
    go_simp
    generalize hWA : World.alloc z4 _ = WA
    have hal := alloc1 z4 (.cells #[.int .i64 0, .slice none 0 0] 30)
    have hbA : Ev z4 WA := by rw [← hWA]; exact Ev.alloc (Ev.refl _) _
    have hqA := hal.1
    rw [hWA] at hqA
    have hxA : Ev W0 WA := hy4.trans hbA
    have hpA : W0.heap.size ≤ z4.heap.size := hy4.size
    clear hal hWA
    refine hK.out _ _ (HSE.out _ hxA) (fun hHeld => ?_)
    clear hK K
    (try simp only [Act.put, List.setIfInBounds_toArray, List.set_cons_zero, List.set_cons_succ])
    refine wpAnyH_one (i := 6) rfl (by kernel_rfl) (by rfl) (fun K hK => ?_)
    go_simp
    refine (HNT.out _ (hE0.trans hxA)).mono ?_
    rintro e z6 ⟨⟨Bw, dw, rfl, ho⟩, hb6⟩
    have hy6 : Ev W0 z6 := Ev.trans hxA hb6
    refine hK.out _ _ (HSE.out _ hy6) (fun hHeld => ?_)
    clear hK K
    (try simp only [Act.put, List.setIfInBounds_toArray, List.set_cons_zero, List.set_cons_succ])
    refine wpAnyH_one (i := 8) rfl (by kernel_rfl) (by rfl) (fun K hK => ?_)
    have hq9 := hid (hb6.heap hqA)
    obtain ⟨u0, u1⟩ := cells2 hq9.out
    obtain ⟨v0, v1⟩ := frz2 hq9.out
    have hne : w.heap.size ≠ z4.heap.size := by have := hpA; have := HZ0.out; omega
    go_simp
    refine hK.out _ _ (fun o => (cell_set_ne hne).trans ((cell_set_ne hne).trans (HSE.out _ hy6 o))) (fun hHeld => ?_)
    clear hK K
    (try simp only [Act.put, List.setIfInBounds_toArray, List.set_cons_zero, List.set_cons_succ])
    refine wpAnyH_done (by kernel_rfl) ?_ _
    go_wp2_with fail
    go_meet
    exact ⟨z4.heap.size, Bw, dw, rfl, hpA, Ev.setCell (Ev.setCell hy6 hpA _) hpA _, hid (set2' hq9.out), hid (own_set (own_set (own_base ho (Nat.zero_le _)) hq9.out (by decide)) (set_heap_same hq9.out) (by decide))⟩
  ·
   go_simp
   generalize hWA : World.drew (World.alloc W0 _) = WA
   have hal := alloc1 W0 (.cells #[.int .i64 0, .slice none 0 0] 30)
   have hbA : Ev W0 WA := by rw [← hWA]; exact Ev.drew (Ev.alloc (Ev.refl _) _)
   have hqA := (show Ev (World.alloc W0 (.cells #[.int .i64 0, .slice none 0 0] 30)) WA from by rw [← hWA]; exact Ev.drew (Ev.refl _)).heap hal.1
   have hxA : Ev W0 WA := hbA
   have hpA : W0.heap.size ≤ W0.heap.size := Nat.le_refl _
   clear hal hWA
   refine hK.out _ _ (HSE.out _ hxA) (fun hHeld => ?_)
   clear hK K
   (try simp only [Act.put, List.setIfInBounds_toArray, List.set_cons_zero, List.set_cons_succ])
   refine wpAnyH_one (i := 4) rfl (by kernel_rfl) (by rfl) (fun K hK => ?_)
   go_simp
   refine (HMN.out _ (hE0.trans hxA)).mono ?_
   rintro e z4 ⟨rfl, hb4⟩
   have hy4 : Ev W0 z4 := Ev.trans hxA hb4
   refine hK.out _ _ (HSE.out _ hy4) (fun hHeld => ?_)
   clear hK K
   (try simp only [Act.put, List.setIfInBounds_toArray, List.set_cons_zero, List.set_cons_succ])
   refine tkH 5 (some 18) ?_
   (try simp only [Act.put, sA, sB, sC])
   refine wpAnyH_one (i := 6) rfl (by kernel_rfl) (by rfl) (fun K hK => ?_)
   go_simp
   refine (HNT.out _ (hE0.trans hy4)).mono ?_
   rintro e z6 ⟨⟨Bw, dw, rfl, ho⟩, hb6⟩
   have hy6 : Ev W0 z6 := Ev.trans hy4 hb6
   refine hK.out _ _ (HSE.out _ hy6) (fun hHeld => ?_)
   clear hK K
   (try simp only [Act.put, List.setIfInBounds_toArray, List.set_cons_zero, List.set_cons_succ])
   refine wpAnyH_one (i := 8) rfl (by kernel_rfl) (by rfl) (fun K hK => ?_)
   have hq9 := hid (hb6.heap (hb4.heap hqA))
   obtain ⟨u0, u1⟩ := cells2 hq9.out
   obtain ⟨v0, v1⟩ := frz2 hq9.out
   have hne : w.heap.size ≠ W0.heap.size := by have := hpA; have := HZ0.out; omega
   go_simp
   refine hK.out _ _ (fun o => (cell_set_ne hne).trans ((cell_set_ne hne).trans (HSE.out _ hy6 o))) (fun hHeld => ?_)
   clear hK K
   (try simp only [Act.put, List.setIfInBounds_toArray, List.set_cons_zero, List.set_cons_succ])
   refine wpAnyH_done (by kernel_rfl) ?_ _
   go_wp2_with fail
   go_meet
   exact ⟨W0.heap.size, Bw, dw, rfl, hpA, Ev.setCell (Ev.setCell hy6 hpA _) hpA _, hid (set2' hq9.out), hid (own_set (own_set (own_base ho (Nat.zero_le _)) hq9.out (by decide)) (set_heap_same hq9.out) (by decide))⟩
 case rest =>
  clear y0 y1 y2 y3 y4 y5 y6 y7 y8 y9
  clear HMN HNT HSE l0 p0 p0' p1 p2_ p3_ p4_ hql hm2 hmp
  obtain ⟨q, Bw, dw, rfl, hq, hB2, HQ, HTW⟩ := hcut
  obtain ⟨x2, hx2⟩ : ∃ x, x = wc := ⟨_, rfl⟩
  subst hx2
  have P0 := hid (hB2.heap Q0.out)
  have P1 := hid (hB2.heap Q1.out)
  have P2 := hid (hB2.heap Q2.out)
  obtain ⟨y0, y1, y2, y3, y4, y5, y6, y7, y8, y9⟩ := cells10 P0.out
  have hX2 := hE0.trans hB2
  have hqx := heap_lt HQ.out
  have hzz := HZ0.out
  go_upto_region 4 with fail
  generalize hW3 : World.alloc x2 _ = W3
  have hE3 : Ev x2 W3 := by rw [← hW3]; exact Ev.alloc (Ev.refl _) _
  have hC3 : W3.heap[x2.heap.size]? = some (.cells #[.int .i64 f.last, .int .i64 f.size, .int .i64 f.cool, .int .i64 f.die, .int .i64 f.burn, .int .i64 f.st.lo, .int .i64 f.st.hi, .slice Aw nw cw, .slice At nt ct, .slice none 0 0] 28 (0, 0)) := by rw [← hW3]; exact (alloc1 x2 _).1
  have R0 := hid (hE3.heap P0.out)
  have R1 := hid (hE3.heap P1.out)
  have R2 := hid (hE3.heap P2.out)
  have RQ := hid (hE3.heap HQ.out)
  have RC := hid hC3
  have HTS := hid (sl_own (enc := ics) (by decide) (ics_len _) (by omega) HTW.out)
  have HOW := hid HTW.out
  have hwq : w.heap.size + 3 ≤ q := by omega
  clear hW3 hC3 P0 P1 P2 Q0 Q1 Q2 HQ HTW y0 y1 y2 y3 y4 y5 y6 y7 y8 y9 hzz
  obtain ⟨p, hp⟩ : ∃ p, p = x2.heap.size := ⟨_, rfl⟩
  rw [← hp] at RC hqx ⊢
  have HP := hid hp
  clear hp
  go_wp2_with fail
  go_loopw [10] (fun i wr => ∃ (k : Nat) (ys : List M.Rd) (V : Option Addr) (ce : Nat), i = .int .i64 k ∧ k ≤ 5 ∧ ys.length ≤ k ∧ Ev x2 wr ∧ Hid (wr.heap[w.heap.size]? = some (.cells #[.int .i64 f.last, .int .i64 f.size, .int .i64 f.cool, .int .i64 f.die, .int .i64 f.burn, .int .i64 f.st.lo, .int .i64 f.st.hi, .slice Aw nw cw, .slice At nt ct, .slice Ar nr cr] 28 (0, 0))) ∧ Hid (wr.heap[w.heap.size + 1]? = some (.cells #[.int .i64 0, .int .i64 0, .int .i64 0, .int .i64 0, .int .i64 0, .int .i64 0, .int .i64 0, .slice none 0 0, .slice none 0 0, .slice none 0 0] 28 (0, 0))) ∧ Hid (wr.heap[w.heap.size + 1 + 1]? = some (.cells #[.int .i64 0, .slice none 0 0] 30 (0, 0))) ∧ Hid (wr.heap[q]? = some (.cells #[.int .i64 t.st, .slice Bw nw dw] 30 (0, 0))) ∧ Hid (wr.heap[p]? = some (.cells #[.int .i64 f.last, .int .i64 f.size, .int .i64 f.cool, .int .i64 f.die, .int .i64 f.burn, .int .i64 f.st.lo, .int .i64 f.st.hi, .slice Aw nw cw, .slice At nt ct, .slice V ys.length ce] 28 (0, 0))) ∧ Hid (wr.ownsRow (p + 1) 96 3 (.slice V ys.length ce) ys.length (ys.flatMap rdc)) ∧ Hid (∀ l ∈ ys, (M.validRd f l = true ∧ M.shows (M.own f t) l = true))) (fun i _ => 6 - (intOf i).toNat)
  case atStart => exact ⟨0, [], none, 0, rfl, by omega, by simp, hE3, R0, R1, R2, RQ, RC, hid (World.ownsRow_nil _ _ _ _), hid (by simp)⟩
  case round =>
   obtain ⟨k, ys, V, ce, rfl, hk, hyk, hB, hQ0, hQ1, hQ2, hQQ, hC, hown, hgood⟩ := hrel
   obtain ⟨W1, hW1⟩ : ∃ x, x = wr := ⟨_, rfl⟩
   subst hW1
   clear R0 R1 R2 RQ RC
   obtain ⟨y0, y1, y2, y3, y4, y5, y6, y7, y8, y9⟩ := cells10 hQ0.out
   obtain ⟨t0, t1⟩ := cells2 hQQ.out
   have lq := heap_lt hQ0.out
   have lp := heap_lt hC.out
   have hBw := hX2.trans hB
   obtain ⟨m, hym⟩ : ∃ m, ys.length = m := ⟨_, rfl⟩
   rw [hym] at hC hown hyk
   obtain ⟨n0, hn0⟩ : ∃ n : Nat, M.word ws 0 = n := ⟨(M.word ws 0).toNat, by have := HWB.out 0; omega⟩
   have hn0b : n0 < 65536 := by have := HWB.out 0; omega
   have HW0 := hid (fun W (hE : Ev w W) => (show Calls Try.prog 85 #[.slice B bn bc, .int .i64 0] W fun e w' => e = .returned (.int .i64 (n0 : Int)) ∧ w' = W from by have := HWD.out 0 (by omega) W hE; rw [hn0] at this; exact this))
   have d1 : (n0 : Int).tmod 6 = ((n0 % 6 : Nat) : Int) := by rw [Int.tmod_eq_emod_of_nonneg (by omega)]; exact (Int.natCast_emod n0 6).symm
   have d2 : (n0 : Int) % 6 = ((n0 % 6 : Nat) : Int) := (Int.natCast_emod n0 6).symm
   have d3 : n0 % 6 < 6 := Nat.mod_lt _ (by omega)
   generalize n0 % 6 = N at d1 d2 d3
   have d4 : IntKind.i64.wrap (N : Int) = N := IntWalk.i64_in _ (by omega)
   by_cases hlt : k < N
   ·
    obtain ⟨v, hv1⟩ : ∃ n : Nat, M.word ws (k + 1) = n := ⟨(M.word ws (k + 1)).toNat, by have := HWB.out (k + 1); omega⟩
    have hvb : v < 65536 := by have := HWB.out (k + 1); omega
    have HW1 := hid (fun W (hE : Ev w W) => (show Calls Try.prog 85 #[.slice B bn bc, .int .i64 ((k : Int) + 1)] W fun e w' => e = .returned (.int .i64 (v : Int)) ∧ w' = W from by have := HWD.out (k + 1) (by omega) W hE; rw [hv1] at this; exact this))
    have e0 : IntKind.i64.wrap ((k : Int) + 1) = (k : Int) + 1 := IntWalk.i64_in _ (by omega)
    have e1 : IntKind.i64.wrap (f.last + 1) = (nw : Int) := by rw [← HNL.out]; exact IntWalk.i64_in _ (by omega)
    have e2 : ¬ ((nw : Int) = 0) := by omega
    have e2' : ¬ (nw = 0) := by omega
    have e3 : (v : Int).tmod nw = ((v % nw : Nat) : Int) := by rw [Int.tmod_eq_emod_of_nonneg (by omega)]; exact (Int.natCast_emod v nw).symm
    have e4 : (v : Int) % nw = ((v % nw : Nat) : Int) := (Int.natCast_emod v nw).symm
    have e5 : v % nw < nw := Nat.mod_lt _ (by omega)
    generalize v % nw = lk at e3 e4 e5
    have e6 : IntKind.i64.wrap (lk : Int) = lk := IntWalk.i64_in _ (by omega)
    have f1_ : (v : Int).tdiv 16 = ((v / 16 : Nat) : Int) := by rw [Int.tdiv_eq_ediv_of_nonneg (by omega)]; exact (Int.natCast_ediv v 16).symm
    have f2_ : (v : Int) / 16 = ((v / 16 : Nat) : Int) := (Int.natCast_ediv v 16).symm
    have f3_ : (v : Int).tdiv 64 = ((v / 64 : Nat) : Int) := by rw [Int.tdiv_eq_ediv_of_nonneg (by omega)]; exact (Int.natCast_ediv v 64).symm
    have f4_ : (v : Int) / 64 = ((v / 64 : Nat) : Int) := (Int.natCast_ediv v 64).symm
    have f5_ : v / 16 ≤ v := Nat.div_le_self _ _
    have f6_ : v / 64 ≤ v := Nat.div_le_self _ _
    generalize v / 16 = v1 at f1_ f2_ f5_
    generalize v / 64 = v2 at f3_ f4_ f6_
    have g1_ : IntKind.i64.wrap (v1 : Int) = v1 := IntWalk.i64_in _ (by omega)
    have g2_ : IntKind.i64.wrap (v2 : Int) = v2 := IntWalk.i64_in _ (by omega)
    have g3_ : (v1 : Int).tmod 4 = ((v1 % 4 : Nat) : Int) := by rw [Int.tmod_eq_emod_of_nonneg (by omega)]; exact (Int.natCast_emod v1 4).symm
    have g4_ : (v1 : Int) % 4 = ((v1 % 4 : Nat) : Int) := (Int.natCast_emod v1 4).symm
    have g7_ : v1 % 4 < 4 := Nat.mod_lt _ (by omega)
    generalize v1 % 4 = er at g3_ g4_ g7_
    have h1_ : IntKind.i64.wrap (er : Int) = er := IntWalk.i64_in _ (by omega)
    have h2_ : IntKind.i64.wrap (2 * (er : Int)) = 2 * (er : Int) := IntWalk.i64_in _ (by omega)
    have h3_ : IntKind.i64.wrap (2 * (er : Int) + 1) = 2 * (er : Int) + 1 := IntWalk.i64_in _ (by omega)
    have h4_ : ¬ (2 * (er : Int) + 1 = 0) := by omega
    obtain ⟨rm, hrm⟩ : ∃ rm, v2 % (2 * er + 1) = rm := ⟨_, rfl⟩
    have hrl : rm < 2 * er + 1 := by rw [← hrm]; exact Nat.mod_lt _ (by omega)
    have h5_ : (v2 : Int) % (2 * (er : Int) + 1) = (rm : Int) := by rw [← hrm]; simp
    have h6_ : (v2 : Int).tmod (2 * (er : Int) + 1) = (rm : Int) := by rw [Int.tmod_eq_emod_of_nonneg (by omega)]; exact h5_
    have h7_ : IntKind.i64.wrap (rm : Int) = rm := IntWalk.i64_in _ (by omega)
    have hgb := HBD.out lk e5
    have hog := HOWN.out lk e5
    have HST := hid (fun W (hE : Ev x2 W) => HHX.out lk e5 Bw dw W (hX2.trans hE) (HTS.out.ev hE))
    generalize M.heatN f t f.turns (lk + 1) = g0 at HST hgb hog
    have h8_ : IntKind.i64.wrap (g0 + (rm : Int)) = g0 + (rm : Int) := IntWalk.i64_in _ (by omega)
    have h9_ : IntKind.i64.wrap (g0 + (rm : Int) - (er : Int)) = g0 + (rm : Int) - (er : Int) := IntWalk.i64_in _ (by omega)
    have hsb : (M.own f t).getD lk 0 - er ≤ g0 + (rm : Int) - (er : Int) ∧ g0 + (rm : Int) - (er : Int) ≤ (M.own f t).getD lk 0 + er := by rw [hog]; omega
    generalize hsn : g0 + (rm : Int) - (er : Int) = sn at h9_ hsb
    have HSN := hid hsn
    have HHB := hid hsb
    have hlI : (lk : Int) ≤ f.last := by have := HNL.out; omega
    have HN0 := hid (And.intro hn0 hv1)
    clear hn0 hv1 hrm hog hsb
    go_upto_region 9 with (first | (go_at_call 85; with_reducible refine (HW0.out _ hBw).mono ?_; rintro e wz ⟨rfl, hwz⟩; replace hwz := hwz.symm; subst hwz) | (go_at_call 85; with_reducible refine (HW1.out _ hBw).mono ?_; rintro e wz ⟨rfl, hwz⟩; replace hwz := hwz.symm; subst hwz))
    generalize hW5 : World.alloc W1 _ = W5
    have hE5 : Ev W1 W5 := by rw [← hW5]; exact Ev.alloc (Ev.refl _) _
    have hal := alloc1 W1 (.cells #[.int .i64 (lk : Int), .int .i64 0, .int .i64 (er : Int)] 96)
    rw [hW5] at hal
    have HR5 := hid hal.1
    clear hal hW5
    obtain ⟨r, hr⟩ : ∃ r, r = W1.heap.size := ⟨_, rfl⟩
    rw [← hr] at HR5 ⊢
    have HR_ := hid hr
    have hpr : p < r := by omega
    have hqr : q < r := by have := heap_lt hQQ.out; omega
    have hwr : w.heap.size + 3 ≤ r := by omega
    have hltO := hid (fun g e => (hown.out.lt g e).2)
    clear hr y0 y1 y2 y3 y4 y5 y6 y7 y8 y9 t0 t1
    obtain ⟨y0, y1, y2, y3, y4, y5, y6, y7, y8, y9⟩ := cells10 (hE5.heap hQ0.out)
    obtain ⟨t0, t1⟩ := cells2 (hE5.heap hQQ.out)
    obtain ⟨r0, _, r2⟩ := cells3 HR5.out
    have l5a := heap_lt (hE5.heap hQ0.out)
    have l5b := heap_lt (hE5.heap hQQ.out)
    have l5c := heap_lt HR5.out
    have HSE : Hid (∀ w', Ev W5 w' → (∀ o, w'.cell? ⟨w.heap.size, o, none⟩ = W5.cell? ⟨w.heap.size, o, none⟩) ∧ (∀ o, w'.cell? ⟨q, o, none⟩ = W5.cell? ⟨q, o, none⟩) ∧ w'.cell? ⟨r, 0, none⟩ = W5.cell? ⟨r, 0, none⟩ ∧ w'.cell? ⟨r, 2, none⟩ = W5.cell? ⟨r, 2, none⟩) := hid (fun w' h => ⟨fun o => h.cells.1 _ o l5a, fun o => h.cells.1 _ o l5b, h.cells.1 _ 0 l5c, h.cells.1 _ 2 l5c⟩)
    refine wp_region_held_drew (S := fun w' => (∀ o, w'.cell? ⟨w.heap.size, o, none⟩ = W5.cell? ⟨w.heap.size, o, none⟩) ∧ (∀ o, w'.cell? ⟨q, o, none⟩ = W5.cell? ⟨q, o, none⟩) ∧ w'.cell? ⟨r, 0, none⟩ = W5.cell? ⟨r, 0, none⟩ ∧ w'.cell? ⟨r, 2, none⟩ = W5.cell? ⟨r, 2, none⟩) (by kernel_rfl) (⟨fun o => rfl, fun o => rfl, rfl, rfl⟩) (fun hHeld => ?_)
    refine tkH 0 (some 42) ?_
    (try simp only [Act.put, sA, sB, sC])
    refine tkH 1 (some 43) ?_
    (try simp only [Act.put, sA, sB, sC])
    refine tkH 2 (some 44) ?_
    (try simp only [Act.put, sA, sB, sC])
    refine tkH 3 (some 45) ?_
    (try simp only [Act.put, sA, sB, sC])
    refine tkH 4 (some 46) ?_
    (try simp only [Act.put, sA, sB, sC])
    refine tkH 5 (some 47) ?_
    (try simp only [Act.put, sA, sB, sC])
    refine tkH 7 (some 49) ?_
    (try simp only [Act.put, sA, sB, sC])
    refine tkH 8 (some 50) ?_
    (try simp only [Act.put, sA, sB, sC])
    refine tkH 9 (some 51) ?_
    (try simp only [Act.put, sA, sB, sC])
    refine tkH 10 (some 52) ?_
    (try simp only [Act.put, sA, sB, sC])
    refine tkH 11 (some 53) ?_
    (try simp only [Act.put, sA, sB, sC])
    refine tkH 12 (some 54) ?_
    (try simp only [Act.put, sA, sB, sC])
    refine tkH 13 (some 55) ?_
    (try simp only [Act.put, sA, sB, sC])
    refine tkH 15 (some 57) ?_
    (try simp only [Act.put, sA, sB, sC])
    refine tkH 16 (some 58) ?_
    (try simp only [Act.put, sA, sB, sC])
    refine wpAnyH_one (i := 6) rfl (by kernel_rfl) (by rfl) (fun K hK => ?_)
    go_simp
    refine (HST.out _ ((hB.trans hE5).trans (Ev.drew (Ev.refl _)))).mono ?_
    rintro e z6 ⟨rfl, hb6⟩
    have hy6 : Ev W5 z6 := Ev.trans (Ev.drew (Ev.refl _)) hb6
    refine hK.out _ _ (HSE.out _ hy6) (fun hHeld => ?_)
    clear hK K
    (try simp only [Act.put, List.setIfInBounds_toArray, List.set_cons_zero, List.set_cons_succ])
    refine tkH 14 (some 56) ?_
    (try simp only [Act.put, sA, sB, sC])
    refine tkH 17 (some 59) ?_
    (try simp only [Act.put, sA, sB, sC])
    refine tkH 18 (some 60) ?_
    (try simp only [Act.put, sA, sB, sC])
    refine wpAnyH_one (i := 19) rfl (by kernel_rfl) (by rfl) (fun K hK => ?_)
    have HR6 := hid (hy6.heap HR5.out)
    have v1_ := frozen_in HR6.out 1
    have r1 := cell_in HR6.out 1
    go_simp
    refine hK.out _ _ (⟨fun o => (cell_set_ne (show w.heap.size ≠ r by omega)).trans ((HSE.out _ hy6).1 o), fun o => (cell_set_ne (show q ≠ r by omega)).trans ((HSE.out _ hy6).2.1 o), (cell_in (set_heap_same HR6.out) 0).trans (cell_in HR5.out 0).symm, (cell_in (set_heap_same HR6.out) 2).trans (cell_in HR5.out 2).symm⟩) (fun hHeld => ?_)
    clear hK K
    (try simp only [Act.put, List.setIfInBounds_toArray, List.set_cons_zero, List.set_cons_succ])
    refine wpAnyH_done (by kernel_rfl) ?_ _
    go_upto_region 10 with fail
    generalize hW7 : World.setCell z6 _ _ = W7
    have hE6 : Ev W1 z6 := hE5.trans hy6
    have HL := hid (show W7.heap[r]? = some (.cells #[.int .i64 (lk : Int), .int .i64 sn, .int .i64 (er : Int)] 96 (0, 0)) from by rw [← hW7, set_heap_same HR6.out]; rfl)
    have tr : ∀ (b : Nat) (ob : Obj), b ≠ r → W1.heap[b]? = some ob → W7.heap[b]? = some ob := fun b ob hb h => by rw [← hW7]; exact set_heap (hE6.heap h) hb
    have S0 := hid (tr _ _ (by omega) hQ0.out)
    have S1 := hid (tr _ _ (by omega) hQ1.out)
    have S2 := hid (tr _ _ (by omega) hQ2.out)
    have SQ := hid (tr _ _ (by omega) hQQ.out)
    have SC := hid (tr _ _ (by omega) hC.out)
    have hneR : (Value.slice V m ce).ownBlock ≠ some r := fun e => by have := hltO.out r e; have := HR_.out; omega
    have SO := hid (show W7.ownsRow (p + 1) 96 3 (.slice V m ce) m (ys.flatMap rdc) from by rw [← hW7]; exact own_set_ne (hown.out.ev hE6) hneR)
    have hxr : x2.heap.size ≤ r := by have := HP.out; omega
    have hE7 : Ev x2 W7 := by rw [← hW7]; exact Ev.setCell (hB.trans hE6) hxr _
    clear hW7 tr r0 r1 r2 v1_ t0 t1 y0 y1 y2 y3 y4 y5 y6 y7 y8 y9 hHeld HSE
    obtain ⟨r0, r1, r2⟩ := cells3 HL.out
    obtain ⟨c0, c1, c2, c3, c4, c5, c6, c7, c8, c9⟩ := cells10 SC.out
    have lp7 := heap_lt SC.out
    have lr7 := heap_lt HL.out
    have hin := fun W => In_s sn 0 1000 W
    cases hb : M.isIn sn 0 1000 with
    | false =>
     rw [hb] at hin
     have HIN := hid hin
     clear hin hb
     go_wp2_with (go_at_call 54; with_reducible refine (HIN.out _).mono ?_; rintro e wz ⟨rfl, hwz⟩; replace hwz := hwz.symm; subst hwz)
     exact ⟨⟨k + 1, ys, V, ce, by go_num, by omega, by omega, hE7, S0, S1, S2, SQ, by rw [hym]; exact SC, by rw [hym]; exact SO, hgood⟩, by simp [intOf]; omega⟩
    | true =>
     rw [hb] at hin
     have HIN := hid hin
     have hsb2 : 0 ≤ sn ∧ sn ≤ 1000 := by unfold M.isIn at hb; simpa using hb
     have HGD := hid (show ∀ l ∈ ys ++ [(⟨(lk : Int), sn, (er : Int)⟩ : M.Rd)], (M.validRd f l = true ∧ M.shows (M.own f t) l = true) from fun l hl => by
      rcases List.mem_append.1 hl with hl | hl
      ·
       exact hgood.out l hl
      ·
       obtain rfl := List.mem_singleton.1 hl
       refine ⟨?_, ?_⟩
       ·
        unfold M.validRd M.hasHour M.holds
        simp only [Bool.and_eq_true, decide_eq_true_eq]
        omega
       ·
        have := HHB.out
        unfold M.shows M.holds
        simp only [Int.toNat_natCast, Bool.and_eq_true, decide_eq_true_eq]
        omega)
     clear hin hb hsb2
     go_wp2_with (first | (go_at_call 54; with_reducible refine (HIN.out _).mono ?_; rintro e wz ⟨rfl, hwz⟩; replace hwz := hwz.symm; subst hwz) | (at_builtin; go_loud (refine wpList_append_own _ rfl (.tmp 65) (.tmp 67) 26 rfl (p + 1) 96 i0 _ 3 24 Try.underlying26 hi0 hz0 hz1 hz2 rfl (by decide) _ m (ys.flatMap rdc) rfl (SO.out.alloc _) ⟨W7.heap.size, 0, none⟩ 1 1 [.int .i64 (lk : Int), .int .i64 sn, .int .i64 (er : Int)] rfl rfl (news_in (alloc1 W7 _).1) (by simp [Value.oneCell']) (by unfold maxLen; omega) (by omega) (by simp; omega) ?_; intro v' w9 hown' hgrow _; have hown3 : w9.ownsRow (p + 1) 96 3 v' (m + 1) ((ys ++ [(⟨(lk : Int), sn, (er : Int)⟩ : M.Rd)]).flatMap rdc) := (by rw [List.flatMap_append]; exact hown'); obtain ⟨V', ce', rfl⟩ := own_form hown3; have hltA := (SO.out.alloc (.cells #[.int .i64 (lk : Int), .int .i64 sn, .int .i64 (er : Int)] 96)).lt; have hb0 : Ev W7 (World.alloc W7 (.cells #[.int .i64 (lk : Int), .int .i64 sn, .int .i64 (er : Int)] 96)) := Ev.alloc (Ev.refl _) _; have gr : ∀ (b : Nat) (ob : Obj), b ≤ p → W7.heap[b]? = some ob → w9.heap[b]? = some ob := (fun b ob hb h => (hgrow.block b (by simp; omega) (fun e => by have := (hltA _ e.symm).1; omega)).trans (hb0.heap h)); have T0 := hid (gr _ _ (by omega) S0.out); have T1 := hid (gr _ _ (by omega) S1.out); have T2 := hid (gr _ _ (by omega) S2.out); have TQ := hid (gr _ _ (by omega) SQ.out); have TC := hid (gr _ _ (by omega) SC.out); have HO9 := hid hown3; have HE9 := hid (Ev.grown (hE7.trans hb0) hgrow (fun k e => by have := (hltA k e).1; have := HP.out; omega)); obtain ⟨a0, a1, a2, a3, a4, a5, a6, a7, a8, a9⟩ := cells10 TC.out; obtain ⟨u0, u1, u2, u3, u4, u5, u6, u7, u8, u9⟩ := frz10 TC.out; clear hltA hown' hgrow hown3 gr hb0)))
     refine ⟨⟨k + 1, ys ++ [(⟨(lk : Int), sn, (er : Int)⟩ : M.Rd)], V', ce', by go_num, by omega, by simp [hym]; omega, Ev.setCell HE9.out (show x2.heap.size ≤ p by have := HP.out; omega) _, hid (set_heap T0.out (by omega)), hid (set_heap T1.out (by omega)), hid (set_heap T2.out (by omega)), hid (set_heap TQ.out (by omega)), hid ?_, hid ?_, HGD⟩, by simp [intOf]; omega⟩
     ·
      rw [show (ys ++ [(⟨(lk : Int), sn, (er : Int)⟩ : M.Rd)]).length = m + 1 by simp [hym], set_heap_same TC.out]
      rfl
     ·
      rw [show (ys ++ [(⟨(lk : Int), sn, (er : Int)⟩ : M.Rd)]).length = m + 1 by simp [hym]]
      exact own_set HO9.out TC.out (by decide)
   ·
    have hn2 : ¬ ((k : Int) < N) := by omega
    have hw1 : w.heap.size ≤ w.heap.size + 1 := by omega
    have hw2 : w.heap.size ≤ w.heap.size + 1 + 1 := by omega
    obtain ⟨c0, c1, c2, c3, c4, c5, c6, c7, c8, c9⟩ := cells10 hC.out
    have lqq := heap_lt hQQ.out
    go_upto_region 12 with (go_at_call 85; with_reducible refine (HW0.out _ hBw).mono ?_; rintro e wz ⟨rfl, hwz⟩; replace hwz := hwz.symm; subst hwz)
    have HSE : Hid (∀ w', Ev W1 w' → (∀ o, w'.cell? ⟨p, o, none⟩ = W1.cell? ⟨p, o, none⟩) ∧ (∀ o, w'.cell? ⟨q, o, none⟩ = W1.cell? ⟨q, o, none⟩)) := hid (fun w' h => ⟨fun o => h.cells.1 _ o lp, fun o => h.cells.1 _ o lqq⟩)
    refine wp_region_held_drew (S := fun w' => (∀ o, w'.cell? ⟨p, o, none⟩ = W1.cell? ⟨p, o, none⟩) ∧ (∀ o, w'.cell? ⟨q, o, none⟩ = W1.cell? ⟨q, o, none⟩)) (by kernel_rfl) (⟨fun o => rfl, fun o => rfl⟩) (fun hHeld => ?_)
    refine tkH 0 (some 70) ?_
    (try simp only [Act.put, sA, sB, sC])
    refine tkH 1 (some 71) ?_
    (try simp only [Act.put, sA, sB, sC])
    refine wpAnyH_one (i := 2) rfl (by kernel_rfl) (by rfl) (fun K hK => ?_)
    obtain ⟨z0, z1, z2, z3, z4, z5, z6, z7, z8, z9⟩ := cells10 hQ1.out
    obtain ⟨f0, f1, f2, f3, f4, f5, f6, f7, f8, f9⟩ := frz10 hQ1.out
    go_simp
    generalize hX1 : (World.setCell (World.setCell (World.setCell (World.setCell (World.setCell (World.setCell (World.setCell (World.setCell (World.setCell (World.setCell W1 _ _) _ _) _ _) _ _) _ _) _ _) _ _) _ _) _ _) _ _) = X1
    have HF1 := hid (show X1.heap[w.heap.size + 1]? = some (.cells #[.int .i64 f.last, .int .i64 f.size, .int .i64 f.cool, .int .i64 f.die, .int .i64 f.burn, .int .i64 f.st.lo, .int .i64 f.st.hi, .slice Aw nw cw, .slice At nt ct, .slice V m ce] 28 (0, 0)) from by rw [← hX1]; exact set10 hQ1.out)
    have tr : ∀ (b : Nat) (ob : Obj), b ≠ w.heap.size + 1 → W1.heap[b]? = some ob → X1.heap[b]? = some ob := fun b ob hb h => by rw [← hX1]; exact (set_heap (set_heap (set_heap (set_heap (set_heap (set_heap (set_heap (set_heap (set_heap (set_heap h hb) hb) hb) hb) hb) hb) hb) hb) hb) hb)
    have HG2 := hid (tr _ _ (by omega) hQ2.out)
    have HGQ := hid (tr _ _ (by omega) hQQ.out)
    have HGC := hid (tr _ _ (by omega) hC.out)
    have HSO := hid (show X1.ownsRow (p + 1) 96 3 (.slice V m ce) m (ys.flatMap rdc) from by rw [← hX1]; exact own_set10 hown.out hQ1.out (by decide))
    have HS2 := hid (show X1.ownsRow 0 3 1 (.slice Bw nw dw) nw (t.wet.flatMap ics) from by rw [← hX1]; exact own_set10 (HOW.out.ev hB) hQ1.out (by decide))
    have HEX := hid (show Ev w X1 from by rw [← hX1]; exact (Ev.setCell (Ev.setCell (Ev.setCell (Ev.setCell (Ev.setCell (Ev.setCell (Ev.setCell (Ev.setCell (Ev.setCell (Ev.setCell (hX2.trans hB) hw1 _) hw1 _) hw1 _) hw1 _) hw1 _) hw1 _) hw1 _) hw1 _) hw1 _) hw1 _))
    clear hX1 tr z0 z1 z2 z3 z4 z5 z6 z7 z8 z9 f0 f1 f2 f3 f4 f5 f6 f7 f8 f9
    refine hK.out _ _ (⟨fun o => World.cell?_of_block (w := W1) (HGC.out.trans hC.out.symm), fun o => World.cell?_of_block (w := W1) (HGQ.out.trans hQQ.out.symm)⟩) (fun hHeld => ?_)
    clear hK K
    (try simp only [Act.put, List.setIfInBounds_toArray, List.set_cons_zero, List.set_cons_succ])
    refine wpAnyH_one (i := 3) rfl (by kernel_rfl) (by rfl) (fun K hK => ?_)
    obtain ⟨z0, z1⟩ := cells2 HG2.out
    obtain ⟨f0, f1⟩ := frz2 HG2.out
    have hnp : p ≠ w.heap.size + 1 + 1 := by omega
    have hnq : q ≠ w.heap.size + 1 + 1 := by omega
    go_simp
    generalize hX2 : World.setCell (World.setCell X1 _ _) _ _ = X2
    have HF2 := hid (show X2.heap[w.heap.size + 1 + 1]? = some (.cells #[.int .i64 t.st, .slice Bw nw dw] 30 (0, 0)) from by rw [← hX2]; exact set2' HG2.out)
    have HF3 := hid (show X2.heap[w.heap.size + 1]? = some (.cells #[.int .i64 f.last, .int .i64 f.size, .int .i64 f.cool, .int .i64 f.die, .int .i64 f.burn, .int .i64 f.st.lo, .int .i64 f.st.hi, .slice Aw nw cw, .slice At nt ct, .slice V m ce] 28 (0, 0)) from by rw [← hX2]; exact set_heap (set_heap HF1.out (by omega)) (by omega))
    have HC2_ := hid (show X2.heap[p]? = some _ from by rw [← hX2]; exact set_heap (set_heap HGC.out hnp) hnp)
    have HQ2_ := hid (show X2.heap[q]? = some _ from by rw [← hX2]; exact set_heap (set_heap HGQ.out hnq) hnq)
    have HSO_ := hid (own_set (j := 1) (u := (.slice Bw nw dw : Value)) (own_set (j := 0) (u := (.int .i64 t.st : Value)) HSO.out HG2.out (by decide)) (set_heap_same HG2.out) (by decide))
    rw [hX2] at HSO_
    have HS2_ := hid (own_set (j := 1) (u := (.slice Bw nw dw : Value)) (own_set (j := 0) (u := (.int .i64 t.st : Value)) HS2.out HG2.out (by decide)) (set_heap_same HG2.out) (by decide))
    rw [hX2] at HS2_
    have HEX2 := hid (show Ev w X2 from by rw [← hX2]; exact Ev.setCell (Ev.setCell HEX.out hw2 _) hw2 _)
    clear hX2 z0 z1 f0 f1
    refine hK.out _ _ (⟨fun o => World.cell?_of_block (w := W1) (HC2_.out.trans hC.out.symm), fun o => World.cell?_of_block (w := W1) (HQ2_.out.trans hQQ.out.symm)⟩) (fun hHeld => ?_)
    clear hK K
    (try simp only [Act.put, List.setIfInBounds_toArray, List.set_cons_zero, List.set_cons_succ])
    refine wpAnyH_done (by kernel_rfl) ?_ _
    go_wp2_with fail
    have hdd : Ev X2 X2.drew := Ev.drew (Ev.refl _)
    have hE9 := HEX2.out.trans hdd
    obtain ⟨b0_, b1_, b2_, b3_, b4_, b5_, b6_, b7_, b8_, b9_⟩ := cells10 (hdd.heap HF3.out)
    obtain ⟨d0, d1⟩ := cells2 (hdd.heap HF2.out)
    have hcs := HCS.out.ev hE9
    refine bodyPost_ret (v := .tuple #[.agg #[.int .i64 f.last, .int .i64 f.size, .int .i64 f.cool, .int .i64 f.die, .int .i64 f.burn, .int .i64 f.st.lo, .int .i64 f.st.hi, .slice Aw nw cw, .slice At nt ct, .slice V m ce], .agg #[.int .i64 t.st, .slice Bw nw dw]]) (by simp [results, Try.results51, go_sem, b0_, b1_, b2_, b3_, b4_, b5_, b6_, b7_, b8_, b9_, d0, d1]) rfl ⟨⟨t, ys, V, ce, Bw, dw, HLS.out, by omega, hgood.out, by rw [hym], ?_, sl_own (enc := ics) (by decide) (ics_len _) (by omega) (HS2_.out.ev hdd)⟩, hE9⟩
    rw [hym]
    exact ⟨hcs.w_, hcs.t, sl_own (enc := rdc) (by decide) (rdc_len _) (by omega) (HSO_.out.ev hdd)⟩

end Go.Proofs.Ytgimcephbeajlaa
