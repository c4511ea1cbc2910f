import Derived.Test.YtgimcephbeajlaaC30
set_option linter.unusedSimpArgs false
set_option linter.unusedVariables false
namespace Go.Proofs.Ytgimcephbeajlaa
open Go.RowKit Go.Shelf

theorem M.rd_bd {f : M.Cf} (hv : M.valid f = true) {l : M.Rd} (h : l ∈ f.rds) : (0 ≤ l.hr ∧ l.hr ≤ f.last) ∧ (0 ≤ l.sn ∧ l.sn ≤ 1000) ∧ 0 ≤ l.er ∧ l.er ≤ 50 := by
 have h1 := (M.valid_parts hv).2.2.2.2.2.2.2.2 l h
 unfold M.validRd M.hasHour M.holds at h1
 simp only [Bool.and_eq_true, decide_eq_true_eq] at h1
 omega

set_option maxRecDepth 100000 in
set_option maxHeartbeats 2000000 in
theorem rRight_c (f : M.Cf) (Aw At Ar : Option Addr) (nw cw nt ct nr cr : Nat) (Tw : Option Addr) (tw twc : Nat) (t : M.Tr) (l : M.Rd) (hv : M.valid f = true) (hl9 : f.last ≤ 9) (hls : M.listed f t = true) (hl : (0 ≤ l.hr ∧ l.hr ≤ f.last) ∧ (0 ≤ l.sn ∧ l.sn ≤ 1000) ∧ 0 ≤ l.er ∧ l.er ≤ 50) (w : World) (hs : CS w w.heap.size f Aw At Ar nw cw nt ct nr cr) (hwt : Sl ics 1 w w.heap.size Tw tw twc t.wet) :
  Calls Try.prog 72 #[.agg #[.int .i64 f.last, .int .i64 f.size, .int .i64 f.cool, .int .i64 f.die, .int .i64 f.burn, .int .i64 f.st.lo, .int .i64 f.st.hi, .slice Aw nw cw, .slice At nt ct, .slice Ar nr cr], .agg #[.int .i64 t.st, .slice Tw tw twc], .agg #[.int .i64 l.hr, .int .i64 l.sn, .int .i64 l.er]] w fun e w' => e = .returned (.bool (M.shows (M.own f t) l)) ∧ Ev w w' := by
 obtain ⟨⟨a1, a2⟩, ⟨a3, a4⟩, a5, a6⟩ := hl
 have hwl := (M.listed_bd hv hls).2.1
 have hvl := (M.valid_parts hv).2.2.2.2.2.1
 have htl := hwt.len
 have HSX := hid (fun W (hE : Ev w W) => Heat_c f Aw At Ar nw cw nt ct nr cr Tw tw twc t At nt ct f.turns hv hl9 hls (l.hr.toNat + 1) l.hr (by omega) (by omega) W (hs.ev hE) (hwt.ev hE) (hs.t.ev hE))
 have HR := hid (show M.isIn (M.heatN f t f.turns (l.hr.toNat + 1)) (l.sn - l.er) (l.sn + l.er) = M.shows (M.own f t) l by unfold M.shows M.own; rw [M.heats_getD f.turns (by omega)]; rfl)
 generalize M.heatN f t f.turns (l.hr.toNat + 1) = a at HSX HR
 generalize M.shows (M.own f t) l = res at HR ⊢
 have g1 : IntKind.i64.wrap (l.sn - l.er) = l.sn - l.er := IntWalk.i64_in _ (by omega)
 have g2 : IntKind.i64.wrap (l.sn + l.er) = l.sn + l.er := IntWalk.i64_in _ (by omega)
 clear hwl hvl htl hs hwt hv hls a1 a2 a3 a4 a5 a6
 go_enter Try.func72, Try.ntmps72
 go_upto_region 1 with fail
 generalize hW0 : World.alloc (World.alloc (World.alloc w _) _) _ = W0
 have hE0 : Ev w W0 := by rw [← hW0]; exact Ev.alloc (Ev.alloc (Ev.alloc (Ev.refl _) _) _) _
 have hal := alloc3 w (.cells #[.int .i64 f.last, .int .i64 f.size, .int .i64 f.cool, .int .i64 f.die, .int .i64 f.burn, .int .i64 f.st.lo, .int .i64 f.st.hi, .slice Aw nw cw, .slice At nt ct, .slice Ar nr cr] 28) (.cells #[.int .i64 t.st, .slice Tw tw twc] 30) (.cells #[.int .i64 l.hr, .int .i64 l.sn, .int .i64 l.er] 96)
 rw [hW0] at hal
 have Q0 := hid hal.1
 have Q1 := hid hal.2.1
 have Q2 := hid hal.2.2.1
 clear hal hW0
 obtain ⟨y0, y1, y2, y3, y4, y5, y6, y7, y8, y9⟩ := cells10 Q0.out
 obtain ⟨c0, c1⟩ := cells2 Q1.out
 obtain ⟨d0, d1, d2⟩ := cells3 Q2.out
 have k0 := heap_lt Q0.out
 have k1 := heap_lt Q1.out
 have k2 := heap_lt Q2.out
 have HSE : Hid (∀ w', Ev W0 w' → (∀ o, w'.cell? ⟨w.heap.size, o, none⟩ = W0.cell? ⟨w.heap.size, o, none⟩) ∧ (∀ o, w'.cell? ⟨w.heap.size + 1, o, none⟩ = W0.cell? ⟨w.heap.size + 1, o, none⟩) ∧ (∀ o, w'.cell? ⟨w.heap.size + 1 + 1, o, none⟩ = W0.cell? ⟨w.heap.size + 1 + 1, o, none⟩)) := hid (fun w' h => ⟨fun o => h.cells.1 _ o k0, fun o => h.cells.1 _ o k1, fun o => h.cells.1 _ o k2⟩)
 refine wp_region_held_drew (S := fun w' => (∀ o, w'.cell? ⟨w.heap.size, o, none⟩ = W0.cell? ⟨w.heap.size, o, none⟩) ∧ (∀ o, w'.cell? ⟨w.heap.size + 1, o, none⟩ = W0.cell? ⟨w.heap.size + 1, o, none⟩) ∧ (∀ o, w'.cell? ⟨w.heap.size + 1 + 1, o, none⟩ = W0.cell? ⟨w.heap.size + 1 + 1, o, none⟩)) (by kernel_rfl) (⟨fun o => rfl, fun o => rfl, fun o => rfl⟩) (fun hHeld => ?_)
 refine tkH 0 (some 7) ?_
 (try simp only [Act.put, sA, sB, sC])
 refine tkH 1 (some 8) ?_
 (try simp only [Act.put, sA, sB, sC])
 refine tkH 2 (some 9) ?_
 (try simp only [Act.put, sA, sB, sC])
 refine tkH 3 (some 10) ?_
 (try simp only [Act.put, sA, sB, sC])
 refine tkH 4 (some 11) ?_
 (try simp only [Act.put, sA, sB, sC])
 refine tkH 5 (some 12) ?_
 (try simp only [Act.put, sA, sB, sC])
 refine tkH 7 (some 14) ?_
 (try simp only [Act.put, sA, sB, sC])
 refine tkH 8 (some 15) ?_
 (try simp only [Act.put, sA, sB, sC])
 refine tkH 9 (some 16) ?_
 (try simp only [Act.put, sA, sB, sC])
 refine tkH 10 (some 17) ?_
 (try simp only [Act.put, sA, sB, sC])
 refine tkH 11 (some 18) ?_
 (try simp only [Act.put, sA, sB, sC])
 refine tkH 12 (some 19) ?_
 (try simp only [Act.put, sA, sB, sC])
 refine tkH 13 (some 20) ?_
 (try simp only [Act.put, sA, sB, sC])
 refine tkH 14 (some 21) ?_
 (try simp only [Act.put, sA, sB, sC])
 refine tkH 15 (some 22) ?_
 (try simp only [Act.put, sA, sB, sC])
 refine tkH 16 (some 23) ?_
 (try simp only [Act.put, sA, sB, sC])
 refine wpAnyH_one (i := 6) rfl (by kernel_rfl) (by rfl) (fun K hK => ?_)
 go_simp
 refine (HSX.out _ (hE0.trans (Ev.drew (Ev.refl _)))).mono ?_
 rintro e x1 ⟨rfl, hb⟩
 have hV1 : Ev W0 x1 := Ev.trans (Ev.drew (Ev.refl _)) hb
 refine hK.out _ _ (HSE.out _ hV1) (fun hHeld => ?_)
 clear hK K
 (try simp only [Act.put, List.setIfInBounds_toArray, List.set_cons_zero, List.set_cons_succ])
 refine wpAnyH_one (i := 17) rfl (by kernel_rfl) (by rfl) (fun K hK => ?_)
 go_simp
 refine (In_c _ _ _ _).mono ?_
 rintro e x2 ⟨rfl, hb⟩
 have hV2 : Ev W0 x2 := Ev.trans hV1 hb
 refine hK.out _ _ (HSE.out _ hV2) (fun hHeld => ?_)
 clear hK K
 (try simp only [Act.put, List.setIfInBounds_toArray, List.set_cons_zero, List.set_cons_succ])
 refine tkH 18 (some 6) ?_
 (try simp only [Act.put, sA, sB, sC])
 refine wpAnyH_done (by kernel_rfl) ?_ _
 go_wp2
 go_ret
 exact ⟨ret_bool HR.out, hE0.trans hV2⟩

set_option maxRecDepth 100000 in
set_option maxHeartbeats 4000000 in
theorem rIsTruth_c (f : M.Cf) (Aw At Ar : Option Addr) (nw cw nt ct nr cr : Nat) (Tw : Option Addr) (tw twc : Nat) (t : M.Tr) (hv : M.valid f = true) (hl9 : f.last ≤ 9) (w : World) (hs : CS w w.heap.size f Aw At Ar nw cw nt ct nr cr) (hwt : Sl ics 1 w w.heap.size Tw tw twc t.wet) :
  Calls Try.prog 27 #[.agg #[.int .i64 f.last, .int .i64 f.size, .int .i64 f.cool, .int .i64 f.die, .int .i64 f.burn, .int .i64 f.st.lo, .int .i64 f.st.hi, .slice Aw nw cw, .slice At nt ct, .slice Ar nr cr], .agg #[.int .i64 t.st, .slice Tw tw twc]] w fun e w' => e = .returned (.bool (M.listed f t && M.right f t)) ∧ Ev w w' := by
 have hil := fun W (hE : Ev w W) => rIsListed_c f Aw At Ar nw cw nt ct nr cr Tw tw twc t W (hs.ev hE) (hwt.ev hE)
 cases hls : M.listed f t with
 | false =>
  rw [hls] at hil
  have HIL := hid hil
  clear hil hls hs hwt hv
  go_enter Try.func27, Try.ntmps27
  go_wp2_with (go_at_call 28; with_reducible refine (HIL.out _ (Ev.alloc (Ev.alloc (Ev.refl _) _) _)).mono ?_; rintro e w1 ⟨rfl, hb1⟩)
  go_ret
  exact ⟨rfl, (Ev.alloc (Ev.alloc (Ev.refl _) _) _).trans hb1⟩
 | true =>
  rw [hls] at hil
  have HIL := hid hil
  have HRX := hid (fun (l : M.Rd) (hl : l ∈ f.rds) W (hE : Ev w W) => rRight_c f Aw At Ar nw cw nt ct nr cr Tw tw twc t l hv hl9 hls (M.rd_bd hv hl) W (hs.ev hE) (hwt.ev hE))
  have HRR := hid (show (true && M.right f t) = f.rds.all (M.shows (M.own f t)) from rfl)
  have HL := hid hs.r
  clear hil hls hwt hv hs
  go_enter Try.func27, Try.ntmps27
  go_wp2_with (go_at_call 28; with_reducible refine (HIL.out _ (Ev.alloc (Ev.alloc (Ev.refl _) _) _)).mono ?_; rintro e w1 ⟨rfl, hb1⟩)
  have hG : Ev w w1 := (Ev.alloc (Ev.alloc (Ev.refl _) _) _).trans hb1
  have hal := alloc2 w (.cells #[.int .i64 f.last, .int .i64 f.size, .int .i64 f.cool, .int .i64 f.die, .int .i64 f.burn, .int .i64 f.st.lo, .int .i64 f.st.hi, .slice Aw nw cw, .slice At nt ct, .slice Ar nr cr] 28) (.cells #[.int .i64 t.st, .slice Tw tw twc] 30)
  have Q0 := hid (hb1.heap hal.1)
  have Q1 := hid (hb1.heap hal.2.1)
  have hsm := HL.out.small
  clear hal
  go_loopw [5] (fun i wr => ∃ k : Nat, i = .int .i64 k ∧ k ≤ nr ∧ Ev w1 wr ∧ Hid ((f.rds.drop k).all (M.shows (M.own f t)) = f.rds.all (M.shows (M.own f t)))) (fun i _ => nr - (intOf i).toNat)
  case atStart => exact ⟨0, rfl, by omega, Ev.refl _, hid rfl⟩
  case round =>
   obtain ⟨k, rfl, hk, hB, HM⟩ := hrel
   obtain ⟨W1, hW1⟩ : ∃ x, x = wr := ⟨_, rfl⟩
   subst hW1
   obtain ⟨y0, y1, y2, y3, y4, y5, y6, y7, y8, y9⟩ := cells10 (hB.heap Q0.out)
   obtain ⟨c0, c1⟩ := cells2 (hB.heap Q1.out)
   have l0 := heap_lt (hB.heap Q0.out)
   have l1 := heap_lt (hB.heap Q1.out)
   have hzB := (hG.trans hB).size
   by_cases hlt : k < nr
   ·
    obtain ⟨b, off, x, hA, hb, hx, hxd, hcc⟩ := HL.out.at_ (hG.trans hB) hlt
    have e0 := hcc 0 _ rfl
    have e1 := hcc 1 _ rfl
    have e2 := hcc 2 _ rfl
    simp only [Nat.add_zero] at e0
    have lb : b < W1.heap.size := by omega
    have hcap := HL.out.cap
    have hrt := HRX.out x (List.mem_of_getElem? hx)
    have hM := HM.out
    rw [hxd, List.all_cons] at hM
    subst hA
    clear hx hxd hcc
    have HSE : Hid (∀ w', Ev W1 w' → (∀ o, w'.cell? ⟨w.heap.size, o, none⟩ = W1.cell? ⟨w.heap.size, o, none⟩) ∧ (∀ o, w'.cell? ⟨w.heap.size + 1, o, none⟩ = W1.cell? ⟨w.heap.size + 1, o, none⟩) ∧ (∀ o, w'.cell? ⟨b, o, none⟩ = W1.cell? ⟨b, o, none⟩)) := hid (fun w' h => ⟨fun o => h.cells.1 _ o l0, fun o => h.cells.1 _ o l1, fun o => h.cells.1 _ o lb⟩)
    cases hsx : M.shows (M.own f t) x with
    | false =>
     rw [hsx] at hM hrt
     have HRT := hid hrt
     have HF := hid (show false = (true && M.right f t) by rw [HRR.out, ← hM]; rfl)
     clear hrt hM hsx
     go_upto_region 6 with fail
     refine wp_region_held_drew (S := fun w' => (∀ o, w'.cell? ⟨w.heap.size, o, none⟩ = W1.cell? ⟨w.heap.size, o, none⟩) ∧ (∀ o, w'.cell? ⟨w.heap.size + 1, o, none⟩ = W1.cell? ⟨w.heap.size + 1, o, none⟩) ∧ (∀ o, w'.cell? ⟨b, o, none⟩ = W1.cell? ⟨b, o, none⟩)) (by kernel_rfl) (⟨fun o => rfl, fun o => rfl, fun o => rfl⟩) (fun hHeld => ?_)
     refine tkH 0 (some 17) ?_
     (try simp only [Act.put, sA, sB, sC])
     refine tkH 1 (some 18) ?_
     (try simp only [Act.put, sA, sB, sC])
     refine tkH 2 (some 19) ?_
     (try simp only [Act.put, sA, sB, sC])
     refine tkH 3 (some 20) ?_
     (try simp only [Act.put, sA, sB, sC])
     refine tkH 4 (some 21) ?_
     (try simp only [Act.put, sA, sB, sC])
     refine tkH 5 (some 22) ?_
     (try simp only [Act.put, sA, sB, sC])
     refine tkH 6 (some 23) ?_
     (try simp only [Act.put, sA, sB, sC])
     refine wpAnyH_one (i := 7) rfl (by kernel_rfl) (by rfl) (fun K hK => ?_)
     go_simp
     refine (HRT.out _ (hG.trans (hB.trans (Ev.drew (Ev.refl _))))).mono ?_
     rintro e x1 ⟨rfl, hb⟩
     have hV1 : Ev W1 x1 := Ev.trans (Ev.drew (Ev.refl _)) hb
     refine hK.out _ _ (HSE.out _ hV1) (fun hHeld => ?_)
     clear hK K
     (try simp only [Act.put, List.setIfInBounds_toArray, List.set_cons_zero, List.set_cons_succ])
     refine tkH 8 (some 25) ?_
     (try simp only [Act.put, sA, sB, sC])
     refine wpAnyH_done (by kernel_rfl) ?_ _
     go_wp2
     go_ret
     exact ⟨ret_bool HF.out, hG.trans (hB.trans hV1)⟩
    | true =>
     rw [hsx, Bool.true_and] at hM
     rw [hsx] at hrt
     have HRT := hid hrt
     have HN := hid hM
     clear hrt hM hsx
     go_upto_region 6 with fail
     refine wp_region_held_drew (S := fun w' => (∀ o, w'.cell? ⟨w.heap.size, o, none⟩ = W1.cell? ⟨w.heap.size, o, none⟩) ∧ (∀ o, w'.cell? ⟨w.heap.size + 1, o, none⟩ = W1.cell? ⟨w.heap.size + 1, o, none⟩) ∧ (∀ o, w'.cell? ⟨b, o, none⟩ = W1.cell? ⟨b, o, none⟩)) (by kernel_rfl) (⟨fun o => rfl, fun o => rfl, fun o => rfl⟩) (fun hHeld => ?_)
     refine tkH 0 (some 17) ?_
     (try simp only [Act.put, sA, sB, sC])
     refine tkH 1 (some 18) ?_
     (try simp only [Act.put, sA, sB, sC])
     refine tkH 2 (some 19) ?_
     (try simp only [Act.put, sA, sB, sC])
     refine tkH 3 (some 20) ?_
     (try simp only [Act.put, sA, sB, sC])
     refine tkH 4 (some 21) ?_
     (try simp only [Act.put, sA, sB, sC])
     refine tkH 5 (some 22) ?_
     (try simp only [Act.put, sA, sB, sC])
     refine tkH 6 (some 23) ?_
     (try simp only [Act.put, sA, sB, sC])
     refine wpAnyH_one (i := 7) rfl (by kernel_rfl) (by rfl) (fun K hK => ?_)
     go_simp
     refine (HRT.out _ (hG.trans (hB.trans (Ev.drew (Ev.refl _))))).mono ?_
     rintro e x1 ⟨rfl, hb⟩
     have hV1 : Ev W1 x1 := Ev.trans (Ev.drew (Ev.refl _)) hb
     refine hK.out _ _ (HSE.out _ hV1) (fun hHeld => ?_)
     clear hK K
     (try simp only [Act.put, List.setIfInBounds_toArray, List.set_cons_zero, List.set_cons_succ])
     refine tkH 8 (some 25) ?_
     (try simp only [Act.put, sA, sB, sC])
     refine wpAnyH_done (by kernel_rfl) ?_ _
     go_wp2
     exact ⟨⟨k + 1, by go_num, by omega, hB.trans hV1, HN⟩, by simp [intOf]; omega⟩
   ·
    have HT := hid (show true = (true && M.right f t) by rw [HRR.out, ← HM.out, HL.out.done (by omega)]; rfl)
    have hn : ¬ ((k : Int) < nr) := by omega
    go_wp2
    go_ret
    exact ⟨ret_bool HT.out, hG.trans hB⟩

end Go.Proofs.Ytgimcephbeajlaa
