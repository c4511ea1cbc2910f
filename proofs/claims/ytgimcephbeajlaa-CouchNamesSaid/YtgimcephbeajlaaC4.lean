import Derived.Test.YtgimcephbeajlaaC3
import Derived.Test.YtgimcephbeajlaaG1
set_option linter.unusedSimpArgs false
set_option linter.unusedVariables false
namespace Go.Proofs.Ytgimcephbeajlaa
open Go.RowKit Go.Shelf

/-- A truth. -/
structure M.Tr where
 st : Int
 wet : List Int
deriving DecidableEq
def M.inAll : List Int → List M.Rg → Bool
 | [], [] => true
 | x :: xs, r :: rs => M.holds r x && M.inAll xs rs
 | _, _ => false
def M.listed (f : M.Cf) (t : M.Tr) : Bool := M.holds f.st t.st && (decide (t.wet.length = f.wet.length) && M.inAll t.wet f.wet)
set_option maxRecDepth 100000 in
set_option maxHeartbeats 4000000 in
theorem isTruth_c (f : M.Cf) (Aw At Ar : Option Addr) (nw cw nt ct nr cr : Nat) (Tw : Option Addr) (tw twc : Nat) (t : M.Tr) (w : World) (hs : CS w w.heap.size f Aw At Ar nw cw nt ct nr cr) (hw : Sl ics 1 w w.heap.size Tw tw twc t.wet) :
  Calls Try.prog 65 #[.agg #[.int .i64 f.last, .int .i64 f.size, .int .i64 f.cool, .int .i64 f.die, .int .i64 f.burn, .int .i64 f.st.lo, .int .i64 f.st.hi, .slice Aw nw cw, .slice At nt ct, .slice Ar nr cr], .agg #[.int .i64 t.st, .slice Tw tw twc]] w fun e w' => e = .returned (.bool (M.listed f t)) ∧ Ev w w' := by
 have q2 := hs.w_.len
 have q4 := hw.len
 have hsm := hw.small
 have hr := hs.w_
 have rsm := hr.small
 have hh : ∀ W, Calls Try.prog 90 #[.agg #[.int .i64 f.st.lo, .int .i64 f.st.hi], .int .i64 t.st] W fun e w' => e = .returned (.bool (M.holds f.st t.st)) ∧ Ev W w' := fun W => holds_e f.st t.st W
 have hal := alloc2 w (.cells #[.int .i64 f.last, .int .i64 f.size, .int .i64 f.cool, .int .i64 f.die, .int .i64 f.burn, .int .i64 f.st.lo, .int .i64 f.st.hi, .slice Aw nw cw, .slice At nt ct, .slice Ar nr cr] 40) (.cells #[.int .i64 t.st, .slice Tw tw twc] 42)
 have HAL := hid hal
 have HD := hid (show M.listed f t = (M.holds f.st t.st && (decide (tw = nw) && M.inAll t.wet f.wet)) by unfold M.listed; rw [q2, q4])
 clear hal hs q2 q4
 cases h0 : M.holds f.st t.st with
 | false =>
  rw [h0] at hh HD
  have HH := hid hh
  clear hh h0 hw hr
  go_enter Try.func65, Try.ntmps65
  go_wp2_with (first | (go_at_call 90; ((with_reducible refine (HH.out _).mono ?_); rintro e w1 ⟨rfl, hb1⟩; obtain ⟨y0, y1, y2, y3, y4, y5, y6, y7, y8, y9⟩ := cells10 (hb1.heap HAL.out.1); obtain ⟨k0, k1⟩ := cells2 (hb1.heap HAL.out.2.1); have HK1 := hid (hb1.heap HAL.out.2.1); have hG1 : Ev w w1 := Ev.trans (Ev.alloc (Ev.alloc (Ev.refl _) _) _) hb1)))
  go_ret
  exact ⟨ret_bool HD.out.symm, hG1⟩
 | true =>
  rw [h0] at hh HD
  have HH := hid hh
  clear hh h0
  by_cases h2 : tw = nw
  ·
   subst h2
   have e2 : ((tw : Int) != (tw : Int)) = false := by simp
   have HD2 := hid (show M.listed f t = M.inAll t.wet f.wet by rw [HD.out]; simp)
   go_enter Try.func65, Try.ntmps65
   go_upto_region 4 with (first | (go_at_call 90; ((with_reducible refine (HH.out _).mono ?_); rintro e w1 ⟨rfl, hb1⟩; obtain ⟨y0, y1, y2, y3, y4, y5, y6, y7, y8, y9⟩ := cells10 (hb1.heap HAL.out.1); obtain ⟨k0, k1⟩ := cells2 (hb1.heap HAL.out.2.1); have HK1 := hid (hb1.heap HAL.out.2.1); have hG1 : Ev w w1 := Ev.trans (Ev.alloc (Ev.alloc (Ev.refl _) _) _) hb1)))
   generalize f.wet = rs at hr HD2
   generalize t.wet = ns at hw HD2
   go_loopw [25] (fun i wr => ∃ k : Nat, i = .int .i64 k ∧ k ≤ tw ∧ Ev w1 wr ∧ Hid (M.inAll (ns.drop k) (rs.drop k) = M.inAll ns rs)) (fun i _ => tw - (intOf i).toNat)
   case atStart => exact ⟨0, rfl, by omega, Ev.refl _, hid rfl⟩
   case round =>
    obtain ⟨k, rfl, hk, hB, hall⟩ := hrel
    have hBw := hG1.trans hB
    by_cases hlt : k < tw
    ·
     obtain ⟨b, off, r, rfl, hb, hx, hd, hc⟩ := hr.at_ hBw hlt
     have e0 := hc 0 _ rfl
     have e1 := hc 1 _ rfl
     simp only [Nat.add_zero] at e0
     obtain ⟨b', off', x, rfl, hb', hx', hd', e3⟩ := hw.int hBw hlt
     have hcap := hr.cap
     have hcap' := hw.cap
     have k0' : (0 : Int) ≤ k := by omega
     have kN : (k : Int) < tw := by omega
     have H := hid hd
     have H' := hid hd'
     have HKr := hid (hB.heap HK1.out)
     clear hd hd' hx hx' hc k0 k1
     have hcon : ∀ W, Calls Try.prog 90 #[.agg #[.int .i64 r.lo, .int .i64 r.hi], .int .i64 x] W fun e w' => e = .returned (.bool (M.holds r x)) ∧ Ev W w' := fun W => holds_e r x W
     cases hv : M.holds r x
     all_goals (
      rw [hv] at hcon
      have HC := hid hcon
      have HV := hid hv
      clear hcon hv
      go_upto_region 6 with fail
      generalize hW0 : World.alloc wr _ = W0
      have hE0 : Ev wr W0 := by rw [← hW0]; exact Ev.alloc (Ev.refl _) _
      have hal := (alloc1 wr (.cells #[.int .i64 r.lo, .int .i64 r.hi] 36)).1
      rw [hW0] at hal
      obtain ⟨z0, z1⟩ := cells2 hal
      have HK0 := hid (hE0.heap HKr.out)
      obtain ⟨k0, k1⟩ := cells2 HK0.out
      have e4 := (hE0.cells.1 b' (off' + k) (by have := hBw.size; omega)).trans e3
      have l1 := heap_lt hal
      have l2 : b' < W0.heap.size := by have := hBw.size; have := hE0.size; omega
      have l3 := heap_lt HK0.out
      clear hW0 hal
      have HSE : Hid (∀ w', Ev W0 w' → (∀ o, w'.cell? ⟨wr.heap.size, o, none⟩ = W0.cell? ⟨wr.heap.size, o, none⟩) ∧ (∀ o, w'.cell? ⟨b', o, none⟩ = W0.cell? ⟨b', o, none⟩) ∧ (∀ o, w'.cell? ⟨(w.heap.size + 1), o, none⟩ = W0.cell? ⟨(w.heap.size + 1), o, none⟩)) := hid (fun w' h => ⟨fun o => h.cells.1 _ o l1, fun o => h.cells.1 _ o l2, fun o => h.cells.1 _ o l3⟩)
      refine wp_region_held_drew (S := fun w' => (∀ o, w'.cell? ⟨wr.heap.size, o, none⟩ = W0.cell? ⟨wr.heap.size, o, none⟩) ∧ (∀ o, w'.cell? ⟨b', o, none⟩ = W0.cell? ⟨b', o, none⟩) ∧ (∀ o, w'.cell? ⟨(w.heap.size + 1), o, none⟩ = W0.cell? ⟨(w.heap.size + 1), o, none⟩)) (by kernel_rfl) (⟨fun o => rfl, fun o => rfl, fun o => rfl⟩) (fun hHeld => ?_)
      refine tkH 0 (some 30) ?_
      (try simp only [Act.put, sA, sB, sC])
      refine tkH 1 (some 31) ?_
      (try simp only [Act.put, sA, sB, sC])
      refine tkH 2 (some 32) ?_
      (try simp only [Act.put, sA, sB, sC])
      refine tkH 3 (some 33) ?_
      (try simp only [Act.put, sA, sB, sC])
      refine tkH 4 (some 34) ?_
      (try simp only [Act.put, sA, sB, sC])
      refine tkH 5 (some 35) ?_
      (try simp only [Act.put, sA, sB, sC])
      refine wpAnyH_one (i := 6) rfl (by kernel_rfl) (by rfl) (fun K hK => ?_)
      go_simp
      refine (HC.out _).mono ?_
      rintro e w3 ⟨rfl, hb3⟩
      have hE3 : Ev W0 w3 := Ev.trans (Ev.drew (Ev.refl _)) hb3
      refine hK.out _ _ (HSE.out _ hE3) (fun hHeld => ?_)
      clear hK K
      (try simp only [Act.put, List.setIfInBounds_toArray, List.set_cons_zero, List.set_cons_succ])
      refine tkH 7 (some 37) ?_
      (try simp only [Act.put, sA, sB, sC])
      refine wpAnyH_done (by kernel_rfl) ?_ _
      go_wp2_with fail
      )
     ·
      go_ret
      exact ⟨ret_bool (by rw [HD2.out, ← hall.out, H.out, H'.out, M.inAll, HV.out, Bool.false_and]), hBw.trans (hE0.trans hE3)⟩
     ·
      exact ⟨⟨k + 1, by go_num, by omega, hB.trans (hE0.trans hE3), hid (by rw [← hall.out, H.out, H'.out, M.inAll, HV.out, Bool.true_and])⟩, by simp [intOf]; omega⟩
    ·
     have H := hid (hw.done hlt)
     have H' := hid (hr.done hlt)
     go_wp2
     go_ret
     exact ⟨ret_bool (by rw [HD2.out, ← hall.out, H.out, H'.out]; rfl), hBw⟩
  ·
   have e2 : ((tw : Int) != (nw : Int)) = true := by simpa using (show ¬ (tw : Int) = nw by omega)
   have HD2 := hid (show M.listed f t = false by rw [HD.out]; simp [h2])
   clear hw hr h2
   go_enter Try.func65, Try.ntmps65
   go_wp2_with (first | (go_at_call 90; ((with_reducible refine (HH.out _).mono ?_); rintro e w1 ⟨rfl, hb1⟩; obtain ⟨y0, y1, y2, y3, y4, y5, y6, y7, y8, y9⟩ := cells10 (hb1.heap HAL.out.1); obtain ⟨k0, k1⟩ := cells2 (hb1.heap HAL.out.2.1); have HK1 := hid (hb1.heap HAL.out.2.1); have hG1 : Ev w w1 := Ev.trans (Ev.alloc (Ev.alloc (Ev.refl _) _) _) hb1)))
   go_ret
   exact ⟨ret_bool HD2.out.symm, hG1⟩

def M.shows (st : List Int) (x : M.Rd) : Bool := M.holds ⟨x.sn - x.er, x.sn + x.er⟩ (st.getD x.hr.toNat 0)
set_option maxRecDepth 100000 in
set_option maxHeartbeats 2000000 in
theorem show_c (a0 a1 a2 a3 a4 a5 a6 a7 a8 a9 : Int) (x : M.Rd) (hx : (0 ≤ x.hr ∧ x.hr ≤ 9) ∧ (0 ≤ x.sn ∧ x.sn ≤ 1000) ∧ 0 ≤ x.er ∧ x.er ≤ 50) (w : World) :
  Calls Try.prog 97 #[.agg #[.int .i64 a0, .int .i64 a1, .int .i64 a2, .int .i64 a3, .int .i64 a4, .int .i64 a5, .int .i64 a6, .int .i64 a7, .int .i64 a8, .int .i64 a9], .agg #[.int .i64 x.hr, .int .i64 x.sn, .int .i64 x.er]] w fun e w' => e = .returned (.bool (M.shows [a0, a1, a2, a3, a4, a5, a6, a7, a8, a9] x)) ∧ Ev w w' := by
 obtain ⟨⟨h0, h9⟩, ⟨s0, s1⟩, r0, r1⟩ := hx
 obtain ⟨k, hk⟩ := Int.eq_ofNat_of_zero_le h0
 have HD := hid (show M.shows [a0, a1, a2, a3, a4, a5, a6, a7, a8, a9] x = M.holds ⟨x.sn - x.er, x.sn + x.er⟩ ([a0, a1, a2, a3, a4, a5, a6, a7, a8, a9].getD k 0) by unfold M.shows; rw [hk]; rfl)
 have hk10 : k < 10 := by omega
 have hx : [a0, a1, a2, a3, a4, a5, a6, a7, a8, a9][k]? = some ([a0, a1, a2, a3, a4, a5, a6, a7, a8, a9].getD k 0) := by
  rw [List.getD_eq_getElem?_getD, List.getElem?_eq_getElem (by simpa using hk10)]; rfl
 generalize [a0, a1, a2, a3, a4, a5, a6, a7, a8, a9].getD k 0 = v at hx HD
 have hh : ∀ W, Calls Try.prog 90 #[.agg #[.int .i64 (x.sn - x.er), .int .i64 (x.sn + x.er)], .int .i64 v] W fun e w' => e = .returned (.bool (M.holds ⟨x.sn - x.er, x.sn + x.er⟩ v)) ∧ Ev W w' := fun W => holds_e ⟨x.sn - x.er, x.sn + x.er⟩ v W
 have HH := hid hh
 have hxa : (#[.int .i64 a0, .int .i64 a1, .int .i64 a2, .int .i64 a3, .int .i64 a4, .int .i64 a5, .int .i64 a6, .int .i64 a7, .int .i64 a8, .int .i64 a9] : Array Value)[k]? = some (.int .i64 v) := by
  have : (#[.int .i64 a0, .int .i64 a1, .int .i64 a2, .int .i64 a3, .int .i64 a4, .int .i64 a5, .int .i64 a6, .int .i64 a7, .int .i64 a8, .int .i64 a9] : Array Value) = ([a0, a1, a2, a3, a4, a5, a6, a7, a8, a9].map (Value.int .i64)).toArray := rfl
  rw [this]; simp only [List.getElem?_toArray, List.getElem?_map, hx]; rfl
 rw [hk]
 have k10 : (k : Int) < 10 := by omega
 have k0 : (0 : Int) ≤ k := by omega
 have HX := hid hxa
 have g1 : IntKind.i64.wrap (x.sn - x.er) = x.sn - x.er := IntWalk.i64_in _ (by omega)
 have g2 : IntKind.i64.wrap (x.sn + x.er) = x.sn + x.er := IntWalk.i64_in _ (by omega)
 clear hx hxa hk h0 h9 hh
 go_enter Try.func97, Try.ntmps97
 go_upto_region 2 with fail
 generalize hW0 : World.alloc _ _ = W0
 have hal := alloc3 w (.cells #[.int .i64 a0, .int .i64 a1, .int .i64 a2, .int .i64 a3, .int .i64 a4, .int .i64 a5, .int .i64 a6, .int .i64 a7, .int .i64 a8, .int .i64 a9] 109) (.cells #[.int .i64 k, .int .i64 x.sn, .int .i64 x.er] 79) (.cells #[.int .i64 (x.sn - x.er), .int .i64 (x.sn + x.er)] 36)
 have hE0 : Ev w W0 := by rw [← hW0]; exact Ev.alloc (Ev.alloc (Ev.alloc (Ev.refl _) _) _) _
 rw [hW0] at hal
 have c0 := (cell_in hal.1 k).trans HX.out
 obtain ⟨y0, y1, y2⟩ := cells3 hal.2.1
 obtain ⟨n0, n1⟩ := cells2 hal.2.2.1
 have l1 := heap_lt hal.1
 have l2 := heap_lt hal.2.1
 have l3 := heap_lt hal.2.2.1
 clear hW0 hal
 have HSE : Hid (∀ w', Ev W0 w' → (∀ o, w'.cell? ⟨w.heap.size, o, none⟩ = W0.cell? ⟨w.heap.size, o, none⟩) ∧ (∀ o, w'.cell? ⟨(w.heap.size + 1), o, none⟩ = W0.cell? ⟨(w.heap.size + 1), o, none⟩) ∧ (∀ o, w'.cell? ⟨(w.heap.size + 1 + 1), o, none⟩ = W0.cell? ⟨(w.heap.size + 1 + 1), o, none⟩)) := hid (fun w' h => ⟨fun o => h.cells.1 _ o l1, fun o => h.cells.1 _ o l2, fun o => h.cells.1 _ o l3⟩)
 refine wp_region_held_drew (S := fun w' => (∀ o, w'.cell? ⟨w.heap.size, o, none⟩ = W0.cell? ⟨w.heap.size, o, none⟩) ∧ (∀ o, w'.cell? ⟨(w.heap.size + 1), o, none⟩ = W0.cell? ⟨(w.heap.size + 1), o, none⟩) ∧ (∀ o, w'.cell? ⟨(w.heap.size + 1 + 1), o, none⟩ = W0.cell? ⟨(w.heap.size + 1 + 1), o, none⟩)) (by kernel_rfl) (⟨fun o => rfl, fun o => rfl, fun o => rfl⟩) (fun hHeld => ?_)
 refine tkH 0 (some 17) ?_
 (try simp only [Act.put, sA, sB, sC])
 refine tkH 1 (some 18) ?_
 (try simp only [Act.put, sA, sB, sC])
 refine tkH 2 (some 19) ?_
 (try simp only [Act.put, sA, sB, sC])
 refine tkH 3 (some 20) ?_
 (try simp only [Act.put, sA, sB, sC])
 refine tkH 4 (some 21) ?_
 (try simp only [Act.put, sA, sB, sC])
 refine wpAnyH_one (i := 5) rfl (by kernel_rfl) (by rfl) (fun K hK => ?_)
 go_simp
 refine (HH.out _).mono ?_
 rintro e w3 ⟨rfl, hb3⟩
 have hE3 : Ev W0 w3 := Ev.trans (Ev.drew (Ev.refl _)) hb3
 refine hK.out _ _ (HSE.out _ hE3) (fun hHeld => ?_)
 clear hK K
 (try simp only [Act.put, List.setIfInBounds_toArray, List.set_cons_zero, List.set_cons_succ])
 refine tkH 6 (some 4) ?_
 (try simp only [Act.put, sA, sB, sC])
 refine wpAnyH_done (by kernel_rfl) ?_ _
 go_wp2_with fail
 go_ret
 exact ⟨ret_bool HD.out.symm, hE0.trans hE3⟩

set_option maxRecDepth 100000 in
set_option maxHeartbeats 1000000 in
theorem allShow_c (a0 a1 a2 a3 a4 a5 a6 a7 a8 a9 : Int) (A : Option Addr) (n c : Nat) (xs : List M.Rd) (hxs : ∀ x ∈ xs, (0 ≤ x.hr ∧ x.hr ≤ 9) ∧ (0 ≤ x.sn ∧ x.sn ≤ 1000) ∧ 0 ≤ x.er ∧ x.er ≤ 50) (w : World) (hs : Sl rdc 3 w w.heap.size A n c xs) :
  Calls Try.prog 96 #[.slice A n c, .func (.func 97) #[.agg #[.int .i64 a0, .int .i64 a1, .int .i64 a2, .int .i64 a3, .int .i64 a4, .int .i64 a5, .int .i64 a6, .int .i64 a7, .int .i64 a8, .int .i64 a9]] #[]] w fun e w' => e = .returned (.bool (xs.all (M.shows [a0, a1, a2, a3, a4, a5, a6, a7, a8, a9]))) ∧ Ev w w' := by
 have hsm := hs.small
 have HXS := hid hxs
 clear hxs
 go_enter Try.func96, Try.ntmps96
 go_wp2
 go_loopw [9] (fun i wr => ∃ k : Nat, i = .int .i64 k ∧ k ≤ n ∧ Ev w wr ∧ Hid ((xs.drop k).all (M.shows [a0, a1, a2, a3, a4, a5, a6, a7, a8, a9]) = xs.all (M.shows [a0, a1, a2, a3, a4, a5, a6, a7, a8, a9]))) (fun i _ => n - (intOf i).toNat)
 case atStart => exact ⟨0, rfl, by omega, Ev.refl _, hid rfl⟩
 case round =>
  obtain ⟨k, rfl, hk, hB, hall⟩ := hrel
  by_cases hlt : k < n
  ·
   obtain ⟨b, off, x, rfl, hb, hx, hd, hcc⟩ := hs.at_ hB hlt
   have e0 := hcc 0 _ rfl
   have e1 := hcc 1 _ rfl
   have e2 := hcc 2 _ rfl
   simp only [Nat.add_zero] at e0
   have hcap := hs.cap
   have H := hid hd
   have hw2 := HXS.out x (List.mem_of_getElem? hx)
   clear hd hx hcc
   have hcon := fun W => show_c a0 a1 a2 a3 a4 a5 a6 a7 a8 a9 x hw2 W
   cases hv : (M.shows [a0, a1, a2, a3, a4, a5, a6, a7, a8, a9]) x with
   | true =>
    rw [hv] at hcon
    have HC := hid hcon
    have HV := hid hv
    clear hcon hv hw2
    go_wp2_with (go_at_call 97; with_reducible refine (HC.out _).mono ?_; rintro e w1 ⟨rfl, hb1⟩)
    refine ⟨⟨k + 1, by go_num, by omega, by first | exact hB.trans hb1 | exact hB.trans (Ev.trans (Ev.alloc (Ev.refl _) _) hb1), ?_⟩, by simp [intOf]; omega⟩
    exact hid (by rw [← hall.out, H.out, List.all_cons, HV.out, Bool.true_and])
   | false =>
    rw [hv] at hcon
    have HC := hid hcon
    have HV := hid hv
    clear hcon hv hw2
    go_wp2_with (go_at_call 97; with_reducible refine (HC.out _).mono ?_; rintro e w1 ⟨rfl, hb1⟩)
    go_ret
    exact ⟨ret_bool (by rw [← hall.out, H.out, List.all_cons, HV.out, Bool.false_and]), by first | exact hB.trans hb1 | exact hB.trans (Ev.trans (Ev.alloc (Ev.refl _) _) hb1)⟩
  ·
   have H := hid (hs.done hlt)
   go_wp2
   go_ret
   exact ⟨ret_bool (by rw [← hall.out, H.out]; rfl), hB⟩

set_option maxRecDepth 100000 in
set_option maxHeartbeats 1000000 in
theorem showAll_c (a0 a1 a2 a3 a4 a5 a6 a7 a8 a9 : Int) (A : Option Addr) (n c : Nat) (xs : List M.Rd) (hxs : ∀ x ∈ xs, (0 ≤ x.hr ∧ x.hr ≤ 9) ∧ (0 ≤ x.sn ∧ x.sn ≤ 1000) ∧ 0 ≤ x.er ∧ x.er ≤ 50) (w : World) (hs : Sl rdc 3 w w.heap.size A n c xs) :
  Calls Try.prog 69 #[.agg #[.int .i64 a0, .int .i64 a1, .int .i64 a2, .int .i64 a3, .int .i64 a4, .int .i64 a5, .int .i64 a6, .int .i64 a7, .int .i64 a8, .int .i64 a9], .slice A n c] w fun e w' => e = .returned (.bool (xs.all (M.shows [a0, a1, a2, a3, a4, a5, a6, a7, a8, a9]))) ∧ Ev w w' := by
 have HA := hid (fun W (hE : Ev w W) => allShow_c a0 a1 a2 a3 a4 a5 a6 a7 a8 a9 A n c xs hxs W (hs.ev hE))
 generalize xs.all (M.shows [a0, a1, a2, a3, a4, a5, a6, a7, a8, a9]) = r at HA
 clear hs hxs
 go_enter Try.func69, Try.ntmps69
 go_wp2_with (go_at_call 96; with_reducible refine (HA.out _ (Ev.alloc (Ev.refl _) _)).mono ?_; rintro e w1 ⟨rfl, hb1⟩)
 go_ret
 exact ⟨rfl, Ev.trans (Ev.alloc (Ev.refl _) _) hb1⟩

end Go.Proofs.Ytgimcephbeajlaa
