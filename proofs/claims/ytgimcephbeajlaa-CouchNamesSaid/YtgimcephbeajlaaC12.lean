import Derived.Test.YtgimcephbeajlaaC11
set_option linter.unusedSimpArgs false
set_option linter.unusedVariables false
namespace Go.Proofs.Ytgimcephbeajlaa
open Go.RowKit Go.Shelf

/-- The heap is lost at this heat; the turnings keep the heap in a truth. -/
def M.isLost (f : M.Cf) (x : Int) : Bool := decide (f.burn < x) || decide (x < f.die)
def M.stays (f : M.Cf) (t : M.Tr) (plan : List Int) : Bool := !(((M.heats f t plan).take f.wet.length).any (M.isLost f))
theorem slice_arr (q h : Nat) (hh : h ≤ 10) (wx : World) : (Instr.sliceAt 109 (.pointer (some ⟨q, 0, none⟩)) none (some (.int .i64 (h : Int))) none).run Try.prog wx = .ok (.slice (some ⟨q, 0, none⟩) h 10) wx := by
 have he : Try.prog.elem 109 = 3 := by kernel_rfl
 have hl : Try.prog.arrayLen 109 = 10 := by kernel_rfl
 have hu : Try.prog.underlying 109 = some (.array (Try.prog.arrayLen 109) (Try.prog.elem 109)) := by rw [he, hl]; exact Try.underlying109
 rw [run_sliceAt_array_h wx 109 _ hu .i64 h (by omega) (by rw [hl]; omega), he, hl, Try.sizeOf3]
 simp only [Result.andThen_ok, slicedAt, Int.toNat_natCast, Nat.sub_zero]
 simp [Addr.add]

set_option maxRecDepth 100000 in
set_option maxHeartbeats 1000000 in
theorem burns_c (f : M.Cf) (Aw At Ar : Option Addr) (nw cw nt ct nr cr : Nat) (x : Int) (w : World) :
  Calls Try.prog 107 #[.agg #[.int .i64 f.last, .int .i64 f.size, .int .i64 f.cool, .int .i64 f.die, .int .i64 f.burn, .int .i64 f.st.lo, .int .i64 f.st.hi, .slice Aw nw cw, .slice At nt ct, .slice Ar nr cr], .int .i64 x] w fun e w' => e = .returned (.bool (decide (f.burn < x))) ∧ Ev w w' := by
 go_enter Try.func107, Try.ntmps107
 go_wp2
 all_goals (go_ret; exact ⟨ret_bool (by first | rfl | (simp only [*]; simp; done) | (simp; omega)), Ev.alloc (Ev.refl _) _⟩)

set_option maxRecDepth 100000 in
set_option maxHeartbeats 1000000 in
theorem dies_c (f : M.Cf) (Aw At Ar : Option Addr) (nw cw nt ct nr cr : Nat) (x : Int) (w : World) :
  Calls Try.prog 108 #[.agg #[.int .i64 f.last, .int .i64 f.size, .int .i64 f.cool, .int .i64 f.die, .int .i64 f.burn, .int .i64 f.st.lo, .int .i64 f.st.hi, .slice Aw nw cw, .slice At nt ct, .slice Ar nr cr], .int .i64 x] w fun e w' => e = .returned (.bool (decide (x < f.die))) ∧ Ev w w' := by
 go_enter Try.func108, Try.ntmps108
 go_wp2
 all_goals (go_ret; exact ⟨ret_bool (by first | rfl | (simp only [*]; simp; done) | (simp; omega)), Ev.alloc (Ev.refl _) _⟩)

set_option maxRecDepth 100000 in
set_option maxHeartbeats 1000000 in
theorem isLost_c (f : M.Cf) (Aw At Ar : Option Addr) (nw cw nt ct nr cr : Nat) (x : Int) (w : World) :
  Calls Try.prog 124 #[.agg #[.int .i64 f.last, .int .i64 f.size, .int .i64 f.cool, .int .i64 f.die, .int .i64 f.burn, .int .i64 f.st.lo, .int .i64 f.st.hi, .slice Aw nw cw, .slice At nt ct, .slice Ar nr cr], .int .i64 x] w fun e w' => e = .returned (.bool (M.isLost f x)) ∧ Ev w w' := by
 have h0 := fun W => burns_c f Aw At Ar nw cw nt ct nr cr x W
 have h1 := fun W => dies_c f Aw At Ar nw cw nt ct nr cr x W
 have HD := hid (show M.isLost f x = (decide (f.burn < x) || decide (x < f.die)) from rfl)
 generalize decide (f.burn < x) = a at h0 HD
 generalize decide (x < f.die) = b at h1 HD
 have H0 := hid h0
 have H1 := hid h1
 clear h0 h1
 cases a
 ·
  go_enter Try.func124, Try.ntmps124
  go_wp2_with (first | (go_at_call 107; with_reducible refine (H0.out _).mono ?_; rintro e w1 ⟨rfl, hb1⟩; have hG : Ev w w1 := Ev.trans (Ev.alloc (Ev.refl _) _) hb1; obtain ⟨y0, y1, y2, y3, y4, y5, y6, y7, y8, y9⟩ := cells10 (hb1.heap (alloc1 w (.cells #[.int .i64 f.last, .int .i64 f.size, .int .i64 f.cool, .int .i64 f.die, .int .i64 f.burn, .int .i64 f.st.lo, .int .i64 f.st.hi, .slice Aw nw cw, .slice At nt ct, .slice Ar nr cr] 40)).1)) | (go_at_call 108; with_reducible refine (H1.out _).mono ?_; rintro e w2 ⟨rfl, hb2⟩; replace hG := hG.trans hb2))
  go_ret
  exact ⟨ret_bool HD.out.symm, hG⟩
 ·
  go_enter Try.func124, Try.ntmps124
  go_wp2_with (first | (go_at_call 107; with_reducible refine (H0.out _).mono ?_; rintro e w1 ⟨rfl, hb1⟩; have hG : Ev w w1 := Ev.trans (Ev.alloc (Ev.refl _) _) hb1; obtain ⟨y0, y1, y2, y3, y4, y5, y6, y7, y8, y9⟩ := cells10 (hb1.heap (alloc1 w (.cells #[.int .i64 f.last, .int .i64 f.size, .int .i64 f.cool, .int .i64 f.die, .int .i64 f.burn, .int .i64 f.st.lo, .int .i64 f.st.hi, .slice Aw nw cw, .slice At nt ct, .slice Ar nr cr] 40)).1)))
  go_ret
  exact ⟨ret_bool HD.out.symm, hG⟩

set_option maxRecDepth 100000 in
set_option maxHeartbeats 1000000 in
theorem idxLost_c (f : M.Cf) (Aw At Ar : Option Addr) (nw cw nt ct nr cr : Nat) (A : Option Addr) (n c : Nat) (xs : List Int) (w : World) (hs : Sl ics 1 w w.heap.size A n c xs) :
  Calls Try.prog 134 #[.slice A n c, .func (.func 124) #[.agg #[.int .i64 f.last, .int .i64 f.size, .int .i64 f.cool, .int .i64 f.die, .int .i64 f.burn, .int .i64 f.st.lo, .int .i64 f.st.hi, .slice Aw nw cw, .slice At nt ct, .slice Ar nr cr]] #[]] w fun e w' => e = .returned (.int .i64 (M.idxg (M.isLost f) xs 0)) ∧ Ev w w' := by
 have hsm := hs.small
 go_enter Try.func134, Try.ntmps134
 go_wp2
 go_loopw [8] (fun i wr => ∃ k : Nat, i = .int .i64 k ∧ k ≤ n ∧ Ev w wr ∧ Hid (M.idxg (M.isLost f) (xs.drop k) k = M.idxg (M.isLost f) xs 0)) (fun i _ => n - (intOf i).toNat)
 case atStart => exact ⟨0, rfl, by omega, Ev.refl _, hid (by simp)⟩
 case round =>
  obtain ⟨k, rfl, hk, hB, hp⟩ := hrel
  by_cases hlt : k < n
  ·
   obtain ⟨b, off, x, rfl, hb, hx, hd, e0⟩ := hs.int hB hlt
   have hcap := hs.cap
   have H := hid hd
   have hcon := fun W => isLost_c f Aw At Ar nw cw nt ct nr cr x W
   have k0 : (0 : Int) ≤ k := by omega
   have kn : (k : Int) < n := by omega
   clear hx hd
   cases hv : M.isLost f x with
   | true =>
    rw [hv] at hcon
    have HC := hid hcon
    have HV := hid hv
    clear hcon hv
    go_wp2_with (go_at_call 124; with_reducible refine (HC.out _).mono ?_; rintro e w1 ⟨rfl, hb1⟩)
    go_ret
    exact ⟨ret_int (by rw [← hp.out, H.out]; simp only [M.idxg]; rw [if_pos HV.out]), hB.trans hb1⟩
   | false =>
    rw [hv] at hcon
    have HC := hid hcon
    have HV := hid hv
    clear hcon hv
    go_wp2_with (go_at_call 124; with_reducible refine (HC.out _).mono ?_; rintro e w1 ⟨rfl, hb1⟩)
    refine ⟨⟨k + 1, by go_num, by omega, hB.trans hb1, hid ?_⟩, by simp [intOf]; omega⟩
    rw [← hp.out, H.out]; simp only [M.idxg]; rw [if_neg (by rw [HV.out]; decide)]; simp
  ·
   have H := hid (hs.done hlt)
   go_wp2
   go_ret
   exact ⟨ret_int (by rw [← hp.out, H.out]; rfl), hB⟩

set_option maxRecDepth 100000 in
set_option maxHeartbeats 1000000 in
theorem conLost_c (f : M.Cf) (Aw At Ar : Option Addr) (nw cw nt ct nr cr : Nat) (A : Option Addr) (n c : Nat) (xs : List Int) (w : World) (hs : Sl ics 1 w w.heap.size A n c xs) :
  Calls Try.prog 123 #[.slice A n c, .func (.func 124) #[.agg #[.int .i64 f.last, .int .i64 f.size, .int .i64 f.cool, .int .i64 f.die, .int .i64 f.burn, .int .i64 f.st.lo, .int .i64 f.st.hi, .slice Aw nw cw, .slice At nt ct, .slice Ar nr cr]] #[]] w fun e w' => e = .returned (.bool (xs.any (M.isLost f))) ∧ Ev w w' := by
 have HC := hid (idxLost_c f Aw At Ar nw cw nt ct nr cr A n c xs w hs)
 have HA := hid (M.idxg_any (M.isLost f) xs 0 (by omega))
 clear hs
 go_enter Try.func123, Try.ntmps123
 go_wp2_with (go_at_call 134; with_reducible refine HC.out.mono ?_; rintro e w1 ⟨rfl, hb1⟩)
 go_ret
 exact ⟨ret_bool HA.out, hb1⟩

set_option maxRecDepth 100000 in
set_option maxHeartbeats 4000000 in
theorem isKept_c (f : M.Cf) (Aw At Ar : Option Addr) (nw cw nt ct nr cr : Nat) (Ts Ss : Option Addr) (ns cs ms ds p mb : Nat) (Tw : Option Addr) (tw twc : Nat) (t : M.Tr) (P : Option Addr) (pn pc : Nat) (plan : List Int) (b0 : Nat) (ts : List M.Tr) (ss : List (List Int)) (h0 : M.check f = 0) (htr : M.listed f t = true) (w : World) (hw : Wc w f Aw At Ar nw cw nt ct nr cr Ts Ss ns cs ms ds p mb b0 ts ss)
  (hwt : Sl ics 1 w w.heap.size Tw tw twc t.wet) (hp : Sl ics 1 w w.heap.size P pn pc plan) :
  Calls Try.prog 106 #[.pointer (some ⟨p, 0, none⟩), .agg #[.int .i64 t.st, .slice Tw tw twc], .slice P pn pc] w fun e w' => e = .returned (.bool (M.stays f t plan)) ∧ Wc w' f Aw At Ar nw cw nt ct nr cr Ts Ss ns cs ms ds p mb b0 ts ss ∧ Mo mb w w' := by
 have hE1 : Ev w (w.alloc (.cells #[.int .i64 t.st, .slice Tw tw twc] 42)) := Ev.alloc (Ev.refl _) _
 have hcon := play_w f Aw At Ar nw cw nt ct nr cr Ts Ss ns cs ms ds p mb Tw tw twc t P pn pc plan b0 ts ss h0 htr _ (hw.ev hE1) (hwt.ev hE1) (hp.ev hE1)
 have hvp := M.valid_parts (M.check0 h0).2.2.1
 have hl9 := (M.check0 h0).1
 have hnw : (nw : Int) = f.last + 1 := by have := hw.fd.w_.len; omega
 have hwl : f.wet.length = nw := hw.fd.w_.len
 have hnw10 : nw ≤ 10 := by omega
 have s0 : IntKind.i64.wrap (f.last + 1) = (nw : Int) := by rw [← hnw]; exact IntWalk.i64_in _ (by omega)
 have hln : (M.heats f t plan).length = 10 := M.heats_len (by have := M.listed_bd (M.check0 h0).2.2.1 htr; omega)
 have HKD := hid (show M.stays f t plan = !(((M.heats f t plan).take nw).any (M.isLost f)) by unfold M.stays; rw [hwl])
 obtain ⟨a0, a1, a2, a3, a4, a5, a6, a7, a8, a9, hwt2⟩ := list10 hln
 rw [hwt2] at hcon HKD
 simp only [sv, List.map_cons, List.map_nil] at hcon
 have HP2 := hid hcon
 have hBw := hw.bd
 clear hcon hvp hl9 hnw hln hwt2 hwl hw hwt hp h0 htr
 go_enter Try.func106, Try.ntmps106
 go_upto_region 2 with (go_at_call 68; refine HP2.out.mono ?_; rintro e w1 ⟨rfl, hw1, hm1⟩)
 generalize hW0 : World.alloc w1 _ = W0
 have hE0 : Ev w1 W0 := by rw [← hW0]; exact Ev.alloc (Ev.refl _) _
 have hal := (alloc1 w1 (.cells #[.int .i64 a0, .int .i64 a1, .int .i64 a2, .int .i64 a3, .int .i64 a4, .int .i64 a5, .int .i64 a6, .int .i64 a7, .int .i64 a8, .int .i64 a9] 109)).1
 rw [hW0] at hal
 have HW0 := hid (hw1.ev hE0)
 have HMO := hid ((Mo.ev hE1).trans hm1)
 have g1 := fun wx => slice_arr w1.heap.size nw hnw10 wx
 have hsl := (sl_block (enc := ics) (n := 10) (xs := [a0, a1, a2, a3, a4, a5, a6, a7, a8, a9]) (by decide) (ics_len _) (by omega) rfl hal).take hnw10
 have HCL := hid (fun W (hE : Ev W0 W) => conLost_c f Aw At Ar nw cw nt ct nr cr (some ⟨w1.heap.size, 0, none⟩) nw 10 ([a0, a1, a2, a3, a4, a5, a6, a7, a8, a9].take nw) W (hsl.ev hE))
 generalize ([a0, a1, a2, a3, a4, a5, a6, a7, a8, a9].take nw).any (M.isLost f) = r at HCL HKD
 obtain ⟨k0, k1, k2, k3, k4, k5, k6, k7, k8, k9, k10, k11, k12⟩ := cells13 HW0.out.hd
 have lp := heap_lt HW0.out.hd
 clear hal hW0 hsl
 have HSE : Hid (∀ w', Ev W0 w' → (∀ o, w'.cell? ⟨p, o, none⟩ = W0.cell? ⟨p, o, none⟩)) := hid (fun w' h => fun o => h.cells.1 _ o lp)
 refine wp_region_held_drew (S := fun w' => (∀ o, w'.cell? ⟨p, o, none⟩ = W0.cell? ⟨p, o, none⟩)) (by kernel_rfl) (fun o => rfl) (fun hHeld => ?_)
 refine tkH 0 (some 12) ?_
 (try simp only [Act.put, sA, sB, sC])
 refine tkH 1 (some 13) ?_
 (try simp only [Act.put, sA, sB, sC])
 refine tkH 2 (some 14) ?_
 (try simp only [Act.put, sA, sB, sC])
 refine tkH 3 (some 15) ?_
 (try simp only [Act.put, sA, sB, sC])
 refine tkH 4 (some 16) ?_
 (try simp only [Act.put, sA, sB, sC])
 refine tkH 5 (some 17) ?_
 (try simp only [Act.put, sA, sB, sC])
 refine tkH 6 (some 18) ?_
 (try simp only [Act.put, sA, sB, sC])
 refine tkH 7 (some 19) ?_
 (try simp only [Act.put, sA, sB, sC])
 refine tkH 8 (some 20) ?_
 (try simp only [Act.put, sA, sB, sC])
 refine tkH 9 (some 21) ?_
 (try simp only [Act.put, sA, sB, sC])
 refine tkH 10 (some 22) ?_
 (try simp only [Act.put, sA, sB, sC])
 refine wpAnyH_one (i := 11) rfl (by kernel_rfl) (by rfl) (fun K hK => ?_)
 go_simp
 refine hK.out _ _ (HSE.out _ (Ev.drew (Ev.refl _))) (fun hHeld => ?_)
 clear hK K
 (try simp only [Act.put, List.setIfInBounds_toArray, List.set_cons_zero, List.set_cons_succ])
 refine wpAnyH_one (i := 12) rfl (by kernel_rfl) (by rfl) (fun K hK => ?_)
 go_simp
 refine (HCL.out _ (Ev.drew (Ev.refl _))).mono ?_
 rintro e w3 ⟨rfl, hb3⟩
 have hE3 : Ev W0 w3 := Ev.trans (Ev.drew (Ev.refl _)) hb3
 refine hK.out _ _ (HSE.out _ hE3) (fun hHeld => ?_)
 clear hK K
 (try simp only [Act.put, List.setIfInBounds_toArray, List.set_cons_zero, List.set_cons_succ])
 refine tkH 13 (some 25) ?_
 (try simp only [Act.put, sA, sB, sC])
 refine tkH 14 (some 6) ?_
 (try simp only [Act.put, sA, sB, sC])
 refine wpAnyH_done (by kernel_rfl) ?_ _
 go_wp2_with fail
 go_ret
 exact ⟨ret_bool HKD.out.symm, HW0.out.ev hE3, (HMO.out.ev_ (hE0.trans hE3))⟩

end Go.Proofs.Ytgimcephbeajlaa
