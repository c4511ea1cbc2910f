import Derived.Test.YtgimcephbeajlaaC19
set_option linter.unusedSimpArgs false
set_option linter.unusedVariables false
namespace Go.Proofs.Ytgimcephbeajlaa
open Go.RowKit Go.Shelf

/-- The first wrong reading at k or later, of so many; 0 and 7 if there is none. -/
def M.wrongK (f : M.Cf) : Nat → Nat → Int × Int
 | _, 0 => (0, 7)
 | k, j + 1 => if M.fit f (f.rds.take (k + 1)) then M.wrongK f (k + 1) j else ((k : Int), 0)
def M.wrong (f : M.Cf) : Int × Int := if M.check f = 0 then M.wrongK f 0 f.rds.length else (0, M.check f)

set_option maxRecDepth 100000 in
set_option maxHeartbeats 2000000 in
theorem First_c (f : M.Cf) (Aw At Ar : Option Addr) (nw cw nt ct nr cr : Nat) (hl0 : -9223372036854775808 ≤ f.last) (w : World) (hs : CS w w.heap.size f Aw At Ar nw cw nt ct nr cr) :
  Calls Try.prog 40 #[.agg #[.int .i64 f.last, .int .i64 f.size, .int .i64 f.cool, .int .i64 f.die, .int .i64 f.burn, .int .i64 f.st.lo, .int .i64 f.st.hi, .slice Aw nw cw, .slice At nt ct, .slice Ar nr cr]] w fun e w' => e = .returned (.tuple #[.int .i64 (M.wrong f).1, .int .i64 (M.wrong f).2]) ∧ Ev w w' := by
 have HCK := hid (fun W (hE : Ev w W) => check_c f Aw At Ar nw cw nt ct nr cr hl0 W (hs.ev hE))
 have HOP := hid (fun (h : M.check f = 0) W (hE : Ev w W) => open_c f Aw At Ar nw cw nt ct nr cr h W (hs.ev hE))
 have HLN := hid hs.r.len
 have HS := hid hs
 clear hs
 generalize hk : M.check f = k at HCK
 have HK := hid hk
 clear hk
 by_cases h0 : k = 0
 ·
  subst h0
  have HO := hid (HOP.out HK.out)
  have hl5 : nr ≤ 5 := by rw [← HLN.out]; exact (M.check0 HK.out).2.1
  have HLB := hid (M.rds_bd HK.out)
  have HF := hid (show M.wrong f = M.wrongK f 0 nr by unfold M.wrong; rw [HK.out, if_pos rfl, HLN.out])
  clear HOP
  go_enter Try.func40, Try.ntmps40
  go_wp2_with (first | (go_at_call 26; with_reducible refine (HCK.out _ (Ev.alloc (Ev.refl _) _)).mono ?_; rintro e w1 ⟨rfl, hb1⟩; have hq1 := hid (hb1.heap (alloc1 w (.cells #[.int .i64 f.last, .int .i64 f.size, .int .i64 f.cool, .int .i64 f.die, .int .i64 f.burn, .int .i64 f.st.lo, .int .i64 f.st.hi, .slice Aw nw cw, .slice At nt ct, .slice Ar nr cr] 40)).1); obtain ⟨y0, y1, y2, y3, y4, y5, y6, y7, y8, y9⟩ := cells10 hq1.out) | (go_at_call 80; with_reducible refine (HO.out _ (Ev.trans (Ev.alloc (Ev.refl _) _) hb1)).mono ?_; rintro e w2 ⟨⟨Ts, Ss, ns, cs, ms, ds, p, mb, rfl, hwk⟩, hb2⟩; have HWK := hid hwk; clear hwk; clear y0 y1 y2 y3 y4 y5 y6 y7 y8 y9; obtain ⟨y0, y1, y2, y3, y4, y5, y6, y7, y8, y9⟩ := cells10 (hb2.heap hq1.out)))
  have hE2 : Ev w w2 := Ev.trans (Ev.trans (Ev.alloc (Ev.refl _) _) hb1) hb2
  have E8 := hid y9
  clear y0 y1 y2 y3 y4 y5 y6 y7 y8 y9
  go_loopw [17] (fun v wr => ∃ k : Nat, v = .int .i64 k ∧ k ≤ nr ∧ Ev w2 wr ∧ Hid (M.wrongK f k (nr - k) = M.wrong f)) (fun v _ => nr - (intOf v).toNat)
  case atStart => exact ⟨0, rfl, by omega, Ev.refl _, hid (by rw [HF.out]; rfl)⟩
  case round =>
   obtain ⟨k, rfl, hk, hB, HM⟩ := hrel
   by_cases hlt : k < nr
   ·
    have hsl := HS.out.r
    obtain ⟨b, off, hAl, _⟩ := hsl.cells (by omega)
    have hcl := hsl.cap
    subst hAl
    have HFT := hid (fun W (hE : Ev w2 W) => fit_c f Aw At (some ⟨b, off, none⟩) nw cw nt ct nr cr Ts Ss ns cs ms ds p mb _ (M.truths f) (some ⟨b, off, none⟩) (k + 1) cr (f.rds.take (k + 1)) (fun l hl => HLB.out l (List.mem_of_mem_take hl)) W (HWK.out.ev hE) ((hsl.take (by omega)).ev (hE2.trans hE)))
    have hM := HM.out
    rw [show nr - k = (nr - (k + 1)) + 1 from by omega] at hM
    unfold M.wrongK at hM
    generalize M.fit f (f.rds.take (k + 1)) = b2 at HFT hM
    have HM2 := hid hM
    have e8' := (hB.cells.1 _ 9 (heap_lt (hb2.heap hq1.out))).trans E8.out
    clear hM hsl
    cases b2 with
    | true =>
     go_wp2_with (go_at_call 81; with_reducible refine (HFT.out _ hB).mono ?_; rintro e w3 ⟨rfl, hb3⟩)
     exact ⟨⟨k + 1, by go_num, by omega, hB.trans hb3, hid (by have := HM2.out; simpa using this)⟩, by simp [intOf]; omega⟩
    | false =>
     go_wp2_with (go_at_call 81; with_reducible refine (HFT.out _ hB).mono ?_; rintro e w3 ⟨rfl, hb3⟩)
     go_ret2
     refine ⟨?_, hE2.trans (hB.trans hb3)⟩
     have h2 := HM2.out
     rw [if_neg (by decide)] at h2
     rw [← h2]
     rfl
   ·
    have hM := HM.out
    rw [show nr - k = 0 from by omega] at hM
    have HM2 := hid hM
    clear hM
    go_wp2
    go_ret2
    refine ⟨?_, hE2.trans hB⟩
    have h2 := HM2.out
    rw [← h2]
    rfl
 ·
  have hne : (k != 0) = true := by simpa using h0
  have H0 := hid h0
  clear h0
  go_enter Try.func40, Try.ntmps40
  go_wp2_with (go_at_call 26; with_reducible refine (HCK.out _ (Ev.alloc (Ev.refl _) _)).mono ?_; rintro e w1 ⟨rfl, hb1⟩)
  go_ret2
  refine ⟨?_, Ev.trans (Ev.alloc (Ev.refl _) _) hb1⟩
  rw [show M.wrong f = (0, k) by unfold M.wrong; rw [HK.out, if_neg H0.out]]
  rfl

theorem Wc.oth {w w' : World} {f : M.Cf} {Aw At Ar : Option Addr} {nw cw nt ct nr cr : Nat} {Ts Ss : Option Addr} {ns cs ms ds p mb : Nat} {b0 : Nat} {ts : List M.Tr} {ss : List (List Int)} (h : Wc w f Aw At Ar nw cw nt ct nr cr Ts Ss ns cs ms ds p mb b0 ts ss) {q : Nat} {cz : Array Value} (hq : w.heap[q]? = some (.cells cz 124 (0, 0)))
  (hk : ∀ j o, j ≠ q → w.heap[j]? = some o → w'.heap[j]? = some o) (hB : Go.RowKit.Below b0 w w') : Wc w' f Aw At Ar nw cw nt ct nr cr Ts Ss ns cs ms ds p mb b0 ts ss := by
 obtain ⟨vs, hv, hr⟩ := h.tr
 obtain ⟨g, hl, hm⟩ := h.mp
 have hmq : mb ≠ q := (map_ne hm hq).symm
 exact {
  hd := hk p _ (fun e => by
   have := h.hd
   rw [e, hq] at this
   simp at this) h.hd
  fd := h.fd.keep hB
  tr := ⟨vs, own_but hv hq (by decide) hk, hr.imp fun _ _ _ ho => own_but ho hq (by decide) hk⟩
  st := own_but h.st hq (by decide) hk
  s10 := h.s10
  mp := by
   obtain ⟨es, ck, hh, rest⟩ := hm
   exact ⟨g, hl, es, ck, hk mb _ hmq hh, rest⟩
  n1 := h.n1
  n2 := h.n2
  b1 := h.b1 }

set_option maxRecDepth 100000 in
set_option maxHeartbeats 2000000 in
theorem Leave_err (f : M.Cf) (Aw At Ar : Option Addr) (nw cw nt ct nr cr : Nat) (hl0 : -9223372036854775808 ≤ f.last) (w : World) (hs : CS w w.heap.size f Aw At Ar nw cw nt ct nr cr) (h0 : M.check f ≠ 0) :
  Calls Try.prog 41 #[.agg #[.int .i64 f.last, .int .i64 f.size, .int .i64 f.cool, .int .i64 f.die, .int .i64 f.burn, .int .i64 f.st.lo, .int .i64 f.st.hi, .slice Aw nw cw, .slice At nt ct, .slice Ar nr cr]] w fun e w' => e = .returned (.tuple #[.slice none 0 0, .int .i64 (M.check f)]) ∧ Ev w w' := by
 have HCK := hid (fun W (hE : Ev w W) => check_c f Aw At Ar nw cw nt ct nr cr hl0 W (hs.ev hE))
 generalize M.check f = ec at HCK h0
 have he : (ec == 0) = false := by simpa using h0
 clear h0
 go_enter Try.func41, Try.ntmps41
 go_wp2_with (go_at_call 26; with_reducible refine (HCK.out _ (Ev.alloc (Ev.refl _) _)).mono ?_; rintro e w1 ⟨rfl, hb1⟩; have hq1 := hid (hb1.heap (alloc1 w (.cells #[.int .i64 f.last, .int .i64 f.size, .int .i64 f.cool, .int .i64 f.die, .int .i64 f.burn, .int .i64 f.st.lo, .int .i64 f.st.hi, .slice Aw nw cw, .slice At nt ct, .slice Ar nr cr] 40)).1); obtain ⟨y0, y1, y2, y3, y4, y5, y6, y7, y8, y9⟩ := cells10 hq1.out)
 go_ret2
 exact ⟨rfl, Ev.trans (Ev.alloc (Ev.refl _) _) hb1⟩

set_option maxRecDepth 100000 in
set_option maxHeartbeats 4000000 in
theorem Leave_ok (f : M.Cf) (Aw At Ar : Option Addr) (nw cw nt ct nr cr : Nat) (hl0 : -9223372036854775808 ≤ f.last) (w : World) (hs : CS w w.heap.size f Aw At Ar nw cw nt ct nr cr) (h0 : M.check f = 0) :
  Calls Try.prog 41 #[.agg #[.int .i64 f.last, .int .i64 f.size, .int .i64 f.cool, .int .i64 f.die, .int .i64 f.burn, .int .i64 f.st.lo, .int .i64 f.st.hi, .slice Aw nw cw, .slice At nt ct, .slice Ar nr cr]] w fun e w' => (∃ B d, e = .returned (.tuple #[.slice B (M.shortest (M.spares f) nr).length d, .int .i64 0]) ∧ Sl ics 1 w' w'.heap.size B (M.shortest (M.spares f) nr).length d (M.shortest (M.spares f) nr)) ∧ Ev w w' := by
 have HCK := hid (fun W (hE : Ev w W) => check_c f Aw At Ar nw cw nt ct nr cr hl0 W (hs.ev hE))
 rw [h0] at HCK
 have HOP := hid (fun W (hE : Ev w W) => open_c f Aw At Ar nw cw nt ct nr cr h0 W (hs.ev hE))
 have hl5 : nr ≤ 5 := by rw [← hs.r.len]; exact (M.check0 h0).2.1
 have HLB := hid (M.rds_bd h0)
 have HSH := hid (fun (Ts Ss : Option Addr) (ns cs ms ds p mb : Nat) b0 W (hwc : Wc W f Aw At Ar nw cw nt ct nr cr Ts Ss ns cs ms ds p mb b0 (M.truths f) (M.stands f)) => callsIn_wide.1 (shortW_in (.pointer (some ⟨p, 0, none⟩)) nr (by omega) (M.spares f) W (fun W' B m d rows L hE hsl _ => spares_c f Aw At Ar nw cw nt ct nr cr Ts Ss ns cs ms ds p mb b0 (M.truths f) HLB.out hl5 B m d rows W' (hwc.ev hE) hsl)))
 clear h0
 go_enter Try.func41, Try.ntmps41
 go_upto_region 4 with (go_at_call 26; with_reducible refine (HCK.out _ (Ev.alloc (Ev.refl _) _)).mono ?_; rintro e w1 ⟨rfl, hb1⟩; have hq1 := hid (hb1.heap (alloc1 w (.cells #[.int .i64 f.last, .int .i64 f.size, .int .i64 f.cool, .int .i64 f.die, .int .i64 f.burn, .int .i64 f.st.lo, .int .i64 f.st.hi, .slice Aw nw cw, .slice At nt ct, .slice Ar nr cr] 40)).1); obtain ⟨y0, y1, y2, y3, y4, y5, y6, y7, y8, y9⟩ := cells10 hq1.out)
 have hG : Ev w w1 := Ev.trans (Ev.alloc (Ev.refl _) _) hb1
 have l0 := heap_lt hq1.out
 have HSE : Hid (∀ w', Ev w1 w' → (∀ o, w'.cell? ⟨w.heap.size, o, none⟩ = w1.cell? ⟨w.heap.size, o, none⟩)) := hid (fun w' h => fun o => h.cells.1 _ o l0)
 refine wp_region_held_drew (S := fun w' => (∀ o, w'.cell? ⟨w.heap.size, o, none⟩ = w1.cell? ⟨w.heap.size, o, none⟩)) (by kernel_rfl) (fun o => rfl) (fun hHeld => ?_)
 refine tkH 0 (some 11) ?_
 (try simp only [Act.put, sA, sB, sC])
 refine tkH 2 (some 13) ?_
 (try simp only [Act.put, sA, sB, sC])
 refine tkH 3 (some 14) ?_
 (try simp only [Act.put, sA, sB, sC])
 refine tkH 4 (some 15) ?_
 (try simp only [Act.put, sA, sB, sC])
 refine wpAnyH_ready (rs := [1, 6]) (by kernel_rfl) (by simp) ?_
 refine AllReadyH.cons rfl (fun K hK => ?_) (AllReadyH.cons rfl (fun K hK => ?_) (AllReadyH.nil))
 ·
  go_simp
  refine (HOP.out _ (hG.trans (Ev.drew (Ev.refl _)))).mono ?_
  rintro e v2 ⟨⟨Ts, Ss, ns, cs, ms, ds, p, mb, rfl, hwc⟩, hb2⟩
  have hE2 : Ev w1 v2 := Ev.trans (Ev.drew (Ev.refl _)) hb2
  have HW2 := hid (hwc.low (b1 := w.heap.size) (Ev.size (hG.trans (Ev.drew (Ev.refl _)))) (hs.keep (hG.trans hE2)))
  clear hwc
  refine hK.out _ _ (HSE.out _ hE2) (fun hHeld => ?_)
  clear hK K
  (try simp only [Act.put, List.setIfInBounds_toArray, List.set_cons_zero, List.set_cons_succ])
  refine tkH 5 (some 16) ?_
  (try simp only [Act.put, sA, sB, sC])
  refine wpAnyH_one (i := 6) rfl (by kernel_rfl) (by rfl) (fun K hK => ?_)
  go_simp
  generalize hWA : World.alloc v2 _ = v3
  have hal : (World.alloc v2 (.cells #[.pointer none, .int .i64 0, .nilFunc] 124)).heap[v2.heap.size]? = _ := (alloc1 v2 (.cells #[.pointer none, .int .i64 0, .nilFunc] 124)).1
  rw [hWA] at hal
  have HA3 : Hid (v3.heap[v2.heap.size]? = some (.cells #[.pointer none, .int .i64 0, .nilFunc] 124 (0, 0))) := hid hal
  have hb3 : Ev v2 v3 := by rw [← hWA]; exact Ev.alloc (Ev.refl _) _
  have hE3 : Ev w1 v3 := Ev.trans hE2 hb3
  have hqw : w1.heap.size ≤ v2.heap.size := Ev.size hE2
  clear hWA hal
  have HW3 := hid (HW2.out.ev hb3)
  refine hK.out _ _ (HSE.out _ hE3) (fun hHeld => ?_)
  clear hK K
  (try simp only [Act.put, List.setIfInBounds_toArray, List.set_cons_zero, List.set_cons_succ])
  refine wpAnyH_one (i := 7) rfl (by kernel_rfl) (by rfl) (fun K hK => ?_)
  have hA := HA3.out
  obtain ⟨z0, z1, z2⟩ := cells3 hA
  obtain ⟨f0, f1, f2⟩ := frz3 hA
  go_simp
  generalize hXF : World.setCell _ _ _ = XF
  have HXF : Hid (XF.heap[v2.heap.size]? = some (.cells #[.pointer (some ⟨p, 0, none⟩), .int .i64 nr, .func (.func 82) #[] #[]] 124 (0, 0))) := hid (by rw [← hXF]; exact set3 hA)
  have hEF : Ev w1 XF := by rw [← hXF]; exact (Ev.setCell (Ev.setCell (Ev.setCell hE3 (show w1.heap.size ≤ v2.heap.size from hqw) _) (show w1.heap.size ≤ v2.heap.size from hqw) _) (show w1.heap.size ≤ v2.heap.size from hqw) _)
  have hkF : ∀ j o, j ≠ v2.heap.size → v3.heap[j]? = some o → XF.heap[j]? = some o := fun j o hj ho => by rw [← hXF]; exact set_heap (set_heap (set_heap ho hj) hj) hj
  have HWF := hid (HW3.out.oth hA hkF (by rw [← hXF]; exact (((Below.refl _ _).setCell (p := ⟨v2.heap.size, 0, none⟩) (show w.heap.size ≤ v2.heap.size by have := hG.size; omega) _).setCell (p := ⟨v2.heap.size, 1, none⟩) (show w.heap.size ≤ v2.heap.size by have := hG.size; omega) _).setCell (p := ⟨v2.heap.size, 2, none⟩) (show w.heap.size ≤ v2.heap.size by have := hG.size; omega) _))
  clear hXF z0 z1 z2 f0 f1 f2 hA
  refine hK.out _ _ (HSE.out _ hEF) (fun hHeld => ?_)
  clear hK K
  (try simp only [Act.put, List.setIfInBounds_toArray, List.set_cons_zero, List.set_cons_succ])
  refine wpAnyH_done (by kernel_rfl) ?_ _
  have HSX := hid (HSH.out Ts Ss ns cs ms ds p mb _ _ HWF.out)
  obtain ⟨x0, x1, x2⟩ := cells3 HXF.out
  go_wp2_with (go_at_call 83; with_reducible refine HSX.out.mono ?_; rintro e w4 ⟨⟨B, d, rfl, hsl⟩, hb4⟩; have HSL := hid hsl; clear hsl)
  go_ret2
  exact ⟨⟨B, d, rfl, HSL.out⟩, (hG.trans hEF).trans hb4⟩
 ·
  go_simp
  generalize hWA : World.drew (World.alloc w1 _) = v2
  have hal : (World.drew (World.alloc w1 (.cells #[.pointer none, .int .i64 0, .nilFunc] 124))).heap[w1.heap.size]? = _ := (alloc1 w1 (.cells #[.pointer none, .int .i64 0, .nilFunc] 124)).1
  rw [hWA] at hal
  have HA2 : Hid (v2.heap[w1.heap.size]? = some (.cells #[.pointer none, .int .i64 0, .nilFunc] 124 (0, 0))) := hid hal
  have hb2 : Ev w1 v2 := by rw [← hWA]; exact Ev.drew (Ev.alloc (Ev.refl _) _)
  have hE2 : Ev w1 v2 := hb2
  have hqw : w1.heap.size ≤ w1.heap.size := Nat.le_refl _
  clear hWA hal
  refine hK.out _ _ (HSE.out _ hE2) (fun hHeld => ?_)
  clear hK K
  (try simp only [Act.put, List.setIfInBounds_toArray, List.set_cons_zero, List.set_cons_succ])
  refine wpAnyH_one (i := 1) rfl (by kernel_rfl) (by rfl) (fun K hK => ?_)
  go_simp
  refine (HOP.out _ (hG.trans hE2)).mono ?_
  rintro e v3 ⟨⟨Ts, Ss, ns, cs, ms, ds, p, mb, rfl, hwc⟩, hb3⟩
  have hE3 : Ev w1 v3 := Ev.trans hE2 hb3
  have HW3 := hid (hwc.low (b1 := w.heap.size) (Ev.size (hG.trans hE2)) (hs.keep (hG.trans hE3)))
  clear hwc
  have HA3 := hid (hb3.heap HA2.out)
  refine hK.out _ _ (HSE.out _ hE3) (fun hHeld => ?_)
  clear hK K
  (try simp only [Act.put, List.setIfInBounds_toArray, List.set_cons_zero, List.set_cons_succ])
  refine tkH 5 (some 16) ?_
  (try simp only [Act.put, sA, sB, sC])
  refine wpAnyH_one (i := 7) rfl (by kernel_rfl) (by rfl) (fun K hK => ?_)
  have hA := HA3.out
  obtain ⟨z0, z1, z2⟩ := cells3 hA
  obtain ⟨f0, f1, f2⟩ := frz3 hA
  go_simp
  generalize hXF : World.setCell _ _ _ = XF
  have HXF : Hid (XF.heap[w1.heap.size]? = some (.cells #[.pointer (some ⟨p, 0, none⟩), .int .i64 nr, .func (.func 82) #[] #[]] 124 (0, 0))) := hid (by rw [← hXF]; exact set3 hA)
  have hEF : Ev w1 XF := by rw [← hXF]; exact (Ev.setCell (Ev.setCell (Ev.setCell hE3 (show w1.heap.size ≤ w1.heap.size from hqw) _) (show w1.heap.size ≤ w1.heap.size from hqw) _) (show w1.heap.size ≤ w1.heap.size from hqw) _)
  have hkF : ∀ j o, j ≠ w1.heap.size → v3.heap[j]? = some o → XF.heap[j]? = some o := fun j o hj ho => by rw [← hXF]; exact set_heap (set_heap (set_heap ho hj) hj) hj
  have HWF := hid (HW3.out.oth hA hkF (by rw [← hXF]; exact (((Below.refl _ _).setCell (p := ⟨w1.heap.size, 0, none⟩) (show w.heap.size ≤ w1.heap.size by have := hG.size; omega) _).setCell (p := ⟨w1.heap.size, 1, none⟩) (show w.heap.size ≤ w1.heap.size by have := hG.size; omega) _).setCell (p := ⟨w1.heap.size, 2, none⟩) (show w.heap.size ≤ w1.heap.size by have := hG.size; omega) _))
  clear hXF z0 z1 z2 f0 f1 f2 hA
  refine hK.out _ _ (HSE.out _ hEF) (fun hHeld => ?_)
  clear hK K
  (try simp only [Act.put, List.setIfInBounds_toArray, List.set_cons_zero, List.set_cons_succ])
  refine wpAnyH_done (by kernel_rfl) ?_ _
  have HSX := hid (HSH.out Ts Ss ns cs ms ds p mb _ _ HWF.out)
  obtain ⟨x0, x1, x2⟩ := cells3 HXF.out
  go_wp2_with (go_at_call 83; with_reducible refine HSX.out.mono ?_; rintro e w4 ⟨⟨B, d, rfl, hsl⟩, hb4⟩; have HSL := hid hsl; clear hsl)
  go_ret2
  exact ⟨⟨B, d, rfl, HSL.out⟩, (hG.trans hEF).trans hb4⟩

end Go.Proofs.Ytgimcephbeajlaa
