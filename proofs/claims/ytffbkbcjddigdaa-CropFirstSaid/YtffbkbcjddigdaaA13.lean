import Derived.Test.YtffbkbcjddigdaaA12
set_option linter.unusedSimpArgs false
set_option linter.unusedVariables false
namespace Go.Proofs.Ytffbkbcjddigdaa
open Go.RowKit

set_option maxRecDepth 100000 in
set_option maxHeartbeats 4000000 in
theorem isTruth_c (f : M.Cf) (Ag Aw Ab Ac Al : Option Addr) (ng cg nw cw nb cb nc cc nl cl : Nat) (Tg Tw : Option Addr) (tg tgc tw twc : Nat) (t : M.Tr) (hng : ng ≤ 100) (hnw : nw ≤ 100) (w : World) (hs : CS w w.heap.size f Ag Aw Ab Ac Al ng cg nw cw nb cb nc cc nl cl) (hg : Sl ics 1 w w.heap.size Tg tg tgc t.gr) (hw : Sl ics 1 w w.heap.size Tw tw twc t.wet) :
    Calls Try.prog 53 #[.agg #[.int .i64 f.last, .slice Ag ng cg, .slice Aw nw cw, .slice Ab nb cb, .slice Ac nc cc, .int .i64 f.ripe, .int .i64 f.late, .int .i64 f.trod, .slice Al nl cl], .agg #[.slice Tg tg tgc, .slice Tw tw twc]] w fun e w' => e = .returned (.bool (M.listed f t)) ∧ Ev w w' := by
  have q1 := hs.g.len
  have q2 := hs.w_.len
  have q3 := hg.len
  have q4 := hw.len
  by_cases h1 : tg = ng
  · subst h1
    by_cases h2 : tw = nw
    · subst h2
      have e1 : ((tg : Int) != (tg : Int)) = false := by simp
      have e2 : ((tw : Int) != (tw : Int)) = false := by simp
      have HD := hid (show M.listed f t = M.inAll (t.gr ++ t.wet) (M.ranges f) by unfold M.listed; rw [q1, q2, q3, q4]; simp)
      have hcc := fun W (hE : Ev w W) b (x0 : W.cell? ⟨b, 0, none⟩ = some (.slice Tg tg tgc)) (x1 : W.cell? ⟨b, 1, none⟩ = some (.slice Tw tw twc)) (hb : b < W.heap.size) => concat_c b Tg Tw tg tgc tw twc t.gr t.wet (by omega) (by omega) W (hg.ev hE) (hw.ev hE) x0 x1 hb
      have hrr := fun W (hE : Ev w W) => ranges_c f Ag Aw Ab Ac Al tg cg tw cw nb cb nc cc nl cl hng hnw W (hs.ev hE)
      have hnl : (t.gr ++ t.wet).length = tg + tw := by rw [List.length_append, q3, q4]
      obtain ⟨N, hN⟩ : ∃ N, N = tg + tw := ⟨_, rfl⟩
      have hN2 : N ≤ 200 := by omega
      rw [← hN] at hcc hrr hnl
      generalize M.ranges f = rs at hrr HD
      generalize t.gr ++ t.wet = ns at hcc HD hnl
      have HCC := hid hcc
      have HRR := hid hrr
      clear hcc hrr hs hg hw hN q1 q2 q3 q4 hnl
      go_enter Try.func53, Try.ntmps53
      have hal := alloc3 w (.cells #[.int .i64 f.last, .slice Ag tg cg, .slice Aw tw cw, .slice Ab nb cb, .slice Ac nc cc, .int .i64 f.ripe, .int .i64 f.late, .int .i64 f.trod, .slice Al nl cl] 38) (.cells #[.slice Tg tg tgc, .slice Tw tw twc] 40) (.cells #[.slice Tg tg tgc, .slice Tw tw twc] 23)
      have HAL := hid hal
      clear hal
      go_wp2_with (first | (go_at_call 81; ((with_reducible refine (HCC.out _ (Ev.alloc (Ev.alloc (Ev.alloc (Ev.refl _) _) _) _) _ (cell_in HAL.out.2.2.1 0) (cell_in HAL.out.2.2.1 1) (heap_lt HAL.out.2.2.1)).mono ?_); rintro e w1 ⟨⟨B1, d1, rfl, hn1⟩, hb1⟩; obtain ⟨y0, y1, y2, y3, y4, y5, y6, y7, y8⟩ := cells9 (hb1.heap HAL.out.1); have hG1 : Ev w w1 := Ev.trans (Ev.alloc (Ev.alloc (Ev.alloc (Ev.refl _) _) _) _) hb1; have HN1 := hid hn1; clear hn1)) | (go_at_call 82; ((with_reducible refine (HRR.out _ hG1).mono ?_); rintro e w2 ⟨⟨B2, d2, rfl, hr2⟩, hb2⟩; have hG2 := hG1.trans hb2; have HR2 := hid hr2; clear hr2 y0 y1 y2 y3 y4 y5 y6 y7 y8)))
      have hn := HN1.out.ev hb2
      have hr := HR2.out
      have rsm := hr.small
      go_loopw [33] (fun i wr => ∃ k : Nat, i = .int .i64 k ∧ k ≤ N ∧ Ev w2 wr ∧ Hid (M.inAll (ns.drop k) (rs.drop k) = M.inAll ns rs)) (fun i _ => N - (intOf i).toNat)
      case atStart => exact ⟨0, rfl, by omega, Ev.refl _, hid rfl⟩
      case round =>
        obtain ⟨k, rfl, hk, hB, hall⟩ := hrel
        by_cases hlt : k < N
        · obtain ⟨b, off, r, rfl, hb, hx, hd, hc⟩ := hr.at_ hB hlt
          have e0 := hc 0 _ rfl
          have e1 := hc 1 _ rfl
          simp only [Nat.add_zero] at e0
          obtain ⟨b', off', x, rfl, hb', hx', hd', e3⟩ := hn.int hB hlt
          have hcap := hr.cap
          have hcap' := hn.cap
          have k0 : (0 : Int) ≤ k := by omega
          have kN : (k : Int) < N := by omega
          have H := hid hd
          have H' := hid hd'
          clear hd hd' hx hx' hc
          have hcon := fun W => holds_e r x W
          cases hv : M.holds r x
          all_goals (
            rw [hv] at hcon
            have HC := hid hcon
            have HV := hid hv
            clear hcon hv
            go_upto_region 7 with fail
            generalize hW0 : World.alloc wr _ = W0
            have hE0 : Ev wr W0 := by rw [← hW0]; exact Ev.alloc (Ev.refl _) _
            have hal := (alloc1 wr (.cells #[.int .i64 r.lo, .int .i64 r.hi] 57)).1
            rw [hW0] at hal
            obtain ⟨z0, z1⟩ := cells2 hal
            have e4 := (hE0.cells.1 b' (off' + k) (by have := hB.size; omega)).trans e3
            have l1 := heap_lt hal
            have l2 : b' < W0.heap.size := by have := hB.size; have := hE0.size; omega
            have HSE : Hid (∀ w', Ev W0 w' → Ev W0 w' ∧ (∀ o, w'.cell? ⟨wr.heap.size, o, none⟩ = W0.cell? ⟨wr.heap.size, o, none⟩) ∧ (∀ o, w'.cell? ⟨b', o, none⟩ = W0.cell? ⟨b', o, none⟩)) := hid (fun w' h => ⟨h, fun o => h.cells.1 _ o l1, fun o => h.cells.1 _ o l2⟩)
            clear hW0 hal
            go_region_held3 (fun w' => Ev W0 w' ∧ (∀ o, w'.cell? ⟨wr.heap.size, o, none⟩ = W0.cell? ⟨wr.heap.size, o, none⟩) ∧ (∀ o, w'.cell? ⟨b', o, none⟩ = W0.cell? ⟨b', o, none⟩)) (exact HSE.out _ (by repeat (first | with_reducible exact Ev.refl W0 | (with_reducible assumption) | with_reducible refine Ev.drew ?_))) (first | (go_at_call 83; ((with_reducible refine (HC.out _).mono ?_); rintro e w3 ⟨rfl, hb3⟩; have hc1 : Ev W0 w3 := (by first | exact hb3 | exact Ev.trans (Ev.drew (Ev.refl _)) hb3))))
            go_wp2)
          · go_ret
            exact ⟨ret_bool (by rw [HD.out, ← hall.out, H.out, H'.out, M.inAll, HV.out, Bool.false_and]), hG2.trans (hB.trans (hE0.trans hc1))⟩
          · exact ⟨⟨k + 1, by go_num, by omega, hB.trans (hE0.trans hc1), hid (by rw [← hall.out, H.out, H'.out, M.inAll, HV.out, Bool.true_and])⟩, by simp [intOf]; omega⟩
        · have H := hid (hn.done hlt)
          have H' := hid (hr.done hlt)
          go_wp2
          go_ret
          exact ⟨ret_bool (by rw [HD.out, ← hall.out, H.out, H'.out]; rfl), hG2.trans hB⟩
    · have e1 : ((tg : Int) != (tg : Int)) = false := by simp
      have e2 : ((tw : Int) != (nw : Int)) = true := by simpa using (show ¬ (tw : Int) = nw by omega)
      have HD := hid (show M.listed f t = false by unfold M.listed; rw [q1, q2, q3, q4]; simp [h2])
      clear hs hg hw q1 q2 q3 q4 h2
      go_enter Try.func53, Try.ntmps53
      go_wp2
      go_ret
      exact ⟨ret_bool HD.out.symm, Ev.alloc (Ev.alloc (Ev.refl _) _) _⟩
  · have e1 : ((tg : Int) != (ng : Int)) = true := by simpa using (show ¬ (tg : Int) = ng by omega)
    have HD := hid (show M.listed f t = false by unfold M.listed; rw [q1, q3]; simp [h1])
    clear hs hg hw q1 q2 q3 q4 h1
    go_enter Try.func53, Try.ntmps53
    go_wp2
    go_ret
    exact ⟨ret_bool HD.out.symm, Ev.alloc (Ev.alloc (Ev.refl _) _) _⟩

end Go.Proofs.Ytffbkbcjddigdaa
