import Derived.Test.YtcecmphdmpeibaaL1
namespace Go.Proofs.Ytcecmphdmpeibaa
open Go.RowKit

theorem M.check_3 {f : M.Fl} (h : f.rows > 7 ∨ f.wds > 3 ∨ f.ts.length > 5) : M.check f = 3 := by unfold M.check; rw [if_pos h]
theorem M.check_1 {f : M.Fl} (h : ¬ (f.rows > 7 ∨ f.wds > 3 ∨ f.ts.length > 5)) (hv : M.valid f = false) : M.check f = 1 := by unfold M.check; rw [if_neg h, if_pos hv]
theorem M.check_p {f : M.Fl} (h : ¬ (f.rows > 7 ∨ f.wds > 3 ∨ f.ts.length > 5)) (hv : M.valid f = true) : M.check f = if M.power f > 2500 then 3 else 0 := by unfold M.check; rw [if_neg h, if_neg (by simp [hv])]

set_option maxRecDepth 100000 in
set_option maxHeartbeats 1000000 in
theorem Fault_c (f : M.Fl) (A : Option Addr) (n c : Nat) (w : World) (hs : Sl tcs 5 w w.heap.size A n c f.ts) :
    Calls Try.prog 64 #[.agg #[.int .i64 f.rows, .int .i64 f.wds, .int .i64 f.lf.lo, .int .i64 f.lf.hi, .slice A n c]] w fun e w' => e = .returned (.int .i64 (M.check f)) ∧ Ev w w' := by
  have hsm := hs.small
  have HL := hid hs.len
  by_cases h3 : f.rows > 7 ∨ f.wds > 3 ∨ n > 5
  · have hv : M.check f = 3 := M.check_3 (by rw [HL.out]; exact h3)
    rw [hv]
    clear hv
    go_enter Try.func64, Try.ntmps64
    go_wp2
    all_goals first | omega | (go_ret; exact ⟨rfl, Ev.alloc (Ev.refl _) _⟩)
  · have h3' : ¬ (f.rows > 7 ∨ f.wds > 3 ∨ f.ts.length > 5) := by rw [HL.out]; exact h3
    obtain ⟨r7, d3, n5⟩ : f.rows ≤ 7 ∧ f.wds ≤ 3 ∧ n ≤ 5 := by omega
    by_cases h1 : f.rows < 1 ∨ f.wds < 1
    · have hv : M.check f = 1 := M.check_1 h3' (by
        cases h : M.valid f with
        | false => rfl
        | true => have := valid_bd h; omega)
      rw [hv]
      clear hv h3 h3'
      go_enter Try.func64, Try.ntmps64
      go_wp2
      all_goals first | omega | (go_ret; exact ⟨rfl, Ev.alloc (Ev.refl _) _⟩)
    · obtain ⟨r1, d1⟩ : 1 ≤ f.rows ∧ 1 ≤ f.wds := by omega
      have hva : M.valid f = (M.within f.lf 0 f.rows && f.ts.all (M.validTally f)) := by
        unfold M.valid
        rw [M.upTo_within]
        simp [r1, d1]
      cases hw : M.within f.lf 0 f.rows with
      | false =>
        have hv : M.check f = 1 := M.check_1 h3' (by rw [hva, hw]; rfl)
        rw [hv]
        clear hv h3 h3' hva h1
        go_enter Try.func64, Try.ntmps64
        go_wp2_with (go_at_call 99; ((with_reducible refine (Within_c f.lf _ _ _).mono ?_); rintro e w1 ⟨rfl, hb1⟩))
        go_ret
        exact ⟨rfl, Ev.trans (Ev.alloc (Ev.refl _) _) hb1⟩
      | true =>
        rw [hw, Bool.true_and] at hva
        have HVA := hid hva
        have H3 := hid h3'
        clear hva h3 h3' h1
        go_enter Try.func64, Try.ntmps64
        go_wp2_with (go_at_call 99; ((with_reducible refine (Within_c f.lf _ _ _).mono ?_); rintro e w1 ⟨rfl, hb1⟩))
        have hE1 : Ev w w1 := Ev.trans (Ev.alloc (Ev.refl _) _) hb1
        have HQ := hid (hb1.heap (alloc1 w (.cells #[.int .i64 f.rows, .int .i64 f.wds, .int .i64 f.lf.lo, .int .i64 f.lf.hi, .slice A n c] 26)).1)
        go_loopw [3] (fun i wr => ∃ k : Nat, i = .int .i64 k ∧ k ≤ n ∧ Ev w1 wr ∧ Hid ((f.ts.drop k).all (M.validTally f) = f.ts.all (M.validTally f))) (fun i _ => n - (intOf i).toNat)
        case atStart => exact ⟨0, rfl, by omega, Ev.refl _, hid rfl⟩
        case round =>
          obtain ⟨k, rfl, hk, hB, hall⟩ := hrel
          have hq := hB.heap HQ.out
          obtain ⟨q0, q1, q2, q3, q4⟩ := cells5 hq
          have hlt0 := heap_lt hq
          have HQr := hid hq
          clear hq
          by_cases hlt : k < n
          · obtain ⟨b, off, x, rfl, hb, hx, hd, hcc⟩ := hs.at_ (hE1.trans hB) hlt
            have e0 := hcc 0 _ rfl
            have e1 := hcc 1 _ rfl
            have e2 := hcc 2 _ rfl
            have e3 := hcc 3 _ rfl
            have e4 := hcc 4 _ rfl
            clear hcc
            simp only [Nat.add_zero] at e0
            have HVT := hid (M.vt_ref f x)
            have H := hid hd
            clear hd hx
            have hbad : M.validTally f x = false → M.check f = 1 := fun hbad => M.check_1 H3.out (by rw [HVA.out, ← hall.out, H.out, List.all_cons, hbad, Bool.false_and])
            have HBAD := hid hbad
            clear hbad
            cases h1 : M.isIn x.wd 0 (f.wds - 1) with
            | false =>
              go_wp2_with (first | (go_at_call 33; ((with_reducible refine (In_s _ _ _ _).mono ?_); rintro e w2 ⟨rfl, rfl⟩)))
              go_ret
              exact ⟨ret_int (HBAD.out (by rw [HVT.out, h1]; rfl)).symm, hE1.trans (Ev.alloc hB _)⟩
            | true =>
            cases h2 : M.isIn x.fr 0 (f.rows - 1) with
            | false =>
              go_wp2_with (first | (go_at_call 33; ((with_reducible refine (In_s _ _ _ _).mono ?_); rintro e w2 ⟨rfl, rfl⟩)))
              go_ret
              exact ⟨ret_int (HBAD.out (by rw [HVT.out, h1, h2]; rfl)).symm, hE1.trans (Ev.alloc hB _)⟩
            | true =>
            cases h3 : M.isIn x.to x.fr (f.rows - 1) with
            | false =>
              go_wp2_with (first | (go_at_call 33; ((with_reducible refine (In_s _ _ _ _).mono ?_); rintro e w2 ⟨rfl, rfl⟩)))
              go_ret
              exact ⟨ret_int (HBAD.out (by rw [HVT.out, h1, h2, h3]; rfl)).symm, hE1.trans (Ev.alloc hB _)⟩
            | true =>
            cases h4 : M.within x.ct 0 f.rows with
            | false =>
              go_wp2_with (first | (go_at_call 33; ((with_reducible refine (In_s _ _ _ _).mono ?_); rintro e w2 ⟨rfl, rfl⟩)) | (go_at_call 99; ((with_reducible refine (Within_c x.ct _ _ _).mono ?_); rintro e w3 ⟨rfl, hb3⟩)))
              go_ret
              exact ⟨ret_int (HBAD.out (by rw [HVT.out, h1, h2, h3, h4]; rfl)).symm, hE1.trans ((Ev.alloc hB _).trans hb3)⟩
            | true =>
              have hv : M.validTally f x = true := by rw [HVT.out, h1, h2, h3, h4]; rfl
              have HV := hid hv
              clear hv
              go_wp2_with (first | (go_at_call 33; ((with_reducible refine (In_s _ _ _ _).mono ?_); rintro e w2 ⟨rfl, rfl⟩)) | (go_at_call 99; ((with_reducible refine (Within_c x.ct _ _ _).mono ?_); rintro e w3 ⟨rfl, hb3⟩)))
              refine ⟨⟨k + 1, by go_num, by omega, (Ev.alloc hB _).trans hb3, ?_⟩, by simp [intOf]; omega⟩
              exact hid (by rw [← hall.out, H.out, List.all_cons, HV.out, Bool.true_and])
          · have hall2 : M.valid f = true := by rw [HVA.out, ← hall.out, hs.done hlt]; rfl
            have hcp := M.check_p H3.out hall2
            have HCP := hid hcp
            clear hall2 hcp
            by_cases hp : M.power f > 2500
            · have hv : M.check f = 3 := by rw [HCP.out, if_pos hp]
              have HV := hid hv
              clear hv
              go_wp2_with (go_at_call 65; ((with_reducible refine (Many_c f A n c _ (by omega) (by omega) (by omega) (by omega)).mono ?_); rintro e w2 ⟨rfl, hb2⟩))
              go_ret
              exact ⟨ret_int HV.out.symm, hE1.trans (hB.trans hb2)⟩
            · have hv : M.check f = 0 := by rw [HCP.out, if_neg hp]
              have HV := hid hv
              clear hv
              go_wp2_with (go_at_call 65; ((with_reducible refine (Many_c f A n c _ (by omega) (by omega) (by omega) (by omega)).mono ?_); rintro e w2 ⟨rfl, hb2⟩))
              go_ret
              exact ⟨ret_int HV.out.symm, hE1.trans (hB.trans hb2)⟩

end Go.Proofs.Ytcecmphdmpeibaa
