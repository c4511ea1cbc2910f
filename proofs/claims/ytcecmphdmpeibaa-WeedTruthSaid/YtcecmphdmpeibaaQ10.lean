import Derived.Test.YtcecmphdmpeibaaL42
set_option linter.unusedSimpArgs false
set_option linter.unusedVariables false
namespace Go.Proofs.Ytcecmphdmpeibaa
open Go.RowKit

set_option maxRecDepth 100000 in
set_option maxHeartbeats 8000000 in
theorem weedTruth_c (f : M.Fl) (A : Option Addr) (n c : Nat) (a : Int) (a0 : 0 ≤ a) (a1 : a < 65536) (Aw : Option Addr) (m cw : Nat) (ws : List Int) (hw : ∀ x ∈ ws, 0 ≤ x ∧ x < 65536) (w : World) (hs : n ≤ 7 → Sl tcs 5 w w.heap.size A n c f.ts) (hsw : Sl0 wcs 1 w w.heap.size Aw m ws) (hmc : m ≤ cw) (hcm : cw ≤ maxLen) :
    Calls Try.prog 10 #[.agg #[.int .i64 f.rows, .int .i64 f.wds, .int .i64 f.lf.lo, .int .i64 f.lf.hi, .slice A n c], .int .u16 a, .slice Aw m cw] w fun e w' => e = .returned (.bool true) ∧ Ev w w' := by
  have hrd := fun W (hE : Ev w W) => ready_c f A n c W (fun h => (hs h).ev hE)
  cases hready : M.rdy f n with
  | false =>
    rw [hready] at hrd
    have HRD := hid hrd
    clear hrd hready hs
    go_enter Try.func10, Try.ntmps10
    go_wp2_with (first | (go_at_call 52; ((with_reducible refine (HRD.out _ (Ev.alloc (Ev.refl _) _)).mono ?_); rintro e w1 ⟨rfl, hb1⟩; have HQ := hid (hb1.heap (alloc1 w (.cells #[.int .i64 f.rows, .int .i64 f.wds, .int .i64 f.lf.lo, .int .i64 f.lf.hi, .slice A n c] 26)).1); obtain ⟨q0, q1, q2, q3, q4⟩ := cells5 HQ.out; have hE1 : Ev w w1 := Ev.trans (Ev.alloc (Ev.refl _) _) hb1; have hG1 := Ev.refl w1)) | (go_at_call 21; ((with_reducible refine (awake_c _).mono ?_); rintro e w2 ⟨rfl, hb2⟩; have hG2 := hG1.trans hb2)))
    go_ret
    exact ⟨rfl, hE1.trans hG2⟩
  | true =>
    rw [hready] at hrd
    unfold M.rdy at hready
    simp only [Bool.and_eq_true, decide_eq_true_eq] at hready
    obtain ⟨⟨h7, _⟩, h0⟩ := hready
    replace hs := hs h7
    obtain ⟨r1, r7, d1, d3, _, n5'⟩ := M.check_bd h0
    have hsay := M.say_nth h0 (a % M.power f).toNat
    have hck := M.told_check h0 hsay hw
    have hm := M.told_mem h0 hsay hw
    have htd := fun W (hE : Ev w W) => Told_c f h0 A n c a a0 a1 Aw m cw ws hw W (hsw.ev hE) hmc hcm _ rfl
    have hN5 := M.toldN_le (ws := ws)
    have htn : (M.toldF f (M.nth f (a % M.power f).toNat) ws).ts.length = M.toldN ws := by simp [M.toldF]
    have hxe : M.toldF f (M.nth f (a % M.power f).toNat) ws = ⟨f.rows, f.wds, M.toldL f (M.nth f (a % M.power f).toNat), (M.toldF f (M.nth f (a % M.power f).toNat) ws).ts⟩ := rfl
    generalize M.nth f (a % M.power f).toNat = t at hsay hck hm htd htn hxe
    generalize hts : (M.toldF f t ws).ts = ts at *
    rw [hxe] at hck hm
    generalize M.toldL f t = lf at hck hm htd
    generalize M.toldN ws = N at *
    clear hxe hts
    have hlen : t.length = f.rows.toNat := by have := hsay.1; omega
    have hb0 := M.begin_of_mem hck hm
    have hfi := M.first_of_mem hck hm
    have hpt := M.prove_of_mem hck hm
    have hlv0 : (M.leaveBest ⟨f.rows, f.wds, lf, ts⟩).length = 0 := (M.leave_nil hck).2 (fun e => by rw [e] at hm; cases hm)
    have hwh : ∀ r : Nat, r < f.rows.toNat → M.has (M.who ⟨f.rows, f.wds, lf, ts⟩ r (M.truths ⟨f.rows, f.wds, lf, ts⟩)) (t.getD r 0) = true := fun r hr => M.who_of_mem hck hm (by omega)
    obtain ⟨D, hD⟩ := Int.eq_ofNat_of_zero_le (show 0 ≤ f.wds by omega)
    obtain ⟨R, hR⟩ := Int.eq_ofNat_of_zero_le (show 0 ≤ f.rows by omega)
    have hRn : f.rows.toNat = R := by omega
    have hbt := hb0 true rfl
    have hdl : (M.done ⟨f.rows, f.wds, lf, ts⟩).length = D := by rw [M.done_len]; show f.wds.toNat = D; omega
    have hdk : ∀ k, k < D → ∃ y, (M.done ⟨f.rows, f.wds, lf, ts⟩)[k]? = some y ∧ M.inR (M.cnt (k : Int) t) y = true := by
      intro k hk
      refine ⟨M.rdone k (M.rtruths ⟨f.rows, f.wds, lf, ts⟩), ?_, ?_⟩
      · unfold M.done
        rw [List.getElem?_map, List.getElem?_range (by show k < f.wds.toNat; omega)]
        simp only [Option.map_some]
        rw [M.done_same hck (by
          have h1 := M.truths_empty hck
          rcases Nat.eq_zero_or_pos (M.truths ⟨f.rows, f.wds, lf, ts⟩).length with h2 | h2
          · rw [List.eq_nil_of_length_eq_zero (h1.1 h2)] at hm; cases hm
          · exact h2)]
      · rw [← M.rnum_cnt2]; exact M.rdone_mem hm
    have hsum := M.sumTo_all t D (fun y hy => by have := hsay.2 y hy; omega)
    have hsbd := M.sumTo_bd t
    have hcbd := fun k : Nat => M.cnt_bd (k : Int) t
    have hst : ∀ k : Nat, M.sumTo t (k + 1) = M.sumTo t k + M.cnt (k : Int) t := fun k => rfl
    have hs0 : M.cnt (-1) t = M.sumTo t 0 := rfl
    have hdn : ∀ B d W, Sl tcs 5 W W.heap.size B N d (ts) → Calls Try.prog 28 #[.agg #[.int .i64 f.rows, .int .i64 f.wds, .int .i64 lf.lo, .int .i64 lf.hi, .slice B N d]] W fun e w' => (∃ B' d', e = .returned (.tuple #[.slice B' D d', .int .i64 0]) ∧ Sl rgc 2 w' w'.heap.size B' D d' (M.done ⟨f.rows, f.wds, lf, ts⟩)) ∧ Ev W w' := by
      intro B d W h
      have h' := (fun B n d W h => Done_c ⟨f.rows, f.wds, lf, ts⟩ B n d W h) B N d W h
      unfold fv at h'
      simp only [hbt, hdl, ↓reduceIte] at h'
      exact h'.mono (fun e w' h => h)
    have hlv : ∀ B d W, Sl tcs 5 W W.heap.size B N d (ts) → Calls Try.prog 44 #[.agg #[.int .i64 f.rows, .int .i64 f.wds, .int .i64 lf.lo, .int .i64 lf.hi, .slice B N d]] W fun e w' => (∃ B' d', e = .returned (.tuple #[.slice B' 0 d', .int .i64 0])) ∧ Ev W w' := by
      intro B d W h
      have h' := (fun B n d W h => Leave_c ⟨f.rows, f.wds, lf, ts⟩ B n d W h) B N d W h
      unfold fv at h'
      simp only [hck, hlv0, ↓reduceIte] at h'
      exact h'.mono (fun e w' ⟨⟨B', d', h1, _⟩, h2⟩ => ⟨⟨B', d', h1⟩, h2⟩)
    have hfs : ∀ B d W, Sl tcs 5 W W.heap.size B N d (ts) → Calls Try.prog 43 #[.agg #[.int .i64 f.rows, .int .i64 f.wds, .int .i64 lf.lo, .int .i64 lf.hi, .slice B N d]] W fun e w' => e = .returned (.tuple #[.int .i64 0, .int .i64 7]) ∧ Ev W w' := by
      intro B d W h
      have h' := (fun B n d W h => First_c ⟨f.rows, f.wds, lf, ts⟩ B n d W h) B N d W h
      unfold fv at h'
      simp only [hfi, ↓reduceIte] at h'
      exact h'.mono (fun e w' h => h)
    have hpv : ∀ B d W, Sl tcs 5 W W.heap.size B N d ts → ∀ B2 d2, Sl ics 1 W W.heap.size B2 R d2 t → Calls Try.prog 25 #[.agg #[.int .i64 f.rows, .int .i64 f.wds, .int .i64 lf.lo, .int .i64 lf.hi, .slice B N d], .slice B2 R d2] W fun e w' => e = .returned (.bool true) ∧ Ev W w' := by
      intro B d W h B2 d2 h2
      have h' := ProveTruth_c ⟨f.rows, f.wds, lf, ts⟩ t B2 R d2 B N d W h h2
      rw [hpt] at h'
      unfold fv at h'
      exact h'
    have hwo : ∀ r : Nat, r < R → ∀ B d W, Sl tcs 5 W W.heap.size B N d ts → Calls Try.prog 32 #[.agg #[.int .i64 f.rows, .int .i64 f.wds, .int .i64 lf.lo, .int .i64 lf.hi, .slice B N d], .int .i64 r] W fun e w' => (∃ who : List Int, ∃ B' d', e = .returned (.tuple #[.slice B' who.length d', .int .i64 0]) ∧ Sl ics 1 w' w'.heap.size B' who.length d' who ∧ M.has who (t.getD r 0) = true) ∧ Ev W w' := by
      intro r hr B d W h
      have h' := Who_c ⟨f.rows, f.wds, lf, ts⟩ r B N d W h
      have hbr : M.begin ⟨f.rows, f.wds, lf, ts⟩ (M.hasRow ⟨f.rows, f.wds, lf, ts⟩ r) = 0 := hb0 _ (by unfold M.hasRow; simp only [Bool.and_eq_true, decide_eq_true_eq]; show 0 ≤ (r : Int) ∧ (r : Int) < f.rows; omega)
      unfold fv at h'
      simp only [hbr, ↓reduceIte] at h'
      exact h'.mono (fun e w' ⟨⟨B', d', h1, h2⟩, h3⟩ => ⟨⟨_, B', d', h1, h2, hwh r (by omega)⟩, h3⟩)
    have hfx : ∀ B d W, Sl tcs 5 W W.heap.size B N d ts → Calls Try.prog 24 #[.agg #[.int .i64 f.rows, .int .i64 f.wds, .int .i64 lf.lo, .int .i64 lf.hi, .slice B N d]] W fun e w' => (∃ B d, e = .returned (.agg #[.int .i64 f.rows, .int .i64 f.wds, .int .i64 lf.lo, .int .i64 lf.hi, .slice B N d]) ∧ Sl tcs 5 w' w'.heap.size B N d ts) ∧ Ev W w' := fun B d W h => Field_c ⟨f.rows, f.wds, lf, ts⟩ B N d (by omega) W h
    have hli : ∀ B2 d2 W, Sl ics 1 W W.heap.size B2 R d2 t → Calls Try.prog 26 #[.slice B2 R d2] W fun e w' => (∃ B d, e = .returned (.slice B R d) ∧ Sl ics 1 w' w'.heap.size B R d t) ∧ Ev W w' := fun B2 d2 W h => list_d B2 R d2 t (by omega) W h
    have hdd : ∀ (x : Int) B2 d2 W, Sl ics 1 W W.heap.size B2 R d2 t → Calls Try.prog 54 #[.slice B2 R d2, .int .i64 x, .int .i64 0, .int .i64 (f.rows - 1)] W fun e w' => e = .returned (.int .i64 (M.cnt x t)) ∧ Ev W w' := by
      intro x B2 d2 W h
      have h' := Did_s B2 R d2 t x 0 (f.rows - 1) (by omega) (by omega) (by omega) W h
      have e1 : M.count t x 0 (f.rows - 1) = M.cnt x t := by rw [← M.rnum_cnt2]; unfold M.rnum; rw [show (t.length : Int) - 1 = f.rows - 1 by omega]
      rw [e1] at h'
      exact h'.mono (fun e w' h => ⟨h.1, by rw [h.2]; exact Ev.refl _⟩)
    have htx : ∀ W, Ev w W → Calls Try.prog 53 #[.agg #[.int .i64 f.rows, .int .i64 f.wds, .int .i64 f.lf.lo, .int .i64 f.lf.hi, .slice A n c], .int .u16 a, .slice Aw m cw] W fun e w' => (∃ B d R' e2, e = .returned (.tuple #[.agg #[.int .i64 f.rows, .int .i64 f.wds, .int .i64 lf.lo, .int .i64 lf.hi, .slice B N d], .slice R' R e2]) ∧ Sl tcs 5 w' w'.heap.size B N d ts ∧ Sl ics 1 w' w'.heap.size R' R e2 t) ∧ Ev W w' := by
      intro W hE
      have h' := htd W hE
      rw [hRn] at h'
      exact h'
    generalize M.done ⟨f.rows, f.wds, lf, ts⟩ = dn at hdn hdk
    have hD3 : D ≤ 3 := by omega
    have hR7 : R ≤ 7 := by omega
    have u1 : ((D : Int) != f.wds) = false := by simp; omega
    have u2 : IntKind.i64.wrap (f.rows - 1) = f.rows - 1 := IntWalk.i64_in _ (by omega)
    have HDN := hid hdn
    have HLV := hid hlv
    have HFI := hid hfs
    have HPV := hid hpv
    have HWO := hid hwo
    have HFX := hid hfx
    have HLI := hid hli
    have HDD := hid hdd
    have HTD := hid htx
    have HDK := hid hdk
    have HSUM := hid hsum
    have HSBD := hid hsbd
    have HCBD := hid hcbd
    have HST := hid hst
    have HS0 := hid hs0
    have HLEN := hid (show t.length = R by omega)
    have HRD := hid hrd
    have HDE := hid hD
    have HRE := hid hR
    clear hD hR hRn hdn hlv hfs hpv hwo hfx hli hdd htx htd hdk hsum hsbd hcbd hst hs0 hlen hrd hsay hck hm hb0 hfi hpt hlv0 hwh hbt hdl h0 hs htn hsw hw hmc hcm
    go_enter Try.func10, Try.ntmps10
    go_upto_region 3 with (go_at_call 52; ((with_reducible refine (HRD.out _ (Ev.alloc (Ev.refl _) _)).mono ?_); rintro e w1 ⟨rfl, hb1⟩; have HQ := hid (hb1.heap (alloc1 w (.cells #[.int .i64 f.rows, .int .i64 f.wds, .int .i64 f.lf.lo, .int .i64 f.lf.hi, .slice A n c] 26)).1); obtain ⟨q0, q1, q2, q3, q4⟩ := cells5 HQ.out; have hE1 : Ev w w1 := Ev.trans (Ev.alloc (Ev.refl _) _) hb1; have hG1 := Ev.refl w1))
    go_upto_region 4 with (go_at_call 53; ((with_reducible refine (HTD.out _ hE1).mono ?_); rintro e w2 ⟨⟨B, d, R', e2, rfl, hsx, hst2⟩, hb2⟩; have HSX := hid hsx; have HT := hid hst2; have hE2 := hE1.trans hb2; clear hsx hst2))
    generalize hW3 : World.alloc w2 _ = W3
    have hE3 : Ev w2 W3 := by rw [← hW3]; exact Ev.alloc (Ev.refl _) _
    have HX := hid (show W3.heap[w2.heap.size]? = some (.cells #[.int .i64 f.rows, .int .i64 f.wds, .int .i64 lf.lo, .int .i64 lf.hi, .slice B N d] 26 (0, 0)) by rw [← hW3]; exact (alloc1 w2 _).1)
    have HEW := hid (hE2.trans hE3)
    have HSX3 := hid (HSX.out.ev hE3)
    have HT3 := hid (HT.out.ev hE3)
    clear hW3 hE3 hE2 hb2 hb1 hG1 hE1 q0 q1 q2 q3 q4 HQ HSX HT HRD HTD
    obtain ⟨x0, x1, x2, x3, x4⟩ := cells5 HX.out
    have hG0 := Ev.refl W3
    go_upto_region 5 with (first | (go_at_call 28; ((with_reducible refine (HDN.out _ _ _ HS1.out).mono ?_); rintro e w2 ⟨⟨B2, d2, rfl, hs2⟩, hb2⟩; have hG2 := hG1.trans hb2; clear HS1; have HD := hid hs2; clear hs2)) | (go_at_call 24; ((with_reducible refine (HFX.out _ _ _ (HSX3.out.ev hG0)).mono ?_); rintro e w1 ⟨⟨B1, d1, rfl, hs1⟩, hb1⟩; have hG1 := hG0.trans hb1; have HS1 := hid hs1; clear hs1)))
    clear x0 x1 x2 x3 x4
    obtain ⟨x0, x1, x2, x3, x4⟩ := cells5 (hG2.heap HX.out)
    go_upto_region 6 with (first | (go_at_call 44; ((with_reducible refine (HLV.out _ _ _ HS3.out).mono ?_); rintro e w4 ⟨⟨B4, d4, rfl⟩, hb4⟩; have hG4 := hG3.trans hb4; clear HS3)) | (go_at_call 24; ((with_reducible refine (HFX.out _ _ _ (HSX3.out.ev hG2)).mono ?_); rintro e w3 ⟨⟨B3, d3, rfl, hs3⟩, hb3⟩; have hG3 := hG2.trans hb3; have HS3 := hid hs3; clear hs3)))
    clear x0 x1 x2 x3 x4
    obtain ⟨x0, x1, x2, x3, x4⟩ := cells5 (hG4.heap HX.out)
    go_upto_region 7 with (first | (go_at_call 43; ((with_reducible refine (HFI.out _ _ _ HS5.out).mono ?_); rintro e w6 ⟨rfl, hb6⟩; have hG6 := hG5.trans hb6; clear HS5)) | (go_at_call 24; ((with_reducible refine (HFX.out _ _ _ (HSX3.out.ev hG4)).mono ?_); rintro e w5 ⟨⟨B5, d5, rfl, hs5⟩, hb5⟩; have hG5 := hG4.trans hb5; have HS5 := hid hs5; clear hs5)))
    clear x0 x1 x2 x3 x4
    obtain ⟨x0, x1, x2, x3, x4⟩ := cells5 (hG6.heap HX.out)
    go_upto_region 9 with (first | (go_at_call 24; ((with_reducible refine (HFX.out _ _ _ (HSX3.out.ev hG6)).mono ?_); rintro e w7 ⟨⟨B7, d7, rfl, hs7⟩, hb7⟩; have hG7 := hG6.trans hb7; have HS7 := hid hs7; clear hs7)) | (go_at_call 26; ((with_reducible refine (HLI.out _ _ _ (HT3.out.ev hG7)).mono ?_); rintro e w8 ⟨⟨B8, d8, rfl, hs8⟩, hb8⟩; have hG8 := hG7.trans hb8; have HS8 := hid hs8; clear hs8)) | (go_at_call 25; ((with_reducible refine (HPV.out _ _ _ (HS7.out.ev hb8) _ _ HS8.out).mono ?_); rintro e w9 ⟨rfl, hb9⟩; have hG9 := hG8.trans hb9; clear HS7 HS8)))
    clear x0 x1 x2 x3 x4
    obtain ⟨x0, x1, x2, x3, x4⟩ := cells5 (hG9.heap HX.out)
    go_upto_region 10 with (go_at_call 54; ((with_reducible refine (HDD.out _ _ _ _ (HT3.out.ev hG9)).mono ?_); rintro e w10 ⟨rfl, hb10⟩; have hG10 := hG9.trans hb10))
    have HD2 := hid (HD.out.ev ((((((((hb3.trans hb4).trans hb5).trans hb6).trans hb7).trans hb8).trans hb9).trans hb10)))
    have HG10 := hid hG10
    clear HD x0 x1 x2 x3 x4 hb1 hb2 hb3 hb4 hb5 hb6 hb7 hb8 hb9 hb10 hG0 hG1 hG2 hG3 hG4 hG5 hG6 hG7 hG8 hG9 hG10 HDN HLV HFI HPV HLI
    rw [HS0.out]
    go_wp2_with fail
    go_loopw [15, 16] (fun s i wr => ∃ k : Nat, s = .int .i64 (M.sumTo t k) ∧ i = .int .i64 k ∧ k ≤ D ∧ Ev w10 wr) (fun _ i _ => D - (intOf i).toNat)
    case atStart => exact ⟨0, rfl, rfl, by omega, Ev.refl _⟩
    case round =>
      obtain ⟨k, rfl, rfl, hk, hB⟩ := hrel
      by_cases hlt : k < D
      · obtain ⟨b, off, y, rfl, hb, hy, _, hcc⟩ := HD2.out.at_ hB hlt
        obtain ⟨z, hz, hin⟩ := HDK.out k hlt
        obtain rfl : z = y := Option.some.inj (hz.symm.trans hy)
        have e0 := hcc 0 _ rfl
        have e1 := hcc 1 _ rfl
        simp only [Nat.add_zero] at e0
        have hcap := HD2.out.cap
        have hic := fun W => inR_c (M.cnt (k : Int) t) z W
        rw [hin] at hic
        have HIN := hid hic
        have hsb := HSBD.out k
        have hcb := HCBD.out k
        have hst := HST.out k
        have hln := HLEN.out
        have hsb2 : M.sumTo t k ≤ 28 := by
          have h1 : ((k : Int) + 1) * t.length ≤ 4 * 7 := Int.mul_le_mul (by omega) (by omega) (by omega) (by omega)
          omega
        have hbb : b < wr.heap.size := by have := hB.size; omega
        clear hic hy hz hin hcc
        obtain ⟨x0, x1, x2, x3, x4⟩ := cells5 ((HG10.out.trans hB).heap HX.out)
        have hDk := HDD.out (k : Int) _ _ _ (HT3.out.ev (HG10.out.trans hB))
        have HDk := hid hDk
        have HE01 : Hid (∀ w', Ev wr w' → (w'.cell? ⟨b, off + k * 2, none⟩ = some (.int .i64 z.lo) ∧ w'.cell? ⟨b, off + k * 2 + 1, none⟩ = some (.int .i64 z.hi))) := hid (fun w' h => ⟨(h.cells.1 _ _ hbb).trans e0, (h.cells.1 _ _ hbb).trans e1⟩)
        clear hDk e0 e1
        generalize M.cnt (k : Int) t = cn at *
        generalize M.sumTo t k = sm at *
        have s1 : IntKind.i64.wrap (sm + cn) = sm + cn := IntWalk.i64_in _ (by omega)
        go_wp2_with (first | (go_at_call 54; ((with_reducible refine HDk.out.mono ?_); rintro e w11 ⟨rfl, hb11⟩; obtain ⟨e0, e1⟩ := HE01.out _ hb11)) | (go_at_call 55; ((with_reducible refine (HIN.out _).mono ?_); rintro e w12 ⟨rfl, hb12⟩)))
        exact ⟨⟨k + 1, by first | rfl | (rw [hst]), by go_num, by omega, hB.trans (hb11.trans hb12)⟩, by simp [intOf]; omega⟩
      · obtain rfl : k = D := by omega
        obtain ⟨x0, x1, x2, x3, x4⟩ := cells5 ((HG10.out.trans hB).heap HX.out)
        have HB := hid (HG10.out.trans hB)
        have hsu : M.sumTo t k = f.rows := by rw [HSUM.out, HLEN.out]; have := HRE.out; omega
        rw [hsu]
        clear hB
        obtain ⟨wq, hwq⟩ : ∃ x, x = wr := ⟨_, rfl⟩
        subst hwq
        go_wp2_with fail
        go_loopw [18] (fun i wr => ∃ r : Nat, i = .int .i64 r ∧ r ≤ R ∧ Ev wq wr) (fun i _ => R - (intOf i).toNat)
        case atStart => exact ⟨0, rfl, by omega, Ev.refl _⟩
        case round =>
          obtain ⟨r, rfl, hr, hB⟩ := hrel
          clear x0 x1 x2 x3 x4
          obtain ⟨x0, x1, x2, x3, x4⟩ := cells5 ((HB.out.trans hB).heap HX.out)
          by_cases hlt : r < R
          · have hrl : (r : Int) < f.rows := by have := HRE.out; omega
            have HW := hid (HWO.out r hlt)
            obtain ⟨b, off, y, rfl, hb, hy, _, e0⟩ := HT3.out.int (HB.out.trans hB) hlt
            have hyt : t.getD r 0 = y := by rw [List.getD_eq_getElem?_getD, hy]; rfl
            have hcap := HT3.out.cap
            have hbb : b < wr.heap.size := by have := (HB.out.trans hB).size; omega
            have HE0 : Hid (∀ w', Ev wr w' → w'.cell? ⟨b, off + r, none⟩ = some (.int .i64 y)) := hid (fun w' h => (h.cells.1 _ _ hbb).trans e0)
            rw [hyt] at HW
            clear hy hyt e0
            go_wp2_with (first | (go_at_call 24; ((with_reducible refine (HFX.out _ _ _ (HSX3.out.ev (HB.out.trans hB))).mono ?_); rintro e w13 ⟨⟨B13, d13, rfl, hs13⟩, hb13⟩; have HS13 := hid hs13; clear hs13)) | (go_at_call 32; ((with_reducible refine (HW.out _ _ _ HS13.out).mono ?_); rintro e w14 ⟨⟨who, B14, d14, rfl, hs14, hha⟩, hb14⟩; have e0 := HE0.out _ (hb13.trans hb14); have hhc := has_c B14 who.length d14 who y w14 hs14; rw [hha] at hhc; have HHC := hid hhc; clear hhc hs14)) | (go_at_call 56; ((with_reducible refine HHC.out.mono ?_); rintro e w15 ⟨rfl, h15⟩; cases h15)))
            exact ⟨⟨r + 1, by go_num, by omega, hB.trans (hb13.trans hb14)⟩, by simp [intOf]; omega⟩
          · have hrl : ¬ ((r : Int) < f.rows) := by have := HRE.out; omega
            go_wp2_with (first | (go_at_call 21; ((with_reducible refine (awake_c _).mono ?_); rintro e w16 ⟨rfl, hb16⟩)))
            go_ret
            exact ⟨rfl, HEW.out.trans ((HB.out.trans hB).trans hb16)⟩

end Go.Proofs.Ytcecmphdmpeibaa
