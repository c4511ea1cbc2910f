import Derived.Test.YtcecmphdmpeibaaQ12
set_option linter.unusedSimpArgs false
set_option linter.unusedVariables false
namespace Go.Proofs.Ytcecmphdmpeibaa
open Go.RowKit

theorem did_table : ((List.range 5).all fun n => (decide (M.tobits (List.replicate n true) 0 0 = 0) && decide (M.tobits (List.replicate n false) 0 0 = 2 ^ n - 1)) && (M.bools n).all fun x => decide (M.tobits x 0 0 < 128) && (List.range n).all fun j => decide (M.tobits x 0 0 ||| 2 ^ j = M.tobits (x.set j false) 0 0)) = true := by decide +kernel
theorem M.did_bits {n : Nat} (hn : n ≤ 4) : (M.tobits (List.replicate n true) 0 0 = 0 ∧ M.tobits (List.replicate n false) 0 0 = 2 ^ n - 1) ∧ ∀ x : List Bool, x.length = n → M.tobits x 0 0 < 128 ∧ ∀ j, j < n → M.tobits x 0 0 ||| 2 ^ j = M.tobits (x.set j false) 0 0 := by
  have h0 := did_table
  rw [List.all_eq_true] at h0
  have h1 := h0 n (List.mem_range.2 (by omega))
  simp only [Bool.and_eq_true, List.all_eq_true, decide_eq_true_eq] at h1
  obtain ⟨h2, h3⟩ := h1
  refine ⟨h2, fun x hx => ?_⟩
  obtain ⟨h4, h5⟩ := h3 x (by rw [← hx]; exact M.mem_bools x)
  exact ⟨h4, fun j hj => h5 j (List.mem_range.2 hj)⟩

/-- What has been met, as the law keeps it. -/
def M.mv (p q : Bool) : Int := if p then (if q then 3 else 1) else (if q then 2 else 0)
theorem mv_or (p q : Bool) : bits .or .i64 (M.mv p q) 1 = M.mv true q ∧ bits .or .i64 (M.mv p q) 2 = M.mv p true := by
  cases p <;> cases q <;> decide +kernel

theorem M.done_met {f : M.Fl} (h : M.check f = 0) (hne : (M.rtruths f).length ≠ 0) (x : Int) : (∃ t ∈ M.rtruths f, M.rnum x t = (M.rdone x (M.rtruths f)).lo) ∧ ∃ t ∈ M.rtruths f, M.rnum x t = (M.rdone x (M.rtruths f)).hi := by
  obtain ⟨r1, r7, d1, d3, _, _⟩ := M.check_bd h
  have hn : 0 < (M.truths f).length := by
    have := M.truths_empty h
    omega
  obtain ⟨_, ⟨t, ht, h1⟩, ⟨u, hu, h2⟩⟩ := M.bounds_spec (f := f) (x := x) hn
  rw [M.done_same h hn] at h1 h2
  obtain ⟨t', ht', rfl⟩ := (M.truths_same h t).1 ht
  obtain ⟨u', hu', rfl⟩ := (M.truths_same h u).1 hu
  have hsay : ∀ l ∈ M.rtruths f, M.Say f l := fun l hl => ((M.mem_rtruths h l).1 hl).1
  rw [M.number_pad r1 (hsay _ ht')] at h1
  rw [M.number_pad r1 (hsay _ hu')] at h2
  exact ⟨⟨t', ht', h1⟩, ⟨u', hu', h2⟩⟩

theorem M.mem_whoF {row : Int} {ts : List (List Int)} {y : Int} : ∀ (j k : Nat), y ∈ M.whoFrom row ts k j → M.whoF row ts y = true
  | 0, k, h => by simp [M.whoFrom] at h
  | j + 1, k, h => by
    rw [M.whoFrom] at h
    rcases List.mem_append.1 h with h | h
    · split at h
      · rename_i hc
        rw [List.mem_singleton.1 h]; exact hc
      · cases h
    · exact M.mem_whoF j (k + 1) h
theorem M.whoFrom_len (row : Int) (ts : List (List Int)) : ∀ (j k : Nat), (M.whoFrom row ts k j).length ≤ j
  | 0, k => Nat.le_refl _
  | j + 1, k => by
    rw [M.whoFrom, List.length_append]
    have := M.whoFrom_len row ts j (k + 1)
    split <;> simp <;> omega

set_option maxRecDepth 100000 in
set_option maxHeartbeats 4000000 in
theorem weedEnds_c (f : M.Fl) (A : Option Addr) (n c : Nat) (a b : Int) (a0 : 0 ≤ a) (a1 : a < 256) (b0 : 0 ≤ b) (b1 : b < 256) (w : World) (hs : n ≤ 7 → Sl tcs 5 w w.heap.size A n c f.ts) :
    Calls Try.prog 11 #[.agg #[.int .i64 f.rows, .int .i64 f.wds, .int .i64 f.lf.lo, .int .i64 f.lf.hi, .slice A n c], .int .u8 a, .int .u8 b] w fun e w' => e = .returned (.bool true) ∧ Ev w w' := by
  have hrd := fun W (hE : Ev w W) => ready_c f A n c W (fun h => (hs h).ev hE)
  cases hready : M.rdy f n with
  | false =>
    rw [hready] at hrd
    have HRD := hid hrd
    clear hrd hready hs
    go_enter Try.func11, Try.ntmps11
    go_wp2_with (first | (go_at_call 52; ((with_reducible refine (HRD.out _ (Ev.alloc (Ev.refl _) _)).mono ?_); rintro e w1 ⟨rfl, hb1⟩; have HQ := hid (hb1.heap (alloc1 w (.cells #[.int .i64 f.rows, .int .i64 f.wds, .int .i64 f.lf.lo, .int .i64 f.lf.hi, .slice A n c] 26)).1); obtain ⟨q0, q1, q2, q3, q4⟩ := cells5 HQ.out; have hE1 : Ev w w1 := Ev.trans (Ev.alloc (Ev.refl _) _) hb1; have hG1 := Ev.refl w1)) | (go_at_call 21; ((with_reducible refine (awake_c _).mono ?_); rintro e w2 ⟨rfl, hb2⟩; have hG2 := hG1.trans hb2)))
    go_ret
    exact ⟨rfl, hE1.trans hG2⟩
  | true =>
    rw [hready] at hrd
    unfold M.rdy at hready
    simp only [Bool.and_eq_true, decide_eq_true_eq] at hready
    obtain ⟨⟨h7, _⟩, h0⟩ := hready
    replace hs := hs h7
    obtain ⟨r1, r7, d1, d3, _, n5'⟩ := M.check_bd h0
    have ht := M.tally_of h0
    have hfd := fun W (hE : Ev w W) => Field_c f A n c (by omega) W (hs.ev hE)
    have htr := fun W (hE : Ev w W) => (Truths_c f r1 r7 d1 d3 (fun t hm => by have := ht t hm; omega) A n c W (hs.ev hE)).mono (R' := fun e w' => (∃ B d, e = .returned (.slice B (M.rtruths f).length d) ∧ LL w' B (M.rtruths f).length d (M.rtruths f)) ∧ Ev W w') (by
      rintro e w' ⟨⟨B, m, d, rfl, hl⟩, hb⟩
      have := hl.len
      exact ⟨⟨B, d, by rw [this], by rw [this]; exact hl⟩, hb⟩)
    have s1 : IntKind.i64.wrap a = a := IntWalk.i64_in _ (by omega)
    have s2 : IntKind.i64.wrap b = b := IntWalk.i64_in _ (by omega)
    obtain ⟨k, hk⟩ : ∃ k : Nat, a % f.wds = (k : Int) := Int.eq_ofNat_of_zero_le (Int.emod_nonneg _ (by omega))
    obtain ⟨r, hr⟩ : ∃ r : Nat, b % f.rows = (r : Int) := Int.eq_ofNat_of_zero_le (Int.emod_nonneg _ (by omega))
    have hk1 : (k : Int) < f.wds := by rw [← hk]; exact Int.emod_lt_of_pos _ (by omega)
    have hr1 : (r : Int) < f.rows := by rw [← hr]; exact Int.emod_lt_of_pos _ (by omega)
    have hk2 : a.tmod f.wds = (k : Int) := by rw [Int.tmod_eq_emod_of_nonneg a0]; exact hk
    have hr2 : b.tmod f.rows = (r : Int) := by rw [Int.tmod_eq_emod_of_nonneg b0]; exact hr
    have s3 : IntKind.i64.wrap (k : Int) = (k : Int) := IntWalk.i64_in _ (by omega)
    have s4 : IntKind.i64.wrap (r : Int) = (r : Int) := IntWalk.i64_in _ (by omega)
    have z2 : (f.wds == 0) = false := by simp; omega
    have z3 : ¬ (f.wds = 0) := by omega
    have z4 : (f.rows == 0) = false := by simp; omega
    have z5 : ¬ (f.rows = 0) := by omega
    have hrow : M.hasRow f (r : Int) = true := by
      unfold M.hasRow
      simp only [Bool.and_eq_true, decide_eq_true_eq]
      omega
    have hdn := fun B d W (h : Sl tcs 5 W W.heap.size B n d f.ts) => Done_c f B n d W h
    have hwh := fun B d W (h : Sl tcs 5 W W.heap.size B n d f.ts) => Who_c f (r : Int) B n d W h
    have hbg : M.begin f (M.hasRow f (r : Int)) = M.sureE f := by rw [M.begin_ref f _ h0, hrow]; rfl
    have hbt : M.begin f true = M.sureE f := by rw [M.begin_ref f _ h0]; rfl
    unfold fv at hdn hwh
    have HRD := hid hrd
    have HFD := hid hfd
    by_cases hz : (M.rtruths f).length = 0
    · have hsE : M.sureE f = 11 := by unfold M.sureE; rw [if_pos h0, if_pos hz]
      rw [hz] at htr
      generalize M.rtruths f = l at htr
      simp only [hbg, hsE, show ¬ (11 : Int) = 0 from by decide, ↓reduceIte] at hwh
      simp only [hbt, hsE, show ¬ (11 : Int) = 0 from by decide, ↓reduceIte] at hdn
      have HTR := hid htr
      have HDN := hid hdn
      have HWH := hid hwh
      clear hrd hfd htr hdn hwh hbg hbt hrow hz hsE hs ht h0 h7
      go_enter Try.func11, Try.ntmps11
      go_wp2_with (first | (go_at_call 52; ((with_reducible refine (HRD.out _ (Ev.alloc (Ev.refl _) _)).mono ?_); rintro e w1 ⟨rfl, hb1⟩; have HQ := hid (hb1.heap (alloc1 w (.cells #[.int .i64 f.rows, .int .i64 f.wds, .int .i64 f.lf.lo, .int .i64 f.lf.hi, .slice A n c] 26)).1); obtain ⟨q0, q1, q2, q3, q4⟩ := cells5 HQ.out; have hE1 : Ev w w1 := Ev.trans (Ev.alloc (Ev.refl _) _) hb1; have hG1 := Ev.refl w1)))
      go_wp2_with (go_quiet (fail))
      generalize hWd : World.drewN w1 _ = wd
      have hbd : Ev w1 wd := by rw [← hWd]; exact Ev.drewN (Ev.refl _) _
      replace HQ := hid (hbd.heap HQ.out)
      replace hE1 := hE1.trans hbd
      replace hG1 := Ev.refl wd
      clear hWd hbd hb1 q0 q1 q2 q3 q4
      obtain ⟨q0, q1, q2, q3, q4⟩ := cells5 HQ.out
      go_wp2_with (first | (go_at_call 24; ((with_reducible refine (HFD.out _ hE1).mono ?_); rintro e w2 ⟨⟨B2, d2, rfl, hs2⟩, hb2⟩; have hG2 := hG1.trans hb2; clear q0 q1 q2 q3 q4; obtain ⟨q0, q1, q2, q3, q4⟩ := cells5 (hG2.heap HQ.out); have HS2 := hid hs2; clear hs2)) | (go_at_call 28; ((with_reducible refine (HDN.out _ _ _ HS2.out).mono ?_); rintro e w3 ⟨rfl, hb3⟩; have hG3 := hG2.trans hb3; clear q0 q1 q2 q3 q4; obtain ⟨q0, q1, q2, q3, q4⟩ := cells5 (hG3.heap HQ.out))) | (go_at_call 24; ((with_reducible refine (HFD.out _ (hE1.trans hG3)).mono ?_); rintro e w4 ⟨⟨B4, d4, rfl, hs4⟩, hb4⟩; have hG4 := hG3.trans hb4; clear q0 q1 q2 q3 q4; obtain ⟨q0, q1, q2, q3, q4⟩ := cells5 (hG4.heap HQ.out); have HS4 := hid hs4; clear hs4)) | (go_at_call 32; ((with_reducible refine (HWH.out _ _ _ HS4.out).mono ?_); rintro e w5 ⟨rfl, hb5⟩; have hG5 := hG4.trans hb5; clear q0 q1 q2 q3 q4; obtain ⟨q0, q1, q2, q3, q4⟩ := cells5 (hG5.heap HQ.out))) | (go_at_call 57; ((with_reducible refine (HTR.out _ (hE1.trans hG5)).mono ?_); rintro e w6 ⟨⟨B6, d6, rfl, hl6⟩, hb6⟩; have hG6 := hG5.trans hb6; clear q0 q1 q2 q3 q4; obtain ⟨q0, q1, q2, q3, q4⟩ := cells5 (hG6.heap HQ.out); have HL6 := hid hl6; clear hl6)) | (go_at_call 21; ((with_reducible refine (awake_c _).mono ?_); rintro e w7 ⟨rfl, hb7⟩; have hG7 := hG6.trans hb7)))
      go_ret
      exact ⟨rfl, hE1.trans hG7⟩
    · have hsE : M.sureE f = 0 := by unfold M.sureE; rw [if_pos h0, if_neg hz]
      obtain ⟨⟨tl, htl, htl2⟩, ⟨th, hth, hth2⟩⟩ := M.done_met h0 hz (k : Int)
      have hda := M.done_at (by rw [hbt, hsE]) (show f.wds = ((f.wds.toNat : Nat) : Int) by omega) (show k < f.wds.toNat by omega)
      have hdl := M.done_len (f := f)
      simp only [hbg, hsE, ↓reduceIte, M.who_same h0 (show 0 ≤ (r : Int) by omega) hr1] at hwh
      simp only [hbt, hsE, ↓reduceIte] at hdn
      have hwl : (M.who f (r : Int) (M.rtruths f)).length ≤ (f.wds + 1).toNat := M.whoFrom_len _ _ _ _
      have hwm : ∀ y ∈ M.who f (r : Int) (M.rtruths f), ∃ t ∈ M.rtruths f, t.getD r 0 = y := by
        intro y hy
        have := M.mem_whoF _ _ hy
        unfold M.whoF at this
        rw [List.any_eq_true] at this
        obtain ⟨t, h1, h2⟩ := this
        exact ⟨t, h1, by simpa using h2⟩
      have hlen : ∀ t ∈ M.rtruths f, (t.length : Int) = f.rows := M.rt_len h0
      have hzb : (((M.rtruths f).length : Int) == 0) = false := by simpa using hz
      have hzt : ¬ (((M.rtruths f).length : Int) = 0) := by omega
      generalize M.rdone (k : Int) (M.rtruths f) = rd at hda htl2 hth2
      generalize M.done f = dl at hdn hda hdl
      generalize M.who f (r : Int) (M.rtruths f) = who at hwh hwl hwm
      generalize M.rtruths f = l at htr htl hth hwm hlen hzb hzt
      have hdw : ((dl.length : Nat) : Int) = f.wds := by omega
      have hww : ¬ ((who.length : Int) > f.wds + 1) := by omega
      have hww2 : ¬ (f.wds + 1 < (who.length : Int)) := by omega
      have HTR := hid htr
      have HDN := hid hdn
      have HWH := hid hwh
      have HWM := hid hwm
      have HLEN := hid hlen
      have HDA := hid hda
      have HTL := hid htl2
      have HTH := hid hth2
      have HDW := hid hdw
      generalize hdlen : dl.length = dn at hdw HDN
      clear hrd hfd htr hdn hwh hbg hbt hrow hsE hs ht h0 h7 hwm hlen hda htl2 hth2 hz
      go_enter Try.func11, Try.ntmps11
      go_wp2_with (first | (go_at_call 52; ((with_reducible refine (HRD.out _ (Ev.alloc (Ev.refl _) _)).mono ?_); rintro e w1 ⟨rfl, hb1⟩; have HQ := hid (hb1.heap (alloc1 w (.cells #[.int .i64 f.rows, .int .i64 f.wds, .int .i64 f.lf.lo, .int .i64 f.lf.hi, .slice A n c] 26)).1); obtain ⟨q0, q1, q2, q3, q4⟩ := cells5 HQ.out; have hE1 : Ev w w1 := Ev.trans (Ev.alloc (Ev.refl _) _) hb1; have hG1 := Ev.refl w1)))
      go_wp2_with (go_quiet (fail))
      generalize hWd : World.drewN w1 _ = wd
      have hbd : Ev w1 wd := by rw [← hWd]; exact Ev.drewN (Ev.refl _) _
      replace HQ := hid (hbd.heap HQ.out)
      replace hE1 := hE1.trans hbd
      replace hG1 := Ev.refl wd
      clear hWd hbd hb1 q0 q1 q2 q3 q4
      obtain ⟨q0, q1, q2, q3, q4⟩ := cells5 HQ.out
      go_wp2_with (first | (go_at_call 24; ((with_reducible refine (HFD.out _ hE1).mono ?_); rintro e w2 ⟨⟨B2, d2, rfl, hs2⟩, hb2⟩; have hG2 := hG1.trans hb2; clear q0 q1 q2 q3 q4; obtain ⟨q0, q1, q2, q3, q4⟩ := cells5 (hG2.heap HQ.out); have HS2 := hid hs2; clear hs2)) | (go_at_call 28; ((with_reducible refine (HDN.out _ _ _ HS2.out).mono ?_); rintro e w3 ⟨⟨B3, d3', rfl, hs3⟩, hb3⟩; have hG3 := hG2.trans hb3; clear q0 q1 q2 q3 q4; obtain ⟨q0, q1, q2, q3, q4⟩ := cells5 (hG3.heap HQ.out); have HS3 := hid hs3; clear hs3)) | (go_at_call 24; ((with_reducible refine (HFD.out _ (hE1.trans hG3)).mono ?_); rintro e w4 ⟨⟨B4, d4, rfl, hs4⟩, hb4⟩; have hG4 := hG3.trans hb4; clear q0 q1 q2 q3 q4; obtain ⟨q0, q1, q2, q3, q4⟩ := cells5 (hG4.heap HQ.out); have HS4 := hid hs4; clear hs4)) | (go_at_call 32; ((with_reducible refine (HWH.out _ _ _ HS4.out).mono ?_); rintro e w5 ⟨⟨B5, d5, rfl, hs5⟩, hb5⟩; have hG5 := hG4.trans hb5; clear q0 q1 q2 q3 q4; obtain ⟨q0, q1, q2, q3, q4⟩ := cells5 (hG5.heap HQ.out); have HS5 := hid hs5; clear hs5)) | (go_at_call 57; ((with_reducible refine (HTR.out _ (hE1.trans hG5)).mono ?_); rintro e w6 ⟨⟨B6, d6, rfl, hl6⟩, hb6⟩; have hG6 := hG5.trans hb6; clear q0 q1 q2 q3 q4; obtain ⟨q0, q1, q2, q3, q4⟩ := cells5 (hG6.heap HQ.out); have HL6 := hid hl6; clear hl6)))
      have hw4 : who.length ≤ 4 := by omega
      have hkd : k < dn := by omega
      clear hdw hdlen hdl
      obtain ⟨⟨t0, t9⟩, htb⟩ := M.did_bits hw4
      obtain ⟨bd, od, xr, rfl, hbd, hxr, _, hcc⟩ := HS3.out.at_ (Ev.refl w3) hkd
      have hxe : xr = rd := by have := HDA.out; rw [hxr] at this; injection this
      subst hxe
      have HCC : Hid (∀ W, Ev w3 W → W.cell? ⟨bd, od + k * 2, none⟩ = some (.int .i64 xr.lo) ∧ W.cell? ⟨bd, od + k * 2 + 1, none⟩ = some (.int .i64 xr.hi)) := hid (fun W hE => ⟨(hE.cells.1 bd _ hbd).trans (by have := hcc 0 _ rfl; simpa using this), (hE.cells.1 bd _ hbd).trans (hcc 1 _ rfl)⟩)
      have hcap3 := HS3.out.cap
      have hcap5 := HS5.out.cap
      have HTB := hid htb
      have hsm6 := HL6.out.small
      clear hxr hcc htb HDA
      have hE6 := hE1.trans hG6
      go_loopw [14, 15, 16] (fun vm vd vi wr => ∃ i : Nat, ∃ p q : Bool, ∃ x : List Bool, vm = .int .i64 (M.mv p q) ∧ vd = .int .i64 ((M.tobits x 0 0 : Nat) : Int) ∧ vi = .int .i64 i ∧ i ≤ l.length ∧ x.length = who.length ∧ Ev w6 wr ∧ Hid ((∃ t ∈ l.take i, M.rnum (k : Int) t = xr.lo) → p = true) ∧ Hid ((∃ t ∈ l.take i, M.rnum (k : Int) t = xr.hi) → q = true) ∧ Hid (∀ (j : Nat) (y : Int), who[j]? = some y → (∃ t ∈ l.take i, t.getD r 0 = y) → x.getD j true = false)) (fun _ _ vi _ => l.length - (intOf vi).toNat)
      case atStart => exact ⟨0, false, false, List.replicate who.length true, rfl, by rw [t0]; rfl, rfl, by omega, by simp, Ev.refl _, hid (by simp), hid (by simp), hid (by simp)⟩
      case round =>
        obtain ⟨i, p, q, x, rfl, rfl, rfl, hi, hxl, hB, hP, hQ', hX⟩ := hrel
        clear q0 q1 q2 q3 q4
        obtain ⟨q0, q1, q2, q3, q4⟩ := cells5 ((hG6.trans hB).heap HQ.out)
        have hlq := heap_lt ((hG6.trans hB).heap HQ.out)
        by_cases hlt : i < l.length
        · obtain ⟨bb, off, t, Bi, mi, di, rfl, hbl, hx, hd, ei, hri⟩ := HL6.out.at_ hB hlt
          have hti := HLEN.out t (List.mem_of_getElem? hx)
          have hmi : mi = t.length := by have := hri.sl.len; simp only at this; omega
          have s5 : IntKind.i64.wrap (f.rows - 1) = f.rows - 1 := IntWalk.i64_in _ (by omega)
          have hdi := fun W (hE : Ev w6 W) => Did_s Bi mi di t (k : Int) 0 (f.rows - 1) (by omega) (by omega) (by omega) W (hri.ev hE).sl
          have hrn : M.count t (k : Int) 0 (f.rows - 1) = M.rnum (k : Int) t := by unfold M.rnum; rw [hti]
          rw [hrn] at hdi
          have HCI : Hid (∀ W, Ev w6 W → W.cell? ⟨bb, off + i, none⟩ = some (.slice Bi mi di)) := hid (fun W hE => by
            have h1 := hB.cells.1 bb (off + i) hbl
            rw [ei] at h1
            exact (hE.cells.1 bb (off + i) hbl).trans h1.symm)
          have htk : l.take (i + 1) = l.take i ++ [t] := by rw [List.take_add_one, hx]; rfl
          have HTK := hid htk
          have hcap6 := HL6.out
          generalize hN : M.rnum (k : Int) t = N at hdi
          have HN := hid hN
          have HDI := hid hdi
          obtain ⟨c0, c1⟩ := HCC.out _ (((hb4.trans hb5).trans hb6).trans hB)
          have o1 := (mv_or p q).1
          have hrm : r < mi := by omega
          clear hdi hrn hx hd htk hN hcap6 hmi hti
          by_cases hl : N = xr.lo
          · by_cases hh : N = xr.hi
            · have HPN : Hid ((∃ t ∈ l.take (i + 1), M.rnum (k : Int) t = xr.lo) → true = true) := hid (fun ⟨u, hu, hu2⟩ => rfl)
              have HQN : Hid ((∃ t ∈ l.take (i + 1), M.rnum (k : Int) t = xr.hi) → true = true) := hid (fun ⟨u, hu, hu2⟩ => rfl)
              have hlb : (N == xr.lo) = true := by simpa using hl
              have hhb : (N == xr.hi) = true := by simpa using hh
              have o2 := (mv_or true q).2
              clear hl hh
              go_wp2_with (go_quiet ((go_at_call_of 54 (Value.slice Bi mi di); exact Calls.quiet_of_same (HDI.out _ (by first | exact hB | exact hB.drew | exact hB.drewN _)))))
              go_loopw [15, 18] (fun vd vj wx => ∃ j : Nat, ∃ x' : List Bool, vd = .int .i64 ((M.tobits x' 0 0 : Nat) : Int) ∧ vj = .int .i64 j ∧ j ≤ who.length ∧ x'.length = who.length ∧ Ev w6 wx ∧ Hid (∀ (j' : Nat) (y : Int), who[j']? = some y → ((∃ t ∈ l.take i, t.getD r 0 = y) ∨ (j' < j ∧ t.getD r 0 = y)) → x'.getD j' true = false)) (fun _ vj _ => who.length - (intOf vj).toNat)
              case atStart => exact ⟨0, x, rfl, rfl, by omega, hxl, hB.drewN _, hid (fun j' y h1 h2 => hX.out j' y h1 (h2.resolve_right (fun h => absurd h.1 (by omega))))⟩
              case round =>
                obtain ⟨j, x', rfl, rfl, hj, hxl', hBx, hX'⟩ := hrel
                clear q0 q1 q2 q3 q4
                obtain ⟨q0, q1, q2, q3, q4⟩ := cells5 ((hG6.trans hBx).heap HQ.out)
                by_cases hjl : j < who.length
                · obtain ⟨b5, off5, y, rfl, hb5', hy, _, e5⟩ := HS5.out.int (hb6.trans hBx) hjl
                  have ei2 := HCI.out _ hBx
                  obtain ⟨b3, off3, z, hA3, hb3', hz, _, e3⟩ := (hri.ev hBx).sl.int (Below.refl _ wr) (show r < mi by omega)
                  simp only at hA3
                  subst hA3
                  have hcapi := hri.sl.cap
                  simp only at hcapi
                  have hgz : t.getD r 0 = z := by rw [List.getD_eq_getElem?_getD, hz]; rfl
                  have HGZ := hid hgz
                  have hri2 : r < mi := by omega
                  obtain ⟨hx128, hxs⟩ := HTB.out x' hxl'
                  have hxs2 := hxs j hjl
                  have HY := hid hy
                  clear hgz hz hxs hy
                  by_cases hyz : y = z
                  · have hbe : (y == z) = true := by simpa using hyz
                    obtain ⟨p1, p2, p3⟩ := or_fact7 (a := M.tobits x' 0 0) (i := j) hx128 (by omega)
                    rw [hxs2] at p2
                    have HYZ := hid hyz
                    clear hxs2 hyz
                    go_wp2_with (go_quiet (fail))
                    refine ⟨⟨j + 1, x'.set j false, rfl, by go_num, by omega, by simpa using hxl', hBx.drewN _, hid (fun j' y' h1 h2 => ?_)⟩, by simp [intOf]; omega⟩
                    by_cases hjj : j = j'
                    · subst hjj
                      rw [List.getD_eq_getElem?_getD, List.getElem?_set_self (by omega)]; rfl
                    · have := hX'.out j' y' h1 (h2.imp_right (fun h => ⟨by omega, h.2⟩))
                      rw [List.getD_eq_getElem?_getD] at this ⊢
                      rw [List.getElem?_set_ne hjj]; exact this
                  · have hbe : (y == z) = false := by simpa using hyz
                    have HYZ := hid hyz
                    clear hxs2 hyz
                    go_wp2_with (go_quiet (fail))
                    refine ⟨⟨j + 1, x', rfl, by go_num, by omega, hxl', hBx.drewN _, hid (fun j' y' h1 h2 => hX'.out j' y' h1 (h2.imp_right (fun h => ⟨?_, h.2⟩)))⟩, by simp [intOf]; omega⟩
                    rcases Nat.lt_or_ge j' j with h3 | h3
                    · exact h3
                    · exfalso
                      obtain rfl : j' = j := by omega
                      have h4 := HY.out
                      rw [h1] at h4
                      injection h4 with h4
                      exact HYZ.out (by rw [← h4, ← HGZ.out]; exact h.2.symm)
                · go_wp2
                  refine ⟨⟨i + 1, true, true, x', rfl, rfl, by go_num, by omega, hxl', hBx, hid (fun _ => rfl), hid (fun _ => rfl), hid (fun j' y' h1 h2 => hX'.out j' y' h1 ?_)⟩, by simp [intOf]; omega⟩
                  obtain ⟨u, hu, hu2⟩ := h2
                  rw [HTK.out] at hu
                  rcases List.mem_append.1 hu with hu | hu
                  · exact .inl ⟨u, hu, hu2⟩
                  · obtain ⟨h3, _⟩ := List.getElem?_eq_some_iff.1 h1
                    exact .inr ⟨by omega, by rw [← List.mem_singleton.1 hu]; exact hu2⟩
            · have HPN : Hid ((∃ t ∈ l.take (i + 1), M.rnum (k : Int) t = xr.lo) → true = true) := hid (fun ⟨u, hu, hu2⟩ => rfl)
              have HQN : Hid ((∃ t ∈ l.take (i + 1), M.rnum (k : Int) t = xr.hi) → q = true) := hid (fun ⟨u, hu, hu2⟩ => by rw [HTK.out] at hu; rcases List.mem_append.1 hu with hu | hu; exact hQ'.out ⟨u, hu, hu2⟩; rw [List.mem_singleton.1 hu, HN.out] at hu2; exact absurd hu2 hh)
              have hlb : (N == xr.lo) = true := by simpa using hl
              have hhb : (N == xr.hi) = false := by simpa using hh
              have o2 := (mv_or true q).2
              clear hl hh
              go_wp2_with (go_quiet ((go_at_call_of 54 (Value.slice Bi mi di); exact Calls.quiet_of_same (HDI.out _ (by first | exact hB | exact hB.drew | exact hB.drewN _)))))
              go_loopw [15, 18] (fun vd vj wx => ∃ j : Nat, ∃ x' : List Bool, vd = .int .i64 ((M.tobits x' 0 0 : Nat) : Int) ∧ vj = .int .i64 j ∧ j ≤ who.length ∧ x'.length = who.length ∧ Ev w6 wx ∧ Hid (∀ (j' : Nat) (y : Int), who[j']? = some y → ((∃ t ∈ l.take i, t.getD r 0 = y) ∨ (j' < j ∧ t.getD r 0 = y)) → x'.getD j' true = false)) (fun _ vj _ => who.length - (intOf vj).toNat)
              case atStart => exact ⟨0, x, rfl, rfl, by omega, hxl, hB.drewN _, hid (fun j' y h1 h2 => hX.out j' y h1 (h2.resolve_right (fun h => absurd h.1 (by omega))))⟩
              case round =>
                obtain ⟨j, x', rfl, rfl, hj, hxl', hBx, hX'⟩ := hrel
                clear q0 q1 q2 q3 q4
                obtain ⟨q0, q1, q2, q3, q4⟩ := cells5 ((hG6.trans hBx).heap HQ.out)
                by_cases hjl : j < who.length
                · obtain ⟨b5, off5, y, rfl, hb5', hy, _, e5⟩ := HS5.out.int (hb6.trans hBx) hjl
                  have ei2 := HCI.out _ hBx
                  obtain ⟨b3, off3, z, hA3, hb3', hz, _, e3⟩ := (hri.ev hBx).sl.int (Below.refl _ wr) (show r < mi by omega)
                  simp only at hA3
                  subst hA3
                  have hcapi := hri.sl.cap
                  simp only at hcapi
                  have hgz : t.getD r 0 = z := by rw [List.getD_eq_getElem?_getD, hz]; rfl
                  have HGZ := hid hgz
                  have hri2 : r < mi := by omega
                  obtain ⟨hx128, hxs⟩ := HTB.out x' hxl'
                  have hxs2 := hxs j hjl
                  have HY := hid hy
                  clear hgz hz hxs hy
                  by_cases hyz : y = z
                  · have hbe : (y == z) = true := by simpa using hyz
                    obtain ⟨p1, p2, p3⟩ := or_fact7 (a := M.tobits x' 0 0) (i := j) hx128 (by omega)
                    rw [hxs2] at p2
                    have HYZ := hid hyz
                    clear hxs2 hyz
                    go_wp2_with (go_quiet (fail))
                    refine ⟨⟨j + 1, x'.set j false, rfl, by go_num, by omega, by simpa using hxl', hBx.drewN _, hid (fun j' y' h1 h2 => ?_)⟩, by simp [intOf]; omega⟩
                    by_cases hjj : j = j'
                    · subst hjj
                      rw [List.getD_eq_getElem?_getD, List.getElem?_set_self (by omega)]; rfl
                    · have := hX'.out j' y' h1 (h2.imp_right (fun h => ⟨by omega, h.2⟩))
                      rw [List.getD_eq_getElem?_getD] at this ⊢
                      rw [List.getElem?_set_ne hjj]; exact this
                  · have hbe : (y == z) = false := by simpa using hyz
                    have HYZ := hid hyz
                    clear hxs2 hyz
                    go_wp2_with (go_quiet (fail))
                    refine ⟨⟨j + 1, x', rfl, by go_num, by omega, hxl', hBx.drewN _, hid (fun j' y' h1 h2 => hX'.out j' y' h1 (h2.imp_right (fun h => ⟨?_, h.2⟩)))⟩, by simp [intOf]; omega⟩
                    rcases Nat.lt_or_ge j' j with h3 | h3
                    · exact h3
                    · exfalso
                      obtain rfl : j' = j := by omega
                      have h4 := HY.out
                      rw [h1] at h4
                      injection h4 with h4
                      exact HYZ.out (by rw [← h4, ← HGZ.out]; exact h.2.symm)
                · go_wp2
                  refine ⟨⟨i + 1, true, q, x', rfl, rfl, by go_num, by omega, hxl', hBx, hid (fun _ => rfl), HQN, hid (fun j' y' h1 h2 => hX'.out j' y' h1 ?_)⟩, by simp [intOf]; omega⟩
                  obtain ⟨u, hu, hu2⟩ := h2
                  rw [HTK.out] at hu
                  rcases List.mem_append.1 hu with hu | hu
                  · exact .inl ⟨u, hu, hu2⟩
                  · obtain ⟨h3, _⟩ := List.getElem?_eq_some_iff.1 h1
                    exact .inr ⟨by omega, by rw [← List.mem_singleton.1 hu]; exact hu2⟩
          · by_cases hh : N = xr.hi
            · have HPN : Hid ((∃ t ∈ l.take (i + 1), M.rnum (k : Int) t = xr.lo) → p = true) := hid (fun ⟨u, hu, hu2⟩ => by rw [HTK.out] at hu; rcases List.mem_append.1 hu with hu | hu; exact hP.out ⟨u, hu, hu2⟩; rw [List.mem_singleton.1 hu, HN.out] at hu2; exact absurd hu2 hl)
              have HQN : Hid ((∃ t ∈ l.take (i + 1), M.rnum (k : Int) t = xr.hi) → true = true) := hid (fun ⟨u, hu, hu2⟩ => rfl)
              have hlb : (N == xr.lo) = false := by simpa using hl
              have hhb : (N == xr.hi) = true := by simpa using hh
              have o2 := (mv_or p q).2
              clear hl hh
              go_wp2_with (go_quiet ((go_at_call_of 54 (Value.slice Bi mi di); exact Calls.quiet_of_same (HDI.out _ (by first | exact hB | exact hB.drew | exact hB.drewN _)))))
              go_loopw [15, 18] (fun vd vj wx => ∃ j : Nat, ∃ x' : List Bool, vd = .int .i64 ((M.tobits x' 0 0 : Nat) : Int) ∧ vj = .int .i64 j ∧ j ≤ who.length ∧ x'.length = who.length ∧ Ev w6 wx ∧ Hid (∀ (j' : Nat) (y : Int), who[j']? = some y → ((∃ t ∈ l.take i, t.getD r 0 = y) ∨ (j' < j ∧ t.getD r 0 = y)) → x'.getD j' true = false)) (fun _ vj _ => who.length - (intOf vj).toNat)
              case atStart => exact ⟨0, x, rfl, rfl, by omega, hxl, hB.drewN _, hid (fun j' y h1 h2 => hX.out j' y h1 (h2.resolve_right (fun h => absurd h.1 (by omega))))⟩
              case round =>
                obtain ⟨j, x', rfl, rfl, hj, hxl', hBx, hX'⟩ := hrel
                clear q0 q1 q2 q3 q4
                obtain ⟨q0, q1, q2, q3, q4⟩ := cells5 ((hG6.trans hBx).heap HQ.out)
                by_cases hjl : j < who.length
                · obtain ⟨b5, off5, y, rfl, hb5', hy, _, e5⟩ := HS5.out.int (hb6.trans hBx) hjl
                  have ei2 := HCI.out _ hBx
                  obtain ⟨b3, off3, z, hA3, hb3', hz, _, e3⟩ := (hri.ev hBx).sl.int (Below.refl _ wr) (show r < mi by omega)
                  simp only at hA3
                  subst hA3
                  have hcapi := hri.sl.cap
                  simp only at hcapi
                  have hgz : t.getD r 0 = z := by rw [List.getD_eq_getElem?_getD, hz]; rfl
                  have HGZ := hid hgz
                  have hri2 : r < mi := by omega
                  obtain ⟨hx128, hxs⟩ := HTB.out x' hxl'
                  have hxs2 := hxs j hjl
                  have HY := hid hy
                  clear hgz hz hxs hy
                  by_cases hyz : y = z
                  · have hbe : (y == z) = true := by simpa using hyz
                    obtain ⟨p1, p2, p3⟩ := or_fact7 (a := M.tobits x' 0 0) (i := j) hx128 (by omega)
                    rw [hxs2] at p2
                    have HYZ := hid hyz
                    clear hxs2 hyz
                    go_wp2_with (go_quiet (fail))
                    refine ⟨⟨j + 1, x'.set j false, rfl, by go_num, by omega, by simpa using hxl', hBx.drewN _, hid (fun j' y' h1 h2 => ?_)⟩, by simp [intOf]; omega⟩
                    by_cases hjj : j = j'
                    · subst hjj
                      rw [List.getD_eq_getElem?_getD, List.getElem?_set_self (by omega)]; rfl
                    · have := hX'.out j' y' h1 (h2.imp_right (fun h => ⟨by omega, h.2⟩))
                      rw [List.getD_eq_getElem?_getD] at this ⊢
                      rw [List.getElem?_set_ne hjj]; exact this
                  · have hbe : (y == z) = false := by simpa using hyz
                    have HYZ := hid hyz
                    clear hxs2 hyz
                    go_wp2_with (go_quiet (fail))
                    refine ⟨⟨j + 1, x', rfl, by go_num, by omega, hxl', hBx.drewN _, hid (fun j' y' h1 h2 => hX'.out j' y' h1 (h2.imp_right (fun h => ⟨?_, h.2⟩)))⟩, by simp [intOf]; omega⟩
                    rcases Nat.lt_or_ge j' j with h3 | h3
                    · exact h3
                    · exfalso
                      obtain rfl : j' = j := by omega
                      have h4 := HY.out
                      rw [h1] at h4
                      injection h4 with h4
                      exact HYZ.out (by rw [← h4, ← HGZ.out]; exact h.2.symm)
                · go_wp2
                  refine ⟨⟨i + 1, p, true, x', rfl, rfl, by go_num, by omega, hxl', hBx, HPN, hid (fun _ => rfl), hid (fun j' y' h1 h2 => hX'.out j' y' h1 ?_)⟩, by simp [intOf]; omega⟩
                  obtain ⟨u, hu, hu2⟩ := h2
                  rw [HTK.out] at hu
                  rcases List.mem_append.1 hu with hu | hu
                  · exact .inl ⟨u, hu, hu2⟩
                  · obtain ⟨h3, _⟩ := List.getElem?_eq_some_iff.1 h1
                    exact .inr ⟨by omega, by rw [← List.mem_singleton.1 hu]; exact hu2⟩
            · have HPN : Hid ((∃ t ∈ l.take (i + 1), M.rnum (k : Int) t = xr.lo) → p = true) := hid (fun ⟨u, hu, hu2⟩ => by rw [HTK.out] at hu; rcases List.mem_append.1 hu with hu | hu; exact hP.out ⟨u, hu, hu2⟩; rw [List.mem_singleton.1 hu, HN.out] at hu2; exact absurd hu2 hl)
              have HQN : Hid ((∃ t ∈ l.take (i + 1), M.rnum (k : Int) t = xr.hi) → q = true) := hid (fun ⟨u, hu, hu2⟩ => by rw [HTK.out] at hu; rcases List.mem_append.1 hu with hu | hu; exact hQ'.out ⟨u, hu, hu2⟩; rw [List.mem_singleton.1 hu, HN.out] at hu2; exact absurd hu2 hh)
              have hlb : (N == xr.lo) = false := by simpa using hl
              have hhb : (N == xr.hi) = false := by simpa using hh
              have o2 := (mv_or p q).2
              clear hl hh
              go_wp2_with (go_quiet ((go_at_call_of 54 (Value.slice Bi mi di); exact Calls.quiet_of_same (HDI.out _ (by first | exact hB | exact hB.drew | exact hB.drewN _)))))
              go_loopw [15, 18] (fun vd vj wx => ∃ j : Nat, ∃ x' : List Bool, vd = .int .i64 ((M.tobits x' 0 0 : Nat) : Int) ∧ vj = .int .i64 j ∧ j ≤ who.length ∧ x'.length = who.length ∧ Ev w6 wx ∧ Hid (∀ (j' : Nat) (y : Int), who[j']? = some y → ((∃ t ∈ l.take i, t.getD r 0 = y) ∨ (j' < j ∧ t.getD r 0 = y)) → x'.getD j' true = false)) (fun _ vj _ => who.length - (intOf vj).toNat)
              case atStart => exact ⟨0, x, rfl, rfl, by omega, hxl, hB.drewN _, hid (fun j' y h1 h2 => hX.out j' y h1 (h2.resolve_right (fun h => absurd h.1 (by omega))))⟩
              case round =>
                obtain ⟨j, x', rfl, rfl, hj, hxl', hBx, hX'⟩ := hrel
                clear q0 q1 q2 q3 q4
                obtain ⟨q0, q1, q2, q3, q4⟩ := cells5 ((hG6.trans hBx).heap HQ.out)
                by_cases hjl : j < who.length
                · obtain ⟨b5, off5, y, rfl, hb5', hy, _, e5⟩ := HS5.out.int (hb6.trans hBx) hjl
                  have ei2 := HCI.out _ hBx
                  obtain ⟨b3, off3, z, hA3, hb3', hz, _, e3⟩ := (hri.ev hBx).sl.int (Below.refl _ wr) (show r < mi by omega)
                  simp only at hA3
                  subst hA3
                  have hcapi := hri.sl.cap
                  simp only at hcapi
                  have hgz : t.getD r 0 = z := by rw [List.getD_eq_getElem?_getD, hz]; rfl
                  have HGZ := hid hgz
                  have hri2 : r < mi := by omega
                  obtain ⟨hx128, hxs⟩ := HTB.out x' hxl'
                  have hxs2 := hxs j hjl
                  have HY := hid hy
                  clear hgz hz hxs hy
                  by_cases hyz : y = z
                  · have hbe : (y == z) = true := by simpa using hyz
                    obtain ⟨p1, p2, p3⟩ := or_fact7 (a := M.tobits x' 0 0) (i := j) hx128 (by omega)
                    rw [hxs2] at p2
                    have HYZ := hid hyz
                    clear hxs2 hyz
                    go_wp2_with (go_quiet (fail))
                    refine ⟨⟨j + 1, x'.set j false, rfl, by go_num, by omega, by simpa using hxl', hBx.drewN _, hid (fun j' y' h1 h2 => ?_)⟩, by simp [intOf]; omega⟩
                    by_cases hjj : j = j'
                    · subst hjj
                      rw [List.getD_eq_getElem?_getD, List.getElem?_set_self (by omega)]; rfl
                    · have := hX'.out j' y' h1 (h2.imp_right (fun h => ⟨by omega, h.2⟩))
                      rw [List.getD_eq_getElem?_getD] at this ⊢
                      rw [List.getElem?_set_ne hjj]; exact this
                  · have hbe : (y == z) = false := by simpa using hyz
                    have HYZ := hid hyz
                    clear hxs2 hyz
                    go_wp2_with (go_quiet (fail))
                    refine ⟨⟨j + 1, x', rfl, by go_num, by omega, hxl', hBx.drewN _, hid (fun j' y' h1 h2 => hX'.out j' y' h1 (h2.imp_right (fun h => ⟨?_, h.2⟩)))⟩, by simp [intOf]; omega⟩
                    rcases Nat.lt_or_ge j' j with h3 | h3
                    · exact h3
                    · exfalso
                      obtain rfl : j' = j := by omega
                      have h4 := HY.out
                      rw [h1] at h4
                      injection h4 with h4
                      exact HYZ.out (by rw [← h4, ← HGZ.out]; exact h.2.symm)
                · go_wp2
                  refine ⟨⟨i + 1, p, q, x', rfl, rfl, by go_num, by omega, hxl', hBx, HPN, HQN, hid (fun j' y' h1 h2 => hX'.out j' y' h1 ?_)⟩, by simp [intOf]; omega⟩
                  obtain ⟨u, hu, hu2⟩ := h2
                  rw [HTK.out] at hu
                  rcases List.mem_append.1 hu with hu | hu
                  · exact .inl ⟨u, hu, hu2⟩
                  · obtain ⟨h3, _⟩ := List.getElem?_eq_some_iff.1 h1
                    exact .inr ⟨by omega, by rw [← List.mem_singleton.1 hu]; exact hu2⟩
        · have hil : l.take i = l := List.take_of_length_le (by omega)
          have hp1 := hP.out
          have hq1 := hQ'.out
          have hx1 := hX.out
          rw [hil] at hp1 hq1 hx1
          have hp2 := hp1 ⟨tl, htl, HTL.out⟩
          have hq2 := hq1 ⟨th, hth, HTH.out⟩
          subst hp2 hq2
          have hxr : x = List.replicate who.length false := by
            refine List.ext_getElem (by simp [hxl]) fun j h1 h2 => ?_
            obtain ⟨y, hy⟩ : ∃ y, who[j]? = some y := ⟨_, List.getElem?_eq_getElem (by omega)⟩
            have := hx1 j y hy (HWM.out y (List.mem_of_getElem? hy))
            rw [List.getD_eq_getElem?_getD, List.getElem?_eq_getElem h1] at this
            simpa using this
          have hmv : M.mv true true = 3 := rfl
          rw [hxr, t9]
          rw [hmv]
          obtain ⟨p1, p2⟩ := wrap_pow (n := who.length) (by omega)
          generalize 2 ^ who.length - 1 = F at p2
          clear hp1 hq1 hx1 hil hxr hmv
          go_wp2_with (first | (go_at_call 21; ((with_reducible refine (awake_c _).mono ?_); rintro e w15 ⟨rfl, hb15⟩)))
          go_ret
          exact ⟨rfl, (hE6.trans hB).trans hb15⟩

end Go.Proofs.Ytcecmphdmpeibaa
