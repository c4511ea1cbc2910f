import Derived.Test.YtffbkbcjddigdaaA60
import Derived.Test.YtffbkbcjddigdaaA62
import Derived.Test.YtffbkbcjddigdaaA58
import Derived.Test.YtffbkbcjddigdaaA54
import Derived.Test.YtffbkbcjddigdaaA48
import Derived.Test.YtffbkbcjddigdaaA49
import Derived.Deep.DeepCutAuto
set_option linter.unusedSimpArgs false
set_option linter.unusedVariables false
namespace Go.Proofs.Ytffbkbcjddigdaa
open Go.RowKit Go.Shelf

set_option maxRecDepth 100000 in
set_option maxHeartbeats 2000000 in
theorem cropLeft_no (f : M.Cf) (Ag Aw Ab Ac Al : Option Addr) (ng cg nw cw nb cb nc cc nl cl : Nat) (hl0 : -9223372036854775808 ≤ f.last) (a : Int) (a0 : 0 ≤ a) (a1 : a < 256) (w : World) (hs : M.small ng nw nb nc nl → CS w w.heap.size f Ag Aw Ab Ac Al ng cg nw cw nb cb nc cc nl cl) (hno : M.rdy f ng nw nb nc nl = false) :
    Calls Try.prog 11 #[.agg #[.int .i64 f.last, .slice Ag ng cg, .slice Aw nw cw, .slice Ab nb cb, .slice Ac nc cc, .int .i64 f.ripe, .int .i64 f.late, .int .i64 f.trod, .slice Al nl cl], .int .u8 a] w fun e w' => e = .returned (.bool true) ∧ Ev w w' := by
  have HRD := hid (fun W (hE : Ev w W) => by have := ready_c f Ag Aw Ab Ac Al ng cg nw cw nb cb nc cc nl cl hl0 W (fun h => (hs h).ev hE); rw [hno] at this; exact this)
  clear hs hno
  go_enter Try.func11, Try.ntmps11
  go_wp2_with (first | (go_at_call 37; with_reducible refine (HRD.out _ (Ev.alloc (Ev.refl _) _)).mono ?_; rintro e w1 ⟨rfl, hb1⟩; have hG : Ev w w1 := (Ev.alloc (Ev.refl _) _).trans hb1; have Q0 := hid (hb1.heap (alloc1 w (.cells #[.int .i64 f.last, .slice Ag ng cg, .slice Aw nw cw, .slice Ab nb cb, .slice Ac nc cc, .int .i64 f.ripe, .int .i64 f.late, .int .i64 f.trod, .slice Al nl cl] 26)).1); obtain ⟨y0, y1, y2, y3, y4, y5, y6, y7, y8⟩ := cells9 Q0.out) | (go_at_call 14; with_reducible refine (awake_c _).mono ?_; rintro e w99 ⟨rfl, hb99⟩))
  go_ret
  exact ⟨rfl, hG.trans hb99⟩

set_option maxRecDepth 100000 in
set_option maxHeartbeats 8000000 in
theorem cropLeft_yes (f : M.Cf) (Ag Aw Ab Ac Al : Option Addr) (ng cg nw cw nb cb nc cc nl cl : Nat) (hl0 : -9223372036854775808 ≤ f.last) (a : Int) (a0 : 0 ≤ a) (a1 : a < 256) (w : World) (HCS : Hid (CS w w.heap.size f Ag Aw Ab Ac Al ng cg nw cw nb cb nc cc nl cl)) (hr : M.rdy f ng nw nb nc nl = true) (hsm : M.small ng nw nb nc nl) (h0 : M.check f = 0) :
    Calls Try.prog 11 #[.agg #[.int .i64 f.last, .slice Ag ng cg, .slice Aw nw cw, .slice Ab nb cb, .slice Ac nc cc, .int .i64 f.ripe, .int .i64 f.late, .int .i64 f.trod, .slice Al nl cl], .int .u8 a] w fun e w' => e = .returned (.bool true) ∧ Ev w w' := by
  obtain ⟨s0, s1, s2, s3, s4⟩ := hsm
  have HRD := hid (fun W (hE : Ev w W) => by have := ready_c f Ag Aw Ab Ac Al ng cg nw cw nb cb nc cc nl cl hl0 W (fun _ => HCS.out.ev hE); rw [hr] at this; exact this)
  have hl5 : nl ≤ 5 := by rw [← HCS.out.l.len]; exact (M.check0 h0).2.2.1
  have hlen : f.looks.length = nl := HCS.out.l.len
  obtain ⟨b, hb, hob, hf1, hbl, hri, hel, hsho⟩ := M.leave_spec h0 hlen
  obtain ⟨t, ht1, ht2⟩ := and_low (a := a) (r := nl) (by omega)
  have hP : 0 < 2 ^ nl := Nat.pow_pos (by omega)
  have hpw := pow_lt128 (n := nl) (by omega)
  obtain ⟨_, _, an1⟩ := bits_three (a := 2 ^ nl - 1) (b := b) hpw (by omega)
  obtain ⟨_, _, an2⟩ := bits_three (a := 2 ^ nl - 1) (b := t) hpw (by omega)
  have x1 : M.butB nl b < 2 ^ nl := Nat.xor_lt_two_pow (by omega) (Nat.lt_of_le_of_lt Nat.and_le_left (by omega))
  have x2 : M.butB nl t < 2 ^ nl := Nat.xor_lt_two_pow (by omega) (Nat.lt_of_le_of_lt Nat.and_le_left (by omega))
  rw [show (2 ^ nl - 1) ^^^ ((2 ^ nl - 1) &&& b) = M.butB nl b from rfl] at an1
  rw [show (2 ^ nl - 1) ^^^ ((2 ^ nl - 1) &&& t) = M.butB nl t from rfl] at an2
  have hsh := hsho t (by omega)
  have HLV := hid (fun (Bg : Option Addr) (dg : Nat) (Bw : Option Addr) (dw : Nat) (Bb : Option Addr) (db : Nat) (Bc : Option Addr) (dc : Nat) (Bl : Option Addr) (dl : Nat) W (h : CS W W.heap.size f Bg Bw Bb Bc Bl ng dg nw dw nb db nc dc nl dl) => Leave_ok f Bg Bw Bb Bc Bl ng dg nw dw nb db nc dc nl dl hl0 W h h0)
  have hfl := fun W => Full_c f Ag Aw Ab Ac Al ng cg nw cw nb cb nc cc nl cl (by omega) W
  have hls : ∀ y, (M.keepK y f.looks 0).length ≤ 5 := fun y => by have := M.keepK_len y f.looks 0; omega
  have hms : ∀ y, ∀ l ∈ M.keepK y f.looks 0, l ∈ f.looks := fun y l h => M.keepK_sub h
  have hbt := fun W => Bits_c t (by omega) W
  generalize hk1 : M.keepK (M.butB nl b) f.looks 0 = ls1 at hf1
  generalize hk2 : M.keepK (M.butB nl t) f.looks 0 = ls2 at hsh
  have hl1 : ls1.length ≤ 5 := by rw [← hk1]; exact hls _
  have hl2 : ls2.length ≤ 5 := by rw [← hk2]; exact hls _
  have hs1 : ∀ l ∈ ls1, l ∈ f.looks := by rw [← hk1]; exact hms _
  have hs2 : ∀ l ∈ ls2, l ∈ f.looks := by rw [← hk2]; exact hms _
  obtain ⟨m1, hm1⟩ : ∃ m, ls1.length = m := ⟨_, rfl⟩
  obtain ⟨m2, hm2⟩ : ∃ m, ls2.length = m := ⟨_, rfl⟩
  have m15 : m1 ≤ 5 := by omega
  have m25 : m2 ≤ 5 := by omega
  have HSM1 := hid (fun W (hE : Ev w W) => someB_c f ls1 m1 Ag Aw Ab Ac Al ng cg nw cw nb cb nc cc nl cl (by omega) (M.butB nl b) (by omega) hk1 hm1 W (HCS.out.ev hE))
  have HSM2 := hid (fun W (hE : Ev w W) => someB_c f ls2 m2 Ag Aw Ab Ac Al ng cg nw cw nb cb nc cc nl cl (by omega) (M.butB nl t) (by omega) hk2 hm2 W (HCS.out.ev hE))
  have HWO1 := hid (fun (Bg : Option Addr) (dg : Nat) (Bw : Option Addr) (dw : Nat) (Bb : Option Addr) (db : Nat) (Bc : Option Addr) (dc : Nat) (Bl : Option Addr) (dl : Nat) W (h : CS W W.heap.size (M.withL f ls1) Bg Bw Bb Bc Bl ng dg nw dw nb db nc dc m1 dl) => WorthL_ok f ls1 Bg Bw Bb Bc Bl ng dg nw dw nb db nc dc m1 dl hl0 h0 hl1 hs1 hf1 W h)
  have HWY2 := hid (fun (hf : M.fit f ls2 = true) (Bg : Option Addr) (dg : Nat) (Bw : Option Addr) (dw : Nat) (Bb : Option Addr) (db : Nat) (Bc : Option Addr) (dc : Nat) (Bl : Option Addr) (dl : Nat) W (h : CS W W.heap.size (M.withL f ls2) Bg Bw Bb Bc Bl ng dg nw dw nb db nc dc m2 dl) => WorthL_ok f ls2 Bg Bw Bb Bc Bl ng dg nw dw nb db nc dc m2 dl hl0 h0 hl2 hs2 hf W h)
  have HWN2 := hid (fun (hf : M.fit f ls2 = false) (Bg : Option Addr) (dg : Nat) (Bw : Option Addr) (dw : Nat) (Bb : Option Addr) (db : Nat) (Bc : Option Addr) (dc : Nat) (Bl : Option Addr) (dl : Nat) W (h : CS W W.heap.size (M.withL f ls2) Bg Bw Bb Bc Bl ng dg nw dw nb db nc dc m2 dl) => WorthL_no f ls2 Bg Bw Bb Bc Bl ng dg nw dw nb db nc dc m2 dl hl0 h0 hl2 hs2 hf W h)
  have HSH := hid (fun B1 d1 B2 d2 W h1 h2 => Shorter_c B1 B2 (M.bits t).length d1 (M.shortest (M.spares f) nl).length d2 (M.bits t) (M.shortest (M.spares f) nl) W h1 h2)
  generalize M.butB nl b = y1 at an1 HSM1
  generalize M.butB nl t = y2 at an2 HSM2
  generalize M.bits t = bt at hbt HSH hsh
  generalize M.shortest (M.spares f) nl = best at HLV hob hbl hri hel HSH hsh
  generalize 2 ^ nl - 1 = F at hfl ht2 an1 an2
  have hsb : Hid (∀ (k : Nat) (x : Int), best[k]? = some x → ∃ xn : Nat, x = xn ∧ xn < nl) := hid (fun k x hx => hel x (List.mem_of_getElem? hx))
  have hup : Hid (∀ (k : Nat) (x y : Int), best[k]? = some y → best[k + 1]? = some x → y < x) := hid (fun k x y => M.rises_at best k x y hri)
  have HOB := hid hob
  have HFL := hid hfl
  have HBT := hid hbt
  have HSX := hid hsh
  have HT2 := hid ht2
  have g8 : IntKind.i64.wrap a = a := IntWalk.i64_in _ (by omega)
  clear hr hlen hb hob hf1 hri hel hsho ht1 hP hpw x1 x2 hsh hfl hls hms hbt hk1 hk2 hs1 hs2 hl1 hl2 hm1 hm2 ht2
  go_enter Try.func11, Try.ntmps11
  go_upto_region 6 with (first | (go_at_call 37; with_reducible refine (HRD.out _ (Ev.alloc (Ev.refl _) _)).mono ?_; rintro e w1 ⟨rfl, hb1⟩; have hG : Ev w w1 := (Ev.alloc (Ev.refl _) _).trans hb1; have Q0 := hid (hb1.heap (alloc1 w (.cells #[.int .i64 f.last, .slice Ag ng cg, .slice Aw nw cw, .slice Ab nb cb, .slice Ac nc cc, .int .i64 f.ripe, .int .i64 f.late, .int .i64 f.trod, .slice Al nl cl] 26)).1); obtain ⟨y0, y1, y2, y3, y4, y5, y6, y7, y8⟩ := cells9 Q0.out) | (go_at_call 16; with_reducible refine (Field_c f Ag Aw Ab Ac Al ng cg nw cw nb cb nc cc nl cl (by omega) (by omega) (by omega) (by omega) (by omega) _ (HCS.out.ev hG)).mono ?_; rintro e x2 ⟨⟨Bg, dg, Bw, dw, Bb, db, Bc, dc, Bl, dl, rfl, hc⟩, hb⟩; have HE2 := hid (hG.trans hb); have HV2 := hid hb; have HC2 := hid hc; clear hc hb) | (go_at_call 31; with_reducible refine (HLV.out Bg dg Bw dw Bb db Bc dc Bl dl _ HC2.out).mono ?_; rintro e x3 ⟨⟨BT, dT, rfl, ht⟩, hb⟩; have HT3 := hid ht; have HE3 := hid (HE2.out.trans hb); have HV3 := hid (HV2.out.trans hb); clear ht hb))
  clear y0 y1 y2 y3 y4 y5 y6 y7 y8
  go_wp2
  go_loopw [7, 8] (fun v i wr => ∃ k acc : Nat, v = .int .i64 acc ∧ i = .int .i64 k ∧ k ≤ best.length ∧ acc < 128 ∧ Ev x3 wr ∧ Hid (M.orAll (best.drop k) acc = b)) (fun _ i _ => best.length - (intOf i).toNat)
  case atStart => exact ⟨0, 0, rfl, rfl, by omega, by omega, Ev.refl _, HOB⟩
  case round =>
    obtain ⟨k, acc, rfl, rfl, hk, hacc, hB, hT⟩ := hrel
    obtain ⟨W1, hW1⟩ : ∃ x, x = wr := ⟨_, rfl⟩
    subst hW1
    have Q1 := hid ((HV3.out.trans hB).heap Q0.out)
    obtain ⟨y0, y1, y2, y3, y4, y5, y6, y7, y8⟩ := cells9 Q1.out
    have l0 := heap_lt Q1.out
    have hBs := hB.size
    by_cases hlt : k < best.length
    · obtain ⟨bb, off, x, hA, hbb, hx, hd, e0⟩ := HT3.out.int hB hlt
      have hcap := HT3.out.cap
      have hT2 := hT.out
      rw [hd] at hT2
      obtain ⟨xn, rfl, hxn⟩ := hsb.out k x hx
      have hT3 : M.orAll (best.drop (k + 1)) (acc ||| 2 ^ xn) = b := hT2
      obtain ⟨p1, p2, p3⟩ := or_fact7 (a := acc) (i := xn) hacc (by omega)
      have HTN := hid hT3
      have hx0 : ¬ ((xn : Int) < 0) := by omega
      have hx1 : ¬ ((xn : Int) ≥ nl) := by omega
      have hx2 : (xn : Int) < nl := by omega
      have hd0 : decide ((xn : Int) < 0) = false := decide_eq_false hx0
      have hd1 : decide ((nl : Int) ≤ xn) = false := decide_eq_false (by omega)
      have lbb : bb < W1.heap.size := by omega
      subst hA
      clear hT2 hT3 hd
      generalize acc ||| 2 ^ xn = acc2 at p2 p3 HTN
      by_cases hk0 : k = 0
      · subst hk0
        simp only [Nat.add_zero] at e0
        rw [show (((0 : Nat)) : Int) = 0 from rfl]
        have hn0 : (0 : Int) < best.length := by omega
        clear hx
        go_wp2_with (go_quiet (fail))
        exact ⟨⟨1, acc2, rfl, by go_num, by omega, p3, hB.drewN _, HTN⟩, by simp [intOf]; omega⟩
      · obtain ⟨m, rfl⟩ : ∃ m, k = m + 1 := ⟨k - 1, by omega⟩
        obtain ⟨b2, off2, y, hbb2, hb2, hy, _, e1⟩ := HT3.out.int hB (show m < best.length by omega)
        obtain ⟨rfl, rfl⟩ : bb = b2 ∧ off = off2 := by simpa using hbb2
        have hk1 : ((m + 1 : Nat) : Int) - 1 = (m : Int) := by omega
        have s2 : IntKind.i64.wrap (((m + 1 : Nat) : Int) - 1) = (m : Int) := by rw [hk1]; exact IntWalk.i64_in _ (by omega)
        have s3 : IntKind.i64.wrap ((m : Int) + 1 - 1) = (m : Int) := by rw [show (m : Int) + 1 - 1 = m by omega]; exact IntWalk.i64_in _ (by omega)
        have hpos : (0 : Int) < (m : Int) + 1 := by omega
        have hyx := hup.out m _ _ hy hx
        have hle : ¬ (xn : Int) ≤ y := by omega
        clear hk1 hbb2 hy hx hk0
        go_wp2_with (go_quiet (fail))
        exact ⟨⟨m + 1 + 1, acc2, rfl, by go_num, by omega, p3, hB.drewN _, HTN⟩, by simp [intOf]; omega⟩
    · have hab : acc = b := by rw [← hT.out, List.drop_eq_nil_of_le (by omega)]; rfl
      subst hab
      have ht2 := HT2.out
      have hn9 : ¬ ((k : Int) < best.length) := by omega
      have hX1 := hid (HE3.out.trans hB)
      go_upto_region 14 with (go_at_call 47; with_reducible refine (HFL.out _).mono ?_; rintro e x4 ⟨rfl, hb⟩; have HB4 := hid (hB.trans hb); have HX4 := hid (hX1.out.trans hb); have Q4 := hid (hb.heap Q1.out); clear hb y0 y1 y2 y3 y4 y5 y6 y7 y8; obtain ⟨y0, y1, y2, y3, y4, y5, y6, y7, y8⟩ := cells9 Q4.out)
      have lbx := heap_lt Q4.out
      have HSE : Hid (∀ w', Ev x4 w' → (∀ o, w'.cell? ⟨w.heap.size, o, none⟩ = x4.cell? ⟨w.heap.size, o, none⟩)) := hid (fun w' h => fun o => h.cells.1 _ o lbx)
      go_cut [11] (fun v W => v = .int .i64 0 ∧ Ev x4 W)
      case first =>
        refine wp_region_held_drew (S := fun w' => (∀ o, w'.cell? ⟨w.heap.size, o, none⟩ = x4.cell? ⟨w.heap.size, o, none⟩)) (by kernel_rfl) (fun o => rfl) (fun hHeld => ?_)
        refine tkH 0 (some 77) ?_
        (try simp only [Act.put, sA, sB, sC])
        refine tkH 1 (some 78) ?_
        (try simp only [Act.put, sA, sB, sC])
        refine tkH 3 (some 80) ?_
        (try simp only [Act.put, sA, sB, sC])
        refine wpAnyH_ready (rs := [2, 11]) (by kernel_rfl) (by simp) ?_
        refine AllReadyH.cons rfl (fun K hK => ?_) (AllReadyH.cons rfl (fun K hK => ?_) (AllReadyH.nil))
        · go_simp
          refine (HFL.out _).mono ?_
          rintro e z1 ⟨rfl, hb1⟩
          have hy1 : Ev x4 z1 := Ev.trans (Ev.drew (Ev.refl _)) hb1
          refine hK.out _ _ (HSE.out _ hy1) (fun hHeld => ?_)
          clear hK K
          (try simp only [Act.put, List.setIfInBounds_toArray, List.set_cons_zero, List.set_cons_succ])
          refine tkH 4 (some 81) ?_
          (try simp only [Act.put, sA, sB, sC])
          refine wpAnyH_ready (rs := [5, 11]) (by kernel_rfl) (by simp) ?_
          refine AllReadyH.cons rfl (fun K hK => ?_) (AllReadyH.cons rfl (fun K hK => ?_) (AllReadyH.nil))
          · go_simp
            refine (HSM1.out _ (HX4.out.trans hy1)).mono ?_
            rintro e z2 ⟨⟨S, sd, rfl, hc2⟩, hb2⟩
            have hy2 : Ev x4 z2 := Ev.trans hy1 hb2
            refine hK.out _ _ (HSE.out _ hy2) (fun hHeld => ?_)
            clear hK K
            (try simp only [Act.put, List.setIfInBounds_toArray, List.set_cons_zero, List.set_cons_succ])
            refine wpAnyH_ready (rs := [6, 11]) (by kernel_rfl) (by simp) ?_
            refine AllReadyH.cons rfl (fun K hK => ?_) (AllReadyH.cons rfl (fun K hK => ?_) (AllReadyH.nil))
            · go_simp
              refine (FieldL_c f ls1 Ag Aw Ab Ac S ng cg nw cw nb cb nc cc m1 sd (by omega) (by omega) (by omega) (by omega) (by omega) _ hc2).mono ?_
              rintro e z3 ⟨⟨Bg5, dg5, Bw5, dw5, Bb5, db5, Bc5, dc5, Bl5, dl5, rfl, hc3⟩, hb3⟩
              have hy3 : Ev x4 z3 := Ev.trans hy2 hb3
              refine hK.out _ _ (HSE.out _ hy3) (fun hHeld => ?_)
              clear hK K
              (try simp only [Act.put, List.setIfInBounds_toArray, List.set_cons_zero, List.set_cons_succ])
              refine wpAnyH_ready (rs := [7, 11]) (by kernel_rfl) (by simp) ?_
              refine AllReadyH.cons rfl (fun K hK => ?_) (AllReadyH.cons rfl (fun K hK => ?_) (AllReadyH.nil))
              · go_simp
                refine (HWO1.out Bg5 dg5 Bw5 dw5 Bb5 db5 Bc5 dc5 Bl5 dl5 _ hc3).mono ?_
                rintro e z4 ⟨⟨ra, rb, rfl⟩, hb4⟩
                have hy4 : Ev x4 z4 := Ev.trans hy3 hb4
                refine hK.out _ _ (HSE.out _ hy4) (fun hHeld => ?_)
                clear hK K
                (try simp only [Act.put, List.setIfInBounds_toArray, List.set_cons_zero, List.set_cons_succ])
                refine tkH 8 (some 76) ?_
                (try simp only [Act.put, sA, sB, sC])
                refine tkH 9 (some 85) ?_
                (try simp only [Act.put, sA, sB, sC])
                refine tkH 10 (some 86) ?_
                (try simp only [Act.put, sA, sB, sC])
                refine wpAnyH_one (i := 11) rfl (by kernel_rfl) (by rfl) (fun K hK => ?_)
                go_simp
                generalize hWA : World.alloc z4 _ = WA
                have hal := alloc1 z4 (.cells #[.int .i64 0, .int .i64 0] 57)
                have hbA : Ev z4 WA := by rw [← hWA]; exact Ev.alloc (Ev.refl _) _
                have hqA := hal.1
                rw [hWA] at hqA
                have hxA : Ev x4 WA := hy4.trans hbA
                have hpz : x4.heap.size ≤ z4.heap.size := hy4.size
                clear hal hWA
                refine hK.out _ _ (HSE.out _ hxA) (fun hHeld => ?_)
                clear hK K
                (try simp only [Act.put, List.setIfInBounds_toArray, List.set_cons_zero, List.set_cons_succ])
                refine wpAnyH_one (i := 12) rfl (by kernel_rfl) (by rfl) (fun K hK => ?_)
                have hq9 := hqA
                obtain ⟨u0, u1⟩ := cells2 hq9
                obtain ⟨v0, v1⟩ := frz2 hq9
                have hne : w.heap.size ≠ z4.heap.size := by have := lbx; omega
                clear hq9
                go_simp
                refine hK.out _ _ (fun o => (cell_set_ne hne).trans ((cell_set_ne hne).trans (HSE.out _ hxA o))) (fun hHeld => ?_)
                clear hK K
                (try simp only [Act.put, List.setIfInBounds_toArray, List.set_cons_zero, List.set_cons_succ])
                refine tkH 13 (some 11) ?_
                (try simp only [Act.put, sA, sB, sC])
                refine wpAnyH_done (by kernel_rfl) ?_ _
                go_wp2_with fail
                go_meet
                exact ⟨rfl, Ev.setCell (Ev.setCell hxA hpz _) hpz _⟩
              · go_simp
                generalize hWA : World.alloc z3 _ = WA
                have hal := alloc1 z3 (.cells #[.int .i64 0, .int .i64 0] 57)
                have hbA : Ev z3 WA := by rw [← hWA]; exact Ev.alloc (Ev.refl _) _
                have hqA := hal.1
                rw [hWA] at hqA
                have hxA : Ev x4 WA := hy3.trans hbA
                have hpz : x4.heap.size ≤ z3.heap.size := hy3.size
                clear hal hWA
                refine hK.out _ _ (HSE.out _ hxA) (fun hHeld => ?_)
                clear hK K
                (try simp only [Act.put, List.setIfInBounds_toArray, List.set_cons_zero, List.set_cons_succ])
                refine wpAnyH_one (i := 7) rfl (by kernel_rfl) (by rfl) (fun K hK => ?_)
                go_simp
                refine (HWO1.out Bg5 dg5 Bw5 dw5 Bb5 db5 Bc5 dc5 Bl5 dl5 _ (hc3.ev hbA)).mono ?_
                rintro e z4 ⟨⟨ra, rb, rfl⟩, hb4⟩
                have hy4 : Ev x4 z4 := Ev.trans hxA hb4
                refine hK.out _ _ (HSE.out _ hy4) (fun hHeld => ?_)
                clear hK K
                (try simp only [Act.put, List.setIfInBounds_toArray, List.set_cons_zero, List.set_cons_succ])
                refine tkH 8 (some 76) ?_
                (try simp only [Act.put, sA, sB, sC])
                refine tkH 9 (some 85) ?_
                (try simp only [Act.put, sA, sB, sC])
                refine tkH 10 (some 86) ?_
                (try simp only [Act.put, sA, sB, sC])
                refine wpAnyH_one (i := 12) rfl (by kernel_rfl) (by rfl) (fun K hK => ?_)
                have hq9 := (hb4.heap hqA)
                obtain ⟨u0, u1⟩ := cells2 hq9
                obtain ⟨v0, v1⟩ := frz2 hq9
                have hne : w.heap.size ≠ z3.heap.size := by have := lbx; omega
                clear hq9
                go_simp
                refine hK.out _ _ (fun o => (cell_set_ne hne).trans ((cell_set_ne hne).trans (HSE.out _ hy4 o))) (fun hHeld => ?_)
                clear hK K
                (try simp only [Act.put, List.setIfInBounds_toArray, List.set_cons_zero, List.set_cons_succ])
                refine tkH 13 (some 11) ?_
                (try simp only [Act.put, sA, sB, sC])
                refine wpAnyH_done (by kernel_rfl) ?_ _
                go_wp2_with fail
                go_meet
                exact ⟨rfl, Ev.setCell (Ev.setCell hy4 hpz _) hpz _⟩
            · go_simp
              generalize hWA : World.alloc z2 _ = WA
              have hal := alloc1 z2 (.cells #[.int .i64 0, .int .i64 0] 57)
              have hbA : Ev z2 WA := by rw [← hWA]; exact Ev.alloc (Ev.refl _) _
              have hqA := hal.1
              rw [hWA] at hqA
              have hxA : Ev x4 WA := hy2.trans hbA
              have hpz : x4.heap.size ≤ z2.heap.size := hy2.size
              clear hal hWA
              refine hK.out _ _ (HSE.out _ hxA) (fun hHeld => ?_)
              clear hK K
              (try simp only [Act.put, List.setIfInBounds_toArray, List.set_cons_zero, List.set_cons_succ])
              refine wpAnyH_one (i := 6) rfl (by kernel_rfl) (by rfl) (fun K hK => ?_)
              go_simp
              refine (FieldL_c f ls1 Ag Aw Ab Ac S ng cg nw cw nb cb nc cc m1 sd (by omega) (by omega) (by omega) (by omega) (by omega) _ (hc2.ev hbA)).mono ?_
              rintro e z3 ⟨⟨Bg5, dg5, Bw5, dw5, Bb5, db5, Bc5, dc5, Bl5, dl5, rfl, hc3⟩, hb3⟩
              have hy3 : Ev x4 z3 := Ev.trans hxA hb3
              refine hK.out _ _ (HSE.out _ hy3) (fun hHeld => ?_)
              clear hK K
              (try simp only [Act.put, List.setIfInBounds_toArray, List.set_cons_zero, List.set_cons_succ])
              refine wpAnyH_one (i := 7) rfl (by kernel_rfl) (by rfl) (fun K hK => ?_)
              go_simp
              refine (HWO1.out Bg5 dg5 Bw5 dw5 Bb5 db5 Bc5 dc5 Bl5 dl5 _ hc3).mono ?_
              rintro e z4 ⟨⟨ra, rb, rfl⟩, hb4⟩
              have hy4 : Ev x4 z4 := Ev.trans hy3 hb4
              refine hK.out _ _ (HSE.out _ hy4) (fun hHeld => ?_)
              clear hK K
              (try simp only [Act.put, List.setIfInBounds_toArray, List.set_cons_zero, List.set_cons_succ])
              refine tkH 8 (some 76) ?_
              (try simp only [Act.put, sA, sB, sC])
              refine tkH 9 (some 85) ?_
              (try simp only [Act.put, sA, sB, sC])
              refine tkH 10 (some 86) ?_
              (try simp only [Act.put, sA, sB, sC])
              refine wpAnyH_one (i := 12) rfl (by kernel_rfl) (by rfl) (fun K hK => ?_)
              have hq9 := (hb4.heap (hb3.heap hqA))
              obtain ⟨u0, u1⟩ := cells2 hq9
              obtain ⟨v0, v1⟩ := frz2 hq9
              have hne : w.heap.size ≠ z2.heap.size := by have := lbx; omega
              clear hq9
              go_simp
              refine hK.out _ _ (fun o => (cell_set_ne hne).trans ((cell_set_ne hne).trans (HSE.out _ hy4 o))) (fun hHeld => ?_)
              clear hK K
              (try simp only [Act.put, List.setIfInBounds_toArray, List.set_cons_zero, List.set_cons_succ])
              refine tkH 13 (some 11) ?_
              (try simp only [Act.put, sA, sB, sC])
              refine wpAnyH_done (by kernel_rfl) ?_ _
              go_wp2_with fail
              go_meet
              exact ⟨rfl, Ev.setCell (Ev.setCell hy4 hpz _) hpz _⟩
          · go_simp
            generalize hWA : World.alloc z1 _ = WA
            have hal := alloc1 z1 (.cells #[.int .i64 0, .int .i64 0] 57)
            have hbA : Ev z1 WA := by rw [← hWA]; exact Ev.alloc (Ev.refl _) _
            have hqA := hal.1
            rw [hWA] at hqA
            have hxA : Ev x4 WA := hy1.trans hbA
            have hpz : x4.heap.size ≤ z1.heap.size := hy1.size
            clear hal hWA
            refine hK.out _ _ (HSE.out _ hxA) (fun hHeld => ?_)
            clear hK K
            (try simp only [Act.put, List.setIfInBounds_toArray, List.set_cons_zero, List.set_cons_succ])
            refine wpAnyH_one (i := 5) rfl (by kernel_rfl) (by rfl) (fun K hK => ?_)
            go_simp
            refine (HSM1.out _ (HX4.out.trans hxA)).mono ?_
            rintro e z2 ⟨⟨S, sd, rfl, hc2⟩, hb2⟩
            have hy2 : Ev x4 z2 := Ev.trans hxA hb2
            refine hK.out _ _ (HSE.out _ hy2) (fun hHeld => ?_)
            clear hK K
            (try simp only [Act.put, List.setIfInBounds_toArray, List.set_cons_zero, List.set_cons_succ])
            refine wpAnyH_one (i := 6) rfl (by kernel_rfl) (by rfl) (fun K hK => ?_)
            go_simp
            refine (FieldL_c f ls1 Ag Aw Ab Ac S ng cg nw cw nb cb nc cc m1 sd (by omega) (by omega) (by omega) (by omega) (by omega) _ hc2).mono ?_
            rintro e z3 ⟨⟨Bg5, dg5, Bw5, dw5, Bb5, db5, Bc5, dc5, Bl5, dl5, rfl, hc3⟩, hb3⟩
            have hy3 : Ev x4 z3 := Ev.trans hy2 hb3
            refine hK.out _ _ (HSE.out _ hy3) (fun hHeld => ?_)
            clear hK K
            (try simp only [Act.put, List.setIfInBounds_toArray, List.set_cons_zero, List.set_cons_succ])
            refine wpAnyH_one (i := 7) rfl (by kernel_rfl) (by rfl) (fun K hK => ?_)
            go_simp
            refine (HWO1.out Bg5 dg5 Bw5 dw5 Bb5 db5 Bc5 dc5 Bl5 dl5 _ hc3).mono ?_
            rintro e z4 ⟨⟨ra, rb, rfl⟩, hb4⟩
            have hy4 : Ev x4 z4 := Ev.trans hy3 hb4
            refine hK.out _ _ (HSE.out _ hy4) (fun hHeld => ?_)
            clear hK K
            (try simp only [Act.put, List.setIfInBounds_toArray, List.set_cons_zero, List.set_cons_succ])
            refine tkH 8 (some 76) ?_
            (try simp only [Act.put, sA, sB, sC])
            refine tkH 9 (some 85) ?_
            (try simp only [Act.put, sA, sB, sC])
            refine tkH 10 (some 86) ?_
            (try simp only [Act.put, sA, sB, sC])
            refine wpAnyH_one (i := 12) rfl (by kernel_rfl) (by rfl) (fun K hK => ?_)
            have hq9 := (hb4.heap (hb3.heap (hb2.heap hqA)))
            obtain ⟨u0, u1⟩ := cells2 hq9
            obtain ⟨v0, v1⟩ := frz2 hq9
            have hne : w.heap.size ≠ z1.heap.size := by have := lbx; omega
            clear hq9
            go_simp
            refine hK.out _ _ (fun o => (cell_set_ne hne).trans ((cell_set_ne hne).trans (HSE.out _ hy4 o))) (fun hHeld => ?_)
            clear hK K
            (try simp only [Act.put, List.setIfInBounds_toArray, List.set_cons_zero, List.set_cons_succ])
            refine tkH 13 (some 11) ?_
            (try simp only [Act.put, sA, sB, sC])
            refine wpAnyH_done (by kernel_rfl) ?_ _
            go_wp2_with fail
            go_meet
            exact ⟨rfl, Ev.setCell (Ev.setCell hy4 hpz _) hpz _⟩
        · go_simp
          generalize hWA : World.drew (World.alloc x4 _) = WA
          have hal := alloc1 x4 (.cells #[.int .i64 0, .int .i64 0] 57)
          have hbA : Ev x4 WA := by rw [← hWA]; exact Ev.drew (Ev.alloc (Ev.refl _) _)
          have hqA := (show Ev (World.alloc x4 (.cells #[.int .i64 0, .int .i64 0] 57)) WA from by rw [← hWA]; exact Ev.drew (Ev.refl _)).heap hal.1
          have hxA : Ev x4 WA := hbA
          have hpz : x4.heap.size ≤ x4.heap.size := Nat.le_refl _
          clear hal hWA
          refine hK.out _ _ (HSE.out _ hxA) (fun hHeld => ?_)
          clear hK K
          (try simp only [Act.put, List.setIfInBounds_toArray, List.set_cons_zero, List.set_cons_succ])
          refine wpAnyH_one (i := 2) rfl (by kernel_rfl) (by rfl) (fun K hK => ?_)
          go_simp
          refine (HFL.out _).mono ?_
          rintro e z1 ⟨rfl, hb1⟩
          have hy1 : Ev x4 z1 := Ev.trans hxA hb1
          refine hK.out _ _ (HSE.out _ hy1) (fun hHeld => ?_)
          clear hK K
          (try simp only [Act.put, List.setIfInBounds_toArray, List.set_cons_zero, List.set_cons_succ])
          refine tkH 4 (some 81) ?_
          (try simp only [Act.put, sA, sB, sC])
          refine wpAnyH_one (i := 5) rfl (by kernel_rfl) (by rfl) (fun K hK => ?_)
          go_simp
          refine (HSM1.out _ (HX4.out.trans hy1)).mono ?_
          rintro e z2 ⟨⟨S, sd, rfl, hc2⟩, hb2⟩
          have hy2 : Ev x4 z2 := Ev.trans hy1 hb2
          refine hK.out _ _ (HSE.out _ hy2) (fun hHeld => ?_)
          clear hK K
          (try simp only [Act.put, List.setIfInBounds_toArray, List.set_cons_zero, List.set_cons_succ])
          refine wpAnyH_one (i := 6) rfl (by kernel_rfl) (by rfl) (fun K hK => ?_)
          go_simp
          refine (FieldL_c f ls1 Ag Aw Ab Ac S ng cg nw cw nb cb nc cc m1 sd (by omega) (by omega) (by omega) (by omega) (by omega) _ hc2).mono ?_
          rintro e z3 ⟨⟨Bg5, dg5, Bw5, dw5, Bb5, db5, Bc5, dc5, Bl5, dl5, rfl, hc3⟩, hb3⟩
          have hy3 : Ev x4 z3 := Ev.trans hy2 hb3
          refine hK.out _ _ (HSE.out _ hy3) (fun hHeld => ?_)
          clear hK K
          (try simp only [Act.put, List.setIfInBounds_toArray, List.set_cons_zero, List.set_cons_succ])
          refine wpAnyH_one (i := 7) rfl (by kernel_rfl) (by rfl) (fun K hK => ?_)
          go_simp
          refine (HWO1.out Bg5 dg5 Bw5 dw5 Bb5 db5 Bc5 dc5 Bl5 dl5 _ hc3).mono ?_
          rintro e z4 ⟨⟨ra, rb, rfl⟩, hb4⟩
          have hy4 : Ev x4 z4 := Ev.trans hy3 hb4
          refine hK.out _ _ (HSE.out _ hy4) (fun hHeld => ?_)
          clear hK K
          (try simp only [Act.put, List.setIfInBounds_toArray, List.set_cons_zero, List.set_cons_succ])
          refine tkH 8 (some 76) ?_
          (try simp only [Act.put, sA, sB, sC])
          refine tkH 9 (some 85) ?_
          (try simp only [Act.put, sA, sB, sC])
          refine tkH 10 (some 86) ?_
          (try simp only [Act.put, sA, sB, sC])
          refine wpAnyH_one (i := 12) rfl (by kernel_rfl) (by rfl) (fun K hK => ?_)
          have hq9 := (hb4.heap (hb3.heap (hb2.heap (hb1.heap hqA))))
          obtain ⟨u0, u1⟩ := cells2 hq9
          obtain ⟨v0, v1⟩ := frz2 hq9
          have hne : w.heap.size ≠ x4.heap.size := by have := lbx; omega
          clear hq9
          go_simp
          refine hK.out _ _ (fun o => (cell_set_ne hne).trans ((cell_set_ne hne).trans (HSE.out _ hy4 o))) (fun hHeld => ?_)
          clear hK K
          (try simp only [Act.put, List.setIfInBounds_toArray, List.set_cons_zero, List.set_cons_succ])
          refine tkH 13 (some 11) ?_
          (try simp only [Act.put, sA, sB, sC])
          refine wpAnyH_done (by kernel_rfl) ?_ _
          go_wp2_with fail
          go_meet
          exact ⟨rfl, Ev.setCell (Ev.setCell hy4 hpz _) hpz _⟩
      case rest =>
        obtain ⟨rfl, hB5⟩ := hcut
        obtain ⟨x5, hx5⟩ : ∃ x, x = wc := ⟨_, rfl⟩
        subst hx5
        have HX5 := hid (HX4.out.trans hB5)
        have Q5 := hid (hB5.heap Q4.out)
        have lbx := heap_lt Q5.out
        clear y0 y1 y2 y3 y4 y5 y6 y7 y8 HSE
        obtain ⟨y0, y1, y2, y3, y4, y5, y6, y7, y8⟩ := cells9 Q5.out
        cases hft : M.fit f ls2 with
        | true =>
          have HWO2 := hid (fun (Bg : Option Addr) (dg : Nat) (Bw : Option Addr) (dw : Nat) (Bb : Option Addr) (db : Nat) (Bc : Option Addr) (dc : Nat) (Bl : Option Addr) (dl : Nat) W h => HWY2.out hft Bg dg Bw dw Bb db Bc dc Bl dl W h)
          have hsh9 := HSX.out hft
          rw [hsh9] at HSH
          clear HWY2 HWN2 HSX hft hsh9 HSM1 HWO1
          go_upto_region 15 with fail
          have HSE : Hid (∀ w', Ev x5 w' → (∀ o, w'.cell? ⟨w.heap.size, o, none⟩ = x5.cell? ⟨w.heap.size, o, none⟩)) := hid (fun w' h => fun o => h.cells.1 _ o lbx)
          go_cut [13] (fun v W => v = .int .i64 0 ∧ Ev x5 W)
          case first =>
            refine wp_region_held_drew (S := fun w' => (∀ o, w'.cell? ⟨w.heap.size, o, none⟩ = x5.cell? ⟨w.heap.size, o, none⟩)) (by kernel_rfl) (fun o => rfl) (fun hHeld => ?_)
            refine tkH 0 (some 88) ?_
            (try simp only [Act.put, sA, sB, sC])
            refine tkH 1 (some 89) ?_
            (try simp only [Act.put, sA, sB, sC])
            refine tkH 3 (some 91) ?_
            (try simp only [Act.put, sA, sB, sC])
            refine wpAnyH_ready (rs := [2, 11]) (by kernel_rfl) (by simp) ?_
            refine AllReadyH.cons rfl (fun K hK => ?_) (AllReadyH.cons rfl (fun K hK => ?_) (AllReadyH.nil))
            · go_simp
              refine (HFL.out _).mono ?_
              rintro e z1 ⟨rfl, hb1⟩
              have hy1 : Ev x5 z1 := Ev.trans (Ev.drew (Ev.refl _)) hb1
              refine hK.out _ _ (HSE.out _ hy1) (fun hHeld => ?_)
              clear hK K
              (try simp only [Act.put, List.setIfInBounds_toArray, List.set_cons_zero, List.set_cons_succ])
              refine tkH 4 (some 92) ?_
              (try simp only [Act.put, sA, sB, sC])
              refine wpAnyH_ready (rs := [5, 11]) (by kernel_rfl) (by simp) ?_
              refine AllReadyH.cons rfl (fun K hK => ?_) (AllReadyH.cons rfl (fun K hK => ?_) (AllReadyH.nil))
              · go_simp
                refine (HSM2.out _ (HX5.out.trans hy1)).mono ?_
                rintro e z2 ⟨⟨S, sd, rfl, hc2⟩, hb2⟩
                have hy2 : Ev x5 z2 := Ev.trans hy1 hb2
                refine hK.out _ _ (HSE.out _ hy2) (fun hHeld => ?_)
                clear hK K
                (try simp only [Act.put, List.setIfInBounds_toArray, List.set_cons_zero, List.set_cons_succ])
                refine wpAnyH_ready (rs := [6, 11]) (by kernel_rfl) (by simp) ?_
                refine AllReadyH.cons rfl (fun K hK => ?_) (AllReadyH.cons rfl (fun K hK => ?_) (AllReadyH.nil))
                · go_simp
                  refine (FieldL_c f ls2 Ag Aw Ab Ac S ng cg nw cw nb cb nc cc m2 sd (by omega) (by omega) (by omega) (by omega) (by omega) _ hc2).mono ?_
                  rintro e z3 ⟨⟨Bg5, dg5, Bw5, dw5, Bb5, db5, Bc5, dc5, Bl5, dl5, rfl, hc3⟩, hb3⟩
                  have hy3 : Ev x5 z3 := Ev.trans hy2 hb3
                  refine hK.out _ _ (HSE.out _ hy3) (fun hHeld => ?_)
                  clear hK K
                  (try simp only [Act.put, List.setIfInBounds_toArray, List.set_cons_zero, List.set_cons_succ])
                  refine wpAnyH_ready (rs := [7, 11]) (by kernel_rfl) (by simp) ?_
                  refine AllReadyH.cons rfl (fun K hK => ?_) (AllReadyH.cons rfl (fun K hK => ?_) (AllReadyH.nil))
                  · go_simp
                    refine (HWO2.out Bg5 dg5 Bw5 dw5 Bb5 db5 Bc5 dc5 Bl5 dl5 _ hc3).mono ?_
                    rintro e z4 ⟨⟨ra, rb, rfl⟩, hb4⟩
                    have hy4 : Ev x5 z4 := Ev.trans hy3 hb4
                    refine hK.out _ _ (HSE.out _ hy4) (fun hHeld => ?_)
                    clear hK K
                    (try simp only [Act.put, List.setIfInBounds_toArray, List.set_cons_zero, List.set_cons_succ])
                    refine tkH 8 (some 87) ?_
                    (try simp only [Act.put, sA, sB, sC])
                    refine tkH 9 (some 96) ?_
                    (try simp only [Act.put, sA, sB, sC])
                    refine tkH 10 (some 97) ?_
                    (try simp only [Act.put, sA, sB, sC])
                    refine wpAnyH_one (i := 11) rfl (by kernel_rfl) (by rfl) (fun K hK => ?_)
                    go_simp
                    generalize hWA : World.alloc z4 _ = WA
                    have hal := alloc1 z4 (.cells #[.int .i64 0, .int .i64 0] 57)
                    have hbA : Ev z4 WA := by rw [← hWA]; exact Ev.alloc (Ev.refl _) _
                    have hqA := hal.1
                    rw [hWA] at hqA
                    have hxA : Ev x5 WA := hy4.trans hbA
                    have hpz : x5.heap.size ≤ z4.heap.size := hy4.size
                    clear hal hWA
                    refine hK.out _ _ (HSE.out _ hxA) (fun hHeld => ?_)
                    clear hK K
                    (try simp only [Act.put, List.setIfInBounds_toArray, List.set_cons_zero, List.set_cons_succ])
                    refine wpAnyH_one (i := 12) rfl (by kernel_rfl) (by rfl) (fun K hK => ?_)
                    have hq9 := hqA
                    obtain ⟨u0, u1⟩ := cells2 hq9
                    obtain ⟨v0, v1⟩ := frz2 hq9
                    have hne : w.heap.size ≠ z4.heap.size := by have := lbx; omega
                    clear hq9
                    go_simp
                    refine hK.out _ _ (fun o => (cell_set_ne hne).trans ((cell_set_ne hne).trans (HSE.out _ hxA o))) (fun hHeld => ?_)
                    clear hK K
                    (try simp only [Act.put, List.setIfInBounds_toArray, List.set_cons_zero, List.set_cons_succ])
                    refine tkH 13 (some 13) ?_
                    (try simp only [Act.put, sA, sB, sC])
                    refine wpAnyH_done (by kernel_rfl) ?_ _
                    go_wp2_with fail
                    go_meet
                    exact ⟨rfl, Ev.setCell (Ev.setCell hxA hpz _) hpz _⟩
                  · go_simp
                    generalize hWA : World.alloc z3 _ = WA
                    have hal := alloc1 z3 (.cells #[.int .i64 0, .int .i64 0] 57)
                    have hbA : Ev z3 WA := by rw [← hWA]; exact Ev.alloc (Ev.refl _) _
                    have hqA := hal.1
                    rw [hWA] at hqA
                    have hxA : Ev x5 WA := hy3.trans hbA
                    have hpz : x5.heap.size ≤ z3.heap.size := hy3.size
                    clear hal hWA
                    refine hK.out _ _ (HSE.out _ hxA) (fun hHeld => ?_)
                    clear hK K
                    (try simp only [Act.put, List.setIfInBounds_toArray, List.set_cons_zero, List.set_cons_succ])
                    refine wpAnyH_one (i := 7) rfl (by kernel_rfl) (by rfl) (fun K hK => ?_)
                    go_simp
                    refine (HWO2.out Bg5 dg5 Bw5 dw5 Bb5 db5 Bc5 dc5 Bl5 dl5 _ (hc3.ev hbA)).mono ?_
                    rintro e z4 ⟨⟨ra, rb, rfl⟩, hb4⟩
                    have hy4 : Ev x5 z4 := Ev.trans hxA hb4
                    refine hK.out _ _ (HSE.out _ hy4) (fun hHeld => ?_)
                    clear hK K
                    (try simp only [Act.put, List.setIfInBounds_toArray, List.set_cons_zero, List.set_cons_succ])
                    refine tkH 8 (some 87) ?_
                    (try simp only [Act.put, sA, sB, sC])
                    refine tkH 9 (some 96) ?_
                    (try simp only [Act.put, sA, sB, sC])
                    refine tkH 10 (some 97) ?_
                    (try simp only [Act.put, sA, sB, sC])
                    refine wpAnyH_one (i := 12) rfl (by kernel_rfl) (by rfl) (fun K hK => ?_)
                    have hq9 := (hb4.heap hqA)
                    obtain ⟨u0, u1⟩ := cells2 hq9
                    obtain ⟨v0, v1⟩ := frz2 hq9
                    have hne : w.heap.size ≠ z3.heap.size := by have := lbx; omega
                    clear hq9
                    go_simp
                    refine hK.out _ _ (fun o => (cell_set_ne hne).trans ((cell_set_ne hne).trans (HSE.out _ hy4 o))) (fun hHeld => ?_)
                    clear hK K
                    (try simp only [Act.put, List.setIfInBounds_toArray, List.set_cons_zero, List.set_cons_succ])
                    refine tkH 13 (some 13) ?_
                    (try simp only [Act.put, sA, sB, sC])
                    refine wpAnyH_done (by kernel_rfl) ?_ _
                    go_wp2_with fail
                    go_meet
                    exact ⟨rfl, Ev.setCell (Ev.setCell hy4 hpz _) hpz _⟩
                · go_simp
                  generalize hWA : World.alloc z2 _ = WA
                  have hal := alloc1 z2 (.cells #[.int .i64 0, .int .i64 0] 57)
                  have hbA : Ev z2 WA := by rw [← hWA]; exact Ev.alloc (Ev.refl _) _
                  have hqA := hal.1
                  rw [hWA] at hqA
                  have hxA : Ev x5 WA := hy2.trans hbA
                  have hpz : x5.heap.size ≤ z2.heap.size := hy2.size
                  clear hal hWA
                  refine hK.out _ _ (HSE.out _ hxA) (fun hHeld => ?_)
                  clear hK K
                  (try simp only [Act.put, List.setIfInBounds_toArray, List.set_cons_zero, List.set_cons_succ])
                  refine wpAnyH_one (i := 6) rfl (by kernel_rfl) (by rfl) (fun K hK => ?_)
                  go_simp
                  refine (FieldL_c f ls2 Ag Aw Ab Ac S ng cg nw cw nb cb nc cc m2 sd (by omega) (by omega) (by omega) (by omega) (by omega) _ (hc2.ev hbA)).mono ?_
                  rintro e z3 ⟨⟨Bg5, dg5, Bw5, dw5, Bb5, db5, Bc5, dc5, Bl5, dl5, rfl, hc3⟩, hb3⟩
                  have hy3 : Ev x5 z3 := Ev.trans hxA hb3
                  refine hK.out _ _ (HSE.out _ hy3) (fun hHeld => ?_)
                  clear hK K
                  (try simp only [Act.put, List.setIfInBounds_toArray, List.set_cons_zero, List.set_cons_succ])
                  refine wpAnyH_one (i := 7) rfl (by kernel_rfl) (by rfl) (fun K hK => ?_)
                  go_simp
                  refine (HWO2.out Bg5 dg5 Bw5 dw5 Bb5 db5 Bc5 dc5 Bl5 dl5 _ hc3).mono ?_
                  rintro e z4 ⟨⟨ra, rb, rfl⟩, hb4⟩
                  have hy4 : Ev x5 z4 := Ev.trans hy3 hb4
                  refine hK.out _ _ (HSE.out _ hy4) (fun hHeld => ?_)
                  clear hK K
                  (try simp only [Act.put, List.setIfInBounds_toArray, List.set_cons_zero, List.set_cons_succ])
                  refine tkH 8 (some 87) ?_
                  (try simp only [Act.put, sA, sB, sC])
                  refine tkH 9 (some 96) ?_
                  (try simp only [Act.put, sA, sB, sC])
                  refine tkH 10 (some 97) ?_
                  (try simp only [Act.put, sA, sB, sC])
                  refine wpAnyH_one (i := 12) rfl (by kernel_rfl) (by rfl) (fun K hK => ?_)
                  have hq9 := (hb4.heap (hb3.heap hqA))
                  obtain ⟨u0, u1⟩ := cells2 hq9
                  obtain ⟨v0, v1⟩ := frz2 hq9
                  have hne : w.heap.size ≠ z2.heap.size := by have := lbx; omega
                  clear hq9
                  go_simp
                  refine hK.out _ _ (fun o => (cell_set_ne hne).trans ((cell_set_ne hne).trans (HSE.out _ hy4 o))) (fun hHeld => ?_)
                  clear hK K
                  (try simp only [Act.put, List.setIfInBounds_toArray, List.set_cons_zero, List.set_cons_succ])
                  refine tkH 13 (some 13) ?_
                  (try simp only [Act.put, sA, sB, sC])
                  refine wpAnyH_done (by kernel_rfl) ?_ _
                  go_wp2_with fail
                  go_meet
                  exact ⟨rfl, Ev.setCell (Ev.setCell hy4 hpz _) hpz _⟩
              · go_simp
                generalize hWA : World.alloc z1 _ = WA
                have hal := alloc1 z1 (.cells #[.int .i64 0, .int .i64 0] 57)
                have hbA : Ev z1 WA := by rw [← hWA]; exact Ev.alloc (Ev.refl _) _
                have hqA := hal.1
                rw [hWA] at hqA
                have hxA : Ev x5 WA := hy1.trans hbA
                have hpz : x5.heap.size ≤ z1.heap.size := hy1.size
                clear hal hWA
                refine hK.out _ _ (HSE.out _ hxA) (fun hHeld => ?_)
                clear hK K
                (try simp only [Act.put, List.setIfInBounds_toArray, List.set_cons_zero, List.set_cons_succ])
                refine wpAnyH_one (i := 5) rfl (by kernel_rfl) (by rfl) (fun K hK => ?_)
                go_simp
                refine (HSM2.out _ (HX5.out.trans hxA)).mono ?_
                rintro e z2 ⟨⟨S, sd, rfl, hc2⟩, hb2⟩
                have hy2 : Ev x5 z2 := Ev.trans hxA hb2
                refine hK.out _ _ (HSE.out _ hy2) (fun hHeld => ?_)
                clear hK K
                (try simp only [Act.put, List.setIfInBounds_toArray, List.set_cons_zero, List.set_cons_succ])
                refine wpAnyH_one (i := 6) rfl (by kernel_rfl) (by rfl) (fun K hK => ?_)
                go_simp
                refine (FieldL_c f ls2 Ag Aw Ab Ac S ng cg nw cw nb cb nc cc m2 sd (by omega) (by omega) (by omega) (by omega) (by omega) _ hc2).mono ?_
                rintro e z3 ⟨⟨Bg5, dg5, Bw5, dw5, Bb5, db5, Bc5, dc5, Bl5, dl5, rfl, hc3⟩, hb3⟩
                have hy3 : Ev x5 z3 := Ev.trans hy2 hb3
                refine hK.out _ _ (HSE.out _ hy3) (fun hHeld => ?_)
                clear hK K
                (try simp only [Act.put, List.setIfInBounds_toArray, List.set_cons_zero, List.set_cons_succ])
                refine wpAnyH_one (i := 7) rfl (by kernel_rfl) (by rfl) (fun K hK => ?_)
                go_simp
                refine (HWO2.out Bg5 dg5 Bw5 dw5 Bb5 db5 Bc5 dc5 Bl5 dl5 _ hc3).mono ?_
                rintro e z4 ⟨⟨ra, rb, rfl⟩, hb4⟩
                have hy4 : Ev x5 z4 := Ev.trans hy3 hb4
                refine hK.out _ _ (HSE.out _ hy4) (fun hHeld => ?_)
                clear hK K
                (try simp only [Act.put, List.setIfInBounds_toArray, List.set_cons_zero, List.set_cons_succ])
                refine tkH 8 (some 87) ?_
                (try simp only [Act.put, sA, sB, sC])
                refine tkH 9 (some 96) ?_
                (try simp only [Act.put, sA, sB, sC])
                refine tkH 10 (some 97) ?_
                (try simp only [Act.put, sA, sB, sC])
                refine wpAnyH_one (i := 12) rfl (by kernel_rfl) (by rfl) (fun K hK => ?_)
                have hq9 := (hb4.heap (hb3.heap (hb2.heap hqA)))
                obtain ⟨u0, u1⟩ := cells2 hq9
                obtain ⟨v0, v1⟩ := frz2 hq9
                have hne : w.heap.size ≠ z1.heap.size := by have := lbx; omega
                clear hq9
                go_simp
                refine hK.out _ _ (fun o => (cell_set_ne hne).trans ((cell_set_ne hne).trans (HSE.out _ hy4 o))) (fun hHeld => ?_)
                clear hK K
                (try simp only [Act.put, List.setIfInBounds_toArray, List.set_cons_zero, List.set_cons_succ])
                refine tkH 13 (some 13) ?_
                (try simp only [Act.put, sA, sB, sC])
                refine wpAnyH_done (by kernel_rfl) ?_ _
                go_wp2_with fail
                go_meet
                exact ⟨rfl, Ev.setCell (Ev.setCell hy4 hpz _) hpz _⟩
            · go_simp
              generalize hWA : World.drew (World.alloc x5 _) = WA
              have hal := alloc1 x5 (.cells #[.int .i64 0, .int .i64 0] 57)
              have hbA : Ev x5 WA := by rw [← hWA]; exact Ev.drew (Ev.alloc (Ev.refl _) _)
              have hqA := (show Ev (World.alloc x5 (.cells #[.int .i64 0, .int .i64 0] 57)) WA from by rw [← hWA]; exact Ev.drew (Ev.refl _)).heap hal.1
              have hxA : Ev x5 WA := hbA
              have hpz : x5.heap.size ≤ x5.heap.size := Nat.le_refl _
              clear hal hWA
              refine hK.out _ _ (HSE.out _ hxA) (fun hHeld => ?_)
              clear hK K
              (try simp only [Act.put, List.setIfInBounds_toArray, List.set_cons_zero, List.set_cons_succ])
              refine wpAnyH_one (i := 2) rfl (by kernel_rfl) (by rfl) (fun K hK => ?_)
              go_simp
              refine (HFL.out _).mono ?_
              rintro e z1 ⟨rfl, hb1⟩
              have hy1 : Ev x5 z1 := Ev.trans hxA hb1
              refine hK.out _ _ (HSE.out _ hy1) (fun hHeld => ?_)
              clear hK K
              (try simp only [Act.put, List.setIfInBounds_toArray, List.set_cons_zero, List.set_cons_succ])
              refine tkH 4 (some 92) ?_
              (try simp only [Act.put, sA, sB, sC])
              refine wpAnyH_one (i := 5) rfl (by kernel_rfl) (by rfl) (fun K hK => ?_)
              go_simp
              refine (HSM2.out _ (HX5.out.trans hy1)).mono ?_
              rintro e z2 ⟨⟨S, sd, rfl, hc2⟩, hb2⟩
              have hy2 : Ev x5 z2 := Ev.trans hy1 hb2
              refine hK.out _ _ (HSE.out _ hy2) (fun hHeld => ?_)
              clear hK K
              (try simp only [Act.put, List.setIfInBounds_toArray, List.set_cons_zero, List.set_cons_succ])
              refine wpAnyH_one (i := 6) rfl (by kernel_rfl) (by rfl) (fun K hK => ?_)
              go_simp
              refine (FieldL_c f ls2 Ag Aw Ab Ac S ng cg nw cw nb cb nc cc m2 sd (by omega) (by omega) (by omega) (by omega) (by omega) _ hc2).mono ?_
              rintro e z3 ⟨⟨Bg5, dg5, Bw5, dw5, Bb5, db5, Bc5, dc5, Bl5, dl5, rfl, hc3⟩, hb3⟩
              have hy3 : Ev x5 z3 := Ev.trans hy2 hb3
              refine hK.out _ _ (HSE.out _ hy3) (fun hHeld => ?_)
              clear hK K
              (try simp only [Act.put, List.setIfInBounds_toArray, List.set_cons_zero, List.set_cons_succ])
              refine wpAnyH_one (i := 7) rfl (by kernel_rfl) (by rfl) (fun K hK => ?_)
              go_simp
              refine (HWO2.out Bg5 dg5 Bw5 dw5 Bb5 db5 Bc5 dc5 Bl5 dl5 _ hc3).mono ?_
              rintro e z4 ⟨⟨ra, rb, rfl⟩, hb4⟩
              have hy4 : Ev x5 z4 := Ev.trans hy3 hb4
              refine hK.out _ _ (HSE.out _ hy4) (fun hHeld => ?_)
              clear hK K
              (try simp only [Act.put, List.setIfInBounds_toArray, List.set_cons_zero, List.set_cons_succ])
              refine tkH 8 (some 87) ?_
              (try simp only [Act.put, sA, sB, sC])
              refine tkH 9 (some 96) ?_
              (try simp only [Act.put, sA, sB, sC])
              refine tkH 10 (some 97) ?_
              (try simp only [Act.put, sA, sB, sC])
              refine wpAnyH_one (i := 12) rfl (by kernel_rfl) (by rfl) (fun K hK => ?_)
              have hq9 := (hb4.heap (hb3.heap (hb2.heap (hb1.heap hqA))))
              obtain ⟨u0, u1⟩ := cells2 hq9
              obtain ⟨v0, v1⟩ := frz2 hq9
              have hne : w.heap.size ≠ x5.heap.size := by have := lbx; omega
              clear hq9
              go_simp
              refine hK.out _ _ (fun o => (cell_set_ne hne).trans ((cell_set_ne hne).trans (HSE.out _ hy4 o))) (fun hHeld => ?_)
              clear hK K
              (try simp only [Act.put, List.setIfInBounds_toArray, List.set_cons_zero, List.set_cons_succ])
              refine tkH 13 (some 13) ?_
              (try simp only [Act.put, sA, sB, sC])
              refine wpAnyH_done (by kernel_rfl) ?_ _
              go_wp2_with fail
              go_meet
              exact ⟨rfl, Ev.setCell (Ev.setCell hy4 hpz _) hpz _⟩
          case rest =>
            obtain ⟨rfl, hB6⟩ := hcut
            obtain ⟨x6, hx6⟩ : ∃ x, x = wc := ⟨_, rfl⟩
            subst hx6
            have HX6 := hid (HX5.out.trans hB6)
            have HV6 := hid (((HB4.out.trans hB5).trans hB6))
            clear y0 y1 y2 y3 y4 y5 y6 y7 y8
            go_wp2_with (first | (go_at_call 49; with_reducible refine (HBT.out _).mono ?_; rintro e z1 ⟨⟨B9, d9, rfl, hs9⟩, hb⟩; have HS9 := hid hs9; have HE7 := hid (HX6.out.trans hb); have HZ7 := hid (HV6.out.trans hb); clear hs9 hb) | (go_at_call 48; with_reducible refine (HSH.out B9 d9 BT dT _ HS9.out (HT3.out.ev HZ7.out)).mono ?_; rintro e z2 ⟨rfl, hb⟩; have HE8 := hid (HE7.out.trans hb); clear hb) | (go_at_call 14; with_reducible refine (awake_c _).mono ?_; rintro e w99 ⟨rfl, hb99⟩) | (with_reducible refine ⟨trivial, ?_⟩))
            go_ret
            exact ⟨rfl, HE8.out.trans hb99⟩
        | false =>
          have HWO2 := hid (fun (Bg : Option Addr) (dg : Nat) (Bw : Option Addr) (dw : Nat) (Bb : Option Addr) (db : Nat) (Bc : Option Addr) (dc : Nat) (Bl : Option Addr) (dl : Nat) W h => HWN2.out hft Bg dg Bw dw Bb db Bc dc Bl dl W h)
          clear HWY2 HWN2 HSX hft HSH HSM1 HWO1 HBT
          go_upto_region 15 with fail
          have HSE : Hid (∀ w', Ev x5 w' → (∀ o, w'.cell? ⟨w.heap.size, o, none⟩ = x5.cell? ⟨w.heap.size, o, none⟩)) := hid (fun w' h => fun o => h.cells.1 _ o lbx)
          go_cut [13] (fun v W => v = .int .i64 11 ∧ Ev x5 W)
          case first =>
            refine wp_region_held_drew (S := fun w' => (∀ o, w'.cell? ⟨w.heap.size, o, none⟩ = x5.cell? ⟨w.heap.size, o, none⟩)) (by kernel_rfl) (fun o => rfl) (fun hHeld => ?_)
            refine tkH 0 (some 88) ?_
            (try simp only [Act.put, sA, sB, sC])
            refine tkH 1 (some 89) ?_
            (try simp only [Act.put, sA, sB, sC])
            refine tkH 3 (some 91) ?_
            (try simp only [Act.put, sA, sB, sC])
            refine wpAnyH_ready (rs := [2, 11]) (by kernel_rfl) (by simp) ?_
            refine AllReadyH.cons rfl (fun K hK => ?_) (AllReadyH.cons rfl (fun K hK => ?_) (AllReadyH.nil))
            · go_simp
              refine (HFL.out _).mono ?_
              rintro e z1 ⟨rfl, hb1⟩
              have hy1 : Ev x5 z1 := Ev.trans (Ev.drew (Ev.refl _)) hb1
              refine hK.out _ _ (HSE.out _ hy1) (fun hHeld => ?_)
              clear hK K
              (try simp only [Act.put, List.setIfInBounds_toArray, List.set_cons_zero, List.set_cons_succ])
              refine tkH 4 (some 92) ?_
              (try simp only [Act.put, sA, sB, sC])
              refine wpAnyH_ready (rs := [5, 11]) (by kernel_rfl) (by simp) ?_
              refine AllReadyH.cons rfl (fun K hK => ?_) (AllReadyH.cons rfl (fun K hK => ?_) (AllReadyH.nil))
              · go_simp
                refine (HSM2.out _ (HX5.out.trans hy1)).mono ?_
                rintro e z2 ⟨⟨S, sd, rfl, hc2⟩, hb2⟩
                have hy2 : Ev x5 z2 := Ev.trans hy1 hb2
                refine hK.out _ _ (HSE.out _ hy2) (fun hHeld => ?_)
                clear hK K
                (try simp only [Act.put, List.setIfInBounds_toArray, List.set_cons_zero, List.set_cons_succ])
                refine wpAnyH_ready (rs := [6, 11]) (by kernel_rfl) (by simp) ?_
                refine AllReadyH.cons rfl (fun K hK => ?_) (AllReadyH.cons rfl (fun K hK => ?_) (AllReadyH.nil))
                · go_simp
                  refine (FieldL_c f ls2 Ag Aw Ab Ac S ng cg nw cw nb cb nc cc m2 sd (by omega) (by omega) (by omega) (by omega) (by omega) _ hc2).mono ?_
                  rintro e z3 ⟨⟨Bg5, dg5, Bw5, dw5, Bb5, db5, Bc5, dc5, Bl5, dl5, rfl, hc3⟩, hb3⟩
                  have hy3 : Ev x5 z3 := Ev.trans hy2 hb3
                  refine hK.out _ _ (HSE.out _ hy3) (fun hHeld => ?_)
                  clear hK K
                  (try simp only [Act.put, List.setIfInBounds_toArray, List.set_cons_zero, List.set_cons_succ])
                  refine wpAnyH_ready (rs := [7, 11]) (by kernel_rfl) (by simp) ?_
                  refine AllReadyH.cons rfl (fun K hK => ?_) (AllReadyH.cons rfl (fun K hK => ?_) (AllReadyH.nil))
                  · go_simp
                    refine (HWO2.out Bg5 dg5 Bw5 dw5 Bb5 db5 Bc5 dc5 Bl5 dl5 _ hc3).mono ?_
                    rintro e z4 ⟨rfl, hb4⟩
                    have hy4 : Ev x5 z4 := Ev.trans hy3 hb4
                    refine hK.out _ _ (HSE.out _ hy4) (fun hHeld => ?_)
                    clear hK K
                    (try simp only [Act.put, List.setIfInBounds_toArray, List.set_cons_zero, List.set_cons_succ])
                    refine tkH 8 (some 87) ?_
                    (try simp only [Act.put, sA, sB, sC])
                    refine tkH 9 (some 96) ?_
                    (try simp only [Act.put, sA, sB, sC])
                    refine tkH 10 (some 97) ?_
                    (try simp only [Act.put, sA, sB, sC])
                    refine wpAnyH_one (i := 11) rfl (by kernel_rfl) (by rfl) (fun K hK => ?_)
                    go_simp
                    generalize hWA : World.alloc z4 _ = WA
                    have hal := alloc1 z4 (.cells #[.int .i64 0, .int .i64 0] 57)
                    have hbA : Ev z4 WA := by rw [← hWA]; exact Ev.alloc (Ev.refl _) _
                    have hqA := hal.1
                    rw [hWA] at hqA
                    have hxA : Ev x5 WA := hy4.trans hbA
                    have hpz : x5.heap.size ≤ z4.heap.size := hy4.size
                    clear hal hWA
                    refine hK.out _ _ (HSE.out _ hxA) (fun hHeld => ?_)
                    clear hK K
                    (try simp only [Act.put, List.setIfInBounds_toArray, List.set_cons_zero, List.set_cons_succ])
                    refine wpAnyH_one (i := 12) rfl (by kernel_rfl) (by rfl) (fun K hK => ?_)
                    have hq9 := hqA
                    obtain ⟨u0, u1⟩ := cells2 hq9
                    obtain ⟨v0, v1⟩ := frz2 hq9
                    have hne : w.heap.size ≠ z4.heap.size := by have := lbx; omega
                    clear hq9
                    go_simp
                    refine hK.out _ _ (fun o => (cell_set_ne hne).trans ((cell_set_ne hne).trans (HSE.out _ hxA o))) (fun hHeld => ?_)
                    clear hK K
                    (try simp only [Act.put, List.setIfInBounds_toArray, List.set_cons_zero, List.set_cons_succ])
                    refine tkH 13 (some 13) ?_
                    (try simp only [Act.put, sA, sB, sC])
                    refine wpAnyH_done (by kernel_rfl) ?_ _
                    go_wp2_with fail
                    go_meet
                    exact ⟨rfl, Ev.setCell (Ev.setCell hxA hpz _) hpz _⟩
                  · go_simp
                    generalize hWA : World.alloc z3 _ = WA
                    have hal := alloc1 z3 (.cells #[.int .i64 0, .int .i64 0] 57)
                    have hbA : Ev z3 WA := by rw [← hWA]; exact Ev.alloc (Ev.refl _) _
                    have hqA := hal.1
                    rw [hWA] at hqA
                    have hxA : Ev x5 WA := hy3.trans hbA
                    have hpz : x5.heap.size ≤ z3.heap.size := hy3.size
                    clear hal hWA
                    refine hK.out _ _ (HSE.out _ hxA) (fun hHeld => ?_)
                    clear hK K
                    (try simp only [Act.put, List.setIfInBounds_toArray, List.set_cons_zero, List.set_cons_succ])
                    refine wpAnyH_one (i := 7) rfl (by kernel_rfl) (by rfl) (fun K hK => ?_)
                    go_simp
                    refine (HWO2.out Bg5 dg5 Bw5 dw5 Bb5 db5 Bc5 dc5 Bl5 dl5 _ (hc3.ev hbA)).mono ?_
                    rintro e z4 ⟨rfl, hb4⟩
                    have hy4 : Ev x5 z4 := Ev.trans hxA hb4
                    refine hK.out _ _ (HSE.out _ hy4) (fun hHeld => ?_)
                    clear hK K
                    (try simp only [Act.put, List.setIfInBounds_toArray, List.set_cons_zero, List.set_cons_succ])
                    refine tkH 8 (some 87) ?_
                    (try simp only [Act.put, sA, sB, sC])
                    refine tkH 9 (some 96) ?_
                    (try simp only [Act.put, sA, sB, sC])
                    refine tkH 10 (some 97) ?_
                    (try simp only [Act.put, sA, sB, sC])
                    refine wpAnyH_one (i := 12) rfl (by kernel_rfl) (by rfl) (fun K hK => ?_)
                    have hq9 := (hb4.heap hqA)
                    obtain ⟨u0, u1⟩ := cells2 hq9
                    obtain ⟨v0, v1⟩ := frz2 hq9
                    have hne : w.heap.size ≠ z3.heap.size := by have := lbx; omega
                    clear hq9
                    go_simp
                    refine hK.out _ _ (fun o => (cell_set_ne hne).trans ((cell_set_ne hne).trans (HSE.out _ hy4 o))) (fun hHeld => ?_)
                    clear hK K
                    (try simp only [Act.put, List.setIfInBounds_toArray, List.set_cons_zero, List.set_cons_succ])
                    refine tkH 13 (some 13) ?_
                    (try simp only [Act.put, sA, sB, sC])
                    refine wpAnyH_done (by kernel_rfl) ?_ _
                    go_wp2_with fail
                    go_meet
                    exact ⟨rfl, Ev.setCell (Ev.setCell hy4 hpz _) hpz _⟩
                · go_simp
                  generalize hWA : World.alloc z2 _ = WA
                  have hal := alloc1 z2 (.cells #[.int .i64 0, .int .i64 0] 57)
                  have hbA : Ev z2 WA := by rw [← hWA]; exact Ev.alloc (Ev.refl _) _
                  have hqA := hal.1
                  rw [hWA] at hqA
                  have hxA : Ev x5 WA := hy2.trans hbA
                  have hpz : x5.heap.size ≤ z2.heap.size := hy2.size
                  clear hal hWA
                  refine hK.out _ _ (HSE.out _ hxA) (fun hHeld => ?_)
                  clear hK K
                  (try simp only [Act.put, List.setIfInBounds_toArray, List.set_cons_zero, List.set_cons_succ])
                  refine wpAnyH_one (i := 6) rfl (by kernel_rfl) (by rfl) (fun K hK => ?_)
                  go_simp
                  refine (FieldL_c f ls2 Ag Aw Ab Ac S ng cg nw cw nb cb nc cc m2 sd (by omega) (by omega) (by omega) (by omega) (by omega) _ (hc2.ev hbA)).mono ?_
                  rintro e z3 ⟨⟨Bg5, dg5, Bw5, dw5, Bb5, db5, Bc5, dc5, Bl5, dl5, rfl, hc3⟩, hb3⟩
                  have hy3 : Ev x5 z3 := Ev.trans hxA hb3
                  refine hK.out _ _ (HSE.out _ hy3) (fun hHeld => ?_)
                  clear hK K
                  (try simp only [Act.put, List.setIfInBounds_toArray, List.set_cons_zero, List.set_cons_succ])
                  refine wpAnyH_one (i := 7) rfl (by kernel_rfl) (by rfl) (fun K hK => ?_)
                  go_simp
                  refine (HWO2.out Bg5 dg5 Bw5 dw5 Bb5 db5 Bc5 dc5 Bl5 dl5 _ hc3).mono ?_
                  rintro e z4 ⟨rfl, hb4⟩
                  have hy4 : Ev x5 z4 := Ev.trans hy3 hb4
                  refine hK.out _ _ (HSE.out _ hy4) (fun hHeld => ?_)
                  clear hK K
                  (try simp only [Act.put, List.setIfInBounds_toArray, List.set_cons_zero, List.set_cons_succ])
                  refine tkH 8 (some 87) ?_
                  (try simp only [Act.put, sA, sB, sC])
                  refine tkH 9 (some 96) ?_
                  (try simp only [Act.put, sA, sB, sC])
                  refine tkH 10 (some 97) ?_
                  (try simp only [Act.put, sA, sB, sC])
                  refine wpAnyH_one (i := 12) rfl (by kernel_rfl) (by rfl) (fun K hK => ?_)
                  have hq9 := (hb4.heap (hb3.heap hqA))
                  obtain ⟨u0, u1⟩ := cells2 hq9
                  obtain ⟨v0, v1⟩ := frz2 hq9
                  have hne : w.heap.size ≠ z2.heap.size := by have := lbx; omega
                  clear hq9
                  go_simp
                  refine hK.out _ _ (fun o => (cell_set_ne hne).trans ((cell_set_ne hne).trans (HSE.out _ hy4 o))) (fun hHeld => ?_)
                  clear hK K
                  (try simp only [Act.put, List.setIfInBounds_toArray, List.set_cons_zero, List.set_cons_succ])
                  refine tkH 13 (some 13) ?_
                  (try simp only [Act.put, sA, sB, sC])
                  refine wpAnyH_done (by kernel_rfl) ?_ _
                  go_wp2_with fail
                  go_meet
                  exact ⟨rfl, Ev.setCell (Ev.setCell hy4 hpz _) hpz _⟩
              · go_simp
                generalize hWA : World.alloc z1 _ = WA
                have hal := alloc1 z1 (.cells #[.int .i64 0, .int .i64 0] 57)
                have hbA : Ev z1 WA := by rw [← hWA]; exact Ev.alloc (Ev.refl _) _
                have hqA := hal.1
                rw [hWA] at hqA
                have hxA : Ev x5 WA := hy1.trans hbA
                have hpz : x5.heap.size ≤ z1.heap.size := hy1.size
                clear hal hWA
                refine hK.out _ _ (HSE.out _ hxA) (fun hHeld => ?_)
                clear hK K
                (try simp only [Act.put, List.setIfInBounds_toArray, List.set_cons_zero, List.set_cons_succ])
                refine wpAnyH_one (i := 5) rfl (by kernel_rfl) (by rfl) (fun K hK => ?_)
                go_simp
                refine (HSM2.out _ (HX5.out.trans hxA)).mono ?_
                rintro e z2 ⟨⟨S, sd, rfl, hc2⟩, hb2⟩
                have hy2 : Ev x5 z2 := Ev.trans hxA hb2
                refine hK.out _ _ (HSE.out _ hy2) (fun hHeld => ?_)
                clear hK K
                (try simp only [Act.put, List.setIfInBounds_toArray, List.set_cons_zero, List.set_cons_succ])
                refine wpAnyH_one (i := 6) rfl (by kernel_rfl) (by rfl) (fun K hK => ?_)
                go_simp
                refine (FieldL_c f ls2 Ag Aw Ab Ac S ng cg nw cw nb cb nc cc m2 sd (by omega) (by omega) (by omega) (by omega) (by omega) _ hc2).mono ?_
                rintro e z3 ⟨⟨Bg5, dg5, Bw5, dw5, Bb5, db5, Bc5, dc5, Bl5, dl5, rfl, hc3⟩, hb3⟩
                have hy3 : Ev x5 z3 := Ev.trans hy2 hb3
                refine hK.out _ _ (HSE.out _ hy3) (fun hHeld => ?_)
                clear hK K
                (try simp only [Act.put, List.setIfInBounds_toArray, List.set_cons_zero, List.set_cons_succ])
                refine wpAnyH_one (i := 7) rfl (by kernel_rfl) (by rfl) (fun K hK => ?_)
                go_simp
                refine (HWO2.out Bg5 dg5 Bw5 dw5 Bb5 db5 Bc5 dc5 Bl5 dl5 _ hc3).mono ?_
                rintro e z4 ⟨rfl, hb4⟩
                have hy4 : Ev x5 z4 := Ev.trans hy3 hb4
                refine hK.out _ _ (HSE.out _ hy4) (fun hHeld => ?_)
                clear hK K
                (try simp only [Act.put, List.setIfInBounds_toArray, List.set_cons_zero, List.set_cons_succ])
                refine tkH 8 (some 87) ?_
                (try simp only [Act.put, sA, sB, sC])
                refine tkH 9 (some 96) ?_
                (try simp only [Act.put, sA, sB, sC])
                refine tkH 10 (some 97) ?_
                (try simp only [Act.put, sA, sB, sC])
                refine wpAnyH_one (i := 12) rfl (by kernel_rfl) (by rfl) (fun K hK => ?_)
                have hq9 := (hb4.heap (hb3.heap (hb2.heap hqA)))
                obtain ⟨u0, u1⟩ := cells2 hq9
                obtain ⟨v0, v1⟩ := frz2 hq9
                have hne : w.heap.size ≠ z1.heap.size := by have := lbx; omega
                clear hq9
                go_simp
                refine hK.out _ _ (fun o => (cell_set_ne hne).trans ((cell_set_ne hne).trans (HSE.out _ hy4 o))) (fun hHeld => ?_)
                clear hK K
                (try simp only [Act.put, List.setIfInBounds_toArray, List.set_cons_zero, List.set_cons_succ])
                refine tkH 13 (some 13) ?_
                (try simp only [Act.put, sA, sB, sC])
                refine wpAnyH_done (by kernel_rfl) ?_ _
                go_wp2_with fail
                go_meet
                exact ⟨rfl, Ev.setCell (Ev.setCell hy4 hpz _) hpz _⟩
            · go_simp
              generalize hWA : World.drew (World.alloc x5 _) = WA
              have hal := alloc1 x5 (.cells #[.int .i64 0, .int .i64 0] 57)
              have hbA : Ev x5 WA := by rw [← hWA]; exact Ev.drew (Ev.alloc (Ev.refl _) _)
              have hqA := (show Ev (World.alloc x5 (.cells #[.int .i64 0, .int .i64 0] 57)) WA from by rw [← hWA]; exact Ev.drew (Ev.refl _)).heap hal.1
              have hxA : Ev x5 WA := hbA
              have hpz : x5.heap.size ≤ x5.heap.size := Nat.le_refl _
              clear hal hWA
              refine hK.out _ _ (HSE.out _ hxA) (fun hHeld => ?_)
              clear hK K
              (try simp only [Act.put, List.setIfInBounds_toArray, List.set_cons_zero, List.set_cons_succ])
              refine wpAnyH_one (i := 2) rfl (by kernel_rfl) (by rfl) (fun K hK => ?_)
              go_simp
              refine (HFL.out _).mono ?_
              rintro e z1 ⟨rfl, hb1⟩
              have hy1 : Ev x5 z1 := Ev.trans hxA hb1
              refine hK.out _ _ (HSE.out _ hy1) (fun hHeld => ?_)
              clear hK K
              (try simp only [Act.put, List.setIfInBounds_toArray, List.set_cons_zero, List.set_cons_succ])
              refine tkH 4 (some 92) ?_
              (try simp only [Act.put, sA, sB, sC])
              refine wpAnyH_one (i := 5) rfl (by kernel_rfl) (by rfl) (fun K hK => ?_)
              go_simp
              refine (HSM2.out _ (HX5.out.trans hy1)).mono ?_
              rintro e z2 ⟨⟨S, sd, rfl, hc2⟩, hb2⟩
              have hy2 : Ev x5 z2 := Ev.trans hy1 hb2
              refine hK.out _ _ (HSE.out _ hy2) (fun hHeld => ?_)
              clear hK K
              (try simp only [Act.put, List.setIfInBounds_toArray, List.set_cons_zero, List.set_cons_succ])
              refine wpAnyH_one (i := 6) rfl (by kernel_rfl) (by rfl) (fun K hK => ?_)
              go_simp
              refine (FieldL_c f ls2 Ag Aw Ab Ac S ng cg nw cw nb cb nc cc m2 sd (by omega) (by omega) (by omega) (by omega) (by omega) _ hc2).mono ?_
              rintro e z3 ⟨⟨Bg5, dg5, Bw5, dw5, Bb5, db5, Bc5, dc5, Bl5, dl5, rfl, hc3⟩, hb3⟩
              have hy3 : Ev x5 z3 := Ev.trans hy2 hb3
              refine hK.out _ _ (HSE.out _ hy3) (fun hHeld => ?_)
              clear hK K
              (try simp only [Act.put, List.setIfInBounds_toArray, List.set_cons_zero, List.set_cons_succ])
              refine wpAnyH_one (i := 7) rfl (by kernel_rfl) (by rfl) (fun K hK => ?_)
              go_simp
              refine (HWO2.out Bg5 dg5 Bw5 dw5 Bb5 db5 Bc5 dc5 Bl5 dl5 _ hc3).mono ?_
              rintro e z4 ⟨rfl, hb4⟩
              have hy4 : Ev x5 z4 := Ev.trans hy3 hb4
              refine hK.out _ _ (HSE.out _ hy4) (fun hHeld => ?_)
              clear hK K
              (try simp only [Act.put, List.setIfInBounds_toArray, List.set_cons_zero, List.set_cons_succ])
              refine tkH 8 (some 87) ?_
              (try simp only [Act.put, sA, sB, sC])
              refine tkH 9 (some 96) ?_
              (try simp only [Act.put, sA, sB, sC])
              refine tkH 10 (some 97) ?_
              (try simp only [Act.put, sA, sB, sC])
              refine wpAnyH_one (i := 12) rfl (by kernel_rfl) (by rfl) (fun K hK => ?_)
              have hq9 := (hb4.heap (hb3.heap (hb2.heap (hb1.heap hqA))))
              obtain ⟨u0, u1⟩ := cells2 hq9
              obtain ⟨v0, v1⟩ := frz2 hq9
              have hne : w.heap.size ≠ x5.heap.size := by have := lbx; omega
              clear hq9
              go_simp
              refine hK.out _ _ (fun o => (cell_set_ne hne).trans ((cell_set_ne hne).trans (HSE.out _ hy4 o))) (fun hHeld => ?_)
              clear hK K
              (try simp only [Act.put, List.setIfInBounds_toArray, List.set_cons_zero, List.set_cons_succ])
              refine tkH 13 (some 13) ?_
              (try simp only [Act.put, sA, sB, sC])
              refine wpAnyH_done (by kernel_rfl) ?_ _
              go_wp2_with fail
              go_meet
              exact ⟨rfl, Ev.setCell (Ev.setCell hy4 hpz _) hpz _⟩
          case rest =>
            obtain ⟨rfl, hB6⟩ := hcut
            obtain ⟨x6, hx6⟩ : ∃ x, x = wc := ⟨_, rfl⟩
            subst hx6
            have HX6 := hid (HX5.out.trans hB6)
            clear y0 y1 y2 y3 y4 y5 y6 y7 y8
            go_wp2_with (first | (go_at_call 14; with_reducible refine (awake_c _).mono ?_; rintro e w99 ⟨rfl, hb99⟩) | (with_reducible refine ⟨trivial, ?_⟩))
            go_ret
            exact ⟨rfl, HX6.out.trans hb99⟩

theorem cropLeft_c (f : M.Cf) (Ag Aw Ab Ac Al : Option Addr) (ng cg nw cw nb cb nc cc nl cl : Nat) (hl0 : -9223372036854775808 ≤ f.last) (a : Int) (a0 : 0 ≤ a) (a1 : a < 256) (w : World) (hs : M.small ng nw nb nc nl → CS w w.heap.size f Ag Aw Ab Ac Al ng cg nw cw nb cb nc cc nl cl) :
    Calls Try.prog 11 #[.agg #[.int .i64 f.last, .slice Ag ng cg, .slice Aw nw cw, .slice Ab nb cb, .slice Ac nc cc, .int .i64 f.ripe, .int .i64 f.late, .int .i64 f.trod, .slice Al nl cl], .int .u8 a] w fun e w' => e = .returned (.bool true) ∧ Ev w w' := by
  cases hr : M.rdy f ng nw nb nc nl with
  | false => exact cropLeft_no f Ag Aw Ab Ac Al ng cg nw cw nb cb nc cc nl cl hl0 a a0 a1 w hs hr
  | true =>
    have h1 := hr
    unfold M.rdy at h1
    rw [Bool.and_eq_true, Bool.and_eq_true, decide_eq_true_eq, decide_eq_true_eq] at h1
    obtain ⟨⟨hsm, _⟩, h0⟩ := h1
    exact cropLeft_yes f Ag Aw Ab Ac Al ng cg nw cw nb cb nc cc nl cl hl0 a a0 a1 w (hid (hs hsm)) hr hsm h0

end Go.Proofs.Ytffbkbcjddigdaa
