import Derived.Test.YtffbkbcjddigdaaA70
import Derived.Test.YtffbkbcjddigdaaA62
import Derived.Test.YtffbkbcjddigdaaA58
import Derived.Test.YtffbkbcjddigdaaA54
import Derived.Test.YtffbkbcjddigdaaA48
import Derived.Test.YtffbkbcjddigdaaA49
import Derived.Deep.DeepCutAuto
set_option linter.unusedSimpArgs false
set_option linter.unusedVariables false
namespace Go.Proofs.Ytffbkbcjddigdaa
open Go.RowKit Go.Shelf

set_option maxRecDepth 100000 in
set_option maxHeartbeats 2000000 in
theorem cropApart_no (f : M.Cf) (Ag Aw Ab Ac Al : Option Addr) (ng cg nw cw nb cb nc cc nl cl : Nat) (hl0 : -9223372036854775808 ≤ f.last) (a b c d : Int) (a0 : 0 ≤ a) (a1 : a < 65536) (b0 : 0 ≤ b) (b1 : b < 65536) (c0 : 0 ≤ c) (c1 : c < 65536) (d0 : 0 ≤ d) (d1 : d < 256) (w : World) (hs : M.small ng nw nb nc nl → CS w w.heap.size f Ag Aw Ab Ac Al ng cg nw cw nb cb nc cc nl cl) (hno : M.rdy f ng nw nb nc nl = false) :
  Calls Try.prog 12 #[.agg #[.int .i64 f.last, .slice Ag ng cg, .slice Aw nw cw, .slice Ab nb cb, .slice Ac nc cc, .int .i64 f.ripe, .int .i64 f.late, .int .i64 f.trod, .slice Al nl cl], .int .u16 a, .int .u16 b, .int .u16 c, .int .u8 d] w fun e w' => e = .returned (.bool true) ∧ Ev w w' := by
 have HRD := hid (fun W (hE : Ev w W) => by have := ready_c f Ag Aw Ab Ac Al ng cg nw cw nb cb nc cc nl cl hl0 W (fun h => (hs h).ev hE); rw [hno] at this; exact this)
 clear hs hno
 go_enter Try.func12, Try.ntmps12
 go_wp2_with (first | (go_at_call 37; with_reducible refine (HRD.out _ (Ev.alloc (Ev.refl _) _)).mono ?_; rintro e w1 ⟨rfl, hb1⟩; have hG : Ev w w1 := (Ev.alloc (Ev.refl _) _).trans hb1; have Q0 := hid (hb1.heap (alloc1 w (.cells #[.int .i64 f.last, .slice Ag ng cg, .slice Aw nw cw, .slice Ab nb cb, .slice Ac nc cc, .int .i64 f.ripe, .int .i64 f.late, .int .i64 f.trod, .slice Al nl cl] 26)).1); obtain ⟨y0, y1, y2, y3, y4, y5, y6, y7, y8⟩ := cells9 Q0.out) | (go_at_call 14; with_reducible refine (awake_c _).mono ?_; rintro e w99 ⟨rfl, hb99⟩))
 go_ret
 exact ⟨rfl, hG.trans hb99⟩

set_option maxRecDepth 1000000 in
set_option maxHeartbeats 8000000 in
theorem cropApart_yes (f : M.Cf) (Ag Aw Ab Ac Al : Option Addr) (ng cg nw cw nb cb nc cc nl cl : Nat) (hl0 : -9223372036854775808 ≤ f.last) (a b c d : Int) (a0 : 0 ≤ a) (a1 : a < 65536) (b0 : 0 ≤ b) (b1 : b < 65536) (c0 : 0 ≤ c) (c1 : c < 65536) (d0 : 0 ≤ d) (d1 : d < 256) (w : World) (HCS : Hid (CS w w.heap.size f Ag Aw Ab Ac Al ng cg nw cw nb cb nc cc nl cl)) (hr : M.rdy f ng nw nb nc nl = true) (hsm : M.small ng nw nb nc nl) (h0 : M.check f = 0) :
  Calls Try.prog 12 #[.agg #[.int .i64 f.last, .slice Ag ng cg, .slice Aw nw cw, .slice Ab nb cb, .slice Ac nc cc, .int .i64 f.ripe, .int .i64 f.late, .int .i64 f.trod, .slice Al nl cl], .int .u16 a, .int .u16 b, .int .u16 c, .int .u8 d] w fun e w' => e = .returned (.bool true) ∧ Ev w w' := by
 obtain ⟨s0, s1, s2, s3, s4⟩ := hsm
 have HRD := hid (fun W (hE : Ev w W) => by have := ready_c f Ag Aw Ab Ac Al ng cg nw cw nb cb nc cc nl cl hl0 W (fun _ => HCS.out.ev hE); rw [hr] at this; exact this)
 have hv := (M.check_ok h0).1
 have hl9 := (M.check0 h0).1
 have hb3 := (M.check0 h0).2.1
 obtain ⟨hmn, hm2⟩ := M.many_nat h0
 have hm1 := M.many_pos hv
 generalize M.prodN f.gr f.wet = mn at hmn hm2
 have hgl := HCS.out.g.len
 have hwl := HCS.out.w_.len
 have hbl := HCS.out.b.len
 have hvl := (M.valid_parts hv).2.1
 have hvw := (M.valid_parts hv).2.2.2.1
 have hv0 := (M.valid_parts hv).1
 have hng : (ng : Int) = f.last + 1 := by omega
 have hnw : (nw : Int) = f.last + 1 := by omega
 obtain ⟨an, rfl⟩ : ∃ an : Nat, a = an := ⟨a.toNat, by omega⟩
 obtain ⟨bn, rfl⟩ : ∃ bn : Nat, b = bn := ⟨b.toNat, by omega⟩
 obtain ⟨dn, rfl⟩ : ∃ dn : Nat, d = dn := ⟨d.toNat, by omega⟩
 have HMN := hid (fun W (hE : Ev w W) => by have := Many_c f Ag Aw Ab Ac Al ng cg nw cw nb cb nc cc nl cl (M.weeks_eq hv) (M.gr_le hv) (M.wet_le hv) W (HCS.out.ev hE); rw [hmn] at this; exact this)
 have hq2 : an % mn ≤ 1000000 := by have := Nat.mod_lt an (show 0 < mn by omega); omega
 have hq3 : bn % mn ≤ 1000000 := by have := Nat.mod_lt bn (show 0 < mn by omega); omega
 have HNT := hid (fun W (hE : Ev w W) => Nth_c f Ag Aw Ab Ac Al ng cg nw cw nb cb nc cc nl cl hv hl9 (an % mn) hq2 W (HCS.out.ev hE))
 have HNU := hid (fun W (hE : Ev w W) => Nth_c f Ag Aw Ab Ac Al ng cg nw cw nb cb nc cc nl cl hv hl9 (bn % mn) hq3 W (HCS.out.ev hE))
 have hls := M.nth_listed hv (an % mn)
 have hlu := M.nth_listed hv (bn % mn)
 generalize M.nth f (an % mn) = t at HNT hls
 generalize M.nth f (bn % mn) = u at HNU hlu
 have htl := M.listed_len hv hls
 have hng0 : 0 < ng := by omega
 have hnw0 : 0 < nw := by omega
 have hul := M.listed_len hv hlu
 have HPN := hid (fun W => planned_c f Ag Aw Ab Ac Al ng cg nw cw nb cb nc cc nl cl hv hl9 c c0 c1 W hbl (by omega))
 have m0 : ¬ ((mn : Int) = 0) := by omega
 have m0' : ¬ (mn = 0) := by omega
 have m1 : (an : Int).tmod mn = ((an % mn : Nat) : Int) := by rw [Int.tmod_eq_emod_of_nonneg (by omega)]; exact (Int.natCast_emod an mn).symm
 have m2 : (an : Int) % mn = ((an % mn : Nat) : Int) := (Int.natCast_emod an mn).symm
 have m5 : (bn : Int).tmod mn = ((bn % mn : Nat) : Int) := by rw [Int.tmod_eq_emod_of_nonneg (by omega)]; exact (Int.natCast_emod bn mn).symm
 have m6 : (bn : Int) % mn = ((bn % mn : Nat) : Int) := (Int.natCast_emod bn mn).symm
 generalize an % mn = aq at HNT m1 m2 hq2
 generalize bn % mn = bq at HNU m5 m6 hq3
 have m3 : IntKind.i64.wrap (an : Int) = an := IntWalk.i64_in _ (by omega)
 have m4 : IntKind.i64.wrap (aq : Int) = aq := IntWalk.i64_in _ (by omega)
 have m7 : IntKind.i64.wrap (bn : Int) = bn := IntWalk.i64_in _ (by omega)
 have m8 : IntKind.i64.wrap (bq : Int) = bq := IntWalk.i64_in _ (by omega)
 have m9 : IntKind.i64.wrap (dn : Int) = dn := IntWalk.i64_in _ (by omega)
 clear hr hgl hwl hvl hvw hmn
 go_enter Try.func12, Try.ntmps12
 go_upto_region 4 with (first | (go_at_call 37; with_reducible refine (HRD.out _ (Ev.alloc (Ev.refl _) _)).mono ?_; rintro e w1 ⟨rfl, hb1⟩; have hG : Ev w w1 := (Ev.alloc (Ev.refl _) _).trans hb1; have Q0 := hid (hb1.heap (alloc1 w (.cells #[.int .i64 f.last, .slice Ag ng cg, .slice Aw nw cw, .slice Ab nb cb, .slice Ac nc cc, .int .i64 f.ripe, .int .i64 f.late, .int .i64 f.trod, .slice Al nl cl] 26)).1); obtain ⟨y0, y1, y2, y3, y4, y5, y6, y7, y8⟩ := cells9 Q0.out) | (go_at_call 39; with_reducible refine (HPN.out _).mono ?_; rintro e x3 ⟨⟨plan, hpl, L, dL, rfl, hsl⟩, hb⟩; have HB3 := hid hb; have HSL := hid hsl; clear hb hsl))
 have hX3 := hG.trans HB3.out
 have Q3 := hid (HB3.out.heap Q0.out)
 clear y0 y1 y2 y3 y4 y5 y6 y7 y8
 obtain ⟨y0, y1, y2, y3, y4, y5, y6, y7, y8⟩ := cells9 Q3.out
 have lbx := heap_lt Q3.out
 obtain ⟨hp1, hp2, hp3⟩ := M.plan_parts hpl
 have hpb : plan.length ≤ 3 := by omega
 generalize hpn : plan.length = pn at HSL hpb ⊢
 by_cases hp0 : pn = 0
 ·
  subst hp0
  go_wp2_with (first | (go_at_call 14; with_reducible refine (awake_c _).mono ?_; rintro e w99 ⟨rfl, hb99⟩) | (with_reducible refine ⟨trivial, ?_⟩))
  go_ret
  exact ⟨rfl, hX3.trans hb99⟩
 ·
  have hp0' : ¬ ((pn : Int) = 0) := by omega
  have HPLn := hid hpn
  have k1 : (dn : Int).tmod pn = ((dn % pn : Nat) : Int) := by rw [Int.tmod_eq_emod_of_nonneg (by omega)]; exact (Int.natCast_emod dn pn).symm
  have k2 : (dn : Int) % pn = ((dn % pn : Nat) : Int) := (Int.natCast_emod dn pn).symm
  have k3 : dn % pn < pn := Nat.mod_lt _ (by omega)
  generalize dn % pn = kn at k1 k2 k3
  have k4 : IntKind.i64.wrap (kn : Int) = kn := IntWalk.i64_in _ (by omega)
  obtain ⟨xk, hxk⟩ : ∃ x, plan[kn]? = some x := ⟨plan[kn]'(by omega), List.getElem?_eq_getElem _⟩
  have hxb := hp3 xk (List.mem_of_getElem? hxk)
  obtain ⟨xn, rfl⟩ : ∃ xn : Nat, xk = xn := ⟨xk.toNat, by omega⟩
  clear hpn
  go_upto_region 7 with fail
  have HSE : Hid (∀ w', Ev x3 w' → (∀ o, w'.cell? ⟨w.heap.size, o, none⟩ = x3.cell? ⟨w.heap.size, o, none⟩)) := hid (fun w' h => fun o => h.cells.1 _ o lbx)
  go_cut [13, 14] (fun v v' W => ∃ (q1 q2 gB gD gC gW dg dw eg ew B3 : Nat), v = .pointer (some ⟨q1, 0, none⟩) ∧ v' = .pointer (some ⟨q2, 0, none⟩) ∧ Hid (TwS x3 W q1 q2 gB gD gC gW B3 ng dg nw dw eg ew #[.slice (some ⟨gB, 0, none⟩) ng dg, .slice (some ⟨gD, 0, none⟩) nw dw] #[.slice (some ⟨gC, 0, none⟩) ng eg, .slice (some ⟨gW, 0, none⟩) nw ew] t u))
  case first =>
   refine wp_region_held_drew (S := fun w' => (∀ o, w'.cell? ⟨w.heap.size, o, none⟩ = x3.cell? ⟨w.heap.size, o, none⟩)) (by kernel_rfl) (fun o => rfl) (fun hHeld => ?_)
   refine tkH 0 (some 36) ?_
   (try simp only [Act.put, sA, sB, sC])
   refine tkH 1 (some 37) ?_
   (try simp only [Act.put, sA, sB, sC])
   refine tkH 2 (some 38) ?_
   (try simp only [Act.put, sA, sB, sC])
   refine tkH 3 (some 39) ?_
   (try simp only [Act.put, sA, sB, sC])
   refine tkH 7 (some 43) ?_
   (try simp only [Act.put, sA, sB, sC])
   refine tkH 8 (some 44) ?_
   (try simp only [Act.put, sA, sB, sC])
   refine tkH 9 (some 45) ?_
   (try simp only [Act.put, sA, sB, sC])
   refine tkH 10 (some 46) ?_
   (try simp only [Act.put, sA, sB, sC])
   refine wpAnyH_ready (rs := [4, 14, 15]) (by kernel_rfl) (by simp) ?_
   refine AllReadyH.cons rfl (fun K hK => ?_) (AllReadyH.cons rfl (fun K hK => ?_) (AllReadyH.cons rfl (fun K hK => ?_) (AllReadyH.nil)))
   ·
    go_simp
    refine (HMN.out _ (hX3.trans (Ev.drew (Ev.refl _)))).mono ?_
    rintro e z1 ⟨rfl, hb1⟩
    have hy1 : Ev x3 z1 := Ev.trans (Ev.drew (Ev.refl _)) hb1
    have hz1 := hid (And.intro hb1.size hy1.size)
    refine hK.out _ _ (HSE.out _ hy1) (fun hHeld => ?_)
    clear hK K
    (try simp only [Act.put, sA, sB, sC])
    refine tkH 5 (some 41) ?_
    (try simp only [Act.put, sA, sB, sC])
    refine wpAnyH_ready (rs := [6, 14, 15]) (by kernel_rfl) (by simp) ?_
    refine AllReadyH.cons rfl (fun K hK => ?_) (AllReadyH.cons rfl (fun K hK => ?_) (AllReadyH.cons rfl (fun K hK => ?_) (AllReadyH.nil)))
    ·
     go_simp
     refine (HNT.out _ (hX3.trans hy1)).mono ?_
     rintro e z2 ⟨⟨Bg, dg, Bw, dw, rfl, ho1, ho2, hapT⟩, hb2⟩
     have hy2 : Ev x3 z2 := Ev.trans hy1 hb2
     have hz2 := hid (And.intro hb2.size hy2.size)
     obtain ⟨gB, rfl, _, lB, _⟩ := own_some ho1 hng0
     obtain ⟨gD, rfl, _, lD, _⟩ := own_some ho2 hnw0
     refine hK.out _ _ (HSE.out _ hy2) (fun hHeld => ?_)
     clear hK K
     (try simp only [Act.put, sA, sB, sC])
     refine wpAnyH_ready (rs := [11, 14, 15]) (by kernel_rfl) (by simp) ?_
     refine AllReadyH.cons rfl (fun K hK => ?_) (AllReadyH.cons rfl (fun K hK => ?_) (AllReadyH.cons rfl (fun K hK => ?_) (AllReadyH.nil)))
     ·
      go_simp
      refine (HMN.out _ (hX3.trans hy2)).mono ?_
      rintro e z3 ⟨rfl, hb3⟩
      have hy3 : Ev x3 z3 := Ev.trans hy2 hb3
      have hz3 := hid (And.intro hb3.size hy3.size)
      refine hK.out _ _ (HSE.out _ hy3) (fun hHeld => ?_)
      clear hK K
      (try simp only [Act.put, sA, sB, sC])
      refine tkH 12 (some 48) ?_
      (try simp only [Act.put, sA, sB, sC])
      refine wpAnyH_ready (rs := [13, 14, 15]) (by kernel_rfl) (by simp) ?_
      refine AllReadyH.cons rfl (fun K hK => ?_) (AllReadyH.cons rfl (fun K hK => ?_) (AllReadyH.cons rfl (fun K hK => ?_) (AllReadyH.nil)))
      ·
       go_simp
       refine (HNU.out _ (hX3.trans hy3)).mono ?_
       rintro e z4 ⟨⟨Cg, eg, Cw, ew, rfl, hu1, hu2, hap⟩, hb4⟩
       have hy4 : Ev x3 z4 := Ev.trans hy3 hb4
       have hz4 := hid (And.intro hb4.size hy4.size)
       obtain ⟨gC, rfl, lC, _⟩ := own_some hu1 hng0
       obtain ⟨gW, rfl, lW, _⟩ := own_some hu2 hnw0
       have hCW : gC ≠ gW := fun e => hap gC rfl (by rw [e]; rfl)
       refine hK.out _ _ (HSE.out _ hy4) (fun hHeld => ?_)
       clear hK K
       (try simp only [Act.put, sA, sB, sC])
       refine wpAnyH_ready (rs := [14, 15]) (by kernel_rfl) (by simp) ?_
       refine AllReadyH.cons rfl (fun K hK => ?_) (AllReadyH.cons rfl (fun K hK => ?_) (AllReadyH.nil))
       ·
        go_simp
        generalize hWp1 : World.alloc z4 _ = Wp1
        have hal := alloc1 z4 (.cells #[.slice none 0 0, .slice none 0 0] 28)
        have hbp1 : Ev z4 Wp1 := by rw [← hWp1]; exact Ev.alloc (Ev.refl _) _
        have hqp1 := hal.1
        rw [hWp1] at hqp1
        have hxp1 : Ev x3 Wp1 := hy4.trans hbp1
        have hzp1 := hid (show Wp1.heap.size = z4.heap.size + 1 from by rw [← hWp1]; exact hal.2)
        clear hal hWp1
        refine hK.out _ _ (HSE.out _ hxp1) (fun hHeld => ?_)
        clear hK K
        (try simp only [Act.put, sA, sB, sC])
        refine wpAnyH_one (i := 15) rfl (by kernel_rfl) (by rfl) (fun K hK => ?_)
        go_simp
        generalize hWp2 : World.alloc Wp1 _ = Wp2
        have hal := alloc1 Wp1 (.cells #[.slice none 0 0, .slice none 0 0] 28)
        have hbp2 : Ev Wp1 Wp2 := by rw [← hWp2]; exact Ev.alloc (Ev.refl _) _
        have hqp2 := hal.1
        rw [hWp2] at hqp2
        have hxp2 : Ev x3 Wp2 := hxp1.trans hbp2
        have hzp2 := hid (show Wp2.heap.size = Wp1.heap.size + 1 from by rw [← hWp2]; exact hal.2)
        clear hal hWp2
        refine hK.out _ _ (HSE.out _ hxp2) (fun hHeld => ?_)
        clear hK K
        (try simp only [Act.put, sA, sB, sC])
        refine wpAnyH_one (i := 16) rfl (by kernel_rfl) (by rfl) (fun K hK => ?_)
        have HT := hid (show TwS x3 Wp2 z4.heap.size Wp1.heap.size gB gD gC gW z3.heap.size ng dg nw dw eg ew #[.slice none 0 0, .slice none 0 0] #[.slice none 0 0, .slice none 0 0] t u from ⟨hxp2, by have := hz1.out; have := hz2.out; have := hz3.out; have := hz4.out; have := hzp1.out; have := hzp2.out; omega, by have := hz1.out; have := hz2.out; have := hz3.out; have := hz4.out; have := hzp1.out; have := hzp2.out; omega, by have := hz1.out; have := hz2.out; have := hz3.out; have := hz4.out; have := hzp1.out; have := hzp2.out; omega, (hbp2.heap hqp1), hqp2, own_base ((((ho1.ev hb3).ev hb4).ev hbp1).ev hbp2) (Nat.zero_le _), own_base ((((ho2.ev hb3).ev hb4).ev hbp1).ev hbp2) (Nat.zero_le _), own_base ((hu1.ev hbp1).ev hbp2) (Nat.zero_le _), own_base ((hu2.ev hbp1).ev hbp2) (Nat.zero_le _), by have := hz1.out; have := hz2.out; have := hz3.out; have := hz4.out; have := hzp1.out; have := hzp2.out; omega, by have := hz1.out; have := hz2.out; have := hz3.out; have := hz4.out; have := hzp1.out; have := hzp2.out; omega, lC, lW, hCW, by have := hz1.out; have := hz2.out; have := hz3.out; have := hz4.out; have := hzp1.out; have := hzp2.out; omega⟩)
        obtain ⟨u0, u1⟩ := cells2 HT.out.h1
        obtain ⟨v0, v1⟩ := frz2 HT.out.h1
        go_simp
        generalize hX1 : World.setCell (World.setCell Wp2 _ _) _ _ = X1
        have HT1 := hid (show TwS x3 X1 z4.heap.size Wp1.heap.size gB gD gC gW z3.heap.size ng dg nw dw eg ew #[.slice (some ⟨gB, 0, none⟩) ng dg, .slice (some ⟨gD, 0, none⟩) nw dw] #[.slice none 0 0, .slice none 0 0] t u from by rw [← hX1]; exact HT.out.set1)
        clear hX1 u0 u1 v0 v1 HT
        refine hK.out _ _ (HSE.out _ HT1.out.ev) (fun hHeld => ?_)
        clear hK K
        (try simp only [Act.put, sA, sB, sC])
        refine wpAnyH_one (i := 17) rfl (by kernel_rfl) (by rfl) (fun K hK => ?_)
        obtain ⟨u0, u1⟩ := cells2 HT1.out.h2
        obtain ⟨v0, v1⟩ := frz2 HT1.out.h2
        go_simp
        generalize hX2 : World.setCell (World.setCell X1 _ _) _ _ = X2
        have HT2 := hid (show TwS x3 X2 z4.heap.size Wp1.heap.size gB gD gC gW z3.heap.size ng dg nw dw eg ew #[.slice (some ⟨gB, 0, none⟩) ng dg, .slice (some ⟨gD, 0, none⟩) nw dw] #[.slice (some ⟨gC, 0, none⟩) ng eg, .slice (some ⟨gW, 0, none⟩) nw ew] t u from by rw [← hX2]; exact HT1.out.set2)
        clear hX2 u0 u1 v0 v1 HT1
        refine hK.out _ _ (HSE.out _ HT2.out.ev) (fun hHeld => ?_)
        clear hK K
        (try simp only [Act.put, sA, sB, sC])
        refine wpAnyH_done (by kernel_rfl) ?_ _
        go_wp2_with fail
        go_meet
        exact ⟨z4.heap.size, Wp1.heap.size, gB, gD, gC, gW, dg, dw, eg, ew, z3.heap.size, rfl, rfl, HT2⟩
       ·
        go_simp
        generalize hWp2 : World.alloc z4 _ = Wp2
        have hal := alloc1 z4 (.cells #[.slice none 0 0, .slice none 0 0] 28)
        have hbp2 : Ev z4 Wp2 := by rw [← hWp2]; exact Ev.alloc (Ev.refl _) _
        have hqp2 := hal.1
        rw [hWp2] at hqp2
        have hxp2 : Ev x3 Wp2 := hy4.trans hbp2
        have hzp2 := hid (show Wp2.heap.size = z4.heap.size + 1 from by rw [← hWp2]; exact hal.2)
        clear hal hWp2
        refine hK.out _ _ (HSE.out _ hxp2) (fun hHeld => ?_)
        clear hK K
        (try simp only [Act.put, sA, sB, sC])
        refine wpAnyH_one (i := 14) rfl (by kernel_rfl) (by rfl) (fun K hK => ?_)
        go_simp
        generalize hWp1 : World.alloc Wp2 _ = Wp1
        have hal := alloc1 Wp2 (.cells #[.slice none 0 0, .slice none 0 0] 28)
        have hbp1 : Ev Wp2 Wp1 := by rw [← hWp1]; exact Ev.alloc (Ev.refl _) _
        have hqp1 := hal.1
        rw [hWp1] at hqp1
        have hxp1 : Ev x3 Wp1 := hxp2.trans hbp1
        have hzp1 := hid (show Wp1.heap.size = Wp2.heap.size + 1 from by rw [← hWp1]; exact hal.2)
        clear hal hWp1
        refine hK.out _ _ (HSE.out _ hxp1) (fun hHeld => ?_)
        clear hK K
        (try simp only [Act.put, sA, sB, sC])
        refine wpAnyH_one (i := 16) rfl (by kernel_rfl) (by rfl) (fun K hK => ?_)
        have HT := hid (show TwS x3 Wp1 Wp2.heap.size z4.heap.size gB gD gC gW z3.heap.size ng dg nw dw eg ew #[.slice none 0 0, .slice none 0 0] #[.slice none 0 0, .slice none 0 0] t u from ⟨hxp1, by have := hz1.out; have := hz2.out; have := hz3.out; have := hz4.out; have := hzp2.out; have := hzp1.out; omega, by have := hz1.out; have := hz2.out; have := hz3.out; have := hz4.out; have := hzp2.out; have := hzp1.out; omega, by have := hz1.out; have := hz2.out; have := hz3.out; have := hz4.out; have := hzp2.out; have := hzp1.out; omega, hqp1, (hbp1.heap hqp2), own_base ((((ho1.ev hb3).ev hb4).ev hbp2).ev hbp1) (Nat.zero_le _), own_base ((((ho2.ev hb3).ev hb4).ev hbp2).ev hbp1) (Nat.zero_le _), own_base ((hu1.ev hbp2).ev hbp1) (Nat.zero_le _), own_base ((hu2.ev hbp2).ev hbp1) (Nat.zero_le _), by have := hz1.out; have := hz2.out; have := hz3.out; have := hz4.out; have := hzp2.out; have := hzp1.out; omega, by have := hz1.out; have := hz2.out; have := hz3.out; have := hz4.out; have := hzp2.out; have := hzp1.out; omega, lC, lW, hCW, by have := hz1.out; have := hz2.out; have := hz3.out; have := hz4.out; have := hzp2.out; have := hzp1.out; omega⟩)
        obtain ⟨u0, u1⟩ := cells2 HT.out.h1
        obtain ⟨v0, v1⟩ := frz2 HT.out.h1
        go_simp
        generalize hX1 : World.setCell (World.setCell Wp1 _ _) _ _ = X1
        have HT1 := hid (show TwS x3 X1 Wp2.heap.size z4.heap.size gB gD gC gW z3.heap.size ng dg nw dw eg ew #[.slice (some ⟨gB, 0, none⟩) ng dg, .slice (some ⟨gD, 0, none⟩) nw dw] #[.slice none 0 0, .slice none 0 0] t u from by rw [← hX1]; exact HT.out.set1)
        clear hX1 u0 u1 v0 v1 HT
        refine hK.out _ _ (HSE.out _ HT1.out.ev) (fun hHeld => ?_)
        clear hK K
        (try simp only [Act.put, sA, sB, sC])
        refine wpAnyH_one (i := 17) rfl (by kernel_rfl) (by rfl) (fun K hK => ?_)
        obtain ⟨u0, u1⟩ := cells2 HT1.out.h2
        obtain ⟨v0, v1⟩ := frz2 HT1.out.h2
        go_simp
        generalize hX2 : World.setCell (World.setCell X1 _ _) _ _ = X2
        have HT2 := hid (show TwS x3 X2 Wp2.heap.size z4.heap.size gB gD gC gW z3.heap.size ng dg nw dw eg ew #[.slice (some ⟨gB, 0, none⟩) ng dg, .slice (some ⟨gD, 0, none⟩) nw dw] #[.slice (some ⟨gC, 0, none⟩) ng eg, .slice (some ⟨gW, 0, none⟩) nw ew] t u from by rw [← hX2]; exact HT1.out.set2)
        clear hX2 u0 u1 v0 v1 HT1
        refine hK.out _ _ (HSE.out _ HT2.out.ev) (fun hHeld => ?_)
        clear hK K
        (try simp only [Act.put, sA, sB, sC])
        refine wpAnyH_done (by kernel_rfl) ?_ _
        go_wp2_with fail
        go_meet
        exact ⟨Wp2.heap.size, z4.heap.size, gB, gD, gC, gW, dg, dw, eg, ew, z3.heap.size, rfl, rfl, HT2⟩
      ·
       go_simp
       generalize hWp1 : World.alloc z3 _ = Wp1
       have hal := alloc1 z3 (.cells #[.slice none 0 0, .slice none 0 0] 28)
       have hbp1 : Ev z3 Wp1 := by rw [← hWp1]; exact Ev.alloc (Ev.refl _) _
       have hqp1 := hal.1
       rw [hWp1] at hqp1
       have hxp1 : Ev x3 Wp1 := hy3.trans hbp1
       have hzp1 := hid (show Wp1.heap.size = z3.heap.size + 1 from by rw [← hWp1]; exact hal.2)
       clear hal hWp1
       refine hK.out _ _ (HSE.out _ hxp1) (fun hHeld => ?_)
       clear hK K
       (try simp only [Act.put, sA, sB, sC])
       refine wpAnyH_ready (rs := [13, 15]) (by kernel_rfl) (by simp) ?_
       refine AllReadyH.cons rfl (fun K hK => ?_) (AllReadyH.cons rfl (fun K hK => ?_) (AllReadyH.nil))
       ·
        go_simp
        refine (HNU.out _ (hX3.trans hxp1)).mono ?_
        rintro e z4 ⟨⟨Cg, eg, Cw, ew, rfl, hu1, hu2, hap⟩, hb4⟩
        have hy4 : Ev x3 z4 := Ev.trans hxp1 hb4
        have hz4 := hid (And.intro hb4.size hy4.size)
        obtain ⟨gC, rfl, lC, _⟩ := own_some hu1 hng0
        obtain ⟨gW, rfl, lW, _⟩ := own_some hu2 hnw0
        have hCW : gC ≠ gW := fun e => hap gC rfl (by rw [e]; rfl)
        refine hK.out _ _ (HSE.out _ hy4) (fun hHeld => ?_)
        clear hK K
        (try simp only [Act.put, sA, sB, sC])
        refine wpAnyH_one (i := 15) rfl (by kernel_rfl) (by rfl) (fun K hK => ?_)
        go_simp
        generalize hWp2 : World.alloc z4 _ = Wp2
        have hal := alloc1 z4 (.cells #[.slice none 0 0, .slice none 0 0] 28)
        have hbp2 : Ev z4 Wp2 := by rw [← hWp2]; exact Ev.alloc (Ev.refl _) _
        have hqp2 := hal.1
        rw [hWp2] at hqp2
        have hxp2 : Ev x3 Wp2 := hy4.trans hbp2
        have hzp2 := hid (show Wp2.heap.size = z4.heap.size + 1 from by rw [← hWp2]; exact hal.2)
        clear hal hWp2
        refine hK.out _ _ (HSE.out _ hxp2) (fun hHeld => ?_)
        clear hK K
        (try simp only [Act.put, sA, sB, sC])
        refine wpAnyH_one (i := 16) rfl (by kernel_rfl) (by rfl) (fun K hK => ?_)
        have HT := hid (show TwS x3 Wp2 z3.heap.size z4.heap.size gB gD gC gW Wp1.heap.size ng dg nw dw eg ew #[.slice none 0 0, .slice none 0 0] #[.slice none 0 0, .slice none 0 0] t u from ⟨hxp2, by have := hz1.out; have := hz2.out; have := hz3.out; have := hzp1.out; have := hz4.out; have := hzp2.out; omega, by have := hz1.out; have := hz2.out; have := hz3.out; have := hzp1.out; have := hz4.out; have := hzp2.out; omega, by have := hz1.out; have := hz2.out; have := hz3.out; have := hzp1.out; have := hz4.out; have := hzp2.out; omega, (hbp2.heap (hb4.heap hqp1)), hqp2, own_base ((((ho1.ev hb3).ev hbp1).ev hb4).ev hbp2) (Nat.zero_le _), own_base ((((ho2.ev hb3).ev hbp1).ev hb4).ev hbp2) (Nat.zero_le _), own_base (hu1.ev hbp2) (Nat.zero_le _), own_base (hu2.ev hbp2) (Nat.zero_le _), by have := hz1.out; have := hz2.out; have := hz3.out; have := hzp1.out; have := hz4.out; have := hzp2.out; omega, by have := hz1.out; have := hz2.out; have := hz3.out; have := hzp1.out; have := hz4.out; have := hzp2.out; omega, lC, lW, hCW, by have := hz1.out; have := hz2.out; have := hz3.out; have := hzp1.out; have := hz4.out; have := hzp2.out; omega⟩)
        obtain ⟨u0, u1⟩ := cells2 HT.out.h1
        obtain ⟨v0, v1⟩ := frz2 HT.out.h1
        go_simp
        generalize hX1 : World.setCell (World.setCell Wp2 _ _) _ _ = X1
        have HT1 := hid (show TwS x3 X1 z3.heap.size z4.heap.size gB gD gC gW Wp1.heap.size ng dg nw dw eg ew #[.slice (some ⟨gB, 0, none⟩) ng dg, .slice (some ⟨gD, 0, none⟩) nw dw] #[.slice none 0 0, .slice none 0 0] t u from by rw [← hX1]; exact HT.out.set1)
        clear hX1 u0 u1 v0 v1 HT
        refine hK.out _ _ (HSE.out _ HT1.out.ev) (fun hHeld => ?_)
        clear hK K
        (try simp only [Act.put, sA, sB, sC])
        refine wpAnyH_one (i := 17) rfl (by kernel_rfl) (by rfl) (fun K hK => ?_)
        obtain ⟨u0, u1⟩ := cells2 HT1.out.h2
        obtain ⟨v0, v1⟩ := frz2 HT1.out.h2
        go_simp
        generalize hX2 : World.setCell (World.setCell X1 _ _) _ _ = X2
        have HT2 := hid (show TwS x3 X2 z3.heap.size z4.heap.size gB gD gC gW Wp1.heap.size ng dg nw dw eg ew #[.slice (some ⟨gB, 0, none⟩) ng dg, .slice (some ⟨gD, 0, none⟩) nw dw] #[.slice (some ⟨gC, 0, none⟩) ng eg, .slice (some ⟨gW, 0, none⟩) nw ew] t u from by rw [← hX2]; exact HT1.out.set2)
        clear hX2 u0 u1 v0 v1 HT1
        refine hK.out _ _ (HSE.out _ HT2.out.ev) (fun hHeld => ?_)
        clear hK K
        (try simp only [Act.put, sA, sB, sC])
        refine wpAnyH_done (by kernel_rfl) ?_ _
        go_wp2_with fail
        go_meet
        exact ⟨z3.heap.size, z4.heap.size, gB, gD, gC, gW, dg, dw, eg, ew, Wp1.heap.size, rfl, rfl, HT2⟩
       ·
        go_simp
        generalize hWp2 : World.alloc Wp1 _ = Wp2
        have hal := alloc1 Wp1 (.cells #[.slice none 0 0, .slice none 0 0] 28)
        have hbp2 : Ev Wp1 Wp2 := by rw [← hWp2]; exact Ev.alloc (Ev.refl _) _
        have hqp2 := hal.1
        rw [hWp2] at hqp2
        have hxp2 : Ev x3 Wp2 := hxp1.trans hbp2
        have hzp2 := hid (show Wp2.heap.size = Wp1.heap.size + 1 from by rw [← hWp2]; exact hal.2)
        clear hal hWp2
        refine hK.out _ _ (HSE.out _ hxp2) (fun hHeld => ?_)
        clear hK K
        (try simp only [Act.put, sA, sB, sC])
        refine wpAnyH_one (i := 13) rfl (by kernel_rfl) (by rfl) (fun K hK => ?_)
        go_simp
        refine (HNU.out _ (hX3.trans hxp2)).mono ?_
        rintro e z4 ⟨⟨Cg, eg, Cw, ew, rfl, hu1, hu2, hap⟩, hb4⟩
        have hy4 : Ev x3 z4 := Ev.trans hxp2 hb4
        have hz4 := hid (And.intro hb4.size hy4.size)
        obtain ⟨gC, rfl, lC, _⟩ := own_some hu1 hng0
        obtain ⟨gW, rfl, lW, _⟩ := own_some hu2 hnw0
        have hCW : gC ≠ gW := fun e => hap gC rfl (by rw [e]; rfl)
        refine hK.out _ _ (HSE.out _ hy4) (fun hHeld => ?_)
        clear hK K
        (try simp only [Act.put, sA, sB, sC])
        refine wpAnyH_one (i := 16) rfl (by kernel_rfl) (by rfl) (fun K hK => ?_)
        have HT := hid (show TwS x3 z4 z3.heap.size Wp1.heap.size gB gD gC gW Wp2.heap.size ng dg nw dw eg ew #[.slice none 0 0, .slice none 0 0] #[.slice none 0 0, .slice none 0 0] t u from ⟨hy4, by have := hz1.out; have := hz2.out; have := hz3.out; have := hzp1.out; have := hzp2.out; have := hz4.out; omega, by have := hz1.out; have := hz2.out; have := hz3.out; have := hzp1.out; have := hzp2.out; have := hz4.out; omega, by have := hz1.out; have := hz2.out; have := hz3.out; have := hzp1.out; have := hzp2.out; have := hz4.out; omega, (hb4.heap (hbp2.heap hqp1)), (hb4.heap hqp2), own_base ((((ho1.ev hb3).ev hbp1).ev hbp2).ev hb4) (Nat.zero_le _), own_base ((((ho2.ev hb3).ev hbp1).ev hbp2).ev hb4) (Nat.zero_le _), own_base hu1 (Nat.zero_le _), own_base hu2 (Nat.zero_le _), by have := hz1.out; have := hz2.out; have := hz3.out; have := hzp1.out; have := hzp2.out; have := hz4.out; omega, by have := hz1.out; have := hz2.out; have := hz3.out; have := hzp1.out; have := hzp2.out; have := hz4.out; omega, lC, lW, hCW, by have := hz1.out; have := hz2.out; have := hz3.out; have := hzp1.out; have := hzp2.out; have := hz4.out; omega⟩)
        obtain ⟨u0, u1⟩ := cells2 HT.out.h1
        obtain ⟨v0, v1⟩ := frz2 HT.out.h1
        go_simp
        generalize hX1 : World.setCell (World.setCell z4 _ _) _ _ = X1
        have HT1 := hid (show TwS x3 X1 z3.heap.size Wp1.heap.size gB gD gC gW Wp2.heap.size ng dg nw dw eg ew #[.slice (some ⟨gB, 0, none⟩) ng dg, .slice (some ⟨gD, 0, none⟩) nw dw] #[.slice none 0 0, .slice none 0 0] t u from by rw [← hX1]; exact HT.out.set1)
        clear hX1 u0 u1 v0 v1 HT
        refine hK.out _ _ (HSE.out _ HT1.out.ev) (fun hHeld => ?_)
        clear hK K
        (try simp only [Act.put, sA, sB, sC])
        refine wpAnyH_one (i := 17) rfl (by kernel_rfl) (by rfl) (fun K hK => ?_)
        obtain ⟨u0, u1⟩ := cells2 HT1.out.h2
        obtain ⟨v0, v1⟩ := frz2 HT1.out.h2
        go_simp
        generalize hX2 : World.setCell (World.setCell X1 _ _) _ _ = X2
        have HT2 := hid (show TwS x3 X2 z3.heap.size Wp1.heap.size gB gD gC gW Wp2.heap.size ng dg nw dw eg ew #[.slice (some ⟨gB, 0, none⟩) ng dg, .slice (some ⟨gD, 0, none⟩) nw dw] #[.slice (some ⟨gC, 0, none⟩) ng eg, .slice (some ⟨gW, 0, none⟩) nw ew] t u from by rw [← hX2]; exact HT1.out.set2)
        clear hX2 u0 u1 v0 v1 HT1
        refine hK.out _ _ (HSE.out _ HT2.out.ev) (fun hHeld => ?_)
        clear hK K
        (try simp only [Act.put, sA, sB, sC])
        refine wpAnyH_done (by kernel_rfl) ?_ _
        go_wp2_with fail
        go_meet
        exact ⟨z3.heap.size, Wp1.heap.size, gB, gD, gC, gW, dg, dw, eg, ew, Wp2.heap.size, rfl, rfl, HT2⟩
      ·
       go_simp
       generalize hWp2 : World.alloc z3 _ = Wp2
       have hal := alloc1 z3 (.cells #[.slice none 0 0, .slice none 0 0] 28)
       have hbp2 : Ev z3 Wp2 := by rw [← hWp2]; exact Ev.alloc (Ev.refl _) _
       have hqp2 := hal.1
       rw [hWp2] at hqp2
       have hxp2 : Ev x3 Wp2 := hy3.trans hbp2
       have hzp2 := hid (show Wp2.heap.size = z3.heap.size + 1 from by rw [← hWp2]; exact hal.2)
       clear hal hWp2
       refine hK.out _ _ (HSE.out _ hxp2) (fun hHeld => ?_)
       clear hK K
       (try simp only [Act.put, sA, sB, sC])
       refine wpAnyH_ready (rs := [13, 14]) (by kernel_rfl) (by simp) ?_
       refine AllReadyH.cons rfl (fun K hK => ?_) (AllReadyH.cons rfl (fun K hK => ?_) (AllReadyH.nil))
       ·
        go_simp
        refine (HNU.out _ (hX3.trans hxp2)).mono ?_
        rintro e z4 ⟨⟨Cg, eg, Cw, ew, rfl, hu1, hu2, hap⟩, hb4⟩
        have hy4 : Ev x3 z4 := Ev.trans hxp2 hb4
        have hz4 := hid (And.intro hb4.size hy4.size)
        obtain ⟨gC, rfl, lC, _⟩ := own_some hu1 hng0
        obtain ⟨gW, rfl, lW, _⟩ := own_some hu2 hnw0
        have hCW : gC ≠ gW := fun e => hap gC rfl (by rw [e]; rfl)
        refine hK.out _ _ (HSE.out _ hy4) (fun hHeld => ?_)
        clear hK K
        (try simp only [Act.put, sA, sB, sC])
        refine wpAnyH_one (i := 14) rfl (by kernel_rfl) (by rfl) (fun K hK => ?_)
        go_simp
        generalize hWp1 : World.alloc z4 _ = Wp1
        have hal := alloc1 z4 (.cells #[.slice none 0 0, .slice none 0 0] 28)
        have hbp1 : Ev z4 Wp1 := by rw [← hWp1]; exact Ev.alloc (Ev.refl _) _
        have hqp1 := hal.1
        rw [hWp1] at hqp1
        have hxp1 : Ev x3 Wp1 := hy4.trans hbp1
        have hzp1 := hid (show Wp1.heap.size = z4.heap.size + 1 from by rw [← hWp1]; exact hal.2)
        clear hal hWp1
        refine hK.out _ _ (HSE.out _ hxp1) (fun hHeld => ?_)
        clear hK K
        (try simp only [Act.put, sA, sB, sC])
        refine wpAnyH_one (i := 16) rfl (by kernel_rfl) (by rfl) (fun K hK => ?_)
        have HT := hid (show TwS x3 Wp1 z4.heap.size z3.heap.size gB gD gC gW Wp2.heap.size ng dg nw dw eg ew #[.slice none 0 0, .slice none 0 0] #[.slice none 0 0, .slice none 0 0] t u from ⟨hxp1, by have := hz1.out; have := hz2.out; have := hz3.out; have := hzp2.out; have := hz4.out; have := hzp1.out; omega, by have := hz1.out; have := hz2.out; have := hz3.out; have := hzp2.out; have := hz4.out; have := hzp1.out; omega, by have := hz1.out; have := hz2.out; have := hz3.out; have := hzp2.out; have := hz4.out; have := hzp1.out; omega, hqp1, (hbp1.heap (hb4.heap hqp2)), own_base ((((ho1.ev hb3).ev hbp2).ev hb4).ev hbp1) (Nat.zero_le _), own_base ((((ho2.ev hb3).ev hbp2).ev hb4).ev hbp1) (Nat.zero_le _), own_base (hu1.ev hbp1) (Nat.zero_le _), own_base (hu2.ev hbp1) (Nat.zero_le _), by have := hz1.out; have := hz2.out; have := hz3.out; have := hzp2.out; have := hz4.out; have := hzp1.out; omega, by have := hz1.out; have := hz2.out; have := hz3.out; have := hzp2.out; have := hz4.out; have := hzp1.out; omega, lC, lW, hCW, by have := hz1.out; have := hz2.out; have := hz3.out; have := hzp2.out; have := hz4.out; have := hzp1.out; omega⟩)
        obtain ⟨u0, u1⟩ := cells2 HT.out.h1
        obtain ⟨v0, v1⟩ := frz2 HT.out.h1
        go_simp
        generalize hX1 : World.setCell (World.setCell Wp1 _ _) _ _ = X1
        have HT1 := hid (show TwS x3 X1 z4.heap.size z3.heap.size gB gD gC gW Wp2.heap.size ng dg nw dw eg ew #[.slice (some ⟨gB, 0, none⟩) ng dg, .slice (some ⟨gD, 0, none⟩) nw dw] #[.slice none 0 0, .slice none 0 0] t u from by rw [← hX1]; exact HT.out.set1)
        clear hX1 u0 u1 v0 v1 HT
        refine hK.out _ _ (HSE.out _ HT1.out.ev) (fun hHeld => ?_)
        clear hK K
        (try simp only [Act.put, sA, sB, sC])
        refine wpAnyH_one (i := 17) rfl (by kernel_rfl) (by rfl) (fun K hK => ?_)
        obtain ⟨u0, u1⟩ := cells2 HT1.out.h2
        obtain ⟨v0, v1⟩ := frz2 HT1.out.h2
        go_simp
        generalize hX2 : World.setCell (World.setCell X1 _ _) _ _ = X2
        have HT2 := hid (show TwS x3 X2 z4.heap.size z3.heap.size gB gD gC gW Wp2.heap.size ng dg nw dw eg ew #[.slice (some ⟨gB, 0, none⟩) ng dg, .slice (some ⟨gD, 0, none⟩) nw dw] #[.slice (some ⟨gC, 0, none⟩) ng eg, .slice (some ⟨gW, 0, none⟩) nw ew] t u from by rw [← hX2]; exact HT1.out.set2)
        clear hX2 u0 u1 v0 v1 HT1
        refine hK.out _ _ (HSE.out _ HT2.out.ev) (fun hHeld => ?_)
        clear hK K
        (try simp only [Act.put, sA, sB, sC])
        refine wpAnyH_done (by kernel_rfl) ?_ _
        go_wp2_with fail
        go_meet
        exact ⟨z4.heap.size, z3.heap.size, gB, gD, gC, gW, dg, dw, eg, ew, Wp2.heap.size, rfl, rfl, HT2⟩
       ·
        go_simp
        generalize hWp1 : World.alloc Wp2 _ = Wp1
        have hal := alloc1 Wp2 (.cells #[.slice none 0 0, .slice none 0 0] 28)
        have hbp1 : Ev Wp2 Wp1 := by rw [← hWp1]; exact Ev.alloc (Ev.refl _) _
        have hqp1 := hal.1
        rw [hWp1] at hqp1
        have hxp1 : Ev x3 Wp1 := hxp2.trans hbp1
        have hzp1 := hid (show Wp1.heap.size = Wp2.heap.size + 1 from by rw [← hWp1]; exact hal.2)
        clear hal hWp1
        refine hK.out _ _ (HSE.out _ hxp1) (fun hHeld => ?_)
        clear hK K
        (try simp only [Act.put, sA, sB, sC])
        refine wpAnyH_one (i := 13) rfl (by kernel_rfl) (by rfl) (fun K hK => ?_)
        go_simp
        refine (HNU.out _ (hX3.trans hxp1)).mono ?_
        rintro e z4 ⟨⟨Cg, eg, Cw, ew, rfl, hu1, hu2, hap⟩, hb4⟩
        have hy4 : Ev x3 z4 := Ev.trans hxp1 hb4
        have hz4 := hid (And.intro hb4.size hy4.size)
        obtain ⟨gC, rfl, lC, _⟩ := own_some hu1 hng0
        obtain ⟨gW, rfl, lW, _⟩ := own_some hu2 hnw0
        have hCW : gC ≠ gW := fun e => hap gC rfl (by rw [e]; rfl)
        refine hK.out _ _ (HSE.out _ hy4) (fun hHeld => ?_)
        clear hK K
        (try simp only [Act.put, sA, sB, sC])
        refine wpAnyH_one (i := 16) rfl (by kernel_rfl) (by rfl) (fun K hK => ?_)
        have HT := hid (show TwS x3 z4 Wp2.heap.size z3.heap.size gB gD gC gW Wp1.heap.size ng dg nw dw eg ew #[.slice none 0 0, .slice none 0 0] #[.slice none 0 0, .slice none 0 0] t u from ⟨hy4, by have := hz1.out; have := hz2.out; have := hz3.out; have := hzp2.out; have := hzp1.out; have := hz4.out; omega, by have := hz1.out; have := hz2.out; have := hz3.out; have := hzp2.out; have := hzp1.out; have := hz4.out; omega, by have := hz1.out; have := hz2.out; have := hz3.out; have := hzp2.out; have := hzp1.out; have := hz4.out; omega, (hb4.heap hqp1), (hb4.heap (hbp1.heap hqp2)), own_base ((((ho1.ev hb3).ev hbp2).ev hbp1).ev hb4) (Nat.zero_le _), own_base ((((ho2.ev hb3).ev hbp2).ev hbp1).ev hb4) (Nat.zero_le _), own_base hu1 (Nat.zero_le _), own_base hu2 (Nat.zero_le _), by have := hz1.out; have := hz2.out; have := hz3.out; have := hzp2.out; have := hzp1.out; have := hz4.out; omega, by have := hz1.out; have := hz2.out; have := hz3.out; have := hzp2.out; have := hzp1.out; have := hz4.out; omega, lC, lW, hCW, by have := hz1.out; have := hz2.out; have := hz3.out; have := hzp2.out; have := hzp1.out; have := hz4.out; omega⟩)
        obtain ⟨u0, u1⟩ := cells2 HT.out.h1
        obtain ⟨v0, v1⟩ := frz2 HT.out.h1
        go_simp
        generalize hX1 : World.setCell (World.setCell z4 _ _) _ _ = X1
        have HT1 := hid (show TwS x3 X1 Wp2.heap.size z3.heap.size gB gD gC gW Wp1.heap.size ng dg nw dw eg ew #[.slice (some ⟨gB, 0, none⟩) ng dg, .slice (some ⟨gD, 0, none⟩) nw dw] #[.slice none 0 0, .slice none 0 0] t u from by rw [← hX1]; exact HT.out.set1)
        clear hX1 u0 u1 v0 v1 HT
        refine hK.out _ _ (HSE.out _ HT1.out.ev) (fun hHeld => ?_)
        clear hK K
        (try simp only [Act.put, sA, sB, sC])
        refine wpAnyH_one (i := 17) rfl (by kernel_rfl) (by rfl) (fun K hK => ?_)
        obtain ⟨u0, u1⟩ := cells2 HT1.out.h2
        obtain ⟨v0, v1⟩ := frz2 HT1.out.h2
        go_simp
        generalize hX2 : World.setCell (World.setCell X1 _ _) _ _ = X2
        have HT2 := hid (show TwS x3 X2 Wp2.heap.size z3.heap.size gB gD gC gW Wp1.heap.size ng dg nw dw eg ew #[.slice (some ⟨gB, 0, none⟩) ng dg, .slice (some ⟨gD, 0, none⟩) nw dw] #[.slice (some ⟨gC, 0, none⟩) ng eg, .slice (some ⟨gW, 0, none⟩) nw ew] t u from by rw [← hX2]; exact HT1.out.set2)
        clear hX2 u0 u1 v0 v1 HT1
        refine hK.out _ _ (HSE.out _ HT2.out.ev) (fun hHeld => ?_)
        clear hK K
        (try simp only [Act.put, sA, sB, sC])
        refine wpAnyH_done (by kernel_rfl) ?_ _
        go_wp2_with fail
        go_meet
        exact ⟨Wp2.heap.size, z3.heap.size, gB, gD, gC, gW, dg, dw, eg, ew, Wp1.heap.size, rfl, rfl, HT2⟩
     ·
      go_simp
      generalize hWp1 : World.alloc z2 _ = Wp1
      have hal := alloc1 z2 (.cells #[.slice none 0 0, .slice none 0 0] 28)
      have hbp1 : Ev z2 Wp1 := by rw [← hWp1]; exact Ev.alloc (Ev.refl _) _
      have hqp1 := hal.1
      rw [hWp1] at hqp1
      have hxp1 : Ev x3 Wp1 := hy2.trans hbp1
      have hzp1 := hid (show Wp1.heap.size = z2.heap.size + 1 from by rw [← hWp1]; exact hal.2)
      clear hal hWp1
      refine hK.out _ _ (HSE.out _ hxp1) (fun hHeld => ?_)
      clear hK K
      (try simp only [Act.put, sA, sB, sC])
      refine wpAnyH_ready (rs := [11, 15]) (by kernel_rfl) (by simp) ?_
      refine AllReadyH.cons rfl (fun K hK => ?_) (AllReadyH.cons rfl (fun K hK => ?_) (AllReadyH.nil))
      ·
       go_simp
       refine (HMN.out _ (hX3.trans hxp1)).mono ?_
       rintro e z3 ⟨rfl, hb3⟩
       have hy3 : Ev x3 z3 := Ev.trans hxp1 hb3
       have hz3 := hid (And.intro hb3.size hy3.size)
       refine hK.out _ _ (HSE.out _ hy3) (fun hHeld => ?_)
       clear hK K
       (try simp only [Act.put, sA, sB, sC])
       refine tkH 12 (some 48) ?_
       (try simp only [Act.put, sA, sB, sC])
       refine wpAnyH_ready (rs := [13, 15]) (by kernel_rfl) (by simp) ?_
       refine AllReadyH.cons rfl (fun K hK => ?_) (AllReadyH.cons rfl (fun K hK => ?_) (AllReadyH.nil))
       ·
        go_simp
        refine (HNU.out _ (hX3.trans hy3)).mono ?_
        rintro e z4 ⟨⟨Cg, eg, Cw, ew, rfl, hu1, hu2, hap⟩, hb4⟩
        have hy4 : Ev x3 z4 := Ev.trans hy3 hb4
        have hz4 := hid (And.intro hb4.size hy4.size)
        obtain ⟨gC, rfl, lC, _⟩ := own_some hu1 hng0
        obtain ⟨gW, rfl, lW, _⟩ := own_some hu2 hnw0
        have hCW : gC ≠ gW := fun e => hap gC rfl (by rw [e]; rfl)
        refine hK.out _ _ (HSE.out _ hy4) (fun hHeld => ?_)
        clear hK K
        (try simp only [Act.put, sA, sB, sC])
        refine wpAnyH_one (i := 15) rfl (by kernel_rfl) (by rfl) (fun K hK => ?_)
        go_simp
        generalize hWp2 : World.alloc z4 _ = Wp2
        have hal := alloc1 z4 (.cells #[.slice none 0 0, .slice none 0 0] 28)
        have hbp2 : Ev z4 Wp2 := by rw [← hWp2]; exact Ev.alloc (Ev.refl _) _
        have hqp2 := hal.1
        rw [hWp2] at hqp2
        have hxp2 : Ev x3 Wp2 := hy4.trans hbp2
        have hzp2 := hid (show Wp2.heap.size = z4.heap.size + 1 from by rw [← hWp2]; exact hal.2)
        clear hal hWp2
        refine hK.out _ _ (HSE.out _ hxp2) (fun hHeld => ?_)
        clear hK K
        (try simp only [Act.put, sA, sB, sC])
        refine wpAnyH_one (i := 16) rfl (by kernel_rfl) (by rfl) (fun K hK => ?_)
        have HT := hid (show TwS x3 Wp2 z2.heap.size z4.heap.size gB gD gC gW z3.heap.size ng dg nw dw eg ew #[.slice none 0 0, .slice none 0 0] #[.slice none 0 0, .slice none 0 0] t u from ⟨hxp2, by have := hz1.out; have := hz2.out; have := hzp1.out; have := hz3.out; have := hz4.out; have := hzp2.out; omega, by have := hz1.out; have := hz2.out; have := hzp1.out; have := hz3.out; have := hz4.out; have := hzp2.out; omega, by have := hz1.out; have := hz2.out; have := hzp1.out; have := hz3.out; have := hz4.out; have := hzp2.out; omega, (hbp2.heap (hb4.heap (hb3.heap hqp1))), hqp2, own_base ((((ho1.ev hbp1).ev hb3).ev hb4).ev hbp2) (Nat.zero_le _), own_base ((((ho2.ev hbp1).ev hb3).ev hb4).ev hbp2) (Nat.zero_le _), own_base (hu1.ev hbp2) (Nat.zero_le _), own_base (hu2.ev hbp2) (Nat.zero_le _), by have := hz1.out; have := hz2.out; have := hzp1.out; have := hz3.out; have := hz4.out; have := hzp2.out; omega, by have := hz1.out; have := hz2.out; have := hzp1.out; have := hz3.out; have := hz4.out; have := hzp2.out; omega, lC, lW, hCW, by have := hz1.out; have := hz2.out; have := hzp1.out; have := hz3.out; have := hz4.out; have := hzp2.out; omega⟩)
        obtain ⟨u0, u1⟩ := cells2 HT.out.h1
        obtain ⟨v0, v1⟩ := frz2 HT.out.h1
        go_simp
        generalize hX1 : World.setCell (World.setCell Wp2 _ _) _ _ = X1
        have HT1 := hid (show TwS x3 X1 z2.heap.size z4.heap.size gB gD gC gW z3.heap.size ng dg nw dw eg ew #[.slice (some ⟨gB, 0, none⟩) ng dg, .slice (some ⟨gD, 0, none⟩) nw dw] #[.slice none 0 0, .slice none 0 0] t u from by rw [← hX1]; exact HT.out.set1)
        clear hX1 u0 u1 v0 v1 HT
        refine hK.out _ _ (HSE.out _ HT1.out.ev) (fun hHeld => ?_)
        clear hK K
        (try simp only [Act.put, sA, sB, sC])
        refine wpAnyH_one (i := 17) rfl (by kernel_rfl) (by rfl) (fun K hK => ?_)
        obtain ⟨u0, u1⟩ := cells2 HT1.out.h2
        obtain ⟨v0, v1⟩ := frz2 HT1.out.h2
        go_simp
        generalize hX2 : World.setCell (World.setCell X1 _ _) _ _ = X2
        have HT2 := hid (show TwS x3 X2 z2.heap.size z4.heap.size gB gD gC gW z3.heap.size ng dg nw dw eg ew #[.slice (some ⟨gB, 0, none⟩) ng dg, .slice (some ⟨gD, 0, none⟩) nw dw] #[.slice (some ⟨gC, 0, none⟩) ng eg, .slice (some ⟨gW, 0, none⟩) nw ew] t u from by rw [← hX2]; exact HT1.out.set2)
        clear hX2 u0 u1 v0 v1 HT1
        refine hK.out _ _ (HSE.out _ HT2.out.ev) (fun hHeld => ?_)
        clear hK K
        (try simp only [Act.put, sA, sB, sC])
        refine wpAnyH_done (by kernel_rfl) ?_ _
        go_wp2_with fail
        go_meet
        exact ⟨z2.heap.size, z4.heap.size, gB, gD, gC, gW, dg, dw, eg, ew, z3.heap.size, rfl, rfl, HT2⟩
       ·
        go_simp
        generalize hWp2 : World.alloc z3 _ = Wp2
        have hal := alloc1 z3 (.cells #[.slice none 0 0, .slice none 0 0] 28)
        have hbp2 : Ev z3 Wp2 := by rw [← hWp2]; exact Ev.alloc (Ev.refl _) _
        have hqp2 := hal.1
        rw [hWp2] at hqp2
        have hxp2 : Ev x3 Wp2 := hy3.trans hbp2
        have hzp2 := hid (show Wp2.heap.size = z3.heap.size + 1 from by rw [← hWp2]; exact hal.2)
        clear hal hWp2
        refine hK.out _ _ (HSE.out _ hxp2) (fun hHeld => ?_)
        clear hK K
        (try simp only [Act.put, sA, sB, sC])
        refine wpAnyH_one (i := 13) rfl (by kernel_rfl) (by rfl) (fun K hK => ?_)
        go_simp
        refine (HNU.out _ (hX3.trans hxp2)).mono ?_
        rintro e z4 ⟨⟨Cg, eg, Cw, ew, rfl, hu1, hu2, hap⟩, hb4⟩
        have hy4 : Ev x3 z4 := Ev.trans hxp2 hb4
        have hz4 := hid (And.intro hb4.size hy4.size)
        obtain ⟨gC, rfl, lC, _⟩ := own_some hu1 hng0
        obtain ⟨gW, rfl, lW, _⟩ := own_some hu2 hnw0
        have hCW : gC ≠ gW := fun e => hap gC rfl (by rw [e]; rfl)
        refine hK.out _ _ (HSE.out _ hy4) (fun hHeld => ?_)
        clear hK K
        (try simp only [Act.put, sA, sB, sC])
        refine wpAnyH_one (i := 16) rfl (by kernel_rfl) (by rfl) (fun K hK => ?_)
        have HT := hid (show TwS x3 z4 z2.heap.size z3.heap.size gB gD gC gW Wp2.heap.size ng dg nw dw eg ew #[.slice none 0 0, .slice none 0 0] #[.slice none 0 0, .slice none 0 0] t u from ⟨hy4, by have := hz1.out; have := hz2.out; have := hzp1.out; have := hz3.out; have := hzp2.out; have := hz4.out; omega, by have := hz1.out; have := hz2.out; have := hzp1.out; have := hz3.out; have := hzp2.out; have := hz4.out; omega, by have := hz1.out; have := hz2.out; have := hzp1.out; have := hz3.out; have := hzp2.out; have := hz4.out; omega, (hb4.heap (hbp2.heap (hb3.heap hqp1))), (hb4.heap hqp2), own_base ((((ho1.ev hbp1).ev hb3).ev hbp2).ev hb4) (Nat.zero_le _), own_base ((((ho2.ev hbp1).ev hb3).ev hbp2).ev hb4) (Nat.zero_le _), own_base hu1 (Nat.zero_le _), own_base hu2 (Nat.zero_le _), by have := hz1.out; have := hz2.out; have := hzp1.out; have := hz3.out; have := hzp2.out; have := hz4.out; omega, by have := hz1.out; have := hz2.out; have := hzp1.out; have := hz3.out; have := hzp2.out; have := hz4.out; omega, lC, lW, hCW, by have := hz1.out; have := hz2.out; have := hzp1.out; have := hz3.out; have := hzp2.out; have := hz4.out; omega⟩)
        obtain ⟨u0, u1⟩ := cells2 HT.out.h1
        obtain ⟨v0, v1⟩ := frz2 HT.out.h1
        go_simp
        generalize hX1 : World.setCell (World.setCell z4 _ _) _ _ = X1
        have HT1 := hid (show TwS x3 X1 z2.heap.size z3.heap.size gB gD gC gW Wp2.heap.size ng dg nw dw eg ew #[.slice (some ⟨gB, 0, none⟩) ng dg, .slice (some ⟨gD, 0, none⟩) nw dw] #[.slice none 0 0, .slice none 0 0] t u from by rw [← hX1]; exact HT.out.set1)
        clear hX1 u0 u1 v0 v1 HT
        refine hK.out _ _ (HSE.out _ HT1.out.ev) (fun hHeld => ?_)
        clear hK K
        (try simp only [Act.put, sA, sB, sC])
        refine wpAnyH_one (i := 17) rfl (by kernel_rfl) (by rfl) (fun K hK => ?_)
        obtain ⟨u0, u1⟩ := cells2 HT1.out.h2
        obtain ⟨v0, v1⟩ := frz2 HT1.out.h2
        go_simp
        generalize hX2 : World.setCell (World.setCell X1 _ _) _ _ = X2
        have HT2 := hid (show TwS x3 X2 z2.heap.size z3.heap.size gB gD gC gW Wp2.heap.size ng dg nw dw eg ew #[.slice (some ⟨gB, 0, none⟩) ng dg, .slice (some ⟨gD, 0, none⟩) nw dw] #[.slice (some ⟨gC, 0, none⟩) ng eg, .slice (some ⟨gW, 0, none⟩) nw ew] t u from by rw [← hX2]; exact HT1.out.set2)
        clear hX2 u0 u1 v0 v1 HT1
        refine hK.out _ _ (HSE.out _ HT2.out.ev) (fun hHeld => ?_)
        clear hK K
        (try simp only [Act.put, sA, sB, sC])
        refine wpAnyH_done (by kernel_rfl) ?_ _
        go_wp2_with fail
        go_meet
        exact ⟨z2.heap.size, z3.heap.size, gB, gD, gC, gW, dg, dw, eg, ew, Wp2.heap.size, rfl, rfl, HT2⟩
      ·
       go_simp
       generalize hWp2 : World.alloc Wp1 _ = Wp2
       have hal := alloc1 Wp1 (.cells #[.slice none 0 0, .slice none 0 0] 28)
       have hbp2 : Ev Wp1 Wp2 := by rw [← hWp2]; exact Ev.alloc (Ev.refl _) _
       have hqp2 := hal.1
       rw [hWp2] at hqp2
       have hxp2 : Ev x3 Wp2 := hxp1.trans hbp2
       have hzp2 := hid (show Wp2.heap.size = Wp1.heap.size + 1 from by rw [← hWp2]; exact hal.2)
       clear hal hWp2
       refine hK.out _ _ (HSE.out _ hxp2) (fun hHeld => ?_)
       clear hK K
       (try simp only [Act.put, sA, sB, sC])
       refine wpAnyH_one (i := 11) rfl (by kernel_rfl) (by rfl) (fun K hK => ?_)
       go_simp
       refine (HMN.out _ (hX3.trans hxp2)).mono ?_
       rintro e z3 ⟨rfl, hb3⟩
       have hy3 : Ev x3 z3 := Ev.trans hxp2 hb3
       have hz3 := hid (And.intro hb3.size hy3.size)
       refine hK.out _ _ (HSE.out _ hy3) (fun hHeld => ?_)
       clear hK K
       (try simp only [Act.put, sA, sB, sC])
       refine tkH 12 (some 48) ?_
       (try simp only [Act.put, sA, sB, sC])
       refine wpAnyH_one (i := 13) rfl (by kernel_rfl) (by rfl) (fun K hK => ?_)
       go_simp
       refine (HNU.out _ (hX3.trans hy3)).mono ?_
       rintro e z4 ⟨⟨Cg, eg, Cw, ew, rfl, hu1, hu2, hap⟩, hb4⟩
       have hy4 : Ev x3 z4 := Ev.trans hy3 hb4
       have hz4 := hid (And.intro hb4.size hy4.size)
       obtain ⟨gC, rfl, lC, _⟩ := own_some hu1 hng0
       obtain ⟨gW, rfl, lW, _⟩ := own_some hu2 hnw0
       have hCW : gC ≠ gW := fun e => hap gC rfl (by rw [e]; rfl)
       refine hK.out _ _ (HSE.out _ hy4) (fun hHeld => ?_)
       clear hK K
       (try simp only [Act.put, sA, sB, sC])
       refine wpAnyH_one (i := 16) rfl (by kernel_rfl) (by rfl) (fun K hK => ?_)
       have HT := hid (show TwS x3 z4 z2.heap.size Wp1.heap.size gB gD gC gW z3.heap.size ng dg nw dw eg ew #[.slice none 0 0, .slice none 0 0] #[.slice none 0 0, .slice none 0 0] t u from ⟨hy4, by have := hz1.out; have := hz2.out; have := hzp1.out; have := hzp2.out; have := hz3.out; have := hz4.out; omega, by have := hz1.out; have := hz2.out; have := hzp1.out; have := hzp2.out; have := hz3.out; have := hz4.out; omega, by have := hz1.out; have := hz2.out; have := hzp1.out; have := hzp2.out; have := hz3.out; have := hz4.out; omega, (hb4.heap (hb3.heap (hbp2.heap hqp1))), (hb4.heap (hb3.heap hqp2)), own_base ((((ho1.ev hbp1).ev hbp2).ev hb3).ev hb4) (Nat.zero_le _), own_base ((((ho2.ev hbp1).ev hbp2).ev hb3).ev hb4) (Nat.zero_le _), own_base hu1 (Nat.zero_le _), own_base hu2 (Nat.zero_le _), by have := hz1.out; have := hz2.out; have := hzp1.out; have := hzp2.out; have := hz3.out; have := hz4.out; omega, by have := hz1.out; have := hz2.out; have := hzp1.out; have := hzp2.out; have := hz3.out; have := hz4.out; omega, lC, lW, hCW, by have := hz1.out; have := hz2.out; have := hzp1.out; have := hzp2.out; have := hz3.out; have := hz4.out; omega⟩)
       obtain ⟨u0, u1⟩ := cells2 HT.out.h1
       obtain ⟨v0, v1⟩ := frz2 HT.out.h1
       go_simp
       generalize hX1 : World.setCell (World.setCell z4 _ _) _ _ = X1
       have HT1 := hid (show TwS x3 X1 z2.heap.size Wp1.heap.size gB gD gC gW z3.heap.size ng dg nw dw eg ew #[.slice (some ⟨gB, 0, none⟩) ng dg, .slice (some ⟨gD, 0, none⟩) nw dw] #[.slice none 0 0, .slice none 0 0] t u from by rw [← hX1]; exact HT.out.set1)
       clear hX1 u0 u1 v0 v1 HT
       refine hK.out _ _ (HSE.out _ HT1.out.ev) (fun hHeld => ?_)
       clear hK K
       (try simp only [Act.put, sA, sB, sC])
       refine wpAnyH_one (i := 17) rfl (by kernel_rfl) (by rfl) (fun K hK => ?_)
       obtain ⟨u0, u1⟩ := cells2 HT1.out.h2
       obtain ⟨v0, v1⟩ := frz2 HT1.out.h2
       go_simp
       generalize hX2 : World.setCell (World.setCell X1 _ _) _ _ = X2
       have HT2 := hid (show TwS x3 X2 z2.heap.size Wp1.heap.size gB gD gC gW z3.heap.size ng dg nw dw eg ew #[.slice (some ⟨gB, 0, none⟩) ng dg, .slice (some ⟨gD, 0, none⟩) nw dw] #[.slice (some ⟨gC, 0, none⟩) ng eg, .slice (some ⟨gW, 0, none⟩) nw ew] t u from by rw [← hX2]; exact HT1.out.set2)
       clear hX2 u0 u1 v0 v1 HT1
       refine hK.out _ _ (HSE.out _ HT2.out.ev) (fun hHeld => ?_)
       clear hK K
       (try simp only [Act.put, sA, sB, sC])
       refine wpAnyH_done (by kernel_rfl) ?_ _
       go_wp2_with fail
       go_meet
       exact ⟨z2.heap.size, Wp1.heap.size, gB, gD, gC, gW, dg, dw, eg, ew, z3.heap.size, rfl, rfl, HT2⟩
     ·
      go_simp
      generalize hWp2 : World.alloc z2 _ = Wp2
      have hal := alloc1 z2 (.cells #[.slice none 0 0, .slice none 0 0] 28)
      have hbp2 : Ev z2 Wp2 := by rw [← hWp2]; exact Ev.alloc (Ev.refl _) _
      have hqp2 := hal.1
      rw [hWp2] at hqp2
      have hxp2 : Ev x3 Wp2 := hy2.trans hbp2
      have hzp2 := hid (show Wp2.heap.size = z2.heap.size + 1 from by rw [← hWp2]; exact hal.2)
      clear hal hWp2
      refine hK.out _ _ (HSE.out _ hxp2) (fun hHeld => ?_)
      clear hK K
      (try simp only [Act.put, sA, sB, sC])
      refine wpAnyH_ready (rs := [11, 14]) (by kernel_rfl) (by simp) ?_
      refine AllReadyH.cons rfl (fun K hK => ?_) (AllReadyH.cons rfl (fun K hK => ?_) (AllReadyH.nil))
      ·
       go_simp
       refine (HMN.out _ (hX3.trans hxp2)).mono ?_
       rintro e z3 ⟨rfl, hb3⟩
       have hy3 : Ev x3 z3 := Ev.trans hxp2 hb3
       have hz3 := hid (And.intro hb3.size hy3.size)
       refine hK.out _ _ (HSE.out _ hy3) (fun hHeld => ?_)
       clear hK K
       (try simp only [Act.put, sA, sB, sC])
       refine tkH 12 (some 48) ?_
       (try simp only [Act.put, sA, sB, sC])
       refine wpAnyH_ready (rs := [13, 14]) (by kernel_rfl) (by simp) ?_
       refine AllReadyH.cons rfl (fun K hK => ?_) (AllReadyH.cons rfl (fun K hK => ?_) (AllReadyH.nil))
       ·
        go_simp
        refine (HNU.out _ (hX3.trans hy3)).mono ?_
        rintro e z4 ⟨⟨Cg, eg, Cw, ew, rfl, hu1, hu2, hap⟩, hb4⟩
        have hy4 : Ev x3 z4 := Ev.trans hy3 hb4
        have hz4 := hid (And.intro hb4.size hy4.size)
        obtain ⟨gC, rfl, lC, _⟩ := own_some hu1 hng0
        obtain ⟨gW, rfl, lW, _⟩ := own_some hu2 hnw0
        have hCW : gC ≠ gW := fun e => hap gC rfl (by rw [e]; rfl)
        refine hK.out _ _ (HSE.out _ hy4) (fun hHeld => ?_)
        clear hK K
        (try simp only [Act.put, sA, sB, sC])
        refine wpAnyH_one (i := 14) rfl (by kernel_rfl) (by rfl) (fun K hK => ?_)
        go_simp
        generalize hWp1 : World.alloc z4 _ = Wp1
        have hal := alloc1 z4 (.cells #[.slice none 0 0, .slice none 0 0] 28)
        have hbp1 : Ev z4 Wp1 := by rw [← hWp1]; exact Ev.alloc (Ev.refl _) _
        have hqp1 := hal.1
        rw [hWp1] at hqp1
        have hxp1 : Ev x3 Wp1 := hy4.trans hbp1
        have hzp1 := hid (show Wp1.heap.size = z4.heap.size + 1 from by rw [← hWp1]; exact hal.2)
        clear hal hWp1
        refine hK.out _ _ (HSE.out _ hxp1) (fun hHeld => ?_)
        clear hK K
        (try simp only [Act.put, sA, sB, sC])
        refine wpAnyH_one (i := 16) rfl (by kernel_rfl) (by rfl) (fun K hK => ?_)
        have HT := hid (show TwS x3 Wp1 z4.heap.size z2.heap.size gB gD gC gW z3.heap.size ng dg nw dw eg ew #[.slice none 0 0, .slice none 0 0] #[.slice none 0 0, .slice none 0 0] t u from ⟨hxp1, by have := hz1.out; have := hz2.out; have := hzp2.out; have := hz3.out; have := hz4.out; have := hzp1.out; omega, by have := hz1.out; have := hz2.out; have := hzp2.out; have := hz3.out; have := hz4.out; have := hzp1.out; omega, by have := hz1.out; have := hz2.out; have := hzp2.out; have := hz3.out; have := hz4.out; have := hzp1.out; omega, hqp1, (hbp1.heap (hb4.heap (hb3.heap hqp2))), own_base ((((ho1.ev hbp2).ev hb3).ev hb4).ev hbp1) (Nat.zero_le _), own_base ((((ho2.ev hbp2).ev hb3).ev hb4).ev hbp1) (Nat.zero_le _), own_base (hu1.ev hbp1) (Nat.zero_le _), own_base (hu2.ev hbp1) (Nat.zero_le _), by have := hz1.out; have := hz2.out; have := hzp2.out; have := hz3.out; have := hz4.out; have := hzp1.out; omega, by have := hz1.out; have := hz2.out; have := hzp2.out; have := hz3.out; have := hz4.out; have := hzp1.out; omega, lC, lW, hCW, by have := hz1.out; have := hz2.out; have := hzp2.out; have := hz3.out; have := hz4.out; have := hzp1.out; omega⟩)
        obtain ⟨u0, u1⟩ := cells2 HT.out.h1
        obtain ⟨v0, v1⟩ := frz2 HT.out.h1
        go_simp
        generalize hX1 : World.setCell (World.setCell Wp1 _ _) _ _ = X1
        have HT1 := hid (show TwS x3 X1 z4.heap.size z2.heap.size gB gD gC gW z3.heap.size ng dg nw dw eg ew #[.slice (some ⟨gB, 0, none⟩) ng dg, .slice (some ⟨gD, 0, none⟩) nw dw] #[.slice none 0 0, .slice none 0 0] t u from by rw [← hX1]; exact HT.out.set1)
        clear hX1 u0 u1 v0 v1 HT
        refine hK.out _ _ (HSE.out _ HT1.out.ev) (fun hHeld => ?_)
        clear hK K
        (try simp only [Act.put, sA, sB, sC])
        refine wpAnyH_one (i := 17) rfl (by kernel_rfl) (by rfl) (fun K hK => ?_)
        obtain ⟨u0, u1⟩ := cells2 HT1.out.h2
        obtain ⟨v0, v1⟩ := frz2 HT1.out.h2
        go_simp
        generalize hX2 : World.setCell (World.setCell X1 _ _) _ _ = X2
        have HT2 := hid (show TwS x3 X2 z4.heap.size z2.heap.size gB gD gC gW z3.heap.size ng dg nw dw eg ew #[.slice (some ⟨gB, 0, none⟩) ng dg, .slice (some ⟨gD, 0, none⟩) nw dw] #[.slice (some ⟨gC, 0, none⟩) ng eg, .slice (some ⟨gW, 0, none⟩) nw ew] t u from by rw [← hX2]; exact HT1.out.set2)
        clear hX2 u0 u1 v0 v1 HT1
        refine hK.out _ _ (HSE.out _ HT2.out.ev) (fun hHeld => ?_)
        clear hK K
        (try simp only [Act.put, sA, sB, sC])
        refine wpAnyH_done (by kernel_rfl) ?_ _
        go_wp2_with fail
        go_meet
        exact ⟨z4.heap.size, z2.heap.size, gB, gD, gC, gW, dg, dw, eg, ew, z3.heap.size, rfl, rfl, HT2⟩
       ·
        go_simp
        generalize hWp1 : World.alloc z3 _ = Wp1
        have hal := alloc1 z3 (.cells #[.slice none 0 0, .slice none 0 0] 28)
        have hbp1 : Ev z3 Wp1 := by rw [← hWp1]; exact Ev.alloc (Ev.refl _) _
        have hqp1 := hal.1
        rw [hWp1] at hqp1
        have hxp1 : Ev x3 Wp1 := hy3.trans hbp1
        have hzp1 := hid (show Wp1.heap.size = z3.heap.size + 1 from by rw [← hWp1]; exact hal.2)
        clear hal hWp1
        refine hK.out _ _ (HSE.out _ hxp1) (fun hHeld => ?_)
        clear hK K
        (try simp only [Act.put, sA, sB, sC])
        refine wpAnyH_one (i := 13) rfl (by kernel_rfl) (by rfl) (fun K hK => ?_)
        go_simp
        refine (HNU.out _ (hX3.trans hxp1)).mono ?_
        rintro e z4 ⟨⟨Cg, eg, Cw, ew, rfl, hu1, hu2, hap⟩, hb4⟩
        have hy4 : Ev x3 z4 := Ev.trans hxp1 hb4
        have hz4 := hid (And.intro hb4.size hy4.size)
        obtain ⟨gC, rfl, lC, _⟩ := own_some hu1 hng0
        obtain ⟨gW, rfl, lW, _⟩ := own_some hu2 hnw0
        have hCW : gC ≠ gW := fun e => hap gC rfl (by rw [e]; rfl)
        refine hK.out _ _ (HSE.out _ hy4) (fun hHeld => ?_)
        clear hK K
        (try simp only [Act.put, sA, sB, sC])
        refine wpAnyH_one (i := 16) rfl (by kernel_rfl) (by rfl) (fun K hK => ?_)
        have HT := hid (show TwS x3 z4 z3.heap.size z2.heap.size gB gD gC gW Wp1.heap.size ng dg nw dw eg ew #[.slice none 0 0, .slice none 0 0] #[.slice none 0 0, .slice none 0 0] t u from ⟨hy4, by have := hz1.out; have := hz2.out; have := hzp2.out; have := hz3.out; have := hzp1.out; have := hz4.out; omega, by have := hz1.out; have := hz2.out; have := hzp2.out; have := hz3.out; have := hzp1.out; have := hz4.out; omega, by have := hz1.out; have := hz2.out; have := hzp2.out; have := hz3.out; have := hzp1.out; have := hz4.out; omega, (hb4.heap hqp1), (hb4.heap (hbp1.heap (hb3.heap hqp2))), own_base ((((ho1.ev hbp2).ev hb3).ev hbp1).ev hb4) (Nat.zero_le _), own_base ((((ho2.ev hbp2).ev hb3).ev hbp1).ev hb4) (Nat.zero_le _), own_base hu1 (Nat.zero_le _), own_base hu2 (Nat.zero_le _), by have := hz1.out; have := hz2.out; have := hzp2.out; have := hz3.out; have := hzp1.out; have := hz4.out; omega, by have := hz1.out; have := hz2.out; have := hzp2.out; have := hz3.out; have := hzp1.out; have := hz4.out; omega, lC, lW, hCW, by have := hz1.out; have := hz2.out; have := hzp2.out; have := hz3.out; have := hzp1.out; have := hz4.out; omega⟩)
        obtain ⟨u0, u1⟩ := cells2 HT.out.h1
        obtain ⟨v0, v1⟩ := frz2 HT.out.h1
        go_simp
        generalize hX1 : World.setCell (World.setCell z4 _ _) _ _ = X1
        have HT1 := hid (show TwS x3 X1 z3.heap.size z2.heap.size gB gD gC gW Wp1.heap.size ng dg nw dw eg ew #[.slice (some ⟨gB, 0, none⟩) ng dg, .slice (some ⟨gD, 0, none⟩) nw dw] #[.slice none 0 0, .slice none 0 0] t u from by rw [← hX1]; exact HT.out.set1)
        clear hX1 u0 u1 v0 v1 HT
        refine hK.out _ _ (HSE.out _ HT1.out.ev) (fun hHeld => ?_)
        clear hK K
        (try simp only [Act.put, sA, sB, sC])
        refine wpAnyH_one (i := 17) rfl (by kernel_rfl) (by rfl) (fun K hK => ?_)
        obtain ⟨u0, u1⟩ := cells2 HT1.out.h2
        obtain ⟨v0, v1⟩ := frz2 HT1.out.h2
        go_simp
        generalize hX2 : World.setCell (World.setCell X1 _ _) _ _ = X2
        have HT2 := hid (show TwS x3 X2 z3.heap.size z2.heap.size gB gD gC gW Wp1.heap.size ng dg nw dw eg ew #[.slice (some ⟨gB, 0, none⟩) ng dg, .slice (some ⟨gD, 0, none⟩) nw dw] #[.slice (some ⟨gC, 0, none⟩) ng eg, .slice (some ⟨gW, 0, none⟩) nw ew] t u from by rw [← hX2]; exact HT1.out.set2)
        clear hX2 u0 u1 v0 v1 HT1
        refine hK.out _ _ (HSE.out _ HT2.out.ev) (fun hHeld => ?_)
        clear hK K
        (try simp only [Act.put, sA, sB, sC])
        refine wpAnyH_done (by kernel_rfl) ?_ _
        go_wp2_with fail
        go_meet
        exact ⟨z3.heap.size, z2.heap.size, gB, gD, gC, gW, dg, dw, eg, ew, Wp1.heap.size, rfl, rfl, HT2⟩
      ·
       go_simp
       generalize hWp1 : World.alloc Wp2 _ = Wp1
       have hal := alloc1 Wp2 (.cells #[.slice none 0 0, .slice none 0 0] 28)
       have hbp1 : Ev Wp2 Wp1 := by rw [← hWp1]; exact Ev.alloc (Ev.refl _) _
       have hqp1 := hal.1
       rw [hWp1] at hqp1
       have hxp1 : Ev x3 Wp1 := hxp2.trans hbp1
       have hzp1 := hid (show Wp1.heap.size = Wp2.heap.size + 1 from by rw [← hWp1]; exact hal.2)
       clear hal hWp1
       refine hK.out _ _ (HSE.out _ hxp1) (fun hHeld => ?_)
       clear hK K
       (try simp only [Act.put, sA, sB, sC])
       refine wpAnyH_one (i := 11) rfl (by kernel_rfl) (by rfl) (fun K hK => ?_)
       go_simp
       refine (HMN.out _ (hX3.trans hxp1)).mono ?_
       rintro e z3 ⟨rfl, hb3⟩
       have hy3 : Ev x3 z3 := Ev.trans hxp1 hb3
       have hz3 := hid (And.intro hb3.size hy3.size)
       refine hK.out _ _ (HSE.out _ hy3) (fun hHeld => ?_)
       clear hK K
       (try simp only [Act.put, sA, sB, sC])
       refine tkH 12 (some 48) ?_
       (try simp only [Act.put, sA, sB, sC])
       refine wpAnyH_one (i := 13) rfl (by kernel_rfl) (by rfl) (fun K hK => ?_)
       go_simp
       refine (HNU.out _ (hX3.trans hy3)).mono ?_
       rintro e z4 ⟨⟨Cg, eg, Cw, ew, rfl, hu1, hu2, hap⟩, hb4⟩
       have hy4 : Ev x3 z4 := Ev.trans hy3 hb4
       have hz4 := hid (And.intro hb4.size hy4.size)
       obtain ⟨gC, rfl, lC, _⟩ := own_some hu1 hng0
       obtain ⟨gW, rfl, lW, _⟩ := own_some hu2 hnw0
       have hCW : gC ≠ gW := fun e => hap gC rfl (by rw [e]; rfl)
       refine hK.out _ _ (HSE.out _ hy4) (fun hHeld => ?_)
       clear hK K
       (try simp only [Act.put, sA, sB, sC])
       refine wpAnyH_one (i := 16) rfl (by kernel_rfl) (by rfl) (fun K hK => ?_)
       have HT := hid (show TwS x3 z4 Wp2.heap.size z2.heap.size gB gD gC gW z3.heap.size ng dg nw dw eg ew #[.slice none 0 0, .slice none 0 0] #[.slice none 0 0, .slice none 0 0] t u from ⟨hy4, by have := hz1.out; have := hz2.out; have := hzp2.out; have := hzp1.out; have := hz3.out; have := hz4.out; omega, by have := hz1.out; have := hz2.out; have := hzp2.out; have := hzp1.out; have := hz3.out; have := hz4.out; omega, by have := hz1.out; have := hz2.out; have := hzp2.out; have := hzp1.out; have := hz3.out; have := hz4.out; omega, (hb4.heap (hb3.heap hqp1)), (hb4.heap (hb3.heap (hbp1.heap hqp2))), own_base ((((ho1.ev hbp2).ev hbp1).ev hb3).ev hb4) (Nat.zero_le _), own_base ((((ho2.ev hbp2).ev hbp1).ev hb3).ev hb4) (Nat.zero_le _), own_base hu1 (Nat.zero_le _), own_base hu2 (Nat.zero_le _), by have := hz1.out; have := hz2.out; have := hzp2.out; have := hzp1.out; have := hz3.out; have := hz4.out; omega, by have := hz1.out; have := hz2.out; have := hzp2.out; have := hzp1.out; have := hz3.out; have := hz4.out; omega, lC, lW, hCW, by have := hz1.out; have := hz2.out; have := hzp2.out; have := hzp1.out; have := hz3.out; have := hz4.out; omega⟩)
       obtain ⟨u0, u1⟩ := cells2 HT.out.h1
       obtain ⟨v0, v1⟩ := frz2 HT.out.h1
       go_simp
       generalize hX1 : World.setCell (World.setCell z4 _ _) _ _ = X1
       have HT1 := hid (show TwS x3 X1 Wp2.heap.size z2.heap.size gB gD gC gW z3.heap.size ng dg nw dw eg ew #[.slice (some ⟨gB, 0, none⟩) ng dg, .slice (some ⟨gD, 0, none⟩) nw dw] #[.slice none 0 0, .slice none 0 0] t u from by rw [← hX1]; exact HT.out.set1)
       clear hX1 u0 u1 v0 v1 HT
       refine hK.out _ _ (HSE.out _ HT1.out.ev) (fun hHeld => ?_)
       clear hK K
       (try simp only [Act.put, sA, sB, sC])
       refine wpAnyH_one (i := 17) rfl (by kernel_rfl) (by rfl) (fun K hK => ?_)
       obtain ⟨u0, u1⟩ := cells2 HT1.out.h2
       obtain ⟨v0, v1⟩ := frz2 HT1.out.h2
       go_simp
       generalize hX2 : World.setCell (World.setCell X1 _ _) _ _ = X2
       have HT2 := hid (show TwS x3 X2 Wp2.heap.size z2.heap.size gB gD gC gW z3.heap.size ng dg nw dw eg ew #[.slice (some ⟨gB, 0, none⟩) ng dg, .slice (some ⟨gD, 0, none⟩) nw dw] #[.slice (some ⟨gC, 0, none⟩) ng eg, .slice (some ⟨gW, 0, none⟩) nw ew] t u from by rw [← hX2]; exact HT1.out.set2)
       clear hX2 u0 u1 v0 v1 HT1
       refine hK.out _ _ (HSE.out _ HT2.out.ev) (fun hHeld => ?_)
       clear hK K
       (try simp only [Act.put, sA, sB, sC])
       refine wpAnyH_done (by kernel_rfl) ?_ _
       go_wp2_with fail
       go_meet
       exact ⟨Wp2.heap.size, z2.heap.size, gB, gD, gC, gW, dg, dw, eg, ew, z3.heap.size, rfl, rfl, HT2⟩
    ·
     go_simp
     generalize hWp1 : World.alloc z1 _ = Wp1
     have hal := alloc1 z1 (.cells #[.slice none 0 0, .slice none 0 0] 28)
     have hbp1 : Ev z1 Wp1 := by rw [← hWp1]; exact Ev.alloc (Ev.refl _) _
     have hqp1 := hal.1
     rw [hWp1] at hqp1
     have hxp1 : Ev x3 Wp1 := hy1.trans hbp1
     have hzp1 := hid (show Wp1.heap.size = z1.heap.size + 1 from by rw [← hWp1]; exact hal.2)
     clear hal hWp1
     refine hK.out _ _ (HSE.out _ hxp1) (fun hHeld => ?_)
     clear hK K
     (try simp only [Act.put, sA, sB, sC])
     refine wpAnyH_ready (rs := [6, 15]) (by kernel_rfl) (by simp) ?_
     refine AllReadyH.cons rfl (fun K hK => ?_) (AllReadyH.cons rfl (fun K hK => ?_) (AllReadyH.nil))
     ·
      go_simp
      refine (HNT.out _ (hX3.trans hxp1)).mono ?_
      rintro e z2 ⟨⟨Bg, dg, Bw, dw, rfl, ho1, ho2, hapT⟩, hb2⟩
      have hy2 : Ev x3 z2 := Ev.trans hxp1 hb2
      have hz2 := hid (And.intro hb2.size hy2.size)
      obtain ⟨gB, rfl, _, lB, _⟩ := own_some ho1 hng0
      obtain ⟨gD, rfl, _, lD, _⟩ := own_some ho2 hnw0
      refine hK.out _ _ (HSE.out _ hy2) (fun hHeld => ?_)
      clear hK K
      (try simp only [Act.put, sA, sB, sC])
      refine wpAnyH_ready (rs := [11, 15]) (by kernel_rfl) (by simp) ?_
      refine AllReadyH.cons rfl (fun K hK => ?_) (AllReadyH.cons rfl (fun K hK => ?_) (AllReadyH.nil))
      ·
       go_simp
       refine (HMN.out _ (hX3.trans hy2)).mono ?_
       rintro e z3 ⟨rfl, hb3⟩
       have hy3 : Ev x3 z3 := Ev.trans hy2 hb3
       have hz3 := hid (And.intro hb3.size hy3.size)
       refine hK.out _ _ (HSE.out _ hy3) (fun hHeld => ?_)
       clear hK K
       (try simp only [Act.put, sA, sB, sC])
       refine tkH 12 (some 48) ?_
       (try simp only [Act.put, sA, sB, sC])
       refine wpAnyH_ready (rs := [13, 15]) (by kernel_rfl) (by simp) ?_
       refine AllReadyH.cons rfl (fun K hK => ?_) (AllReadyH.cons rfl (fun K hK => ?_) (AllReadyH.nil))
       ·
        go_simp
        refine (HNU.out _ (hX3.trans hy3)).mono ?_
        rintro e z4 ⟨⟨Cg, eg, Cw, ew, rfl, hu1, hu2, hap⟩, hb4⟩
        have hy4 : Ev x3 z4 := Ev.trans hy3 hb4
        have hz4 := hid (And.intro hb4.size hy4.size)
        obtain ⟨gC, rfl, lC, _⟩ := own_some hu1 hng0
        obtain ⟨gW, rfl, lW, _⟩ := own_some hu2 hnw0
        have hCW : gC ≠ gW := fun e => hap gC rfl (by rw [e]; rfl)
        refine hK.out _ _ (HSE.out _ hy4) (fun hHeld => ?_)
        clear hK K
        (try simp only [Act.put, sA, sB, sC])
        refine wpAnyH_one (i := 15) rfl (by kernel_rfl) (by rfl) (fun K hK => ?_)
        go_simp
        generalize hWp2 : World.alloc z4 _ = Wp2
        have hal := alloc1 z4 (.cells #[.slice none 0 0, .slice none 0 0] 28)
        have hbp2 : Ev z4 Wp2 := by rw [← hWp2]; exact Ev.alloc (Ev.refl _) _
        have hqp2 := hal.1
        rw [hWp2] at hqp2
        have hxp2 : Ev x3 Wp2 := hy4.trans hbp2
        have hzp2 := hid (show Wp2.heap.size = z4.heap.size + 1 from by rw [← hWp2]; exact hal.2)
        clear hal hWp2
        refine hK.out _ _ (HSE.out _ hxp2) (fun hHeld => ?_)
        clear hK K
        (try simp only [Act.put, sA, sB, sC])
        refine wpAnyH_one (i := 16) rfl (by kernel_rfl) (by rfl) (fun K hK => ?_)
        have HT := hid (show TwS x3 Wp2 z1.heap.size z4.heap.size gB gD gC gW z3.heap.size ng dg nw dw eg ew #[.slice none 0 0, .slice none 0 0] #[.slice none 0 0, .slice none 0 0] t u from ⟨hxp2, by have := hz1.out; have := hzp1.out; have := hz2.out; have := hz3.out; have := hz4.out; have := hzp2.out; omega, by have := hz1.out; have := hzp1.out; have := hz2.out; have := hz3.out; have := hz4.out; have := hzp2.out; omega, by have := hz1.out; have := hzp1.out; have := hz2.out; have := hz3.out; have := hz4.out; have := hzp2.out; omega, (hbp2.heap (hb4.heap (hb3.heap (hb2.heap hqp1)))), hqp2, own_base (((ho1.ev hb3).ev hb4).ev hbp2) (Nat.zero_le _), own_base (((ho2.ev hb3).ev hb4).ev hbp2) (Nat.zero_le _), own_base (hu1.ev hbp2) (Nat.zero_le _), own_base (hu2.ev hbp2) (Nat.zero_le _), by have := hz1.out; have := hzp1.out; have := hz2.out; have := hz3.out; have := hz4.out; have := hzp2.out; omega, by have := hz1.out; have := hzp1.out; have := hz2.out; have := hz3.out; have := hz4.out; have := hzp2.out; omega, lC, lW, hCW, by have := hz1.out; have := hzp1.out; have := hz2.out; have := hz3.out; have := hz4.out; have := hzp2.out; omega⟩)
        obtain ⟨u0, u1⟩ := cells2 HT.out.h1
        obtain ⟨v0, v1⟩ := frz2 HT.out.h1
        go_simp
        generalize hX1 : World.setCell (World.setCell Wp2 _ _) _ _ = X1
        have HT1 := hid (show TwS x3 X1 z1.heap.size z4.heap.size gB gD gC gW z3.heap.size ng dg nw dw eg ew #[.slice (some ⟨gB, 0, none⟩) ng dg, .slice (some ⟨gD, 0, none⟩) nw dw] #[.slice none 0 0, .slice none 0 0] t u from by rw [← hX1]; exact HT.out.set1)
        clear hX1 u0 u1 v0 v1 HT
        refine hK.out _ _ (HSE.out _ HT1.out.ev) (fun hHeld => ?_)
        clear hK K
        (try simp only [Act.put, sA, sB, sC])
        refine wpAnyH_one (i := 17) rfl (by kernel_rfl) (by rfl) (fun K hK => ?_)
        obtain ⟨u0, u1⟩ := cells2 HT1.out.h2
        obtain ⟨v0, v1⟩ := frz2 HT1.out.h2
        go_simp
        generalize hX2 : World.setCell (World.setCell X1 _ _) _ _ = X2
        have HT2 := hid (show TwS x3 X2 z1.heap.size z4.heap.size gB gD gC gW z3.heap.size ng dg nw dw eg ew #[.slice (some ⟨gB, 0, none⟩) ng dg, .slice (some ⟨gD, 0, none⟩) nw dw] #[.slice (some ⟨gC, 0, none⟩) ng eg, .slice (some ⟨gW, 0, none⟩) nw ew] t u from by rw [← hX2]; exact HT1.out.set2)
        clear hX2 u0 u1 v0 v1 HT1
        refine hK.out _ _ (HSE.out _ HT2.out.ev) (fun hHeld => ?_)
        clear hK K
        (try simp only [Act.put, sA, sB, sC])
        refine wpAnyH_done (by kernel_rfl) ?_ _
        go_wp2_with fail
        go_meet
        exact ⟨z1.heap.size, z4.heap.size, gB, gD, gC, gW, dg, dw, eg, ew, z3.heap.size, rfl, rfl, HT2⟩
       ·
        go_simp
        generalize hWp2 : World.alloc z3 _ = Wp2
        have hal := alloc1 z3 (.cells #[.slice none 0 0, .slice none 0 0] 28)
        have hbp2 : Ev z3 Wp2 := by rw [← hWp2]; exact Ev.alloc (Ev.refl _) _
        have hqp2 := hal.1
        rw [hWp2] at hqp2
        have hxp2 : Ev x3 Wp2 := hy3.trans hbp2
        have hzp2 := hid (show Wp2.heap.size = z3.heap.size + 1 from by rw [← hWp2]; exact hal.2)
        clear hal hWp2
        refine hK.out _ _ (HSE.out _ hxp2) (fun hHeld => ?_)
        clear hK K
        (try simp only [Act.put, sA, sB, sC])
        refine wpAnyH_one (i := 13) rfl (by kernel_rfl) (by rfl) (fun K hK => ?_)
        go_simp
        refine (HNU.out _ (hX3.trans hxp2)).mono ?_
        rintro e z4 ⟨⟨Cg, eg, Cw, ew, rfl, hu1, hu2, hap⟩, hb4⟩
        have hy4 : Ev x3 z4 := Ev.trans hxp2 hb4
        have hz4 := hid (And.intro hb4.size hy4.size)
        obtain ⟨gC, rfl, lC, _⟩ := own_some hu1 hng0
        obtain ⟨gW, rfl, lW, _⟩ := own_some hu2 hnw0
        have hCW : gC ≠ gW := fun e => hap gC rfl (by rw [e]; rfl)
        refine hK.out _ _ (HSE.out _ hy4) (fun hHeld => ?_)
        clear hK K
        (try simp only [Act.put, sA, sB, sC])
        refine wpAnyH_one (i := 16) rfl (by kernel_rfl) (by rfl) (fun K hK => ?_)
        have HT := hid (show TwS x3 z4 z1.heap.size z3.heap.size gB gD gC gW Wp2.heap.size ng dg nw dw eg ew #[.slice none 0 0, .slice none 0 0] #[.slice none 0 0, .slice none 0 0] t u from ⟨hy4, by have := hz1.out; have := hzp1.out; have := hz2.out; have := hz3.out; have := hzp2.out; have := hz4.out; omega, by have := hz1.out; have := hzp1.out; have := hz2.out; have := hz3.out; have := hzp2.out; have := hz4.out; omega, by have := hz1.out; have := hzp1.out; have := hz2.out; have := hz3.out; have := hzp2.out; have := hz4.out; omega, (hb4.heap (hbp2.heap (hb3.heap (hb2.heap hqp1)))), (hb4.heap hqp2), own_base (((ho1.ev hb3).ev hbp2).ev hb4) (Nat.zero_le _), own_base (((ho2.ev hb3).ev hbp2).ev hb4) (Nat.zero_le _), own_base hu1 (Nat.zero_le _), own_base hu2 (Nat.zero_le _), by have := hz1.out; have := hzp1.out; have := hz2.out; have := hz3.out; have := hzp2.out; have := hz4.out; omega, by have := hz1.out; have := hzp1.out; have := hz2.out; have := hz3.out; have := hzp2.out; have := hz4.out; omega, lC, lW, hCW, by have := hz1.out; have := hzp1.out; have := hz2.out; have := hz3.out; have := hzp2.out; have := hz4.out; omega⟩)
        obtain ⟨u0, u1⟩ := cells2 HT.out.h1
        obtain ⟨v0, v1⟩ := frz2 HT.out.h1
        go_simp
        generalize hX1 : World.setCell (World.setCell z4 _ _) _ _ = X1
        have HT1 := hid (show TwS x3 X1 z1.heap.size z3.heap.size gB gD gC gW Wp2.heap.size ng dg nw dw eg ew #[.slice (some ⟨gB, 0, none⟩) ng dg, .slice (some ⟨gD, 0, none⟩) nw dw] #[.slice none 0 0, .slice none 0 0] t u from by rw [← hX1]; exact HT.out.set1)
        clear hX1 u0 u1 v0 v1 HT
        refine hK.out _ _ (HSE.out _ HT1.out.ev) (fun hHeld => ?_)
        clear hK K
        (try simp only [Act.put, sA, sB, sC])
        refine wpAnyH_one (i := 17) rfl (by kernel_rfl) (by rfl) (fun K hK => ?_)
        obtain ⟨u0, u1⟩ := cells2 HT1.out.h2
        obtain ⟨v0, v1⟩ := frz2 HT1.out.h2
        go_simp
        generalize hX2 : World.setCell (World.setCell X1 _ _) _ _ = X2
        have HT2 := hid (show TwS x3 X2 z1.heap.size z3.heap.size gB gD gC gW Wp2.heap.size ng dg nw dw eg ew #[.slice (some ⟨gB, 0, none⟩) ng dg, .slice (some ⟨gD, 0, none⟩) nw dw] #[.slice (some ⟨gC, 0, none⟩) ng eg, .slice (some ⟨gW, 0, none⟩) nw ew] t u from by rw [← hX2]; exact HT1.out.set2)
        clear hX2 u0 u1 v0 v1 HT1
        refine hK.out _ _ (HSE.out _ HT2.out.ev) (fun hHeld => ?_)
        clear hK K
        (try simp only [Act.put, sA, sB, sC])
        refine wpAnyH_done (by kernel_rfl) ?_ _
        go_wp2_with fail
        go_meet
        exact ⟨z1.heap.size, z3.heap.size, gB, gD, gC, gW, dg, dw, eg, ew, Wp2.heap.size, rfl, rfl, HT2⟩
      ·
       go_simp
       generalize hWp2 : World.alloc z2 _ = Wp2
       have hal := alloc1 z2 (.cells #[.slice none 0 0, .slice none 0 0] 28)
       have hbp2 : Ev z2 Wp2 := by rw [← hWp2]; exact Ev.alloc (Ev.refl _) _
       have hqp2 := hal.1
       rw [hWp2] at hqp2
       have hxp2 : Ev x3 Wp2 := hy2.trans hbp2
       have hzp2 := hid (show Wp2.heap.size = z2.heap.size + 1 from by rw [← hWp2]; exact hal.2)
       clear hal hWp2
       refine hK.out _ _ (HSE.out _ hxp2) (fun hHeld => ?_)
       clear hK K
       (try simp only [Act.put, sA, sB, sC])
       refine wpAnyH_one (i := 11) rfl (by kernel_rfl) (by rfl) (fun K hK => ?_)
       go_simp
       refine (HMN.out _ (hX3.trans hxp2)).mono ?_
       rintro e z3 ⟨rfl, hb3⟩
       have hy3 : Ev x3 z3 := Ev.trans hxp2 hb3
       have hz3 := hid (And.intro hb3.size hy3.size)
       refine hK.out _ _ (HSE.out _ hy3) (fun hHeld => ?_)
       clear hK K
       (try simp only [Act.put, sA, sB, sC])
       refine tkH 12 (some 48) ?_
       (try simp only [Act.put, sA, sB, sC])
       refine wpAnyH_one (i := 13) rfl (by kernel_rfl) (by rfl) (fun K hK => ?_)
       go_simp
       refine (HNU.out _ (hX3.trans hy3)).mono ?_
       rintro e z4 ⟨⟨Cg, eg, Cw, ew, rfl, hu1, hu2, hap⟩, hb4⟩
       have hy4 : Ev x3 z4 := Ev.trans hy3 hb4
       have hz4 := hid (And.intro hb4.size hy4.size)
       obtain ⟨gC, rfl, lC, _⟩ := own_some hu1 hng0
       obtain ⟨gW, rfl, lW, _⟩ := own_some hu2 hnw0
       have hCW : gC ≠ gW := fun e => hap gC rfl (by rw [e]; rfl)
       refine hK.out _ _ (HSE.out _ hy4) (fun hHeld => ?_)
       clear hK K
       (try simp only [Act.put, sA, sB, sC])
       refine wpAnyH_one (i := 16) rfl (by kernel_rfl) (by rfl) (fun K hK => ?_)
       have HT := hid (show TwS x3 z4 z1.heap.size z2.heap.size gB gD gC gW z3.heap.size ng dg nw dw eg ew #[.slice none 0 0, .slice none 0 0] #[.slice none 0 0, .slice none 0 0] t u from ⟨hy4, by have := hz1.out; have := hzp1.out; have := hz2.out; have := hzp2.out; have := hz3.out; have := hz4.out; omega, by have := hz1.out; have := hzp1.out; have := hz2.out; have := hzp2.out; have := hz3.out; have := hz4.out; omega, by have := hz1.out; have := hzp1.out; have := hz2.out; have := hzp2.out; have := hz3.out; have := hz4.out; omega, (hb4.heap (hb3.heap (hbp2.heap (hb2.heap hqp1)))), (hb4.heap (hb3.heap hqp2)), own_base (((ho1.ev hbp2).ev hb3).ev hb4) (Nat.zero_le _), own_base (((ho2.ev hbp2).ev hb3).ev hb4) (Nat.zero_le _), own_base hu1 (Nat.zero_le _), own_base hu2 (Nat.zero_le _), by have := hz1.out; have := hzp1.out; have := hz2.out; have := hzp2.out; have := hz3.out; have := hz4.out; omega, by have := hz1.out; have := hzp1.out; have := hz2.out; have := hzp2.out; have := hz3.out; have := hz4.out; omega, lC, lW, hCW, by have := hz1.out; have := hzp1.out; have := hz2.out; have := hzp2.out; have := hz3.out; have := hz4.out; omega⟩)
       obtain ⟨u0, u1⟩ := cells2 HT.out.h1
       obtain ⟨v0, v1⟩ := frz2 HT.out.h1
       go_simp
       generalize hX1 : World.setCell (World.setCell z4 _ _) _ _ = X1
       have HT1 := hid (show TwS x3 X1 z1.heap.size z2.heap.size gB gD gC gW z3.heap.size ng dg nw dw eg ew #[.slice (some ⟨gB, 0, none⟩) ng dg, .slice (some ⟨gD, 0, none⟩) nw dw] #[.slice none 0 0, .slice none 0 0] t u from by rw [← hX1]; exact HT.out.set1)
       clear hX1 u0 u1 v0 v1 HT
       refine hK.out _ _ (HSE.out _ HT1.out.ev) (fun hHeld => ?_)
       clear hK K
       (try simp only [Act.put, sA, sB, sC])
       refine wpAnyH_one (i := 17) rfl (by kernel_rfl) (by rfl) (fun K hK => ?_)
       obtain ⟨u0, u1⟩ := cells2 HT1.out.h2
       obtain ⟨v0, v1⟩ := frz2 HT1.out.h2
       go_simp
       generalize hX2 : World.setCell (World.setCell X1 _ _) _ _ = X2
       have HT2 := hid (show TwS x3 X2 z1.heap.size z2.heap.size gB gD gC gW z3.heap.size ng dg nw dw eg ew #[.slice (some ⟨gB, 0, none⟩) ng dg, .slice (some ⟨gD, 0, none⟩) nw dw] #[.slice (some ⟨gC, 0, none⟩) ng eg, .slice (some ⟨gW, 0, none⟩) nw ew] t u from by rw [← hX2]; exact HT1.out.set2)
       clear hX2 u0 u1 v0 v1 HT1
       refine hK.out _ _ (HSE.out _ HT2.out.ev) (fun hHeld => ?_)
       clear hK K
       (try simp only [Act.put, sA, sB, sC])
       refine wpAnyH_done (by kernel_rfl) ?_ _
       go_wp2_with fail
       go_meet
       exact ⟨z1.heap.size, z2.heap.size, gB, gD, gC, gW, dg, dw, eg, ew, z3.heap.size, rfl, rfl, HT2⟩
     ·
      go_simp
      generalize hWp2 : World.alloc Wp1 _ = Wp2
      have hal := alloc1 Wp1 (.cells #[.slice none 0 0, .slice none 0 0] 28)
      have hbp2 : Ev Wp1 Wp2 := by rw [← hWp2]; exact Ev.alloc (Ev.refl _) _
      have hqp2 := hal.1
      rw [hWp2] at hqp2
      have hxp2 : Ev x3 Wp2 := hxp1.trans hbp2
      have hzp2 := hid (show Wp2.heap.size = Wp1.heap.size + 1 from by rw [← hWp2]; exact hal.2)
      clear hal hWp2
      refine hK.out _ _ (HSE.out _ hxp2) (fun hHeld => ?_)
      clear hK K
      (try simp only [Act.put, sA, sB, sC])
      refine wpAnyH_one (i := 6) rfl (by kernel_rfl) (by rfl) (fun K hK => ?_)
      go_simp
      refine (HNT.out _ (hX3.trans hxp2)).mono ?_
      rintro e z2 ⟨⟨Bg, dg, Bw, dw, rfl, ho1, ho2, hapT⟩, hb2⟩
      have hy2 : Ev x3 z2 := Ev.trans hxp2 hb2
      have hz2 := hid (And.intro hb2.size hy2.size)
      obtain ⟨gB, rfl, _, lB, _⟩ := own_some ho1 hng0
      obtain ⟨gD, rfl, _, lD, _⟩ := own_some ho2 hnw0
      refine hK.out _ _ (HSE.out _ hy2) (fun hHeld => ?_)
      clear hK K
      (try simp only [Act.put, sA, sB, sC])
      refine wpAnyH_one (i := 11) rfl (by kernel_rfl) (by rfl) (fun K hK => ?_)
      go_simp
      refine (HMN.out _ (hX3.trans hy2)).mono ?_
      rintro e z3 ⟨rfl, hb3⟩
      have hy3 : Ev x3 z3 := Ev.trans hy2 hb3
      have hz3 := hid (And.intro hb3.size hy3.size)
      refine hK.out _ _ (HSE.out _ hy3) (fun hHeld => ?_)
      clear hK K
      (try simp only [Act.put, sA, sB, sC])
      refine tkH 12 (some 48) ?_
      (try simp only [Act.put, sA, sB, sC])
      refine wpAnyH_one (i := 13) rfl (by kernel_rfl) (by rfl) (fun K hK => ?_)
      go_simp
      refine (HNU.out _ (hX3.trans hy3)).mono ?_
      rintro e z4 ⟨⟨Cg, eg, Cw, ew, rfl, hu1, hu2, hap⟩, hb4⟩
      have hy4 : Ev x3 z4 := Ev.trans hy3 hb4
      have hz4 := hid (And.intro hb4.size hy4.size)
      obtain ⟨gC, rfl, lC, _⟩ := own_some hu1 hng0
      obtain ⟨gW, rfl, lW, _⟩ := own_some hu2 hnw0
      have hCW : gC ≠ gW := fun e => hap gC rfl (by rw [e]; rfl)
      refine hK.out _ _ (HSE.out _ hy4) (fun hHeld => ?_)
      clear hK K
      (try simp only [Act.put, sA, sB, sC])
      refine wpAnyH_one (i := 16) rfl (by kernel_rfl) (by rfl) (fun K hK => ?_)
      have HT := hid (show TwS x3 z4 z1.heap.size Wp1.heap.size gB gD gC gW z3.heap.size ng dg nw dw eg ew #[.slice none 0 0, .slice none 0 0] #[.slice none 0 0, .slice none 0 0] t u from ⟨hy4, by have := hz1.out; have := hzp1.out; have := hzp2.out; have := hz2.out; have := hz3.out; have := hz4.out; omega, by have := hz1.out; have := hzp1.out; have := hzp2.out; have := hz2.out; have := hz3.out; have := hz4.out; omega, by have := hz1.out; have := hzp1.out; have := hzp2.out; have := hz2.out; have := hz3.out; have := hz4.out; omega, (hb4.heap (hb3.heap (hb2.heap (hbp2.heap hqp1)))), (hb4.heap (hb3.heap (hb2.heap hqp2))), own_base ((ho1.ev hb3).ev hb4) (Nat.zero_le _), own_base ((ho2.ev hb3).ev hb4) (Nat.zero_le _), own_base hu1 (Nat.zero_le _), own_base hu2 (Nat.zero_le _), by have := hz1.out; have := hzp1.out; have := hzp2.out; have := hz2.out; have := hz3.out; have := hz4.out; omega, by have := hz1.out; have := hzp1.out; have := hzp2.out; have := hz2.out; have := hz3.out; have := hz4.out; omega, lC, lW, hCW, by have := hz1.out; have := hzp1.out; have := hzp2.out; have := hz2.out; have := hz3.out; have := hz4.out; omega⟩)
      obtain ⟨u0, u1⟩ := cells2 HT.out.h1
      obtain ⟨v0, v1⟩ := frz2 HT.out.h1
      go_simp
      generalize hX1 : World.setCell (World.setCell z4 _ _) _ _ = X1
      have HT1 := hid (show TwS x3 X1 z1.heap.size Wp1.heap.size gB gD gC gW z3.heap.size ng dg nw dw eg ew #[.slice (some ⟨gB, 0, none⟩) ng dg, .slice (some ⟨gD, 0, none⟩) nw dw] #[.slice none 0 0, .slice none 0 0] t u from by rw [← hX1]; exact HT.out.set1)
      clear hX1 u0 u1 v0 v1 HT
      refine hK.out _ _ (HSE.out _ HT1.out.ev) (fun hHeld => ?_)
      clear hK K
      (try simp only [Act.put, sA, sB, sC])
      refine wpAnyH_one (i := 17) rfl (by kernel_rfl) (by rfl) (fun K hK => ?_)
      obtain ⟨u0, u1⟩ := cells2 HT1.out.h2
      obtain ⟨v0, v1⟩ := frz2 HT1.out.h2
      go_simp
      generalize hX2 : World.setCell (World.setCell X1 _ _) _ _ = X2
      have HT2 := hid (show TwS x3 X2 z1.heap.size Wp1.heap.size gB gD gC gW z3.heap.size ng dg nw dw eg ew #[.slice (some ⟨gB, 0, none⟩) ng dg, .slice (some ⟨gD, 0, none⟩) nw dw] #[.slice (some ⟨gC, 0, none⟩) ng eg, .slice (some ⟨gW, 0, none⟩) nw ew] t u from by rw [← hX2]; exact HT1.out.set2)
      clear hX2 u0 u1 v0 v1 HT1
      refine hK.out _ _ (HSE.out _ HT2.out.ev) (fun hHeld => ?_)
      clear hK K
      (try simp only [Act.put, sA, sB, sC])
      refine wpAnyH_done (by kernel_rfl) ?_ _
      go_wp2_with fail
      go_meet
      exact ⟨z1.heap.size, Wp1.heap.size, gB, gD, gC, gW, dg, dw, eg, ew, z3.heap.size, rfl, rfl, HT2⟩
    ·
     go_simp
     generalize hWp2 : World.alloc z1 _ = Wp2
     have hal := alloc1 z1 (.cells #[.slice none 0 0, .slice none 0 0] 28)
     have hbp2 : Ev z1 Wp2 := by rw [← hWp2]; exact Ev.alloc (Ev.refl _) _
     have hqp2 := hal.1
     rw [hWp2] at hqp2
     have hxp2 : Ev x3 Wp2 := hy1.trans hbp2
     have hzp2 := hid (show Wp2.heap.size = z1.heap.size + 1 from by rw [← hWp2]; exact hal.2)
     clear hal hWp2
     refine hK.out _ _ (HSE.out _ hxp2) (fun hHeld => ?_)
     clear hK K
     (try simp only [Act.put, sA, sB, sC])
     refine wpAnyH_ready (rs := [6, 14]) (by kernel_rfl) (by simp) ?_
     refine AllReadyH.cons rfl (fun K hK => ?_) (AllReadyH.cons rfl (fun K hK => ?_) (AllReadyH.nil))
     ·
      go_simp
      refine (HNT.out _ (hX3.trans hxp2)).mono ?_
      rintro e z2 ⟨⟨Bg, dg, Bw, dw, rfl, ho1, ho2, hapT⟩, hb2⟩
      have hy2 : Ev x3 z2 := Ev.trans hxp2 hb2
      have hz2 := hid (And.intro hb2.size hy2.size)
      obtain ⟨gB, rfl, _, lB, _⟩ := own_some ho1 hng0
      obtain ⟨gD, rfl, _, lD, _⟩ := own_some ho2 hnw0
      refine hK.out _ _ (HSE.out _ hy2) (fun hHeld => ?_)
      clear hK K
      (try simp only [Act.put, sA, sB, sC])
      refine wpAnyH_ready (rs := [11, 14]) (by kernel_rfl) (by simp) ?_
      refine AllReadyH.cons rfl (fun K hK => ?_) (AllReadyH.cons rfl (fun K hK => ?_) (AllReadyH.nil))
      ·
       go_simp
       refine (HMN.out _ (hX3.trans hy2)).mono ?_
       rintro e z3 ⟨rfl, hb3⟩
       have hy3 : Ev x3 z3 := Ev.trans hy2 hb3
       have hz3 := hid (And.intro hb3.size hy3.size)
       refine hK.out _ _ (HSE.out _ hy3) (fun hHeld => ?_)
       clear hK K
       (try simp only [Act.put, sA, sB, sC])
       refine tkH 12 (some 48) ?_
       (try simp only [Act.put, sA, sB, sC])
       refine wpAnyH_ready (rs := [13, 14]) (by kernel_rfl) (by simp) ?_
       refine AllReadyH.cons rfl (fun K hK => ?_) (AllReadyH.cons rfl (fun K hK => ?_) (AllReadyH.nil))
       ·
        go_simp
        refine (HNU.out _ (hX3.trans hy3)).mono ?_
        rintro e z4 ⟨⟨Cg, eg, Cw, ew, rfl, hu1, hu2, hap⟩, hb4⟩
        have hy4 : Ev x3 z4 := Ev.trans hy3 hb4
        have hz4 := hid (And.intro hb4.size hy4.size)
        obtain ⟨gC, rfl, lC, _⟩ := own_some hu1 hng0
        obtain ⟨gW, rfl, lW, _⟩ := own_some hu2 hnw0
        have hCW : gC ≠ gW := fun e => hap gC rfl (by rw [e]; rfl)
        refine hK.out _ _ (HSE.out _ hy4) (fun hHeld => ?_)
        clear hK K
        (try simp only [Act.put, sA, sB, sC])
        refine wpAnyH_one (i := 14) rfl (by kernel_rfl) (by rfl) (fun K hK => ?_)
        go_simp
        generalize hWp1 : World.alloc z4 _ = Wp1
        have hal := alloc1 z4 (.cells #[.slice none 0 0, .slice none 0 0] 28)
        have hbp1 : Ev z4 Wp1 := by rw [← hWp1]; exact Ev.alloc (Ev.refl _) _
        have hqp1 := hal.1
        rw [hWp1] at hqp1
        have hxp1 : Ev x3 Wp1 := hy4.trans hbp1
        have hzp1 := hid (show Wp1.heap.size = z4.heap.size + 1 from by rw [← hWp1]; exact hal.2)
        clear hal hWp1
        refine hK.out _ _ (HSE.out _ hxp1) (fun hHeld => ?_)
        clear hK K
        (try simp only [Act.put, sA, sB, sC])
        refine wpAnyH_one (i := 16) rfl (by kernel_rfl) (by rfl) (fun K hK => ?_)
        have HT := hid (show TwS x3 Wp1 z4.heap.size z1.heap.size gB gD gC gW z3.heap.size ng dg nw dw eg ew #[.slice none 0 0, .slice none 0 0] #[.slice none 0 0, .slice none 0 0] t u from ⟨hxp1, by have := hz1.out; have := hzp2.out; have := hz2.out; have := hz3.out; have := hz4.out; have := hzp1.out; omega, by have := hz1.out; have := hzp2.out; have := hz2.out; have := hz3.out; have := hz4.out; have := hzp1.out; omega, by have := hz1.out; have := hzp2.out; have := hz2.out; have := hz3.out; have := hz4.out; have := hzp1.out; omega, hqp1, (hbp1.heap (hb4.heap (hb3.heap (hb2.heap hqp2)))), own_base (((ho1.ev hb3).ev hb4).ev hbp1) (Nat.zero_le _), own_base (((ho2.ev hb3).ev hb4).ev hbp1) (Nat.zero_le _), own_base (hu1.ev hbp1) (Nat.zero_le _), own_base (hu2.ev hbp1) (Nat.zero_le _), by have := hz1.out; have := hzp2.out; have := hz2.out; have := hz3.out; have := hz4.out; have := hzp1.out; omega, by have := hz1.out; have := hzp2.out; have := hz2.out; have := hz3.out; have := hz4.out; have := hzp1.out; omega, lC, lW, hCW, by have := hz1.out; have := hzp2.out; have := hz2.out; have := hz3.out; have := hz4.out; have := hzp1.out; omega⟩)
        obtain ⟨u0, u1⟩ := cells2 HT.out.h1
        obtain ⟨v0, v1⟩ := frz2 HT.out.h1
        go_simp
        generalize hX1 : World.setCell (World.setCell Wp1 _ _) _ _ = X1
        have HT1 := hid (show TwS x3 X1 z4.heap.size z1.heap.size gB gD gC gW z3.heap.size ng dg nw dw eg ew #[.slice (some ⟨gB, 0, none⟩) ng dg, .slice (some ⟨gD, 0, none⟩) nw dw] #[.slice none 0 0, .slice none 0 0] t u from by rw [← hX1]; exact HT.out.set1)
        clear hX1 u0 u1 v0 v1 HT
        refine hK.out _ _ (HSE.out _ HT1.out.ev) (fun hHeld => ?_)
        clear hK K
        (try simp only [Act.put, sA, sB, sC])
        refine wpAnyH_one (i := 17) rfl (by kernel_rfl) (by rfl) (fun K hK => ?_)
        obtain ⟨u0, u1⟩ := cells2 HT1.out.h2
        obtain ⟨v0, v1⟩ := frz2 HT1.out.h2
        go_simp
        generalize hX2 : World.setCell (World.setCell X1 _ _) _ _ = X2
        have HT2 := hid (show TwS x3 X2 z4.heap.size z1.heap.size gB gD gC gW z3.heap.size ng dg nw dw eg ew #[.slice (some ⟨gB, 0, none⟩) ng dg, .slice (some ⟨gD, 0, none⟩) nw dw] #[.slice (some ⟨gC, 0, none⟩) ng eg, .slice (some ⟨gW, 0, none⟩) nw ew] t u from by rw [← hX2]; exact HT1.out.set2)
        clear hX2 u0 u1 v0 v1 HT1
        refine hK.out _ _ (HSE.out _ HT2.out.ev) (fun hHeld => ?_)
        clear hK K
        (try simp only [Act.put, sA, sB, sC])
        refine wpAnyH_done (by kernel_rfl) ?_ _
        go_wp2_with fail
        go_meet
        exact ⟨z4.heap.size, z1.heap.size, gB, gD, gC, gW, dg, dw, eg, ew, z3.heap.size, rfl, rfl, HT2⟩
       ·
        go_simp
        generalize hWp1 : World.alloc z3 _ = Wp1
        have hal := alloc1 z3 (.cells #[.slice none 0 0, .slice none 0 0] 28)
        have hbp1 : Ev z3 Wp1 := by rw [← hWp1]; exact Ev.alloc (Ev.refl _) _
        have hqp1 := hal.1
        rw [hWp1] at hqp1
        have hxp1 : Ev x3 Wp1 := hy3.trans hbp1
        have hzp1 := hid (show Wp1.heap.size = z3.heap.size + 1 from by rw [← hWp1]; exact hal.2)
        clear hal hWp1
        refine hK.out _ _ (HSE.out _ hxp1) (fun hHeld => ?_)
        clear hK K
        (try simp only [Act.put, sA, sB, sC])
        refine wpAnyH_one (i := 13) rfl (by kernel_rfl) (by rfl) (fun K hK => ?_)
        go_simp
        refine (HNU.out _ (hX3.trans hxp1)).mono ?_
        rintro e z4 ⟨⟨Cg, eg, Cw, ew, rfl, hu1, hu2, hap⟩, hb4⟩
        have hy4 : Ev x3 z4 := Ev.trans hxp1 hb4
        have hz4 := hid (And.intro hb4.size hy4.size)
        obtain ⟨gC, rfl, lC, _⟩ := own_some hu1 hng0
        obtain ⟨gW, rfl, lW, _⟩ := own_some hu2 hnw0
        have hCW : gC ≠ gW := fun e => hap gC rfl (by rw [e]; rfl)
        refine hK.out _ _ (HSE.out _ hy4) (fun hHeld => ?_)
        clear hK K
        (try simp only [Act.put, sA, sB, sC])
        refine wpAnyH_one (i := 16) rfl (by kernel_rfl) (by rfl) (fun K hK => ?_)
        have HT := hid (show TwS x3 z4 z3.heap.size z1.heap.size gB gD gC gW Wp1.heap.size ng dg nw dw eg ew #[.slice none 0 0, .slice none 0 0] #[.slice none 0 0, .slice none 0 0] t u from ⟨hy4, by have := hz1.out; have := hzp2.out; have := hz2.out; have := hz3.out; have := hzp1.out; have := hz4.out; omega, by have := hz1.out; have := hzp2.out; have := hz2.out; have := hz3.out; have := hzp1.out; have := hz4.out; omega, by have := hz1.out; have := hzp2.out; have := hz2.out; have := hz3.out; have := hzp1.out; have := hz4.out; omega, (hb4.heap hqp1), (hb4.heap (hbp1.heap (hb3.heap (hb2.heap hqp2)))), own_base (((ho1.ev hb3).ev hbp1).ev hb4) (Nat.zero_le _), own_base (((ho2.ev hb3).ev hbp1).ev hb4) (Nat.zero_le _), own_base hu1 (Nat.zero_le _), own_base hu2 (Nat.zero_le _), by have := hz1.out; have := hzp2.out; have := hz2.out; have := hz3.out; have := hzp1.out; have := hz4.out; omega, by have := hz1.out; have := hzp2.out; have := hz2.out; have := hz3.out; have := hzp1.out; have := hz4.out; omega, lC, lW, hCW, by have := hz1.out; have := hzp2.out; have := hz2.out; have := hz3.out; have := hzp1.out; have := hz4.out; omega⟩)
        obtain ⟨u0, u1⟩ := cells2 HT.out.h1
        obtain ⟨v0, v1⟩ := frz2 HT.out.h1
        go_simp
        generalize hX1 : World.setCell (World.setCell z4 _ _) _ _ = X1
        have HT1 := hid (show TwS x3 X1 z3.heap.size z1.heap.size gB gD gC gW Wp1.heap.size ng dg nw dw eg ew #[.slice (some ⟨gB, 0, none⟩) ng dg, .slice (some ⟨gD, 0, none⟩) nw dw] #[.slice none 0 0, .slice none 0 0] t u from by rw [← hX1]; exact HT.out.set1)
        clear hX1 u0 u1 v0 v1 HT
        refine hK.out _ _ (HSE.out _ HT1.out.ev) (fun hHeld => ?_)
        clear hK K
        (try simp only [Act.put, sA, sB, sC])
        refine wpAnyH_one (i := 17) rfl (by kernel_rfl) (by rfl) (fun K hK => ?_)
        obtain ⟨u0, u1⟩ := cells2 HT1.out.h2
        obtain ⟨v0, v1⟩ := frz2 HT1.out.h2
        go_simp
        generalize hX2 : World.setCell (World.setCell X1 _ _) _ _ = X2
        have HT2 := hid (show TwS x3 X2 z3.heap.size z1.heap.size gB gD gC gW Wp1.heap.size ng dg nw dw eg ew #[.slice (some ⟨gB, 0, none⟩) ng dg, .slice (some ⟨gD, 0, none⟩) nw dw] #[.slice (some ⟨gC, 0, none⟩) ng eg, .slice (some ⟨gW, 0, none⟩) nw ew] t u from by rw [← hX2]; exact HT1.out.set2)
        clear hX2 u0 u1 v0 v1 HT1
        refine hK.out _ _ (HSE.out _ HT2.out.ev) (fun hHeld => ?_)
        clear hK K
        (try simp only [Act.put, sA, sB, sC])
        refine wpAnyH_done (by kernel_rfl) ?_ _
        go_wp2_with fail
        go_meet
        exact ⟨z3.heap.size, z1.heap.size, gB, gD, gC, gW, dg, dw, eg, ew, Wp1.heap.size, rfl, rfl, HT2⟩
      ·
       go_simp
       generalize hWp1 : World.alloc z2 _ = Wp1
       have hal := alloc1 z2 (.cells #[.slice none 0 0, .slice none 0 0] 28)
       have hbp1 : Ev z2 Wp1 := by rw [← hWp1]; exact Ev.alloc (Ev.refl _) _
       have hqp1 := hal.1
       rw [hWp1] at hqp1
       have hxp1 : Ev x3 Wp1 := hy2.trans hbp1
       have hzp1 := hid (show Wp1.heap.size = z2.heap.size + 1 from by rw [← hWp1]; exact hal.2)
       clear hal hWp1
       refine hK.out _ _ (HSE.out _ hxp1) (fun hHeld => ?_)
       clear hK K
       (try simp only [Act.put, sA, sB, sC])
       refine wpAnyH_one (i := 11) rfl (by kernel_rfl) (by rfl) (fun K hK => ?_)
       go_simp
       refine (HMN.out _ (hX3.trans hxp1)).mono ?_
       rintro e z3 ⟨rfl, hb3⟩
       have hy3 : Ev x3 z3 := Ev.trans hxp1 hb3
       have hz3 := hid (And.intro hb3.size hy3.size)
       refine hK.out _ _ (HSE.out _ hy3) (fun hHeld => ?_)
       clear hK K
       (try simp only [Act.put, sA, sB, sC])
       refine tkH 12 (some 48) ?_
       (try simp only [Act.put, sA, sB, sC])
       refine wpAnyH_one (i := 13) rfl (by kernel_rfl) (by rfl) (fun K hK => ?_)
       go_simp
       refine (HNU.out _ (hX3.trans hy3)).mono ?_
       rintro e z4 ⟨⟨Cg, eg, Cw, ew, rfl, hu1, hu2, hap⟩, hb4⟩
       have hy4 : Ev x3 z4 := Ev.trans hy3 hb4
       have hz4 := hid (And.intro hb4.size hy4.size)
       obtain ⟨gC, rfl, lC, _⟩ := own_some hu1 hng0
       obtain ⟨gW, rfl, lW, _⟩ := own_some hu2 hnw0
       have hCW : gC ≠ gW := fun e => hap gC rfl (by rw [e]; rfl)
       refine hK.out _ _ (HSE.out _ hy4) (fun hHeld => ?_)
       clear hK K
       (try simp only [Act.put, sA, sB, sC])
       refine wpAnyH_one (i := 16) rfl (by kernel_rfl) (by rfl) (fun K hK => ?_)
       have HT := hid (show TwS x3 z4 z2.heap.size z1.heap.size gB gD gC gW z3.heap.size ng dg nw dw eg ew #[.slice none 0 0, .slice none 0 0] #[.slice none 0 0, .slice none 0 0] t u from ⟨hy4, by have := hz1.out; have := hzp2.out; have := hz2.out; have := hzp1.out; have := hz3.out; have := hz4.out; omega, by have := hz1.out; have := hzp2.out; have := hz2.out; have := hzp1.out; have := hz3.out; have := hz4.out; omega, by have := hz1.out; have := hzp2.out; have := hz2.out; have := hzp1.out; have := hz3.out; have := hz4.out; omega, (hb4.heap (hb3.heap hqp1)), (hb4.heap (hb3.heap (hbp1.heap (hb2.heap hqp2)))), own_base (((ho1.ev hbp1).ev hb3).ev hb4) (Nat.zero_le _), own_base (((ho2.ev hbp1).ev hb3).ev hb4) (Nat.zero_le _), own_base hu1 (Nat.zero_le _), own_base hu2 (Nat.zero_le _), by have := hz1.out; have := hzp2.out; have := hz2.out; have := hzp1.out; have := hz3.out; have := hz4.out; omega, by have := hz1.out; have := hzp2.out; have := hz2.out; have := hzp1.out; have := hz3.out; have := hz4.out; omega, lC, lW, hCW, by have := hz1.out; have := hzp2.out; have := hz2.out; have := hzp1.out; have := hz3.out; have := hz4.out; omega⟩)
       obtain ⟨u0, u1⟩ := cells2 HT.out.h1
       obtain ⟨v0, v1⟩ := frz2 HT.out.h1
       go_simp
       generalize hX1 : World.setCell (World.setCell z4 _ _) _ _ = X1
       have HT1 := hid (show TwS x3 X1 z2.heap.size z1.heap.size gB gD gC gW z3.heap.size ng dg nw dw eg ew #[.slice (some ⟨gB, 0, none⟩) ng dg, .slice (some ⟨gD, 0, none⟩) nw dw] #[.slice none 0 0, .slice none 0 0] t u from by rw [← hX1]; exact HT.out.set1)
       clear hX1 u0 u1 v0 v1 HT
       refine hK.out _ _ (HSE.out _ HT1.out.ev) (fun hHeld => ?_)
       clear hK K
       (try simp only [Act.put, sA, sB, sC])
       refine wpAnyH_one (i := 17) rfl (by kernel_rfl) (by rfl) (fun K hK => ?_)
       obtain ⟨u0, u1⟩ := cells2 HT1.out.h2
       obtain ⟨v0, v1⟩ := frz2 HT1.out.h2
       go_simp
       generalize hX2 : World.setCell (World.setCell X1 _ _) _ _ = X2
       have HT2 := hid (show TwS x3 X2 z2.heap.size z1.heap.size gB gD gC gW z3.heap.size ng dg nw dw eg ew #[.slice (some ⟨gB, 0, none⟩) ng dg, .slice (some ⟨gD, 0, none⟩) nw dw] #[.slice (some ⟨gC, 0, none⟩) ng eg, .slice (some ⟨gW, 0, none⟩) nw ew] t u from by rw [← hX2]; exact HT1.out.set2)
       clear hX2 u0 u1 v0 v1 HT1
       refine hK.out _ _ (HSE.out _ HT2.out.ev) (fun hHeld => ?_)
       clear hK K
       (try simp only [Act.put, sA, sB, sC])
       refine wpAnyH_done (by kernel_rfl) ?_ _
       go_wp2_with fail
       go_meet
       exact ⟨z2.heap.size, z1.heap.size, gB, gD, gC, gW, dg, dw, eg, ew, z3.heap.size, rfl, rfl, HT2⟩
     ·
      go_simp
      generalize hWp1 : World.alloc Wp2 _ = Wp1
      have hal := alloc1 Wp2 (.cells #[.slice none 0 0, .slice none 0 0] 28)
      have hbp1 : Ev Wp2 Wp1 := by rw [← hWp1]; exact Ev.alloc (Ev.refl _) _
      have hqp1 := hal.1
      rw [hWp1] at hqp1
      have hxp1 : Ev x3 Wp1 := hxp2.trans hbp1
      have hzp1 := hid (show Wp1.heap.size = Wp2.heap.size + 1 from by rw [← hWp1]; exact hal.2)
      clear hal hWp1
      refine hK.out _ _ (HSE.out _ hxp1) (fun hHeld => ?_)
      clear hK K
      (try simp only [Act.put, sA, sB, sC])
      refine wpAnyH_one (i := 6) rfl (by kernel_rfl) (by rfl) (fun K hK => ?_)
      go_simp
      refine (HNT.out _ (hX3.trans hxp1)).mono ?_
      rintro e z2 ⟨⟨Bg, dg, Bw, dw, rfl, ho1, ho2, hapT⟩, hb2⟩
      have hy2 : Ev x3 z2 := Ev.trans hxp1 hb2
      have hz2 := hid (And.intro hb2.size hy2.size)
      obtain ⟨gB, rfl, _, lB, _⟩ := own_some ho1 hng0
      obtain ⟨gD, rfl, _, lD, _⟩ := own_some ho2 hnw0
      refine hK.out _ _ (HSE.out _ hy2) (fun hHeld => ?_)
      clear hK K
      (try simp only [Act.put, sA, sB, sC])
      refine wpAnyH_one (i := 11) rfl (by kernel_rfl) (by rfl) (fun K hK => ?_)
      go_simp
      refine (HMN.out _ (hX3.trans hy2)).mono ?_
      rintro e z3 ⟨rfl, hb3⟩
      have hy3 : Ev x3 z3 := Ev.trans hy2 hb3
      have hz3 := hid (And.intro hb3.size hy3.size)
      refine hK.out _ _ (HSE.out _ hy3) (fun hHeld => ?_)
      clear hK K
      (try simp only [Act.put, sA, sB, sC])
      refine tkH 12 (some 48) ?_
      (try simp only [Act.put, sA, sB, sC])
      refine wpAnyH_one (i := 13) rfl (by kernel_rfl) (by rfl) (fun K hK => ?_)
      go_simp
      refine (HNU.out _ (hX3.trans hy3)).mono ?_
      rintro e z4 ⟨⟨Cg, eg, Cw, ew, rfl, hu1, hu2, hap⟩, hb4⟩
      have hy4 : Ev x3 z4 := Ev.trans hy3 hb4
      have hz4 := hid (And.intro hb4.size hy4.size)
      obtain ⟨gC, rfl, lC, _⟩ := own_some hu1 hng0
      obtain ⟨gW, rfl, lW, _⟩ := own_some hu2 hnw0
      have hCW : gC ≠ gW := fun e => hap gC rfl (by rw [e]; rfl)
      refine hK.out _ _ (HSE.out _ hy4) (fun hHeld => ?_)
      clear hK K
      (try simp only [Act.put, sA, sB, sC])
      refine wpAnyH_one (i := 16) rfl (by kernel_rfl) (by rfl) (fun K hK => ?_)
      have HT := hid (show TwS x3 z4 Wp2.heap.size z1.heap.size gB gD gC gW z3.heap.size ng dg nw dw eg ew #[.slice none 0 0, .slice none 0 0] #[.slice none 0 0, .slice none 0 0] t u from ⟨hy4, by have := hz1.out; have := hzp2.out; have := hzp1.out; have := hz2.out; have := hz3.out; have := hz4.out; omega, by have := hz1.out; have := hzp2.out; have := hzp1.out; have := hz2.out; have := hz3.out; have := hz4.out; omega, by have := hz1.out; have := hzp2.out; have := hzp1.out; have := hz2.out; have := hz3.out; have := hz4.out; omega, (hb4.heap (hb3.heap (hb2.heap hqp1))), (hb4.heap (hb3.heap (hb2.heap (hbp1.heap hqp2)))), own_base ((ho1.ev hb3).ev hb4) (Nat.zero_le _), own_base ((ho2.ev hb3).ev hb4) (Nat.zero_le _), own_base hu1 (Nat.zero_le _), own_base hu2 (Nat.zero_le _), by have := hz1.out; have := hzp2.out; have := hzp1.out; have := hz2.out; have := hz3.out; have := hz4.out; omega, by have := hz1.out; have := hzp2.out; have := hzp1.out; have := hz2.out; have := hz3.out; have := hz4.out; omega, lC, lW, hCW, by have := hz1.out; have := hzp2.out; have := hzp1.out; have := hz2.out; have := hz3.out; have := hz4.out; omega⟩)
      obtain ⟨u0, u1⟩ := cells2 HT.out.h1
      obtain ⟨v0, v1⟩ := frz2 HT.out.h1
      go_simp
      generalize hX1 : World.setCell (World.setCell z4 _ _) _ _ = X1
      have HT1 := hid (show TwS x3 X1 Wp2.heap.size z1.heap.size gB gD gC gW z3.heap.size ng dg nw dw eg ew #[.slice (some ⟨gB, 0, none⟩) ng dg, .slice (some ⟨gD, 0, none⟩) nw dw] #[.slice none 0 0, .slice none 0 0] t u from by rw [← hX1]; exact HT.out.set1)
      clear hX1 u0 u1 v0 v1 HT
      refine hK.out _ _ (HSE.out _ HT1.out.ev) (fun hHeld => ?_)
      clear hK K
      (try simp only [Act.put, sA, sB, sC])
      refine wpAnyH_one (i := 17) rfl (by kernel_rfl) (by rfl) (fun K hK => ?_)
      obtain ⟨u0, u1⟩ := cells2 HT1.out.h2
      obtain ⟨v0, v1⟩ := frz2 HT1.out.h2
      go_simp
      generalize hX2 : World.setCell (World.setCell X1 _ _) _ _ = X2
      have HT2 := hid (show TwS x3 X2 Wp2.heap.size z1.heap.size gB gD gC gW z3.heap.size ng dg nw dw eg ew #[.slice (some ⟨gB, 0, none⟩) ng dg, .slice (some ⟨gD, 0, none⟩) nw dw] #[.slice (some ⟨gC, 0, none⟩) ng eg, .slice (some ⟨gW, 0, none⟩) nw ew] t u from by rw [← hX2]; exact HT1.out.set2)
      clear hX2 u0 u1 v0 v1 HT1
      refine hK.out _ _ (HSE.out _ HT2.out.ev) (fun hHeld => ?_)
      clear hK K
      (try simp only [Act.put, sA, sB, sC])
      refine wpAnyH_done (by kernel_rfl) ?_ _
      go_wp2_with fail
      go_meet
      exact ⟨Wp2.heap.size, z1.heap.size, gB, gD, gC, gW, dg, dw, eg, ew, z3.heap.size, rfl, rfl, HT2⟩
   ·
    go_simp
    generalize hWp1 : World.drew (World.alloc x3 _) = Wp1
    have hal := alloc1 x3 (.cells #[.slice none 0 0, .slice none 0 0] 28)
    have hbp1 : Ev x3 Wp1 := by rw [← hWp1]; exact Ev.drew (Ev.alloc (Ev.refl _) _)
    have hqp1 := (show Ev (World.alloc x3 (.cells #[.slice none 0 0, .slice none 0 0] 28)) Wp1 from by rw [← hWp1]; exact Ev.drew (Ev.refl _)).heap hal.1
    have hxp1 : Ev x3 Wp1 := hbp1
    have hzp1 := hid (show Wp1.heap.size = x3.heap.size + 1 from by rw [← hWp1]; exact hal.2)
    clear hal hWp1
    refine hK.out _ _ (HSE.out _ hxp1) (fun hHeld => ?_)
    clear hK K
    (try simp only [Act.put, sA, sB, sC])
    refine wpAnyH_ready (rs := [4, 15]) (by kernel_rfl) (by simp) ?_
    refine AllReadyH.cons rfl (fun K hK => ?_) (AllReadyH.cons rfl (fun K hK => ?_) (AllReadyH.nil))
    ·
     go_simp
     refine (HMN.out _ (hX3.trans hxp1)).mono ?_
     rintro e z1 ⟨rfl, hb1⟩
     have hy1 : Ev x3 z1 := Ev.trans hxp1 hb1
     have hz1 := hid (And.intro hb1.size hy1.size)
     refine hK.out _ _ (HSE.out _ hy1) (fun hHeld => ?_)
     clear hK K
     (try simp only [Act.put, sA, sB, sC])
     refine tkH 5 (some 41) ?_
     (try simp only [Act.put, sA, sB, sC])
     refine wpAnyH_ready (rs := [6, 15]) (by kernel_rfl) (by simp) ?_
     refine AllReadyH.cons rfl (fun K hK => ?_) (AllReadyH.cons rfl (fun K hK => ?_) (AllReadyH.nil))
     ·
      go_simp
      refine (HNT.out _ (hX3.trans hy1)).mono ?_
      rintro e z2 ⟨⟨Bg, dg, Bw, dw, rfl, ho1, ho2, hapT⟩, hb2⟩
      have hy2 : Ev x3 z2 := Ev.trans hy1 hb2
      have hz2 := hid (And.intro hb2.size hy2.size)
      obtain ⟨gB, rfl, _, lB, _⟩ := own_some ho1 hng0
      obtain ⟨gD, rfl, _, lD, _⟩ := own_some ho2 hnw0
      refine hK.out _ _ (HSE.out _ hy2) (fun hHeld => ?_)
      clear hK K
      (try simp only [Act.put, sA, sB, sC])
      refine wpAnyH_ready (rs := [11, 15]) (by kernel_rfl) (by simp) ?_
      refine AllReadyH.cons rfl (fun K hK => ?_) (AllReadyH.cons rfl (fun K hK => ?_) (AllReadyH.nil))
      ·
       go_simp
       refine (HMN.out _ (hX3.trans hy2)).mono ?_
       rintro e z3 ⟨rfl, hb3⟩
       have hy3 : Ev x3 z3 := Ev.trans hy2 hb3
       have hz3 := hid (And.intro hb3.size hy3.size)
       refine hK.out _ _ (HSE.out _ hy3) (fun hHeld => ?_)
       clear hK K
       (try simp only [Act.put, sA, sB, sC])
       refine tkH 12 (some 48) ?_
       (try simp only [Act.put, sA, sB, sC])
       refine wpAnyH_ready (rs := [13, 15]) (by kernel_rfl) (by simp) ?_
       refine AllReadyH.cons rfl (fun K hK => ?_) (AllReadyH.cons rfl (fun K hK => ?_) (AllReadyH.nil))
       ·
        go_simp
        refine (HNU.out _ (hX3.trans hy3)).mono ?_
        rintro e z4 ⟨⟨Cg, eg, Cw, ew, rfl, hu1, hu2, hap⟩, hb4⟩
        have hy4 : Ev x3 z4 := Ev.trans hy3 hb4
        have hz4 := hid (And.intro hb4.size hy4.size)
        obtain ⟨gC, rfl, lC, _⟩ := own_some hu1 hng0
        obtain ⟨gW, rfl, lW, _⟩ := own_some hu2 hnw0
        have hCW : gC ≠ gW := fun e => hap gC rfl (by rw [e]; rfl)
        refine hK.out _ _ (HSE.out _ hy4) (fun hHeld => ?_)
        clear hK K
        (try simp only [Act.put, sA, sB, sC])
        refine wpAnyH_one (i := 15) rfl (by kernel_rfl) (by rfl) (fun K hK => ?_)
        go_simp
        generalize hWp2 : World.alloc z4 _ = Wp2
        have hal := alloc1 z4 (.cells #[.slice none 0 0, .slice none 0 0] 28)
        have hbp2 : Ev z4 Wp2 := by rw [← hWp2]; exact Ev.alloc (Ev.refl _) _
        have hqp2 := hal.1
        rw [hWp2] at hqp2
        have hxp2 : Ev x3 Wp2 := hy4.trans hbp2
        have hzp2 := hid (show Wp2.heap.size = z4.heap.size + 1 from by rw [← hWp2]; exact hal.2)
        clear hal hWp2
        refine hK.out _ _ (HSE.out _ hxp2) (fun hHeld => ?_)
        clear hK K
        (try simp only [Act.put, sA, sB, sC])
        refine wpAnyH_one (i := 16) rfl (by kernel_rfl) (by rfl) (fun K hK => ?_)
        have HT := hid (show TwS x3 Wp2 x3.heap.size z4.heap.size gB gD gC gW z3.heap.size ng dg nw dw eg ew #[.slice none 0 0, .slice none 0 0] #[.slice none 0 0, .slice none 0 0] t u from ⟨hxp2, by have := hzp1.out; have := hz1.out; have := hz2.out; have := hz3.out; have := hz4.out; have := hzp2.out; omega, by have := hzp1.out; have := hz1.out; have := hz2.out; have := hz3.out; have := hz4.out; have := hzp2.out; omega, by have := hzp1.out; have := hz1.out; have := hz2.out; have := hz3.out; have := hz4.out; have := hzp2.out; omega, (hbp2.heap (hb4.heap (hb3.heap (hb2.heap (hb1.heap hqp1))))), hqp2, own_base (((ho1.ev hb3).ev hb4).ev hbp2) (Nat.zero_le _), own_base (((ho2.ev hb3).ev hb4).ev hbp2) (Nat.zero_le _), own_base (hu1.ev hbp2) (Nat.zero_le _), own_base (hu2.ev hbp2) (Nat.zero_le _), by have := hzp1.out; have := hz1.out; have := hz2.out; have := hz3.out; have := hz4.out; have := hzp2.out; omega, by have := hzp1.out; have := hz1.out; have := hz2.out; have := hz3.out; have := hz4.out; have := hzp2.out; omega, lC, lW, hCW, by have := hzp1.out; have := hz1.out; have := hz2.out; have := hz3.out; have := hz4.out; have := hzp2.out; omega⟩)
        obtain ⟨u0, u1⟩ := cells2 HT.out.h1
        obtain ⟨v0, v1⟩ := frz2 HT.out.h1
        go_simp
        generalize hX1 : World.setCell (World.setCell Wp2 _ _) _ _ = X1
        have HT1 := hid (show TwS x3 X1 x3.heap.size z4.heap.size gB gD gC gW z3.heap.size ng dg nw dw eg ew #[.slice (some ⟨gB, 0, none⟩) ng dg, .slice (some ⟨gD, 0, none⟩) nw dw] #[.slice none 0 0, .slice none 0 0] t u from by rw [← hX1]; exact HT.out.set1)
        clear hX1 u0 u1 v0 v1 HT
        refine hK.out _ _ (HSE.out _ HT1.out.ev) (fun hHeld => ?_)
        clear hK K
        (try simp only [Act.put, sA, sB, sC])
        refine wpAnyH_one (i := 17) rfl (by kernel_rfl) (by rfl) (fun K hK => ?_)
        obtain ⟨u0, u1⟩ := cells2 HT1.out.h2
        obtain ⟨v0, v1⟩ := frz2 HT1.out.h2
        go_simp
        generalize hX2 : World.setCell (World.setCell X1 _ _) _ _ = X2
        have HT2 := hid (show TwS x3 X2 x3.heap.size z4.heap.size gB gD gC gW z3.heap.size ng dg nw dw eg ew #[.slice (some ⟨gB, 0, none⟩) ng dg, .slice (some ⟨gD, 0, none⟩) nw dw] #[.slice (some ⟨gC, 0, none⟩) ng eg, .slice (some ⟨gW, 0, none⟩) nw ew] t u from by rw [← hX2]; exact HT1.out.set2)
        clear hX2 u0 u1 v0 v1 HT1
        refine hK.out _ _ (HSE.out _ HT2.out.ev) (fun hHeld => ?_)
        clear hK K
        (try simp only [Act.put, sA, sB, sC])
        refine wpAnyH_done (by kernel_rfl) ?_ _
        go_wp2_with fail
        go_meet
        exact ⟨x3.heap.size, z4.heap.size, gB, gD, gC, gW, dg, dw, eg, ew, z3.heap.size, rfl, rfl, HT2⟩
       ·
        go_simp
        generalize hWp2 : World.alloc z3 _ = Wp2
        have hal := alloc1 z3 (.cells #[.slice none 0 0, .slice none 0 0] 28)
        have hbp2 : Ev z3 Wp2 := by rw [← hWp2]; exact Ev.alloc (Ev.refl _) _
        have hqp2 := hal.1
        rw [hWp2] at hqp2
        have hxp2 : Ev x3 Wp2 := hy3.trans hbp2
        have hzp2 := hid (show Wp2.heap.size = z3.heap.size + 1 from by rw [← hWp2]; exact hal.2)
        clear hal hWp2
        refine hK.out _ _ (HSE.out _ hxp2) (fun hHeld => ?_)
        clear hK K
        (try simp only [Act.put, sA, sB, sC])
        refine wpAnyH_one (i := 13) rfl (by kernel_rfl) (by rfl) (fun K hK => ?_)
        go_simp
        refine (HNU.out _ (hX3.trans hxp2)).mono ?_
        rintro e z4 ⟨⟨Cg, eg, Cw, ew, rfl, hu1, hu2, hap⟩, hb4⟩
        have hy4 : Ev x3 z4 := Ev.trans hxp2 hb4
        have hz4 := hid (And.intro hb4.size hy4.size)
        obtain ⟨gC, rfl, lC, _⟩ := own_some hu1 hng0
        obtain ⟨gW, rfl, lW, _⟩ := own_some hu2 hnw0
        have hCW : gC ≠ gW := fun e => hap gC rfl (by rw [e]; rfl)
        refine hK.out _ _ (HSE.out _ hy4) (fun hHeld => ?_)
        clear hK K
        (try simp only [Act.put, sA, sB, sC])
        refine wpAnyH_one (i := 16) rfl (by kernel_rfl) (by rfl) (fun K hK => ?_)
        have HT := hid (show TwS x3 z4 x3.heap.size z3.heap.size gB gD gC gW Wp2.heap.size ng dg nw dw eg ew #[.slice none 0 0, .slice none 0 0] #[.slice none 0 0, .slice none 0 0] t u from ⟨hy4, by have := hzp1.out; have := hz1.out; have := hz2.out; have := hz3.out; have := hzp2.out; have := hz4.out; omega, by have := hzp1.out; have := hz1.out; have := hz2.out; have := hz3.out; have := hzp2.out; have := hz4.out; omega, by have := hzp1.out; have := hz1.out; have := hz2.out; have := hz3.out; have := hzp2.out; have := hz4.out; omega, (hb4.heap (hbp2.heap (hb3.heap (hb2.heap (hb1.heap hqp1))))), (hb4.heap hqp2), own_base (((ho1.ev hb3).ev hbp2).ev hb4) (Nat.zero_le _), own_base (((ho2.ev hb3).ev hbp2).ev hb4) (Nat.zero_le _), own_base hu1 (Nat.zero_le _), own_base hu2 (Nat.zero_le _), by have := hzp1.out; have := hz1.out; have := hz2.out; have := hz3.out; have := hzp2.out; have := hz4.out; omega, by have := hzp1.out; have := hz1.out; have := hz2.out; have := hz3.out; have := hzp2.out; have := hz4.out; omega, lC, lW, hCW, by have := hzp1.out; have := hz1.out; have := hz2.out; have := hz3.out; have := hzp2.out; have := hz4.out; omega⟩)
        obtain ⟨u0, u1⟩ := cells2 HT.out.h1
        obtain ⟨v0, v1⟩ := frz2 HT.out.h1
        go_simp
        generalize hX1 : World.setCell (World.setCell z4 _ _) _ _ = X1
        have HT1 := hid (show TwS x3 X1 x3.heap.size z3.heap.size gB gD gC gW Wp2.heap.size ng dg nw dw eg ew #[.slice (some ⟨gB, 0, none⟩) ng dg, .slice (some ⟨gD, 0, none⟩) nw dw] #[.slice none 0 0, .slice none 0 0] t u from by rw [← hX1]; exact HT.out.set1)
        clear hX1 u0 u1 v0 v1 HT
        refine hK.out _ _ (HSE.out _ HT1.out.ev) (fun hHeld => ?_)
        clear hK K
        (try simp only [Act.put, sA, sB, sC])
        refine wpAnyH_one (i := 17) rfl (by kernel_rfl) (by rfl) (fun K hK => ?_)
        obtain ⟨u0, u1⟩ := cells2 HT1.out.h2
        obtain ⟨v0, v1⟩ := frz2 HT1.out.h2
        go_simp
        generalize hX2 : World.setCell (World.setCell X1 _ _) _ _ = X2
        have HT2 := hid (show TwS x3 X2 x3.heap.size z3.heap.size gB gD gC gW Wp2.heap.size ng dg nw dw eg ew #[.slice (some ⟨gB, 0, none⟩) ng dg, .slice (some ⟨gD, 0, none⟩) nw dw] #[.slice (some ⟨gC, 0, none⟩) ng eg, .slice (some ⟨gW, 0, none⟩) nw ew] t u from by rw [← hX2]; exact HT1.out.set2)
        clear hX2 u0 u1 v0 v1 HT1
        refine hK.out _ _ (HSE.out _ HT2.out.ev) (fun hHeld => ?_)
        clear hK K
        (try simp only [Act.put, sA, sB, sC])
        refine wpAnyH_done (by kernel_rfl) ?_ _
        go_wp2_with fail
        go_meet
        exact ⟨x3.heap.size, z3.heap.size, gB, gD, gC, gW, dg, dw, eg, ew, Wp2.heap.size, rfl, rfl, HT2⟩
      ·
       go_simp
       generalize hWp2 : World.alloc z2 _ = Wp2
       have hal := alloc1 z2 (.cells #[.slice none 0 0, .slice none 0 0] 28)
       have hbp2 : Ev z2 Wp2 := by rw [← hWp2]; exact Ev.alloc (Ev.refl _) _
       have hqp2 := hal.1
       rw [hWp2] at hqp2
       have hxp2 : Ev x3 Wp2 := hy2.trans hbp2
       have hzp2 := hid (show Wp2.heap.size = z2.heap.size + 1 from by rw [← hWp2]; exact hal.2)
       clear hal hWp2
       refine hK.out _ _ (HSE.out _ hxp2) (fun hHeld => ?_)
       clear hK K
       (try simp only [Act.put, sA, sB, sC])
       refine wpAnyH_one (i := 11) rfl (by kernel_rfl) (by rfl) (fun K hK => ?_)
       go_simp
       refine (HMN.out _ (hX3.trans hxp2)).mono ?_
       rintro e z3 ⟨rfl, hb3⟩
       have hy3 : Ev x3 z3 := Ev.trans hxp2 hb3
       have hz3 := hid (And.intro hb3.size hy3.size)
       refine hK.out _ _ (HSE.out _ hy3) (fun hHeld => ?_)
       clear hK K
       (try simp only [Act.put, sA, sB, sC])
       refine tkH 12 (some 48) ?_
       (try simp only [Act.put, sA, sB, sC])
       refine wpAnyH_one (i := 13) rfl (by kernel_rfl) (by rfl) (fun K hK => ?_)
       go_simp
       refine (HNU.out _ (hX3.trans hy3)).mono ?_
       rintro e z4 ⟨⟨Cg, eg, Cw, ew, rfl, hu1, hu2, hap⟩, hb4⟩
       have hy4 : Ev x3 z4 := Ev.trans hy3 hb4
       have hz4 := hid (And.intro hb4.size hy4.size)
       obtain ⟨gC, rfl, lC, _⟩ := own_some hu1 hng0
       obtain ⟨gW, rfl, lW, _⟩ := own_some hu2 hnw0
       have hCW : gC ≠ gW := fun e => hap gC rfl (by rw [e]; rfl)
       refine hK.out _ _ (HSE.out _ hy4) (fun hHeld => ?_)
       clear hK K
       (try simp only [Act.put, sA, sB, sC])
       refine wpAnyH_one (i := 16) rfl (by kernel_rfl) (by rfl) (fun K hK => ?_)
       have HT := hid (show TwS x3 z4 x3.heap.size z2.heap.size gB gD gC gW z3.heap.size ng dg nw dw eg ew #[.slice none 0 0, .slice none 0 0] #[.slice none 0 0, .slice none 0 0] t u from ⟨hy4, by have := hzp1.out; have := hz1.out; have := hz2.out; have := hzp2.out; have := hz3.out; have := hz4.out; omega, by have := hzp1.out; have := hz1.out; have := hz2.out; have := hzp2.out; have := hz3.out; have := hz4.out; omega, by have := hzp1.out; have := hz1.out; have := hz2.out; have := hzp2.out; have := hz3.out; have := hz4.out; omega, (hb4.heap (hb3.heap (hbp2.heap (hb2.heap (hb1.heap hqp1))))), (hb4.heap (hb3.heap hqp2)), own_base (((ho1.ev hbp2).ev hb3).ev hb4) (Nat.zero_le _), own_base (((ho2.ev hbp2).ev hb3).ev hb4) (Nat.zero_le _), own_base hu1 (Nat.zero_le _), own_base hu2 (Nat.zero_le _), by have := hzp1.out; have := hz1.out; have := hz2.out; have := hzp2.out; have := hz3.out; have := hz4.out; omega, by have := hzp1.out; have := hz1.out; have := hz2.out; have := hzp2.out; have := hz3.out; have := hz4.out; omega, lC, lW, hCW, by have := hzp1.out; have := hz1.out; have := hz2.out; have := hzp2.out; have := hz3.out; have := hz4.out; omega⟩)
       obtain ⟨u0, u1⟩ := cells2 HT.out.h1
       obtain ⟨v0, v1⟩ := frz2 HT.out.h1
       go_simp
       generalize hX1 : World.setCell (World.setCell z4 _ _) _ _ = X1
       have HT1 := hid (show TwS x3 X1 x3.heap.size z2.heap.size gB gD gC gW z3.heap.size ng dg nw dw eg ew #[.slice (some ⟨gB, 0, none⟩) ng dg, .slice (some ⟨gD, 0, none⟩) nw dw] #[.slice none 0 0, .slice none 0 0] t u from by rw [← hX1]; exact HT.out.set1)
       clear hX1 u0 u1 v0 v1 HT
       refine hK.out _ _ (HSE.out _ HT1.out.ev) (fun hHeld => ?_)
       clear hK K
       (try simp only [Act.put, sA, sB, sC])
       refine wpAnyH_one (i := 17) rfl (by kernel_rfl) (by rfl) (fun K hK => ?_)
       obtain ⟨u0, u1⟩ := cells2 HT1.out.h2
       obtain ⟨v0, v1⟩ := frz2 HT1.out.h2
       go_simp
       generalize hX2 : World.setCell (World.setCell X1 _ _) _ _ = X2
       have HT2 := hid (show TwS x3 X2 x3.heap.size z2.heap.size gB gD gC gW z3.heap.size ng dg nw dw eg ew #[.slice (some ⟨gB, 0, none⟩) ng dg, .slice (some ⟨gD, 0, none⟩) nw dw] #[.slice (some ⟨gC, 0, none⟩) ng eg, .slice (some ⟨gW, 0, none⟩) nw ew] t u from by rw [← hX2]; exact HT1.out.set2)
       clear hX2 u0 u1 v0 v1 HT1
       refine hK.out _ _ (HSE.out _ HT2.out.ev) (fun hHeld => ?_)
       clear hK K
       (try simp only [Act.put, sA, sB, sC])
       refine wpAnyH_done (by kernel_rfl) ?_ _
       go_wp2_with fail
       go_meet
       exact ⟨x3.heap.size, z2.heap.size, gB, gD, gC, gW, dg, dw, eg, ew, z3.heap.size, rfl, rfl, HT2⟩
     ·
      go_simp
      generalize hWp2 : World.alloc z1 _ = Wp2
      have hal := alloc1 z1 (.cells #[.slice none 0 0, .slice none 0 0] 28)
      have hbp2 : Ev z1 Wp2 := by rw [← hWp2]; exact Ev.alloc (Ev.refl _) _
      have hqp2 := hal.1
      rw [hWp2] at hqp2
      have hxp2 : Ev x3 Wp2 := hy1.trans hbp2
      have hzp2 := hid (show Wp2.heap.size = z1.heap.size + 1 from by rw [← hWp2]; exact hal.2)
      clear hal hWp2
      refine hK.out _ _ (HSE.out _ hxp2) (fun hHeld => ?_)
      clear hK K
      (try simp only [Act.put, sA, sB, sC])
      refine wpAnyH_one (i := 6) rfl (by kernel_rfl) (by rfl) (fun K hK => ?_)
      go_simp
      refine (HNT.out _ (hX3.trans hxp2)).mono ?_
      rintro e z2 ⟨⟨Bg, dg, Bw, dw, rfl, ho1, ho2, hapT⟩, hb2⟩
      have hy2 : Ev x3 z2 := Ev.trans hxp2 hb2
      have hz2 := hid (And.intro hb2.size hy2.size)
      obtain ⟨gB, rfl, _, lB, _⟩ := own_some ho1 hng0
      obtain ⟨gD, rfl, _, lD, _⟩ := own_some ho2 hnw0
      refine hK.out _ _ (HSE.out _ hy2) (fun hHeld => ?_)
      clear hK K
      (try simp only [Act.put, sA, sB, sC])
      refine wpAnyH_one (i := 11) rfl (by kernel_rfl) (by rfl) (fun K hK => ?_)
      go_simp
      refine (HMN.out _ (hX3.trans hy2)).mono ?_
      rintro e z3 ⟨rfl, hb3⟩
      have hy3 : Ev x3 z3 := Ev.trans hy2 hb3
      have hz3 := hid (And.intro hb3.size hy3.size)
      refine hK.out _ _ (HSE.out _ hy3) (fun hHeld => ?_)
      clear hK K
      (try simp only [Act.put, sA, sB, sC])
      refine tkH 12 (some 48) ?_
      (try simp only [Act.put, sA, sB, sC])
      refine wpAnyH_one (i := 13) rfl (by kernel_rfl) (by rfl) (fun K hK => ?_)
      go_simp
      refine (HNU.out _ (hX3.trans hy3)).mono ?_
      rintro e z4 ⟨⟨Cg, eg, Cw, ew, rfl, hu1, hu2, hap⟩, hb4⟩
      have hy4 : Ev x3 z4 := Ev.trans hy3 hb4
      have hz4 := hid (And.intro hb4.size hy4.size)
      obtain ⟨gC, rfl, lC, _⟩ := own_some hu1 hng0
      obtain ⟨gW, rfl, lW, _⟩ := own_some hu2 hnw0
      have hCW : gC ≠ gW := fun e => hap gC rfl (by rw [e]; rfl)
      refine hK.out _ _ (HSE.out _ hy4) (fun hHeld => ?_)
      clear hK K
      (try simp only [Act.put, sA, sB, sC])
      refine wpAnyH_one (i := 16) rfl (by kernel_rfl) (by rfl) (fun K hK => ?_)
      have HT := hid (show TwS x3 z4 x3.heap.size z1.heap.size gB gD gC gW z3.heap.size ng dg nw dw eg ew #[.slice none 0 0, .slice none 0 0] #[.slice none 0 0, .slice none 0 0] t u from ⟨hy4, by have := hzp1.out; have := hz1.out; have := hzp2.out; have := hz2.out; have := hz3.out; have := hz4.out; omega, by have := hzp1.out; have := hz1.out; have := hzp2.out; have := hz2.out; have := hz3.out; have := hz4.out; omega, by have := hzp1.out; have := hz1.out; have := hzp2.out; have := hz2.out; have := hz3.out; have := hz4.out; omega, (hb4.heap (hb3.heap (hb2.heap (hbp2.heap (hb1.heap hqp1))))), (hb4.heap (hb3.heap (hb2.heap hqp2))), own_base ((ho1.ev hb3).ev hb4) (Nat.zero_le _), own_base ((ho2.ev hb3).ev hb4) (Nat.zero_le _), own_base hu1 (Nat.zero_le _), own_base hu2 (Nat.zero_le _), by have := hzp1.out; have := hz1.out; have := hzp2.out; have := hz2.out; have := hz3.out; have := hz4.out; omega, by have := hzp1.out; have := hz1.out; have := hzp2.out; have := hz2.out; have := hz3.out; have := hz4.out; omega, lC, lW, hCW, by have := hzp1.out; have := hz1.out; have := hzp2.out; have := hz2.out; have := hz3.out; have := hz4.out; omega⟩)
      obtain ⟨u0, u1⟩ := cells2 HT.out.h1
      obtain ⟨v0, v1⟩ := frz2 HT.out.h1
      go_simp
      generalize hX1 : World.setCell (World.setCell z4 _ _) _ _ = X1
      have HT1 := hid (show TwS x3 X1 x3.heap.size z1.heap.size gB gD gC gW z3.heap.size ng dg nw dw eg ew #[.slice (some ⟨gB, 0, none⟩) ng dg, .slice (some ⟨gD, 0, none⟩) nw dw] #[.slice none 0 0, .slice none 0 0] t u from by rw [← hX1]; exact HT.out.set1)
      clear hX1 u0 u1 v0 v1 HT
      refine hK.out _ _ (HSE.out _ HT1.out.ev) (fun hHeld => ?_)
      clear hK K
      (try simp only [Act.put, sA, sB, sC])
      refine wpAnyH_one (i := 17) rfl (by kernel_rfl) (by rfl) (fun K hK => ?_)
      obtain ⟨u0, u1⟩ := cells2 HT1.out.h2
      obtain ⟨v0, v1⟩ := frz2 HT1.out.h2
      go_simp
      generalize hX2 : World.setCell (World.setCell X1 _ _) _ _ = X2
      have HT2 := hid (show TwS x3 X2 x3.heap.size z1.heap.size gB gD gC gW z3.heap.size ng dg nw dw eg ew #[.slice (some ⟨gB, 0, none⟩) ng dg, .slice (some ⟨gD, 0, none⟩) nw dw] #[.slice (some ⟨gC, 0, none⟩) ng eg, .slice (some ⟨gW, 0, none⟩) nw ew] t u from by rw [← hX2]; exact HT1.out.set2)
      clear hX2 u0 u1 v0 v1 HT1
      refine hK.out _ _ (HSE.out _ HT2.out.ev) (fun hHeld => ?_)
      clear hK K
      (try simp only [Act.put, sA, sB, sC])
      refine wpAnyH_done (by kernel_rfl) ?_ _
      go_wp2_with fail
      go_meet
      exact ⟨x3.heap.size, z1.heap.size, gB, gD, gC, gW, dg, dw, eg, ew, z3.heap.size, rfl, rfl, HT2⟩
    ·
     go_simp
     generalize hWp2 : World.alloc Wp1 _ = Wp2
     have hal := alloc1 Wp1 (.cells #[.slice none 0 0, .slice none 0 0] 28)
     have hbp2 : Ev Wp1 Wp2 := by rw [← hWp2]; exact Ev.alloc (Ev.refl _) _
     have hqp2 := hal.1
     rw [hWp2] at hqp2
     have hxp2 : Ev x3 Wp2 := hxp1.trans hbp2
     have hzp2 := hid (show Wp2.heap.size = Wp1.heap.size + 1 from by rw [← hWp2]; exact hal.2)
     clear hal hWp2
     refine hK.out _ _ (HSE.out _ hxp2) (fun hHeld => ?_)
     clear hK K
     (try simp only [Act.put, sA, sB, sC])
     refine wpAnyH_one (i := 4) rfl (by kernel_rfl) (by rfl) (fun K hK => ?_)
     go_simp
     refine (HMN.out _ (hX3.trans hxp2)).mono ?_
     rintro e z1 ⟨rfl, hb1⟩
     have hy1 : Ev x3 z1 := Ev.trans hxp2 hb1
     have hz1 := hid (And.intro hb1.size hy1.size)
     refine hK.out _ _ (HSE.out _ hy1) (fun hHeld => ?_)
     clear hK K
     (try simp only [Act.put, sA, sB, sC])
     refine tkH 5 (some 41) ?_
     (try simp only [Act.put, sA, sB, sC])
     refine wpAnyH_one (i := 6) rfl (by kernel_rfl) (by rfl) (fun K hK => ?_)
     go_simp
     refine (HNT.out _ (hX3.trans hy1)).mono ?_
     rintro e z2 ⟨⟨Bg, dg, Bw, dw, rfl, ho1, ho2, hapT⟩, hb2⟩
     have hy2 : Ev x3 z2 := Ev.trans hy1 hb2
     have hz2 := hid (And.intro hb2.size hy2.size)
     obtain ⟨gB, rfl, _, lB, _⟩ := own_some ho1 hng0
     obtain ⟨gD, rfl, _, lD, _⟩ := own_some ho2 hnw0
     refine hK.out _ _ (HSE.out _ hy2) (fun hHeld => ?_)
     clear hK K
     (try simp only [Act.put, sA, sB, sC])
     refine wpAnyH_one (i := 11) rfl (by kernel_rfl) (by rfl) (fun K hK => ?_)
     go_simp
     refine (HMN.out _ (hX3.trans hy2)).mono ?_
     rintro e z3 ⟨rfl, hb3⟩
     have hy3 : Ev x3 z3 := Ev.trans hy2 hb3
     have hz3 := hid (And.intro hb3.size hy3.size)
     refine hK.out _ _ (HSE.out _ hy3) (fun hHeld => ?_)
     clear hK K
     (try simp only [Act.put, sA, sB, sC])
     refine tkH 12 (some 48) ?_
     (try simp only [Act.put, sA, sB, sC])
     refine wpAnyH_one (i := 13) rfl (by kernel_rfl) (by rfl) (fun K hK => ?_)
     go_simp
     refine (HNU.out _ (hX3.trans hy3)).mono ?_
     rintro e z4 ⟨⟨Cg, eg, Cw, ew, rfl, hu1, hu2, hap⟩, hb4⟩
     have hy4 : Ev x3 z4 := Ev.trans hy3 hb4
     have hz4 := hid (And.intro hb4.size hy4.size)
     obtain ⟨gC, rfl, lC, _⟩ := own_some hu1 hng0
     obtain ⟨gW, rfl, lW, _⟩ := own_some hu2 hnw0
     have hCW : gC ≠ gW := fun e => hap gC rfl (by rw [e]; rfl)
     refine hK.out _ _ (HSE.out _ hy4) (fun hHeld => ?_)
     clear hK K
     (try simp only [Act.put, sA, sB, sC])
     refine wpAnyH_one (i := 16) rfl (by kernel_rfl) (by rfl) (fun K hK => ?_)
     have HT := hid (show TwS x3 z4 x3.heap.size Wp1.heap.size gB gD gC gW z3.heap.size ng dg nw dw eg ew #[.slice none 0 0, .slice none 0 0] #[.slice none 0 0, .slice none 0 0] t u from ⟨hy4, by have := hzp1.out; have := hzp2.out; have := hz1.out; have := hz2.out; have := hz3.out; have := hz4.out; omega, by have := hzp1.out; have := hzp2.out; have := hz1.out; have := hz2.out; have := hz3.out; have := hz4.out; omega, by have := hzp1.out; have := hzp2.out; have := hz1.out; have := hz2.out; have := hz3.out; have := hz4.out; omega, (hb4.heap (hb3.heap (hb2.heap (hb1.heap (hbp2.heap hqp1))))), (hb4.heap (hb3.heap (hb2.heap (hb1.heap hqp2)))), own_base ((ho1.ev hb3).ev hb4) (Nat.zero_le _), own_base ((ho2.ev hb3).ev hb4) (Nat.zero_le _), own_base hu1 (Nat.zero_le _), own_base hu2 (Nat.zero_le _), by have := hzp1.out; have := hzp2.out; have := hz1.out; have := hz2.out; have := hz3.out; have := hz4.out; omega, by have := hzp1.out; have := hzp2.out; have := hz1.out; have := hz2.out; have := hz3.out; have := hz4.out; omega, lC, lW, hCW, by have := hzp1.out; have := hzp2.out; have := hz1.out; have := hz2.out; have := hz3.out; have := hz4.out; omega⟩)
     obtain ⟨u0, u1⟩ := cells2 HT.out.h1
     obtain ⟨v0, v1⟩ := frz2 HT.out.h1
     go_simp
     generalize hX1 : World.setCell (World.setCell z4 _ _) _ _ = X1
     have HT1 := hid (show TwS x3 X1 x3.heap.size Wp1.heap.size gB gD gC gW z3.heap.size ng dg nw dw eg ew #[.slice (some ⟨gB, 0, none⟩) ng dg, .slice (some ⟨gD, 0, none⟩) nw dw] #[.slice none 0 0, .slice none 0 0] t u from by rw [← hX1]; exact HT.out.set1)
     clear hX1 u0 u1 v0 v1 HT
     refine hK.out _ _ (HSE.out _ HT1.out.ev) (fun hHeld => ?_)
     clear hK K
     (try simp only [Act.put, sA, sB, sC])
     refine wpAnyH_one (i := 17) rfl (by kernel_rfl) (by rfl) (fun K hK => ?_)
     obtain ⟨u0, u1⟩ := cells2 HT1.out.h2
     obtain ⟨v0, v1⟩ := frz2 HT1.out.h2
     go_simp
     generalize hX2 : World.setCell (World.setCell X1 _ _) _ _ = X2
     have HT2 := hid (show TwS x3 X2 x3.heap.size Wp1.heap.size gB gD gC gW z3.heap.size ng dg nw dw eg ew #[.slice (some ⟨gB, 0, none⟩) ng dg, .slice (some ⟨gD, 0, none⟩) nw dw] #[.slice (some ⟨gC, 0, none⟩) ng eg, .slice (some ⟨gW, 0, none⟩) nw ew] t u from by rw [← hX2]; exact HT1.out.set2)
     clear hX2 u0 u1 v0 v1 HT1
     refine hK.out _ _ (HSE.out _ HT2.out.ev) (fun hHeld => ?_)
     clear hK K
     (try simp only [Act.put, sA, sB, sC])
     refine wpAnyH_done (by kernel_rfl) ?_ _
     go_wp2_with fail
     go_meet
     exact ⟨x3.heap.size, Wp1.heap.size, gB, gD, gC, gW, dg, dw, eg, ew, z3.heap.size, rfl, rfl, HT2⟩
   ·
    go_simp
    generalize hWp2 : World.drew (World.alloc x3 _) = Wp2
    have hal := alloc1 x3 (.cells #[.slice none 0 0, .slice none 0 0] 28)
    have hbp2 : Ev x3 Wp2 := by rw [← hWp2]; exact Ev.drew (Ev.alloc (Ev.refl _) _)
    have hqp2 := (show Ev (World.alloc x3 (.cells #[.slice none 0 0, .slice none 0 0] 28)) Wp2 from by rw [← hWp2]; exact Ev.drew (Ev.refl _)).heap hal.1
    have hxp2 : Ev x3 Wp2 := hbp2
    have hzp2 := hid (show Wp2.heap.size = x3.heap.size + 1 from by rw [← hWp2]; exact hal.2)
    clear hal hWp2
    refine hK.out _ _ (HSE.out _ hxp2) (fun hHeld => ?_)
    clear hK K
    (try simp only [Act.put, sA, sB, sC])
    refine wpAnyH_ready (rs := [4, 14]) (by kernel_rfl) (by simp) ?_
    refine AllReadyH.cons rfl (fun K hK => ?_) (AllReadyH.cons rfl (fun K hK => ?_) (AllReadyH.nil))
    ·
     go_simp
     refine (HMN.out _ (hX3.trans hxp2)).mono ?_
     rintro e z1 ⟨rfl, hb1⟩
     have hy1 : Ev x3 z1 := Ev.trans hxp2 hb1
     have hz1 := hid (And.intro hb1.size hy1.size)
     refine hK.out _ _ (HSE.out _ hy1) (fun hHeld => ?_)
     clear hK K
     (try simp only [Act.put, sA, sB, sC])
     refine tkH 5 (some 41) ?_
     (try simp only [Act.put, sA, sB, sC])
     refine wpAnyH_ready (rs := [6, 14]) (by kernel_rfl) (by simp) ?_
     refine AllReadyH.cons rfl (fun K hK => ?_) (AllReadyH.cons rfl (fun K hK => ?_) (AllReadyH.nil))
     ·
      go_simp
      refine (HNT.out _ (hX3.trans hy1)).mono ?_
      rintro e z2 ⟨⟨Bg, dg, Bw, dw, rfl, ho1, ho2, hapT⟩, hb2⟩
      have hy2 : Ev x3 z2 := Ev.trans hy1 hb2
      have hz2 := hid (And.intro hb2.size hy2.size)
      obtain ⟨gB, rfl, _, lB, _⟩ := own_some ho1 hng0
      obtain ⟨gD, rfl, _, lD, _⟩ := own_some ho2 hnw0
      refine hK.out _ _ (HSE.out _ hy2) (fun hHeld => ?_)
      clear hK K
      (try simp only [Act.put, sA, sB, sC])
      refine wpAnyH_ready (rs := [11, 14]) (by kernel_rfl) (by simp) ?_
      refine AllReadyH.cons rfl (fun K hK => ?_) (AllReadyH.cons rfl (fun K hK => ?_) (AllReadyH.nil))
      ·
       go_simp
       refine (HMN.out _ (hX3.trans hy2)).mono ?_
       rintro e z3 ⟨rfl, hb3⟩
       have hy3 : Ev x3 z3 := Ev.trans hy2 hb3
       have hz3 := hid (And.intro hb3.size hy3.size)
       refine hK.out _ _ (HSE.out _ hy3) (fun hHeld => ?_)
       clear hK K
       (try simp only [Act.put, sA, sB, sC])
       refine tkH 12 (some 48) ?_
       (try simp only [Act.put, sA, sB, sC])
       refine wpAnyH_ready (rs := [13, 14]) (by kernel_rfl) (by simp) ?_
       refine AllReadyH.cons rfl (fun K hK => ?_) (AllReadyH.cons rfl (fun K hK => ?_) (AllReadyH.nil))
       ·
        go_simp
        refine (HNU.out _ (hX3.trans hy3)).mono ?_
        rintro e z4 ⟨⟨Cg, eg, Cw, ew, rfl, hu1, hu2, hap⟩, hb4⟩
        have hy4 : Ev x3 z4 := Ev.trans hy3 hb4
        have hz4 := hid (And.intro hb4.size hy4.size)
        obtain ⟨gC, rfl, lC, _⟩ := own_some hu1 hng0
        obtain ⟨gW, rfl, lW, _⟩ := own_some hu2 hnw0
        have hCW : gC ≠ gW := fun e => hap gC rfl (by rw [e]; rfl)
        refine hK.out _ _ (HSE.out _ hy4) (fun hHeld => ?_)
        clear hK K
        (try simp only [Act.put, sA, sB, sC])
        refine wpAnyH_one (i := 14) rfl (by kernel_rfl) (by rfl) (fun K hK => ?_)
        go_simp
        generalize hWp1 : World.alloc z4 _ = Wp1
        have hal := alloc1 z4 (.cells #[.slice none 0 0, .slice none 0 0] 28)
        have hbp1 : Ev z4 Wp1 := by rw [← hWp1]; exact Ev.alloc (Ev.refl _) _
        have hqp1 := hal.1
        rw [hWp1] at hqp1
        have hxp1 : Ev x3 Wp1 := hy4.trans hbp1
        have hzp1 := hid (show Wp1.heap.size = z4.heap.size + 1 from by rw [← hWp1]; exact hal.2)
        clear hal hWp1
        refine hK.out _ _ (HSE.out _ hxp1) (fun hHeld => ?_)
        clear hK K
        (try simp only [Act.put, sA, sB, sC])
        refine wpAnyH_one (i := 16) rfl (by kernel_rfl) (by rfl) (fun K hK => ?_)
        have HT := hid (show TwS x3 Wp1 z4.heap.size x3.heap.size gB gD gC gW z3.heap.size ng dg nw dw eg ew #[.slice none 0 0, .slice none 0 0] #[.slice none 0 0, .slice none 0 0] t u from ⟨hxp1, by have := hzp2.out; have := hz1.out; have := hz2.out; have := hz3.out; have := hz4.out; have := hzp1.out; omega, by have := hzp2.out; have := hz1.out; have := hz2.out; have := hz3.out; have := hz4.out; have := hzp1.out; omega, by have := hzp2.out; have := hz1.out; have := hz2.out; have := hz3.out; have := hz4.out; have := hzp1.out; omega, hqp1, (hbp1.heap (hb4.heap (hb3.heap (hb2.heap (hb1.heap hqp2))))), own_base (((ho1.ev hb3).ev hb4).ev hbp1) (Nat.zero_le _), own_base (((ho2.ev hb3).ev hb4).ev hbp1) (Nat.zero_le _), own_base (hu1.ev hbp1) (Nat.zero_le _), own_base (hu2.ev hbp1) (Nat.zero_le _), by have := hzp2.out; have := hz1.out; have := hz2.out; have := hz3.out; have := hz4.out; have := hzp1.out; omega, by have := hzp2.out; have := hz1.out; have := hz2.out; have := hz3.out; have := hz4.out; have := hzp1.out; omega, lC, lW, hCW, by have := hzp2.out; have := hz1.out; have := hz2.out; have := hz3.out; have := hz4.out; have := hzp1.out; omega⟩)
        obtain ⟨u0, u1⟩ := cells2 HT.out.h1
        obtain ⟨v0, v1⟩ := frz2 HT.out.h1
        go_simp
        generalize hX1 : World.setCell (World.setCell Wp1 _ _) _ _ = X1
        have HT1 := hid (show TwS x3 X1 z4.heap.size x3.heap.size gB gD gC gW z3.heap.size ng dg nw dw eg ew #[.slice (some ⟨gB, 0, none⟩) ng dg, .slice (some ⟨gD, 0, none⟩) nw dw] #[.slice none 0 0, .slice none 0 0] t u from by rw [← hX1]; exact HT.out.set1)
        clear hX1 u0 u1 v0 v1 HT
        refine hK.out _ _ (HSE.out _ HT1.out.ev) (fun hHeld => ?_)
        clear hK K
        (try simp only [Act.put, sA, sB, sC])
        refine wpAnyH_one (i := 17) rfl (by kernel_rfl) (by rfl) (fun K hK => ?_)
        obtain ⟨u0, u1⟩ := cells2 HT1.out.h2
        obtain ⟨v0, v1⟩ := frz2 HT1.out.h2
        go_simp
        generalize hX2 : World.setCell (World.setCell X1 _ _) _ _ = X2
        have HT2 := hid (show TwS x3 X2 z4.heap.size x3.heap.size gB gD gC gW z3.heap.size ng dg nw dw eg ew #[.slice (some ⟨gB, 0, none⟩) ng dg, .slice (some ⟨gD, 0, none⟩) nw dw] #[.slice (some ⟨gC, 0, none⟩) ng eg, .slice (some ⟨gW, 0, none⟩) nw ew] t u from by rw [← hX2]; exact HT1.out.set2)
        clear hX2 u0 u1 v0 v1 HT1
        refine hK.out _ _ (HSE.out _ HT2.out.ev) (fun hHeld => ?_)
        clear hK K
        (try simp only [Act.put, sA, sB, sC])
        refine wpAnyH_done (by kernel_rfl) ?_ _
        go_wp2_with fail
        go_meet
        exact ⟨z4.heap.size, x3.heap.size, gB, gD, gC, gW, dg, dw, eg, ew, z3.heap.size, rfl, rfl, HT2⟩
       ·
        go_simp
        generalize hWp1 : World.alloc z3 _ = Wp1
        have hal := alloc1 z3 (.cells #[.slice none 0 0, .slice none 0 0] 28)
        have hbp1 : Ev z3 Wp1 := by rw [← hWp1]; exact Ev.alloc (Ev.refl _) _
        have hqp1 := hal.1
        rw [hWp1] at hqp1
        have hxp1 : Ev x3 Wp1 := hy3.trans hbp1
        have hzp1 := hid (show Wp1.heap.size = z3.heap.size + 1 from by rw [← hWp1]; exact hal.2)
        clear hal hWp1
        refine hK.out _ _ (HSE.out _ hxp1) (fun hHeld => ?_)
        clear hK K
        (try simp only [Act.put, sA, sB, sC])
        refine wpAnyH_one (i := 13) rfl (by kernel_rfl) (by rfl) (fun K hK => ?_)
        go_simp
        refine (HNU.out _ (hX3.trans hxp1)).mono ?_
        rintro e z4 ⟨⟨Cg, eg, Cw, ew, rfl, hu1, hu2, hap⟩, hb4⟩
        have hy4 : Ev x3 z4 := Ev.trans hxp1 hb4
        have hz4 := hid (And.intro hb4.size hy4.size)
        obtain ⟨gC, rfl, lC, _⟩ := own_some hu1 hng0
        obtain ⟨gW, rfl, lW, _⟩ := own_some hu2 hnw0
        have hCW : gC ≠ gW := fun e => hap gC rfl (by rw [e]; rfl)
        refine hK.out _ _ (HSE.out _ hy4) (fun hHeld => ?_)
        clear hK K
        (try simp only [Act.put, sA, sB, sC])
        refine wpAnyH_one (i := 16) rfl (by kernel_rfl) (by rfl) (fun K hK => ?_)
        have HT := hid (show TwS x3 z4 z3.heap.size x3.heap.size gB gD gC gW Wp1.heap.size ng dg nw dw eg ew #[.slice none 0 0, .slice none 0 0] #[.slice none 0 0, .slice none 0 0] t u from ⟨hy4, by have := hzp2.out; have := hz1.out; have := hz2.out; have := hz3.out; have := hzp1.out; have := hz4.out; omega, by have := hzp2.out; have := hz1.out; have := hz2.out; have := hz3.out; have := hzp1.out; have := hz4.out; omega, by have := hzp2.out; have := hz1.out; have := hz2.out; have := hz3.out; have := hzp1.out; have := hz4.out; omega, (hb4.heap hqp1), (hb4.heap (hbp1.heap (hb3.heap (hb2.heap (hb1.heap hqp2))))), own_base (((ho1.ev hb3).ev hbp1).ev hb4) (Nat.zero_le _), own_base (((ho2.ev hb3).ev hbp1).ev hb4) (Nat.zero_le _), own_base hu1 (Nat.zero_le _), own_base hu2 (Nat.zero_le _), by have := hzp2.out; have := hz1.out; have := hz2.out; have := hz3.out; have := hzp1.out; have := hz4.out; omega, by have := hzp2.out; have := hz1.out; have := hz2.out; have := hz3.out; have := hzp1.out; have := hz4.out; omega, lC, lW, hCW, by have := hzp2.out; have := hz1.out; have := hz2.out; have := hz3.out; have := hzp1.out; have := hz4.out; omega⟩)
        obtain ⟨u0, u1⟩ := cells2 HT.out.h1
        obtain ⟨v0, v1⟩ := frz2 HT.out.h1
        go_simp
        generalize hX1 : World.setCell (World.setCell z4 _ _) _ _ = X1
        have HT1 := hid (show TwS x3 X1 z3.heap.size x3.heap.size gB gD gC gW Wp1.heap.size ng dg nw dw eg ew #[.slice (some ⟨gB, 0, none⟩) ng dg, .slice (some ⟨gD, 0, none⟩) nw dw] #[.slice none 0 0, .slice none 0 0] t u from by rw [← hX1]; exact HT.out.set1)
        clear hX1 u0 u1 v0 v1 HT
        refine hK.out _ _ (HSE.out _ HT1.out.ev) (fun hHeld => ?_)
        clear hK K
        (try simp only [Act.put, sA, sB, sC])
        refine wpAnyH_one (i := 17) rfl (by kernel_rfl) (by rfl) (fun K hK => ?_)
        obtain ⟨u0, u1⟩ := cells2 HT1.out.h2
        obtain ⟨v0, v1⟩ := frz2 HT1.out.h2
        go_simp
        generalize hX2 : World.setCell (World.setCell X1 _ _) _ _ = X2
        have HT2 := hid (show TwS x3 X2 z3.heap.size x3.heap.size gB gD gC gW Wp1.heap.size ng dg nw dw eg ew #[.slice (some ⟨gB, 0, none⟩) ng dg, .slice (some ⟨gD, 0, none⟩) nw dw] #[.slice (some ⟨gC, 0, none⟩) ng eg, .slice (some ⟨gW, 0, none⟩) nw ew] t u from by rw [← hX2]; exact HT1.out.set2)
        clear hX2 u0 u1 v0 v1 HT1
        refine hK.out _ _ (HSE.out _ HT2.out.ev) (fun hHeld => ?_)
        clear hK K
        (try simp only [Act.put, sA, sB, sC])
        refine wpAnyH_done (by kernel_rfl) ?_ _
        go_wp2_with fail
        go_meet
        exact ⟨z3.heap.size, x3.heap.size, gB, gD, gC, gW, dg, dw, eg, ew, Wp1.heap.size, rfl, rfl, HT2⟩
      ·
       go_simp
       generalize hWp1 : World.alloc z2 _ = Wp1
       have hal := alloc1 z2 (.cells #[.slice none 0 0, .slice none 0 0] 28)
       have hbp1 : Ev z2 Wp1 := by rw [← hWp1]; exact Ev.alloc (Ev.refl _) _
       have hqp1 := hal.1
       rw [hWp1] at hqp1
       have hxp1 : Ev x3 Wp1 := hy2.trans hbp1
       have hzp1 := hid (show Wp1.heap.size = z2.heap.size + 1 from by rw [← hWp1]; exact hal.2)
       clear hal hWp1
       refine hK.out _ _ (HSE.out _ hxp1) (fun hHeld => ?_)
       clear hK K
       (try simp only [Act.put, sA, sB, sC])
       refine wpAnyH_one (i := 11) rfl (by kernel_rfl) (by rfl) (fun K hK => ?_)
       go_simp
       refine (HMN.out _ (hX3.trans hxp1)).mono ?_
       rintro e z3 ⟨rfl, hb3⟩
       have hy3 : Ev x3 z3 := Ev.trans hxp1 hb3
       have hz3 := hid (And.intro hb3.size hy3.size)
       refine hK.out _ _ (HSE.out _ hy3) (fun hHeld => ?_)
       clear hK K
       (try simp only [Act.put, sA, sB, sC])
       refine tkH 12 (some 48) ?_
       (try simp only [Act.put, sA, sB, sC])
       refine wpAnyH_one (i := 13) rfl (by kernel_rfl) (by rfl) (fun K hK => ?_)
       go_simp
       refine (HNU.out _ (hX3.trans hy3)).mono ?_
       rintro e z4 ⟨⟨Cg, eg, Cw, ew, rfl, hu1, hu2, hap⟩, hb4⟩
       have hy4 : Ev x3 z4 := Ev.trans hy3 hb4
       have hz4 := hid (And.intro hb4.size hy4.size)
       obtain ⟨gC, rfl, lC, _⟩ := own_some hu1 hng0
       obtain ⟨gW, rfl, lW, _⟩ := own_some hu2 hnw0
       have hCW : gC ≠ gW := fun e => hap gC rfl (by rw [e]; rfl)
       refine hK.out _ _ (HSE.out _ hy4) (fun hHeld => ?_)
       clear hK K
       (try simp only [Act.put, sA, sB, sC])
       refine wpAnyH_one (i := 16) rfl (by kernel_rfl) (by rfl) (fun K hK => ?_)
       have HT := hid (show TwS x3 z4 z2.heap.size x3.heap.size gB gD gC gW z3.heap.size ng dg nw dw eg ew #[.slice none 0 0, .slice none 0 0] #[.slice none 0 0, .slice none 0 0] t u from ⟨hy4, by have := hzp2.out; have := hz1.out; have := hz2.out; have := hzp1.out; have := hz3.out; have := hz4.out; omega, by have := hzp2.out; have := hz1.out; have := hz2.out; have := hzp1.out; have := hz3.out; have := hz4.out; omega, by have := hzp2.out; have := hz1.out; have := hz2.out; have := hzp1.out; have := hz3.out; have := hz4.out; omega, (hb4.heap (hb3.heap hqp1)), (hb4.heap (hb3.heap (hbp1.heap (hb2.heap (hb1.heap hqp2))))), own_base (((ho1.ev hbp1).ev hb3).ev hb4) (Nat.zero_le _), own_base (((ho2.ev hbp1).ev hb3).ev hb4) (Nat.zero_le _), own_base hu1 (Nat.zero_le _), own_base hu2 (Nat.zero_le _), by have := hzp2.out; have := hz1.out; have := hz2.out; have := hzp1.out; have := hz3.out; have := hz4.out; omega, by have := hzp2.out; have := hz1.out; have := hz2.out; have := hzp1.out; have := hz3.out; have := hz4.out; omega, lC, lW, hCW, by have := hzp2.out; have := hz1.out; have := hz2.out; have := hzp1.out; have := hz3.out; have := hz4.out; omega⟩)
       obtain ⟨u0, u1⟩ := cells2 HT.out.h1
       obtain ⟨v0, v1⟩ := frz2 HT.out.h1
       go_simp
       generalize hX1 : World.setCell (World.setCell z4 _ _) _ _ = X1
       have HT1 := hid (show TwS x3 X1 z2.heap.size x3.heap.size gB gD gC gW z3.heap.size ng dg nw dw eg ew #[.slice (some ⟨gB, 0, none⟩) ng dg, .slice (some ⟨gD, 0, none⟩) nw dw] #[.slice none 0 0, .slice none 0 0] t u from by rw [← hX1]; exact HT.out.set1)
       clear hX1 u0 u1 v0 v1 HT
       refine hK.out _ _ (HSE.out _ HT1.out.ev) (fun hHeld => ?_)
       clear hK K
       (try simp only [Act.put, sA, sB, sC])
       refine wpAnyH_one (i := 17) rfl (by kernel_rfl) (by rfl) (fun K hK => ?_)
       obtain ⟨u0, u1⟩ := cells2 HT1.out.h2
       obtain ⟨v0, v1⟩ := frz2 HT1.out.h2
       go_simp
       generalize hX2 : World.setCell (World.setCell X1 _ _) _ _ = X2
       have HT2 := hid (show TwS x3 X2 z2.heap.size x3.heap.size gB gD gC gW z3.heap.size ng dg nw dw eg ew #[.slice (some ⟨gB, 0, none⟩) ng dg, .slice (some ⟨gD, 0, none⟩) nw dw] #[.slice (some ⟨gC, 0, none⟩) ng eg, .slice (some ⟨gW, 0, none⟩) nw ew] t u from by rw [← hX2]; exact HT1.out.set2)
       clear hX2 u0 u1 v0 v1 HT1
       refine hK.out _ _ (HSE.out _ HT2.out.ev) (fun hHeld => ?_)
       clear hK K
       (try simp only [Act.put, sA, sB, sC])
       refine wpAnyH_done (by kernel_rfl) ?_ _
       go_wp2_with fail
       go_meet
       exact ⟨z2.heap.size, x3.heap.size, gB, gD, gC, gW, dg, dw, eg, ew, z3.heap.size, rfl, rfl, HT2⟩
     ·
      go_simp
      generalize hWp1 : World.alloc z1 _ = Wp1
      have hal := alloc1 z1 (.cells #[.slice none 0 0, .slice none 0 0] 28)
      have hbp1 : Ev z1 Wp1 := by rw [← hWp1]; exact Ev.alloc (Ev.refl _) _
      have hqp1 := hal.1
      rw [hWp1] at hqp1
      have hxp1 : Ev x3 Wp1 := hy1.trans hbp1
      have hzp1 := hid (show Wp1.heap.size = z1.heap.size + 1 from by rw [← hWp1]; exact hal.2)
      clear hal hWp1
      refine hK.out _ _ (HSE.out _ hxp1) (fun hHeld => ?_)
      clear hK K
      (try simp only [Act.put, sA, sB, sC])
      refine wpAnyH_one (i := 6) rfl (by kernel_rfl) (by rfl) (fun K hK => ?_)
      go_simp
      refine (HNT.out _ (hX3.trans hxp1)).mono ?_
      rintro e z2 ⟨⟨Bg, dg, Bw, dw, rfl, ho1, ho2, hapT⟩, hb2⟩
      have hy2 : Ev x3 z2 := Ev.trans hxp1 hb2
      have hz2 := hid (And.intro hb2.size hy2.size)
      obtain ⟨gB, rfl, _, lB, _⟩ := own_some ho1 hng0
      obtain ⟨gD, rfl, _, lD, _⟩ := own_some ho2 hnw0
      refine hK.out _ _ (HSE.out _ hy2) (fun hHeld => ?_)
      clear hK K
      (try simp only [Act.put, sA, sB, sC])
      refine wpAnyH_one (i := 11) rfl (by kernel_rfl) (by rfl) (fun K hK => ?_)
      go_simp
      refine (HMN.out _ (hX3.trans hy2)).mono ?_
      rintro e z3 ⟨rfl, hb3⟩
      have hy3 : Ev x3 z3 := Ev.trans hy2 hb3
      have hz3 := hid (And.intro hb3.size hy3.size)
      refine hK.out _ _ (HSE.out _ hy3) (fun hHeld => ?_)
      clear hK K
      (try simp only [Act.put, sA, sB, sC])
      refine tkH 12 (some 48) ?_
      (try simp only [Act.put, sA, sB, sC])
      refine wpAnyH_one (i := 13) rfl (by kernel_rfl) (by rfl) (fun K hK => ?_)
      go_simp
      refine (HNU.out _ (hX3.trans hy3)).mono ?_
      rintro e z4 ⟨⟨Cg, eg, Cw, ew, rfl, hu1, hu2, hap⟩, hb4⟩
      have hy4 : Ev x3 z4 := Ev.trans hy3 hb4
      have hz4 := hid (And.intro hb4.size hy4.size)
      obtain ⟨gC, rfl, lC, _⟩ := own_some hu1 hng0
      obtain ⟨gW, rfl, lW, _⟩ := own_some hu2 hnw0
      have hCW : gC ≠ gW := fun e => hap gC rfl (by rw [e]; rfl)
      refine hK.out _ _ (HSE.out _ hy4) (fun hHeld => ?_)
      clear hK K
      (try simp only [Act.put, sA, sB, sC])
      refine wpAnyH_one (i := 16) rfl (by kernel_rfl) (by rfl) (fun K hK => ?_)
      have HT := hid (show TwS x3 z4 z1.heap.size x3.heap.size gB gD gC gW z3.heap.size ng dg nw dw eg ew #[.slice none 0 0, .slice none 0 0] #[.slice none 0 0, .slice none 0 0] t u from ⟨hy4, by have := hzp2.out; have := hz1.out; have := hzp1.out; have := hz2.out; have := hz3.out; have := hz4.out; omega, by have := hzp2.out; have := hz1.out; have := hzp1.out; have := hz2.out; have := hz3.out; have := hz4.out; omega, by have := hzp2.out; have := hz1.out; have := hzp1.out; have := hz2.out; have := hz3.out; have := hz4.out; omega, (hb4.heap (hb3.heap (hb2.heap hqp1))), (hb4.heap (hb3.heap (hb2.heap (hbp1.heap (hb1.heap hqp2))))), own_base ((ho1.ev hb3).ev hb4) (Nat.zero_le _), own_base ((ho2.ev hb3).ev hb4) (Nat.zero_le _), own_base hu1 (Nat.zero_le _), own_base hu2 (Nat.zero_le _), by have := hzp2.out; have := hz1.out; have := hzp1.out; have := hz2.out; have := hz3.out; have := hz4.out; omega, by have := hzp2.out; have := hz1.out; have := hzp1.out; have := hz2.out; have := hz3.out; have := hz4.out; omega, lC, lW, hCW, by have := hzp2.out; have := hz1.out; have := hzp1.out; have := hz2.out; have := hz3.out; have := hz4.out; omega⟩)
      obtain ⟨u0, u1⟩ := cells2 HT.out.h1
      obtain ⟨v0, v1⟩ := frz2 HT.out.h1
      go_simp
      generalize hX1 : World.setCell (World.setCell z4 _ _) _ _ = X1
      have HT1 := hid (show TwS x3 X1 z1.heap.size x3.heap.size gB gD gC gW z3.heap.size ng dg nw dw eg ew #[.slice (some ⟨gB, 0, none⟩) ng dg, .slice (some ⟨gD, 0, none⟩) nw dw] #[.slice none 0 0, .slice none 0 0] t u from by rw [← hX1]; exact HT.out.set1)
      clear hX1 u0 u1 v0 v1 HT
      refine hK.out _ _ (HSE.out _ HT1.out.ev) (fun hHeld => ?_)
      clear hK K
      (try simp only [Act.put, sA, sB, sC])
      refine wpAnyH_one (i := 17) rfl (by kernel_rfl) (by rfl) (fun K hK => ?_)
      obtain ⟨u0, u1⟩ := cells2 HT1.out.h2
      obtain ⟨v0, v1⟩ := frz2 HT1.out.h2
      go_simp
      generalize hX2 : World.setCell (World.setCell X1 _ _) _ _ = X2
      have HT2 := hid (show TwS x3 X2 z1.heap.size x3.heap.size gB gD gC gW z3.heap.size ng dg nw dw eg ew #[.slice (some ⟨gB, 0, none⟩) ng dg, .slice (some ⟨gD, 0, none⟩) nw dw] #[.slice (some ⟨gC, 0, none⟩) ng eg, .slice (some ⟨gW, 0, none⟩) nw ew] t u from by rw [← hX2]; exact HT1.out.set2)
      clear hX2 u0 u1 v0 v1 HT1
      refine hK.out _ _ (HSE.out _ HT2.out.ev) (fun hHeld => ?_)
      clear hK K
      (try simp only [Act.put, sA, sB, sC])
      refine wpAnyH_done (by kernel_rfl) ?_ _
      go_wp2_with fail
      go_meet
      exact ⟨z1.heap.size, x3.heap.size, gB, gD, gC, gW, dg, dw, eg, ew, z3.heap.size, rfl, rfl, HT2⟩
    ·
     go_simp
     generalize hWp1 : World.alloc Wp2 _ = Wp1
     have hal := alloc1 Wp2 (.cells #[.slice none 0 0, .slice none 0 0] 28)
     have hbp1 : Ev Wp2 Wp1 := by rw [← hWp1]; exact Ev.alloc (Ev.refl _) _
     have hqp1 := hal.1
     rw [hWp1] at hqp1
     have hxp1 : Ev x3 Wp1 := hxp2.trans hbp1
     have hzp1 := hid (show Wp1.heap.size = Wp2.heap.size + 1 from by rw [← hWp1]; exact hal.2)
     clear hal hWp1
     refine hK.out _ _ (HSE.out _ hxp1) (fun hHeld => ?_)
     clear hK K
     (try simp only [Act.put, sA, sB, sC])
     refine wpAnyH_one (i := 4) rfl (by kernel_rfl) (by rfl) (fun K hK => ?_)
     go_simp
     refine (HMN.out _ (hX3.trans hxp1)).mono ?_
     rintro e z1 ⟨rfl, hb1⟩
     have hy1 : Ev x3 z1 := Ev.trans hxp1 hb1
     have hz1 := hid (And.intro hb1.size hy1.size)
     refine hK.out _ _ (HSE.out _ hy1) (fun hHeld => ?_)
     clear hK K
     (try simp only [Act.put, sA, sB, sC])
     refine tkH 5 (some 41) ?_
     (try simp only [Act.put, sA, sB, sC])
     refine wpAnyH_one (i := 6) rfl (by kernel_rfl) (by rfl) (fun K hK => ?_)
     go_simp
     refine (HNT.out _ (hX3.trans hy1)).mono ?_
     rintro e z2 ⟨⟨Bg, dg, Bw, dw, rfl, ho1, ho2, hapT⟩, hb2⟩
     have hy2 : Ev x3 z2 := Ev.trans hy1 hb2
     have hz2 := hid (And.intro hb2.size hy2.size)
     obtain ⟨gB, rfl, _, lB, _⟩ := own_some ho1 hng0
     obtain ⟨gD, rfl, _, lD, _⟩ := own_some ho2 hnw0
     refine hK.out _ _ (HSE.out _ hy2) (fun hHeld => ?_)
     clear hK K
     (try simp only [Act.put, sA, sB, sC])
     refine wpAnyH_one (i := 11) rfl (by kernel_rfl) (by rfl) (fun K hK => ?_)
     go_simp
     refine (HMN.out _ (hX3.trans hy2)).mono ?_
     rintro e z3 ⟨rfl, hb3⟩
     have hy3 : Ev x3 z3 := Ev.trans hy2 hb3
     have hz3 := hid (And.intro hb3.size hy3.size)
     refine hK.out _ _ (HSE.out _ hy3) (fun hHeld => ?_)
     clear hK K
     (try simp only [Act.put, sA, sB, sC])
     refine tkH 12 (some 48) ?_
     (try simp only [Act.put, sA, sB, sC])
     refine wpAnyH_one (i := 13) rfl (by kernel_rfl) (by rfl) (fun K hK => ?_)
     go_simp
     refine (HNU.out _ (hX3.trans hy3)).mono ?_
     rintro e z4 ⟨⟨Cg, eg, Cw, ew, rfl, hu1, hu2, hap⟩, hb4⟩
     have hy4 : Ev x3 z4 := Ev.trans hy3 hb4
     have hz4 := hid (And.intro hb4.size hy4.size)
     obtain ⟨gC, rfl, lC, _⟩ := own_some hu1 hng0
     obtain ⟨gW, rfl, lW, _⟩ := own_some hu2 hnw0
     have hCW : gC ≠ gW := fun e => hap gC rfl (by rw [e]; rfl)
     refine hK.out _ _ (HSE.out _ hy4) (fun hHeld => ?_)
     clear hK K
     (try simp only [Act.put, sA, sB, sC])
     refine wpAnyH_one (i := 16) rfl (by kernel_rfl) (by rfl) (fun K hK => ?_)
     have HT := hid (show TwS x3 z4 Wp2.heap.size x3.heap.size gB gD gC gW z3.heap.size ng dg nw dw eg ew #[.slice none 0 0, .slice none 0 0] #[.slice none 0 0, .slice none 0 0] t u from ⟨hy4, by have := hzp2.out; have := hzp1.out; have := hz1.out; have := hz2.out; have := hz3.out; have := hz4.out; omega, by have := hzp2.out; have := hzp1.out; have := hz1.out; have := hz2.out; have := hz3.out; have := hz4.out; omega, by have := hzp2.out; have := hzp1.out; have := hz1.out; have := hz2.out; have := hz3.out; have := hz4.out; omega, (hb4.heap (hb3.heap (hb2.heap (hb1.heap hqp1)))), (hb4.heap (hb3.heap (hb2.heap (hb1.heap (hbp1.heap hqp2))))), own_base ((ho1.ev hb3).ev hb4) (Nat.zero_le _), own_base ((ho2.ev hb3).ev hb4) (Nat.zero_le _), own_base hu1 (Nat.zero_le _), own_base hu2 (Nat.zero_le _), by have := hzp2.out; have := hzp1.out; have := hz1.out; have := hz2.out; have := hz3.out; have := hz4.out; omega, by have := hzp2.out; have := hzp1.out; have := hz1.out; have := hz2.out; have := hz3.out; have := hz4.out; omega, lC, lW, hCW, by have := hzp2.out; have := hzp1.out; have := hz1.out; have := hz2.out; have := hz3.out; have := hz4.out; omega⟩)
     obtain ⟨u0, u1⟩ := cells2 HT.out.h1
     obtain ⟨v0, v1⟩ := frz2 HT.out.h1
     go_simp
     generalize hX1 : World.setCell (World.setCell z4 _ _) _ _ = X1
     have HT1 := hid (show TwS x3 X1 Wp2.heap.size x3.heap.size gB gD gC gW z3.heap.size ng dg nw dw eg ew #[.slice (some ⟨gB, 0, none⟩) ng dg, .slice (some ⟨gD, 0, none⟩) nw dw] #[.slice none 0 0, .slice none 0 0] t u from by rw [← hX1]; exact HT.out.set1)
     clear hX1 u0 u1 v0 v1 HT
     refine hK.out _ _ (HSE.out _ HT1.out.ev) (fun hHeld => ?_)
     clear hK K
     (try simp only [Act.put, sA, sB, sC])
     refine wpAnyH_one (i := 17) rfl (by kernel_rfl) (by rfl) (fun K hK => ?_)
     obtain ⟨u0, u1⟩ := cells2 HT1.out.h2
     obtain ⟨v0, v1⟩ := frz2 HT1.out.h2
     go_simp
     generalize hX2 : World.setCell (World.setCell X1 _ _) _ _ = X2
     have HT2 := hid (show TwS x3 X2 Wp2.heap.size x3.heap.size gB gD gC gW z3.heap.size ng dg nw dw eg ew #[.slice (some ⟨gB, 0, none⟩) ng dg, .slice (some ⟨gD, 0, none⟩) nw dw] #[.slice (some ⟨gC, 0, none⟩) ng eg, .slice (some ⟨gW, 0, none⟩) nw ew] t u from by rw [← hX2]; exact HT1.out.set2)
     clear hX2 u0 u1 v0 v1 HT1
     refine hK.out _ _ (HSE.out _ HT2.out.ev) (fun hHeld => ?_)
     clear hK K
     (try simp only [Act.put, sA, sB, sC])
     refine wpAnyH_done (by kernel_rfl) ?_ _
     go_wp2_with fail
     go_meet
     exact ⟨Wp2.heap.size, x3.heap.size, gB, gD, gC, gW, dg, dw, eg, ew, z3.heap.size, rfl, rfl, HT2⟩
  case rest =>
   clear y0 y1 y2 y3 y4 y5 y6 y7 y8
   clear HMN HNT HNU HSE lbx m0 m0' m1 m2 m3 m4 m5 m6 m7 m8 hq2 hq3 hm1 hm2 k1 k2 k4 HRD HPN
   obtain ⟨q1, q2, gB, gD, gC, gW, dg, dw, eg, ew, B3, rfl, rfl, HTS⟩ := hcut
   obtain ⟨x4, hx4⟩ : ∃ x, x = wc := ⟨_, rfl⟩
   subst hx4
   have HXK := hid hxk
   go_wp2_with fail
   go_loopw [15] (fun i wr => ∃ k : Nat, i = .int .i64 k ∧ k ≤ xn + 1 ∧ Hid (TwS x3 wr q1 q2 gB gD gC gW B3 ng dg nw dw eg ew #[.slice (some ⟨gB, 0, none⟩) ng dg, .slice (some ⟨gD, 0, none⟩) nw dw] #[.slice (some ⟨gC, 0, none⟩) ng eg, .slice (some ⟨gW, 0, none⟩) nw ew] t (M.over t u k))) (fun i _ => xn + 2 - (intOf i).toNat)
   case atStart => exact ⟨0, rfl, by omega, by rw [M.over_zero]; exact HTS⟩
   case round =>
    obtain ⟨k, rfl, hk, HT⟩ := hrel
    obtain ⟨W1, hWr⟩ : ∃ x, x = wr := ⟨_, rfl⟩
    subst hWr
    have hB := HT.out.ev
    obtain ⟨y0, y1, y2, y3, y4, y5, y6, y7, y8⟩ := cells9 (hB.heap Q3.out)
    obtain ⟨t0, t1⟩ := cells2 HT.out.h1
    obtain ⟨t2, t3⟩ := cells2 HT.out.h2
    obtain ⟨b4_, o4_, xl', hA4, hb4_, hxl', _, e5⟩ := HSL.out.int hB (show kn < pn by omega)
    obtain rfl : (xn : Int) = xl' := by rw [HXK.out] at hxl'; simpa using hxl'
    have hcp4 := HSL.out.cap
    clear hxl'
    by_cases hlt : k ≤ xn
    ·
     have hki : (k : Int) ≤ xn := by omega
     obtain ⟨_, hc1_, hl1_, _, hx1_⟩ := own_lit HT.out.r1 hng0
     obtain ⟨_, hc2_, hl2_, _, hx2_⟩ := own_lit HT.out.r2 hnw0
     obtain ⟨_, hc3_, hl3_, hf3_, hx3_⟩ := own_lit HT.out.r3 hng0
     obtain ⟨_, hc4_, hl4_, _, _⟩ := own_lit HT.out.r4 hnw0
     have hkg : k < ng := by omega
     have hkw : k < nw := by omega
     have hkf : (k : Int) < f.last + 1 := by omega
     obtain ⟨xg, hxg⟩ : ∃ x, t.gr[k]? = some x := ⟨t.gr[k]'(by omega), List.getElem?_eq_getElem _⟩
     obtain ⟨xw, hxw⟩ : ∃ x, t.wet[k]? = some x := ⟨t.wet[k]'(by omega), List.getElem?_eq_getElem _⟩
     have e6 := hx1_ k xg hxg
     have e7 := hx2_ k xw hxw
     have f3 := hf3_ k hkg
     obtain ⟨x8_, hx8_⟩ : ∃ x, (M.over t u k).gr[k]? = some x := ⟨_, List.getElem?_eq_getElem (show k < (M.over t u k).gr.length by omega)⟩
     have e8 := hx3_ k x8_ hx8_
     have hov := M.over_succ hxg hxw (u := u) (by omega) (by omega)
     have HOV := hid hov
     obtain ⟨n1, n2, n3, n4⟩ := HT.out.nep
     have m1 := HT.out.k1
     have m2 := HT.out.k2
     have m3 := HT.out.k3
     have m4 := HT.out.k4
     have lq1 := heap_lt HT.out.h1
     have lq2 := heap_lt HT.out.h2
     have n5 : gB ≠ gC := by omega
     have n6 : gD ≠ gC := by omega
     have n7 : gB ≠ gW := by omega
     have n8 : gD ≠ gW := by omega
     subst hA4
     clear hx1_ hx2_ hx3_ hf3_ hx8_ hl1_ hl2_ hl3_ hl4_ hov hxg hxw hk m1 m2 m3 m4
     go_upto_region 11 with fail
     refine wp_region_held_drew (S := fun w' => (∀ o, w'.cell? ⟨q1, o, none⟩ = W1.cell? ⟨q1, o, none⟩) ∧ (∀ o, w'.cell? ⟨q2, o, none⟩ = W1.cell? ⟨q2, o, none⟩) ∧ (∀ o, w'.cell? ⟨gB, o, none⟩ = W1.cell? ⟨gB, o, none⟩) ∧ (∀ o, w'.cell? ⟨gD, o, none⟩ = W1.cell? ⟨gD, o, none⟩)) (by kernel_rfl) (⟨fun o => rfl, fun o => rfl, fun o => rfl, fun o => rfl⟩) (fun hHeld => ?_)
     refine tkH 0 (some 58) ?_
     (try simp only [Act.put, sA, sB, sC])
     refine tkH 1 (some 59) ?_
     (try simp only [Act.put, sA, sB, sC])
     refine tkH 2 (some 60) ?_
     (try simp only [Act.put, sA, sB, sC])
     refine tkH 3 (some 61) ?_
     (try simp only [Act.put, sA, sB, sC])
     refine tkH 4 (some 62) ?_
     (try simp only [Act.put, sA, sB, sC])
     refine tkH 5 (some 63) ?_
     (try simp only [Act.put, sA, sB, sC])
     refine tkH 6 (some 64) ?_
     (try simp only [Act.put, sA, sB, sC])
     refine tkH 7 (some 65) ?_
     (try simp only [Act.put, sA, sB, sC])
     refine tkH 8 (some 66) ?_
     (try simp only [Act.put, sA, sB, sC])
     refine tkH 9 (some 67) ?_
     (try simp only [Act.put, sA, sB, sC])
     refine tkH 10 (some 68) ?_
     (try simp only [Act.put, sA, sB, sC])
     refine tkH 11 (some 69) ?_
     (try simp only [Act.put, sA, sB, sC])
     refine tkH 12 (some 70) ?_
     (try simp only [Act.put, sA, sB, sC])
     refine tkH 13 (some 71) ?_
     (try simp only [Act.put, sA, sB, sC])
     refine tkH 14 (some 72) ?_
     (try simp only [Act.put, sA, sB, sC])
     refine tkH 15 (some 73) ?_
     (try simp only [Act.put, sA, sB, sC])
     refine tkH 16 (some 74) ?_
     (try simp only [Act.put, sA, sB, sC])
     refine wpAnyH_one (i := 17) rfl (by kernel_rfl) (by rfl) (fun K hK => ?_)
     go_simp
     generalize hX1 : World.setCell _ _ _ = X1
     have HT1 := hid (show TwS x3 X1 q1 q2 gB gD gC gW B3 ng dg nw dw eg ew #[.slice (some ⟨gB, 0, none⟩) ng dg, .slice (some ⟨gD, 0, none⟩) nw dw] #[.slice (some ⟨gC, 0, none⟩) ng eg, .slice (some ⟨gW, 0, none⟩) nw ew] t ⟨(M.over t u k).gr.set k xg, (M.over t u k).wet⟩ from by rw [← hX1]; exact HT.out.put1 k xg)
     have HS1 := hid (show (∀ o, X1.cell? ⟨q1, o, none⟩ = W1.cell? ⟨q1, o, none⟩) ∧ (∀ o, X1.cell? ⟨q2, o, none⟩ = W1.cell? ⟨q2, o, none⟩) ∧ (∀ o, X1.cell? ⟨gB, o, none⟩ = W1.cell? ⟨gB, o, none⟩) ∧ (∀ o, X1.cell? ⟨gD, o, none⟩ = W1.cell? ⟨gD, o, none⟩) from by rw [← hX1]; exact ⟨fun o => cell_set_ne n1, fun o => cell_set_ne n3, fun o => cell_set_ne n5, fun o => cell_set_ne n6⟩)
     obtain ⟨_, _, hl4_, hf4_, hx4_⟩ := own_lit HT1.out.r4 hnw0
     have f4 := hf4_ k hkw
     obtain ⟨x9_, hx9_⟩ : ∃ x, (M.over t u k).wet[k]? = some x := ⟨_, List.getElem?_eq_getElem (show k < (M.over t u k).wet.length by have := hl4_; dsimp only at this; omega)⟩
     have e9 := hx4_ k x9_ hx9_
     clear hX1 hl4_ hf4_ hx4_ hx9_
     refine hK.out _ _ (HS1.out) (fun hHeld => ?_)
     clear hK K
     (try simp only [Act.put, sA, sB, sC])
     refine tkH 18 (some 75) ?_
     (try simp only [Act.put, sA, sB, sC])
     refine wpAnyH_one (i := 19) rfl (by kernel_rfl) (by rfl) (fun K hK => ?_)
     go_simp
     refine hK.out _ _ (⟨fun o => (cell_set_ne n2).trans (HS1.out.1 o), fun o => (cell_set_ne n4).trans (HS1.out.2.1 o), fun o => (cell_set_ne n7).trans (HS1.out.2.2.1 o), fun o => (cell_set_ne n8).trans (HS1.out.2.2.2 o)⟩) (fun hHeld => ?_)
     clear hK K
     (try simp only [Act.put, sA, sB, sC])
     refine wpAnyH_done (by kernel_rfl) ?_ _
     go_wp2_with fail
     exact ⟨⟨k + 1, by go_num, by omega, by rw [← HOV.out]; exact hid ((HT1.out.put2 k xw).evs (Ev.drew (Ev.refl _)))⟩, by simp [intOf]; omega⟩
    ·
     have hki : ¬ ((k : Int) ≤ xn) := by omega
     have hkx : k = xn + 1 := by omega
     subst hkx
     have hX5 := hX3.trans hB
     have HTG5 := hid (sl_own (enc := ics) (by decide) (ics_len _) (by omega) HT.out.r1)
     have HTW5 := hid (sl_own (enc := ics) (by decide) (ics_len _) (by omega) HT.out.r2)
     have HTG10 := hid (sl_own (enc := ics) (by decide) (ics_len _) (by omega) HT.out.r3)
     have HTW10 := hid (sl_own (enc := ics) (by decide) (ics_len _) (by omega) HT.out.r4)
     have Q5 := hid (hB.heap Q3.out)
     have HQ1 := hid HT.out.h1
     have HQ2 := hid HT.out.h2
     have HS5 := hid (HSL.out.ev hB)
     have hlo := M.over_listed hv hls hlu (xn + 1)
     have hap9 := M.apart hv hls hlu hpl HXK.out
     rw [show ((xn : Int)).toNat + 1 = xn + 1 by omega] at hap9
     generalize M.over t u (xn + 1) = u9 at hlo hap9 HTG10 HTW10 HT
     have HAP9 := hid hap9
     have hpt := M.isPlan_take hpl (kn + 1)
     have wk1 : IntKind.i64.wrap ((kn : Int) + 1) = ((kn + 1 : Nat) : Int) := by rw [show (kn : Int) + 1 = ((kn + 1 : Nat) : Int) by omega]; exact IntWalk.i64_in _ (by omega)
     have i1_ : (0 : Int) ≤ (kn : Int) + 1 := by omega
     have i2_ : (kn : Int) + 1 ≤ dL := by omega
     have hsh := fun wx => slice_h L pn dL (kn + 1) (by omega) wx
     have hsh1 := fun wx => (hsh wx).1
     have hsh2 := fun wx => (hsh wx).2
     have lbx := heap_lt Q5.out
     have lbq := heap_lt HQ1.out
     subst hA4
     clear hsh hap9 HT hki hk
     go_upto_region 12 with fail
     have HSE : Hid (∀ w', Ev W1 w' → (∀ o, w'.cell? ⟨w.heap.size, o, none⟩ = W1.cell? ⟨w.heap.size, o, none⟩) ∧ (∀ o, w'.cell? ⟨q1, o, none⟩ = W1.cell? ⟨q1, o, none⟩)) := hid (fun w' h => ⟨fun o => h.cells.1 _ o lbx, fun o => h.cells.1 _ o lbq⟩)
     refine wp_region_held_drew (S := fun w' => (∀ o, w'.cell? ⟨w.heap.size, o, none⟩ = W1.cell? ⟨w.heap.size, o, none⟩) ∧ (∀ o, w'.cell? ⟨q1, o, none⟩ = W1.cell? ⟨q1, o, none⟩)) (by kernel_rfl) (⟨fun o => rfl, fun o => rfl⟩) (fun hHeld => ?_)
     refine tkH 0 (some 77) ?_
     (try simp only [Act.put, sA, sB, sC])
     refine tkH 2 (some 79) ?_
     (try simp only [Act.put, sA, sB, sC])
     refine tkH 4 (some 81) ?_
     (try simp only [Act.put, sA, sB, sC])
     refine wpAnyH_one (i := 1) rfl (by kernel_rfl) (by rfl) (fun K hK => ?_)
     go_simp
     refine (Field_c f Ag Aw Ab Ac Al ng cg nw cw nb cb nc cc nl cl (by omega) (by omega) (by omega) (by omega) (by omega) _ (HCS.out.ev (hX5.trans (Ev.drew (Ev.refl _))))).mono ?_
     rintro e x5 ⟨⟨Bg5, dg5, Bw5, dw5, Bb5, db5, Bc5, dc5, Bl5, dl5, rfl, hc5⟩, hb5⟩
     have hV5 : Ev W1 x5 := Ev.trans (Ev.drew (Ev.refl _)) hb5
     refine hK.out _ _ (HSE.out _ hV5) (fun hHeld => ?_)
     clear hK K
     (try simp only [Act.put, sA, sB, sC])
     refine wpAnyH_one (i := 3) rfl (by kernel_rfl) (by rfl) (fun K hK => ?_)
     go_simp
     refine (Truth_c (some ⟨gB, 0, none⟩) (some ⟨gD, 0, none⟩) ng dg nw dw t (by omega) (by omega) _ (HTG5.out.ev hV5) (HTW5.out.ev hV5)).mono ?_
     rintro e x6 ⟨⟨T5, u5, S5, s5, rfl, ht5, hs5⟩, hb6⟩
     have hV6 : Ev W1 x6 := Ev.trans hV5 hb6
     refine hK.out _ _ (HSE.out _ hV6) (fun hHeld => ?_)
     clear hK K
     (try simp only [Act.put, sA, sB, sC])
     refine wpAnyH_one (i := 5) rfl (by kernel_rfl) (by rfl) (fun K hK => ?_)
     go_simp
     refine (list_c _ pn dL (plan) (by omega) _ (HS5.out.ev hV6)).mono ?_
     rintro e x7 ⟨⟨L5, dL5, rfl, ho5⟩, hb7⟩
     have hV7 : Ev W1 x7 := Ev.trans hV6 hb7
     refine hK.out _ _ (HSE.out _ hV7) (fun hHeld => ?_)
     clear hK K
     (try simp only [Act.put, sA, sB, sC])
     refine wpAnyH_one (i := 6) rfl (by kernel_rfl) (by rfl) (fun K hK => ?_)
     go_simp
     refine (Play_ok f Bg5 Bw5 Bb5 Bc5 Bl5 ng dg5 nw dw5 nb db5 nc dc5 nl dl5 T5 S5 ng u5 nw s5 t L5 pn dL5 (plan) hl0 _ ((hc5.ev hb6).ev hb7) (ht5.ev hb7) (hs5.ev hb7) (sl_own (enc := ics) (by decide) (ics_len _) (by omega) ho5) h0 hls hpl).mono ?_
     rintro e x8 ⟨⟨CB5, cd5, rfl, hcr5⟩, hb8⟩
     have hV8 : Ev W1 x8 := Ev.trans hV7 hb8
     refine hK.out _ _ (HSE.out _ hV8) (fun hHeld => ?_)
     clear hK K
     (try simp only [Act.put, sA, sB, sC])
     refine tkH 7 (some 76) ?_
     (try simp only [Act.put, sA, sB, sC])
     refine tkH 8 (some 84) ?_
     (try simp only [Act.put, sA, sB, sC])
     refine tkH 9 (some 85) ?_
     (try simp only [Act.put, sA, sB, sC])
     refine tkH 10 (some 16) ?_
     (try simp only [Act.put, sA, sB, sC])
     refine tkH 11 (some 17) ?_
     (try simp only [Act.put, sA, sB, sC])
     refine wpAnyH_done (by kernel_rfl) ?_ _
     have hX8 := hX5.trans hV8
     have HCR := hid (sl_own (enc := crc) (by decide) (crc_len _) (by omega) hcr5)
     have HTG20 := hid (HTG10.out.ev hV8)
     have HTW20 := hid (HTW10.out.ev hV8)
     have Q8 := hid (hV8.heap Q5.out)
     have HQ28 := hid (hV8.heap HQ2.out)
     have HS8 := hid ((HS5.out.take (j := kn + 1) (by omega)).ev hV8)
     clear y0 y1 y2 y3 y4 y5 y6 y7 y8
     clear t0 t1 t2 t3 hHeld HSE hc5 ht5 hs5 ho5 hcr5 HTG5 HTW5 HTG10 HTW10 lbx lbq
     obtain ⟨y0, y1, y2, y3, y4, y5, y6, y7, y8⟩ := cells9 Q8.out
     obtain ⟨t2, t3⟩ := cells2 HQ28.out
     have lbx := heap_lt Q8.out
     have lbq := heap_lt HQ28.out
     go_upto_region 13 with fail
     have HSE : Hid (∀ w', Ev x8 w' → (∀ o, w'.cell? ⟨w.heap.size, o, none⟩ = x8.cell? ⟨w.heap.size, o, none⟩) ∧ (∀ o, w'.cell? ⟨q2, o, none⟩ = x8.cell? ⟨q2, o, none⟩)) := hid (fun w' h => ⟨fun o => h.cells.1 _ o lbx, fun o => h.cells.1 _ o lbq⟩)
     refine wp_region_held_drew (S := fun w' => (∀ o, w'.cell? ⟨w.heap.size, o, none⟩ = x8.cell? ⟨w.heap.size, o, none⟩) ∧ (∀ o, w'.cell? ⟨q2, o, none⟩ = x8.cell? ⟨q2, o, none⟩)) (by kernel_rfl) (⟨fun o => rfl, fun o => rfl⟩) (fun hHeld => ?_)
     refine tkH 0 (some 87) ?_
     (try simp only [Act.put, sA, sB, sC])
     refine tkH 2 (some 89) ?_
     (try simp only [Act.put, sA, sB, sC])
     refine tkH 4 (some 91) ?_
     (try simp only [Act.put, sA, sB, sC])
     refine tkH 5 (some 92) ?_
     (try simp only [Act.put, sA, sB, sC])
     refine tkH 6 (some 93) ?_
     (try simp only [Act.put, sA, sB, sC])
     refine tkH 7 (some 94) ?_
     (try simp only [Act.put, sA, sB, sC])
     refine wpAnyH_one (i := 1) rfl (by kernel_rfl) (by rfl) (fun K hK => ?_)
     go_simp
     refine (Field_c f Ag Aw Ab Ac Al ng cg nw cw nb cb nc cc nl cl (by omega) (by omega) (by omega) (by omega) (by omega) _ (HCS.out.ev (hX8.trans (Ev.drew (Ev.refl _))))).mono ?_
     rintro e x20 ⟨⟨Bg20, dg20, Bw20, dw20, Bb20, db20, Bc20, dc20, Bl20, dl20, rfl, hc20⟩, hb20⟩
     have hV20 : Ev x8 x20 := Ev.trans (Ev.drew (Ev.refl _)) hb20
     refine hK.out _ _ (HSE.out _ hV20) (fun hHeld => ?_)
     clear hK K
     (try simp only [Act.put, sA, sB, sC])
     refine wpAnyH_one (i := 3) rfl (by kernel_rfl) (by rfl) (fun K hK => ?_)
     go_simp
     refine (Truth_c (some ⟨gC, 0, none⟩) (some ⟨gW, 0, none⟩) ng eg nw ew u9 (by omega) (by omega) _ (HTG20.out.ev hV20) (HTW20.out.ev hV20)).mono ?_
     rintro e x21 ⟨⟨T20, u20, S20, s20, rfl, ht20, hs20⟩, hb21⟩
     have hV21 : Ev x8 x21 := Ev.trans hV20 hb21
     refine hK.out _ _ (HSE.out _ hV21) (fun hHeld => ?_)
     clear hK K
     (try simp only [Act.put, sA, sB, sC])
     refine wpAnyH_one (i := 8) rfl (by kernel_rfl) (by rfl) (fun K hK => ?_)
     go_simp
     refine (list_c _ (kn + 1) dL (plan.take (kn + 1)) (by omega) _ (HS8.out.ev hV21)).mono ?_
     rintro e x22 ⟨⟨L20, dL20, rfl, ho20⟩, hb22⟩
     have hV22 : Ev x8 x22 := Ev.trans hV21 hb22
     refine hK.out _ _ (HSE.out _ hV22) (fun hHeld => ?_)
     clear hK K
     (try simp only [Act.put, sA, sB, sC])
     refine wpAnyH_one (i := 9) rfl (by kernel_rfl) (by rfl) (fun K hK => ?_)
     go_simp
     refine (Play_ok f Bg20 Bw20 Bb20 Bc20 Bl20 ng dg20 nw dw20 nb db20 nc dc20 nl dl20 T20 S20 ng u20 nw s20 u9 L20 (kn + 1) dL20 (plan.take (kn + 1)) hl0 _ ((hc20.ev hb21).ev hb22) (ht20.ev hb22) (hs20.ev hb22) (sl_own (enc := ics) (by decide) (ics_len _) (by omega) ho20) h0 hlo hpt).mono ?_
     rintro e x23 ⟨⟨CB20, cd20, rfl, hcr20⟩, hb23⟩
     have hV23 : Ev x8 x23 := Ev.trans hV22 hb23
     refine hK.out _ _ (HSE.out _ hV23) (fun hHeld => ?_)
     clear hK K
     (try simp only [Act.put, sA, sB, sC])
     refine tkH 10 (some 86) ?_
     (try simp only [Act.put, sA, sB, sC])
     refine tkH 11 (some 97) ?_
     (try simp only [Act.put, sA, sB, sC])
     refine tkH 12 (some 98) ?_
     (try simp only [Act.put, sA, sB, sC])
     refine tkH 13 (some 18) ?_
     (try simp only [Act.put, sA, sB, sC])
     refine tkH 14 (some 19) ?_
     (try simp only [Act.put, sA, sB, sC])
     refine wpAnyH_done (by kernel_rfl) ?_ _
     have hX23 := hX8.trans hV23
     have HCR2 := hid (sl_own (enc := crc) (by decide) (crc_len _) (by omega) hcr20)
     have hpl2 : kn < plan.length := by have := HPLn.out; omega
     obtain ⟨b6_, o6_, cr, hA6, hb6_, hc6, _, hcc6⟩ := HCR.out.at_ hV23 (show kn < pn by omega)
     obtain ⟨b7_, o7_, cr2, hA7, hb7_, hc7, _, hcc7⟩ := HCR2.out.at_ (Ev.refl x23) (show kn < kn + 1 by omega)
     rw [M.play_at hpl2] at hc6
     rw [M.play_at (by rw [List.length_take]; omega), HAP9.out] at hc7
     obtain rfl : M.crop f t plan kn = cr := by simpa using hc6
     obtain rfl : M.crop f t plan kn = cr2 := by simpa using hc7
     generalize M.crop f t plan kn = cr at hcc6 hcc7
     have g0 := hcc6 0 _ rfl
     have g1 := hcc6 1 _ rfl
     have g2 := hcc6 2 _ rfl
     have g3 := hcc7 0 _ rfl
     have g4 := hcc7 1 _ rfl
     have g5 := hcc7 2 _ rfl
     simp only [Nat.add_zero] at g0 g3
     have hcp6 := HCR.out.cap
     have hcp7 := HCR2.out.cap
     have hkn2 : kn < kn + 1 := by omega
     have hkn3 : (kn : Int) < (kn : Int) + 1 := by omega
     have hkn4 : (kn : Int) < pn := by omega
     have lb6 : b6_ < x23.heap.size := by have := hV23.size; omega
     subst hA6 hA7
     clear hHeld HSE hcc6 hcc7 hc6 hc7 hc20 ht20 hs20 ho20 hcr20 HTG20 HTW20 hpl2
     go_upto_region 14 with fail
     refine wp_region_held_drew (S := fun w' => (∀ o, w'.cell? ⟨b6_, o, none⟩ = x23.cell? ⟨b6_, o, none⟩) ∧ (∀ o, w'.cell? ⟨b7_, o, none⟩ = x23.cell? ⟨b7_, o, none⟩)) (by kernel_rfl) (⟨fun o => rfl, fun o => rfl⟩) (fun hHeld => ?_)
     refine tkH 0 (some 99) ?_
     (try simp only [Act.put, sA, sB, sC])
     refine tkH 1 (some 100) ?_
     (try simp only [Act.put, sA, sB, sC])
     refine tkH 2 (some 101) ?_
     (try simp only [Act.put, sA, sB, sC])
     refine tkH 3 (some 102) ?_
     (try simp only [Act.put, sA, sB, sC])
     refine tkH 4 (some 103) ?_
     (try simp only [Act.put, sA, sB, sC])
     refine tkH 5 (some 104) ?_
     (try simp only [Act.put, sA, sB, sC])
     refine tkH 6 (some 105) ?_
     (try simp only [Act.put, sA, sB, sC])
     refine tkH 7 (some 106) ?_
     (try simp only [Act.put, sA, sB, sC])
     refine tkH 8 (some 107) ?_
     (try simp only [Act.put, sA, sB, sC])
     refine tkH 9 (some 108) ?_
     (try simp only [Act.put, sA, sB, sC])
     refine tkH 10 (some 109) ?_
     (try simp only [Act.put, sA, sB, sC])
     refine tkH 11 (some 110) ?_
     (try simp only [Act.put, sA, sB, sC])
     refine tkH 12 (some 111) ?_
     (try simp only [Act.put, sA, sB, sC])
     refine tkH 13 (some 112) ?_
     (try simp only [Act.put, sA, sB, sC])
     refine tkH 14 (some 113) ?_
     (try simp only [Act.put, sA, sB, sC])
     refine tkH 15 (some 114) ?_
     (try simp only [Act.put, sA, sB, sC])
     refine tkH 16 (some 115) ?_
     (try simp only [Act.put, sA, sB, sC])
     refine tkH 17 (some 116) ?_
     (try simp only [Act.put, sA, sB, sC])
     refine tkH 18 (some 117) ?_
     (try simp only [Act.put, sA, sB, sC])
     refine tkH 19 (some 118) ?_
     (try simp only [Act.put, sA, sB, sC])
     refine tkH 20 (some 119) ?_
     (try simp only [Act.put, sA, sB, sC])
     refine tkH 21 (some 120) ?_
     (try simp only [Act.put, sA, sB, sC])
     refine tkH 22 (some 121) ?_
     (try simp only [Act.put, sA, sB, sC])
     refine tkH 23 (some 122) ?_
     (try simp only [Act.put, sA, sB, sC])
     refine tkH 24 (some 123) ?_
     (try simp only [Act.put, sA, sB, sC])
     refine tkH 25 (some 124) ?_
     (try simp only [Act.put, sA, sB, sC])
     refine tkH 26 (some 125) ?_
     (try simp only [Act.put, sA, sB, sC])
     refine tkH 27 (some 126) ?_
     (try simp only [Act.put, sA, sB, sC])
     refine tkH 28 (some 127) ?_
     (try simp only [Act.put, sA, sB, sC])
     refine tkH 29 (some 128) ?_
     (try simp only [Act.put, sA, sB, sC])
     refine tkH 30 (some 129) ?_
     (try simp only [Act.put, sA, sB, sC])
     refine tkH 31 (some 130) ?_
     (try simp only [Act.put, sA, sB, sC])
     refine wpAnyH_one (i := 32) rfl (by kernel_rfl) (by rfl) (fun K hK => ?_)
     go_simp
     refine (awake_c _).mono ?_
     rintro e w99 ⟨rfl, hb99⟩
     refine hK.out _ _ (⟨fun o => (((Ev.drew (Ev.refl x23)).trans hb99).cells.1 _ o lb6), fun o => (((Ev.drew (Ev.refl x23)).trans hb99).cells.1 _ o hb7_)⟩) (fun hHeld => ?_)
     clear hK K
     (try simp only [Act.put, sA, sB, sC])
     refine tkH 33 (some 132) ?_
     (try simp only [Act.put, sA, sB, sC])
     refine tkH 34 (some 10) ?_
     (try simp only [Act.put, sA, sB, sC])
     refine wpAnyH_done (by kernel_rfl) ?_ _
     go_wp2_with fail
     go_ret
     exact ⟨rfl, hX23.trans ((Ev.drew (Ev.refl _)).trans hb99)⟩

theorem cropApart_c (f : M.Cf) (Ag Aw Ab Ac Al : Option Addr) (ng cg nw cw nb cb nc cc nl cl : Nat) (hl0 : -9223372036854775808 ≤ f.last) (a b c d : Int) (a0 : 0 ≤ a) (a1 : a < 65536) (b0 : 0 ≤ b) (b1 : b < 65536) (c0 : 0 ≤ c) (c1 : c < 65536) (d0 : 0 ≤ d) (d1 : d < 256) (w : World) (hs : M.small ng nw nb nc nl → CS w w.heap.size f Ag Aw Ab Ac Al ng cg nw cw nb cb nc cc nl cl) :
  Calls Try.prog 12 #[.agg #[.int .i64 f.last, .slice Ag ng cg, .slice Aw nw cw, .slice Ab nb cb, .slice Ac nc cc, .int .i64 f.ripe, .int .i64 f.late, .int .i64 f.trod, .slice Al nl cl], .int .u16 a, .int .u16 b, .int .u16 c, .int .u8 d] w fun e w' => e = .returned (.bool true) ∧ Ev w w' := by
 cases hr : M.rdy f ng nw nb nc nl with
 | false => exact cropApart_no f Ag Aw Ab Ac Al ng cg nw cw nb cb nc cc nl cl hl0 a b c d a0 a1 b0 b1 c0 c1 d0 d1 w hs hr
 | true =>
  have h1 := hr
  unfold M.rdy at h1
  rw [Bool.and_eq_true, Bool.and_eq_true, decide_eq_true_eq, decide_eq_true_eq] at h1
  obtain ⟨⟨hsm, _⟩, h0⟩ := h1
  exact cropApart_yes f Ag Aw Ab Ac Al ng cg nw cw nb cb nc cc nl cl hl0 a b c d a0 a1 b0 b1 c0 c1 d0 d1 w (hid (hs hsm)) hr hsm h0

end Go.Proofs.Ytffbkbcjddigdaa
