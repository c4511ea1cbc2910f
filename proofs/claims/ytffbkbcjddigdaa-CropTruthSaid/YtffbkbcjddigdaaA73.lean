import Derived.Test.YtffbkbcjddigdaaA67
import Derived.Test.YtffbkbcjddigdaaA66
import Derived.Test.YtffbkbcjddigdaaA60
import Derived.Test.YtffbkbcjddigdaaA58
import Derived.Deep.DeepCutAuto
set_option linter.unusedSimpArgs false
set_option linter.unusedVariables false
namespace Go.Proofs.Ytffbkbcjddigdaa
open Go.RowKit Go.Shelf

theorem M.got_bd {f : M.Cf} {t : M.Tr} (hv : M.valid f = true) (hl9 : f.last ≤ 9) (ht : M.listed f t = true) {k : Nat} (hk : (k : Int) ≤ f.last) : 0 ≤ (M.weights t.gr f.crops).getD k 0 ∧ (M.weights t.gr f.crops).getD k 0 ≤ 500 := by
 have hl := (M.listed_len hv ht).1
 obtain ⟨_, hr, hb⟩ := M.plan_parts (M.valid_parts hv).2.2.2.2.2.2.2.2.2.2.2.1
 rw [M.weights_at hr (fun q hq => (hb q hq).1) (show k < t.gr.length by omega)]
 have hgr := M.listed_gr hv ht
 have h1 := M.fromL_bd f.crops k 0 (by omega) (by omega) (fun q hq => (hb q hq).1)
 have h2 := M.upK_le hgr (M.fromL f.crops k 0).toNat (k + 1) (by omega) (by omega)
 have h3 := M.upK_bd hgr (k + 1) (by omega)
 have h4 := M.upK_bd hgr (M.fromL f.crops k 0).toNat (by omega)
 omega
set_option maxRecDepth 100000 in
set_option maxHeartbeats 8000000 in
theorem Looked_c (f : M.Cf) (Ag Aw Ab Ac Al : Option Addr) (ng cg nw cw nb cb nc cc nl cl : Nat) (h0 : M.check f = 0) (a : Int) (a0 : 0 ≤ a) (a1 : a < 65536) (B : Option Addr) (bn bc : Nat) (ws : List Int) (hws : ∀ x ∈ ws, 0 ≤ x ∧ x < 65536) (hbc : bn ≤ bc) (hbm : bc ≤ maxLen) (w : World) (hs : CS w w.heap.size f Ag Aw Ab Ac Al ng cg nw cw nb cb nc cc nl cl) (hw : Sl0 wcs 1 w w.heap.size B bn ws) :
  Calls Try.prog 38 #[.agg #[.int .i64 f.last, .slice Ag ng cg, .slice Aw nw cw, .slice Ab nb cb, .slice Ac nc cc, .int .i64 f.ripe, .int .i64 f.late, .int .i64 f.trod, .slice Al nl cl], .int .u16 a, .slice B bn bc] w fun e w' => (∃ (t : M.Tr) (ls : List M.Lk) (V : Option Addr) (d : Nat) (Bg Bw : Option Addr) (dg dw : Nat), M.listed f t = true ∧ ls.length ≤ 5 ∧ (∀ l ∈ ls, (M.validLook f l = true ∧ M.shows (M.weights t.gr f.crops) l = true)) ∧ e = .returned (.tuple #[.agg #[.int .i64 f.last, .slice Ag ng cg, .slice Aw nw cw, .slice Ab nb cb, .slice Ac nc cc, .int .i64 f.ripe, .int .i64 f.late, .int .i64 f.trod, .slice V ls.length d], .agg #[.slice Bg ng dg, .slice Bw nw dw]]) ∧ CS w' w'.heap.size (M.withL f ls) Ag Aw Ab Ac V ng cg nw cw nb cb nc cc ls.length d ∧ Sl ics 1 w' w'.heap.size Bg ng dg t.gr ∧ Sl ics 1 w' w'.heap.size Bw nw dw t.wet) ∧ Ev w w' := by
 obtain ⟨i0, hi0, hz0, hz1, hz2⟩ := info_parts infoRL
 have hv := (M.check_ok h0).1
 have hl9 := (M.check0 h0).1
 obtain ⟨hmn, hm2⟩ := M.many_nat h0
 have hm1 := M.many_pos hv
 generalize M.prodN f.gr f.wet = mn at hmn hm2
 have HCS := hid hs
 have hgl := hs.g.len
 have hwl := hs.w_.len
 have hvl := (M.valid_parts hv).2.1
 have hvw := (M.valid_parts hv).2.2.2.1
 have hv0 := (M.valid_parts hv).1
 have hng : (ng : Int) = f.last + 1 := by omega
 have hnw : (nw : Int) = f.last + 1 := by omega
 obtain ⟨an, rfl⟩ : ∃ an : Nat, a = an := ⟨a.toNat, by omega⟩
 have HMN := hid (fun W (hE : Ev w W) => by have := Many_c f Ag Aw Ab Ac Al ng cg nw cw nb cb nc cc nl cl (M.weeks_eq hv) (M.gr_le hv) (M.wet_le hv) W (HCS.out.ev hE); rw [hmn] at this; exact this)
 have hq2 : an % mn ≤ 1000000 := by have := Nat.mod_lt an (show 0 < mn by omega); omega
 have HNT := hid (fun W (hE : Ev w W) => Nth_c f Ag Aw Ab Ac Al ng cg nw cw nb cb nc cc nl cl hv hl9 (an % mn) hq2 W (HCS.out.ev hE))
 have hls := M.nth_listed hv (an % mn)
 generalize M.nth f (an % mn) = t at HNT hls
 have m0 : ¬ ((mn : Int) = 0) := by omega
 have m0' : ¬ (mn = 0) := by omega
 have m1 : (an : Int).tmod mn = ((an % mn : Nat) : Int) := by rw [Int.tmod_eq_emod_of_nonneg (by omega)]; exact (Int.natCast_emod an mn).symm
 have m2 : (an : Int) % mn = ((an % mn : Nat) : Int) := (Int.natCast_emod an mn).symm
 generalize an % mn = aq at HNT m1 m2 hq2
 have m3 : IntKind.i64.wrap (an : Int) = an := IntWalk.i64_in _ (by omega)
 have m4 : IntKind.i64.wrap (aq : Int) = aq := IntWalk.i64_in _ (by omega)
 have HWS := hid hw
 have HWD := hid (fun i (hi : i ≤ 100) W (hE : Ev w W) => word_c B bn bc ws hws i hi W (HWS.out.ev hE) hbc hbm)
 have HWB := hid (fun i => M.word_bd hws i)
 clear hs hw hmn hgl hwl hvl hvw hws
 go_enter Try.func38, Try.ntmps38
 go_upto_region 1 with fail
 generalize hW0 : World.alloc (World.alloc (World.alloc w _) _) _ = W0
 have hE0 : Ev w W0 := by rw [← hW0]; exact Ev.alloc (Ev.alloc (Ev.alloc (Ev.refl _) _) _) _
 have hal := alloc3 w (.cells #[.int .i64 f.last, .slice Ag ng cg, .slice Aw nw cw, .slice Ab nb cb, .slice Ac nc cc, .int .i64 f.ripe, .int .i64 f.late, .int .i64 f.trod, .slice Al nl cl] 26) (.cells #[.int .i64 0, .slice none 0 0, .slice none 0 0, .slice none 0 0, .slice none 0 0, .int .i64 0, .int .i64 0, .int .i64 0, .slice none 0 0] 26) (.cells #[.slice none 0 0, .slice none 0 0] 28)
 rw [hW0] at hal
 have Q0 := hid hal.1
 have Q1 := hid hal.2.1
 have Q2 := hid hal.2.2.1
 have hz0s : W0.heap.size = w.heap.size + 3 := hal.2.2.2
 have HZ0 := hid hz0s
 clear hal hW0 hz0s
 obtain ⟨y0, y1, y2, y3, y4, y5, y6, y7, y8⟩ := cells9 Q0.out
 have lbx := heap_lt Q0.out
 have HSE : Hid (∀ w', Ev W0 w' → (∀ o, w'.cell? ⟨w.heap.size, o, none⟩ = W0.cell? ⟨w.heap.size, o, none⟩)) := hid (fun w' h => fun o => h.cells.1 _ o lbx)
 go_cut [8] (fun v W => ∃ (q : Nat) (Bg Bw : Option Addr) (dg dw : Nat), v = .pointer (some ⟨q, 0, none⟩) ∧ W0.heap.size ≤ q ∧ Ev W0 W ∧ Hid (W.heap[q]? = some (.cells #[.slice Bg ng dg, .slice Bw nw dw] 28 (0, 0))) ∧ Hid (W.ownsRow 0 3 1 (.slice Bg ng dg) ng (t.gr.flatMap ics)) ∧ Hid (W.ownsRow 0 3 1 (.slice Bw nw dw) nw (t.wet.flatMap ics)))
 case first =>
  refine wp_region_held_drew (S := fun w' => (∀ o, w'.cell? ⟨w.heap.size, o, none⟩ = W0.cell? ⟨w.heap.size, o, none⟩)) (by kernel_rfl) (fun o => rfl) (fun hHeld => ?_)
  refine tkH 0 (some 14) ?_
  (try simp only [Act.put, sA, sB, sC])
  refine tkH 1 (some 15) ?_
  (try simp only [Act.put, sA, sB, sC])
  refine tkH 2 (some 16) ?_
  (try simp only [Act.put, sA, sB, sC])
  refine tkH 3 (some 17) ?_
  (try simp only [Act.put, sA, sB, sC])
  refine wpAnyH_ready (rs := [4, 7]) (by kernel_rfl) (by simp) ?_
  refine AllReadyH.cons rfl (fun K hK => ?_) (AllReadyH.cons rfl (fun K hK => ?_) (AllReadyH.nil))
  ·
   go_simp
   refine (HMN.out _ (hE0.trans (Ev.drew (Ev.refl _)))).mono ?_
   rintro e z1 ⟨rfl, hb1⟩
   have hy1 : Ev W0 z1 := Ev.trans (Ev.drew (Ev.refl _)) hb1
   refine hK.out _ _ (HSE.out _ hy1) (fun hHeld => ?_)
   clear hK K
   (try simp only [Act.put, List.setIfInBounds_toArray, List.set_cons_zero, List.set_cons_succ])
   refine tkH 5 (some 19) ?_
   (try simp only [Act.put, sA, sB, sC])
   refine wpAnyH_ready (rs := [6, 7]) (by kernel_rfl) (by simp) ?_
   refine AllReadyH.cons rfl (fun K hK => ?_) (AllReadyH.cons rfl (fun K hK => ?_) (AllReadyH.nil))
   ·
    go_simp
    refine (HNT.out _ (hE0.trans hy1)).mono ?_
    rintro e z2 ⟨⟨Bg, dg, Bw, dw, rfl, ho1, ho2, hap⟩, hb2⟩
    have hy2 : Ev W0 z2 := Ev.trans hy1 hb2
    refine hK.out _ _ (HSE.out _ hy2) (fun hHeld => ?_)
    clear hK K
    (try simp only [Act.put, List.setIfInBounds_toArray, List.set_cons_zero, List.set_cons_succ])
    refine wpAnyH_one (i := 7) rfl (by kernel_rfl) (by rfl) (fun K hK => ?_)
    go_simp
    generalize hWA : World.alloc z2 _ = WA
    have hal := alloc1 z2 (.cells #[.slice none 0 0, .slice none 0 0] 28)
    have hbA : Ev z2 WA := by rw [← hWA]; exact Ev.alloc (Ev.refl _) _
    have hqA := hal.1
    rw [hWA] at hqA
    have hxA : Ev W0 WA := hy2.trans hbA
    have hpz : W0.heap.size ≤ z2.heap.size := hy2.size
    clear hal hWA
    refine hK.out _ _ (HSE.out _ hxA) (fun hHeld => ?_)
    clear hK K
    (try simp only [Act.put, List.setIfInBounds_toArray, List.set_cons_zero, List.set_cons_succ])
    refine wpAnyH_one (i := 8) rfl (by kernel_rfl) (by rfl) (fun K hK => ?_)
    have hq9 := hqA
    have ho19 := (ho1.ev hbA)
    have ho29 := (ho2.ev hbA)
    obtain ⟨u0, u1⟩ := cells2 hq9
    obtain ⟨v0, v1⟩ := frz2 hq9
    have hne : w.heap.size ≠ z2.heap.size := by have := lbx; omega
    have HQ9 := hid hq9
    have HO19 := hid ho19
    have HO29 := hid ho29
    clear hq9 ho19 ho29
    go_simp
    refine hK.out _ _ (fun o => (cell_set_ne hne).trans ((cell_set_ne hne).trans (HSE.out _ hxA o))) (fun hHeld => ?_)
    clear hK K
    (try simp only [Act.put, List.setIfInBounds_toArray, List.set_cons_zero, List.set_cons_succ])
    refine wpAnyH_done (by kernel_rfl) ?_ _
    go_wp2_with fail
    go_meet
    have o1 := own_set (j := 1) (u := (.slice Bw nw dw : Value)) (own_set (j := 0) (u := (.slice Bg ng dg : Value)) HO19.out HQ9.out (by decide)) (set_heap_same HQ9.out) (by decide)
    have o2 := own_set (j := 1) (u := (.slice Bw nw dw : Value)) (own_set (j := 0) (u := (.slice Bg ng dg : Value)) HO29.out HQ9.out (by decide)) (set_heap_same HQ9.out) (by decide)
    exact ⟨z2.heap.size, Bg, Bw, dg, dw, rfl, hpz, Ev.setCell (Ev.setCell hxA hpz _) hpz _, hid (set2 HQ9.out), hid (own_base o1 (Nat.zero_le _)), hid (own_base o2 (Nat.zero_le _))⟩
   ·
    go_simp
    generalize hWA : World.alloc z1 _ = WA
    have hal := alloc1 z1 (.cells #[.slice none 0 0, .slice none 0 0] 28)
    have hbA : Ev z1 WA := by rw [← hWA]; exact Ev.alloc (Ev.refl _) _
    have hqA := hal.1
    rw [hWA] at hqA
    have hxA : Ev W0 WA := hy1.trans hbA
    have hpz : W0.heap.size ≤ z1.heap.size := hy1.size
    clear hal hWA
    refine hK.out _ _ (HSE.out _ hxA) (fun hHeld => ?_)
    clear hK K
    (try simp only [Act.put, List.setIfInBounds_toArray, List.set_cons_zero, List.set_cons_succ])
    refine wpAnyH_one (i := 6) rfl (by kernel_rfl) (by rfl) (fun K hK => ?_)
    go_simp
    refine (HNT.out _ (hE0.trans hxA)).mono ?_
    rintro e z2 ⟨⟨Bg, dg, Bw, dw, rfl, ho1, ho2, hap⟩, hb2⟩
    have hy2 : Ev W0 z2 := Ev.trans hxA hb2
    refine hK.out _ _ (HSE.out _ hy2) (fun hHeld => ?_)
    clear hK K
    (try simp only [Act.put, List.setIfInBounds_toArray, List.set_cons_zero, List.set_cons_succ])
    refine wpAnyH_one (i := 8) rfl (by kernel_rfl) (by rfl) (fun K hK => ?_)
    have hq9 := (hb2.heap hqA)
    have ho19 := ho1
    have ho29 := ho2
    obtain ⟨u0, u1⟩ := cells2 hq9
    obtain ⟨v0, v1⟩ := frz2 hq9
    have hne : w.heap.size ≠ z1.heap.size := by have := lbx; omega
    have HQ9 := hid hq9
    have HO19 := hid ho19
    have HO29 := hid ho29
    clear hq9 ho19 ho29
    go_simp
    refine hK.out _ _ (fun o => (cell_set_ne hne).trans ((cell_set_ne hne).trans (HSE.out _ hy2 o))) (fun hHeld => ?_)
    clear hK K
    (try simp only [Act.put, List.setIfInBounds_toArray, List.set_cons_zero, List.set_cons_succ])
    refine wpAnyH_done (by kernel_rfl) ?_ _
    go_wp2_with fail
    go_meet
    have o1 := own_set (j := 1) (u := (.slice Bw nw dw : Value)) (own_set (j := 0) (u := (.slice Bg ng dg : Value)) HO19.out HQ9.out (by decide)) (set_heap_same HQ9.out) (by decide)
    have o2 := own_set (j := 1) (u := (.slice Bw nw dw : Value)) (own_set (j := 0) (u := (.slice Bg ng dg : Value)) HO29.out HQ9.out (by decide)) (set_heap_same HQ9.out) (by decide)
    exact ⟨z1.heap.size, Bg, Bw, dg, dw, rfl, hpz, Ev.setCell (Ev.setCell hy2 hpz _) hpz _, hid (set2 HQ9.out), hid (own_base o1 (Nat.zero_le _)), hid (own_base o2 (Nat.zero_le _))⟩
  ·
   go_simp
   generalize hWA : World.drew (World.alloc W0 _) = WA
   have hal := alloc1 W0 (.cells #[.slice none 0 0, .slice none 0 0] 28)
   have hbA : Ev W0 WA := by rw [← hWA]; exact Ev.drew (Ev.alloc (Ev.refl _) _)
   have hqA := (show Ev (World.alloc W0 (.cells #[.slice none 0 0, .slice none 0 0] 28)) WA from by rw [← hWA]; exact Ev.drew (Ev.refl _)).heap hal.1
   have hxA : Ev W0 WA := hbA
   have hpz : W0.heap.size ≤ W0.heap.size := Nat.le_refl _
   clear hal hWA
   refine hK.out _ _ (HSE.out _ hxA) (fun hHeld => ?_)
   clear hK K
   (try simp only [Act.put, List.setIfInBounds_toArray, List.set_cons_zero, List.set_cons_succ])
   refine wpAnyH_one (i := 4) rfl (by kernel_rfl) (by rfl) (fun K hK => ?_)
   go_simp
   refine (HMN.out _ (hE0.trans hxA)).mono ?_
   rintro e z1 ⟨rfl, hb1⟩
   have hy1 : Ev W0 z1 := Ev.trans hxA hb1
   refine hK.out _ _ (HSE.out _ hy1) (fun hHeld => ?_)
   clear hK K
   (try simp only [Act.put, List.setIfInBounds_toArray, List.set_cons_zero, List.set_cons_succ])
   refine tkH 5 (some 19) ?_
   (try simp only [Act.put, sA, sB, sC])
   refine wpAnyH_one (i := 6) rfl (by kernel_rfl) (by rfl) (fun K hK => ?_)
   go_simp
   refine (HNT.out _ (hE0.trans hy1)).mono ?_
   rintro e z2 ⟨⟨Bg, dg, Bw, dw, rfl, ho1, ho2, hap⟩, hb2⟩
   have hy2 : Ev W0 z2 := Ev.trans hy1 hb2
   refine hK.out _ _ (HSE.out _ hy2) (fun hHeld => ?_)
   clear hK K
   (try simp only [Act.put, List.setIfInBounds_toArray, List.set_cons_zero, List.set_cons_succ])
   refine wpAnyH_one (i := 8) rfl (by kernel_rfl) (by rfl) (fun K hK => ?_)
   have hq9 := (hb2.heap (hb1.heap hqA))
   have ho19 := ho1
   have ho29 := ho2
   obtain ⟨u0, u1⟩ := cells2 hq9
   obtain ⟨v0, v1⟩ := frz2 hq9
   have hne : w.heap.size ≠ W0.heap.size := by have := lbx; omega
   have HQ9 := hid hq9
   have HO19 := hid ho19
   have HO29 := hid ho29
   clear hq9 ho19 ho29
   go_simp
   refine hK.out _ _ (fun o => (cell_set_ne hne).trans ((cell_set_ne hne).trans (HSE.out _ hy2 o))) (fun hHeld => ?_)
   clear hK K
   (try simp only [Act.put, List.setIfInBounds_toArray, List.set_cons_zero, List.set_cons_succ])
   refine wpAnyH_done (by kernel_rfl) ?_ _
   go_wp2_with fail
   go_meet
   have o1 := own_set (j := 1) (u := (.slice Bw nw dw : Value)) (own_set (j := 0) (u := (.slice Bg ng dg : Value)) HO19.out HQ9.out (by decide)) (set_heap_same HQ9.out) (by decide)
   have o2 := own_set (j := 1) (u := (.slice Bw nw dw : Value)) (own_set (j := 0) (u := (.slice Bg ng dg : Value)) HO29.out HQ9.out (by decide)) (set_heap_same HQ9.out) (by decide)
   exact ⟨W0.heap.size, Bg, Bw, dg, dw, rfl, hpz, Ev.setCell (Ev.setCell hy2 hpz _) hpz _, hid (set2 HQ9.out), hid (own_base o1 (Nat.zero_le _)), hid (own_base o2 (Nat.zero_le _))⟩
 case rest =>
  clear y0 y1 y2 y3 y4 y5 y6 y7 y8
  clear HMN HNT HSE lbx m0 m0' m1 m2 m3 m4 hq2 hm1 hm2
  obtain ⟨q, Bg, Bw, dg, dw, rfl, hq, hB2, HQ, HTG, HTW⟩ := hcut
  obtain ⟨x2, hx2⟩ : ∃ x, x = wc := ⟨_, rfl⟩
  subst hx2
  have P0 := hid (hB2.heap Q0.out)
  have P1 := hid (hB2.heap Q1.out)
  have P2 := hid (hB2.heap Q2.out)
  obtain ⟨y0, y1, y2, y3, y4, y5, y6, y7, y8⟩ := cells9 P0.out
  have hX2 := hE0.trans hB2
  have hqx := heap_lt HQ.out
  have hzz := HZ0.out
  go_upto_region 4 with fail
  generalize hW3 : World.alloc x2 _ = W3
  have hE3 : Ev x2 W3 := by rw [← hW3]; exact Ev.alloc (Ev.refl _) _
  have hC3 : W3.heap[x2.heap.size]? = some (.cells #[.int .i64 f.last, .slice Ag ng cg, .slice Aw nw cw, .slice Ab nb cb, .slice Ac nc cc, .int .i64 f.ripe, .int .i64 f.late, .int .i64 f.trod, .slice none 0 0] 26 (0, 0)) := by rw [← hW3]; exact (alloc1 x2 _).1
  have R0 := hid (hE3.heap P0.out)
  have R1 := hid (hE3.heap P1.out)
  have R2 := hid (hE3.heap P2.out)
  have RQ := hid (hE3.heap HQ.out)
  have RC := hid hC3
  have hEw := hX2.trans hE3
  have HTGx := hid (sl_own (enc := ics) (by decide) (ics_len _) (by omega) HTG.out)
  have HOG := hid HTG.out
  have HOW := hid HTW.out
  have hwq : w.heap.size + 3 ≤ q := by omega
  clear hW3 hC3 P0 P1 P2 Q0 Q1 Q2 HQ HTG HTW y0 y1 y2 y3 y4 y5 y6 y7 y8 hzz
  obtain ⟨p, hp⟩ : ∃ p, p = x2.heap.size := ⟨_, rfl⟩
  rw [← hp] at RC hqx ⊢
  have HP := hid hp
  clear hp
  obtain ⟨_, hrc, hbc_⟩ := M.plan_parts (M.valid_parts hv).2.2.2.2.2.2.2.2.2.2.2.1
  have hgr := M.listed_gr hv hls
  have HRC := hid (And.intro hrc (fun q hq => (hbc_ q hq).1))
  have HGR := hid hgr
  clear hrc hbc_ hgr
  go_wp2_with fail
  go_loopw [10] (fun i wr => ∃ (k : Nat) (ys : List M.Lk) (V : Option Addr) (ce : Nat), i = .int .i64 k ∧ k ≤ 5 ∧ ys.length = k ∧ Ev x2 wr ∧ Hid (wr.heap[w.heap.size]? = some (.cells #[.int .i64 f.last, .slice Ag ng cg, .slice Aw nw cw, .slice Ab nb cb, .slice Ac nc cc, .int .i64 f.ripe, .int .i64 f.late, .int .i64 f.trod, .slice Al nl cl] 26 (0, 0))) ∧ Hid (wr.heap[w.heap.size + 1]? = some (.cells #[.int .i64 0, .slice none 0 0, .slice none 0 0, .slice none 0 0, .slice none 0 0, .int .i64 0, .int .i64 0, .int .i64 0, .slice none 0 0] 26 (0, 0))) ∧ Hid (wr.heap[w.heap.size + 1 + 1]? = some (.cells #[.slice none 0 0, .slice none 0 0] 28 (0, 0))) ∧ Hid (wr.heap[q]? = some (.cells #[.slice Bg ng dg, .slice Bw nw dw] 28 (0, 0))) ∧ Hid (wr.heap[p]? = some (.cells #[.int .i64 f.last, .slice Ag ng cg, .slice Aw nw cw, .slice Ab nb cb, .slice Ac nc cc, .int .i64 f.ripe, .int .i64 f.late, .int .i64 f.trod, .slice V k ce] 26 (0, 0))) ∧ Hid (wr.ownsRow (p + 1) 90 3 (.slice V k ce) k (ys.flatMap lkc)) ∧ Hid (∀ l ∈ ys, (M.validLook f l = true ∧ M.shows (M.weights t.gr f.crops) l = true))) (fun i _ => 6 - (intOf i).toNat)
  case atStart => exact ⟨0, [], none, 0, rfl, by omega, rfl, hE3, R0, R1, R2, RQ, RC, hid (World.ownsRow_nil _ _ _ _), hid (by simp)⟩
  case round =>
   obtain ⟨k, ys, V, ce, rfl, hk, hyk, hB, hQ0, hQ1, hQ2, hQQ, hC, hown, hgood⟩ := hrel
   obtain ⟨W1, hW1⟩ : ∃ x, x = wr := ⟨_, rfl⟩
   subst hW1
   clear R0 R1 R2 RQ RC
   obtain ⟨y0, y1, y2, y3, y4, y5, y6, y7, y8⟩ := cells9 hQ0.out
   obtain ⟨c0, c1, c2, c3, c4, c5, c6, c7, c8⟩ := cells9 hC.out
   obtain ⟨t0, t1⟩ := cells2 hQQ.out
   have lq := heap_lt hQ0.out
   have lp := heap_lt hC.out
   have hBw := hX2.trans hB
   obtain ⟨n0, hn0⟩ : ∃ n : Nat, M.word ws 0 = n := ⟨(M.word ws 0).toNat, by have := HWB.out 0; omega⟩
   have hn0b : n0 < 65536 := by have := HWB.out 0; omega
   have HW0 := hid (fun W (hE : Ev w W) => (show Calls Try.prog 75 #[.slice B bn bc, .int .i64 0] W fun e w' => e = .returned (.int .i64 (n0 : Int)) ∧ w' = W from by have := HWD.out 0 (by omega) W hE; rw [hn0] at this; exact this))
   have d1 : (n0 : Int).tmod 6 = ((n0 % 6 : Nat) : Int) := by rw [Int.tmod_eq_emod_of_nonneg (by omega)]; exact (Int.natCast_emod n0 6).symm
   have d2 : (n0 : Int) % 6 = ((n0 % 6 : Nat) : Int) := (Int.natCast_emod n0 6).symm
   have d3 : n0 % 6 < 6 := Nat.mod_lt _ (by omega)
   generalize n0 % 6 = N at d1 d2 d3
   have d4 : IntKind.i64.wrap (N : Int) = N := IntWalk.i64_in _ (by omega)
   by_cases hlt : k < N
   ·
    obtain ⟨v, hv1⟩ : ∃ n : Nat, M.word ws (k + 1) = n := ⟨(M.word ws (k + 1)).toNat, by have := HWB.out (k + 1); omega⟩
    have hvb : v < 65536 := by have := HWB.out (k + 1); omega
    have HW1 := hid (fun W (hE : Ev w W) => (show Calls Try.prog 75 #[.slice B bn bc, .int .i64 ((k : Int) + 1)] W fun e w' => e = .returned (.int .i64 (v : Int)) ∧ w' = W from by have := HWD.out (k + 1) (by omega) W hE; rw [hv1] at this; exact this))
    have e0 : IntKind.i64.wrap ((k : Int) + 1) = (k : Int) + 1 := IntWalk.i64_in _ (by omega)
    obtain ⟨L1, hL1⟩ : ∃ n : Nat, f.last + 1 = n := ⟨(f.last + 1).toNat, by have := (M.valid_parts hv).1; omega⟩
    have hL0 : 1 ≤ L1 := by have := (M.valid_parts hv).1; omega
    have e1 : IntKind.i64.wrap (f.last + 1) = (L1 : Int) := by rw [hL1]; exact IntWalk.i64_in _ (by omega)
    have e2 : ¬ ((L1 : Int) = 0) := by omega
    have e2' : ¬ (L1 = 0) := by omega
    have e3 : (v : Int).tmod L1 = ((v % L1 : Nat) : Int) := by rw [Int.tmod_eq_emod_of_nonneg (by omega)]; exact (Int.natCast_emod v L1).symm
    have e4 : (v : Int) % L1 = ((v % L1 : Nat) : Int) := (Int.natCast_emod v L1).symm
    have e5 : v % L1 < L1 := Nat.mod_lt _ (by omega)
    generalize v % L1 = lk at e3 e4 e5
    have e6 : IntKind.i64.wrap (lk : Int) = lk := IntWalk.i64_in _ (by omega)
    have hlk : (lk : Int) ≤ f.last := by omega
    have hlg : lk < ng := by omega
    have HST := hid (fun W (hE : Ev x2 W) => rStanding_c Bg Bw ng dg nw dw t.gr Ac nc cc f.crops lk hlg (by omega) HRC.out.1 HRC.out.2 HGR.out W (HTGx.out.ev hE) (HCS.out.c.ev (hX2.trans hE)))
    have hgb := M.got_bd hv hl9 hls hlk
    have HGOT := hid (rfl : (M.weights t.gr f.crops).getD lk 0 = (M.weights t.gr f.crops).getD lk 0)
    generalize hgv : (M.weights t.gr f.crops).getD lk 0 = g0 at HST hgb
    have f1_ : (v : Int).tdiv 16 = ((v / 16 : Nat) : Int) := by rw [Int.tdiv_eq_ediv_of_nonneg (by omega)]; exact (Int.natCast_ediv v 16).symm
    have f2_ : (v : Int) / 16 = ((v / 16 : Nat) : Int) := (Int.natCast_ediv v 16).symm
    have f3_ : (v : Int).tdiv 64 = ((v / 64 : Nat) : Int) := by rw [Int.tdiv_eq_ediv_of_nonneg (by omega)]; exact (Int.natCast_ediv v 64).symm
    have f4_ : (v : Int) / 64 = ((v / 64 : Nat) : Int) := (Int.natCast_ediv v 64).symm
    have f5_ : v / 16 ≤ v := Nat.div_le_self _ _
    have f6_ : v / 64 ≤ v := Nat.div_le_self _ _
    generalize v / 16 = v1 at f1_ f2_ f5_
    generalize v / 64 = v2 at f3_ f4_ f6_
    have g1_ : IntKind.i64.wrap (v1 : Int) = v1 := IntWalk.i64_in _ (by omega)
    have g2_ : IntKind.i64.wrap (v2 : Int) = v2 := IntWalk.i64_in _ (by omega)
    have g3_ : (v1 : Int).tmod 4 = ((v1 % 4 : Nat) : Int) := by rw [Int.tmod_eq_emod_of_nonneg (by omega)]; exact (Int.natCast_emod v1 4).symm
    have g4_ : (v1 : Int) % 4 = ((v1 % 4 : Nat) : Int) := (Int.natCast_emod v1 4).symm
    have g5_ : (v2 : Int).tmod 4 = ((v2 % 4 : Nat) : Int) := by rw [Int.tmod_eq_emod_of_nonneg (by omega)]; exact (Int.natCast_emod v2 4).symm
    have g6_ : (v2 : Int) % 4 = ((v2 % 4 : Nat) : Int) := (Int.natCast_emod v2 4).symm
    have g7_ : v1 % 4 < 4 := Nat.mod_lt _ (by omega)
    have g8_ : v2 % 4 < 4 := Nat.mod_lt _ (by omega)
    generalize v1 % 4 = s1 at g3_ g4_ g7_
    generalize v2 % 4 = s2 at g5_ g6_ g8_
    have h1_ : IntKind.i64.wrap (s1 : Int) = s1 := IntWalk.i64_in _ (by omega)
    have h2_ : IntKind.i64.wrap (s2 : Int) = s2 := IntWalk.i64_in _ (by omega)
    have h3_ : IntKind.i64.wrap (g0 - (s1 : Int)) = g0 - s1 := IntWalk.i64_in _ (by omega)
    have h4_ : IntKind.i64.wrap (g0 + (s2 : Int)) = g0 + s2 := IntWalk.i64_in _ (by omega)
    have HL1 := hid hL1
    have HN0 := hid (And.intro hn0 hv1)
    have HGV := hid hgv
    clear hL1 hn0 hv1 hgv
    go_upto_region 9 with (first | (go_at_call 75; with_reducible refine (HW0.out _ hBw).mono ?_; rintro e wz ⟨rfl, hwz⟩; replace hwz := hwz.symm; subst hwz) | (go_at_call 75; with_reducible refine (HW1.out _ hBw).mono ?_; rintro e wz ⟨rfl, hwz⟩; replace hwz := hwz.symm; subst hwz))
    generalize hW5 : World.alloc W1 _ = W5
    have hE5 : Ev W1 W5 := by rw [← hW5]; exact Ev.alloc (Ev.refl _) _
    have hal := alloc1 W1 (.cells #[.int .i64 lk, .int .i64 0, .int .i64 0] 90)
    rw [hW5] at hal
    have HR5 := hid hal.1
    have hsz5 := hid hal.2
    clear hal hW5
    obtain ⟨r, hr⟩ : ∃ r, r = W1.heap.size := ⟨_, rfl⟩
    rw [← hr] at HR5 ⊢
    have HR_ := hid hr
    have hpr : p < r := by omega
    have hqr : q < r := by omega
    have hwr : w.heap.size + 3 ≤ r := by omega
    have hltO := hid (fun g e => (hown.out.lt g e).2)
    clear hr y0 y1 y2 y3 y4 y5 y6 y7 y8 c0 c1 c2 c3 c4 c5 c6 c7 c8 t0 t1
    obtain ⟨y0, y1, y2, y3, y4, y5, y6, y7, y8⟩ := cells9 (hE5.heap hQ0.out)
    obtain ⟨t0, t1⟩ := cells2 (hE5.heap hQQ.out)
    have r0 := cell_in HR5.out 0
    go_upto_region 10 with (go_at_call 41; with_reducible refine (HST.out _ (hB.trans hE5)).mono ?_; rintro e x6 ⟨rfl, hb6⟩)
    have hE6 := hE5.trans hb6
    have HR6 := hid (hb6.heap HR5.out)
    have r1 := cell_in HR6.out 1
    have r2 := cell_in HR6.out 2
    have v1_ := frozen_in HR6.out 1
    have v2_ := frozen_in HR6.out 2
    obtain ⟨lo, hlo0, hlo1, hloc⟩ : ∃ lo : Int, 0 ≤ lo ∧ lo ≤ g0 ∧ ((s1 ≤ g0 ∧ lo = g0 - s1) ∨ (¬ (s1 : Int) ≤ g0 ∧ lo = 0)) := by
     by_cases h : (s1 : Int) ≤ g0
     ·
      exact ⟨g0 - s1, by omega, by omega, .inl ⟨h, rfl⟩⟩
     ·
      exact ⟨0, by omega, by omega, .inr ⟨h, rfl⟩⟩
    have k1_ : ¬ ((1000 : Int) < g0 + s2) := by omega
    have k2_ : ¬ ((1000 : Int) ≤ g0 + s2) := by omega
    have k3_ : g0 + s2 < (1000 : Int) := by omega
    have k4_ : g0 + s2 ≤ (1000 : Int) := by omega
    clear y0 r0
    go_cut [] (fun W => (x6.setCell ⟨r, 1, none⟩ (.int .i64 lo)).setCell ⟨r, 2, none⟩ (.int .i64 (g0 + s2)) = W)
    case first =>
     rcases hloc with ⟨h1, rfl⟩ | ⟨h1, rfl⟩
     ·
      have k5_ : (0 : Int) ≤ g0 - s1 := by omega
      have k6_ : ¬ (g0 - (s1 : Int) < 0) := by omega
      have k7_ : (s1 : Int) ≤ g0 := h1
      by_cases hz : g0 - (s1 : Int) = 0
      ·
       go_wp2_with fail
       all_goals (go_meet; first | rfl | (rw [hz]))
      ·
       have k8_ : (0 : Int) < g0 - s1 := by omega
       go_wp2_with fail
       all_goals (go_meet; rfl)
     ·
      have k5_ : g0 - (s1 : Int) < 0 := by omega
      have k6_ : ¬ ((0 : Int) ≤ g0 - s1) := by omega
      have k7_ : g0 - (s1 : Int) ≤ 0 := by omega
      have k8_ : ¬ ((0 : Int) < g0 - s1) := by omega
      go_wp2_with fail
      all_goals (go_meet; rfl)
    case rest =>
     have hW7 := hcut
     obtain ⟨W7, hw7⟩ : ∃ x, x = wc := ⟨_, rfl⟩
     subst hw7
     have HL := hid (show W7.heap[r]? = some (.cells #[.int .i64 lk, .int .i64 lo, .int .i64 (g0 + s2)] 90 (0, 0)) from by rw [← hW7, set_heap_same (set_heap_same HR6.out)]; rfl)
     have tr : ∀ (b : Nat) (ob : Obj), b ≠ r → W1.heap[b]? = some ob → W7.heap[b]? = some ob := fun b ob hb h => by rw [← hW7]; exact set_heap (set_heap (hE6.heap h) hb) hb
     have S0 := hid (tr _ _ (by omega) hQ0.out)
     have S1 := hid (tr _ _ (by omega) hQ1.out)
     have S2 := hid (tr _ _ (by omega) hQ2.out)
     have SQ := hid (tr _ _ (by omega) hQQ.out)
     have SC := hid (tr _ _ (by omega) hC.out)
     have hneR : (Value.slice V k ce).ownBlock ≠ some r := fun e => by have := hltO.out r e; have := HR_.out; omega
     have SO := hid (show W7.ownsRow (p + 1) 90 3 (.slice V k ce) k (ys.flatMap lkc) from by rw [← hW7]; exact own_set_ne (own_set_ne (hown.out.ev hE6) hneR) hneR)
     have hxr : x2.heap.size ≤ r := by have := HP.out; omega
     have hE7 : Ev x2 W7 := by rw [← hW7]; exact Ev.setCell (Ev.setCell (hB.trans hE6) hxr _) hxr _
     clear hW7 tr hcut r1 r2 v1_ v2_ t0 t1 y1 y2 y3 y4 y5 y6 y7 y8
     obtain ⟨c0, c1, c2, c3, c4, c5, c6, c7, c8⟩ := cells9 SC.out
     have r0 := cell_in HL.out 0
     have r1 := cell_in HL.out 1
     have r2 := cell_in HL.out 2
     have lp7 := heap_lt SC.out
     have lr7 := heap_lt HL.out
     have HGD := hid (show ∀ l ∈ ys ++ [(⟨lk, ⟨lo, g0 + s2⟩⟩ : M.Lk)], (M.validLook f l = true ∧ M.shows (M.weights t.gr f.crops) l = true) from fun l hl => by
      rcases List.mem_append.1 hl with hl | hl
      ·
       exact hgood.out l hl
      ·
       obtain rfl := List.mem_singleton.1 hl
       refine ⟨?_, ?_⟩
       ·
        unfold M.validLook M.hasWeek M.upTo
        simp only [Bool.and_eq_true, decide_eq_true_eq]
        omega
       ·
        unfold M.shows M.holds
        rw [show ((lk : Int)).toNat = lk from Int.toNat_natCast lk, HGV.out]
        simp only [Bool.and_eq_true, decide_eq_true_eq]
        omega)
     go_wp2_with (at_builtin; go_loud (refine wpList_append_own _ rfl (.tmp 61) (.tmp 63) 24 rfl (p + 1) 90 i0 _ 3 24 Try.underlying24 hi0 hz0 hz1 hz2 rfl (by decide) _ k (ys.flatMap lkc) rfl (SO.out.alloc _) ⟨W7.heap.size, 0, none⟩ 1 1 [.int .i64 lk, .int .i64 lo, .int .i64 (g0 + s2)] rfl rfl (news_in (alloc1 W7 _).1) (by simp [Value.oneCell']) (by unfold maxLen; omega) (by omega) (by simp; omega) ?_; intro v' w9 hown' hgrow _; have hown3 : w9.ownsRow (p + 1) 90 3 v' (k + 1) ((ys ++ [(⟨lk, ⟨lo, g0 + s2⟩⟩ : M.Lk)]).flatMap lkc) := (by rw [List.flatMap_append]; exact hown'); obtain ⟨V', ce', rfl⟩ := own_form hown3; have hltA := (SO.out.alloc (.cells #[.int .i64 lk, .int .i64 lo, .int .i64 (g0 + s2)] 90)).lt; have hb0 : Ev W7 (World.alloc W7 (.cells #[.int .i64 lk, .int .i64 lo, .int .i64 (g0 + s2)] 90)) := Ev.alloc (Ev.refl _) _; have gr : ∀ (b : Nat) (ob : Obj), b ≤ p → W7.heap[b]? = some ob → w9.heap[b]? = some ob := (fun b ob hb h => (hgrow.block b (by simp; omega) (fun e => by have := (hltA _ e.symm).1; omega)).trans (hb0.heap h)); have T0 := hid (gr _ _ (by omega) S0.out); have T1 := hid (gr _ _ (by omega) S1.out); have T2 := hid (gr _ _ (by omega) S2.out); have TQ := hid (gr _ _ (by omega) SQ.out); have TC := hid (gr _ _ (by omega) SC.out); have HO9 := hid hown3; have HE9 := hid (Ev.grown (hE7.trans hb0) hgrow (fun k e => by have := (hltA k e).1; have := HP.out; omega)); obtain ⟨e0_, e1_, e2_, e3_, e4_, e5_, e6_, e7_, e8_⟩ := cells9 TC.out; obtain ⟨u0, u1, u2, u3, u4, u5, u6, u7, u8⟩ := frz9 TC.out; clear hltA hown' hgrow hown3 gr hb0))
     refine ⟨⟨k + 1, ys ++ [⟨lk, ⟨lo, g0 + s2⟩⟩], V', ce', by go_num, by omega, by simp [hyk], Ev.setCell HE9.out (show x2.heap.size ≤ p by have := HP.out; omega) _, hid (set_heap T0.out (by omega)), hid (set_heap T1.out (by omega)), hid (set_heap T2.out (by omega)), hid (set_heap TQ.out (by omega)), hid ?_, hid (own_set HO9.out TC.out (by decide)), HGD⟩, by simp [intOf]; omega⟩
     rw [set_heap_same TC.out]
     rfl
   ·
    have hn2 : ¬ ((k : Int) < N) := by omega
    subst hyk
    have hw1 : w.heap.size ≤ w.heap.size + 1 := by omega
    have hw2 : w.heap.size ≤ w.heap.size + 1 + 1 := by omega
    go_upto_region 12 with (go_at_call 75; with_reducible refine (HW0.out _ hBw).mono ?_; rintro e wz ⟨rfl, hwz⟩; replace hwz := hwz.symm; subst hwz)
    have lqq := heap_lt hQQ.out
    have HSE : Hid (∀ w', Ev W1 w' → (∀ o, w'.cell? ⟨p, o, none⟩ = W1.cell? ⟨p, o, none⟩) ∧ (∀ o, w'.cell? ⟨q, o, none⟩ = W1.cell? ⟨q, o, none⟩)) := hid (fun w' h => ⟨fun o => h.cells.1 _ o lp, fun o => h.cells.1 _ o lqq⟩)
    refine wp_region_held_drew (S := fun w' => (∀ o, w'.cell? ⟨p, o, none⟩ = W1.cell? ⟨p, o, none⟩) ∧ (∀ o, w'.cell? ⟨q, o, none⟩ = W1.cell? ⟨q, o, none⟩)) (by kernel_rfl) (⟨fun o => rfl, fun o => rfl⟩) (fun hHeld => ?_)
    refine tkH 0 (some 66) ?_
    (try simp only [Act.put, sA, sB, sC])
    refine tkH 1 (some 67) ?_
    (try simp only [Act.put, sA, sB, sC])
    refine wpAnyH_one (i := 2) rfl (by kernel_rfl) (by rfl) (fun K hK => ?_)
    obtain ⟨z0, z1, z2, z3, z4, z5, z6, z7, z8⟩ := cells9 hQ1.out
    obtain ⟨f0, f1, f2, f3, f4, f5, f6, f7, f8⟩ := frz9 hQ1.out
    go_simp
    generalize hX1 : (World.setCell (World.setCell (World.setCell (World.setCell (World.setCell (World.setCell (World.setCell (World.setCell (World.setCell W1 _ _) _ _) _ _) _ _) _ _) _ _) _ _) _ _) _ _) = X1
    have HF1 := hid (show X1.heap[w.heap.size + 1]? = some (.cells #[.int .i64 f.last, .slice Ag ng cg, .slice Aw nw cw, .slice Ab nb cb, .slice Ac nc cc, .int .i64 f.ripe, .int .i64 f.late, .int .i64 f.trod, .slice V ys.length ce] 26 (0, 0)) from by rw [← hX1]; exact set9 hQ1.out)
    have tr : ∀ (b : Nat) (ob : Obj), b ≠ w.heap.size + 1 → W1.heap[b]? = some ob → X1.heap[b]? = some ob := fun b ob hb h => by rw [← hX1]; exact (set_heap (set_heap (set_heap (set_heap (set_heap (set_heap (set_heap (set_heap (set_heap h hb) hb) hb) hb) hb) hb) hb) hb) hb)
    have HG2 := hid (tr _ _ (by omega) hQ2.out)
    have HGQ := hid (tr _ _ (by omega) hQQ.out)
    have HGC := hid (tr _ _ (by omega) hC.out)
    have HSO := hid (show X1.ownsRow (p + 1) 90 3 (.slice V ys.length ce) ys.length (ys.flatMap lkc) from by rw [← hX1]; exact own_set9 hown.out hQ1.out (by decide))
    have HS1 := hid (show X1.ownsRow 0 3 1 (.slice Bg ng dg) ng (t.gr.flatMap ics) from by rw [← hX1]; exact own_set9 (HOG.out.ev hB) hQ1.out (by decide))
    have HS2 := hid (show X1.ownsRow 0 3 1 (.slice Bw nw dw) nw (t.wet.flatMap ics) from by rw [← hX1]; exact own_set9 (HOW.out.ev hB) hQ1.out (by decide))
    have HEX := hid (show Ev w X1 from by rw [← hX1]; exact (Ev.setCell (Ev.setCell (Ev.setCell (Ev.setCell (Ev.setCell (Ev.setCell (Ev.setCell (Ev.setCell (Ev.setCell (hX2.trans hB) hw1 _) hw1 _) hw1 _) hw1 _) hw1 _) hw1 _) hw1 _) hw1 _) hw1 _))
    clear hX1 tr z0 z1 z2 z3 z4 z5 z6 z7 z8 f0 f1 f2 f3 f4 f5 f6 f7 f8
    refine hK.out _ _ (⟨fun o => World.cell?_of_block (w := W1) (HGC.out.trans hC.out.symm), fun o => World.cell?_of_block (w := W1) (HGQ.out.trans hQQ.out.symm)⟩) (fun hHeld => ?_)
    clear hK K
    (try simp only [Act.put, List.setIfInBounds_toArray, List.set_cons_zero, List.set_cons_succ])
    refine wpAnyH_one (i := 3) rfl (by kernel_rfl) (by rfl) (fun K hK => ?_)
    obtain ⟨z0, z1⟩ := cells2 HG2.out
    obtain ⟨f0, f1⟩ := frz2 HG2.out
    have hnp : p ≠ w.heap.size + 1 + 1 := by omega
    have hnq : q ≠ w.heap.size + 1 + 1 := by omega
    go_simp
    generalize hX2 : World.setCell (World.setCell X1 _ _) _ _ = X2
    have HF2 := hid (show X2.heap[w.heap.size + 1 + 1]? = some (.cells #[.slice Bg ng dg, .slice Bw nw dw] 28 (0, 0)) from by rw [← hX2]; exact set2 HG2.out)
    have HF3 := hid (show X2.heap[w.heap.size + 1]? = some (.cells #[.int .i64 f.last, .slice Ag ng cg, .slice Aw nw cw, .slice Ab nb cb, .slice Ac nc cc, .int .i64 f.ripe, .int .i64 f.late, .int .i64 f.trod, .slice V ys.length ce] 26 (0, 0)) from by rw [← hX2]; exact set_heap (set_heap HF1.out (by omega)) (by omega))
    have HC2_ := hid (show X2.heap[p]? = some _ from by rw [← hX2]; exact set_heap (set_heap HGC.out hnp) hnp)
    have HQ2_ := hid (show X2.heap[q]? = some _ from by rw [← hX2]; exact set_heap (set_heap HGQ.out hnq) hnq)
    have HSO_ := hid (own_set (j := 1) (u := (.slice Bw nw dw : Value)) (own_set (j := 0) (u := (.slice Bg ng dg : Value)) HSO.out HG2.out (by decide)) (set_heap_same HG2.out) (by decide))
    rw [hX2] at HSO_
    have HS1_ := hid (own_set (j := 1) (u := (.slice Bw nw dw : Value)) (own_set (j := 0) (u := (.slice Bg ng dg : Value)) HS1.out HG2.out (by decide)) (set_heap_same HG2.out) (by decide))
    rw [hX2] at HS1_
    have HS2_ := hid (own_set (j := 1) (u := (.slice Bw nw dw : Value)) (own_set (j := 0) (u := (.slice Bg ng dg : Value)) HS2.out HG2.out (by decide)) (set_heap_same HG2.out) (by decide))
    rw [hX2] at HS2_
    have HEX2 := hid (show Ev w X2 from by rw [← hX2]; exact Ev.setCell (Ev.setCell HEX.out hw2 _) hw2 _)
    clear hX2 z0 z1 f0 f1
    refine hK.out _ _ (⟨fun o => World.cell?_of_block (w := W1) (HC2_.out.trans hC.out.symm), fun o => World.cell?_of_block (w := W1) (HQ2_.out.trans hQQ.out.symm)⟩) (fun hHeld => ?_)
    clear hK K
    (try simp only [Act.put, List.setIfInBounds_toArray, List.set_cons_zero, List.set_cons_succ])
    refine wpAnyH_done (by kernel_rfl) ?_ _
    go_wp2_with fail
    have hdd : Ev X2 X2.drew := Ev.drew (Ev.refl _)
    have hE9 := HEX2.out.trans hdd
    obtain ⟨x0, x1, x2_, x3, x4, x5, x6, x7, x8⟩ := cells9 (hdd.heap HF3.out)
    obtain ⟨d0, d1⟩ := cells2 (hdd.heap HF2.out)
    have hcs := HCS.out.ev hE9
    exact bodyPost_ret (v := .tuple #[.agg #[.int .i64 f.last, .slice Ag ng cg, .slice Aw nw cw, .slice Ab nb cb, .slice Ac nc cc, .int .i64 f.ripe, .int .i64 f.late, .int .i64 f.trod, .slice V ys.length ce], .agg #[.slice Bg ng dg, .slice Bw nw dw]]) (by simp [results, Try.results38, go_sem, x0, x1, x2_, x3, x4, x5, x6, x7, x8, d0, d1]) rfl ⟨⟨t, ys, V, ce, Bg, Bw, dg, dw, hls, hk, hgood.out, rfl, ⟨hcs.g, hcs.w_, hcs.b, hcs.c, sl_own (enc := lkc) (by decide) (lkc_len _) (by omega) (HSO_.out.ev hdd)⟩, sl_own (enc := ics) (by decide) (ics_len _) (by omega) (HS1_.out.ev hdd), sl_own (enc := ics) (by decide) (ics_len _) (by omega) (HS2_.out.ev hdd)⟩, hE9⟩


end Go.Proofs.Ytffbkbcjddigdaa
