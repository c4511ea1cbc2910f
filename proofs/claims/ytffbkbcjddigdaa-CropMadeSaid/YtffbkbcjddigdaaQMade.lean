import Derived.Test.YtffbkbcjddigdaaA67
import Derived.Test.YtffbkbcjddigdaaA66
import Derived.Test.YtffbkbcjddigdaaA62
import Derived.Test.YtffbkbcjddigdaaA58
import Derived.Test.YtffbkbcjddigdaaA54
import Derived.Test.YtffbkbcjddigdaaA48
import Derived.Test.YtffbkbcjddigdaaA49
import Derived.Deep.DeepCutAuto
set_option linter.unusedSimpArgs false
set_option linter.unusedVariables false
namespace Go.Proofs.Ytffbkbcjddigdaa
open Go.RowKit Go.Shelf

/-- What the first crops are worth. -/
def M.wsum (cs : List M.Cr) (k : Nat) : Int := ((cs.take k).map M.Cr.wo).sum
theorem M.wsum_succ {cs : List M.Cr} {k : Nat} {c : M.Cr} (h : cs[k]? = some c) : M.wsum cs (k + 1) = M.wsum cs k + c.wo := by
 unfold M.wsum
 rw [List.take_add_one, h, List.map_append, List.sum_append]
 simp
theorem M.wsum_take (cs : List M.Cr) (j k : Nat) (h : k ≤ j) : M.wsum (cs.take j) k = M.wsum cs k := by
 unfold M.wsum
 rw [List.take_take, Nat.min_eq_left h]

set_option maxRecDepth 100000 in
set_option maxHeartbeats 2000000 in
theorem cropMade_no (f : M.Cf) (Ag Aw Ab Ac Al : Option Addr) (ng cg nw cw nb cb nc cc nl cl : Nat) (hl0 : -9223372036854775808 ≤ f.last) (a b : Int) (a0 : 0 ≤ a) (a1 : a < 65536) (b0 : 0 ≤ b) (b1 : b < 65536) (w : World) (hs : M.small ng nw nb nc nl → CS w w.heap.size f Ag Aw Ab Ac Al ng cg nw cw nb cb nc cc nl cl) (hno : M.rdy f ng nw nb nc nl = false) :
  Calls Try.prog 6 #[.agg #[.int .i64 f.last, .slice Ag ng cg, .slice Aw nw cw, .slice Ab nb cb, .slice Ac nc cc, .int .i64 f.ripe, .int .i64 f.late, .int .i64 f.trod, .slice Al nl cl], .int .u16 a, .int .u16 b] w fun e w' => e = .returned (.bool true) ∧ Ev w w' := by
 have HRD := hid (fun W (hE : Ev w W) => by have := ready_c f Ag Aw Ab Ac Al ng cg nw cw nb cb nc cc nl cl hl0 W (fun h => (hs h).ev hE); rw [hno] at this; exact this)
 clear hs hno
 go_enter Try.func6, Try.ntmps6
 go_wp2_with (first | (go_at_call 37; with_reducible refine (HRD.out _ (Ev.alloc (Ev.refl _) _)).mono ?_; rintro e w1 ⟨rfl, hb1⟩; have hG : Ev w w1 := (Ev.alloc (Ev.refl _) _).trans hb1; have Q0 := hid (hb1.heap (alloc1 w (.cells #[.int .i64 f.last, .slice Ag ng cg, .slice Aw nw cw, .slice Ab nb cb, .slice Ac nc cc, .int .i64 f.ripe, .int .i64 f.late, .int .i64 f.trod, .slice Al nl cl] 26)).1); obtain ⟨y0, y1, y2, y3, y4, y5, y6, y7, y8⟩ := cells9 Q0.out) | (go_at_call 14; with_reducible refine (awake_c _).mono ?_; rintro e w99 ⟨rfl, hb99⟩))
 go_ret
 exact ⟨rfl, hG.trans hb99⟩

theorem M.made_fin {f : M.Cf} {t : M.Tr} {p : List Int} (hv : M.valid f = true) (hl9 : f.last ≤ 9) (ht : M.listed f t = true) (hp : M.isPlan f p = true) {k : Nat} {x : Int} (hx : p[k]? = some x) {S : Int} (h1 : S ≤ M.upK t.gr (M.prevW p k)) (h0 : 0 ≤ S) (b : Bool) (h2 : b = false → S = M.upK t.gr (M.prevW p k)) :
  0 ≤ S + (M.crop f t p k).wt ∧ S + (M.crop f t p k).wt ≤ M.upK t.gr (M.prevW p (k + 1)) ∧ M.upK t.gr (M.prevW p (k + 1)) ≤ 500 ∧ ((b || t.wet.getD x.toNat 0 == 1) = false → S + (M.crop f t p k).wt = M.upK t.gr (M.prevW p (k + 1))) := by
 obtain ⟨c1, c2, c3, c4, c5, _, _⟩ := M.crop_parts hv ht hp hx
 have hl := (M.prevW_le hp hx).2
 rw [M.prevW_succ hx]
 refine ⟨by omega, by omega, by omega, fun hb => ?_⟩
 rw [Bool.or_eq_false_iff] at hb
 rw [c1, hb.2, h2 hb.1]
 unfold M.leaves
 simp
 omega

theorem M.wo_bd {f : M.Cf} {t : M.Tr} {p : List Int} (hv : M.valid f = true) (hl9 : f.last ≤ 9) (ht : M.listed f t = true) (hp : M.isPlan f p = true) {i : Nat} (hi : i < p.length) : 0 ≤ (M.crop f t p i).wo ∧ (M.crop f t p i).wo ≤ 100000 := by
 have hx : p[i]? = some (p[i]'hi) := List.getElem?_eq_getElem _
 obtain ⟨_, _, d3, d4, d5, d6, d7⟩ := M.crop_parts hv ht hp hx
 have hx2 := (M.prevW_le hp hx).2
 have hu := M.upK_bd (M.listed_gr hv ht) (M.prevW p i) (by have := (M.prevW_le hp hx).1; have := (M.listed_len hv ht).1; omega)
 obtain ⟨g1, g2⟩ := M.crop_st (t := t) hv hp hi
 have hbz2 : f.base.getD 0 0 ≤ 200 := by
  have hb1 := (M.valid_parts hv).2.2.2.2.2.1
  have hg : f.base[0]? = some (f.base[0]'(by omega)) := List.getElem?_eq_getElem _
  rw [List.getD_eq_getElem?_getD, hg, Option.getD_some]
  exact ((M.valid_parts hv).2.2.2.2.2.2.1 _ (List.mem_of_getElem? hg)).2
 rw [d7]
 have i1 : 0 ≤ (M.crop f t p i).wt * (M.crop f t p i).st := Int.mul_nonneg d4 d6
 have i2 : (M.crop f t p i).wt * (M.crop f t p i).st ≤ 500 * 200 := Int.mul_le_mul (by omega) (by omega) d6 (by omega)
 omega
theorem M.wsum_bd {f : M.Cf} {t : M.Tr} {p : List Int} (hv : M.valid f = true) (hl9 : f.last ≤ 9) (ht : M.listed f t = true) (hp : M.isPlan f p = true) : ∀ k, k ≤ p.length → 0 ≤ M.wsum (M.play f t p) k ∧ M.wsum (M.play f t p) k ≤ 100000 * k
 | 0, _ => by simp [M.wsum]
 | k + 1, h => by
  have h1 := M.wsum_bd hv hl9 ht hp k (by omega)
  have h2 := M.wo_bd hv hl9 ht hp (show k < p.length by omega)
  rw [M.wsum_succ (M.play_at (show k < p.length by omega))]
  omega
theorem M.wsum_up {f : M.Cf} {t : M.Tr} {p : List Int} (hv : M.valid f = true) (hl9 : f.last ≤ 9) (ht : M.listed f t = true) (hp : M.isPlan f p = true) {k : Nat} (h : k + 1 = p.length) : M.wsum (M.play f t p) k ≤ M.wsum (M.play f t p) p.length := by
 rw [← h, M.wsum_succ (M.play_at (show k < p.length by omega))]
 have h2 := M.wo_bd hv hl9 ht hp (show k < p.length by omega)
 omega

set_option maxRecDepth 1000000 in
set_option maxHeartbeats 8000000 in
theorem cropMade_yes (f : M.Cf) (Ag Aw Ab Ac Al : Option Addr) (ng cg nw cw nb cb nc cc nl cl : Nat) (hl0 : -9223372036854775808 ≤ f.last) (a b : Int) (a0 : 0 ≤ a) (a1 : a < 65536) (b0 : 0 ≤ b) (b1 : b < 65536) (w : World) (HCS : Hid (CS w w.heap.size f Ag Aw Ab Ac Al ng cg nw cw nb cb nc cc nl cl)) (hr : M.rdy f ng nw nb nc nl = true) (hsm : M.small ng nw nb nc nl) (h0 : M.check f = 0) :
  Calls Try.prog 6 #[.agg #[.int .i64 f.last, .slice Ag ng cg, .slice Aw nw cw, .slice Ab nb cb, .slice Ac nc cc, .int .i64 f.ripe, .int .i64 f.late, .int .i64 f.trod, .slice Al nl cl], .int .u16 a, .int .u16 b] w fun e w' => e = .returned (.bool true) ∧ Ev w w' := by
 obtain ⟨s0, s1, s2, s3, s4⟩ := hsm
 have HRD := hid (fun W (hE : Ev w W) => by have := ready_c f Ag Aw Ab Ac Al ng cg nw cw nb cb nc cc nl cl hl0 W (fun _ => HCS.out.ev hE); rw [hr] at this; exact this)
 have hv := (M.check_ok h0).1
 have hl9 := (M.check0 h0).1
 have hb3 := (M.check0 h0).2.1
 obtain ⟨hmn, hm2⟩ := M.many_nat h0
 have hm1 := M.many_pos hv
 generalize M.prodN f.gr f.wet = mn at hmn hm2
 have hgl := HCS.out.g.len
 have hwl := HCS.out.w_.len
 have hbl := HCS.out.b.len
 have hvl := (M.valid_parts hv).2.1
 have hvw := (M.valid_parts hv).2.2.2.1
 have hv0 := (M.valid_parts hv).1
 have hng : (ng : Int) = f.last + 1 := by omega
 have hnw : (nw : Int) = f.last + 1 := by omega
 obtain ⟨an, rfl⟩ : ∃ an : Nat, a = an := ⟨a.toNat, by omega⟩
 have HMN := hid (fun W (hE : Ev w W) => by have := Many_c f Ag Aw Ab Ac Al ng cg nw cw nb cb nc cc nl cl (M.weeks_eq hv) (M.gr_le hv) (M.wet_le hv) W (HCS.out.ev hE); rw [hmn] at this; exact this)
 have hq2 : an % mn ≤ 1000000 := by have := Nat.mod_lt an (show 0 < mn by omega); omega
 have HNT := hid (fun W (hE : Ev w W) => Nth_c f Ag Aw Ab Ac Al ng cg nw cw nb cb nc cc nl cl hv hl9 (an % mn) hq2 W (HCS.out.ev hE))
 have hls := M.nth_listed hv (an % mn)
 generalize M.nth f (an % mn) = t at HNT hls
 have htl := M.listed_len hv hls
 have HPN := hid (fun W => planned_c f Ag Aw Ab Ac Al ng cg nw cw nb cb nc cc nl cl hv hl9 b b0 b1 W hbl (by omega))
 have m0 : ¬ ((mn : Int) = 0) := by omega
 have m0' : ¬ (mn = 0) := by omega
 have m1 : (an : Int).tmod mn = ((an % mn : Nat) : Int) := by rw [Int.tmod_eq_emod_of_nonneg (by omega)]; exact (Int.natCast_emod an mn).symm
 have m2 : (an : Int) % mn = ((an % mn : Nat) : Int) := (Int.natCast_emod an mn).symm
 generalize an % mn = aq at HNT m1 m2 hq2
 have m3 : IntKind.i64.wrap (an : Int) = an := IntWalk.i64_in _ (by omega)
 have m4 : IntKind.i64.wrap (aq : Int) = aq := IntWalk.i64_in _ (by omega)
 clear hr hgl hwl hvl hvw hmn
 go_enter Try.func6, Try.ntmps6
 go_upto_region 3 with (first | (go_at_call 37; with_reducible refine (HRD.out _ (Ev.alloc (Ev.refl _) _)).mono ?_; rintro e w1 ⟨rfl, hb1⟩; have hG : Ev w w1 := (Ev.alloc (Ev.refl _) _).trans hb1; have Q0 := hid (hb1.heap (alloc1 w (.cells #[.int .i64 f.last, .slice Ag ng cg, .slice Aw nw cw, .slice Ab nb cb, .slice Ac nc cc, .int .i64 f.ripe, .int .i64 f.late, .int .i64 f.trod, .slice Al nl cl] 26)).1); obtain ⟨y0, y1, y2, y3, y4, y5, y6, y7, y8⟩ := cells9 Q0.out))
 have lbx := heap_lt Q0.out
 have HSE : Hid (∀ w', Ev w1 w' → (∀ o, w'.cell? ⟨w.heap.size, o, none⟩ = w1.cell? ⟨w.heap.size, o, none⟩)) := hid (fun w' h => fun o => h.cells.1 _ o lbx)
 go_cut [7] (fun v W => ∃ (q : Nat) (Bg Bw : Option Addr) (dg dw : Nat), v = .pointer (some ⟨q, 0, none⟩) ∧ w.heap.size + 1 ≤ q ∧ Ev w1 W ∧ Hid (W.heap[q]? = some (.cells #[.slice Bg ng dg, .slice Bw nw dw] 28 (0, 0))) ∧ Hid (Sl ics 1 W W.heap.size Bg ng dg t.gr) ∧ Hid (Sl ics 1 W W.heap.size Bw nw dw t.wet))
 case first =>
  refine wp_region_held_drew (S := fun w' => (∀ o, w'.cell? ⟨w.heap.size, o, none⟩ = w1.cell? ⟨w.heap.size, o, none⟩)) (by kernel_rfl) (fun o => rfl) (fun hHeld => ?_)
  refine tkH 0 (some 25) ?_
  (try simp only [Act.put, sA, sB, sC])
  refine tkH 1 (some 26) ?_
  (try simp only [Act.put, sA, sB, sC])
  refine tkH 2 (some 27) ?_
  (try simp only [Act.put, sA, sB, sC])
  refine tkH 3 (some 28) ?_
  (try simp only [Act.put, sA, sB, sC])
  refine wpAnyH_ready (rs := [4, 7]) (by kernel_rfl) (by simp) ?_
  refine AllReadyH.cons rfl (fun K hK => ?_) (AllReadyH.cons rfl (fun K hK => ?_) (AllReadyH.nil))
  ·
   go_simp
   refine (HMN.out _ (hG.trans (Ev.drew (Ev.refl _)))).mono ?_
   rintro e z1 ⟨rfl, hb1⟩
   have hy1 : Ev w1 z1 := Ev.trans (Ev.drew (Ev.refl _)) hb1
   refine hK.out _ _ (HSE.out _ hy1) (fun hHeld => ?_)
   clear hK K
   (try simp only [Act.put, sA, sB, sC])
   refine tkH 5 (some 30) ?_
   (try simp only [Act.put, sA, sB, sC])
   refine wpAnyH_ready (rs := [6, 7]) (by kernel_rfl) (by simp) ?_
   refine AllReadyH.cons rfl (fun K hK => ?_) (AllReadyH.cons rfl (fun K hK => ?_) (AllReadyH.nil))
   ·
    go_simp
    refine (HNT.out _ (hG.trans hy1)).mono ?_
    rintro e z2 ⟨⟨Bg, dg, Bw, dw, rfl, ho1, ho2, hap⟩, hb2⟩
    have hy2 : Ev w1 z2 := Ev.trans hy1 hb2
    refine hK.out _ _ (HSE.out _ hy2) (fun hHeld => ?_)
    clear hK K
    (try simp only [Act.put, sA, sB, sC])
    refine wpAnyH_one (i := 7) rfl (by kernel_rfl) (by rfl) (fun K hK => ?_)
    go_simp
    generalize hWA : World.alloc z2 _ = WA
    have hal := alloc1 z2 (.cells #[.slice none 0 0, .slice none 0 0] 28)
    have hbA : Ev z2 WA := by rw [← hWA]; exact Ev.alloc (Ev.refl _) _
    have hqA := hal.1
    rw [hWA] at hqA
    have hxA : Ev w1 WA := hy2.trans hbA
    have hpz : w1.heap.size ≤ z2.heap.size := hy2.size
    clear hal hWA
    refine hK.out _ _ (HSE.out _ hxA) (fun hHeld => ?_)
    clear hK K
    (try simp only [Act.put, sA, sB, sC])
    refine wpAnyH_one (i := 8) rfl (by kernel_rfl) (by rfl) (fun K hK => ?_)
    have hq9 := hqA
    have ho19 := (ho1.ev hbA)
    have ho29 := (ho2.ev hbA)
    obtain ⟨u0, u1⟩ := cells2 hq9
    obtain ⟨v0, v1⟩ := frz2 hq9
    have hne : w.heap.size ≠ z2.heap.size := by have := lbx; omega
    have HQ9 := hid hq9
    have HO19 := hid ho19
    have HO29 := hid ho29
    clear hq9 ho19 ho29
    go_simp
    refine hK.out _ _ (fun o => (cell_set_ne hne).trans ((cell_set_ne hne).trans (HSE.out _ hxA o))) (fun hHeld => ?_)
    clear hK K
    (try simp only [Act.put, sA, sB, sC])
    refine wpAnyH_done (by kernel_rfl) ?_ _
    go_wp2_with fail
    go_meet
    have o1 := own_set (j := 1) (u := (.slice Bw nw dw : Value)) (own_set (j := 0) (u := (.slice Bg ng dg : Value)) HO19.out HQ9.out (by decide)) (set_heap_same HQ9.out) (by decide)
    have o2 := own_set (j := 1) (u := (.slice Bw nw dw : Value)) (own_set (j := 0) (u := (.slice Bg ng dg : Value)) HO29.out HQ9.out (by decide)) (set_heap_same HQ9.out) (by decide)
    exact ⟨z2.heap.size, Bg, Bw, dg, dw, rfl, by have := lbx; omega, Ev.setCell (Ev.setCell hxA hpz _) hpz _, hid (set2 HQ9.out), hid (sl_own (enc := ics) (by decide) (ics_len _) (by omega) o1), hid (sl_own (enc := ics) (by decide) (ics_len _) (by omega) o2)⟩
   ·
    go_simp
    generalize hWA : World.alloc z1 _ = WA
    have hal := alloc1 z1 (.cells #[.slice none 0 0, .slice none 0 0] 28)
    have hbA : Ev z1 WA := by rw [← hWA]; exact Ev.alloc (Ev.refl _) _
    have hqA := hal.1
    rw [hWA] at hqA
    have hxA : Ev w1 WA := hy1.trans hbA
    have hpz : w1.heap.size ≤ z1.heap.size := hy1.size
    clear hal hWA
    refine hK.out _ _ (HSE.out _ hxA) (fun hHeld => ?_)
    clear hK K
    (try simp only [Act.put, sA, sB, sC])
    refine wpAnyH_one (i := 6) rfl (by kernel_rfl) (by rfl) (fun K hK => ?_)
    go_simp
    refine (HNT.out _ (hG.trans hxA)).mono ?_
    rintro e z2 ⟨⟨Bg, dg, Bw, dw, rfl, ho1, ho2, hap⟩, hb2⟩
    have hy2 : Ev w1 z2 := Ev.trans hxA hb2
    refine hK.out _ _ (HSE.out _ hy2) (fun hHeld => ?_)
    clear hK K
    (try simp only [Act.put, sA, sB, sC])
    refine wpAnyH_one (i := 8) rfl (by kernel_rfl) (by rfl) (fun K hK => ?_)
    have hq9 := (hb2.heap hqA)
    have ho19 := ho1
    have ho29 := ho2
    obtain ⟨u0, u1⟩ := cells2 hq9
    obtain ⟨v0, v1⟩ := frz2 hq9
    have hne : w.heap.size ≠ z1.heap.size := by have := lbx; omega
    have HQ9 := hid hq9
    have HO19 := hid ho19
    have HO29 := hid ho29
    clear hq9 ho19 ho29
    go_simp
    refine hK.out _ _ (fun o => (cell_set_ne hne).trans ((cell_set_ne hne).trans (HSE.out _ hy2 o))) (fun hHeld => ?_)
    clear hK K
    (try simp only [Act.put, sA, sB, sC])
    refine wpAnyH_done (by kernel_rfl) ?_ _
    go_wp2_with fail
    go_meet
    have o1 := own_set (j := 1) (u := (.slice Bw nw dw : Value)) (own_set (j := 0) (u := (.slice Bg ng dg : Value)) HO19.out HQ9.out (by decide)) (set_heap_same HQ9.out) (by decide)
    have o2 := own_set (j := 1) (u := (.slice Bw nw dw : Value)) (own_set (j := 0) (u := (.slice Bg ng dg : Value)) HO29.out HQ9.out (by decide)) (set_heap_same HQ9.out) (by decide)
    exact ⟨z1.heap.size, Bg, Bw, dg, dw, rfl, by have := lbx; omega, Ev.setCell (Ev.setCell hy2 hpz _) hpz _, hid (set2 HQ9.out), hid (sl_own (enc := ics) (by decide) (ics_len _) (by omega) o1), hid (sl_own (enc := ics) (by decide) (ics_len _) (by omega) o2)⟩
  ·
   go_simp
   generalize hWA : World.drew (World.alloc w1 _) = WA
   have hal := alloc1 w1 (.cells #[.slice none 0 0, .slice none 0 0] 28)
   have hbA : Ev w1 WA := by rw [← hWA]; exact Ev.drew (Ev.alloc (Ev.refl _) _)
   have hqA := (show Ev (World.alloc w1 (.cells #[.slice none 0 0, .slice none 0 0] 28)) WA from by rw [← hWA]; exact Ev.drew (Ev.refl _)).heap hal.1
   have hxA : Ev w1 WA := hbA
   have hpz : w1.heap.size ≤ w1.heap.size := Nat.le_refl _
   clear hal hWA
   refine hK.out _ _ (HSE.out _ hxA) (fun hHeld => ?_)
   clear hK K
   (try simp only [Act.put, sA, sB, sC])
   refine wpAnyH_one (i := 4) rfl (by kernel_rfl) (by rfl) (fun K hK => ?_)
   go_simp
   refine (HMN.out _ (hG.trans hxA)).mono ?_
   rintro e z1 ⟨rfl, hb1⟩
   have hy1 : Ev w1 z1 := Ev.trans hxA hb1
   refine hK.out _ _ (HSE.out _ hy1) (fun hHeld => ?_)
   clear hK K
   (try simp only [Act.put, sA, sB, sC])
   refine tkH 5 (some 30) ?_
   (try simp only [Act.put, sA, sB, sC])
   refine wpAnyH_one (i := 6) rfl (by kernel_rfl) (by rfl) (fun K hK => ?_)
   go_simp
   refine (HNT.out _ (hG.trans hy1)).mono ?_
   rintro e z2 ⟨⟨Bg, dg, Bw, dw, rfl, ho1, ho2, hap⟩, hb2⟩
   have hy2 : Ev w1 z2 := Ev.trans hy1 hb2
   refine hK.out _ _ (HSE.out _ hy2) (fun hHeld => ?_)
   clear hK K
   (try simp only [Act.put, sA, sB, sC])
   refine wpAnyH_one (i := 8) rfl (by kernel_rfl) (by rfl) (fun K hK => ?_)
   have hq9 := (hb2.heap (hb1.heap hqA))
   have ho19 := ho1
   have ho29 := ho2
   obtain ⟨u0, u1⟩ := cells2 hq9
   obtain ⟨v0, v1⟩ := frz2 hq9
   have hne : w.heap.size ≠ w1.heap.size := by have := lbx; omega
   have HQ9 := hid hq9
   have HO19 := hid ho19
   have HO29 := hid ho29
   clear hq9 ho19 ho29
   go_simp
   refine hK.out _ _ (fun o => (cell_set_ne hne).trans ((cell_set_ne hne).trans (HSE.out _ hy2 o))) (fun hHeld => ?_)
   clear hK K
   (try simp only [Act.put, sA, sB, sC])
   refine wpAnyH_done (by kernel_rfl) ?_ _
   go_wp2_with fail
   go_meet
   have o1 := own_set (j := 1) (u := (.slice Bw nw dw : Value)) (own_set (j := 0) (u := (.slice Bg ng dg : Value)) HO19.out HQ9.out (by decide)) (set_heap_same HQ9.out) (by decide)
   have o2 := own_set (j := 1) (u := (.slice Bw nw dw : Value)) (own_set (j := 0) (u := (.slice Bg ng dg : Value)) HO29.out HQ9.out (by decide)) (set_heap_same HQ9.out) (by decide)
   exact ⟨w1.heap.size, Bg, Bw, dg, dw, rfl, by have := lbx; omega, Ev.setCell (Ev.setCell hy2 hpz _) hpz _, hid (set2 HQ9.out), hid (sl_own (enc := ics) (by decide) (ics_len _) (by omega) o1), hid (sl_own (enc := ics) (by decide) (ics_len _) (by omega) o2)⟩
 case rest =>
  clear y0 y1 y2 y3 y4 y5 y6 y7 y8
  clear HMN HNT HSE lbx m0 m0' m1 m2 m3 m4 hq2 hm1 hm2
  obtain ⟨q, Bg, Bw, dg, dw, rfl, hq, hB2, HQ, HTG, HTW⟩ := hcut
  obtain ⟨x2, hx2⟩ : ∃ x, x = wc := ⟨_, rfl⟩
  subst hx2
  have Q2 := hid (hB2.heap Q0.out)
  obtain ⟨y0, y1, y2, y3, y4, y5, y6, y7, y8⟩ := cells9 Q2.out
  have hX2 := hG.trans hB2
  go_upto_region 5 with (go_at_call 39; with_reducible refine (HPN.out _).mono ?_; rintro e x3 ⟨⟨plan, hpl, L, dL, rfl, hsl⟩, hb⟩; have HB3 := hid hb; have HSL := hid hsl; clear hb hsl)
  have hX3 := hX2.trans HB3.out
  have Q3 := hid (HB3.out.heap Q2.out)
  have HQ3 := hid (HB3.out.heap HQ.out)
  clear y0 y1 y2 y3 y4 y5 y6 y7 y8
  obtain ⟨y0, y1, y2, y3, y4, y5, y6, y7, y8⟩ := cells9 Q3.out
  obtain ⟨q0, q1⟩ := cells2 HQ3.out
  have lbx := heap_lt Q3.out
  have lbq := heap_lt HQ3.out
  obtain ⟨hp1, hp2, hp3⟩ := M.plan_parts hpl
  have hpb : plan.length ≤ 3 := by omega
  obtain ⟨pn, hpn⟩ : ∃ pn, plan.length = pn := ⟨_, rfl⟩
  rw [hpn] at HSL hpb
  have HPL4 := hid (fun (Bg : Option Addr) (dg : Nat) (Bw : Option Addr) (dw : Nat) (Bb : Option Addr) (db : Nat) (Bc : Option Addr) (dc : Nat) (Bl : Option Addr) (dl : Nat) (T : Option Addr) (u : Nat) (S : Option Addr) (s : Nat) (L : Option Addr) (dL : Nat) W (h1 : CS W W.heap.size f Bg Bw Bb Bc Bl ng dg nw dw nb db nc dc nl dl) (h2 : Sl ics 1 W W.heap.size T ng u t.gr) (h3 : Sl ics 1 W W.heap.size S nw s t.wet) (h4 : Sl ics 1 W W.heap.size L pn dL (plan)) => Play_ok f Bg Bw Bb Bc Bl ng dg nw dw nb db nc dc nl dl T S ng u nw s t L pn dL (plan) hl0 W h1 h2 h3 h4 h0 hls hpl)
  have HSE : Hid (∀ w', Ev x3 w' → (∀ o, w'.cell? ⟨w.heap.size, o, none⟩ = x3.cell? ⟨w.heap.size, o, none⟩) ∧ (∀ o, w'.cell? ⟨q, o, none⟩ = x3.cell? ⟨q, o, none⟩)) := hid (fun w' h => ⟨fun o => h.cells.1 _ o lbx, fun o => h.cells.1 _ o lbq⟩)
  refine wp_region_held_drew (S := fun w' => (∀ o, w'.cell? ⟨w.heap.size, o, none⟩ = x3.cell? ⟨w.heap.size, o, none⟩) ∧ (∀ o, w'.cell? ⟨q, o, none⟩ = x3.cell? ⟨q, o, none⟩)) (by kernel_rfl) (⟨fun o => rfl, fun o => rfl⟩) (fun hHeld => ?_)
  refine tkH 0 (some 36) ?_
  (try simp only [Act.put, sA, sB, sC])
  refine tkH 2 (some 38) ?_
  (try simp only [Act.put, sA, sB, sC])
  refine tkH 4 (some 40) ?_
  (try simp only [Act.put, sA, sB, sC])
  refine wpAnyH_one (i := 1) rfl (by kernel_rfl) (by rfl) (fun K hK => ?_)
  go_simp
  refine (Field_c f Ag Aw Ab Ac Al ng cg nw cw nb cb nc cc nl cl (by omega) (by omega) (by omega) (by omega) (by omega) _ (HCS.out.ev (hX3.trans (Ev.drew (Ev.refl _))))).mono ?_
  rintro e x4 ⟨⟨Bg4, dg4, Bw4, dw4, Bb4, db4, Bc4, dc4, Bl4, dl4, rfl, hc4⟩, hb4⟩
  have hV4 : Ev x3 x4 := Ev.trans (Ev.drew (Ev.refl _)) hb4
  refine hK.out _ _ (HSE.out _ hV4) (fun hHeld => ?_)
  clear hK K
  (try simp only [Act.put, sA, sB, sC])
  refine wpAnyH_one (i := 3) rfl (by kernel_rfl) (by rfl) (fun K hK => ?_)
  go_simp
  refine (Truth_c Bg Bw ng dg nw dw t (by omega) (by omega) _ ((HTG.out.ev HB3.out).ev hV4) ((HTW.out.ev HB3.out).ev hV4)).mono ?_
  rintro e x5 ⟨⟨T4, u4, S4, s4, rfl, ht4, hs4⟩, hb5⟩
  have hV5 : Ev x3 x5 := Ev.trans hV4 hb5
  refine hK.out _ _ (HSE.out _ hV5) (fun hHeld => ?_)
  clear hK K
  (try simp only [Act.put, sA, sB, sC])
  refine wpAnyH_one (i := 5) rfl (by kernel_rfl) (by rfl) (fun K hK => ?_)
  go_simp
  refine (list_c L pn dL (plan) (by omega) _ (HSL.out.ev hV5)).mono ?_
  rintro e x6 ⟨⟨L4, dL4, rfl, ho4⟩, hb6⟩
  have hV6 : Ev x3 x6 := Ev.trans hV5 hb6
  refine hK.out _ _ (HSE.out _ hV6) (fun hHeld => ?_)
  clear hK K
  (try simp only [Act.put, sA, sB, sC])
  refine wpAnyH_one (i := 6) rfl (by kernel_rfl) (by rfl) (fun K hK => ?_)
  go_simp
  refine (HPL4.out Bg4 dg4 Bw4 dw4 Bb4 db4 Bc4 dc4 Bl4 dl4 T4 u4 S4 s4 L4 dL4 _ ((hc4.ev hb5).ev hb6) (ht4.ev hb6) (hs4.ev hb6) (sl_own (enc := ics) (by decide) (ics_len _) (by omega) ho4)).mono ?_
  rintro e x7 ⟨⟨CB4, cd4, rfl, hcr4⟩, hb7⟩
  have hV7 : Ev x3 x7 := Ev.trans hV6 hb7
  refine hK.out _ _ (HSE.out _ hV7) (fun hHeld => ?_)
  clear hK K
  (try simp only [Act.put, sA, sB, sC])
  refine tkH 7 (some 35) ?_
  (try simp only [Act.put, sA, sB, sC])
  refine tkH 8 (some 43) ?_
  (try simp only [Act.put, sA, sB, sC])
  refine tkH 9 (some 44) ?_
  (try simp only [Act.put, sA, sB, sC])
  refine tkH 10 (some 9) ?_
  (try simp only [Act.put, sA, sB, sC])
  refine tkH 11 (some 10) ?_
  (try simp only [Act.put, sA, sB, sC])
  refine wpAnyH_done (by kernel_rfl) ?_ _
  have hX7 := hX3.trans hV7
  have Q7 := hid (hV7.heap Q3.out)
  have HQ7 := hid (hV7.heap HQ3.out)
  have HSL7 := hid (HSL.out.ev hV7)
  have HTG7 := hid ((HTG.out.ev HB3.out).ev hV7)
  have HTW7 := hid ((HTW.out.ev HB3.out).ev hV7)
  have HCR := hid (sl_own (enc := crc) (by decide) (crc_len _) (by omega) hcr4)
  clear hHeld HSE hc4 ht4 hs4 ho4 hcr4 HPL4 HSL HTG HTW Q2 HQ Q3 HQ3 lbx lbq q0 q1
  clear y0 y1 y2 y3 y4 y5 y6 y7 y8
  obtain ⟨y0, y1, y2, y3, y4, y5, y6, y7, y8⟩ := cells9 Q7.out
  obtain ⟨q0, q1⟩ := cells2 HQ7.out
  have lbx := heap_lt Q7.out
  have lbq := heap_lt HQ7.out
  by_cases hp0 : pn = 0
  ·
   subst hp0
   go_wp2_with (first | (go_at_call 14; with_reducible refine (awake_c _).mono ?_; rintro e w99 ⟨rfl, hb99⟩) | (with_reducible refine ⟨trivial, ?_⟩))
   go_ret
   exact ⟨rfl, hX7.trans hb99⟩
  ·
   obtain ⟨pm, hpm⟩ : ∃ pm, pm + 1 = pn := ⟨pn - 1, by omega⟩
   have hp0' : ¬ ((pn : Int) = 0) := by omega
   have hpnb : pn ≤ nb := by omega
   have HPLN := hid (show (M.play f t plan).length = pn by rw [M.play_len]; exact hpn)
   have HPL_ := hid hpn
   have HPM := hid hpm
   clear hpn hpm
   go_wp2_with fail
   go_loopw [11, 13, 14, 15] (fun s g bb i wr => ∃ (k : Nat) (S Wo : Int) (wt : Bool), s = .int .i64 S ∧ g = .int .i64 Wo ∧ bb = .bool wt ∧ i = .int .i64 k ∧ k ≤ pn ∧ 0 ≤ S ∧ S ≤ 500 ∧ S ≤ M.upK t.gr (M.prevW plan k) ∧ Hid (wt = false → S = M.upK t.gr (M.prevW plan k)) ∧ Hid (Wo = M.wsum (M.play f t plan) k) ∧ 0 ≤ Wo ∧ Wo ≤ 100000 * k ∧ Ev x7 wr) (fun _ _ _ i _ => pn - (intOf i).toNat)
   case atStart => exact ⟨0, 0, 0, false, rfl, rfl, rfl, rfl, by omega, by omega, by omega, by show (0 : Int) ≤ M.upK t.gr 0; simp [M.upK], hid (fun _ => by show (0 : Int) = M.upK t.gr 0; simp [M.upK]), hid (by simp [M.wsum]), by omega, by omega, Ev.refl _⟩
   case round =>
    obtain ⟨k, S, Wo, wt, rfl, rfl, rfl, rfl, hk, hS0, hS5, hSu, hSe, hWo, hW0, hW1, hB⟩ := hrel
    obtain ⟨W1, hWr⟩ : ∃ x, x = wr := ⟨_, rfl⟩
    subst hWr
    clear y0 y1 y2 y3 y4 y5 y6 y7 y8
    obtain ⟨y0, y1, y2, y3, y4, y5, y6, y7, y8⟩ := cells9 (hB.heap Q7.out)
    clear q0 q1
    obtain ⟨q0, q1⟩ := cells2 (hB.heap HQ7.out)
    by_cases hlt : k < pn
    ·
     obtain ⟨xk, hxk⟩ : ∃ x, plan[k]? = some x := ⟨plan[k]'(by have := HPL_.out; omega), List.getElem?_eq_getElem _⟩
     obtain ⟨b1_, o1_, c, hA1, hb1_, hc1, _, hcc⟩ := HCR.out.at_ hB hlt
     have e0 := hcc 0 _ rfl
     have e1 := hcc 1 _ rfl
     have e2 := hcc 2 _ rfl
     simp only [Nat.add_zero] at e0
     have hcp := HCR.out.cap
     obtain rfl : M.crop f t plan k = c := by have := M.play_at (f := f) (t := t) (show k < plan.length by have := HPL_.out; omega); rw [this] at hc1; simpa using hc1
     obtain ⟨d1, d2, d3, d4, d5, d6, d7⟩ := M.crop_parts hv hls hpl hxk
     obtain ⟨g1, g2⟩ := M.crop_st (t := t) hv hpl (show k < plan.length by have := HPL_.out; omega)
     obtain ⟨b2_, o2_, bk, hA2, hb2_, hbk, _, e3⟩ := HCS.out.b.int (hX7.trans hB) (show k < nb by omega)
     obtain ⟨b3_, o3_, bz, hA3, hb3_, hbz, _, e4⟩ := HCS.out.b.int (hX7.trans hB) (show 0 < nb by omega)
     obtain ⟨rfl, rfl⟩ : b2_ = b3_ ∧ o2_ = o3_ := by rw [hA2] at hA3; simpa using hA3
     rw [List.getD_eq_getElem?_getD, hbk, Option.getD_some, List.getD_eq_getElem?_getD, hbz, Option.getD_some] at g2
     rw [List.getD_eq_getElem?_getD, hbk, Option.getD_some] at g1
     have hbz2 := ((M.valid_parts hv).2.2.2.2.2.2.1 bz (List.mem_of_getElem? hbz)).2
     have hcp3 := HCS.out.b.cap
     simp only [Nat.add_zero] at e4
     have hkb : k < nb := by omega
     have h0b : 0 < nb := by omega
     have hxnw : xk.toNat < nw := by have := hp3 xk (List.mem_of_getElem? hxk); omega
     obtain ⟨b4_, o4_, xk', hA4, hb4_, hxk', _, e5⟩ := HSL7.out.int hB hlt
     obtain rfl : xk = xk' := by rw [hxk] at hxk'; simpa using hxk'
     have hcp4 := HSL7.out.cap
     have hxb := hp3 xk (List.mem_of_getElem? hxk)
     obtain ⟨xn, hxn⟩ : ∃ xn : Nat, xk = xn := ⟨xk.toNat, by omega⟩
     obtain ⟨b5_, o5_, wv, hA5, hb5_, hwv, _, e6⟩ := HTW7.out.int hB (show xn < nw by omega)
     have hcp5 := HTW7.out.cap
     have hwg : t.wet.getD xk.toNat 0 = wv := by rw [hxn, List.getD_eq_getElem?_getD]; simp [hwv]
     have hfin := M.made_fin hv hl9 hls hpl hxk hSu hS0 wt hSe.out
     rw [hwg] at hfin
     have hws := M.wsum_succ hc1
     rw [← hWo.out] at hws
     generalize M.crop f t plan k = c at e0 e1 e2 d1 d4 d5 d6 d7 g1 hfin hws
     obtain ⟨cw, cs, co⟩ := c
     dsimp only at e0 e1 e2 d1 d4 d5 d6 d7 g1 hfin hws
     have hco : 0 ≤ co ∧ co ≤ 100000 := by
      rw [d7]
      have i1 : 0 ≤ cw * cs := Int.mul_nonneg d4 d6
      have i2 : cw * cs ≤ 500 * 200 := Int.mul_le_mul (by omega) (by omega) d6 (by omega)
      omega
     have n1 : ¬ (cw < 0) := by omega
     have n2 : ¬ (cs < 0) := by omega
     have n3 : ¬ (cs > bk) := by omega
     have n4 : ¬ (cs > bz) := by omega
     have n3' : ¬ (bk < cs) := by omega
     have n4' : ¬ (bz < cs) := by omega
     have r1 : IntKind.i64.wrap (S + cw) = S + cw := IntWalk.i64_in _ (by omega)
     have r2 : IntKind.i64.wrap (Wo + co) = Wo + co := IntWalk.i64_in _ (by omega)
     have HFIN := hid hfin
     have HWS := hid hws
     have hk100 : Wo + co ≤ 100000 * ((k + 1 : Nat) : Int) := by omega
     have hk500 : S + cw ≤ 500 := by omega
     have hxnw2 : xn < nw := by omega
     subst hxn hA1 hA2 hA4 hA5
     clear hcc hc1 d1 d2 d3 d5 d7 g1 g2 hbk hbz hA3 hxk' hwv hwg hfin hws hSu hSe hWo hxk hcp hcp3 hcp4 hcp5
     cases wt with
     | true =>
      go_wp2_with (go_quiet (fail))
      exact ⟨⟨k + 1, S + cw, Wo + co, true, rfl, rfl, rfl, by go_num, by omega, HFIN.out.1, hk500, HFIN.out.2.1, hid (fun h => by cases h), hid HWS.out.symm, by omega, hk100, hB.drewN _⟩, by simp [intOf]; omega⟩
     | false =>
      by_cases hw1 : wv = 1
      ·
       subst hw1
       go_wp2_with (go_quiet (fail))
       exact ⟨⟨k + 1, S + cw, Wo + co, true, rfl, rfl, rfl, by go_num, by omega, HFIN.out.1, hk500, HFIN.out.2.1, hid (fun h => by cases h), hid HWS.out.symm, by omega, hk100, hB.drewN _⟩, by simp [intOf]; omega⟩
      ·
       have hw1' : (wv == 1) = false := by simp [hw1]
       have HF2 := hid (HFIN.out.2.2.2 (by rw [hw1']; rfl))
       go_wp2_with (go_quiet (fail))
       exact ⟨⟨k + 1, S + cw, Wo + co, false, rfl, rfl, rfl, by go_num, by omega, HFIN.out.1, hk500, HFIN.out.2.1, hid (fun _ => HF2.out), hid HWS.out.symm, by omega, hk100, hB.drewN _⟩, by simp [intOf]; omega⟩
    ·
     have hkp : pn = k := by omega
     subst hkp
     have hkn : ¬ ((pn : Int) < pn) := by omega
     have hpm1 := HPM.out
     have hpl1 := HPL_.out
     obtain ⟨xl, hxl⟩ : ∃ x, plan[pm]? = some x := ⟨plan[pm]'(by omega), List.getElem?_eq_getElem _⟩
     have hxlb := hp3 xl (List.mem_of_getElem? hxl)
     obtain ⟨xn, hxn⟩ : ∃ xn : Nat, xl = xn := ⟨xl.toNat, by omega⟩
     have hprev : M.prevW plan pn = xn + 1 := by rw [← hpm1, M.prevW_succ hxl, hxn]; simp
     rw [hprev] at hSu hSe
     have hxn9 : xn < ng := by omega
     have HWU := hid (show M.wsum (M.play f t plan) pm ≤ Wo by rw [hWo.out, ← hpl1]; exact M.wsum_up hv hl9 hls hpl (by omega))
     have hupb := (M.upK_bd (M.listed_gr hv hls) (xn + 1) (by omega)).2
     have HGR := hid (M.listed_gr hv hls)
     have wpm : IntKind.i64.wrap ((pn : Int) - 1) = pm := by rw [show (pn : Int) - 1 = pm by omega]; exact IntWalk.i64_in _ (by omega)
     subst hxn
     clear hprev hpm1 hpl1 hWo hk hW0 hxlb
     go_wp2_with fail
     go_loopw [12, 16] (fun g i wr => ∃ k : Nat, g = .int .i64 (M.upK t.gr k) ∧ i = .int .i64 k ∧ k ≤ xn + 1 ∧ Ev x7 wr) (fun _ i _ => xn + 1 - (intOf i).toNat)
     case atStart => exact ⟨0, by simp [M.upK], rfl, by omega, hB⟩
     case round =>
      obtain ⟨k, rfl, rfl, hk, hB_⟩ := hrel
      clear hB
      have hB := hB_
      clear hB_
      obtain ⟨W2, hWr2⟩ : ∃ x, x = wr := ⟨_, rfl⟩
      subst hWr2
      clear y0 y1 y2 y3 y4 y5 y6 y7 y8
      obtain ⟨y0, y1, y2, y3, y4, y5, y6, y7, y8⟩ := cells9 (hB.heap Q7.out)
      clear q0 q1
      obtain ⟨q0, q1⟩ := cells2 (hB.heap HQ7.out)
      have hpm1 := HPM.out
      obtain ⟨b4_, o4_, xl', hA4, hb4_, hxl', _, e5⟩ := HSL7.out.int hB (show pm < pn by omega)
      obtain rfl : (xn : Int) = xl' := by rw [hxl] at hxl'; simpa using hxl'
      have hcp4 := HSL7.out.cap
      have hpmn : pm < pn := by omega
      clear hpm1 hxl'
      by_cases hlt : k ≤ xn
      ·
       obtain ⟨b6_, o6_, gk, hA6, hb6_, hgk, _, e6⟩ := HTG7.out.int hB (show k < ng by omega)
       have hcp6 := HTG7.out.cap
       have hus := M.upK_succ hgk
       have hgb := HGR.out gk (List.mem_of_getElem? hgk)
       have hub := (M.upK_bd HGR.out k (by omega))
       have r3 : IntKind.i64.wrap (M.upK t.gr k + gk) = M.upK t.gr k + gk := IntWalk.i64_in _ (by omega)
       have HUS := hid hus
       have hki : (k : Int) ≤ xn := by omega
       have hkng : k < ng := by omega
       subst hA4 hA6
       clear hus hgk hub hgb
       go_wp2_with fail
       exact ⟨⟨k + 1, by rw [HUS.out], by go_num, by omega, hB⟩, by simp [intOf]; omega⟩
      ·
       have hkx : k = xn + 1 := by omega
       have hki : ¬ ((k : Int) ≤ xn) := by omega
       have hX8 := hX7.trans hB
       have HBB := hid hB
       have HTG := hid HTG7.out
       have HTW := hid HTW7.out
       have HS9 := hid ((HSL7.out.ev hB).take (j := pm) (by omega))
       have hcpd := HSL7.out.cap
       have hsh := fun wx => slice_h L pn dL pm (by omega) wx
       have hsh1 := fun wx => (hsh wx).1
       have hsh2 := fun wx => (hsh wx).2
       have lbx := heap_lt (hB.heap Q7.out)
       have lbq := heap_lt (hB.heap HQ7.out)
       have HSU := hid hSu
       have HSEQ := hid hSe
       have HKX := hid hkx
       have HPL10 := hid (fun (Bg : Option Addr) (dg : Nat) (Bw : Option Addr) (dw : Nat) (Bb : Option Addr) (db : Nat) (Bc : Option Addr) (dc : Nat) (Bl : Option Addr) (dl : Nat) (T : Option Addr) (u : Nat) (S : Option Addr) (s : Nat) (L : Option Addr) (dL : Nat) W (h1 : CS W W.heap.size f Bg Bw Bb Bc Bl ng dg nw dw nb db nc dc nl dl) (h2 : Sl ics 1 W W.heap.size T ng u t.gr) (h3 : Sl ics 1 W W.heap.size S nw s t.wet) (h4 : Sl ics 1 W W.heap.size L pm dL (plan.take pm)) => Play_ok f Bg Bw Bb Bc Bl ng dg nw dw nb db nc dc nl dl T S ng u nw s t L pm dL (plan.take pm) hl0 W h1 h2 h3 h4 h0 hls (M.isPlan_take hpl pm))
       clear hsh hkx hSu hSe hb4_
       subst hA4
       go_upto_region 21 with fail
       have HSE : Hid (∀ w', Ev W2 w' → (∀ o, w'.cell? ⟨w.heap.size, o, none⟩ = W2.cell? ⟨w.heap.size, o, none⟩) ∧ (∀ o, w'.cell? ⟨q, o, none⟩ = W2.cell? ⟨q, o, none⟩)) := hid (fun w' h => ⟨fun o => h.cells.1 _ o lbx, fun o => h.cells.1 _ o lbq⟩)
       refine wp_region_held_drew (S := fun w' => (∀ o, w'.cell? ⟨w.heap.size, o, none⟩ = W2.cell? ⟨w.heap.size, o, none⟩) ∧ (∀ o, w'.cell? ⟨q, o, none⟩ = W2.cell? ⟨q, o, none⟩)) (by kernel_rfl) (⟨fun o => rfl, fun o => rfl⟩) (fun hHeld => ?_)
       refine tkH 0 (some 147) ?_
       (try simp only [Act.put, sA, sB, sC])
       refine tkH 2 (some 149) ?_
       (try simp only [Act.put, sA, sB, sC])
       refine tkH 4 (some 151) ?_
       (try simp only [Act.put, sA, sB, sC])
       refine tkH 5 (some 152) ?_
       (try simp only [Act.put, sA, sB, sC])
       refine tkH 6 (some 153) ?_
       (try simp only [Act.put, sA, sB, sC])
       refine tkH 7 (some 154) ?_
       (try simp only [Act.put, sA, sB, sC])
       refine tkH 8 (some 155) ?_
       (try simp only [Act.put, sA, sB, sC])
       refine wpAnyH_one (i := 1) rfl (by kernel_rfl) (by rfl) (fun K hK => ?_)
       go_simp
       refine (Field_c f Ag Aw Ab Ac Al ng cg nw cw nb cb nc cc nl cl (by omega) (by omega) (by omega) (by omega) (by omega) _ (HCS.out.ev (hX8.trans (Ev.drew (Ev.refl _))))).mono ?_
       rintro e x10 ⟨⟨Bg10, dg10, Bw10, dw10, Bb10, db10, Bc10, dc10, Bl10, dl10, rfl, hc10⟩, hb10⟩
       have hV10 : Ev W2 x10 := Ev.trans (Ev.drew (Ev.refl _)) hb10
       refine hK.out _ _ (HSE.out _ hV10) (fun hHeld => ?_)
       clear hK K
       (try simp only [Act.put, sA, sB, sC])
       refine wpAnyH_one (i := 3) rfl (by kernel_rfl) (by rfl) (fun K hK => ?_)
       go_simp
       refine (Truth_c Bg Bw ng dg nw dw t (by omega) (by omega) _ ((HTG.out.ev HBB.out).ev hV10) ((HTW.out.ev HBB.out).ev hV10)).mono ?_
       rintro e x11 ⟨⟨T10, u10, S10, s10, rfl, ht10, hs10⟩, hb11⟩
       have hV11 : Ev W2 x11 := Ev.trans hV10 hb11
       refine hK.out _ _ (HSE.out _ hV11) (fun hHeld => ?_)
       clear hK K
       (try simp only [Act.put, sA, sB, sC])
       refine wpAnyH_one (i := 9) rfl (by kernel_rfl) (by rfl) (fun K hK => ?_)
       go_simp
       refine (list_c _ pm dL (plan.take pm) (by omega) _ (HS9.out.ev hV11)).mono ?_
       rintro e x12 ⟨⟨L10, dL10, rfl, ho10⟩, hb12⟩
       have hV12 : Ev W2 x12 := Ev.trans hV11 hb12
       refine hK.out _ _ (HSE.out _ hV12) (fun hHeld => ?_)
       clear hK K
       (try simp only [Act.put, sA, sB, sC])
       refine wpAnyH_one (i := 10) rfl (by kernel_rfl) (by rfl) (fun K hK => ?_)
       go_simp
       refine (HPL10.out Bg10 dg10 Bw10 dw10 Bb10 db10 Bc10 dc10 Bl10 dl10 T10 u10 S10 s10 L10 dL10 _ ((hc10.ev hb11).ev hb12) (ht10.ev hb12) (hs10.ev hb12) (sl_own (enc := ics) (by decide) (ics_len _) (by omega) ho10)).mono ?_
       rintro e x13 ⟨⟨CB10, cd10, rfl, hcr10⟩, hb13⟩
       have hV13 : Ev W2 x13 := Ev.trans hV12 hb13
       refine hK.out _ _ (HSE.out _ hV13) (fun hHeld => ?_)
       clear hK K
       (try simp only [Act.put, sA, sB, sC])
       refine tkH 11 (some 146) ?_
       (try simp only [Act.put, sA, sB, sC])
       refine tkH 12 (some 158) ?_
       (try simp only [Act.put, sA, sB, sC])
       refine tkH 13 (some 159) ?_
       (try simp only [Act.put, sA, sB, sC])
       refine tkH 14 (some 17) ?_
       (try simp only [Act.put, sA, sB, sC])
       refine tkH 15 (some 18) ?_
       (try simp only [Act.put, sA, sB, sC])
       refine wpAnyH_done (by kernel_rfl) ?_ _
       have hX13 := hX8.trans hV13
       have HCR2 := hid (sl_own (enc := crc) (by decide) (crc_len _) (by omega) hcr10)
       have hpt := M.play_take hv hls hpl pm
       rw [hpt] at HCR2
       have HPT := hid (fun k (h : k ≤ pm) => M.wsum_take (M.play f t plan) pm k h)
       generalize (M.play f t plan).take pm = LM at HCR2 HPT
       have HWB := hid (fun k (h : k ≤ pm) => M.wsum_bd hv hl9 hls hpl k (by have := HPL_.out; have := HPM.out; omega))
       have HWA := hid (fun (k : Nat) (c : M.Cr) (h : LM[k]? = some c) => M.wsum_succ h)
       clear y0 y1 y2 y3 y4 y5 y6 y7 y8
       obtain ⟨y0, y1, y2, y3, y4, y5, y6, y7, y8⟩ := cells9 ((HBB.out.trans hV13).heap Q7.out)
       clear q0 q1 hHeld HSE hc10 ht10 hs10 ho10 hcr10 HPL10 hpt
       go_wp2_with fail
       go_loopw [19, 20] (fun l i wr => ∃ k : Nat, l = .int .i64 (M.wsum LM k) ∧ i = .int .i64 k ∧ k ≤ pm ∧ Ev x13 wr) (fun _ i _ => pm - (intOf i).toNat)
       case atStart => exact ⟨0, by simp [M.wsum], rfl, by omega, Ev.refl _⟩
       case round =>
        obtain ⟨k9, rfl, rfl, hk9, hB9⟩ := hrel
        obtain ⟨W3, hWr3⟩ : ∃ x, x = wr := ⟨_, rfl⟩
        subst hWr3
        by_cases hlt9 : k9 < pm
        ·
         obtain ⟨b1_, o1_, c, hA1, hb1_, hc1, _, hcc⟩ := HCR2.out.at_ hB9 hlt9
         have e0 := hcc 0 _ rfl
         have e1 := hcc 1 _ rfl
         have e2 := hcc 2 _ rfl
         simp only [Nat.add_zero] at e0
         have hcp := HCR2.out.cap
         have hws := HWA.out k9 c hc1
         have hw1_ := HWB.out k9 (by omega)
         have hw2_ := HWB.out (k9 + 1) (by omega)
         rw [← HPT.out k9 (by omega)] at hw1_
         rw [← HPT.out (k9 + 1) (by omega), hws] at hw2_
         have r4 : IntKind.i64.wrap (M.wsum LM k9 + c.wo) = M.wsum LM k9 + c.wo := IntWalk.i64_in _ (by omega)
         have HWS := hid hws
         subst hA1
         clear hcc hc1 hws hw1_ hw2_
         go_wp2_with fail
         exact ⟨⟨k9 + 1, by rw [HWS.out], by go_num, by omega, hB9⟩, by simp [intOf]; omega⟩
        ·
         have hkp9 : pm = k9 := by omega
         subst hkp9
         have hkn9 : ¬ ((pm : Int) < pm) := by omega
         have hle := HWU.out
         rw [← HPT.out pm (by omega)] at hle
         have hSG := HSU.out
         have hSQ := HSEQ.out
         rw [← HKX.out] at hSG hSQ
         generalize M.wsum LM pm = less at hle
         generalize M.upK t.gr k = grown at hSG hSQ
         have hX14 := hid (hX13.trans hB9)
         clear HWU HWB HWA HPT HCR2 HSU HSEQ HKX hupb
         cases wt with
         | true =>
          go_wp2_with (first | (go_at_call 14; with_reducible refine (awake_c _).mono ?_; rintro e w99 ⟨rfl, hb99⟩) | (with_reducible refine ⟨trivial, ?_⟩))
          go_ret
          exact ⟨rfl, hX14.out.trans hb99⟩
         | false =>
          obtain rfl := hSQ.out rfl
          go_wp2_with (first | (go_at_call 14; with_reducible refine (awake_c _).mono ?_; rintro e w99 ⟨rfl, hb99⟩) | (with_reducible refine ⟨trivial, ?_⟩))
          go_ret
          exact ⟨rfl, hX14.out.trans hb99⟩

theorem cropMade_c (f : M.Cf) (Ag Aw Ab Ac Al : Option Addr) (ng cg nw cw nb cb nc cc nl cl : Nat) (hl0 : -9223372036854775808 ≤ f.last) (a b : Int) (a0 : 0 ≤ a) (a1 : a < 65536) (b0 : 0 ≤ b) (b1 : b < 65536) (w : World) (hs : M.small ng nw nb nc nl → CS w w.heap.size f Ag Aw Ab Ac Al ng cg nw cw nb cb nc cc nl cl) :
  Calls Try.prog 6 #[.agg #[.int .i64 f.last, .slice Ag ng cg, .slice Aw nw cw, .slice Ab nb cb, .slice Ac nc cc, .int .i64 f.ripe, .int .i64 f.late, .int .i64 f.trod, .slice Al nl cl], .int .u16 a, .int .u16 b] w fun e w' => e = .returned (.bool true) ∧ Ev w w' := by
 cases hr : M.rdy f ng nw nb nc nl with
 | false => exact cropMade_no f Ag Aw Ab Ac Al ng cg nw cw nb cb nc cc nl cl hl0 a b a0 a1 b0 b1 w hs hr
 | true =>
  have h1 := hr
  unfold M.rdy at h1
  rw [Bool.and_eq_true, Bool.and_eq_true, decide_eq_true_eq, decide_eq_true_eq] at h1
  obtain ⟨⟨hsm, _⟩, h0⟩ := h1
  exact cropMade_yes f Ag Aw Ab Ac Al ng cg nw cw nb cb nc cc nl cl hl0 a b a0 a1 b0 b1 w (hid (hs hsm)) hr hsm h0

end Go.Proofs.Ytffbkbcjddigdaa
