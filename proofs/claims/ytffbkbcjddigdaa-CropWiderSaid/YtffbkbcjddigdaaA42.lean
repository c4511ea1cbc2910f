import Derived.Test.YtffbkbcjddigdaaA38
set_option linter.unusedSimpArgs false
set_option linter.unusedVariables false
namespace Go.Proofs.Ytffbkbcjddigdaa
open Go.RowKit Go.Shelf

theorem M.idx_at (v : Int) : ∀ (xs : List Int) (k : Int), v ∈ xs → ∃ j : Nat, M.idx v xs k = k + j ∧ j < xs.length ∧ xs[j]? = some v
 | [], _, h => by cases h
 | y :: r, k, h => by
  unfold M.idx
  by_cases e : v = y
  ·
   subst e
   exact ⟨0, by simp, by simp, by simp⟩
  ·
   rw [if_neg e]
   have hm : v ∈ r := by
    rcases List.mem_cons.1 h with h | h
    ·
     exact absurd h e
    ·
     exact h
   obtain ⟨j, h1, h2, h3⟩ := M.idx_at v r (k + 1) hm
   exact ⟨j + 1, by rw [h1]; omega, by simp; omega, by simpa using h3⟩
theorem M.span_mem {l : List Int} (h : l ≠ []) : (M.span l).lo ∈ l := by
 cases l with
 | nil => exact absurd rfl h
 | cons a r => exact List.mem_cons.2 (M.least_mem a r)

set_option maxRecDepth 100000 in
set_option maxHeartbeats 4000000 in
theorem Worst_ok (f : M.Cf) (Ag Aw Ab Ac Al : Option Addr) (ng cg nw cw nb cb nc cc nl cl : Nat) (P : Option Addr) (pn pc : Nat) (plan : List Int) (hl0 : -9223372036854775808 ≤ f.last) (w : World) (hs : CS w w.heap.size f Ag Aw Ab Ac Al ng cg nw cw nb cb nc cc nl cl) (hp : Sl ics 1 w w.heap.size P pn pc plan) (h0 : M.begin f (M.isPlan f plan) = 0) :
  Calls Try.prog 51 #[.agg #[.int .i64 f.last, .slice Ag ng cg, .slice Aw nw cw, .slice Ab nb cb, .slice Ac nc cc, .int .i64 f.ripe, .int .i64 f.late, .int .i64 f.trod, .slice Al nl cl], .slice P pn pc] w fun e w' => (∃ (t : M.Tr) (Tg Tw : Option Addr) (tg tgc tw twc : Nat), t ∈ M.truths f ∧ M.total f t plan = (M.worth f plan).lo ∧ e = .returned (.tuple #[.agg #[.slice Tg tg tgc, .slice Tw tw twc], .int .i64 0]) ∧ Sl ics 1 w' w'.heap.size Tg tg tgc t.gr ∧ Sl ics 1 w' w'.heap.size Tw tw twc t.wet) ∧ Ev w w' := by
 obtain ⟨hc0, hnm, hne⟩ := M.begin0 h0
 have hts := M.truths_listed hc0
 obtain ⟨hl9, _, _, hv, _⟩ := M.check0 hc0
 have hgv := (M.valid_parts hv).2.1
 have hpl := hnm
 have HIP := hid (fun W (hE : Ev w W) => isPlan_c f Ag Aw Ab Ac Al ng cg nw cw nb cb nc cc nl cl hs.b.len hs.b.small P pn pc plan W (hp.ev hE))
 rw [hnm] at HIP h0
 have HBG := hid (fun W (hE : Ev w W) => begin_ok f Ag Aw Ab Ac Al ng cg nw cw nb cb nc cc nl cl hl0 true h0 W (hs.ev hE))
 clear h0
 go_enter Try.func51, Try.ntmps51
 go_upto_region 1 with fail
 generalize hW0 : World.alloc (World.alloc w _) _ = W0
 have hE0 : Ev w W0 := by rw [← hW0]; exact Ev.alloc (Ev.alloc (Ev.refl _) _) _
 have hal := alloc2 w (.cells #[.int .i64 f.last, .slice Ag ng cg, .slice Aw nw cw, .slice Ab nb cb, .slice Ac nc cc, .int .i64 f.ripe, .int .i64 f.late, .int .i64 f.trod, .slice Al nl cl] 38) (.cells #[.slice none 0 0, .slice none 0 0] 40)
 rw [hW0] at hal
 have Q0 := hid hal.1
 have Q1 := hid hal.2.1
 have HZ := hid hal.2.2
 clear hal hW0
 obtain ⟨y0, y1, y2, y3, y4, y5, y6, y7, y8⟩ := cells9 Q0.out
 have l0 := heap_lt Q0.out
 have HSE : Hid (∀ w', Ev W0 w' → (∀ o, w'.cell? ⟨w.heap.size, o, none⟩ = W0.cell? ⟨w.heap.size, o, none⟩)) := hid (fun w' h => fun o => h.cells.1 _ o l0)
 refine wp_region_held_drew (S := fun w' => (∀ o, w'.cell? ⟨w.heap.size, o, none⟩ = W0.cell? ⟨w.heap.size, o, none⟩)) (by kernel_rfl) (fun o => rfl) (fun hHeld => ?_)
 refine tkH 0 (some 10) ?_
 (try simp only [Act.put, sA, sB, sC])
 refine tkH 1 (some 11) ?_
 (try simp only [Act.put, sA, sB, sC])
 refine tkH 2 (some 12) ?_
 (try simp only [Act.put, sA, sB, sC])
 refine wpAnyH_one (i := 3) rfl (by kernel_rfl) (by rfl) (fun K hK => ?_)
 go_simp
 refine (HIP.out _ (hE0.trans (Ev.drew (Ev.refl _)))).mono ?_
 rintro e w4 ⟨rfl, hb4⟩
 have hE4 : Ev W0 w4 := Ev.trans (Ev.drew (Ev.refl _)) hb4
 refine hK.out _ _ (HSE.out _ hE4) (fun hHeld => ?_)
 clear hK K
 (try simp only [Act.put, List.setIfInBounds_toArray, List.set_cons_zero, List.set_cons_succ])
 refine wpAnyH_one (i := 4) rfl (by kernel_rfl) (by rfl) (fun K hK => ?_)
 go_simp
 refine (HBG.out _ (hE0.trans hE4)).mono ?_
 rintro e w5 ⟨⟨At, As, nt, ct, ns, cs, p, mb, rfl, hwc, hmb⟩, hb5⟩
 have hE5 : Ev W0 w5 := hE4.trans hb5
 refine hK.out _ _ (HSE.out _ hE5) (fun hHeld => ?_)
 clear hK K
 (try simp only [Act.put, List.setIfInBounds_toArray, List.set_cons_zero, List.set_cons_succ])
 refine tkH 5 (some 9) ?_
 (try simp only [Act.put, sA, sB, sC])
 refine tkH 6 (some 15) ?_
 (try simp only [Act.put, sA, sB, sC])
 refine tkH 7 (some 16) ?_
 (try simp only [Act.put, sA, sB, sC])
 refine tkH 8 (some 6) ?_
 (try simp only [Act.put, sA, sB, sC])
 refine tkH 9 (some 7) ?_
 (try simp only [Act.put, sA, sB, sC])
 refine wpAnyH_done (by kernel_rfl) ?_ _
 have q1 := hE5.heap Q1.out
 have hs4 := hE4.size
 have hZ := HZ.out
 have htl := hwc.ntl
 have hnt : 0 < nt := by
  rw [← htl]
  exact List.length_pos_iff.2 hne
 have HWC := hid hwc
 have HQ := hid q1
 clear q1 y0 y1 y2 y3 y4 y5 y6 y7 y8 hwc
 have HWO := hid (worths_c f Ag Aw Ab Ac Al ng cg nw cw nb cb nc cc nl cl At As nt ct ns cs p mb P pn pc plan (M.truths f) (M.stands f) hc0 hts hpl w5 HWC.out ((hp.ev hE0).ev hE5))
 have HSPX := hid (fun B d W (h : Sl ics 1 W W.heap.size B nt d ((M.truths f).map fun t => M.total f t plan)) => (show Calls Try.prog 65 #[.slice B nt d] W fun e w' => e = .returned (.agg #[.int .i64 (M.worth f plan).lo, .int .i64 (M.worth f plan).hi]) ∧ Ev W w' from spanL_c B nt d _ W hnt h))
 have hmem : (M.worth f plan).lo ∈ (M.truths f).map fun t => M.total f t plan := M.span_mem (by simpa using hne)
 obtain ⟨j, hj, hjl, hjx⟩ := M.idx_at _ _ 0 hmem
 rw [List.length_map] at hjl
 rw [List.getElem?_map] at hjx
 have htk : (M.truths f)[j]? = some ((M.truths f)[j]'hjl) := List.getElem?_eq_getElem _
 rw [htk] at hjx
 generalize (M.truths f)[j]'hjl = t at htk hjx
 have hto : M.total f t plan = (M.worth f plan).lo := by simpa using hjx
 have htm := List.mem_of_getElem? htk
 have htg := M.listed_bd hv (hts t htm)
 have HIX := hid (fun B d W (h : Sl ics 1 W W.heap.size B nt d ((M.truths f).map fun t => M.total f t plan)) => idx_c B nt d _ (M.worth f plan).lo W h)
 rw [hj, Int.zero_add] at HIX
 have hjn : j < nt := by omega
 have HTG := hid htg
 have HHI := hid hgv
 have HL0 := hid (M.valid_parts hv).1
 clear hj hjx htg hmem hjl htl hgv hts hne
 generalize hlo : (M.worth f plan).lo = lo at HSPX HIX hto
 have HLO := hid hlo
 clear hlo
 generalize (M.worth f plan).hi = hi at HSPX
 have fieldLo' := fieldLo lo hi
 go_upto_region 5 with (go_at_call 66; with_reducible refine HWO.out.mono ?_; rintro e w6 ⟨⟨B, d, rfl, hsl⟩, hw6, hm6⟩; have HSP := hid (HSPX.out B d); have HID := hid (HIX.out B d); have HSL := hid hsl; have HW6 := hid hw6; have HM6 := hid hm6; clear hsl hw6 hm6)
 have hq6 := HM6.out.heap HQ.out (by omega)
 obtain ⟨vs, hvs, hrs⟩ := HW6.out.tr
 obtain ⟨b, off, v, rfl, hb, hx, hd, hcc⟩ := hvs.at_ (Below.refl _ _) hjn
 have hcap := hvs.cap
 obtain ⟨r1, r2, r3, r4⟩ := hrs.2 j v t hx htk
 have e0 := hcc 0 _ rfl
 have e1 := hcc 1 _ rfl
 simp only [Nat.add_zero] at e0
 have hvl : v.1.2.1 ≠ 0 := by
  have h1 := (sl_own (enc := ics) (by decide) (ics_len _) (by omega) r1).len
  have h2 := HTG.out.1
  have h3 := HHI.out
  have h4 := HL0.out
  omega
 have hbq : b ≠ w.heap.size + 1 := by
  rintro rfl
  obtain ⟨z0, z1⟩ := cells2 hq6
  have hh : off + j * 2 = 0 ∨ off + j * 2 = 1 := by
   have hlt := (Array.getElem?_eq_some_iff.1 ((cell_in hq6 (off + j * 2)).symm.trans e0)).1
   simp at hlt
   omega
  rcases hh with hh | hh <;> rw [hh] at e0
  ·
   rw [z0] at e0
   simp at e0
   exact hvl e0.2.1.symm
  ·
   rw [z1] at e0
   simp at e0
   exact hvl e0.2.1.symm
 have lp := heap_lt HW6.out.hd
 have hpq : p ≠ w.heap.size + 1 := by
  rintro rfl
  have h1 := HW6.out.hd
  rw [hq6] at h1
  simp at h1
 obtain ⟨k0, k1, k2, k3, k4, k5, k6, k7, k8, k9, k10, k11⟩ := cells12 HW6.out.hd
 have R1 := hid r1
 have R2 := hid r2
 have HQ6 := hid hq6
 have HE6 := hid (Mo.evr (hE0.trans hE5) HM6.out (by omega))
 clear hx hd hcc hvs hrs r1 r2 htk hq6
 have HSE : Hid (∀ w', Ev w6 w' → (∀ o, w'.cell? ⟨p, o, none⟩ = w6.cell? ⟨p, o, none⟩) ∧ (∀ o, w'.cell? ⟨b, o, none⟩ = w6.cell? ⟨b, o, none⟩)) := hid (fun w' h => ⟨fun o => h.cells.1 _ o lp, fun o => h.cells.1 _ o hb⟩)
 refine wp_region_held_drew (S := fun w' => (∀ o, w'.cell? ⟨p, o, none⟩ = w6.cell? ⟨p, o, none⟩) ∧ (∀ o, w'.cell? ⟨b, o, none⟩ = w6.cell? ⟨b, o, none⟩)) (by kernel_rfl) (⟨fun o => rfl, fun o => rfl⟩) (fun hHeld => ?_)
 refine tkH 0 (some 24) ?_
 (try simp only [Act.put, sA, sB, sC])
 refine tkH 1 (some 25) ?_
 (try simp only [Act.put, sA, sB, sC])
 refine tkH 2 (some 26) ?_
 (try simp only [Act.put, sA, sB, sC])
 refine tkH 3 (some 27) ?_
 (try simp only [Act.put, sA, sB, sC])
 refine tkH 4 (some 28) ?_
 (try simp only [Act.put, sA, sB, sC])
 refine tkH 5 (some 29) ?_
 (try simp only [Act.put, sA, sB, sC])
 refine wpAnyH_one (i := 6) rfl (by kernel_rfl) (by rfl) (fun K hK => ?_)
 go_simp
 refine (HSP.out _ (HSL.out.ev (Ev.drew (Ev.refl _)))).mono ?_
 rintro e w7 ⟨rfl, hb7⟩
 have hE7 : Ev w6 w7 := Ev.trans (Ev.drew (Ev.refl _)) hb7
 refine hK.out _ _ (HSE.out _ hE7) (fun hHeld => ?_)
 clear hK K
 (try simp only [Act.put, List.setIfInBounds_toArray, List.set_cons_zero, List.set_cons_succ])
 refine tkH 7 (some 31) ?_
 (try simp only [Act.put, sA, sB, sC])
 refine wpAnyH_one (i := 8) rfl (by kernel_rfl) (by rfl) (fun K hK => ?_)
 go_simp
 refine (HID.out _ (HSL.out.ev hE7)).mono ?_
 rintro e w8 ⟨rfl, hb8⟩
 have hE8 : Ev w6 w8 := hE7.trans hb8
 refine hK.out _ _ (HSE.out _ hE8) (fun hHeld => ?_)
 clear hK K
 (try simp only [Act.put, List.setIfInBounds_toArray, List.set_cons_zero, List.set_cons_succ])
 refine tkH 9 (some 33) ?_
 (try simp only [Act.put, sA, sB, sC])
 refine tkH 10 (some 34) ?_
 (try simp only [Act.put, sA, sB, sC])
 have hq8 := hE8.heap HQ6.out
 obtain ⟨z0, z1⟩ := cells2 hq8
 obtain ⟨f0, f1⟩ := frz2 hq8
 have HQ8 := hid hq8
 have HE8 := hid hE8
 clear hq8
 refine wpAnyH_one (i := 11) rfl (by kernel_rfl) (by rfl) (fun K hK => ?_)
 go_simp
 have HS11 : Hid ((∀ o, ((w8.setCell ⟨w.heap.size + 1, 0, none⟩ (.slice v.1.1 v.1.2.1 v.1.2.2)).setCell ⟨w.heap.size + 1, 1, none⟩ (.slice v.2.1 v.2.2.1 v.2.2.2)).cell? ⟨p, o, none⟩ = w6.cell? ⟨p, o, none⟩) ∧ (∀ o, ((w8.setCell ⟨w.heap.size + 1, 0, none⟩ (.slice v.1.1 v.1.2.1 v.1.2.2)).setCell ⟨w.heap.size + 1, 1, none⟩ (.slice v.2.1 v.2.2.1 v.2.2.2)).cell? ⟨b, o, none⟩ = w6.cell? ⟨b, o, none⟩)) := hid ⟨fun o => (cell_set_ne hpq).trans ((cell_set_ne hpq).trans ((HSE.out _ hE8).1 o)), fun o => (cell_set_ne hbq).trans ((cell_set_ne hbq).trans ((HSE.out _ hE8).2 o))⟩
 refine hK.out _ _ (HS11.out) (fun hHeld => ?_)
 clear hK K
 (try simp only [Act.put, List.setIfInBounds_toArray, List.set_cons_zero, List.set_cons_succ])
 refine tkH 12 (some 5) ?_
 (try simp only [Act.put, sA, sB, sC])
 refine wpAnyH_done (by kernel_rfl) ?_ _
 go_wp2
 have h1F := set_heap_same (j := 0) (v := (.slice v.1.1 v.1.2.1 v.1.2.2 : Value)) HQ8.out
 have hF : ((w8.setCell ⟨w.heap.size + 1, 0, none⟩ (.slice v.1.1 v.1.2.1 v.1.2.2)).setCell ⟨w.heap.size + 1, 1, none⟩ (.slice v.2.1 v.2.2.1 v.2.2.2)).heap[w.heap.size + 1]? = some (.cells #[.slice v.1.1 v.1.2.1 v.1.2.2, .slice v.2.1 v.2.2.1 v.2.2.2] 40 (0, 0)) := by
  rw [set_heap_same h1F]; rfl
 obtain ⟨d0, d1⟩ := cells2 hF
 have o1 := own_set (j := 1) (u := (.slice v.2.1 v.2.2.1 v.2.2.2 : Value)) (own_set (j := 0) (u := (.slice v.1.1 v.1.2.1 v.1.2.2 : Value)) (R1.out.ev HE8.out) HQ8.out (by decide)) h1F (by decide)
 have o2 := own_set (j := 1) (u := (.slice v.2.1 v.2.2.1 v.2.2.2 : Value)) (own_set (j := 0) (u := (.slice v.1.1 v.1.2.1 v.1.2.2 : Value)) (R2.out.ev HE8.out) HQ8.out (by decide)) h1F (by decide)
 refine bodyPost_ret (v := .tuple #[.agg #[.slice v.1.1 v.1.2.1 v.1.2.2, .slice v.2.1 v.2.2.1 v.2.2.2], .int .i64 0]) (by simp [results, Try.results51, go_sem, d0, d1]) rfl ⟨⟨t, v.1.1, v.2.1, v.1.2.1, v.1.2.2, v.2.2.1, v.2.2.2, htm, hto.trans HLO.out.symm, rfl, sl_own (enc := ics) (by decide) (ics_len _) (by omega) o1, sl_own (enc := ics) (by decide) (ics_len _) (by omega) o2⟩, ?_⟩
 exact Ev.setCell (Ev.setCell (HE6.out.trans HE8.out) (by simp) _) (by simp) _

end Go.Proofs.Ytffbkbcjddigdaa

set_option linter.unusedSimpArgs false
set_option linter.unusedVariables false
namespace Go.Proofs.Ytffbkbcjddigdaa
open Go.RowKit Go.Shelf

theorem M.look_bd {f : M.Cf} (h : M.check f = 0) : ∀ l ∈ f.looks, 0 ≤ l.wk ∧ l.wk ≤ 9 := fun l hl => by
 obtain ⟨h9, _, _, hv, _⟩ := M.check0 h
 obtain ⟨_, _, _, _, _, _, _, _, _, _, _, _, hlk⟩ := M.valid_parts hv
 have h1 := hlk l hl
 unfold M.validLook M.hasWeek at h1
 simp only [Bool.and_eq_true, decide_eq_true_eq] at h1
 omega
/-- The first wrong look at k or later, of so many; 0 and 7 if there is none. -/
def M.wrongK (f : M.Cf) : Nat → Nat → Int × Int
 | _, 0 => (0, 7)
 | k, j + 1 => if M.fit f (f.looks.take (k + 1)) then M.wrongK f (k + 1) j else ((k : Int), 0)
def M.wrong (f : M.Cf) : Int × Int := if M.check f = 0 then M.wrongK f 0 f.looks.length else (0, M.check f)

set_option maxRecDepth 100000 in
set_option maxHeartbeats 2000000 in
theorem First_c (f : M.Cf) (Ag Aw Ab Ac Al : Option Addr) (ng cg nw cw nb cb nc cc nl cl : Nat) (hl0 : -9223372036854775808 ≤ f.last) (w : World) (hs : CS w w.heap.size f Ag Aw Ab Ac Al ng cg nw cw nb cb nc cc nl cl) :
  Calls Try.prog 36 #[.agg #[.int .i64 f.last, .slice Ag ng cg, .slice Aw nw cw, .slice Ab nb cb, .slice Ac nc cc, .int .i64 f.ripe, .int .i64 f.late, .int .i64 f.trod, .slice Al nl cl]] w fun e w' => e = .returned (.tuple #[.int .i64 (M.wrong f).1, .int .i64 (M.wrong f).2]) ∧ Ev w w' := by
 have HCK := hid (fun W (hE : Ev w W) => check_c f Ag Aw Ab Ac Al ng cg nw cw nb cb nc cc nl cl hl0 W (hs.ev hE))
 have HOP := hid (fun (h : M.check f = 0) W (hE : Ev w W) => open_c f Ag Aw Ab Ac Al ng cg nw cw nb cb nc cc nl cl h W (hs.ev hE))
 have HLN := hid hs.l.len
 have HS := hid hs
 clear hs
 generalize hk : M.check f = k at HCK
 have HK := hid hk
 clear hk
 by_cases h0 : k = 0
 ·
  subst h0
  have HO := hid (HOP.out HK.out)
  have hl5 : nl ≤ 5 := by rw [← HLN.out]; exact (M.check0 HK.out).2.2.1
  have HLB := hid (M.look_bd HK.out)
  have HF := hid (show M.wrong f = M.wrongK f 0 nl by unfold M.wrong; rw [HK.out, if_pos rfl, HLN.out])
  clear HOP
  go_enter Try.func36, Try.ntmps36
  go_wp2_with (first | (go_at_call 21; with_reducible refine (HCK.out _ (Ev.alloc (Ev.refl _) _)).mono ?_; rintro e w1 ⟨rfl, hb1⟩; have hc1 := cells9 (hb1.heap (alloc1 w (.cells #[.int .i64 f.last, .slice Ag ng cg, .slice Aw nw cw, .slice Ab nb cb, .slice Ac nc cc, .int .i64 f.ripe, .int .i64 f.late, .int .i64 f.trod, .slice Al nl cl] 38)).1); have hq1 := hid (hb1.heap (alloc1 w (.cells #[.int .i64 f.last, .slice Ag ng cg, .slice Aw nw cw, .slice Ab nb cb, .slice Ac nc cc, .int .i64 f.ripe, .int .i64 f.late, .int .i64 f.trod, .slice Al nl cl] 38)).1); obtain ⟨g0, g1, g2, g3, g4, g5, g6, g7, g8⟩ := hc1) | (go_at_call 69; with_reducible refine (HO.out _ (Ev.trans (Ev.alloc (Ev.refl _) _) hb1)).mono ?_; rintro e w2 ⟨⟨At, As, nt, ct, ns, cs, p, mb, rfl, hwk, hmb⟩, hb2⟩; have HWK := hid hwk; clear hwk; obtain ⟨e0, e1, e2, e3, e4, e5, e6, e7, e8⟩ := cells9 (hb2.heap hq1.out)))
  have hE2 : Ev w w2 := Ev.trans (Ev.trans (Ev.alloc (Ev.refl _) _) hb1) hb2
  have E8 := hid e8
  clear g0 g1 g2 g3 g4 g5 g6 g7 g8 e0 e1 e2 e3 e4 e5 e6 e7 e8
  go_loopw [17] (fun v wr => ∃ k : Nat, v = .int .i64 k ∧ k ≤ nl ∧ Ev w2 wr ∧ Hid (M.wrongK f k (nl - k) = M.wrong f)) (fun v _ => nl - (intOf v).toNat)
  case atStart => exact ⟨0, rfl, by omega, Ev.refl _, hid (by rw [HF.out]; rfl)⟩
  case round =>
   obtain ⟨k, rfl, hk, hB, HM⟩ := hrel
   by_cases hlt : k < nl
   ·
    have hsl := HS.out.l
    obtain ⟨b, off, hAl, _⟩ := hsl.cells (by omega)
    have hcl := hsl.cap
    subst hAl
    have HFT := hid (fun W (hE : Ev w2 W) => fit_c f Ag Aw Ab Ac (some ⟨b, off, none⟩) ng cg nw cw nb cb nc cc nl cl At As nt ct ns cs p mb (M.truths f) (some ⟨b, off, none⟩) (k + 1) cl (f.looks.take (k + 1)) (fun l hl => HLB.out l (List.mem_of_mem_take hl)) W (HWK.out.ev hE) ((hsl.take (by omega)).ev (hE2.trans hE)))
    have hM := HM.out
    rw [show nl - k = (nl - (k + 1)) + 1 from by omega] at hM
    unfold M.wrongK at hM
    generalize M.fit f (f.looks.take (k + 1)) = b2 at HFT hM
    have HM2 := hid hM
    have e8' := (hB.cells.1 _ 8 (heap_lt (hb2.heap hq1.out))).trans E8.out
    clear hM hsl
    cases b2 with
    | true =>
     go_wp2_with (go_at_call 74; with_reducible refine (HFT.out _ hB).mono ?_; rintro e w3 ⟨rfl, hb3⟩)
     exact ⟨⟨k + 1, by go_num, by omega, hB.trans hb3, hid (by have := HM2.out; simpa using this)⟩, by simp [intOf]; omega⟩
    | false =>
     go_wp2_with (go_at_call 74; with_reducible refine (HFT.out _ hB).mono ?_; rintro e w3 ⟨rfl, hb3⟩)
     go_ret2
     refine ⟨?_, hE2.trans (hB.trans hb3)⟩
     have h2 := HM2.out
     rw [if_neg (by decide)] at h2
     rw [← h2]
     rfl
   ·
    have hM := HM.out
    rw [show nl - k = 0 from by omega] at hM
    have HM2 := hid hM
    clear hM
    go_wp2
    go_ret2
    refine ⟨?_, hE2.trans hB⟩
    have h2 := HM2.out
    rw [← h2]
    rfl
 ·
  have hne : (k != 0) = true := by simpa using h0
  have H0 := hid h0
  clear h0
  go_enter Try.func36, Try.ntmps36
  go_wp2_with (go_at_call 21; with_reducible refine (HCK.out _ (Ev.alloc (Ev.refl _) _)).mono ?_; rintro e w1 ⟨rfl, hb1⟩)
  go_ret2
  refine ⟨?_, Ev.trans (Ev.alloc (Ev.refl _) _) hb1⟩
  rw [show M.wrong f = (0, k) by unfold M.wrong; rw [HK.out, if_neg H0.out]]
  rfl

end Go.Proofs.Ytffbkbcjddigdaa

set_option linter.unusedSimpArgs false
set_option linter.unusedVariables false
namespace Go.Proofs.Ytffbkbcjddigdaa
open Go.RowKit Go.Shelf

theorem Wc.other {w w' : World} {f : M.Cf} {Ag Aw Ab Ac Al : Option Addr} {ng cg nw cw nb cb nc cc nl cl : Nat} {At As : Option Addr} {nt ct ns cs p mb : Nat} {ts : List M.Tr} {ss : List (List Int)} (h : Wc w f Ag Aw Ab Ac Al ng cg nw cw nb cb nc cc nl cl At As nt ct ns cs p mb ts ss) {b0 : Nat} (hq : w.heap[b0]? = some (.cells #[.pointer none, .int .i64 0, .nilFunc] 123 (0, 0)))
  (hsz : w'.heap.size = w.heap.size) (hk : ∀ k, k ≠ b0 → w'.heap[k]? = w.heap[k]?) (hfd : CS w' w'.heap.size f Ag Aw Ab Ac Al ng cg nw cw nb cb nc cc nl cl) : Wc w' f Ag Aw Ab Ac Al ng cg nw cw nb cb nc cc nl cl At As nt ct ns cs p mb ts ss := by
 have hcell : ∀ b o v, w.cell? ⟨b, o, none⟩ = some v → b = b0 → v = .pointer none ∨ v = .int .i64 0 ∨ v = .nilFunc := by
  rintro b o v hc rfl
  have h1 := (cell_in hq o).symm.trans hc
  obtain ⟨h2, h3⟩ := Array.getElem?_eq_some_iff.1 h1
  simp at h2
  have h4 : o = 0 ∨ o = 1 ∨ o = 2 := by omega
  rcases h4 with rfl | rfl | rfl <;> simp at h3 <;> simp [← h3]
 have hkc : ∀ b o v, w.cell? ⟨b, o, none⟩ = some v → b ≠ b0 → w'.cell? ⟨b, o, none⟩ = some v := fun b o v hc hne => (World.cell?_of_block (w := w) (hk b hne)).trans hc
 have hown : ∀ (u : Value) (n : Nat) (xs : List Value), w.ownsRow 0 3 1 u n xs → w'.ownsRow 0 3 1 u n xs := by
  intro u n xs ho
  refine ⟨ho.1, ?_⟩
  rcases ho.2 with hn | ⟨g, cap, cur, rfl, hbg, hgg, rest⟩
  ·
   exact .inl hn
  ·
   refine .inr ⟨g, cap, cur, rfl, hbg, ?_, rest⟩
   rw [hk g ?_, hgg]
   rintro rfl
   rw [hq] at hgg
   simp at hgg
 refine ⟨?_, hfd, ?_, ?_, h.s10, ?_, h.n1, h.n2⟩
 ·
  rw [hk p ?_, h.hd]
  rintro rfl
  have := h.hd
  rw [hq] at this
  simp at this
 ·
  obtain ⟨vs, hv, hr⟩ := h.tr
  refine ⟨vs, ⟨hv.len, hv.cap, hv.small, fun hn => ?_⟩, hr.imp hown⟩
  obtain ⟨b, off, hA, hb, hc⟩ := hv.cells hn
  refine ⟨b, off, hA, by omega, fun k x hx j v hj => ?_⟩
  refine hkc _ _ _ (hc k x hx j v hj) ?_
  intro hb0
  have h0 := hcell _ _ _ (hc k x hx j v hj) hb0
  have hm := List.mem_of_getElem? hj
  simp only [thc, List.mem_cons, List.not_mem_nil, or_false] at hm
  rcases hm with rfl | rfl <;> simp at h0
 ·
  refine ⟨h.st.len, h.st.cap, h.st.small, fun hn => ?_⟩
  obtain ⟨b, off, hA, hb, hc⟩ := h.st.cells hn
  refine ⟨b, off, hA, by omega, fun k x hx j v hj => ?_⟩
  refine hkc _ _ _ (hc k x hx j v hj) ?_
  intro hb0
  have hx10 := h.s10 x (List.mem_of_getElem? hx)
  obtain ⟨a0, a1, a2, a3, a4, a5, a6, a7, a8, a9, rfl⟩ := list10 hx10
  have g9 := hc k _ hx 9 _ rfl
  have h1 := (Array.getElem?_eq_some_iff.1 ((cell_in (by rw [hb0]; exact hq) _).symm.trans g9)).1
  simp at h1
  omega
 ·
  obtain ⟨g, hl, es, ck, hh, rest⟩ := h.mp
  refine ⟨g, hl, es, ck, (hk mb ?_).trans hh, rest⟩
  rintro rfl
  rw [hq] at hh
  cases hh

set_option maxRecDepth 100000 in
set_option maxHeartbeats 4000000 in
theorem Leave_ok (f : M.Cf) (Ag Aw Ab Ac Al : Option Addr) (ng cg nw cw nb cb nc cc nl cl : Nat) (hl0 : -9223372036854775808 ≤ f.last) (w : World) (hs : CS w w.heap.size f Ag Aw Ab Ac Al ng cg nw cw nb cb nc cc nl cl) (h0 : M.check f = 0) :
  Calls Try.prog 31 #[.agg #[.int .i64 f.last, .slice Ag ng cg, .slice Aw nw cw, .slice Ab nb cb, .slice Ac nc cc, .int .i64 f.ripe, .int .i64 f.late, .int .i64 f.trod, .slice Al nl cl]] w fun e w' => (∃ B d, e = .returned (.tuple #[.slice B (M.shortest (M.spares f) nl).length d, .int .i64 0]) ∧ Sl ics 1 w' w'.heap.size B (M.shortest (M.spares f) nl).length d (M.shortest (M.spares f) nl)) ∧ Ev w w' := by
 have HCK := hid (fun W (hE : Ev w W) => check_c f Ag Aw Ab Ac Al ng cg nw cw nb cb nc cc nl cl hl0 W (hs.ev hE))
 rw [h0] at HCK
 have HOP := hid (fun W (hE : Ev w W) => open_c f Ag Aw Ab Ac Al ng cg nw cw nb cb nc cc nl cl h0 W (hs.ev hE))
 have hl5 : nl ≤ 5 := by rw [← hs.l.len]; exact (M.check0 h0).2.2.1
 have HLB := hid (M.look_bd h0)
 have HSH := hid (fun At As nt ct ns cs p mb W (hwc : Wc W f Ag Aw Ab Ac Al ng cg nw cw nb cb nc cc nl cl At As nt ct ns cs p mb (M.truths f) (M.stands f)) => callsIn_wide.1 (shortW_in (.pointer (some ⟨p, 0, none⟩)) nl (by omega) (M.spares f) W (fun W' B m d rows L hE hsl _ => spares_c f Ag Aw Ab Ac Al ng cg nw cw nb cb nc cc nl cl At As nt ct ns cs p mb (M.truths f) HLB.out hl5 B m d rows W' (hwc.ev hE) hsl)))
 clear h0
 go_enter Try.func31, Try.ntmps31
 go_upto_region 4 with (go_at_call 21; with_reducible refine (HCK.out _ (Ev.alloc (Ev.refl _) _)).mono ?_; rintro e w1 ⟨rfl, hb1⟩; have hc1 := cells9 (hb1.heap (alloc1 w (.cells #[.int .i64 f.last, .slice Ag ng cg, .slice Aw nw cw, .slice Ab nb cb, .slice Ac nc cc, .int .i64 f.ripe, .int .i64 f.late, .int .i64 f.trod, .slice Al nl cl] 38)).1); have hq1 := hid (hb1.heap (alloc1 w (.cells #[.int .i64 f.last, .slice Ag ng cg, .slice Aw nw cw, .slice Ab nb cb, .slice Ac nc cc, .int .i64 f.ripe, .int .i64 f.late, .int .i64 f.trod, .slice Al nl cl] 38)).1); obtain ⟨g0, g1, g2, g3, g4, g5, g6, g7, g8⟩ := hc1)
 have hG : Ev w w1 := Ev.trans (Ev.alloc (Ev.refl _) _) hb1
 have l0 := heap_lt hq1.out
 have HSE : Hid (∀ w', Ev w1 w' → (∀ o, w'.cell? ⟨w.heap.size, o, none⟩ = w1.cell? ⟨w.heap.size, o, none⟩)) := hid (fun w' h => fun o => h.cells.1 _ o l0)
 refine wp_region_held_drew (S := fun w' => (∀ o, w'.cell? ⟨w.heap.size, o, none⟩ = w1.cell? ⟨w.heap.size, o, none⟩)) (by kernel_rfl) (fun o => rfl) (fun hHeld => ?_)
 refine tkH 0 (some 11) ?_
 (try simp only [Act.put, sA, sB, sC])
 refine tkH 2 (some 13) ?_
 (try simp only [Act.put, sA, sB, sC])
 refine tkH 3 (some 14) ?_
 (try simp only [Act.put, sA, sB, sC])
 refine tkH 4 (some 15) ?_
 (try simp only [Act.put, sA, sB, sC])
 refine wpAnyH_two (i := 1) (j := 6) rfl rfl (by kernel_rfl) (by rfl) (by rfl) (fun K hK => ?_) (fun K hK => ?_)
 ·
  go_simp
  refine (HOP.out _ (hG.trans (Ev.drew (Ev.refl _)))).mono ?_
  rintro e w3 ⟨⟨At, As, nt, ct, ns, cs, p, mb, rfl, hwc, hmb⟩, hb3⟩
  have hE3 : Ev w1 w3 := Ev.trans (Ev.drew (Ev.refl _)) hb3
  have HWA' := hid hwc
  clear hwc
  refine hK.out _ _ (HSE.out _ hE3) (fun hHeld => ?_)
  clear hK K
  (try simp only [Act.put, List.setIfInBounds_toArray, List.set_cons_zero, List.set_cons_succ])
  refine tkH 5 (some 16) ?_
  (try simp only [Act.put, sA, sB, sC])
  refine wpAnyH_one (i := 6) rfl (by kernel_rfl) (by rfl) (fun K hK => ?_)
  go_simp
  generalize hWA : World.alloc w3 _ = WA
  have hal := alloc1 w3 (.cells #[.pointer none, .int .i64 0, .nilFunc] 123)
  rw [hWA] at hal
  have HA := hid hal.1
  have h3A : Ev w3 WA := by rw [← hWA]; exact Ev.alloc (Ev.refl _) _
  have HEA := hid (hE3.trans h3A)
  have HWA := hid (HWA'.out.ev h3A)
  have hz3 := hE3.size
  obtain ⟨x0, x1, x2⟩ := cells3 hal.1
  obtain ⟨f0, f1, f2⟩ := frz3 hal.1
  clear hal hWA h3A
  refine hK.out _ _ (HSE.out _ HEA.out) (fun hHeld => ?_)
  clear hK K
  (try simp only [Act.put, List.setIfInBounds_toArray, List.set_cons_zero, List.set_cons_succ])
  refine wpAnyH_one (i := 7) rfl (by kernel_rfl) (by rfl) (fun K hK => ?_)
  go_simp
  have hXF := set3 (v0 := .pointer (some ⟨p, 0, none⟩)) (v1 := .int .i64 nl) (v2 := .func (.func 70) #[] #[]) HA.out
  have hEF : Ev w1 (((WA.setCell ⟨w3.heap.size, 0, none⟩ (.pointer (some ⟨p, 0, none⟩))).setCell ⟨w3.heap.size, 1, none⟩ (.int .i64 nl)).setCell ⟨w3.heap.size, 2, none⟩ (.func (.func 70) #[] #[])) := Ev.setCell (Ev.setCell (Ev.setCell HEA.out (by simp <;> omega) _) (by simp <;> omega) _) (by simp <;> omega) _
  have hwf := HWA.out.other HA.out (w' := (((WA.setCell ⟨w3.heap.size, 0, none⟩ (.pointer (some ⟨p, 0, none⟩))).setCell ⟨w3.heap.size, 1, none⟩ (.int .i64 nl)).setCell ⟨w3.heap.size, 2, none⟩ (.func (.func 70) #[] #[]))) (by simp) (fun k hk => (Below.heap_setCell _ _ _ k (by simpa using hk)).trans ((Below.heap_setCell _ _ _ k (by simpa using hk)).trans (Below.heap_setCell _ _ _ k (by simpa using hk)))) (hs.ev (hG.trans hEF))
  have HXF := hid hXF
  have HWF := hid hwf
  have HEF := hid hEF
  clear hXF hwf
  generalize ((WA.setCell ⟨w3.heap.size, 0, none⟩ (.pointer (some ⟨p, 0, none⟩))).setCell ⟨w3.heap.size, 1, none⟩ (.int .i64 nl)).setCell ⟨w3.heap.size, 2, none⟩ (.func (.func 70) #[] #[]) = WF at *
  refine hK.out _ _ (HSE.out _ HEF.out) (fun hHeld => ?_)
  clear hK K
  (try simp only [Act.put, List.setIfInBounds_toArray, List.set_cons_zero, List.set_cons_succ])
  refine wpAnyH_done (by kernel_rfl) ?_ _
  have HSX := hid (HSH.out At As nt ct ns cs p mb _ HWF.out)
  obtain ⟨x0, x1, x2⟩ := cells3 HXF.out
  go_wp2_with (go_at_call 71; with_reducible refine HSX.out.mono ?_; rintro e w4 ⟨⟨B, d, rfl, hsl⟩, hb4⟩; have HSL := hid hsl; clear hsl)
  go_ret2
  exact ⟨⟨B, d, rfl, HSL.out⟩, (hG.trans HEF.out).trans hb4⟩
 ·
  go_simp
  generalize hWB : World.drew (World.alloc w1 _) = WB
  have hal := alloc1 w1 (.cells #[.pointer none, .int .i64 0, .nilFunc] 123)
  have h1B : Ev w1 WB := by rw [← hWB]; exact Ev.drew (Ev.alloc (Ev.refl _) _)
  have hqB := (show Ev (w1.alloc (.cells #[.pointer none, .int .i64 0, .nilFunc] 123)) WB from by rw [← hWB]; exact Ev.drew (Ev.refl _)).heap hal.1
  clear hal hWB
  refine hK.out _ _ (HSE.out _ h1B) (fun hHeld => ?_)
  clear hK K
  (try simp only [Act.put, List.setIfInBounds_toArray, List.set_cons_zero, List.set_cons_succ])
  refine wpAnyH_one (i := 1) rfl (by kernel_rfl) (by rfl) (fun K hK => ?_)
  go_simp
  refine (HOP.out _ (hG.trans h1B)).mono ?_
  rintro e w3 ⟨⟨At, As, nt, ct, ns, cs, p, mb, rfl, hwc, hmb⟩, hb3⟩
  have hE3 : Ev w1 w3 := h1B.trans hb3
  have HWA := hid hwc
  have HEA := hid hE3
  have HA := hid (hb3.heap hqB)
  obtain ⟨x0, x1, x2⟩ := cells3 HA.out
  obtain ⟨f0, f1, f2⟩ := frz3 HA.out
  clear hwc
  refine hK.out _ _ (HSE.out _ hE3) (fun hHeld => ?_)
  clear hK K
  (try simp only [Act.put, List.setIfInBounds_toArray, List.set_cons_zero, List.set_cons_succ])
  refine tkH 5 (some 16) ?_
  (try simp only [Act.put, sA, sB, sC])
  refine wpAnyH_one (i := 7) rfl (by kernel_rfl) (by rfl) (fun K hK => ?_)
  go_simp
  have hXF := set3 (v0 := .pointer (some ⟨p, 0, none⟩)) (v1 := .int .i64 nl) (v2 := .func (.func 70) #[] #[]) HA.out
  have hEF : Ev w1 (((w3.setCell ⟨w1.heap.size, 0, none⟩ (.pointer (some ⟨p, 0, none⟩))).setCell ⟨w1.heap.size, 1, none⟩ (.int .i64 nl)).setCell ⟨w1.heap.size, 2, none⟩ (.func (.func 70) #[] #[])) := Ev.setCell (Ev.setCell (Ev.setCell HEA.out (by simp <;> omega) _) (by simp <;> omega) _) (by simp <;> omega) _
  have hwf := HWA.out.other HA.out (w' := (((w3.setCell ⟨w1.heap.size, 0, none⟩ (.pointer (some ⟨p, 0, none⟩))).setCell ⟨w1.heap.size, 1, none⟩ (.int .i64 nl)).setCell ⟨w1.heap.size, 2, none⟩ (.func (.func 70) #[] #[]))) (by simp) (fun k hk => (Below.heap_setCell _ _ _ k (by simpa using hk)).trans ((Below.heap_setCell _ _ _ k (by simpa using hk)).trans (Below.heap_setCell _ _ _ k (by simpa using hk)))) (hs.ev (hG.trans hEF))
  have HXF := hid hXF
  have HWF := hid hwf
  have HEF := hid hEF
  clear hXF hwf
  generalize ((w3.setCell ⟨w1.heap.size, 0, none⟩ (.pointer (some ⟨p, 0, none⟩))).setCell ⟨w1.heap.size, 1, none⟩ (.int .i64 nl)).setCell ⟨w1.heap.size, 2, none⟩ (.func (.func 70) #[] #[]) = WF at *
  refine hK.out _ _ (HSE.out _ HEF.out) (fun hHeld => ?_)
  clear hK K
  (try simp only [Act.put, List.setIfInBounds_toArray, List.set_cons_zero, List.set_cons_succ])
  refine wpAnyH_done (by kernel_rfl) ?_ _
  have HSX := hid (HSH.out At As nt ct ns cs p mb _ HWF.out)
  obtain ⟨x0, x1, x2⟩ := cells3 HXF.out
  go_wp2_with (go_at_call 71; with_reducible refine HSX.out.mono ?_; rintro e w4 ⟨⟨B, d, rfl, hsl⟩, hb4⟩; have HSL := hid hsl; clear hsl)
  go_ret2
  exact ⟨⟨B, d, rfl, HSL.out⟩, (hG.trans HEF.out).trans hb4⟩

end Go.Proofs.Ytffbkbcjddigdaa
