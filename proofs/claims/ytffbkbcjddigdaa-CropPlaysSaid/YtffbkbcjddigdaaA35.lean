import Derived.Test.YtffbkbcjddigdaaA34
set_option linter.unusedSimpArgs false
set_option linter.unusedVariables false
namespace Go.Proofs.Ytffbkbcjddigdaa
open Go.RowKit Go.Shelf

set_option maxRecDepth 100000 in
set_option maxHeartbeats 4000000 in
theorem bounds_c (f : M.Cf) (Ag Aw Ab Ac Al : Option Addr) (ng cg nw cw nb cb nc cc nl cl : Nat) (At As : Option Addr) (nt ct ns cs p mb : Nat) (P : Option Addr) (pn pc : Nat) (plan : List Int) (ts : List M.Tr) (ss : List (List Int)) (h0 : M.check f = 0) (hne : 0 < nt) (hts : ∀ t ∈ ts, M.listed f t = true) (hpl : M.isPlan f plan = true) (w : World) (hw : Wc w f Ag Aw Ab Ac Al ng cg nw cw nb cb nc cc nl cl At As nt ct ns cs p mb ts ss) (hp : Sl ics 1 w w.heap.size P pn pc plan) :
    Calls Try.prog 72 #[.pointer (some ⟨p, 0, none⟩), .slice P pn pc] w fun e w' => (∃ B d, e = .returned (.slice B pn d) ∧ Sl bdc 5 w' w'.heap.size B pn d (M.bounds f ts plan)) ∧ Wc w' f Ag Aw Ab Ac Al ng cg nw cw nb cb nc cc nl cl At As nt ct ns cs p mb ts ss ∧ Mo mb w w' := by
  obtain ⟨i0, hi0, hz0, hz1, hz2⟩ := info_parts infoCs
  obtain ⟨k0, k1, k2, k3, k4, k5, k6, k7, k8, k9, k10, k11⟩ := cells12 hw.hd
  obtain ⟨g0, hgl0, hm0⟩ := hw.mp
  have hml := hm0.lt
  have hn1 := hw.n1
  have hpw := heap_lt hw.hd
  have hpn3 : pn ≤ 3 ∧ pn ≤ nb ∧ ∀ x ∈ plan, 0 ≤ x ∧ x ≤ 9 := by
    have hl9 := (M.check0 h0).1
    unfold M.isPlan M.hasWeek at hpl
    simp only [Bool.and_eq_true, decide_eq_true_eq, List.all_eq_true] at hpl
    have := hp.len
    have := hw.fd.b.len
    have := (M.check0 h0).2.1
    exact ⟨by omega, by omega, fun x hx => by have := hpl.2.2 x hx; omega⟩
  have htl : ts.length = nt := by
    obtain ⟨vs, h1, h2⟩ := hw.tr
    rw [← h2.1, h1.len]
  have HPW := hid (fun (Tg Tw : Option Addr) (tg tgc tw twc : Nat) (t : M.Tr) (ht : t ∈ ts) W (hW : Wc W f Ag Aw Ab Ac Al ng cg nw cw nb cb nc cc nl cl At As nt ct ns cs p mb ts ss) h1 h2 h3 => play_w f Ag Aw Ab Ac Al ng cg nw cw nb cb nc cc nl cl At As nt ct ns cs p mb Tg Tw tg tgc tw twc t P pn pc plan ts ss h0 (hts t ht) hpl W hW h1 h2 h3)
  have hvp := M.valid_parts (M.check0 h0).2.2.2.1
  have HSG := hid (fun (i : Nat) (hi : i < pn) W (h1 : Sl ics 1 W W.heap.size Ab nb cb f.base) (h2 : Sl ics 1 W W.heap.size P pn pc plan) => strength_c f Ag Aw Ab Ac Al ng cg nw cw nb cb nc cc nl cl P pn pc plan i hi (by omega) hpn3.2.2 hvp.2.2.2.2.2.2.1 hvp.2.2.2.2.2.2.2.2.1 hvp.2.2.2.2.2.2.2.2.2.1 W h1 h2)
  have hplen : ∀ l ∈ (ts.map fun t => M.play f t plan), l.length = pn := fun l hl => by
    obtain ⟨t, _, rfl⟩ := List.mem_map.1 hl
    rw [M.play_len, hp.len]
  have HPL := hid hplen
  have HTL := hid htl
  have hp3 := hpn3.1
  have HLN := hid (show plan.length = pn from hp.len)
  have hmk := fun wx => makeBd pn (by omega) wx
  have HM0 := hid hm0
  have HWC := hid hw
  have HG0 := hid hgl0
  clear hw hm0 h0 hpl hts hplen htl hgl0 hvp hpn3
  go_enter Try.func72, Try.ntmps72
  go_wp2_with fail
  go_loopw [5, 17] (fun v i wr => ∃ k : Nat, ∃ V : Option Addr, ∃ dd : Nat, ∃ vs : List Hd, v = .slice V k dd ∧ i = .int .i64 k ∧ k ≤ nt ∧ Mo mb w wr ∧ (∃ g', Loads f g' ∧ MapIs Try.prog 143 wr mb g') ∧ wr.ownsRow w.heap.size 31 1 (.slice V k dd) k (vs.flatMap hdc) ∧ PRows w.heap.size wr vs ((ts.take k).map fun t => M.play f t plan)) (fun _ i _ => nt - (intOf i).toNat)
  case atStart => exact ⟨0, none, 0, [], rfl, rfl, by omega, Mo.refl _ _, ⟨g0, HG0.out, HM0.out⟩, World.ownsRow_nil _ _ _ _, PRows.nil _ _⟩
  case round =>
    obtain ⟨k, V, dd, vs, rfl, rfl, hk, hB, hmp, hown, hrows⟩ := hrel
    obtain ⟨WO, hWO⟩ : ∃ x, x = wr := ⟨_, rfl⟩
    subst hWO
    have HW1 := hid (HWC.out.mo hB hmp)
    have hBs := hB.size
    by_cases hlt : k < nt
    · obtain ⟨us, hus, hrs⟩ := HW1.out.tr
      obtain ⟨b, off, v, rfl, hb, hx, hd, hcc⟩ := hus.at_ (Below.refl _ _) hlt
      have e0 := hcc 0 _ rfl
      have e1 := hcc 1 _ rfl
      simp only [Nat.add_zero] at e0
      have hcap := hus.cap
      have htk : ts[k]? = some (ts[k]'(by rw [HTL.out]; exact hlt)) := List.getElem?_eq_getElem _
      generalize ts[k]'(by rw [HTL.out]; exact hlt) = t at htk
      have htm := List.mem_of_getElem? htk
      obtain ⟨r1, r2, r3, r4⟩ := hrs.2 k v t hx htk
      have hE2 : Ev WO (WO.alloc (.cells #[.slice v.1.1 v.1.2.1 v.1.2.2, .slice v.2.1 v.2.2.1 v.2.2.2] 40)) := Ev.alloc (Ev.refl _) _
      have HP2 := hid (HPW.out v.1.1 v.2.1 v.1.2.1 v.1.2.2 v.2.2.1 v.2.2.2 t htm _ (HW1.out.ev hE2) ((sl_own (enc := ics) (by decide) (ics_len _) (by omega) r1).ev hE2) ((sl_own (enc := ics) (by decide) (ics_len _) (by omega) r2).ev hE2) ((hp.mo HM0.out hB (Nat.le_refl _) hB.size).ev hE2))
      obtain ⟨g1, hg1, hmg⟩ := hmp
      have HMX := hid (hmg.keep hE2 hmg.lt)
      have HO1 := hid (hown.ev hE2)
      have HR1 := hid (hrows.imp fun _ _ _ h => h.ev hE2)
      have HTK := hid (show ((ts.take (k + 1)).map fun t => M.play f t plan) = ((ts.take k).map fun t => M.play f t plan) ++ [M.play f t plan] by rw [List.take_add_one, htk, List.map_append]; rfl)
      have hB2 := hid (hB.trans (Mo.ev hE2))
      have HOV := hid (fun q e => (hown.lt q e).1 : ∀ q, (Value.slice V k dd).ownBlock = some q → w.heap.size ≤ q)
      clear hx hd hcc hus hrs r1 r2 htk hmg hown hrows
      go_wp2_with (first | (go_at_call 56; with_reducible refine HP2.out.mono ?_; rintro e w3 ⟨⟨B, d, rfl, hcro⟩, hw3, hm3⟩; have hs3 := hm3.size; simp only [World.alloc, Array.size_push] at hs3) | (at_builtin; refine wpList_append_own_at _ rfl (.tmp 21) (.tmp 26) 156 rfl w.heap.size 31 i0 _ 1 24 Try.underlying156 hi0 hz0 hz1 hz2 rfl (by decide) _ k (vs.flatMap hdc) rfl ((own_mo HO1.out HMX.out hm3).alloc _) ⟨w3.heap.size, 0, none⟩ 1 1 [.slice B pn d] rfl rfl (news_in (alloc1 w3 _).1) (by simp [Value.oneCell']) (by unfold maxLen; omega) (by omega) (by simp; omega) ?_; intro v' w5 hown' hgrow _ _; obtain ⟨V', d', rfl⟩ := own_form hown'; have HO3 := hid hown'; have HGR := hid hgrow; have HCR := hid hcro; have HW3 := hid hw3; have HM3 := hid hm3; clear hown' hgrow hcro hw3 hm3))
      have hE4 : Ev w3 (w3.alloc (.cells #[.slice B pn d] 31)) := Ev.alloc (Ev.refl _) _
      have hoA := (own_mo HO1.out HMX.out HM3.out).ev hE4
      have hrA : PRows w.heap.size (w3.alloc (.cells #[.slice B pn d] 31)) (vs ++ [(B, pn, d)]) (((ts.take k).map fun t => M.play f t plan) ++ [M.play f t plan]) := PRows.snoc (v := (B, pn, d)) ((HR1.out.mo HMX.out HM3.out).imp fun _ _ _ h => h.ev hE4) ⟨own_base (HCR.out.ev hE4) (by simp; omega), by show pn ≤ 100; omega⟩
      obtain ⟨g', hg', hm'⟩ := HW3.out.mp
      have hmA := hm'.keep hE4 hm'.lt
      refine ⟨⟨k + 1, V', d', vs ++ [(B, pn, d)], rfl, by go_num, by omega, ((hB2.out.trans HM3.out).trans (Mo.ev hE4)).grown HGR.out HOV.out, ⟨g', hg', hmA.same (HGR.out.block mb hmA.lt (map_neB hmA hoA))⟩, by rw [List.flatMap_append]; exact HO3.out, by rw [HTK.out]; exact hrA.grown hoA (by decide) HGR.out⟩, by simp [intOf]; omega⟩
    · obtain rfl : k = nt := by omega
      rw [List.take_of_length_le (by rw [HTL.out]; exact Nat.le_refl _)] at hrows
      have HPS := hid (⟨vs, sl_own (enc := hdc) (by decide) (hdc_len _) (by omega) hown, hrows.base (Nat.zero_le _)⟩ : PLs WO V k dd (ts.map fun t => M.play f t plan))
      have HB := hid hB
      have HMP := hid hmp
      clear hown hrows hmp hB
      go_wp2_with fail
      generalize hW1 : World.alloc (World.alloc WO _) _ = W1
      have hE1 : Ev WO W1 := by rw [← hW1]; exact Ev.alloc (Ev.alloc (Ev.refl _) _) _
      have hal := alloc2 WO (.cells #[.func (.func 100) #[] #[]] 160) (.cells #[.func (.func 101) #[] #[]] 160)
      rw [hW1] at hal
      have Q0 := hid hal.1
      have Q1 := hid hal.2.1
      have hz := hal.2.2
      have HZ := hid hz
      clear hW1
      have QX := hid ((by rw [show WO.heap.size + 1 + 1 = W1.heap.size from by omega]; exact (alloc1 W1 _).1) : (W1.alloc (.cells ((List.replicate pn M.bd0).flatMap bdc).toArray 81)).heap[WO.heap.size + 1 + 1]? = some (.cells ((List.replicate pn M.bd0).flatMap bdc).toArray 81 (0, 0)))
      have hEX : Ev W1 (W1.alloc (.cells ((List.replicate pn M.bd0).flatMap bdc).toArray 81)) := Ev.alloc (Ev.refl _) _
      clear hal hz k0 k1 k2 k3 k4 k5 k6 k7 k8 k9 k10 k11
      go_loopw [36] (fun i wr => ∃ j : Nat, ∃ ys : List M.Bd, i = .int .i64 j ∧ j ≤ pn ∧ Ev W1 wr ∧ Hid (wr.heap[WO.heap.size + 1 + 1]? = some (.cells (ys.flatMap bdc).toArray 81 (0, 0))) ∧ ys.length = pn ∧ Hid (ys.take j = (M.bounds f ts plan).take j)) (fun i _ => pn - (intOf i).toNat)
      case atStart => exact ⟨0, List.replicate pn M.bd0, rfl, by omega, hEX, QX, by simp, hid rfl⟩
      case round =>
        obtain ⟨j, ys, rfl, hj, hC, hX, hyl, hT⟩ := hrel
        have HEC := hid (hE1.trans hC)
        have HWR := hid (HW1.out.ev HEC.out)
        by_cases hltj : j < pn
        · have HGW := hid (fun W (hE : Ev wr W) => gauge_c 100 M.Cr.wt (fun args w => Try.call100 args w) (fun c W => cweight_c c W) V k dd _ j pn hltj hne hn1 (by omega) HPL.out W (PLs.ev (PLs.ev HPS.out HEC.out) hE))
          have HGO := hid (fun W (hE : Ev wr W) => gauge_c 101 M.Cr.wo (fun args w => Try.call101 args w) (fun c W => cworth_c c W) V k dd _ j pn hltj hne hn1 (by omega) HPL.out W (PLs.ev (PLs.ev HPS.out HEC.out) hE))
          have HST := hid (fun W (hE : Ev wr W) => HSG.out j hltj W (HWR.out.ev hE).fd.b (((hp.mo HM0.out HB.out (Nat.le_refl _) HB.out.size).ev HEC.out).ev hE))
          have HBJ := hid (show (M.bounds f ts plan)[j]? = some ⟨M.gauge M.Cr.wt (ts.map fun t => M.play f t plan) j, M.strength f plan j, M.gauge M.Cr.wo (ts.map fun t => M.play f t plan) j⟩ by
            unfold M.bounds
            rw [List.getElem?_map, List.getElem?_range (by rw [HLN.out]; exact hltj)]; rfl)
          generalize M.gauge M.Cr.wt (ts.map fun t => M.play f t plan) j = gw at HGW HBJ
          generalize M.gauge M.Cr.wo (ts.map fun t => M.play f t plan) j = go at HGO HBJ
          generalize M.strength f plan j = sg at HST HBJ
          have q0 := cell_in (hC.heap Q0.out) 0
          have q1 := cell_in (hC.heap Q1.out) 0
          simp only [List.getElem?_toArray, List.getElem?_cons_zero] at q0 q1
          have l0 := heap_lt (hC.heap Q0.out)
          have l1 := heap_lt (hC.heap Q1.out)
          have lp := heap_lt HWR.out.hd
          have hXl := heap_lt hX.out
          have j0 : (0 : Int) ≤ j := by omega
          have jp : (j : Int) < pn := by omega
          have hzz := HZ.out
          obtain ⟨k0, k1, k2, k3, k4, k5, k6, k7, k8, k9, k10, k11⟩ := cells12 HWR.out.hd
          go_upto_region 12 with fail
          have HSE : Hid (∀ w', Ev wr w' → (∀ o, w'.cell? ⟨p, o, none⟩ = wr.cell? ⟨p, o, none⟩) ∧ (∀ o, w'.cell? ⟨WO.heap.size, o, none⟩ = wr.cell? ⟨WO.heap.size, o, none⟩) ∧ (∀ o, w'.cell? ⟨WO.heap.size + 1, o, none⟩ = wr.cell? ⟨WO.heap.size + 1, o, none⟩)) := hid (fun w' h => ⟨fun o => h.cells.1 _ o lp, fun o => h.cells.1 _ o l0, fun o => h.cells.1 _ o l1⟩)
          refine wp_region_K (c := 19) (S := fun w' => (∀ o, w'.cell? ⟨p, o, none⟩ = wr.cell? ⟨p, o, none⟩) ∧ (∀ o, w'.cell? ⟨WO.heap.size, o, none⟩ = wr.cell? ⟨WO.heap.size, o, none⟩) ∧ (∀ o, w'.cell? ⟨WO.heap.size + 1, o, none⟩ = wr.cell? ⟨WO.heap.size + 1, o, none⟩)) (by kernel_rfl) (⟨fun o => rfl, fun o => rfl, fun o => rfl⟩) (fun hHeld => ?_)
          refine wpAnyK_takeD (i := 0) (v := ?_) (some 39) rfl rfl rfl (by kernel_rfl) (by kernel_rfl) (by kernel_rfl) (by kernel_rfl) (fun _ _ _ h => h) (Or.inl ⟨by rfl, ?hy⟩) (by assumption) ?_
          case hy => (intro w hSw; (try dsimp only at hSw); go_simp; with_reducible rfl)
          (try simp only [Act.put, List.setIfInBounds_toArray, List.set_cons_zero, List.set_cons_succ])
          refine wpAnyK_takeD (i := 1) (v := ?_) (some 40) rfl rfl rfl (by kernel_rfl) (by kernel_rfl) (by kernel_rfl) (by kernel_rfl) (fun _ _ _ h => h) (Or.inl ⟨by rfl, ?hy⟩) (by assumption) ?_
          case hy => (intro w hSw; (try dsimp only at hSw); go_simp; with_reducible rfl)
          (try simp only [Act.put, List.setIfInBounds_toArray, List.set_cons_zero, List.set_cons_succ])
          refine wpAnyK_takeD (i := 2) (v := ?_) (some 41) rfl rfl rfl (by kernel_rfl) (by kernel_rfl) (by kernel_rfl) (by kernel_rfl) (fun _ _ _ h => h) (Or.inl ⟨by rfl, ?hy⟩) (by assumption) ?_
          case hy => (intro w hSw; (try dsimp only at hSw); go_simp; with_reducible rfl)
          (try simp only [Act.put, List.setIfInBounds_toArray, List.set_cons_zero, List.set_cons_succ])
          refine wpAnyK_takeD (i := 3) (v := ?_) (some 42) rfl rfl rfl (by kernel_rfl) (by kernel_rfl) (by kernel_rfl) (by kernel_rfl) (fun _ _ _ h => h) (Or.inl ⟨by rfl, ?hy⟩) (by assumption) ?_
          case hy => (intro w hSw; (try dsimp only at hSw); go_simp; with_reducible rfl)
          (try simp only [Act.put, List.setIfInBounds_toArray, List.set_cons_zero, List.set_cons_succ])
          refine wpAnyK_takeD (i := 4) (v := ?_) (some 43) rfl rfl rfl (by kernel_rfl) (by kernel_rfl) (by kernel_rfl) (by kernel_rfl) (fun _ _ _ h => h) (Or.inl ⟨by rfl, ?hy⟩) (by assumption) ?_
          case hy => (intro w hSw; (try dsimp only at hSw); go_simp; with_reducible rfl)
          (try simp only [Act.put, List.setIfInBounds_toArray, List.set_cons_zero, List.set_cons_succ])
          refine wpAnyK_takeD (i := 6) (v := ?_) (some 45) rfl rfl rfl (by kernel_rfl) (by kernel_rfl) (by kernel_rfl) (by kernel_rfl) (fun _ _ _ h => h) (Or.inl ⟨by rfl, ?hy⟩) (by assumption) ?_
          case hy => (intro w hSw; (try dsimp only at hSw); go_simp; with_reducible rfl)
          (try simp only [Act.put, List.setIfInBounds_toArray, List.set_cons_zero, List.set_cons_succ])
          refine wpAnyK_takeD (i := 7) (v := ?_) (some 46) rfl rfl rfl (by kernel_rfl) (by kernel_rfl) (by kernel_rfl) (by kernel_rfl) (fun _ _ _ h => h) (Or.inl ⟨by rfl, ?hy⟩) (by assumption) ?_
          case hy => (intro w hSw; (try dsimp only at hSw); go_simp; with_reducible rfl)
          (try simp only [Act.put, List.setIfInBounds_toArray, List.set_cons_zero, List.set_cons_succ])
          refine wpAnyK_takeD (i := 8) (v := ?_) (some 47) rfl rfl rfl (by kernel_rfl) (by kernel_rfl) (by kernel_rfl) (by kernel_rfl) (fun _ _ _ h => h) (Or.inl ⟨by rfl, ?hy⟩) (by assumption) ?_
          case hy => (intro w hSw; (try dsimp only at hSw); go_simp; with_reducible rfl)
          (try simp only [Act.put, List.setIfInBounds_toArray, List.set_cons_zero, List.set_cons_succ])
          refine wpAnyK_takeD (i := 9) (v := ?_) (some 48) rfl rfl rfl (by kernel_rfl) (by kernel_rfl) (by kernel_rfl) (by kernel_rfl) (fun _ _ _ h => h) (Or.inl ⟨by rfl, ?hy⟩) (by assumption) ?_
          case hy => (intro w hSw; (try dsimp only at hSw); go_simp; with_reducible rfl)
          (try simp only [Act.put, List.setIfInBounds_toArray, List.set_cons_zero, List.set_cons_succ])
          refine wpAnyK_takeD (i := 10) (v := ?_) (some 49) rfl rfl rfl (by kernel_rfl) (by kernel_rfl) (by kernel_rfl) (by kernel_rfl) (fun _ _ _ h => h) (Or.inl ⟨by rfl, ?hy⟩) (by assumption) ?_
          case hy => (intro w hSw; (try dsimp only at hSw); go_simp; with_reducible rfl)
          (try simp only [Act.put, List.setIfInBounds_toArray, List.set_cons_zero, List.set_cons_succ])
          refine wpAnyK_takeD (i := 11) (v := ?_) (some 50) rfl rfl rfl (by kernel_rfl) (by kernel_rfl) (by kernel_rfl) (by kernel_rfl) (fun _ _ _ h => h) (Or.inl ⟨by rfl, ?hy⟩) (by assumption) ?_
          case hy => (intro w hSw; (try dsimp only at hSw); go_simp; with_reducible rfl)
          (try simp only [Act.put, List.setIfInBounds_toArray, List.set_cons_zero, List.set_cons_succ])
          refine wpAnyK_takeD (i := 13) (v := ?_) (some 52) rfl rfl rfl (by kernel_rfl) (by kernel_rfl) (by kernel_rfl) (by kernel_rfl) (fun _ _ _ h => h) (Or.inl ⟨by rfl, ?hy⟩) (by assumption) ?_
          case hy => (intro w hSw; (try dsimp only at hSw); go_simp; with_reducible rfl)
          (try simp only [Act.put, List.setIfInBounds_toArray, List.set_cons_zero, List.set_cons_succ])
          refine wpAnyK_takeD (i := 14) (v := ?_) (some 53) rfl rfl rfl (by kernel_rfl) (by kernel_rfl) (by kernel_rfl) (by kernel_rfl) (fun _ _ _ h => h) (Or.inl ⟨by rfl, ?hy⟩) (by assumption) ?_
          case hy => (intro w hSw; (try dsimp only at hSw); go_simp; with_reducible rfl)
          (try simp only [Act.put, List.setIfInBounds_toArray, List.set_cons_zero, List.set_cons_succ])
          refine wpAnyK_takeD (i := 15) (v := ?_) (some 54) rfl rfl rfl (by kernel_rfl) (by kernel_rfl) (by kernel_rfl) (by kernel_rfl) (fun _ _ _ h => h) (Or.inl ⟨by rfl, ?hy⟩) (by assumption) ?_
          case hy => (intro w hSw; (try dsimp only at hSw); go_simp; with_reducible rfl)
          (try simp only [Act.put, List.setIfInBounds_toArray, List.set_cons_zero, List.set_cons_succ])
          refine wpAnyK_one (i := 5) rfl (by kernel_rfl) (by rfl) (by decide) (fun K hK => ?_)
          go_simp
          refine (HGW.out _ (Ev.drew (Ev.refl _))).mono ?_
          rintro e w4 ⟨rfl, hb4⟩
          have hE4 : Ev wr w4 := Ev.trans (Ev.drew (Ev.refl _)) hb4
          refine hK.out _ _ (HSE.out _ hE4) (fun hHeld => ?_)
          clear hK K
          (try simp only [Act.put, List.setIfInBounds_toArray, List.set_cons_zero, List.set_cons_succ])
          refine wpAnyK_one (i := 12) rfl (by kernel_rfl) (by rfl) (by decide) (fun K hK => ?_)
          go_simp
          refine (HST.out _ hE4).mono ?_
          rintro e w5 ⟨rfl, hb5⟩
          have hE5 : Ev wr w5 := hE4.trans hb5
          refine hK.out _ _ (HSE.out _ hE5) (fun hHeld => ?_)
          clear hK K
          (try simp only [Act.put, List.setIfInBounds_toArray, List.set_cons_zero, List.set_cons_succ])
          refine wpAnyK_one (i := 16) rfl (by kernel_rfl) (by rfl) (by decide) (fun K hK => ?_)
          go_simp
          refine (HGO.out _ hE5).mono ?_
          rintro e w6 ⟨rfl, hb6⟩
          have hE6 : Ev wr w6 := hE5.trans hb6
          refine hK.out _ _ (HSE.out _ hE6) (fun hHeld => ?_)
          clear hK K
          (try simp only [Act.put, List.setIfInBounds_toArray, List.set_cons_zero, List.set_cons_succ])
          refine wpAnyK_takeD (i := 17) (v := ?_) (some 56) rfl rfl rfl (by kernel_rfl) (by kernel_rfl) (by kernel_rfl) (by kernel_rfl) (fun _ _ _ h => h) (Or.inl ⟨by rfl, ?hy⟩) (by assumption) ?_
          case hy => (intro w hSw; (try dsimp only at hSw); go_simp; with_reducible rfl)
          (try simp only [Act.put, List.setIfInBounds_toArray, List.set_cons_zero, List.set_cons_succ])
          refine wpAnyK_takeD (i := 18) (v := ?_) (some 57) rfl rfl rfl (by kernel_rfl) (by kernel_rfl) (by kernel_rfl) (by kernel_rfl) (fun _ _ _ h => h) (Or.inl ⟨by rfl, ?hy⟩) (by assumption) ?_
          case hy => (intro w hSw; (try dsimp only at hSw); go_simp; with_reducible rfl)
          (try simp only [Act.put, List.setIfInBounds_toArray, List.set_cons_zero, List.set_cons_succ])
          have HX6 := hid (hE6.heap hX.out)
          obtain ⟨u0, u1, u2, u3, u4, hu0, hu1, hu2, hu3, hu4⟩ := bd_get ys j (by omega)
          have x0 : w6.cell? ⟨WO.heap.size + 1 + 1, j * 5, none⟩ = some (.int .i64 u0) := (cell_in HX6.out _).trans (by rw [List.getElem?_toArray]; exact hu0)
          have f0 := frozen_in HX6.out (j * 5)
          have x1 : w6.cell? ⟨WO.heap.size + 1 + 1, j * 5 + 1, none⟩ = some (.int .i64 u1) := (cell_in HX6.out _).trans (by rw [List.getElem?_toArray]; exact hu1)
          have f1 := frozen_in HX6.out (j * 5 + 1)
          have x2 : w6.cell? ⟨WO.heap.size + 1 + 1, j * 5 + 2, none⟩ = some (.int .i64 u2) := (cell_in HX6.out _).trans (by rw [List.getElem?_toArray]; exact hu2)
          have f2 := frozen_in HX6.out (j * 5 + 2)
          have x3 : w6.cell? ⟨WO.heap.size + 1 + 1, j * 5 + 3, none⟩ = some (.int .i64 u3) := (cell_in HX6.out _).trans (by rw [List.getElem?_toArray]; exact hu3)
          have f3 := frozen_in HX6.out (j * 5 + 3)
          have x4 : w6.cell? ⟨WO.heap.size + 1 + 1, j * 5 + 4, none⟩ = some (.int .i64 u4) := (cell_in HX6.out _).trans (by rw [List.getElem?_toArray]; exact hu4)
          have f4 := frozen_in HX6.out (j * 5 + 4)
          clear hu0 hu1 hu2 hu3 hu4
          refine wpAnyK_last rfl (by kernel_rfl) (by rfl) (fun K hK => ?_)
          go_simp
          refine hK.out _ _ ?_
          clear hK K
          (try simp only [Act.put, List.setIfInBounds_toArray, List.set_cons_zero, List.set_cons_succ])
          refine wpAnyK_done (by kernel_rfl) ?_ _
          go_wp2
          have hE9 : Ev W1 w6 := hC.trans hE6
          refine ⟨⟨j + 1, ys.set j ⟨gw, sg, go⟩, by go_num, by omega, ((((hE9.setCell (by simp; omega) _).setCell (by simp; omega) _).setCell (by simp; omega) _).setCell (by simp; omega) _).setCell (by simp; omega) _, hid ?_, by rw [List.length_set]; exact hyl, hid ?_⟩, by simp [intOf]; omega⟩
          · rw [set_heap_same (set_heap_same (set_heap_same (set_heap_same (set_heap_same HX6.out)))), ← set_bd ys j _ (by omega)]
            simp only [List.setIfInBounds_toArray]
          · rw [take_set_succ' (by omega), hT.out, List.take_add_one, HBJ.out]; rfl
        · obtain rfl : j = pn := by omega
          have hys : ys = M.bounds f ts plan := by
            have h := hT.out
            rw [List.take_of_length_le (by omega), List.take_of_length_le (by unfold M.bounds; rw [List.length_map, List.length_range, HLN.out]; exact Nat.le_refl _)] at h
            exact h
          have HYS := hid hys
          have HYL := hid hyl
          clear hys hyl
          go_wp2
          go_ret
          exact ⟨⟨_, _, rfl, by rw [← HYS.out]; exact sl_block (t := 81) (by decide) (bdc_len _) (by omega) HYL.out hX.out⟩, HWR.out, HB.out.trans (Mo.ev HEC.out)⟩

end Go.Proofs.Ytffbkbcjddigdaa
