import Derived.Test.YtffbkbcjddigdaaA29
set_option linter.unusedSimpArgs false
set_option linter.unusedVariables false
namespace Go.Proofs.Ytffbkbcjddigdaa
open Go.RowKit Go.Shelf

theorem M.crop_bd {f : M.Cf} {t : M.Tr} {plan : List Int} (h0 : M.check f = 0) (htr : M.listed f t = true) : ∀ c ∈ M.play f t plan, (0 ≤ c.wt ∧ c.wt ≤ 500) ∧ (0 ≤ c.st ∧ c.st ≤ 200) ∧ (0 ≤ c.wo ∧ c.wo ≤ 100000) := by
 obtain ⟨hl9, hb3, _, hv, _⟩ := M.check0 h0
 obtain ⟨v1, v2, v3, v4, v5, v6, v7, v8, v9, v10, v11, v12, v13⟩ := M.valid_parts hv
 obtain ⟨t1, t2, t3, t4⟩ := M.listed_bd hv htr
 intro c hc
 unfold M.play at hc
 obtain ⟨i, _, rfl⟩ := List.mem_map.1 hc
 have hw := getD_bd (by omega) (by omega) (M.weights_bd (plan := plan) (by omega) t3) (plan.getD i 0).toNat
 have hl := M.leaves_bd v11 hw.1 (t.wet.getD (plan.getD i 0).toNat 0 == 1)
 have hs := M.strength_bd v7 v10.1 plan i
 have hwt : 0 ≤ M.left f t plan (plan.getD i 0) ∧ M.left f t plan (plan.getD i 0) ≤ 500 := by unfold M.left; omega
 refine ⟨hwt, hs, ?_, ?_⟩
 ·
  exact Int.mul_nonneg hwt.1 hs.1
 ·
  have : M.left f t plan (plan.getD i 0) * M.strength f plan i ≤ 500 * 200 := Int.mul_le_mul hwt.2 hs.2 hs.1 (by omega)
  exact this
theorem makeI (L : Nat) (hL : L ≤ 100000) (wx : World) : (Instr.makeSlice 23 (.int .i64 L) (.int .i64 L)).run Try.prog wx = .ok (.slice (some ⟨wx.heap.size, 0, none⟩) L L) (wx.alloc (.cells ((List.replicate L (0 : Int)).map (Value.int .i64)).toArray 3)) := by
 obtain ⟨i0, hi, hz0, hz1, hz2⟩ := info_parts info3
 have := run_makeSlice wx 23 3 i0 _ Try.underlying23 hi hz0 .i64 .i64 L L (by omega) (by omega) (by rw [hz1]; omega) (by rw [hz2]; omega) (by omega)
 rw [hz1, Int.toNat_natCast, made0 L] at this
 exact this
theorem flat_ics : ∀ xs : List Int, xs.flatMap ics = xs.map (Value.int .i64)
 | [] => rfl
 | x :: r => by rw [List.flatMap_cons, flat_ics r]; rfl
theorem Mo.set {mb : Nat} {a b : World} (h : Mo mb a b) (j : Nat) (v : Value) : Mo mb a (b.setCell ⟨mb, j, none⟩ v) :=
 ⟨h.os, h.tape, h.output, by have := h.size; simpa [World.setCell] using this, fun k hk hn => (Below.heap_setCell _ _ _ _ (fun e => hn (congrArg some e))).trans (h.block k hk hn)⟩

set_option maxRecDepth 100000 in
set_option maxHeartbeats 2000000 in
theorem play_w (f : M.Cf) (Ag Aw Ab Ac Al : Option Addr) (ng cg nw cw nb cb nc cc nl cl : Nat) (At As : Option Addr) (nt ct ns cs p mb : Nat) (Tg Tw : Option Addr) (tg tgc tw twc : Nat) (t : M.Tr) (P : Option Addr) (pn pc : Nat) (plan : List Int) (ts : List M.Tr) (ss : List (List Int)) (h0 : M.check f = 0) (htr : M.listed f t = true) (hpl : M.isPlan f plan = true) (w : World) (hw : Wc w f Ag Aw Ab Ac Al ng cg nw cw nb cb nc cc nl cl At As nt ct ns cs p mb ts ss)
  (hg : Sl ics 1 w w.heap.size Tg tg tgc t.gr) (hwt : Sl ics 1 w w.heap.size Tw tw twc t.wet) (hp : Sl ics 1 w w.heap.size P pn pc plan) :
  Calls Try.prog 56 #[.pointer (some ⟨p, 0, none⟩), .agg #[.slice Tg tg tgc, .slice Tw tw twc], .slice P pn pc] w fun e w' => (∃ B d, e = .returned (.slice B pn d) ∧ w'.ownsRow w.heap.size 50 3 (.slice B pn d) pn ((M.play f t plan).flatMap crc)) ∧ Wc w' f Ag Aw Ab Ac Al ng cg nw cw nb cb nc cc nl cl At As nt ct ns cs p mb ts ss ∧ Mo mb w w' := by
 obtain ⟨hl9, hb3, _, hv, _⟩ := M.check0 h0
 obtain ⟨g, hgl, hm⟩ := hw.mp
 refine (play_c f Ag Aw Ab Ac Al ng cg nw cw nb cb nc cc nl cl At As nt ct ns cs p mb Tg Tw tg tgc tw twc t P pn pc plan hv hl9 (by have := hw.fd.b.len; omega) htr hpl g hgl w hw.hd hw.fd hm hg hwt hp).mono ?_
 rintro e w' ⟨h1, h2, h3⟩
 exact ⟨h1, hw.mo h3 h2, h3⟩

set_option maxRecDepth 100000 in
set_option maxHeartbeats 4000000 in
theorem worths_c (f : M.Cf) (Ag Aw Ab Ac Al : Option Addr) (ng cg nw cw nb cb nc cc nl cl : Nat) (At As : Option Addr) (nt ct ns cs p mb : Nat) (P : Option Addr) (pn pc : Nat) (plan : List Int) (ts : List M.Tr) (ss : List (List Int)) (h0 : M.check f = 0) (hts : ∀ t ∈ ts, M.listed f t = true) (hpl : M.isPlan f plan = true) (w : World) (hw : Wc w f Ag Aw Ab Ac Al ng cg nw cw nb cb nc cc nl cl At As nt ct ns cs p mb ts ss) (hp : Sl ics 1 w w.heap.size P pn pc plan) :
  Calls Try.prog 66 #[.pointer (some ⟨p, 0, none⟩), .slice P pn pc] w fun e w' => (∃ B d, e = .returned (.slice B nt d) ∧ Sl ics 1 w' w'.heap.size B nt d (ts.map fun t => M.total f t plan)) ∧ Wc w' f Ag Aw Ab Ac Al ng cg nw cw nb cb nc cc nl cl At As nt ct ns cs p mb ts ss ∧ Mo mb w w' := by
 obtain ⟨k0, k1, k2, k3, k4, k5, k6, k7, k8, k9, k10, k11⟩ := cells12 hw.hd
 obtain ⟨g0, hgl0, hm0⟩ := hw.mp
 have hml := hm0.lt
 have hn1 := hw.n1
 have hpw := heap_lt hw.hd
 have hpn3 : pn ≤ 3 := by
  unfold M.isPlan at hpl
  simp only [Bool.and_eq_true, decide_eq_true_eq] at hpl
  have := hp.len
  have := (M.check0 h0).2.1
  omega
 have htl : ts.length = nt := by
  obtain ⟨vs, h1, h2⟩ := hw.tr
  rw [← h2.1, h1.len]
 have HPW := hid (fun (Tg Tw : Option Addr) (tg tgc tw twc : Nat) (t : M.Tr) (ht : t ∈ ts) W (hW : Wc W f Ag Aw Ab Ac Al ng cg nw cw nb cb nc cc nl cl At As nt ct ns cs p mb ts ss) h1 h2 h3 => play_w f Ag Aw Ab Ac Al ng cg nw cw nb cb nc cc nl cl At As nt ct ns cs p mb Tg Tw tg tgc tw twc t P pn pc plan ts ss h0 (hts t ht) hpl W hW h1 h2 h3)
 have HBD := hid (fun (t : M.Tr) (ht : t ∈ ts) => M.crop_bd (plan := plan) h0 (hts t ht))
 have hplen : ∀ t, (M.play f t plan).length = pn := fun t => by rw [M.play_len, hp.len]
 have HPL := hid hplen
 have HTL := hid htl
 have hmk := fun wx => makeI nt (by omega) wx
 have HM0 := hid hm0
 have HWC := hid hw
 have HG0 := hid hgl0
 clear hw hm0 h0 hpl hts hplen htl hgl0
 go_enter Try.func66, Try.ntmps66
 go_wp2_with fail
 have QX := hid ((alloc1 w (.cells (Array.replicate nt (.int .i64 0)) 3)).1.trans (by rw [replicate_map]) : (w.alloc (.cells (Array.replicate nt (.int .i64 0)) 3)).heap[w.heap.size]? = some (.cells ((List.replicate nt (0 : Int)).map (Value.int .i64)).toArray 3 (0, 0)))
 have hEx : Ev w (w.alloc (.cells (Array.replicate nt (.int .i64 0)) 3)) := Ev.alloc (Ev.refl _) _
 go_loopw [21] (fun i wr => ∃ k : Nat, ∃ ys : List Int, i = .int .i64 k ∧ k ≤ nt ∧ Mo mb w wr ∧ (∃ g', Loads f g' ∧ MapIs Try.prog 143 wr mb g') ∧ Hid (wr.heap[w.heap.size]? = some (.cells (ys.map (Value.int .i64)).toArray 3 (0, 0))) ∧ ys.length = nt ∧ Hid (ys.take k = (ts.map fun t => M.total f t plan).take k) ∧ Hid (ys.drop k = List.replicate (nt - k) 0)) (fun i _ => nt - (intOf i).toNat)
 case atStart => exact ⟨0, List.replicate nt 0, rfl, by omega, Mo.ev hEx, ⟨g0, HG0.out, HM0.out.keep hEx hml⟩, QX, by simp, hid rfl, hid (by simp)⟩
 case round =>
  obtain ⟨k, ys, rfl, hk, hB, hmp, hX, hyl, hT, hD⟩ := hrel
  obtain ⟨WO, hWO⟩ : ∃ x, x = wr := ⟨_, rfl⟩
  subst hWO
  have HW1 := hid (HWC.out.mo hB hmp)
  by_cases hlt : k < nt
  ·
   obtain ⟨vs, hvs, hrs⟩ := HW1.out.tr
   obtain ⟨b, off, v, rfl, hb, hx, hd, hcc⟩ := hvs.at_ (Below.refl _ _) hlt
   have e0 := hcc 0 _ rfl
   have e1 := hcc 1 _ rfl
   simp only [Nat.add_zero] at e0
   have hcap := hvs.cap
   have htk : ts[k]? = some (ts[k]'(by rw [HTL.out]; exact hlt)) := List.getElem?_eq_getElem _
   generalize ts[k]'(by rw [HTL.out]; exact hlt) = t at htk
   have htm := List.mem_of_getElem? htk
   obtain ⟨r1, r2, r3, r4⟩ := hrs.2 k v t hx htk
   have hE2 : Ev WO (WO.alloc (.cells #[.slice v.1.1 v.1.2.1 v.1.2.2, .slice v.2.1 v.2.2.1 v.2.2.2] 40)) := Ev.alloc (Ev.refl _) _
   have HP2 := hid (HPW.out v.1.1 v.2.1 v.1.2.1 v.1.2.2 v.2.2.1 v.2.2.2 t htm _ (HW1.out.ev hE2) ((sl_own (enc := ics) (by decide) (ics_len _) (by omega) r1).ev hE2) ((sl_own (enc := ics) (by decide) (ics_len _) (by omega) r2).ev hE2) ((hp.mo HM0.out hB (Nat.le_refl _) hB.size).ev hE2))
   have hyk : ys[k]? = some 0 := by
    have h := hD.out
    have h2 : (ys.drop k)[0]? = some 0 := by rw [h, List.getElem?_replicate, if_pos (by omega)]
    simpa using h2
   have hy0 : ys.set k 0 = ys := by
    obtain ⟨h1, h2⟩ := List.getElem?_eq_some_iff.1 hyk
    rw [← h2]; exact List.set_getElem_self h1
   have HTK := hid htk
   have HY0 := hid hy0
   have hBs := hB.size
   have hXl := heap_lt hX.out
   clear hx hd hcc hvs hrs r1 r2 hyk hy0 htk hmp
   go_wp2_with (go_at_call 56; with_reducible refine HP2.out.mono ?_; rintro e w3 ⟨⟨B, d, rfl, hcro⟩, hw3, hm3⟩)
   have hcr := sl_own (enc := crc) (by decide) (crc_len _) (by omega) hcro
   have hfr : ∀ a, B = some a → WO.heap.size + 1 ≤ a.block := fun a ha => by have := (hcro.lt a.block (by rw [ha]; rfl)).1; simpa using this
   clear hcro
   have hm13 : Mo mb w w3 := (hB.trans (Mo.ev hE2)).trans hm3
   have hs3 := hm3.size
   have hX3 := hm3.heap (hE2.heap hX.out) (by omega)
   have HCR := hid hcr
   have HFR := hid hfr
   have hbd := HBD.out t htm
   have hlen := HPL.out t
   have HBDt := hid hbd
   have HPLt := hid hlen
   have hcsm := hcr.small
   have h3s : w.heap.size < w3.heap.size := by simp at hs3; omega
   clear hcr hfr hbd hlen htm e0 e1
   go_loopw [31] (fun i W => ∃ j : Nat, ∃ acc : Int, i = .int .i64 j ∧ j ≤ pn ∧ Mo mb w W ∧ Mo w.heap.size w3 W ∧ (∃ g', Loads f g' ∧ MapIs Try.prog 143 W mb g') ∧ Hid (W.heap[w.heap.size]? = some (.cells ((ys.set k acc).map (Value.int .i64)).toArray 3 (0, 0))) ∧ (0 ≤ acc ∧ acc ≤ 100000 * j) ∧ Hid (acc + (((M.play f t plan).drop j).map M.Cr.wo).sum = M.total f t plan)) (fun i _ => pn - (intOf i).toNat)
   case atStart => exact ⟨0, 0, rfl, by omega, hm13, Mo.refl _ _, hw3.mp, hid (by rw [HY0.out]; exact hX3), ⟨Int.le_refl _, by omega⟩, hid (by simp [M.total])⟩
   case round =>
    obtain ⟨j, acc, rfl, hj, hmA, hmQ, hmpA, hXA, ha, hsum⟩ := hrel
    by_cases hltj : j < pn
    ·
     obtain ⟨bc, oc, cx, rfl, hbc, hcx, hcd, hcc⟩ := HCR.out.at_ (Below.refl _ _) hltj
     have hcb := HFR.out _ rfl
     have hcl := hmQ.cells.1
     have e0 := (hcl bc _ hbc (by simp at hcb; omega)).trans (hcc 0 _ rfl)
     have e1 := (hcl bc _ hbc (by simp at hcb; omega)).trans (hcc 1 _ rfl)
     have e2 := (hcl bc _ hbc (by simp at hcb; omega)).trans (hcc 2 _ rfl)
     simp only [Nat.add_zero] at e0
     have hcap := HCR.out.cap
     have hcbd := (HBDt.out cx (List.mem_of_getElem? hcx)).2.2
     have hpn3' : (j : Int) ≤ 2 := by omega
     have HS2 := hid (show (acc + cx.wo) + (((M.play f t plan).drop (j + 1)).map M.Cr.wo).sum = M.total f t plan by rw [← hsum.out, hcd, List.map_cons, List.sum_cons]; omega)
     have hjl := hmQ.size
     have hbcl : bc < wr.heap.size := by omega
     have hkl : k < (ys.set k acc).length := by rw [List.length_set]; omega
     have hXl' := heap_lt hXA.out
     have j0 : (0 : Int) ≤ j := by omega
     have k0' : (0 : Int) ≤ k := by omega
     have knt : (k : Int) < nt := by omega
     have HXA := hid hXA.out
     clear hcx hcd hcc hcl hsum hXA
     go_upto_region 8 with fail
     generalize hW0 : World.alloc wr _ = W0
     have hE0 : Ev wr W0 := by rw [← hW0]; exact Ev.alloc (Ev.refl _) _
     have hal := (alloc1 wr (.cells #[.int .i64 cx.wt, .int .i64 cx.st, .int .i64 cx.wo] 50)).1
     rw [hW0] at hal
     obtain ⟨z0, z1, z2⟩ := cells3 hal
     have lc := heap_lt hal
     have hXA0 := hE0.heap HXA.out
     have lq := heap_lt hXA0
     have c5 : W0.cell? ⟨w.heap.size, k, none⟩ = some (.int .i64 acc) := by
      rw [cell_in hXA0 k]
      simp [hyl, hlt]
     have f5 := frozen_in hXA0 k
     have s1 : IntKind.i64.wrap (acc + cx.wo) = acc + cx.wo := IntWalk.i64_in _ (by omega)
     have HX0 := hid hXA0
     clear hW0 hal hXA0
     refine wp_region_K (c := 8) (S := fun w' => (∀ o, w'.cell? ⟨w.heap.size, o, none⟩ = W0.cell? ⟨w.heap.size, o, none⟩) ∧ (∀ o, w'.cell? ⟨wr.heap.size, o, none⟩ = W0.cell? ⟨wr.heap.size, o, none⟩)) (by kernel_rfl) (⟨fun o => rfl, fun o => rfl⟩) (fun hHeld => ?_)
     refine wpAnyK_takeD (i := 0) (v := ?_) (some 35) rfl rfl rfl (by kernel_rfl) (by kernel_rfl) (by kernel_rfl) (by kernel_rfl) (fun _ _ _ h => h) (Or.inl ⟨by rfl, ?hy⟩) (by assumption) ?_
     case hy => (intro w hSw; (try dsimp only at hSw); go_simp; with_reducible rfl)
     (try simp only [Act.put, List.setIfInBounds_toArray, List.set_cons_zero, List.set_cons_succ])
     refine wpAnyK_takeD (i := 1) (v := ?_) (some 36) rfl rfl rfl (by kernel_rfl) (by kernel_rfl) (by kernel_rfl) (by kernel_rfl) (fun _ _ _ h => h) (Or.inl ⟨by rfl, ?hy⟩) (by assumption) ?_
     case hy => (intro w hSw; (try dsimp only at hSw); go_simp; with_reducible rfl)
     (try simp only [Act.put, List.setIfInBounds_toArray, List.set_cons_zero, List.set_cons_succ])
     refine wpAnyK_takeD (i := 2) (v := ?_) (some 37) rfl rfl rfl (by kernel_rfl) (by kernel_rfl) (by kernel_rfl) (by kernel_rfl) (fun _ _ _ h => h) (Or.inl ⟨by rfl, ?hy⟩) (by assumption) ?_
     case hy => (intro w hSw; (try dsimp only at hSw); go_simp; with_reducible rfl)
     (try simp only [Act.put, List.setIfInBounds_toArray, List.set_cons_zero, List.set_cons_succ])
     refine wpAnyK_takeD (i := 3) (v := ?_) (some 38) rfl rfl rfl (by kernel_rfl) (by kernel_rfl) (by kernel_rfl) (by kernel_rfl) (fun _ _ _ h => h) (Or.inl ⟨by rfl, ?hy⟩) (by assumption) ?_
     case hy => (intro w hSw; (try dsimp only at hSw); go_simp; with_reducible rfl)
     (try simp only [Act.put, List.setIfInBounds_toArray, List.set_cons_zero, List.set_cons_succ])
     refine wpAnyK_takeD (i := 4) (v := ?_) (some 39) rfl rfl rfl (by kernel_rfl) (by kernel_rfl) (by kernel_rfl) (by kernel_rfl) (fun _ _ _ h => h) (Or.inl ⟨by rfl, ?hy⟩) (by assumption) ?_
     case hy => (intro w hSw; (try dsimp only at hSw); go_simp; with_reducible rfl)
     (try simp only [Act.put, List.setIfInBounds_toArray, List.set_cons_zero, List.set_cons_succ])
     refine wpAnyK_takeD (i := 5) (v := ?_) (some 40) rfl rfl rfl (by kernel_rfl) (by kernel_rfl) (by kernel_rfl) (by kernel_rfl) (fun _ _ _ h => h) (Or.inl ⟨by rfl, ?hy⟩) (by assumption) ?_
     case hy => (intro w hSw; (try dsimp only at hSw); go_simp; with_reducible rfl)
     (try simp only [Act.put, List.setIfInBounds_toArray, List.set_cons_zero, List.set_cons_succ])
     refine wpAnyK_takeD (i := 6) (v := ?_) (some 41) rfl rfl rfl (by kernel_rfl) (by kernel_rfl) (by kernel_rfl) (by kernel_rfl) (fun _ _ _ h => h) (Or.inl ⟨by rfl, ?hy⟩) (by assumption) ?_
     case hy => (intro w hSw; (try dsimp only at hSw); go_simp; with_reducible rfl)
     (try simp only [Act.put, List.setIfInBounds_toArray, List.set_cons_zero, List.set_cons_succ])
     refine wpAnyK_takeD (i := 7) (v := ?_) (some 42) rfl rfl rfl (by kernel_rfl) (by kernel_rfl) (by kernel_rfl) (by kernel_rfl) (fun _ _ _ h => h) (Or.inl ⟨by rfl, ?hy⟩) (by assumption) ?_
     case hy => (intro w hSw; (try dsimp only at hSw); go_simp; with_reducible rfl)
     (try simp only [Act.put, List.setIfInBounds_toArray, List.set_cons_zero, List.set_cons_succ])
     refine wpAnyK_last rfl (by kernel_rfl) (by rfl) (fun K hK => ?_)
     go_simp
     refine hK.out _ _ ?_
     clear hK K
     (try simp only [Act.put, List.setIfInBounds_toArray, List.set_cons_zero, List.set_cons_succ])
     refine wpAnyK_done (by kernel_rfl) ?_ _
     go_wp2
     have hE9 : Mo mb w (W0.setCell ⟨w.heap.size, k, none⟩ (.int .i64 (acc + cx.wo))) := (hmA.trans (Mo.ev hE0)).setCell (by simp) _
     have hE9' : Mo w.heap.size w3 (W0.setCell ⟨w.heap.size, k, none⟩ (.int .i64 (acc + cx.wo))) := (hmQ.trans (Mo.ev hE0)).set k _
     obtain ⟨g', hl', hm'⟩ := hmpA
     refine ⟨⟨j + 1, acc + cx.wo, by go_num, by omega, hE9.drew, hE9'.drew, ⟨g', hl', ?_⟩, hid ?_, by omega, HS2⟩, by simp [intOf]; omega⟩
     ·
      refine (hm'.keep hE0 hm'.lt).same ?_
      show (W0.setCell ⟨w.heap.size, k, none⟩ (.int .i64 (acc + cx.wo))).heap[mb]? = _
      exact Below.heap_setCell _ _ _ _ (by simp; omega)
     ·
      show (W0.setCell ⟨w.heap.size, k, none⟩ (.int .i64 (acc + cx.wo))).heap[w.heap.size]? = _
      rw [set_heap_same HX0.out, cells_set, List.set_set]
    ·
     obtain rfl : j = pn := by omega
     have hacc : acc = M.total f t plan := by
      have h := hsum.out
      rw [List.drop_eq_nil_of_le (by rw [HPLt.out]; exact Nat.le_refl _)] at h
      simpa using h
     have HAC := hid hacc
     clear hacc hsum
     go_wp2
     refine ⟨⟨k + 1, ys.set k acc, by go_num, by omega, hmA, hmpA, hXA, by rw [List.length_set]; exact hyl, hid ?_, hid ?_⟩, by simp [intOf]; omega⟩
     ·
      rw [take_set_succ (by omega), hT.out, List.take_add_one, List.getElem?_map, HTK.out, HAC.out]; rfl
     ·
      rw [List.drop_set_of_lt (by omega), ← List.drop_drop, hD.out, List.drop_replicate]; congr 1
  ·
   obtain rfl : k = nt := by omega
   have hys : ys = ts.map fun t => M.total f t plan := by
    have h := hT.out
    rw [List.take_of_length_le (by omega), List.take_of_length_le (by rw [List.length_map, HTL.out]; exact Nat.le_refl _)] at h
    exact h
   have HYS := hid hys
   have HYL := hid hyl
   clear hys hyl
   go_wp2
   go_ret
   exact ⟨⟨_, _, rfl, by rw [← HYS.out]; exact sl_block (t := 3) (by decide) (ics_len _) (by omega) HYL.out (by rw [flat_ics]; exact hX.out)⟩, HW1.out, hB⟩

end Go.Proofs.Ytffbkbcjddigdaa

set_option linter.unusedSimpArgs false
set_option linter.unusedVariables false
namespace Go.Proofs.Ytffbkbcjddigdaa
open Go.RowKit Go.Shelf

theorem index_wt {l : List Int} (hl : l.length = 10) {k : Nat} (hk : k < 10) (w : World) : (Instr.index 111 (sv l) (.int .i64 k)).run Try.prog w = .ok (.int .i64 (l.getD k 0)) w := by
 obtain ⟨a0, a1, a2, a3, a4, a5, a6, a7, a8, a9, rfl⟩ := list10 hl
 have h : k = 0 ∨ k = 1 ∨ k = 2 ∨ k = 3 ∨ k = 4 ∨ k = 5 ∨ k = 6 ∨ k = 7 ∨ k = 8 ∨ k = 9 := by omega
 rcases h with rfl | rfl | rfl | rfl | rfl | rfl | rfl | rfl | rfl | rfl <;>
  simp [Instr.index, run_underlying Try.underlying111, asIntOf, sv, Try.sizeOf3, part, cellsIn, typeInfo, Result.andThen]

/-- The bounds of the weight on the field of a week. -/
def M.on (f : M.Cf) (ts : List M.Tr) (wk : Int) : M.Rg := M.span (ts.map fun t => (M.weights t.gr f.crops).getD wk.toNat 0)

set_option maxRecDepth 100000 in
set_option maxHeartbeats 4000000 in
theorem standing_c (f : M.Cf) (Ag Aw Ab Ac Al : Option Addr) (ng cg nw cw nb cb nc cc nl cl : Nat) (At As : Option Addr) (nt ct ns cs p mb : Nat) (ts : List M.Tr) (ss : List (List Int)) (h0 : M.check f = 0) (hne : 0 < nt) (hts : ∀ t ∈ ts, M.listed f t = true) (wk : Nat) (hwk : (wk : Int) ≤ f.last) (w : World) (hw : Wc w f Ag Aw Ab Ac Al ng cg nw cw nb cb nc cc nl cl At As nt ct ns cs p mb ts ss) :
  Calls Try.prog 68 #[.pointer (some ⟨p, 0, none⟩), .int .i64 wk] w fun e w' => e = .returned (.agg #[.int .i64 (M.on f ts wk).lo, .int .i64 (M.on f ts wk).hi]) ∧ Ev w w' := by
 obtain ⟨i0, hi0, hz0, hz1, hz2⟩ := info_parts info3
 obtain ⟨hl9, hb3, _, hv, _⟩ := M.check0 h0
 obtain ⟨k0, k1, k2, k3, k4, k5, k6, k7, k8, k9, k10, k11⟩ := cells12 hw.hd
 have hn1 := hw.n1
 have hpw := heap_lt hw.hd
 have htl : ts.length = nt := by
  obtain ⟨vs, h1, h2⟩ := hw.tr
  rw [← h2.1, h1.len]
 have hgv := (M.valid_parts hv).2.1
 have HTG := hid (fun (t : M.Tr) (ht : t ∈ ts) => (M.listed_bd hv (hts t ht)))
 have HWT := hid (fun (Tg Tw : Option Addr) (tg tgc tw twc : Nat) (t : M.Tr) (ht : t ∈ ts) W (hE : Ev w W) (hg : Sl ics 1 W W.heap.size Tg tg tgc t.gr) => weights_c f Ag Aw Ab Ac Al ng cg nw cw nb cb nc cc nl cl Tg Tw tg tgc tw twc t.gr Ac nc cc f.crops hl9 (by have := (HTG.out t ht).1; have := hg.len; omega) (HTG.out t ht).2.2.1 W hg (hw.fd.c.ev hE))
 have hw10 : wk < 10 := by omega
 have HTL := hid htl
 have HGV := hid hgv
 have HWC := hid hw
 have HON := hid (show M.on f ts wk = M.span (ts.map fun t => (M.weights t.gr f.crops).getD wk 0) by unfold M.on; rw [Int.toNat_natCast])
 clear hw h0 hts htl hgv hv
 go_enter Try.func68, Try.ntmps68
 go_wp2
 generalize hW0 : World.alloc w _ = W0
 have hE0 : Ev w W0 := by rw [← hW0]; exact Ev.alloc (Ev.refl _) _
 have hal := alloc1 w (.cells #[.int .i64 0, .int .i64 0] 57)
 rw [hW0] at hal
 have Q0 := hid hal.1
 have hz := hal.2
 have HZ := hid hz
 have k0' := (hE0.cells.1 p 0 hpw).trans k0
 clear hal hW0 hz k0 k1 k2 k3 k4 k5 k6 k7 k8 k9 k10 k11 k0'
 go_loopw [5, 13] (fun v i wr => ∃ k : Nat, ∃ V : Option Addr, ∃ d : Nat, v = .slice V k d ∧ i = .int .i64 k ∧ k ≤ nt ∧ Ev W0 wr ∧ wr.ownsRow W0.heap.size 3 1 (.slice V k d) k (((ts.take k).map fun t => (M.weights t.gr f.crops).getD wk 0).flatMap ics)) (fun _ i _ => nt - (intOf i).toNat)
 case atStart => exact ⟨0, none, 0, rfl, rfl, by omega, Ev.refl _, World.ownsRow_nil _ _ _ _⟩
 case round =>
  obtain ⟨k, V, d, rfl, rfl, hk, hB, hown⟩ := hrel
  have HE := hid (hE0.trans hB)
  have HW1 := hid (HWC.out.ev HE.out)
  have hBs := hB.size
  by_cases hlt : k < nt
  ·
   obtain ⟨vs, hvs, hrs⟩ := HW1.out.tr
   obtain ⟨b, off, v, rfl, hb, hx, hd, hcc⟩ := hvs.at_ (Below.refl _ _) hlt
   have e0 := hcc 0 _ rfl
   have e1 := hcc 1 _ rfl
   simp only [Nat.add_zero] at e0
   have hcap := hvs.cap
   have htk : ts[k]? = some (ts[k]'(by rw [HTL.out]; exact hlt)) := List.getElem?_eq_getElem _
   generalize ts[k]'(by rw [HTL.out]; exact hlt) = t at htk
   have htm := List.mem_of_getElem? htk
   obtain ⟨r1, r2, r3, r4⟩ := hrs.2 k v t hx htk
   have hE2 : Ev wr (wr.alloc (.cells #[.slice v.1.1 v.1.2.1 v.1.2.2, .slice v.2.1 v.2.2.1 v.2.2.2] 40)) := Ev.alloc (Ev.refl _) _
   have hsg := sl_own (enc := ics) (by decide) (ics_len _) (by omega) r1
   have HSG := hid hsg
   have HWTt := hid (fun W hE hg => HWT.out v.1.1 v.2.1 v.1.2.1 v.1.2.2 v.2.2.1 v.2.2.2 t htm W hE hg)
   have hwl := M.weights_len (gs := t.gr) (plan := f.crops) (by have := (HTG.out t htm).1; have := HGV.out; omega)
   have HTK := hid (show ((ts.take (k + 1)).map fun t => (M.weights t.gr f.crops).getD wk 0) = ((ts.take k).map fun t => (M.weights t.gr f.crops).getD wk 0) ++ [(M.weights t.gr f.crops).getD wk 0] by rw [List.take_add_one, htk, List.map_append]; rfl)
   have hix := fun wx => index_wt hwl hw10 wx
   generalize (M.weights t.gr f.crops).getD wk 0 = sx at hix HTK
   obtain ⟨a0, a1, a2, a3, a4, a5, a6, a7, a8, a9, hwe⟩ := list10 hwl
   rw [hwe] at hix
   simp only [sv, List.map_cons, List.map_nil] at hix
   have HWE := hid hwe
   have HOW := hid hown
   have hwk0 : (0 : Int) ≤ wk := by omega
   have hwk10 : (wk : Int) < 10 := by omega
   have hp1 := heap_lt HW1.out.hd
   clear hx hd hcc hvs hrs r1 r2 htk htm hsg hwl hwe hown
   obtain ⟨k0, k1, k2, k3, k4, k5, k6, k7, k8, k9, k10, k11⟩ := cells12 (HW1.out.hd)
   go_upto_region 5 with fail
   clear k0 k1 k2 k3 k4 k5 k6 k7 k8 k9 k10 k11
   generalize hW2 : World.alloc wr _ = W2
   have hE3 : Ev wr W2 := by rw [← hW2]; exact Ev.alloc (Ev.refl _) _
   have hal := (alloc1 wr (.cells #[.slice v.1.1 v.1.2.1 v.1.2.2, .slice v.2.1 v.2.2.1 v.2.2.2] 40)).1
   rw [hW2] at hal
   obtain ⟨z0, z1⟩ := cells2 hal
   have lt := heap_lt hal
   obtain ⟨k0, k1, k2, k3, k4, k5, k6, k7, k8, k9, k10, k11⟩ := cells12 (hE3.heap HW1.out.hd)
   have lp := heap_lt (hE3.heap HW1.out.hd)
   clear hW2 hal hE2
   have hw2 := HE.out.trans hE3
   have HSE : Hid (∀ w', Ev W2 w' → (∀ o, w'.cell? ⟨p, o, none⟩ = W2.cell? ⟨p, o, none⟩) ∧ (∀ o, w'.cell? ⟨wr.heap.size, o, none⟩ = W2.cell? ⟨wr.heap.size, o, none⟩)) := hid (fun w' h => ⟨fun o => h.cells.1 _ o lp, fun o => h.cells.1 _ o lt⟩)
   refine wp_region_held_drew (S := fun w' => (∀ o, w'.cell? ⟨p, o, none⟩ = W2.cell? ⟨p, o, none⟩) ∧ (∀ o, w'.cell? ⟨wr.heap.size, o, none⟩ = W2.cell? ⟨wr.heap.size, o, none⟩)) (by kernel_rfl) (⟨fun o => rfl, fun o => rfl⟩) (fun hHeld => ?_)
   refine tkH 0 (some 17) ?_
   (try simp only [Act.put, sA, sB, sC])
   refine tkH 1 (some 18) ?_
   (try simp only [Act.put, sA, sB, sC])
   refine tkH 2 (some 19) ?_
   (try simp only [Act.put, sA, sB, sC])
   refine tkH 3 (some 20) ?_
   (try simp only [Act.put, sA, sB, sC])
   refine tkH 4 (some 21) ?_
   (try simp only [Act.put, sA, sB, sC])
   refine tkH 5 (some 22) ?_
   (try simp only [Act.put, sA, sB, sC])
   refine tkH 6 (some 23) ?_
   (try simp only [Act.put, sA, sB, sC])
   refine tkH 7 (some 24) ?_
   (try simp only [Act.put, sA, sB, sC])
   refine tkH 8 (some 25) ?_
   (try simp only [Act.put, sA, sB, sC])
   refine tkH 9 (some 26) ?_
   (try simp only [Act.put, sA, sB, sC])
   refine tkH 10 (some 27) ?_
   (try simp only [Act.put, sA, sB, sC])
   refine tkH 12 (some 29) ?_
   (try simp only [Act.put, sA, sB, sC])
   refine wpAnyH_one (i := 11) rfl (by kernel_rfl) (by rfl) (fun K hK => ?_)
   go_simp
   refine (HWTt.out _ (hw2.trans (Ev.drew (Ev.refl _))) ((HSG.out.ev hE3).ev (Ev.drew (Ev.refl _)))).mono ?_
   rintro e w4 ⟨rfl, hb4⟩
   rw [HWE.out]
   have hE4 : Ev W2 w4 := Ev.trans (Ev.drew (Ev.refl _)) hb4
   refine hK.out _ _ (HSE.out _ hE4) (fun hHeld => ?_)
   clear hK K
   (try simp only [Act.put, List.setIfInBounds_toArray, List.set_cons_zero, List.set_cons_succ])
   refine wpAnyH_takeD (i := 13) (v := ?_) (some 30) rfl rfl (by kernel_rfl) (by kernel_rfl) (by kernel_rfl) (fun _ _ _ h => h) (Or.inl ⟨by rfl, ?hy⟩) (by assumption) ?_
   case hy => (intro w hSw; (try dsimp only at hSw); simp only [sv, List.map_cons, List.map_nil]; go_simp; with_reducible rfl)
   (try simp only [Act.put, List.setIfInBounds_toArray, List.set_cons_zero, List.set_cons_succ])
   refine wpAnyH_one (i := 14) rfl (by kernel_rfl) (by rfl) (fun K hK => ?_)
   go_simp
   refine hK.out _ _ (HSE.out _ (Ev.alloc hE4 _)) (fun hHeld => ?_)
   clear hK K
   (try simp only [Act.put, List.setIfInBounds_toArray, List.set_cons_zero, List.set_cons_succ])
   refine wpAnyH_one (i := 15) rfl (by kernel_rfl) (by rfl) (fun K hK => ?_)
   refine wp_append_own _ (.tmp 17) (.tmp 31) 23 rfl W0.heap.size 3 i0 _ 1 8 Try.underlying23 hi0 hz0 hz1 hz2 rfl (by decide) _ k (((ts.take k).map fun t => (M.weights t.gr f.crops).getD wk 0).flatMap ics) rfl ((HOW.out.ev (hE3.trans hE4)).alloc _) ⟨w4.heap.size, 0, none⟩ 1 1 [.int .i64 sx] rfl rfl (news_in (alloc1 w4 _).1) (by simp [Value.oneCell']) (by unfold maxLen; omega) (by omega) (by have := hE3.size; have := hE4.size; simp; omega) ?_
   intro v' w5 hown' hgrow _
   obtain ⟨V', d', rfl⟩ := own_form hown'
   have HO3 := hid hown'
   have hE4a : Ev W2 (w4.alloc (.cells #[.int .i64 sx] 3)) := Ev.alloc hE4 _
   have hW0s := hE0.size
   have hS5 : (∀ o, w5.cell? ⟨p, o, none⟩ = W2.cell? ⟨p, o, none⟩) ∧ (∀ o, w5.cell? ⟨wr.heap.size, o, none⟩ = W2.cell? ⟨wr.heap.size, o, none⟩) := ⟨fun o => World.cell?_of_block (w := W2) ((hgrow.block p (Nat.lt_of_lt_of_le lp hE4a.size) (fun e => by have := (HOW.out.lt p e.symm).1; omega)).trans (hE4a.block p lp)), fun o => World.cell?_of_block (w := W2) ((hgrow.block wr.heap.size (Nat.lt_of_lt_of_le lt hE4a.size) (fun e => by have := (HOW.out.lt _ e.symm).2; omega)).trans (hE4a.block _ lt))⟩
   have HE9 := hid (Ev.grown ((hB.trans (hE3.trans hE4)).alloc (.cells #[.int .i64 sx] 3)) hgrow (fun q e => (HOW.out.lt q e).1) : Ev W0 w5)
   clear hown' hgrow
   refine hK.out _ _ (hS5) (fun hHeld => ?_)
   clear hK K
   (try simp only [Act.put, List.setIfInBounds_toArray, List.set_cons_zero, List.set_cons_succ])
   refine tkH 16 (some 5) ?_
   (try simp only [Act.put, sA, sB, sC])
   refine wpAnyH_done (by kernel_rfl) ?_ _
   go_wp2
   exact ⟨⟨k + 1, V', d', rfl, by go_num, by omega, HE9.out, by rw [HTK.out, List.flatMap_append]; exact HO3.out⟩, by simp [intOf]; omega⟩
  ·
   obtain rfl : k = nt := by omega
   rw [List.take_of_length_le (by rw [HTL.out]; exact Nat.le_refl _)] at hown
   have hsl := sl_own (enc := ics) (by decide) (ics_len _) (by omega) hown
   obtain ⟨m, hm⟩ : ∃ m, k = m + 1 := ⟨k - 1, by omega⟩
   subst hm
   have hml := hsl.len
   generalize hxs : (ts.map fun t => (M.weights t.gr f.crops).getD wk 0) = xs at hsl hml HON
   clear hxs hown
   match xs, hml with
   | x :: xs', _ =>
    have HSP := hid (span_c V m d x xs' wr hsl)
    have hq := hB.heap Q0.out
    have HQ := hid hq
    clear hsl hq
    go_wp2_with (go_at_call 65; ((with_reducible refine HSP.out.mono ?_); rintro e w1 ⟨rfl, hb1⟩; have hq1 := hb1.heap HQ.out; obtain ⟨q0, q1⟩ := cells2 hq1; obtain ⟨f0, f1⟩ := frz2 hq1; have HQ1 := hid hq1; clear hq1))
    have hF : ((w1.setCell ⟨w.heap.size, 0, none⟩ (.int .i64 (M.least x xs'))).setCell ⟨w.heap.size, 1, none⟩ (.int .i64 (M.most x xs'))).heap[w.heap.size]? = some (.cells #[.int .i64 (M.least x xs'), .int .i64 (M.most x xs')] 57 (0, 0)) := by
     rw [set_heap_same (set_heap_same HQ1.out)]; rfl
    obtain ⟨d0, d1⟩ := cells2 hF
    refine bodyPost_ret (v := .agg #[.int .i64 (M.least x xs'), .int .i64 (M.most x xs')]) (by simp [results, Try.results68, go_sem, d0, d1]) rfl ⟨by rw [HON.out]; rfl, ?_⟩
    exact Ev.setCell (Ev.setCell (HE.out.trans hb1) (by simp) _) (by simp) _

end Go.Proofs.Ytffbkbcjddigdaa
