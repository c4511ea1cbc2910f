import Derived.Test.YtffbkbcjddigdaaA14
set_option linter.unusedSimpArgs false
set_option linter.unusedVariables false
namespace Go.Proofs.Ytffbkbcjddigdaa
open Go.RowKit

theorem cells12 {W : World} {b : Nat} {t : TypeId} {v0 v1 v2 v3 v4 v5 v6 v7 v8 v9 v10 v11 : Value} (h : W.heap[b]? = some (.cells #[v0, v1, v2, v3, v4, v5, v6, v7, v8, v9, v10, v11] t (0, 0))) :
    W.cell? ⟨b, 0, none⟩ = some v0 ∧ W.cell? ⟨b, 1, none⟩ = some v1 ∧ W.cell? ⟨b, 2, none⟩ = some v2 ∧ W.cell? ⟨b, 3, none⟩ = some v3 ∧ W.cell? ⟨b, 4, none⟩ = some v4 ∧ W.cell? ⟨b, 5, none⟩ = some v5 ∧ W.cell? ⟨b, 6, none⟩ = some v6 ∧ W.cell? ⟨b, 7, none⟩ = some v7 ∧ W.cell? ⟨b, 8, none⟩ = some v8 ∧ W.cell? ⟨b, 9, none⟩ = some v9 ∧ W.cell? ⟨b, 10, none⟩ = some v10 ∧ W.cell? ⟨b, 11, none⟩ = some v11 :=
  ⟨cell_in h 0, cell_in h 1, cell_in h 2, cell_in h 3, cell_in h 4, cell_in h 5, cell_in h 6, cell_in h 7, cell_in h 8, cell_in h 9, cell_in h 10, cell_in h 11⟩
theorem map_ne {P : Program} {kt : TypeId} {w : World} {mb : Nat} {g : Value → Option Value} (h : MapIs P kt w mb g) {b : Nat} {cs : Array Value} {t : TypeId} {fz : Nat × Nat} (hb : w.heap[b]? = some (.cells cs t fz)) : b ≠ mb := by
  rintro rfl
  obtain ⟨es, ck, hh, _⟩ := h
  rw [hb] at hh
  cases hh
theorem map_ne_cell {P : Program} {kt : TypeId} {w : World} {mb : Nat} {g : Value → Option Value} (h : MapIs P kt w mb g) {b j : Nat} {v : Value} (hb : w.cell? ⟨b, j, none⟩ = some v) : b ≠ mb := by
  rintro rfl
  obtain ⟨es, ck, hh, _⟩ := h
  rw [cell_map hh] at hb
  cases hb
theorem CS.mo {w w' : World} {f : M.Cf} {Ag Aw Ab Ac Al : Option Addr} {ng cg nw cw nb cb nc cc nl cl mb : Nat} {P : Program} {kt : TypeId} {g : Value → Option Value} (h : CS w w.heap.size f Ag Aw Ab Ac Al ng cg nw cw nb cb nc cc nl cl) (hm : MapIs P kt w mb g) (hb : Mo mb w w') : CS w' w'.heap.size f Ag Aw Ab Ac Al ng cg nw cw nb cb nc cc nl cl :=
  ⟨h.g.mo hm hb (Nat.le_refl _) hb.size, h.w_.mo hm hb (Nat.le_refl _) hb.size, h.b.mo hm hb (Nat.le_refl _) hb.size, h.c.mo hm hb (Nat.le_refl _) hb.size, h.l.mo hm hb (Nat.le_refl _) hb.size⟩
theorem Mo.ev_ {mb : Nat} {a b c : World} (h : Mo mb a b) (k : Ev b c) : Mo mb a c := h.trans (Mo.ev k)

theorem take_set_succ' {α : Type} {l : List α} {k : Nat} {x : α} (h : k < l.length) : (l.set k x).take (k + 1) = l.take k ++ [x] := by
  rw [List.take_add_one, List.take_set_of_le (Nat.le_refl _), List.getElem?_set_self h]; rfl
theorem sl_block {α : Type} {enc : α → List Value} {sz : Nat} {w : World} {b n : Nat} {t : TypeId} {xs : List α} (hsz : 0 < sz) (henc : ∀ x ∈ xs, (enc x).length = sz) (hn : n ≤ 1099511627776) (hl : xs.length = n) (h : w.heap[b]? = some (.cells (xs.flatMap enc).toArray t (0, 0))) :
    Sl enc sz w w.heap.size (some ⟨b, 0, none⟩) n n xs := by
  refine ⟨hl, Nat.le_refl _, hn, fun _ => ⟨b, 0, rfl, heap_lt h, fun k x hk j v hj => ?_⟩⟩
  rw [cell_in h, Nat.zero_add, List.getElem?_toArray]
  exact flat_get enc sz xs henc k x hk j v hj

set_option maxRecDepth 100000 in
set_option maxHeartbeats 8000000 in
theorem play_c (f : M.Cf) (Ag Aw Ab Ac Al : Option Addr) (ng cg nw cw nb cb nc cc nl cl : Nat) (At As : Option Addr) (nt ct ns cs p mb : Nat) (Tg Tw : Option Addr) (tg tgc tw twc : Nat) (t : M.Tr) (P : Option Addr) (pn pc : Nat) (plan : List Int) (hv : M.valid f = true) (hl9 : f.last ≤ 9) (hb3 : nb ≤ 3) (htr : M.listed f t = true) (hpl : M.isPlan f plan = true) (g : Value → Option Value) (hgl : Loads f g) (w : World)
    (hw : w.heap[p]? = some (.cells #[.int .i64 f.last, .slice Ag ng cg, .slice Aw nw cw, .slice Ab nb cb, .slice Ac nc cc, .int .i64 f.ripe, .int .i64 f.late, .int .i64 f.trod, .slice Al nl cl, .slice At nt ct, .slice As ns cs, .map (some mb)] 136 (0, 0))) (hs : CS w w.heap.size f Ag Aw Ab Ac Al ng cg nw cw nb cb nc cc nl cl) (hm : MapIs Try.prog 143 w mb g)
    (hg : Sl ics 1 w w.heap.size Tg tg tgc t.gr) (hwt : Sl ics 1 w w.heap.size Tw tw twc t.wet) (hp : Sl ics 1 w w.heap.size P pn pc plan) :
    Calls Try.prog 56 #[.pointer (some ⟨p, 0, none⟩), .agg #[.slice Tg tg tgc, .slice Tw tw twc], .slice P pn pc] w fun e w' => (∃ B d, e = .returned (.slice B pn d) ∧ w'.ownsRow w.heap.size 50 3 (.slice B pn d) pn ((M.play f t plan).flatMap crc)) ∧ (∃ g', Loads f g' ∧ MapIs Try.prog 143 w' mb g') ∧ Mo mb w w' := by
  obtain ⟨v1, v2, v3, v4, v5, v6, v7, v8, v9, v10, v11, v12, v13⟩ := M.valid_parts hv
  obtain ⟨t1, t2, t3, t4⟩ := M.listed_bd hv htr
  have p1 : pn ≤ nb ∧ (∀ x ∈ plan, 0 ≤ x ∧ x ≤ f.last) := by
    unfold M.isPlan M.hasWeek at hpl
    simp only [Bool.and_eq_true, decide_eq_true_eq, List.all_eq_true] at hpl
    exact ⟨by have := hs.b.len; have := hp.len; omega, hpl.2.2⟩
  have htg : (tg : Int) = f.last + 1 := by have := hg.len; omega
  have htw : (tw : Int) = f.last + 1 := by have := hwt.len; omega
  have hwb := M.weights_bd (gs := t.gr) (plan := plan) (by omega) t3
  have hwl := M.weights_len (gs := t.gr) (plan := plan) (by omega)
  have HWC := hid (fun W (hE : Ev w W) => weights_c f Ag Aw Ab Ac Al ng cg nw cw nb cb nc cc nl cl Tg Tw tg tgc tw twc t.gr P pn pc plan hl9 htg t3 W (hg.ev hE) (hp.ev hE))
  obtain ⟨a0, a1, a2, a3, a4, a5, a6, a7, a8, a9, hst⟩ := list10 hwl
  rw [hst] at hwb
  have HST := hid hst
  have hpw := heap_lt hw
  have hpm := map_ne hm hw
  have hml := hm.lt
  have hpn : pn ≤ 3 := by omega
  have HLV := hid (fun (a : Int) (b : Bool) (a0 : 0 ≤ a) (a1 : a ≤ 1000) g hg W (hW : W.heap[p]? = some (.cells #[.int .i64 f.last, .slice Ag ng cg, .slice Aw nw cw, .slice Ab nb cb, .slice Ac nc cc, .int .i64 f.ripe, .int .i64 f.late, .int .i64 f.trod, .slice Al nl cl, .slice At nt ct, .slice As ns cs, .map (some mb)] 136 (0, 0))) (hM : MapIs Try.prog 143 W mb g) => leaves_c f Ag Aw Ab Ac Al ng cg nw cw nb cb nc cc nl cl At As nt ct ns cs p mb a b a0 a1 v11 g hg W hW hM)
  have HSG := hid (fun (i : Nat) (hi : i < pn) W (h1 : Sl ics 1 W W.heap.size Ab nb cb f.base) (h2 : Sl ics 1 W W.heap.size P pn pc plan) => strength_c f Ag Aw Ab Ac Al ng cg nw cw nb cb nc cc nl cl P pn pc plan i hi (by omega) (fun x hx => by have := p1.2 x hx; omega) v7 v9 v10 W h1 h2)
  have HSB := hid (fun i => M.strength_bd (f := f) v7 v10.1 plan i)
  have HLB := hid (fun (a : Int) (b : Bool) (a0 : 0 ≤ a) => M.leaves_bd v11 a0 b)
  have HP1 := hid p1.2
  have HWL := hid hw
  have HM := hid hm
  have hplen := hp.len
  have HPL := hid hplen
  have HTW := hid htw
  clear htw htg v1 v2 v3 v4 v5 v6 v7 v8 v9 v10 v11 v12 v13 t1 t2 t3 t4 p1 hst hwl hv htr hpl hw hplen
  go_enter Try.func56, Try.ntmps56
  go_upto_region 1 with fail
  generalize hW0 : World.alloc w _ = W0
  have hE0 : Ev w W0 := by rw [← hW0]; exact Ev.alloc (Ev.refl _) _
  have hal := alloc1 w (.cells #[.slice Tg tg tgc, .slice Tw tw twc] 40)
  rw [hW0] at hal
  have Q0 := hid hal.1
  have QP := hid (hE0.heap HWL.out)
  have hzl : W0.heap.size = w.heap.size + 1 := hal.2
  have HZL := hid hzl
  clear hal hW0 hzl
  obtain ⟨k0, k1⟩ := cells2 Q0.out
  obtain ⟨y0, y1, y2, y3, y4, y5, y6, y7, y8, y9, y10, y11⟩ := cells12 QP.out
  have l0 := heap_lt Q0.out
  have l1 := heap_lt QP.out
  have HSE : Hid (∀ w', Ev W0 w' → (∀ o, w'.cell? ⟨p, o, none⟩ = W0.cell? ⟨p, o, none⟩) ∧ (∀ o, w'.cell? ⟨w.heap.size, o, none⟩ = W0.cell? ⟨w.heap.size, o, none⟩)) := hid (fun w' h => ⟨fun o => h.cells.1 _ o l1, fun o => h.cells.1 _ o l0⟩)
  go_cut [7] (fun v W1 => ∃ r : Nat, v = .pointer (some ⟨r, 0, none⟩) ∧ Ev W0 W1 ∧ W0.heap.size ≤ r ∧ W1.heap[r]? = some (.cells #[.int .i64 a0, .int .i64 a1, .int .i64 a2, .int .i64 a3, .int .i64 a4, .int .i64 a5, .int .i64 a6, .int .i64 a7, .int .i64 a8, .int .i64 a9] 111 (0, 0)))
  case first =>
    refine wp_region_held_drew (S := fun w' => (∀ o, w'.cell? ⟨p, o, none⟩ = W0.cell? ⟨p, o, none⟩) ∧ (∀ o, w'.cell? ⟨w.heap.size, o, none⟩ = W0.cell? ⟨w.heap.size, o, none⟩)) (by kernel_rfl) (⟨fun o => rfl, fun o => rfl⟩) (fun hHeld => ?_)
    refine wpAnyH_take (i := 0) (v := ?_) rfl (by kernel_rfl) (by kernel_rfl) (by kernel_rfl) (fun _ _ _ h => h) (Or.inl ⟨by rfl, ?hy⟩) (by assumption) ?_
    case hy => (intro w hSw; (try dsimp only at hSw); go_simp; with_reducible rfl)
    (try simp only [Act.put, List.setIfInBounds_toArray, List.set_cons_zero, List.set_cons_succ])
    refine wpAnyH_take (i := 1) (v := ?_) rfl (by kernel_rfl) (by kernel_rfl) (by kernel_rfl) (fun _ _ _ h => h) (Or.inl ⟨by rfl, ?hy⟩) (by assumption) ?_
    case hy => (intro w hSw; (try dsimp only at hSw); go_simp; with_reducible rfl)
    (try simp only [Act.put, List.setIfInBounds_toArray, List.set_cons_zero, List.set_cons_succ])
    refine wpAnyH_take (i := 2) (v := ?_) rfl (by kernel_rfl) (by kernel_rfl) (by kernel_rfl) (fun _ _ _ h => h) (Or.inl ⟨by rfl, ?hy⟩) (by assumption) ?_
    case hy => (intro w hSw; (try dsimp only at hSw); go_simp; with_reducible rfl)
    (try simp only [Act.put, List.setIfInBounds_toArray, List.set_cons_zero, List.set_cons_succ])
    refine wpAnyH_take (i := 3) (v := ?_) rfl (by kernel_rfl) (by kernel_rfl) (by kernel_rfl) (fun _ _ _ h => h) (Or.inl ⟨by rfl, ?hy⟩) (by assumption) ?_
    case hy => (intro w hSw; (try dsimp only at hSw); go_simp; with_reducible rfl)
    (try simp only [Act.put, List.setIfInBounds_toArray, List.set_cons_zero, List.set_cons_succ])
    refine wpAnyH_take (i := 4) (v := ?_) rfl (by kernel_rfl) (by kernel_rfl) (by kernel_rfl) (fun _ _ _ h => h) (Or.inl ⟨by rfl, ?hy⟩) (by assumption) ?_
    case hy => (intro w hSw; (try dsimp only at hSw); go_simp; with_reducible rfl)
    (try simp only [Act.put, List.setIfInBounds_toArray, List.set_cons_zero, List.set_cons_succ])
    refine wpAnyH_take (i := 5) (v := ?_) rfl (by kernel_rfl) (by kernel_rfl) (by kernel_rfl) (fun _ _ _ h => h) (Or.inl ⟨by rfl, ?hy⟩) (by assumption) ?_
    case hy => (intro w hSw; (try dsimp only at hSw); go_simp; with_reducible rfl)
    (try simp only [Act.put, List.setIfInBounds_toArray, List.set_cons_zero, List.set_cons_succ])
    refine wpAnyH_ready (rs := [6, 7]) (by kernel_rfl) (by simp) ?_
    refine AllReadyH.cons rfl (fun K hK => ?_) (AllReadyH.cons rfl (fun K hK => ?_) (AllReadyH.nil))
    · go_simp
      refine (HWC.out _ (hE0.trans (Ev.drew (Ev.refl _)))).mono ?_
      rintro e w1 ⟨rfl, hb1⟩
      rw [HST.out]
      have hE3 : Ev W0 w1 := Ev.trans (Ev.drew (Ev.refl _)) hb1
      refine hK.out _ _ (HSE.out _ hE3) (fun hHeld => ?_)
      clear hK K
      (try simp only [Act.put, List.setIfInBounds_toArray, List.set_cons_zero, List.set_cons_succ])
      refine wpAnyH_ready (rs := [7]) (by kernel_rfl) (by simp) ?_
      refine AllReadyH.cons rfl (fun K hK => ?_) (AllReadyH.nil)
      go_simp
      refine hK.out _ _ (HSE.out _ (Ev.alloc hE3 _)) (fun hHeld => ?_)
      clear hK K
      (try simp only [Act.put, List.setIfInBounds_toArray, List.set_cons_zero, List.set_cons_succ])
      refine wpAnyH_ready (rs := [8]) (by kernel_rfl) (by simp) ?_
      refine AllReadyH.cons rfl (fun K hK => ?_) (AllReadyH.nil)
      simp only [sv, List.map_cons, List.map_nil]
      go_simp
      refine hK.out _ _ (HSE.out _ (Ev.alloc hE3 _)) (fun hHeld => ?_)
      clear hK K
      (try simp only [Act.put, List.setIfInBounds_toArray, List.set_cons_zero, List.set_cons_succ])
      refine wpAnyH_done (by kernel_rfl) ?_ _
      go_wp2_with fail
      go_meet
      exact ⟨w1.heap.size, rfl, Ev.alloc hE3 _, hE3.size, (alloc1 w1 _).1⟩
    · go_simp
      refine hK.out _ _ (HSE.out _ (Ev.alloc (Ev.drew (Ev.refl _)) _)) (fun hHeld => ?_)
      clear hK K
      (try simp only [Act.put, List.setIfInBounds_toArray, List.set_cons_zero, List.set_cons_succ])
      refine wpAnyH_ready (rs := [6]) (by kernel_rfl) (by simp) ?_
      refine AllReadyH.cons rfl (fun K hK => ?_) (AllReadyH.nil)
      go_simp
      refine (HWC.out _ (hE0.trans (Ev.alloc (Ev.drew (Ev.refl _)) _))).mono ?_
      rintro e w1 ⟨rfl, hb1⟩
      rw [HST.out]
      have hE3 : Ev W0 w1 := Ev.trans (Ev.alloc (Ev.drew (Ev.refl _)) _) hb1
      have hA : w1.heap[W0.heap.size]? = some (.cells #[.int .i64 0, .int .i64 0, .int .i64 0, .int .i64 0, .int .i64 0, .int .i64 0, .int .i64 0, .int .i64 0, .int .i64 0, .int .i64 0] 111 (0, 0)) := hb1.heap (alloc1 W0.drew _).1
      obtain ⟨d0, d1, d2, d3, d4, d5, d6, d7, d8, d9⟩ := cells10 hA
      obtain ⟨f0, f1, f2, f3, f4, f5, f6, f7, f8, f9⟩ := frz10 hA
      have HA := hid hA
      clear hA
      refine hK.out _ _ (HSE.out _ hE3) (fun hHeld => ?_)
      clear hK K
      (try simp only [Act.put, List.setIfInBounds_toArray, List.set_cons_zero, List.set_cons_succ])
      refine wpAnyH_ready (rs := [8]) (by kernel_rfl) (by simp) ?_
      refine AllReadyH.cons rfl (fun K hK => ?_) (AllReadyH.nil)
      simp only [sv, List.map_cons, List.map_nil]
      go_simp
      have hE5 := Ev.setCell (Ev.setCell (Ev.setCell (Ev.setCell (Ev.setCell (Ev.setCell (Ev.setCell (Ev.setCell (Ev.setCell (Ev.setCell hE3 (p := ⟨W0.heap.size, 0, none⟩) (Nat.le_refl _) (.int .i64 a0)) (p := ⟨W0.heap.size, 1, none⟩) (Nat.le_refl _) (.int .i64 a1)) (p := ⟨W0.heap.size, 2, none⟩) (Nat.le_refl _) (.int .i64 a2)) (p := ⟨W0.heap.size, 3, none⟩) (Nat.le_refl _) (.int .i64 a3)) (p := ⟨W0.heap.size, 4, none⟩) (Nat.le_refl _) (.int .i64 a4)) (p := ⟨W0.heap.size, 5, none⟩) (Nat.le_refl _) (.int .i64 a5)) (p := ⟨W0.heap.size, 6, none⟩) (Nat.le_refl _) (.int .i64 a6)) (p := ⟨W0.heap.size, 7, none⟩) (Nat.le_refl _) (.int .i64 a7)) (p := ⟨W0.heap.size, 8, none⟩) (Nat.le_refl _) (.int .i64 a8)) (p := ⟨W0.heap.size, 9, none⟩) (Nat.le_refl _) (.int .i64 a9)
      refine hK.out _ _ (HSE.out _ hE5) (fun hHeld => ?_)
      clear hK K
      (try simp only [Act.put, List.setIfInBounds_toArray, List.set_cons_zero, List.set_cons_succ])
      refine wpAnyH_done (by kernel_rfl) ?_ _
      go_wp2_with fail
      go_meet
      exact ⟨W0.heap.size, rfl, hE5, Nat.le_refl _, set10 HA.out⟩
  case rest =>
    obtain ⟨r, rfl, hE1, hr0, hC1⟩ := hcut
    have Q0c := hid (hE1.heap Q0.out)
    have hEw := hE0.trans hE1
    have HC1 := hid hC1
    have hr1 := heap_lt hC1
    have hmk := fun wx => makeCr pn (by omega) wx
    have hrw : w.heap.size < r := by have := HZL.out; omega
    clear hC1 y0 y1 y2 y3 y4 y5 y6 y7 y8 y9 y10 y11 k0 k1 HSE
    have hwcs := hE1.size
    go_wp2_with fail
    have QX := hid (alloc1 wc (.cells ((List.replicate pn (⟨0, 0, 0⟩ : M.Cr)).flatMap crc).toArray 50)).1
    have hEx : Ev w (wc.alloc (.cells ((List.replicate pn (⟨0, 0, 0⟩ : M.Cr)).flatMap crc).toArray 50)) := Ev.alloc hEw _
    have QR := hid (heap_old (.cells ((List.replicate pn (⟨0, 0, 0⟩ : M.Cr)).flatMap crc).toArray 50) HC1.out)
    have QT := hid (heap_old (.cells ((List.replicate pn (⟨0, 0, 0⟩ : M.Cr)).flatMap crc).toArray 50) Q0c.out)
    go_loopw [25] (fun i wr => ∃ k : Nat, ∃ g' : Value → Option Value, ∃ xs : List M.Cr, i = .int .i64 k ∧ k ≤ pn ∧ Mo mb w wr ∧ Loads f g' ∧ MapIs Try.prog 143 wr mb g' ∧ Hid (wr.heap[w.heap.size]? = some (.cells #[.slice Tg tg tgc, .slice Tw tw twc] 40 (0, 0))) ∧ Hid (wr.heap[r]? = some (.cells #[.int .i64 a0, .int .i64 a1, .int .i64 a2, .int .i64 a3, .int .i64 a4, .int .i64 a5, .int .i64 a6, .int .i64 a7, .int .i64 a8, .int .i64 a9] 111 (0, 0))) ∧ Hid (wr.heap[wc.heap.size]? = some (.cells (xs.flatMap crc).toArray 50 (0, 0))) ∧ xs.length = pn ∧ Hid (xs.take k = (M.play f t plan).take k)) (fun i _ => pn - (intOf i).toNat)
    case atStart => exact ⟨0, g, List.replicate pn ⟨0, 0, 0⟩, rfl, by omega, Mo.ev hEx, hgl, HM.out.keep hEx hml, QT, QR, QX, by simp, hid rfl⟩
    case round =>
      obtain ⟨k, g', xs, rfl, hk, hB, hL, hMr, hQ0, hR, hX, hxl, hT⟩ := hrel
      have hpr := hp.mo HM.out hB (Nat.le_refl _) hB.size
      have hwr := hwt.mo HM.out hB (Nat.le_refl _) hB.size
      have hbr := hs.b.mo HM.out hB (Nat.le_refl _) hB.size
      have HPR := hid (hB.heap HWL.out hpm)
      by_cases hlt : k < pn
      · obtain ⟨bp, op, x, rfl, hbp, hx, hd, e0⟩ := hpr.int (Below.refl _ _) hlt
        have hxb := HP1.out x (List.mem_of_getElem? hx)
        have HXK := hid (show plan.getD k 0 = x by rw [List.getD_eq_getElem?_getD, hx]; rfl)
        have hpcap := hpr.cap
        clear hx hd
        obtain ⟨m, rfl⟩ := Int.eq_ofNat_of_zero_le hxb.1
        have hm9 : m ≤ 9 := by omega
        obtain ⟨bw, ow, s, rfl, hbw, hsx, hsd, e1⟩ := hwr.int (Below.refl _ _) (show m < tw by have := HTW.out; omega)
        have hwcap := hwr.cap
        have HSX := hid hsx
        clear hsx hsd
        have ha : [a0, a1, a2, a3, a4, a5, a6, a7, a8, a9][m]? = some ([a0, a1, a2, a3, a4, a5, a6, a7, a8, a9].getD m 0) := by
          rw [List.getD_eq_getElem?_getD, List.getElem?_eq_getElem (by simp; omega)]; rfl
        have hab := hwb _ (List.mem_of_getElem? ha)
        have HAW := hid (show (M.weights t.gr plan).getD m 0 = [a0, a1, a2, a3, a4, a5, a6, a7, a8, a9].getD m 0 by rw [HST.out])
        generalize [a0, a1, a2, a3, a4, a5, a6, a7, a8, a9].getD m 0 = a at ha hab HAW
        have hxa : (#[.int .i64 a0, .int .i64 a1, .int .i64 a2, .int .i64 a3, .int .i64 a4, .int .i64 a5, .int .i64 a6, .int .i64 a7, .int .i64 a8, .int .i64 a9] : Array Value)[m]? = some (.int .i64 a) := by
          have : (#[.int .i64 a0, .int .i64 a1, .int .i64 a2, .int .i64 a3, .int .i64 a4, .int .i64 a5, .int .i64 a6, .int .i64 a7, .int .i64 a8, .int .i64 a9] : Array Value) = ([a0, a1, a2, a3, a4, a5, a6, a7, a8, a9].map (Value.int .i64)).toArray := rfl
          rw [this]; simp only [List.getElem?_toArray, List.getElem?_map, ha]; rfl
        have c0 := (cell_in hR.out m).trans hxa
        obtain ⟨bb, hbb⟩ : ∃ bb : Bool, (s == 1) = bb := ⟨_, rfl⟩
        have HLF := hid (show M.left f t plan (plan.getD k 0) = M.leaves f a bb by
          unfold M.left; rw [HXK.out, Int.toNat_natCast, HAW.out, List.getD_eq_getElem?_getD, HSX.out]; simp only [Option.getD_some, hbb])
        have hlb := HLB.out a bb hab.1
        have hsb := HSB.out k
        have HLVa := hid (HLV.out a bb hab.1 (by omega) g' hL)
        have HCR := hid (show M.crop f t plan k = ⟨M.leaves f a bb, M.strength f plan k, M.leaves f a bb * M.strength f plan k⟩ by unfold M.crop; rw [HLF.out])
        have HSGk := hid (HSG.out k hlt)
        generalize M.leaves f a bb = lv at hlb HLVa HCR
        generalize M.strength f plan k = sg at hsb HSGk HCR
        obtain ⟨pr, hpp⟩ : ∃ pr : Int, lv * sg = pr := ⟨_, rfl⟩
        have hpr0 : 0 ≤ pr := by rw [← hpp]; exact Int.mul_nonneg (by omega) (by omega)
        have hpr1 : pr ≤ 500 * 200 := by rw [← hpp]; exact Int.mul_le_mul (by omega) (by omega) (by omega) (by omega)
        rw [hpp] at HCR
        have s1 : IntKind.i64.wrap pr = pr := IntWalk.i64_in _ (by omega)
        have m10 : (m : Int) < 10 := by omega
        have m0 : (0 : Int) ≤ m := by omega
        have mw : (m : Int) < tw := by have := HTW.out; omega
        have hbwm := map_ne_cell hMr e1
        have hrm := map_ne hMr hR.out
        have h0m := map_ne hMr hQ0.out
        have lr := heap_lt hR.out
        have l0' := heap_lt hQ0.out
        obtain ⟨k0, k1⟩ := cells2 hQ0.out
        have HSE : Hid (∀ w', Mo mb wr w' → (∀ o, w'.cell? ⟨r, o, none⟩ = wr.cell? ⟨r, o, none⟩) ∧ (∀ o, w'.cell? ⟨w.heap.size, o, none⟩ = wr.cell? ⟨w.heap.size, o, none⟩) ∧ (∀ o, w'.cell? ⟨bw, o, none⟩ = wr.cell? ⟨bw, o, none⟩)) := hid (fun w' h => ⟨fun o => h.cells.1 _ o lr hrm, fun o => h.cells.1 _ o l0' h0m, fun o => h.cells.1 _ o hbw hbwm⟩)
        have HMR := hid hMr
        clear hwb hxa ha hMr hL
        go_upto_region 6 with fail
        refine wp_region_held_drew (S := fun w' => (∀ o, w'.cell? ⟨r, o, none⟩ = wr.cell? ⟨r, o, none⟩) ∧ (∀ o, w'.cell? ⟨w.heap.size, o, none⟩ = wr.cell? ⟨w.heap.size, o, none⟩) ∧ (∀ o, w'.cell? ⟨bw, o, none⟩ = wr.cell? ⟨bw, o, none⟩)) (by kernel_rfl) (⟨fun o => rfl, fun o => rfl, fun o => rfl⟩) (fun hHeld => ?_)
        refine wpAnyH_take (i := 0) (v := ?_) rfl (by kernel_rfl) (by kernel_rfl) (by kernel_rfl) (fun _ _ _ h => h) (Or.inl ⟨by rfl, ?hy⟩) (by assumption) ?_
        case hy => (intro w hSw; (try dsimp only at hSw); go_simp; with_reducible rfl)
        (try simp only [Act.put, List.setIfInBounds_toArray, List.set_cons_zero, List.set_cons_succ])
        refine wpAnyH_take (i := 1) (v := ?_) rfl (by kernel_rfl) (by kernel_rfl) (by kernel_rfl) (fun _ _ _ h => h) (Or.inl ⟨by rfl, ?hy⟩) (by assumption) ?_
        case hy => (intro w hSw; (try dsimp only at hSw); go_simp; with_reducible rfl)
        (try simp only [Act.put, List.setIfInBounds_toArray, List.set_cons_zero, List.set_cons_succ])
        refine wpAnyH_take (i := 2) (v := ?_) rfl (by kernel_rfl) (by kernel_rfl) (by kernel_rfl) (fun _ _ _ h => h) (Or.inl ⟨by rfl, ?hy⟩) (by assumption) ?_
        case hy => (intro w hSw; (try dsimp only at hSw); go_simp; with_reducible rfl)
        (try simp only [Act.put, List.setIfInBounds_toArray, List.set_cons_zero, List.set_cons_succ])
        refine wpAnyH_take (i := 3) (v := ?_) rfl (by kernel_rfl) (by kernel_rfl) (by kernel_rfl) (fun _ _ _ h => h) (Or.inl ⟨by rfl, ?hy⟩) (by assumption) ?_
        case hy => (intro w hSw; (try dsimp only at hSw); go_simp; with_reducible rfl)
        (try simp only [Act.put, List.setIfInBounds_toArray, List.set_cons_zero, List.set_cons_succ])
        refine wpAnyH_take (i := 4) (v := ?_) rfl (by kernel_rfl) (by kernel_rfl) (by kernel_rfl) (fun _ _ _ h => h) (Or.inl ⟨by rfl, ?hy⟩) (by assumption) ?_
        case hy => (intro w hSw; (try dsimp only at hSw); go_simp; with_reducible rfl)
        (try simp only [Act.put, List.setIfInBounds_toArray, List.set_cons_zero, List.set_cons_succ])
        refine wpAnyH_take (i := 5) (v := ?_) rfl (by kernel_rfl) (by kernel_rfl) (by kernel_rfl) (fun _ _ _ h => h) (Or.inl ⟨by rfl, ?hy⟩) (by assumption) ?_
        case hy => (intro w hSw; (try dsimp only at hSw); go_simp; with_reducible rfl)
        (try simp only [Act.put, List.setIfInBounds_toArray, List.set_cons_zero, List.set_cons_succ])
        refine wpAnyH_take (i := 6) (v := ?_) rfl (by kernel_rfl) (by kernel_rfl) (by kernel_rfl) (fun _ _ _ h => h) (Or.inl ⟨by rfl, ?hy⟩) (by assumption) ?_
        case hy => (intro w hSw; (try dsimp only at hSw); go_simp; with_reducible rfl)
        (try simp only [Act.put, List.setIfInBounds_toArray, List.set_cons_zero, List.set_cons_succ])
        refine wpAnyH_take (i := 7) (v := ?_) rfl (by kernel_rfl) (by kernel_rfl) (by kernel_rfl) (fun _ _ _ h => h) (Or.inl ⟨by rfl, ?hy⟩) (by assumption) ?_
        case hy => (intro w hSw; (try dsimp only at hSw); go_simp; with_reducible rfl)
        (try simp only [Act.put, List.setIfInBounds_toArray, List.set_cons_zero, List.set_cons_succ])
        refine wpAnyH_take (i := 8) (v := ?_) rfl (by kernel_rfl) (by kernel_rfl) (by kernel_rfl) (fun _ _ _ h => h) (Or.inl ⟨by rfl, ?hy⟩) (by assumption) ?_
        case hy => (intro w hSw; (try dsimp only at hSw); go_simp; with_reducible rfl)
        (try simp only [Act.put, List.setIfInBounds_toArray, List.set_cons_zero, List.set_cons_succ])
        refine wpAnyH_take (i := 9) (v := ?_) rfl (by kernel_rfl) (by kernel_rfl) (by kernel_rfl) (fun _ _ _ h => h) (Or.inl ⟨by rfl, ?hy⟩) (by assumption) ?_
        case hy => (intro w hSw; (try dsimp only at hSw); go_simp; with_reducible rfl)
        (try simp only [Act.put, List.setIfInBounds_toArray, List.set_cons_zero, List.set_cons_succ])
        refine wpAnyH_take (i := 10) (v := ?_) rfl (by kernel_rfl) (by kernel_rfl) (by kernel_rfl) (fun _ _ _ h => h) (Or.inl ⟨by rfl, ?hy⟩) (by assumption) ?_
        case hy => (intro w hSw; (try dsimp only at hSw); go_simp; with_reducible rfl)
        (try simp only [Act.put, List.setIfInBounds_toArray, List.set_cons_zero, List.set_cons_succ])
        refine wpAnyH_ready (rs := [11]) (by kernel_rfl) (by simp) ?_
        refine AllReadyH.cons rfl (fun K hK => ?_) (AllReadyH.nil)
        go_simp
        refine (HLVa.out wr.drew ((Ev.drew (Ev.refl wr)).heap HPR.out) (HMR.out.same rfl)).mono ?_
        rintro e w2 ⟨rfl, ⟨g2, hL2, hM2⟩, hb2⟩
        have hb2' : Mo mb wr w2 := (Mo.drew (Mo.refl mb wr)).trans hb2
        refine hK.out _ _ (HSE.out _ hb2') (fun hHeld => ?_)
        clear hK K
        (try simp only [Act.put, List.setIfInBounds_toArray, List.set_cons_zero, List.set_cons_succ])
        refine wpAnyH_take (i := 12) (v := ?_) rfl (by kernel_rfl) (by kernel_rfl) (by kernel_rfl) (fun _ _ _ h => h) (Or.inl ⟨by rfl, ?hy⟩) (by assumption) ?_
        case hy => (intro w hSw; (try dsimp only at hSw); go_simp; with_reducible rfl)
        (try simp only [Act.put, List.setIfInBounds_toArray, List.set_cons_zero, List.set_cons_succ])
        refine wpAnyH_done (by kernel_rfl) ?_ _
        have HP2 := hid (hb2'.heap HPR.out hpm)
        obtain ⟨y0, y1, y2, y3, y4, y5, y6, y7, y8, y9, y10, y11⟩ := cells12 HP2.out
        have hpr2 := hid (hpr.mo HMR.out hb2' (Nat.le_refl _) hb2'.size)
        have hbr2 := hid (hbr.mo HMR.out hb2' (Nat.le_refl _) hb2'.size)
        have hqm := map_ne HMR.out hX.out
        have HX2 := hid (hb2'.heap hX.out hqm)
        have HQ2 := hid (hb2'.heap hQ0.out h0m)
        have HR2 := hid (hb2'.heap hR.out hrm)
        have hL2' := hid hL2
        have HM2 := hid hM2
        clear hL2 hM2 hpr hbr hwr e0 e1 c0 k0 k1
        go_upto_region 8 with (go_at_call 87; ((with_reducible refine (HSGk.out _ hbr2.out hpr2.out).mono ?_); rintro e w3 ⟨rfl, hb3⟩))
        have HX3 := hid (hb3.heap HX2.out)
        obtain ⟨u0, u1, u2, hu0, hu1, hu2⟩ := tri_get xs k (by omega)
        have x0 : w3.cell? ⟨wc.heap.size, k * 3, none⟩ = some (.int .i64 u0) := (cell_in HX3.out _).trans (by rw [List.getElem?_toArray]; exact hu0)
        have x1 : w3.cell? ⟨wc.heap.size, k * 3 + 1, none⟩ = some (.int .i64 u1) := (cell_in HX3.out _).trans (by rw [List.getElem?_toArray]; exact hu1)
        have x2 : w3.cell? ⟨wc.heap.size, k * 3 + 2, none⟩ = some (.int .i64 u2) := (cell_in HX3.out _).trans (by rw [List.getElem?_toArray]; exact hu2)
        have f0 := frozen_in HX3.out (k * 3)
        have f1 := frozen_in HX3.out (k * 3 + 1)
        have f2 := frozen_in HX3.out (k * 3 + 2)
        have k0 : (0 : Int) ≤ k := by omega
        have kp : (k : Int) < pn := by omega
        clear hu0 hu1 hu2 y0 y1 y2 y3 y4 y5 y6 y7 y8 y9 y10 y11
        go_wp2
        have hb3' : Mo mb w w3 := (hB.trans hb2').trans (Mo.ev hb3)
        have hmq : mb ≠ wc.heap.size := by omega
        have hM3 : MapIs Try.prog 143 w3 mb g2 := HM2.out.keep hb3 HM2.out.lt
        refine ⟨⟨k + 1, g2, xs.set k ⟨lv, sg, pr⟩, by go_num, by omega, ((hb3'.setCell (by simp; omega) _).setCell (by simp; omega) _).setCell (by simp; omega) _, hL2'.out, ?_, ?_, ?_, ?_, by rw [List.length_set]; exact hxl, ?_⟩, by simp [intOf]; omega⟩
        · exact hM3.same (by rw [Below.heap_setCell _ _ _ _ (by simpa using hmq), Below.heap_setCell _ _ _ _ (by simpa using hmq), Below.heap_setCell _ _ _ _ (by simpa using hmq)])
        · exact hid (set_heap (set_heap (set_heap (hb3.heap HQ2.out) (by omega)) (by omega)) (by omega))
        · exact hid (set_heap (set_heap (set_heap (hb3.heap HR2.out) (by omega)) (by omega)) (by omega))
        · refine hid ?_
          rw [set_heap_same (set_heap_same (set_heap_same HX3.out)), ← set_tri xs k _ (by omega)]
          simp only [List.setIfInBounds_toArray]
        · refine hid ?_
          rw [take_set_succ' (by omega), hT.out]
          have h1 : (M.play f t plan)[k]? = some ⟨lv, sg, pr⟩ := by
            unfold M.play
            rw [List.getElem?_map, List.getElem?_range (by rw [HPL.out]; exact hlt), ← HCR.out]; rfl
          rw [List.take_add_one, h1]; rfl
      · obtain rfl : k = pn := by omega
        have hxs : xs = M.play f t plan := by
          have h := hT.out
          rw [List.take_of_length_le (by omega), List.take_of_length_le (by rw [M.play_len, HPL.out]; exact Nat.le_refl _)] at h
          exact h
        have HXS := hid hxs
        have hxl' := hid hxl
        clear hxs hxl
        go_wp2
        go_ret
        have hlen : (xs.flatMap crc).length = k * 3 := by rw [flat_len crc 3 xs (fun _ _ => rfl), hxl'.out]
        exact ⟨⟨_, _, rfl, by rw [← HXS.out]; exact ⟨hlen, .inr ⟨wc.heap.size, k, _, rfl, Nat.le_of_lt (Nat.lt_of_lt_of_le hrw (Nat.le_of_lt hr1)), hX.out, Nat.le_refl _, by unfold maxLen; omega, by simp [hlen], by rw [List.take_of_length_le (by simp [hlen])]⟩⟩⟩, ⟨g', hL, hMr⟩, hB⟩

end Go.Proofs.Ytffbkbcjddigdaa
