import Derived.Test.YtffbkbcjddigdaaA31
set_option linter.unusedSimpArgs false
set_option linter.unusedVariables false
namespace Go.Proofs.Ytffbkbcjddigdaa
open Go.RowKit Go.Shelf

/-- The crops of a plan in some truths, in rows of their own. -/
def PRow (b0 : Nat) (W : World) (v : Hd) (xs : List M.Cr) : Prop := W.ownsRow b0 50 3 (.slice v.1 v.2.1 v.2.2) v.2.1 (xs.flatMap crc) ∧ v.2.1 ≤ 100
def PRows (b0 : Nat) (W : World) (vs : List Hd) (xs : List (List M.Cr)) : Prop := vs.length = xs.length ∧ ∀ (j : Nat) (v : Hd) (x : List M.Cr), vs[j]? = some v → xs[j]? = some x → PRow b0 W v x
theorem PRows.nil (b0 : Nat) (W : World) : PRows b0 W [] [] := ⟨rfl, fun j v x h => by simp at h⟩
theorem PRows.imp {b0 : Nat} {W W' : World} {vs : List Hd} {xs : List (List M.Cr)} (h : PRows b0 W vs xs) (hi : ∀ (u : Value) (n : Nat) (xs : List Value), W.ownsRow b0 50 3 u n xs → W'.ownsRow b0 50 3 u n xs) : PRows b0 W' vs xs :=
  ⟨h.1, fun j v t hv ht => ⟨hi _ _ _ (h.2 j v t hv ht).1, (h.2 j v t hv ht).2⟩⟩
theorem PRows.snoc {b0 : Nat} {W : World} {vs : List Hd} {xs : List (List M.Cr)} (h : PRows b0 W vs xs) {v : Hd} {x : List M.Cr} (hx : PRow b0 W v x) : PRows b0 W (vs ++ [v]) (xs ++ [x]) := by
  refine ⟨by simp [h.1], fun j u y hu hy => ?_⟩
  rcases Nat.lt_or_ge j vs.length with hj | hj
  · rw [List.getElem?_append_left hj] at hu
    rw [List.getElem?_append_left (by rw [← h.1]; exact hj)] at hy
    exact h.2 j u y hu hy
  · rw [List.getElem?_append_right hj] at hu
    rw [List.getElem?_append_right (by rw [← h.1]; exact hj), ← h.1] at hy
    have h0 : j - vs.length = 0 := by
      rcases Nat.eq_zero_or_pos (j - vs.length) with h0 | h0
      · exact h0
      · rw [List.getElem?_eq_none (by simp; omega)] at hu; cases hu
    rw [h0] at hu hy
    simp at hu hy
    subst hu hy
    exact hx
/-- What a slice of slices of crops holds. -/
def PLs (w : World) (A : Option Addr) (n c : Nat) (xs : List (List M.Cr)) : Prop := ∃ vs : List Hd, Sl hdc 1 w w.heap.size A n c vs ∧ PRows 0 w vs xs
theorem PLs.ev {w w' : World} {A : Option Addr} {n c : Nat} {xs : List (List M.Cr)} (h : PLs w A n c xs) (he : Ev w w') : PLs w' A n c xs := by
  obtain ⟨vs, h1, h2⟩ := h
  exact ⟨vs, h1.ev he, h2.imp fun _ _ _ h => h.ev he⟩

set_option maxHeartbeats 400000 in
theorem cweight_c (c : M.Cr) (w : World) : Calls Try.prog 100 #[.agg #[.int .i64 c.wt, .int .i64 c.st, .int .i64 c.wo]] w fun e w' => e = .returned (.int .i64 c.wt) ∧ Ev w w' := by
  go_enter Try.func100, Try.ntmps100
  go_wp2
  go_ret
  exact ⟨rfl, Ev.alloc (Ev.refl _) _⟩
set_option maxHeartbeats 400000 in
theorem cworth_c (c : M.Cr) (w : World) : Calls Try.prog 101 #[.agg #[.int .i64 c.wt, .int .i64 c.st, .int .i64 c.wo]] w fun e w' => e = .returned (.int .i64 c.wo) ∧ Ev w w' := by
  go_enter Try.func101, Try.ntmps101
  go_wp2
  go_ret
  exact ⟨rfl, Ev.alloc (Ev.refl _) _⟩

/-- What is bounded of the crop i. -/
def M.gauge (g : M.Cr → Int) (xs : List (List M.Cr)) (i : Nat) : M.Rg := M.span (xs.map fun l => g (l.getD i ⟨0, 0, 0⟩))

set_option maxRecDepth 100000 in
set_option maxHeartbeats 4000000 in
theorem gauge_c (gf : Nat) (gm : M.Cr → Int) (hcf : ∀ args w, (callFunc gf args).run Try.prog w = .ok (.enter gf args) w) (hG : ∀ (c : M.Cr) W, Calls Try.prog gf #[.agg #[.int .i64 c.wt, .int .i64 c.st, .int .i64 c.wo]] W fun e w' => e = .returned (.int .i64 (gm c)) ∧ Ev W w')
    (A : Option Addr) (n d : Nat) (xs : List (List M.Cr)) (i pn : Nat) (hi : i < pn) (hn0 : 0 < n) (hn : n ≤ 2000) (hp3 : pn ≤ 100) (hxs : ∀ l ∈ xs, l.length = pn) (w : World) (hs : PLs w A n d xs) :
    Calls Try.prog 102 #[.agg #[.func (.func gf) #[] #[]], .slice A n d, .int .i64 i] w fun e w' => e = .returned (.agg #[.int .i64 (M.gauge gm xs i).lo, .int .i64 (M.gauge gm xs i).hi]) ∧ Ev w w' := by
  obtain ⟨i0, hi0, hz0, hz1, hz2⟩ := info_parts info3
  have HG := hid hG
  have HS := hid hs
  have HXS := hid hxs
  have hxl : xs.length = n := by
    obtain ⟨vs, h1, h2⟩ := hs
    rw [← h2.1, h1.len]
  have HXL := hid hxl
  have HGA := hid (show M.gauge gm xs i = M.span (xs.map fun l => gm (l.getD i ⟨0, 0, 0⟩)) from rfl)
  clear hG hs hxs hxl
  go_enter Try.func102, Try.ntmps102
  go_wp2
  generalize hW0 : World.alloc (World.alloc w _) _ = W0
  have hE0 : Ev w W0 := by rw [← hW0]; exact Ev.alloc (Ev.alloc (Ev.refl _) _) _
  have hal := alloc2 w (.cells #[.func (.func gf) #[] #[]] 160) (.cells #[.int .i64 0, .int .i64 0] 57)
  rw [hW0] at hal
  have Q0 := hid hal.1
  have Q1 := hid hal.2.1
  have hz := hal.2.2
  have HZ := hid hz
  clear hal hW0 hz
  go_loopw [7, 12] (fun v ii wr => ∃ k : Nat, ∃ V : Option Addr, ∃ dd : Nat, v = .slice V k dd ∧ ii = .int .i64 k ∧ k ≤ n ∧ Ev W0 wr ∧ wr.ownsRow W0.heap.size 3 1 (.slice V k dd) k (((xs.take k).map fun l => gm (l.getD i ⟨0, 0, 0⟩)).flatMap ics)) (fun _ ii _ => n - (intOf ii).toNat)
  case atStart => exact ⟨0, none, 0, rfl, rfl, by omega, Ev.refl _, World.ownsRow_nil _ _ _ _⟩
  case round =>
    obtain ⟨k, V, dd, rfl, rfl, hk, hB, hown⟩ := hrel
    have HE := hid (hE0.trans hB)
    have hBs := hB.size
    have hE0s := hE0.size
    by_cases hlt : k < n
    · obtain ⟨vs, hvs, hrs⟩ := HS.out.ev HE.out
      obtain ⟨b, off, v, rfl, hb, hx, hd, hcc⟩ := hvs.at_ (Below.refl _ _) hlt
      have e0 := hcc 0 _ rfl
      simp only [Nat.add_zero, Nat.mul_one] at e0
      have hcap := hvs.cap
      have hxk : xs[k]? = some (xs[k]'(by rw [HXL.out]; exact hlt)) := List.getElem?_eq_getElem _
      generalize xs[k]'(by rw [HXL.out]; exact hlt) = x at hxk
      obtain ⟨r1, r2⟩ := hrs.2 k v x hx hxk
      have hrl := sl_own (enc := crc) (by decide) (crc_len _) (by omega) r1
      have hxp := HXS.out x (List.mem_of_getElem? hxk)
      have hvn : v.2.1 = pn := by rw [← hrl.len]; exact hxp
      obtain ⟨bx, ox, cx, hvx, hbx, hcx, _, hcy⟩ := hrl.at_ (Below.refl _ _) (show i < v.2.1 by omega)
      have c0 := hcy 0 _ rfl
      have c1 := hcy 1 _ rfl
      have c2 := hcy 2 _ rfl
      simp only [Nat.add_zero] at c0
      have hrcap := hrl.cap
      obtain ⟨v1, v2, v3⟩ := v
      simp only at hvx hvn e0 hrcap r1
      subst hvx hvn
      have hbt := own_block_type r1 (k := bx) rfl
      have HTK := hid (show ((xs.take (k + 1)).map fun l => gm (l.getD i ⟨0, 0, 0⟩)) = ((xs.take k).map fun l => gm (l.getD i ⟨0, 0, 0⟩)) ++ [gm cx] by
        rw [List.take_add_one, hxk, List.map_append]
        simp only [Option.toList, List.map_cons, List.map_nil]
        rw [List.getD_eq_getElem?_getD, hcx]; rfl)
      have HGC := hid (fun W => HG.out cx W)
      have hgq := hB.heap Q0.out
      have q0 := cell_in hgq 0
      simp only [List.getElem?_toArray, List.getElem?_cons_zero] at q0
      have lg := heap_lt hgq
      have HOW := hid hown
      have HBT := hid hbt
      have i0' : (0 : Int) ≤ i := by omega
      have ip : (i : Int) < (v2 : Int) := by omega
      generalize gm cx = gx at HTK HGC
      clear hx hd hcc hvs hrs r1 hrl hxk hxp hcx hcy hgq hown hbt
      go_upto_region 5 with fail
      have HSE : Hid (∀ w', Ev wr w' → (∀ o, w'.cell? ⟨w.heap.size, o, none⟩ = wr.cell? ⟨w.heap.size, o, none⟩) ∧ (∀ o, w'.cell? ⟨bx, o, none⟩ = wr.cell? ⟨bx, o, none⟩)) := hid (fun w' h => ⟨fun o => h.cells.1 _ o lg, fun o => h.cells.1 _ o hbx⟩)
      refine wp_region_held_drew (S := fun w' => (∀ o, w'.cell? ⟨w.heap.size, o, none⟩ = wr.cell? ⟨w.heap.size, o, none⟩) ∧ (∀ o, w'.cell? ⟨bx, o, none⟩ = wr.cell? ⟨bx, o, none⟩)) (by kernel_rfl) (⟨fun o => rfl, fun o => rfl⟩) (fun hHeld => ?_)
      refine tkH 0 (some 16) ?_
      (try simp only [Act.put, sA, sB, sC])
      refine tkH 1 (some 17) ?_
      (try simp only [Act.put, sA, sB, sC])
      refine tkH 2 (some 18) ?_
      (try simp only [Act.put, sA, sB, sC])
      refine tkH 3 (some 19) ?_
      (try simp only [Act.put, sA, sB, sC])
      refine tkH 4 (some 20) ?_
      (try simp only [Act.put, sA, sB, sC])
      refine tkH 5 (some 21) ?_
      (try simp only [Act.put, sA, sB, sC])
      refine tkH 6 (some 22) ?_
      (try simp only [Act.put, sA, sB, sC])
      refine wpAnyH_one (i := 7) rfl (by kernel_rfl) (by rfl) (fun K hK => ?_)
      go_simp
      refine (HGC.out _).mono ?_
      rintro e w4 ⟨rfl, hb4⟩
      have hE4 : Ev wr w4 := Ev.trans (Ev.drew (Ev.refl _)) hb4
      refine hK.out _ _ (HSE.out _ hE4) (fun hHeld => ?_)
      clear hK K
      (try simp only [Act.put, List.setIfInBounds_toArray, List.set_cons_zero, List.set_cons_succ])
      refine wpAnyH_one (i := 8) rfl (by kernel_rfl) (by rfl) (fun K hK => ?_)
      go_simp
      refine hK.out _ _ (HSE.out _ (Ev.alloc hE4 _)) (fun hHeld => ?_)
      clear hK K
      (try simp only [Act.put, List.setIfInBounds_toArray, List.set_cons_zero, List.set_cons_succ])
      refine wpAnyH_one (i := 9) rfl (by kernel_rfl) (by rfl) (fun K hK => ?_)
      refine wp_append_own _ (.tmp 16) (.tmp 24) 23 rfl W0.heap.size 3 i0 _ 1 8 Try.underlying23 hi0 hz0 hz1 hz2 rfl (by decide) _ k (((xs.take k).map fun l => gm (l.getD i ⟨0, 0, 0⟩)).flatMap ics) rfl ((HOW.out.ev hE4).alloc _) ⟨w4.heap.size, 0, none⟩ 1 1 [.int .i64 gx] rfl rfl (news_in (alloc1 w4 _).1) (by simp [Value.oneCell']) (by unfold maxLen; omega) (by omega) (by have := hE4.size; simp; omega) ?_
      intro v' w5 hown' hgrow _
      obtain ⟨V', d', rfl⟩ := own_form hown'
      have HO3 := hid hown'
      have hE4a : Ev wr (w4.alloc (.cells #[.int .i64 gx] 3)) := Ev.alloc hE4 _
      have hS5 : (∀ o, w5.cell? ⟨w.heap.size, o, none⟩ = wr.cell? ⟨w.heap.size, o, none⟩) ∧ (∀ o, w5.cell? ⟨bx, o, none⟩ = wr.cell? ⟨bx, o, none⟩) := ⟨fun o => World.cell?_of_block (w := wr) ((hgrow.block w.heap.size (Nat.lt_of_lt_of_le lg hE4a.size) (fun e => by have := (HOW.out.lt _ e.symm).1; have := HZ.out; omega)).trans (hE4a.block _ lg)), fun o => World.cell?_of_block (w := wr) ((hgrow.block bx (Nat.lt_of_lt_of_le hbx hE4a.size) (fun e => by
        obtain ⟨cs1, h1⟩ := own_block_type HOW.out e.symm
        obtain ⟨cs2, h2⟩ := HBT.out
        rw [h1] at h2
        cases h2)).trans (hE4a.block _ hbx))⟩
      have HE9 := hid (Ev.grown ((hB.trans hE4).alloc (.cells #[.int .i64 gx] 3)) hgrow (fun q e => (HOW.out.lt q e).1) : Ev W0 w5)
      clear hown' hgrow
      refine hK.out _ _ (hS5) (fun hHeld => ?_)
      clear hK K
      (try simp only [Act.put, List.setIfInBounds_toArray, List.set_cons_zero, List.set_cons_succ])
      refine tkH 10 (some 7) ?_
      (try simp only [Act.put, sA, sB, sC])
      refine wpAnyH_done (by kernel_rfl) ?_ _
      go_wp2
      exact ⟨⟨k + 1, V', d', rfl, by go_num, by omega, HE9.out, by rw [HTK.out, List.flatMap_append]; exact HO3.out⟩, by simp [intOf]; omega⟩
    · obtain rfl : k = n := by omega
      rw [List.take_of_length_le (by rw [HXL.out]; exact Nat.le_refl _)] at hown
      have hsl := sl_own (enc := ics) (by decide) (ics_len _) (by omega) hown
      obtain ⟨m, hm⟩ : ∃ m, k = m + 1 := ⟨k - 1, by omega⟩
      subst hm
      have hml := hsl.len
      generalize hxs : (xs.map fun l => gm (l.getD i ⟨0, 0, 0⟩)) = ys at hsl hml HGA
      clear hxs hown
      match ys, hml with
      | y :: ys', _ =>
        have HSP := hid (span_c V m dd y ys' wr hsl)
        have hq := hB.heap Q1.out
        have HQ := hid hq
        clear hsl hq
        go_wp2_with (go_at_call 65; ((with_reducible refine HSP.out.mono ?_); rintro e w1 ⟨rfl, hb1⟩; have hq1 := hb1.heap HQ.out; obtain ⟨q0, q1⟩ := cells2 hq1; obtain ⟨f0, f1⟩ := frz2 hq1; have HQ1 := hid hq1; clear hq1))
        have hF : ((w1.setCell ⟨w.heap.size + 1, 0, none⟩ (.int .i64 (M.least y ys'))).setCell ⟨w.heap.size + 1, 1, none⟩ (.int .i64 (M.most y ys'))).heap[w.heap.size + 1]? = some (.cells #[.int .i64 (M.least y ys'), .int .i64 (M.most y ys')] 57 (0, 0)) := by
          rw [set_heap_same (set_heap_same HQ1.out)]; rfl
        obtain ⟨d0, d1⟩ := cells2 hF
        refine bodyPost_ret (v := .agg #[.int .i64 (M.least y ys'), .int .i64 (M.most y ys')]) (by simp [results, Try.results102, go_sem, d0, d1]) rfl ⟨by rw [HGA.out]; rfl, ?_⟩
        exact Ev.setCell (Ev.setCell (HE.out.trans hb1) (by simp) _) (by simp) _

end Go.Proofs.Ytffbkbcjddigdaa
