import Derived.Test.YtffbkbcjddigdaaA31
set_option linter.unusedSimpArgs false
set_option linter.unusedVariables false
namespace Go.Proofs.Ytffbkbcjddigdaa
open Go.RowKit Go.Shelf

/-- The crops of a plan in some truths, in rows of their own. -/
def PRow (b0 : Nat) (W : World) (v : Hd) (xs : List M.Cr) : Prop := W.ownsRow b0 50 3 (.slice v.1 v.2.1 v.2.2) v.2.1 (xs.flatMap crc) ∧ v.2.1 ≤ 100
def PRows (b0 : Nat) (W : World) (vs : List Hd) (xs : List (List M.Cr)) : Prop := vs.length = xs.length ∧ ∀ (j : Nat) (v : Hd) (x : List M.Cr), vs[j]? = some v → xs[j]? = some x → PRow b0 W v x
theorem PRows.nil (b0 : Nat) (W : World) : PRows b0 W [] [] := ⟨rfl, fun j v x h => by simp at h⟩
theorem PRows.imp {b0 : Nat} {W W' : World} {vs : List Hd} {xs : List (List M.Cr)} (h : PRows b0 W vs xs) (hi : ∀ (u : Value) (n : Nat) (xs : List Value), W.ownsRow b0 50 3 u n xs → W'.ownsRow b0 50 3 u n xs) : PRows b0 W' vs xs :=
 ⟨h.1, fun j v t hv ht => ⟨hi _ _ _ (h.2 j v t hv ht).1, (h.2 j v t hv ht).2⟩⟩
theorem PRows.snoc {b0 : Nat} {W : World} {vs : List Hd} {xs : List (List M.Cr)} (h : PRows b0 W vs xs) {v : Hd} {x : List M.Cr} (hx : PRow b0 W v x) : PRows b0 W (vs ++ [v]) (xs ++ [x]) := by
 refine ⟨by simp [h.1], fun j u y hu hy => ?_⟩
 rcases Nat.lt_or_ge j vs.length with hj | hj
 ·
  rw [List.getElem?_append_left hj] at hu
  rw [List.getElem?_append_left (by rw [← h.1]; exact hj)] at hy
  exact h.2 j u y hu hy
 ·
  rw [List.getElem?_append_right hj] at hu
  rw [List.getElem?_append_right (by rw [← h.1]; exact hj), ← h.1] at hy
  have h0 : j - vs.length = 0 := by
   rcases Nat.eq_zero_or_pos (j - vs.length) with h0 | h0
   ·
    exact h0
   ·
    rw [List.getElem?_eq_none (by simp; omega)] at hu; cases hu
  rw [h0] at hu hy
  simp at hu hy
  subst hu hy
  exact hx
/-- What a slice of slices of crops holds. -/
def PLs (w : World) (A : Option Addr) (n c : Nat) (xs : List (List M.Cr)) : Prop := ∃ vs : List Hd, Sl hdc 1 w w.heap.size A n c vs ∧ PRows 0 w vs xs
theorem PLs.ev {w w' : World} {A : Option Addr} {n c : Nat} {xs : List (List M.Cr)} (h : PLs w A n c xs) (he : Ev w w') : PLs w' A n c xs := by
 obtain ⟨vs, h1, h2⟩ := h
 exact ⟨vs, h1.ev he, h2.imp fun _ _ _ h => h.ev he⟩

set_option maxHeartbeats 400000 in
theorem cweight_c (c : M.Cr) (w : World) : Calls Try.prog 100 #[.agg #[.int .i64 c.wt, .int .i64 c.st, .int .i64 c.wo]] w fun e w' => e = .returned (.int .i64 c.wt) ∧ Ev w w' := by
 go_enter Try.func100, Try.ntmps100
 go_wp2
 go_ret
 exact ⟨rfl, Ev.alloc (Ev.refl _) _⟩
set_option maxHeartbeats 400000 in
theorem cworth_c (c : M.Cr) (w : World) : Calls Try.prog 101 #[.agg #[.int .i64 c.wt, .int .i64 c.st, .int .i64 c.wo]] w fun e w' => e = .returned (.int .i64 c.wo) ∧ Ev w w' := by
 go_enter Try.func101, Try.ntmps101
 go_wp2
 go_ret
 exact ⟨rfl, Ev.alloc (Ev.refl _) _⟩

/-- What is bounded of the crop i. -/
def M.gauge (g : M.Cr → Int) (xs : List (List M.Cr)) (i : Nat) : M.Rg := M.span (xs.map fun l => g (l.getD i ⟨0, 0, 0⟩))

set_option maxRecDepth 100000 in
set_option maxHeartbeats 4000000 in
theorem gauge_c (gf : Nat) (gm : M.Cr → Int) (hcf : ∀ args w, (callFunc gf args).run Try.prog w = .ok (.enter gf args) w) (hG : ∀ (c : M.Cr) W, Calls Try.prog gf #[.agg #[.int .i64 c.wt, .int .i64 c.st, .int .i64 c.wo]] W fun e w' => e = .returned (.int .i64 (gm c)) ∧ Ev W w')
  (A : Option Addr) (n d : Nat) (xs : List (List M.Cr)) (i pn : Nat) (hi : i < pn) (hn0 : 0 < n) (hn : n ≤ 2000) (hp3 : pn ≤ 100) (hxs : ∀ l ∈ xs, l.length = pn) (w : World) (hs : PLs w A n d xs) :
  Calls Try.prog 102 #[.agg #[.func (.func gf) #[] #[]], .slice A n d, .int .i64 i] w fun e w' => e = .returned (.agg #[.int .i64 (M.gauge gm xs i).lo, .int .i64 (M.gauge gm xs i).hi]) ∧ Ev w w' := by
 obtain ⟨i0, hi0, hz0, hz1, hz2⟩ := info_parts info3
 have HG := hid hG
 have HS := hid hs
 have HXS := hid hxs
 have hxl : xs.length = n := by
  obtain ⟨vs, h1, h2⟩ := hs
  rw [← h2.1, h1.len]
 have HXL := hid hxl
 have HGA := hid (show M.gauge gm xs i = M.span (xs.map fun l => gm (l.getD i ⟨0, 0, 0⟩)) from rfl)
 clear hG hs hxs hxl
 go_enter Try.func102, Try.ntmps102
 go_wp2
 generalize hW0 : World.alloc (World.alloc w _) _ = W0
 have hE0 : Ev w W0 := by rw [← hW0]; exact Ev.alloc (Ev.alloc (Ev.refl _) _) _
 have hal := alloc2 w (.cells #[.func (.func gf) #[] #[]] 160) (.cells #[.int .i64 0, .int .i64 0] 57)
 rw [hW0] at hal
 have Q0 := hid hal.1
 have Q1 := hid hal.2.1
 have hz := hal.2.2
 have HZ := hid hz
 clear hal hW0 hz
 go_loopw [7, 12] (fun v ii wr => ∃ k : Nat, ∃ V : Option Addr, ∃ dd : Nat, v = .slice V k dd ∧ ii = .int .i64 k ∧ k ≤ n ∧ Ev W0 wr ∧ wr.ownsRow W0.heap.size 3 1 (.slice V k dd) k (((xs.take k).map fun l => gm (l.getD i ⟨0, 0, 0⟩)).flatMap ics)) (fun _ ii _ => n - (intOf ii).toNat)
 case atStart => exact ⟨0, none, 0, rfl, rfl, by omega, Ev.refl _, World.ownsRow_nil _ _ _ _⟩
 case round =>
  obtain ⟨k, V, dd, rfl, rfl, hk, hB, hown⟩ := hrel
  have HE := hid (hE0.trans hB)
  have hBs := hB.size
  have hE0s := hE0.size
  by_cases hlt : k < n
  ·
   obtain ⟨vs, hvs, hrs⟩ := HS.out.ev HE.out
   obtain ⟨b, off, v, rfl, hb, hx, hd, hcc⟩ := hvs.at_ (Below.refl _ _) hlt
   have e0 := hcc 0 _ rfl
   simp only [Nat.add_zero, Nat.mul_one] at e0
   have hcap := hvs.cap
   have hxk : xs[k]? = some (xs[k]'(by rw [HXL.out]; exact hlt)) := List.getElem?_eq_getElem _
   generalize xs[k]'(by rw [HXL.out]; exact hlt) = x at hxk
   obtain ⟨r1, r2⟩ := hrs.2 k v x hx hxk
   have hrl := sl_own (enc := crc) (by decide) (crc_len _) (by omega) r1
   have hxp := HXS.out x (List.mem_of_getElem? hxk)
   have hvn : v.2.1 = pn := by rw [← hrl.len]; exact hxp
   obtain ⟨bx, ox, cx, hvx, hbx, hcx, _, hcy⟩ := hrl.at_ (Below.refl _ _) (show i < v.2.1 by omega)
   have c0 := hcy 0 _ rfl
   have c1 := hcy 1 _ rfl
   have c2 := hcy 2 _ rfl
   simp only [Nat.add_zero] at c0
   have hrcap := hrl.cap
   obtain ⟨v1, v2, v3⟩ := v
   simp only at hvx hvn e0 hrcap r1
   subst hvx hvn
   have hbt := own_block_type r1 (k := bx) rfl
   have HTK := hid (show ((xs.take (k + 1)).map fun l => gm (l.getD i ⟨0, 0, 0⟩)) = ((xs.take k).map fun l => gm (l.getD i ⟨0, 0, 0⟩)) ++ [gm cx] by
    rw [List.take_add_one, hxk, List.map_append]
    simp only [Option.toList, List.map_cons, List.map_nil]
    rw [List.getD_eq_getElem?_getD, hcx]; rfl)
   have HGC := hid (fun W => HG.out cx W)
   have hgq := hB.heap Q0.out
   have q0 := cell_in hgq 0
   simp only [List.getElem?_toArray, List.getElem?_cons_zero] at q0
   have lg := heap_lt hgq
   have HOW := hid hown
   have HBT := hid hbt
   have i0' : (0 : Int) ≤ i := by omega
   have ip : (i : Int) < (v2 : Int) := by omega
   generalize gm cx = gx at HTK HGC
   clear hx hd hcc hvs hrs r1 hrl hxk hxp hcx hcy hgq hown hbt
   go_upto_region 5 with fail
   have HSE : Hid (∀ w', Ev wr w' → (∀ o, w'.cell? ⟨w.heap.size, o, none⟩ = wr.cell? ⟨w.heap.size, o, none⟩) ∧ (∀ o, w'.cell? ⟨bx, o, none⟩ = wr.cell? ⟨bx, o, none⟩)) := hid (fun w' h => ⟨fun o => h.cells.1 _ o lg, fun o => h.cells.1 _ o hbx⟩)
   refine wp_region_held_drew (S := fun w' => (∀ o, w'.cell? ⟨w.heap.size, o, none⟩ = wr.cell? ⟨w.heap.size, o, none⟩) ∧ (∀ o, w'.cell? ⟨bx, o, none⟩ = wr.cell? ⟨bx, o, none⟩)) (by kernel_rfl) (⟨fun o => rfl, fun o => rfl⟩) (fun hHeld => ?_)
   refine tkH 0 (some 16) ?_
   (try simp only [Act.put, sA, sB, sC])
   refine tkH 1 (some 17) ?_
   (try simp only [Act.put, sA, sB, sC])
   refine tkH 2 (some 18) ?_
   (try simp only [Act.put, sA, sB, sC])
   refine tkH 3 (some 19) ?_
   (try simp only [Act.put, sA, sB, sC])
   refine tkH 4 (some 20) ?_
   (try simp only [Act.put, sA, sB, sC])
   refine tkH 5 (some 21) ?_
   (try simp only [Act.put, sA, sB, sC])
   refine tkH 6 (some 22) ?_
   (try simp only [Act.put, sA, sB, sC])
   refine wpAnyH_one (i := 7) rfl (by kernel_rfl) (by rfl) (fun K hK => ?_)
   go_simp
   refine (HGC.out _).mono ?_
   rintro e w4 ⟨rfl, hb4⟩
   have hE4 : Ev wr w4 := Ev.trans (Ev.drew (Ev.refl _)) hb4
   refine hK.out _ _ (HSE.out _ hE4) (fun hHeld => ?_)
   clear hK K
   (try simp only [Act.put, List.setIfInBounds_toArray, List.set_cons_zero, List.set_cons_succ])
   refine wpAnyH_one (i := 8) rfl (by kernel_rfl) (by rfl) (fun K hK => ?_)
   go_simp
   refine hK.out _ _ (HSE.out _ (Ev.alloc hE4 _)) (fun hHeld => ?_)
   clear hK K
   (try simp only [Act.put, List.setIfInBounds_toArray, List.set_cons_zero, List.set_cons_succ])
   refine wpAnyH_one (i := 9) rfl (by kernel_rfl) (by rfl) (fun K hK => ?_)
   refine wp_append_own _ (.tmp 16) (.tmp 24) 23 rfl W0.heap.size 3 i0 _ 1 8 Try.underlying23 hi0 hz0 hz1 hz2 rfl (by decide) _ k (((xs.take k).map fun l => gm (l.getD i ⟨0, 0, 0⟩)).flatMap ics) rfl ((HOW.out.ev hE4).alloc _) ⟨w4.heap.size, 0, none⟩ 1 1 [.int .i64 gx] rfl rfl (news_in (alloc1 w4 _).1) (by simp [Value.oneCell']) (by unfold maxLen; omega) (by omega) (by have := hE4.size; simp; omega) ?_
   intro v' w5 hown' hgrow _
   obtain ⟨V', d', rfl⟩ := own_form hown'
   have HO3 := hid hown'
   have hE4a : Ev wr (w4.alloc (.cells #[.int .i64 gx] 3)) := Ev.alloc hE4 _
   have hS5 : (∀ o, w5.cell? ⟨w.heap.size, o, none⟩ = wr.cell? ⟨w.heap.size, o, none⟩) ∧ (∀ o, w5.cell? ⟨bx, o, none⟩ = wr.cell? ⟨bx, o, none⟩) := ⟨fun o => World.cell?_of_block (w := wr) ((hgrow.block w.heap.size (Nat.lt_of_lt_of_le lg hE4a.size) (fun e => by have := (HOW.out.lt _ e.symm).1; have := HZ.out; omega)).trans (hE4a.block _ lg)), fun o => World.cell?_of_block (w := wr) ((hgrow.block bx (Nat.lt_of_lt_of_le hbx hE4a.size) (fun e => by
    obtain ⟨cs1, h1⟩ := own_block_type HOW.out e.symm
    obtain ⟨cs2, h2⟩ := HBT.out
    rw [h1] at h2
    cases h2)).trans (hE4a.block _ hbx))⟩
   have HE9 := hid (Ev.grown ((hB.trans hE4).alloc (.cells #[.int .i64 gx] 3)) hgrow (fun q e => (HOW.out.lt q e).1) : Ev W0 w5)
   clear hown' hgrow
   refine hK.out _ _ (hS5) (fun hHeld => ?_)
   clear hK K
   (try simp only [Act.put, List.setIfInBounds_toArray, List.set_cons_zero, List.set_cons_succ])
   refine tkH 10 (some 7) ?_
   (try simp only [Act.put, sA, sB, sC])
   refine wpAnyH_done (by kernel_rfl) ?_ _
   go_wp2
   exact ⟨⟨k + 1, V', d', rfl, by go_num, by omega, HE9.out, by rw [HTK.out, List.flatMap_append]; exact HO3.out⟩, by simp [intOf]; omega⟩
  ·
   obtain rfl : k = n := by omega
   rw [List.take_of_length_le (by rw [HXL.out]; exact Nat.le_refl _)] at hown
   have hsl := sl_own (enc := ics) (by decide) (ics_len _) (by omega) hown
   obtain ⟨m, hm⟩ : ∃ m, k = m + 1 := ⟨k - 1, by omega⟩
   subst hm
   have hml := hsl.len
   generalize hxs : (xs.map fun l => gm (l.getD i ⟨0, 0, 0⟩)) = ys at hsl hml HGA
   clear hxs hown
   match ys, hml with
   | y :: ys', _ =>
    have HSP := hid (span_c V m dd y ys' wr hsl)
    have hq := hB.heap Q1.out
    have HQ := hid hq
    clear hsl hq
    go_wp2_with (go_at_call 65; ((with_reducible refine HSP.out.mono ?_); rintro e w1 ⟨rfl, hb1⟩; have hq1 := hb1.heap HQ.out; obtain ⟨q0, q1⟩ := cells2 hq1; obtain ⟨f0, f1⟩ := frz2 hq1; have HQ1 := hid hq1; clear hq1))
    have hF : ((w1.setCell ⟨w.heap.size + 1, 0, none⟩ (.int .i64 (M.least y ys'))).setCell ⟨w.heap.size + 1, 1, none⟩ (.int .i64 (M.most y ys'))).heap[w.heap.size + 1]? = some (.cells #[.int .i64 (M.least y ys'), .int .i64 (M.most y ys')] 57 (0, 0)) := by
     rw [set_heap_same (set_heap_same HQ1.out)]; rfl
    obtain ⟨d0, d1⟩ := cells2 hF
    refine bodyPost_ret (v := .agg #[.int .i64 (M.least y ys'), .int .i64 (M.most y ys')]) (by simp [results, Try.results102, go_sem, d0, d1]) rfl ⟨by rw [HGA.out]; rfl, ?_⟩
    exact Ev.setCell (Ev.setCell (HE.out.trans hb1) (by simp) _) (by simp) _

end Go.Proofs.Ytffbkbcjddigdaa

set_option linter.unusedSimpArgs false
set_option linter.unusedVariables false
namespace Go.Proofs.Ytffbkbcjddigdaa
open Go.RowKit Go.Shelf

/-- The bounds of a crop of a plan. -/
structure M.Bd where
 wt : M.Rg
 st : Int
 wo : M.Rg
def bdc (b : M.Bd) : List Value := [.int .i64 b.wt.lo, .int .i64 b.wt.hi, .int .i64 b.st, .int .i64 b.wo.lo, .int .i64 b.wo.hi]
theorem bdc_len (ys : List M.Bd) : ∀ y ∈ ys, (bdc y).length = 5 := fun _ _ => rfl
def M.bd0 : M.Bd := ⟨⟨0, 0⟩, 0, ⟨0, 0⟩⟩
theorem set_bd : ∀ (ys : List M.Bd) (k : Nat) (r : M.Bd), k < ys.length → (((((ys.flatMap bdc).set (k * 5) (.int .i64 r.wt.lo)).set (k * 5 + 1) (.int .i64 r.wt.hi)).set (k * 5 + 2) (.int .i64 r.st)).set (k * 5 + 3) (.int .i64 r.wo.lo)).set (k * 5 + 4) (.int .i64 r.wo.hi) = (ys.set k r).flatMap bdc
 | [], _, _, h => by simp at h
 | y :: t, 0, r, _ => by simp [bdc, List.flatMap_cons]
 | y :: t, k + 1, r, h => by
  rw [List.flatMap_cons, List.set_cons_succ, List.flatMap_cons, ← set_bd t k r (by simpa using h)]
  show (((((Value.int .i64 y.wt.lo :: Value.int .i64 y.wt.hi :: Value.int .i64 y.st :: Value.int .i64 y.wo.lo :: Value.int .i64 y.wo.hi :: t.flatMap bdc).set ((k + 1) * 5) _).set ((k + 1) * 5 + 1) _).set ((k + 1) * 5 + 2) _).set ((k + 1) * 5 + 3) _).set ((k + 1) * 5 + 4) _ = _
  rw [show (k + 1) * 5 = k * 5 + 1 + 1 + 1 + 1 + 1 from by omega]
  simp only [List.set_cons_succ]
  rfl
theorem bd_get (ys : List M.Bd) (k : Nat) (h : k < ys.length) : ∃ a b c d e, (ys.flatMap bdc)[k * 5]? = some (.int .i64 a) ∧ (ys.flatMap bdc)[k * 5 + 1]? = some (.int .i64 b) ∧ (ys.flatMap bdc)[k * 5 + 2]? = some (.int .i64 c) ∧ (ys.flatMap bdc)[k * 5 + 3]? = some (.int .i64 d) ∧ (ys.flatMap bdc)[k * 5 + 4]? = some (.int .i64 e) := by
 have hx : ys[k]? = some (ys[k]'h) := List.getElem?_eq_getElem _
 exact ⟨_, _, _, _, _, flat_get bdc 5 ys (fun _ _ => rfl) k _ hx 0 _ rfl, flat_get bdc 5 ys (fun _ _ => rfl) k _ hx 1 _ rfl, flat_get bdc 5 ys (fun _ _ => rfl) k _ hx 2 _ rfl, flat_get bdc 5 ys (fun _ _ => rfl) k _ hx 3 _ rfl, flat_get bdc 5 ys (fun _ _ => rfl) k _ hx 4 _ rfl⟩
theorem zeros_bd : ∀ D : Nat, madeCells (Value.agg #[.int .i64 0, .int .i64 0, .int .i64 0, .int .i64 0, .int .i64 0]).cells (D * 5) = ((List.replicate D M.bd0).flatMap bdc).toArray := by
 intro D
 have h : ∀ D : Nat, ((List.replicate D M.bd0).flatMap bdc) = List.replicate (D * 5) (Value.int .i64 0) := by
  intro D
  induction D with
  | zero => rfl
  | succ D ih =>
   rw [List.replicate_succ, List.flatMap_cons, ih, show (D + 1) * 5 = D * 5 + 1 + 1 + 1 + 1 + 1 from by omega]
   simp [bdc, M.bd0, List.replicate_succ]
 rw [h D]
 unfold madeCells
 apply Array.ext
 ·
  simp
 ·
  intro i h1 h2
  have h3 : i % 5 < 5 := Nat.mod_lt _ (by omega)
  have h4 : ∀ j : Nat, j < 5 → (Value.agg #[.int .i64 0, .int .i64 0, .int .i64 0, .int .i64 0, .int .i64 0]).cells.getD j default = .int .i64 0 := by
   intro j hj
   match j, hj with
   | 0, _ => rfl
   | 1, _ => rfl
   | 2, _ => rfl
   | 3, _ => rfl
   | 4, _ => rfl
  simp [Value.cells] at h4 ⊢
  first | exact h4 _ h3 | (have := h4 _ h3; simpa using this)
theorem infoBd : (Try.prog.info? 81).map (fun i => (i.zero, i.size, i.bytes)) = some (some (Value.agg #[.int .i64 0, .int .i64 0, .int .i64 0, .int .i64 0, .int .i64 0]), 5, 40) := by kernel_rfl
theorem makeBd (L : Nat) (hL : L ≤ 100) (wx : World) : (Instr.makeSlice 65 (.int .i64 L) (.int .i64 L)).run Try.prog wx = .ok (.slice (some ⟨wx.heap.size, 0, none⟩) L L) (wx.alloc (.cells ((List.replicate L M.bd0).flatMap bdc).toArray 81)) := by
 obtain ⟨i0, hi, hz0, hz1, hz2⟩ := info_parts infoBd
 have := run_makeSlice wx 65 81 i0 _ Try.underlying65 hi hz0 .i64 .i64 L L (by omega) (by omega) (by rw [hz1]; omega) (by rw [hz2]; omega) (by omega)
 rw [hz1, Int.toNat_natCast, zeros_bd L] at this
 exact this
theorem infoCs : (Try.prog.info? 31).map (fun i => (i.zero, i.size, i.bytes)) = some (some (.slice none 0 0), 1, 24) := by kernel_rfl

theorem PRow.base {b0 b1 : Nat} {W : World} {v : Hd} {x : List M.Cr} (h : PRow b0 W v x) (hb : b1 ≤ b0) : PRow b1 W v x := ⟨own_base h.1 hb, h.2⟩
theorem PRows.base {b0 b1 : Nat} {W : World} {vs : List Hd} {xs : List (List M.Cr)} (h : PRows b0 W vs xs) (hb : b1 ≤ b0) : PRows b1 W vs xs := ⟨h.1, fun j v t hv ht => (h.2 j v t hv ht).base hb⟩
theorem PRows.grown {b0 b1 : Nat} {w w' : World} {vs : List Hd} {xs : List (List M.Cr)} (h : PRows b0 w vs xs) {e sz n2 : Nat} {v2 : Value} {x2 : List Value} (h2 : w.ownsRow b1 e sz v2 n2 x2) (he : e ≠ 50) (hg : w.grownBy w' v2.ownBlock) : PRows b0 w' vs xs :=
 h.imp fun _ _ _ h => h.kept hg (own_ne (own_base h2 (Nat.zero_le _)) (own_base h (Nat.zero_le _)) he)
theorem PRows.mo {P : Program} {kt : TypeId} {g : Value → Option Value} {b0 mb : Nat} {w w' : World} {vs : List Hd} {xs : List (List M.Cr)} (h : PRows b0 w vs xs) (hm : MapIs P kt w mb g) (hb : Mo mb w w') : PRows b0 w' vs xs := h.imp fun _ _ _ ho => own_mo ho hm hb
theorem Mo.grown {mb : Nat} {a b c : World} {row : Option Nat} (h : Mo mb a b) (hg : b.grownBy c row) (hr : ∀ q, row = some q → a.heap.size ≤ q) : Mo mb a c :=
 ⟨hg.os.trans h.os, hg.tape.trans h.tape, hg.output.trans h.output, Nat.le_trans h.size hg.size, fun k hk hn => (hg.block k (Nat.lt_of_lt_of_le hk h.size) (fun e => by have := hr k e.symm; omega)).trans (h.block k hk hn)⟩
theorem own_neB {w : World} {base : Nat} {e t : TypeId} {size : Nat} {v : Value} {n : Nat} {xs : List Value} (h : w.ownsRow base e size v n xs) {b : Nat} {cs : Array Value} {z : Nat × Nat} (hb : w.heap[b]? = some (.cells cs t z)) (ht : t ≠ e) : some b ≠ v.ownBlock := fun q => by
 obtain ⟨c, hc⟩ := own_block_type h q.symm
 rw [hb] at hc
 cases hc
 exact ht rfl
theorem map_neB {P : Program} {kt : TypeId} {w : World} {mb : Nat} {g : Value → Option Value} (hm : MapIs P kt w mb g) {base : Nat} {e : TypeId} {size : Nat} {v : Value} {n : Nat} {xs : List Value} (h : w.ownsRow base e size v n xs) : some mb ≠ v.ownBlock := fun q => by
 obtain ⟨c, hc⟩ := own_block_type h q.symm
 exact map_ne hm hc rfl

/-- The bounds of a plan's crops over some truths. -/
def M.bounds (f : M.Cf) (ts : List M.Tr) (plan : List Int) : List M.Bd :=
 (List.range plan.length).map fun i => ⟨M.gauge M.Cr.wt (ts.map fun t => M.play f t plan) i, M.strength f plan i, M.gauge M.Cr.wo (ts.map fun t => M.play f t plan) i⟩

end Go.Proofs.Ytffbkbcjddigdaa

set_option linter.unusedSimpArgs false
set_option linter.unusedVariables false
namespace Go.Proofs.Ytffbkbcjddigdaa
open Go.RowKit Go.Shelf

set_option maxRecDepth 100000 in
set_option maxHeartbeats 4000000 in
theorem bounds_c (f : M.Cf) (Ag Aw Ab Ac Al : Option Addr) (ng cg nw cw nb cb nc cc nl cl : Nat) (At As : Option Addr) (nt ct ns cs p mb : Nat) (P : Option Addr) (pn pc : Nat) (plan : List Int) (ts : List M.Tr) (ss : List (List Int)) (h0 : M.check f = 0) (hne : 0 < nt) (hts : ∀ t ∈ ts, M.listed f t = true) (hpl : M.isPlan f plan = true) (w : World) (hw : Wc w f Ag Aw Ab Ac Al ng cg nw cw nb cb nc cc nl cl At As nt ct ns cs p mb ts ss) (hp : Sl ics 1 w w.heap.size P pn pc plan) :
  Calls Try.prog 72 #[.pointer (some ⟨p, 0, none⟩), .slice P pn pc] w fun e w' => (∃ B d, e = .returned (.slice B pn d) ∧ Sl bdc 5 w' w'.heap.size B pn d (M.bounds f ts plan)) ∧ Wc w' f Ag Aw Ab Ac Al ng cg nw cw nb cb nc cc nl cl At As nt ct ns cs p mb ts ss ∧ Mo mb w w' := by
 obtain ⟨i0, hi0, hz0, hz1, hz2⟩ := info_parts infoCs
 obtain ⟨k0, k1, k2, k3, k4, k5, k6, k7, k8, k9, k10, k11⟩ := cells12 hw.hd
 obtain ⟨g0, hgl0, hm0⟩ := hw.mp
 have hml := hm0.lt
 have hn1 := hw.n1
 have hpw := heap_lt hw.hd
 have hpn3 : pn ≤ 3 ∧ pn ≤ nb ∧ ∀ x ∈ plan, 0 ≤ x ∧ x ≤ 9 := by
  have hl9 := (M.check0 h0).1
  unfold M.isPlan M.hasWeek at hpl
  simp only [Bool.and_eq_true, decide_eq_true_eq, List.all_eq_true] at hpl
  have := hp.len
  have := hw.fd.b.len
  have := (M.check0 h0).2.1
  exact ⟨by omega, by omega, fun x hx => by have := hpl.2.2 x hx; omega⟩
 have htl : ts.length = nt := by
  obtain ⟨vs, h1, h2⟩ := hw.tr
  rw [← h2.1, h1.len]
 have HPW := hid (fun (Tg Tw : Option Addr) (tg tgc tw twc : Nat) (t : M.Tr) (ht : t ∈ ts) W (hW : Wc W f Ag Aw Ab Ac Al ng cg nw cw nb cb nc cc nl cl At As nt ct ns cs p mb ts ss) h1 h2 h3 => play_w f Ag Aw Ab Ac Al ng cg nw cw nb cb nc cc nl cl At As nt ct ns cs p mb Tg Tw tg tgc tw twc t P pn pc plan ts ss h0 (hts t ht) hpl W hW h1 h2 h3)
 have hvp := M.valid_parts (M.check0 h0).2.2.2.1
 have HSG := hid (fun (i : Nat) (hi : i < pn) W (h1 : Sl ics 1 W W.heap.size Ab nb cb f.base) (h2 : Sl ics 1 W W.heap.size P pn pc plan) => strength_c f Ag Aw Ab Ac Al ng cg nw cw nb cb nc cc nl cl P pn pc plan i hi (by omega) hpn3.2.2 hvp.2.2.2.2.2.2.1 hvp.2.2.2.2.2.2.2.2.1 hvp.2.2.2.2.2.2.2.2.2.1 W h1 h2)
 have hplen : ∀ l ∈ (ts.map fun t => M.play f t plan), l.length = pn := fun l hl => by
  obtain ⟨t, _, rfl⟩ := List.mem_map.1 hl
  rw [M.play_len, hp.len]
 have HPL := hid hplen
 have HTL := hid htl
 have hp3 := hpn3.1
 have HLN := hid (show plan.length = pn from hp.len)
 have hmk := fun wx => makeBd pn (by omega) wx
 have HM0 := hid hm0
 have HWC := hid hw
 have HG0 := hid hgl0
 clear hw hm0 h0 hpl hts hplen htl hgl0 hvp hpn3
 go_enter Try.func72, Try.ntmps72
 go_wp2_with fail
 go_loopw [5, 17] (fun v i wr => ∃ k : Nat, ∃ V : Option Addr, ∃ dd : Nat, ∃ vs : List Hd, v = .slice V k dd ∧ i = .int .i64 k ∧ k ≤ nt ∧ Mo mb w wr ∧ (∃ g', Loads f g' ∧ MapIs Try.prog 143 wr mb g') ∧ wr.ownsRow w.heap.size 31 1 (.slice V k dd) k (vs.flatMap hdc) ∧ PRows w.heap.size wr vs ((ts.take k).map fun t => M.play f t plan)) (fun _ i _ => nt - (intOf i).toNat)
 case atStart => exact ⟨0, none, 0, [], rfl, rfl, by omega, Mo.refl _ _, ⟨g0, HG0.out, HM0.out⟩, World.ownsRow_nil _ _ _ _, PRows.nil _ _⟩
 case round =>
  obtain ⟨k, V, dd, vs, rfl, rfl, hk, hB, hmp, hown, hrows⟩ := hrel
  obtain ⟨WO, hWO⟩ : ∃ x, x = wr := ⟨_, rfl⟩
  subst hWO
  have HW1 := hid (HWC.out.mo hB hmp)
  have hBs := hB.size
  by_cases hlt : k < nt
  ·
   obtain ⟨us, hus, hrs⟩ := HW1.out.tr
   obtain ⟨b, off, v, rfl, hb, hx, hd, hcc⟩ := hus.at_ (Below.refl _ _) hlt
   have e0 := hcc 0 _ rfl
   have e1 := hcc 1 _ rfl
   simp only [Nat.add_zero] at e0
   have hcap := hus.cap
   have htk : ts[k]? = some (ts[k]'(by rw [HTL.out]; exact hlt)) := List.getElem?_eq_getElem _
   generalize ts[k]'(by rw [HTL.out]; exact hlt) = t at htk
   have htm := List.mem_of_getElem? htk
   obtain ⟨r1, r2, r3, r4⟩ := hrs.2 k v t hx htk
   have hE2 : Ev WO (WO.alloc (.cells #[.slice v.1.1 v.1.2.1 v.1.2.2, .slice v.2.1 v.2.2.1 v.2.2.2] 40)) := Ev.alloc (Ev.refl _) _
   have HP2 := hid (HPW.out v.1.1 v.2.1 v.1.2.1 v.1.2.2 v.2.2.1 v.2.2.2 t htm _ (HW1.out.ev hE2) ((sl_own (enc := ics) (by decide) (ics_len _) (by omega) r1).ev hE2) ((sl_own (enc := ics) (by decide) (ics_len _) (by omega) r2).ev hE2) ((hp.mo HM0.out hB (Nat.le_refl _) hB.size).ev hE2))
   obtain ⟨g1, hg1, hmg⟩ := hmp
   have HMX := hid (hmg.keep hE2 hmg.lt)
   have HO1 := hid (hown.ev hE2)
   have HR1 := hid (hrows.imp fun _ _ _ h => h.ev hE2)
   have HTK := hid (show ((ts.take (k + 1)).map fun t => M.play f t plan) = ((ts.take k).map fun t => M.play f t plan) ++ [M.play f t plan] by rw [List.take_add_one, htk, List.map_append]; rfl)
   have hB2 := hid (hB.trans (Mo.ev hE2))
   have HOV := hid (fun q e => (hown.lt q e).1 : ∀ q, (Value.slice V k dd).ownBlock = some q → w.heap.size ≤ q)
   clear hx hd hcc hus hrs r1 r2 htk hmg hown hrows
   go_wp2_with (first | (go_at_call 56; with_reducible refine HP2.out.mono ?_; rintro e w3 ⟨⟨B, d, rfl, hcro⟩, hw3, hm3⟩; have hs3 := hm3.size; simp only [World.alloc, Array.size_push] at hs3) | (at_builtin; refine wpList_append_own_at _ rfl (.tmp 21) (.tmp 26) 156 rfl w.heap.size 31 i0 _ 1 24 Try.underlying156 hi0 hz0 hz1 hz2 rfl (by decide) _ k (vs.flatMap hdc) rfl ((own_mo HO1.out HMX.out hm3).alloc _) ⟨w3.heap.size, 0, none⟩ 1 1 [.slice B pn d] rfl rfl (news_in (alloc1 w3 _).1) (by simp [Value.oneCell']) (by unfold maxLen; omega) (by omega) (by simp; omega) ?_; intro v' w5 hown' hgrow _ _; obtain ⟨V', d', rfl⟩ := own_form hown'; have HO3 := hid hown'; have HGR := hid hgrow; have HCR := hid hcro; have HW3 := hid hw3; have HM3 := hid hm3; clear hown' hgrow hcro hw3 hm3))
   have hE4 : Ev w3 (w3.alloc (.cells #[.slice B pn d] 31)) := Ev.alloc (Ev.refl _) _
   have hoA := (own_mo HO1.out HMX.out HM3.out).ev hE4
   have hrA : PRows w.heap.size (w3.alloc (.cells #[.slice B pn d] 31)) (vs ++ [(B, pn, d)]) (((ts.take k).map fun t => M.play f t plan) ++ [M.play f t plan]) := PRows.snoc (v := (B, pn, d)) ((HR1.out.mo HMX.out HM3.out).imp fun _ _ _ h => h.ev hE4) ⟨own_base (HCR.out.ev hE4) (by simp; omega), by show pn ≤ 100; omega⟩
   obtain ⟨g', hg', hm'⟩ := HW3.out.mp
   have hmA := hm'.keep hE4 hm'.lt
   refine ⟨⟨k + 1, V', d', vs ++ [(B, pn, d)], rfl, by go_num, by omega, ((hB2.out.trans HM3.out).trans (Mo.ev hE4)).grown HGR.out HOV.out, ⟨g', hg', hmA.same (HGR.out.block mb hmA.lt (map_neB hmA hoA))⟩, by rw [List.flatMap_append]; exact HO3.out, by rw [HTK.out]; exact hrA.grown hoA (by decide) HGR.out⟩, by simp [intOf]; omega⟩
  ·
   obtain rfl : k = nt := by omega
   rw [List.take_of_length_le (by rw [HTL.out]; exact Nat.le_refl _)] at hrows
   have HPS := hid (⟨vs, sl_own (enc := hdc) (by decide) (hdc_len _) (by omega) hown, hrows.base (Nat.zero_le _)⟩ : PLs WO V k dd (ts.map fun t => M.play f t plan))
   have HB := hid hB
   have HMP := hid hmp
   clear hown hrows hmp hB
   go_wp2_with fail
   generalize hW1 : World.alloc (World.alloc WO _) _ = W1
   have hE1 : Ev WO W1 := by rw [← hW1]; exact Ev.alloc (Ev.alloc (Ev.refl _) _) _
   have hal := alloc2 WO (.cells #[.func (.func 100) #[] #[]] 160) (.cells #[.func (.func 101) #[] #[]] 160)
   rw [hW1] at hal
   have Q0 := hid hal.1
   have Q1 := hid hal.2.1
   have hz := hal.2.2
   have HZ := hid hz
   clear hW1
   have QX := hid ((by rw [show WO.heap.size + 1 + 1 = W1.heap.size from by omega]; exact (alloc1 W1 _).1) : (W1.alloc (.cells ((List.replicate pn M.bd0).flatMap bdc).toArray 81)).heap[WO.heap.size + 1 + 1]? = some (.cells ((List.replicate pn M.bd0).flatMap bdc).toArray 81 (0, 0)))
   have hEX : Ev W1 (W1.alloc (.cells ((List.replicate pn M.bd0).flatMap bdc).toArray 81)) := Ev.alloc (Ev.refl _) _
   clear hal hz k0 k1 k2 k3 k4 k5 k6 k7 k8 k9 k10 k11
   go_loopw [36] (fun i wr => ∃ j : Nat, ∃ ys : List M.Bd, i = .int .i64 j ∧ j ≤ pn ∧ Ev W1 wr ∧ Hid (wr.heap[WO.heap.size + 1 + 1]? = some (.cells (ys.flatMap bdc).toArray 81 (0, 0))) ∧ ys.length = pn ∧ Hid (ys.take j = (M.bounds f ts plan).take j)) (fun i _ => pn - (intOf i).toNat)
   case atStart => exact ⟨0, List.replicate pn M.bd0, rfl, by omega, hEX, QX, by simp, hid rfl⟩
   case round =>
    obtain ⟨j, ys, rfl, hj, hC, hX, hyl, hT⟩ := hrel
    have HEC := hid (hE1.trans hC)
    have HWR := hid (HW1.out.ev HEC.out)
    by_cases hltj : j < pn
    ·
     have HGW := hid (fun W (hE : Ev wr W) => gauge_c 100 M.Cr.wt (fun args w => Try.call100 args w) (fun c W => cweight_c c W) V k dd _ j pn hltj hne hn1 (by omega) HPL.out W (PLs.ev (PLs.ev HPS.out HEC.out) hE))
     have HGO := hid (fun W (hE : Ev wr W) => gauge_c 101 M.Cr.wo (fun args w => Try.call101 args w) (fun c W => cworth_c c W) V k dd _ j pn hltj hne hn1 (by omega) HPL.out W (PLs.ev (PLs.ev HPS.out HEC.out) hE))
     have HST := hid (fun W (hE : Ev wr W) => HSG.out j hltj W (HWR.out.ev hE).fd.b (((hp.mo HM0.out HB.out (Nat.le_refl _) HB.out.size).ev HEC.out).ev hE))
     have HBJ := hid (show (M.bounds f ts plan)[j]? = some ⟨M.gauge M.Cr.wt (ts.map fun t => M.play f t plan) j, M.strength f plan j, M.gauge M.Cr.wo (ts.map fun t => M.play f t plan) j⟩ by
      unfold M.bounds
      rw [List.getElem?_map, List.getElem?_range (by rw [HLN.out]; exact hltj)]; rfl)
     generalize M.gauge M.Cr.wt (ts.map fun t => M.play f t plan) j = gw at HGW HBJ
     generalize M.gauge M.Cr.wo (ts.map fun t => M.play f t plan) j = go at HGO HBJ
     generalize M.strength f plan j = sg at HST HBJ
     have q0 := cell_in (hC.heap Q0.out) 0
     have q1 := cell_in (hC.heap Q1.out) 0
     simp only [List.getElem?_toArray, List.getElem?_cons_zero] at q0 q1
     have l0 := heap_lt (hC.heap Q0.out)
     have l1 := heap_lt (hC.heap Q1.out)
     have lp := heap_lt HWR.out.hd
     have hXl := heap_lt hX.out
     have j0 : (0 : Int) ≤ j := by omega
     have jp : (j : Int) < pn := by omega
     have hzz := HZ.out
     obtain ⟨k0, k1, k2, k3, k4, k5, k6, k7, k8, k9, k10, k11⟩ := cells12 HWR.out.hd
     go_upto_region 12 with fail
     have HSE : Hid (∀ w', Ev wr w' → (∀ o, w'.cell? ⟨p, o, none⟩ = wr.cell? ⟨p, o, none⟩) ∧ (∀ o, w'.cell? ⟨WO.heap.size, o, none⟩ = wr.cell? ⟨WO.heap.size, o, none⟩) ∧ (∀ o, w'.cell? ⟨WO.heap.size + 1, o, none⟩ = wr.cell? ⟨WO.heap.size + 1, o, none⟩)) := hid (fun w' h => ⟨fun o => h.cells.1 _ o lp, fun o => h.cells.1 _ o l0, fun o => h.cells.1 _ o l1⟩)
     refine wp_region_K (c := 19) (S := fun w' => (∀ o, w'.cell? ⟨p, o, none⟩ = wr.cell? ⟨p, o, none⟩) ∧ (∀ o, w'.cell? ⟨WO.heap.size, o, none⟩ = wr.cell? ⟨WO.heap.size, o, none⟩) ∧ (∀ o, w'.cell? ⟨WO.heap.size + 1, o, none⟩ = wr.cell? ⟨WO.heap.size + 1, o, none⟩)) (by kernel_rfl) (⟨fun o => rfl, fun o => rfl, fun o => rfl⟩) (fun hHeld => ?_)
     refine wpAnyK_takeD (i := 0) (v := ?_) (some 39) rfl rfl rfl (by kernel_rfl) (by kernel_rfl) (by kernel_rfl) (by kernel_rfl) (fun _ _ _ h => h) (Or.inl ⟨by rfl, ?hy⟩) (by assumption) ?_
     case hy => (intro w hSw; (try dsimp only at hSw); go_simp; with_reducible rfl)
     (try simp only [Act.put, List.setIfInBounds_toArray, List.set_cons_zero, List.set_cons_succ])
     refine wpAnyK_takeD (i := 1) (v := ?_) (some 40) rfl rfl rfl (by kernel_rfl) (by kernel_rfl) (by kernel_rfl) (by kernel_rfl) (fun _ _ _ h => h) (Or.inl ⟨by rfl, ?hy⟩) (by assumption) ?_
     case hy => (intro w hSw; (try dsimp only at hSw); go_simp; with_reducible rfl)
     (try simp only [Act.put, List.setIfInBounds_toArray, List.set_cons_zero, List.set_cons_succ])
     refine wpAnyK_takeD (i := 2) (v := ?_) (some 41) rfl rfl rfl (by kernel_rfl) (by kernel_rfl) (by kernel_rfl) (by kernel_rfl) (fun _ _ _ h => h) (Or.inl ⟨by rfl, ?hy⟩) (by assumption) ?_
     case hy => (intro w hSw; (try dsimp only at hSw); go_simp; with_reducible rfl)
     (try simp only [Act.put, List.setIfInBounds_toArray, List.set_cons_zero, List.set_cons_succ])
     refine wpAnyK_takeD (i := 3) (v := ?_) (some 42) rfl rfl rfl (by kernel_rfl) (by kernel_rfl) (by kernel_rfl) (by kernel_rfl) (fun _ _ _ h => h) (Or.inl ⟨by rfl, ?hy⟩) (by assumption) ?_
     case hy => (intro w hSw; (try dsimp only at hSw); go_simp; with_reducible rfl)
     (try simp only [Act.put, List.setIfInBounds_toArray, List.set_cons_zero, List.set_cons_succ])
     refine wpAnyK_takeD (i := 4) (v := ?_) (some 43) rfl rfl rfl (by kernel_rfl) (by kernel_rfl) (by kernel_rfl) (by kernel_rfl) (fun _ _ _ h => h) (Or.inl ⟨by rfl, ?hy⟩) (by assumption) ?_
     case hy => (intro w hSw; (try dsimp only at hSw); go_simp; with_reducible rfl)
     (try simp only [Act.put, List.setIfInBounds_toArray, List.set_cons_zero, List.set_cons_succ])
     refine wpAnyK_takeD (i := 6) (v := ?_) (some 45) rfl rfl rfl (by kernel_rfl) (by kernel_rfl) (by kernel_rfl) (by kernel_rfl) (fun _ _ _ h => h) (Or.inl ⟨by rfl, ?hy⟩) (by assumption) ?_
     case hy => (intro w hSw; (try dsimp only at hSw); go_simp; with_reducible rfl)
     (try simp only [Act.put, List.setIfInBounds_toArray, List.set_cons_zero, List.set_cons_succ])
     refine wpAnyK_takeD (i := 7) (v := ?_) (some 46) rfl rfl rfl (by kernel_rfl) (by kernel_rfl) (by kernel_rfl) (by kernel_rfl) (fun _ _ _ h => h) (Or.inl ⟨by rfl, ?hy⟩) (by assumption) ?_
     case hy => (intro w hSw; (try dsimp only at hSw); go_simp; with_reducible rfl)
     (try simp only [Act.put, List.setIfInBounds_toArray, List.set_cons_zero, List.set_cons_succ])
     refine wpAnyK_takeD (i := 8) (v := ?_) (some 47) rfl rfl rfl (by kernel_rfl) (by kernel_rfl) (by kernel_rfl) (by kernel_rfl) (fun _ _ _ h => h) (Or.inl ⟨by rfl, ?hy⟩) (by assumption) ?_
     case hy => (intro w hSw; (try dsimp only at hSw); go_simp; with_reducible rfl)
     (try simp only [Act.put, List.setIfInBounds_toArray, List.set_cons_zero, List.set_cons_succ])
     refine wpAnyK_takeD (i := 9) (v := ?_) (some 48) rfl rfl rfl (by kernel_rfl) (by kernel_rfl) (by kernel_rfl) (by kernel_rfl) (fun _ _ _ h => h) (Or.inl ⟨by rfl, ?hy⟩) (by assumption) ?_
     case hy => (intro w hSw; (try dsimp only at hSw); go_simp; with_reducible rfl)
     (try simp only [Act.put, List.setIfInBounds_toArray, List.set_cons_zero, List.set_cons_succ])
     refine wpAnyK_takeD (i := 10) (v := ?_) (some 49) rfl rfl rfl (by kernel_rfl) (by kernel_rfl) (by kernel_rfl) (by kernel_rfl) (fun _ _ _ h => h) (Or.inl ⟨by rfl, ?hy⟩) (by assumption) ?_
     case hy => (intro w hSw; (try dsimp only at hSw); go_simp; with_reducible rfl)
     (try simp only [Act.put, List.setIfInBounds_toArray, List.set_cons_zero, List.set_cons_succ])
     refine wpAnyK_takeD (i := 11) (v := ?_) (some 50) rfl rfl rfl (by kernel_rfl) (by kernel_rfl) (by kernel_rfl) (by kernel_rfl) (fun _ _ _ h => h) (Or.inl ⟨by rfl, ?hy⟩) (by assumption) ?_
     case hy => (intro w hSw; (try dsimp only at hSw); go_simp; with_reducible rfl)
     (try simp only [Act.put, List.setIfInBounds_toArray, List.set_cons_zero, List.set_cons_succ])
     refine wpAnyK_takeD (i := 13) (v := ?_) (some 52) rfl rfl rfl (by kernel_rfl) (by kernel_rfl) (by kernel_rfl) (by kernel_rfl) (fun _ _ _ h => h) (Or.inl ⟨by rfl, ?hy⟩) (by assumption) ?_
     case hy => (intro w hSw; (try dsimp only at hSw); go_simp; with_reducible rfl)
     (try simp only [Act.put, List.setIfInBounds_toArray, List.set_cons_zero, List.set_cons_succ])
     refine wpAnyK_takeD (i := 14) (v := ?_) (some 53) rfl rfl rfl (by kernel_rfl) (by kernel_rfl) (by kernel_rfl) (by kernel_rfl) (fun _ _ _ h => h) (Or.inl ⟨by rfl, ?hy⟩) (by assumption) ?_
     case hy => (intro w hSw; (try dsimp only at hSw); go_simp; with_reducible rfl)
     (try simp only [Act.put, List.setIfInBounds_toArray, List.set_cons_zero, List.set_cons_succ])
     refine wpAnyK_takeD (i := 15) (v := ?_) (some 54) rfl rfl rfl (by kernel_rfl) (by kernel_rfl) (by kernel_rfl) (by kernel_rfl) (fun _ _ _ h => h) (Or.inl ⟨by rfl, ?hy⟩) (by assumption) ?_
     case hy => (intro w hSw; (try dsimp only at hSw); go_simp; with_reducible rfl)
     (try simp only [Act.put, List.setIfInBounds_toArray, List.set_cons_zero, List.set_cons_succ])
     refine wpAnyK_one (i := 5) rfl (by kernel_rfl) (by rfl) (by decide) (fun K hK => ?_)
     go_simp
     refine (HGW.out _ (Ev.drew (Ev.refl _))).mono ?_
     rintro e w4 ⟨rfl, hb4⟩
     have hE4 : Ev wr w4 := Ev.trans (Ev.drew (Ev.refl _)) hb4
     refine hK.out _ _ (HSE.out _ hE4) (fun hHeld => ?_)
     clear hK K
     (try simp only [Act.put, List.setIfInBounds_toArray, List.set_cons_zero, List.set_cons_succ])
     refine wpAnyK_one (i := 12) rfl (by kernel_rfl) (by rfl) (by decide) (fun K hK => ?_)
     go_simp
     refine (HST.out _ hE4).mono ?_
     rintro e w5 ⟨rfl, hb5⟩
     have hE5 : Ev wr w5 := hE4.trans hb5
     refine hK.out _ _ (HSE.out _ hE5) (fun hHeld => ?_)
     clear hK K
     (try simp only [Act.put, List.setIfInBounds_toArray, List.set_cons_zero, List.set_cons_succ])
     refine wpAnyK_one (i := 16) rfl (by kernel_rfl) (by rfl) (by decide) (fun K hK => ?_)
     go_simp
     refine (HGO.out _ hE5).mono ?_
     rintro e w6 ⟨rfl, hb6⟩
     have hE6 : Ev wr w6 := hE5.trans hb6
     refine hK.out _ _ (HSE.out _ hE6) (fun hHeld => ?_)
     clear hK K
     (try simp only [Act.put, List.setIfInBounds_toArray, List.set_cons_zero, List.set_cons_succ])
     refine wpAnyK_takeD (i := 17) (v := ?_) (some 56) rfl rfl rfl (by kernel_rfl) (by kernel_rfl) (by kernel_rfl) (by kernel_rfl) (fun _ _ _ h => h) (Or.inl ⟨by rfl, ?hy⟩) (by assumption) ?_
     case hy => (intro w hSw; (try dsimp only at hSw); go_simp; with_reducible rfl)
     (try simp only [Act.put, List.setIfInBounds_toArray, List.set_cons_zero, List.set_cons_succ])
     refine wpAnyK_takeD (i := 18) (v := ?_) (some 57) rfl rfl rfl (by kernel_rfl) (by kernel_rfl) (by kernel_rfl) (by kernel_rfl) (fun _ _ _ h => h) (Or.inl ⟨by rfl, ?hy⟩) (by assumption) ?_
     case hy => (intro w hSw; (try dsimp only at hSw); go_simp; with_reducible rfl)
     (try simp only [Act.put, List.setIfInBounds_toArray, List.set_cons_zero, List.set_cons_succ])
     have HX6 := hid (hE6.heap hX.out)
     obtain ⟨u0, u1, u2, u3, u4, hu0, hu1, hu2, hu3, hu4⟩ := bd_get ys j (by omega)
     have x0 : w6.cell? ⟨WO.heap.size + 1 + 1, j * 5, none⟩ = some (.int .i64 u0) := (cell_in HX6.out _).trans (by rw [List.getElem?_toArray]; exact hu0)
     have f0 := frozen_in HX6.out (j * 5)
     have x1 : w6.cell? ⟨WO.heap.size + 1 + 1, j * 5 + 1, none⟩ = some (.int .i64 u1) := (cell_in HX6.out _).trans (by rw [List.getElem?_toArray]; exact hu1)
     have f1 := frozen_in HX6.out (j * 5 + 1)
     have x2 : w6.cell? ⟨WO.heap.size + 1 + 1, j * 5 + 2, none⟩ = some (.int .i64 u2) := (cell_in HX6.out _).trans (by rw [List.getElem?_toArray]; exact hu2)
     have f2 := frozen_in HX6.out (j * 5 + 2)
     have x3 : w6.cell? ⟨WO.heap.size + 1 + 1, j * 5 + 3, none⟩ = some (.int .i64 u3) := (cell_in HX6.out _).trans (by rw [List.getElem?_toArray]; exact hu3)
     have f3 := frozen_in HX6.out (j * 5 + 3)
     have x4 : w6.cell? ⟨WO.heap.size + 1 + 1, j * 5 + 4, none⟩ = some (.int .i64 u4) := (cell_in HX6.out _).trans (by rw [List.getElem?_toArray]; exact hu4)
     have f4 := frozen_in HX6.out (j * 5 + 4)
     clear hu0 hu1 hu2 hu3 hu4
     refine wpAnyK_last rfl (by kernel_rfl) (by rfl) (fun K hK => ?_)
     go_simp
     refine hK.out _ _ ?_
     clear hK K
     (try simp only [Act.put, List.setIfInBounds_toArray, List.set_cons_zero, List.set_cons_succ])
     refine wpAnyK_done (by kernel_rfl) ?_ _
     go_wp2
     have hE9 : Ev W1 w6 := hC.trans hE6
     refine ⟨⟨j + 1, ys.set j ⟨gw, sg, go⟩, by go_num, by omega, ((((hE9.setCell (by simp; omega) _).setCell (by simp; omega) _).setCell (by simp; omega) _).setCell (by simp; omega) _).setCell (by simp; omega) _, hid ?_, by rw [List.length_set]; exact hyl, hid ?_⟩, by simp [intOf]; omega⟩
     ·
      rw [set_heap_same (set_heap_same (set_heap_same (set_heap_same (set_heap_same HX6.out)))), ← set_bd ys j _ (by omega)]
      simp only [List.setIfInBounds_toArray]
     ·
      rw [take_set_succ' (by omega), hT.out, List.take_add_one, HBJ.out]; rfl
    ·
     obtain rfl : j = pn := by omega
     have hys : ys = M.bounds f ts plan := by
      have h := hT.out
      rw [List.take_of_length_le (by omega), List.take_of_length_le (by unfold M.bounds; rw [List.length_map, List.length_range, HLN.out]; exact Nat.le_refl _)] at h
      exact h
     have HYS := hid hys
     have HYL := hid hyl
     clear hys hyl
     go_wp2
     go_ret
     exact ⟨⟨_, _, rfl, by rw [← HYS.out]; exact sl_block (t := 81) (by decide) (bdc_len _) (by omega) HYL.out hX.out⟩, HWR.out, HB.out.trans (Mo.ev HEC.out)⟩

end Go.Proofs.Ytffbkbcjddigdaa
