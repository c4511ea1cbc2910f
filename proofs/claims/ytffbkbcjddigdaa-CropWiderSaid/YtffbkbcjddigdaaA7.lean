import Derived.Test.YtffbkbcjddigdaaA2
set_option linter.unusedSimpArgs false
set_option linter.unusedVariables false
namespace Go.Proofs.Ytffbkbcjddigdaa
open Go.RowKit

theorem M.idx_in (v : Int) : ∀ (xs : List Int) (k : Int), 0 ≤ k → (0 ≤ M.idx v xs k ↔ v ∈ xs)
 | [], k, hk => by simp [M.idx]
 | y :: r, k, hk => by
  unfold M.idx
  by_cases h : v = y
  ·
   rw [if_pos h]; simp [h, hk]
  ·
   rw [if_neg h, M.idx_in v r (k + 1) (by omega)]; simp [h]

set_option maxRecDepth 100000 in
set_option maxHeartbeats 1000000 in
theorem contains_c (A : Option Addr) (n c : Nat) (xs : List Int) (v : Int) (w : World) (hs : Sl ics 1 w w.heap.size A n c xs) :
  Calls Try.prog 88 #[.slice A n c, .int .i64 v] w fun e w' => e = .returned (.bool (decide (v ∈ xs))) ∧ Ev w w' := by
 have h1 := fun W (hE : Ev w W) => idx_c A n c xs v W (hs.ev hE)
 have hi := M.idx_in v xs 0 (Int.le_refl _)
 generalize M.idx v xs 0 = x at h1 hi
 have H1 := hid h1
 clear h1 hs
 by_cases h : 0 ≤ x
 ·
  have h' : x ≥ 0 := h
  have HD := hid (decide_eq_true (hi.1 h))
  clear hi
  go_enter Try.func88, Try.ntmps88
  go_wp2_with (go_at_call 80; with_reducible refine (H1.out _ (Ev.refl _)).mono ?_; rintro e w1 ⟨rfl, hb1⟩)
  go_ret
  exact ⟨ret_bool HD.out.symm, hb1⟩
 ·
  have h' : ¬ (x ≥ 0) := h
  have h'' : x < 0 := by omega
  have HD := hid (decide_eq_false (fun q => h (hi.2 q)))
  clear hi
  go_enter Try.func88, Try.ntmps88
  go_wp2_with (go_at_call 80; with_reducible refine (H1.out _ (Ev.refl _)).mono ?_; rintro e w1 ⟨rfl, hb1⟩)
  go_ret
  exact ⟨ret_bool (by rw [HD.out]; first | rfl | (simp; omega)), hb1⟩

/-- The weights on the field of some weeks, of which the first has the number k. -/
def M.wK (plan : List Int) : List Int → Nat → Int → List Int
 | [], _, _ => []
 | g :: gs, k, m => (m + g) :: M.wK plan gs (k + 1) (if (k : Int) ∈ plan then 0 else m + g)
def M.weights (gs plan : List Int) : List Int := M.wK plan gs 0 0 ++ List.replicate (10 - gs.length) 0
theorem M.wK_len (plan : List Int) : ∀ (gs : List Int) (k : Nat) (m : Int), (M.wK plan gs k m).length = gs.length
 | [], _, _ => rfl
 | g :: gs, k, m => by rw [M.wK, List.length_cons, List.length_cons, M.wK_len plan gs]

theorem list10 {l : List Int} (h : l.length = 10) : ∃ a0 a1 a2 a3 a4 a5 a6 a7 a8 a9, l = [a0, a1, a2, a3, a4, a5, a6, a7, a8, a9] := by
 match l, h with
 | [a0, a1, a2, a3, a4, a5, a6, a7, a8, a9], _ => exact ⟨a0, a1, a2, a3, a4, a5, a6, a7, a8, a9, rfl⟩
theorem cells10 {W : World} {b : Nat} {t : TypeId} {v0 v1 v2 v3 v4 v5 v6 v7 v8 v9 : Value} (h : W.heap[b]? = some (.cells #[v0, v1, v2, v3, v4, v5, v6, v7, v8, v9] t (0, 0))) :
  W.cell? ⟨b, 0, none⟩ = some v0 ∧ W.cell? ⟨b, 1, none⟩ = some v1 ∧ W.cell? ⟨b, 2, none⟩ = some v2 ∧ W.cell? ⟨b, 3, none⟩ = some v3 ∧ W.cell? ⟨b, 4, none⟩ = some v4 ∧ W.cell? ⟨b, 5, none⟩ = some v5 ∧ W.cell? ⟨b, 6, none⟩ = some v6 ∧ W.cell? ⟨b, 7, none⟩ = some v7 ∧ W.cell? ⟨b, 8, none⟩ = some v8 ∧ W.cell? ⟨b, 9, none⟩ = some v9 :=
 ⟨cell_in h 0, cell_in h 1, cell_in h 2, cell_in h 3, cell_in h 4, cell_in h 5, cell_in h 6, cell_in h 7, cell_in h 8, cell_in h 9⟩
theorem frz10 {W : World} {b : Nat} {cs : Array Value} {t : TypeId} (h : W.heap[b]? = some (.cells cs t (0, 0))) : W.frozen? ⟨b, 0, none⟩ = false ∧ W.frozen? ⟨b, 1, none⟩ = false ∧ W.frozen? ⟨b, 2, none⟩ = false ∧ W.frozen? ⟨b, 3, none⟩ = false ∧ W.frozen? ⟨b, 4, none⟩ = false ∧ W.frozen? ⟨b, 5, none⟩ = false ∧ W.frozen? ⟨b, 6, none⟩ = false ∧ W.frozen? ⟨b, 7, none⟩ = false ∧ W.frozen? ⟨b, 8, none⟩ = false ∧ W.frozen? ⟨b, 9, none⟩ = false :=
 ⟨frozen_in h 0, frozen_in h 1, frozen_in h 2, frozen_in h 3, frozen_in h 4, frozen_in h 5, frozen_in h 6, frozen_in h 7, frozen_in h 8, frozen_in h 9⟩
theorem set10 {W : World} {b : Nat} {t : TypeId} {z0 z1 z2 z3 z4 z5 z6 z7 z8 z9 v0 v1 v2 v3 v4 v5 v6 v7 v8 v9 : Value} (h : W.heap[b]? = some (.cells #[z0, z1, z2, z3, z4, z5, z6, z7, z8, z9] t (0, 0))) :
  ((((((((((W.setCell ⟨b, 0, none⟩ v0).setCell ⟨b, 1, none⟩ v1).setCell ⟨b, 2, none⟩ v2).setCell ⟨b, 3, none⟩ v3).setCell ⟨b, 4, none⟩ v4).setCell ⟨b, 5, none⟩ v5).setCell ⟨b, 6, none⟩ v6).setCell ⟨b, 7, none⟩ v7).setCell ⟨b, 8, none⟩ v8).setCell ⟨b, 9, none⟩ v9).heap[b]? = some (.cells #[v0, v1, v2, v3, v4, v5, v6, v7, v8, v9] t (0, 0)) := by
 have h0 := h
 have h1 := set_heap_same (j := 0) (v := v0) h0
 have h2 := set_heap_same (j := 1) (v := v1) h1
 have h3 := set_heap_same (j := 2) (v := v2) h2
 have h4 := set_heap_same (j := 3) (v := v3) h3
 have h5 := set_heap_same (j := 4) (v := v4) h4
 have h6 := set_heap_same (j := 5) (v := v5) h5
 have h7 := set_heap_same (j := 6) (v := v6) h6
 have h8 := set_heap_same (j := 7) (v := v7) h7
 have h9 := set_heap_same (j := 8) (v := v8) h8
 have h10 := set_heap_same (j := 9) (v := v9) h9
 rw [h10]
 simp

theorem take_set_succ {l : List Int} {k : Nat} {x : Int} (h : k < l.length) : (l.set k x).take (k + 1) = l.take k ++ [x] := by
 rw [List.take_add_one, List.take_set_of_le (Nat.le_refl _), List.getElem?_set_self h]; rfl
theorem cells_set {l : List Int} {k : Nat} {x : Int} : (l.map (Value.int .i64)).toArray.setIfInBounds k (.int .i64 x) = ((l.set k x).map (Value.int .i64)).toArray := by
 simp [List.map_set]

set_option maxRecDepth 100000 in
set_option maxHeartbeats 4000000 in
theorem weights_c (f : M.Cf) (Ag Aw Ab Ac Al : Option Addr) (ng cg nw cw nb cb nc cc nl cl : Nat) (Tg Tw : Option Addr) (tg tgc tw twc : Nat) (gs : List Int) (P : Option Addr) (pn pc : Nat) (plan : List Int) (hl : f.last ≤ 9) (hgl : (tg : Int) = f.last + 1) (hgb : ∀ g ∈ gs, 0 ≤ g ∧ g ≤ 50) (w : World) (hg : Sl ics 1 w w.heap.size Tg tg tgc gs) (hp : Sl ics 1 w w.heap.size P pn pc plan) :
  Calls Try.prog 58 #[.agg #[.int .i64 f.last, .slice Ag ng cg, .slice Aw nw cw, .slice Ab nb cb, .slice Ac nc cc, .int .i64 f.ripe, .int .i64 f.late, .int .i64 f.trod, .slice Al nl cl], .agg #[.slice Tg tg tgc, .slice Tw tw twc], .slice P pn pc] w fun e w' => e = .returned (sv (M.weights gs plan)) ∧ Ev w w' := by
 have HC := hid (fun (v : Int) W (hE : Ev w W) => contains_c P pn pc plan v W (hp.ev hE))
 have HGB := hid hgb
 have htg : tg ≤ 10 := by omega
 have s0 : IntKind.i64.wrap (f.last + 1) = (tg : Int) := by rw [← hgl]; exact IntWalk.i64_in _ (by omega)
 have HGL := hid hgl
 have hgn := hg.len
 clear hp hgb hgl
 go_enter Try.func58, Try.ntmps58
 go_upto_region 3 with fail
 generalize hW0 : World.alloc _ _ = W0
 have hal := alloc3 w (.cells #[.int .i64 f.last, .slice Ag ng cg, .slice Aw nw cw, .slice Ab nb cb, .slice Ac nc cc, .int .i64 f.ripe, .int .i64 f.late, .int .i64 f.trod, .slice Al nl cl] 38) (.cells #[.slice Tg tg tgc, .slice Tw tw twc] 40) (.cells #[.int .i64 0, .int .i64 0, .int .i64 0, .int .i64 0, .int .i64 0, .int .i64 0, .int .i64 0, .int .i64 0, .int .i64 0, .int .i64 0] 111)
 have hE0 : Ev w W0 := by rw [← hW0]; exact Ev.alloc (Ev.alloc (Ev.alloc (Ev.refl _) _) _) _
 rw [hW0] at hal
 have HT := hid hal.2.1
 have HS := hid hal.2.2.1
 clear hal hW0
 go_loopw [7, 12] (fun m i wr => ∃ k : Nat, ∃ x : Int, ∃ l : List Int, m = .int .i64 x ∧ i = .int .i64 k ∧ k ≤ tg ∧ 0 ≤ x ∧ x ≤ 50 * k ∧ l.length = 10 ∧ Ev w wr ∧ Hid (wr.heap[w.heap.size + 1]? = some (.cells #[.slice Tg tg tgc, .slice Tw tw twc] 40 (0, 0))) ∧ Hid (wr.heap[w.heap.size + 1 + 1]? = some (.cells (l.map (Value.int .i64)).toArray 111 (0, 0))) ∧ Hid (l.take k ++ M.wK plan (gs.drop k) k x = M.wK plan gs 0 0) ∧ Hid (l.drop k = List.replicate (10 - k) 0)) (fun _ i _ => tg - (intOf i).toNat)
 case atStart => exact ⟨0, 0, List.replicate 10 0, rfl, rfl, by omega, by omega, by omega, by simp, hE0, HT, hid HS.out, hid rfl, hid rfl⟩
 case round =>
  obtain ⟨k, x, l, rfl, rfl, hk, hx0, hx1, hll, hB, hTr, hA, hM, hR⟩ := hrel
  have hlA := heap_lt hA.out
  have hlT := heap_lt hTr.out
  by_cases hlt : k < tg
  ·
   obtain ⟨b, off, g, rfl, hb, hx, hd, e0⟩ := hg.int hB hlt
   have hcap := hg.cap
   have hgb2 := HGB.out g (List.mem_of_getElem? hx)
   have hM2 := hM.out
   rw [hd, M.wK] at hM2
   have HM2 := hid hM2
   clear hd hx hM2 hM
   obtain ⟨t0, t1⟩ := cells2 hTr.out
   have hkl : k < l.length := by omega
   have c0 : wr.cell? ⟨w.heap.size + 1 + 1, k, none⟩ = some (.int .i64 (l[k]'hkl)) := by rw [cell_in hA.out]; simp [List.getElem?_eq_getElem hkl]
   have f0 := frozen_in hA.out k
   have s1 : IntKind.i64.wrap (x + g) = x + g := IntWalk.i64_in _ (by omega)
   have k10 : (k : Int) < 10 := by omega
   have k0 : (0 : Int) ≤ k := by omega
   generalize l[k]'hkl = old at c0
   have hcon := fun W hE => HC.out (k : Int) W hE
   have hXA : ∀ z : Int, wr.heap[w.heap.size + 1 + 1]? = some (.cells (l.map (Value.int .i64)).toArray 111 (0, 0)) → (wr.setCell ⟨w.heap.size + 1 + 1, k, none⟩ (.int .i64 z)).heap[w.heap.size + 1 + 1]? = some (.cells ((l.set k z).map (Value.int .i64)).toArray 111 (0, 0)) := fun z h => by rw [set_heap_same h, cells_set]
   have HXA := hid (hXA (x + g) hA.out)
   have HTA := hid (set_heap (b := w.heap.size + 1 + 1) (j := k) (v := .int .i64 (x + g)) hTr.out (by omega))
   have HEA := hid (Ev.setCell hB (p := ⟨w.heap.size + 1 + 1, k, none⟩) (by simp; omega) (.int .i64 (x + g)))
   have HLL := hid hll
   have HRR := hid (show (l.set k (x + g)).drop (k + 1) = List.replicate (10 - (k + 1)) 0 by
    rw [List.drop_set_of_lt (by omega), ← List.drop_drop, hR.out, List.drop_replicate]; congr 1)
   have HTT := hid (take_set_succ (x := x + g) hkl)
   clear hXA hll
   cases hin : decide ((k : Int) ∈ plan) with
   | true =>
    have hin' : (k : Int) ∈ plan := by simpa using hin
    have HC2 := hid (fun W hE => by have := hcon W hE; rw [hin] at this; exact this)
    rw [if_pos hin'] at HM2
    clear hcon hin hin'
    go_wp2_with (go_at_call 88; with_reducible refine (HC2.out _ HEA.out).mono ?_; rintro e w1 ⟨rfl, hb1⟩)
    refine ⟨⟨k + 1, 0, l.set k (x + g), rfl, by go_num, by omega, by omega, by omega, by rw [List.length_set]; exact HLL.out, HEA.out.trans hb1, hid (hb1.heap HTA.out), hid (hb1.heap HXA.out), hid ?_, HRR⟩, by simp [intOf]; omega⟩
    rw [HTT.out, List.append_assoc]; exact HM2.out
   | false =>
    have hin' : ¬ (k : Int) ∈ plan := by simpa using hin
    have HC2 := hid (fun W hE => by have := hcon W hE; rw [hin] at this; exact this)
    rw [if_neg hin'] at HM2
    clear hcon hin hin'
    go_wp2_with (go_at_call 88; with_reducible refine (HC2.out _ HEA.out).mono ?_; rintro e w1 ⟨rfl, hb1⟩)
    refine ⟨⟨k + 1, x + g, l.set k (x + g), rfl, by go_num, by omega, by omega, by omega, by rw [List.length_set]; exact HLL.out, HEA.out.trans hb1, hid (hb1.heap HTA.out), hid (hb1.heap HXA.out), hid ?_, HRR⟩, by simp [intOf]; omega⟩
    rw [HTT.out, List.append_assoc]; exact HM2.out
  ·
   obtain rfl : k = tg := by omega
   have hfin : l = M.weights gs plan := by
    have h1 := hM.out
    rw [List.drop_eq_nil_of_le (by omega), M.wK, List.append_nil] at h1
    have h2 := hR.out
    unfold M.weights
    rw [← h1, hgn, ← h2, List.take_append_drop]
   obtain ⟨a0, a1, a2, a3, a4, a5, a6, a7, a8, a9, rfl⟩ := list10 hll
   have HF := hid hfin
   have HA := hid (show wr.heap[w.heap.size + 1 + 1]? = some (.cells #[.int .i64 a0, .int .i64 a1, .int .i64 a2, .int .i64 a3, .int .i64 a4, .int .i64 a5, .int .i64 a6, .int .i64 a7, .int .i64 a8, .int .i64 a9] 111 (0, 0)) from hA.out)
   obtain ⟨x0, x1', x2, x3, x4, x5, x6, x7, x8, x9⟩ := cells10 HA.out
   obtain ⟨f0, f1, f2, f3, f4, f5, f6, f7, f8, f9⟩ := frz10 HA.out
   clear hfin hM hR hA
   go_wp2
   have hF := set10 HA.out (v0 := .int .i64 a0) (v1 := .int .i64 a1) (v2 := .int .i64 a2) (v3 := .int .i64 a3) (v4 := .int .i64 a4) (v5 := .int .i64 a5) (v6 := .int .i64 a6) (v7 := .int .i64 a7) (v8 := .int .i64 a8) (v9 := .int .i64 a9)
   obtain ⟨d0, d1, d2, d3, d4, d5, d6, d7, d8, d9⟩ := cells10 hF
   refine bodyPost_ret (v := .agg #[.int .i64 a0, .int .i64 a1, .int .i64 a2, .int .i64 a3, .int .i64 a4, .int .i64 a5, .int .i64 a6, .int .i64 a7, .int .i64 a8, .int .i64 a9]) (by simp [results, Try.results58, go_sem, d0, d1, d2, d3, d4, d5, d6, d7, d8, d9]) rfl ⟨by rw [← HF.out]; rfl, ?_⟩
   refine Ev.setCell (Ev.setCell (Ev.setCell (Ev.setCell (Ev.setCell (Ev.setCell (Ev.setCell (Ev.setCell (Ev.setCell (Ev.setCell hB ?_ _) ?_ _) ?_ _) ?_ _) ?_ _) ?_ _) ?_ _) ?_ _) ?_ _) ?_ _ <;> (simp; omega)

end Go.Proofs.Ytffbkbcjddigdaa

set_option linter.unusedSimpArgs false
set_option linter.unusedVariables false
namespace Go.Proofs.Ytffbkbcjddigdaa
open Go.RowKit

def M.shows (st : List Int) (l : M.Lk) : Bool := M.holds l.ct (st.getD l.wk.toNat 0)
set_option maxRecDepth 100000 in
set_option maxHeartbeats 1000000 in
theorem shows_c (a0 a1 a2 a3 a4 a5 a6 a7 a8 a9 : Int) (l : M.Lk) (h0 : 0 ≤ l.wk) (h9 : l.wk ≤ 9) (w : World) :
  Calls Try.prog 90 #[.agg #[.int .i64 a0, .int .i64 a1, .int .i64 a2, .int .i64 a3, .int .i64 a4, .int .i64 a5, .int .i64 a6, .int .i64 a7, .int .i64 a8, .int .i64 a9], .agg #[.int .i64 l.wk, .int .i64 l.ct.lo, .int .i64 l.ct.hi]] w fun e w' => e = .returned (.bool (M.shows [a0, a1, a2, a3, a4, a5, a6, a7, a8, a9] l)) ∧ Ev w w' := by
 obtain ⟨k, hk⟩ := Int.eq_ofNat_of_zero_le h0
 have HD := hid (show M.shows [a0, a1, a2, a3, a4, a5, a6, a7, a8, a9] l = M.holds l.ct ([a0, a1, a2, a3, a4, a5, a6, a7, a8, a9].getD k 0) by unfold M.shows; rw [hk]; rfl)
 have hk10 : k < 10 := by omega
 have hx : [a0, a1, a2, a3, a4, a5, a6, a7, a8, a9][k]? = some ([a0, a1, a2, a3, a4, a5, a6, a7, a8, a9].getD k 0) := by
  rw [List.getD_eq_getElem?_getD, List.getElem?_eq_getElem (by simpa using hk10)]; rfl
 generalize [a0, a1, a2, a3, a4, a5, a6, a7, a8, a9].getD k 0 = x at hx HD
 have HH := hid (fun W => holds_e l.ct x W)
 have hxa : (#[.int .i64 a0, .int .i64 a1, .int .i64 a2, .int .i64 a3, .int .i64 a4, .int .i64 a5, .int .i64 a6, .int .i64 a7, .int .i64 a8, .int .i64 a9] : Array Value)[k]? = some (.int .i64 x) := by
  have : (#[.int .i64 a0, .int .i64 a1, .int .i64 a2, .int .i64 a3, .int .i64 a4, .int .i64 a5, .int .i64 a6, .int .i64 a7, .int .i64 a8, .int .i64 a9] : Array Value) = ([a0, a1, a2, a3, a4, a5, a6, a7, a8, a9].map (Value.int .i64)).toArray := rfl
  rw [this]; simp only [List.getElem?_toArray, List.getElem?_map, hx]; rfl
 rw [hk]
 have k10 : (k : Int) < 10 := by omega
 have k0 : (0 : Int) ≤ k := by omega
 have HX := hid hxa
 clear hx hxa hk h0 h9
 go_enter Try.func90, Try.ntmps90
 go_upto_region 1 with fail
 generalize hW0 : World.alloc _ _ = W0
 have hal := alloc2 w (.cells #[.int .i64 a0, .int .i64 a1, .int .i64 a2, .int .i64 a3, .int .i64 a4, .int .i64 a5, .int .i64 a6, .int .i64 a7, .int .i64 a8, .int .i64 a9] 111) (.cells #[.int .i64 k, .int .i64 l.ct.lo, .int .i64 l.ct.hi] 73)
 have hE0 : Ev w W0 := by rw [← hW0]; exact Ev.alloc (Ev.alloc (Ev.refl _) _) _
 rw [hW0] at hal
 have c0 := (cell_in hal.1 k).trans HX.out
 obtain ⟨y0, y1, y2⟩ := cells3 hal.2.1
 have l1 := heap_lt hal.1
 have l2 := heap_lt hal.2.1
 have HSE : Hid (∀ w', Ev W0 w' → Ev W0 w' ∧ (∀ o, w'.cell? ⟨w.heap.size, o, none⟩ = W0.cell? ⟨w.heap.size, o, none⟩) ∧ (∀ o, w'.cell? ⟨w.heap.size + 1, o, none⟩ = W0.cell? ⟨w.heap.size + 1, o, none⟩)) := hid (fun w' h => ⟨h, fun o => h.cells.1 _ o l1, fun o => h.cells.1 _ o l2⟩)
 clear hW0 hal
 go_region_held3 (fun w' => Ev W0 w' ∧ (∀ o, w'.cell? ⟨w.heap.size, o, none⟩ = W0.cell? ⟨w.heap.size, o, none⟩) ∧ (∀ o, w'.cell? ⟨w.heap.size + 1, o, none⟩ = W0.cell? ⟨w.heap.size + 1, o, none⟩)) (exact HSE.out _ (by repeat (first | with_reducible exact Ev.refl W0 | (with_reducible assumption) | with_reducible refine Ev.drew ?_))) (first | (go_at_call 83; ((with_reducible refine (HH.out _).mono ?_); rintro e w1 ⟨rfl, hb1⟩; have hc1 : Ev W0 w1 := (by first | exact hb1 | exact Ev.trans (Ev.drew (Ev.refl _)) hb1))))
 go_wp2
 go_ret
 exact ⟨ret_bool HD.out.symm, hE0.trans (by first | exact hc1 | exact Ev.drew hc1)⟩

set_option maxRecDepth 100000 in
set_option maxHeartbeats 1000000 in
theorem allShows_c (a0 a1 a2 a3 a4 a5 a6 a7 a8 a9 : Int) (A : Option Addr) (n c : Nat) (xs : List M.Lk) (hxs : ∀ l ∈ xs, 0 ≤ l.wk ∧ l.wk ≤ 9) (w : World) (hs : Sl lkc 3 w w.heap.size A n c xs) :
  Calls Try.prog 89 #[.slice A n c, .func (.func 90) #[.agg #[.int .i64 a0, .int .i64 a1, .int .i64 a2, .int .i64 a3, .int .i64 a4, .int .i64 a5, .int .i64 a6, .int .i64 a7, .int .i64 a8, .int .i64 a9]] #[]] w fun e w' => e = .returned (.bool (xs.all (M.shows [a0, a1, a2, a3, a4, a5, a6, a7, a8, a9]))) ∧ Ev w w' := by
 have hsm := hs.small
 have HXS := hid hxs
 clear hxs
 go_enter Try.func89, Try.ntmps89
 go_wp2
 go_loopw [9] (fun i wr => ∃ k : Nat, i = .int .i64 k ∧ k ≤ n ∧ Ev w wr ∧ Hid ((xs.drop k).all (M.shows [a0, a1, a2, a3, a4, a5, a6, a7, a8, a9]) = xs.all (M.shows [a0, a1, a2, a3, a4, a5, a6, a7, a8, a9]))) (fun i _ => n - (intOf i).toNat)
 case atStart => exact ⟨0, rfl, by omega, Ev.refl _, hid rfl⟩
 case round =>
  obtain ⟨k, rfl, hk, hB, hall⟩ := hrel
  by_cases hlt : k < n
  ·
   obtain ⟨b, off, x, rfl, hb, hx, hd, hcc⟩ := hs.at_ hB hlt
   have e0 := hcc 0 _ rfl
   have e1 := hcc 1 _ rfl
   have e2 := hcc 2 _ rfl
   simp only [Nat.add_zero] at e0
   have hcap := hs.cap
   have H := hid hd
   have hw2 := HXS.out x (List.mem_of_getElem? hx)
   clear hd hx hcc
   have hcon := fun W => shows_c a0 a1 a2 a3 a4 a5 a6 a7 a8 a9 x hw2.1 hw2.2 W
   cases hv : M.shows [a0, a1, a2, a3, a4, a5, a6, a7, a8, a9] x with
   | true =>
    rw [hv] at hcon
    have HC := hid hcon
    have HV := hid hv
    clear hcon hv hw2
    go_wp2_with (go_at_call 90; with_reducible refine (HC.out _).mono ?_; rintro e w1 ⟨rfl, hb1⟩)
    refine ⟨⟨k + 1, by go_num, by omega, by first | exact hB.trans hb1 | exact hB.trans (Ev.trans (Ev.alloc (Ev.refl _) _) hb1), ?_⟩, by simp [intOf]; omega⟩
    exact hid (by rw [← hall.out, H.out, List.all_cons, HV.out, Bool.true_and])
   | false =>
    rw [hv] at hcon
    have HC := hid hcon
    have HV := hid hv
    clear hcon hv hw2
    go_wp2_with (go_at_call 90; with_reducible refine (HC.out _).mono ?_; rintro e w1 ⟨rfl, hb1⟩)
    go_ret
    exact ⟨ret_bool (by rw [← hall.out, H.out, List.all_cons, HV.out, Bool.false_and]), by first | exact hB.trans hb1 | exact hB.trans (Ev.trans (Ev.alloc (Ev.refl _) _) hb1)⟩
  ·
   have H := hid (hs.done hlt)
   go_wp2
   go_ret
   exact ⟨ret_bool (by rw [← hall.out, H.out]; rfl), hB⟩

set_option maxRecDepth 100000 in
set_option maxHeartbeats 1000000 in
theorem showsAll_c (a0 a1 a2 a3 a4 a5 a6 a7 a8 a9 : Int) (A : Option Addr) (n c : Nat) (xs : List M.Lk) (hxs : ∀ l ∈ xs, 0 ≤ l.wk ∧ l.wk ≤ 9) (w : World) (hs : Sl lkc 3 w w.heap.size A n c xs) :
  Calls Try.prog 59 #[.agg #[.int .i64 a0, .int .i64 a1, .int .i64 a2, .int .i64 a3, .int .i64 a4, .int .i64 a5, .int .i64 a6, .int .i64 a7, .int .i64 a8, .int .i64 a9], .slice A n c] w fun e w' => e = .returned (.bool (xs.all (M.shows [a0, a1, a2, a3, a4, a5, a6, a7, a8, a9]))) ∧ Ev w w' := by
 have HA := hid (fun W (hE : Ev w W) => allShows_c a0 a1 a2 a3 a4 a5 a6 a7 a8 a9 A n c xs hxs W (hs.ev hE))
 generalize xs.all (M.shows [a0, a1, a2, a3, a4, a5, a6, a7, a8, a9]) = r at HA
 clear hs hxs
 go_enter Try.func59, Try.ntmps59
 go_wp2_with (go_at_call 89; with_reducible refine (HA.out _ (Ev.alloc (Ev.refl _) _)).mono ?_; rintro e w1 ⟨rfl, hb1⟩)
 go_ret
 exact ⟨rfl, Ev.trans (Ev.alloc (Ev.refl _) _) hb1⟩

end Go.Proofs.Ytffbkbcjddigdaa

set_option linter.unusedSimpArgs false
set_option linter.unusedVariables false
namespace Go.Proofs.Ytffbkbcjddigdaa
open Go.RowKit

def M.age (plan : List Int) (i : Nat) : Int := if i = 0 then plan.getD 0 0 + 1 else plan.getD i 0 - plan.getD (i - 1) 0
def M.strength (f : M.Cf) (plan : List Int) (i : Nat) : Int := max 0 (f.base.getD i 0 - max 0 (M.age plan i - f.ripe) * f.late)
/-- A number of a list, in a later world. -/
theorem Sl.getD_ {w wr : World} {A : Option Addr} {n c : Nat} {xs : List Int} (h : Sl ics 1 w w.heap.size A n c xs) (hE : Ev w wr) (hn : 0 < n) : ∃ b off, A = some ⟨b, off, none⟩ ∧ b < w.heap.size ∧ ∀ k, k < n → wr.cell? ⟨b, off + k, none⟩ = some (.int .i64 (xs.getD k 0)) ∧ xs.getD k 0 ∈ xs := by
 obtain ⟨b, off, hA, hb, hc⟩ := h.cells hn
 refine ⟨b, off, hA, hb, fun k hk => ?_⟩
 have hl := h.len
 have hx : xs[k]? = some (xs.getD k 0) := by
  rw [List.getD_eq_getElem?_getD, List.getElem?_eq_getElem (by omega)]; rfl
 have := (hE.cells.1 _ _ hb).trans (hc k _ hx 0 _ rfl)
 exact ⟨by simpa using this, List.mem_of_getElem? hx⟩

set_option maxRecDepth 100000 in
set_option maxHeartbeats 4000000 in
theorem strength_c (f : M.Cf) (Ag Aw Ab Ac Al : Option Addr) (ng cg nw cw nb cb nc cc nl cl : Nat) (P : Option Addr) (pn pc : Nat) (plan : List Int) (i : Nat) (hi : i < pn) (hib : i < nb) (hpl : ∀ x ∈ plan, 0 ≤ x ∧ x ≤ 9) (hb : ∀ x ∈ f.base, 0 ≤ x ∧ x ≤ 200) (hr : 1 ≤ f.ripe ∧ f.ripe ≤ 10) (ht : 0 ≤ f.late ∧ f.late ≤ 50) (w : World) (hs : Sl ics 1 w w.heap.size Ab nb cb f.base) (hp : Sl ics 1 w w.heap.size P pn pc plan) :
  Calls Try.prog 87 #[.agg #[.int .i64 f.last, .slice Ag ng cg, .slice Aw nw cw, .slice Ab nb cb, .slice Ac nc cc, .int .i64 f.ripe, .int .i64 f.late, .int .i64 f.trod, .slice Al nl cl], .slice P pn pc, .int .i64 i] w fun e w' => e = .returned (.int .i64 (M.strength f plan i)) ∧ Ev w w' := by
 obtain ⟨bp, op, rfl, hbp, hcp⟩ := hp.getD_ (Ev.refl w) (by omega)
 obtain ⟨bb, ob, rfl, hbb, hcb⟩ := hs.getD_ (Ev.refl w) (by omega)
 have hpc := hp.cap
 have hbc := hs.cap
 have hps := hp.small
 have hbs := hs.small
 obtain ⟨e0, e0m⟩ := hcp i hi
 obtain ⟨e1, e1m⟩ := hcb i hib
 have p0 := hpl _ e0m
 have b0 := hb _ e1m
 obtain ⟨bi, hbi⟩ : ∃ x, f.base.getD i 0 = x := ⟨_, rfl⟩
 rw [hbi] at e1 b0
 have HBI := hid hbi
 obtain ⟨pi, hpi⟩ : ∃ x, plan.getD i 0 = x := ⟨_, rfl⟩
 rw [hpi] at e0 p0
 have HPI := hid hpi
 have g0 : IntKind.i64.wrap (pi + 1) = pi + 1 := IntWalk.i64_in _ (by omega)
 clear hbi hpi e0m e1m hb hs hp
 rcases Nat.eq_zero_or_pos i with hi0 | hi0
 ·
  subst hi0
  simp only [Nat.add_zero] at e0 e1
  rw [show (((0 : Nat)) : Int) = 0 from rfl]
  have HAG := hid (show M.age plan 0 = pi + 1 by unfold M.age; rw [if_pos rfl, HPI.out])
  obtain ⟨d, hdd⟩ : ∃ d, pi + 1 - f.ripe = d := ⟨_, rfl⟩
  have hd9 : d ≤ 10 := by omega
  have hd0 : -10 ≤ d := by omega
  clear hcp hcb
  go_enter Try.func87, Try.ntmps87
  go_upto_region 4 with fail
  by_cases hd : 0 < d
  ·
   have hm : max 0 d = d := by omega
   obtain ⟨q, hq⟩ : ∃ q : Int, d * f.late = q := ⟨_, rfl⟩
   have hq0 : 0 ≤ q := by rw [← hq]; exact Int.mul_nonneg (by omega) (by omega)
   have hq1 : q ≤ 10 * 50 := by rw [← hq]; exact Int.mul_le_mul (by omega) (by omega) (by omega) (by omega)
   have HS := hid (show M.strength f plan 0 = max 0 (bi - q) by unfold M.strength; rw [HAG.out, hdd, hm, hq, HBI.out])
   have g2 : IntKind.i64.wrap d = d := IntWalk.i64_in _ (by omega)
   have g3 : IntKind.i64.wrap q = q := IntWalk.i64_in _ (by omega)
   have g4 : IntKind.i64.wrap (bi - q) = bi - q := IntWalk.i64_in _ (by omega)
   have hd1 : ¬ (d ≤ 0) := by omega
   have hd2 : ¬ (d < 0) := by omega
   have hd3 : (0 : Int) ≤ d := by omega
   clear hm
   go_wp2_with (go_quiet (fail))
   all_goals (go_ret; exact ⟨by rw [HS.out]; first | rfl | (congr 3; omega) | (simp; omega), by repeat (first | exact Ev.refl _ | refine Ev.drewN ?_ _ | refine Ev.drew ?_ | refine Ev.alloc ?_ _)⟩)
  ·
   have hm : max 0 d = 0 := by omega
   have HS := hid (show M.strength f plan 0 = max 0 bi by unfold M.strength; rw [HAG.out, hdd, hm, Int.zero_mul, Int.sub_zero, HBI.out])
   have g2 : IntKind.i64.wrap d = d := IntWalk.i64_in _ (by omega)
   have hd3 : d ≤ 0 := by omega
   have g5 : IntKind.i64.wrap bi = bi := IntWalk.i64_in _ (by omega)
   clear hm
   go_wp2_with (go_quiet (fail))
   all_goals (go_ret; exact ⟨by rw [HS.out]; first | rfl | (congr 3; omega) | (simp; omega), by repeat (first | exact Ev.refl _ | refine Ev.drewN ?_ _ | refine Ev.drew ?_ | refine Ev.alloc ?_ _)⟩)
 ·
  obtain ⟨m, hm⟩ : ∃ m : Nat, (i : Int) - 1 = m := ⟨i - 1, by omega⟩
  have hmi : i - 1 = m := by omega
  obtain ⟨e2, e2m⟩ := hcp m (by omega)
  have q0 := hpl _ e2m
  obtain ⟨pj, hpj⟩ : ∃ x, plan.getD m 0 = x := ⟨_, rfl⟩
  rw [hpj] at e2 q0
  have HAG := hid (show M.age plan i = pi - pj by unfold M.age; rw [if_neg (by omega), HPI.out, hmi, hpj])
  obtain ⟨d, hdd⟩ : ∃ d, pi - pj - f.ripe = d := ⟨_, rfl⟩
  have hd9 : d ≤ 10 := by omega
  have hd0 : -20 ≤ d := by omega
  have i1 : (i : Int) > 0 := by omega
  have i2 : (0 : Int) < i := by omega
  have s1 : IntKind.i64.wrap ((i : Int) - 1) = m := by rw [hm]; exact IntWalk.i64_in _ (by omega)
  have s2 : IntKind.i64.wrap (pi - pj) = pi - pj := IntWalk.i64_in _ (by omega)
  have mp : m < pn := by omega
  clear hcp hcb hm hmi e2m hpj
  go_enter Try.func87, Try.ntmps87
  go_upto_region 4 with (go_quiet (fail))
  by_cases hd : 0 < d
  ·
   have hm : max 0 d = d := by omega
   obtain ⟨q, hq⟩ : ∃ q : Int, d * f.late = q := ⟨_, rfl⟩
   have hq0 : 0 ≤ q := by rw [← hq]; exact Int.mul_nonneg (by omega) (by omega)
   have hq1 : q ≤ 10 * 50 := by rw [← hq]; exact Int.mul_le_mul (by omega) (by omega) (by omega) (by omega)
   have HS := hid (show M.strength f plan i = max 0 (bi - q) by unfold M.strength; rw [HAG.out, hdd, hm, hq, HBI.out])
   have g2 : IntKind.i64.wrap d = d := IntWalk.i64_in _ (by omega)
   have g3 : IntKind.i64.wrap q = q := IntWalk.i64_in _ (by omega)
   have g4 : IntKind.i64.wrap (bi - q) = bi - q := IntWalk.i64_in _ (by omega)
   have hd1 : ¬ (d ≤ 0) := by omega
   have hd2 : ¬ (d < 0) := by omega
   have hd3 : (0 : Int) ≤ d := by omega
   clear hm
   go_wp2_with (go_quiet (fail))
   all_goals (go_ret; exact ⟨by rw [HS.out]; first | rfl | (congr 3; omega) | (simp; omega), by repeat (first | exact Ev.refl _ | refine Ev.drewN ?_ _ | refine Ev.drew ?_ | refine Ev.alloc ?_ _)⟩)
  ·
   have hm : max 0 d = 0 := by omega
   have HS := hid (show M.strength f plan i = max 0 bi by unfold M.strength; rw [HAG.out, hdd, hm, Int.zero_mul, Int.sub_zero, HBI.out])
   have g2 : IntKind.i64.wrap d = d := IntWalk.i64_in _ (by omega)
   have hd3 : d ≤ 0 := by omega
   have g5 : IntKind.i64.wrap bi = bi := IntWalk.i64_in _ (by omega)
   clear hm
   go_wp2_with (go_quiet (fail))
   all_goals (go_ret; exact ⟨by rw [HS.out]; first | rfl | (congr 3; omega) | (simp; omega), by repeat (first | exact Ev.refl _ | refine Ev.drewN ?_ _ | refine Ev.drew ?_ | refine Ev.alloc ?_ _)⟩)
end Go.Proofs.Ytffbkbcjddigdaa

set_option linter.unusedSimpArgs false
set_option linter.unusedVariables false
namespace Go.Proofs.Ytffbkbcjddigdaa
open Go.RowKit
open Go.WideMaps (KeyLaw)

theorem wide151 : (match Try.prog.underlying 143 with | some (.array _ _) | some (.struct _) => true | _ => false) = true := by rw [Try.underlying143]
theorem row151 : (143 : TypeId) < Try.prog.types.size := by rw [show Try.prog.types.size = 193 from Try.types_size]; decide
set_option maxRecDepth 100000 in
theorem law151 : KeyLaw Try.prog 143 := deep_law_laid laidOut (m := 2) (by omega) row151 (by kernel_rfl) wide151
theorem lits4_ (d : Nat) (b : Bool) : Try.prog.keyLits (d + 1) 4 [.bool b] = some [.bool b] := by
 unfold Program.keyLits
 rw [Try.underlying4]
theorem lits3_ (d : Nat) (n : Int) (hn : Wf n) : Try.prog.keyLits (d + 1) 3 [.int .i64 n] = some [.int .i64 n] := by
 unfold Program.keyLits
 rw [Try.underlying3]
 simp only []
 rw [if_pos ⟨trivial, hn⟩]
set_option maxRecDepth 100000 in
theorem key151 {a : Int} {b : Bool} (ha : Wf a) : ∃ l, keyOf Try.prog 143 (.agg #[.int .i64 a, .bool b]) = some l := by
 have hk : Try.prog.keyType 143 = true := by kernel_rfl
 have hcl : Try.prog.cellsOf 143 = 2 := by kernel_rfl
 have hc3 : Try.prog.cellsOf 3 = 1 := by kernel_rfl
 have hc4 : Try.prog.cellsOf 4 = 1 := by kernel_rfl
 have hf : (Value.agg #[Value.int .i64 a, .bool b]).formed Try.prog 143 = true := by simp [Value.formed, Try.underlying143, hcl]
 have hsz : Try.prog.types.size = 193 := Try.types_size
 unfold keyOf
 rw [Try.underlying143]
 simp only [hk, hf, Bool.and_self, if_true, hsz]
 unfold Program.keyLits
 rw [Try.underlying143]
 simp [hcl, hc3, hc4, Value.cells, lits3_ 192 a ha, lits4_ 192 b]

/-- The numbers from lo, so many. -/
def M.fromTo (lo : Int) : Nat → List Int
 | 0 => []
 | k + 1 => M.fromTo lo k ++ [lo + k]
theorem M.fromTo_len (lo : Int) : ∀ k, (M.fromTo lo k).length = k
 | 0 => rfl
 | k + 1 => by rw [M.fromTo, List.length_append, M.fromTo_len lo k]; rfl
theorem info3' : (Try.prog.info? 3).map (fun i => (i.zero, i.size, i.bytes)) = some (some (.int .i64 0), 1, 8) := by kernel_rfl

set_option maxRecDepth 100000 in
set_option maxHeartbeats 2000000 in
theorem fromTo_c (lo hi : Int) (N : Nat) (hN : lo + N = hi + 1) (h0 : -1000 ≤ lo) (h1 : hi ≤ 1000) (w : World) :
  Calls Try.prog 116 #[.int .i64 lo, .int .i64 hi] w fun e w' => (∃ V c, e = .returned (.slice V N c) ∧ w'.ownsRow w.heap.size 3 1 (.slice V N c) N ((M.fromTo lo N).flatMap ics)) ∧ Ev w w' := by
 obtain ⟨i0, hi0, hz0, hz1, hz2⟩ := info_parts info3'
 go_enter Try.func116, Try.ntmps116
 go_wp2
 go_loopw [5, 6] (fun v i wr => ∃ k : Nat, ∃ V : Option Addr, ∃ c : Nat, ∃ y : Int, v = .slice V k c ∧ i = .int .i64 y ∧ y = lo + k ∧ k ≤ N ∧ Ev w wr ∧ wr.ownsRow w.heap.size 3 1 (.slice V k c) k ((M.fromTo lo k).flatMap ics)) (fun _ i _ => (hi + 1 - intOf i).toNat)
 case atStart => exact ⟨0, none, 0, lo, rfl, rfl, by omega, by omega, Ev.refl _, World.ownsRow_nil _ _ _ _⟩
 case round =>
  obtain ⟨k, V, c, y, rfl, rfl, hy, hk, hB, hown⟩ := hrel
  have hbs := hB.size
  by_cases hlt : k < N
  ·
   have hyh : y ≤ hi := by omega
   have HTK := hid (show (M.fromTo lo (k + 1)).flatMap ics = (M.fromTo lo k).flatMap ics ++ [.int .i64 y] by rw [M.fromTo, List.flatMap_append, hy]; rfl)
   have s1 : IntKind.i64.wrap (y + 1) = y + 1 := IntWalk.i64_in _ (by omega)
   have HY := hid hy
   clear hy
   go_wp2_with (at_builtin; refine wpList_append_own_at _ rfl (.tmp 13) (.tmp 15) 23 rfl w.heap.size 3 i0 _ 1 8 Try.underlying23 hi0 hz0 hz1 hz2 rfl (by decide) _ k ((M.fromTo lo k).flatMap ics) rfl (hown.alloc _) ⟨wr.heap.size, 0, none⟩ 1 1 [.int .i64 y] rfl rfl (news_in (alloc1 wr _).1) (by simp [Value.oneCell']) (by unfold maxLen; omega) (by omega) (by simp; omega) ?_; intro v' w3 hown' hgrow _ _; have hown3 : w3.ownsRow w.heap.size 3 1 v' (k + 1) ((M.fromTo lo (k + 1)).flatMap ics) := (by rw [HTK.out]; exact hown'); obtain ⟨V', c', rfl⟩ := own_form hown3; have HE3 := hid (Ev.grown (hB.alloc (.cells #[.int .i64 y] 3)) hgrow (fun q e => (hown.lt q e).1) : Ev w w3); have HO3 := hid hown3; clear hown' hown3 hgrow)
   exact ⟨⟨k + 1, V', c', y + 1, rfl, by go_num, by have := HY.out; omega, by omega, HE3.out, HO3.out⟩, by simp [intOf]; omega⟩
  ·
   obtain rfl : k = N := by omega
   have hyh : ¬ (y ≤ hi) := by omega
   clear hy
   go_wp2
   go_ret
   exact ⟨⟨V, c, rfl, hown⟩, hB⟩

end Go.Proofs.Ytffbkbcjddigdaa

set_option linter.unusedSimpArgs false
set_option linter.unusedVariables false
namespace Go.Proofs.Ytffbkbcjddigdaa
open Go.RowKit

/-- What a load leaves when it is cropped. -/
def M.leaves (f : M.Cf) (a : Int) (b : Bool) : Int := if b then a - a * f.trod / 100 else a
/-- What is remembered of loads is true. -/
def Loads (f : M.Cf) (g : Value → Option Value) : Prop := ∀ k v, g k = some v → ∃ a b, k = .agg #[.int .i64 a, .bool b] ∧ v = .int .i64 (M.leaves f a b)
theorem Loads.at_ {f : M.Cf} {g : Value → Option Value} (h : Loads f g) {a : Int} {b : Bool} {v : Value} (hg : g (.agg #[.int .i64 a, .bool b]) = some v) : v = .int .i64 (M.leaves f a b) := by
 obtain ⟨a', b', hk, hv⟩ := h _ _ hg
 simp at hk
 obtain ⟨rfl, rfl⟩ := hk
 exact hv
open Classical in
theorem Loads.put {f : M.Cf} {g : Value → Option Value} (h : Loads f g) (a : Int) (b : Bool) :
  Loads f (fun k => if k = .agg #[.int .i64 a, .bool b] then some (.int .i64 (M.leaves f a b)) else g k) := by
 intro k v hk
 simp only [] at hk
 split at hk
 ·
  rename_i h1; exact ⟨a, b, h1, by simpa using hk.symm⟩
 ·
  exact h k v hk

set_option maxRecDepth 100000 in
set_option maxHeartbeats 1000000 in
theorem start_c (f : M.Cf) (Ag Aw Ab Ac Al : Option Addr) (ng cg nw cw nb cb nc cc nl cl : Nat) (w : World) :
  Calls Try.prog 55 #[.agg #[.int .i64 f.last, .slice Ag ng cg, .slice Aw nw cw, .slice Ab nb cb, .slice Ac nc cc, .int .i64 f.ripe, .int .i64 f.late, .int .i64 f.trod, .slice Al nl cl]] w fun e w' => (∃ p mb, e = .returned (.pointer (some ⟨p, 0, none⟩)) ∧ w.heap.size ≤ p ∧ w.heap.size ≤ mb ∧ w'.heap[p]? = some (.cells #[.int .i64 f.last, .slice Ag ng cg, .slice Aw nw cw, .slice Ab nb cb, .slice Ac nc cc, .int .i64 f.ripe, .int .i64 f.late, .int .i64 f.trod, .slice Al nl cl, .slice none 0 0, .slice none 0 0, .map (some mb)] 136 (0, 0)) ∧ MapIs Try.prog 143 w' mb (fun _ => none)) ∧ Ev w w' := by
 have hmm := @run_makeMap Try.prog
 go_enter Try.func55, Try.ntmps55
 go_wp2
 go_ret
 refine ⟨⟨_, _, rfl, ?_, ?_, (alloc3 w _ _ _).2.2.1, ?_⟩, Ev.alloc (Ev.alloc (Ev.alloc (Ev.refl _) _) _) _⟩
 ·
  first | (simp; done) | (simp; omega) | omega
 ·
  exact Nat.le_succ _
 ·
  have h1 := MapIs.new Try.prog 143 (w.alloc (.cells #[.int .i64 f.last, .slice Ag ng cg, .slice Aw nw cw, .slice Ab nb cb, .slice Ac nc cc, .int .i64 f.ripe, .int .i64 f.late, .int .i64 f.trod, .slice Al nl cl] 38))
  have h2 := h1.keep (Ev.alloc (Ev.refl _) (.cells #[.int .i64 f.last, .slice Ag ng cg, .slice Aw nw cw, .slice Ab nb cb, .slice Ac nc cc, .int .i64 f.ripe, .int .i64 f.late, .int .i64 f.trod, .slice Al nl cl, .slice none 0 0, .slice none 0 0, .map (some (w.heap.size + 1))] 136)) (by simp)
  simpa using h2

set_option maxRecDepth 100000 in
set_option maxHeartbeats 8000000 in
theorem leaves_c (f : M.Cf) (Ag Aw Ab Ac Al : Option Addr) (ng cg nw cw nb cb nc cc nl cl : Nat) (At As : Option Addr) (nt ct ns cs p mb : Nat) (a : Int) (b : Bool) (a0 : 0 ≤ a) (a1 : a ≤ 1000) (ht : 0 ≤ f.trod ∧ f.trod ≤ 100) (g : Value → Option Value) (hg : Loads f g) (w : World) (hw : w.heap[p]? = some (.cells #[.int .i64 f.last, .slice Ag ng cg, .slice Aw nw cw, .slice Ab nb cb, .slice Ac nc cc, .int .i64 f.ripe, .int .i64 f.late, .int .i64 f.trod, .slice Al nl cl, .slice At nt ct, .slice As ns cs, .map (some mb)] 136 (0, 0))) (hm : MapIs Try.prog 143 w mb g) :
  Calls Try.prog 86 #[.pointer (some ⟨p, 0, none⟩), .agg #[.int .i64 a, .bool b]] w fun e w' => e = .returned (.int .i64 (M.leaves f a b)) ∧ (∃ g', Loads f g' ∧ MapIs Try.prog 143 w' mb g') ∧ Mo mb w w' := by
 obtain ⟨l, hkey⟩ := key151 (a := a) (b := b) (Wf.of (by omega))
 have hlk : ∀ W, MapIs Try.prog 143 W mb g → (Instr.lookup 134 (.map (some mb)) (.agg #[.int .i64 a, .bool b]) true).run Try.prog W = .ok (.tuple #[(g (.agg #[.int .i64 a, .bool b])).getD (.int .i64 0), .bool (g (.agg #[.int .i64 a, .bool b])).isSome]) W := fun W h => MapIs.lookup h law151 Try.underlying134 (fun w => Try.zeroValue3 w) hkey
 have hpl := heap_lt hw
 have hml := hm.lt
 have HW := hid hw
 have HM := hid hm
 have HG := hid hg
 have hpm : p ≠ mb := by
  rintro rfl
  obtain ⟨es, ck, hh, _⟩ := hm
  rw [hw] at hh
  cases hh
 cases hgx : g (.agg #[.int .i64 a, .bool b]) with
 | some v =>
  obtain rfl := hg.at_ hgx
  rw [hgx] at hlk
  simp only [Option.getD_some, Option.isSome_some] at hlk
  have HLK := hid hlk
  clear hgx hg hw hm hlk
  go_enter Try.func86, Try.ntmps86
  go_upto_region 1 with fail
  generalize hW0 : World.alloc _ _ = W0
  have hE0 : Ev w W0 := by rw [← hW0]; exact Ev.alloc (Ev.refl _) _
  have hal := (alloc1 w (.cells #[.int .i64 a, .bool b] 143)).1
  rw [hW0] at hal
  have HP := hid (hE0.heap HW.out)
  have HMM := hid (HM.out.keep hE0 hml)
  obtain ⟨x0, x1⟩ := cells2 hal
  have z11 : W0.cell? ⟨p, 11, none⟩ = some (.map (some mb)) := (cell_in HP.out 11).trans rfl
  have z7 : W0.cell? ⟨p, 7, none⟩ = some (.int .i64 f.trod) := (cell_in HP.out 7).trans rfl
  have hpw : p < W0.heap.size := heap_lt HP.out
  have hww : w.heap.size < W0.heap.size := heap_lt hal
  clear hW0 hal
  refine wp_region_held_drew (S := fun w' => (∀ o, w'.cell? ⟨p, o, none⟩ = W0.cell? ⟨p, o, none⟩) ∧ (∀ o, w'.cell? ⟨w.heap.size, o, none⟩ = W0.cell? ⟨w.heap.size, o, none⟩) ∧ MapIs Try.prog 143 w' mb g) (by kernel_rfl) ⟨fun o => rfl, fun o => rfl, HMM.out.same rfl⟩ (fun hHeld => ?_)
  refine wpAnyH_take (i := 0) (v := ?_) rfl (by kernel_rfl) (by kernel_rfl) (by kernel_rfl) (fun _ _ _ h => h) (Or.inl ⟨by rfl, ?hy⟩) (by assumption) ?_
  case hy => (intro w hSw; (try dsimp only at hSw); go_simp; with_reducible rfl)
  (try simp only [Act.put, List.setIfInBounds_toArray, List.set_cons_zero, List.set_cons_succ])
  refine wpAnyH_take (i := 1) (v := ?_) rfl (by kernel_rfl) (by kernel_rfl) (by kernel_rfl) (fun _ _ _ h => h) (Or.inl ⟨by rfl, ?hy⟩) (by assumption) ?_
  case hy => (intro w hSw; (try dsimp only at hSw); go_simp; with_reducible rfl)
  (try simp only [Act.put, List.setIfInBounds_toArray, List.set_cons_zero, List.set_cons_succ])
  refine wpAnyH_take (i := 2) (v := ?_) rfl (by kernel_rfl) (by kernel_rfl) (by kernel_rfl) (fun _ _ _ h => h) (Or.inl ⟨by rfl, ?hy⟩) (by assumption) ?_
  case hy => (intro w hSw; (try dsimp only at hSw); go_simp; with_reducible rfl)
  (try simp only [Act.put, List.setIfInBounds_toArray, List.set_cons_zero, List.set_cons_succ])
  refine wpAnyH_take (i := 3) (v := ?_) rfl (by kernel_rfl) (by kernel_rfl) (by kernel_rfl) (fun _ _ _ h => h) (Or.inl ⟨by rfl, ?hy⟩) (by assumption) ?_
  case hy => (intro w hSw; (try dsimp only at hSw); go_simp; with_reducible rfl)
  (try simp only [Act.put, List.setIfInBounds_toArray, List.set_cons_zero, List.set_cons_succ])
  refine wpAnyH_take (i := 4) (v := ?_) rfl (by kernel_rfl) (by kernel_rfl) (by kernel_rfl) (fun _ _ _ h => h) (Or.inl ⟨by rfl, ?hy⟩) (by assumption) ?_
  case hy => (intro w hSw; (try dsimp only at hSw); go_simp; with_reducible rfl)
  (try simp only [Act.put, List.setIfInBounds_toArray, List.set_cons_zero, List.set_cons_succ])
  refine wpAnyH_take (i := 5) (v := ?_) rfl (by kernel_rfl) (by kernel_rfl) (by kernel_rfl) (fun _ _ _ h => h) (Or.inl ⟨by rfl, ?hy⟩) (by assumption) ?_
  case hy => (intro w hSw; (try dsimp only at hSw); have hlk5 := HLK.out _ hSw.2.2; go_simp; with_reducible rfl)
  (try simp only [Act.put, List.setIfInBounds_toArray, List.set_cons_zero, List.set_cons_succ])
  refine wpAnyH_take (i := 6) (v := ?_) rfl (by kernel_rfl) (by kernel_rfl) (by kernel_rfl) (fun _ _ _ h => h) (Or.inl ⟨by rfl, ?hy⟩) (by assumption) ?_
  case hy => (intro w hSw; (try dsimp only at hSw); go_simp; with_reducible rfl)
  (try simp only [Act.put, List.setIfInBounds_toArray, List.set_cons_zero, List.set_cons_succ])
  refine wpAnyH_take (i := 7) (v := ?_) rfl (by kernel_rfl) (by kernel_rfl) (by kernel_rfl) (fun _ _ _ h => h) (Or.inl ⟨by rfl, ?hy⟩) (by assumption) ?_
  case hy => (intro w hSw; (try dsimp only at hSw); go_simp; with_reducible rfl)
  (try simp only [Act.put, List.setIfInBounds_toArray, List.set_cons_zero, List.set_cons_succ])
  refine wpAnyH_take (i := 8) (v := ?_) rfl (by kernel_rfl) (by kernel_rfl) (by kernel_rfl) (fun _ _ _ h => h) (Or.inl ⟨by rfl, ?hy⟩) (by assumption) ?_
  case hy => (intro w hSw; (try dsimp only at hSw); go_simp; with_reducible rfl)
  (try simp only [Act.put, List.setIfInBounds_toArray, List.set_cons_zero, List.set_cons_succ])
  refine wpAnyH_take (i := 9) (v := ?_) rfl (by kernel_rfl) (by kernel_rfl) (by kernel_rfl) (fun _ _ _ h => h) (Or.inl ⟨by rfl, ?hy⟩) (by assumption) ?_
  case hy => (intro w hSw; (try dsimp only at hSw); go_simp; with_reducible rfl)
  (try simp only [Act.put, List.setIfInBounds_toArray, List.set_cons_zero, List.set_cons_succ])
  refine wpAnyH_take (i := 10) (v := ?_) rfl (by kernel_rfl) (by kernel_rfl) (by kernel_rfl) (fun _ _ _ h => h) (Or.inl ⟨by rfl, ?hy⟩) (by assumption) ?_
  case hy => (intro w hSw; (try dsimp only at hSw); go_simp; with_reducible rfl)
  (try simp only [Act.put, List.setIfInBounds_toArray, List.set_cons_zero, List.set_cons_succ])
  refine wpAnyH_done (by kernel_rfl) ?_ _
  go_wp2_with (fail)
  go_ret
  exact ⟨rfl, ⟨g, HG.out, HMM.out.same rfl⟩, (Mo.ev hE0).drew⟩
 | none =>
  rw [hgx] at hlk
  simp only [Option.getD_none, Option.isSome_none] at hlk
  have HLK := hid hlk
  clear hgx hg hw hm hlk
  obtain ⟨q, hq⟩ : ∃ q : Int, a * f.trod = q := ⟨_, rfl⟩
  have hq0 : 0 ≤ q := by rw [← hq]; exact Int.mul_nonneg (by omega) (by omega)
  have hq1 : q ≤ 1000 * 100 := by rw [← hq]; exact Int.mul_le_mul (by omega) (by omega) (by omega) (by omega)
  have t1 : q.tdiv 100 = q / 100 := Int.tdiv_eq_ediv_of_nonneg hq0
  have s1 : IntKind.i64.wrap q = q := IntWalk.i64_in _ (by omega)
  obtain ⟨d, hd⟩ : ∃ d : Int, q / 100 = d := ⟨_, rfl⟩
  have s2 : IntKind.i64.wrap d = d := IntWalk.i64_in _ (by omega)
  have s3 : IntKind.i64.wrap (a - d) = a - d := IntWalk.i64_in _ (by omega)
  have HLV := hid (show M.leaves f a true = a - d by unfold M.leaves; rw [if_pos rfl, hq, hd])
  have HLF := hid (show M.leaves f a false = a from rfl)
  cases b
  ·
   go_enter Try.func86, Try.ntmps86
   go_upto_region 1 with fail
   generalize hW0 : World.alloc _ _ = W0
   have hE0 : Ev w W0 := by rw [← hW0]; exact Ev.alloc (Ev.refl _) _
   have hal := (alloc1 w (.cells #[.int .i64 a, .bool false] 143)).1
   rw [hW0] at hal
   have HP := hid (hE0.heap HW.out)
   have HMM := hid (HM.out.keep hE0 hml)
   obtain ⟨x0, x1⟩ := cells2 hal
   have z11 : W0.cell? ⟨p, 11, none⟩ = some (.map (some mb)) := (cell_in HP.out 11).trans rfl
   have z7 : W0.cell? ⟨p, 7, none⟩ = some (.int .i64 f.trod) := (cell_in HP.out 7).trans rfl
   have hpw : p < W0.heap.size := heap_lt HP.out
   have hww : w.heap.size < W0.heap.size := heap_lt hal
   clear hW0 hal
   refine wp_region_held_drew (S := fun w' => (∀ o, w'.cell? ⟨p, o, none⟩ = W0.cell? ⟨p, o, none⟩) ∧ (∀ o, w'.cell? ⟨w.heap.size, o, none⟩ = W0.cell? ⟨w.heap.size, o, none⟩) ∧ MapIs Try.prog 143 w' mb g) (by kernel_rfl) ⟨fun o => rfl, fun o => rfl, HMM.out.same rfl⟩ (fun hHeld => ?_)
   refine wpAnyH_take (i := 0) (v := ?_) rfl (by kernel_rfl) (by kernel_rfl) (by kernel_rfl) (fun _ _ _ h => h) (Or.inl ⟨by rfl, ?hy⟩) (by assumption) ?_
   case hy => (intro w hSw; (try dsimp only at hSw); go_simp; with_reducible rfl)
   (try simp only [Act.put, List.setIfInBounds_toArray, List.set_cons_zero, List.set_cons_succ])
   refine wpAnyH_take (i := 1) (v := ?_) rfl (by kernel_rfl) (by kernel_rfl) (by kernel_rfl) (fun _ _ _ h => h) (Or.inl ⟨by rfl, ?hy⟩) (by assumption) ?_
   case hy => (intro w hSw; (try dsimp only at hSw); go_simp; with_reducible rfl)
   (try simp only [Act.put, List.setIfInBounds_toArray, List.set_cons_zero, List.set_cons_succ])
   refine wpAnyH_take (i := 2) (v := ?_) rfl (by kernel_rfl) (by kernel_rfl) (by kernel_rfl) (fun _ _ _ h => h) (Or.inl ⟨by rfl, ?hy⟩) (by assumption) ?_
   case hy => (intro w hSw; (try dsimp only at hSw); go_simp; with_reducible rfl)
   (try simp only [Act.put, List.setIfInBounds_toArray, List.set_cons_zero, List.set_cons_succ])
   refine wpAnyH_take (i := 3) (v := ?_) rfl (by kernel_rfl) (by kernel_rfl) (by kernel_rfl) (fun _ _ _ h => h) (Or.inl ⟨by rfl, ?hy⟩) (by assumption) ?_
   case hy => (intro w hSw; (try dsimp only at hSw); go_simp; with_reducible rfl)
   (try simp only [Act.put, List.setIfInBounds_toArray, List.set_cons_zero, List.set_cons_succ])
   refine wpAnyH_take (i := 4) (v := ?_) rfl (by kernel_rfl) (by kernel_rfl) (by kernel_rfl) (fun _ _ _ h => h) (Or.inl ⟨by rfl, ?hy⟩) (by assumption) ?_
   case hy => (intro w hSw; (try dsimp only at hSw); go_simp; with_reducible rfl)
   (try simp only [Act.put, List.setIfInBounds_toArray, List.set_cons_zero, List.set_cons_succ])
   refine wpAnyH_take (i := 5) (v := ?_) rfl (by kernel_rfl) (by kernel_rfl) (by kernel_rfl) (fun _ _ _ h => h) (Or.inl ⟨by rfl, ?hy⟩) (by assumption) ?_
   case hy => (intro w hSw; (try dsimp only at hSw); have hlk5 := HLK.out _ hSw.2.2; go_simp; with_reducible rfl)
   (try simp only [Act.put, List.setIfInBounds_toArray, List.set_cons_zero, List.set_cons_succ])
   refine wpAnyH_take (i := 6) (v := ?_) rfl (by kernel_rfl) (by kernel_rfl) (by kernel_rfl) (fun _ _ _ h => h) (Or.inl ⟨by rfl, ?hy⟩) (by assumption) ?_
   case hy => (intro w hSw; (try dsimp only at hSw); go_simp; with_reducible rfl)
   (try simp only [Act.put, List.setIfInBounds_toArray, List.set_cons_zero, List.set_cons_succ])
   refine wpAnyH_take (i := 7) (v := ?_) rfl (by kernel_rfl) (by kernel_rfl) (by kernel_rfl) (fun _ _ _ h => h) (Or.inl ⟨by rfl, ?hy⟩) (by assumption) ?_
   case hy => (intro w hSw; (try dsimp only at hSw); go_simp; with_reducible rfl)
   (try simp only [Act.put, List.setIfInBounds_toArray, List.set_cons_zero, List.set_cons_succ])
   refine wpAnyH_take (i := 8) (v := ?_) rfl (by kernel_rfl) (by kernel_rfl) (by kernel_rfl) (fun _ _ _ h => h) (Or.inl ⟨by rfl, ?hy⟩) (by assumption) ?_
   case hy => (intro w hSw; (try dsimp only at hSw); go_simp; with_reducible rfl)
   (try simp only [Act.put, List.setIfInBounds_toArray, List.set_cons_zero, List.set_cons_succ])
   refine wpAnyH_take (i := 9) (v := ?_) rfl (by kernel_rfl) (by kernel_rfl) (by kernel_rfl) (fun _ _ _ h => h) (Or.inl ⟨by rfl, ?hy⟩) (by assumption) ?_
   case hy => (intro w hSw; (try dsimp only at hSw); go_simp; with_reducible rfl)
   (try simp only [Act.put, List.setIfInBounds_toArray, List.set_cons_zero, List.set_cons_succ])
   refine wpAnyH_take (i := 10) (v := ?_) rfl (by kernel_rfl) (by kernel_rfl) (by kernel_rfl) (fun _ _ _ h => h) (Or.inl ⟨by rfl, ?hy⟩) (by assumption) ?_
   case hy => (intro w hSw; (try dsimp only at hSw); go_simp; with_reducible rfl)
   (try simp only [Act.put, List.setIfInBounds_toArray, List.set_cons_zero, List.set_cons_succ])
   refine wpAnyH_done (by kernel_rfl) ?_ _
   go_upto_region 6 with fail
   generalize hW6 : World.drew _ = W6
   have hE6 : Ev W0 W6 := by rw [← hW6]; exact Ev.drew (Ev.refl _)
   have hE6w := hE0.trans hE6
   have y0 : W6.cell? ⟨w.heap.size, 0, none⟩ = some (.int .i64 a) := (hE6.cells.1 _ _ hww).trans x0
   have y1 : W6.cell? ⟨w.heap.size, 1, none⟩ = some (.bool false) := (hE6.cells.1 _ _ hww).trans x1
   have y11 : W6.cell? ⟨p, 11, none⟩ = some (.map (some mb)) := (hE6.cells.1 _ _ hpw).trans z11
   have hM6 : MapIs Try.prog 143 W6.drew mb g := (HMM.out.keep hE6 (HMM.out.lt)).same rfl
   obtain ⟨w7, hrun, hM7, hgr⟩ := hM6.update law151 Try.underlying134 hkey (v := .int .i64 (a))
   have HM7 := hid hM7
   have HGR := hid hgr
   have hpw6 : p < W6.heap.size := by have := hE6.size; omega
   have hww6 : w.heap.size < W6.heap.size := by have := hE6.size; omega
   have HS7 : Hid ((∀ o, w7.cell? ⟨p, o, none⟩ = W6.cell? ⟨p, o, none⟩) ∧ (∀ o, w7.cell? ⟨w.heap.size, o, none⟩ = W6.cell? ⟨w.heap.size, o, none⟩)) := hid ⟨fun o => (Mo.cells (show Mo mb W6.drew w7 from hgr)).1 p o hpw6 hpm, fun o => (Mo.cells (show Mo mb W6.drew w7 from hgr)).1 w.heap.size o hww6 (by omega)⟩
   clear hM6 hM7 hgr hW6 x0 x1 z11 z7
   refine wp_region_held_drew (S := fun w' => (∀ o, w'.cell? ⟨p, o, none⟩ = W6.cell? ⟨p, o, none⟩) ∧ (∀ o, w'.cell? ⟨w.heap.size, o, none⟩ = W6.cell? ⟨w.heap.size, o, none⟩)) (by kernel_rfl) ⟨fun o => rfl, fun o => rfl⟩ (fun hHeld => ?_)
   refine wpAnyH_take (i := 0) (v := ?_) rfl (by kernel_rfl) (by kernel_rfl) (by kernel_rfl) (fun _ _ _ h => h) (Or.inl ⟨by rfl, ?hy⟩) (by assumption) ?_
   case hy => (intro w hSw; (try dsimp only at hSw); go_simp; with_reducible rfl)
   (try simp only [Act.put, List.setIfInBounds_toArray, List.set_cons_zero, List.set_cons_succ])
   refine wpAnyH_take (i := 1) (v := ?_) rfl (by kernel_rfl) (by kernel_rfl) (by kernel_rfl) (fun _ _ _ h => h) (Or.inl ⟨by rfl, ?hy⟩) (by assumption) ?_
   case hy => (intro w hSw; (try dsimp only at hSw); go_simp; with_reducible rfl)
   (try simp only [Act.put, List.setIfInBounds_toArray, List.set_cons_zero, List.set_cons_succ])
   refine wpAnyH_take (i := 2) (v := ?_) rfl (by kernel_rfl) (by kernel_rfl) (by kernel_rfl) (fun _ _ _ h => h) (Or.inl ⟨by rfl, ?hy⟩) (by assumption) ?_
   case hy => (intro w hSw; (try dsimp only at hSw); go_simp; with_reducible rfl)
   (try simp only [Act.put, List.setIfInBounds_toArray, List.set_cons_zero, List.set_cons_succ])
   refine wpAnyH_take (i := 3) (v := ?_) rfl (by kernel_rfl) (by kernel_rfl) (by kernel_rfl) (fun _ _ _ h => h) (Or.inl ⟨by rfl, ?hy⟩) (by assumption) ?_
   case hy => (intro w hSw; (try dsimp only at hSw); go_simp; with_reducible rfl)
   (try simp only [Act.put, List.setIfInBounds_toArray, List.set_cons_zero, List.set_cons_succ])
   refine wpAnyH_take (i := 4) (v := ?_) rfl (by kernel_rfl) (by kernel_rfl) (by kernel_rfl) (fun _ _ _ h => h) (Or.inl ⟨by rfl, ?hy⟩) (by assumption) ?_
   case hy => (intro w hSw; (try dsimp only at hSw); go_simp; with_reducible rfl)
   (try simp only [Act.put, List.setIfInBounds_toArray, List.set_cons_zero, List.set_cons_succ])
   refine wpAnyH_take (i := 5) (v := ?_) rfl (by kernel_rfl) (by kernel_rfl) (by kernel_rfl) (fun _ _ _ h => h) (Or.inl ⟨by rfl, ?hy⟩) (by assumption) ?_
   case hy => (intro w hSw; (try dsimp only at hSw); go_simp; with_reducible rfl)
   (try simp only [Act.put, List.setIfInBounds_toArray, List.set_cons_zero, List.set_cons_succ])
   refine wpAnyH_ready (rs := [6]) (by kernel_rfl) (by simp) ?_
   refine AllReadyH.cons rfl (fun K hK => ?_) AllReadyH.nil
   go_simp
   refine hK.out _ _ (HS7.out) (fun hHeld => ?_)
   clear hK K
   (try simp only [Act.put, List.setIfInBounds_toArray, List.set_cons_zero, List.set_cons_succ])
   refine wpAnyH_done (by kernel_rfl) ?_ _
   go_wp2_with fail
   go_ret
   refine ⟨by rw [HLF.out]; rfl, ⟨_, ?_, HM7.out⟩, (Mo.ev (Ev.drew hE6w)).trans (show Mo mb W6.drew w7 from HGR.out)⟩
   rw [← HLF.out]
   exact HG.out.put a false
  ·
   go_enter Try.func86, Try.ntmps86
   go_upto_region 1 with fail
   generalize hW0 : World.alloc _ _ = W0
   have hE0 : Ev w W0 := by rw [← hW0]; exact Ev.alloc (Ev.refl _) _
   have hal := (alloc1 w (.cells #[.int .i64 a, .bool true] 143)).1
   rw [hW0] at hal
   have HP := hid (hE0.heap HW.out)
   have HMM := hid (HM.out.keep hE0 hml)
   obtain ⟨x0, x1⟩ := cells2 hal
   have z11 : W0.cell? ⟨p, 11, none⟩ = some (.map (some mb)) := (cell_in HP.out 11).trans rfl
   have z7 : W0.cell? ⟨p, 7, none⟩ = some (.int .i64 f.trod) := (cell_in HP.out 7).trans rfl
   have hpw : p < W0.heap.size := heap_lt HP.out
   have hww : w.heap.size < W0.heap.size := heap_lt hal
   clear hW0 hal
   refine wp_region_held_drew (S := fun w' => (∀ o, w'.cell? ⟨p, o, none⟩ = W0.cell? ⟨p, o, none⟩) ∧ (∀ o, w'.cell? ⟨w.heap.size, o, none⟩ = W0.cell? ⟨w.heap.size, o, none⟩) ∧ MapIs Try.prog 143 w' mb g) (by kernel_rfl) ⟨fun o => rfl, fun o => rfl, HMM.out.same rfl⟩ (fun hHeld => ?_)
   refine wpAnyH_take (i := 0) (v := ?_) rfl (by kernel_rfl) (by kernel_rfl) (by kernel_rfl) (fun _ _ _ h => h) (Or.inl ⟨by rfl, ?hy⟩) (by assumption) ?_
   case hy => (intro w hSw; (try dsimp only at hSw); go_simp; with_reducible rfl)
   (try simp only [Act.put, List.setIfInBounds_toArray, List.set_cons_zero, List.set_cons_succ])
   refine wpAnyH_take (i := 1) (v := ?_) rfl (by kernel_rfl) (by kernel_rfl) (by kernel_rfl) (fun _ _ _ h => h) (Or.inl ⟨by rfl, ?hy⟩) (by assumption) ?_
   case hy => (intro w hSw; (try dsimp only at hSw); go_simp; with_reducible rfl)
   (try simp only [Act.put, List.setIfInBounds_toArray, List.set_cons_zero, List.set_cons_succ])
   refine wpAnyH_take (i := 2) (v := ?_) rfl (by kernel_rfl) (by kernel_rfl) (by kernel_rfl) (fun _ _ _ h => h) (Or.inl ⟨by rfl, ?hy⟩) (by assumption) ?_
   case hy => (intro w hSw; (try dsimp only at hSw); go_simp; with_reducible rfl)
   (try simp only [Act.put, List.setIfInBounds_toArray, List.set_cons_zero, List.set_cons_succ])
   refine wpAnyH_take (i := 3) (v := ?_) rfl (by kernel_rfl) (by kernel_rfl) (by kernel_rfl) (fun _ _ _ h => h) (Or.inl ⟨by rfl, ?hy⟩) (by assumption) ?_
   case hy => (intro w hSw; (try dsimp only at hSw); go_simp; with_reducible rfl)
   (try simp only [Act.put, List.setIfInBounds_toArray, List.set_cons_zero, List.set_cons_succ])
   refine wpAnyH_take (i := 4) (v := ?_) rfl (by kernel_rfl) (by kernel_rfl) (by kernel_rfl) (fun _ _ _ h => h) (Or.inl ⟨by rfl, ?hy⟩) (by assumption) ?_
   case hy => (intro w hSw; (try dsimp only at hSw); go_simp; with_reducible rfl)
   (try simp only [Act.put, List.setIfInBounds_toArray, List.set_cons_zero, List.set_cons_succ])
   refine wpAnyH_take (i := 5) (v := ?_) rfl (by kernel_rfl) (by kernel_rfl) (by kernel_rfl) (fun _ _ _ h => h) (Or.inl ⟨by rfl, ?hy⟩) (by assumption) ?_
   case hy => (intro w hSw; (try dsimp only at hSw); have hlk5 := HLK.out _ hSw.2.2; go_simp; with_reducible rfl)
   (try simp only [Act.put, List.setIfInBounds_toArray, List.set_cons_zero, List.set_cons_succ])
   refine wpAnyH_take (i := 6) (v := ?_) rfl (by kernel_rfl) (by kernel_rfl) (by kernel_rfl) (fun _ _ _ h => h) (Or.inl ⟨by rfl, ?hy⟩) (by assumption) ?_
   case hy => (intro w hSw; (try dsimp only at hSw); go_simp; with_reducible rfl)
   (try simp only [Act.put, List.setIfInBounds_toArray, List.set_cons_zero, List.set_cons_succ])
   refine wpAnyH_take (i := 7) (v := ?_) rfl (by kernel_rfl) (by kernel_rfl) (by kernel_rfl) (fun _ _ _ h => h) (Or.inl ⟨by rfl, ?hy⟩) (by assumption) ?_
   case hy => (intro w hSw; (try dsimp only at hSw); go_simp; with_reducible rfl)
   (try simp only [Act.put, List.setIfInBounds_toArray, List.set_cons_zero, List.set_cons_succ])
   refine wpAnyH_take (i := 8) (v := ?_) rfl (by kernel_rfl) (by kernel_rfl) (by kernel_rfl) (fun _ _ _ h => h) (Or.inl ⟨by rfl, ?hy⟩) (by assumption) ?_
   case hy => (intro w hSw; (try dsimp only at hSw); go_simp; with_reducible rfl)
   (try simp only [Act.put, List.setIfInBounds_toArray, List.set_cons_zero, List.set_cons_succ])
   refine wpAnyH_take (i := 9) (v := ?_) rfl (by kernel_rfl) (by kernel_rfl) (by kernel_rfl) (fun _ _ _ h => h) (Or.inl ⟨by rfl, ?hy⟩) (by assumption) ?_
   case hy => (intro w hSw; (try dsimp only at hSw); go_simp; with_reducible rfl)
   (try simp only [Act.put, List.setIfInBounds_toArray, List.set_cons_zero, List.set_cons_succ])
   refine wpAnyH_take (i := 10) (v := ?_) rfl (by kernel_rfl) (by kernel_rfl) (by kernel_rfl) (fun _ _ _ h => h) (Or.inl ⟨by rfl, ?hy⟩) (by assumption) ?_
   case hy => (intro w hSw; (try dsimp only at hSw); go_simp; with_reducible rfl)
   (try simp only [Act.put, List.setIfInBounds_toArray, List.set_cons_zero, List.set_cons_succ])
   refine wpAnyH_done (by kernel_rfl) ?_ _
   go_upto_region 5 with fail
   refine wp_region_held_drew (S := fun w' => (∀ o, w'.cell? ⟨p, o, none⟩ = W0.cell? ⟨p, o, none⟩) ∧ (∀ o, w'.cell? ⟨w.heap.size, o, none⟩ = W0.cell? ⟨w.heap.size, o, none⟩)) (by kernel_rfl) ⟨fun o => rfl, fun o => rfl⟩ (fun hHeld => ?_)
   refine wpAnyH_take (i := 0) (v := ?_) rfl (by kernel_rfl) (by kernel_rfl) (by kernel_rfl) (fun _ _ _ h => h) (Or.inl ⟨by rfl, ?hy⟩) (by assumption) ?_
   case hy => (intro w hSw; (try dsimp only at hSw); go_simp; with_reducible rfl)
   (try simp only [Act.put, List.setIfInBounds_toArray, List.set_cons_zero, List.set_cons_succ])
   refine wpAnyH_take (i := 1) (v := ?_) rfl (by kernel_rfl) (by kernel_rfl) (by kernel_rfl) (fun _ _ _ h => h) (Or.inl ⟨by rfl, ?hy⟩) (by assumption) ?_
   case hy => (intro w hSw; (try dsimp only at hSw); go_simp; with_reducible rfl)
   (try simp only [Act.put, List.setIfInBounds_toArray, List.set_cons_zero, List.set_cons_succ])
   refine wpAnyH_take (i := 2) (v := ?_) rfl (by kernel_rfl) (by kernel_rfl) (by kernel_rfl) (fun _ _ _ h => h) (Or.inl ⟨by rfl, ?hy⟩) (by assumption) ?_
   case hy => (intro w hSw; (try dsimp only at hSw); go_simp; with_reducible rfl)
   (try simp only [Act.put, List.setIfInBounds_toArray, List.set_cons_zero, List.set_cons_succ])
   refine wpAnyH_take (i := 3) (v := ?_) rfl (by kernel_rfl) (by kernel_rfl) (by kernel_rfl) (fun _ _ _ h => h) (Or.inl ⟨by rfl, ?hy⟩) (by assumption) ?_
   case hy => (intro w hSw; (try dsimp only at hSw); go_simp; with_reducible rfl)
   (try simp only [Act.put, List.setIfInBounds_toArray, List.set_cons_zero, List.set_cons_succ])
   refine wpAnyH_take (i := 4) (v := ?_) rfl (by kernel_rfl) (by kernel_rfl) (by kernel_rfl) (fun _ _ _ h => h) (Or.inl ⟨by rfl, ?hy⟩) (by assumption) ?_
   case hy => (intro w hSw; (try dsimp only at hSw); go_simp; with_reducible rfl)
   (try simp only [Act.put, List.setIfInBounds_toArray, List.set_cons_zero, List.set_cons_succ])
   refine wpAnyH_take (i := 5) (v := ?_) rfl (by kernel_rfl) (by kernel_rfl) (by kernel_rfl) (fun _ _ _ h => h) (Or.inl ⟨by rfl, ?hy⟩) (by assumption) ?_
   case hy => (intro w hSw; (try dsimp only at hSw); go_simp; with_reducible rfl)
   (try simp only [Act.put, List.setIfInBounds_toArray, List.set_cons_zero, List.set_cons_succ])
   refine wpAnyH_take (i := 6) (v := ?_) rfl (by kernel_rfl) (by kernel_rfl) (by kernel_rfl) (fun _ _ _ h => h) (Or.inl ⟨by rfl, ?hy⟩) (by assumption) ?_
   case hy => (intro w hSw; (try dsimp only at hSw); go_simp; with_reducible rfl)
   (try simp only [Act.put, List.setIfInBounds_toArray, List.set_cons_zero, List.set_cons_succ])
   refine wpAnyH_take (i := 7) (v := ?_) rfl (by kernel_rfl) (by kernel_rfl) (by kernel_rfl) (fun _ _ _ h => h) (Or.inl ⟨by rfl, ?hy⟩) (by assumption) ?_
   case hy => (intro w hSw; (try dsimp only at hSw); go_simp; with_reducible rfl)
   (try simp only [Act.put, List.setIfInBounds_toArray, List.set_cons_zero, List.set_cons_succ])
   refine wpAnyH_take (i := 8) (v := ?_) rfl (by kernel_rfl) (by kernel_rfl) (by kernel_rfl) (fun _ _ _ h => h) (Or.inl ⟨by rfl, ?hy⟩) (by assumption) ?_
   case hy => (intro w hSw; (try dsimp only at hSw); go_simp; with_reducible rfl)
   (try simp only [Act.put, List.setIfInBounds_toArray, List.set_cons_zero, List.set_cons_succ])
   refine wpAnyH_take (i := 9) (v := ?_) rfl (by kernel_rfl) (by kernel_rfl) (by kernel_rfl) (fun _ _ _ h => h) (Or.inl ⟨by rfl, ?hy⟩) (by assumption) ?_
   case hy => (intro w hSw; (try dsimp only at hSw); go_simp; with_reducible rfl)
   (try simp only [Act.put, List.setIfInBounds_toArray, List.set_cons_zero, List.set_cons_succ])
   refine wpAnyH_take (i := 10) (v := ?_) rfl (by kernel_rfl) (by kernel_rfl) (by kernel_rfl) (fun _ _ _ h => h) (Or.inl ⟨by rfl, ?hy⟩) (by assumption) ?_
   case hy => (intro w hSw; (try dsimp only at hSw); go_simp; with_reducible rfl)
   (try simp only [Act.put, List.setIfInBounds_toArray, List.set_cons_zero, List.set_cons_succ])
   refine wpAnyH_take (i := 11) (v := ?_) rfl (by kernel_rfl) (by kernel_rfl) (by kernel_rfl) (fun _ _ _ h => h) (Or.inl ⟨by rfl, ?hy⟩) (by assumption) ?_
   case hy => (intro w hSw; (try dsimp only at hSw); go_simp; with_reducible rfl)
   (try simp only [Act.put, List.setIfInBounds_toArray, List.set_cons_zero, List.set_cons_succ])
   refine wpAnyH_done (by kernel_rfl) ?_ _
   go_upto_region 6 with fail
   generalize hW6 : World.drew (World.drew _) = W6
   have hE6 : Ev W0 W6 := by rw [← hW6]; exact Ev.drew (Ev.drew (Ev.refl _))
   have hE6w := hE0.trans hE6
   have y0 : W6.cell? ⟨w.heap.size, 0, none⟩ = some (.int .i64 a) := (hE6.cells.1 _ _ hww).trans x0
   have y1 : W6.cell? ⟨w.heap.size, 1, none⟩ = some (.bool true) := (hE6.cells.1 _ _ hww).trans x1
   have y11 : W6.cell? ⟨p, 11, none⟩ = some (.map (some mb)) := (hE6.cells.1 _ _ hpw).trans z11
   have hM6 : MapIs Try.prog 143 W6.drew mb g := (HMM.out.keep hE6 (HMM.out.lt)).same rfl
   obtain ⟨w7, hrun, hM7, hgr⟩ := hM6.update law151 Try.underlying134 hkey (v := .int .i64 (a - d))
   have HM7 := hid hM7
   have HGR := hid hgr
   have hpw6 : p < W6.heap.size := by have := hE6.size; omega
   have hww6 : w.heap.size < W6.heap.size := by have := hE6.size; omega
   have HS7 : Hid ((∀ o, w7.cell? ⟨p, o, none⟩ = W6.cell? ⟨p, o, none⟩) ∧ (∀ o, w7.cell? ⟨w.heap.size, o, none⟩ = W6.cell? ⟨w.heap.size, o, none⟩)) := hid ⟨fun o => (Mo.cells (show Mo mb W6.drew w7 from hgr)).1 p o hpw6 hpm, fun o => (Mo.cells (show Mo mb W6.drew w7 from hgr)).1 w.heap.size o hww6 (by omega)⟩
   clear hM6 hM7 hgr hW6 x0 x1 z11 z7
   refine wp_region_held_drew (S := fun w' => (∀ o, w'.cell? ⟨p, o, none⟩ = W6.cell? ⟨p, o, none⟩) ∧ (∀ o, w'.cell? ⟨w.heap.size, o, none⟩ = W6.cell? ⟨w.heap.size, o, none⟩)) (by kernel_rfl) ⟨fun o => rfl, fun o => rfl⟩ (fun hHeld => ?_)
   refine wpAnyH_take (i := 0) (v := ?_) rfl (by kernel_rfl) (by kernel_rfl) (by kernel_rfl) (fun _ _ _ h => h) (Or.inl ⟨by rfl, ?hy⟩) (by assumption) ?_
   case hy => (intro w hSw; (try dsimp only at hSw); go_simp; with_reducible rfl)
   (try simp only [Act.put, List.setIfInBounds_toArray, List.set_cons_zero, List.set_cons_succ])
   refine wpAnyH_take (i := 1) (v := ?_) rfl (by kernel_rfl) (by kernel_rfl) (by kernel_rfl) (fun _ _ _ h => h) (Or.inl ⟨by rfl, ?hy⟩) (by assumption) ?_
   case hy => (intro w hSw; (try dsimp only at hSw); go_simp; with_reducible rfl)
   (try simp only [Act.put, List.setIfInBounds_toArray, List.set_cons_zero, List.set_cons_succ])
   refine wpAnyH_take (i := 2) (v := ?_) rfl (by kernel_rfl) (by kernel_rfl) (by kernel_rfl) (fun _ _ _ h => h) (Or.inl ⟨by rfl, ?hy⟩) (by assumption) ?_
   case hy => (intro w hSw; (try dsimp only at hSw); go_simp; with_reducible rfl)
   (try simp only [Act.put, List.setIfInBounds_toArray, List.set_cons_zero, List.set_cons_succ])
   refine wpAnyH_take (i := 3) (v := ?_) rfl (by kernel_rfl) (by kernel_rfl) (by kernel_rfl) (fun _ _ _ h => h) (Or.inl ⟨by rfl, ?hy⟩) (by assumption) ?_
   case hy => (intro w hSw; (try dsimp only at hSw); go_simp; with_reducible rfl)
   (try simp only [Act.put, List.setIfInBounds_toArray, List.set_cons_zero, List.set_cons_succ])
   refine wpAnyH_take (i := 4) (v := ?_) rfl (by kernel_rfl) (by kernel_rfl) (by kernel_rfl) (fun _ _ _ h => h) (Or.inl ⟨by rfl, ?hy⟩) (by assumption) ?_
   case hy => (intro w hSw; (try dsimp only at hSw); go_simp; with_reducible rfl)
   (try simp only [Act.put, List.setIfInBounds_toArray, List.set_cons_zero, List.set_cons_succ])
   refine wpAnyH_take (i := 5) (v := ?_) rfl (by kernel_rfl) (by kernel_rfl) (by kernel_rfl) (fun _ _ _ h => h) (Or.inl ⟨by rfl, ?hy⟩) (by assumption) ?_
   case hy => (intro w hSw; (try dsimp only at hSw); go_simp; with_reducible rfl)
   (try simp only [Act.put, List.setIfInBounds_toArray, List.set_cons_zero, List.set_cons_succ])
   refine wpAnyH_ready (rs := [6]) (by kernel_rfl) (by simp) ?_
   refine AllReadyH.cons rfl (fun K hK => ?_) AllReadyH.nil
   go_simp
   refine hK.out _ _ (HS7.out) (fun hHeld => ?_)
   clear hK K
   (try simp only [Act.put, List.setIfInBounds_toArray, List.set_cons_zero, List.set_cons_succ])
   refine wpAnyH_done (by kernel_rfl) ?_ _
   go_wp2_with fail
   go_ret
   refine ⟨by rw [HLV.out]; rfl, ⟨_, ?_, HM7.out⟩, (Mo.ev (Ev.drew hE6w)).trans (show Mo mb W6.drew w7 from HGR.out)⟩
   rw [← HLV.out]
   exact HG.out.put a true

end Go.Proofs.Ytffbkbcjddigdaa
