import Derived.Test.YtffbkbcjddigdaaA6
set_option linter.unusedSimpArgs false
set_option linter.unusedVariables false
namespace Go.Proofs.Ytffbkbcjddigdaa
open Go.RowKit

theorem M.idx_in (v : Int) : ∀ (xs : List Int) (k : Int), 0 ≤ k → (0 ≤ M.idx v xs k ↔ v ∈ xs)
  | [], k, hk => by simp [M.idx]
  | y :: r, k, hk => by
    unfold M.idx
    by_cases h : v = y
    · rw [if_pos h]; simp [h, hk]
    · rw [if_neg h, M.idx_in v r (k + 1) (by omega)]; simp [h]

set_option maxRecDepth 100000 in
set_option maxHeartbeats 1000000 in
theorem contains_c (A : Option Addr) (n c : Nat) (xs : List Int) (v : Int) (w : World) (hs : Sl ics 1 w w.heap.size A n c xs) :
    Calls Try.prog 88 #[.slice A n c, .int .i64 v] w fun e w' => e = .returned (.bool (decide (v ∈ xs))) ∧ Ev w w' := by
  have h1 := fun W (hE : Ev w W) => idx_c A n c xs v W (hs.ev hE)
  have hi := M.idx_in v xs 0 (Int.le_refl _)
  generalize M.idx v xs 0 = x at h1 hi
  have H1 := hid h1
  clear h1 hs
  by_cases h : 0 ≤ x
  · have h' : x ≥ 0 := h
    have HD := hid (decide_eq_true (hi.1 h))
    clear hi
    go_enter Try.func88, Try.ntmps88
    go_wp2_with (go_at_call 80; with_reducible refine (H1.out _ (Ev.refl _)).mono ?_; rintro e w1 ⟨rfl, hb1⟩)
    go_ret
    exact ⟨ret_bool HD.out.symm, hb1⟩
  · have h' : ¬ (x ≥ 0) := h
    have h'' : x < 0 := by omega
    have HD := hid (decide_eq_false (fun q => h (hi.2 q)))
    clear hi
    go_enter Try.func88, Try.ntmps88
    go_wp2_with (go_at_call 80; with_reducible refine (H1.out _ (Ev.refl _)).mono ?_; rintro e w1 ⟨rfl, hb1⟩)
    go_ret
    exact ⟨ret_bool (by rw [HD.out]; first | rfl | (simp; omega)), hb1⟩

/-- The weights on the field of some weeks, of which the first has the number k. -/
def M.wK (plan : List Int) : List Int → Nat → Int → List Int
  | [], _, _ => []
  | g :: gs, k, m => (m + g) :: M.wK plan gs (k + 1) (if (k : Int) ∈ plan then 0 else m + g)
def M.weights (gs plan : List Int) : List Int := M.wK plan gs 0 0 ++ List.replicate (10 - gs.length) 0
theorem M.wK_len (plan : List Int) : ∀ (gs : List Int) (k : Nat) (m : Int), (M.wK plan gs k m).length = gs.length
  | [], _, _ => rfl
  | g :: gs, k, m => by rw [M.wK, List.length_cons, List.length_cons, M.wK_len plan gs]

theorem list10 {l : List Int} (h : l.length = 10) : ∃ a0 a1 a2 a3 a4 a5 a6 a7 a8 a9, l = [a0, a1, a2, a3, a4, a5, a6, a7, a8, a9] := by
  match l, h with
  | [a0, a1, a2, a3, a4, a5, a6, a7, a8, a9], _ => exact ⟨a0, a1, a2, a3, a4, a5, a6, a7, a8, a9, rfl⟩
theorem cells10 {W : World} {b : Nat} {t : TypeId} {v0 v1 v2 v3 v4 v5 v6 v7 v8 v9 : Value} (h : W.heap[b]? = some (.cells #[v0, v1, v2, v3, v4, v5, v6, v7, v8, v9] t (0, 0))) :
    W.cell? ⟨b, 0, none⟩ = some v0 ∧ W.cell? ⟨b, 1, none⟩ = some v1 ∧ W.cell? ⟨b, 2, none⟩ = some v2 ∧ W.cell? ⟨b, 3, none⟩ = some v3 ∧ W.cell? ⟨b, 4, none⟩ = some v4 ∧ W.cell? ⟨b, 5, none⟩ = some v5 ∧ W.cell? ⟨b, 6, none⟩ = some v6 ∧ W.cell? ⟨b, 7, none⟩ = some v7 ∧ W.cell? ⟨b, 8, none⟩ = some v8 ∧ W.cell? ⟨b, 9, none⟩ = some v9 :=
  ⟨cell_in h 0, cell_in h 1, cell_in h 2, cell_in h 3, cell_in h 4, cell_in h 5, cell_in h 6, cell_in h 7, cell_in h 8, cell_in h 9⟩
theorem frz10 {W : World} {b : Nat} {cs : Array Value} {t : TypeId} (h : W.heap[b]? = some (.cells cs t (0, 0))) : W.frozen? ⟨b, 0, none⟩ = false ∧ W.frozen? ⟨b, 1, none⟩ = false ∧ W.frozen? ⟨b, 2, none⟩ = false ∧ W.frozen? ⟨b, 3, none⟩ = false ∧ W.frozen? ⟨b, 4, none⟩ = false ∧ W.frozen? ⟨b, 5, none⟩ = false ∧ W.frozen? ⟨b, 6, none⟩ = false ∧ W.frozen? ⟨b, 7, none⟩ = false ∧ W.frozen? ⟨b, 8, none⟩ = false ∧ W.frozen? ⟨b, 9, none⟩ = false :=
  ⟨frozen_in h 0, frozen_in h 1, frozen_in h 2, frozen_in h 3, frozen_in h 4, frozen_in h 5, frozen_in h 6, frozen_in h 7, frozen_in h 8, frozen_in h 9⟩
theorem set10 {W : World} {b : Nat} {t : TypeId} {z0 z1 z2 z3 z4 z5 z6 z7 z8 z9 v0 v1 v2 v3 v4 v5 v6 v7 v8 v9 : Value} (h : W.heap[b]? = some (.cells #[z0, z1, z2, z3, z4, z5, z6, z7, z8, z9] t (0, 0))) :
    ((((((((((W.setCell ⟨b, 0, none⟩ v0).setCell ⟨b, 1, none⟩ v1).setCell ⟨b, 2, none⟩ v2).setCell ⟨b, 3, none⟩ v3).setCell ⟨b, 4, none⟩ v4).setCell ⟨b, 5, none⟩ v5).setCell ⟨b, 6, none⟩ v6).setCell ⟨b, 7, none⟩ v7).setCell ⟨b, 8, none⟩ v8).setCell ⟨b, 9, none⟩ v9).heap[b]? = some (.cells #[v0, v1, v2, v3, v4, v5, v6, v7, v8, v9] t (0, 0)) := by
  have h0 := h
  have h1 := set_heap_same (j := 0) (v := v0) h0
  have h2 := set_heap_same (j := 1) (v := v1) h1
  have h3 := set_heap_same (j := 2) (v := v2) h2
  have h4 := set_heap_same (j := 3) (v := v3) h3
  have h5 := set_heap_same (j := 4) (v := v4) h4
  have h6 := set_heap_same (j := 5) (v := v5) h5
  have h7 := set_heap_same (j := 6) (v := v6) h6
  have h8 := set_heap_same (j := 7) (v := v7) h7
  have h9 := set_heap_same (j := 8) (v := v8) h8
  have h10 := set_heap_same (j := 9) (v := v9) h9
  rw [h10]
  simp

theorem take_set_succ {l : List Int} {k : Nat} {x : Int} (h : k < l.length) : (l.set k x).take (k + 1) = l.take k ++ [x] := by
  rw [List.take_add_one, List.take_set_of_le (Nat.le_refl _), List.getElem?_set_self h]; rfl
theorem cells_set {l : List Int} {k : Nat} {x : Int} : (l.map (Value.int .i64)).toArray.setIfInBounds k (.int .i64 x) = ((l.set k x).map (Value.int .i64)).toArray := by
  simp [List.map_set]

set_option maxRecDepth 100000 in
set_option maxHeartbeats 4000000 in
theorem weights_c (f : M.Cf) (Ag Aw Ab Ac Al : Option Addr) (ng cg nw cw nb cb nc cc nl cl : Nat) (Tg Tw : Option Addr) (tg tgc tw twc : Nat) (gs : List Int) (P : Option Addr) (pn pc : Nat) (plan : List Int) (hl : f.last ≤ 9) (hgl : (tg : Int) = f.last + 1) (hgb : ∀ g ∈ gs, 0 ≤ g ∧ g ≤ 50) (w : World) (hg : Sl ics 1 w w.heap.size Tg tg tgc gs) (hp : Sl ics 1 w w.heap.size P pn pc plan) :
    Calls Try.prog 58 #[.agg #[.int .i64 f.last, .slice Ag ng cg, .slice Aw nw cw, .slice Ab nb cb, .slice Ac nc cc, .int .i64 f.ripe, .int .i64 f.late, .int .i64 f.trod, .slice Al nl cl], .agg #[.slice Tg tg tgc, .slice Tw tw twc], .slice P pn pc] w fun e w' => e = .returned (sv (M.weights gs plan)) ∧ Ev w w' := by
  have HC := hid (fun (v : Int) W (hE : Ev w W) => contains_c P pn pc plan v W (hp.ev hE))
  have HGB := hid hgb
  have htg : tg ≤ 10 := by omega
  have s0 : IntKind.i64.wrap (f.last + 1) = (tg : Int) := by rw [← hgl]; exact IntWalk.i64_in _ (by omega)
  have HGL := hid hgl
  have hgn := hg.len
  clear hp hgb hgl
  go_enter Try.func58, Try.ntmps58
  go_upto_region 3 with fail
  generalize hW0 : World.alloc _ _ = W0
  have hal := alloc3 w (.cells #[.int .i64 f.last, .slice Ag ng cg, .slice Aw nw cw, .slice Ab nb cb, .slice Ac nc cc, .int .i64 f.ripe, .int .i64 f.late, .int .i64 f.trod, .slice Al nl cl] 38) (.cells #[.slice Tg tg tgc, .slice Tw tw twc] 40) (.cells #[.int .i64 0, .int .i64 0, .int .i64 0, .int .i64 0, .int .i64 0, .int .i64 0, .int .i64 0, .int .i64 0, .int .i64 0, .int .i64 0] 111)
  have hE0 : Ev w W0 := by rw [← hW0]; exact Ev.alloc (Ev.alloc (Ev.alloc (Ev.refl _) _) _) _
  rw [hW0] at hal
  have HT := hid hal.2.1
  have HS := hid hal.2.2.1
  clear hal hW0
  go_loopw [7, 12] (fun m i wr => ∃ k : Nat, ∃ x : Int, ∃ l : List Int, m = .int .i64 x ∧ i = .int .i64 k ∧ k ≤ tg ∧ 0 ≤ x ∧ x ≤ 50 * k ∧ l.length = 10 ∧ Ev w wr ∧ Hid (wr.heap[w.heap.size + 1]? = some (.cells #[.slice Tg tg tgc, .slice Tw tw twc] 40 (0, 0))) ∧ Hid (wr.heap[w.heap.size + 1 + 1]? = some (.cells (l.map (Value.int .i64)).toArray 111 (0, 0))) ∧ Hid (l.take k ++ M.wK plan (gs.drop k) k x = M.wK plan gs 0 0) ∧ Hid (l.drop k = List.replicate (10 - k) 0)) (fun _ i _ => tg - (intOf i).toNat)
  case atStart => exact ⟨0, 0, List.replicate 10 0, rfl, rfl, by omega, by omega, by omega, by simp, hE0, HT, hid HS.out, hid rfl, hid rfl⟩
  case round =>
    obtain ⟨k, x, l, rfl, rfl, hk, hx0, hx1, hll, hB, hTr, hA, hM, hR⟩ := hrel
    have hlA := heap_lt hA.out
    have hlT := heap_lt hTr.out
    by_cases hlt : k < tg
    · obtain ⟨b, off, g, rfl, hb, hx, hd, e0⟩ := hg.int hB hlt
      have hcap := hg.cap
      have hgb2 := HGB.out g (List.mem_of_getElem? hx)
      have hM2 := hM.out
      rw [hd, M.wK] at hM2
      have HM2 := hid hM2
      clear hd hx hM2 hM
      obtain ⟨t0, t1⟩ := cells2 hTr.out
      have hkl : k < l.length := by omega
      have c0 : wr.cell? ⟨w.heap.size + 1 + 1, k, none⟩ = some (.int .i64 (l[k]'hkl)) := by rw [cell_in hA.out]; simp [List.getElem?_eq_getElem hkl]
      have f0 := frozen_in hA.out k
      have s1 : IntKind.i64.wrap (x + g) = x + g := IntWalk.i64_in _ (by omega)
      have k10 : (k : Int) < 10 := by omega
      have k0 : (0 : Int) ≤ k := by omega
      generalize l[k]'hkl = old at c0
      have hcon := fun W hE => HC.out (k : Int) W hE
      have hXA : ∀ z : Int, wr.heap[w.heap.size + 1 + 1]? = some (.cells (l.map (Value.int .i64)).toArray 111 (0, 0)) → (wr.setCell ⟨w.heap.size + 1 + 1, k, none⟩ (.int .i64 z)).heap[w.heap.size + 1 + 1]? = some (.cells ((l.set k z).map (Value.int .i64)).toArray 111 (0, 0)) := fun z h => by rw [set_heap_same h, cells_set]
      have HXA := hid (hXA (x + g) hA.out)
      have HTA := hid (set_heap (b := w.heap.size + 1 + 1) (j := k) (v := .int .i64 (x + g)) hTr.out (by omega))
      have HEA := hid (Ev.setCell hB (p := ⟨w.heap.size + 1 + 1, k, none⟩) (by simp; omega) (.int .i64 (x + g)))
      have HLL := hid hll
      have HRR := hid (show (l.set k (x + g)).drop (k + 1) = List.replicate (10 - (k + 1)) 0 by
        rw [List.drop_set_of_lt (by omega), ← List.drop_drop, hR.out, List.drop_replicate]; congr 1)
      have HTT := hid (take_set_succ (x := x + g) hkl)
      clear hXA hll
      cases hin : decide ((k : Int) ∈ plan) with
      | true =>
        have hin' : (k : Int) ∈ plan := by simpa using hin
        have HC2 := hid (fun W hE => by have := hcon W hE; rw [hin] at this; exact this)
        rw [if_pos hin'] at HM2
        clear hcon hin hin'
        go_wp2_with (go_at_call 88; with_reducible refine (HC2.out _ HEA.out).mono ?_; rintro e w1 ⟨rfl, hb1⟩)
        refine ⟨⟨k + 1, 0, l.set k (x + g), rfl, by go_num, by omega, by omega, by omega, by rw [List.length_set]; exact HLL.out, HEA.out.trans hb1, hid (hb1.heap HTA.out), hid (hb1.heap HXA.out), hid ?_, HRR⟩, by simp [intOf]; omega⟩
        rw [HTT.out, List.append_assoc]; exact HM2.out
      | false =>
        have hin' : ¬ (k : Int) ∈ plan := by simpa using hin
        have HC2 := hid (fun W hE => by have := hcon W hE; rw [hin] at this; exact this)
        rw [if_neg hin'] at HM2
        clear hcon hin hin'
        go_wp2_with (go_at_call 88; with_reducible refine (HC2.out _ HEA.out).mono ?_; rintro e w1 ⟨rfl, hb1⟩)
        refine ⟨⟨k + 1, x + g, l.set k (x + g), rfl, by go_num, by omega, by omega, by omega, by rw [List.length_set]; exact HLL.out, HEA.out.trans hb1, hid (hb1.heap HTA.out), hid (hb1.heap HXA.out), hid ?_, HRR⟩, by simp [intOf]; omega⟩
        rw [HTT.out, List.append_assoc]; exact HM2.out
    · obtain rfl : k = tg := by omega
      have hfin : l = M.weights gs plan := by
        have h1 := hM.out
        rw [List.drop_eq_nil_of_le (by omega), M.wK, List.append_nil] at h1
        have h2 := hR.out
        unfold M.weights
        rw [← h1, hgn, ← h2, List.take_append_drop]
      obtain ⟨a0, a1, a2, a3, a4, a5, a6, a7, a8, a9, rfl⟩ := list10 hll
      have HF := hid hfin
      have HA := hid (show wr.heap[w.heap.size + 1 + 1]? = some (.cells #[.int .i64 a0, .int .i64 a1, .int .i64 a2, .int .i64 a3, .int .i64 a4, .int .i64 a5, .int .i64 a6, .int .i64 a7, .int .i64 a8, .int .i64 a9] 111 (0, 0)) from hA.out)
      obtain ⟨x0, x1', x2, x3, x4, x5, x6, x7, x8, x9⟩ := cells10 HA.out
      obtain ⟨f0, f1, f2, f3, f4, f5, f6, f7, f8, f9⟩ := frz10 HA.out
      clear hfin hM hR hA
      go_wp2
      have hF := set10 HA.out (v0 := .int .i64 a0) (v1 := .int .i64 a1) (v2 := .int .i64 a2) (v3 := .int .i64 a3) (v4 := .int .i64 a4) (v5 := .int .i64 a5) (v6 := .int .i64 a6) (v7 := .int .i64 a7) (v8 := .int .i64 a8) (v9 := .int .i64 a9)
      obtain ⟨d0, d1, d2, d3, d4, d5, d6, d7, d8, d9⟩ := cells10 hF
      refine bodyPost_ret (v := .agg #[.int .i64 a0, .int .i64 a1, .int .i64 a2, .int .i64 a3, .int .i64 a4, .int .i64 a5, .int .i64 a6, .int .i64 a7, .int .i64 a8, .int .i64 a9]) (by simp [results, Try.results58, go_sem, d0, d1, d2, d3, d4, d5, d6, d7, d8, d9]) rfl ⟨by rw [← HF.out]; rfl, ?_⟩
      refine Ev.setCell (Ev.setCell (Ev.setCell (Ev.setCell (Ev.setCell (Ev.setCell (Ev.setCell (Ev.setCell (Ev.setCell (Ev.setCell hB ?_ _) ?_ _) ?_ _) ?_ _) ?_ _) ?_ _) ?_ _) ?_ _) ?_ _) ?_ _ <;> (simp; omega)

end Go.Proofs.Ytffbkbcjddigdaa
