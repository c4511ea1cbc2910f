import Derived.Test.YtffbkbcjddigdaaA72
import Derived.Test.YtffbkbcjddigdaaA62
import Derived.Test.YtffbkbcjddigdaaA58
import Derived.Test.YtffbkbcjddigdaaA54
import Derived.Test.YtffbkbcjddigdaaA48
import Derived.Test.YtffbkbcjddigdaaA49
import Derived.Deep.DeepCutAuto
set_option linter.unusedSimpArgs false
set_option linter.unusedVariables false
namespace Go.Proofs.Ytffbkbcjddigdaa
open Go.RowKit Go.Shelf

theorem lkc_one (ys : List M.Lk) : ∀ u ∈ ys.flatMap lkc, u.oneCell' = true := by
 intro u hu
 obtain ⟨y, _, hy⟩ := List.mem_flatMap.1 hu
 simp [lkc] at hy
 rcases hy with rfl | rfl | rfl <;> rfl
theorem cells3_ {W : World} {b : Nat} {t : TypeId} {v0 v1 v2 : Value} (h : W.heap[b]? = some (.cells #[v0, v1, v2] t (0, 0))) : W.cell? ⟨b, 0, none⟩ = some v0 ∧ W.cell? ⟨b, 1, none⟩ = some v1 ∧ W.cell? ⟨b, 2, none⟩ = some v2 :=
 ⟨cell_in h 0, cell_in h 1, cell_in h 2⟩
set_option maxRecDepth 100000 in
set_option maxHeartbeats 4000000 in
theorem cropOne_no1 (f : M.Cf) (l : M.Lk) (Ag Aw Ab Ac Al : Option Addr) (ng cg nw cw nb cb nc cc nl cl : Nat) (hl0 : -9223372036854775808 ≤ f.last) (b : Int) (b0 : 0 ≤ b) (b1 : b < 65536) (hncl : nl ≤ cl) (hnl44 : nl ≤ 5864062014800) (w : World) (HW : Hid (Sl0 lkc 3 w w.heap.size Al nl f.looks)) (hs : M.small ng nw nb nc nl → CS w w.heap.size f Ag Aw Ab Ac Al ng cg nw cw nb cb nc cc nl cl) (hr : M.rdy f ng nw nb nc nl = false) :
  Calls Try.prog 8 #[.agg #[.int .i64 f.last, .slice Ag ng cg, .slice Aw nw cw, .slice Ab nb cb, .slice Ac nc cc, .int .i64 f.ripe, .int .i64 f.late, .int .i64 f.trod, .slice Al nl cl], .agg #[.int .i64 l.wk, .int .i64 l.ct.lo, .int .i64 l.ct.hi], .int .u16 b] w fun e w' => e = .returned (.bool true) ∧ Ev w w' := by
 have HRD := hid (fun W (hE : Ev w W) => by have := ready_c f Ag Aw Ab Ac Al ng cg nw cw nb cb nc cc nl cl hl0 W (fun h => (hs h).ev hE); rw [hr] at this; exact this)
 clear hr hs
 obtain ⟨i0, hi0, hz0, hz1, hz2⟩ := info_parts infoRL
 have hln := HW.out.len
 go_enter Try.func8, Try.ntmps8
 go_upto_region 1 with fail
 generalize hW0 : World.alloc (World.alloc w _) _ = W0
 have hE0 : Ev w W0 := by rw [← hW0]; exact Ev.alloc (Ev.alloc (Ev.refl _) _) _
 have hal := alloc2 w (.cells #[.int .i64 f.last, .slice Ag ng cg, .slice Aw nw cw, .slice Ab nb cb, .slice Ac nc cc, .int .i64 f.ripe, .int .i64 f.late, .int .i64 f.trod, .slice Al nl cl] 26) (.cells #[.int .i64 l.wk, .int .i64 l.ct.lo, .int .i64 l.ct.hi] 90)
 rw [hW0] at hal
 have Q0 := hid hal.1
 have Q1 := hid hal.2.1
 have HZ0 := hid hal.2.2
 clear hal hW0
 obtain ⟨q0, q1, q2, q3, q4, q5, q6, q7, q8⟩ := cells9 Q0.out
 have hlq := heap_lt Q0.out
 go_upto_region 2 with fail
 generalize hW2 : World.alloc W0 _ = W2
 have hE2 : Ev W0 W2 := by rw [← hW2]; exact Ev.alloc (Ev.refl _) _
 have hal := alloc1 W0 (.cells #[.int .i64 f.last, .slice Ag ng cg, .slice Aw nw cw, .slice Ab nb cb, .slice Ac nc cc, .int .i64 f.ripe, .int .i64 f.late, .int .i64 f.trod, .slice Al nl cl] 26)
 rw [hW2] at hal
 have HC2 := hid hal.1
 have HZ2 := hal.2
 have Q0c := hid (hE2.heap Q0.out)
 have Q1c := hid (hE2.heap Q1.out)
 have HEW := hid (hE0.trans hE2)
 have hzz := HZ0.out
 have hpa : w.heap.size + 2 ≤ W0.heap.size := by omega
 have hpb : W0.heap.size + 1 ≤ W2.heap.size := by omega
 clear hW2 hal hE2 Q0 Q1 q0 q1 q2 q3 q4 q5 q6 q7 q8 HZ0 hE0 hlq hzz HZ2
 generalize W0.heap.size = p at *
 obtain ⟨q0, q1, q2, q3, q4, q5, q6, q7, q8⟩ := cells9 Q0c.out
 obtain ⟨y0, y1, y2⟩ := cells3_ Q1c.out
 have hlq : w.heap.size < W2.heap.size := by omega
 have hlq1 : w.heap.size + 1 < W2.heap.size := by omega
 have HSE : Hid (∀ w', Ev W2 w' → (∀ o, w'.cell? ⟨w.heap.size, o, none⟩ = W2.cell? ⟨w.heap.size, o, none⟩) ∧ (∀ o, w'.cell? ⟨w.heap.size + 1, o, none⟩ = W2.cell? ⟨w.heap.size + 1, o, none⟩)) := hid (fun w' h => ⟨fun o => h.cells.1 _ o hlq, fun o => h.cells.1 _ o hlq1⟩)
 go_cut [6] (fun v W1 => v = .bool false ∧ ∃ V : Option Addr, ∃ cx : Nat, Ev w W1 ∧ W1.heap[w.heap.size]? = some (.cells #[.int .i64 f.last, .slice Ag ng cg, .slice Aw nw cw, .slice Ab nb cb, .slice Ac nc cc, .int .i64 f.ripe, .int .i64 f.late, .int .i64 f.trod, .slice Al nl cl] 26 (0, 0)) ∧ W1.heap[p]? = some (.cells #[.int .i64 f.last, .slice Ag ng cg, .slice Aw nw cw, .slice Ab nb cb, .slice Ac nc cc, .int .i64 f.ripe, .int .i64 f.late, .int .i64 f.trod, .slice V (nl + 1) cx] 26 (0, 0)) ∧ (nl ≤ 7 → Sl lkc 3 W1 W1.heap.size V (nl + 1) cx (f.looks ++ [l])))
 case first =>
  refine wp_region_held_drew (S := fun w' => (∀ o, w'.cell? ⟨w.heap.size, o, none⟩ = W2.cell? ⟨w.heap.size, o, none⟩) ∧ (∀ o, w'.cell? ⟨w.heap.size + 1, o, none⟩ = W2.cell? ⟨w.heap.size + 1, o, none⟩)) (by kernel_rfl) ⟨fun o => rfl, fun o => rfl⟩ (fun hHeld => ?_)
  refine wpAnyH_take (i := 1) (v := ?_) rfl (by kernel_rfl) (by kernel_rfl) (by kernel_rfl) (fun _ _ _ h => h) (Or.inl ⟨by rfl, ?hy⟩) (by assumption) ?_
  case hy => (intro w hSw; (try dsimp only at hSw); go_simp; with_reducible rfl)
  (try simp only [Act.put, sA, sB, sC])
  refine wpAnyH_take (i := 2) (v := ?_) rfl (by kernel_rfl) (by kernel_rfl) (by kernel_rfl) (fun _ _ _ h => h) (Or.inl ⟨by rfl, ?hy⟩) (by assumption) ?_
  case hy => (intro w hSw; (try dsimp only at hSw); go_simp; with_reducible rfl)
  (try simp only [Act.put, sA, sB, sC])
  refine wpAnyH_take (i := 4) (v := ?_) rfl (by kernel_rfl) (by kernel_rfl) (by kernel_rfl) (fun _ _ _ h => h) (Or.inl ⟨by rfl, ?hy⟩) (by assumption) ?_
  case hy => (intro w hSw; (try dsimp only at hSw); go_simp; with_reducible rfl)
  (try simp only [Act.put, sA, sB, sC])
  refine wpAnyH_ready (rs := [0, 5]) (by kernel_rfl) (by simp) ?_
  refine AllReadyH.cons rfl (fun K hK => ?_) (AllReadyH.cons rfl (fun K hK => ?_) AllReadyH.nil)
  ·
   go_simp
   refine hK.out _ _ (HSE.out _ (Ev.alloc (Ev.drew (Ev.refl W2)) _)) (fun hHeld => ?_)
   clear hK K
   (try simp only [Act.put, sA, sB, sC])
   refine wpAnyH_ready (rs := [3, 5]) (by kernel_rfl) (by simp) ?_
   refine AllReadyH.cons rfl (fun K hK => ?_) (AllReadyH.cons rfl (fun K hK => ?_) AllReadyH.nil)
   ·
    have hEA := hid (Ev.alloc (Ev.drew (Ev.refl W2)) (.cells #[] 90))
    refine step_append_any (enc := lkc) rfl (.tmp 24) (.tmp 26) 24 rfl W2.heap.size 90 i0 _ 3 24 Try.underlying24 hi0 hz0 hz1 hz2 rfl (by decide) _ 0 [] rfl ((World.ownsRow_lit W2 #[] 0 (Nat.le_refl _) (by decide) rfl).ev (by repeat (first | exact Ev.refl _ | refine Ev.drew ?_ | refine Ev.alloc ?_ _))) Al nl cl f.looks _ rfl (HW.out.ev (HEW.out.trans (by repeat (first | exact Ev.refl _ | refine Ev.drew ?_ | refine Ev.alloc ?_ _)))) (lkc_len _) (lkc_one _) (by unfold maxLen; omega) (by omega) (by first | (simp; done) | (simp; omega)) ?_
    intro v' w3 hown' hgrow
    have hown3 : w3.ownsRow W2.heap.size 90 3 v' nl (f.looks.flatMap lkc) := (by simpa using hown')
    have HE3 := hid (Ev.grown (by repeat (first | exact Ev.refl _ | refine Ev.drew ?_ | refine Ev.alloc ?_ _)) hgrow (fun k e => by have e2 : some W2.heap.size = some k := e; simp at e2; omega) : Ev W2 w3)
    refine hK.out _ _ (HSE.out _ HE3.out) (fun hHeld => ?_)
    clear hK K
    (try simp only [Act.put, sA, sB, sC])
    refine wpAnyH_ready (rs := [5]) (by kernel_rfl) (by simp) ?_
    refine AllReadyH.cons rfl (fun K hK => ?_) AllReadyH.nil
    go_simp
    refine hK.out _ _ (HSE.out _ (Ev.alloc HE3.out _)) (fun hHeld => ?_)
    clear hK K
    (try simp only [Act.put, sA, sB, sC])
    refine wpAnyH_ready (rs := [6]) (by kernel_rfl) (by simp) ?_
    refine AllReadyH.cons rfl (fun K hK => ?_) AllReadyH.nil
    refine step_append_own rfl (.tmp 27) (.tmp 29) 24 rfl W2.heap.size 90 i0 _ 3 24 Try.underlying24 hi0 hz0 hz1 hz2 rfl (by decide) v' nl (f.looks.flatMap lkc) rfl (hown3.alloc _) ⟨w3.heap.size, 0, none⟩ 1 1 [.int .i64 l.wk, .int .i64 l.ct.lo, .int .i64 l.ct.hi] rfl rfl (news_in (alloc1 w3 _).1) (by simp [Value.oneCell']) (by unfold maxLen; omega) (by omega) (Nat.le_trans HE3.out.size (by first | exact Nat.le_refl _ | (simp; done) | (simp; omega))) ?_
    intro v2 w4 hown2 hgrow2 _
    have hown4 : w4.ownsRow W2.heap.size 90 3 v2 (nl + 1) ((f.looks ++ [l]).flatMap lkc) := by rw [List.flatMap_append]; exact hown2
    obtain ⟨V, cx, rfl⟩ := own_form hown4
    have HE4 := hid (Ev.grown (Ev.alloc HE3.out _) hgrow2 (fun k e => (hown3.lt k e).1))
    have HX4 := hid (HE4.out.heap HC2.out)
    have HQ4 := hid (HE4.out.heap Q0c.out)
    clear hown2 hgrow2
    obtain ⟨y0, y1, y2, y3, y4, y5, y6, y7, y8⟩ := cells9 HX4.out
    obtain ⟨f0, f1, f2, f3, f4, f5, f6, f7, f8⟩ := frz9 HX4.out
    refine hK.out _ _ (HSE.out _ HE4.out) (fun hHeld => ?_)
    clear hK K
    (try simp only [Act.put, sA, sB, sC])
    refine wpAnyH_take (i := 7) (v := ?_) rfl (by kernel_rfl) (by kernel_rfl) (by kernel_rfl) (fun _ _ _ h => h) (Or.inl ⟨by rfl, ?hy⟩) (by assumption) ?_
    case hy => (intro w hSw; (try dsimp only at hSw); go_simp; with_reducible rfl)
    (try simp only [Act.put, sA, sB, sC])
    refine wpAnyH_ready (rs := [8]) (by kernel_rfl) (by simp) ?_
    refine AllReadyH.cons rfl (fun K hK => ?_) AllReadyH.nil
    go_simp
    refine hK.out _ _ (⟨fun o => (cell_set_ne (show w.heap.size ≠ p by omega)).trans ((HSE.out _ HE4.out).1 o), fun o => (cell_set_ne (show w.heap.size + 1 ≠ p by omega)).trans ((HSE.out _ HE4.out).2 o)⟩) (fun hHeld => ?_)
    clear hK K
    (try simp only [Act.put, sA, sB, sC])
    refine wpAnyH_done (by kernel_rfl) ?_ _
    go_wp2_with fail
    go_meet
    have hown5 := ownsRow_setCell_below hown4 (a := ⟨p, 8, none⟩) (show p < W2.heap.size by omega) (.slice V (nl + 1) cx)
    exact ⟨rfl, V, cx, Ev.setCell (HEW.out.trans HE4.out) (by simp; omega) _, set_heap HQ4.out (by omega), by rw [set_heap_same HX4.out]; rfl, fun h => sl_own (by decide) (lkc_len _) (by omega) hown5⟩
   ·
    go_simp
    refine hK.out _ _ (HSE.out _ (Ev.alloc (Ev.alloc (Ev.drew (Ev.refl W2)) _) _)) (fun hHeld => ?_)
    clear hK K
    (try simp only [Act.put, sA, sB, sC])
    refine wpAnyH_ready (rs := [3]) (by kernel_rfl) (by simp) ?_
    refine AllReadyH.cons rfl (fun K hK => ?_) AllReadyH.nil
    have hEA := hid (Ev.alloc (Ev.alloc (Ev.drew (Ev.refl W2)) (.cells #[] 90)) (.cells #[.int .i64 l.wk, .int .i64 l.ct.lo, .int .i64 l.ct.hi] 90))
    refine step_append_any (enc := lkc) rfl (.tmp 24) (.tmp 26) 24 rfl W2.heap.size 90 i0 _ 3 24 Try.underlying24 hi0 hz0 hz1 hz2 rfl (by decide) _ 0 [] rfl ((World.ownsRow_lit W2 #[] 0 (Nat.le_refl _) (by decide) rfl).ev (by repeat (first | exact Ev.refl _ | refine Ev.drew ?_ | refine Ev.alloc ?_ _))) Al nl cl f.looks _ rfl (HW.out.ev (HEW.out.trans (by repeat (first | exact Ev.refl _ | refine Ev.drew ?_ | refine Ev.alloc ?_ _)))) (lkc_len _) (lkc_one _) (by unfold maxLen; omega) (by omega) (by first | (simp; done) | (simp; omega)) ?_
    intro v' w3 hown' hgrow
    have hown3 : w3.ownsRow W2.heap.size 90 3 v' nl (f.looks.flatMap lkc) := (by simpa using hown')
    have HE3 := hid (Ev.grown (by repeat (first | exact Ev.refl _ | refine Ev.drew ?_ | refine Ev.alloc ?_ _)) hgrow (fun k e => by have e2 : some W2.heap.size = some k := e; simp at e2; omega) : Ev W2 w3)
    have HM := hid ((hgrow.block (W2.heap.size + 1) (by simp) (fun e => by have e2 : some W2.heap.size = some (W2.heap.size + 1) := e.symm; simp at e2)).trans (alloc2 W2 (.cells #[] 90) (.cells #[.int .i64 l.wk, .int .i64 l.ct.lo, .int .i64 l.ct.hi] 90)).2.1 : w3.heap[W2.heap.size + 1]? = some (.cells #[.int .i64 l.wk, .int .i64 l.ct.lo, .int .i64 l.ct.hi] 90 (0, 0)))
    refine hK.out _ _ (HSE.out _ HE3.out) (fun hHeld => ?_)
    clear hK K
    (try simp only [Act.put, sA, sB, sC])
    refine wpAnyH_ready (rs := [6]) (by kernel_rfl) (by simp) ?_
    refine AllReadyH.cons rfl (fun K hK => ?_) AllReadyH.nil
    refine step_append_own rfl (.tmp 27) (.tmp 29) 24 rfl W2.heap.size 90 i0 _ 3 24 Try.underlying24 hi0 hz0 hz1 hz2 rfl (by decide) v' nl (f.looks.flatMap lkc) rfl hown3 ⟨W2.heap.size + 1, 0, none⟩ 1 1 [.int .i64 l.wk, .int .i64 l.ct.lo, .int .i64 l.ct.hi] rfl rfl (news_in HM.out) (by simp [Value.oneCell']) (by unfold maxLen; omega) (by omega) (Nat.le_trans HE3.out.size (by first | exact Nat.le_refl _ | (simp; done) | (simp; omega))) ?_
    intro v2 w4 hown2 hgrow2 _
    have hown4 : w4.ownsRow W2.heap.size 90 3 v2 (nl + 1) ((f.looks ++ [l]).flatMap lkc) := by rw [List.flatMap_append]; exact hown2
    obtain ⟨V, cx, rfl⟩ := own_form hown4
    have HE4 := hid (Ev.grown (HE3.out) hgrow2 (fun k e => (hown3.lt k e).1))
    have HX4 := hid (HE4.out.heap HC2.out)
    have HQ4 := hid (HE4.out.heap Q0c.out)
    clear hown2 hgrow2
    obtain ⟨y0, y1, y2, y3, y4, y5, y6, y7, y8⟩ := cells9 HX4.out
    obtain ⟨f0, f1, f2, f3, f4, f5, f6, f7, f8⟩ := frz9 HX4.out
    refine hK.out _ _ (HSE.out _ HE4.out) (fun hHeld => ?_)
    clear hK K
    (try simp only [Act.put, sA, sB, sC])
    refine wpAnyH_take (i := 7) (v := ?_) rfl (by kernel_rfl) (by kernel_rfl) (by kernel_rfl) (fun _ _ _ h => h) (Or.inl ⟨by rfl, ?hy⟩) (by assumption) ?_
    case hy => (intro w hSw; (try dsimp only at hSw); go_simp; with_reducible rfl)
    (try simp only [Act.put, sA, sB, sC])
    refine wpAnyH_ready (rs := [8]) (by kernel_rfl) (by simp) ?_
    refine AllReadyH.cons rfl (fun K hK => ?_) AllReadyH.nil
    go_simp
    refine hK.out _ _ (⟨fun o => (cell_set_ne (show w.heap.size ≠ p by omega)).trans ((HSE.out _ HE4.out).1 o), fun o => (cell_set_ne (show w.heap.size + 1 ≠ p by omega)).trans ((HSE.out _ HE4.out).2 o)⟩) (fun hHeld => ?_)
    clear hK K
    (try simp only [Act.put, sA, sB, sC])
    refine wpAnyH_done (by kernel_rfl) ?_ _
    go_wp2_with fail
    go_meet
    have hown5 := ownsRow_setCell_below hown4 (a := ⟨p, 8, none⟩) (show p < W2.heap.size by omega) (.slice V (nl + 1) cx)
    exact ⟨rfl, V, cx, Ev.setCell (HEW.out.trans HE4.out) (by simp; omega) _, set_heap HQ4.out (by omega), by rw [set_heap_same HX4.out]; rfl, fun h => sl_own (by decide) (lkc_len _) (by omega) hown5⟩
  ·
   go_simp
   refine hK.out _ _ (HSE.out _ (Ev.alloc (Ev.drew (Ev.refl W2)) _)) (fun hHeld => ?_)
   clear hK K
   (try simp only [Act.put, sA, sB, sC])
   refine wpAnyH_ready (rs := [0]) (by kernel_rfl) (by simp) ?_
   refine AllReadyH.cons rfl (fun K hK => ?_) AllReadyH.nil
   go_simp
   refine hK.out _ _ (HSE.out _ (Ev.alloc (Ev.alloc (Ev.drew (Ev.refl W2)) _) _)) (fun hHeld => ?_)
   clear hK K
   (try simp only [Act.put, sA, sB, sC])
   refine wpAnyH_ready (rs := [3]) (by kernel_rfl) (by simp) ?_
   refine AllReadyH.cons rfl (fun K hK => ?_) AllReadyH.nil
   have hEA := hid (Ev.alloc (Ev.alloc (Ev.drew (Ev.refl W2)) (.cells #[.int .i64 l.wk, .int .i64 l.ct.lo, .int .i64 l.ct.hi] 90)) (.cells #[] 90))
   have hOW : ((W2.alloc (.cells #[.int .i64 l.wk, .int .i64 l.ct.lo, .int .i64 l.ct.hi] 90)).alloc (.cells #[] 90)).ownsRow W2.heap.size 90 3 (.slice (some ⟨W2.heap.size + 1, 0, none⟩) 0 0) 0 (([] : List M.Lk).flatMap lkc) := by
    have h := World.ownsRow_lit (base := W2.heap.size) (e := 90) (size := 3) (W2.alloc (.cells #[.int .i64 l.wk, .int .i64 l.ct.lo, .int .i64 l.ct.hi] 90)) #[] 0 (by simp) (by decide) rfl
    rw [World.size_alloc] at h
    exact h
   refine step_append_any (enc := lkc) rfl (.tmp 24) (.tmp 26) 24 rfl W2.heap.size 90 i0 _ 3 24 Try.underlying24 hi0 hz0 hz1 hz2 rfl (by decide) _ 0 [] rfl (hOW.ev (by repeat (first | exact Ev.refl _ | refine Ev.drew ?_ | refine Ev.alloc ?_ _))) Al nl cl f.looks _ rfl (HW.out.ev (HEW.out.trans (by repeat (first | exact Ev.refl _ | refine Ev.drew ?_ | refine Ev.alloc ?_ _)))) (lkc_len _) (lkc_one _) (by unfold maxLen; omega) (by omega) (by first | (simp; done) | (simp; omega)) ?_
   intro v' w3 hown' hgrow
   have hown3 : w3.ownsRow W2.heap.size 90 3 v' nl (f.looks.flatMap lkc) := (by simpa using hown')
   have HE3 := hid (Ev.grown (by repeat (first | exact Ev.refl _ | refine Ev.drew ?_ | refine Ev.alloc ?_ _)) hgrow (fun k e => by have e2 : some (W2.heap.size + 1) = some k := e; simp at e2; omega) : Ev W2 w3)
   have HM := hid ((hgrow.block W2.heap.size (by simp; omega) (fun e => by have e2 : some (W2.heap.size + 1) = some W2.heap.size := e.symm; simp at e2)).trans (alloc2 W2 (.cells #[.int .i64 l.wk, .int .i64 l.ct.lo, .int .i64 l.ct.hi] 90) (.cells #[] 90)).1 : w3.heap[W2.heap.size]? = some (.cells #[.int .i64 l.wk, .int .i64 l.ct.lo, .int .i64 l.ct.hi] 90 (0, 0)))
   refine hK.out _ _ (HSE.out _ HE3.out) (fun hHeld => ?_)
   clear hK K
   (try simp only [Act.put, sA, sB, sC])
   refine wpAnyH_ready (rs := [6]) (by kernel_rfl) (by simp) ?_
   refine AllReadyH.cons rfl (fun K hK => ?_) AllReadyH.nil
   refine step_append_own rfl (.tmp 27) (.tmp 29) 24 rfl W2.heap.size 90 i0 _ 3 24 Try.underlying24 hi0 hz0 hz1 hz2 rfl (by decide) v' nl (f.looks.flatMap lkc) rfl hown3 ⟨W2.heap.size, 0, none⟩ 1 1 [.int .i64 l.wk, .int .i64 l.ct.lo, .int .i64 l.ct.hi] rfl rfl (news_in HM.out) (by simp [Value.oneCell']) (by unfold maxLen; omega) (by omega) (Nat.le_trans HE3.out.size (by first | exact Nat.le_refl _ | (simp; done) | (simp; omega))) ?_
   intro v2 w4 hown2 hgrow2 _
   have hown4 : w4.ownsRow W2.heap.size 90 3 v2 (nl + 1) ((f.looks ++ [l]).flatMap lkc) := by rw [List.flatMap_append]; exact hown2
   obtain ⟨V, cx, rfl⟩ := own_form hown4
   have HE4 := hid (Ev.grown (HE3.out) hgrow2 (fun k e => (hown3.lt k e).1))
   have HX4 := hid (HE4.out.heap HC2.out)
   have HQ4 := hid (HE4.out.heap Q0c.out)
   clear hown2 hgrow2
   obtain ⟨y0, y1, y2, y3, y4, y5, y6, y7, y8⟩ := cells9 HX4.out
   obtain ⟨f0, f1, f2, f3, f4, f5, f6, f7, f8⟩ := frz9 HX4.out
   refine hK.out _ _ (HSE.out _ HE4.out) (fun hHeld => ?_)
   clear hK K
   (try simp only [Act.put, sA, sB, sC])
   refine wpAnyH_take (i := 7) (v := ?_) rfl (by kernel_rfl) (by kernel_rfl) (by kernel_rfl) (fun _ _ _ h => h) (Or.inl ⟨by rfl, ?hy⟩) (by assumption) ?_
   case hy => (intro w hSw; (try dsimp only at hSw); go_simp; with_reducible rfl)
   (try simp only [Act.put, sA, sB, sC])
   refine wpAnyH_ready (rs := [8]) (by kernel_rfl) (by simp) ?_
   refine AllReadyH.cons rfl (fun K hK => ?_) AllReadyH.nil
   go_simp
   refine hK.out _ _ (⟨fun o => (cell_set_ne (show w.heap.size ≠ p by omega)).trans ((HSE.out _ HE4.out).1 o), fun o => (cell_set_ne (show w.heap.size + 1 ≠ p by omega)).trans ((HSE.out _ HE4.out).2 o)⟩) (fun hHeld => ?_)
   clear hK K
   (try simp only [Act.put, sA, sB, sC])
   refine wpAnyH_done (by kernel_rfl) ?_ _
   go_wp2_with fail
   go_meet
   have hown5 := ownsRow_setCell_below hown4 (a := ⟨p, 8, none⟩) (show p < W2.heap.size by omega) (.slice V (nl + 1) cx)
   exact ⟨rfl, V, cx, Ev.setCell (HEW.out.trans HE4.out) (by simp; omega) _, set_heap HQ4.out (by omega), by rw [set_heap_same HX4.out]; rfl, fun h => sl_own (by decide) (lkc_len _) (by omega) hown5⟩
 case rest =>
  obtain ⟨rfl, V, cx, hE5, hQ, hX, hS⟩ := hcut
  have HQ5 := hid hQ
  have HX5 := hid hX
  clear hQ hX hS y0 y1 y2 q0 q1 q2 q3 q4 q5 q6 q7 q8
  obtain ⟨y0, y1, y2, y3, y4, y5, y6, y7, y8⟩ := cells9 HX5.out
  obtain ⟨q0, q1, q2, q3, q4, q5, q6, q7, q8⟩ := cells9 HQ5.out
  go_wp2_with (first | (go_at_call 37; with_reducible refine (HRD.out _ hE5).mono ?_; rintro e w6 ⟨rfl, hb6⟩) | (go_at_call 14; with_reducible refine (awake_c _).mono ?_; rintro e w99 ⟨rfl, hb99⟩) | (with_reducible refine ⟨trivial, ?_⟩))
  go_ret
  exact ⟨rfl, (hE5.trans hb6).trans hb99⟩

theorem readyL_c (f : M.Cf) (ls : List M.Lk) (Ag Aw Ab Ac Al : Option Addr) (ng cg nw cw nb cb nc cc nl cl : Nat) (hl0 : -9223372036854775808 ≤ f.last) (w : World) (hs : M.small ng nw nb nc nl → CS w w.heap.size (M.withL f ls) Ag Aw Ab Ac Al ng cg nw cw nb cb nc cc nl cl) :
  Calls Try.prog 37 #[.agg #[.int .i64 f.last, .slice Ag ng cg, .slice Aw nw cw, .slice Ab nb cb, .slice Ac nc cc, .int .i64 f.ripe, .int .i64 f.late, .int .i64 f.trod, .slice Al nl cl]] w fun e w' => e = .returned (.bool (M.rdy (M.withL f ls) ng nw nb nc nl)) ∧ Ev w w' := ready_c (M.withL f ls) Ag Aw Ab Ac Al ng cg nw cw nb cb nc cc nl cl hl0 w hs
theorem LeaveL_ok (f : M.Cf) (ls : List M.Lk) (Ag Aw Ab Ac Al : Option Addr) (ng cg nw cw nb cb nc cc nl cl : Nat) (hl0 : -9223372036854775808 ≤ f.last) (w : World) (hs : CS w w.heap.size (M.withL f ls) Ag Aw Ab Ac Al ng cg nw cw nb cb nc cc nl cl) (h0 : M.check (M.withL f ls) = 0) :
  Calls Try.prog 31 #[.agg #[.int .i64 f.last, .slice Ag ng cg, .slice Aw nw cw, .slice Ab nb cb, .slice Ac nc cc, .int .i64 f.ripe, .int .i64 f.late, .int .i64 f.trod, .slice Al nl cl]] w fun e w' => (∃ B d, e = .returned (.tuple #[.slice B (M.shortest (M.spares (M.withL f ls)) nl).length d, .int .i64 0]) ∧ Sl ics 1 w' w'.heap.size B (M.shortest (M.spares (M.withL f ls)) nl).length d (M.shortest (M.spares (M.withL f ls)) nl)) ∧ Ev w w' := Leave_ok (M.withL f ls) Ag Aw Ab Ac Al ng cg nw cw nb cb nc cc nl cl hl0 w hs h0
theorem WorthP_ok (f : M.Cf) (ls : List M.Lk) (Ag Aw Ab Ac Al : Option Addr) (ng cg nw cw nb cb nc cc nl cl : Nat) (P : Option Addr) (pn pc : Nat) (plan : List Int) (hl0 : -9223372036854775808 ≤ f.last) (w : World) (hs : CS w w.heap.size (M.withL f ls) Ag Aw Ab Ac Al ng cg nw cw nb cb nc cc nl cl) (hp : Sl ics 1 w w.heap.size P pn pc plan) (h0 : M.begin (M.withL f ls) (M.isPlan (M.withL f ls) plan) = 0) :
  Calls Try.prog 29 #[.agg #[.int .i64 f.last, .slice Ag ng cg, .slice Aw nw cw, .slice Ab nb cb, .slice Ac nc cc, .int .i64 f.ripe, .int .i64 f.late, .int .i64 f.trod, .slice Al nl cl], .slice P pn pc] w fun e w' => e = .returned (.tuple #[.agg #[.int .i64 (M.worth (M.withL f ls) plan).lo, .int .i64 (M.worth (M.withL f ls) plan).hi], .int .i64 0]) ∧ Ev w w' := Worth_ok (M.withL f ls) Ag Aw Ab Ac Al ng cg nw cw nb cb nc cc nl cl P pn pc plan hl0 w hs hp h0
theorem BestL_ok (f : M.Cf) (ls : List M.Lk) (Ag Aw Ab Ac Al : Option Addr) (ng cg nw cw nb cb nc cc nl cl : Nat) (hl0 : -9223372036854775808 ≤ f.last) (w : World) (hs : CS w w.heap.size (M.withL f ls) Ag Aw Ab Ac Al ng cg nw cw nb cb nc cc nl cl) (h0 : M.begin (M.withL f ls) true = 0) :
  Calls Try.prog 35 #[.agg #[.int .i64 f.last, .slice Ag ng cg, .slice Aw nw cw, .slice Ab nb cb, .slice Ac nc cc, .int .i64 f.ripe, .int .i64 f.late, .int .i64 f.trod, .slice Al nl cl]] w fun e w' => (∃ B d, e = .returned (.tuple #[.slice B (M.best (M.withL f ls) (M.truths (M.withL f ls))).1.length d, .int .i64 (M.best (M.withL f ls) (M.truths (M.withL f ls))).2, .int .i64 0]) ∧ Sl ics 1 w' w'.heap.size B (M.best (M.withL f ls) (M.truths (M.withL f ls))).1.length d (M.best (M.withL f ls) (M.truths (M.withL f ls))).1) ∧ Ev w w' := Best_ok (M.withL f ls) Ag Aw Ab Ac Al ng cg nw cw nb cb nc cc nl cl hl0 w hs h0
theorem nil_table : ((List.range 6).all fun n => (List.range (2 ^ n)).all fun c => decide ((M.bits c).length = 0 → c = 0)) = true := by decide +kernel
theorem M.with_same (f : M.Cf) : M.withL f f.looks = f := by cases f; rfl
/-- If nothing has to be left out, there is a truth. -/
theorem M.leave_nil {f : M.Cf} (h : M.check f = 0) {n : Nat} (hl : f.looks.length = n) (h0 : (M.shortest (M.spares f) n).length = 0) : M.truths f ≠ [] := by
 have n5 : n ≤ 5 := by rw [← hl]; exact (M.check0 h).2.2.1
 obtain ⟨c, hc, hfit, he⟩ := M.leave_bits h hl
 have t0 := nil_table
 rw [List.all_eq_true] at t0
 have t1 := t0 n (List.mem_range.2 (by omega))
 rw [List.all_eq_true] at t1
 have hc0 := of_decide_eq_true (t1 c (List.mem_range.2 hc)) (by rw [← he]; exact h0)
 subst hc0
 have hb : M.butB n 0 = 2 ^ n - 1 := by unfold M.butB; simp
 rw [hb, M.keepK_low, Nat.sub_zero, ← hl, List.take_length] at hfit
 intro ht
 have := (M.truths_fit f f.looks).1 (by rw [M.with_same]; exact ht)
 rw [hfit] at this
 cases this
theorem M.begin_is {f : M.Cf} {nm : Bool} (h : M.check f = 0) (hn : nm = true) (ht : M.truths f ≠ []) : M.begin f nm = 0 := by
 unfold M.begin
 rw [if_neg (by simp [h]), hn, if_neg (by simp), if_neg ht]

set_option maxRecDepth 100000 in
set_option maxHeartbeats 4000000 in
theorem cropOne_no2 (f : M.Cf) (l : M.Lk) (Ag Aw Ab Ac Al : Option Addr) (ng cg nw cw nb cb nc cc nl cl : Nat) (hl0 : -9223372036854775808 ≤ f.last) (b : Int) (b0 : 0 ≤ b) (b1 : b < 65536) (hncl : nl ≤ cl) (hnl44 : nl ≤ 5864062014800) (w : World) (HW : Hid (Sl0 lkc 3 w w.heap.size Al nl f.looks)) (hs : M.small ng nw nb nc nl → CS w w.heap.size f Ag Aw Ab Ac Al ng cg nw cw nb cb nc cc nl cl) (hr : M.rdy f ng nw nb nc nl = true) (hsm : M.small ng nw nb nc nl) (h0 : M.check f = 0) (hrx : M.rdy (M.withL f (f.looks ++ [l])) ng nw nb nc (nl + 1) = false) :
  Calls Try.prog 8 #[.agg #[.int .i64 f.last, .slice Ag ng cg, .slice Aw nw cw, .slice Ab nb cb, .slice Ac nc cc, .int .i64 f.ripe, .int .i64 f.late, .int .i64 f.trod, .slice Al nl cl], .agg #[.int .i64 l.wk, .int .i64 l.ct.lo, .int .i64 l.ct.hi], .int .u16 b] w fun e w' => e = .returned (.bool true) ∧ Ev w w' := by
 have HRD := hid (fun W (hE : Ev w W) => by have := ready_c f Ag Aw Ab Ac Al ng cg nw cw nb cb nc cc nl cl hl0 W (fun h => (hs h).ev hE); rw [hr] at this; exact this)
 have hl5 : nl ≤ 5 := by rw [← (hs hsm).l.len]; exact (M.check0 h0).2.2.1
 have HCS := hid (hs hsm)
 clear hr hs
 obtain ⟨i0, hi0, hz0, hz1, hz2⟩ := info_parts infoRL
 have hln := HW.out.len
 go_enter Try.func8, Try.ntmps8
 go_upto_region 1 with fail
 generalize hW0 : World.alloc (World.alloc w _) _ = W0
 have hE0 : Ev w W0 := by rw [← hW0]; exact Ev.alloc (Ev.alloc (Ev.refl _) _) _
 have hal := alloc2 w (.cells #[.int .i64 f.last, .slice Ag ng cg, .slice Aw nw cw, .slice Ab nb cb, .slice Ac nc cc, .int .i64 f.ripe, .int .i64 f.late, .int .i64 f.trod, .slice Al nl cl] 26) (.cells #[.int .i64 l.wk, .int .i64 l.ct.lo, .int .i64 l.ct.hi] 90)
 rw [hW0] at hal
 have Q0 := hid hal.1
 have Q1 := hid hal.2.1
 have HZ0 := hid hal.2.2
 clear hal hW0
 obtain ⟨q0, q1, q2, q3, q4, q5, q6, q7, q8⟩ := cells9 Q0.out
 have hlq := heap_lt Q0.out
 go_upto_region 2 with fail
 generalize hW2 : World.alloc W0 _ = W2
 have hE2 : Ev W0 W2 := by rw [← hW2]; exact Ev.alloc (Ev.refl _) _
 have hal := alloc1 W0 (.cells #[.int .i64 f.last, .slice Ag ng cg, .slice Aw nw cw, .slice Ab nb cb, .slice Ac nc cc, .int .i64 f.ripe, .int .i64 f.late, .int .i64 f.trod, .slice Al nl cl] 26)
 rw [hW2] at hal
 have HC2 := hid hal.1
 have HZ2 := hal.2
 have Q0c := hid (hE2.heap Q0.out)
 have Q1c := hid (hE2.heap Q1.out)
 have HEW := hid (hE0.trans hE2)
 have hzz := HZ0.out
 have hpa : w.heap.size + 2 ≤ W0.heap.size := by omega
 have hpb : W0.heap.size + 1 ≤ W2.heap.size := by omega
 clear hW2 hal hE2 Q0 Q1 q0 q1 q2 q3 q4 q5 q6 q7 q8 HZ0 hE0 hlq hzz HZ2
 generalize W0.heap.size = p at *
 obtain ⟨q0, q1, q2, q3, q4, q5, q6, q7, q8⟩ := cells9 Q0c.out
 obtain ⟨y0, y1, y2⟩ := cells3_ Q1c.out
 have hlq : w.heap.size < W2.heap.size := by omega
 have hlq1 : w.heap.size + 1 < W2.heap.size := by omega
 have HSE : Hid (∀ w', Ev W2 w' → (∀ o, w'.cell? ⟨w.heap.size, o, none⟩ = W2.cell? ⟨w.heap.size, o, none⟩) ∧ (∀ o, w'.cell? ⟨w.heap.size + 1, o, none⟩ = W2.cell? ⟨w.heap.size + 1, o, none⟩)) := hid (fun w' h => ⟨fun o => h.cells.1 _ o hlq, fun o => h.cells.1 _ o hlq1⟩)
 go_cut [6] (fun v W1 => v = .bool false ∧ ∃ V : Option Addr, ∃ cx : Nat, Ev w W1 ∧ W1.heap[w.heap.size]? = some (.cells #[.int .i64 f.last, .slice Ag ng cg, .slice Aw nw cw, .slice Ab nb cb, .slice Ac nc cc, .int .i64 f.ripe, .int .i64 f.late, .int .i64 f.trod, .slice Al nl cl] 26 (0, 0)) ∧ W1.heap[p]? = some (.cells #[.int .i64 f.last, .slice Ag ng cg, .slice Aw nw cw, .slice Ab nb cb, .slice Ac nc cc, .int .i64 f.ripe, .int .i64 f.late, .int .i64 f.trod, .slice V (nl + 1) cx] 26 (0, 0)) ∧ (nl ≤ 7 → Sl lkc 3 W1 W1.heap.size V (nl + 1) cx (f.looks ++ [l])))
 case first =>
  refine wp_region_held_drew (S := fun w' => (∀ o, w'.cell? ⟨w.heap.size, o, none⟩ = W2.cell? ⟨w.heap.size, o, none⟩) ∧ (∀ o, w'.cell? ⟨w.heap.size + 1, o, none⟩ = W2.cell? ⟨w.heap.size + 1, o, none⟩)) (by kernel_rfl) ⟨fun o => rfl, fun o => rfl⟩ (fun hHeld => ?_)
  refine wpAnyH_take (i := 1) (v := ?_) rfl (by kernel_rfl) (by kernel_rfl) (by kernel_rfl) (fun _ _ _ h => h) (Or.inl ⟨by rfl, ?hy⟩) (by assumption) ?_
  case hy => (intro w hSw; (try dsimp only at hSw); go_simp; with_reducible rfl)
  (try simp only [Act.put, sA, sB, sC])
  refine wpAnyH_take (i := 2) (v := ?_) rfl (by kernel_rfl) (by kernel_rfl) (by kernel_rfl) (fun _ _ _ h => h) (Or.inl ⟨by rfl, ?hy⟩) (by assumption) ?_
  case hy => (intro w hSw; (try dsimp only at hSw); go_simp; with_reducible rfl)
  (try simp only [Act.put, sA, sB, sC])
  refine wpAnyH_take (i := 4) (v := ?_) rfl (by kernel_rfl) (by kernel_rfl) (by kernel_rfl) (fun _ _ _ h => h) (Or.inl ⟨by rfl, ?hy⟩) (by assumption) ?_
  case hy => (intro w hSw; (try dsimp only at hSw); go_simp; with_reducible rfl)
  (try simp only [Act.put, sA, sB, sC])
  refine wpAnyH_ready (rs := [0, 5]) (by kernel_rfl) (by simp) ?_
  refine AllReadyH.cons rfl (fun K hK => ?_) (AllReadyH.cons rfl (fun K hK => ?_) AllReadyH.nil)
  ·
   go_simp
   refine hK.out _ _ (HSE.out _ (Ev.alloc (Ev.drew (Ev.refl W2)) _)) (fun hHeld => ?_)
   clear hK K
   (try simp only [Act.put, sA, sB, sC])
   refine wpAnyH_ready (rs := [3, 5]) (by kernel_rfl) (by simp) ?_
   refine AllReadyH.cons rfl (fun K hK => ?_) (AllReadyH.cons rfl (fun K hK => ?_) AllReadyH.nil)
   ·
    have hEA := hid (Ev.alloc (Ev.drew (Ev.refl W2)) (.cells #[] 90))
    refine step_append_any (enc := lkc) rfl (.tmp 24) (.tmp 26) 24 rfl W2.heap.size 90 i0 _ 3 24 Try.underlying24 hi0 hz0 hz1 hz2 rfl (by decide) _ 0 [] rfl ((World.ownsRow_lit W2 #[] 0 (Nat.le_refl _) (by decide) rfl).ev (by repeat (first | exact Ev.refl _ | refine Ev.drew ?_ | refine Ev.alloc ?_ _))) Al nl cl f.looks _ rfl (HW.out.ev (HEW.out.trans (by repeat (first | exact Ev.refl _ | refine Ev.drew ?_ | refine Ev.alloc ?_ _)))) (lkc_len _) (lkc_one _) (by unfold maxLen; omega) (by omega) (by first | (simp; done) | (simp; omega)) ?_
    intro v' w3 hown' hgrow
    have hown3 : w3.ownsRow W2.heap.size 90 3 v' nl (f.looks.flatMap lkc) := (by simpa using hown')
    have HE3 := hid (Ev.grown (by repeat (first | exact Ev.refl _ | refine Ev.drew ?_ | refine Ev.alloc ?_ _)) hgrow (fun k e => by have e2 : some W2.heap.size = some k := e; simp at e2; omega) : Ev W2 w3)
    refine hK.out _ _ (HSE.out _ HE3.out) (fun hHeld => ?_)
    clear hK K
    (try simp only [Act.put, sA, sB, sC])
    refine wpAnyH_ready (rs := [5]) (by kernel_rfl) (by simp) ?_
    refine AllReadyH.cons rfl (fun K hK => ?_) AllReadyH.nil
    go_simp
    refine hK.out _ _ (HSE.out _ (Ev.alloc HE3.out _)) (fun hHeld => ?_)
    clear hK K
    (try simp only [Act.put, sA, sB, sC])
    refine wpAnyH_ready (rs := [6]) (by kernel_rfl) (by simp) ?_
    refine AllReadyH.cons rfl (fun K hK => ?_) AllReadyH.nil
    refine step_append_own rfl (.tmp 27) (.tmp 29) 24 rfl W2.heap.size 90 i0 _ 3 24 Try.underlying24 hi0 hz0 hz1 hz2 rfl (by decide) v' nl (f.looks.flatMap lkc) rfl (hown3.alloc _) ⟨w3.heap.size, 0, none⟩ 1 1 [.int .i64 l.wk, .int .i64 l.ct.lo, .int .i64 l.ct.hi] rfl rfl (news_in (alloc1 w3 _).1) (by simp [Value.oneCell']) (by unfold maxLen; omega) (by omega) (Nat.le_trans HE3.out.size (by first | exact Nat.le_refl _ | (simp; done) | (simp; omega))) ?_
    intro v2 w4 hown2 hgrow2 _
    have hown4 : w4.ownsRow W2.heap.size 90 3 v2 (nl + 1) ((f.looks ++ [l]).flatMap lkc) := by rw [List.flatMap_append]; exact hown2
    obtain ⟨V, cx, rfl⟩ := own_form hown4
    have HE4 := hid (Ev.grown (Ev.alloc HE3.out _) hgrow2 (fun k e => (hown3.lt k e).1))
    have HX4 := hid (HE4.out.heap HC2.out)
    have HQ4 := hid (HE4.out.heap Q0c.out)
    clear hown2 hgrow2
    obtain ⟨y0, y1, y2, y3, y4, y5, y6, y7, y8⟩ := cells9 HX4.out
    obtain ⟨f0, f1, f2, f3, f4, f5, f6, f7, f8⟩ := frz9 HX4.out
    refine hK.out _ _ (HSE.out _ HE4.out) (fun hHeld => ?_)
    clear hK K
    (try simp only [Act.put, sA, sB, sC])
    refine wpAnyH_take (i := 7) (v := ?_) rfl (by kernel_rfl) (by kernel_rfl) (by kernel_rfl) (fun _ _ _ h => h) (Or.inl ⟨by rfl, ?hy⟩) (by assumption) ?_
    case hy => (intro w hSw; (try dsimp only at hSw); go_simp; with_reducible rfl)
    (try simp only [Act.put, sA, sB, sC])
    refine wpAnyH_ready (rs := [8]) (by kernel_rfl) (by simp) ?_
    refine AllReadyH.cons rfl (fun K hK => ?_) AllReadyH.nil
    go_simp
    refine hK.out _ _ (⟨fun o => (cell_set_ne (show w.heap.size ≠ p by omega)).trans ((HSE.out _ HE4.out).1 o), fun o => (cell_set_ne (show w.heap.size + 1 ≠ p by omega)).trans ((HSE.out _ HE4.out).2 o)⟩) (fun hHeld => ?_)
    clear hK K
    (try simp only [Act.put, sA, sB, sC])
    refine wpAnyH_done (by kernel_rfl) ?_ _
    go_wp2_with fail
    go_meet
    have hown5 := ownsRow_setCell_below hown4 (a := ⟨p, 8, none⟩) (show p < W2.heap.size by omega) (.slice V (nl + 1) cx)
    exact ⟨rfl, V, cx, Ev.setCell (HEW.out.trans HE4.out) (by simp; omega) _, set_heap HQ4.out (by omega), by rw [set_heap_same HX4.out]; rfl, fun h => sl_own (by decide) (lkc_len _) (by omega) hown5⟩
   ·
    go_simp
    refine hK.out _ _ (HSE.out _ (Ev.alloc (Ev.alloc (Ev.drew (Ev.refl W2)) _) _)) (fun hHeld => ?_)
    clear hK K
    (try simp only [Act.put, sA, sB, sC])
    refine wpAnyH_ready (rs := [3]) (by kernel_rfl) (by simp) ?_
    refine AllReadyH.cons rfl (fun K hK => ?_) AllReadyH.nil
    have hEA := hid (Ev.alloc (Ev.alloc (Ev.drew (Ev.refl W2)) (.cells #[] 90)) (.cells #[.int .i64 l.wk, .int .i64 l.ct.lo, .int .i64 l.ct.hi] 90))
    refine step_append_any (enc := lkc) rfl (.tmp 24) (.tmp 26) 24 rfl W2.heap.size 90 i0 _ 3 24 Try.underlying24 hi0 hz0 hz1 hz2 rfl (by decide) _ 0 [] rfl ((World.ownsRow_lit W2 #[] 0 (Nat.le_refl _) (by decide) rfl).ev (by repeat (first | exact Ev.refl _ | refine Ev.drew ?_ | refine Ev.alloc ?_ _))) Al nl cl f.looks _ rfl (HW.out.ev (HEW.out.trans (by repeat (first | exact Ev.refl _ | refine Ev.drew ?_ | refine Ev.alloc ?_ _)))) (lkc_len _) (lkc_one _) (by unfold maxLen; omega) (by omega) (by first | (simp; done) | (simp; omega)) ?_
    intro v' w3 hown' hgrow
    have hown3 : w3.ownsRow W2.heap.size 90 3 v' nl (f.looks.flatMap lkc) := (by simpa using hown')
    have HE3 := hid (Ev.grown (by repeat (first | exact Ev.refl _ | refine Ev.drew ?_ | refine Ev.alloc ?_ _)) hgrow (fun k e => by have e2 : some W2.heap.size = some k := e; simp at e2; omega) : Ev W2 w3)
    have HM := hid ((hgrow.block (W2.heap.size + 1) (by simp) (fun e => by have e2 : some W2.heap.size = some (W2.heap.size + 1) := e.symm; simp at e2)).trans (alloc2 W2 (.cells #[] 90) (.cells #[.int .i64 l.wk, .int .i64 l.ct.lo, .int .i64 l.ct.hi] 90)).2.1 : w3.heap[W2.heap.size + 1]? = some (.cells #[.int .i64 l.wk, .int .i64 l.ct.lo, .int .i64 l.ct.hi] 90 (0, 0)))
    refine hK.out _ _ (HSE.out _ HE3.out) (fun hHeld => ?_)
    clear hK K
    (try simp only [Act.put, sA, sB, sC])
    refine wpAnyH_ready (rs := [6]) (by kernel_rfl) (by simp) ?_
    refine AllReadyH.cons rfl (fun K hK => ?_) AllReadyH.nil
    refine step_append_own rfl (.tmp 27) (.tmp 29) 24 rfl W2.heap.size 90 i0 _ 3 24 Try.underlying24 hi0 hz0 hz1 hz2 rfl (by decide) v' nl (f.looks.flatMap lkc) rfl hown3 ⟨W2.heap.size + 1, 0, none⟩ 1 1 [.int .i64 l.wk, .int .i64 l.ct.lo, .int .i64 l.ct.hi] rfl rfl (news_in HM.out) (by simp [Value.oneCell']) (by unfold maxLen; omega) (by omega) (Nat.le_trans HE3.out.size (by first | exact Nat.le_refl _ | (simp; done) | (simp; omega))) ?_
    intro v2 w4 hown2 hgrow2 _
    have hown4 : w4.ownsRow W2.heap.size 90 3 v2 (nl + 1) ((f.looks ++ [l]).flatMap lkc) := by rw [List.flatMap_append]; exact hown2
    obtain ⟨V, cx, rfl⟩ := own_form hown4
    have HE4 := hid (Ev.grown (HE3.out) hgrow2 (fun k e => (hown3.lt k e).1))
    have HX4 := hid (HE4.out.heap HC2.out)
    have HQ4 := hid (HE4.out.heap Q0c.out)
    clear hown2 hgrow2
    obtain ⟨y0, y1, y2, y3, y4, y5, y6, y7, y8⟩ := cells9 HX4.out
    obtain ⟨f0, f1, f2, f3, f4, f5, f6, f7, f8⟩ := frz9 HX4.out
    refine hK.out _ _ (HSE.out _ HE4.out) (fun hHeld => ?_)
    clear hK K
    (try simp only [Act.put, sA, sB, sC])
    refine wpAnyH_take (i := 7) (v := ?_) rfl (by kernel_rfl) (by kernel_rfl) (by kernel_rfl) (fun _ _ _ h => h) (Or.inl ⟨by rfl, ?hy⟩) (by assumption) ?_
    case hy => (intro w hSw; (try dsimp only at hSw); go_simp; with_reducible rfl)
    (try simp only [Act.put, sA, sB, sC])
    refine wpAnyH_ready (rs := [8]) (by kernel_rfl) (by simp) ?_
    refine AllReadyH.cons rfl (fun K hK => ?_) AllReadyH.nil
    go_simp
    refine hK.out _ _ (⟨fun o => (cell_set_ne (show w.heap.size ≠ p by omega)).trans ((HSE.out _ HE4.out).1 o), fun o => (cell_set_ne (show w.heap.size + 1 ≠ p by omega)).trans ((HSE.out _ HE4.out).2 o)⟩) (fun hHeld => ?_)
    clear hK K
    (try simp only [Act.put, sA, sB, sC])
    refine wpAnyH_done (by kernel_rfl) ?_ _
    go_wp2_with fail
    go_meet
    have hown5 := ownsRow_setCell_below hown4 (a := ⟨p, 8, none⟩) (show p < W2.heap.size by omega) (.slice V (nl + 1) cx)
    exact ⟨rfl, V, cx, Ev.setCell (HEW.out.trans HE4.out) (by simp; omega) _, set_heap HQ4.out (by omega), by rw [set_heap_same HX4.out]; rfl, fun h => sl_own (by decide) (lkc_len _) (by omega) hown5⟩
  ·
   go_simp
   refine hK.out _ _ (HSE.out _ (Ev.alloc (Ev.drew (Ev.refl W2)) _)) (fun hHeld => ?_)
   clear hK K
   (try simp only [Act.put, sA, sB, sC])
   refine wpAnyH_ready (rs := [0]) (by kernel_rfl) (by simp) ?_
   refine AllReadyH.cons rfl (fun K hK => ?_) AllReadyH.nil
   go_simp
   refine hK.out _ _ (HSE.out _ (Ev.alloc (Ev.alloc (Ev.drew (Ev.refl W2)) _) _)) (fun hHeld => ?_)
   clear hK K
   (try simp only [Act.put, sA, sB, sC])
   refine wpAnyH_ready (rs := [3]) (by kernel_rfl) (by simp) ?_
   refine AllReadyH.cons rfl (fun K hK => ?_) AllReadyH.nil
   have hEA := hid (Ev.alloc (Ev.alloc (Ev.drew (Ev.refl W2)) (.cells #[.int .i64 l.wk, .int .i64 l.ct.lo, .int .i64 l.ct.hi] 90)) (.cells #[] 90))
   have hOW : ((W2.alloc (.cells #[.int .i64 l.wk, .int .i64 l.ct.lo, .int .i64 l.ct.hi] 90)).alloc (.cells #[] 90)).ownsRow W2.heap.size 90 3 (.slice (some ⟨W2.heap.size + 1, 0, none⟩) 0 0) 0 (([] : List M.Lk).flatMap lkc) := by
    have h := World.ownsRow_lit (base := W2.heap.size) (e := 90) (size := 3) (W2.alloc (.cells #[.int .i64 l.wk, .int .i64 l.ct.lo, .int .i64 l.ct.hi] 90)) #[] 0 (by simp) (by decide) rfl
    rw [World.size_alloc] at h
    exact h
   refine step_append_any (enc := lkc) rfl (.tmp 24) (.tmp 26) 24 rfl W2.heap.size 90 i0 _ 3 24 Try.underlying24 hi0 hz0 hz1 hz2 rfl (by decide) _ 0 [] rfl (hOW.ev (by repeat (first | exact Ev.refl _ | refine Ev.drew ?_ | refine Ev.alloc ?_ _))) Al nl cl f.looks _ rfl (HW.out.ev (HEW.out.trans (by repeat (first | exact Ev.refl _ | refine Ev.drew ?_ | refine Ev.alloc ?_ _)))) (lkc_len _) (lkc_one _) (by unfold maxLen; omega) (by omega) (by first | (simp; done) | (simp; omega)) ?_
   intro v' w3 hown' hgrow
   have hown3 : w3.ownsRow W2.heap.size 90 3 v' nl (f.looks.flatMap lkc) := (by simpa using hown')
   have HE3 := hid (Ev.grown (by repeat (first | exact Ev.refl _ | refine Ev.drew ?_ | refine Ev.alloc ?_ _)) hgrow (fun k e => by have e2 : some (W2.heap.size + 1) = some k := e; simp at e2; omega) : Ev W2 w3)
   have HM := hid ((hgrow.block W2.heap.size (by simp; omega) (fun e => by have e2 : some (W2.heap.size + 1) = some W2.heap.size := e.symm; simp at e2)).trans (alloc2 W2 (.cells #[.int .i64 l.wk, .int .i64 l.ct.lo, .int .i64 l.ct.hi] 90) (.cells #[] 90)).1 : w3.heap[W2.heap.size]? = some (.cells #[.int .i64 l.wk, .int .i64 l.ct.lo, .int .i64 l.ct.hi] 90 (0, 0)))
   refine hK.out _ _ (HSE.out _ HE3.out) (fun hHeld => ?_)
   clear hK K
   (try simp only [Act.put, sA, sB, sC])
   refine wpAnyH_ready (rs := [6]) (by kernel_rfl) (by simp) ?_
   refine AllReadyH.cons rfl (fun K hK => ?_) AllReadyH.nil
   refine step_append_own rfl (.tmp 27) (.tmp 29) 24 rfl W2.heap.size 90 i0 _ 3 24 Try.underlying24 hi0 hz0 hz1 hz2 rfl (by decide) v' nl (f.looks.flatMap lkc) rfl hown3 ⟨W2.heap.size, 0, none⟩ 1 1 [.int .i64 l.wk, .int .i64 l.ct.lo, .int .i64 l.ct.hi] rfl rfl (news_in HM.out) (by simp [Value.oneCell']) (by unfold maxLen; omega) (by omega) (Nat.le_trans HE3.out.size (by first | exact Nat.le_refl _ | (simp; done) | (simp; omega))) ?_
   intro v2 w4 hown2 hgrow2 _
   have hown4 : w4.ownsRow W2.heap.size 90 3 v2 (nl + 1) ((f.looks ++ [l]).flatMap lkc) := by rw [List.flatMap_append]; exact hown2
   obtain ⟨V, cx, rfl⟩ := own_form hown4
   have HE4 := hid (Ev.grown (HE3.out) hgrow2 (fun k e => (hown3.lt k e).1))
   have HX4 := hid (HE4.out.heap HC2.out)
   have HQ4 := hid (HE4.out.heap Q0c.out)
   clear hown2 hgrow2
   obtain ⟨y0, y1, y2, y3, y4, y5, y6, y7, y8⟩ := cells9 HX4.out
   obtain ⟨f0, f1, f2, f3, f4, f5, f6, f7, f8⟩ := frz9 HX4.out
   refine hK.out _ _ (HSE.out _ HE4.out) (fun hHeld => ?_)
   clear hK K
   (try simp only [Act.put, sA, sB, sC])
   refine wpAnyH_take (i := 7) (v := ?_) rfl (by kernel_rfl) (by kernel_rfl) (by kernel_rfl) (fun _ _ _ h => h) (Or.inl ⟨by rfl, ?hy⟩) (by assumption) ?_
   case hy => (intro w hSw; (try dsimp only at hSw); go_simp; with_reducible rfl)
   (try simp only [Act.put, sA, sB, sC])
   refine wpAnyH_ready (rs := [8]) (by kernel_rfl) (by simp) ?_
   refine AllReadyH.cons rfl (fun K hK => ?_) AllReadyH.nil
   go_simp
   refine hK.out _ _ (⟨fun o => (cell_set_ne (show w.heap.size ≠ p by omega)).trans ((HSE.out _ HE4.out).1 o), fun o => (cell_set_ne (show w.heap.size + 1 ≠ p by omega)).trans ((HSE.out _ HE4.out).2 o)⟩) (fun hHeld => ?_)
   clear hK K
   (try simp only [Act.put, sA, sB, sC])
   refine wpAnyH_done (by kernel_rfl) ?_ _
   go_wp2_with fail
   go_meet
   have hown5 := ownsRow_setCell_below hown4 (a := ⟨p, 8, none⟩) (show p < W2.heap.size by omega) (.slice V (nl + 1) cx)
   exact ⟨rfl, V, cx, Ev.setCell (HEW.out.trans HE4.out) (by simp; omega) _, set_heap HQ4.out (by omega), by rw [set_heap_same HX4.out]; rfl, fun h => sl_own (by decide) (lkc_len _) (by omega) hown5⟩
 case rest =>
  obtain ⟨rfl, V, cx, hE5, hQ, hX, hS⟩ := hcut
  obtain ⟨W5, hW5⟩ : ∃ x, x = wc := ⟨_, rfl⟩
  subst hW5
  have HQ5 := hid hQ
  have HX5 := hid hX
  have HSX := hid (show CS W5 W5.heap.size (M.withL f (f.looks ++ [l])) Ag Aw Ab Ac V ng cg nw cw nb cb nc cc (nl + 1) cx from ⟨(HCS.out.ev hE5).g, (HCS.out.ev hE5).w_, (HCS.out.ev hE5).b, (HCS.out.ev hE5).c, hS (by omega)⟩)
  have HRY := hid (fun W (hE : Ev W5 W) => by have := readyL_c f (f.looks ++ [l]) Ag Aw Ab Ac V ng cg nw cw nb cb nc cc (nl + 1) cx hl0 W (fun _ => HSX.out.ev hE); rw [hrx] at this; exact this)
  clear hQ hX hS y0 y1 y2 q0 q1 q2 q3 q4 q5 q6 q7 q8
  obtain ⟨y0, y1, y2, y3, y4, y5, y6, y7, y8⟩ := cells9 HX5.out
  obtain ⟨q0, q1, q2, q3, q4, q5, q6, q7, q8⟩ := cells9 HQ5.out
  go_wp2_with (first | (go_at_call 37; with_reducible refine (HRD.out _ hE5).mono ?_; rintro e w6 ⟨rfl, hb6⟩; clear y0 y1 y2 y3 y4 y5 y6 y7 y8; clear q0 q1 q2 q3 q4 q5 q6 q7 q8; obtain ⟨y0, y1, y2, y3, y4, y5, y6, y7, y8⟩ := cells9 (hb6.heap HX5.out); obtain ⟨q0, q1, q2, q3, q4, q5, q6, q7, q8⟩ := cells9 (hb6.heap HQ5.out)) | (go_at_call 37; with_reducible refine (HRY.out _ hb6).mono ?_; rintro e w7 ⟨rfl, hb7⟩) | (go_at_call 14; with_reducible refine (awake_c _).mono ?_; rintro e w99 ⟨rfl, hb99⟩) | (with_reducible refine ⟨trivial, ?_⟩))
  go_ret
  exact ⟨rfl, ((hE5.trans hb6).trans hb7).trans hb99⟩

set_option maxRecDepth 1000000 in
set_option maxHeartbeats 8000000 in
theorem cropOne_yes (f : M.Cf) (l : M.Lk) (Ag Aw Ab Ac Al : Option Addr) (ng cg nw cw nb cb nc cc nl cl : Nat) (hl0 : -9223372036854775808 ≤ f.last) (b : Int) (b0 : 0 ≤ b) (b1 : b < 65536) (hncl : nl ≤ cl) (hnl44 : nl ≤ 5864062014800) (w : World) (HW : Hid (Sl0 lkc 3 w w.heap.size Al nl f.looks)) (hs : M.small ng nw nb nc nl → CS w w.heap.size f Ag Aw Ab Ac Al ng cg nw cw nb cb nc cc nl cl) (hr : M.rdy f ng nw nb nc nl = true) (hsm : M.small ng nw nb nc nl) (h0 : M.check f = 0) (hrx : M.rdy (M.withL f (f.looks ++ [l])) ng nw nb nc (nl + 1) = true) (h0x : M.check (M.withL f (f.looks ++ [l])) = 0) :
  Calls Try.prog 8 #[.agg #[.int .i64 f.last, .slice Ag ng cg, .slice Aw nw cw, .slice Ab nb cb, .slice Ac nc cc, .int .i64 f.ripe, .int .i64 f.late, .int .i64 f.trod, .slice Al nl cl], .agg #[.int .i64 l.wk, .int .i64 l.ct.lo, .int .i64 l.ct.hi], .int .u16 b] w fun e w' => e = .returned (.bool true) ∧ Ev w w' := by
 have HRD := hid (fun W (hE : Ev w W) => by have := ready_c f Ag Aw Ab Ac Al ng cg nw cw nb cb nc cc nl cl hl0 W (fun h => (hs h).ev hE); rw [hr] at this; exact this)
 have HCS := hid (hs hsm)
 have hlx : ((M.withL f (f.looks ++ [l]))).looks.length = nl + 1 := by show ((f.looks ++ [l])).length = nl + 1; rw [List.length_append, (hs hsm).l.len]; rfl
 have hl5 : nl + 1 ≤ 5 := by rw [← hlx]; exact (M.check0 h0x).2.2.1
 obtain ⟨s0, s1, s2, s3, s4⟩ := hsm
 have hlen : f.looks.length = nl := HCS.out.l.len
 have hbl := HCS.out.b.len
 have hv := (M.check_ok h0).1
 have hl9 := (M.check0 h0).1
 have hb3 := (M.check0 h0).2.1
 have h9 : 0 ≤ f.last ∧ f.last ≤ 9 := ⟨(M.valid_parts hv).1, hl9⟩
 have hmore := M.leave_more h0 h0x hlen
 have hnl1 := fun h => M.leave_nil h0x hlx h
 have HM7 := hid (show (M.shortest (M.spares f) nl).length ≤ 7 from by obtain ⟨_, _, _, _, h7, _⟩ := M.leave_spec h0 hlen; exact h7)
 have hsub : ∀ t ∈ M.truths (M.withL f (f.looks ++ [l])), t ∈ M.truths f := fun t ht => by have := M.truths_more (f := f) (a := (f.looks ++ [l])) (b := f.looks) (fun u hu => List.mem_append_left _ hu) t ht; rwa [M.with_same] at this
 have HLF := hid (fun (Bg Bw Bb Bc Bl : Option Addr) (kg dg kw dw kb db kc dc : Nat) (kl dl : Nat) W (h : CS W W.heap.size f Bg Bw Bb Bc Bl kg dg kw dw kb db kc dc kl dl) => Leave_ok f Bg Bw Bb Bc Bl kg dg kw dw kb db kc dc kl dl hl0 W h h0)
 have HLX := hid (fun (Bg Bw Bb Bc Bl : Option Addr) (kg dg kw dw kb db kc dc : Nat) (kl dl : Nat) W (h : CS W W.heap.size (M.withL f (f.looks ++ [l])) Bg Bw Bb Bc Bl kg dg kw dw kb db kc dc kl dl) => LeaveL_ok f (f.looks ++ [l]) Bg Bw Bb Bc Bl kg dg kw dw kb db kc dc kl dl hl0 W h h0x)
 have HPN := hid (fun W => planned_c f Ag Aw Ab Ac Al ng cg nw cw nb cb nc cc nl cl hv hl9 b b0 b1 W hbl (by omega))
 clear hr hs
 obtain ⟨i0, hi0, hz0, hz1, hz2⟩ := info_parts infoRL
 have hln := HW.out.len
 go_enter Try.func8, Try.ntmps8
 go_upto_region 1 with fail
 generalize hW0 : World.alloc (World.alloc w _) _ = W0
 have hE0 : Ev w W0 := by rw [← hW0]; exact Ev.alloc (Ev.alloc (Ev.refl _) _) _
 have hal := alloc2 w (.cells #[.int .i64 f.last, .slice Ag ng cg, .slice Aw nw cw, .slice Ab nb cb, .slice Ac nc cc, .int .i64 f.ripe, .int .i64 f.late, .int .i64 f.trod, .slice Al nl cl] 26) (.cells #[.int .i64 l.wk, .int .i64 l.ct.lo, .int .i64 l.ct.hi] 90)
 rw [hW0] at hal
 have Q0 := hid hal.1
 have Q1 := hid hal.2.1
 have HZ0 := hid hal.2.2
 clear hal hW0
 obtain ⟨q0, q1, q2, q3, q4, q5, q6, q7, q8⟩ := cells9 Q0.out
 have hlq := heap_lt Q0.out
 go_upto_region 2 with fail
 generalize hW2 : World.alloc W0 _ = W2
 have hE2 : Ev W0 W2 := by rw [← hW2]; exact Ev.alloc (Ev.refl _) _
 have hal := alloc1 W0 (.cells #[.int .i64 f.last, .slice Ag ng cg, .slice Aw nw cw, .slice Ab nb cb, .slice Ac nc cc, .int .i64 f.ripe, .int .i64 f.late, .int .i64 f.trod, .slice Al nl cl] 26)
 rw [hW2] at hal
 have HC2 := hid hal.1
 have HZ2 := hal.2
 have Q0c := hid (hE2.heap Q0.out)
 have Q1c := hid (hE2.heap Q1.out)
 have HEW := hid (hE0.trans hE2)
 have hzz := HZ0.out
 have hpa : w.heap.size + 2 ≤ W0.heap.size := by omega
 have hpb : W0.heap.size + 1 ≤ W2.heap.size := by omega
 clear hW2 hal hE2 Q0 Q1 q0 q1 q2 q3 q4 q5 q6 q7 q8 HZ0 hE0 hlq hzz HZ2
 generalize W0.heap.size = p at *
 obtain ⟨q0, q1, q2, q3, q4, q5, q6, q7, q8⟩ := cells9 Q0c.out
 obtain ⟨y0, y1, y2⟩ := cells3_ Q1c.out
 have hlq : w.heap.size < W2.heap.size := by omega
 have hlq1 : w.heap.size + 1 < W2.heap.size := by omega
 have HSE : Hid (∀ w', Ev W2 w' → (∀ o, w'.cell? ⟨w.heap.size, o, none⟩ = W2.cell? ⟨w.heap.size, o, none⟩) ∧ (∀ o, w'.cell? ⟨w.heap.size + 1, o, none⟩ = W2.cell? ⟨w.heap.size + 1, o, none⟩)) := hid (fun w' h => ⟨fun o => h.cells.1 _ o hlq, fun o => h.cells.1 _ o hlq1⟩)
 go_cut [6] (fun v W1 => v = .bool false ∧ ∃ V : Option Addr, ∃ cx : Nat, Ev w W1 ∧ W1.heap[w.heap.size]? = some (.cells #[.int .i64 f.last, .slice Ag ng cg, .slice Aw nw cw, .slice Ab nb cb, .slice Ac nc cc, .int .i64 f.ripe, .int .i64 f.late, .int .i64 f.trod, .slice Al nl cl] 26 (0, 0)) ∧ W1.heap[p]? = some (.cells #[.int .i64 f.last, .slice Ag ng cg, .slice Aw nw cw, .slice Ab nb cb, .slice Ac nc cc, .int .i64 f.ripe, .int .i64 f.late, .int .i64 f.trod, .slice V (nl + 1) cx] 26 (0, 0)) ∧ (nl ≤ 7 → Sl lkc 3 W1 W1.heap.size V (nl + 1) cx (f.looks ++ [l])))
 case first =>
  refine wp_region_held_drew (S := fun w' => (∀ o, w'.cell? ⟨w.heap.size, o, none⟩ = W2.cell? ⟨w.heap.size, o, none⟩) ∧ (∀ o, w'.cell? ⟨w.heap.size + 1, o, none⟩ = W2.cell? ⟨w.heap.size + 1, o, none⟩)) (by kernel_rfl) ⟨fun o => rfl, fun o => rfl⟩ (fun hHeld => ?_)
  refine wpAnyH_take (i := 1) (v := ?_) rfl (by kernel_rfl) (by kernel_rfl) (by kernel_rfl) (fun _ _ _ h => h) (Or.inl ⟨by rfl, ?hy⟩) (by assumption) ?_
  case hy => (intro w hSw; (try dsimp only at hSw); go_simp; with_reducible rfl)
  (try simp only [Act.put, sA, sB, sC])
  refine wpAnyH_take (i := 2) (v := ?_) rfl (by kernel_rfl) (by kernel_rfl) (by kernel_rfl) (fun _ _ _ h => h) (Or.inl ⟨by rfl, ?hy⟩) (by assumption) ?_
  case hy => (intro w hSw; (try dsimp only at hSw); go_simp; with_reducible rfl)
  (try simp only [Act.put, sA, sB, sC])
  refine wpAnyH_take (i := 4) (v := ?_) rfl (by kernel_rfl) (by kernel_rfl) (by kernel_rfl) (fun _ _ _ h => h) (Or.inl ⟨by rfl, ?hy⟩) (by assumption) ?_
  case hy => (intro w hSw; (try dsimp only at hSw); go_simp; with_reducible rfl)
  (try simp only [Act.put, sA, sB, sC])
  refine wpAnyH_ready (rs := [0, 5]) (by kernel_rfl) (by simp) ?_
  refine AllReadyH.cons rfl (fun K hK => ?_) (AllReadyH.cons rfl (fun K hK => ?_) AllReadyH.nil)
  ·
   go_simp
   refine hK.out _ _ (HSE.out _ (Ev.alloc (Ev.drew (Ev.refl W2)) _)) (fun hHeld => ?_)
   clear hK K
   (try simp only [Act.put, sA, sB, sC])
   refine wpAnyH_ready (rs := [3, 5]) (by kernel_rfl) (by simp) ?_
   refine AllReadyH.cons rfl (fun K hK => ?_) (AllReadyH.cons rfl (fun K hK => ?_) AllReadyH.nil)
   ·
    have hEA := hid (Ev.alloc (Ev.drew (Ev.refl W2)) (.cells #[] 90))
    refine step_append_any (enc := lkc) rfl (.tmp 24) (.tmp 26) 24 rfl W2.heap.size 90 i0 _ 3 24 Try.underlying24 hi0 hz0 hz1 hz2 rfl (by decide) _ 0 [] rfl ((World.ownsRow_lit W2 #[] 0 (Nat.le_refl _) (by decide) rfl).ev (by repeat (first | exact Ev.refl _ | refine Ev.drew ?_ | refine Ev.alloc ?_ _))) Al nl cl f.looks _ rfl (HW.out.ev (HEW.out.trans (by repeat (first | exact Ev.refl _ | refine Ev.drew ?_ | refine Ev.alloc ?_ _)))) (lkc_len _) (lkc_one _) (by unfold maxLen; omega) (by omega) (by first | (simp; done) | (simp; omega)) ?_
    intro v' w3 hown' hgrow
    have hown3 : w3.ownsRow W2.heap.size 90 3 v' nl (f.looks.flatMap lkc) := (by simpa using hown')
    have HE3 := hid (Ev.grown (by repeat (first | exact Ev.refl _ | refine Ev.drew ?_ | refine Ev.alloc ?_ _)) hgrow (fun k e => by have e2 : some W2.heap.size = some k := e; simp at e2; omega) : Ev W2 w3)
    refine hK.out _ _ (HSE.out _ HE3.out) (fun hHeld => ?_)
    clear hK K
    (try simp only [Act.put, sA, sB, sC])
    refine wpAnyH_ready (rs := [5]) (by kernel_rfl) (by simp) ?_
    refine AllReadyH.cons rfl (fun K hK => ?_) AllReadyH.nil
    go_simp
    refine hK.out _ _ (HSE.out _ (Ev.alloc HE3.out _)) (fun hHeld => ?_)
    clear hK K
    (try simp only [Act.put, sA, sB, sC])
    refine wpAnyH_ready (rs := [6]) (by kernel_rfl) (by simp) ?_
    refine AllReadyH.cons rfl (fun K hK => ?_) AllReadyH.nil
    refine step_append_own rfl (.tmp 27) (.tmp 29) 24 rfl W2.heap.size 90 i0 _ 3 24 Try.underlying24 hi0 hz0 hz1 hz2 rfl (by decide) v' nl (f.looks.flatMap lkc) rfl (hown3.alloc _) ⟨w3.heap.size, 0, none⟩ 1 1 [.int .i64 l.wk, .int .i64 l.ct.lo, .int .i64 l.ct.hi] rfl rfl (news_in (alloc1 w3 _).1) (by simp [Value.oneCell']) (by unfold maxLen; omega) (by omega) (Nat.le_trans HE3.out.size (by first | exact Nat.le_refl _ | (simp; done) | (simp; omega))) ?_
    intro v2 w4 hown2 hgrow2 _
    have hown4 : w4.ownsRow W2.heap.size 90 3 v2 (nl + 1) ((f.looks ++ [l]).flatMap lkc) := by rw [List.flatMap_append]; exact hown2
    obtain ⟨V, cx, rfl⟩ := own_form hown4
    have HE4 := hid (Ev.grown (Ev.alloc HE3.out _) hgrow2 (fun k e => (hown3.lt k e).1))
    have HX4 := hid (HE4.out.heap HC2.out)
    have HQ4 := hid (HE4.out.heap Q0c.out)
    clear hown2 hgrow2
    obtain ⟨y0, y1, y2, y3, y4, y5, y6, y7, y8⟩ := cells9 HX4.out
    obtain ⟨f0, f1, f2, f3, f4, f5, f6, f7, f8⟩ := frz9 HX4.out
    refine hK.out _ _ (HSE.out _ HE4.out) (fun hHeld => ?_)
    clear hK K
    (try simp only [Act.put, sA, sB, sC])
    refine wpAnyH_take (i := 7) (v := ?_) rfl (by kernel_rfl) (by kernel_rfl) (by kernel_rfl) (fun _ _ _ h => h) (Or.inl ⟨by rfl, ?hy⟩) (by assumption) ?_
    case hy => (intro w hSw; (try dsimp only at hSw); go_simp; with_reducible rfl)
    (try simp only [Act.put, sA, sB, sC])
    refine wpAnyH_ready (rs := [8]) (by kernel_rfl) (by simp) ?_
    refine AllReadyH.cons rfl (fun K hK => ?_) AllReadyH.nil
    go_simp
    refine hK.out _ _ (⟨fun o => (cell_set_ne (show w.heap.size ≠ p by omega)).trans ((HSE.out _ HE4.out).1 o), fun o => (cell_set_ne (show w.heap.size + 1 ≠ p by omega)).trans ((HSE.out _ HE4.out).2 o)⟩) (fun hHeld => ?_)
    clear hK K
    (try simp only [Act.put, sA, sB, sC])
    refine wpAnyH_done (by kernel_rfl) ?_ _
    go_wp2_with fail
    go_meet
    have hown5 := ownsRow_setCell_below hown4 (a := ⟨p, 8, none⟩) (show p < W2.heap.size by omega) (.slice V (nl + 1) cx)
    exact ⟨rfl, V, cx, Ev.setCell (HEW.out.trans HE4.out) (by simp; omega) _, set_heap HQ4.out (by omega), by rw [set_heap_same HX4.out]; rfl, fun h => sl_own (by decide) (lkc_len _) (by omega) hown5⟩
   ·
    go_simp
    refine hK.out _ _ (HSE.out _ (Ev.alloc (Ev.alloc (Ev.drew (Ev.refl W2)) _) _)) (fun hHeld => ?_)
    clear hK K
    (try simp only [Act.put, sA, sB, sC])
    refine wpAnyH_ready (rs := [3]) (by kernel_rfl) (by simp) ?_
    refine AllReadyH.cons rfl (fun K hK => ?_) AllReadyH.nil
    have hEA := hid (Ev.alloc (Ev.alloc (Ev.drew (Ev.refl W2)) (.cells #[] 90)) (.cells #[.int .i64 l.wk, .int .i64 l.ct.lo, .int .i64 l.ct.hi] 90))
    refine step_append_any (enc := lkc) rfl (.tmp 24) (.tmp 26) 24 rfl W2.heap.size 90 i0 _ 3 24 Try.underlying24 hi0 hz0 hz1 hz2 rfl (by decide) _ 0 [] rfl ((World.ownsRow_lit W2 #[] 0 (Nat.le_refl _) (by decide) rfl).ev (by repeat (first | exact Ev.refl _ | refine Ev.drew ?_ | refine Ev.alloc ?_ _))) Al nl cl f.looks _ rfl (HW.out.ev (HEW.out.trans (by repeat (first | exact Ev.refl _ | refine Ev.drew ?_ | refine Ev.alloc ?_ _)))) (lkc_len _) (lkc_one _) (by unfold maxLen; omega) (by omega) (by first | (simp; done) | (simp; omega)) ?_
    intro v' w3 hown' hgrow
    have hown3 : w3.ownsRow W2.heap.size 90 3 v' nl (f.looks.flatMap lkc) := (by simpa using hown')
    have HE3 := hid (Ev.grown (by repeat (first | exact Ev.refl _ | refine Ev.drew ?_ | refine Ev.alloc ?_ _)) hgrow (fun k e => by have e2 : some W2.heap.size = some k := e; simp at e2; omega) : Ev W2 w3)
    have HM := hid ((hgrow.block (W2.heap.size + 1) (by simp) (fun e => by have e2 : some W2.heap.size = some (W2.heap.size + 1) := e.symm; simp at e2)).trans (alloc2 W2 (.cells #[] 90) (.cells #[.int .i64 l.wk, .int .i64 l.ct.lo, .int .i64 l.ct.hi] 90)).2.1 : w3.heap[W2.heap.size + 1]? = some (.cells #[.int .i64 l.wk, .int .i64 l.ct.lo, .int .i64 l.ct.hi] 90 (0, 0)))
    refine hK.out _ _ (HSE.out _ HE3.out) (fun hHeld => ?_)
    clear hK K
    (try simp only [Act.put, sA, sB, sC])
    refine wpAnyH_ready (rs := [6]) (by kernel_rfl) (by simp) ?_
    refine AllReadyH.cons rfl (fun K hK => ?_) AllReadyH.nil
    refine step_append_own rfl (.tmp 27) (.tmp 29) 24 rfl W2.heap.size 90 i0 _ 3 24 Try.underlying24 hi0 hz0 hz1 hz2 rfl (by decide) v' nl (f.looks.flatMap lkc) rfl hown3 ⟨W2.heap.size + 1, 0, none⟩ 1 1 [.int .i64 l.wk, .int .i64 l.ct.lo, .int .i64 l.ct.hi] rfl rfl (news_in HM.out) (by simp [Value.oneCell']) (by unfold maxLen; omega) (by omega) (Nat.le_trans HE3.out.size (by first | exact Nat.le_refl _ | (simp; done) | (simp; omega))) ?_
    intro v2 w4 hown2 hgrow2 _
    have hown4 : w4.ownsRow W2.heap.size 90 3 v2 (nl + 1) ((f.looks ++ [l]).flatMap lkc) := by rw [List.flatMap_append]; exact hown2
    obtain ⟨V, cx, rfl⟩ := own_form hown4
    have HE4 := hid (Ev.grown (HE3.out) hgrow2 (fun k e => (hown3.lt k e).1))
    have HX4 := hid (HE4.out.heap HC2.out)
    have HQ4 := hid (HE4.out.heap Q0c.out)
    clear hown2 hgrow2
    obtain ⟨y0, y1, y2, y3, y4, y5, y6, y7, y8⟩ := cells9 HX4.out
    obtain ⟨f0, f1, f2, f3, f4, f5, f6, f7, f8⟩ := frz9 HX4.out
    refine hK.out _ _ (HSE.out _ HE4.out) (fun hHeld => ?_)
    clear hK K
    (try simp only [Act.put, sA, sB, sC])
    refine wpAnyH_take (i := 7) (v := ?_) rfl (by kernel_rfl) (by kernel_rfl) (by kernel_rfl) (fun _ _ _ h => h) (Or.inl ⟨by rfl, ?hy⟩) (by assumption) ?_
    case hy => (intro w hSw; (try dsimp only at hSw); go_simp; with_reducible rfl)
    (try simp only [Act.put, sA, sB, sC])
    refine wpAnyH_ready (rs := [8]) (by kernel_rfl) (by simp) ?_
    refine AllReadyH.cons rfl (fun K hK => ?_) AllReadyH.nil
    go_simp
    refine hK.out _ _ (⟨fun o => (cell_set_ne (show w.heap.size ≠ p by omega)).trans ((HSE.out _ HE4.out).1 o), fun o => (cell_set_ne (show w.heap.size + 1 ≠ p by omega)).trans ((HSE.out _ HE4.out).2 o)⟩) (fun hHeld => ?_)
    clear hK K
    (try simp only [Act.put, sA, sB, sC])
    refine wpAnyH_done (by kernel_rfl) ?_ _
    go_wp2_with fail
    go_meet
    have hown5 := ownsRow_setCell_below hown4 (a := ⟨p, 8, none⟩) (show p < W2.heap.size by omega) (.slice V (nl + 1) cx)
    exact ⟨rfl, V, cx, Ev.setCell (HEW.out.trans HE4.out) (by simp; omega) _, set_heap HQ4.out (by omega), by rw [set_heap_same HX4.out]; rfl, fun h => sl_own (by decide) (lkc_len _) (by omega) hown5⟩
  ·
   go_simp
   refine hK.out _ _ (HSE.out _ (Ev.alloc (Ev.drew (Ev.refl W2)) _)) (fun hHeld => ?_)
   clear hK K
   (try simp only [Act.put, sA, sB, sC])
   refine wpAnyH_ready (rs := [0]) (by kernel_rfl) (by simp) ?_
   refine AllReadyH.cons rfl (fun K hK => ?_) AllReadyH.nil
   go_simp
   refine hK.out _ _ (HSE.out _ (Ev.alloc (Ev.alloc (Ev.drew (Ev.refl W2)) _) _)) (fun hHeld => ?_)
   clear hK K
   (try simp only [Act.put, sA, sB, sC])
   refine wpAnyH_ready (rs := [3]) (by kernel_rfl) (by simp) ?_
   refine AllReadyH.cons rfl (fun K hK => ?_) AllReadyH.nil
   have hEA := hid (Ev.alloc (Ev.alloc (Ev.drew (Ev.refl W2)) (.cells #[.int .i64 l.wk, .int .i64 l.ct.lo, .int .i64 l.ct.hi] 90)) (.cells #[] 90))
   have hOW : ((W2.alloc (.cells #[.int .i64 l.wk, .int .i64 l.ct.lo, .int .i64 l.ct.hi] 90)).alloc (.cells #[] 90)).ownsRow W2.heap.size 90 3 (.slice (some ⟨W2.heap.size + 1, 0, none⟩) 0 0) 0 (([] : List M.Lk).flatMap lkc) := by
    have h := World.ownsRow_lit (base := W2.heap.size) (e := 90) (size := 3) (W2.alloc (.cells #[.int .i64 l.wk, .int .i64 l.ct.lo, .int .i64 l.ct.hi] 90)) #[] 0 (by simp) (by decide) rfl
    rw [World.size_alloc] at h
    exact h
   refine step_append_any (enc := lkc) rfl (.tmp 24) (.tmp 26) 24 rfl W2.heap.size 90 i0 _ 3 24 Try.underlying24 hi0 hz0 hz1 hz2 rfl (by decide) _ 0 [] rfl (hOW.ev (by repeat (first | exact Ev.refl _ | refine Ev.drew ?_ | refine Ev.alloc ?_ _))) Al nl cl f.looks _ rfl (HW.out.ev (HEW.out.trans (by repeat (first | exact Ev.refl _ | refine Ev.drew ?_ | refine Ev.alloc ?_ _)))) (lkc_len _) (lkc_one _) (by unfold maxLen; omega) (by omega) (by first | (simp; done) | (simp; omega)) ?_
   intro v' w3 hown' hgrow
   have hown3 : w3.ownsRow W2.heap.size 90 3 v' nl (f.looks.flatMap lkc) := (by simpa using hown')
   have HE3 := hid (Ev.grown (by repeat (first | exact Ev.refl _ | refine Ev.drew ?_ | refine Ev.alloc ?_ _)) hgrow (fun k e => by have e2 : some (W2.heap.size + 1) = some k := e; simp at e2; omega) : Ev W2 w3)
   have HM := hid ((hgrow.block W2.heap.size (by simp; omega) (fun e => by have e2 : some (W2.heap.size + 1) = some W2.heap.size := e.symm; simp at e2)).trans (alloc2 W2 (.cells #[.int .i64 l.wk, .int .i64 l.ct.lo, .int .i64 l.ct.hi] 90) (.cells #[] 90)).1 : w3.heap[W2.heap.size]? = some (.cells #[.int .i64 l.wk, .int .i64 l.ct.lo, .int .i64 l.ct.hi] 90 (0, 0)))
   refine hK.out _ _ (HSE.out _ HE3.out) (fun hHeld => ?_)
   clear hK K
   (try simp only [Act.put, sA, sB, sC])
   refine wpAnyH_ready (rs := [6]) (by kernel_rfl) (by simp) ?_
   refine AllReadyH.cons rfl (fun K hK => ?_) AllReadyH.nil
   refine step_append_own rfl (.tmp 27) (.tmp 29) 24 rfl W2.heap.size 90 i0 _ 3 24 Try.underlying24 hi0 hz0 hz1 hz2 rfl (by decide) v' nl (f.looks.flatMap lkc) rfl hown3 ⟨W2.heap.size, 0, none⟩ 1 1 [.int .i64 l.wk, .int .i64 l.ct.lo, .int .i64 l.ct.hi] rfl rfl (news_in HM.out) (by simp [Value.oneCell']) (by unfold maxLen; omega) (by omega) (Nat.le_trans HE3.out.size (by first | exact Nat.le_refl _ | (simp; done) | (simp; omega))) ?_
   intro v2 w4 hown2 hgrow2 _
   have hown4 : w4.ownsRow W2.heap.size 90 3 v2 (nl + 1) ((f.looks ++ [l]).flatMap lkc) := by rw [List.flatMap_append]; exact hown2
   obtain ⟨V, cx, rfl⟩ := own_form hown4
   have HE4 := hid (Ev.grown (HE3.out) hgrow2 (fun k e => (hown3.lt k e).1))
   have HX4 := hid (HE4.out.heap HC2.out)
   have HQ4 := hid (HE4.out.heap Q0c.out)
   clear hown2 hgrow2
   obtain ⟨y0, y1, y2, y3, y4, y5, y6, y7, y8⟩ := cells9 HX4.out
   obtain ⟨f0, f1, f2, f3, f4, f5, f6, f7, f8⟩ := frz9 HX4.out
   refine hK.out _ _ (HSE.out _ HE4.out) (fun hHeld => ?_)
   clear hK K
   (try simp only [Act.put, sA, sB, sC])
   refine wpAnyH_take (i := 7) (v := ?_) rfl (by kernel_rfl) (by kernel_rfl) (by kernel_rfl) (fun _ _ _ h => h) (Or.inl ⟨by rfl, ?hy⟩) (by assumption) ?_
   case hy => (intro w hSw; (try dsimp only at hSw); go_simp; with_reducible rfl)
   (try simp only [Act.put, sA, sB, sC])
   refine wpAnyH_ready (rs := [8]) (by kernel_rfl) (by simp) ?_
   refine AllReadyH.cons rfl (fun K hK => ?_) AllReadyH.nil
   go_simp
   refine hK.out _ _ (⟨fun o => (cell_set_ne (show w.heap.size ≠ p by omega)).trans ((HSE.out _ HE4.out).1 o), fun o => (cell_set_ne (show w.heap.size + 1 ≠ p by omega)).trans ((HSE.out _ HE4.out).2 o)⟩) (fun hHeld => ?_)
   clear hK K
   (try simp only [Act.put, sA, sB, sC])
   refine wpAnyH_done (by kernel_rfl) ?_ _
   go_wp2_with fail
   go_meet
   have hown5 := ownsRow_setCell_below hown4 (a := ⟨p, 8, none⟩) (show p < W2.heap.size by omega) (.slice V (nl + 1) cx)
   exact ⟨rfl, V, cx, Ev.setCell (HEW.out.trans HE4.out) (by simp; omega) _, set_heap HQ4.out (by omega), by rw [set_heap_same HX4.out]; rfl, fun h => sl_own (by decide) (lkc_len _) (by omega) hown5⟩
 case rest =>
  obtain ⟨rfl, V, cx, hE5, hQ, hX, hS⟩ := hcut
  obtain ⟨W5, hW5⟩ : ∃ x, x = wc := ⟨_, rfl⟩
  subst hW5
  have HQ5 := hid hQ
  have HX5 := hid hX
  have HSX := hid (show CS W5 W5.heap.size (M.withL f (f.looks ++ [l])) Ag Aw Ab Ac V ng cg nw cw nb cb nc cc (nl + 1) cx from ⟨(HCS.out.ev hE5).g, (HCS.out.ev hE5).w_, (HCS.out.ev hE5).b, (HCS.out.ev hE5).c, hS (by omega)⟩)
  have HRY := hid (fun W (hE : Ev W5 W) => by have := readyL_c f (f.looks ++ [l]) Ag Aw Ab Ac V ng cg nw cw nb cb nc cc (nl + 1) cx hl0 W (fun _ => HSX.out.ev hE); rw [hrx] at this; exact this)
  have HM := hid hmore
  have HN := hid hnl1
  have HSUB := hid hsub
  have HLF' := hid (fun (Bg Bw Bb Bc Bl : Option Addr) (kg dg kw dw kb db kc dc dl : Nat) W (h : CS W W.heap.size f Bg Bw Bb Bc Bl kg dg kw dw kb db kc dc nl dl) => HLF.out Bg Bw Bb Bc Bl kg dg kw dw kb db kc dc nl dl W h)
  have HLX' := hid (fun (Bg Bw Bb Bc Bl : Option Addr) (kg dg kw dw kb db kc dc dl : Nat) W (h : CS W W.heap.size (M.withL f (f.looks ++ [l])) Bg Bw Bb Bc Bl kg dg kw dw kb db kc dc (nl + 1) dl) => HLX.out Bg Bw Bb Bc Bl kg dg kw dw kb db kc dc (nl + 1) dl W h)
  clear HLF HLX hmore hnl1 hsub hlx hlen hln
  generalize M.shortest (M.spares f) nl = sf at HLF' HM HM7
  generalize M.shortest (M.spares (M.withL f (f.looks ++ [l]))) (nl + 1) = sx at HLX' HM HN
  obtain ⟨hm1, hm2⟩ := HM.out
  clear hQ hX hS y0 y1 y2 q0 q1 q2 q3 q4 q5 q6 q7 q8
  obtain ⟨y0, y1, y2, y3, y4, y5, y6, y7, y8⟩ := cells9 HX5.out
  obtain ⟨q0, q1, q2, q3, q4, q5, q6, q7, q8⟩ := cells9 HQ5.out
  go_upto_region 5 with (first | (go_at_call 37; with_reducible refine (HRD.out _ hE5).mono ?_; rintro e w6 ⟨rfl, hb6⟩; clear y0 y1 y2 y3 y4 y5 y6 y7 y8; clear q0 q1 q2 q3 q4 q5 q6 q7 q8; obtain ⟨y0, y1, y2, y3, y4, y5, y6, y7, y8⟩ := cells9 (hb6.heap HX5.out); obtain ⟨q0, q1, q2, q3, q4, q5, q6, q7, q8⟩ := cells9 (hb6.heap HQ5.out)) | (go_at_call 37; with_reducible refine (HRY.out _ hb6).mono ?_; rintro e w7 ⟨rfl, hb7⟩; have HP0 := hid (hb6.trans hb7); clear y0 y1 y2 y3 y4 y5 y6 y7 y8; clear q0 q1 q2 q3 q4 q5 q6 q7 q8; obtain ⟨y0, y1, y2, y3, y4, y5, y6, y7, y8⟩ := cells9 (HP0.out.heap HX5.out); obtain ⟨q0, q1, q2, q3, q4, q5, q6, q7, q8⟩ := cells9 (HP0.out.heap HQ5.out)) | (with_reducible refine ⟨trivial, ?_⟩))
  go_upto_region 6 with (first | (go_at_call 16; with_reducible refine (Field_c f Ag Aw Ab Ac Al ng cg nw cw nb cb nc cc nl cl (by omega) (by omega) (by omega) (by omega) (by omega) _ (HCS.out.ev (hE5.trans HP0.out))).mono ?_; rintro e x1 ⟨⟨Bg1, dg1, Bw1, dw1, Bb1, db1, Bc1, dc1, Bl1, dl1, rfl, hc⟩, hb⟩; have HP1 := hid ((HP0.out).trans hb); have HC1 := hid hc; clear hc hb) | (go_at_call 31; with_reducible refine (HLF'.out Bg1 Bw1 Bb1 Bc1 Bl1 ng dg1 nw dw1 nb db1 nc dc1 dl1 _ HC1.out).mono ?_; rintro e x2 ⟨⟨LB2, ld2, rfl, _⟩, hb⟩; have HP2 := hid (HP1.out.trans hb); clear hb; clear y0 y1 y2 y3 y4 y5 y6 y7 y8; clear q0 q1 q2 q3 q4 q5 q6 q7 q8; obtain ⟨y0, y1, y2, y3, y4, y5, y6, y7, y8⟩ := cells9 (HP2.out.heap HX5.out); obtain ⟨q0, q1, q2, q3, q4, q5, q6, q7, q8⟩ := cells9 (HP2.out.heap HQ5.out)))
  go_upto_region 7 with (first | (go_at_call 16; with_reducible refine (FieldL_c f (f.looks ++ [l]) Ag Aw Ab Ac V ng cg nw cw nb cb nc cc (nl + 1) cx (by omega) (by omega) (by omega) (by omega) (by omega) _ (HSX.out.ev HP2.out)).mono ?_; rintro e x3 ⟨⟨Bg3, dg3, Bw3, dw3, Bb3, db3, Bc3, dc3, Bl3, dl3, rfl, hc⟩, hb⟩; have HP3 := hid ((HP2.out).trans hb); have HC3 := hid hc; clear hc hb) | (go_at_call 31; with_reducible refine (HLX'.out Bg3 Bw3 Bb3 Bc3 Bl3 ng dg3 nw dw3 nb db3 nc dc3 dl3 _ HC3.out).mono ?_; rintro e x4 ⟨⟨LB4, ld4, rfl, _⟩, hb⟩; have HP4 := hid (HP3.out.trans hb); clear hb; clear y0 y1 y2 y3 y4 y5 y6 y7 y8; clear q0 q1 q2 q3 q4 q5 q6 q7 q8; obtain ⟨y0, y1, y2, y3, y4, y5, y6, y7, y8⟩ := cells9 (HP4.out.heap HX5.out); obtain ⟨q0, q1, q2, q3, q4, q5, q6, q7, q8⟩ := cells9 (HP4.out.heap HQ5.out)))
  have hm7 := HM7.out
  have g1 : ¬ ((sx.length : Int) < sf.length) := by omega
  have g2 : IntKind.i64.wrap ((sf.length : Int) + 1) = (sf.length : Int) + 1 := IntWalk.i64_in _ (by omega)
  have g3 : ¬ ((sx.length : Int) > (sf.length : Int) + 1) := by omega
  have g3' : ¬ ((sf.length : Int) + 1 < sx.length) := by omega
  by_cases hm0 : 0 < sx.length
  ·
   have g4 : (0 : Int) < sx.length := by omega
   go_wp2_with (first | (go_at_call 14; with_reducible refine (awake_c _).mono ?_; rintro e w99 ⟨rfl, hb99⟩) | (with_reducible refine ⟨trivial, ?_⟩))
   go_ret
   exact ⟨rfl, (hE5.trans HP4.out).trans hb99⟩
  ·
   have g4 : ¬ ((0 : Int) < sx.length) := by omega
   have htx : M.truths (M.withL f (f.looks ++ [l])) ≠ [] := HN.out (by omega)
   have htf : M.truths f ≠ [] := fun e => by
    cases ht : M.truths (M.withL f (f.looks ++ [l])) with
    | nil => exact htx ht
    | cons t r => have := HSUB.out t (by rw [ht]; simp); rw [e] at this; cases this
   have hbst : (M.best f (M.truths f)).2 ≤ (M.best (M.withL f (f.looks ++ [l])) (M.truths (M.withL f (f.looks ++ [l])))).2 := M.best_sub (f := f) h9 htx HSUB.out
   have HBF := hid (fun (Bg Bw Bb Bc Bl : Option Addr) (kg dg kw dw kb db kc dc kl dl : Nat) W (h : CS W W.heap.size f Bg Bw Bb Bc Bl kg dg kw dw kb db kc dc kl dl) => Best_ok f Bg Bw Bb Bc Bl kg dg kw dw kb db kc dc kl dl hl0 W h (M.begin_is h0 rfl htf))
   have HBX := hid (fun (Bg Bw Bb Bc Bl : Option Addr) (kg dg kw dw kb db kc dc kl dl : Nat) W (h : CS W W.heap.size (M.withL f (f.looks ++ [l])) Bg Bw Bb Bc Bl kg dg kw dw kb db kc dc kl dl) => BestL_ok f (f.looks ++ [l]) Bg Bw Bb Bc Bl kg dg kw dw kb db kc dc kl dl hl0 W h (M.begin_is h0x rfl htx))
   generalize M.best f (M.truths f) = bf at hbst HBF
   generalize M.best (M.withL f (f.looks ++ [l])) (M.truths (M.withL f (f.looks ++ [l]))) = bx at hbst HBX
   go_upto_region 12 with (go_at_call 39; with_reducible refine (HPN.out _).mono ?_; rintro e x5 ⟨⟨plan, hpl, L, dL, rfl, hsl⟩, hb⟩; have HK5 := hid (Ev.refl x5); have HP5 := hid (HP4.out.trans hb); have HSL := hid hsl; clear hb hsl; clear y0 y1 y2 y3 y4 y5 y6 y7 y8; clear q0 q1 q2 q3 q4 q5 q6 q7 q8; obtain ⟨y0, y1, y2, y3, y4, y5, y6, y7, y8⟩ := cells9 (HP5.out.heap HX5.out); obtain ⟨q0, q1, q2, q3, q4, q5, q6, q7, q8⟩ := cells9 (HP5.out.heap HQ5.out))
   generalize hpn : plan.length = pn at HSL ⊢
   have hpb : pn ≤ 3 := by have := (M.plan_parts hpl).1; omega
   have HWF := hid (fun (Bg Bw Bb Bc Bl : Option Addr) (kg dg kw dw kb db kc dc kl dl : Nat) (P : Option Addr) (dP : Nat) W (h : CS W W.heap.size f Bg Bw Bb Bc Bl kg dg kw dw kb db kc dc kl dl) (hp : Sl ics 1 W W.heap.size P pn dP plan) => Worth_ok f Bg Bw Bb Bc Bl kg dg kw dw kb db kc dc kl dl P pn dP plan hl0 W h hp (M.begin_is h0 hpl htf))
   have HWX := hid (fun (Bg Bw Bb Bc Bl : Option Addr) (kg dg kw dw kb db kc dc kl dl : Nat) (P : Option Addr) (dP : Nat) W (h : CS W W.heap.size (M.withL f (f.looks ++ [l])) Bg Bw Bb Bc Bl kg dg kw dw kb db kc dc kl dl) (hp : Sl ics 1 W W.heap.size P pn dP plan) => WorthP_ok f (f.looks ++ [l]) Bg Bw Bb Bc Bl kg dg kw dw kb db kc dc kl dl P pn dP plan hl0 W h hp (M.begin_is h0x hpl htx))
   have hspan : (M.worth f plan).lo ≤ (M.worth (M.withL f (f.looks ++ [l])) plan).lo ∧ (M.worth (M.withL f (f.looks ++ [l])) plan).hi ≤ (M.worth f plan).hi := M.span_sub (a := (M.truths (M.withL f (f.looks ++ [l]))).map fun t => M.total f t plan) (b := (M.truths f).map fun t => M.total f t plan) (by simpa using htx) (fun y hy => by
    obtain ⟨t, ht, rfl⟩ := List.mem_map.1 hy
    exact List.mem_map.2 ⟨t, HSUB.out t ht, rfl⟩)
   generalize M.worth f plan = wf at hspan HWF
   generalize M.worth (M.withL f (f.looks ++ [l])) plan = wx at hspan HWX
   have HIN := hid (fun W => by have := inside_c wx wf W; rw [show M.inside wx wf = true from by unfold M.inside; rw [Bool.and_eq_true, decide_eq_true_eq, decide_eq_true_eq]; exact hspan] at this; exact this)
   clear HN HM HSUB hspan hpn htx htf HPN HLF' HLX'
   go_upto_region 13 with (first | (go_at_call 16; with_reducible refine (Field_c f Ag Aw Ab Ac Al ng cg nw cw nb cb nc cc nl cl (by omega) (by omega) (by omega) (by omega) (by omega) _ (HCS.out.ev (hE5.trans HP5.out))).mono ?_; rintro e x6 ⟨⟨Bg6, dg6, Bw6, dw6, Bb6, db6, Bc6, dc6, Bl6, dl6, rfl, hc⟩, hb⟩; have HP6 := hid (HP5.out.trans hb); have HK6 := hid (HK5.out.trans hb); have HC6 := hid hc; clear hc hb) | (go_at_call 18; with_reducible refine (list_c L pn dL plan (by omega) _ (HSL.out.ev HK6.out)).mono ?_; rintro e x7 ⟨⟨L7, dL7, rfl, ho⟩, hb⟩; have HP7 := hid (HP6.out.trans hb); have HK7 := hid (HK6.out.trans hb); have HO7 := hid (sl_own (enc := ics) (by decide) (ics_len _) (by omega) ho); have HC7 := hid (HC6.out.ev hb); clear ho hb) | (go_at_call 29; with_reducible refine (HWF.out Bg6 Bw6 Bb6 Bc6 Bl6 ng dg6 nw dw6 nb db6 nc dc6 nl dl6 L7 dL7 _ HC7.out HO7.out).mono ?_; rintro e x8 ⟨rfl, hb⟩; have HP8 := hid (HP7.out.trans hb); have HK8 := hid (HK7.out.trans hb); clear hb))
   generalize hWA : World.alloc x8 _ = WA
   have hEA : Ev x8 WA := by rw [← hWA]; exact Ev.alloc (Ev.refl _) _
   have hal := alloc1 x8 (.cells #[.int .i64 wf.lo, .int .i64 wf.hi] 57)
   rw [hWA] at hal
   have HRA := hid hal.1
   have HP9 := hid (HP8.out.trans hEA)
   have HK9 := hid (HK8.out.trans hEA)
   have HA9 := hid (Ev.refl WA)
   clear hal hWA hEA
   clear y0 y1 y2 y3 y4 y5 y6 y7 y8; clear q0 q1 q2 q3 q4 q5 q6 q7 q8; obtain ⟨y0, y1, y2, y3, y4, y5, y6, y7, y8⟩ := cells9 (HP9.out.heap HX5.out); obtain ⟨q0, q1, q2, q3, q4, q5, q6, q7, q8⟩ := cells9 (HP9.out.heap HQ5.out)
   go_upto_region 14 with (first | (go_at_call 16; with_reducible refine (FieldL_c f (f.looks ++ [l]) Ag Aw Ab Ac V ng cg nw cw nb cb nc cc (nl + 1) cx (by omega) (by omega) (by omega) (by omega) (by omega) _ (HSX.out.ev HP9.out)).mono ?_; rintro e x10 ⟨⟨Bg10, dg10, Bw10, dw10, Bb10, db10, Bc10, dc10, Bl10, dl10, rfl, hc⟩, hb⟩; have HP10 := hid (HP9.out.trans hb); have HK10 := hid (HK9.out.trans hb); have HA10 := hid (HA9.out.trans hb); have HC10 := hid hc; clear hc hb) | (go_at_call 18; with_reducible refine (list_c L pn dL plan (by omega) _ (HSL.out.ev HK10.out)).mono ?_; rintro e x11 ⟨⟨L11, dL11, rfl, ho⟩, hb⟩; have HP11 := hid (HP10.out.trans hb); have HK11 := hid (HK10.out.trans hb); have HA11 := hid (HA10.out.trans hb); have HO11 := hid (sl_own (enc := ics) (by decide) (ics_len _) (by omega) ho); have HC11 := hid (HC10.out.ev hb); clear ho hb) | (go_at_call 29; with_reducible refine (HWX.out Bg10 Bw10 Bb10 Bc10 Bl10 ng dg10 nw dw10 nb db10 nc dc10 (nl + 1) dl10 L11 dL11 _ HC11.out HO11.out).mono ?_; rintro e x12 ⟨rfl, hb⟩; have HP12 := hid (HP11.out.trans hb); have HK12 := hid (HK11.out.trans hb); have HA12 := hid (HA11.out.trans hb); clear hb))
   generalize hWB : World.alloc x12 _ = WB
   have hEB : Ev x12 WB := by rw [← hWB]; exact Ev.alloc (Ev.refl _) _
   have hal := alloc1 x12 (.cells #[.int .i64 wx.lo, .int .i64 wx.hi] 57)
   rw [hWB] at hal
   have HRB := hid hal.1
   have HP13 := hid (HP12.out.trans hEB)
   have HK13 := hid (HK12.out.trans hEB)
   have HA13 := hid (HA12.out.trans hEB)
   have HB13 := hid (Ev.refl WB)
   have HRA2 := hid (HA13.out.heap HRA.out)
   clear hal hWB hEB
   clear y0 y1 y2 y3 y4 y5 y6 y7 y8; clear q0 q1 q2 q3 q4 q5 q6 q7 q8; obtain ⟨y0, y1, y2, y3, y4, y5, y6, y7, y8⟩ := cells9 (HP13.out.heap HX5.out); obtain ⟨q0, q1, q2, q3, q4, q5, q6, q7, q8⟩ := cells9 (HP13.out.heap HQ5.out)
   go_upto_region 15 with (first | (go_at_call 16; with_reducible refine (Field_c f Ag Aw Ab Ac Al ng cg nw cw nb cb nc cc nl cl (by omega) (by omega) (by omega) (by omega) (by omega) _ (HCS.out.ev (hE5.trans HP13.out))).mono ?_; rintro e x14 ⟨⟨Bg14, dg14, Bw14, dw14, Bb14, db14, Bc14, dc14, Bl14, dl14, rfl, hc⟩, hb⟩; have HP14 := hid (HP13.out.trans hb); have HK14 := hid (HK13.out.trans hb); have HA14 := hid (HA13.out.trans hb); have HB14 := hid (HB13.out.trans hb); have HC14 := hid hc; clear hc hb) | (go_at_call 35; with_reducible refine (HBF.out Bg14 Bw14 Bb14 Bc14 Bl14 ng dg14 nw dw14 nb db14 nc dc14 nl dl14 _ HC14.out).mono ?_; rintro e x15 ⟨⟨BB15, bd15, rfl, _⟩, hb⟩; have HP15 := hid (HP14.out.trans hb); have HK15 := hid (HK14.out.trans hb); have HA15 := hid (HA14.out.trans hb); have HB15 := hid (HB14.out.trans hb); clear hb; clear y0 y1 y2 y3 y4 y5 y6 y7 y8; clear q0 q1 q2 q3 q4 q5 q6 q7 q8; obtain ⟨y0, y1, y2, y3, y4, y5, y6, y7, y8⟩ := cells9 (HP15.out.heap HX5.out); obtain ⟨q0, q1, q2, q3, q4, q5, q6, q7, q8⟩ := cells9 (HP15.out.heap HQ5.out)))
   go_upto_region 16 with (first | (go_at_call 16; with_reducible refine (FieldL_c f (f.looks ++ [l]) Ag Aw Ab Ac V ng cg nw cw nb cb nc cc (nl + 1) cx (by omega) (by omega) (by omega) (by omega) (by omega) _ (HSX.out.ev HP15.out)).mono ?_; rintro e x16 ⟨⟨Bg16, dg16, Bw16, dw16, Bb16, db16, Bc16, dc16, Bl16, dl16, rfl, hc⟩, hb⟩; have HP16 := hid (HP15.out.trans hb); have HK16 := hid (HK15.out.trans hb); have HA16 := hid (HA15.out.trans hb); have HB16 := hid (HB15.out.trans hb); have HC16 := hid hc; clear hc hb) | (go_at_call 35; with_reducible refine (HBX.out Bg16 Bw16 Bb16 Bc16 Bl16 ng dg16 nw dw16 nb db16 nc dc16 (nl + 1) dl16 _ HC16.out).mono ?_; rintro e x17 ⟨⟨BB17, bd17, rfl, _⟩, hb⟩; have HP17 := hid (HP16.out.trans hb); have HK17 := hid (HK16.out.trans hb); have HA17 := hid (HA16.out.trans hb); have HB17 := hid (HB16.out.trans hb); clear hb; clear y0 y1 y2 y3 y4 y5 y6 y7 y8; clear q0 q1 q2 q3 q4 q5 q6 q7 q8; obtain ⟨y0, y1, y2, y3, y4, y5, y6, y7, y8⟩ := cells9 (HP17.out.heap HX5.out); obtain ⟨q0, q1, q2, q3, q4, q5, q6, q7, q8⟩ := cells9 (HP17.out.heap HQ5.out)))
   have HRB2 := hid (HB17.out.heap HRB.out)
   have HRA3 := hid (HB17.out.heap HRA2.out)
   clear y0 y1 y2 y3 y4 y5 y6 y7 y8
   clear q0 q1 q2 q3 q4 q5 q6 q7 q8
   obtain ⟨y0, y1⟩ := cells2 HRA3.out
   obtain ⟨q0, q1⟩ := cells2 HRB2.out
   have hge : bx.2 ≥ bf.2 := by omega
   have hge2 : ¬ (bx.2 < bf.2) := by omega
   go_wp2_with (first | (go_at_call 44; with_reducible refine (HIN.out _).mono ?_; rintro e x18 ⟨rfl, hb18⟩) | (go_at_call 14; with_reducible refine (awake_c _).mono ?_; rintro e w99 ⟨rfl, hb99⟩) | (with_reducible refine ⟨trivial, ?_⟩))
   go_ret
   exact ⟨rfl, (((hE5.trans HP17.out)).trans hb18).trans hb99⟩

theorem cropOne_c (f : M.Cf) (l : M.Lk) (Ag Aw Ab Ac Al : Option Addr) (ng cg nw cw nb cb nc cc nl cl : Nat) (hl0 : -9223372036854775808 ≤ f.last) (b : Int) (b0 : 0 ≤ b) (b1 : b < 65536) (hncl : nl ≤ cl) (hnl44 : nl ≤ 5864062014800) (w : World) (HW : Hid (Sl0 lkc 3 w w.heap.size Al nl f.looks)) (hs : M.small ng nw nb nc nl → CS w w.heap.size f Ag Aw Ab Ac Al ng cg nw cw nb cb nc cc nl cl) :
  Calls Try.prog 8 #[.agg #[.int .i64 f.last, .slice Ag ng cg, .slice Aw nw cw, .slice Ab nb cb, .slice Ac nc cc, .int .i64 f.ripe, .int .i64 f.late, .int .i64 f.trod, .slice Al nl cl], .agg #[.int .i64 l.wk, .int .i64 l.ct.lo, .int .i64 l.ct.hi], .int .u16 b] w fun e w' => e = .returned (.bool true) ∧ Ev w w' := by
 have key : ∀ (g : M.Cf) (k : Nat), M.rdy g ng nw nb nc k = true → M.small ng nw nb nc k ∧ M.check g = 0 := fun g k h => by
  unfold M.rdy at h
  rw [Bool.and_eq_true, Bool.and_eq_true, decide_eq_true_eq, decide_eq_true_eq] at h
  exact ⟨h.1.1, h.2⟩
 cases hr : M.rdy f ng nw nb nc nl with
 | false => exact cropOne_no1 f l Ag Aw Ab Ac Al ng cg nw cw nb cb nc cc nl cl hl0 b b0 b1 hncl hnl44 w HW hs hr
 | true =>
  obtain ⟨hsm, h0⟩ := key f nl hr
  cases hrx : M.rdy (M.withL f (f.looks ++ [l])) ng nw nb nc (nl + 1) with
  | false => exact cropOne_no2 f l Ag Aw Ab Ac Al ng cg nw cw nb cb nc cc nl cl hl0 b b0 b1 hncl hnl44 w HW hs hr hsm h0 hrx
  | true => exact cropOne_yes f l Ag Aw Ab Ac Al ng cg nw cw nb cb nc cc nl cl hl0 b b0 b1 hncl hnl44 w HW hs hr hsm h0 hrx (key _ _ hrx).2

end Go.Proofs.Ytffbkbcjddigdaa
