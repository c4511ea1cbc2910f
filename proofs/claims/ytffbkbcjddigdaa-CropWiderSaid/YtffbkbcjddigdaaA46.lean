import Derived.Test.YtffbkbcjddigdaaA45
set_option linter.unusedSimpArgs false
set_option linter.unusedVariables false
namespace Go.Proofs.Ytffbkbcjddigdaa
open Go.RowKit Go.Shelf

theorem set2 {W : World} {b : Nat} {t : TypeId} {z0 z1 v0 v1 : Value} (h : W.heap[b]? = some (.cells #[z0, z1] t (0, 0))) :
  ((W.setCell ⟨b, 0, none⟩ v0).setCell ⟨b, 1, none⟩ v1).heap[b]? = some (.cells #[v0, v1] t (0, 0)) := by
 rw [set_heap_same (set_heap_same h)]; rfl
theorem set9 {W : World} {b : Nat} {t : TypeId} {z0 z1 z2 z3 z4 z5 z6 z7 z8 v0 v1 v2 v3 v4 v5 v6 v7 v8 : Value} (h : W.heap[b]? = some (.cells #[z0, z1, z2, z3, z4, z5, z6, z7, z8] t (0, 0))) :
  (((((((((W.setCell ⟨b, 0, none⟩ v0).setCell ⟨b, 1, none⟩ v1).setCell ⟨b, 2, none⟩ v2).setCell ⟨b, 3, none⟩ v3).setCell ⟨b, 4, none⟩ v4).setCell ⟨b, 5, none⟩ v5).setCell ⟨b, 6, none⟩ v6).setCell ⟨b, 7, none⟩ v7).setCell ⟨b, 8, none⟩ v8).heap[b]? = some (.cells #[v0, v1, v2, v3, v4, v5, v6, v7, v8] t (0, 0)) := by
 have h1 := set_heap_same (j := 0) (v := v0) h
 simp only [List.setIfInBounds_toArray, List.set_cons_zero, List.set_cons_succ] at h1
 have h2 := set_heap_same (j := 1) (v := v1) h1
 simp only [List.setIfInBounds_toArray, List.set_cons_zero, List.set_cons_succ] at h2
 have h3 := set_heap_same (j := 2) (v := v2) h2
 simp only [List.setIfInBounds_toArray, List.set_cons_zero, List.set_cons_succ] at h3
 have h4 := set_heap_same (j := 3) (v := v3) h3
 simp only [List.setIfInBounds_toArray, List.set_cons_zero, List.set_cons_succ] at h4
 have h5 := set_heap_same (j := 4) (v := v4) h4
 simp only [List.setIfInBounds_toArray, List.set_cons_zero, List.set_cons_succ] at h5
 have h6 := set_heap_same (j := 5) (v := v5) h5
 simp only [List.setIfInBounds_toArray, List.set_cons_zero, List.set_cons_succ] at h6
 have h7 := set_heap_same (j := 6) (v := v6) h6
 simp only [List.setIfInBounds_toArray, List.set_cons_zero, List.set_cons_succ] at h7
 have h8 := set_heap_same (j := 7) (v := v7) h7
 simp only [List.setIfInBounds_toArray, List.set_cons_zero, List.set_cons_succ] at h8
 have h9 := set_heap_same (j := 8) (v := v8) h8
 simp only [List.setIfInBounds_toArray, List.set_cons_zero, List.set_cons_succ] at h9
 exact h9
theorem frz9 {W : World} {b : Nat} {cs : Array Value} {t : TypeId} (h : W.heap[b]? = some (.cells cs t (0, 0))) : W.frozen? ⟨b, 0, none⟩ = false ∧ W.frozen? ⟨b, 1, none⟩ = false ∧ W.frozen? ⟨b, 2, none⟩ = false ∧ W.frozen? ⟨b, 3, none⟩ = false ∧ W.frozen? ⟨b, 4, none⟩ = false ∧ W.frozen? ⟨b, 5, none⟩ = false ∧ W.frozen? ⟨b, 6, none⟩ = false ∧ W.frozen? ⟨b, 7, none⟩ = false ∧ W.frozen? ⟨b, 8, none⟩ = false :=
 ⟨frozen_in h 0, frozen_in h 1, frozen_in h 2, frozen_in h 3, frozen_in h 4, frozen_in h 5, frozen_in h 6, frozen_in h 7, frozen_in h 8⟩
/-- A list is as it was where another block was written. -/
theorem Sl.far {α : Type} {enc : α → List Value} {sz : Nat} {w : World} {B : Nat} {A : Option Addr} {n c : Nat} {xs : List α} (h : Sl enc sz w B A n c xs) {b j : Nat} {v : Value} (hne : 0 < n → ∀ a, A = some a → a.block ≠ b) : Sl enc sz (w.setCell ⟨b, j, none⟩ v) B A n c xs := by
 refine ⟨h.len, h.cap, h.small, fun hn => ?_⟩
 obtain ⟨b1, off, hA, hlt, hc⟩ := h.cells hn
 refine ⟨b1, off, hA, hlt, fun k x hk j' u hj => ?_⟩
 rw [cell_set_ne (show b1 ≠ b from hne hn _ hA)]
 exact hc k x hk j' u hj
theorem Sl.nil {α : Type} {enc : α → List Value} {sz : Nat} {w : World} {B : Nat} {A : Option Addr} {c : Nat} : Sl enc sz w B A 0 c [] := ⟨rfl, Nat.zero_le _, by omega, fun h => absurd h (Nat.lt_irrefl _)⟩
/-- A row that a call made, in blocks of its own. -/
theorem own_block {w : World} {base : Nat} {e : TypeId} {sz : Nat} {V : Option Addr} {n c : Nat} {xs : List Value} (h : w.ownsRow base e sz (.slice V n c) n xs) : ∀ a, V = some a → base ≤ a.block := by
 intro a ha
 rcases h.2 with ⟨h1, _⟩ | ⟨g, cap, cur, h1, h2, _⟩
 ·
  injection h1 with h1 _ _
  rw [ha] at h1; cases h1
 ·
  injection h1 with h1 _ _
  rw [ha] at h1
  cases h1
  exact h2

set_option maxRecDepth 100000 in
set_option maxHeartbeats 1000000 in
theorem list_c (A : Option Addr) (m c : Nat) (l : List Int) (hm : m ≤ 1000) (w : World) (hs : Sl ics 1 w w.heap.size A m c l) :
  Calls Try.prog 18 #[.slice A m c] w fun e w' => (∃ B d, e = .returned (.slice B m d) ∧ w'.ownsRow w.heap.size 3 1 (.slice B m d) m (l.flatMap ics)) ∧ Ev w w' := by
 obtain ⟨i0, hi0, hz0, hz1, hz2⟩ := info_parts info3
 cases A with
 | none =>
  have hm0 : m = 0 := by
   rcases Nat.eq_zero_or_pos m with h | h
   ·
    exact h
   ·
    obtain ⟨b, off, hA, _⟩ := hs.cells h; cases hA
  subst hm0
  obtain rfl : l = [] := List.eq_nil_of_length_eq_zero hs.len
  go_enter Try.func18, Try.ntmps18
  go_wp2_with (at_builtin; refine wpList_append_none rfl (.const (.slice none 0 0)) (.tmp 3) 23 rfl w.heap.size 3 i0 1 Try.underlying23 hi0 _ 0 [] rfl (World.ownsRow_nil _ _ _ _) c rfl ?_)
  go_ret
  exact ⟨⟨none, 0, rfl, World.ownsRow_nil _ _ _ _⟩, Ev.refl _⟩
 | some ad =>
  have HS := hid hs
  clear hs
  go_enter Try.func18, Try.ntmps18
  go_wp2_with (at_builtin; refine append_sl (enc := ics) rfl (.const (.slice none 0 0)) (.tmp 3) 23 rfl w.heap.size 3 i0 _ 1 8 Try.underlying23 hi0 hz0 hz1 hz2 rfl (by decide) _ 0 [] rfl (World.ownsRow_nil _ _ _ _) (some ad) m c l _ rfl HS.out (ics_len _) (ics_one _) (fun h => by cases h) (by unfold maxLen; omega) (by omega) (Nat.le_refl _) ?_; intro v' w3 hown' hgrow; have hown2 : w3.ownsRow w.heap.size 3 1 v' m (l.flatMap ics) := (by simpa using hown'); obtain ⟨B, d, rfl⟩ := own_form hown2; have HG := hid hgrow; have HO := hid hown2; clear hown' hown2 hgrow)
  go_ret
  exact ⟨⟨B, d, rfl, HO.out⟩, Ev.grown (Ev.refl _) HG.out (fun k e => by cases e)⟩

set_option maxRecDepth 100000 in
set_option maxHeartbeats 1000000 in
theorem ints_c (A B : Option Addr) (n c m d : Nat) (a b : List Int) (w : World) (ha : Sl ics 1 w w.heap.size A n c a) (hb : Sl ics 1 w w.heap.size B m d b) :
  Calls Try.prog 52 #[.slice A n c, .slice B m d] w fun e w' => e = .returned (.bool (decide (a = b))) ∧ Ev w w' := by
 have hsm := ha.small
 have hsm' := hb.small
 by_cases hl : n = m
 ·
  subst hl
  have hla := ha.len
  have hlb := hb.len
  have HLA := hid hla
  have HLB := hid hlb
  clear hla hlb
  have hne : ((n : Int) != (n : Int)) = false := by simp
  go_enter Try.func52, Try.ntmps52
  go_wp2
  go_loopw [5] (fun i wr => ∃ k : Nat, i = .int .i64 k ∧ k ≤ n ∧ Ev w wr ∧ Hid (a.take k = b.take k)) (fun i _ => n - (intOf i).toNat)
  case atStart => exact ⟨0, rfl, by omega, Ev.refl _, hid rfl⟩
  case round =>
   obtain ⟨k, rfl, hk, hE, HT⟩ := hrel
   by_cases hlt : k < n
   ·
    obtain ⟨b1, o1, x, rfl, hb1, hx, hxd, e1⟩ := ha.int hE hlt
    obtain ⟨b2, o2, y, rfl, hb2, hy, hyd, e2⟩ := hb.int hE hlt
    have HX := hid hx
    have HY := hid hy
    clear hx hy hxd hyd
    by_cases hxy : x = y
    ·
     have hne2 : (x != y) = false := by simpa using hxy
     have HXY := hid hxy
     clear hxy
     go_wp2_with (go_quiet (fail))
     refine ⟨⟨k + 1, by go_num, by omega, hE.drewN _, hid ?_⟩, by simp [intOf]; omega⟩
     rw [List.take_add_one, List.take_add_one, HT.out, HX.out, HY.out, HXY.out]
    ·
     have hne2 : (x != y) = true := by simpa using hxy
     have hab : decide (a = b) = false := by
      rw [decide_eq_false_iff_not]
      intro e
      have h1 := HX.out
      rw [e, HY.out] at h1
      exact hxy (by simpa using h1.symm)
     have HAB := hid hab
     clear hxy hab
     go_wp2_with (go_quiet (fail))
     go_ret
     exact ⟨ret_bool HAB.out.symm, hE.drewN _⟩
   ·
    have hkn : k = n := by omega
    subst hkn
    have hT := HT.out
    rw [List.take_of_length_le (by rw [HLA.out]; exact Nat.le_refl _), List.take_of_length_le (by rw [HLB.out]; exact Nat.le_refl _)] at hT
    have HT2 := hid hT
    clear hT
    go_wp2
    go_ret
    exact ⟨ret_bool (by rw [HT2.out]; simp), hE⟩
 ·
  have hne : ((n : Int) != (m : Int)) = true := by simpa using (show ¬ (n : Int) = m by omega)
  have hab : decide (a = b) = false := by
   rw [decide_eq_false_iff_not]
   intro e
   exact hl (by rw [← ha.len, ← hb.len, e])
  have HAB := hid hab
  clear hl hab
  go_enter Try.func52, Try.ntmps52
  go_wp2
  go_ret
  exact ⟨ret_bool HAB.out.symm, Ev.refl _⟩

set_option maxRecDepth 100000 in
set_option maxHeartbeats 2000000 in
theorem Truth_c (Tg Tw : Option Addr) (tg tgc tw twc : Nat) (t : M.Tr) (hg1 : tg ≤ 1000) (hw1 : tw ≤ 1000) (w : World) (hg : Sl ics 1 w w.heap.size Tg tg tgc t.gr) (hwt : Sl ics 1 w w.heap.size Tw tw twc t.wet) :
  Calls Try.prog 17 #[.agg #[.slice Tg tg tgc, .slice Tw tw twc]] w fun e w' => (∃ B1 d1 B2 d2, e = .returned (.agg #[.slice B1 tg d1, .slice B2 tw d2]) ∧ Sl ics 1 w' w'.heap.size B1 tg d1 t.gr ∧ Sl ics 1 w' w'.heap.size B2 tw d2 t.wet) ∧ Ev w w' := by
 go_enter Try.func17, Try.ntmps17
 go_upto_region 1 with fail
 generalize hW0 : World.alloc (World.alloc w _) _ = W0
 have hE0 : Ev w W0 := by rw [← hW0]; exact Ev.alloc (Ev.alloc (Ev.refl _) _) _
 have hal := alloc2 w (.cells #[.slice Tg tg tgc, .slice Tw tw twc] 28) (.cells #[.slice none 0 0, .slice none 0 0] 40)
 rw [hW0] at hal
 have Q0 := hid hal.1
 have Q1 := hid hal.2.1
 clear hal hW0
 obtain ⟨x0, x1⟩ := cells2 Q0.out
 have l0 := heap_lt Q0.out
 have HSE : Hid (∀ w', Ev W0 w' → (∀ o, w'.cell? ⟨w.heap.size, o, none⟩ = W0.cell? ⟨w.heap.size, o, none⟩)) := hid (fun w' h => fun o => h.cells.1 _ o l0)
 refine wp_region_held_drew (S := fun w' => (∀ o, w'.cell? ⟨w.heap.size, o, none⟩ = W0.cell? ⟨w.heap.size, o, none⟩)) (by kernel_rfl) (fun o => rfl) (fun hHeld => ?_)
 refine tkH 0 (some 3) ?_
 (try simp only [Act.put, sA, sB, sC])
 refine tkH 1 (some 4) ?_
 (try simp only [Act.put, sA, sB, sC])
 refine tkH 3 (some 6) ?_
 (try simp only [Act.put, sA, sB, sC])
 refine tkH 4 (some 7) ?_
 (try simp only [Act.put, sA, sB, sC])
 refine wpAnyH_one (i := 2) rfl (by kernel_rfl) (by rfl) (fun K hK => ?_)
 go_simp
 refine (list_c _ _ _ t.gr (by omega) _ ((hg.ev hE0).ev (Ev.drew (Ev.refl _)))).mono ?_
 rintro e w1 ⟨⟨B1, d1, rfl, ho1⟩, hb1⟩
 have hE1 : Ev W0 w1 := Ev.trans (Ev.drew (Ev.refl _)) hb1
 refine hK.out _ _ (HSE.out _ hE1) (fun hHeld => ?_)
 clear hK K
 (try simp only [Act.put, List.setIfInBounds_toArray, List.set_cons_zero, List.set_cons_succ])
 refine wpAnyH_one (i := 5) rfl (by kernel_rfl) (by rfl) (fun K hK => ?_)
 go_simp
 refine (list_c _ _ _ t.wet (by omega) _ ((hwt.ev hE0).ev hE1)).mono ?_
 rintro e w2 ⟨⟨B2, d2, rfl, ho2⟩, hb2⟩
 have hE2 : Ev W0 w2 := hE1.trans hb2
 have HO1 := hid (ho1.ev hb2)
 have HO2 := hid ho2
 have hq2 := hE2.heap Q1.out
 obtain ⟨z0, z1⟩ := cells2 hq2
 obtain ⟨f0, f1⟩ := frz2 hq2
 have HQ := hid hq2
 have HE := hid (hE0.trans hE2)
 clear ho1 ho2 hq2
 refine hK.out _ _ (HSE.out _ hE2) (fun hHeld => ?_)
 clear hK K
 (try simp only [Act.put, List.setIfInBounds_toArray, List.set_cons_zero, List.set_cons_succ])
 refine tkH 6 (some 9) ?_
 (try simp only [Act.put, sA, sB, sC])
 refine wpAnyH_one (i := 7) rfl (by kernel_rfl) (by rfl) (fun K hK => ?_)
 go_simp
 refine hK.out _ _ (fun o => (cell_set_ne (by simp)).trans ((cell_set_ne (by simp)).trans (HSE.out _ hE2 o))) (fun hHeld => ?_)
 clear hK K
 (try simp only [Act.put, List.setIfInBounds_toArray, List.set_cons_zero, List.set_cons_succ])
 refine wpAnyH_done (by kernel_rfl) ?_ _
 go_wp2
 have hF := set2 (v0 := (.slice B1 tg d1 : Value)) (v1 := (.slice B2 tw d2 : Value)) HQ.out
 obtain ⟨d0, d1'⟩ := cells2 hF
 have o1 := own_set (j := 1) (u := (.slice B2 tw d2 : Value)) (own_set (j := 0) (u := (.slice B1 tg d1 : Value)) HO1.out HQ.out (by decide)) (set_heap_same HQ.out) (by decide)
 have o2 := own_set (j := 1) (u := (.slice B2 tw d2 : Value)) (own_set (j := 0) (u := (.slice B1 tg d1 : Value)) HO2.out HQ.out (by decide)) (set_heap_same HQ.out) (by decide)
 refine bodyPost_ret (v := .agg #[.slice B1 tg d1, .slice B2 tw d2]) (by simp [results, Try.results17, go_sem, d0, d1']) rfl ⟨⟨B1, d1, B2, d2, rfl, sl_own (enc := ics) (by decide) (ics_len _) (by omega) o1, sl_own (enc := ics) (by decide) (ics_len _) (by omega) o2⟩, ?_⟩
 exact Ev.setCell (Ev.setCell HE.out (by simp) _) (by simp) _

set_option maxRecDepth 100000 in
set_option maxHeartbeats 1000000 in
theorem same_c (a b : Int) (c : Int) (w : World) :
  Calls Try.prog 25 #[.agg #[.int .i64 a, .int .i64 b, .int .i64 c], .agg #[.int .i64 a, .int .i64 b, .int .i64 c]] w fun e w' => e = .returned (.bool true) ∧ Ev w w' := by
 go_enter Try.func25, Try.ntmps25
 go_wp2
 go_ret
 exact ⟨rfl, Ev.alloc (Ev.alloc (Ev.refl _) _) _⟩

def M.dryT : M.Tr := ⟨[10, 8, 6, 4, 2], [0, 0, 0, 1, 0]⟩
set_option maxRecDepth 100000 in
set_option maxHeartbeats 1000000 in
theorem dry_c (w : World) :
  Calls Try.prog 27 #[] w fun e w' => (∃ B1 B2, e = .returned (.agg #[.slice B1 5 5, .slice B2 5 5]) ∧ w'.ownsRow w.heap.size 3 1 (.slice B1 5 5) 5 (M.dryT.gr.flatMap ics) ∧ w'.ownsRow w.heap.size 3 1 (.slice B2 5 5) 5 (M.dryT.wet.flatMap ics)) ∧ Ev w w' := by
 go_enter Try.func27, Try.ntmps27
 go_wp2
 have e1 := (alloc1 w (.cells #[.slice (some ⟨w.heap.size + 1, 0, none⟩) 5 5, .slice (some ⟨w.heap.size + 1 + 1, 0, none⟩) 5 5] 40)).2
 have e2 := (alloc2 w (.cells #[.slice (some ⟨w.heap.size + 1, 0, none⟩) 5 5, .slice (some ⟨w.heap.size + 1 + 1, 0, none⟩) 5 5] 40) (.cells #[.int .i64 10, .int .i64 8, .int .i64 6, .int .i64 4, .int .i64 2] 3)).2.2
 have o1 := (World.ownsRow_lit (base := w.heap.size) (e := 3) (size := 1) (w.alloc (.cells #[.slice (some ⟨w.heap.size + 1, 0, none⟩) 5 5, .slice (some ⟨w.heap.size + 1 + 1, 0, none⟩) 5 5] 40)) #[.int .i64 10, .int .i64 8, .int .i64 6, .int .i64 4, .int .i64 2] 5 (by simp) (by decide) rfl).alloc (.cells #[.int .i64 0, .int .i64 0, .int .i64 0, .int .i64 1, .int .i64 0] 3)
 have o2 := World.ownsRow_lit (base := w.heap.size) (e := 3) (size := 1) ((w.alloc (.cells #[.slice (some ⟨w.heap.size + 1, 0, none⟩) 5 5, .slice (some ⟨w.heap.size + 1 + 1, 0, none⟩) 5 5] 40)).alloc (.cells #[.int .i64 10, .int .i64 8, .int .i64 6, .int .i64 4, .int .i64 2] 3)) #[.int .i64 0, .int .i64 0, .int .i64 0, .int .i64 1, .int .i64 0] 5 (by simp <;> omega) (by decide) rfl
 have hal := alloc3 w (.cells #[.slice (some ⟨w.heap.size + 1, 0, none⟩) 5 5, .slice (some ⟨w.heap.size + 1 + 1, 0, none⟩) 5 5] 40) (.cells #[.int .i64 10, .int .i64 8, .int .i64 6, .int .i64 4, .int .i64 2] 3) (.cells #[.int .i64 0, .int .i64 0, .int .i64 0, .int .i64 1, .int .i64 0] 3)
 rw [e1] at o1
 rw [e2] at o2
 obtain ⟨d0, d1⟩ := cells2 hal.1
 have hEW : Ev w (World.alloc (World.alloc (World.alloc w (.cells #[.slice (some ⟨w.heap.size + 1, 0, none⟩) 5 5, .slice (some ⟨w.heap.size + 1 + 1, 0, none⟩) 5 5] 40)) (.cells #[.int .i64 10, .int .i64 8, .int .i64 6, .int .i64 4, .int .i64 2] 3)) (.cells #[.int .i64 0, .int .i64 0, .int .i64 0, .int .i64 1, .int .i64 0] 3)) := Ev.alloc (Ev.alloc (Ev.alloc (Ev.refl _) _) _) _
 generalize World.alloc (World.alloc (World.alloc w _) _) _ = W3 at *
 refine bodyPost_ret (v := .agg #[.slice (some ⟨w.heap.size + 1, 0, none⟩) 5 5, .slice (some ⟨w.heap.size + 1 + 1, 0, none⟩) 5 5]) (by simp [results, Try.results27, go_sem, d0, d1]) rfl ⟨⟨_, _, rfl, o1, o2⟩, hEW⟩

end Go.Proofs.Ytffbkbcjddigdaa
