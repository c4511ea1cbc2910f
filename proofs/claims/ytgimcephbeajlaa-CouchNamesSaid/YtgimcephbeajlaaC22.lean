import Derived.Test.YtgimcephbeajlaaC21
set_option linter.unusedSimpArgs false
set_option linter.unusedVariables false
namespace Go.Proofs.Ytgimcephbeajlaa
open Go.RowKit Go.Shelf

theorem set2 {W : World} {b : Nat} {t : TypeId} {z0 z1 v0 v1 : Value} (h : W.heap[b]? = some (.cells #[z0, z1] t (0, 0))) :
  ((W.setCell ⟨b, 0, none⟩ v0).setCell ⟨b, 1, none⟩ v1).heap[b]? = some (.cells #[v0, v1] t (0, 0)) := by
 rw [set_heap_same (set_heap_same h)]; rfl
/-- A list is as it was where another block was written. -/
theorem Sl.far {α : Type} {enc : α → List Value} {sz : Nat} {w : World} {B : Nat} {A : Option Addr} {n c : Nat} {xs : List α} (h : Sl enc sz w B A n c xs) {b j : Nat} {v : Value} (hne : 0 < n → ∀ a, A = some a → a.block ≠ b) : Sl enc sz (w.setCell ⟨b, j, none⟩ v) B A n c xs := by
 refine ⟨h.len, h.cap, h.small, fun hn => ?_⟩
 obtain ⟨b1, off, hA, hlt, hc⟩ := h.cells hn
 refine ⟨b1, off, hA, hlt, fun k x hk j' u hj => ?_⟩
 rw [cell_set_ne (show b1 ≠ b from hne hn _ hA)]
 exact hc k x hk j' u hj
theorem Sl.nil {α : Type} {enc : α → List Value} {sz : Nat} {w : World} {B : Nat} {A : Option Addr} {c : Nat} : Sl enc sz w B A 0 c [] := ⟨rfl, Nat.zero_le _, by omega, fun h => absurd h (Nat.lt_irrefl _)⟩
/-- A row that a call made, in blocks of its own. -/
theorem own_block {w : World} {base : Nat} {e : TypeId} {sz : Nat} {V : Option Addr} {n c : Nat} {xs : List Value} (h : w.ownsRow base e sz (.slice V n c) n xs) : ∀ a, V = some a → base ≤ a.block := by
 intro a ha
 rcases h.2 with ⟨h1, _⟩ | ⟨g, cap, cur, h1, h2, _⟩
 ·
  injection h1 with h1 _ _
  rw [ha] at h1; cases h1
 ·
  injection h1 with h1 _ _
  rw [ha] at h1
  cases h1
  exact h2

set_option maxRecDepth 100000 in
set_option maxHeartbeats 1000000 in
theorem list_c (A : Option Addr) (m c : Nat) (l : List Int) (hm : m ≤ 1000) (w : World) (hs : Sl ics 1 w w.heap.size A m c l) :
  Calls Try.prog 23 #[.slice A m c] w fun e w' => (∃ B d, e = .returned (.slice B m d) ∧ w'.ownsRow w.heap.size 3 1 (.slice B m d) m (l.flatMap ics)) ∧ Ev w w' := by
 obtain ⟨i0, hi0, hz0, hz1, hz2⟩ := info_parts info3
 cases A with
 | none =>
  have hm0 : m = 0 := by
   rcases Nat.eq_zero_or_pos m with h | h
   ·
    exact h
   ·
    obtain ⟨b, off, hA, _⟩ := hs.cells h; cases hA
  subst hm0
  obtain rfl : l = [] := List.eq_nil_of_length_eq_zero hs.len
  go_enter Try.func23, Try.ntmps23
  go_wp2_with (at_builtin; refine wpList_append_none rfl (.const (.slice none 0 0)) (.tmp 3) 25 rfl w.heap.size 3 i0 1 Try.underlying25 hi0 _ 0 [] rfl (World.ownsRow_nil _ _ _ _) c rfl ?_)
  go_ret
  exact ⟨⟨none, 0, rfl, World.ownsRow_nil _ _ _ _⟩, Ev.refl _⟩
 | some ad =>
  have HS := hid hs
  clear hs
  go_enter Try.func23, Try.ntmps23
  go_wp2_with (at_builtin; refine append_sl (enc := ics) rfl (.const (.slice none 0 0)) (.tmp 3) 25 rfl w.heap.size 3 i0 _ 1 8 Try.underlying25 hi0 hz0 hz1 hz2 rfl (by decide) _ 0 [] rfl (World.ownsRow_nil _ _ _ _) (some ad) m c l _ rfl HS.out (ics_len _) (ics_one _) (fun h => by cases h) (by unfold maxLen; omega) (by omega) (Nat.le_refl _) ?_; intro v' w3 hown' hgrow; have hown2 : w3.ownsRow w.heap.size 3 1 v' m (l.flatMap ics) := (by simpa using hown'); obtain ⟨B, d, rfl⟩ := own_form hown2; have HG := hid hgrow; have HO := hid hown2; clear hown' hown2 hgrow)
  go_ret
  exact ⟨⟨B, d, rfl, HO.out⟩, Ev.grown (Ev.refl _) HG.out (fun k e => by cases e)⟩

set_option maxRecDepth 100000 in
set_option maxHeartbeats 1000000 in
theorem ints_c (A B : Option Addr) (n c m d : Nat) (a b : List Int) (w : World) (ha : Sl ics 1 w w.heap.size A n c a) (hb : Sl ics 1 w w.heap.size B m d b) :
  Calls Try.prog 43 #[.slice A n c, .slice B m d] w fun e w' => e = .returned (.bool (decide (a = b))) ∧ Ev w w' := by
 have hsm := ha.small
 have hsm' := hb.small
 by_cases hl : n = m
 ·
  subst hl
  have hla := ha.len
  have hlb := hb.len
  have HLA := hid hla
  have HLB := hid hlb
  clear hla hlb
  have hne : ((n : Int) != (n : Int)) = false := by simp
  go_enter Try.func43, Try.ntmps43
  go_wp2
  go_loopw [5] (fun i wr => ∃ k : Nat, i = .int .i64 k ∧ k ≤ n ∧ Ev w wr ∧ Hid (a.take k = b.take k)) (fun i _ => n - (intOf i).toNat)
  case atStart => exact ⟨0, rfl, by omega, Ev.refl _, hid rfl⟩
  case round =>
   obtain ⟨k, rfl, hk, hE, HT⟩ := hrel
   by_cases hlt : k < n
   ·
    obtain ⟨b1, o1, x, rfl, hb1, hx, hxd, e1⟩ := ha.int hE hlt
    obtain ⟨b2, o2, y, rfl, hb2, hy, hyd, e2⟩ := hb.int hE hlt
    have HX := hid hx
    have HY := hid hy
    clear hx hy hxd hyd
    by_cases hxy : x = y
    ·
     have hne2 : (x != y) = false := by simpa using hxy
     have HXY := hid hxy
     clear hxy
     go_wp2_with (go_quiet (fail))
     refine ⟨⟨k + 1, by go_num, by omega, hE.drewN _, hid ?_⟩, by simp [intOf]; omega⟩
     rw [List.take_add_one, List.take_add_one, HT.out, HX.out, HY.out, HXY.out]
    ·
     have hne2 : (x != y) = true := by simpa using hxy
     have hab : decide (a = b) = false := by
      rw [decide_eq_false_iff_not]
      intro e
      have h1 := HX.out
      rw [e, HY.out] at h1
      exact hxy (by simpa using h1.symm)
     have HAB := hid hab
     clear hxy hab
     go_wp2_with (go_quiet (fail))
     go_ret
     exact ⟨ret_bool HAB.out.symm, hE.drewN _⟩
   ·
    have hkn : k = n := by omega
    subst hkn
    have hT := HT.out
    rw [List.take_of_length_le (by rw [HLA.out]; exact Nat.le_refl _), List.take_of_length_le (by rw [HLB.out]; exact Nat.le_refl _)] at hT
    have HT2 := hid hT
    clear hT
    go_wp2
    go_ret
    exact ⟨ret_bool (by rw [HT2.out]; simp), hE⟩
 ·
  have hne : ((n : Int) != (m : Int)) = true := by simpa using (show ¬ (n : Int) = m by omega)
  have hab : decide (a = b) = false := by
   rw [decide_eq_false_iff_not]
   intro e
   exact hl (by rw [← ha.len, ← hb.len, e])
  have HAB := hid hab
  clear hl hab
  go_enter Try.func43, Try.ntmps43
  go_wp2
  go_ret
  exact ⟨ret_bool HAB.out.symm, Ev.refl _⟩

set_option maxRecDepth 100000 in
set_option maxHeartbeats 2000000 in
theorem Truth_c (Tw : Option Addr) (tw twc : Nat) (t : M.Tr) (hw1 : tw ≤ 1000) (w : World) (hwt : Sl ics 1 w w.heap.size Tw tw twc t.wet) :
  Calls Try.prog 22 #[.agg #[.int .i64 t.st, .slice Tw tw twc]] w fun e w' => (∃ B1 d1, e = .returned (.agg #[.int .i64 t.st, .slice B1 tw d1]) ∧ Sl ics 1 w' w'.heap.size B1 tw d1 t.wet) ∧ Ev w w' := by
 go_enter Try.func22, Try.ntmps22
 go_upto_region 1 with fail
 generalize hW0 : World.alloc (World.alloc w _) _ = W0
 have hE0 : Ev w W0 := by rw [← hW0]; exact Ev.alloc (Ev.alloc (Ev.refl _) _) _
 have hal := alloc2 w (.cells #[.int .i64 t.st, .slice Tw tw twc] 30) (.cells #[.int .i64 0, .slice none 0 0] 42)
 rw [hW0] at hal
 have Q0 := hid hal.1
 have Q1 := hid hal.2.1
 clear hal hW0
 obtain ⟨x0, x1⟩ := cells2 Q0.out
 have l0 := heap_lt Q0.out
 have HSE : Hid (∀ w', Ev W0 w' → (∀ o, w'.cell? ⟨w.heap.size, o, none⟩ = W0.cell? ⟨w.heap.size, o, none⟩)) := hid (fun w' h => fun o => h.cells.1 _ o l0)
 refine wp_region_held_drew (S := fun w' => (∀ o, w'.cell? ⟨w.heap.size, o, none⟩ = W0.cell? ⟨w.heap.size, o, none⟩)) (by kernel_rfl) (fun o => rfl) (fun hHeld => ?_)
 refine tkH 0 (some 3) ?_
 (try simp only [Act.put, sA, sB, sC])
 refine tkH 1 (some 4) ?_
 (try simp only [Act.put, sA, sB, sC])
 refine tkH 2 (some 5) ?_
 (try simp only [Act.put, sA, sB, sC])
 refine tkH 3 (some 6) ?_
 (try simp only [Act.put, sA, sB, sC])
 refine wpAnyH_one (i := 4) rfl (by kernel_rfl) (by rfl) (fun K hK => ?_)
 go_simp
 refine (list_c _ _ _ t.wet (by omega) _ ((hwt.ev hE0).ev (Ev.drew (Ev.refl _)))).mono ?_
 rintro e w1 ⟨⟨B1, d1, rfl, ho1⟩, hb1⟩
 have hE1 : Ev W0 w1 := Ev.trans (Ev.drew (Ev.refl _)) hb1
 have HO1 := hid ho1
 have hq2 := hE1.heap Q1.out
 obtain ⟨z0, z1⟩ := cells2 hq2
 obtain ⟨f0, f1⟩ := frz2 hq2
 have HQ := hid hq2
 have HE := hid (hE0.trans hE1)
 clear ho1 hq2
 refine hK.out _ _ (HSE.out _ hE1) (fun hHeld => ?_)
 clear hK K
 (try simp only [Act.put, List.setIfInBounds_toArray, List.set_cons_zero, List.set_cons_succ])
 refine tkH 5 (some 8) ?_
 (try simp only [Act.put, sA, sB, sC])
 refine wpAnyH_one (i := 6) rfl (by kernel_rfl) (by rfl) (fun K hK => ?_)
 go_simp
 refine hK.out _ _ (fun o => (cell_set_ne (by simp)).trans ((cell_set_ne (by simp)).trans (HSE.out _ hE1 o))) (fun hHeld => ?_)
 clear hK K
 (try simp only [Act.put, List.setIfInBounds_toArray, List.set_cons_zero, List.set_cons_succ])
 refine wpAnyH_done (by kernel_rfl) ?_ _
 go_wp2
 have hF := set2 (v0 := (.int .i64 t.st : Value)) (v1 := (.slice B1 tw d1 : Value)) HQ.out
 obtain ⟨d0, d1'⟩ := cells2 hF
 have o1 := own_set (j := 1) (u := (.slice B1 tw d1 : Value)) (own_set (j := 0) (u := (.int .i64 t.st : Value)) HO1.out HQ.out (by decide)) (set_heap_same HQ.out) (by decide)
 refine bodyPost_ret (v := .agg #[.int .i64 t.st, .slice B1 tw d1]) (by simp [results, Try.results22, go_sem, d0, d1']) rfl ⟨⟨B1, d1, rfl, sl_own (enc := ics) (by decide) (ics_len _) (by omega) o1⟩, ?_⟩
 exact Ev.setCell (Ev.setCell HE.out (by simp) _) (by simp) _

def M.firstT : M.Tr := ⟨30, [10, 10, 12, 8, 10]⟩
set_option maxRecDepth 100000 in
set_option maxHeartbeats 1000000 in
theorem first_c (w : World) :
  Calls Try.prog 47 #[] w fun e w' => (∃ B1, e = .returned (.agg #[.int .i64 30, .slice B1 5 5]) ∧ Sl ics 1 w' w'.heap.size B1 5 5 M.firstT.wet) ∧ Ev w w' := by
 go_enter Try.func47, Try.ntmps47
 go_wp2
 have hal := alloc2 w (.cells #[.int .i64 30, .slice (some ⟨w.heap.size + 1, 0, none⟩) 5 5] 42) (.cells #[.int .i64 10, .int .i64 10, .int .i64 12, .int .i64 8, .int .i64 10] 3)
 obtain ⟨d0, d1⟩ := cells2 hal.1
 have hEW : Ev w (World.alloc (World.alloc w (.cells #[.int .i64 30, .slice (some ⟨w.heap.size + 1, 0, none⟩) 5 5] 42)) (.cells #[.int .i64 10, .int .i64 10, .int .i64 12, .int .i64 8, .int .i64 10] 3)) := Ev.alloc (Ev.alloc (Ev.refl _) _) _
 generalize World.alloc (World.alloc w _) _ = W3 at *
 refine bodyPost_ret (v := .agg #[.int .i64 30, .slice (some ⟨w.heap.size + 1, 0, none⟩) 5 5]) (by simp [results, Try.results47, go_sem, d0, d1]) rfl ⟨⟨_, rfl, sl_block (enc := ics) (xs := M.firstT.wet) (by decide) (ics_len _) (by omega) rfl hal.2.1⟩, hEW⟩

def M.oneL : List M.Rd := [⟨1, 53, 1⟩, ⟨3, 70, 1⟩]
def M.oneG : List M.Rg := [⟨10, 12⟩, ⟨10, 10⟩, ⟨12, 12⟩, ⟨8, 9⟩, ⟨10, 10⟩]
/-- The chapter's heap, with some of its readings. -/
def M.oneF (k : Nat) : M.Cf := ⟨4, 10, 50, 20, 60, ⟨30, 32⟩, M.oneG, [], M.oneL.take k⟩
set_option maxRecDepth 100000 in
set_option maxHeartbeats 4000000 in
theorem one_c (k : Nat) (hk : k ≤ 2) (w : World) :
  Calls Try.prog 46 #[.int .i64 k] w fun e w' => (∃ B1 B3, e = .returned (.agg #[.int .i64 4, .int .i64 10, .int .i64 50, .int .i64 20, .int .i64 60, .int .i64 30, .int .i64 32, .slice B1 5 5, .slice none 0 0, .slice B3 k 2]) ∧ CS w' w'.heap.size (M.oneF k) B1 none B3 5 5 0 0 k 2) ∧ Ev w w' := by
 have hki : (k : Int) ≤ 2 := by omega
 go_enter Try.func46, Try.ntmps46
 go_upto_region 2 with fail
 generalize hW0 : World.alloc (World.alloc w _) _ = W0
 have hE0 : Ev w W0 := by rw [← hW0]; exact Ev.alloc (Ev.alloc (Ev.refl _) _) _
 have hal := alloc2 w (.cells #[.int .i64 0, .int .i64 0, .int .i64 0, .int .i64 0, .int .i64 0, .int .i64 0, .int .i64 0, .slice none 0 0, .slice none 0 0, .slice none 0 0] 40) (.cells #[.int .i64 1, .int .i64 53, .int .i64 1, .int .i64 3, .int .i64 70, .int .i64 1] 79)
 rw [hW0] at hal
 have HQ0 := hid hal.1
 have HQ1 := hid hal.2.1
 have hz0 := hal.2.2
 clear hal hW0
 refine wp_region_held_drew (S := fun _ => True) (by kernel_rfl) (trivial) (fun hHeld => ?_)
 refine tkH 7 (some 14) ?_
 (try simp only [Act.put, sA, sB, sC])
 refine tkH 8 (some 15) ?_
 (try simp only [Act.put, sA, sB, sC])
 refine tkH 9 (some 16) ?_
 (try simp only [Act.put, sA, sB, sC])
 refine wpAnyH_one (i := 0) rfl (by kernel_rfl) (by rfl) (fun K hK => ?_)
 go_simp
 refine (between_c 30 32 _).mono ?_
 rintro e v1 ⟨rfl, hb1⟩
 have hE1 : Ev W0 v1 := Ev.trans (Ev.drew (Ev.refl _)) hb1
 refine hK.out _ _ (trivial) (fun hHeld => ?_)
 clear hK K
 (try simp only [Act.put, List.setIfInBounds_toArray, List.set_cons_zero, List.set_cons_succ])
 refine wpAnyH_one (i := 1) rfl (by kernel_rfl) (by rfl) (fun K hK => ?_)
 go_simp
 refine (between_c 10 12 _).mono ?_
 rintro e v2 ⟨rfl, hb2⟩
 have hE2 : Ev W0 v2 := Ev.trans hE1 hb2
 refine hK.out _ _ (trivial) (fun hHeld => ?_)
 clear hK K
 (try simp only [Act.put, List.setIfInBounds_toArray, List.set_cons_zero, List.set_cons_succ])
 refine wpAnyH_one (i := 2) rfl (by kernel_rfl) (by rfl) (fun K hK => ?_)
 go_simp
 refine (between_c 10 10 _).mono ?_
 rintro e v3 ⟨rfl, hb3⟩
 have hE3 : Ev W0 v3 := Ev.trans hE2 hb3
 refine hK.out _ _ (trivial) (fun hHeld => ?_)
 clear hK K
 (try simp only [Act.put, List.setIfInBounds_toArray, List.set_cons_zero, List.set_cons_succ])
 refine wpAnyH_one (i := 3) rfl (by kernel_rfl) (by rfl) (fun K hK => ?_)
 go_simp
 refine (between_c 12 12 _).mono ?_
 rintro e v4 ⟨rfl, hb4⟩
 have hE4 : Ev W0 v4 := Ev.trans hE3 hb4
 refine hK.out _ _ (trivial) (fun hHeld => ?_)
 clear hK K
 (try simp only [Act.put, List.setIfInBounds_toArray, List.set_cons_zero, List.set_cons_succ])
 refine wpAnyH_one (i := 4) rfl (by kernel_rfl) (by rfl) (fun K hK => ?_)
 go_simp
 refine (between_c 8 9 _).mono ?_
 rintro e v5 ⟨rfl, hb5⟩
 have hE5 : Ev W0 v5 := Ev.trans hE4 hb5
 refine hK.out _ _ (trivial) (fun hHeld => ?_)
 clear hK K
 (try simp only [Act.put, List.setIfInBounds_toArray, List.set_cons_zero, List.set_cons_succ])
 refine wpAnyH_one (i := 5) rfl (by kernel_rfl) (by rfl) (fun K hK => ?_)
 go_simp
 refine (between_c 10 10 _).mono ?_
 rintro e v6 ⟨rfl, hb6⟩
 have hE6 : Ev W0 v6 := Ev.trans hE5 hb6
 refine hK.out _ _ (trivial) (fun hHeld => ?_)
 clear hK K
 (try simp only [Act.put, List.setIfInBounds_toArray, List.set_cons_zero, List.set_cons_succ])
 refine wpAnyH_one (i := 6) rfl (by kernel_rfl) (by rfl) (fun K hK => ?_)
 go_simp
 generalize hWA : World.alloc v6 _ = v7
 have hal : (World.alloc v6 (.cells #[.int .i64 10, .int .i64 12, .int .i64 10, .int .i64 10, .int .i64 12, .int .i64 12, .int .i64 8, .int .i64 9, .int .i64 10, .int .i64 10] 36)).heap[v6.heap.size]? = _ := (alloc1 v6 (.cells #[.int .i64 10, .int .i64 12, .int .i64 10, .int .i64 10, .int .i64 12, .int .i64 12, .int .i64 8, .int .i64 9, .int .i64 10, .int .i64 10] 36)).1
 rw [hWA] at hal
 have HA : Hid (v7.heap[v6.heap.size]? = some (.cells #[.int .i64 10, .int .i64 12, .int .i64 10, .int .i64 10, .int .i64 12, .int .i64 12, .int .i64 8, .int .i64 9, .int .i64 10, .int .i64 10] 36 (0, 0))) := hid hal
 have hb7 : Ev v6 v7 := by rw [← hWA]; exact Ev.alloc (Ev.refl _) _
 have hE7 : Ev W0 v7 := Ev.trans hE6 hb7
 have hqw : W0.heap.size ≤ v6.heap.size := Ev.size hE6
 clear hWA hal
 refine hK.out _ _ (trivial) (fun hHeld => ?_)
 clear hK K
 (try simp only [Act.put, List.setIfInBounds_toArray, List.set_cons_zero, List.set_cons_succ])
 refine tkH 10 (some 17) ?_
 (try simp only [Act.put, sA, sB, sC])
 refine wpAnyH_one (i := 11) rfl (by kernel_rfl) (by rfl) (fun K hK => ?_)
 have hz := hE7.heap HQ0.out
 obtain ⟨z0, z1, z2, z3, z4, z5, z6, z7, z8, z9⟩ := cells10 hz
 obtain ⟨f0, f1, f2, f3, f4, f5, f6, f7, f8, f9⟩ := frz10 hz
 go_simp
 generalize hXF : World.setCell _ _ _ = XF
 have HXF : Hid (XF.heap[w.heap.size]? = some (.cells #[.int .i64 4, .int .i64 10, .int .i64 50, .int .i64 20, .int .i64 60, .int .i64 30, .int .i64 32, .slice (some ⟨v6.heap.size, 0, none⟩) 5 5, .slice none 0 0, .slice (some ⟨w.heap.size + 1, 0, none⟩) k 2] 40 (0, 0))) := hid (by rw [← hXF]; exact set10 hz)
 have hkp : ∀ j o, j ≠ w.heap.size → v7.heap[j]? = some o → XF.heap[j]? = some o := fun j o hj ho => by rw [← hXF]; exact set_heap (set_heap (set_heap (set_heap (set_heap (set_heap (set_heap (set_heap (set_heap (set_heap ho hj) hj) hj) hj) hj) hj) hj) hj) hj) hj
 have hEF : Ev w XF := by rw [← hXF]; exact Ev.setCell (Ev.setCell (Ev.setCell (Ev.setCell (Ev.setCell (Ev.setCell (Ev.setCell (Ev.setCell (Ev.setCell (Ev.setCell (hE0.trans hE7) (by simp) _) (by simp) _) (by simp) _) (by simp) _) (by simp) _) (by simp) _) (by simp) _) (by simp) _) (by simp) _) (by simp) _
 have ha := hkp _ _ (by omega) HA.out
 have hr := hkp _ _ (by omega) (hE7.heap HQ1.out)
 have HCS := hid (show CS XF XF.heap.size (M.oneF k) (some ⟨v6.heap.size, 0, none⟩) none (some ⟨w.heap.size + 1, 0, none⟩) 5 5 0 0 k 2 from ⟨sl_block (enc := rgc) (n := 5) (xs := M.oneG) (by decide) (rgc_len _) (by omega) rfl ha, Sl.nil, (sl_block (enc := rdc) (n := 2) (xs := M.oneL) (by decide) (rdc_len _) (by omega) rfl hr).take hk⟩)
 clear hXF z0 z1 z2 z3 z4 z5 z6 z7 z8 z9 f0 f1 f2 f3 f4 f5 f6 f7 f8 f9 hz ha hr hkp
 refine hK.out _ _ (trivial) (fun hHeld => ?_)
 clear hK K
 (try simp only [Act.put, List.setIfInBounds_toArray, List.set_cons_zero, List.set_cons_succ])
 refine wpAnyH_done (by kernel_rfl) ?_ _
 go_wp2
 obtain ⟨d0, d1, d2, d3, d4, d5, d6, d7, d8, d9⟩ := cells10 HXF.out
 refine bodyPost_ret (v := .agg #[.int .i64 4, .int .i64 10, .int .i64 50, .int .i64 20, .int .i64 60, .int .i64 30, .int .i64 32, .slice (some ⟨v6.heap.size, 0, none⟩) 5 5, .slice none 0 0, .slice (some ⟨w.heap.size + 1, 0, none⟩) k 2]) (by simp [results, Try.results46, go_sem, d0, d1, d2, d3, d4, d5, d6, d7, d8, d9]) rfl ⟨⟨_, _, rfl, HCS.out⟩, hEF⟩

end Go.Proofs.Ytgimcephbeajlaa
