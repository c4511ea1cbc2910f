import Derived.Test.YtgimcephbeajlaaC22
set_option linter.unusedSimpArgs false
set_option linter.unusedVariables false
namespace Go.Proofs.Ytgimcephbeajlaa
open Go.RowKit Go.Shelf

instance : DecidableEq M.Rg := fun a b =>
 if h : a.lo = b.lo ∧ a.hi = b.hi then isTrue (by cases a; cases b; simp at h; simp [h]) else isFalse (fun e => h (by subst e; exact ⟨rfl, rfl⟩))
theorem aw1 : M.check (M.oneF 0) = 0 ∧ M.listed (M.oneF 0) M.firstT = true ∧ M.isTurns (M.oneF 0) [2] = true ∧ (M.heats (M.oneF 0) M.firstT [2]).take 5 = [40, 50, 37, 45, 55] := by decide +kernel
theorem aw2 : M.begin (M.oneF 0) (M.isTurns (M.oneF 0) []) = 0 ∧ (M.bounds (M.oneF 0) (M.truths (M.oneF 0)) []).length = 5 ∧ (M.bounds (M.oneF 0) (M.truths (M.oneF 0)) [])[3]? = some ⟨70, 75⟩ := by decide +kernel
theorem aw3 : M.begin (M.oneF 0) (M.isTurns (M.oneF 0) [1]) = 0 ∧ M.keepsOf (M.oneF 0) (M.truths (M.oneF 0)) [1] = 3 := by decide +kernel
theorem aw4 : M.begin (M.oneF 1) (M.isTurns (M.oneF 1) [1]) = 0 ∧ M.keepsOf (M.oneF 1) (M.truths (M.oneF 1)) [1] = 2 := by decide +kernel
theorem aw5 : M.fear (M.oneF 0) (M.truths (M.oneF 0)) [1] = some 4 ∧ M.burnsAt (M.oneF 0) (M.truths (M.oneF 0)) [1] 4 = true ∧ M.diesAt (M.oneF 0) (M.truths (M.oneF 0)) [1] 4 = false := by decide +kernel
theorem aw6 : M.begin (M.oneF 0) true = 0 ∧ M.few (M.oneF 0) (M.truths (M.oneF 0)) = [2] ∧ ((M.truths (M.oneF 0)).all fun t => M.stays (M.oneF 0) t [2]) = true := by decide +kernel
theorem aw7 : M.wrong (M.oneF 2) = (1, 0) := by decide +kernel
theorem aw8 : M.check (M.oneF 2) = 0 ∧ M.shortest (M.spares (M.oneF 2)) 2 = [0] := by decide +kernel
theorem oneF_lo (k : Nat) : -9223372036854775808 ≤ (M.oneF k).last := by unfold M.oneF; simp
theorem one0_c (W : World) : Calls Try.prog 46 #[.int .i64 0] W fun e w' => (∃ B1 B3, e = .returned (.agg #[.int .i64 4, .int .i64 10, .int .i64 50, .int .i64 20, .int .i64 60, .int .i64 30, .int .i64 32, .slice B1 5 5, .slice none 0 0, .slice B3 0 2]) ∧ CS w' w'.heap.size (M.oneF 0) B1 none B3 5 5 0 0 0 2) ∧ Ev W w' := one_c 0 (by omega) W
theorem one1_c (W : World) : Calls Try.prog 46 #[.int .i64 1] W fun e w' => (∃ B1 B3, e = .returned (.agg #[.int .i64 4, .int .i64 10, .int .i64 50, .int .i64 20, .int .i64 60, .int .i64 30, .int .i64 32, .slice B1 5 5, .slice none 0 0, .slice B3 1 2]) ∧ CS w' w'.heap.size (M.oneF 1) B1 none B3 5 5 0 0 1 2) ∧ Ev W w' := one_c 1 (by omega) W
theorem one2_c (W : World) : Calls Try.prog 46 #[.int .i64 2] W fun e w' => (∃ B1 B3, e = .returned (.agg #[.int .i64 4, .int .i64 10, .int .i64 50, .int .i64 20, .int .i64 60, .int .i64 30, .int .i64 32, .slice B1 5 5, .slice none 0 0, .slice B3 2 2]) ∧ CS w' w'.heap.size (M.oneF 2) B1 none B3 5 5 0 0 2 2) ∧ Ev W w' := one_c 2 (by omega) W
theorem awPlay {B1 B3 : Option Addr} {D1 : Option Addr} {W0 W : World} (hs : CS W0 W0.heap.size (M.oneF 0) B1 none B3 5 5 0 0 0 2) (hE : Ev W0 W) (h1 : Sl ics 1 W W.heap.size D1 5 5 M.firstT.wet) : Calls Try.prog 20 #[.agg #[.int .i64 4, .int .i64 10, .int .i64 50, .int .i64 20, .int .i64 60, .int .i64 30, .int .i64 32, .slice B1 5 5, .slice none 0 0, .slice B3 0 2], .agg #[.int .i64 30, .slice D1 5 5], .slice (some ⟨W.heap.size, 0, none⟩) 1 1] (W.alloc (.cells #[.int .i64 2] 3)) fun e w' => (∃ B d, e = .returned (.tuple #[.slice B 5 d, .int .i64 0]) ∧ Sl ics 1 w' w'.heap.size B 5 d [40, 50, 37, 45, 55]) ∧ Ev W w' := by
 have hA : Ev W (W.alloc (.cells #[.int .i64 2] 3)) := Ev.alloc (Ev.refl _) _
 refine (Play_ok (M.oneF 0) B1 none B3 5 5 0 0 0 2 D1 5 5 M.firstT (some ⟨W.heap.size, 0, none⟩) 1 1 [2] (oneF_lo 0) _ (hs.ev (hE.trans hA)) (h1.ev hA) (sl_lit W 3 [2] 1 #[.int .i64 2] rfl (by omega) (ics_len _) rfl) aw1.1 aw1.2.1 aw1.2.2.1).mono ?_
 rintro e w' ⟨⟨B, d, he, ho⟩, hb⟩
 rw [aw1.2.2.2] at ho
 exact ⟨⟨B, d, he, ho⟩, hA.trans hb⟩
theorem awBounds {B1 B3 : Option Addr} {W : World} (hs : CS W W.heap.size (M.oneF 0) B1 none B3 5 5 0 0 0 2) : Calls Try.prog 31 #[.agg #[.int .i64 4, .int .i64 10, .int .i64 50, .int .i64 20, .int .i64 60, .int .i64 30, .int .i64 32, .slice B1 5 5, .slice none 0 0, .slice B3 0 2], .slice none 0 0] W fun e w' => (∃ B d xs, e = .returned (.tuple #[.slice B 5 d, .int .i64 0]) ∧ Sl rgc 2 w' w'.heap.size B 5 d xs ∧ xs[3]? = some ⟨70, 75⟩) ∧ Ev W w' := by
 refine (Bounds_ok (M.oneF 0) B1 none B3 5 5 0 0 0 2 none 0 0 [] (oneF_lo 0) _ hs Sl.nil aw2.1).mono ?_
 rintro e w' ⟨⟨B, d, he, ho⟩, hb⟩
 exact ⟨⟨B, d, _, he, ho, aw2.2.2⟩, hb⟩
theorem awKeeps0 {B1 B3 : Option Addr} {W0 W : World} (hs : CS W0 W0.heap.size (M.oneF 0) B1 none B3 5 5 0 0 0 2) (hE : Ev W0 W) : Calls Try.prog 32 #[.agg #[.int .i64 4, .int .i64 10, .int .i64 50, .int .i64 20, .int .i64 60, .int .i64 30, .int .i64 32, .slice B1 5 5, .slice none 0 0, .slice B3 0 2], .slice (some ⟨W.heap.size, 0, none⟩) 1 1] (W.alloc (.cells #[.int .i64 1] 3)) fun e w' => e = .returned (.tuple #[.int .i64 3, .int .i64 0]) ∧ Ev W w' := by
 have hA : Ev W (W.alloc (.cells #[.int .i64 1] 3)) := Ev.alloc (Ev.refl _) _
 refine (Keeps_ok (M.oneF 0) B1 none B3 5 5 0 0 0 2 (some ⟨W.heap.size, 0, none⟩) 1 1 [1] (oneF_lo 0) _ (hs.ev (hE.trans hA)) (sl_lit W 3 [1] 1 #[.int .i64 1] rfl (by omega) (ics_len _) rfl) aw3.1).mono ?_
 rintro e w' ⟨he, hb⟩
 rw [aw3.2] at he
 exact ⟨he, hA.trans hb⟩
theorem awKeeps1 {B1 B3 : Option Addr} {W0 W : World} (hs : CS W0 W0.heap.size (M.oneF 1) B1 none B3 5 5 0 0 1 2) (hE : Ev W0 W) : Calls Try.prog 32 #[.agg #[.int .i64 4, .int .i64 10, .int .i64 50, .int .i64 20, .int .i64 60, .int .i64 30, .int .i64 32, .slice B1 5 5, .slice none 0 0, .slice B3 1 2], .slice (some ⟨W.heap.size, 0, none⟩) 1 1] (W.alloc (.cells #[.int .i64 1] 3)) fun e w' => e = .returned (.tuple #[.int .i64 2, .int .i64 0]) ∧ Ev W w' := by
 have hA : Ev W (W.alloc (.cells #[.int .i64 1] 3)) := Ev.alloc (Ev.refl _) _
 refine (Keeps_ok (M.oneF 1) B1 none B3 5 5 0 0 1 2 (some ⟨W.heap.size, 0, none⟩) 1 1 [1] (oneF_lo 1) _ (hs.ev (hE.trans hA)) (sl_lit W 3 [1] 1 #[.int .i64 1] rfl (by omega) (ics_len _) rfl) aw4.1).mono ?_
 rintro e w' ⟨he, hb⟩
 rw [aw4.2] at he
 exact ⟨he, hA.trans hb⟩
theorem awFear {B1 B3 : Option Addr} {W0 W : World} (hs : CS W0 W0.heap.size (M.oneF 0) B1 none B3 5 5 0 0 0 2) (hE : Ev W0 W) : Calls Try.prog 38 #[.agg #[.int .i64 4, .int .i64 10, .int .i64 50, .int .i64 20, .int .i64 60, .int .i64 30, .int .i64 32, .slice B1 5 5, .slice none 0 0, .slice B3 0 2], .slice (some ⟨W.heap.size, 0, none⟩) 1 1] (W.alloc (.cells #[.int .i64 1] 3)) fun e w' => e = .returned (.tuple #[.agg #[.int .i64 4, .bool true, .bool false], .int .i64 0]) ∧ Ev W w' := by
 have hA : Ev W (W.alloc (.cells #[.int .i64 1] 3)) := Ev.alloc (Ev.refl _) _
 refine (Fear_ok (M.oneF 0) B1 none B3 5 5 0 0 0 2 (some ⟨W.heap.size, 0, none⟩) 1 1 [1] (oneF_lo 0) _ (hs.ev (hE.trans hA)) (sl_lit W 3 [1] 1 #[.int .i64 1] rfl (by omega) (ics_len _) rfl) aw3.1 4 aw5.1).mono ?_
 rintro e w' ⟨he, hb⟩
 rw [aw5.2.1, aw5.2.2] at he
 exact ⟨he, hA.trans hb⟩
theorem awFew {B1 B3 : Option Addr} {W : World} (hs : CS W W.heap.size (M.oneF 0) B1 none B3 5 5 0 0 0 2) : Calls Try.prog 48 #[.agg #[.int .i64 4, .int .i64 10, .int .i64 50, .int .i64 20, .int .i64 60, .int .i64 30, .int .i64 32, .slice B1 5 5, .slice none 0 0, .slice B3 0 2]] W fun e w' => (∃ B d, e = .returned (.tuple #[.slice B 1 d, .int .i64 0]) ∧ Sl ics 1 w' w'.heap.size B 1 d [2]) ∧ Ev W w' := by
 refine (Fewest_ok (M.oneF 0) B1 none B3 5 5 0 0 0 2 (oneF_lo 0) _ hs aw6.1 (by rw [aw6.2.1]; exact aw6.2.2)).mono ?_
 rintro e w' ⟨⟨B, d, he, ho⟩, hb⟩
 rw [aw6.2.1] at he ho
 exact ⟨⟨B, d, he, sl_own (enc := ics) (by decide) (ics_len _) (by decide) ho⟩, hb⟩
theorem awFirst {B1 B3 : Option Addr} {W : World} (hs : CS W W.heap.size (M.oneF 2) B1 none B3 5 5 0 0 2 2) : Calls Try.prog 40 #[.agg #[.int .i64 4, .int .i64 10, .int .i64 50, .int .i64 20, .int .i64 60, .int .i64 30, .int .i64 32, .slice B1 5 5, .slice none 0 0, .slice B3 2 2]] W fun e w' => e = .returned (.tuple #[.int .i64 1, .int .i64 0]) ∧ Ev W w' := by
 refine (First_c (M.oneF 2) B1 none B3 5 5 0 0 2 2 (oneF_lo 2) _ hs).mono ?_
 rintro e w' ⟨he, hb⟩
 rw [aw7] at he
 exact ⟨he, hb⟩
theorem awLeave {B1 B3 : Option Addr} {W : World} (hs : CS W W.heap.size (M.oneF 2) B1 none B3 5 5 0 0 2 2) : Calls Try.prog 41 #[.agg #[.int .i64 4, .int .i64 10, .int .i64 50, .int .i64 20, .int .i64 60, .int .i64 30, .int .i64 32, .slice B1 5 5, .slice none 0 0, .slice B3 2 2]] W fun e w' => (∃ B d, e = .returned (.tuple #[.slice B 1 d, .int .i64 0]) ∧ Sl ics 1 w' w'.heap.size B 1 d [0]) ∧ Ev W w' := by
 refine (Leave_ok (M.oneF 2) B1 none B3 5 5 0 0 2 2 (oneF_lo 2) _ hs aw8.1).mono ?_
 rintro e w' ⟨⟨B, d, he, ho⟩, hb⟩
 rw [aw8.2] at he ho
 exact ⟨⟨B, d, he, ho⟩, hb⟩
theorem intsL_c (xs : List Int) (n q : Nat) (hn : xs.length = n) (hsm : n ≤ 1000) {B : Option Addr} {d : Nat} {W0 W : World} (hs : Sl ics 1 W0 W0.heap.size B n d xs) (hE : Ev W0 W) (hq : W.heap[q]? = some (.cells (xs.flatMap ics).toArray 3 (0, 0))) :
  Calls Try.prog 43 #[.slice B n d, .slice (some ⟨q, 0, none⟩) n n] W fun e w' => e = .returned (.bool true) ∧ Ev W w' := by
 refine Calls.mono (ints_c B _ n d n n xs xs _ (hs.ev hE) (sl_block (enc := ics) (by decide) (ics_len _) (by omega) hn hq)) ?_
 rintro e w' ⟨rfl, h⟩
 exact ⟨by simp, h⟩

set_option maxRecDepth 100000 in
set_option maxHeartbeats 8000000 in
theorem awake_c (w : World) : Calls Try.prog 19 #[] w fun e w' => e = .returned (.bool true) ∧ Ev w w' := by
 go_enter Try.func19, Try.ntmps19
 go_upto_region 2 with (first | (go_at_call 46; with_reducible refine (one0_c _).mono ?_; rintro e w1 ⟨⟨B1, B3, rfl, hcs⟩, hb⟩; have HC := hid hcs; have HE1 := hid hb; clear hcs hb) | (go_at_call 47; with_reducible refine (first_c _).mono ?_; rintro e w2 ⟨⟨D1, rfl, hd1⟩, hb⟩; have HD1 := hid hd1; have HE2 := hid hb; clear hd1 hb) | (go_at_call 20; with_reducible refine (awPlay HC.out HE2.out HD1.out).mono ?_; rintro e w3 ⟨⟨BP, dP, rfl, hp⟩, hb⟩; have HP := hid hp; have HE3 := hid (HE1.out.trans (HE2.out.trans hb)); clear hp hb HC HD1 HE1 HE2))
 go_upto_region 3 with (first | (go_at_call 46; with_reducible refine (one0_c _).mono ?_; rintro e w4 ⟨⟨B1, B3, rfl, hcs⟩, hb⟩; have HC := hid hcs; have HE4 := hid hb; clear hcs hb) | (go_at_call 31; with_reducible refine (awBounds HC.out).mono ?_; rintro e w5 ⟨⟨BB, dB, bxs, rfl, hp, hx3⟩, hb⟩; have HB := hid hp; have HX3 := hid hx3; have HE5 := hid (HE4.out.trans hb); clear hp hb hx3 HC HE4))
 go_upto_region 4 with (first | (go_at_call 46; with_reducible refine (one0_c _).mono ?_; rintro e w6 ⟨⟨B1, B3, rfl, hcs⟩, hb⟩; have HC := hid hcs; have HE6 := hid hb; clear hcs hb) | (go_at_call 32; with_reducible refine (awKeeps0 HC.out (Ev.refl _)).mono ?_; rintro e w7 ⟨rfl, hb⟩; have HE7 := hid (HE6.out.trans hb); clear hb HC HE6))
 go_upto_region 5 with (first | (go_at_call 46; with_reducible refine (one1_c _).mono ?_; rintro e w8 ⟨⟨B1, B3, rfl, hcs⟩, hb⟩; have HC := hid hcs; have HE8 := hid hb; clear hcs hb) | (go_at_call 32; with_reducible refine (awKeeps1 HC.out (Ev.refl _)).mono ?_; rintro e w9 ⟨rfl, hb⟩; have HE9 := hid (HE8.out.trans hb); clear hb HC HE8))
 go_upto_region 6 with (first | (go_at_call 46; with_reducible refine (one0_c _).mono ?_; rintro e w10 ⟨⟨B1, B3, rfl, hcs⟩, hb⟩; have HC := hid hcs; have HE10 := hid hb; clear hcs hb) | (go_at_call 38; with_reducible refine (awFear HC.out (Ev.refl _)).mono ?_; rintro e w11 ⟨rfl, hb⟩; have HE11 := hid (HE10.out.trans hb); clear hb HC HE10))
 generalize hWA : World.alloc w11 _ = WA
 have hEA : Ev w11 WA := by rw [← hWA]; exact Ev.alloc (Ev.refl _) _
 have QA := hid (show WA.heap[w11.heap.size]? = some (.cells #[.int .i64 4, .bool true, .bool false] 64 (0, 0)) from by rw [← hWA]; exact (alloc1 w11 _).1)
 have HEA := hid (HE11.out.trans hEA)
 clear hEA hWA HE11
 go_upto_region 7 with (first | (go_at_call 46; with_reducible refine (one0_c _).mono ?_; rintro e w12 ⟨⟨B1, B3, rfl, hcs⟩, hb⟩; have HC := hid hcs; have HE12 := hid hb; clear hcs hb) | (go_at_call 48; with_reducible refine (awFew HC.out).mono ?_; rintro e w13 ⟨⟨BT, dT, rfl, hp⟩, hb⟩; have HT := hid hp; have HE13 := hid (HE12.out.trans hb); clear hp hb HC HE12))
 go_upto_region 8 with (first | (go_at_call 46; with_reducible refine (one2_c _).mono ?_; rintro e w14 ⟨⟨B1, B3, rfl, hcs⟩, hb⟩; have HC := hid hcs; have HE14 := hid hb; clear hcs hb) | (go_at_call 40; with_reducible refine (awFirst HC.out).mono ?_; rintro e w15 ⟨rfl, hb⟩; have HE15 := hid (HE14.out.trans hb); clear hb HC HE14))
 go_upto_region 9 with (first | (go_at_call 46; with_reducible refine (one2_c _).mono ?_; rintro e w16 ⟨⟨B1, B3, rfl, hcs⟩, hb⟩; have HC := hid hcs; have HE16 := hid hb; clear hcs hb) | (go_at_call 41; with_reducible refine (awLeave HC.out).mono ?_; rintro e w17 ⟨⟨BL, dL, rfl, hp⟩, hb⟩; have HL := hid hp; have HE17 := hid (HE16.out.trans hb); clear hp hb HC HE16))
 have e15 := HE15.out.trans HE17.out
 have eA := HE13.out.trans e15
 have e9 := HEA.out.trans eA
 have e5 := HE7.out.trans (HE9.out.trans e9)
 have e3 := HE5.out.trans e5
 have e0 := HE3.out.trans e3
 obtain ⟨bB, oB, rfl, lB, cB⟩ := (HB.out.ev e5).cells (by omega)
 have dB5 : 5 ≤ dB := HB.out.cap
 have b6 : w17.cell? ⟨bB, oB + 6, none⟩ = some (.int .i64 70) := cB 3 _ HX3.out 0 _ rfl
 have b7 : w17.cell? ⟨bB, oB + 7, none⟩ = some (.int .i64 75) := cB 3 _ HX3.out 1 _ rfl
 have qa := eA.heap QA.out
 obtain ⟨a0, a1, a2⟩ := cells3 qa
 have la := heap_lt qa
 have HE0 := hid e0
 have HPP := hid (HP.out.ev e3)
 have HTT := hid (HT.out.ev e15)
 clear cB qa e15 eA e9 e5 e3 e0 HE15 HE17 HE13 HE9 HEA HE5 HE3 HE7 HP HB QA HT
 have HSE : Hid (∀ w', Ev w17 w' → (∀ o, w'.cell? ⟨bB, o, none⟩ = w17.cell? ⟨bB, o, none⟩) ∧ (∀ o, w'.cell? ⟨w11.heap.size, o, none⟩ = w17.cell? ⟨w11.heap.size, o, none⟩)) := hid (fun w' h => ⟨fun o => h.cells.1 _ o lB, fun o => h.cells.1 _ o la⟩)
 refine wp_region_held_drew (S := fun w' => (∀ o, w'.cell? ⟨bB, o, none⟩ = w17.cell? ⟨bB, o, none⟩) ∧ (∀ o, w'.cell? ⟨w11.heap.size, o, none⟩ = w17.cell? ⟨w11.heap.size, o, none⟩)) (by kernel_rfl) (⟨fun o => rfl, fun o => rfl⟩) (fun hHeld => ?_)
 refine tkH 0 (some 62) ?_
 (try simp only [Act.put, sA, sB, sC])
 refine tkH 1 (some 63) ?_
 (try simp only [Act.put, sA, sB, sC])
 refine tkH 2 (some 64) ?_
 (try simp only [Act.put, sA, sB, sC])
 refine tkH 3 (some 65) ?_
 (try simp only [Act.put, sA, sB, sC])
 refine wpAnyH_one (i := 4) rfl (by kernel_rfl) (by rfl) (fun K hK => ?_)
 go_simp
 generalize hWA : World.drew (World.alloc w17 _) = v1
 have hal : (World.drew (World.alloc w17 (.cells #[.int .i64 40, .int .i64 50, .int .i64 37, .int .i64 45, .int .i64 55] 3))).heap[w17.heap.size]? = _ := (alloc1 w17 (.cells #[.int .i64 40, .int .i64 50, .int .i64 37, .int .i64 45, .int .i64 55] 3)).1
 rw [hWA] at hal
 have HA4 : Hid (v1.heap[w17.heap.size]? = some (.cells #[.int .i64 40, .int .i64 50, .int .i64 37, .int .i64 45, .int .i64 55] 3 (0, 0))) := hid hal
 have hb1 : Ev w17 v1 := by rw [← hWA]; exact Ev.drew (Ev.alloc (Ev.refl _) _)
 have hE1 : Ev w17 v1 := hb1
 clear hWA hal
 refine hK.out _ _ (HSE.out _ hE1) (fun hHeld => ?_)
 clear hK K
 (try simp only [Act.put, List.setIfInBounds_toArray, List.set_cons_zero, List.set_cons_succ])
 refine wpAnyH_one (i := 5) rfl (by kernel_rfl) (by rfl) (fun K hK => ?_)
 go_simp
 refine (intsL_c [40, 50, 37, 45, 55] 5 _ rfl (by omega) HPP.out hE1 HA4.out).mono ?_
 rintro e v2 ⟨rfl, hb⟩
 have hE2 : Ev w17 v2 := Ev.trans hE1 hb
 refine hK.out _ _ (HSE.out _ hE2) (fun hHeld => ?_)
 clear hK K
 (try simp only [Act.put, List.setIfInBounds_toArray, List.set_cons_zero, List.set_cons_succ])
 refine tkH 6 (some 68) ?_
 (try simp only [Act.put, sA, sB, sC])
 refine tkH 7 (some 69) ?_
 (try simp only [Act.put, sA, sB, sC])
 as_aux_lemma =>
  refine tkH 8 (some 70) ?_
  (try simp only [Act.put, sA, sB, sC])
  refine tkH 9 (some 71) ?_
  (try simp only [Act.put, sA, sB, sC])
  refine tkH 10 (some 72) ?_
  (try simp only [Act.put, sA, sB, sC])
  refine tkH 11 (some 73) ?_
  (try simp only [Act.put, sA, sB, sC])
  refine tkH 12 (some 74) ?_
  (try simp only [Act.put, sA, sB, sC])
  refine tkH 13 (some 75) ?_
  (try simp only [Act.put, sA, sB, sC])
  refine tkH 14 (some 76) ?_
  (try simp only [Act.put, sA, sB, sC])
  refine tkH 15 (some 77) ?_
  (try simp only [Act.put, sA, sB, sC])
  as_aux_lemma =>
   refine tkH 16 (some 78) ?_
   (try simp only [Act.put, sA, sB, sC])
   refine tkH 17 (some 79) ?_
   (try simp only [Act.put, sA, sB, sC])
   refine tkH 18 (some 80) ?_
   (try simp only [Act.put, sA, sB, sC])
   refine tkH 19 (some 81) ?_
   (try simp only [Act.put, sA, sB, sC])
   refine wpAnyH_one (i := 20) rfl (by kernel_rfl) (by rfl) (fun K hK => ?_)
   go_simp
   refine (between_c _ _ _).mono ?_
   rintro e v3 ⟨rfl, hb⟩
   have hE3 : Ev w17 v3 := Ev.trans hE2 hb
   refine hK.out _ _ (HSE.out _ hE3) (fun hHeld => ?_)
   clear hK K
   (try simp only [Act.put, List.setIfInBounds_toArray, List.set_cons_zero, List.set_cons_succ])
   refine tkH 21 (some 83) ?_
   (try simp only [Act.put, sA, sB, sC])
   refine tkH 22 (some 84) ?_
   (try simp only [Act.put, sA, sB, sC])
   refine tkH 23 (some 85) ?_
   (try simp only [Act.put, sA, sB, sC])
   as_aux_lemma =>
    refine tkH 24 (some 86) ?_
    (try simp only [Act.put, sA, sB, sC])
    refine tkH 25 (some 87) ?_
    (try simp only [Act.put, sA, sB, sC])
    refine tkH 26 (some 88) ?_
    (try simp only [Act.put, sA, sB, sC])
    refine tkH 27 (some 89) ?_
    (try simp only [Act.put, sA, sB, sC])
    refine tkH 28 (some 90) ?_
    (try simp only [Act.put, sA, sB, sC])
    refine tkH 29 (some 91) ?_
    (try simp only [Act.put, sA, sB, sC])
    refine tkH 30 (some 92) ?_
    (try simp only [Act.put, sA, sB, sC])
    refine tkH 31 (some 93) ?_
    (try simp only [Act.put, sA, sB, sC])
    as_aux_lemma =>
     refine tkH 32 (some 94) ?_
     (try simp only [Act.put, sA, sB, sC])
     refine tkH 33 (some 95) ?_
     (try simp only [Act.put, sA, sB, sC])
     refine tkH 34 (some 96) ?_
     (try simp only [Act.put, sA, sB, sC])
     refine tkH 35 (some 97) ?_
     (try simp only [Act.put, sA, sB, sC])
     refine tkH 36 (some 98) ?_
     (try simp only [Act.put, sA, sB, sC])
     refine tkH 37 (some 99) ?_
     (try simp only [Act.put, sA, sB, sC])
     refine tkH 38 (some 100) ?_
     (try simp only [Act.put, sA, sB, sC])
     refine tkH 39 (some 101) ?_
     (try simp only [Act.put, sA, sB, sC])
     as_aux_lemma =>
      refine tkH 40 (some 102) ?_
      (try simp only [Act.put, sA, sB, sC])
      refine tkH 41 (some 103) ?_
      (try simp only [Act.put, sA, sB, sC])
      refine tkH 42 (some 104) ?_
      (try simp only [Act.put, sA, sB, sC])
      refine tkH 43 (some 105) ?_
      (try simp only [Act.put, sA, sB, sC])
      refine tkH 44 (some 106) ?_
      (try simp only [Act.put, sA, sB, sC])
      refine tkH 45 (some 107) ?_
      (try simp only [Act.put, sA, sB, sC])
      refine tkH 46 (some 108) ?_
      (try simp only [Act.put, sA, sB, sC])
      refine tkH 47 (some 109) ?_
      (try simp only [Act.put, sA, sB, sC])
      as_aux_lemma =>
       refine tkH 48 (some 110) ?_
       (try simp only [Act.put, sA, sB, sC])
       refine tkH 49 (some 111) ?_
       (try simp only [Act.put, sA, sB, sC])
       refine tkH 50 (some 112) ?_
       (try simp only [Act.put, sA, sB, sC])
       refine tkH 51 (some 113) ?_
       (try simp only [Act.put, sA, sB, sC])
       refine tkH 52 (some 114) ?_
       (try simp only [Act.put, sA, sB, sC])
       refine tkH 53 (some 115) ?_
       (try simp only [Act.put, sA, sB, sC])
       refine wpAnyH_one (i := 54) rfl (by kernel_rfl) (by rfl) (fun K hK => ?_)
       go_simp
       generalize hWA : World.alloc v3 _ = v4
       have hal : (World.alloc v3 (.cells #[.int .i64 2] 3)).heap[v3.heap.size]? = _ := (alloc1 v3 (.cells #[.int .i64 2] 3)).1
       rw [hWA] at hal
       have HA54 : Hid (v4.heap[v3.heap.size]? = some (.cells #[.int .i64 2] 3 (0, 0))) := hid hal
       have hb4 : Ev v3 v4 := by rw [← hWA]; exact Ev.alloc (Ev.refl _) _
       have hE4 : Ev w17 v4 := Ev.trans hE3 hb4
       clear hWA hal
       refine hK.out _ _ (HSE.out _ hE4) (fun hHeld => ?_)
       clear hK K
       (try simp only [Act.put, List.setIfInBounds_toArray, List.set_cons_zero, List.set_cons_succ])
       refine wpAnyH_one (i := 55) rfl (by kernel_rfl) (by rfl) (fun K hK => ?_)
       go_simp
       refine (intsL_c [2] 1 _ rfl (by omega) HTT.out hE4 HA54.out).mono ?_
       rintro e v5 ⟨rfl, hb⟩
       have hE5 : Ev w17 v5 := Ev.trans hE4 hb
       refine hK.out _ _ (HSE.out _ hE5) (fun hHeld => ?_)
       clear hK K
       (try simp only [Act.put, List.setIfInBounds_toArray, List.set_cons_zero, List.set_cons_succ])
       as_aux_lemma =>
        refine tkH 56 (some 118) ?_
        (try simp only [Act.put, sA, sB, sC])
        refine tkH 57 (some 119) ?_
        (try simp only [Act.put, sA, sB, sC])
        refine tkH 58 (some 120) ?_
        (try simp only [Act.put, sA, sB, sC])
        refine tkH 59 (some 121) ?_
        (try simp only [Act.put, sA, sB, sC])
        refine tkH 60 (some 122) ?_
        (try simp only [Act.put, sA, sB, sC])
        refine tkH 61 (some 123) ?_
        (try simp only [Act.put, sA, sB, sC])
        refine tkH 62 (some 124) ?_
        (try simp only [Act.put, sA, sB, sC])
        refine tkH 63 (some 125) ?_
        (try simp only [Act.put, sA, sB, sC])
        as_aux_lemma =>
         refine tkH 64 (some 126) ?_
         (try simp only [Act.put, sA, sB, sC])
         refine tkH 65 (some 127) ?_
         (try simp only [Act.put, sA, sB, sC])
         refine tkH 66 (some 128) ?_
         (try simp only [Act.put, sA, sB, sC])
         refine tkH 67 (some 129) ?_
         (try simp only [Act.put, sA, sB, sC])
         refine tkH 68 (some 130) ?_
         (try simp only [Act.put, sA, sB, sC])
         refine tkH 69 (some 131) ?_
         (try simp only [Act.put, sA, sB, sC])
         refine tkH 70 (some 132) ?_
         (try simp only [Act.put, sA, sB, sC])
         refine wpAnyH_one (i := 71) rfl (by kernel_rfl) (by rfl) (fun K hK => ?_)
         go_simp
         generalize hWA : World.alloc v5 _ = v6
         have hal : (World.alloc v5 (.cells #[.int .i64 0] 3)).heap[v5.heap.size]? = _ := (alloc1 v5 (.cells #[.int .i64 0] 3)).1
         rw [hWA] at hal
         have HA71 : Hid (v6.heap[v5.heap.size]? = some (.cells #[.int .i64 0] 3 (0, 0))) := hid hal
         have hb6 : Ev v5 v6 := by rw [← hWA]; exact Ev.alloc (Ev.refl _) _
         have hE6 : Ev w17 v6 := Ev.trans hE5 hb6
         clear hWA hal
         refine hK.out _ _ (HSE.out _ hE6) (fun hHeld => ?_)
         clear hK K
         (try simp only [Act.put, List.setIfInBounds_toArray, List.set_cons_zero, List.set_cons_succ])
         as_aux_lemma =>
          refine wpAnyH_one (i := 72) rfl (by kernel_rfl) (by rfl) (fun K hK => ?_)
          go_simp
          refine (intsL_c [0] 1 _ rfl (by omega) HL.out hE6 HA71.out).mono ?_
          rintro e v7 ⟨rfl, hb⟩
          have hE7 : Ev w17 v7 := Ev.trans hE6 hb
          refine hK.out _ _ (HSE.out _ hE7) (fun hHeld => ?_)
          clear hK K
          (try simp only [Act.put, List.setIfInBounds_toArray, List.set_cons_zero, List.set_cons_succ])
          refine tkH 73 (some 135) ?_
          (try simp only [Act.put, sA, sB, sC])
          refine tkH 74 (some 0) ?_
          (try simp only [Act.put, sA, sB, sC])
          refine wpAnyH_done (by kernel_rfl) ?_ _
          go_wp2
          go_ret
          exact ⟨rfl, HE0.out.trans hE7⟩

end Go.Proofs.Ytgimcephbeajlaa
