import Derived.Test.YtffbkbcjddigdaaA47
set_option linter.unusedSimpArgs false
set_option linter.unusedVariables false
namespace Go.Proofs.Ytffbkbcjddigdaa
open Go.RowKit Go.Shelf

instance : DecidableEq M.Bd := fun a b =>
 if h : a.wt = b.wt ∧ a.st = b.st ∧ a.wo = b.wo then isTrue (by cases a; cases b; simp at h; simp [h]) else isFalse (fun e => h (by subst e; exact ⟨rfl, rfl, rfl⟩))
theorem aw1 : M.check (M.oneF 0) = 0 ∧ M.listed (M.oneF 0) M.dryT = true ∧ M.isPlan (M.oneF 0) [1, 3] = true ∧ M.play (M.oneF 0) M.dryT [1, 3] = [⟨18, 20, 360⟩, ⟨5, 15, 75⟩] := by decide +kernel
theorem aw2 : M.begin (M.oneF 0) (M.isPlan (M.oneF 0) [2, 4]) = 0 ∧ M.bounds (M.oneF 0) (M.truths (M.oneF 0)) [2, 4] = [⟨⟨24, 26⟩, 16, ⟨384, 416⟩⟩, ⟨⟨6, 7⟩, 15, ⟨90, 105⟩⟩] := by decide +kernel
theorem aw3 : M.begin (M.oneF 0) (M.isPlan (M.oneF 0) [1, 3]) = 0 ∧ M.worth (M.oneF 0) [1, 3] = ⟨255, 490⟩ := by decide +kernel
theorem aw4 : M.begin (M.oneF 0) true = 0 ∧ M.best (M.oneF 0) (M.truths (M.oneF 0)) = ([2, 4], 474) := by decide +kernel
theorem aw5 : M.begin (M.oneF 0) (M.hasWeek (M.oneF 0) 4) = 0 ∧ M.on (M.oneF 0) (M.truths (M.oneF 0)) 4 = ⟨30, 33⟩ := by decide +kernel
theorem aw7 : M.wrong (M.oneF 2) = (1, 0) := by decide +kernel
theorem aw8 : M.check (M.oneF 2) = 0 ∧ M.shortest (M.spares (M.oneF 2)) 2 = [0] := by decide +kernel
theorem oneF_lo (k : Nat) : -9223372036854775808 ≤ (M.oneF k).last := by unfold M.oneF; simp
theorem one0_c (W : World) : Calls Try.prog 28 #[.int .i64 0] W fun e w' => (∃ B1 B2 B3 B4, e = .returned (.agg #[.int .i64 4, .slice B1 5 5, .slice B2 5 5, .slice B3 2 2, .slice none 0 0, .int .i64 2, .int .i64 4, .int .i64 50, .slice B4 0 2]) ∧ CS w' w'.heap.size (M.oneF 0) B1 B2 B3 none B4 5 5 5 5 2 2 0 0 0 2) ∧ Ev W w' := one_c 0 (by omega) W
theorem one1_c (W : World) : Calls Try.prog 28 #[.int .i64 1] W fun e w' => (∃ B1 B2 B3 B4, e = .returned (.agg #[.int .i64 4, .slice B1 5 5, .slice B2 5 5, .slice B3 2 2, .slice none 0 0, .int .i64 2, .int .i64 4, .int .i64 50, .slice B4 1 2]) ∧ CS w' w'.heap.size (M.oneF 1) B1 B2 B3 none B4 5 5 5 5 2 2 0 0 1 2) ∧ Ev W w' := one_c 1 (by omega) W
theorem one2_c (W : World) : Calls Try.prog 28 #[.int .i64 2] W fun e w' => (∃ B1 B2 B3 B4, e = .returned (.agg #[.int .i64 4, .slice B1 5 5, .slice B2 5 5, .slice B3 2 2, .slice none 0 0, .int .i64 2, .int .i64 4, .int .i64 50, .slice B4 2 2]) ∧ CS w' w'.heap.size (M.oneF 2) B1 B2 B3 none B4 5 5 5 5 2 2 0 0 2 2) ∧ Ev W w' := one_c 2 (by omega) W
theorem awPlay {B1 B2 B3 B4 D1 D2 : Option Addr} {W0 W : World} (hs : CS W0 W0.heap.size (M.oneF 0) B1 B2 B3 none B4 5 5 5 5 2 2 0 0 0 2) (hE : Ev W0 W) (h1 : Sl ics 1 W W.heap.size D1 5 5 M.dryT.gr) (h2 : Sl ics 1 W W.heap.size D2 5 5 M.dryT.wet) : Calls Try.prog 15 #[.agg #[.int .i64 4, .slice B1 5 5, .slice B2 5 5, .slice B3 2 2, .slice none 0 0, .int .i64 2, .int .i64 4, .int .i64 50, .slice B4 0 2], .agg #[.slice D1 5 5, .slice D2 5 5], .slice (some ⟨W.heap.size, 0, none⟩) 2 2] (W.alloc (.cells #[.int .i64 1, .int .i64 3] 3)) fun e w' => (∃ B d, e = .returned (.tuple #[.slice B 2 d, .int .i64 0]) ∧ Sl crc 3 w' w'.heap.size B 2 d [⟨18, 20, 360⟩, ⟨5, 15, 75⟩]) ∧ Ev W w' := by
 have hA : Ev W (W.alloc (.cells #[.int .i64 1, .int .i64 3] 3)) := Ev.alloc (Ev.refl _) _
 refine (Play_ok (M.oneF 0) B1 B2 B3 none B4 5 5 5 5 2 2 0 0 0 2 D1 D2 5 5 5 5 M.dryT (some ⟨W.heap.size, 0, none⟩) 2 2 [1, 3] (oneF_lo 0) _ (hs.ev (hE.trans hA)) (h1.ev hA) (h2.ev hA) (sl_lit W 3 [1, 3] 2 #[.int .i64 1, .int .i64 3] rfl (by omega) (ics_len _) rfl) aw1.1 aw1.2.1 aw1.2.2.1).mono ?_
 rintro e w' ⟨⟨B, d, he, ho⟩, hb⟩
 rw [aw1.2.2.2] at ho
 exact ⟨⟨B, d, he, sl_own (enc := crc) (by decide) (fun _ _ => rfl) (by omega) ho⟩, hA.trans hb⟩
theorem awBounds {B1 B2 B3 B4 : Option Addr} {W0 W : World} (hs : CS W0 W0.heap.size (M.oneF 0) B1 B2 B3 none B4 5 5 5 5 2 2 0 0 0 2) (hE : Ev W0 W) : Calls Try.prog 34 #[.agg #[.int .i64 4, .slice B1 5 5, .slice B2 5 5, .slice B3 2 2, .slice none 0 0, .int .i64 2, .int .i64 4, .int .i64 50, .slice B4 0 2], .slice (some ⟨W.heap.size, 0, none⟩) 2 2] (W.alloc (.cells #[.int .i64 2, .int .i64 4] 3)) fun e w' => (∃ B d, e = .returned (.tuple #[.slice B 2 d, .int .i64 0]) ∧ Sl bdc 5 w' w'.heap.size B 2 d [⟨⟨24, 26⟩, 16, ⟨384, 416⟩⟩, ⟨⟨6, 7⟩, 15, ⟨90, 105⟩⟩]) ∧ Ev W w' := by
 have hA : Ev W (W.alloc (.cells #[.int .i64 2, .int .i64 4] 3)) := Ev.alloc (Ev.refl _) _
 refine (Bounds_ok (M.oneF 0) B1 B2 B3 none B4 5 5 5 5 2 2 0 0 0 2 (some ⟨W.heap.size, 0, none⟩) 2 2 [2, 4] (oneF_lo 0) _ (hs.ev (hE.trans hA)) (sl_lit W 3 [2, 4] 2 #[.int .i64 2, .int .i64 4] rfl (by omega) (ics_len _) rfl) aw2.1).mono ?_
 rintro e w' ⟨⟨B, d, he, ho⟩, hb⟩
 rw [aw2.2] at ho
 exact ⟨⟨B, d, he, ho⟩, hA.trans hb⟩
theorem awWorth {B1 B2 B3 B4 : Option Addr} {W0 W : World} (hs : CS W0 W0.heap.size (M.oneF 0) B1 B2 B3 none B4 5 5 5 5 2 2 0 0 0 2) (hE : Ev W0 W) : Calls Try.prog 29 #[.agg #[.int .i64 4, .slice B1 5 5, .slice B2 5 5, .slice B3 2 2, .slice none 0 0, .int .i64 2, .int .i64 4, .int .i64 50, .slice B4 0 2], .slice (some ⟨W.heap.size, 0, none⟩) 2 2] (W.alloc (.cells #[.int .i64 1, .int .i64 3] 3)) fun e w' => e = .returned (.tuple #[.agg #[.int .i64 255, .int .i64 490], .int .i64 0]) ∧ Ev W w' := by
 have hA : Ev W (W.alloc (.cells #[.int .i64 1, .int .i64 3] 3)) := Ev.alloc (Ev.refl _) _
 refine (Worth_ok (M.oneF 0) B1 B2 B3 none B4 5 5 5 5 2 2 0 0 0 2 (some ⟨W.heap.size, 0, none⟩) 2 2 [1, 3] (oneF_lo 0) _ (hs.ev (hE.trans hA)) (sl_lit W 3 [1, 3] 2 #[.int .i64 1, .int .i64 3] rfl (by omega) (ics_len _) rfl) aw3.1).mono ?_
 rintro e w' ⟨he, hb⟩
 rw [aw3.2] at he
 exact ⟨he, hA.trans hb⟩
theorem awBest {B1 B2 B3 B4 : Option Addr} {W : World} (hs : CS W W.heap.size (M.oneF 0) B1 B2 B3 none B4 5 5 5 5 2 2 0 0 0 2) : Calls Try.prog 35 #[.agg #[.int .i64 4, .slice B1 5 5, .slice B2 5 5, .slice B3 2 2, .slice none 0 0, .int .i64 2, .int .i64 4, .int .i64 50, .slice B4 0 2]] W fun e w' => (∃ B d, e = .returned (.tuple #[.slice B 2 d, .int .i64 474, .int .i64 0]) ∧ Sl ics 1 w' w'.heap.size B 2 d [2, 4]) ∧ Ev W w' := by
 refine (Best_ok (M.oneF 0) B1 B2 B3 none B4 5 5 5 5 2 2 0 0 0 2 (oneF_lo 0) _ hs aw4.1).mono ?_
 rintro e w' ⟨⟨B, d, he, ho⟩, hb⟩
 rw [aw4.2] at he ho
 exact ⟨⟨B, d, he, ho⟩, hb⟩
theorem awStanding {B1 B2 B3 B4 : Option Addr} {W : World} (hs : CS W W.heap.size (M.oneF 0) B1 B2 B3 none B4 5 5 5 5 2 2 0 0 0 2) : Calls Try.prog 30 #[.agg #[.int .i64 4, .slice B1 5 5, .slice B2 5 5, .slice B3 2 2, .slice none 0 0, .int .i64 2, .int .i64 4, .int .i64 50, .slice B4 0 2], .int .i64 4] W fun e w' => e = .returned (.tuple #[.agg #[.int .i64 30, .int .i64 33], .int .i64 0]) ∧ Ev W w' := by
 refine (Standing_ok (M.oneF 0) B1 B2 B3 none B4 5 5 5 5 2 2 0 0 0 2 4 (oneF_lo 0) _ hs aw5.1).mono ?_
 rintro e w' ⟨he, hb⟩
 rw [show ((4 : Nat) : Int) = 4 from rfl, aw5.2] at he
 exact ⟨he, hb⟩
theorem awWorst {B1 B2 B3 B4 : Option Addr} {W0 W : World} (hs : CS W0 W0.heap.size (M.oneF 0) B1 B2 B3 none B4 5 5 5 5 2 2 0 0 0 2) (hE : Ev W0 W) : Calls Try.prog 51 #[.agg #[.int .i64 4, .slice B1 5 5, .slice B2 5 5, .slice B3 2 2, .slice none 0 0, .int .i64 2, .int .i64 4, .int .i64 50, .slice B4 0 2], .slice (some ⟨W.heap.size, 0, none⟩) 2 2] (W.alloc (.cells #[.int .i64 1, .int .i64 3] 3)) fun e w' => (∃ (t : M.Tr) (Tg Tw : Option Addr) (tg tgc tw twc : Nat), Hid (M.listed (M.oneF 0) t = true ∧ M.right (M.oneF 0) t = true) ∧ e = .returned (.tuple #[.agg #[.slice Tg tg tgc, .slice Tw tw twc], .int .i64 0]) ∧ Sl ics 1 w' w'.heap.size Tg tg tgc t.gr ∧ Sl ics 1 w' w'.heap.size Tw tw twc t.wet) ∧ Ev W w' := by
 have hA : Ev W (W.alloc (.cells #[.int .i64 1, .int .i64 3] 3)) := Ev.alloc (Ev.refl _) _
 refine (Worst_ok (M.oneF 0) B1 B2 B3 none B4 5 5 5 5 2 2 0 0 0 2 (some ⟨W.heap.size, 0, none⟩) 2 2 [1, 3] (oneF_lo 0) _ (hs.ev (hE.trans hA)) (sl_lit W 3 [1, 3] 2 #[.int .i64 1, .int .i64 3] rfl (by omega) (ics_len _) rfl) aw3.1).mono ?_
 rintro e w' ⟨⟨t, Tg, Tw, tg, tgc, tw, twc, hm, _, he, h1, h2⟩, hb⟩
 exact ⟨⟨t, Tg, Tw, tg, tgc, tw, twc, hid ⟨M.truths_listed aw1.1 t hm, (List.mem_filter.1 hm).2⟩, he, h1, h2⟩, hA.trans hb⟩
theorem awFirst {B1 B2 B3 B4 : Option Addr} {W : World} (hs : CS W W.heap.size (M.oneF 2) B1 B2 B3 none B4 5 5 5 5 2 2 0 0 2 2) : Calls Try.prog 36 #[.agg #[.int .i64 4, .slice B1 5 5, .slice B2 5 5, .slice B3 2 2, .slice none 0 0, .int .i64 2, .int .i64 4, .int .i64 50, .slice B4 2 2]] W fun e w' => e = .returned (.tuple #[.int .i64 1, .int .i64 0]) ∧ Ev W w' := by
 refine (First_c (M.oneF 2) B1 B2 B3 none B4 5 5 5 5 2 2 0 0 2 2 (oneF_lo 2) _ hs).mono ?_
 rintro e w' ⟨he, hb⟩
 rw [aw7] at he
 exact ⟨he, hb⟩
theorem awLeave {B1 B2 B3 B4 : Option Addr} {W : World} (hs : CS W W.heap.size (M.oneF 2) B1 B2 B3 none B4 5 5 5 5 2 2 0 0 2 2) : Calls Try.prog 31 #[.agg #[.int .i64 4, .slice B1 5 5, .slice B2 5 5, .slice B3 2 2, .slice none 0 0, .int .i64 2, .int .i64 4, .int .i64 50, .slice B4 2 2]] W fun e w' => (∃ B d, e = .returned (.tuple #[.slice B 1 d, .int .i64 0]) ∧ Sl ics 1 w' w'.heap.size B 1 d [0]) ∧ Ev W w' := by
 refine (Leave_ok (M.oneF 2) B1 B2 B3 none B4 5 5 5 5 2 2 0 0 2 2 (oneF_lo 2) _ hs aw8.1).mono ?_
 rintro e w' ⟨⟨B, d, he, ho⟩, hb⟩
 rw [aw8.2] at he ho
 exact ⟨⟨B, d, he, ho⟩, hb⟩
theorem awProve {B1 B2 B3 B4 : Option Addr} {t : M.Tr} {Tg Tw : Option Addr} {tg tgc tw twc : Nat} {W0 W : World} (ht : Hid (M.listed (M.oneF 0) t = true ∧ M.right (M.oneF 0) t = true)) (hs : CS W W.heap.size (M.oneF 0) B1 B2 B3 none B4 5 5 5 5 2 2 0 0 0 2) (h1 : Sl ics 1 W0 W0.heap.size Tg tg tgc t.gr) (h2 : Sl ics 1 W0 W0.heap.size Tw tw twc t.wet) (hE : Ev W0 W) : Calls Try.prog 19 #[.agg #[.int .i64 4, .slice B1 5 5, .slice B2 5 5, .slice B3 2 2, .slice none 0 0, .int .i64 2, .int .i64 4, .int .i64 50, .slice B4 0 2], .agg #[.slice Tg tg tgc, .slice Tw tw twc]] W fun e w' => e = .returned (.bool true) ∧ Ev W w' := by
 refine (ProveTruth_ok (M.oneF 0) B1 B2 B3 none B4 5 5 5 5 2 2 0 0 0 2 Tg Tw tg tgc tw twc t (oneF_lo 0) _ hs (h1.ev hE) (h2.ev hE) aw1.1 ht.out.1).mono ?_
 rintro e w' ⟨he, hb⟩
 rw [ht.out.2] at he
 exact ⟨he, hb⟩
theorem ints2_c (x y : Int) {B : Option Addr} {d : Nat} {W0 W : World} (hs : Sl ics 1 W0 W0.heap.size B 2 d [x, y]) (hE : Ev W0 W) :
  Calls Try.prog 52 #[.slice B 2 d, .slice (some ⟨W.heap.size, 0, none⟩) 2 2] (W.alloc (.cells #[.int .i64 x, .int .i64 y] 3)) fun e w' => e = .returned (.bool true) ∧ Ev W w' := by
 refine Calls.mono (ints_c B _ 2 d 2 2 [x, y] [x, y] _ (hs.ev (hE.alloc _)) (sl_lit W 3 [x, y] 2 _ rfl (by omega) (fun _ _ => rfl) rfl)) ?_
 rintro e w' ⟨rfl, h⟩
 exact ⟨by simp, Ev.trans (Ev.alloc (Ev.refl _) _) h⟩
theorem ints1_c (x : Int) {B : Option Addr} {d : Nat} {W0 W : World} (hs : Sl ics 1 W0 W0.heap.size B 1 d [x]) (hE : Ev W0 W) :
  Calls Try.prog 52 #[.slice B 1 d, .slice (some ⟨W.heap.size, 0, none⟩) 1 1] (W.alloc (.cells #[.int .i64 x] 3)) fun e w' => e = .returned (.bool true) ∧ Ev W w' := by
 refine Calls.mono (ints_c B _ 1 d 1 1 [x] [x] _ (hs.ev (hE.alloc _)) (sl_lit W 3 [x] 1 _ rfl (by omega) (fun _ _ => rfl) rfl)) ?_
 rintro e w' ⟨rfl, h⟩
 exact ⟨by simp, Ev.trans (Ev.alloc (Ev.refl _) _) h⟩

set_option maxRecDepth 100000 in
set_option maxHeartbeats 8000000 in
theorem awake_c (w : World) : Calls Try.prog 14 #[] w fun e w' => e = .returned (.bool true) ∧ Ev w w' := by
 go_enter Try.func14, Try.ntmps14
 go_upto_region 2 with (first | (go_at_call 28; with_reducible refine (one0_c _).mono ?_; rintro e w1 ⟨⟨B1, B2, B3, B4, rfl, hcs⟩, hb⟩; have HC := hid hcs; have HE1 := hid hb; clear hcs hb) | (go_at_call 27; with_reducible refine (dry_c _).mono ?_; rintro e w2 ⟨⟨D1, D2, rfl, hd1, hd2⟩, hb⟩; have HD1 := hid hd1; have HD2 := hid hd2; have HE2 := hid hb; clear hd1 hd2 hb) | (go_at_call 15; with_reducible refine (awPlay HC.out HE2.out (sl_own (enc := ics) (by decide) (ics_len _) (by omega) HD1.out) (sl_own (enc := ics) (by decide) (ics_len _) (by omega) HD2.out)).mono ?_; rintro e w3 ⟨⟨BP, dP, rfl, hp⟩, hb⟩; have HP := hid hp; have HE3 := hid (HE1.out.trans (HE2.out.trans hb)); clear hp hb HC HD1 HD2 HE1 HE2))
 go_upto_region 3 with (first | (go_at_call 28; with_reducible refine (one0_c _).mono ?_; rintro e w4 ⟨⟨B1, B2, B3, B4, rfl, hcs⟩, hb⟩; have HC := hid hcs; have HE4 := hid hb; clear hcs hb) | (go_at_call 34; with_reducible refine (awBounds HC.out (Ev.refl _)).mono ?_; rintro e w5 ⟨⟨BB, dB, rfl, hp⟩, hb⟩; have HB := hid hp; have HE5 := hid (HE4.out.trans hb); clear hp hb HC HE4))
 go_upto_region 4 with (first | (go_at_call 28; with_reducible refine (one0_c _).mono ?_; rintro e w6 ⟨⟨B1, B2, B3, B4, rfl, hcs⟩, hb⟩; have HC := hid hcs; have HE6 := hid hb; clear hcs hb) | (go_at_call 29; with_reducible refine (awWorth HC.out (Ev.refl _)).mono ?_; rintro e w7 ⟨rfl, hb⟩; have HE7 := hid (HE6.out.trans hb); clear hb HC HE6))
 generalize hWA : World.alloc w7 _ = WA
 have hEA : Ev w7 WA := by rw [← hWA]; exact Ev.alloc (Ev.refl _) _
 have QA := hid (show WA.heap[w7.heap.size]? = some (.cells #[.int .i64 255, .int .i64 490] 57 (0, 0)) from by rw [← hWA]; exact (alloc1 w7 _).1)
 have HEA := hid (HE7.out.trans hEA)
 clear hEA hWA HE7
 go_upto_region 5 with (first | (go_at_call 28; with_reducible refine (one0_c _).mono ?_; rintro e w8 ⟨⟨B1, B2, B3, B4, rfl, hcs⟩, hb⟩; have HC := hid hcs; have HE8 := hid hb; clear hcs hb) | (go_at_call 35; with_reducible refine (awBest HC.out).mono ?_; rintro e w9 ⟨⟨BT, dT, rfl, hp⟩, hb⟩; have HT := hid hp; have HE9 := hid (HE8.out.trans hb); clear hp hb HC HE8))
 go_upto_region 6 with (first | (go_at_call 28; with_reducible refine (one0_c _).mono ?_; rintro e w10 ⟨⟨B1, B2, B3, B4, rfl, hcs⟩, hb⟩; have HC := hid hcs; have HE10 := hid hb; clear hcs hb) | (go_at_call 30; with_reducible refine (awStanding HC.out).mono ?_; rintro e w11 ⟨rfl, hb⟩; have HE11 := hid (HE10.out.trans hb); clear hb HC HE10))
 generalize hWA : World.alloc w11 _ = WB
 have hEA : Ev w11 WB := by rw [← hWA]; exact Ev.alloc (Ev.refl _) _
 have QB := hid (show WB.heap[w11.heap.size]? = some (.cells #[.int .i64 30, .int .i64 33] 57 (0, 0)) from by rw [← hWA]; exact (alloc1 w11 _).1)
 have HEB := hid (HE11.out.trans hEA)
 clear hEA hWA HE11
 go_upto_region 7 with (first | (go_at_call 28; with_reducible refine (one0_c _).mono ?_; rintro e w12 ⟨⟨B1, B2, B3, B4, rfl, hcs⟩, hb⟩; have HC := hid hcs; have HE12 := hid hb; clear hcs hb) | (go_at_call 51; with_reducible refine (awWorst HC.out (Ev.refl _)).mono ?_; rintro e w13 ⟨⟨t, Tg, Tw, tg, tgc, tw, twc, ht, rfl, hg1, hg2⟩, hb⟩; have HG1 := hid hg1; have HG2 := hid hg2; have HE13 := hid (HE12.out.trans hb); clear hg1 hg2 hb HC HE12))
 generalize hWA : World.alloc w13 _ = WC
 have hEA : Ev w13 WC := by rw [← hWA]; exact Ev.alloc (Ev.refl _) _
 have QC := hid (show WC.heap[w13.heap.size]? = some (.cells #[.slice Tg tg tgc, .slice Tw tw twc] 40 (0, 0)) from by rw [← hWA]; exact (alloc1 w13 _).1)
 have HEC := hid hEA
 clear hEA hWA
 go_upto_region 8 with (first | (go_at_call 28; with_reducible refine (one2_c _).mono ?_; rintro e w14 ⟨⟨B1, B2, B3, B4, rfl, hcs⟩, hb⟩; have HC := hid hcs; have HE14 := hid hb; clear hcs hb) | (go_at_call 36; with_reducible refine (awFirst HC.out).mono ?_; rintro e w15 ⟨rfl, hb⟩; have HE15 := hid (HE14.out.trans hb); clear hb HC HE14))
 go_upto_region 9 with (first | (go_at_call 28; with_reducible refine (one2_c _).mono ?_; rintro e w16 ⟨⟨B1, B2, B3, B4, rfl, hcs⟩, hb⟩; have HC := hid hcs; have HE16 := hid hb; clear hcs hb) | (go_at_call 31; with_reducible refine (awLeave HC.out).mono ?_; rintro e w17 ⟨⟨BL, dL, rfl, hp⟩, hb⟩; have HL := hid hp; have HE17 := hid (HE16.out.trans hb); clear hp hb HC HE16))
 have e15 := HE15.out.trans HE17.out
 have eC := HEC.out.trans e15
 have eB := HE13.out.trans eC
 have eA := HE9.out.trans (HEB.out.trans eB)
 have e5 := HEA.out.trans eA
 have e3 := HE5.out.trans e5
 have e0 := HE3.out.trans e3
 obtain ⟨bP, oP, rfl, lP, cP⟩ := (HP.out.ev e3).cells (by omega)
 obtain ⟨bB, oB, rfl, lB, cB⟩ := (HB.out.ev e5).cells (by omega)
 have p0 := cP 0 _ rfl 0 _ rfl
 have p1 := cP 0 _ rfl 1 _ rfl
 have p2 := cP 0 _ rfl 2 _ rfl
 have p3 : w17.cell? ⟨bP, oP + 3, none⟩ = some (.int .i64 5) := cP 1 _ rfl 0 _ rfl
 have p4 : w17.cell? ⟨bP, oP + 4, none⟩ = some (.int .i64 15) := cP 1 _ rfl 1 _ rfl
 have p5 : w17.cell? ⟨bP, oP + 5, none⟩ = some (.int .i64 75) := cP 1 _ rfl 2 _ rfl
 have b0 := cB 0 _ rfl 0 _ rfl
 have b1 := cB 0 _ rfl 1 _ rfl
 have b2 := cB 0 _ rfl 2 _ rfl
 have b3 := cB 0 _ rfl 3 _ rfl
 have b4 := cB 0 _ rfl 4 _ rfl
 simp only [Nat.zero_mul, Nat.one_mul, Nat.add_zero] at p0 p1 p2 b0 b1 b2 b3 b4
 have qa := eA.heap QA.out
 have qb := eB.heap QB.out
 have qc := e15.heap QC.out
 obtain ⟨a0, a1⟩ := cells2 qa
 obtain ⟨s0, s1⟩ := cells2 qb
 obtain ⟨c0, c1⟩ := cells2 qc
 have la := heap_lt qa
 have lb := heap_lt qb
 have lc := heap_lt qc
 have HE0 := hid e0
 have HTT := hid (HT.out.ev (HEB.out.trans eB))
 have HG1' := hid (HG1.out.ev eC)
 have HG2' := hid (HG2.out.ev eC)
 clear cP cB qa qb qc e15 eC eB eA e5 e3 e0 HE15 HE17 HEC HE13 HE9 HEB HEA HE5 HE3 HP HB QA QB QC HT HG1 HG2
 have HSE : Hid (∀ w', Ev w17 w' → (∀ o, w'.cell? ⟨bP, o, none⟩ = w17.cell? ⟨bP, o, none⟩) ∧ (∀ o, w'.cell? ⟨bB, o, none⟩ = w17.cell? ⟨bB, o, none⟩) ∧ (∀ o, w'.cell? ⟨w7.heap.size, o, none⟩ = w17.cell? ⟨w7.heap.size, o, none⟩) ∧ (∀ o, w'.cell? ⟨w11.heap.size, o, none⟩ = w17.cell? ⟨w11.heap.size, o, none⟩) ∧ (∀ o, w'.cell? ⟨w13.heap.size, o, none⟩ = w17.cell? ⟨w13.heap.size, o, none⟩)) := hid (fun w' h => ⟨fun o => h.cells.1 _ o lP, fun o => h.cells.1 _ o lB, fun o => h.cells.1 _ o la, fun o => h.cells.1 _ o lb, fun o => h.cells.1 _ o lc⟩)
 refine wp_region_held_drew (S := fun w' => (∀ o, w'.cell? ⟨bP, o, none⟩ = w17.cell? ⟨bP, o, none⟩) ∧ (∀ o, w'.cell? ⟨bB, o, none⟩ = w17.cell? ⟨bB, o, none⟩) ∧ (∀ o, w'.cell? ⟨w7.heap.size, o, none⟩ = w17.cell? ⟨w7.heap.size, o, none⟩) ∧ (∀ o, w'.cell? ⟨w11.heap.size, o, none⟩ = w17.cell? ⟨w11.heap.size, o, none⟩) ∧ (∀ o, w'.cell? ⟨w13.heap.size, o, none⟩ = w17.cell? ⟨w13.heap.size, o, none⟩)) (by kernel_rfl) (⟨fun o => rfl, fun o => rfl, fun o => rfl, fun o => rfl, fun o => rfl⟩) (fun hHeld => ?_)
 refine tkH 0 (some 64) ?_
 (try simp only [Act.put, sA, sB, sC])
 refine tkH 1 (some 65) ?_
 (try simp only [Act.put, sA, sB, sC])
 refine tkH 2 (some 66) ?_
 (try simp only [Act.put, sA, sB, sC])
 refine tkH 3 (some 67) ?_
 (try simp only [Act.put, sA, sB, sC])
 refine tkH 4 (some 68) ?_
 (try simp only [Act.put, sA, sB, sC])
 refine tkH 5 (some 69) ?_
 (try simp only [Act.put, sA, sB, sC])
 refine tkH 6 (some 70) ?_
 (try simp only [Act.put, sA, sB, sC])
 refine tkH 7 (some 71) ?_
 (try simp only [Act.put, sA, sB, sC])
 as_aux_lemma =>
  refine tkH 8 (some 72) ?_
  (try simp only [Act.put, sA, sB, sC])
  refine tkH 9 (some 73) ?_
  (try simp only [Act.put, sA, sB, sC])
  refine tkH 10 (some 74) ?_
  (try simp only [Act.put, sA, sB, sC])
  refine tkH 11 (some 75) ?_
  (try simp only [Act.put, sA, sB, sC])
  refine tkH 12 (some 76) ?_
  (try simp only [Act.put, sA, sB, sC])
  refine tkH 13 (some 77) ?_
  (try simp only [Act.put, sA, sB, sC])
  refine tkH 14 (some 78) ?_
  (try simp only [Act.put, sA, sB, sC])
  refine tkH 15 (some 79) ?_
  (try simp only [Act.put, sA, sB, sC])
  as_aux_lemma =>
   refine tkH 16 (some 80) ?_
   (try simp only [Act.put, sA, sB, sC])
   refine tkH 17 (some 81) ?_
   (try simp only [Act.put, sA, sB, sC])
   refine tkH 18 (some 82) ?_
   (try simp only [Act.put, sA, sB, sC])
   refine tkH 19 (some 83) ?_
   (try simp only [Act.put, sA, sB, sC])
   refine tkH 20 (some 84) ?_
   (try simp only [Act.put, sA, sB, sC])
   refine tkH 21 (some 85) ?_
   (try simp only [Act.put, sA, sB, sC])
   refine tkH 22 (some 86) ?_
   (try simp only [Act.put, sA, sB, sC])
   refine tkH 23 (some 87) ?_
   (try simp only [Act.put, sA, sB, sC])
   as_aux_lemma =>
    refine tkH 24 (some 88) ?_
    (try simp only [Act.put, sA, sB, sC])
    refine tkH 25 (some 89) ?_
    (try simp only [Act.put, sA, sB, sC])
    refine tkH 26 (some 90) ?_
    (try simp only [Act.put, sA, sB, sC])
    refine tkH 27 (some 91) ?_
    (try simp only [Act.put, sA, sB, sC])
    refine tkH 28 (some 92) ?_
    (try simp only [Act.put, sA, sB, sC])
    refine tkH 29 (some 93) ?_
    (try simp only [Act.put, sA, sB, sC])
    refine tkH 30 (some 94) ?_
    (try simp only [Act.put, sA, sB, sC])
    refine tkH 31 (some 95) ?_
    (try simp only [Act.put, sA, sB, sC])
    as_aux_lemma =>
     refine tkH 32 (some 96) ?_
     (try simp only [Act.put, sA, sB, sC])
     refine tkH 33 (some 97) ?_
     (try simp only [Act.put, sA, sB, sC])
     refine wpAnyH_one (i := 34) rfl (by kernel_rfl) (by rfl) (fun K hK => ?_)
     go_simp
     refine (between_c _ _ _).mono ?_
     rintro e x1 ⟨rfl, hb⟩
     have h1 : Ev w17 x1 := Ev.trans (Ev.drew (Ev.refl _)) hb
     refine hK.out _ _ (HSE.out _ h1) (fun hHeld => ?_)
     clear hK K
     (try simp only [Act.put, List.setIfInBounds_toArray, List.set_cons_zero, List.set_cons_succ])
     refine wpAnyH_one (i := 35) rfl (by kernel_rfl) (by rfl) (fun K hK => ?_)
     go_simp
     refine (between_c _ _ _).mono ?_
     rintro e x2 ⟨rfl, hb⟩
     have h2 : Ev w17 x2 := Ev.trans h1 hb
     refine hK.out _ _ (HSE.out _ h2) (fun hHeld => ?_)
     clear hK K
     (try simp only [Act.put, List.setIfInBounds_toArray, List.set_cons_zero, List.set_cons_succ])
     refine tkH 36 (some 100) ?_
     (try simp only [Act.put, sA, sB, sC])
     refine tkH 37 (some 101) ?_
     (try simp only [Act.put, sA, sB, sC])
     refine tkH 38 (some 102) ?_
     (try simp only [Act.put, sA, sB, sC])
     refine tkH 39 (some 103) ?_
     (try simp only [Act.put, sA, sB, sC])
     as_aux_lemma =>
      refine tkH 40 (some 104) ?_
      (try simp only [Act.put, sA, sB, sC])
      refine tkH 41 (some 105) ?_
      (try simp only [Act.put, sA, sB, sC])
      refine tkH 42 (some 106) ?_
      (try simp only [Act.put, sA, sB, sC])
      refine tkH 43 (some 107) ?_
      (try simp only [Act.put, sA, sB, sC])
      refine tkH 44 (some 108) ?_
      (try simp only [Act.put, sA, sB, sC])
      refine wpAnyH_one (i := 45) rfl (by kernel_rfl) (by rfl) (fun K hK => ?_)
      go_simp
      refine (between_c _ _ _).mono ?_
      rintro e x3 ⟨rfl, hb⟩
      have h3 : Ev w17 x3 := Ev.trans h2 hb
      refine hK.out _ _ (HSE.out _ h3) (fun hHeld => ?_)
      clear hK K
      (try simp only [Act.put, List.setIfInBounds_toArray, List.set_cons_zero, List.set_cons_succ])
      refine tkH 46 (some 110) ?_
      (try simp only [Act.put, sA, sB, sC])
      refine tkH 47 (some 111) ?_
      (try simp only [Act.put, sA, sB, sC])
      as_aux_lemma =>
       refine tkH 48 (some 112) ?_
       (try simp only [Act.put, sA, sB, sC])
       refine tkH 49 (some 113) ?_
       (try simp only [Act.put, sA, sB, sC])
       refine tkH 50 (some 114) ?_
       (try simp only [Act.put, sA, sB, sC])
       refine tkH 51 (some 115) ?_
       (try simp only [Act.put, sA, sB, sC])
       refine tkH 52 (some 116) ?_
       (try simp only [Act.put, sA, sB, sC])
       refine tkH 53 (some 117) ?_
       (try simp only [Act.put, sA, sB, sC])
       refine wpAnyH_one (i := 54) rfl (by kernel_rfl) (by rfl) (fun K hK => ?_)
       go_simp
       refine hK.out _ _ (HSE.out _ (Ev.alloc h3 _)) (fun hHeld => ?_)
       clear hK K
       (try simp only [Act.put, List.setIfInBounds_toArray, List.set_cons_zero, List.set_cons_succ])
       refine wpAnyH_one (i := 55) rfl (by kernel_rfl) (by rfl) (fun K hK => ?_)
       go_simp
       refine (ints2_c 2 4 HTT.out h3).mono ?_
       rintro e x4 ⟨rfl, hb⟩
       have h4 : Ev w17 x4 := Ev.trans h3 hb
       refine hK.out _ _ (HSE.out _ h4) (fun hHeld => ?_)
       clear hK K
       (try simp only [Act.put, List.setIfInBounds_toArray, List.set_cons_zero, List.set_cons_succ])
       as_aux_lemma =>
        refine tkH 56 (some 120) ?_
        (try simp only [Act.put, sA, sB, sC])
        refine tkH 57 (some 121) ?_
        (try simp only [Act.put, sA, sB, sC])
        refine tkH 58 (some 122) ?_
        (try simp only [Act.put, sA, sB, sC])
        refine tkH 59 (some 123) ?_
        (try simp only [Act.put, sA, sB, sC])
        refine tkH 60 (some 124) ?_
        (try simp only [Act.put, sA, sB, sC])
        refine tkH 61 (some 125) ?_
        (try simp only [Act.put, sA, sB, sC])
        refine tkH 62 (some 126) ?_
        (try simp only [Act.put, sA, sB, sC])
        refine tkH 63 (some 127) ?_
        (try simp only [Act.put, sA, sB, sC])
        as_aux_lemma =>
         refine tkH 64 (some 128) ?_
         (try simp only [Act.put, sA, sB, sC])
         refine tkH 65 (some 129) ?_
         (try simp only [Act.put, sA, sB, sC])
         refine tkH 66 (some 130) ?_
         (try simp only [Act.put, sA, sB, sC])
         refine wpAnyH_one (i := 67) rfl (by kernel_rfl) (by rfl) (fun K hK => ?_)
         go_simp
         refine (between_c _ _ _).mono ?_
         rintro e x5 ⟨rfl, hb⟩
         have h5 : Ev w17 x5 := Ev.trans h4 hb
         refine hK.out _ _ (HSE.out _ h5) (fun hHeld => ?_)
         clear hK K
         (try simp only [Act.put, List.setIfInBounds_toArray, List.set_cons_zero, List.set_cons_succ])
         refine tkH 68 (some 132) ?_
         (try simp only [Act.put, sA, sB, sC])
         refine tkH 69 (some 133) ?_
         (try simp only [Act.put, sA, sB, sC])
         refine tkH 70 (some 134) ?_
         (try simp only [Act.put, sA, sB, sC])
         refine tkH 71 (some 135) ?_
         (try simp only [Act.put, sA, sB, sC])
         as_aux_lemma =>
          refine tkH 72 (some 136) ?_
          (try simp only [Act.put, sA, sB, sC])
          refine tkH 73 (some 137) ?_
          (try simp only [Act.put, sA, sB, sC])
          refine tkH 74 (some 138) ?_
          (try simp only [Act.put, sA, sB, sC])
          refine tkH 76 (some 140) ?_
          (try simp only [Act.put, sA, sB, sC])
          refine wpAnyH_one (i := 75) rfl (by kernel_rfl) (by rfl) (fun K hK => ?_)
          go_simp
          refine (one0_c _).mono ?_
          rintro e x6 ⟨⟨E1, E2, E3, E4, rfl, hcs⟩, hb⟩
          have h6 : Ev w17 x6 := Ev.trans h5 hb
          refine hK.out _ _ (HSE.out _ h6) (fun hHeld => ?_)
          clear hK K
          (try simp only [Act.put, List.setIfInBounds_toArray, List.set_cons_zero, List.set_cons_succ])
          refine wpAnyH_one (i := 77) rfl (by kernel_rfl) (by rfl) (fun K hK => ?_)
          go_simp
          refine (awProve ht hcs HG1'.out HG2'.out h6).mono ?_
          rintro e x7 ⟨rfl, hb⟩
          have h7 : Ev w17 x7 := Ev.trans h6 hb
          refine hK.out _ _ (HSE.out _ h7) (fun hHeld => ?_)
          clear hK K
          (try simp only [Act.put, List.setIfInBounds_toArray, List.set_cons_zero, List.set_cons_succ])
          refine tkH 78 (some 142) ?_
          (try simp only [Act.put, sA, sB, sC])
          refine tkH 79 (some 143) ?_
          (try simp only [Act.put, sA, sB, sC])
          as_aux_lemma =>
           refine tkH 80 (some 144) ?_
           (try simp only [Act.put, sA, sB, sC])
           refine tkH 81 (some 145) ?_
           (try simp only [Act.put, sA, sB, sC])
           refine tkH 82 (some 146) ?_
           (try simp only [Act.put, sA, sB, sC])
           refine tkH 83 (some 147) ?_
           (try simp only [Act.put, sA, sB, sC])
           refine tkH 84 (some 148) ?_
           (try simp only [Act.put, sA, sB, sC])
           refine tkH 85 (some 149) ?_
           (try simp only [Act.put, sA, sB, sC])
           refine tkH 86 (some 150) ?_
           (try simp only [Act.put, sA, sB, sC])
           refine tkH 87 (some 151) ?_
           (try simp only [Act.put, sA, sB, sC])
           as_aux_lemma =>
            refine tkH 88 (some 152) ?_
            (try simp only [Act.put, sA, sB, sC])
            refine tkH 89 (some 153) ?_
            (try simp only [Act.put, sA, sB, sC])
            refine tkH 90 (some 154) ?_
            (try simp only [Act.put, sA, sB, sC])
            refine tkH 91 (some 155) ?_
            (try simp only [Act.put, sA, sB, sC])
            refine tkH 92 (some 156) ?_
            (try simp only [Act.put, sA, sB, sC])
            refine wpAnyH_one (i := 93) rfl (by kernel_rfl) (by rfl) (fun K hK => ?_)
            go_simp
            refine hK.out _ _ (HSE.out _ (Ev.alloc h7 _)) (fun hHeld => ?_)
            clear hK K
            (try simp only [Act.put, List.setIfInBounds_toArray, List.set_cons_zero, List.set_cons_succ])
            refine wpAnyH_one (i := 94) rfl (by kernel_rfl) (by rfl) (fun K hK => ?_)
            go_simp
            refine (ints1_c 0 HL.out h7).mono ?_
            rintro e x8 ⟨rfl, hb⟩
            have h8 : Ev w17 x8 := Ev.trans h7 hb
            refine hK.out _ _ (HSE.out _ h8) (fun hHeld => ?_)
            clear hK K
            (try simp only [Act.put, List.setIfInBounds_toArray, List.set_cons_zero, List.set_cons_succ])
            refine tkH 95 (some 159) ?_
            (try simp only [Act.put, sA, sB, sC])
            as_aux_lemma =>
             refine tkH 96 (some 0) ?_
             (try simp only [Act.put, sA, sB, sC])
             refine wpAnyH_done (by kernel_rfl) ?_ _
             go_wp2
             go_ret
             exact ⟨rfl, HE0.out.trans h8⟩

end Go.Proofs.Ytffbkbcjddigdaa
