import Derived.Test.YtgimcephbeajlaaC23
import Derived.Test.YtgimcephbeajlaaC17
import Derived.Test.YtgimcephbeajlaaC18
import Derived.Test.YtgimcephbeajlaaC19
import Derived.Test.YtgimcephbeajlaaC20
import Derived.Test.YtgimcephbeajlaaC21
import Derived.Test.YtgimcephbeajlaaC22
import Derived.Deep.DeepCutAuto
set_option linter.unusedSimpArgs false
set_option linter.unusedVariables false
namespace Go.Proofs.Ytgimcephbeajlaa
open Go.RowKit Go.Shelf

def M.coldF : M.Cf := ⟨4, 10, 50, 60, 60, ⟨30, 32⟩, M.oneG, [], []⟩
theorem nm1 : M.check (M.oneF 0) = 0 ∧ M.listed (M.oneF 0) M.firstT = true ∧ M.isTurns (M.oneF 0) [] = true ∧ (M.heats (M.oneF 0) M.firstT []).take 5 = [40, 50, 62, 70, 80] := by decide +kernel
theorem nm2 : M.begin (M.oneF 0) (M.isTurns (M.oneF 0) []) = 0 ∧ M.keepsOf (M.oneF 0) (M.truths (M.oneF 0)) [] = 2 := by decide +kernel
theorem nm3 : M.begin (M.oneF 0) (M.isTurns (M.oneF 0) [2]) = 0 ∧ M.keepsOf (M.oneF 0) (M.truths (M.oneF 0)) [2] = 1 := by decide +kernel
theorem nm4 : M.fear (M.oneF 0) (M.truths (M.oneF 0)) [] = some 2 ∧ M.burnsAt (M.oneF 0) (M.truths (M.oneF 0)) [] 2 = true ∧ M.diesAt (M.oneF 0) (M.truths (M.oneF 0)) [] 2 = false := by decide +kernel
theorem nm5 : M.fear (M.oneF 0) (M.truths (M.oneF 0)) [2] = none := by decide +kernel
theorem nm6 : M.check (M.oneF 1) = 0 ∧ M.shortest (M.spares (M.oneF 1)) 1 = [] := by decide +kernel
theorem nm7 : M.right (M.oneF 0) M.firstT = true ∧ M.listed (M.oneF 1) M.firstT = true ∧ M.right (M.oneF 1) M.firstT = false := by decide +kernel
theorem nm8 : M.begin (M.oneF 1) (M.isTurns (M.oneF 1) [2]) = 0 ∧ ((M.truths (M.oneF 1)).all fun t => M.stays (M.oneF 1) t [2]) = true ∧ M.begin (M.oneF 0) (M.isTurns (M.oneF 0) [1]) = 0 ∧ ((M.truths (M.oneF 0)).all fun t => M.stays (M.oneF 0) t [1]) = false := by decide +kernel
theorem nm9 : M.listed (M.oneF 0) ⟨33, M.firstT.wet⟩ = false ∧ M.listed (M.oneF 0) ⟨30, M.firstT.wet.take 4⟩ = false ∧ M.isTurns (M.oneF 0) [5] = false := by decide +kernel
theorem nm10 : M.begin (M.oneF 2) (M.isTurns (M.oneF 2) [2, 1]) = 2 ∧ M.begin (M.oneF 2) (M.isTurns (M.oneF 2) []) = 11 ∧ M.wrong (M.oneF 1) = (0, 7) := by decide +kernel
theorem nm11 : M.begin M.coldF true = 0 ∧ ((M.truths M.coldF).all fun t => M.stays M.coldF t (M.few M.coldF (M.truths M.coldF))) = false := by decide +kernel
theorem nmPlay {B1 B3 : Option Addr} {D1 : Option Addr} {W0 W : World} (hs : CS W0 W0.heap.size (M.oneF 0) B1 none B3 5 5 0 0 0 2) (hE : Ev W0 W) (h1 : Sl ics 1 W W.heap.size D1 5 5 M.firstT.wet) : Calls Try.prog 20 #[.agg #[.int .i64 4, .int .i64 10, .int .i64 50, .int .i64 20, .int .i64 60, .int .i64 30, .int .i64 32, .slice B1 5 5, .slice none 0 0, .slice B3 0 2], .agg #[.int .i64 30, .slice D1 5 5], .slice none 0 0] W fun e w' => (∃ B d, e = .returned (.tuple #[.slice B 5 d, .int .i64 0]) ∧ Sl ics 1 w' w'.heap.size B 5 d [40, 50, 62, 70, 80]) ∧ Ev W w' := by
 refine (Play_ok (M.oneF 0) B1 none B3 5 5 0 0 0 2 D1 5 5 M.firstT none 0 0 [] (oneF_lo 0) _ (hs.ev hE) h1 Sl.nil nm1.1 nm1.2.1 nm1.2.2.1).mono ?_
 rintro e w' ⟨⟨B, d, he, ho⟩, hb⟩
 rw [nm1.2.2.2] at ho
 exact ⟨⟨B, d, he, ho⟩, hb⟩
theorem nmKeepsN {B1 B3 : Option Addr} {W : World} (hs : CS W W.heap.size (M.oneF 0) B1 none B3 5 5 0 0 0 2) : Calls Try.prog 32 #[.agg #[.int .i64 4, .int .i64 10, .int .i64 50, .int .i64 20, .int .i64 60, .int .i64 30, .int .i64 32, .slice B1 5 5, .slice none 0 0, .slice B3 0 2], .slice none 0 0] W fun e w' => e = .returned (.tuple #[.int .i64 2, .int .i64 0]) ∧ Ev W w' := by
 refine (Keeps_ok (M.oneF 0) B1 none B3 5 5 0 0 0 2 none 0 0 [] (oneF_lo 0) _ hs Sl.nil nm2.1).mono ?_
 rintro e w' ⟨he, hb⟩
 rw [nm2.2] at he
 exact ⟨he, hb⟩
theorem nmKeepsA {B1 B3 : Option Addr} {W0 W : World} (hs : CS W0 W0.heap.size (M.oneF 0) B1 none B3 5 5 0 0 0 2) (hE : Ev W0 W) : Calls Try.prog 32 #[.agg #[.int .i64 4, .int .i64 10, .int .i64 50, .int .i64 20, .int .i64 60, .int .i64 30, .int .i64 32, .slice B1 5 5, .slice none 0 0, .slice B3 0 2], .slice (some ⟨W.heap.size, 0, none⟩) 1 1] (W.alloc (.cells #[.int .i64 2] 3)) fun e w' => e = .returned (.tuple #[.int .i64 1, .int .i64 0]) ∧ Ev W w' := by
 have hA : Ev W (W.alloc (.cells #[.int .i64 2] 3)) := Ev.alloc (Ev.refl _) _
 refine (Keeps_ok (M.oneF 0) B1 none B3 5 5 0 0 0 2 (some ⟨W.heap.size, 0, none⟩) 1 1 [2] (oneF_lo 0) _ (hs.ev (hE.trans hA)) (sl_lit W 3 [2] 1 #[.int .i64 2] rfl (by omega) (ics_len _) rfl) nm3.1).mono ?_
 rintro e w' ⟨he, hb⟩
 rw [nm3.2] at he
 exact ⟨he, hA.trans hb⟩
theorem nmFearN {B1 B3 : Option Addr} {W : World} (hs : CS W W.heap.size (M.oneF 0) B1 none B3 5 5 0 0 0 2) : Calls Try.prog 38 #[.agg #[.int .i64 4, .int .i64 10, .int .i64 50, .int .i64 20, .int .i64 60, .int .i64 30, .int .i64 32, .slice B1 5 5, .slice none 0 0, .slice B3 0 2], .slice none 0 0] W fun e w' => e = .returned (.tuple #[.agg #[.int .i64 2, .bool true, .bool false], .int .i64 0]) ∧ Ev W w' := by
 refine (Fear_ok (M.oneF 0) B1 none B3 5 5 0 0 0 2 none 0 0 [] (oneF_lo 0) _ hs Sl.nil nm2.1 2 nm4.1).mono ?_
 rintro e w' ⟨he, hb⟩
 rw [nm4.2.1, nm4.2.2] at he
 exact ⟨he, hb⟩
theorem nmFearA {B1 B3 : Option Addr} {W0 W : World} (hs : CS W0 W0.heap.size (M.oneF 0) B1 none B3 5 5 0 0 0 2) (hE : Ev W0 W) : Calls Try.prog 38 #[.agg #[.int .i64 4, .int .i64 10, .int .i64 50, .int .i64 20, .int .i64 60, .int .i64 30, .int .i64 32, .slice B1 5 5, .slice none 0 0, .slice B3 0 2], .slice (some ⟨W.heap.size, 0, none⟩) 1 1] (W.alloc (.cells #[.int .i64 2] 3)) fun e w' => e = .returned (.tuple #[.agg #[.int .i64 0, .bool false, .bool false], .int .i64 7]) ∧ Ev W w' := by
 have hA : Ev W (W.alloc (.cells #[.int .i64 2] 3)) := Ev.alloc (Ev.refl _) _
 refine (Fear_none (M.oneF 0) B1 none B3 5 5 0 0 0 2 (some ⟨W.heap.size, 0, none⟩) 1 1 [2] (oneF_lo 0) _ (hs.ev (hE.trans hA)) (sl_lit W 3 [2] 1 #[.int .i64 2] rfl (by omega) (ics_len _) rfl) nm3.1 nm5).mono ?_
 rintro e w' ⟨he, hb⟩
 exact ⟨he, hA.trans hb⟩
theorem nmLeave {B1 B3 : Option Addr} {W : World} (hs : CS W W.heap.size (M.oneF 1) B1 none B3 5 5 0 0 1 2) : Calls Try.prog 41 #[.agg #[.int .i64 4, .int .i64 10, .int .i64 50, .int .i64 20, .int .i64 60, .int .i64 30, .int .i64 32, .slice B1 5 5, .slice none 0 0, .slice B3 1 2]] W fun e w' => (∃ B d, e = .returned (.tuple #[.slice B 0 d, .int .i64 0])) ∧ Ev W w' := by
 refine (Leave_ok (M.oneF 1) B1 none B3 5 5 0 0 1 2 (oneF_lo 1) _ hs nm6.1).mono ?_
 rintro e w' ⟨⟨B, d, he, ho⟩, hb⟩
 rw [nm6.2] at he
 exact ⟨⟨B, d, he⟩, hb⟩
theorem nmInts {B : Option Addr} {d : Nat} {W0 W : World} (hs : Sl ics 1 W0 W0.heap.size B 5 d [40, 50, 62, 70, 80]) (hE : Ev W0 W) : Calls Try.prog 43 #[.slice B 5 d, .slice (some ⟨W.heap.size, 0, none⟩) 5 5] (W.alloc (.cells #[.int .i64 40, .int .i64 50, .int .i64 62, .int .i64 70, .int .i64 80] 3)) fun e w' => e = .returned (.bool true) ∧ Ev W w' := by
 have hA : Ev W (W.alloc (.cells #[.int .i64 40, .int .i64 50, .int .i64 62, .int .i64 70, .int .i64 80] 3)) := Ev.alloc (Ev.refl _) _
 refine (intsL_c [40, 50, 62, 70, 80] 5 _ rfl (by omega) hs (hE.trans hA) (alloc1 W (.cells #[.int .i64 40, .int .i64 50, .int .i64 62, .int .i64 70, .int .i64 80] 3)).1).mono ?_
 rintro e w' ⟨he, hb⟩
 exact ⟨he, hA.trans hb⟩
theorem nmPT0 {B1 B3 : Option Addr} {D1 : Option Addr} {W0 W : World} (hs : CS W0 W0.heap.size (M.oneF 0) B1 none B3 5 5 0 0 0 2) (hE : Ev W0 W) (h1 : Sl ics 1 W W.heap.size D1 5 5 M.firstT.wet) : Calls Try.prog 24 #[.agg #[.int .i64 4, .int .i64 10, .int .i64 50, .int .i64 20, .int .i64 60, .int .i64 30, .int .i64 32, .slice B1 5 5, .slice none 0 0, .slice B3 0 2], .agg #[.int .i64 30, .slice D1 5 5]] W fun e w' => e = .returned (.bool true) ∧ Ev W w' := by
 refine (ProveTruth_ok (M.oneF 0) B1 none B3 5 5 0 0 0 2 D1 5 5 M.firstT (oneF_lo 0) _ (hs.ev hE) h1 nm1.1 nm1.2.1).mono ?_
 rintro e w' ⟨he, hb⟩
 rw [nm7.1] at he
 exact ⟨he, hb⟩
theorem nmPT1 {B1 B3 : Option Addr} {D1 : Option Addr} {W0 W : World} (hs : CS W0 W0.heap.size (M.oneF 1) B1 none B3 5 5 0 0 1 2) (hE : Ev W0 W) (h1 : Sl ics 1 W W.heap.size D1 5 5 M.firstT.wet) : Calls Try.prog 24 #[.agg #[.int .i64 4, .int .i64 10, .int .i64 50, .int .i64 20, .int .i64 60, .int .i64 30, .int .i64 32, .slice B1 5 5, .slice none 0 0, .slice B3 1 2], .agg #[.int .i64 30, .slice D1 5 5]] W fun e w' => e = .returned (.bool false) ∧ Ev W w' := by
 refine (ProveTruth_ok (M.oneF 1) B1 none B3 5 5 0 0 1 2 D1 5 5 M.firstT (oneF_lo 1) _ (hs.ev hE) h1 nm6.1 nm7.2.1).mono ?_
 rintro e w' ⟨he, hb⟩
 rw [nm7.2.2] at he
 exact ⟨he, hb⟩
theorem nmPK1 {B1 B3 : Option Addr} {W0 W : World} (hs : CS W0 W0.heap.size (M.oneF 1) B1 none B3 5 5 0 0 1 2) (hE : Ev W0 W) : Calls Try.prog 33 #[.agg #[.int .i64 4, .int .i64 10, .int .i64 50, .int .i64 20, .int .i64 60, .int .i64 30, .int .i64 32, .slice B1 5 5, .slice none 0 0, .slice B3 1 2], .slice (some ⟨W.heap.size, 0, none⟩) 1 1] (W.alloc (.cells #[.int .i64 2] 3)) fun e w' => e = .returned (.bool true) ∧ Ev W w' := by
 have hA : Ev W (W.alloc (.cells #[.int .i64 2] 3)) := Ev.alloc (Ev.refl _) _
 refine (ProveKeeps_ok (M.oneF 1) B1 none B3 5 5 0 0 1 2 (some ⟨W.heap.size, 0, none⟩) 1 1 [2] (oneF_lo 1) _ (hs.ev (hE.trans hA)) (sl_lit W 3 [2] 1 #[.int .i64 2] rfl (by omega) (ics_len _) rfl) nm8.1).mono ?_
 rintro e w' ⟨he, hb⟩
 rw [nm8.2.1] at he
 exact ⟨he, hA.trans hb⟩
theorem nmPK0 {B1 B3 : Option Addr} {W0 W : World} (hs : CS W0 W0.heap.size (M.oneF 0) B1 none B3 5 5 0 0 0 2) (hE : Ev W0 W) : Calls Try.prog 33 #[.agg #[.int .i64 4, .int .i64 10, .int .i64 50, .int .i64 20, .int .i64 60, .int .i64 30, .int .i64 32, .slice B1 5 5, .slice none 0 0, .slice B3 0 2], .slice (some ⟨W.heap.size, 0, none⟩) 1 1] (W.alloc (.cells #[.int .i64 1] 3)) fun e w' => e = .returned (.bool false) ∧ Ev W w' := by
 have hA : Ev W (W.alloc (.cells #[.int .i64 1] 3)) := Ev.alloc (Ev.refl _) _
 refine (ProveKeeps_ok (M.oneF 0) B1 none B3 5 5 0 0 0 2 (some ⟨W.heap.size, 0, none⟩) 1 1 [1] (oneF_lo 0) _ (hs.ev (hE.trans hA)) (sl_lit W 3 [1] 1 #[.int .i64 1] rfl (by omega) (ics_len _) rfl) nm8.2.2.1).mono ?_
 rintro e w' ⟨he, hb⟩
 rw [nm8.2.2.2] at he
 exact ⟨he, hA.trans hb⟩
theorem nmPlayL {B1 B3 : Option Addr} {D1 : Option Addr} {W0 W : World} (hs : CS W0 W0.heap.size (M.oneF 0) B1 none B3 5 5 0 0 0 2) (hE : Ev W0 W) (h1 : Sl ics 1 W W.heap.size D1 5 5 M.firstT.wet) : Calls Try.prog 20 #[.agg #[.int .i64 4, .int .i64 10, .int .i64 50, .int .i64 20, .int .i64 60, .int .i64 30, .int .i64 32, .slice B1 5 5, .slice none 0 0, .slice B3 0 2], .agg #[.int .i64 33, .slice D1 5 5], .slice none 0 0] W fun e w' => e = .returned (.tuple #[.slice none 0 0, .int .i64 2]) ∧ Ev W w' := by
 refine (Play_badt (M.oneF 0) B1 none B3 5 5 0 0 0 2 D1 5 5 ⟨33, M.firstT.wet⟩ none 0 0 [] (oneF_lo 0) _ (hs.ev hE) h1 Sl.nil nm1.1 nm9.1).mono ?_
 rintro e w' ⟨he, hb⟩
 exact ⟨he, hb⟩
theorem nmPlayF {B1 B3 : Option Addr} {D1 : Option Addr} {W0 W : World} (hs : CS W0 W0.heap.size (M.oneF 0) B1 none B3 5 5 0 0 0 2) (hE : Ev W0 W) (h1 : Sl ics 1 W W.heap.size D1 4 5 (M.firstT.wet.take 4)) : Calls Try.prog 20 #[.agg #[.int .i64 4, .int .i64 10, .int .i64 50, .int .i64 20, .int .i64 60, .int .i64 30, .int .i64 32, .slice B1 5 5, .slice none 0 0, .slice B3 0 2], .agg #[.int .i64 30, .slice D1 4 5], .slice none 0 0] W fun e w' => e = .returned (.tuple #[.slice none 0 0, .int .i64 2]) ∧ Ev W w' := by
 refine (Play_badt (M.oneF 0) B1 none B3 5 5 0 0 0 2 D1 4 5 ⟨30, M.firstT.wet.take 4⟩ none 0 0 [] (oneF_lo 0) _ (hs.ev hE) h1 Sl.nil nm1.1 nm9.2.1).mono ?_
 rintro e w' ⟨he, hb⟩
 exact ⟨he, hb⟩
theorem nmPlay5 {B1 B3 : Option Addr} {D1 : Option Addr} {W0 W : World} (hs : CS W0 W0.heap.size (M.oneF 0) B1 none B3 5 5 0 0 0 2) (hE : Ev W0 W) (h1 : Sl ics 1 W W.heap.size D1 5 5 M.firstT.wet) : Calls Try.prog 20 #[.agg #[.int .i64 4, .int .i64 10, .int .i64 50, .int .i64 20, .int .i64 60, .int .i64 30, .int .i64 32, .slice B1 5 5, .slice none 0 0, .slice B3 0 2], .agg #[.int .i64 30, .slice D1 5 5], .slice (some ⟨W.heap.size, 0, none⟩) 1 1] (W.alloc (.cells #[.int .i64 5] 3)) fun e w' => e = .returned (.tuple #[.slice none 0 0, .int .i64 2]) ∧ Ev W w' := by
 have hA : Ev W (W.alloc (.cells #[.int .i64 5] 3)) := Ev.alloc (Ev.refl _) _
 refine (Play_badp (M.oneF 0) B1 none B3 5 5 0 0 0 2 D1 5 5 M.firstT (some ⟨W.heap.size, 0, none⟩) 1 1 [5] (oneF_lo 0) _ (hs.ev (hE.trans hA)) (h1.ev hA) (sl_lit W 3 [5] 1 #[.int .i64 5] rfl (by omega) (ics_len _) rfl) nm1.1 nm1.2.1 nm9.2.2).mono ?_
 rintro e w' ⟨he, hb⟩
 exact ⟨he, hA.trans hb⟩
theorem nmB21 {B1 B3 : Option Addr} {W0 W : World} (hs : CS W0 W0.heap.size (M.oneF 2) B1 none B3 5 5 0 0 2 2) (hE : Ev W0 W) : Calls Try.prog 31 #[.agg #[.int .i64 4, .int .i64 10, .int .i64 50, .int .i64 20, .int .i64 60, .int .i64 30, .int .i64 32, .slice B1 5 5, .slice none 0 0, .slice B3 2 2], .slice (some ⟨W.heap.size, 0, none⟩) 2 2] (W.alloc (.cells #[.int .i64 2, .int .i64 1] 3)) fun e w' => e = .returned (.tuple #[.slice none 0 0, .int .i64 2]) ∧ Ev W w' := by
 have hA : Ev W (W.alloc (.cells #[.int .i64 2, .int .i64 1] 3)) := Ev.alloc (Ev.refl _) _
 refine (Bounds_err (M.oneF 2) B1 none B3 5 5 0 0 2 2 (some ⟨W.heap.size, 0, none⟩) 2 2 [2, 1] (oneF_lo 2) _ (hs.ev (hE.trans hA)) (sl_lit W 3 [2, 1] 2 #[.int .i64 2, .int .i64 1] rfl (by omega) (ics_len _) rfl) (by rw [nm10.1]; decide)).mono ?_
 rintro e w' ⟨he, hb⟩
 rw [nm10.1] at he
 exact ⟨he, hA.trans hb⟩
theorem nmB2 {B1 B3 : Option Addr} {W : World} (hs : CS W W.heap.size (M.oneF 2) B1 none B3 5 5 0 0 2 2) : Calls Try.prog 31 #[.agg #[.int .i64 4, .int .i64 10, .int .i64 50, .int .i64 20, .int .i64 60, .int .i64 30, .int .i64 32, .slice B1 5 5, .slice none 0 0, .slice B3 2 2], .slice none 0 0] W fun e w' => e = .returned (.tuple #[.slice none 0 0, .int .i64 11]) ∧ Ev W w' := by
 refine (Bounds_err (M.oneF 2) B1 none B3 5 5 0 0 2 2 none 0 0 [] (oneF_lo 2) _ hs Sl.nil (by rw [nm10.2.1]; decide)).mono ?_
 rintro e w' ⟨he, hb⟩
 rw [nm10.2.1] at he
 exact ⟨he, hb⟩
theorem nmF2 {B1 B3 : Option Addr} {W : World} (hs : CS W W.heap.size (M.oneF 2) B1 none B3 5 5 0 0 2 2) : Calls Try.prog 38 #[.agg #[.int .i64 4, .int .i64 10, .int .i64 50, .int .i64 20, .int .i64 60, .int .i64 30, .int .i64 32, .slice B1 5 5, .slice none 0 0, .slice B3 2 2], .slice none 0 0] W fun e w' => e = .returned (.tuple #[.agg #[.int .i64 0, .bool false, .bool false], .int .i64 11]) ∧ Ev W w' := by
 refine (Fear_err (M.oneF 2) B1 none B3 5 5 0 0 2 2 none 0 0 [] (oneF_lo 2) _ hs Sl.nil (by rw [nm10.2.1]; decide)).mono ?_
 rintro e w' ⟨he, hb⟩
 rw [nm10.2.1] at he
 exact ⟨he, hb⟩
theorem nmFirst {B1 B3 : Option Addr} {W : World} (hs : CS W W.heap.size (M.oneF 1) B1 none B3 5 5 0 0 1 2) : Calls Try.prog 40 #[.agg #[.int .i64 4, .int .i64 10, .int .i64 50, .int .i64 20, .int .i64 60, .int .i64 30, .int .i64 32, .slice B1 5 5, .slice none 0 0, .slice B3 1 2]] W fun e w' => e = .returned (.tuple #[.int .i64 0, .int .i64 7]) ∧ Ev W w' := by
 refine (First_c (M.oneF 1) B1 none B3 5 5 0 0 1 2 (oneF_lo 1) _ hs).mono ?_
 rintro e w' ⟨he, hb⟩
 rw [nm10.2.2] at he
 exact ⟨he, hb⟩
theorem nmCold {B1 B3 : Option Addr} {W0 W : World} (hs : CS W0 W0.heap.size (M.oneF 0) B1 none B3 5 5 0 0 0 2) (hE : Ev W0 W) : Calls Try.prog 48 #[.agg #[.int .i64 4, .int .i64 10, .int .i64 50, .int .i64 60, .int .i64 60, .int .i64 30, .int .i64 32, .slice B1 5 5, .slice none 0 0, .slice B3 0 2]] W fun e w' => e = .returned (.tuple #[.slice none 0 0, .int .i64 10]) ∧ Ev W w' := by
 refine (Fewest_short M.coldF B1 none B3 5 5 0 0 0 2 (by decide) _ ⟨(hs.ev hE).w_, (hs.ev hE).t, (hs.ev hE).r⟩ nm11.1 nm11.2).mono ?_
 rintro e w' ⟨he, hb⟩
 exact ⟨he, hb⟩
set_option maxRecDepth 100000 in
set_option maxHeartbeats 4000000 in
theorem one_b (k : Nat) (hk : k ≤ 2) (w : World) :
  Calls Try.prog 46 #[.int .i64 k] w fun e w' => (∃ q r, w.heap.size ≤ q ∧ w.heap.size ≤ r ∧ q ≠ r ∧ e = .returned (.agg #[.int .i64 4, .int .i64 10, .int .i64 50, .int .i64 20, .int .i64 60, .int .i64 30, .int .i64 32, .slice (some ⟨q, 0, none⟩) 5 5, .slice none 0 0, .slice (some ⟨r, 0, none⟩) k 2]) ∧ w'.heap[q]? = some (.cells #[.int .i64 10, .int .i64 12, .int .i64 10, .int .i64 10, .int .i64 12, .int .i64 12, .int .i64 8, .int .i64 9, .int .i64 10, .int .i64 10] 36 (0, 0)) ∧ w'.heap[r]? = some (.cells #[.int .i64 1, .int .i64 53, .int .i64 1, .int .i64 3, .int .i64 70, .int .i64 1] 79 (0, 0))) ∧ Ev w w' := by
 have hki : (k : Int) ≤ 2 := by omega
 go_enter Try.func46, Try.ntmps46
 go_upto_region 2 with fail
 generalize hW0 : World.alloc (World.alloc w _) _ = W0
 have hE0 : Ev w W0 := by rw [← hW0]; exact Ev.alloc (Ev.alloc (Ev.refl _) _) _
 have hal := alloc2 w (.cells #[.int .i64 0, .int .i64 0, .int .i64 0, .int .i64 0, .int .i64 0, .int .i64 0, .int .i64 0, .slice none 0 0, .slice none 0 0, .slice none 0 0] 40) (.cells #[.int .i64 1, .int .i64 53, .int .i64 1, .int .i64 3, .int .i64 70, .int .i64 1] 79)
 rw [hW0] at hal
 have HQ0 := hid hal.1
 have HQ1 := hid hal.2.1
 have hz0 := hal.2.2
 clear hal hW0
 refine wp_region_held_drew (S := fun _ => True) (by kernel_rfl) (trivial) (fun hHeld => ?_)
 refine tkH 7 (some 14) ?_
 (try simp only [Act.put, sA, sB, sC])
 refine tkH 8 (some 15) ?_
 (try simp only [Act.put, sA, sB, sC])
 refine tkH 9 (some 16) ?_
 (try simp only [Act.put, sA, sB, sC])
 refine wpAnyH_one (i := 0) rfl (by kernel_rfl) (by rfl) (fun K hK => ?_)
 go_simp
 refine (between_c 30 32 _).mono ?_
 rintro e v1 ⟨rfl, hb1⟩
 have hE1 : Ev W0 v1 := Ev.trans (Ev.drew (Ev.refl _)) hb1
 refine hK.out _ _ (trivial) (fun hHeld => ?_)
 clear hK K
 (try simp only [Act.put, sA, sB, sC])
 refine wpAnyH_one (i := 1) rfl (by kernel_rfl) (by rfl) (fun K hK => ?_)
 go_simp
 refine (between_c 10 12 _).mono ?_
 rintro e v2 ⟨rfl, hb2⟩
 have hE2 : Ev W0 v2 := Ev.trans hE1 hb2
 refine hK.out _ _ (trivial) (fun hHeld => ?_)
 clear hK K
 (try simp only [Act.put, sA, sB, sC])
 refine wpAnyH_one (i := 2) rfl (by kernel_rfl) (by rfl) (fun K hK => ?_)
 go_simp
 refine (between_c 10 10 _).mono ?_
 rintro e v3 ⟨rfl, hb3⟩
 have hE3 : Ev W0 v3 := Ev.trans hE2 hb3
 refine hK.out _ _ (trivial) (fun hHeld => ?_)
 clear hK K
 (try simp only [Act.put, sA, sB, sC])
 refine wpAnyH_one (i := 3) rfl (by kernel_rfl) (by rfl) (fun K hK => ?_)
 go_simp
 refine (between_c 12 12 _).mono ?_
 rintro e v4 ⟨rfl, hb4⟩
 have hE4 : Ev W0 v4 := Ev.trans hE3 hb4
 refine hK.out _ _ (trivial) (fun hHeld => ?_)
 clear hK K
 (try simp only [Act.put, sA, sB, sC])
 refine wpAnyH_one (i := 4) rfl (by kernel_rfl) (by rfl) (fun K hK => ?_)
 go_simp
 refine (between_c 8 9 _).mono ?_
 rintro e v5 ⟨rfl, hb5⟩
 have hE5 : Ev W0 v5 := Ev.trans hE4 hb5
 refine hK.out _ _ (trivial) (fun hHeld => ?_)
 clear hK K
 (try simp only [Act.put, sA, sB, sC])
 refine wpAnyH_one (i := 5) rfl (by kernel_rfl) (by rfl) (fun K hK => ?_)
 go_simp
 refine (between_c 10 10 _).mono ?_
 rintro e v6 ⟨rfl, hb6⟩
 have hE6 : Ev W0 v6 := Ev.trans hE5 hb6
 refine hK.out _ _ (trivial) (fun hHeld => ?_)
 clear hK K
 (try simp only [Act.put, sA, sB, sC])
 refine wpAnyH_one (i := 6) rfl (by kernel_rfl) (by rfl) (fun K hK => ?_)
 go_simp
 generalize hWA : World.alloc v6 _ = v7
 have hal : (World.alloc v6 (.cells #[.int .i64 10, .int .i64 12, .int .i64 10, .int .i64 10, .int .i64 12, .int .i64 12, .int .i64 8, .int .i64 9, .int .i64 10, .int .i64 10] 36)).heap[v6.heap.size]? = _ := (alloc1 v6 (.cells #[.int .i64 10, .int .i64 12, .int .i64 10, .int .i64 10, .int .i64 12, .int .i64 12, .int .i64 8, .int .i64 9, .int .i64 10, .int .i64 10] 36)).1
 rw [hWA] at hal
 have HA : Hid (v7.heap[v6.heap.size]? = some (.cells #[.int .i64 10, .int .i64 12, .int .i64 10, .int .i64 10, .int .i64 12, .int .i64 12, .int .i64 8, .int .i64 9, .int .i64 10, .int .i64 10] 36 (0, 0))) := hid hal
 have hb7 : Ev v6 v7 := by rw [← hWA]; exact Ev.alloc (Ev.refl _) _
 have hE7 : Ev W0 v7 := Ev.trans hE6 hb7
 have hqw : W0.heap.size ≤ v6.heap.size := Ev.size hE6
 clear hWA hal
 refine hK.out _ _ (trivial) (fun hHeld => ?_)
 clear hK K
 (try simp only [Act.put, sA, sB, sC])
 refine tkH 10 (some 17) ?_
 (try simp only [Act.put, sA, sB, sC])
 refine wpAnyH_one (i := 11) rfl (by kernel_rfl) (by rfl) (fun K hK => ?_)
 have hz := hE7.heap HQ0.out
 obtain ⟨z0, z1, z2, z3, z4, z5, z6, z7, z8, z9⟩ := cells10 hz
 obtain ⟨f0, f1, f2, f3, f4, f5, f6, f7, f8, f9⟩ := frz10 hz
 go_simp
 generalize hXF : World.setCell _ _ _ = XF
 have HXF : Hid (XF.heap[w.heap.size]? = some (.cells #[.int .i64 4, .int .i64 10, .int .i64 50, .int .i64 20, .int .i64 60, .int .i64 30, .int .i64 32, .slice (some ⟨v6.heap.size, 0, none⟩) 5 5, .slice none 0 0, .slice (some ⟨w.heap.size + 1, 0, none⟩) k 2] 40 (0, 0))) := hid (by rw [← hXF]; exact set10 hz)
 have hkp : ∀ j o, j ≠ w.heap.size → v7.heap[j]? = some o → XF.heap[j]? = some o := fun j o hj ho => by rw [← hXF]; exact set_heap (set_heap (set_heap (set_heap (set_heap (set_heap (set_heap (set_heap (set_heap (set_heap ho hj) hj) hj) hj) hj) hj) hj) hj) hj) hj
 have hEF : Ev w XF := by rw [← hXF]; exact Ev.setCell (Ev.setCell (Ev.setCell (Ev.setCell (Ev.setCell (Ev.setCell (Ev.setCell (Ev.setCell (Ev.setCell (Ev.setCell (hE0.trans hE7) (by simp) _) (by simp) _) (by simp) _) (by simp) _) (by simp) _) (by simp) _) (by simp) _) (by simp) _) (by simp) _) (by simp) _
 have ha := hkp _ _ (by omega) HA.out
 have hr := hkp _ _ (by omega) (hE7.heap HQ1.out)
 have HQB := hid ha
 have HRB := hid hr
 have hz1 : W0.heap.size = w.heap.size + 2 := hz0
 clear hXF z0 z1 z2 z3 z4 z5 z6 z7 z8 z9 f0 f1 f2 f3 f4 f5 f6 f7 f8 f9 hz ha hr hkp
 refine hK.out _ _ (trivial) (fun hHeld => ?_)
 clear hK K
 (try simp only [Act.put, sA, sB, sC])
 refine wpAnyH_done (by kernel_rfl) ?_ _
 go_wp2
 obtain ⟨d0, d1, d2, d3, d4, d5, d6, d7, d8, d9⟩ := cells10 HXF.out
 refine bodyPost_ret (v := .agg #[.int .i64 4, .int .i64 10, .int .i64 50, .int .i64 20, .int .i64 60, .int .i64 30, .int .i64 32, .slice (some ⟨v6.heap.size, 0, none⟩) 5 5, .slice none 0 0, .slice (some ⟨w.heap.size + 1, 0, none⟩) k 2]) (by simp [results, Try.results46, go_sem, d0, d1, d2, d3, d4, d5, d6, d7, d8, d9]) rfl ⟨⟨v6.heap.size, w.heap.size + 1, by omega, by omega, by omega, rfl, HQB.out, HRB.out⟩, hEF⟩
theorem one1_b (W : World) : Calls Try.prog 46 #[.int .i64 1] W fun e w' => (∃ q r, W.heap.size ≤ q ∧ W.heap.size ≤ r ∧ q ≠ r ∧ e = .returned (.agg #[.int .i64 4, .int .i64 10, .int .i64 50, .int .i64 20, .int .i64 60, .int .i64 30, .int .i64 32, .slice (some ⟨q, 0, none⟩) 5 5, .slice none 0 0, .slice (some ⟨r, 0, none⟩) 1 2]) ∧ w'.heap[q]? = some (.cells #[.int .i64 10, .int .i64 12, .int .i64 10, .int .i64 10, .int .i64 12, .int .i64 12, .int .i64 8, .int .i64 9, .int .i64 10, .int .i64 10] 36 (0, 0)) ∧ w'.heap[r]? = some (.cells #[.int .i64 1, .int .i64 53, .int .i64 1, .int .i64 3, .int .i64 70, .int .i64 1] 79 (0, 0))) ∧ Ev W w' := one_b 1 (by omega) W
theorem alloc_keep {w : World} {k : Nat} {o a : Obj} (h : w.heap[k]? = some o) : (w.alloc a).heap[k]? = some o := (Ev.alloc (Ev.refl _) _).heap h
theorem nmV0 : M.check (⟨10, 10, 50, 20, 60, ⟨30, 32⟩, M.oneG, [], (M.oneL.take 1)⟩ : M.Cf) = 3 := by decide +kernel
theorem nmC0 {q r : Nat} {W : World} (hq : W.heap[q]? = some (.cells #[.int .i64 10, .int .i64 12, .int .i64 10, .int .i64 10, .int .i64 12, .int .i64 12, .int .i64 8, .int .i64 9, .int .i64 10, .int .i64 10] 36 (0, 0))) (hr : W.heap[r]? = some (.cells #[.int .i64 1, .int .i64 53, .int .i64 1, .int .i64 3, .int .i64 70, .int .i64 1] 79 (0, 0))) : Calls Try.prog 26 #[.agg #[.int .i64 10, .int .i64 10, .int .i64 50, .int .i64 20, .int .i64 60, .int .i64 30, .int .i64 32, .slice (some ⟨q, 0, none⟩) 5 5, .slice none 0 0, .slice (some ⟨r, 0, none⟩) 1 2]] W fun e w' => e = .returned (.int .i64 3) ∧ Ev W w' := by
 refine (check_c (⟨10, 10, 50, 20, 60, ⟨30, 32⟩, M.oneG, [], (M.oneL.take 1)⟩ : M.Cf) (some ⟨q, 0, none⟩) none (some ⟨r, 0, none⟩) 5 5 0 0 1 2 (by decide) _ ⟨(sl_block (enc := rgc) (n := 5) (xs := M.oneG) (by decide) (rgc_len _) (by omega) rfl hq), Sl.nil, (sl_block (enc := rdc) (n := 2) (xs := M.oneL) (by decide) (rdc_len _) (by omega) rfl hr).take (j := 1) (by omega)⟩).mono ?_
 rintro e w' ⟨he, hb⟩
 rw [nmV0] at he
 exact ⟨he, hb⟩
theorem nmV1 : M.check (⟨4, 21, 50, 20, 60, ⟨30, 32⟩, M.oneG, [], (M.oneL.take 1)⟩ : M.Cf) = 1 := by decide +kernel
theorem nmC1 {q r : Nat} {W : World} (hq : W.heap[q]? = some (.cells #[.int .i64 10, .int .i64 12, .int .i64 10, .int .i64 10, .int .i64 12, .int .i64 12, .int .i64 8, .int .i64 9, .int .i64 10, .int .i64 10] 36 (0, 0))) (hr : W.heap[r]? = some (.cells #[.int .i64 1, .int .i64 53, .int .i64 1, .int .i64 3, .int .i64 70, .int .i64 1] 79 (0, 0))) : Calls Try.prog 26 #[.agg #[.int .i64 4, .int .i64 21, .int .i64 50, .int .i64 20, .int .i64 60, .int .i64 30, .int .i64 32, .slice (some ⟨q, 0, none⟩) 5 5, .slice none 0 0, .slice (some ⟨r, 0, none⟩) 1 2]] W fun e w' => e = .returned (.int .i64 1) ∧ Ev W w' := by
 refine (check_c (⟨4, 21, 50, 20, 60, ⟨30, 32⟩, M.oneG, [], (M.oneL.take 1)⟩ : M.Cf) (some ⟨q, 0, none⟩) none (some ⟨r, 0, none⟩) 5 5 0 0 1 2 (by decide) _ ⟨(sl_block (enc := rgc) (n := 5) (xs := M.oneG) (by decide) (rgc_len _) (by omega) rfl hq), Sl.nil, (sl_block (enc := rdc) (n := 2) (xs := M.oneL) (by decide) (rdc_len _) (by omega) rfl hr).take (j := 1) (by omega)⟩).mono ?_
 rintro e w' ⟨he, hb⟩
 rw [nmV1] at he
 exact ⟨he, hb⟩
theorem nmV2 : M.check (⟨4, 10, 101, 20, 60, ⟨30, 32⟩, M.oneG, [], (M.oneL.take 1)⟩ : M.Cf) = 1 := by decide +kernel
theorem nmC2 {q r : Nat} {W : World} (hq : W.heap[q]? = some (.cells #[.int .i64 10, .int .i64 12, .int .i64 10, .int .i64 10, .int .i64 12, .int .i64 12, .int .i64 8, .int .i64 9, .int .i64 10, .int .i64 10] 36 (0, 0))) (hr : W.heap[r]? = some (.cells #[.int .i64 1, .int .i64 53, .int .i64 1, .int .i64 3, .int .i64 70, .int .i64 1] 79 (0, 0))) : Calls Try.prog 26 #[.agg #[.int .i64 4, .int .i64 10, .int .i64 101, .int .i64 20, .int .i64 60, .int .i64 30, .int .i64 32, .slice (some ⟨q, 0, none⟩) 5 5, .slice none 0 0, .slice (some ⟨r, 0, none⟩) 1 2]] W fun e w' => e = .returned (.int .i64 1) ∧ Ev W w' := by
 refine (check_c (⟨4, 10, 101, 20, 60, ⟨30, 32⟩, M.oneG, [], (M.oneL.take 1)⟩ : M.Cf) (some ⟨q, 0, none⟩) none (some ⟨r, 0, none⟩) 5 5 0 0 1 2 (by decide) _ ⟨(sl_block (enc := rgc) (n := 5) (xs := M.oneG) (by decide) (rgc_len _) (by omega) rfl hq), Sl.nil, (sl_block (enc := rdc) (n := 2) (xs := M.oneL) (by decide) (rdc_len _) (by omega) rfl hr).take (j := 1) (by omega)⟩).mono ?_
 rintro e w' ⟨he, hb⟩
 rw [nmV2] at he
 exact ⟨he, hb⟩
theorem nmV3 : M.check (⟨4, 10, 50, 61, 60, ⟨30, 32⟩, M.oneG, [], (M.oneL.take 1)⟩ : M.Cf) = 1 := by decide +kernel
theorem nmC3 {q r : Nat} {W : World} (hq : W.heap[q]? = some (.cells #[.int .i64 10, .int .i64 12, .int .i64 10, .int .i64 10, .int .i64 12, .int .i64 12, .int .i64 8, .int .i64 9, .int .i64 10, .int .i64 10] 36 (0, 0))) (hr : W.heap[r]? = some (.cells #[.int .i64 1, .int .i64 53, .int .i64 1, .int .i64 3, .int .i64 70, .int .i64 1] 79 (0, 0))) : Calls Try.prog 26 #[.agg #[.int .i64 4, .int .i64 10, .int .i64 50, .int .i64 61, .int .i64 60, .int .i64 30, .int .i64 32, .slice (some ⟨q, 0, none⟩) 5 5, .slice none 0 0, .slice (some ⟨r, 0, none⟩) 1 2]] W fun e w' => e = .returned (.int .i64 1) ∧ Ev W w' := by
 refine (check_c (⟨4, 10, 50, 61, 60, ⟨30, 32⟩, M.oneG, [], (M.oneL.take 1)⟩ : M.Cf) (some ⟨q, 0, none⟩) none (some ⟨r, 0, none⟩) 5 5 0 0 1 2 (by decide) _ ⟨(sl_block (enc := rgc) (n := 5) (xs := M.oneG) (by decide) (rgc_len _) (by omega) rfl hq), Sl.nil, (sl_block (enc := rdc) (n := 2) (xs := M.oneL) (by decide) (rdc_len _) (by omega) rfl hr).take (j := 1) (by omega)⟩).mono ?_
 rintro e w' ⟨he, hb⟩
 rw [nmV3] at he
 exact ⟨he, hb⟩
theorem nmV4 : M.check (⟨4, 10, 50, 20, 60, ⟨30, 32⟩, (M.oneG.take 4), [], (M.oneL.take 1)⟩ : M.Cf) = 1 := by decide +kernel
theorem nmC4 {q r : Nat} {W : World} (hq : W.heap[q]? = some (.cells #[.int .i64 10, .int .i64 12, .int .i64 10, .int .i64 10, .int .i64 12, .int .i64 12, .int .i64 8, .int .i64 9, .int .i64 10, .int .i64 10] 36 (0, 0))) (hr : W.heap[r]? = some (.cells #[.int .i64 1, .int .i64 53, .int .i64 1, .int .i64 3, .int .i64 70, .int .i64 1] 79 (0, 0))) : Calls Try.prog 26 #[.agg #[.int .i64 4, .int .i64 10, .int .i64 50, .int .i64 20, .int .i64 60, .int .i64 30, .int .i64 32, .slice (some ⟨q, 0, none⟩) 4 5, .slice none 0 0, .slice (some ⟨r, 0, none⟩) 1 2]] W fun e w' => e = .returned (.int .i64 1) ∧ Ev W w' := by
 refine (check_c (⟨4, 10, 50, 20, 60, ⟨30, 32⟩, (M.oneG.take 4), [], (M.oneL.take 1)⟩ : M.Cf) (some ⟨q, 0, none⟩) none (some ⟨r, 0, none⟩) 4 5 0 0 1 2 (by decide) _ ⟨(sl_block (enc := rgc) (n := 5) (xs := M.oneG) (by decide) (rgc_len _) (by omega) rfl hq).take (j := 4) (by omega), Sl.nil, (sl_block (enc := rdc) (n := 2) (xs := M.oneL) (by decide) (rdc_len _) (by omega) rfl hr).take (j := 1) (by omega)⟩).mono ?_
 rintro e w' ⟨he, hb⟩
 rw [nmV4] at he
 exact ⟨he, hb⟩
theorem nmV5 : M.check (⟨4, 10, 50, 20, 60, ⟨30, 32⟩, M.oneG, [1, 1], (M.oneL.take 1)⟩ : M.Cf) = 1 := by decide +kernel
theorem nmC5 {q r tb : Nat} {W : World} (hq : W.heap[q]? = some (.cells #[.int .i64 10, .int .i64 12, .int .i64 10, .int .i64 10, .int .i64 12, .int .i64 12, .int .i64 8, .int .i64 9, .int .i64 10, .int .i64 10] 36 (0, 0))) (hr : W.heap[r]? = some (.cells #[.int .i64 1, .int .i64 53, .int .i64 1, .int .i64 3, .int .i64 70, .int .i64 1] 79 (0, 0))) (ht : W.heap[tb]? = some (.cells #[.int .i64 1, .int .i64 1] 3 (0, 0))) : Calls Try.prog 26 #[.agg #[.int .i64 4, .int .i64 10, .int .i64 50, .int .i64 20, .int .i64 60, .int .i64 30, .int .i64 32, .slice (some ⟨q, 0, none⟩) 5 5, .slice (some ⟨tb, 0, none⟩) 2 2, .slice (some ⟨r, 0, none⟩) 1 2]] W fun e w' => e = .returned (.int .i64 1) ∧ Ev W w' := by
 refine (check_c (⟨4, 10, 50, 20, 60, ⟨30, 32⟩, M.oneG, [1, 1], (M.oneL.take 1)⟩ : M.Cf) (some ⟨q, 0, none⟩) (some ⟨tb, 0, none⟩) (some ⟨r, 0, none⟩) 5 5 2 2 1 2 (by decide) _ ⟨(sl_block (enc := rgc) (n := 5) (xs := M.oneG) (by decide) (rgc_len _) (by omega) rfl hq), sl_block (enc := ics) (n := 2) (xs := [1, 1]) (by decide) (ics_len _) (by omega) rfl ht, (sl_block (enc := rdc) (n := 2) (xs := M.oneL) (by decide) (rdc_len _) (by omega) rfl hr).take (j := 1) (by omega)⟩).mono ?_
 rintro e w' ⟨he, hb⟩
 rw [nmV5] at he
 exact ⟨he, hb⟩
theorem nmV6 : M.check (⟨4, 10, 50, 20, 60, ⟨30, 32⟩, M.oneG, [], (([⟨1, 53, 51⟩, ⟨3, 70, 1⟩] : List M.Rd).take 1)⟩ : M.Cf) = 1 := by decide +kernel
theorem nmC6 {q r : Nat} {W : World} (hq : W.heap[q]? = some (.cells #[.int .i64 10, .int .i64 12, .int .i64 10, .int .i64 10, .int .i64 12, .int .i64 12, .int .i64 8, .int .i64 9, .int .i64 10, .int .i64 10] 36 (0, 0))) (hr : W.heap[r]? = some (.cells #[.int .i64 1, .int .i64 53, .int .i64 51, .int .i64 3, .int .i64 70, .int .i64 1] 79 (0, 0))) : Calls Try.prog 26 #[.agg #[.int .i64 4, .int .i64 10, .int .i64 50, .int .i64 20, .int .i64 60, .int .i64 30, .int .i64 32, .slice (some ⟨q, 0, none⟩) 5 5, .slice none 0 0, .slice (some ⟨r, 0, none⟩) 1 2]] W fun e w' => e = .returned (.int .i64 1) ∧ Ev W w' := by
 refine (check_c (⟨4, 10, 50, 20, 60, ⟨30, 32⟩, M.oneG, [], (([⟨1, 53, 51⟩, ⟨3, 70, 1⟩] : List M.Rd).take 1)⟩ : M.Cf) (some ⟨q, 0, none⟩) none (some ⟨r, 0, none⟩) 5 5 0 0 1 2 (by decide) _ ⟨(sl_block (enc := rgc) (n := 5) (xs := M.oneG) (by decide) (rgc_len _) (by omega) rfl hq), Sl.nil, (sl_block (enc := rdc) (n := 2) (xs := [⟨1, 53, 51⟩, ⟨3, 70, 1⟩]) (by decide) (rdc_len _) (by omega) rfl hr).take (j := 1) (by omega)⟩).mono ?_
 rintro e w' ⟨he, hb⟩
 rw [nmV6] at he
 exact ⟨he, hb⟩
theorem nmV7 : M.check (⟨4, 10, 50, 20, 60, ⟨30, 32⟩, M.oneG, [], (List.replicate 6 ⟨0, 0, 0⟩)⟩ : M.Cf) = 3 := by decide +kernel
theorem nmC7 {q r : Nat} {W : World} (hq : W.heap[q]? = some (.cells #[.int .i64 10, .int .i64 12, .int .i64 10, .int .i64 10, .int .i64 12, .int .i64 12, .int .i64 8, .int .i64 9, .int .i64 10, .int .i64 10] 36 (0, 0))) (hr : W.heap[r]? = some (.cells (Array.replicate 18 (.int .i64 0)) 79 (0, 0))) : Calls Try.prog 26 #[.agg #[.int .i64 4, .int .i64 10, .int .i64 50, .int .i64 20, .int .i64 60, .int .i64 30, .int .i64 32, .slice (some ⟨q, 0, none⟩) 5 5, .slice none 0 0, .slice (some ⟨r, 0, none⟩) 6 6]] W fun e w' => e = .returned (.int .i64 3) ∧ Ev W w' := by
 refine (check_c (⟨4, 10, 50, 20, 60, ⟨30, 32⟩, M.oneG, [], (List.replicate 6 ⟨0, 0, 0⟩)⟩ : M.Cf) (some ⟨q, 0, none⟩) none (some ⟨r, 0, none⟩) 5 5 0 0 6 6 (by decide) _ ⟨(sl_block (enc := rgc) (n := 5) (xs := M.oneG) (by decide) (rgc_len _) (by omega) rfl hq), Sl.nil, sl_block (enc := rdc) (n := 6) (xs := List.replicate 6 ⟨0, 0, 0⟩) (by decide) (rdc_len _) (by omega) rfl hr⟩).mono ?_
 rintro e w' ⟨he, hb⟩
 rw [nmV7] at he
 exact ⟨he, hb⟩
theorem nmV8 : M.check (⟨4, 10, 50, 20, 60, ⟨0, 99⟩, ([⟨10, 12⟩, ⟨10, 10⟩, ⟨0, 9⟩, ⟨8, 9⟩, ⟨10, 10⟩] : List M.Rg), [], (M.oneL.take 1)⟩ : M.Cf) = 3 := by decide +kernel
theorem nmC8 {q r : Nat} {W : World} (hq : W.heap[q]? = some (.cells #[.int .i64 10, .int .i64 12, .int .i64 10, .int .i64 10, .int .i64 0, .int .i64 9, .int .i64 8, .int .i64 9, .int .i64 10, .int .i64 10] 36 (0, 0))) (hr : W.heap[r]? = some (.cells #[.int .i64 1, .int .i64 53, .int .i64 1, .int .i64 3, .int .i64 70, .int .i64 1] 79 (0, 0))) : Calls Try.prog 26 #[.agg #[.int .i64 4, .int .i64 10, .int .i64 50, .int .i64 20, .int .i64 60, .int .i64 0, .int .i64 99, .slice (some ⟨q, 0, none⟩) 5 5, .slice none 0 0, .slice (some ⟨r, 0, none⟩) 1 2]] W fun e w' => e = .returned (.int .i64 3) ∧ Ev W w' := by
 refine (check_c (⟨4, 10, 50, 20, 60, ⟨0, 99⟩, ([⟨10, 12⟩, ⟨10, 10⟩, ⟨0, 9⟩, ⟨8, 9⟩, ⟨10, 10⟩] : List M.Rg), [], (M.oneL.take 1)⟩ : M.Cf) (some ⟨q, 0, none⟩) none (some ⟨r, 0, none⟩) 5 5 0 0 1 2 (by decide) _ ⟨(sl_block (enc := rgc) (n := 5) (xs := [⟨10, 12⟩, ⟨10, 10⟩, ⟨0, 9⟩, ⟨8, 9⟩, ⟨10, 10⟩]) (by decide) (rgc_len _) (by omega) rfl hq), Sl.nil, (sl_block (enc := rdc) (n := 2) (xs := M.oneL) (by decide) (rdc_len _) (by omega) rfl hr).take (j := 1) (by omega)⟩).mono ?_
 rintro e w' ⟨he, hb⟩
 rw [nmV8] at he
 exact ⟨he, hb⟩
theorem nmV9 : M.check (⟨0, 0, 0, 0, 0, ⟨0, 0⟩, [], [], []⟩ : M.Cf) = 1 := by decide +kernel
theorem nmC9 {W : World} : Calls Try.prog 26 #[.agg #[.int .i64 0, .int .i64 0, .int .i64 0, .int .i64 0, .int .i64 0, .int .i64 0, .int .i64 0, .slice none 0 0, .slice none 0 0, .slice none 0 0]] W fun e w' => e = .returned (.int .i64 1) ∧ Ev W w' := by
 refine (check_c (⟨0, 0, 0, 0, 0, ⟨0, 0⟩, [], [], []⟩ : M.Cf) none none none 0 0 0 0 0 0 (by decide) _ ⟨Sl.nil, Sl.nil, Sl.nil⟩).mono ?_
 rintro e w' ⟨he, hb⟩
 rw [nmV9] at he
 exact ⟨he, hb⟩
theorem alloc9 (w : World) (a0 a1 a2 a3 a4 a5 a6 a7 a8 : Obj) {W : World} (hW : ((((((((w.alloc a0).alloc a1).alloc a2).alloc a3).alloc a4).alloc a5).alloc a6).alloc a7).alloc a8 = W) : W.heap[w.heap.size]? = some a0 ∧ W.heap[w.heap.size + 1]? = some a1 ∧ W.heap[w.heap.size + 1 + 1]? = some a2 ∧ W.heap[w.heap.size + 1 + 1 + 1]? = some a3 ∧ W.heap[w.heap.size + 1 + 1 + 1 + 1]? = some a4 ∧ W.heap[w.heap.size + 1 + 1 + 1 + 1 + 1]? = some a5 ∧ W.heap[w.heap.size + 1 + 1 + 1 + 1 + 1 + 1]? = some a6 ∧ W.heap[w.heap.size + 1 + 1 + 1 + 1 + 1 + 1 + 1]? = some a7 ∧ W.heap[w.heap.size + 1 + 1 + 1 + 1 + 1 + 1 + 1 + 1]? = some a8 := by
 subst hW
 exact ⟨alloc_keep (alloc_keep (alloc_keep (alloc_keep (alloc_keep (alloc_keep (alloc_keep (alloc_keep (heap_at _ _ (by simp))))))))), alloc_keep (alloc_keep (alloc_keep (alloc_keep (alloc_keep (alloc_keep (alloc_keep (heap_at _ _ (by simp)))))))), alloc_keep (alloc_keep (alloc_keep (alloc_keep (alloc_keep (alloc_keep (heap_at _ _ (by simp))))))), alloc_keep (alloc_keep (alloc_keep (alloc_keep (alloc_keep (heap_at _ _ (by simp)))))), alloc_keep (alloc_keep (alloc_keep (alloc_keep (heap_at _ _ (by simp))))), alloc_keep (alloc_keep (alloc_keep (heap_at _ _ (by simp)))), alloc_keep (alloc_keep (heap_at _ _ (by simp))), alloc_keep (heap_at _ _ (by simp)), heap_at _ _ (by simp)⟩
theorem makeRd6 (wx : World) : (Instr.makeSlice 38 (.int .i64 6) (.int .i64 6)).run Try.prog wx = .ok (.slice (some ⟨wx.heap.size, 0, none⟩) 6 6) (wx.alloc (.cells (Array.replicate 18 (.int .i64 0)) 79)) := by
 obtain ⟨i0, hi, hz0, hz1, hz2⟩ := info_parts (show (Try.prog.info? 79).map (fun i => (i.zero, i.size, i.bytes)) = some (some (.agg #[.int .i64 0, .int .i64 0, .int .i64 0]), 3, 24) by kernel_rfl)
 have := run_makeSlice wx 38 79 i0 _ Try.underlying38 hi hz0 .i64 .i64 6 6 (by omega) (by omega) (by rw [hz1]; omega) (by rw [hz2]; omega) (by omega)
 rw [hz1, show madeCells (Value.agg #[.int .i64 0, .int .i64 0, .int .i64 0]).cells (Int.toNat 6 * 3) = Array.replicate 18 (.int .i64 0) from by kernel_rfl] at this
 exact this
set_option maxRecDepth 1000000 in
set_option maxHeartbeats 16000000 in
theorem couchNames_c (x0 : World) : Calls Try.prog 7 #[] x0 fun e w' => e = .returned (.bool true) ∧ Ev x0 w' := by
 obtain ⟨zs, hzs⟩ : ∃ zs, zs = Array.replicate 18 (Value.int .i64 0) := ⟨_, rfl⟩
 have hmk : ∀ wx : World, (Instr.makeSlice 38 (.int .i64 6) (.int .i64 6)).run Try.prog wx = .ok (.slice (some ⟨wx.heap.size, 0, none⟩) 6 6) (wx.alloc (.cells zs 79)) := by rw [hzs]; exact makeRd6
 have HZS := hid hzs
 clear hzs
 have HE0 := hid (Ev.refl x0)
 go_enter Try.func7, Try.ntmps7
 go_upto_region 2 with (first | (go_at_call 46; with_reducible refine (one0_c _).mono ?_; rintro e x1 ⟨⟨B1, B3, rfl, hcs⟩, hb⟩; have HE1 := hid (HE0.out.trans hb); have HC := hid hcs; clear hcs; clear HE0  hb) | (go_at_call 47; with_reducible refine (first_c _).mono ?_; rintro e x2 ⟨⟨D1, rfl, hd1⟩, hb⟩; have HE2 := hid (HE1.out.trans hb); have HD1 := hid hd1; have HF := hid hb; clear hd1; clear HE1  hb) | (go_at_call 20; with_reducible refine (nmPlay HC.out HF.out HD1.out).mono ?_; rintro e x3 ⟨⟨BP, dP, rfl, hp⟩, hb⟩; have HE3 := hid (HE2.out.trans hb); have HP := hid hp; clear hp; clear HC HF HD1; clear HE2  hb))
 have HG3 := hid (Ev.refl x3)
 go_upto_region 3 with (first | (go_at_call 46; with_reducible refine (one0_c _).mono ?_; rintro e x4 ⟨⟨B1, B3, rfl, hcs⟩, hb⟩; have HE4 := hid (HE3.out.trans hb); have HG4 := hid (HG3.out.trans hb); have HC := hid hcs; clear hcs; clear HE3 HG3 hb) | (go_at_call 32; with_reducible refine (nmKeepsN HC.out).mono ?_; rintro e x5 ⟨rfl, hb⟩; have HE5 := hid (HE4.out.trans hb); have HG5 := hid (HG4.out.trans hb); clear HC; clear HE4 HG4 hb))
 go_upto_region 4 with (first | (go_at_call 46; with_reducible refine (one0_c _).mono ?_; rintro e x6 ⟨⟨B1, B3, rfl, hcs⟩, hb⟩; have HE6 := hid (HE5.out.trans hb); have HG6 := hid (HG5.out.trans hb); have HC := hid hcs; clear hcs; clear HE5 HG5 hb) | (go_at_call 32; with_reducible refine (nmKeepsA HC.out (Ev.refl _)).mono ?_; rintro e x7 ⟨rfl, hb⟩; have HE7 := hid (HE6.out.trans hb); have HG7 := hid (HG6.out.trans hb); clear HC; clear HE6 HG6 hb))
 go_upto_region 5 with (first | (go_at_call 46; with_reducible refine (one0_c _).mono ?_; rintro e x8 ⟨⟨B1, B3, rfl, hcs⟩, hb⟩; have HE8 := hid (HE7.out.trans hb); have HG8 := hid (HG7.out.trans hb); have HC := hid hcs; clear hcs; clear HE7 HG7 hb) | (go_at_call 38; with_reducible refine (nmFearN HC.out).mono ?_; rintro e x9 ⟨rfl, hb⟩; have HE9 := hid (HE8.out.trans hb); have HG9 := hid (HG8.out.trans hb); clear HC; clear HE8 HG8 hb))
 generalize hWA : World.alloc x9 _ = x10
 have hb : Ev x9 x10 := by rw [← hWA]; exact Ev.alloc (Ev.refl _) _
 have QA := hid (show x10.heap[x9.heap.size]? = some (.cells #[.int .i64 2, .bool true, .bool false] 64 (0, 0)) from by rw [← hWA]; exact (alloc1 x9 _).1)
 have HE10 := hid (HE9.out.trans hb)
 have HG10 := hid (HG9.out.trans hb)
 clear HE9 HG9 hb hWA
 generalize x9.heap.size = pa at QA ⊢
 have HQ10 := hid (Ev.refl x10)
 go_upto_region 6 with (first | (go_at_call 46; with_reducible refine (one0_c _).mono ?_; rintro e x11 ⟨⟨B1, B3, rfl, hcs⟩, hb⟩; have HE11 := hid (HE10.out.trans hb); have HG11 := hid (HG10.out.trans hb); have HQ11 := hid (HQ10.out.trans hb); have HC := hid hcs; clear hcs; clear HE10 HG10 HQ10 hb) | (go_at_call 38; with_reducible refine (nmFearA HC.out (Ev.refl _)).mono ?_; rintro e x12 ⟨rfl, hb⟩; have HE12 := hid (HE11.out.trans hb); have HG12 := hid (HG11.out.trans hb); have HQ12 := hid (HQ11.out.trans hb); clear HC; clear HE11 HG11 HQ11 hb))
 generalize hWA : World.alloc x12 _ = x13
 have hb : Ev x12 x13 := by rw [← hWA]; exact Ev.alloc (Ev.refl _) _
 have HE13 := hid (HE12.out.trans hb)
 have HG13 := hid (HG12.out.trans hb)
 have HQ13 := hid (HQ12.out.trans hb)
 clear HE12 HG12 HQ12 hb hWA
 go_upto_region 7 with (first | (go_at_call 46; with_reducible refine (one1_c _).mono ?_; rintro e x14 ⟨⟨B1, B3, rfl, hcs⟩, hb⟩; have HE14 := hid (HE13.out.trans hb); have HG14 := hid (HG13.out.trans hb); have HQ14 := hid (HQ13.out.trans hb); have HC := hid hcs; clear hcs; clear HE13 HG13 HQ13 hb) | (go_at_call 41; with_reducible refine (nmLeave HC.out).mono ?_; rintro e x15 ⟨⟨LB, ld, rfl⟩, hb⟩; have HE15 := hid (HE14.out.trans hb); have HG15 := hid (HG14.out.trans hb); have HQ15 := hid (HQ14.out.trans hb); clear HC; clear HE14 HG14 HQ14 hb))
 have T0 := True.intro
 go_upto_region 9 with (first | (go_at_call 43; clear T0; with_reducible refine (nmInts HP.out HG15.out).mono ?_; rintro e x16 ⟨rfl, hb⟩; have HE16 := hid (HE15.out.trans hb); have HG16 := hid (HG15.out.trans hb); have HQ16 := hid (HQ15.out.trans hb); clear HE15 HG15 HQ15 hb; have T1 := True.intro; obtain ⟨a0, a1, a2⟩ := cells3 (HQ16.out.heap QA.out)) | (go_at_call 46; clear T1; with_reducible refine (one0_c _).mono ?_; rintro e x17 ⟨⟨B1, B3, rfl, hcs⟩, hb⟩; have HE17 := hid (HE16.out.trans hb); have HG17 := hid (HG16.out.trans hb); have HQ17 := hid (HQ16.out.trans hb); have HC := hid hcs; clear hcs; clear HE16 HG16 HQ16 hb; have T2 := True.intro) | (go_at_call 47; clear T2; with_reducible refine (first_c _).mono ?_; rintro e x18 ⟨⟨D1, rfl, hd1⟩, hb⟩; have HE18 := hid (HE17.out.trans hb); have HG18 := hid (HG17.out.trans hb); have HQ18 := hid (HQ17.out.trans hb); have HD1 := hid hd1; have HF := hid hb; clear hd1; clear HE17 HG17 HQ17 hb; have T3 := True.intro) | (go_at_call 24; clear T3; with_reducible refine (nmPT0 HC.out HF.out HD1.out).mono ?_; rintro e x19 ⟨rfl, hb⟩; have HE19 := hid (HE18.out.trans hb); have HG19 := hid (HG18.out.trans hb); have HQ19 := hid (HQ18.out.trans hb); clear HC HF HD1; clear HE18 HG18 HQ18 hb; have T4 := True.intro) | (go_at_call 46; clear T4; with_reducible refine (one1_c _).mono ?_; rintro e x20 ⟨⟨B1, B3, rfl, hcs⟩, hb⟩; have HE20 := hid (HE19.out.trans hb); have HG20 := hid (HG19.out.trans hb); have HQ20 := hid (HQ19.out.trans hb); have HC := hid hcs; clear hcs; clear HE19 HG19 HQ19 hb; have T5 := True.intro) | (go_at_call 47; clear T5; with_reducible refine (first_c _).mono ?_; rintro e x21 ⟨⟨D1, rfl, hd1⟩, hb⟩; have HE21 := hid (HE20.out.trans hb); have HG21 := hid (HG20.out.trans hb); have HQ21 := hid (HQ20.out.trans hb); have HD1 := hid hd1; have HF := hid hb; clear hd1; clear HE20 HG20 HQ20 hb; have T6 := True.intro) | (go_at_call 24; clear T6; with_reducible refine (nmPT1 HC.out HF.out HD1.out).mono ?_; rintro e x22 ⟨rfl, hb⟩; have HE22 := hid (HE21.out.trans hb); have HG22 := hid (HG21.out.trans hb); have HQ22 := hid (HQ21.out.trans hb); clear HC HF HD1; clear HE21 HG21 HQ21 hb; have T7 := True.intro) | (go_at_call 46; clear T7; with_reducible refine (one1_c _).mono ?_; rintro e x23 ⟨⟨B1, B3, rfl, hcs⟩, hb⟩; have HE23 := hid (HE22.out.trans hb); have HG23 := hid (HG22.out.trans hb); have HQ23 := hid (HQ22.out.trans hb); have HC := hid hcs; clear hcs; clear HE22 HG22 HQ22 hb; have T8 := True.intro) | (go_at_call 33; clear T8; with_reducible refine (nmPK1 HC.out (Ev.refl _)).mono ?_; rintro e x24 ⟨rfl, hb⟩; have HE24 := hid (HE23.out.trans hb); have HG24 := hid (HG23.out.trans hb); have HQ24 := hid (HQ23.out.trans hb); clear HC; clear HE23 HG23 HQ23 hb; have T9 := True.intro) | (go_at_call 46; clear T9; with_reducible refine (one0_c _).mono ?_; rintro e x25 ⟨⟨B1, B3, rfl, hcs⟩, hb⟩; have HE25 := hid (HE24.out.trans hb); have HG25 := hid (HG24.out.trans hb); have HQ25 := hid (HQ24.out.trans hb); have HC := hid hcs; clear hcs; clear HE24 HG24 HQ24 hb; have T10 := True.intro) | (go_at_call 33; clear T10; with_reducible refine (nmPK0 HC.out (Ev.refl _)).mono ?_; rintro e x26 ⟨rfl, hb⟩; have HE26 := hid (HE25.out.trans hb); have HG26 := hid (HG25.out.trans hb); have HQ26 := hid (HQ25.out.trans hb); clear HC; clear HE25 HG25 HQ25 hb; have T11 := True.intro))
 clear a0 a1 a2 T11 HP QA HG26 HQ26
 have T0 := True.intro
 go_upto_region 10 with (first | (go_at_call 47; clear T0; with_reducible refine (first_c _).mono ?_; rintro e x27 ⟨⟨D1, rfl, hd1⟩, hb⟩; have HE27 := hid (HE26.out.trans hb); have HDa := hid hd1; have HF := hid hb; clear hd1; clear HE26  hb; have T1 := True.intro) | (go_at_call 47; clear T1; with_reducible refine (first_c _).mono ?_; rintro e x28 ⟨⟨D2, rfl, hd1⟩, hb⟩; have HE28 := hid (HE27.out.trans hb); have HDb := hid hd1; have HFb := hid hb; clear hd1; clear HE27  hb; have T2 := True.intro))
 clear T2
 generalize hWA : World.alloc (World.alloc x28 _) _ = x29
 have hb : Ev x28 x29 := by rw [← hWA]; exact Ev.alloc (Ev.alloc (Ev.refl _) _) _
 have hal := alloc2 x28 (.cells #[.int .i64 30, .slice D1 5 5] 42) (.cells #[.int .i64 30, .slice D2 5 5] 42)
 rw [hWA] at hal
 have T1 := hid hal.1
 have T2 := hid hal.2.1
 have HE29 := hid (HE28.out.trans hb)
 have HY29 := hid hb
 have h028 : x0.heap.size ≤ x28.heap.size := HE28.out.size
 clear hal hWA hb HE28 HF
 obtain ⟨p1, hp1⟩ : ∃ p, p = x28.heap.size := ⟨_, rfl⟩
 have hp1' : x28.heap.size ≤ p1 := by omega
 rw [← hp1] at T1 T2 ⊢
 clear hp1
 obtain ⟨u0, u1⟩ := cells2 T1.out
 obtain ⟨f0, f1⟩ := frz2 T1.out
 go_upto_region 11 with fail
 generalize hWA : World.setCell x29 _ _ = x30
 have T1' := hid (show x30.heap[p1]? = some (.cells #[.int .i64 33, .slice D1 5 5] 42 (0, 0)) from by rw [← hWA, set_heap_same T1.out]; rfl)
 have T2' := hid (show x30.heap[p1 + 1]? = some (.cells #[.int .i64 30, .slice D2 5 5] 42 (0, 0)) from by rw [← hWA]; exact set_heap T2.out (by omega))
 have HY30 := hid (show Ev x28 x30 from by rw [← hWA]; exact Ev.setCell (p := ⟨p1, 0, none⟩) HY29.out hp1' _)
 have HE30 := hid (show Ev x0 x30 from by rw [← hWA]; exact Ev.setCell (p := ⟨p1, 0, none⟩) HE29.out (Nat.le_trans h028 hp1') _)
 clear hWA T1 T2 u0 u1 f0 f1
 obtain ⟨u0, u1⟩ := cells2 T2'.out
 obtain ⟨f0, f1⟩ := frz2 T2'.out
 go_upto_region 12 with fail
 generalize hWA : World.setCell x30 _ _ = x31
 have T1 := hid (show x31.heap[p1]? = some (.cells #[.int .i64 33, .slice D1 5 5] 42 (0, 0)) from by rw [← hWA]; exact set_heap T1'.out (by omega))
 have T2 := hid (show x31.heap[p1 + 1]? = some (.cells #[.int .i64 30, .slice D2 4 5] 42 (0, 0)) from by rw [← hWA, set_heap_same T2'.out]; rfl)
 have HY31 := hid (show Ev x28 x31 from by rw [← hWA]; exact Ev.setCell (p := ⟨p1 + 1, 1, none⟩) HY30.out (show x28.heap.size ≤ p1 + 1 by omega) _)
 have HE31 := hid (show Ev x0 x31 from by rw [← hWA]; exact Ev.setCell (p := ⟨p1 + 1, 1, none⟩) HE30.out (show x0.heap.size ≤ p1 + 1 by omega) _)
 have HDA := hid (HDa.out.ev (HFb.out.trans HY31.out))
 have HDB := hid ((HDb.out.ev HY31.out).take (j := 4) (by omega))
 clear hWA T1' T2' u0 u1 f0 f1 HY29 HY30 HY31 HE29 HE30 HDa HDb HFb hp1' h028
 have HM31 := hid (Ev.refl x31)
 obtain ⟨u0, u1⟩ := cells2 (HM31.out.heap T1.out)
 have l0 := heap_lt (HM31.out.heap T1.out)
 have HSE : Hid (∀ w', Ev x31 w' → (∀ o, w'.cell? ⟨p1, o, none⟩ = x31.cell? ⟨p1, o, none⟩)) := hid (fun w' h => fun o => h.cells.1 _ o l0)
 refine wp_region_held_drew (S := fun w' => (∀ o, w'.cell? ⟨p1, o, none⟩ = x31.cell? ⟨p1, o, none⟩)) (by kernel_rfl) (fun o => rfl) (fun hHeld => ?_)
 refine tkH 1 (some 139) ?_
 (try simp only [Act.put, sA, sB, sC])
 refine wpAnyH_one (i := 0) rfl (by kernel_rfl) (by rfl) (fun K hK => ?_)
 go_simp
 refine (one0_c _).mono ?_
 rintro e z0 ⟨⟨B1, B3, rfl, hcs⟩, hb0⟩
 have hy0 : Ev x31 z0 := Ev.trans (Ev.drew (Ev.refl _)) hb0
 refine hK.out _ _ (HSE.out _ hy0) (fun hHeld => ?_)
 clear hK K
 (try simp only [Act.put, sA, sB, sC])
 refine wpAnyH_one (i := 2) rfl (by kernel_rfl) (by rfl) (fun K hK => ?_)
 go_simp
 refine (nmPlayL hcs (Ev.refl _) (HDA.out.ev (HM31.out.trans hy0))).mono ?_
 rintro e z2 ⟨rfl, hb2⟩
 have hy2 : Ev x31 z2 := Ev.trans hy0 hb2
 refine hK.out _ _ (HSE.out _ hy2) (fun hHeld => ?_)
 clear hK K
 (try simp only [Act.put, sA, sB, sC])
 refine tkH 3 (some 137) ?_
 (try simp only [Act.put, sA, sB, sC])
 refine tkH 4 (some 141) ?_
 (try simp only [Act.put, sA, sB, sC])
 refine tkH 5 (some 142) ?_
 (try simp only [Act.put, sA, sB, sC])
 refine tkH 6 (some 2) ?_
 (try simp only [Act.put, sA, sB, sC])
 refine wpAnyH_done (by kernel_rfl) ?_ _
 obtain ⟨x32, hx⟩ : ∃ x, x = z2 := ⟨_, rfl⟩
 subst hx
 have HE32 := hid (HE31.out.trans hy2)
 have HM32 := hid (HM31.out.trans hy2)
 clear HSE hHeld hcs u0 u1 l0 HE31
 go_upto_region 13 with fail
 obtain ⟨u0, u1⟩ := cells2 (HM32.out.heap T2.out)
 have l0 := heap_lt (HM32.out.heap T2.out)
 have HSE : Hid (∀ w', Ev x32 w' → (∀ o, w'.cell? ⟨p1 + 1, o, none⟩ = x32.cell? ⟨p1 + 1, o, none⟩)) := hid (fun w' h => fun o => h.cells.1 _ o l0)
 refine wp_region_held_drew (S := fun w' => (∀ o, w'.cell? ⟨p1 + 1, o, none⟩ = x32.cell? ⟨p1 + 1, o, none⟩)) (by kernel_rfl) (fun o => rfl) (fun hHeld => ?_)
 refine tkH 1 (some 145) ?_
 (try simp only [Act.put, sA, sB, sC])
 refine wpAnyH_one (i := 0) rfl (by kernel_rfl) (by rfl) (fun K hK => ?_)
 go_simp
 refine (one0_c _).mono ?_
 rintro e z0 ⟨⟨B1, B3, rfl, hcs⟩, hb0⟩
 have hy0 : Ev x32 z0 := Ev.trans (Ev.drew (Ev.refl _)) hb0
 refine hK.out _ _ (HSE.out _ hy0) (fun hHeld => ?_)
 clear hK K
 (try simp only [Act.put, sA, sB, sC])
 refine wpAnyH_one (i := 2) rfl (by kernel_rfl) (by rfl) (fun K hK => ?_)
 go_simp
 refine (nmPlayF hcs (Ev.refl _) (HDB.out.ev (HM32.out.trans hy0))).mono ?_
 rintro e z2 ⟨rfl, hb2⟩
 have hy2 : Ev x32 z2 := Ev.trans hy0 hb2
 refine hK.out _ _ (HSE.out _ hy2) (fun hHeld => ?_)
 clear hK K
 (try simp only [Act.put, sA, sB, sC])
 refine tkH 3 (some 143) ?_
 (try simp only [Act.put, sA, sB, sC])
 refine tkH 4 (some 147) ?_
 (try simp only [Act.put, sA, sB, sC])
 refine tkH 5 (some 148) ?_
 (try simp only [Act.put, sA, sB, sC])
 refine tkH 6 (some 4) ?_
 (try simp only [Act.put, sA, sB, sC])
 refine wpAnyH_done (by kernel_rfl) ?_ _
 obtain ⟨x33, hx⟩ : ∃ x, x = z2 := ⟨_, rfl⟩
 subst hx
 have HE33 := hid (HE32.out.trans hy2)
 have HM33 := hid (HM32.out.trans hy2)
 clear HSE hHeld hcs u0 u1 l0 HE32
 clear T1 T2 HDA HDB HM33 HM32
 go_upto_region 15 with (first | (go_at_call 46; with_reducible refine (one0_c _).mono ?_; rintro e x34 ⟨⟨B1, B3, rfl, hcs⟩, hb⟩; have HE34 := hid (HE33.out.trans hb); have HC := hid hcs; clear hcs; clear HE33  hb) | (go_at_call 47; with_reducible refine (first_c _).mono ?_; rintro e x35 ⟨⟨D1, rfl, hd1⟩, hb⟩; have HE35 := hid (HE34.out.trans hb); have HD1 := hid hd1; have HF := hid hb; clear hd1; clear HE34  hb) | (go_at_call 20; with_reducible refine (nmPlay5 HC.out HF.out HD1.out).mono ?_; rintro e x36 ⟨rfl, hb⟩; have HE36 := hid (HE35.out.trans hb); clear HC HF HD1; clear HE35  hb))
 go_upto_region 16 with (first | (go_at_call 46; with_reducible refine (one2_c _).mono ?_; rintro e x37 ⟨⟨B1, B3, rfl, hcs⟩, hb⟩; have HE37 := hid (HE36.out.trans hb); have HC := hid hcs; clear hcs; clear HE36  hb) | (go_at_call 31; with_reducible refine (nmB21 HC.out (Ev.refl _)).mono ?_; rintro e x38 ⟨rfl, hb⟩; have HE38 := hid (HE37.out.trans hb); clear HC; clear HE37  hb))
 go_upto_region 17 with (first | (go_at_call 46; with_reducible refine (one2_c _).mono ?_; rintro e x39 ⟨⟨B1, B3, rfl, hcs⟩, hb⟩; have HE39 := hid (HE38.out.trans hb); have HC := hid hcs; clear hcs; clear HE38  hb) | (go_at_call 31; with_reducible refine (nmB2 HC.out).mono ?_; rintro e x40 ⟨rfl, hb⟩; have HE40 := hid (HE39.out.trans hb); clear HC; clear HE39  hb))
 go_upto_region 18 with (first | (go_at_call 46; with_reducible refine (one2_c _).mono ?_; rintro e x41 ⟨⟨B1, B3, rfl, hcs⟩, hb⟩; have HE41 := hid (HE40.out.trans hb); have HC := hid hcs; clear hcs; clear HE40  hb) | (go_at_call 38; with_reducible refine (nmF2 HC.out).mono ?_; rintro e x42 ⟨rfl, hb⟩; have HE42 := hid (HE41.out.trans hb); clear HC; clear HE41  hb))
 go_upto_region 19 with (first | (go_at_call 46; with_reducible refine (one1_c _).mono ?_; rintro e x43 ⟨⟨B1, B3, rfl, hcs⟩, hb⟩; have HE43 := hid (HE42.out.trans hb); have HC := hid hcs; clear hcs; clear HE42  hb) | (go_at_call 40; with_reducible refine (nmFirst HC.out).mono ?_; rintro e x44 ⟨rfl, hb⟩; have HE44 := hid (HE43.out.trans hb); clear HC; clear HE43  hb))
 go_upto_region 20 with (first | (go_at_call 46; with_reducible refine (one0_c _).mono ?_; rintro e x45 ⟨⟨B1, B3, rfl, hcs⟩, hb⟩; have HE45 := hid (HE44.out.trans hb); have HC := hid hcs; clear hcs; clear HE44  hb))
 have HK45 := hid (Ev.refl x45)
 generalize hWA : World.alloc x45 _ = x46
 have hb : Ev x45 x46 := by rw [← hWA]; exact Ev.alloc (Ev.refl _) _
 have QC := hid (show x46.heap[x45.heap.size]? = some (.cells #[.int .i64 4, .int .i64 10, .int .i64 50, .int .i64 20, .int .i64 60, .int .i64 30, .int .i64 32, .slice B1 5 5, .slice none 0 0, .slice B3 0 2] 40 (0, 0)) from by rw [← hWA]; exact (alloc1 x45 _).1)
 have HE46 := hid (HE45.out.trans hb)
 have HK46 := hid (HK45.out.trans hb)
 have h0 : x0.heap.size ≤ x45.heap.size := HE45.out.size
 clear HE45 HK45 hb hWA
 obtain ⟨pc, hpc⟩ : ∃ p, p = x45.heap.size := ⟨_, rfl⟩
 have hpj : x45.heap.size ≤ pc := by omega
 rw [← hpc] at QC ⊢
 clear hpc
 obtain ⟨y0, y1, y2, y3, y4, y5, y6, y7, y8, y9⟩ := cells10 QC.out
 obtain ⟨f0, f1, f2, f3, f4, f5, f6, f7, f8, f9⟩ := frz10 QC.out
 go_upto_region 21 with fail
 generalize hWA : World.setCell x46 _ _ = x47
 have QC2 := hid (show x47.heap[pc]? = some (.cells #[.int .i64 4, .int .i64 10, .int .i64 50, .int .i64 60, .int .i64 60, .int .i64 30, .int .i64 32, .slice B1 5 5, .slice none 0 0, .slice B3 0 2] 40 (0, 0)) from by rw [← hWA, set_heap_same QC.out]; rfl)
 have HE47 := hid (show Ev x0 x47 from by rw [← hWA]; exact Ev.setCell (p := ⟨pc, 3, none⟩) HE46.out (show x0.heap.size ≤ pc by omega) _)
 have HK47 := hid (show Ev x45 x47 from by rw [← hWA]; exact Ev.setCell (p := ⟨pc, 3, none⟩) HK46.out hpj _)
 clear hWA QC h0 hpj HE46 HK46 y0 y1 y2 y3 y4 y5 y6 y7 y8 y9 f0 f1 f2 f3 f4 f5 f6 f7 f8 f9
 obtain ⟨y0, y1, y2, y3, y4, y5, y6, y7, y8, y9⟩ := cells10 QC2.out
 go_upto_region 22 with (first | (go_at_call 48; with_reducible refine (nmCold HC.out HK47.out).mono ?_; rintro e x48 ⟨rfl, hb⟩; have HE48 := hid (HE47.out.trans hb); clear HC HK47 QC2 y0 y1 y2 y3 y4 y5 y6 y7 y8 y9; clear HE47  hb))
 have T0 := True.intro
 have h00 : x0.heap.size ≤ x48.heap.size := HE48.out.size
 go_upto_region 23 with (first | (go_at_call 46; clear T0; with_reducible refine (one1_b _).mono ?_; rintro e x49 ⟨⟨q0, r0, hq0, hr0, hn0, rfl, hQ, hR⟩, hb⟩; have HE49 := hid (HE48.out.trans hb); have HQ0 := hid hQ; have HR0 := hid hR; have HB0 := hid hb; clear HE48 hb hQ hR; have T1 := True.intro) | (go_at_call 46; clear T1; with_reducible refine (one1_b _).mono ?_; rintro e x50 ⟨⟨q1, r1, hq1, hr1, hn1, rfl, hQ, hR⟩, hb⟩; have HE50 := hid (HE49.out.trans hb); have HQ1 := hid hQ; have HR1 := hid hR; have HB1 := hid hb; clear HE49 hb hQ hR; have T2 := True.intro) | (go_at_call 46; clear T2; with_reducible refine (one1_b _).mono ?_; rintro e x51 ⟨⟨q2, r2, hq2, hr2, hn2, rfl, hQ, hR⟩, hb⟩; have HE51 := hid (HE50.out.trans hb); have HQ2 := hid hQ; have HR2 := hid hR; have HB2 := hid hb; clear HE50 hb hQ hR; have T3 := True.intro) | (go_at_call 46; clear T3; with_reducible refine (one1_b _).mono ?_; rintro e x52 ⟨⟨q3, r3, hq3, hr3, hn3, rfl, hQ, hR⟩, hb⟩; have HE52 := hid (HE51.out.trans hb); have HQ3 := hid hQ; have HR3 := hid hR; have HB3 := hid hb; clear HE51 hb hQ hR; have T4 := True.intro) | (go_at_call 46; clear T4; with_reducible refine (one1_b _).mono ?_; rintro e x53 ⟨⟨q4, r4, hq4, hr4, hn4, rfl, hQ, hR⟩, hb⟩; have HE53 := hid (HE52.out.trans hb); have HQ4 := hid hQ; have HR4 := hid hR; have HB4 := hid hb; clear HE52 hb hQ hR; have T5 := True.intro) | (go_at_call 46; clear T5; with_reducible refine (one1_b _).mono ?_; rintro e x54 ⟨⟨q5, r5, hq5, hr5, hn5, rfl, hQ, hR⟩, hb⟩; have HE54 := hid (HE53.out.trans hb); have HQ5 := hid hQ; have HR5 := hid hR; have HB5 := hid hb; clear HE53 hb hQ hR; have T6 := True.intro) | (go_at_call 46; clear T6; with_reducible refine (one1_b _).mono ?_; rintro e x55 ⟨⟨q6, r6, hq6, hr6, hn6, rfl, hQ, hR⟩, hb⟩; have HE55 := hid (HE54.out.trans hb); have HQ6 := hid hQ; have HR6 := hid hR; have HB6 := hid hb; clear HE54 hb hQ hR; have T7 := True.intro) | (go_at_call 46; clear T7; with_reducible refine (one1_b _).mono ?_; rintro e x56 ⟨⟨q7, r7, hq7, hr7, hn7, rfl, hQ, hR⟩, hb⟩; have HE56 := hid (HE55.out.trans hb); have HQ7 := hid hQ; have HR7 := hid hR; have HB7 := hid hb; clear HE55 hb hQ hR; have T8 := True.intro) | (go_at_call 46; clear T8; with_reducible refine (one1_b _).mono ?_; rintro e x57 ⟨⟨q8, r8, hq8, hr8, hn8, rfl, hQ, hR⟩, hb⟩; have HE57 := hid (HE56.out.trans hb); have HQ8 := hid hQ; have HR8 := hid hR; have HB8 := hid hb; clear HE56 hb hQ hR; have T9 := True.intro))
 clear T9
 generalize hWA : World.alloc (World.alloc (World.alloc (World.alloc (World.alloc (World.alloc (World.alloc (World.alloc (World.alloc x57 _) _) _) _) _) _) _) _) _ = x58
 have hb : Ev x57 x58 := by rw [← hWA]; exact Ev.alloc (Ev.alloc (Ev.alloc (Ev.alloc (Ev.alloc (Ev.alloc (Ev.alloc (Ev.alloc (Ev.alloc (Ev.refl _) _) _) _) _) _) _) _) _) _
 obtain ⟨k0, k1, k2, k3, k4, k5, k6, k7, k8⟩ := alloc9 x57 _ _ _ _ _ _ _ _ _ hWA
 have HE58 := hid (HE57.out.trans hb)
 have hx0 : x0.heap.size ≤ x57.heap.size := HE57.out.size
 clear hWA HE57
 have u0 := heap_lt HQ0.out
 have v0 := heap_lt HR0.out
 have u1 := heap_lt HQ1.out
 have v1 := heap_lt HR1.out
 have u2 := heap_lt HQ2.out
 have v2 := heap_lt HR2.out
 have u3 := heap_lt HQ3.out
 have v3 := heap_lt HR3.out
 have u4 := heap_lt HQ4.out
 have v4 := heap_lt HR4.out
 have u5 := heap_lt HQ5.out
 have v5 := heap_lt HR5.out
 have u6 := heap_lt HQ6.out
 have v6 := heap_lt HR6.out
 have u7 := heap_lt HQ7.out
 have v7 := heap_lt HR7.out
 have u8 := heap_lt HQ8.out
 have v8 := heap_lt HR8.out
 obtain ⟨P0, e0⟩ : ∃ p, p = x57.heap.size := ⟨_, rfl⟩
 obtain ⟨P1, e1⟩ : ∃ p, p = P0 + 1 := ⟨_, rfl⟩
 obtain ⟨P2, e2⟩ : ∃ p, p = P1 + 1 := ⟨_, rfl⟩
 obtain ⟨P3, e3⟩ : ∃ p, p = P2 + 1 := ⟨_, rfl⟩
 obtain ⟨P4, e4⟩ : ∃ p, p = P3 + 1 := ⟨_, rfl⟩
 obtain ⟨P5, e5⟩ : ∃ p, p = P4 + 1 := ⟨_, rfl⟩
 obtain ⟨P6, e6⟩ : ∃ p, p = P5 + 1 := ⟨_, rfl⟩
 obtain ⟨P7, e7⟩ : ∃ p, p = P6 + 1 := ⟨_, rfl⟩
 obtain ⟨P8, e8⟩ : ∃ p, p = P7 + 1 := ⟨_, rfl⟩
 have FP0 := hid (show x58.heap[P0]? = some (.cells #[.int .i64 4, .int .i64 10, .int .i64 50, .int .i64 20, .int .i64 60, .int .i64 30, .int .i64 32, .slice (some ⟨q0, 0, none⟩) 5 5, .slice none 0 0, .slice (some ⟨r0, 0, none⟩) 1 2] 40 (0, 0)) from by rw [e0]; exact k0)
 have FQ0 := hid (hb.heap (HB8.out.heap (HB7.out.heap (HB6.out.heap (HB5.out.heap (HB4.out.heap (HB3.out.heap (HB2.out.heap (HB1.out.heap HQ0.out)))))))))
 have FR0 := hid (hb.heap (HB8.out.heap (HB7.out.heap (HB6.out.heap (HB5.out.heap (HB4.out.heap (HB3.out.heap (HB2.out.heap (HB1.out.heap HR0.out)))))))))
 have FP1 := hid (show x58.heap[P1]? = some (.cells #[.int .i64 4, .int .i64 10, .int .i64 50, .int .i64 20, .int .i64 60, .int .i64 30, .int .i64 32, .slice (some ⟨q1, 0, none⟩) 5 5, .slice none 0 0, .slice (some ⟨r1, 0, none⟩) 1 2] 40 (0, 0)) from by rw [e1, e0]; exact k1)
 have FQ1 := hid (hb.heap (HB8.out.heap (HB7.out.heap (HB6.out.heap (HB5.out.heap (HB4.out.heap (HB3.out.heap (HB2.out.heap HQ1.out))))))))
 have FR1 := hid (hb.heap (HB8.out.heap (HB7.out.heap (HB6.out.heap (HB5.out.heap (HB4.out.heap (HB3.out.heap (HB2.out.heap HR1.out))))))))
 have FP2 := hid (show x58.heap[P2]? = some (.cells #[.int .i64 4, .int .i64 10, .int .i64 50, .int .i64 20, .int .i64 60, .int .i64 30, .int .i64 32, .slice (some ⟨q2, 0, none⟩) 5 5, .slice none 0 0, .slice (some ⟨r2, 0, none⟩) 1 2] 40 (0, 0)) from by rw [e2, e1, e0]; exact k2)
 have FQ2 := hid (hb.heap (HB8.out.heap (HB7.out.heap (HB6.out.heap (HB5.out.heap (HB4.out.heap (HB3.out.heap HQ2.out)))))))
 have FR2 := hid (hb.heap (HB8.out.heap (HB7.out.heap (HB6.out.heap (HB5.out.heap (HB4.out.heap (HB3.out.heap HR2.out)))))))
 have FP3 := hid (show x58.heap[P3]? = some (.cells #[.int .i64 4, .int .i64 10, .int .i64 50, .int .i64 20, .int .i64 60, .int .i64 30, .int .i64 32, .slice (some ⟨q3, 0, none⟩) 5 5, .slice none 0 0, .slice (some ⟨r3, 0, none⟩) 1 2] 40 (0, 0)) from by rw [e3, e2, e1, e0]; exact k3)
 have FQ3 := hid (hb.heap (HB8.out.heap (HB7.out.heap (HB6.out.heap (HB5.out.heap (HB4.out.heap HQ3.out))))))
 have FR3 := hid (hb.heap (HB8.out.heap (HB7.out.heap (HB6.out.heap (HB5.out.heap (HB4.out.heap HR3.out))))))
 have FP4 := hid (show x58.heap[P4]? = some (.cells #[.int .i64 4, .int .i64 10, .int .i64 50, .int .i64 20, .int .i64 60, .int .i64 30, .int .i64 32, .slice (some ⟨q4, 0, none⟩) 5 5, .slice none 0 0, .slice (some ⟨r4, 0, none⟩) 1 2] 40 (0, 0)) from by rw [e4, e3, e2, e1, e0]; exact k4)
 have FQ4 := hid (hb.heap (HB8.out.heap (HB7.out.heap (HB6.out.heap (HB5.out.heap HQ4.out)))))
 have FR4 := hid (hb.heap (HB8.out.heap (HB7.out.heap (HB6.out.heap (HB5.out.heap HR4.out)))))
 have FP5 := hid (show x58.heap[P5]? = some (.cells #[.int .i64 4, .int .i64 10, .int .i64 50, .int .i64 20, .int .i64 60, .int .i64 30, .int .i64 32, .slice (some ⟨q5, 0, none⟩) 5 5, .slice none 0 0, .slice (some ⟨r5, 0, none⟩) 1 2] 40 (0, 0)) from by rw [e5, e4, e3, e2, e1, e0]; exact k5)
 have FQ5 := hid (hb.heap (HB8.out.heap (HB7.out.heap (HB6.out.heap HQ5.out))))
 have FR5 := hid (hb.heap (HB8.out.heap (HB7.out.heap (HB6.out.heap HR5.out))))
 have FP6 := hid (show x58.heap[P6]? = some (.cells #[.int .i64 4, .int .i64 10, .int .i64 50, .int .i64 20, .int .i64 60, .int .i64 30, .int .i64 32, .slice (some ⟨q6, 0, none⟩) 5 5, .slice none 0 0, .slice (some ⟨r6, 0, none⟩) 1 2] 40 (0, 0)) from by rw [e6, e5, e4, e3, e2, e1, e0]; exact k6)
 have FQ6 := hid (hb.heap (HB8.out.heap (HB7.out.heap HQ6.out)))
 have FR6 := hid (hb.heap (HB8.out.heap (HB7.out.heap HR6.out)))
 have FP7 := hid (show x58.heap[P7]? = some (.cells #[.int .i64 4, .int .i64 10, .int .i64 50, .int .i64 20, .int .i64 60, .int .i64 30, .int .i64 32, .slice (some ⟨q7, 0, none⟩) 5 5, .slice none 0 0, .slice (some ⟨r7, 0, none⟩) 1 2] 40 (0, 0)) from by rw [e7, e6, e5, e4, e3, e2, e1, e0]; exact k7)
 have FQ7 := hid (hb.heap (HB8.out.heap HQ7.out))
 have FR7 := hid (hb.heap (HB8.out.heap HR7.out))
 have FP8 := hid (show x58.heap[P8]? = some (.cells #[.int .i64 4, .int .i64 10, .int .i64 50, .int .i64 20, .int .i64 60, .int .i64 30, .int .i64 32, .slice (some ⟨q8, 0, none⟩) 5 5, .slice none 0 0, .slice (some ⟨r8, 0, none⟩) 1 2] 40 (0, 0)) from by rw [e8, e7, e6, e5, e4, e3, e2, e1, e0]; exact k8)
 have FQ8 := hid (hb.heap HQ8.out)
 have FR8 := hid (hb.heap HR8.out)
 rw [← e0, ← e1, ← e2, ← e3, ← e4, ← e5, ← e6, ← e7, ← e8]
 have HLT := hid (And.intro h00 (And.intro hx0 (And.intro hq0 (And.intro hr0 (And.intro hn0 (And.intro u0 (And.intro v0 (And.intro hq1 (And.intro hr1 (And.intro hn1 (And.intro u1 (And.intro v1 (And.intro hq2 (And.intro hr2 (And.intro hn2 (And.intro u2 (And.intro v2 (And.intro hq3 (And.intro hr3 (And.intro hn3 (And.intro u3 (And.intro v3 (And.intro hq4 (And.intro hr4 (And.intro hn4 (And.intro u4 (And.intro v4 (And.intro hq5 (And.intro hr5 (And.intro hn5 (And.intro u5 (And.intro v5 (And.intro hq6 (And.intro hr6 (And.intro hn6 (And.intro u6 (And.intro v6 (And.intro hq7 (And.intro hr7 (And.intro hn7 (And.intro u7 (And.intro v7 (And.intro hq8 (And.intro hr8 (And.intro hn8 (And.intro u8 (And.intro v8 (And.intro e0 (And.intro e1 (And.intro e2 (And.intro e3 (And.intro e4 (And.intro e5 (And.intro e6 (And.intro e7 (e8))))))))))))))))))))))))))))))))))))))))))))))))))))))))
 clear hb h00 hx0 hq0 hr0 hn0 u0 v0 hq1 hr1 hn1 u1 v1 hq2 hr2 hn2 u2 v2 hq3 hr3 hn3 u3 v3 hq4 hr4 hn4 u4 v4 hq5 hr5 hn5 u5 v5 hq6 hr6 hn6 u6 v6 hq7 hr7 hn7 u7 v7 hq8 hr8 hn8 u8 v8 e0 e1 e2 e3 e4 e5 e6 e7 e8 k0 k1 k2 k3 k4 k5 k6 k7 k8 HQ0 HR0 HB0 HQ1 HR1 HB1 HQ2 HR2 HB2 HQ3 HR3 HB3 HQ4 HR4 HB4 HQ5 HR5 HB5 HQ6 HR6 HB6 HQ7 HR7 HB7 HQ8 HR8 HB8
 have hf := hid FP0.out
 obtain ⟨y0, y1, y2, y3, y4, y5, y6, y7, y8, y9⟩ := cells10 hf.out
 obtain ⟨f0, f1, f2, f3, f4, f5, f6, f7, f8, f9⟩ := frz10 hf.out
 go_upto_region 24 with fail
 generalize hWA : World.setCell x58 _ _ = x59
 have G0 := hid (show x59.heap[P0]? = some (.cells #[.int .i64 10, .int .i64 10, .int .i64 50, .int .i64 20, .int .i64 60, .int .i64 30, .int .i64 32, .slice (some ⟨q0, 0, none⟩) 5 5, .slice none 0 0, .slice (some ⟨r0, 0, none⟩) 1 2] 40 (0, 0)) from by rw [← hWA, set_heap_same hf.out]; rfl)
 have HK59 := hid (show ∀ j o, j ≠ P0 → x58.heap[j]? = some o → x59.heap[j]? = some o from fun j o h1 h2 => by rw [← hWA]; exact set_heap h2 h1)
 have HE59 := hid (show Ev x0 x59 from by rw [← hWA]; exact Ev.setCell (p := ⟨P0, 0, none⟩) HE58.out (show x0.heap.size ≤ P0 from (by have := HLT.out; omega)) _)
 clear hWA HE58 hf y0 y1 y2 y3 y4 y5 y6 y7 y8 y9 f0 f1 f2 f3 f4 f5 f6 f7 f8 f9
 have hf := hid (HK59.out P1 _ (show P1 ≠ P0 from (by have := HLT.out; omega)) FP1.out)
 obtain ⟨y0, y1, y2, y3, y4, y5, y6, y7, y8, y9⟩ := cells10 hf.out
 obtain ⟨f0, f1, f2, f3, f4, f5, f6, f7, f8, f9⟩ := frz10 hf.out
 go_upto_region 25 with fail
 generalize hWA : World.setCell x59 _ _ = x60
 have G1 := hid (show x60.heap[P1]? = some (.cells #[.int .i64 4, .int .i64 21, .int .i64 50, .int .i64 20, .int .i64 60, .int .i64 30, .int .i64 32, .slice (some ⟨q1, 0, none⟩) 5 5, .slice none 0 0, .slice (some ⟨r1, 0, none⟩) 1 2] 40 (0, 0)) from by rw [← hWA, set_heap_same hf.out]; rfl)
 have HK60 := hid (show ∀ j o, j ≠ P1 → x59.heap[j]? = some o → x60.heap[j]? = some o from fun j o h1 h2 => by rw [← hWA]; exact set_heap h2 h1)
 have HE60 := hid (show Ev x0 x60 from by rw [← hWA]; exact Ev.setCell (p := ⟨P1, 1, none⟩) HE59.out (show x0.heap.size ≤ P1 from (by have := HLT.out; omega)) _)
 clear hWA HE59 hf y0 y1 y2 y3 y4 y5 y6 y7 y8 y9 f0 f1 f2 f3 f4 f5 f6 f7 f8 f9
 have hf := hid (HK60.out P2 _ (show P2 ≠ P1 from (by have := HLT.out; omega)) (HK59.out P2 _ (show P2 ≠ P0 from (by have := HLT.out; omega)) FP2.out))
 obtain ⟨y0, y1, y2, y3, y4, y5, y6, y7, y8, y9⟩ := cells10 hf.out
 obtain ⟨f0, f1, f2, f3, f4, f5, f6, f7, f8, f9⟩ := frz10 hf.out
 go_upto_region 26 with fail
 generalize hWA : World.setCell x60 _ _ = x61
 have G2 := hid (show x61.heap[P2]? = some (.cells #[.int .i64 4, .int .i64 10, .int .i64 101, .int .i64 20, .int .i64 60, .int .i64 30, .int .i64 32, .slice (some ⟨q2, 0, none⟩) 5 5, .slice none 0 0, .slice (some ⟨r2, 0, none⟩) 1 2] 40 (0, 0)) from by rw [← hWA, set_heap_same hf.out]; rfl)
 have HK61 := hid (show ∀ j o, j ≠ P2 → x60.heap[j]? = some o → x61.heap[j]? = some o from fun j o h1 h2 => by rw [← hWA]; exact set_heap h2 h1)
 have HE61 := hid (show Ev x0 x61 from by rw [← hWA]; exact Ev.setCell (p := ⟨P2, 2, none⟩) HE60.out (show x0.heap.size ≤ P2 from (by have := HLT.out; omega)) _)
 clear hWA HE60 hf y0 y1 y2 y3 y4 y5 y6 y7 y8 y9 f0 f1 f2 f3 f4 f5 f6 f7 f8 f9
 have hf := hid (HK61.out P3 _ (show P3 ≠ P2 from (by have := HLT.out; omega)) (HK60.out P3 _ (show P3 ≠ P1 from (by have := HLT.out; omega)) (HK59.out P3 _ (show P3 ≠ P0 from (by have := HLT.out; omega)) FP3.out)))
 obtain ⟨y0, y1, y2, y3, y4, y5, y6, y7, y8, y9⟩ := cells10 hf.out
 obtain ⟨f0, f1, f2, f3, f4, f5, f6, f7, f8, f9⟩ := frz10 hf.out
 go_upto_region 27 with fail
 generalize hWA : World.setCell x61 _ _ = x62
 have G3 := hid (show x62.heap[P3]? = some (.cells #[.int .i64 4, .int .i64 10, .int .i64 50, .int .i64 61, .int .i64 60, .int .i64 30, .int .i64 32, .slice (some ⟨q3, 0, none⟩) 5 5, .slice none 0 0, .slice (some ⟨r3, 0, none⟩) 1 2] 40 (0, 0)) from by rw [← hWA, set_heap_same hf.out]; rfl)
 have HK62 := hid (show ∀ j o, j ≠ P3 → x61.heap[j]? = some o → x62.heap[j]? = some o from fun j o h1 h2 => by rw [← hWA]; exact set_heap h2 h1)
 have HE62 := hid (show Ev x0 x62 from by rw [← hWA]; exact Ev.setCell (p := ⟨P3, 3, none⟩) HE61.out (show x0.heap.size ≤ P3 from (by have := HLT.out; omega)) _)
 clear hWA HE61 hf y0 y1 y2 y3 y4 y5 y6 y7 y8 y9 f0 f1 f2 f3 f4 f5 f6 f7 f8 f9
 have hf := hid (HK62.out P4 _ (show P4 ≠ P3 from (by have := HLT.out; omega)) (HK61.out P4 _ (show P4 ≠ P2 from (by have := HLT.out; omega)) (HK60.out P4 _ (show P4 ≠ P1 from (by have := HLT.out; omega)) (HK59.out P4 _ (show P4 ≠ P0 from (by have := HLT.out; omega)) FP4.out))))
 obtain ⟨y0, y1, y2, y3, y4, y5, y6, y7, y8, y9⟩ := cells10 hf.out
 obtain ⟨f0, f1, f2, f3, f4, f5, f6, f7, f8, f9⟩ := frz10 hf.out
 go_upto_region 28 with fail
 generalize hWA : World.setCell x62 _ _ = x63
 have G4 := hid (show x63.heap[P4]? = some (.cells #[.int .i64 4, .int .i64 10, .int .i64 50, .int .i64 20, .int .i64 60, .int .i64 30, .int .i64 32, .slice (some ⟨q4, 0, none⟩) 4 5, .slice none 0 0, .slice (some ⟨r4, 0, none⟩) 1 2] 40 (0, 0)) from by rw [← hWA, set_heap_same hf.out]; rfl)
 have HK63 := hid (show ∀ j o, j ≠ P4 → x62.heap[j]? = some o → x63.heap[j]? = some o from fun j o h1 h2 => by rw [← hWA]; exact set_heap h2 h1)
 have HE63 := hid (show Ev x0 x63 from by rw [← hWA]; exact Ev.setCell (p := ⟨P4, 7, none⟩) HE62.out (show x0.heap.size ≤ P4 from (by have := HLT.out; omega)) _)
 clear hWA HE62 hf y0 y1 y2 y3 y4 y5 y6 y7 y8 y9 f0 f1 f2 f3 f4 f5 f6 f7 f8 f9
 have hf := hid (HK63.out P5 _ (show P5 ≠ P4 from (by have := HLT.out; omega)) (HK62.out P5 _ (show P5 ≠ P3 from (by have := HLT.out; omega)) (HK61.out P5 _ (show P5 ≠ P2 from (by have := HLT.out; omega)) (HK60.out P5 _ (show P5 ≠ P1 from (by have := HLT.out; omega)) (HK59.out P5 _ (show P5 ≠ P0 from (by have := HLT.out; omega)) FP5.out)))))
 have hlb := heap_lt hf.out
 have hl8 := heap_lt (HK63.out P8 _ (show P8 ≠ P4 from (by have := HLT.out; omega)) (HK62.out P8 _ (show P8 ≠ P3 from (by have := HLT.out; omega)) (HK61.out P8 _ (show P8 ≠ P2 from (by have := HLT.out; omega)) (HK60.out P8 _ (show P8 ≠ P1 from (by have := HLT.out; omega)) (HK59.out P8 _ (show P8 ≠ P0 from (by have := HLT.out; omega)) FP8.out)))))
 obtain ⟨y0, y1, y2, y3, y4, y5, y6, y7, y8, y9⟩ := cells10 hf.out
 obtain ⟨f0, f1, f2, f3, f4, f5, f6, f7, f8, f9⟩ := frz10 hf.out
 go_upto_region 29 with fail
 generalize hWA : World.alloc (World.setCell x63 _ _) _ = x64
 have G5 := hid (show x64.heap[P5]? = some (.cells #[.int .i64 4, .int .i64 10, .int .i64 50, .int .i64 20, .int .i64 60, .int .i64 30, .int .i64 32, .slice (some ⟨q5, 0, none⟩) 5 5, .slice (some ⟨x63.heap.size, 0, none⟩) 2 2, .slice (some ⟨r5, 0, none⟩) 1 2] 40 (0, 0)) from by rw [← hWA]; exact alloc_keep (by rw [set_heap_same hf.out]; rfl))
 have KT := hid (show x64.heap[x63.heap.size]? = some (.cells #[.int .i64 1, .int .i64 1] 3 (0, 0)) from by rw [← hWA]; exact heap_at _ _ (by simp))
 have HK64 := hid (show ∀ j o, j ≠ P5 → x63.heap[j]? = some o → x64.heap[j]? = some o from fun j o h1 h2 => by rw [← hWA]; exact alloc_keep (set_heap h2 h1))
 have HE64 := hid (show Ev x0 x64 from by rw [← hWA]; exact Ev.alloc (Ev.setCell (p := ⟨P5, 8, none⟩) HE63.out (show x0.heap.size ≤ P5 from (by have := HLT.out; omega)) _) _)
 clear hWA
 obtain ⟨TB, eB⟩ : ∃ p, p = x63.heap.size := ⟨_, rfl⟩
 rw [← eB] at G5 KT hl8 ⊢
 replace HLT := hid (And.intro hl8 HLT.out)
 clear eB HE63 hf hlb hl8 y0 y1 y2 y3 y4 y5 y6 y7 y8 y9 f0 f1 f2 f3 f4 f5 f6 f7 f8 f9
 have hf := hid (HK64.out P6 _ (show P6 ≠ P5 from (by have := HLT.out; omega)) (HK63.out P6 _ (show P6 ≠ P4 from (by have := HLT.out; omega)) (HK62.out P6 _ (show P6 ≠ P3 from (by have := HLT.out; omega)) (HK61.out P6 _ (show P6 ≠ P2 from (by have := HLT.out; omega)) (HK60.out P6 _ (show P6 ≠ P1 from (by have := HLT.out; omega)) (HK59.out P6 _ (show P6 ≠ P0 from (by have := HLT.out; omega)) FP6.out))))))
 have hr := hid (HK64.out r6 _ (show r6 ≠ P5 from (by have := HLT.out; omega)) (HK63.out r6 _ (show r6 ≠ P4 from (by have := HLT.out; omega)) (HK62.out r6 _ (show r6 ≠ P3 from (by have := HLT.out; omega)) (HK61.out r6 _ (show r6 ≠ P2 from (by have := HLT.out; omega)) (HK60.out r6 _ (show r6 ≠ P1 from (by have := HLT.out; omega)) (HK59.out r6 _ (show r6 ≠ P0 from (by have := HLT.out; omega)) FR6.out))))))
 obtain ⟨y0, y1, y2, y3, y4, y5, y6, y7, y8, y9⟩ := cells10 hf.out
 have c2 := cell_in hr.out 2
 have f2 := frozen_in hr.out 2
 go_upto_region 30 with fail
 generalize hWA : World.setCell x64 _ _ = x65
 have KR := hid (show x65.heap[r6]? = some (.cells #[.int .i64 1, .int .i64 53, .int .i64 51, .int .i64 3, .int .i64 70, .int .i64 1] 79 (0, 0)) from by rw [← hWA, set_heap_same hr.out]; rfl)
 have HK65 := hid (show ∀ j o, j ≠ r6 → x64.heap[j]? = some o → x65.heap[j]? = some o from fun j o h1 h2 => by rw [← hWA]; exact set_heap h2 h1)
 have HE65 := hid (show Ev x0 x65 from by rw [← hWA]; exact Ev.setCell (p := ⟨r6, 2, none⟩) HE64.out (show x0.heap.size ≤ r6 from (by have := HLT.out; omega)) _)
 clear hWA HE64 hf hr c2 f2 y0 y1 y2 y3 y4 y5 y6 y7 y8 y9
 have hf := hid (HK65.out P7 _ (show P7 ≠ r6 from (by have := HLT.out; omega)) (HK64.out P7 _ (show P7 ≠ P5 from (by have := HLT.out; omega)) (HK63.out P7 _ (show P7 ≠ P4 from (by have := HLT.out; omega)) (HK62.out P7 _ (show P7 ≠ P3 from (by have := HLT.out; omega)) (HK61.out P7 _ (show P7 ≠ P2 from (by have := HLT.out; omega)) (HK60.out P7 _ (show P7 ≠ P1 from (by have := HLT.out; omega)) (HK59.out P7 _ (show P7 ≠ P0 from (by have := HLT.out; omega)) FP7.out)))))))
 have hlb := heap_lt hf.out
 have hl8 := heap_lt (HK65.out TB _ (show TB ≠ r6 from (by have := HLT.out; omega)) KT.out)
 obtain ⟨y0, y1, y2, y3, y4, y5, y6, y7, y8, y9⟩ := cells10 hf.out
 obtain ⟨f0, f1, f2, f3, f4, f5, f6, f7, f8, f9⟩ := frz10 hf.out
 go_upto_region 31 with fail
 generalize hWA : World.alloc (World.setCell x65 _ _) _ = x66
 have G7 := hid (show x66.heap[P7]? = some (.cells #[.int .i64 4, .int .i64 10, .int .i64 50, .int .i64 20, .int .i64 60, .int .i64 30, .int .i64 32, .slice (some ⟨q7, 0, none⟩) 5 5, .slice none 0 0, .slice (some ⟨x65.heap.size, 0, none⟩) 6 6] 40 (0, 0)) from by rw [← hWA]; exact alloc_keep (by rw [set_heap_same hf.out]; rfl))
 have KM := hid (show x66.heap[x65.heap.size]? = some (.cells zs 79 (0, 0)) from by rw [← hWA]; exact heap_at _ _ (by simp))
 have HK66 := hid (show ∀ j o, j ≠ P7 → x65.heap[j]? = some o → x66.heap[j]? = some o from fun j o h1 h2 => by rw [← hWA]; exact alloc_keep (set_heap h2 h1))
 have HE66 := hid (show Ev x0 x66 from by rw [← hWA]; exact Ev.alloc (Ev.setCell (p := ⟨P7, 9, none⟩) HE65.out (show x0.heap.size ≤ P7 from (by have := HLT.out; omega)) _) _)
 clear hWA
 obtain ⟨MB, eB⟩ : ∃ p, p = x65.heap.size := ⟨_, rfl⟩
 rw [← eB] at G7 KM hl8 ⊢
 replace HLT := hid (And.intro hl8 HLT.out)
 clear eB HE65 hf hlb hl8 y0 y1 y2 y3 y4 y5 y6 y7 y8 y9 f0 f1 f2 f3 f4 f5 f6 f7 f8 f9
 have hf := hid (HK66.out P8 _ (show P8 ≠ P7 from (by have := HLT.out; omega)) (HK65.out P8 _ (show P8 ≠ r6 from (by have := HLT.out; omega)) (HK64.out P8 _ (show P8 ≠ P5 from (by have := HLT.out; omega)) (HK63.out P8 _ (show P8 ≠ P4 from (by have := HLT.out; omega)) (HK62.out P8 _ (show P8 ≠ P3 from (by have := HLT.out; omega)) (HK61.out P8 _ (show P8 ≠ P2 from (by have := HLT.out; omega)) (HK60.out P8 _ (show P8 ≠ P1 from (by have := HLT.out; omega)) (HK59.out P8 _ (show P8 ≠ P0 from (by have := HLT.out; omega)) FP8.out))))))))
 have hq9 := hid (HK66.out q8 _ (show q8 ≠ P7 from (by have := HLT.out; omega)) (HK65.out q8 _ (show q8 ≠ r6 from (by have := HLT.out; omega)) (HK64.out q8 _ (show q8 ≠ P5 from (by have := HLT.out; omega)) (HK63.out q8 _ (show q8 ≠ P4 from (by have := HLT.out; omega)) (HK62.out q8 _ (show q8 ≠ P3 from (by have := HLT.out; omega)) (HK61.out q8 _ (show q8 ≠ P2 from (by have := HLT.out; omega)) (HK60.out q8 _ (show q8 ≠ P1 from (by have := HLT.out; omega)) (HK59.out q8 _ (show q8 ≠ P0 from (by have := HLT.out; omega)) FQ8.out))))))))
 have n1 := hid (show q8 ≠ P8 from (by have := HLT.out; omega))
 have n2 := hid (show P8 ≠ q8 from (by have := HLT.out; omega))
 have n3 := hid (show x0.heap.size ≤ P8 from (by have := HLT.out; omega))
 have n4 := hid (show x0.heap.size ≤ q8 from (by have := HLT.out; omega))
 have HSE : Hid (∀ w', Ev x66 w' → w'.cell? ⟨P8, 7, none⟩ = some (.slice (some ⟨q8, 0, none⟩) 5 5)) := hid (fun w' h => cell_in (h.heap hf.out) 7)
 refine wp_region_held_drew (S := fun w' => w'.cell? ⟨P8, 7, none⟩ = some (.slice (some ⟨q8, 0, none⟩) 5 5)) (by kernel_rfl) (cell_in hf.out 7) (fun hHeld => ?_)
 refine tkH 0 (some 209) ?_
 (try simp only [Act.put, sA, sB, sC])
 refine tkH 1 (some 210) ?_
 (try simp only [Act.put, sA, sB, sC])
 refine wpAnyH_one (i := 2) rfl (by kernel_rfl) (by rfl) (fun K hK => ?_)
 go_simp
 refine (between_c 0 99 _).mono ?_
 rintro e z2 ⟨rfl, hb2⟩
 have hy2 : Ev x66 z2 := Ev.trans (Ev.drew (Ev.refl _)) hb2
 refine hK.out _ _ (HSE.out _ hy2) (fun hHeld => ?_)
 clear hK K
 (try simp only [Act.put, sA, sB, sC])
 refine tkH 4 (some 213) ?_
 (try simp only [Act.put, sA, sB, sC])
 refine wpAnyH_one (i := 3) rfl (by kernel_rfl) (by rfl) (fun K hK => ?_)
 go_simp
 refine (between_c 0 9 _).mono ?_
 rintro e z3 ⟨rfl, hb3⟩
 have hy3 : Ev x66 z3 := Ev.trans hy2 hb3
 refine hK.out _ _ (HSE.out _ hy3) (fun hHeld => ?_)
 clear hK K
 (try simp only [Act.put, sA, sB, sC])
 refine wpAnyH_one (i := 5) rfl (by kernel_rfl) (by rfl) (fun K hK => ?_)
 have hf5 := hid (hy3.heap hf.out)
 obtain ⟨y0, y1, y2, y3, y4, y5, y6, y7, y8, y9⟩ := cells10 hf5.out
 obtain ⟨f0, f1, f2, f3, f4, f5, f6, f7, f8, f9⟩ := frz10 hf5.out
 go_simp
 generalize hWA : World.setCell (World.setCell z3 _ _) _ _ = X5
 have G8a := hid (show X5.heap[P8]? = some (.cells #[.int .i64 4, .int .i64 10, .int .i64 50, .int .i64 20, .int .i64 60, .int .i64 0, .int .i64 99, .slice (some ⟨q8, 0, none⟩) 5 5, .slice none 0 0, .slice (some ⟨r8, 0, none⟩) 1 2] 40 (0, 0)) from by rw [← hWA, set_heap_same (set_heap_same hf5.out)]; rfl)
 have HK5 := hid (show ∀ j o, j ≠ P8 → z3.heap[j]? = some o → X5.heap[j]? = some o from fun j o h1 h2 => by rw [← hWA]; exact set_heap (set_heap h2 h1) h1)
 have HEX := hid (show Ev x0 X5 from by rw [← hWA]; exact Ev.setCell (p := ⟨P8, 6, none⟩) (Ev.setCell (p := ⟨P8, 5, none⟩) (HE66.out.trans hy3) n3.out _) n3.out _)
 clear hWA hf5 y0 y1 y2 y3 y4 y5 y6 y7 y8 y9 f0 f1 f2 f3 f4 f5 f6 f7 f8 f9
 refine hK.out _ _ (cell_in G8a.out 7) (fun hHeld => ?_)
 clear hK K
 (try simp only [Act.put, sA, sB, sC])
 refine tkH 6 (some 214) ?_
 (try simp only [Act.put, sA, sB, sC])
 refine wpAnyH_one (i := 7) rfl (by kernel_rfl) (by rfl) (fun K hK => ?_)
 have hq5 := hid (HK5.out q8 _ n1.out (hy3.heap hq9.out))
 obtain ⟨y0, y1, y2, y3, y4, y5, y6, y7, y8, y9⟩ := cells10 hq5.out
 obtain ⟨f0, f1, f2, f3, f4, f5, f6, f7, f8, f9⟩ := frz10 hq5.out
 go_simp
 generalize hWA : World.setCell (World.setCell X5 _ _) _ _ = X7
 have KQ := hid (show X7.heap[q8]? = some (.cells #[.int .i64 10, .int .i64 12, .int .i64 10, .int .i64 10, .int .i64 0, .int .i64 9, .int .i64 8, .int .i64 9, .int .i64 10, .int .i64 10] 36 (0, 0)) from by rw [← hWA, set_heap_same (set_heap_same hq5.out)]; rfl)
 have HK7 := hid (show ∀ j o, j ≠ q8 → X5.heap[j]? = some o → X7.heap[j]? = some o from fun j o h1 h2 => by rw [← hWA]; exact set_heap (set_heap h2 h1) h1)
 have HEX7 := hid (show Ev x0 X7 from by rw [← hWA]; exact Ev.setCell (p := ⟨q8, 5, none⟩) (Ev.setCell (p := ⟨q8, 4, none⟩) HEX.out n4.out _) n4.out _)
 clear hWA hq5 y0 y1 y2 y3 y4 y5 y6 y7 y8 y9 f0 f1 f2 f3 f4 f5 f6 f7 f8 f9
 refine hK.out _ _ (cell_in (HK7.out P8 _ n2.out G8a.out) 7) (fun hHeld => ?_)
 clear hK K
 (try simp only [Act.put, sA, sB, sC])
 refine wpAnyH_done (by kernel_rfl) ?_ _
 obtain ⟨x67, hx⟩ : ∃ x, x = X7 := ⟨_, rfl⟩
 subst hx
 have HK67 := hid (fun (j : Nat) o (h1 : j ≠ P8) (h2 : j ≠ q8) (h3 : x66.heap[j]? = some o) => HK7.out j o h2 (HK5.out j o h1 (hy3.heap h3)))
 have G8 := hid (HK7.out P8 _ n2.out G8a.out)
 have HE67 := hid HEX7.out
 clear HK7 HK5 G8a HEX HEX7 HSE hf hq9 hHeld n1 n2 n3 n4 hb2 hb3 hy2 hy3
 have HG0 := hid (HK67.out P0 _ (show P0 ≠ P8 from (by have := HLT.out; omega)) (show P0 ≠ q8 from (by have := HLT.out; omega)) (HK66.out P0 _ (show P0 ≠ P7 from (by have := HLT.out; omega)) (HK65.out P0 _ (show P0 ≠ r6 from (by have := HLT.out; omega)) (HK64.out P0 _ (show P0 ≠ P5 from (by have := HLT.out; omega)) (HK63.out P0 _ (show P0 ≠ P4 from (by have := HLT.out; omega)) (HK62.out P0 _ (show P0 ≠ P3 from (by have := HLT.out; omega)) (HK61.out P0 _ (show P0 ≠ P2 from (by have := HLT.out; omega)) (HK60.out P0 _ (show P0 ≠ P1 from (by have := HLT.out; omega)) G0.out))))))))
 have HG1 := hid (HK67.out P1 _ (show P1 ≠ P8 from (by have := HLT.out; omega)) (show P1 ≠ q8 from (by have := HLT.out; omega)) (HK66.out P1 _ (show P1 ≠ P7 from (by have := HLT.out; omega)) (HK65.out P1 _ (show P1 ≠ r6 from (by have := HLT.out; omega)) (HK64.out P1 _ (show P1 ≠ P5 from (by have := HLT.out; omega)) (HK63.out P1 _ (show P1 ≠ P4 from (by have := HLT.out; omega)) (HK62.out P1 _ (show P1 ≠ P3 from (by have := HLT.out; omega)) (HK61.out P1 _ (show P1 ≠ P2 from (by have := HLT.out; omega)) G1.out)))))))
 have HG2 := hid (HK67.out P2 _ (show P2 ≠ P8 from (by have := HLT.out; omega)) (show P2 ≠ q8 from (by have := HLT.out; omega)) (HK66.out P2 _ (show P2 ≠ P7 from (by have := HLT.out; omega)) (HK65.out P2 _ (show P2 ≠ r6 from (by have := HLT.out; omega)) (HK64.out P2 _ (show P2 ≠ P5 from (by have := HLT.out; omega)) (HK63.out P2 _ (show P2 ≠ P4 from (by have := HLT.out; omega)) (HK62.out P2 _ (show P2 ≠ P3 from (by have := HLT.out; omega)) G2.out))))))
 have HG3 := hid (HK67.out P3 _ (show P3 ≠ P8 from (by have := HLT.out; omega)) (show P3 ≠ q8 from (by have := HLT.out; omega)) (HK66.out P3 _ (show P3 ≠ P7 from (by have := HLT.out; omega)) (HK65.out P3 _ (show P3 ≠ r6 from (by have := HLT.out; omega)) (HK64.out P3 _ (show P3 ≠ P5 from (by have := HLT.out; omega)) (HK63.out P3 _ (show P3 ≠ P4 from (by have := HLT.out; omega)) G3.out)))))
 have HG4 := hid (HK67.out P4 _ (show P4 ≠ P8 from (by have := HLT.out; omega)) (show P4 ≠ q8 from (by have := HLT.out; omega)) (HK66.out P4 _ (show P4 ≠ P7 from (by have := HLT.out; omega)) (HK65.out P4 _ (show P4 ≠ r6 from (by have := HLT.out; omega)) (HK64.out P4 _ (show P4 ≠ P5 from (by have := HLT.out; omega)) G4.out))))
 have HG5 := hid (HK67.out P5 _ (show P5 ≠ P8 from (by have := HLT.out; omega)) (show P5 ≠ q8 from (by have := HLT.out; omega)) (HK66.out P5 _ (show P5 ≠ P7 from (by have := HLT.out; omega)) (HK65.out P5 _ (show P5 ≠ r6 from (by have := HLT.out; omega)) G5.out)))
 have HG6 := hid (HK67.out P6 _ (show P6 ≠ P8 from (by have := HLT.out; omega)) (show P6 ≠ q8 from (by have := HLT.out; omega)) (HK66.out P6 _ (show P6 ≠ P7 from (by have := HLT.out; omega)) (HK65.out P6 _ (show P6 ≠ r6 from (by have := HLT.out; omega)) (HK64.out P6 _ (show P6 ≠ P5 from (by have := HLT.out; omega)) (HK63.out P6 _ (show P6 ≠ P4 from (by have := HLT.out; omega)) (HK62.out P6 _ (show P6 ≠ P3 from (by have := HLT.out; omega)) (HK61.out P6 _ (show P6 ≠ P2 from (by have := HLT.out; omega)) (HK60.out P6 _ (show P6 ≠ P1 from (by have := HLT.out; omega)) (HK59.out P6 _ (show P6 ≠ P0 from (by have := HLT.out; omega)) FP6.out)))))))))
 have HG7 := hid (HK67.out P7 _ (show P7 ≠ P8 from (by have := HLT.out; omega)) (show P7 ≠ q8 from (by have := HLT.out; omega)) G7.out)
 have HG8 := hid G8.out
 have q_ := hid (HK67.out q0 _ (show q0 ≠ P8 from (by have := HLT.out; omega)) (show q0 ≠ q8 from (by have := HLT.out; omega)) (HK66.out q0 _ (show q0 ≠ P7 from (by have := HLT.out; omega)) (HK65.out q0 _ (show q0 ≠ r6 from (by have := HLT.out; omega)) (HK64.out q0 _ (show q0 ≠ P5 from (by have := HLT.out; omega)) (HK63.out q0 _ (show q0 ≠ P4 from (by have := HLT.out; omega)) (HK62.out q0 _ (show q0 ≠ P3 from (by have := HLT.out; omega)) (HK61.out q0 _ (show q0 ≠ P2 from (by have := HLT.out; omega)) (HK60.out q0 _ (show q0 ≠ P1 from (by have := HLT.out; omega)) (HK59.out q0 _ (show q0 ≠ P0 from (by have := HLT.out; omega)) FQ0.out)))))))))
 have r_ := hid (HK67.out r0 _ (show r0 ≠ P8 from (by have := HLT.out; omega)) (show r0 ≠ q8 from (by have := HLT.out; omega)) (HK66.out r0 _ (show r0 ≠ P7 from (by have := HLT.out; omega)) (HK65.out r0 _ (show r0 ≠ r6 from (by have := HLT.out; omega)) (HK64.out r0 _ (show r0 ≠ P5 from (by have := HLT.out; omega)) (HK63.out r0 _ (show r0 ≠ P4 from (by have := HLT.out; omega)) (HK62.out r0 _ (show r0 ≠ P3 from (by have := HLT.out; omega)) (HK61.out r0 _ (show r0 ≠ P2 from (by have := HLT.out; omega)) (HK60.out r0 _ (show r0 ≠ P1 from (by have := HLT.out; omega)) (HK59.out r0 _ (show r0 ≠ P0 from (by have := HLT.out; omega)) FR0.out)))))))))
 have HCH0 := hid (fun W (hE : Ev x67 W) => nmC0 (hE.heap q_.out) (hE.heap r_.out))
 clear q_ r_
 have q_ := hid (HK67.out q1 _ (show q1 ≠ P8 from (by have := HLT.out; omega)) (show q1 ≠ q8 from (by have := HLT.out; omega)) (HK66.out q1 _ (show q1 ≠ P7 from (by have := HLT.out; omega)) (HK65.out q1 _ (show q1 ≠ r6 from (by have := HLT.out; omega)) (HK64.out q1 _ (show q1 ≠ P5 from (by have := HLT.out; omega)) (HK63.out q1 _ (show q1 ≠ P4 from (by have := HLT.out; omega)) (HK62.out q1 _ (show q1 ≠ P3 from (by have := HLT.out; omega)) (HK61.out q1 _ (show q1 ≠ P2 from (by have := HLT.out; omega)) (HK60.out q1 _ (show q1 ≠ P1 from (by have := HLT.out; omega)) (HK59.out q1 _ (show q1 ≠ P0 from (by have := HLT.out; omega)) FQ1.out)))))))))
 have r_ := hid (HK67.out r1 _ (show r1 ≠ P8 from (by have := HLT.out; omega)) (show r1 ≠ q8 from (by have := HLT.out; omega)) (HK66.out r1 _ (show r1 ≠ P7 from (by have := HLT.out; omega)) (HK65.out r1 _ (show r1 ≠ r6 from (by have := HLT.out; omega)) (HK64.out r1 _ (show r1 ≠ P5 from (by have := HLT.out; omega)) (HK63.out r1 _ (show r1 ≠ P4 from (by have := HLT.out; omega)) (HK62.out r1 _ (show r1 ≠ P3 from (by have := HLT.out; omega)) (HK61.out r1 _ (show r1 ≠ P2 from (by have := HLT.out; omega)) (HK60.out r1 _ (show r1 ≠ P1 from (by have := HLT.out; omega)) (HK59.out r1 _ (show r1 ≠ P0 from (by have := HLT.out; omega)) FR1.out)))))))))
 have HCH1 := hid (fun W (hE : Ev x67 W) => nmC1 (hE.heap q_.out) (hE.heap r_.out))
 clear q_ r_
 have q_ := hid (HK67.out q2 _ (show q2 ≠ P8 from (by have := HLT.out; omega)) (show q2 ≠ q8 from (by have := HLT.out; omega)) (HK66.out q2 _ (show q2 ≠ P7 from (by have := HLT.out; omega)) (HK65.out q2 _ (show q2 ≠ r6 from (by have := HLT.out; omega)) (HK64.out q2 _ (show q2 ≠ P5 from (by have := HLT.out; omega)) (HK63.out q2 _ (show q2 ≠ P4 from (by have := HLT.out; omega)) (HK62.out q2 _ (show q2 ≠ P3 from (by have := HLT.out; omega)) (HK61.out q2 _ (show q2 ≠ P2 from (by have := HLT.out; omega)) (HK60.out q2 _ (show q2 ≠ P1 from (by have := HLT.out; omega)) (HK59.out q2 _ (show q2 ≠ P0 from (by have := HLT.out; omega)) FQ2.out)))))))))
 have r_ := hid (HK67.out r2 _ (show r2 ≠ P8 from (by have := HLT.out; omega)) (show r2 ≠ q8 from (by have := HLT.out; omega)) (HK66.out r2 _ (show r2 ≠ P7 from (by have := HLT.out; omega)) (HK65.out r2 _ (show r2 ≠ r6 from (by have := HLT.out; omega)) (HK64.out r2 _ (show r2 ≠ P5 from (by have := HLT.out; omega)) (HK63.out r2 _ (show r2 ≠ P4 from (by have := HLT.out; omega)) (HK62.out r2 _ (show r2 ≠ P3 from (by have := HLT.out; omega)) (HK61.out r2 _ (show r2 ≠ P2 from (by have := HLT.out; omega)) (HK60.out r2 _ (show r2 ≠ P1 from (by have := HLT.out; omega)) (HK59.out r2 _ (show r2 ≠ P0 from (by have := HLT.out; omega)) FR2.out)))))))))
 have HCH2 := hid (fun W (hE : Ev x67 W) => nmC2 (hE.heap q_.out) (hE.heap r_.out))
 clear q_ r_
 have q_ := hid (HK67.out q3 _ (show q3 ≠ P8 from (by have := HLT.out; omega)) (show q3 ≠ q8 from (by have := HLT.out; omega)) (HK66.out q3 _ (show q3 ≠ P7 from (by have := HLT.out; omega)) (HK65.out q3 _ (show q3 ≠ r6 from (by have := HLT.out; omega)) (HK64.out q3 _ (show q3 ≠ P5 from (by have := HLT.out; omega)) (HK63.out q3 _ (show q3 ≠ P4 from (by have := HLT.out; omega)) (HK62.out q3 _ (show q3 ≠ P3 from (by have := HLT.out; omega)) (HK61.out q3 _ (show q3 ≠ P2 from (by have := HLT.out; omega)) (HK60.out q3 _ (show q3 ≠ P1 from (by have := HLT.out; omega)) (HK59.out q3 _ (show q3 ≠ P0 from (by have := HLT.out; omega)) FQ3.out)))))))))
 have r_ := hid (HK67.out r3 _ (show r3 ≠ P8 from (by have := HLT.out; omega)) (show r3 ≠ q8 from (by have := HLT.out; omega)) (HK66.out r3 _ (show r3 ≠ P7 from (by have := HLT.out; omega)) (HK65.out r3 _ (show r3 ≠ r6 from (by have := HLT.out; omega)) (HK64.out r3 _ (show r3 ≠ P5 from (by have := HLT.out; omega)) (HK63.out r3 _ (show r3 ≠ P4 from (by have := HLT.out; omega)) (HK62.out r3 _ (show r3 ≠ P3 from (by have := HLT.out; omega)) (HK61.out r3 _ (show r3 ≠ P2 from (by have := HLT.out; omega)) (HK60.out r3 _ (show r3 ≠ P1 from (by have := HLT.out; omega)) (HK59.out r3 _ (show r3 ≠ P0 from (by have := HLT.out; omega)) FR3.out)))))))))
 have HCH3 := hid (fun W (hE : Ev x67 W) => nmC3 (hE.heap q_.out) (hE.heap r_.out))
 clear q_ r_
 have q_ := hid (HK67.out q4 _ (show q4 ≠ P8 from (by have := HLT.out; omega)) (show q4 ≠ q8 from (by have := HLT.out; omega)) (HK66.out q4 _ (show q4 ≠ P7 from (by have := HLT.out; omega)) (HK65.out q4 _ (show q4 ≠ r6 from (by have := HLT.out; omega)) (HK64.out q4 _ (show q4 ≠ P5 from (by have := HLT.out; omega)) (HK63.out q4 _ (show q4 ≠ P4 from (by have := HLT.out; omega)) (HK62.out q4 _ (show q4 ≠ P3 from (by have := HLT.out; omega)) (HK61.out q4 _ (show q4 ≠ P2 from (by have := HLT.out; omega)) (HK60.out q4 _ (show q4 ≠ P1 from (by have := HLT.out; omega)) (HK59.out q4 _ (show q4 ≠ P0 from (by have := HLT.out; omega)) FQ4.out)))))))))
 have r_ := hid (HK67.out r4 _ (show r4 ≠ P8 from (by have := HLT.out; omega)) (show r4 ≠ q8 from (by have := HLT.out; omega)) (HK66.out r4 _ (show r4 ≠ P7 from (by have := HLT.out; omega)) (HK65.out r4 _ (show r4 ≠ r6 from (by have := HLT.out; omega)) (HK64.out r4 _ (show r4 ≠ P5 from (by have := HLT.out; omega)) (HK63.out r4 _ (show r4 ≠ P4 from (by have := HLT.out; omega)) (HK62.out r4 _ (show r4 ≠ P3 from (by have := HLT.out; omega)) (HK61.out r4 _ (show r4 ≠ P2 from (by have := HLT.out; omega)) (HK60.out r4 _ (show r4 ≠ P1 from (by have := HLT.out; omega)) (HK59.out r4 _ (show r4 ≠ P0 from (by have := HLT.out; omega)) FR4.out)))))))))
 have HCH4 := hid (fun W (hE : Ev x67 W) => nmC4 (hE.heap q_.out) (hE.heap r_.out))
 clear q_ r_
 have t1 := hid (HK67.out TB _ (show TB ≠ P8 from (by have := HLT.out; omega)) (show TB ≠ q8 from (by have := HLT.out; omega)) (HK66.out TB _ (show TB ≠ P7 from (by have := HLT.out; omega)) (HK65.out TB _ (show TB ≠ r6 from (by have := HLT.out; omega)) KT.out)))
 have q_ := hid (HK67.out q5 _ (show q5 ≠ P8 from (by have := HLT.out; omega)) (show q5 ≠ q8 from (by have := HLT.out; omega)) (HK66.out q5 _ (show q5 ≠ P7 from (by have := HLT.out; omega)) (HK65.out q5 _ (show q5 ≠ r6 from (by have := HLT.out; omega)) (HK64.out q5 _ (show q5 ≠ P5 from (by have := HLT.out; omega)) (HK63.out q5 _ (show q5 ≠ P4 from (by have := HLT.out; omega)) (HK62.out q5 _ (show q5 ≠ P3 from (by have := HLT.out; omega)) (HK61.out q5 _ (show q5 ≠ P2 from (by have := HLT.out; omega)) (HK60.out q5 _ (show q5 ≠ P1 from (by have := HLT.out; omega)) (HK59.out q5 _ (show q5 ≠ P0 from (by have := HLT.out; omega)) FQ5.out)))))))))
 have r_ := hid (HK67.out r5 _ (show r5 ≠ P8 from (by have := HLT.out; omega)) (show r5 ≠ q8 from (by have := HLT.out; omega)) (HK66.out r5 _ (show r5 ≠ P7 from (by have := HLT.out; omega)) (HK65.out r5 _ (show r5 ≠ r6 from (by have := HLT.out; omega)) (HK64.out r5 _ (show r5 ≠ P5 from (by have := HLT.out; omega)) (HK63.out r5 _ (show r5 ≠ P4 from (by have := HLT.out; omega)) (HK62.out r5 _ (show r5 ≠ P3 from (by have := HLT.out; omega)) (HK61.out r5 _ (show r5 ≠ P2 from (by have := HLT.out; omega)) (HK60.out r5 _ (show r5 ≠ P1 from (by have := HLT.out; omega)) (HK59.out r5 _ (show r5 ≠ P0 from (by have := HLT.out; omega)) FR5.out)))))))))
 have HCH5 := hid (fun W (hE : Ev x67 W) => nmC5 (hE.heap q_.out) (hE.heap r_.out) (hE.heap t1.out))
 clear q_ r_ t1
 have q_ := hid (HK67.out q6 _ (show q6 ≠ P8 from (by have := HLT.out; omega)) (show q6 ≠ q8 from (by have := HLT.out; omega)) (HK66.out q6 _ (show q6 ≠ P7 from (by have := HLT.out; omega)) (HK65.out q6 _ (show q6 ≠ r6 from (by have := HLT.out; omega)) (HK64.out q6 _ (show q6 ≠ P5 from (by have := HLT.out; omega)) (HK63.out q6 _ (show q6 ≠ P4 from (by have := HLT.out; omega)) (HK62.out q6 _ (show q6 ≠ P3 from (by have := HLT.out; omega)) (HK61.out q6 _ (show q6 ≠ P2 from (by have := HLT.out; omega)) (HK60.out q6 _ (show q6 ≠ P1 from (by have := HLT.out; omega)) (HK59.out q6 _ (show q6 ≠ P0 from (by have := HLT.out; omega)) FQ6.out)))))))))
 have r_ := hid (HK67.out r6 _ (show r6 ≠ P8 from (by have := HLT.out; omega)) (show r6 ≠ q8 from (by have := HLT.out; omega)) (HK66.out r6 _ (show r6 ≠ P7 from (by have := HLT.out; omega)) KR.out))
 have HCH6 := hid (fun W (hE : Ev x67 W) => nmC6 (hE.heap q_.out) (hE.heap r_.out))
 clear q_ r_
 have q_ := hid (HK67.out q7 _ (show q7 ≠ P8 from (by have := HLT.out; omega)) (show q7 ≠ q8 from (by have := HLT.out; omega)) (HK66.out q7 _ (show q7 ≠ P7 from (by have := HLT.out; omega)) (HK65.out q7 _ (show q7 ≠ r6 from (by have := HLT.out; omega)) (HK64.out q7 _ (show q7 ≠ P5 from (by have := HLT.out; omega)) (HK63.out q7 _ (show q7 ≠ P4 from (by have := HLT.out; omega)) (HK62.out q7 _ (show q7 ≠ P3 from (by have := HLT.out; omega)) (HK61.out q7 _ (show q7 ≠ P2 from (by have := HLT.out; omega)) (HK60.out q7 _ (show q7 ≠ P1 from (by have := HLT.out; omega)) (HK59.out q7 _ (show q7 ≠ P0 from (by have := HLT.out; omega)) FQ7.out)))))))))
 have r_ := hid (show x67.heap[MB]? = some (.cells (Array.replicate 18 (.int .i64 0)) 79 (0, 0)) from by rw [← HZS.out]; exact (HK67.out MB _ (show MB ≠ P8 from (by have := HLT.out; omega)) (show MB ≠ q8 from (by have := HLT.out; omega)) KM.out))
 have HCH7 := hid (fun W (hE : Ev x67 W) => nmC7 (hE.heap q_.out) (hE.heap r_.out))
 clear q_ r_
 have q_ := hid KQ.out
 have r_ := hid (HK67.out r8 _ (show r8 ≠ P8 from (by have := HLT.out; omega)) (show r8 ≠ q8 from (by have := HLT.out; omega)) (HK66.out r8 _ (show r8 ≠ P7 from (by have := HLT.out; omega)) (HK65.out r8 _ (show r8 ≠ r6 from (by have := HLT.out; omega)) (HK64.out r8 _ (show r8 ≠ P5 from (by have := HLT.out; omega)) (HK63.out r8 _ (show r8 ≠ P4 from (by have := HLT.out; omega)) (HK62.out r8 _ (show r8 ≠ P3 from (by have := HLT.out; omega)) (HK61.out r8 _ (show r8 ≠ P2 from (by have := HLT.out; omega)) (HK60.out r8 _ (show r8 ≠ P1 from (by have := HLT.out; omega)) (HK59.out r8 _ (show r8 ≠ P0 from (by have := HLT.out; omega)) FR8.out)))))))))
 have HCH8 := hid (fun W (hE : Ev x67 W) => nmC8 (hE.heap q_.out) (hE.heap r_.out))
 clear q_ r_
 clear HLT HZS hmk FP0 FQ0 FR0 FP1 FQ1 FR1 FP2 FQ2 FR2 FP3 FQ3 FR3 FP4 FQ4 FR4 FP5 FQ5 FR5 FP6 FQ6 FR6 FP7 FQ7 FR7 FP8 FQ8 FR8 G0 G1 G2 G3 G4 G5 G7 G8 KT KM KR KQ HK59 HK60 HK61 HK62 HK63 HK64 HK65 HK66 HK67
 have HV0 := hid (Ev.refl x67)
 have T0 := True.intro
 obtain ⟨y0, y1, y2, y3, y4, y5, y6, y7, y8, y9⟩ := cells10 HG0.out
 go_wp2_with (first | (go_at_call 26; clear T0; with_reducible refine (HCH0.out _ HV0.out).mono ?_; rintro e z0 ⟨rfl, hb⟩; have HV1 := hid (HV0.out.trans hb); clear HV0 hb HCH0 HG0; clear y0 y1 y2 y3 y4 y5 y6 y7 y8 y9; obtain ⟨y0, y1, y2, y3, y4, y5, y6, y7, y8, y9⟩ := cells10 (HV1.out.heap HG1.out); have T1 := True.intro) | (go_at_call 26; clear T1; with_reducible refine (HCH1.out _ HV1.out).mono ?_; rintro e z1 ⟨rfl, hb⟩; have HV2 := hid (HV1.out.trans hb); clear HV1 hb HCH1 HG1; clear y0 y1 y2 y3 y4 y5 y6 y7 y8 y9; obtain ⟨y0, y1, y2, y3, y4, y5, y6, y7, y8, y9⟩ := cells10 (HV2.out.heap HG2.out); have T2 := True.intro) | (go_at_call 26; clear T2; with_reducible refine (HCH2.out _ HV2.out).mono ?_; rintro e z2 ⟨rfl, hb⟩; have HV3 := hid (HV2.out.trans hb); clear HV2 hb HCH2 HG2; clear y0 y1 y2 y3 y4 y5 y6 y7 y8 y9; obtain ⟨y0, y1, y2, y3, y4, y5, y6, y7, y8, y9⟩ := cells10 (HV3.out.heap HG3.out); have T3 := True.intro) | (go_at_call 26; clear T3; with_reducible refine (HCH3.out _ HV3.out).mono ?_; rintro e z3 ⟨rfl, hb⟩; have HV4 := hid (HV3.out.trans hb); clear HV3 hb HCH3 HG3; clear y0 y1 y2 y3 y4 y5 y6 y7 y8 y9; obtain ⟨y0, y1, y2, y3, y4, y5, y6, y7, y8, y9⟩ := cells10 (HV4.out.heap HG4.out); have T4 := True.intro) | (go_at_call 26; clear T4; with_reducible refine (HCH4.out _ HV4.out).mono ?_; rintro e z4 ⟨rfl, hb⟩; have HV5 := hid (HV4.out.trans hb); clear HV4 hb HCH4 HG4; clear y0 y1 y2 y3 y4 y5 y6 y7 y8 y9; obtain ⟨y0, y1, y2, y3, y4, y5, y6, y7, y8, y9⟩ := cells10 (HV5.out.heap HG5.out); have T5 := True.intro) | (go_at_call 26; clear T5; with_reducible refine (HCH5.out _ HV5.out).mono ?_; rintro e z5 ⟨rfl, hb⟩; have HV6 := hid (HV5.out.trans hb); clear HV5 hb HCH5 HG5; clear y0 y1 y2 y3 y4 y5 y6 y7 y8 y9; obtain ⟨y0, y1, y2, y3, y4, y5, y6, y7, y8, y9⟩ := cells10 (HV6.out.heap HG6.out); have T6 := True.intro) | (go_at_call 26; clear T6; with_reducible refine (HCH6.out _ HV6.out).mono ?_; rintro e z6 ⟨rfl, hb⟩; have HV7 := hid (HV6.out.trans hb); clear HV6 hb HCH6 HG6; clear y0 y1 y2 y3 y4 y5 y6 y7 y8 y9; obtain ⟨y0, y1, y2, y3, y4, y5, y6, y7, y8, y9⟩ := cells10 (HV7.out.heap HG7.out); have T7 := True.intro) | (go_at_call 26; clear T7; with_reducible refine (HCH7.out _ HV7.out).mono ?_; rintro e z7 ⟨rfl, hb⟩; have HV8 := hid (HV7.out.trans hb); clear HV7 hb HCH7 HG7; clear y0 y1 y2 y3 y4 y5 y6 y7 y8 y9; obtain ⟨y0, y1, y2, y3, y4, y5, y6, y7, y8, y9⟩ := cells10 (HV8.out.heap HG8.out); have T8 := True.intro) | (go_at_call 26; clear T8; with_reducible refine (HCH8.out _ HV8.out).mono ?_; rintro e z8 ⟨rfl, hb⟩; have HV9 := hid (HV8.out.trans hb); clear HV8 hb HCH8 HG8; clear y0 y1 y2 y3 y4 y5 y6 y7 y8 y9; have T9 := True.intro) | (go_at_call 26; clear T9; with_reducible refine nmC9.mono ?_; rintro e z9 ⟨rfl, hb⟩; have HV10 := hid (HV9.out.trans hb); clear HV9 hb) | (go_at_call 19; with_reducible refine (awake_c _).mono ?_; rintro e w99 ⟨rfl, hb99⟩))
 go_ret
 exact ⟨rfl, (HE67.out.trans HV10.out).trans hb99⟩
end Go.Proofs.Ytgimcephbeajlaa
