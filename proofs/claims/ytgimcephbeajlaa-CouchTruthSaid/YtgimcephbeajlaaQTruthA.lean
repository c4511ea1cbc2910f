import Derived.Test.YtgimcephbeajlaaC37
import Derived.Test.YtgimcephbeajlaaC27
import Derived.Test.YtgimcephbeajlaaC23
import Derived.Test.YtgimcephbeajlaaC24
import Derived.Test.YtgimcephbeajlaaC34
import Derived.Test.YtgimcephbeajlaaC35
import Derived.Test.YtgimcephbeajlaaC29
import Derived.Deep.DeepCutAuto
set_option linter.unusedSimpArgs false
set_option linter.unusedVariables false
namespace Go.Proofs.Ytgimcephbeajlaa
open Go.RowKit Go.Shelf

theorem M.short_nil {p : List Int → Bool} (h : p [] = true) (sz : Nat) : M.shortest p sz = [] := by
 unfold M.shortest
 rw [M.first]
 simp [M.incr, h]
theorem M.check_lk {f : M.Cf} (h0 : M.check f = 0) {ls : List M.Rd} (hl : ls.length ≤ 5) (hs : ∀ l ∈ ls, M.validRd f l = true) : M.check (M.withL f ls) = 0 := by
 obtain ⟨h9, hb, hv, ht⟩ := M.check0 h0
 have hv2 : M.valid (M.withL f ls) = true := by
  unfold M.valid at hv ⊢
  simp only [Bool.and_eq_true, List.all_eq_true] at hv ⊢
  exact ⟨hv.1, hv.2.1, hv.2.2.1, hv.2.2.2.1, fun l hl => hs l hl⟩
 have h3 : ¬ (9 < (M.withL f ls).last ∨ 5 < (M.withL f ls).rds.length) := by
  show ¬ (9 < f.last ∨ 5 < ls.length)
  omega
 unfold M.check
 rw [if_neg h3, if_neg (by rw [hv2]; decide), show M.ranges (M.withL f ls) = M.ranges f from rfl, ht]
 rfl
theorem M.fit_lk {f : M.Cf} {t : M.Tr} (hlt : M.listed f t = true) (ls ks : List M.Rd) (h : ∀ l ∈ ks, M.shows (M.own f t) l = true) : M.fit (M.withL f ls) ks = true := by
 rw [M.fit_any, List.any_eq_true]
 refine ⟨t, by rw [M.all_with]; exact (M.mem_allTruths f t).2 hlt, ?_⟩
 rw [List.all_eq_true, M.own_with]
 exact h
theorem M.lk_right {f : M.Cf} {t : M.Tr} {ls : List M.Rd} (h : ∀ l ∈ ls, M.shows (M.own f t) l = true) : M.right (M.withL f ls) t = true := by
 unfold M.right
 rw [M.own_with, List.all_eq_true]
 exact h
theorem M.lk_in {f : M.Cf} {t : M.Tr} (hlt : M.listed f t = true) {ls : List M.Rd} (h : ∀ l ∈ ls, M.shows (M.own f t) l = true) : t ∈ M.truths (M.withL f ls) := by
 unfold M.truths
 rw [List.mem_filter, M.all_with]
 exact ⟨(M.mem_allTruths f t).2 hlt, M.lk_right h⟩
theorem M.lk_wrong {f : M.Cf} (h0 : M.check f = 0) {t : M.Tr} (hlt : M.listed f t = true) {ls : List M.Rd} (hl : ls.length ≤ 5) (hs : ∀ l ∈ ls, M.validRd f l = true) (h : ∀ l ∈ ls, M.shows (M.own f t) l = true) : M.wrong (M.withL f ls) = (0, 7) := by
 unfold M.wrong
 rw [if_pos (M.check_lk h0 hl hs)]
 rcases M.wrongK_spec (M.withL f ls) (M.withL f ls).rds.length 0 with ⟨h1, _⟩ | ⟨m, _, _, _, h4, _⟩
 ·
  exact h1
 ·
  have h5 : M.fit (M.withL f ls) (List.take (m + 1) (M.withL f ls).rds) = true := M.fit_lk hlt ls _ (fun l hl => h l (List.mem_of_mem_take (i := m + 1) hl))
  rw [h5] at h4
  cases h4
theorem M.lk_spare {f : M.Cf} {t : M.Tr} (hlt : M.listed f t = true) {ls : List M.Rd} (h : ∀ l ∈ ls, M.shows (M.own f t) l = true) (sz : Nat) : M.shortest (M.spares (M.withL f ls)) sz = [] :=
 M.short_nil (M.fit_lk hlt ls _ (fun l hl => h l (M.woK_mem [] ls 0 l hl))) sz
theorem M.lk_begin {f : M.Cf} (h0 : M.check f = 0) {t : M.Tr} (hlt : M.listed f t = true) {ls : List M.Rd} (hl : ls.length ≤ 5) (hs : ∀ l ∈ ls, M.validRd f l = true) (h : ∀ l ∈ ls, M.shows (M.own f t) l = true) {plan : List Int} (hp : M.isTurns f plan = true) : M.begin (M.withL f ls) (M.isTurns (M.withL f ls) plan) = 0 := by
 rw [show M.isTurns (M.withL f ls) plan = M.isTurns f plan from rfl, hp]
 unfold M.begin
 have hm := M.lk_in hlt h
 rw [if_neg (by rw [M.check_lk h0 hl hs]; decide), if_neg (by decide), if_neg (fun e => by rw [e] at hm; cases hm)]
theorem M.lk_row {f : M.Cf} {t : M.Tr} {ts : List M.Tr} (htr : t ∈ ts) {plan : List Int} {n k : Nat} (hk : k < n) {x : Int} {r : M.Rg} (hx : ((M.heats f t plan).take n)[k]? = some x) (hr : (M.bounds f ts plan)[k]? = some r) : M.inR x r = true := by
 unfold M.bounds at hr
 rw [List.getElem?_map] at hr
 obtain ⟨i, hi, rfl⟩ := Option.map_eq_some_iff.1 hr
 obtain ⟨hlt, rfl⟩ := List.getElem?_eq_some_iff.1 hi
 rw [List.getElem_range]
 rw [List.getElem?_take_of_lt hk] at hx
 have hm : x ∈ M.at f ts plan k := by
  unfold M.at
  exact List.mem_map.2 ⟨t, htr, by rw [List.getD_eq_getElem?_getD, hx]; rfl⟩
 have := M.span_in hm
 unfold M.inR
 simp only [Bool.and_eq_true, decide_eq_true_eq]
 exact this
theorem M.lk_lost (f : M.Cf) : ∀ l : List Int, (!(l.any (M.isLost f))) = l.all fun x => M.isIn x f.die f.burn
 | [] => rfl
 | x :: l => by
  rw [List.any_cons, List.all_cons, ← M.lk_lost f l, Bool.not_or]
  have : (!M.isLost f x) = M.isIn x f.die f.burn := by
   unfold M.isLost M.isIn
   rw [Bool.not_or, Bool.and_comm]
   congr 1 <;> (rw [← decide_not]; congr 1; simp)
  rw [this]
theorem M.lk_keeps {f : M.Cf} {t : M.Tr} {ts : List M.Tr} (htr : t ∈ ts) (plan : List Int) : (M.keepsOf f ts plan = 1 ∧ M.stays f t plan = true) ∨ (M.keepsOf f ts plan = 2 ∧ M.stays f t plan = false) ∨ M.keepsOf f ts plan = 3 := by
 unfold M.keepsOf
 by_cases h1 : (ts.all fun t => M.stays f t plan) = true
 ·
  rw [if_pos h1]
  exact .inl ⟨rfl, List.all_eq_true.1 h1 t htr⟩
 ·
  rw [if_neg h1]
  by_cases h2 : (ts.any fun t => M.stays f t plan) = true
  ·
   rw [if_pos h2]; exact .inr (.inr rfl)
  ·
   rw [if_neg h2]
   refine .inr (.inl ⟨rfl, ?_⟩)
   cases h3 : M.stays f t plan with
   | false => rfl
   | true => exact absurd (List.any_eq_true.2 ⟨t, htr, h3⟩) h2
theorem PlayL_ok (f : M.Cf) (ls : List M.Rd) (Aw At Ar : Option Addr) (nw cw nt ct nr cr : Nat) (hl0 : -9223372036854775808 ≤ f.last) (h0 : M.check f = 0) (t : M.Tr) (hlt : M.listed f t = true) (hl : ls.length ≤ 5) (hv : ∀ l ∈ ls, M.validRd f l = true) (hh : ∀ l ∈ ls, M.shows (M.own f t) l = true) (P : Option Addr) (pn pc : Nat) (plan : List Int) (Tw : Option Addr) (tw twc : Nat) (w : World) (hs : CS w w.heap.size (M.withL f ls) Aw At Ar nw cw nt ct nr cr) (hwt : Sl ics 1 w w.heap.size Tw tw twc t.wet) (hp : Sl ics 1 w w.heap.size P pn pc plan) (hpl : M.isTurns f plan = true) :
  Calls Try.prog 20 #[.agg #[.int .i64 f.last, .int .i64 f.size, .int .i64 f.cool, .int .i64 f.die, .int .i64 f.burn, .int .i64 f.st.lo, .int .i64 f.st.hi, .slice Aw nw cw, .slice At nt ct, .slice Ar nr cr], .agg #[.int .i64 t.st, .slice Tw tw twc], .slice P pn pc] w fun e w' => (∃ B d, e = .returned (.tuple #[.slice B nw d, .int .i64 0]) ∧ Sl ics 1 w' w'.heap.size B nw d ((M.heats (M.withL f ls) t plan).take nw)) ∧ Ev w w' :=
 Play_ok (M.withL f ls) Aw At Ar nw cw nt ct nr cr Tw tw twc t P pn pc plan hl0 w hs hwt hp (M.check_lk h0 hl hv) hlt hpl
theorem BoundsT_ok (f : M.Cf) (ls : List M.Rd) (Aw At Ar : Option Addr) (nw cw nt ct nr cr : Nat) (hl0 : -9223372036854775808 ≤ f.last) (h0 : M.check f = 0) (t : M.Tr) (hlt : M.listed f t = true) (hl : ls.length ≤ 5) (hv : ∀ l ∈ ls, M.validRd f l = true) (hh : ∀ l ∈ ls, M.shows (M.own f t) l = true) (P : Option Addr) (pn pc : Nat) (plan : List Int) (w : World) (hs : CS w w.heap.size (M.withL f ls) Aw At Ar nw cw nt ct nr cr) (hp : Sl ics 1 w w.heap.size P pn pc plan) (hpl : M.isTurns f plan = true) :
  Calls Try.prog 31 #[.agg #[.int .i64 f.last, .int .i64 f.size, .int .i64 f.cool, .int .i64 f.die, .int .i64 f.burn, .int .i64 f.st.lo, .int .i64 f.st.hi, .slice Aw nw cw, .slice At nt ct, .slice Ar nr cr], .slice P pn pc] w fun e w' => (∃ B d, e = .returned (.tuple #[.slice B nw d, .int .i64 0]) ∧ Sl rgc 2 w' w'.heap.size B nw d (M.bounds (M.withL f ls) (M.truths (M.withL f ls)) plan)) ∧ Ev w w' :=
 Bounds_ok (M.withL f ls) Aw At Ar nw cw nt ct nr cr P pn pc plan hl0 w hs hp (M.lk_begin h0 hlt hl hv hh hpl)
theorem KeepsT_ok (f : M.Cf) (ls : List M.Rd) (Aw At Ar : Option Addr) (nw cw nt ct nr cr : Nat) (hl0 : -9223372036854775808 ≤ f.last) (h0 : M.check f = 0) (t : M.Tr) (hlt : M.listed f t = true) (hl : ls.length ≤ 5) (hv : ∀ l ∈ ls, M.validRd f l = true) (hh : ∀ l ∈ ls, M.shows (M.own f t) l = true) (P : Option Addr) (pn pc : Nat) (plan : List Int) (w : World) (hs : CS w w.heap.size (M.withL f ls) Aw At Ar nw cw nt ct nr cr) (hp : Sl ics 1 w w.heap.size P pn pc plan) (hpl : M.isTurns f plan = true) :
  Calls Try.prog 32 #[.agg #[.int .i64 f.last, .int .i64 f.size, .int .i64 f.cool, .int .i64 f.die, .int .i64 f.burn, .int .i64 f.st.lo, .int .i64 f.st.hi, .slice Aw nw cw, .slice At nt ct, .slice Ar nr cr], .slice P pn pc] w fun e w' => e = .returned (.tuple #[.int .i64 (M.keepsOf (M.withL f ls) (M.truths (M.withL f ls)) plan), .int .i64 0]) ∧ Ev w w' :=
 Keeps_ok (M.withL f ls) Aw At Ar nw cw nt ct nr cr P pn pc plan hl0 w hs hp (M.lk_begin h0 hlt hl hv hh hpl)
theorem LeaveT_ok (f : M.Cf) (ls : List M.Rd) (Aw At Ar : Option Addr) (nw cw nt ct nr cr : Nat) (hl0 : -9223372036854775808 ≤ f.last) (h0 : M.check f = 0) (t : M.Tr) (hlt : M.listed f t = true) (hl : ls.length ≤ 5) (hv : ∀ l ∈ ls, M.validRd f l = true) (hh : ∀ l ∈ ls, M.shows (M.own f t) l = true) (w : World) (hs : CS w w.heap.size (M.withL f ls) Aw At Ar nw cw nt ct nr cr) :
  Calls Try.prog 41 #[.agg #[.int .i64 f.last, .int .i64 f.size, .int .i64 f.cool, .int .i64 f.die, .int .i64 f.burn, .int .i64 f.st.lo, .int .i64 f.st.hi, .slice Aw nw cw, .slice At nt ct, .slice Ar nr cr]] w fun e w' => (∃ B d, e = .returned (.tuple #[.slice B 0 d, .int .i64 0])) ∧ Ev w w' := by
 have := Leave_ok (M.withL f ls) Aw At Ar nw cw nt ct nr cr hl0 w hs (M.check_lk h0 hl hv)
 rw [M.lk_spare hlt hh] at this
 exact this.mono fun e w' h => ⟨by obtain ⟨⟨B, d, h1, _⟩, _⟩ := h; exact ⟨B, d, h1⟩, h.2⟩
theorem FirstT_c (f : M.Cf) (ls : List M.Rd) (Aw At Ar : Option Addr) (nw cw nt ct nr cr : Nat) (hl0 : -9223372036854775808 ≤ f.last) (h0 : M.check f = 0) (t : M.Tr) (hlt : M.listed f t = true) (hl : ls.length ≤ 5) (hv : ∀ l ∈ ls, M.validRd f l = true) (hh : ∀ l ∈ ls, M.shows (M.own f t) l = true) (w : World) (hs : CS w w.heap.size (M.withL f ls) Aw At Ar nw cw nt ct nr cr) :
  Calls Try.prog 40 #[.agg #[.int .i64 f.last, .int .i64 f.size, .int .i64 f.cool, .int .i64 f.die, .int .i64 f.burn, .int .i64 f.st.lo, .int .i64 f.st.hi, .slice Aw nw cw, .slice At nt ct, .slice Ar nr cr]] w fun e w' => e = .returned (.tuple #[.int .i64 0, .int .i64 7]) ∧ Ev w w' := by
 have := First_c (M.withL f ls) Aw At Ar nw cw nt ct nr cr hl0 w hs
 rw [M.lk_wrong h0 hlt hl hv hh] at this
 exact this
theorem ProveT_ok (f : M.Cf) (ls : List M.Rd) (Aw At Ar : Option Addr) (nw cw nt ct nr cr : Nat) (hl0 : -9223372036854775808 ≤ f.last) (h0 : M.check f = 0) (t : M.Tr) (hlt : M.listed f t = true) (hl : ls.length ≤ 5) (hv : ∀ l ∈ ls, M.validRd f l = true) (hh : ∀ l ∈ ls, M.shows (M.own f t) l = true) (Tw : Option Addr) (tw twc : Nat) (w : World) (hs : CS w w.heap.size (M.withL f ls) Aw At Ar nw cw nt ct nr cr) (hwt : Sl ics 1 w w.heap.size Tw tw twc t.wet) :
  Calls Try.prog 24 #[.agg #[.int .i64 f.last, .int .i64 f.size, .int .i64 f.cool, .int .i64 f.die, .int .i64 f.burn, .int .i64 f.st.lo, .int .i64 f.st.hi, .slice Aw nw cw, .slice At nt ct, .slice Ar nr cr], .agg #[.int .i64 t.st, .slice Tw tw twc]] w fun e w' => e = .returned (.bool true) ∧ Ev w w' := by
 have := ProveTruth_ok (M.withL f ls) Aw At Ar nw cw nt ct nr cr Tw tw twc t hl0 w hs hwt (M.check_lk h0 hl hv) hlt
 rw [M.lk_right hh] at this
 exact this
end Go.Proofs.Ytgimcephbeajlaa
