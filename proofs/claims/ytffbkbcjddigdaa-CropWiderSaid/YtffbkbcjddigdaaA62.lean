import Derived.Test.YtffbkbcjddigdaaA46
import Derived.Test.YtffbkbcjddigdaaA54
set_option linter.unusedSimpArgs false
set_option linter.unusedVariables false
namespace Go.Proofs.Ytffbkbcjddigdaa
open Go.RowKit

/-- The numbers of a number's bits, ten of them. -/
def M.bits10 (b : Nat) : List Int := M.bitsK b 0 10
set_option maxRecDepth 100000 in
set_option maxHeartbeats 1000000 in
theorem Bits10_c (b : Nat) (hb : b ≤ 1023) (w : World) :
  Calls Try.prog 49 #[.int .i64 b] w fun e w' => (∃ B d, e = .returned (.slice B (M.bits10 b).length d) ∧ Sl ics 1 w' w'.heap.size B (M.bits10 b).length d (M.bits10 b)) ∧ Ev w w' := by
 obtain ⟨i0, hi0, hz0, hz1, hz2⟩ := info_parts info3
 go_enter Try.func49, Try.ntmps49
 go_wp2
 go_loopw [3, 4] (fun v i wr => ∃ k : Nat, ∃ pre : List Int, i = .int .i64 k ∧ k ≤ 10 ∧ Ev w wr ∧ wr.ownsRow w.heap.size 3 1 v pre.length (pre.flatMap ics) ∧ pre.length ≤ k ∧ Hid (pre ++ M.bitsK b k (10 - k) = M.bits10 b)) (fun _ i _ => 11 - (intOf i).toNat)
 case atStart => exact ⟨0, [], rfl, by omega, Ev.refl _, World.ownsRow_nil _ _ _ _, by simp, hid rfl⟩
 case round =>
  obtain ⟨k, pre, rfl, hk, hB, hown, hpk, hp⟩ := hrel
  have hbs := hB.size
  have e1 : (b : Int) / 2 ^ k = ((b / 2 ^ k : Nat) : Int) := by simp
  have hbq : k = 10 → b / 2 ^ k = 0 := by rintro rfl; omega
  have hnone := M.bitsK_none (b := b) (10 - k) k
  have hsucc : ∀ j, M.bitsK b k (j + 1) = (if b / 2 ^ k % 2 = 1 then [(k : Int)] else []) ++ M.bitsK b (k + 1) j := fun _ => rfl
  generalize b / 2 ^ k = q at e1 hbq hnone hsucc
  have HBQ := hid hbq
  have HNONE := hid hnone
  have HSUCC := hid hsucc
  clear hbq hnone hsucc
  by_cases hq : 0 < q
  ·
   have hk7 : k < 10 := by
    rcases Nat.lt_or_ge k 10 with h | h
    ·
     exact h
    ·
     have := HBQ.out (by omega)
     omega
   have hp2 := hp.out
   rw [show 10 - k = (10 - (k + 1)) + 1 from by omega, HSUCC.out] at hp2
   have HP2 := hid hp2
   have hqI : (0 : Int) < q := by omega
   clear hp2
   by_cases hr : q % 2 = 1
   ·
    have hbe : ((q : Int) % 2 == 1) = true := by simp; omega
    have HR := hid hr
    clear hr
    go_wp2_with (at_builtin; refine wpList_append_own _ rfl (.tmp 18) (.tmp 20) 23 rfl w.heap.size 3 i0 _ 1 8 Try.underlying23 hi0 hz0 hz1 hz2 rfl (by decide) _ pre.length (pre.flatMap ics) rfl (hown.alloc _) ⟨wr.heap.size, 0, none⟩ 1 1 [.int .i64 k] rfl rfl (news_in (alloc1 wr _).1) (by simp [Value.oneCell']) (by unfold maxLen; omega) (by omega) (by simp; omega) ?_; intro v' w1 hown' hgrow _)
    have hE1 := Ev.grown (hB.alloc _) hgrow (fun k e => (hown.lt k e).1)
    refine ⟨⟨k + 1, pre ++ [(k : Int)], by go_num, by omega, hE1, ?_, by simp; omega, hid ?_⟩, by simp [intOf]; omega⟩
    ·
     rw [List.flatMap_append, List.length_append]
     exact hown'
    ·
     have := HP2.out
     rw [if_pos HR.out] at this
     rw [List.append_assoc]
     exact this
   ·
    have hbe : ((q : Int) % 2 == 1) = false := by simp; omega
    have HR := hid hr
    clear hr
    go_wp2
    refine ⟨⟨k + 1, pre, by go_num, by omega, hB, hown, by omega, hid ?_⟩, by simp [intOf]; omega⟩
    have := HP2.out
    rw [if_neg HR.out] at this
    exact this
  ·
   have hq0 : q = 0 := by omega
   have hp2 := hp.out
   rw [HNONE.out hq0, List.append_nil] at hp2
   subst hq0
   obtain ⟨B2, d2, rfl, hsl⟩ := Sl.of_own (enc := ics) (sz := 1) (by decide) (fun _ _ => rfl) (by omega) hown
   have HS := hid hsl
   have HP := hid hp2
   clear hsl hp2 hown hpk hp
   go_wp2
   go_ret
   rw [← HP.out]
   exact ⟨⟨B2, d2, rfl, HS.out⟩, hB⟩


end Go.Proofs.Ytffbkbcjddigdaa

set_option linter.unusedSimpArgs false
set_option linter.unusedVariables false
namespace Go.Proofs.Ytffbkbcjddigdaa
open Go.RowKit Go.Shelf

theorem and_low {a : Int} {r : Nat} (hr : r ≤ 10) : ∃ n : Nat, n ≤ 2 ^ r - 1 ∧ Go.bits .and .i64 a ((2 ^ r - 1 : Nat) : Int) = (n : Int) := by
 have hp : 2 ^ r ≤ 2 ^ 10 := Nat.pow_le_pow_right (by omega) hr
 have h1 : Go.bits .and .i64 a ((2 ^ r - 1 : Nat) : Int) = IntKind.i64.wrap (((BitVec.ofInt 64 a &&& BitVec.ofInt 64 ((2 ^ r - 1 : Nat) : Int)).toNat : Nat) : Int) := rfl
 have hb : (BitVec.ofInt 64 ((2 ^ r - 1 : Nat) : Int)).toNat = 2 ^ r - 1 := by
  rw [BitVec.toNat_ofInt]
  have hq : 2 ^ r - 1 ≤ 1023 := by omega
  generalize 2 ^ r - 1 = q at hq ⊢
  omega
 have hn : (BitVec.ofInt 64 a &&& BitVec.ofInt 64 ((2 ^ r - 1 : Nat) : Int)).toNat ≤ 2 ^ r - 1 := by
  rw [BitVec.toNat_and, hb]
  exact Nat.and_le_right
 refine ⟨_, hn, ?_⟩
 rw [h1]
 exact IntWalk.i64_in _ (by omega)
/-- The numbers of bits rise, from the first one on. -/
theorem M.bitsK_ge (b : Nat) : ∀ (j p : Nat), ∀ x ∈ M.bitsK b p j, (p : Int) ≤ x ∧ x < p + j
 | 0, _, x, h => by cases h
 | j + 1, p, x, h => by
  rw [M.bitsK] at h
  rcases List.mem_append.1 h with h | h
  ·
   split at h
   ·
    obtain rfl : x = (p : Int) := by simpa using h
    omega
   ·
    cases h
  ·
   have := M.bitsK_ge b j (p + 1) x h
   omega
theorem M.bitsK_rises (b : Nat) : ∀ (j p : Nat), M.rises (M.bitsK b p j) = true
 | 0, _ => rfl
 | j + 1, p => by
  rw [M.bitsK]
  have h1 := M.bitsK_rises b j (p + 1)
  have h2 := M.bitsK_ge b j (p + 1)
  split
  ·
   cases hr : M.bitsK b (p + 1) j with
   | nil => rfl
   | cons y s =>
    rw [hr] at h1 h2
    show M.rises ((p : Int) :: y :: s) = true
    rw [show M.rises ((p : Int) :: y :: s) = (decide ((p : Int) < y) && M.rises (y :: s)) from rfl, h1, Bool.and_true]
    have := h2 y (by simp)
    simp; omega
  ·
   simpa using h1
theorem M.rises_take : ∀ (l : List Int) (k : Nat), M.rises l = true → M.rises (l.take k) = true
 | [], k, _ => by simp [M.rises]
 | [x], k, _ => by cases k <;> simp [M.rises]
 | x :: y :: r, 0, _ => rfl
 | x :: y :: r, 1, _ => rfl
 | x :: y :: r, k + 2, h => by
  rw [show M.rises (x :: y :: r) = (decide (x < y) && M.rises (y :: r)) from rfl, Bool.and_eq_true] at h
  show M.rises (x :: y :: r.take k) = true
  rw [show M.rises (x :: y :: r.take k) = (decide (x < y) && M.rises (y :: r.take k)) from rfl, h.1, Bool.true_and]
  exact M.rises_take (y :: r) (k + 1) h.2
theorem M.bitsK_low {b n : Nat} (hb : b ≤ 2 ^ n - 1) : ∀ (j p : Nat), ∀ x ∈ M.bitsK b p j, x < n
 | 0, _, x, h => by cases h
 | j + 1, p, x, h => by
  rw [M.bitsK] at h
  rcases List.mem_append.1 h with h | h
  ·
   split at h
   ·
    rename_i hp
    obtain rfl : x = (p : Int) := by simpa using h
    rcases Nat.lt_or_ge p n with hl | hl
    ·
     omega
    ·
     exfalso
     have h1 : b / 2 ^ p = 0 := Nat.div_eq_of_lt (by have := Nat.pow_le_pow_right (show 0 < 2 by omega) hl; have := Nat.two_pow_pos n; omega)
     rw [h1] at hp
     omega
   ·
    cases h
  ·
   exact M.bitsK_low hb j (p + 1) x h
/-- What is planned by bits is a plan. -/
theorem M.planned_plan {f : M.Cf} (hv : M.valid f = true) (hl9 : f.last ≤ 9) {b : Nat} (hb : b ≤ 2 ^ (f.last.toNat + 1) - 1) : M.isPlan f ((M.bits10 b).take f.base.length) = true := by
 have h0 := (M.valid_parts hv).1
 unfold M.isPlan
 rw [show M.rises ((M.bits10 b).take f.base.length) = true from M.rises_take _ _ (M.bitsK_rises b 10 0), Bool.true_and, Bool.and_eq_true, decide_eq_true_eq, List.all_eq_true]
 refine ⟨by rw [List.length_take]; omega, fun x hx => ?_⟩
 have hm := List.mem_of_mem_take hx
 have h1 := M.bitsK_ge b 10 0 x hm
 have h2 := M.bitsK_low hb 10 0 x hm
 unfold M.hasWeek
 simp
 omega

end Go.Proofs.Ytffbkbcjddigdaa

set_option linter.unusedSimpArgs false
set_option linter.unusedVariables false
namespace Go.Proofs.Ytffbkbcjddigdaa
open Go.RowKit Go.Shelf

set_option maxRecDepth 100000 in
set_option maxHeartbeats 1000000 in
theorem planned_0 (f : M.Cf) (Ag Aw Ab Ac Al : Option Addr) (ng cg nw cw nb cb nc cc nl cl : Nat) (hv : M.valid f = true) (hL : f.last = 0) (a : Int) (h0 : 0 ≤ a) (h1 : a < 65536) (w : World) (hnb : f.base.length = nb) (hb3 : nb ≤ 3) :
  Calls Try.prog 39 #[.agg #[.int .i64 0, .slice Ag ng cg, .slice Aw nw cw, .slice Ab nb cb, .slice Ac nc cc, .int .i64 f.ripe, .int .i64 f.late, .int .i64 f.trod, .slice Al nl cl], .int .u16 a] w fun e w' => (∃ plan, M.isPlan f plan = true ∧ ∃ B d, e = .returned (.slice B plan.length d) ∧ Sl ics 1 w' w'.heap.size B plan.length d plan) ∧ Ev w w' := by
 obtain ⟨n, hn, he⟩ := and_low (a := a) (r := 1) (by omega)
 have he' : Go.bits .and .i64 a 1 = (n : Int) := he
 have hn2 : n ≤ 1 := hn
 have g0 : IntKind.i64.wrap a = a := IntWalk.i64_in _ (by omega)
 have HPL := hid (M.planned_plan hv (by omega) (b := n) (by rw [hL]; exact hn))
 have HNB := hid hnb
 clear he hn hnb
 by_cases hm : (M.bits10 n).length ≤ nb
 ·
  go_enter Try.func39, Try.ntmps39
  go_upto_region 2 with (go_at_call 49; with_reducible refine (Bits10_c n (by omega) _).mono ?_; rintro e w1 ⟨⟨B, d, rfl, hsl⟩, hb1⟩; obtain ⟨y0, y1, y2, y3, y4, y5, y6, y7, y8⟩ := cells9 (hb1.heap (alloc1 w (.cells #[.int .i64 0, .slice Ag ng cg, .slice Aw nw cw, .slice Ab nb cb, .slice Ac nc cc, .int .i64 f.ripe, .int .i64 f.late, .int .i64 f.trod, .slice Al nl cl] 26)).1); have HSL := hid hsl; have HBL := hid hsl.len; clear hsl)
  have hm1 : ((M.bits10 n).length : Int) ≤ nb := by omega
  have hm2 : ¬ ((nb : Int) < (M.bits10 n).length) := by omega
  have HT := hid (show (M.bits10 n).take f.base.length = M.bits10 n from List.take_of_length_le (by rw [HNB.out]; exact hm))
  generalize M.bits10 n = bs at HSL HBL HPL HT hm hm1 hm2
  have hcap := HSL.out.cap
  go_wp2
  refine bodyPost_ret (v := .slice B bs.length d) (by simp [results, Try.results39, go_sem]) rfl ?_
  exact ⟨⟨bs, by have := HPL.out; rw [HT.out] at this; exact this, B, d, rfl, HSL.out⟩, (Ev.alloc (Ev.refl _) _).trans hb1⟩
 ·
  go_enter Try.func39, Try.ntmps39
  go_upto_region 2 with (go_at_call 49; with_reducible refine (Bits10_c n (by omega) _).mono ?_; rintro e w1 ⟨⟨B, d, rfl, hsl⟩, hb1⟩; obtain ⟨y0, y1, y2, y3, y4, y5, y6, y7, y8⟩ := cells9 (hb1.heap (alloc1 w (.cells #[.int .i64 0, .slice Ag ng cg, .slice Aw nw cw, .slice Ab nb cb, .slice Ac nc cc, .int .i64 f.ripe, .int .i64 f.late, .int .i64 f.trod, .slice Al nl cl] 26)).1); have HSL := hid hsl; have HBL := hid hsl.len; clear hsl)
  have hm1 : ¬ (((M.bits10 n).length : Int) ≤ nb) := by omega
  have hm2 : (nb : Int) < (M.bits10 n).length := by omega
  have hm3 : (nb : Int) ≤ (M.bits10 n).length := by omega
  have HLT := hid (show ((M.bits10 n).take nb).length = nb by rw [List.length_take]; omega)
  rw [HNB.out] at HPL
  generalize M.bits10 n = bs at HSL HBL HPL HLT hm hm1 hm2 hm3
  have hcap := HSL.out.cap
  obtain ⟨b, off, hB, _⟩ := HSL.out.cells (by omega)
  subst hB
  have hm4 : (nb : Int) ≤ d := by omega
  go_wp2
  refine bodyPost_ret (v := .slice (some ⟨b, off, none⟩) nb d) (by simp [results, Try.results39, go_sem]) rfl ?_
  exact ⟨⟨bs.take nb, HPL.out, some ⟨b, off, none⟩, d, by rw [HLT.out], by rw [HLT.out]; exact HSL.out.take (by omega)⟩, (Ev.alloc (Ev.refl _) _).trans hb1⟩

set_option maxRecDepth 100000 in
set_option maxHeartbeats 1000000 in
theorem planned_1 (f : M.Cf) (Ag Aw Ab Ac Al : Option Addr) (ng cg nw cw nb cb nc cc nl cl : Nat) (hv : M.valid f = true) (hL : f.last = 1) (a : Int) (h0 : 0 ≤ a) (h1 : a < 65536) (w : World) (hnb : f.base.length = nb) (hb3 : nb ≤ 3) :
  Calls Try.prog 39 #[.agg #[.int .i64 1, .slice Ag ng cg, .slice Aw nw cw, .slice Ab nb cb, .slice Ac nc cc, .int .i64 f.ripe, .int .i64 f.late, .int .i64 f.trod, .slice Al nl cl], .int .u16 a] w fun e w' => (∃ plan, M.isPlan f plan = true ∧ ∃ B d, e = .returned (.slice B plan.length d) ∧ Sl ics 1 w' w'.heap.size B plan.length d plan) ∧ Ev w w' := by
 obtain ⟨n, hn, he⟩ := and_low (a := a) (r := 2) (by omega)
 have he' : Go.bits .and .i64 a 3 = (n : Int) := he
 have hn2 : n ≤ 3 := hn
 have g0 : IntKind.i64.wrap a = a := IntWalk.i64_in _ (by omega)
 have HPL := hid (M.planned_plan hv (by omega) (b := n) (by rw [hL]; exact hn))
 have HNB := hid hnb
 clear he hn hnb
 by_cases hm : (M.bits10 n).length ≤ nb
 ·
  go_enter Try.func39, Try.ntmps39
  go_upto_region 2 with (go_at_call 49; with_reducible refine (Bits10_c n (by omega) _).mono ?_; rintro e w1 ⟨⟨B, d, rfl, hsl⟩, hb1⟩; obtain ⟨y0, y1, y2, y3, y4, y5, y6, y7, y8⟩ := cells9 (hb1.heap (alloc1 w (.cells #[.int .i64 1, .slice Ag ng cg, .slice Aw nw cw, .slice Ab nb cb, .slice Ac nc cc, .int .i64 f.ripe, .int .i64 f.late, .int .i64 f.trod, .slice Al nl cl] 26)).1); have HSL := hid hsl; have HBL := hid hsl.len; clear hsl)
  have hm1 : ((M.bits10 n).length : Int) ≤ nb := by omega
  have hm2 : ¬ ((nb : Int) < (M.bits10 n).length) := by omega
  have HT := hid (show (M.bits10 n).take f.base.length = M.bits10 n from List.take_of_length_le (by rw [HNB.out]; exact hm))
  generalize M.bits10 n = bs at HSL HBL HPL HT hm hm1 hm2
  have hcap := HSL.out.cap
  go_wp2
  refine bodyPost_ret (v := .slice B bs.length d) (by simp [results, Try.results39, go_sem]) rfl ?_
  exact ⟨⟨bs, by have := HPL.out; rw [HT.out] at this; exact this, B, d, rfl, HSL.out⟩, (Ev.alloc (Ev.refl _) _).trans hb1⟩
 ·
  go_enter Try.func39, Try.ntmps39
  go_upto_region 2 with (go_at_call 49; with_reducible refine (Bits10_c n (by omega) _).mono ?_; rintro e w1 ⟨⟨B, d, rfl, hsl⟩, hb1⟩; obtain ⟨y0, y1, y2, y3, y4, y5, y6, y7, y8⟩ := cells9 (hb1.heap (alloc1 w (.cells #[.int .i64 1, .slice Ag ng cg, .slice Aw nw cw, .slice Ab nb cb, .slice Ac nc cc, .int .i64 f.ripe, .int .i64 f.late, .int .i64 f.trod, .slice Al nl cl] 26)).1); have HSL := hid hsl; have HBL := hid hsl.len; clear hsl)
  have hm1 : ¬ (((M.bits10 n).length : Int) ≤ nb) := by omega
  have hm2 : (nb : Int) < (M.bits10 n).length := by omega
  have hm3 : (nb : Int) ≤ (M.bits10 n).length := by omega
  have HLT := hid (show ((M.bits10 n).take nb).length = nb by rw [List.length_take]; omega)
  rw [HNB.out] at HPL
  generalize M.bits10 n = bs at HSL HBL HPL HLT hm hm1 hm2 hm3
  have hcap := HSL.out.cap
  obtain ⟨b, off, hB, _⟩ := HSL.out.cells (by omega)
  subst hB
  have hm4 : (nb : Int) ≤ d := by omega
  go_wp2
  refine bodyPost_ret (v := .slice (some ⟨b, off, none⟩) nb d) (by simp [results, Try.results39, go_sem]) rfl ?_
  exact ⟨⟨bs.take nb, HPL.out, some ⟨b, off, none⟩, d, by rw [HLT.out], by rw [HLT.out]; exact HSL.out.take (by omega)⟩, (Ev.alloc (Ev.refl _) _).trans hb1⟩

set_option maxRecDepth 100000 in
set_option maxHeartbeats 1000000 in
theorem planned_2 (f : M.Cf) (Ag Aw Ab Ac Al : Option Addr) (ng cg nw cw nb cb nc cc nl cl : Nat) (hv : M.valid f = true) (hL : f.last = 2) (a : Int) (h0 : 0 ≤ a) (h1 : a < 65536) (w : World) (hnb : f.base.length = nb) (hb3 : nb ≤ 3) :
  Calls Try.prog 39 #[.agg #[.int .i64 2, .slice Ag ng cg, .slice Aw nw cw, .slice Ab nb cb, .slice Ac nc cc, .int .i64 f.ripe, .int .i64 f.late, .int .i64 f.trod, .slice Al nl cl], .int .u16 a] w fun e w' => (∃ plan, M.isPlan f plan = true ∧ ∃ B d, e = .returned (.slice B plan.length d) ∧ Sl ics 1 w' w'.heap.size B plan.length d plan) ∧ Ev w w' := by
 obtain ⟨n, hn, he⟩ := and_low (a := a) (r := 3) (by omega)
 have he' : Go.bits .and .i64 a 7 = (n : Int) := he
 have hn2 : n ≤ 7 := hn
 have g0 : IntKind.i64.wrap a = a := IntWalk.i64_in _ (by omega)
 have HPL := hid (M.planned_plan hv (by omega) (b := n) (by rw [hL]; exact hn))
 have HNB := hid hnb
 clear he hn hnb
 by_cases hm : (M.bits10 n).length ≤ nb
 ·
  go_enter Try.func39, Try.ntmps39
  go_upto_region 2 with (go_at_call 49; with_reducible refine (Bits10_c n (by omega) _).mono ?_; rintro e w1 ⟨⟨B, d, rfl, hsl⟩, hb1⟩; obtain ⟨y0, y1, y2, y3, y4, y5, y6, y7, y8⟩ := cells9 (hb1.heap (alloc1 w (.cells #[.int .i64 2, .slice Ag ng cg, .slice Aw nw cw, .slice Ab nb cb, .slice Ac nc cc, .int .i64 f.ripe, .int .i64 f.late, .int .i64 f.trod, .slice Al nl cl] 26)).1); have HSL := hid hsl; have HBL := hid hsl.len; clear hsl)
  have hm1 : ((M.bits10 n).length : Int) ≤ nb := by omega
  have hm2 : ¬ ((nb : Int) < (M.bits10 n).length) := by omega
  have HT := hid (show (M.bits10 n).take f.base.length = M.bits10 n from List.take_of_length_le (by rw [HNB.out]; exact hm))
  generalize M.bits10 n = bs at HSL HBL HPL HT hm hm1 hm2
  have hcap := HSL.out.cap
  go_wp2
  refine bodyPost_ret (v := .slice B bs.length d) (by simp [results, Try.results39, go_sem]) rfl ?_
  exact ⟨⟨bs, by have := HPL.out; rw [HT.out] at this; exact this, B, d, rfl, HSL.out⟩, (Ev.alloc (Ev.refl _) _).trans hb1⟩
 ·
  go_enter Try.func39, Try.ntmps39
  go_upto_region 2 with (go_at_call 49; with_reducible refine (Bits10_c n (by omega) _).mono ?_; rintro e w1 ⟨⟨B, d, rfl, hsl⟩, hb1⟩; obtain ⟨y0, y1, y2, y3, y4, y5, y6, y7, y8⟩ := cells9 (hb1.heap (alloc1 w (.cells #[.int .i64 2, .slice Ag ng cg, .slice Aw nw cw, .slice Ab nb cb, .slice Ac nc cc, .int .i64 f.ripe, .int .i64 f.late, .int .i64 f.trod, .slice Al nl cl] 26)).1); have HSL := hid hsl; have HBL := hid hsl.len; clear hsl)
  have hm1 : ¬ (((M.bits10 n).length : Int) ≤ nb) := by omega
  have hm2 : (nb : Int) < (M.bits10 n).length := by omega
  have hm3 : (nb : Int) ≤ (M.bits10 n).length := by omega
  have HLT := hid (show ((M.bits10 n).take nb).length = nb by rw [List.length_take]; omega)
  rw [HNB.out] at HPL
  generalize M.bits10 n = bs at HSL HBL HPL HLT hm hm1 hm2 hm3
  have hcap := HSL.out.cap
  obtain ⟨b, off, hB, _⟩ := HSL.out.cells (by omega)
  subst hB
  have hm4 : (nb : Int) ≤ d := by omega
  go_wp2
  refine bodyPost_ret (v := .slice (some ⟨b, off, none⟩) nb d) (by simp [results, Try.results39, go_sem]) rfl ?_
  exact ⟨⟨bs.take nb, HPL.out, some ⟨b, off, none⟩, d, by rw [HLT.out], by rw [HLT.out]; exact HSL.out.take (by omega)⟩, (Ev.alloc (Ev.refl _) _).trans hb1⟩

set_option maxRecDepth 100000 in
set_option maxHeartbeats 1000000 in
theorem planned_3 (f : M.Cf) (Ag Aw Ab Ac Al : Option Addr) (ng cg nw cw nb cb nc cc nl cl : Nat) (hv : M.valid f = true) (hL : f.last = 3) (a : Int) (h0 : 0 ≤ a) (h1 : a < 65536) (w : World) (hnb : f.base.length = nb) (hb3 : nb ≤ 3) :
  Calls Try.prog 39 #[.agg #[.int .i64 3, .slice Ag ng cg, .slice Aw nw cw, .slice Ab nb cb, .slice Ac nc cc, .int .i64 f.ripe, .int .i64 f.late, .int .i64 f.trod, .slice Al nl cl], .int .u16 a] w fun e w' => (∃ plan, M.isPlan f plan = true ∧ ∃ B d, e = .returned (.slice B plan.length d) ∧ Sl ics 1 w' w'.heap.size B plan.length d plan) ∧ Ev w w' := by
 obtain ⟨n, hn, he⟩ := and_low (a := a) (r := 4) (by omega)
 have he' : Go.bits .and .i64 a 15 = (n : Int) := he
 have hn2 : n ≤ 15 := hn
 have g0 : IntKind.i64.wrap a = a := IntWalk.i64_in _ (by omega)
 have HPL := hid (M.planned_plan hv (by omega) (b := n) (by rw [hL]; exact hn))
 have HNB := hid hnb
 clear he hn hnb
 by_cases hm : (M.bits10 n).length ≤ nb
 ·
  go_enter Try.func39, Try.ntmps39
  go_upto_region 2 with (go_at_call 49; with_reducible refine (Bits10_c n (by omega) _).mono ?_; rintro e w1 ⟨⟨B, d, rfl, hsl⟩, hb1⟩; obtain ⟨y0, y1, y2, y3, y4, y5, y6, y7, y8⟩ := cells9 (hb1.heap (alloc1 w (.cells #[.int .i64 3, .slice Ag ng cg, .slice Aw nw cw, .slice Ab nb cb, .slice Ac nc cc, .int .i64 f.ripe, .int .i64 f.late, .int .i64 f.trod, .slice Al nl cl] 26)).1); have HSL := hid hsl; have HBL := hid hsl.len; clear hsl)
  have hm1 : ((M.bits10 n).length : Int) ≤ nb := by omega
  have hm2 : ¬ ((nb : Int) < (M.bits10 n).length) := by omega
  have HT := hid (show (M.bits10 n).take f.base.length = M.bits10 n from List.take_of_length_le (by rw [HNB.out]; exact hm))
  generalize M.bits10 n = bs at HSL HBL HPL HT hm hm1 hm2
  have hcap := HSL.out.cap
  go_wp2
  refine bodyPost_ret (v := .slice B bs.length d) (by simp [results, Try.results39, go_sem]) rfl ?_
  exact ⟨⟨bs, by have := HPL.out; rw [HT.out] at this; exact this, B, d, rfl, HSL.out⟩, (Ev.alloc (Ev.refl _) _).trans hb1⟩
 ·
  go_enter Try.func39, Try.ntmps39
  go_upto_region 2 with (go_at_call 49; with_reducible refine (Bits10_c n (by omega) _).mono ?_; rintro e w1 ⟨⟨B, d, rfl, hsl⟩, hb1⟩; obtain ⟨y0, y1, y2, y3, y4, y5, y6, y7, y8⟩ := cells9 (hb1.heap (alloc1 w (.cells #[.int .i64 3, .slice Ag ng cg, .slice Aw nw cw, .slice Ab nb cb, .slice Ac nc cc, .int .i64 f.ripe, .int .i64 f.late, .int .i64 f.trod, .slice Al nl cl] 26)).1); have HSL := hid hsl; have HBL := hid hsl.len; clear hsl)
  have hm1 : ¬ (((M.bits10 n).length : Int) ≤ nb) := by omega
  have hm2 : (nb : Int) < (M.bits10 n).length := by omega
  have hm3 : (nb : Int) ≤ (M.bits10 n).length := by omega
  have HLT := hid (show ((M.bits10 n).take nb).length = nb by rw [List.length_take]; omega)
  rw [HNB.out] at HPL
  generalize M.bits10 n = bs at HSL HBL HPL HLT hm hm1 hm2 hm3
  have hcap := HSL.out.cap
  obtain ⟨b, off, hB, _⟩ := HSL.out.cells (by omega)
  subst hB
  have hm4 : (nb : Int) ≤ d := by omega
  go_wp2
  refine bodyPost_ret (v := .slice (some ⟨b, off, none⟩) nb d) (by simp [results, Try.results39, go_sem]) rfl ?_
  exact ⟨⟨bs.take nb, HPL.out, some ⟨b, off, none⟩, d, by rw [HLT.out], by rw [HLT.out]; exact HSL.out.take (by omega)⟩, (Ev.alloc (Ev.refl _) _).trans hb1⟩

set_option maxRecDepth 100000 in
set_option maxHeartbeats 1000000 in
theorem planned_4 (f : M.Cf) (Ag Aw Ab Ac Al : Option Addr) (ng cg nw cw nb cb nc cc nl cl : Nat) (hv : M.valid f = true) (hL : f.last = 4) (a : Int) (h0 : 0 ≤ a) (h1 : a < 65536) (w : World) (hnb : f.base.length = nb) (hb3 : nb ≤ 3) :
  Calls Try.prog 39 #[.agg #[.int .i64 4, .slice Ag ng cg, .slice Aw nw cw, .slice Ab nb cb, .slice Ac nc cc, .int .i64 f.ripe, .int .i64 f.late, .int .i64 f.trod, .slice Al nl cl], .int .u16 a] w fun e w' => (∃ plan, M.isPlan f plan = true ∧ ∃ B d, e = .returned (.slice B plan.length d) ∧ Sl ics 1 w' w'.heap.size B plan.length d plan) ∧ Ev w w' := by
 obtain ⟨n, hn, he⟩ := and_low (a := a) (r := 5) (by omega)
 have he' : Go.bits .and .i64 a 31 = (n : Int) := he
 have hn2 : n ≤ 31 := hn
 have g0 : IntKind.i64.wrap a = a := IntWalk.i64_in _ (by omega)
 have HPL := hid (M.planned_plan hv (by omega) (b := n) (by rw [hL]; exact hn))
 have HNB := hid hnb
 clear he hn hnb
 by_cases hm : (M.bits10 n).length ≤ nb
 ·
  go_enter Try.func39, Try.ntmps39
  go_upto_region 2 with (go_at_call 49; with_reducible refine (Bits10_c n (by omega) _).mono ?_; rintro e w1 ⟨⟨B, d, rfl, hsl⟩, hb1⟩; obtain ⟨y0, y1, y2, y3, y4, y5, y6, y7, y8⟩ := cells9 (hb1.heap (alloc1 w (.cells #[.int .i64 4, .slice Ag ng cg, .slice Aw nw cw, .slice Ab nb cb, .slice Ac nc cc, .int .i64 f.ripe, .int .i64 f.late, .int .i64 f.trod, .slice Al nl cl] 26)).1); have HSL := hid hsl; have HBL := hid hsl.len; clear hsl)
  have hm1 : ((M.bits10 n).length : Int) ≤ nb := by omega
  have hm2 : ¬ ((nb : Int) < (M.bits10 n).length) := by omega
  have HT := hid (show (M.bits10 n).take f.base.length = M.bits10 n from List.take_of_length_le (by rw [HNB.out]; exact hm))
  generalize M.bits10 n = bs at HSL HBL HPL HT hm hm1 hm2
  have hcap := HSL.out.cap
  go_wp2
  refine bodyPost_ret (v := .slice B bs.length d) (by simp [results, Try.results39, go_sem]) rfl ?_
  exact ⟨⟨bs, by have := HPL.out; rw [HT.out] at this; exact this, B, d, rfl, HSL.out⟩, (Ev.alloc (Ev.refl _) _).trans hb1⟩
 ·
  go_enter Try.func39, Try.ntmps39
  go_upto_region 2 with (go_at_call 49; with_reducible refine (Bits10_c n (by omega) _).mono ?_; rintro e w1 ⟨⟨B, d, rfl, hsl⟩, hb1⟩; obtain ⟨y0, y1, y2, y3, y4, y5, y6, y7, y8⟩ := cells9 (hb1.heap (alloc1 w (.cells #[.int .i64 4, .slice Ag ng cg, .slice Aw nw cw, .slice Ab nb cb, .slice Ac nc cc, .int .i64 f.ripe, .int .i64 f.late, .int .i64 f.trod, .slice Al nl cl] 26)).1); have HSL := hid hsl; have HBL := hid hsl.len; clear hsl)
  have hm1 : ¬ (((M.bits10 n).length : Int) ≤ nb) := by omega
  have hm2 : (nb : Int) < (M.bits10 n).length := by omega
  have hm3 : (nb : Int) ≤ (M.bits10 n).length := by omega
  have HLT := hid (show ((M.bits10 n).take nb).length = nb by rw [List.length_take]; omega)
  rw [HNB.out] at HPL
  generalize M.bits10 n = bs at HSL HBL HPL HLT hm hm1 hm2 hm3
  have hcap := HSL.out.cap
  obtain ⟨b, off, hB, _⟩ := HSL.out.cells (by omega)
  subst hB
  have hm4 : (nb : Int) ≤ d := by omega
  go_wp2
  refine bodyPost_ret (v := .slice (some ⟨b, off, none⟩) nb d) (by simp [results, Try.results39, go_sem]) rfl ?_
  exact ⟨⟨bs.take nb, HPL.out, some ⟨b, off, none⟩, d, by rw [HLT.out], by rw [HLT.out]; exact HSL.out.take (by omega)⟩, (Ev.alloc (Ev.refl _) _).trans hb1⟩

set_option maxRecDepth 100000 in
set_option maxHeartbeats 1000000 in
theorem planned_5 (f : M.Cf) (Ag Aw Ab Ac Al : Option Addr) (ng cg nw cw nb cb nc cc nl cl : Nat) (hv : M.valid f = true) (hL : f.last = 5) (a : Int) (h0 : 0 ≤ a) (h1 : a < 65536) (w : World) (hnb : f.base.length = nb) (hb3 : nb ≤ 3) :
  Calls Try.prog 39 #[.agg #[.int .i64 5, .slice Ag ng cg, .slice Aw nw cw, .slice Ab nb cb, .slice Ac nc cc, .int .i64 f.ripe, .int .i64 f.late, .int .i64 f.trod, .slice Al nl cl], .int .u16 a] w fun e w' => (∃ plan, M.isPlan f plan = true ∧ ∃ B d, e = .returned (.slice B plan.length d) ∧ Sl ics 1 w' w'.heap.size B plan.length d plan) ∧ Ev w w' := by
 obtain ⟨n, hn, he⟩ := and_low (a := a) (r := 6) (by omega)
 have he' : Go.bits .and .i64 a 63 = (n : Int) := he
 have hn2 : n ≤ 63 := hn
 have g0 : IntKind.i64.wrap a = a := IntWalk.i64_in _ (by omega)
 have HPL := hid (M.planned_plan hv (by omega) (b := n) (by rw [hL]; exact hn))
 have HNB := hid hnb
 clear he hn hnb
 by_cases hm : (M.bits10 n).length ≤ nb
 ·
  go_enter Try.func39, Try.ntmps39
  go_upto_region 2 with (go_at_call 49; with_reducible refine (Bits10_c n (by omega) _).mono ?_; rintro e w1 ⟨⟨B, d, rfl, hsl⟩, hb1⟩; obtain ⟨y0, y1, y2, y3, y4, y5, y6, y7, y8⟩ := cells9 (hb1.heap (alloc1 w (.cells #[.int .i64 5, .slice Ag ng cg, .slice Aw nw cw, .slice Ab nb cb, .slice Ac nc cc, .int .i64 f.ripe, .int .i64 f.late, .int .i64 f.trod, .slice Al nl cl] 26)).1); have HSL := hid hsl; have HBL := hid hsl.len; clear hsl)
  have hm1 : ((M.bits10 n).length : Int) ≤ nb := by omega
  have hm2 : ¬ ((nb : Int) < (M.bits10 n).length) := by omega
  have HT := hid (show (M.bits10 n).take f.base.length = M.bits10 n from List.take_of_length_le (by rw [HNB.out]; exact hm))
  generalize M.bits10 n = bs at HSL HBL HPL HT hm hm1 hm2
  have hcap := HSL.out.cap
  go_wp2
  refine bodyPost_ret (v := .slice B bs.length d) (by simp [results, Try.results39, go_sem]) rfl ?_
  exact ⟨⟨bs, by have := HPL.out; rw [HT.out] at this; exact this, B, d, rfl, HSL.out⟩, (Ev.alloc (Ev.refl _) _).trans hb1⟩
 ·
  go_enter Try.func39, Try.ntmps39
  go_upto_region 2 with (go_at_call 49; with_reducible refine (Bits10_c n (by omega) _).mono ?_; rintro e w1 ⟨⟨B, d, rfl, hsl⟩, hb1⟩; obtain ⟨y0, y1, y2, y3, y4, y5, y6, y7, y8⟩ := cells9 (hb1.heap (alloc1 w (.cells #[.int .i64 5, .slice Ag ng cg, .slice Aw nw cw, .slice Ab nb cb, .slice Ac nc cc, .int .i64 f.ripe, .int .i64 f.late, .int .i64 f.trod, .slice Al nl cl] 26)).1); have HSL := hid hsl; have HBL := hid hsl.len; clear hsl)
  have hm1 : ¬ (((M.bits10 n).length : Int) ≤ nb) := by omega
  have hm2 : (nb : Int) < (M.bits10 n).length := by omega
  have hm3 : (nb : Int) ≤ (M.bits10 n).length := by omega
  have HLT := hid (show ((M.bits10 n).take nb).length = nb by rw [List.length_take]; omega)
  rw [HNB.out] at HPL
  generalize M.bits10 n = bs at HSL HBL HPL HLT hm hm1 hm2 hm3
  have hcap := HSL.out.cap
  obtain ⟨b, off, hB, _⟩ := HSL.out.cells (by omega)
  subst hB
  have hm4 : (nb : Int) ≤ d := by omega
  go_wp2
  refine bodyPost_ret (v := .slice (some ⟨b, off, none⟩) nb d) (by simp [results, Try.results39, go_sem]) rfl ?_
  exact ⟨⟨bs.take nb, HPL.out, some ⟨b, off, none⟩, d, by rw [HLT.out], by rw [HLT.out]; exact HSL.out.take (by omega)⟩, (Ev.alloc (Ev.refl _) _).trans hb1⟩

set_option maxRecDepth 100000 in
set_option maxHeartbeats 1000000 in
theorem planned_6 (f : M.Cf) (Ag Aw Ab Ac Al : Option Addr) (ng cg nw cw nb cb nc cc nl cl : Nat) (hv : M.valid f = true) (hL : f.last = 6) (a : Int) (h0 : 0 ≤ a) (h1 : a < 65536) (w : World) (hnb : f.base.length = nb) (hb3 : nb ≤ 3) :
  Calls Try.prog 39 #[.agg #[.int .i64 6, .slice Ag ng cg, .slice Aw nw cw, .slice Ab nb cb, .slice Ac nc cc, .int .i64 f.ripe, .int .i64 f.late, .int .i64 f.trod, .slice Al nl cl], .int .u16 a] w fun e w' => (∃ plan, M.isPlan f plan = true ∧ ∃ B d, e = .returned (.slice B plan.length d) ∧ Sl ics 1 w' w'.heap.size B plan.length d plan) ∧ Ev w w' := by
 obtain ⟨n, hn, he⟩ := and_low (a := a) (r := 7) (by omega)
 have he' : Go.bits .and .i64 a 127 = (n : Int) := he
 have hn2 : n ≤ 127 := hn
 have g0 : IntKind.i64.wrap a = a := IntWalk.i64_in _ (by omega)
 have HPL := hid (M.planned_plan hv (by omega) (b := n) (by rw [hL]; exact hn))
 have HNB := hid hnb
 clear he hn hnb
 by_cases hm : (M.bits10 n).length ≤ nb
 ·
  go_enter Try.func39, Try.ntmps39
  go_upto_region 2 with (go_at_call 49; with_reducible refine (Bits10_c n (by omega) _).mono ?_; rintro e w1 ⟨⟨B, d, rfl, hsl⟩, hb1⟩; obtain ⟨y0, y1, y2, y3, y4, y5, y6, y7, y8⟩ := cells9 (hb1.heap (alloc1 w (.cells #[.int .i64 6, .slice Ag ng cg, .slice Aw nw cw, .slice Ab nb cb, .slice Ac nc cc, .int .i64 f.ripe, .int .i64 f.late, .int .i64 f.trod, .slice Al nl cl] 26)).1); have HSL := hid hsl; have HBL := hid hsl.len; clear hsl)
  have hm1 : ((M.bits10 n).length : Int) ≤ nb := by omega
  have hm2 : ¬ ((nb : Int) < (M.bits10 n).length) := by omega
  have HT := hid (show (M.bits10 n).take f.base.length = M.bits10 n from List.take_of_length_le (by rw [HNB.out]; exact hm))
  generalize M.bits10 n = bs at HSL HBL HPL HT hm hm1 hm2
  have hcap := HSL.out.cap
  go_wp2
  refine bodyPost_ret (v := .slice B bs.length d) (by simp [results, Try.results39, go_sem]) rfl ?_
  exact ⟨⟨bs, by have := HPL.out; rw [HT.out] at this; exact this, B, d, rfl, HSL.out⟩, (Ev.alloc (Ev.refl _) _).trans hb1⟩
 ·
  go_enter Try.func39, Try.ntmps39
  go_upto_region 2 with (go_at_call 49; with_reducible refine (Bits10_c n (by omega) _).mono ?_; rintro e w1 ⟨⟨B, d, rfl, hsl⟩, hb1⟩; obtain ⟨y0, y1, y2, y3, y4, y5, y6, y7, y8⟩ := cells9 (hb1.heap (alloc1 w (.cells #[.int .i64 6, .slice Ag ng cg, .slice Aw nw cw, .slice Ab nb cb, .slice Ac nc cc, .int .i64 f.ripe, .int .i64 f.late, .int .i64 f.trod, .slice Al nl cl] 26)).1); have HSL := hid hsl; have HBL := hid hsl.len; clear hsl)
  have hm1 : ¬ (((M.bits10 n).length : Int) ≤ nb) := by omega
  have hm2 : (nb : Int) < (M.bits10 n).length := by omega
  have hm3 : (nb : Int) ≤ (M.bits10 n).length := by omega
  have HLT := hid (show ((M.bits10 n).take nb).length = nb by rw [List.length_take]; omega)
  rw [HNB.out] at HPL
  generalize M.bits10 n = bs at HSL HBL HPL HLT hm hm1 hm2 hm3
  have hcap := HSL.out.cap
  obtain ⟨b, off, hB, _⟩ := HSL.out.cells (by omega)
  subst hB
  have hm4 : (nb : Int) ≤ d := by omega
  go_wp2
  refine bodyPost_ret (v := .slice (some ⟨b, off, none⟩) nb d) (by simp [results, Try.results39, go_sem]) rfl ?_
  exact ⟨⟨bs.take nb, HPL.out, some ⟨b, off, none⟩, d, by rw [HLT.out], by rw [HLT.out]; exact HSL.out.take (by omega)⟩, (Ev.alloc (Ev.refl _) _).trans hb1⟩

set_option maxRecDepth 100000 in
set_option maxHeartbeats 1000000 in
theorem planned_7 (f : M.Cf) (Ag Aw Ab Ac Al : Option Addr) (ng cg nw cw nb cb nc cc nl cl : Nat) (hv : M.valid f = true) (hL : f.last = 7) (a : Int) (h0 : 0 ≤ a) (h1 : a < 65536) (w : World) (hnb : f.base.length = nb) (hb3 : nb ≤ 3) :
  Calls Try.prog 39 #[.agg #[.int .i64 7, .slice Ag ng cg, .slice Aw nw cw, .slice Ab nb cb, .slice Ac nc cc, .int .i64 f.ripe, .int .i64 f.late, .int .i64 f.trod, .slice Al nl cl], .int .u16 a] w fun e w' => (∃ plan, M.isPlan f plan = true ∧ ∃ B d, e = .returned (.slice B plan.length d) ∧ Sl ics 1 w' w'.heap.size B plan.length d plan) ∧ Ev w w' := by
 obtain ⟨n, hn, he⟩ := and_low (a := a) (r := 8) (by omega)
 have he' : Go.bits .and .i64 a 255 = (n : Int) := he
 have hn2 : n ≤ 255 := hn
 have g0 : IntKind.i64.wrap a = a := IntWalk.i64_in _ (by omega)
 have HPL := hid (M.planned_plan hv (by omega) (b := n) (by rw [hL]; exact hn))
 have HNB := hid hnb
 clear he hn hnb
 by_cases hm : (M.bits10 n).length ≤ nb
 ·
  go_enter Try.func39, Try.ntmps39
  go_upto_region 2 with (go_at_call 49; with_reducible refine (Bits10_c n (by omega) _).mono ?_; rintro e w1 ⟨⟨B, d, rfl, hsl⟩, hb1⟩; obtain ⟨y0, y1, y2, y3, y4, y5, y6, y7, y8⟩ := cells9 (hb1.heap (alloc1 w (.cells #[.int .i64 7, .slice Ag ng cg, .slice Aw nw cw, .slice Ab nb cb, .slice Ac nc cc, .int .i64 f.ripe, .int .i64 f.late, .int .i64 f.trod, .slice Al nl cl] 26)).1); have HSL := hid hsl; have HBL := hid hsl.len; clear hsl)
  have hm1 : ((M.bits10 n).length : Int) ≤ nb := by omega
  have hm2 : ¬ ((nb : Int) < (M.bits10 n).length) := by omega
  have HT := hid (show (M.bits10 n).take f.base.length = M.bits10 n from List.take_of_length_le (by rw [HNB.out]; exact hm))
  generalize M.bits10 n = bs at HSL HBL HPL HT hm hm1 hm2
  have hcap := HSL.out.cap
  go_wp2
  refine bodyPost_ret (v := .slice B bs.length d) (by simp [results, Try.results39, go_sem]) rfl ?_
  exact ⟨⟨bs, by have := HPL.out; rw [HT.out] at this; exact this, B, d, rfl, HSL.out⟩, (Ev.alloc (Ev.refl _) _).trans hb1⟩
 ·
  go_enter Try.func39, Try.ntmps39
  go_upto_region 2 with (go_at_call 49; with_reducible refine (Bits10_c n (by omega) _).mono ?_; rintro e w1 ⟨⟨B, d, rfl, hsl⟩, hb1⟩; obtain ⟨y0, y1, y2, y3, y4, y5, y6, y7, y8⟩ := cells9 (hb1.heap (alloc1 w (.cells #[.int .i64 7, .slice Ag ng cg, .slice Aw nw cw, .slice Ab nb cb, .slice Ac nc cc, .int .i64 f.ripe, .int .i64 f.late, .int .i64 f.trod, .slice Al nl cl] 26)).1); have HSL := hid hsl; have HBL := hid hsl.len; clear hsl)
  have hm1 : ¬ (((M.bits10 n).length : Int) ≤ nb) := by omega
  have hm2 : (nb : Int) < (M.bits10 n).length := by omega
  have hm3 : (nb : Int) ≤ (M.bits10 n).length := by omega
  have HLT := hid (show ((M.bits10 n).take nb).length = nb by rw [List.length_take]; omega)
  rw [HNB.out] at HPL
  generalize M.bits10 n = bs at HSL HBL HPL HLT hm hm1 hm2 hm3
  have hcap := HSL.out.cap
  obtain ⟨b, off, hB, _⟩ := HSL.out.cells (by omega)
  subst hB
  have hm4 : (nb : Int) ≤ d := by omega
  go_wp2
  refine bodyPost_ret (v := .slice (some ⟨b, off, none⟩) nb d) (by simp [results, Try.results39, go_sem]) rfl ?_
  exact ⟨⟨bs.take nb, HPL.out, some ⟨b, off, none⟩, d, by rw [HLT.out], by rw [HLT.out]; exact HSL.out.take (by omega)⟩, (Ev.alloc (Ev.refl _) _).trans hb1⟩

set_option maxRecDepth 100000 in
set_option maxHeartbeats 1000000 in
theorem planned_8 (f : M.Cf) (Ag Aw Ab Ac Al : Option Addr) (ng cg nw cw nb cb nc cc nl cl : Nat) (hv : M.valid f = true) (hL : f.last = 8) (a : Int) (h0 : 0 ≤ a) (h1 : a < 65536) (w : World) (hnb : f.base.length = nb) (hb3 : nb ≤ 3) :
  Calls Try.prog 39 #[.agg #[.int .i64 8, .slice Ag ng cg, .slice Aw nw cw, .slice Ab nb cb, .slice Ac nc cc, .int .i64 f.ripe, .int .i64 f.late, .int .i64 f.trod, .slice Al nl cl], .int .u16 a] w fun e w' => (∃ plan, M.isPlan f plan = true ∧ ∃ B d, e = .returned (.slice B plan.length d) ∧ Sl ics 1 w' w'.heap.size B plan.length d plan) ∧ Ev w w' := by
 obtain ⟨n, hn, he⟩ := and_low (a := a) (r := 9) (by omega)
 have he' : Go.bits .and .i64 a 511 = (n : Int) := he
 have hn2 : n ≤ 511 := hn
 have g0 : IntKind.i64.wrap a = a := IntWalk.i64_in _ (by omega)
 have HPL := hid (M.planned_plan hv (by omega) (b := n) (by rw [hL]; exact hn))
 have HNB := hid hnb
 clear he hn hnb
 by_cases hm : (M.bits10 n).length ≤ nb
 ·
  go_enter Try.func39, Try.ntmps39
  go_upto_region 2 with (go_at_call 49; with_reducible refine (Bits10_c n (by omega) _).mono ?_; rintro e w1 ⟨⟨B, d, rfl, hsl⟩, hb1⟩; obtain ⟨y0, y1, y2, y3, y4, y5, y6, y7, y8⟩ := cells9 (hb1.heap (alloc1 w (.cells #[.int .i64 8, .slice Ag ng cg, .slice Aw nw cw, .slice Ab nb cb, .slice Ac nc cc, .int .i64 f.ripe, .int .i64 f.late, .int .i64 f.trod, .slice Al nl cl] 26)).1); have HSL := hid hsl; have HBL := hid hsl.len; clear hsl)
  have hm1 : ((M.bits10 n).length : Int) ≤ nb := by omega
  have hm2 : ¬ ((nb : Int) < (M.bits10 n).length) := by omega
  have HT := hid (show (M.bits10 n).take f.base.length = M.bits10 n from List.take_of_length_le (by rw [HNB.out]; exact hm))
  generalize M.bits10 n = bs at HSL HBL HPL HT hm hm1 hm2
  have hcap := HSL.out.cap
  go_wp2
  refine bodyPost_ret (v := .slice B bs.length d) (by simp [results, Try.results39, go_sem]) rfl ?_
  exact ⟨⟨bs, by have := HPL.out; rw [HT.out] at this; exact this, B, d, rfl, HSL.out⟩, (Ev.alloc (Ev.refl _) _).trans hb1⟩
 ·
  go_enter Try.func39, Try.ntmps39
  go_upto_region 2 with (go_at_call 49; with_reducible refine (Bits10_c n (by omega) _).mono ?_; rintro e w1 ⟨⟨B, d, rfl, hsl⟩, hb1⟩; obtain ⟨y0, y1, y2, y3, y4, y5, y6, y7, y8⟩ := cells9 (hb1.heap (alloc1 w (.cells #[.int .i64 8, .slice Ag ng cg, .slice Aw nw cw, .slice Ab nb cb, .slice Ac nc cc, .int .i64 f.ripe, .int .i64 f.late, .int .i64 f.trod, .slice Al nl cl] 26)).1); have HSL := hid hsl; have HBL := hid hsl.len; clear hsl)
  have hm1 : ¬ (((M.bits10 n).length : Int) ≤ nb) := by omega
  have hm2 : (nb : Int) < (M.bits10 n).length := by omega
  have hm3 : (nb : Int) ≤ (M.bits10 n).length := by omega
  have HLT := hid (show ((M.bits10 n).take nb).length = nb by rw [List.length_take]; omega)
  rw [HNB.out] at HPL
  generalize M.bits10 n = bs at HSL HBL HPL HLT hm hm1 hm2 hm3
  have hcap := HSL.out.cap
  obtain ⟨b, off, hB, _⟩ := HSL.out.cells (by omega)
  subst hB
  have hm4 : (nb : Int) ≤ d := by omega
  go_wp2
  refine bodyPost_ret (v := .slice (some ⟨b, off, none⟩) nb d) (by simp [results, Try.results39, go_sem]) rfl ?_
  exact ⟨⟨bs.take nb, HPL.out, some ⟨b, off, none⟩, d, by rw [HLT.out], by rw [HLT.out]; exact HSL.out.take (by omega)⟩, (Ev.alloc (Ev.refl _) _).trans hb1⟩

set_option maxRecDepth 100000 in
set_option maxHeartbeats 1000000 in
theorem planned_9 (f : M.Cf) (Ag Aw Ab Ac Al : Option Addr) (ng cg nw cw nb cb nc cc nl cl : Nat) (hv : M.valid f = true) (hL : f.last = 9) (a : Int) (h0 : 0 ≤ a) (h1 : a < 65536) (w : World) (hnb : f.base.length = nb) (hb3 : nb ≤ 3) :
  Calls Try.prog 39 #[.agg #[.int .i64 9, .slice Ag ng cg, .slice Aw nw cw, .slice Ab nb cb, .slice Ac nc cc, .int .i64 f.ripe, .int .i64 f.late, .int .i64 f.trod, .slice Al nl cl], .int .u16 a] w fun e w' => (∃ plan, M.isPlan f plan = true ∧ ∃ B d, e = .returned (.slice B plan.length d) ∧ Sl ics 1 w' w'.heap.size B plan.length d plan) ∧ Ev w w' := by
 obtain ⟨n, hn, he⟩ := and_low (a := a) (r := 10) (by omega)
 have he' : Go.bits .and .i64 a 1023 = (n : Int) := he
 have hn2 : n ≤ 1023 := hn
 have g0 : IntKind.i64.wrap a = a := IntWalk.i64_in _ (by omega)
 have HPL := hid (M.planned_plan hv (by omega) (b := n) (by rw [hL]; exact hn))
 have HNB := hid hnb
 clear he hn hnb
 by_cases hm : (M.bits10 n).length ≤ nb
 ·
  go_enter Try.func39, Try.ntmps39
  go_upto_region 2 with (go_at_call 49; with_reducible refine (Bits10_c n (by omega) _).mono ?_; rintro e w1 ⟨⟨B, d, rfl, hsl⟩, hb1⟩; obtain ⟨y0, y1, y2, y3, y4, y5, y6, y7, y8⟩ := cells9 (hb1.heap (alloc1 w (.cells #[.int .i64 9, .slice Ag ng cg, .slice Aw nw cw, .slice Ab nb cb, .slice Ac nc cc, .int .i64 f.ripe, .int .i64 f.late, .int .i64 f.trod, .slice Al nl cl] 26)).1); have HSL := hid hsl; have HBL := hid hsl.len; clear hsl)
  have hm1 : ((M.bits10 n).length : Int) ≤ nb := by omega
  have hm2 : ¬ ((nb : Int) < (M.bits10 n).length) := by omega
  have HT := hid (show (M.bits10 n).take f.base.length = M.bits10 n from List.take_of_length_le (by rw [HNB.out]; exact hm))
  generalize M.bits10 n = bs at HSL HBL HPL HT hm hm1 hm2
  have hcap := HSL.out.cap
  go_wp2
  refine bodyPost_ret (v := .slice B bs.length d) (by simp [results, Try.results39, go_sem]) rfl ?_
  exact ⟨⟨bs, by have := HPL.out; rw [HT.out] at this; exact this, B, d, rfl, HSL.out⟩, (Ev.alloc (Ev.refl _) _).trans hb1⟩
 ·
  go_enter Try.func39, Try.ntmps39
  go_upto_region 2 with (go_at_call 49; with_reducible refine (Bits10_c n (by omega) _).mono ?_; rintro e w1 ⟨⟨B, d, rfl, hsl⟩, hb1⟩; obtain ⟨y0, y1, y2, y3, y4, y5, y6, y7, y8⟩ := cells9 (hb1.heap (alloc1 w (.cells #[.int .i64 9, .slice Ag ng cg, .slice Aw nw cw, .slice Ab nb cb, .slice Ac nc cc, .int .i64 f.ripe, .int .i64 f.late, .int .i64 f.trod, .slice Al nl cl] 26)).1); have HSL := hid hsl; have HBL := hid hsl.len; clear hsl)
  have hm1 : ¬ (((M.bits10 n).length : Int) ≤ nb) := by omega
  have hm2 : (nb : Int) < (M.bits10 n).length := by omega
  have hm3 : (nb : Int) ≤ (M.bits10 n).length := by omega
  have HLT := hid (show ((M.bits10 n).take nb).length = nb by rw [List.length_take]; omega)
  rw [HNB.out] at HPL
  generalize M.bits10 n = bs at HSL HBL HPL HLT hm hm1 hm2 hm3
  have hcap := HSL.out.cap
  obtain ⟨b, off, hB, _⟩ := HSL.out.cells (by omega)
  subst hB
  have hm4 : (nb : Int) ≤ d := by omega
  go_wp2
  refine bodyPost_ret (v := .slice (some ⟨b, off, none⟩) nb d) (by simp [results, Try.results39, go_sem]) rfl ?_
  exact ⟨⟨bs.take nb, HPL.out, some ⟨b, off, none⟩, d, by rw [HLT.out], by rw [HLT.out]; exact HSL.out.take (by omega)⟩, (Ev.alloc (Ev.refl _) _).trans hb1⟩

theorem planned_c (f : M.Cf) (Ag Aw Ab Ac Al : Option Addr) (ng cg nw cw nb cb nc cc nl cl : Nat) (hv : M.valid f = true) (hl9 : f.last ≤ 9) (a : Int) (h0 : 0 ≤ a) (h1 : a < 65536) (w : World) (hnb : f.base.length = nb) (hb3 : nb ≤ 3) :
  Calls Try.prog 39 #[.agg #[.int .i64 f.last, .slice Ag ng cg, .slice Aw nw cw, .slice Ab nb cb, .slice Ac nc cc, .int .i64 f.ripe, .int .i64 f.late, .int .i64 f.trod, .slice Al nl cl], .int .u16 a] w fun e w' => (∃ plan, M.isPlan f plan = true ∧ ∃ B d, e = .returned (.slice B plan.length d) ∧ Sl ics 1 w' w'.heap.size B plan.length d plan) ∧ Ev w w' := by
 have hl0 := (M.valid_parts hv).1
 have h : f.last = 0 ∨ f.last = 1 ∨ f.last = 2 ∨ f.last = 3 ∨ f.last = 4 ∨ f.last = 5 ∨ f.last = 6 ∨ f.last = 7 ∨ f.last = 8 ∨ f.last = 9 := by omega
 rcases h with h | h | h | h | h | h | h | h | h | h
 ·
  have := planned_0 f Ag Aw Ab Ac Al ng cg nw cw nb cb nc cc nl cl hv h a h0 h1 w hnb hb3; rw [h]; exact this
 ·
  have := planned_1 f Ag Aw Ab Ac Al ng cg nw cw nb cb nc cc nl cl hv h a h0 h1 w hnb hb3; rw [h]; exact this
 ·
  have := planned_2 f Ag Aw Ab Ac Al ng cg nw cw nb cb nc cc nl cl hv h a h0 h1 w hnb hb3; rw [h]; exact this
 ·
  have := planned_3 f Ag Aw Ab Ac Al ng cg nw cw nb cb nc cc nl cl hv h a h0 h1 w hnb hb3; rw [h]; exact this
 ·
  have := planned_4 f Ag Aw Ab Ac Al ng cg nw cw nb cb nc cc nl cl hv h a h0 h1 w hnb hb3; rw [h]; exact this
 ·
  have := planned_5 f Ag Aw Ab Ac Al ng cg nw cw nb cb nc cc nl cl hv h a h0 h1 w hnb hb3; rw [h]; exact this
 ·
  have := planned_6 f Ag Aw Ab Ac Al ng cg nw cw nb cb nc cc nl cl hv h a h0 h1 w hnb hb3; rw [h]; exact this
 ·
  have := planned_7 f Ag Aw Ab Ac Al ng cg nw cw nb cb nc cc nl cl hv h a h0 h1 w hnb hb3; rw [h]; exact this
 ·
  have := planned_8 f Ag Aw Ab Ac Al ng cg nw cw nb cb nc cc nl cl hv h a h0 h1 w hnb hb3; rw [h]; exact this
 ·
  have := planned_9 f Ag Aw Ab Ac Al ng cg nw cw nb cb nc cc nl cl hv h a h0 h1 w hnb hb3; rw [h]; exact this

end Go.Proofs.Ytffbkbcjddigdaa
