import Derived.Test.YtgimcephbeajlaaC28
set_option linter.unusedSimpArgs false
set_option linter.unusedVariables false
namespace Go.Proofs.Ytgimcephbeajlaa
open Go.RowKit Go.Shelf

theorem M.bit_low (n i : Nat) : ((2 ^ n - 1) / 2 ^ i % 2 = 1) ↔ i < n := by
 have h := Nat.testBit_two_pow_sub_one n i
 rw [Nat.testBit_eq_decide_div_mod_eq] at h
 constructor
 ·
  intro h1
  rw [decide_eq_true h1] at h
  simpa using h.symm
 ·
  intro h1
  rw [decide_eq_true h1] at h
  simpa using h
theorem M.keepK_low (n : Nat) : ∀ (ls : List M.Rd) (i : Nat), M.keepK (2 ^ n - 1) ls i = ls.take (n - i)
 | [], i => by simp [M.keepK]
 | x :: r, i => by
  rw [M.keepK, M.keepK_low n r (i + 1)]
  by_cases h : i < n
  ·
   rw [if_pos ((M.bit_low n i).2 h), show n - i = (n - (i + 1)) + 1 by omega, List.take_succ_cons]; rfl
  ·
   rw [if_neg (fun hb => h ((M.bit_low n i).1 hb)), show n - i = 0 by omega, show n - (i + 1) = 0 by omega]; simp
theorem M.fit_any (f : M.Cf) (ls : List M.Rd) : M.fit f ls = (M.allTruths f).any fun t => ls.all (M.shows (M.own f t)) := by
 unfold M.fit
 exact M.stands_any f (fun x => ls.all (M.shows x))
theorem M.hK_with (f : M.Cf) (ls : List M.Rd) (ps : List Int) : ∀ (ws : List Int) (i : Nat) (h : Int), M.hK (M.withL f ls) ps ws i h = M.hK f ps ws i h
 | [], _, _ => rfl
 | w :: ws, i, h => by
  unfold M.hK
  rw [M.hK_with f ls ps ws]
  rfl
theorem M.own_with (f : M.Cf) (ls : List M.Rd) (t : M.Tr) : M.own (M.withL f ls) t = M.own f t := by
 unfold M.own M.heats
 rw [M.hK_with]
 rfl
theorem M.all_with (f : M.Cf) (ls : List M.Rd) : M.allTruths (M.withL f ls) = M.allTruths f := by
 unfold M.allTruths M.parts M.ranges M.withL
 rfl
theorem M.truths_fit (f : M.Cf) (ls : List M.Rd) : M.truths (M.withL f ls) = [] ↔ M.fit f ls = false := by
 rw [M.fit_any, show M.truths (M.withL f ls) = (M.allTruths f).filter (fun t => ls.all (M.shows (M.own f t))) by
  unfold M.truths
  rw [M.all_with]
  congr 1
  funext t
  unfold M.right
  rw [M.own_with]
  rfl, List.filter_eq_nil_iff, List.any_eq_false]
theorem M.check_with {f : M.Cf} (h0 : M.check f = 0) {ls : List M.Rd} (hl : ls.length ≤ 5) (hs : ∀ l ∈ ls, l ∈ f.rds) : M.check (M.withL f ls) = 0 := by
 obtain ⟨h9, hb, hv, ht⟩ := M.check0 h0
 have hv2 : M.valid (M.withL f ls) = true := by
  unfold M.valid at hv ⊢
  simp only [Bool.and_eq_true, List.all_eq_true] at hv ⊢
  exact ⟨hv.1, hv.2.1, hv.2.2.1, hv.2.2.2.1, fun l hl => hv.2.2.2.2 l (hs l hl)⟩
 have h3 : ¬ (9 < (M.withL f ls).last ∨ 5 < (M.withL f ls).rds.length) := by
  show ¬ (9 < f.last ∨ 5 < ls.length)
  omega
 unfold M.check
 rw [if_neg h3, if_neg (by rw [hv2]; decide), show M.ranges (M.withL f ls) = M.ranges f from rfl, ht]
 rfl
theorem M.turns_nil (f : M.Cf) : M.isTurns f [] = true := by unfold M.isTurns; simp [M.rises]
theorem M.begin_with {f : M.Cf} (h0 : M.check f = 0) {ls : List M.Rd} (hl : ls.length ≤ 5) (hs : ∀ l ∈ ls, l ∈ f.rds) : M.begin (M.withL f ls) (M.isTurns (M.withL f ls) []) = if M.fit f ls then 0 else 11 := by
 unfold M.begin
 rw [M.check_with h0 hl hs, M.turns_nil, if_neg (by simp), if_neg (by simp)]
 cases hf : M.fit f ls with
 | false => rw [if_pos ((M.truths_fit f ls).2 hf)]; rfl
 | true =>
  rw [if_neg (fun h => by rw [(M.truths_fit f ls).1 h] at hf; cases hf)]; rfl
theorem M.wrongK_spec (f : M.Cf) : ∀ (j k : Nat), (M.wrongK f k j = (0, 7) ∧ ∀ i, k ≤ i → i < k + j → M.fit f (f.rds.take (i + 1)) = true) ∨ (∃ m : Nat, k ≤ m ∧ m < k + j ∧ M.wrongK f k j = ((m : Int), 0) ∧ M.fit f (f.rds.take (m + 1)) = false ∧ ∀ i, k ≤ i → i < m → M.fit f (f.rds.take (i + 1)) = true)
 | 0, k => .inl ⟨rfl, fun i h1 h2 => by omega⟩
 | j + 1, k => by
  cases hf : M.fit f (f.rds.take (k + 1)) with
  | false => exact .inr ⟨k, Nat.le_refl _, by omega, by unfold M.wrongK; rw [if_neg (by rw [hf]; decide)], hf, fun i h1 h2 => by omega⟩
  | true =>
   have he : M.wrongK f k (j + 1) = M.wrongK f (k + 1) j := by
    rw [M.wrongK, if_pos hf]
   rw [he]
   rcases M.wrongK_spec f j (k + 1) with ⟨h1, h2⟩ | ⟨m, h1, h2, h3, h4, h5⟩
   ·
    refine .inl ⟨h1, fun i hi hj => ?_⟩
    by_cases hik : i = k
    ·
     rw [hik]; exact hf
    ·
     exact h2 i (by omega) (by omega)
   ·
    refine .inr ⟨m, by omega, by omega, h3, h4, fun i hi hj => ?_⟩
    by_cases hik : i = k
    ·
     rw [hik]; exact hf
    ·
     exact h5 i (by omega) (by omega)
theorem M.fit_nil {f : M.Cf} (hv : M.valid f = true) : M.fit f [] = true := by
 rw [M.fit_any]
 have hp := M.valid_parts hv
 have hr : ∀ r ∈ f.wet, r.lo ≤ r.hi := fun r hr => (M.wet_bd hv r hr).2.1
 have hin : ∀ (rs : List M.Rg), (∀ r ∈ rs, r.lo ≤ r.hi) → M.inAll (rs.map M.Rg.lo) rs = true := by
  intro rs
  induction rs with
  | nil => intro _; rfl
  | cons r rs ih =>
   intro h
   rw [List.map_cons, M.inAll, ih (fun x hx => h x (by simp [hx])), Bool.and_true]
   unfold M.holds
   simp [h r (by simp)]
 have hl : M.listed f ⟨f.st.lo, f.wet.map M.Rg.lo⟩ = true := by
  unfold M.listed
  rw [hin _ hr]
  unfold M.holds
  simp
  omega
 rw [List.any_eq_true]
 exact ⟨_, (M.mem_allTruths f _).2 hl, rfl⟩
theorem M.wrong_7 {f : M.Cf} (h0 : M.check f = 0) (h : M.wrong f = (0, 7)) : M.fit f f.rds = true := by
 unfold M.wrong at h
 rw [if_pos h0] at h
 rcases M.wrongK_spec f f.rds.length 0 with ⟨_, h2⟩ | ⟨m, _, _, h3, _⟩
 ·
  rcases Nat.eq_zero_or_pos f.rds.length with hz | hz
  ·
   rw [List.eq_nil_of_length_eq_zero hz]
   exact M.fit_nil (M.check0 h0).2.2.1
  ·
   have := h2 (f.rds.length - 1) (by omega) (by omega)
   rwa [show f.rds.length - 1 + 1 = f.rds.length by omega, List.take_length] at this
 ·
  rw [h3] at h
  simp at h
theorem M.wrong_cases {f : M.Cf} (h0 : M.check f = 0) : M.wrong f = (0, 7) ∨ ∃ m : Nat, m < f.rds.length ∧ M.wrong f = ((m : Int), 0) ∧ M.fit f (f.rds.take (m + 1)) = false ∧ M.fit f (f.rds.take m) = true := by
 have hw : M.wrong f = M.wrongK f 0 f.rds.length := by unfold M.wrong; rw [if_pos h0]
 rw [hw]
 rcases M.wrongK_spec f f.rds.length 0 with ⟨h1, _⟩ | ⟨m, _, h2, h3, h4, h5⟩
 ·
  exact .inl h1
 ·
  refine .inr ⟨m, by omega, h3, h4, ?_⟩
  rcases Nat.eq_zero_or_pos m with hz | hz
  ·
   subst hz
   exact M.fit_nil (M.check0 h0).2.2.1
  ·
   have := h5 (m - 1) (by omega) (by omega)
   rwa [show m - 1 + 1 = m by omega] at this

theorem HeapL_c (f : M.Cf) (ls : List M.Rd) (Aw At Ar : Option Addr) (nw cw nt ct nr cr : Nat) (hnw : nw ≤ 1000) (hnt : nt ≤ 1000) (hnr : nr ≤ 1000) (w : World) (hs : CS w w.heap.size (M.withL f ls) Aw At Ar nw cw nt ct nr cr) :
  Calls Try.prog 21 #[.agg #[.int .i64 f.last, .int .i64 f.size, .int .i64 f.cool, .int .i64 f.die, .int .i64 f.burn, .int .i64 f.st.lo, .int .i64 f.st.hi, .slice Aw nw cw, .slice At nt ct, .slice Ar nr cr]] w fun e w' => (∃ Bw dw Bt dt Br dr, e = .returned (.agg #[.int .i64 f.last, .int .i64 f.size, .int .i64 f.cool, .int .i64 f.die, .int .i64 f.burn, .int .i64 f.st.lo, .int .i64 f.st.hi, .slice Bw nw dw, .slice Bt nt dt, .slice Br nr dr]) ∧ CS w' w'.heap.size (M.withL f ls) Bw Bt Br nw dw nt dt nr dr) ∧ Ev w w' := Heap_c (M.withL f ls) Aw At Ar nw cw nt ct nr cr hnw hnt hnr w hs
theorem BoundsL_ok (f : M.Cf) (ls : List M.Rd) (Aw At Ar : Option Addr) (nw cw nt ct nr cr : Nat) (hl0 : -9223372036854775808 ≤ f.last) (h0 : M.check f = 0) (hl : ls.length ≤ 5) (hss : ∀ l ∈ ls, l ∈ f.rds) (hf : M.fit f ls = true) (w : World) (hs : CS w w.heap.size (M.withL f ls) Aw At Ar nw cw nt ct nr cr) :
  Calls Try.prog 31 #[.agg #[.int .i64 f.last, .int .i64 f.size, .int .i64 f.cool, .int .i64 f.die, .int .i64 f.burn, .int .i64 f.st.lo, .int .i64 f.st.hi, .slice Aw nw cw, .slice At nt ct, .slice Ar nr cr], .slice none 0 0] w fun e w' => (∃ B d, e = .returned (.tuple #[.slice B nw d, .int .i64 0])) ∧ Ev w w' :=
 (Bounds_ok (M.withL f ls) Aw At Ar nw cw nt ct nr cr none 0 0 [] hl0 w hs Sl.nil (by rw [M.begin_with h0 hl hss, if_pos hf])).mono fun e w' h => ⟨by obtain ⟨⟨B, d, h1, _⟩, _⟩ := h; exact ⟨B, d, h1⟩, h.2⟩
theorem BoundsL_no (f : M.Cf) (ls : List M.Rd) (Aw At Ar : Option Addr) (nw cw nt ct nr cr : Nat) (hl0 : -9223372036854775808 ≤ f.last) (h0 : M.check f = 0) (hl : ls.length ≤ 5) (hss : ∀ l ∈ ls, l ∈ f.rds) (hf : M.fit f ls = false) (w : World) (hs : CS w w.heap.size (M.withL f ls) Aw At Ar nw cw nt ct nr cr) :
  Calls Try.prog 31 #[.agg #[.int .i64 f.last, .int .i64 f.size, .int .i64 f.cool, .int .i64 f.die, .int .i64 f.burn, .int .i64 f.st.lo, .int .i64 f.st.hi, .slice Aw nw cw, .slice At nt ct, .slice Ar nr cr], .slice none 0 0] w fun e w' => e = .returned (.tuple #[.slice none 0 0, .int .i64 11]) ∧ Ev w w' := by
 have hb := M.begin_with h0 hl hss
 rw [if_neg (by rw [hf]; decide)] at hb
 refine (Bounds_err (M.withL f ls) Aw At Ar nw cw nt ct nr cr none 0 0 [] hl0 w hs Sl.nil (by rw [hb]; decide)).mono fun e w' h => ⟨?_, h.2⟩
 rw [h.1, hb]
theorem someB_c (f : M.Cf) (ls : List M.Rd) (m : Nat) (Aw At Ar : Option Addr) (nw cw nt ct nr cr : Nat) (hn : nr ≤ 7) (rb : Nat) (hrb : rb ≤ 127) (hk : M.keepK rb f.rds 0 = ls) (hm : ls.length = m) (w : World) (hs : CS w w.heap.size f Aw At Ar nw cw nt ct nr cr) :
  Calls Try.prog 60 #[.agg #[.int .i64 f.last, .int .i64 f.size, .int .i64 f.cool, .int .i64 f.die, .int .i64 f.burn, .int .i64 f.st.lo, .int .i64 f.st.hi, .slice Aw nw cw, .slice At nt ct, .slice Ar nr cr], .int .i64 rb] w fun e w' => (∃ B d, e = .returned (.agg #[.int .i64 f.last, .int .i64 f.size, .int .i64 f.cool, .int .i64 f.die, .int .i64 f.burn, .int .i64 f.st.lo, .int .i64 f.st.hi, .slice Aw nw cw, .slice At nt ct, .slice B m d]) ∧ CS w' w'.heap.size (M.withL f ls) Aw At B nw cw nt ct m d) ∧ Ev w w' := by
 subst hk
 subst hm
 exact somel_c f Aw At Ar nw cw nt ct nr cr hn rb hrb w hs

end Go.Proofs.Ytgimcephbeajlaa
