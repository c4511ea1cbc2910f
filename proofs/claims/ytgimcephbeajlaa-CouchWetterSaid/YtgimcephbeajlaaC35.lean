import Derived.Test.YtgimcephbeajlaaC34
import Derived.Test.YtgimcephbeajlaaC28
import Derived.Test.YtgimcephbeajlaaC29
import Derived.Test.YtgimcephbeajlaaC20
set_option linter.unusedSimpArgs false
set_option linter.unusedVariables false
namespace Go.Proofs.Ytgimcephbeajlaa
open Go.RowKit Go.Shelf


/-- The numbers of a number's bits, ten of them. -/
def M.bits10 (b : Nat) : List Int := M.bitsK b 0 10
set_option maxRecDepth 100000 in
set_option maxHeartbeats 1000000 in
theorem Bits10_c (b : Nat) (hb : b ≤ 1023) (w : World) :
  Calls Try.prog 63 #[.int .i64 b] w fun e w' => (∃ B d, e = .returned (.slice B (M.bits10 b).length d) ∧ Sl ics 1 w' w'.heap.size B (M.bits10 b).length d (M.bits10 b)) ∧ Ev w w' := by
 obtain ⟨i0, hi0, hz0, hz1, hz2⟩ := info_parts info3
 go_enter Try.func63, Try.ntmps63
 go_wp2
 go_loopw [3, 4] (fun v i wr => ∃ k : Nat, ∃ pre : List Int, i = .int .i64 k ∧ k ≤ 10 ∧ Ev w wr ∧ wr.ownsRow w.heap.size 3 1 v pre.length (pre.flatMap ics) ∧ pre.length ≤ k ∧ Hid (pre ++ M.bitsK b k (10 - k) = M.bits10 b)) (fun _ i _ => 11 - (intOf i).toNat)
 case atStart => exact ⟨0, [], rfl, by omega, Ev.refl _, World.ownsRow_nil _ _ _ _, by simp, hid rfl⟩
 case round =>
  obtain ⟨k, pre, rfl, hk, hB, hown, hpk, hp⟩ := hrel
  have hbs := hB.size
  have e1 : (b : Int) / 2 ^ k = ((b / 2 ^ k : Nat) : Int) := by simp
  have hbq : k = 10 → b / 2 ^ k = 0 := by rintro rfl; omega
  have hnone := M.bitsK_none (b := b) (10 - k) k
  have hsucc : ∀ j, M.bitsK b k (j + 1) = (if b / 2 ^ k % 2 = 1 then [(k : Int)] else []) ++ M.bitsK b (k + 1) j := fun _ => rfl
  generalize b / 2 ^ k = q at e1 hbq hnone hsucc
  have HBQ := hid hbq
  have HNONE := hid hnone
  have HSUCC := hid hsucc
  clear hbq hnone hsucc
  by_cases hq : 0 < q
  ·
   have hk7 : k < 10 := by
    rcases Nat.lt_or_ge k 10 with h | h
    ·
     exact h
    ·
     have := HBQ.out (by omega)
     omega
   have hp2 := hp.out
   rw [show 10 - k = (10 - (k + 1)) + 1 from by omega, HSUCC.out] at hp2
   have HP2 := hid hp2
   have hqI : (0 : Int) < q := by omega
   clear hp2
   by_cases hr : q % 2 = 1
   ·
    have hbe : ((q : Int) % 2 == 1) = true := by simp; omega
    have HR := hid hr
    clear hr
    go_wp2_with (at_builtin; refine wpList_append_own _ rfl (.tmp 18) (.tmp 20) 25 rfl w.heap.size 3 i0 _ 1 8 Try.underlying25 hi0 hz0 hz1 hz2 rfl (by decide) _ pre.length (pre.flatMap ics) rfl (hown.alloc _) ⟨wr.heap.size, 0, none⟩ 1 1 [.int .i64 k] rfl rfl (news_in (alloc1 wr _).1) (by simp [Value.oneCell']) (by unfold maxLen; omega) (by omega) (by simp; omega) ?_; intro v' w1 hown' hgrow _)
    have hE1 := Ev.grown (hB.alloc _) hgrow (fun k e => (hown.lt k e).1)
    refine ⟨⟨k + 1, pre ++ [(k : Int)], by go_num, by omega, hE1, ?_, by simp; omega, hid ?_⟩, by simp [intOf]; omega⟩
    ·
     rw [List.flatMap_append, List.length_append]
     exact hown'
    ·
     have := HP2.out
     rw [if_pos HR.out] at this
     rw [List.append_assoc]
     exact this
   ·
    have hbe : ((q : Int) % 2 == 1) = false := by simp; omega
    have HR := hid hr
    clear hr
    go_wp2
    refine ⟨⟨k + 1, pre, by go_num, by omega, hB, hown, by omega, hid ?_⟩, by simp [intOf]; omega⟩
    have := HP2.out
    rw [if_neg HR.out] at this
    exact this
  ·
   have hq0 : q = 0 := by omega
   have hp2 := hp.out
   rw [HNONE.out hq0, List.append_nil] at hp2
   subst hq0
   obtain ⟨B2, d2, rfl, hsl⟩ := Sl.of_own (enc := ics) (sz := 1) (by decide) (fun _ _ => rfl) (by omega) hown
   have HS := hid hsl
   have HP := hid hp2
   clear hsl hp2 hown hpk hp
   go_wp2
   go_ret
   rw [← HP.out]
   exact ⟨⟨B2, d2, rfl, HS.out⟩, hB⟩


/-- The numbers of bits rise, from the first one on. -/
theorem M.bitsK_ge (b : Nat) : ∀ (j p : Nat), ∀ x ∈ M.bitsK b p j, (p : Int) ≤ x ∧ x < p + j
 | 0, _, x, h => by cases h
 | j + 1, p, x, h => by
  rw [M.bitsK] at h
  rcases List.mem_append.1 h with h | h
  ·
   split at h
   ·
    obtain rfl : x = (p : Int) := by simpa using h
    omega
   ·
    cases h
  ·
   have := M.bitsK_ge b j (p + 1) x h
   omega
theorem M.bitsK_rises (b : Nat) : ∀ (j p : Nat), M.rises (M.bitsK b p j) = true
 | 0, _ => rfl
 | j + 1, p => by
  rw [M.bitsK]
  have h1 := M.bitsK_rises b j (p + 1)
  have h2 := M.bitsK_ge b j (p + 1)
  split
  ·
   cases hr : M.bitsK b (p + 1) j with
   | nil => rfl
   | cons y s =>
    rw [hr] at h1 h2
    show M.rises ((p : Int) :: y :: s) = true
    rw [show M.rises ((p : Int) :: y :: s) = (decide ((p : Int) < y) && M.rises (y :: s)) from rfl, h1, Bool.and_true]
    have := h2 y (by simp)
    simp; omega
  ·
   simpa using h1
theorem M.bitsK_low {b n : Nat} (hb : b ≤ 2 ^ n - 1) : ∀ (j p : Nat), ∀ x ∈ M.bitsK b p j, x < n
 | 0, _, x, h => by cases h
 | j + 1, p, x, h => by
  rw [M.bitsK] at h
  rcases List.mem_append.1 h with h | h
  ·
   split at h
   ·
    rename_i hp
    obtain rfl : x = (p : Int) := by simpa using h
    rcases Nat.lt_or_ge p n with hl | hl
    ·
     omega
    ·
     exfalso
     have h1 : b / 2 ^ p = 0 := Nat.div_eq_of_lt (by have := Nat.pow_le_pow_right (show 0 < 2 by omega) hl; have := Nat.two_pow_pos n; omega)
     rw [h1] at hp
     omega
   ·
    cases h
  ·
   exact M.bitsK_low hb j (p + 1) x h
theorem M.rises_rise {sz : Nat} : ∀ {frm : Int} {x : List Int}, M.Rise sz frm x → M.rises x = true
 | _, [], _ => rfl
 | _, [_], _ => rfl
 | _, a :: b :: r, h => by
  obtain ⟨_, _, h3, h4, h5⟩ := h
  have := M.rises_rise (x := b :: r) (frm := a + 1) ⟨h3, h4, h5⟩
  simp only [M.rises, Bool.and_eq_true, decide_eq_true_eq]
  exact ⟨by omega, this⟩
theorem M.riseL_bd {sz : Nat} : ∀ {frm : Int} {x : List Int}, M.Rise sz frm x → ∀ a ∈ x, frm ≤ a ∧ a < sz
 | _, [], _, a, ha => by simp at ha
 | frm, b :: r, h, a, ha => by
  obtain ⟨h1, h2, h3⟩ := h
  rcases List.mem_cons.1 ha with rfl | ha
  ·
   exact ⟨h1, h2⟩
  ·
   have := M.riseL_bd h3 a ha
   omega
/-- Turnings by bits. -/
def M.trn (f : M.Cf) (n : Nat) : List Int := M.bits10 (n &&& (2 ^ (f.last.toNat + 1) - 1))
theorem M.trn_ok {f : M.Cf} (hv : M.valid f = true) (n : Nat) : M.isTurns f (M.trn f n) = true := by
 have h0 := (M.valid_parts hv).2.2.2.2.1
 unfold M.isTurns M.trn
 rw [show M.rises (M.bits10 (n &&& (2 ^ (f.last.toNat + 1) - 1))) = true from M.bitsK_rises _ 10 0, Bool.true_and, List.all_eq_true]
 intro x hx
 have h1 := M.bitsK_ge _ 10 0 x hx
 have h2 := M.bitsK_low (n := f.last.toNat + 1) Nat.and_le_right 10 0 x hx
 unfold M.hasHour
 simp
 omega
theorem M.bitsK_len (b : Nat) : ∀ (j p : Nat), (M.bitsK b p j).length ≤ j
 | 0, _ => by simp [M.bitsK]
 | j + 1, p => by
  rw [M.bitsK, List.length_append]
  have := M.bitsK_len b j (p + 1)
  split <;> simp <;> omega
theorem M.trn_len (f : M.Cf) (n : Nat) : (M.trn f n).length ≤ 10 := M.bitsK_len _ 10 0
theorem bits_and_nat {a b : Nat} (ha : a < 65536) (hb : b < 65536) : Go.bits .and .i64 (a : Int) (b : Int) = ((a &&& b : Nat) : Int) := by
 have h1 : Go.bits .and .i64 (a : Int) (b : Int) = IntKind.i64.wrap (((BitVec.ofInt 64 (a : Int) &&& BitVec.ofInt 64 (b : Int)).toNat : Nat) : Int) := rfl
 have ea : (BitVec.ofInt 64 (a : Int)).toNat = a := by rw [BitVec.toNat_ofInt]; omega
 have eb : (BitVec.ofInt 64 (b : Int)).toNat = b := by rw [BitVec.toNat_ofInt]; omega
 rw [h1, BitVec.toNat_and, ea, eb]
 have : a &&& b ≤ a := Nat.and_le_left
 exact IntWalk.i64_in _ (by omega)
theorem wrap_pow9 {n : Nat} (hn : n ≤ 9) : wrap64 (2 * 2 ^ n) = 2 * 2 ^ n ∧ wrap64 (2 * (2 : Int) ^ n - 1) = ((2 ^ (n + 1) - 1 : Nat) : Int) ∧ 2 ^ (n + 1) - 1 ≤ 1023 := by
 have : n = 0 ∨ n = 1 ∨ n = 2 ∨ n = 3 ∨ n = 4 ∨ n = 5 ∨ n = 6 ∨ n = 7 ∨ n = 8 ∨ n = 9 := by omega
 rcases this with rfl | rfl | rfl | rfl | rfl | rfl | rfl | rfl | rfl | rfl <;> decide +kernel

set_option maxRecDepth 100000 in
set_option maxHeartbeats 2000000 in
theorem turned_k (f : M.Cf) (Aw At Ar : Option Addr) (nw cw nt ct nr cr : Nat) (k : Nat) (hk : k ≤ 9) (n : Nat) (hn : n < 65536) (w : World) :
  Calls Try.prog 52 #[.agg #[.int .i64 (k : Int), .int .i64 f.size, .int .i64 f.cool, .int .i64 f.die, .int .i64 f.burn, .int .i64 f.st.lo, .int .i64 f.st.hi, .slice Aw nw cw, .slice At nt ct, .slice Ar nr cr], .int .u16 (n : Int)] w fun e w' => (∃ B d, e = .returned (.slice B (M.bits10 (n &&& (2 ^ (k + 1) - 1))).length d) ∧ Sl ics 1 w' w'.heap.size B (M.bits10 (n &&& (2 ^ (k + 1) - 1))).length d (M.bits10 (n &&& (2 ^ (k + 1) - 1)))) ∧ Ev w w' := by
 obtain ⟨p1, p2, p3⟩ := wrap_pow9 hk
 have g0 : IntKind.i64.wrap (n : Int) = (n : Int) := IntWalk.i64_in _ (by omega)
 have an := bits_and_nat (a := n) (b := 2 ^ (k + 1) - 1) hn (by omega)
 have hle : n &&& (2 ^ (k + 1) - 1) ≤ 2 ^ (k + 1) - 1 := Nat.and_le_right
 generalize n &&& (2 ^ (k + 1) - 1) = m at an hle ⊢
 have HBI := hid (fun W => Bits10_c m (by omega) W)
 generalize 2 ^ (k + 1) - 1 = z at p2 an hle p3
 go_enter Try.func52, Try.ntmps52
 go_wp2_with (go_at_call 63; with_reducible refine (HBI.out _).mono ?_; rintro e w1 ⟨⟨B, d, rfl, hsl⟩, hb1⟩; have HSL := hid hsl; clear hsl)
 go_ret
 exact ⟨⟨B, d, rfl, HSL.out⟩, (Ev.alloc (Ev.refl _) _).trans hb1⟩
theorem turned_c (f : M.Cf) (Aw At Ar : Option Addr) (nw cw nt ct nr cr : Nat) (hv : M.valid f = true) (hl9 : f.last ≤ 9) (n : Nat) (hn : n < 65536) (w : World) :
  Calls Try.prog 52 #[.agg #[.int .i64 f.last, .int .i64 f.size, .int .i64 f.cool, .int .i64 f.die, .int .i64 f.burn, .int .i64 f.st.lo, .int .i64 f.st.hi, .slice Aw nw cw, .slice At nt ct, .slice Ar nr cr], .int .u16 (n : Int)] w fun e w' => (∃ B d, e = .returned (.slice B (M.trn f n).length d) ∧ Sl ics 1 w' w'.heap.size B (M.trn f n).length d (M.trn f n)) ∧ Ev w w' := by
 have h0 := (M.valid_parts hv).2.2.2.2.1
 have := turned_k f Aw At Ar nw cw nt ct nr cr f.last.toNat (by omega) n hn w
 rw [show ((f.last.toNat : Nat) : Int) = f.last by omega] at this
 exact this


theorem M.rises_at : ∀ (l : List Int) (k : Nat) (x y : Int), M.rises l = true → l[k]? = some y → l[k + 1]? = some x → y < x
 | [], k, x, y, _, h, _ => by simp at h
 | [a], k, x, y, _, _, h => by simp at h
 | a :: b :: r, k, x, y, h, h1, h2 => by
  rw [M.rises, Bool.and_eq_true, decide_eq_true_eq] at h
  cases k with
  | zero =>
   simp at h1 h2
   omega
  | succ k => exact M.rises_at (b :: r) k x y h.2 (by simpa using h1) (by simpa using h2)
def M.orAll (l : List Int) (acc : Nat) : Nat := l.foldl (fun a i => a ||| 2 ^ i.toNat) acc
theorem orAll_table : ((List.range 6).all fun n => (List.range (2 ^ n)).all fun b => decide (M.orAll (M.bits b) 0 = b)) = true := by decide +kernel
/-- All looks but those whose bits are set. -/
def M.butB (n b : Nat) : Nat := (2 ^ n - 1) ^^^ ((2 ^ n - 1) &&& b)
theorem but_table : ((List.range 6).all fun n => (List.range (2 ^ n)).all fun b => (List.range n).all fun j => decide ((M.butB n b / 2 ^ j % 2 = 1) ↔ ¬ ((j : Int) ∈ M.bits b))) = true := by decide +kernel
theorem M.but_bit {n b j : Nat} (hn : n ≤ 5) (hb : b < 2 ^ n) (hj : j < n) : (M.butB n b / 2 ^ j % 2 = 1) ↔ ¬ ((j : Int) ∈ M.bits b) := by
 have h0 := but_table
 rw [List.all_eq_true] at h0
 have h1 := h0 n (List.mem_range.2 (by omega))
 rw [List.all_eq_true] at h1
 have h2 := h1 b (List.mem_range.2 hb)
 rw [List.all_eq_true] at h2
 have h3 := h2 j (List.mem_range.2 hj)
 exact of_decide_eq_true h3
theorem M.woK_keep {n b : Nat} (hn : n ≤ 5) (hb : b < 2 ^ n) : ∀ (ls : List M.Rd) (k : Nat), k + ls.length = n → M.woK (M.bits b) ls k = M.keepK (M.butB n b) ls k
 | [], _, _ => rfl
 | x :: r, k, h => by
  have hk : k < n := by simp at h; omega
  have hr := M.woK_keep hn hb r (k + 1) (by simp at h; omega)
  have hbit := M.but_bit hn hb hk
  rw [M.woK, M.keepK, hr]
  by_cases hm : (k : Int) ∈ M.bits b
  ·
   rw [if_pos hm, if_neg (fun h => hbit.1 h hm), List.nil_append]
  ·
   rw [if_neg hm, if_pos (hbit.2 hm)]; rfl
theorem M.spares_bits {f : M.Cf} {n b : Nat} (hl : f.rds.length = n) (hn : n ≤ 5) (hb : b < 2 ^ n) : M.spares f (M.bits b) = M.fit f (M.keepK (M.butB n b) f.rds 0) := by
 unfold M.spares M.without
 rw [M.woK_keep hn hb f.rds 0 (by omega)]
theorem M.keepK_zero : ∀ (ls : List M.Rd) (i : Nat), M.keepK 0 ls i = []
 | [], _ => rfl
 | x :: r, i => by rw [M.keepK, M.keepK_zero r (i + 1), if_neg (by simp)]; rfl
/-- What Leave's list is. -/
theorem M.leave_spec {f : M.Cf} (h : M.check f = 0) {n : Nat} (hl : f.rds.length = n) : ∃ b, b < 2 ^ n ∧ M.orAll (M.shortest (M.spares f) n) 0 = b ∧ M.fit f (M.keepK (M.butB n b) f.rds 0) = true ∧ (M.shortest (M.spares f) n).length ≤ 7 ∧ M.rises (M.shortest (M.spares f) n) = true ∧ (∀ x ∈ M.shortest (M.spares f) n, ∃ xn : Nat, x = xn ∧ xn < n) ∧ ∀ t, t < 2 ^ n → M.fit f (M.keepK (M.butB n t) f.rds 0) = true → M.shorter (M.bits t) (M.shortest (M.spares f) n) = false := by
 have n5 : n ≤ 5 := by rw [← hl]; exact (M.check0 h).2.1
 have hP : 0 < 2 ^ n := Nat.pow_pos (by omega)
 have hall : M.fit f (M.keepK (M.butB n (2 ^ n - 1)) f.rds 0) = true := by
  unfold M.butB
  rw [Nat.and_self, Nat.xor_self, M.keepK_zero]
  exact M.fit_nil (M.check0 h).2.2.1
 have hsame := M.shortest_pick (p := M.spares f) (q := fun b => M.fit f (M.keepK (M.butB n b) f.rds 0)) (sz := n) (by omega) (fun b hb => M.spares_bits hl n5 hb) hall
 obtain ⟨h1, h2, h3⟩ := M.pick_spec (fun b => M.fit f (M.keepK (M.butB n b) f.rds 0)) (2 ^ n - 1 + 1) 0 (M.bits (2 ^ n - 1))
 rw [← hsame] at h1 h2 h3
 have hc : ∃ c, c < 2 ^ n ∧ M.fit f (M.keepK (M.butB n c) f.rds 0) = true ∧ M.shortest (M.spares f) n = M.bits c := by
  rcases h1 with h1 | ⟨c, _, h5, h6, h7⟩
  ·
   exact ⟨_, by omega, hall, h1⟩
  ·
   exact ⟨c, by omega, h6, h7⟩
 obtain ⟨c, hc, hqc, he⟩ := hc
 have hrise := M.bits_rise (sz := n) (by omega) hc
 rw [← he] at hrise
 have g1 := M.rises_rise hrise
 have g2 := M.riseL_bd hrise
 have h0 := orAll_table
 rw [List.all_eq_true] at h0
 have h4 := h0 n (List.mem_range.2 (by omega))
 rw [List.all_eq_true] at h4
 have h5 := h4 c (List.mem_range.2 hc)
 rw [decide_eq_true_eq, ← he] at h5
 have hl7 : (M.shortest (M.spares f) n).length ≤ 7 := by
  rcases M.Rise_len hrise (by omega) with h | h
  ·
   rw [h]; simp
  ·
   omega
 exact ⟨c, hc, h5, hqc, hl7, g1, fun x hx => by have := g2 x hx; exact ⟨x.toNat, by omega, by omega⟩, fun t ht hq => h3 t (Nat.zero_le _) (by omega) hq⟩


theorem M.mem_rallK {f : M.Cf} {a : Nat} : ∀ (j k : Nat), a ∈ M.rallK f k j ↔ ∃ i, k ≤ i ∧ i < k + j ∧ a = M.rb f (M.nth f i)
 | 0, k => by
  simp only [M.rallK, List.not_mem_nil, false_iff]
  rintro ⟨i, h1, h2, _⟩
  omega
 | j + 1, k => by
  rw [M.rallK, List.mem_cons, M.mem_rallK j (k + 1)]
  constructor
  ·
   rintro (h | ⟨i, h1, h2, h3⟩)
   ·
    exact ⟨k, Nat.le_refl _, by omega, h⟩
   ·
    exact ⟨i, by omega, by omega, h3⟩
  ·
   rintro ⟨i, h1, h2, h3⟩
   rcases Nat.eq_or_lt_of_le h1 with rfl | h5
   ·
    exact .inl h3
   ·
    exact .inr ⟨i, by omega, by omega, h3⟩
theorem M.rall_mem {f : M.Cf} (h0 : M.check f = 0) {a : Nat} : a ∈ M.rall f ↔ ∃ t ∈ M.allTruths f, a = M.rb f t := by
 have hv := (M.check0 h0).2.2.1
 unfold M.rall
 rw [M.mem_rallK]
 constructor
 ·
  rintro ⟨i, _, _, rfl⟩
  exact ⟨M.nth f i, (M.mem_allTruths f _).2 (M.nth_listed hv i), rfl⟩
 ·
  rintro ⟨t, ht, rfl⟩
  obtain ⟨n, h3, h4⟩ := M.listed_nth ((M.mem_allTruths f _).1 ht)
  exact ⟨n, Nat.zero_le _, by omega, by rw [h4]⟩
theorem M.keep_mem {b : Nat} {x : M.Rd} : ∀ (ls : List M.Rd) (i : Nat), x ∈ M.keepK b ls i ↔ ∃ j, ls[j]? = some x ∧ b.testBit (i + j) = true
 | [], i => by simp [M.keepK]
 | y :: r, i => by
  rw [M.keepK, List.mem_append, M.keep_mem r (i + 1)]
  have hb : (b / 2 ^ i % 2 = 1) ↔ b.testBit i = true := by rw [Nat.testBit_eq_decide_div_mod_eq, decide_eq_true_eq]
  constructor
  ·
   rintro (h | ⟨j, h1, h2⟩)
   ·
    by_cases hc : b / 2 ^ i % 2 = 1
    ·
     rw [if_pos hc] at h
     exact ⟨0, by rw [List.mem_singleton.1 h]; rfl, by simpa using hb.1 hc⟩
    ·
     rw [if_neg hc] at h
     cases h
   ·
    exact ⟨j + 1, by simpa using h1, by rw [show i + (j + 1) = i + 1 + j by omega]; exact h2⟩
  ·
   rintro ⟨j, h1, h2⟩
   cases j with
   | zero =>
    obtain rfl : y = x := by simpa using h1
    exact .inl (by rw [if_pos (hb.2 (by simpa using h2))]; simp)
   | succ j => exact .inr ⟨j, by simpa using h1, by rw [show i + 1 + j = i + (j + 1) by omega]; exact h2⟩
theorem M.rb_sub {f : M.Cf} {t : M.Tr} {m : Nat} (hm : m < 2 ^ f.rds.length) : M.rb f t &&& m = m ↔ ∀ l ∈ M.keepK m f.rds 0, M.shows (M.own f t) l = true := by
 constructor
 ·
  intro h l hl
  obtain ⟨j, h1, h2⟩ := (M.keep_mem _ _).1 hl
  rw [Nat.zero_add] at h2
  rw [← h, Nat.testBit_and, Bool.and_eq_true] at h2
  obtain ⟨x, h3, h4⟩ := M.rb_test.1 h2.1
  rw [h1] at h3
  obtain rfl := Option.some.inj h3
  exact h4
 ·
  intro h
  apply Nat.eq_of_testBit_eq
  intro q
  rw [Nat.testBit_and]
  cases hq : m.testBit q with
  | false => simp
  | true =>
   rw [Bool.and_true]
   have hlt : q < f.rds.length := by
    rcases Nat.lt_or_ge q f.rds.length with h1 | h1
    ·
     exact h1
    ·
     rw [Nat.testBit_lt_two_pow (Nat.lt_of_lt_of_le hm (Nat.pow_le_pow_right (by omega) h1))] at hq
     cases hq
   have hx : f.rds[q]? = some f.rds[q] := List.getElem?_eq_getElem hlt
   exact M.rb_test.2 ⟨_, hx, h _ ((M.keep_mem _ _).2 ⟨q, hx, by rw [Nat.zero_add]; exact hq⟩)⟩
/-- Some looks are right together by the reference just if they are by the program. -/
theorem M.can_keep {f : M.Cf} (h0 : M.check f = 0) {m : Nat} (hm : m < 2 ^ f.rds.length) : M.can (M.rall f) m = M.fit f (M.keepK m f.rds 0) := by
 rw [M.fit_any]
 unfold M.can
 rw [Bool.eq_iff_iff, List.any_eq_true, List.any_eq_true]
 constructor
 ·
  rintro ⟨a, ha, hp⟩
  obtain ⟨t, ht, rfl⟩ := (M.rall_mem h0).1 ha
  exact ⟨t, ht, List.all_eq_true.2 ((M.rb_sub hm).1 (of_decide_eq_true hp))⟩
 ·
  rintro ⟨t, ht, hp⟩
  exact ⟨_, (M.rall_mem h0).2 ⟨t, ht, rfl⟩, decide_eq_true ((M.rb_sub hm).2 (List.all_eq_true.1 hp))⟩
theorem M.rall_small {f : M.Cf} (h0 : M.check f = 0) : ∀ a ∈ M.rall f, a < 128 := by
 intro a ha
 obtain ⟨t, _, rfl⟩ := (M.rall_mem h0).1 ha
 have n5 := (M.check0 h0).2.1
 refine Nat.lt_pow_two_of_testBit (n := 7) _ (fun j hj => ?_)
 cases hb : (M.rb f t).testBit j with
 | false => rfl
 | true =>
  obtain ⟨x, h1, _⟩ := M.rb_test.1 hb
  rw [List.getElem?_eq_none (by omega)] at h1
  cases h1
theorem M.first_k {f : M.Cf} (h0 : M.check f = 0) : ∀ (j k : Nat), k + j = f.rds.length → (M.rfirst (M.rall f) k j < 0 ∧ M.wrongK f k j = (0, 7)) ∨ (0 ≤ M.rfirst (M.rall f) k j ∧ M.wrongK f k j = (M.rfirst (M.rall f) k j, 0))
 | 0, k, _ => .inl ⟨(by show (-1 : Int) < 0; decide), rfl⟩
 | j + 1, k, hk => by
  have hp : 2 ^ (k + 1) ≤ 2 ^ f.rds.length := Nat.pow_le_pow_right (by omega) (by omega)
  have hq : 0 < 2 ^ (k + 1) := Nat.pow_pos (by omega)
  rw [M.rfirst, M.wrongK, M.can_keep h0 (by omega), M.keepK_low, Nat.sub_zero]
  split
  ·
   exact M.first_k h0 j (k + 1) (by omega)
  ·
   exact .inr ⟨by omega, rfl⟩
theorem M.first_is {f : M.Cf} (h0 : M.check f = 0) : (M.rfirst (M.rall f) 0 f.rds.length < 0 ∧ M.wrong f = (0, 7)) ∨ (0 ≤ M.rfirst (M.rall f) 0 f.rds.length ∧ M.wrong f = (M.rfirst (M.rall f) 0 f.rds.length, 0)) := by
 unfold M.wrong
 rw [if_pos h0]
 exact M.first_k h0 _ 0 (by omega)
theorem M.leave_is {f : M.Cf} (h0 : M.check f = 0) {n : Nat} (hl : f.rds.length = n) : M.shortest (M.spares f) n = M.pick (fun b => M.can (M.rall f) ((2 ^ n - 1) ^^^ ((2 ^ n - 1) &&& b))) 0 (2 ^ n - 1 + 1) (M.bits (2 ^ n - 1)) := by
 have n5 : n ≤ 5 := by rw [← hl]; exact (M.check0 h0).2.1
 have hP : 0 < 2 ^ n := Nat.pow_pos (by omega)
 have hx : ∀ b, (2 ^ n - 1) ^^^ ((2 ^ n - 1) &&& b) < 2 ^ n := fun b => Nat.xor_lt_two_pow (by omega) (Nat.lt_of_le_of_lt Nat.and_le_left (by omega))
 refine M.shortest_pick (by omega) (fun b hb => ?_) ?_
 ·
  rw [M.can_keep h0 (by rw [hl]; exact hx b), M.spares_bits hl n5 hb]
  rfl
 ·
  show M.can (M.rall f) ((2 ^ n - 1) ^^^ ((2 ^ n - 1) &&& (2 ^ n - 1))) = true
  rw [M.can_keep h0 (by rw [hl]; exact hx _), Nat.and_self, Nat.xor_self, M.keepK_zero]
  exact M.fit_nil (M.check0 h0).2.2.1
set_option maxRecDepth 100000 in
set_option maxHeartbeats 1000000 in
theorem Can_c (A : Option Addr) (n c : Nat) (all : List Nat) (hall : ∀ a ∈ all, a < 128) (t : Nat) (ht : t < 128) (w : World) (hs : Sl ncs 1 w w.heap.size A n c all) :
  Calls Try.prog 84 #[.slice A n c, .int .i64 t] w fun e w' => e = .returned (.bool (M.can all t)) ∧ w' = w := by
 have hsm := hs.small
 go_enter Try.func84, Try.ntmps84
 go_wp2
 go_loop [5] (fun i => ∃ k : Nat, i = .int .i64 k ∧ k ≤ n ∧ Hid (M.can (all.drop k) t = M.can all t)) (fun i => n - (intOf i).toNat)
 case atStart => exact ⟨0, rfl, by omega, hid rfl⟩
 case round =>
  obtain ⟨k, rfl, hk, hT⟩ := hrel
  by_cases hlt : k < n
  ·
   obtain ⟨b, off, x, rfl, hb, hx, hd, hcc⟩ := hs.at_ (Below.refl _ w) hlt
   have e0 := hcc 0 _ rfl
   simp only [Nat.add_zero, Nat.mul_one] at e0
   obtain ⟨hba, _, _⟩ := bits_three (hall x (List.mem_of_getElem? hx)) ht
   have hT2 := hT.out
   rw [hd] at hT2
   have HT2 := hid hT2
   clear hcc hx hd hT2
   generalize hz : x &&& t = z at hba
   have HZ := hid hz
   clear hz
   by_cases hzt : z = t
   ·
    have hbe : ((z : Int) == (t : Int)) = true := by simp; omega
    have HV := hid (show M.can all t = true by rw [← HT2.out]; simp [M.can, HZ.out, hzt])
    clear hzt
    go_wp2
    go_ret
    exact ⟨ret_bool HV.out.symm, rfl⟩
   ·
    have hbe : ((z : Int) == (t : Int)) = false := by simp; omega
    have HV := hid (show M.can (all.drop (k + 1)) t = M.can all t by rw [← HT2.out]; simp [M.can, HZ.out, hzt])
    clear hzt
    go_wp2
    go_round
    case rel => exact ⟨k + 1, by go_num, by omega, HV⟩
    case measure => simp [intOf]; omega
  ·
   have HV := hid (show M.can all t = false by rw [← hT.out, hs.done hlt]; rfl)
   go_wp2
   go_ret
   exact ⟨ret_bool HV.out.symm, rfl⟩

set_option maxRecDepth 100000 in
set_option maxHeartbeats 1000000 in
theorem rFirst_c (f : M.Cf) (Aw At Ar : Option Addr) (nw cw nt ct nr cr : Nat) (hn : nr ≤ 5) (B : Option Addr) (m d : Nat) (all : List Nat) (hall : ∀ a ∈ all, a < 128) (w : World) (hs : Sl ncs 1 w w.heap.size B m d all) :
  Calls Try.prog 45 #[.agg #[.int .i64 f.last, .int .i64 f.size, .int .i64 f.cool, .int .i64 f.die, .int .i64 f.burn, .int .i64 f.st.lo, .int .i64 f.st.hi, .slice Aw nw cw, .slice At nt ct, .slice Ar nr cr], .slice B m d] w fun e w' => e = .returned (.int .i64 (M.rfirst all 0 nr)) ∧ Ev w w' := by
 have HS := hid hs
 clear hs
 go_enter Try.func45, Try.ntmps45
 go_wp2
 generalize hW0 : World.alloc w _ = W0
 have hE0 : Ev w W0 := by rw [← hW0]; exact Ev.alloc (Ev.refl _) _
 have hal := alloc1 w (.cells #[.int .i64 f.last, .int .i64 f.size, .int .i64 f.cool, .int .i64 f.die, .int .i64 f.burn, .int .i64 f.st.lo, .int .i64 f.st.hi, .slice Aw nw cw, .slice At nt ct, .slice Ar nr cr] 28)
 rw [hW0] at hal
 obtain ⟨q0, q1, q2, q3, q4, q5, q6, q7, q8, q9⟩ := cells10 hal.1
 clear hal hW0
 go_loop [5] (fun i => ∃ k : Nat, i = .int .i64 k ∧ k ≤ nr ∧ Hid (M.rfirst all k (nr - k) = M.rfirst all 0 nr)) (fun i => nr - (intOf i).toNat)
 case atStart => exact ⟨0, rfl, by omega, hid rfl⟩
 case round =>
  obtain ⟨k, rfl, hk, hT⟩ := hrel
  by_cases hlt : k < nr
  ·
   obtain ⟨p1, p2⟩ := wrap_pow2 (n := k) (by omega)
   have hcan := Can_c B m d all hall (2 ^ (k + 1) - 1) (pow_lt128 (by omega)) W0 (HS.out.ev hE0)
   have hT2 := hT.out
   rw [show nr - k = (nr - (k + 1)) + 1 from by omega, M.rfirst] at hT2
   cases hc : M.can all (2 ^ (k + 1) - 1) with
   | true =>
    rw [hc] at hcan hT2
    have HT2 := hid hT2
    have HCAN := hid hcan
    clear hT2 hcan hc
    go_wp2_with (go_at_call 84; ((with_reducible refine HCAN.out.mono ?_); rintro e w1 ⟨rfl, rfl⟩))
    go_round
    case rel => exact ⟨k + 1, by go_num, by omega, HT2⟩
    case measure => simp [intOf]; omega
   | false =>
    rw [hc] at hcan hT2
    have HT2 := hid hT2
    have HCAN := hid hcan
    clear hT2 hcan hc
    go_wp2_with (go_at_call 84; ((with_reducible refine HCAN.out.mono ?_); rintro e w1 ⟨rfl, rfl⟩))
    go_ret
    exact ⟨ret_int (by rw [← HT2.out]; rfl), hE0⟩
  ·
   have hT2 := hT.out
   rw [show nr - k = 0 from by omega] at hT2
   have HT2 := hid hT2
   clear hT2
   go_wp2
   go_ret
   exact ⟨ret_int (by rw [← HT2.out]; rfl), hE0⟩

set_option maxRecDepth 100000 in
set_option maxHeartbeats 2000000 in
theorem rLeave_k (f : M.Cf) (Aw At Ar : Option Addr) (nw cw nt ct nr cr : Nat) (F : Nat) (hF : F ≤ 31) (hfull : ∀ W, Calls Try.prog 61 #[.agg #[.int .i64 f.last, .int .i64 f.size, .int .i64 f.cool, .int .i64 f.die, .int .i64 f.burn, .int .i64 f.st.lo, .int .i64 f.st.hi, .slice Aw nw cw, .slice At nt ct, .slice Ar nr cr]] W fun e w' => e = .returned (.int .i64 F) ∧ Ev W w') (B : Option Addr) (m d : Nat) (all : List Nat) (hall : ∀ a ∈ all, a < 128) (w : World) (hs : Sl ncs 1 w w.heap.size B m d all) :
  Calls Try.prog 44 #[.agg #[.int .i64 f.last, .int .i64 f.size, .int .i64 f.cool, .int .i64 f.die, .int .i64 f.burn, .int .i64 f.st.lo, .int .i64 f.st.hi, .slice Aw nw cw, .slice At nt ct, .slice Ar nr cr], .slice B m d] w fun e w' => (∃ B d, e = .returned (.slice B (M.pick (fun b => M.can all (F ^^^ (F &&& b))) 0 (F + 1) (M.bits F)).length d) ∧ Sl ics 1 w' w'.heap.size B (M.pick (fun b => M.can all (F ^^^ (F &&& b))) 0 (F + 1) (M.bits F)).length d (M.pick (fun b => M.can all (F ^^^ (F &&& b))) 0 (F + 1) (M.bits F))) ∧ Ev w w' := by
 have HFULL := hid hfull
 generalize hpp : (fun b => M.can all (F ^^^ (F &&& b))) = p
 have hpk : ∀ k, p k = M.can all (F ^^^ (F &&& k)) := fun k => by rw [← hpp]
 generalize htg : M.pick p 0 (F + 1) (M.bits F) = target
 have HPK := hid hpk
 have HTG := hid htg
 have HS := hid hs
 clear hfull hpp hpk htg hs
 go_enter Try.func44, Try.ntmps44
 go_wp2_with (first | (go_at_call 61; ((with_reducible refine (HFULL.out _).mono ?_); rintro e w1 ⟨rfl, hb1⟩; have HQ := hid (hb1.heap (alloc1 w (.cells #[.int .i64 f.last, .int .i64 f.size, .int .i64 f.cool, .int .i64 f.die, .int .i64 f.burn, .int .i64 f.st.lo, .int .i64 f.st.hi, .slice Aw nw cw, .slice At nt ct, .slice Ar nr cr] 28)).1); have hE1 : Ev w w1 := Ev.trans (Ev.alloc (Ev.refl _) _) hb1)) | (go_at_call 63; ((with_reducible refine (Bits_c F (by omega) _).mono ?_); rintro e w2 ⟨⟨B2, d2, rfl, hs2⟩, hb2⟩; have HS2 := hid hs2; clear hs2)))
 have HQ2 := hid (hb2.heap HQ.out)
 have hE2 := hE1.trans hb2
 clear HQ
 go_loopw [5, 6] (fun v i wr => ∃ k : Nat, ∃ best : List Int, ∃ Bs : Option Addr, ∃ ms ds : Nat, v = .slice Bs ms ds ∧ i = .int .i64 k ∧ k ≤ F + 1 ∧ Ev w wr ∧ Hid (wr.heap[w.heap.size]? = some (.cells #[.int .i64 f.last, .int .i64 f.size, .int .i64 f.cool, .int .i64 f.die, .int .i64 f.burn, .int .i64 f.st.lo, .int .i64 f.st.hi, .slice Aw nw cw, .slice At nt ct, .slice Ar nr cr] 28 (0, 0))) ∧ Hid (Sl ics 1 wr wr.heap.size Bs ms ds best) ∧ Hid (M.pick p k (F + 1 - k) best = target)) (fun _ i _ => F + 1 - (intOf i).toNat)
 case atStart => exact ⟨0, M.bits F, B2, _, d2, rfl, rfl, by omega, hE2, HQ2, HS2, HTG⟩
 case round =>
  obtain ⟨k, best, Bs, ms, ds, rfl, rfl, hk, hB, hQ, hS, hT⟩ := hrel
  obtain ⟨q0, q1, q2, q3, q4, q5, q6, q7, q8, q9⟩ := cells10 hQ.out
  have hlq := heap_lt hQ.out
  by_cases hlt : k < F + 1
  ·
   have hltI : (k : Int) ≤ F := by omega
   have hT2 := hT.out
   rw [show F + 1 - k = (F + 1 - (k + 1)) + 1 from by omega, M.pick] at hT2
   have hsh := fun B1 d1 B2 d2 W h1 h2 => Shorter_c B1 B2 (M.bits k).length d1 ms d2 (M.bits k) best W h1 h2
   obtain ⟨_, _, han⟩ := bits_three (a := F) (b := k) (by omega) (by omega)
   have hz128 : F ^^^ (F &&& k) < 128 := Nat.xor_lt_two_pow (n := 7) (show F < 2 ^ 7 by omega) (Nat.lt_of_le_of_lt Nat.and_le_left (show F < 2 ^ 7 by omega))
   have hcan := fun W (hE : Ev w W) => Can_c B m d all hall (F ^^^ (F &&& k)) hz128 W (HS.out.ev hE)
   have hpk := HPK.out k
   generalize F ^^^ (F &&& k) = z at han hcan hpk
   cases hss : M.shorter (M.bits k) best with
   | false =>
    rw [hss] at hsh hT2
    have HT2 := hid hT2
    have HSH := hid hsh
    clear hT2 hsh hss hcan hpk han hz128
    go_wp2_with (first | (go_at_call 61; ((with_reducible refine (HFULL.out _).mono ?_); rintro e w1 ⟨rfl, hb1⟩; clear q0 q1 q2 q3 q4 q5 q6 q7 q8 q9; obtain ⟨q0, q1, q2, q3, q4, q5, q6, q7, q8, q9⟩ := cells10 (hb1.heap hQ.out))) | (go_at_call 63; ((with_reducible refine (Bits_c k (by omega) _).mono ?_); rintro e w2 ⟨⟨B2, d2, rfl, hs2⟩, hb2⟩; have HS2 := hid hs2; clear hs2; clear q0 q1 q2 q3 q4 q5 q6 q7 q8 q9; obtain ⟨q0, q1, q2, q3, q4, q5, q6, q7, q8, q9⟩ := cells10 ((hb1.trans hb2).heap hQ.out))) | (go_at_call 62; ((with_reducible refine (HSH.out _ _ _ _ _ HS2.out (hS.out.ev (hb1.trans hb2))).mono ?_); rintro e w3 ⟨rfl, hb3⟩; clear q0 q1 q2 q3 q4 q5 q6 q7 q8 q9; obtain ⟨q0, q1, q2, q3, q4, q5, q6, q7, q8, q9⟩ := cells10 (((hb1.trans hb2).trans hb3).heap hQ.out))))
    have hG := (hb1.trans hb2).trans hb3
    exact ⟨⟨k + 1, best, Bs, ms, ds, rfl, by go_num, by omega, hB.trans hG, hid (hG.heap hQ.out), hid (hS.out.ev hG), hid (by have := HT2.out; simpa using this)⟩, by simp [intOf]; omega⟩
   | true =>
    rw [hss] at hsh hT2
    cases hcc : M.can all z with
    | false =>
     rw [hcc] at hcan hpk
     rw [hpk] at hT2
     have HT2 := hid hT2
     have HSH := hid hsh
     have HCAN := hid hcan
     clear hT2 hsh hss hcan hpk hcc hz128
     go_wp2_with (first | (go_at_call 61; ((with_reducible refine (HFULL.out _).mono ?_); rintro e w1 ⟨rfl, hb1⟩; clear q0 q1 q2 q3 q4 q5 q6 q7 q8 q9; obtain ⟨q0, q1, q2, q3, q4, q5, q6, q7, q8, q9⟩ := cells10 (hb1.heap hQ.out))) | (go_at_call 63; ((with_reducible refine (Bits_c k (by omega) _).mono ?_); rintro e w2 ⟨⟨B2, d2, rfl, hs2⟩, hb2⟩; have HS2 := hid hs2; clear hs2; clear q0 q1 q2 q3 q4 q5 q6 q7 q8 q9; obtain ⟨q0, q1, q2, q3, q4, q5, q6, q7, q8, q9⟩ := cells10 ((hb1.trans hb2).heap hQ.out))) | (go_at_call 62; ((with_reducible refine (HSH.out _ _ _ _ _ HS2.out (hS.out.ev (hb1.trans hb2))).mono ?_); rintro e w3 ⟨rfl, hb3⟩; clear q0 q1 q2 q3 q4 q5 q6 q7 q8 q9; obtain ⟨q0, q1, q2, q3, q4, q5, q6, q7, q8, q9⟩ := cells10 (((hb1.trans hb2).trans hb3).heap hQ.out))) | (go_at_call 61; ((with_reducible refine (HFULL.out _).mono ?_); rintro e w4 ⟨rfl, hb4⟩; have hG := ((hb1.trans hb2).trans hb3).trans hb4)) | (go_at_call 84; ((with_reducible refine (HCAN.out _ (hB.trans hG)).mono ?_); rintro e w5 ⟨rfl, rfl⟩)))
     exact ⟨⟨k + 1, best, Bs, ms, ds, rfl, by go_num, by omega, hB.trans hG, hid (hG.heap hQ.out), hid (hS.out.ev hG), hid (by have := HT2.out; simpa using this)⟩, by simp [intOf]; omega⟩
    | true =>
     rw [hcc] at hcan hpk
     rw [hpk] at hT2
     have HT2 := hid hT2
     have HSH := hid hsh
     have HCAN := hid hcan
     clear hT2 hsh hss hcan hpk hcc hz128
     go_wp2_with (first | (go_at_call 61; ((with_reducible refine (HFULL.out _).mono ?_); rintro e w1 ⟨rfl, hb1⟩; clear q0 q1 q2 q3 q4 q5 q6 q7 q8 q9; obtain ⟨q0, q1, q2, q3, q4, q5, q6, q7, q8, q9⟩ := cells10 (hb1.heap hQ.out))) | (go_at_call 63; ((with_reducible refine (Bits_c k (by omega) _).mono ?_); rintro e w2 ⟨⟨B2, d2, rfl, hs2⟩, hb2⟩; have HS2 := hid hs2; clear hs2; clear q0 q1 q2 q3 q4 q5 q6 q7 q8 q9; obtain ⟨q0, q1, q2, q3, q4, q5, q6, q7, q8, q9⟩ := cells10 ((hb1.trans hb2).heap hQ.out))) | (go_at_call 62; ((with_reducible refine (HSH.out _ _ _ _ _ HS2.out (hS.out.ev (hb1.trans hb2))).mono ?_); rintro e w3 ⟨rfl, hb3⟩; clear q0 q1 q2 q3 q4 q5 q6 q7 q8 q9; obtain ⟨q0, q1, q2, q3, q4, q5, q6, q7, q8, q9⟩ := cells10 (((hb1.trans hb2).trans hb3).heap hQ.out))) | (go_at_call 61; ((with_reducible refine (HFULL.out _).mono ?_); rintro e w4 ⟨rfl, hb4⟩; have hG := ((hb1.trans hb2).trans hb3).trans hb4)) | (go_at_call 84; ((with_reducible refine (HCAN.out _ (hB.trans hG)).mono ?_); rintro e w5 ⟨rfl, rfl⟩)))
     exact ⟨⟨k + 1, M.bits k, B2, (M.bits k).length, d2, rfl, by go_num, by omega, hB.trans hG, hid (hG.heap hQ.out), hid (HS2.out.ev (hb3.trans hb4)), hid (by have := HT2.out; simpa using this)⟩, by simp [intOf]; omega⟩
  ·
   have hT2 := hT.out
   have hnI : ¬ (k : Int) ≤ F := by omega
   rw [show F + 1 - k = 0 from by omega, M.pick] at hT2
   obtain rfl := hT2
   have hml := hS.out.len
   have HML := hid hml
   clear hml
   go_wp2_with (first | (go_at_call 61; ((with_reducible refine (HFULL.out _).mono ?_); rintro e w1 ⟨rfl, hb1⟩; clear q0 q1 q2 q3 q4 q5 q6 q7 q8 q9; obtain ⟨q0, q1, q2, q3, q4, q5, q6, q7, q8, q9⟩ := cells10 (hb1.heap hQ.out))))
   go_ret
   rw [HML.out]
   exact ⟨⟨Bs, ds, rfl, hS.out.ev hb1⟩, hB.trans hb1⟩

theorem rLeave_c (f : M.Cf) (Aw At Ar : Option Addr) (nw cw nt ct nr cr : Nat) (h0 : M.check f = 0) (B : Option Addr) (m d : Nat) (w : World) (hnr : f.rds.length = nr) (hs : Sl ncs 1 w w.heap.size B m d (M.rall f)) :
  Calls Try.prog 44 #[.agg #[.int .i64 f.last, .int .i64 f.size, .int .i64 f.cool, .int .i64 f.die, .int .i64 f.burn, .int .i64 f.st.lo, .int .i64 f.st.hi, .slice Aw nw cw, .slice At nt ct, .slice Ar nr cr], .slice B m d] w fun e w' => (∃ B d, e = .returned (.slice B (M.shortest (M.spares f) nr).length d) ∧ Sl ics 1 w' w'.heap.size B (M.shortest (M.spares f) nr).length d (M.shortest (M.spares f) nr)) ∧ Ev w w' := by
 have n5 : nr ≤ 5 := by rw [← hnr]; exact (M.check0 h0).2.1
 have hF : 2 ^ nr - 1 ≤ 31 := by
  have : nr = 0 ∨ nr = 1 ∨ nr = 2 ∨ nr = 3 ∨ nr = 4 ∨ nr = 5 := by omega
  rcases this with rfl | rfl | rfl | rfl | rfl | rfl <;> decide
 rw [M.leave_is h0 hnr]
 exact rLeave_k f Aw At Ar nw cw nt ct nr cr (2 ^ nr - 1) hF (fun W => Full_c f Aw At Ar nw cw nt ct nr cr (by omega) W) B m d (M.rall f) (M.rall_small h0) w hs

end Go.Proofs.Ytgimcephbeajlaa
