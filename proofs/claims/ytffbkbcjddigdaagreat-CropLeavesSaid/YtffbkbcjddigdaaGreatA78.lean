import Derived.Test.YtffbkbcjddigdaaGreatA76
import Derived.Test.YtffbkbcjddigdaaGreatA60
set_option linter.unusedSimpArgs false
set_option linter.unusedVariables false
namespace Go.Proofs.YtffbkbcjddigdaaGreat
open Go.RowKit Go.Shelf

theorem M.mem_rallK {f : M.Cf} {a : Nat} : ∀ (j k : Nat), a ∈ M.rallK f k j ↔ ∃ i, k ≤ i ∧ i < k + j ∧ a = M.rb f (M.nth f i)
 | 0, k => by
  simp only [M.rallK, List.not_mem_nil, false_iff]
  rintro ⟨i, h1, h2, _⟩
  omega
 | j + 1, k => by
  rw [M.rallK, List.mem_cons, M.mem_rallK j (k + 1)]
  constructor
  ·
   rintro (h | ⟨i, h1, h2, h3⟩)
   ·
    exact ⟨k, Nat.le_refl _, by omega, h⟩
   ·
    exact ⟨i, by omega, by omega, h3⟩
  ·
   rintro ⟨i, h1, h2, h3⟩
   rcases Nat.eq_or_lt_of_le h1 with rfl | h5
   ·
    exact .inl h3
   ·
    exact .inr ⟨i, by omega, by omega, h3⟩
theorem M.rall_mem {f : M.Cf} (h0 : M.check f = 0) {a : Nat} : a ∈ M.rall f ↔ ∃ t ∈ M.allTruths f, a = M.rb f t := by
 have hv := (M.check_ok h0).1
 unfold M.rall
 rw [M.mem_rallK]
 constructor
 ·
  rintro ⟨i, _, _, rfl⟩
  exact ⟨M.nth f i, (M.mem_allTruths hv _).2 (M.nth_listed hv i), rfl⟩
 ·
  rintro ⟨t, ht, rfl⟩
  obtain ⟨n, h3, h4⟩ := M.listed_nth h0 ((M.mem_allTruths hv _).1 ht)
  exact ⟨n, Nat.zero_le _, by omega, by rw [h4]⟩
theorem M.keep_mem {b : Nat} {x : M.Lk} : ∀ (ls : List M.Lk) (i : Nat), x ∈ M.keepK b ls i ↔ ∃ j, ls[j]? = some x ∧ b.testBit (i + j) = true
 | [], i => by simp [M.keepK]
 | y :: r, i => by
  rw [M.keepK, List.mem_append, M.keep_mem r (i + 1)]
  have hb : (b / 2 ^ i % 2 = 1) ↔ b.testBit i = true := by rw [Nat.testBit_eq_decide_div_mod_eq, decide_eq_true_eq]
  constructor
  ·
   rintro (h | ⟨j, h1, h2⟩)
   ·
    by_cases hc : b / 2 ^ i % 2 = 1
    ·
     rw [if_pos hc] at h
     exact ⟨0, by rw [List.mem_singleton.1 h]; rfl, by simpa using hb.1 hc⟩
    ·
     rw [if_neg hc] at h
     cases h
   ·
    exact ⟨j + 1, by simpa using h1, by rw [show i + (j + 1) = i + 1 + j by omega]; exact h2⟩
  ·
   rintro ⟨j, h1, h2⟩
   cases j with
   | zero =>
    obtain rfl : y = x := by simpa using h1
    exact .inl (by rw [if_pos (hb.2 (by simpa using h2))]; simp)
   | succ j => exact .inr ⟨j, by simpa using h1, by rw [show i + 1 + j = i + (j + 1) by omega]; exact h2⟩
theorem M.rb_sub {f : M.Cf} {t : M.Tr} {m : Nat} (hm : m < 2 ^ f.looks.length) : M.rb f t &&& m = m ↔ ∀ l ∈ M.keepK m f.looks 0, M.shows (M.weights t.gr f.crops) l = true := by
 constructor
 ·
  intro h l hl
  obtain ⟨j, h1, h2⟩ := (M.keep_mem _ _).1 hl
  rw [Nat.zero_add] at h2
  rw [← h, Nat.testBit_and, Bool.and_eq_true] at h2
  obtain ⟨x, h3, h4⟩ := M.rb_test.1 h2.1
  rw [h1] at h3
  obtain rfl := Option.some.inj h3
  exact h4
 ·
  intro h
  apply Nat.eq_of_testBit_eq
  intro q
  rw [Nat.testBit_and]
  cases hq : m.testBit q with
  | false => simp
  | true =>
   rw [Bool.and_true]
   have hlt : q < f.looks.length := by
    rcases Nat.lt_or_ge q f.looks.length with h1 | h1
    ·
     exact h1
    ·
     rw [Nat.testBit_lt_two_pow (Nat.lt_of_lt_of_le hm (Nat.pow_le_pow_right (by omega) h1))] at hq
     cases hq
   have hx : f.looks[q]? = some f.looks[q] := List.getElem?_eq_getElem hlt
   exact M.rb_test.2 ⟨_, hx, h _ ((M.keep_mem _ _).2 ⟨q, hx, by rw [Nat.zero_add]; exact hq⟩)⟩
/-- Some looks are right together by the reference just if they are by the program. -/
theorem M.can_keep {f : M.Cf} (h0 : M.check f = 0) {m : Nat} (hm : m < 2 ^ f.looks.length) : M.can (M.rall f) m = M.fit f (M.keepK m f.looks 0) := by
 rw [M.fit_any]
 unfold M.can
 rw [Bool.eq_iff_iff, List.any_eq_true, List.any_eq_true]
 constructor
 ·
  rintro ⟨a, ha, hp⟩
  obtain ⟨t, ht, rfl⟩ := (M.rall_mem h0).1 ha
  exact ⟨t, ht, List.all_eq_true.2 ((M.rb_sub hm).1 (of_decide_eq_true hp))⟩
 ·
  rintro ⟨t, ht, hp⟩
  exact ⟨_, (M.rall_mem h0).2 ⟨t, ht, rfl⟩, decide_eq_true ((M.rb_sub hm).2 (List.all_eq_true.1 hp))⟩
theorem M.rall_small {f : M.Cf} (h0 : M.check f = 0) : ∀ a ∈ M.rall f, a < 128 := by
 intro a ha
 obtain ⟨t, _, rfl⟩ := (M.rall_mem h0).1 ha
 have n5 := (M.check0 h0).2.2.1
 refine Nat.lt_pow_two_of_testBit (n := 7) _ (fun j hj => ?_)
 cases hb : (M.rb f t).testBit j with
 | false => rfl
 | true =>
  obtain ⟨x, h1, _⟩ := M.rb_test.1 hb
  rw [List.getElem?_eq_none (by omega)] at h1
  cases h1
theorem M.first_k {f : M.Cf} (h0 : M.check f = 0) : ∀ (j k : Nat), k + j = f.looks.length → (M.rfirst (M.rall f) k j < 0 ∧ M.wrongK f k j = (0, 7)) ∨ (0 ≤ M.rfirst (M.rall f) k j ∧ M.wrongK f k j = (M.rfirst (M.rall f) k j, 0))
 | 0, k, _ => .inl ⟨(by show (-1 : Int) < 0; decide), rfl⟩
 | j + 1, k, hk => by
  have hp : 2 ^ (k + 1) ≤ 2 ^ f.looks.length := Nat.pow_le_pow_right (by omega) (by omega)
  have hq : 0 < 2 ^ (k + 1) := Nat.pow_pos (by omega)
  rw [M.rfirst, M.wrongK, M.can_keep h0 (by omega), M.keepK_low, Nat.sub_zero]
  split
  ·
   exact M.first_k h0 j (k + 1) (by omega)
  ·
   exact .inr ⟨by omega, rfl⟩
theorem M.first_is {f : M.Cf} (h0 : M.check f = 0) : (M.rfirst (M.rall f) 0 f.looks.length < 0 ∧ M.wrong f = (0, 7)) ∨ (0 ≤ M.rfirst (M.rall f) 0 f.looks.length ∧ M.wrong f = (M.rfirst (M.rall f) 0 f.looks.length, 0)) := by
 unfold M.wrong
 rw [if_pos h0]
 exact M.first_k h0 _ 0 (by omega)
theorem M.leave_is {f : M.Cf} (h0 : M.check f = 0) {n : Nat} (hl : f.looks.length = n) : M.shortest (M.spares f) n = M.pick (fun b => M.can (M.rall f) ((2 ^ n - 1) ^^^ ((2 ^ n - 1) &&& b))) 0 (2 ^ n - 1 + 1) (M.bits (2 ^ n - 1)) := by
 have n5 : n ≤ 5 := by rw [← hl]; exact (M.check0 h0).2.2.1
 have hP : 0 < 2 ^ n := Nat.pow_pos (by omega)
 have hx : ∀ b, (2 ^ n - 1) ^^^ ((2 ^ n - 1) &&& b) < 2 ^ n := fun b => Nat.xor_lt_two_pow (by omega) (Nat.lt_of_le_of_lt Nat.and_le_left (by omega))
 refine M.shortest_pick (by omega) (fun b hb => ?_) ?_
 ·
  rw [M.can_keep h0 (by rw [hl]; exact hx b), M.spares_bits hl n5 hb]
  rfl
 ·
  show M.can (M.rall f) ((2 ^ n - 1) ^^^ ((2 ^ n - 1) &&& (2 ^ n - 1))) = true
  rw [M.can_keep h0 (by rw [hl]; exact hx _), Nat.and_self, Nat.xor_self, M.keepK_zero]
  exact M.fit_nil (M.check0 h0).2.2.2.1
set_option maxRecDepth 100000 in
set_option maxHeartbeats 1000000 in
theorem Can_c (A : Option Addr) (n c : Nat) (all : List Nat) (hall : ∀ a ∈ all, a < 128) (t : Nat) (ht : t < 128) (w : World) (hs : Sl ncs 1 w w.heap.size A n c all) :
  Calls Tryz.prog 73 #[.slice A n c, .int .i64 t] w fun e w' => e = .returned (.bool (M.can all t)) ∧ w' = w := by
 have hsm := hs.small
 go_enter Tryz.func73, Tryz.ntmps73
 go_wp2
 go_loop [5] (fun i => ∃ k : Nat, i = .int .i64 k ∧ k ≤ n ∧ Hid (M.can (all.drop k) t = M.can all t)) (fun i => n - (intOf i).toNat)
 case atStart => exact ⟨0, rfl, by omega, hid rfl⟩
 case round =>
  obtain ⟨k, rfl, hk, hT⟩ := hrel
  by_cases hlt : k < n
  ·
   obtain ⟨b, off, x, rfl, hb, hx, hd, hcc⟩ := hs.at_ (Below.refl _ w) hlt
   have e0 := hcc 0 _ rfl
   simp only [Nat.add_zero, Nat.mul_one] at e0
   obtain ⟨hba, _, _⟩ := bits_three (hall x (List.mem_of_getElem? hx)) ht
   have hT2 := hT.out
   rw [hd] at hT2
   have HT2 := hid hT2
   clear hcc hx hd hT2
   generalize hz : x &&& t = z at hba
   have HZ := hid hz
   clear hz
   by_cases hzt : z = t
   ·
    have hbe : ((z : Int) == (t : Int)) = true := by simp; omega
    have HV := hid (show M.can all t = true by rw [← HT2.out]; simp [M.can, HZ.out, hzt])
    clear hzt
    go_wp2
    go_ret
    exact ⟨ret_bool HV.out.symm, rfl⟩
   ·
    have hbe : ((z : Int) == (t : Int)) = false := by simp; omega
    have HV := hid (show M.can (all.drop (k + 1)) t = M.can all t by rw [← HT2.out]; simp [M.can, HZ.out, hzt])
    clear hzt
    go_wp2
    go_round
    case rel => exact ⟨k + 1, by go_num, by omega, HV⟩
    case measure => simp [intOf]; omega
  ·
   have HV := hid (show M.can all t = false by rw [← hT.out, hs.done hlt]; rfl)
   go_wp2
   go_ret
   exact ⟨ret_bool HV.out.symm, rfl⟩

set_option maxRecDepth 100000 in
set_option maxHeartbeats 1000000 in
theorem rFirst_c (f : M.Cf) (Ag Aw Ab Ac Al : Option Addr) (ng cg nw cw nb cb nc cc nl cl : Nat) (hn : nl ≤ 5) (B : Option Addr) (m d : Nat) (all : List Nat) (hall : ∀ a ∈ all, a < 128) (w : World) (hs : Sl ncs 1 w w.heap.size B m d all) :
  Calls Tryz.prog 36 #[.agg #[.int .i64 f.last, .slice Ag ng cg, .slice Aw nw cw, .slice Ab nb cb, .slice Ac nc cc, .int .i64 f.ripe, .int .i64 f.late, .int .i64 f.trod, .slice Al nl cl], .slice B m d] w fun e w' => e = .returned (.int .i64 (M.rfirst all 0 nl)) ∧ Ev w w' := by
 have HS := hid hs
 clear hs
 go_enter Tryz.func36, Tryz.ntmps36
 go_wp2
 generalize hW0 : World.alloc w _ = W0
 have hE0 : Ev w W0 := by rw [← hW0]; exact Ev.alloc (Ev.refl _) _
 have hal := alloc1 w (.cells #[.int .i64 f.last, .slice Ag ng cg, .slice Aw nw cw, .slice Ab nb cb, .slice Ac nc cc, .int .i64 f.ripe, .int .i64 f.late, .int .i64 f.trod, .slice Al nl cl] 26)
 rw [hW0] at hal
 obtain ⟨q0, q1, q2, q3, q4, q5, q6, q7, q8⟩ := cells9 hal.1
 clear hal hW0
 go_loop [5] (fun i => ∃ k : Nat, i = .int .i64 k ∧ k ≤ nl ∧ Hid (M.rfirst all k (nl - k) = M.rfirst all 0 nl)) (fun i => nl - (intOf i).toNat)
 case atStart => exact ⟨0, rfl, by omega, hid rfl⟩
 case round =>
  obtain ⟨k, rfl, hk, hT⟩ := hrel
  by_cases hlt : k < nl
  ·
   obtain ⟨p1, p2⟩ := wrap_pow2 (n := k) (by omega)
   have hcan := Can_c B m d all hall (2 ^ (k + 1) - 1) (pow_lt128 (by omega)) W0 (HS.out.ev hE0)
   have hT2 := hT.out
   rw [show nl - k = (nl - (k + 1)) + 1 from by omega, M.rfirst] at hT2
   cases hc : M.can all (2 ^ (k + 1) - 1) with
   | true =>
    rw [hc] at hcan hT2
    have HT2 := hid hT2
    have HCAN := hid hcan
    clear hT2 hcan hc
    go_wp2_with (go_at_call 73; ((with_reducible refine HCAN.out.mono ?_); rintro e w1 ⟨rfl, rfl⟩))
    go_round
    case rel => exact ⟨k + 1, by go_num, by omega, HT2⟩
    case measure => simp [intOf]; omega
   | false =>
    rw [hc] at hcan hT2
    have HT2 := hid hT2
    have HCAN := hid hcan
    clear hT2 hcan hc
    go_wp2_with (go_at_call 73; ((with_reducible refine HCAN.out.mono ?_); rintro e w1 ⟨rfl, rfl⟩))
    go_ret
    exact ⟨ret_int (by rw [← HT2.out]; rfl), hE0⟩
  ·
   have hT2 := hT.out
   rw [show nl - k = 0 from by omega] at hT2
   have HT2 := hid hT2
   clear hT2
   go_wp2
   go_ret
   exact ⟨ret_int (by rw [← HT2.out]; rfl), hE0⟩

set_option maxRecDepth 100000 in
set_option maxHeartbeats 2000000 in
theorem rLeave_k (f : M.Cf) (Ag Aw Ab Ac Al : Option Addr) (ng cg nw cw nb cb nc cc nl cl : Nat) (F : Nat) (hF : F ≤ 31) (hfull : ∀ W, Calls Tryz.prog 71 #[.agg #[.int .i64 f.last, .slice Ag ng cg, .slice Aw nw cw, .slice Ab nb cb, .slice Ac nc cc, .int .i64 f.ripe, .int .i64 f.late, .int .i64 f.trod, .slice Al nl cl]] W fun e w' => e = .returned (.int .i64 F) ∧ Ev W w') (B : Option Addr) (m d : Nat) (all : List Nat) (hall : ∀ a ∈ all, a < 128) (w : World) (hs : Sl ncs 1 w w.heap.size B m d all) :
  Calls Tryz.prog 35 #[.agg #[.int .i64 f.last, .slice Ag ng cg, .slice Aw nw cw, .slice Ab nb cb, .slice Ac nc cc, .int .i64 f.ripe, .int .i64 f.late, .int .i64 f.trod, .slice Al nl cl], .slice B m d] w fun e w' => (∃ B d, e = .returned (.slice B (M.pick (fun b => M.can all (F ^^^ (F &&& b))) 0 (F + 1) (M.bits F)).length d) ∧ Sl ics 1 w' w'.heap.size B (M.pick (fun b => M.can all (F ^^^ (F &&& b))) 0 (F + 1) (M.bits F)).length d (M.pick (fun b => M.can all (F ^^^ (F &&& b))) 0 (F + 1) (M.bits F))) ∧ Ev w w' := by
 have HFULL := hid hfull
 generalize hpp : (fun b => M.can all (F ^^^ (F &&& b))) = p
 have hpk : ∀ k, p k = M.can all (F ^^^ (F &&& k)) := fun k => by rw [← hpp]
 generalize htg : M.pick p 0 (F + 1) (M.bits F) = target
 have HPK := hid hpk
 have HTG := hid htg
 have HS := hid hs
 clear hfull hpp hpk htg hs
 go_enter Tryz.func35, Tryz.ntmps35
 go_wp2_with (first | (go_at_call 71; ((with_reducible refine (HFULL.out _).mono ?_); rintro e w1 ⟨rfl, hb1⟩; have HQ := hid (hb1.heap (alloc1 w (.cells #[.int .i64 f.last, .slice Ag ng cg, .slice Aw nw cw, .slice Ab nb cb, .slice Ac nc cc, .int .i64 f.ripe, .int .i64 f.late, .int .i64 f.trod, .slice Al nl cl] 26)).1); have hE1 : Ev w w1 := Ev.trans (Ev.alloc (Ev.refl _) _) hb1)) | (go_at_call 64; ((with_reducible refine (Bits_c F (by omega) _).mono ?_); rintro e w2 ⟨⟨B2, d2, rfl, hs2⟩, hb2⟩; have HS2 := hid hs2; clear hs2)))
 have HQ2 := hid (hb2.heap HQ.out)
 have hE2 := hE1.trans hb2
 clear HQ
 go_loopw [5, 6] (fun v i wr => ∃ k : Nat, ∃ best : List Int, ∃ Bs : Option Addr, ∃ ms ds : Nat, v = .slice Bs ms ds ∧ i = .int .i64 k ∧ k ≤ F + 1 ∧ Ev w wr ∧ Hid (wr.heap[w.heap.size]? = some (.cells #[.int .i64 f.last, .slice Ag ng cg, .slice Aw nw cw, .slice Ab nb cb, .slice Ac nc cc, .int .i64 f.ripe, .int .i64 f.late, .int .i64 f.trod, .slice Al nl cl] 26 (0, 0))) ∧ Hid (Sl ics 1 wr wr.heap.size Bs ms ds best) ∧ Hid (M.pick p k (F + 1 - k) best = target)) (fun _ i _ => F + 1 - (intOf i).toNat)
 case atStart => exact ⟨0, M.bits F, B2, _, d2, rfl, rfl, by omega, hE2, HQ2, HS2, HTG⟩
 case round =>
  obtain ⟨k, best, Bs, ms, ds, rfl, rfl, hk, hB, hQ, hS, hT⟩ := hrel
  obtain ⟨q0, q1, q2, q3, q4, q5, q6, q7, q8⟩ := cells9 hQ.out
  have hlq := heap_lt hQ.out
  by_cases hlt : k < F + 1
  ·
   have hltI : (k : Int) ≤ F := by omega
   have hT2 := hT.out
   rw [show F + 1 - k = (F + 1 - (k + 1)) + 1 from by omega, M.pick] at hT2
   have hsh := fun B1 d1 B2 d2 W h1 h2 => Shorter_c B1 B2 (M.bits k).length d1 ms d2 (M.bits k) best W h1 h2
   obtain ⟨_, _, han⟩ := bits_three (a := F) (b := k) (by omega) (by omega)
   have hz128 : F ^^^ (F &&& k) < 128 := Nat.xor_lt_two_pow (n := 7) (show F < 2 ^ 7 by omega) (Nat.lt_of_le_of_lt Nat.and_le_left (show F < 2 ^ 7 by omega))
   have hcan := fun W (hE : Ev w W) => Can_c B m d all hall (F ^^^ (F &&& k)) hz128 W (HS.out.ev hE)
   have hpk := HPK.out k
   generalize F ^^^ (F &&& k) = z at han hcan hpk
   cases hss : M.shorter (M.bits k) best with
   | false =>
    rw [hss] at hsh hT2
    have HT2 := hid hT2
    have HSH := hid hsh
    clear hT2 hsh hss hcan hpk han hz128
    go_wp2_with (first | (go_at_call 71; ((with_reducible refine (HFULL.out _).mono ?_); rintro e w1 ⟨rfl, hb1⟩; clear q0 q1 q2 q3 q4 q5 q6 q7 q8; obtain ⟨q0, q1, q2, q3, q4, q5, q6, q7, q8⟩ := cells9 (hb1.heap hQ.out))) | (go_at_call 64; ((with_reducible refine (Bits_c k (by omega) _).mono ?_); rintro e w2 ⟨⟨B2, d2, rfl, hs2⟩, hb2⟩; have HS2 := hid hs2; clear hs2; clear q0 q1 q2 q3 q4 q5 q6 q7 q8; obtain ⟨q0, q1, q2, q3, q4, q5, q6, q7, q8⟩ := cells9 ((hb1.trans hb2).heap hQ.out))) | (go_at_call 72; ((with_reducible refine (HSH.out _ _ _ _ _ HS2.out (hS.out.ev (hb1.trans hb2))).mono ?_); rintro e w3 ⟨rfl, hb3⟩; clear q0 q1 q2 q3 q4 q5 q6 q7 q8; obtain ⟨q0, q1, q2, q3, q4, q5, q6, q7, q8⟩ := cells9 (((hb1.trans hb2).trans hb3).heap hQ.out))))
    have hG := (hb1.trans hb2).trans hb3
    exact ⟨⟨k + 1, best, Bs, ms, ds, rfl, by go_num, by omega, hB.trans hG, hid (hG.heap hQ.out), hid (hS.out.ev hG), hid (by have := HT2.out; simpa using this)⟩, by simp [intOf]; omega⟩
   | true =>
    rw [hss] at hsh hT2
    cases hcc : M.can all z with
    | false =>
     rw [hcc] at hcan hpk
     rw [hpk] at hT2
     have HT2 := hid hT2
     have HSH := hid hsh
     have HCAN := hid hcan
     clear hT2 hsh hss hcan hpk hcc hz128
     go_wp2_with (first | (go_at_call 71; ((with_reducible refine (HFULL.out _).mono ?_); rintro e w1 ⟨rfl, hb1⟩; clear q0 q1 q2 q3 q4 q5 q6 q7 q8; obtain ⟨q0, q1, q2, q3, q4, q5, q6, q7, q8⟩ := cells9 (hb1.heap hQ.out))) | (go_at_call 64; ((with_reducible refine (Bits_c k (by omega) _).mono ?_); rintro e w2 ⟨⟨B2, d2, rfl, hs2⟩, hb2⟩; have HS2 := hid hs2; clear hs2; clear q0 q1 q2 q3 q4 q5 q6 q7 q8; obtain ⟨q0, q1, q2, q3, q4, q5, q6, q7, q8⟩ := cells9 ((hb1.trans hb2).heap hQ.out))) | (go_at_call 72; ((with_reducible refine (HSH.out _ _ _ _ _ HS2.out (hS.out.ev (hb1.trans hb2))).mono ?_); rintro e w3 ⟨rfl, hb3⟩; clear q0 q1 q2 q3 q4 q5 q6 q7 q8; obtain ⟨q0, q1, q2, q3, q4, q5, q6, q7, q8⟩ := cells9 (((hb1.trans hb2).trans hb3).heap hQ.out))) | (go_at_call 71; ((with_reducible refine (HFULL.out _).mono ?_); rintro e w4 ⟨rfl, hb4⟩; have hG := ((hb1.trans hb2).trans hb3).trans hb4)) | (go_at_call 73; ((with_reducible refine (HCAN.out _ (hB.trans hG)).mono ?_); rintro e w5 ⟨rfl, rfl⟩)))
     exact ⟨⟨k + 1, best, Bs, ms, ds, rfl, by go_num, by omega, hB.trans hG, hid (hG.heap hQ.out), hid (hS.out.ev hG), hid (by have := HT2.out; simpa using this)⟩, by simp [intOf]; omega⟩
    | true =>
     rw [hcc] at hcan hpk
     rw [hpk] at hT2
     have HT2 := hid hT2
     have HSH := hid hsh
     have HCAN := hid hcan
     clear hT2 hsh hss hcan hpk hcc hz128
     go_wp2_with (first | (go_at_call 71; ((with_reducible refine (HFULL.out _).mono ?_); rintro e w1 ⟨rfl, hb1⟩; clear q0 q1 q2 q3 q4 q5 q6 q7 q8; obtain ⟨q0, q1, q2, q3, q4, q5, q6, q7, q8⟩ := cells9 (hb1.heap hQ.out))) | (go_at_call 64; ((with_reducible refine (Bits_c k (by omega) _).mono ?_); rintro e w2 ⟨⟨B2, d2, rfl, hs2⟩, hb2⟩; have HS2 := hid hs2; clear hs2; clear q0 q1 q2 q3 q4 q5 q6 q7 q8; obtain ⟨q0, q1, q2, q3, q4, q5, q6, q7, q8⟩ := cells9 ((hb1.trans hb2).heap hQ.out))) | (go_at_call 72; ((with_reducible refine (HSH.out _ _ _ _ _ HS2.out (hS.out.ev (hb1.trans hb2))).mono ?_); rintro e w3 ⟨rfl, hb3⟩; clear q0 q1 q2 q3 q4 q5 q6 q7 q8; obtain ⟨q0, q1, q2, q3, q4, q5, q6, q7, q8⟩ := cells9 (((hb1.trans hb2).trans hb3).heap hQ.out))) | (go_at_call 71; ((with_reducible refine (HFULL.out _).mono ?_); rintro e w4 ⟨rfl, hb4⟩; have hG := ((hb1.trans hb2).trans hb3).trans hb4)) | (go_at_call 73; ((with_reducible refine (HCAN.out _ (hB.trans hG)).mono ?_); rintro e w5 ⟨rfl, rfl⟩)))
     exact ⟨⟨k + 1, M.bits k, B2, (M.bits k).length, d2, rfl, by go_num, by omega, hB.trans hG, hid (hG.heap hQ.out), hid (HS2.out.ev (hb3.trans hb4)), hid (by have := HT2.out; simpa using this)⟩, by simp [intOf]; omega⟩
  ·
   have hT2 := hT.out
   have hnI : ¬ (k : Int) ≤ F := by omega
   rw [show F + 1 - k = 0 from by omega, M.pick] at hT2
   obtain rfl := hT2
   have hml := hS.out.len
   have HML := hid hml
   clear hml
   go_wp2_with (first | (go_at_call 71; ((with_reducible refine (HFULL.out _).mono ?_); rintro e w1 ⟨rfl, hb1⟩; clear q0 q1 q2 q3 q4 q5 q6 q7 q8; obtain ⟨q0, q1, q2, q3, q4, q5, q6, q7, q8⟩ := cells9 (hb1.heap hQ.out))))
   go_ret
   rw [HML.out]
   exact ⟨⟨Bs, ds, rfl, hS.out.ev hb1⟩, hB.trans hb1⟩

theorem rLeave_c (f : M.Cf) (Ag Aw Ab Ac Al : Option Addr) (ng cg nw cw nb cb nc cc nl cl : Nat) (h0 : M.check f = 0) (B : Option Addr) (m d : Nat) (w : World) (hnl : f.looks.length = nl) (hs : Sl ncs 1 w w.heap.size B m d (M.rall f)) :
  Calls Tryz.prog 35 #[.agg #[.int .i64 f.last, .slice Ag ng cg, .slice Aw nw cw, .slice Ab nb cb, .slice Ac nc cc, .int .i64 f.ripe, .int .i64 f.late, .int .i64 f.trod, .slice Al nl cl], .slice B m d] w fun e w' => (∃ B d, e = .returned (.slice B (M.shortest (M.spares f) nl).length d) ∧ Sl ics 1 w' w'.heap.size B (M.shortest (M.spares f) nl).length d (M.shortest (M.spares f) nl)) ∧ Ev w w' := by
 have n5 : nl ≤ 5 := by rw [← hnl]; exact (M.check0 h0).2.2.1
 have hF : 2 ^ nl - 1 ≤ 31 := by
  have : nl = 0 ∨ nl = 1 ∨ nl = 2 ∨ nl = 3 ∨ nl = 4 ∨ nl = 5 := by omega
  rcases this with rfl | rfl | rfl | rfl | rfl | rfl <;> decide
 rw [M.leave_is h0 hnl]
 exact rLeave_k f Ag Aw Ab Ac Al ng cg nw cw nb cb nc cc nl cl (2 ^ nl - 1) hF (fun W => Full_c f Ag Aw Ab Ac Al ng cg nw cw nb cb nc cc nl cl (by omega) W) B m d (M.rall f) (M.rall_small h0) w hs

set_option maxRecDepth 100000 in
set_option maxHeartbeats 2000000 in
theorem Leave_err (f : M.Cf) (Ag Aw Ab Ac Al : Option Addr) (ng cg nw cw nb cb nc cc nl cl : Nat) (hl0 : -9223372036854775808 ≤ f.last) (w : World) (hs : CS w w.heap.size f Ag Aw Ab Ac Al ng cg nw cw nb cb nc cc nl cl) (h0 : M.check f ≠ 0) :
  Calls Tryz.prog 33 #[.agg #[.int .i64 f.last, .slice Ag ng cg, .slice Aw nw cw, .slice Ab nb cb, .slice Ac nc cc, .int .i64 f.ripe, .int .i64 f.late, .int .i64 f.trod, .slice Al nl cl]] w fun e w' => e = .returned (.tuple #[.slice none 0 0, .int .i64 (M.check f)]) ∧ Ev w w' := by
 have HCK := hid (fun W (hE : Ev w W) => check_c f Ag Aw Ab Ac Al ng cg nw cw nb cb nc cc nl cl hl0 W (hs.ev hE))
 generalize M.check f = c at HCK h0
 have hc : (c == 0) = false := by simpa using h0
 clear h0 hs
 go_enter Tryz.func33, Tryz.ntmps33
 go_wp2_with (go_at_call 65; with_reducible refine (HCK.out _ (Ev.alloc (Ev.refl _) _)).mono ?_; rintro e w1 ⟨rfl, hb1⟩)
 exact bodyPost_ret (v := .tuple #[.slice none 0 0, .int .i64 c]) (by simp [results, Tryz.results33, go_sem]) rfl ⟨rfl, Ev.trans (Ev.alloc (Ev.refl _) _) hb1⟩

end Go.Proofs.YtffbkbcjddigdaaGreat
