import Derived.Test.YtgimcephbeajlaaC32
import Derived.Test.YtgimcephbeajlaaC29
set_option linter.unusedSimpArgs false
set_option linter.unusedVariables false
namespace Go.Proofs.Ytgimcephbeajlaa
open Go.RowKit Go.Shelf

/-- A list of truths. -/
def TL (w : World) (L : Option Addr) (n c : Nat) (ts : List M.Tr) : Prop := ∃ vs : List Td, Sl thc 2 w w.heap.size L n c vs ∧ TRows 0 w vs ts
theorem TL.ev {w w' : World} {L : Option Addr} {n c : Nat} {ts : List M.Tr} (h : TL w L n c ts) (hE : Ev w w') : TL w' L n c ts := by
 obtain ⟨vs, h1, h2⟩ := h
 exact ⟨vs, h1.ev hE, h2.ev hE⟩
theorem TL.len {w : World} {L : Option Addr} {n c : Nat} {ts : List M.Tr} (h : TL w L n c ts) : ts.length = n := by
 obtain ⟨vs, h1, h2⟩ := h
 rw [← h2.1, h1.len]
set_option maxRecDepth 100000 in
set_option maxHeartbeats 1000000 in
theorem Full_c (f : M.Cf) (Aw At Ar : Option Addr) (nw cw nt ct nr cr : Nat) (hn : nr ≤ 7) (w : World) :
  Calls Try.prog 61 #[.agg #[.int .i64 f.last, .int .i64 f.size, .int .i64 f.cool, .int .i64 f.die, .int .i64 f.burn, .int .i64 f.st.lo, .int .i64 f.st.hi, .slice Aw nw cw, .slice At nt ct, .slice Ar nr cr]] w fun e w' => e = .returned (.int .i64 ((2 ^ nr - 1 : Nat) : Int)) ∧ Ev w w' := by
 have h : nr = 0 ∨ nr = 1 ∨ nr = 2 ∨ nr = 3 ∨ nr = 4 ∨ nr = 5 ∨ nr = 6 ∨ nr = 7 := by omega
 rcases h with rfl | rfl | rfl | rfl | rfl | rfl | rfl | rfl
 all_goals
  go_enter Try.func61, Try.ntmps61
  go_wp2
  go_ret
  exact ⟨by first | rfl | (simp; done), Ev.alloc (Ev.refl _) _⟩

/-- Which readings are right in a truth, by bits. -/
def M.rbK (f : M.Cf) (t : M.Tr) : List M.Rd → Nat → Nat → Nat
 | [], _, acc => acc
 | l :: r, i, acc => M.rbK f t r (i + 1) (if M.shows (M.own f t) l then acc ||| 2 ^ i else acc)
def M.rb (f : M.Cf) (t : M.Tr) : Nat := M.rbK f t f.rds 0 0
def M.rallK (f : M.Cf) : Nat → Nat → List Nat
 | _, 0 => []
 | k, j + 1 => M.rb f (M.nth f k) :: M.rallK f (k + 1) j
def M.rall (f : M.Cf) : List Nat := M.rallK f 0 (M.prodN (M.ranges f))
def M.rtrK (f : M.Cf) : Nat → Nat → List M.Tr
 | _, 0 => []
 | k, j + 1 => (if M.rb f (M.nth f k) = 2 ^ f.rds.length - 1 then [M.nth f k] else []) ++ M.rtrK f (k + 1) j
/-- All truths, in the order of their numbers. -/
def M.rtr (f : M.Cf) : List M.Tr := M.rtrK f 0 (M.prodN (M.ranges f))
theorem M.rallK_len (f : M.Cf) : ∀ (j k : Nat), (M.rallK f k j).length = j
 | 0, _ => rfl
 | j + 1, k => by rw [M.rallK, List.length_cons, M.rallK_len f j (k + 1)]
theorem M.rallK_at (f : M.Cf) : ∀ (j k i : Nat), i < j → (M.rallK f k j)[i]? = some (M.rb f (M.nth f (k + i)))
 | 0, _, _, h => by omega
 | j + 1, k, 0, _ => rfl
 | j + 1, k, i + 1, h => by
  rw [M.rallK, List.getElem?_cons_succ, M.rallK_at f j (k + 1) i (by omega), show k + 1 + i = k + (i + 1) by omega]
theorem M.rbK_test (f : M.Cf) (t : M.Tr) : ∀ (l : List M.Rd) (k acc q : Nat), (M.rbK f t l k acc).testBit q = true ↔ (acc.testBit q = true ∨ ∃ x, k ≤ q ∧ l[q - k]? = some x ∧ M.shows (M.own f t) x = true)
 | [], k, acc, q => by simp [M.rbK]
 | x :: r, k, acc, q => by
  rw [M.rbK, M.rbK_test f t r (k + 1) _ q]
  have h1 : ((if M.shows (M.own f t) x then acc ||| 2 ^ k else acc).testBit q = true) ↔ (acc.testBit q = true ∨ (k = q ∧ M.shows (M.own f t) x = true)) := by
   cases hs : M.shows (M.own f t) x with
   | false => simp
   | true => simp [Nat.testBit_or, Nat.testBit_two_pow]
  rw [h1]
  constructor
  ·
   rintro ((h | ⟨rfl, h⟩) | ⟨y, h2, h3, h4⟩)
   ·
    exact .inl h
   ·
    exact .inr ⟨x, Nat.le_refl _, by simp, h⟩
   ·
    exact .inr ⟨y, by omega, by rw [show q - k = (q - (k + 1)) + 1 by omega, List.getElem?_cons_succ]; exact h3, h4⟩
  ·
   rintro (h | ⟨y, h2, h3, h4⟩)
   ·
    exact .inl (.inl h)
   ·
    rcases Nat.eq_or_lt_of_le h2 with rfl | h5
    ·
     rw [Nat.sub_self] at h3
     obtain rfl : x = y := by simpa using h3
     exact .inl (.inr ⟨rfl, h4⟩)
    ·
     refine .inr ⟨y, by omega, ?_, h4⟩
     rw [show q - k = (q - (k + 1)) + 1 by omega, List.getElem?_cons_succ] at h3
     exact h3
theorem M.rb_test {f : M.Cf} {t : M.Tr} {q : Nat} : (M.rb f t).testBit q = true ↔ ∃ x, f.rds[q]? = some x ∧ M.shows (M.own f t) x = true := by
 unfold M.rb
 rw [M.rbK_test]
 simp
/-- All looks are right just if all bits are set. -/
theorem M.rb_full {f : M.Cf} {t : M.Tr} : M.rb f t = 2 ^ f.rds.length - 1 ↔ M.right f t = true := by
 unfold M.right
 rw [List.all_eq_true]
 constructor
 ·
  intro h x hx
  obtain ⟨q, hq, rfl⟩ := List.getElem_of_mem hx
  have h1 : (M.rb f t).testBit q = true := by rw [h, Nat.testBit_two_pow_sub_one]; simpa using hq
  obtain ⟨y, h2, h3⟩ := M.rb_test.1 h1
  rw [List.getElem?_eq_getElem hq] at h2
  obtain rfl := Option.some.inj h2
  exact h3
 ·
  intro h
  apply Nat.eq_of_testBit_eq
  intro q
  rw [Nat.testBit_two_pow_sub_one]
  by_cases hq : q < f.rds.length
  ·
   rw [decide_eq_true hq]
   exact M.rb_test.2 ⟨f.rds[q], List.getElem?_eq_getElem hq, h _ (List.getElem_mem _)⟩
  ·
   rw [decide_eq_false hq]
   cases hb : (M.rb f t).testBit q with
   | false => rfl
   | true =>
    obtain ⟨x, h1, _⟩ := M.rb_test.1 hb
    rw [List.getElem?_eq_none (by omega)] at h1
    cases h1
theorem M.mem_rtrK {f : M.Cf} {t : M.Tr} : ∀ (j k : Nat), t ∈ M.rtrK f k j ↔ ∃ n, k ≤ n ∧ n < k + j ∧ M.right f (M.nth f n) = true ∧ M.nth f n = t
 | 0, k => by simp [M.rtrK]; intro n h1 h2; omega
 | j + 1, k => by
  rw [M.rtrK, List.mem_append, M.mem_rtrK j (k + 1)]
  constructor
  ·
   rintro (h | ⟨n, h1, h2, h3, h4⟩)
   ·
    by_cases hr : M.rb f (M.nth f k) = 2 ^ f.rds.length - 1
    ·
     rw [if_pos hr] at h
     exact ⟨k, Nat.le_refl _, by omega, M.rb_full.1 hr, (List.mem_singleton.1 h).symm⟩
    ·
     rw [if_neg hr] at h
     cases h
   ·
    exact ⟨n, by omega, by omega, h3, h4⟩
  ·
   rintro ⟨n, h1, h2, h3, h4⟩
   rcases Nat.eq_or_lt_of_le h1 with rfl | h5
   ·
    exact .inl (by rw [if_pos (M.rb_full.2 h3)]; simp [h4])
   ·
    exact .inr ⟨n, by omega, by omega, h3, h4⟩
/-- The reference's truths are the program's, in another order. -/
theorem M.rtr_mem {f : M.Cf} (h0 : M.check f = 0) {t : M.Tr} : t ∈ M.rtr f ↔ t ∈ M.truths f := by
 have hv := (M.check0 h0).2.2.1
 unfold M.rtr M.truths
 rw [M.mem_rtrK, List.mem_filter, M.mem_allTruths f]
 constructor
 ·
  rintro ⟨n, _, _, h3, rfl⟩
  exact ⟨M.nth_listed hv n, h3⟩
 ·
  rintro ⟨h1, h2⟩
  obtain ⟨n, h3, h4⟩ := M.listed_nth h1
  exact ⟨n, Nat.zero_le _, by omega, by rw [h4]; exact h2, h4⟩
theorem M.rtr_nil {f : M.Cf} (h0 : M.check f = 0) : M.rtr f = [] ↔ M.truths f = [] := by
 constructor
 ·
  intro h
  cases ht : M.truths f with
  | nil => rfl
  | cons t r => have := (M.rtr_mem h0 (t := t)).2 (by rw [ht]; simp); rw [h] at this; cases this
 ·
  intro h
  cases ht : M.rtr f with
  | nil => rfl
  | cons t r => have := (M.rtr_mem h0 (t := t)).1 (by rw [ht]; simp); rw [h] at this; cases this
theorem M.rtr_listed {f : M.Cf} (h0 : M.check f = 0) : ∀ t ∈ M.rtr f, M.listed f t = true := fun t ht => M.truths_listed h0 t ((M.rtr_mem h0).1 ht)
theorem ncs_len (ys : List Nat) : ∀ y ∈ ys, (ncs y).length = 1 := fun _ _ => rfl
theorem infoRT : (Try.prog.info? 30).map (fun i => (i.zero, i.size, i.bytes)) = some (some (.agg #[.int .i64 0, .slice none 0 0]), 2, 32) := by kernel_rfl

set_option maxRecDepth 100000 in
set_option maxHeartbeats 8000000 in
theorem All_c (f : M.Cf) (Aw At Ar : Option Addr) (nw cw nt ct nr cr : Nat) (h0 : M.check f = 0) (w : World) (hs : CS w w.heap.size f Aw At Ar nw cw nt ct nr cr) :
  Calls Try.prog 42 #[.agg #[.int .i64 f.last, .int .i64 f.size, .int .i64 f.cool, .int .i64 f.die, .int .i64 f.burn, .int .i64 f.st.lo, .int .i64 f.st.hi, .slice Aw nw cw, .slice At nt ct, .slice Ar nr cr]] w fun e w' => (∃ B m d, e = .returned (.slice B m d) ∧ Sl ncs 1 w' w'.heap.size B m d (M.rall f)) ∧ Ev w w' := by
 obtain ⟨i0, hi0, hz0, hz1, hz2⟩ := info_parts info3
 have hv := (M.check0 h0).2.2.1
 have hl9 := (M.check0 h0).1
 obtain ⟨hmn, hm2⟩ := M.many_nat h0
 have hst := (M.valid_parts hv).2.2.2.1
 have hwl := hs.w_.len
 have hvl := (M.valid_parts hv).2.2.2.2.2.1
 have hng : nw ≤ 10 := by omega
 have hll := hs.r.len
 have hl5 : nr ≤ 5 := by have := (M.check0 h0).2.1; omega
 have HMN := hid (fun W (hE : Ev w W) => by have := Many_c f Aw At Ar nw cw nt ct nr cr hst (M.wet_bd hv) W (hs.ev hE); rw [hmn] at this; exact this)
 have hrt : M.rall f = M.rallK f 0 (M.prodN (M.ranges f)) := rfl
 generalize M.prodN (M.ranges f) = P at HMN hrt hm2
 have HNT := hid (fun k (hk : k ≤ 2000) W (hE : Ev w W) => Nth_c f Aw At Ar nw cw nt ct nr cr hv hl9 k (by omega) W (hs.ev hE))
 have HRX := hid (fun k (Tw : Option Addr) (tw twc : Nat) (l : M.Rd) (hl : l ∈ f.rds) W (hE : Ev w W) (hwt : Sl ics 1 W W.heap.size Tw tw twc (M.nth f k).wet) => rRight_c f Aw At Ar nw cw nt ct nr cr Tw tw twc (M.nth f k) l hv hl9 (M.nth_listed hv k) (M.rd_bd hv hl) W (hs.ev hE) hwt)
 have HRT := hid hrt
 have HL := hid hs.r
 clear hs hrt hmn hst hwl hvl hv hl9 hll h0
 go_enter Try.func42, Try.ntmps42
 go_upto_region 1 with fail
 generalize hW0 : World.alloc w _ = W0
 have hE0 : Ev w W0 := by rw [← hW0]; exact Ev.alloc (Ev.refl _) _
 have hal := alloc1 w (.cells #[.int .i64 f.last, .int .i64 f.size, .int .i64 f.cool, .int .i64 f.die, .int .i64 f.burn, .int .i64 f.st.lo, .int .i64 f.st.hi, .slice Aw nw cw, .slice At nt ct, .slice Ar nr cr] 28)
 rw [hW0] at hal
 have Q0 := hid hal.1
 clear hal hW0
 go_wp2_with fail
 go_loopw [3, 4] (fun v i wr => ∃ (k : Nat) (ys : List Nat), i = .int .i64 k ∧ k ≤ P ∧ Ev w wr ∧ Hid (wr.heap[w.heap.size]? = some (.cells #[.int .i64 f.last, .int .i64 f.size, .int .i64 f.cool, .int .i64 f.die, .int .i64 f.burn, .int .i64 f.st.lo, .int .i64 f.st.hi, .slice Aw nw cw, .slice At nt ct, .slice Ar nr cr] 28 (0, 0))) ∧ Hid (wr.ownsRow (w.heap.size + 1) 3 1 v ys.length (ys.flatMap ncs)) ∧ ys.length ≤ k ∧ Hid (ys ++ M.rallK f k (P - k) = M.rall f)) (fun _ i _ => P - (intOf i).toNat)
 case atStart => exact ⟨0, [], rfl, by omega, hE0, Q0, hid (World.ownsRow_nil _ _ _ _), by simp, hid (by rw [HRT.out]; rfl)⟩
 case round =>
  obtain ⟨k, ys, rfl, hk, hB, hQ0, hown, hyk, hP⟩ := hrel
  obtain ⟨W1, hW1⟩ : ∃ x, x = wr := ⟨_, rfl⟩
  subst hW1
  clear Q0
  obtain ⟨y0, y1, y2, y3, y4, y5, y6, y7, y8, y9⟩ := cells10 hQ0.out
  have lq := heap_lt hQ0.out
  have hBs := hB.size
  by_cases hlt : k < P
  ·
   have hp2 := hP.out
   rw [show P - k = (P - (k + 1)) + 1 from by omega, M.rallK] at hp2
   have HP2 := hid hp2
   have HNK := hid (fun W hE => HNT.out k (by omega) W hE)
   have HRK := hid (fun Tw tw twc l hl W hE hwt => HRX.out k Tw tw twc l hl W hE hwt)
   have HRB := hid (show M.rb f (M.nth f k) = M.rbK f (M.nth f k) f.rds 0 0 from rfl)
   generalize M.rb f (M.nth f k) = rbv at HP2 HRB
   generalize M.nth f k = t at HNK HRK HRB
   clear hp2 hP HRT
   go_upto_region 5 with (go_at_call 57; with_reducible refine (HMN.out _ hB).mono ?_; rintro e w1 ⟨rfl, hb1⟩)
   have hB1 := hB.trans hb1
   have HQ1 := hid (hb1.heap hQ0.out)
   have HO1 := hid (hown.out.ev hb1)
   clear y0 y1 y2 y3 y4 y5 y6 y7 y8 y9 hQ0 hown lq
   go_wp2_with fail
   go_loopw [5, 6] (fun a i wr => ∃ (j acc : Nat), a = .int .i64 acc ∧ i = .int .i64 j ∧ j ≤ nr ∧ acc < 128 ∧ Ev w1 wr ∧ Hid (M.rbK f t (f.rds.drop j) j acc = rbv)) (fun _ i _ => nr - (intOf i).toNat)
   case atStart => exact ⟨0, 0, rfl, rfl, by omega, by omega, Ev.refl _, hid HRB.out.symm⟩
   case round =>
    obtain ⟨j, acc, rfl, rfl, hj, hacc, hX, hT⟩ := hrel
    obtain ⟨W2, hW2⟩ : ∃ x, x = wr := ⟨_, rfl⟩
    subst hW2
    obtain ⟨y0, y1, y2, y3, y4, y5, y6, y7, y8, y9⟩ := cells10 (hX.heap HQ1.out)
    have lq := heap_lt (hX.heap HQ1.out)
    have hEw := hB1.trans hX
    by_cases hjn : j < nr
    ·
     obtain ⟨b, off, x, hA, hb, hx, hxd, hcc⟩ := HL.out.at_ hEw hjn
     have e0 := hcc 0 _ rfl
     have e1 := hcc 1 _ rfl
     have e2 := hcc 2 _ rfl
     simp only [Nat.add_zero] at e0
     have lb : b < W2.heap.size := by have := hEw.size; omega
     have hcap := HL.out.cap
     have hrt := fun Tw tw twc W hE hwt => HRK.out Tw tw twc x (List.mem_of_getElem? hx) W hE hwt
     have hT2 := hT.out
     rw [hxd, M.rbK] at hT2
     obtain ⟨p1, p2, p3⟩ := or_fact7 (a := acc) (i := j) hacc (by omega)
     subst hA
     clear hx hxd hcc hT
     cases hh : M.shows (M.own f t) x with
     | false =>
      rw [hh] at hrt hT2
      have HRR := hid hrt
      have HT2 := hid (show M.rbK f t (f.rds.drop (j + 1)) (j + 1) acc = rbv by simpa using hT2)
      clear hrt hT2 hh p1 p2 p3
      go_upto_region 9 with fail
      have HSE : Hid (∀ w', Ev W2 w' → (∀ o, w'.cell? ⟨w.heap.size, o, none⟩ = W2.cell? ⟨w.heap.size, o, none⟩) ∧ (∀ o, w'.cell? ⟨b, o, none⟩ = W2.cell? ⟨b, o, none⟩)) := hid (fun w' h => ⟨fun o => h.cells.1 _ o lq, fun o => h.cells.1 _ o lb⟩)
      refine wp_region_held_drew (S := fun w' => (∀ o, w'.cell? ⟨w.heap.size, o, none⟩ = W2.cell? ⟨w.heap.size, o, none⟩) ∧ (∀ o, w'.cell? ⟨b, o, none⟩ = W2.cell? ⟨b, o, none⟩)) (by kernel_rfl) (⟨fun o => rfl, fun o => rfl⟩) (fun hHeld => ?_)
      refine tkH 0 (some 20) ?_
      (try simp only [Act.put, sA, sB, sC])
      refine tkH 1 (some 21) ?_
      (try simp only [Act.put, sA, sB, sC])
      refine tkH 2 (some 22) ?_
      (try simp only [Act.put, sA, sB, sC])
      refine tkH 4 (some 24) ?_
      (try simp only [Act.put, sA, sB, sC])
      refine tkH 5 (some 25) ?_
      (try simp only [Act.put, sA, sB, sC])
      refine tkH 6 (some 26) ?_
      (try simp only [Act.put, sA, sB, sC])
      refine tkH 7 (some 27) ?_
      (try simp only [Act.put, sA, sB, sC])
      refine tkH 8 (some 28) ?_
      (try simp only [Act.put, sA, sB, sC])
      refine wpAnyH_one (i := 3) rfl (by kernel_rfl) (by rfl) (fun K hK => ?_)
      go_simp
      refine (HNK.out _ (hEw.trans (Ev.drew (Ev.refl _)))).mono ?_
      rintro e x1 ⟨⟨Bw, dw, rfl, ho2⟩, hb3⟩
      have hV1 : Ev W2 x1 := Ev.trans (Ev.drew (Ev.refl _)) hb3
      have HTW := hid (sl_own (enc := ics) (by decide) (ics_len _) (by omega) ho2)
      clear ho2
      refine hK.out _ _ (HSE.out _ hV1) (fun hHeld => ?_)
      clear hK K
      (try simp only [Act.put, List.setIfInBounds_toArray, List.set_cons_zero, List.set_cons_succ])
      refine wpAnyH_one (i := 9) rfl (by kernel_rfl) (by rfl) (fun K hK => ?_)
      go_simp
      refine (HRR.out Bw _ dw _ (hEw.trans hV1) HTW.out).mono ?_
      rintro e x2 ⟨rfl, hb4⟩
      have hV2 : Ev W2 x2 := hV1.trans hb4
      refine hK.out _ _ (HSE.out _ hV2) (fun hHeld => ?_)
      clear hK K
      (try simp only [Act.put, List.setIfInBounds_toArray, List.set_cons_zero, List.set_cons_succ])
      refine wpAnyH_done (by kernel_rfl) ?_ _
      go_wp2
      exact ⟨⟨j + 1, acc, rfl, by go_num, by omega, hacc, hX.trans hV2, HT2⟩, by simp [intOf]; omega⟩
     | true =>
      rw [hh] at hrt hT2
      have HRR := hid hrt
      have HT2 := hid (show M.rbK f t (f.rds.drop (j + 1)) (j + 1) (acc ||| 2 ^ j) = rbv by simpa using hT2)
      clear hrt hT2 hh
      generalize acc ||| 2 ^ j = acc2 at p2 p3 HT2
      go_upto_region 9 with fail
      have HSE : Hid (∀ w', Ev W2 w' → (∀ o, w'.cell? ⟨w.heap.size, o, none⟩ = W2.cell? ⟨w.heap.size, o, none⟩) ∧ (∀ o, w'.cell? ⟨b, o, none⟩ = W2.cell? ⟨b, o, none⟩)) := hid (fun w' h => ⟨fun o => h.cells.1 _ o lq, fun o => h.cells.1 _ o lb⟩)
      refine wp_region_held_drew (S := fun w' => (∀ o, w'.cell? ⟨w.heap.size, o, none⟩ = W2.cell? ⟨w.heap.size, o, none⟩) ∧ (∀ o, w'.cell? ⟨b, o, none⟩ = W2.cell? ⟨b, o, none⟩)) (by kernel_rfl) (⟨fun o => rfl, fun o => rfl⟩) (fun hHeld => ?_)
      refine tkH 0 (some 20) ?_
      (try simp only [Act.put, sA, sB, sC])
      refine tkH 1 (some 21) ?_
      (try simp only [Act.put, sA, sB, sC])
      refine tkH 2 (some 22) ?_
      (try simp only [Act.put, sA, sB, sC])
      refine tkH 4 (some 24) ?_
      (try simp only [Act.put, sA, sB, sC])
      refine tkH 5 (some 25) ?_
      (try simp only [Act.put, sA, sB, sC])
      refine tkH 6 (some 26) ?_
      (try simp only [Act.put, sA, sB, sC])
      refine tkH 7 (some 27) ?_
      (try simp only [Act.put, sA, sB, sC])
      refine tkH 8 (some 28) ?_
      (try simp only [Act.put, sA, sB, sC])
      refine wpAnyH_one (i := 3) rfl (by kernel_rfl) (by rfl) (fun K hK => ?_)
      go_simp
      refine (HNK.out _ (hEw.trans (Ev.drew (Ev.refl _)))).mono ?_
      rintro e x1 ⟨⟨Bw, dw, rfl, ho2⟩, hb3⟩
      have hV1 : Ev W2 x1 := Ev.trans (Ev.drew (Ev.refl _)) hb3
      have HTW := hid (sl_own (enc := ics) (by decide) (ics_len _) (by omega) ho2)
      clear ho2
      refine hK.out _ _ (HSE.out _ hV1) (fun hHeld => ?_)
      clear hK K
      (try simp only [Act.put, List.setIfInBounds_toArray, List.set_cons_zero, List.set_cons_succ])
      refine wpAnyH_one (i := 9) rfl (by kernel_rfl) (by rfl) (fun K hK => ?_)
      go_simp
      refine (HRR.out Bw _ dw _ (hEw.trans hV1) HTW.out).mono ?_
      rintro e x2 ⟨rfl, hb4⟩
      have hV2 : Ev W2 x2 := hV1.trans hb4
      refine hK.out _ _ (HSE.out _ hV2) (fun hHeld => ?_)
      clear hK K
      (try simp only [Act.put, List.setIfInBounds_toArray, List.set_cons_zero, List.set_cons_succ])
      refine wpAnyH_done (by kernel_rfl) ?_ _
      go_wp2
      exact ⟨⟨j + 1, acc2, rfl, by go_num, by omega, p3, hX.trans hV2, HT2⟩, by simp [intOf]; omega⟩
    ·
     have hT2 := hT.out
     rw [HL.out.done hjn, M.rbK] at hT2
     have HT2 := hid hT2
     have hxs := hX.size
     have hz1' := hB1.size
     have hn2 : ¬ ((j : Int) < nr) := by omega
     have HO2 := hid ((HO1.out.ev hX).alloc (.cells #[.int .i64 (acc : Int)] 3))
     clear hT2 hT
     go_wp2_with (at_builtin; refine wpList_append_own _ rfl (.tmp 35) (.tmp 37) 25 rfl (w.heap.size + 1) 3 i0 _ 1 8 Try.underlying25 hi0 hz0 hz1 hz2 rfl (by decide) _ ys.length (ys.flatMap ncs) rfl HO2.out ⟨W2.heap.size, 0, none⟩ 1 1 [.int .i64 acc] rfl rfl (news_in (alloc1 W2 _).1) (by simp [Value.oneCell']) (by unfold maxLen; omega) (by omega) (by simp; omega) ?_; intro v' w5 hown' hgrow _)
     have hE5 := Ev.grown (hEw.alloc _) hgrow (fun g e => by have := (HO2.out.lt g e).1; omega)
     refine ⟨⟨k + 1, ys ++ [acc], by go_num, by omega, hE5, hid ?_, hid ?_, by simp; omega, hid ?_⟩, by simp [intOf]; omega⟩
     ·
      exact (hgrow.block _ (by simp; omega) (fun e => by have := (HO2.out.lt _ e.symm).1; omega)).trans ((Ev.alloc (Ev.refl _) _).heap (hX.heap HQ1.out))
     ·
      rw [List.flatMap_append, List.length_append]
      exact hown'
     ·
      have := HP2.out
      rw [List.append_assoc, HT2.out]
      simpa using this
  ·
   obtain rfl : k = P := by omega
   have hp2 := hP.out
   rw [Nat.sub_self, M.rallK, List.append_nil] at hp2
   obtain ⟨B, d, rfl, hsl⟩ := Sl.of_own (enc := ncs) (sz := 1) (by decide) (ncs_len _) (by omega) hown.out
   have HS := hid hsl
   have HP := hid hp2
   have hn2 : ¬ ((k : Int) < k) := by omega
   clear hsl hp2 hown
   go_wp2_with (go_at_call 57; with_reducible refine (HMN.out _ hB).mono ?_; rintro e w1 ⟨rfl, hb1⟩)
   go_ret
   exact ⟨⟨B, _, d, rfl, by rw [← HP.out]; exact HS.out.ev hb1⟩, hB.trans hb1⟩

set_option maxRecDepth 100000 in
set_option maxHeartbeats 8000000 in
theorem Truths_c (f : M.Cf) (Aw At Ar : Option Addr) (nw cw nt ct nr cr : Nat) (h0 : M.check f = 0) (w : World) (hs : CS w w.heap.size f Aw At Ar nw cw nt ct nr cr) :
  Calls Try.prog 55 #[.agg #[.int .i64 f.last, .int .i64 f.size, .int .i64 f.cool, .int .i64 f.die, .int .i64 f.burn, .int .i64 f.st.lo, .int .i64 f.st.hi, .slice Aw nw cw, .slice At nt ct, .slice Ar nr cr]] w fun e w' => (∃ B m d, e = .returned (.slice B m d) ∧ m ≤ 2000 ∧ TL w' B m d (M.rtr f)) ∧ Ev w w' := by
 obtain ⟨i0, hi0, hz0, hz1, hz2⟩ := info_parts infoRT
 have hv := (M.check0 h0).2.2.1
 have hl9 := (M.check0 h0).1
 obtain ⟨hmn, hm2⟩ := M.many_nat h0
 have hst := (M.valid_parts hv).2.2.2.1
 have hwl := hs.w_.len
 have hvl := (M.valid_parts hv).2.2.2.2.2.1
 have hng : nw ≤ 10 := by omega
 have hll := hs.r.len
 have hl5 : nr ≤ 5 := by have := (M.check0 h0).2.1; omega
 have HAL := hid (fun W (hE : Ev w W) => All_c f Aw At Ar nw cw nt ct nr cr h0 W (hs.ev hE))
 have HFU := hid (fun W => Full_c f Aw At Ar nw cw nt ct nr cr (by omega) W)
 have HAT := hid (fun i h => M.rallK_at f (M.prodN (M.ranges f)) 0 i h)
 have HLN := hid (show (M.rall f).length = M.prodN (M.ranges f) from M.rallK_len f _ 0)
 have HRT := hid (show M.rtr f = M.rtrK f 0 (M.prodN (M.ranges f)) from rfl)
 rw [show M.rallK f 0 (M.prodN (M.ranges f)) = M.rall f from rfl] at HAT
 have HNT := hid (fun k (hk : k ≤ 2000) W (hE : Ev w W) => Nth_c f Aw At Ar nw cw nt ct nr cr hv hl9 k (by omega) W (hs.ev hE))
 generalize M.prodN (M.ranges f) = P at HRT hm2 HAT HLN
 generalize M.rall f = all at HAL HAT HLN
 have hF : 2 ^ f.rds.length - 1 = 2 ^ nr - 1 := by rw [hll]
 have HF := hid hF
 generalize 2 ^ nr - 1 = F at HFU HF
 clear hs hmn hst hwl hvl hv hl9 hll h0 hF
 go_enter Try.func55, Try.ntmps55
 go_upto_region 1 with fail
 generalize hW0 : World.alloc w _ = W0
 have hE0 : Ev w W0 := by rw [← hW0]; exact Ev.alloc (Ev.refl _) _
 have hal := alloc1 w (.cells #[.int .i64 f.last, .int .i64 f.size, .int .i64 f.cool, .int .i64 f.die, .int .i64 f.burn, .int .i64 f.st.lo, .int .i64 f.st.hi, .slice Aw nw cw, .slice At nt ct, .slice Ar nr cr] 28)
 rw [hW0] at hal
 have Q0 := hid hal.1
 clear hal hW0
 obtain ⟨y0, y1, y2, y3, y4, y5, y6, y7, y8, y9⟩ := cells10 Q0.out
 go_upto_region 2 with (go_at_call 42; with_reducible refine (HAL.out _ hE0).mono ?_; rintro e x1 ⟨⟨LB, lm, ld, rfl, hsl⟩, hb1⟩)
 have HS := hid hsl
 have HQ1 := hid (hb1.heap Q0.out)
 have hE1 := hE0.trans hb1
 have hlm : lm = P := by rw [← hsl.len, HLN.out]
 subst hlm
 have hz1s := hE1.size
 have lq1 := heap_lt HQ1.out
 clear hsl Q0 y0 y1 y2 y3 y4 y5 y6 y7 y8 y9 HAL HLN
 go_wp2_with fail
 go_loopw [4, 5] (fun v i wr => ∃ (k : Nat) (ys : List M.Tr) (vs : List Td), i = .int .i64 k ∧ k ≤ lm ∧ Ev x1 wr ∧ Hid (wr.ownsRow x1.heap.size 30 2 v vs.length (vs.flatMap thc)) ∧ Hid (TRows x1.heap.size wr vs ys) ∧ vs.length ≤ k ∧ Hid (ys ++ M.rtrK f k (lm - k) = M.rtr f)) (fun _ i _ => lm - (intOf i).toNat)
 case atStart => exact ⟨0, [], [], rfl, by omega, Ev.refl _, hid (World.ownsRow_nil _ _ _ _), hid (TRows.nil _ _), by simp, hid (by rw [HRT.out]; rfl)⟩
 case round =>
  obtain ⟨k, ys, vs, rfl, hk, hB, hown, hrow, hyk, hP⟩ := hrel
  obtain ⟨W1, hW1⟩ : ∃ x, x = wr := ⟨_, rfl⟩
  subst hW1
  obtain ⟨y0, y1, y2, y3, y4, y5, y6, y7, y8, y9⟩ := cells10 (hB.heap HQ1.out)
  have lq := heap_lt (hB.heap HQ1.out)
  have hBs := hB.size
  have hEw := hE1.trans hB
  by_cases hlt : k < lm
  ·
   obtain ⟨b, off, x, hA, hb, hx, hxd, hcc⟩ := (HS.out.ev hB).at_ (Below.refl _ _) hlt
   have e0 := hcc 0 _ rfl
   simp only [Nat.add_zero, Nat.mul_one] at e0
   have hcap := HS.out.cap
   have hat := HAT.out k hlt
   rw [Nat.zero_add, hx] at hat
   obtain rfl := Option.some.inj hat
   have hp2 := hP.out
   rw [show lm - k = (lm - (k + 1)) + 1 from by omega, M.rtrK, HF.out] at hp2
   have HNK := hid (fun W hE => HNT.out k (by omega) W hE)
   generalize M.rb f (M.nth f k) = rbv at e0 hp2
   generalize M.nth f k = t at HNK hp2
   subst hA
   clear hx hxd hcc hat hP
   by_cases hr : rbv = F
   ·
    rw [if_pos hr] at hp2
    have HP2 := hid hp2
    subst hr
    clear hp2
    go_upto_region 6 with fail
    have HSE : Hid (∀ w', Ev W1 w' → (∀ o, w'.cell? ⟨w.heap.size, o, none⟩ = W1.cell? ⟨w.heap.size, o, none⟩) ∧ (∀ o, w'.cell? ⟨b, o, none⟩ = W1.cell? ⟨b, o, none⟩)) := hid (fun w' h => ⟨fun o => h.cells.1 _ o lq, fun o => h.cells.1 _ o hb⟩)
    refine wp_region_held_drew (S := fun w' => (∀ o, w'.cell? ⟨w.heap.size, o, none⟩ = W1.cell? ⟨w.heap.size, o, none⟩) ∧ (∀ o, w'.cell? ⟨b, o, none⟩ = W1.cell? ⟨b, o, none⟩)) (by kernel_rfl) (⟨fun o => rfl, fun o => rfl⟩) (fun hHeld => ?_)
    refine tkH 0 (some 14) ?_
    (try simp only [Act.put, sA, sB, sC])
    refine tkH 1 (some 15) ?_
    (try simp only [Act.put, sA, sB, sC])
    refine tkH 2 (some 16) ?_
    (try simp only [Act.put, sA, sB, sC])
    refine tkH 3 (some 17) ?_
    (try simp only [Act.put, sA, sB, sC])
    refine tkH 4 (some 18) ?_
    (try simp only [Act.put, sA, sB, sC])
    refine wpAnyH_one (i := 5) rfl (by kernel_rfl) (by rfl) (fun K hK => ?_)
    go_simp
    refine (HFU.out _).mono ?_
    rintro e x2 ⟨rfl, hb2⟩
    have hV2 : Ev W1 x2 := Ev.trans (Ev.drew (Ev.refl _)) hb2
    refine hK.out _ _ (HSE.out _ hV2) (fun hHeld => ?_)
    clear hK K
    (try simp only [Act.put, List.setIfInBounds_toArray, List.set_cons_zero, List.set_cons_succ])
    refine tkH 6 (some 20) ?_
    (try simp only [Act.put, sA, sB, sC])
    refine wpAnyH_done (by kernel_rfl) ?_ _
    have HO2 := hid (hown.out.ev hV2)
    have hV2s := hV2.size
    go_wp2_with (first | (go_at_call 56; with_reducible refine (HNK.out _ (hEw.trans hV2)).mono ?_; rintro e x3 ⟨⟨Bw, dw, rfl, ho2⟩, hb3⟩; have HO3 := hid ((HO2.out.ev hb3).alloc (.cells #[.int .i64 t.st, .slice Bw nw dw] 30)); have hz3 := hb3.size; have HR2 := hid ho2; clear ho2) | (at_builtin; refine wpList_append_own _ rfl (.tmp 21) (.tmp 25) 57 rfl x1.heap.size 30 i0 _ 2 32 Try.underlying57 hi0 hz0 hz1 hz2 rfl (by decide) _ vs.length (vs.flatMap thc) rfl HO3.out ⟨x3.heap.size, 0, none⟩ 1 1 [.int .i64 t.st, .slice Bw nw dw] rfl rfl (news_in (alloc1 x3 _).1) (by simp [Value.oneCell']) (by unfold maxLen; omega) (by omega) (by simp; omega) ?_; intro v' w5 hown' hgrow _))
    have hb0 : Ev x3 (World.alloc x3 (.cells #[.int .i64 t.st, .slice Bw nw dw] 30)) := Ev.alloc (Ev.refl _) _
    have hbx := (hV2.trans hb3).trans hb0
    have hbase := fun g e => (HO3.out.lt g e).1
    have hE5 := Ev.grown (hEw.trans hbx) hgrow (fun g e => by have := hbase g e; omega)
    have hown3 : w5.ownsRow x1.heap.size 30 2 v' (vs ++ [(t.st, (Bw, nw, dw))]).length ((vs ++ [(t.st, (Bw, nw, dw))]).flatMap thc) := by rw [List.flatMap_append, List.length_append]; exact hown'
    have hr5 : TRows x1.heap.size w5 (vs ++ [(t.st, (Bw, nw, dw))]) (ys ++ [t]) := by
     refine TRows.grown (TRows.snoc (hrow.out.ev hbx) ⟨rfl, own_base (HR2.out.ev hb0) (by omega), ?_⟩) HO3.out (by decide) hgrow
     show nw ≤ 100
     omega
    refine ⟨⟨k + 1, ys ++ [t], vs ++ [(t.st, (Bw, nw, dw))], by go_num, by omega, ?_, hid hown3, hid hr5, by simp; omega, hid ?_⟩, by simp [intOf]; omega⟩
    ·
     exact Ev.grown (hB.trans hbx) hgrow (fun g e => by have := hbase g e; omega)
    ·
     rw [List.append_assoc]
     exact HP2.out
   ·
    rw [if_neg hr, List.nil_append] at hp2
    have HP2 := hid hp2
    have hne : ((rbv : Int) == (F : Int)) = false := by simp; omega
    clear hp2 hr
    go_upto_region 6 with fail
    have HSE : Hid (∀ w', Ev W1 w' → (∀ o, w'.cell? ⟨w.heap.size, o, none⟩ = W1.cell? ⟨w.heap.size, o, none⟩) ∧ (∀ o, w'.cell? ⟨b, o, none⟩ = W1.cell? ⟨b, o, none⟩)) := hid (fun w' h => ⟨fun o => h.cells.1 _ o lq, fun o => h.cells.1 _ o hb⟩)
    refine wp_region_held_drew (S := fun w' => (∀ o, w'.cell? ⟨w.heap.size, o, none⟩ = W1.cell? ⟨w.heap.size, o, none⟩) ∧ (∀ o, w'.cell? ⟨b, o, none⟩ = W1.cell? ⟨b, o, none⟩)) (by kernel_rfl) (⟨fun o => rfl, fun o => rfl⟩) (fun hHeld => ?_)
    refine tkH 0 (some 14) ?_
    (try simp only [Act.put, sA, sB, sC])
    refine tkH 1 (some 15) ?_
    (try simp only [Act.put, sA, sB, sC])
    refine tkH 2 (some 16) ?_
    (try simp only [Act.put, sA, sB, sC])
    refine tkH 3 (some 17) ?_
    (try simp only [Act.put, sA, sB, sC])
    refine tkH 4 (some 18) ?_
    (try simp only [Act.put, sA, sB, sC])
    refine wpAnyH_one (i := 5) rfl (by kernel_rfl) (by rfl) (fun K hK => ?_)
    go_simp
    refine (HFU.out _).mono ?_
    rintro e x2 ⟨rfl, hb2⟩
    have hV2 : Ev W1 x2 := Ev.trans (Ev.drew (Ev.refl _)) hb2
    refine hK.out _ _ (HSE.out _ hV2) (fun hHeld => ?_)
    clear hK K
    (try simp only [Act.put, List.setIfInBounds_toArray, List.set_cons_zero, List.set_cons_succ])
    refine tkH 6 (some 20) ?_
    (try simp only [Act.put, sA, sB, sC])
    refine wpAnyH_done (by kernel_rfl) ?_ _
    go_wp2
    exact ⟨⟨k + 1, ys, vs, by go_num, by omega, hB.trans hV2, hid (hown.out.ev hV2), hid (hrow.out.ev hV2), by omega, HP2⟩, by simp [intOf]; omega⟩
  ·
   obtain rfl : k = lm := by omega
   have hp2 := hP.out
   rw [Nat.sub_self, M.rtrK, List.append_nil] at hp2
   obtain ⟨B, d, rfl, hsl⟩ := Sl.of_own (enc := thc) (sz := 2) (by decide) (thc_len _) (by omega) hown.out
   have HSX := hid hsl
   have HP := hid hp2
   have hn2 : ¬ ((k : Int) < k) := by omega
   clear hsl hp2 hown
   go_wp2_with fail
   go_ret
   exact ⟨⟨B, _, d, rfl, by omega, by rw [← HP.out]; exact ⟨vs, HSX.out, hrow.out.base (Nat.zero_le _)⟩⟩, hEw⟩

set_option maxRecDepth 100000 in
set_option maxHeartbeats 2000000 in
theorem sure_c (f : M.Cf) (Aw At Ar : Option Addr) (nw cw nt ct nr cr : Nat) (hl0 : -9223372036854775808 ≤ f.last) (w : World) (hs : CS w w.heap.size f Aw At Ar nw cw nt ct nr cr) :
  Calls Try.prog 34 #[.agg #[.int .i64 f.last, .int .i64 f.size, .int .i64 f.cool, .int .i64 f.die, .int .i64 f.burn, .int .i64 f.st.lo, .int .i64 f.st.hi, .slice Aw nw cw, .slice At nt ct, .slice Ar nr cr]] w fun e w' => (∃ B m d, e = .returned (.tuple #[.slice B m d, .int .i64 (M.begin f true)]) ∧ m ≤ 2000 ∧ (M.begin f true = 0 → TL w' B m d (M.rtr f))) ∧ Ev w w' := by
 have hfa := fun W (hE : Ev w W) => fault_c f Aw At Ar nw cw nt ct nr cr hl0 W (hs.ev hE)
 by_cases h0 : M.check f = 0
 ·
  have HTR := hid (fun W (hE : Ev w W) => Truths_c f Aw At Ar nw cw nt ct nr cr h0 W (hs.ev hE))
  have HNL := hid (M.rtr_nil h0)
  have HBG := hid (show M.begin f true = if M.truths f = [] then 11 else 0 by unfold M.begin; rw [if_neg (by simp [h0]), if_neg (by simp)])
  rw [h0] at hfa
  have HFA := hid hfa
  clear hfa hs h0
  go_enter Try.func34, Try.ntmps34
  go_upto_region 1 with fail
  generalize hW0 : World.alloc w _ = W0
  have hE0 : Ev w W0 := by rw [← hW0]; exact Ev.alloc (Ev.refl _) _
  have hal := alloc1 w (.cells #[.int .i64 f.last, .int .i64 f.size, .int .i64 f.cool, .int .i64 f.die, .int .i64 f.burn, .int .i64 f.st.lo, .int .i64 f.st.hi, .slice Aw nw cw, .slice At nt ct, .slice Ar nr cr] 28)
  rw [hW0] at hal
  have Q0 := hid hal.1
  clear hal hW0
  obtain ⟨y0, y1, y2, y3, y4, y5, y6, y7, y8, y9⟩ := cells10 Q0.out
  go_upto_region 5 with (first | (go_at_call 25; with_reducible refine (HFA.out _ hE0).mono ?_; rintro e w1 ⟨rfl, hb1⟩; clear y0 y1 y2 y3 y4 y5 y6 y7 y8 y9; obtain ⟨y0, y1, y2, y3, y4, y5, y6, y7, y8, y9⟩ := cells10 (hb1.heap Q0.out)) | (go_at_call 55; with_reducible refine (HTR.out _ (hE0.trans hb1)).mono ?_; rintro e w2 ⟨⟨B, m, d, rfl, hm, htl⟩, hb2⟩))
  have HTL := hid htl
  have hln := htl.len
  clear htl
  cases m with
  | zero =>
   have HB := hid (show M.begin f true = 11 by rw [HBG.out, if_pos (HNL.out.1 (List.eq_nil_of_length_eq_zero hln))])
   go_wp2_with fail
   refine bodyPost_ret (v := .tuple #[.slice none 0 0, .int .i64 11]) (by simp [results, Try.results34, go_sem]) rfl ⟨⟨none, 0, 0, by rw [HB.out], by omega, fun h => ?_⟩, (hE0.trans hb1).trans hb2⟩
   rw [HB.out] at h
   cases h
  | succ m =>
   have HB := hid (show M.begin f true = 0 by rw [HBG.out, if_neg (fun h => by rw [HNL.out.2 h] at hln; cases hln)])
   have hm0 : (((m + 1 : Nat) : Int) == 0) = false := by simp; omega
   have hm0' : ((m : Int) + 1 == 0) = false := by simp; omega
   go_wp2_with fail
   exact bodyPost_ret (v := .tuple #[.slice B (m + 1) d, .int .i64 0]) (by simp [results, Try.results34, go_sem]) rfl ⟨⟨B, m + 1, d, by rw [HB.out], hm, fun _ => HTL.out⟩, (hE0.trans hb1).trans hb2⟩
 ·
  have HB := hid (show M.begin f true = M.check f by unfold M.begin; rw [if_pos h0])
  generalize M.check f = c at hfa h0 HB
  have hc : (c == 0) = false := by simpa using h0
  have HFA := hid hfa
  have HC0 := hid h0
  clear hfa hs h0
  go_enter Try.func34, Try.ntmps34
  go_upto_region 1 with fail
  generalize hW0 : World.alloc w _ = W0
  have hE0 : Ev w W0 := by rw [← hW0]; exact Ev.alloc (Ev.refl _) _
  have hal := alloc1 w (.cells #[.int .i64 f.last, .int .i64 f.size, .int .i64 f.cool, .int .i64 f.die, .int .i64 f.burn, .int .i64 f.st.lo, .int .i64 f.st.hi, .slice Aw nw cw, .slice At nt ct, .slice Ar nr cr] 28)
  rw [hW0] at hal
  have Q0 := hid hal.1
  clear hal hW0
  obtain ⟨y0, y1, y2, y3, y4, y5, y6, y7, y8, y9⟩ := cells10 Q0.out
  go_wp2_with (go_at_call 25; with_reducible refine (HFA.out _ hE0).mono ?_; rintro e w1 ⟨rfl, hb1⟩; clear y0 y1 y2 y3 y4 y5 y6 y7 y8 y9; obtain ⟨y0, y1, y2, y3, y4, y5, y6, y7, y8, y9⟩ := cells10 (hb1.heap Q0.out))
  refine bodyPost_ret (v := .tuple #[.slice none 0 0, .int .i64 c]) (by simp [results, Try.results34, go_sem]) rfl ⟨⟨none, 0, 0, by rw [HB.out], by omega, fun h => ?_⟩, hE0.trans hb1⟩
  rw [HB.out] at h
  exact absurd h HC0.out

end Go.Proofs.Ytgimcephbeajlaa
