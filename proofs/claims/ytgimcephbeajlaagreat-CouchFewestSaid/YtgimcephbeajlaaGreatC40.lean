import Derived.Test.YtgimcephbeajlaaGreatC38
import Derived.Test.YtgimcephbeajlaaGreatC34
import Derived.Test.YtgimcephbeajlaaGreatC35
set_option linter.unusedSimpArgs false
set_option linter.unusedVariables false
namespace Go.Proofs.YtgimcephbeajlaaGreat
open Go.RowKit Go.Shelf

theorem M.rise_ofP {sz : Nat} : ∀ (x : List Int) (frm : Int), M.rises x = true → (∀ a ∈ x, a < sz) → (∀ a, x.head? = some a → frm ≤ a) → M.Rise sz frm x
 | [], _, _, _, _ => trivial
 | [a], frm, _, h1, h2 => ⟨h2 a rfl, h1 a (by simp), trivial⟩
 | a :: b :: r, frm, hr, h1, h2 => by
  have hr' : (decide (a < b) && M.rises (b :: r)) = true := hr
  rw [Bool.and_eq_true, decide_eq_true_eq] at hr'
  exact ⟨h2 a rfl, h1 a (by simp), M.rise_ofP (b :: r) (a + 1) hr'.2 (fun y hy => h1 y (List.mem_cons_of_mem _ hy)) (fun y hy => by simp at hy; omega)⟩
theorem M.turns_rise {f : M.Cf} (hl : (f.wet.length : Int) = f.last + 1) {x : List Int} (h : M.isTurns f x = true) : M.Rise f.wet.length 0 x := by
 unfold M.isTurns M.hasHour at h
 simp only [Bool.and_eq_true, List.all_eq_true, decide_eq_true_eq] at h
 refine M.rise_ofP x 0 h.1 (fun a ha => by have := (h.2 a ha).2; omega) (fun a ha => ?_)
 cases x with
 | nil => cases ha
 | cons b r =>
  simp at ha
  subst ha
  exact (h.2 b (by simp)).1
theorem M.rise_turns {f : M.Cf} (hl : (f.wet.length : Int) = f.last + 1) {x : List Int} (h : M.Rise f.wet.length 0 x) : M.isTurns f x = true := by
 unfold M.isTurns M.hasHour
 rw [M.rises_rise h, Bool.true_and, List.all_eq_true]
 intro a ha
 have := M.Rise_mem h a ha
 rw [Bool.and_eq_true, decide_eq_true_eq, decide_eq_true_eq]
 omega
theorem M.few_spec {f : M.Cf} {ts : List M.Tr} (hl : (f.wet.length : Int) = f.last + 1) {x : List Int} (hx : M.isTurns f x = true) (hp : (ts.all fun t => M.stays f t x) = true) : M.isTurns f (M.few f ts) = true ∧ (ts.all fun t => M.stays f t (M.few f ts)) = true ∧ ∀ y, M.isTurns f y = true → (ts.all fun t => M.stays f t y) = true → M.shorter y (M.few f ts) = false := by
 obtain ⟨h1, h2, h3⟩ := M.shortest_spec (p := fun plan => ts.all fun t => M.stays f t plan) (M.turns_rise hl hx) hp
 exact ⟨M.rise_turns hl h1, h2, fun y hy hp => h3 y (M.turns_rise hl hy) hp⟩
theorem M.few_turns {f : M.Cf} {ts : List M.Tr} (hl : (f.wet.length : Int) = f.last + 1) : M.isTurns f (M.few f ts) = true := by
 rcases M.first_in (fun plan => ts.all fun t => M.stays f t plan) f.wet.length (f.wet.length + 1) 0 with h | ⟨h, _⟩
 ·
  have h2 : M.few f ts = [] := h
  rw [h2]
  exact M.turns_nil f
 ·
  have h2 := ((M.mem_incr _ _ _ _).1 h).2
  exact M.rise_turns hl (by have h3 : M.Rise f.wet.length ((0 : Nat) : Int) (M.few f ts) := h2; simpa using h3)
/-- The reference's walk over all turnings. -/
def M.rfew (p : List Int → Bool) : Nat → Nat → List Int × Bool → List Int × Bool
 | _, 0, s => s
 | b, j + 1, s => M.rfew p (b + 1) j (if (!s.2 || M.shorter (M.bits10 b) s.1) && p (M.bits10 b) then (M.bits10 b, true) else s)
theorem M.rfew_spec (p : List Int → Bool) : ∀ (j b : Nat) (s : List Int × Bool), (s.2 = true → p s.1 = true) →
  ((M.rfew p b j s).2 = true → p (M.rfew p b j s).1 = true ∧ (M.rfew p b j s = s ∨ ∃ c, b ≤ c ∧ c < b + j ∧ (M.rfew p b j s).1 = M.bits10 c)) ∧
  ((M.rfew p b j s).2 = false → s.2 = false ∧ ∀ c, b ≤ c → c < b + j → p (M.bits10 c) = false) ∧
  (s.2 = true → (M.rfew p b j s).2 = true ∧ M.shorter s.1 (M.rfew p b j s).1 = false) ∧
  ((M.rfew p b j s).2 = true → ∀ c, b ≤ c → c < b + j → p (M.bits10 c) = true → M.shorter (M.bits10 c) (M.rfew p b j s).1 = false)
 | 0, b, s, hs => ⟨fun h => ⟨hs h, .inl rfl⟩, fun h => ⟨h, fun c h1 h2 => by omega⟩, fun h => ⟨h, M.shorter_irrefl _⟩, fun h c h1 h2 => by omega⟩
 | j + 1, b, s, hs => by
  rw [M.rfew]
  cases hb : ((!s.2 || M.shorter (M.bits10 b) s.1) && p (M.bits10 b)) with
  | true =>
   rw [if_pos rfl]
   rw [Bool.and_eq_true] at hb
   obtain ⟨i1, i2, i3, i4⟩ := M.rfew_spec p j (b + 1) (M.bits10 b, true) (fun _ => hb.2)
   generalize M.rfew p (b + 1) j (M.bits10 b, true) = r at i1 i2 i3 i4 ⊢
   obtain ⟨k1, k2⟩ := i3 rfl
   refine ⟨fun h => ⟨(i1 h).1, ?_⟩, fun h => ?_, fun h => ⟨k1, ?_⟩, fun h c h1 h2 h3 => ?_⟩
   ·
    rcases (i1 h).2 with h4 | ⟨c, h4, h5, h6⟩
    ·
     exact .inr ⟨b, by omega, by omega, by rw [h4]⟩
    ·
     exact .inr ⟨c, by omega, by omega, h6⟩
   ·
    rw [k1] at h; cases h
   ·
    cases h4 : M.shorter s.1 r.1 with
    | false => rfl
    | true =>
     have h5 : M.shorter (M.bits10 b) s.1 = true := by
      have := hb.1
      rw [h] at this
      simpa using this
     have := M.shorter_trans h5 h4
     have k3 : M.shorter (M.bits10 b) r.1 = false := k2
     rw [k3] at this
     cases this
   ·
    rcases Nat.eq_or_lt_of_le h1 with rfl | h4
    ·
     exact k2
    ·
     exact i4 h c (by omega) (by omega) h3
  | false =>
   rw [if_neg (by decide)]
   obtain ⟨i1, i2, i3, i4⟩ := M.rfew_spec p j (b + 1) s hs
   generalize M.rfew p (b + 1) j s = r at i1 i2 i3 i4 ⊢
   refine ⟨fun h => ⟨(i1 h).1, ?_⟩, fun h => ⟨(i2 h).1, fun c h1 h2 => ?_⟩, i3, fun h c h1 h2 h3 => ?_⟩
   ·
    rcases (i1 h).2 with h4 | ⟨c, h4, h5, h6⟩
    ·
     exact .inl h4
    ·
     exact .inr ⟨c, by omega, by omega, h6⟩
   ·
    rcases Nat.eq_or_lt_of_le h1 with rfl | h4
    ·
     rw [(i2 h).1] at hb
     simpa using hb
    ·
     exact (i2 h).2 c (by omega) (by omega)
   ·
    rcases Nat.eq_or_lt_of_le h1 with rfl | h4
    ·
     rw [h3, Bool.and_true, Bool.or_eq_false_iff] at hb
     have hs2 : s.2 = true := by simpa using hb.1
     obtain ⟨_, k2⟩ := i3 hs2
     cases h5 : M.shorter (M.bits10 b) r.1 with
     | false => rfl
     | true =>
      rcases M.shorter_tri (M.bits10 b) s.1 with h6 | h6 | h6
      ·
       rw [hb.2] at h6; cases h6
      ·
       rw [h6, k2] at h5; cases h5
      ·
       have := M.shorter_trans h6 h5
       rw [k2] at this
       cases this
    ·
     exact i4 h c (by omega) (by omega) h3
theorem incr_bits8 : ((List.range 9).all fun sz => (List.range (sz + 1)).all fun L => (M.incr sz L 0).all fun x => decide (M.bits10 (M.mask2 x) = x) && decide (M.mask2 x < 2 ^ sz)) = true := by decide +kernel
theorem M.turns_bits {f : M.Cf} (hl : (f.wet.length : Int) = f.last + 1) (h8 : f.wet.length ≤ 8) {x : List Int} (h : M.isTurns f x = true) : ∃ c, c < 2 ^ f.wet.length ∧ M.bits10 c = x := by
 have hr := M.turns_rise hl h
 have hlen : x.length ≤ f.wet.length := by
  rcases M.Rise_len hr (by omega) with rfl | h2
  ·
   simp
  ·
   omega
 have h0 := incr_bits8
 rw [List.all_eq_true] at h0
 have h1 := h0 f.wet.length (List.mem_range.2 (by omega))
 rw [List.all_eq_true] at h1
 have h2 := h1 x.length (List.mem_range.2 (by omega))
 rw [List.all_eq_true] at h2
 have h3 := h2 x ((M.mem_incr _ _ _ _).2 ⟨rfl, by simpa using hr⟩)
 rw [Bool.and_eq_true, decide_eq_true_eq, decide_eq_true_eq] at h3
 exact ⟨_, h3.2, h3.1⟩
theorem M.bits_turns {f : M.Cf} (hv : M.valid f = true) {c : Nat} (hc : c < 2 ^ f.wet.length) : M.isTurns f (M.bits10 c) = true := by
 have hl := (M.valid_parts hv).2.2.2.2.2.1
 have h0 := (M.valid_parts hv).2.2.2.2.1
 have h := M.trn_ok hv c
 unfold M.trn at h
 rw [show f.last.toNat + 1 = f.wet.length by omega, Nat.and_two_pow_sub_one_eq_mod, Nat.mod_eq_of_lt hc] at h
 exact h
/-- The reference finds the fewest turnings. -/
theorem M.rfew_few {f : M.Cf} (hv : M.valid f = true) (h8 : f.wet.length ≤ 8) (ts : List M.Tr) : (M.rfew (fun x => ts.all fun t => M.stays f t x) 0 (2 ^ f.wet.length) ([], false)).2 = (ts.all fun t => M.stays f t (M.few f ts)) ∧ ((ts.all fun t => M.stays f t (M.few f ts)) = true → (M.rfew (fun x => ts.all fun t => M.stays f t x) 0 (2 ^ f.wet.length) ([], false)).1 = M.few f ts) := by
 have hl := (M.valid_parts hv).2.2.2.2.2.1
 obtain ⟨i1, i2, _, i4⟩ := M.rfew_spec (fun x => ts.all fun t => M.stays f t x) (2 ^ f.wet.length) 0 ([], false) (fun h => by cases h)
 generalize M.rfew (fun x => ts.all fun t => M.stays f t x) 0 (2 ^ f.wet.length) ([], false) = r at i1 i2 i4 ⊢
 have hft := M.few_turns (ts := ts) hl
 cases hr : r.2 with
 | false =>
  obtain ⟨_, k2⟩ := i2 hr
  obtain ⟨c, hc, he⟩ := M.turns_bits hl h8 hft
  have h1 := k2 c (Nat.zero_le _) (by omega)
  rw [he] at h1
  exact ⟨h1.symm, fun h => by rw [h] at h1; cases h1⟩
 | true =>
  obtain ⟨k1, k2⟩ := i1 hr
  have hc : ∃ c, c < 2 ^ f.wet.length ∧ r.1 = M.bits10 c := by
   rcases k2 with k2 | ⟨c, _, h1, h2⟩
   ·
    rw [k2] at hr; cases hr
   ·
    exact ⟨c, by omega, h2⟩
  obtain ⟨c, hc, he⟩ := hc
  have hrt : M.isTurns f r.1 = true := by rw [he]; exact M.bits_turns hv hc
  obtain ⟨_, g2, g3⟩ := M.few_spec hl hrt k1
  refine ⟨g2.symm, fun _ => ?_⟩
  have h1 := g3 r.1 hrt k1
  obtain ⟨d, hd, hde⟩ := M.turns_bits hl h8 hft
  have h2 := i4 hr d (Nat.zero_le _) (by omega) (by rw [hde]; exact g2)
  rw [hde] at h2
  rcases M.shorter_tri r.1 (M.few f ts) with h3 | h3 | h3
  ·
   rw [h1] at h3; cases h3
  ·
   exact h3
  ·
   rw [h2] at h3; cases h3
theorem wrap_pow8 {n : Nat} (hn : n ≤ 7) : wrap64 (2 * 2 ^ n) = ((2 ^ (n + 1) : Nat) : Int) ∧ 2 ^ (n + 1) ≤ 256 := by
 have : n = 0 ∨ n = 1 ∨ n = 2 ∨ n = 3 ∨ n = 4 ∨ n = 5 ∨ n = 6 ∨ n = 7 := by omega
 rcases this with rfl | rfl | rfl | rfl | rfl | rfl | rfl | rfl <;> decide +kernel

set_option maxRecDepth 100000 in
set_option maxHeartbeats 4000000 in
theorem rFewest_k (f : M.Cf) (Aw At Ar : Option Addr) (nw cw nt ct nr cr : Nat) (L : Option Addr) (ln lc : Nat) (ts : List M.Tr) (l : Nat) (hl7 : l ≤ 7) (hfl : f.last = l) (h0 : M.check f = 0) (hts : ∀ t ∈ ts, M.listed f t = true) (w : World) (hs : CS w w.heap.size f Aw At Ar nw cw nt ct nr cr) (hl : TL w L ln lc ts) :
  Calls Tryz.prog 11 #[.agg #[.int .i64 (l : Int), .int .i64 f.size, .int .i64 f.cool, .int .i64 f.die, .int .i64 f.burn, .int .i64 f.st.lo, .int .i64 f.st.hi, .slice Aw nw cw, .slice At nt ct, .slice Ar nr cr], .slice L ln lc] w fun e w' => (∃ B n d, e = .returned (.tuple #[.slice B n d, .bool (M.rfew (fun x => ts.all fun t => M.stays f t x) 0 (2 ^ (l + 1)) ([], false)).2]) ∧ Sl ics 1 w' w'.heap.size B n d (M.rfew (fun x => ts.all fun t => M.stays f t x) 0 (2 ^ (l + 1)) ([], false)).1) ∧ Ev w w' := by
 obtain ⟨p1, p2⟩ := wrap_pow8 hl7
 have hpos : 0 < 2 ^ (l + 1) := Nat.pow_pos (by omega)
 have hlast := hfl
 have HKP := hid (fun (P : Option Addr) (pn pc : Nat) (plan : List Int) W (hE : Ev w W) (hp : Sl ics 1 W W.heap.size P pn pc plan) => (show Calls Tryz.prog 39 #[.agg #[.int .i64 (l : Int), .int .i64 f.size, .int .i64 f.cool, .int .i64 f.die, .int .i64 f.burn, .int .i64 f.st.lo, .int .i64 f.st.hi, .slice Aw nw cw, .slice At nt ct, .slice Ar nr cr], .slice L ln lc, .slice P pn pc] W fun e w' => e = .returned (.int .i64 (M.keepsOf f ts plan)) ∧ Ev W w' from by have := rKeeps_c f Aw At Ar nw cw nt ct nr cr L ln lc ts P pn pc plan h0 hts W (hs.ev hE) (hl.ev hE) hp; rw [hfl] at this; exact this))
 have HK1 := hid (fun plan => M.keeps_one f ts plan)
 clear hs hl h0 hts hfl hlast
 generalize 2 ^ (l + 1) = z at p1 p2 hpos ⊢
 go_enter Tryz.func11, Tryz.ntmps11
 go_wp2
 generalize hW0 : World.alloc w _ = W0
 have hE0 : Ev w W0 := by rw [← hW0]; exact Ev.alloc (Ev.refl _) _
 have hal := alloc1 w (.cells #[.int .i64 (l : Int), .int .i64 f.size, .int .i64 f.cool, .int .i64 f.die, .int .i64 f.burn, .int .i64 f.st.lo, .int .i64 f.st.hi, .slice Aw nw cw, .slice At nt ct, .slice Ar nr cr] 28)
 rw [hW0] at hal
 have Q0 := hid hal.1
 clear hal hW0
 go_loopw [6, 7, 8] (fun bv fv iv wr => ∃ (k : Nat) (best : List Int) (found : Bool) (B : Option Addr) (n d : Nat), bv = .slice B n d ∧ fv = .bool found ∧ iv = .int .i64 k ∧ k ≤ z ∧ Ev W0 wr ∧ Hid (Sl ics 1 wr wr.heap.size B n d best) ∧ Hid (M.rfew (fun x => ts.all fun t => M.stays f t x) k (z - k) (best, found) = M.rfew (fun x => ts.all fun t => M.stays f t x) 0 z ([], false))) (fun _ _ i _ => z - (intOf i).toNat)
 case atStart => exact ⟨0, [], false, none, 0, 0, rfl, rfl, rfl, by omega, Ev.refl _, hid Sl.nil, hid rfl⟩
 case round =>
  obtain ⟨k, best, found, B, n, d, rfl, rfl, rfl, hk, hB, HS, HR⟩ := hrel
  obtain ⟨W1, hW1⟩ : ∃ x, x = wr := ⟨_, rfl⟩
  subst hW1
  obtain ⟨y0, y1, y2, y3, y4, y5, y6, y7, y8, y9⟩ := cells10 (hB.heap Q0.out)
  by_cases hlt : k < z
  ·
   have hltI : (k : Int) < (z : Int) := by omega
   have HBI := hid (fun W => Bits10_c k (by omega) W)
   have hxl := M.bitsK_len k 10 0
   have hr2 := HR.out
   rw [show z - k = (z - (k + 1)) + 1 by omega, M.rfew] at hr2
   rw [show M.bitsK k 0 10 = M.bits10 k from rfl] at hxl
   generalize M.bits10 k = x at HBI hxl hr2
   obtain ⟨xn, hxn⟩ : ∃ m, x.length = m := ⟨_, rfl⟩
   rw [hxn] at HBI
   have HX := hid hr2
   clear hr2 HR
   cases found with
   | false =>
    cases hkp : (ts.all fun t => M.stays f t x) with
    | true =>
     have HN := hid (show M.rfew (fun x => ts.all fun t => M.stays f t x) (k + 1) (z - (k + 1)) (x, true) = M.rfew (fun x => ts.all fun t => M.stays f t x) 0 z ([], false) from by
      have h := HX.out
      rw [if_pos (by simp [hkp])] at h
      exact h)
     clear HX
     have hk1 := HK1.out x
     rw [hkp] at hk1
     have HKX := hid (fun X dx W hE hp => HKP.out X xn dx x W hE hp)
     generalize M.keepsOf f ts x = kv at hk1 HKX
     clear hkp 
     go_wp2_with (first | (go_at_call 38; with_reducible refine (HBI.out _).mono ?_; rintro e w2 ⟨⟨X, dx, rfl, hx⟩, hb2⟩; have HSX := hid hx; clear hx; clear y0 y1 y2 y3 y4 y5 y6 y7 y8 y9; obtain ⟨y0, y1, y2, y3, y4, y5, y6, y7, y8, y9⟩ := cells10 ((hB.trans hb2).heap Q0.out)) | (go_at_call 39; with_reducible refine (HKX.out X dx _ (hE0.trans (hB.trans hb2)) HSX.out).mono ?_; rintro e w4 ⟨rfl, hb4⟩; clear y0 y1 y2 y3 y4 y5 y6 y7 y8 y9; obtain ⟨y0, y1, y2, y3, y4, y5, y6, y7, y8, y9⟩ := cells10 (((hB.trans hb2).trans hb4).heap Q0.out)))
     exact ⟨⟨k + 1, x, true, X, xn, dx, rfl, rfl, by go_num, by omega, ((hB.trans hb2).trans hb4), hid ((HSX.out.ev hb4)), HN⟩, by simp [intOf]; omega⟩
    | false =>
     have HN := hid (show M.rfew (fun x => ts.all fun t => M.stays f t x) (k + 1) (z - (k + 1)) (best, false) = M.rfew (fun x => ts.all fun t => M.stays f t x) 0 z ([], false) from by
      have h := HX.out
      rw [if_neg (by simp [hkp])] at h
      exact h)
     clear HX
     have hk1 := HK1.out x
     rw [hkp] at hk1
     have HKX := hid (fun X dx W hE hp => HKP.out X xn dx x W hE hp)
     generalize M.keepsOf f ts x = kv at hk1 HKX
     clear hkp 
     go_wp2_with (first | (go_at_call 38; with_reducible refine (HBI.out _).mono ?_; rintro e w2 ⟨⟨X, dx, rfl, hx⟩, hb2⟩; have HSX := hid hx; clear hx; clear y0 y1 y2 y3 y4 y5 y6 y7 y8 y9; obtain ⟨y0, y1, y2, y3, y4, y5, y6, y7, y8, y9⟩ := cells10 ((hB.trans hb2).heap Q0.out)) | (go_at_call 39; with_reducible refine (HKX.out X dx _ (hE0.trans (hB.trans hb2)) HSX.out).mono ?_; rintro e w4 ⟨rfl, hb4⟩; clear y0 y1 y2 y3 y4 y5 y6 y7 y8 y9; obtain ⟨y0, y1, y2, y3, y4, y5, y6, y7, y8, y9⟩ := cells10 (((hB.trans hb2).trans hb4).heap Q0.out)))
     exact ⟨⟨k + 1, best, false, B, n, d, rfl, rfl, by go_num, by omega, ((hB.trans hb2).trans hb4), hid (HS.out.ev (hb2.trans hb4)), HN⟩, by simp [intOf]; omega⟩
   | true =>
    cases hsh : M.shorter x best with
    | false =>
     have HN := hid (show M.rfew (fun x => ts.all fun t => M.stays f t x) (k + 1) (z - (k + 1)) (best, true) = M.rfew (fun x => ts.all fun t => M.stays f t x) 0 z ([], false) from by
      have h := HX.out
      rw [if_neg (by simp [hsh])] at h
      exact h)
     clear HX
     have HSH := hid (fun (X : Option Addr) (dx : Nat) W h1 h2 => by have := Shorter_c X B xn dx n d x best W h1 h2; rw [hsh] at this; exact this)
     clear  hsh
     go_wp2_with (first | (go_at_call 38; with_reducible refine (HBI.out _).mono ?_; rintro e w2 ⟨⟨X, dx, rfl, hx⟩, hb2⟩; have HSX := hid hx; clear hx; clear y0 y1 y2 y3 y4 y5 y6 y7 y8 y9; obtain ⟨y0, y1, y2, y3, y4, y5, y6, y7, y8, y9⟩ := cells10 ((hB.trans hb2).heap Q0.out)) | (go_at_call 20; with_reducible refine (HSH.out X dx _ HSX.out (HS.out.ev hb2)).mono ?_; rintro e w3 ⟨rfl, hb3⟩; clear y0 y1 y2 y3 y4 y5 y6 y7 y8 y9; obtain ⟨y0, y1, y2, y3, y4, y5, y6, y7, y8, y9⟩ := cells10 (((hB.trans hb2).trans hb3).heap Q0.out)))
     exact ⟨⟨k + 1, best, true, B, n, d, rfl, rfl, by go_num, by omega, ((hB.trans hb2).trans hb3), hid (HS.out.ev (hb2.trans hb3)), HN⟩, by simp [intOf]; omega⟩
    | true =>
     cases hkp : (ts.all fun t => M.stays f t x) with
     | true =>
      have HN := hid (show M.rfew (fun x => ts.all fun t => M.stays f t x) (k + 1) (z - (k + 1)) (x, true) = M.rfew (fun x => ts.all fun t => M.stays f t x) 0 z ([], false) from by
       have h := HX.out
       rw [if_pos (by simp [hkp, hsh])] at h
       exact h)
      clear HX
      have HSH := hid (fun (X : Option Addr) (dx : Nat) W h1 h2 => by have := Shorter_c X B xn dx n d x best W h1 h2; rw [hsh] at this; exact this)
      have hk1 := HK1.out x
      rw [hkp] at hk1
      have HKX := hid (fun X dx W hE hp => HKP.out X xn dx x W hE hp)
      generalize M.keepsOf f ts x = kv at hk1 HKX
      clear hkp hsh
      go_wp2_with (first | (go_at_call 38; with_reducible refine (HBI.out _).mono ?_; rintro e w2 ⟨⟨X, dx, rfl, hx⟩, hb2⟩; have HSX := hid hx; clear hx; clear y0 y1 y2 y3 y4 y5 y6 y7 y8 y9; obtain ⟨y0, y1, y2, y3, y4, y5, y6, y7, y8, y9⟩ := cells10 ((hB.trans hb2).heap Q0.out)) | (go_at_call 20; with_reducible refine (HSH.out X dx _ HSX.out (HS.out.ev hb2)).mono ?_; rintro e w3 ⟨rfl, hb3⟩; clear y0 y1 y2 y3 y4 y5 y6 y7 y8 y9; obtain ⟨y0, y1, y2, y3, y4, y5, y6, y7, y8, y9⟩ := cells10 (((hB.trans hb2).trans hb3).heap Q0.out)) | (go_at_call 39; with_reducible refine (HKX.out X dx _ (hE0.trans ((hB.trans hb2).trans hb3)) (HSX.out.ev hb3)).mono ?_; rintro e w4 ⟨rfl, hb4⟩; clear y0 y1 y2 y3 y4 y5 y6 y7 y8 y9; obtain ⟨y0, y1, y2, y3, y4, y5, y6, y7, y8, y9⟩ := cells10 ((((hB.trans hb2).trans hb3).trans hb4).heap Q0.out)))
      exact ⟨⟨k + 1, x, true, X, xn, dx, rfl, rfl, by go_num, by omega, (((hB.trans hb2).trans hb3).trans hb4), hid (((HSX.out.ev hb3).ev hb4)), HN⟩, by simp [intOf]; omega⟩
     | false =>
      have HN := hid (show M.rfew (fun x => ts.all fun t => M.stays f t x) (k + 1) (z - (k + 1)) (best, true) = M.rfew (fun x => ts.all fun t => M.stays f t x) 0 z ([], false) from by
       have h := HX.out
       rw [if_neg (by simp [hkp, hsh])] at h
       exact h)
      clear HX
      have HSH := hid (fun (X : Option Addr) (dx : Nat) W h1 h2 => by have := Shorter_c X B xn dx n d x best W h1 h2; rw [hsh] at this; exact this)
      have hk1 := HK1.out x
      rw [hkp] at hk1
      have HKX := hid (fun X dx W hE hp => HKP.out X xn dx x W hE hp)
      generalize M.keepsOf f ts x = kv at hk1 HKX
      clear hkp hsh
      go_wp2_with (first | (go_at_call 38; with_reducible refine (HBI.out _).mono ?_; rintro e w2 ⟨⟨X, dx, rfl, hx⟩, hb2⟩; have HSX := hid hx; clear hx; clear y0 y1 y2 y3 y4 y5 y6 y7 y8 y9; obtain ⟨y0, y1, y2, y3, y4, y5, y6, y7, y8, y9⟩ := cells10 ((hB.trans hb2).heap Q0.out)) | (go_at_call 20; with_reducible refine (HSH.out X dx _ HSX.out (HS.out.ev hb2)).mono ?_; rintro e w3 ⟨rfl, hb3⟩; clear y0 y1 y2 y3 y4 y5 y6 y7 y8 y9; obtain ⟨y0, y1, y2, y3, y4, y5, y6, y7, y8, y9⟩ := cells10 (((hB.trans hb2).trans hb3).heap Q0.out)) | (go_at_call 39; with_reducible refine (HKX.out X dx _ (hE0.trans ((hB.trans hb2).trans hb3)) (HSX.out.ev hb3)).mono ?_; rintro e w4 ⟨rfl, hb4⟩; clear y0 y1 y2 y3 y4 y5 y6 y7 y8 y9; obtain ⟨y0, y1, y2, y3, y4, y5, y6, y7, y8, y9⟩ := cells10 ((((hB.trans hb2).trans hb3).trans hb4).heap Q0.out)))
      exact ⟨⟨k + 1, best, true, B, n, d, rfl, rfl, by go_num, by omega, (((hB.trans hb2).trans hb3).trans hb4), hid (HS.out.ev ((hb2.trans hb3).trans hb4)), HN⟩, by simp [intOf]; omega⟩
  ·
   have hn9 : ¬ ((k : Int) < (z : Int)) := by omega
   have hr2 := HR.out
   rw [show z - k = 0 by omega, M.rfew] at hr2
   have hr3 := hid hr2
   clear hr2 HR
   go_wp2
   go_ret2
   rw [← hr3.out]
   exact ⟨⟨B, n, d, rfl, HS.out⟩, hE0.trans hB⟩
theorem rFewest_c (f : M.Cf) (Aw At Ar : Option Addr) (nw cw nt ct nr cr : Nat) (L : Option Addr) (ln lc : Nat) (ts : List M.Tr) (h7 : f.last ≤ 7) (h0 : M.check f = 0) (hts : ∀ t ∈ ts, M.listed f t = true) (w : World) (hs : CS w w.heap.size f Aw At Ar nw cw nt ct nr cr) (hl : TL w L ln lc ts) :
  Calls Tryz.prog 11 #[.agg #[.int .i64 f.last, .int .i64 f.size, .int .i64 f.cool, .int .i64 f.die, .int .i64 f.burn, .int .i64 f.st.lo, .int .i64 f.st.hi, .slice Aw nw cw, .slice At nt ct, .slice Ar nr cr], .slice L ln lc] w fun e w' => (∃ B n d, e = .returned (.tuple #[.slice B n d, .bool (ts.all fun t => M.stays f t (M.few f ts))]) ∧ ((ts.all fun t => M.stays f t (M.few f ts)) = true → Sl ics 1 w' w'.heap.size B n d (M.few f ts))) ∧ Ev w w' := by
 have hv := (M.check0 h0).2.2.1
 have hl00 := (M.valid_parts hv).2.2.2.2.1
 have hwl := (M.valid_parts hv).2.2.2.2.2.1
 obtain ⟨h1, h2⟩ := M.rfew_few hv (by omega) ts
 have := rFewest_k f Aw At Ar nw cw nt ct nr cr L ln lc ts f.last.toNat (by omega) (by omega) h0 hts w hs hl
 rw [show ((f.last.toNat : Nat) : Int) = f.last by omega, show f.last.toNat + 1 = f.wet.length by omega] at this
 refine this.mono fun e w' h => ?_
 obtain ⟨⟨B, n, d, g1, g2⟩, g3⟩ := h
 exact ⟨⟨B, n, d, by rw [g1, h1], fun hq => by rw [h2 hq] at g2; exact g2⟩, g3⟩

end Go.Proofs.YtgimcephbeajlaaGreat
