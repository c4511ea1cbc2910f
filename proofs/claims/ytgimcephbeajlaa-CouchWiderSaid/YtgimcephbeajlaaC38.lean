import Derived.Test.YtgimcephbeajlaaC36
import Derived.Test.YtgimcephbeajlaaC18
import Derived.Test.YtgimcephbeajlaaC29
import Derived.Test.YtgimcephbeajlaaC35
set_option linter.unusedSimpArgs false
set_option linter.unusedVariables false
namespace Go.Proofs.Ytgimcephbeajlaa
open Go.RowKit Go.Shelf

theorem M.leave_bits {f : M.Cf} (h : M.check f = 0) {n : Nat} (hl : f.rds.length = n) : ∃ c, c < 2 ^ n ∧ M.fit f (M.keepK (M.butB n c) f.rds 0) = true ∧ M.shortest (M.spares f) n = M.bits c := by
 have n5 : n ≤ 5 := by rw [← hl]; exact (M.check0 h).2.1
 have hP : 0 < 2 ^ n := Nat.pow_pos (by omega)
 have hall : M.fit f (M.keepK (M.butB n (2 ^ n - 1)) f.rds 0) = true := by
  unfold M.butB
  rw [Nat.and_self, Nat.xor_self, M.keepK_zero]
  exact M.fit_nil (M.check0 h).2.2.1
 have hsame := M.shortest_pick (p := M.spares f) (q := fun b => M.fit f (M.keepK (M.butB n b) f.rds 0)) (sz := n) (by omega) (fun b hb => M.spares_bits hl n5 hb) hall
 obtain ⟨h1, _, _⟩ := M.pick_spec (fun b => M.fit f (M.keepK (M.butB n b) f.rds 0)) (2 ^ n - 1 + 1) 0 (M.bits (2 ^ n - 1))
 rw [← hsame] at h1
 rcases h1 with h1 | ⟨c, _, h5, h6, h7⟩
 ·
  exact ⟨_, by omega, hall, h1⟩
 ·
  exact ⟨c, by omega, h6, h7⟩
theorem M.leave_least {f : M.Cf} (h : M.check f = 0) {n : Nat} (hl : f.rds.length = n) {t : Nat} (ht : t < 2 ^ n) (hf : M.fit f (M.keepK (M.butB n t) f.rds 0) = true) : (M.shortest (M.spares f) n).length ≤ (M.bits t).length := by
 obtain ⟨_, _, _, _, _, _, _, h7⟩ := M.leave_spec h hl
 have := h7 t ht hf
 rcases Nat.lt_or_ge (M.bits t).length (M.shortest (M.spares f) n).length with h1 | h1
 ·
  rw [(M.shorter_iff _ _).2 (.inl h1)] at this; cases this
 ·
  exact h1
theorem more_table : ((List.range 5).all fun n => ((List.range (2 ^ n)).all fun c => decide ((M.bits (c + 2 ^ n)).length = (M.bits c).length + 1) && (decide (((n : Nat) : Int) ∈ M.bits (c + 2 ^ n)) && (List.range n).all fun j => decide ((((j : Nat) : Int) ∈ M.bits (c + 2 ^ n)) ↔ (((j : Nat) : Int) ∈ M.bits c)))) && (List.range (2 ^ (n + 1))).all fun d => decide ((M.bits (d % 2 ^ n)).length ≤ (M.bits d).length) && (List.range n).all fun j => decide ((((j : Nat) : Int) ∈ M.bits (d % 2 ^ n)) ↔ (((j : Nat) : Int) ∈ M.bits d))) = true := by decide +kernel
theorem M.fit_mono {f : M.Cf} {a b : List M.Rd} (h : ∀ l ∈ b, l ∈ a) (ha : M.fit f a = true) : M.fit f b = true := by
 rw [M.fit_any, List.any_eq_true] at ha ⊢
 obtain ⟨t, h1, h2⟩ := ha
 exact ⟨t, h1, by rw [List.all_eq_true] at h2 ⊢; exact fun l hl => h2 l (h l hl)⟩
theorem M.fit_with (f : M.Cf) (ls a : List M.Rd) : M.fit (M.withL f ls) a = M.fit f a := by
 rw [M.fit_any, M.fit_any, M.all_with]
 simp only [M.own_with]
theorem M.leave_more {f : M.Cf} {l : M.Rd} (hf : M.check f = 0) (hg : M.check (M.withL f (f.rds ++ [l])) = 0) {n : Nat} (hl : f.rds.length = n) : (M.shortest (M.spares f) n).length ≤ (M.shortest (M.spares (M.withL f (f.rds ++ [l]))) (n + 1)).length ∧ (M.shortest (M.spares (M.withL f (f.rds ++ [l]))) (n + 1)).length ≤ (M.shortest (M.spares f) n).length + 1 := by
 have hgl : (M.withL f (f.rds ++ [l])).rds.length = n + 1 := by show (f.rds ++ [l]).length = n + 1; simp [hl]
 have n5 : n + 1 ≤ 5 := by rw [← hgl]; exact (M.check0 hg).2.1
 have h0 := more_table
 rw [List.all_eq_true] at h0
 have h1 := h0 n (List.mem_range.2 (by omega))
 simp only [Bool.and_eq_true, List.all_eq_true, decide_eq_true_eq] at h1
 obtain ⟨ta, tb⟩ := h1
 have hpow : 2 ^ (n + 1) = 2 * 2 ^ n := by rw [Nat.pow_succ]; omega
 constructor
 ·
  obtain ⟨d, hd, hfit, he⟩ := M.leave_bits hg hgl
  obtain ⟨b1, b2⟩ := tb d (List.mem_range.2 hd)
  rw [M.fit_with] at hfit
  have hm : d % 2 ^ n < 2 ^ n := Nat.mod_lt _ (Nat.pow_pos (by omega))
  have := M.leave_least hf hl hm (M.fit_mono (fun u hu => by
   obtain ⟨j, hj, hb⟩ := (M.mem_keepK _ _ _ _).1 hu
   rw [Nat.zero_add] at hb
   have hjn : j < n := by have := (List.getElem?_eq_some_iff.1 hj).1; omega
   refine (M.mem_keepK _ _ _ _).2 ⟨j, ?_, ?_⟩
   ·
    show (f.rds ++ [l])[j]? = some u
    rw [List.getElem?_append_left (by omega)]; exact hj
   ·
    rw [Nat.zero_add]
    exact (M.but_bit n5 hd (by omega)).2 (fun hm2 => (M.but_bit (by omega) hm hjn).1 hb ((b2 j (List.mem_range.2 hjn)).2 hm2))) hfit)
  rw [he]
  omega
 ·
  obtain ⟨c, hc, hfit, he⟩ := M.leave_bits hf hl
  obtain ⟨a1, a2, a3⟩ := ta c (List.mem_range.2 hc)
  have hcd : c + 2 ^ n < 2 ^ (n + 1) := by omega
  have := M.leave_least hg hgl hcd (by
   rw [M.fit_with]
   refine M.fit_mono (fun u hu => ?_) hfit
   obtain ⟨j, hj, hb⟩ := (M.mem_keepK _ _ _ _).1 hu
   rw [Nat.zero_add] at hb
   have hj2 : (f.rds ++ [l])[j]? = some u := hj
   have hjn1 : j < n + 1 := by have := (List.getElem?_eq_some_iff.1 hj2).1; simp at this; omega
   have hnm := (M.but_bit n5 hcd hjn1).1 hb
   have hjn : j < n := by
    rcases Nat.lt_or_ge j n with h | h
    ·
     exact h
    ·
     obtain rfl : j = n := by omega
     exact absurd a2 hnm
   rw [List.getElem?_append_left (by omega)] at hj2
   exact (M.mem_keepK _ _ _ _).2 ⟨j, hj2, by rw [Nat.zero_add]; exact (M.but_bit (by omega) hc hjn).2 (fun hm2 => hnm ((a3 j (List.mem_range.2 hjn)).2 hm2))⟩)
  rw [he, ← a1]
  exact this
theorem M.truths_more {f : M.Cf} {a b : List M.Rd} (h : ∀ l ∈ b, l ∈ a) : ∀ t ∈ M.truths (M.withL f a), t ∈ M.truths (M.withL f b) := fun t ht => by
 unfold M.truths at ht ⊢
 rw [List.mem_filter, M.all_with] at ht ⊢
 refine ⟨ht.1, ?_⟩
 have h2 := ht.2
 unfold M.right at h2 ⊢
 rw [M.own_with, List.all_eq_true] at h2 ⊢
 exact fun l hl => h2 l (h l hl)
theorem nil_table : ((List.range 6).all fun n => (List.range (2 ^ n)).all fun c => decide ((M.bits c).length = 0 → c = 0)) = true := by decide +kernel
theorem M.with_same (f : M.Cf) : M.withL f f.rds = f := by cases f; rfl
/-- If nothing has to be left out, there is a truth. -/
theorem M.leave_nil {f : M.Cf} (h : M.check f = 0) {n : Nat} (hl : f.rds.length = n) (h0 : (M.shortest (M.spares f) n).length = 0) : M.truths f ≠ [] := by
 have n5 : n ≤ 5 := by rw [← hl]; exact (M.check0 h).2.1
 obtain ⟨c, hc, hfit, he⟩ := M.leave_bits h hl
 have t0 := nil_table
 rw [List.all_eq_true] at t0
 have t1 := t0 n (List.mem_range.2 (by omega))
 rw [List.all_eq_true] at t1
 have hc0 := of_decide_eq_true (t1 c (List.mem_range.2 hc)) (by rw [← he]; exact h0)
 subst hc0
 have hb : M.butB n 0 = 2 ^ n - 1 := by unfold M.butB; simp
 rw [hb, M.keepK_low, Nat.sub_zero, ← hl, List.take_length] at hfit
 intro ht
 have := (M.truths_fit f f.rds).1 (by rw [M.with_same]; exact ht)
 rw [hfit] at this
 cases this
theorem M.begin_is {f : M.Cf} {nm : Bool} (h : M.check f = 0) (hn : nm = true) (ht : M.truths f ≠ []) : M.begin f nm = 0 := by
 unfold M.begin
 rw [if_neg (by simp [h]), hn, if_neg (by simp), if_neg ht]
theorem M.span_sub {a b : List Int} (ha : a ≠ []) (h : ∀ y ∈ a, y ∈ b) : (M.span b).lo ≤ (M.span a).lo ∧ (M.span a).hi ≤ (M.span b).hi :=
 ⟨(M.span_in (h _ (M.span_two ha).1)).1, (M.span_in (h _ (M.span_two ha).2)).2⟩
theorem M.narrow_map (g h : Nat → M.Rg) : ∀ l : List Nat, (∀ i ∈ l, (h i).lo ≤ (g i).lo ∧ (g i).hi ≤ (h i).hi) → M.narrow (l.map g) (l.map h) = true
 | [], _ => rfl
 | i :: l, H => by
  rw [List.map_cons, List.map_cons, M.narrow, M.narrow_map g h l (fun j hj => H j (by simp [hj])), Bool.and_true]
  unfold M.inside
  rw [Bool.and_eq_true, decide_eq_true_eq, decide_eq_true_eq]
  exact H i (by simp)
/-- With fewer truths no bounds are wider. -/
theorem M.bounds_sub {f g : M.Cf} (hl : g.wet.length = f.wet.length) {a b : List M.Tr} (ha : a ≠ []) (h : ∀ t ∈ a, t ∈ b) (plan : List Int) (he : ∀ t ∈ a, M.heats g t plan = M.heats f t plan) : M.narrow (M.bounds g a plan) (M.bounds f b plan) = true := by
 unfold M.bounds
 rw [hl]
 refine M.narrow_map _ _ _ fun i _ => M.span_sub (by unfold M.at; simpa using ha) fun y hy => ?_
 unfold M.at at hy ⊢
 obtain ⟨t, ht, rfl⟩ := List.mem_map.1 hy
 exact List.mem_map.2 ⟨t, h t ht, by rw [he t ht]⟩
theorem M.keeps_sub {f g : M.Cf} {a b : List M.Tr} (ha : a ≠ []) (h : ∀ t ∈ a, t ∈ b) (plan : List Int) (he : ∀ t ∈ a, M.stays g t plan = M.stays f t plan) : M.keepsOf f b plan = 3 ∨ M.keepsOf f b plan = M.keepsOf g a plan := by
 unfold M.keepsOf
 cases h1 : b.all fun t => M.stays f t plan with
 | true =>
  have h2 : (a.all fun t => M.stays g t plan) = true := by
   rw [List.all_eq_true] at h1 ⊢
   exact fun t ht => by rw [he t ht]; exact h1 t (h t ht)
  rw [h2]; exact .inr rfl
 | false =>
  cases h3 : b.any fun t => M.stays f t plan with
  | true => exact .inl rfl
  | false =>
   rw [List.any_eq_false] at h3
   have h4 : ∀ t ∈ a, M.stays g t plan = false := fun t ht => by
    rw [he t ht]
    cases h5 : M.stays f t plan with
    | false => rfl
    | true => exact absurd h5 (h3 t (h t ht))
   have h2 : (a.all fun t => M.stays g t plan) = false := by
    cases a with
    | nil => exact absurd rfl ha
    | cons t r => rw [List.all_cons, h4 t (by simp), Bool.false_and]
   have h6 : (a.any fun t => M.stays g t plan) = false := by
    rw [List.any_eq_false]
    exact fun t ht => by rw [h4 t ht]; decide
   rw [h2, h6]; exact .inr rfl
theorem M.first_le (p : List Int → Bool) (sz : Nat) {x : List Int} (hp : p x = true) (hx : x ∈ M.incr sz x.length 0) : ∀ (j L : Nat), L ≤ x.length → x.length < L + j → p (M.first p sz L j) = true ∧ (M.first p sz L j).length ≤ x.length
 | 0, L, h1, h2 => by omega
 | j + 1, L, h1, h2 => by
  unfold M.first
  cases h : (M.incr sz L 0).find? p with
  | some y => exact ⟨List.find?_some h, Nat.le_trans (Nat.le_of_eq ((M.mem_incr sz L 0 y).1 (List.mem_of_find?_eq_some h)).1) h1⟩
  | none =>
   have hne : L ≠ x.length := fun e => by
    rw [e, List.find?_eq_none] at h
    exact h x hx hp
   exact M.first_le p sz hp hx j (L + 1) (by omega) (by omega)
theorem M.first_in (p : List Int → Bool) (sz : Nat) : ∀ (j L : Nat), M.first p sz L j = [] ∨ (M.first p sz L j ∈ M.incr sz (M.first p sz L j).length 0 ∧ (M.first p sz L j).length < L + j)
 | 0, L => .inl (by simp [M.first])
 | j + 1, L => by
  unfold M.first
  cases h : (M.incr sz L 0).find? p with
  | some y =>
   have hm := List.mem_of_find?_eq_some h
   have hl := ((M.mem_incr sz L 0 y).1 hm).1
   exact .inr ⟨by show y ∈ M.incr sz y.length 0; rw [hl]; exact hm, by show y.length < L + (j + 1); omega⟩
  | none =>
   show M.first p sz (L + 1) j = [] ∨ (M.first p sz (L + 1) j ∈ M.incr sz (M.first p sz (L + 1) j).length 0 ∧ (M.first p sz (L + 1) j).length < L + (j + 1))
   rcases M.first_in p sz j (L + 1) with h1 | ⟨h1, h2⟩
   ·
    exact .inl h1
   ·
    exact .inr ⟨h1, by omega⟩
/-- What is met more often is met by no longer list. -/
theorem M.shortest_mono {p q : List Int → Bool} (sz : Nat) (h : ∀ x, p x = true → q x = true) (hp : p (M.shortest p sz) = true) : q (M.shortest q sz) = true ∧ (M.shortest q sz).length ≤ (M.shortest p sz).length := by
 have hq := h _ hp
 have hm : M.shortest p sz ∈ M.incr sz (M.shortest p sz).length 0 ∧ (M.shortest p sz).length < 0 + (sz + 1) := by
  rcases M.first_in p sz (sz + 1) 0 with h1 | h1
  ·
   have h2 : M.shortest p sz = [] := h1
   rw [h2]
   exact ⟨by simp [M.incr], by show 0 < 0 + (sz + 1); omega⟩
  ·
   exact h1
 exact M.first_le q sz hq hm.1 (sz + 1) 0 (by omega) hm.2
/-- How many turnings are needed; 100 if none keep the heap. -/
def M.need (f : M.Cf) (ts : List M.Tr) : Int := if (ts.all fun t => M.stays f t (M.few f ts)) then (M.few f ts).length else 100
theorem M.few_small (f : M.Cf) (ts : List M.Tr) (h : f.wet.length ≤ 10) : (M.few f ts).length ≤ 11 := by
 have h2 : (M.few f ts).length ≤ 0 + (f.wet.length + 1) := M.first_small (fun plan => ts.all fun t => M.stays f t plan) f.wet.length (f.wet.length + 1) 0
 omega
theorem M.need_bd (f : M.Cf) (ts : List M.Tr) (h : f.wet.length ≤ 10) : 0 ≤ M.need f ts ∧ M.need f ts ≤ 100 := by
 have := M.few_small f ts h
 unfold M.need
 split <;> omega
theorem M.need_sub {f g : M.Cf} (hl : g.wet.length = f.wet.length) (hl10 : f.wet.length ≤ 10) {a b : List M.Tr} (h : ∀ plan, (b.all fun t => M.stays f t plan) = true → (a.all fun t => M.stays g t plan) = true) : M.need g a ≤ M.need f b := by
 cases hb : b.all fun t => M.stays f t (M.few f b) with
 | false =>
  have hf : M.need f b = 100 := by unfold M.need; rw [hb]; rfl
  rw [hf]
  exact (M.need_bd g a (by omega)).2
 | true =>
  have hs := M.shortest_mono (p := fun plan => b.all fun t => M.stays f t plan) (q := fun plan => a.all fun t => M.stays g t plan) f.wet.length (fun x hx => h x hx) hb
  have h1 : (a.all fun t => M.stays g t (M.few g a)) = true := by unfold M.few; rw [hl]; exact hs.1
  have h2 : (M.few g a).length ≤ (M.few f b).length := by unfold M.few; rw [hl]; exact hs.2
  have hf : M.need f b = ((M.few f b).length : Nat) := by unfold M.need; rw [hb]; rfl
  have hg : M.need g a = ((M.few g a).length : Nat) := by unfold M.need; rw [h1]; rfl
  rw [hf, hg]
  omega

set_option maxRecDepth 100000 in
set_option maxHeartbeats 4000000 in
theorem needed_c (f : M.Cf) (Aw At Ar : Option Addr) (nw cw nt ct nr cr : Nat) (hl0 : -9223372036854775808 ≤ f.last) (hnt : nt ≤ 1000) (hnr : nr ≤ 1000) (h0 : M.begin f true = 0) (w : World) (hs : CS w w.heap.size f Aw At Ar nw cw nt ct nr cr) :
  Calls Try.prog 58 #[.agg #[.int .i64 f.last, .int .i64 f.size, .int .i64 f.cool, .int .i64 f.die, .int .i64 f.burn, .int .i64 f.st.lo, .int .i64 f.st.hi, .slice Aw nw cw, .slice At nt ct, .slice Ar nr cr]] w fun e w' => e = .returned (.int .i64 (M.need f (M.truths f))) ∧ Ev w w' := by
 obtain ⟨hc0, _, hne⟩ := M.begin0 h0
 obtain ⟨hl9, _, hv, _⟩ := M.check0 hc0
 have hlast := (M.valid_parts hv).2.2.2.2.2.1
 have hwl := hs.w_.len
 have HHP := hid (fun W (hE : Ev w W) => Heap_c f Aw At Ar nw cw nt ct nr cr (by omega) hnt hnr W (hs.ev hE))
 have hfs := M.few_small f (M.truths f) (by omega)
 cases hq : (M.truths f).all fun t => M.stays f t (M.few f (M.truths f)) with
 | true =>
  have HN := hid (show M.need f (M.truths f) = ((M.few f (M.truths f)).length : Nat) by unfold M.need; rw [hq]; rfl)
  have HFW := hid (fun (Bw : Option Addr) (dw : Nat) (Bt : Option Addr) (dt : Nat) (Br : Option Addr) (dr : Nat) W (h : CS W W.heap.size f Bw Bt Br nw dw nt dt nr dr) => Fewest_ok f Bw Bt Br nw dw nt dt nr dr hl0 W h h0 hq)
  clear hs h0 hc0 hne hv hq
  generalize M.need f (M.truths f) = nd at HN ⊢
  generalize M.few f (M.truths f) = fw at HN HFW hfs
  go_enter Try.func58, Try.ntmps58
  go_wp2_with (first | (go_at_call 21; with_reducible refine (HHP.out _ (Ev.alloc (Ev.refl _) _)).mono ?_; rintro e w5 ⟨⟨Bw5, dw5, Bt5, dt5, Br5, dr5, rfl, hc⟩, hb5⟩; have hE5 : Ev w w5 := (Ev.alloc (Ev.refl _) _).trans hb5; have HC5 := hid hc; clear hc) | (go_at_call 48; with_reducible refine (HFW.out Bw5 dw5 Bt5 dt5 Br5 dr5 _ HC5.out).mono ?_; rintro e w6 ⟨⟨B, d, rfl, _⟩, hb6⟩) | (with_reducible refine ⟨trivial, ?_⟩))
  go_ret
  exact ⟨by rw [HN.out]; rfl, hE5.trans hb6⟩
 | false =>
  have HN := hid (show M.need f (M.truths f) = 100 by unfold M.need; rw [hq]; rfl)
  have HFW := hid (fun (Bw : Option Addr) (dw : Nat) (Bt : Option Addr) (dt : Nat) (Br : Option Addr) (dr : Nat) W (h : CS W W.heap.size f Bw Bt Br nw dw nt dt nr dr) => Fewest_short f Bw Bt Br nw dw nt dt nr dr hl0 W h h0 hq)
  clear hs h0 hc0 hne hv hq
  generalize M.need f (M.truths f) = nd at HN ⊢
  go_enter Try.func58, Try.ntmps58
  go_wp2_with (first | (go_at_call 21; with_reducible refine (HHP.out _ (Ev.alloc (Ev.refl _) _)).mono ?_; rintro e w5 ⟨⟨Bw5, dw5, Bt5, dt5, Br5, dr5, rfl, hc⟩, hb5⟩; have hE5 : Ev w w5 := (Ev.alloc (Ev.refl _) _).trans hb5; have HC5 := hid hc; clear hc) | (go_at_call 48; with_reducible refine (HFW.out Bw5 dw5 Bt5 dt5 Br5 dr5 _ HC5.out).mono ?_; rintro e w6 ⟨rfl, hb6⟩) | (with_reducible refine ⟨trivial, ?_⟩))
  go_ret
  exact ⟨by rw [HN.out]; rfl, hE5.trans hb6⟩

end Go.Proofs.Ytgimcephbeajlaa
