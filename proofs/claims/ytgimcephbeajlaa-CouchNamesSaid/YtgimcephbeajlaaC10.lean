import Derived.Test.YtgimcephbeajlaaC9
set_option linter.unusedSimpArgs false
set_option linter.unusedVariables false
namespace Go.Proofs.Ytgimcephbeajlaa
open Go.RowKit Go.Shelf

theorem Wc.low {w : World} {f : M.Cf} {Aw At Ar : Option Addr} {nw cw nt ct nr cr : Nat} {Ts Ss : Option Addr} {ns cs ms ds p mb : Nat} {b0 b1 : Nat} {ts : List M.Tr} {ss : List (List Int)} (h : Wc w f Aw At Ar nw cw nt ct nr cr Ts Ss ns cs ms ds p mb b0 ts ss) (hb : b1 ≤ b0) (hfd : CS w b1 f Aw At Ar nw cw nt ct nr cr) : Wc w f Aw At Ar nw cw nt ct nr cr Ts Ss ns cs ms ds p mb b1 ts ss := by
 obtain ⟨vs, hv, hr⟩ := h.tr
 exact ⟨h.hd, hfd, ⟨vs, own_base hv hb, hr⟩, h.st, h.s10, h.mp, h.n1, h.n2, Nat.le_trans hb h.b1⟩
theorem Wc.len {w : World} {f : M.Cf} {Aw At Ar : Option Addr} {nw cw nt ct nr cr : Nat} {Ts Ss : Option Addr} {ns cs ms ds p mb : Nat} {b0 : Nat} {ts : List M.Tr} {ss : List (List Int)} (h : Wc w f Aw At Ar nw cw nt ct nr cr Ts Ss ns cs ms ds p mb b0 ts ss) : ts.length = ns := by
 obtain ⟨vs, hv, hr⟩ := h.tr
 rw [← hr.1]
 exact (sl_own (enc := thc) (by decide) (thc_len vs) (by have := h.n1; omega) hv).len
def M.begin (f : M.Cf) (named : Bool) : Int := if M.check f ≠ 0 then M.check f else if named = false then 2 else if M.truths f = [] then 11 else 0
theorem M.check0 {f : M.Cf} (h : M.check f = 0) : f.last ≤ 9 ∧ f.rds.length ≤ 5 ∧ M.valid f = true ∧ M.tooMany (M.ranges f) 1 = false := by
 unfold M.check at h
 split at h
 ·
  cases h
 ·
  rename_i h1
  split at h
  ·
   cases h
  ·
   rename_i h2
   split at h
   ·
    cases h
   ·
    rename_i h3
    exact ⟨by omega, by omega, by simpa using h2, by simpa using h3⟩
theorem M.check_bd (f : M.Cf) : M.check f = 0 ∨ M.check f = 1 ∨ M.check f = 3 := by
 unfold M.check
 split
 ·
  exact .inr (.inr rfl)
 ·
  split
  ·
   exact .inr (.inl rfl)
  ·
   split
   ·
    exact .inr (.inr rfl)
   ·
    exact .inl rfl
theorem M.rds_bd {f : M.Cf} (h : M.check f = 0) : ∀ x ∈ f.rds, (0 ≤ x.hr ∧ x.hr ≤ 9) ∧ (0 ≤ x.sn ∧ x.sn ≤ 1000) ∧ 0 ≤ x.er ∧ x.er ≤ 50 := fun x hx => by
 have hl := (M.check0 h).1
 have := (M.valid_parts (M.check0 h).2.2.1).2.2.2.2.2.2.2.2 x hx
 unfold M.validRd M.hasHour M.holds at this
 simp only [Bool.and_eq_true, decide_eq_true_eq] at this
 omega
theorem open_c (f : M.Cf) (Aw At Ar : Option Addr) (nw cw nt ct nr cr : Nat) (h0 : M.check f = 0) (w : World) (hs : CS w w.heap.size f Aw At Ar nw cw nt ct nr cr) :
  Calls Try.prog 80 #[.agg #[.int .i64 f.last, .int .i64 f.size, .int .i64 f.cool, .int .i64 f.die, .int .i64 f.burn, .int .i64 f.st.lo, .int .i64 f.st.hi, .slice Aw nw cw, .slice At nt ct, .slice Ar nr cr]] w fun e w' => (∃ Ts Ss ns cs ms ds p mb, e = .returned (.pointer (some ⟨p, 0, none⟩)) ∧ Wc w' f Aw At Ar nw cw nt ct nr cr Ts Ss ns cs ms ds p mb w.heap.size (M.truths f) (M.stands f)) ∧ Ev w w' :=
 callsIn_wide.1 (open_in f Aw At Ar nw cw nt ct nr cr (M.check0 h0).2.2.1 (M.check0 h0).1 (M.check0 h0).2.2.2 (by have := hs.r.len; have := (M.check0 h0).2.1; omega) w hs)

set_option maxRecDepth 100000 in
set_option maxHeartbeats 2000000 in
theorem begin_err (f : M.Cf) (Aw At Ar : Option Addr) (nw cw nt ct nr cr : Nat) (hl0 : -9223372036854775808 ≤ f.last) (named : Bool) (h0 : M.begin f named ≠ 0) (w : World) (hs : CS w w.heap.size f Aw At Ar nw cw nt ct nr cr) :
  Calls Try.prog 74 #[.agg #[.int .i64 f.last, .int .i64 f.size, .int .i64 f.cool, .int .i64 f.die, .int .i64 f.burn, .int .i64 f.st.lo, .int .i64 f.st.hi, .slice Aw nw cw, .slice At nt ct, .slice Ar nr cr], .bool named] w fun e w' => e = .returned (.tuple #[.pointer none, .int .i64 (M.begin f named)]) ∧ Ev w w' := by
 have hck := fun W hE => check_c f Aw At Ar nw cw nt ct nr cr hl0 W (hs.ev (w' := W) hE)
 have hop := fun (h : M.check f = 0) W hE => open_c f Aw At Ar nw cw nt ct nr cr h W (hs.ev (w' := W) hE)
 have hbd := M.check_bd f
 by_cases hc : M.check f = 0
 ·
  have HOP := hid (hop hc)
  have HBG : M.begin f named = if named = false then 2 else if M.truths f = [] then 11 else 0 := by unfold M.begin; rw [if_neg (by simp [hc])]
  rw [HBG] at h0 ⊢
  rw [hc] at hck
  have HCK := hid hck
  clear hck hop hs hbd hc HBG
  cases named with
  | false =>
   go_enter Try.func74, Try.ntmps74
   go_wp2_with (first | (go_at_call 26; ((with_reducible refine (HCK.out _ (Ev.alloc (Ev.refl _) _)).mono ?_); rintro e w1 ⟨rfl, hb1⟩; obtain ⟨y0, y1, y2, y3, y4, y5, y6, y7, y8, y9⟩ := cells10 (hb1.heap (alloc1 w (.cells #[.int .i64 f.last, .int .i64 f.size, .int .i64 f.cool, .int .i64 f.die, .int .i64 f.burn, .int .i64 f.st.lo, .int .i64 f.st.hi, .slice Aw nw cw, .slice At nt ct, .slice Ar nr cr] 40)).1); have hG : Ev w w1 := Ev.trans (Ev.alloc (Ev.refl _) _) hb1)))
   go_ret2
   exact ⟨rfl, hG⟩
  | true =>
   have ht : M.truths f = [] := by
    by_cases ht : M.truths f = []
    ·
     exact ht
    ·
     exact absurd (by rw [if_neg (by simp), if_neg ht]) h0
   have HT := hid ht
   rw [if_neg (by simp), if_pos ht]
   clear ht h0
   go_enter Try.func74, Try.ntmps74
   go_upto_region 7 with (first | (go_at_call 26; ((with_reducible refine (HCK.out _ (Ev.alloc (Ev.refl _) _)).mono ?_); rintro e w1 ⟨rfl, hb1⟩; obtain ⟨y0, y1, y2, y3, y4, y5, y6, y7, y8, y9⟩ := cells10 (hb1.heap (alloc1 w (.cells #[.int .i64 f.last, .int .i64 f.size, .int .i64 f.cool, .int .i64 f.die, .int .i64 f.burn, .int .i64 f.st.lo, .int .i64 f.st.hi, .slice Aw nw cw, .slice At nt ct, .slice Ar nr cr] 40)).1); have hG : Ev w w1 := Ev.trans (Ev.alloc (Ev.refl _) _) hb1)) | (go_at_call 80; ((with_reducible refine (HOP.out _ hG).mono ?_); rintro e w2 ⟨⟨Ts, Ss, ns, cs, ms, ds, p, mb, rfl, hwc⟩, hb2⟩; obtain ⟨k0, k1, k2, k3, k4, k5, k6, k7, k8, k9, k10, k11, k12⟩ := cells13 hwc.hd; have hG2 := hG.trans hb2; have HWC := hid hwc; clear hwc)))
   have hnt : ns = 0 := by rw [← HWC.out.len, HT.out]; rfl
   subst hnt
   have e0 : (((0 : Nat) : Int) == 0) = true := rfl
   go_wp2
   go_ret2
   exact ⟨rfl, hG2⟩
 ·
  have HBG : M.begin f named = M.check f := by unfold M.begin; rw [if_pos hc]
  rw [HBG]
  generalize M.check f = ck at hck hc hbd
  have hne : (ck != 0) = true := by simpa using hc
  have HCK := hid hck
  clear hck hop hs hbd hc HBG h0
  go_enter Try.func74, Try.ntmps74
  go_wp2_with (first | (go_at_call 26; ((with_reducible refine (HCK.out _ (Ev.alloc (Ev.refl _) _)).mono ?_); rintro e w1 ⟨rfl, hb1⟩; obtain ⟨y0, y1, y2, y3, y4, y5, y6, y7, y8, y9⟩ := cells10 (hb1.heap (alloc1 w (.cells #[.int .i64 f.last, .int .i64 f.size, .int .i64 f.cool, .int .i64 f.die, .int .i64 f.burn, .int .i64 f.st.lo, .int .i64 f.st.hi, .slice Aw nw cw, .slice At nt ct, .slice Ar nr cr] 40)).1); have hG : Ev w w1 := Ev.trans (Ev.alloc (Ev.refl _) _) hb1)))
  go_ret2
  exact ⟨rfl, hG⟩

set_option maxRecDepth 100000 in
set_option maxHeartbeats 2000000 in
theorem begin_ok (f : M.Cf) (Aw At Ar : Option Addr) (nw cw nt ct nr cr : Nat) (hl0 : -9223372036854775808 ≤ f.last) (named : Bool) (h0 : M.begin f named = 0) (w : World) (hs : CS w w.heap.size f Aw At Ar nw cw nt ct nr cr) :
  Calls Try.prog 74 #[.agg #[.int .i64 f.last, .int .i64 f.size, .int .i64 f.cool, .int .i64 f.die, .int .i64 f.burn, .int .i64 f.st.lo, .int .i64 f.st.hi, .slice Aw nw cw, .slice At nt ct, .slice Ar nr cr], .bool named] w fun e w' => (∃ Ts Ss ns cs ms ds p mb, e = .returned (.tuple #[.pointer (some ⟨p, 0, none⟩), .int .i64 0]) ∧ Wc w' f Aw At Ar nw cw nt ct nr cr Ts Ss ns cs ms ds p mb w.heap.size (M.truths f) (M.stands f)) ∧ Ev w w' := by
 have hc : M.check f = 0 := by
  by_cases hc : M.check f = 0
  ·
   exact hc
  ·
   unfold M.begin at h0; rw [if_pos hc] at h0; exact h0
 have HBG : M.begin f named = if named = false then 2 else if M.truths f = [] then 11 else 0 := by unfold M.begin; rw [if_neg (by simp [hc])]
 rw [HBG] at h0
 have hnm : named = true := by
  cases named with
  | true => rfl
  | false => simp at h0
 subst hnm
 have ht : ¬ M.truths f = [] := fun ht => by rw [if_neg (by simp), if_pos ht] at h0; simp at h0
 have hck := fun W hE => check_c f Aw At Ar nw cw nt ct nr cr hl0 W (hs.ev (w' := W) hE)
 have HOP := hid (fun W hE => open_c f Aw At Ar nw cw nt ct nr cr hc W (hs.ev (w' := W) hE))
 rw [hc] at hck
 have HCK := hid hck
 have HT := hid ht
 have HCS := hid hs
 clear hck hs hc HBG h0 ht
 go_enter Try.func74, Try.ntmps74
 go_upto_region 7 with (first | (go_at_call 26; ((with_reducible refine (HCK.out _ (Ev.alloc (Ev.refl _) _)).mono ?_); rintro e w1 ⟨rfl, hb1⟩; obtain ⟨y0, y1, y2, y3, y4, y5, y6, y7, y8, y9⟩ := cells10 (hb1.heap (alloc1 w (.cells #[.int .i64 f.last, .int .i64 f.size, .int .i64 f.cool, .int .i64 f.die, .int .i64 f.burn, .int .i64 f.st.lo, .int .i64 f.st.hi, .slice Aw nw cw, .slice At nt ct, .slice Ar nr cr] 40)).1); have hG : Ev w w1 := Ev.trans (Ev.alloc (Ev.refl _) _) hb1)) | (go_at_call 80; ((with_reducible refine (HOP.out _ hG).mono ?_); rintro e w2 ⟨⟨Ts, Ss, ns, cs, ms, ds, p, mb, rfl, hwc⟩, hb2⟩; obtain ⟨k0, k1, k2, k3, k4, k5, k6, k7, k8, k9, k10, k11, k12⟩ := cells13 hwc.hd; have hG2 := hG.trans hb2; have HWC := hid hwc; clear hwc)))
 have hnt : 0 < ns := by rw [← HWC.out.len]; exact List.length_pos_iff.2 HT.out
 have e0 : ((ns : Int) == 0) = false := by simpa using (show ¬ ns = 0 by omega)
 go_wp2
 go_ret2
 exact ⟨⟨Ts, Ss, ns, cs, ms, ds, p, mb, rfl, HWC.out.low (by have := hG.size; omega) (HCS.out.keep hG2)⟩, hG2⟩

set_option maxRecDepth 100000 in
set_option maxHeartbeats 1000000 in
theorem idxfnW_c (A : Option Addr) (n c g : Nat) (caps : List Value) (p : List Int → Bool) (xs : List (List Int)) (h5 : ∀ x ∈ xs, x.length = 10) (w : World) (hs : Sl scs 10 w w.heap.size A n c xs)
  (hcf : ∀ args w, (callFunc g args).run Try.prog w = .ok (.enter g args) w)
  (hG : ∀ x W, x.length = 10 → Ev w W → Calls Try.prog g (sv x :: caps).toArray W fun e w' => e = .returned (.bool (p x)) ∧ Ev W w') :
  Calls Try.prog 130 #[.slice A n c, .func (.func g) #[] caps.toArray] w fun e w' => e = .returned (.int .i64 (M.idxg p xs 0)) ∧ Ev w w' := by
 have hsm := hs.small
 have HG := hid hG
 clear hG
 go_enter Try.func130, Try.ntmps130
 go_wp2
 go_loopw [8] (fun i wr => ∃ k : Nat, i = .int .i64 k ∧ k ≤ n ∧ Ev w wr ∧ Hid (M.idxg p (xs.drop k) k = M.idxg p xs 0)) (fun i _ => n - (intOf i).toNat)
 case atStart => exact ⟨0, rfl, by omega, Ev.refl _, hid (by simp)⟩
 case round =>
  obtain ⟨k, rfl, hk, hB, hp⟩ := hrel
  by_cases hlt : k < n
  ·
   obtain ⟨b, off, x, rfl, hb, hx, hd, hcc⟩ := hs.at_ hB hlt
   have hx5 := h5 x (List.mem_of_getElem? hx)
   have hcl := HG.out x _ hx5 hB
   obtain ⟨b0, b1, b2, b3, b4, b5, b6, b7, b8, b9, hxx⟩ := list10 hx5
   subst hxx
   have e0 := hcc 0 _ rfl
   have e1 := hcc 1 _ rfl
   have e2 := hcc 2 _ rfl
   have e3 := hcc 3 _ rfl
   have e4 := hcc 4 _ rfl
   have e5 := hcc 5 _ rfl
   have e6 := hcc 6 _ rfl
   have e7 := hcc 7 _ rfl
   have e8 := hcc 8 _ rfl
   have e9 := hcc 9 _ rfl
   simp only [Nat.add_zero] at e0
   have H := hid hd
   have HC := hid hcl
   clear hd hx hcc hcl
   by_cases hv : p [b0, b1, b2, b3, b4, b5, b6, b7, b8, b9] = true
   ·
    go_wp2_with fail
    refine HC.out.mono ?_
    rintro e w1 ⟨rfl, hb1⟩
    rw [hv]
    go_wp2
    go_ret
    exact ⟨ret_int (by rw [← hp.out, H.out]; simp only [M.idxg]; rw [if_pos hv]), hB.trans hb1⟩
   ·
    have hv' : p [b0, b1, b2, b3, b4, b5, b6, b7, b8, b9] = false := by simpa using hv
    go_wp2_with fail
    refine HC.out.mono ?_
    rintro e w1 ⟨rfl, hb1⟩
    rw [hv']
    go_wp2
    refine ⟨⟨k + 1, by go_num, by omega, hB.trans hb1, hid ?_⟩, by simp [intOf]; omega⟩
    rw [← hp.out, H.out]; simp only [M.idxg]; rw [if_neg hv]; simp
  ·
   have H := hid (hs.done hlt)
   go_wp2
   go_ret
   exact ⟨ret_int (by rw [← hp.out, H.out]; rfl), hB⟩

set_option maxRecDepth 100000 in
set_option maxHeartbeats 1000000 in
theorem confnW_c (A : Option Addr) (n c g : Nat) (caps : List Value) (p : List Int → Bool) (xs : List (List Int)) (h5 : ∀ x ∈ xs, x.length = 10) (w : World) (hs : Sl scs 10 w w.heap.size A n c xs)
  (hcf : ∀ args w, (callFunc g args).run Try.prog w = .ok (.enter g args) w)
  (hG : ∀ x W, x.length = 10 → Ev w W → Calls Try.prog g (sv x :: caps).toArray W fun e w' => e = .returned (.bool (p x)) ∧ Ev W w') :
  Calls Try.prog 111 #[.slice A n c, .func (.func g) #[] caps.toArray] w fun e w' => e = .returned (.bool (xs.any p)) ∧ Ev w w' := by
 have HC := hid (idxfnW_c A n c g caps p xs h5 w hs hcf hG)
 have HA := hid (M.idxg_any p xs 0 (by omega))
 clear hG
 go_enter Try.func111, Try.ntmps111
 go_wp2_with (go_at_call 130; with_reducible refine HC.out.mono ?_; rintro e w1 ⟨rfl, hb1⟩)
 go_ret
 exact ⟨ret_bool HA.out, hb1⟩

set_option maxRecDepth 100000 in
set_option maxHeartbeats 2000000 in
theorem fit1_c (g : Nat) (L : Option Addr) (n c : Nat) (ls : List M.Rd) (hls : ∀ x ∈ ls, (0 ≤ x.hr ∧ x.hr ≤ 9) ∧ (0 ≤ x.sn ∧ x.sn ≤ 1000) ∧ 0 ≤ x.er ∧ x.er ≤ 50) (x : List Int) (hx : x.length = 10) (w : World) (hc : w.cell? ⟨g, 0, none⟩ = some (.slice L n c)) (hs : Sl rdc 3 w w.heap.size L n c ls) :
  Calls Try.prog 112 #[sv x, .pointer (some ⟨g, 0, none⟩)] w fun e w' => e = .returned (.bool (ls.all (M.shows x))) ∧ Ev w w' := by
 obtain ⟨a0, a1, a2, a3, a4, a5, a6, a7, a8, a9, rfl⟩ := list10 hx
 have HSA := hid (fun W (hE : Ev w W) => showAll_c a0 a1 a2 a3 a4 a5 a6 a7 a8 a9 L n c ls hls W (hs.ev hE))
 have hgl := cell_lt hc
 generalize ls.all (M.shows [a0, a1, a2, a3, a4, a5, a6, a7, a8, a9]) = r at HSA
 simp only [sv, List.map_cons, List.map_nil]
 clear hs hls hx
 go_enter Try.func112, Try.ntmps112
 go_wp2_with (go_at_call 69; with_reducible refine (HSA.out _ (Ev.alloc (Ev.refl _) _)).mono ?_; rintro e w1 ⟨rfl, hb1⟩)
 go_ret
 exact ⟨rfl, Ev.trans (Ev.alloc (Ev.refl _) _) hb1⟩

/-- Readings are all right in some truth. -/
def M.fit (f : M.Cf) (ls : List M.Rd) : Bool := (M.stands f).any fun x => ls.all (M.shows x)

set_option maxRecDepth 100000 in
set_option maxHeartbeats 2000000 in
theorem fit_c (f : M.Cf) (Aw At Ar : Option Addr) (nw cw nt ct nr cr : Nat) (Ts Ss : Option Addr) (ns cs ms ds p mb : Nat) (b0 : Nat) (ts : List M.Tr) (L : Option Addr) (n c : Nat) (ls : List M.Rd) (hls : ∀ x ∈ ls, (0 ≤ x.hr ∧ x.hr ≤ 9) ∧ (0 ≤ x.sn ∧ x.sn ≤ 1000) ∧ 0 ≤ x.er ∧ x.er ≤ 50) (w : World) (hw : Wc w f Aw At Ar nw cw nt ct nr cr Ts Ss ns cs ms ds p mb b0 ts (M.stands f)) (hs : Sl rdc 3 w w.heap.size L n c ls) :
  Calls Try.prog 81 #[.pointer (some ⟨p, 0, none⟩), .slice L n c] w fun e w' => e = .returned (.bool (M.fit f ls)) ∧ Ev w w' := by
 have hal := alloc1 w (.cells #[.slice L n c] 38)
 have hE0 : Ev w (w.alloc (.cells #[.slice L n c] 38)) := Ev.alloc (Ev.refl _) _
 obtain ⟨k0, k1, k2, k3, k4, k5, k6, k7, k8, k9, k10, k11, k12⟩ := cells13 hw.hd
 have hpl := heap_lt hw.hd
 have hc0 := cell_in hal.1 0
 simp only [List.getElem?_toArray, List.getElem?_cons_zero] at hc0
 have HCF := hid (confnW_c Ss ms ds 112 [.pointer (some ⟨w.heap.size, 0, none⟩)] (fun x => ls.all (M.shows x)) (M.stands f) hw.s10 _ (hw.st'.ev hE0) (fun args w => Try.call112 args w)
  (fun x W hx hE => fit1_c w.heap.size L n c ls hls x hx W ((hE.cells.1 _ _ (heap_lt hal.1)).trans hc0) (hs.ev (hE0.trans hE))))
 clear hal hc0 hE0
 go_enter Try.func81, Try.ntmps81
 go_wp2_with (go_at_call 111; with_reducible refine HCF.out.mono ?_; rintro e w1 ⟨rfl, hb1⟩)
 go_ret
 exact ⟨rfl, Ev.trans (Ev.alloc (Ev.refl _) _) hb1⟩


/-- What is left of a list without the things at some places; the first has the number k. -/
def M.woK {α : Type} (ps : List Int) : List α → Nat → List α
 | [], _ => []
 | x :: r, k => if (k : Int) ∈ ps then M.woK ps r (k + 1) else x :: M.woK ps r (k + 1)
def M.without {α : Type} (ls : List α) (ps : List Int) : List α := M.woK ps ls 0
theorem M.woK_mem {α : Type} (ps : List Int) : ∀ (ls : List α) (k : Nat) (x : α), x ∈ M.woK ps ls k → x ∈ ls
 | [], _, _, h => h
 | y :: r, k, x, h => by
  unfold M.woK at h
  split at h
  ·
   exact List.mem_cons_of_mem _ (M.woK_mem ps r _ x h)
  ·
   rcases List.mem_cons.1 h with rfl | h
   ·
    simp
   ·
    exact List.mem_cons_of_mem _ (M.woK_mem ps r _ x h)
theorem M.woK_len {α : Type} (ps : List Int) : ∀ (ls : List α) (k : Nat), (M.woK ps ls k).length ≤ ls.length
 | [], _ => Nat.le_refl _
 | y :: r, k => by
  unfold M.woK
  have := M.woK_len ps r (k + 1)
  split <;> simp <;> omega
theorem infoRd : (Try.prog.info? 79).map (fun i => (i.zero, i.size, i.bytes)) = some (some (.agg #[.int .i64 0, .int .i64 0, .int .i64 0]), 3, 24) := by kernel_rfl

set_option maxRecDepth 100000 in
set_option maxHeartbeats 4000000 in
theorem without_c (L P : Option Addr) (n c pn pc : Nat) (ls : List M.Rd) (ps : List Int) (hn : n ≤ 1000) (w : World) (hs : Sl rdc 3 w w.heap.size L n c ls) (hp : Sl ics 1 w w.heap.size P pn pc ps) :
  Calls Try.prog 113 #[.slice L n c, .slice P pn pc] w fun e w' => (∃ B m d, e = .returned (.slice B m d) ∧ Sl rdc 3 w' w'.heap.size B m d (M.without ls ps)) ∧ Ev w w' := by
 obtain ⟨i0, hi0, hz0, hz1, hz2⟩ := info_parts infoRd
 have hsm := hs.small
 have HCN := hid (fun (v : Int) W (hE : Ev w W) => contains_c P pn pc ps v W (hp.ev hE))
 clear hp
 go_enter Try.func113, Try.ntmps113
 go_wp2
 go_loopw [5, 10] (fun v i wr => ∃ k : Nat, ∃ V : Option Addr, ∃ m d : Nat, ∃ ac : List M.Rd, v = .slice V m d ∧ i = .int .i64 k ∧ k ≤ n ∧ m ≤ k ∧ Ev w wr ∧ wr.ownsRow w.heap.size 79 3 (.slice V m d) m (ac.flatMap rdc) ∧ Hid (ac ++ M.woK ps (ls.drop k) k = M.without ls ps)) (fun _ i _ => n - (intOf i).toNat)
 case atStart => exact ⟨0, none, 0, 0, [], rfl, rfl, by omega, by omega, Ev.refl _, World.ownsRow_nil _ _ _ _, hid rfl⟩
 case round =>
  obtain ⟨k, V, m, d, ac, rfl, rfl, hk, hm, hB, hown, hall⟩ := hrel
  have hBs := hB.size
  by_cases hlt : k < n
  ·
   obtain ⟨b, off, x, rfl, hb, hx, hd, hcc⟩ := hs.at_ hB hlt
   have e0 := hcc 0 _ rfl
   have e1 := hcc 1 _ rfl
   have e2 := hcc 2 _ rfl
   simp only [Nat.add_zero] at e0
   have hcap := hs.cap
   have HA := hid (show ac ++ (if (k : Int) ∈ ps then M.woK ps (ls.drop (k + 1)) (k + 1) else x :: M.woK ps (ls.drop (k + 1)) (k + 1)) = M.without ls ps by rw [← hall.out, hd]; rfl)
   have HCK := hid (HCN.out (k : Int))
   have HOW := hid hown
   have hE2 : Ev w (wr.alloc (.cells #[.int .i64 x.hr, .int .i64 x.sn, .int .i64 x.er] 79)) := Ev.alloc hB _
   have k0 : (0 : Int) ≤ k := by omega
   clear hx hd hcc hown hall
   cases hin : decide ((k : Int) ∈ ps) with
   | true =>
    have hin' : (k : Int) ∈ ps := of_decide_eq_true hin
    have HC := hid (fun W hE => by have := HCK.out W hE; rw [hin] at this; exact this)
    have HA2 := hid (by have := HA.out; rw [if_pos hin'] at this; exact this)
    clear hin hin'
    go_wp2_with (go_at_call 95; with_reducible refine (HC.out _ hE2).mono ?_; rintro e w1 ⟨rfl, hb1⟩)
    exact ⟨⟨k + 1, V, m, d, ac, rfl, by go_num, by omega, by omega, hE2.trans hb1, (HOW.out.ev (Ev.alloc (Ev.refl _) _)).ev hb1, HA2⟩, by simp [intOf]; omega⟩
   | false =>
    have hin' : ¬ (k : Int) ∈ ps := of_decide_eq_false hin
    have HC := hid (fun W hE => by have := HCK.out W hE; rw [hin] at this; exact this)
    have HA2 := hid (show (ac ++ [x]) ++ M.woK ps (ls.drop (k + 1)) (k + 1) = M.without ls ps by have := HA.out; rw [if_neg hin'] at this; rw [List.append_assoc]; exact this)
    clear hin hin'
    go_wp2_with (first | (go_at_call 95; ((with_reducible refine (HC.out _ hE2).mono ?_); rintro e w1 ⟨rfl, hb1⟩; obtain ⟨x0, x1, x2⟩ := cells3 (hb1.heap (alloc1 wr (.cells #[.int .i64 x.hr, .int .i64 x.sn, .int .i64 x.er] 79)).1); have hE3 : Ev wr w1 := Ev.trans (Ev.alloc (Ev.refl _) _) hb1)) | (at_builtin; refine wpList_append_own_at _ rfl (.tmp 19) (.tmp 21) 38 rfl w.heap.size 79 i0 _ 3 24 Try.underlying38 hi0 hz0 hz1 hz2 rfl (by decide) _ m (ac.flatMap rdc) rfl ((HOW.out.ev hE3).alloc _) ⟨w1.heap.size, 0, none⟩ 1 1 [.int .i64 x.hr, .int .i64 x.sn, .int .i64 x.er] rfl rfl (news_in (alloc1 w1 _).1) (by simp [Value.oneCell']) (by unfold maxLen; omega) (by omega) (by have := hE3.size; simp; omega) ?_; intro v' w3 hown' hgrow _ _; obtain ⟨V', d', rfl⟩ := own_form hown'; have HO3 := hid hown'; have HE3 := hid (Ev.grown ((hB.trans hE3).alloc (.cells #[.int .i64 x.hr, .int .i64 x.sn, .int .i64 x.er] 79)) hgrow (fun q e => (HOW.out.lt q e).1) : Ev w w3); clear hown' hgrow))
    exact ⟨⟨k + 1, V', m + 1, d', ac ++ [x], rfl, by go_num, by omega, by omega, HE3.out, by rw [List.flatMap_append]; exact HO3.out, HA2⟩, by simp [intOf]; omega⟩
  ·
   have H := hid (hs.done hlt)
   have HOW := hid hown
   clear hown
   go_wp2
   go_ret
   refine ⟨⟨V, m, d, rfl, ?_⟩, hB⟩
   have h := hall.out
   rw [H.out, M.woK, List.append_nil] at h
   rw [← h]
   exact sl_own (by decide) (rdc_len _) (by omega) HOW.out

/-- Some readings can be left out. -/
def M.spares (f : M.Cf) (ps : List Int) : Bool := M.fit f (M.without f.rds ps)

set_option maxRecDepth 100000 in
set_option maxHeartbeats 2000000 in
theorem spares_c (f : M.Cf) (Aw At Ar : Option Addr) (nw cw nt ct nr cr : Nat) (Ts Ss : Option Addr) (ns cs ms ds p mb : Nat) (b0 : Nat) (ts : List M.Tr) (hlk : ∀ x ∈ f.rds, (0 ≤ x.hr ∧ x.hr ≤ 9) ∧ (0 ≤ x.sn ∧ x.sn ≤ 1000) ∧ 0 ≤ x.er ∧ x.er ≤ 50) (hl5 : nr ≤ 5) (P : Option Addr) (pn pc : Nat) (ps : List Int) (w : World) (hw : Wc w f Aw At Ar nw cw nt ct nr cr Ts Ss ns cs ms ds p mb b0 ts (M.stands f)) (hp : Sl ics 1 w w.heap.size P pn pc ps) :
  Calls Try.prog 82 #[.pointer (some ⟨p, 0, none⟩), .slice P pn pc] w fun e w' => e = .returned (.bool (M.spares f ps)) ∧ Ev w w' := by
 obtain ⟨k0, k1, k2, k3, k4, k5, k6, k7, k8, k9, k10, k11, k12⟩ := cells13 hw.hd
 have HWO := hid (without_c Ar P nr cr pn pc f.rds ps (by omega) w hw.fd'.r hp)
 have HFT := hid (fun (B : Option Addr) (m d : Nat) W (hE : Ev w W) (h : Sl rdc 3 W W.heap.size B m d (M.without f.rds ps)) => fit_c f Aw At Ar nw cw nt ct nr cr Ts Ss ns cs ms ds p mb b0 ts B m d (M.without f.rds ps) (fun l hl => hlk l (M.woK_mem ps f.rds 0 l hl)) W (hw.ev hE) h)
 have HD := hid (show M.spares f ps = M.fit f (M.without f.rds ps) from rfl)
 generalize M.fit f (M.without f.rds ps) = r at HFT HD
 clear hlk
 go_enter Try.func82, Try.ntmps82
 go_wp2_with (first | (go_at_call 113; ((with_reducible refine HWO.out.mono ?_); rintro e w1 ⟨⟨B, m, d, rfl, hsl⟩, hb1⟩)) | (go_at_call 81; ((with_reducible refine (HFT.out _ _ _ _ hb1 hsl).mono ?_); rintro e w2 ⟨rfl, hb2⟩)))
 go_ret
 exact ⟨by rw [HD.out]; rfl, hb1.trans hb2⟩

end Go.Proofs.Ytgimcephbeajlaa
