import Derived.Test.YtffbkbcjddigdaaA26
set_option linter.unusedSimpArgs false
set_option linter.unusedVariables false
namespace Go.Proofs.Ytffbkbcjddigdaa
open Go.RowKit Go.Shelf

def M.begin (f : M.Cf) (named : Bool) : Int := if M.check f ≠ 0 then M.check f else if named = false then 2 else if M.truths f = [] then 11 else 0
theorem M.check0 {f : M.Cf} (h : M.check f = 0) : f.last ≤ 9 ∧ f.base.length ≤ 3 ∧ f.looks.length ≤ 5 ∧ M.valid f = true ∧ M.tooMany (M.ranges f) 1 = false := by
  unfold M.check at h
  split at h
  · cases h
  · rename_i h1
    split at h
    · cases h
    · rename_i h2
      split at h
      · cases h
      · rename_i h3
        exact ⟨by omega, by omega, by omega, by simpa using h2, by simpa using h3⟩
theorem M.check_bd (f : M.Cf) : M.check f = 0 ∨ M.check f = 1 ∨ M.check f = 3 := by
  unfold M.check
  split
  · exact .inr (.inr rfl)
  · split
    · exact .inr (.inl rfl)
    · split
      · exact .inr (.inr rfl)
      · exact .inl rfl
theorem open_c (f : M.Cf) (Ag Aw Ab Ac Al : Option Addr) (ng cg nw cw nb cb nc cc nl cl : Nat) (h0 : M.check f = 0) (w : World) (hs : CS w w.heap.size f Ag Aw Ab Ac Al ng cg nw cw nb cb nc cc nl cl) :
    Calls Try.prog 69 #[.agg #[.int .i64 f.last, .slice Ag ng cg, .slice Aw nw cw, .slice Ab nb cb, .slice Ac nc cc, .int .i64 f.ripe, .int .i64 f.late, .int .i64 f.trod, .slice Al nl cl]] w fun e w' => (∃ At As nt ct ns cs p mb, e = .returned (.pointer (some ⟨p, 0, none⟩)) ∧ Wc w' f Ag Aw Ab Ac Al ng cg nw cw nb cb nc cc nl cl At As nt ct ns cs p mb (M.truths f) (M.stands f) ∧ w.heap.size ≤ mb) ∧ Ev w w' :=
  callsIn_wide.1 (open_in f Ag Aw Ab Ac Al ng cg nw cw nb cb nc cc nl cl (M.check0 h0).2.2.2.1 (M.check0 h0).1 (M.check0 h0).2.2.2.2 (by have := hs.l.len; have := (M.check0 h0).2.2.1; omega) w hs)

set_option maxRecDepth 100000 in
set_option maxHeartbeats 2000000 in
theorem begin_err (f : M.Cf) (Ag Aw Ab Ac Al : Option Addr) (ng cg nw cw nb cb nc cc nl cl : Nat) (hl0 : -9223372036854775808 ≤ f.last) (named : Bool) (h0 : M.begin f named ≠ 0) (w : World) (hs : CS w w.heap.size f Ag Aw Ab Ac Al ng cg nw cw nb cb nc cc nl cl) :
    Calls Try.prog 64 #[.agg #[.int .i64 f.last, .slice Ag ng cg, .slice Aw nw cw, .slice Ab nb cb, .slice Ac nc cc, .int .i64 f.ripe, .int .i64 f.late, .int .i64 f.trod, .slice Al nl cl], .bool named] w fun e w' => e = .returned (.tuple #[.pointer none, .int .i64 (M.begin f named)]) ∧ Ev w w' := by
  have hck := fun W hE => check_c f Ag Aw Ab Ac Al ng cg nw cw nb cb nc cc nl cl hl0 W (hs.ev (w' := W) hE)
  have hop := fun (h : M.check f = 0) W hE => open_c f Ag Aw Ab Ac Al ng cg nw cw nb cb nc cc nl cl h W (hs.ev (w' := W) hE)
  have hbd := M.check_bd f
  by_cases hc : M.check f = 0
  · have HOP := hid (hop hc)
    have HBG : M.begin f named = if named = false then 2 else if M.truths f = [] then 11 else 0 := by unfold M.begin; rw [if_neg (by simp [hc])]
    rw [HBG] at h0 ⊢
    rw [hc] at hck
    have HCK := hid hck
    clear hck hop hs hbd hc HBG
    cases named with
    | false =>
      go_enter Try.func64, Try.ntmps64
      go_wp2_with (first | (go_at_call 21; ((with_reducible refine (HCK.out _ (Ev.alloc (Ev.refl _) _)).mono ?_); rintro e w1 ⟨rfl, hb1⟩; obtain ⟨y0, y1, y2, y3, y4, y5, y6, y7, y8⟩ := cells9 (hb1.heap (alloc1 w (.cells #[.int .i64 f.last, .slice Ag ng cg, .slice Aw nw cw, .slice Ab nb cb, .slice Ac nc cc, .int .i64 f.ripe, .int .i64 f.late, .int .i64 f.trod, .slice Al nl cl] 38)).1); have hG : Ev w w1 := Ev.trans (Ev.alloc (Ev.refl _) _) hb1)))
      go_ret2
      exact ⟨rfl, hG⟩
    | true =>
      have ht : M.truths f = [] := by
        by_cases ht : M.truths f = []
        · exact ht
        · exact absurd (by rw [if_neg (by simp), if_neg ht]) h0
      have HT := hid ht
      rw [if_neg (by simp), if_pos ht]
      clear ht h0
      go_enter Try.func64, Try.ntmps64
      go_upto_region 7 with (first | (go_at_call 21; ((with_reducible refine (HCK.out _ (Ev.alloc (Ev.refl _) _)).mono ?_); rintro e w1 ⟨rfl, hb1⟩; obtain ⟨y0, y1, y2, y3, y4, y5, y6, y7, y8⟩ := cells9 (hb1.heap (alloc1 w (.cells #[.int .i64 f.last, .slice Ag ng cg, .slice Aw nw cw, .slice Ab nb cb, .slice Ac nc cc, .int .i64 f.ripe, .int .i64 f.late, .int .i64 f.trod, .slice Al nl cl] 38)).1); have hG : Ev w w1 := Ev.trans (Ev.alloc (Ev.refl _) _) hb1)) | (go_at_call 69; ((with_reducible refine (HOP.out _ hG).mono ?_); rintro e w2 ⟨⟨At, As, nt, ct, ns, cs, p, mb, rfl, hwc, hmb⟩, hb2⟩; obtain ⟨k0, k1, k2, k3, k4, k5, k6, k7, k8, k9, k10, k11⟩ := cells12 hwc.hd; have hG2 := hG.trans hb2; have HWC := hid hwc; clear hwc)))
      have hnt : nt = 0 := by
        obtain ⟨vs, hv, hr⟩ := HWC.out.tr
        rw [HT.out] at hr
        rw [← hv.len, hr.1]; rfl
      subst hnt
      have e0 : (((0 : Nat) : Int) == 0) = true := rfl
      go_wp2
      go_ret2
      exact ⟨rfl, hG2⟩
  · have HBG : M.begin f named = M.check f := by unfold M.begin; rw [if_pos hc]
    rw [HBG]
    generalize M.check f = ck at hck hc hbd
    have hne : (ck != 0) = true := by simpa using hc
    have HCK := hid hck
    clear hck hop hs hbd hc HBG h0
    go_enter Try.func64, Try.ntmps64
    go_wp2_with (first | (go_at_call 21; ((with_reducible refine (HCK.out _ (Ev.alloc (Ev.refl _) _)).mono ?_); rintro e w1 ⟨rfl, hb1⟩; obtain ⟨y0, y1, y2, y3, y4, y5, y6, y7, y8⟩ := cells9 (hb1.heap (alloc1 w (.cells #[.int .i64 f.last, .slice Ag ng cg, .slice Aw nw cw, .slice Ab nb cb, .slice Ac nc cc, .int .i64 f.ripe, .int .i64 f.late, .int .i64 f.trod, .slice Al nl cl] 38)).1); have hG : Ev w w1 := Ev.trans (Ev.alloc (Ev.refl _) _) hb1)))
    go_ret2
    exact ⟨rfl, hG⟩

set_option maxRecDepth 100000 in
set_option maxHeartbeats 2000000 in
theorem begin_ok (f : M.Cf) (Ag Aw Ab Ac Al : Option Addr) (ng cg nw cw nb cb nc cc nl cl : Nat) (hl0 : -9223372036854775808 ≤ f.last) (named : Bool) (h0 : M.begin f named = 0) (w : World) (hs : CS w w.heap.size f Ag Aw Ab Ac Al ng cg nw cw nb cb nc cc nl cl) :
    Calls Try.prog 64 #[.agg #[.int .i64 f.last, .slice Ag ng cg, .slice Aw nw cw, .slice Ab nb cb, .slice Ac nc cc, .int .i64 f.ripe, .int .i64 f.late, .int .i64 f.trod, .slice Al nl cl], .bool named] w fun e w' => (∃ At As nt ct ns cs p mb, e = .returned (.tuple #[.pointer (some ⟨p, 0, none⟩), .int .i64 0]) ∧ Wc w' f Ag Aw Ab Ac Al ng cg nw cw nb cb nc cc nl cl At As nt ct ns cs p mb (M.truths f) (M.stands f) ∧ w.heap.size ≤ mb) ∧ Ev w w' := by
  have hc : M.check f = 0 := by
    by_cases hc : M.check f = 0
    · exact hc
    · unfold M.begin at h0; rw [if_pos hc] at h0; exact h0
  have HBG : M.begin f named = if named = false then 2 else if M.truths f = [] then 11 else 0 := by unfold M.begin; rw [if_neg (by simp [hc])]
  rw [HBG] at h0
  have hnm : named = true := by
    cases named with
    | true => rfl
    | false => simp at h0
  subst hnm
  have ht : ¬ M.truths f = [] := fun ht => by rw [if_neg (by simp), if_pos ht] at h0; simp at h0
  have hck := fun W hE => check_c f Ag Aw Ab Ac Al ng cg nw cw nb cb nc cc nl cl hl0 W (hs.ev (w' := W) hE)
  have HOP := hid (fun W hE => open_c f Ag Aw Ab Ac Al ng cg nw cw nb cb nc cc nl cl hc W (hs.ev (w' := W) hE))
  rw [hc] at hck
  have HCK := hid hck
  have HT := hid ht
  clear hck hs hc HBG h0 ht
  go_enter Try.func64, Try.ntmps64
  go_upto_region 7 with (first | (go_at_call 21; ((with_reducible refine (HCK.out _ (Ev.alloc (Ev.refl _) _)).mono ?_); rintro e w1 ⟨rfl, hb1⟩; obtain ⟨y0, y1, y2, y3, y4, y5, y6, y7, y8⟩ := cells9 (hb1.heap (alloc1 w (.cells #[.int .i64 f.last, .slice Ag ng cg, .slice Aw nw cw, .slice Ab nb cb, .slice Ac nc cc, .int .i64 f.ripe, .int .i64 f.late, .int .i64 f.trod, .slice Al nl cl] 38)).1); have hG : Ev w w1 := Ev.trans (Ev.alloc (Ev.refl _) _) hb1)) | (go_at_call 69; ((with_reducible refine (HOP.out _ hG).mono ?_); rintro e w2 ⟨⟨At, As, nt, ct, ns, cs, p, mb, rfl, hwc, hmb⟩, hb2⟩; obtain ⟨k0, k1, k2, k3, k4, k5, k6, k7, k8, k9, k10, k11⟩ := cells12 hwc.hd; have hG2 := hG.trans hb2; have HWC := hid hwc; clear hwc)))
  have hnt : 0 < nt := by
    obtain ⟨vs, hv, hr⟩ := HWC.out.tr
    rw [← hv.len, hr.1]
    exact List.length_pos_iff.2 HT.out
  have e0 : ((nt : Int) == 0) = false := by simpa using (show ¬ nt = 0 by omega)
  go_wp2
  go_ret2
  exact ⟨⟨At, As, nt, ct, ns, cs, p, mb, rfl, HWC.out, by have := hG.size; omega⟩, hG2⟩

set_option maxRecDepth 100000 in
set_option maxHeartbeats 1000000 in
theorem idxfnW_c (A : Option Addr) (n c g : Nat) (caps : List Value) (p : List Int → Bool) (xs : List (List Int)) (h5 : ∀ x ∈ xs, x.length = 10) (w : World) (hs : Sl scs 10 w w.heap.size A n c xs)
    (hcf : ∀ args w, (callFunc g args).run Try.prog w = .ok (.enter g args) w)
    (hG : ∀ x W, x.length = 10 → Ev w W → Calls Try.prog g (sv x :: caps).toArray W fun e w' => e = .returned (.bool (p x)) ∧ Ev W w') :
    Calls Try.prog 120 #[.slice A n c, .func (.func g) #[] caps.toArray] w fun e w' => e = .returned (.int .i64 (M.idxg p xs 0)) ∧ Ev w w' := by
  have hsm := hs.small
  have HG := hid hG
  clear hG
  go_enter Try.func120, Try.ntmps120
  go_wp2
  go_loopw [8] (fun i wr => ∃ k : Nat, i = .int .i64 k ∧ k ≤ n ∧ Ev w wr ∧ Hid (M.idxg p (xs.drop k) k = M.idxg p xs 0)) (fun i _ => n - (intOf i).toNat)
  case atStart => exact ⟨0, rfl, by omega, Ev.refl _, hid (by simp)⟩
  case round =>
    obtain ⟨k, rfl, hk, hB, hp⟩ := hrel
    by_cases hlt : k < n
    · obtain ⟨b, off, x, rfl, hb, hx, hd, hcc⟩ := hs.at_ hB hlt
      have hx5 := h5 x (List.mem_of_getElem? hx)
      have hcl := HG.out x _ hx5 hB
      obtain ⟨b0, b1, b2, b3, b4, b5, b6, b7, b8, b9, hxx⟩ := list10 hx5
      subst hxx
      have e0 := hcc 0 _ rfl
      have e1 := hcc 1 _ rfl
      have e2 := hcc 2 _ rfl
      have e3 := hcc 3 _ rfl
      have e4 := hcc 4 _ rfl
      have e5 := hcc 5 _ rfl
      have e6 := hcc 6 _ rfl
      have e7 := hcc 7 _ rfl
      have e8 := hcc 8 _ rfl
      have e9 := hcc 9 _ rfl
      simp only [Nat.add_zero] at e0
      have H := hid hd
      have HC := hid hcl
      clear hd hx hcc hcl
      by_cases hv : p [b0, b1, b2, b3, b4, b5, b6, b7, b8, b9] = true
      · go_wp2_with fail
        refine HC.out.mono ?_
        rintro e w1 ⟨rfl, hb1⟩
        rw [hv]
        go_wp2
        go_ret
        exact ⟨ret_int (by rw [← hp.out, H.out]; simp only [M.idxg]; rw [if_pos hv]), hB.trans hb1⟩
      · have hv' : p [b0, b1, b2, b3, b4, b5, b6, b7, b8, b9] = false := by simpa using hv
        go_wp2_with fail
        refine HC.out.mono ?_
        rintro e w1 ⟨rfl, hb1⟩
        rw [hv']
        go_wp2
        refine ⟨⟨k + 1, by go_num, by omega, hB.trans hb1, hid ?_⟩, by simp [intOf]; omega⟩
        rw [← hp.out, H.out]; simp only [M.idxg]; rw [if_neg hv]; simp
    · have H := hid (hs.done hlt)
      go_wp2
      go_ret
      exact ⟨ret_int (by rw [← hp.out, H.out]; rfl), hB⟩

set_option maxRecDepth 100000 in
set_option maxHeartbeats 1000000 in
theorem confnW_c (A : Option Addr) (n c g : Nat) (caps : List Value) (p : List Int → Bool) (xs : List (List Int)) (h5 : ∀ x ∈ xs, x.length = 10) (w : World) (hs : Sl scs 10 w w.heap.size A n c xs)
    (hcf : ∀ args w, (callFunc g args).run Try.prog w = .ok (.enter g args) w)
    (hG : ∀ x W, x.length = 10 → Ev w W → Calls Try.prog g (sv x :: caps).toArray W fun e w' => e = .returned (.bool (p x)) ∧ Ev W w') :
    Calls Try.prog 105 #[.slice A n c, .func (.func g) #[] caps.toArray] w fun e w' => e = .returned (.bool (xs.any p)) ∧ Ev w w' := by
  have HC := hid (idxfnW_c A n c g caps p xs h5 w hs hcf hG)
  have HA := hid (M.idxg_any p xs 0 (by omega))
  clear hG
  go_enter Try.func105, Try.ntmps105
  go_wp2_with (go_at_call 120; with_reducible refine HC.out.mono ?_; rintro e w1 ⟨rfl, hb1⟩)
  go_ret
  exact ⟨ret_bool HA.out, hb1⟩

set_option maxRecDepth 100000 in
set_option maxHeartbeats 2000000 in
theorem fit1_c (g : Nat) (L : Option Addr) (n c : Nat) (ls : List M.Lk) (hls : ∀ l ∈ ls, 0 ≤ l.wk ∧ l.wk ≤ 9) (x : List Int) (hx : x.length = 10) (w : World) (hc : w.cell? ⟨g, 0, none⟩ = some (.slice L n c)) (hs : Sl lkc 3 w w.heap.size L n c ls) :
    Calls Try.prog 106 #[sv x, .pointer (some ⟨g, 0, none⟩)] w fun e w' => e = .returned (.bool (ls.all (M.shows x))) ∧ Ev w w' := by
  obtain ⟨a0, a1, a2, a3, a4, a5, a6, a7, a8, a9, rfl⟩ := list10 hx
  have HSA := hid (fun W (hE : Ev w W) => showsAll_c a0 a1 a2 a3 a4 a5 a6 a7 a8 a9 L n c ls hls W (hs.ev hE))
  have hgl := cell_lt hc
  generalize ls.all (M.shows [a0, a1, a2, a3, a4, a5, a6, a7, a8, a9]) = r at HSA
  simp only [sv, List.map_cons, List.map_nil]
  clear hs hls hx
  go_enter Try.func106, Try.ntmps106
  go_wp2_with (go_at_call 59; with_reducible refine (HSA.out _ (Ev.alloc (Ev.refl _) _)).mono ?_; rintro e w1 ⟨rfl, hb1⟩)
  go_ret
  exact ⟨rfl, Ev.trans (Ev.alloc (Ev.refl _) _) hb1⟩

/-- Looks are all right in some truth. -/
def M.fit (f : M.Cf) (ls : List M.Lk) : Bool := (M.stands f).any fun x => ls.all (M.shows x)

set_option maxRecDepth 100000 in
set_option maxHeartbeats 2000000 in
theorem fit_c (f : M.Cf) (Ag Aw Ab Ac Al : Option Addr) (ng cg nw cw nb cb nc cc nl cl : Nat) (At As : Option Addr) (nt ct ns cs p mb : Nat) (ts : List M.Tr) (L : Option Addr) (n c : Nat) (ls : List M.Lk) (hls : ∀ l ∈ ls, 0 ≤ l.wk ∧ l.wk ≤ 9) (w : World) (hw : Wc w f Ag Aw Ab Ac Al ng cg nw cw nb cb nc cc nl cl At As nt ct ns cs p mb ts (M.stands f)) (hs : Sl lkc 3 w w.heap.size L n c ls) :
    Calls Try.prog 74 #[.pointer (some ⟨p, 0, none⟩), .slice L n c] w fun e w' => e = .returned (.bool (M.fit f ls)) ∧ Ev w w' := by
  have hal := alloc1 w (.cells #[.slice L n c] 36)
  have hE0 : Ev w (w.alloc (.cells #[.slice L n c] 36)) := Ev.alloc (Ev.refl _) _
  obtain ⟨k0, k1, k2, k3, k4, k5, k6, k7, k8, k9, k10, k11⟩ := cells12 hw.hd
  have hpl := heap_lt hw.hd
  have hc0 := cell_in hal.1 0
  simp only [List.getElem?_toArray, List.getElem?_cons_zero] at hc0
  have HCF := hid (confnW_c As ns cs 106 [.pointer (some ⟨w.heap.size, 0, none⟩)] (fun x => ls.all (M.shows x)) (M.stands f) hw.s10 _ (hw.st.ev hE0) (fun args w => Try.call106 args w)
    (fun x W hx hE => fit1_c w.heap.size L n c ls hls x hx W ((hE.cells.1 _ _ (heap_lt hal.1)).trans hc0) (hs.ev (hE0.trans hE))))
  clear hal hc0 hE0
  go_enter Try.func74, Try.ntmps74
  go_wp2_with (go_at_call 105; with_reducible refine HCF.out.mono ?_; rintro e w1 ⟨rfl, hb1⟩)
  go_ret
  exact ⟨rfl, Ev.trans (Ev.alloc (Ev.refl _) _) hb1⟩

end Go.Proofs.Ytffbkbcjddigdaa
