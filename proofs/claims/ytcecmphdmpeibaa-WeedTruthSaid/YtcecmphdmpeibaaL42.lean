import Derived.Test.YtcecmphdmpeibaaL41
import Derived.Test.YtcecmphdmpeibaaP2
import Derived.OneCell
set_option linter.unusedSimpArgs false
set_option linter.unusedVariables false
namespace Go.Proofs.Ytcecmphdmpeibaa
open Go.RowKit

set_option maxRecDepth 100000 in
set_option maxHeartbeats 1000000 in
theorem word_c (A : Option Addr) (n c : Nat) (ws : List Int) (hw : ∀ x ∈ ws, 0 ≤ x ∧ x < 65536) (i : Nat) (hi : i ≤ 100) (w : World) (hs : Sl0 wcs 1 w w.heap.size A n ws) (hnc : n ≤ c) (hcm : c ≤ maxLen) :
    Calls Try.prog 97 #[.slice A n c, .int .i64 i] w fun e w' => e = .returned (.int .i64 (M.word ws i)) ∧ w' = w := by
  have hln := hs.len
  have hmx : (n : Int) ≤ 9223372036854775807 := by unfold maxLen at hcm; omega
  rcases Nat.eq_zero_or_pos n with hn | hn
  · subst hn
    have hv : M.word ws i = 0 := by unfold M.word; rw [if_pos hln]
    rw [hv]
    clear hv hs hw hln
    go_enter Try.func97, Try.ntmps97
    go_wp2
    go_ret
    exact ⟨rfl, rfl⟩
  · obtain ⟨b, off, rfl, hb, hc⟩ := hs.cells hn
    have hlt : i % n < n := Nat.mod_lt _ hn
    have hx : ws[i % n]? = some (ws[i % n]'(by omega)) := List.getElem?_eq_getElem _
    have hv : M.word ws i = ws[i % n]'(by omega) := by
      unfold M.word
      rw [if_neg (by omega), List.getD_eq_getElem?_getD]
      simp only [hln]
      rw [hx]; rfl
    have e0 := hc _ _ hx 0 _ rfl
    rw [Nat.mul_one, Nat.add_zero] at e0
    have hwx := hw _ (List.getElem_mem (show i % n < ws.length by omega))
    rw [hv]
    generalize ws[i % n]'(by omega) = x at e0 hwx
    have s1 : IntKind.i64.wrap x = x := IntWalk.i64_in _ (by omega)
    have g1 : (i : Int) % (n : Int) = ((i % n : Nat) : Int) := by simp
    have z1 : ((n : Int) == 0) = false := by simp; omega
    have z2 : ¬ ((n : Int) = 0) := by omega
    clear hv hx hc hs hw hln
    generalize i % n = j at g1 e0 hlt
    go_enter Try.func97, Try.ntmps97
    go_wp2
    go_ret
    exact ⟨rfl, rfl⟩

theorem toldT_list (f : M.Fl) (t ws : List Int) (k : Nat) : (List.range (k + 1)).map (fun i => M.toldT f t (M.word ws (i + 1))) = (List.range k).map (fun i => M.toldT f t (M.word ws (i + 1))) ++ [M.toldT f t (M.word ws (k + 1))] := by
  rw [List.range_succ, List.map_append]; rfl
theorem cell_set_off {w : World} {b i j : Nat} {cs : Array Value} {t : TypeId} {v : Value} (h : w.heap[b]? = some (.cells cs t (0, 0))) (hne : i ≠ j) : (w.setCell ⟨b, j, none⟩ v).cell? ⟨b, i, none⟩ = w.cell? ⟨b, i, none⟩ := by
  rw [cell_in (set_heap_same h), cell_in h, Array.getElem?_setIfInBounds_ne (fun e => hne e.symm)]

theorem IRow.set {w : World} {v : Hd} {xs : List Int} {b j : Nat} {cs : Array Value} {t : TypeId} {u : Value} (h : IRow w v xs) (hb : w.heap[b]? = some (.cells cs t (0, 0))) (ht : t ≠ 3) : IRow (w.setCell ⟨b, j, none⟩ u) v xs := by
  refine ⟨ownsRow_setCell_other h.1 (fun e => ?_) u, h.2⟩
  rcases h.1.2 with ⟨hn, _⟩ | ⟨g, cap, cur, hv, _, hg, _⟩
  · rw [hn] at e; cases e
  · rw [hv] at e
    have e2 : some g = some b := e
    obtain rfl : g = b := by injection e2
    rw [hg] at hb
    injection hb with hb
    injection hb with _ hb
    exact ht hb.symm
theorem IRow.set5 {w : World} {v : Hd} {xs : List Int} {b : Nat} {cs : Array Value} {v0 v1 v2 v3 v4 : Value} (h : IRow w v xs) (hb : w.heap[b]? = some (.cells cs 26 (0, 0))) :
    IRow (((((w.setCell ⟨b, 0, none⟩ v0).setCell ⟨b, 1, none⟩ v1).setCell ⟨b, 2, none⟩ v2).setCell ⟨b, 3, none⟩ v3).setCell ⟨b, 4, none⟩ v4) v xs :=
  ((((h.set hb (by decide)).set (set_heap_same hb) (by decide)).set (set_heap_same (set_heap_same hb)) (by decide)).set (set_heap_same (set_heap_same (set_heap_same hb))) (by decide)).set (set_heap_same (set_heap_same (set_heap_same (set_heap_same hb)))) (by decide)

set_option maxRecDepth 100000 in
set_option maxHeartbeats 4000000 in
theorem Told_c (f : M.Fl) (h0 : M.check f = 0) (A : Option Addr) (n c : Nat) (a : Int) (a0 : 0 ≤ a) (a1 : a < 65536) (Aw : Option Addr) (m cw : Nat) (ws : List Int) (hw : ∀ x ∈ ws, 0 ≤ x ∧ x < 65536) (w : World) (hs : Sl0 wcs 1 w w.heap.size Aw m ws) (hmc : m ≤ cw) (hcm : cw ≤ maxLen) (t : List Int) (ht : t = M.nth f (a % M.power f).toNat) :
    Calls Try.prog 53 #[.agg #[.int .i64 f.rows, .int .i64 f.wds, .int .i64 f.lf.lo, .int .i64 f.lf.hi, .slice A n c], .int .u16 a, .slice Aw m cw] w fun e w' => (∃ B d R e2, e = .returned (.tuple #[.agg #[.int .i64 f.rows, .int .i64 f.wds, .int .i64 (M.toldL f t).lo, .int .i64 (M.toldL f t).hi, .slice B (M.toldN ws) d], .slice R f.rows.toNat e2]) ∧ Sl tcs 5 w' w'.heap.size B (M.toldN ws) d (M.toldF f t ws).ts ∧ Sl ics 1 w' w'.heap.size R f.rows.toNat e2 t) ∧ Ev w w' := by
  obtain ⟨i0, hi0, hz0, hz1, hz2⟩ := info_parts info90
  obtain ⟨r1, r7, d1, d3, hp25, _⟩ := M.check_bd h0
  obtain ⟨l0, l1, l2⟩ := M.left_of h0
  have hsay : M.Say f t := by rw [ht]; exact M.say_nth h0 _
  have hpw : 1 ≤ M.power f := by
    obtain ⟨P, e1, _, e2⟩ := M.power_nat r1 r7 d1 d3
    have : 0 < (f.wds.toNat + 1) ^ f.rows.toNat := Nat.pow_pos (by omega)
    omega
  obtain ⟨nn, hnn⟩ : ∃ k : Nat, a % M.power f = (k : Int) := Int.eq_ofNat_of_zero_le (Int.emod_nonneg _ (by omega))
  have hnn1 : (nn : Int) < M.power f := by rw [← hnn]; exact Int.emod_lt_of_pos _ (by omega)
  have hnn2 : a.tmod (M.power f) = (nn : Int) := by rw [Int.tmod_eq_emod_of_nonneg a0]; exact hnn
  have htn : M.nth f nn = t := by rw [ht, hnn]; rfl
  have hmany := fun W => Many_c f A n c W (by omega) (by omega) (by omega) (by omega)
  have hnth := fun W => Nth_c f r1 r7 d1 d3 nn (by omega) A n c W
  rw [htn] at hnth
  have hwd := fun (i : Nat) (hi : i ≤ 100) W (hE : Ev w W) => word_c Aw m cw ws hw i hi W (hs.ev hE) hmc hcm
  have hlen : t.length = f.rows.toNat := by have := hsay.1; omega
  have hdid : ∀ (B : Option Addr) (d : Nat) (x fr tt : Int) (q0 : 0 ≤ fr) (q1 : fr ≤ tt) (q2 : tt < f.rows) (W : World), IRow W (B, f.rows.toNat, d) t → Calls Try.prog 54 #[.slice B f.rows.toNat d, .int .i64 x, .int .i64 fr, .int .i64 tt] W fun e w' => e = .returned (.int .i64 (M.count t x fr tt)) ∧ Ev W w' := fun B d x fr tt q0 q1 q2 W hr => (Did_s B f.rows.toNat d t x fr tt q0 q1 (by omega) W hr.sl).mono (fun e w' h => ⟨h.1, by rw [h.2]; exact Ev.refl _⟩)
  have HMN := hid hmany
  have HNT := hid hnth
  have HWD := hid hwd
  have HDD := hid hdid
  have HWB := hid (M.word_bd hw)
  have HSAY := hid hsay
  have H0 := hid h0
  have hcl := M.count_bd hsay (x := -1) (fr := 0) (tt := f.rows - 1) (by omega) (by omega) (by omega)
  have HLF : Hid (M.toldL f t = ⟨min f.lf.lo (M.count t (-1) 0 (f.rows - 1)), max f.lf.hi (M.count t (-1) 0 (f.rows - 1))⟩) := hid rfl
  generalize hP : M.power f = P at *
  have z1 : (P == 0) = false := by simp; omega
  have z2 : ¬ (P = 0) := by omega
  have s1 : IntKind.i64.wrap a = a := IntWalk.i64_in _ (by omega)
  have s2 : IntKind.i64.wrap (nn : Int) = nn := IntWalk.i64_in _ (by omega)
  have s3 : IntKind.i64.wrap (f.rows - 1) = f.rows - 1 := IntWalk.i64_in _ (by omega)
  clear hmany hnth hwd hdid hsay h0 hs htn hP hnn1 ht
  go_enter Try.func53, Try.ntmps53
  go_upto_region 1 with fail
  generalize hW0 : World.alloc (World.alloc w _) _ = W0
  have hE0 : Ev w W0 := by rw [← hW0]; exact Ev.alloc (Ev.alloc (Ev.refl _) _) _
  have hal := alloc2 w (.cells #[.int .i64 f.rows, .int .i64 f.wds, .int .i64 f.lf.lo, .int .i64 f.lf.hi, .slice A n c] 26) (.cells #[.int .i64 0, .int .i64 0, .int .i64 0, .int .i64 0, .slice none 0 0] 26)
  rw [hW0] at hal
  have Q0 := hid hal.1
  have Q1 := hid hal.2.1
  have HZ0 := hid hal.2.2
  clear hal hW0
  obtain ⟨q0, q1, q2, q3, q4⟩ := cells5 Q0.out
  have hlq := heap_lt Q0.out
  have HSE : Hid (∀ w', Ev W0 w' → Ev W0 w' ∧ (∀ o, w'.cell? ⟨w.heap.size, o, none⟩ = W0.cell? ⟨w.heap.size, o, none⟩)) := hid (fun w' h => ⟨h, fun o => h.cells.1 _ o hlq⟩)
  go_cut [8] (fun v W1 => ∃ R e2, v = .slice R f.rows.toNat e2 ∧ Ev W0 W1 ∧ IRow W1 (R, f.rows.toNat, e2) t)
  case first =>
    go_region_held3 (fun w' => Ev W0 w' ∧ (∀ o, w'.cell? ⟨w.heap.size, o, none⟩ = W0.cell? ⟨w.heap.size, o, none⟩)) (exact HSE.out _ (by repeat (first | with_reducible exact Ev.refl W0 | (with_reducible assumption) | with_reducible refine Ev.drew ?_ | with_reducible refine Ev.alloc ?_ _))) (first | (go_at_call 65; ((with_reducible refine (HMN.out _).mono ?_); rintro e w1 ⟨rfl, hb1⟩; have hc1 : Ev W0 w1 := (by first | exact hb1 | exact Ev.trans (Ev.drew (Ev.refl _)) hb1))) | (go_at_call 95; ((with_reducible refine (HNT.out _).mono ?_); rintro e w2 ⟨⟨R, e2, rfl, hrow⟩, hb2⟩; have hc2 : Ev W0 w2 := (by first | exact hc1.trans hb2 | exact Ev.trans (Ev.drew hc1) hb2); have HROW := hid hrow; clear hrow)))
    go_wp2_with fail
    all_goals (
      go_meet
      exact ⟨R, e2, rfl, by first | exact hc2 | exact Ev.drew hc2, ⟨by first | exact HROW.out | exact HROW.out.ev (Ev.drew (Ev.refl _)), by show f.rows.toNat ≤ 1099511627776; omega⟩⟩)
  case rest =>
  obtain ⟨R, e2, rfl, hEc, hrow⟩ := hcut
  obtain ⟨wb, hwb⟩ : ∃ x, x = wc := ⟨_, rfl⟩
  subst hwb
  have HROW := hid hrow
  have HQB := hid (hEc.heap Q0.out)
  have HRB := hid (hEc.heap Q1.out)
  have HEb := hid (hE0.trans hEc)
  have hzb : w.heap.size + 2 ≤ wb.heap.size := by have := HZ0.out; have := hEc.size; omega
  clear q0 q1 q2 q3 q4 hlq HSE hrow Q0 Q1 hEc hE0 HZ0 hnn hnn2 HMN HNT z1 z2 s1 s2
  obtain ⟨q0, q1, q2, q3, q4⟩ := cells5 HQB.out
  go_upto_region 3 with fail
  generalize hW2 : World.alloc wb _ = W2
  have hE2 : Ev wb W2 := by rw [← hW2]; exact Ev.alloc (Ev.refl _) _
  have hal := alloc1 wb (.cells #[.int .i64 f.rows, .int .i64 f.wds, .int .i64 f.lf.lo, .int .i64 f.lf.hi, .slice A n c] 26)
  rw [hW2] at hal
  have HC2 := hid hal.1
  clear hW2 hal q0 q1 q2 q3 q4
  obtain ⟨q0, q1, q2, q3, q4⟩ := cells5 (hE2.heap HQB.out)
  go_upto_region 4 with (go_at_call 54; ((with_reducible refine (HDD.out _ _ _ _ _ (by omega) (by omega) (by omega) _ (HROW.out.ev hE2)).mono ?_); rintro e w3 ⟨rfl, hb3⟩; have hE3 := hid hb3; clear hb3))
  clear q0 q1 q2 q3 q4
  have HC3 := hid (hE3.out.heap HC2.out)
  have HE3 := hid (hE2.trans hE3.out)
  have Q0d := hid (HE3.out.heap HQB.out)
  have hlp3 := heap_lt HC3.out
  clear HC2 hE2 hE3
  generalize M.count t (-1) 0 (f.rows - 1) = cl at hcl HLF
  obtain ⟨q0, q1, q2, q3, q4⟩ := cells5 Q0d.out
  obtain ⟨y0, y1, y2, y3, y4⟩ := cells5 HC3.out
  obtain ⟨f0, f1, f2, f3, f4⟩ := frz5 HC3.out
  go_cut [9] (fun v W1 => v = .pointer (some ⟨wb.heap.size, 0, none⟩) ∧ Ev wb W1 ∧ W1.heap[wb.heap.size]? = some (.cells #[.int .i64 f.rows, .int .i64 f.wds, .int .i64 (M.toldL f t).lo, .int .i64 (M.toldL f t).hi, .slice A n c] 26 (0, 0)))
  case first =>
    go_wp2_with fail
    all_goals (
      go_meet
      refine ⟨rfl, Ev.setCell (Ev.setCell HE3.out (by simp) _) (by simp) _, ?_⟩
      rw [set_heap_same (set_heap_same HC3.out), HLF.out]
      simp <;> omega)
  case rest =>
  obtain ⟨rfl, hE4, hX4⟩ := hcut
  clear q0 q1 q2 q3 q4 y0 y1 y2 y3 y4 f0 f1 f2 f3 f4
  have HX4 := hid hX4
  obtain ⟨y0, y1, y2, y3, y4⟩ := cells5 HX4.out
  obtain ⟨f0, f1, f2, f3, f4⟩ := frz5 HX4.out
  have hlp4 := heap_lt HX4.out
  go_upto_region 6 with fail
  generalize hW5 : World.setCell _ _ _ = W5
  have hE5 : Ev wb W5 := by rw [← hW5]; exact Ev.setCell hE4 (by simp) _
  have HX5 := hid (show W5.heap[wb.heap.size]? = some (.cells #[.int .i64 f.rows, .int .i64 f.wds, .int .i64 (M.toldL f t).lo, .int .i64 (M.toldL f t).hi, .slice none 0 0] 26 (0, 0)) by rw [← hW5, set_heap_same HX4.out]; rfl)
  have hB5 : wb.heap.size + 1 ≤ W5.heap.size := by rw [← hW5]; simp; omega
  obtain ⟨p, hpp⟩ : ∃ p, p = wb.heap.size := ⟨_, rfl⟩
  rw [← hpp] at HX5 hB5 ⊢
  have HPP := hid hpp
  clear hW5 Q0d HC3 HE3 y0 y1 y2 y3 y4 f0 f1 f2 f3 f4 hcl hlp3 hlp4 HX4 hX4 hE4 HLF
  obtain ⟨x0, hx0⟩ : ∃ x, M.word ws 0 = x := ⟨_, rfl⟩
  have hx0b := HWB.out 0
  have hN : x0 % 6 = (M.toldN ws : Int) := by unfold M.toldN; rw [hx0]; omega
  have hN5 := M.toldN_le (ws := ws)
  have hw0 : ∀ W, Ev wb W → Calls Try.prog 97 #[.slice Aw m cw, .int .i64 0] W fun e w' => e = .returned (.int .i64 x0) ∧ w' = W := by
    intro W hE
    have := HWD.out 0 (by omega) W (HEb.out.trans hE)
    rw [hx0] at this
    exact this
  rw [hx0] at hx0b
  have HW0 := hid hw0
  have HLT := hid (toldT_list f t ws)
  clear hw0 hx0 hpp
  generalize hNN : M.toldN ws = N at *
  have HNN := hid hNN
  clear hNN
  go_wp2_with fail
  go_loopw [11] (fun i wr => ∃ k : Nat, ∃ V : Option Addr, ∃ cc : Nat, i = .int .i64 k ∧ k ≤ N ∧ Ev wb wr ∧ Hid (wr.heap[p]? = some (.cells #[.int .i64 f.rows, .int .i64 f.wds, .int .i64 (M.toldL f t).lo, .int .i64 (M.toldL f t).hi, .slice V k cc] 26 (0, 0))) ∧ wr.ownsRow (p + 1) 90 5 (.slice V k cc) k (((List.range k).map fun i => M.toldT f t (M.word ws (i + 1))).flatMap tcs) ∧ p + 1 ≤ wr.heap.size) (fun i _ => N - (intOf i).toNat)
  case atStart => exact ⟨0, none, 0, rfl, by omega, hE5, HX5, World.ownsRow_nil _ _ _ _, hB5⟩
  case round =>
    obtain ⟨k, V, cc, rfl, hk, hB, hC, hown, hBr⟩ := hrel
    have HQr := hid (hB.heap HQB.out)
    obtain ⟨q0, q1, q2, q3, q4⟩ := cells5 HQr.out
    have hlq := heap_lt HQr.out
    have hlp := heap_lt hC.out
    by_cases hlt : k < N
    · have hw1 : ∀ W, Ev wb W → Calls Try.prog 97 #[.slice Aw m cw, .int .i64 ((k : Int) + 1)] W fun e w' => e = .returned (.int .i64 (M.word ws (k + 1))) ∧ w' = W := by
        intro W hE
        have := HWD.out (k + 1) (by omega) W (HEb.out.trans hE)
        rw [show ((k + 1 : Nat) : Int) = (k : Int) + 1 from by omega] at this
        exact this
      have hxb := HWB.out (k + 1)
      obtain ⟨x, hx⟩ : ∃ x, M.word ws (k + 1) = x := ⟨_, rfl⟩
      rw [hx] at hw1 hxb
      have hLT := HLT.out k
      rw [hx] at hLT
      clear hx
      obtain ⟨x0, x1⟩ := hxb
      have hTl : M.toldT f t x = ⟨x % f.wds, x / 4 % f.rows, x / 4 % f.rows + x / 32 % (f.rows - x / 4 % f.rows), ⟨max 0 (M.count t (x % f.wds) (x / 4 % f.rows) (x / 4 % f.rows + x / 32 % (f.rows - x / 4 % f.rows)) - x / 256 % 2), min f.rows (M.count t (x % f.wds) (x / 4 % f.rows) (x / 4 % f.rows + x / 32 % (f.rows - x / 4 % f.rows)) + x / 512 % 2)⟩⟩ := rfl
      obtain ⟨u0, g0⟩ : ∃ u : Int, x % f.wds = u := ⟨_, rfl⟩
      have g0' : (x).tmod f.wds = u0 := by rw [Int.tmod_eq_emod_of_nonneg x0]; exact g0
      obtain ⟨v1, g1⟩ : ∃ u : Int, x / 4 = u := ⟨_, rfl⟩
      have g1' : (x).tdiv 4 = v1 := by rw [Int.tdiv_eq_ediv_of_nonneg x0]; exact g1
      have p1 : 0 ≤ v1 := by omega
      obtain ⟨u1, g2⟩ : ∃ u : Int, v1 % f.rows = u := ⟨_, rfl⟩
      have g2' : (v1).tmod f.rows = u1 := by rw [Int.tmod_eq_emod_of_nonneg p1]; exact g2
      obtain ⟨v2, g3⟩ : ∃ u : Int, x / 32 = u := ⟨_, rfl⟩
      have g3' : (x).tdiv 32 = v2 := by rw [Int.tdiv_eq_ediv_of_nonneg x0]; exact g3
      have p2 : 0 ≤ v2 := by omega
      have n0 : 0 ≤ u0 := by rw [← g0]; exact Int.emod_nonneg _ (by omega)
      have n1 : u0 < f.wds := by rw [← g0]; exact Int.emod_lt_of_pos _ (by omega)
      have n2 : 0 ≤ u1 := by rw [← g2]; exact Int.emod_nonneg _ (by omega)
      have n3 : u1 < f.rows := by rw [← g2]; exact Int.emod_lt_of_pos _ (by omega)
      obtain ⟨u2, g4⟩ : ∃ u : Int, v2 % (f.rows - u1) = u := ⟨_, rfl⟩
      have g4' : (v2).tmod (f.rows - u1) = u2 := by rw [Int.tmod_eq_emod_of_nonneg p2]; exact g4
      have n4 : 0 ≤ u2 := by rw [← g4]; exact Int.emod_nonneg _ (by omega)
      have n5 : u2 < f.rows - u1 := by rw [← g4]; exact Int.emod_lt_of_pos _ (by omega)
      obtain ⟨v3, g5⟩ : ∃ u : Int, x / 256 = u := ⟨_, rfl⟩
      have g5' : (x).tdiv 256 = v3 := by rw [Int.tdiv_eq_ediv_of_nonneg x0]; exact g5
      obtain ⟨v4, g6⟩ : ∃ u : Int, x / 512 = u := ⟨_, rfl⟩
      have g6' : (x).tdiv 512 = v4 := by rw [Int.tdiv_eq_ediv_of_nonneg x0]; exact g6
      have p3 : 0 ≤ v3 := by omega
      have p4 : 0 ≤ v4 := by omega
      obtain ⟨b0, g7⟩ : ∃ u : Int, v3 % 2 = u := ⟨_, rfl⟩
      have g7' : (v3).tmod 2 = b0 := by rw [Int.tmod_eq_emod_of_nonneg p3]; exact g7
      obtain ⟨b1, g8⟩ : ∃ u : Int, v4 % 2 = u := ⟨_, rfl⟩
      have g8' : (v4).tmod 2 = b1 := by rw [Int.tmod_eq_emod_of_nonneg p4]; exact g8
      have n6 : 0 ≤ b0 ∧ b0 ≤ 1 := by omega
      have n7 : 0 ≤ b1 ∧ b1 ≤ 1 := by omega
      have hcb := M.count_bd HSAY.out (x := u0) (fr := u1) (tt := u1 + u2) (by omega) (by omega) (by omega)
      have hdd := fun W (hE : Ev wb W) => HDD.out R e2 u0 u1 (u1 + u2) (by omega) (by omega) (by omega) W (HROW.out.ev hE)
      rw [g0, g1, g2, g3, g4, g5, g6, g7, g8] at hTl
      generalize M.count t u0 u1 (u1 + u2) = cn at hcb hdd hTl
      rw [hTl] at hLT
      have HLT2 := hid hLT
      have HW1 := hid hw1
      have HD2 := hid hdd
      clear hLT hw1 hdd hTl
      have s1 : IntKind.i64.wrap u0 = u0 := IntWalk.i64_in _ (by omega)
      have s2 : IntKind.i64.wrap v1 = v1 := IntWalk.i64_in _ (by omega)
      have s4 : IntKind.i64.wrap u1 = u1 := IntWalk.i64_in _ (by omega)
      have s5 : IntKind.i64.wrap v2 = v2 := IntWalk.i64_in _ (by omega)
      have s6 : IntKind.i64.wrap (f.rows - u1) = f.rows - u1 := IntWalk.i64_in _ (by omega)
      have s7 : IntKind.i64.wrap u2 = u2 := IntWalk.i64_in _ (by omega)
      have s8 : IntKind.i64.wrap (u1 + u2) = u1 + u2 := IntWalk.i64_in _ (by omega)
      have s9 : IntKind.i64.wrap v3 = v3 := IntWalk.i64_in _ (by omega)
      have s10 : IntKind.i64.wrap v4 = v4 := IntWalk.i64_in _ (by omega)
      have s11 : IntKind.i64.wrap (cn - b0) = cn - b0 := IntWalk.i64_in _ (by omega)
      have s12 : IntKind.i64.wrap (cn + b1) = cn + b1 := IntWalk.i64_in _ (by omega)
      have y1 : (f.wds == 0) = false := by simp; omega
      have y2 : ¬ (f.wds = 0) := by omega
      have y3 : (f.rows == 0) = false := by simp; omega
      have y4 : ¬ (f.rows = 0) := by omega
      have y5 : (f.rows - u1 == 0) = false := by simp; omega
      have y6 : ¬ (f.rows - u1 = 0) := by omega
      go_upto_region 10 with (first | (go_at_call 97; ((with_reducible refine (HW0.out _ hB).mono ?_); rintro e w7 ⟨rfl, h7⟩; cases h7)) | (go_at_call 97; ((with_reducible refine (HW1.out _ hB).mono ?_); rintro e w7 ⟨rfl, h7⟩; cases h7)))
      have HSE : Hid (∀ w', Ev wr w' → (∀ o, w'.cell? ⟨w.heap.size, o, none⟩ = wr.cell? ⟨w.heap.size, o, none⟩)) := hid (fun w' h => fun o => h.cells.1 _ o hlq)
      refine wp_region_held_drew (S := fun w' => ∀ o, w'.cell? ⟨w.heap.size, o, none⟩ = wr.cell? ⟨w.heap.size, o, none⟩) (by kernel_rfl) (fun o => rfl) (fun hHeld => ?_)
      refine wpAnyH_take (i := 0) (v := ?_) rfl (by kernel_rfl) (by kernel_rfl) (by kernel_rfl) (fun _ _ _ h => h) (Or.inl ⟨by rfl, ?hy⟩) (by assumption) ?_
      case hy => (intro w hSw; (try dsimp only at hSw); go_simp; with_reducible rfl)
      (try simp only [Act.put, List.setIfInBounds_toArray, List.set_cons_zero, List.set_cons_succ])
      refine wpAnyH_take (i := 1) (v := ?_) rfl (by kernel_rfl) (by kernel_rfl) (by kernel_rfl) (fun _ _ _ h => h) (Or.inl ⟨by rfl, ?hy⟩) (by assumption) ?_
      case hy => (intro w hSw; (try dsimp only at hSw); go_simp; with_reducible rfl)
      (try simp only [Act.put, List.setIfInBounds_toArray, List.set_cons_zero, List.set_cons_succ])
      refine wpAnyH_take (i := 2) (v := ?_) rfl (by kernel_rfl) (by kernel_rfl) (by kernel_rfl) (fun _ _ _ h => h) (Or.inl ⟨by rfl, ?hy⟩) (by assumption) ?_
      case hy => (intro w hSw; (try dsimp only at hSw); go_simp; with_reducible rfl)
      (try simp only [Act.put, List.setIfInBounds_toArray, List.set_cons_zero, List.set_cons_succ])
      refine wpAnyH_take (i := 3) (v := ?_) rfl (by kernel_rfl) (by kernel_rfl) (by kernel_rfl) (fun _ _ _ h => h) (Or.inl ⟨by rfl, ?hy⟩) (by assumption) ?_
      case hy => (intro w hSw; (try dsimp only at hSw); go_simp; with_reducible rfl)
      (try simp only [Act.put, List.setIfInBounds_toArray, List.set_cons_zero, List.set_cons_succ])
      refine wpAnyH_take (i := 4) (v := ?_) rfl (by kernel_rfl) (by kernel_rfl) (by kernel_rfl) (fun _ _ _ h => h) (Or.inl ⟨by rfl, ?hy⟩) (by assumption) ?_
      case hy => (intro w hSw; (try dsimp only at hSw); go_simp; with_reducible rfl)
      (try simp only [Act.put, List.setIfInBounds_toArray, List.set_cons_zero, List.set_cons_succ])
      refine wpAnyH_take (i := 5) (v := ?_) rfl (by kernel_rfl) (by kernel_rfl) (by kernel_rfl) (fun _ _ _ h => h) (Or.inl ⟨by rfl, ?hy⟩) (by assumption) ?_
      case hy => (intro w hSw; (try dsimp only at hSw); go_simp; with_reducible rfl)
      (try simp only [Act.put, List.setIfInBounds_toArray, List.set_cons_zero, List.set_cons_succ])
      refine wpAnyH_take (i := 6) (v := ?_) rfl (by kernel_rfl) (by kernel_rfl) (by kernel_rfl) (fun _ _ _ h => h) (Or.inl ⟨by rfl, ?hy⟩) (by assumption) ?_
      case hy => (intro w hSw; (try dsimp only at hSw); go_simp; with_reducible rfl)
      (try simp only [Act.put, List.setIfInBounds_toArray, List.set_cons_zero, List.set_cons_succ])
      refine wpAnyH_take (i := 7) (v := ?_) rfl (by kernel_rfl) (by kernel_rfl) (by kernel_rfl) (fun _ _ _ h => h) (Or.inl ⟨by rfl, ?hy⟩) (by assumption) ?_
      case hy => (intro w hSw; (try dsimp only at hSw); go_simp; with_reducible rfl)
      (try simp only [Act.put, List.setIfInBounds_toArray, List.set_cons_zero, List.set_cons_succ])
      refine wpAnyH_take (i := 8) (v := ?_) rfl (by kernel_rfl) (by kernel_rfl) (by kernel_rfl) (fun _ _ _ h => h) (Or.inl ⟨by rfl, ?hy⟩) (by assumption) ?_
      case hy => (intro w hSw; (try dsimp only at hSw); go_simp; with_reducible rfl)
      (try simp only [Act.put, List.setIfInBounds_toArray, List.set_cons_zero, List.set_cons_succ])
      refine wpAnyH_take (i := 9) (v := ?_) rfl (by kernel_rfl) (by kernel_rfl) (by kernel_rfl) (fun _ _ _ h => h) (Or.inl ⟨by rfl, ?hy⟩) (by assumption) ?_
      case hy => (intro w hSw; (try dsimp only at hSw); go_simp; with_reducible rfl)
      (try simp only [Act.put, List.setIfInBounds_toArray, List.set_cons_zero, List.set_cons_succ])
      refine wpAnyH_ready (rs := [10]) (by kernel_rfl) (by simp) ?_
      refine AllReadyH.cons rfl (fun K hK => ?_) AllReadyH.nil
      go_simp
      refine hK.out _ _ (HSE.out _ (by repeat (first | with_reducible exact Ev.refl wr | with_reducible refine Ev.drew ?_ | with_reducible refine Ev.alloc ?_ _))) (fun hHeld => ?_)
      clear hK K
      (try simp only [Act.put, List.setIfInBounds_toArray, List.set_cons_zero, List.set_cons_succ])
      refine wpAnyH_ready (rs := [11]) (by kernel_rfl) (by simp) ?_
      refine AllReadyH.cons rfl (fun K hK => ?_) AllReadyH.nil
      go_simp
      refine hK.out _ _ (HSE.out _ (by repeat (first | with_reducible exact Ev.refl wr | with_reducible refine Ev.drew ?_ | with_reducible refine Ev.alloc ?_ _))) (fun hHeld => ?_)
      clear hK K
      (try simp only [Act.put, List.setIfInBounds_toArray, List.set_cons_zero, List.set_cons_succ])
      refine wpAnyH_done (by kernel_rfl) ?_ _
      go_upto_region 11 with fail
      generalize hW7 : World.drew _ = W7
      have hE7 : Ev wr W7 := by rw [← hW7]; exact Ev.drew (Ev.alloc (Ev.refl _) _)
      have HT7 := hid (show W7.heap[wr.heap.size]? = some (.cells #[.int .i64 u0, .int .i64 u1, .int .i64 0, .int .i64 0, .int .i64 0] 90 (0, 0)) by rw [← hW7]; exact (alloc1 wr _).1)
      have hs7 : W7.heap.size = wr.heap.size + 1 := by rw [← hW7]; exact (alloc1 wr _).2
      have HQ7 := hid (hE7.heap HQr.out)
      have hlq7 := heap_lt HQ7.out
      clear hW7 q0 q1 q2 q3 q4 HSE hHeld
      obtain ⟨q0, q1, q2, q3, q4⟩ := cells5 HQ7.out
      obtain ⟨z0, z1, z2, z3, z4⟩ := cells5 HT7.out
      obtain ⟨f0, f1, f2, f3, f4⟩ := frz5 HT7.out
      refine wp_region_held_drew (S := fun w' => (∀ o, w'.cell? ⟨w.heap.size, o, none⟩ = W7.cell? ⟨w.heap.size, o, none⟩) ∧ w'.cell? ⟨wr.heap.size, 1, none⟩ = W7.cell? ⟨wr.heap.size, 1, none⟩) (by kernel_rfl) ⟨fun o => rfl, rfl⟩ (fun hHeld => ?_)
      refine wpAnyH_take (i := 0) (v := ?_) rfl (by kernel_rfl) (by kernel_rfl) (by kernel_rfl) (fun _ _ _ h => h) (Or.inl ⟨by rfl, ?hy⟩) (by assumption) ?_
      case hy => (intro w hSw; (try dsimp only at hSw); go_simp; with_reducible rfl)
      (try simp only [Act.put, List.setIfInBounds_toArray, List.set_cons_zero, List.set_cons_succ])
      refine wpAnyH_take (i := 1) (v := ?_) rfl (by kernel_rfl) (by kernel_rfl) (by kernel_rfl) (fun _ _ _ h => h) (Or.inl ⟨by rfl, ?hy⟩) (by assumption) ?_
      case hy => (intro w hSw; (try dsimp only at hSw); go_simp; with_reducible rfl)
      (try simp only [Act.put, List.setIfInBounds_toArray, List.set_cons_zero, List.set_cons_succ])
      refine wpAnyH_take (i := 2) (v := ?_) rfl (by kernel_rfl) (by kernel_rfl) (by kernel_rfl) (fun _ _ _ h => h) (Or.inl ⟨by rfl, ?hy⟩) (by assumption) ?_
      case hy => (intro w hSw; (try dsimp only at hSw); go_simp; with_reducible rfl)
      (try simp only [Act.put, List.setIfInBounds_toArray, List.set_cons_zero, List.set_cons_succ])
      refine wpAnyH_take (i := 3) (v := ?_) rfl (by kernel_rfl) (by kernel_rfl) (by kernel_rfl) (fun _ _ _ h => h) (Or.inl ⟨by rfl, ?hy⟩) (by assumption) ?_
      case hy => (intro w hSw; (try dsimp only at hSw); go_simp; with_reducible rfl)
      (try simp only [Act.put, List.setIfInBounds_toArray, List.set_cons_zero, List.set_cons_succ])
      refine wpAnyH_take (i := 4) (v := ?_) rfl (by kernel_rfl) (by kernel_rfl) (by kernel_rfl) (fun _ _ _ h => h) (Or.inl ⟨by rfl, ?hy⟩) (by assumption) ?_
      case hy => (intro w hSw; (try dsimp only at hSw); go_simp; with_reducible rfl)
      (try simp only [Act.put, List.setIfInBounds_toArray, List.set_cons_zero, List.set_cons_succ])
      refine wpAnyH_take (i := 5) (v := ?_) rfl (by kernel_rfl) (by kernel_rfl) (by kernel_rfl) (fun _ _ _ h => h) (Or.inl ⟨by rfl, ?hy⟩) (by assumption) ?_
      case hy => (intro w hSw; (try dsimp only at hSw); go_simp; with_reducible rfl)
      (try simp only [Act.put, List.setIfInBounds_toArray, List.set_cons_zero, List.set_cons_succ])
      refine wpAnyH_take (i := 6) (v := ?_) rfl (by kernel_rfl) (by kernel_rfl) (by kernel_rfl) (fun _ _ _ h => h) (Or.inl ⟨by rfl, ?hy⟩) (by assumption) ?_
      case hy => (intro w hSw; (try dsimp only at hSw); go_simp; with_reducible rfl)
      (try simp only [Act.put, List.setIfInBounds_toArray, List.set_cons_zero, List.set_cons_succ])
      refine wpAnyH_take (i := 7) (v := ?_) rfl (by kernel_rfl) (by kernel_rfl) (by kernel_rfl) (fun _ _ _ h => h) (Or.inl ⟨by rfl, ?hy⟩) (by assumption) ?_
      case hy => (intro w hSw; (try dsimp only at hSw); go_simp; with_reducible rfl)
      (try simp only [Act.put, List.setIfInBounds_toArray, List.set_cons_zero, List.set_cons_succ])
      refine wpAnyH_take (i := 8) (v := ?_) rfl (by kernel_rfl) (by kernel_rfl) (by kernel_rfl) (fun _ _ _ h => h) (Or.inl ⟨by rfl, ?hy⟩) (by assumption) ?_
      case hy => (intro w hSw; (try dsimp only at hSw); go_simp; with_reducible rfl)
      (try simp only [Act.put, List.setIfInBounds_toArray, List.set_cons_zero, List.set_cons_succ])
      refine wpAnyH_take (i := 9) (v := ?_) rfl (by kernel_rfl) (by kernel_rfl) (by kernel_rfl) (fun _ _ _ h => h) (Or.inl ⟨by rfl, ?hy⟩) (by assumption) ?_
      case hy => (intro w hSw; (try dsimp only at hSw); go_simp; with_reducible rfl)
      (try simp only [Act.put, List.setIfInBounds_toArray, List.set_cons_zero, List.set_cons_succ])
      refine wpAnyH_take (i := 10) (v := ?_) rfl (by kernel_rfl) (by kernel_rfl) (by kernel_rfl) (fun _ _ _ h => h) (Or.inl ⟨by rfl, ?hy⟩) (by assumption) ?_
      case hy => (intro w hSw; (try dsimp only at hSw); go_simp; with_reducible rfl)
      (try simp only [Act.put, List.setIfInBounds_toArray, List.set_cons_zero, List.set_cons_succ])
      refine wpAnyH_take (i := 11) (v := ?_) rfl (by kernel_rfl) (by kernel_rfl) (by kernel_rfl) (fun _ _ _ h => h) (Or.inl ⟨by rfl, ?hy⟩) (by assumption) ?_
      case hy => (intro w hSw; (try dsimp only at hSw); go_simp; with_reducible rfl)
      (try simp only [Act.put, List.setIfInBounds_toArray, List.set_cons_zero, List.set_cons_succ])
      refine wpAnyH_ready (rs := [12]) (by kernel_rfl) (by simp) ?_
      refine AllReadyH.cons rfl (fun K hK => ?_) AllReadyH.nil
      go_simp
      refine hK.out _ _ (⟨fun o => cell_set_ne (show w.heap.size ≠ wr.heap.size by omega), cell_set_off HT7.out (by omega)⟩) (fun hHeld => ?_)
      clear hK K
      (try simp only [Act.put, List.setIfInBounds_toArray, List.set_cons_zero, List.set_cons_succ])
      refine wpAnyH_done (by kernel_rfl) ?_ _
      go_upto_region 12 with fail
      generalize hW8 : World.drew _ = W8
      have hE8 : Ev wr W8 := by rw [← hW8]; exact Ev.drew (Ev.setCell hE7 (by simp) _)
      have HT8 := hid (show W8.heap[wr.heap.size]? = some (.cells #[.int .i64 u0, .int .i64 u1, .int .i64 (u1 + u2), .int .i64 0, .int .i64 0] 90 (0, 0)) by rw [← hW8]; exact (set_heap_same HT7.out).trans rfl)
      clear hW8 q0 q1 q2 q3 q4 z0 z1 z2 z3 z4 f0 f1 f2 f3 f4 HT7 HQ7 hE7 hs7 hlq7 hHeld
      obtain ⟨q0, q1, q2, q3, q4⟩ := cells5 (hE8.heap HQr.out)
      obtain ⟨z0, z1, z2, z3, z4⟩ := cells5 HT8.out
      go_upto_region 13 with (go_at_call 54; ((with_reducible refine (HD2.out _ (hB.trans hE8)).mono ?_); rintro e w9 ⟨rfl, hb9⟩))
      have HT9 := hid (hb9.heap HT8.out)
      have hE9 := hid (hE8.trans hb9)
      clear q0 q1 q2 q3 q4 z0 z1 z2 z3 z4 HT8 hE8 hb9
      obtain ⟨q0, q1, q2, q3, q4⟩ := cells5 (hE9.out.heap HQr.out)
      obtain ⟨z0, z1, z2, z3, z4⟩ := cells5 HT9.out
      obtain ⟨f0, f1, f2, f3, f4⟩ := frz5 HT9.out
      go_cut [13] (fun v W1 => v = .pointer (some ⟨wr.heap.size, 0, none⟩) ∧ Ev wr W1 ∧ W1.heap[wr.heap.size]? = some (.cells #[.int .i64 u0, .int .i64 u1, .int .i64 (u1 + u2), .int .i64 (max 0 (cn - b0)), .int .i64 (min f.rows (cn + b1))] 90 (0, 0)))
      case first =>
        go_wp2_with fail
        all_goals (
          go_meet
          refine ⟨rfl, Ev.setCell (Ev.setCell hE9.out (by simp) _) (by simp) _, ?_⟩
          rw [set_heap_same (set_heap_same HT9.out)]
          simp <;> omega)
      case rest =>
      obtain ⟨rfl, hE11r, hT11⟩ := hcut
      obtain ⟨W11, hW11⟩ : ∃ x, x = wc := ⟨_, rfl⟩
      subst hW11
      have HT11 := hid hT11
      have hE11 := hB.trans hE11r
      have HX11 := hid (hE11r.heap hC.out)
      have hown11 := hown.ev hE11r
      have hl11 : p + 1 ≤ W11.heap.size := by have := hE11r.size; omega
      clear hT11 q0 q1 q2 q3 q4 z0 z1 z2 z3 z4 f0 f1 f2 f3 f4 HT9 hE9 g0 g1 g2 g3 g4 g5 g6 g7 g8 g0' g1' g2' g3' g4' g5' g6' g7' g8' s1 s2 s4 s5 s6 s7 s8 s9 s10 s11 s12 y1 y2 y3 y4 y5 y6
      obtain ⟨y0, y7, y8, y9, y10⟩ := cells5 HX11.out
      obtain ⟨z0, z1, z2, z3, z4⟩ := cells5 HT11.out
      go_wp2_with (at_builtin; refine wpList_append_own_at _ rfl (.tmp 99) (.tmp 101) 24 rfl (p + 1) 90 i0 _ 5 40 Try.underlying24 hi0 hz0 hz1 hz2 rfl (by decide) _ k (((List.range k).map fun i => M.toldT f t (M.word ws (i + 1))).flatMap tcs) rfl (hown11.alloc _) ⟨W11.heap.size, 0, none⟩ 1 1 [.int .i64 u0, .int .i64 u1, .int .i64 (u1 + u2), .int .i64 (max 0 (cn - b0)), .int .i64 (min f.rows (cn + b1))] rfl rfl (news_in (alloc1 W11 _).1) (by simp [Value.oneCell']) (by unfold maxLen; omega) (by omega) (by simp; omega) ?_; intro v' w12 hown' hgrow _ hat; have hown12 : w12.ownsRow (p + 1) 90 5 v' (k + 1) (((List.range (k + 1)).map fun i => M.toldT f t (M.word ws (i + 1))).flatMap tcs) := (by rw [HLT2.out, List.flatMap_append]; exact hown'); obtain ⟨V', cc', rfl⟩ := own_form hown12; have hEA := hid (Ev.alloc (Ev.refl W11) (.cells #[.int .i64 u0, .int .i64 u1, .int .i64 (u1 + u2), .int .i64 (max 0 (cn - b0)), .int .i64 (min f.rows (cn + b1))] 90)); have hlt11 := hown11.lt; have HX12 := hid ((hgrow.block p (by simp; omega) (fun e => absurd (hlt11 p e.symm).1 (by omega))).trans (hEA.out.heap HX11.out)); have HE12 := hid (Ev.grown (hE11.alloc (.cells #[.int .i64 u0, .int .i64 u1, .int .i64 (u1 + u2), .int .i64 (max 0 (cn - b0)), .int .i64 (min f.rows (cn + b1))] 90)) hgrow (fun k e => by have := (hlt11 k e).1; have := HPP.out; omega) : Ev wb w12); have hp12 := hid (show p + 1 ≤ w12.heap.size by have := hgrow.size; simp at this; omega); clear z0 z1 z2 z3 z4 y0 y7 y8 y9 y10; obtain ⟨x5, x6, x7, x8, x9⟩ := cells5 HX12.out; obtain ⟨f0, f1, f2, f3, f4⟩ := frz5 HX12.out)
      refine ⟨⟨k + 1, V', cc', by go_num, by omega, Ev.setCell HE12.out (by simp; have := HPP.out; omega) _, hid ?_, ownsRow_setCell_below hown12 (by simp) _, by have := hp12.out; simp; omega⟩, by simp [intOf]; omega⟩
      rw [set_heap_same HX12.out]
      rfl
    · have hkN : k = N := by omega
      subst hkN
      obtain ⟨x5, x6, x7, x8, x9⟩ := cells5 hC.out
      have HRr := hid (hB.heap HRB.out)
      obtain ⟨z0, z1, z2, z3, z4⟩ := cells5 HRr.out
      obtain ⟨f0, f1, f2, f3, f4⟩ := frz5 HRr.out
      clear q0 q1 q2 q3 q4
      go_wp2_with (first | (go_at_call 97; ((with_reducible refine (HW0.out _ hB).mono ?_); rintro e w7 ⟨rfl, h7⟩; cases h7)))
      have hF := set5 HRr.out (v0 := .int .i64 f.rows) (v1 := .int .i64 f.wds) (v2 := .int .i64 (M.toldL f t).lo) (v3 := .int .i64 (M.toldL f t).hi) (v4 := .slice V k cc)
      obtain ⟨d5, d6, d7, d8, d9⟩ := cells5 hF
      have hzp := hzb
      rw [← HPP.out] at hzp
      have hown5 := ownsRow_setCell_below (ownsRow_setCell_below (ownsRow_setCell_below (ownsRow_setCell_below (ownsRow_setCell_below hown (a := ⟨w.heap.size + 1, 0, none⟩) (by first | (simp; done) | (simp; omega)) (.int .i64 f.rows)) (a := ⟨w.heap.size + 1, 1, none⟩) (by first | (simp; done) | (simp; omega)) (.int .i64 f.wds)) (a := ⟨w.heap.size + 1, 2, none⟩) (by first | (simp; done) | (simp; omega)) (.int .i64 (M.toldL f t).lo)) (a := ⟨w.heap.size + 1, 3, none⟩) (by first | (simp; done) | (simp; omega)) (.int .i64 (M.toldL f t).hi)) (a := ⟨w.heap.size + 1, 4, none⟩) (by first | (simp; done) | (simp; omega)) (.slice V k cc)
      have hrw := IRow.set5 (HROW.out.ev hB) HRr.out (v0 := .int .i64 f.rows) (v1 := .int .i64 f.wds) (v2 := .int .i64 (M.toldL f t).lo) (v3 := .int .i64 (M.toldL f t).hi) (v4 := .slice V k cc)
      refine bodyPost_ret (v := .tuple #[.agg #[.int .i64 f.rows, .int .i64 f.wds, .int .i64 (M.toldL f t).lo, .int .i64 (M.toldL f t).hi, .slice V k cc], .slice R f.rows.toNat e2]) (by simp [results, Try.results53, go_sem, d5, d6, d7, d8, d9]) rfl ⟨⟨V, cc, R, e2, by rw [HNN.out], ?_, ?_⟩, ?_⟩
      · have := sl_own (enc := tcs) (by decide) (tcs_len _) (by omega) hown5
        rw [HNN.out, show (M.toldF f t ws).ts = ((List.range k).map fun i => M.toldT f t (M.word ws (i + 1))) from by unfold M.toldF; rw [HNN.out]]
        exact this
      · exact hrw.sl
      · refine Ev.setCell (Ev.setCell (Ev.setCell (Ev.setCell (Ev.setCell (HEb.out.trans hB) ?_ _) ?_ _) ?_ _) ?_ _) ?_ _ <;> simp

end Go.Proofs.Ytcecmphdmpeibaa
