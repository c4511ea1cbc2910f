import Derived.Test.YtffbkbcjddigdaaA7
import Derived.Lib.AppendZerosOnto
import Derived.Lib.SliceRun
set_option linter.unusedSimpArgs false
set_option linter.unusedVariables false
namespace Go.Proofs.Ytffbkbcjddigdaa
open Go.RowKit

set_option maxRecDepth 100000 in
set_option maxHeartbeats 1000000 in
theorem grow_c (n : Nat) (hn : n ≤ 100000) (w : World) :
  Calls Try.prog 107 #[.slice none 0 0, .int .i64 n] w fun e w' => (∃ B d, e = .returned (.slice B 0 d) ∧ w'.ownsRow w.heap.size 3 1 (.slice B 0 d) 0 []) ∧ Ev w w' := by
 rcases Nat.eq_zero_or_pos n with h0 | h0
 ·
  subst h0
  go_enter Try.func107, Try.ntmps107
  go_wp2
  go_ret
  exact ⟨⟨none, 0, rfl, World.ownsRow_nil _ _ _ _⟩, Ev.refl _⟩
 ·
  obtain ⟨i0, hi0, hz0, hz1, hz2⟩ := info_parts info3
  have hold : (Builtin.firstCells i0.size 0 (.slice none 0 0)).run Try.prog w.drew = .ok ([] : List Value).toArray w.drew := run_firstCells_none w.drew i0.size 0 0 0
  have hrz : ∀ ty, (Builtin.append_ #[23, 3] ty #[.slice none 0 0, .int .i64 n]).run Try.prog w = _ := fun ty =>
   Lib.run_append_grow_zeros w 23 3 ty 3 i0 (.int .i64 0) .i64 .i64 Try.underlying23 Try.underlying3 hi0 hz0 none 0 0 [] hold n (by omega) (by omega) (by omega) (by omega) (by rw [hz2]; omega) (growslice_fits (by omega) (by rw [hz2]; omega))
  have hGn : 0 + n ≤ grownCap w (0 + n) 0 3 := grownCap_ge w _ _ _
  have hGm : grownCap w (0 + n) 0 3 ≤ maxLen := grownCap_le_maxLen w (0 + n) 0 3 (by unfold maxLen; omega)
  generalize grownCap w (0 + n) 0 3 = G at hrz hGn hGm
  rw [Nat.zero_add] at hGn hrz
  have hG63 : G ≤ 9223372036854775807 := by unfold maxLen at hGm; omega
  have HGM := hid hGm
  have HSZ := hid (show (([] : List Value).toArray ++ Builtin.zeroCells (Value.int .i64 0).cells n ++ Builtin.zeroCells (Value.int .i64 0).cells (G - n)).size = G * 1 by
   simp [Builtin.zeroCells, Value.cells]; omega)
  generalize ([] : List Value).toArray ++ Builtin.zeroCells (Value.int .i64 0).cells n ++ Builtin.zeroCells (Value.int .i64 0).cells (G - n) = Z at hrz HSZ
  have n1 : ¬ ((n : Int) < 0) := by omega
  have n2 : (n : Int) > 0 := by omega
  clear hGm
  go_enter Try.func107, Try.ntmps107
  go_wp2_with (at_builtin; refine Lib.wpList_append_run _ rfl _ _ _ _ rfl _ _ rfl rfl _ _ (hrz _) ?_)
  go_ret
  refine ⟨⟨_, _, rfl, rfl, .inr ⟨w.heap.size, G, Z, rfl, Nat.le_refl _, ?_, by omega, HGM.out, HSZ.out, by simp⟩⟩, Ev.alloc (Ev.drew (Ev.refl _)) _⟩
  exact (alloc1 w.drew _).1

set_option maxRecDepth 100000 in
set_option maxHeartbeats 2000000 in
theorem concat_c (b : Nat) (A1 A2 : Option Addr) (n1 c1 n2 c2 : Nat) (xs ys : List Int) (h1 : n1 ≤ 1000) (h2 : n2 ≤ 1000) (w : World) (ha : Sl ics 1 w w.heap.size A1 n1 c1 xs) (hb : Sl ics 1 w w.heap.size A2 n2 c2 ys)
  (x0 : w.cell? ⟨b, 0, none⟩ = some (.slice A1 n1 c1)) (x1 : w.cell? ⟨b, 1, none⟩ = some (.slice A2 n2 c2)) (hbl : b < w.heap.size) :
  Calls Try.prog 81 #[.slice (some ⟨b, 0, none⟩) 2 2] w fun e w' => (∃ B d, e = .returned (.slice B (n1 + n2) d) ∧ Sl ics 1 w' w'.heap.size B (n1 + n2) d (xs ++ ys)) ∧ Ev w w' := by
 obtain ⟨i0, hi0, hz0, hz1, hz2⟩ := info_parts info3
 have HG := hid (fun W => show Calls Try.prog 107 #[.slice none 0 0, .int .i64 ((n1 : Int) + n2)] W _ by
  have h := grow_c (n1 + n2) (by omega) W
  rw [show ((n1 + n2 : Nat) : Int) = (n1 : Int) + n2 from by omega] at h
  exact h)
 have HA := hid ha
 have HB := hid hb
 have m1 : (0 : Int) ≤ n1 := by omega
 have m2 : (0 : Int) ≤ n2 := by omega
 have m3 : ¬ ((n1 : Int) < 0) := by omega
 have m4 : ¬ ((n1 : Int) + n2 < 0) := by omega
 have g1 : (n1 : Int) ≤ 1000 := by omega
 have g2 : (n2 : Int) ≤ 1000 := by omega
 clear ha hb
 go_enter Try.func81, Try.ntmps81
 go_wp2
 refine wp_loop_rounds 3 ?_
 iterate 3 (rw [rounds_succ]; go_wp2_with (go_at_call 107; with_reducible refine (HG.out _).mono ?_; rintro e w1 ⟨⟨B, d, rfl, hown⟩, hb1⟩; have z0 := (hb1.cells.1 b 0 hbl).trans x0; have X1 := hid x1; have HO := hid hown; clear hown x0 x1))
 refine wp_loop_rounds 3 ?_
 rw [rounds_succ]
 go_wp2_with ((at_builtin; refine append_any (enc := ics) rfl (.tmp 31) (.tmp 32) 23 rfl w.heap.size 3 i0 _ 1 8 Try.underlying23 hi0 hz0 hz1 hz2 rfl (by decide) _ 0 [] rfl HO.out A1 n1 c1 xs _ rfl (HA.out.ev hb1) (ics_len _) (ics_one _) (by unfold maxLen; omega) (by omega) (by first | exact Nat.le_refl _ | exact hb1.size | exact hE2.size) ?_; intro v' w2 hown' hgrow; have hown2 : w2.ownsRow w.heap.size 3 1 v' n1 (xs.flatMap ics) := (by simpa using hown'); have hE2 : Ev w w2 := Ev.grown hb1 hgrow (fun k e => (HO.out.lt k e).1); obtain ⟨V, cc, rfl⟩ := own_form hown2; have HO2 := hid hown2; have z1 := (hE2.cells.1 b 1 hbl).trans X1.out; clear hown' hown2 hgrow z0))
 rw [rounds_succ]
 go_wp2_with ((at_builtin; refine append_any (enc := ics) rfl (.tmp 31) (.tmp 32) 23 rfl w.heap.size 3 i0 _ 1 8 Try.underlying23 hi0 hz0 hz1 hz2 rfl (by decide) _ n1 xs rfl HO2.out A2 n2 c2 ys _ rfl (HB.out.ev hE2) (ics_len _) (ics_one _) (by unfold maxLen; omega) (by omega) (by first | exact Nat.le_refl _ | exact hb1.size | exact hE2.size) ?_; intro v' w3 hown' hgrow; have hE3 : Ev w w3 := Ev.grown hE2 hgrow (fun k e => (HO2.out.lt k e).1); obtain ⟨V3, cc3, rfl⟩ := own_form hown'; have HO3 := hid hown'; clear hown' hgrow z1))
 rw [rounds_succ]
 go_wp2
 go_ret
 exact ⟨⟨V3, cc3, rfl, sl_own (by decide) (ics_len _) (by omega) HO3.out⟩, hE3⟩

/-- A truth. -/
structure M.Tr where
 gr : List Int
 wet : List Int
deriving DecidableEq
/-- Numbers are in ranges, one in each. -/
def M.inAll : List Int → List M.Rg → Bool
 | [], [] => true
 | x :: xs, r :: rs => M.holds r x && M.inAll xs rs
 | _, _ => false
def M.listed (f : M.Cf) (t : M.Tr) : Bool := decide (t.gr.length = f.gr.length) && (decide (t.wet.length = f.wet.length) && M.inAll (t.gr ++ t.wet) (M.ranges f))

end Go.Proofs.Ytffbkbcjddigdaa

set_option linter.unusedSimpArgs false
set_option linter.unusedVariables false
namespace Go.Proofs.Ytffbkbcjddigdaa
open Go.RowKit

set_option maxRecDepth 100000 in
set_option maxHeartbeats 4000000 in
theorem isTruth_c (f : M.Cf) (Ag Aw Ab Ac Al : Option Addr) (ng cg nw cw nb cb nc cc nl cl : Nat) (Tg Tw : Option Addr) (tg tgc tw twc : Nat) (t : M.Tr) (hng : ng ≤ 100) (hnw : nw ≤ 100) (w : World) (hs : CS w w.heap.size f Ag Aw Ab Ac Al ng cg nw cw nb cb nc cc nl cl) (hg : Sl ics 1 w w.heap.size Tg tg tgc t.gr) (hw : Sl ics 1 w w.heap.size Tw tw twc t.wet) :
  Calls Try.prog 53 #[.agg #[.int .i64 f.last, .slice Ag ng cg, .slice Aw nw cw, .slice Ab nb cb, .slice Ac nc cc, .int .i64 f.ripe, .int .i64 f.late, .int .i64 f.trod, .slice Al nl cl], .agg #[.slice Tg tg tgc, .slice Tw tw twc]] w fun e w' => e = .returned (.bool (M.listed f t)) ∧ Ev w w' := by
 have q1 := hs.g.len
 have q2 := hs.w_.len
 have q3 := hg.len
 have q4 := hw.len
 by_cases h1 : tg = ng
 ·
  subst h1
  by_cases h2 : tw = nw
  ·
   subst h2
   have e1 : ((tg : Int) != (tg : Int)) = false := by simp
   have e2 : ((tw : Int) != (tw : Int)) = false := by simp
   have HD := hid (show M.listed f t = M.inAll (t.gr ++ t.wet) (M.ranges f) by unfold M.listed; rw [q1, q2, q3, q4]; simp)
   have hcc := fun W (hE : Ev w W) b (x0 : W.cell? ⟨b, 0, none⟩ = some (.slice Tg tg tgc)) (x1 : W.cell? ⟨b, 1, none⟩ = some (.slice Tw tw twc)) (hb : b < W.heap.size) => concat_c b Tg Tw tg tgc tw twc t.gr t.wet (by omega) (by omega) W (hg.ev hE) (hw.ev hE) x0 x1 hb
   have hrr := fun W (hE : Ev w W) => ranges_c f Ag Aw Ab Ac Al tg cg tw cw nb cb nc cc nl cl hng hnw W (hs.ev hE)
   have hnl : (t.gr ++ t.wet).length = tg + tw := by rw [List.length_append, q3, q4]
   obtain ⟨N, hN⟩ : ∃ N, N = tg + tw := ⟨_, rfl⟩
   have hN2 : N ≤ 200 := by omega
   rw [← hN] at hcc hrr hnl
   generalize M.ranges f = rs at hrr HD
   generalize t.gr ++ t.wet = ns at hcc HD hnl
   have HCC := hid hcc
   have HRR := hid hrr
   clear hcc hrr hs hg hw hN q1 q2 q3 q4 hnl
   go_enter Try.func53, Try.ntmps53
   have hal := alloc3 w (.cells #[.int .i64 f.last, .slice Ag tg cg, .slice Aw tw cw, .slice Ab nb cb, .slice Ac nc cc, .int .i64 f.ripe, .int .i64 f.late, .int .i64 f.trod, .slice Al nl cl] 38) (.cells #[.slice Tg tg tgc, .slice Tw tw twc] 40) (.cells #[.slice Tg tg tgc, .slice Tw tw twc] 23)
   have HAL := hid hal
   clear hal
   go_wp2_with (first | (go_at_call 81; ((with_reducible refine (HCC.out _ (Ev.alloc (Ev.alloc (Ev.alloc (Ev.refl _) _) _) _) _ (cell_in HAL.out.2.2.1 0) (cell_in HAL.out.2.2.1 1) (heap_lt HAL.out.2.2.1)).mono ?_); rintro e w1 ⟨⟨B1, d1, rfl, hn1⟩, hb1⟩; obtain ⟨y0, y1, y2, y3, y4, y5, y6, y7, y8⟩ := cells9 (hb1.heap HAL.out.1); have hG1 : Ev w w1 := Ev.trans (Ev.alloc (Ev.alloc (Ev.alloc (Ev.refl _) _) _) _) hb1; have HN1 := hid hn1; clear hn1)) | (go_at_call 82; ((with_reducible refine (HRR.out _ hG1).mono ?_); rintro e w2 ⟨⟨B2, d2, rfl, hr2⟩, hb2⟩; have hG2 := hG1.trans hb2; have HR2 := hid hr2; clear hr2 y0 y1 y2 y3 y4 y5 y6 y7 y8)))
   have hn := HN1.out.ev hb2
   have hr := HR2.out
   have rsm := hr.small
   go_loopw [33] (fun i wr => ∃ k : Nat, i = .int .i64 k ∧ k ≤ N ∧ Ev w2 wr ∧ Hid (M.inAll (ns.drop k) (rs.drop k) = M.inAll ns rs)) (fun i _ => N - (intOf i).toNat)
   case atStart => exact ⟨0, rfl, by omega, Ev.refl _, hid rfl⟩
   case round =>
    obtain ⟨k, rfl, hk, hB, hall⟩ := hrel
    by_cases hlt : k < N
    ·
     obtain ⟨b, off, r, rfl, hb, hx, hd, hc⟩ := hr.at_ hB hlt
     have e0 := hc 0 _ rfl
     have e1 := hc 1 _ rfl
     simp only [Nat.add_zero] at e0
     obtain ⟨b', off', x, rfl, hb', hx', hd', e3⟩ := hn.int hB hlt
     have hcap := hr.cap
     have hcap' := hn.cap
     have k0 : (0 : Int) ≤ k := by omega
     have kN : (k : Int) < N := by omega
     have H := hid hd
     have H' := hid hd'
     clear hd hd' hx hx' hc
     have hcon := fun W => holds_e r x W
     cases hv : M.holds r x
     all_goals (
      rw [hv] at hcon
      have HC := hid hcon
      have HV := hid hv
      clear hcon hv
      go_upto_region 7 with fail
      generalize hW0 : World.alloc wr _ = W0
      have hE0 : Ev wr W0 := by rw [← hW0]; exact Ev.alloc (Ev.refl _) _
      have hal := (alloc1 wr (.cells #[.int .i64 r.lo, .int .i64 r.hi] 57)).1
      rw [hW0] at hal
      obtain ⟨z0, z1⟩ := cells2 hal
      have e4 := (hE0.cells.1 b' (off' + k) (by have := hB.size; omega)).trans e3
      have l1 := heap_lt hal
      have l2 : b' < W0.heap.size := by have := hB.size; have := hE0.size; omega
      have HSE : Hid (∀ w', Ev W0 w' → Ev W0 w' ∧ (∀ o, w'.cell? ⟨wr.heap.size, o, none⟩ = W0.cell? ⟨wr.heap.size, o, none⟩) ∧ (∀ o, w'.cell? ⟨b', o, none⟩ = W0.cell? ⟨b', o, none⟩)) := hid (fun w' h => ⟨h, fun o => h.cells.1 _ o l1, fun o => h.cells.1 _ o l2⟩)
      clear hW0 hal
      go_region_held3 (fun w' => Ev W0 w' ∧ (∀ o, w'.cell? ⟨wr.heap.size, o, none⟩ = W0.cell? ⟨wr.heap.size, o, none⟩) ∧ (∀ o, w'.cell? ⟨b', o, none⟩ = W0.cell? ⟨b', o, none⟩)) (exact HSE.out _ (by repeat (first | with_reducible exact Ev.refl W0 | (with_reducible assumption) | with_reducible refine Ev.drew ?_))) (first | (go_at_call 83; ((with_reducible refine (HC.out _).mono ?_); rintro e w3 ⟨rfl, hb3⟩; have hc1 : Ev W0 w3 := (by first | exact hb3 | exact Ev.trans (Ev.drew (Ev.refl _)) hb3))))
      go_wp2)
     ·
      go_ret
      exact ⟨ret_bool (by rw [HD.out, ← hall.out, H.out, H'.out, M.inAll, HV.out, Bool.false_and]), hG2.trans (hB.trans (hE0.trans hc1))⟩
     ·
      exact ⟨⟨k + 1, by go_num, by omega, hB.trans (hE0.trans hc1), hid (by rw [← hall.out, H.out, H'.out, M.inAll, HV.out, Bool.true_and])⟩, by simp [intOf]; omega⟩
    ·
     have H := hid (hn.done hlt)
     have H' := hid (hr.done hlt)
     go_wp2
     go_ret
     exact ⟨ret_bool (by rw [HD.out, ← hall.out, H.out, H'.out]; rfl), hG2.trans hB⟩
  ·
   have e1 : ((tg : Int) != (tg : Int)) = false := by simp
   have e2 : ((tw : Int) != (nw : Int)) = true := by simpa using (show ¬ (tw : Int) = nw by omega)
   have HD := hid (show M.listed f t = false by unfold M.listed; rw [q1, q2, q3, q4]; simp [h2])
   clear hs hg hw q1 q2 q3 q4 h2
   go_enter Try.func53, Try.ntmps53
   go_wp2
   go_ret
   exact ⟨ret_bool HD.out.symm, Ev.alloc (Ev.alloc (Ev.refl _) _) _⟩
 ·
  have e1 : ((tg : Int) != (ng : Int)) = true := by simpa using (show ¬ (tg : Int) = ng by omega)
  have HD := hid (show M.listed f t = false by unfold M.listed; rw [q1, q3]; simp [h1])
  clear hs hg hw q1 q2 q3 q4 h1
  go_enter Try.func53, Try.ntmps53
  go_wp2
  go_ret
  exact ⟨ret_bool HD.out.symm, Ev.alloc (Ev.alloc (Ev.refl _) _) _⟩

end Go.Proofs.Ytffbkbcjddigdaa

set_option linter.unusedSimpArgs false
set_option linter.unusedVariables false
namespace Go.Proofs.Ytffbkbcjddigdaa
open Go.RowKit

/-- A crop. -/
structure M.Cr where
 wt : Int
 st : Int
 wo : Int
deriving DecidableEq
def crc (c : M.Cr) : List Value := [.int .i64 c.wt, .int .i64 c.st, .int .i64 c.wo]
theorem crc_len (ys : List M.Cr) : ∀ y ∈ ys, (crc y).length = 3 := fun _ _ => rfl
/-- What is left of the weight in a week. -/
def M.left (f : M.Cf) (t : M.Tr) (plan : List Int) (wk : Int) : Int := M.leaves f ((M.weights t.gr plan).getD wk.toNat 0) (t.wet.getD wk.toNat 0 == 1)
def M.crop (f : M.Cf) (t : M.Tr) (plan : List Int) (i : Nat) : M.Cr := ⟨M.left f t plan (plan.getD i 0), M.strength f plan i, M.left f t plan (plan.getD i 0) * M.strength f plan i⟩
def M.play (f : M.Cf) (t : M.Tr) (plan : List Int) : List M.Cr := (List.range plan.length).map (M.crop f t plan)
theorem M.play_len (f : M.Cf) (t : M.Tr) (plan : List Int) : (M.play f t plan).length = plan.length := by simp [M.play]

theorem M.wK_bd (plan : List Int) : ∀ (gs : List Int) (k : Nat) (m : Int), 0 ≤ m → (∀ g ∈ gs, 0 ≤ g ∧ g ≤ 50) → ∀ x ∈ M.wK plan gs k m, 0 ≤ x ∧ x ≤ m + 50 * gs.length
 | [], _, _, _, _, x, hx => by simp [M.wK] at hx
 | g :: gs, k, m, hm, hg, x, hx => by
  have h1 := hg g (by simp)
  have h2 : ∀ y ∈ gs, 0 ≤ y ∧ y ≤ 50 := fun y hy => hg y (by simp [hy])
  rw [M.wK, List.mem_cons] at hx
  rw [List.length_cons]
  rcases hx with rfl | hx
  ·
   omega
  ·
   split at hx
   ·
    have := M.wK_bd plan gs (k + 1) 0 (by omega) h2 x hx; omega
   ·
    have := M.wK_bd plan gs (k + 1) (m + g) (by omega) h2 x hx; omega
theorem M.weights_bd {gs plan : List Int} (hl : gs.length ≤ 10) (hg : ∀ g ∈ gs, 0 ≤ g ∧ g ≤ 50) : ∀ x ∈ M.weights gs plan, 0 ≤ x ∧ x ≤ 500 := by
 intro x hx
 unfold M.weights at hx
 rcases List.mem_append.1 hx with hx | hx
 ·
  have := M.wK_bd plan gs 0 0 (by omega) hg x hx; omega
 ·
  rw [List.mem_replicate] at hx; omega
theorem M.weights_len {gs plan : List Int} (hl : gs.length ≤ 10) : (M.weights gs plan).length = 10 := by
 unfold M.weights; rw [List.length_append, M.wK_len, List.length_replicate]; omega
theorem getD_bd {l : List Int} {lo hi : Int} (h0 : lo ≤ 0) (h1 : 0 ≤ hi) (h : ∀ x ∈ l, lo ≤ x ∧ x ≤ hi) (k : Nat) : lo ≤ l.getD k 0 ∧ l.getD k 0 ≤ hi := by
 rw [List.getD_eq_getElem?_getD]
 cases hx : l[k]? with
 | none => exact ⟨h0, h1⟩
 | some x => exact h x (List.mem_of_getElem? hx)
theorem M.leaves_bd {f : M.Cf} (ht : 0 ≤ f.trod ∧ f.trod ≤ 100) {a : Int} (h0 : 0 ≤ a) (b : Bool) : 0 ≤ M.leaves f a b ∧ M.leaves f a b ≤ a := by
 unfold M.leaves
 split
 ·
  have h1 : a * f.trod ≤ a * 100 := Int.mul_le_mul_of_nonneg_left ht.2 h0
  have h2 : 0 ≤ a * f.trod := Int.mul_nonneg h0 ht.1
  omega
 ·
  omega
theorem M.strength_bd {f : M.Cf} (hb : ∀ x ∈ f.base, 0 ≤ x ∧ x ≤ 200) (hl : 0 ≤ f.late) (plan : List Int) (i : Nat) : 0 ≤ M.strength f plan i ∧ M.strength f plan i ≤ 200 := by
 have h1 := getD_bd (by omega) (by omega) hb i
 unfold M.strength
 have h2 : 0 ≤ max 0 (M.age plan i - f.ripe) * f.late := Int.mul_nonneg (by omega) hl
 omega

theorem M.inAll_mem : ∀ (ns : List Int) (rs : List M.Rg), M.inAll ns rs = true → ∀ n ∈ ns, ∃ r ∈ rs, M.holds r n = true
 | [], _, _, n, hn => by simp at hn
 | x :: xs, [], h, _, _ => by simp [M.inAll] at h
 | x :: xs, r :: rs, h, n, hn => by
  rw [M.inAll, Bool.and_eq_true] at h
  rcases List.mem_cons.1 hn with rfl | hn
  ·
   exact ⟨r, by simp, h.1⟩
  ·
   obtain ⟨r', hr, hh⟩ := M.inAll_mem xs rs h.2 n hn
   exact ⟨r', by simp [hr], hh⟩
theorem M.listed_bd {f : M.Cf} (hv : M.valid f = true) {t : M.Tr} (h : M.listed f t = true) : t.gr.length = f.gr.length ∧ t.wet.length = f.wet.length ∧ (∀ g ∈ t.gr, 0 ≤ g ∧ g ≤ 50) ∧ (∀ g ∈ t.wet, 0 ≤ g ∧ g ≤ 50) := by
 unfold M.listed at h
 simp only [Bool.and_eq_true, decide_eq_true_eq] at h
 have hb : ∀ n ∈ t.gr ++ t.wet, 0 ≤ n ∧ n ≤ 50 := fun n hn => by
  obtain ⟨r, hr, hh⟩ := M.inAll_mem _ _ h.2.2 n hn
  have := M.ranges_bd hv r hr
  simp [M.holds] at hh
  omega
 exact ⟨h.1, h.2.1, fun g hg => hb g (by simp [hg]), fun g hg => hb g (by simp [hg])⟩

theorem set_tri : ∀ (ys : List M.Cr) (k : Nat) (r : M.Cr), k < ys.length → (((ys.flatMap crc).set (k * 3) (.int .i64 r.wt)).set (k * 3 + 1) (.int .i64 r.st)).set (k * 3 + 2) (.int .i64 r.wo) = (ys.set k r).flatMap crc
 | [], _, _, h => by simp at h
 | y :: t, 0, r, _ => by simp [crc, List.flatMap_cons]
 | y :: t, k + 1, r, h => by
  rw [List.flatMap_cons, List.set_cons_succ, List.flatMap_cons, ← set_tri t k r (by simpa using h)]
  show (((Value.int .i64 y.wt :: Value.int .i64 y.st :: Value.int .i64 y.wo :: t.flatMap crc).set ((k + 1) * 3) _).set ((k + 1) * 3 + 1) _).set ((k + 1) * 3 + 2) _ = _
  rw [show (k + 1) * 3 = k * 3 + 1 + 1 + 1 from by omega]
  simp only [List.set_cons_succ]
  rfl
theorem tri_get (ys : List M.Cr) (k : Nat) (h : k < ys.length) : ∃ a b c, (ys.flatMap crc)[k * 3]? = some (.int .i64 a) ∧ (ys.flatMap crc)[k * 3 + 1]? = some (.int .i64 b) ∧ (ys.flatMap crc)[k * 3 + 2]? = some (.int .i64 c) := by
 have hx : ys[k]? = some (ys[k]'h) := List.getElem?_eq_getElem _
 exact ⟨_, _, _, flat_get crc 3 ys (fun _ _ => rfl) k _ hx 0 _ rfl, flat_get crc 3 ys (fun _ _ => rfl) k _ hx 1 _ rfl, flat_get crc 3 ys (fun _ _ => rfl) k _ hx 2 _ rfl⟩
theorem zeros_tri : ∀ D : Nat, madeCells (Value.agg #[.int .i64 0, .int .i64 0, .int .i64 0]).cells (D * 3) = ((List.replicate D (⟨0, 0, 0⟩ : M.Cr)).flatMap crc).toArray := by
 intro D
 have h : ∀ D : Nat, ((List.replicate D (⟨0, 0, 0⟩ : M.Cr)).flatMap crc) = List.replicate (D * 3) (Value.int .i64 0) := by
  intro D
  induction D with
  | zero => rfl
  | succ D ih =>
   rw [List.replicate_succ, List.flatMap_cons, ih, show (D + 1) * 3 = D * 3 + 1 + 1 + 1 from by omega]
   simp [crc, List.replicate_succ]
 rw [h D]
 unfold madeCells
 apply Array.ext
 ·
  simp
 ·
  intro i h1 h2
  have h3 : i % 3 < 3 := Nat.mod_lt _ (by omega)
  have h4 : ∀ j : Nat, j < 3 → (Value.agg #[.int .i64 0, .int .i64 0, .int .i64 0]).cells.getD j default = .int .i64 0 := by
   intro j hj
   match j, hj with
   | 0, _ => rfl
   | 1, _ => rfl
   | 2, _ => rfl
  simp [Value.cells] at h4 ⊢
  first | exact h4 _ h3 | (have := h4 _ h3; simpa using this)
theorem infoCr : (Try.prog.info? 50).map (fun i => (i.zero, i.size, i.bytes)) = some (some (.agg #[.int .i64 0, .int .i64 0, .int .i64 0]), 3, 24) := by kernel_rfl
theorem makeCr (L : Nat) (hL : L ≤ 100) (wx : World) : (Instr.makeSlice 31 (.int .i64 L) (.int .i64 L)).run Try.prog wx = .ok (.slice (some ⟨wx.heap.size, 0, none⟩) L L) (wx.alloc (.cells ((List.replicate L (⟨0, 0, 0⟩ : M.Cr)).flatMap crc).toArray 50)) := by
 obtain ⟨i0, hi, hz0, hz1, hz2⟩ := info_parts infoCr
 have := run_makeSlice wx 31 50 i0 _ Try.underlying31 hi hz0 .i64 .i64 L L (by omega) (by omega) (by rw [hz1]; omega) (by rw [hz2]; omega) (by omega)
 rw [hz1, Int.toNat_natCast, zeros_tri L] at this
 exact this

end Go.Proofs.Ytffbkbcjddigdaa

set_option linter.unusedSimpArgs false
set_option linter.unusedVariables false
namespace Go.Proofs.Ytffbkbcjddigdaa
open Go.RowKit

theorem cells12 {W : World} {b : Nat} {t : TypeId} {v0 v1 v2 v3 v4 v5 v6 v7 v8 v9 v10 v11 : Value} (h : W.heap[b]? = some (.cells #[v0, v1, v2, v3, v4, v5, v6, v7, v8, v9, v10, v11] t (0, 0))) :
  W.cell? ⟨b, 0, none⟩ = some v0 ∧ W.cell? ⟨b, 1, none⟩ = some v1 ∧ W.cell? ⟨b, 2, none⟩ = some v2 ∧ W.cell? ⟨b, 3, none⟩ = some v3 ∧ W.cell? ⟨b, 4, none⟩ = some v4 ∧ W.cell? ⟨b, 5, none⟩ = some v5 ∧ W.cell? ⟨b, 6, none⟩ = some v6 ∧ W.cell? ⟨b, 7, none⟩ = some v7 ∧ W.cell? ⟨b, 8, none⟩ = some v8 ∧ W.cell? ⟨b, 9, none⟩ = some v9 ∧ W.cell? ⟨b, 10, none⟩ = some v10 ∧ W.cell? ⟨b, 11, none⟩ = some v11 :=
 ⟨cell_in h 0, cell_in h 1, cell_in h 2, cell_in h 3, cell_in h 4, cell_in h 5, cell_in h 6, cell_in h 7, cell_in h 8, cell_in h 9, cell_in h 10, cell_in h 11⟩
theorem map_ne {P : Program} {kt : TypeId} {w : World} {mb : Nat} {g : Value → Option Value} (h : MapIs P kt w mb g) {b : Nat} {cs : Array Value} {t : TypeId} {fz : Nat × Nat} (hb : w.heap[b]? = some (.cells cs t fz)) : b ≠ mb := by
 rintro rfl
 obtain ⟨es, ck, hh, _⟩ := h
 rw [hb] at hh
 cases hh
theorem map_ne_cell {P : Program} {kt : TypeId} {w : World} {mb : Nat} {g : Value → Option Value} (h : MapIs P kt w mb g) {b j : Nat} {v : Value} (hb : w.cell? ⟨b, j, none⟩ = some v) : b ≠ mb := by
 rintro rfl
 obtain ⟨es, ck, hh, _⟩ := h
 rw [cell_map hh] at hb
 cases hb
theorem CS.mo {w w' : World} {f : M.Cf} {Ag Aw Ab Ac Al : Option Addr} {ng cg nw cw nb cb nc cc nl cl mb : Nat} {P : Program} {kt : TypeId} {g : Value → Option Value} (h : CS w w.heap.size f Ag Aw Ab Ac Al ng cg nw cw nb cb nc cc nl cl) (hm : MapIs P kt w mb g) (hb : Mo mb w w') : CS w' w'.heap.size f Ag Aw Ab Ac Al ng cg nw cw nb cb nc cc nl cl :=
 ⟨h.g.mo hm hb (Nat.le_refl _) hb.size, h.w_.mo hm hb (Nat.le_refl _) hb.size, h.b.mo hm hb (Nat.le_refl _) hb.size, h.c.mo hm hb (Nat.le_refl _) hb.size, h.l.mo hm hb (Nat.le_refl _) hb.size⟩
theorem Mo.ev_ {mb : Nat} {a b c : World} (h : Mo mb a b) (k : Ev b c) : Mo mb a c := h.trans (Mo.ev k)

theorem take_set_succ' {α : Type} {l : List α} {k : Nat} {x : α} (h : k < l.length) : (l.set k x).take (k + 1) = l.take k ++ [x] := by
 rw [List.take_add_one, List.take_set_of_le (Nat.le_refl _), List.getElem?_set_self h]; rfl
theorem sl_block {α : Type} {enc : α → List Value} {sz : Nat} {w : World} {b n : Nat} {t : TypeId} {xs : List α} (hsz : 0 < sz) (henc : ∀ x ∈ xs, (enc x).length = sz) (hn : n ≤ 1099511627776) (hl : xs.length = n) (h : w.heap[b]? = some (.cells (xs.flatMap enc).toArray t (0, 0))) :
  Sl enc sz w w.heap.size (some ⟨b, 0, none⟩) n n xs := by
 refine ⟨hl, Nat.le_refl _, hn, fun _ => ⟨b, 0, rfl, heap_lt h, fun k x hk j v hj => ?_⟩⟩
 rw [cell_in h, Nat.zero_add, List.getElem?_toArray]
 exact flat_get enc sz xs henc k x hk j v hj

set_option maxRecDepth 100000 in
set_option maxHeartbeats 8000000 in
theorem play_c (f : M.Cf) (Ag Aw Ab Ac Al : Option Addr) (ng cg nw cw nb cb nc cc nl cl : Nat) (At As : Option Addr) (nt ct ns cs p mb : Nat) (Tg Tw : Option Addr) (tg tgc tw twc : Nat) (t : M.Tr) (P : Option Addr) (pn pc : Nat) (plan : List Int) (hv : M.valid f = true) (hl9 : f.last ≤ 9) (hb3 : nb ≤ 3) (htr : M.listed f t = true) (hpl : M.isPlan f plan = true) (g : Value → Option Value) (hgl : Loads f g) (w : World)
  (hw : w.heap[p]? = some (.cells #[.int .i64 f.last, .slice Ag ng cg, .slice Aw nw cw, .slice Ab nb cb, .slice Ac nc cc, .int .i64 f.ripe, .int .i64 f.late, .int .i64 f.trod, .slice Al nl cl, .slice At nt ct, .slice As ns cs, .map (some mb)] 136 (0, 0))) (hs : CS w w.heap.size f Ag Aw Ab Ac Al ng cg nw cw nb cb nc cc nl cl) (hm : MapIs Try.prog 143 w mb g)
  (hg : Sl ics 1 w w.heap.size Tg tg tgc t.gr) (hwt : Sl ics 1 w w.heap.size Tw tw twc t.wet) (hp : Sl ics 1 w w.heap.size P pn pc plan) :
  Calls Try.prog 56 #[.pointer (some ⟨p, 0, none⟩), .agg #[.slice Tg tg tgc, .slice Tw tw twc], .slice P pn pc] w fun e w' => (∃ B d, e = .returned (.slice B pn d) ∧ w'.ownsRow w.heap.size 50 3 (.slice B pn d) pn ((M.play f t plan).flatMap crc)) ∧ (∃ g', Loads f g' ∧ MapIs Try.prog 143 w' mb g') ∧ Mo mb w w' := by
 obtain ⟨v1, v2, v3, v4, v5, v6, v7, v8, v9, v10, v11, v12, v13⟩ := M.valid_parts hv
 obtain ⟨t1, t2, t3, t4⟩ := M.listed_bd hv htr
 have p1 : pn ≤ nb ∧ (∀ x ∈ plan, 0 ≤ x ∧ x ≤ f.last) := by
  unfold M.isPlan M.hasWeek at hpl
  simp only [Bool.and_eq_true, decide_eq_true_eq, List.all_eq_true] at hpl
  exact ⟨by have := hs.b.len; have := hp.len; omega, hpl.2.2⟩
 have htg : (tg : Int) = f.last + 1 := by have := hg.len; omega
 have htw : (tw : Int) = f.last + 1 := by have := hwt.len; omega
 have hwb := M.weights_bd (gs := t.gr) (plan := plan) (by omega) t3
 have hwl := M.weights_len (gs := t.gr) (plan := plan) (by omega)
 have HWC := hid (fun W (hE : Ev w W) => weights_c f Ag Aw Ab Ac Al ng cg nw cw nb cb nc cc nl cl Tg Tw tg tgc tw twc t.gr P pn pc plan hl9 htg t3 W (hg.ev hE) (hp.ev hE))
 obtain ⟨a0, a1, a2, a3, a4, a5, a6, a7, a8, a9, hst⟩ := list10 hwl
 rw [hst] at hwb
 have HST := hid hst
 have hpw := heap_lt hw
 have hpm := map_ne hm hw
 have hml := hm.lt
 have hpn : pn ≤ 3 := by omega
 have HLV := hid (fun (a : Int) (b : Bool) (a0 : 0 ≤ a) (a1 : a ≤ 1000) g hg W (hW : W.heap[p]? = some (.cells #[.int .i64 f.last, .slice Ag ng cg, .slice Aw nw cw, .slice Ab nb cb, .slice Ac nc cc, .int .i64 f.ripe, .int .i64 f.late, .int .i64 f.trod, .slice Al nl cl, .slice At nt ct, .slice As ns cs, .map (some mb)] 136 (0, 0))) (hM : MapIs Try.prog 143 W mb g) => leaves_c f Ag Aw Ab Ac Al ng cg nw cw nb cb nc cc nl cl At As nt ct ns cs p mb a b a0 a1 v11 g hg W hW hM)
 have HSG := hid (fun (i : Nat) (hi : i < pn) W (h1 : Sl ics 1 W W.heap.size Ab nb cb f.base) (h2 : Sl ics 1 W W.heap.size P pn pc plan) => strength_c f Ag Aw Ab Ac Al ng cg nw cw nb cb nc cc nl cl P pn pc plan i hi (by omega) (fun x hx => by have := p1.2 x hx; omega) v7 v9 v10 W h1 h2)
 have HSB := hid (fun i => M.strength_bd (f := f) v7 v10.1 plan i)
 have HLB := hid (fun (a : Int) (b : Bool) (a0 : 0 ≤ a) => M.leaves_bd v11 a0 b)
 have HP1 := hid p1.2
 have HWL := hid hw
 have HM := hid hm
 have hplen := hp.len
 have HPL := hid hplen
 have HTW := hid htw
 clear htw htg v1 v2 v3 v4 v5 v6 v7 v8 v9 v10 v11 v12 v13 t1 t2 t3 t4 p1 hst hwl hv htr hpl hw hplen
 go_enter Try.func56, Try.ntmps56
 go_upto_region 1 with fail
 generalize hW0 : World.alloc w _ = W0
 have hE0 : Ev w W0 := by rw [← hW0]; exact Ev.alloc (Ev.refl _) _
 have hal := alloc1 w (.cells #[.slice Tg tg tgc, .slice Tw tw twc] 40)
 rw [hW0] at hal
 have Q0 := hid hal.1
 have QP := hid (hE0.heap HWL.out)
 have hzl : W0.heap.size = w.heap.size + 1 := hal.2
 have HZL := hid hzl
 clear hal hW0 hzl
 obtain ⟨k0, k1⟩ := cells2 Q0.out
 obtain ⟨y0, y1, y2, y3, y4, y5, y6, y7, y8, y9, y10, y11⟩ := cells12 QP.out
 have l0 := heap_lt Q0.out
 have l1 := heap_lt QP.out
 have HSE : Hid (∀ w', Ev W0 w' → (∀ o, w'.cell? ⟨p, o, none⟩ = W0.cell? ⟨p, o, none⟩) ∧ (∀ o, w'.cell? ⟨w.heap.size, o, none⟩ = W0.cell? ⟨w.heap.size, o, none⟩)) := hid (fun w' h => ⟨fun o => h.cells.1 _ o l1, fun o => h.cells.1 _ o l0⟩)
 go_cut [7] (fun v W1 => ∃ r : Nat, v = .pointer (some ⟨r, 0, none⟩) ∧ Ev W0 W1 ∧ W0.heap.size ≤ r ∧ W1.heap[r]? = some (.cells #[.int .i64 a0, .int .i64 a1, .int .i64 a2, .int .i64 a3, .int .i64 a4, .int .i64 a5, .int .i64 a6, .int .i64 a7, .int .i64 a8, .int .i64 a9] 111 (0, 0)))
 case first =>
  refine wp_region_held_drew (S := fun w' => (∀ o, w'.cell? ⟨p, o, none⟩ = W0.cell? ⟨p, o, none⟩) ∧ (∀ o, w'.cell? ⟨w.heap.size, o, none⟩ = W0.cell? ⟨w.heap.size, o, none⟩)) (by kernel_rfl) (⟨fun o => rfl, fun o => rfl⟩) (fun hHeld => ?_)
  refine wpAnyH_take (i := 0) (v := ?_) rfl (by kernel_rfl) (by kernel_rfl) (by kernel_rfl) (fun _ _ _ h => h) (Or.inl ⟨by rfl, ?hy⟩) (by assumption) ?_
  case hy => (intro w hSw; (try dsimp only at hSw); go_simp; with_reducible rfl)
  (try simp only [Act.put, List.setIfInBounds_toArray, List.set_cons_zero, List.set_cons_succ])
  refine wpAnyH_take (i := 1) (v := ?_) rfl (by kernel_rfl) (by kernel_rfl) (by kernel_rfl) (fun _ _ _ h => h) (Or.inl ⟨by rfl, ?hy⟩) (by assumption) ?_
  case hy => (intro w hSw; (try dsimp only at hSw); go_simp; with_reducible rfl)
  (try simp only [Act.put, List.setIfInBounds_toArray, List.set_cons_zero, List.set_cons_succ])
  refine wpAnyH_take (i := 2) (v := ?_) rfl (by kernel_rfl) (by kernel_rfl) (by kernel_rfl) (fun _ _ _ h => h) (Or.inl ⟨by rfl, ?hy⟩) (by assumption) ?_
  case hy => (intro w hSw; (try dsimp only at hSw); go_simp; with_reducible rfl)
  (try simp only [Act.put, List.setIfInBounds_toArray, List.set_cons_zero, List.set_cons_succ])
  refine wpAnyH_take (i := 3) (v := ?_) rfl (by kernel_rfl) (by kernel_rfl) (by kernel_rfl) (fun _ _ _ h => h) (Or.inl ⟨by rfl, ?hy⟩) (by assumption) ?_
  case hy => (intro w hSw; (try dsimp only at hSw); go_simp; with_reducible rfl)
  (try simp only [Act.put, List.setIfInBounds_toArray, List.set_cons_zero, List.set_cons_succ])
  refine wpAnyH_take (i := 4) (v := ?_) rfl (by kernel_rfl) (by kernel_rfl) (by kernel_rfl) (fun _ _ _ h => h) (Or.inl ⟨by rfl, ?hy⟩) (by assumption) ?_
  case hy => (intro w hSw; (try dsimp only at hSw); go_simp; with_reducible rfl)
  (try simp only [Act.put, List.setIfInBounds_toArray, List.set_cons_zero, List.set_cons_succ])
  refine wpAnyH_take (i := 5) (v := ?_) rfl (by kernel_rfl) (by kernel_rfl) (by kernel_rfl) (fun _ _ _ h => h) (Or.inl ⟨by rfl, ?hy⟩) (by assumption) ?_
  case hy => (intro w hSw; (try dsimp only at hSw); go_simp; with_reducible rfl)
  (try simp only [Act.put, List.setIfInBounds_toArray, List.set_cons_zero, List.set_cons_succ])
  refine wpAnyH_ready (rs := [6, 7]) (by kernel_rfl) (by simp) ?_
  refine AllReadyH.cons rfl (fun K hK => ?_) (AllReadyH.cons rfl (fun K hK => ?_) (AllReadyH.nil))
  ·
   go_simp
   refine (HWC.out _ (hE0.trans (Ev.drew (Ev.refl _)))).mono ?_
   rintro e w1 ⟨rfl, hb1⟩
   rw [HST.out]
   have hE3 : Ev W0 w1 := Ev.trans (Ev.drew (Ev.refl _)) hb1
   refine hK.out _ _ (HSE.out _ hE3) (fun hHeld => ?_)
   clear hK K
   (try simp only [Act.put, List.setIfInBounds_toArray, List.set_cons_zero, List.set_cons_succ])
   refine wpAnyH_ready (rs := [7]) (by kernel_rfl) (by simp) ?_
   refine AllReadyH.cons rfl (fun K hK => ?_) (AllReadyH.nil)
   go_simp
   refine hK.out _ _ (HSE.out _ (Ev.alloc hE3 _)) (fun hHeld => ?_)
   clear hK K
   (try simp only [Act.put, List.setIfInBounds_toArray, List.set_cons_zero, List.set_cons_succ])
   refine wpAnyH_ready (rs := [8]) (by kernel_rfl) (by simp) ?_
   refine AllReadyH.cons rfl (fun K hK => ?_) (AllReadyH.nil)
   simp only [sv, List.map_cons, List.map_nil]
   go_simp
   refine hK.out _ _ (HSE.out _ (Ev.alloc hE3 _)) (fun hHeld => ?_)
   clear hK K
   (try simp only [Act.put, List.setIfInBounds_toArray, List.set_cons_zero, List.set_cons_succ])
   refine wpAnyH_done (by kernel_rfl) ?_ _
   go_wp2_with fail
   go_meet
   exact ⟨w1.heap.size, rfl, Ev.alloc hE3 _, hE3.size, (alloc1 w1 _).1⟩
  ·
   go_simp
   refine hK.out _ _ (HSE.out _ (Ev.alloc (Ev.drew (Ev.refl _)) _)) (fun hHeld => ?_)
   clear hK K
   (try simp only [Act.put, List.setIfInBounds_toArray, List.set_cons_zero, List.set_cons_succ])
   refine wpAnyH_ready (rs := [6]) (by kernel_rfl) (by simp) ?_
   refine AllReadyH.cons rfl (fun K hK => ?_) (AllReadyH.nil)
   go_simp
   refine (HWC.out _ (hE0.trans (Ev.alloc (Ev.drew (Ev.refl _)) _))).mono ?_
   rintro e w1 ⟨rfl, hb1⟩
   rw [HST.out]
   have hE3 : Ev W0 w1 := Ev.trans (Ev.alloc (Ev.drew (Ev.refl _)) _) hb1
   have hA : w1.heap[W0.heap.size]? = some (.cells #[.int .i64 0, .int .i64 0, .int .i64 0, .int .i64 0, .int .i64 0, .int .i64 0, .int .i64 0, .int .i64 0, .int .i64 0, .int .i64 0] 111 (0, 0)) := hb1.heap (alloc1 W0.drew _).1
   obtain ⟨d0, d1, d2, d3, d4, d5, d6, d7, d8, d9⟩ := cells10 hA
   obtain ⟨f0, f1, f2, f3, f4, f5, f6, f7, f8, f9⟩ := frz10 hA
   have HA := hid hA
   clear hA
   refine hK.out _ _ (HSE.out _ hE3) (fun hHeld => ?_)
   clear hK K
   (try simp only [Act.put, List.setIfInBounds_toArray, List.set_cons_zero, List.set_cons_succ])
   refine wpAnyH_ready (rs := [8]) (by kernel_rfl) (by simp) ?_
   refine AllReadyH.cons rfl (fun K hK => ?_) (AllReadyH.nil)
   simp only [sv, List.map_cons, List.map_nil]
   go_simp
   have hE5 := Ev.setCell (Ev.setCell (Ev.setCell (Ev.setCell (Ev.setCell (Ev.setCell (Ev.setCell (Ev.setCell (Ev.setCell (Ev.setCell hE3 (p := ⟨W0.heap.size, 0, none⟩) (Nat.le_refl _) (.int .i64 a0)) (p := ⟨W0.heap.size, 1, none⟩) (Nat.le_refl _) (.int .i64 a1)) (p := ⟨W0.heap.size, 2, none⟩) (Nat.le_refl _) (.int .i64 a2)) (p := ⟨W0.heap.size, 3, none⟩) (Nat.le_refl _) (.int .i64 a3)) (p := ⟨W0.heap.size, 4, none⟩) (Nat.le_refl _) (.int .i64 a4)) (p := ⟨W0.heap.size, 5, none⟩) (Nat.le_refl _) (.int .i64 a5)) (p := ⟨W0.heap.size, 6, none⟩) (Nat.le_refl _) (.int .i64 a6)) (p := ⟨W0.heap.size, 7, none⟩) (Nat.le_refl _) (.int .i64 a7)) (p := ⟨W0.heap.size, 8, none⟩) (Nat.le_refl _) (.int .i64 a8)) (p := ⟨W0.heap.size, 9, none⟩) (Nat.le_refl _) (.int .i64 a9)
   refine hK.out _ _ (HSE.out _ hE5) (fun hHeld => ?_)
   clear hK K
   (try simp only [Act.put, List.setIfInBounds_toArray, List.set_cons_zero, List.set_cons_succ])
   refine wpAnyH_done (by kernel_rfl) ?_ _
   go_wp2_with fail
   go_meet
   exact ⟨W0.heap.size, rfl, hE5, Nat.le_refl _, set10 HA.out⟩
 case rest =>
  obtain ⟨r, rfl, hE1, hr0, hC1⟩ := hcut
  have Q0c := hid (hE1.heap Q0.out)
  have hEw := hE0.trans hE1
  have HC1 := hid hC1
  have hr1 := heap_lt hC1
  have hmk := fun wx => makeCr pn (by omega) wx
  have hrw : w.heap.size < r := by have := HZL.out; omega
  clear hC1 y0 y1 y2 y3 y4 y5 y6 y7 y8 y9 y10 y11 k0 k1 HSE
  have hwcs := hE1.size
  go_wp2_with fail
  have QX := hid (alloc1 wc (.cells ((List.replicate pn (⟨0, 0, 0⟩ : M.Cr)).flatMap crc).toArray 50)).1
  have hEx : Ev w (wc.alloc (.cells ((List.replicate pn (⟨0, 0, 0⟩ : M.Cr)).flatMap crc).toArray 50)) := Ev.alloc hEw _
  have QR := hid (heap_old (.cells ((List.replicate pn (⟨0, 0, 0⟩ : M.Cr)).flatMap crc).toArray 50) HC1.out)
  have QT := hid (heap_old (.cells ((List.replicate pn (⟨0, 0, 0⟩ : M.Cr)).flatMap crc).toArray 50) Q0c.out)
  go_loopw [25] (fun i wr => ∃ k : Nat, ∃ g' : Value → Option Value, ∃ xs : List M.Cr, i = .int .i64 k ∧ k ≤ pn ∧ Mo mb w wr ∧ Loads f g' ∧ MapIs Try.prog 143 wr mb g' ∧ Hid (wr.heap[w.heap.size]? = some (.cells #[.slice Tg tg tgc, .slice Tw tw twc] 40 (0, 0))) ∧ Hid (wr.heap[r]? = some (.cells #[.int .i64 a0, .int .i64 a1, .int .i64 a2, .int .i64 a3, .int .i64 a4, .int .i64 a5, .int .i64 a6, .int .i64 a7, .int .i64 a8, .int .i64 a9] 111 (0, 0))) ∧ Hid (wr.heap[wc.heap.size]? = some (.cells (xs.flatMap crc).toArray 50 (0, 0))) ∧ xs.length = pn ∧ Hid (xs.take k = (M.play f t plan).take k)) (fun i _ => pn - (intOf i).toNat)
  case atStart => exact ⟨0, g, List.replicate pn ⟨0, 0, 0⟩, rfl, by omega, Mo.ev hEx, hgl, HM.out.keep hEx hml, QT, QR, QX, by simp, hid rfl⟩
  case round =>
   obtain ⟨k, g', xs, rfl, hk, hB, hL, hMr, hQ0, hR, hX, hxl, hT⟩ := hrel
   have hpr := hp.mo HM.out hB (Nat.le_refl _) hB.size
   have hwr := hwt.mo HM.out hB (Nat.le_refl _) hB.size
   have hbr := hs.b.mo HM.out hB (Nat.le_refl _) hB.size
   have HPR := hid (hB.heap HWL.out hpm)
   by_cases hlt : k < pn
   ·
    obtain ⟨bp, op, x, rfl, hbp, hx, hd, e0⟩ := hpr.int (Below.refl _ _) hlt
    have hxb := HP1.out x (List.mem_of_getElem? hx)
    have HXK := hid (show plan.getD k 0 = x by rw [List.getD_eq_getElem?_getD, hx]; rfl)
    have hpcap := hpr.cap
    clear hx hd
    obtain ⟨m, rfl⟩ := Int.eq_ofNat_of_zero_le hxb.1
    have hm9 : m ≤ 9 := by omega
    obtain ⟨bw, ow, s, rfl, hbw, hsx, hsd, e1⟩ := hwr.int (Below.refl _ _) (show m < tw by have := HTW.out; omega)
    have hwcap := hwr.cap
    have HSX := hid hsx
    clear hsx hsd
    have ha : [a0, a1, a2, a3, a4, a5, a6, a7, a8, a9][m]? = some ([a0, a1, a2, a3, a4, a5, a6, a7, a8, a9].getD m 0) := by
     rw [List.getD_eq_getElem?_getD, List.getElem?_eq_getElem (by simp; omega)]; rfl
    have hab := hwb _ (List.mem_of_getElem? ha)
    have HAW := hid (show (M.weights t.gr plan).getD m 0 = [a0, a1, a2, a3, a4, a5, a6, a7, a8, a9].getD m 0 by rw [HST.out])
    generalize [a0, a1, a2, a3, a4, a5, a6, a7, a8, a9].getD m 0 = a at ha hab HAW
    have hxa : (#[.int .i64 a0, .int .i64 a1, .int .i64 a2, .int .i64 a3, .int .i64 a4, .int .i64 a5, .int .i64 a6, .int .i64 a7, .int .i64 a8, .int .i64 a9] : Array Value)[m]? = some (.int .i64 a) := by
     have : (#[.int .i64 a0, .int .i64 a1, .int .i64 a2, .int .i64 a3, .int .i64 a4, .int .i64 a5, .int .i64 a6, .int .i64 a7, .int .i64 a8, .int .i64 a9] : Array Value) = ([a0, a1, a2, a3, a4, a5, a6, a7, a8, a9].map (Value.int .i64)).toArray := rfl
     rw [this]; simp only [List.getElem?_toArray, List.getElem?_map, ha]; rfl
    have c0 := (cell_in hR.out m).trans hxa
    obtain ⟨bb, hbb⟩ : ∃ bb : Bool, (s == 1) = bb := ⟨_, rfl⟩
    have HLF := hid (show M.left f t plan (plan.getD k 0) = M.leaves f a bb by
     unfold M.left; rw [HXK.out, Int.toNat_natCast, HAW.out, List.getD_eq_getElem?_getD, HSX.out]; simp only [Option.getD_some, hbb])
    have hlb := HLB.out a bb hab.1
    have hsb := HSB.out k
    have HLVa := hid (HLV.out a bb hab.1 (by omega) g' hL)
    have HCR := hid (show M.crop f t plan k = ⟨M.leaves f a bb, M.strength f plan k, M.leaves f a bb * M.strength f plan k⟩ by unfold M.crop; rw [HLF.out])
    have HSGk := hid (HSG.out k hlt)
    generalize M.leaves f a bb = lv at hlb HLVa HCR
    generalize M.strength f plan k = sg at hsb HSGk HCR
    obtain ⟨pr, hpp⟩ : ∃ pr : Int, lv * sg = pr := ⟨_, rfl⟩
    have hpr0 : 0 ≤ pr := by rw [← hpp]; exact Int.mul_nonneg (by omega) (by omega)
    have hpr1 : pr ≤ 500 * 200 := by rw [← hpp]; exact Int.mul_le_mul (by omega) (by omega) (by omega) (by omega)
    rw [hpp] at HCR
    have s1 : IntKind.i64.wrap pr = pr := IntWalk.i64_in _ (by omega)
    have m10 : (m : Int) < 10 := by omega
    have m0 : (0 : Int) ≤ m := by omega
    have mw : (m : Int) < tw := by have := HTW.out; omega
    have hbwm := map_ne_cell hMr e1
    have hrm := map_ne hMr hR.out
    have h0m := map_ne hMr hQ0.out
    have lr := heap_lt hR.out
    have l0' := heap_lt hQ0.out
    obtain ⟨k0, k1⟩ := cells2 hQ0.out
    have HSE : Hid (∀ w', Mo mb wr w' → (∀ o, w'.cell? ⟨r, o, none⟩ = wr.cell? ⟨r, o, none⟩) ∧ (∀ o, w'.cell? ⟨w.heap.size, o, none⟩ = wr.cell? ⟨w.heap.size, o, none⟩) ∧ (∀ o, w'.cell? ⟨bw, o, none⟩ = wr.cell? ⟨bw, o, none⟩)) := hid (fun w' h => ⟨fun o => h.cells.1 _ o lr hrm, fun o => h.cells.1 _ o l0' h0m, fun o => h.cells.1 _ o hbw hbwm⟩)
    have HMR := hid hMr
    clear hwb hxa ha hMr hL
    go_upto_region 6 with fail
    refine wp_region_held_drew (S := fun w' => (∀ o, w'.cell? ⟨r, o, none⟩ = wr.cell? ⟨r, o, none⟩) ∧ (∀ o, w'.cell? ⟨w.heap.size, o, none⟩ = wr.cell? ⟨w.heap.size, o, none⟩) ∧ (∀ o, w'.cell? ⟨bw, o, none⟩ = wr.cell? ⟨bw, o, none⟩)) (by kernel_rfl) (⟨fun o => rfl, fun o => rfl, fun o => rfl⟩) (fun hHeld => ?_)
    refine wpAnyH_take (i := 0) (v := ?_) rfl (by kernel_rfl) (by kernel_rfl) (by kernel_rfl) (fun _ _ _ h => h) (Or.inl ⟨by rfl, ?hy⟩) (by assumption) ?_
    case hy => (intro w hSw; (try dsimp only at hSw); go_simp; with_reducible rfl)
    (try simp only [Act.put, List.setIfInBounds_toArray, List.set_cons_zero, List.set_cons_succ])
    refine wpAnyH_take (i := 1) (v := ?_) rfl (by kernel_rfl) (by kernel_rfl) (by kernel_rfl) (fun _ _ _ h => h) (Or.inl ⟨by rfl, ?hy⟩) (by assumption) ?_
    case hy => (intro w hSw; (try dsimp only at hSw); go_simp; with_reducible rfl)
    (try simp only [Act.put, List.setIfInBounds_toArray, List.set_cons_zero, List.set_cons_succ])
    refine wpAnyH_take (i := 2) (v := ?_) rfl (by kernel_rfl) (by kernel_rfl) (by kernel_rfl) (fun _ _ _ h => h) (Or.inl ⟨by rfl, ?hy⟩) (by assumption) ?_
    case hy => (intro w hSw; (try dsimp only at hSw); go_simp; with_reducible rfl)
    (try simp only [Act.put, List.setIfInBounds_toArray, List.set_cons_zero, List.set_cons_succ])
    refine wpAnyH_take (i := 3) (v := ?_) rfl (by kernel_rfl) (by kernel_rfl) (by kernel_rfl) (fun _ _ _ h => h) (Or.inl ⟨by rfl, ?hy⟩) (by assumption) ?_
    case hy => (intro w hSw; (try dsimp only at hSw); go_simp; with_reducible rfl)
    (try simp only [Act.put, List.setIfInBounds_toArray, List.set_cons_zero, List.set_cons_succ])
    refine wpAnyH_take (i := 4) (v := ?_) rfl (by kernel_rfl) (by kernel_rfl) (by kernel_rfl) (fun _ _ _ h => h) (Or.inl ⟨by rfl, ?hy⟩) (by assumption) ?_
    case hy => (intro w hSw; (try dsimp only at hSw); go_simp; with_reducible rfl)
    (try simp only [Act.put, List.setIfInBounds_toArray, List.set_cons_zero, List.set_cons_succ])
    refine wpAnyH_take (i := 5) (v := ?_) rfl (by kernel_rfl) (by kernel_rfl) (by kernel_rfl) (fun _ _ _ h => h) (Or.inl ⟨by rfl, ?hy⟩) (by assumption) ?_
    case hy => (intro w hSw; (try dsimp only at hSw); go_simp; with_reducible rfl)
    (try simp only [Act.put, List.setIfInBounds_toArray, List.set_cons_zero, List.set_cons_succ])
    refine wpAnyH_take (i := 6) (v := ?_) rfl (by kernel_rfl) (by kernel_rfl) (by kernel_rfl) (fun _ _ _ h => h) (Or.inl ⟨by rfl, ?hy⟩) (by assumption) ?_
    case hy => (intro w hSw; (try dsimp only at hSw); go_simp; with_reducible rfl)
    (try simp only [Act.put, List.setIfInBounds_toArray, List.set_cons_zero, List.set_cons_succ])
    refine wpAnyH_take (i := 7) (v := ?_) rfl (by kernel_rfl) (by kernel_rfl) (by kernel_rfl) (fun _ _ _ h => h) (Or.inl ⟨by rfl, ?hy⟩) (by assumption) ?_
    case hy => (intro w hSw; (try dsimp only at hSw); go_simp; with_reducible rfl)
    (try simp only [Act.put, List.setIfInBounds_toArray, List.set_cons_zero, List.set_cons_succ])
    refine wpAnyH_take (i := 8) (v := ?_) rfl (by kernel_rfl) (by kernel_rfl) (by kernel_rfl) (fun _ _ _ h => h) (Or.inl ⟨by rfl, ?hy⟩) (by assumption) ?_
    case hy => (intro w hSw; (try dsimp only at hSw); go_simp; with_reducible rfl)
    (try simp only [Act.put, List.setIfInBounds_toArray, List.set_cons_zero, List.set_cons_succ])
    refine wpAnyH_take (i := 9) (v := ?_) rfl (by kernel_rfl) (by kernel_rfl) (by kernel_rfl) (fun _ _ _ h => h) (Or.inl ⟨by rfl, ?hy⟩) (by assumption) ?_
    case hy => (intro w hSw; (try dsimp only at hSw); go_simp; with_reducible rfl)
    (try simp only [Act.put, List.setIfInBounds_toArray, List.set_cons_zero, List.set_cons_succ])
    refine wpAnyH_take (i := 10) (v := ?_) rfl (by kernel_rfl) (by kernel_rfl) (by kernel_rfl) (fun _ _ _ h => h) (Or.inl ⟨by rfl, ?hy⟩) (by assumption) ?_
    case hy => (intro w hSw; (try dsimp only at hSw); go_simp; with_reducible rfl)
    (try simp only [Act.put, List.setIfInBounds_toArray, List.set_cons_zero, List.set_cons_succ])
    refine wpAnyH_ready (rs := [11]) (by kernel_rfl) (by simp) ?_
    refine AllReadyH.cons rfl (fun K hK => ?_) (AllReadyH.nil)
    go_simp
    refine (HLVa.out wr.drew ((Ev.drew (Ev.refl wr)).heap HPR.out) (HMR.out.same rfl)).mono ?_
    rintro e w2 ⟨rfl, ⟨g2, hL2, hM2⟩, hb2⟩
    have hb2' : Mo mb wr w2 := (Mo.drew (Mo.refl mb wr)).trans hb2
    refine hK.out _ _ (HSE.out _ hb2') (fun hHeld => ?_)
    clear hK K
    (try simp only [Act.put, List.setIfInBounds_toArray, List.set_cons_zero, List.set_cons_succ])
    refine wpAnyH_take (i := 12) (v := ?_) rfl (by kernel_rfl) (by kernel_rfl) (by kernel_rfl) (fun _ _ _ h => h) (Or.inl ⟨by rfl, ?hy⟩) (by assumption) ?_
    case hy => (intro w hSw; (try dsimp only at hSw); go_simp; with_reducible rfl)
    (try simp only [Act.put, List.setIfInBounds_toArray, List.set_cons_zero, List.set_cons_succ])
    refine wpAnyH_done (by kernel_rfl) ?_ _
    have HP2 := hid (hb2'.heap HPR.out hpm)
    obtain ⟨y0, y1, y2, y3, y4, y5, y6, y7, y8, y9, y10, y11⟩ := cells12 HP2.out
    have hpr2 := hid (hpr.mo HMR.out hb2' (Nat.le_refl _) hb2'.size)
    have hbr2 := hid (hbr.mo HMR.out hb2' (Nat.le_refl _) hb2'.size)
    have hqm := map_ne HMR.out hX.out
    have HX2 := hid (hb2'.heap hX.out hqm)
    have HQ2 := hid (hb2'.heap hQ0.out h0m)
    have HR2 := hid (hb2'.heap hR.out hrm)
    have hL2' := hid hL2
    have HM2 := hid hM2
    clear hL2 hM2 hpr hbr hwr e0 e1 c0 k0 k1
    go_upto_region 8 with (go_at_call 87; ((with_reducible refine (HSGk.out _ hbr2.out hpr2.out).mono ?_); rintro e w3 ⟨rfl, hb3⟩))
    have HX3 := hid (hb3.heap HX2.out)
    obtain ⟨u0, u1, u2, hu0, hu1, hu2⟩ := tri_get xs k (by omega)
    have x0 : w3.cell? ⟨wc.heap.size, k * 3, none⟩ = some (.int .i64 u0) := (cell_in HX3.out _).trans (by rw [List.getElem?_toArray]; exact hu0)
    have x1 : w3.cell? ⟨wc.heap.size, k * 3 + 1, none⟩ = some (.int .i64 u1) := (cell_in HX3.out _).trans (by rw [List.getElem?_toArray]; exact hu1)
    have x2 : w3.cell? ⟨wc.heap.size, k * 3 + 2, none⟩ = some (.int .i64 u2) := (cell_in HX3.out _).trans (by rw [List.getElem?_toArray]; exact hu2)
    have f0 := frozen_in HX3.out (k * 3)
    have f1 := frozen_in HX3.out (k * 3 + 1)
    have f2 := frozen_in HX3.out (k * 3 + 2)
    have k0 : (0 : Int) ≤ k := by omega
    have kp : (k : Int) < pn := by omega
    clear hu0 hu1 hu2 y0 y1 y2 y3 y4 y5 y6 y7 y8 y9 y10 y11
    go_wp2
    have hb3' : Mo mb w w3 := (hB.trans hb2').trans (Mo.ev hb3)
    have hmq : mb ≠ wc.heap.size := by omega
    have hM3 : MapIs Try.prog 143 w3 mb g2 := HM2.out.keep hb3 HM2.out.lt
    refine ⟨⟨k + 1, g2, xs.set k ⟨lv, sg, pr⟩, by go_num, by omega, ((hb3'.setCell (by simp; omega) _).setCell (by simp; omega) _).setCell (by simp; omega) _, hL2'.out, ?_, ?_, ?_, ?_, by rw [List.length_set]; exact hxl, ?_⟩, by simp [intOf]; omega⟩
    ·
     exact hM3.same (by rw [Below.heap_setCell _ _ _ _ (by simpa using hmq), Below.heap_setCell _ _ _ _ (by simpa using hmq), Below.heap_setCell _ _ _ _ (by simpa using hmq)])
    ·
     exact hid (set_heap (set_heap (set_heap (hb3.heap HQ2.out) (by omega)) (by omega)) (by omega))
    ·
     exact hid (set_heap (set_heap (set_heap (hb3.heap HR2.out) (by omega)) (by omega)) (by omega))
    ·
     refine hid ?_
     rw [set_heap_same (set_heap_same (set_heap_same HX3.out)), ← set_tri xs k _ (by omega)]
     simp only [List.setIfInBounds_toArray]
    ·
     refine hid ?_
     rw [take_set_succ' (by omega), hT.out]
     have h1 : (M.play f t plan)[k]? = some ⟨lv, sg, pr⟩ := by
      unfold M.play
      rw [List.getElem?_map, List.getElem?_range (by rw [HPL.out]; exact hlt), ← HCR.out]; rfl
     rw [List.take_add_one, h1]; rfl
   ·
    obtain rfl : k = pn := by omega
    have hxs : xs = M.play f t plan := by
     have h := hT.out
     rw [List.take_of_length_le (by omega), List.take_of_length_le (by rw [M.play_len, HPL.out]; exact Nat.le_refl _)] at h
     exact h
    have HXS := hid hxs
    have hxl' := hid hxl
    clear hxs hxl
    go_wp2
    go_ret
    have hlen : (xs.flatMap crc).length = k * 3 := by rw [flat_len crc 3 xs (fun _ _ => rfl), hxl'.out]
    exact ⟨⟨_, _, rfl, by rw [← HXS.out]; exact ⟨hlen, .inr ⟨wc.heap.size, k, _, rfl, Nat.le_of_lt (Nat.lt_of_lt_of_le hrw (Nat.le_of_lt hr1)), hX.out, Nat.le_refl _, by unfold maxLen; omega, by simp [hlen], by rw [List.take_of_length_le (by simp [hlen])]⟩⟩⟩, ⟨g', hL, hMr⟩, hB⟩

end Go.Proofs.Ytffbkbcjddigdaa
