import Derived.Test.YtffbkbcjddigdaaA71
import Derived.Test.YtffbkbcjddigdaaA62
import Derived.Test.YtffbkbcjddigdaaA58
import Derived.Test.YtffbkbcjddigdaaA54
import Derived.Test.YtffbkbcjddigdaaA48
import Derived.Test.YtffbkbcjddigdaaA49
import Derived.Deep.DeepCutAuto
set_option linter.unusedSimpArgs false
set_option linter.unusedVariables false
namespace Go.Proofs.Ytffbkbcjddigdaa
open Go.RowKit Go.Shelf

theorem readyW_c (f : M.Cf) (kx : Nat) (Ag Aw Ab Ac Al : Option Addr) (ng cg nw cw nb cb nc cc nl cl : Nat) (hl0 : -9223372036854775808 ≤ f.last) (w : World) (hs : M.small ng nw nb nc nl → CS w w.heap.size (M.wetF f kx) Ag Aw Ab Ac Al ng cg nw cw nb cb nc cc nl cl) :
  Calls Try.prog 37 #[.agg #[.int .i64 f.last, .slice Ag ng cg, .slice Aw nw cw, .slice Ab nb cb, .slice Ac nc cc, .int .i64 f.ripe, .int .i64 f.late, .int .i64 f.trod, .slice Al nl cl]] w fun e w' => e = .returned (.bool (M.rdy (M.wetF f kx) ng nw nb nc nl)) ∧ Ev w w' := ready_c (M.wetF f kx) Ag Aw Ab Ac Al ng cg nw cw nb cb nc cc nl cl hl0 w hs
theorem FieldW_c (f : M.Cf) (kx : Nat) (Ag Aw Ab Ac Al : Option Addr) (ng cg nw cw nb cb nc cc nl cl : Nat) (hng : ng ≤ 1000) (hnw : nw ≤ 1000) (hnb : nb ≤ 1000) (hnc : nc ≤ 1000) (hnl : nl ≤ 1000) (w : World) (hs : CS w w.heap.size (M.wetF f kx) Ag Aw Ab Ac Al ng cg nw cw nb cb nc cc nl cl) :
  Calls Try.prog 16 #[.agg #[.int .i64 f.last, .slice Ag ng cg, .slice Aw nw cw, .slice Ab nb cb, .slice Ac nc cc, .int .i64 f.ripe, .int .i64 f.late, .int .i64 f.trod, .slice Al nl cl]] w fun e w' => (∃ Bg dg Bw dw Bb db Bc dc Bl dl, e = .returned (.agg #[.int .i64 f.last, .slice Bg ng dg, .slice Bw nw dw, .slice Bb nb db, .slice Bc nc dc, .int .i64 f.ripe, .int .i64 f.late, .int .i64 f.trod, .slice Bl nl dl]) ∧ CS w' w'.heap.size (M.wetF f kx) Bg Bw Bb Bc Bl ng dg nw dw nb db nc dc nl dl) ∧ Ev w w' := Field_c (M.wetF f kx) Ag Aw Ab Ac Al ng cg nw cw nb cb nc cc nl cl hng hnw hnb hnc hnl w hs
theorem ManyW_c (f : M.Cf) (kx : Nat) (Ag Aw Ab Ac Al : Option Addr) (ng cg nw cw nb cb nc cc nl cl : Nat) (hl : (M.wetF f kx).gr.length = (M.wetF f kx).wet.length) (hg : ∀ r ∈ (M.wetF f kx).gr, 0 ≤ r.lo ∧ r.lo ≤ r.hi ∧ r.hi ≤ 50) (hwt : ∀ s ∈ (M.wetF f kx).wet, 0 ≤ s ∧ s ≤ 2) (w : World) (hs : CS w w.heap.size (M.wetF f kx) Ag Aw Ab Ac Al ng cg nw cw nb cb nc cc nl cl) :
  Calls Try.prog 43 #[.agg #[.int .i64 f.last, .slice Ag ng cg, .slice Aw nw cw, .slice Ab nb cb, .slice Ac nc cc, .int .i64 f.ripe, .int .i64 f.late, .int .i64 f.trod, .slice Al nl cl]] w fun e w' => e = .returned (.int .i64 (M.many (M.wetF f kx))) ∧ Ev w w' := Many_c (M.wetF f kx) Ag Aw Ab Ac Al ng cg nw cw nb cb nc cc nl cl hl hg hwt w hs
theorem NthW_c (f : M.Cf) (kx : Nat) (Ag Aw Ab Ac Al : Option Addr) (ng cg nw cw nb cb nc cc nl cl : Nat) (hv : M.valid (M.wetF f kx) = true) (hl9 : f.last ≤ 9) (n : Nat) (hn : n ≤ 1000000) (w : World) (hs : CS w w.heap.size (M.wetF f kx) Ag Aw Ab Ac Al ng cg nw cw nb cb nc cc nl cl) :
  Calls Try.prog 42 #[.agg #[.int .i64 f.last, .slice Ag ng cg, .slice Aw nw cw, .slice Ab nb cb, .slice Ac nc cc, .int .i64 f.ripe, .int .i64 f.late, .int .i64 f.trod, .slice Al nl cl], .int .i64 n] w fun e w' => (∃ Bg dg Bw dw, e = .returned (.agg #[.slice Bg ng dg, .slice Bw nw dw]) ∧ w'.ownsRow w.heap.size 3 1 (.slice Bg ng dg) ng ((M.nth (M.wetF f kx) n).gr.flatMap ics) ∧ w'.ownsRow w.heap.size 3 1 (.slice Bw nw dw) nw ((M.nth (M.wetF f kx) n).wet.flatMap ics) ∧ Ap (.slice Bg ng dg) (.slice Bw nw dw)) ∧ Ev w w' := Nth_c (M.wetF f kx) Ag Aw Ab Ac Al ng cg nw cw nb cb nc cc nl cl hv hl9 n hn w hs
theorem PlayW_ok (f : M.Cf) (kx : Nat) (Ag Aw Ab Ac Al : Option Addr) (ng cg nw cw nb cb nc cc nl cl : Nat) (Tg Tw : Option Addr) (tg tgc tw twc : Nat) (t : M.Tr) (P : Option Addr) (pn pc : Nat) (plan : List Int) (hl0 : -9223372036854775808 ≤ f.last) (w : World) (hs : CS w w.heap.size (M.wetF f kx) Ag Aw Ab Ac Al ng cg nw cw nb cb nc cc nl cl) (hg : Sl ics 1 w w.heap.size Tg tg tgc t.gr) (hwt : Sl ics 1 w w.heap.size Tw tw twc t.wet) (hp : Sl ics 1 w w.heap.size P pn pc plan) (h0 : M.check (M.wetF f kx) = 0) (ha : M.listed (M.wetF f kx) t = true) (hb : M.isPlan (M.wetF f kx) plan = true) :
  Calls Try.prog 15 #[.agg #[.int .i64 f.last, .slice Ag ng cg, .slice Aw nw cw, .slice Ab nb cb, .slice Ac nc cc, .int .i64 f.ripe, .int .i64 f.late, .int .i64 f.trod, .slice Al nl cl], .agg #[.slice Tg tg tgc, .slice Tw tw twc], .slice P pn pc] w fun e w' => (∃ B d, e = .returned (.tuple #[.slice B pn d, .int .i64 0]) ∧ w'.ownsRow w.heap.size 50 3 (.slice B pn d) pn ((M.play (M.wetF f kx) t plan).flatMap crc)) ∧ Ev w w' := Play_ok (M.wetF f kx) Ag Aw Ab Ac Al ng cg nw cw nb cb nc cc nl cl Tg Tw tg tgc tw twc t P pn pc plan hl0 w hs hg hwt hp h0 ha hb

set_option maxRecDepth 100000 in
set_option maxHeartbeats 4000000 in
theorem cropMore_z (f : M.Cf) (Ag Aw Ab Ac Al : Option Addr) (ng cg nw cw nb cb nc cc nl cl : Nat) (hl0 : -9223372036854775808 ≤ f.last) (a b d e_ : Int) (a0 : 0 ≤ a) (a1 : a < 65536) (b0 : 0 ≤ b) (b1 : b < 65536) (d0 : 0 ≤ d) (d1 : d < 256) (e0_ : 0 ≤ e_) (e1_ : e_ < 256) (hnw44 : nw ≤ 17592186044416) (w : World) (HW : Hid (Sl0 ics 1 w w.heap.size Aw nw f.wet)) (hs : M.small ng nw nb nc nl → CS w w.heap.size f Ag Aw Ab Ac Al ng cg nw cw nb cb nc cc nl cl) (hr : M.rdy f ng nw nb nc nl = false) (hz : nw = 0) :
  Calls Try.prog 7 #[.agg #[.int .i64 f.last, .slice Ag ng cg, .slice Aw nw cw, .slice Ab nb cb, .slice Ac nc cc, .int .i64 f.ripe, .int .i64 f.late, .int .i64 f.trod, .slice Al nl cl], .int .u16 a, .int .u16 b, .int .u8 d, .int .u8 e_] w fun e w' => e = .returned (.bool true) ∧ Ev w w' := by
 have HRD := hid (fun W (hE : Ev w W) => by have := ready_c f Ag Aw Ab Ac Al ng cg nw cw nb cb nc cc nl cl hl0 W (fun h => (hs h).ev hE); rw [hr] at this; exact this)
 clear hs hr
 obtain ⟨i0, hi0, hz0, hz1, hz2⟩ := info_parts info3
 obtain ⟨dn, rfl⟩ : ∃ dn : Nat, d = dn := ⟨d.toNat, by omega⟩
 have m9 : IntKind.i64.wrap (dn : Int) = dn := IntWalk.i64_in _ (by omega)
 have hwlen := HW.out.len
 subst hz
 obtain ⟨kx, hkx⟩ : ∃ kx : Int, kx = 0 := ⟨0, rfl⟩
 go_enter Try.func7, Try.ntmps7
 go_upto_region 1 with fail
 generalize hW0 : World.alloc w _ = W0
 have hE0 : Ev w W0 := by rw [← hW0]; exact Ev.alloc (Ev.refl _) _
 have hal := alloc1 w (.cells #[.int .i64 f.last, .slice Ag ng cg, .slice Aw 0 cw, .slice Ab nb cb, .slice Ac nc cc, .int .i64 f.ripe, .int .i64 f.late, .int .i64 f.trod, .slice Al nl cl] 26)
 rw [hW0] at hal
 have Q0 := hid hal.1
 have hs0 := hid hal.2
 clear hal hW0
 obtain ⟨y0, y1, y2, y3, y4, y5, y6, y7, y8⟩ := cells9 Q0.out
 go_cut [11] (fun v W => v = .int .i64 kx ∧ W0 = W)
 case first =>
  go_wp2_with fail
  all_goals (go_meet; exact ⟨by first | rfl | (congr 1; omega) | (simp; omega), rfl⟩)
 case rest =>
  obtain ⟨rfl, rfl⟩ := hcut
  go_upto_region 3 with fail
  generalize hW2 : World.alloc W0 _ = W2
  have hE2 : Ev W0 W2 := by rw [← hW2]; exact Ev.alloc (Ev.refl _) _
  have hal := alloc1 W0 (.cells #[.int .i64 f.last, .slice Ag ng cg, .slice Aw 0 cw, .slice Ab nb cb, .slice Ac nc cc, .int .i64 f.ripe, .int .i64 f.late, .int .i64 f.trod, .slice Al nl cl] 26)
  rw [hW2] at hal
  have HC2 := hid hal.1
  have hs2 := hid hal.2
  have Q0c := hid (hE2.heap Q0.out)
  have hEw := hE0.trans hE2
  have hlp : w.heap.size < W0.heap.size := by have := hs0.out; omega
  have hlp2 : W0.heap.size < W2.heap.size := by have := hs2.out; omega
  clear hal hW2 hE2 Q0
  generalize W0.heap.size = p at *
  clear y0 y1 y2 y3 y4 y5 y6 y7 y8
  obtain ⟨y0, y1, y2, y3, y4, y5, y6, y7, y8⟩ := cells9 HC2.out
  obtain ⟨q0, q1, q2, q3, q4, q5, q6, q7, q8⟩ := cells9 Q0c.out
  obtain ⟨f0, f1, f2, f3, f4, f5, f6, f7, f8⟩ := frz9 HC2.out
  have hlq : w.heap.size < W2.heap.size := by omega
  go_upto_region 4 with (at_builtin; refine append_any0 (enc := ics) rfl (.tmp 29) (.tmp 31) 23 rfl (p + 1) 3 i0 _ 1 8 Try.underlying23 hi0 hz0 hz1 hz2 rfl (by decide) _ 0 [] rfl (World.ownsRow_lit W2 _ 0 (by omega) (by decide) rfl) Aw 0 cw f.wet _ rfl (HW.out.ev (hEw.alloc _)) (ics_len _) (ics_one _) (by unfold maxLen; omega) (by omega) (by simp; omega) ?_; intro v' w3 hown' hgrow; have hown2 : w3.ownsRow (p + 1) 3 1 v' 0 (f.wet.flatMap ics) := (by simpa using hown'); obtain ⟨V, cx, rfl⟩ := own_form hown2; have HQP := hid ((hgrow.block p (by simp; omega) (fun e => by have e2 : some W2.heap.size = some p := e.symm; simp at e2; omega)).trans ((Ev.alloc (Ev.refl W2) _).heap HC2.out)); have H0G := hid ((hgrow.block w.heap.size (by simp; omega) (fun e => by have e2 : some W2.heap.size = some w.heap.size := e.symm; simp at e2; omega)).trans ((Ev.alloc (Ev.refl W2) _).heap Q0c.out)); have HE3 := hid (Ev.grown (hEw.alloc _) hgrow (fun k e => by have e2 : some W2.heap.size = some k := e; simp at e2; omega)); have HO2 := hid hown2; clear hown' hgrow hown2 y0 y1 y2 y3 y4 y5 y6 y7 y8 f0 f1 f2 f3 f4 f5 f6 f7 f8; obtain ⟨y0, y1, y2, y3, y4, y5, y6, y7, y8⟩ := cells9 HQP.out; obtain ⟨f0, f1, f2, f3, f4, f5, f6, f7, f8⟩ := frz9 HQP.out)
  generalize hW4 : World.setCell w3 _ _ = W4
  have HX4 := hid (show W4.heap[p]? = some (.cells #[.int .i64 f.last, .slice Ag ng cg, .slice V 0 cx, .slice Ab nb cb, .slice Ac nc cc, .int .i64 f.ripe, .int .i64 f.late, .int .i64 f.trod, .slice Al nl cl] 26 (0, 0)) from by rw [← hW4, set_heap_same HQP.out]; rfl)
  have HQ4 := hid (show W4.heap[w.heap.size]? = some (.cells #[.int .i64 f.last, .slice Ag ng cg, .slice Aw 0 cw, .slice Ab nb cb, .slice Ac nc cc, .int .i64 f.ripe, .int .i64 f.late, .int .i64 f.trod, .slice Al nl cl] 26 (0, 0)) from by rw [← hW4]; exact set_heap H0G.out (by omega))
  have HO4 := hid (show W4.ownsRow (p + 1) 3 1 (.slice V 0 cx) 0 (f.wet.flatMap ics) from by rw [← hW4]; exact own_set HO2.out HQP.out (by decide))
  have HE4 := hid (show Ev w W4 from by rw [← hW4]; exact Ev.setCell HE3.out (by simp; omega) _)
  clear hW4 HO2 HQP H0G HE3 y0 y1 y2 y3 y4 y5 y6 y7 y8 f0 f1 f2 f3 f4 f5 f6 f7 f8 q0 q1 q2 q3 q4 q5 q6 q7 q8 HC2 Q0c hEw
  obtain ⟨y0, y1, y2, y3, y4, y5, y6, y7, y8⟩ := cells9 HX4.out
  obtain ⟨q0, q1, q2, q3, q4, q5, q6, q7, q8⟩ := cells9 HQ4.out
  go_wp2_with (first | (go_at_call 37; with_reducible refine (HRD.out _ HE4.out).mono ?_; rintro e w6 ⟨rfl, hb6⟩) | (go_at_call 14; with_reducible refine (awake_c _).mono ?_; rintro e w99 ⟨rfl, hb99⟩) | (with_reducible refine ⟨trivial, ?_⟩))
  go_ret
  exact ⟨rfl, (HE4.out.trans hb6).trans hb99⟩

set_option maxRecDepth 100000 in
set_option maxHeartbeats 4000000 in
theorem cropMore_no1 (f : M.Cf) (Ag Aw Ab Ac Al : Option Addr) (ng cg nw cw nb cb nc cc nl cl : Nat) (hl0 : -9223372036854775808 ≤ f.last) (a b d e_ : Int) (a0 : 0 ≤ a) (a1 : a < 65536) (b0 : 0 ≤ b) (b1 : b < 65536) (d0 : 0 ≤ d) (d1 : d < 256) (e0_ : 0 ≤ e_) (e1_ : e_ < 256) (hnw44 : nw ≤ 17592186044416) (w : World) (HW : Hid (Sl0 ics 1 w w.heap.size Aw nw f.wet)) (hs : M.small ng nw nb nc nl → CS w w.heap.size f Ag Aw Ab Ac Al ng cg nw cw nb cb nc cc nl cl) (hr : M.rdy f ng nw nb nc nl = false) (hz : 0 < nw) :
  Calls Try.prog 7 #[.agg #[.int .i64 f.last, .slice Ag ng cg, .slice Aw nw cw, .slice Ab nb cb, .slice Ac nc cc, .int .i64 f.ripe, .int .i64 f.late, .int .i64 f.trod, .slice Al nl cl], .int .u16 a, .int .u16 b, .int .u8 d, .int .u8 e_] w fun e w' => e = .returned (.bool true) ∧ Ev w w' := by
 have HRD := hid (fun W (hE : Ev w W) => by have := ready_c f Ag Aw Ab Ac Al ng cg nw cw nb cb nc cc nl cl hl0 W (fun h => (hs h).ev hE); rw [hr] at this; exact this)
 clear hr
 obtain ⟨i0, hi0, hz0, hz1, hz2⟩ := info_parts info3
 obtain ⟨dn, rfl⟩ : ∃ dn : Nat, d = dn := ⟨d.toNat, by omega⟩
 have m9 : IntKind.i64.wrap (dn : Int) = dn := IntWalk.i64_in _ (by omega)
 have hwlen := HW.out.len
 have j0 : ¬ ((nw : Int) = 0) := by omega
 have j0' : ¬ (nw = 0) := by omega
 have j1 : (dn : Int).tmod nw = ((dn % nw : Nat) : Int) := by rw [Int.tmod_eq_emod_of_nonneg (by omega)]; exact (Int.natCast_emod dn nw).symm
 have j2 : (dn : Int) % nw = ((dn % nw : Nat) : Int) := (Int.natCast_emod dn nw).symm
 have j3 : dn % nw < nw := Nat.mod_lt _ (by omega)
 generalize dn % nw = kx at j1 j2 j3
 have j4 : IntKind.i64.wrap (kx : Int) = kx := IntWalk.i64_in _ (by omega)
 have j5 : (1 : Int) ≤ nw := by omega
 have j6 : ¬ ((nw : Int) < 1) := by omega
 go_enter Try.func7, Try.ntmps7
 go_upto_region 1 with fail
 generalize hW0 : World.alloc w _ = W0
 have hE0 : Ev w W0 := by rw [← hW0]; exact Ev.alloc (Ev.refl _) _
 have hal := alloc1 w (.cells #[.int .i64 f.last, .slice Ag ng cg, .slice Aw nw cw, .slice Ab nb cb, .slice Ac nc cc, .int .i64 f.ripe, .int .i64 f.late, .int .i64 f.trod, .slice Al nl cl] 26)
 rw [hW0] at hal
 have Q0 := hid hal.1
 have hs0 := hid hal.2
 clear hal hW0
 obtain ⟨y0, y1, y2, y3, y4, y5, y6, y7, y8⟩ := cells9 Q0.out
 go_cut [11] (fun v W => v = .int .i64 kx ∧ W0 = W)
 case first =>
  go_wp2_with fail
  all_goals (go_meet; exact ⟨by first | rfl | (congr 1; omega) | (simp; omega), rfl⟩)
 case rest =>
  obtain ⟨rfl, rfl⟩ := hcut
  go_upto_region 3 with fail
  generalize hW2 : World.alloc W0 _ = W2
  have hE2 : Ev W0 W2 := by rw [← hW2]; exact Ev.alloc (Ev.refl _) _
  have hal := alloc1 W0 (.cells #[.int .i64 f.last, .slice Ag ng cg, .slice Aw nw cw, .slice Ab nb cb, .slice Ac nc cc, .int .i64 f.ripe, .int .i64 f.late, .int .i64 f.trod, .slice Al nl cl] 26)
  rw [hW2] at hal
  have HC2 := hid hal.1
  have hs2 := hid hal.2
  have Q0c := hid (hE2.heap Q0.out)
  have hEw := hE0.trans hE2
  have hlp : w.heap.size < W0.heap.size := by have := hs0.out; omega
  have hlp2 : W0.heap.size < W2.heap.size := by have := hs2.out; omega
  clear hal hW2 hE2 Q0
  generalize W0.heap.size = p at *
  clear y0 y1 y2 y3 y4 y5 y6 y7 y8
  obtain ⟨y0, y1, y2, y3, y4, y5, y6, y7, y8⟩ := cells9 HC2.out
  obtain ⟨q0, q1, q2, q3, q4, q5, q6, q7, q8⟩ := cells9 Q0c.out
  obtain ⟨f0, f1, f2, f3, f4, f5, f6, f7, f8⟩ := frz9 HC2.out
  have hlq : w.heap.size < W2.heap.size := by omega
  go_upto_region 4 with (at_builtin; refine append_any0 (enc := ics) rfl (.tmp 29) (.tmp 31) 23 rfl (p + 1) 3 i0 _ 1 8 Try.underlying23 hi0 hz0 hz1 hz2 rfl (by decide) _ 0 [] rfl (World.ownsRow_lit W2 _ 0 (by omega) (by decide) rfl) Aw nw cw f.wet _ rfl (HW.out.ev (hEw.alloc _)) (ics_len _) (ics_one _) (by unfold maxLen; omega) (by omega) (by simp; omega) ?_; intro v' w3 hown' hgrow; have hown2 : w3.ownsRow (p + 1) 3 1 v' nw (f.wet.flatMap ics) := (by simpa using hown'); obtain ⟨V, cx, rfl⟩ := own_form hown2; have HQP := hid ((hgrow.block p (by simp; omega) (fun e => by have e2 : some W2.heap.size = some p := e.symm; simp at e2; omega)).trans ((Ev.alloc (Ev.refl W2) _).heap HC2.out)); have H0G := hid ((hgrow.block w.heap.size (by simp; omega) (fun e => by have e2 : some W2.heap.size = some w.heap.size := e.symm; simp at e2; omega)).trans ((Ev.alloc (Ev.refl W2) _).heap Q0c.out)); have HE3 := hid (Ev.grown (hEw.alloc _) hgrow (fun k e => by have e2 : some W2.heap.size = some k := e; simp at e2; omega)); have HO2 := hid hown2; clear hown' hgrow hown2 y0 y1 y2 y3 y4 y5 y6 y7 y8 f0 f1 f2 f3 f4 f5 f6 f7 f8; obtain ⟨y0, y1, y2, y3, y4, y5, y6, y7, y8⟩ := cells9 HQP.out; obtain ⟨f0, f1, f2, f3, f4, f5, f6, f7, f8⟩ := frz9 HQP.out)
  generalize hW4 : World.setCell w3 _ _ = W4
  have HX4 := hid (show W4.heap[p]? = some (.cells #[.int .i64 f.last, .slice Ag ng cg, .slice V nw cx, .slice Ab nb cb, .slice Ac nc cc, .int .i64 f.ripe, .int .i64 f.late, .int .i64 f.trod, .slice Al nl cl] 26 (0, 0)) from by rw [← hW4, set_heap_same HQP.out]; rfl)
  have HQ4 := hid (show W4.heap[w.heap.size]? = some (.cells #[.int .i64 f.last, .slice Ag ng cg, .slice Aw nw cw, .slice Ab nb cb, .slice Ac nc cc, .int .i64 f.ripe, .int .i64 f.late, .int .i64 f.trod, .slice Al nl cl] 26 (0, 0)) from by rw [← hW4]; exact set_heap H0G.out (by omega))
  have HO4 := hid (show W4.ownsRow (p + 1) 3 1 (.slice V nw cx) nw (f.wet.flatMap ics) from by rw [← hW4]; exact own_set HO2.out HQP.out (by decide))
  have HE4 := hid (show Ev w W4 from by rw [← hW4]; exact Ev.setCell HE3.out (by simp; omega) _)
  clear hW4 HO2 HQP H0G HE3 y0 y1 y2 y3 y4 y5 y6 y7 y8 f0 f1 f2 f3 f4 f5 f6 f7 f8 q0 q1 q2 q3 q4 q5 q6 q7 q8 HC2 Q0c hEw
  obtain ⟨y0, y1, y2, y3, y4, y5, y6, y7, y8⟩ := cells9 HX4.out
  obtain ⟨q0, q1, q2, q3, q4, q5, q6, q7, q8⟩ := cells9 HQ4.out
  obtain ⟨gx, rfl, lgx, ltx, _, hlx, hfx, hcx⟩ := own_some HO4.out (by omega)
  have fx := hfx kx j3
  obtain ⟨vx, hvx⟩ : ∃ x, f.wet[kx]? = some x := ⟨_, List.getElem?_eq_getElem (show kx < f.wet.length by omega)⟩
  have ex := hcx kx vx hvx
  clear hfx hcx hvx
  go_upto_region 6 with fail
  generalize hW5 : World.setCell W4 _ _ = W5
  have hnx := own_neB HO4.out HX4.out (by decide)
  have hnx2 := own_neB HO4.out HQ4.out (by decide)
  have HX5 := hid (show W5.heap[p]? = some (.cells #[.int .i64 f.last, .slice Ag ng cg, .slice (some ⟨gx, 0, none⟩) nw cx, .slice Ab nb cb, .slice Ac nc cc, .int .i64 f.ripe, .int .i64 f.late, .int .i64 f.trod, .slice Al nl cl] 26 (0, 0)) from by rw [← hW5]; exact set_heap HX4.out (fun e => hnx (by rw [e]; rfl)))
  have HQ5 := hid (show W5.heap[w.heap.size]? = some (.cells #[.int .i64 f.last, .slice Ag ng cg, .slice Aw nw cw, .slice Ab nb cb, .slice Ac nc cc, .int .i64 f.ripe, .int .i64 f.late, .int .i64 f.trod, .slice Al nl cl] 26 (0, 0)) from by rw [← hW5]; exact set_heap HQ4.out (fun e => hnx2 (by rw [e]; rfl)))
  have HO5 := hid (show W5.ownsRow (p + 1) 3 1 (.slice (some ⟨gx, 0, none⟩) nw cx) nw ((f.wet.set kx 2).flatMap ics) from by rw [← hW5]; exact own_putI HO4.out kx 2)
  have HE5 := hid (show Ev w W5 from by rw [← hW5]; exact Ev.setCell HE4.out (show w.heap.size ≤ gx by omega) _)
  clear hW5 hnx hnx2 HX4 HQ4 HO4 HE4 y0 y1 y2 y3 y4 y5 y6 y7 y8 q0 q1 q2 q3 q4 q5 q6 q7 q8 fx ex
  obtain ⟨y0, y1, y2, y3, y4, y5, y6, y7, y8⟩ := cells9 HX5.out
  obtain ⟨q0, q1, q2, q3, q4, q5, q6, q7, q8⟩ := cells9 HQ5.out
  have lp5 := heap_lt HX5.out
  have lw5 := heap_lt HQ5.out
  go_wp2_with (first | (go_at_call 37; with_reducible refine (HRD.out _ HE5.out).mono ?_; rintro e w6 ⟨rfl, hb6⟩; clear y0 y1 y2 y3 y4 y5 y6 y7 y8; clear q0 q1 q2 q3 q4 q5 q6 q7 q8; obtain ⟨y0, y1, y2, y3, y4, y5, y6, y7, y8⟩ := cells9 (hb6.heap HX5.out); obtain ⟨q0, q1, q2, q3, q4, q5, q6, q7, q8⟩ := cells9 (hb6.heap HQ5.out)) | (go_at_call 14; with_reducible refine (awake_c _).mono ?_; rintro e w99 ⟨rfl, hb99⟩) | (with_reducible refine ⟨trivial, ?_⟩))
  go_ret
  exact ⟨rfl, (HE5.out.trans hb6).trans hb99⟩

set_option maxRecDepth 100000 in
set_option maxHeartbeats 4000000 in
theorem cropMore_no2 (f : M.Cf) (Ag Aw Ab Ac Al : Option Addr) (ng cg nw cw nb cb nc cc nl cl : Nat) (hl0 : -9223372036854775808 ≤ f.last) (a b d e_ : Int) (a0 : 0 ≤ a) (a1 : a < 65536) (b0 : 0 ≤ b) (b1 : b < 65536) (d0 : 0 ≤ d) (d1 : d < 256) (e0_ : 0 ≤ e_) (e1_ : e_ < 256) (hnw44 : nw ≤ 17592186044416) (w : World) (HW : Hid (Sl0 ics 1 w w.heap.size Aw nw f.wet)) (hs : M.small ng nw nb nc nl → CS w w.heap.size f Ag Aw Ab Ac Al ng cg nw cw nb cb nc cc nl cl) (hr : M.rdy f ng nw nb nc nl = true) (hz : 0 < nw) (HRX : Hid (M.rdy (M.wetF f (d.toNat % nw)) ng nw nb nc nl = false)) :
  Calls Try.prog 7 #[.agg #[.int .i64 f.last, .slice Ag ng cg, .slice Aw nw cw, .slice Ab nb cb, .slice Ac nc cc, .int .i64 f.ripe, .int .i64 f.late, .int .i64 f.trod, .slice Al nl cl], .int .u16 a, .int .u16 b, .int .u8 d, .int .u8 e_] w fun e w' => e = .returned (.bool true) ∧ Ev w w' := by
 have HRD := hid (fun W (hE : Ev w W) => by have := ready_c f Ag Aw Ab Ac Al ng cg nw cw nb cb nc cc nl cl hl0 W (fun h => (hs h).ev hE); rw [hr] at this; exact this)
 clear hr
 obtain ⟨i0, hi0, hz0, hz1, hz2⟩ := info_parts info3
 obtain ⟨dn, rfl⟩ : ∃ dn : Nat, d = dn := ⟨d.toNat, by omega⟩
 rw [show ((dn : Int)).toNat = dn from Int.toNat_natCast dn] at HRX
 have m9 : IntKind.i64.wrap (dn : Int) = dn := IntWalk.i64_in _ (by omega)
 have hwlen := HW.out.len
 have j0 : ¬ ((nw : Int) = 0) := by omega
 have j0' : ¬ (nw = 0) := by omega
 have j1 : (dn : Int).tmod nw = ((dn % nw : Nat) : Int) := by rw [Int.tmod_eq_emod_of_nonneg (by omega)]; exact (Int.natCast_emod dn nw).symm
 have j2 : (dn : Int) % nw = ((dn % nw : Nat) : Int) := (Int.natCast_emod dn nw).symm
 have j3 : dn % nw < nw := Nat.mod_lt _ (by omega)
 generalize dn % nw = kx at j1 j2 j3 HRX
 have j4 : IntKind.i64.wrap (kx : Int) = kx := IntWalk.i64_in _ (by omega)
 have j5 : (1 : Int) ≤ nw := by omega
 have j6 : ¬ ((nw : Int) < 1) := by omega
 go_enter Try.func7, Try.ntmps7
 go_upto_region 1 with fail
 generalize hW0 : World.alloc w _ = W0
 have hE0 : Ev w W0 := by rw [← hW0]; exact Ev.alloc (Ev.refl _) _
 have hal := alloc1 w (.cells #[.int .i64 f.last, .slice Ag ng cg, .slice Aw nw cw, .slice Ab nb cb, .slice Ac nc cc, .int .i64 f.ripe, .int .i64 f.late, .int .i64 f.trod, .slice Al nl cl] 26)
 rw [hW0] at hal
 have Q0 := hid hal.1
 have hs0 := hid hal.2
 clear hal hW0
 obtain ⟨y0, y1, y2, y3, y4, y5, y6, y7, y8⟩ := cells9 Q0.out
 go_cut [11] (fun v W => v = .int .i64 kx ∧ W0 = W)
 case first =>
  go_wp2_with fail
  all_goals (go_meet; exact ⟨by first | rfl | (congr 1; omega) | (simp; omega), rfl⟩)
 case rest =>
  obtain ⟨rfl, rfl⟩ := hcut
  go_upto_region 3 with fail
  generalize hW2 : World.alloc W0 _ = W2
  have hE2 : Ev W0 W2 := by rw [← hW2]; exact Ev.alloc (Ev.refl _) _
  have hal := alloc1 W0 (.cells #[.int .i64 f.last, .slice Ag ng cg, .slice Aw nw cw, .slice Ab nb cb, .slice Ac nc cc, .int .i64 f.ripe, .int .i64 f.late, .int .i64 f.trod, .slice Al nl cl] 26)
  rw [hW2] at hal
  have HC2 := hid hal.1
  have hs2 := hid hal.2
  have Q0c := hid (hE2.heap Q0.out)
  have hEw := hE0.trans hE2
  have hlp : w.heap.size < W0.heap.size := by have := hs0.out; omega
  have hlp2 : W0.heap.size < W2.heap.size := by have := hs2.out; omega
  clear hal hW2 hE2 Q0
  generalize W0.heap.size = p at *
  clear y0 y1 y2 y3 y4 y5 y6 y7 y8
  obtain ⟨y0, y1, y2, y3, y4, y5, y6, y7, y8⟩ := cells9 HC2.out
  obtain ⟨q0, q1, q2, q3, q4, q5, q6, q7, q8⟩ := cells9 Q0c.out
  obtain ⟨f0, f1, f2, f3, f4, f5, f6, f7, f8⟩ := frz9 HC2.out
  have hlq : w.heap.size < W2.heap.size := by omega
  go_upto_region 4 with (at_builtin; refine append_any0 (enc := ics) rfl (.tmp 29) (.tmp 31) 23 rfl (p + 1) 3 i0 _ 1 8 Try.underlying23 hi0 hz0 hz1 hz2 rfl (by decide) _ 0 [] rfl (World.ownsRow_lit W2 _ 0 (by omega) (by decide) rfl) Aw nw cw f.wet _ rfl (HW.out.ev (hEw.alloc _)) (ics_len _) (ics_one _) (by unfold maxLen; omega) (by omega) (by simp; omega) ?_; intro v' w3 hown' hgrow; have hown2 : w3.ownsRow (p + 1) 3 1 v' nw (f.wet.flatMap ics) := (by simpa using hown'); obtain ⟨V, cx, rfl⟩ := own_form hown2; have HQP := hid ((hgrow.block p (by simp; omega) (fun e => by have e2 : some W2.heap.size = some p := e.symm; simp at e2; omega)).trans ((Ev.alloc (Ev.refl W2) _).heap HC2.out)); have H0G := hid ((hgrow.block w.heap.size (by simp; omega) (fun e => by have e2 : some W2.heap.size = some w.heap.size := e.symm; simp at e2; omega)).trans ((Ev.alloc (Ev.refl W2) _).heap Q0c.out)); have HE3 := hid (Ev.grown (hEw.alloc _) hgrow (fun k e => by have e2 : some W2.heap.size = some k := e; simp at e2; omega)); have HO2 := hid hown2; clear hown' hgrow hown2 y0 y1 y2 y3 y4 y5 y6 y7 y8 f0 f1 f2 f3 f4 f5 f6 f7 f8; obtain ⟨y0, y1, y2, y3, y4, y5, y6, y7, y8⟩ := cells9 HQP.out; obtain ⟨f0, f1, f2, f3, f4, f5, f6, f7, f8⟩ := frz9 HQP.out)
  generalize hW4 : World.setCell w3 _ _ = W4
  have HX4 := hid (show W4.heap[p]? = some (.cells #[.int .i64 f.last, .slice Ag ng cg, .slice V nw cx, .slice Ab nb cb, .slice Ac nc cc, .int .i64 f.ripe, .int .i64 f.late, .int .i64 f.trod, .slice Al nl cl] 26 (0, 0)) from by rw [← hW4, set_heap_same HQP.out]; rfl)
  have HQ4 := hid (show W4.heap[w.heap.size]? = some (.cells #[.int .i64 f.last, .slice Ag ng cg, .slice Aw nw cw, .slice Ab nb cb, .slice Ac nc cc, .int .i64 f.ripe, .int .i64 f.late, .int .i64 f.trod, .slice Al nl cl] 26 (0, 0)) from by rw [← hW4]; exact set_heap H0G.out (by omega))
  have HO4 := hid (show W4.ownsRow (p + 1) 3 1 (.slice V nw cx) nw (f.wet.flatMap ics) from by rw [← hW4]; exact own_set HO2.out HQP.out (by decide))
  have HE4 := hid (show Ev w W4 from by rw [← hW4]; exact Ev.setCell HE3.out (by simp; omega) _)
  clear hW4 HO2 HQP H0G HE3 y0 y1 y2 y3 y4 y5 y6 y7 y8 f0 f1 f2 f3 f4 f5 f6 f7 f8 q0 q1 q2 q3 q4 q5 q6 q7 q8 HC2 Q0c hEw
  obtain ⟨y0, y1, y2, y3, y4, y5, y6, y7, y8⟩ := cells9 HX4.out
  obtain ⟨q0, q1, q2, q3, q4, q5, q6, q7, q8⟩ := cells9 HQ4.out
  obtain ⟨gx, rfl, lgx, ltx, _, hlx, hfx, hcx⟩ := own_some HO4.out (by omega)
  have fx := hfx kx j3
  obtain ⟨vx, hvx⟩ : ∃ x, f.wet[kx]? = some x := ⟨_, List.getElem?_eq_getElem (show kx < f.wet.length by omega)⟩
  have ex := hcx kx vx hvx
  clear hfx hcx hvx
  go_upto_region 6 with fail
  generalize hW5 : World.setCell W4 _ _ = W5
  have hnx := own_neB HO4.out HX4.out (by decide)
  have hnx2 := own_neB HO4.out HQ4.out (by decide)
  have HX5 := hid (show W5.heap[p]? = some (.cells #[.int .i64 f.last, .slice Ag ng cg, .slice (some ⟨gx, 0, none⟩) nw cx, .slice Ab nb cb, .slice Ac nc cc, .int .i64 f.ripe, .int .i64 f.late, .int .i64 f.trod, .slice Al nl cl] 26 (0, 0)) from by rw [← hW5]; exact set_heap HX4.out (fun e => hnx (by rw [e]; rfl)))
  have HQ5 := hid (show W5.heap[w.heap.size]? = some (.cells #[.int .i64 f.last, .slice Ag ng cg, .slice Aw nw cw, .slice Ab nb cb, .slice Ac nc cc, .int .i64 f.ripe, .int .i64 f.late, .int .i64 f.trod, .slice Al nl cl] 26 (0, 0)) from by rw [← hW5]; exact set_heap HQ4.out (fun e => hnx2 (by rw [e]; rfl)))
  have HO5 := hid (show W5.ownsRow (p + 1) 3 1 (.slice (some ⟨gx, 0, none⟩) nw cx) nw ((f.wet.set kx 2).flatMap ics) from by rw [← hW5]; exact own_putI HO4.out kx 2)
  have HE5 := hid (show Ev w W5 from by rw [← hW5]; exact Ev.setCell HE4.out (show w.heap.size ≤ gx by omega) _)
  clear hW5 hnx hnx2 HX4 HQ4 HO4 HE4 y0 y1 y2 y3 y4 y5 y6 y7 y8 q0 q1 q2 q3 q4 q5 q6 q7 q8 fx ex
  obtain ⟨y0, y1, y2, y3, y4, y5, y6, y7, y8⟩ := cells9 HX5.out
  obtain ⟨q0, q1, q2, q3, q4, q5, q6, q7, q8⟩ := cells9 HQ5.out
  have lp5 := heap_lt HX5.out
  have lw5 := heap_lt HQ5.out
  have HSX := hid (fun (h : M.small ng nw nb nc nl) => (show CS W5 W5.heap.size (M.wetF f kx) Ag (some ⟨gx, 0, none⟩) Ab Ac Al ng cg nw cx nb cb nc cc nl cl from ⟨((hs h).ev HE5.out).g, sl_own (enc := ics) (by decide) (ics_len _) (by have := h.2.1; omega) HO5.out, ((hs h).ev HE5.out).b, ((hs h).ev HE5.out).c, ((hs h).ev HE5.out).l⟩))
  have HRY := hid (fun W (hE : Ev W5 W) => by have := readyW_c f kx Ag (some ⟨gx, 0, none⟩) Ab Ac Al ng cg nw cx nb cb nc cc nl cl hl0 W (fun h => (HSX.out h).ev hE); rw [HRX.out] at this; exact this)
  clear HSX hs
  go_wp2_with (first | (go_at_call 37; with_reducible refine (HRD.out _ HE5.out).mono ?_; rintro e w6 ⟨rfl, hb6⟩; clear y0 y1 y2 y3 y4 y5 y6 y7 y8; clear q0 q1 q2 q3 q4 q5 q6 q7 q8; obtain ⟨y0, y1, y2, y3, y4, y5, y6, y7, y8⟩ := cells9 (hb6.heap HX5.out); obtain ⟨q0, q1, q2, q3, q4, q5, q6, q7, q8⟩ := cells9 (hb6.heap HQ5.out)) | (go_at_call 37; with_reducible refine (HRY.out _ hb6).mono ?_; rintro e w7 ⟨rfl, hb7⟩) | (go_at_call 14; with_reducible refine (awake_c _).mono ?_; rintro e w99 ⟨rfl, hb99⟩) | (with_reducible refine ⟨trivial, ?_⟩))
  go_ret
  exact ⟨rfl, ((HE5.out.trans hb6).trans hb7).trans hb99⟩

set_option maxRecDepth 1000000 in
set_option maxHeartbeats 8000000 in
theorem cropMore_yes (f : M.Cf) (Ag Aw Ab Ac Al : Option Addr) (ng cg nw cw nb cb nc cc nl cl : Nat) (hl0 : -9223372036854775808 ≤ f.last) (a b d e_ : Int) (a0 : 0 ≤ a) (a1 : a < 65536) (b0 : 0 ≤ b) (b1 : b < 65536) (d0 : 0 ≤ d) (d1 : d < 256) (e0_ : 0 ≤ e_) (e1_ : e_ < 256) (hnw44 : nw ≤ 17592186044416) (w : World) (HW : Hid (Sl0 ics 1 w w.heap.size Aw nw f.wet)) (HCS : Hid (CS w w.heap.size f Ag Aw Ab Ac Al ng cg nw cw nb cb nc cc nl cl)) (hsm : M.small ng nw nb nc nl) (h0 : M.check f = 0) (hr : M.rdy f ng nw nb nc nl = true) (hz : 0 < nw) (hrx : M.rdy (M.wetF f (d.toNat % nw)) ng nw nb nc nl = true) (h0x : M.check (M.wetF f (d.toNat % nw)) = 0) :
  Calls Try.prog 7 #[.agg #[.int .i64 f.last, .slice Ag ng cg, .slice Aw nw cw, .slice Ab nb cb, .slice Ac nc cc, .int .i64 f.ripe, .int .i64 f.late, .int .i64 f.trod, .slice Al nl cl], .int .u16 a, .int .u16 b, .int .u8 d, .int .u8 e_] w fun e w' => e = .returned (.bool true) ∧ Ev w w' := by
 obtain ⟨s0, s1, s2, s3, s4⟩ := hsm
 have hs : M.small ng nw nb nc nl → CS w w.heap.size f Ag Aw Ab Ac Al ng cg nw cw nb cb nc cc nl cl := fun _ => HCS.out
 have HRD := hid (fun W (hE : Ev w W) => by have := ready_c f Ag Aw Ab Ac Al ng cg nw cw nb cb nc cc nl cl hl0 W (fun h => (hs h).ev hE); rw [hr] at this; exact this)
 clear hr
 obtain ⟨i0, hi0, hz0, hz1, hz2⟩ := info_parts info3
 obtain ⟨dn, rfl⟩ : ∃ dn : Nat, d = dn := ⟨d.toNat, by omega⟩
 rw [show ((dn : Int)).toNat = dn from Int.toNat_natCast dn] at hrx h0x
 have m9 : IntKind.i64.wrap (dn : Int) = dn := IntWalk.i64_in _ (by omega)
 have hwlen := HW.out.len
 have j0 : ¬ ((nw : Int) = 0) := by omega
 have j0' : ¬ (nw = 0) := by omega
 have j1 : (dn : Int).tmod nw = ((dn % nw : Nat) : Int) := by rw [Int.tmod_eq_emod_of_nonneg (by omega)]; exact (Int.natCast_emod dn nw).symm
 have j2 : (dn : Int) % nw = ((dn % nw : Nat) : Int) := (Int.natCast_emod dn nw).symm
 have j3 : dn % nw < nw := Nat.mod_lt _ (by omega)
 generalize dn % nw = kx at j1 j2 j3 hrx h0x
 have j4 : IntKind.i64.wrap (kx : Int) = kx := IntWalk.i64_in _ (by omega)
 have j5 : (1 : Int) ≤ nw := by omega
 have j6 : ¬ ((nw : Int) < 1) := by omega
 go_enter Try.func7, Try.ntmps7
 go_upto_region 1 with fail
 generalize hW0 : World.alloc w _ = W0
 have hE0 : Ev w W0 := by rw [← hW0]; exact Ev.alloc (Ev.refl _) _
 have hal := alloc1 w (.cells #[.int .i64 f.last, .slice Ag ng cg, .slice Aw nw cw, .slice Ab nb cb, .slice Ac nc cc, .int .i64 f.ripe, .int .i64 f.late, .int .i64 f.trod, .slice Al nl cl] 26)
 rw [hW0] at hal
 have Q0 := hid hal.1
 have hs0 := hid hal.2
 clear hal hW0
 obtain ⟨y0, y1, y2, y3, y4, y5, y6, y7, y8⟩ := cells9 Q0.out
 go_cut [11] (fun v W => v = .int .i64 kx ∧ W0 = W)
 case first =>
  go_wp2_with fail
  all_goals (go_meet; exact ⟨by first | rfl | (congr 1; omega) | (simp; omega), rfl⟩)
 case rest =>
  obtain ⟨rfl, rfl⟩ := hcut
  go_upto_region 3 with fail
  generalize hW2 : World.alloc W0 _ = W2
  have hE2 : Ev W0 W2 := by rw [← hW2]; exact Ev.alloc (Ev.refl _) _
  have hal := alloc1 W0 (.cells #[.int .i64 f.last, .slice Ag ng cg, .slice Aw nw cw, .slice Ab nb cb, .slice Ac nc cc, .int .i64 f.ripe, .int .i64 f.late, .int .i64 f.trod, .slice Al nl cl] 26)
  rw [hW2] at hal
  have HC2 := hid hal.1
  have hs2 := hid hal.2
  have Q0c := hid (hE2.heap Q0.out)
  have hEw := hE0.trans hE2
  have hlp : w.heap.size < W0.heap.size := by have := hs0.out; omega
  have hlp2 : W0.heap.size < W2.heap.size := by have := hs2.out; omega
  clear hal hW2 hE2 Q0
  generalize W0.heap.size = p at *
  clear y0 y1 y2 y3 y4 y5 y6 y7 y8
  obtain ⟨y0, y1, y2, y3, y4, y5, y6, y7, y8⟩ := cells9 HC2.out
  obtain ⟨q0, q1, q2, q3, q4, q5, q6, q7, q8⟩ := cells9 Q0c.out
  obtain ⟨f0, f1, f2, f3, f4, f5, f6, f7, f8⟩ := frz9 HC2.out
  have hlq : w.heap.size < W2.heap.size := by omega
  go_upto_region 4 with (at_builtin; refine append_any0 (enc := ics) rfl (.tmp 29) (.tmp 31) 23 rfl (p + 1) 3 i0 _ 1 8 Try.underlying23 hi0 hz0 hz1 hz2 rfl (by decide) _ 0 [] rfl (World.ownsRow_lit W2 _ 0 (by omega) (by decide) rfl) Aw nw cw f.wet _ rfl (HW.out.ev (hEw.alloc _)) (ics_len _) (ics_one _) (by unfold maxLen; omega) (by omega) (by simp; omega) ?_; intro v' w3 hown' hgrow; have hown2 : w3.ownsRow (p + 1) 3 1 v' nw (f.wet.flatMap ics) := (by simpa using hown'); obtain ⟨V, cx, rfl⟩ := own_form hown2; have HQP := hid ((hgrow.block p (by simp; omega) (fun e => by have e2 : some W2.heap.size = some p := e.symm; simp at e2; omega)).trans ((Ev.alloc (Ev.refl W2) _).heap HC2.out)); have H0G := hid ((hgrow.block w.heap.size (by simp; omega) (fun e => by have e2 : some W2.heap.size = some w.heap.size := e.symm; simp at e2; omega)).trans ((Ev.alloc (Ev.refl W2) _).heap Q0c.out)); have HE3 := hid (Ev.grown (hEw.alloc _) hgrow (fun k e => by have e2 : some W2.heap.size = some k := e; simp at e2; omega)); have HO2 := hid hown2; clear hown' hgrow hown2 y0 y1 y2 y3 y4 y5 y6 y7 y8 f0 f1 f2 f3 f4 f5 f6 f7 f8; obtain ⟨y0, y1, y2, y3, y4, y5, y6, y7, y8⟩ := cells9 HQP.out; obtain ⟨f0, f1, f2, f3, f4, f5, f6, f7, f8⟩ := frz9 HQP.out)
  generalize hW4 : World.setCell w3 _ _ = W4
  have HX4 := hid (show W4.heap[p]? = some (.cells #[.int .i64 f.last, .slice Ag ng cg, .slice V nw cx, .slice Ab nb cb, .slice Ac nc cc, .int .i64 f.ripe, .int .i64 f.late, .int .i64 f.trod, .slice Al nl cl] 26 (0, 0)) from by rw [← hW4, set_heap_same HQP.out]; rfl)
  have HQ4 := hid (show W4.heap[w.heap.size]? = some (.cells #[.int .i64 f.last, .slice Ag ng cg, .slice Aw nw cw, .slice Ab nb cb, .slice Ac nc cc, .int .i64 f.ripe, .int .i64 f.late, .int .i64 f.trod, .slice Al nl cl] 26 (0, 0)) from by rw [← hW4]; exact set_heap H0G.out (by omega))
  have HO4 := hid (show W4.ownsRow (p + 1) 3 1 (.slice V nw cx) nw (f.wet.flatMap ics) from by rw [← hW4]; exact own_set HO2.out HQP.out (by decide))
  have HE4 := hid (show Ev w W4 from by rw [← hW4]; exact Ev.setCell HE3.out (by simp; omega) _)
  clear hW4 HO2 HQP H0G HE3 y0 y1 y2 y3 y4 y5 y6 y7 y8 f0 f1 f2 f3 f4 f5 f6 f7 f8 q0 q1 q2 q3 q4 q5 q6 q7 q8 HC2 Q0c hEw
  obtain ⟨y0, y1, y2, y3, y4, y5, y6, y7, y8⟩ := cells9 HX4.out
  obtain ⟨q0, q1, q2, q3, q4, q5, q6, q7, q8⟩ := cells9 HQ4.out
  obtain ⟨gx, rfl, lgx, ltx, _, hlx, hfx, hcx⟩ := own_some HO4.out (by omega)
  have fx := hfx kx j3
  obtain ⟨vx, hvx⟩ : ∃ x, f.wet[kx]? = some x := ⟨_, List.getElem?_eq_getElem (show kx < f.wet.length by omega)⟩
  have ex := hcx kx vx hvx
  clear hfx hcx hvx
  go_upto_region 6 with fail
  generalize hW5 : World.setCell W4 _ _ = W5
  have hnx := own_neB HO4.out HX4.out (by decide)
  have hnx2 := own_neB HO4.out HQ4.out (by decide)
  have HX5 := hid (show W5.heap[p]? = some (.cells #[.int .i64 f.last, .slice Ag ng cg, .slice (some ⟨gx, 0, none⟩) nw cx, .slice Ab nb cb, .slice Ac nc cc, .int .i64 f.ripe, .int .i64 f.late, .int .i64 f.trod, .slice Al nl cl] 26 (0, 0)) from by rw [← hW5]; exact set_heap HX4.out (fun e => hnx (by rw [e]; rfl)))
  have HQ5 := hid (show W5.heap[w.heap.size]? = some (.cells #[.int .i64 f.last, .slice Ag ng cg, .slice Aw nw cw, .slice Ab nb cb, .slice Ac nc cc, .int .i64 f.ripe, .int .i64 f.late, .int .i64 f.trod, .slice Al nl cl] 26 (0, 0)) from by rw [← hW5]; exact set_heap HQ4.out (fun e => hnx2 (by rw [e]; rfl)))
  have HO5 := hid (show W5.ownsRow (p + 1) 3 1 (.slice (some ⟨gx, 0, none⟩) nw cx) nw ((f.wet.set kx 2).flatMap ics) from by rw [← hW5]; exact own_putI HO4.out kx 2)
  have HE5 := hid (show Ev w W5 from by rw [← hW5]; exact Ev.setCell HE4.out (show w.heap.size ≤ gx by omega) _)
  clear hW5 hnx hnx2 HX4 HQ4 HO4 HE4 y0 y1 y2 y3 y4 y5 y6 y7 y8 q0 q1 q2 q3 q4 q5 q6 q7 q8 fx ex
  obtain ⟨y0, y1, y2, y3, y4, y5, y6, y7, y8⟩ := cells9 HX5.out
  obtain ⟨q0, q1, q2, q3, q4, q5, q6, q7, q8⟩ := cells9 HQ5.out
  have lp5 := heap_lt HX5.out
  have lw5 := heap_lt HQ5.out
  have HSX := hid ((fun (h : M.small ng nw nb nc nl) => (show CS W5 W5.heap.size (M.wetF f kx) Ag (some ⟨gx, 0, none⟩) Ab Ac Al ng cg nw cx nb cb nc cc nl cl from ⟨((hs h).ev HE5.out).g, sl_own (enc := ics) (by decide) (ics_len _) (by have := h.2.1; omega) HO5.out, ((hs h).ev HE5.out).b, ((hs h).ev HE5.out).c, ((hs h).ev HE5.out).l⟩)) ⟨s0, s1, s2, s3, s4⟩)
  have HRY := hid (fun W (hE : Ev W5 W) => by have := readyW_c f kx Ag (some ⟨gx, 0, none⟩) Ab Ac Al ng cg nw cx nb cb nc cc nl cl hl0 W (fun h => HSX.out.ev hE); rw [hrx] at this; exact this)
  have hvx := (M.check_ok h0x).1
  have hl9 : f.last ≤ 9 := (M.check0 h0x).1
  have hv := (M.check_ok h0).1
  have hb3 := (M.check0 h0).2.1
  obtain ⟨hmn, hm2⟩ := M.many_nat h0x
  have hm1 := M.many_pos hvx
  generalize M.prodN (M.wetF f kx).gr (M.wetF f kx).wet = mn at hmn hm2
  have hbl := HCS.out.b.len
  have hgl := HCS.out.g.len
  have hvl := (M.valid_parts hv).2.1
  have hng0 : 0 < ng := by have := (M.valid_parts hv).1; omega
  have hnw0 : 0 < nw := hz
  have hkg : kx < ng := by have := (M.valid_parts hv).2.2.2.1; omega
  obtain ⟨an, rfl⟩ : ∃ an : Nat, a = an := ⟨a.toNat, by omega⟩
  obtain ⟨en, rfl⟩ : ∃ en : Nat, e_ = en := ⟨e_.toNat, by omega⟩
  have HMN := hid (fun W (hE : Ev W5 W) => by have := ManyW_c f kx Ag (some ⟨gx, 0, none⟩) Ab Ac Al ng cg nw cx nb cb nc cc nl cl (M.weeks_eq hvx) (M.gr_le hvx) (M.wet_le hvx) W (HSX.out.ev hE); rw [hmn] at this; exact this)
  have hq2 : an % mn ≤ 1000000 := by have := Nat.mod_lt an (show 0 < mn by omega); omega
  have HNT := hid (fun W (hE : Ev W5 W) => NthW_c f kx Ag (some ⟨gx, 0, none⟩) Ab Ac Al ng cg nw cx nb cb nc cc nl cl hvx hl9 (an % mn) hq2 W (HSX.out.ev hE))
  have hls := M.nth_listed hvx (an % mn)
  generalize M.nth (M.wetF f kx) (an % mn) = t at HNT hls
  have htl := M.listed_len hvx hls
  have HPN := hid (fun W => planned_c f Ag Aw Ab Ac Al ng cg nw cw nb cb nc cc nl cl hv hl9 b b0 b1 W hbl (by omega))
  have m0 : ¬ ((mn : Int) = 0) := by omega
  have m0' : ¬ (mn = 0) := by omega
  have m1 : (an : Int).tmod mn = ((an % mn : Nat) : Int) := by rw [Int.tmod_eq_emod_of_nonneg (by omega)]; exact (Int.natCast_emod an mn).symm
  have m2 : (an : Int) % mn = ((an % mn : Nat) : Int) := (Int.natCast_emod an mn).symm
  generalize an % mn = aq at HNT m1 m2 hq2
  have m3 : IntKind.i64.wrap (an : Int) = an := IntWalk.i64_in _ (by omega)
  have m4 : IntKind.i64.wrap (aq : Int) = aq := IntWalk.i64_in _ (by omega)
  have HTL := hid (show (t.gr.length : Int) = f.last + 1 ∧ (t.wet.length : Int) = f.last + 1 from htl)
  have HVX := hid (show ((M.wetF f kx).gr.length : Int) = f.last + 1 ∧ ((M.wetF f kx).wet.length : Int) = f.last + 1 from ⟨(M.valid_parts hvx).2.1, (M.valid_parts hvx).2.2.2.1⟩)
  have HGLn := hid (And.intro hgl hvl)
  clear hmn htl hs hrx hwlen hgl hvl
  go_upto_region 8 with (first | (go_at_call 37; with_reducible refine (HRD.out _ HE5.out).mono ?_; rintro e w6 ⟨rfl, hb6⟩; clear y0 y1 y2 y3 y4 y5 y6 y7 y8; clear q0 q1 q2 q3 q4 q5 q6 q7 q8; obtain ⟨y0, y1, y2, y3, y4, y5, y6, y7, y8⟩ := cells9 (hb6.heap HX5.out); obtain ⟨q0, q1, q2, q3, q4, q5, q6, q7, q8⟩ := cells9 (hb6.heap HQ5.out)) | (go_at_call 37; with_reducible refine (HRY.out _ hb6).mono ?_; rintro e w7 ⟨rfl, hb7⟩) | (with_reducible refine ⟨trivial, ?_⟩))
  have hX7 : Ev W5 w7 := hb6.trans hb7
  clear y0 y1 y2 y3 y4 y5 y6 y7 y8
  clear q0 q1 q2 q3 q4 q5 q6 q7 q8
  obtain ⟨y0, y1, y2, y3, y4, y5, y6, y7, y8⟩ := cells9 (hX7.heap HX5.out)
  have lp7 : p < w7.heap.size := heap_lt (hX7.heap HX5.out)
  have HSE : Hid (∀ w', Ev w7 w' → (∀ o, w'.cell? ⟨p, o, none⟩ = w7.cell? ⟨p, o, none⟩)) := hid (fun w' h => fun o => h.cells.1 _ o lp7)
  go_cut [13] (fun v W => ∃ (q gB gD dg dw : Nat), v = .pointer (some ⟨q, 0, none⟩) ∧ w7.heap.size ≤ q ∧ Ev w7 W ∧ Hid (W.heap[q]? = some (.cells #[.slice (some ⟨gB, 0, none⟩) ng dg, .slice (some ⟨gD, 0, none⟩) nw dw] 28 (0, 0))) ∧ Hid (W.ownsRow 0 3 1 (.slice (some ⟨gB, 0, none⟩) ng dg) ng (t.gr.flatMap ics)) ∧ Hid (W.ownsRow 0 3 1 (.slice (some ⟨gD, 0, none⟩) nw dw) nw (t.wet.flatMap ics)))
  case first =>
   as_aux_lemma =>
    refine wp_region_held_drew (S := fun w' => (∀ o, w'.cell? ⟨p, o, none⟩ = w7.cell? ⟨p, o, none⟩)) (by kernel_rfl) (fun o => rfl) (fun hHeld => ?_)
    refine tkH 0 (some 51) ?_
    (try simp only [Act.put, sA, sB, sC])
    refine tkH 1 (some 52) ?_
    (try simp only [Act.put, sA, sB, sC])
    refine tkH 2 (some 53) ?_
    (try simp only [Act.put, sA, sB, sC])
    refine tkH 3 (some 54) ?_
    (try simp only [Act.put, sA, sB, sC])
    refine wpAnyH_ready (rs := [4, 7]) (by kernel_rfl) (by simp) ?_
    refine AllReadyH.cons rfl (fun K hK => ?_) (AllReadyH.cons rfl (fun K hK => ?_) (AllReadyH.nil))
    ·
     go_simp
     refine (HMN.out _ (hX7.trans (Ev.drew (Ev.refl _)))).mono ?_
     rintro e z1 ⟨rfl, hb1⟩
     have hy1 : Ev w7 z1 := Ev.trans (Ev.drew (Ev.refl _)) hb1
     have hz1 := hid (And.intro hb1.size hy1.size)
     refine hK.out _ _ (HSE.out _ hy1) (fun hHeld => ?_)
     clear hK K
     (try simp only [Act.put, sA, sB, sC])
     refine tkH 5 (some 56) ?_
     (try simp only [Act.put, sA, sB, sC])
     refine wpAnyH_ready (rs := [6, 7]) (by kernel_rfl) (by simp) ?_
     refine AllReadyH.cons rfl (fun K hK => ?_) (AllReadyH.cons rfl (fun K hK => ?_) (AllReadyH.nil))
     ·
      go_simp
      refine (HNT.out _ (hX7.trans hy1)).mono ?_
      rintro e z2 ⟨⟨Bg, dg, Bw, dw, rfl, ho1, ho2, hapT⟩, hb2⟩
      have hy2 : Ev w7 z2 := Ev.trans hy1 hb2
      have hz2 := hid (And.intro hb2.size hy2.size)
      obtain ⟨gB, rfl, lB, lB2, _⟩ := own_some ho1 hng0
      obtain ⟨gD, rfl, lD, lD2, _⟩ := own_some ho2 hnw0
      refine hK.out _ _ (HSE.out _ hy2) (fun hHeld => ?_)
      clear hK K
      (try simp only [Act.put, sA, sB, sC])
      refine wpAnyH_one (i := 7) rfl (by kernel_rfl) (by rfl) (fun K hK => ?_)
      go_simp
      generalize hWp1 : World.alloc z2 _ = Wp1
      have hal := alloc1 z2 (.cells #[.slice none 0 0, .slice none 0 0] 28)
      have hbp1 : Ev z2 Wp1 := by rw [← hWp1]; exact Ev.alloc (Ev.refl _) _
      have hqp1 := hal.1
      rw [hWp1] at hqp1
      have hxp1 : Ev w7 Wp1 := hy2.trans hbp1
      have hzp1 := hid (And.intro (show Wp1.heap.size = z2.heap.size + 1 from by rw [← hWp1]; exact hal.2) hxp1.size)
      clear hal hWp1
      refine hK.out _ _ (HSE.out _ hxp1) (fun hHeld => ?_)
      clear hK K
      (try simp only [Act.put, sA, sB, sC])
      refine wpAnyH_one (i := 8) rfl (by kernel_rfl) (by rfl) (fun K hK => ?_)
      have HQA := hid hqp1
      have HO1 := hid (own_base (ho1.ev hbp1) (Nat.zero_le _))
      have HO2 := hid (own_base (ho2.ev hbp1) (Nat.zero_le _))
      have hl1 : w7.heap.size ≤ z2.heap.size := by have := hz1.out; have := hz2.out; have := hzp1.out; omega
      have hnp : p ≠ z2.heap.size := by omega
      obtain ⟨u0, u1⟩ := cells2 HQA.out
      obtain ⟨v0, v1⟩ := frz2 HQA.out
      go_simp
      generalize hX1 : World.setCell (World.setCell Wp1 _ _) _ _ = X1
      have hEX : Ev w7 X1 := by rw [← hX1]; exact Ev.setCell (Ev.setCell hxp1 hl1 _) hl1 _
      have HP1 := hid (show X1.heap[z2.heap.size]? = some (.cells #[.slice (some ⟨gB, 0, none⟩) ng dg, .slice (some ⟨gD, 0, none⟩) nw dw] 28 (0, 0)) from by rw [← hX1]; exact set2 HQA.out)
      have HO1x := hid (own_set (j := 1) (u := (.slice (some ⟨gD, 0, none⟩) nw dw : Value)) (own_set (j := 0) (u := (.slice (some ⟨gB, 0, none⟩) ng dg : Value)) HO1.out HQA.out (by decide)) (set_heap_same HQA.out) (by decide))
      rw [hX1] at HO1x
      have HO2x := hid (own_set (j := 1) (u := (.slice (some ⟨gD, 0, none⟩) nw dw : Value)) (own_set (j := 0) (u := (.slice (some ⟨gB, 0, none⟩) ng dg : Value)) HO2.out HQA.out (by decide)) (set_heap_same HQA.out) (by decide))
      rw [hX1] at HO2x
      clear hX1 u0 u1 v0 v1 HQA HO1 HO2
      refine hK.out _ _ (HSE.out _ hEX) (fun hHeld => ?_)
      clear hK K
      (try simp only [Act.put, sA, sB, sC])
      refine wpAnyH_done (by kernel_rfl) ?_ _
      go_wp2_with fail
      go_meet
      exact ⟨z2.heap.size, gB, gD, dg, dw, rfl, hl1, hEX, HP1, HO1x, HO2x⟩
     ·
      go_simp
      generalize hWp1 : World.alloc z1 _ = Wp1
      have hal := alloc1 z1 (.cells #[.slice none 0 0, .slice none 0 0] 28)
      have hbp1 : Ev z1 Wp1 := by rw [← hWp1]; exact Ev.alloc (Ev.refl _) _
      have hqp1 := hal.1
      rw [hWp1] at hqp1
      have hxp1 : Ev w7 Wp1 := hy1.trans hbp1
      have hzp1 := hid (And.intro (show Wp1.heap.size = z1.heap.size + 1 from by rw [← hWp1]; exact hal.2) hxp1.size)
      clear hal hWp1
      refine hK.out _ _ (HSE.out _ hxp1) (fun hHeld => ?_)
      clear hK K
      (try simp only [Act.put, sA, sB, sC])
      refine wpAnyH_one (i := 6) rfl (by kernel_rfl) (by rfl) (fun K hK => ?_)
      go_simp
      refine (HNT.out _ (hX7.trans hxp1)).mono ?_
      rintro e z2 ⟨⟨Bg, dg, Bw, dw, rfl, ho1, ho2, hapT⟩, hb2⟩
      have hy2 : Ev w7 z2 := Ev.trans hxp1 hb2
      have hz2 := hid (And.intro hb2.size hy2.size)
      obtain ⟨gB, rfl, lB, lB2, _⟩ := own_some ho1 hng0
      obtain ⟨gD, rfl, lD, lD2, _⟩ := own_some ho2 hnw0
      refine hK.out _ _ (HSE.out _ hy2) (fun hHeld => ?_)
      clear hK K
      (try simp only [Act.put, sA, sB, sC])
      refine wpAnyH_one (i := 8) rfl (by kernel_rfl) (by rfl) (fun K hK => ?_)
      have HQA := hid (hb2.heap hqp1)
      have HO1 := hid (own_base ho1 (Nat.zero_le _))
      have HO2 := hid (own_base ho2 (Nat.zero_le _))
      have hl1 : w7.heap.size ≤ z1.heap.size := by have := hz1.out; have := hzp1.out; have := hz2.out; omega
      have hnp : p ≠ z1.heap.size := by omega
      obtain ⟨u0, u1⟩ := cells2 HQA.out
      obtain ⟨v0, v1⟩ := frz2 HQA.out
      go_simp
      generalize hX1 : World.setCell (World.setCell z2 _ _) _ _ = X1
      have hEX : Ev w7 X1 := by rw [← hX1]; exact Ev.setCell (Ev.setCell hy2 hl1 _) hl1 _
      have HP1 := hid (show X1.heap[z1.heap.size]? = some (.cells #[.slice (some ⟨gB, 0, none⟩) ng dg, .slice (some ⟨gD, 0, none⟩) nw dw] 28 (0, 0)) from by rw [← hX1]; exact set2 HQA.out)
      have HO1x := hid (own_set (j := 1) (u := (.slice (some ⟨gD, 0, none⟩) nw dw : Value)) (own_set (j := 0) (u := (.slice (some ⟨gB, 0, none⟩) ng dg : Value)) HO1.out HQA.out (by decide)) (set_heap_same HQA.out) (by decide))
      rw [hX1] at HO1x
      have HO2x := hid (own_set (j := 1) (u := (.slice (some ⟨gD, 0, none⟩) nw dw : Value)) (own_set (j := 0) (u := (.slice (some ⟨gB, 0, none⟩) ng dg : Value)) HO2.out HQA.out (by decide)) (set_heap_same HQA.out) (by decide))
      rw [hX1] at HO2x
      clear hX1 u0 u1 v0 v1 HQA HO1 HO2
      refine hK.out _ _ (HSE.out _ hEX) (fun hHeld => ?_)
      clear hK K
      (try simp only [Act.put, sA, sB, sC])
      refine wpAnyH_done (by kernel_rfl) ?_ _
      go_wp2_with fail
      go_meet
      exact ⟨z1.heap.size, gB, gD, dg, dw, rfl, hl1, hEX, HP1, HO1x, HO2x⟩
    ·
     go_simp
     generalize hWp1 : World.drew (World.alloc w7 _) = Wp1
     have hal := alloc1 w7 (.cells #[.slice none 0 0, .slice none 0 0] 28)
     have hbp1 : Ev w7 Wp1 := by rw [← hWp1]; exact Ev.drew (Ev.alloc (Ev.refl _) _)
     have hqp1 := (show Ev (World.alloc w7 (.cells #[.slice none 0 0, .slice none 0 0] 28)) Wp1 from by rw [← hWp1]; exact Ev.drew (Ev.refl _)).heap hal.1
     have hxp1 : Ev w7 Wp1 := hbp1
     have hzp1 := hid (And.intro (show Wp1.heap.size = w7.heap.size + 1 from by rw [← hWp1]; exact hal.2) hxp1.size)
     clear hal hWp1
     refine hK.out _ _ (HSE.out _ hxp1) (fun hHeld => ?_)
     clear hK K
     (try simp only [Act.put, sA, sB, sC])
     refine wpAnyH_one (i := 4) rfl (by kernel_rfl) (by rfl) (fun K hK => ?_)
     go_simp
     refine (HMN.out _ (hX7.trans hxp1)).mono ?_
     rintro e z1 ⟨rfl, hb1⟩
     have hy1 : Ev w7 z1 := Ev.trans hxp1 hb1
     have hz1 := hid (And.intro hb1.size hy1.size)
     refine hK.out _ _ (HSE.out _ hy1) (fun hHeld => ?_)
     clear hK K
     (try simp only [Act.put, sA, sB, sC])
     refine tkH 5 (some 56) ?_
     (try simp only [Act.put, sA, sB, sC])
     refine wpAnyH_one (i := 6) rfl (by kernel_rfl) (by rfl) (fun K hK => ?_)
     go_simp
     refine (HNT.out _ (hX7.trans hy1)).mono ?_
     rintro e z2 ⟨⟨Bg, dg, Bw, dw, rfl, ho1, ho2, hapT⟩, hb2⟩
     have hy2 : Ev w7 z2 := Ev.trans hy1 hb2
     have hz2 := hid (And.intro hb2.size hy2.size)
     obtain ⟨gB, rfl, lB, lB2, _⟩ := own_some ho1 hng0
     obtain ⟨gD, rfl, lD, lD2, _⟩ := own_some ho2 hnw0
     refine hK.out _ _ (HSE.out _ hy2) (fun hHeld => ?_)
     clear hK K
     (try simp only [Act.put, sA, sB, sC])
     refine wpAnyH_one (i := 8) rfl (by kernel_rfl) (by rfl) (fun K hK => ?_)
     have HQA := hid (hb2.heap (hb1.heap hqp1))
     have HO1 := hid (own_base ho1 (Nat.zero_le _))
     have HO2 := hid (own_base ho2 (Nat.zero_le _))
     have hl1 : w7.heap.size ≤ w7.heap.size := by have := hzp1.out; have := hz1.out; have := hz2.out; omega
     have hnp : p ≠ w7.heap.size := by omega
     obtain ⟨u0, u1⟩ := cells2 HQA.out
     obtain ⟨v0, v1⟩ := frz2 HQA.out
     go_simp
     generalize hX1 : World.setCell (World.setCell z2 _ _) _ _ = X1
     have hEX : Ev w7 X1 := by rw [← hX1]; exact Ev.setCell (Ev.setCell hy2 hl1 _) hl1 _
     have HP1 := hid (show X1.heap[w7.heap.size]? = some (.cells #[.slice (some ⟨gB, 0, none⟩) ng dg, .slice (some ⟨gD, 0, none⟩) nw dw] 28 (0, 0)) from by rw [← hX1]; exact set2 HQA.out)
     have HO1x := hid (own_set (j := 1) (u := (.slice (some ⟨gD, 0, none⟩) nw dw : Value)) (own_set (j := 0) (u := (.slice (some ⟨gB, 0, none⟩) ng dg : Value)) HO1.out HQA.out (by decide)) (set_heap_same HQA.out) (by decide))
     rw [hX1] at HO1x
     have HO2x := hid (own_set (j := 1) (u := (.slice (some ⟨gD, 0, none⟩) nw dw : Value)) (own_set (j := 0) (u := (.slice (some ⟨gB, 0, none⟩) ng dg : Value)) HO2.out HQA.out (by decide)) (set_heap_same HQA.out) (by decide))
     rw [hX1] at HO2x
     clear hX1 u0 u1 v0 v1 HQA HO1 HO2
     refine hK.out _ _ (HSE.out _ hEX) (fun hHeld => ?_)
     clear hK K
     (try simp only [Act.put, sA, sB, sC])
     refine wpAnyH_done (by kernel_rfl) ?_ _
     go_wp2_with fail
     go_meet
     exact ⟨w7.heap.size, gB, gD, dg, dw, rfl, hl1, hEX, HP1, HO1x, HO2x⟩
  case rest =>
   clear y0 y1 y2 y3 y4 y5 y6 y7 y8
   clear HMN HNT HSE m0 m0' m1 m2 m3 m4 hq2 hm1 hm2 HRD HRY
   obtain ⟨q, gB, gD, dg, dw, rfl, hq1, hB9, HQ1, HO1, HO2⟩ := hcut
   obtain ⟨x9, hx9⟩ : ∃ x, x = wc := ⟨_, rfl⟩
   subst hx9
   have lq9 := heap_lt HQ1.out
   obtain ⟨t0, t1⟩ := cells2 HQ1.out
   have HTG := hid (sl_own (enc := ics) (by decide) (ics_len _) (by omega) HO1.out)
   have HTW := hid (sl_own (enc := ics) (by decide) (ics_len _) (by omega) HO2.out)
   have lgB := (own_lit HO1.out hng0).1
   have lgD := (own_lit HO2.out hnw0).1
   go_upto_region 9 with fail
   have HSE : Hid (∀ w', Ev x9 w' → (∀ o, w'.cell? ⟨q, o, none⟩ = x9.cell? ⟨q, o, none⟩)) := hid (fun w' h => fun o => h.cells.1 _ o lq9)
   go_cut [14] (fun v W => ∃ (q2 gC gW eg ew : Nat), v = .pointer (some ⟨q2, 0, none⟩) ∧ Hid (TwS w7 W q q2 gB gD gC gW x9.heap.size ng dg nw dw eg ew #[.slice (some ⟨gB, 0, none⟩) ng dg, .slice (some ⟨gD, 0, none⟩) nw dw] #[.slice (some ⟨gC, 0, none⟩) ng eg, .slice (some ⟨gW, 0, none⟩) nw ew] t t))
   case first =>
    as_aux_lemma =>
     refine wp_region_held_drew (S := fun w' => (∀ o, w'.cell? ⟨q, o, none⟩ = x9.cell? ⟨q, o, none⟩)) (by kernel_rfl) (fun o => rfl) (fun hHeld => ?_)
     refine tkH 0 (some 58) ?_
     (try simp only [Act.put, sA, sB, sC])
     refine tkH 1 (some 59) ?_
     (try simp only [Act.put, sA, sB, sC])
     refine tkH 3 (some 61) ?_
     (try simp only [Act.put, sA, sB, sC])
     refine tkH 4 (some 62) ?_
     (try simp only [Act.put, sA, sB, sC])
     refine wpAnyH_ready (rs := [2, 7]) (by kernel_rfl) (by simp) ?_
     refine AllReadyH.cons rfl (fun K hK => ?_) (AllReadyH.cons rfl (fun K hK => ?_) (AllReadyH.nil))
     ·
      go_simp
      refine (list_c _ _ _ t.gr (by omega) _ (HTG.out.ev (Ev.drew (Ev.refl _)))).mono ?_
      rintro e z1 ⟨⟨Cg, eg, rfl, hu1⟩, hb1⟩
      have hy1 : Ev x9 z1 := Ev.trans (Ev.drew (Ev.refl _)) hb1
      have hz1 := hid (And.intro hb1.size hy1.size)
      obtain ⟨gC, rfl, lC, lC2, _⟩ := own_some hu1 hng0
      refine hK.out _ _ (HSE.out _ hy1) (fun hHeld => ?_)
      clear hK K
      (try simp only [Act.put, sA, sB, sC])
      refine wpAnyH_ready (rs := [5, 7]) (by kernel_rfl) (by simp) ?_
      refine AllReadyH.cons rfl (fun K hK => ?_) (AllReadyH.cons rfl (fun K hK => ?_) (AllReadyH.nil))
      ·
       go_simp
       refine (list_c _ _ _ t.wet (by omega) _ (HTW.out.ev hy1)).mono ?_
       rintro e z2 ⟨⟨Cw, ew, rfl, hu2⟩, hb2⟩
       have hy2 : Ev x9 z2 := Ev.trans hy1 hb2
       have hz2 := hid (And.intro hb2.size hy2.size)
       obtain ⟨gW, rfl, lW, lW2, _⟩ := own_some hu2 hnw0
       refine hK.out _ _ (HSE.out _ hy2) (fun hHeld => ?_)
       clear hK K
       (try simp only [Act.put, sA, sB, sC])
       refine tkH 6 (some 64) ?_
       (try simp only [Act.put, sA, sB, sC])
       refine wpAnyH_one (i := 7) rfl (by kernel_rfl) (by rfl) (fun K hK => ?_)
       go_simp
       generalize hWp2 : World.alloc z2 _ = Wp2
       have hal := alloc1 z2 (.cells #[.slice none 0 0, .slice none 0 0] 28)
       have hbp2 : Ev z2 Wp2 := by rw [← hWp2]; exact Ev.alloc (Ev.refl _) _
       have hqp2 := hal.1
       rw [hWp2] at hqp2
       have hxp2 : Ev x9 Wp2 := hy2.trans hbp2
       have hzp2 := hid (And.intro (show Wp2.heap.size = z2.heap.size + 1 from by rw [← hWp2]; exact hal.2) hxp2.size)
       clear hal hWp2
       refine hK.out _ _ (HSE.out _ hxp2) (fun hHeld => ?_)
       clear hK K
       (try simp only [Act.put, sA, sB, sC])
       refine wpAnyH_one (i := 8) rfl (by kernel_rfl) (by rfl) (fun K hK => ?_)
       have hB9z := hB9.size
       have hdz : x9.drew.heap.size = x9.heap.size := rfl
       have HT := hid (show TwS w7 Wp2 q z2.heap.size gB gD gC gW x9.heap.size ng dg nw dw eg ew #[.slice (some ⟨gB, 0, none⟩) ng dg, .slice (some ⟨gD, 0, none⟩) nw dw] #[.slice none 0 0, .slice none 0 0] t t from ⟨hB9.trans hxp2, hq1, by have := hz1.out; have := hz2.out; have := hzp2.out; omega, by have := hz1.out; have := hz2.out; have := hzp2.out; omega, hxp2.heap HQ1.out, hqp2, HO1.out.ev hxp2, HO2.out.ev hxp2, own_base ((hu1.ev hb2).ev hbp2) (Nat.zero_le _), own_base (hu2.ev hbp2) (Nat.zero_le _), lgB, lgD, by have := hz1.out; have := hz2.out; have := hzp2.out; omega, by have := hz1.out; have := hz2.out; have := hzp2.out; omega, by have := hz1.out; have := hz2.out; have := hzp2.out; omega, hB9.size⟩)
       obtain ⟨u0, u1⟩ := cells2 HT.out.h2
       obtain ⟨v0, v1⟩ := frz2 HT.out.h2
       go_simp
       generalize hX2 : World.setCell (World.setCell Wp2 _ _) _ _ = X2
       have HT2 := hid (show TwS w7 X2 q z2.heap.size gB gD gC gW x9.heap.size ng dg nw dw eg ew #[.slice (some ⟨gB, 0, none⟩) ng dg, .slice (some ⟨gD, 0, none⟩) nw dw] #[.slice (some ⟨gC, 0, none⟩) ng eg, .slice (some ⟨gW, 0, none⟩) nw ew] t t from by rw [← hX2]; exact HT.out.set2)
       have hnq : q ≠ z2.heap.size := HT.out.ne
       have HSq := hid (show ∀ o, X2.cell? ⟨q, o, none⟩ = x9.cell? ⟨q, o, none⟩ from by rw [← hX2]; exact fun o => (cell_set_ne hnq).trans ((cell_set_ne hnq).trans (HSE.out _ hxp2 o)))
       clear hX2 u0 u1 v0 v1 HT
       refine hK.out _ _ (HSq.out) (fun hHeld => ?_)
       clear hK K
       (try simp only [Act.put, sA, sB, sC])
       refine wpAnyH_done (by kernel_rfl) ?_ _
       go_wp2_with fail
       go_meet
       exact ⟨z2.heap.size, gC, gW, eg, ew, rfl, HT2⟩
      ·
       go_simp
       generalize hWp2 : World.alloc z1 _ = Wp2
       have hal := alloc1 z1 (.cells #[.slice none 0 0, .slice none 0 0] 28)
       have hbp2 : Ev z1 Wp2 := by rw [← hWp2]; exact Ev.alloc (Ev.refl _) _
       have hqp2 := hal.1
       rw [hWp2] at hqp2
       have hxp2 : Ev x9 Wp2 := hy1.trans hbp2
       have hzp2 := hid (And.intro (show Wp2.heap.size = z1.heap.size + 1 from by rw [← hWp2]; exact hal.2) hxp2.size)
       clear hal hWp2
       refine hK.out _ _ (HSE.out _ hxp2) (fun hHeld => ?_)
       clear hK K
       (try simp only [Act.put, sA, sB, sC])
       refine wpAnyH_one (i := 5) rfl (by kernel_rfl) (by rfl) (fun K hK => ?_)
       go_simp
       refine (list_c _ _ _ t.wet (by omega) _ (HTW.out.ev hxp2)).mono ?_
       rintro e z2 ⟨⟨Cw, ew, rfl, hu2⟩, hb2⟩
       have hy2 : Ev x9 z2 := Ev.trans hxp2 hb2
       have hz2 := hid (And.intro hb2.size hy2.size)
       obtain ⟨gW, rfl, lW, lW2, _⟩ := own_some hu2 hnw0
       refine hK.out _ _ (HSE.out _ hy2) (fun hHeld => ?_)
       clear hK K
       (try simp only [Act.put, sA, sB, sC])
       refine tkH 6 (some 64) ?_
       (try simp only [Act.put, sA, sB, sC])
       refine wpAnyH_one (i := 8) rfl (by kernel_rfl) (by rfl) (fun K hK => ?_)
       have hB9z := hB9.size
       have hdz : x9.drew.heap.size = x9.heap.size := rfl
       have HT := hid (show TwS w7 z2 q z1.heap.size gB gD gC gW x9.heap.size ng dg nw dw eg ew #[.slice (some ⟨gB, 0, none⟩) ng dg, .slice (some ⟨gD, 0, none⟩) nw dw] #[.slice none 0 0, .slice none 0 0] t t from ⟨hB9.trans hy2, hq1, by have := hz1.out; have := hzp2.out; have := hz2.out; omega, by have := hz1.out; have := hzp2.out; have := hz2.out; omega, hy2.heap HQ1.out, (hb2.heap hqp2), HO1.out.ev hy2, HO2.out.ev hy2, own_base ((hu1.ev hbp2).ev hb2) (Nat.zero_le _), own_base hu2 (Nat.zero_le _), lgB, lgD, by have := hz1.out; have := hzp2.out; have := hz2.out; omega, by have := hz1.out; have := hzp2.out; have := hz2.out; omega, by have := hz1.out; have := hzp2.out; have := hz2.out; omega, hB9.size⟩)
       obtain ⟨u0, u1⟩ := cells2 HT.out.h2
       obtain ⟨v0, v1⟩ := frz2 HT.out.h2
       go_simp
       generalize hX2 : World.setCell (World.setCell z2 _ _) _ _ = X2
       have HT2 := hid (show TwS w7 X2 q z1.heap.size gB gD gC gW x9.heap.size ng dg nw dw eg ew #[.slice (some ⟨gB, 0, none⟩) ng dg, .slice (some ⟨gD, 0, none⟩) nw dw] #[.slice (some ⟨gC, 0, none⟩) ng eg, .slice (some ⟨gW, 0, none⟩) nw ew] t t from by rw [← hX2]; exact HT.out.set2)
       have hnq : q ≠ z1.heap.size := HT.out.ne
       have HSq := hid (show ∀ o, X2.cell? ⟨q, o, none⟩ = x9.cell? ⟨q, o, none⟩ from by rw [← hX2]; exact fun o => (cell_set_ne hnq).trans ((cell_set_ne hnq).trans (HSE.out _ hy2 o)))
       clear hX2 u0 u1 v0 v1 HT
       refine hK.out _ _ (HSq.out) (fun hHeld => ?_)
       clear hK K
       (try simp only [Act.put, sA, sB, sC])
       refine wpAnyH_done (by kernel_rfl) ?_ _
       go_wp2_with fail
       go_meet
       exact ⟨z1.heap.size, gC, gW, eg, ew, rfl, HT2⟩
     ·
      go_simp
      generalize hWp2 : World.drew (World.alloc x9 _) = Wp2
      have hal := alloc1 x9 (.cells #[.slice none 0 0, .slice none 0 0] 28)
      have hbp2 : Ev x9 Wp2 := by rw [← hWp2]; exact Ev.drew (Ev.alloc (Ev.refl _) _)
      have hqp2 := (show Ev (World.alloc x9 (.cells #[.slice none 0 0, .slice none 0 0] 28)) Wp2 from by rw [← hWp2]; exact Ev.drew (Ev.refl _)).heap hal.1
      have hxp2 : Ev x9 Wp2 := hbp2
      have hzp2 := hid (And.intro (show Wp2.heap.size = x9.heap.size + 1 from by rw [← hWp2]; exact hal.2) hxp2.size)
      clear hal hWp2
      refine hK.out _ _ (HSE.out _ hxp2) (fun hHeld => ?_)
      clear hK K
      (try simp only [Act.put, sA, sB, sC])
      refine wpAnyH_one (i := 2) rfl (by kernel_rfl) (by rfl) (fun K hK => ?_)
      go_simp
      refine (list_c _ _ _ t.gr (by omega) _ (HTG.out.ev hxp2)).mono ?_
      rintro e z1 ⟨⟨Cg, eg, rfl, hu1⟩, hb1⟩
      have hy1 : Ev x9 z1 := Ev.trans hxp2 hb1
      have hz1 := hid (And.intro hb1.size hy1.size)
      obtain ⟨gC, rfl, lC, lC2, _⟩ := own_some hu1 hng0
      refine hK.out _ _ (HSE.out _ hy1) (fun hHeld => ?_)
      clear hK K
      (try simp only [Act.put, sA, sB, sC])
      refine wpAnyH_one (i := 5) rfl (by kernel_rfl) (by rfl) (fun K hK => ?_)
      go_simp
      refine (list_c _ _ _ t.wet (by omega) _ (HTW.out.ev hy1)).mono ?_
      rintro e z2 ⟨⟨Cw, ew, rfl, hu2⟩, hb2⟩
      have hy2 : Ev x9 z2 := Ev.trans hy1 hb2
      have hz2 := hid (And.intro hb2.size hy2.size)
      obtain ⟨gW, rfl, lW, lW2, _⟩ := own_some hu2 hnw0
      refine hK.out _ _ (HSE.out _ hy2) (fun hHeld => ?_)
      clear hK K
      (try simp only [Act.put, sA, sB, sC])
      refine tkH 6 (some 64) ?_
      (try simp only [Act.put, sA, sB, sC])
      refine wpAnyH_one (i := 8) rfl (by kernel_rfl) (by rfl) (fun K hK => ?_)
      have hB9z := hB9.size
      have hdz : x9.drew.heap.size = x9.heap.size := rfl
      have HT := hid (show TwS w7 z2 q x9.heap.size gB gD gC gW x9.heap.size ng dg nw dw eg ew #[.slice (some ⟨gB, 0, none⟩) ng dg, .slice (some ⟨gD, 0, none⟩) nw dw] #[.slice none 0 0, .slice none 0 0] t t from ⟨hB9.trans hy2, hq1, by have := hzp2.out; have := hz1.out; have := hz2.out; omega, by have := hzp2.out; have := hz1.out; have := hz2.out; omega, hy2.heap HQ1.out, (hb2.heap (hb1.heap hqp2)), HO1.out.ev hy2, HO2.out.ev hy2, own_base (hu1.ev hb2) (Nat.zero_le _), own_base hu2 (Nat.zero_le _), lgB, lgD, by have := hzp2.out; have := hz1.out; have := hz2.out; omega, by have := hzp2.out; have := hz1.out; have := hz2.out; omega, by have := hzp2.out; have := hz1.out; have := hz2.out; omega, hB9.size⟩)
      obtain ⟨u0, u1⟩ := cells2 HT.out.h2
      obtain ⟨v0, v1⟩ := frz2 HT.out.h2
      go_simp
      generalize hX2 : World.setCell (World.setCell z2 _ _) _ _ = X2
      have HT2 := hid (show TwS w7 X2 q x9.heap.size gB gD gC gW x9.heap.size ng dg nw dw eg ew #[.slice (some ⟨gB, 0, none⟩) ng dg, .slice (some ⟨gD, 0, none⟩) nw dw] #[.slice (some ⟨gC, 0, none⟩) ng eg, .slice (some ⟨gW, 0, none⟩) nw ew] t t from by rw [← hX2]; exact HT.out.set2)
      have hnq : q ≠ x9.heap.size := HT.out.ne
      have HSq := hid (show ∀ o, X2.cell? ⟨q, o, none⟩ = x9.cell? ⟨q, o, none⟩ from by rw [← hX2]; exact fun o => (cell_set_ne hnq).trans ((cell_set_ne hnq).trans (HSE.out _ hy2 o)))
      clear hX2 u0 u1 v0 v1 HT
      refine hK.out _ _ (HSq.out) (fun hHeld => ?_)
      clear hK K
      (try simp only [Act.put, sA, sB, sC])
      refine wpAnyH_done (by kernel_rfl) ?_ _
      go_wp2_with fail
      go_meet
      exact ⟨x9.heap.size, gC, gW, eg, ew, rfl, HT2⟩
   case rest =>
    clear HSE HTG HTW t0 t1
    obtain ⟨q2, gC, gW, eg, ew, rfl, HT⟩ := hcut
    obtain ⟨w10, hw10⟩ : ∃ x, x = wc := ⟨_, rfl⟩
    subst hw10
    have hX10 : Ev W5 w10 := hX7.trans HT.out.ev
    obtain ⟨y0, y1, y2, y3, y4, y5, y6, y7, y8⟩ := cells9 (hX10.heap HX5.out)
    obtain ⟨t0, t1⟩ := cells2 HT.out.h1
    obtain ⟨t2, t3⟩ := cells2 HT.out.h2
    have lp10 := heap_lt (hX10.heap HX5.out)
    obtain ⟨bgx, ogx, rg, hAg, hbgx, hrg, _, hcc⟩ := HCS.out.g.at_ (HE5.out.trans hX10) hkg
    have e0 := hcc 0 _ rfl
    have e1 := hcc 1 _ rfl
    simp only [Nat.add_zero] at e0
    have hcap := HCS.out.g.cap
    obtain ⟨_, _, hl1_, _, hx1_⟩ := own_lit HT.out.r1 hng0
    obtain ⟨_, hcC_, hl3_, hf3_, hx3_⟩ := own_lit HT.out.r3 hng0
    obtain ⟨xg, hxg⟩ : ∃ x, t.gr[kx]? = some x := ⟨t.gr[kx]'(by omega), List.getElem?_eq_getElem _⟩
    have e6 := hx1_ kx xg hxg
    have e7 := hx3_ kx xg hxg
    have f3 := hf3_ kx hkg
    obtain ⟨n1_, n2_, n3_, n4_⟩ := HT.out.nep
    have hk1 := HT.out.k1
    have hk3 := HT.out.k3
    have hk4 := HT.out.k4
    have lz9 : p < x9.heap.size := by have := hB9.size; omega
    have n0 : p ≠ gC := by omega
    have n1 : q ≠ gC := n1_
    have n2 : q2 ≠ gC := n3_
    have n3 : bgx ≠ gC := by have := HE5.out.size; have := hX7.size; have := hB9.size; omega
    have n4 : gB ≠ gC := by omega
    have hrgb := M.gr_le hvx rg (List.mem_of_getElem? (show (M.wetF f kx).gr[kx]? = some rg from hrg))
    have hxgb := M.listed_gr hvx hls xg (List.mem_of_getElem? hxg)
    have hz1_ := HTL.out
    have hz2_ := HVX.out
    have hz3_ := HGLn.out
    have hgk := (((M.listed_at (f := M.wetF f kx) (t := t) (by omega) (by omega) (M.weeks_eq hvx)).1 hls) kx (List.getElem?_eq_some_iff.1 hxg).1 xg rg _ _ hxg hrg (List.getElem?_eq_getElem (show kx < t.wet.length by omega)) (List.getElem?_eq_getElem (show kx < (M.wetF f kx).wet.length by omega))).1
    clear hz1_ hz2_ hz3_
    have hgh : xg ≤ rg.hi := by
     unfold M.holds at hgk
     simp only [Bool.and_eq_true, decide_eq_true_eq] at hgk
     exact hgk.2
    have c1 : (en : Int).tmod 4 = ((en % 4 : Nat) : Int) := by rw [Int.tmod_eq_emod_of_nonneg (by omega)]; exact (Int.natCast_emod en 4).symm
    have c2 : (en : Int) % 4 = ((en % 4 : Nat) : Int) := (Int.natCast_emod en 4).symm
    have c3 : en % 4 < 4 := Nat.mod_lt _ (by omega)
    generalize en % 4 = mr at c1 c2 c3
    have c4 : IntKind.i64.wrap (en : Int) = en := IntWalk.i64_in _ (by omega)
    have c5 : IntKind.i64.wrap (mr : Int) = mr := IntWalk.i64_in _ (by omega)
    have c6 : IntKind.i64.wrap (xg + (mr : Int)) = xg + mr := IntWalk.i64_in _ (by omega)
    have HXG := hid hxg
    have HRG := hid hrg
    subst hAg
    clear hcc hx1_ hx3_ hf3_ hl1_ hl3_ hgk hxg hrg n1_ n2_ n3_ n4_
    obtain ⟨gv, hgv1, hgv2, hgvc⟩ : ∃ gv : Int, xg ≤ gv ∧ gv ≤ rg.hi ∧ ((rg.hi ≤ xg + mr ∧ gv = rg.hi) ∨ (¬ rg.hi ≤ xg + mr ∧ gv = xg + mr)) := by
     by_cases h : rg.hi ≤ xg + mr
     ·
      exact ⟨rg.hi, by omega, by omega, .inl ⟨h, rfl⟩⟩
     ·
      exact ⟨xg + mr, by omega, by omega, .inr ⟨h, rfl⟩⟩
    go_upto_region 10 with fail
    go_cut [] (fun W => Hid (TwS w7 W q q2 gB gD gC gW x9.heap.size ng dg nw dw eg ew #[.slice (some ⟨gB, 0, none⟩) ng dg, .slice (some ⟨gD, 0, none⟩) nw dw] #[.slice (some ⟨gC, 0, none⟩) ng eg, .slice (some ⟨gW, 0, none⟩) nw ew] t ⟨t.gr.set kx gv, t.wet⟩))
    case first =>
     rcases hgvc with ⟨hmn1, rfl⟩ | ⟨hmn1, rfl⟩
     ·
      have hmn2 : ¬ (xg + (mr : Int) < rg.hi) := by omega
      as_aux_lemma =>
       refine wp_region_held_drew (S := fun w' => (∀ o, w'.cell? ⟨p, o, none⟩ = w10.cell? ⟨p, o, none⟩) ∧ (∀ o, w'.cell? ⟨q, o, none⟩ = w10.cell? ⟨q, o, none⟩) ∧ (∀ o, w'.cell? ⟨q2, o, none⟩ = w10.cell? ⟨q2, o, none⟩) ∧ (∀ o, w'.cell? ⟨bgx, o, none⟩ = w10.cell? ⟨bgx, o, none⟩) ∧ (∀ o, w'.cell? ⟨gB, o, none⟩ = w10.cell? ⟨gB, o, none⟩)) (by kernel_rfl) (⟨fun o => rfl, fun o => rfl, fun o => rfl, fun o => rfl, fun o => rfl⟩) (fun hHeld => ?_)
       refine tkH 0 (some 65) ?_
       (try simp only [Act.put, sA, sB, sC])
       refine tkH 1 (some 66) ?_
       (try simp only [Act.put, sA, sB, sC])
       refine tkH 2 (some 67) ?_
       (try simp only [Act.put, sA, sB, sC])
       refine tkH 3 (some 68) ?_
       (try simp only [Act.put, sA, sB, sC])
       refine tkH 4 (some 69) ?_
       (try simp only [Act.put, sA, sB, sC])
       refine tkH 5 (some 70) ?_
       (try simp only [Act.put, sA, sB, sC])
       refine tkH 6 (some 71) ?_
       (try simp only [Act.put, sA, sB, sC])
       refine tkH 7 (some 72) ?_
       (try simp only [Act.put, sA, sB, sC])
       refine tkH 8 (some 73) ?_
       (try simp only [Act.put, sA, sB, sC])
       refine tkH 9 (some 74) ?_
       (try simp only [Act.put, sA, sB, sC])
       refine tkH 10 (some 75) ?_
       (try simp only [Act.put, sA, sB, sC])
       refine tkH 11 (some 76) ?_
       (try simp only [Act.put, sA, sB, sC])
       refine tkH 12 (some 77) ?_
       (try simp only [Act.put, sA, sB, sC])
       refine tkH 13 (some 78) ?_
       (try simp only [Act.put, sA, sB, sC])
       refine tkH 14 (some 79) ?_
       (try simp only [Act.put, sA, sB, sC])
       refine tkH 15 (some 80) ?_
       (try simp only [Act.put, sA, sB, sC])
       refine tkH 16 (some 81) ?_
       (try simp only [Act.put, sA, sB, sC])
       refine tkH 17 (some 82) ?_
       (try simp only [Act.put, sA, sB, sC])
       refine tkH 18 (some 83) ?_
       (try simp only [Act.put, sA, sB, sC])
       refine tkH 19 (some 84) ?_
       (try simp only [Act.put, sA, sB, sC])
       refine wpAnyH_one (i := 20) rfl (by kernel_rfl) (by rfl) (fun K hK => ?_)
       go_simp
       refine hK.out _ _ (⟨fun o => cell_set_ne n0, fun o => cell_set_ne n1, fun o => cell_set_ne n2, fun o => cell_set_ne n3, fun o => cell_set_ne n4⟩) (fun hHeld => ?_)
       clear hK K
       (try simp only [Act.put, sA, sB, sC])
       refine wpAnyH_done (by kernel_rfl) ?_ _
       generalize hX1 : World.drew (World.setCell w10 _ _) = X1
       have HT1 := hid (show TwS w7 X1 q q2 gB gD gC gW x9.heap.size ng dg nw dw eg ew #[.slice (some ⟨gB, 0, none⟩) ng dg, .slice (some ⟨gD, 0, none⟩) nw dw] #[.slice (some ⟨gC, 0, none⟩) ng eg, .slice (some ⟨gW, 0, none⟩) nw ew] t ⟨t.gr.set kx rg.hi, t.wet⟩ from by rw [← hX1]; exact (HT.out.put1 kx rg.hi).evs (Ev.drew (Ev.refl _)))
       clear hX1
       go_wp2_with fail
       go_meet
       exact HT1
     ·
      have hmn2 : xg + (mr : Int) < rg.hi := by omega
      have hmn3 : xg + (mr : Int) ≤ rg.hi := by omega
      as_aux_lemma =>
       refine wp_region_held_drew (S := fun w' => (∀ o, w'.cell? ⟨p, o, none⟩ = w10.cell? ⟨p, o, none⟩) ∧ (∀ o, w'.cell? ⟨q, o, none⟩ = w10.cell? ⟨q, o, none⟩) ∧ (∀ o, w'.cell? ⟨q2, o, none⟩ = w10.cell? ⟨q2, o, none⟩) ∧ (∀ o, w'.cell? ⟨bgx, o, none⟩ = w10.cell? ⟨bgx, o, none⟩) ∧ (∀ o, w'.cell? ⟨gB, o, none⟩ = w10.cell? ⟨gB, o, none⟩)) (by kernel_rfl) (⟨fun o => rfl, fun o => rfl, fun o => rfl, fun o => rfl, fun o => rfl⟩) (fun hHeld => ?_)
       refine tkH 0 (some 65) ?_
       (try simp only [Act.put, sA, sB, sC])
       refine tkH 1 (some 66) ?_
       (try simp only [Act.put, sA, sB, sC])
       refine tkH 2 (some 67) ?_
       (try simp only [Act.put, sA, sB, sC])
       refine tkH 3 (some 68) ?_
       (try simp only [Act.put, sA, sB, sC])
       refine tkH 4 (some 69) ?_
       (try simp only [Act.put, sA, sB, sC])
       refine tkH 5 (some 70) ?_
       (try simp only [Act.put, sA, sB, sC])
       refine tkH 6 (some 71) ?_
       (try simp only [Act.put, sA, sB, sC])
       refine tkH 7 (some 72) ?_
       (try simp only [Act.put, sA, sB, sC])
       refine tkH 8 (some 73) ?_
       (try simp only [Act.put, sA, sB, sC])
       refine tkH 9 (some 74) ?_
       (try simp only [Act.put, sA, sB, sC])
       refine tkH 10 (some 75) ?_
       (try simp only [Act.put, sA, sB, sC])
       refine tkH 11 (some 76) ?_
       (try simp only [Act.put, sA, sB, sC])
       refine tkH 12 (some 77) ?_
       (try simp only [Act.put, sA, sB, sC])
       refine tkH 13 (some 78) ?_
       (try simp only [Act.put, sA, sB, sC])
       refine tkH 14 (some 79) ?_
       (try simp only [Act.put, sA, sB, sC])
       refine tkH 15 (some 80) ?_
       (try simp only [Act.put, sA, sB, sC])
       refine tkH 16 (some 81) ?_
       (try simp only [Act.put, sA, sB, sC])
       refine tkH 17 (some 82) ?_
       (try simp only [Act.put, sA, sB, sC])
       refine tkH 18 (some 83) ?_
       (try simp only [Act.put, sA, sB, sC])
       refine tkH 19 (some 84) ?_
       (try simp only [Act.put, sA, sB, sC])
       refine wpAnyH_one (i := 20) rfl (by kernel_rfl) (by rfl) (fun K hK => ?_)
       go_simp
       refine hK.out _ _ (⟨fun o => cell_set_ne n0, fun o => cell_set_ne n1, fun o => cell_set_ne n2, fun o => cell_set_ne n3, fun o => cell_set_ne n4⟩) (fun hHeld => ?_)
       clear hK K
       (try simp only [Act.put, sA, sB, sC])
       refine wpAnyH_done (by kernel_rfl) ?_ _
       generalize hX1 : World.drew (World.setCell w10 _ _) = X1
       have HT1 := hid (show TwS w7 X1 q q2 gB gD gC gW x9.heap.size ng dg nw dw eg ew #[.slice (some ⟨gB, 0, none⟩) ng dg, .slice (some ⟨gD, 0, none⟩) nw dw] #[.slice (some ⟨gC, 0, none⟩) ng eg, .slice (some ⟨gW, 0, none⟩) nw ew] t ⟨t.gr.set kx (xg + mr), t.wet⟩ from by rw [← hX1]; exact (HT.out.put1 kx (xg + mr)).evs (Ev.drew (Ev.refl _)))
       clear hX1
       go_wp2_with fail
       go_meet
       exact HT1
    case rest =>
     obtain ⟨w11, hw11⟩ : ∃ x, x = wc := ⟨_, rfl⟩
     subst hw11
     clear t0 t1 t2 t3 e0 e1 e6 e7 f3 c1 c2 c4 c5 c6 n0 n1 n2 n3 n4 y0 y1 y2 y3 y4 y5 y6 y7 y8 hk1 hk3 hk4 hgvc
     have HT1 := hcut
     obtain ⟨t2, t3⟩ := cells2 HT1.out.h2
     obtain ⟨_, hcW_, hl4_, hf4_, hx4_⟩ := own_lit HT1.out.r4 hnw0
     obtain ⟨xw, hxw⟩ : ∃ x, t.wet[kx]? = some x := ⟨t.wet[kx]'(by have := HTL.out; have := HGLn.out; omega), List.getElem?_eq_getElem _⟩
     have e7 := hx4_ kx xw hxw
     have f4 := hf4_ kx j3
     clear hx4_ hf4_ hl4_ hxw
     go_upto_region 12 with fail
     generalize hX2 : World.setCell w11 _ _ = w12
     have HT2 := hid (show TwS w7 w12 q q2 gB gD gC gW x9.heap.size ng dg nw dw eg ew #[.slice (some ⟨gB, 0, none⟩) ng dg, .slice (some ⟨gD, 0, none⟩) nw dw] #[.slice (some ⟨gC, 0, none⟩) ng eg, .slice (some ⟨gW, 0, none⟩) nw ew] t (M.moreT t kx gv) from by rw [← hX2]; exact HT1.out.put2 kx 0)
     clear hX2 t2 t3 e7 f4
     have hX12 : Ev W5 w12 := hX7.trans HT2.out.ev
     obtain ⟨q0, q1_, q2_, q3, q4, q5, q6, q7, q8⟩ := cells9 (hX12.heap HQ5.out)
     have hlu := M.more_listed hvx hls HRG.out HXG.out hgv1 hgv2
     go_upto_region 13 with (go_at_call 39; with_reducible refine (HPN.out _).mono ?_; rintro e x13 ⟨⟨plan, hpl, L, dL, rfl, hsl⟩, hb⟩; have HB13 := hid hb; have HSL30 := hid hsl; clear hb hsl)
     generalize hpn : plan.length = pn at HSL30 ⊢
     have hpb : pn ≤ 3 := by have := (M.plan_parts hpl).1; omega
     have hplx : M.isPlan (M.wetF f kx) plan = true := hpl
     have hX13 : Ev W5 x13 := hX12.trans HB13.out
     have HQ1_ := hid (HB13.out.heap HT2.out.h1)
     have HQ2_ := hid (HB13.out.heap HT2.out.h2)
     have HTG30 := hid ((sl_own (enc := ics) (by decide) (ics_len _) (by omega) HT2.out.r1).ev HB13.out)
     have HTW30 := hid ((sl_own (enc := ics) (by decide) (ics_len _) (by omega) HT2.out.r2).ev HB13.out)
     have HTG39 := hid ((sl_own (enc := ics) (by decide) (ics_len _) (by omega) HT2.out.r3).ev HB13.out)
     have HTW39 := hid ((sl_own (enc := ics) (by decide) (ics_len _) (by omega) HT2.out.r4).ev HB13.out)
     clear q0 q1_ q2_ q3 q4 q5 q6 q7 q8
     obtain ⟨y0, y1, y2, y3, y4, y5, y6, y7, y8⟩ := cells9 (hX13.heap HX5.out)
     obtain ⟨t0, t1⟩ := cells2 HQ1_.out
     have lpx := heap_lt (hX13.heap HX5.out)
     have lbq := heap_lt HQ1_.out
     have HMC := hid (fun (i : Nat) (hi : i < plan.length) => M.more_crop hvx hls hlu HXG.out hgv1 hplx hi)
     have HPLN := hid hpn
     generalize M.moreT t kx gv = u at HT2 hlu HTG39 HTW39 HMC
     clear HT HT1 hcut HXG HRG
     go_upto_region 13 with fail
     as_aux_lemma =>
      have HSE : Hid (∀ w', Ev x13 w' → (∀ o, w'.cell? ⟨p, o, none⟩ = x13.cell? ⟨p, o, none⟩) ∧ (∀ o, w'.cell? ⟨q, o, none⟩ = x13.cell? ⟨q, o, none⟩)) := hid (fun w' h => ⟨fun o => h.cells.1 _ o lpx, fun o => h.cells.1 _ o lbq⟩)
      refine wp_region_held_drew (S := fun w' => (∀ o, w'.cell? ⟨p, o, none⟩ = x13.cell? ⟨p, o, none⟩) ∧ (∀ o, w'.cell? ⟨q, o, none⟩ = x13.cell? ⟨q, o, none⟩)) (by kernel_rfl) (⟨fun o => rfl, fun o => rfl⟩) (fun hHeld => ?_)
      refine tkH 0 (some 93) ?_
      (try simp only [Act.put, sA, sB, sC])
      refine tkH 2 (some 95) ?_
      (try simp only [Act.put, sA, sB, sC])
      refine tkH 4 (some 97) ?_
      (try simp only [Act.put, sA, sB, sC])
      refine wpAnyH_one (i := 1) rfl (by kernel_rfl) (by rfl) (fun K hK => ?_)
      go_simp
      refine (FieldW_c f kx (some ⟨bgx, ogx, none⟩) (some ⟨gx, 0, none⟩) Ab Ac Al ng cg nw cx nb cb nc cc nl cl (by omega) (by omega) (by omega) (by omega) (by omega) _ (HSX.out.ev (hX13.trans (Ev.drew (Ev.refl _))))).mono ?_
      rintro e x30 ⟨⟨Bg30, dg30, Bw30, dw30, Bb30, db30, Bc30, dc30, Bl30, dl30, rfl, hc30⟩, hb30⟩
      have hV30 : Ev x13 x30 := Ev.trans (Ev.drew (Ev.refl _)) hb30
      refine hK.out _ _ (HSE.out _ hV30) (fun hHeld => ?_)
      clear hK K
      (try simp only [Act.put, sA, sB, sC])
      refine wpAnyH_one (i := 3) rfl (by kernel_rfl) (by rfl) (fun K hK => ?_)
      go_simp
      refine (Truth_c (some ⟨gB, 0, none⟩) (some ⟨gD, 0, none⟩) ng dg nw dw t (by omega) (by omega) _ (HTG30.out.ev hV30) (HTW30.out.ev hV30)).mono ?_
      rintro e x31 ⟨⟨T30, u30, S30, s30, rfl, ht30, hs30⟩, hb31⟩
      have hV31 : Ev x13 x31 := Ev.trans hV30 hb31
      refine hK.out _ _ (HSE.out _ hV31) (fun hHeld => ?_)
      clear hK K
      (try simp only [Act.put, sA, sB, sC])
      refine wpAnyH_one (i := 5) rfl (by kernel_rfl) (by rfl) (fun K hK => ?_)
      go_simp
      refine (list_c L pn dL plan (by omega) _ (HSL30.out.ev hV31)).mono ?_
      rintro e x32 ⟨⟨L30, dL30, rfl, ho30⟩, hb32⟩
      have hV32 : Ev x13 x32 := Ev.trans hV31 hb32
      refine hK.out _ _ (HSE.out _ hV32) (fun hHeld => ?_)
      clear hK K
      (try simp only [Act.put, sA, sB, sC])
      refine wpAnyH_one (i := 6) rfl (by kernel_rfl) (by rfl) (fun K hK => ?_)
      go_simp
      refine (PlayW_ok f kx Bg30 Bw30 Bb30 Bc30 Bl30 ng dg30 nw dw30 nb db30 nc dc30 nl dl30 T30 S30 ng u30 nw s30 t L30 pn dL30 plan hl0 _ ((hc30.ev hb31).ev hb32) (ht30.ev hb32) (hs30.ev hb32) (sl_own (enc := ics) (by decide) (ics_len _) (by omega) ho30) h0x hls hplx).mono ?_
      rintro e x33 ⟨⟨CB30, cd30, rfl, hcr30⟩, hb33⟩
      have hV33 : Ev x13 x33 := Ev.trans hV32 hb33
      refine hK.out _ _ (HSE.out _ hV33) (fun hHeld => ?_)
      clear hK K
      (try simp only [Act.put, sA, sB, sC])
      refine tkH 7 (some 92) ?_
      (try simp only [Act.put, sA, sB, sC])
      refine tkH 8 (some 100) ?_
      (try simp only [Act.put, sA, sB, sC])
      refine tkH 9 (some 101) ?_
      (try simp only [Act.put, sA, sB, sC])
      refine tkH 10 (some 16) ?_
      (try simp only [Act.put, sA, sB, sC])
      refine tkH 11 (some 17) ?_
      (try simp only [Act.put, sA, sB, sC])
      refine wpAnyH_done (by kernel_rfl) ?_ _
      have hX33 := hX13.trans hV33
      have HCR := hid (sl_own (enc := crc) (by decide) (crc_len _) (by omega) hcr30)
      have HTG40 := hid (HTG39.out.ev hV33)
      have HTW40 := hid (HTW39.out.ev hV33)
      have HSL40 := hid (HSL30.out.ev hV33)
      have HQ3_ := hid (hV33.heap HQ2_.out)
      clear y0 y1 y2 y3 y4 y5 y6 y7 y8
      clear t0 t1 hHeld HSE hc30 ht30 hs30 ho30 hcr30 HTG30 HTW30 HTG39 HTW39 lpx lbq
      obtain ⟨y0, y1, y2, y3, y4, y5, y6, y7, y8⟩ := cells9 (hX33.heap HX5.out)
      obtain ⟨t2, t3⟩ := cells2 HQ3_.out
      have lpx := heap_lt (hX33.heap HX5.out)
      have lbq := heap_lt HQ3_.out
      go_upto_region 14 with fail
      have HSE : Hid (∀ w', Ev x33 w' → (∀ o, w'.cell? ⟨p, o, none⟩ = x33.cell? ⟨p, o, none⟩) ∧ (∀ o, w'.cell? ⟨q2, o, none⟩ = x33.cell? ⟨q2, o, none⟩)) := hid (fun w' h => ⟨fun o => h.cells.1 _ o lpx, fun o => h.cells.1 _ o lbq⟩)
      refine wp_region_held_drew (S := fun w' => (∀ o, w'.cell? ⟨p, o, none⟩ = x33.cell? ⟨p, o, none⟩) ∧ (∀ o, w'.cell? ⟨q2, o, none⟩ = x33.cell? ⟨q2, o, none⟩)) (by kernel_rfl) (⟨fun o => rfl, fun o => rfl⟩) (fun hHeld => ?_)
      refine tkH 0 (some 103) ?_
      (try simp only [Act.put, sA, sB, sC])
      refine tkH 2 (some 105) ?_
      (try simp only [Act.put, sA, sB, sC])
      refine tkH 4 (some 107) ?_
      (try simp only [Act.put, sA, sB, sC])
      refine wpAnyH_one (i := 1) rfl (by kernel_rfl) (by rfl) (fun K hK => ?_)
      go_simp
      refine (FieldW_c f kx (some ⟨bgx, ogx, none⟩) (some ⟨gx, 0, none⟩) Ab Ac Al ng cg nw cx nb cb nc cc nl cl (by omega) (by omega) (by omega) (by omega) (by omega) _ (HSX.out.ev (hX33.trans (Ev.drew (Ev.refl _))))).mono ?_
      rintro e x40 ⟨⟨Bg40, dg40, Bw40, dw40, Bb40, db40, Bc40, dc40, Bl40, dl40, rfl, hc40⟩, hb40⟩
      have hV40 : Ev x33 x40 := Ev.trans (Ev.drew (Ev.refl _)) hb40
      refine hK.out _ _ (HSE.out _ hV40) (fun hHeld => ?_)
      clear hK K
      (try simp only [Act.put, sA, sB, sC])
      refine wpAnyH_one (i := 3) rfl (by kernel_rfl) (by rfl) (fun K hK => ?_)
      go_simp
      refine (Truth_c (some ⟨gC, 0, none⟩) (some ⟨gW, 0, none⟩) ng eg nw ew u (by omega) (by omega) _ (HTG40.out.ev hV40) (HTW40.out.ev hV40)).mono ?_
      rintro e x41 ⟨⟨T40, u40, S40, s40, rfl, ht40, hs40⟩, hb41⟩
      have hV41 : Ev x33 x41 := Ev.trans hV40 hb41
      refine hK.out _ _ (HSE.out _ hV41) (fun hHeld => ?_)
      clear hK K
      (try simp only [Act.put, sA, sB, sC])
      refine wpAnyH_one (i := 5) rfl (by kernel_rfl) (by rfl) (fun K hK => ?_)
      go_simp
      refine (list_c L pn dL plan (by omega) _ (HSL40.out.ev hV41)).mono ?_
      rintro e x42 ⟨⟨L40, dL40, rfl, ho40⟩, hb42⟩
      have hV42 : Ev x33 x42 := Ev.trans hV41 hb42
      refine hK.out _ _ (HSE.out _ hV42) (fun hHeld => ?_)
      clear hK K
      (try simp only [Act.put, sA, sB, sC])
      refine wpAnyH_one (i := 6) rfl (by kernel_rfl) (by rfl) (fun K hK => ?_)
      go_simp
      refine (PlayW_ok f kx Bg40 Bw40 Bb40 Bc40 Bl40 ng dg40 nw dw40 nb db40 nc dc40 nl dl40 T40 S40 ng u40 nw s40 u L40 pn dL40 plan hl0 _ ((hc40.ev hb41).ev hb42) (ht40.ev hb42) (hs40.ev hb42) (sl_own (enc := ics) (by decide) (ics_len _) (by omega) ho40) h0x hlu hplx).mono ?_
      rintro e x43 ⟨⟨CB40, cd40, rfl, hcr40⟩, hb43⟩
      have hV43 : Ev x33 x43 := Ev.trans hV42 hb43
      refine hK.out _ _ (HSE.out _ hV43) (fun hHeld => ?_)
      clear hK K
      (try simp only [Act.put, sA, sB, sC])
      refine tkH 7 (some 102) ?_
      (try simp only [Act.put, sA, sB, sC])
      refine tkH 8 (some 110) ?_
      (try simp only [Act.put, sA, sB, sC])
      refine tkH 9 (some 111) ?_
      (try simp only [Act.put, sA, sB, sC])
      refine tkH 10 (some 18) ?_
      (try simp only [Act.put, sA, sB, sC])
      refine tkH 11 (some 19) ?_
      (try simp only [Act.put, sA, sB, sC])
      refine wpAnyH_done (by kernel_rfl) ?_ _
      have hX43 := hX33.trans hV43
      have HCR1 := hid (HCR.out.ev hV43)
      have HCR2 := hid (sl_own (enc := crc) (by decide) (crc_len _) (by omega) hcr40)
      have HEW := hid (HE5.out.trans hX43)
      clear y0 y1 y2 y3 y4 y5 y6 y7 y8
      clear t2 t3 hHeld HSE hc40 ht40 hs40 ho40 hcr40 HTG40 HTW40 HSL30 HSL40 lpx lbq HCR
      go_wp2_with fail
      go_loopw [20] (fun i wr => ∃ k : Nat, i = .int .i64 k ∧ k ≤ pn ∧ Ev x43 wr) (fun i _ => pn - (intOf i).toNat)
      case atStart => exact ⟨0, rfl, by omega, Ev.refl _⟩
      case round =>
       obtain ⟨k, rfl, hk, hB⟩ := hrel
       obtain ⟨W8, hW8⟩ : ∃ x, x = wr := ⟨_, rfl⟩
       subst hW8
       by_cases hlt : k < pn
       ·
        obtain ⟨b6_, o6_, cr, hA6, hb6_, hc6, _, hcc6⟩ := HCR1.out.at_ hB hlt
        obtain ⟨b7_, o7_, cr2, hA7, hb7_, hc7, _, hcc7⟩ := HCR2.out.at_ hB hlt
        have hkl : k < plan.length := by have := HPLN.out; omega
        rw [M.play_at hkl] at hc6 hc7
        have hmc := HMC.out k hkl
        obtain rfl : M.crop (M.wetF f kx) t plan k = cr := by simpa using hc6
        obtain rfl : M.crop (M.wetF f kx) u plan k = cr2 := by simpa using hc7
        generalize M.crop (M.wetF f kx) t plan k = ca at hcc6 hmc
        generalize M.crop (M.wetF f kx) u plan k = cb at hcc7 hmc
        obtain ⟨aw, as_, ao⟩ := ca
        obtain ⟨bw, bs_, bo⟩ := cb
        dsimp only at hmc
        obtain ⟨g1, g2, rfl⟩ := hmc
        have e0 := hcc6 0 _ rfl
        have e1 := hcc6 1 _ rfl
        have e2 := hcc6 2 _ rfl
        have e3 := hcc7 0 _ rfl
        have e4 := hcc7 1 _ rfl
        have e5 := hcc7 2 _ rfl
        simp only [Nat.add_zero] at e0 e3
        have n1 : ¬ (bw < aw) := by omega
        have n2 : ¬ (bo < ao) := by omega
        have hcp6 := HCR1.out.cap
        have hcp7 := HCR2.out.cap
        subst hA6 hA7
        clear hcc6 hcc7 hc6 hc7
        go_wp2_with (go_quiet (fail))
        exact ⟨⟨k + 1, by go_num, by omega, hB.drewN _⟩, by simp [intOf]; omega⟩
       ·
        have hkp : pn = k := by omega
        subst hkp
        have hkn : ¬ ((pn : Int) < pn) := by omega
        go_wp2_with (first | (go_at_call 14; with_reducible refine (awake_c _).mono ?_; rintro e w99 ⟨rfl, hb99⟩) | (with_reducible refine ⟨trivial, ?_⟩))
        go_ret
        exact ⟨rfl, (HEW.out.trans hB).trans hb99⟩

theorem cropMore_c (f : M.Cf) (Ag Aw Ab Ac Al : Option Addr) (ng cg nw cw nb cb nc cc nl cl : Nat) (hl0 : -9223372036854775808 ≤ f.last) (a b d e_ : Int) (a0 : 0 ≤ a) (a1 : a < 65536) (b0 : 0 ≤ b) (b1 : b < 65536) (d0 : 0 ≤ d) (d1 : d < 256) (e0_ : 0 ≤ e_) (e1_ : e_ < 256) (hnw44 : nw ≤ 17592186044416) (w : World) (HW : Hid (Sl0 ics 1 w w.heap.size Aw nw f.wet)) (hs : M.small ng nw nb nc nl → CS w w.heap.size f Ag Aw Ab Ac Al ng cg nw cw nb cb nc cc nl cl) :
  Calls Try.prog 7 #[.agg #[.int .i64 f.last, .slice Ag ng cg, .slice Aw nw cw, .slice Ab nb cb, .slice Ac nc cc, .int .i64 f.ripe, .int .i64 f.late, .int .i64 f.trod, .slice Al nl cl], .int .u16 a, .int .u16 b, .int .u8 d, .int .u8 e_] w fun e w' => e = .returned (.bool true) ∧ Ev w w' := by
 have key : ∀ g : M.Cf, M.rdy g ng nw nb nc nl = true → (M.small ng nw nb nc nl) ∧ M.check g = 0 := fun g h => by
  unfold M.rdy at h
  rw [Bool.and_eq_true, Bool.and_eq_true, decide_eq_true_eq, decide_eq_true_eq] at h
  exact ⟨h.1.1, h.2⟩
 cases hr : M.rdy f ng nw nb nc nl with
 | false =>
  by_cases hz : nw = 0
  ·
   exact cropMore_z f Ag Aw Ab Ac Al ng cg nw cw nb cb nc cc nl cl hl0 a b d e_ a0 a1 b0 b1 d0 d1 e0_ e1_ hnw44 w HW hs hr hz
  ·
   exact cropMore_no1 f Ag Aw Ab Ac Al ng cg nw cw nb cb nc cc nl cl hl0 a b d e_ a0 a1 b0 b1 d0 d1 e0_ e1_ hnw44 w HW hs hr (by omega)
 | true =>
  obtain ⟨hsm, h0⟩ := key f hr
  have hz : 0 < nw := by
   have h1 := (hs hsm).w_.len
   have h2 := (M.valid_parts (M.check_ok h0).1).2.2.2.1
   have h3 := (M.valid_parts (M.check_ok h0).1).1
   omega
  cases hrx : M.rdy (M.wetF f (d.toNat % nw)) ng nw nb nc nl with
  | false => exact cropMore_no2 f Ag Aw Ab Ac Al ng cg nw cw nb cb nc cc nl cl hl0 a b d e_ a0 a1 b0 b1 d0 d1 e0_ e1_ hnw44 w HW hs hr hz (hid hrx)
  | true => exact cropMore_yes f Ag Aw Ab Ac Al ng cg nw cw nb cb nc cc nl cl hl0 a b d e_ a0 a1 b0 b1 d0 d1 e0_ e1_ hnw44 w HW (hid (hs hsm)) hsm h0 hr hz hrx (key _ hrx).2

end Go.Proofs.Ytffbkbcjddigdaa
